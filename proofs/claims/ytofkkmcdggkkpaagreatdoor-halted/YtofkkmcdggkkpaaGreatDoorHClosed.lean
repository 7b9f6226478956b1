import Derived.Test.YtofkkmcdggkkpaaGreatDoorHRow
set_option linter.unusedSimpArgs false
set_option linter.unusedVariables false
set_option linter.defProp false
set_option maxHeartbeats 0
set_option maxRecDepth 100000
namespace Go.Proofs.YtofkkmcdggkkpaaGreatDoor
open Go.ChangeShapes Go.WideShapes Go.ChangeAt Go.RowKit Go.Deep
def afz {a b:Bool} (c:a=true) (d:b=true):(a&&b)=true:=by rw[c,d];rfl
def KY:joinedFacts Tryz.pinned.checked.prog 3 Tryz.f3 (OpenSpec.ofChange Rows.haltedSpec).bare Rows.haltedRow=true:=by
 unfold joinedFacts
 repeat' (with_reducible refine afz ?_ ?_)
 all_goals as_aux_lemma=>kernel_rfl
end Go.Proofs.YtofkkmcdggkkpaaGreatDoor
