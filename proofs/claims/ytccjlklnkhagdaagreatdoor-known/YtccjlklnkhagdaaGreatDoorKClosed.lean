import Derived.Test.YtccjlklnkhagdaaGreatDoorKRow
set_option linter.unusedSimpArgs false
set_option linter.unusedVariables false
set_option linter.defProp false
set_option maxHeartbeats 0
set_option maxRecDepth 100000
namespace Go.Proofs.YtccjlklnkhagdaaGreatDoor
open Go.ChangeShapes Go.WideShapes Go.ChangeAt Go.RowKit Go.Deep
def aeR {a b:Bool} (c:a=true) (d:b=true):(a&&b)=true:=by rw[c,d];rfl
def M0:joinedFacts Tryz.pinned.checked.prog 3 Tryz.f3 (OpenSpec.ofChange Rows.knownSpec).bare Rows.knownRow=true:=by
 unfold joinedFacts
 repeat' (with_reducible refine aeR ?_ ?_)
 all_goals as_aux_lemma=>kernel_rfl
end Go.Proofs.YtccjlklnkhagdaaGreatDoor
