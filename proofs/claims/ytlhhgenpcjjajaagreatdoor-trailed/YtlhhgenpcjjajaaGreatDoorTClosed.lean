import Derived.Test.YtlhhgenpcjjajaaGreatDoorTRow
set_option linter.unusedSimpArgs false
set_option linter.unusedVariables false
set_option linter.defProp false
set_option maxHeartbeats 0
set_option maxRecDepth 100000
namespace Go.Proofs.YtlhhgenpcjjajaaGreatDoor
open Go.ChangeShapes Go.WideShapes Go.ChangeAt Go.RowKit Go.Deep
def agF {a b:Bool} (c:a=true) (d:b=true):(a&&b)=true:=by rw[c,d];rfl
def aaf:joinedFacts Tryz.pinned.checked.prog 4 Tryz.f4 (OpenSpec.ofChange Rows.trailedSpec).bare Rows.trailedRow=true:=by
 unfold joinedFacts
 repeat' (with_reducible refine agF ?_ ?_)
 all_goals as_aux_lemma=>kernel_rfl
end Go.Proofs.YtlhhgenpcjjajaaGreatDoor
