import Derived.Test.YthnijkkcimlnjaaGreatDoorGRow
set_option linter.unusedSimpArgs false
set_option linter.unusedVariables false
set_option linter.defProp false
set_option maxHeartbeats 0
set_option maxRecDepth 100000
namespace Go.Proofs.YthnijkkcimlnjaaGreatDoor
open Go.ChangeShapes Go.WideShapes Go.ChangeAt Go.RowKit Go.Deep
def amR{a b:Bool}(c:a=true)(d:b=true):(a&&b)=true:=by rw[c,d];rfl
def Jr:joinedFacts Tryz.pinned.checked.prog 3 Tryz.f3 (OpenSpec.ofChange Rows.greaterSpec).bare Rows.greaterRow=true:=by
 unfold joinedFacts
 repeat' (with_reducible refine amR ?_ ?_)
 all_goals as_aux_lemma=>kernel_rfl
end Go.Proofs.YthnijkkcimlnjaaGreatDoor
