import Derived.Test.YtcalkelgoekpfaaGreatDoorARow
set_option linter.unusedSimpArgs false
set_option linter.unusedVariables false
set_option linter.defProp false
set_option linter.unusedSectionVars false
set_option maxHeartbeats 0
set_option maxRecDepth 100000
namespace Go.Proofs.YtcalkelgoekpfaaGreatDoor
open Go.ChangeShapes Go.WideShapes Go.ChangeAt Go.RowKit Go.Deep
open Option renaming some→H,none→F
open Bool renaming true→C,false→I
def anl{a b:Bool}(c:a=C)(d:b=C):(a&&b)=C:=by rw[c,d];rfl
def Px:joinedFacts Tryz.pinned.checked.prog 3 Tryz.f3 (OpenSpec.ofChange Rows.againSpec).bare Rows.againRow=C:=by
 unfold joinedFacts
 repeat' (with_reducible refine anl ?_ ?_)
 all_goals as_aux_lemma=>kernel_rfl
end Go.Proofs.YtcalkelgoekpfaaGreatDoor
