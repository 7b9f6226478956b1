import Derived.Test.YtcalkelgoekpfaaGreatDoorAOCard
set_option linter.unusedSimpArgs false
set_option linter.unusedVariables false
set_option linter.defProp false
set_option linter.unusedSectionVars false
set_option maxHeartbeats 0
set_option maxRecDepth 100000
namespace Go.Proofs.YtcalkelgoekpfaaGreatDoor
open Go.ChangeShapes Go.WideShapes Go.ChangeAt Go.RowKit Go.Deep
open Option renaming some→H,none→F
open Bool renaming true→C,false→I
def Sc(f:FuncId)(a:Func)(d:Tryz.pinned.checked.prog.funcNamed Rows.againRow.func=H f)(b:Tryz.pinned.checked.prog.funcs[f]?=H a):C=Tryz.pinned.checked.prog.looks []/\∀(j:Nat)t,a.params[j]?=H t->Tryz.pinned.checked.prog.wantsStandIn t=I:=by
 obtain rfl:f=3:=jS ((show Tryz.prog.funcNamed Rows.againRow.func=H 3 by kernel_rfl).symm.trans d)|>.symm;obtain rfl:a=Tryz.f3:=(jS (Tryz.func3.symm.trans b)).symm;refine⟨by as_aux_lemma=>kernel_rfl,λj t c=>?_⟩;rw[Tryz.params3]at c;obtain rfl:t=9:=by simpa using Array.mem_of_getElem? c
 exact(show Tryz.prog.wantsStandIn 9=I by kernel_rfl)
theorem again_card:Rows.AgainCardSaid:=
 Claim7.holds_tied_plain_at .later [] _ _ _ _ VF (λ_ h=>by cases h) (by as_aux_lemma=>kernel_rfl) (λ_ h=>by cases h) again_row_tie rfl ⟨rfl,rfl⟩ (by as_aux_lemma=>kernel_rfl) rfl Sc (by as_aux_lemma=>kernel_rfl)
end Go.Proofs.YtcalkelgoekpfaaGreatDoor
