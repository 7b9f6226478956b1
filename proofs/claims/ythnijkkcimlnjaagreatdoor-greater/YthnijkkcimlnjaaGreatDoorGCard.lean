import Derived.Test.YthnijkkcimlnjaaGreatDoorGOCard
set_option linter.unusedSimpArgs false
set_option linter.unusedVariables false
set_option linter.defProp false
set_option maxHeartbeats 0
set_option maxRecDepth 100000
namespace Go.Proofs.YthnijkkcimlnjaaGreatDoor
open Go.ChangeShapes Go.WideShapes Go.ChangeAt Go.RowKit Go.Deep
def LV(f:FuncId)(a:Func)(d:Tryz.pinned.checked.prog.funcNamed Rows.greaterRow.func=some f)(b:Tryz.pinned.checked.prog.funcs[f]?=some a):
  true=Tryz.pinned.checked.prog.looks []/\∀(j:Nat)t,a.params[j]?=some t->Tryz.pinned.checked.prog.wantsStandIn t=false:=by
 obtain rfl:f=3:=je ((show Tryz.prog.funcNamed Rows.greaterRow.func=some 3 by kernel_rfl).symm.trans d)|>.symm;obtain rfl:a=Tryz.f3:=(je (Tryz.func3.symm.trans b)).symm;refine⟨by as_aux_lemma=>kernel_rfl,λj t c=>?_⟩;rw[Tryz.params3]at c;have e:t=9\/t=3:=by have:=Array.mem_of_getElem? c;simp at this;omega
 rcases e with rfl|rfl;exact(show Tryz.prog.wantsStandIn 9=false by kernel_rfl);exact(show Tryz.prog.wantsStandIn 3=false by kernel_rfl)
theorem greater_card:Rows.GreaterCardSaid:=
 Claim7.holds_tied_plain_at .later [] _ _ _ _ Pn (λ_ h=>by cases h) (by as_aux_lemma=>kernel_rfl) (λ_ h=>by cases h) greater_row_tie rfl ⟨rfl,rfl⟩ (by as_aux_lemma=>kernel_rfl) rfl LV (by as_aux_lemma=>kernel_rfl)
end Go.Proofs.YthnijkkcimlnjaaGreatDoor
