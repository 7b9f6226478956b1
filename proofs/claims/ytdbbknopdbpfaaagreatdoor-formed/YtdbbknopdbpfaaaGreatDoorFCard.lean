import Derived.Test.YtdbbknopdbpfaaaGreatDoorFOCard
set_option linter.unusedSimpArgs false
set_option linter.unusedVariables false
set_option linter.defProp false
set_option maxHeartbeats 0
set_option maxRecDepth 100000
namespace Go.Proofs.YtdbbknopdbpfaaaGreatDoor
open Go.ChangeShapes Go.WideShapes Go.ChangeAt Go.RowKit Go.Deep
def R4(f:FuncId)(a:Func)(d:Tryz.pinned.checked.prog.funcNamed Rows.formedRow.func=some f)(b:Tryz.pinned.checked.prog.funcs[f]?=some a):
  true=Tryz.pinned.checked.prog.looks []/\∀(j:Nat)t,a.params[j]?=some t->Tryz.pinned.checked.prog.wantsStandIn t=false:=by
 obtain rfl:f=3:=Ki ((show Tryz.prog.funcNamed Rows.formedRow.func=some 3 by kernel_rfl).symm.trans d)|>.symm;obtain rfl:a=Tryz.f3:=(Ki (Tryz.func3.symm.trans b)).symm;refine⟨by as_aux_lemma=>kernel_rfl,λj t c=>?_⟩;rw[Tryz.params3]at c;obtain rfl:t=9:=by simpa using Array.mem_of_getElem? c
 exact(show Tryz.prog.wantsStandIn 9=false by kernel_rfl)
theorem formed_card:Rows.FormedCardSaid:=
 Claim7.holds_tied_plain_at .later [] _ _ _ _ UZ (λ_ h=>by cases h) (by as_aux_lemma=>kernel_rfl) (λ_ h=>by cases h) formed_row_tie rfl ⟨rfl,rfl⟩ (by as_aux_lemma=>kernel_rfl) rfl R4 (by as_aux_lemma=>kernel_rfl)
end Go.Proofs.YtdbbknopdbpfaaaGreatDoor
