import Derived.Test.YtcalkelgoekpfaaGreatDoorAClosed
import Derived.Deep.DeepWitnessRowRef
set_option linter.unusedSimpArgs false
set_option linter.unusedVariables false
set_option linter.defProp false
set_option linter.unusedSectionVars false
set_option maxHeartbeats 0
set_option maxRecDepth 100000
namespace Go.Proofs.YtcalkelgoekpfaaGreatDoor
open Go.ChangeShapes Go.WideShapes Go.ChangeAt Go.RowKit Go.Deep
open Option renaming some→H,none→F
open Bool renaming true→C,false→I
open _root_.Array renaming size→zq
def putCells(c:io):Obj->Obj
 | .cells _ t frozen=> .cells c t frozen
 |o=>o
def firstCells:io:=(Go.Pinned.utf8FirstZ.map λn:Nat=>Value.int .u8 (n:Int)).toArray
def Xr:io:=(([128,191,160,191,128,159,144,191,128,143,0,0,0,0,0,0,0,0,0,0,0,0,0,0,0,0,0,0,0,0,0,0]:List Nat).map λn:Nat=>Value.int .u8 (n:Int)).toArray
def abP:io:=#[.iface 143 (.agg #[gU 7 54])]
def XB:io:=(Lib.asciiSpaceTab.map λz=>Value.int .u8 z).toArray
def XO:io:=(Lib.whiteT.map λ(z:Nat)=>Value.int .u16 (z:Int)).toArray
noncomputable def laidWorld(os:Os):J:=
 let n:=zq (World.settled Tryz.prog os).heap
 let a:=World.holding Tryz.prog os ⟨#[.cells XO 318,.cells #[lO n 7 7,gq,G 2] 315],#[],[]⟩
 {a with heap:=((((a.heap.modify 0 (putCells abP)).modify 4 (putCells firstCells)).modify 5 (putCells Xr)).modify 1 (putCells XB)).modify 2 (putCells #[dq (n+1)])}
def ad5(a:Os):laidMetH Tryz.prog Rows.againRow.laid ((laidWorld a).forCall (λ_ _=>0) ⟨#[],#[Y iJ],[]⟩).memory:=
 laidMetH_of_parts (laidMet_of_run' 10 (by kernel_rfl) (by kernel_rfl)) (by kernel_rfl)
def reads(b:Os){c:Type}(jl:TypeId×dB->c):∃a,DataW.whole jl Tryz.prog ((laidWorld b).forCall (λ_ _=>0) ⟨#[],#[.string iJ],[]⟩).memory Tryz.f3.params.toList Rows.againSpec.vars I #[Value.string iJ].toList 8=H ([.lit (.string [])],[],a):=
 ⟨[],rfl⟩
def VF:Rows.AgainSaid:=
 OpenClaim.holds_of_cond 3 Tryz.f3 rfl rfl rfl rfl rfl rfl rfl ⟨rfl,rfl,rfl,rfl,rfl⟩ rfl rfl rfl rfl rfl (by kernel_rfl) Tryz.func3 Px
  (of_decide_eq_true (by kernel_rfl)) (by unfold Func.isWrapper;rw[di (of_decide_eq_false (by kernel_rfl))];exact⟨D,D⟩)
  (λi a r jl _ q=>by rw[OpenClaim.pre_eq_preRow];exact(by
    obtain⟨f,p⟩:=reads i jl;refine returnsInHanded_of_row (C:=Tryz.checked) (s:=OpenSpec.ofChange Rows.againSpec) own a (by kernel_rfl) Tryz.func3
     (witness_row_atRef (enc:=jl) (C:=Tryz.checked) I (laidWorld i) #[Y iJ] rfl (by kernel_rfl) (by kernel_rfl) (by kernel_rfl)
      (OpenSpec.preRow_of_cond 8 p (by kernel_rfl) (λk o=>by cases o) (by kernel_rfl) (ad5 i))) ?_
    intro W d c j l b e n _ _ h m g _;exact acW r jl W d c j l b e n h m g))
end Go.Proofs.YtcalkelgoekpfaaGreatDoor
