import Derived.Test.YthcohfdidcdchaaGreatDoorYClosed
import Derived.Deep.DeepWitnessRowRef
set_option linter.unusedSimpArgs false
set_option linter.unusedVariables false
set_option linter.defProp false
set_option maxHeartbeats 0
set_option maxRecDepth 100000
namespace Go.Proofs.YthcohfdidcdchaaGreatDoor
open Go.ChangeShapes Go.WideShapes Go.ChangeAt Go.RowKit Go.Deep
def putCells (c:jA):Obj->Obj
 | .cells _ t frozen=> .cells c t frozen
 |o=>o
def firstCells:jA:=(Go.Pinned.utf8FirstZ.map λn:Nat=>Value.int .u8 (n:Int)).toArray
def VO:jA:=(([128,191,160,191,128,159,144,191,128,143,0,0,0,0,0,0,0,0,0,0,0,0,0,0,0,0,0,0,0,0,0,0]:List Nat).map λn:Nat=>Value.int .u8 (n:Int)).toArray
def Z9:jA:=#[.iface 140 (.agg #[jG 7 51])]
def VW:jA:=(Lib.asciiSpaceTab.map λz=>Value.int .u8 z).toArray
def Wn:jA:=(Lib.whiteT.map λ(z:Nat)=>Value.int .u16 (z:Int)).toArray
noncomputable def laidWorld (os:Os):gm:=
 let n:=(World.settled Tryz.prog os).heap.size
 let a:=World.holding Tryz.prog os ⟨#[.cells Wn 316,.cells #[oo n 7 7,ji,fV 2] 313],#[],[]⟩
 {a with heap:=((((a.heap.modify 0 (putCells Z9)).modify 4 (putCells firstCells)).modify 5 (putCells VO)).modify 1 (putCells VW)).modify 2 (putCells #[gE (n+1)])}
def acd (a:Os):laidMetH Tryz.prog Rows.writtenRow.laid ((laidWorld a).forCall (λ_ _=>0) ⟨#[],#[gu jB],[]⟩).memory:=
 laidMetH_of_parts (laidMet_of_run' 10 (by kernel_rfl) (by kernel_rfl)) (by kernel_rfl)
def reads (b:Os) {H:Type} (ku:TypeId×gG->H):∃a,DataW.whole ku Tryz.prog ((laidWorld b).forCall (λ_ _=>0) ⟨#[],#[.string jB],[]⟩).memory Tryz.f3.params.toList Rows.writtenSpec.vars false #[Value.string jB].toList 8=some ([.lit (.string [])],[],a):=
 ⟨[],by kernel_rfl⟩
def lifted (f:Os) (a:f.Started) (H:Type) (ku:TypeId×gG->H) (F:Stop.Interp):
  ReturnsInHanded {} Tryz.checked f 3 .any ((OpenSpec.ofChange Rows.writtenSpec).preRow ku Tryz.prog Tryz.f3 Rows.writtenRow.domain false Rows.writtenRow.laid) (((OpenSpec.ofChange Rows.writtenSpec).at F).post ku Tryz.prog Tryz.f3 false true false false):=by
 obtain⟨g,p⟩:=reads f ku;refine returnsInHanded_of_row (C:=Tryz.checked) (s:=OpenSpec.ofChange Rows.writtenSpec) own a (by kernel_rfl) Tryz.func3
  (witness_row_atRef (enc:=ku) (C:=Tryz.checked) false (laidWorld f) #[gu jB] rfl (by kernel_rfl) (by kernel_rfl) (by kernel_rfl)
   (OpenSpec.preRow_of_cond 8 p (by kernel_rfl) (λk o=>by cases o) (by kernel_rfl) (acd f))) ?_
 intro W d c j l b e n _ _ i m h _;exact aa7 H ku W d c j l b e n i m h
def Qs:Rows.WrittenSaid:=
 OpenClaim.holds_of_cond 3 Tryz.f3 rfl rfl rfl rfl rfl rfl rfl ⟨rfl,rfl,rfl,rfl,rfl⟩ rfl rfl rfl rfl rfl (by kernel_rfl) Tryz.func3 LM
  (of_decide_eq_true (by kernel_rfl)) (by unfold Func.isWrapper;rw[gH (of_decide_eq_false (by kernel_rfl))];exact⟨rfl,rfl⟩)
  (λb a H ku _ F=>by rw[OpenClaim.pre_eq_preRow];exact lifted b a H ku F)
end Go.Proofs.YthcohfdidcdchaaGreatDoor
