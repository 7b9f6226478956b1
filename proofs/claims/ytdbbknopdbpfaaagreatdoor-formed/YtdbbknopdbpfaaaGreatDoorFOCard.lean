import Derived.Test.YtdbbknopdbpfaaaGreatDoorFClosed
import Derived.Deep.DeepWitnessRowRef
set_option linter.unusedSimpArgs false
set_option linter.unusedVariables false
set_option linter.defProp false
set_option maxHeartbeats 0
set_option maxRecDepth 100000
namespace Go.Proofs.YtdbbknopdbpfaaaGreatDoor
open Go.ChangeShapes Go.WideShapes Go.ChangeAt Go.RowKit Go.Deep
def putCells(c:jL):Obj->Obj
 | .cells _ t frozen=> .cells c t frozen
 |o=>o
def firstCells:jL:=(Go.Pinned.utf8FirstZ.map λn:Nat=>Value.int .u8 (n:Int)).toArray
def Zu:jL:=(([128,191,160,191,128,159,144,191,128,143,0,0,0,0,0,0,0,0,0,0,0,0,0,0,0,0,0,0,0,0,0,0]:List Nat).map λn:Nat=>Value.int .u8 (n:Int)).toArray
def adQ:jL:=#[.iface 141 (.agg #[j5 7 52])]
def ZC:jL:=(Lib.asciiSpaceTab.map λz=>Value.int .u8 z).toArray
def ZT:jL:=(Lib.whiteT.map λ(z:Nat)=>Value.int .u16 (z:Int)).toArray
noncomputable def laidWorld(os:Os):J:=
 let n:=(World.settled Tryz.prog os).heap.size
 let a:=World.holding Tryz.prog os ⟨#[.cells ZT 315,.cells #[nX n 7 7,jD,G 2] 312],#[],[]⟩
 {a with heap:=((((a.heap.modify 0 (putCells adQ)).modify 4 (putCells firstCells)).modify 5 (putCells Zu)).modify 1 (putCells ZC)).modify 2 (putCells #[gI (n+1)])}
def afX(a:Os):laidMetH Tryz.prog Rows.formedRow.laid ((laidWorld a).forCall (λ_ _=>0) ⟨#[],#[Y kB],[]⟩).memory:=
 laidMetH_of_parts (laidMet_of_run' 10 (by kernel_rfl) (by kernel_rfl)) (by kernel_rfl)
def reads(b:Os){H:Type}(kX:TypeId×gP->H):∃a,DataW.whole kX Tryz.prog ((laidWorld b).forCall (λ_ _=>0) ⟨#[],#[.string kB],[]⟩).memory Tryz.f3.params.toList Rows.formedSpec.vars false #[Value.string kB].toList 8=some ([.lit (.string [])],[],a):=
 ⟨[],by kernel_rfl⟩
def lifted(f:Os)(a:f.Started)(H:Type)(kX:TypeId×gP->H)(F:Stop.Interp):
  ReturnsInHanded {} Tryz.checked f 3 .any ((OpenSpec.ofChange Rows.formedSpec).preRow kX Tryz.prog Tryz.f3 Rows.formedRow.domain false Rows.formedRow.laid) (((OpenSpec.ofChange Rows.formedSpec).at F).post kX Tryz.prog Tryz.f3 false true false false):=by
 obtain⟨g,p⟩:=reads f kX;refine returnsInHanded_of_row (C:=Tryz.checked) (s:=OpenSpec.ofChange Rows.formedSpec) own a (by kernel_rfl) Tryz.func3
  (witness_row_atRef (enc:=kX) (C:=Tryz.checked) false (laidWorld f) #[Y kB] rfl (by kernel_rfl) (by kernel_rfl) (by kernel_rfl)
   (OpenSpec.preRow_of_cond 8 p (by kernel_rfl) (λk o=>by cases o) (by kernel_rfl) (afX f))) ?_
 intro W d c j l b e n _ _ i m h _;exact aeT H kX W d c j l b e n i m h
def UZ:Rows.FormedSaid:=
 OpenClaim.holds_of_cond 3 Tryz.f3 rfl rfl rfl rfl rfl rfl rfl ⟨rfl,rfl,rfl,rfl,rfl⟩ rfl rfl rfl rfl rfl (by kernel_rfl) Tryz.func3 Ow
  (of_decide_eq_true (by kernel_rfl)) (by unfold Func.isWrapper;rw[Xx (of_decide_eq_false (by kernel_rfl))];exact⟨rfl,rfl⟩)
  (λb a H kX _ F=>by rw[OpenClaim.pre_eq_preRow];exact lifted b a H kX F)
end Go.Proofs.YtdbbknopdbpfaaaGreatDoor
