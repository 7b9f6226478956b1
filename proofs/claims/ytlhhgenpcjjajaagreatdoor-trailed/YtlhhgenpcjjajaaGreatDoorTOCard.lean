import Derived.Test.YtlhhgenpcjjajaaGreatDoorTClosed
import Derived.Deep.DeepWitnessRowRef
set_option linter.unusedSimpArgs false
set_option linter.unusedVariables false
set_option linter.defProp false
set_option maxHeartbeats 0
set_option maxRecDepth 100000
namespace Go.Proofs.YtlhhgenpcjjajaaGreatDoor
open Go.ChangeShapes Go.WideShapes Go.ChangeAt Go.RowKit Go.Deep
def putCells (c:jB):Obj->Obj
 | .cells _ t frozen=> .cells c t frozen
 |o=>o
def firstCells:jB:=(Go.Pinned.utf8FirstZ.map λn:Nat=>Value.int .u8 (n:Int)).toArray
def abp:jB:=(([128,191,160,191,128,159,144,191,128,143,0,0,0,0,0,0,0,0,0,0,0,0,0,0,0,0,0,0,0,0,0,0]:List Nat).map λn:Nat=>Value.int .u8 (n:Int)).toArray
def abS:jB:=#[.iface 145 (.agg #[jp 7 59])]
def aaK:jB:=(Lib.asciiSpaceTab.map λz=>Value.int .u8 z).toArray
def abo:jB:=(Lib.whiteT.map λ(z:Nat)=>Value.int .u16 (z:Int)).toArray
noncomputable def laidWorld (os:Os):fO:=
 let n:=(World.settled Tryz.prog os).heap.size
 let a:=World.holding Tryz.prog os ⟨#[.cells abo 322,.cells #[mW n 7 7,iQ,fK 2] 319],#[],[]⟩
 {a with heap:=((((a.heap.modify 0 (putCells abS)).modify 4 (putCells firstCells)).modify 5 (putCells abp)).modify 1 (putCells aaK)).modify 2 (putCells #[fW (n+1)])}
def acY (a:Os):laidMetH Tryz.prog Rows.trailedRow.laid ((laidWorld a).forCall (λ_ _=>0) ⟨#[],#[fR js],[]⟩).memory:=
 laidMetH_of_parts (laidMet_of_run' 10 (by kernel_rfl) (by kernel_rfl)) (by kernel_rfl)
def reads (b:Os) {H:Type} (kK:TypeId×gh->H):∃a,DataW.whole kK Tryz.prog ((laidWorld b).forCall (λ_ _=>0) ⟨#[],#[.string js],[]⟩).memory Tryz.f4.params.toList Rows.trailedSpec.vars false #[Value.string js].toList 8=some ([.lit (.string [])],[],a):=
 ⟨[],by kernel_rfl⟩
def lifted (f:Os) (a:f.Started) (H:Type) (kK:TypeId×gh->H) (F:Stop.Interp):
  ReturnsInHanded {} Tryz.checked f 4 .any ((OpenSpec.ofChange Rows.trailedSpec).preRow kK Tryz.prog Tryz.f4 Rows.trailedRow.domain false Rows.trailedRow.laid) (((OpenSpec.ofChange Rows.trailedSpec).at F).post kK Tryz.prog Tryz.f4 false true false false):=by
 obtain⟨g,p⟩:=reads f kK;refine returnsInHanded_of_row (C:=Tryz.checked) (s:=OpenSpec.ofChange Rows.trailedSpec) own a (by kernel_rfl) Tryz.func4
  (witness_row_atRef (enc:=kK) (C:=Tryz.checked) false (laidWorld f) #[fR js] rfl (by kernel_rfl) (by kernel_rfl) (by kernel_rfl)
   (OpenSpec.preRow_of_cond 8 p (by kernel_rfl) (λk o=>by cases o) (by kernel_rfl) (acY f))) ?_
 intro W d c j l b e n _ _ i m h _;exact ac4 H kK W d c j l b e n i m h
def aay:Rows.TrailedSaid:=
 OpenClaim.holds_of_cond 4 Tryz.f4 rfl rfl rfl rfl rfl rfl rfl ⟨rfl,rfl,rfl,rfl,rfl⟩ rfl rfl rfl rfl rfl (by kernel_rfl) Tryz.func4 aaf
  (of_decide_eq_true (by kernel_rfl)) (by unfold Func.isWrapper;rw[gn (of_decide_eq_false (by kernel_rfl))];exact⟨rfl,rfl⟩)
  (λb a H kK _ F=>by rw[OpenClaim.pre_eq_preRow];exact lifted b a H kK F)
end Go.Proofs.YtlhhgenpcjjajaaGreatDoor
