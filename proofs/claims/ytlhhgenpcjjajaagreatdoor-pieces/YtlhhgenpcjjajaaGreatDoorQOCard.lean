import Derived.Test.YtlhhgenpcjjajaaGreatDoorQClosed
import Derived.Deep.DeepWitnessRowRef
set_option linter.unusedSimpArgs false
set_option linter.unusedVariables false
set_option linter.defProp false
set_option maxHeartbeats 0
set_option maxRecDepth 100000
namespace Go.Proofs.YtlhhgenpcjjajaaGreatDoor
open Go.ChangeShapes Go.WideShapes Go.ChangeAt Go.RowKit Go.Deep
def putCells (c:jN):Obj->Obj
 | .cells _ t frozen=> .cells c t frozen
 |o=>o
def firstCells:jN:=(Go.Pinned.utf8FirstZ.map λn:Nat=>Value.int .u8 (n:Int)).toArray
def Uo:jN:=(([128,191,160,191,128,159,144,191,128,143,0,0,0,0,0,0,0,0,0,0,0,0,0,0,0,0,0,0,0,0,0,0]:List Nat).map λn:Nat=>Value.int .u8 (n:Int)).toArray
def Yi:jN:=#[.iface 145 (.agg #[jO 7 59])]
def Uu:jN:=(Lib.asciiSpaceTab.map λz=>Value.int .u8 z).toArray
def UJ:jN:=(Lib.whiteT.map λ(z:Nat)=>Value.int .u16 (z:Int)).toArray
noncomputable def laidWorld (os:Os):gx:=
 let n:=(World.settled Tryz.prog os).heap.size
 let a:=World.holding Tryz.prog os ⟨#[.cells UJ 322,.cells #[oe n 7 7,jc,gh 2] 319],#[],[]⟩
 {a with heap:=((((a.heap.modify 0 (putCells Yi)).modify 4 (putCells firstCells)).modify 5 (putCells Uo)).modify 1 (putCells Uu)).modify 2 (putCells #[gN (n+1)])}
def Z8 (a:Os):laidMetH Tryz.prog Rows.piecesRow.laid ((laidWorld a).forCall (λ_ _=>0) ⟨#[],#[gH jz,gh 0,gh 0,gh 0],[]⟩).memory:=
 laidMetH_of_parts (laidMet_of_run' 10 (by kernel_rfl) (by kernel_rfl)) (by kernel_rfl)
def reads (b:Os) {H:Type} (kI:TypeId×gQ->H):∃a,DataW.whole kI Tryz.prog ((laidWorld b).forCall (λ_ _=>0) ⟨#[],#[.string jz,.int .i64 0,.int .i64 0,.int .i64 0],[]⟩).memory Tryz.f3.params.toList Rows.piecesSpec.vars false #[Value.string jz,.int .i64 0,.int .i64 0,.int .i64 0].toList 8=some ([.lit (.string []),.lit (.int .i64 0),.lit (.int .i64 0),.lit (.int .i64 0)],[],a):=
 ⟨[],by kernel_rfl⟩
def lifted (f:Os) (a:f.Started) (H:Type) (kI:TypeId×gQ->H) (F:Stop.Interp):
  ReturnsInHanded {} Tryz.checked f 3 .any ((OpenSpec.ofChange Rows.piecesSpec).preRow kI Tryz.prog Tryz.f3 Rows.piecesRow.domain false Rows.piecesRow.laid) (((OpenSpec.ofChange Rows.piecesSpec).at F).post kI Tryz.prog Tryz.f3 false true false false):=by
 obtain⟨g,p⟩:=reads f kI;refine returnsInHanded_of_row (C:=Tryz.checked) (s:=OpenSpec.ofChange Rows.piecesSpec) own a (by kernel_rfl) Tryz.func3
  (witness_row_atRef (enc:=kI) (C:=Tryz.checked) false (laidWorld f) #[gH jz,gh 0,gh 0,gh 0] rfl (by kernel_rfl) (by kernel_rfl) (by kernel_rfl)
   (OpenSpec.preRow_of_cond 8 p (by kernel_rfl) (λk o=>by cases o) (by kernel_rfl) (Z8 f))) ?_
 intro W d c j l b e n _ _ i m h _;exact Za H kI W d c j l b e n i m h
def Ro:Rows.PiecesSaid:=
 OpenClaim.holds_of_cond 3 Tryz.f3 rfl rfl rfl rfl rfl rfl rfl ⟨rfl,rfl,rfl,rfl,rfl⟩ rfl rfl rfl rfl rfl (by kernel_rfl) Tryz.func3 LR
  (of_decide_eq_true (by kernel_rfl)) (by unfold Func.isWrapper;rw[gV (of_decide_eq_false (by kernel_rfl))];exact⟨rfl,rfl⟩)
  (λb a H kI _ F=>by rw[OpenClaim.pre_eq_preRow];exact lifted b a H kI F)
end Go.Proofs.YtlhhgenpcjjajaaGreatDoor
