import Derived.Test.YtofkkmcdggkkpaaGreatDoorHClosed
import Derived.Deep.DeepWitnessRowRef
set_option linter.unusedSimpArgs false
set_option linter.unusedVariables false
set_option linter.defProp false
set_option maxHeartbeats 0
set_option maxRecDepth 100000
namespace Go.Proofs.YtofkkmcdggkkpaaGreatDoor
open Go.ChangeShapes Go.WideShapes Go.ChangeAt Go.RowKit Go.Deep
def putCells (c:jM):Obj->Obj
 | .cells _ t frozen=> .cells c t frozen
 |o=>o
def firstCells:jM:=(Go.Pinned.utf8FirstZ.map λn:Nat=>Value.int .u8 (n:Int)).toArray
def Tk:jM:=(([128,191,160,191,128,159,144,191,128,143,0,0,0,0,0,0,0,0,0,0,0,0,0,0,0,0,0,0,0,0,0,0]:List Nat).map λn:Nat=>Value.int .u8 (n:Int)).toArray
def Xh:jM:=#[.iface 112 (.agg #[jG 7 46])]
def Ts:jM:=(Lib.asciiSpaceTab.map λz=>Value.int .u8 z).toArray
def TJ:jM:=(Lib.whiteT.map λ(z:Nat)=>Value.int .u16 (z:Int)).toArray
noncomputable def laidWorld (os:Os):gv:=
 let n:=(World.settled Tryz.prog os).heap.size
 let a:=World.holding Tryz.prog os ⟨#[.cells TJ 320,.cells #[oY n 7 7,jX,gn 2] 317],#[],[]⟩
 {a with heap:=((((a.heap.modify 0 (putCells Xh)).modify 4 (putCells firstCells)).modify 5 (putCells Tk)).modify 1 (putCells Ts)).modify 2 (putCells #[gJ (n+1)])}
def Y1 (a:Os):laidMetH Tryz.prog Rows.haltedRow.laid ((laidWorld a).forCall (λ_ _=>0) ⟨#[],#[gH kI,gn 0],[]⟩).memory:=
 laidMetH_of_parts (laidMet_of_run' 10 (by kernel_rfl) (by kernel_rfl)) (by kernel_rfl)
def reads (b:Os) {H:Type} (kh:TypeId×gO->H):∃a,DataW.whole kh Tryz.prog ((laidWorld b).forCall (λ_ _=>0) ⟨#[],#[.string kI,.int .i64 0],[]⟩).memory Tryz.f3.params.toList Rows.haltedSpec.vars false #[Value.string kI,.int .i64 0].toList 8=some ([.lit (.string []),.lit (.int .i64 0)],[],a):=
 ⟨[],by kernel_rfl⟩
def lifted (f:Os) (a:f.Started) (H:Type) (kh:TypeId×gO->H) (F:Stop.Interp):
  ReturnsInHanded {} Tryz.checked f 3 .any ((OpenSpec.ofChange Rows.haltedSpec).preRow kh Tryz.prog Tryz.f3 Rows.haltedRow.domain false Rows.haltedRow.laid) (((OpenSpec.ofChange Rows.haltedSpec).at F).post kh Tryz.prog Tryz.f3 false true false false):=by
 obtain⟨g,p⟩:=reads f kh;refine returnsInHanded_of_row (C:=Tryz.checked) (s:=OpenSpec.ofChange Rows.haltedSpec) own a (by kernel_rfl) Tryz.func3
  (witness_row_atRef (enc:=kh) (C:=Tryz.checked) false (laidWorld f) #[gH kI,gn 0] rfl (by kernel_rfl) (by kernel_rfl) (by kernel_rfl)
   (OpenSpec.preRow_of_cond 8 p (by kernel_rfl) (λk o=>by cases o) (by kernel_rfl) (Y1 f))) ?_
 intro W d c j l b e n _ _ i m h _;exact Yb H kh W d c j l b e n i m h
def PK:Rows.HaltedSaid:=
 OpenClaim.holds_of_cond 3 Tryz.f3 rfl rfl rfl rfl rfl rfl rfl ⟨rfl,rfl,rfl,rfl,rfl⟩ rfl rfl rfl rfl rfl (by kernel_rfl) Tryz.func3 KY
  (of_decide_eq_true (by kernel_rfl)) (by unfold Func.isWrapper;rw[gQ (of_decide_eq_false (by kernel_rfl))];exact⟨rfl,rfl⟩)
  (λb a H kh _ F=>by rw[OpenClaim.pre_eq_preRow];exact lifted b a H kh F)
end Go.Proofs.YtofkkmcdggkkpaaGreatDoor
