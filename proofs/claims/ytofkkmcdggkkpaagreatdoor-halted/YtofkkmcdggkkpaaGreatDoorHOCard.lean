import Derived.Test.YtofkkmcdggkkpaaGreatDoorHClosed
import Derived.Deep.DeepWitnessRowRef
set_option linter.unusedSimpArgs false
set_option linter.unusedVariables false
set_option linter.defProp false
set_option maxHeartbeats 0
set_option maxRecDepth 100000
namespace Go.Proofs.YtofkkmcdggkkpaaGreatDoor
open Go.ChangeShapes Go.WideShapes Go.ChangeAt Go.RowKit Go.Deep
def putCells (c:jO):Obj->Obj
 | .cells _ t frozen=> .cells c t frozen
 |o=>o
def firstCells:jO:=(Go.Pinned.utf8FirstZ.map λn:Nat=>Value.int .u8 (n:Int)).toArray
def S9:jO:=(([128,191,160,191,128,159,144,191,128,143,0,0,0,0,0,0,0,0,0,0,0,0,0,0,0,0,0,0,0,0,0,0]:List Nat).map λn:Nat=>Value.int .u8 (n:Int)).toArray
def WU:jO:=#[.iface 112 (.agg #[jF 7 46])]
def Tg:jO:=(Lib.asciiSpaceTab.map λz=>Value.int .u8 z).toArray
def Ty:jO:=(Lib.whiteT.map λ(z:Nat)=>Value.int .u16 (z:Int)).toArray
noncomputable def laidWorld (os:Os):gw:=
 let n:=(World.settled Tryz.prog os).heap.size
 let a:=World.holding Tryz.prog os ⟨#[.cells Ty 320,.cells #[rh n 7 7,jX,gp 2] 317],#[],[]⟩
 {a with heap:=((((a.heap.modify 0 (putCells WU)).modify 4 (putCells firstCells)).modify 5 (putCells S9)).modify 1 (putCells Tg)).modify 2 (putCells #[gL (n+1)])}
def YM (a:Os):laidMetH Tryz.prog Rows.haltedRow.laid ((laidWorld a).forCall (λ_ _=>0) ⟨#[],#[gI kJ,gp 0],[]⟩).memory:=
 laidMetH_of_parts (laidMet_of_run' 10 (by kernel_rfl) (by kernel_rfl)) (by kernel_rfl)
def reads (b:Os) {H:Type} (kh:TypeId×gP->H):∃a,DataW.whole kh Tryz.prog ((laidWorld b).forCall (λ_ _=>0) ⟨#[],#[.string kJ,.int .i64 0],[]⟩).memory Tryz.f3.params.toList Rows.haltedSpec.vars false #[Value.string kJ,.int .i64 0].toList 8=some ([.lit (.string []),.lit (.int .i64 0)],[],a):=
 ⟨[],by kernel_rfl⟩
def lifted (f:Os) (a:f.Started) (H:Type) (kh:TypeId×gP->H) (F:Stop.Interp):
  ReturnsInHanded {} Tryz.checked f 3 .any ((OpenSpec.ofChange Rows.haltedSpec).preRow kh Tryz.prog Tryz.f3 Rows.haltedRow.domain false Rows.haltedRow.laid) (((OpenSpec.ofChange Rows.haltedSpec).at F).post kh Tryz.prog Tryz.f3 false true false false):=by
 obtain⟨g,p⟩:=reads f kh;refine returnsInHanded_of_row (C:=Tryz.checked) (s:=OpenSpec.ofChange Rows.haltedSpec) own a (by kernel_rfl) Tryz.func3
  (witness_row_atRef (enc:=kh) (C:=Tryz.checked) false (laidWorld f) #[gI kJ,gp 0] rfl (by kernel_rfl) (by kernel_rfl) (by kernel_rfl)
   (OpenSpec.preRow_of_cond 8 p (by kernel_rfl) (λk o=>by cases o) (by kernel_rfl) (YM f))) ?_
 intro W d c j l b e n _ _ i m h _;exact XU H kh W d c j l b e n i m h
def PE:Rows.HaltedSaid:=
 OpenClaim.holds_of_cond 3 Tryz.f3 rfl rfl rfl rfl rfl rfl rfl ⟨rfl,rfl,rfl,rfl,rfl⟩ rfl rfl rfl rfl rfl (by kernel_rfl) Tryz.func3 KQ
  (of_decide_eq_true (by kernel_rfl)) (by unfold Func.isWrapper;rw[gR (of_decide_eq_false (by kernel_rfl))];exact⟨rfl,rfl⟩)
  (λb a H kh _ F=>by rw[OpenClaim.pre_eq_preRow];exact lifted b a H kh F)
end Go.Proofs.YtofkkmcdggkkpaaGreatDoor
