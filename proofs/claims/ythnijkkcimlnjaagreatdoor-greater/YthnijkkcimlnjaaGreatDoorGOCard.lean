import Derived.Test.YthnijkkcimlnjaaGreatDoorGClosed
import Derived.Deep.DeepWitnessRowRef
set_option linter.unusedSimpArgs false
set_option linter.unusedVariables false
set_option linter.defProp false
set_option maxHeartbeats 0
set_option maxRecDepth 100000
namespace Go.Proofs.YthnijkkcimlnjaaGreatDoor
open Go.ChangeShapes Go.WideShapes Go.ChangeAt Go.RowKit Go.Deep
def putCells(c:fN):Obj->Obj
 | .cells _ t frozen=> .cells c t frozen
 |o=>o
def firstCells:fN:=(Go.Pinned.utf8FirstZ.map λn:Nat=>Value.int .u8 (n:Int)).toArray
def WY:fN:=(([128,191,160,191,128,159,144,191,128,143,0,0,0,0,0,0,0,0,0,0,0,0,0,0,0,0,0,0,0,0,0,0]:List Nat).map λn:Nat=>Value.int .u8 (n:Int)).toArray
def abx:fN:=#[.iface 144 (.agg #[fR 7 54])]
def Xh:fN:=(Lib.asciiSpaceTab.map λz=>Value.int .u8 z).toArray
def Xy:fN:=(Lib.whiteT.map λ(z:Nat)=>Value.int .u16 (z:Int)).toArray
noncomputable def laidWorld(os:Os):J:=
 let n:=(World.settled Tryz.prog os).heap.size
 let a:=World.holding Tryz.prog os ⟨#[.cells Xy 318,.cells #[ky n 7 7,gq,G 2] 315],#[],[]⟩
 {a with heap:=((((a.heap.modify 0 (putCells abx)).modify 4 (putCells firstCells)).modify 5 (putCells WY)).modify 1 (putCells Xh)).modify 2 (putCells #[cW (n+1)])}
def adQ(a:Os):laidMetH Tryz.prog Rows.greaterRow.laid ((laidWorld a).forCall (λ_ _=>0) ⟨#[],#[Y gU,G 0,G 0,G 0],[]⟩).memory:=
 laidMetH_of_parts (laidMet_of_run' 10 (by kernel_rfl) (by kernel_rfl)) (by kernel_rfl)
def reads(b:Os){H:Type}(ig:TypeId×cY->H):∃a,DataW.whole ig Tryz.prog ((laidWorld b).forCall (λ_ _=>0) ⟨#[],#[.string gU,.int .i64 0,.int .i64 0,.int .i64 0],[]⟩).memory Tryz.f3.params.toList Rows.greaterSpec.vars false #[Value.string gU,.int .i64 0,.int .i64 0,.int .i64 0].toList 8=some ([.lit (.string []),.lit (.int .i64 0),.lit (.int .i64 0),.lit (.int .i64 0)],[],a):=
 ⟨[],by kernel_rfl⟩
def lifted(f:Os)(a:f.Started)(H:Type)(ig:TypeId×cY->H)(F:Stop.Interp):
  ReturnsInHanded {} Tryz.checked f 3 .any ((OpenSpec.ofChange Rows.greaterSpec).preRow ig Tryz.prog Tryz.f3 Rows.greaterRow.domain false Rows.greaterRow.laid) (((OpenSpec.ofChange Rows.greaterSpec).at F).post ig Tryz.prog Tryz.f3 false true false false):=by
 obtain⟨g,p⟩:=reads f ig;refine returnsInHanded_of_row (C:=Tryz.checked) (s:=OpenSpec.ofChange Rows.greaterSpec) own a (by kernel_rfl) Tryz.func3
  (witness_row_atRef (enc:=ig) (C:=Tryz.checked) false (laidWorld f) #[Y gU,G 0,G 0,G 0] rfl (by kernel_rfl) (by kernel_rfl) (by kernel_rfl)
   (OpenSpec.preRow_of_cond 8 p (by kernel_rfl) (λk o=>by cases o) (by kernel_rfl) (adQ f))) ?_
 intro W d c j l b e n _ _ i m h _;exact acH H ig W d c j l b e n i m h
def Pn:Rows.GreaterSaid:=
 OpenClaim.holds_of_cond 3 Tryz.f3 rfl rfl rfl rfl rfl rfl rfl ⟨rfl,rfl,rfl,rfl,rfl⟩ rfl rfl rfl rfl rfl (by kernel_rfl) Tryz.func3 Jr
  (of_decide_eq_true (by kernel_rfl)) (by unfold Func.isWrapper;rw[cZ (of_decide_eq_false (by kernel_rfl))];exact⟨rfl,rfl⟩)
  (λb a H ig _ F=>by rw[OpenClaim.pre_eq_preRow];exact lifted b a H ig F)
end Go.Proofs.YthnijkkcimlnjaaGreatDoor
