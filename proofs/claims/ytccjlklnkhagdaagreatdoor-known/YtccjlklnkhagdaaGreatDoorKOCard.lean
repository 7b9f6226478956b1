import Derived.Test.YtccjlklnkhagdaaGreatDoorKClosed
import Derived.Deep.DeepWitnessRowRef
set_option linter.unusedSimpArgs false
set_option linter.unusedVariables false
set_option linter.defProp false
set_option maxHeartbeats 0
set_option maxRecDepth 100000
namespace Go.Proofs.YtccjlklnkhagdaaGreatDoor
open Go.ChangeShapes Go.WideShapes Go.ChangeAt Go.RowKit Go.Deep
def putCells (c:jE):Obj->Obj
 | .cells _ t frozen=> .cells c t frozen
 |o=>o
def firstCells:jE:=(Go.Pinned.utf8FirstZ.map λn:Nat=>Value.int .u8 (n:Int)).toArray
def Sx:jE:=(([128,191,160,191,128,159,144,191,128,143,0,0,0,0,0,0,0,0,0,0,0,0,0,0,0,0,0,0,0,0,0,0]:List Nat).map λn:Nat=>Value.int .u8 (n:Int)).toArray
def Wd:jE:=#[.iface 141 (.agg #[lK 7 49])]
def SC:jE:=(Lib.asciiSpaceTab.map λz=>Value.int .u8 z).toArray
def SR:jE:=(Lib.whiteT.map λ(z:Nat)=>Value.int .u16 (z:Int)).toArray
noncomputable def laidWorld (os:Os):gr:=
 let n:=(World.settled Tryz.prog os).heap.size
 let a:=World.holding Tryz.prog os ⟨#[.cells SR 318,.cells #[nI n 7 7,jV,ga 2] 315],#[],[]⟩
 {a with heap:=((((a.heap.modify 0 (putCells Wd)).modify 4 (putCells firstCells)).modify 5 (putCells Sx)).modify 1 (putCells SC)).modify 2 (putCells #[gF (n+1)])}
def Yd (a:Os):laidMetH Tryz.prog Rows.knownRow.laid ((laidWorld a).forCall (λ_ _=>0) ⟨#[],#[ga 0],[]⟩).memory:=
 laidMetH_of_parts (laidMet_of_run' 10 (by kernel_rfl) (by kernel_rfl)) (by kernel_rfl)
def reads (b:Os) {H:Type} (jY:TypeId×gG->H):∃a,DataW.whole jY Tryz.prog ((laidWorld b).forCall (λ_ _=>0) ⟨#[],#[.int .i64 0],[]⟩).memory Tryz.f3.params.toList Rows.knownSpec.vars false #[Value.int .i64 0].toList 8=some ([.lit (.int .i64 0)],[],a):=
 ⟨[],by kernel_rfl⟩
def lifted (f:Os) (a:f.Started) (H:Type) (jY:TypeId×gG->H) (F:Stop.Interp):
  ReturnsInHanded {} Tryz.checked f 3 .any ((OpenSpec.ofChange Rows.knownSpec).preRow jY Tryz.prog Tryz.f3 Rows.knownRow.domain false Rows.knownRow.laid) (((OpenSpec.ofChange Rows.knownSpec).at F).post jY Tryz.prog Tryz.f3 false true false false):=by
 obtain⟨g,p⟩:=reads f jY;refine returnsInHanded_of_row (C:=Tryz.checked) (s:=OpenSpec.ofChange Rows.knownSpec) own a (by kernel_rfl) Tryz.func3
  (witness_row_atRef (enc:=jY) (C:=Tryz.checked) false (laidWorld f) #[ga 0] rfl (by kernel_rfl) (by kernel_rfl) (by kernel_rfl)
   (OpenSpec.preRow_of_cond 8 p (by kernel_rfl) (λk o=>by cases o) (by kernel_rfl) (Yd f))) ?_
 intro W d c j l b e n _ _ i m h _;exact Xi H jY W d c j l b e n i m h
def R5:Rows.KnownSaid:=
 OpenClaim.holds_of_cond 3 Tryz.f3 rfl rfl rfl rfl rfl rfl rfl ⟨rfl,rfl,rfl,rfl,rfl⟩ rfl rfl rfl rfl rfl (by kernel_rfl) Tryz.func3 M0
  (of_decide_eq_true (by kernel_rfl)) (by unfold Func.isWrapper;rw[gI (of_decide_eq_false (by kernel_rfl))];exact⟨rfl,rfl⟩)
  (λb a H jY _ F=>by rw[OpenClaim.pre_eq_preRow];exact lifted b a H jY F)
end Go.Proofs.YtccjlklnkhagdaaGreatDoor
