import Derived.Test.YtccjlklnkhagdaaGreatDoorCards
import Derived.Test.YtccjlklnkhagdaaGreatDoorTie
import Derived.Test.YtccjlklnkhagdaaGreatDoorIvO
import Derived.Lib.LaidU8
import Derived.Deep.Slices
import Derived.Deep.DeepHandedRow
set_option linter.unusedSimpArgs false
set_option linter.unusedVariables false
set_option linter.defProp false
set_option maxHeartbeats 0
set_option maxRecDepth 100000
namespace Go.Proofs.YtccjlklnkhagdaaGreatDoor
open Go.ChangeShapes Go.WideShapes Go.ChangeAt Go.RowKit Go.Deep
def own:ownKnob Tryz.prog.godebug=none:=by kernel_rfl
def lays:laidOutB Tryz.prog=true:=by kernel_rfl
def aeS:Tryz.prog.globalNamed "strings.asciiSpace"=some 1:=by kernel_rfl
def ad0:(Tryz.prog.globals[1]?).map (·.type)=some 226:=by kernel_rfl
def abd:(Rows.laid_strings_asciiSpace:DataW Unit)=Lib.tabData .u8 Lib.asciiSpaceTab:=by kernel_rfl
def GS {W:gr} (h:laidMetH Tryz.prog Rows.knownRow.laid W):rh W:=by
 have f:laidMet Tryz.prog [("unicode/utf8.acceptRanges",Rows.laid_unicode_utf8_acceptRanges),("unicode.White_Space",Rows.laid_unicode_White_Space),("strings.asciiSpace",Rows.laid_strings_asciiSpace),("unicode/utf8.first",Rows.laid_unicode_utf8_first)] W/\handlesMet Tryz.prog [("errors.errorType",Rows.laid_errors_errorType)] W:=h;obtain⟨g,t,k,b,p,i,j,a,c⟩:=Lib.laidMet.reads f.1 (n:= "strings.asciiSpace") (d:=Rows.laid_strings_asciiSpace) (by simp);obtain rfl:=jz (aeS.symm.trans i);obtain rfl:=jz (ad0.symm.trans j);rw[abd]at c;unfold rh Lib.TabIs;rw[a,<-Lib.cells_of_tab (e:=5) (n:=256) (by kernel_rfl) (by kernel_rfl) (by kernel_rfl) (by kernel_rfl) c]
theorem MV {w:gr} {g:Nat} {t:TypeId} {zero:jE} (h:w.ShapedOpen Tryz.prog) (p:g < Tryz.prog.globals.size)
  (l:((begin Tryz.prog (λ_ _=>0) default).world.heap[g]?).bind Obj.row?=some (zero,t)) (v:zero.size=1)
  (n:Tryz.prog.buildable t=true) (o:Tryz.prog.cellTypes Tryz.prog.depth t=some [t]) (r:Tryz.prog.underlying t=some (.int .i64)):(∃m,w.cell? ⟨g,0,none⟩=some (ga m))/\g < w.heap.size:=by
 obtain⟨e,j,s,q⟩:=h.1 g zero t p l;obtain⟨x,d,_,c⟩:=q n;rw[o]at d;cases d;have i:0 < e.size:=by omega
 obtain⟨u,f,a⟩:=c 0 e[0] (wu i);have:u=t:=by simpa using f.symm
 subst this;have b:w.cell? ⟨g,0,none⟩=some e[0]:=by simp[World.cell?,j,i]
 refine⟨?_,je j⟩;rw[b];unfold Cell.ok at a;rw[r]at a;cases hv:e[0]with
 |int k m=>
  rw[hv]at a;simp at a
  first
   |exact⟨m,by rw[<-a.1]⟩
   |exact⟨m,by rw[a.1]⟩
   |exact⟨m,by simp_all⟩
 |_=>rw[hv]at a;simp at a
def ML {w:gr} (h:w.ShapedOpen Tryz.prog):L5 w:=
 MV (g:=3) (t:=3) (zero:=#[ga 0]) h (of_decide_eq_true (by kernel_rfl)) (by kernel_rfl) rfl (by kernel_rfl) (by kernel_rfl) Tryz.underlying3
def abe:(((begin Tryz.prog (λ_ _=>0) default).world.heap[1]?).bind Obj.row?).map (·.2)=some 226:=by kernel_rfl
def YX {w:gr} (h:w.ShapedOpen Tryz.prog):∃c t,w.heap[1]?=some (gy c t)/\t∉GK:=by
 obtain⟨⟨z,t⟩,b,d⟩:=Option.map_eq_some_iff.1 abe;obtain rfl:t=226:=d;obtain⟨a,e,_⟩:=h.1 1 z _ (of_decide_eq_true (by kernel_rfl)) b;exact⟨a,_,e,by decide⟩
def Xi (H:Type) (jY:TypeId×gG->H) (W:gr) (base:Nat) (args:jE) (l n:List (DataW H)) (a:List MemPlace)
  (c:∀(j:Nat) t v,Tryz.f3.params[j]?=some t->args[j]?=some v->Value.okWide Tryz.prog W .any base t v)
  (z:DataW.Whole jY Tryz.prog Tryz.f3.params.toList Rows.knownSpec.vars false W args.toList l n a)
  (b:(DataW.weightsEach Tryz.prog (Tryz.f3.params.toList++(OpenSpec.ofChange Rows.knownSpec).bare.plain.varTypes Tryz.prog) (l++n)).all (·<=reachBytes)=true)
  (B:laidMetH Tryz.prog Rows.knownRow.laid W) (i:W.ShapedOpen Tryz.prog):
  Calls Tryz.prog 3 args W λe m=>∃v,e=ir v/\Rows.knownSpec.post jY Tryz.prog Tryz.f3 false true false false W args v m:=by
 have C:yh W:=⟨GS B,YX i⟩;have f:=z;obtain⟨p,q,d,D,rfl,I,J⟩:=z;have y:DataW.TrodAll jY Tryz.prog W 0 (λ_=>true) true Tryz.f3.params.toList args.toList l p:=d;have s:(DataW.weightsEach Tryz.prog (Tryz.f3.params.toList++[]) (l++n)).all (·<=reachBytes)=true:=b;clear d b;rw[Tryz.params3]at y c s;obtain⟨N,P,rfl,rfl,w⟩:=trodAll_one y;obtain⟨rfl,rfl⟩:=trodVars_none D;have o:=w;obtain⟨k,u,F,K,O⟩:=open_int Tryz.underlying3 (c 0 3 N rfl rfl) w;subst u F K;simp only[DU]at f;have r:∀x∈([]:List MemPlace),x.block < W.heap.size:=λx L=>by cases L
 have A:=bounds_i64 O;refine(X8 k W A.1 A.2 C (ML i)).mono λe m ⟨G,E⟩=>?_;subst G;have g:Below W.heap.size W m:=E.below (gW _) (by simp);refine⟨_,rfl,_,_,_,[],[],[],f,?_,?_,?_,g.frame _,λh=>by cases h⟩
 .exact trodAll_mk1 (shut_bool Tryz.underlying4 true)
 .exact trodAll_mk1 (Below.trod lays (by kernel_rfl) (of_decide_eq_true (by kernel_rfl)) o g r)
 .rfl
end Go.Proofs.YtccjlklnkhagdaaGreatDoor
