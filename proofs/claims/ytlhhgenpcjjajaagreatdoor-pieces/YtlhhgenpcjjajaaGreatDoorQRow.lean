import Derived.Test.YtlhhgenpcjjajaaGreatDoorCards
import Derived.Test.YtlhhgenpcjjajaaGreatDoorTie
import Derived.Test.YtlhhgenpcjjajaaGreatDoorWuB
import Derived.ProofKit
import Derived.OpenShut
import Derived.SizedLaws
import Derived.LaidLaws
import Derived.LaidHandle
import Derived.Lib.LaidU8
import Derived.Deep.Slices
import Derived.Deep.DeepHandedRow
set_option linter.unusedSimpArgs false
set_option linter.unusedVariables false
set_option linter.defProp false
set_option maxHeartbeats 0
set_option maxRecDepth 100000
namespace Go.Proofs.YtlhhgenpcjjajaaGreatDoor
open Go.ChangeShapes Go.WideShapes Go.ChangeAt Go.RowKit Go.Deep
def own:ownKnob Tryz.prog.godebug=none:=by kernel_rfl
def lays:laidOutB Tryz.prog=true:=by kernel_rfl
def ag7:Tryz.prog.globalNamed "errors.errorType"=some 0:=by kernel_rfl
def agd:((List.range 400).filter λt=>Tryz.prog.rowNamed t [101,114,114,111,114])=[59]:=by kernel_rfl
def ae5:Tryz.prog.types.size=400:=by kernel_rfl
def ZI:typeHandle Tryz.prog 59=jO 7 59:=by kernel_rfl
def Jy {W:gx} (h:laidMetH Tryz.prog Rows.piecesRow.laid W):errorType W:=by
 have i:laidMet Tryz.prog _ W/\handlesMet Tryz.prog [("errors.errorType",Rows.laid_errors_errorType)] W:=h;obtain⟨a,u,j,e1,e2,e,f,b⟩:=i.2 _ (List.mem_singleton.2 rfl);have g:a=[101,114,114,111,114]:=(jy e1).symm;subst g;obtain rfl:u=145:=jy (e2.symm.trans (by kernel_rfl));have d:j∈(List.range 400).filter λt=>Tryz.prog.rowNamed t [101,114,114,111,114]:=List.mem_filter.2 ⟨List.mem_range.2 (by rw[<-ae5];exact e),f⟩;rw[agd]at d;obtain rfl:=List.mem_singleton.1 d;rw[ZI]at b;have c:=World.var?_cell ag7 b 0;simp at c;exact c
def ag8:Tryz.prog.globalNamed "strings.asciiSpace"=some 1:=by kernel_rfl
def age:(Tryz.prog.globals[1]?).map (·.type)=some 230:=by kernel_rfl
def adn:(Rows.laid_strings_asciiSpace:DataW Unit)=Lib.tabData .u8 Lib.asciiSpaceTab:=by kernel_rfl
def IY {W:gx} (h:laidMetH Tryz.prog Rows.piecesRow.laid W):sr W:=by
 have f:laidMet Tryz.prog [("unicode/utf8.acceptRanges",Rows.laid_unicode_utf8_acceptRanges),("unicode.White_Space",Rows.laid_unicode_White_Space),("strings.asciiSpace",Rows.laid_strings_asciiSpace),("unicode/utf8.first",Rows.laid_unicode_utf8_first)] W/\handlesMet Tryz.prog [("errors.errorType",Rows.laid_errors_errorType)] W:=h;obtain⟨g,t,k,b,p,i,j,a,c⟩:=Lib.laidMet.reads f.1 (n:= "strings.asciiSpace") (d:=Rows.laid_strings_asciiSpace) (by simp);obtain rfl:=jy (ag8.symm.trans i);obtain rfl:=jy (age.symm.trans j);rw[adn]at c;unfold sr Lib.TabIs;rw[a,<-Lib.cells_of_tab (e:=5) (n:=256) (by kernel_rfl) (by kernel_rfl) (by kernel_rfl) (by kernel_rfl) c]
theorem Oq {w:gx} {g:Nat} {t:TypeId} {zero:jN} (h:w.ShapedOpen Tryz.prog) (p:g < Tryz.prog.globals.size)
  (l:((begin Tryz.prog (λ_ _=>0) default).world.heap[g]?).bind Obj.row?=some (zero,t)) (v:zero.size=1)
  (n:Tryz.prog.buildable t=true) (o:Tryz.prog.cellTypes Tryz.prog.depth t=some [t]) (r:Tryz.prog.underlying t=some (.int .i64)):(∃m,w.cell? ⟨g,0,none⟩=some (gh m))/\g < w.heap.size:=by
 obtain⟨e,j,s,q⟩:=h.1 g zero t p l;obtain⟨x,d,_,c⟩:=q n;rw[o]at d;cases d;have i:0 < e.size:=by omega
 obtain⟨u,f,a⟩:=c 0 e[0] (xH i);have:u=t:=by simpa using f.symm
 subst this;have b:w.cell? ⟨g,0,none⟩=some e[0]:=by simp[World.cell?,j,i]
 refine⟨?_,iX j⟩;rw[b];unfold Cell.ok at a;rw[r]at a;cases hv:e[0]with
 |int k m=>
  rw[hv]at a;simp at a
  first
   |exact⟨m,by rw[<-a.1]⟩
   |exact⟨m,by rw[a.1]⟩
   |exact⟨m,by simp_all⟩
 |_=>rw[hv]at a;simp at a
def Og {w:gx} (h:w.ShapedOpen Tryz.prog):Ij w:=
 Oq (g:=3) (t:=3) (zero:=#[gh 0]) h (of_decide_eq_true (by kernel_rfl)) (by kernel_rfl) rfl (by kernel_rfl) (by kernel_rfl) Tryz.underlying3
def adq:(((begin Tryz.prog (λ_ _=>0) default).world.heap[1]?).bind Obj.row?).map (·.2)=some 230:=by kernel_rfl
def aaY {w:gx} (h:w.ShapedOpen Tryz.prog):∃c t,w.heap[1]?=some (gL c t)/\t∉IG:=by
 obtain⟨⟨z,t⟩,b,d⟩:=Option.map_eq_some_iff.1 adq;obtain rfl:t=230:=d;obtain⟨a,e,_⟩:=h.1 1 z _ (of_decide_eq_true (by kernel_rfl)) b;exact⟨a,_,e,by decide⟩
def Za (H:Type) (kI:TypeId×gQ->H) (W:gx) (base:Nat) (args:jN) (u A:List (DataW H)) (g:List MemPlace)
  (d:∀(j:Nat) t v,Tryz.f3.params[j]?=some t->args[j]?=some v->Value.okWide Tryz.prog W .any base t v)
  (hW:DataW.Whole kI Tryz.prog Tryz.f3.params.toList Rows.piecesSpec.vars false W args.toList u A g)
  (k:(DataW.weightsEach Tryz.prog (Tryz.f3.params.toList++(OpenSpec.ofChange Rows.piecesSpec).bare.plain.varTypes Tryz.prog) (u++A)).all (·<=reachBytes)=true)
  (hL:laidMetH Tryz.prog Rows.piecesRow.laid W) (o:W.ShapedOpen Tryz.prog):
  Calls Tryz.prog 3 args W λe z=>∃v,e=iw v/\Rows.piecesSpec.post kI Tryz.prog Tryz.f3 false true false false W args v z:=by
 have hT:xL W:=⟨IY hL,aaY o⟩;have N:=Jy hL;have L:0 < W.heap.size:=by
  rcases mO 0 W.heap.size with B|B
  .exact B
  .unfold errorType at N;simp[World.cell?,La B]at N
 have X:W4 W:=⟨hT,Og o,N,L⟩;have n:=hW;obtain⟨p,q,m,hV,rfl,a0,a1⟩:=hW;have hA:DataW.TrodAll kI Tryz.prog W 0 (λ_=>true) true Tryz.f3.params.toList args.toList u p:=m;have r:(DataW.weightsEach Tryz.prog (Tryz.f3.params.toList++[]) (u++A)).all (·<=reachBytes)=true:=k;clear m k;rw[Tryz.params3]at hA d r;obtain⟨v0,v1,v2,v3,d0,d1,d2,d3,p0,p1,p2,p3,rfl,rfl,hp,Y,l,w,Z⟩:=trodAll_four hA;obtain⟨rfl,rfl⟩:=trodVars_none hV;have C:=Y;have D:=l;have E:=w;have F:=Z;obtain⟨s,S,G,O,w0⟩:=Go.ChangeMaps.open_string Tryz.underlying9 (d 0 9 v0 rfl rfl) Y;obtain⟨a,T,I,P,wa⟩:=open_int Tryz.underlying3 (d 1 3 v1 rfl rfl) l;obtain⟨b,U,J,Q,wb⟩:=open_int Tryz.underlying3 (d 2 3 v2 rfl rfl) w;obtain⟨c,V,K,R,wc⟩:=open_int Tryz.underlying3 (d 3 3 v3 rfl rfl) Z;subst S T U V G I J K O P Q R;simp only[Cw,sg]at hp;subst hp;simp only[Cw]at n;have i:∀x∈([]:List MemPlace),x.block < W.heap.size:=λx hx=>by cases hx
 have y:s.size<=140737488351232:=by
  have l:=sized_string r (j:=0) (t:=9) rfl rfl;have w:s.data.toList.length=s.size:=by simp
  rw[w]at l;exact l
 refine(XH s a b c W (by omega) (bounds_i64 wa) (bounds_i64 wb) (bounds_i64 wc) X).mono λe z ⟨he,hb⟩=>?_;subst he;have f:Below W.heap.size W z:=hb.below (gW _) (by simp);refine⟨_,rfl,_,_,_,[],[],[],n,?_,?_,?_,f.frame _,λh=>by cases h⟩
 .exact trodAll_mk1 (shut_bool Tryz.underlying4 true)
 .exact trodAll_mk4 (Below.trod lays (by kernel_rfl) (of_decide_eq_true (by kernel_rfl)) C f i) (Below.trod lays (by kernel_rfl) (of_decide_eq_true (by kernel_rfl)) D f i) (Below.trod lays (by kernel_rfl) (of_decide_eq_true (by kernel_rfl)) E f i) (Below.trod lays (by kernel_rfl) (of_decide_eq_true (by kernel_rfl)) F f i)
 .rfl
end Go.Proofs.YtlhhgenpcjjajaaGreatDoor
