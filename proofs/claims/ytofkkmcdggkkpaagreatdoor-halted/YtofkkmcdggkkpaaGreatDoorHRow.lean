import Derived.Test.YtofkkmcdggkkpaaGreatDoorCards
import Derived.Test.YtofkkmcdggkkpaaGreatDoorTie
import Derived.Test.YtofkkmcdggkkpaaGreatDoorHeB
import Derived.ProofKit
import Derived.OpenShut
import Derived.SizedLaws
import Derived.LaidLaws
import Derived.LaidHandle
import Derived.Lib.LaidU8
import Derived.Deep.Slices
import Derived.Deep.DeepHandedRow
set_option linter.unusedSimpArgs false
set_option linter.unusedVariables false
set_option linter.defProp false
set_option maxHeartbeats 0
set_option maxRecDepth 100000
namespace Go.Proofs.YtofkkmcdggkkpaaGreatDoor
open Go.ChangeShapes Go.WideShapes Go.ChangeAt Go.RowKit Go.Deep
def own:ownKnob Tryz.prog.godebug=none:=by kernel_rfl
def lays:laidOutB Tryz.prog=true:=by kernel_rfl
def afA:Tryz.prog.globalNamed "errors.errorType"=some 0:=by kernel_rfl
def aeK:((List.range 389).filter λt=>Tryz.prog.rowNamed t [101,114,114,111,114])=[46]:=by kernel_rfl
def adz:Tryz.prog.types.size=389:=by kernel_rfl
def YA:typeHandle Tryz.prog 46=jG 7 46:=by kernel_rfl
def IW {W:gv} (h:laidMetH Tryz.prog Rows.haltedRow.laid W):errorType W:=by
 have i:laidMet Tryz.prog _ W/\handlesMet Tryz.prog [("errors.errorType",Rows.laid_errors_errorType)] W:=h;obtain⟨a,u,j,e1,e2,e,f,b⟩:=i.2 _ (List.mem_singleton.2 rfl);have g:a=[101,114,114,111,114]:=(jL e1).symm;subst g;obtain rfl:u=112:=jL (e2.symm.trans (by kernel_rfl));have d:j∈(List.range 389).filter λt=>Tryz.prog.rowNamed t [101,114,114,111,114]:=List.mem_filter.2 ⟨List.mem_range.2 (by rw[<-adz];exact e),f⟩;rw[aeK]at d;obtain rfl:=List.mem_singleton.1 d;rw[YA]at b;have c:=World.var?_cell afA b 0;simp at c;exact c
def afB:Tryz.prog.globalNamed "strings.asciiSpace"=some 1:=by kernel_rfl
def aeL:(Tryz.prog.globals[1]?).map (·.type)=some 251:=by kernel_rfl
def ab1:(Rows.laid_strings_asciiSpace:DataW Unit)=Lib.tabData .u8 Lib.asciiSpaceTab:=by kernel_rfl
def H8 {W:gv} (h:laidMetH Tryz.prog Rows.haltedRow.laid W):sO W:=by
 have f:laidMet Tryz.prog [("unicode/utf8.acceptRanges",Rows.laid_unicode_utf8_acceptRanges),("unicode.White_Space",Rows.laid_unicode_White_Space),("strings.asciiSpace",Rows.laid_strings_asciiSpace),("unicode/utf8.first",Rows.laid_unicode_utf8_first)] W/\handlesMet Tryz.prog [("errors.errorType",Rows.laid_errors_errorType)] W:=h;obtain⟨g,t,k,b,p,i,j,a,c⟩:=Lib.laidMet.reads f.1 (n:= "strings.asciiSpace") (d:=Rows.laid_strings_asciiSpace) (by simp);obtain rfl:=jL (afB.symm.trans i);obtain rfl:=jL (aeL.symm.trans j);rw[ab1]at c;unfold sO Lib.TabIs;rw[a,<-Lib.cells_of_tab (e:=5) (n:=256) (by kernel_rfl) (by kernel_rfl) (by kernel_rfl) (by kernel_rfl) c]
theorem NC {w:gv} {g:Nat} {t:TypeId} {zero:jM} (h:w.ShapedOpen Tryz.prog) (p:g < Tryz.prog.globals.size)
  (l:((begin Tryz.prog (λ_ _=>0) default).world.heap[g]?).bind Obj.row?=some (zero,t)) (v:zero.size=1)
  (n:Tryz.prog.buildable t=true) (o:Tryz.prog.cellTypes Tryz.prog.depth t=some [t]) (r:Tryz.prog.underlying t=some (.int .i64)):(∃m,w.cell? ⟨g,0,none⟩=some (gn m))/\g < w.heap.size:=by
 obtain⟨e,j,s,q⟩:=h.1 g zero t p l;obtain⟨x,d,_,c⟩:=q n;rw[o]at d;cases d;have i:0 < e.size:=by omega
 obtain⟨u,f,a⟩:=c 0 e[0] (wL i);have:u=t:=by simpa using f.symm
 subst this;have b:w.cell? ⟨g,0,none⟩=some e[0]:=by simp[World.cell?,j,i]
 refine⟨?_,jk j⟩;rw[b];unfold Cell.ok at a;rw[r]at a;cases hv:e[0]with
 |int k m=>
  rw[hv]at a;simp at a
  first
   |exact⟨m,by rw[<-a.1]⟩
   |exact⟨m,by rw[a.1]⟩
   |exact⟨m,by simp_all⟩
 |_=>rw[hv]at a;simp at a
def Ns {w:gv} (h:w.ShapedOpen Tryz.prog):Vd w:=
 NC (g:=3) (t:=3) (zero:=#[gn 0]) h (of_decide_eq_true (by kernel_rfl)) (by kernel_rfl) rfl (by kernel_rfl) (by kernel_rfl) Tryz.underlying3
def ab4:(((begin Tryz.prog (λ_ _=>0) default).world.heap[1]?).bind Obj.row?).map (·.2)=some 251:=by kernel_rfl
def ZJ {w:gv} (h:w.ShapedOpen Tryz.prog):∃c t,w.heap[1]?=some (gI c t)/\t∉Hl:=by
 obtain⟨⟨z,t⟩,b,d⟩:=Option.map_eq_some_iff.1 ab4;obtain rfl:t=251:=d;obtain⟨a,e,_⟩:=h.1 1 z _ (of_decide_eq_true (by kernel_rfl)) b;exact⟨a,_,e,by decide⟩
def Yb (H:Type) (kh:TypeId×gO->H) (W:gv) (base:Nat) (args:jM) (o w:List (DataW H)) (c:List MemPlace)
  (b:∀(j:Nat) t v,Tryz.f3.params[j]?=some t->args[j]?=some v->Value.okWide Tryz.prog W .any base t v)
  (P:DataW.Whole kh Tryz.prog Tryz.f3.params.toList Rows.haltedSpec.vars false W args.toList o w c)
  (d:(DataW.weightsEach Tryz.prog (Tryz.f3.params.toList++(OpenSpec.ofChange Rows.haltedSpec).bare.plain.varTypes Tryz.prog) (o++w)).all (·<=reachBytes)=true)
  (O:laidMetH Tryz.prog Rows.haltedRow.laid W) (m:W.ShapedOpen Tryz.prog):
  Calls Tryz.prog 3 args W λe u=>∃v,e=iq v/\Rows.haltedSpec.post kh Tryz.prog Tryz.f3 false true false false W args v u:=by
 have S:xR W:=⟨H8 O,ZJ m⟩;have E:=IW O;have D:0 < W.heap.size:=by
  rcases rC 0 W.heap.size with y|y
  .exact y
  .unfold errorType at E;simp[World.cell?,BO y]at E
 have K:W4 W:=⟨S,Ns m,E,D⟩;have k:=P;obtain⟨p,q,i,T,rfl,X,Y⟩:=P;have N:DataW.TrodAll kh Tryz.prog W 0 (λ_=>true) true Tryz.f3.params.toList args.toList o p:=i;have n:(DataW.weightsEach Tryz.prog (Tryz.f3.params.toList++[]) (o++w)).all (·<=reachBytes)=true:=d;clear i d;rw[Tryz.params3]at N b n;obtain⟨v0,v1,d0,d1,p0,p1,rfl,rfl,Q,L,g⟩:=trodAll_two N;obtain⟨rfl,rfl⟩:=trodVars_none T;have z:=L;have A:=g;obtain⟨s,I,B,F,w0⟩:=Go.ChangeMaps.open_string Tryz.underlying9 (b 0 9 v0 rfl rfl) L;obtain⟨a,J,C,G,wa⟩:=open_int Tryz.underlying3 (b 1 3 v1 rfl rfl) g;subst I J B C F G;simp only[U2,ru]at Q;subst Q;simp only[U2]at k;have l:∀x∈([]:List MemPlace),x.block < W.heap.size:=λx Z=>by cases Z
 have r:s.size<=140737488351232:=by
  have g:=sized_string n (j:=0) (t:=9) rfl rfl;have R:s.data.toList.length=s.size:=by simp
  rw[R]at g;exact g
 refine(V3 s a W (by omega) (bounds_i64 wa) K).mono λe u ⟨V,U⟩=>?_;subst V;have f:Below W.heap.size W u:=U.below (ig _) (by simp);refine⟨_,rfl,_,_,_,[],[],[],k,?_,?_,?_,f.frame _,λh=>by cases h⟩
 .exact trodAll_mk1 (shut_bool Tryz.underlying4 true)
 .exact trodAll_mk2 (Below.trod lays (by kernel_rfl) (of_decide_eq_true (by kernel_rfl)) z f l) (Below.trod lays (by kernel_rfl) (of_decide_eq_true (by kernel_rfl)) A f l)
 .rfl
end Go.Proofs.YtofkkmcdggkkpaaGreatDoor
