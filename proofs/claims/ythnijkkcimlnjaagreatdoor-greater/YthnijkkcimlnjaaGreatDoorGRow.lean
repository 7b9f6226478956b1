import Derived.Test.YthnijkkcimlnjaaGreatDoorCards
import Derived.Test.YthnijkkcimlnjaaGreatDoorTie
import Derived.Test.YthnijkkcimlnjaaGreatDoorFoH
import Derived.Lib.LaidU8
import Derived.Deep.Slices
import Derived.Deep.DeepHandedRow
set_option linter.unusedSimpArgs false
set_option linter.unusedVariables false
set_option linter.defProp false
set_option maxHeartbeats 0
set_option maxRecDepth 100000
namespace Go.Proofs.YthnijkkcimlnjaaGreatDoor
open Go.ChangeShapes Go.WideShapes Go.ChangeAt Go.RowKit Go.Deep
def own:ownKnob Tryz.prog.godebug=none:=by kernel_rfl
def lays:laidOutB Tryz.prog=true:=by kernel_rfl
def amS:Tryz.prog.globalNamed "errors.errorType"=some 0:=by kernel_rfl
def alz:((List.range 396).filter λt=>Tryz.prog.rowNamed t [101,114,114,111,114])=[54]:=by kernel_rfl
theorem ajS:Tryz.prog.types.size=396:=by kernel_rfl
def adm:typeHandle Tryz.prog 54=fR 7 54:=by kernel_rfl
theorem Jt{W:J}(h:laidMetH Tryz.prog Rows.greaterRow.laid W):errorType W:=by
 obtain⟨b,u,f,e1,e2,g,c,d⟩:=h.2 _ (List.mem_singleton.2 rfl);have e:=(je e1).symm;subst e;obtain rfl:u=144:=je (e2.symm.trans (by kernel_rfl));have a:f∈(List.range 396).filter λt=>Tryz.prog.rowNamed t _:=List.mem_filter.2 ⟨List.mem_range.2 (by grind[ajS]),c⟩;rw[alz]at a;obtain rfl:=List.mem_singleton.1 a;exact(World.var?_cell amS d 0)
def amT:Tryz.prog.globalNamed "strings.asciiSpace"=some 1:=by kernel_rfl
def alA:(Tryz.prog.globals[1]?).map (·.type)=some 226:=by kernel_rfl
def ahW:(Rows.laid_strings_asciiSpace:DataW Unit)=Lib.tabData .u8 Lib.asciiSpaceTab:=by kernel_rfl
def IF{W:J}(h:laidMetH Tryz.prog Rows.greaterRow.laid W):pE W:=by
 have c:laidMet Tryz.prog [("unicode/utf8.acceptRanges",Rows.laid_unicode_utf8_acceptRanges),("unicode.White_Space",Rows.laid_unicode_White_Space),("strings.asciiSpace",Rows.laid_strings_asciiSpace),("unicode/utf8.first",Rows.laid_unicode_utf8_first)] W/\handlesMet Tryz.prog _ W:=h;obtain⟨g,t,k,b,p,i,j,a,f⟩:=Lib.laidMet.reads c.1 (n:= "strings.asciiSpace") (d:=Rows.laid_strings_asciiSpace) (by simp);obtain rfl:=je (amT.symm.trans i);obtain rfl:=je (alA.symm.trans j);unfold pE Lib.TabIs;rw[a,<-Lib.cells_of_tab (e:=5) (n:=256) (by kernel_rfl) (by kernel_rfl) (by kernel_rfl) (by kernel_rfl) f]
theorem Pv{w:J}{g:Nat}{t:TypeId}{zero:fN}(h:w.ShapedOpen Tryz.prog)(i:g<Tryz.prog.globals.size)
  (e:((begin Tryz.prog (λ_ _=>0) default).world.heap[g]?).bind Obj.row?=some (zero,t)) (r:zero.size=1)
  (f:Tryz.prog.buildable t=true) (o:Tryz.prog.cellTypes Tryz.prog.depth t=some [t]) (q:Tryz.prog.underlying t=some (.int .i64)):(∃m,w.cell? ⟨g,0,none⟩=some (G m))/\g<w.heap.size:=by
 obtain⟨d,j,p,k⟩:=h.1 g zero t i e;obtain⟨s,l,_,a⟩:=k f;obtain⟨u,n,c⟩:=a 0 d[0] (xA (by omega));have b:w.cell? ⟨g,0,none⟩=some d[0]:=by simp[World.cell?,j]
 unfold Cell.ok at c;grind
def Pl{w:J}(h:w.ShapedOpen Tryz.prog):Ll w:=
 Pv (zero:=#[G 0]) h (of_decide_eq_true (rfl)) (by kernel_rfl) rfl (by kernel_rfl) (rfl) Tryz.underlying3
def ahZ:(((begin Tryz.prog (λ_ _=>0) default).world.heap[1]?).bind Obj.row?).map (·.2)=some 226:=by kernel_rfl
def aeV{w:J}(h:w.ShapedOpen Tryz.prog):∃c t,w.heap[1]?=some (cV c t)/\t∉Iq:=by
 obtain⟨⟨z,t⟩,b,d⟩:=Option.map_eq_some_iff.1 ahZ;obtain rfl:=d;obtain⟨a,e,_⟩:=h.1 1 z _ (of_decide_eq_true (rfl)) b;exact⟨a,_,e,by decide⟩
def acH(H:Type)(ig:TypeId×cY->H)(W:J)(base:Nat)(args:fN)(u A:List (DataW H))(g:List MemPlace)
  (d:∀(j:Nat)t v,Tryz.f3.params[j]?=some t->args[j]?=some v->Value.okWide Tryz.prog W .any base t v)
  (hW:DataW.Whole ig Tryz.prog Tryz.f3.params.toList Rows.greaterSpec.vars false W args.toList u A g)
  (k:(DataW.weightsEach Tryz.prog (Tryz.f3.params.toList++(OpenSpec.ofChange Rows.greaterSpec).bare.plain.varTypes Tryz.prog) (u++A)).all (·<=reachBytes)=true)
  (hL:laidMetH Tryz.prog Rows.greaterRow.laid W) (o:W.ShapedOpen Tryz.prog):
  Calls Tryz.prog 3 args W λe z=>∃v,e=dw v/\Rows.greaterSpec.post ig Tryz.prog Tryz.f3 false true false false W args v z:=by
 have hT:Hk W:=⟨IF hL,aeV o⟩;have R:=Jt hL;have Q:0<W.heap.size:=by
  rcases dH 0 W.heap.size with B|B;exact B;unfold errorType at R;simp[World.cell?,UP B]at R
 have a4:W4 W:=⟨hT,Pl o,R,Q⟩;have n:=hW;obtain⟨p,q,m,hV,rfl,a5,a6⟩:=hW;have hA:DataW.TrodAll ig Tryz.prog W 0 (λ_=>true) true Tryz.f3.params.toList args.toList u p:=m;have r:(DataW.weightsEach Tryz.prog (Tryz.f3.params.toList++[]) (u++A)).all (·<=reachBytes)=true:=k;clear m k;rw[Tryz.params3]at hA d r;obtain⟨v0,v1,v2,v3,d0,d1,d2,d3,p0,p1,p2,p3,rfl,rfl,hp,h0,l,w,h3⟩:=trodAll_four hA;obtain⟨rfl,rfl⟩:=trodVars_none hV;have C:=h0;have D:=l;have E:=w;have F:=h3;obtain⟨s,a0,I,S,w0⟩:=Go.ChangeMaps.open_string Tryz.underlying9 (d 0 9 v0 rfl rfl) h0;obtain⟨a,a1,K,T,wa⟩:=open_int Tryz.underlying3 (d 1 3 v1 rfl rfl) l;obtain⟨b,a2,L,U,wb⟩:=open_int Tryz.underlying3 (d 2 3 v2 rfl rfl) w;obtain⟨c,a3,P,X,wc⟩:=open_int Tryz.underlying3 (d 3 3 v3 rfl rfl) h3;subst a0 a1 a2 a3 I K L P S T U X;simp only[xB,tw]at hp;subst hp;simp only[xB]at n;have i:∀x∈([]:List MemPlace),x.block<W.heap.size:=λx hx=>by cases hx
 have y:s.size<=140737488351232:=by
  have l:=sized_string r (j:=0) (t:=9) rfl rfl;have w:s.data.toList.length=s.size:=by simp
  rw[w]at l;exact l
 refine(VV s a b c W (by omega) (bounds_i64 wa) (bounds_i64 wb) (bounds_i64 wc) a4).mono λe z ⟨he,hb⟩=>?_;subst he;have f:Below W.heap.size W z:=hb.below (dr _) (by simp);refine⟨_,rfl,_,_,_,[],[],[],n,?_,?_,?_,f.frame _,λh=>by cases h⟩;exact trodAll_mk1 (shut_bool Tryz.underlying4 true);exact trodAll_mk4 (Below.trod lays (by kernel_rfl) (of_decide_eq_true (by kernel_rfl)) C f i) (Below.trod lays (by kernel_rfl) (of_decide_eq_true (by kernel_rfl)) D f i) (Below.trod lays (by kernel_rfl) (of_decide_eq_true (by kernel_rfl)) E f i) (Below.trod lays (by kernel_rfl) (of_decide_eq_true (by kernel_rfl)) F f i);rfl
end Go.Proofs.YthnijkkcimlnjaaGreatDoor
