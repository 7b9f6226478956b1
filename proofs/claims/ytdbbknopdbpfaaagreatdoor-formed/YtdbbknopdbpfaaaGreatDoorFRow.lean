import Derived.Test.YtdbbknopdbpfaaaGreatDoorCards
import Derived.Test.YtdbbknopdbpfaaaGreatDoorTie
import Derived.Test.YtdbbknopdbpfaaaGreatDoorRdY
import Derived.Lib.LaidU8
import Derived.Deep.Slices
import Derived.Deep.DeepHandedRow
set_option linter.unusedSimpArgs false
set_option linter.unusedVariables false
set_option linter.defProp false
set_option maxHeartbeats 0
set_option maxRecDepth 100000
namespace Go.Proofs.YtdbbknopdbpfaaaGreatDoor
open Go.ChangeShapes Go.WideShapes Go.ChangeAt Go.RowKit Go.Deep
def own:ownKnob Tryz.prog.godebug=none:=by kernel_rfl
def lays:laidOutB Tryz.prog=true:=by kernel_rfl
def aou:Tryz.prog.globalNamed "errors.errorType"=some 0:=by kernel_rfl
def ank:((List.range 393).filter λt=>Tryz.prog.rowNamed t [101,114,114,111,114])=[52]:=by kernel_rfl
def alO:Tryz.prog.types.size=393:=by kernel_rfl
def aft:typeHandle Tryz.prog 52=j5 7 52:=by kernel_rfl
def Mr{W:J}(h:laidMetH Tryz.prog Rows.formedRow.laid W):errorType W:=by
 have i:laidMet Tryz.prog _ W/\handlesMet Tryz.prog [("errors.errorType",Rows.laid_errors_errorType)] W:=h;obtain⟨a,u,j,e1,e2,e,f,b⟩:=i.2 _ (List.mem_singleton.2 rfl);have g:a=[101,114,114,111,114]:=(Ki e1).symm;subst g;obtain rfl:u=141:=Ki (e2.symm.trans (by kernel_rfl));have d:j∈(List.range 393).filter λt=>Tryz.prog.rowNamed t [101,114,114,111,114]:=List.mem_filter.2 ⟨List.mem_range.2 (by rw[<-alO];exact e),f⟩;rw[ank]at d;obtain rfl:=List.mem_singleton.1 d;rw[aft]at b;have c:=World.var?_cell aou b 0;simp at c;exact c
def aov:Tryz.prog.globalNamed "strings.asciiSpace"=some 1:=by kernel_rfl
def anl:(Tryz.prog.globals[1]?).map (·.type)=some 223:=by kernel_rfl
def ajO:(Rows.laid_strings_asciiSpace:DataW Unit)=Lib.tabData .u8 Lib.asciiSpaceTab:=by kernel_rfl
def LD{W:J}(h:laidMetH Tryz.prog Rows.formedRow.laid W):sT W:=by
 have f:laidMet Tryz.prog [("unicode/utf8.acceptRanges",Rows.laid_unicode_utf8_acceptRanges),("unicode.White_Space",Rows.laid_unicode_White_Space),("strings.asciiSpace",Rows.laid_strings_asciiSpace),("unicode/utf8.first",Rows.laid_unicode_utf8_first)] W/\handlesMet Tryz.prog [("errors.errorType",Rows.laid_errors_errorType)] W:=h;obtain⟨g,t,k,b,p,i,j,a,c⟩:=Lib.laidMet.reads f.1 (n:= "strings.asciiSpace") (d:=Rows.laid_strings_asciiSpace) (by simp);obtain rfl:=Ki (aov.symm.trans i);obtain rfl:=Ki (anl.symm.trans j);rw[ajO]at c;unfold sT Lib.TabIs;rw[a,<-Lib.cells_of_tab (e:=5) (n:=256) (by kernel_rfl) (by kernel_rfl) (by kernel_rfl) (by kernel_rfl) c]
theorem Sg{w:J}{g:Nat}{t:TypeId}{zero:jL}(h:w.ShapedOpen Tryz.prog)(p:g<Tryz.prog.globals.size)
  (l:((begin Tryz.prog (λ_ _=>0) default).world.heap[g]?).bind Obj.row?=some (zero,t)) (v:zero.size=1)
  (n:Tryz.prog.buildable t=true) (o:Tryz.prog.cellTypes Tryz.prog.depth t=some [t]) (r:Tryz.prog.underlying t=some (.int .i64)):(∃m,w.cell? ⟨g,0,none⟩=some (G m))/\g<w.heap.size:=by
 obtain⟨e,j,s,q⟩:=h.1 g zero t p l;obtain⟨x,d,_,c⟩:=q n;rw[o]at d;cases d;have i:0<e.size:=by omega
 obtain⟨u,f,a⟩:=c 0 e[0] (jC i);have:u=t:=by simpa using f.symm
 subst this;have b:w.cell? ⟨g,0,none⟩=some e[0]:=by simp[World.cell?,j,i]
 refine⟨?_,ja j⟩;rw[b];unfold Cell.ok at a;rw[r]at a;cases hv:e[0]with
 |int k m=>
  rw[hv]at a;simp at a
  first
   |exact⟨m,by rw[<-a.1]⟩
   |exact⟨m,by rw[a.1]⟩
   |exact⟨m,by simp_all⟩
 |_=>rw[hv]at a;simp at a
def R6{w:J}(h:w.ShapedOpen Tryz.prog):N5 w:=
 Sg (g:=3) (t:=3) (zero:=#[G 0]) h (of_decide_eq_true (by kernel_rfl)) (by kernel_rfl) rfl (by kernel_rfl) (by kernel_rfl) Tryz.underlying3
def ajR:(((begin Tryz.prog (λ_ _=>0) default).world.heap[1]?).bind Obj.row?).map (·.2)=some 223:=by kernel_rfl
def ag1{w:J}(h:w.ShapedOpen Tryz.prog):∃c t,w.heap[1]?=some (gH c t)/\t∉Lq:=by
 obtain⟨⟨z,t⟩,b,d⟩:=Option.map_eq_some_iff.1 ajR;obtain rfl:t=223:=d;obtain⟨a,e,_⟩:=h.1 1 z _ (of_decide_eq_true (by kernel_rfl)) b;exact⟨a,_,e,by decide⟩
def aeT(H:Type)(kX:TypeId×gP->H)(W:J)(base:Nat)(args:jL)(l o:List (DataW H))(a:List MemPlace)
  (c:∀(j:Nat)t v,Tryz.f3.params[j]?=some t->args[j]?=some v->Value.okWide Tryz.prog W .any base t v)
  (I:DataW.Whole kX Tryz.prog Tryz.f3.params.toList Rows.formedSpec.vars false W args.toList l o a)
  (b:(DataW.weightsEach Tryz.prog (Tryz.f3.params.toList++(OpenSpec.ofChange Rows.formedSpec).bare.plain.varTypes Tryz.prog) (l++o)).all (·<=reachBytes)=true)
  (F:laidMetH Tryz.prog Rows.formedRow.laid W) (i:W.ShapedOpen Tryz.prog):
  Calls Tryz.prog 3 args W λe n=>∃v,e=iA v/\Rows.formedSpec.post kX Tryz.prog Tryz.f3 false true false false W args v n:=by
 have L:y9 W:=⟨LD F,ag1 i⟩;have y:=Mr F;have w:0<W.heap.size:=by
  rcases D0 0 W.heap.size with r|r;exact r;unfold errorType at y;simp[World.cell?,Ho r]at y
 have B:W4 W:=⟨L,R6 i,y,w⟩;have f:=I;obtain⟨p,q,d,P,rfl,T,U⟩:=I;have E:DataW.TrodAll kX Tryz.prog W 0 (λ_=>true) true Tryz.f3.params.toList args.toList l p:=d;have k:(DataW.weightsEach Tryz.prog (Tryz.f3.params.toList++[]) (l++o)).all (·<=reachBytes)=true:=b;clear d b;rw[Tryz.params3]at E c k;obtain⟨v0,d0,rfl,rfl,C⟩:=trodAll_one E;obtain⟨rfl,rfl⟩:=trodVars_none P;have u:=C;obtain⟨s,A,R,X,w0⟩:=Go.ChangeMaps.open_string Tryz.underlying9 (c 0 9 v0 rfl rfl) C;subst A R X;simp only[Xt]at f;have z:∀x∈([]:List MemPlace),x.block<W.heap.size:=λx hx=>by cases hx
 have m:s.size<=140737488351232:=by
  have D:=sized_string k (j:=0) (t:=9) rfl rfl;have K:s.data.toList.length=s.size:=by simp
  rw[K]at D;exact D
 refine(YB s W (by omega) B).mono λe n ⟨S,Q⟩=>?_;subst S;have g:Below W.heap.size W n:=Q.below (ic _) (by simp);refine⟨_,rfl,_,_,_,[],[],[],f,?_,?_,?_,g.frame _,λh=>by cases h⟩;exact trodAll_mk1 (shut_bool Tryz.underlying4 true);exact trodAll_mk1 (Below.trod lays (by kernel_rfl) (of_decide_eq_true (by kernel_rfl)) u g z);rfl
end Go.Proofs.YtdbbknopdbpfaaaGreatDoor
