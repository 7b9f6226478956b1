import Derived.Test.YtlhhgenpcjjajaaGreatDoorCards
import Derived.Test.YtlhhgenpcjjajaaGreatDoorTie
import Derived.Test.YtlhhgenpcjjajaaGreatDoorToldS
import Derived.ProofKit
import Derived.OpenShut
import Derived.SizedLaws
import Derived.LaidLaws
import Derived.LaidHandle
import Derived.Lib.LaidU8
import Derived.Deep.Slices
import Derived.Deep.DeepHandedRow
set_option linter.unusedSimpArgs false
set_option linter.unusedVariables false
set_option linter.defProp false
set_option maxHeartbeats 0
set_option maxRecDepth 100000
namespace Go.Proofs.YtlhhgenpcjjajaaGreatDoor
open Go.ChangeShapes Go.WideShapes Go.ChangeAt Go.RowKit Go.Deep
def own:ownKnob Tryz.prog.godebug=none:=by kernel_rfl
def lays:laidOutB Tryz.prog=true:=by kernel_rfl
def agB:Tryz.prog.globalNamed "errors.errorType"=some 0:=by kernel_rfl
def agc:((List.range 400).filter λt=>Tryz.prog.rowNamed t [101,114,114,111,114])=[59]:=by kernel_rfl
def afw:Tryz.prog.types.size=400:=by kernel_rfl
def acQ:typeHandle Tryz.prog 59=jp 7 59:=by kernel_rfl
def aat {W:fO} (h:laidMetH Tryz.prog Rows.trailedRow.laid W):errorType W:=by
 have i:laidMet Tryz.prog _ W/\handlesMet Tryz.prog [("errors.errorType",Rows.laid_errors_errorType)] W:=h;obtain⟨a,u,j,e1,e2,e,f,b⟩:=i.2 _ (List.mem_singleton.2 rfl);have g:a=[101,114,114,111,114]:=(jr e1).symm;subst g;obtain rfl:u=145:=jr (e2.symm.trans (by kernel_rfl));have d:j∈(List.range 400).filter λt=>Tryz.prog.rowNamed t [101,114,114,111,114]:=List.mem_filter.2 ⟨List.mem_range.2 (by rw[<-afw];exact e),f⟩;rw[agc]at d;obtain rfl:=List.mem_singleton.1 d;rw[acQ]at b;have c:=World.var?_cell agB b 0;simp at c;exact c
def agL:Tryz.prog.globalNamed "strings.asciiSpace"=some 1:=by kernel_rfl
def af3:(Tryz.prog.globals[1]?).map (·.type)=some 230:=by kernel_rfl
def adj:(Rows.laid_strings_asciiSpace:DataW Unit)=Lib.tabData .u8 Lib.asciiSpaceTab:=by kernel_rfl
def aas {W:fO} (h:laidMetH Tryz.prog Rows.trailedRow.laid W):th W:=by
 have f:laidMet Tryz.prog [("unicode/utf8.acceptRanges",Rows.laid_unicode_utf8_acceptRanges),("unicode.White_Space",Rows.laid_unicode_White_Space),("strings.asciiSpace",Rows.laid_strings_asciiSpace),("unicode/utf8.first",Rows.laid_unicode_utf8_first)] W/\handlesMet Tryz.prog [("errors.errorType",Rows.laid_errors_errorType)] W:=h;obtain⟨g,t,k,b,p,i,j,a,c⟩:=Lib.laidMet.reads f.1 (n:= "strings.asciiSpace") (d:=Rows.laid_strings_asciiSpace) (by simp);obtain rfl:=jr (agL.symm.trans i);obtain rfl:=jr (af3.symm.trans j);rw[adj]at c;unfold th Lib.TabIs;rw[a,<-Lib.cells_of_tab (e:=5) (n:=256) (by kernel_rfl) (by kernel_rfl) (by kernel_rfl) (by kernel_rfl) c]
theorem aaD {w:fO} {g:Nat} {t:TypeId} {zero:jB} (h:w.ShapedOpen Tryz.prog) (p:g < Tryz.prog.globals.size)
  (l:((begin Tryz.prog (λ_ _=>0) default).world.heap[g]?).bind Obj.row?=some (zero,t)) (v:zero.size=1)
  (n:Tryz.prog.buildable t=true) (o:Tryz.prog.cellTypes Tryz.prog.depth t=some [t]) (r:Tryz.prog.underlying t=some (.int .i64)):(∃m,w.cell? ⟨g,0,none⟩=some (fK m))/\g < w.heap.size:=by
 obtain⟨e,j,s,q⟩:=h.1 g zero t p l;obtain⟨x,d,_,c⟩:=q n;rw[o]at d;cases d;have i:0 < e.size:=by omega
 obtain⟨u,f,a⟩:=c 0 e[0] (xD i);have:u=t:=by simpa using f.symm
 subst this;have b:w.cell? ⟨g,0,none⟩=some e[0]:=by simp[World.cell?,j,i]
 refine⟨?_,iB j⟩;rw[b];unfold Cell.ok at a;rw[r]at a;cases hv:e[0]with
 |int k m=>
  rw[hv]at a;simp at a
  first
   |exact⟨m,by rw[<-a.1]⟩
   |exact⟨m,by rw[a.1]⟩
   |exact⟨m,by simp_all⟩
 |_=>rw[hv]at a;simp at a
def aaw {w:fO} (h:w.ShapedOpen Tryz.prog):K5 w:=
 aaD (g:=3) (t:=3) (zero:=#[fK 0]) h (of_decide_eq_true (by kernel_rfl)) (by kernel_rfl) rfl (by kernel_rfl) (by kernel_rfl) Tryz.underlying3
def aem:(((begin Tryz.prog (λ_ _=>0) default).world.heap[1]?).bind Obj.row?).map (·.2)=some 230:=by kernel_rfl
def ac5 {w:fO} (h:w.ShapedOpen Tryz.prog):∃c t,w.heap[1]?=some (fV c t)/\t∉K9:=by
 obtain⟨⟨z,t⟩,b,d⟩:=Option.map_eq_some_iff.1 aem;obtain rfl:t=230:=d;obtain⟨a,e,_⟩:=h.1 1 z _ (of_decide_eq_true (by kernel_rfl)) b;exact⟨a,_,e,by decide⟩
def ac4 (H:Type) (kK:TypeId×gh->H) (W:fO) (base:Nat) (args:jB) (l o:List (DataW H)) (a:List MemPlace)
  (c:∀(j:Nat) t v,Tryz.f4.params[j]?=some t->args[j]?=some v->Value.okWide Tryz.prog W .any base t v)
  (G:DataW.Whole kK Tryz.prog Tryz.f4.params.toList Rows.trailedSpec.vars false W args.toList l o a)
  (b:(DataW.weightsEach Tryz.prog (Tryz.f4.params.toList++(OpenSpec.ofChange Rows.trailedSpec).bare.plain.varTypes Tryz.prog) (l++o)).all (·<=reachBytes)=true)
  (F:laidMetH Tryz.prog Rows.trailedRow.laid W) (i:W.ShapedOpen Tryz.prog):
  Calls Tryz.prog 4 args W λe n=>∃v,e=gO v/\Rows.trailedSpec.post kK Tryz.prog Tryz.f4 false true false false W args v n:=by
 have J:ya W:=⟨aas F,ac5 i⟩;have y:=aat F;have w:0 < W.heap.size:=by
  rcases mq 0 W.heap.size with r|r
  .exact r
  .unfold errorType at y;simp[World.cell?,LO r]at y
 have B:W4 W:=⟨J,aaw i,y,w⟩;have f:=G;obtain⟨p,q,d,K,rfl,P,Q⟩:=G;have E:DataW.TrodAll kK Tryz.prog W 0 (λ_=>true) true Tryz.f4.params.toList args.toList l p:=d;have k:(DataW.weightsEach Tryz.prog (Tryz.f4.params.toList++[]) (l++o)).all (·<=reachBytes)=true:=b;clear d b;rw[Tryz.params4]at E c k;obtain⟨T,U,rfl,rfl,C⟩:=trodAll_one E;obtain⟨rfl,rfl⟩:=trodVars_none K;have u:=C;obtain⟨s,A,N,R,V⟩:=Go.ChangeMaps.open_string Tryz.underlying9 (c 0 9 T rfl rfl) C;subst A N R;simp only[Gt]at f;have z:∀x∈([]:List MemPlace),x.block < W.heap.size:=λx S=>by cases S
 have m:s.size<=140737488351232:=by
  have D:=sized_string k (j:=0) (t:=9) rfl rfl;have I:s.data.toList.length=s.size:=by simp
  rw[I]at D;exact D
 refine(abK s W (by omega) B).mono λe n ⟨O,L⟩=>?_;subst O;have g:Below W.heap.size W n:=L.below (gr _) (by simp);refine⟨_,rfl,_,_,_,[],[],[],f,?_,?_,?_,g.frame _,λh=>by cases h⟩
 .exact trodAll_mk1 (shut_bool Tryz.underlying4 true)
 .exact trodAll_mk1 (Below.trod lays (by kernel_rfl) (of_decide_eq_true (by kernel_rfl)) u g z)
 .rfl
end Go.Proofs.YtlhhgenpcjjajaaGreatDoor
