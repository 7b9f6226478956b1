import Derived.Test.YthcohfdidcdchaaGreatDoorCards
import Derived.Test.YthcohfdidcdchaaGreatDoorTie
import Derived.Test.YthcohfdidcdchaaGreatDoorRdY
import Derived.Lib.LaidU8
import Derived.Deep.Slices
import Derived.Deep.DeepHandedRow
set_option linter.unusedSimpArgs false
set_option linter.unusedVariables false
set_option linter.defProp false
set_option maxHeartbeats 0
set_option maxRecDepth 100000
namespace Go.Proofs.YthcohfdidcdchaaGreatDoor
open Go.ChangeShapes Go.WideShapes Go.ChangeAt Go.RowKit Go.Deep
def own:ownKnob Tryz.prog.godebug=none:=by kernel_rfl
def lays:laidOutB Tryz.prog=true:=by kernel_rfl
def aj1:Tryz.prog.globalNamed "errors.errorType"=some 0:=by kernel_rfl
def ai2:((List.range 394).filter λt=>Tryz.prog.rowNamed t [101,114,114,111,114])=[51]:=by kernel_rfl
def ahE:Tryz.prog.types.size=394:=by kernel_rfl
def abF:typeHandle Tryz.prog 51=jG 7 51:=by kernel_rfl
def Ko {W:gm} (h:laidMetH Tryz.prog Rows.writtenRow.laid W):errorType W:=by
 have i:laidMet Tryz.prog _ W/\handlesMet Tryz.prog [("errors.errorType",Rows.laid_errors_errorType)] W:=h;obtain⟨a,u,j,e1,e2,e,f,b⟩:=i.2 _ (List.mem_singleton.2 rfl);have g:a=[101,114,114,111,114]:=(jv e1).symm;subst g;obtain rfl:u=140:=jv (e2.symm.trans (by kernel_rfl));have d:j∈(List.range 394).filter λt=>Tryz.prog.rowNamed t [101,114,114,111,114]:=List.mem_filter.2 ⟨List.mem_range.2 (by rw[<-ahE];exact e),f⟩;rw[ai2]at d;obtain rfl:=List.mem_singleton.1 d;rw[abF]at b;have c:=World.var?_cell aj1 b 0;simp at c;exact c
def aj2:Tryz.prog.globalNamed "strings.asciiSpace"=some 1:=by kernel_rfl
def ai3:(Tryz.prog.globals[1]?).map (·.type)=some 224:=by kernel_rfl
def afM:(Rows.laid_strings_asciiSpace:DataW Unit)=Lib.tabData .u8 Lib.asciiSpaceTab:=by kernel_rfl
def JC {W:gm} (h:laidMetH Tryz.prog Rows.writtenRow.laid W):sj W:=by
 have f:laidMet Tryz.prog [("unicode/utf8.acceptRanges",Rows.laid_unicode_utf8_acceptRanges),("unicode.White_Space",Rows.laid_unicode_White_Space),("strings.asciiSpace",Rows.laid_strings_asciiSpace),("unicode/utf8.first",Rows.laid_unicode_utf8_first)] W/\handlesMet Tryz.prog [("errors.errorType",Rows.laid_errors_errorType)] W:=h;obtain⟨g,t,k,b,p,i,j,a,c⟩:=Lib.laidMet.reads f.1 (n:= "strings.asciiSpace") (d:=Rows.laid_strings_asciiSpace) (by simp);obtain rfl:=jv (aj2.symm.trans i);obtain rfl:=jv (ai3.symm.trans j);rw[afM]at c;unfold sj Lib.TabIs;rw[a,<-Lib.cells_of_tab (e:=5) (n:=256) (by kernel_rfl) (by kernel_rfl) (by kernel_rfl) (by kernel_rfl) c]
theorem Pj {w:gm} {g:Nat} {t:TypeId} {zero:jA} (h:w.ShapedOpen Tryz.prog) (p:g < Tryz.prog.globals.size)
  (l:((begin Tryz.prog (λ_ _=>0) default).world.heap[g]?).bind Obj.row?=some (zero,t)) (v:zero.size=1)
  (n:Tryz.prog.buildable t=true) (o:Tryz.prog.cellTypes Tryz.prog.depth t=some [t]) (r:Tryz.prog.underlying t=some (.int .i64)):(∃m,w.cell? ⟨g,0,none⟩=some (fV m))/\g < w.heap.size:=by
 obtain⟨e,j,s,q⟩:=h.1 g zero t p l;obtain⟨x,d,_,c⟩:=q n;rw[o]at d;cases d;have i:0 < e.size:=by omega
 obtain⟨u,f,a⟩:=c 0 e[0] (xP i);have:u=t:=by simpa using f.symm
 subst this;have b:w.cell? ⟨g,0,none⟩=some e[0]:=by simp[World.cell?,j,i]
 refine⟨?_,iQ j⟩;rw[b];unfold Cell.ok at a;rw[r]at a;cases hv:e[0]with
 |int k m=>
  rw[hv]at a;simp at a
  first
   |exact⟨m,by rw[<-a.1]⟩
   |exact⟨m,by rw[a.1]⟩
   |exact⟨m,by simp_all⟩
 |_=>rw[hv]at a;simp at a
def O9 {w:gm} (h:w.ShapedOpen Tryz.prog):LY w:=
 Pj (g:=3) (t:=3) (zero:=#[fV 0]) h (of_decide_eq_true (by kernel_rfl)) (by kernel_rfl) rfl (by kernel_rfl) (by kernel_rfl) Tryz.underlying3
def afP:(((begin Tryz.prog (λ_ _=>0) default).world.heap[1]?).bind Obj.row?).map (·.2)=some 224:=by kernel_rfl
def ac4 {w:gm} (h:w.ShapedOpen Tryz.prog):∃c t,w.heap[1]?=some (gz c t)/\t∉Jp:=by
 obtain⟨⟨z,t⟩,b,d⟩:=Option.map_eq_some_iff.1 afP;obtain rfl:t=224:=d;obtain⟨a,e,_⟩:=h.1 1 z _ (of_decide_eq_true (by kernel_rfl)) b;exact⟨a,_,e,by decide⟩
def aa7 (H:Type) (ku:TypeId×gG->H) (W:gm) (base:Nat) (args:jA) (l o:List (DataW H)) (a:List MemPlace)
  (c:∀(j:Nat) t v,Tryz.f3.params[j]?=some t->args[j]?=some v->Value.okWide Tryz.prog W .any base t v)
  (G:DataW.Whole ku Tryz.prog Tryz.f3.params.toList Rows.writtenSpec.vars false W args.toList l o a)
  (b:(DataW.weightsEach Tryz.prog (Tryz.f3.params.toList++(OpenSpec.ofChange Rows.writtenSpec).bare.plain.varTypes Tryz.prog) (l++o)).all (·<=reachBytes)=true)
  (F:laidMetH Tryz.prog Rows.writtenRow.laid W) (i:W.ShapedOpen Tryz.prog):
  Calls Tryz.prog 3 args W λe n=>∃v,e=ig v/\Rows.writtenSpec.post ku Tryz.prog Tryz.f3 false true false false W args v n:=by
 have J:yq W:=⟨JC F,ac4 i⟩;have y:=Ko F;have w:0 < W.heap.size:=by
  rcases pJ 0 W.heap.size with r|r
  .exact r
  .unfold errorType at y;simp[World.cell?,LU r]at y
 have B:W4 W:=⟨J,O9 i,y,w⟩;have f:=G;obtain⟨p,q,d,K,rfl,P,Q⟩:=G;have E:DataW.TrodAll ku Tryz.prog W 0 (λ_=>true) true Tryz.f3.params.toList args.toList l p:=d;have k:(DataW.weightsEach Tryz.prog (Tryz.f3.params.toList++[]) (l++o)).all (·<=reachBytes)=true:=b;clear d b;rw[Tryz.params3]at E c k;obtain⟨T,U,rfl,rfl,C⟩:=trodAll_one E;obtain⟨rfl,rfl⟩:=trodVars_none K;have u:=C;obtain⟨s,A,N,R,V⟩:=Go.ChangeMaps.open_string Tryz.underlying9 (c 0 9 T rfl rfl) C;subst A N R;simp only[FO]at f;have z:∀x∈([]:List MemPlace),x.block < W.heap.size:=λx S=>by cases S
 have m:s.size<=140737488351232:=by
  have D:=sized_string k (j:=0) (t:=9) rfl rfl;have I:s.data.toList.length=s.size:=by simp
  rw[I]at D;exact D
 refine(T6 s W (by omega) B).mono λe n ⟨O,L⟩=>?_;subst O;have g:Below W.heap.size W n:=L.below (gL _) (by simp);refine⟨_,rfl,_,_,_,[],[],[],f,?_,?_,?_,g.frame _,λh=>by cases h⟩
 .exact trodAll_mk1 (shut_bool Tryz.underlying4 true)
 .exact trodAll_mk1 (Below.trod lays (by kernel_rfl) (of_decide_eq_true (by kernel_rfl)) u g z)
 .rfl
end Go.Proofs.YthcohfdidcdchaaGreatDoor
