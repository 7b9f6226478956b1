import Derived.Test.YtcalkelgoekpfaaGreatDoorCards
import Derived.Test.YtcalkelgoekpfaaGreatDoorTie
import Derived.Test.YtcalkelgoekpfaaGreatDoorAiO
import Derived.Lib.LaidU8
import Derived.Deep.Slices
import Derived.Deep.DeepHandedRow
set_option linter.unusedSimpArgs false
set_option linter.unusedVariables false
set_option linter.defProp false
set_option linter.unusedSectionVars false
set_option maxHeartbeats 0
set_option maxRecDepth 100000
namespace Go.Proofs.YtcalkelgoekpfaaGreatDoor
open Go.ChangeShapes Go.WideShapes Go.ChangeAt Go.RowKit Go.Deep
open Option renaming some→H,none→F
open Bool renaming true→C,false→I
open List renaming length→ln,mem_singleton→cC,range→et
open _root_.Array renaming size→zq
def own:ownKnob Tryz.prog.godebug=F:=by kernel_rfl
def lays:laidOutB Tryz.prog=C:=by kernel_rfl
def ann:Tryz.prog.globalNamed "errors.errorType"=H 0:=by kernel_rfl
def alP:((et 396).filter λt=>Tryz.prog.rowNamed t [101,114,114,111,114])=[54]:=by kernel_rfl
theorem aj2:Tryz.prog.types.size=396:=by kernel_rfl
def alO:typeHandle Tryz.prog 54=gU 7 54:=by kernel_rfl
def ano:Tryz.prog.globalNamed "strings.asciiSpace"=H 1:=by kernel_rfl
def alQ:(Tryz.prog.globals[1]?).map (·.type)=H 226:=by kernel_rfl
def ana:(Rows.laid_strings_asciiSpace:DataW Unit)=Lib.tabData .u8 Lib.asciiSpaceTab:=by kernel_rfl
theorem Qp{w:J}{g:Nat}{t:TypeId}{a:io}(h:w.ShapedOpen Tryz.prog)(e:g<Tryz.prog.globals.size)
  (c:((begin Tryz.prog (λ_ _=>0) default).world.heap[g]?).bind Obj.row?=H (a,t)) (j:a.size=1)
  (d:Tryz.prog.buildable t=C) (f:Tryz.prog.cellTypes Tryz.prog.depth t=H [t]) (i:Tryz.prog.underlying t=H (.int .i64)):(∃m,w.cell? ⟨g,0,F⟩=H (G m))/\g<zq w.heap:=by
 let ⟨cs,hh,n,hr⟩:=h.1 g a t e c
 let ⟨ts,hts,_,hall⟩:=hr d
 let ⟨u,hu',hok⟩:=hall 0 cs[0] (AQ (by omega))
 let b:w.cell? ⟨g,0,F⟩=H cs[0]:=by simp[World.cell?,hh]
 unfold Cell.ok at hok;grind
theorem acW(a2:Type)(jl:TypeId×dB->a2)(W:J)(o:Nat)(n:io)(L P:List (DataW a2))(a:List MemPlace)
  (m:∀(j:Nat)t v,Tryz.f3.params[j]?=H t->n[j]?=H v->Value.okWide Tryz.prog W .any o t v)
  (R:DataW.Whole jl Tryz.prog Tryz.f3.params.toList Rows.againSpec.vars I W n.toList L P a)
  (l:(DataW.weightsEach Tryz.prog (Tryz.f3.params.toList++(OpenSpec.ofChange Rows.againSpec).bare.plain.varTypes Tryz.prog) (L++P)).all (·<=reachBytes)=C)
  (Q:laidMetH Tryz.prog Rows.againRow.laid W) (k:W.ShapedOpen Tryz.prog):dS 3 n W λe K=>∃v,e=ff v/\Rows.againSpec.post jl Tryz.prog Tryz.f3 I C I I W n v K:=by
 let i:=(show errorType W by
   let ⟨name,u,ty,e1,e2,e3,e4,e5⟩:=Q.2 _ (cC.2 D)
   have U:=(jS e1).symm;subst U;obtain rfl:u=143:=jS (e2.symm.trans (by kernel_rfl))
   let T:ty∈(et 396).filter λt=>Tryz.prog.rowNamed t _:=List.mem_filter.2 ⟨List.mem_range.2 (by grind[aj2]),e4⟩
   rw[alP]at T;obtain rfl:=cC.1 T
   let S:=World.var?_cell ann e5 0
   simp at S;exact S)
 let B:0<zq W.heap:=by rcases qp 0 W.heap.size with b|b;exact b;unfold errorType at i;simp[World.cell?,Vk b]at i
 let A:=R
 obtain⟨p,q,y,F,rfl,a0,a1⟩:=R
 let X:=y
 let E:=l
 obtain⟨N,O,rfl,rfl,d⟩:=trodAll_one X;obtain⟨rfl,rfl⟩:=trodVars_none F
 let ⟨s,hv0,hd,hp,w0⟩:=Go.ChangeMaps.open_string Tryz.underlying9 (m 0 9 N D D) d
 subst hv0 hd hp
 let r:s.size<=140737488351232:=by
  let w:=sized_string E (j:=0) D D
  let V:ln s.data.toList=s.size:=by simp
  exact w
 refine(acr s W (by omega) (⟨(⟨(show rK W by
   let b:laidMet Tryz.prog [("unicode/utf8.acceptRanges",Rows.laid_unicode_utf8_acceptRanges),("unicode.White_Space",Rows.laid_unicode_White_Space),("strings.asciiSpace",Rows.laid_strings_asciiSpace),("unicode/utf8.first",Rows.laid_unicode_utf8_first)] W/\handlesMet Tryz.prog _ W:=Q
   let ⟨g,t,cs,fuel,p,i,ht,hvar,hd⟩:=Lib.laidMet.reads b.1 (n:= "strings.asciiSpace") (d:=Rows.laid_strings_asciiSpace) (by simp)
   obtain rfl:=jS (ano.symm.trans i);obtain rfl:=jS (alQ.symm.trans ht);unfold rK Lib.TabIs;rw[hvar,<-Lib.cells_of_tab (e:=5) (n:=256) (by kernel_rfl) (by kernel_rfl) (by kernel_rfl) (by kernel_rfl) hd]),(show∃c t,W.heap[1]?=H (dr c t)/\t∉My by
   let ⟨⟨z,t⟩,d,w⟩:=Option.map_eq_some_iff.1 (show(((begin Tryz.prog (λ_ _=>0) default).world.heap[1]?).bind Obj.row?).map (·.2)=H 226 by kernel_rfl)
   obtain rfl:=w
   let ⟨cs,hh,_⟩:=k.1 1 z _ (of_decide_eq_true (rfl)) d
   exact⟨cs,_,hh,nofun⟩)⟩),(show RP W from Qp k (of_decide_eq_true (rfl)) (rfl) D (by kernel_rfl) (rfl) Tryz.underlying3),i,B⟩)).mono λe K ⟨G,hb⟩=>?_
 subst G
 let f:=hb.below (dF _) (by simp)
 refine⟨_,D,_,_,_,[],[],[],A,(trodAll_mk1 (shut_bool Tryz.underlying4 C)),?_,?_,f.frame _,λh=>by cases h⟩;exact trodAll_mk1 (Below.trod lays (by kernel_rfl) (of_decide_eq_true (by kernel_rfl)) d f (λx M=>by cases M));rfl
end Go.Proofs.YtcalkelgoekpfaaGreatDoor
