import Derived.Test.YtlhhgenpcjjajaaGreatDoorKept
import Derived.Deep.MidRow
import Derived.Laws.EntriesVeiled
import Derived.Great.BuildSlice
set_option linter.unusedSimpArgs false
set_option linter.unusedVariables false
set_option linter.defProp false
set_option maxHeartbeats 0
set_option maxRecDepth 100000
namespace Go.Proofs.YtlhhgenpcjjajaaGreatDoor
open Go.RowKit Tryz
def Ii:=@List.nodup_cons
def zR:=@Array.getElem?_setIfInBounds
def p9:=@List.setIfInBounds_toArray
def pX:=@List.set_cons_zero
def pZ:=@List.set_cons_succ
def BZ:=@List.length_map
def T0:=@List.map_reverse
def Bf:=@Array.getElem?_setIfInBounds_self_of_lt
def Z7:=@List.dropWhile_sublist
def JU:=@List.map_map
def ME:=@Function.comp_def
def AB:=@List.mem_of_mem_erase
section
variable {C args c : jB} {R : List (List fN×Ru)} {T : List TypeId} {X : Nat->Prop} {b bB bD base bm bs g i n s : Nat} {cw cw' w w' : fO} {e t : TypeId} {f : Nat->Nat} {ms : List (Nat×List (List fN×Ru))} {p : fN->Bool} {r : Ru} {rs : List (Ru×gh)} {v v0 v1 v2 v3 v4 v5 v6 v7 v8 v9 : gh} {x y : iM} {xs : List gh} {σ : Ab}
theorem sj (w:fO) (d h:Obj):((w.alloc d).alloc h).heap[w.heap.size]?=some d/\((w.alloc d).alloc h).heap[w.heap.size+1]?=some h:=by
 refine⟨(Below.heap_alloc _ _ _ (by simp)).trans (fB w _),?_⟩;have:=fB (w.alloc d) h
 simp_all
theorem nX (w:fO) (d h j:Obj):(((w.alloc d).alloc h).alloc j).heap[w.heap.size]?=some d/\(((w.alloc d).alloc h).alloc j).heap[w.heap.size+1]?=some h/\(((w.alloc d).alloc h).alloc j).heap[w.heap.size+1+1]?=some j:=by
 have⟨h1,h2⟩:=sj w d h;refine⟨(Below.heap_alloc _ _ _ (by grind)).trans h1,(Below.heap_alloc _ _ _ (by simp)).trans h2,?_⟩;have:=fB ((w.alloc d).alloc h) j
 simp_all
theorem FZ (w:fO) (d h j k:Obj):((((w.alloc d).alloc h).alloc j).alloc k).heap[w.heap.size]?=some d/\((((w.alloc d).alloc h).alloc j).alloc k).heap[w.heap.size+1]?=some h/\((((w.alloc d).alloc h).alloc j).alloc k).heap[w.heap.size+1+1]?=some j/\((((w.alloc d).alloc h).alloc j).alloc k).heap[w.heap.size+1+1+1]?=some k:=by
 have⟨h1,h2,h3⟩:=nX w d h j;refine⟨(Below.heap_alloc _ _ _ (by grind)).trans h1,(Below.heap_alloc _ _ _ (by simp)).trans h2,(Below.heap_alloc _ _ _ (by simp)).trans h3,?_⟩;have:=fB (((w.alloc d).alloc h).alloc j) k
 simp_all
abbrev zU (bm bB bD:Nat) (r:Ru) (w:fO) (e:Ending) (w':fO):Prop:=(∃v,e=gO v/\ny bm bB bD r v w')/\Kept [] w w'
def pr (bm bB bD:Nat) (m:Int) (w:fO):Calls prog 106 #[gV bB,fK m] w (zU bm bB bD (.nJ m) w):=by
 refine(aaQ bB m w).mono ?_;rintro e w' ⟨rfl,rfl⟩;have⟨h1,h2⟩:=sj w (fV #[gV bB] 121) (fV #[fK m] 177);exact⟨⟨_,rfl,_,_,rfl,h1,h2⟩,((Kept.refl _ _).alloc _).alloc _⟩
def ow (bm bB bD d:Nat) (own:Bool) (w:fO):Calls prog 98 #[gV bB,.func (.func d) #[gV (if own then bB else bD)] #[]] w (zU bm bB bD (.gm d own) w):=by
 refine(M1 bB (.func d) #[gV (if own then bB else bD)] #[] w).mono ?_;rintro e w' ⟨rfl,rfl⟩;exact⟨⟨_,rfl,_,rfl,fB w _⟩,(Kept.refl _ _).alloc _⟩
def oc (bm bB bD f:Nat) (w:fO):Calls prog 130 #[gV bB,.func (.func f) #[gV bB] #[]] w (zU bm bB bD (.ahead f) w):=by
 refine(OK bB (.func f) #[gV bB] #[] w).mono ?_;rintro e w' ⟨rfl,rfl⟩;have⟨h1,h2⟩:=sj w (fV #[gV bB] 121) (fV #[.func (.func f) #[gV bB] #[]] 69);exact⟨⟨_,rfl,_,_,rfl,h1,h2⟩,((Kept.refl _ _).alloc _).alloc _⟩
def xy (bm bB bD f:Nat) (w:fO):Calls prog 134 #[.func (.func f) #[gV bB] #[]] w (zU bm bB bD (.ends f) w):=by
 refine(abr (.func f) #[gV bB] #[] w).mono ?_;rintro e w' ⟨rfl,rfl⟩;exact⟨⟨_,rfl,_,rfl,fB w _⟩,(Kept.refl _ _).alloc _⟩
theorem ny.func (h:ny bm bB bD r v w) (d:r≠ .nil):∃f a l,v= .func f a l:=by
 cases r with
 |nil=>grind
 |nothing=>exact⟨_,_,_,h⟩
 |gz f=>exact⟨_,_,_,h⟩
 |nJ m=>have⟨_,_,e,_⟩:=h;grind
 |gm a b=>have⟨_,e,_⟩:=h;grind
 |ahead f=>have⟨_,_,e,_⟩:=h;grind
 |ends f=>have⟨_,e,_⟩:=h;grind
 |GZ r=>have⟨_,_,_,e,_⟩:=h;grind
 |po a b=>have⟨_,_,_,_,e,_⟩:=h;grind
 |mh a b c=>have⟨_,_,_,_,_,e,_⟩:=h;grind
 |item a=>have⟨_,_,_,_,_,e,_⟩:=h;grind
def J9 (bm bB bD:Nat) (r:Ru) (u:gh) (w:fO) (j:r≠ .nil) (h:ny bm bB bD r u w):Calls prog 142 #[gV bB,u] w (zU bm bB bD (.GZ r) w):=by
 obtain⟨f,a,l,rfl⟩:=h.func j;refine(N6 bB f a l w).mono ?_;rintro e w' ⟨rfl,rfl⟩;have⟨h1,h2⟩:=sj w (fV #[gV bB] 121) (fV #[.func f a l] 168);have d:Kept [] w ((w.alloc (fV #[gV bB] 121)).alloc (fV #[.func f a l] 168)):=((Kept.refl _ _).alloc _).alloc _;exact⟨⟨_,rfl,_,_,_,rfl,h1,h2,h.fr (.gv d)⟩,d⟩
theorem Ask.func (h:Ask bm v p w):∃f a l,v= .func f a l:=by
 have⟨k,lb,e,_⟩:=h.call
 grind
def Bk (bm bB bD:Nat) (ks:List fN) (m:Int) (u:gh) (w:fO) (h:Ask bm u (gI ks) w):Calls prog 127 #[gV bB,u,fK m] w (zU bm bB bD (.po ks m) w):=by
 obtain⟨f,a,l,rfl⟩:=h.func;refine(O9 bB f a l m w).mono ?_;rintro e w' ⟨rfl,rfl⟩;have⟨h1,h2,h3⟩:=nX w (fV #[gV bB] 121) (fV #[.func f a l] 89) (fV #[fK m] 177);have d:Kept [] w (((w.alloc (fV #[gV bB] 121)).alloc (fV #[.func f a l] 89)).alloc (fV #[fK m] 177)):=(((Kept.refl _ _).alloc _).alloc _).alloc _;exact⟨⟨_,rfl,_,_,_,_,rfl,h1,h2,h.fr (.gv d),h3⟩,d⟩
def Db (bm bB bD:Nat) (ks:List fN) (d:fN) (m:Int) (u:gh) (w:fO) (j:Ask bm u (gI ks) w):Calls prog 129 #[gV bB,u,fR d,fK m] w (zU bm bB bD (.mh ks d m) w):=by
 obtain⟨f,a,l,rfl⟩:=j.func;refine(Nz bB f a l d m w).mono ?_;rintro e w' ⟨rfl,rfl⟩;have⟨h1,h2,h3,h4⟩:=FZ w (fV #[gV bB] 121) (fV #[.func f a l] 89) (fV #[fR d] 9) (fV #[fK m] 177);have h:Kept [] w ((((w.alloc (fV #[gV bB] 121)).alloc (fV #[.func f a l] 89)).alloc (fV #[fR d] 9)).alloc (fV #[fK m] 177)):=((((Kept.refl _ _).alloc _).alloc _).alloc _).alloc _;exact⟨⟨_,rfl,_,_,_,_,_,rfl,h1,h2,j.fr (.gv h),h3,h4⟩,h⟩
structure lM where
 blank:Ru:= .nil
 jq:Ru:= .nil
 gm:Ru:= .nil
 gP:Ru:= .nil
 il:Ru:= .nil
 start:Option (List (List fN×Ru)):=none
 stop:Option (List (List fN×Ru)):=none
 jj:Ru:= .nil
 jG:Ru:= .nil
 gN:Ru:= .nil
variable {sp : lM}
def rB (bm bB bD:Nat):Option (List (List fN×Ru))->gh->fO->Prop
 |none,v,_=>v= .map none
 |some R,v,w=>∃b,IsMap bm bB bD b R v w
theorem IsMap.lt (h:IsMap bm bB bD b R v w):b < w.heap.size:=by
 have⟨es,ck,ha⟩:=h.at
 grind
def rB.gJ {R : Option (List (List fN×Ru))} (h:rB bm bB bD R v w) (d:Kept [] w w'):rB bm bB bD R v w':=by
 cases R with
 |none=>exact h
 |some R=>
  have⟨b,hm⟩:=h;exact⟨b,hm.fr (.gv d) (d.block b hm.lt (by simp))⟩
structure kE (bm bB bD:Nat) (sp:lM) (v0 v1 v2 v3 v4 v5 v6 v7 v8 v9:gh) (w:fO):Prop where
 blank:ny bm bB bD sp.blank v0 w
 jq:ny bm bB bD sp.jq v1 w
 gm:ny bm bB bD sp.gm v2 w
 gP:ny bm bB bD sp.gP v3 w
 il:ny bm bB bD sp.il v4 w
 start:rB bm bB bD sp.start v5 w
 stop:rB bm bB bD sp.stop v6 w
 jj:ny bm bB bD sp.jj v7 w
 jG:ny bm bB bD sp.jG v8 w
 gN:ny bm bB bD sp.gN v9 w
def kE.gJ (h:kE bm bB bD sp v0 v1 v2 v3 v4 v5 v6 v7 v8 v9 w) (d:Kept [] w w'):kE bm bB bD sp v0 v1 v2 v3 v4 v5 v6 v7 v8 v9 w':=
 have f:wS bm w w':= .gv d
 ⟨h.blank.fr f,h.jq.fr f,h.gm.fr f,h.gP.fr f,h.il.fr f,h.start.gJ d,h.stop.gJ d,h.jj.fr f,h.jG.fr f,h.gN.fr f⟩
def jw (bm bB bD:Nat) (sp:lM) (w:fO) (e:Ending) (w':fO):Prop:=
 ∃v0 v1 v2 v3 v4 v5 v6 v7 v8 v9,e=gO (.agg #[v0,v1,v2,v3,v4,v5,v6,v7,v8,v9])/\kE bm bB bD sp v0 v1 v2 v3 v4 v5 v6 v7 v8 v9 w'/\Kept [] w w'
def BD (bB bD:Nat) (w:fO):Prop:=w.cell? ⟨bB,187,none⟩=some (gV bD)/\bB < w.heap.size
def BD.gJ (h:BD bB bD w) (d:Kept [] w w'):BD bB bD w':=⟨(d.cell (p:=⟨bB,187,none⟩) h.2 (by simp)).trans h.1,lz h.2 d.size⟩
abbrev tS:jB:=#[.nilFunc,.nilFunc,.nilFunc,.nilFunc,.nilFunc,.map none,.map none,.nilFunc,.nilFunc,.nilFunc]
def sO (w:fO) (o:Obj):∃W,W=w.alloc o/\Kept [] w W/\W.heap[w.heap.size]?=some o/\W.heap.size=w.heap.size+1:=⟨_,rfl,(Kept.refl _ _).alloc _,fB w _,by simp⟩
theorem rB.J7 {R : Option (List (List fN×Ru))} (h:rB bm bB bD R v w) (j:Kept [s] w w') (k:w.heap[s]?=some (fV c t)) (f:wS bm w w'):rB bm bB bD R v w':=by
 cases R with
 |none=>exact h
 |some R=>
  have⟨b,hb⟩:=h;refine⟨b,hb.fr f (j.block b hb.lt ?_)⟩;intro d;have e:=List.mem_singleton.1 d;have⟨es,ck,ha⟩:=hb.at
  grind
def kE.J7 (h:kE bm bB bD sp v0 v1 v2 v3 v4 v5 v6 v7 v8 v9 w) (d:Kept [s] w w') (l:w.heap[s]?=some (fV c 172)):kE bm bB bD sp v0 v1 v2 v3 v4 v5 v6 v7 v8 v9 w':=
 have f:wS bm w w':=⟨_,d,λk j _=>by
  have e:=List.mem_singleton.1 j;subst e;exact .inl ⟨_,_,_,l,by decide⟩⟩
 ⟨h.blank.fr f,h.jq.fr f,h.gm.fr f,h.gP.fr f,h.il.fr f,h.start.J7 d l f,h.stop.J7 d l f,h.jj.fr f,h.jG.fr f,h.gN.fr f⟩
def Pj (v0 v1 v2 v3 v4 v5 v6 v7 v8 v9:gh):iY tS 0 [v0,v1,v2,v3,v4,v5,v6,v7,v8,v9]=#[v0,v1,v2,v3,v4,v5,v6,v7,v8,v9]:=by
 simp[iY]
def jV (h:w.heap[s]?=some (fV tS 172)):w.cell? ⟨s,0,none⟩=some .nilFunc/\w.cell? ⟨s,1,none⟩=some .nilFunc/\w.cell? ⟨s,2,none⟩=some .nilFunc/\w.cell? ⟨s,3,none⟩=some .nilFunc/\w.cell? ⟨s,4,none⟩=some .nilFunc/\w.cell? ⟨s,5,none⟩=some (.map none)/\w.cell? ⟨s,6,none⟩=some (.map none)/\w.cell? ⟨s,7,none⟩=some .nilFunc/\w.cell? ⟨s,8,none⟩=some .nilFunc/\w.cell? ⟨s,9,none⟩=some .nilFunc:=by
 simp only[fw h];simp
def jm {w1 : fO} (h:w1.heap[w.heap.size]?=some (fV tS 172)) (m:Kept [] w w1) (q:kE bm bB bD sp v0 v1 v2 v3 v4 v5 v6 v7 v8 v9 w1) (W:fO) (d:W=w1.setCells w.heap.size 0 [v0,v1,v2,v3,v4,v5,v6,v7,v8,v9]):
  W.heap[w.heap.size]?=some (fV #[v0,v1,v2,v3,v4,v5,v6,v7,v8,v9] 172)/\kE bm bB bD sp v0 v1 v2 v3 v4 v5 v6 v7 v8 v9 W/\Kept [] w W:=by
 have l:=jW [v0,v1,v2,v3,v4,v5,v6,v7,v8,v9] w1 w.heap.size tS _ _ 0 h;have j:Kept [w.heap.size] w1 W:=by rw[d];exact Kept.setCells (.inl (by simp)) _ _ (Kept.refl _ _)
 have k:Kept [] w W:=by rw[d];exact Kept.setCells (.inr (gr _)) _ _ m
 rw[Pj,<-d]at l;exact⟨l,q.J7 j h,k⟩
def kg {t : Nat} {j:Func} {a : Act} {W : fO} (d:j.results=#[.cell t 172]) (q:a.tmps.getD t undef=fW w.heap.size) (l:a.defers=[])
  (m:W.heap[w.heap.size]?=some (fV #[v0,v1,v2,v3,v4,v5,v6,v7,v8,v9] 172)/\kE bm bB bD sp v0 v1 v2 v3 v4 v5 v6 v7 v8 v9 W/\Kept [] w W):bodyPost prog j (jw bm bB bD sp w) .ret a W:=by
 have⟨hg,hr,hk⟩:=m;refine nK (v:= .agg #[v0,v1,v2,v3,v4,v5,v6,v7,v8,v9]) ?_ l ⟨_,_,_,_,_,_,_,_,_,_,rfl,hr,hk⟩;have k:=fw hg;have h:a.tmps[t]?.getD undef=fW w.heap.size:=by simpa using q
 simp only[results,d];simp[h,asAddr,Result.andThen,go_sem,k]
def Xp (bm bB bD:Nat) (w:fO) (m:BD bB bD w) (A:ya w) (q:bm < w.heap.size):
  Calls prog 69 #[gV bB] w (jw bm bB bD {blank:= .nothing,gm:= .gm 99 false,gP:= .gz 100,gN:= .gz 101} w):=by
 have z:=@run_makeMap prog;have⟨W0,HW0,HK0,HG0,HZ0⟩:=sO w (fV tS 172);have⟨xL,hBl⟩:=m;go_enter func69,ntmps69
 go_wp21
 refine(ow bm bB bD 99 false _).mono ?_;rintro e w1 ⟨⟨S,rfl,h⟩,j⟩;have⟨f1,a1,l1,hv1⟩:=h.func (by simp);subst hv1;have k:=fx h;have l:Kept [] w w1:=(HW0▸HK0).trans j;have d:=j.at (HW0▸HG0) (by simp);have HS:=fx (jm (v0:= .func (.func 97) #[] #[]) (v1:= .nilFunc) (v2:= .func f1 a1 l1) (v3:= .func (.func 100) #[gV bB] #[]) (v4:= .nilFunc) (v5:= .map none) (v6:= .map none) (v7:= .nilFunc) (v8:= .nilFunc) (v9:= .func (.func 101) #[gV bB] #[])
  (sp:={blank:= .nothing,gm:= .gm 99 false,gP:= .gz 100,gN:= .gz 101}) d l ⟨rfl,rfl,k,rfl,rfl,rfl,rfl,rfl,rfl,rfl⟩ _ rfl)
 clear h;have⟨q0,q1,q2,q3,q4,q5,q6,q7,q8,q9⟩:=jV d;have B:=fA d 0;have D:=fA d 1;have F:=fA d 2;have G:=fA d 3;have H:=fA d 4;have I:=fA d 5;have J:=fA d 6;have K:=fA d 7;have N:=fA d 8;have O:=fA d 9;go_wp2;exact kg results69 rfl rfl HS
structure St (bm bB bD:Nat) (w cw:fO) (rs:List (Ru×gh)) (ms:List (Nat×List (List fN×Ru))):Prop where
 k:Kept [] w cw
 g:cw.heap[w.heap.size]?=some (fV tS 172)
 t:ya cw
 lt:bm < w.heap.size
 Xu:∀p∈rs,ny bm bB bD p.1 p.2 cw
 EG:∀p∈ms,IsMap bm bB bD p.1 p.2 (.map (some p.1)) cw/\w.heap.size<=p.1/\p.1≠bm
 nd:(ms.map (·.1)).Nodup
def St.start (bm bB bD:Nat) (w:fO) (j:ya w) (d:bm < w.heap.size):∃W,W=w.alloc (fV tS 172)/\St bm bB bD w W [] []:=
 ⟨_,rfl,(Kept.refl _ _).alloc _,fB w _,j.fr (bm:=bm) (.gv ((Kept.refl _ _).alloc _)),d,(λ_ h=>(by cases h)),(λ_ h=>(by cases h)),(by simp)⟩
def St.AA (s:St bm bB bD w cw rs ms) (h:Kept [] cw cw'):St bm bB bD w cw' rs ms:=
 have f:wS bm cw cw':= .gv h
 ⟨s.k.trans h,h.at s.g (by simp),s.t.fr f,s.lt,λp d=>(s.Xu p d).fr f,λp d=>⟨(s.EG p d).1.fr f (h.block _ (s.EG p d).1.lt (by simp)),(s.EG p d).2⟩,s.nd⟩
def St.call (s:St bm bB bD w cw rs ms) (j:Kept [] cw cw') (k:ny bm bB bD r v cw'):St bm bB bD w cw' ((r,v)::rs) ms:=
 have d:=s.AA j
 ⟨d.k,d.g,d.t,d.lt,λp h=>by
  rcases List.mem_cons.1 h with rfl|h
  .exact k
  .exact d.Xu p h,d.EG,d.nd⟩
def St.map (s:St bm bB bD w cw rs ms):∃W b,W=cw.alloc (.map #[] 0)/\b=cw.heap.size/\St bm bB bD w W rs ((b,[])::ms):=by
 have j:Kept [] cw (cw.alloc (.map #[] 0)):=(Kept.refl _ _).alloc _;have d:=s.AA j;refine⟨_,_,rfl,rfl,d.k,d.g,d.t,d.lt,d.Xu,λp h=>?_,?_⟩
 .rcases List.mem_cons.1 h with rfl|h
  .exact⟨TY bm bB bD cw,s.k.size,by have:=s.k.size;have:=s.lt;omega⟩
  .exact d.EG p h
 .rw[zF,Ii];refine⟨λk=>?_,s.nd⟩;have⟨p,h,e⟩:=List.mem_map.1 k;have:=(s.EG p h).1.lt;omega
theorem St.on {q : List (List fN×Ru)} (s:St bm bB bD w cw rs ((b,R)::ms)) (l:Kept [b] cw cw') (k:wS bm cw cw') (B:IsMap bm bB bD b q (.map (some b)) cw'):St bm bB bD w cw' rs ((b,q)::ms):=by
 have z:=s.EG (b,R) (by simp);have m:=s.nd;rw[zF,Ii]at m;refine⟨s.k.next l (λx D=> .inr (by grind)),l.at s.g ?_,s.t.fr k,s.lt,λp h=>(s.Xu p h).fr k,λp h=>?_,s.nd⟩
 .intro d;have e:=List.mem_singleton.1 d;have⟨es,ck,ha⟩:=z.1.at;have A:=s.g
  grind
 .rcases List.mem_cons.1 h with rfl|h
  .grind
  .have j:=s.EG p (rj _ h);refine⟨j.1.fr k (l.block _ j.1.lt λd=>?_),j.2⟩
   grind
def St.at (s:St bm bB bD w cw rs ms) (h:(r,v)∈rs):ny bm bB bD r v cw:=s.Xu (r,v) h
def St.oP (s:St bm bB bD w cw rs ms) (h:(b,R)∈ms):rB bm bB bD (some R) (.map (some b)) cw:=⟨b,(s.EG (b,R) h).1⟩
def St.nC (S:St bm bB bD w cw rs ((b,R)::ms)) (s:fN) (ks:List fN) (r:Ru) (q:pL s=true) (d:words s=ks) (z:ny bm bB bD r v cw):
  Calls prog 102 #[.map (some b),fR s,v] cw λe w'=>e=gO (.map (some b))/\St bm bB bD w w' rs ((b,(ks,r)::R)::ms):=by
 have h:=S.EG (b,R) (xl ..);refine(Sl bm bB bD b s ks r R v cw q d S.t h.1 h.2.2 z).mono ?_;rintro e w' ⟨j,k,l,m⟩;exact⟨j,S.on l m k⟩
def St.made (S:St bm bB bD w cw rs ms) {f : Nat} (C:Calls prog f args cw (zU bm bB bD r cw)) (j:r≠ .nil):
  Calls prog f args cw λe w'=>∃f a l,e=gO (.func f a l)/\St bm bB bD w w' ((r,.func f a l)::rs) ms:=by
 refine C.mono ?_;rintro e w' ⟨⟨x,rfl,d⟩,h⟩;obtain⟨f,a,l,rfl⟩:=d.func j;exact⟨f,a,l,rfl,S.call h d⟩
def St.Xf (S:St bm bB bD w cw rs ms) {f : Nat} (C:Calls prog f args cw λe w'=>(∃v,e=gO v/\Ask bm v p w')/\Kept [] cw w'):
  Calls prog f args cw λe w'=>∃f a l,e=gO (.func f a l)/\Ask bm (.func f a l) p w'/\St bm bB bD w w' rs ms:=by
 refine C.mono ?_;rintro e w' ⟨⟨x,rfl,d⟩,h⟩;obtain⟨f,a,l,rfl⟩:=d.func;exact⟨f,a,l,rfl,d,S.AA h⟩
theorem Bu (bm:Nat) (w:fO):Calls prog 128 #[] w λe w'=>(∃v,e=gO v/\Ask bm v (gI [fC]) w')/\Kept [] w w':=by
 have⟨W,hW,HK,g,z⟩:=sO w (fV #[fR fC] 9);have C:=MP bm w.heap.size 1 [fC] W g (by decide);have j:=fx hW;clear hW;go_enter func128,ntmps128
 go_wp21
 rw[<-j.out];refine C.mono ?_;rintro e w' ⟨⟨v,rfl,d⟩,k⟩;have m:=d;have h:=HK.trans k;have⟨f,a,l,hv⟩:=d.func;subst hv;go_wp2;go_ret
 simp_all
theorem zJ (bm:Nat) (w:fO):Calls prog 140 #[] w λe w'=>(∃v,e=gO v/\Ask bm v (gI [fE,fF,fG]) w')/\Kept [] w w':=by
 have⟨W,hW,HK,g,z⟩:=sO w (fV #[fR fE,fR fF,fR fG] 9);have C:=MP bm w.heap.size 3 [fE,fF,fG] W g (by decide);have j:=fx hW;clear hW;go_enter func140,ntmps140
 go_wp21
 rw[<-j.out];refine C.mono ?_;rintro e w' ⟨⟨v,rfl,d⟩,k⟩;have m:=d;have h:=HK.trans k;have⟨f,a,l,hv⟩:=d.func;subst hv;go_wp2;go_ret
 simp_all
def jz (d:Nat) (own:Bool):lM:={blank:= .nJ 6,gm:= .gm d own,gP:= .nothing,il:= .nothing,start:=some [([fy],(.nJ 6))],gN:= .gz 247}
def QA (bm bB bD h j:Nat) (own:Bool) (w:fO) (d:j=if own then bB else bD):Calls prog 98 #[gV bB,.func (.func h) #[gV j] #[]] w (zU bm bB bD (.gm h own) w):=by
 rw[d];exact ow bm bB bD h own w
def Ew (bm bB bD k F:Nat) (own:Bool) (j:F=if own then bB else bD) (w:fO) (S:BD bB bD w) (V:ya w) (D:bm < w.heap.size):
  Calls prog 153 #[gV bB,.func (.func k) #[gV F] #[]] w (jw bm bB bD (jz k own) w):=by
 have U:=@run_makeMap prog;have m:=fx j;clear j;have⟨W0,hW0,HS0⟩:=St.start bm bB bD w V D;have⟨xL,hBl⟩:=S;have A:=fx hW0;clear hW0;go_enter func153,ntmps153
 go_wp21
 rw[<-A.out];refine(HS0.made (pr bm bB bD 6 _) nofun).mono ?_;rintro e W ⟨I,G,K,rfl,q⟩
 go_wp21
 refine(q.made (QA bm bB bD k F own _ m) nofun).mono ?_;rintro e Y ⟨J,H,N,rfl,z⟩;have⟨W3,b1,hW3,hb1,HS3⟩:=z.map;have B:=fx hW3;have l:=fx hb1;clear hW3 hb1
 go_wp21
 rw[<-B.out,<-l.out];refine(HS3.made (pr bm bB bD 6 _) nofun).mono ?_;rintro e W4 ⟨f4,a4,l4,rfl,h⟩
 go_wp21
 refine(h.nC _ [fy] (.nJ 6) (by rfl) (by rfl) (h.at (by simp))).mono ?_;rintro e Z ⟨rfl,d⟩;have O:=jm (sp:=jz k own) (v0:= .func I G K) (v1:= .nilFunc) (v2:= .func J H N) (v3:= .func (.func 97) #[] #[]) (v4:= .func (.func 97) #[] #[]) (v5:= .map (some b1)) (v6:= .map none) (v7:= .nilFunc) (v8:= .nilFunc) (v9:= .func (.func 247) #[gV bB] #[]) d.g d.k ⟨(d.at (r:= .nJ 6) (v:= .func I G K) (by simp)),rfl,(d.at (r:= .gm k own) (v:= .func J H N) (by simp)),rfl,rfl,(d.oP (b:=b1) (R:=[([fy],(.nJ 6))]) (by simp)),rfl,rfl,rfl,rfl⟩ _ rfl;have⟨q0,q1,q2,q3,q4,q5,q6,q7,q8,q9⟩:=jV d.g;have u0:=fA d.g 0;have u1:=fA d.g 1;have u2:=fA d.g 2;have u3:=fA d.g 3;have u4:=fA d.g 4;have u5:=fA d.g 5;have u6:=fA d.g 6;have u7:=fA d.g 7;have u8:=fA d.g 8;have u9:=fA d.g 9;go_wp2;exact kg results153 rfl rfl O
def FP {z : Nat} {own : Bool} (h:kE bm bB bD (jz z own) v0 v1 v2 v3 v4 v5 v6 v7 v8 v9 w):∃k d m l j q b5,v0= .func k d m/\v1= .nilFunc/\v2= .func l j q/\v3= .func (.func 97) #[] #[]/\v4= .func (.func 97) #[] #[]/\v5= .map (some b5)/\v6= .map none/\v7= .nilFunc/\v8= .nilFunc/\v9= .func (.func 247) #[gV bB] #[]:=by
 have⟨k,d,m,e0⟩:=h.blank.func (by simp[jz]);have⟨l,j,q,e2⟩:=h.gm.func (by simp[jz]);have⟨b5,L,e5,_⟩:=h.start;exact⟨k,d,m,l,j,q,b5,e0,h.jq,e2,h.gP,h.il,e5,h.stop,h.jj,h.jG,h.gN⟩
def Fm (bm bB bD:Nat) (w:fO) (k:BD bB bD w) (A:ya w) (j:bm < w.heap.size):
  Calls prog 86 #[gV bB] w (jw bm bB bD (jz 99 false) w):=by
 have⟨W0,hW0,HS0⟩:=St.start bm bB bD w A j;have m:=k;have⟨xL,hBl⟩:=k;have h:=fx hW0;clear hW0;go_enter func86,ntmps86
 go_wp21
 rw[<-h.out];refine(Ew bm bB bD 99 bD false rfl _ (m.gJ HS0.k) HS0.t (lz HS0.lt HS0.k.size)).mono ?_;rintro e B ⟨v0,v1,v2,v3,v4,v5,v6,v7,v8,v9,rfl,l,z⟩;obtain⟨G,D,I,H,F,J,b5,rfl,rfl,rfl,rfl,rfl,rfl,rfl,rfl,rfl,rfl⟩:=FP l;have d:=HS0.AA z;have q:=jm d.g d.k l _ rfl;have⟨q0,q1,q2,q3,q4,q5,q6,q7,q8,q9⟩:=jV d.g;have K:=fA d.g 0;have N:=fA d.g 1;have O:=fA d.g 2;have S:=fA d.g 3;have U:=fA d.g 4;have V:=fA d.g 5;have W:=fA d.g 6;have Y:=fA d.g 7;have Z:=fA d.g 8;have u9:=fA d.g 9;go_wp2;exact kg results86 rfl rfl q
structure Dn (bm bB bD:Nat) (w cw:fO) (rs:List (Ru×gh)) (ms:List (Nat×List (List fN×Ru))):Prop where
 k:Kept [] w cw
 t:ya cw
 lt:bm < w.heap.size
 Xu:∀p∈rs,ny bm bB bD p.1 p.2 cw
 EG:∀p∈ms,IsMap bm bB bD p.1 p.2 (.map (some p.1)) cw/\w.heap.size<=p.1/\p.1≠bm
 nd:(ms.map (·.1)).Nodup
def Dn.start (bm bB bD:Nat) (w:fO) (j:ya w) (d:bm < w.heap.size):Dn bm bB bD w w [] []:=
 ⟨Kept.refl _ _,j,d,(λ_ h=>(by cases h)),(λ_ h=>(by cases h)),(by simp)⟩
def Dn.AA (s:Dn bm bB bD w cw rs ms) (h:Kept [] cw cw'):Dn bm bB bD w cw' rs ms:=
 have f:wS bm cw cw':= .gv h
 ⟨s.k.trans h,s.t.fr f,s.lt,λp d=>(s.Xu p d).fr f,λp d=>⟨(s.EG p d).1.fr f (h.block _ (s.EG p d).1.lt (by simp)),(s.EG p d).2⟩,s.nd⟩
def Dn.call (s:Dn bm bB bD w cw rs ms) (j:Kept [] cw cw') (k:ny bm bB bD r v cw'):Dn bm bB bD w cw' ((r,v)::rs) ms:=
 have d:=s.AA j
 ⟨d.k,d.t,d.lt,λp h=>by
  rcases List.mem_cons.1 h with rfl|h
  .exact k
  .exact d.Xu p h,d.EG,d.nd⟩
def Dn.map (s:Dn bm bB bD w cw rs ms):∃W b,W=cw.alloc (.map #[] 0)/\b=cw.heap.size/\Dn bm bB bD w W rs ((b,[])::ms):=by
 have j:Kept [] cw (cw.alloc (.map #[] 0)):=(Kept.refl _ _).alloc _;have h:=s.AA j;refine⟨_,_,rfl,rfl,h.k,h.t,h.lt,h.Xu,λp d=>?_,?_⟩
 .rcases List.mem_cons.1 d with rfl|d
  .exact⟨TY bm bB bD cw,s.k.size,by have:=s.k.size;have:=s.lt;omega⟩
  .exact h.EG p d
 .rw[zF,Ii];refine⟨λk=>?_,s.nd⟩;have⟨p,d,e⟩:=List.mem_map.1 k;have:=(s.EG p d).1.lt;omega
theorem Dn.on {l : List (List fN×Ru)} (s:Dn bm bB bD w cw rs ((b,R)::ms)) (m:Kept [b] cw cw') (j:wS bm cw cw') (A:IsMap bm bB bD b l (.map (some b)) cw'):Dn bm bB bD w cw' rs ((b,l)::ms):=by
 have z:=s.EG (b,R) (by simp);have k:=s.nd;rw[zF,Ii]at k;refine⟨s.k.next m (λx B=> .inr (by grind)),s.t.fr j,s.lt,λp d=>(s.Xu p d).fr j,λp d=>?_,s.nd⟩;rcases List.mem_cons.1 d with rfl|d
 .grind
 .have h:=s.EG p (rj _ d);refine⟨h.1.fr j (m.block _ h.1.lt λq=>?_),h.2⟩
  grind
def Dn.at (s:Dn bm bB bD w cw rs ms) (h:(r,v)∈rs):ny bm bB bD r v cw:=s.Xu (r,v) h
def RN (bm bB bD:Nat) (R:List (List fN×Ru)) (w:fO) (e:Ending) (w':fO):Prop:=∃b,e=gO (.map (some b))/\IsMap bm bB bD b R (.map (some b)) w'/\w.heap.size<=b/\b≠bm/\Kept [] w w'
def St.mapOf (s:St bm bB bD w cw rs ms) (m:Kept [] cw cw') (q:IsMap bm bB bD b R (.map (some b)) cw') (l:cw.heap.size<=b) (k:b≠bm):St bm bB bD w cw' rs ((b,R)::ms):=by
 have d:=s.AA m;refine⟨d.k,d.g,d.t,d.lt,d.Xu,λp j=>?_,?_⟩
 .rcases List.mem_cons.1 j with rfl|j
  .exact⟨q,jC s.k.size l,k⟩
  .exact d.EG p j
 .rw[zF,Ii];refine⟨λh=>?_,s.nd⟩;have⟨p,j,e⟩:=List.mem_map.1 h;have:=(s.EG p j).1.lt;omega
def Dn.nC (S:Dn bm bB bD w cw rs ((b,R)::ms)) (s:fN) (ks:List fN) (r:Ru) (q:pL s=true) (d:words s=ks) (z:ny bm bB bD r v cw):
  Calls prog 102 #[.map (some b),fR s,v] cw λe w'=>e=gO (.map (some b))/\Dn bm bB bD w w' rs ((b,(ks,r)::R)::ms):=by
 have h:=S.EG (b,R) (xl ..);refine(Sl bm bB bD b s ks r R v cw q d S.t h.1 h.2.2 z).mono ?_;rintro e w' ⟨j,k,l,m⟩;exact⟨j,S.on l m k⟩
def Dn.made (S:Dn bm bB bD w cw rs ms) {f : Nat} (C:Calls prog f args cw (zU bm bB bD r cw)) (j:r≠ .nil):
  Calls prog f args cw λe w'=>∃f a l,e=gO (.func f a l)/\Dn bm bB bD w w' ((r,.func f a l)::rs) ms:=by
 refine C.mono ?_;rintro e w' ⟨⟨x,rfl,d⟩,h⟩;obtain⟨f,a,l,rfl⟩:=d.func j;exact⟨f,a,l,rfl,S.call h d⟩
def kT:List (List fN×Ru):=[([gw],(.gz 218)),([sS,Gk,AG,ib],(.gz 217)),([gZ],(.gz 216)),([jk],(.gz 215)),([mQ],(.gz 214)),([kC],(.gz 213)),([lQ,lW],(.gz 212)),([jx,oz,qH,mr,gC,lw,ld],(.gz 211)),([fy],(.gz 210)),([fM],(.gz 209))]
def GL (bm bB bD:Nat) (w:fO) (N:ya w) (H:bm < w.heap.size):
  Calls prog 123 #[gV bB] w (RN bm bB bD kT w):=by
 have K:=@run_makeMap prog;have k:=Dn.start bm bB bD w N H;go_enter func123,ntmps123;have⟨W1,b1,hW1,hb1,HS1⟩:=k.map;have G:=fx hW1;have j:=fx hb1;clear hW1 hb1
 go_wp21
 rw[<-G.out,<-j.out];refine(HS1.nC _ [fM] (.gz 209) (by rfl) (by rfl) rfl).mono ?_;rintro e O ⟨rfl,l⟩
 go_wp21
 refine(l.nC _ [fy] (.gz 210) (by rfl) (by rfl) rfl).mono ?_;rintro e S ⟨rfl,m⟩
 go_wp21
 refine(m.nC _ [jx,oz,qH,mr,gC,lw,ld] (.gz 211) (by rfl) (by rfl) rfl).mono ?_;rintro e W4 ⟨rfl,q⟩
 go_wp21
 refine(q.nC _ [lQ,lW] (.gz 212) (by rfl) (by rfl) rfl).mono ?_;rintro e U ⟨rfl,z⟩
 go_wp21
 refine(z.nC _ [kC] (.gz 213) (by rfl) (by rfl) rfl).mono ?_;rintro e V ⟨rfl,A⟩
 go_wp21
 refine(A.nC _ [mQ] (.gz 214) (by rfl) (by rfl) rfl).mono ?_;rintro e W ⟨rfl,B⟩
 go_wp21
 refine(B.nC _ [jk] (.gz 215) (by rfl) (by rfl) rfl).mono ?_;rintro e Y ⟨rfl,D⟩
 go_wp21
 refine(D.nC _ [gZ] (.gz 216) (by rfl) (by rfl) rfl).mono ?_;rintro e Z ⟨rfl,F⟩
 go_wp21
 refine(F.nC _ [sS,Gk,AG,ib] (.gz 217) (by rfl) (by rfl) rfl).mono ?_;rintro e I ⟨rfl,h⟩
 go_wp21
 refine(h.nC _ [gw] (.gz 218) (by rfl) (by rfl) rfl).mono ?_;rintro e J ⟨rfl,d⟩;go_wp2;go_ret;exact⟨b1,rfl,(d.EG (b1,[([gw],(.gz 218)),([sS,Gk,AG,ib],(.gz 217)),([gZ],(.gz 216)),([jk],(.gz 215)),([mQ],(.gz 214)),([kC],(.gz 213)),([lQ,lW],(.gz 212)),([jx,oz,qH,mr,gC,lw,ld],(.gz 211)),([fy],(.gz 210)),([fM],(.gz 209))]) (by simp)).1,(d.EG (b1,[([gw],(.gz 218)),([sS,Gk,AG,ib],(.gz 217)),([gZ],(.gz 216)),([jk],(.gz 215)),([mQ],(.gz 214)),([kC],(.gz 213)),([lQ,lW],(.gz 212)),([jx,oz,qH,mr,gC,lw,ld],(.gz 211)),([fy],(.gz 210)),([fM],(.gz 209))]) (by simp)).2.1,(d.EG (b1,[([gw],(.gz 218)),([sS,Gk,AG,ib],(.gz 217)),([gZ],(.gz 216)),([jk],(.gz 215)),([mQ],(.gz 214)),([kC],(.gz 213)),([lQ,lW],(.gz 212)),([jx,oz,qH,mr,gC,lw,ld],(.gz 211)),([fy],(.gz 210)),([fM],(.gz 209))]) (by simp)).2.2,d.k⟩
def mj:lM:={jz 154 true with stop:=some [([fy],.gz 155)]}
theorem Q7 (bm bB bD:Nat) (w:fO) (hb:BD bB bD w) (ht:ya w) (B:bm < w.heap.size):
  Calls prog 85 #[gV bB] w (jw bm bB bD mj w):=by
 have a5:=@run_makeMap prog;have⟨W0,hW0,HS0⟩:=St.start bm bB bD w ht B;have HB:=hb;have H:=fx hW0;clear hW0 ht B hb;go_enter func85,ntmps85
 go_wp21
 rw[<-H.out];refine(Ew bm bB bD 154 bB true rfl _ (HB.gJ HS0.k) HS0.t (lz HS0.lt HS0.k.size)).mono ?_;rintro e j ⟨v0,v1,v2,v3,v4,v5,v6,v7,v8,v9,rfl,V,hk⟩;obtain⟨S,N,W,U,O,Y,b5,rfl,rfl,rfl,rfl,rfl,rfl,rfl,rfl,rfl,rfl⟩:=FP V;have A:=HS0.AA hk;have z:=fx V;clear V hk;have⟨W2,hW2,K2,g2,z2⟩:=sO j (fV #[.func S N W,.nilFunc,.func U O Y,.func (.func 97) #[] #[],.func (.func 97) #[] #[],.map (some b5),.map none,.nilFunc,.nilFunc,.func (.func 247) #[gV bB] #[]] 172);have Z:=A.AA K2;have⟨W3,b1,hW3,hb1,HS3⟩:=Z.map;have K:Kept [] W2 W3:=by rw[hW3];exact(Kept.refl _ _).alloc _
 have D:=fx (show j.heap.size+1=b1 by omega);have F:=K.at g2 (by simp);have k:=z.gJ (K2.trans K);have a1:=(show j.heap.size < b1 by omega);have a3:=(show b5 < b1 by
  have⟨b5',hm5⟩:=z.start;have e:b5=b5':=by have⟨L,e,_⟩:=hm5;simpa using e
  have:=hm5.lt;omega)
 have I:=fx hW2;have J:=fx hW3;clear hW2 K2 g2 z2 Z hW3 hb1 K
 go_wp21
 rw[<-I.out,<-J.out,D.out];refine(Sl bm bB bD b1 _ [fy] (.gz 155) [] _ _ (by rfl) (by rfl) HS3.t (HS3.EG (b1,[]) (by simp)).1 (HS3.EG (b1,[]) (by simp)).2.2 rfl).mono ?_;rintro e W4 ⟨rfl,q,m,h⟩;have d:=HS3.on m h q;have l:=m.at F (by grind);have G:Hid (kE bm bB bD mj (.func S N W) .nilFunc (.func U O Y) (.func (.func 97) #[] #[]) (.func (.func 97) #[] #[]) (.map (some b5)) (.map (some b1)) .nilFunc .nilFunc (.func (.func 247) #[gV bB] #[]) W4):=by
  refine fx ⟨k.blank.fr h,k.jq.fr h,k.gm.fr h,k.gP.fr h,k.il.fr h,?_,⟨b1,q⟩,k.jj.fr h,k.jG.fr h,k.gN.fr h⟩;have⟨b5',hm5⟩:=k.start;have e:b5=b5':=by have⟨L,e,_⟩:=hm5;simpa using e
  subst e;exact⟨b5,hm5.fr h (m.block b5 hm5.lt (by grind))⟩
 have a4:w.heap.size < j.heap.size:=iB A.g;have HF:=jm (w1:=W4.setCell ⟨j.heap.size,6,none⟩ (.map (some b1))) ((Below.heap_setCell W4 ⟨j.heap.size,6,none⟩ _ w.heap.size (by grind)).trans d.g) (d.k.setCell (p:=⟨j.heap.size,6,none⟩) (.inr (by grind)) _) (G.J7 ((Kept.refl [j.heap.size] W4).setCell (p:=⟨j.heap.size,6,none⟩) (.inl (by simp)) _) l) _ rfl;have a6:w.heap.size≠j.heap.size:=by omega
 clear q m h;have c0:W4.cell? ⟨j.heap.size,0,none⟩=some (.func S N W):=(fw l 0).trans rfl;have c1:W4.cell? ⟨j.heap.size,1,none⟩=some .nilFunc:=(fw l 1).trans rfl;have c2:W4.cell? ⟨j.heap.size,2,none⟩=some (.func U O Y):=(fw l 2).trans rfl;have c3:W4.cell? ⟨j.heap.size,3,none⟩=some (.func (.func 97) #[] #[]):=(fw l 3).trans rfl;have c4:W4.cell? ⟨j.heap.size,4,none⟩=some (.func (.func 97) #[] #[]):=(fw l 4).trans rfl;have c5:W4.cell? ⟨j.heap.size,5,none⟩=some (.map (some b5)):=(fw l 5).trans rfl;have c6:W4.cell? ⟨j.heap.size,6,none⟩=some (.map none):=(fw l 6).trans rfl;have c7:W4.cell? ⟨j.heap.size,7,none⟩=some .nilFunc:=(fw l 7).trans rfl;have c8:W4.cell? ⟨j.heap.size,8,none⟩=some .nilFunc:=(fw l 8).trans rfl;have c9:W4.cell? ⟨j.heap.size,9,none⟩=some (.func (.func 247) #[gV bB] #[]):=(fw l 9).trans rfl;have d6:=fA l 6;clear l;have⟨q0,q1,q2,q3,q4,q5,q6,q7,q8,q9⟩:=jV d.g;have u0:=fA d.g 0;have u1:=fA d.g 1;have u2:=fA d.g 2;have u3:=fA d.g 3;have u4:=fA d.g 4;have u5:=fA d.g 5;have u6:=fA d.g 6;have u7:=fA d.g 7;have u8:=fA d.g 8;have u9:=fA d.g 9;go_wp2;exact kg results85 rfl rfl HF
def xg (bm:Nat) (v:gh) (p:fN->Bool) (X:Nat->Prop) (w:fO):Prop:=∃E,nY E v p w/\∀e∈E,yu bm w e/\¬X e
theorem xg.ask (h:xg bm v p X w):Ask bm v p w:=by
 have⟨E,hA,hE⟩:=h
 grind[Ask]
def xg.kept (h:xg bm v p X w) (j:Kept [] w w'):xg bm v p X w':=by
 have⟨E,hA,hE⟩:=h;exact⟨E,hA.gJ j,λe d=>⟨(hE e d).1.fr (.gv j),(hE e d).2⟩⟩
def xg.other {j : Nat->Prop} (h:xg bm v p X w) (k:∀e,e < w.heap.size->j e->X e):xg bm v p j w:=by
 have⟨E,hA,hE⟩:=h;exact⟨E,hA,λe d=>⟨(hE e d).1,λl=>(hE e d).2 (k e (hA.lt e d) l)⟩⟩
def xg.of (h:Ask bm v p w) (j:∀e,e < w.heap.size->¬X e):xg bm v p X w:=by
 have⟨E,hA,hE⟩:=h;exact⟨E,hA,λe d=>⟨hE e d,j e (hA.lt e d)⟩⟩
theorem xg.set {k : Nat} (h:xg bm v p X w) (l:X k) (u:gh):xg bm v p X (w.setCell ⟨k,0,none⟩ u):=by
 have⟨E,hA,hE⟩:=h;have j:∀e∈E,(w.setCell ⟨k,0,none⟩ u).heap[e]?=w.heap[e]?:=λe d=>Below.heap_setCell w ⟨k,0,none⟩ u e (λq=>(hE e d).2 (by grind));refine⟨E,hA.keeps j (by simp),λe d=>⟨?_,(hE e d).2⟩⟩
 grind[yu]
theorem U7 (bm g d:Nat) (h:List fN) (X:Nat->Prop) (w:fO) (A:w.heap[g]?=some (fV (h.map Value.string).toArray 9)) (j:h.length<=4096) (B:∀e,X e->e < w.heap.size/\e≠g):
  Calls prog 225 #[mW g h.length d] w λe w'=>(∃v,e=gO v/\xg bm v (gI h) X w')/\Kept [] w w':=by
 refine(acR g d h.length w).mono ?_;rintro e w' ⟨rfl,rfl⟩;have z:Kept [] w (w.alloc (fV #[mW g h.length d] 204)):=(Kept.refl _ _).alloc _;have k:=fB w (fV #[mW g h.length d] 204);have l:=z.at A (by simp);refine⟨⟨_,rfl,_,X3 _ g d h _ k l j,λe m=>?_⟩,z⟩;simp at m;rcases m with rfl|rfl
 .exact⟨.inr ⟨_,_,k,by decide⟩,λq=>by grind⟩
 .exact⟨.inr ⟨_,_,l,by decide⟩,λq=>(B _ q).2 rfl⟩
theorem Ya (bm:Nat) (v1 v2:gh) (p q:fN->Bool) (X:Nat->Prop) (w:fO) (m:xg bm v1 p X w) (z:xg bm v2 q X w) (A:∀e,X e->e < w.heap.size):
  Calls prog 280 #[v1,v2] w λe w'=>(∃v,e=gO v/\xg bm v (λs=>p s&&!q s) X w')/\Kept [] w w':=by
 have⟨E1,a1,c1⟩:=m;have⟨E2,a2,c2⟩:=z;refine(XV E1 E2 v1 v2 p q w a1 a2).mono ?_;rintro e w' ⟨⟨v,rfl,l,j,k⟩,h⟩;refine⟨⟨v,rfl,_,l,λe d=>⟨LZ (.inr ⟨_,_,j,by decide⟩) (.inr ⟨_,_,k,by decide⟩) (λe d=>(c1 e d).1.fr (.gv h)) (λe d=>(c2 e d).1.fr (.gv h)) e d,λB=>?_⟩⟩,h⟩
 grind
def XX (s5 s6:gh) (e:Nat):Prop:=gV e=s5\/gV e=s6
abbrev abR:List fN:=[jx,mQ]
abbrev adG:fN->Bool:=λs=>kU s&&!gI abR s
structure Pz (bm bB:Nat) (ks:List fN) (sl u:gh) (w1:fO) (b0 b1 b2 b3 b4 b5 b6 b7 b8 b9 b10 b11 b12:Bool) (s5 s6 s7 s8 s9 s10 s11 s12 s13 s14 s15:gh) (w:fO):Prop where
 k:Kept [] w1 w
 f0:b0=true->s7=sl
 f1:b1=true->xg bm s8 (gI ks) (XX s5 s6) w
 f2:b2=true->s9=gV bB
 f3:b3=true->s10=gV bB
 f4:b4=true->s11=jp bB 184
 f5:b5=true->s12=u
 f6:b6=true->∃g,s13=mW g 2 2/\w.heap[g]?=some (fV #[fR jx,fR mQ] 9)
 f7:b7=true->xg bm s14 (gI abR) (XX s5 s6) w
 f8:b8=true->xg bm s15 adG (XX s5 s6) w
 f9:if b9 then ∃k,s5=gV k/\w1.heap.size<=k/\box w k (if b11 then s8 else .nilFunc) 89 else s5=undef
 f10:if b10 then ∃k,s6=gV k/\w1.heap.size<=k/\box w k (if b12 then s15 else .nilFunc) 89 else s6=undef
 ne:b9=true->b10=true->s5≠s6
 d11:b11=true->b1=true/\b9=true
 d12:b12=true->b8=true/\b10=true
section
variable {bm bB:Nat} {ks:List fN} {sl u:gh} {w1:fO} {b0 b1 b2 b3 b4 b5 b6 b7 b8 b9 b10 b11 b12:Bool} {s5 s6 s7 s8 s9 s10 s11 s12 s13 s14 s15:gh} {w w':fO}
theorem XX.lt (h:Pz bm bB ks sl u w1 b0 b1 b2 b3 b4 b5 b6 b7 b8 b9 b10 b11 b12 s5 s6 s7 s8 s9 s10 s11 s12 s13 s14 s15 w) {e:Nat} (d:XX s5 s6 e):w1.heap.size<=e/\∃v,box w e v 89:=by
 rcases d with d|d
 .have:=h.f9;cases b9 with
  |false=>rw[this]at d;simp[undef]at d
  |true=>grind
 .have:=h.f10;cases b10 with
  |false=>rw[this]at d;simp[undef]at d
  |true=>grind
theorem Pz.go (h:Pz bm bB ks sl u w1 b0 b1 b2 b3 b4 b5 b6 b7 b8 b9 b10 b11 b12 s5 s6 s7 s8 s9 s10 s11 s12 s13 s14 s15 w) (d:Kept [] w w'):Pz bm bB ks sl u w1 b0 b1 b2 b3 b4 b5 b6 b7 b8 b9 b10 b11 b12 s5 s6 s7 s8 s9 s10 s11 s12 s13 s14 s15 w':=by
 refine⟨h.k.trans d,h.f0,λq=>(h.f1 q).kept d,h.f2,h.f3,h.f4,h.f5,λq=>?_,λq=>(h.f7 q).kept d,λq=>(h.f8 q).kept d,?_,?_,h.ne,h.d11,h.d12⟩
 .have⟨g,e,hg⟩:=h.f6 q;exact⟨g,e,d.at hg (by simp)⟩
 .have:=h.f9;cases b9 with
  |false=>grind
  |true=>have⟨k,e,h1,h2⟩:=this;exact⟨k,e,h1,d.at h2 (by simp)⟩
 .have:=h.f10;cases b10 with
  |false=>grind
  |true=>have⟨k,e,h1,h2⟩:=this;exact⟨k,e,h1,d.at h2 (by simp)⟩
end
theorem ach (bm bB bD g D:Nat) (ks:List fN) (u:gh) (w:fO) (hB:bB < w.heap.size) (hu:w.cell? ⟨bB,184,none⟩=some u) (hA:Ask bm u kU w) (h2:w.heap[g]?=some (fV (ks.map Value.string).toArray 9)) (ab:ks.length<=4096):
  Calls prog 198 #[gV bB,mW g ks.length D] w (zU bm bB bD (.item ks) w):=by
 obtain⟨uf,ua,ul,rfl⟩:=hA.func;have⟨w1,hw1,HK,HG,HZ⟩:=sO w (fV #[gV bB] 121);have HU:=hu;have HB:=hB;have a1:=fx hA;have H2:=h2;have a3:=ab;have HW:=fx hw1;clear hA hw1;go_enter func198,ntmps198
 go_wp21
 refine uN (by rfl) ?_;change wpAny _ _ _ _ _ _ _ (World.drew _);rw[<-HW.out];refine yi (I:=λl a W=>∃b0 b1 b2 b3 b4 b5 b6 b7 b8 b9 b10 b11 b12 s5 s6 s7 s8 s9 s10 s11 s12 s13 s14 s15,l=#[b0,b1,b2,b3,b4,b5,b6,b7,b8,b9,b10,b11,b12]/\a=⟨#[gV bB,mW g ks.length D,fW w.heap.size,undef,.nilFunc,s5,s6,s7,s8,s9,s10,s11,s12,s13,s14,s15,undef],[]⟩/\Pz bm bB ks (mW g ks.length D) (.func uf ua ul) w1 b0 b1 b2 b3 b4 b5 b6 b7 b8 b9 b10 b11 b12 s5 s6 s7 s8 s9 s10 s11 s12 s13 s14 s15 W) ?_ ?_ _ _ _ _ ?_ ?_
 .rintro l a W i ⟨b0,b1,b2,b3,b4,b5,b6,b7,b8,b9,b10,b11,b12,s5,s6,s7,s8,s9,s10,s11,s12,s13,s14,s15,rfl,rfl,d⟩ hi;simp only[Region.ready,IA,DI]at hi;have⟨U,hc⟩:=hi;have U:i < 13:=U;obtain rfl|rfl|rfl|rfl|rfl|rfl|rfl|rfl|rfl|rfl|rfl|rfl|rfl:i=0\/i=1\/i=2\/i=3\/i=4\/i=5\/i=6\/i=7\/i=8\/i=9\/i=10\/i=11\/i=12:=by omega
  all_goals simp[Region.binds]at hc
  .refine jE rfl ?_;intro B h;go_simp;refine h _ _ ?_
   iterate 24 apply Exists.intro
   refine⟨rfl,rfl,?_⟩;exact⟨d.k,λ_=>rfl,d.f1,d.f2,d.f3,d.f4,d.f5,d.f6,d.f7,d.f8,d.f9,d.f10,d.ne,d.d11,d.d12⟩
  .refine jE rfl ?_;intro B h;have e7:=d.f0 hc.2;subst e7;have O:b11=false:=by
    cases b11 with
    |false=>rfl
    |true=>have:=(d.d11 rfl).1;simp[hc.1]at this
   subst O;have C:=(U7 bm g D ks (XX s5 s6) W ((HK.trans d.k).at H2 (by simp)) a3 (λe j=>by
    have⟨h1,v,h3⟩:=XX.lt d j
    grind))
   go_simp;refine C.mono ?_;rintro e w' ⟨⟨v,rfl,F⟩,m⟩;have J:=d.go m;refine h _ _ ?_
   iterate 24 apply Exists.intro
   refine⟨rfl,rfl,?_⟩;exact⟨J.k,J.f0,λ_=>F,J.f2,J.f3,J.f4,J.f5,J.f6,J.f7,J.f8,J.f9,J.f10,J.ne,(λq=>by simp at q),J.d12⟩
  .refine jE rfl ?_;intro B h;have c0:W.cell? ⟨w.heap.size,0,none⟩=some (gV bB):=(fw (d.k.at HG (by simp)) 0).trans rfl;go_simp;refine h _ _ ?_
   iterate 24 apply Exists.intro
   refine⟨rfl,rfl,?_⟩;exact⟨d.k,d.f0,d.f1,λ_=>rfl,d.f3,d.f4,d.f5,d.f6,d.f7,d.f8,d.f9,d.f10,d.ne,d.d11,d.d12⟩
  .refine jE rfl ?_;intro B h;have e9:=d.f2 hc.2;subst e9;go_simp;refine h _ _ ?_
   iterate 24 apply Exists.intro
   refine⟨rfl,rfl,?_⟩;exact⟨d.k,d.f0,d.f1,d.f2,λ_=>rfl,d.f4,d.f5,d.f6,d.f7,d.f8,d.f9,d.f10,d.ne,d.d11,d.d12⟩
  .refine jE rfl ?_;intro B h;have a4:=d.f3 hc.2;subst a4;go_simp;refine h _ _ ?_
   iterate 24 apply Exists.intro
   refine⟨rfl,rfl,?_⟩;exact⟨d.k,d.f0,d.f1,d.f2,d.f3,λ_=>rfl,d.f5,d.f6,d.f7,d.f8,d.f9,d.f10,d.ne,d.d11,d.d12⟩
  .refine jE rfl ?_;intro B h;have a5:=d.f4 hc.2;subst a5;have c0:W.cell? ⟨bB,184,none⟩=some (.func uf ua ul):=((HK.trans d.k).cell (p:=⟨bB,184,none⟩) HB (by simp)).trans HU;go_simp;refine h _ _ ?_
   iterate 24 apply Exists.intro
   refine⟨rfl,rfl,?_⟩;exact⟨d.k,d.f0,d.f1,d.f2,d.f3,d.f4,λ_=>rfl,d.f6,d.f7,d.f8,d.f9,d.f10,d.ne,d.d11,d.d12⟩
  .refine jE rfl ?_;intro B h;go_simp;have m:Kept [] W (W.alloc (fV #[fR jx,fR mQ] 9)):=(Kept.refl _ _).alloc _;have J:=d.go m;refine h _ _ ?_
   iterate 24 apply Exists.intro
   refine⟨rfl,rfl,?_⟩;exact⟨J.k,J.f0,J.f1,J.f2,J.f3,J.f4,J.f5,λ_=>⟨_,rfl,fB W _⟩,J.f7,J.f8,J.f9,J.f10,J.ne,J.d11,J.d12⟩
  .refine jE rfl ?_;intro B h;have⟨g3,e13,h13⟩:=d.f6 (by simp[hc]);subst e13;have C:=(U7 bm g3 2 abR (XX s5 s6) W h13 (by decide) (λe j=>by
    have⟨h1,v,h3⟩:=XX.lt d j
    grind))
   go_simp;refine C.mono ?_;rintro e w' ⟨⟨v,rfl,F⟩,m⟩;have J:=d.go m;refine h _ _ ?_
   iterate 24 apply Exists.intro
   refine⟨rfl,rfl,?_⟩;exact⟨J.k,J.f0,J.f1,J.f2,J.f3,J.f4,J.f5,J.f6,λ_=>F,J.f8,J.f9,J.f10,J.ne,J.d11,J.d12⟩
  .refine jE rfl ?_;intro B h;have a6:=d.f5 (by simp[hc]);subst a6;have a7:=d.f7 (by simp[hc]);have S:b12=false:=by
    cases b12 with
    |false=>rfl
    |true=>have:=(d.d12 rfl).1;simp[hc.1]at this
   subst S;have a9:xg bm (.func uf ua ul) kU (XX s5 s6) W:=(xg.of (a1.fr (.gv HK)) (λe he j=>by have:=(XX.lt d j).1;omega)).kept d.k;have C:=(Ya bm (.func uf ua ul) s14 kU (gI abR) (XX s5 s6) W a9 a7 (λe j=>by
    have⟨h1,v,h3⟩:=XX.lt d j;exact iB h3))
   go_simp;refine C.mono ?_;rintro e w' ⟨⟨v,rfl,F⟩,m⟩;have J:=d.go m;refine h _ _ ?_
   iterate 24 apply Exists.intro
   refine⟨rfl,rfl,?_⟩;exact⟨J.k,J.f0,J.f1,J.f2,J.f3,J.f4,J.f5,J.f6,J.f7,λ_=>F,J.f9,J.f10,J.ne,J.d11,(λq=>by simp at q)⟩
  .refine jE rfl ?_;intro B h;have z:b11=false:=by
    cases b11 with
    |false=>rfl
    |true=>have:=(d.d11 rfl).2;simp[hc]at this
   subst z;have H:b9=false:=by simpa using hc
   subst H;have N:s5=undef:=d.f9;subst N;go_simp;have m:Kept [] W (W.alloc (fV #[.nilFunc] 89)):=(Kept.refl _ _).alloc _;have J:=d.go m;have G:∀e,e < W.heap.size->XX (gV W.heap.size) s6 e->XX undef s6 e:=λe he j=>by
    rcases j with j|j
    .simp at j<;>omega
    .exact .inr j
   refine h _ _ ?_
   iterate 24 apply Exists.intro
   refine⟨rfl,rfl,?_⟩;exact⟨J.k,J.f0,(λq=>((d.f1 q).other G).kept m),J.f2,J.f3,J.f4,J.f5,J.f6,(λq=>((d.f7 q).other G).kept m),(λq=>((d.f8 q).other G).kept m),⟨_,rfl,d.k.size,fB W _⟩,J.f10,(λ_ q=>by subst q;have⟨k,e1,h1,h3⟩:=d.f10;grind),(λq=>by simp at q),J.d12⟩
  .refine jE rfl ?_;intro B h;have z:b12=false:=by
    cases b12 with
    |false=>rfl
    |true=>have:=(d.d12 rfl).2;simp[hc]at this
   subst z;have H:b10=false:=by simpa using hc
   subst H;have N:s6=undef:=d.f10;subst N;go_simp;have m:Kept [] W (W.alloc (fV #[.nilFunc] 89)):=(Kept.refl _ _).alloc _;have J:=d.go m;have G:∀e,e < W.heap.size->XX s5 (gV W.heap.size) e->XX s5 undef e:=λe he j=>by
    rcases j with j|j
    .exact .inl j
    grind
   refine h _ _ ?_
   iterate 24 apply Exists.intro
   refine⟨rfl,rfl,?_⟩;exact⟨J.k,J.f0,(λq=>((d.f1 q).other G).kept m),J.f2,J.f3,J.f4,J.f5,J.f6,(λq=>((d.f7 q).other G).kept m),(λq=>((d.f8 q).other G).kept m),J.f9,⟨_,rfl,d.k.size,fB W _⟩,(λq _=>by subst q;have⟨k,e1,h1,h3⟩:=d.f9;grind),J.d11,(λq=>by simp at q)⟩
  .refine jE rfl ?_;intro B h;have z:b11=false:=by simp[hc]
   subst z;have H:b9=true:=by simp[hc]
   have K:b1=true:=by simp[hc]
   subst H K;have⟨k,N,h1,h3⟩:=d.f9;subst N;have⟨f,aa,ll,F⟩:=(d.f1 rfl).ask.func;subst F;have c0:W.cell? ⟨k,0,none⟩=some .nilFunc:=(fw h3 0).trans rfl;have c1:=fA h3 0;go_simp;have j:XX (gV k) s6 k:= .inl rfl;refine h _ _ ?_
   iterate 24 apply Exists.intro
   refine⟨rfl,rfl,?_⟩;refine⟨d.k.setCell (p:=⟨k,0,none⟩) (.inr h1) _,d.f0,(λq=>(d.f1 q).set j _),d.f2,d.f3,d.f4,d.f5,λq=>?_,(λq=>(d.f7 q).set j _),(λq=>(d.f8 q).set j _),⟨k,rfl,h1,(fI h3 0 _).trans rfl⟩,?_,d.ne,(λ_=>⟨rfl,rfl⟩),d.d12⟩
   .have⟨g3,e13,h13⟩:=d.f6 q;exact⟨g3,e13,(Below.heap_setCell W ⟨k,0,none⟩ _ g3 (yI h13 h3 (by decide))).trans h13⟩
   .have:=d.f10;split at this
    .rename_i V;have⟨k2,e2,h4,h5⟩:=this;rw[fU V];refine⟨k2,e2,h4,(Below.heap_setCell W ⟨k,0,none⟩ _ k2 (λq=>?_)).trans h5⟩;subst q;exact d.ne rfl V e2.symm
    grind
  .refine jE rfl ?_;intro B h;have z:b12=false:=by simp[hc]
   subst z;have H:b10=true:=by simp[hc]
   have K:b8=true:=by simp[hc]
   subst H K;have⟨k,N,h1,h3⟩:=d.f10;subst N;have⟨f,aa,ll,F⟩:=(d.f8 rfl).ask.func;subst F;have c0:W.cell? ⟨k,0,none⟩=some .nilFunc:=(fw h3 0).trans rfl;have c1:=fA h3 0;go_simp;have j:XX s5 (gV k) k:= .inr rfl;refine h _ _ ?_
   iterate 24 apply Exists.intro
   refine⟨rfl,rfl,?_⟩;refine⟨d.k.setCell (p:=⟨k,0,none⟩) (.inr h1) _,d.f0,(λq=>(d.f1 q).set j _),d.f2,d.f3,d.f4,d.f5,λq=>?_,(λq=>(d.f7 q).set j _),(λq=>(d.f8 q).set j _),?_,⟨k,rfl,h1,(fI h3 0 _).trans rfl⟩,d.ne,d.d11,(λ_=>⟨rfl,rfl⟩)⟩
   .have⟨g3,e13,h13⟩:=d.f6 q;exact⟨g3,e13,(Below.heap_setCell W ⟨k,0,none⟩ _ g3 (yI h13 h3 (by decide))).trans h13⟩
   .have:=d.f9;split at this
    .rename_i V;have⟨k2,e2,h4,h5⟩:=this;rw[fU V];refine⟨k2,e2,h4,(Below.heap_setCell W ⟨k,0,none⟩ _ k2 (λq=>?_)).trans h5⟩;subst q;exact d.ne V rfl e2
    grind
 .rintro l a W ⟨b0,b1,b2,b3,b4,b5,b6,b7,b8,b9,b10,b11,b12,s5,s6,s7,s8,s9,s10,s11,s12,s13,s14,s15,rfl,rfl,d⟩ A;simp only[Region.ready,QY,DI]at A;have q0:=A 0 (by decide);simp[Region.binds]at q0;subst q0;have q1:=A 1 (by decide);simp[Region.binds]at q1;subst q1;have q2:=A 2 (by decide);simp[Region.binds]at q2;subst q2;have q3:=A 3 (by decide);simp[Region.binds]at q3;subst q3;have q4:=A 4 (by decide);simp[Region.binds]at q4;subst q4;have q5:=A 5 (by decide);simp[Region.binds]at q5;subst q5;have q6:=A 6 (by decide);simp[Region.binds]at q6;subst q6;have q7:=A 7 (by decide);simp[Region.binds]at q7;subst q7;have q8:=A 8 (by decide);simp[Region.binds]at q8;subst q8;have q9:=A 9 (by decide);simp[Region.binds]at q9;subst q9;have Y:=A 10 (by decide);simp[Region.binds]at Y;subst Y;have Z:=A 11 (by decide);simp[Region.binds]at Z;subst Z;have a0:=A 12 (by decide);simp[Region.binds]at a0;subst a0;have⟨k5,e5,h5,X5⟩:=d.f9;have⟨k6,e6,h6,X6⟩:=d.f10;subst e5 e6;have A1:=(d.f1 rfl).ask;have A2:=(d.f8 rfl).ask;have a2:=HK.trans d.k;have G2:=d.k.at HG (by simp);rename_i KK a8;refine a8 _ _ ?_;go_wp2;go_ret;exact⟨⟨_,rfl,_,_,_,_,_,rfl,G2,X5,A1,X6,A2⟩,a2⟩
 .decide
 .exact⟨false,false,false,false,false,false,false,false,false,false,false,false,false,undef,undef,undef,undef,undef,undef,undef,undef,undef,undef,undef,rfl,rfl,(Kept.refl _ _).drew,by simp,by simp,by simp,by simp,by simp,by simp,by simp,by simp,by simp,rfl,rfl,by simp,by simp,by simp⟩
def BS (bm bB:Nat) (w:fO):Prop:=bB < w.heap.size/\∃u,w.cell? ⟨bB,184,none⟩=some u/\Ask bm u kU w
def BS.gJ (h:BS bm bB w) (d:Kept [] w w'):BS bm bB w':=by
 have⟨h1,u,hu,hA⟩:=h;exact⟨lz h1 d.size,u,(d.cell (p:=⟨bB,184,none⟩) h1 (by simp)).trans hu,hA.fr (.gv d)⟩
def Dn.dB (s:Dn bm bB bD w cw rs ((b,R)::ms)):IsMap bm bB bD b R (.map (some b)) cw/\w.heap.size<=b/\b≠bm:=s.EG (b,R) (by simp)
def Dn.slice (s:Dn bm bB bD w cw rs ms) (h:List fN) (d:jB) (j:(h.map Value.string).toArray=d):∃W g,W=cw.alloc (fV d 9)/\g=cw.heap.size/\W.heap[g]?=some (fV (h.map Value.string).toArray 9)/\Dn bm bB bD w W rs ms:=
 ⟨_,_,rfl,rfl,by rw[j];exact fB cw _,s.AA ((Kept.refl _ _).alloc _)⟩
def QJ (s:Dn bm bB bD w cw rs ms) (h:BS bm bB w) (g d:Nat) (ks:List fN) (k:cw.heap[g]?=some (fV (ks.map Value.string).toArray 9)) (j:ks.length<=4096):
  Calls prog 198 #[gV bB,mW g ks.length d] cw (zU bm bB bD (.item ks) cw):=by
 have⟨h1,u,hu,hA⟩:=h.gJ s.k;exact ach bm bB bD g d ks u cw h1 hu hA k j
def kO:List (List fN×Ru):=[([gw],(.gz 208)),([ib],(.gz 207)),([Gk,AG],(.gz 206)),([sS],(.gz 205)),([jk,tk,iK],(.gz 204)),([ig],(.gz 203)),([fY,fJ],(.gz 202)),([iO],(.gz 201)),([fC],(.gz 200)),([gC],(.gz 199)),([lw,ld],(.item [lw,ld])),([kC],(.item [kC])),([gZ],(.gz 197)),([sv],(.gz 196)),([lQ,lW],(.gz 195)),([mr],(.gz 194)),([jx,oz,qH,mQ],(.gz 193)),([ga,fH,gu,fD,fE,gG,fF,gH,fG,gq],.nothing),([iC,iD,gW],(.nJ 3)),([fM],(.gz 192)),([fy],(.gz 191))]
def Dx (bm bB bD:Nat) (w:fO) (a9:BS bm bB w) (ht:ya w) (a8:bm < w.heap.size):
  Calls prog 121 #[gV bB] w (RN bm bB bD kO w):=by
 have k:=a9;have aw:=@run_makeMap prog;have Y:=Dn.start bm bB bD w ht a8;go_enter func121,ntmps121;have⟨W1,b1,hW1,hb1,HS1⟩:=Y.map;have a7:=fx hW1;have U:=fx hb1;clear hW1 hb1
 go_wp21
 rw[<-a7.out,<-U.out];refine(HS1.nC _ [fy] (.gz 191) (by rfl) (by rfl) rfl).mono ?_;rintro e W2 ⟨rfl,Z⟩
 go_wp21
 refine(Z.nC _ [fM] (.gz 192) (by rfl) (by rfl) rfl).mono ?_;rintro e W3 ⟨rfl,a0⟩
 go_wp21
 refine(a0.made (pr bm bB bD 3 _) nofun).mono ?_;rintro e W4 ⟨f4,a4,l4,rfl,N⟩
 go_wp21
 refine(N.nC _ [iC,iD,gW] (.nJ 3) (by rfl) (by rfl) (N.at (by simp))).mono ?_;rintro e W5 ⟨rfl,a1⟩
 go_wp21
 refine(a1.nC _ [ga,fH,gu,fD,fE,gG,fF,gH,fG,gq] .nothing rfl (by rfl) rfl).mono ?_;rintro e W6 ⟨rfl,a2⟩
 go_wp21
 refine(a2.nC _ [jx,oz,qH,mQ] (.gz 193) (by rfl) (by rfl) rfl).mono ?_;rintro e W7 ⟨rfl,a3⟩
 go_wp21
 refine(a3.nC _ [mr] (.gz 194) (by rfl) (by rfl) rfl).mono ?_;rintro e W8 ⟨rfl,a5⟩
 go_wp21
 refine(a5.nC _ [lQ,lW] (.gz 195) (by rfl) (by rfl) rfl).mono ?_;rintro e W9 ⟨rfl,a6⟩
 go_wp21
 refine(a6.nC _ [sv] (.gz 196) (by rfl) (by rfl) rfl).mono ?_;rintro e aa ⟨rfl,l⟩
 go_wp21
 refine(l.nC _ [gZ] (.gz 197) (by rfl) (by rfl) rfl).mono ?_;rintro e ab ⟨rfl,m⟩;have⟨W12,g1,hW12,hg1,HSL1,HS12⟩:=m.slice [kC] #[fR kC] rfl;have O:=fx hW12;have V:=fx hg1;clear hW12 hg1
 go_wp21
 rw[<-O.out,<-V.out];refine(HS12.made (QJ HS12 k g1 1 [kC] HSL1 (by decide)) nofun).mono ?_;rintro e ac ⟨au,aq,ax,rfl,h⟩
 go_wp21
 refine(h.nC _ [kC] (.item [kC]) (by rfl) (by rfl) (h.at (by simp))).mono ?_;rintro e ad ⟨rfl,q⟩;have⟨W15,g2,hW15,hg2,HSL2,HS15⟩:=q.slice [lw,ld] #[fR lw,fR ld] rfl;have S:=fx hW15;have W:=fx hg2;clear hW15 hg2
 go_wp21
 rw[<-S.out,<-W.out];refine(HS15.made (QJ HS15 k g2 2 [lw,ld] HSL2 (by decide)) nofun).mono ?_;rintro e ae ⟨av,ar,ay,rfl,j⟩
 go_wp21
 refine(j.nC _ [lw,ld] (.item [lw,ld]) (by rfl) (by rfl) (j.at (by simp))).mono ?_;rintro e af ⟨rfl,z⟩
 go_wp21
 refine(z.nC _ [gC] (.gz 199) (by rfl) (by rfl) rfl).mono ?_;rintro e ag ⟨rfl,A⟩
 go_wp21
 refine(A.nC _ [fC] (.gz 200) (by rfl) (by rfl) rfl).mono ?_;rintro e ah ⟨rfl,B⟩
 go_wp21
 refine(B.nC _ [iO] (.gz 201) (by rfl) (by rfl) rfl).mono ?_;rintro e ai ⟨rfl,D⟩
 go_wp21
 refine(D.nC _ [fY,fJ] (.gz 202) (by rfl) (by rfl) rfl).mono ?_;rintro e aj ⟨rfl,F⟩
 go_wp21
 refine(F.nC _ [ig] (.gz 203) (by rfl) (by rfl) rfl).mono ?_;rintro e ak ⟨rfl,G⟩
 go_wp21
 refine(G.nC _ [jk,tk,iK] (.gz 204) (by rfl) (by rfl) rfl).mono ?_;rintro e al ⟨rfl,H⟩
 go_wp21
 refine(H.nC _ [sS] (.gz 205) (by rfl) (by rfl) rfl).mono ?_;rintro e am ⟨rfl,I⟩
 go_wp21
 refine(I.nC _ [Gk,AG] (.gz 206) (by rfl) (by rfl) rfl).mono ?_;rintro e an ⟨rfl,J⟩
 go_wp21
 refine(J.nC _ [ib] (.gz 207) (by rfl) (by rfl) rfl).mono ?_;rintro e ao ⟨rfl,K⟩
 go_wp21
 refine(K.nC _ [gw] (.gz 208) (by rfl) (by rfl) rfl).mono ?_;rintro e ap ⟨rfl,d⟩;go_wp2;go_ret;exact⟨b1,rfl,d.dB.1,d.dB.2.1,d.dB.2.2,d.k⟩
def kG:lM:={jq:= .gz 120,gm:= .gm 105 true,start:=some kO,stop:=some kT,jj:= .gz 122,jG:= .gz 124,gN:= .nothing}
def XS (bm bB bD:Nat) (w:fO) (O:BS bm bB w) (S:ya w) (A:bm < w.heap.size):
  Calls prog 75 #[gV bB] w (jw bm bB bD kG w):=by
 have⟨W0,hW0,HS0⟩:=St.start bm bB bD w S A;have K:=O;have m:=fx hW0;clear hW0;go_enter func75,ntmps75
 go_wp21
 rw[<-m.out];refine(HS0.made (ow bm bB bD 105 true _) nofun).mono ?_;rintro e U ⟨I,H,J,rfl,h⟩
 go_wp21
 refine(Dx bm bB bD _ (K.gJ h.k) h.t (lz h.lt h.k.size)).mono ?_;rintro e V ⟨b1,rfl,F,q,k,B⟩;have j:=h.mapOf B F q k
 go_wp21
 refine(GL bm bB bD _ j.t (lz j.lt j.k.size)).mono ?_;rintro e W ⟨b2,rfl,G,z,l,D⟩;have d:=j.mapOf D G z l;have N:=jm (sp:=kG) (v0:= .nilFunc) (v1:= .func (.func 120) #[gV bB] #[]) (v2:= .func I H J) (v3:= .nilFunc) (v4:= .nilFunc) (v5:= .map (some b1)) (v6:= .map (some b2)) (v7:= .func (.func 122) #[gV bB] #[]) (v8:= .func (.func 124) #[gV bB] #[]) (v9:= .func (.func 97) #[] #[]) d.g d.k ⟨rfl,rfl,(d.at (r:= .gm 105 true) (v:= .func I H J) (by simp)),rfl,rfl,(d.oP (b:=b1) (R:=kO) (by simp)),(d.oP (b:=b2) (R:=kT) (by simp)),rfl,rfl,rfl⟩ _ rfl;have⟨q0,q1,q2,q3,q4,q5,q6,q7,q8,q9⟩:=jV d.g;have Y:=fA d.g 0;have Z:=fA d.g 1;have u2:=fA d.g 2;have u3:=fA d.g 3;have u4:=fA d.g 4;have u5:=fA d.g 5;have u6:=fA d.g 6;have u7:=fA d.g 7;have u8:=fA d.g 8;have u9:=fA d.g 9;go_wp2;exact kg results75 rfl rfl N
def mi:lM:={blank:= .nothing,gm:= .gm 99 false,gP:= .nothing,start:=some [([fy],(.gz 103))],stop:=some [([ga,fM,fy,jk],(.gz 104))],jG:= .nothing,gN:= .gz 104}
def Oz (bm bB bD:Nat) (w:fO) (H:BD bB bD w) (J:ya w) (A:bm < w.heap.size):
  Calls prog 70 #[gV bB] w (jw bm bB bD mi w):=by
 have I:=@run_makeMap prog;have⟨W0,hW0,HS0⟩:=St.start bm bB bD w J A;have⟨xL,hBl⟩:=H;have m:=fx hW0;clear hW0;go_enter func70,ntmps70
 go_wp21
 rw[<-m.out];refine(HS0.made (ow bm bB bD 99 false _) nofun).mono ?_;rintro e K ⟨D,B,F,rfl,k⟩;have⟨W2,b1,hW2,hb1,HS2⟩:=k.map;have q:=fx hW2;have h:=fx hb1;clear hW2 hb1
 go_wp21
 rw[<-q.out,<-h.out];refine(HS2.nC _ [fy] (.gz 103) (by rfl) (by rfl) rfl).mono ?_;rintro e N ⟨rfl,l⟩;have⟨W4,b2,hW4,hb2,HS4⟩:=l.map;have z:=fx hW4;have j:=fx hb2;clear hW4 hb2
 go_wp21
 rw[<-z.out,<-j.out];refine(HS4.nC _ [ga,fM,fy,jk] (.gz 104) (by rfl) (by rfl) rfl).mono ?_;rintro e O ⟨rfl,d⟩;have G:=jm (sp:=mi) (v0:= .func (.func 97) #[] #[]) (v1:= .nilFunc) (v2:= .func D B F) (v3:= .func (.func 97) #[] #[]) (v4:= .nilFunc) (v5:= .map (some b1)) (v6:= .map (some b2)) (v7:= .nilFunc) (v8:= .func (.func 97) #[] #[]) (v9:= .func (.func 104) #[gV bB] #[]) d.g d.k ⟨rfl,rfl,(d.at (r:= .gm 99 false) (v:= .func D B F) (by simp)),rfl,rfl,(d.oP (b:=b1) (R:=[([fy],(.gz 103))]) (by simp)),(d.oP (b:=b2) (R:=[([ga,fM,fy,jk],(.gz 104))]) (by simp)),rfl,rfl,rfl⟩ _ rfl;have⟨q0,q1,q2,q3,q4,q5,q6,q7,q8,q9⟩:=jV d.g;have S:=fA d.g 0;have U:=fA d.g 1;have V:=fA d.g 2;have W:=fA d.g 3;have Y:=fA d.g 4;have Z:=fA d.g 5;have u6:=fA d.g 6;have u7:=fA d.g 7;have u8:=fA d.g 8;have u9:=fA d.g 9;go_wp2;exact kg results70 rfl rfl G
def mf:lM:={blank:= .nothing,gm:= .gm 105 true,gP:= .nothing,start:=some [([ga],(.gz 107)),([fy],(.nJ 6))],stop:=some [([ga,fM,fy,jk],(.gz 108))],jG:= .nothing,gN:= .gz 108}
def NK (bm bB bD:Nat) (w:fO) (J:BD bB bD w) (N:ya w) (D:bm < w.heap.size):
  Calls prog 71 #[gV bB] w (jw bm bB bD mf w):=by
 have K:=@run_makeMap prog;have⟨W0,hW0,HS0⟩:=St.start bm bB bD w N D;have⟨xL,hBl⟩:=J;have z:=fx hW0;clear hW0;go_enter func71,ntmps71
 go_wp21
 rw[<-z.out];refine(HS0.made (ow bm bB bD 105 true _) nofun).mono ?_;rintro e O ⟨G,F,H,rfl,l⟩;have⟨W2,b1,hW2,hb1,HS2⟩:=l.map;have A:=fx hW2;have j:=fx hb1;clear hW2 hb1
 go_wp21
 rw[<-A.out,<-j.out];refine(HS2.made (pr bm bB bD 6 _) nofun).mono ?_;rintro e S ⟨Y,W,Z,rfl,h⟩
 go_wp21
 refine(h.nC _ [fy] (.nJ 6) (by rfl) (by rfl) (h.at (by simp))).mono ?_;rintro e W4 ⟨rfl,m⟩
 go_wp21
 refine(m.nC _ [ga] (.gz 107) (by rfl) (by rfl) rfl).mono ?_;rintro e U ⟨rfl,q⟩;have⟨W6,b2,hW6,hb2,HS6⟩:=q.map;have B:=fx hW6;have k:=fx hb2;clear hW6 hb2
 go_wp21
 rw[<-B.out,<-k.out];refine(HS6.nC _ [ga,fM,fy,jk] (.gz 108) (by rfl) (by rfl) rfl).mono ?_;rintro e V ⟨rfl,d⟩;have I:=jm (sp:=mf) (v0:= .func (.func 97) #[] #[]) (v1:= .nilFunc) (v2:= .func G F H) (v3:= .func (.func 97) #[] #[]) (v4:= .nilFunc) (v5:= .map (some b1)) (v6:= .map (some b2)) (v7:= .nilFunc) (v8:= .func (.func 97) #[] #[]) (v9:= .func (.func 108) #[gV bB] #[]) d.g d.k ⟨rfl,rfl,(d.at (r:= .gm 105 true) (v:= .func G F H) (by simp)),rfl,rfl,(d.oP (b:=b1) (R:=[([ga],(.gz 107)),([fy],(.nJ 6))]) (by simp)),(d.oP (b:=b2) (R:=[([ga,fM,fy,jk],(.gz 108))]) (by simp)),rfl,rfl,rfl⟩ _ rfl;have⟨q0,q1,q2,q3,q4,q5,q6,q7,q8,q9⟩:=jV d.g;have u0:=fA d.g 0;have u1:=fA d.g 1;have u2:=fA d.g 2;have u3:=fA d.g 3;have u4:=fA d.g 4;have u5:=fA d.g 5;have u6:=fA d.g 6;have u7:=fA d.g 7;have u8:=fA d.g 8;have u9:=fA d.g 9;go_wp2;exact kg results71 rfl rfl I
def lO:lM:={blank:= .gz 109,gm:= .gm 105 true,gP:= .nothing,start:=some [([gW],(.gz 112)),([iD],(.gz 111)),([iC],(.gz 110)),([fy],(.nJ 6)),([ga],.nothing)],stop:=some [([fM,fy,jk],(.gz 114)),([ga],(.gz 113))],jG:= .nothing,gN:= .gz 114}
def ZZ (bm bB bD:Nat) (w:fO) (V:BD bB bD w) (Y:ya w) (I:bm < w.heap.size):
  Calls prog 72 #[gV bB] w (jw bm bB bD lO w):=by
 have W:=@run_makeMap prog;have⟨W0,hW0,HS0⟩:=St.start bm bB bD w Y I;have⟨xL,hBl⟩:=V;have F:=fx hW0;clear hW0;go_enter func72,ntmps72
 go_wp21
 rw[<-F.out];refine(HS0.made (ow bm bB bD 105 true _) nofun).mono ?_;rintro e Z ⟨K,J,N,rfl,m⟩;have⟨W2,b1,hW2,hb1,HS2⟩:=m.map;have G:=fx hW2;have k:=fx hb1;clear hW2 hb1
 go_wp21
 rw[<-G.out,<-k.out];refine(HS2.nC _ [ga] .nothing (by rfl) (by rfl) rfl).mono ?_;rintro e W3 ⟨rfl,q⟩
 go_wp21
 refine(q.made (pr bm bB bD 6 _) nofun).mono ?_;rintro e W4 ⟨f4,a4,l4,rfl,j⟩
 go_wp21
 refine(j.nC _ [fy] (.nJ 6) (by rfl) (by rfl) (j.at (by simp))).mono ?_;rintro e W5 ⟨rfl,z⟩
 go_wp21
 refine(z.nC _ [iC] (.gz 110) (by rfl) (by rfl) rfl).mono ?_;rintro e W6 ⟨rfl,A⟩
 go_wp21
 refine(A.nC _ [iD] (.gz 111) (by rfl) (by rfl) rfl).mono ?_;rintro e W7 ⟨rfl,B⟩
 go_wp21
 refine(B.nC _ [gW] (.gz 112) (by rfl) (by rfl) rfl).mono ?_;rintro e W8 ⟨rfl,D⟩;have⟨W9,b2,hW9,hb2,HS9⟩:=D.map;have H:=fx hW9;have l:=fx hb2;clear hW9 hb2
 go_wp21
 rw[<-H.out,<-l.out];refine(HS9.nC _ [ga] (.gz 113) (by rfl) (by rfl) rfl).mono ?_;rintro e S ⟨rfl,h⟩
 go_wp21
 refine(h.nC _ [fM,fy,jk] (.gz 114) (by rfl) (by rfl) rfl).mono ?_;rintro e U ⟨rfl,d⟩;have O:=jm (sp:=lO) (v0:= .func (.func 109) #[gV bB] #[]) (v1:= .nilFunc) (v2:= .func K J N) (v3:= .func (.func 97) #[] #[]) (v4:= .nilFunc) (v5:= .map (some b1)) (v6:= .map (some b2)) (v7:= .nilFunc) (v8:= .func (.func 97) #[] #[]) (v9:= .func (.func 114) #[gV bB] #[]) d.g d.k ⟨rfl,rfl,(d.at (r:= .gm 105 true) (v:= .func K J N) (by simp)),rfl,rfl,(d.oP (b:=b1) (R:=[([gW],(.gz 112)),([iD],(.gz 111)),([iC],(.gz 110)),([fy],(.nJ 6)),([ga],.nothing)]) (by simp)),(d.oP (b:=b2) (R:=[([fM,fy,jk],(.gz 114)),([ga],(.gz 113))]) (by simp)),rfl,rfl,rfl⟩ _ rfl;have⟨q0,q1,q2,q3,q4,q5,q6,q7,q8,q9⟩:=jV d.g;have u0:=fA d.g 0;have u1:=fA d.g 1;have u2:=fA d.g 2;have u3:=fA d.g 3;have u4:=fA d.g 4;have u5:=fA d.g 5;have u6:=fA d.g 6;have u7:=fA d.g 7;have u8:=fA d.g 8;have u9:=fA d.g 9;go_wp2;exact kg results72 rfl rfl O
def ni:lM:={blank:= .gz 109,gm:= .gm 105 true,gP:= .nothing,start:=some [([iC,iD,gW],(.gz 116)),([fM],(.gz 115)),([fy],(.nJ 6)),([ga],.nothing)],stop:=some [([fM,fy,jk],(.gz 117))],jG:= .nothing,gN:= .gz 117}
def Ph (bm bB bD:Nat) (w:fO) (N:BD bB bD w) (S:ya w) (G:bm < w.heap.size):
  Calls prog 73 #[gV bB] w (jw bm bB bD ni w):=by
 have O:=@run_makeMap prog;have⟨W0,hW0,HS0⟩:=St.start bm bB bD w S G;have⟨xL,hBl⟩:=N;have B:=fx hW0;clear hW0;go_enter func73,ntmps73
 go_wp21
 rw[<-B.out];refine(HS0.made (ow bm bB bD 105 true _) nofun).mono ?_;rintro e U ⟨I,H,J,rfl,l⟩;have⟨W2,b1,hW2,hb1,HS2⟩:=l.map;have D:=fx hW2;have j:=fx hb1;clear hW2 hb1
 go_wp21
 rw[<-D.out,<-j.out];refine(HS2.nC _ [ga] .nothing (by rfl) (by rfl) rfl).mono ?_;rintro e V ⟨rfl,m⟩
 go_wp21
 refine(m.made (pr bm bB bD 6 _) nofun).mono ?_;rintro e W4 ⟨f4,a4,l4,rfl,h⟩
 go_wp21
 refine(h.nC _ [fy] (.nJ 6) (by rfl) (by rfl) (h.at (by simp))).mono ?_;rintro e W ⟨rfl,q⟩
 go_wp21
 refine(q.nC _ [fM] (.gz 115) (by rfl) (by rfl) rfl).mono ?_;rintro e Y ⟨rfl,z⟩
 go_wp21
 refine(z.nC _ [iC,iD,gW] (.gz 116) (by rfl) (by rfl) rfl).mono ?_;rintro e Z ⟨rfl,A⟩;have⟨W8,b2,hW8,hb2,HS8⟩:=A.map;have F:=fx hW8;have k:=fx hb2;clear hW8 hb2
 go_wp21
 rw[<-F.out,<-k.out];refine(HS8.nC _ [fM,fy,jk] (.gz 117) (by rfl) (by rfl) rfl).mono ?_;rintro e W9 ⟨rfl,d⟩;have K:=jm (sp:=ni) (v0:= .func (.func 109) #[gV bB] #[]) (v1:= .nilFunc) (v2:= .func I H J) (v3:= .func (.func 97) #[] #[]) (v4:= .nilFunc) (v5:= .map (some b1)) (v6:= .map (some b2)) (v7:= .nilFunc) (v8:= .func (.func 97) #[] #[]) (v9:= .func (.func 117) #[gV bB] #[]) d.g d.k ⟨rfl,rfl,(d.at (r:= .gm 105 true) (v:= .func I H J) (by simp)),rfl,rfl,(d.oP (b:=b1) (R:=[([iC,iD,gW],(.gz 116)),([fM],(.gz 115)),([fy],(.nJ 6)),([ga],.nothing)]) (by simp)),(d.oP (b:=b2) (R:=[([fM,fy,jk],(.gz 117))]) (by simp)),rfl,rfl,rfl⟩ _ rfl;have⟨q0,q1,q2,q3,q4,q5,q6,q7,q8,q9⟩:=jV d.g;have u0:=fA d.g 0;have u1:=fA d.g 1;have u2:=fA d.g 2;have u3:=fA d.g 3;have u4:=fA d.g 4;have u5:=fA d.g 5;have u6:=fA d.g 6;have u7:=fA d.g 7;have u8:=fA d.g 8;have u9:=fA d.g 9;go_wp2;exact kg results73 rfl rfl K
def sR:lM:={jq:= .gz 109,il:= .gz 118,gN:= .gz 119}
def Zr (bm bB bD:Nat) (w:fO) (h:BD bB bD w) (k:ya w) (d:bm < w.heap.size):
  Calls prog 74 #[gV bB] w (jw bm bB bD sR w):=by
 have j:=@run_makeMap prog;have⟨W0,HW0,HS0⟩:=St.start bm bB bD w k d;have⟨xL,hBl⟩:=h;go_enter func74,ntmps74;go_wp2;exact kg results74 rfl rfl ⟨fB w _,⟨rfl,rfl,rfl,rfl,rfl,rfl,rfl,rfl,rfl,rfl⟩,(Kept.refl _ _).alloc _⟩
def lu:lM:={jq:= .gz 136,gN:= .gz 137}
def KF (bm bB bD:Nat) (w:fO) (h:BD bB bD w) (k:ya w) (d:bm < w.heap.size):
  Calls prog 77 #[gV bB] w (jw bm bB bD lu w):=by
 have j:=@run_makeMap prog;have⟨W0,HW0,HS0⟩:=St.start bm bB bD w k d;have⟨xL,hBl⟩:=h;go_enter func77,ntmps77;go_wp2;exact kg results77 rfl rfl ⟨fB w _,⟨rfl,rfl,rfl,rfl,rfl,rfl,rfl,rfl,rfl,rfl⟩,(Kept.refl _ _).alloc _⟩
def mX:lM:={start:=some [([fH,gu,fD,fE,gG,fF,gH,fG,gq],(.ahead 138))],stop:=some [([fM,gu,fD,fy,fE,gG,fF,gH,fG,gq],.nothing),([fC],(.ahead 138)),([fH],(.ends 138))],gN:= .nJ 6}
def PX (bm bB bD:Nat) (w:fO) (S:BD bB bD w) (V:ya w) (K:bm < w.heap.size):
  Calls prog 78 #[gV bB] w (jw bm bB bD mX w):=by
 have U:=@run_makeMap prog;have⟨W0,hW0,HS0⟩:=St.start bm bB bD w V K;have⟨xL,hBl⟩:=S;have l:=fx hW0;clear hW0;go_enter func78,ntmps78;have⟨W1,b1,hW1,hb1,HS1⟩:=HS0.map;have I:=fx hW1;have A:=fx hb1;clear hW1 hb1
 go_wp21
 rw[<-l.out];rw[<-I.out,show w.heap.size+1=b1 by rw[A.out,l.out];simp];refine(HS1.made (oc bm bB bD 138 _) nofun).mono ?_;rintro e W ⟨f2,a2,l2,rfl,h⟩
 go_wp21
 refine(h.nC _ [fH,gu,fD,fE,gG,fF,gH,fG,gq] (.ahead 138) rfl (by rfl) (h.at (by simp))).mono ?_;rintro e Y ⟨rfl,D⟩;have⟨W4,b2,hW4,hb2,HS4⟩:=D.map;have J:=fx hW4;have B:=fx hb2;clear hW4 hb2
 go_wp21
 rw[<-J.out,<-B.out];refine(HS4.made (xy bm bB bD 138 _) nofun).mono ?_;rintro e Z ⟨f5,a5,l5,rfl,j⟩
 go_wp21
 refine(j.nC _ [fH] (.ends 138) (by rfl) (by rfl) (j.at (by simp))).mono ?_;rintro e W6 ⟨rfl,F⟩
 go_wp21
 refine(F.made (oc bm bB bD 138 _) nofun).mono ?_;rintro e W7 ⟨f7,a7,l7,rfl,k⟩
 go_wp21
 refine(k.nC _ [fC] (.ahead 138) (by rfl) (by rfl) (k.at (by simp))).mono ?_;rintro e W8 ⟨rfl,G⟩
 go_wp21
 refine(G.nC _ [fM,gu,fD,fy,fE,gG,fF,gH,fG,gq] .nothing rfl (by rfl) rfl).mono ?_;rintro e W9 ⟨rfl,H⟩
 go_wp21
 refine(H.made (pr bm bB bD 6 _) nofun).mono ?_;rintro e O ⟨q,m,z,rfl,d⟩;have N:=jm (sp:=mX) (v0:= .nilFunc) (v1:= .nilFunc) (v2:= .nilFunc) (v3:= .nilFunc) (v4:= .nilFunc) (v5:= .map (some b1)) (v6:= .map (some b2)) (v7:= .nilFunc) (v8:= .nilFunc) (v9:= .func q m z) d.g d.k ⟨rfl,rfl,rfl,rfl,rfl,(d.oP (b:=b1) (R:=[([fH,gu,fD,fE,gG,fF,gH,fG,gq],(.ahead 138))]) (by simp)),(d.oP (b:=b2) (R:=[([fM,gu,fD,fy,fE,gG,fF,gH,fG,gq],.nothing),([fC],(.ahead 138)),([fH],(.ends 138))]) (by simp)),rfl,rfl,(d.at (r:= .nJ 6) (v:= .func q m z) (by simp))⟩ _ rfl;have⟨q0,q1,q2,q3,q4,q5,q6,q7,q8,q9⟩:=jV d.g;have u0:=fA d.g 0;have u1:=fA d.g 1;have u2:=fA d.g 2;have u3:=fA d.g 3;have u4:=fA d.g 4;have u5:=fA d.g 5;have u6:=fA d.g 6;have u7:=fA d.g 7;have u8:=fA d.g 8;have u9:=fA d.g 9;go_wp2;exact kg results78 rfl rfl N
def pg:lM:={jq:= .gz 125,gm:= .gm 105 true,gP:= .nothing,start:=some [([iK],(.gz 133)),([gZ],(.gz 132)),([gW],(.nJ 3)),([fC],(.ahead 131)),([gG,gH,gq],(.mh [fC] fE 11)),([fE,fF,fG],(.po [fC] 11)),([gu],(.mh [fC] fD 10)),([fD],(.po [fC] 10)),([fH],(.gz 126))],stop:=some [([fM,fH,gu,fD,fy,fE,gG,fF,gH,fG,gq],.nothing),([fC],(.ends 131))],gN:= .gz 135}
def WF (bm bB bD:Nat) (w:fO) (hb:BD bB bD w) (ht:ya w) (ac:bm < w.heap.size):
  Calls prog 76 #[gV bB] w (jw bm bB bD pg w):=by
 have aI:=@run_makeMap prog;have⟨W0,hW0,HS0⟩:=St.start bm bB bD w ht ac;have⟨xL,hBl⟩:=hb;have aa:=fx hW0;clear hW0;go_enter func76,ntmps76
 go_wp21
 rw[<-aa.out];refine(HS0.made (ow bm bB bD 105 true _) nofun).mono ?_;rintro e W1 ⟨f1,a1,l1,rfl,Z⟩;have⟨W2,b1,hW2,hb1,HS2⟩:=Z.map;have ab:=fx hW2;have W:=fx hb1;clear hW2 hb1
 go_wp21
 rw[<-ab.out,<-W.out];refine(HS2.nC _ [fH] (.gz 126) (by rfl) (by rfl) rfl).mono ?_;rintro e W3 ⟨rfl,a0⟩
 go_wp21
 refine(a0.Xf (Bu bm _)).mono ?_;rintro e W4 ⟨f4,a4,l4,rfl,U,a2⟩
 go_wp21
 refine(a2.made (Bk bm bB bD [fC] 10 _ _ U) nofun).mono ?_;rintro e W5 ⟨f5,a5,l5,rfl,N⟩
 go_wp21
 refine(N.nC _ [fD] (.po [fC] 10) (by rfl) (by rfl) (N.at (by simp))).mono ?_;rintro e W6 ⟨rfl,a3⟩
 go_wp21
 refine(a3.Xf (Bu bm _)).mono ?_;rintro e W7 ⟨f7,a7,l7,rfl,V,a6⟩
 go_wp21
 refine(a6.made (Db bm bB bD [fC] fD 10 _ _ V) nofun).mono ?_;rintro e W8 ⟨f8,a8,l8,rfl,O⟩
 go_wp21
 refine(O.nC _ [gu] (.mh [fC] fD 10) (by rfl) (by rfl) (O.at (by simp))).mono ?_;rintro e W9 ⟨rfl,a9⟩
 go_wp21
 refine(a9.Xf (Bu bm _)).mono ?_;rintro e ad ⟨aB,au,aJ,rfl,q,A⟩
 go_wp21
 refine(A.made (Bk bm bB bD [fC] 11 _ _ q) nofun).mono ?_;rintro e ae ⟨aC,av,aK,rfl,h⟩
 go_wp21
 refine(h.nC _ [fE,fF,fG] (.po [fC] 11) (by rfl) (by rfl) (h.at (by simp))).mono ?_;rintro e af ⟨rfl,B⟩
 go_wp21
 refine(B.Xf (Bu bm _)).mono ?_;rintro e ag ⟨aD,aw,aL,rfl,z,D⟩
 go_wp21
 refine(D.made (Db bm bB bD [fC] fE 11 _ _ z) nofun).mono ?_;rintro e ah ⟨aE,ax,aM,rfl,j⟩
 go_wp21
 refine(j.nC _ [gG,gH,gq] (.mh [fC] fE 11) (by rfl) (by rfl) (j.at (by simp))).mono ?_;rintro e ai ⟨rfl,F⟩
 go_wp21
 refine(F.made (oc bm bB bD 131 _) nofun).mono ?_;rintro e aj ⟨aF,ay,aN,rfl,k⟩
 go_wp21
 refine(k.nC _ [fC] (.ahead 131) (by rfl) (by rfl) (k.at (by simp))).mono ?_;rintro e ak ⟨rfl,G⟩
 go_wp21
 refine(G.made (pr bm bB bD 3 _) nofun).mono ?_;rintro e al ⟨aG,az,aO,rfl,l⟩
 go_wp21
 refine(l.nC _ [gW] (.nJ 3) (by rfl) (by rfl) (l.at (by simp))).mono ?_;rintro e am ⟨rfl,H⟩
 go_wp21
 refine(H.nC _ [gZ] (.gz 132) (by rfl) (by rfl) rfl).mono ?_;rintro e an ⟨rfl,I⟩
 go_wp21
 refine(I.nC _ [iK] (.gz 133) (by rfl) (by rfl) rfl).mono ?_;rintro e ao ⟨rfl,J⟩;have⟨W22,b2,hW22,hb2,HS22⟩:=J.map;have S:=fx hW22;have Y:=fx hb2;clear hW22 hb2
 go_wp21
 rw[<-S.out,<-Y.out];refine(HS22.made (xy bm bB bD 131 _) nofun).mono ?_;rintro e ap ⟨aH,aA,aP,rfl,m⟩
 go_wp21
 refine(m.nC _ [fC] (.ends 131) (by rfl) (by rfl) (m.at (by simp))).mono ?_;rintro e aq ⟨rfl,K⟩
 go_wp21
 refine(K.nC _ [fM,fH,gu,fD,fy,fE,gG,fF,gH,fG,gq] .nothing rfl rfl rfl).mono ?_;rintro e ar ⟨rfl,d⟩;have HF:=jm (sp:=pg) (v0:= .nilFunc) (v1:= .func (.func 125) #[gV bB] #[]) (v2:= .func f1 a1 l1) (v3:= .func (.func 97) #[] #[]) (v4:= .nilFunc) (v5:= .map (some b1)) (v6:= .map (some b2)) (v7:= .nilFunc) (v8:= .nilFunc) (v9:= .func (.func 135) #[gV bB] #[]) d.g d.k ⟨rfl,rfl,(d.at (r:= .gm 105 true) (v:= .func f1 a1 l1) (by simp)),rfl,rfl,(d.oP (b:=b1) (R:=[([iK],(.gz 133)),([gZ],(.gz 132)),([gW],(.nJ 3)),([fC],(.ahead 131)),([gG,gH,gq],(.mh [fC] fE 11)),([fE,fF,fG],(.po [fC] 11)),([gu],(.mh [fC] fD 10)),([fD],(.po [fC] 10)),([fH],(.gz 126))]) (by simp)),(d.oP (b:=b2) (R:=[([fM,fH,gu,fD,fy,fE,gG,fF,gH,fG,gq],.nothing),([fC],(.ends 131))]) (by simp)),rfl,rfl,rfl⟩ _ rfl;have⟨q0,q1,q2,q3,q4,q5,q6,q7,q8,q9⟩:=jV d.g;have u0:=fA d.g 0;have u1:=fA d.g 1;have u2:=fA d.g 2;have u3:=fA d.g 3;have u4:=fA d.g 4;have u5:=fA d.g 5;have u6:=fA d.g 6;have u7:=fA d.g 7;have u8:=fA d.g 8;have u9:=fA d.g 9;go_wp2;exact kg results76 rfl rfl HF
def jL:lM:={blank:= .gz 109,gm:= .gm 105 true,gP:= .nothing,il:= .nJ 6,start:=some [([gu],(.gz 110)),([fy],(.nJ 6))],stop:=some [([fD],(.ends 139)),([gu],.nothing)],gN:= .ahead 139}
def GO (bm bB bD:Nat) (w:fO) (hb:BD bB bD w) (ht:ya w) (N:bm < w.heap.size):
  Calls prog 79 #[gV bB] w (jw bm bB bD jL w):=by
 have a5:=@run_makeMap prog;have⟨W0,hW0,HS0⟩:=St.start bm bB bD w ht N;have⟨xL,hBl⟩:=hb;have I:=fx hW0;clear hW0;go_enter func79,ntmps79
 go_wp21
 rw[<-I.out];refine(HS0.made (ow bm bB bD 105 true _) nofun).mono ?_;rintro e W1 ⟨U,O,W,rfl,B⟩
 go_wp21
 refine(B.made (pr bm bB bD 6 _) nofun).mono ?_;rintro e W2 ⟨V,S,Y,rfl,D⟩;have⟨W3,b1,hW3,hb1,HS3⟩:=D.map;have J:=fx hW3;have z:=fx hb1;clear hW3 hb1
 go_wp21
 rw[<-J.out,<-z.out];refine(HS3.made (pr bm bB bD 6 _) nofun).mono ?_;rintro e W4 ⟨f4,a4,l4,rfl,j⟩
 go_wp21
 refine(j.nC _ [fy] (.nJ 6) (by rfl) (by rfl) (j.at (by simp))).mono ?_;rintro e W5 ⟨rfl,F⟩
 go_wp21
 refine(F.nC _ [gu] (.gz 110) (by rfl) (by rfl) rfl).mono ?_;rintro e W6 ⟨rfl,G⟩;have⟨W7,b2,hW7,hb2,HS7⟩:=G.map;have K:=fx hW7;have A:=fx hb2;clear hW7 hb2
 go_wp21
 rw[<-K.out,<-A.out];refine(HS7.nC _ [gu] .nothing (by rfl) (by rfl) rfl).mono ?_;rintro e W8 ⟨rfl,H⟩
 go_wp21
 refine(H.made (xy bm bB bD 139 _) nofun).mono ?_;rintro e W9 ⟨f9,a9,l9,rfl,k⟩
 go_wp21
 refine(k.nC _ [fD] (.ends 139) (by rfl) (by rfl) (k.at (by simp))).mono ?_;rintro e a0 ⟨rfl,h⟩
 go_wp21
 refine(h.made (oc bm bB bD 139 _) nofun).mono ?_;rintro e a3 ⟨m,l,q,rfl,d⟩;have Z:=jm (sp:=jL) (v0:= .func (.func 109) #[gV bB] #[]) (v1:= .nilFunc) (v2:= .func U O W) (v3:= .func (.func 97) #[] #[]) (v4:= .func V S Y) (v5:= .map (some b1)) (v6:= .map (some b2)) (v7:= .nilFunc) (v8:= .nilFunc) (v9:= .func m l q) d.g d.k ⟨rfl,rfl,(d.at (r:= .gm 105 true) (v:= .func U O W) (by simp)),rfl,(d.at (r:= .nJ 6) (v:= .func V S Y) (by simp)),(d.oP (b:=b1) (R:=[([gu],(.gz 110)),([fy],(.nJ 6))]) (by simp)),(d.oP (b:=b2) (R:=[([fD],(.ends 139)),([gu],.nothing)]) (by simp)),rfl,rfl,(d.at (r:= .ahead 139) (v:= .func m l q) (by simp))⟩ _ rfl;have⟨q0,q1,q2,q3,q4,q5,q6,q7,q8,q9⟩:=jV d.g;have u0:=fA d.g 0;have u1:=fA d.g 1;have u2:=fA d.g 2;have u3:=fA d.g 3;have u4:=fA d.g 4;have u5:=fA d.g 5;have u6:=fA d.g 6;have u7:=fA d.g 7;have u8:=fA d.g 8;have u9:=fA d.g 9;go_wp2;exact kg results79 rfl rfl Z
def jJ:lM:={start:=some [([fH,gu,fD,fE,fF,fG],(.ahead 141)),([gG,gH],(.mh [fE,fF,fG] gq 12)),([gq],(.po [fE,fF,fG] 12))],stop:=some [([fM,fH,gu,fD,fy,gG,gH,gq],.nothing),([fC],(.ahead 141)),([fE,fF,fG],(.GZ (.ends 141)))],gN:= .nJ 7}
def KE (bm bB bD:Nat) (w:fO) (hb:BD bB bD w) (ht:ya w) (a0:bm < w.heap.size):
  Calls prog 80 #[gV bB] w (jw bm bB bD jJ w):=by
 have aj:=@run_makeMap prog;have⟨W0,hW0,HS0⟩:=St.start bm bB bD w ht a0;have⟨xL,hBl⟩:=hb;have D:=fx hW0;clear hW0;go_enter func80,ntmps80;have⟨W1,b1,hW1,hb1,HS1⟩:=HS0.map;have Z:=fx hW1;have N:=fx hb1;clear hW1 hb1
 go_wp21
 rw[<-D.out];rw[<-Z.out,show w.heap.size+1=b1 by rw[N.out,D.out];simp];refine(HS1.Xf (zJ bm _)).mono ?_;rintro e W2 ⟨f2,a2,l2,rfl,J,S⟩
 go_wp21
 refine(S.made (Bk bm bB bD [fE,fF,fG] 12 _ _ J) nofun).mono ?_;rintro e W3 ⟨f3,a3,l3,rfl,z⟩
 go_wp21
 refine(z.nC _ [gq] (.po [fE,fF,fG] 12) (by rfl) (by rfl) (z.at (by simp))).mono ?_;rintro e W4 ⟨rfl,U⟩
 go_wp21
 refine(U.Xf (zJ bm _)).mono ?_;rintro e W5 ⟨f5,a5,l5,rfl,K,V⟩
 go_wp21
 refine(V.made (Db bm bB bD [fE,fF,fG] gq 12 _ _ K) nofun).mono ?_;rintro e W6 ⟨f6,a6,l6,rfl,A⟩
 go_wp21
 refine(A.nC _ [gG,gH] (.mh [fE,fF,fG] gq 12) (by rfl) (by rfl) (A.at (by simp))).mono ?_;rintro e W7 ⟨rfl,W⟩
 go_wp21
 refine(W.made (oc bm bB bD 141 _) nofun).mono ?_;rintro e W8 ⟨f8,a8,l8,rfl,B⟩
 go_wp21
 refine(B.nC _ [fH,gu,fD,fE,fF,fG] (.ahead 141) rfl (by rfl) (B.at (by simp))).mono ?_;rintro e W9 ⟨rfl,Y⟩;have⟨W10,b2,hW10,hb2,HS10⟩:=Y.map;have F:=fx hW10;have O:=fx hb2;clear hW10 hb2
 go_wp21
 rw[<-F.out,<-O.out];refine(HS10.made (xy bm bB bD 141 _) nofun).mono ?_;rintro e a1 ⟨ag,ad,ak,rfl,h⟩
 go_wp21
 refine(h.made (J9 bm bB bD (.ends 141) _ _ (by simp) (h.at (by simp))) nofun).mono ?_;rintro e a4 ⟨ah,ae,al,rfl,j⟩
 go_wp21
 refine(j.nC _ [fE,fF,fG] (.GZ (.ends 141)) (by rfl) (by rfl) (j.at (by simp))).mono ?_;rintro e a7 ⟨rfl,l⟩
 go_wp21
 refine(l.made (oc bm bB bD 141 _) nofun).mono ?_;rintro e a9 ⟨ai,af,am,rfl,k⟩
 go_wp21
 refine(k.nC _ [fC] (.ahead 141) (by rfl) (by rfl) (k.at (by simp))).mono ?_;rintro e aa ⟨rfl,m⟩
 go_wp21
 refine(m.nC _ [fM,fH,gu,fD,fy,gG,gH,gq] .nothing (by rfl) (by rfl) rfl).mono ?_;rintro e ab ⟨rfl,q⟩
 go_wp21
 refine(q.made (pr bm bB bD 7 _) nofun).mono ?_;rintro e ac ⟨H,G,I,rfl,d⟩;have HF:=jm (sp:=jJ) (v0:= .nilFunc) (v1:= .nilFunc) (v2:= .nilFunc) (v3:= .nilFunc) (v4:= .nilFunc) (v5:= .map (some b1)) (v6:= .map (some b2)) (v7:= .nilFunc) (v8:= .nilFunc) (v9:= .func H G I) d.g d.k ⟨rfl,rfl,rfl,rfl,rfl,(d.oP (b:=b1) (R:=[([fH,gu,fD,fE,fF,fG],(.ahead 141)),([gG,gH],(.mh [fE,fF,fG] gq 12)),([gq],(.po [fE,fF,fG] 12))]) (by simp)),(d.oP (b:=b2) (R:=[([fM,fH,gu,fD,fy,gG,gH,gq],.nothing),([fC],(.ahead 141)),([fE,fF,fG],(.GZ (.ends 141)))]) (by simp)),rfl,rfl,(d.at (r:= .nJ 7) (v:= .func H G I) (by simp))⟩ _ rfl;have⟨q0,q1,q2,q3,q4,q5,q6,q7,q8,q9⟩:=jV d.g;have u0:=fA d.g 0;have u1:=fA d.g 1;have u2:=fA d.g 2;have u3:=fA d.g 3;have u4:=fA d.g 4;have u5:=fA d.g 5;have u6:=fA d.g 6;have u7:=fA d.g 7;have u8:=fA d.g 8;have u9:=fA d.g 9;go_wp2;exact kg results80 rfl rfl HF
def qz:lM:={start:=some [([fH,gu,fD,fE,fF,fG,gq],(.ahead 144)),([gG,gH],(.gz 143))],stop:=some [([fM,fH,gu,fD,fy,gG,gH],.nothing),([fE,fF,fG],(.GZ (.ahead 144))),([fC],(.ahead 144)),([gq],(.ends 144))],gN:= .nJ 7}
def aa0 (bm bB bD:Nat) (w:fO) (hb:BD bB bD w) (ht:ya w) (U:bm < w.heap.size):
  Calls prog 81 #[gV bB] w (jw bm bB bD qz w):=by
 have a9:=@run_makeMap prog;have⟨W0,hW0,HS0⟩:=St.start bm bB bD w ht U;have⟨xL,hBl⟩:=hb;have A:=fx hW0;clear hW0;go_enter func81,ntmps81;have⟨W1,b1,hW1,hb1,HS1⟩:=HS0.map;have O:=fx hW1;have G:=fx hb1;clear hW1 hb1
 go_wp21
 rw[<-A.out];rw[<-O.out,show w.heap.size+1=b1 by rw[G.out,A.out];simp];refine(HS1.nC _ [gG,gH] (.gz 143) (by rfl) (by rfl) rfl).mono ?_;rintro e W2 ⟨rfl,I⟩
 go_wp21
 refine(I.made (oc bm bB bD 144 _) nofun).mono ?_;rintro e W3 ⟨f3,a3,l3,rfl,m⟩
 go_wp21
 refine(m.nC _ [fH,gu,fD,fE,fF,fG,gq] (.ahead 144) rfl (by rfl) (m.at (by simp))).mono ?_;rintro e W4 ⟨rfl,J⟩;have⟨W5,b2,hW5,hb2,HS5⟩:=J.map;have S:=fx hW5;have H:=fx hb2;clear hW5 hb2
 go_wp21
 rw[<-S.out,<-H.out];refine(HS5.made (xy bm bB bD 144 _) nofun).mono ?_;rintro e W6 ⟨f6,a6,l6,rfl,q⟩
 go_wp21
 refine(q.nC _ [gq] (.ends 144) (by rfl) (by rfl) (q.at (by simp))).mono ?_;rintro e W7 ⟨rfl,K⟩
 go_wp21
 refine(K.made (oc bm bB bD 144 _) nofun).mono ?_;rintro e W8 ⟨f8,a8,l8,rfl,z⟩
 go_wp21
 refine(z.nC _ [fC] (.ahead 144) (by rfl) (by rfl) (z.at (by simp))).mono ?_;rintro e W9 ⟨rfl,N⟩
 go_wp21
 refine(N.made (oc bm bB bD 144 _) nofun).mono ?_;rintro e W ⟨a5,a2,aa,rfl,h⟩
 go_wp21
 refine(h.made (J9 bm bB bD (.ahead 144) _ _ (by simp) (h.at (by simp))) nofun).mono ?_;rintro e Y ⟨a7,a4,ab,rfl,j⟩
 go_wp21
 refine(j.nC _ [fE,fF,fG] (.GZ (.ahead 144)) (by rfl) (by rfl) (j.at (by simp))).mono ?_;rintro e Z ⟨rfl,k⟩
 go_wp21
 refine(k.nC _ [fM,fH,gu,fD,fy,gG,gH] .nothing (by rfl) (by rfl) rfl).mono ?_;rintro e a0 ⟨rfl,l⟩
 go_wp21
 refine(l.made (pr bm bB bD 7 _) nofun).mono ?_;rintro e a1 ⟨D,B,F,rfl,d⟩;have V:=jm (sp:=qz) (v0:= .nilFunc) (v1:= .nilFunc) (v2:= .nilFunc) (v3:= .nilFunc) (v4:= .nilFunc) (v5:= .map (some b1)) (v6:= .map (some b2)) (v7:= .nilFunc) (v8:= .nilFunc) (v9:= .func D B F) d.g d.k ⟨rfl,rfl,rfl,rfl,rfl,(d.oP (b:=b1) (R:=[([fH,gu,fD,fE,fF,fG,gq],(.ahead 144)),([gG,gH],(.gz 143))]) (by simp)),(d.oP (b:=b2) (R:=[([fM,fH,gu,fD,fy,gG,gH],.nothing),([fE,fF,fG],(.GZ (.ahead 144))),([fC],(.ahead 144)),([gq],(.ends 144))]) (by simp)),rfl,rfl,(d.at (r:= .nJ 7) (v:= .func D B F) (by simp))⟩ _ rfl;have⟨q0,q1,q2,q3,q4,q5,q6,q7,q8,q9⟩:=jV d.g;have u0:=fA d.g 0;have u1:=fA d.g 1;have u2:=fA d.g 2;have u3:=fA d.g 3;have u4:=fA d.g 4;have u5:=fA d.g 5;have u6:=fA d.g 6;have u7:=fA d.g 7;have u8:=fA d.g 8;have u9:=fA d.g 9;go_wp2;exact kg results81 rfl rfl V
def qJ:lM:={start:=some [([fH,gu,fD,fE,gG,fF,gH,fG,gq],(.ahead 145))],stop:=some [([fM,fH,gu,fD,fy],.nothing),([fC,fE,fF,fG,gq],(.GZ (.ahead 145))),([gG,gH],(.GZ (.ends 145)))],gN:= .nJ 6}
def Y5 (bm bB bD:Nat) (w:fO) (Y:BD bB bD w) (ht:ya w) (O:bm < w.heap.size):
  Calls prog 82 #[gV bB] w (jw bm bB bD qJ w):=by
 have Z:=@run_makeMap prog;have⟨W0,hW0,HS0⟩:=St.start bm bB bD w ht O;have⟨xL,hBl⟩:=Y;have A:=fx hW0;clear hW0;go_enter func82,ntmps82;have⟨W1,b1,hW1,hb1,HS1⟩:=HS0.map;have K:=fx hW1;have G:=fx hb1;clear hW1 hb1
 go_wp21
 rw[<-A.out];rw[<-K.out,show w.heap.size+1=b1 by rw[G.out,A.out];simp];refine(HS1.made (oc bm bB bD 145 _) nofun).mono ?_;rintro e W2 ⟨f2,a2,l2,rfl,k⟩
 go_wp21
 refine(k.nC _ [fH,gu,fD,fE,gG,fF,gH,fG,gq] (.ahead 145) rfl (by rfl) (k.at (by simp))).mono ?_;rintro e W3 ⟨rfl,I⟩;have⟨W4,b2,hW4,hb2,HS4⟩:=I.map;have N:=fx hW4;have H:=fx hb2;clear hW4 hb2
 go_wp21
 rw[<-N.out,<-H.out];refine(HS4.made (xy bm bB bD 145 _) nofun).mono ?_;rintro e W5 ⟨f5,a5,l5,rfl,l⟩
 go_wp21
 refine(l.made (J9 bm bB bD (.ends 145) _ _ (by simp) (l.at (by simp))) nofun).mono ?_;rintro e W6 ⟨f6,a6,l6,rfl,m⟩
 go_wp21
 refine(m.nC _ [gG,gH] (.GZ (.ends 145)) (by rfl) (by rfl) (m.at (by simp))).mono ?_;rintro e W7 ⟨rfl,J⟩
 go_wp21
 refine(J.made (oc bm bB bD 145 _) nofun).mono ?_;rintro e W8 ⟨f8,a8,l8,rfl,q⟩
 go_wp21
 refine(q.made (J9 bm bB bD (.ahead 145) _ _ (by simp) (q.at (by simp))) nofun).mono ?_;rintro e W9 ⟨f9,a9,l9,rfl,z⟩
 go_wp21
 refine(z.nC _ [fC,fE,fF,fG,gq] (.GZ (.ahead 145)) (by rfl) (by rfl) (z.at (by simp))).mono ?_;rintro e U ⟨rfl,h⟩
 go_wp21
 refine(h.nC _ [fM,fH,gu,fD,fy] .nothing (by rfl) (by rfl) rfl).mono ?_;rintro e V ⟨rfl,j⟩
 go_wp21
 refine(j.made (pr bm bB bD 6 _) nofun).mono ?_;rintro e W ⟨D,B,F,rfl,d⟩;have S:=jm (sp:=qJ) (v0:= .nilFunc) (v1:= .nilFunc) (v2:= .nilFunc) (v3:= .nilFunc) (v4:= .nilFunc) (v5:= .map (some b1)) (v6:= .map (some b2)) (v7:= .nilFunc) (v8:= .nilFunc) (v9:= .func D B F) d.g d.k ⟨rfl,rfl,rfl,rfl,rfl,(d.oP (b:=b1) (R:=[([fH,gu,fD,fE,gG,fF,gH,fG,gq],(.ahead 145))]) (by simp)),(d.oP (b:=b2) (R:=[([fM,fH,gu,fD,fy],.nothing),([fC,fE,fF,fG,gq],(.GZ (.ahead 145))),([gG,gH],(.GZ (.ends 145)))]) (by simp)),rfl,rfl,(d.at (r:= .nJ 6) (v:= .func D B F) (by simp))⟩ _ rfl;have⟨q0,q1,q2,q3,q4,q5,q6,q7,q8,q9⟩:=jV d.g;have u0:=fA d.g 0;have u1:=fA d.g 1;have u2:=fA d.g 2;have u3:=fA d.g 3;have u4:=fA d.g 4;have u5:=fA d.g 5;have u6:=fA d.g 6;have u7:=fA d.g 7;have u8:=fA d.g 8;have u9:=fA d.g 9;go_wp2;exact kg results82 rfl rfl S
def oo:lM:={jq:= .gz 146,gm:= .gm 105 true,start:=some [([iK,iO],(.ahead 150)),([ig],(.ends 150)),([sv],(.gz 149)),([fJ],(.gz 148)),([fY],(.gz 147)),([fy],(.nJ 6))],stop:=some [([ig],(.ends 150)),([fY],(.gz 152)),([fJ],(.gz 151))],gN:= .nothing}
def Th (bm bB bD:Nat) (w:fO) (hb:BD bB bD w) (ht:ya w) (S:bm < w.heap.size):
  Calls prog 83 #[gV bB] w (jw bm bB bD oo w):=by
 have ac:=@run_makeMap prog;have⟨W0,hW0,HS0⟩:=St.start bm bB bD w ht S;have⟨xL,hBl⟩:=hb;have N:=fx hW0;clear hW0;go_enter func83,ntmps83
 go_wp21
 rw[<-N.out];refine(HS0.made (ow bm bB bD 105 true _) nofun).mono ?_;rintro e W1 ⟨V,U,W,rfl,F⟩;have⟨W2,b1,hW2,hb1,HS2⟩:=F.map;have O:=fx hW2;have B:=fx hb1;clear hW2 hb1
 go_wp21
 rw[<-O.out,<-B.out];refine(HS2.made (pr bm bB bD 6 _) nofun).mono ?_;rintro e W3 ⟨f3,a3,l3,rfl,q⟩
 go_wp21
 refine(q.nC _ [fy] (.nJ 6) (by rfl) (by rfl) (q.at (by simp))).mono ?_;rintro e W4 ⟨rfl,G⟩
 go_wp21
 refine(G.nC _ [fY] (.gz 147) (by rfl) (by rfl) rfl).mono ?_;rintro e W5 ⟨rfl,H⟩
 go_wp21
 refine(H.nC _ [fJ] (.gz 148) (by rfl) (by rfl) rfl).mono ?_;rintro e W6 ⟨rfl,I⟩
 go_wp21
 refine(I.nC _ [sv] (.gz 149) (by rfl) (by rfl) rfl).mono ?_;rintro e W7 ⟨rfl,J⟩
 go_wp21
 refine(J.made (xy bm bB bD 150 _) nofun).mono ?_;rintro e W8 ⟨f8,a8,l8,rfl,z⟩
 go_wp21
 refine(z.nC _ [ig] (.ends 150) (by rfl) (by rfl) (z.at (by simp))).mono ?_;rintro e W9 ⟨rfl,K⟩
 go_wp21
 refine(K.made (oc bm bB bD 150 _) nofun).mono ?_;rintro e Z ⟨aa,a7,ad,rfl,h⟩
 go_wp21
 refine(h.nC _ [iK,iO] (.ahead 150) (by rfl) (by rfl) (h.at (by simp))).mono ?_;rintro e a0 ⟨rfl,k⟩;have⟨W12,b2,hW12,hb2,HS12⟩:=k.map;have A:=fx hW12;have D:=fx hb2;clear hW12 hb2
 go_wp21
 rw[<-A.out,<-D.out];refine(HS12.nC _ [fJ] (.gz 151) (by rfl) (by rfl) rfl).mono ?_;rintro e a2 ⟨rfl,l⟩
 go_wp21
 refine(l.nC _ [fY] (.gz 152) (by rfl) (by rfl) rfl).mono ?_;rintro e a4 ⟨rfl,m⟩
 go_wp21
 refine(m.made (xy bm bB bD 150 _) nofun).mono ?_;rintro e a5 ⟨ab,a9,ae,rfl,j⟩
 go_wp21
 refine(j.nC _ [ig] (.ends 150) (by rfl) (by rfl) (j.at (by simp))).mono ?_;rintro e a6 ⟨rfl,d⟩;have Y:=jm (sp:=oo) (v0:= .nilFunc) (v1:= .func (.func 146) #[gV bB] #[]) (v2:= .func V U W) (v3:= .nilFunc) (v4:= .nilFunc) (v5:= .map (some b1)) (v6:= .map (some b2)) (v7:= .nilFunc) (v8:= .nilFunc) (v9:= .func (.func 97) #[] #[]) d.g d.k ⟨rfl,rfl,(d.at (r:= .gm 105 true) (v:= .func V U W) (by simp)),rfl,rfl,(d.oP (b:=b1) (R:=[([iK,iO],(.ahead 150)),([ig],(.ends 150)),([sv],(.gz 149)),([fJ],(.gz 148)),([fY],(.gz 147)),([fy],(.nJ 6))]) (by simp)),(d.oP (b:=b2) (R:=[([ig],(.ends 150)),([fY],(.gz 152)),([fJ],(.gz 151))]) (by simp)),rfl,rfl,rfl⟩ _ rfl;have⟨q0,q1,q2,q3,q4,q5,q6,q7,q8,q9⟩:=jV d.g;have u0:=fA d.g 0;have u1:=fA d.g 1;have u2:=fA d.g 2;have u3:=fA d.g 3;have u4:=fA d.g 4;have u5:=fA d.g 5;have u6:=fA d.g 6;have u7:=fA d.g 7;have u8:=fA d.g 8;have u9:=fA d.g 9;go_wp2;exact kg results83 rfl rfl Y
def jH:lM:={start:=some [([fH,fC,fE,fF,fG,gq,gG,gH],(.ahead 150))],stop:=some [([fH,fC,fE,fF,fG,gq,gG,gH],(.GZ (.ahead 150)))],gN:= .nJ 14}
def Dy (bm bB bD:Nat) (w:fO) (K:BD bB bD w) (O:ya w) (F:bm < w.heap.size):
  Calls prog 84 #[gV bB] w (jw bm bB bD jH w):=by
 have N:=@run_makeMap prog;have⟨W0,hW0,HS0⟩:=St.start bm bB bD w O F;have⟨xL,hBl⟩:=K;have l:=fx hW0;clear hW0;go_enter func84,ntmps84;have⟨W1,b1,hW1,hb1,HS1⟩:=HS0.map;have B:=fx hW1;have m:=fx hb1;clear hW1 hb1
 go_wp21
 rw[<-l.out];rw[<-B.out,show w.heap.size+1=b1 by rw[m.out,l.out];simp];refine(HS1.made (oc bm bB bD 150 _) nofun).mono ?_;rintro e S ⟨f2,a2,l2,rfl,h⟩
 go_wp21
 refine(h.nC _ [fH,fC,fE,fF,fG,gq,gG,gH] (.ahead 150) (by rfl) (by rfl) (h.at (by simp))).mono ?_;rintro e U ⟨rfl,z⟩;have⟨W4,b2,hW4,hb2,HS4⟩:=z.map;have D:=fx hW4;have q:=fx hb2;clear hW4 hb2
 go_wp21
 rw[<-D.out,<-q.out];refine(HS4.made (oc bm bB bD 150 _) nofun).mono ?_;rintro e V ⟨f5,a5,l5,rfl,j⟩
 go_wp21
 refine(j.made (J9 bm bB bD (.ahead 150) _ _ (by simp) (j.at (by simp))) nofun).mono ?_;rintro e W ⟨f6,a6,l6,rfl,k⟩
 go_wp21
 refine(k.nC _ [fH,fC,fE,fF,fG,gq,gG,gH] (.GZ (.ahead 150)) (by rfl) (by rfl) (k.at (by simp))).mono ?_;rintro e Y ⟨rfl,A⟩
 go_wp21
 refine(A.made (pr bm bB bD 14 _) nofun).mono ?_;rintro e Z ⟨H,G,I,rfl,d⟩;have J:=jm (sp:=jH) (v0:= .nilFunc) (v1:= .nilFunc) (v2:= .nilFunc) (v3:= .nilFunc) (v4:= .nilFunc) (v5:= .map (some b1)) (v6:= .map (some b2)) (v7:= .nilFunc) (v8:= .nilFunc) (v9:= .func H G I) d.g d.k ⟨rfl,rfl,rfl,rfl,rfl,(d.oP (b:=b1) (R:=[([fH,fC,fE,fF,fG,gq,gG,gH],(.ahead 150))]) (by simp)),(d.oP (b:=b2) (R:=[([fH,fC,fE,fF,fG,gq,gG,gH],(.GZ (.ahead 150)))]) (by simp)),rfl,rfl,(d.at (r:= .nJ 14) (v:= .func H G I) (by simp))⟩ _ rfl;have⟨q0,q1,q2,q3,q4,q5,q6,q7,q8,q9⟩:=jV d.g;have u0:=fA d.g 0;have u1:=fA d.g 1;have u2:=fA d.g 2;have u3:=fA d.g 3;have u4:=fA d.g 4;have u5:=fA d.g 5;have u6:=fA d.g 6;have u7:=fA d.g 7;have u8:=fA d.g 8;have u9:=fA d.g 9;go_wp2;exact kg results84 rfl rfl J
def my (z:jB) (d f a:Int) (v:gh) (bD:Nat):jB:=((((z.setIfInBounds 0 (fK d)).setIfInBounds 1 (fK f)).setIfInBounds 2 (fK a)).setIfInBounds 3 v).setIfInBounds 187 (gV bD)
def rV:Tryz.zeroCells180.size=199:=by rfl
def BX (z:jB) (d f a:Int) (v:gh) (bD:Nat):(my z d f a v bD).size=z.size:=by
 simp[my]
theorem xA (z:jB) (d f a:Int) (v:gh) (bD i:Nat) (h:4<=i) (j:i≠187):(my z d f a v bD)[i]?=z[i]?:=by
 simp only[my,zR]
 grind
def wo:List lM:=[{blank:= .nothing,gm:= .gm 99 false,gP:= .gz 100,gN:= .gz 101},mi,mf,lO,ni,sR,kG,pg,lu,mX,jL,jJ,qz,qJ,oo,jH,mj,jz 99 false]
def ny.one (h:ny bm bB bD r v w):v.oneCell'=true:=by
 by_cases d:r= .nil
 .subst d;have:v= .nilFunc:=h;subst this;rfl
 .obtain⟨f,a,l,rfl⟩:=h.func d;rfl
def rB.one {R : Option (List (List fN×Ru))} (h:rB bm bB bD R v w):v.oneCell'=true:=by
 cases R with
 |none=>have:v= .map none:=h;subst this;rfl
 |some R=>obtain⟨b,L,rfl,_⟩:=h;rfl
def kE.one (h:kE bm bB bD sp v0 v1 v2 v3 v4 v5 v6 v7 v8 v9 w):∀v∈[v0,v1,v2,v3,v4,v5,v6,v7,v8,v9],v.oneCell'=true:=by
 intro v d;simp at d;rcases d with rfl|rfl|rfl|rfl|rfl|rfl|rfl|rfl|rfl|rfl
 .exact h.blank.one
 .exact h.jq.one
 .exact h.gm.one
 .exact h.gP.one
 .exact h.il.one
 .exact h.start.one
 .exact h.stop.one
 .exact h.jj.one
 .exact h.jG.one
 .exact h.gN.one
theorem kE.ZD (h:kE bm bB bD sp v0 v1 v2 v3 v4 v5 v6 v7 v8 v9 w) (d:Kept [s] w w') (j:w.heap[s]?=some (fV c 180)):kE bm bB bD sp v0 v1 v2 v3 v4 v5 v6 v7 v8 v9 w':=
 have f:wS bm w w':=⟨_,d,λk l _=>by
  grind[K9]⟩
 ⟨h.blank.fr f,h.jq.fr f,h.gm.fr f,h.gP.fr f,h.il.fr f,h.start.J7 d j f,h.stop.J7 d j f,h.jj.fr f,h.jG.fr f,h.gN.fr f⟩
def BA (bm bB bD:Nat) (d:List gh) (W:fO):Prop:=d.length=180/\∀m sp,wo[m]?=some sp->∃v0 v1 v2 v3 v4 v5 v6 v7 v8 v9,(d.drop (10*m)).take 10=[v0,v1,v2,v3,v4,v5,v6,v7,v8,v9]/\kE bm bB bD sp v0 v1 v2 v3 v4 v5 v6 v7 v8 v9 W
def BA.ZD {d : List gh} (h:BA bm bB bD d w) (j:Kept [s] w w') (l:w.heap[s]?=some (fV c 180)):BA bm bB bD d w':=by
 refine⟨h.1,λm sp k=>?_⟩;have⟨v0,v1,v2,v3,v4,v5,v6,v7,v8,v9,e,hr⟩:=h.2 m sp k;exact⟨v0,v1,v2,v3,v4,v5,v6,v7,v8,v9,e,hr.ZD j l⟩
section
variable {P:Program} {ops:Array Oper} {rest:List Oper} {o:Oper} {a:Act} {w:fO} {Q:Exit->Act->fO->Prop}
def Ao (l:o.guard=none) (d:Option Tmp) (k:o.dst=d) (v:gh) (m:(execOp a.eval o).run P w= .ok (.value v) w) (h:wpList P ops Q rest (a.put d v) w):wpList P ops Q (o::rest) a w:=by
 subst k;refine wpList_plain l λK j=>?_;unfold Oper.wp;rw[m];exact j _ _ h
end
structure ad6 (bm bB bD:Nat) (d f a:Int) (av:gh) (w W:fO):Prop where
 k:Kept [] w W
 new:w.heap.size<=bB
 gR:∃c6 cs v1 v2 v3,W.heap[bB]?=some (fV (iY c6 4 cs) 180)/\c6=((((my Tryz.zeroCells180 d f a av bD).setIfInBounds 184 v1).setIfInBounds 185 v2).setIfInBounds 186 v3)/\BA bm bB bD cs W/\Ask bm v1 kU W/\Ask bm v2 uR W/\Ask bm v3 io W
 vc:W.heap[bD]?=some (fV #[fR js,iQ,.pointer none,iQ] 140)
 ne:bD≠bB
 agk:w.heap.size<=bD
def WO (d:fO) (bm:Nat) (c:jB) (j:fO) (h:j=((d.alloc (fV #[.map (some bm)] 92)).alloc (fV #[fR js,iQ,.pointer none,iQ] 140)).alloc (fV c 180)):
  j.heap[d.heap.size]?=some (fV #[.map (some bm)] 92)/\j.heap[d.heap.size+1]?=some (fV #[fR js,iQ,.pointer none,iQ] 140)/\j.heap[d.heap.size+1+1]?=some (fV c 180)/\Kept [] d j:=by
 have⟨h1,h2,h3⟩:=nX d (fV #[.map (some bm)] 92) (fV #[fR js,iQ,.pointer none,iQ] 140) (fV c 180);subst h;exact⟨h1,h2,h3,(((Kept.refl _ _).alloc _).alloc _).alloc _⟩
theorem Vt {d : fO} (h:fO) (j:h=((d.setCell ⟨bB,184,none⟩ v1).setCell ⟨bB,185,none⟩ v2).setCell ⟨bB,186,none⟩ v3) (l:d.heap[bB]?=some (fV c 180)):h.heap[bB]?=some (fV (((c.setIfInBounds 184 v1).setIfInBounds 185 v2).setIfInBounds 186 v3) 180)/\Kept [bB] d h/\wS bm d h:=by
 have m:=fI l 184 v1;have q:=fI m 185 v2;have A:=fI q 186 v3;have k:Kept [bB] d h:=by
  rw[j];exact(((Kept.refl [bB] d).setCell (p:=⟨bB,184,none⟩) (.inl (by simp)) v1).setCell (p:=⟨bB,185,none⟩) (.inl (by simp)) v2).setCell (p:=⟨bB,186,none⟩) (.inl (by simp)) v3
 refine⟨by grind,k,⟨_,k,λx z _=>?_⟩⟩;have e:=List.mem_singleton.1 z;subst e;exact .inl ⟨_,_,_,l,by decide⟩
def aeS (d f a:Int) (af:Fn) (aa al:jB) (w:fO) (ht:ya w):
  Calls prog 54 #[.agg #[fK d,fK f,fK a],.func af aa al] w λe W=>∃bm bB bD,e=gO (gV bB)/\ad6 bm bB bD d f a (.func af aa al) w W:=by
 obtain⟨w0,hU,K0,g0,z0⟩:=sO w (fV #[fK d,fK f,fK a] 71);have HT:=fx ht;have hK:=fx hU;have gl:=fx K0;have hd:=fx g0;have it:=fx z0;clear ht hU K0 g0 z0;go_enter func54,ntmps54;go_wp2_with fail;rw[<-hK.out];refine(BL _ (HT.out.fr (bm:=0) (.gv gl.out)).1).mono ?_;rintro e W1 ⟨bm,rfl,hT,G,hN⟩;have g1:=G.at hd.out (by simp);have c0:W1.cell? ⟨w.heap.size,0,none⟩=some (fK d):=(fw g1 0).trans rfl;have c1:W1.cell? ⟨w.heap.size,1,none⟩=some (fK f):=(fw g1 1).trans rfl;have c2:W1.cell? ⟨w.heap.size,2,none⟩=some (fK a):=(fw g1 2).trans rfl;have hS:=iB g1;have hl:=fx hT;have gs:=fx (gl.out.trans G);have i4:=fx hN;clear hT G hN g1;go_wp2_with fail;clear c0 c1 c2 hS;obtain⟨W2,gT⟩:∃W,W=((W1.alloc (fV #[.map (some bm)] 92)).alloc (fV #[fR js,iQ,.pointer none,iQ] 140)).alloc (fV (my Tryz.zeroCells180 d f a (.func af aa al) (W1.heap.size+1)) 180):=⟨_,rfl⟩;obtain⟨gC,gD,gB,k2⟩:=WO W1 bm _ W2 gT;change Code.wp _ _ _ _ (((W1.alloc (fV #[.map (some bm)] 92)).alloc (fV #[fR js,iQ,.pointer none,iQ] 140)).alloc (fV (my Tryz.zeroCells180 d f a (.func af aa al) (W1.heap.size+1)) 180));rw[<-gT];clear gT;obtain⟨bB,hO⟩:∃b,b=W1.heap.size+1+1:=⟨_,rfl⟩;obtain⟨bD,hQ⟩:∃b,b=W1.heap.size+1:=⟨_,rfl⟩;obtain⟨bC,hP⟩:∃b,b=W1.heap.size:=⟨_,rfl⟩;rw[<-hO]at gB|-;rw[<-hQ]at gB gD|-;rw[<-hP]at gC|-;have H:bC≠bB:=by omega
 have gj:=fx (show bD≠bB by omega);have gt:=fx (show w.heap.size<=bB/\w.heap.size<=bD by have:=gs.out.size;omega);have bP:=fx gC;have hg:=fx gD;have hf:=fx gB;have gA:=fx (hl.out.kept k2 (by simp));have hh:=fx (gs.out.trans k2);have h8:=fx (show bm < W2.heap.size by
  obtain⟨es,ck,ha,_⟩:=gA.out;exact(Array.getElem?_eq_some_iff.1 ha).1)
 clear gC gD gB k2 hO hQ hP hl;have CA:Hid (∀(c:Nat) (W:fO),c < 16->Kept [] W2 W->Calls prog 41 #[.agg #[.map (some bm)],fK c] W λe w'=>(∃v,e=gO v/\Ask bm v (VI sy c) w')/\Kept [] W w'):=fx (λc W hc k=>TV bm c sy W (gA.out.kept k (by simp)) hc UL);have k5:W2.cell? ⟨bC,0,none⟩=some (.map (some bm)):=(fw bP.out 0).trans rfl
 go_region_held3 (λw'=>w'.cell? ⟨bC,0,none⟩=some (.map (some bm))) ((first|assumption|go_keep|exact(kL H).trans (by assumption)|exact(kL H).trans ((kL H).trans (by assumption))|exact(kL H).trans ((kL H).trans ((kL H).trans (by assumption))))) ((first|(go_at_call 41;refine(CA.out 2 _ (by decide) (Kept.refl _ _).drew).mono ?_;rintro e W3 ⟨⟨v1,rfl,h0⟩,G⟩;obtain⟨hW,hV,hX,ka⟩:=h0.func;subst ka;have h5:=fx h0;have bJ:Hid (Kept [] W2 W3):=fx (Kept.trans (Kept.refl _ _).drew G);have k7:W3.cell? ⟨bC,0,none⟩=some (.map (some bm)):=(fw (bJ.out.at bP.out (by simp)) 0).trans rfl;have hb:=fx (wS.gv (bm:=bm) G);clear h0 G)|(go_at_call 41;refine(CA.out 4 _ (by decide) bJ.out).mono ?_;rintro e W4 ⟨⟨v2,rfl,h1⟩,h3⟩;obtain⟨ki,kd,kn,kb⟩:=h1.func;subst kb;have h6:=fx h1;have bK:Hid (Kept [] W2 W4):=fx (Kept.trans bJ.out h3);have k8:W4.cell? ⟨bC,0,none⟩=some (.map (some bm)):=(fw (bK.out.at bP.out (by simp)) 0).trans rfl;have fo:=fx (wS.gv (bm:=bm) h3);clear h1 h3)|(go_at_call 41;refine(CA.out 8 _ (by decide) bK.out).mono ?_;rintro e W5 ⟨⟨v3,rfl,h2⟩,h4⟩;obtain⟨kk,kf,kp,kc⟩:=h2.func;subst kc;have h7:=fx h2;have B:Hid (Kept [] W2 W5):=fx (Kept.trans bK.out h4);have k9:W5.cell? ⟨bC,0,none⟩=some (.map (some bm)):=(fw (B.out.at bP.out (by simp)) 0).trans rfl;have bO:=fx (wS.gv (bm:=bm) h4);clear h2 h4;have F:=fx (B.out.at hf.out (by simp));have hY:W5.cell? ⟨bB,184,none⟩=some .nilFunc:=(fw F.out 184).trans ((xA _ d f a _ bD 184 (by decide) (by decide)).trans (by kernel_rfl));have i1:=fA F.out 184;have hZ:W5.cell? ⟨bB,185,none⟩=some .nilFunc:=(fw F.out 185).trans ((xA _ d f a _ bD 185 (by decide) (by decide)).trans (by kernel_rfl));have i2:=fA F.out 185;have i0:W5.cell? ⟨bB,186,none⟩=some .nilFunc:=(fw F.out 186).trans ((xA _ d f a _ bD 186 (by decide) (by decide)).trans (by kernel_rfl));have i3:=fA F.out 186)))
 obtain⟨W6,gY⟩:∃W,W=((W5.setCell ⟨bB,184,none⟩ (.func hW hV hX)).setCell ⟨bB,185,none⟩ (.func ki kd kn)).setCell ⟨bB,186,none⟩ (.func kk kf kp):=⟨_,rfl⟩;rw[<-gY];obtain⟨g6,k6,f6⟩:=Vt (bm:=bm) W6 gY F.out;have K6:Kept [] w W6:=(hh.out.trans B.out).next k6 (λx hx=> .inr (by rw[List.mem_singleton.1 hx];exact gt.out.1))
 have A1:=h5.out.fr (fo.out.trans (bO.out.trans f6));have A2:=h6.out.fr (bO.out.trans f6);have A3:=h7.out.fr f6;have hR:W6.heap[bD]?=some (fV #[fR js,iQ,.pointer none,iQ] 140):=k6.at (B.out.at hg.out (by simp)) (by have:=gj.out;simpa using this);have g7:bm < W6.heap.size:=lz (lz h8.out B.out.size) k6.size;have l:Hid (∀W,Kept [] W6 W->BD bB bD W/\BS bm bB W/\ya W/\bm < W.heap.size):=by
  have b0:BD bB bD W6:=⟨(fw g6 187).trans (by
   simp only[my,zR,Qf,rV];rfl),iB g6⟩
  have b1:BS bm bB W6:=⟨iB g6,.func hW hV hX,(fw g6 184).trans (by
   simp only[my,zR,Qf,rV];rfl),A1⟩
  exact fx (λW k=>⟨b0.gJ k,b1.gJ k,HT.out.fr (.gv (bm:=bm) (K6.trans k)),lz g7 k.size⟩)
 have fe:=fx (And.intro A1 (And.intro A2 A3));have he:=fx g6;have hi:=fx K6;have h9:=fx hR;have fn:=fx gt.out;have gk:=fx gj.out;have fi:Hid (Kept [] W6 W6):=fx (Kept.refl _ _);clear gY g6 k6 f6 K6 A1 A2 A3 hR g7 k5 k7 k8 k9 hY hZ i0 i1 i2 i3 F bJ bK B hb fo bO h5 h6 h7 bP hg hf gA hh h8 i4 gs hK gl hd it HT CA H gj gt;go_wp2_with fail;refine(Xp bm bB bD _ (l.out _ fi.out).1 (l.out _ fi.out).2.2.1 (l.out _ fi.out).2.2.2).mono ?_;rintro e W7 ⟨bT,bU,bW,bX,bY,bZ,c3,c4,c5,c6,rfl,z,k⟩;have hy:=fx z;have fl:=fx (fi.out.trans k);have kr:=fx k;clear z k;go_wp2_with fail;refine(Oz bm bB bD _ (l.out _ fl.out).1 (l.out _ fl.out).2.2.1 (l.out _ fl.out).2.2.2).mono ?_;rintro e W8 ⟨c7,c8,c9,ca,cb,cc,ch,cl,cm,cp,rfl,z,k⟩;have hz:=fx z;have fm:=fx (fl.out.trans k);have i5:=fx k;clear z k;go_wp2_with fail;refine(NK bm bB bD _ (l.out _ fm.out).1 (l.out _ fm.out).2.2.1 (l.out _ fm.out).2.2.2).mono ?_;rintro e W9 ⟨ct,cv,cy,cz,cA,cB,cG,cK,cL,cN,rfl,z,k⟩;have hA:=fx z;have bo:=fx (fm.out.trans k);have i6:=fx k;clear z k;go_wp2_with fail;refine(ZZ bm bB bD _ (l.out _ bo.out).1 (l.out _ bo.out).2.2.1 (l.out _ bo.out).2.2.2).mono ?_;rintro e iu ⟨cT,d0,d1,d2,d3,d4,d5,d6,d7,d8,rfl,z,k⟩;have hB:=fx z;have bp:=fx (bo.out.trans k);have i7:=fx k;clear z k;go_wp2_with fail;refine(Ph bm bB bD _ (l.out _ bp.out).1 (l.out _ bp.out).2.2.1 (l.out _ bp.out).2.2.2).mono ?_;rintro e iv ⟨d9,dc,dg,ds,dt,e0,e3,e4,e5,e6,rfl,z,k⟩;have hC:=fx z;have bq:=fx (bp.out.trans k);have i8:=fx k;clear z k;go_wp2_with fail;refine(Zr bm bB bD _ (l.out _ bq.out).1 (l.out _ bq.out).2.2.1 (l.out _ bq.out).2.2.2).mono ?_;rintro e ix ⟨e7,e8,e9,ea,eb,ec,ed,ee,ef,eg,rfl,z,k⟩;have hD:=fx z;have br:=fx (bq.out.trans k);have i9:=fx k;clear z k;go_wp2_with fail;refine(XS bm bB bD _ (l.out _ br.out).2.1 (l.out _ br.out).2.2.1 (l.out _ br.out).2.2.2).mono ?_;rintro e iz ⟨ei,ej,ek,el,em,en,eo,ep,eq,er,rfl,z,k⟩;have hE:=fx z;have bt:=fx (br.out.trans k);have ia:=fx k;clear z k;go_wp2_with fail;refine(WF bm bB bD _ (l.out _ bt.out).1 (l.out _ bt.out).2.2.1 (l.out _ bt.out).2.2.2).mono ?_;rintro e j0 ⟨et,ev,ex,ey,ez,eD,eO,eP,eQ,eR,rfl,z,k⟩;have hF:=fx z;have bu:=fx (bt.out.trans k);have ih:=fx k;clear z k;go_wp2_with fail;refine(KF bm bB bD _ (l.out _ bu.out).1 (l.out _ bu.out).2.2.1 (l.out _ bu.out).2.2.2).mono ?_;rintro e j1 ⟨eS,eT,eU,eV,eW,eX,eY,eZ,f0,f1,rfl,z,k⟩;have hG:=fx z;have bv:=fx (bu.out.trans k);have ii:=fx k;clear z k;go_wp2_with fail;refine(PX bm bB bD _ (l.out _ bv.out).1 (l.out _ bv.out).2.2.1 (l.out _ bv.out).2.2.2).mono ?_;rintro e j2 ⟨f2,f3,f4,f5,f7,f8,f9,fa,fb,fd,rfl,z,k⟩;have hI:=fx z;have bw:=fx (bv.out.trans k);have ip:=fx k;clear z k;go_wp2_with fail;refine(GO bm bB bD _ (l.out _ bw.out).1 (l.out _ bw.out).2.2.1 (l.out _ bw.out).2.2.2).mono ?_;rintro e j3 ⟨I,J,K,N,O,S,U,V,Y,Z,rfl,z,k⟩;have fs:=fx z;have bx:=fx (bw.out.trans k);have hn:=fx k;clear z k;go_wp2_with fail;refine(KE bm bB bD _ (l.out _ bx.out).1 (l.out _ bx.out).2.2.1 (l.out _ bx.out).2.2.2).mono ?_;rintro e j4 ⟨a0,a1,a2,a3,a4,a5,a6,a7,a8,a9,rfl,z,k⟩;have fv:=fx z;have bz:=fx (bx.out.trans k);have ho:=fx k;clear z k;go_wp2_with fail;refine(aa0 bm bB bD _ (l.out _ bz.out).1 (l.out _ bz.out).2.2.1 (l.out _ bz.out).2.2.2).mono ?_;rintro e j6 ⟨ab,ac,ad,ae,ag,ah,ai,aj,ak,am,rfl,z,k⟩;have fz:=fx z;have bA:=fx (bz.out.trans k);have hp:=fx k;clear z k;go_wp2_with fail;refine(Y5 bm bB bD _ (l.out _ bA.out).1 (l.out _ bA.out).2.2.1 (l.out _ bA.out).2.2.2).mono ?_;rintro e k0 ⟨an,ao,ap,aq,ar,au,av,aw,ax,ay,rfl,z,k⟩;have fT:=fx z;have bE:=fx (bA.out.trans k);have hq:=fx k;clear z k;go_wp2_with fail;refine(Th bm bB bD _ (l.out _ bE.out).1 (l.out _ bE.out).2.2.1 (l.out _ bE.out).2.2.2).mono ?_;rintro e k1 ⟨az,aA,aB,aC,aD,aE,aF,aG,aH,aI,rfl,z,k⟩;have g2:=fx z;have bF:=fx (bE.out.trans k);have hs:=fx k;clear z k;go_wp2_with fail;refine(Dy bm bB bD _ (l.out _ bF.out).1 (l.out _ bF.out).2.2.1 (l.out _ bF.out).2.2.2).mono ?_;rintro e k3 ⟨aJ,aK,aL,aM,aN,aO,aP,aQ,aR,aS,rfl,z,k⟩;have g3:=fx z;have bG:=fx (bF.out.trans k);have hu:=fx k;clear z k;go_wp2_with fail;refine(Q7 bm bB bD _ (l.out _ bG.out).1 (l.out _ bG.out).2.2.1 (l.out _ bG.out).2.2.2).mono ?_;rintro e k4 ⟨aT,aU,aV,aW,aX,aY,aZ,ba,bb,bc,rfl,z,k⟩;have g4:=fx z;have bH:=fx (bG.out.trans k);have hv:=fx k;clear z k;go_wp2_with fail;refine(Fm bm bB bD _ (l.out _ bH.out).1 (l.out _ bH.out).2.2.1 (l.out _ bH.out).2.2.2).mono ?_;rintro e q ⟨bd,be,bf,bg,bh,bi,bj,bk,bl,bn,rfl,z,k⟩;have g5:=fx z;have bI:=fx (bH.out.trans k);have hw:=fx k;clear z k;have gg:Kept [] q q:=Kept.refl _ _;have gf:Kept [] k4 q:=hw.out.trans gg;have ge:Kept [] k3 q:=hv.out.trans gf;have gd:Kept [] k1 q:=hu.out.trans ge;have gc:Kept [] k0 q:=hs.out.trans gd;have gb:Kept [] j6 q:=hq.out.trans gc;have g9:Kept [] j4 q:=hp.out.trans gb;have g8:Kept [] j3 q:=ho.out.trans g9;have E9:Kept [] j2 q:=hn.out.trans g8;have E8:Kept [] j1 q:=ip.out.trans E9;have E7:Kept [] j0 q:=ii.out.trans E8;have E6:Kept [] iz q:=ih.out.trans E7;have E5:Kept [] ix q:=ia.out.trans E6;have E4:Kept [] iv q:=i9.out.trans E5;have E3:Kept [] iu q:=i8.out.trans E4;have E2:Kept [] W9 q:=i7.out.trans E3;have E1:Kept [] W8 q:=i6.out.trans E2;have E0:Kept [] W7 q:=i5.out.trans E1;obtain⟨cs,bN⟩:∃c:List gh,c=[bT,bU,bW,bX,bY,bZ,c3,c4,c5,c6,c7,c8,c9,ca,cb,cc,ch,cl,cm,cp,ct,cv,cy,cz,cA,cB,cG,cK,cL,cN,cT,d0,d1,d2,d3,d4,d5,d6,d7,d8,d9,dc,dg,ds,dt,e0,e3,e4,e5,e6,e7,e8,e9,ea,eb,ec,ed,ee,ef,eg,ei,ej,ek,el,em,en,eo,ep,eq,er,et,ev,ex,ey,ez,eD,eO,eP,eQ,eR,eS,eT,eU,eV,eW,eX,eY,eZ,f0,f1,f2,f3,f4,f5,f7,f8,f9,fa,fb,fd,I,J,K,N,O,S,U,V,Y,Z,a0,a1,a2,a3,a4,a5,a6,a7,a8,a9,ab,ac,ad,ae,ag,ah,ai,aj,ak,am,an,ao,ap,aq,ar,au,av,aw,ax,ay,az,aA,aB,aC,aD,aE,aF,aG,aH,aI,aJ,aK,aL,aM,aN,aO,aP,aQ,aR,aS,aT,aU,aV,aW,aX,aY,aZ,ba,bb,bc,bd,be,bf,bg,bh,bi,bj,bk,bl,bn]:=⟨_,rfl⟩;have HC:=fx bN;have gK:Hid (BA bm bB bD cs q):=by
  refine fx ⟨by rw[bN];rfl,?_⟩;rw[bN];intro m sp D;have hS:m < 18:=(List.getElem?_eq_some_iff.1 D).1;obtain rfl|rfl|rfl|rfl|rfl|rfl|rfl|rfl|rfl|rfl|rfl|rfl|rfl|rfl|rfl|rfl|rfl|rfl:m=0\/m=1\/m=2\/m=3\/m=4\/m=5\/m=6\/m=7\/m=8\/m=9\/m=10\/m=11\/m=12\/m=13\/m=14\/m=15\/m=16\/m=17:=by omega
  .have e:=jr D;subst e;exact⟨_,_,_,_,_,_,_,_,_,_,rfl,hy.out.gJ E0⟩
  .have e:=jr D;subst e;exact⟨_,_,_,_,_,_,_,_,_,_,rfl,hz.out.gJ E1⟩
  .have e:=jr D;subst e;exact⟨_,_,_,_,_,_,_,_,_,_,rfl,hA.out.gJ E2⟩
  .have e:=jr D;subst e;exact⟨_,_,_,_,_,_,_,_,_,_,rfl,hB.out.gJ E3⟩
  .have e:=jr D;subst e;exact⟨_,_,_,_,_,_,_,_,_,_,rfl,hC.out.gJ E4⟩
  .have e:=jr D;subst e;exact⟨_,_,_,_,_,_,_,_,_,_,rfl,hD.out.gJ E5⟩
  .have e:=jr D;subst e;exact⟨_,_,_,_,_,_,_,_,_,_,rfl,hE.out.gJ E6⟩
  .have e:=jr D;subst e;exact⟨_,_,_,_,_,_,_,_,_,_,rfl,hF.out.gJ E7⟩
  .have e:=jr D;subst e;exact⟨_,_,_,_,_,_,_,_,_,_,rfl,hG.out.gJ E8⟩
  .have e:=jr D;subst e;exact⟨_,_,_,_,_,_,_,_,_,_,rfl,hI.out.gJ E9⟩
  .have e:=jr D;subst e;exact⟨_,_,_,_,_,_,_,_,_,_,rfl,fs.out.gJ g8⟩
  .have e:=jr D;subst e;exact⟨_,_,_,_,_,_,_,_,_,_,rfl,fv.out.gJ g9⟩
  .have e:=jr D;subst e;exact⟨_,_,_,_,_,_,_,_,_,_,rfl,fz.out.gJ gb⟩
  .have e:=jr D;subst e;exact⟨_,_,_,_,_,_,_,_,_,_,rfl,fT.out.gJ gc⟩
  .have e:=jr D;subst e;exact⟨_,_,_,_,_,_,_,_,_,_,rfl,g2.out.gJ gd⟩
  .have e:=jr D;subst e;exact⟨_,_,_,_,_,_,_,_,_,_,rfl,g3.out.gJ ge⟩
  .have e:=jr D;subst e;exact⟨_,_,_,_,_,_,_,_,_,_,rfl,g4.out.gJ gf⟩
  .have e:=jr D;subst e;exact⟨_,_,_,_,_,_,_,_,_,_,rfl,g5.out.gJ gg⟩
 have fr:Hid (cs.toArray.all (·.oneCell')=true):=by
  refine fx (all_oneCell_toArray ?_);rw[bN,show[bT,bU,bW,bX,bY,bZ,c3,c4,c5,c6,c7,c8,c9,ca,cb,cc,ch,cl,cm,cp,ct,cv,cy,cz,cA,cB,cG,cK,cL,cN,cT,d0,d1,d2,d3,d4,d5,d6,d7,d8,d9,dc,dg,ds,dt,e0,e3,e4,e5,e6,e7,e8,e9,ea,eb,ec,ed,ee,ef,eg,ei,ej,ek,el,em,en,eo,ep,eq,er,et,ev,ex,ey,ez,eD,eO,eP,eQ,eR,eS,eT,eU,eV,eW,eX,eY,eZ,f0,f1,f2,f3,f4,f5,f7,f8,f9,fa,fb,fd,I,J,K,N,O,S,U,V,Y,Z,a0,a1,a2,a3,a4,a5,a6,a7,a8,a9,ab,ac,ad,ae,ag,ah,ai,aj,ak,am,an,ao,ap,aq,ar,au,av,aw,ax,ay,az,aA,aB,aC,aD,aE,aF,aG,aH,aI,aJ,aK,aL,aM,aN,aO,aP,aQ,aR,aS,aT,aU,aV,aW,aX,aY,aZ,ba,bb,bc,bd,be,bf,bg,bh,bi,bj,bk,bl,bn]=[bT,bU,bW,bX,bY,bZ,c3,c4,c5,c6]++([c7,c8,c9,ca,cb,cc,ch,cl,cm,cp]++([ct,cv,cy,cz,cA,cB,cG,cK,cL,cN]++([cT,d0,d1,d2,d3,d4,d5,d6,d7,d8]++([d9,dc,dg,ds,dt,e0,e3,e4,e5,e6]++([e7,e8,e9,ea,eb,ec,ed,ee,ef,eg]++([ei,ej,ek,el,em,en,eo,ep,eq,er]++([et,ev,ex,ey,ez,eD,eO,eP,eQ,eR]++([eS,eT,eU,eV,eW,eX,eY,eZ,f0,f1]++([f2,f3,f4,f5,f7,f8,f9,fa,fb,fd]++([I,J,K,N,O,S,U,V,Y,Z]++([a0,a1,a2,a3,a4,a5,a6,a7,a8,a9]++([ab,ac,ad,ae,ag,ah,ai,aj,ak,am]++([an,ao,ap,aq,ar,au,av,aw,ax,ay]++([az,aA,aB,aC,aD,aE,aF,aG,aH,aI]++([aJ,aK,aL,aM,aN,aO,aP,aQ,aR,aS]++([aT,aU,aV,aW,aX,aY,aZ,ba,bb,bc]++([bd,be,bf,bg,bh,bi,bj,bk,bl,bn])))))))))))))))))from rfl];simp only[List.mem_append];rintro v (h|h|h|h|h|h|h|h|h|h|h|h|h|h|h|h|h|h)
  .exact hy.out.one v h
  .exact hz.out.one v h
  .exact hA.out.one v h
  .exact hB.out.one v h
  .exact hC.out.one v h
  .exact hD.out.one v h
  .exact hE.out.one v h
  .exact hF.out.one v h
  .exact hG.out.one v h
  .exact hI.out.one v h
  .exact fs.out.one v h
  .exact fv.out.one v h
  .exact fz.out.one v h
  .exact fT.out.one v h
  .exact g2.out.one v h
  .exact g3.out.one v h
  .exact g4.out.one v h
  .exact g5.out.one v h
 have A:=fx (bI.out.at he.out (by simp));have hJ:Hid (q.there bB 4 cs.toArray.size):=by
  refine fx (λj hj=>⟨?_,fA A.out _⟩);have:cs.toArray.size=180:=by rw[bN];rfl
  rw[fw A.out,xD (by simp only[Qf,BX,rV];omega)];rfl
 clear E0 E1 E2 E3 E4 E5 E6 E7 E8 E9 g8 g9 gb gc gd ge gf gg;rename_i KK bQ;refine bQ _ _ ?_;clear bQ;refine wpList_buildTo rfl 173 _ rfl _ rfl cs.toArray (by rw[HC.out];kernel_rfl) ?_;clear HC bN;refine Ao rfl _ rfl (gV bB) (by kernel_rfl) ?_;refine Ao rfl _ rfl (jp bB 4) (by kernel_rfl) ?_;refine wpList_store_mid rfl 173 _ _ rfl bB 4 cs.toArray rfl rfl hJ.out (by rw[show cs.toArray.size=180 from gK.out.1];kernel_rfl) fr.out ?_;obtain⟨bM,bL⟩:∃W,W=q.setCells bB 4 cs.toArray.toList:=⟨_,rfl⟩;rw[<-bL];have bS:Kept [bB] q bM:=by rw[bL];exact Kept.setCells (.inl (by simp)) _ _ (Kept.refl _ _)
 have hM:wS bm q bM:=⟨_,bS,λx hx _=>by
  have e:=List.mem_singleton.1 hx;subst e;exact .inl ⟨_,_,_,A.out,by decide⟩⟩
 have hL:Kept [] w bM:=(hi.out.trans bI.out).next bS (λx hx=> .inr (by rw[List.mem_singleton.1 hx];exact fn.out.1))
 have bR:=jW cs q bB _ _ _ 4 A.out;rw[show q.setCells bB 4 cs=bM from bL.symm]at bR;have FN:Hid (ad6 bm bB bD d f a (.func af aa al) w bM):=by
  have f6:wS bm W6 bM:=(wS.gv bI.out).trans hM;exact fx ⟨hL,fn.out.1,⟨_,cs,_,_,_,bR,rfl,gK.out.ZD bS A.out,fe.out.1.fr f6,fe.out.2.1.fr f6,fe.out.2.2.fr f6⟩,bS.at (bI.out.at h9.out (by simp)) (by have:=gk.out;simpa using this),gk.out,fn.out.2⟩
 clear bS hM hL bR bL gK fr A hJ fe he hi h9 fn gk l;generalize Value.agg cs.toArray=kt;rename_i KK bQ;refine bQ _ _ ?_;clear bQ;simp only[Act.put,p9,pX,pZ];go_wp2;go_ret;exact⟨bm,bB,bD,rfl,FN.out⟩
structure Loc where
 gp:Nat->Nat
 av:Nat->gh
 kv:Nat->gh
 ov:gh
 cv:gh
 wv:gh
variable {L : Loc}
structure Env where
 bm:Nat
 bB:Nat
 bR:Nat
 C0:jB
 R0:jB
 Gv:Nat
 w0:fO
 tv:gh
 ta:kZ
 bs:Nat
 wv:Option (gh×List (Nat×Nat×fN)):=none
variable {E : Env}
def Nd.map (f:Nat->Nat):Nd->Nd
 | .el k=> .el (f k)
 | .tx k=> .tx (f k)
 | .cm k=> .cm (f k)
 | .dt k=> .dt (f k)
abbrev gX (f:Nat->Nat) (x:iM):iM:=x.map f
def flat (fX:kZ):List gh:=fX.flatMap λa=>[fR a.1,fR a.2]
abbrev zD (w:fO) (v:gh) (fX:kZ):Prop:=w.ownsRow 0 299 2 v fX.length (flat fX)
abbrev OJ (x:Nat×Nat×fN):gh:= .iface 188 (.agg #[fK x.1,fK x.2.1,fR x.2.2])
def kM (bs:Nat) (L:Loc) (w:fO) (i:Nat):Cd->Prop
 | .el e=>El bs w (L.gp i) e.name (L.av i) (gX L.gp e.iJ) (L.kv i) (e.kids.map (Nd.map L.gp))/\zD w (L.av i) e.gy/\e.gy.length<=4096
 | .tx s=>w.heap[L.gp i]?=some (fV #[fR s] 284)
 | .cm s=>w.heap[L.gp i]?=some (fV #[fR s] 239)
 | .dt s=>w.heap[L.gp i]?=some (fV #[fR s] 243)
structure jg (E:Env) (L:Loc) (σ:Ab) (C:jB):Prop where
 size:C.size=199
 low:∀i,i < 188->C[i]?=E.C0[i]?
 fQ:C[188]?=some L.ov
 act:C[189]?=some L.cv
 head:C[190]?=some (kK (gX L.gp σ.head))
 form:C[191]?=some (kK (gX L.gp σ.form))
 mode:C[192]?=some (fK σ.mode)
 kept:C[193]?=some (fK σ.kept)
 wait:C[194]?=some L.wv
 xU:C[195]?=some (.bool σ.iq)
 iP:C[196]?=some (.bool σ.iP)
 gp:C[197]?=some (fK σ.gp)
 behind:C[198]?=some (.bool σ.behind)
structure QV (E:Env) (bD:Nat):Prop where
 Gp:∃cs,(∀k,k < 180->E.C0[4+k]?=cs[k]?)/\BA E.bm E.bB bD cs E.w0
 fq:E.C0[3]?=some (.func (.func 55) #[fW E.bR] #[])
 spec:∃v,E.C0[184]?=some v/\Ask E.bm v kU E.w0
 Wx:∃v,E.C0[185]?=some v/\Ask E.bm v uR E.w0
 VV:∃v,E.C0[186]?=some v/\Ask E.bm v io E.w0
 vc:E.C0[187]?=some (fW bD)
structure Rel (E:Env) (L:Loc) (σ:Ab) (w:fO):Prop where
 fr:Fr E.bs E.w0 w
 env:QV E (L.gp 0)
 rY:E.C0[0]?=some (fK σ.pS)/\E.C0[1]?=some (fK σ.rq)/\E.C0[2]?=some (fK σ.oY)/\σ.pS<=64/\σ.rq<=32/\σ.oY<=16
 rP:∀i nd,σ.nodes[i]?=some nd->kM E.bs L w i nd
 inj:∀i j,L.gp i=L.gp j->i=j
 xv:∀i j g,i < σ.nodes.length->j < σ.nodes.length->i≠j->(L.kv i).ownBlock=some g->(L.kv j).ownBlock≠some g
 Ak:∀i,i < σ.nodes.length->σ.gF i=none->(L.kv i).ownBlock=none
 uq:∀i j e g,σ.gF i=some e->ng e.name=true->j < σ.nodes.length->i≠j->(L.av i).ownBlock=some g->(L.av j).ownBlock≠some g
 Ad:∀i,i < σ.nodes.length->σ.gF i=none->(L.av i).ownBlock=none
 wf:Wf σ
 gR:∃C,w.heap[E.bB]?=some (fV C 180)/\jg E L σ C
 nM:w.ownsRow E.bs 72 1 L.ov σ.fQ.length (σ.fQ.map λx=>kK (gX L.gp x))
 oE:w.ownsRow E.bs 72 1 L.cv σ.act.length (σ.act.map λx=>kK (gX L.gp x))
 Cg:∀g,L.ov.ownBlock=some g->L.cv.ownBlock≠some g
 ve:σ.fQ.length<=4096
 Bx:σ.act.length<=4096
 nN:w.ownsRow E.bs 125 1 L.wv σ.waiting.length (σ.waiting.map OJ)
 BK:σ.waiting.length<=4096
 rd:w.heap[E.bR]?=some (fV ((E.R0.setIfInBounds E.Gv (fR σ.mV)).setIfInBounds (E.Gv+1) (.bool σ.iA)) 165)
 BH:E.Gv+1 < E.R0.size
 tok:zD w E.tv E.ta
 Av:E.ta.length<=4096
 bz:E.bs<=E.w0.heap.size
 bB:E.bs<=E.bB
 bR:E.bs<=E.bR
 bN:∀i,i < σ.nodes.length->E.bs<=L.gp i
 yJ:σ.fresh=true->∀i g,i < σ.nodes.length->E.tv.ownBlock=some g->(L.av i).ownBlock≠some g
 ab:∀i g,i < σ.nodes.length->(L.av i).ownBlock=some g->E.bs<=g
 tb:∀g,E.tv.ownBlock=some g->E.bs<=g
 Ch:∀p,E.wv=some p->L.wv=p.1/\σ.waiting=p.2
def KT (bs:Nat) (T:List TypeId) (w w':fO):Prop:=∃S,Kept S w w'/\∀k∈S,k < w.heap.size->(∃c t m,w.heap[k]?=some (.cells c t m)/\t∈T)/\bs<=k
def KT.size (h:KT bs T w w'):w.heap.size<=w'.heap.size:=by have⟨S,hk,_⟩:=h;exact hk.size
def KT.jl {S : List Nat} (h:Kept S w w') (d:∀k∈S,k < w.heap.size->(∃c t m,w.heap[k]?=some (.cells c t m)/\t∈T)/\bs<=k):KT bs T w w':=⟨S,h,d⟩
def KT.gv (h:Kept [] w w'):KT bs T w w':=⟨[],h,λ_ d=>by cases d⟩
theorem KT.mono {d : List TypeId} (h:KT bs T w w') (j:∀t∈T,t∈d):KT bs d w w':=by
 grind[KT]
def KT.fr (h:KT bs T w w') (d:∀t∈T,t∈WL):Fr bs w w':=h.mono d
theorem KT.at (h:KT bs T w w') {m : Nat×Nat} (d:w.heap[g]?=some (.cells c t m)) (k:t∉T):w'.heap[g]?=some (.cells c t m):=by
 have⟨S,hk,hS⟩:=h;refine hk.at d λj=>?_
 grind
theorem KT.row (h:KT bs T w w') {d : Nat} (l:w.ownsRow base e d v n xs) (A:e∉T):w'.ownsRow base e d v n xs:=by
 refine⟨l.1,?_⟩;rcases l.2 with B|⟨g,j,k,rfl,m,q,z⟩
 .grind
 .exact .inr ⟨g,j,k,rfl,m,h.at q A,z⟩
theorem pW {d : Nat} (l:w.ownsRow base e d v n xs) (h:v.ownBlock=some g):∃c m,w.heap[g]?=some (.cells c e m):=by
 rcases l.2 with⟨e1,_⟩|⟨q,j,k,rfl,_,z,_⟩
 .rw[e1]at h;cases h
 .obtain rfl:=jr h
  grind
theorem zn {d : Nat} (k:w.ownsRow base e d v n xs) {m : Nat×Nat} (l:w.heap[b]?=some (.cells c t m)) (q:t≠e):v.ownBlock≠some b:=by
 intro j;have⟨c',m',h⟩:=pW k j
 grind
def zr {d : Nat} (j:w.ownsRow base e d v n xs) (h:v.ownBlock=some g):g < w.heap.size:=(j.lt g h).2
def Ux:List TypeId:=[140,142,284,239,243,299]
def kM.kt {k : Nat} {nd:Cd} (h:kM k L w i nd) (j:KT bs T w w') (d:∀t∈Ux,t∉T):kM k L w' i nd:=by
 cases nd with
 |el e=>exact⟨⟨j.at h.1.gR (d _ (by decide)),j.row h.1.row (d _ (by decide)),h.1.le,h.1.UG⟩,j.row h.2.1 (d _ (by decide)),h.2.2⟩
 |tx s=>exact j.at h (d _ (by decide))
 |cm s=>exact j.at h (d _ (by decide))
 |dt s=>exact j.at h (d _ (by decide))
def kM.kept {S : List Nat} {nd:Cd} (h:kM bs L w i nd) (d:Kept S w w') (j:L.gp i∉S) (k:∀g,(L.kv i).ownBlock=some g->g∉S) (l:∀g,(L.av i).ownBlock=some g->g∉S):kM bs L w' i nd:=by
 cases nd with
 |el e=>exact⟨h.1.kept d j k,d.ownsRow h.2.1 l,h.2.2⟩
 |tx s=>exact d.at h j
 |cm s=>exact d.at h j
 |dt s=>exact d.at h j
def Cd.cx:Cd->TypeId
 | .el _=>140
 | .tx _=>284
 | .cm _=>239
 | .dt _=>243
def kM.cx {nd : Cd} (h:kM bs L w i nd):∃c,w.heap[L.gp i]?=some (fV c nd.cx):=by
 cases nd with
 |el e=>exact⟨_,h.1.gR⟩
 |tx s=>exact⟨_,h⟩
 |cm s=>exact⟨_,h⟩
 |dt s=>exact⟨_,h⟩
theorem rG (d:∀i j,f i=f j->i=j) (h:gX f x=gX f y):x=y:=by
 cases x<;>cases y<;>simp_all[gX]
 grind
theorem yl (f:Nat->Nat) (xs:j5) (n:Int):gU (xs.map (gX f)) n=gX f (gU xs n):=by
 grind[gU]
theorem Bs (d:∀i j,f i=f j->i=j) (x:iM):∀xs:j5,(xs.map (gX f)).idxOf (gX f x)=xs.idxOf x
 |[]=>rfl
 |y::xs=>by
  rw[zF,List.idxOf_cons,List.idxOf_cons,Bs d x xs]
  by_cases h:y=x
  .grind
  .have k:gX f y≠gX f x:=λe=>h (rG d e)
   grind
def MA (d:∀i j,f i=f j->i=j) (xs:j5) (x:iM):posOf (xs.map (gX f)) (gX f x)=posOf xs x:=by
 unfold posOf;rw[Bs d,BZ]
theorem mem_map (d:∀i j,f i=f j->i=j) (xs:j5) (x:iM):gX f x∈xs.map (gX f)↔x∈xs:=by
 constructor
 .intro h;have⟨y,hy,e⟩:=List.mem_map.1 h;rw[<-rG d e];exact hy
 grind
theorem vW (d:∀i j,f i=f j->i=j) (x:iM):∀xs:j5,(xs.map (gX f)).erase (gX f x)=(xs.erase x).map (gX f)
 |[]=>rfl
 |y::xs=>by
  rw[zF,List.erase_cons,List.erase_cons,vW d x xs]
  by_cases h:y=x
  .grind
  .have k:gX f y≠gX f x:=λe=>h (rG d e)
   grind
def JA (d:∀i j,f i=f j->i=j) (xs:j5) (x y:iM):pI (xs.map (gX f)) (gX f x) (gX f y)=(pI xs x y).map (gX f):=by
 unfold pI;rw[Bs d]
 by_cases h:x∈xs
 .rw[fU h,fU ((mem_map d xs x).2 h),List.map_set]
 .rw[gn h,gn (λe=>h ((mem_map d xs x).1 e))]
def BU (d:∀i j,f i=f j->i=j) (xs:j5) (x y:iM):iH (xs.map (gX f)) (gX f x) (gX f y)=(iH xs x y).map (gX f):=by
 unfold iH;rw[Bs d]
 by_cases h:x∈xs
 .rw[fU h,fU ((mem_map d xs x).2 h)];simp
 .rw[gn h,gn (λe=>h ((mem_map d xs x).1 e))]
theorem Me (k:∀i j,f i=f j->i=j) (xs:j5) (x:iM):od (xs.map (gX f)) (gX f x)=(od xs x).map (gX f):=by
 have h:∀d:j5,(d.map (gX f)).dropWhile (·≠gX f x)=(d.dropWhile (·≠x)).map (gX f):=by
  intro d
  induction d with
  |nil=>rfl
  |cons y d ih=>
   rw[zF,List.dropWhile_cons,List.dropWhile_cons]
   by_cases h:y=x
   .grind
   .have l:gX f y≠gX f x:=λe=>h (rG k e)
    grind
 unfold od;rw[<-T0,h];simp
def sN {j : Nat} {x : gh} (h:C[i]?=some x) (d:j≠i):(C.setIfInBounds j v)[i]?=some x:=(uM d).trans h
def jg.TQ (h:jg E L σ C) (v:gh) (j:j5):jg E {L with ov:=v} {σ with fQ:=j} (C.setIfInBounds 188 v):=by
 refine⟨by simp[h.size],λi d=>(uM (by omega)).trans (h.low i d),Bf (by rw[h.size];decide),sN h.act (by decide),sN h.head (by decide),sN h.form (by decide),sN h.mode (by decide),sN h.kept (by decide),sN h.wait (by decide),sN h.xU (by decide),sN h.iP (by decide),sN h.gp (by decide),sN h.behind (by decide)⟩
def jg.TU (h:jg E L σ C) (v:gh) (j:j5):jg E {L with cv:=v} {σ with act:=j} (C.setIfInBounds 189 v):=by
 refine⟨by simp[h.size],λi d=>(uM (by omega)).trans (h.low i d),sN h.fQ (by decide),Bf (by rw[h.size];decide),sN h.head (by decide),sN h.form (by decide),sN h.mode (by decide),sN h.kept (by decide),sN h.wait (by decide),sN h.xU (by decide),sN h.iP (by decide),sN h.gp (by decide),sN h.behind (by decide)⟩
def jg.yb (h:jg E L σ C) (x:iM):jg E L {σ with head:=x} (C.setIfInBounds 190 (kK (gX L.gp x))):=by
 refine⟨by simp[h.size],λi d=>(uM (by omega)).trans (h.low i d),sN h.fQ (by decide),sN h.act (by decide),Bf (by rw[h.size];decide),sN h.form (by decide),sN h.mode (by decide),sN h.kept (by decide),sN h.wait (by decide),sN h.xU (by decide),sN h.iP (by decide),sN h.gp (by decide),sN h.behind (by decide)⟩
def jg.uW (h:jg E L σ C) (x:iM):jg E L {σ with form:=x} (C.setIfInBounds 191 (kK (gX L.gp x))):=by
 refine⟨by simp[h.size],λi d=>(uM (by omega)).trans (h.low i d),sN h.fQ (by decide),sN h.act (by decide),sN h.head (by decide),Bf (by rw[h.size];decide),sN h.mode (by decide),sN h.kept (by decide),sN h.wait (by decide),sN h.xU (by decide),sN h.iP (by decide),sN h.gp (by decide),sN h.behind (by decide)⟩
def jg.iI (h:jg E L σ C) (x:Nat):jg E L {σ with mode:=x} (C.setIfInBounds 192 (fK x)):=by
 refine⟨by simp[h.size],λi d=>(uM (by omega)).trans (h.low i d),sN h.fQ (by decide),sN h.act (by decide),sN h.head (by decide),sN h.form (by decide),Bf (by rw[h.size];decide),sN h.kept (by decide),sN h.wait (by decide),sN h.xU (by decide),sN h.iP (by decide),sN h.gp (by decide),sN h.behind (by decide)⟩
def jg.yx (h:jg E L σ C) (x:Nat):jg E L {σ with kept:=x} (C.setIfInBounds 193 (fK x)):=by
 refine⟨by simp[h.size],λi d=>(uM (by omega)).trans (h.low i d),sN h.fQ (by decide),sN h.act (by decide),sN h.head (by decide),sN h.form (by decide),sN h.mode (by decide),Bf (by rw[h.size];decide),sN h.wait (by decide),sN h.xU (by decide),sN h.iP (by decide),sN h.gp (by decide),sN h.behind (by decide)⟩
def jg.Zx (h:jg E L σ C) (v:gh) (j:List (Nat×Nat×fN)):jg E {L with wv:=v} {σ with waiting:=j} (C.setIfInBounds 194 v):=by
 refine⟨by simp[h.size],λi d=>(uM (by omega)).trans (h.low i d),sN h.fQ (by decide),sN h.act (by decide),sN h.head (by decide),sN h.form (by decide),sN h.mode (by decide),sN h.kept (by decide),Bf (by rw[h.size];decide),sN h.xU (by decide),sN h.iP (by decide),sN h.gp (by decide),sN h.behind (by decide)⟩
def jg.yq (h:jg E L σ C) (x:Bool):jg E L {σ with iq:=x} (C.setIfInBounds 195 (.bool x)):=by
 refine⟨by simp[h.size],λi d=>(uM (by omega)).trans (h.low i d),sN h.fQ (by decide),sN h.act (by decide),sN h.head (by decide),sN h.form (by decide),sN h.mode (by decide),sN h.kept (by decide),sN h.wait (by decide),Bf (by rw[h.size];decide),sN h.iP (by decide),sN h.gp (by decide),sN h.behind (by decide)⟩
def jg.qs (h:jg E L σ C) (x:Bool):jg E L {σ with iP:=x} (C.setIfInBounds 196 (.bool x)):=by
 refine⟨by simp[h.size],λi d=>(uM (by omega)).trans (h.low i d),sN h.fQ (by decide),sN h.act (by decide),sN h.head (by decide),sN h.form (by decide),sN h.mode (by decide),sN h.kept (by decide),sN h.wait (by decide),sN h.xU (by decide),Bf (by rw[h.size];decide),sN h.gp (by decide),sN h.behind (by decide)⟩
def jg.CZ (h:jg E L σ C) (x:Nat):jg E L {σ with gp:=x} (C.setIfInBounds 197 (fK x)):=by
 refine⟨by simp[h.size],λi d=>(uM (by omega)).trans (h.low i d),sN h.fQ (by decide),sN h.act (by decide),sN h.head (by decide),sN h.form (by decide),sN h.mode (by decide),sN h.kept (by decide),sN h.wait (by decide),sN h.xU (by decide),sN h.iP (by decide),Bf (by rw[h.size];decide),sN h.behind (by decide)⟩
def jg.su (h:jg E L σ C) (x:Bool):jg E L {σ with behind:=x} (C.setIfInBounds 198 (.bool x)):=by
 refine⟨by simp[h.size],λi d=>(uM (by omega)).trans (h.low i d),sN h.fQ (by decide),sN h.act (by decide),sN h.head (by decide),sN h.form (by decide),sN h.mode (by decide),sN h.kept (by decide),sN h.wait (by decide),sN h.xU (by decide),sN h.iP (by decide),sN h.gp (by decide),Bf (by rw[h.size];decide)⟩
theorem kM.loc {L' : Loc} {nd : Cd} (h:kM bs L w i nd) (e1:L'.gp=L.gp) (e2:L'.av=L.av) (d:L'.kv=L.kv):kM bs L' w i nd:=by
 cases nd<;>(grind[kM])
theorem Rel.Uq (h:Rel E L σ w):∃C,w.heap[E.bB]?=some (fV C 180):=by
 have⟨C,hb,_⟩:=h.gR;grind
def Rel.free (h:Rel E L σ w) (j:Nat):w.frozen? ⟨E.bB,j,none⟩=false:=by
 have⟨C,hb⟩:=h.Uq;exact fA hb j
theorem Rel.lt (h:Rel E L σ w):E.bB < w.heap.size:=by
 have⟨C,hb⟩:=h.Uq;grind
def Rel.low (h:Rel E L σ w) {j : Nat} (d:j < 188) (k:E.C0[j]?=some v):w.cell? ⟨E.bB,j,none⟩=some v:=by
 have⟨C,hb,hC⟩:=h.gR;rw[fw hb];exact(hC.low j d).trans k
def Rel.Wr (h:Rel E L σ w):w.cell? ⟨E.bB,190,none⟩=some (kK (gX L.gp σ.head)):=by
 have⟨C,hb,hC⟩:=h.gR;rw[fw hb];exact hC.head
def Rel.R4 (h:Rel E L σ w):w.cell? ⟨E.bB,191,none⟩=some (kK (gX L.gp σ.form)):=by
 have⟨C,hb,hC⟩:=h.gR;rw[fw hb];exact hC.form
def Rel.rK (h:Rel E L σ w):w.cell? ⟨E.bB,192,none⟩=some (fK σ.mode):=by
 have⟨C,hb,hC⟩:=h.gR;rw[fw hb];exact hC.mode
def Rel.TD (h:Rel E L σ w):w.cell? ⟨E.bB,193,none⟩=some (fK σ.kept):=by
 have⟨C,hb,hC⟩:=h.gR;rw[fw hb];exact hC.kept
def Rel.acJ (h:Rel E L σ w):w.cell? ⟨E.bB,194,none⟩=some L.wv:=by
 have⟨C,hb,hC⟩:=h.gR;rw[fw hb];exact hC.wait
def Rel.ZW (h:Rel E L σ w):w.cell? ⟨E.bB,195,none⟩=some (.bool σ.iq):=by
 have⟨C,hb,hC⟩:=h.gR;rw[fw hb];exact hC.xU
def Rel.YR (h:Rel E L σ w):w.cell? ⟨E.bB,196,none⟩=some (.bool σ.iP):=by
 have⟨C,hb,hC⟩:=h.gR;rw[fw hb];exact hC.iP
def Rel.SK (h:Rel E L σ w):w.cell? ⟨E.bB,197,none⟩=some (fK σ.gp):=by
 have⟨C,hb,hC⟩:=h.gR;rw[fw hb];exact hC.gp
def Rel.Yr (h:Rel E L σ w):w.cell? ⟨E.bB,198,none⟩=some (.bool σ.behind):=by
 have⟨C,hb,hC⟩:=h.gR;rw[fw hb];exact hC.behind
def Rel.gJ (h:Rel E L σ w) (j:Kept [] w w'):Rel E L σ w':=by
 have d:KT E.bs [] w w':= .gv j;have⟨C,hb,hC⟩:=h.gR;exact {h with
  fr:=h.fr.trans (.gv j)
  rP:=λi l k=>(h.rP i l k).kt d (by simp)
  gR:=⟨C,d.at hb (by simp),hC⟩
  nM:=d.row h.nM (by simp)
  oE:=d.row h.oE (by simp)
  nN:=d.row h.nN (by simp)
  rd:=d.at h.rd (by simp)
  tok:=d.row h.tok (by simp)}
def Rel.bw (h:Rel E L σ w):E.bs<=w.heap.size:=jC h.bz h.fr.size
def To (E:Env) (L:Loc) (σ':Ab) (w w':fO):Prop:=∃d,d.gp=L.gp/\Rel E d σ' w'/\Fr E.bs w w'
def Rel.to (h:Rel E L σ w') (d:Fr E.bs w w'):To E L σ w w':=⟨L,rfl,h,d⟩
theorem Rel.store {σ' : Ab} (h:Rel E L σ w) (j:Nat) (u:gh) (O:∀C,jg E L σ C->jg E L σ' (C.setIfInBounds j u)) (l:σ'.nodes=σ.nodes) (I:σ'.fQ=σ.fQ) (H:σ'.act=σ.act) (F:σ'.waiting=σ.waiting) (J:σ'.mV=σ.mV) (K:σ'.iA=σ.iA) (N:σ'.fresh=σ.fresh) (A:σ'.pS=σ.pS) (B:σ'.rq=σ.rq) (D:σ'.oY=σ.oY) (G:Wf σ'):Rel E L σ' (w.setCell ⟨E.bB,j,none⟩ u):=by
 have⟨C,hb,hC⟩:=h.gR;have m:Kept [E.bB] w (w.setCell ⟨E.bB,j,none⟩ u):=(Kept.refl _ w).setCell (.inl (by simp)) u;have d:KT E.bs [180] w (w.setCell ⟨E.bB,j,none⟩ u):= .jl m (λk m _=>by simp at m;subst m;exact⟨⟨_,_,_,hb,by simp⟩,h.bB⟩);have V:∀i,σ'.gF i=σ.gF i:=λi=>by unfold Ab.gF;rw[l]
 exact {
  fr:=h.fr.trans (d.fr (by decide))
  env:=h.env
  rY:=by rw[A,B,D];exact h.rY
  rP:=λi U z=>(h.rP i U (by grind)).kt d (by decide)
  inj:=h.inj
  bz:=h.bz
  bB:=h.bB
  bR:=h.bR
  bN:=by rw[l];exact h.bN
  xv:=by rw[l];exact h.xv
  Ak:=λi z q=>h.Ak i (by grind) (by grind)
  uq:=λi j e g z S W=>h.uq i j e g (by grind) S (by grind)
  Ad:=λi z q=>h.Ad i (by grind) (by grind)
  wf:=G
  gR:=⟨_,fI hb j u,O C hC⟩
  nM:=by rw[I];exact d.row h.nM (by decide)
  oE:=by rw[H];exact d.row h.oE (by decide)
  Cg:=h.Cg
  ve:=by rw[I];exact h.ve
  Bx:=by rw[H];exact h.Bx
  nN:=by rw[F];exact d.row h.nN (by decide)
  BK:=by rw[F];exact h.BK
  rd:=by rw[J,K];exact d.at h.rd (by decide)
  BH:=h.BH
  tok:=d.row h.tok (by decide)
  Av:=h.Av
  yJ:=by rw[N,l];exact h.yJ
  ab:=by rw[l];exact h.ab
  tb:=h.tb
  Ch:=by rw[F];exact h.Ch}
def Rel.yb (h:Rel E L σ w) (x:iM) (j:σ.gx x=true):Rel E L {σ with head:=x} (w.setCell ⟨E.bB,190,none⟩ (kK (gX L.gp x))):=
 h.store 190 _ (λC d=>d.yb x) rfl rfl rfl rfl rfl rfl rfl rfl rfl rfl ⟨h.wf.fQ,h.wf.act,j,h.wf.form,h.wf.iJ,h.wf.kids,h.wf.vc⟩
def Rel.uW (h:Rel E L σ w) (x:iM) (j:σ.gx x=true):Rel E L {σ with form:=x} (w.setCell ⟨E.bB,191,none⟩ (kK (gX L.gp x))):=
 h.store 191 _ (λC d=>d.uW x) rfl rfl rfl rfl rfl rfl rfl rfl rfl rfl ⟨h.wf.fQ,h.wf.act,h.wf.head,j,h.wf.iJ,h.wf.kids,h.wf.vc⟩
def Rel.iI (h:Rel E L σ w) (x:Nat):Rel E L {σ with mode:=x} (w.setCell ⟨E.bB,192,none⟩ (fK x)):=
 h.store 192 _ (λC d=>d.iI x) rfl rfl rfl rfl rfl rfl rfl rfl rfl rfl ⟨h.wf.fQ,h.wf.act,h.wf.head,h.wf.form,h.wf.iJ,h.wf.kids,h.wf.vc⟩
def Rel.yx (h:Rel E L σ w) (x:Nat):Rel E L {σ with kept:=x} (w.setCell ⟨E.bB,193,none⟩ (fK x)):=
 h.store 193 _ (λC d=>d.yx x) rfl rfl rfl rfl rfl rfl rfl rfl rfl rfl ⟨h.wf.fQ,h.wf.act,h.wf.head,h.wf.form,h.wf.iJ,h.wf.kids,h.wf.vc⟩
def Rel.yq (h:Rel E L σ w) (x:Bool):Rel E L {σ with iq:=x} (w.setCell ⟨E.bB,195,none⟩ (.bool x)):=
 h.store 195 _ (λC d=>d.yq x) rfl rfl rfl rfl rfl rfl rfl rfl rfl rfl ⟨h.wf.fQ,h.wf.act,h.wf.head,h.wf.form,h.wf.iJ,h.wf.kids,h.wf.vc⟩
def Rel.qs (h:Rel E L σ w) (x:Bool):Rel E L {σ with iP:=x} (w.setCell ⟨E.bB,196,none⟩ (.bool x)):=
 h.store 196 _ (λC d=>d.qs x) rfl rfl rfl rfl rfl rfl rfl rfl rfl rfl ⟨h.wf.fQ,h.wf.act,h.wf.head,h.wf.form,h.wf.iJ,h.wf.kids,h.wf.vc⟩
def Rel.CZ (h:Rel E L σ w) (x:Nat):Rel E L {σ with gp:=x} (w.setCell ⟨E.bB,197,none⟩ (fK x)):=
 h.store 197 _ (λC d=>d.CZ x) rfl rfl rfl rfl rfl rfl rfl rfl rfl rfl ⟨h.wf.fQ,h.wf.act,h.wf.head,h.wf.form,h.wf.iJ,h.wf.kids,h.wf.vc⟩
def Rel.su (h:Rel E L σ w) (x:Bool):Rel E L {σ with behind:=x} (w.setCell ⟨E.bB,198,none⟩ (.bool x)):=
 h.store 198 _ (λC d=>d.su x) rfl rfl rfl rfl rfl rfl rfl rfl rfl rfl ⟨h.wf.fQ,h.wf.act,h.wf.head,h.wf.form,h.wf.iJ,h.wf.kids,h.wf.vc⟩
def Rel.gx (h:Rel E L σ w) (j:σ.gx x=true):tE w (gX L.gp x):=by
 intro k d;cases x with
 |none=>cases d
 |some i=>
  obtain rfl:=jr d;unfold Ab.gx at j;have⟨e,he⟩:=Option.isSome_iff_exists.1 j;exact⟨_,(h.rP i _ (Ab.iX he)).1.gR⟩
def LI {xs : j5} (h:y∈od xs x):y∈xs:=by
 unfold od at h;rw[List.mem_reverse]at h;exact List.mem_reverse.1 ((Z7 _).subset (List.mem_of_mem_tail h))
theorem Jz {xs : j5} {z : iM} (h:z∈pI xs x y):z∈xs\/z=y:=by
 unfold pI at h
 grind
theorem BP {xs : j5} {z : iM} (h:z∈iH xs x y):z∈xs\/z=y:=by
 unfold iH at h
 grind
def Rel.zc (h:Rel E L σ w):∃C,xo E.bs E.bB 188 180 C L.ov (σ.fQ.map (gX L.gp)) w/\jg E L σ C:=by
 have⟨C,hb,hC⟩:=h.gR;refine⟨C,⟨hb,hC.fQ,?_,by decide,by simpa using h.ve⟩,hC⟩
 simpa [JU,ME]using h.nM
def Rel.cC (h:Rel E L σ w):∀x∈σ.fQ.map (gX L.gp),tE w x:=by
 intro x d;obtain⟨y,j,rfl⟩:=List.mem_map.1 d;exact h.gx (Ab.vL (h.wf.fQ y j))
theorem Rel.Dh (h:Rel E L σ w) (j:xo E.bs E.bB 188 180 C L.ov (σ.fQ.map (gX L.gp)) w) (F:jg E L σ C) {q : j5} (J:oA E.bs E.bB 188 180 C L.ov (q.map (gX L.gp)) w w') (K:∀x∈q,σ.lH x=true):To E L {σ with fQ:=q} w w':=by
 have⟨v',L1,k1,f1⟩:=J;have d:KT E.bs [180,72] w w':= .jl k1 (λk l _=>by
  rcases List.mem_cons.1 l with rfl|l
  .exact⟨⟨_,_,_,j.gR,by simp⟩,h.bB⟩
  .obtain⟨c,m,G⟩:=pW j.row (by simpa using l);exact⟨⟨_,_,_,G,by simp⟩,(j.row.lt k (by simpa using l)).1⟩)
 have z:∀g,L.cv.ownBlock=some g->g∉E.bB::L.ov.ownBlock.toList:=by
  intro g A B;rcases List.mem_cons.1 B with rfl|B
  .exact zn h.oE j.gR (by decide) A
  .exact(h.Cg:∀g,L.ov.ownBlock=some g->L.cv.ownBlock≠some g) g (by grind) A
 refine⟨{L with ov:=v'},rfl,?_,d.fr (by decide)⟩;exact {
  fr:=h.fr.trans (d.fr (by decide))
  env:=h.env
  rY:=h.rY
  rP:=λi N H=>((h.rP i N H).kt d (by decide)).loc rfl rfl rfl
  inj:=h.inj
  bz:=h.bz
  bB:=h.bB
  bR:=h.bR
  bN:=h.bN
  xv:=h.xv
  Ak:=h.Ak
  uq:=h.uq
  Ad:=h.Ad
  wf:={h.wf with fQ:=K}
  gR:=⟨_,L1.gR,F.TQ v' q⟩
  nM:=by simpa [JU,ME]using L1.row
  oE:=k1.ownsRow h.oE z
  Cg:=by
   intro g O D;have I:=zr h.oE (g:=g) D
   grind
  ve:=by simpa using L1.le
  Bx:=h.Bx
  nN:=d.row h.nN (by decide)
  BK:=h.BK
  rd:=d.at h.rd (by decide)
  BH:=h.BH
  tok:=d.row h.tok (by decide)
  Av:=h.Av
  yJ:=h.yJ
  ab:=h.ab
  tb:=h.tb
  Ch:=h.Ch}
def Z4 (h:Rel E L σ w):
  Calls prog 269 #[jp E.bB 188] w λe w'=>e=gO (fK σ.fQ.length)/\w'=w:=by
 have⟨C,hL,hC⟩:=h.zc;have:=adk E.bs E.bB 188 _ C _ _ w hL
 rwa [BZ]at this
def afC (h:Rel E L σ w) (n:Int):
  Calls prog 248 #[jp E.bB 188,fK n] w λe w'=>e=gO (kK (gX L.gp (gU σ.fQ n)))/\w'=w:=by
 have⟨C,hL,hC⟩:=h.zc;have:=Ze E.bs E.bB 188 _ C _ _ n w hL
 rwa [yl]at this
def SD (h:Rel E L σ w):
  Calls prog 179 #[jp E.bB 188] w λe w'=>e=gO (kK (gX L.gp (gU σ.fQ ((σ.fQ.length:Int) - 1))))/\w'=w:=by
 have⟨C,hL,hC⟩:=h.zc;have:=YU E.bs E.bB 188 _ C _ _ w hL
 rwa [yl,BZ]at this
def afg (h:Rel E L σ w) (x:iM) (d:σ.gx x=true):
  Calls prog 322 #[jp E.bB 188,kK (gX L.gp x)] w λe w'=>e=gO (.bool (decide (x∈σ.fQ)))/\w'=w:=by
 have⟨C,hL,hC⟩:=h.zc;have:=adq E.bs E.bB 188 _ C _ _ (gX L.gp x) w hL h.cC (h.gx d)
 rwa [decide_eq_decide.2 (mem_map h.inj σ.fQ x)]at this
def y8 (h:Rel E L σ w) (x:iM) (d:σ.gx x=true):
  Calls prog 246 #[jp E.bB 188,kK (gX L.gp x)] w λe w'=>e=gO (kK (gX L.gp (gU σ.fQ (posOf σ.fQ x - 1))))/\w'=w:=by
 have⟨C,hL,hC⟩:=h.zc;have:=OD E.bs E.bB 188 _ C _ _ (gX L.gp x) w hL h.cC (h.gx d)
 rwa [MA h.inj,yl]at this
theorem adB (h:Rel E L σ w) (x:iM) (l:σ.lH x=true) (j:σ.fQ.length < 4096):
  Calls prog 271 #[jp E.bB 188,kK (gX L.gp x)] w λe w'=>e=oS/\To E L {σ with fQ:=σ.fQ++[x]} w w':=by
 have⟨C,hL,hC⟩:=h.zc;refine(Y9 E.bs E.bB 188 _ C _ _ (gX L.gp x) w hL (by grind) h.bw).mono ?_;rintro e w' ⟨rfl,k⟩;refine⟨rfl,h.Dh hL hC (by grind) λy d=>?_⟩;rcases List.mem_append.1 d with d|d
 .exact h.wf.fQ y d
 grind
theorem PE (h:Rel E L σ w):
  Calls prog 184 #[jp E.bB 188] w λe w'=>e=gO (kK (gX L.gp (gU σ.fQ ((σ.fQ.length:Int) - 1))))/\To E L {σ with fQ:=σ.fQ.dropLast} w w':=by
 have⟨C,hL,hC⟩:=h.zc;refine(adb E.bs E.bB 188 _ C _ _ w hL).mono ?_;rintro e w' ⟨rfl,j⟩;refine⟨by rw[yl,BZ],h.Dh hL hC (by grind) λy d=>h.wf.fQ y (List.dropLast_subset _ d)⟩
def abE (h:Rel E L σ w) (x:iM) (j:σ.gx x=true):
  Calls prog 328 #[jp E.bB 188,kK (gX L.gp x)] w λe w'=>e=oS/\To E L {σ with fQ:=od σ.fQ x} w w':=by
 have⟨C,hL,hC⟩:=h.zc;refine(UJ E.bs E.bB 188 _ C _ _ (gX L.gp x) w hL (by decide) h.cC (h.gx j)).mono ?_;rintro e w' ⟨rfl,d⟩;exact⟨rfl,h.Dh hL hC (by rw[<-Me h.inj];exact d) λy k=>h.wf.fQ y (LI k)⟩
def Zo (h:Rel E L σ w) (x:iM) (j:σ.gx x=true):
  Calls prog 187 #[jp E.bB 188,kK (gX L.gp x)] w λe w'=>e=oS/\To E L {σ with fQ:=σ.fQ.erase x} w w':=by
 have⟨C,hL,hC⟩:=h.zc;refine(A0 E.bs E.bB 188 _ C _ _ (gX L.gp x) w hL h.cC (h.gx j)).mono ?_;rintro e w' ⟨rfl,d⟩;exact⟨rfl,h.Dh hL hC (by rw[<-vW h.inj];exact d) λy k=>h.wf.fQ y (AB k)⟩
theorem Rr (h:Rel E L σ w) (x y:iM) (k:σ.gx x=true) (l:σ.lH y=true) (m:σ.fQ.length < 4096):
  Calls prog 376 #[jp E.bB 188,kK (gX L.gp x),kK (gX L.gp y)] w λe w'=>e=oS/\To E L {σ with fQ:=iH σ.fQ x y} w w':=by
 have⟨C,hL,hC⟩:=h.zc;refine(Gq E.bs E.bB 188 _ C _ _ (gX L.gp x) (gX L.gp y) w hL h.cC (h.gx k) (by grind) h.bw).mono ?_;rintro e w' ⟨rfl,j⟩;exact⟨rfl,h.Dh hL hC (by rw[<-BU h.inj];exact j) λz d=>by rcases BP d with d|rfl;exact h.wf.fQ z d;exact l⟩
def Rel.GK (h:Rel E L σ w):∃C,xo E.bs E.bB 189 180 C L.cv (σ.act.map (gX L.gp)) w/\jg E L σ C:=by
 have⟨C,hb,hC⟩:=h.gR;refine⟨C,⟨hb,hC.act,?_,by decide,by simpa using h.Bx⟩,hC⟩
 simpa [JU,ME]using h.oE
def Rel.cF (h:Rel E L σ w):∀x∈σ.act.map (gX L.gp),tE w x:=by
 intro x d;obtain⟨y,j,rfl⟩:=List.mem_map.1 d;exact h.gx (h.wf.act y j)
theorem Rel.An (h:Rel E L σ w) (j:xo E.bs E.bB 189 180 C L.cv (σ.act.map (gX L.gp)) w) (G:jg E L σ C) {q : j5} (K:oA E.bs E.bB 189 180 C L.cv (q.map (gX L.gp)) w w') (N:∀x∈q,σ.gx x=true):To E L {σ with act:=q} w w':=by
 have⟨v',L1,k1,f1⟩:=K;have d:KT E.bs [180,72] w w':= .jl k1 (λk l _=>by
  rcases List.mem_cons.1 l with rfl|l
  .exact⟨⟨_,_,_,j.gR,by simp⟩,h.bB⟩
  .obtain⟨c,m,H⟩:=pW j.row (by simpa using l);exact⟨⟨_,_,_,H,by simp⟩,(j.row.lt k (by simpa using l)).1⟩)
 have A:∀g,L.ov.ownBlock=some g->g∉E.bB::L.cv.ownBlock.toList:=by
  intro g D F;rcases List.mem_cons.1 F with rfl|F
  .exact zn h.nM j.gR (by decide) D
  .exact((λg z B=>h.Cg g B z):∀g,L.cv.ownBlock=some g->L.ov.ownBlock≠some g) g (by grind) D
 refine⟨{L with cv:=v'},rfl,?_,d.fr (by decide)⟩;exact {
  fr:=h.fr.trans (d.fr (by decide))
  env:=h.env
  rY:=h.rY
  rP:=λi O I=>((h.rP i O I).kt d (by decide)).loc rfl rfl rfl
  inj:=h.inj
  bz:=h.bz
  bB:=h.bB
  bR:=h.bR
  bN:=h.bN
  xv:=h.xv
  Ak:=h.Ak
  uq:=h.uq
  Ad:=h.Ad
  wf:={h.wf with act:=N}
  gR:=⟨_,L1.gR,G.TU v' q⟩
  oE:=by simpa [JU,ME]using L1.row
  nM:=k1.ownsRow h.nM A
  Cg:=by
   intro g z B;have J:=zr h.nM (g:=g) z
   grind
  Bx:=by simpa using L1.le
  ve:=h.ve
  nN:=d.row h.nN (by decide)
  BK:=h.BK
  rd:=d.at h.rd (by decide)
  BH:=h.BH
  tok:=d.row h.tok (by decide)
  Av:=h.Av
  yJ:=h.yJ
  ab:=h.ab
  tb:=h.tb
  Ch:=h.Ch}
def ada (h:Rel E L σ w):
  Calls prog 269 #[jp E.bB 189] w λe w'=>e=gO (fK σ.act.length)/\w'=w:=by
 have⟨C,hL,hC⟩:=h.GK;have:=adk E.bs E.bB 189 _ C _ _ w hL
 rwa [BZ]at this
def agq (h:Rel E L σ w) (n:Int):
  Calls prog 248 #[jp E.bB 189,fK n] w λe w'=>e=gO (kK (gX L.gp (gU σ.act n)))/\w'=w:=by
 have⟨C,hL,hC⟩:=h.GK;have:=Ze E.bs E.bB 189 _ C _ _ n w hL
 rwa [yl]at this
def afo (h:Rel E L σ w) (x:iM) (d:σ.gx x=true):
  Calls prog 322 #[jp E.bB 189,kK (gX L.gp x)] w λe w'=>e=gO (.bool (decide (x∈σ.act)))/\w'=w:=by
 have⟨C,hL,hC⟩:=h.GK;have:=adq E.bs E.bB 189 _ C _ _ (gX L.gp x) w hL h.cF (h.gx d)
 rwa [decide_eq_decide.2 (mem_map h.inj σ.act x)]at this
theorem aeH (h:Rel E L σ w) (x:iM) (l:σ.gx x=true) (j:σ.act.length < 4096):
  Calls prog 271 #[jp E.bB 189,kK (gX L.gp x)] w λe w'=>e=oS/\To E L {σ with act:=σ.act++[x]} w w':=by
 have⟨C,hL,hC⟩:=h.GK;refine(Y9 E.bs E.bB 189 _ C _ _ (gX L.gp x) w hL (by grind) h.bw).mono ?_;rintro e w' ⟨rfl,k⟩;refine⟨rfl,h.An hL hC (by grind) λy d=>?_⟩;rcases List.mem_append.1 d with d|d
 .exact h.wf.act y d
 grind
def aba (h:Rel E L σ w) (x:iM) (j:σ.gx x=true):
  Calls prog 328 #[jp E.bB 189,kK (gX L.gp x)] w λe w'=>e=oS/\To E L {σ with act:=od σ.act x} w w':=by
 have⟨C,hL,hC⟩:=h.GK;refine(UJ E.bs E.bB 189 _ C _ _ (gX L.gp x) w hL (by decide) h.cF (h.gx j)).mono ?_;rintro e w' ⟨rfl,d⟩;exact⟨rfl,h.An hL hC (by rw[<-Me h.inj];exact d) λy k=>h.wf.act y (LI k)⟩
def ZR (h:Rel E L σ w) (x:iM) (j:σ.gx x=true):
  Calls prog 187 #[jp E.bB 189,kK (gX L.gp x)] w λe w'=>e=oS/\To E L {σ with act:=σ.act.erase x} w w':=by
 have⟨C,hL,hC⟩:=h.GK;refine(A0 E.bs E.bB 189 _ C _ _ (gX L.gp x) w hL h.cF (h.gx j)).mono ?_;rintro e w' ⟨rfl,d⟩;exact⟨rfl,h.An hL hC (by rw[<-vW h.inj];exact d) λy k=>h.wf.act y (AB k)⟩
def VQ (h:Rel E L σ w) (x y:iM) (k:σ.gx x=true) (l:σ.gx y=true):
  Calls prog 276 #[jp E.bB 189,kK (gX L.gp x),kK (gX L.gp y)] w λe w'=>e=oS/\To E L {σ with act:=pI σ.act x y} w w':=by
 have⟨C,hL,hC⟩:=h.GK;refine(Fp E.bs E.bB 189 _ C _ _ (gX L.gp x) (gX L.gp y) w hL h.cF (h.gx k)).mono ?_;rintro e w' ⟨rfl,j⟩;exact⟨rfl,h.An hL hC (by rw[<-JA h.inj];exact j) λz d=>by rcases Jz d with d|rfl;exact h.wf.act z d;exact l⟩
theorem OS (h:Rel E L σ w) (x y:iM) (k:σ.gx x=true) (l:σ.gx y=true) (m:σ.act.length < 4096):
  Calls prog 376 #[jp E.bB 189,kK (gX L.gp x),kK (gX L.gp y)] w λe w'=>e=oS/\To E L {σ with act:=iH σ.act x y} w w':=by
 have⟨C,hL,hC⟩:=h.GK;refine(Gq E.bs E.bB 189 _ C _ _ (gX L.gp x) (gX L.gp y) w hL h.cF (h.gx k) (by grind) h.bw).mono ?_;rintro e w' ⟨rfl,j⟩;exact⟨rfl,h.An hL hC (by rw[<-BU h.inj];exact j) λz d=>by rcases BP d with d|rfl;exact h.wf.act z d;exact l⟩
end
end Go.Proofs.YtlhhgenpcjjajaaGreatDoor
