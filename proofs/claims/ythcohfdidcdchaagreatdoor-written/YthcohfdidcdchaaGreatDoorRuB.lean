import Derived.Test.YthcohfdidcdchaaGreatDoorKept
import Derived.Laws.EntriesVeiled
import Derived.Great.BuildSlice
set_option linter.unusedSimpArgs false
set_option linter.unusedVariables false
set_option linter.defProp false
set_option maxHeartbeats 0
set_option maxRecDepth 100000
namespace Go.Proofs.YthcohfdidcdchaaGreatDoor
open Go.RowKit Tryz
def Wp:=@List.nodup_cons
def DZ:=@Array.getElem?_setIfInBounds
def wm:=@List.length_map
def nL:=@List.map_reverse
def nM:=@List.dropWhile_sublist
def nN:=@List.map_map
def yB:=@Function.comp_def
def Qw:=@List.mem_of_mem_erase
def Wq:=@List.map_congr_left
def LN:=@Nat.le_of_eq
def Qx:=@ByteArray.ext
def wo:=@Eq.trans
def Wr:=@List.head?_eq_getElem?
def Qy:=@List.take_sublist
def kU:=@List.mem_cons
def Al:=@List.not_mem_nil
def yC:=@or_false
section
variable {C args c : jA} {R : List (List fY×Ru)} {S : List Nat} {T : List TypeId} {X : Nat->Prop} {av kv v v0 v1 v2 v3 v4 v5 v6 v7 v8 v9 : gG} {b bB bD base bm bs g i j k n t : Nat} {cw cw' w w' : gm} {e ei ej : yp} {f r : Nat->Nat} {m pl : Nat×Nat} {ms : List (Nat×List (List fY×Ru))} {old s : fY} {p : fY->Bool} {rs : List (Ru×gG)} {x y z : iY} {xs zs : kG}
theorem tD (w:gm) (d h:Obj):((w.alloc d).alloc h).heap[w.heap.size]?=some d/\((w.alloc d).alloc h).heap[w.heap.size+1]?=some h:=by
 refine⟨(Below.heap_alloc _ _ _ (by simp)).trans (fP w _),?_⟩;have:=fP (w.alloc d) h;simp_all
theorem oS (w:gm) (d h l:Obj):(((w.alloc d).alloc h).alloc l).heap[w.heap.size]?=some d/\(((w.alloc d).alloc h).alloc l).heap[w.heap.size+1]?=some h/\(((w.alloc d).alloc h).alloc l).heap[w.heap.size+1+1]?=some l:=by
 have⟨h1,h2⟩:=tD w d h;refine⟨(Below.heap_alloc _ _ _ (by grind)).trans h1,(Below.heap_alloc _ _ _ (by simp)).trans h2,?_⟩;have:=fP ((w.alloc d).alloc h) l;simp_all
theorem Hn (w:gm) (d h l q:Obj):((((w.alloc d).alloc h).alloc l).alloc q).heap[w.heap.size]?=some d/\((((w.alloc d).alloc h).alloc l).alloc q).heap[w.heap.size+1]?=some h/\((((w.alloc d).alloc h).alloc l).alloc q).heap[w.heap.size+1+1]?=some l/\((((w.alloc d).alloc h).alloc l).alloc q).heap[w.heap.size+1+1+1]?=some q:=by
 have⟨h1,h2,h3⟩:=oS w d h l;refine⟨(Below.heap_alloc _ _ _ (by grind)).trans h1,(Below.heap_alloc _ _ _ (by simp)).trans h2,(Below.heap_alloc _ _ _ (by simp)).trans h3,?_⟩;have:=fP (((w.alloc d).alloc h).alloc l) q;simp_all
abbrev Ao (bm bB bD:Nat) (r:Ru) (w:gm) (e:Ending) (w':gm):Prop:=(∃v,e=ig v/\n4 bm bB bD r v w')/\Kept [] w w'
def p5 (bm bB bD:Nat) (m:Int) (w:gm):Calls prog 97 #[iq bB,fV m] w (Ao bm bB bD (.pO m) w):=by
 refine(aeZ bB m w).mono ?_;rintro e w' ⟨rfl,rfl⟩;have⟨h1,h2⟩:=tD w (gz #[iq bB] 116) (gz #[fV m] 172);exact⟨⟨_,rfl,_,_,rfl,h1,h2⟩,((Kept.refl _ _).alloc _).alloc _⟩
def o9 (bm bB bD d:Nat) (own:Bool) (w:gm):Calls prog 89 #[iq bB,.func (.func d) #[iq (if own then bB else bD)] #[]] w (Ao bm bB bD (.gM d own) w):=by
 refine(Pr bB (.func d) #[iq (if own then bB else bD)] #[] w).mono ?_;rintro e w' ⟨rfl,rfl⟩;exact⟨⟨_,rfl,_,rfl,fP w _⟩,(Kept.refl _ _).alloc _⟩
def oO (bm bB bD f:Nat) (w:gm):Calls prog 121 #[iq bB,.func (.func f) #[iq bB] #[]] w (Ao bm bB bD (.ahead f) w):=by
 refine(Ps bB (.func f) #[iq bB] #[] w).mono ?_;rintro e w' ⟨rfl,rfl⟩;have⟨h1,h2⟩:=tD w (gz #[iq bB] 116) (gz #[.func (.func f) #[iq bB] #[]] 62);exact⟨⟨_,rfl,_,_,rfl,h1,h2⟩,((Kept.refl _ _).alloc _).alloc _⟩
def yn (bm bB bD f:Nat) (w:gm):Calls prog 125 #[.func (.func f) #[iq bB] #[]] w (Ao bm bB bD (.ends f) w):=by
 refine(ae0 (.func f) #[iq bB] #[] w).mono ?_;rintro e w' ⟨rfl,rfl⟩;exact⟨⟨_,rfl,_,rfl,fP w _⟩,(Kept.refl _ _).alloc _⟩
theorem n4.func {r : Ru} (h:n4 bm bB bD r v w) (d:r≠ .nil):∃f a l,v= .func f a l:=by
 cases r with
 |nil=>grind
 |nothing=>exact⟨_,_,_,h⟩
 |hH f=>exact⟨_,_,_,h⟩
 |pO m=>have⟨_,_,e,_⟩:=h;grind
 |gM a b=>have⟨_,e,_⟩:=h;grind
 |ahead f=>have⟨_,_,e,_⟩:=h;grind
 |ends f=>have⟨_,e,_⟩:=h;grind
 |LZ r=>have⟨_,_,_,e,_⟩:=h;grind
 |qF a b=>have⟨_,_,_,_,e,_⟩:=h;grind
 |nj a b c=>have⟨_,_,_,_,_,e,_⟩:=h;grind
 |item a=>have⟨_,_,_,_,_,e,_⟩:=h;grind
def Ll (bm bB bD:Nat) (r:Ru) (u:gG) (w:gm) (q:r≠ .nil) (h:n4 bm bB bD r u w):Calls prog 133 #[iq bB,u] w (Ao bm bB bD (.LZ r) w):=by
 obtain⟨f,a,l,rfl⟩:=h.func q;refine(Pt bB f a l w).mono ?_;rintro e w' ⟨rfl,rfl⟩;have⟨h1,h2⟩:=tD w (gz #[iq bB] 116) (gz #[.func f a l] 163);have d:Kept [] w ((w.alloc (gz #[iq bB] 116)).alloc (gz #[.func f a l] 163)):=((Kept.refl _ _).alloc _).alloc _;exact⟨⟨_,rfl,_,_,_,rfl,h1,h2,h.fr (.gN d)⟩,d⟩
theorem Ask.func (h:Ask bm v p w):∃f a l,v= .func f a l:=by
 have⟨k,lb,e,_⟩:=h.call;grind
def Cb (bm bB bD:Nat) (ks:List fY) (m:Int) (u:gG) (w:gm) (h:Ask bm u (gZ ks) w):Calls prog 118 #[iq bB,u,fV m] w (Ao bm bB bD (.qF ks m) w):=by
 obtain⟨f,a,l,rfl⟩:=h.func;refine(Sq bB f a l m w).mono ?_;rintro e w' ⟨rfl,rfl⟩;have⟨h1,h2,h3⟩:=oS w (gz #[iq bB] 116) (gz #[.func f a l] 84) (gz #[fV m] 172);have d:Kept [] w (((w.alloc (gz #[iq bB] 116)).alloc (gz #[.func f a l] 84)).alloc (gz #[fV m] 172)):=(((Kept.refl _ _).alloc _).alloc _).alloc _;exact⟨⟨_,rfl,_,_,_,_,rfl,h1,h2,h.fr (.gN d),h3⟩,d⟩
def DN (bm bB bD:Nat) (ks:List fY) (d:fY) (m:Int) (u:gG) (w:gm) (q:Ask bm u (gZ ks) w):Calls prog 120 #[iq bB,u,gu d,fV m] w (Ao bm bB bD (.nj ks d m) w):=by
 obtain⟨f,a,l,rfl⟩:=q.func;refine(Pu bB f a l d m w).mono ?_;rintro e w' ⟨rfl,rfl⟩;have⟨h1,h2,h3,h4⟩:=Hn w (gz #[iq bB] 116) (gz #[.func f a l] 84) (gz #[gu d] 9) (gz #[fV m] 172);have h:Kept [] w ((((w.alloc (gz #[iq bB] 116)).alloc (gz #[.func f a l] 84)).alloc (gz #[gu d] 9)).alloc (gz #[fV m] 172)):=((((Kept.refl _ _).alloc _).alloc _).alloc _).alloc _;exact⟨⟨_,rfl,_,_,_,_,_,rfl,h1,h2,q.fr (.gN h),h3,h4⟩,h⟩
structure lE where
 blank:Ru:= .nil
 kg:Ru:= .nil
 gM:Ru:= .nil
 iE:Ru:= .nil
 ie:Ru:= .nil
 start:Option (List (List fY×Ru)):=none
 stop:Option (List (List fY×Ru)):=none
 jP:Ru:= .nil
 j8:Ru:= .nil
 ik:Ru:= .nil
variable {sp : lE}
def sn (bm bB bD:Nat):Option (List (List fY×Ru))->gG->gm->Prop
 |none,v,_=>v= .map none
 |some R,v,w=>∃b,IsMap bm bB bD b R v w
theorem IsMap.lt (h:IsMap bm bB bD b R v w):b < w.heap.size:=by
 have⟨es,ck,ha⟩:=h.at;grind
def sn.ib {R : Option (List (List fY×Ru))} (h:sn bm bB bD R v w) (d:Kept [] w w'):sn bm bB bD R v w':=by
 cases R with
 |none=>exact h
 |some R=>
  have⟨b,hm⟩:=h;exact⟨b,hm.fr (.gN d) (d.block b hm.lt (by simp))⟩
structure kX (bm bB bD:Nat) (sp:lE) (v0 v1 v2 v3 v4 v5 v6 v7 v8 v9:gG) (w:gm):Prop where
 blank:n4 bm bB bD sp.blank v0 w
 kg:n4 bm bB bD sp.kg v1 w
 gM:n4 bm bB bD sp.gM v2 w
 iE:n4 bm bB bD sp.iE v3 w
 ie:n4 bm bB bD sp.ie v4 w
 start:sn bm bB bD sp.start v5 w
 stop:sn bm bB bD sp.stop v6 w
 jP:n4 bm bB bD sp.jP v7 w
 j8:n4 bm bB bD sp.j8 v8 w
 ik:n4 bm bB bD sp.ik v9 w
def kX.ib (h:kX bm bB bD sp v0 v1 v2 v3 v4 v5 v6 v7 v8 v9 w) (d:Kept [] w w'):kX bm bB bD sp v0 v1 v2 v3 v4 v5 v6 v7 v8 v9 w':=
 have f:xk bm w w':= .gN d
 ⟨h.blank.fr f,h.kg.fr f,h.gM.fr f,h.iE.fr f,h.ie.fr f,h.start.ib d,h.stop.ib d,h.jP.fr f,h.j8.fr f,h.ik.fr f⟩
def jN (bm bB bD:Nat) (sp:lE) (w:gm) (e:Ending) (w':gm):Prop:=
 ∃v0 v1 v2 v3 v4 v5 v6 v7 v8 v9,e=ig (.agg #[v0,v1,v2,v3,v4,v5,v6,v7,v8,v9])/\kX bm bB bD sp v0 v1 v2 v3 v4 v5 v6 v7 v8 v9 w'/\Kept [] w w'
def BD (bB bD:Nat) (w:gm):Prop:=w.cell? ⟨bB,187,none⟩=some (iq bD)/\bB < w.heap.size
def BD.ib (h:BD bB bD w) (d:Kept [] w w'):BD bB bD w':=⟨(d.cell (p:=⟨bB,187,none⟩) h.2 (by simp)).trans h.1,lU h.2 d.size⟩
abbrev vp:jA:=#[.nilFunc,.nilFunc,.nilFunc,.nilFunc,.nilFunc,.map none,.map none,.nilFunc,.nilFunc,.nilFunc]
def tI (w:gm) (o:Obj):∃W,W=w.alloc o/\Kept [] w W/\W.heap[w.heap.size]?=some o/\W.heap.size=w.heap.size+1:=⟨_,rfl,(Kept.refl _ _).alloc _,fP w _,by simp⟩
theorem sn.KD {R : Option (List (List fY×Ru))} {s : Nat} {t : TypeId} (h:sn bm bB bD R v w) (l:Kept [s] w w') (q:w.heap[s]?=some (gz c t)) (f:xk bm w w'):sn bm bB bD R v w':=by
 cases R with
 |none=>exact h
 |some R=>
  have⟨b,hb⟩:=h;refine⟨b,hb.fr f (l.block b hb.lt ?_)⟩;intro d;have e:=List.mem_singleton.1 d;have⟨es,ck,ha⟩:=hb.at;grind
def kX.KD {s : Nat} (h:kX bm bB bD sp v0 v1 v2 v3 v4 v5 v6 v7 v8 v9 w) (d:Kept [s] w w') (q:w.heap[s]?=some (gz c 167)):kX bm bB bD sp v0 v1 v2 v3 v4 v5 v6 v7 v8 v9 w':=
 have f:xk bm w w':=⟨_,d,λk l _=>by
  have e:=List.mem_singleton.1 l;subst e;exact .inl ⟨_,_,_,q,by decide⟩⟩
 ⟨h.blank.fr f,h.kg.fr f,h.gM.fr f,h.iE.fr f,h.ie.fr f,h.start.KD d q f,h.stop.KD d q f,h.jP.fr f,h.j8.fr f,h.ik.fr f⟩
def SR (v0 v1 v2 v3 v4 v5 v6 v7 v8 v9:gG):jo vp 0 [v0,v1,v2,v3,v4,v5,v6,v7,v8,v9]=#[v0,v1,v2,v3,v4,v5,v6,v7,v8,v9]:=by
 simp[jo]
def kH {s : Nat} (h:w.heap[s]?=some (gz vp 167)):w.cell? ⟨s,0,none⟩=some .nilFunc/\w.cell? ⟨s,1,none⟩=some .nilFunc/\w.cell? ⟨s,2,none⟩=some .nilFunc/\w.cell? ⟨s,3,none⟩=some .nilFunc/\w.cell? ⟨s,4,none⟩=some .nilFunc/\w.cell? ⟨s,5,none⟩=some (.map none)/\w.cell? ⟨s,6,none⟩=some (.map none)/\w.cell? ⟨s,7,none⟩=some .nilFunc/\w.cell? ⟨s,8,none⟩=some .nilFunc/\w.cell? ⟨s,9,none⟩=some .nilFunc:=by
 simp only[fN h];simp
def jz {w1 : gm} (h:w1.heap[w.heap.size]?=some (gz vp 167)) (B:Kept [] w w1) (D:kX bm bB bD sp v0 v1 v2 v3 v4 v5 v6 v7 v8 v9 w1) (W:gm) (d:W=w1.setCells w.heap.size 0 [v0,v1,v2,v3,v4,v5,v6,v7,v8,v9]):
  W.heap[w.heap.size]?=some (gz #[v0,v1,v2,v3,v4,v5,v6,v7,v8,v9] 167)/\kX bm bB bD sp v0 v1 v2 v3 v4 v5 v6 v7 v8 v9 W/\Kept [] w W:=by
 have A:=kC [v0,v1,v2,v3,v4,v5,v6,v7,v8,v9] w1 w.heap.size vp _ _ 0 h;have l:Kept [w.heap.size] w1 W:=by rw[d];exact Kept.setCells (.inl (by simp)) _ _ (Kept.refl _ _)
 have q:Kept [] w W:=by rw[d];exact Kept.setCells (.inr (gL _)) _ _ B
 rw[SR,<-d]at A;exact⟨A,D.KD l h,q⟩
def kN {l:Func} {a : Act} {W : gm} (d:l.results=#[.cell t 167]) (D:a.tmps.getD t undef=gE w.heap.size) (A:a.defers=[])
  (B:W.heap[w.heap.size]?=some (gz #[v0,v1,v2,v3,v4,v5,v6,v7,v8,v9] 167)/\kX bm bB bD sp v0 v1 v2 v3 v4 v5 v6 v7 v8 v9 W/\Kept [] w W):bodyPost prog l (jN bm bB bD sp w) .ret a W:=by
 have⟨hg,hr,hk⟩:=B;refine ou (v:= .agg #[v0,v1,v2,v3,v4,v5,v6,v7,v8,v9]) ?_ A ⟨_,_,_,_,_,_,_,_,_,_,rfl,hr,hk⟩;have q:=fN hg;have h:a.tmps[t]?.getD undef=gE w.heap.size:=by simpa using D
 simp only[results,d];simp[h,asAddr,Result.andThen,go_sem,q]
def ZI (bm bB bD:Nat) (w:gm) (B:BD bB bD w) (G:yq w) (D:bm < w.heap.size):
  Calls prog 60 #[iq bB] w (jN bm bB bD {blank:= .nothing,gM:= .gM 90 false,iE:= .hH 91,ik:= .hH 92} w):=by
 have F:=@run_makeMap prog;have⟨W0,HW0,HK0,HG0,HZ0⟩:=tI w (gz vp 167);have⟨yr,hBl⟩:=B;go_enter func60,ntmps60;go_wp21;refine(o9 bm bB bD 90 false _).mono ?_;rintro e w1 ⟨⟨H,rfl,h⟩,l⟩;have⟨f1,a1,l1,hv1⟩:=h.func (by simp);subst hv1;have q:=fM h;have A:Kept [] w w1:=(HW0▸HK0).trans l;have d:=l.at (HW0▸HG0) (by simp);have HS:=fM (jz (v0:= .func (.func 88) #[] #[]) (v1:= .nilFunc) (v2:= .func f1 a1 l1) (v3:= .func (.func 91) #[iq bB] #[]) (v4:= .nilFunc) (v5:= .map none) (v6:= .map none) (v7:= .nilFunc) (v8:= .nilFunc) (v9:= .func (.func 92) #[iq bB] #[])
  (sp:={blank:= .nothing,gM:= .gM 90 false,iE:= .hH 91,ik:= .hH 92}) d A ⟨rfl,rfl,q,rfl,rfl,rfl,rfl,rfl,rfl,rfl⟩ _ rfl)
 clear h;have⟨q0,q1,q2,q3,q4,q5,q6,q7,q8,q9⟩:=kH d;have u:=gh d;go_wp2;exact kN results60 rfl rfl HS
structure St (bm bB bD:Nat) (w cw:gm) (rs:List (Ru×gG)) (ms:List (Nat×List (List fY×Ru))):Prop where
 k:Kept [] w cw
 g:cw.heap[w.heap.size]?=some (gz vp 167)
 t:yq cw
 lt:bm < w.heap.size
 hrs:∀p∈rs,n4 bm bB bD p.1 p.2 cw
 FU:∀p∈ms,IsMap bm bB bD p.1 p.2 (.map (some p.1)) cw/\w.heap.size<=p.1/\p.1≠bm
 nd:(ms.map (·.1)).Nodup
def St.start (bm bB bD:Nat) (w:gm) (l:yq w) (d:bm < w.heap.size):∃W,W=w.alloc (gz vp 167)/\St bm bB bD w W [] []:=
 ⟨_,rfl,(Kept.refl _ _).alloc _,fP w _,l.fr (bm:=bm) (.gN ((Kept.refl _ _).alloc _)),d,(λ_ h=>(by cases h)),(λ_ h=>(by cases h)),(by simp)⟩
def St.AV (s:St bm bB bD w cw rs ms) (h:Kept [] cw cw'):St bm bB bD w cw' rs ms:=
 have f:xk bm cw cw':= .gN h
 ⟨s.k.trans h,h.at s.g (by simp),s.t.fr f,s.lt,λp d=>(s.hrs p d).fr f,λp d=>⟨(s.FU p d).1.fr f (h.block _ (s.FU p d).1.lt (by simp)),(s.FU p d).2⟩,s.nd⟩
def St.call {r : Ru} (s:St bm bB bD w cw rs ms) (l:Kept [] cw cw') (q:n4 bm bB bD r v cw'):St bm bB bD w cw' ((r,v)::rs) ms:=
 have d:=s.AV l
 ⟨d.k,d.g,d.t,d.lt,λp h=>by
  rcases List.mem_cons.1 h with rfl|h
  .exact q
  .exact d.hrs p h,d.FU,d.nd⟩
def St.map (s:St bm bB bD w cw rs ms):∃W b,W=cw.alloc (.map #[] 0)/\b=cw.heap.size/\St bm bB bD w W rs ((b,[])::ms):=by
 have l:Kept [] cw (cw.alloc (.map #[] 0)):=(Kept.refl _ _).alloc _;have d:=s.AV l;refine⟨_,_,rfl,rfl,d.k,d.g,d.t,d.lt,d.hrs,λp h=>?_,?_⟩
 .rcases List.mem_cons.1 h with rfl|h
  .exact⟨Xt bm bB bD cw,s.k.size,by have:=s.k.size;have:=s.lt;omega⟩
  .exact d.FU p h
 .rw[yH,Wp];refine⟨λq=>?_,s.nd⟩;have⟨p,h,e⟩:=List.mem_map.1 q;have:=(s.FU p h).1.lt;omega
theorem St.on {D : List (List fY×Ru)} (s:St bm bB bD w cw rs ((b,R)::ms)) (A:Kept [b] cw cw') (q:xk bm cw cw') (H:IsMap bm bB bD b D (.map (some b)) cw'):St bm bB bD w cw' rs ((b,D)::ms):=by
 have F:=s.FU (b,R) (by simp);have B:=s.nd;rw[yH,Wp]at B;refine⟨s.k.next A (λx I=> .inr (by grind)),A.at s.g ?_,s.t.fr q,s.lt,λp h=>(s.hrs p h).fr q,λp h=>?_,s.nd⟩
 .intro d;have e:=List.mem_singleton.1 d;have⟨es,ck,ha⟩:=F.1.at;have G:=s.g;grind
 .rcases List.mem_cons.1 h with rfl|h
  .grind
  .have l:=s.FU p (nc _ h);refine⟨l.1.fr q (A.block _ l.1.lt λd=>?_),l.2⟩;grind
def St.at (s:St bm bB bD w cw rs ms) {r : Ru} (h:(r,v)∈rs):n4 bm bB bD r v cw:=s.hrs (r,v) h
def St.pB (s:St bm bB bD w cw rs ms) (h:(b,R)∈ms):sn bm bB bD (some R) (.map (some b)) cw:=⟨b,(s.FU (b,R) h).1⟩
def St.ob (S:St bm bB bD w cw rs ((b,R)::ms)) (s:fY) (ks:List fY) (r:Ru) (D:qx s=true) (d:words s=ks) (F:n4 bm bB bD r v cw):
  Calls prog 93 #[.map (some b),gu s,v] cw λe w'=>e=ig (.map (some b))/\St bm bB bD w w' rs ((b,(ks,r)::R)::ms):=by
 have h:=S.FU (b,R) (kK ..);refine(Vy bm bB bD b s ks r R v cw D d S.t h.1 h.2.2 F).mono ?_;rintro e w' ⟨l,q,A,B⟩;exact⟨l,S.on A B q⟩
def St.made (S:St bm bB bD w cw rs ms) {f : Nat} {r : Ru} (C:Calls prog f args cw (Ao bm bB bD r cw)) (q:r≠ .nil):
  Calls prog f args cw λe w'=>∃f a l,e=ig (.func f a l)/\St bm bB bD w w' ((r,.func f a l)::rs) ms:=by
 refine C.mono ?_;rintro e w' ⟨⟨x,rfl,d⟩,h⟩;obtain⟨f,a,l,rfl⟩:=d.func q;exact⟨f,a,l,rfl,S.call h d⟩
def St.YE (S:St bm bB bD w cw rs ms) {f : Nat} (C:Calls prog f args cw λe w'=>(∃v,e=ig v/\Ask bm v p w')/\Kept [] cw w'):
  Calls prog f args cw λe w'=>∃f a l,e=ig (.func f a l)/\Ask bm (.func f a l) p w'/\St bm bB bD w w' rs ms:=by
 refine C.mono ?_;rintro e w' ⟨⟨x,rfl,d⟩,h⟩;obtain⟨f,a,l,rfl⟩:=d.func;exact⟨f,a,l,rfl,d,S.AV h⟩
theorem Ce (bm:Nat) (w:gm):Calls prog 119 #[] w λe w'=>(∃v,e=ig v/\Ask bm v (gZ [fQ]) w')/\Kept [] w w':=by
 have⟨W,hW,HK,g,z⟩:=tI w (gz #[gu fQ] 9);have C:=Pm bm w.heap.size 1 [fQ] W g (by decide);have q:=fM hW;clear hW;go_enter func119,ntmps119;go_wp21;rw[<-q.out];refine C.mono ?_;rintro e w' ⟨⟨v,rfl,d⟩,A⟩;have B:=d;have h:=HK.trans A;have⟨f,a,l,hv⟩:=d.func;subst hv;go_wp2;go_ret;simp_all
theorem Ay (bm:Nat) (w:gm):Calls prog 131 #[] w λe w'=>(∃v,e=ig v/\Ask bm v (gZ [fW,fX,fZ]) w')/\Kept [] w w':=by
 have⟨W,hW,HK,g,z⟩:=tI w (gz #[gu fW,gu fX,gu fZ] 9);have C:=Pm bm w.heap.size 3 [fW,fX,fZ] W g (by decide);have q:=fM hW;clear hW;go_enter func131,ntmps131;go_wp21;rw[<-q.out];refine C.mono ?_;rintro e w' ⟨⟨v,rfl,d⟩,A⟩;have B:=d;have h:=HK.trans A;have⟨f,a,l,hv⟩:=d.func;subst hv;go_wp2;go_ret;simp_all
def nU (d:Nat) (own:Bool):lE:={blank:= .pO 6,gM:= .gM d own,iE:= .nothing,ie:= .nothing,start:=some [([fO],(.pO 6))],ik:= .hH 238}
def Tl (bm bB bD h l:Nat) (own:Bool) (w:gm) (d:l=if own then bB else bD):Calls prog 89 #[iq bB,.func (.func h) #[iq l] #[]] w (Ao bm bB bD (.gM h own) w):=by
 rw[d];exact o9 bm bB bD h own w
def Fo (bm bB bD q J:Nat) (own:Bool) (l:J=if own then bB else bD) (w:gm) (W:BD bB bD w) (Z:yq w) (I:bm < w.heap.size):
  Calls prog 144 #[iq bB,.func (.func q) #[iq J] #[]] w (jN bm bB bD (nU q own) w):=by
 have Y:=@run_makeMap prog;have B:=fM l;clear l;have⟨W0,hW0,HS0⟩:=St.start bm bB bD w Z I;have⟨yr,hBl⟩:=W;have G:=fM hW0;clear hW0;go_enter func144,ntmps144;go_wp21;rw[<-G.out];refine(HS0.made (p5 bm bB bD 6 _) nofun).mono ?_;rintro e W1 ⟨U,N,l1,rfl,D⟩;go_wp21;refine(D.made (Tl bm bB bD q J own _ B) nofun).mono ?_;rintro e W2 ⟨V,O,l2,rfl,F⟩;have⟨W3,b1,hW3,hb1,HS3⟩:=F.map;have H:=fM hW3;have A:=fM hb1;clear hW3 hb1;go_wp21;rw[<-H.out,<-A.out];refine(HS3.made (p5 bm bB bD 6 _) nofun).mono ?_;rintro e W4 ⟨f4,a4,l4,rfl,h⟩;go_wp21;refine(h.ob _ [fO] (.pO 6) (by rfl) (by rfl) (h.at (by simp))).mono ?_;rintro e W5 ⟨rfl,d⟩;have K:=jz (sp:=nU q own) (v0:= .func U N l1) (v1:= .nilFunc) (v2:= .func V O l2) (v3:= .func (.func 88) #[] #[]) (v4:= .func (.func 88) #[] #[]) (v5:= .map (some b1)) (v6:= .map none) (v7:= .nilFunc) (v8:= .nilFunc) (v9:= .func (.func 238) #[iq bB] #[]) d.g d.k ⟨(d.at (r:= .pO 6) (by simp)),rfl,(d.at (r:= .gM q own) (by simp)),rfl,rfl,(d.pB (by simp)),rfl,rfl,rfl,rfl⟩ _ rfl;have⟨q0,q1,q2,q3,q4,q5,q6,q7,q8,q9⟩:=kH d.g;have u:=gh d.g;go_wp2;exact kN results144 rfl rfl K
def GV {F : Nat} {own : Bool} (h:kX bm bB bD (nU F own) v0 v1 v2 v3 v4 v5 v6 v7 v8 v9 w):∃q d B A l D b5,v0= .func q d B/\v1= .nilFunc/\v2= .func A l D/\v3= .func (.func 88) #[] #[]/\v4= .func (.func 88) #[] #[]/\v5= .map (some b5)/\v6= .map none/\v7= .nilFunc/\v8= .nilFunc/\v9= .func (.func 238) #[iq bB] #[]:=by
 have⟨q,d,B,e0⟩:=h.blank.func (by simp[nU]);have⟨A,l,D,e2⟩:=h.gM.func (by simp[nU]);have⟨b5,L,e5,_⟩:=h.start;exact⟨q,d,B,A,l,D,b5,e0,h.kg,e2,h.iE,h.ie,e5,h.stop,h.jP,h.j8,h.ik⟩
def Gu (bm bB bD:Nat) (w:gm) (q:BD bB bD w) (G:yq w) (l:bm < w.heap.size):
  Calls prog 77 #[iq bB] w (jN bm bB bD (nU 90 false) w):=by
 have⟨W0,hW0,HS0⟩:=St.start bm bB bD w G l;have B:=q;have⟨yr,hBl⟩:=q;have h:=fM hW0;clear hW0;go_enter func77,ntmps77;go_wp21;rw[<-h.out];refine(Fo bm bB bD 90 bD false rfl _ (B.ib HS0.k) HS0.t (lU HS0.lt HS0.k.size)).mono ?_;rintro e H ⟨v0,v1,v2,v3,v4,v5,v6,v7,v8,v9,rfl,A,F⟩;obtain⟨K,I,O,N,J,U,b5,rfl,rfl,rfl,rfl,rfl,rfl,rfl,rfl,rfl,rfl⟩:=GV A;have d:=HS0.AV F;have D:=jz d.g d.k A _ rfl;have⟨q0,q1,q2,q3,q4,q5,q6,q7,q8,q9⟩:=kH d.g;have u:=gh d.g;go_wp2;exact kN results77 rfl rfl D
structure D5 (bm bB bD:Nat) (w cw:gm) (rs:List (Ru×gG)) (ms:List (Nat×List (List fY×Ru))):Prop where
 k:Kept [] w cw
 t:yq cw
 lt:bm < w.heap.size
 hrs:∀p∈rs,n4 bm bB bD p.1 p.2 cw
 FU:∀p∈ms,IsMap bm bB bD p.1 p.2 (.map (some p.1)) cw/\w.heap.size<=p.1/\p.1≠bm
 nd:(ms.map (·.1)).Nodup
def D5.start (bm bB bD:Nat) (w:gm) (l:yq w) (d:bm < w.heap.size):D5 bm bB bD w w [] []:=
 ⟨Kept.refl _ _,l,d,(λ_ h=>(by cases h)),(λ_ h=>(by cases h)),(by simp)⟩
def D5.AV (s:D5 bm bB bD w cw rs ms) (h:Kept [] cw cw'):D5 bm bB bD w cw' rs ms:=
 have f:xk bm cw cw':= .gN h
 ⟨s.k.trans h,s.t.fr f,s.lt,λp d=>(s.hrs p d).fr f,λp d=>⟨(s.FU p d).1.fr f (h.block _ (s.FU p d).1.lt (by simp)),(s.FU p d).2⟩,s.nd⟩
def D5.call {r : Ru} (s:D5 bm bB bD w cw rs ms) (l:Kept [] cw cw') (q:n4 bm bB bD r v cw'):D5 bm bB bD w cw' ((r,v)::rs) ms:=
 have d:=s.AV l
 ⟨d.k,d.t,d.lt,λp h=>by
  rcases List.mem_cons.1 h with rfl|h
  .exact q
  .exact d.hrs p h,d.FU,d.nd⟩
def D5.map (s:D5 bm bB bD w cw rs ms):∃W b,W=cw.alloc (.map #[] 0)/\b=cw.heap.size/\D5 bm bB bD w W rs ((b,[])::ms):=by
 have l:Kept [] cw (cw.alloc (.map #[] 0)):=(Kept.refl _ _).alloc _;have h:=s.AV l;refine⟨_,_,rfl,rfl,h.k,h.t,h.lt,h.hrs,λp d=>?_,?_⟩
 .rcases List.mem_cons.1 d with rfl|d
  .exact⟨Xt bm bB bD cw,s.k.size,by have:=s.k.size;have:=s.lt;omega⟩
  .exact h.FU p d
 .rw[yH,Wp];refine⟨λq=>?_,s.nd⟩;have⟨p,d,e⟩:=List.mem_map.1 q;have:=(s.FU p d).1.lt;omega
theorem D5.on {A : List (List fY×Ru)} (s:D5 bm bB bD w cw rs ((b,R)::ms)) (B:Kept [b] cw cw') (l:xk bm cw cw') (G:IsMap bm bB bD b A (.map (some b)) cw'):D5 bm bB bD w cw' rs ((b,A)::ms):=by
 have F:=s.FU (b,R) (by simp);have q:=s.nd;rw[yH,Wp]at q;refine⟨s.k.next B (λx H=> .inr (by grind)),s.t.fr l,s.lt,λp d=>(s.hrs p d).fr l,λp d=>?_,s.nd⟩;rcases List.mem_cons.1 d with rfl|d
 .grind
 .have h:=s.FU p (nc _ d);refine⟨h.1.fr l (B.block _ h.1.lt λD=>?_),h.2⟩;grind
def D5.at (s:D5 bm bB bD w cw rs ms) {r : Ru} (h:(r,v)∈rs):n4 bm bB bD r v cw:=s.hrs (r,v) h
def QJ (bm bB bD:Nat) (R:List (List fY×Ru)) (w:gm) (e:Ending) (w':gm):Prop:=∃b,e=ig (.map (some b))/\IsMap bm bB bD b R (.map (some b)) w'/\w.heap.size<=b/\b≠bm/\Kept [] w w'
def St.mapOf (s:St bm bB bD w cw rs ms) (B:Kept [] cw cw') (D:IsMap bm bB bD b R (.map (some b)) cw') (A:cw.heap.size<=b) (q:b≠bm):St bm bB bD w cw' rs ((b,R)::ms):=by
 have d:=s.AV B;refine⟨d.k,d.g,d.t,d.lt,d.hrs,λp l=>?_,?_⟩
 .rcases List.mem_cons.1 l with rfl|l
  .exact⟨D,jH s.k.size A,q⟩
  .exact d.FU p l
 .rw[yH,Wp];refine⟨λh=>?_,s.nd⟩;have⟨p,l,e⟩:=List.mem_map.1 h;have:=(s.FU p l).1.lt;omega
def D5.ob (S:D5 bm bB bD w cw rs ((b,R)::ms)) (s:fY) (ks:List fY) (r:Ru) (D:qx s=true) (d:words s=ks) (F:n4 bm bB bD r v cw):
  Calls prog 93 #[.map (some b),gu s,v] cw λe w'=>e=ig (.map (some b))/\D5 bm bB bD w w' rs ((b,(ks,r)::R)::ms):=by
 have h:=S.FU (b,R) (kK ..);refine(Vy bm bB bD b s ks r R v cw D d S.t h.1 h.2.2 F).mono ?_;rintro e w' ⟨l,q,A,B⟩;exact⟨l,S.on A B q⟩
def D5.made (S:D5 bm bB bD w cw rs ms) {f : Nat} {r : Ru} (C:Calls prog f args cw (Ao bm bB bD r cw)) (q:r≠ .nil):
  Calls prog f args cw λe w'=>∃f a l,e=ig (.func f a l)/\D5 bm bB bD w w' ((r,.func f a l)::rs) ms:=by
 refine C.mono ?_;rintro e w' ⟨⟨x,rfl,d⟩,h⟩;obtain⟨f,a,l,rfl⟩:=d.func q;exact⟨f,a,l,rfl,S.call h d⟩
def my:List (List fY×Ru):=[([gP],(.hH 209)),([uz,Iz,BL,iA],(.hH 208)),([iH],(.hH 207)),([jS],(.hH 206)),([nf],(.hH 205)),([kV],(.hH 204)),([mG,mH],(.hH 203)),([jR,pc,ry,ng,gU,lV,lW],(.hH 202)),([fO],(.hH 201)),([gr],(.hH 200))]
def IJ (bm bB bD:Nat) (w:gm) (W:yq w) (N:bm < w.heap.size):
  Calls prog 114 #[iq bB] w (QJ bm bB bD my w):=by
 have V:=@run_makeMap prog;have q:=D5.start bm bB bD w W N;go_enter func114,ntmps114;have⟨W1,b1,hW1,hb1,HS1⟩:=q.map;have K:=fM hW1;have l:=fM hb1;clear hW1 hb1;go_wp21;rw[<-K.out,<-l.out];refine(HS1.ob _ [gr] (.hH 200) (by rfl) (by rfl) rfl).mono ?_;rintro e Y ⟨rfl,A⟩;go_wp21;refine(A.ob _ [fO] (.hH 201) (by rfl) (by rfl) rfl).mono ?_;rintro e Z ⟨rfl,B⟩;go_wp21;refine(B.ob _ [jR,pc,ry,ng,gU,lV,lW] (.hH 202) (by rfl) (by rfl) rfl).mono ?_;rintro e W4 ⟨rfl,D⟩;go_wp21;refine(D.ob _ [mG,mH] (.hH 203) (by rfl) (by rfl) rfl).mono ?_;rintro e W5 ⟨rfl,F⟩;go_wp21;refine(F.ob _ [kV] (.hH 204) (by rfl) (by rfl) rfl).mono ?_;rintro e W6 ⟨rfl,G⟩;go_wp21;refine(G.ob _ [nf] (.hH 205) (by rfl) (by rfl) rfl).mono ?_;rintro e W7 ⟨rfl,H⟩;go_wp21;refine(H.ob _ [jS] (.hH 206) (by rfl) (by rfl) rfl).mono ?_;rintro e W8 ⟨rfl,I⟩;go_wp21;refine(I.ob _ [iH] (.hH 207) (by rfl) (by rfl) rfl).mono ?_;rintro e W9 ⟨rfl,J⟩;go_wp21;refine(J.ob _ [uz,Iz,BL,iA] (.hH 208) (by rfl) (by rfl) rfl).mono ?_;rintro e O ⟨rfl,h⟩;go_wp21;refine(h.ob _ [gP] (.hH 209) (by rfl) (by rfl) rfl).mono ?_;rintro e U ⟨rfl,d⟩;go_wp2;go_ret;exact⟨b1,rfl,(d.FU (b1,[([gP],(.hH 209)),([uz,Iz,BL,iA],(.hH 208)),([iH],(.hH 207)),([jS],(.hH 206)),([nf],(.hH 205)),([kV],(.hH 204)),([mG,mH],(.hH 203)),([jR,pc,ry,ng,gU,lV,lW],(.hH 202)),([fO],(.hH 201)),([gr],(.hH 200))]) (by simp)).1,(d.FU (b1,[([gP],(.hH 209)),([uz,Iz,BL,iA],(.hH 208)),([iH],(.hH 207)),([jS],(.hH 206)),([nf],(.hH 205)),([kV],(.hH 204)),([mG,mH],(.hH 203)),([jR,pc,ry,ng,gU,lV,lW],(.hH 202)),([fO],(.hH 201)),([gr],(.hH 200))]) (by simp)).2.1,(d.FU (b1,[([gP],(.hH 209)),([uz,Iz,BL,iA],(.hH 208)),([iH],(.hH 207)),([jS],(.hH 206)),([nf],(.hH 205)),([kV],(.hH 204)),([mG,mH],(.hH 203)),([jR,pc,ry,ng,gU,lV,lW],(.hH 202)),([fO],(.hH 201)),([gr],(.hH 200))]) (by simp)).2.2,d.k⟩
def wS:lE:={nU 145 true with stop:=some [([fO],.hH 146)]}
theorem SY (bm bB bD:Nat) (w:gm) (hb:BD bB bD w) (ht:yq w) (H:bm < w.heap.size):
  Calls prog 76 #[iq bB] w (jN bm bB bD wS w):=by
 have a5:=@run_makeMap prog;have⟨W0,hW0,HS0⟩:=St.start bm bB bD w ht H;have HB:=hb;have N:=fM hW0;clear hW0 ht H hb;go_enter func76,ntmps76;go_wp21;rw[<-N.out];refine(Fo bm bB bD 145 bB true rfl _ (HB.ib HS0.k) HS0.t (lU HS0.lt HS0.k.size)).mono ?_;rintro e h ⟨v0,v1,v2,v3,v4,v5,v6,v7,v8,v9,rfl,hr,hk⟩;obtain⟨Z,W,l0,f2,Y,l2,b5,rfl,rfl,rfl,rfl,rfl,rfl,rfl,rfl,rfl,rfl⟩:=GV hr;have G:=HS0.AV hk;have F:=fM hr;clear hr hk;have⟨W2,hW2,K2,g2,z2⟩:=tI h (gz #[.func Z W l0,.nilFunc,.func f2 Y l2,.func (.func 88) #[] #[],.func (.func 88) #[] #[],.map (some b5),.map none,.nilFunc,.nilFunc,.func (.func 238) #[iq bB] #[]] 167);have S2:=G.AV K2;have⟨W3,b1,hW3,hb1,HS3⟩:=S2.map;have V:Kept [] W2 W3:=by rw[hW3];exact(Kept.refl _ _).alloc _
 have I:=fM (show h.heap.size+1=b1 by omega);have J:=V.at g2 (by simp);have l:=F.ib (K2.trans V);have a1:=(show h.heap.size < b1 by omega);have a3:=(show b5 < b1 by
  have⟨b5',hm5⟩:=F.start;have e:b5=b5':=by have⟨L,e,_⟩:=hm5;simpa using e
  have:=hm5.lt;omega)
 have O:=fM hW2;have U:=fM hW3;clear hW2 K2 g2 z2 S2 hW3 hb1 V;go_wp21;rw[<-O.out,<-U.out,I.out];refine(Vy bm bB bD b1 _ [fO] (.hH 146) [] _ _ (by rfl) (by rfl) HS3.t (HS3.FU (b1,[]) (by simp)).1 (HS3.FU (b1,[]) (by simp)).2.2 rfl).mono ?_;rintro e W4 ⟨rfl,D,B,d⟩;have A:=HS3.on B d D;have q:=B.at J (by grind);have K:Hid (kX bm bB bD wS (.func Z W l0) .nilFunc (.func f2 Y l2) (.func (.func 88) #[] #[]) (.func (.func 88) #[] #[]) (.map (some b5)) (.map (some b1)) .nilFunc .nilFunc (.func (.func 238) #[iq bB] #[]) W4):=by
  refine fM ⟨l.blank.fr d,l.kg.fr d,l.gM.fr d,l.iE.fr d,l.ie.fr d,?_,⟨b1,D⟩,l.jP.fr d,l.j8.fr d,l.ik.fr d⟩;have⟨b5',hm5⟩:=l.start;have e:b5=b5':=by have⟨L,e,_⟩:=hm5;simpa using e
  subst e;exact⟨b5,hm5.fr d (B.block b5 hm5.lt (by grind))⟩
 have a4:w.heap.size < h.heap.size:=iQ G.g;have HF:=jz (w1:=W4.setCell ⟨h.heap.size,6,none⟩ (.map (some b1))) ((Below.heap_setCell W4 ⟨h.heap.size,6,none⟩ _ w.heap.size (by grind)).trans A.g) (A.k.setCell (p:=⟨h.heap.size,6,none⟩) (.inr (by grind)) _) (K.KD ((Kept.refl [h.heap.size] W4).setCell (p:=⟨h.heap.size,6,none⟩) (.inl (by simp)) _) q) _ rfl;have a6:w.heap.size≠h.heap.size:=by omega
 clear D B d;have c0:W4.cell? ⟨h.heap.size,0,none⟩=some (.func Z W l0):=(fN q 0).trans rfl;have c1:W4.cell? ⟨h.heap.size,1,none⟩=some .nilFunc:=(fN q 1).trans rfl;have c2:W4.cell? ⟨h.heap.size,2,none⟩=some (.func f2 Y l2):=(fN q 2).trans rfl;have c3:W4.cell? ⟨h.heap.size,3,none⟩=some (.func (.func 88) #[] #[]):=(fN q 3).trans rfl;have c4:W4.cell? ⟨h.heap.size,4,none⟩=some (.func (.func 88) #[] #[]):=(fN q 4).trans rfl;have c5:W4.cell? ⟨h.heap.size,5,none⟩=some (.map (some b5)):=(fN q 5).trans rfl;have c6:W4.cell? ⟨h.heap.size,6,none⟩=some (.map none):=(fN q 6).trans rfl;have c7:W4.cell? ⟨h.heap.size,7,none⟩=some .nilFunc:=(fN q 7).trans rfl;have c8:W4.cell? ⟨h.heap.size,8,none⟩=some .nilFunc:=(fN q 8).trans rfl;have c9:W4.cell? ⟨h.heap.size,9,none⟩=some (.func (.func 238) #[iq bB] #[]):=(fN q 9).trans rfl;have d6:=gh q 6;clear q;have⟨q0,q1,q2,q3,q4,q5,q6,q7,q8,q9⟩:=kH A.g;have u:=gh A.g;go_wp2;exact kN results76 rfl rfl HF
def xY (bm:Nat) (v:gG) (p:fY->Bool) (X:Nat->Prop) (w:gm):Prop:=∃E,oB E v p w/\∀e∈E,yJ bm w e/\¬X e
theorem xY.ask (h:xY bm v p X w):Ask bm v p w:=by
 have⟨E,hA,hE⟩:=h;grind[Ask]
def xY.kept (h:xY bm v p X w) (l:Kept [] w w'):xY bm v p X w':=by
 have⟨E,hA,hE⟩:=h;exact⟨E,hA.ib l,λe d=>⟨(hE e d).1.fr (.gN l),(hE e d).2⟩⟩
def xY.other {l : Nat->Prop} (h:xY bm v p X w) (q:∀e,e < w.heap.size->l e->X e):xY bm v p l w:=by
 have⟨E,hA,hE⟩:=h;exact⟨E,hA,λe d=>⟨(hE e d).1,λA=>(hE e d).2 (q e (hA.lt e d) A)⟩⟩
def xY.of (h:Ask bm v p w) (l:∀e,e < w.heap.size->¬X e):xY bm v p X w:=by
 have⟨E,hA,hE⟩:=h;exact⟨E,hA,λe d=>⟨hE e d,l e (hA.lt e d)⟩⟩
theorem xY.set {bm k:Nat} {v:gG} {p:fY->Bool} {X:Nat->Prop} {w:gm} (h:xY bm v p X w) (A:X k) (u:gG):xY bm v p X (w.setCell ⟨k,0,none⟩ u):=by
 have⟨E,hA,hE⟩:=h;have l:∀e∈E,(w.setCell ⟨k,0,none⟩ u).heap[e]?=w.heap[e]?:=λe d=>Below.heap_setCell w ⟨k,0,none⟩ u e (λq=>(hE e d).2 (by grind));refine⟨E,hA.keeps l (by simp),λe d=>⟨?_,(hE e d).2⟩⟩;grind[yJ]
theorem Xl (bm g d:Nat) (h:List fY) (X:Nat->Prop) (w:gm) (G:w.heap[g]?=some (gz (h.map Value.string).toArray 9)) (l:h.length<=4096) (H:∀e,X e->e < w.heap.size/\e≠g):
  Calls prog 216 #[oo g h.length d] w λe w'=>(∃v,e=ig v/\xY bm v (gZ h) X w')/\Kept [] w w':=by
 refine(agA g d h.length w).mono ?_;rintro e w' ⟨rfl,rfl⟩;have F:Kept [] w (w.alloc (gz #[oo g h.length d] 199)):=(Kept.refl _ _).alloc _;have q:=fP w (gz #[oo g h.length d] 199);have A:=F.at G (by simp);refine⟨⟨_,rfl,_,abW _ g d h _ q A l,λe B=>?_⟩,F⟩;simp at B;rcases B with rfl|rfl
 .exact⟨.inr ⟨_,_,q,by decide⟩,λD=>by grind⟩
 .exact⟨.inr ⟨_,_,A,by decide⟩,λD=>(H _ D).2 rfl⟩
theorem aaX (bm:Nat) (v1 v2:gG) (p q:fY->Bool) (X:Nat->Prop) (w:gm) (D:xY bm v1 p X w) (F:xY bm v2 q X w) (G:∀e,X e->e < w.heap.size):
  Calls prog 271 #[v1,v2] w λe w'=>(∃v,e=ig v/\xY bm v (λs=>p s&&!q s) X w')/\Kept [] w w':=by
 have⟨E1,a1,c1⟩:=D;have⟨E2,a2,c2⟩:=F;refine(aaY E1 E2 v1 v2 p q w a1 a2).mono ?_;rintro e w' ⟨⟨v,rfl,B,l,A⟩,h⟩;refine⟨⟨v,rfl,_,B,λe d=>⟨NT (.inr ⟨_,_,l,by decide⟩) (.inr ⟨_,_,A,by decide⟩) (λe d=>(c1 e d).1.fr (.gN h)) (λe d=>(c2 e d).1.fr (.gN h)) e d,λH=>?_⟩⟩,h⟩;grind
def XX (s5 s6:gG) (e:Nat):Prop:=iq e=s5\/iq e=s6
abbrev aem:List fY:=[jR,nf]
abbrev aia:fY->Bool:=λs=>ly s&&!gZ aem s
structure QH (bm bB:Nat) (ks:List fY) (sl u:gG) (w1:gm) (b0 b1 b2 b3 b4 b5 b6 b7 b8 b9 b10 b11 b12:Bool) (s5 s6 s7 s8 s9 s10 s11 s12 s13 s14 s15:gG) (w:gm):Prop where
 k:Kept [] w1 w
 f0:b0=true->s7=sl
 f1:b1=true->xY bm s8 (gZ ks) (XX s5 s6) w
 f2:b2=true->s9=iq bB
 f3:b3=true->s10=iq bB
 f4:b4=true->s11=jG bB 184
 f5:b5=true->s12=u
 f6:b6=true->∃g,s13=oo g 2 2/\w.heap[g]?=some (gz #[gu jR,gu nf] 9)
 f7:b7=true->xY bm s14 (gZ aem) (XX s5 s6) w
 f8:b8=true->xY bm s15 aia (XX s5 s6) w
 f9:if b9 then ∃k,s5=iq k/\w1.heap.size<=k/\box w k (if b11 then s8 else .nilFunc) 84 else s5=undef
 f10:if b10 then ∃k,s6=iq k/\w1.heap.size<=k/\box w k (if b12 then s15 else .nilFunc) 84 else s6=undef
 ne:b9=true->b10=true->s5≠s6
 d11:b11=true->b1=true/\b9=true
 d12:b12=true->b8=true/\b10=true
section
variable {bm bB:Nat} {ks:List fY} {sl u:gG} {w1:gm} {b0 b1 b2 b3 b4 b5 b6 b7 b8 b9 b10 b11 b12:Bool} {s5 s6 s7 s8 s9 s10 s11 s12 s13 s14 s15:gG} {w w':gm}
theorem XX.lt (h:QH bm bB ks sl u w1 b0 b1 b2 b3 b4 b5 b6 b7 b8 b9 b10 b11 b12 s5 s6 s7 s8 s9 s10 s11 s12 s13 s14 s15 w) {e:Nat} (d:XX s5 s6 e):w1.heap.size<=e/\∃v,box w e v 84:=by
 rcases d with d|d
 .have:=h.f9;cases b9 with
  |false=>rw[this]at d;simp[undef]at d
  |true=>grind
 .have:=h.f10;cases b10 with
  |false=>rw[this]at d;simp[undef]at d
  |true=>grind
theorem QH.go (h:QH bm bB ks sl u w1 b0 b1 b2 b3 b4 b5 b6 b7 b8 b9 b10 b11 b12 s5 s6 s7 s8 s9 s10 s11 s12 s13 s14 s15 w) (d:Kept [] w w'):QH bm bB ks sl u w1 b0 b1 b2 b3 b4 b5 b6 b7 b8 b9 b10 b11 b12 s5 s6 s7 s8 s9 s10 s11 s12 s13 s14 s15 w':=by
 refine⟨h.k.trans d,h.f0,λq=>(h.f1 q).kept d,h.f2,h.f3,h.f4,h.f5,λq=>?_,λq=>(h.f7 q).kept d,λq=>(h.f8 q).kept d,?_,?_,h.ne,h.d11,h.d12⟩
 .have⟨g,e,hg⟩:=h.f6 q;exact⟨g,e,d.at hg (by simp)⟩
 .have:=h.f9;cases b9 with
  |false=>grind
  |true=>have⟨k,e,h1,h2⟩:=this;exact⟨k,e,h1,d.at h2 (by simp)⟩
 .have:=h.f10;cases b10 with
  |false=>grind
  |true=>have⟨k,e,h1,h2⟩:=this;exact⟨k,e,h1,d.at h2 (by simp)⟩
end
theorem afA (bm bB bD g H:Nat) (ks:List fY) (u:gG) (w:gm) (hB:bB < w.heap.size) (hu:w.cell? ⟨bB,184,none⟩=some u) (hA:Ask bm u ly w) (h2:w.heap[g]?=some (gz (ks.map Value.string).toArray 9)) (ae:ks.length<=4096):
  Calls prog 189 #[iq bB,oo g ks.length H] w (Ao bm bB bD (.item ks) w):=by
 obtain⟨uf,ua,ul,rfl⟩:=hA.func;have⟨w1,hw1,HK,HG,HZ⟩:=tI w (gz #[iq bB] 116);have HU:=hu;have HB:=hB;have a4:=fM hA;have H2:=h2;have a6:=ae;have HW:=fM hw1;clear hA hw1;go_enter func189,ntmps189;go_wp21;refine vR (by rfl) ?_;change wpAny _ _ _ _ _ _ _ (World.drew _);rw[<-HW.out];refine zp (I:=λA a W=>∃b0 b1 b2 b3 b4 b5 b6 b7 b8 b9 b10 b11 b12 s5 s6 s7 s8 s9 s10 s11 s12 s13 s14 s15,A=#[b0,b1,b2,b3,b4,b5,b6,b7,b8,b9,b10,b11,b12]/\a=⟨#[iq bB,oo g ks.length H,gE w.heap.size,undef,.nilFunc,s5,s6,s7,s8,s9,s10,s11,s12,s13,s14,s15,undef],[]⟩/\QH bm bB ks (oo g ks.length H) (.func uf ua ul) w1 b0 b1 b2 b3 b4 b5 b6 b7 b8 b9 b10 b11 b12 s5 s6 s7 s8 s9 s10 s11 s12 s13 s14 s15 W) ?_ ?_ _ _ _ _ ?_ ?_
 .rintro A a W i ⟨b0,b1,b2,b3,b4,b5,b6,b7,b8,b9,b10,b11,b12,s5,s6,s7,s8,s9,s10,s11,s12,s13,s14,s15,rfl,rfl,d⟩ hi;simp only[Region.ready,LS,FR]at hi;have⟨a0,hc⟩:=hi;have a0:i < 13:=a0;obtain rfl|rfl|rfl|rfl|rfl|rfl|rfl|rfl|rfl|rfl|rfl|rfl|rfl:i=0\/i=1\/i=2\/i=3\/i=4\/i=5\/i=6\/i=7\/i=8\/i=9\/i=10\/i=11\/i=12:=by omega
  all_goals simp[Region.binds]at hc
  .refine jY rfl ?_;intro G h;go_simp;refine h _ _ ?_
   iterate 24 apply Exists.intro
   refine⟨rfl,rfl,?_⟩;exact⟨d.k,λ_=>rfl,d.f1,d.f2,d.f3,d.f4,d.f5,d.f6,d.f7,d.f8,d.f9,d.f10,d.ne,d.d11,d.d12⟩
  .refine jY rfl ?_;intro G h;have e7:=d.f0 hc.2;subst e7;have Y:b11=false:=by
    cases b11 with
    |false=>rfl
    |true=>have:=(d.d11 rfl).1;simp[hc.1]at this
   subst Y;have C:=(Xl bm g H ks (XX s5 s6) W ((HK.trans d.k).at H2 (by simp)) a6 (λe l=>by
    have⟨h1,v,h3⟩:=XX.lt d l;grind))
   go_simp;refine C.mono ?_;rintro e w' ⟨⟨v,rfl,K⟩,B⟩;have J:=d.go B;refine h _ _ ?_
   iterate 24 apply Exists.intro
   refine⟨rfl,rfl,?_⟩;exact⟨J.k,J.f0,λ_=>K,J.f2,J.f3,J.f4,J.f5,J.f6,J.f7,J.f8,J.f9,J.f10,J.ne,(λq=>by simp at q),J.d12⟩
  .refine jY rfl ?_;intro G h;have c0:W.cell? ⟨w.heap.size,0,none⟩=some (iq bB):=(fN (d.k.at HG (by simp)) 0).trans rfl;go_simp;refine h _ _ ?_
   iterate 24 apply Exists.intro
   refine⟨rfl,rfl,?_⟩;exact⟨d.k,d.f0,d.f1,λ_=>rfl,d.f3,d.f4,d.f5,d.f6,d.f7,d.f8,d.f9,d.f10,d.ne,d.d11,d.d12⟩
  .refine jY rfl ?_;intro G h;have e9:=d.f2 hc.2;subst e9;go_simp;refine h _ _ ?_
   iterate 24 apply Exists.intro
   refine⟨rfl,rfl,?_⟩;exact⟨d.k,d.f0,d.f1,d.f2,λ_=>rfl,d.f4,d.f5,d.f6,d.f7,d.f8,d.f9,d.f10,d.ne,d.d11,d.d12⟩
  .refine jY rfl ?_;intro G h;have a7:=d.f3 hc.2;subst a7;go_simp;refine h _ _ ?_
   iterate 24 apply Exists.intro
   refine⟨rfl,rfl,?_⟩;exact⟨d.k,d.f0,d.f1,d.f2,d.f3,λ_=>rfl,d.f5,d.f6,d.f7,d.f8,d.f9,d.f10,d.ne,d.d11,d.d12⟩
  .refine jY rfl ?_;intro G h;have a8:=d.f4 hc.2;subst a8;have c0:W.cell? ⟨bB,184,none⟩=some (.func uf ua ul):=((HK.trans d.k).cell (p:=⟨bB,184,none⟩) HB (by simp)).trans HU;go_simp;refine h _ _ ?_
   iterate 24 apply Exists.intro
   refine⟨rfl,rfl,?_⟩;exact⟨d.k,d.f0,d.f1,d.f2,d.f3,d.f4,λ_=>rfl,d.f6,d.f7,d.f8,d.f9,d.f10,d.ne,d.d11,d.d12⟩
  .refine jY rfl ?_;intro G h;go_simp;have B:Kept [] W (W.alloc (gz #[gu jR,gu nf] 9)):=(Kept.refl _ _).alloc _;have J:=d.go B;refine h _ _ ?_
   iterate 24 apply Exists.intro
   refine⟨rfl,rfl,?_⟩;exact⟨J.k,J.f0,J.f1,J.f2,J.f3,J.f4,J.f5,λ_=>⟨_,rfl,fP W _⟩,J.f7,J.f8,J.f9,J.f10,J.ne,J.d11,J.d12⟩
  .refine jY rfl ?_;intro G h;have⟨g3,e13,h13⟩:=d.f6 (by simp[hc]);subst e13;have C:=(Xl bm g3 2 aem (XX s5 s6) W h13 (by decide) (λe l=>by
    have⟨h1,v,h3⟩:=XX.lt d l;grind))
   go_simp;refine C.mono ?_;rintro e w' ⟨⟨v,rfl,K⟩,B⟩;have J:=d.go B;refine h _ _ ?_
   iterate 24 apply Exists.intro
   refine⟨rfl,rfl,?_⟩;exact⟨J.k,J.f0,J.f1,J.f2,J.f3,J.f4,J.f5,J.f6,λ_=>K,J.f8,J.f9,J.f10,J.ne,J.d11,J.d12⟩
  .refine jY rfl ?_;intro G h;have a9:=d.f5 (by simp[hc]);subst a9;have ab:=d.f7 (by simp[hc]);have Z:b12=false:=by
    cases b12 with
    |false=>rfl
    |true=>have:=(d.d12 rfl).1;simp[hc.1]at this
   subst Z;have ad:xY bm (.func uf ua ul) ly (XX s5 s6) W:=(xY.of (a4.fr (.gN HK)) (λe he l=>by have:=(XX.lt d l).1;omega)).kept d.k;have C:=(aaX bm (.func uf ua ul) s14 ly (gZ aem) (XX s5 s6) W ad ab (λe l=>by
    have⟨h1,v,h3⟩:=XX.lt d l;exact iQ h3))
   go_simp;refine C.mono ?_;rintro e w' ⟨⟨v,rfl,K⟩,B⟩;have J:=d.go B;refine h _ _ ?_
   iterate 24 apply Exists.intro
   refine⟨rfl,rfl,?_⟩;exact⟨J.k,J.f0,J.f1,J.f2,J.f3,J.f4,J.f5,J.f6,J.f7,λ_=>K,J.f9,J.f10,J.ne,J.d11,(λq=>by simp at q)⟩
  .refine jY rfl ?_;intro G h;have D:b11=false:=by
    cases b11 with
    |false=>rfl
    |true=>have:=(d.d11 rfl).2;simp[hc]at this
   subst D;have O:b9=false:=by simpa using hc
   subst O;have V:s5=undef:=d.f9;subst V;go_simp;have B:Kept [] W (W.alloc (gz #[.nilFunc] 84)):=(Kept.refl _ _).alloc _;have J:=d.go B;have N:∀e,e < W.heap.size->XX (iq W.heap.size) s6 e->XX undef s6 e:=λe he l=>by
    rcases l with l|l
    .simp at l<;>omega
    .exact .inr l
   refine h _ _ ?_
   iterate 24 apply Exists.intro
   refine⟨rfl,rfl,?_⟩;exact⟨J.k,J.f0,(λq=>((d.f1 q).other N).kept B),J.f2,J.f3,J.f4,J.f5,J.f6,(λq=>((d.f7 q).other N).kept B),(λq=>((d.f8 q).other N).kept B),⟨_,rfl,d.k.size,fP W _⟩,J.f10,(λ_ q=>by subst q;have⟨k,e1,h1,h3⟩:=d.f10;grind),(λq=>by simp at q),J.d12⟩
  .refine jY rfl ?_;intro G h;have D:b12=false:=by
    cases b12 with
    |false=>rfl
    |true=>have:=(d.d12 rfl).2;simp[hc]at this
   subst D;have O:b10=false:=by simpa using hc
   subst O;have V:s6=undef:=d.f10;subst V;go_simp;have B:Kept [] W (W.alloc (gz #[.nilFunc] 84)):=(Kept.refl _ _).alloc _;have J:=d.go B;have N:∀e,e < W.heap.size->XX s5 (iq W.heap.size) e->XX s5 undef e:=λe he l=>by
    rcases l with l|l
    .exact .inl l
    grind
   refine h _ _ ?_
   iterate 24 apply Exists.intro
   refine⟨rfl,rfl,?_⟩;exact⟨J.k,J.f0,(λq=>((d.f1 q).other N).kept B),J.f2,J.f3,J.f4,J.f5,J.f6,(λq=>((d.f7 q).other N).kept B),(λq=>((d.f8 q).other N).kept B),J.f9,⟨_,rfl,d.k.size,fP W _⟩,(λq _=>by subst q;have⟨k,e1,h1,h3⟩:=d.f9;grind),J.d11,(λq=>by simp at q)⟩
  .refine jY rfl ?_;intro G h;have D:b11=false:=by simp[hc]
   subst D;have O:b9=true:=by simp[hc]
   have U:b1=true:=by simp[hc]
   subst O U;have⟨k,V,h1,h3⟩:=d.f9;subst V;have⟨f,aa,ll,K⟩:=(d.f1 rfl).ask.func;subst K;have c0:W.cell? ⟨k,0,none⟩=some .nilFunc:=(fN h3 0).trans rfl;have c1:=gh h3 0;go_simp;have l:XX (iq k) s6 k:= .inl rfl;refine h _ _ ?_
   iterate 24 apply Exists.intro
   refine⟨rfl,rfl,?_⟩;refine⟨d.k.setCell (p:=⟨k,0,none⟩) (.inr h1) _,d.f0,(λq=>(d.f1 q).set l _),d.f2,d.f3,d.f4,d.f5,λq=>?_,(λq=>(d.f7 q).set l _),(λq=>(d.f8 q).set l _),⟨k,rfl,h1,(fR h3 0 _).trans rfl⟩,?_,d.ne,(λ_=>⟨rfl,rfl⟩),d.d12⟩
   .have⟨g3,e13,h13⟩:=d.f6 q;exact⟨g3,e13,(Below.heap_setCell W ⟨k,0,none⟩ _ g3 (yN h13 h3 (by decide))).trans h13⟩
   .have:=d.f10;split at this
    .rename_i hq;have⟨k2,e2,h4,h5⟩:=this;rw[gv hq];refine⟨k2,e2,h4,(Below.heap_setCell W ⟨k,0,none⟩ _ k2 (λq=>?_)).trans h5⟩;subst q;exact d.ne rfl hq e2.symm
    grind
  .refine jY rfl ?_;intro G h;have D:b12=false:=by simp[hc]
   subst D;have O:b10=true:=by simp[hc]
   have U:b8=true:=by simp[hc]
   subst O U;have⟨k,V,h1,h3⟩:=d.f10;subst V;have⟨f,aa,ll,K⟩:=(d.f8 rfl).ask.func;subst K;have c0:W.cell? ⟨k,0,none⟩=some .nilFunc:=(fN h3 0).trans rfl;have c1:=gh h3 0;go_simp;have l:XX s5 (iq k) k:= .inr rfl;refine h _ _ ?_
   iterate 24 apply Exists.intro
   refine⟨rfl,rfl,?_⟩;refine⟨d.k.setCell (p:=⟨k,0,none⟩) (.inr h1) _,d.f0,(λq=>(d.f1 q).set l _),d.f2,d.f3,d.f4,d.f5,λq=>?_,(λq=>(d.f7 q).set l _),(λq=>(d.f8 q).set l _),?_,⟨k,rfl,h1,(fR h3 0 _).trans rfl⟩,d.ne,d.d11,(λ_=>⟨rfl,rfl⟩)⟩
   .have⟨g3,e13,h13⟩:=d.f6 q;exact⟨g3,e13,(Below.heap_setCell W ⟨k,0,none⟩ _ g3 (yN h13 h3 (by decide))).trans h13⟩
   .have:=d.f9;split at this
    .rename_i hq;have⟨k2,e2,h4,h5⟩:=this;rw[gv hq];refine⟨k2,e2,h4,(Below.heap_setCell W ⟨k,0,none⟩ _ k2 (λq=>?_)).trans h5⟩;subst q;exact d.ne hq rfl e2
    grind
 .rintro A a W ⟨b0,b1,b2,b3,b4,b5,b6,b7,b8,b9,b10,b11,b12,s5,s6,s7,s8,s9,s10,s11,s12,s13,s14,s15,rfl,rfl,d⟩ F;simp only[Region.ready,Ud,FR]at F;have q0:=F 0 (by decide);simp[Region.binds]at q0;subst q0;have q1:=F 1 (by decide);simp[Region.binds]at q1;subst q1;have q2:=F 2 (by decide);simp[Region.binds]at q2;subst q2;have q3:=F 3 (by decide);simp[Region.binds]at q3;subst q3;have q4:=F 4 (by decide);simp[Region.binds]at q4;subst q4;have q5:=F 5 (by decide);simp[Region.binds]at q5;subst q5;have q6:=F 6 (by decide);simp[Region.binds]at q6;subst q6;have q7:=F 7 (by decide);simp[Region.binds]at q7;subst q7;have q8:=F 8 (by decide);simp[Region.binds]at q8;subst q8;have q9:=F 9 (by decide);simp[Region.binds]at q9;subst q9;have a1:=F 10 (by decide);simp[Region.binds]at a1;subst a1;have a2:=F 11 (by decide);simp[Region.binds]at a2;subst a2;have a3:=F 12 (by decide);simp[Region.binds]at a3;subst a3;have⟨k5,e5,h5,X5⟩:=d.f9;have⟨k6,e6,h6,X6⟩:=d.f10;subst e5 e6;have A1:=(d.f1 rfl).ask;have A2:=(d.f8 rfl).ask;have a5:=HK.trans d.k;have G2:=d.k.at HG (by simp);rename_i KK ac;refine ac _ _ ?_;go_wp2;go_ret;exact⟨⟨_,rfl,_,_,_,_,_,rfl,G2,X5,A1,X6,A2⟩,a5⟩
 .decide
 .exact⟨false,false,false,false,false,false,false,false,false,false,false,false,false,undef,undef,undef,undef,undef,undef,undef,undef,undef,undef,undef,rfl,rfl,(Kept.refl _ _).drew,by simp,by simp,by simp,by simp,by simp,by simp,by simp,by simp,by simp,rfl,rfl,by simp,by simp,by simp⟩
def BS (bm bB:Nat) (w:gm):Prop:=bB < w.heap.size/\∃u,w.cell? ⟨bB,184,none⟩=some u/\Ask bm u ly w
def BS.ib (h:BS bm bB w) (d:Kept [] w w'):BS bm bB w':=by
 have⟨h1,u,hu,hA⟩:=h;exact⟨lU h1 d.size,u,(d.cell (p:=⟨bB,184,none⟩) h1 (by simp)).trans hu,hA.fr (.gN d)⟩
def D5.top (s:D5 bm bB bD w cw rs ((b,R)::ms)):IsMap bm bB bD b R (.map (some b)) cw/\w.heap.size<=b/\b≠bm:=s.FU (b,R) (by simp)
def D5.slice (s:D5 bm bB bD w cw rs ms) (h:List fY) (d:jA) (l:(h.map Value.string).toArray=d):∃W g,W=cw.alloc (gz d 9)/\g=cw.heap.size/\W.heap[g]?=some (gz (h.map Value.string).toArray 9)/\D5 bm bB bD w W rs ms:=
 ⟨_,_,rfl,rfl,by rw[l];exact fP cw _,s.AV ((Kept.refl _ _).alloc _)⟩
def Tm (s:D5 bm bB bD w cw rs ms) (h:BS bm bB w) (g d:Nat) (ks:List fY) (q:cw.heap[g]?=some (gz (ks.map Value.string).toArray 9)) (l:ks.length<=4096):
  Calls prog 189 #[iq bB,oo g ks.length d] cw (Ao bm bB bD (.item ks) cw):=by
 have⟨h1,u,hu,hA⟩:=h.ib s.k;exact afA bm bB bD g d ks u cw h1 hu hA q l
def mB:List (List fY×Ru):=[([gP],(.hH 199)),([iA],(.hH 198)),([Iz,BL],(.hH 197)),([uz],(.hH 196)),([jS,pK,jc],(.hH 195)),([iW],(.hH 194)),([gF,fU],(.hH 193)),([jC],(.hH 192)),([fQ],(.hH 191)),([gU],(.hH 190)),([lV,lW],(.item [lV,lW])),([kV],(.item [kV])),([iH],(.hH 188)),([rA],(.hH 187)),([mG,mH],(.hH 186)),([ng],(.hH 185)),([jR,pc,ry,nf],(.hH 184)),([gJ,gp,ic,fS,fW,il,fX,im,fZ,gX],.nothing),([iS,jp,iK],(.pO 3)),([gr],(.hH 183)),([fO],(.hH 182))]
def Fc (bm bB bD:Nat) (w:gm) (ae:BS bm bB w) (ht:yq w) (ad:bm < w.heap.size):
  Calls prog 112 #[iq bB] w (QJ bm bB bD mB w):=by
 have q:=ae;have aD:=@run_makeMap prog;have a3:=D5.start bm bB bD w ht ad;go_enter func112,ntmps112;have⟨W1,b1,hW1,hb1,HS1⟩:=a3.map;have ac:=fM hW1;have a0:=fM hb1;clear hW1 hb1;go_wp21;rw[<-ac.out,<-a0.out];refine(HS1.ob _ [fO] (.hH 182) (by rfl) (by rfl) rfl).mono ?_;rintro e W2 ⟨rfl,a5⟩;go_wp21;refine(a5.ob _ [gr] (.hH 183) (by rfl) (by rfl) rfl).mono ?_;rintro e W3 ⟨rfl,a6⟩;go_wp21;refine(a6.made (p5 bm bB bD 3 _) nofun).mono ?_;rintro e W4 ⟨f4,a4,l4,rfl,W⟩;go_wp21;refine(W.ob _ [iS,jp,iK] (.pO 3) (by rfl) (by rfl) (W.at (by simp))).mono ?_;rintro e W5 ⟨rfl,a7⟩;go_wp21;refine(a7.ob _ [gJ,gp,ic,fS,fW,il,fX,im,fZ,gX] .nothing rfl (by rfl) rfl).mono ?_;rintro e W6 ⟨rfl,a8⟩;go_wp21;refine(a8.ob _ [jR,pc,ry,nf] (.hH 184) (by rfl) (by rfl) rfl).mono ?_;rintro e W7 ⟨rfl,a9⟩;go_wp21;refine(a9.ob _ [ng] (.hH 185) (by rfl) (by rfl) rfl).mono ?_;rintro e W8 ⟨rfl,aa⟩;go_wp21;refine(aa.ob _ [mG,mH] (.hH 186) (by rfl) (by rfl) rfl).mono ?_;rintro e W9 ⟨rfl,ab⟩;go_wp21;refine(ab.ob _ [rA] (.hH 187) (by rfl) (by rfl) rfl).mono ?_;rintro e af ⟨rfl,A⟩;go_wp21;refine(A.ob _ [iH] (.hH 188) (by rfl) (by rfl) rfl).mono ?_;rintro e ag ⟨rfl,B⟩;have⟨W12,g1,hW12,hg1,HSL1,HS12⟩:=B.slice [kV] #[gu kV] rfl;have Y:=fM hW12;have a1:=fM hg1;clear hW12 hg1;go_wp21;rw[<-Y.out,<-a1.out];refine(HS12.made (Tm HS12 q g1 1 [kV] HSL1 (by decide)) nofun).mono ?_;rintro e ah ⟨aB,az,aE,rfl,h⟩;go_wp21;refine(h.ob _ [kV] (.item [kV]) (by rfl) (by rfl) (h.at (by simp))).mono ?_;rintro e ai ⟨rfl,D⟩;have⟨W15,g2,hW15,hg2,HSL2,HS15⟩:=D.slice [lV,lW] #[gu lV,gu lW] rfl;have Z:=fM hW15;have a2:=fM hg2;clear hW15 hg2;go_wp21;rw[<-Z.out,<-a2.out];refine(HS15.made (Tm HS15 q g2 2 [lV,lW] HSL2 (by decide)) nofun).mono ?_;rintro e aj ⟨aC,aA,aF,rfl,l⟩;go_wp21;refine(l.ob _ [lV,lW] (.item [lV,lW]) (by rfl) (by rfl) (l.at (by simp))).mono ?_;rintro e ak ⟨rfl,F⟩;go_wp21;refine(F.ob _ [gU] (.hH 190) (by rfl) (by rfl) rfl).mono ?_;rintro e al ⟨rfl,G⟩;go_wp21;refine(G.ob _ [fQ] (.hH 191) (by rfl) (by rfl) rfl).mono ?_;rintro e an ⟨rfl,H⟩;go_wp21;refine(H.ob _ [jC] (.hH 192) (by rfl) (by rfl) rfl).mono ?_;rintro e ao ⟨rfl,I⟩;go_wp21;refine(I.ob _ [gF,fU] (.hH 193) (by rfl) (by rfl) rfl).mono ?_;rintro e ap ⟨rfl,J⟩;go_wp21;refine(J.ob _ [iW] (.hH 194) (by rfl) (by rfl) rfl).mono ?_;rintro e aq ⟨rfl,K⟩;go_wp21;refine(K.ob _ [jS,pK,jc] (.hH 195) (by rfl) (by rfl) rfl).mono ?_;rintro e ar ⟨rfl,N⟩;go_wp21;refine(N.ob _ [uz] (.hH 196) (by rfl) (by rfl) rfl).mono ?_;rintro e au ⟨rfl,O⟩;go_wp21;refine(O.ob _ [Iz,BL] (.hH 197) (by rfl) (by rfl) rfl).mono ?_;rintro e aw ⟨rfl,U⟩;go_wp21;refine(U.ob _ [iA] (.hH 198) (by rfl) (by rfl) rfl).mono ?_;rintro e ax ⟨rfl,V⟩;go_wp21;refine(V.ob _ [gP] (.hH 199) (by rfl) (by rfl) rfl).mono ?_;rintro e ay ⟨rfl,d⟩;go_wp2;go_ret;exact⟨b1,rfl,d.top.1,d.top.2.1,d.top.2.2,d.k⟩
def kO:lE:={kg:= .hH 111,gM:= .gM 96 true,start:=some mB,stop:=some my,jP:= .hH 113,j8:= .hH 115,ik:= .nothing}
def acK (bm bB bD:Nat) (w:gm) (W:BS bm bB w) (Y:yq w) (G:bm < w.heap.size):
  Calls prog 66 #[iq bB] w (jN bm bB bD kO w):=by
 have⟨W0,hW0,HS0⟩:=St.start bm bB bD w Y G;have N:=W;have B:=fM hW0;clear hW0;go_enter func66,ntmps66;go_wp21;rw[<-B.out];refine(HS0.made (o9 bm bB bD 96 true _) nofun).mono ?_;rintro e W1 ⟨V,U,Z,rfl,h⟩;go_wp21;refine(Fc bm bB bD _ (N.ib h.k) h.t (lU h.lt h.k.size)).mono ?_;rintro e W2 ⟨b1,rfl,J,D,q,H⟩;have l:=h.mapOf H J D q;go_wp21;refine(IJ bm bB bD _ l.t (lU l.lt l.k.size)).mono ?_;rintro e W3 ⟨b2,rfl,K,F,A,I⟩;have d:=l.mapOf I K F A;have O:=jz (sp:=kO) (v0:= .nilFunc) (v1:= .func (.func 111) #[iq bB] #[]) (v2:= .func V U Z) (v3:= .nilFunc) (v4:= .nilFunc) (v5:= .map (some b1)) (v6:= .map (some b2)) (v7:= .func (.func 113) #[iq bB] #[]) (v8:= .func (.func 115) #[iq bB] #[]) (v9:= .func (.func 88) #[] #[]) d.g d.k ⟨rfl,rfl,(d.at (r:= .gM 96 true) (by simp)),rfl,rfl,(d.pB (by simp)),(d.pB (by simp)),rfl,rfl,rfl⟩ _ rfl;have⟨q0,q1,q2,q3,q4,q5,q6,q7,q8,q9⟩:=kH d.g;have u:=gh d.g;go_wp2;exact kN results66 rfl rfl O
def lH:lE:={blank:= .nothing,gM:= .gM 90 false,iE:= .nothing,start:=some [([fO],(.hH 94))],stop:=some [([gJ,gr,fO,jS],(.hH 95))],j8:= .nothing,ik:= .hH 95}
def PO (bm bB bD:Nat) (w:gm) (K:BD bB bD w) (O:yq w) (G:bm < w.heap.size):
  Calls prog 61 #[iq bB] w (jN bm bB bD lH w):=by
 have N:=@run_makeMap prog;have⟨W0,hW0,HS0⟩:=St.start bm bB bD w O G;have⟨yr,hBl⟩:=K;have B:=fM hW0;clear hW0;go_enter func61,ntmps61;go_wp21;rw[<-B.out];refine(HS0.made (o9 bm bB bD 90 false _) nofun).mono ?_;rintro e V ⟨J,I,U,rfl,q⟩;have⟨W2,b1,hW2,hb1,HS2⟩:=q.map;have D:=fM hW2;have h:=fM hb1;clear hW2 hb1;go_wp21;rw[<-D.out,<-h.out];refine(HS2.ob _ [fO] (.hH 94) (by rfl) (by rfl) rfl).mono ?_;rintro e W ⟨rfl,A⟩;have⟨W4,b2,hW4,hb2,HS4⟩:=A.map;have F:=fM hW4;have l:=fM hb2;clear hW4 hb2;go_wp21;rw[<-F.out,<-l.out];refine(HS4.ob _ [gJ,gr,fO,jS] (.hH 95) (by rfl) (by rfl) rfl).mono ?_;rintro e Y ⟨rfl,d⟩;have H:=jz (sp:=lH) (v0:= .func (.func 88) #[] #[]) (v1:= .nilFunc) (v2:= .func J I U) (v3:= .func (.func 88) #[] #[]) (v4:= .nilFunc) (v5:= .map (some b1)) (v6:= .map (some b2)) (v7:= .nilFunc) (v8:= .func (.func 88) #[] #[]) (v9:= .func (.func 95) #[iq bB] #[]) d.g d.k ⟨rfl,rfl,(d.at (r:= .gM 90 false) (by simp)),rfl,rfl,(d.pB (by simp)),(d.pB (by simp)),rfl,rfl,rfl⟩ _ rfl;have⟨q0,q1,q2,q3,q4,q5,q6,q7,q8,q9⟩:=kH d.g;have u:=gh d.g;go_wp2;exact kN results61 rfl rfl H
def lK:lE:={blank:= .nothing,gM:= .gM 96 true,iE:= .nothing,start:=some [([gJ],(.hH 98)),([fO],(.pO 6))],stop:=some [([gJ,gr,fO,jS],(.hH 99))],j8:= .nothing,ik:= .hH 99}
def PQ (bm bB bD:Nat) (w:gm) (O:BD bB bD w) (V:yq w) (I:bm < w.heap.size):
  Calls prog 62 #[iq bB] w (jN bm bB bD lK w):=by
 have U:=@run_makeMap prog;have⟨W0,hW0,HS0⟩:=St.start bm bB bD w V I;have⟨yr,hBl⟩:=O;have F:=fM hW0;clear hW0;go_enter func62,ntmps62;go_wp21;rw[<-F.out];refine(HS0.made (o9 bm bB bD 96 true _) nofun).mono ?_;rintro e Y ⟨N,K,W,rfl,A⟩;have⟨W2,b1,hW2,hb1,HS2⟩:=A.map;have G:=fM hW2;have l:=fM hb1;clear hW2 hb1;go_wp21;rw[<-G.out,<-l.out];refine(HS2.made (p5 bm bB bD 6 _) nofun).mono ?_;rintro e Z ⟨f3,a3,l3,rfl,h⟩;go_wp21;refine(h.ob _ [fO] (.pO 6) (by rfl) (by rfl) (h.at (by simp))).mono ?_;rintro e W4 ⟨rfl,B⟩;go_wp21;refine(B.ob _ [gJ] (.hH 98) (by rfl) (by rfl) rfl).mono ?_;rintro e W5 ⟨rfl,D⟩;have⟨W6,b2,hW6,hb2,HS6⟩:=D.map;have H:=fM hW6;have q:=fM hb2;clear hW6 hb2;go_wp21;rw[<-H.out,<-q.out];refine(HS6.ob _ [gJ,gr,fO,jS] (.hH 99) (by rfl) (by rfl) rfl).mono ?_;rintro e W7 ⟨rfl,d⟩;have J:=jz (sp:=lK) (v0:= .func (.func 88) #[] #[]) (v1:= .nilFunc) (v2:= .func N K W) (v3:= .func (.func 88) #[] #[]) (v4:= .nilFunc) (v5:= .map (some b1)) (v6:= .map (some b2)) (v7:= .nilFunc) (v8:= .func (.func 88) #[] #[]) (v9:= .func (.func 99) #[iq bB] #[]) d.g d.k ⟨rfl,rfl,(d.at (r:= .gM 96 true) (by simp)),rfl,rfl,(d.pB (by simp)),(d.pB (by simp)),rfl,rfl,rfl⟩ _ rfl;have⟨q0,q1,q2,q3,q4,q5,q6,q7,q8,q9⟩:=kH d.g;have u:=gh d.g;go_wp2;exact kN results62 rfl rfl J
def lZ:lE:={blank:= .hH 100,gM:= .gM 96 true,iE:= .nothing,start:=some [([iK],(.hH 103)),([jp],(.hH 102)),([iS],(.hH 101)),([fO],(.pO 6)),([gJ],.nothing)],stop:=some [([gr,fO,jS],(.hH 105)),([gJ],(.hH 104))],j8:= .nothing,ik:= .hH 105}
def acM (bm bB bD:Nat) (w:gm) (hb:BD bB bD w) (ht:yq w) (O:bm < w.heap.size):
  Calls prog 63 #[iq bB] w (jN bm bB bD lZ w):=by
 have a0:=@run_makeMap prog;have⟨W0,hW0,HS0⟩:=St.start bm bB bD w ht O;have⟨yr,hBl⟩:=hb;have J:=fM hW0;clear hW0;go_enter func63,ntmps63;go_wp21;rw[<-J.out];refine(HS0.made (o9 bm bB bD 96 true _) nofun).mono ?_;rintro e W1 ⟨Z,Y,l1,rfl,B⟩;have⟨W2,b1,hW2,hb1,HS2⟩:=B.map;have K:=fM hW2;have q:=fM hb1;clear hW2 hb1;go_wp21;rw[<-K.out,<-q.out];refine(HS2.ob _ [gJ] .nothing (by rfl) (by rfl) rfl).mono ?_;rintro e W3 ⟨rfl,D⟩;go_wp21;refine(D.made (p5 bm bB bD 6 _) nofun).mono ?_;rintro e W4 ⟨f4,a4,l4,rfl,l⟩;go_wp21;refine(l.ob _ [fO] (.pO 6) (by rfl) (by rfl) (l.at (by simp))).mono ?_;rintro e W5 ⟨rfl,F⟩;go_wp21;refine(F.ob _ [iS] (.hH 101) (by rfl) (by rfl) rfl).mono ?_;rintro e W6 ⟨rfl,G⟩;go_wp21;refine(G.ob _ [jp] (.hH 102) (by rfl) (by rfl) rfl).mono ?_;rintro e W7 ⟨rfl,H⟩;go_wp21;refine(H.ob _ [iK] (.hH 103) (by rfl) (by rfl) rfl).mono ?_;rintro e W8 ⟨rfl,I⟩;have⟨W9,b2,hW9,hb2,HS9⟩:=I.map;have N:=fM hW9;have A:=fM hb2;clear hW9 hb2;go_wp21;rw[<-N.out,<-A.out];refine(HS9.ob _ [gJ] (.hH 104) (by rfl) (by rfl) rfl).mono ?_;rintro e V ⟨rfl,h⟩;go_wp21;refine(h.ob _ [gr,fO,jS] (.hH 105) (by rfl) (by rfl) rfl).mono ?_;rintro e W ⟨rfl,d⟩;have U:=jz (sp:=lZ) (v0:= .func (.func 100) #[iq bB] #[]) (v1:= .nilFunc) (v2:= .func Z Y l1) (v3:= .func (.func 88) #[] #[]) (v4:= .nilFunc) (v5:= .map (some b1)) (v6:= .map (some b2)) (v7:= .nilFunc) (v8:= .func (.func 88) #[] #[]) (v9:= .func (.func 105) #[iq bB] #[]) d.g d.k ⟨rfl,rfl,(d.at (r:= .gM 96 true) (by simp)),rfl,rfl,(d.pB (by simp)),(d.pB (by simp)),rfl,rfl,rfl⟩ _ rfl;have⟨q0,q1,q2,q3,q4,q5,q6,q7,q8,q9⟩:=kH d.g;have u:=gh d.g;go_wp2;exact kN results63 rfl rfl U
def mM:lE:={blank:= .hH 100,gM:= .gM 96 true,iE:= .nothing,start:=some [([iS,jp,iK],(.hH 107)),([gr],(.hH 106)),([fO],(.pO 6)),([gJ],.nothing)],stop:=some [([gr,fO,jS],(.hH 108))],j8:= .nothing,ik:= .hH 108}
def SZ (bm bB bD:Nat) (w:gm) (V:BD bB bD w) (Y:yq w) (K:bm < w.heap.size):
  Calls prog 64 #[iq bB] w (jN bm bB bD mM w):=by
 have W:=@run_makeMap prog;have⟨W0,hW0,HS0⟩:=St.start bm bB bD w Y K;have⟨yr,hBl⟩:=V;have H:=fM hW0;clear hW0;go_enter func64,ntmps64;go_wp21;rw[<-H.out];refine(HS0.made (o9 bm bB bD 96 true _) nofun).mono ?_;rintro e W1 ⟨U,O,Z,rfl,A⟩;have⟨W2,b1,hW2,hb1,HS2⟩:=A.map;have I:=fM hW2;have l:=fM hb1;clear hW2 hb1;go_wp21;rw[<-I.out,<-l.out];refine(HS2.ob _ [gJ] .nothing (by rfl) (by rfl) rfl).mono ?_;rintro e W3 ⟨rfl,B⟩;go_wp21;refine(B.made (p5 bm bB bD 6 _) nofun).mono ?_;rintro e W4 ⟨f4,a4,l4,rfl,h⟩;go_wp21;refine(h.ob _ [fO] (.pO 6) (by rfl) (by rfl) (h.at (by simp))).mono ?_;rintro e W5 ⟨rfl,D⟩;go_wp21;refine(D.ob _ [gr] (.hH 106) (by rfl) (by rfl) rfl).mono ?_;rintro e W6 ⟨rfl,F⟩;go_wp21;refine(F.ob _ [iS,jp,iK] (.hH 107) (by rfl) (by rfl) rfl).mono ?_;rintro e W7 ⟨rfl,G⟩;have⟨W8,b2,hW8,hb2,HS8⟩:=G.map;have J:=fM hW8;have q:=fM hb2;clear hW8 hb2;go_wp21;rw[<-J.out,<-q.out];refine(HS8.ob _ [gr,fO,jS] (.hH 108) (by rfl) (by rfl) rfl).mono ?_;rintro e W9 ⟨rfl,d⟩;have N:=jz (sp:=mM) (v0:= .func (.func 100) #[iq bB] #[]) (v1:= .nilFunc) (v2:= .func U O Z) (v3:= .func (.func 88) #[] #[]) (v4:= .nilFunc) (v5:= .map (some b1)) (v6:= .map (some b2)) (v7:= .nilFunc) (v8:= .func (.func 88) #[] #[]) (v9:= .func (.func 108) #[iq bB] #[]) d.g d.k ⟨rfl,rfl,(d.at (r:= .gM 96 true) (by simp)),rfl,rfl,(d.pB (by simp)),(d.pB (by simp)),rfl,rfl,rfl⟩ _ rfl;have⟨q0,q1,q2,q3,q4,q5,q6,q7,q8,q9⟩:=kH d.g;have u:=gh d.g;go_wp2;exact kN results64 rfl rfl N
def rQ:lE:={kg:= .hH 100,ie:= .hH 109,ik:= .hH 110}
def acN (bm bB bD:Nat) (w:gm) (h:BD bB bD w) (q:yq w) (d:bm < w.heap.size):
  Calls prog 65 #[iq bB] w (jN bm bB bD rQ w):=by
 have l:=@run_makeMap prog;have⟨W0,HW0,HS0⟩:=St.start bm bB bD w q d;have⟨yr,hBl⟩:=h;go_enter func65,ntmps65;go_wp2;exact kN results65 rfl rfl ⟨fP w _,⟨rfl,rfl,rfl,rfl,rfl,rfl,rfl,rfl,rfl,rfl⟩,(Kept.refl _ _).alloc _⟩
def ld:lE:={kg:= .hH 127,ik:= .hH 128}
def MM (bm bB bD:Nat) (w:gm) (h:BD bB bD w) (q:yq w) (d:bm < w.heap.size):
  Calls prog 68 #[iq bB] w (jN bm bB bD ld w):=by
 have l:=@run_makeMap prog;have⟨W0,HW0,HS0⟩:=St.start bm bB bD w q d;have⟨yr,hBl⟩:=h;go_enter func68,ntmps68;go_wp2;exact kN results68 rfl rfl ⟨fP w _,⟨rfl,rfl,rfl,rfl,rfl,rfl,rfl,rfl,rfl,rfl⟩,(Kept.refl _ _).alloc _⟩
def zZ:lE:={start:=some [([gp,ic,fS,fW,il,fX,im,fZ,gX],(.ahead 129))],stop:=some [([gr,ic,fS,fO,fW,il,fX,im,fZ,gX],.nothing),([fQ],(.ahead 129)),([gp],(.ends 129))],ik:= .pO 6}
def S3 (bm bB bD:Nat) (w:gm) (Z:BD bB bD w) (ht:yq w) (U:bm < w.heap.size):
  Calls prog 69 #[iq bB] w (jN bm bB bD zZ w):=by
 have a0:=@run_makeMap prog;have⟨W0,hW0,HS0⟩:=St.start bm bB bD w ht U;have⟨yr,hBl⟩:=Z;have A:=fM hW0;clear hW0;go_enter func69,ntmps69;have⟨W1,b1,hW1,hb1,HS1⟩:=HS0.map;have J:=fM hW1;have B:=fM hb1;clear hW1 hb1;go_wp21;rw[<-A.out];rw[<-J.out,show w.heap.size+1=b1 by rw[B.out,A.out];simp];refine(HS1.made (oO bm bB bD 129 _) nofun).mono ?_;rintro e W2 ⟨f2,a2,l2,rfl,h⟩;go_wp21;refine(h.ob _ [gp,ic,fS,fW,il,fX,im,fZ,gX] (.ahead 129) rfl (by rfl) (h.at (by simp))).mono ?_;rintro e W3 ⟨rfl,F⟩;have⟨W4,b2,hW4,hb2,HS4⟩:=F.map;have K:=fM hW4;have D:=fM hb2;clear hW4 hb2;go_wp21;rw[<-K.out,<-D.out];refine(HS4.made (yn bm bB bD 129 _) nofun).mono ?_;rintro e W5 ⟨f5,a5,l5,rfl,l⟩;go_wp21;refine(l.ob _ [gp] (.ends 129) (by rfl) (by rfl) (l.at (by simp))).mono ?_;rintro e W6 ⟨rfl,G⟩;go_wp21;refine(G.made (oO bm bB bD 129 _) nofun).mono ?_;rintro e W7 ⟨f7,a7,l7,rfl,q⟩;go_wp21;refine(q.ob _ [fQ] (.ahead 129) (by rfl) (by rfl) (q.at (by simp))).mono ?_;rintro e W8 ⟨rfl,H⟩;go_wp21;refine(H.ob _ [gr,ic,fS,fO,fW,il,fX,im,fZ,gX] .nothing rfl (by rfl) rfl).mono ?_;rintro e W9 ⟨rfl,I⟩;go_wp21;refine(I.made (p5 bm bB bD 6 _) nofun).mono ?_;rintro e Y ⟨O,N,V,rfl,d⟩;have W:=jz (sp:=zZ) (v0:= .nilFunc) (v1:= .nilFunc) (v2:= .nilFunc) (v3:= .nilFunc) (v4:= .nilFunc) (v5:= .map (some b1)) (v6:= .map (some b2)) (v7:= .nilFunc) (v8:= .nilFunc) (v9:= .func O N V) d.g d.k ⟨rfl,rfl,rfl,rfl,rfl,(d.pB (by simp)),(d.pB (by simp)),rfl,rfl,(d.at (r:= .pO 6) (by simp))⟩ _ rfl;have⟨q0,q1,q2,q3,q4,q5,q6,q7,q8,q9⟩:=kH d.g;have u:=gh d.g;go_wp2;exact kN results69 rfl rfl W
def DQ:lE:={kg:= .hH 116,gM:= .gM 96 true,iE:= .nothing,start:=some [([jc],(.hH 124)),([iH],(.hH 123)),([iK],(.pO 3)),([fQ],(.ahead 122)),([il,im,gX],(.nj [fQ] fW 11)),([fW,fX,fZ],(.qF [fQ] 11)),([ic],(.nj [fQ] fS 10)),([fS],(.qF [fQ] 10)),([gp],(.hH 117))],stop:=some [([gr,gp,ic,fS,fO,fW,il,fX,im,fZ,gX],.nothing),([fQ],(.ends 122))],ik:= .hH 126}
def ZH (bm bB bD:Nat) (w:gm) (hb:BD bB bD w) (ht:yq w) (ah:bm < w.heap.size):
  Calls prog 67 #[iq bB] w (jN bm bB bD DQ w):=by
 have aP:=@run_makeMap prog;have⟨W0,hW0,HS0⟩:=St.start bm bB bD w ht ah;have⟨yr,hBl⟩:=hb;have af:=fM hW0;clear hW0;go_enter func67,ntmps67;go_wp21;rw[<-af.out];refine(HS0.made (o9 bm bB bD 96 true _) nofun).mono ?_;rintro e W1 ⟨f1,a1,l1,rfl,a9⟩;have⟨W2,b1,hW2,hb1,HS2⟩:=a9.map;have ag:=fM hW2;have a3:=fM hb1;clear hW2 hb1;go_wp21;rw[<-ag.out,<-a3.out];refine(HS2.ob _ [gp] (.hH 117) (by rfl) (by rfl) rfl).mono ?_;rintro e W3 ⟨rfl,aa⟩;go_wp21;refine(aa.YE (Ce bm _)).mono ?_;rintro e W4 ⟨f4,a4,l4,rfl,a0,ab⟩;go_wp21;refine(ab.made (Cb bm bB bD [fQ] 10 _ _ a0) nofun).mono ?_;rintro e W5 ⟨f5,a5,l5,rfl,W⟩;go_wp21;refine(W.ob _ [fS] (.qF [fQ] 10) (by rfl) (by rfl) (W.at (by simp))).mono ?_;rintro e W6 ⟨rfl,ac⟩;go_wp21;refine(ac.YE (Ce bm _)).mono ?_;rintro e W7 ⟨f7,a7,l7,rfl,a2,ad⟩;go_wp21;refine(ad.made (DN bm bB bD [fQ] fS 10 _ _ a2) nofun).mono ?_;rintro e W8 ⟨f8,a8,l8,rfl,Y⟩;go_wp21;refine(Y.ob _ [ic] (.nj [fQ] fS 10) (by rfl) (by rfl) (Y.at (by simp))).mono ?_;rintro e W9 ⟨rfl,ae⟩;go_wp21;refine(ae.YE (Ce bm _)).mono ?_;rintro e ai ⟨aI,aB,aQ,rfl,D,G⟩;go_wp21;refine(G.made (Cb bm bB bD [fQ] 11 _ _ D) nofun).mono ?_;rintro e aj ⟨aJ,aC,aR,rfl,h⟩;go_wp21;refine(h.ob _ [fW,fX,fZ] (.qF [fQ] 11) (by rfl) (by rfl) (h.at (by simp))).mono ?_;rintro e ak ⟨rfl,H⟩;go_wp21;refine(H.YE (Ce bm _)).mono ?_;rintro e al ⟨aK,aD,aS,rfl,F,I⟩;go_wp21;refine(I.made (DN bm bB bD [fQ] fW 11 _ _ F) nofun).mono ?_;rintro e an ⟨aL,aE,aT,rfl,l⟩;go_wp21;refine(l.ob _ [il,im,gX] (.nj [fQ] fW 11) (by rfl) (by rfl) (l.at (by simp))).mono ?_;rintro e ao ⟨rfl,J⟩;go_wp21;refine(J.made (oO bm bB bD 122 _) nofun).mono ?_;rintro e ap ⟨aM,aF,aU,rfl,q⟩;go_wp21;refine(q.ob _ [fQ] (.ahead 122) (by rfl) (by rfl) (q.at (by simp))).mono ?_;rintro e aq ⟨rfl,K⟩;go_wp21;refine(K.made (p5 bm bB bD 3 _) nofun).mono ?_;rintro e ar ⟨aN,aG,aV,rfl,A⟩;go_wp21;refine(A.ob _ [iK] (.pO 3) (by rfl) (by rfl) (A.at (by simp))).mono ?_;rintro e au ⟨rfl,N⟩;go_wp21;refine(N.ob _ [iH] (.hH 123) (by rfl) (by rfl) rfl).mono ?_;rintro e aw ⟨rfl,O⟩;go_wp21;refine(O.ob _ [jc] (.hH 124) (by rfl) (by rfl) rfl).mono ?_;rintro e ax ⟨rfl,U⟩;have⟨W22,b2,hW22,hb2,HS22⟩:=U.map;have Z:=fM hW22;have a6:=fM hb2;clear hW22 hb2;go_wp21;rw[<-Z.out,<-a6.out];refine(HS22.made (yn bm bB bD 122 _) nofun).mono ?_;rintro e ay ⟨aO,aH,aW,rfl,B⟩;go_wp21;refine(B.ob _ [fQ] (.ends 122) (by rfl) (by rfl) (B.at (by simp))).mono ?_;rintro e az ⟨rfl,V⟩;go_wp21;refine(V.ob _ [gr,gp,ic,fS,fO,fW,il,fX,im,fZ,gX] .nothing rfl rfl rfl).mono ?_;rintro e aA ⟨rfl,d⟩;have HF:=jz (sp:=DQ) (v0:= .nilFunc) (v1:= .func (.func 116) #[iq bB] #[]) (v2:= .func f1 a1 l1) (v3:= .func (.func 88) #[] #[]) (v4:= .nilFunc) (v5:= .map (some b1)) (v6:= .map (some b2)) (v7:= .nilFunc) (v8:= .nilFunc) (v9:= .func (.func 126) #[iq bB] #[]) d.g d.k ⟨rfl,rfl,(d.at (r:= .gM 96 true) (by simp)),rfl,rfl,(d.pB (by simp)),(d.pB (by simp)),rfl,rfl,rfl⟩ _ rfl;have⟨q0,q1,q2,q3,q4,q5,q6,q7,q8,q9⟩:=kH d.g;have u:=gh d.g;go_wp2;exact kN results67 rfl rfl HF
def rP:lE:={blank:= .hH 100,gM:= .gM 96 true,iE:= .nothing,ie:= .pO 6,start:=some [([ic],(.hH 101)),([fO],(.pO 6))],stop:=some [([fS],(.ends 130)),([ic],.nothing)],ik:= .ahead 130}
def IL (bm bB bD:Nat) (w:gm) (hb:BD bB bD w) (ht:yq w) (V:bm < w.heap.size):
  Calls prog 70 #[iq bB] w (jN bm bB bD rP w):=by
 have a3:=@run_makeMap prog;have⟨W0,hW0,HS0⟩:=St.start bm bB bD w ht V;have⟨yr,hBl⟩:=hb;have J:=fM hW0;clear hW0;go_enter func70,ntmps70;go_wp21;rw[<-J.out];refine(HS0.made (o9 bm bB bD 96 true _) nofun).mono ?_;rintro e W1 ⟨f1,a1,l1,rfl,D⟩;go_wp21;refine(D.made (p5 bm bB bD 6 _) nofun).mono ?_;rintro e W2 ⟨f2,a2,l2,rfl,F⟩;have⟨W3,b1,hW3,hb1,HS3⟩:=F.map;have K:=fM hW3;have A:=fM hb1;clear hW3 hb1;go_wp21;rw[<-K.out,<-A.out];refine(HS3.made (p5 bm bB bD 6 _) nofun).mono ?_;rintro e W4 ⟨f4,a4,l4,rfl,l⟩;go_wp21;refine(l.ob _ [fO] (.pO 6) (by rfl) (by rfl) (l.at (by simp))).mono ?_;rintro e W5 ⟨rfl,G⟩;go_wp21;refine(G.ob _ [ic] (.hH 101) (by rfl) (by rfl) rfl).mono ?_;rintro e W6 ⟨rfl,H⟩;have⟨W7,b2,hW7,hb2,HS7⟩:=H.map;have N:=fM hW7;have B:=fM hb2;clear hW7 hb2;go_wp21;rw[<-N.out,<-B.out];refine(HS7.ob _ [ic] .nothing (by rfl) (by rfl) rfl).mono ?_;rintro e W8 ⟨rfl,I⟩;go_wp21;refine(I.made (yn bm bB bD 130 _) nofun).mono ?_;rintro e W9 ⟨f9,a9,l9,rfl,q⟩;go_wp21;refine(q.ob _ [fS] (.ends 130) (by rfl) (by rfl) (q.at (by simp))).mono ?_;rintro e Z ⟨rfl,h⟩;go_wp21;refine(h.made (oO bm bB bD 130 _) nofun).mono ?_;rintro e a0 ⟨U,O,W,rfl,d⟩;have Y:=jz (sp:=rP) (v0:= .func (.func 100) #[iq bB] #[]) (v1:= .nilFunc) (v2:= .func f1 a1 l1) (v3:= .func (.func 88) #[] #[]) (v4:= .func f2 a2 l2) (v5:= .map (some b1)) (v6:= .map (some b2)) (v7:= .nilFunc) (v8:= .nilFunc) (v9:= .func U O W) d.g d.k ⟨rfl,rfl,(d.at (r:= .gM 96 true) (by simp)),rfl,(d.at (r:= .pO 6) (by simp)),(d.pB (by simp)),(d.pB (by simp)),rfl,rfl,(d.at (r:= .ahead 130) (by simp))⟩ _ rfl;have⟨q0,q1,q2,q3,q4,q5,q6,q7,q8,q9⟩:=kH d.g;have u:=gh d.g;go_wp2;exact kN results70 rfl rfl Y
def pE:lE:={start:=some [([gp,ic,fS,fW,fX,fZ],(.ahead 132)),([il,im],(.nj [fW,fX,fZ] gX 12)),([gX],(.qF [fW,fX,fZ] 12))],stop:=some [([gr,gp,ic,fS,fO,il,im,gX],.nothing),([fQ],(.ahead 132)),([fW,fX,fZ],(.LZ (.ends 132)))],ik:= .pO 7}
def ML (bm bB bD:Nat) (w:gm) (hb:BD bB bD w) (ht:yq w) (a9:bm < w.heap.size):
  Calls prog 71 #[iq bB] w (jN bm bB bD pE w):=by
 have ap:=@run_makeMap prog;have⟨W0,hW0,HS0⟩:=St.start bm bB bD w ht a9;have⟨yr,hBl⟩:=hb;have I:=fM hW0;clear hW0;go_enter func71,ntmps71;have⟨W1,b1,hW1,hb1,HS1⟩:=HS0.map;have a1:=fM hW1;have O:=fM hb1;clear hW1 hb1;go_wp21;rw[<-I.out];rw[<-a1.out,show w.heap.size+1=b1 by rw[O.out,I.out];simp];refine(HS1.YE (Ay bm _)).mono ?_;rintro e W2 ⟨f2,a2,l2,rfl,K,V⟩;go_wp21;refine(V.made (Cb bm bB bD [fW,fX,fZ] 12 _ _ K) nofun).mono ?_;rintro e W3 ⟨f3,a3,l3,rfl,F⟩;go_wp21;refine(F.ob _ [gX] (.qF [fW,fX,fZ] 12) (by rfl) (by rfl) (F.at (by simp))).mono ?_;rintro e W4 ⟨rfl,W⟩;go_wp21;refine(W.YE (Ay bm _)).mono ?_;rintro e W5 ⟨f5,a5,l5,rfl,N,Y⟩;go_wp21;refine(Y.made (DN bm bB bD [fW,fX,fZ] gX 12 _ _ N) nofun).mono ?_;rintro e W6 ⟨f6,a6,l6,rfl,G⟩;go_wp21;refine(G.ob _ [il,im] (.nj [fW,fX,fZ] gX 12) (by rfl) (by rfl) (G.at (by simp))).mono ?_;rintro e W7 ⟨rfl,Z⟩;go_wp21;refine(Z.made (oO bm bB bD 132 _) nofun).mono ?_;rintro e W8 ⟨f8,a8,l8,rfl,H⟩;go_wp21;refine(H.ob _ [gp,ic,fS,fW,fX,fZ] (.ahead 132) rfl (by rfl) (H.at (by simp))).mono ?_;rintro e W9 ⟨rfl,a0⟩;have⟨W10,b2,hW10,hb2,HS10⟩:=a0.map;have J:=fM hW10;have U:=fM hb2;clear hW10 hb2;go_wp21;rw[<-J.out,<-U.out];refine(HS10.made (yn bm bB bD 132 _) nofun).mono ?_;rintro e ab ⟨al,ai,aq,rfl,h⟩;go_wp21;refine(h.made (Ll bm bB bD (.ends 132) _ _ (by simp) (h.at (by simp))) nofun).mono ?_;rintro e ac ⟨an,aj,ar,rfl,l⟩;go_wp21;refine(l.ob _ [fW,fX,fZ] (.LZ (.ends 132)) (by rfl) (by rfl) (l.at (by simp))).mono ?_;rintro e ad ⟨rfl,A⟩;go_wp21;refine(A.made (oO bm bB bD 132 _) nofun).mono ?_;rintro e ae ⟨ao,ak,au,rfl,q⟩;go_wp21;refine(q.ob _ [fQ] (.ahead 132) (by rfl) (by rfl) (q.at (by simp))).mono ?_;rintro e af ⟨rfl,B⟩;go_wp21;refine(B.ob _ [gr,gp,ic,fS,fO,il,im,gX] .nothing (by rfl) (by rfl) rfl).mono ?_;rintro e ag ⟨rfl,D⟩;go_wp21;refine(D.made (p5 bm bB bD 7 _) nofun).mono ?_;rintro e ah ⟨a7,a4,aa,rfl,d⟩;have HF:=jz (sp:=pE) (v0:= .nilFunc) (v1:= .nilFunc) (v2:= .nilFunc) (v3:= .nilFunc) (v4:= .nilFunc) (v5:= .map (some b1)) (v6:= .map (some b2)) (v7:= .nilFunc) (v8:= .nilFunc) (v9:= .func a7 a4 aa) d.g d.k ⟨rfl,rfl,rfl,rfl,rfl,(d.pB (by simp)),(d.pB (by simp)),rfl,rfl,(d.at (r:= .pO 7) (by simp))⟩ _ rfl;have⟨q0,q1,q2,q3,q4,q5,q6,q7,q8,q9⟩:=kH d.g;have u:=gh d.g;go_wp2;exact kN results71 rfl rfl HF
def Bn:lE:={start:=some [([gp,ic,fS,fW,fX,fZ,gX],(.ahead 135)),([il,im],(.hH 134))],stop:=some [([gr,gp,ic,fS,fO,il,im],.nothing),([fW,fX,fZ],(.LZ (.ahead 135))),([fQ],(.ahead 135)),([gX],(.ends 135))],ik:= .pO 7}
def afv (bm bB bD:Nat) (w:gm) (hb:BD bB bD w) (ht:yq w) (Z:bm < w.heap.size):
  Calls prog 72 #[iq bB] w (jN bm bB bD Bn w):=by
 have ad:=@run_makeMap prog;have⟨W0,hW0,HS0⟩:=St.start bm bB bD w ht Z;have⟨yr,hBl⟩:=hb;have G:=fM hW0;clear hW0;go_enter func72,ntmps72;have⟨W1,b1,hW1,hb1,HS1⟩:=HS0.map;have U:=fM hW1;have H:=fM hb1;clear hW1 hb1;go_wp21;rw[<-G.out];rw[<-U.out,show w.heap.size+1=b1 by rw[H.out,G.out];simp];refine(HS1.ob _ [il,im] (.hH 134) (by rfl) (by rfl) rfl).mono ?_;rintro e W2 ⟨rfl,J⟩;go_wp21;refine(J.made (oO bm bB bD 135 _) nofun).mono ?_;rintro e W3 ⟨f3,a3,l3,rfl,B⟩;go_wp21;refine(B.ob _ [gp,ic,fS,fW,fX,fZ,gX] (.ahead 135) rfl (by rfl) (B.at (by simp))).mono ?_;rintro e W4 ⟨rfl,K⟩;have⟨W5,b2,hW5,hb2,HS5⟩:=K.map;have V:=fM hW5;have I:=fM hb2;clear hW5 hb2;go_wp21;rw[<-V.out,<-I.out];refine(HS5.made (yn bm bB bD 135 _) nofun).mono ?_;rintro e W6 ⟨f6,a6,l6,rfl,D⟩;go_wp21;refine(D.ob _ [gX] (.ends 135) (by rfl) (by rfl) (D.at (by simp))).mono ?_;rintro e W7 ⟨rfl,N⟩;go_wp21;refine(N.made (oO bm bB bD 135 _) nofun).mono ?_;rintro e W8 ⟨f8,a8,l8,rfl,F⟩;go_wp21;refine(F.ob _ [fQ] (.ahead 135) (by rfl) (by rfl) (F.at (by simp))).mono ?_;rintro e W9 ⟨rfl,O⟩;go_wp21;refine(O.made (oO bm bB bD 135 _) nofun).mono ?_;rintro e a1 ⟨ab,a9,ae,rfl,h⟩;go_wp21;refine(h.made (Ll bm bB bD (.ahead 135) _ _ (by simp) (h.at (by simp))) nofun).mono ?_;rintro e a2 ⟨ac,aa,af,rfl,l⟩;go_wp21;refine(l.ob _ [fW,fX,fZ] (.LZ (.ahead 135)) (by rfl) (by rfl) (l.at (by simp))).mono ?_;rintro e a4 ⟨rfl,q⟩;go_wp21;refine(q.ob _ [gr,gp,ic,fS,fO,il,im] .nothing (by rfl) (by rfl) rfl).mono ?_;rintro e a5 ⟨rfl,A⟩;go_wp21;refine(A.made (p5 bm bB bD 7 _) nofun).mono ?_;rintro e a7 ⟨Y,W,a0,rfl,d⟩;have HF:=jz (sp:=Bn) (v0:= .nilFunc) (v1:= .nilFunc) (v2:= .nilFunc) (v3:= .nilFunc) (v4:= .nilFunc) (v5:= .map (some b1)) (v6:= .map (some b2)) (v7:= .nilFunc) (v8:= .nilFunc) (v9:= .func Y W a0) d.g d.k ⟨rfl,rfl,rfl,rfl,rfl,(d.pB (by simp)),(d.pB (by simp)),rfl,rfl,(d.at (r:= .pO 7) (by simp))⟩ _ rfl;have⟨q0,q1,q2,q3,q4,q5,q6,q7,q8,q9⟩:=kH d.g;have u:=gh d.g;go_wp2;exact kN results72 rfl rfl HF
def GB:lE:={start:=some [([gp,ic,fS,fW,il,fX,im,fZ,gX],(.ahead 136))],stop:=some [([gr,gp,ic,fS,fO],.nothing),([fQ,fW,fX,fZ,gX],(.LZ (.ahead 136))),([il,im],(.LZ (.ends 136)))],ik:= .pO 6}
def acL (bm bB bD:Nat) (w:gm) (hb:BD bB bD w) (ht:yq w) (W:bm < w.heap.size):
  Calls prog 73 #[iq bB] w (jN bm bB bD GB w):=by
 have a4:=@run_makeMap prog;have⟨W0,hW0,HS0⟩:=St.start bm bB bD w ht W;have⟨yr,hBl⟩:=hb;have G:=fM hW0;clear hW0;go_enter func73,ntmps73;have⟨W1,b1,hW1,hb1,HS1⟩:=HS0.map;have N:=fM hW1;have H:=fM hb1;clear hW1 hb1;go_wp21;rw[<-G.out];rw[<-N.out,show w.heap.size+1=b1 by rw[H.out,G.out];simp];refine(HS1.made (oO bm bB bD 136 _) nofun).mono ?_;rintro e W2 ⟨f2,a2,l2,rfl,q⟩;go_wp21;refine(q.ob _ [gp,ic,fS,fW,il,fX,im,fZ,gX] (.ahead 136) rfl (by rfl) (q.at (by simp))).mono ?_;rintro e W3 ⟨rfl,J⟩;have⟨W4,b2,hW4,hb2,HS4⟩:=J.map;have O:=fM hW4;have I:=fM hb2;clear hW4 hb2;go_wp21;rw[<-O.out,<-I.out];refine(HS4.made (yn bm bB bD 136 _) nofun).mono ?_;rintro e W5 ⟨f5,a5,l5,rfl,A⟩;go_wp21;refine(A.made (Ll bm bB bD (.ends 136) _ _ (by simp) (A.at (by simp))) nofun).mono ?_;rintro e W6 ⟨f6,a6,l6,rfl,B⟩;go_wp21;refine(B.ob _ [il,im] (.LZ (.ends 136)) (by rfl) (by rfl) (B.at (by simp))).mono ?_;rintro e W7 ⟨rfl,K⟩;go_wp21;refine(K.made (oO bm bB bD 136 _) nofun).mono ?_;rintro e W8 ⟨f8,a8,l8,rfl,D⟩;go_wp21;refine(D.made (Ll bm bB bD (.ahead 136) _ _ (by simp) (D.at (by simp))) nofun).mono ?_;rintro e W9 ⟨f9,a9,l9,rfl,F⟩;go_wp21;refine(F.ob _ [fQ,fW,fX,fZ,gX] (.LZ (.ahead 136)) (by rfl) (by rfl) (F.at (by simp))).mono ?_;rintro e a0 ⟨rfl,h⟩;go_wp21;refine(h.ob _ [gr,gp,ic,fS,fO] .nothing (by rfl) (by rfl) rfl).mono ?_;rintro e a1 ⟨rfl,l⟩;go_wp21;refine(l.made (p5 bm bB bD 6 _) nofun).mono ?_;rintro e a3 ⟨V,U,Y,rfl,d⟩;have Z:=jz (sp:=GB) (v0:= .nilFunc) (v1:= .nilFunc) (v2:= .nilFunc) (v3:= .nilFunc) (v4:= .nilFunc) (v5:= .map (some b1)) (v6:= .map (some b2)) (v7:= .nilFunc) (v8:= .nilFunc) (v9:= .func V U Y) d.g d.k ⟨rfl,rfl,rfl,rfl,rfl,(d.pB (by simp)),(d.pB (by simp)),rfl,rfl,(d.at (r:= .pO 6) (by simp))⟩ _ rfl;have⟨q0,q1,q2,q3,q4,q5,q6,q7,q8,q9⟩:=kH d.g;have u:=gh d.g;go_wp2;exact kN results73 rfl rfl Z
def Bo:lE:={kg:= .hH 137,gM:= .gM 96 true,start:=some [([jc,jC],(.ahead 141)),([iW],(.ends 141)),([rA],(.hH 140)),([fU],(.hH 139)),([gF],(.hH 138)),([fO],(.pO 6))],stop:=some [([iW],(.ends 141)),([gF],(.hH 143)),([fU],(.hH 142))],ik:= .nothing}
def VN (bm bB bD:Nat) (w:gm) (hb:BD bB bD w) (ht:yq w) (Z:bm < w.heap.size):
  Calls prog 74 #[iq bB] w (jN bm bB bD Bo w):=by
 have ad:=@run_makeMap prog;have⟨W0,hW0,HS0⟩:=St.start bm bB bD w ht Z;have⟨yr,hBl⟩:=hb;have W:=fM hW0;clear hW0;go_enter func74,ntmps74;go_wp21;rw[<-W.out];refine(HS0.made (o9 bm bB bD 96 true _) nofun).mono ?_;rintro e W1 ⟨f1,a1,l1,rfl,J⟩;have⟨W2,b1,hW2,hb1,HS2⟩:=J.map;have Y:=fM hW2;have H:=fM hb1;clear hW2 hb1;go_wp21;rw[<-Y.out,<-H.out];refine(HS2.made (p5 bm bB bD 6 _) nofun).mono ?_;rintro e W3 ⟨f3,a3,l3,rfl,D⟩;go_wp21;refine(D.ob _ [fO] (.pO 6) (by rfl) (by rfl) (D.at (by simp))).mono ?_;rintro e W4 ⟨rfl,K⟩;go_wp21;refine(K.ob _ [gF] (.hH 138) (by rfl) (by rfl) rfl).mono ?_;rintro e W5 ⟨rfl,N⟩;go_wp21;refine(N.ob _ [fU] (.hH 139) (by rfl) (by rfl) rfl).mono ?_;rintro e W6 ⟨rfl,O⟩;go_wp21;refine(O.ob _ [rA] (.hH 140) (by rfl) (by rfl) rfl).mono ?_;rintro e W7 ⟨rfl,U⟩;go_wp21;refine(U.made (yn bm bB bD 141 _) nofun).mono ?_;rintro e W8 ⟨f8,a8,l8,rfl,F⟩;go_wp21;refine(F.ob _ [iW] (.ends 141) (by rfl) (by rfl) (F.at (by simp))).mono ?_;rintro e W9 ⟨rfl,V⟩;go_wp21;refine(V.made (oO bm bB bD 141 _) nofun).mono ?_;rintro e a0 ⟨ab,a9,ae,rfl,h⟩;go_wp21;refine(h.ob _ [jc,jC] (.ahead 141) (by rfl) (by rfl) (h.at (by simp))).mono ?_;rintro e a2 ⟨rfl,q⟩;have⟨W12,b2,hW12,hb2,HS12⟩:=q.map;have G:=fM hW12;have I:=fM hb2;clear hW12 hb2;go_wp21;rw[<-G.out,<-I.out];refine(HS12.ob _ [fU] (.hH 142) (by rfl) (by rfl) rfl).mono ?_;rintro e a4 ⟨rfl,A⟩;go_wp21;refine(A.ob _ [gF] (.hH 143) (by rfl) (by rfl) rfl).mono ?_;rintro e a5 ⟨rfl,B⟩;go_wp21;refine(B.made (yn bm bB bD 141 _) nofun).mono ?_;rintro e a6 ⟨ac,aa,af,rfl,l⟩;go_wp21;refine(l.ob _ [iW] (.ends 141) (by rfl) (by rfl) (l.at (by simp))).mono ?_;rintro e a7 ⟨rfl,d⟩;have HF:=jz (sp:=Bo) (v0:= .nilFunc) (v1:= .func (.func 137) #[iq bB] #[]) (v2:= .func f1 a1 l1) (v3:= .nilFunc) (v4:= .nilFunc) (v5:= .map (some b1)) (v6:= .map (some b2)) (v7:= .nilFunc) (v8:= .nilFunc) (v9:= .func (.func 88) #[] #[]) d.g d.k ⟨rfl,rfl,(d.at (r:= .gM 96 true) (by simp)),rfl,rfl,(d.pB (by simp)),(d.pB (by simp)),rfl,rfl,rfl⟩ _ rfl;have⟨q0,q1,q2,q3,q4,q5,q6,q7,q8,q9⟩:=kH d.g;have u:=gh d.g;go_wp2;exact kN results74 rfl rfl HF
def tA:lE:={start:=some [([gp,fQ,fW,fX,fZ,gX,il,im],(.ahead 141))],stop:=some [([gp,fQ,fW,fX,fZ,gX,il,im],(.LZ (.ahead 141)))],ik:= .pO 14}
def Fp (bm bB bD:Nat) (w:gm) (U:BD bB bD w) (W:yq w) (J:bm < w.heap.size):
  Calls prog 75 #[iq bB] w (jN bm bB bD tA w):=by
 have V:=@run_makeMap prog;have⟨W0,hW0,HS0⟩:=St.start bm bB bD w W J;have⟨yr,hBl⟩:=U;have A:=fM hW0;clear hW0;go_enter func75,ntmps75;have⟨W1,b1,hW1,hb1,HS1⟩:=HS0.map;have H:=fM hW1;have B:=fM hb1;clear hW1 hb1;go_wp21;rw[<-A.out];rw[<-H.out,show w.heap.size+1=b1 by rw[B.out,A.out];simp];refine(HS1.made (oO bm bB bD 141 _) nofun).mono ?_;rintro e Z ⟨f2,a2,l2,rfl,h⟩;go_wp21;refine(h.ob _ [gp,fQ,fW,fX,fZ,gX,il,im] (.ahead 141) (by rfl) (by rfl) (h.at (by simp))).mono ?_;rintro e W3 ⟨rfl,F⟩;have⟨W4,b2,hW4,hb2,HS4⟩:=F.map;have I:=fM hW4;have D:=fM hb2;clear hW4 hb2;go_wp21;rw[<-I.out,<-D.out];refine(HS4.made (oO bm bB bD 141 _) nofun).mono ?_;rintro e W5 ⟨f5,a5,l5,rfl,l⟩;go_wp21;refine(l.made (Ll bm bB bD (.ahead 141) _ _ (by simp) (l.at (by simp))) nofun).mono ?_;rintro e W6 ⟨f6,a6,l6,rfl,q⟩;go_wp21;refine(q.ob _ [gp,fQ,fW,fX,fZ,gX,il,im] (.LZ (.ahead 141)) (by rfl) (by rfl) (q.at (by simp))).mono ?_;rintro e W7 ⟨rfl,G⟩;go_wp21;refine(G.made (p5 bm bB bD 14 _) nofun).mono ?_;rintro e W8 ⟨O,N,Y,rfl,d⟩;have K:=jz (sp:=tA) (v0:= .nilFunc) (v1:= .nilFunc) (v2:= .nilFunc) (v3:= .nilFunc) (v4:= .nilFunc) (v5:= .map (some b1)) (v6:= .map (some b2)) (v7:= .nilFunc) (v8:= .nilFunc) (v9:= .func O N Y) d.g d.k ⟨rfl,rfl,rfl,rfl,rfl,(d.pB (by simp)),(d.pB (by simp)),rfl,rfl,(d.at (r:= .pO 14) (by simp))⟩ _ rfl;have⟨q0,q1,q2,q3,q4,q5,q6,q7,q8,q9⟩:=kH d.g;have u:=gh d.g;go_wp2;exact kN results75 rfl rfl K
def mX (z:jA) (d f a:Int) (v:gG) (bD:Nat):jA:=((((z.setIfInBounds 0 (fV d)).setIfInBounds 1 (fV f)).setIfInBounds 2 (fV a)).setIfInBounds 3 v).setIfInBounds 187 (iq bD)
def sW:Tryz.zeroCells175.size=199:=by rfl
def Cz (z:jA) (d f a:Int) (v:gG) (bD:Nat):(mX z d f a v bD).size=z.size:=by
 simp[mX]
theorem yj (z:jA) (d f a:Int) (v:gG) (bD i:Nat) (h:4<=i) (l:i≠187):(mX z d f a v bD)[i]?=z[i]?:=by
 simp only[mX,DZ];grind
def ut:List lE:=[{blank:= .nothing,gM:= .gM 90 false,iE:= .hH 91,ik:= .hH 92},lH,lK,lZ,mM,rQ,kO,DQ,ld,zZ,rP,pE,Bn,GB,Bo,tA,wS,nU 90 false]
def n4.one {r : Ru} (h:n4 bm bB bD r v w):v.oneCell'=true:=by
 by_cases d:r= .nil
 .subst d;have:v= .nilFunc:=h;subst this;rfl
 .obtain⟨f,a,l,rfl⟩:=h.func d;rfl
def sn.one {R : Option (List (List fY×Ru))} (h:sn bm bB bD R v w):v.oneCell'=true:=by
 cases R with
 |none=>have:v= .map none:=h;subst this;rfl
 |some R=>obtain⟨b,L,rfl,_⟩:=h;rfl
def kX.one (h:kX bm bB bD sp v0 v1 v2 v3 v4 v5 v6 v7 v8 v9 w):∀v∈[v0,v1,v2,v3,v4,v5,v6,v7,v8,v9],v.oneCell'=true:=by
 intro v d;simp at d;rcases d with rfl|rfl|rfl|rfl|rfl|rfl|rfl|rfl|rfl|rfl
 .exact h.blank.one
 .exact h.kg.one
 .exact h.gM.one
 .exact h.iE.one
 .exact h.ie.one
 .exact h.start.one
 .exact h.stop.one
 .exact h.jP.one
 .exact h.j8.one
 .exact h.ik.one
theorem kX.ab3 {s : Nat} (h:kX bm bB bD sp v0 v1 v2 v3 v4 v5 v6 v7 v8 v9 w) (d:Kept [s] w w') (l:w.heap[s]?=some (gz c 175)):kX bm bB bD sp v0 v1 v2 v3 v4 v5 v6 v7 v8 v9 w':=
 have f:xk bm w w':=⟨_,d,λk q _=>by
  grind[Jp]⟩
 ⟨h.blank.fr f,h.kg.fr f,h.gM.fr f,h.iE.fr f,h.ie.fr f,h.start.KD d l f,h.stop.KD d l f,h.jP.fr f,h.j8.fr f,h.ik.fr f⟩
def BN (bm bB bD:Nat) (d:List gG) (W:gm):Prop:=d.length=180/\∀m sp,ut[m]?=some sp->∃v0 v1 v2 v3 v4 v5 v6 v7 v8 v9,(d.drop (10*m)).take 10=[v0,v1,v2,v3,v4,v5,v6,v7,v8,v9]/\kX bm bB bD sp v0 v1 v2 v3 v4 v5 v6 v7 v8 v9 W
def BN.ab3 {d : List gG} {s : Nat} (h:BN bm bB bD d w) (l:Kept [s] w w') (A:w.heap[s]?=some (gz c 175)):BN bm bB bD d w':=by
 refine⟨h.1,λm sp q=>?_⟩;have⟨v0,v1,v2,v3,v4,v5,v6,v7,v8,v9,e,hr⟩:=h.2 m sp q;exact⟨v0,v1,v2,v3,v4,v5,v6,v7,v8,v9,e,hr.ab3 l A⟩
section
variable {P:Program} {ops:Array Oper} {rest:List Oper} {o:Oper} {a:Act} {w:gm} {Q:Exit->Act->gm->Prop}
def Bz (A:o.guard=none) (d:Option Tmp) (q:o.dst=d) (v:gG) (B:(execOp a.eval o).run P w= .ok (.value v) w) (h:wpList P ops Q rest (a.put d v) w):wpList P ops Q (o::rest) a w:=by
 subst q;refine wpList_plain A λK l=>?_;unfold Oper.wp;rw[B];exact l _ _ h
end
structure ag4 (bm bB bD:Nat) (d f a:Int) (av:gG) (w W:gm):Prop where
 k:Kept [] w W
 new:w.heap.size<=bB
 iw:∃c6 cs v1 v2 v3,W.heap[bB]?=some (gz (jo c6 4 cs) 175)/\c6=((((mX Tryz.zeroCells175 d f a av bD).setIfInBounds 184 v1).setIfInBounds 185 v2).setIfInBounds 186 v3)/\BN bm bB bD cs W/\Ask bm v1 ly W/\Ask bm v2 vM W/\Ask bm v3 iJ W
 ye:W.heap[bD]?=some (gz #[gu jB,ji,.pointer none,ji] 135)
 ne:bD≠bB
 aj7:w.heap.size<=bD
def Z7 (d:gm) (bm:Nat) (c:jA) (l:gm) (h:l=((d.alloc (gz #[.map (some bm)] 87)).alloc (gz #[gu jB,ji,.pointer none,ji] 135)).alloc (gz c 175)):
  l.heap[d.heap.size]?=some (gz #[.map (some bm)] 87)/\l.heap[d.heap.size+1]?=some (gz #[gu jB,ji,.pointer none,ji] 135)/\l.heap[d.heap.size+1+1]?=some (gz c 175)/\Kept [] d l:=by
 have⟨h1,h2,h3⟩:=oS d (gz #[.map (some bm)] 87) (gz #[gu jB,ji,.pointer none,ji] 135) (gz c 175);subst h;exact⟨h1,h2,h3,(((Kept.refl _ _).alloc _).alloc _).alloc _⟩
theorem ZR {d : gm} (h:gm) (l:h=((d.setCell ⟨bB,184,none⟩ v1).setCell ⟨bB,185,none⟩ v2).setCell ⟨bB,186,none⟩ v3) (q:d.heap[bB]?=some (gz c 175)):h.heap[bB]?=some (gz (((c.setIfInBounds 184 v1).setIfInBounds 185 v2).setIfInBounds 186 v3) 175)/\Kept [bB] d h/\xk bm d h:=by
 have A:=fR q 184 v1;have B:=fR A 185 v2;have F:=fR B 186 v3;have k:Kept [bB] d h:=by
  rw[l];exact(((Kept.refl [bB] d).setCell (p:=⟨bB,184,none⟩) (.inl (by simp)) v1).setCell (p:=⟨bB,185,none⟩) (.inl (by simp)) v2).setCell (p:=⟨bB,186,none⟩) (.inl (by simp)) v3
 refine⟨by grind,k,⟨_,k,λx D _=>?_⟩⟩;have e:=List.mem_singleton.1 D;subst e;exact .inl ⟨_,_,_,q,by decide⟩
def ahY (d f a:Int) (af:Fn) (aa al:jA) (w:gm) (ht:yq w):
  Calls prog 45 #[.agg #[fV d,fV f,fV a],.func af aa al] w λe W=>∃bm bB bD,e=ig (iq bB)/\ag4 bm bB bD d f a (.func af aa al) w W:=by
 obtain⟨w0,fb,K0,g0,z0⟩:=tI w (gz #[fV d,fV f,fV a] 64);have HT:=fM ht;have f0:=fM fb;have ef:=fM K0;have eA:=fM g0;have fv:=fM z0;clear ht fb K0 g0 z0;go_enter func45,ntmps45;go_wp2_with fail;rw[<-f0.out];refine(CG _ (HT.out.fr (bm:=0) (.gN ef.out)).1).mono ?_;rintro e W1 ⟨bm,rfl,fa,I,f3⟩;have g1:=I.at eA.out (by simp);have c0:W1.cell? ⟨w.heap.size,0,none⟩=some (fV d):=(fN g1 0).trans rfl;have c1:W1.cell? ⟨w.heap.size,1,none⟩=some (fV f):=(fN g1 1).trans rfl;have c2:W1.cell? ⟨w.heap.size,2,none⟩=some (fV a):=(fN g1 2).trans rfl;have f9:=iQ g1;have eG:=fM fa;have eg:=fM (ef.out.trans I);have fl:=fM f3;clear fa I f3 g1;go_wp2_with fail;clear c0 c1 c2 f9;obtain⟨W2,em⟩:∃W,W=((W1.alloc (gz #[.map (some bm)] 87)).alloc (gz #[gu jB,ji,.pointer none,ji] 135)).alloc (gz (mX Tryz.zeroCells175 d f a (.func af aa al) (W1.heap.size+1)) 175):=⟨_,rfl⟩;obtain⟨gC,gD,gB,k2⟩:=Z7 W1 bm _ W2 em;change Code.wp _ _ _ _ (((W1.alloc (gz #[.map (some bm)] 87)).alloc (gz #[gu jB,ji,.pointer none,ji] 135)).alloc (gz (mX Tryz.zeroCells175 d f a (.func af aa al) (W1.heap.size+1)) 175));rw[<-em];clear em;obtain⟨bB,f4⟩:∃b,b=W1.heap.size+1+1:=⟨_,rfl⟩;obtain⟨bD,f7⟩:∃b,b=W1.heap.size+1:=⟨_,rfl⟩;obtain⟨bC,f5⟩:∃b,b=W1.heap.size:=⟨_,rfl⟩;rw[<-f4]at gB|-;rw[<-f7]at gB gD|-;rw[<-f5]at gC|-;have J:bC≠bB:=by omega
 have ed:=fM (show bD≠bB by omega);have eh:=fM (show w.heap.size<=bB/\w.heap.size<=bD by have:=eg.out.size;omega);have bU:=fM gC;have eD:=fM gD;have eC:=fM gB;have ek:=fM (eG.out.kept k2 (by simp));have eE:=fM (eg.out.trans k2);have ex:=fM (show bm < W2.heap.size by
  obtain⟨es,ck,ha,_⟩:=ek.out;exact(Array.getElem?_eq_some_iff.1 ha).1)
 clear gC gD gB k2 f4 f7 f5 eG;have CA:Hid (∀(c:Nat) (W:gm),c < 16->Kept [] W2 W->Calls prog 32 #[.agg #[.map (some bm)],fV c] W λe w'=>(∃v,e=ig v/\Ask bm v (Xi qM c) w')/\Kept [] W w'):=fM (λc W hc l=>WI bm c qM W (ek.out.kept l (by simp)) hc WU);have fK:W2.cell? ⟨bC,0,none⟩=some (.map (some bm)):=(fN bU.out 0).trans rfl
 go_region_held3 (λw'=>w'.cell? ⟨bC,0,none⟩=some (.map (some bm))) ((first|assumption|go_keep|exact(lf J).trans (by assumption)|exact(lf J).trans ((lf J).trans (by assumption))|exact(lf J).trans ((lf J).trans ((lf J).trans (by assumption))))) ((first|(go_at_call 32;refine(CA.out 2 _ (by decide) (Kept.refl _ _).drew).mono ?_;rintro e W3 ⟨⟨v1,rfl,eo⟩,I⟩;obtain⟨fd,fc,fe,g3⟩:=eo.func;subst g3;have eu:=fM eo;have bO:Hid (Kept [] W2 W3):=fM (Kept.trans (Kept.refl _ _).drew I);have fL:W3.cell? ⟨bC,0,none⟩=some (.map (some bm)):=(fN (bO.out.at bU.out (by simp)) 0).trans rfl;have ez:=fM (xk.gN (bm:=bm) I);clear eo I)|(go_at_call 32;refine(CA.out 4 _ (by decide) bO.out).mono ?_;rintro e W4 ⟨⟨v2,rfl,ep⟩,er⟩;obtain⟨g9,g7,gc,g4⟩:=ep.func;subst g4;have ev:=fM ep;have bP:Hid (Kept [] W2 W4):=fM (Kept.trans bO.out er);have fT:W4.cell? ⟨bC,0,none⟩=some (.map (some bm)):=(fN (bP.out.at bU.out (by simp)) 0).trans rfl;have dS:=fM (xk.gN (bm:=bm) er);clear ep er)|(go_at_call 32;refine(CA.out 8 _ (by decide) bP.out).mono ?_;rintro e W5 ⟨⟨v3,rfl,eq⟩,et⟩;obtain⟨gb,g8,gd,g5⟩:=eq.func;subst g5;have ew:=fM eq;have F:Hid (Kept [] W2 W5):=fM (Kept.trans bP.out et);have g2:W5.cell? ⟨bC,0,none⟩=some (.map (some bm)):=(fN (F.out.at bU.out (by simp)) 0).trans rfl;have bT:=fM (xk.gN (bm:=bm) et);clear eq et;have H:=fM (F.out.at eC.out (by simp));have ff:W5.cell? ⟨bB,184,none⟩=some .nilFunc:=(fN H.out 184).trans ((yj _ d f a _ bD 184 (by decide) (by decide)).trans (by kernel_rfl));have fi:=gh H.out 184;have fg:W5.cell? ⟨bB,185,none⟩=some .nilFunc:=(fN H.out 185).trans ((yj _ d f a _ bD 185 (by decide) (by decide)).trans (by kernel_rfl));have fj:=gh H.out 185;have fh:W5.cell? ⟨bB,186,none⟩=some .nilFunc:=(fN H.out 186).trans ((yj _ d f a _ bD 186 (by decide) (by decide)).trans (by kernel_rfl));have fk:=gh H.out 186)))
 obtain⟨W6,en⟩:∃W,W=((W5.setCell ⟨bB,184,none⟩ (.func fd fc fe)).setCell ⟨bB,185,none⟩ (.func g9 g7 gc)).setCell ⟨bB,186,none⟩ (.func gb g8 gd):=⟨_,rfl⟩;rw[<-en];obtain⟨g6,k6,f6⟩:=ZR (bm:=bm) W6 en H.out;have K6:Kept [] w W6:=(eE.out.trans F.out).next k6 (λx hx=> .inr (by rw[List.mem_singleton.1 hx];exact eh.out.1))
 have A1:=eu.out.fr (dS.out.trans (bT.out.trans f6));have A2:=ev.out.fr (bT.out.trans f6);have A3:=ew.out.fr f6;have f8:W6.heap[bD]?=some (gz #[gu jB,ji,.pointer none,ji] 135):=k6.at (F.out.at eD.out (by simp)) (by have:=ed.out;simpa using this);have e4:bm < W6.heap.size:=lU (lU ex.out F.out.size) k6.size;have q:Hid (∀W,Kept [] W6 W->BD bB bD W/\BS bm bB W/\yq W/\bm < W.heap.size):=by
  have b0:BD bB bD W6:=⟨(fN g6 187).trans (by
   simp only[mX,DZ,Uc,sW];rfl),iQ g6⟩
  have b1:BS bm bB W6:=⟨iQ g6,.func fd fc fe,(fN g6 184).trans (by
   simp only[mX,DZ,Uc,sW];rfl),A1⟩
  exact fM (λW l=>⟨b0.ib l,b1.ib l,HT.out.fr (.gN (bm:=bm) (K6.trans l)),lU e4 l.size⟩)
 have dN:=fM (And.intro A1 (And.intro A2 A3));have eB:=fM g6;have eF:=fM K6;have ey:=fM f8;have dR:=fM eh.out;have ee:=fM ed.out;have dO:Hid (Kept [] W6 W6):=fM (Kept.refl _ _);clear en g6 k6 f6 K6 A1 A2 A3 f8 e4 fK fL fT g2 ff fg fh fi fj fk H bO bP F ez dS bT eu ev ew bU eD eC ek eE ex fl eg f0 ef eA fv HT CA J ed eh;go_wp2_with fail;refine(ZI bm bB bD _ (q.out _ dO.out).1 (q.out _ dO.out).2.2.1 (q.out _ dO.out).2.2.2).mono ?_;rintro e W7 ⟨bZ,c3,c4,c5,c6,c7,c8,c9,ca,cb,rfl,B,l⟩;have eP:=fM B;have dP:=fM (dO.out.trans l);have ge:=fM l;clear B l;go_wp2_with fail;refine(PO bm bB bD _ (q.out _ dP.out).1 (q.out _ dP.out).2.2.1 (q.out _ dP.out).2.2.2).mono ?_;rintro e W8 ⟨cc,cf,cg,ch,ci,cj,cl,cm,cn,co,rfl,B,l⟩;have eQ:=fM B;have dQ:=fM (dP.out.trans l);have fm:=fM l;clear B l;go_wp2_with fail;refine(PQ bm bB bD _ (q.out _ dQ.out).1 (q.out _ dQ.out).2.2.1 (q.out _ dQ.out).2.2.2).mono ?_;rintro e W9 ⟨cp,cq,cr,ct,cu,cv,cx,cy,cz,cA,rfl,B,l⟩;have eR:=fM B;have bu:=fM (dQ.out.trans l);have fn:=fM l;clear B l;go_wp2_with fail;refine(acM bm bB bD _ (q.out _ bu.out).1 (q.out _ bu.out).2.2.1 (q.out _ bu.out).2.2.2).mono ?_;rintro e fw ⟨cB,cC,cD,cE,cF,cG,cH,cI,cJ,cK,rfl,B,l⟩;have eS:=fM B;have bv:=fM (bu.out.trans l);have fo:=fM l;clear B l;go_wp2_with fail;refine(SZ bm bB bD _ (q.out _ bv.out).1 (q.out _ bv.out).2.2.1 (q.out _ bv.out).2.2.2).mono ?_;rintro e fx ⟨cL,cM,cN,cO,cP,cQ,cR,cS,cT,cU,rfl,B,l⟩;have eT:=fM B;have bw:=fM (bv.out.trans l);have fp:=fM l;clear B l;go_wp2_with fail;refine(acN bm bB bD _ (q.out _ bw.out).1 (q.out _ bw.out).2.2.1 (q.out _ bw.out).2.2.2).mono ?_;rintro e fy ⟨cV,cW,cX,cY,cZ,d0,d1,d2,d3,d4,rfl,B,l⟩;have eU:=fM B;have bx:=fM (bw.out.trans l);have fq:=fM l;clear B l;go_wp2_with fail;refine(acK bm bB bD _ (q.out _ bx.out).2.1 (q.out _ bx.out).2.2.1 (q.out _ bx.out).2.2.2).mono ?_;rintro e fz ⟨d5,d6,d7,d8,d9,da,db,dc,dd,de,rfl,B,l⟩;have eV:=fM B;have bz:=fM (bx.out.trans l);have fr:=fM l;clear B l;go_wp2_with fail;refine(ZH bm bB bD _ (q.out _ bz.out).1 (q.out _ bz.out).2.2.1 (q.out _ bz.out).2.2.2).mono ?_;rintro e fA ⟨df,dg,dh,di,dj,dk,dl,dm,dp,dq,rfl,B,l⟩;have eW:=fM B;have bA:=fM (bz.out.trans l);have fs:=fM l;clear B l;go_wp2_with fail;refine(MM bm bB bD _ (q.out _ bA.out).1 (q.out _ bA.out).2.2.1 (q.out _ bA.out).2.2.2).mono ?_;rintro e fB ⟨dr,ds,dt,du,dv,dw,dx,dy,dz,dA,rfl,B,l⟩;have eX:=fM B;have bE:=fM (bA.out.trans l);have ft:=fM l;clear B l;go_wp2_with fail;refine(S3 bm bB bD _ (q.out _ bE.out).1 (q.out _ bE.out).2.2.1 (q.out _ bE.out).2.2.2).mono ?_;rintro e fC ⟨dB,dD,dE,dF,dG,dH,dJ,dK,dL,dM,rfl,B,l⟩;have eY:=fM B;have bF:=fM (bE.out.trans l);have fu:=fM l;clear B l;go_wp2_with fail;refine(IL bm bB bD _ (q.out _ bF.out).1 (q.out _ bF.out).2.2.1 (q.out _ bF.out).2.2.2).mono ?_;rintro e fD ⟨K,N,O,U,V,Y,Z,a0,a1,a2,rfl,B,l⟩;have dU:=fM B;have bG:=fM (bF.out.trans l);have eH:=fM l;clear B l;go_wp2_with fail;refine(ML bm bB bD _ (q.out _ bG.out).1 (q.out _ bG.out).2.2.1 (q.out _ bG.out).2.2.2).mono ?_;rintro e fE ⟨a3,a4,a5,a6,a7,a8,a9,ab,ac,ad,rfl,B,l⟩;have dV:=fM B;have bH:=fM (bG.out.trans l);have eI:=fM l;clear B l;go_wp2_with fail;refine(afv bm bB bD _ (q.out _ bH.out).1 (q.out _ bH.out).2.2.1 (q.out _ bH.out).2.2.2).mono ?_;rintro e fF ⟨ae,ag,ah,ai,aj,ak,an,ao,ap,aq,rfl,B,l⟩;have dW:=fM B;have bI:=fM (bH.out.trans l);have eJ:=fM l;clear B l;go_wp2_with fail;refine(acL bm bB bD _ (q.out _ bI.out).1 (q.out _ bI.out).2.2.1 (q.out _ bI.out).2.2.2).mono ?_;rintro e fG ⟨ar,au,aw,ax,ay,az,aA,aB,aC,aD,rfl,B,l⟩;have dX:=fM B;have bJ:=fM (bI.out.trans l);have eK:=fM l;clear B l;go_wp2_with fail;refine(VN bm bB bD _ (q.out _ bJ.out).1 (q.out _ bJ.out).2.2.1 (q.out _ bJ.out).2.2.2).mono ?_;rintro e fH ⟨aE,aF,aG,aH,aI,aJ,aK,aL,aM,aN,rfl,B,l⟩;have dY:=fM B;have bK:=fM (bJ.out.trans l);have eL:=fM l;clear B l;go_wp2_with fail;refine(Fp bm bB bD _ (q.out _ bK.out).1 (q.out _ bK.out).2.2.1 (q.out _ bK.out).2.2.2).mono ?_;rintro e fI ⟨aO,aP,aQ,aR,aS,aT,aU,aV,aW,aX,rfl,B,l⟩;have dZ:=fM B;have bL:=fM (bK.out.trans l);have eM:=fM l;clear B l;go_wp2_with fail;refine(SY bm bB bD _ (q.out _ bL.out).1 (q.out _ bL.out).2.2.1 (q.out _ bL.out).2.2.2).mono ?_;rintro e fJ ⟨aY,aZ,ba,bb,bc,bd,be,bf,bg,bh,rfl,B,l⟩;have e0:=fM B;have bM:=fM (bL.out.trans l);have eN:=fM l;clear B l;go_wp2_with fail;refine(Gu bm bB bD _ (q.out _ bM.out).1 (q.out _ bM.out).2.2.1 (q.out _ bM.out).2.2.2).mono ?_;rintro e A ⟨bi,bj,bk,bl,bn,bo,bp,bq,br,bt,rfl,B,l⟩;have e3:=fM B;have bN:=fM (bM.out.trans l);have eO:=fM l;clear B l;have ec:Kept [] A A:=Kept.refl _ _;have eb:Kept [] fJ A:=eO.out.trans ec;have ea:Kept [] fI A:=eN.out.trans eb;have e9:Kept [] fH A:=eM.out.trans ea;have e8:Kept [] fG A:=eL.out.trans e9;have e7:Kept [] fF A:=eK.out.trans e8;have e6:Kept [] fE A:=eJ.out.trans e7;have e5:Kept [] fD A:=eI.out.trans e6;have E9:Kept [] fC A:=eH.out.trans e5;have E8:Kept [] fB A:=fu.out.trans E9;have E7:Kept [] fA A:=ft.out.trans E8;have E6:Kept [] fz A:=fs.out.trans E7;have E5:Kept [] fy A:=fr.out.trans E6;have E4:Kept [] fx A:=fq.out.trans E5;have E3:Kept [] fw A:=fp.out.trans E4;have E2:Kept [] W9 A:=fo.out.trans E3;have E1:Kept [] W8 A:=fn.out.trans E2;have E0:Kept [] W7 A:=fm.out.trans E1;obtain⟨cs,bS⟩:∃c:List gG,c=[bZ,c3,c4,c5,c6,c7,c8,c9,ca,cb,cc,cf,cg,ch,ci,cj,cl,cm,cn,co,cp,cq,cr,ct,cu,cv,cx,cy,cz,cA,cB,cC,cD,cE,cF,cG,cH,cI,cJ,cK,cL,cM,cN,cO,cP,cQ,cR,cS,cT,cU,cV,cW,cX,cY,cZ,d0,d1,d2,d3,d4,d5,d6,d7,d8,d9,da,db,dc,dd,de,df,dg,dh,di,dj,dk,dl,dm,dp,dq,dr,ds,dt,du,dv,dw,dx,dy,dz,dA,dB,dD,dE,dF,dG,dH,dJ,dK,dL,dM,K,N,O,U,V,Y,Z,a0,a1,a2,a3,a4,a5,a6,a7,a8,a9,ab,ac,ad,ae,ag,ah,ai,aj,ak,an,ao,ap,aq,ar,au,aw,ax,ay,az,aA,aB,aC,aD,aE,aF,aG,aH,aI,aJ,aK,aL,aM,aN,aO,aP,aQ,aR,aS,aT,aU,aV,aW,aX,aY,aZ,ba,bb,bc,bd,be,bf,bg,bh,bi,bj,bk,bl,bn,bo,bp,bq,br,bt]:=⟨_,rfl⟩;have HC:=fM bS;have el:Hid (BN bm bB bD cs A):=by
  refine fM ⟨by rw[bS];rfl,?_⟩;rw[bS];intro m sp G;have f9:m < 18:=(List.getElem?_eq_some_iff.1 G).1;obtain rfl|rfl|rfl|rfl|rfl|rfl|rfl|rfl|rfl|rfl|rfl|rfl|rfl|rfl|rfl|rfl|rfl|rfl:m=0\/m=1\/m=2\/m=3\/m=4\/m=5\/m=6\/m=7\/m=8\/m=9\/m=10\/m=11\/m=12\/m=13\/m=14\/m=15\/m=16\/m=17:=by omega
  .have e:=jv G;subst e;exact⟨_,_,_,_,_,_,_,_,_,_,rfl,eP.out.ib E0⟩
  .have e:=jv G;subst e;exact⟨_,_,_,_,_,_,_,_,_,_,rfl,eQ.out.ib E1⟩
  .have e:=jv G;subst e;exact⟨_,_,_,_,_,_,_,_,_,_,rfl,eR.out.ib E2⟩
  .have e:=jv G;subst e;exact⟨_,_,_,_,_,_,_,_,_,_,rfl,eS.out.ib E3⟩
  .have e:=jv G;subst e;exact⟨_,_,_,_,_,_,_,_,_,_,rfl,eT.out.ib E4⟩
  .have e:=jv G;subst e;exact⟨_,_,_,_,_,_,_,_,_,_,rfl,eU.out.ib E5⟩
  .have e:=jv G;subst e;exact⟨_,_,_,_,_,_,_,_,_,_,rfl,eV.out.ib E6⟩
  .have e:=jv G;subst e;exact⟨_,_,_,_,_,_,_,_,_,_,rfl,eW.out.ib E7⟩
  .have e:=jv G;subst e;exact⟨_,_,_,_,_,_,_,_,_,_,rfl,eX.out.ib E8⟩
  .have e:=jv G;subst e;exact⟨_,_,_,_,_,_,_,_,_,_,rfl,eY.out.ib E9⟩
  .have e:=jv G;subst e;exact⟨_,_,_,_,_,_,_,_,_,_,rfl,dU.out.ib e5⟩
  .have e:=jv G;subst e;exact⟨_,_,_,_,_,_,_,_,_,_,rfl,dV.out.ib e6⟩
  .have e:=jv G;subst e;exact⟨_,_,_,_,_,_,_,_,_,_,rfl,dW.out.ib e7⟩
  .have e:=jv G;subst e;exact⟨_,_,_,_,_,_,_,_,_,_,rfl,dX.out.ib e8⟩
  .have e:=jv G;subst e;exact⟨_,_,_,_,_,_,_,_,_,_,rfl,dY.out.ib e9⟩
  .have e:=jv G;subst e;exact⟨_,_,_,_,_,_,_,_,_,_,rfl,dZ.out.ib ea⟩
  .have e:=jv G;subst e;exact⟨_,_,_,_,_,_,_,_,_,_,rfl,e0.out.ib eb⟩
  .have e:=jv G;subst e;exact⟨_,_,_,_,_,_,_,_,_,_,rfl,e3.out.ib ec⟩
 have dT:Hid (cs.toArray.all (·.oneCell')=true):=by
  refine fM (all_oneCell_toArray ?_);rw[bS,show[bZ,c3,c4,c5,c6,c7,c8,c9,ca,cb,cc,cf,cg,ch,ci,cj,cl,cm,cn,co,cp,cq,cr,ct,cu,cv,cx,cy,cz,cA,cB,cC,cD,cE,cF,cG,cH,cI,cJ,cK,cL,cM,cN,cO,cP,cQ,cR,cS,cT,cU,cV,cW,cX,cY,cZ,d0,d1,d2,d3,d4,d5,d6,d7,d8,d9,da,db,dc,dd,de,df,dg,dh,di,dj,dk,dl,dm,dp,dq,dr,ds,dt,du,dv,dw,dx,dy,dz,dA,dB,dD,dE,dF,dG,dH,dJ,dK,dL,dM,K,N,O,U,V,Y,Z,a0,a1,a2,a3,a4,a5,a6,a7,a8,a9,ab,ac,ad,ae,ag,ah,ai,aj,ak,an,ao,ap,aq,ar,au,aw,ax,ay,az,aA,aB,aC,aD,aE,aF,aG,aH,aI,aJ,aK,aL,aM,aN,aO,aP,aQ,aR,aS,aT,aU,aV,aW,aX,aY,aZ,ba,bb,bc,bd,be,bf,bg,bh,bi,bj,bk,bl,bn,bo,bp,bq,br,bt]=[bZ,c3,c4,c5,c6,c7,c8,c9,ca,cb]++([cc,cf,cg,ch,ci,cj,cl,cm,cn,co]++([cp,cq,cr,ct,cu,cv,cx,cy,cz,cA]++([cB,cC,cD,cE,cF,cG,cH,cI,cJ,cK]++([cL,cM,cN,cO,cP,cQ,cR,cS,cT,cU]++([cV,cW,cX,cY,cZ,d0,d1,d2,d3,d4]++([d5,d6,d7,d8,d9,da,db,dc,dd,de]++([df,dg,dh,di,dj,dk,dl,dm,dp,dq]++([dr,ds,dt,du,dv,dw,dx,dy,dz,dA]++([dB,dD,dE,dF,dG,dH,dJ,dK,dL,dM]++([K,N,O,U,V,Y,Z,a0,a1,a2]++([a3,a4,a5,a6,a7,a8,a9,ab,ac,ad]++([ae,ag,ah,ai,aj,ak,an,ao,ap,aq]++([ar,au,aw,ax,ay,az,aA,aB,aC,aD]++([aE,aF,aG,aH,aI,aJ,aK,aL,aM,aN]++([aO,aP,aQ,aR,aS,aT,aU,aV,aW,aX]++([aY,aZ,ba,bb,bc,bd,be,bf,bg,bh]++([bi,bj,bk,bl,bn,bo,bp,bq,br,bt])))))))))))))))))from rfl];simp only[List.mem_append];rintro v (h|h|h|h|h|h|h|h|h|h|h|h|h|h|h|h|h|h)
  .exact eP.out.one v h
  .exact eQ.out.one v h
  .exact eR.out.one v h
  .exact eS.out.one v h
  .exact eT.out.one v h
  .exact eU.out.one v h
  .exact eV.out.one v h
  .exact eW.out.one v h
  .exact eX.out.one v h
  .exact eY.out.one v h
  .exact dU.out.one v h
  .exact dV.out.one v h
  .exact dW.out.one v h
  .exact dX.out.one v h
  .exact dY.out.one v h
  .exact dZ.out.one v h
  .exact e0.out.one v h
  .exact e3.out.one v h
 have D:=fM (bN.out.at eB.out (by simp));have eZ:Hid (A.there bB 4 cs.toArray.size):=by
  refine fM (λj hj=>⟨?_,gh D.out _⟩);have:cs.toArray.size=180:=by rw[bS];rfl
  rw[fN D.out,xP (by simp only[Uc,Cz,sW];omega)];rfl
 clear E0 E1 E2 E3 E4 E5 E6 E7 E8 E9 e5 e6 e7 e8 e9 ea eb ec;rename_i KK bW;refine bW _ _ ?_;clear bW;refine wpList_buildTo rfl 168 _ rfl _ rfl cs.toArray (by rw[HC.out];kernel_rfl) ?_;clear HC bS;refine Bz rfl _ rfl (iq bB) (by kernel_rfl) ?_;refine Bz rfl _ rfl (jG bB 4) (by kernel_rfl) ?_;refine wpList_store_mid rfl 168 _ _ rfl bB 4 cs.toArray rfl rfl eZ.out (by rw[show cs.toArray.size=180 from el.out.1];kernel_rfl) dT.out ?_;obtain⟨bR,bQ⟩:∃W,W=A.setCells bB 4 cs.toArray.toList:=⟨_,rfl⟩;rw[<-bQ];have bY:Kept [bB] A bR:=by rw[bQ];exact Kept.setCells (.inl (by simp)) _ _ (Kept.refl _ _)
 have f2:xk bm A bR:=⟨_,bY,λx hx _=>by
  have e:=List.mem_singleton.1 hx;subst e;exact .inl ⟨_,_,_,D.out,by decide⟩⟩
 have f1:Kept [] w bR:=(eF.out.trans bN.out).next bY (λx hx=> .inr (by rw[List.mem_singleton.1 hx];exact dR.out.1))
 have bX:=kC cs A bB _ _ _ 4 D.out;rw[show A.setCells bB 4 cs=bR from bQ.symm]at bX;have FN:Hid (ag4 bm bB bD d f a (.func af aa al) w bR):=by
  have f6:xk bm W6 bR:=(xk.gN bN.out).trans f2;exact fM ⟨f1,dR.out.1,⟨_,cs,_,_,_,bX,rfl,el.out.ab3 bY D.out,dN.out.1.fr f6,dN.out.2.1.fr f6,dN.out.2.2.fr f6⟩,bY.at (bN.out.at ey.out (by simp)) (by have:=ee.out;simpa using this),ee.out,dR.out.2⟩
 clear bY f2 f1 bX bQ el dT D eZ dN eB eF ey dR ee q;generalize Value.agg cs.toArray=gf;rename_i KK bW;refine bW _ _ ?_;clear bW;simp only[Act.put,List.setIfInBounds_toArray,List.set_cons_zero,List.set_cons_succ];go_wp2;go_ret;exact⟨bm,bB,bD,rfl,FN.out⟩
structure Loc where
 gI:Nat->Nat
 av:Nat->gG
 kv:Nat->gG
 ov:gG
 cv:gG
 wv:gG
structure Env where
 bm:Nat
 bB:Nat
 bR:Nat
 C0:jA
 R0:jA
 Gd:Nat
 w0:gm
 tv:gG
 ta:la
 bs:Nat
 wv:Option (gG×List (Nat×Nat×fY)):=none
variable {E : Env}
def Nd.map (f:Nat->Nat):Nd->Nd
 | .el k=> .el (f k)
 | .tx k=> .tx (f k)
 | .cm k=> .cm (f k)
 | .dt k=> .dt (f k)
variable {ks : List Nd}
abbrev ir (f:Nat->Nat) (x:iY):iY:=x.map f
def flat (gx:la):List gG:=gx.flatMap λa=>[gu a.1,gu a.2]
abbrev zr (w:gm) (v:gG) (gx:la):Prop:=w.ownsRow 0 293 2 v gx.length (flat gx)
abbrev OS (x:Nat×Nat×fY):gG:= .iface 183 (.agg #[fV x.1,fV x.2.1,gu x.2.2])
def li (bs:Nat) (L:Loc) (w:gm) (i:Nat):AJ->Prop
 | .el e=>El bs w (L.gI i) e.name (L.av i) (ir L.gI e.je) (L.kv i) (e.kids.map (Nd.map L.gI))/\zr w (L.av i) e.gO/\e.gO.length<=4096
 | .tx s=>w.heap[L.gI i]?=some (gz #[gu s] 278)
 | .cm s=>w.heap[L.gI i]?=some (gz #[gu s] 233)
 | .dt s=>w.heap[L.gI i]?=some (gz #[gu s] 237)
structure jt (E:Env) (L:Loc) (σ:Ab) (C:jA):Prop where
 size:C.size=199
 low:∀i,i < 188->C[i]?=E.C0[i]?
 gq:C[188]?=some L.ov
 act:C[189]?=some L.cv
 head:C[190]?=some (ku (ir L.gI σ.head))
 form:C[191]?=some (ku (ir L.gI σ.form))
 mode:C[192]?=some (fV σ.mode)
 kept:C[193]?=some (fV σ.kept)
 wait:C[194]?=some L.wv
 Kg:C[195]?=some (.bool σ.iL)
 jJ:C[196]?=some (.bool σ.jJ)
 gI:C[197]?=some (fV σ.gI)
 behind:C[198]?=some (.bool σ.behind)
structure QG (E:Env) (bD:Nat):Prop where
 Ij:∃cs,(∀k,k < 180->E.C0[4+k]?=cs[k]?)/\BN E.bm E.bB bD cs E.w0
 X1:E.C0[3]?=some (.func (.func 46) #[gE E.bR] #[])
 spec:∃v,E.C0[184]?=some v/\Ask E.bm v ly E.w0
 Zd:∃v,E.C0[185]?=some v/\Ask E.bm v vM E.w0
 YI:∃v,E.C0[186]?=some v/\Ask E.bm v iJ E.w0
 ye:E.C0[187]?=some (gE bD)
structure Rel (E:Env) (L:Loc) (σ:Ab) (w:gm):Prop where
 fr:Fr E.bs E.w0 w
 env:QG E (L.gI 0)
 Fb:E.C0[0]?=some (fV σ.qu)/\E.C0[1]?=some (fV σ.rH)/\E.C0[2]?=some (fV σ.pP)/\σ.qu<=64/\σ.rH<=32/\σ.pP<=16
 tX:∀i nd,σ.nodes[i]?=some nd->li E.bs L w i nd
 inj:∀i j,L.gI i=L.gI j->i=j
 BZ:∀i j g,i < σ.nodes.length->j < σ.nodes.length->i≠j->(L.kv i).ownBlock=some g->(L.kv j).ownBlock≠some g
 Hw:∀i,i < σ.nodes.length->σ.gV i=none->(L.kv i).ownBlock=none
 uq:∀i j e g,σ.gV i=some e->nG e.name=true->j < σ.nodes.length->i≠j->(L.av i).ownBlock=some g->(L.av j).ownBlock≠some g
 FX:∀i,i < σ.nodes.length->σ.gV i=none->(L.av i).ownBlock=none
 wf:Wf σ
 iw:∃C,w.heap[E.bB]?=some (gz C 175)/\jt E L σ C
 pR:w.ownsRow E.bs 65 1 L.ov σ.gq.length (σ.gq.map λx=>ku (ir L.gI x))
 qB:w.ownsRow E.bs 65 1 L.cv σ.act.length (σ.act.map λx=>ku (ir L.gI x))
 H9:∀g,L.ov.ownBlock=some g->L.cv.ownBlock≠some g
 x7:σ.gq.length<=4096
 F0:σ.act.length<=4096
 pI:w.ownsRow E.bs 120 1 L.wv σ.waiting.length (σ.waiting.map OS)
 M1:σ.waiting.length<=4096
 rd:w.heap[E.bR]?=some (gz ((E.R0.setIfInBounds E.Gd (gu σ.nT)).setIfInBounds (E.Gd+1) (.bool σ.iU)) 160)
 Tk:E.Gd+1 < E.R0.size
 tok:zr w E.tv E.ta
 MY:E.ta.length<=4096
 bz:E.bs<=E.w0.heap.size
 bB:E.bs<=E.bB
 bR:E.bs<=E.bR
 bN:∀i,i < σ.nodes.length->E.bs<=L.gI i
 BU:σ.fresh=true->∀i g,i < σ.nodes.length->E.tv.ownBlock=some g->(L.av i).ownBlock≠some g
 ab:∀i g,i < σ.nodes.length->(L.av i).ownBlock=some g->E.bs<=g
 tb:∀g,E.tv.ownBlock=some g->E.bs<=g
 M0:∀p,E.wv=some p->L.wv=p.1/\σ.waiting=p.2
def KT (bs:Nat) (T:List TypeId) (w w':gm):Prop:=∃S,Kept S w w'/\∀k∈S,k < w.heap.size->(∃c t m,w.heap[k]?=some (.cells c t m)/\t∈T)/\bs<=k
def KT.size (h:KT bs T w w'):w.heap.size<=w'.heap.size:=by have⟨S,hk,_⟩:=h;exact hk.size
def KT.jL (h:Kept S w w') (d:∀k∈S,k < w.heap.size->(∃c t m,w.heap[k]?=some (.cells c t m)/\t∈T)/\bs<=k):KT bs T w w':=⟨S,h,d⟩
def KT.gN (h:Kept [] w w'):KT bs T w w':=⟨[],h,λ_ d=>by cases d⟩
theorem KT.mono {d : List TypeId} (h:KT bs T w w') (l:∀t∈T,t∈d):KT bs d w w':=by
 grind[KT]
def KT.fr (h:KT bs T w w') (d:∀t∈T,t∈Ym):Fr bs w w':=h.mono d
theorem KT.at (h:KT bs T w w') {t : TypeId} (d:w.heap[g]?=some (.cells c t m)) (q:t∉T):w'.heap[g]?=some (.cells c t m):=by
 have⟨S,hk,hS⟩:=h;refine hk.at d λl=>?_;grind
theorem KT.row (h:KT bs T w w') {e : TypeId} {d : Nat} {xs : List gG} (A:w.ownsRow base e d v n xs) (G:e∉T):w'.ownsRow base e d v n xs:=by
 refine⟨A.1,?_⟩;rcases A.2 with H|⟨g,l,q,rfl,B,D,F⟩
 .grind
 .exact .inr ⟨g,l,q,rfl,B,h.at D G,F⟩
theorem sT {e : TypeId} {d : Nat} {xs : List gG} (A:w.ownsRow base e d v n xs) (h:v.ownBlock=some g):∃c m,w.heap[g]?=some (.cells c e m):=by
 rcases A.2 with⟨e1,_⟩|⟨B,l,q,rfl,_,D,_⟩
 .rw[e1]at h;cases h
 .obtain rfl:=jv h;grind
theorem DM {e : TypeId} {d : Nat} {xs : List gG} (q:w.ownsRow base e d v n xs) {t : TypeId} (A:w.heap[b]?=some (.cells c t m)) (B:t≠e):v.ownBlock≠some b:=by
 intro l;have⟨c',m',h⟩:=sT q l;grind
def DL {e : TypeId} {d : Nat} {xs : List gG} (l:w.ownsRow base e d v n xs) (h:v.ownBlock=some g):g < w.heap.size:=(l.lt g h).2
def Wx:List TypeId:=[135,137,278,233,237,293]
def li.kt {q : Nat} {L:Loc} {nd:AJ} (h:li q L w i nd) (l:KT bs T w w') (d:∀t∈Wx,t∉T):li q L w' i nd:=by
 cases nd with
 |el e=>exact⟨⟨l.at h.1.iw (d _ (by decide)),l.row h.1.row (d _ (by decide)),h.1.le,h.1.WJ⟩,l.row h.2.1 (d _ (by decide)),h.2.2⟩
 |tx s=>exact l.at h (d _ (by decide))
 |cm s=>exact l.at h (d _ (by decide))
 |dt s=>exact l.at h (d _ (by decide))
def li.kept {L:Loc} {nd:AJ} (h:li bs L w i nd) (d:Kept S w w') (l:L.gI i∉S) (q:∀g,(L.kv i).ownBlock=some g->g∉S) (A:∀g,(L.av i).ownBlock=some g->g∉S):li bs L w' i nd:=by
 cases nd with
 |el e=>exact⟨h.1.kept d l q,d.ownsRow h.2.1 A,h.2.2⟩
 |tx s=>exact d.at h l
 |cm s=>exact d.at h l
 |dt s=>exact d.at h l
def AJ.typ:AJ->TypeId
 | .el _=>135
 | .tx _=>278
 | .cm _=>233
 | .dt _=>237
variable {nd : AJ}
def li.typ {L:Loc} (h:li bs L w i nd):∃c,w.heap[L.gI i]?=some (gz c nd.typ):=by
 cases nd with
 |el e=>exact⟨_,h.1.iw⟩
 |tx s=>exact⟨_,h⟩
 |cm s=>exact⟨_,h⟩
 |dt s=>exact⟨_,h⟩
theorem sE (d:∀i j,f i=f j->i=j) (h:ir f x=ir f y):x=y:=by
 cases x<;>cases y<;>simp_all[ir];grind
theorem yU (f:Nat->Nat) (xs:kG) (n:Int):io (xs.map (ir f)) n=ir f (io xs n):=by
 grind[io]
theorem BV (d:∀i j,f i=f j->i=j) (x:iY):∀xs:kG,(xs.map (ir f)).idxOf (ir f x)=xs.idxOf x
 |[]=>rfl
 |y::xs=>by
  rw[yH,List.idxOf_cons,List.idxOf_cons,BV d x xs];by_cases h:y=x
  .grind
  .have l:ir f y≠ir f x:=λe=>h (sE d e);grind
def NW (d:∀i j,f i=f j->i=j) (xs:kG) (x:iY):posOf (xs.map (ir f)) (ir f x)=posOf xs x:=by
 unfold posOf;rw[BV d,wm]
theorem mem_map (d:∀i j,f i=f j->i=j) (xs:kG) (x:iY):ir f x∈xs.map (ir f)↔x∈xs:=by
 constructor
 .intro h;have⟨y,hy,e⟩:=List.mem_map.1 h;rw[<-sE d e];exact hy
 grind
theorem wV (d:∀i j,f i=f j->i=j) (x:iY):∀xs:kG,(xs.map (ir f)).erase (ir f x)=(xs.erase x).map (ir f)
 |[]=>rfl
 |y::xs=>by
  rw[yH,List.erase_cons,List.erase_cons,wV d x xs];by_cases h:y=x
  .grind
  .have l:ir f y≠ir f x:=λe=>h (sE d e);grind
def Lg (d:∀i j,f i=f j->i=j) (xs:kG) (x y:iY):qo (xs.map (ir f)) (ir f x) (ir f y)=(qo xs x y).map (ir f):=by
 unfold qo;rw[BV d];by_cases h:x∈xs
 .rw[gv h,gv ((mem_map d xs x).2 h),List.map_set]
 .rw[gH h,gH (λe=>h ((mem_map d xs x).1 e))]
def C5 (d:∀i j,f i=f j->i=j) (xs:kG) (x y:iY):ja (xs.map (ir f)) (ir f x) (ir f y)=(ja xs x y).map (ir f):=by
 unfold ja;rw[BV d];by_cases h:x∈xs
 .rw[gv h,gv ((mem_map d xs x).2 h)];simp
 .rw[gH h,gH (λe=>h ((mem_map d xs x).1 e))]
theorem NU (l:∀i j,f i=f j->i=j) (xs:kG) (x:iY):oh (xs.map (ir f)) (ir f x)=(oh xs x).map (ir f):=by
 have h:∀d:kG,(d.map (ir f)).dropWhile (·≠ir f x)=(d.dropWhile (·≠x)).map (ir f):=by
  intro d
  induction d with
  |nil=>rfl
  |cons y d ih=>
   rw[yH,List.dropWhile_cons,List.dropWhile_cons];by_cases h:y=x
   .grind
   .have q:ir f y≠ir f x:=λe=>h (sE l e);grind
 unfold oh;rw[<-nL,h];simp
theorem jt.afK {L:Loc} {σ:Ab} (h:jt E L σ C) (v:gG) (zs:kG):jt E {L with ov:=v} {σ with gq:=zs} (C.setIfInBounds 188 v):=by
 cases h;constructor<;>grind
theorem jt.afJ {L:Loc} {σ:Ab} (h:jt E L σ C) (v:gG) (zs:kG):jt E {L with cv:=v} {σ with act:=zs} (C.setIfInBounds 189 v):=by
 cases h;constructor<;>grind
theorem jt.zd {L:Loc} {σ:Ab} (h:jt E L σ C) (x:iY):jt E L {σ with head:=x} (C.setIfInBounds 190 (ku (ir L.gI x))):=by
 cases h;constructor<;>grind
theorem jt.vN {L:Loc} {σ:Ab} (h:jt E L σ C) (x:iY):jt E L {σ with form:=x} (C.setIfInBounds 191 (ku (ir L.gI x))):=by
 cases h;constructor<;>grind
theorem jt.jb {L:Loc} {σ:Ab} (h:jt E L σ C) (x:Nat):jt E L {σ with mode:=x} (C.setIfInBounds 192 (fV x)):=by
 cases h;constructor<;>grind
theorem jt.ze {L:Loc} {σ:Ab} (h:jt E L σ C) (x:Nat):jt E L {σ with kept:=x} (C.setIfInBounds 193 (fV x)):=by
 cases h;constructor<;>grind
theorem jt.ac2 {L:Loc} {σ:Ab} (h:jt E L σ C) (v:gG) (d:List (Nat×Nat×fY)):jt E {L with wv:=v} {σ with waiting:=d} (C.setIfInBounds 194 v):=by
 cases h;constructor<;>grind
theorem jt.zc {L:Loc} {σ:Ab} (h:jt E L σ C) (x:Bool):jt E L {σ with iL:=x} (C.setIfInBounds 195 (.bool x)):=by
 cases h;constructor<;>grind
theorem jt.qZ {L:Loc} {σ:Ab} (h:jt E L σ C) (x:Bool):jt E L {σ with jJ:=x} (C.setIfInBounds 196 (.bool x)):=by
 cases h;constructor<;>grind
theorem jt.DP {L:Loc} {σ:Ab} (h:jt E L σ C) (x:Nat):jt E L {σ with gI:=x} (C.setIfInBounds 197 (fV x)):=by
 cases h;constructor<;>grind
theorem jt.tu {L:Loc} {σ:Ab} (h:jt E L σ C) (x:Bool):jt E L {σ with behind:=x} (C.setIfInBounds 198 (.bool x)):=by
 cases h;constructor<;>grind
theorem li.loc {L L':Loc} (h:li bs L w i nd) (e1:L'.gI=L.gI) (e2:L'.av=L.av) (d:L'.kv=L.kv):li bs L' w i nd:=by
 cases nd<;>(grind[li])
theorem Rel.WK {L:Loc} {σ:Ab} (h:Rel E L σ w):∃C,w.heap[E.bB]?=some (gz C 175):=by
 have⟨C,hb,_⟩:=h.iw;grind
def Rel.free {L:Loc} {σ:Ab} (h:Rel E L σ w) (j:Nat):w.frozen? ⟨E.bB,j,none⟩=false:=by
 have⟨C,hb⟩:=h.WK;exact gh hb j
theorem Rel.lt {L:Loc} {σ:Ab} (h:Rel E L σ w):E.bB < w.heap.size:=by
 have⟨C,hb⟩:=h.WK;grind
def Rel.low {L:Loc} {σ:Ab} (h:Rel E L σ w) (d:j < 188) (l:E.C0[j]?=some v):w.cell? ⟨E.bB,j,none⟩=some v:=by
 have⟨C,hb,hC⟩:=h.iw;rw[fN hb];exact(hC.low j d).trans l
def Rel.YJ {L:Loc} {σ:Ab} (h:Rel E L σ w):w.cell? ⟨E.bB,190,none⟩=some (ku (ir L.gI σ.head)):=by
 have⟨C,hb,hC⟩:=h.iw;rw[fN hb];exact hC.head
def Rel.Uw {L:Loc} {σ:Ab} (h:Rel E L σ w):w.cell? ⟨E.bB,191,none⟩=some (ku (ir L.gI σ.form)):=by
 have⟨C,hb,hC⟩:=h.iw;rw[fN hb];exact hC.form
def Rel.sC {L:Loc} {σ:Ab} (h:Rel E L σ w):w.cell? ⟨E.bB,192,none⟩=some (fV σ.mode):=by
 have⟨C,hb,hC⟩:=h.iw;rw[fN hb];exact hC.mode
def Rel.Ux {L:Loc} {σ:Ab} (h:Rel E L σ w):w.cell? ⟨E.bB,193,none⟩=some (fV σ.kept):=by
 have⟨C,hb,hC⟩:=h.iw;rw[fN hb];exact hC.kept
def Rel.aeb {L:Loc} {σ:Ab} (h:Rel E L σ w):w.cell? ⟨E.bB,194,none⟩=some L.wv:=by
 have⟨C,hb,hC⟩:=h.iw;rw[fN hb];exact hC.wait
def Rel.aaZ {L:Loc} {σ:Ab} (h:Rel E L σ w):w.cell? ⟨E.bB,195,none⟩=some (.bool σ.iL):=by
 have⟨C,hb,hC⟩:=h.iw;rw[fN hb];exact hC.Kg
def Rel.aa0 {L:Loc} {σ:Ab} (h:Rel E L σ w):w.cell? ⟨E.bB,196,none⟩=some (.bool σ.jJ):=by
 have⟨C,hb,hC⟩:=h.iw;rw[fN hb];exact hC.jJ
def Rel.Uy {L:Loc} {σ:Ab} (h:Rel E L σ w):w.cell? ⟨E.bB,197,none⟩=some (fV σ.gI):=by
 have⟨C,hb,hC⟩:=h.iw;rw[fN hb];exact hC.gI
def Rel.aa1 {L:Loc} {σ:Ab} (h:Rel E L σ w):w.cell? ⟨E.bB,198,none⟩=some (.bool σ.behind):=by
 have⟨C,hb,hC⟩:=h.iw;rw[fN hb];exact hC.behind
def Rel.ib {L:Loc} {σ:Ab} (h:Rel E L σ w) (l:Kept [] w w'):Rel E L σ w':=by
 have d:KT E.bs [] w w':= .gN l;have⟨C,hb,hC⟩:=h.iw;exact {h with
  fr:=h.fr.trans (.gN l)
  tX:=λi nd q=>(h.tX i nd q).kt d (by simp)
  iw:=⟨C,d.at hb (by simp),hC⟩
  pR:=d.row h.pR (by simp)
  qB:=d.row h.qB (by simp)
  pI:=d.row h.pI (by simp)
  rd:=d.at h.rd (by simp)
  tok:=d.row h.tok (by simp)}
def Rel.bw {L:Loc} {σ:Ab} (h:Rel E L σ w):E.bs<=w.heap.size:=jH h.bz h.fr.size
def To (E:Env) (L:Loc) (σ':Ab) (w w':gm):Prop:=∃L',L'.gI=L.gI/\Rel E L' σ' w'/\Fr E.bs w w'
def Rel.to {L:Loc} {σ:Ab} (h:Rel E L σ w') (d:Fr E.bs w w'):To E L σ w w':=⟨L,rfl,h,d⟩
def Rel.store {L:Loc} {σ σ':Ab} (h:Rel E L σ w) (j:Nat) (u:gG) (Y:∀C,jt E L σ C->jt E L σ' (C.setIfInBounds j u)) (J:Wf σ') (d:σ'.nodes=σ.nodes:=by rfl) (O:σ'.gq=σ.gq:=by rfl) (K:σ'.act=σ.act:=by rfl) (I:σ'.waiting=σ.waiting:=by rfl) (U:σ'.nT=σ.nT:=by rfl) (V:σ'.iU=σ.iU:=by rfl) (W:σ'.fresh=σ.fresh:=by rfl) (F:σ'.qu=σ.qu:=by rfl) (G:σ'.rH=σ.rH:=by rfl) (H:σ'.pP=σ.pP:=by rfl):Rel E L σ' (w.setCell ⟨E.bB,j,none⟩ u):=by
 obtain⟨C,N,Z⟩:=h.iw;have B:Kept [E.bB] w (w.setCell ⟨E.bB,j,none⟩ u):=(Kept.refl _ w).setCell (.inl (by simp)) u;have A:KT E.bs [175] w (w.setCell ⟨E.bB,j,none⟩ u):= .jL B (λk B _=>by simp at B;subst B;exact⟨⟨_,_,_,N,by simp⟩,h.bB⟩);have D:∀i,σ'.gV i=σ.gV i:=λi=>by unfold Ab.gV;rw[d]
 exact {h with
  fr:=h.fr.trans (A.fr (by decide))
  Fb:=by rw[F,G,H];exact h.Fb
  tX:=λi nd q=>(h.tX i nd (by rw[<-d];exact q)).kt A (by decide)
  bN:=by rw[d];exact h.bN
  BZ:=by rw[d];exact h.BZ
  Hw:=λi q l=>h.Hw i (by rw[<-d];exact q) (by rw[<-D];exact l)
  uq:=λi j e g q hg hj=>h.uq i j e g (by rw[<-D];exact q) hg (by rw[<-d];exact hj)
  FX:=λi q l=>h.FX i (by rw[<-d];exact q) (by rw[<-D];exact l)
  wf:=J
  iw:=⟨_,fR N j u,Y C Z⟩
  pR:=by rw[O];exact A.row h.pR (by decide)
  qB:=by rw[K];exact A.row h.qB (by decide)
  x7:=by rw[O];exact h.x7
  F0:=by rw[K];exact h.F0
  pI:=by rw[I];exact A.row h.pI (by decide)
  M1:=by rw[I];exact h.M1
  rd:=by rw[U,V];exact A.at h.rd (by decide)
  tok:=A.row h.tok (by decide)
  BU:=by rw[W,d];exact h.BU
  ab:=by rw[d];exact h.ab
  M0:=by rw[I];exact h.M0}
def Rel.zd {L:Loc} {σ:Ab} (h:Rel E L σ w) (x:iY) (l:σ.gR x=true):Rel E L {σ with head:=x} (w.setCell ⟨E.bB,190,none⟩ (ku (ir L.gI x))):=
 h.store 190 _ (λC d=>d.zd x) {h.wf with head:=l}
def Rel.vN {L:Loc} {σ:Ab} (h:Rel E L σ w) (x:iY) (l:σ.gR x=true):Rel E L {σ with form:=x} (w.setCell ⟨E.bB,191,none⟩ (ku (ir L.gI x))):=
 h.store 191 _ (λC d=>d.vN x) {h.wf with form:=l}
def Rel.jb {L:Loc} {σ:Ab} (h:Rel E L σ w) (x:Nat):Rel E L {σ with mode:=x} (w.setCell ⟨E.bB,192,none⟩ (fV x)):=
 h.store 192 _ (λC d=>d.jb x) {h.wf with}
def Rel.ze {L:Loc} {σ:Ab} (h:Rel E L σ w) (x:Nat):Rel E L {σ with kept:=x} (w.setCell ⟨E.bB,193,none⟩ (fV x)):=
 h.store 193 _ (λC d=>d.ze x) {h.wf with}
def Rel.zc {L:Loc} {σ:Ab} (h:Rel E L σ w) (x:Bool):Rel E L {σ with iL:=x} (w.setCell ⟨E.bB,195,none⟩ (.bool x)):=
 h.store 195 _ (λC d=>d.zc x) {h.wf with}
def Rel.qZ {L:Loc} {σ:Ab} (h:Rel E L σ w) (x:Bool):Rel E L {σ with jJ:=x} (w.setCell ⟨E.bB,196,none⟩ (.bool x)):=
 h.store 196 _ (λC d=>d.qZ x) {h.wf with}
def Rel.DP {L:Loc} {σ:Ab} (h:Rel E L σ w) (x:Nat):Rel E L {σ with gI:=x} (w.setCell ⟨E.bB,197,none⟩ (fV x)):=
 h.store 197 _ (λC d=>d.DP x) {h.wf with}
def Rel.tu {L:Loc} {σ:Ab} (h:Rel E L σ w) (x:Bool):Rel E L {σ with behind:=x} (w.setCell ⟨E.bB,198,none⟩ (.bool x)):=
 h.store 198 _ (λC d=>d.tu x) {h.wf with}
def Rel.gR {L:Loc} {σ:Ab} (h:Rel E L σ w) (l:σ.gR x=true):uA w (ir L.gI x):=by
 intro k d;cases x with
 |none=>cases d
 |some i=>
  obtain rfl:=jv d;unfold Ab.gR at l;have⟨e,he⟩:=Option.isSome_iff_exists.1 l;exact⟨_,(h.tX i _ (Ab.jn he)).1.iw⟩
def Ca (h:y∈oh xs x):y∈xs:=by
 unfold oh at h;rw[List.mem_reverse]at h;exact List.mem_reverse.1 ((nM _).subset (List.mem_of_mem_tail h))
theorem Lh (h:z∈qo xs x y):z∈xs\/z=y:=by
 unfold qo at h;grind
theorem C6 (h:z∈ja xs x y):z∈xs\/z=y:=by
 unfold ja at h;grind
def Rel.zJ {L:Loc} {σ:Ab} (h:Rel E L σ w):∃C,yb E.bs E.bB 188 175 C L.ov (σ.gq.map (ir L.gI)) w/\jt E L σ C:=by
 have⟨C,hb,hC⟩:=h.iw;refine⟨C,⟨hb,hC.gq,?_,by decide,by simpa using h.x7⟩,hC⟩
 simpa [nN,yB]using h.pR
def Rel.elO {L:Loc} {σ:Ab} (h:Rel E L σ w):∀x∈σ.gq.map (ir L.gI),uA w x:=by
 intro x d;obtain⟨y,l,rfl⟩:=List.mem_map.1 d;exact h.gR (Ab.wO (h.wf.gq y l))
def Sd (L:Loc) (w:gm) (k:Nat) (v:gG):Prop:=w.heap[k]?=some (gz #[v] 65)/\L.ov.ownBlock≠some k/\L.cv.ownBlock≠some k
def ToS (E:Env) (L:Loc) (σ':Ab) (w w':gm):Prop:=∃L',L'.gI=L.gI/\Rel E L' σ' w'/\Fr E.bs w w'/\∀k v,Sd L w k v->Sd L' w' k v
theorem Sd.ab2 {L:Loc} {u : gG} (h:Sd L w k v) (l:Kept (b::u.ownBlock.toList) w w') (q:w.heap[b]?=some (gz C 175)) (A:u.ownBlock≠some k):w'.heap[k]?=some (gz #[v] 65):=by
 refine l.at h.1 λd=>?_;rcases List.mem_cons.1 d with rfl|d
 .have:=h.1;grind
 grind
def Sd.DV {L:Loc} {v' : gG} (h:Sd L w k v) (q:Kept (b::L.ov.ownBlock.toList) w w') (l:w.heap[b]?=some (gz C 175)) (d:v'.ownBlock=L.ov.ownBlock\/∀g,v'.ownBlock=some g->w.heap.size<=g):Sd {L with ov:=v'} w' k v:=by
 refine⟨h.ab2 q l h.2.1,λe=>?_,h.2.2⟩;rcases d with d|d
 .exact h.2.1 (d▸e)
 .have:=d k e;have:=iQ h.1;omega
def Sd.Bv {L:Loc} {v' : gG} (h:Sd L w k v) (q:Kept (b::L.cv.ownBlock.toList) w w') (l:w.heap[b]?=some (gz C 175)) (d:v'.ownBlock=L.cv.ownBlock\/∀g,v'.ownBlock=some g->w.heap.size<=g):Sd {L with cv:=v'} w' k v:=by
 refine⟨h.ab2 q l h.2.2,h.2.1,λe=>?_⟩;rcases d with d|d
 .exact h.2.2 (d▸e)
 .have:=d k e;have:=iQ h.1;omega
def Rel.Qn {L:Loc} {σ:Ab} (h:Rel E L σ w) (l:yb E.bs E.bB 188 175 C L.ov (σ.gq.map (ir L.gI)) w) (N:jt E L σ C) (Y:pg E.bs E.bB 188 175 C L.ov (zs.map (ir L.gI)) w w') (Z:∀x∈zs,σ.mW x=true):ToS E L {σ with gq:=zs} w w':=by
 obtain⟨K,A,F,G⟩:=Y;have d:KT E.bs [175,65] w w':= .jL F (λk q _=>by
  rcases List.mem_cons.1 q with rfl|q
  .exact⟨⟨_,_,_,l.iw,by simp⟩,h.bB⟩
  .obtain⟨c,m,O⟩:=sT l.row (by simpa using q);exact⟨⟨_,_,_,O,by simp⟩,(l.row.lt k (by simpa using q)).1⟩)
 have B:∀g,L.cv.ownBlock=some g->g∉E.bB::L.ov.ownBlock.toList:=by
  intro g J D;rcases List.mem_cons.1 D with rfl|D
  .exact DM h.qB l.iw (by decide) J
  .exact(h.H9:∀g,L.ov.ownBlock=some g->L.cv.ownBlock≠some g) g (by simpa using D) J
 refine⟨{L with ov:=K},rfl,?_,d.fr (by decide),λk v W=>W.DV F l.iw G⟩;exact {h with
  fr:=h.fr.trans (d.fr (by decide))
  tX:=λi nd U=>((h.tX i nd U).kt d (by decide)).loc rfl rfl rfl
  wf:={h.wf with gq:=Z}
  iw:=⟨_,A.iw,N.afK K zs⟩
  pR:=by simpa [nN,yB]using A.row
  qB:=F.ownsRow h.qB B
  H9:=by
   intro g H I;have V:=DL h.qB (g:=g) I;rcases G with e|e
   .exact h.H9 g (by rw[<-e];exact H) I
   .have:=e g H;omega
  x7:=by simpa using A.le
  pI:=d.row h.pI (by decide)
  rd:=d.at h.rd (by decide)
  tok:=d.row h.tok (by decide)}
def Rel.DV {L:Loc} {σ:Ab} (h:Rel E L σ w) (l:yb E.bs E.bB 188 175 C L.ov (σ.gq.map (ir L.gI)) w) (d:jt E L σ C) (q:pg E.bs E.bB 188 175 C L.ov (zs.map (ir L.gI)) w w') (A:∀x∈zs,σ.mW x=true):To E L {σ with gq:=zs} w w':=
 have⟨L1,a,b,c,_⟩:=h.Qn l d q A
 ⟨L1,a,b,c⟩
def acx {L:Loc} {σ:Ab} (h:Rel E L σ w):
  Calls prog 260 #[jG E.bB 188] w λe w'=>e=ig (fV σ.gq.length)/\w'=w:=by
 have⟨C,hL,hC⟩:=h.zJ;have:=agF E.bs E.bB 188 _ C _ _ w hL
 rwa [wm]at this
def ajl {L:Loc} {σ:Ab} (h:Rel E L σ w) (n:Int):
  Calls prog 239 #[jG E.bB 188,fV n] w λe w'=>e=ig (ku (ir L.gI (io σ.gq n)))/\w'=w:=by
 have⟨C,hL,hC⟩:=h.zJ;have:=ab9 E.bs E.bB 188 _ C _ _ n w hL
 rwa [yU]at this
def Vs {L:Loc} {σ:Ab} (h:Rel E L σ w):
  Calls prog 170 #[jG E.bB 188] w λe w'=>e=ig (ku (ir L.gI (io σ.gq ((σ.gq.length:Int) - 1))))/\w'=w:=by
 have⟨C,hL,hC⟩:=h.zJ;have:=aca E.bs E.bB 188 _ C _ _ w hL
 rwa [yU,wm]at this
def ajm {L:Loc} {σ:Ab} (h:Rel E L σ w) (x:iY) (d:σ.gR x=true):
  Calls prog 313 #[jG E.bB 188,ku (ir L.gI x)] w λe w'=>e=ig (.bool (decide (x∈σ.gq)))/\w'=w:=by
 have⟨C,hL,hC⟩:=h.zJ;have:=agE E.bs E.bB 188 _ C _ _ (ir L.gI x) w hL h.elO (h.gR d)
 rwa [decide_eq_decide.2 (mem_map h.inj σ.gq x)]at this
def zQ {L:Loc} {σ:Ab} (h:Rel E L σ w) (x:iY) (d:σ.gR x=true):
  Calls prog 237 #[jG E.bB 188,ku (ir L.gI x)] w λe w'=>e=ig (ku (ir L.gI (io σ.gq (posOf σ.gq x - 1))))/\w'=w:=by
 have⟨C,hL,hC⟩:=h.zJ;have:=Pn E.bs E.bB 188 _ C _ _ (ir L.gI x) w hL h.elO (h.gR d)
 rwa [NW h.inj,yU]at this
theorem ah3 {L:Loc} {σ:Ab} (h:Rel E L σ w) (x:iY) (A:σ.mW x=true) (l:σ.gq.length < 4096):
  Calls prog 262 #[jG E.bB 188,ku (ir L.gI x)] w λe w'=>e=pL/\To E L {σ with gq:=σ.gq++[x]} w w':=by
 have⟨C,hL,hC⟩:=h.zJ;refine(acb E.bs E.bB 188 _ C _ _ (ir L.gI x) w hL (by grind) h.bw).mono ?_;rintro e w' ⟨rfl,q⟩;refine⟨rfl,h.DV hL hC (by grind) λy d=>?_⟩;rcases List.mem_append.1 d with d|d
 .exact h.wf.gq y d
 grind
theorem SC {L:Loc} {σ:Ab} (h:Rel E L σ w):
  Calls prog 175 #[jG E.bB 188] w λe w'=>e=ig (ku (ir L.gI (io σ.gq ((σ.gq.length:Int) - 1))))/\To E L {σ with gq:=σ.gq.dropLast} w w':=by
 have⟨C,hL,hC⟩:=h.zJ;refine(agG E.bs E.bB 188 _ C _ _ w hL).mono ?_;rintro e w' ⟨rfl,l⟩;refine⟨by rw[yU,wm],h.DV hL hC (by grind) λy d=>h.wf.gq y (List.dropLast_subset _ d)⟩
def afa {L:Loc} {σ:Ab} (h:Rel E L σ w) (x:iY) (l:σ.gR x=true):
  Calls prog 319 #[jG E.bB 188,ku (ir L.gI x)] w λe w'=>e=pL/\To E L {σ with gq:=oh σ.gq x} w w':=by
 have⟨C,hL,hC⟩:=h.zJ;refine(Xn E.bs E.bB 188 _ C _ _ (ir L.gI x) w hL (by decide) h.elO (h.gR l)).mono ?_;rintro e w' ⟨rfl,d⟩;exact⟨rfl,h.DV hL hC (by rw[<-NU h.inj];exact d) λy q=>h.wf.gq y (Ca q)⟩
def acy {L:Loc} {σ:Ab} (h:Rel E L σ w) (x:iY) (l:σ.gR x=true):
  Calls prog 178 #[jG E.bB 188,ku (ir L.gI x)] w λe w'=>e=pL/\To E L {σ with gq:=σ.gq.erase x} w w':=by
 have⟨C,hL,hC⟩:=h.zJ;refine(Bb E.bs E.bB 188 _ C _ _ (ir L.gI x) w hL h.elO (h.gR l)).mono ?_;rintro e w' ⟨rfl,d⟩;exact⟨rfl,h.DV hL hC (by rw[<-wV h.inj];exact d) λy q=>h.wf.gq y (Qw q)⟩
theorem SD {L:Loc} {σ:Ab} (h:Rel E L σ w) (x y:iY) (q:σ.gR x=true) (A:σ.mW y=true) (B:σ.gq.length < 4096):
  Calls prog 367 #[jG E.bB 188,ku (ir L.gI x),ku (ir L.gI y)] w λe w'=>e=pL/\To E L {σ with gq:=ja σ.gq x y} w w':=by
 have⟨C,hL,hC⟩:=h.zJ;refine(H8 E.bs E.bB 188 _ C _ _ (ir L.gI x) (ir L.gI y) w hL h.elO (h.gR q) (by grind) h.bw).mono ?_;rintro e w' ⟨rfl,l⟩;exact⟨rfl,h.DV hL hC (by rw[<-C5 h.inj];exact l) λz d=>by rcases C6 d with d|rfl;exact h.wf.gq z d;exact A⟩
def Rel.II {L:Loc} {σ:Ab} (h:Rel E L σ w):∃C,yb E.bs E.bB 189 175 C L.cv (σ.act.map (ir L.gI)) w/\jt E L σ C:=by
 have⟨C,hb,hC⟩:=h.iw;refine⟨C,⟨hb,hC.act,?_,by decide,by simpa using h.F0⟩,hC⟩
 simpa [nN,yB]using h.qB
def Rel.elA {L:Loc} {σ:Ab} (h:Rel E L σ w):∀x∈σ.act.map (ir L.gI),uA w x:=by
 intro x d;obtain⟨y,l,rfl⟩:=List.mem_map.1 d;exact h.gR (h.wf.act y l)
def Rel.Qm {L:Loc} {σ:Ab} (h:Rel E L σ w) (l:yb E.bs E.bB 189 175 C L.cv (σ.act.map (ir L.gI)) w) (N:jt E L σ C) (Y:pg E.bs E.bB 189 175 C L.cv (zs.map (ir L.gI)) w w') (Z:∀x∈zs,σ.gR x=true):ToS E L {σ with act:=zs} w w':=by
 obtain⟨K,D,H,I⟩:=Y;have d:KT E.bs [175,65] w w':= .jL H (λk B _=>by
  rcases List.mem_cons.1 B with rfl|B
  .exact⟨⟨_,_,_,l.iw,by simp⟩,h.bB⟩
  .obtain⟨c,m,O⟩:=sT l.row (by simpa using B);exact⟨⟨_,_,_,O,by simp⟩,(l.row.lt k (by simpa using B)).1⟩)
 have F:∀g,L.ov.ownBlock=some g->g∉E.bB::L.cv.ownBlock.toList:=by
  intro g J G;rcases List.mem_cons.1 G with rfl|G
  .exact DM h.pR l.iw (by decide) J
  .exact((λg q A=>h.H9 g A q):∀g,L.cv.ownBlock=some g->L.ov.ownBlock≠some g) g (by simpa using G) J
 refine⟨{L with cv:=K},rfl,?_,d.fr (by decide),λk v W=>W.Bv H l.iw I⟩;exact {h with
  fr:=h.fr.trans (d.fr (by decide))
  tX:=λi nd U=>((h.tX i nd U).kt d (by decide)).loc rfl rfl rfl
  wf:={h.wf with act:=Z}
  iw:=⟨_,D.iw,N.afJ K zs⟩
  qB:=by simpa [nN,yB]using D.row
  pR:=H.ownsRow h.pR F
  H9:=by
   intro g q A;have V:=DL h.pR (g:=g) q;rcases I with e|e
   .exact h.H9 g q (by rw[<-e];exact A)
   .have:=e g A;omega
  F0:=by simpa using D.le
  pI:=d.row h.pI (by decide)
  rd:=d.at h.rd (by decide)
  tok:=d.row h.tok (by decide)}
def Rel.Bv {L:Loc} {σ:Ab} (h:Rel E L σ w) (l:yb E.bs E.bB 189 175 C L.cv (σ.act.map (ir L.gI)) w) (d:jt E L σ C) (q:pg E.bs E.bB 189 175 C L.cv (zs.map (ir L.gI)) w w') (A:∀x∈zs,σ.gR x=true):To E L {σ with act:=zs} w w':=
 have⟨L1,a,b,c,_⟩:=h.Qm l d q A
 ⟨L1,a,b,c⟩
def agp {L:Loc} {σ:Ab} (h:Rel E L σ w):
  Calls prog 260 #[jG E.bB 189] w λe w'=>e=ig (fV σ.act.length)/\w'=w:=by
 have⟨C,hL,hC⟩:=h.II;have:=agF E.bs E.bB 189 _ C _ _ w hL
 rwa [wm]at this
def ajW {L:Loc} {σ:Ab} (h:Rel E L σ w) (n:Int):
  Calls prog 239 #[jG E.bB 189,fV n] w λe w'=>e=ig (ku (ir L.gI (io σ.act n)))/\w'=w:=by
 have⟨C,hL,hC⟩:=h.II;have:=ab9 E.bs E.bB 189 _ C _ _ n w hL
 rwa [yU]at this
def aiR {L:Loc} {σ:Ab} (h:Rel E L σ w) (x:iY) (d:σ.gR x=true):
  Calls prog 313 #[jG E.bB 189,ku (ir L.gI x)] w λe w'=>e=ig (.bool (decide (x∈σ.act)))/\w'=w:=by
 have⟨C,hL,hC⟩:=h.II;have:=agE E.bs E.bB 189 _ C _ _ (ir L.gI x) w hL h.elA (h.gR d)
 rwa [decide_eq_decide.2 (mem_map h.inj σ.act x)]at this
theorem ag8 {L:Loc} {σ:Ab} (h:Rel E L σ w) (x:iY) (A:σ.gR x=true) (l:σ.act.length < 4096):
  Calls prog 262 #[jG E.bB 189,ku (ir L.gI x)] w λe w'=>e=pL/\To E L {σ with act:=σ.act++[x]} w w':=by
 have⟨C,hL,hC⟩:=h.II;refine(acb E.bs E.bB 189 _ C _ _ (ir L.gI x) w hL (by grind) h.bw).mono ?_;rintro e w' ⟨rfl,q⟩;refine⟨rfl,h.Bv hL hC (by grind) λy d=>?_⟩;rcases List.mem_append.1 d with d|d
 .exact h.wf.act y d
 grind
def adW {L:Loc} {σ:Ab} (h:Rel E L σ w) (x:iY) (l:σ.gR x=true):
  Calls prog 319 #[jG E.bB 189,ku (ir L.gI x)] w λe w'=>e=pL/\To E L {σ with act:=oh σ.act x} w w':=by
 have⟨C,hL,hC⟩:=h.II;refine(Xn E.bs E.bB 189 _ C _ _ (ir L.gI x) w hL (by decide) h.elA (h.gR l)).mono ?_;rintro e w' ⟨rfl,d⟩;exact⟨rfl,h.Bv hL hC (by rw[<-NU h.inj];exact d) λy q=>h.wf.act y (Ca q)⟩
def aaI {L:Loc} {σ:Ab} (h:Rel E L σ w) (x:iY) (l:σ.gR x=true):
  Calls prog 178 #[jG E.bB 189,ku (ir L.gI x)] w λe w'=>e=pL/\To E L {σ with act:=σ.act.erase x} w w':=by
 have⟨C,hL,hC⟩:=h.II;refine(Bb E.bs E.bB 189 _ C _ _ (ir L.gI x) w hL h.elA (h.gR l)).mono ?_;rintro e w' ⟨rfl,d⟩;exact⟨rfl,h.Bv hL hC (by rw[<-wV h.inj];exact d) λy q=>h.wf.act y (Qw q)⟩
def Yv {L:Loc} {σ:Ab} (h:Rel E L σ w) (x y:iY) (q:σ.gR x=true) (A:σ.gR y=true):
  Calls prog 267 #[jG E.bB 189,ku (ir L.gI x),ku (ir L.gI y)] w λe w'=>e=pL/\To E L {σ with act:=qo σ.act x y} w w':=by
 have⟨C,hL,hC⟩:=h.II;refine(Gj E.bs E.bB 189 _ C _ _ (ir L.gI x) (ir L.gI y) w hL h.elA (h.gR q)).mono ?_;rintro e w' ⟨rfl,l⟩;exact⟨rfl,h.Bv hL hC (by rw[<-Lg h.inj];exact l) λz d=>by rcases Lh d with d|rfl;exact h.wf.act z d;exact A⟩
theorem QQ {L:Loc} {σ:Ab} (h:Rel E L σ w) (x y:iY) (q:σ.gR x=true) (A:σ.gR y=true) (B:σ.act.length < 4096):
  Calls prog 367 #[jG E.bB 189,ku (ir L.gI x),ku (ir L.gI y)] w λe w'=>e=pL/\To E L {σ with act:=ja σ.act x y} w w':=by
 have⟨C,hL,hC⟩:=h.II;refine(H8 E.bs E.bB 189 _ C _ _ (ir L.gI x) (ir L.gI y) w hL h.elA (h.gR q) (by grind) h.bw).mono ?_;rintro e w' ⟨rfl,l⟩;exact⟨rfl,h.Bv hL hC (by rw[<-C5 h.inj];exact l) λz d=>by rcases C6 d with d|rfl;exact h.wf.act z d;exact A⟩
def Loc.new (L:Loc) (n k:Nat) (av kv:gG):Loc:={L with gI:=λi=>if i < n then L.gI i else k+(i - n),av:=λi=>if i=n then av else L.av i,kv:=λi=>if i=n then kv else L.kv i}
variable {L L' : Loc}
def Loc.Bg (h:i < n):(L.new n k av kv).gI i=L.gI i:=gv h
def Loc.um:(L.new n k av kv).gI n=k:=by simp[Loc.new]
def Loc.Gk (h:i < n):(L.new n k av kv).av i=L.av i:=gH (by omega)
def Loc.Pw (h:i < n):(L.new n k av kv).kv i=L.kv i:=gH (by omega)
def Loc.B8:(L.new n k av kv).av n=av:=gv rfl
def Loc.Je:(L.new n k av kv).kv n=kv:=gv rfl
def GN (n:Nat) (L L':Loc):Prop:=∀i,i < n->L'.gI i=L.gI i
def GN.refl (n:Nat) (L:Loc):GN n L L:=λ_ _=>rfl
def Ab.mi {σ:Ab} (h:σ.gR (some i)=true):i < σ.nodes.length:=by
 have⟨e,he⟩:=Option.isSome_iff_exists.1 h;exact Ab.gW he
def Ab.Sc {σ:Ab} {k : Nd} (h:σ.jk k=true):k.iw < σ.nodes.length:=by
 by_cases l:k.iw < σ.nodes.length
 .exact l
 .exfalso;have d:σ.nodes[k.iw]?=none:=List.getElem?_eq_none (by omega);cases k with
  |el i=>simp only[Nd.iw]at d;simp[Ab.jk,Ab.gV,d]at h
  |tx i=>simp only[Nd.iw]at d;simp[Ab.jk,d]at h
  |cm i=>simp only[Nd.iw]at d;simp[Ab.jk,d]at h
  |dt i=>simp only[Nd.iw]at d;simp[Ab.jk,d]at h
def GN.om {σ:Ab} (h:GN σ.nodes.length L L') (d:σ.gR x=true):ir L'.gI x=ir L.gI x:=by
 cases x with
 |none=>rfl
 |some i=>show some _=some _;rw[h i (Ab.mi d)]
def GN.kid {σ:Ab} (h:GN σ.nodes.length L L') {k : Nd} (d:σ.jk k=true):Nd.map L'.gI k=Nd.map L.gI k:=by
 have:=h _ (Ab.Sc d);cases k<;>(simp only[Nd.map,Nd.iw]at this|-;rw[this])
def GN.list {σ:Ab} (h:GN σ.nodes.length L L') (l:∀x∈xs,σ.gR x=true):(xs.map λx=>ku (ir L'.gI x))=xs.map λx=>ku (ir L.gI x):=
 Wq λx d=>by rw[h.om (l x d)]
def GN.kids {σ:Ab} (h:GN σ.nodes.length L L') (l:∀x∈ks,σ.jk x=true):ks.map (Nd.map L'.gI)=ks.map (Nd.map L.gI):=
 Wq λx d=>h.kid (l x d)
theorem Ab.sr {σ:Ab} (d:i < σ.nodes.length):(σ.add nd).gV i=σ.gV i:=by
 grind[Ab.gV,Ab.add]
theorem Ab.sN {σ:Ab}:(σ.add nd).gV σ.nodes.length=(match nd with| .el e=>some e|_=>none):=by
 show(match (σ.nodes++[nd])[σ.nodes.length]? with|some (.el e)=>some e|_=>none)=_
 grind
def Ab.A9 {σ:Ab} (h:σ.gR x=true):(σ.add nd).gR x=true:=by
 cases x with
 |none=>rfl
 |some i=>show((σ.add nd).gV i).isSome=true;rw[Ab.sr (Ab.mi h)];exact h
def Ab.NH {σ:Ab} (h:σ.mW x=true):(σ.add nd).mW x=true:=by
 cases x with
 |none=>exact h
 |some i=>show((σ.add nd).gV i).isSome=true;rw[Ab.sr (Ab.mi h)];exact h
theorem Ab.Gg {σ:Ab} {k : Nd} (h:σ.jk k=true):(σ.add nd).jk k=true:=by
 have d:=Ab.Sc h;have e:(σ.nodes++[nd])[k.iw]?=σ.nodes[k.iw]?:=Ye d;cases k with
 |el i=>show((σ.add nd).gV i).isSome=true;rw[Ab.sr (i:=i) d];exact h
 |tx i=>grind[Ab.jk,Ab.add]
 |cm i=>grind[Ab.jk,Ab.add]
 |dt i=>grind[Ab.jk,Ab.add]
theorem Ab.JZ {σ:Ab} (h:(σ.add nd).gV i=some e):(i < σ.nodes.length/\σ.gV i=some e)\/(i=σ.nodes.length/\nd= .el e):=by
 have l:=Ab.gW h;have q:i < σ.nodes.length+1:=by simpa [Ab.add]using l
 by_cases d:i < σ.nodes.length
 .exact .inl ⟨d,by rw[<-Ab.sr d];exact h⟩
 .have e1:i=σ.nodes.length:=by omega
  subst e1;rw[Ab.sN]at h;grind
def li.ext {σ:Ab} (h:li bs L w i nd) (d:GN σ.nodes.length L L') (l:i < σ.nodes.length) (q:L'.av i=L.av i) (A:L'.kv i=L.kv i) (B:∀e,nd= .el e->σ.gR e.je=true/\∀k∈e.kids,σ.jk k=true):li bs L' w i nd:=by
 cases nd with
 |el e=>
  have⟨h1,h2⟩:=B e rfl;show El bs w (L'.gI i) e.name (L'.av i) (ir L'.gI e.je) (L'.kv i) (e.kids.map (Nd.map L'.gI))/\zr w (L'.av i) e.gO/\e.gO.length<=4096;rw[d i l,q,A,d.om h1,d.kids h2];exact h
 |tx s=>show w.heap[L'.gI i]?=_;rw[d i l];exact h
 |cm s=>show w.heap[L'.gI i]?=_;rw[d i l];exact h
 |dt s=>show w.heap[L'.gI i]?=_;rw[d i l];exact h
theorem Rel.JA {σ:Ab} (h:Rel E L σ w) (d:i < σ.nodes.length):L.gI i < w.heap.size:=by
 have⟨c,hc⟩:=(h.tX i σ.nodes[i] (qs d)).typ;grind
def Rel.wfn {σ:Ab} (h:Rel E L σ w) (l:σ.nodes[i]?=some nd):∀e,nd= .el e->σ.gR e.je=true/\∀k∈e.kids,σ.jk k=true:=by
 rintro e rfl;have d:=Ab.UL l;exact⟨h.wf.je i e d,h.wf.kids i e d⟩
def jt.ext {σ σ':Ab} (h:jt E L σ C) (l:GN σ.nodes.length L L') (d:Wf σ) (e1:L'.ov=L.ov) (e2:L'.cv=L.cv) (q:L'.wv=L.wv) (A:σ'.head=σ.head) (B:σ'.form=σ.form) (D:σ'.mode=σ.mode) (F:σ'.kept=σ.kept) (s5:σ'.iL=σ.iL) (s6:σ'.jJ=σ.jJ) (s7:σ'.gI=σ.gI) (s8:σ'.behind=σ.behind):jt E L' σ' C:=
 ⟨h.size,h.low,by rw[e1];exact h.gq,by rw[e2];exact h.act,by rw[A,l.om d.head];exact h.head,by rw[B,l.om d.form];exact h.form,by rw[D];exact h.mode,by rw[F];exact h.kept,by rw[q];exact h.wait,by rw[s5];exact h.Kg,by rw[s6];exact h.jJ,by rw[s7];exact h.gI,by rw[s8];exact h.behind⟩
theorem Rel.agr {σ:Ab} (h:Rel E L σ w) (nd:AJ) (k:Nat) (av kv:gG) (W:Bool) (hk:Kept [] w w') (a8:∀i,i < σ.nodes.length->L.gI i < k) (a6:E.bs<=k)
  (a9:li E.bs (L.new σ.nodes.length k av kv) w' σ.nodes.length nd) (a7:kv.ownBlock=none) (a4:∀e,nd= .el e->e.je=none/\e.kids=[])
  (a2:∀i e g,σ.gV i=some e->nG e.name=true->av.ownBlock=some g->(L.av i).ownBlock≠some g)
  (a3:∀e g j,nd= .el e->nG e.name=true->j < σ.nodes.length->av.ownBlock=some g->(L.av j).ownBlock≠some g)
  (K:(∀e,nd≠ .el e)->av.ownBlock=none)
  (a0:W=true->σ.fresh=true/\∀g,E.tv.ownBlock=some g->av.ownBlock≠some g) (a5:∀g,av.ownBlock=some g->E.bs<=g):
  Rel E (L.new σ.nodes.length k av kv) (σ.pN nd W) w':=by
 have A:=h.ib hk;have Y:GN σ.nodes.length L (L.new σ.nodes.length k av kv):=λi l=>Loc.Bg l;have H:=Ab.mi (σ:=σ) (i:=0) h.wf.ye;have q:(σ.pN nd W).nodes.length=σ.nodes.length+1:=by simp[Ab.pN]
 have N:∀i,(σ.pN nd W).gV i=(σ.add nd).gV i:=λi=>rfl;have⟨C,hb,hC⟩:=A.iw;refine⟨A.fr,by rw[Loc.Bg H];exact A.env,A.Fb,?_,?_,?_,?_,?_,?_,?_,⟨C,hb,hC.ext Y h.wf rfl rfl rfl rfl rfl rfl rfl rfl rfl rfl rfl⟩,?_,?_,A.H9,A.x7,A.F0,A.pI,A.M1,A.rd,A.Tk,A.tok,A.MY,A.bz,A.bB,A.bR,?_,?_,?_,h.tb,h.M0⟩
 .intro i V l;have d:(σ.nodes++[nd])[i]?=some V:=l;by_cases Z:i < σ.nodes.length
  .rw[Ye Z]at d;exact(A.tX i V d).ext Y Z (Loc.Gk Z) (Loc.Pw Z) (h.wfn d)
  grind
 .intro i j F;have I:(if i < σ.nodes.length then L.gI i else k+(i - σ.nodes.length))=(if j < σ.nodes.length then L.gI j else k+(j - σ.nodes.length)):=F;by_cases l:i < σ.nodes.length
  .by_cases O:j < σ.nodes.length
   .rw[gv l,gv O]at I;exact h.inj i j I
   grind
  grind
 .intro i j g l O F D;rw[q]at l O;by_cases d:i < σ.nodes.length
  .rw[Loc.Pw d]at D;by_cases G:j < σ.nodes.length
   .rw[Loc.Pw G];exact h.BZ i j g d G F D
   grind[Loc.new]
  grind[Loc.new]
 .intro i l B;rw[q]at l;by_cases d:i < σ.nodes.length
  .rw[Loc.Pw d];exact h.Hw i d (by rw[<-Ab.sr d];exact B)
  grind[Loc.new]
 .intro i j e g l a1 O F D;rw[q]at O;rcases Ab.JZ (nd:=nd) l with⟨d,B⟩|⟨rfl,rfl⟩
  .rw[Loc.Gk d]at D;by_cases G:j < σ.nodes.length
   .rw[Loc.Gk G];exact h.uq i j e g B a1 G F D
   grind[Loc.new]
  grind[Loc.new]
 .intro i l B;rw[q]at l;by_cases d:i < σ.nodes.length
  .rw[Loc.Gk d];exact h.FX i d (by rw[<-Ab.sr d];exact B)
  .have e1:i=σ.nodes.length:=by omega
   subst e1;rw[Loc.B8];refine K λe U=>?_;rw[N,Ab.sN,U]at B;cases B
 .refine⟨λx J=>Ab.NH (h.wf.gq x J),λx J=>Ab.A9 (h.wf.act x J),Ab.A9 h.wf.head,Ab.A9 h.wf.form,?_,?_,?_⟩
  .intro i e l;rcases Ab.JZ (nd:=nd) l with⟨d,B⟩|⟨rfl,hn⟩
   .exact Ab.A9 (h.wf.je i e B)
   grind[Ab.gR]
  .intro i e l x J;rcases Ab.JZ (nd:=nd) l with⟨d,B⟩|⟨rfl,hn⟩
   .exact Ab.Gg (h.wf.kids i e B x J)
   grind
  .rw[N,Ab.sr H];exact h.wf.ye
 .show w'.ownsRow E.bs _ 1 L.ov σ.gq.length (σ.gq.map λx=>ku (ir (L.new σ.nodes.length k av kv).gI x));rw[Y.list λx J=>Ab.wO (h.wf.gq x J)];exact A.pR
 .show w'.ownsRow E.bs _ 1 L.cv σ.act.length (σ.act.map λx=>ku (ir (L.new σ.nodes.length k av kv).gI x));rw[Y.list h.wf.act];exact A.qB
 .intro i l;rw[q]at l;by_cases d:i < σ.nodes.length
  .rw[Loc.Bg d];exact h.bN i d
  grind[Loc.new]
 .intro hf i g l D;rw[q]at l;have⟨f1,f2⟩:=a0 hf;by_cases d:i < σ.nodes.length
  .rw[Loc.Gk d];exact h.BU f1 i g d D
  grind[Loc.new]
 .intro i g l D;rw[q]at l;by_cases d:i < σ.nodes.length
  .rw[Loc.Gk d]at D;exact h.ab i g d D
  .have e1:i=σ.nodes.length:=by omega
   subst e1;rw[Loc.B8]at D;grind
def Rel.add {E:Env} {L:Loc} {σ:Ab} {w w':gm} (h:Rel E L σ w) (nd:AJ) (k:Nat) (av kv:gG) (D:Bool) (K:Kept [] w w') (B:w.heap.size<=k)
  (I:li E.bs (L.new σ.nodes.length k av kv) w' σ.nodes.length nd) (H:kv.ownBlock=none) (A:∀e,nd= .el e->e.je=none/\e.kids=[])
  (l:∀i e g,σ.gV i=some e->nG e.name=true->av.ownBlock=some g->(L.av i).ownBlock≠some g)
  (q:∀e g j,nd= .el e->nG e.name=true->j < σ.nodes.length->av.ownBlock=some g->(L.av j).ownBlock≠some g)
  (d:(∀e,nd≠ .el e)->av.ownBlock=none)
  (G:D=true->σ.fresh=true/\∀g,E.tv.ownBlock=some g->av.ownBlock≠some g) (F:∀g,av.ownBlock=some g->E.bs<=g):
  Rel E (L.new σ.nodes.length k av kv) (σ.pN nd D) w':=
 h.agr nd k av kv D K (λ_ J=>lU (h.JA J) B) (jH h.bw B) I H A l q d G F
def Rel.X4 {σ σ':Ab} (h:Rel E L σ w) (d:KT E.bs [135,137,278] w w') (l:GN σ.nodes.length L L') (e1:L'.ov=L.ov) (e2:L'.cv=L.cv) (D:L'.wv=L.wv)
  (J:∀i nd,σ'.nodes[i]?=some nd->li E.bs L' w' i nd) (G:∀i j,L'.gI i=L'.gI j->i=j)
  (I:∀i j g,i < σ'.nodes.length->j < σ'.nodes.length->i≠j->(L'.kv i).ownBlock=some g->(L'.kv j).ownBlock≠some g)
  (H:∀i,i < σ'.nodes.length->σ'.gV i=none->(L'.kv i).ownBlock=none)
  (uq:∀i j e g,σ'.gV i=some e->nG e.name=true->j < σ'.nodes.length->i≠j->(L'.av i).ownBlock=some g->(L'.av j).ownBlock≠some g)
  (B:∀i,i < σ'.nodes.length->σ'.gV i=none->(L'.av i).ownBlock=none)
  (wf:Wf σ') (F:σ'.fresh=true->∀i g,i < σ'.nodes.length->E.tv.ownBlock=some g->(L'.av i).ownBlock≠some g)
  (sl:σ'.nodes.length<=σ.nodes.length:=by first|exact gL _|simp[Ab.gS,Ab.ot])
  (O:σ'.gq=σ.gq:=by rfl) (s9:σ'.act=σ.act:=by rfl) (s1:σ'.head=σ.head:=by rfl) (s2:σ'.form=σ.form:=by rfl) (s3:σ'.mode=σ.mode:=by rfl) (s4:σ'.kept=σ.kept:=by rfl) (s5:σ'.iL=σ.iL:=by rfl) (s6:σ'.jJ=σ.jJ:=by rfl) (s7:σ'.gI=σ.gI:=by rfl) (s8:σ'.behind=σ.behind:=by rfl) (sw:σ'.waiting=σ.waiting:=by rfl) (so:σ'.nT=σ.nT:=by rfl) (sp:σ'.iU=σ.iU:=by rfl) (U:σ'.qu=σ.qu:=by rfl) (V:σ'.rH=σ.rH:=by rfl) (W:σ'.pP=σ.pP:=by rfl) (av:L'.av=L.av:=by rfl):Rel E L' σ' w':=by
 obtain⟨C,Z,Y⟩:=h.iw;have q:=Ab.mi (σ:=σ) (i:=0) h.wf.ye;exact {h with
  fr:=h.fr.trans (d.fr (by decide))
  env:=by rw[l 0 q];exact h.env
  Fb:=by rw[U,V,W];exact h.Fb
  tX:=J,inj:=G,BZ:=I,Hw:=H,uq:=uq,FX:=B,wf:=wf
  iw:=⟨C,d.at Z (by decide),Y.ext l h.wf e1 e2 D s1 s2 s3 s4 s5 s6 s7 s8⟩
  pR:=by rw[O,e1,l.list λx hx=>Ab.wO (h.wf.gq x hx)];exact d.row h.pR (by decide)
  qB:=by rw[s9,e2,l.list h.wf.act];exact d.row h.qB (by decide)
  H9:=by rw[e1,e2];exact h.H9
  x7:=by rw[O];exact h.x7
  F0:=by rw[s9];exact h.F0
  pI:=by rw[sw,D];exact d.row h.pI (by decide)
  M1:=by rw[sw];exact h.M1
  rd:=by rw[so,sp];exact d.at h.rd (by decide)
  tok:=d.row h.tok (by decide)
  bN:=λi A=>by rw[l i (lU A sl)];exact h.bN i (lU A sl)
  BU:=F
  ab:=λi g A K=>h.ab i g (lU A sl) (by rw[av]at K;exact K)
  M0:=λv N=>⟨D.trans (h.M0 v N).1,sw.trans (h.M0 v N).2⟩}
def Rel.zG {σ:Ab} (h:Rel E L σ w) (l:j < σ.nodes.length) (d:(L.kv j).ownBlock=some g):∃c m,w.heap[g]?=some (.cells c 137 m):=by
 cases he:σ.gV j with
 |none=>rw[h.Hw j l he]at d;cases d
 |some e=>exact sT (h.tX j _ (Ab.jn he)).1.row d
def Rel.OK {σ:Ab} (h:Rel E L σ w) (l:j < σ.nodes.length) (d:(L.av j).ownBlock=some g):∃c m,w.heap[g]?=some (.cells c 293 m):=by
 cases he:σ.gV j with
 |none=>rw[h.FX j l he]at d;cases d
 |some e=>exact sT (h.tX j _ (Ab.jn he)).2.1 d
def Rel.OI {σ:Ab} (h:Rel E L σ w) (d:j < σ.nodes.length):∃c t,w.heap[L.gI j]?=some (gz c t)/\t≠137/\t≠293:=by
 have⟨c,hc⟩:=(h.tX j σ.nodes[j] (qs d)).typ;refine⟨c,_,hc,?_⟩;cases σ.nodes[j]<;>(simp[AJ.typ])
theorem LG {a : Nat} {c' : jA} {t d : TypeId} {l : Nat×Nat} (h:w.heap[a]?=some (.cells c t m)) (q:w.heap[a]?=some (.cells c' d l)):t=d:=by
 grind
theorem Rel.ik {σ:Ab} (h:Rel E L σ w) (J:List Nat) (q:∀j∈J,j < σ.nodes.length) (F:∀s∈S,∃j∈J,s=L.gI j\/(L.kv j).ownBlock=some s) (H:Kept S w w') (G:σ.nodes[i]?=some nd) (A:i∉J):li E.bs L w' i nd:=by
 have d:i < σ.nodes.length:=(List.getElem?_eq_some_iff.1 G).1;refine(h.tX i nd G).kept H ?_ ?_ ?_
 .intro B;obtain⟨j,l,e|e⟩:=F _ B
  .exact A (by rw[h.inj i j e];exact l)
  .have⟨c,m,h1⟩:=h.zG (q j l) e;have⟨c',t,h2,h3,_⟩:=h.OI d;grind
 .intro g D B;obtain⟨j,l,e|e⟩:=F _ B
  .have⟨c,m,h1⟩:=h.zG d D;have⟨c',t,h2,h3,_⟩:=h.OI (q j l);grind
  .exact h.BZ i j g d (q j l) (λI=>A (by grind)) D e
 .intro g D B;have⟨c,m,h1⟩:=h.OK d D;obtain⟨j,l,e|e⟩:=F _ B
  .have⟨c',t,h2,_,h3⟩:=h.OI (q j l);grind
  .have⟨c',m',h2⟩:=h.zG (q j l) e;grind
def Rel.ktJ {σ:Ab} (h:Rel E L σ w) (J:List Nat) (d:∀j∈J,(σ.gV j).isSome=true) (q:∀s∈S,∃j∈J,s=L.gI j\/(L.kv j).ownBlock=some s) (A:Kept S w w'):KT E.bs [135,137,278] w w':=by
 refine .jL A λs B _=>?_;obtain⟨j,l,e|e⟩:=q s B
 .have⟨e',he⟩:=Option.isSome_iff_exists.1 (d j l);rw[e];exact⟨⟨_,_,_,(h.tX j _ (Ab.jn he)).1.iw,by simp⟩,h.bN j (Ab.gW he)⟩
 .have⟨e',he⟩:=Option.isSome_iff_exists.1 (d j l);have⟨c,m,h1⟩:=h.zG (Ab.gW he) e;exact⟨⟨_,_,_,h1,by simp⟩,((h.tX j _ (Ab.jn he)).1.row.lt _ e).1⟩
def Ab.oa (σ:Ab) (i:Nat) (e:yp):(σ.gS i e).nodes.length=σ.nodes.length:=by simp[Ab.gS]
theorem Ab.iR {σ:Ab} (d:i < σ.nodes.length):(σ.gS i e).gV i=some e:=by
 grind[Ab.gV,Ab.gS]
theorem Ab.iG {σ:Ab} (d:j≠i):(σ.gS i e).gV j=σ.gV j:=by
 grind[Ab.gV,Ab.gS]
theorem Ab.oL {σ:Ab} (h:(σ.gS i e).nodes[j]?=some nd):(j=i/\nd= .el e)\/(j≠i/\σ.nodes[j]?=some nd):=by
 by_cases d:i=j
 .subst d;have l:i < σ.nodes.length:=by have:=(List.getElem?_eq_some_iff.1 h).1;simpa [Ab.gS]using this
  simp[Ab.gS,l]at h;grind
 .simp[Ab.gS,d]at h;grind
theorem Ab.qS {σ:Ab} (d:(σ.gV i).isSome=true) (x:iY):(σ.gS i e).gR x=σ.gR x:=by
 cases x with
 |none=>rfl
 |some j=>
  show((σ.gS i e).gV j).isSome=(σ.gV j).isSome;grind[Ab.gV,Ab.gS]
def Ab.yW {σ:Ab} (d:(σ.gV i).isSome=true) (x:iY):(σ.gS i e).mW x=σ.mW x:=by
 cases x with
 |none=>rfl
 |some j=>exact Ab.qS d (some j)
theorem Ab.lx {σ:Ab} (d:(σ.gV i).isSome=true) (k:Nd):(σ.gS i e).jk k=σ.jk k:=by
 have h:∀j,j≠i->(σ.gS i e).nodes[j]?=σ.nodes[j]?:=λj A=>by grind[Ab.gS]
 have⟨e0,he0⟩:=Option.isSome_iff_exists.1 d;have l:=Ab.jn he0;have q:(σ.gS i e).nodes[i]?=some (.el e):=by simp[Ab.gS,Ab.gW he0]
 cases k with
 |el j=>exact Ab.qS d (some j)
 |tx j=>grind[Ab.jk]
 |cm j=>grind[Ab.jk]
 |dt j=>grind[Ab.jk]
theorem Wf.gS {σ:Ab} (h:Wf σ) (l:(σ.gV i).isSome=true) (G:σ.gR e.je=true) (F:∀k∈e.kids,σ.jk k=true):Wf (σ.gS i e):=by
 refine⟨λx D=>by rw[Ab.yW l];exact h.gq x D,λx D=>by rw[Ab.qS l];exact h.act x D,by rw[Ab.qS l];exact h.head,by rw[Ab.qS l];exact h.form,?_,?_,?_⟩
 .intro j A q;rw[Ab.qS l];by_cases d:j=i
  .subst d;rw[Ab.iR (Ab.mi (σ:=σ) (i:=j) l)]at q;grind
  .rw[Ab.iG d]at q;exact h.je j A q
 .intro j A q k B;rw[Ab.lx l];by_cases d:j=i
  .subst d;rw[Ab.iR (Ab.mi (σ:=σ) (i:=j) l)]at q;grind
  .rw[Ab.iG d]at q;exact h.kids j A q k B
 .have:=Ab.qS (e:=e) l (some 0);exact this.trans h.ye
theorem Rel.afG {σ σ':Ab} (h:Rel E L σ w) (i:Nat) (l:gG) (K:(σ.gV i).isSome=true) (kt:KT E.bs [135,137,278] w w') (V:l.ownBlock=(L.kv i).ownBlock\/∀g,l.ownBlock=some g->w.heap.size<=g)
  (d:σ'.nodes.length=σ.nodes.length) (U:∀j Y,σ'.gV j=some Y->∃e,σ.gV j=some e/\Y.name=e.name) (I:∀j,σ'.gV j=none->σ.gV j=none)
  (W:∀j nd,σ'.nodes[j]?=some nd->li E.bs {L with kv:=λx=>if x=i then l else L.kv x} w' j nd) (wf:Wf σ')
  (s0:σ'.gq=σ.gq:=by rfl) (s9:σ'.act=σ.act:=by rfl) (s1:σ'.head=σ.head:=by rfl) (s2:σ'.form=σ.form:=by rfl) (s3:σ'.mode=σ.mode:=by rfl) (s4:σ'.kept=σ.kept:=by rfl) (s5:σ'.iL=σ.iL:=by rfl) (s6:σ'.jJ=σ.jJ:=by rfl) (s7:σ'.gI=σ.gI:=by rfl) (s8:σ'.behind=σ.behind:=by rfl) (sw:σ'.waiting=σ.waiting:=by rfl) (so:σ'.nT=σ.nT:=by rfl) (sp:σ'.iU=σ.iU:=by rfl) (sf:σ'.fresh=σ.fresh:=by rfl) (d1:σ'.qu=σ.qu:=by rfl) (d2:σ'.rH=σ.rH:=by rfl) (d3:σ'.pP=σ.pP:=by rfl):To E L σ' w w':=by
 have N:=Ab.mi (σ:=σ) (i:=i) K;have Z:∀j g,j < σ.nodes.length->j≠i->l.ownBlock=some g->(L.kv j).ownBlock≠some g:=by
  intro j g q D B G;rcases V with e|e
  .rw[e]at B;exact h.BZ i j g N q (wB D) B G
  .have⟨c,m,hc⟩:=h.zG q G;grind
 refine⟨{L with kv:=λx=>if x=i then l else L.kv x},rfl,h.X4 (L':={L with kv:=λx=>if x=i then l else L.kv x}) kt (λ_ _=>rfl) rfl rfl rfl W h.inj ?_ ?_ ?_ ?_ wf ?_ (LN d) s0 s9 s1 s2 s3 s4 s5 s6 s7 s8 sw so sp d1 d2 d3,kt.fr (by decide)⟩
 .intro a b g J F A B;rw[d]at J F;by_cases h1:a=i
  .grind
  .simp only[gH h1]at B;by_cases h2:b=i
   .grind
   .simp only[gH h2];exact h.BZ a b g J F A B
 .intro j q O;rw[d]at q;have H:=I j O;have D:j≠i:=by rintro rfl;rw[H]at K;cases K
  simp only[gH D];exact h.Hw j q H
 .intro a b e g J a0 F A B;rw[d]at F;have⟨e0,h0,hnm'⟩:=U a e J;exact h.uq a b e0 g h0 (by grind) F A B
 .intro j q O;rw[d]at q;exact h.FX j q (I j O)
 .rw[d,sf];exact h.BU
def Rel.vG {σ:Ab} (h:Rel E L σ w) (d:σ.gV i=some e):El E.bs w (L.gI i) e.name (L.av i) (ir L.gI e.je) (L.kv i) (e.kids.map (Nd.map L.gI)):=(h.tX i _ (Ab.jn d)).1
def Rel.xm {σ:Ab} (h:Rel E L σ w) (d:σ.gV i=some e):zr w (L.av i) e.gO:=(h.tX i _ (Ab.jn d)).2.1
def Rel.AB {σ:Ab} (h:Rel E L σ w) (d:σ.gV i=some e):e.gO.length<=4096:=(h.tX i _ (Ab.jn d)).2.2
theorem Rel.Zj {σ:Ab} (h:Rel E L σ w) {k : Nd} (d:σ.jk k=true):AK w (Nd.map L.gI k):=by
 cases k with
 |el i=>
  have⟨e,he⟩:=Option.isSome_iff_exists.1 (show(σ.gV i).isSome=true from d);exact⟨_,(h.vG he).iw⟩
 |tx i=>
  simp only[Ab.jk]at d;split at d
  .rename_i s l;exact⟨_,h.tX i _ l⟩
  grind
 |cm i=>
  simp only[Ab.jk]at d;split at d
  .rename_i s l;exact⟨_,h.tX i _ l⟩
  grind
 |dt i=>
  simp only[Ab.jk]at d;split at d
  .rename_i s l;exact⟨_,h.tX i _ l⟩
  grind
theorem abX (d:∀i j,f i=f j->i=j) (j:Nat) (k:Nd):(Nd.map f k).gR (f j)=k.gR j:=by
 cases k with
 |el i=>
  grind[Nd.gR,Nd.map]
 |tx i=>rfl
 |cm i=>rfl
 |dt i=>rfl
theorem Lc (d:∀i j,f i=f j->i=j) (ks:List Nd) (j:Nat):qE (ks.map (Nd.map f)) (Nd.gR (f j))=qE ks (Nd.gR j):=by
 have:(ks.map (Nd.map f)).findIdx (Nd.gR (f j))=ks.findIdx (Nd.gR j):=by
  rw[List.findIdx_map]
  congr 1
  funext k
  exact abX d j k
 grind[qE]
def TF {σ:Ab} (h:Rel E L σ w) (q:σ.gV i=some e):
  Calls prog 90 #[gE (L.gI i)] w λd w'=>d=ig (place (L.gI i) e.kids.length)/\Rel E L σ w'/\Kept [] w w':=by
 refine(ahy E.bs _ _ _ _ _ _ w (h.vG q)).mono ?_;rintro d w' ⟨rfl,l⟩;exact⟨by simp,h.ib l,l⟩
def We {σ:Ab} (h:Rel E L σ w) (A:σ.gV i=some e) (B:e.je=none):
  Calls prog 312 #[gE (L.gI i)] w λd w'=>d=ig (.tuple #[.agg #[.pointer none,fV 0],.bool false])/\Rel E L σ w'/\Kept [] w w':=by
 have l:=h.vG A;rw[B]at l;refine(abE E.bs _ _ _ _ _ w l).mono ?_;rintro d w' ⟨rfl,q⟩;exact⟨rfl,h.ib q,q⟩
def TH {σ:Ab} (h:Rel E L σ w) {p : Nat} {q : yp} (D:σ.gV i=some e) (F:e.je=some p) (d:σ.gV p=some q):
  Calls prog 312 #[gE (L.gI i)] w λA w'=>A=ig (.tuple #[.agg #[gE (L.gI p),fV (qE q.kids (Nd.gR i))],.bool true])/\Rel E L σ w'/\Kept [] w w':=by
 have B:=h.vG D;rw[F]at B;refine(Zb E.bs _ _ _ _ _ _ _ _ _ _ _ w B (h.vG d) ?_).mono ?_
 .intro x G;obtain⟨k,l,rfl⟩:=List.mem_map.1 G;exact h.Zj (h.wf.kids p q d k l)
 rintro A w' ⟨rfl,l⟩;exact⟨by rw[Lc h.inj],h.ib l,l⟩
theorem ZY {σ:Ab} (h:Rel E L σ w) (l:σ.gV i=some e) (J:nG e.name=false):
  Calls prog 266 #[gE (L.gI i)] w λq w'=>∃L',GN σ.nodes.length L L'/\q=ig (gE (L'.gI σ.nodes.length))/\Rel E L' (σ.add (.el {name:=e.name,gO:=e.gO,je:=none,kids:=[]})) w'/\Fr E.bs w w':=by
 have K:=h.xm l;have W:=h.AB l;refine(Jy E.bs _ _ _ _ _ _ w (h.vG l)).mono ?_;rintro q w' ⟨rfl,U,G⟩;have d:=Ab.gW l;refine⟨L.new σ.nodes.length w.heap.size (L.av i) (ji),λj D=>Loc.Bg D,by simp[Loc.new],?_,.gN G⟩;refine h.add (.el {name:=e.name,gO:=e.gO,je:=none,kids:=[]}) w.heap.size (L.av i) (ji) σ.fresh G (gL _) ?_ rfl (λq V=>by grind) ?_ ?_ (λH=>absurd rfl (H _)) ?_ (λg J=>h.ab i g d J)
 .show El E.bs w' _ _ _ _ _ _/\zr w' _ _/\_;rw[Loc.um,Loc.B8,Loc.Je];exact⟨U,G.ownsRow K (by simp),W⟩
 .intro j e2 g D B N O;by_cases F:j=i
  .grind
  .exact h.uq j i e2 g D B d F O N
 .grind
 .intro I;exact⟨I,λg A=>h.BU I i g d A⟩
def map_eraseIdx (f:Nd->Nd):∀(ks:List Nd) (n:Nat),(ks.eraseIdx n).map f=(ks.map f).eraseIdx n
 |[],_=>by simp
 |_::_,0=>by simp
 |k::ks,n+1=>by simp[map_eraseIdx f ks n]
def ins (ks:List Nd) (n:Nat) (k:Nd):List Nd:=ks.take n++[k]++ks.drop n
def EH (f:Nat->Nat) (ks:List Nd) (n:Nat) (k:Nd):(ins ks n k).map (Nd.map f)=(ks.map (Nd.map f)).take n++[Nd.map f k]++(ks.map (Nd.map f)).drop n:=by
 simp[ins]
theorem EI {k x : Nd} (h:x∈ins ks n k):x∈ks\/x=k:=by
 rcases List.mem_append.1 h with h|h
 all_goals grind
theorem adf {σ:Ab} (h:Rel E L σ w) (F:σ.gV i=some ei) (I:σ.gV j=some ej) (G:j≠i) (hn:n<=ei.kids.length) (hl:ei.kids.length < 1048576):
  Calls prog 166 #[place (L.gI i) n,(Nd.el (L.gI j)).val] w λe w'=>e=pL/\To E L ((σ.gS i {ei with kids:=ins ei.kids n (.el j)}).gS j {ej with je:=some i}) w w':=by
 have D:=Ab.gW F;have U:=Ab.gW I;have A:(σ.gV i).isSome=true:=by rw[F];rfl
 have K:(σ.gV j).isSome=true:=by rw[I];rfl
 have aI:=h.xm F;have lI:=h.AB F;have aJ:=h.xm I;have lJ:=h.AB I;refine(VM E.bs _ n _ _ _ _ _ _ _ _ _ _ _ w (h.vG F) (h.vG I) (λe=>G (h.inj _ _ e)) (λg hg=>h.BZ j i g U D G hg) (by grind) (by grind) h.bw).mono ?_;rintro e w' ⟨rfl,⟨H,E1,f1⟩,E2,Y⟩;have W:∀s∈L.gI j::L.gI i::(L.kv i).ownBlock.toList,∃x∈[j,i],s=L.gI x\/(L.kv x).ownBlock=some s:=by
  intro s N;rcases List.mem_cons.1 N with rfl|N
  .simp
  rcases List.mem_cons.1 N with rfl|N
  .simp
  .grind
 have Z:=h.ktJ [j,i] (by grind) W Y;have O:((σ.gS i {ei with kids:=ins ei.kids n (.el j)}).gV j).isSome=true:=by rw[Ab.iG G];exact K
 have J:∀x e,x < σ.nodes.length->zr w (L.av x) e->zr w' (L.av x) e:=λx e _ ha=>Z.row ha (by decide);refine⟨rfl,h.afG i H A Z f1 (by simp[Ab.gS]) ?_ ?_ ?_ ?_⟩
 .intro x e' d;by_cases q:x=j
  .subst q;rw[Ab.iR (by grind[Ab.gS])]at d;grind
  .rw[Ab.iG q]at d;by_cases l:x=i
   .subst l;rw[Ab.iR D]at d;grind
   .rw[Ab.iG l]at d;grind
 .intro x d;by_cases q:x=j
  .subst q;rw[Ab.iR (by grind[Ab.gS])]at d;cases d
  .rw[Ab.iG q]at d;by_cases l:x=i
   .subst l;rw[Ab.iR D]at d;cases d
   .rwa [Ab.iG l]at d
 .intro x nd d;rcases Ab.oL d with⟨rfl,rfl⟩|⟨q,d⟩
  .grind[li]
  .rcases Ab.oL d with⟨rfl,rfl⟩|⟨l,d⟩
   .show El E.bs w' _ _ _ _ (if x=x then H else L.kv x) _/\_;rw[gv rfl];refine⟨?_,J x _ D aI,lI⟩;show El E.bs w' (L.gI x) ei.name (L.av x) (ir L.gI ei.je) H ((ins ei.kids n (.el j)).map (Nd.map L.gI));rw[EH];exact E1
   .have hN:=h.ik [j,i] (by grind) W Y d (by grind);have V:x < σ.nodes.length:=(List.getElem?_eq_some_iff.1 d).1;exact hN.ext (σ:=σ) (GN.refl _ _) V rfl (gH l) (h.wfn d)
 .refine(h.wf.gS (e:={ei with kids:=ins ei.kids n (.el j)}) A (h.wf.je i ei F) ?_).gS O ?_ ?_
  .intro k B;rcases EI B with B|rfl
   .exact h.wf.kids i ei F k B
   .exact K
  .rw[Ab.qS A];exact A
  .intro k B;rw[Ab.lx A];exact h.wf.kids j ej I k B
theorem TI {σ:Ab} (h:Rel E L σ w) {k : Nd} (q:σ.gV i=some ei) (Z:σ.jk k=true) (V:∀j,k≠ .el j) (hn:n<=ei.kids.length) (hl:ei.kids.length < 1048576):
  Calls prog 166 #[place (L.gI i) n,(Nd.map L.gI k).val] w λe w'=>e=pL/\To E L (σ.gS i {ei with kids:=ins ei.kids n k}) w w':=by
 have D:=Ab.gW q;have B:(σ.gV i).isSome=true:=by rw[q];rfl
 have N:=h.xm q;have W:=h.AB q;refine(acJ E.bs _ n _ _ _ _ _ (Nd.map L.gI k) w (h.vG q) (by grind) (by grind) h.bw (λj e=>by cases k<;>simp[Nd.map]at e;grind)).mono ?_;rintro e w' ⟨rfl,⟨A,K,O⟩,F⟩;have H:∀s∈L.gI i::(L.kv i).ownBlock.toList,∃x∈[i],s=L.gI x\/(L.kv x).ownBlock=some s:=by
  intro s I;rcases List.mem_cons.1 I with rfl|I
  .simp
  .grind
 have J:=h.ktJ [i] (by grind) H F;refine⟨rfl,h.afG i A B J O (by simp[Ab.gS]) ?_ ?_ ?_ ?_⟩
 .intro x Y d;by_cases l:x=i
  .subst l;rw[Ab.iR D]at d;grind
  .rw[Ab.iG l]at d;grind
 .intro x d;by_cases l:x=i
  .subst l;rw[Ab.iR D]at d;cases d
  .rwa [Ab.iG l]at d
 .intro x nd d;rcases Ab.oL d with⟨rfl,rfl⟩|⟨l,d⟩
  .show El E.bs w' _ _ _ _ (if x=x then A else L.kv x) _/\_;rw[gv rfl];refine⟨?_,J.row N (by decide),W⟩;show El E.bs w' (L.gI x) ei.name (L.av x) (ir L.gI ei.je) A ((ins ei.kids n k).map (Nd.map L.gI));rw[EH];exact K
  .have U:=h.ik [i] (by grind) H F d (by grind);have G:x < σ.nodes.length:=(List.getElem?_eq_some_iff.1 d).1;exact U.ext (σ:=σ) (GN.refl _ _) G rfl (gH l) (h.wfn d)
 .refine h.wf.gS B (h.wf.je i ei q) ?_;intro x d;rcases EI d with d|rfl
  .exact h.wf.kids i ei q x d
  omega
def FB {σ:Ab} (h:Rel E L σ w) (l:σ.gV j=some ej) (q:ej.je=none):
  Calls prog 365 #[gE (L.gI j)] w λe w'=>e=pL/\w'=w:=by
 have d:=h.vG l;rw[q]at d;exact Wh E.bs _ _ _ _ _ w d
theorem Z2 {σ:Ab} (h:Rel E L σ w) {p : Nat} {l : yp} (J:σ.gV j=some ej) (K:ej.je=some p) (F:σ.gV p=some l) (B:j≠p) (hn:n < l.kids.length) (a0:qE l.kids (Nd.gR j)=(n:Int)):
  Calls prog 365 #[gE (L.gI j)] w λe w'=>e=pL/\To E L ((σ.gS p {l with kids:=l.kids.eraseIdx n}).gS j {ej with je:=none}) w w':=by
 have H:=Ab.gW F;have W:=Ab.gW J;have I:(σ.gV p).isSome=true:=by rw[F];rfl
 have V:(σ.gV j).isSome=true:=by rw[J];rfl
 have hE:=h.vG J;rw[K]at hE;have aP:=h.xm F;have lP:=h.AB F;have aJ:=h.xm J;have lJ:=h.AB J;refine(Ip E.bs _ _ n _ _ _ _ _ _ _ _ _ w hE (h.vG F) ?_ (λe=>B (h.inj _ _ e)) (λg hg=>h.BZ j p g W H B hg) (by grind) (by rw[Lc h.inj];omega)).mono ?_
 .intro x d;obtain⟨k,N,rfl⟩:=List.mem_map.1 d;exact h.Zj (h.wf.kids p l F k N)
 rintro e w' ⟨rfl,⟨D,E1,f1⟩,E2,N⟩;have hS:∀s∈L.gI j::L.gI p::(L.kv p).ownBlock.toList,∃x∈[j,p],s=L.gI x\/(L.kv x).ownBlock=some s:=by
  intro s O;rcases List.mem_cons.1 O with rfl|O
  .simp
  rcases List.mem_cons.1 O with rfl|O
  .simp
  .grind
 have Z:=h.ktJ [j,p] (by grind) hS N;have U:((σ.gS p {l with kids:=l.kids.eraseIdx n}).gV j).isSome=true:=by rw[Ab.iG B];exact V
 refine⟨rfl,h.afG p D I Z (.inl f1) (by simp[Ab.gS]) ?_ ?_ ?_ ?_⟩
 .intro x e' d;by_cases A:x=j
  .subst A;rw[Ab.iR (by grind[Ab.gS])]at d;grind
  .rw[Ab.iG A]at d;by_cases q:x=p
   .subst q;rw[Ab.iR H]at d;grind
   .rw[Ab.iG q]at d;grind
 .intro x d;by_cases A:x=j
  .subst A;rw[Ab.iR (by grind[Ab.gS])]at d;cases d
  .rw[Ab.iG A]at d;by_cases q:x=p
   .subst q;rw[Ab.iR H]at d;cases d
   .rwa [Ab.iG q]at d
 .intro x nd d;rcases Ab.oL d with⟨rfl,rfl⟩|⟨A,d⟩
  .show El E.bs w' _ _ _ _ (if x=p then D else L.kv x) _/\_;rw[gH B];exact⟨E2,Z.row aJ (by decide),lJ⟩
  .rcases Ab.oL d with⟨rfl,rfl⟩|⟨q,d⟩
   .show El E.bs w' _ _ _ _ (if x=x then D else L.kv x) _/\_;rw[gv rfl];refine⟨?_,Z.row aP (by decide),lP⟩;show El E.bs w' (L.gI x) l.name (L.av x) (ir L.gI l.je) D ((l.kids.eraseIdx n).map (Nd.map L.gI));rw[map_eraseIdx];exact E1
   .have hN:=h.ik [j,p] (by grind) hS N d (by grind);have Y:x < σ.nodes.length:=(List.getElem?_eq_some_iff.1 d).1;exact hN.ext (σ:=σ) (GN.refl _ _) Y rfl (gH q) (h.wfn d)
 .refine(h.wf.gS (e:={l with kids:=l.kids.eraseIdx n}) I (h.wf.je p l F) ?_).gS U rfl ?_
  .intro k G;exact h.wf.kids p l F k (List.mem_of_mem_eraseIdx G)
  .intro k G;rw[Ab.lx I];exact h.wf.kids j ej J k G
theorem Rel.CJ {σ:Ab} (h:Rel E L σ w) (d:fY):Rel E (L.new σ.nodes.length w.heap.size (ji) (ji)) (σ.add (.el {name:=d,gO:=[],je:=none,kids:=[]})) (w.alloc (gz #[gu d,ji,.pointer none,ji] 135)):=by
 have A:Kept [] w (w.alloc (gz #[gu d,ji,.pointer none,ji] 135)):=(Kept.refl _ _).alloc _;refine h.add (.el {name:=d,gO:=[],je:=none,kids:=[]}) w.heap.size (ji) (ji) σ.fresh A (gL _) ?_ rfl (λe B=>by grind) (λ_ _ _ _ _ l=>by cases l) (λ_ _ _ _ _ _ l=>by cases l) (λ_=>rfl) (λq=>⟨q,λ_ _=>by simp[Value.ownBlock]⟩) (λ_ l=>by cases l);show El E.bs _ _ _ _ _ _ _/\zr _ _ _/\_;rw[Loc.um,Loc.B8,Loc.Je];exact⟨⟨fP w _,pk _ _ _ _,by simp,⟨_,_,_,rfl⟩⟩,pk _ _ _ _,by simp⟩
theorem Rel.nC {σ:Ab} (h:Rel E L σ w) (l:σ.fresh=true) (d:fY):Rel E (L.new σ.nodes.length w.heap.size E.tv (ji)) (σ.pN (.el {name:=d,gO:=E.ta,je:=none,kids:=[]}) false) (w.alloc (gz #[gu d,E.tv,.pointer none,ji] 135)):=by
 have B:Kept [] w (w.alloc (gz #[gu d,E.tv,.pointer none,ji] 135)):=(Kept.refl _ _).alloc _;refine h.add (.el {name:=d,gO:=E.ta,je:=none,kids:=[]}) w.heap.size E.tv (ji) false B (gL _) ?_ rfl (λe G=>by grind) (λi e g D _ q=>h.BU l i g (Ab.gW D) q) (λe g j _ _ F q=>h.BU l j g F q) (λA=>absurd rfl (A _)) (λl=>by cases l) h.tb;show El E.bs _ _ _ _ _ _ _/\zr _ _ _/\_;rw[Loc.um,Loc.B8,Loc.Je];have⟨ao,cap,hv⟩:=gw h.tok;exact⟨⟨fP w _,pk _ _ _ _,by simp,⟨_,_,_,hv⟩⟩,B.ownsRow h.tok (by simp),h.MY⟩
def Rel.ajh {σ:Ab} (h:Rel E L σ w) (nd:AJ) (s:fY) (l:nd= .tx s\/nd= .cm s\/nd= .dt s):Rel E (L.new σ.nodes.length w.heap.size (ji) (ji)) (σ.add nd) (w.alloc (gz #[gu s] nd.typ)):=by
 have D:Kept [] w (w.alloc (gz #[gu s] nd.typ)):=(Kept.refl _ _).alloc _;have q:∀e,nd≠ .el e:=by rintro e rfl;rcases l with h|h|h<;>cases h
 refine h.add nd w.heap.size (ji) (ji) σ.fresh D (gL _) ?_ rfl (λe A=>absurd A (q e)) (λ_ _ _ _ _ d=>by cases d) (λ_ _ _ _ _ _ d=>by cases d) (λ_=>rfl) (λB=>⟨B,λ_ _=>by simp[Value.ownBlock]⟩) (λ_ d=>by cases d);rcases l with rfl|rfl|rfl
 .show _=_;rw[Loc.um];exact fP w _
 .show _=_;rw[Loc.um];exact fP w _
 .show _=_;rw[Loc.um];exact fP w _
def Too (E:Env) (L:Loc) (n:Nat) (σ':Ab) (w w':gm):Prop:=∃L',GN n L L'/\Rel E L' σ' w'/\Fr E.bs w w'
def Ab.ot (σ:Ab) (t:Nat) (s:fY):Ab:={σ with nodes:=σ.nodes.set t (.tx s)}
theorem Ab.sI {σ:Ab} (d:σ.nodes[t]?=some (.tx old)) (i:Nat):(σ.ot t s).gV i=σ.gV i:=by
 grind[Ab.gV,Ab.ot]
def Ab.vg {σ:Ab} (d:σ.nodes[t]?=some (.tx old)) (x:iY):(σ.ot t s).gR x=σ.gR x:=by
 cases x with
 |none=>rfl
 |some i=>show((σ.ot t s).gV i).isSome=(σ.gV i).isSome;rw[Ab.sI d]
def Ab.Tq {σ:Ab} (d:σ.nodes[t]?=some (.tx old)) (x:iY):(σ.ot t s).mW x=σ.mW x:=by
 cases x with
 |none=>rfl
 |some i=>exact Ab.vg d (some i)
theorem Ab.Il {σ:Ab} (d:σ.nodes[t]?=some (.tx old)) (k:Nd):(σ.ot t s).jk k=σ.jk k:=by
 have h:=(List.getElem?_eq_some_iff.1 d).1;have A:(σ.ot t s).nodes[t]?=some (.tx s):=by simp[Ab.ot,h]
 have q:∀j,j≠t->(σ.ot t s).nodes[j]?=σ.nodes[j]?:=λj l=>by grind[Ab.ot]
 cases k with
 |el j=>exact Ab.vg d (some j)
 |tx j=>grind[Ab.jk]
 |cm j=>grind[Ab.jk]
 |dt j=>grind[Ab.jk]
theorem IW {σ:Ab} (h:Rel E L σ w) {m : Nat} (D:σ.gV i=some ei) (hm:m < ei.kids.length) (B:ei.kids[m]= .tx t) (q:σ.nodes[t]?=some (.tx old)) (U:old.size+s.size<=1048576):
  Calls prog 173 #[place (L.gI i) (m+1),gu s] w λe w'=>e=pL/\To E L (σ.ot t (old++s)) w w':=by
 refine(MK E.bs _ m (L.gI t) _ old s _ _ _ _ w (h.vG D) (by grind) (by simp[B,Nd.map]) (h.tX t _ q) U).mono ?_;rintro e w' ⟨rfl,Z,I⟩;have V:=(List.getElem?_eq_some_iff.1 q).1;have J:=h.tX t _ q;have Y:KT E.bs [135,137,278] w w':= .jL I (λx B _=>by simp at B;subst B;exact⟨⟨_,_,_,J,by simp⟩,h.bN t (List.getElem?_eq_some_iff.1 q).1⟩);refine⟨rfl,L,rfl,h.X4 (σ':=σ.ot t (old++s)) Y (λ_ _=>rfl) rfl rfl rfl ?_ h.inj ?_ ?_ ?_ ?_ ?_ ?_,Y.fr (by decide)⟩
 .intro x nd d;by_cases F:t=x
  .subst F;simp[Ab.ot,V]at d;rw[<-d];exact Z
  .have H:σ.nodes[x]?=some nd:=by simpa [Ab.ot,F]using d
   have l:=(List.getElem?_eq_some_iff.1 H).1;refine(h.tX x nd H).kept I ?_ ?_ ?_
   .simp;exact λe=>F (h.inj _ _ e.symm)
   .intro g G A;simp at A;have⟨c,m',h1⟩:=h.zG l G;rw[A]at h1;exact absurd (LG J h1) (by decide)
   .intro g G A;simp at A;have⟨c,m',h1⟩:=h.OK l G;rw[A]at h1;exact absurd (LG J h1) (by decide)
 .simpa [Ab.ot]using h.BZ
 .intro x l d;rw[Ab.sI q]at d;exact h.Hw x (by simpa [Ab.ot]using l) d
 .intro a b e g W O N K G;rw[Ab.sI q]at W;exact h.uq a b e g W O (by simpa [Ab.ot]using N) K G
 .intro x l d;rw[Ab.sI q]at d;exact h.FX x (by simpa [Ab.ot]using l) d
 .refine⟨λx B=>by rw[Ab.Tq q];exact h.wf.gq x B,λx B=>by rw[Ab.vg q];exact h.wf.act x B,by rw[Ab.vg q];exact h.wf.head,by rw[Ab.vg q];exact h.wf.form,λi e D=>by rw[Ab.sI q]at D;rw[Ab.vg q];exact h.wf.je i e D,λi e D k I=>by rw[Ab.sI q]at D;rw[Ab.Il q];exact h.wf.kids i e D k I,by rw[Ab.sI q];exact h.wf.ye⟩
 .intro hf x g l;exact h.BU hf x g (by simpa [Ab.ot]using l)
theorem Lz {σ:Ab} (h:Rel E L σ w) (A:σ.gV i=some ei) (V:n<=ei.kids.length) (O:ei.kids.length < 1048576) (Y:∀m,(H:m < ei.kids.length)->n=m+1->∀t,ei.kids[m]≠ .tx t):
  Calls prog 173 #[place (L.gI i) n,gu s] w λe w'=>e=pL/\Too E L σ.nodes.length ((σ.add (.tx s)).gS i {ei with kids:=ins ei.kids n (.tx σ.nodes.length)}) w w':=by
 have l:=Ab.gW A;refine PN E.bs _ n _ s _ _ _ _ w (h.vG A) (by grind) _ ?_ ?_
 .intro w1 G;have J:=(h.ib G).ajh (.tx s) s (.inl rfl);have F:GN σ.nodes.length L (L.new σ.nodes.length w1.heap.size (ji) (ji)):=λj D=>Loc.Bg D;have B:(σ.add (.tx s)).gV i=some ei:=by rw[Ab.sr l];exact A
  have q:(σ.add (.tx s)).jk (.tx σ.nodes.length)=true:=by simp[Ab.jk,Ab.add]
  have:=TI J (n:=n) (k:= .tx σ.nodes.length) B q (λj e=>by cases e) V O;rw[F i l]at this;simp only[Nd.map,Loc.um]at this;refine this.mono ?_;rintro e w' ⟨rfl,I,e2,K,N⟩;exact⟨rfl,I,λj D=>by rw[e2];exact F j D,K,(Fr.gN (G.alloc _)).trans N⟩
 .intro m H W t d;have U:m < ei.kids.length:=by simpa using H
  rw[List.getElem_map]at d;cases hq:ei.kids[m]with
  |tx t'=>grind
  |el _=>rw[hq]at d;cases d
  |cm _=>rw[hq]at d;cases d
  |dt _=>rw[hq]at d;cases d
inductive TK
 |kg (s:fY)
 |start (name:fY)
 |stop (name:fY)
 |gM (s:fY)
 |iE (name:fY) (q:Bool)
 |lost
 |ie
structure gy where
 a:Nat
 b:Nat
 k:TK
 gO:la:=[]
def gy.name (t:gy):fY:=match t.k with
 | .start n=>n
 | .stop n=>n
 |_=>⟨#[]⟩
def gy.jh (t:gy):la:=match t.k with
 | .start _=>t.gO
 | .stop _=>t.gO
 |_=>[]
def gy.chars (t:gy):fY:=match t.k with
 | .kg s=>s
 |_=>⟨#[]⟩
def uh (s:fY):Bool:=kJ s ⟨#[0]⟩
def mq (s:fY):Bool:=gZ [AA,⟨#[9]⟩,yo,⟨#[12]⟩] s
namespace Ab
def nm (σ:Ab) (i:Nat):fY:=match σ.gV i with
 |some e=>e.name
 |none=>⟨#[]⟩
def rL (σ:Ab):iY->fY
 |some i=>σ.nm i
 |none=>⟨#[]⟩
def last (σ:Ab):iY:=io σ.gq ((σ.gq.length:Int) - 1)
def current (σ:Ab) (p:fY->Bool):Bool:=match σ.last with
 |none=>false
 |some i=>p (σ.nm i)
def pop (σ:Ab):Ab:={σ with gq:=σ.gq.dropLast}
def Fi (σ:Ab) (p:fY->Bool):Ab:=if σ.current p then σ.pop else σ
def zl (σ:Ab) (p:fY->Bool):kG->kG
 |[]=>[]
 |x::r=>if p (σ.rL x)then r else zl σ p r
def FG (σ:Ab) (p:fY->Bool):Ab:={σ with gq:=(zl σ p σ.gq.reverse).reverse}
def pS (σ:Ab) (p:fY->Bool):kG->kG
 |[]=>[]
 |x::r=>if p (σ.rL x)then pS σ p r else x::r
def wF (σ:Ab) (p:fY->Bool):Ab:={σ with gq:=(pS σ (λs=>!(p s||gZ [fO] s)) σ.gq.reverse).reverse}
def me (σ:Ab):Ab:={σ with gq:=(pS σ vM σ.gq.reverse).reverse}
def yz (σ:Ab) (p b:fY->Bool):kG->Bool
 |[]=>false
 |x::r=>if p (σ.rL x)then true else if b (σ.rL x)then false else yz σ p b r
def inScope (σ:Ab) (p b:fY->Bool):Bool:=yz σ p b σ.gq.reverse
def oJ (σ:Ab) (d:Nat):kG->Bool
 |[]=>false
 |x::r=>if x=some d then true else if iJ (σ.rL x)then false else oJ σ d r
def pz (σ:Ab) (d:Nat):Bool:=oJ σ d σ.gq.reverse
def close (σ:Ab) (p b:fY->Bool):Ab:=if σ.inScope p b then σ.FG p else σ
end Ab
def Ei:fY->Bool:=λs=>iJ s||gZ [gU] s
def agB:fY->Bool:=λs=>iJ s||gZ [pc] s
def Br:fY->Bool:=gZ [fO,fQ]
def Bs:fY->Bool:=gZ [fQ,fW,fX,fZ,gX]
def aiY (x:iY):M Nat:=λσ=>match x with
 |some i=>if (σ.gV i).isSome then .ok i σ else .stuck
 |none=> .stuck
def jr (i:Nat):M (Nat×Nat):=λσ=>match σ.gV i with
 |some e=> .ok (i,e.kids.length) σ
 |none=> .stuck
def sP (σ:Ab):kG->Option (iY)
 |[]=>none
 |x::r=>if !kJ (σ.rL x) fQ||x=io σ.gq 0 then sP σ r else some x
def pM.isOk {α:Type}:pM α->Bool
 | .ok _ _=>true
 |_=>false
def lM (i:Nat):M (Nat×Nat):=λσ=>match σ.gV i with
 |some e=>match e.je with
  |some p=>match σ.gV p with
   |some ep=>if 0<=qE ep.kids (Nd.gR i)then .ok (p,(qE ep.kids (Nd.gR i)).toNat) σ else .stuck
   |none=> .stuck
  |none=>match io σ.gq (posOf σ.gq (some i) - 1)with
   |some q=>jr q σ
   |none=> .stuck
 |none=> .stuck
def Ab.Bt (σ:Ab):Bool:=σ.gq.all λx=>match x with
 |some i=>!kJ (σ.nm i) fQ||decide (some i=io σ.gq 0)||(lM i σ).isOk
 |none=>false
def jK:M (Nat×Nat):=λσ=>if σ.Bt then (match sP σ σ.gq.reverse with
 |some (some i)=>lM i σ
 |some none=> .stuck
 |none=>match io σ.gq 0 with
  |some q=>jr q σ
  |none=> .stuck)else .stuck
theorem pX {σ σ1:Ab} (h:jr i σ= .ok pl σ1):σ1=σ:=by
 unfold jr at h;grind
theorem Ct {σ σ1:Ab} (h:lM i σ= .ok pl σ1):σ1=σ:=by
 unfold lM at h;split at h
 .split at h
  .grind
  .split at h
   .exact pX h
   grind
 grind
theorem pt {σ σ1:Ab} (h:jK σ= .ok pl σ1):σ1=σ:=by
 unfold jK at h;split at h
 .split at h
  .exact Ct h
  .cases h
  .split at h
   .exact pX h
   grind
 grind
def placeFor (i:Nat):M (Nat×Nat):=λσ=>if σ.iL&&Bs (σ.nm i)then jK σ else jr i σ
def mD:M (Nat×Nat):=λσ=>match σ.last with
 |some i=>placeFor i σ
 |none=> .stuck
def mL (pl:Nat×Nat) (j:Nat):M Unit:=λσ=>match σ.gV pl.1,σ.gV j with
 |some ei,some ej=>if j≠pl.1/\pl.2<=ei.kids.length/\ei.kids.length < 1048576 then .ok () ((σ.gS pl.1 {ei with kids:=ins ei.kids pl.2 (.el j)}).gS j {ej with je:=some pl.1})else .stuck
 |_,_=> .stuck
def ym (pl:Nat×Nat) (k:Nd):M Unit:=λσ=>match σ.gV pl.1 with
 |some ei=>if σ.jk k=true/\pl.2<=ei.kids.length/\ei.kids.length < 1048576 then .ok () (σ.gS pl.1 {ei with kids:=ins ei.kids pl.2 k})else .stuck
 |none=> .stuck
def sF (pl:Nat×Nat) (s:fY):M Unit:=λσ=>match σ.gV pl.1 with
 |some ei=>if pl.2<=ei.kids.length/\ei.kids.length < 1048576 then
   match (if pl.2=0 then none else ei.kids[pl.2 - 1]?)with
   |some (.tx t)=>match σ.nodes[t]? with
    |some (.tx old)=>if old.size+s.size<=1048576 then .ok () (σ.ot t (old++s))else .stuck
    |_=> .stuck
   |_=> .ok () ((σ.add (.tx s)).gS pl.1 {ei with kids:=ins ei.kids pl.2 (.tx σ.nodes.length)})
  else .stuck
 |none=> .stuck
def uo (x:iY):M Unit:=λσ=>if σ.qu<=σ.gq.length then .stop 5 σ.gI else if σ.mW x then .ok () {σ with gq:=σ.gq++[x]} else .stuck
def lN (j:Nat):M Unit:=do
 let pl <-mD
 mL pl j
 uo (some j)
 return ()
def CJ (d:fY):M Nat:=λσ=> .ok σ.nodes.length (σ.add (.el {name:=d,gO:=[],je:=none,kids:=[]}))
def gy.pT (t:gy):Bool:=match t.k with
 | .start _=>true
 | .stop _=>true
 |_=>false
def nC (t:gy):M Nat:=λσ=>if σ.fresh&&t.pT then .ok σ.nodes.length (σ.pN (.el {name:=t.name,gO:=t.jh,je:=none,kids:=[]}) false)else .stuck
def jW (d:fY):M Unit:=do
 let j <-CJ d
 lN j
 return ()
def jg (t:gy):M Unit:=do
 let j <-nC t
 lN j
 return ()
def x8:M (iY):=λσ=> .ok σ.last σ.pop
def ln (t:gy):M Unit:=do
 jg t
 let _ <-x8
 return ()
def jZ (t:gy):M Unit:=do
 let pl <-mD
 sF pl t.chars
 return ()
def mV (p b:fY->Bool):M Bool:=λσ=>if σ.inScope p b then .ok true (σ.FG p)else .ok false σ
def oE:M Unit:=do
 let _ <-mV (gZ [nf]) Ei
 return ()
def pZ (p:fY->Bool):M Unit:=wU λσ=>σ.Fi p
def ub (p:fY->Bool):M Unit:=wU λσ=>σ.wF p
def jF (m:Nat):M Unit:=wU λσ=>{σ with mode:=m}
def kq (x:iY):M Unit:=λσ=>if σ.gR x then .ok () {σ with gq:=σ.gq.erase x} else .stuck
def yk (x y:iY):M Unit:=λσ=>if σ.gR x&&σ.mW y then .ok () {σ with gq:=qo σ.gq x y} else .stuck
def oZ (x y:iY):M Unit:=λσ=>if σ.gR x&&σ.mW y&&decide (σ.gq.length < 4096)then .ok () {σ with gq:=ja σ.gq x y} else .stuck
def zP (x:iY):M Unit:=λσ=>if σ.gR x then .ok () {σ with gq:=oh σ.gq x} else .stuck
def kM (x:iY):M Unit:=λσ=>if σ.gR x then .ok () {σ with act:=σ.act.erase x} else .stuck
def qg (x y:iY):M Unit:=λσ=>if σ.gR x&&σ.gR y then .ok () {σ with act:=qo σ.act x y} else .stuck
def oU (x y:iY):M Unit:=λσ=>if σ.gR x&&σ.gR y&&decide (σ.act.length < 4096)then .ok () {σ with act:=ja σ.act x y} else .stuck
def AO (x:iY):M Unit:=λσ=>if σ.gR x then .ok () {σ with act:=oh σ.act x} else .stuck
def zE (gx:la) (s:fY):Bool:=gx.any λa=>kJ a.1 s
def qj (i:Nat):la->M Unit
 |[]=>pure ()
 |a::r=>λσ=>match σ.gV i with
  |none=> .stuck
  |some e=>if zE e.gO a.1 then qj i r σ else if σ.pP<=e.gO.length then .stop 7 σ.gI else qj i r (σ.gS i {e with gO:=e.gO++[a]})
def vK (i:Nat) (t:gy):M Unit:=λσ=>if σ.fresh&&nG (σ.nm i)then qj i t.jh σ else .stuck
def kB (i:Nat):M Nat:=λσ=>match σ.gV i with
 |some e=>if nG e.name then .stuck else .ok σ.nodes.length (σ.add (.el {name:=e.name,gO:=e.gO,je:=none,kids:=[]}))
 |none=> .stuck
def Ab.Vd (σ:Ab) (x:iY):Bool:=decide (x=none)||decide (x∈σ.gq)
def Ab.vc (σ:Ab):kG->Nat
 |[]=>0
 |x::r=>if σ.Vd x then r.length+1 else σ.vc r
def Ab.Bm (σ:Ab):Nat:=σ.vc σ.act.reverse
def Cn (n:Nat):M Nat:=λσ=>match io σ.act (n:Int)with
 |some i=> .ok i σ
 |none=> .stuck
def po (old:Nat):M Unit:=λσ=>qg (some old) σ.last σ
def IM:Nat->Nat->M Unit
 |0,_=>pure ()
 |k+1,n=>do
  let old <-Cn n
  let j <-kB old
  lN j
  po old
  IM k (n+1)
def lz:M Unit:=λσ=>IM (σ.act.length - σ.Bm) σ.Bm σ
def Ab.qU (σ:Ab) (s:fY):kG->iY
 |[]=>none
 |none::_=>none
 |some i::r=>if kJ (σ.nm i) s then some i else σ.qU s r
def Ab.pY (σ:Ab) (s:fY):iY:=σ.qU s σ.act.reverse
def ahW (a b:yp):Bool:=kJ a.name b.name&&(a.gO.length==b.gO.length)&&a.gO.all λx=>b.gO.any λy=>kJ x.1 y.1&&kJ x.2 y.2
def Ab.Zr (σ:Ab) (i j:Nat):Bool:=match σ.gV i,σ.gV j with
 |some a,some b=>ahW a b
 |_,_=>false
def Ab.tm (σ:Ab) (j:Nat):kG->iY×Nat->iY×Nat
 |[],c=>c
 |none::_,c=>c
 |some i::r,c=>if σ.Zr i j then σ.tm j r (some i,c.2+1)else σ.tm j r c
def kA (x:iY):M Unit:=λσ=>if σ.rH<=σ.act.length then .stop 6 σ.gI else if σ.gR x then .ok () {σ with act:=σ.act++[x]} else .stuck
def Jv (i:Nat):M Unit:=λσ=>
 let c:=σ.tm i σ.act.reverse (none,0)
 if 3<=c.2 then (do
  kM c.1
  kA (some i)
  return ():M Unit) σ else (do
  kA (some i)
  return ():M Unit) σ
def xM:M Unit:=do
 AO none
 return ()
def EX:M Nat:=λσ=>match σ.last with
 |some i=> .ok i σ
 |none=> .stuck
def lr (t:gy):M Unit:=do
 lz
 jg t
 return ()
def qA (t:gy):M Unit:=do
 lz
 ln t
 return ()
def iP (t:gy):M Unit:=do
 lr t
 let i <-EX
 Jv i
 return ()
def ud (s:fY):M Unit:=do
 let _ <-mV (gZ [s]) ly
 return ()
def Ab.vV (σ:Ab) (f:Nat):kG->iY->iY
 |[],b=>b
 |x::r,b=>if x=some f then b else σ.vV f r (if ly (σ.rL x)then x else b)
def Ab.qL (σ:Ab) (f:Nat):iY:=σ.vV f σ.gq.reverse none
variable {σ σ' : Ab}
def lQ (j:Nat):M Unit:=λσ=>match σ.gV j with
 |none=> .stuck
 |some ej=>match ej.je with
  |none=> .ok () σ
  |some p=>match σ.gV p with
   |none=> .stuck
   |some ep=>if j≠p/\0<=qE ep.kids (Nd.gR j)/\(qE ep.kids (Nd.gR j)).toNat < ep.kids.length then .ok () ((σ.gS p {ep with kids:=ep.kids.eraseIdx (qE ep.kids (Nd.gR j)).toNat}).gS j {ej with je:=none})else .stuck
def Fl (pl:Nat×Nat) (k:Nd):M Unit:=match k with
 | .el j=>mL pl j
 |k=>ym pl k
def yi (dst:Nat):List Nd->M Unit
 |[]=>pure ()
 |k::r=>do
  let pl <-jr dst
  Fl pl k
  yi dst r
def handOver (b dst:Nat):M Unit:=λσ=>match σ.gV b with
 |none=> .stuck
 |some eb=>if b=dst then .stuck else (yi dst eb.kids>>=λ_ σ'=>match σ'.gV b with
  |some eb'=> .ok () (σ'.gS b {eb' with kids:=[]})
  |none=> .stuck) σ
def CV (n:Nat):M Nat:=λσ=>match io σ.gq (n:Int)with
 |some i=> .ok i σ
 |none=> .stuck
def lB (f h:Nat):Nat->Nat->Nat->Nat->M (Nat×Nat)
 |0,_,last,mark=>pure (last,mark)
 |n+1,c,last,mark=>do
  let e <-CV n
  if e=f then pure (last,mark)else do
   (if 3 < c+1 then kM (some e)else pure ())
   λσ=>if some e∉σ.act then (do
    kq (some e)
    lB f h n (c+1) last mark:M (Nat×Nat)) σ else (do
    let d <-kB e
    yk (some e) (some d)
    qg (some e) (some d)
    lQ last
    let pl <-jr d
    mL pl last
    lB f h n (c+1) d (if last=h then d else mark):M (Nat×Nat)) σ
def yy (f d:Nat):M (Nat×Nat):=λσ=>lB f d (posOf σ.gq (some d)).toNat 0 d f σ
def ahead (f:Nat):M Nat:=λσ=>match io σ.gq (posOf σ.gq (some f) - 1)with
 |some i=> .ok i σ
 |none=> .stuck
def sR (f h:Nat):M Unit:=do
 let (last,mark) <-yy f h
 lQ last
 let a <-ahead f
 let pl <-placeFor a
 mL pl last
 let d <-kB f
 handOver h d
 let pl <-jr h
 mL pl d
 oU (some mark) (some d)
 kM (some f)
 kq (some f)
 oZ (some h) (some d)
 return ()
def mr (s:fY):M Bool:=λσ=>match σ.pY s with
 |none=>(do ud s;return false:M Bool) σ
 |some f=>if some f∉σ.gq then (do kM (some f);return false:M Bool) σ
  else if !σ.pz f then .ok false σ
  else match σ.qL f with
   |none=>(do zP (some f);kM (some f);return false:M Bool) σ
   |some b=>(do sR f b;return true:M Bool) σ
def sY (s:fY):Nat->M Unit
 |0=>pure ()
 |k+1=>do
  let b <-mr s
  if b then sY s k else pure ()
def ww (s:fY):M Unit:=λσ=>match σ.last with
 |none=> .stuck
 |some i=>if kJ (σ.nm i) s&&!decide (some i∈σ.act)then (do let _ <-x8;return ():M Unit) σ else sY s 8 σ
section
variable (rec:Nat->gy->M Unit) (t:gy)
def jX:M Unit:=λσ=>rec σ.mode t σ
def o0 (pl:Nat×Nat) (nd:AJ) (k:Nat->Nd):M Unit:=λσ=>ym pl (k σ.nodes.length) (σ.add nd)
def AW:M (Nat×Nat):=jr 0
def mN:M Unit:=match t.k with
 | .iE n q=>do
  let pl <-AW
  o0 pl (.dt n) .dt
  wU λσ=>{σ with jJ:=q||!kJ n fO}
  jF 1
  return ()
 |_=>do
  jF 1
  return ()
def j9:M Unit:=do
 wU λσ=>{σ with jJ:=true}
 jF 1
 jX rec t
 return ()
def sv (d:fY) (own:Bool) (gx:la):M Nat:=λσ=>if own then (if σ.fresh then .ok σ.nodes.length (σ.pN (.el {name:=d,gO:=gx,je:=none,kids:=[]}) false)else .stuck)else .ok σ.nodes.length (σ.add (.el {name:=d,gO:=[],je:=none,kids:=[]}))
def qW (own:Bool) (gx:la):M Unit:=do
 let e <-sv fO own gx
 let pl <-AW
 mL pl e
 uo (some e)
 jF 2
 return ()
def vh:M Unit:=do
 qW t.pT t.jh
 return ()
def nQ:M Unit:=do
 qW false []
 jX rec t
 return ()
def qX (own:Bool) (gx:la):M Unit:=do
 let e <-sv gJ own gx
 wU λσ=>{σ with head:=some e}
 lN e
 jF 3
 return ()
def vi:M Unit:=do
 qX t.pT t.jh
 return ()
def nR:M Unit:=do
 qX false []
 jX rec t
 return ()
def yf:M Unit:=do
 let _ <-x8
 jF 4
 return ()
def lu:M Unit:=do
 yf
 jX rec t
 return ()
def rR:M Unit:=do
 jg t
 jF 6
 return ()
def mc:M Unit:=do
 jW gr
 jF 6
 jX rec t
 return ()
def oY:M Unit:=λσ=>kq σ.head σ
def pushHead:M Unit:=λσ=>uo σ.head σ
def td:M Unit:=do
 pushHead
 rec 3 t
 oY
 return ()
def I6 (of:fY) (d:Bool):M Unit:=wU λσ=>{σ with nT:=of,iU:=d}
def nD (d:Bool):M Unit:=do
 jg t
 I6 t.name d
 wU λσ=>{σ with kept:=σ.mode}
 jF 5
 return ()
def rU:M Unit:=do
 nD t false
 return ()
def mZ:M Unit:=do
 nD t true
 return ()
def wK:M Unit:=do
 let _ <-x8
 wU λσ=>{σ with mode:=σ.kept}
 return ()
def zz:M Unit:=do
 wK
 jX rec t
 return ()
def mu:M Unit:=if uh t.chars then pure ()else do
 lz
 jZ t
 return ()
def oe:M Unit:=λσ=>match io σ.gq 0 with
 |some i=>(do vK i t;return ():M Unit) σ
 |none=> .stuck
def pw:M Unit:=λσ=>match io σ.gq 1 with
 |some i=>if kJ (σ.nm i) gr then (do vK i t;return ():M Unit) σ else .ok () σ
 |none=> .ok () σ
def mF:M Unit:=do
 oE
 jg t
 return ()
def uv:M Unit:=do
 mF t
 wU λσ=>{σ with behind:=true}
 return ()
def mO:M Unit:=do
 oE
 pZ (gZ [mG,mH])
 jg t
 return ()
def vD:M Unit:=do
 oE
 ln t
 return ()
def rS:M Unit:=λσ=>match σ.form with
 |some _=> .ok () σ
 |none=>(do
  mF t
  wU λσ=>{σ with form:=σ.last}
  return ():M Unit) σ
def nW:M Unit:=do
 let _ <-mV (gZ [gU]) iJ
 lr t
 return ()
def wG:M Unit:=λσ=>if σ.jJ then .ok () σ else oE σ
def p9:M Unit:=do
 wG
 jg t
 jF 7
 return ()
def pa:M Unit:=do
 rU t
 wU λσ=>{σ with behind:=true}
 return ()
def nY:M Unit:=do
 pZ (gZ [gF])
 lr t
 return ()
def oR:M Unit:=do
 lr t
 wU λσ=>{σ with mode:=if σ.mode=7\/σ.mode=9\/σ.mode=11\/σ.mode=12\/σ.mode=13 then 15 else 14}
 return ()
def pG:M Unit:=λσ=>match σ.pY uz with
 |none=>(do iP t;return ():M Unit) σ
 |some a=>(do
  ww uz
  kM (some a)
  kq (some a)
  iP t
  return ():M Unit) σ
def ra:M Unit:=λσ=>if σ.inScope (gZ [iA]) iJ then (do ww iA;iP t;return ():M Unit) σ else (do iP t;return ():M Unit) σ
def qz:M Unit:=do
 lz
 ra t
def nP:M Unit:=do
 ww t.name
 return ()
def nX:M Unit:=do
 lr t
 kA none
 return ()
def qv:M Unit:=do
 let b <-mV (gZ [gP]) iJ
 if b then xM else pure ()
def wH:M Unit:=λσ=>if σ.inScope (gZ [gr]) iJ then .ok () {σ with mode:=16} else .ok () σ
def wJ:M Unit:=λσ=>if σ.inScope (gZ [gr]) iJ then (do
  jF 16
  jX rec t
  return ():M Unit) σ else .ok () σ
def vH:M Unit:=do
 let _ <-mV (gZ [t.name]) iJ
 return ()
def qP:M Unit:=do
 let _ <-mV (gZ [mG,mH]) iJ
 return ()
def yg:M Unit:=do
 let _ <-mV (gZ [kV]) agB
 return ()
def Mo:M Unit:=λσ=>if σ.inScope (gZ [nf]) Ei then (do oE;return ():M Unit) σ else (do
  jW nf
  oE
  return ():M Unit) σ
def uc:M Unit:=do
 lz
 jW jS
 let _ <-x8
 return ()
def wI:M Unit:=λσ=>match σ.form with
 |none=> .ok () σ
 |some i=>if σ.pz i then (do
   wU λσ=>{σ with form:=none}
   wU λσ=>σ.me
   kq (some i)
   return ():M Unit) σ else .ok () {σ with form:=none}
def vI:M Unit:=do
 ud t.name
 return ()
def Dq:M Unit:=jF 17
def sZ:M Unit:=do
 jF 6
 jX rec t
 return ()
def th:M Unit:=do
 wU λσ=>{σ with iL:=true}
 rec 6 t
 wU λσ=>{σ with iL:=false}
 return ()
def nO:M Unit:=λσ=>if σ.current Bs then (do
  wU λσ=>{σ with kept:=σ.mode}
  jF 8
  jX rec t
  return ():M Unit) σ else (do th rec t;return ():M Unit) σ
def nK:M Unit:=do
 ub (gZ [fQ])
 kA none
 jg t
 jF 9
 return ()
def kP:M Unit:=λσ=>match σ.form with
 |some _=> .ok () σ
 |none=>(do
  jg t
  let x <-x8
  wU λσ=>{σ with form:=x}
  return ():M Unit) σ
def VU (s:fY):fY:=⟨s.data.map λb=>if 65<=b.toNat/\b.toNat<=90 then b+32 else b⟩
def vr:la->Bool
 |[]=>false
 |a::r=>if kJ a.1 ol then kJ (VU a.2) lX else vr r
def jV:M Unit:=if vr t.jh then (do ln t;return ())else (do th rec t;return ())
def og:M Unit:=match t.k with
 | .kg s=>if uh s then pure ()else λσ=>if σ.waiting.length < 4096 then .ok () {σ with waiting:=σ.waiting++[(t.a,t.b,s)]} else .stuck
 |_=>stuck
def rX (x:Nat×Nat×fY):gy:={a:=x.1,b:=x.2.1,k:= .kg x.2.2}
def tL:List (Nat×Nat×fY)->M Unit
 |[]=>pure ()
 |x::r=>do
  jZ (rX x)
  tL r
def tK:List (Nat×Nat×fY)->M Unit
 |[]=>pure ()
 |x::r=>do
  th rec (rX x)
  tK r
def oc:M Unit:=λσ=>if σ.waiting.any λx=>!mq x.2.2 then tK rec σ.waiting σ else tL σ.waiting σ
def qH (ks:List fY) (m:Nat):M Bool:=do
 let b <-mV (gZ ks) Br
 if b then (do jF m;return true)else return false
def kI (ks:List fY) (m:Nat):M Bool:=do
 let b <-qH ks m
 if b then (do xM;return true)else return false
def jO (s:fY):Nat:=if gZ [il,im] s then 13 else if gZ [gX] s then 12 else if gZ [fW,fZ,fX] s then 11 else if gZ [gp] s then 9 else if gZ [fS] s then 10 else if gZ [fQ] s then 7 else 6
def ve (σ:Ab):kG->Nat
 |[]=>6
 |x::r=>if jO (σ.rL x)=6 then ve σ r else jO (σ.rL x)
def xF:M Unit:=wU λσ=>{σ with mode:=ve σ σ.gq.reverse}
def vJ:M Bool:=do
 let b <-mV (gZ [fQ]) Br
 if b then (do xF;return true)else return false
def qN:M Bool:=kI [gp] 7
def lc:M Bool:=λσ=>if σ.current (gZ [fS])then (do
  let _ <-x8
  jF 7
  return true:M Bool) σ else .ok false σ
def oH:M Bool:=qH [fW,fX,fZ] 7
def AZ:M Bool:=qH [gX] 11
def endCell:M Bool:=kI [il,im] 12
def pF:M Unit:=do
 ub (gZ [gX])
 jg t
 jF 13
 kA none
 return ()
def nF:M Unit:=if uh t.chars then pure ()else do
 jZ t
 return ()
def ju:M Unit:=do
 pZ (gZ [gF])
 jg t
 return ()
def iX:M Unit:=do
 pZ (gZ [gF])
 pZ (gZ [fU])
 jg t
 return ()
def lh:M Unit:=do
 iX t
 let _ <-x8
 return ()
def iT:M Unit:=λσ=>if σ.current (gZ [gF])then (match io σ.gq (posOf σ.gq σ.last - 1)with
  |none=> .stuck
  |some i=>if kJ (σ.nm i) fU then (do
    let _ <-x8
    pZ (gZ [fU])
    return ():M Unit) σ else (do pZ (gZ [fU]);return ():M Unit) σ)
 else (do pZ (gZ [fU]);return ():M Unit) σ
def kY:M Unit:=do
 pZ (gZ [gF])
 return ()
def tJ:M Bool:=do
 let b <-mV (gZ [iW]) (λs=>!(gZ [gF] s||gZ [fU] s))
 if b then (do xF;return true)else return false
end
theorem su {a b : fY} (h:kJ a b=true):a=b:=by
 unfold kJ at h;have d:a.toList=b.toList:=by simpa using h
 rw[sK,sK]at d;apply Qx;simp_all
def iD:List Nd->List Nat
 |[]=>[]
 | .el j::r=>j::iD r
 | .tx _::r=>iD r
 | .cm _::r=>iD r
 | .dt _::r=>iD r
def rF (a b:List Nd):iD (a++b)=iD a++iD b:=by
 induction a with
 |nil=>rfl
 |cons k r ih=>cases k<;>simp[iD,ih]
def xb:∀{ks:List Nd},j∈iD ks↔Nd.el j∈ks
 |[]=>by simp[iD]
 |k::r=>by cases k<;>simp[iD,xb (ks:=r)]
def BT (ks:List Nd) (n:Nat) (j:Nat):(iD (ins ks n (.el j))).Perm (j::iD ks):=by
 unfold ins;have h:iD ks=iD (ks.take n)++iD (ks.drop n):=by rw[<-rF,FT]
 rw[rF,rF,h];simp[iD]
theorem UN (ks:List Nd) (n:Nat) (k:Nd) (d:∀j,k≠ .el j):iD (ins ks n k)=iD ks:=by
 unfold ins;have h:iD ks=iD (ks.take n)++iD (ks.drop n):=by rw[<-rF,FT]
 rw[rF,rF,h];cases k with
 |el j=>grind
 |tx j=>simp[iD]
 |cm j=>simp[iD]
 |dt j=>simp[iD]
theorem Xh (ks:List Nd) (n:Nat) (k:Nd) (d:n<=ks.length):(ins ks n k).length=ks.length+1:=by
 unfold ins;grind
theorem Xu {k x : Nd}:x∈ins ks n k↔x=k\/x∈ks:=by
 unfold ins;have h:x∈ks↔x∈ks.take n\/x∈ks.drop n:=by rw[<-List.mem_append,FT]
 grind
def Xv:AJ->Nat
 | .el e=>e.kids.length
 | .tx s=>s.size
 | .cm _=>0
 | .dt _=>0
def wt (σ:Ab):Nat:=(σ.nodes.map Xv).sum
theorem Qg:∀(l:List Nat) (i x y:Nat),l[i]?=some x->(l.set i y).sum+x=l.sum+y
 |[],i,x,y,h=>by simp at h
 |a::l,0,x,y,h=>by grind
 |a::l,i+1,x,y,h=>by
  simp at h;have:=Qg l i x y h;grind
def adt {n m : AJ} (h:σ.nodes[i]?=some n):((σ.nodes.set i m).map Xv).sum+Xv n=wt σ+Xv m:=by
 unfold wt;rw[List.map_set];exact Qg _ _ _ _ (by simp[h])
def sJ {e' : yp} (h:σ.gV i=some e):wt (σ.gS i e')+e.kids.length=wt σ+e'.kids.length:=adt (m:= .el e') (Ab.jn h)
def adr (σ:Ab) (nd:AJ):wt (σ.add nd)=wt σ+Xv nd:=by simp[wt,Ab.add]
def FK (σ:Ab) (nd:AJ) (b:Bool):wt (σ.pN nd b)=wt σ+Xv nd:=by simp[wt,Ab.pN]
theorem adb:∀(l:List Nat) (i x:Nat),l[i]?=some x->x<=l.sum
 |[],i,x,h=>by simp at h
 |a::l,0,x,h=>by grind
 |a::l,i+1,x,h=>by
  simp at h;have:=adb l i x h;grind
def ads {n : AJ} (h:σ.nodes[i]?=some n):Xv n<=wt σ:=adb _ i _ (by simp[h])
def Jc (h:σ.gV i=some e):e.kids.length<=wt σ:=ads (Ab.jn h)
structure Shp (σ:Ab):Prop where
 up:∀i e p,σ.gV i=some e->e.je=some p->∃ep,σ.gV p=some ep/\i∈iD ep.kids
 dn:∀i e j,σ.gV i=some e->j∈iD e.kids->∃ej,σ.gV j=some ej/\ej.je=some i
 nd:∀i e,σ.gV i=some e->(iD e.kids).Nodup
 kd:∀i e,σ.gV i=some e->∀k∈e.kids,σ.jk k=true
def rk (r:Nat->Nat):iY->Nat
 |some i=>r i
 |none=>0
structure adP (r:Nat->Nat) (σ:Ab):Prop where
 je:∀i e p,σ.gV i=some e->e.je=some p->r p < r i
 gq:σ.gq.Pairwise λx y=>rk r x < rk r y
 hd:∀d h,σ.head=some d->σ.gq.head?=some (some h)->r h < r d
def rY (s:fY):Bool:=gZ [uz,Iz,BL,iA] s
def iV (σ:Ab) (i:Nat) (s:fY):Prop:=∃e,σ.gV i=some e/\e.name=s
structure jx (r:Nat->Nat) (σ:Ab):Prop where
 oA:Shp σ
 ur:adP r σ
 gq:∀x∈σ.gq,σ.mW x=true
 act:∀i,some i∈σ.act->∃e,σ.gV i=some e/\rY e.name=true
 head:∀d,σ.head=some d->iV σ d gJ
 form:∀d,σ.form=some d->iV σ d iH
 Mc:∀x rest,σ.gq=x::rest->∃h,x=some h/\iV σ h fO
 x7:σ.gq.length<=σ.qu
 AB:σ.act.length<=σ.rH
 QE:σ.qu<=64
 Ui:σ.rH<=32
 ye:(σ.gV 0).isSome=true
def ni (σ:Ab):Prop:=∃r,jx r σ
structure Fx (σ σ':Ab):Prop where
 mode:σ'.mode=σ.mode
 kept:σ'.kept=σ.kept
 head:σ'.head=σ.head
 form:σ'.form=σ.form
 waiting:σ'.waiting=σ.waiting
 Kg:σ'.iL=σ.iL
 jJ:σ'.jJ=σ.jJ
 gI:σ'.gI=σ.gI
 qu:σ'.qu=σ.qu
 rH:σ'.rH=σ.rH
 pP:σ'.pP=σ.pP
 nm:∀i s,iV σ i s->iV σ' i s
 Mc:σ.gq≠[]->σ'.gq.head?=σ.gq.head?
def Fx.refl (σ:Ab):Fx σ σ:=⟨rfl,rfl,rfl,rfl,rfl,rfl,rfl,rfl,rfl,rfl,rfl,λ_ _ h=>h,λ_=>rfl⟩
theorem Fx.ne (h:Fx σ σ') (d:σ.gq≠[]):σ'.gq≠[]:=by
 intro e;have:=h.Mc d;rw[e]at this;cases ho:σ.gq with
 |nil=>grind
 |cons x r=>grind
def Fx.trans {a b c : Ab} (h:Fx a b) (k:Fx b c):Fx a c:=
 ⟨k.mode.trans h.mode,k.kept.trans h.kept,k.head.trans h.head,k.form.trans h.form,k.waiting.trans h.waiting,k.Kg.trans h.Kg,k.jJ.trans h.jJ,k.gI.trans h.gI,k.qu.trans h.qu,k.rH.trans h.rH,k.pP.trans h.pP,λi s l=>k.nm i s (h.nm i s l),λd=>(k.Mc (h.ne d)).trans (h.Mc d)⟩
def jE {α:Type} (c:Nat) (σ:Ab) (r:pM α) (Q:α->Ab->Prop):Prop:=match r with
 | .ok a σ'=>ni σ'/\Fx σ σ'/\wt σ'<=wt σ+c/\Q a σ'
 | .stop _ p=>p=σ.gI
 | .stuck=>False
theorem jE.mono {α:Type} {c c' : Nat} {r:pM α} {Q d:α->Ab->Prop} (h:jE c σ r Q) (q:c<=c') (l:∀a σ',ni σ'->Fx σ σ'->Q a σ'->d a σ'):jE c' σ r d:=by
 cases r with
 |ok a σ'=>grind[jE]
 |stop e p=>exact h
 |stuck=>exact h
theorem jE.bind {α q:Type} {c c1 c2 : Nat} {m:M α} {k:α->M q} {Q:α->Ab->Prop} {l:q->Ab->Prop} (h:jE c1 σ (m σ) Q) (A:∀a σ',ni σ'->Fx σ σ'->wt σ'<=wt σ+c1->Q a σ'->jE c2 σ' (k a σ') l) (B:c1+c2<=c):jE c σ ((m>>=k) σ) l:=by
 rw[M.gn];cases hm:m σ with
 |ok a σ'=>
  rw[hm]at h;have⟨h1,h2,h3,h4⟩:=h;have d:=A a σ' h1 h2 h3 h4;cases hk2:k a σ' with
  |ok b σ2=>
   rw[hk2]at d;dsimp only;rw[hk2];exact⟨d.1,h2.trans d.2.1,by have:=d.2.2.1;omega,d.2.2.2⟩
  |stop e p=>
   rw[hk2]at d;dsimp only;rw[hk2];exact wo d h2.gI
  |stuck=>grind[jE]
 |stop e p=>rwa [hm]at h
 |stuck=>grind[jE]
def jE.ret {α:Type} (d:ni σ) {Q:α->Ab->Prop} {a:α} (h:Q a σ) (c:Nat:=0):jE c σ ((Pure.pure a:M α) σ) Q:=⟨d,Fx.refl _,by omega,h⟩
def ni.ye (h:ni σ):(σ.gV 0).isSome=true:=by have⟨r,h⟩:=h;exact h.ye
def iV.lt (h:iV σ i s):i < σ.nodes.length:=by have⟨e,he,_⟩:=h;exact Ab.gW he
theorem kT (h:σ.mW x=true):∃i e,x=some i/\σ.gV i=some e:=by
 cases x with
 |none=>cases h
 |some i=>have⟨e,he⟩:=Option.isSome_iff_exists.1 h;grind
theorem jx.sub (h:jx r σ) {ys : kG} (A:ys.Sublist σ.gq) (l:ys.head?=σ.gq.head?):jx r {σ with gq:=ys}/\Fx σ {σ with gq:=ys}:=by
 refine⟨⟨⟨h.oA.up,h.oA.dn,h.oA.nd,h.oA.kd⟩,⟨h.ur.je,h.ur.gq.sublist A,?_⟩,λx q=>h.gq x (A.subset q),h.act,h.head,h.form,?_,jH A.length_le h.x7,h.AB,h.QE,h.Ui,h.ye⟩,⟨rfl,rfl,rfl,rfl,rfl,rfl,rfl,rfl,rfl,rfl,rfl,λ_ _ h=>h,λ_=>l⟩⟩
 .intro d x D q;exact h.ur.hd d x D (by grind)
 .intro x rest q;have B:ys=x::rest:=q;rw[B]at l;cases ho:σ.gq with
  |nil=>grind
  |cons y r2=>
   rw[ho]at l;have e:x=y:=by simpa using l
   subst e;exact h.Mc x r2 ho
def x9 (r:Nat->Nat) (n x:Nat):Nat->Nat:=λi=>if i=n then x else r i
def zm (r:Nat->Nat) (n x:Nat):x9 r n x n=x:=by simp[x9]
def Aj {x : Nat} (h:i≠n):x9 r n x i=r i:=by simp[x9,h]
def Shp.aib (h:Shp σ) {p : Nat} (d:σ.gV i=some e) (l:e.je=some p):p < σ.nodes.length:=by
 have⟨ep,h1,_⟩:=h.up i e p d l;exact Ab.gW h1
def jx.Gm (h:jx r σ) (d:some i∈σ.gq):i < σ.nodes.length:=by
 have⟨j,e,hj,he⟩:=kT (h.gq _ d);cases hj;exact Ab.gW he
theorem adP.congr {l : Nat->Nat} (h:adP r σ) (B:∀i e p,σ.gV i=some e->e.je=some p->l p < l i) (A:∀i,some i∈σ.gq->l i=r i) (q:∀d h,σ.head=some d->σ.gq.head?=some (some h)->l h < l d):adP l σ:=by
 refine⟨B,?_,q⟩;refine h.gq.imp_of_mem ?_;intro x y H I D;have G:∀z∈σ.gq,rk l z=rk r z:=by
  intro z F;cases z with
  |none=>rfl
  |some i=>exact A i F
 grind
theorem jx.new (h:jx r σ) (A:fY) (gx:la) (b:Bool) (x:Nat):jx (x9 r σ.nodes.length x) (σ.pN (.el {name:=A,gO:=gx,je:=none,kids:=[]}) b)/\Fx σ (σ.pN (.el {name:=A,gO:=gx,je:=none,kids:=[]}) b):=by
 obtain⟨nd,U⟩:∃nd:AJ,nd= .el {name:=A,gO:=gx,je:=none,kids:=[]}:=⟨_,rfl⟩;rw[<-U];have Y:∀i,(σ.pN nd b).gV i=(σ.add nd).gV i:=λ_=>rfl;have J:∀i e,σ.gV i=some e->(σ.pN nd b).gV i=some e:=λi e I=>by grind[Ab.gV,Ab.pN]
 have l:∀i e,(σ.pN nd b).gV i=some e->σ.gV i=some e\/(i=σ.nodes.length/\e={name:=A,gO:=gx,je:=none,kids:=[]}):=by
  intro i e I;rcases Ab.JZ (nd:=nd) I with⟨_,q⟩|⟨q,N⟩
  .grind
  .grind
 have F:∀i s,iV σ i s->iV (σ.pN nd b) i s:=λi s ⟨e,I,hn⟩=>⟨e,J i e I,hn⟩;have D:∀i,i < σ.nodes.length->x9 r σ.nodes.length x i=r i:=λi B=>Aj (by omega);refine⟨⟨⟨?_,?_,?_,?_⟩,⟨?_,?_,?_⟩,λy G=>Ab.NH (h.gq y G),λi B=>?_,λd H=>F _ _ (h.head d H),λd H=>F _ _ (h.form d H),λy rest G=>?_,h.x7,h.AB,h.QE,h.Ui,?_⟩,⟨rfl,rfl,rfl,rfl,rfl,rfl,rfl,rfl,rfl,rfl,rfl,F,λ_=>rfl⟩⟩
 .intro i e p B K;rcases l i e B with q|⟨_,q⟩
  .have⟨ep,N,h3⟩:=h.oA.up i e p q K;grind
  grind
 .intro i e j B O;rcases l i e B with q|⟨_,q⟩
  .have⟨ej,N,h3⟩:=h.oA.dn i e j q O;grind
  .rw[q]at O;simp[iD]at O
 .intro i e B;rcases l i e B with q|⟨_,q⟩
  .exact h.oA.nd i e q
  grind[iD]
 .intro i e B k Z;rcases l i e B with q|⟨_,q⟩
  .exact Ab.Gg (h.oA.kd i e q k Z)
  grind
 .intro i e p B K;rcases l i e B with q|⟨_,q⟩
  .rw[D p (h.oA.aib q K),D i (Ab.gW q)];exact h.ur.je i e p q K
  grind
 .refine h.ur.gq.imp_of_mem ?_;intro y z G W a0;have hr:∀z∈σ.gq,rk (x9 r σ.nodes.length x) z=rk r z:=by
   intro z W;cases z with
   |none=>rfl
   |some i=>exact D i (h.Gm W)
  grind
 .intro d y H G;have V:some y∈σ.gq:=List.mem_of_mem_head? G;rw[D y (h.Gm V),D d (h.head d H).lt];exact h.ur.hd d y H G
 .have⟨e,I,hf⟩:=h.act i B;grind
 .have⟨z,q,N⟩:=h.Mc y rest G;grind
 .have⟨e,I⟩:=Option.isSome_iff_exists.1 h.ye;grind
theorem AU (r:Nat->Nat):∀n,∃B,∀i,i < n->r i<=B
 |0=>⟨0,λi d=>by omega⟩
 |n+1=>by
  have⟨B,hB⟩:=AU r n;refine⟨B+r n,λi d=>?_⟩;grind
theorem jx.raise (h:jx r σ) (H:σ.gV j=some e) (I:iD e.kids=[]) (J:some j∉σ.gq) {x : Nat} (K:r j<=x):jx (x9 r j x) σ:=by
 refine {h with ur:=h.ur.congr ?_ ?_ ?_}
 .intro i ei p B D;have l:p≠j:=by
   rintro rfl;have⟨ep,h1,h2⟩:=h.oA.up i ei p B D;rw[H]at h1;cases h1;rw[I]at h2;cases h2
  rw[Aj l];have:=h.ur.je i ei p B D;grind[x9]
 .grind[x9]
 .intro d y G F;have q:some y∈σ.gq:=List.mem_of_mem_head? F;have A:y≠j:=by rintro rfl;exact J q
  rw[Aj A];have:=h.ur.hd d y G F;grind[x9]
def Ch (σ:Ab) (pl:Nat×Nat):Prop:=∃e,σ.gV pl.1=some e/\pl.2<=e.kids.length
theorem jx.put (h:jx r σ) (J:Ch σ pl) (I:σ.gV j=some ej) (K:ej.je=none) (hr:r pl.1 < r j) (hw:wt σ < 1000000):
  ∃σ',mL pl j σ= .ok () σ'/\jx r σ'/\Fx σ σ'/\wt σ'=wt σ+1/\σ'.gq=σ.gq/\σ'.act=σ.act/\σ'.fresh=σ.fresh/\σ'.nodes.length=σ.nodes.length/\(∀i e,σ.gV i=some e->∃B,σ'.gV i=some B/\B.name=e.name/\B.gO=e.gO/\(i≠pl.1->B.kids=e.kids)/\(i≠j->B.je=e.je))/\(∀B,σ'.gV j=some B->B.je=some pl.1):=by
 have⟨ei,hi,hn⟩:=J;have G:j≠pl.1:=by rintro rfl;omega
 have hl:=Jc hi;have a2:=Ab.gW hi;have a7:=Ab.gW I;obtain⟨σ',l⟩:∃σ',σ'=(σ.gS pl.1 {ei with kids:=ins ei.kids pl.2 (.el j)}).gS j {ej with je:=some pl.1}:=⟨_,rfl⟩;have hq:mL pl j σ= .ok () σ':=by
  unfold mL;rw[hi,I];dsimp only;rw[gv ⟨G,hn,by omega⟩,l]
 have g1:σ'.gV pl.1=some {ei with kids:=ins ei.kids pl.2 (.el j)}:=by rw[l,Ab.iG (wB G),Ab.iR a2]
 have g2:σ'.gV j=some {ej with je:=some pl.1}:=by rw[l,Ab.iR (by grind[Ab.gS])]
 have g3:∀i,i≠pl.1->i≠j->σ'.gV i=σ.gV i:=λi q F=>by rw[l,Ab.iG F,Ab.iG q]
 have O:(σ.gV pl.1).isSome=true:=by rw[hi];rfl
 have U:((σ.gS pl.1 {ei with kids:=ins ei.kids pl.2 (.el j)}).gV j).isSome=true:=by rw[Ab.iG G,I];rfl
 have gk:∀k,σ'.jk k=σ.jk k:=λk=>by rw[l,Ab.lx U,Ab.lx O]
 have ge:∀x,σ'.mW x=σ.mW x:=λx=>by rw[l,Ab.yW U,Ab.yW O]
 have H:∀i e,σ.gV i=some e->∃B,σ'.gV i=some B/\B.name=e.name/\B.gO=e.gO/\(i≠pl.1->B.kids=e.kids)/\(i≠j->B.je=e.je):=by
  intro i e N;by_cases q:i=pl.1
  .grind
  .grind
 have A:∀i B,σ'.gV i=some B->(i=pl.1/\B={ei with kids:=ins ei.kids pl.2 (.el j)})\/(i=j/\B={ej with je:=some pl.1})\/(i≠pl.1/\i≠j/\σ.gV i=some B):=by
  intro i B N;by_cases q:i=pl.1
  .grind
  .grind
 have W:∀i s,iV σ i s->iV σ' i s:=λi s ⟨e,N,hn⟩=>by
  grind[iV]
 have a3:j∉iD ei.kids:=by
  intro hm;have⟨ej2,q,F⟩:=h.oA.dn _ _ _ hi hm;rw[I]at q;cases q;rw[K]at F;cases F
 have a4:∀i e,σ.gV i=some e->∀B,σ'.gV i=some B->∀x,x∈iD e.kids->x∈iD B.kids:=by
  intro i e N B a0 x Y;rcases A i B a0 with⟨q,rfl⟩|⟨q,rfl⟩|⟨_,_,q⟩
  .subst q;rw[hi]at N;cases N;exact(BT ei.kids pl.2 j).mem_iff.2 (nc _ Y)
  .grind
  .grind
 refine⟨σ',hq,⟨⟨?_,?_,?_,?_⟩,⟨?_,?_,?_⟩,λx Y=>?_,λi D=>?_,λd hd=>W _ _ (h.head d ?_),λd hd=>W _ _ (h.form d ?_),λy rest hy=>?_,?_,?_,?_,?_,?_⟩,?_,?_,?_,?_,?_,?_,H,?_⟩
 .intro i e p D J;rcases A i e D with⟨q,rfl⟩|⟨q,rfl⟩|⟨_,_,q⟩
  .rw[q]at *;have⟨ep,F,h3⟩:=h.oA.up _ _ p hi J;grind
  .cases J;exact⟨_,g1,by rw[q];exact(BT ei.kids pl.2 j).mem_iff.2 (kK ..)⟩
  .have⟨ep,F,h3⟩:=h.oA.up _ _ p q J;grind
 .intro i e x D Y;have old:∀Z,σ.gV i=some Z->x∈iD Z.kids->∃ex,σ'.gV x=some ex/\ex.je=some i:=by
   intro Z a1 a5;have⟨ex,F,h3⟩:=h.oA.dn i Z x a1 a5;have a6:x≠j:=by rintro rfl;rw[I]at F;cases F;rw[K]at h3;cases h3
   have⟨ex',h4,_,_,_,h5⟩:=H x ex F;exact⟨ex',h4,(h5 a6).trans h3⟩
  rcases A i e D with⟨q,rfl⟩|⟨q,rfl⟩|⟨_,_,q⟩
  .rw[q]at old|-;rcases List.mem_cons.1 ((BT ei.kids pl.2 j).mem_iff.1 Y)with F|F
   all_goals grind
  .grind
  grind
 .intro i e D;rcases A i e D with⟨q,rfl⟩|⟨q,rfl⟩|⟨_,_,q⟩
  .exact(BT ei.kids pl.2 j).nodup_iff.2 (List.nodup_cons.2 ⟨a3,h.oA.nd _ _ hi⟩)
  .show(iD ej.kids).Nodup;exact h.oA.nd _ _ I
  .exact h.oA.nd _ _ q
 .intro i e D k V;rw[gk];rcases A i e D with⟨q,rfl⟩|⟨q,rfl⟩|⟨_,_,q⟩
  .rcases Xu.1 V with rfl|V
   .grind[Ab.jk]
   .exact h.oA.kd _ _ hi k V
  .exact h.oA.kd _ _ I k V
  .exact h.oA.kd _ _ q k V
 .intro i e p D J;rcases A i e D with⟨q,rfl⟩|⟨q,rfl⟩|⟨_,_,q⟩
  .rw[q];exact h.ur.je _ _ p hi J
  .grind
  .exact h.ur.je _ _ p q J
 .rw[l];exact h.ur.gq
 .rw[l];exact h.ur.hd
 .rw[ge];exact h.gq x (by rwa [l]at Y)
 .have⟨e,N,hf⟩:=h.act i (by rw[l]at D;exact D);grind
 .rwa [l]at hd
 .rwa [l]at hd
 .have⟨z,q,F⟩:=h.Mc y rest (by rwa [l]at hy);grind
 .rw[l];exact h.x7
 .rw[l];exact h.AB
 .rw[l];exact h.QE
 .rw[l];exact h.Ui
 .have⟨e,N⟩:=Option.isSome_iff_exists.1 h.ye;grind
 .rw[l];exact⟨rfl,rfl,rfl,rfl,rfl,rfl,rfl,rfl,rfl,rfl,rfl,by grind,λ_=>rfl⟩
 .have w1:=sJ (e':={ei with kids:=ins ei.kids pl.2 (.el j)}) hi;have w2:=sJ (σ:=σ.gS pl.1 {ei with kids:=ins ei.kids pl.2 (.el j)}) (e':={ej with je:=some pl.1}) (by rw[Ab.iG G];exact I);have w3:=Xh ei.kids pl.2 (.el j) hn;grind
 .rw[l];rfl
 .rw[l];rfl
 .rw[l];rfl
 .rw[l,Ab.oa,Ab.oa]
 grind
theorem jx.alike (h:jx r σ) (hf:∀i e,σ.gV i=some e->∃l,σ'.gV i=some l/\l.name=e.name/\l.je=e.je/\iD l.kids=iD e.kids) (hb:∀i l,σ'.gV i=some l->∃e,σ.gV i=some e) (hk:∀i l,σ'.gV i=some l->∀k∈l.kids,σ'.jk k=true)
  (G:σ'.gq=σ.gq:=by rfl) (U:σ'.act=σ.act:=by rfl) (D:σ'.head=σ.head:=by rfl) (I:σ'.form=σ.form:=by rfl) (J:σ'.qu=σ.qu:=by rfl) (K:σ'.rH=σ.rH:=by rfl) (V:σ'.mode=σ.mode:=by rfl) (W:σ'.kept=σ.kept:=by rfl) (Y:σ'.waiting=σ.waiting:=by rfl) (Z:σ'.iL=σ.iL:=by rfl) (h9:σ'.jJ=σ.jJ:=by rfl) (hA:σ'.gI=σ.gI:=by rfl) (hL:σ'.pP=σ.pP:=by rfl):jx r σ'/\Fx σ σ':=by
 have B:∀i s,iV σ i s->iV σ' i s:=λi s ⟨e,F,hn⟩=>by
  grind[iV]
 have q:∀i l,σ'.gV i=some l->∃e,σ.gV i=some e/\l.name=e.name/\l.je=e.je/\iD l.kids=iD e.kids:=by
  intro i l H;have⟨e,F⟩:=hb i l H;have⟨e2,D,I⟩:=hf i e F;rw[H]at D;cases D;exact⟨e,F,I⟩
 refine⟨⟨⟨?_,?_,?_,hk⟩,⟨?_,?_,?_⟩,?_,?_,?_,?_,?_,?_,?_,?_,?_,?_⟩,⟨V,W,D,I,Y,Z,h9,hA,J,K,hL,B,λ_=>by rw[G]⟩⟩
 .intro i e p A hp;have⟨e0,g1,_,g3,_⟩:=q i e A;have⟨ep,g4,g5⟩:=h.oA.up i e0 p g1 (by grind);grind
 .intro i e j A hj;have⟨e0,g1,_,_,g4⟩:=q i e A;have⟨ej,g5,g6⟩:=h.oA.dn i e0 j g1 (by grind);grind
 .intro i e A;have⟨e0,g1,_,_,g4⟩:=q i e A;rw[g4];exact h.oA.nd i e0 g1
 .intro i e p A hp;have⟨e0,g1,_,g3,_⟩:=q i e A;exact h.ur.je i e0 p g1 (by grind)
 .rw[G];exact h.ur.gq
 .rw[D,G];exact h.ur.hd
 .rw[G];intro x O;obtain⟨i,e,rfl,F⟩:=kT (h.gq x O);grind[Ab.mW]
 .rw[U];intro i A;have⟨e,F,hn⟩:=h.act i A;grind
 .rw[D];exact λd N=>B _ _ (h.head d N)
 .rw[I];exact λd N=>B _ _ (h.form d N)
 .rw[G];intro x rest O;have⟨z,g1,g2⟩:=h.Mc x rest O;grind
 .rw[G,J];exact h.x7
 .rw[U,K];exact h.AB
 .rw[J];exact h.QE
 .rw[K];exact h.Ui
 .have⟨e,F⟩:=Option.isSome_iff_exists.1 h.ye;grind
theorem jx.tW (h:jx r σ) (nd:AJ) (B:∀e,nd≠ .el e):jx r (σ.add nd)/\Fx σ (σ.add nd):=by
 refine h.alike (λi e D=>⟨e,by grind[Ab.gV,Ab.add],rfl,rfl,rfl⟩) ?_ ?_
 .grind[Ab.gV,Ab.add]
 .intro i q d k A;rcases Ab.JZ (nd:=nd) d with⟨_,l⟩|⟨_,l⟩
  .exact Ab.Gg (h.oA.kd i q l k A)
  grind
theorem jx.ai8 (h:jx r σ) {k : Nd} (A:σ.gV i=some ei) (I:∀j,k≠ .el j) (K:σ.jk k=true) (J:n<=ei.kids.length):jx r (σ.gS i {ei with kids:=ins ei.kids n k})/\Fx σ (σ.gS i {ei with kids:=ins ei.kids n k})/\wt (σ.gS i {ei with kids:=ins ei.kids n k})=wt σ+1:=by
 have H:(σ.gV i).isSome=true:=by rw[A];rfl
 have q:∀j l,(σ.gS i {ei with kids:=ins ei.kids n k}).gV j=some l->(j=i/\l={ei with kids:=ins ei.kids n k})\/(j≠i/\σ.gV j=some l):=by
  intro j l d;by_cases B:j=i
  .subst B;rw[Ab.iR (Ab.gW A)]at d;grind
  .rw[Ab.iG B]at d;grind
 have D:=h.alike (σ':=σ.gS i {ei with kids:=ins ei.kids n k}) (λj e G=>by
  by_cases B:j=i
  .subst B;rw[A]at G;cases G;exact⟨_,Ab.iR (Ab.gW A),rfl,rfl,UN _ _ _ I⟩
  .exact⟨e,by rw[Ab.iG B];exact G,rfl,rfl,rfl⟩) (λj l d=>by
  grind) (λj l d x F=>by
  rw[Ab.lx H];rcases q j l d with⟨_,rfl⟩|⟨_,D⟩
  .rcases Xu.1 F with rfl|F
   .exact K
   .exact h.oA.kd _ _ A x F
  .exact h.oA.kd _ _ D x F)
 refine⟨D.1,D.2,?_⟩;have w1:=sJ (e':={ei with kids:=ins ei.kids n k}) A;have N:=Xh ei.kids n k J;grind
theorem jx.ot (h:jx r σ) (l:σ.nodes[t]?=some (.tx old)):jx r (σ.ot t s)/\Fx σ (σ.ot t s)/\wt (σ.ot t s)+old.size=wt σ+s.size:=by
 have A:=h.alike (σ':=σ.ot t s) (λi e D=>⟨e,by grind[Ab.gV,Ab.ot],rfl,rfl,rfl⟩) (λi q d=>⟨q,by rw[Ab.sI l]at d;exact d⟩) (λi q d k B=>by
  rw[Ab.Il l];rw[Ab.sI l]at d;exact h.oA.kd i q d k B)
 exact⟨A.1,A.2,adt (m:= .tx s) l⟩
structure Rest (σ σ':Ab):Prop where
 gq:σ'.gq=σ.gq
 act:σ'.act=σ.act
 fresh:σ'.fresh=σ.fresh
 behind:σ'.behind=σ.behind
 nT:σ'.nT=σ.nT
 iU:σ'.iU=σ.iU
theorem SP (h:ni σ) (F:Ch σ pl) (s:fY) (O:wt σ+s.size+1<=1000000):jE (s.size+1) σ (sF pl s σ) (λ_ σ'=>Rest σ σ'):=by
 have⟨r,h⟩:=h;have⟨ei,hi,hn⟩:=F;have K:=Jc hi;unfold sF;rw[hi];dsimp only;rw[gv ⟨hn,by omega⟩];have G:jE (s.size+1) σ (.ok () ((σ.add (.tx s)).gS pl.1 {ei with kids:=ins ei.kids pl.2 (.tx σ.nodes.length)}):pM Unit) (λ_ σ'=>Rest σ σ'):=by
  have⟨a1,a2⟩:=h.tW (.tx s) (λe A=>by cases A);have q:(σ.add (.tx s)).gV pl.1=some ei:=by rw[Ab.sr (Ab.gW hi)];exact hi
  have l:(σ.add (.tx s)).jk (.tx σ.nodes.length)=true:=by simp[Ab.jk,Ab.add]
  have⟨b1,b2,b3⟩:=a1.ai8 (n:=pl.2) q (λj B=>by cases B) l hn;have w1:=adr σ (.tx s);have U:Xv (.tx s)=s.size:=rfl;exact⟨⟨r,b1⟩,a2.trans b2,by omega,⟨rfl,rfl,rfl,rfl,rfl,rfl⟩⟩
 split
 .rename_i t N;have D:Nd.tx t∈ei.kids:=by
   by_cases H:pl.2=0
   .grind
   .grind
  have d:=h.oA.kd _ _ hi _ D;unfold Ab.jk at d;dsimp only at d;cases hx:σ.nodes[t]? with
  |none=>grind
  |some nd=>
   rw[hx]at d;cases nd with
   |tx old=>
    have I:Xv (.tx old)<=wt σ:=ads hx;have J:Xv (.tx old)=old.size:=rfl;dsimp only;rw[gv (by omega)];have⟨b1,b2,b3⟩:=h.ot (s:=old++s) hx;have:(old++s).size=old.size+s.size:=ByteArray.size_append;exact⟨⟨r,b1⟩,b2,by omega,⟨rfl,rfl,rfl,rfl,rfl,rfl⟩⟩
   |el e=>cases d
   |cm s=>cases d
   |dt s=>cases d
 omega
def Gt (h:ni σ) (D:Ch σ pl) (nd:AJ) (k:Nat->Nd) (d:(∃s,nd= .cm s/\k= .cm)\/(∃s,nd= .dt s/\k= .dt)) (H:wt σ+1<=1000000):jE 1 σ (o0 pl nd k σ) (λ_ σ'=>Rest σ σ'):=by
 have⟨r,h⟩:=h;have⟨ei,hi,hn⟩:=D;have G:=Jc hi;have B:∀e,nd≠ .el e:=by rintro e rfl;rcases d with⟨s,h,_⟩|⟨s,h,_⟩<;>cases h
 have A:∀i j,k i≠ .el j:=by rintro i j;rcases d with⟨s,_,h⟩|⟨s,_,h⟩<;>(rw[h];simp)
 have F:Xv nd=0:=by rcases d with⟨s,h,_⟩|⟨s,h,_⟩<;>(rw[h];rfl)
 have⟨a1,a2⟩:=h.tW nd B;have q:(σ.add nd).gV pl.1=some ei:=by rw[Ab.sr (Ab.gW hi)];exact hi
 have l:(σ.add nd).jk (k σ.nodes.length)=true:=by
  rcases d with⟨s,rfl,rfl⟩|⟨s,rfl,rfl⟩<;>simp[Ab.jk,Ab.add]
 have⟨b1,b2,b3⟩:=a1.ai8 (n:=pl.2) q (A _) l hn;have w1:=adr σ nd;unfold o0 ym;rw[q];dsimp only;rw[gv ⟨l,hn,by omega⟩];exact⟨⟨r,b1⟩,a2.trans b2,by omega,⟨rfl,rfl,rfl,rfl,rfl,rfl⟩⟩
theorem XD (h:i∈iD ks):0<=qE ks (Nd.gR i)/\(qE ks (Nd.gR i)).toNat < ks.length:=by
 have d:ks.findIdx (Nd.gR i) < ks.length:=ady ⟨_,xb.1 h,by simp[Nd.gR]⟩;grind[qE]
theorem rI (xs:kG) (n:Nat):io xs (n:Int)=xs.getD n none:=by
 grind[io]
theorem jx.at (h:jx r σ) (d:n < σ.gq.length):∃i e,σ.gq[n]?=some (some i)/\σ.gV i=some e:=by
 have⟨i,e,h1,h2⟩:=kT (h.gq _ (uG d));grind
def Hi (h:jx r σ) (G:some i∈σ.gq) (J:some i≠io σ.gq 0):∃pl,lM i σ= .ok pl σ/\Ch σ pl/\r pl.1 < r i/\(some pl.1∈σ.gq\/∃e c,σ.gV pl.1=some e/\c∈iD e.kids):=by
 have⟨i',e,e1,he⟩:=kT (h.gq _ G);cases e1;unfold lM;rw[he];dsimp only;cases hp:e.je with
 |some p=>
  have⟨ep,d,B⟩:=h.oA.up i e p he hp;have⟨D,F⟩:=XD B;dsimp only;rw[d];dsimp only;rw[gv D];exact⟨_,rfl,⟨ep,d,by omega⟩,h.ur.je i e p he hp,.inr ⟨ep,i,d,B⟩⟩
 |none=>
  dsimp only;have d:σ.gq.idxOf (some i) < σ.gq.length:=List.idxOf_lt_length_of_mem G;have B:posOf σ.gq (some i)=(σ.gq.idxOf (some i):Int):=by unfold posOf;rw[gv d]
  have D:σ.gq.idxOf (some i)≠0:=by
   intro H;apply J;have:=List.getElem_idxOf d;rw[show(0:Int)=((0:Nat):Int)from rfl,rI];simp only[H]at this;rw[xX,qs (by omega),<-this];rfl
  have⟨q,eq,hq,he2⟩:=h.at (n:=σ.gq.idxOf (some i) - 1) (by omega);have F:io σ.gq (posOf σ.gq (some i) - 1)=some q:=by
   rw[B,show(σ.gq.idxOf (some i):Int) - 1=((σ.gq.idxOf (some i) - 1:Nat):Int) by omega,rI,xX,hq];rfl
  rw[F];dsimp only;unfold jr;rw[he2];refine⟨_,rfl,⟨eq,he2,gL _⟩,?_,.inl (tR hq)⟩;have A:=List.pairwise_iff_getElem.1 h.ur.gq (σ.gq.idxOf (some i) - 1) (σ.gq.idxOf (some i)) (by omega) d (by omega);rw[List.getElem_idxOf d]at A;have I:σ.gq[σ.gq.idxOf (some i) - 1]'(by omega)=some q:=by
   have:=qs (l:=σ.gq) (i:=σ.gq.idxOf (some i) - 1) (by omega);rw[hq]at this;exact(jv this).symm
  rwa [I]at A
theorem Hj:∀{xs:kG} {x:iY},sP σ xs=some x->x∈xs/\x≠io σ.gq 0/\kJ (σ.rL x) fQ=true
 |[],x,h=>by cases h
 |y::xs,x,h=>by
  unfold sP at h;split at h
  .have⟨h1,h2⟩:=Hj h;grind
  grind
theorem jx.first (h:jx r σ) (d:σ.gq≠[]):∃q e rest,σ.gq=some q::rest/\io σ.gq 0=some q/\σ.gV q=some e/\e.name=fO:=by
 cases ho:σ.gq with
 |nil=>grind
 |cons x rest=>
  obtain⟨q,rfl,e,l,A⟩:=h.Mc x rest ho;grind[io]
theorem TL (h:jx r σ):σ.Bt=true:=by
 unfold Ab.Bt;rw[LV];intro x d;obtain⟨i,e,rfl,q⟩:=kT (h.gq x d);dsimp only;by_cases l:some i=io σ.gq 0
 .grind
 .have⟨pl,h1,_⟩:=Hi h d l;rw[h1];simp[pM.isOk]
theorem A5 (h:jx r σ) (l:σ.gq≠[]):∃pl,jK σ= .ok pl σ/\Ch σ pl/\(some pl.1∈σ.gq\/∃e c,σ.gV pl.1=some e/\c∈iD e.kids)/\((∃i,some i∈σ.gq/\kJ (σ.nm i) fQ=true/\sP σ σ.gq.reverse=some (some i)/\r pl.1 < r i)\/io σ.gq 0=some pl.1):=by
 unfold jK;rw[gv (TL h)];have⟨q,eq,rest,ho,hq,A,_⟩:=h.first l;cases hf:sP σ σ.gq.reverse with
 |none=>
  dsimp only;rw[hq];dsimp only;unfold jr;rw[A];grind[Ch]
 |some x=>
  have⟨h1,h2,h3⟩:=Hj hf;have d:x∈σ.gq:=List.mem_reverse.1 h1;obtain⟨i,e,rfl,A⟩:=kT (h.gq x d);dsimp only;have⟨pl,p1,p2,p3,p4⟩:=Hi h d h2;exact⟨pl,p1,p2,p4,.inl ⟨i,d,h3,rfl,p3⟩⟩
theorem SJ (h:jx r σ) (d:some i∈σ.gq):∃pl,placeFor i σ= .ok pl σ/\Ch σ pl/\(some pl.1∈σ.gq\/∃e c,σ.gV pl.1=some e/\c∈iD e.kids):=by
 have⟨i',e,e1,he⟩:=kT (h.gq _ d);cases e1;unfold placeFor;split
 .have⟨pl,h1,h2,h3,_⟩:=A5 h (List.ne_nil_of_mem d);grind
 .unfold jr;rw[he];grind[Ch]
theorem Po (h:jx r σ) (d:σ.gq≠[]):∃i e,σ.last=some i/\some i∈σ.gq/\σ.gq.getLast?=some (some i)/\σ.gV i=some e:=by
 have l:0 < σ.gq.length:=List.length_pos_iff.2 d;have⟨i,e,h1,h2⟩:=h.at (n:=σ.gq.length - 1) (by omega);refine⟨i,e,?_,tR h1,by grind,h2⟩;unfold Ab.last;rw[show(σ.gq.length:Int) - 1=((σ.gq.length - 1:Nat):Int) by omega,rI,xX,h1];rfl
theorem Gp (h:jx r σ) (d:σ.gq≠[]):∃pl,mD σ= .ok pl σ/\Ch σ pl/\(some pl.1∈σ.gq\/∃e c,σ.gV pl.1=some e/\c∈iD e.kids):=by
 have⟨i,e,h1,h2,_⟩:=Po h d;have⟨pl,h3,h4⟩:=SJ h h2;grind[mD]
theorem jx.push (h:jx r σ) (F:σ.gV j=some e) (I:∀x∈σ.gq,rk r x < r j) (H:σ.gq.length < σ.qu) (A:σ.gq≠[]\/(e.name=fO/\σ.head=none)):jx r {σ with gq:=σ.gq++[some j]}/\Fx σ {σ with gq:=σ.gq++[some j]}:=by
 have D:σ.gq≠[]->(σ.gq++[some j]).head?=σ.gq.head?:=by
  intro G;cases ho:σ.gq with
  |nil=>grind
  |cons x rest=>rfl
 refine⟨⟨⟨h.oA.up,h.oA.dn,h.oA.nd,h.oA.kd⟩,⟨h.ur.je,?_,?_⟩,?_,h.act,h.head,h.form,?_,?_,h.AB,h.QE,h.Ui,h.ye⟩,⟨rfl,rfl,rfl,rfl,rfl,rfl,rfl,rfl,rfl,rfl,rfl,λ_ _ h=>h,D⟩⟩
 .refine List.pairwise_append.2 ⟨h.ur.gq,by simp,λx l y J=>?_⟩;grind[rk]
 .intro d x B l;rcases A with A|⟨_,A⟩
  .exact h.ur.hd d x B (by grind)
  grind
 .intro x l;rcases List.mem_append.1 l with l|l
  .exact h.gq x l
  .rw[List.mem_singleton.1 l];show(σ.gV j).isSome=true;grind
 .intro x rest l;have q:σ.gq++[some j]=x::rest:=l;cases ho:σ.gq with
  |nil=>
   rw[ho]at q;injection q with h1 h2;rcases A with A|⟨A,_⟩
   .grind
   .exact⟨j,h1.symm,e,F,A⟩
  |cons y r2=>
   rw[ho]at q;injection q with h1 h2;have⟨z,h3,h4⟩:=h.Mc y r2 ho;exact⟨z,h1▸h3,h4⟩
 grind
def OW (h:e.kids=[]):iD e.kids=[]:=by rw[h];rfl
structure ajS (σ:Ab) (j:Nat) (σ':Ab):Prop where
 gq:σ'.gq=σ.gq++[some j]
 act:σ'.act=σ.act
 fresh:σ'.fresh=σ.fresh
 len:σ'.nodes.length=σ.nodes.length
theorem NF (h:ni σ) (d:σ.gV j=some e) (l:e.je=none) (I:e.kids=[]) (K:some j∉σ.gq) (F:σ.gq≠[]) (Y:wt σ < 999999):jE 1 σ (lN j σ) (λ_ σ'=>ajS σ j σ'):=by
 have⟨r,h⟩:=h;have⟨pl,p1,p2,N⟩:=Gp h F;have U:pl.1≠j:=by
  rintro rfl;rcases N with N|⟨e2,c,q,H⟩
  .grind
  .rw[d]at q;cases q;rw[I]at H;cases H
 have⟨B,hB⟩:=AU r σ.nodes.length;have W:=h.raise d (OW I) K (x:=B+1) (by have:=hB j (Ab.gW d);omega);have V:pl.1 < σ.nodes.length:=by have⟨e2,q,_⟩:=p2;exact Ab.gW q
 have⟨σ',q1,q2,q3,q4,q5,q6,q7,q8,q9,q10⟩:=W.put p2 d l (by grind[x9]) (by omega);unfold lN;rw[M.gn,p1];dsimp only;rw[M.gn,q1];dsimp only;rw[M.gn];unfold uo;have⟨e',e1,e2,_⟩:=q9 j e d;by_cases J:σ'.qu<=σ'.gq.length
 .rw[gv J];exact q3.gI
 .rw[gH J];have A:σ'.mW (some j)=true:=by show(σ'.gV j).isSome=true;rw[e1];rfl
  rw[gv A];dsimp only;have⟨g1,g2⟩:=q2.push e1 (by
   intro x G;rw[q5]at G;rw[zm];obtain⟨i,ei,rfl,O⟩:=kT (h.gq x G);show x9 r j (B+1) i < _;have D:i≠j:=by rintro rfl;exact K G
   rw[Aj D];have:=hB i (Ab.gW O);omega) (by omega) (.inl (by grind))
  exact⟨⟨_,g1⟩,q3.trans g2,by grind[wt],⟨by grind,q6,q7,q8⟩⟩
def vf (xs:kG) (k:Nat):(xs.reverse.drop k).reverse=xs.take (xs.length - k):=by
 rw[List.reverse_drop];simp
theorem LJ (σ:Ab) (p:fY->Bool):∀d:kG,(∃x∈d,p (σ.rL x)=true)->∃k,1<=k/\k<=d.length/\Ab.zl σ p d=d.drop k/\∃x,d[k - 1]?=some x/\p (σ.rL x)=true
 |[],h=>by grind
 |y::d,h=>by
  unfold Ab.zl;by_cases l:p (σ.rL y)=true
  .rw[gv l];exact⟨1,gL _,by simp,rfl,y,rfl,l⟩
  .rw[gH l];have⟨x,q,hpx⟩:=h;have A:x∈d:=by
    rcases List.mem_cons.1 q with rfl|q
    .grind
    .exact q
   have⟨k,h1,h2,h3,x2,h4,h5⟩:=LJ σ p d ⟨x,A,hpx⟩;refine⟨k+1,by omega,by grind,by grind,x2,?_,h5⟩;grind
theorem Lp (σ:Ab) (p b:fY->Bool):∀{d:kG},Ab.yz σ p b d=true->∃x∈d,p (σ.rL x)=true
 |[],h=>by cases h
 |y::d,h=>by
  unfold Ab.yz at h;by_cases l:p (σ.rL y)=true
  .grind
  .rw[gH l]at h;split at h
   .cases h
   .have⟨x,hx,h2⟩:=Lp σ p b h;grind
def Cf (h:1<=k):(xs.take k).head?=xs.head?:=by
 cases xs with
 |nil=>simp
 |cons x r=>cases k with
  |zero=>omega
  |succ k=>rfl
theorem jx.KU (h:jx r σ) (d:σ.gq.head?=some x):σ.rL x=fO:=by
 cases ho:σ.gq with
 |nil=>grind
 |cons y rest=>
  rw[ho]at d;cases d;obtain⟨q,rfl,e,l,A⟩:=h.Mc _ rest ho;show σ.nm q=_;grind[Ab.nm]
theorem adm (h:jx r σ) (p:fY->Bool) (F:p fO=false) (G:∃x∈σ.gq,p (σ.rL x)=true):jx r (σ.FG p)/\Fx σ (σ.FG p)/\∃k,1<=k/\k < σ.gq.length/\(σ.FG p).gq=σ.gq.take k:=by
 have⟨k,h1,h2,h3,x,h4,h5⟩:=LJ σ p σ.gq.reverse (by grind);have B:k<=σ.gq.length:=by simpa using h2
 have e:(Ab.zl σ p σ.gq.reverse).reverse=σ.gq.take (σ.gq.length - k):=by rw[h3,vf]
 have q:1<=σ.gq.length - k:=by
  rcases pJ k σ.gq.length with D|l
  .omega
  .exfalso;have A:k=σ.gq.length:=by omega
   have d:σ.gq.head?=some x:=by
    rw[Ua (by omega)]at h4;rw[Wr]
    rwa [show σ.gq.length - 1 - (k - 1)=0 by omega]at h4
   rw[h.KU d,F]at h5;cases h5
 have⟨g1,g2⟩:=h.sub (ys:=σ.gq.take (σ.gq.length - k)) (Qy _ _) (Cf q);grind[Ab.FG]
structure vF (σ σ':Ab):Prop where
 nodes:σ'.nodes=σ.nodes
 act:σ'.act=σ.act
 fresh:σ'.fresh=σ.fresh
 gq:∃k,σ'.gq=σ.gq.take k
def vF.refl (σ:Ab):vF σ σ:=⟨rfl,rfl,rfl,σ.gq.length,by simp⟩
def jl (h:σ'.nodes=σ.nodes):wt σ'=wt σ:=by unfold wt;rw[h]
theorem xq (h:ni σ) (p b:fY->Bool) (d:p fO=false):jE 0 σ (mV p b σ) (λx σ'=>vF σ σ'/\(x=true->σ'.gq.length < σ.gq.length)/\(x=false->σ'=σ)):=by
 have⟨r,h⟩:=h;unfold mV;split
 .rename_i l;have⟨x,h1,h2⟩:=Lp σ p b l;have⟨g1,g2,k,g3,g4,g5⟩:=adm h p d ⟨x,List.mem_reverse.1 h1,h2⟩;exact⟨⟨r,g1⟩,g2,LN (jl rfl),⟨rfl,rfl,rfl,k,g5⟩,λ_=>by grind,λh=>by cases h⟩
 .exact⟨⟨r,h⟩,Fx.refl _,gL _,vF.refl _,(λh=>by cases h),λ_=>rfl⟩
theorem JU (σ:Ab) (p:fY->Bool):∀d:kG,∃k,k<=d.length/\Ab.pS σ p d=d.drop k/\∀j,j < k->∃x,d[j]?=some x/\p (σ.rL x)=true
 |[]=>⟨0,gL _,rfl,λj h=>by omega⟩
 |y::d=>by
  unfold Ab.pS;by_cases l:p (σ.rL y)=true
  .rw[gv l];have⟨k,h1,h2,h3⟩:=JU σ p d;refine⟨k+1,by grind,by grind,λj h=>?_⟩;cases j with
   |zero=>grind
   |succ j=>grind
  .rw[gH l];exact⟨0,iM _,rfl,λj h=>by omega⟩
def aeo (h:jx r σ) (p:fY->Bool) (D:p fO=false):∃k,(Ab.pS σ p σ.gq.reverse).reverse=σ.gq.take k/\(σ.gq≠[]->1<=k):=by
 have⟨k,h1,h2,h3⟩:=JU σ p σ.gq.reverse;have A:k<=σ.gq.length:=by simpa using h1
 refine⟨σ.gq.length - k,by rw[h2,vf],λd=>?_⟩;rcases pJ k σ.gq.length with B|q
 .omega
 .exfalso;have F:0 < σ.gq.length:=List.length_pos_iff.2 d;have⟨x,h4,h5⟩:=h3 (σ.gq.length - 1) (by omega);have l:σ.gq.head?=some x:=by
   rw[Ua (by omega)]at h4;rw[Wr]
   rwa [show σ.gq.length - 1 - (σ.gq.length - 1)=0 by omega]at h4
  rw[h.KU l,D]at h5;cases h5
theorem JV (h:ni σ) (p:fY->Bool) (d:p fO=false):ni {σ with gq:=(Ab.pS σ p σ.gq.reverse).reverse}/\Fx σ {σ with gq:=(Ab.pS σ p σ.gq.reverse).reverse}/\vF σ {σ with gq:=(Ab.pS σ p σ.gq.reverse).reverse}:=by
 have⟨r,h⟩:=h;have⟨k,h1,h2⟩:=aeo h p d;rw[h1];cases ho:σ.gq with
 |nil=>
  have:([]:kG).take k=σ.gq:=by rw[ho];simp
  rw[this];exact⟨⟨r,h⟩,Fx.refl _,vF.refl _⟩
 |cons x rest=>
  rw[<-ho];have⟨g1,g2⟩:=h.sub (ys:=σ.gq.take k) (Qy _ _) (Cf (h2 (by grind)));exact⟨⟨r,g1⟩,g2,rfl,rfl,rfl,k,rfl⟩
def yc (h:ni σ) (p:fY->Bool):jE 0 σ (ub p σ) (λ_ σ'=>vF σ σ'):=by
 have⟨g1,g2,g3⟩:=JV h (λs=>!(p s||gZ [fO] s)) (by simp[gZ,kJ]);exact⟨g1,g2,LN (jl rfl),g3⟩
theorem Gq (h:ni σ) (d:2<=σ.gq.length):ni σ.pop/\Fx σ σ.pop:=by
 have⟨r,h⟩:=h;have e:σ.gq.dropLast=σ.gq.take (σ.gq.length - 1):=adw;have⟨g1,g2⟩:=h.sub (ys:=σ.gq.take (σ.gq.length - 1)) (Qy _ _) (Cf (by omega));grind[ni,Ab.pop]
def vF.pop (σ:Ab):vF σ σ.pop:=⟨rfl,rfl,rfl,σ.gq.length - 1,adw⟩
theorem yd (h:ni σ) (p:fY->Bool) (D:p fO=false) (d:σ.current p=true):2<=σ.gq.length:=by
 have⟨r,h⟩:=h;unfold Ab.current at d;cases ho:σ.gq with
 |nil=>
  have:σ.last=none:=by unfold Ab.last;rw[ho];rfl
  grind
 |cons x rest=>
  cases rest with
  |cons y r2=>simp
  |nil=>
   exfalso;obtain⟨q,rfl,e,l,A⟩:=h.Mc x [] ho;have:σ.last=some q:=by unfold Ab.last;rw[ho];rfl
   rw[this]at d;have B:σ.nm q=fO:=by unfold Ab.nm;rw[l];exact A
   grind
def uY (h:ni σ) (p:fY->Bool) (l:p fO=false):jE 0 σ (pZ p σ) (λ_ σ'=>vF σ σ'):=by
 show jE 0 σ (.ok () (σ.Fi p)) _;unfold Ab.Fi;split
 .rename_i d;have⟨g1,g2⟩:=Gq h (yd h p l d);exact⟨g1,g2,LN (jl rfl),vF.pop σ⟩
 .exact⟨h,Fx.refl _,gL _,vF.refl _⟩
def jx.DO (h:jx r σ) {ys : kG} (l:∀i,some i∈ys->∃e,σ.gV i=some e/\rY e.name=true) (d:ys.length<=σ.rH):jx r {σ with act:=ys}/\Fx σ {σ with act:=ys}:=
 ⟨⟨⟨h.oA.up,h.oA.dn,h.oA.nd,h.oA.kd⟩,⟨h.ur.je,h.ur.gq,h.ur.hd⟩,h.gq,l,h.head,h.form,h.Mc,h.x7,d,h.QE,h.Ui,h.ye⟩,⟨rfl,rfl,rfl,rfl,rfl,rfl,rfl,rfl,rfl,rfl,rfl,λ_ _ h=>h,λ_=>rfl⟩⟩
structure GO (σ:Ab) (s:fY) (j:Nat) (σ':Ab):Prop where
 gq:σ'.gq=σ.gq++[some j]
 act:σ'.act=σ.act
 nm:iV σ' j s
 new:σ.nodes.length<=j
def Px (h:ni σ) (B:σ.gq≠[]) (J:wt σ < 999999) (d:fY) (gx:la) (b:Bool):jE 1 σ (lN σ.nodes.length (σ.pN (.el {name:=d,gO:=gx,je:=none,kids:=[]}) b)) (λ_ σ'=>∃j,GO σ d j σ'/\σ'.fresh=b):=by
 have⟨r,h⟩:=h;have⟨g1,g2⟩:=h.new d gx b 0;have l:(σ.pN (.el {name:=d,gO:=gx,je:=none,kids:=[]}) b).gV σ.nodes.length=some {name:=d,gO:=gx,je:=none,kids:=[]}:=Ab.sN;have D:some σ.nodes.length∉(σ.pN (.el {name:=d,gO:=gx,je:=none,kids:=[]}) b).gq:=by
  intro G;have:=h.Gm (i:=σ.nodes.length) G;omega
 have H:wt (σ.pN (.el {name:=d,gO:=gx,je:=none,kids:=[]}) b)=wt σ:=FK _ _ _;have q:=NF ⟨_,g1⟩ l rfl rfl D B (by omega);revert q;cases lN σ.nodes.length (σ.pN (.el {name:=d,gO:=gx,je:=none,kids:=[]}) b)with
 |ok a σ'=>
  rintro⟨q,F,I,A⟩;refine⟨q,g2.trans F,by omega,σ.nodes.length,⟨A.gq,A.act,F.nm _ _ ⟨_,l,rfl⟩,gL _⟩,A.fresh⟩
 |stop e p=>exact λh=>h
 |stuck=>simp[jE]
def jE.iB {α:Type} {c : Nat} {m:M α} {Q : Unit->Ab->Prop} (h:jE c σ (m σ) (λ_ σ'=>Q () σ')):jE c σ ((m>>=λ_=>(Pure.pure ():M Unit)) σ) Q:=by
 refine jE.bind h (c2:=0) (λa σ' d _ _ l=>jE.ret d l) (by omega)
def jE.tail_at {α:Type} {c : Nat} {σ1 : Ab} {m:M α} {Q : Unit->Ab->Prop} (h:jE c σ (m σ1) (λ_ σ'=>Q () σ')):jE c σ ((m>>=λ_=>(Pure.pure ():M Unit)) σ1) Q:=by
 rw[M.gn];revert h;cases m σ1<;>exact λh=>h
def sQ (h:ni σ) (l:σ.gq≠[]) (q:wt σ < 999999) (d:fY):jE 1 σ (jW d σ) (λ_ σ'=>∃j,GO σ d j σ'/\σ'.fresh=σ.fresh):=
 jE.iB (m:=λσ=>lN σ.nodes.length (σ.add (.el {name:=d,gO:=[],je:=none,kids:=[]}))) (Px h l q d [] σ.fresh)
theorem jT (h:ni σ) (d:σ.gq≠[]) (l:wt σ < 999999) (t:gy) (A:t.pT=true) (q:σ.fresh=true):jE 1 σ (jg t σ) (λ_ σ'=>∃j,GO σ t.name j σ'):=by
 unfold jg;rw[M.gn];unfold nC;rw[gv (by grind)];dsimp only;refine jE.tail_at ?_;refine(Px h d l t.name t.jh false).mono (gL _) ?_;grind
def afi (h:GO σ s j σ'):σ'.pop.gq=σ.gq:=by
 show σ'.gq.dropLast=_;rw[h.gq];simp
theorem Fa (h:GO σ s j σ') (d:σ.gq≠[]):2<=σ'.gq.length:=by
 have:0 < σ.gq.length:=List.length_pos_iff.2 d;rw[h.gq];grind
def EY (h:GO σ s j σ'):σ'.last=some j:=by
 unfold Ab.last;rw[h.gq];have e:((σ.gq++[some j]).length:Int) - 1=((σ.gq.length:Nat):Int):=by simp
 rw[e,rI];simp
def y8 (h:ni σ) (d:2<=σ.gq.length):jE 0 σ (x8 σ) (λx σ'=>σ'=σ.pop/\x=σ.last):=by
 have⟨g1,g2⟩:=Gq h d;exact⟨g1,g2,LN (jl rfl),rfl,rfl⟩
def qR (h:ni σ) (d:σ.gq≠[]) (D:wt σ < 999999) (t:gy) (B:t.pT=true) (A:σ.fresh=true):jE 1 σ (ln t σ) (λ_ σ'=>σ'.gq=σ.gq/\σ'.act=σ.act):=by
 unfold ln;refine jE.bind (jT h d D t B A) (c2:=0) ?_ (by omega);rintro _ F q H _ ⟨j,l⟩;refine jE.iB ((y8 q (Fa l d)).mono (gL _) ?_);rintro x G _ _ ⟨rfl,_⟩;exact⟨afi l,l.act⟩
def py (h:ni σ) (d:σ.gq≠[]) (t:gy) (l:wt σ+t.chars.size+1<=1000000):jE (t.chars.size+1) σ (jZ t σ) (λ_ σ'=>Rest σ σ'):=by
 have⟨r,hr⟩:=h;have⟨pl,p1,p2,_⟩:=Gp hr d;unfold jZ;rw[M.gn,p1];dsimp only;exact jE.iB (m:=sF pl t.chars) (SP ⟨r,hr⟩ p2 t.chars l)
def RK (h:rY s=true):nG s=false:=by
 unfold rY gZ at h;rw[List.any_eq_true]at h;have⟨x,hx,he⟩:=h;have e:=su he;simp only[kU,Al,yC]at hx;rcases hx with rfl|rfl|rfl|rfl<;>(rw[e];simp[nG,kJ,agN,agM,sK])
def Ez (h:rY s=true):s≠fO:=by
 rintro rfl;simp[rY,gZ,kJ,sK]at h
theorem acU {m : Nat} (h:(qo xs x (some j))[m]?=some y):xs[m]?=some y\/y=some j:=by
 unfold qo at h;grind
theorem Lf (xs:kG) (x y:iY):(qo xs x y).length=xs.length:=by
 grind[qo]
theorem y9 (h:z∈qo xs x y):z∈xs\/z=y:=by
 unfold qo at h;grind
theorem Ys (h:ni σ) {old : Nat} (q:(σ.gV old).isSome=true) (l:iV σ j s) (A:rY s=true):jE 0 σ (qg (some old) (some j) σ) (λ_ σ'=>σ'.gq=σ.gq/\σ'.act=qo σ.act (some old) (some j)/\σ'.fresh=σ.fresh):=by
 have⟨r,h⟩:=h;have⟨ej,hej,hn⟩:=l;unfold qg;rw[gv (by grind[Ab.gR])];have⟨g1,g2⟩:=h.DO (ys:=qo σ.act (some old) (some j)) (λi d=>by
  rcases y9 d with d|d
  .exact h.act i d
  grind) (by rw[Lf];exact h.AB)
 exact⟨⟨r,g1⟩,g2,LN (jl rfl),rfl,rfl,rfl⟩
def AQ (h:σ.gV i=some e) (d:rY e.name=true):kB i σ= .ok σ.nodes.length (σ.pN (.el {name:=e.name,gO:=e.gO,je:=none,kids:=[]}) σ.fresh):=by
 unfold kB;rw[h];dsimp only;rw[RK d];rfl
theorem Td:∀(k n:Nat) {σ:Ab},ni σ->σ.gq≠[]->wt σ+k < 999999->n+k<=σ.act.length->(∀m,n<=m->m < n+k->∃i,σ.act[m]?=some (some i))->jE k σ (IM k n σ) (λ_ σ'=>σ.gq <+:σ'.gq/\σ'.act.length=σ.act.length/\σ'.fresh=σ.fresh)
 |0,n,σ,h,_,_,_,_=>jE.ret h ⟨List.prefix_refl _,rfl,rfl⟩
 |k+1,n,σ,h,hne,hw,hl,ha=>by
  have⟨old,ho⟩:=ha n (gL _) (by omega);have⟨r,hr⟩:=h;have⟨eo,heo,hfo⟩:=hr.act old (tR ho);have F:Cn n σ= .ok old σ:=by
   unfold Cn;rw[rI,xX,ho];rfl
  unfold IM;rw[M.gn,F];dsimp only;rw[M.gn,AQ heo hfo];dsimp only;rw[M.gn];have J:=Px ⟨r,hr⟩ hne (by omega) eo.name eo.gO σ.fresh;revert J;cases hq:lN σ.nodes.length (σ.pN (.el {name:=eo.name,gO:=eo.gO,je:=none,kids:=[]}) σ.fresh)with
  |stop e p=>simp[jE]
  |stuck=>simp[jE]
  |ok u σ1=>
   rintro⟨W,B,w1,j,q,D⟩;dsimp only;have G:po old σ1=qg (some old) (some j) σ1:=by unfold po;rw[EY q]
   have⟨eo1,heo1,_⟩:=B.nm old eo.name ⟨eo,heo,rfl⟩;have K:jE (k+0) σ1 ((po old>>=λ_=>IM k (n+1)) σ1) (λ_ σ'=>σ.gq <+:σ'.gq/\σ'.act.length=σ.act.length/\σ'.fresh=σ.fresh):=by
    refine jE.bind (c1:=0) (by rw[G];exact Ys W (by grind) q.nm hfo) (c2:=k) ?_ (by omega);rintro _ d Y V w2 ⟨Z,A,r2⟩;have l:d.act.length=σ.act.length:=by rw[A,Lf,q.act]
    refine(Td k (n+1) Y (V.ne (B.ne hne)) (by omega) (by omega) ?_).mono (gL _) ?_
    .intro m J K;have⟨i,hi⟩:=ha m (by omega) (by omega);have hm:m < d.act.length:=by omega
     cases hx:d.act[m]? with
     |none=>grind
     |some y=>
      rw[A]at hx;rcases acU hx with N|N
      .rw[q.act,hi]at N;grind
      grind
    .rintro _ H _ _ ⟨o3,I,r3⟩;refine⟨?_,I.trans l,r3.trans (r2.trans D)⟩;refine List.IsPrefix.trans ?_ o3;rw[Z,q.gq];simp
   revert K;cases((po old>>=λ_=>IM k (n+1)) σ1)with
   |ok a H=>rintro⟨O,A,I,U⟩;exact⟨O,B.trans A,by omega,U⟩
   |stop e p=>exact λh=>wo h B.gI
   |stuck=>simp[jE]
theorem N6 (σ:Ab):∀d:kG,σ.vc d<=d.length/\∀m,m < d.length - σ.vc d->∃i,d[m]?=some (some i)
 |[]=>⟨gL _,λm l=>by grind⟩
 |x::d=>by
  unfold Ab.vc;by_cases h:σ.Vd x=true
  .grind
  .rw[gH h];have⟨h1,h2⟩:=N6 σ d;refine⟨by grind,λm l=>?_⟩;cases m with
   |zero=>
    cases x with
    |none=>exact absurd (by rfl) h
    |some i=>simp
   |succ m=>exact h2 m (by grind)
theorem oz (h:ni σ) (d:σ.gq≠[]) (D:wt σ+32 < 999999):jE 32 σ (lz σ) (λ_ σ'=>σ.gq <+:σ'.gq/\σ'.act.length=σ.act.length/\σ'.fresh=σ.fresh):=by
 unfold lz;have⟨h1,h2⟩:=N6 σ σ.act.reverse;have q:σ.Bm<=σ.act.length:=by simpa [Ab.Bm]using h1
 have l:σ.act.length<=32:=by have⟨r,hr⟩:=h;exact jH hr.AB hr.Ui
 refine(Td (σ.act.length - σ.Bm) σ.Bm h d (by omega) (by omega) ?_).mono (by omega) (λ_ _ _ _ h=>h);intro m A B;have⟨i,hi⟩:=h2 (σ.act.length - 1 - m) (by
  have e:σ.vc σ.act.reverse=σ.Bm:=rfl;grind)
 grind
structure Yl (σ:Ab) (o a:kG) (σ':Ab):Prop where
 nodes:σ'.nodes=σ.nodes
 gq:σ'.gq=o
 act:σ'.act=a
 fresh:σ'.fresh=σ.fresh
def zt (h:ni σ) (l:σ.gR x=true):jE 0 σ (kM x σ) (λ_ σ'=>Yl σ σ.gq (σ.act.erase x) σ'):=by
 have⟨r,h⟩:=h;unfold kM;rw[gv l];have⟨g1,g2⟩:=h.DO (ys:=σ.act.erase x) (λi d=>h.act i (Qw d)) (jH (List.length_erase_le) h.AB);exact⟨⟨r,g1⟩,g2,LN (jl rfl),rfl,rfl,rfl,rfl⟩
def Up (h:z∈oh xs x):z∈xs:=by
 unfold oh at h;rw[List.mem_reverse]at h;exact List.mem_reverse.1 ((nM _).subset ((List.tail_sublist _).subset h))
theorem ZE (xs:kG) (x:iY):(oh xs x).length<=xs.length:=by
 unfold oh;rw[List.length_reverse,List.length_tail];have:=(nM (p:=λy=>decide (y≠x)) (l:=xs.reverse)).length_le;grind
def LH (h:ni σ):jE 0 σ (xM σ) (λ_ σ'=>Yl σ σ.gq (oh σ.act none) σ'):=by
 refine jE.iB (m:=AO none) ?_;have⟨r,h⟩:=h;unfold AO;rw[gv (show σ.gR none=true from rfl)];have⟨g1,g2⟩:=h.DO (ys:=oh σ.act none) (λi d=>h.act i (Up d)) (jH (ZE _ _) h.AB);exact⟨⟨r,g1⟩,g2,LN (jl rfl),rfl,rfl,rfl,rfl⟩
theorem wD (h:ni σ) (x:iY) (A:∀i,x=some i->∃e,σ.gV i=some e/\rY e.name=true):jE 0 σ (kA x σ) (λ_ σ'=>Yl σ σ.gq (σ.act++[x]) σ'):=by
 have⟨r,h⟩:=h;unfold kA;split
 .rfl
 .rename_i q;have l:σ.gR x=true:=by
   cases x with
   |none=>rfl
   |some i=>grind[Ab.gR]
  rw[gv l];have⟨g1,g2⟩:=h.DO (ys:=σ.act++[x]) (λi d=>by
   rcases List.mem_append.1 d with d|d
   .exact h.act i d
   grind) (by grind)
  exact⟨⟨r,g1⟩,g2,LN (jl rfl),rfl,rfl,rfl,rfl⟩
theorem Dx (σ:Ab) (j:Nat):∀(d:kG) (c:iY×Nat),(σ.tm j d c).1=c.1\/(σ.tm j d c).1∈d
 |[],c=> .inl rfl
 |none::_,c=> .inl rfl
 |some i::d,c=>by
  unfold Ab.tm;split
  .rcases Dx σ j d (some i,c.2+1)with h|h
   all_goals grind
  .rcases Dx σ j d c with h|h
   all_goals grind
theorem aaJ (h:ni σ) (G:iV σ i s) (N:rY s=true):jE 0 σ (Jv i σ) (λ_ σ'=>σ'.gq=σ.gq/\σ'.fresh=σ.fresh):=by
 have⟨e,he,hn⟩:=G;have l:∀d,ni d->d.nodes=σ.nodes->jE 0 d (kA (some i) d) (λ_ σ'=>Yl d d.gq (d.act++[some i]) σ'):=by
  intro d q I;refine wD q (some i) ?_;intro j H;cases H;exact⟨e,by grind[Ab.gV],by grind⟩
 have B:σ.gR (σ.tm i σ.act.reverse (none,0)).1=true:=by
  rcases Dx σ i σ.act.reverse (none,0)with q|q
  .rw[q];rfl
  .cases hx:(σ.tm i σ.act.reverse (none,0)).1 with
   |none=>rfl
   |some j=>
    rw[hx]at q;have⟨r,hr⟩:=h;have⟨ej,hej,_⟩:=hr.act j (List.mem_reverse.1 q);grind[Ab.gR]
 unfold Jv;dsimp only;split
 .refine jE.bind (zt h B) (c2:=0) ?_ (by omega);rintro _ d J K _ D;refine jE.iB ((l d J D.nodes).mono (gL _) ?_);rintro _ F _ _ A;exact⟨A.gq.trans D.gq,A.fresh.trans D.fresh⟩
 .refine jE.iB ((l σ h rfl).mono (gL _) ?_);rintro _ F _ _ A;exact⟨A.gq,A.fresh⟩
theorem Dt (h:xs.head?≠some x):(xs.erase x).head?=xs.head?:=by
 cases xs with
 |nil=>rfl
 |cons y r=>
  grind
def jx.Ff (h:jx r σ) (l:iV σ i s) (q:s≠fO):σ.gq.head?≠some (some i):=by
 intro e;have d:=h.KU e;have⟨ei,he,hn⟩:=l;apply q;rw[<-hn,<-d];show _=σ.nm i;unfold Ab.nm;rw[he]
theorem DA (h:ni σ) (d:iV σ i s) (l:s≠fO):jE 0 σ (kq (some i) σ) (λ_ σ'=>Yl σ (σ.gq.erase (some i)) σ.act σ'):=by
 have⟨r,h⟩:=h;have⟨e,he,_⟩:=id d;unfold kq;rw[gv (by grind[Ab.gR])];have⟨g1,g2⟩:=h.sub (ys:=σ.gq.erase (some i)) List.erase_sublist (Dt (h.Ff d l));exact⟨⟨r,g1⟩,g2,LN (jl rfl),rfl,rfl,rfl,rfl⟩
theorem Ep:∀{d:kG},x∈d->∃j,j < d.length/\d.dropWhile (λy=>decide (y≠x))=d.drop j/\d[j]?=some x
 |[],h=>by cases h
 |y::d,h=>by
  by_cases q:y=x
  .subst q;exact⟨0,by simp,by simp,rfl⟩
  .have l:x∈d:=by
    rcases List.mem_cons.1 h with h|h
    .grind
    .exact h
   have⟨j,h1,h2,h3⟩:=Ep l;refine⟨j+1,by grind,?_,by grind⟩;simp_all
theorem VC (q:x∈xs) (d:xs.head?≠some x):∃k,1<=k/\k < xs.length/\oh xs x=xs.take k:=by
 have⟨j,h1,h2,h3⟩:=Ep (List.mem_reverse.2 q);have l:j < xs.length:=by simpa using h1
 have e:oh xs x=xs.take (xs.length - (j+1)):=by
  unfold oh;rw[h2,List.tail_drop,vf]
 refine⟨_,?_,by omega,e⟩;rcases pJ (j+1) xs.length with h|h
 .omega
 .exfalso;apply d;rw[Ua l]at h3;rw[Wr];grind
theorem Vr (h:ni σ) (d:iV σ i s) (q:s≠fO) (l:some i∈σ.gq):jE 0 σ (zP (some i) σ) (λ_ σ'=>vF σ σ'):=by
 have⟨r,h⟩:=h;have⟨e,he,_⟩:=id d;unfold zP;rw[gv (by grind[Ab.gR])];have⟨k,k1,k2,k3⟩:=VC l (h.Ff d q);rw[k3];have⟨g1,g2⟩:=h.sub (ys:=σ.gq.take k) (Qy _ _) (Cf k1);exact⟨⟨r,g1⟩,g2,LN (jl rfl),rfl,rfl,rfl,k,rfl⟩
theorem Rp (h:j∈iD ks) (q:(iD ks).Nodup):iD (ks.eraseIdx (ks.findIdx (Nd.gR j)))=(iD ks).erase j:=by
 induction ks with
 |nil=>cases h
 |cons k r ih=>
  by_cases d:Nd.gR j k=true
  .cases k with
   |el i=>
    grind[iD,Nd.gR]
   |tx i=>cases d
   |cm i=>cases d
   |dt i=>cases d
  .have l:Nd.gR j k=false:=by simpa using d
   rw[List.findIdx_cons,l];simp only[cond_false,List.eraseIdx_cons_succ];cases k with
   |el i=>
    grind[iD,Nd.gR]
   |tx i=>exact ih h q
   |cm i=>exact ih h q
   |dt i=>exact ih h q
theorem jx.lQ (h:jx r σ) (I:σ.gV j=some ej):
  ∃σ',lQ j σ= .ok () σ'/\jx r σ'/\Fx σ σ'/\wt σ'<=wt σ/\σ'.gq=σ.gq/\σ'.act=σ.act/\σ'.fresh=σ.fresh/\σ'.nodes.length=σ.nodes.length/\(∃F,σ'.gV j=some F/\F.je=none/\F.name=ej.name):=by
 unfold Go.Proofs.YthcohfdidcdchaaGreatDoor.lQ;rw[I];dsimp only;cases hp:ej.je with
 |none=>exact⟨σ,rfl,h,Fx.refl _,gL _,rfl,rfl,rfl,rfl,ej,I,hp,rfl⟩
 |some p=>
  have⟨ep,hep,hm⟩:=h.oA.up j ej p I hp;have ad:=h.ur.je j ej p I hp;have K:j≠p:=by rintro rfl;omega
  have⟨q1,q2⟩:=XD hm;dsimp only;rw[hep];dsimp only;rw[gv ⟨K,q1,q2⟩];have a6:=Ab.gW hep;have aa:=Ab.gW I;have W:(qE ep.kids (Nd.gR j)).toNat=ep.kids.findIdx (Nd.gR j):=by
   unfold qE at q2|-;by_cases hf:ep.kids.findIdx (Nd.gR j) < ep.kids.length
   .omega
   .exfalso;apply hf;exact ady ⟨_,xb.1 hm,by simp[Nd.gR]⟩
  rw[W]at q2|-;obtain⟨ks,J⟩:∃ks,ks=ep.kids.eraseIdx (ep.kids.findIdx (Nd.gR j)):=⟨_,rfl⟩;rw[<-J];have ab:ks.length+1=ep.kids.length:=by rw[J,Qv q2];omega
  have a0:iD ks=(iD ep.kids).erase j:=by rw[J];exact Rp hm (h.oA.nd p ep hep)
  have a1:∀k∈ks,k∈ep.kids:=λk U=>by rw[J]at U;exact(List.eraseIdx_sublist _ _).subset U
  obtain⟨σ',l⟩:∃σ',σ'=(σ.gS p {ep with kids:=ks}).gS j {ej with je:=none}:=⟨_,rfl⟩;rw[<-l];have g1:σ'.gV p=some {ep with kids:=ks}:=by rw[l,Ab.iG (wB K),Ab.iR a6]
  have g2:σ'.gV j=some {ej with je:=none}:=by rw[l,Ab.iR (by grind[Ab.gS])]
  have g3:∀i,i≠p->i≠j->σ'.gV i=σ.gV i:=λi A G=>by rw[l,Ab.iG G,Ab.iG A]
  have Y:(σ.gV p).isSome=true:=by rw[hep];rfl
  have Z:((σ.gS p {ep with kids:=ks}).gV j).isSome=true:=by rw[Ab.iG K,I];rfl
  have gk:∀k,σ'.jk k=σ.jk k:=λk=>by rw[l,Ab.lx Z,Ab.lx Y]
  have ge:∀x,σ'.mW x=σ.mW x:=λx=>by rw[l,Ab.yW Z,Ab.yW Y]
  have N:∀i e,σ.gV i=some e->∃F,σ'.gV i=some F/\F.name=e.name/\(i≠p->F.kids=e.kids)/\(i≠j->F.je=e.je):=by
   intro i e H;by_cases A:i=p
   .grind
   .grind
  have D:∀i F,σ'.gV i=some F->(i=p/\F={ep with kids:=ks})\/(i=j/\F={ej with je:=none})\/(i≠p/\i≠j/\σ.gV i=some F):=by
   intro i F H;by_cases A:i=p
   .grind
   .grind
  have a2:∀i s,iV σ i s->iV σ' i s:=λi s ⟨e,H,hn⟩=>by
   grind[iV]
  have ae:∀i e q,σ.gV i=some e->i≠j->e.je=some q->∃eq,σ'.gV q=some eq/\i∈iD eq.kids:=by
   intro i e q H a9 hq;have⟨eq,G,O⟩:=h.oA.up _ _ q H hq;have⟨eq',h4,_,h5,_⟩:=N q eq G;refine⟨eq',h4,?_⟩;by_cases ac:q=p
   .grind
   .grind
  have a4:∀i e x,σ.gV i=some e->x∈iD e.kids->x≠j->∃V,σ'.gV x=some V/\V.je=some i:=by
   intro i e x H hx a7;have⟨V,G,O⟩:=h.oA.dn i e x H hx;have⟨ex',h4,_,_,h5⟩:=N x V G;exact⟨ex',h4,(h5 a7).trans O⟩
  have a8:∀i e,σ.gV i=some e->j∈iD e.kids->i=p:=by
   intro i e H a5;have⟨V,G,O⟩:=h.oA.dn i e j H a5;rw[I]at G;cases G;rw[hp]at O;exact(jv O).symm
  refine⟨σ',rfl,⟨⟨?_,?_,?_,?_⟩,⟨?_,?_,?_⟩,λx hx=>?_,λi B=>?_,λd hd=>a2 _ _ (h.head d ?_),λd hd=>a2 _ _ (h.form d ?_),λy rest hy=>?_,?_,?_,?_,?_,?_⟩,?_,?_,?_,?_,?_,?_,?_⟩
  .grind
  .intro i e x B hx;rcases D i e B with⟨A,rfl⟩|⟨A,rfl⟩|⟨O,G,A⟩
   .rw[A];have a3:x∈(iD ep.kids).erase j:=by rw[<-a0];exact hx
    exact a4 p ep x hep (Qw a3) (λe=>by
     subst e;exact(List.Nodup.not_mem_erase (h.oA.nd p ep hep)) a3)
   all_goals grind
  .intro i e B;rcases D i e B with⟨A,rfl⟩|⟨A,rfl⟩|⟨_,_,A⟩
   .show(iD ks).Nodup;rw[a0];exact(h.oA.nd p ep hep).erase j
   .show(iD ej.kids).Nodup;exact h.oA.nd _ _ I
   .exact h.oA.nd _ _ A
  .intro i e B k U;rw[gk];rcases D i e B with⟨A,rfl⟩|⟨A,rfl⟩|⟨_,_,A⟩
   .exact h.oA.kd _ _ hep k (a1 k U)
   .exact h.oA.kd _ _ I k U
   .exact h.oA.kd _ _ A k U
  .intro i e q B hq;rcases D i e B with⟨A,rfl⟩|⟨A,rfl⟩|⟨_,_,A⟩
   .rw[A];exact h.ur.je _ _ q hep hq
   .cases hq
   .exact h.ur.je _ _ q A hq
  .rw[l];exact h.ur.gq
  .rw[l];exact h.ur.hd
  .rw[ge];exact h.gq x (by rwa [l]at hx)
  .have⟨e,H,hf⟩:=h.act i (by rw[l]at B;exact B);grind
  .rwa [l]at hd
  .rwa [l]at hd
  .have⟨z,A,G⟩:=h.Mc y rest (by rwa [l]at hy);grind
  .rw[l];exact h.x7
  .rw[l];exact h.AB
  .rw[l];exact h.QE
  .rw[l];exact h.Ui
  .have⟨e,H⟩:=Option.isSome_iff_exists.1 h.ye;grind
  .rw[l];exact⟨rfl,rfl,rfl,rfl,rfl,rfl,rfl,rfl,rfl,rfl,rfl,by grind,λ_=>rfl⟩
  .have w1:=sJ (e':={ep with kids:=ks}) hep;have w2:=sJ (σ:=σ.gS p {ep with kids:=ks}) (e':={ej with je:=none}) (by rw[Ab.iG K];exact I);grind
  .rw[l];rfl
  .rw[l];rfl
  .rw[l];rfl
  .rw[l,Ab.oa,Ab.oa]
  grind
structure agh (σ:Ab) (d:Nat) (ed:yp) (ks:List Nd) (σ':Ab):Prop where
 eq:σ'={σ with nodes:=σ'.nodes}
 len:σ'.nodes.length=σ.nodes.length
 dst:σ'.gV d=some {ed with kids:=ed.kids++ks}
 oth:∀i,i≠d->σ'.gV i=if i∈iD ks then (σ.gV i).map (λe=>{e with je:=some d})else σ.gV i
 kid:∀k,σ'.jk k=σ.jk k
 wt:wt σ'=wt σ+ks.length
def Xg (ks:List Nd) (k:Nd):ins ks ks.length k=ks++[k]:=by simp[ins]
theorem Gc:∀(ks:List Nd) {σ:Ab} {d:Nat} {ed:yp},σ.gV d=some ed->(∀k∈ks,σ.jk k=true)->d∉iD ks->(iD ks).Nodup->ed.kids.length+ks.length < 1000000->∃σ',yi d ks σ= .ok () σ'/\agh σ d ed ks σ'
 |[],σ,d,ed,hd,_,_,_,_=>⟨σ,rfl,rfl,rfl,by simp_all,λi _=>by rfl,λ_=>rfl,rfl⟩
 |k::ks,σ,d,ed,hd,hk,hn,hnd,hl=>by
  simp only[rn]at hl;have I:=Ab.gW hd;have F:(σ.gV d).isSome=true:=by rw[hd];rfl
  have he:jr d σ= .ok (d,ed.kids.length) σ:=by unfold jr;rw[hd]
  unfold yi;rw[M.gn,he];dsimp only;rw[M.gn];have J:=hk k (kK ..);have G:∀(O:Nd),(∀j,O≠ .el j)->k=O->∃l,ym (d,ed.kids.length) O σ= .ok () l/\∃σ',yi d ks l= .ok () σ'/\agh σ d ed (k::ks) σ':=by
   intro O a1 Y;subst Y;have W:ym (d,ed.kids.length) k σ= .ok () (σ.gS d {ed with kids:=ed.kids++[k]}):=by
    unfold ym;dsimp only;rw[hd];dsimp only;rw[gv ⟨J,gL _,by omega⟩,Xg]
   refine⟨_,W,?_⟩;have D:iD (k::ks)=iD ks:=by
    cases k with
    |el j=>grind
    |tx j=>rfl
    |cm j=>rfl
    |dt j=>rfl
   rw[D]at hn hnd;have⟨σ',H,A⟩:=Gc ks (σ:=σ.gS d {ed with kids:=ed.kids++[k]}) (d:=d) (ed:={ed with kids:=ed.kids++[k]}) (Ab.iR I) (λx hx=>by rw[Ab.lx F];grind) hn hnd (by grind);refine⟨σ',H,A.eq,by rw[A.len,Ab.oa],by rw[A.dst];simp,?_,λx=>by rw[A.kid,Ab.lx F],?_⟩
   .intro i N;rw[A.oth i N,D,Ab.iG N]
   .have w1:=sJ (e':={ed with kids:=ed.kids++[k]}) hd;have w2:=A.wt;grind
  cases k with
  |tx j=>
   have⟨l,e1,σ',e2,e3⟩:=G (.tx j) (λ_ h=>by cases h) rfl;rw[show Fl (d,ed.kids.length) (.tx j) σ= .ok () l from e1];grind
  |cm j=>
   have⟨l,e1,σ',e2,e3⟩:=G (.cm j) (λ_ h=>by cases h) rfl;rw[show Fl (d,ed.kids.length) (.cm j) σ= .ok () l from e1];grind
  |dt j=>
   have⟨l,e1,σ',e2,e3⟩:=G (.dt j) (λ_ h=>by cases h) rfl;rw[show Fl (d,ed.kids.length) (.dt j) σ= .ok () l from e1];grind
  |el j=>
   have B:j≠d:=by rintro rfl;exact hn (kK ..)
   have⟨ej,hej⟩:=Option.isSome_iff_exists.1 (show(σ.gV j).isSome=true from J);have a0:=Ab.gW hej;obtain⟨l,q⟩:∃l,l=(σ.gS d {ed with kids:=ed.kids++[.el j]}).gS j {ej with je:=some d}:=⟨_,rfl⟩;have W:Fl (d,ed.kids.length) (.el j) σ= .ok () l:=by
    show mL (d,ed.kids.length) j σ=_;unfold mL;dsimp only;rw[hd,hej];dsimp only;rw[gv ⟨B,gL _,by omega⟩,Xg,q]
   rw[W];dsimp only;have U:((σ.gS d {ed with kids:=ed.kids++[.el j]}).gV j).isSome=true:=by rw[Ab.iG B,hej];rfl
   have gk:∀k,l.jk k=σ.jk k:=λk=>by rw[q,Ab.lx U,Ab.lx F]
   have Z:l.gV d=some {ed with kids:=ed.kids++[.el j]}:=by rw[q,Ab.iG (wB B),Ab.iR I]
   have gj:l.gV j=some {ej with je:=some d}:=by rw[q,Ab.iR (by grind[Ab.gS])]
   have go:∀i,i≠d->i≠j->l.gV i=σ.gV i:=λi H A=>by rw[q,Ab.iG A,Ab.iG H]
   have V:d∉iD ks:=λh=>hn (nc _ h);have K:=List.nodup_cons.1 (show(j::iD ks).Nodup from hnd);have⟨σ',H,A⟩:=Gc ks (σ:=l) (d:=d) (ed:={ed with kids:=ed.kids++[.el j]}) Z (λx hx=>by grind) V K.2 (by grind);refine⟨σ',H,?_,by rw[A.len,q,Ab.oa,Ab.oa],by rw[A.dst];simp,?_,λx=>by rw[A.kid,gk],?_⟩
   .have:=A.eq;rwa [q]at this
   .intro i N;rw[A.oth i N];grind[iD]
   .have w1:=sJ (e':={ed with kids:=ed.kids++[.el j]}) hd;have w2:=sJ (σ:=σ.gS d {ed with kids:=ed.kids++[.el j]}) (e':={ej with je:=some d}) (by rw[Ab.iG B];exact hej);have w3:=A.wt;grind
theorem jx.hand (h:jx r σ) {d : Nat} {l ed : yp} (F:σ.gV b=some l) (hd:σ.gV d=some ed) (W:b≠d) (a3:ed.kids=[]) (a4:ed.je=none) (hr:∀k∈iD l.kids,r d < r k) (hw:wt σ < 999999):
  ∃σ',handOver b d σ= .ok () σ'/\jx r σ'/\Fx σ σ'/\wt σ'=wt σ/\σ'.gq=σ.gq/\σ'.act=σ.act/\σ'.fresh=σ.fresh/\σ'.nodes.length=σ.nodes.length/\σ'.gV b=some {l with kids:=[]}/\σ'.gV d=some {ed with kids:=l.kids}:=by
 have a7:=Ab.gW F;have aa:d∉iD l.kids:=by
  intro hm;have⟨e2,h1,h2⟩:=h.oA.dn b l d F hm;rw[hd]at h1;cases h1;rw[a4]at h2;cases h2
 have a8:b∉iD l.kids:=by
  intro hm;have⟨e2,h1,h2⟩:=h.oA.dn b l b F hm;have:=h.ur.je b e2 b h1 h2;omega
 have ak:=Jc F;have⟨σ1,h1,h2⟩:=Gc l.kids hd (h.oA.kd b l F) aa (h.oA.nd b l F) (by grind);have V:σ1.gV b=some l:=by rw[h2.oth b W,gH a8];exact F
 have a9:σ1.gV d=some {ed with kids:=l.kids}:=by rw[h2.dst,a3];simp
 obtain⟨σ',D⟩:∃σ',σ'=σ1.gS b {l with kids:=[]}:=⟨_,rfl⟩;have hq:handOver b d σ= .ok () σ':=by
  unfold handOver;rw[F];dsimp only;rw[gH W];change M.bind (yi d l.kids) (λ_ σ'=>match σ'.gV b with|some eb'=> .ok () (σ'.gS b {eb' with kids:=[]})|none=> .stuck) σ=_
  unfold M.bind;rw[h1];dsimp only;rw[V,D]
 have a1:(σ1.gV b).isSome=true:=by rw[V];rfl
 have gb:σ'.gV b=some {l with kids:=[]}:=by rw[D,Ab.iR (by rw[h2.len];exact a7)]
 have gd:σ'.gV d=some {ed with kids:=l.kids}:=by rw[D,Ab.iG (wB W)];exact a9
 have go:∀i,i≠d->i≠b->σ'.gV i=if i∈iD l.kids then (σ.gV i).map (λe=>{e with je:=some d})else σ.gV i:=λi q G=>by rw[D,Ab.iG G,h2.oth i q]
 have gk:∀k,σ'.jk k=σ.jk k:=λk=>by rw[D,Ab.lx a1,h2.kid]
 have A:σ'={σ with nodes:=σ'.nodes}:=by
  rw[D];have:=h2.eq;show({σ1 with nodes:=_}:Ab)=_;rw[this];rfl
 have B:∀i K,σ'.gV i=some K->(i=b/\K={l with kids:=[]})\/(i=d/\K={ed with kids:=l.kids})\/(i≠b/\i≠d/\i∈iD l.kids/\∃e,σ.gV i=some e/\K={e with je:=some d})\/(i≠b/\i≠d/\i∉iD l.kids/\σ.gV i=some K):=by
  intro i K I;by_cases q:i=b
  .grind
  .by_cases G:i=d
   .grind
   .rw[go i G q]at I;by_cases J:i∈iD l.kids
    .rw[gv J]at I;have⟨e,h5,h6⟩:=Option.map_eq_some_iff.1 I;grind
    grind
 have ah:∀i e,σ.gV i=some e->∃K,σ'.gV i=some K/\K.name=e.name:=by
  intro i e I;by_cases q:i=b
  .grind
  .grind
 have O:∀i s,iV σ i s->iV σ' i s:=λi s ⟨e,I,hn⟩=>by
  grind[iV]
 have ae:∀i e p,σ.gV i=some e->e.je=some p->i∉iD l.kids->∃U,σ'.gV p=some U/\i∈iD U.kids:=by
  intro i e p I hp ag;have⟨U,h5,h6⟩:=h.oA.up i e p I hp;have a5:p≠b:=by rintro rfl;rw[F]at h5;cases h5;exact ag h6
  have a6:p≠d:=by rintro rfl;rw[hd]at h5;cases h5;rw[a3]at h6;cases h6
  rw[go p a6 a5];by_cases J:p∈iD l.kids
  .grind
  .grind
 have ai:∀i e p,σ.gV i=some e->i≠b->i≠d->p∈iD e.kids->∃U,σ'.gV p=some U/\U.je=some i:=by
  intro i e p I ac aj hm;have⟨U,h5,h6⟩:=h.oA.dn i e p I hm;have a6:p≠d:=by rintro rfl;rw[hd]at h5;cases h5;rw[a4]at h6;cases h6
  have al:p∉iD l.kids:=by
   intro af;have⟨e3,h7,h8⟩:=h.oA.dn b l p F af;rw[h5]at h7;cases h7;rw[h6]at h8;exact ac (jv h8)
  by_cases a5:p=b
  .grind
  .grind
 have ho:σ'.gq=σ.gq:=by rw[A]
 have a0:σ'.act=σ.act:=by rw[A]
 have a2:σ'.head=σ.head:=by rw[A]
 have ab:σ'.form=σ.form:=by rw[A]
 refine⟨σ',hq,⟨⟨?_,?_,?_,?_⟩,⟨?_,?_,?_⟩,?_,?_,?_,?_,?_,?_,?_,?_,?_,?_⟩,?_,?_,ho,a0,by rw[A],?_,gb,gd⟩
 .grind
 .intro i e j N hj;rcases B i e N with⟨q,rfl⟩|⟨q,rfl⟩|⟨q,G,J,Z,H,rfl⟩|⟨q,G,J,H⟩
  .cases hj
  .rw[q];have ad:j∈iD l.kids:=hj;have⟨ej,h5,_⟩:=h.oA.dn b l j F ad;grind
  all_goals grind
 .intro i e N;rcases B i e N with⟨q,rfl⟩|⟨q,rfl⟩|⟨q,G,J,Z,H,rfl⟩|⟨q,G,J,H⟩
  .simp[iD]
  .show(iD l.kids).Nodup;exact h.oA.nd b l F
  .show(iD Z.kids).Nodup;exact h.oA.nd i Z H
  .exact h.oA.nd i e H
 .intro i e N k hk;rw[gk];rcases B i e N with⟨q,rfl⟩|⟨q,rfl⟩|⟨q,G,J,Z,H,rfl⟩|⟨q,G,J,H⟩
  .cases hk
  .exact h.oA.kd b l F k hk
  .exact h.oA.kd i Z H k hk
  .exact h.oA.kd i e H k hk
 .intro i e p N hp;rcases B i e N with⟨q,rfl⟩|⟨q,rfl⟩|⟨q,G,J,Z,H,rfl⟩|⟨q,G,J,H⟩
  .rw[q];exact h.ur.je b l p F hp
  .grind
  .grind
  .exact h.ur.je i e p H hp
 .rw[ho];exact h.ur.gq
 .rw[ho,a2];exact h.ur.hd
 .rw[ho];intro x Y;obtain⟨i,e,rfl,I⟩:=kT (h.gq x Y);grind[Ab.mW]
 .rw[a0];intro i N;have⟨e,I,hf⟩:=h.act i N;grind
 .rw[a2];exact λx Y=>O _ _ (h.head x Y)
 .rw[ab];exact λx Y=>O _ _ (h.form x Y)
 .rw[ho];intro x rest Y;have⟨z,q,G⟩:=h.Mc x rest Y;grind
 .rw[A];exact h.x7
 .rw[A];exact h.AB
 .rw[A];exact h.QE
 .rw[A];exact h.Ui
 .have⟨e,I⟩:=Option.isSome_iff_exists.1 h.ye;grind
 .rw[A]at O|-;exact⟨rfl,rfl,rfl,rfl,rfl,rfl,rfl,rfl,rfl,rfl,rfl,O,λ_=>rfl⟩
 .have w1:=h2.wt;have w2:=sJ (e':={l with kids:=[]}) V;grind
 .rw[D,Ab.oa];exact h2.len
end
end Go.Proofs.YthcohfdidcdchaaGreatDoor
