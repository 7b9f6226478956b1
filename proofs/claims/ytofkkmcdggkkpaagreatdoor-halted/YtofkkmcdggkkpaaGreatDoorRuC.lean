import Derived.Test.YtofkkmcdggkkpaaGreatDoorKept
import Derived.Deep.MidRow
import Derived.Laws.EntriesVeiled
import Derived.Great.BuildSlice
set_option linter.unusedSimpArgs false
set_option linter.unusedVariables false
set_option linter.defProp false
set_option maxHeartbeats 0
set_option maxRecDepth 100000
namespace Go.Proofs.YtofkkmcdggkkpaaGreatDoor
open Go.RowKit Tryz
def Gs:=@List.nodup_cons
def zG:=@Array.getElem?_setIfInBounds
def jA:=@List.setIfInBounds_toArray
def jB:=@List.set_cons_zero
def jC:=@List.set_cons_succ
def BK:=@List.length_map
def UY:=@List.map_reverse
def ZS:=@List.dropWhile_sublist
def RE:=@List.map_map
def UZ:=@Function.comp_def
def AK:=@List.mem_of_mem_erase
def ZT:=@List.getElem?_eq_none
def U0:=@List.map_congr_left
def nh:=@Nat.le_of_eq
section
variable {C args c : jO} {R : List (List gz×Ru)} {S : List Nat} {T : List TypeId} {X : Nat->Prop} {av kv v v0 v1 v2 v3 v4 v5 v6 v7 v8 v9 : gP} {b bB bD base bm bs g i j k n s : Nat} {cw cw' w w' : gw} {e : zp} {f : Nat->Nat} {m : Nat×Nat} {ms : List (Nat×List (List gz×Ru))} {p : gz->Bool} {r : Ru} {rs : List (Ru×gP)} {t : TypeId} {x y : jg} {xs : List gP} {zs : kO} {σ σ' : Ab}
structure mx where
 blank:Ru:= .nil
 ke:Ru:= .nil
 gS:Ru:= .nil
 iN:Ru:= .nil
 io:Ru:= .nil
 start:Option (List (List gz×Ru)):=none
 stop:Option (List (List gz×Ru)):=none
 jU:Ru:= .nil
 ku:Ru:= .nil
 iE:Ru:= .nil
variable {sp : mx}
def rB (bm bB bD:Nat):Option (List (List gz×Ru))->gP->gw->Prop
 |none,v,_=>v= .map none
 |some R,v,w=>∃b,IsMap bm bB bD b R v w
theorem IsMap.lt (h:IsMap bm bB bD b R v w):b < w.heap.size:=by
 have⟨es,ck,ha⟩:=h.at
 grind
def rB.im {R : Option (List (List gz×Ru))} (h:rB bm bB bD R v w) (d:Kept [] w w'):rB bm bB bD R v w':=by
 cases R with
 |none=>exact h
 |some R=>
  have⟨b,hm⟩:=h;exact⟨b,hm.fr (.gZ d) (d.block b hm.lt (by simp))⟩
structure kL (bm bB bD:Nat) (sp:mx) (v0 v1 v2 v3 v4 v5 v6 v7 v8 v9:gP) (w:gw):Prop where
 blank:ny bm bB bD sp.blank v0 w
 ke:ny bm bB bD sp.ke v1 w
 gS:ny bm bB bD sp.gS v2 w
 iN:ny bm bB bD sp.iN v3 w
 io:ny bm bB bD sp.io v4 w
 start:rB bm bB bD sp.start v5 w
 stop:rB bm bB bD sp.stop v6 w
 jU:ny bm bB bD sp.jU v7 w
 ku:ny bm bB bD sp.ku v8 w
 iE:ny bm bB bD sp.iE v9 w
def kL.im (h:kL bm bB bD sp v0 v1 v2 v3 v4 v5 v6 v7 v8 v9 w) (d:Kept [] w w'):kL bm bB bD sp v0 v1 v2 v3 v4 v5 v6 v7 v8 v9 w':=
 have f:vS bm w w':= .gZ d
 ⟨h.blank.fr f,h.ke.fr f,h.gS.fr f,h.iN.fr f,h.io.fr f,h.start.im d,h.stop.im d,h.jU.fr f,h.ku.fr f,h.iE.fr f⟩
def jP (bm bB bD:Nat) (sp:mx) (w:gw) (e:Ending) (w':gw):Prop:=
 ∃v0 v1 v2 v3 v4 v5 v6 v7 v8 v9,e=ir (.agg #[v0,v1,v2,v3,v4,v5,v6,v7,v8,v9])/\kL bm bB bD sp v0 v1 v2 v3 v4 v5 v6 v7 v8 v9 w'/\Kept [] w w'
def BD (bB bD:Nat) (w:gw):Prop:=w.cell? ⟨bB,187,none⟩=some (iC bD)/\bB < w.heap.size
def BD.im (h:BD bB bD w) (d:Kept [] w w'):BD bB bD w':=⟨(d.cell (p:=⟨bB,187,none⟩) h.2 (by simp)).trans h.1,lU h.2 d.size⟩
abbrev uh:jO:=#[.nilFunc,.nilFunc,.nilFunc,.nilFunc,.nilFunc,.map none,.map none,.nilFunc,.nilFunc,.nilFunc]
def sy (w:gw) (o:Obj):∃W,W=w.alloc o/\Kept [] w W/\W.heap[w.heap.size]?=some o/\W.heap.size=w.heap.size+1:=⟨_,rfl,(Kept.refl _ _).alloc _,fZ w _,by simp⟩
theorem rB.I0 {R : Option (List (List gz×Ru))} (h:rB bm bB bD R v w) (l:Kept [s] w w') (q:w.heap[s]?=some (gJ c t)) (f:vS bm w w'):rB bm bB bD R v w':=by
 cases R with
 |none=>exact h
 |some R=>
  have⟨b,hb⟩:=h;refine⟨b,hb.fr f (l.block b hb.lt ?_)⟩;intro d;have e:=List.mem_singleton.1 d;have⟨es,ck,ha⟩:=hb.at
  grind
def kL.I0 (h:kL bm bB bD sp v0 v1 v2 v3 v4 v5 v6 v7 v8 v9 w) (d:Kept [s] w w') (q:w.heap[s]?=some (gJ c 147)):kL bm bB bD sp v0 v1 v2 v3 v4 v5 v6 v7 v8 v9 w':=
 have f:vS bm w w':=⟨_,d,λk l _=>by
  have e:=List.mem_singleton.1 l;subst e;exact .inl ⟨_,_,_,q,by decide⟩⟩
 ⟨h.blank.fr f,h.ke.fr f,h.gS.fr f,h.iN.fr f,h.io.fr f,h.start.I0 d q f,h.stop.I0 d q f,h.jU.fr f,h.ku.fr f,h.iE.fr f⟩
def Qq (v0 v1 v2 v3 v4 v5 v6 v7 v8 v9:gP):jW uh 0 [v0,v1,v2,v3,v4,v5,v6,v7,v8,v9]=#[v0,v1,v2,v3,v4,v5,v6,v7,v8,v9]:=by
 simp[jW]
def kx (h:w.heap[s]?=some (gJ uh 147)):w.cell? ⟨s,0,none⟩=some .nilFunc/\w.cell? ⟨s,1,none⟩=some .nilFunc/\w.cell? ⟨s,2,none⟩=some .nilFunc/\w.cell? ⟨s,3,none⟩=some .nilFunc/\w.cell? ⟨s,4,none⟩=some .nilFunc/\w.cell? ⟨s,5,none⟩=some (.map none)/\w.cell? ⟨s,6,none⟩=some (.map none)/\w.cell? ⟨s,7,none⟩=some .nilFunc/\w.cell? ⟨s,8,none⟩=some .nilFunc/\w.cell? ⟨s,9,none⟩=some .nilFunc:=by
 simp only[fX h];simp
def jz {w1 : gw} (h:w1.heap[w.heap.size]?=some (gJ uh 147)) (A:Kept [] w w1) (B:kL bm bB bD sp v0 v1 v2 v3 v4 v5 v6 v7 v8 v9 w1) (W:gw) (d:W=w1.setCells w.heap.size 0 [v0,v1,v2,v3,v4,v5,v6,v7,v8,v9]):
  W.heap[w.heap.size]?=some (gJ #[v0,v1,v2,v3,v4,v5,v6,v7,v8,v9] 147)/\kL bm bB bD sp v0 v1 v2 v3 v4 v5 v6 v7 v8 v9 W/\Kept [] w W:=by
 have z:=nF [v0,v1,v2,v3,v4,v5,v6,v7,v8,v9] w1 w.heap.size uh _ _ 0 h;have l:Kept [w.heap.size] w1 W:=by rw[d];exact Kept.setCells (.inl (by simp)) _ _ (Kept.refl _ _)
 have q:Kept [] w W:=by rw[d];exact Kept.setCells (.inr (ij _)) _ _ A
 rw[Qq,<-d]at z;exact⟨z,B.I0 l h,q⟩
def kB {t : Nat} {l:Func} {a : Act} {W : gw} (d:l.results=#[.cell t 147]) (B:a.tmps.getD t undef=gL w.heap.size) (z:a.defers=[])
  (A:W.heap[w.heap.size]?=some (gJ #[v0,v1,v2,v3,v4,v5,v6,v7,v8,v9] 147)/\kL bm bB bD sp v0 v1 v2 v3 v4 v5 v6 v7 v8 v9 W/\Kept [] w W):bodyPost prog l (jP bm bB bD sp w) .ret a W:=by
 have⟨hg,hr,hk⟩:=A;refine qe (v:= .agg #[v0,v1,v2,v3,v4,v5,v6,v7,v8,v9]) ?_ z ⟨_,_,_,_,_,_,_,_,_,_,rfl,hr,hk⟩;have q:=fX hg;have h:a.tmps[t]?.getD undef=gL w.heap.size:=by simpa using B
 simp only[results,d];simp[h,asAddr,Result.andThen,go_sem,q]
def Wr (bm bB bD:Nat) (w:gw) (A:BD bB bD w) (F:xN w) (B:bm < w.heap.size):
  Calls prog 50 #[iC bB] w (jP bm bB bD {blank:= .nothing,gS:= .gS 81 false,iN:= .ig 82,iE:= .ig 83} w):=by
 have D:=@run_makeMap prog;have⟨W0,HW0,HK0,HG0,HZ0⟩:=sy w (gJ uh 147);have⟨xv,hBl⟩:=A;go_enter func50,ntmps50
 go_wp21
 refine(ou bm bB bD 81 false _).mono ?_;rintro e w1 ⟨⟨G,rfl,h⟩,l⟩;have⟨f1,a1,l1,hv1⟩:=h.func (by simp);subst hv1;have q:=fW h;have z:Kept [] w w1:=(HW0▸HK0).trans l;have d:=l.at (HW0▸HG0) (by simp);have HS:=fW (jz (v0:= .func (.func 79) #[] #[]) (v1:= .nilFunc) (v2:= .func f1 a1 l1) (v3:= .func (.func 82) #[iC bB] #[]) (v4:= .nilFunc) (v5:= .map none) (v6:= .map none) (v7:= .nilFunc) (v8:= .nilFunc) (v9:= .func (.func 83) #[iC bB] #[])
  (sp:={blank:= .nothing,gS:= .gS 81 false,iN:= .ig 82,iE:= .ig 83}) d z ⟨rfl,rfl,q,rfl,rfl,rfl,rfl,rfl,rfl,rfl⟩ _ rfl)
 clear h;have⟨q0,q1,q2,q3,q4,q5,q6,q7,q8,q9⟩:=kx d;have u:=gG d;go_wp2;exact kB results50 rfl rfl HS
structure St (bm bB bD:Nat) (w cw:gw) (rs:List (Ru×gP)) (ms:List (Nat×List (List gz×Ru))):Prop where
 k:Kept [] w cw
 g:cw.heap[w.heap.size]?=some (gJ uh 147)
 t:xN cw
 lt:bm < w.heap.size
 Xf:∀p∈rs,ny bm bB bD p.1 p.2 cw
 Ek:∀p∈ms,IsMap bm bB bD p.1 p.2 (.map (some p.1)) cw/\w.heap.size<=p.1/\p.1≠bm
 nd:(ms.map (·.1)).Nodup
def St.start (bm bB bD:Nat) (w:gw) (l:xN w) (d:bm < w.heap.size):∃W,W=w.alloc (gJ uh 147)/\St bm bB bD w W [] []:=
 ⟨_,rfl,(Kept.refl _ _).alloc _,fZ w _,l.fr (bm:=bm) (.gZ ((Kept.refl _ _).alloc _)),d,(λ_ h=>(by cases h)),(λ_ h=>(by cases h)),(by simp)⟩
def St.zZ (s:St bm bB bD w cw rs ms) (h:Kept [] cw cw'):St bm bB bD w cw' rs ms:=
 have f:vS bm cw cw':= .gZ h
 ⟨s.k.trans h,h.at s.g (by simp),s.t.fr f,s.lt,λp d=>(s.Xf p d).fr f,λp d=>⟨(s.Ek p d).1.fr f (h.block _ (s.Ek p d).1.lt (by simp)),(s.Ek p d).2⟩,s.nd⟩
def St.call (s:St bm bB bD w cw rs ms) (l:Kept [] cw cw') (q:ny bm bB bD r v cw'):St bm bB bD w cw' ((r,v)::rs) ms:=
 have d:=s.zZ l
 ⟨d.k,d.g,d.t,d.lt,λp h=>by
  rcases List.mem_cons.1 h with rfl|h
  .exact q
  .exact d.Xf p h,d.Ek,d.nd⟩
def St.map (s:St bm bB bD w cw rs ms):∃W b,W=cw.alloc (.map #[] 0)/\b=cw.heap.size/\St bm bB bD w W rs ((b,[])::ms):=by
 have l:Kept [] cw (cw.alloc (.map #[] 0)):=(Kept.refl _ _).alloc _;have d:=s.zZ l;refine⟨_,_,rfl,rfl,d.k,d.g,d.t,d.lt,d.Xf,λp h=>?_,?_⟩
 .rcases List.mem_cons.1 h with rfl|h
  .exact⟨Uk bm bB bD cw,s.k.size,by have:=s.k.size;have:=s.lt;omega⟩
  .exact d.Ek p h
 .rw[yy,Gs];refine⟨λq=>?_,s.nd⟩;have⟨p,h,e⟩:=List.mem_map.1 q;have:=(s.Ek p h).1.lt;omega
theorem St.on {B : List (List gz×Ru)} (s:St bm bB bD w cw rs ((b,R)::ms)) (z:Kept [b] cw cw') (q:vS bm cw cw') (G:IsMap bm bB bD b B (.map (some b)) cw'):St bm bB bD w cw' rs ((b,B)::ms):=by
 have D:=s.Ek (b,R) (by simp);have A:=s.nd;rw[yy,Gs]at A;refine⟨s.k.next z (λx H=> .inr (by grind)),z.at s.g ?_,s.t.fr q,s.lt,λp h=>(s.Xf p h).fr q,λp h=>?_,s.nd⟩
 .intro d;have e:=List.mem_singleton.1 d;have⟨es,ck,ha⟩:=D.1.at;have F:=s.g
  grind
 .rcases List.mem_cons.1 h with rfl|h
  .grind
  .have l:=s.Ek p (oX _ h);refine⟨l.1.fr q (z.block _ l.1.lt λd=>?_),l.2⟩
   grind
def St.at (s:St bm bB bD w cw rs ms) (h:(r,v)∈rs):ny bm bB bD r v cw:=s.Xf (r,v) h
def St.oM (s:St bm bB bD w cw rs ms) (h:(b,R)∈ms):rB bm bB bD (some R) (.map (some b)) cw:=⟨b,(s.Ek (b,R) h).1⟩
def St.nE (S:St bm bB bD w cw rs ((b,R)::ms)) (s:gz) (ks:List gz) (r:Ru) (B:pT s=true) (d:words s=ks) (D:ny bm bB bD r v cw):
  Calls prog 84 #[.map (some b),gI s,v] cw λe w'=>e=ir (.map (some b))/\St bm bB bD w w' rs ((b,(ks,r)::R)::ms):=by
 have h:=S.Ek (b,R) (pP ..);refine(SP bm bB bD b s ks r R v cw B d S.t h.1 h.2.2 D).mono ?_;rintro e w' ⟨l,q,z,A⟩;exact⟨l,S.on z A q⟩
def St.made (S:St bm bB bD w cw rs ms) {f : Nat} (C:Calls prog f args cw (zr bm bB bD r cw)) (q:r≠ .nil):
  Calls prog f args cw λe w'=>∃f a l,e=ir (.func f a l)/\St bm bB bD w w' ((r,.func f a l)::rs) ms:=by
 refine C.mono ?_;rintro e w' ⟨⟨x,rfl,d⟩,h⟩;obtain⟨f,a,l,rfl⟩:=d.func q;exact⟨f,a,l,rfl,S.call h d⟩
def St.Vm (S:St bm bB bD w cw rs ms) {f : Nat} (C:Calls prog f args cw λe w'=>(∃v,e=ir v/\Ask bm v p w')/\Kept [] cw w'):
  Calls prog f args cw λe w'=>∃f a l,e=ir (.func f a l)/\Ask bm (.func f a l) p w'/\St bm bB bD w w' rs ms:=by
 refine C.mono ?_;rintro e w' ⟨⟨x,rfl,d⟩,h⟩;obtain⟨f,a,l,rfl⟩:=d.func;exact⟨f,a,l,rfl,d,S.zZ h⟩
theorem A9 (bm:Nat) (w:gw):Calls prog 110 #[] w λe w'=>(∃v,e=ir v/\Ask bm v (ik [gg]) w')/\Kept [] w w':=by
 have⟨W,hW,HK,g,z⟩:=sy w (gJ #[gI gg] 9);have C:=NA bm w.heap.size 1 [gg] W g (by decide);have q:=fW hW;clear hW;go_enter func110,ntmps110
 go_wp21
 rw[<-q.out];refine C.mono ?_;rintro e w' ⟨⟨v,rfl,d⟩,A⟩;have B:=d;have h:=HK.trans A;have⟨f,a,l,hv⟩:=d.func;subst hv;go_wp2;go_ret
 simp_all
theorem zE (bm:Nat) (w:gw):Calls prog 122 #[] w λe w'=>(∃v,e=ir v/\Ask bm v (ik [gq,gr,gu]) w')/\Kept [] w w':=by
 have⟨W,hW,HK,g,z⟩:=sy w (gJ #[gI gq,gI gr,gI gu] 9);have C:=NA bm w.heap.size 3 [gq,gr,gu] W g (by decide);have q:=fW hW;clear hW;go_enter func122,ntmps122
 go_wp21
 rw[<-q.out];refine C.mono ?_;rintro e w' ⟨⟨v,rfl,d⟩,A⟩;have B:=d;have h:=HK.trans A;have⟨f,a,l,hv⟩:=d.func;subst hv;go_wp2;go_ret
 simp_all
def nw (d:Nat) (own:Bool):mx:={blank:= .pq 6,gS:= .gS d own,iN:= .nothing,io:= .nothing,start:=some [([fY],(.pq 6))],iE:= .ig 228}
def QK (bm bB bD h l:Nat) (own:Bool) (w:gw) (d:l=if own then bB else bD):Calls prog 80 #[iC bB,.func (.func h) #[iC l] #[]] w (zr bm bB bD (.gS h own) w):=by
 rw[d];exact ou bm bB bD h own w
def DZ (bm bB bD q I:Nat) (own:Bool) (l:I=if own then bB else bD) (w:gw) (V:BD bB bD w) (Y:xN w) (H:bm < w.heap.size):
  Calls prog 135 #[iC bB,.func (.func q) #[iC I] #[]] w (jP bm bB bD (nw q own) w):=by
 have W:=@run_makeMap prog;have A:=fW l;clear l;have⟨W0,hW0,HS0⟩:=St.start bm bB bD w Y H;have⟨xv,hBl⟩:=V;have F:=fW hW0;clear hW0;go_enter func135,ntmps135
 go_wp21
 rw[<-F.out];refine(HS0.made (py bm bB bD 6 _) nofun).mono ?_;rintro e W1 ⟨O,K,Z,rfl,B⟩
 go_wp21
 refine(B.made (QK bm bB bD q I own _ A) nofun).mono ?_;rintro e W2 ⟨U,N,l2,rfl,D⟩;have⟨W3,b1,hW3,hb1,HS3⟩:=D.map;have G:=fW hW3;have z:=fW hb1;clear hW3 hb1
 go_wp21
 rw[<-G.out,<-z.out];refine(HS3.made (py bm bB bD 6 _) nofun).mono ?_;rintro e W4 ⟨f4,a4,l4,rfl,h⟩
 go_wp21
 refine(h.nE _ [fY] (.pq 6) (by rfl) (by rfl) (h.at (by simp))).mono ?_;rintro e W5 ⟨rfl,d⟩;have J:=jz (sp:=nw q own) (v0:= .func O K Z) (v1:= .nilFunc) (v2:= .func U N l2) (v3:= .func (.func 79) #[] #[]) (v4:= .func (.func 79) #[] #[]) (v5:= .map (some b1)) (v6:= .map none) (v7:= .nilFunc) (v8:= .nilFunc) (v9:= .func (.func 228) #[iC bB] #[]) d.g d.k ⟨(d.at (r:= .pq 6) (by simp)),rfl,(d.at (r:= .gS q own) (by simp)),rfl,rfl,(d.oM (by simp)),rfl,rfl,rfl,rfl⟩ _ rfl;have⟨q0,q1,q2,q3,q4,q5,q6,q7,q8,q9⟩:=kx d.g;have u:=gG d.g;go_wp2;exact kB results135 rfl rfl J
def FG {D : Nat} {own : Bool} (h:kL bm bB bD (nw D own) v0 v1 v2 v3 v4 v5 v6 v7 v8 v9 w):∃q d A z l B b5,v0= .func q d A/\v1= .nilFunc/\v2= .func z l B/\v3= .func (.func 79) #[] #[]/\v4= .func (.func 79) #[] #[]/\v5= .map (some b5)/\v6= .map none/\v7= .nilFunc/\v8= .nilFunc/\v9= .func (.func 228) #[iC bB] #[]:=by
 have⟨q,d,A,e0⟩:=h.blank.func (by simp[nw]);have⟨z,l,B,e2⟩:=h.gS.func (by simp[nw]);have⟨b5,L,e5,_⟩:=h.start;exact⟨q,d,A,z,l,B,b5,e0,h.ke,e2,h.iN,h.io,e5,h.stop,h.jU,h.ku,h.iE⟩
def EZ (bm bB bD:Nat) (w:gw) (q:BD bB bD w) (F:xN w) (l:bm < w.heap.size):
  Calls prog 67 #[iC bB] w (jP bm bB bD (nw 81 false) w):=by
 have⟨W0,hW0,HS0⟩:=St.start bm bB bD w F l;have A:=q;have⟨xv,hBl⟩:=q;have h:=fW hW0;clear hW0;go_enter func67,ntmps67
 go_wp21
 rw[<-h.out];refine(DZ bm bB bD 81 bD false rfl _ (A.im HS0.k) HS0.t (lU HS0.lt HS0.k.size)).mono ?_;rintro e G ⟨v0,v1,v2,v3,v4,v5,v6,v7,v8,v9,rfl,z,D⟩;obtain⟨J,H,N,K,I,O,b5,rfl,rfl,rfl,rfl,rfl,rfl,rfl,rfl,rfl,rfl⟩:=FG z;have d:=HS0.zZ D;have B:=jz d.g d.k z _ rfl;have⟨q0,q1,q2,q3,q4,q5,q6,q7,q8,q9⟩:=kx d.g;have u:=gG d.g;go_wp2;exact kB results67 rfl rfl B
structure C8 (bm bB bD:Nat) (w cw:gw) (rs:List (Ru×gP)) (ms:List (Nat×List (List gz×Ru))):Prop where
 k:Kept [] w cw
 t:xN cw
 lt:bm < w.heap.size
 Xf:∀p∈rs,ny bm bB bD p.1 p.2 cw
 Ek:∀p∈ms,IsMap bm bB bD p.1 p.2 (.map (some p.1)) cw/\w.heap.size<=p.1/\p.1≠bm
 nd:(ms.map (·.1)).Nodup
def C8.start (bm bB bD:Nat) (w:gw) (l:xN w) (d:bm < w.heap.size):C8 bm bB bD w w [] []:=
 ⟨Kept.refl _ _,l,d,(λ_ h=>(by cases h)),(λ_ h=>(by cases h)),(by simp)⟩
def C8.zZ (s:C8 bm bB bD w cw rs ms) (h:Kept [] cw cw'):C8 bm bB bD w cw' rs ms:=
 have f:vS bm cw cw':= .gZ h
 ⟨s.k.trans h,s.t.fr f,s.lt,λp d=>(s.Xf p d).fr f,λp d=>⟨(s.Ek p d).1.fr f (h.block _ (s.Ek p d).1.lt (by simp)),(s.Ek p d).2⟩,s.nd⟩
def C8.call (s:C8 bm bB bD w cw rs ms) (l:Kept [] cw cw') (q:ny bm bB bD r v cw'):C8 bm bB bD w cw' ((r,v)::rs) ms:=
 have d:=s.zZ l
 ⟨d.k,d.t,d.lt,λp h=>by
  rcases List.mem_cons.1 h with rfl|h
  .exact q
  .exact d.Xf p h,d.Ek,d.nd⟩
def C8.map (s:C8 bm bB bD w cw rs ms):∃W b,W=cw.alloc (.map #[] 0)/\b=cw.heap.size/\C8 bm bB bD w W rs ((b,[])::ms):=by
 have l:Kept [] cw (cw.alloc (.map #[] 0)):=(Kept.refl _ _).alloc _;have h:=s.zZ l;refine⟨_,_,rfl,rfl,h.k,h.t,h.lt,h.Xf,λp d=>?_,?_⟩
 .rcases List.mem_cons.1 d with rfl|d
  .exact⟨Uk bm bB bD cw,s.k.size,by have:=s.k.size;have:=s.lt;omega⟩
  .exact h.Ek p d
 .rw[yy,Gs];refine⟨λq=>?_,s.nd⟩;have⟨p,d,e⟩:=List.mem_map.1 q;have:=(s.Ek p d).1.lt;omega
theorem C8.on {z : List (List gz×Ru)} (s:C8 bm bB bD w cw rs ((b,R)::ms)) (A:Kept [b] cw cw') (l:vS bm cw cw') (F:IsMap bm bB bD b z (.map (some b)) cw'):C8 bm bB bD w cw' rs ((b,z)::ms):=by
 have D:=s.Ek (b,R) (by simp);have q:=s.nd;rw[yy,Gs]at q;refine⟨s.k.next A (λx G=> .inr (by grind)),s.t.fr l,s.lt,λp d=>(s.Xf p d).fr l,λp d=>?_,s.nd⟩;rcases List.mem_cons.1 d with rfl|d
 .grind
 .have h:=s.Ek p (oX _ d);refine⟨h.1.fr l (A.block _ h.1.lt λB=>?_),h.2⟩
  grind
def C8.at (s:C8 bm bB bD w cw rs ms) (h:(r,v)∈rs):ny bm bB bD r v cw:=s.Xf (r,v) h
def OH (bm bB bD:Nat) (R:List (List gz×Ru)) (w:gw) (e:Ending) (w':gw):Prop:=∃b,e=ir (.map (some b))/\IsMap bm bB bD b R (.map (some b)) w'/\w.heap.size<=b/\b≠bm/\Kept [] w w'
def St.mapOf (s:St bm bB bD w cw rs ms) (A:Kept [] cw cw') (B:IsMap bm bB bD b R (.map (some b)) cw') (z:cw.heap.size<=b) (q:b≠bm):St bm bB bD w cw' rs ((b,R)::ms):=by
 have d:=s.zZ A;refine⟨d.k,d.g,d.t,d.lt,d.Xf,λp l=>?_,?_⟩
 .rcases List.mem_cons.1 l with rfl|l
  .exact⟨B,jN s.k.size z,q⟩
  .exact d.Ek p l
 .rw[yy,Gs];refine⟨λh=>?_,s.nd⟩;have⟨p,l,e⟩:=List.mem_map.1 h;have:=(s.Ek p l).1.lt;omega
def C8.nE (S:C8 bm bB bD w cw rs ((b,R)::ms)) (s:gz) (ks:List gz) (r:Ru) (B:pT s=true) (d:words s=ks) (D:ny bm bB bD r v cw):
  Calls prog 84 #[.map (some b),gI s,v] cw λe w'=>e=ir (.map (some b))/\C8 bm bB bD w w' rs ((b,(ks,r)::R)::ms):=by
 have h:=S.Ek (b,R) (pP ..);refine(SP bm bB bD b s ks r R v cw B d S.t h.1 h.2.2 D).mono ?_;rintro e w' ⟨l,q,z,A⟩;exact⟨l,S.on z A q⟩
def C8.made (S:C8 bm bB bD w cw rs ms) {f : Nat} (C:Calls prog f args cw (zr bm bB bD r cw)) (q:r≠ .nil):
  Calls prog f args cw λe w'=>∃f a l,e=ir (.func f a l)/\C8 bm bB bD w w' ((r,.func f a l)::rs) ms:=by
 refine C.mono ?_;rintro e w' ⟨⟨x,rfl,d⟩,h⟩;obtain⟨f,a,l,rfl⟩:=d.func q;exact⟨f,a,l,rfl,S.call h d⟩
def lY:List (List gz×Ru):=[([gW],(.ig 199)),([tl,Gu,AL,iG],(.ig 198)),([iM],(.ig 197)),([j3],(.ig 196)),([mZ],(.ig 195)),([kK],(.ig 194)),([me,mf],(.ig 193)),([jR,oz,qG,mJ,hU,lA,lB],(.ig 192)),([fY],(.ig 191)),([gE],(.ig 190))]
def Gz (bm bB bD:Nat) (w:gw) (V:xN w) (K:bm < w.heap.size):
  Calls prog 105 #[iC bB] w (OH bm bB bD lY w):=by
 have U:=@run_makeMap prog;have q:=C8.start bm bB bD w V K;go_enter func105,ntmps105;have⟨W1,b1,hW1,hb1,HS1⟩:=q.map;have J:=fW hW1;have l:=fW hb1;clear hW1 hb1
 go_wp21
 rw[<-J.out,<-l.out];refine(HS1.nE _ [gE] (.ig 190) (by rfl) (by rfl) rfl).mono ?_;rintro e W ⟨rfl,z⟩
 go_wp21
 refine(z.nE _ [fY] (.ig 191) (by rfl) (by rfl) rfl).mono ?_;rintro e Y ⟨rfl,A⟩
 go_wp21
 refine(A.nE _ [jR,oz,qG,mJ,hU,lA,lB] (.ig 192) (by rfl) (by rfl) rfl).mono ?_;rintro e W4 ⟨rfl,B⟩
 go_wp21
 refine(B.nE _ [me,mf] (.ig 193) (by rfl) (by rfl) rfl).mono ?_;rintro e Z ⟨rfl,D⟩
 go_wp21
 refine(D.nE _ [kK] (.ig 194) (by rfl) (by rfl) rfl).mono ?_;rintro e W6 ⟨rfl,F⟩
 go_wp21
 refine(F.nE _ [mZ] (.ig 195) (by rfl) (by rfl) rfl).mono ?_;rintro e W7 ⟨rfl,G⟩
 go_wp21
 refine(G.nE _ [j3] (.ig 196) (by rfl) (by rfl) rfl).mono ?_;rintro e W8 ⟨rfl,H⟩
 go_wp21
 refine(H.nE _ [iM] (.ig 197) (by rfl) (by rfl) rfl).mono ?_;rintro e W9 ⟨rfl,I⟩
 go_wp21
 refine(I.nE _ [tl,Gu,AL,iG] (.ig 198) (by rfl) (by rfl) rfl).mono ?_;rintro e N ⟨rfl,h⟩
 go_wp21
 refine(h.nE _ [gW] (.ig 199) (by rfl) (by rfl) rfl).mono ?_;rintro e O ⟨rfl,d⟩;go_wp2;go_ret;exact⟨b1,rfl,(d.Ek (b1,[([gW],(.ig 199)),([tl,Gu,AL,iG],(.ig 198)),([iM],(.ig 197)),([j3],(.ig 196)),([mZ],(.ig 195)),([kK],(.ig 194)),([me,mf],(.ig 193)),([jR,oz,qG,mJ,hU,lA,lB],(.ig 192)),([fY],(.ig 191)),([gE],(.ig 190))]) (by simp)).1,(d.Ek (b1,[([gW],(.ig 199)),([tl,Gu,AL,iG],(.ig 198)),([iM],(.ig 197)),([j3],(.ig 196)),([mZ],(.ig 195)),([kK],(.ig 194)),([me,mf],(.ig 193)),([jR,oz,qG,mJ,hU,lA,lB],(.ig 192)),([fY],(.ig 191)),([gE],(.ig 190))]) (by simp)).2.1,(d.Ek (b1,[([gW],(.ig 199)),([tl,Gu,AL,iG],(.ig 198)),([iM],(.ig 197)),([j3],(.ig 196)),([mZ],(.ig 195)),([kK],(.ig 194)),([me,mf],(.ig 193)),([jR,oz,qG,mJ,hU,lA,lB],(.ig 192)),([fY],(.ig 191)),([gE],(.ig 190))]) (by simp)).2.2,d.k⟩
def vD:mx:={nw 136 true with stop:=some [([fY],.ig 137)]}
theorem Qv (bm bB bD:Nat) (w:gw) (hb:BD bB bD w) (ht:xN w) (G:bm < w.heap.size):
  Calls prog 66 #[iC bB] w (jP bm bB bD vD w):=by
 have a5:=@run_makeMap prog;have⟨W0,hW0,HS0⟩:=St.start bm bB bD w ht G;have HB:=hb;have K:=fW hW0;clear hW0 ht G hb;go_enter func66,ntmps66
 go_wp21
 rw[<-K.out];refine(DZ bm bB bD 136 bB true rfl _ (HB.im HS0.k) HS0.t (lU HS0.lt HS0.k.size)).mono ?_;rintro e h ⟨v0,v1,v2,v3,v4,v5,v6,v7,v8,v9,rfl,hr,hk⟩;obtain⟨Y,V,l0,Z,W,l2,b5,rfl,rfl,rfl,rfl,rfl,rfl,rfl,rfl,rfl,rfl⟩:=FG hr;have F:=HS0.zZ hk;have D:=fW hr;clear hr hk;have⟨W2,hW2,K2,g2,z2⟩:=sy h (gJ #[.func Y V l0,.nilFunc,.func Z W l2,.func (.func 79) #[] #[],.func (.func 79) #[] #[],.map (some b5),.map none,.nilFunc,.nilFunc,.func (.func 228) #[iC bB] #[]] 147);have S2:=F.zZ K2;have⟨W3,b1,hW3,hb1,HS3⟩:=S2.map;have U:Kept [] W2 W3:=by rw[hW3];exact(Kept.refl _ _).alloc _
 have H:=fW (show h.heap.size+1=b1 by omega);have I:=U.at g2 (by simp);have l:=D.im (K2.trans U);have a1:=(show h.heap.size < b1 by omega);have a3:=(show b5 < b1 by
  have⟨b5',hm5⟩:=D.start;have e:b5=b5':=by have⟨L,e,_⟩:=hm5;simpa using e
  have:=hm5.lt;omega)
 have N:=fW hW2;have O:=fW hW3;clear hW2 K2 g2 z2 S2 hW3 hb1 U
 go_wp21
 rw[<-N.out,<-O.out,H.out];refine(SP bm bB bD b1 _ [fY] (.ig 137) [] _ _ (by rfl) (by rfl) HS3.t (HS3.Ek (b1,[]) (by simp)).1 (HS3.Ek (b1,[]) (by simp)).2.2 rfl).mono ?_;rintro e W4 ⟨rfl,B,A,d⟩;have z:=HS3.on A d B;have q:=A.at I (by grind);have J:Hid (kL bm bB bD vD (.func Y V l0) .nilFunc (.func Z W l2) (.func (.func 79) #[] #[]) (.func (.func 79) #[] #[]) (.map (some b5)) (.map (some b1)) .nilFunc .nilFunc (.func (.func 228) #[iC bB] #[]) W4):=by
  refine fW ⟨l.blank.fr d,l.ke.fr d,l.gS.fr d,l.iN.fr d,l.io.fr d,?_,⟨b1,B⟩,l.jU.fr d,l.ku.fr d,l.iE.fr d⟩;have⟨b5',hm5⟩:=l.start;have e:b5=b5':=by have⟨L,e,_⟩:=hm5;simpa using e
  subst e;exact⟨b5,hm5.fr d (A.block b5 hm5.lt (by grind))⟩
 have a4:w.heap.size < h.heap.size:=jn F.g;have HF:=jz (w1:=W4.setCell ⟨h.heap.size,6,none⟩ (.map (some b1))) ((Below.heap_setCell W4 ⟨h.heap.size,6,none⟩ _ w.heap.size (by grind)).trans z.g) (z.k.setCell (p:=⟨h.heap.size,6,none⟩) (.inr (by grind)) _) (J.I0 ((Kept.refl [h.heap.size] W4).setCell (p:=⟨h.heap.size,6,none⟩) (.inl (by simp)) _) q) _ rfl;have a6:w.heap.size≠h.heap.size:=by omega
 clear B A d;have c0:W4.cell? ⟨h.heap.size,0,none⟩=some (.func Y V l0):=(fX q 0).trans rfl;have c1:W4.cell? ⟨h.heap.size,1,none⟩=some .nilFunc:=(fX q 1).trans rfl;have c2:W4.cell? ⟨h.heap.size,2,none⟩=some (.func Z W l2):=(fX q 2).trans rfl;have c3:W4.cell? ⟨h.heap.size,3,none⟩=some (.func (.func 79) #[] #[]):=(fX q 3).trans rfl;have c4:W4.cell? ⟨h.heap.size,4,none⟩=some (.func (.func 79) #[] #[]):=(fX q 4).trans rfl;have c5:W4.cell? ⟨h.heap.size,5,none⟩=some (.map (some b5)):=(fX q 5).trans rfl;have c6:W4.cell? ⟨h.heap.size,6,none⟩=some (.map none):=(fX q 6).trans rfl;have c7:W4.cell? ⟨h.heap.size,7,none⟩=some .nilFunc:=(fX q 7).trans rfl;have c8:W4.cell? ⟨h.heap.size,8,none⟩=some .nilFunc:=(fX q 8).trans rfl;have c9:W4.cell? ⟨h.heap.size,9,none⟩=some (.func (.func 228) #[iC bB] #[]):=(fX q 9).trans rfl;have d6:=gG q 6;clear q;have⟨q0,q1,q2,q3,q4,q5,q6,q7,q8,q9⟩:=kx z.g;have u:=gG z.g;go_wp2;exact kB results66 rfl rfl HF
def wQ (bm:Nat) (v:gP) (p:gz->Bool) (X:Nat->Prop) (w:gw):Prop:=∃E,nR E v p w/\∀e∈E,xL bm w e/\¬X e
theorem wQ.ask (h:wQ bm v p X w):Ask bm v p w:=by
 have⟨E,hA,hE⟩:=h
 grind[Ask]
def wQ.kept (h:wQ bm v p X w) (l:Kept [] w w'):wQ bm v p X w':=by
 have⟨E,hA,hE⟩:=h;exact⟨E,hA.im l,λe d=>⟨(hE e d).1.fr (.gZ l),(hE e d).2⟩⟩
def wQ.other {l : Nat->Prop} (h:wQ bm v p X w) (q:∀e,e < w.heap.size->l e->X e):wQ bm v p l w:=by
 have⟨E,hA,hE⟩:=h;exact⟨E,hA,λe d=>⟨(hE e d).1,λz=>(hE e d).2 (q e (hA.lt e d) z)⟩⟩
def wQ.of (h:Ask bm v p w) (l:∀e,e < w.heap.size->¬X e):wQ bm v p X w:=by
 have⟨E,hA,hE⟩:=h;exact⟨E,hA,λe d=>⟨hE e d,l e (hA.lt e d)⟩⟩
theorem wQ.set {bm k:Nat} {v:gP} {p:gz->Bool} {X:Nat->Prop} {w:gw} (h:wQ bm v p X w) (z:X k) (u:gP):wQ bm v p X (w.setCell ⟨k,0,none⟩ u):=by
 have⟨E,hA,hE⟩:=h;have l:∀e∈E,(w.setCell ⟨k,0,none⟩ u).heap[e]?=w.heap[e]?:=λe d=>Below.heap_setCell w ⟨k,0,none⟩ u e (λq=>(hE e d).2 (by grind));refine⟨E,hA.keeps l (by simp),λe d=>⟨?_,(hE e d).2⟩⟩
 grind[xL]
theorem Uf (bm g d:Nat) (h:List gz) (X:Nat->Prop) (w:gw) (F:w.heap[g]?=some (gJ (h.map Value.string).toArray 9)) (l:h.length<=4096) (G:∀e,X e->e < w.heap.size/\e≠g):
  Calls prog 206 #[rh g h.length d] w λe w'=>(∃v,e=ir v/\wQ bm v (ik h) X w')/\Kept [] w w':=by
 refine(acp g d h.length w).mono ?_;rintro e w' ⟨rfl,rfl⟩;have D:Kept [] w (w.alloc (gJ #[rh g h.length d] 210)):=(Kept.refl _ _).alloc _;have q:=fZ w (gJ #[rh g h.length d] 210);have z:=D.at F (by simp);refine⟨⟨_,rfl,_,YA _ g d h _ q z l,λe A=>?_⟩,D⟩;simp at A;rcases A with rfl|rfl
 .exact⟨.inr ⟨_,_,q,by decide⟩,λB=>by grind⟩
 .exact⟨.inr ⟨_,_,z,by decide⟩,λB=>(G _ B).2 rfl⟩
theorem XJ (bm:Nat) (v1 v2:gP) (p q:gz->Bool) (X:Nat->Prop) (w:gw) (B:wQ bm v1 p X w) (D:wQ bm v2 q X w) (F:∀e,X e->e < w.heap.size):
  Calls prog 262 #[v1,v2] w λe w'=>(∃v,e=ir v/\wQ bm v (λs=>p s&&!q s) X w')/\Kept [] w w':=by
 have⟨E1,a1,c1⟩:=B;have⟨E2,a2,c2⟩:=D;refine(XK E1 E2 v1 v2 p q w a1 a2).mono ?_;rintro e w' ⟨⟨v,rfl,A,l,z⟩,h⟩;refine⟨⟨v,rfl,_,A,λe d=>⟨Mc (.inr ⟨_,_,l,by decide⟩) (.inr ⟨_,_,z,by decide⟩) (λe d=>(c1 e d).1.fr (.gZ h)) (λe d=>(c2 e d).1.fr (.gZ h)) e d,λG=>?_⟩⟩,h⟩
 grind
def XX (s5 s6:gP) (e:Nat):Prop:=iC e=s5\/iC e=s6
abbrev aaw:List gz:=[jR,mZ]
abbrev adL:gz->Bool:=λs=>lc s&&!ik aaw s
structure OE (bm bB:Nat) (ks:List gz) (sl u:gP) (w1:gw) (b0 b1 b2 b3 b4 b5 b6 b7 b8 b9 b10 b11 b12:Bool) (s5 s6 s7 s8 s9 s10 s11 s12 s13 s14 s15:gP) (w:gw):Prop where
 k:Kept [] w1 w
 f0:b0=true->s7=sl
 f1:b1=true->wQ bm s8 (ik ks) (XX s5 s6) w
 f2:b2=true->s9=iC bB
 f3:b3=true->s10=iC bB
 f4:b4=true->s11=jF bB 184
 f5:b5=true->s12=u
 f6:b6=true->∃g,s13=rh g 2 2/\w.heap[g]?=some (gJ #[gI jR,gI mZ] 9)
 f7:b7=true->wQ bm s14 (ik aaw) (XX s5 s6) w
 f8:b8=true->wQ bm s15 adL (XX s5 s6) w
 f9:if b9 then ∃k,s5=iC k/\w1.heap.size<=k/\box w k (if b11 then s8 else .nilFunc) 150 else s5=undef
 f10:if b10 then ∃k,s6=iC k/\w1.heap.size<=k/\box w k (if b12 then s15 else .nilFunc) 150 else s6=undef
 ne:b9=true->b10=true->s5≠s6
 d11:b11=true->b1=true/\b9=true
 d12:b12=true->b8=true/\b10=true
section
variable {bm bB:Nat} {ks:List gz} {sl u:gP} {w1:gw} {b0 b1 b2 b3 b4 b5 b6 b7 b8 b9 b10 b11 b12:Bool} {s5 s6 s7 s8 s9 s10 s11 s12 s13 s14 s15:gP} {w w':gw}
theorem XX.lt (h:OE bm bB ks sl u w1 b0 b1 b2 b3 b4 b5 b6 b7 b8 b9 b10 b11 b12 s5 s6 s7 s8 s9 s10 s11 s12 s13 s14 s15 w) {e:Nat} (d:XX s5 s6 e):w1.heap.size<=e/\∃v,box w e v 150:=by
 rcases d with d|d
 .have:=h.f9;cases b9 with
  |false=>rw[this]at d;simp[undef]at d
  |true=>grind
 .have:=h.f10;cases b10 with
  |false=>rw[this]at d;simp[undef]at d
  |true=>grind
theorem OE.go (h:OE bm bB ks sl u w1 b0 b1 b2 b3 b4 b5 b6 b7 b8 b9 b10 b11 b12 s5 s6 s7 s8 s9 s10 s11 s12 s13 s14 s15 w) (d:Kept [] w w'):OE bm bB ks sl u w1 b0 b1 b2 b3 b4 b5 b6 b7 b8 b9 b10 b11 b12 s5 s6 s7 s8 s9 s10 s11 s12 s13 s14 s15 w':=by
 refine⟨h.k.trans d,h.f0,λq=>(h.f1 q).kept d,h.f2,h.f3,h.f4,h.f5,λq=>?_,λq=>(h.f7 q).kept d,λq=>(h.f8 q).kept d,?_,?_,h.ne,h.d11,h.d12⟩
 .have⟨g,e,hg⟩:=h.f6 q;exact⟨g,e,d.at hg (by simp)⟩
 .have:=h.f9;cases b9 with
  |false=>grind
  |true=>have⟨k,e,h1,h2⟩:=this;exact⟨k,e,h1,d.at h2 (by simp)⟩
 .have:=h.f10;cases b10 with
  |false=>grind
  |true=>have⟨k,e,h1,h2⟩:=this;exact⟨k,e,h1,d.at h2 (by simp)⟩
end
theorem abB (bm bB bD g G:Nat) (ks:List gz) (u:gP) (w:gw) (hB:bB < w.heap.size) (hu:w.cell? ⟨bB,184,none⟩=some u) (hA:Ask bm u lc w) (h2:w.heap[g]?=some (gJ (ks.map Value.string).toArray 9)) (ad:ks.length<=4096):
  Calls prog 179 #[iC bB,rh g ks.length G] w (zr bm bB bD (.item ks) w):=by
 obtain⟨uf,ua,ul,rfl⟩:=hA.func;have⟨w1,hw1,HK,HG,HZ⟩:=sy w (gJ #[iC bB] 93);have HU:=hu;have HB:=hB;have a3:=fW hA;have H2:=h2;have a5:=ad;have HW:=fW hw1;clear hA hw1;go_enter func179,ntmps179
 go_wp21
 refine tw (by rfl) ?_;change wpAny _ _ _ _ _ _ _ (World.drew _);rw[<-HW.out];refine Bc (I:=λz a W=>∃b0 b1 b2 b3 b4 b5 b6 b7 b8 b9 b10 b11 b12 s5 s6 s7 s8 s9 s10 s11 s12 s13 s14 s15,z=#[b0,b1,b2,b3,b4,b5,b6,b7,b8,b9,b10,b11,b12]/\a=⟨#[iC bB,rh g ks.length G,gL w.heap.size,undef,.nilFunc,s5,s6,s7,s8,s9,s10,s11,s12,s13,s14,s15,undef],[]⟩/\OE bm bB ks (rh g ks.length G) (.func uf ua ul) w1 b0 b1 b2 b3 b4 b5 b6 b7 b8 b9 b10 b11 b12 s5 s6 s7 s8 s9 s10 s11 s12 s13 s14 s15 W) ?_ ?_ _ _ _ _ ?_ ?_
 .rintro z a W i ⟨b0,b1,b2,b3,b4,b5,b6,b7,b8,b9,b10,b11,b12,s5,s6,s7,s8,s9,s10,s11,s12,s13,s14,s15,rfl,rfl,d⟩ hi;simp only[Region.ready,MB,Kn]at hi;have⟨Z,hc⟩:=hi;have Z:i < 13:=Z;obtain rfl|rfl|rfl|rfl|rfl|rfl|rfl|rfl|rfl|rfl|rfl|rfl|rfl:i=0\/i=1\/i=2\/i=3\/i=4\/i=5\/i=6\/i=7\/i=8\/i=9\/i=10\/i=11\/i=12:=by omega
  all_goals simp[Region.binds]at hc
  .refine kN rfl ?_;intro F h;go_simp;refine h _ _ ?_
   iterate 24 apply Exists.intro
   refine⟨rfl,rfl,?_⟩;exact⟨d.k,λ_=>rfl,d.f1,d.f2,d.f3,d.f4,d.f5,d.f6,d.f7,d.f8,d.f9,d.f10,d.ne,d.d11,d.d12⟩
  .refine kN rfl ?_;intro F h;have e7:=d.f0 hc.2;subst e7;have V:b11=false:=by
    cases b11 with
    |false=>rfl
    |true=>have:=(d.d11 rfl).1;simp[hc.1]at this
   subst V;have C:=(Uf bm g G ks (XX s5 s6) W ((HK.trans d.k).at H2 (by simp)) a5 (λe l=>by
    have⟨h1,v,h3⟩:=XX.lt d l
    grind))
   go_simp;refine C.mono ?_;rintro e w' ⟨⟨v,rfl,H⟩,A⟩;have J:=d.go A;refine h _ _ ?_
   iterate 24 apply Exists.intro
   refine⟨rfl,rfl,?_⟩;exact⟨J.k,J.f0,λ_=>H,J.f2,J.f3,J.f4,J.f5,J.f6,J.f7,J.f8,J.f9,J.f10,J.ne,(λq=>by simp at q),J.d12⟩
  .refine kN rfl ?_;intro F h;have c0:W.cell? ⟨w.heap.size,0,none⟩=some (iC bB):=(fX (d.k.at HG (by simp)) 0).trans rfl;go_simp;refine h _ _ ?_
   iterate 24 apply Exists.intro
   refine⟨rfl,rfl,?_⟩;exact⟨d.k,d.f0,d.f1,λ_=>rfl,d.f3,d.f4,d.f5,d.f6,d.f7,d.f8,d.f9,d.f10,d.ne,d.d11,d.d12⟩
  .refine kN rfl ?_;intro F h;have e9:=d.f2 hc.2;subst e9;go_simp;refine h _ _ ?_
   iterate 24 apply Exists.intro
   refine⟨rfl,rfl,?_⟩;exact⟨d.k,d.f0,d.f1,d.f2,λ_=>rfl,d.f4,d.f5,d.f6,d.f7,d.f8,d.f9,d.f10,d.ne,d.d11,d.d12⟩
  .refine kN rfl ?_;intro F h;have a6:=d.f3 hc.2;subst a6;go_simp;refine h _ _ ?_
   iterate 24 apply Exists.intro
   refine⟨rfl,rfl,?_⟩;exact⟨d.k,d.f0,d.f1,d.f2,d.f3,λ_=>rfl,d.f5,d.f6,d.f7,d.f8,d.f9,d.f10,d.ne,d.d11,d.d12⟩
  .refine kN rfl ?_;intro F h;have a7:=d.f4 hc.2;subst a7;have c0:W.cell? ⟨bB,184,none⟩=some (.func uf ua ul):=((HK.trans d.k).cell (p:=⟨bB,184,none⟩) HB (by simp)).trans HU;go_simp;refine h _ _ ?_
   iterate 24 apply Exists.intro
   refine⟨rfl,rfl,?_⟩;exact⟨d.k,d.f0,d.f1,d.f2,d.f3,d.f4,λ_=>rfl,d.f6,d.f7,d.f8,d.f9,d.f10,d.ne,d.d11,d.d12⟩
  .refine kN rfl ?_;intro F h;go_simp;have A:Kept [] W (W.alloc (gJ #[gI jR,gI mZ] 9)):=(Kept.refl _ _).alloc _;have J:=d.go A;refine h _ _ ?_
   iterate 24 apply Exists.intro
   refine⟨rfl,rfl,?_⟩;exact⟨J.k,J.f0,J.f1,J.f2,J.f3,J.f4,J.f5,λ_=>⟨_,rfl,fZ W _⟩,J.f7,J.f8,J.f9,J.f10,J.ne,J.d11,J.d12⟩
  .refine kN rfl ?_;intro F h;have⟨g3,e13,h13⟩:=d.f6 (by simp[hc]);subst e13;have C:=(Uf bm g3 2 aaw (XX s5 s6) W h13 (by decide) (λe l=>by
    have⟨h1,v,h3⟩:=XX.lt d l
    grind))
   go_simp;refine C.mono ?_;rintro e w' ⟨⟨v,rfl,H⟩,A⟩;have J:=d.go A;refine h _ _ ?_
   iterate 24 apply Exists.intro
   refine⟨rfl,rfl,?_⟩;exact⟨J.k,J.f0,J.f1,J.f2,J.f3,J.f4,J.f5,J.f6,λ_=>H,J.f8,J.f9,J.f10,J.ne,J.d11,J.d12⟩
  .refine kN rfl ?_;intro F h;have a8:=d.f5 (by simp[hc]);subst a8;have a9:=d.f7 (by simp[hc]);have Y:b12=false:=by
    cases b12 with
    |false=>rfl
    |true=>have:=(d.d12 rfl).1;simp[hc.1]at this
   subst Y;have ac:wQ bm (.func uf ua ul) lc (XX s5 s6) W:=(wQ.of (a3.fr (.gZ HK)) (λe he l=>by have:=(XX.lt d l).1;omega)).kept d.k;have C:=(XJ bm (.func uf ua ul) s14 lc (ik aaw) (XX s5 s6) W ac a9 (λe l=>by
    have⟨h1,v,h3⟩:=XX.lt d l;exact jn h3))
   go_simp;refine C.mono ?_;rintro e w' ⟨⟨v,rfl,H⟩,A⟩;have J:=d.go A;refine h _ _ ?_
   iterate 24 apply Exists.intro
   refine⟨rfl,rfl,?_⟩;exact⟨J.k,J.f0,J.f1,J.f2,J.f3,J.f4,J.f5,J.f6,J.f7,λ_=>H,J.f9,J.f10,J.ne,J.d11,(λq=>by simp at q)⟩
  .refine kN rfl ?_;intro F h;have B:b11=false:=by
    cases b11 with
    |false=>rfl
    |true=>have:=(d.d11 rfl).2;simp[hc]at this
   subst B;have N:b9=false:=by simpa using hc
   subst N;have U:s5=undef:=d.f9;subst U;go_simp;have A:Kept [] W (W.alloc (gJ #[.nilFunc] 150)):=(Kept.refl _ _).alloc _;have J:=d.go A;have K:∀e,e < W.heap.size->XX (iC W.heap.size) s6 e->XX undef s6 e:=λe he l=>by
    rcases l with l|l
    .simp at l<;>omega
    .exact .inr l
   refine h _ _ ?_
   iterate 24 apply Exists.intro
   refine⟨rfl,rfl,?_⟩;exact⟨J.k,J.f0,(λq=>((d.f1 q).other K).kept A),J.f2,J.f3,J.f4,J.f5,J.f6,(λq=>((d.f7 q).other K).kept A),(λq=>((d.f8 q).other K).kept A),⟨_,rfl,d.k.size,fZ W _⟩,J.f10,(λ_ q=>by subst q;have⟨k,e1,h1,h3⟩:=d.f10;grind),(λq=>by simp at q),J.d12⟩
  .refine kN rfl ?_;intro F h;have B:b12=false:=by
    cases b12 with
    |false=>rfl
    |true=>have:=(d.d12 rfl).2;simp[hc]at this
   subst B;have N:b10=false:=by simpa using hc
   subst N;have U:s6=undef:=d.f10;subst U;go_simp;have A:Kept [] W (W.alloc (gJ #[.nilFunc] 150)):=(Kept.refl _ _).alloc _;have J:=d.go A;have K:∀e,e < W.heap.size->XX s5 (iC W.heap.size) e->XX s5 undef e:=λe he l=>by
    rcases l with l|l
    .exact .inl l
    grind
   refine h _ _ ?_
   iterate 24 apply Exists.intro
   refine⟨rfl,rfl,?_⟩;exact⟨J.k,J.f0,(λq=>((d.f1 q).other K).kept A),J.f2,J.f3,J.f4,J.f5,J.f6,(λq=>((d.f7 q).other K).kept A),(λq=>((d.f8 q).other K).kept A),J.f9,⟨_,rfl,d.k.size,fZ W _⟩,(λq _=>by subst q;have⟨k,e1,h1,h3⟩:=d.f9;grind),J.d11,(λq=>by simp at q)⟩
  .refine kN rfl ?_;intro F h;have B:b11=false:=by simp[hc]
   subst B;have N:b9=true:=by simp[hc]
   have O:b1=true:=by simp[hc]
   subst N O;have⟨k,U,h1,h3⟩:=d.f9;subst U;have⟨f,aa,ll,H⟩:=(d.f1 rfl).ask.func;subst H;have c0:W.cell? ⟨k,0,none⟩=some .nilFunc:=(fX h3 0).trans rfl;have c1:=gG h3 0;go_simp;have l:XX (iC k) s6 k:= .inl rfl;refine h _ _ ?_
   iterate 24 apply Exists.intro
   refine⟨rfl,rfl,?_⟩;refine⟨d.k.setCell (p:=⟨k,0,none⟩) (.inr h1) _,d.f0,(λq=>(d.f1 q).set l _),d.f2,d.f3,d.f4,d.f5,λq=>?_,(λq=>(d.f7 q).set l _),(λq=>(d.f8 q).set l _),⟨k,rfl,h1,(gh h3 0 _).trans rfl⟩,?_,d.ne,(λ_=>⟨rfl,rfl⟩),d.d12⟩
   .have⟨g3,e13,h13⟩:=d.f6 q;exact⟨g3,e13,(Below.heap_setCell W ⟨k,0,none⟩ _ g3 (xR h13 h3 (by decide))).trans h13⟩
   .have:=d.f10;split at this
    .rename_i hq;have⟨k2,e2,h4,h5⟩:=this;rw[gF hq];refine⟨k2,e2,h4,(Below.heap_setCell W ⟨k,0,none⟩ _ k2 (λq=>?_)).trans h5⟩;subst q;exact d.ne rfl hq e2.symm
    grind
  .refine kN rfl ?_;intro F h;have B:b12=false:=by simp[hc]
   subst B;have N:b10=true:=by simp[hc]
   have O:b8=true:=by simp[hc]
   subst N O;have⟨k,U,h1,h3⟩:=d.f10;subst U;have⟨f,aa,ll,H⟩:=(d.f8 rfl).ask.func;subst H;have c0:W.cell? ⟨k,0,none⟩=some .nilFunc:=(fX h3 0).trans rfl;have c1:=gG h3 0;go_simp;have l:XX s5 (iC k) k:= .inr rfl;refine h _ _ ?_
   iterate 24 apply Exists.intro
   refine⟨rfl,rfl,?_⟩;refine⟨d.k.setCell (p:=⟨k,0,none⟩) (.inr h1) _,d.f0,(λq=>(d.f1 q).set l _),d.f2,d.f3,d.f4,d.f5,λq=>?_,(λq=>(d.f7 q).set l _),(λq=>(d.f8 q).set l _),?_,⟨k,rfl,h1,(gh h3 0 _).trans rfl⟩,d.ne,d.d11,(λ_=>⟨rfl,rfl⟩)⟩
   .have⟨g3,e13,h13⟩:=d.f6 q;exact⟨g3,e13,(Below.heap_setCell W ⟨k,0,none⟩ _ g3 (xR h13 h3 (by decide))).trans h13⟩
   .have:=d.f9;split at this
    .rename_i hq;have⟨k2,e2,h4,h5⟩:=this;rw[gF hq];refine⟨k2,e2,h4,(Below.heap_setCell W ⟨k,0,none⟩ _ k2 (λq=>?_)).trans h5⟩;subst q;exact d.ne hq rfl e2
    grind
 .rintro z a W ⟨b0,b1,b2,b3,b4,b5,b6,b7,b8,b9,b10,b11,b12,s5,s6,s7,s8,s9,s10,s11,s12,s13,s14,s15,rfl,rfl,d⟩ D;simp only[Region.ready,UW,Kn]at D;have q0:=D 0 (by decide);simp[Region.binds]at q0;subst q0;have q1:=D 1 (by decide);simp[Region.binds]at q1;subst q1;have q2:=D 2 (by decide);simp[Region.binds]at q2;subst q2;have q3:=D 3 (by decide);simp[Region.binds]at q3;subst q3;have q4:=D 4 (by decide);simp[Region.binds]at q4;subst q4;have q5:=D 5 (by decide);simp[Region.binds]at q5;subst q5;have q6:=D 6 (by decide);simp[Region.binds]at q6;subst q6;have q7:=D 7 (by decide);simp[Region.binds]at q7;subst q7;have q8:=D 8 (by decide);simp[Region.binds]at q8;subst q8;have q9:=D 9 (by decide);simp[Region.binds]at q9;subst q9;have a0:=D 10 (by decide);simp[Region.binds]at a0;subst a0;have a1:=D 11 (by decide);simp[Region.binds]at a1;subst a1;have a2:=D 12 (by decide);simp[Region.binds]at a2;subst a2;have⟨k5,e5,h5,X5⟩:=d.f9;have⟨k6,e6,h6,X6⟩:=d.f10;subst e5 e6;have A1:=(d.f1 rfl).ask;have A2:=(d.f8 rfl).ask;have a4:=HK.trans d.k;have G2:=d.k.at HG (by simp);rename_i KK ab;refine ab _ _ ?_;go_wp2;go_ret;exact⟨⟨_,rfl,_,_,_,_,_,rfl,G2,X5,A1,X6,A2⟩,a4⟩
 .decide
 .exact⟨false,false,false,false,false,false,false,false,false,false,false,false,false,undef,undef,undef,undef,undef,undef,undef,undef,undef,undef,undef,rfl,rfl,(Kept.refl _ _).drew,by simp,by simp,by simp,by simp,by simp,by simp,by simp,by simp,by simp,rfl,rfl,by simp,by simp,by simp⟩
def BS (bm bB:Nat) (w:gw):Prop:=bB < w.heap.size/\∃u,w.cell? ⟨bB,184,none⟩=some u/\Ask bm u lc w
def BS.im (h:BS bm bB w) (d:Kept [] w w'):BS bm bB w':=by
 have⟨h1,u,hu,hA⟩:=h;exact⟨lU h1 d.size,u,(d.cell (p:=⟨bB,184,none⟩) h1 (by simp)).trans hu,hA.fr (.gZ d)⟩
def C8.top (s:C8 bm bB bD w cw rs ((b,R)::ms)):IsMap bm bB bD b R (.map (some b)) cw/\w.heap.size<=b/\b≠bm:=s.Ek (b,R) (by simp)
def C8.slice (s:C8 bm bB bD w cw rs ms) (h:List gz) (d:jO) (l:(h.map Value.string).toArray=d):∃W g,W=cw.alloc (gJ d 9)/\g=cw.heap.size/\W.heap[g]?=some (gJ (h.map Value.string).toArray 9)/\C8 bm bB bD w W rs ms:=
 ⟨_,_,rfl,rfl,by rw[l];exact fZ cw _,s.zZ ((Kept.refl _ _).alloc _)⟩
def QL (s:C8 bm bB bD w cw rs ms) (h:BS bm bB w) (g d:Nat) (ks:List gz) (q:cw.heap[g]?=some (gJ (ks.map Value.string).toArray 9)) (l:ks.length<=4096):
  Calls prog 179 #[iC bB,rh g ks.length d] cw (zr bm bB bD (.item ks) cw):=by
 have⟨h1,u,hu,hA⟩:=h.im s.k;exact abB bm bB bD g d ks u cw h1 hu hA q l
def lZ:List (List gz×Ru):=[([gW],(.ig 189)),([iG],(.ig 188)),([Gu,AL],(.ig 187)),([tl],(.ig 186)),([j3,tk,jD],(.ig 185)),([iY],(.ig 184)),([gO,gn],(.ig 183)),([jE],(.ig 182)),([gg],(.ig 181)),([hU],(.ig 180)),([lA,lB],(.item [lA,lB])),([kK],(.item [kK])),([iM],(.ig 178)),([ug],(.ig 177)),([me,mf],(.ig 176)),([mJ],(.ig 175)),([jR,oz,qG,mZ],(.ig 174)),([gU,gx,iq,gm,gq,iy,gr,iA,gu,ie],.nothing),([jh,jp,iR],(.pq 3)),([gE],(.ig 173)),([fY],(.ig 172))]
def DS (bm bB bD:Nat) (w:gw) (ad:BS bm bB w) (ht:xN w) (ac:bm < w.heap.size):
  Calls prog 103 #[iC bB] w (OH bm bB bD lZ w):=by
 have q:=ad;have aB:=@run_makeMap prog;have a2:=C8.start bm bB bD w ht ac;go_enter func103,ntmps103;have⟨W1,b1,hW1,hb1,HS1⟩:=a2.map;have ab:=fW hW1;have Z:=fW hb1;clear hW1 hb1
 go_wp21
 rw[<-ab.out,<-Z.out];refine(HS1.nE _ [fY] (.ig 172) (by rfl) (by rfl) rfl).mono ?_;rintro e W2 ⟨rfl,a3⟩
 go_wp21
 refine(a3.nE _ [gE] (.ig 173) (by rfl) (by rfl) rfl).mono ?_;rintro e W3 ⟨rfl,a5⟩
 go_wp21
 refine(a5.made (py bm bB bD 3 _) nofun).mono ?_;rintro e W4 ⟨f4,a4,l4,rfl,V⟩
 go_wp21
 refine(V.nE _ [jh,jp,iR] (.pq 3) (by rfl) (by rfl) (V.at (by simp))).mono ?_;rintro e W5 ⟨rfl,a6⟩
 go_wp21
 refine(a6.nE _ [gU,gx,iq,gm,gq,iy,gr,iA,gu,ie] .nothing rfl (by rfl) rfl).mono ?_;rintro e W6 ⟨rfl,a7⟩
 go_wp21
 refine(a7.nE _ [jR,oz,qG,mZ] (.ig 174) (by rfl) (by rfl) rfl).mono ?_;rintro e W7 ⟨rfl,a8⟩
 go_wp21
 refine(a8.nE _ [mJ] (.ig 175) (by rfl) (by rfl) rfl).mono ?_;rintro e W8 ⟨rfl,a9⟩
 go_wp21
 refine(a9.nE _ [me,mf] (.ig 176) (by rfl) (by rfl) rfl).mono ?_;rintro e W9 ⟨rfl,aa⟩
 go_wp21
 refine(aa.nE _ [ug] (.ig 177) (by rfl) (by rfl) rfl).mono ?_;rintro e ae ⟨rfl,z⟩
 go_wp21
 refine(z.nE _ [iM] (.ig 178) (by rfl) (by rfl) rfl).mono ?_;rintro e af ⟨rfl,A⟩;have⟨W12,g1,hW12,hg1,HSL1,HS12⟩:=A.slice [kK] #[gI kK] rfl;have W:=fW hW12;have a0:=fW hg1;clear hW12 hg1
 go_wp21
 rw[<-W.out,<-a0.out];refine(HS12.made (QL HS12 q g1 1 [kK] HSL1 (by decide)) nofun).mono ?_;rintro e ag ⟨az,ax,aC,rfl,h⟩
 go_wp21
 refine(h.nE _ [kK] (.item [kK]) (by rfl) (by rfl) (h.at (by simp))).mono ?_;rintro e ah ⟨rfl,B⟩;have⟨W15,g2,hW15,hg2,HSL2,HS15⟩:=B.slice [lA,lB] #[gI lA,gI lB] rfl;have Y:=fW hW15;have a1:=fW hg2;clear hW15 hg2
 go_wp21
 rw[<-Y.out,<-a1.out];refine(HS15.made (QL HS15 q g2 2 [lA,lB] HSL2 (by decide)) nofun).mono ?_;rintro e ai ⟨aA,ay,aD,rfl,l⟩
 go_wp21
 refine(l.nE _ [lA,lB] (.item [lA,lB]) (by rfl) (by rfl) (l.at (by simp))).mono ?_;rintro e aj ⟨rfl,D⟩
 go_wp21
 refine(D.nE _ [hU] (.ig 180) (by rfl) (by rfl) rfl).mono ?_;rintro e ak ⟨rfl,F⟩
 go_wp21
 refine(F.nE _ [gg] (.ig 181) (by rfl) (by rfl) rfl).mono ?_;rintro e al ⟨rfl,G⟩
 go_wp21
 refine(G.nE _ [jE] (.ig 182) (by rfl) (by rfl) rfl).mono ?_;rintro e am ⟨rfl,H⟩
 go_wp21
 refine(H.nE _ [gO,gn] (.ig 183) (by rfl) (by rfl) rfl).mono ?_;rintro e an ⟨rfl,I⟩
 go_wp21
 refine(I.nE _ [iY] (.ig 184) (by rfl) (by rfl) rfl).mono ?_;rintro e ao ⟨rfl,J⟩
 go_wp21
 refine(J.nE _ [j3,tk,jD] (.ig 185) (by rfl) (by rfl) rfl).mono ?_;rintro e ap ⟨rfl,K⟩
 go_wp21
 refine(K.nE _ [tl] (.ig 186) (by rfl) (by rfl) rfl).mono ?_;rintro e aq ⟨rfl,N⟩
 go_wp21
 refine(N.nE _ [Gu,AL] (.ig 187) (by rfl) (by rfl) rfl).mono ?_;rintro e ar ⟨rfl,O⟩
 go_wp21
 refine(O.nE _ [iG] (.ig 188) (by rfl) (by rfl) rfl).mono ?_;rintro e au ⟨rfl,U⟩
 go_wp21
 refine(U.nE _ [gW] (.ig 189) (by rfl) (by rfl) rfl).mono ?_;rintro e aw ⟨rfl,d⟩;go_wp2;go_ret;exact⟨b1,rfl,d.top.1,d.top.2.1,d.top.2.2,d.k⟩
def kD:mx:={ke:= .ig 102,gS:= .gS 87 true,start:=some lZ,stop:=some lY,jU:= .ig 104,ku:= .ig 106,iE:= .nothing}
def Zf (bm bB bD:Nat) (w:gw) (V:BS bm bB w) (W:xN w) (F:bm < w.heap.size):
  Calls prog 56 #[iC bB] w (jP bm bB bD kD w):=by
 have⟨W0,hW0,HS0⟩:=St.start bm bB bD w W F;have K:=V;have A:=fW hW0;clear hW0;go_enter func56,ntmps56
 go_wp21
 rw[<-A.out];refine(HS0.made (ou bm bB bD 87 true _) nofun).mono ?_;rintro e Z ⟨U,O,Y,rfl,h⟩
 go_wp21
 refine(DS bm bB bD _ (K.im h.k) h.t (lU h.lt h.k.size)).mono ?_;rintro e W2 ⟨b1,rfl,I,B,q,G⟩;have l:=h.mapOf G I B q
 go_wp21
 refine(Gz bm bB bD _ l.t (lU l.lt l.k.size)).mono ?_;rintro e W3 ⟨b2,rfl,J,D,z,H⟩;have d:=l.mapOf H J D z;have N:=jz (sp:=kD) (v0:= .nilFunc) (v1:= .func (.func 102) #[iC bB] #[]) (v2:= .func U O Y) (v3:= .nilFunc) (v4:= .nilFunc) (v5:= .map (some b1)) (v6:= .map (some b2)) (v7:= .func (.func 104) #[iC bB] #[]) (v8:= .func (.func 106) #[iC bB] #[]) (v9:= .func (.func 79) #[] #[]) d.g d.k ⟨rfl,rfl,(d.at (r:= .gS 87 true) (by simp)),rfl,rfl,(d.oM (by simp)),(d.oM (by simp)),rfl,rfl,rfl⟩ _ rfl;have⟨q0,q1,q2,q3,q4,q5,q6,q7,q8,q9⟩:=kx d.g;have u:=gG d.g;go_wp2;exact kB results56 rfl rfl N
def lj:mx:={blank:= .nothing,gS:= .gS 81 false,iN:= .nothing,start:=some [([fY],(.ig 85))],stop:=some [([gU,gE,fY,j3],(.ig 86))],ku:= .nothing,iE:= .ig 86}
def N2 (bm bB bD:Nat) (w:gw) (J:BD bB bD w) (N:xN w) (F:bm < w.heap.size):
  Calls prog 51 #[iC bB] w (jP bm bB bD lj w):=by
 have K:=@run_makeMap prog;have⟨W0,hW0,HS0⟩:=St.start bm bB bD w N F;have⟨xv,hBl⟩:=J;have A:=fW hW0;clear hW0;go_enter func51,ntmps51
 go_wp21
 rw[<-A.out];refine(HS0.made (ou bm bB bD 81 false _) nofun).mono ?_;rintro e U ⟨I,H,O,rfl,q⟩;have⟨W2,b1,hW2,hb1,HS2⟩:=q.map;have B:=fW hW2;have h:=fW hb1;clear hW2 hb1
 go_wp21
 rw[<-B.out,<-h.out];refine(HS2.nE _ [fY] (.ig 85) (by rfl) (by rfl) rfl).mono ?_;rintro e V ⟨rfl,z⟩;have⟨W4,b2,hW4,hb2,HS4⟩:=z.map;have D:=fW hW4;have l:=fW hb2;clear hW4 hb2
 go_wp21
 rw[<-D.out,<-l.out];refine(HS4.nE _ [gU,gE,fY,j3] (.ig 86) (by rfl) (by rfl) rfl).mono ?_;rintro e W ⟨rfl,d⟩;have G:=jz (sp:=lj) (v0:= .func (.func 79) #[] #[]) (v1:= .nilFunc) (v2:= .func I H O) (v3:= .func (.func 79) #[] #[]) (v4:= .nilFunc) (v5:= .map (some b1)) (v6:= .map (some b2)) (v7:= .nilFunc) (v8:= .func (.func 79) #[] #[]) (v9:= .func (.func 86) #[iC bB] #[]) d.g d.k ⟨rfl,rfl,(d.at (r:= .gS 81 false) (by simp)),rfl,rfl,(d.oM (by simp)),(d.oM (by simp)),rfl,rfl,rfl⟩ _ rfl;have⟨q0,q1,q2,q3,q4,q5,q6,q7,q8,q9⟩:=kx d.g;have u:=gG d.g;go_wp2;exact kB results51 rfl rfl G
def ln:mx:={blank:= .nothing,gS:= .gS 87 true,iN:= .nothing,start:=some [([gU],(.ig 89)),([fY],(.pq 6))],stop:=some [([gU,gE,fY,j3],(.ig 90))],ku:= .nothing,iE:= .ig 90}
def N3 (bm bB bD:Nat) (w:gw) (N:BD bB bD w) (U:xN w) (H:bm < w.heap.size):
  Calls prog 52 #[iC bB] w (jP bm bB bD ln w):=by
 have O:=@run_makeMap prog;have⟨W0,hW0,HS0⟩:=St.start bm bB bD w U H;have⟨xv,hBl⟩:=N;have D:=fW hW0;clear hW0;go_enter func52,ntmps52
 go_wp21
 rw[<-D.out];refine(HS0.made (ou bm bB bD 87 true _) nofun).mono ?_;rintro e W ⟨K,J,V,rfl,z⟩;have⟨W2,b1,hW2,hb1,HS2⟩:=z.map;have F:=fW hW2;have l:=fW hb1;clear hW2 hb1
 go_wp21
 rw[<-F.out,<-l.out];refine(HS2.made (py bm bB bD 6 _) nofun).mono ?_;rintro e Y ⟨f3,a3,l3,rfl,h⟩
 go_wp21
 refine(h.nE _ [fY] (.pq 6) (by rfl) (by rfl) (h.at (by simp))).mono ?_;rintro e W4 ⟨rfl,A⟩
 go_wp21
 refine(A.nE _ [gU] (.ig 89) (by rfl) (by rfl) rfl).mono ?_;rintro e Z ⟨rfl,B⟩;have⟨W6,b2,hW6,hb2,HS6⟩:=B.map;have G:=fW hW6;have q:=fW hb2;clear hW6 hb2
 go_wp21
 rw[<-G.out,<-q.out];refine(HS6.nE _ [gU,gE,fY,j3] (.ig 90) (by rfl) (by rfl) rfl).mono ?_;rintro e W7 ⟨rfl,d⟩;have I:=jz (sp:=ln) (v0:= .func (.func 79) #[] #[]) (v1:= .nilFunc) (v2:= .func K J V) (v3:= .func (.func 79) #[] #[]) (v4:= .nilFunc) (v5:= .map (some b1)) (v6:= .map (some b2)) (v7:= .nilFunc) (v8:= .func (.func 79) #[] #[]) (v9:= .func (.func 90) #[iC bB] #[]) d.g d.k ⟨rfl,rfl,(d.at (r:= .gS 87 true) (by simp)),rfl,rfl,(d.oM (by simp)),(d.oM (by simp)),rfl,rfl,rfl⟩ _ rfl;have⟨q0,q1,q2,q3,q4,q5,q6,q7,q8,q9⟩:=kx d.g;have u:=gG d.g;go_wp2;exact kB results52 rfl rfl I
def lE:mx:={blank:= .ig 91,gS:= .gS 87 true,iN:= .nothing,start:=some [([iR],(.ig 94)),([jp],(.ig 93)),([jh],(.ig 92)),([fY],(.pq 6)),([gU],.nothing)],stop:=some [([gE,fY,j3],(.ig 96)),([gU],(.ig 95))],ku:= .nothing,iE:= .ig 96}
def Zh (bm bB bD:Nat) (w:gw) (Z:BD bB bD w) (ht:xN w) (N:bm < w.heap.size):
  Calls prog 53 #[iC bB] w (jP bm bB bD lE w):=by
 have a0:=@run_makeMap prog;have⟨W0,hW0,HS0⟩:=St.start bm bB bD w ht N;have⟨xv,hBl⟩:=Z;have I:=fW hW0;clear hW0;go_enter func53,ntmps53
 go_wp21
 rw[<-I.out];refine(HS0.made (ou bm bB bD 87 true _) nofun).mono ?_;rintro e W1 ⟨Y,W,l1,rfl,A⟩;have⟨W2,b1,hW2,hb1,HS2⟩:=A.map;have J:=fW hW2;have q:=fW hb1;clear hW2 hb1
 go_wp21
 rw[<-J.out,<-q.out];refine(HS2.nE _ [gU] .nothing (by rfl) (by rfl) rfl).mono ?_;rintro e W3 ⟨rfl,B⟩
 go_wp21
 refine(B.made (py bm bB bD 6 _) nofun).mono ?_;rintro e W4 ⟨f4,a4,l4,rfl,l⟩
 go_wp21
 refine(l.nE _ [fY] (.pq 6) (by rfl) (by rfl) (l.at (by simp))).mono ?_;rintro e W5 ⟨rfl,D⟩
 go_wp21
 refine(D.nE _ [jh] (.ig 92) (by rfl) (by rfl) rfl).mono ?_;rintro e W6 ⟨rfl,F⟩
 go_wp21
 refine(F.nE _ [jp] (.ig 93) (by rfl) (by rfl) rfl).mono ?_;rintro e W7 ⟨rfl,G⟩
 go_wp21
 refine(G.nE _ [iR] (.ig 94) (by rfl) (by rfl) rfl).mono ?_;rintro e W8 ⟨rfl,H⟩;have⟨W9,b2,hW9,hb2,HS9⟩:=H.map;have K:=fW hW9;have z:=fW hb2;clear hW9 hb2
 go_wp21
 rw[<-K.out,<-z.out];refine(HS9.nE _ [gU] (.ig 95) (by rfl) (by rfl) rfl).mono ?_;rintro e U ⟨rfl,h⟩
 go_wp21
 refine(h.nE _ [gE,fY,j3] (.ig 96) (by rfl) (by rfl) rfl).mono ?_;rintro e V ⟨rfl,d⟩;have O:=jz (sp:=lE) (v0:= .func (.func 91) #[iC bB] #[]) (v1:= .nilFunc) (v2:= .func Y W l1) (v3:= .func (.func 79) #[] #[]) (v4:= .nilFunc) (v5:= .map (some b1)) (v6:= .map (some b2)) (v7:= .nilFunc) (v8:= .func (.func 79) #[] #[]) (v9:= .func (.func 96) #[iC bB] #[]) d.g d.k ⟨rfl,rfl,(d.at (r:= .gS 87 true) (by simp)),rfl,rfl,(d.oM (by simp)),(d.oM (by simp)),rfl,rfl,rfl⟩ _ rfl;have⟨q0,q1,q2,q3,q4,q5,q6,q7,q8,q9⟩:=kx d.g;have u:=gG d.g;go_wp2;exact kB results53 rfl rfl O
def mn:mx:={blank:= .ig 91,gS:= .gS 87 true,iN:= .nothing,start:=some [([jh,jp,iR],(.ig 98)),([gE],(.ig 97)),([fY],(.pq 6)),([gU],.nothing)],stop:=some [([gE,fY,j3],(.ig 99))],ku:= .nothing,iE:= .ig 99}
def Qw (bm bB bD:Nat) (w:gw) (U:BD bB bD w) (W:xN w) (J:bm < w.heap.size):
  Calls prog 54 #[iC bB] w (jP bm bB bD mn w):=by
 have V:=@run_makeMap prog;have⟨W0,hW0,HS0⟩:=St.start bm bB bD w W J;have⟨xv,hBl⟩:=U;have G:=fW hW0;clear hW0;go_enter func54,ntmps54
 go_wp21
 rw[<-G.out];refine(HS0.made (ou bm bB bD 87 true _) nofun).mono ?_;rintro e Z ⟨O,N,Y,rfl,z⟩;have⟨W2,b1,hW2,hb1,HS2⟩:=z.map;have H:=fW hW2;have l:=fW hb1;clear hW2 hb1
 go_wp21
 rw[<-H.out,<-l.out];refine(HS2.nE _ [gU] .nothing (by rfl) (by rfl) rfl).mono ?_;rintro e W3 ⟨rfl,A⟩
 go_wp21
 refine(A.made (py bm bB bD 6 _) nofun).mono ?_;rintro e W4 ⟨f4,a4,l4,rfl,h⟩
 go_wp21
 refine(h.nE _ [fY] (.pq 6) (by rfl) (by rfl) (h.at (by simp))).mono ?_;rintro e W5 ⟨rfl,B⟩
 go_wp21
 refine(B.nE _ [gE] (.ig 97) (by rfl) (by rfl) rfl).mono ?_;rintro e W6 ⟨rfl,D⟩
 go_wp21
 refine(D.nE _ [jh,jp,iR] (.ig 98) (by rfl) (by rfl) rfl).mono ?_;rintro e W7 ⟨rfl,F⟩;have⟨W8,b2,hW8,hb2,HS8⟩:=F.map;have I:=fW hW8;have q:=fW hb2;clear hW8 hb2
 go_wp21
 rw[<-I.out,<-q.out];refine(HS8.nE _ [gE,fY,j3] (.ig 99) (by rfl) (by rfl) rfl).mono ?_;rintro e W9 ⟨rfl,d⟩;have K:=jz (sp:=mn) (v0:= .func (.func 91) #[iC bB] #[]) (v1:= .nilFunc) (v2:= .func O N Y) (v3:= .func (.func 79) #[] #[]) (v4:= .nilFunc) (v5:= .map (some b1)) (v6:= .map (some b2)) (v7:= .nilFunc) (v8:= .func (.func 79) #[] #[]) (v9:= .func (.func 99) #[iC bB] #[]) d.g d.k ⟨rfl,rfl,(d.at (r:= .gS 87 true) (by simp)),rfl,rfl,(d.oM (by simp)),(d.oM (by simp)),rfl,rfl,rfl⟩ _ rfl;have⟨q0,q1,q2,q3,q4,q5,q6,q7,q8,q9⟩:=kx d.g;have u:=gG d.g;go_wp2;exact kB results54 rfl rfl K
def qX:mx:={ke:= .ig 91,io:= .ig 100,iE:= .ig 101}
def Zi (bm bB bD:Nat) (w:gw) (h:BD bB bD w) (q:xN w) (d:bm < w.heap.size):
  Calls prog 55 #[iC bB] w (jP bm bB bD qX w):=by
 have l:=@run_makeMap prog;have⟨W0,HW0,HS0⟩:=St.start bm bB bD w q d;have⟨xv,hBl⟩:=h;go_enter func55,ntmps55;go_wp2;exact kB results55 rfl rfl ⟨fZ w _,⟨rfl,rfl,rfl,rfl,rfl,rfl,rfl,rfl,rfl,rfl⟩,(Kept.refl _ _).alloc _⟩
def kQ:mx:={ke:= .ig 118,iE:= .ig 119}
def Lh (bm bB bD:Nat) (w:gw) (h:BD bB bD w) (q:xN w) (d:bm < w.heap.size):
  Calls prog 58 #[iC bB] w (jP bm bB bD kQ w):=by
 have l:=@run_makeMap prog;have⟨W0,HW0,HS0⟩:=St.start bm bB bD w q d;have⟨xv,hBl⟩:=h;go_enter func58,ntmps58;go_wp2;exact kB results58 rfl rfl ⟨fZ w _,⟨rfl,rfl,rfl,rfl,rfl,rfl,rfl,rfl,rfl,rfl⟩,(Kept.refl _ _).alloc _⟩
def zd:mx:={start:=some [([gx,iq,gm,gq,iy,gr,iA,gu,ie],(.ahead 120))],stop:=some [([gE,iq,gm,fY,gq,iy,gr,iA,gu,ie],.nothing),([gg],(.ahead 120)),([gx],(.ends 120))],iE:= .pq 6}
def Qx (bm bB bD:Nat) (w:gw) (Y:BD bB bD w) (ht:xN w) (O:bm < w.heap.size):
  Calls prog 59 #[iC bB] w (jP bm bB bD zd w):=by
 have Z:=@run_makeMap prog;have⟨W0,hW0,HS0⟩:=St.start bm bB bD w ht O;have⟨xv,hBl⟩:=Y;have z:=fW hW0;clear hW0;go_enter func59,ntmps59;have⟨W1,b1,hW1,hb1,HS1⟩:=HS0.map;have I:=fW hW1;have A:=fW hb1;clear hW1 hb1
 go_wp21
 rw[<-z.out];rw[<-I.out,show w.heap.size+1=b1 by rw[A.out,z.out];simp];refine(HS1.made (oj bm bB bD 120 _) nofun).mono ?_;rintro e W2 ⟨f2,a2,l2,rfl,h⟩
 go_wp21
 refine(h.nE _ [gx,iq,gm,gq,iy,gr,iA,gu,ie] (.ahead 120) rfl (by rfl) (h.at (by simp))).mono ?_;rintro e W3 ⟨rfl,D⟩;have⟨W4,b2,hW4,hb2,HS4⟩:=D.map;have J:=fW hW4;have B:=fW hb2;clear hW4 hb2
 go_wp21
 rw[<-J.out,<-B.out];refine(HS4.made (xj bm bB bD 120 _) nofun).mono ?_;rintro e W5 ⟨f5,a5,l5,rfl,l⟩
 go_wp21
 refine(l.nE _ [gx] (.ends 120) (by rfl) (by rfl) (l.at (by simp))).mono ?_;rintro e W6 ⟨rfl,F⟩
 go_wp21
 refine(F.made (oj bm bB bD 120 _) nofun).mono ?_;rintro e W7 ⟨f7,a7,l7,rfl,q⟩
 go_wp21
 refine(q.nE _ [gg] (.ahead 120) (by rfl) (by rfl) (q.at (by simp))).mono ?_;rintro e W8 ⟨rfl,G⟩
 go_wp21
 refine(G.nE _ [gE,iq,gm,fY,gq,iy,gr,iA,gu,ie] .nothing rfl (by rfl) rfl).mono ?_;rintro e W9 ⟨rfl,H⟩
 go_wp21
 refine(H.made (py bm bB bD 6 _) nofun).mono ?_;rintro e W ⟨N,K,U,rfl,d⟩;have V:=jz (sp:=zd) (v0:= .nilFunc) (v1:= .nilFunc) (v2:= .nilFunc) (v3:= .nilFunc) (v4:= .nilFunc) (v5:= .map (some b1)) (v6:= .map (some b2)) (v7:= .nilFunc) (v8:= .nilFunc) (v9:= .func N K U) d.g d.k ⟨rfl,rfl,rfl,rfl,rfl,(d.oM (by simp)),(d.oM (by simp)),rfl,rfl,(d.at (r:= .pq 6) (by simp))⟩ _ rfl;have⟨q0,q1,q2,q3,q4,q5,q6,q7,q8,q9⟩:=kx d.g;have u:=gG d.g;go_wp2;exact kB results59 rfl rfl V
def Cw:mx:={ke:= .ig 107,gS:= .gS 87 true,iN:= .nothing,start:=some [([jD],(.ig 115)),([iM],(.ig 114)),([iR],(.pq 3)),([gg],(.ahead 113)),([iy,iA,ie],(.nK [gg] gq 11)),([gq,gr,gu],(.rE [gg] 11)),([iq],(.nK [gg] gm 10)),([gm],(.rE [gg] 10)),([gx],(.ig 108))],stop:=some [([gE,gx,iq,gm,fY,gq,iy,gr,iA,gu,ie],.nothing),([gg],(.ends 113))],iE:= .ig 117}
def Wq (bm bB bD:Nat) (w:gw) (hb:BD bB bD w) (ht:xN w) (ag:bm < w.heap.size):
  Calls prog 57 #[iC bB] w (jP bm bB bD Cw w):=by
 have aN:=@run_makeMap prog;have⟨W0,hW0,HS0⟩:=St.start bm bB bD w ht ag;have⟨xv,hBl⟩:=hb;have ae:=fW hW0;clear hW0;go_enter func57,ntmps57
 go_wp21
 rw[<-ae.out];refine(HS0.made (ou bm bB bD 87 true _) nofun).mono ?_;rintro e W1 ⟨f1,a1,l1,rfl,a6⟩;have⟨W2,b1,hW2,hb1,HS2⟩:=a6.map;have af:=fW hW2;have a2:=fW hb1;clear hW2 hb1
 go_wp21
 rw[<-af.out,<-a2.out];refine(HS2.nE _ [gx] (.ig 108) (by rfl) (by rfl) rfl).mono ?_;rintro e W3 ⟨rfl,a9⟩
 go_wp21
 refine(a9.Vm (A9 bm _)).mono ?_;rintro e W4 ⟨f4,a4,l4,rfl,Z,aa⟩
 go_wp21
 refine(aa.made (A6 bm bB bD [gg] 10 _ _ Z) nofun).mono ?_;rintro e W5 ⟨f5,a5,l5,rfl,V⟩
 go_wp21
 refine(V.nE _ [gm] (.rE [gg] 10) (by rfl) (by rfl) (V.at (by simp))).mono ?_;rintro e W6 ⟨rfl,ab⟩
 go_wp21
 refine(ab.Vm (A9 bm _)).mono ?_;rintro e W7 ⟨f7,a7,l7,rfl,a0,ac⟩
 go_wp21
 refine(ac.made (Ct bm bB bD [gg] gm 10 _ _ a0) nofun).mono ?_;rintro e W8 ⟨f8,a8,l8,rfl,W⟩
 go_wp21
 refine(W.nE _ [iq] (.nK [gg] gm 10) (by rfl) (by rfl) (W.at (by simp))).mono ?_;rintro e W9 ⟨rfl,ad⟩
 go_wp21
 refine(ad.Vm (A9 bm _)).mono ?_;rintro e ah ⟨aG,az,aO,rfl,B,F⟩
 go_wp21
 refine(F.made (A6 bm bB bD [gg] 11 _ _ B) nofun).mono ?_;rintro e ai ⟨aH,aA,aP,rfl,h⟩
 go_wp21
 refine(h.nE _ [gq,gr,gu] (.rE [gg] 11) (by rfl) (by rfl) (h.at (by simp))).mono ?_;rintro e aj ⟨rfl,G⟩
 go_wp21
 refine(G.Vm (A9 bm _)).mono ?_;rintro e ak ⟨aI,aB,aQ,rfl,D,H⟩
 go_wp21
 refine(H.made (Ct bm bB bD [gg] gq 11 _ _ D) nofun).mono ?_;rintro e al ⟨aJ,aC,aR,rfl,l⟩
 go_wp21
 refine(l.nE _ [iy,iA,ie] (.nK [gg] gq 11) (by rfl) (by rfl) (l.at (by simp))).mono ?_;rintro e am ⟨rfl,I⟩
 go_wp21
 refine(I.made (oj bm bB bD 113 _) nofun).mono ?_;rintro e an ⟨aK,aD,aS,rfl,q⟩
 go_wp21
 refine(q.nE _ [gg] (.ahead 113) (by rfl) (by rfl) (q.at (by simp))).mono ?_;rintro e ao ⟨rfl,J⟩
 go_wp21
 refine(J.made (py bm bB bD 3 _) nofun).mono ?_;rintro e ap ⟨aL,aE,aT,rfl,z⟩
 go_wp21
 refine(z.nE _ [iR] (.pq 3) (by rfl) (by rfl) (z.at (by simp))).mono ?_;rintro e aq ⟨rfl,K⟩
 go_wp21
 refine(K.nE _ [iM] (.ig 114) (by rfl) (by rfl) rfl).mono ?_;rintro e ar ⟨rfl,N⟩
 go_wp21
 refine(N.nE _ [jD] (.ig 115) (by rfl) (by rfl) rfl).mono ?_;rintro e au ⟨rfl,O⟩;have⟨W22,b2,hW22,hb2,HS22⟩:=O.map;have Y:=fW hW22;have a3:=fW hb2;clear hW22 hb2
 go_wp21
 rw[<-Y.out,<-a3.out];refine(HS22.made (xj bm bB bD 113 _) nofun).mono ?_;rintro e aw ⟨aM,aF,aU,rfl,A⟩
 go_wp21
 refine(A.nE _ [gg] (.ends 113) (by rfl) (by rfl) (A.at (by simp))).mono ?_;rintro e ax ⟨rfl,U⟩
 go_wp21
 refine(U.nE _ [gE,gx,iq,gm,fY,gq,iy,gr,iA,gu,ie] .nothing rfl rfl rfl).mono ?_;rintro e ay ⟨rfl,d⟩;have HF:=jz (sp:=Cw) (v0:= .nilFunc) (v1:= .func (.func 107) #[iC bB] #[]) (v2:= .func f1 a1 l1) (v3:= .func (.func 79) #[] #[]) (v4:= .nilFunc) (v5:= .map (some b1)) (v6:= .map (some b2)) (v7:= .nilFunc) (v8:= .nilFunc) (v9:= .func (.func 117) #[iC bB] #[]) d.g d.k ⟨rfl,rfl,(d.at (r:= .gS 87 true) (by simp)),rfl,rfl,(d.oM (by simp)),(d.oM (by simp)),rfl,rfl,rfl⟩ _ rfl;have⟨q0,q1,q2,q3,q4,q5,q6,q7,q8,q9⟩:=kx d.g;have u:=gG d.g;go_wp2;exact kB results57 rfl rfl HF
def qW:mx:={blank:= .ig 91,gS:= .gS 87 true,iN:= .nothing,io:= .pq 6,start:=some [([iq],(.ig 92)),([fY],(.pq 6))],stop:=some [([gm],(.ends 121)),([iq],.nothing)],iE:= .ahead 121}
def GB (bm bB bD:Nat) (w:gw) (hb:BD bB bD w) (ht:xN w) (U:bm < w.heap.size):
  Calls prog 60 #[iC bB] w (jP bm bB bD qW w):=by
 have a0:=@run_makeMap prog;have⟨W0,hW0,HS0⟩:=St.start bm bB bD w ht U;have⟨xv,hBl⟩:=hb;have I:=fW hW0;clear hW0;go_enter func60,ntmps60
 go_wp21
 rw[<-I.out];refine(HS0.made (ou bm bB bD 87 true _) nofun).mono ?_;rintro e W1 ⟨f1,a1,l1,rfl,B⟩
 go_wp21
 refine(B.made (py bm bB bD 6 _) nofun).mono ?_;rintro e W2 ⟨f2,a2,l2,rfl,D⟩;have⟨W3,b1,hW3,hb1,HS3⟩:=D.map;have J:=fW hW3;have z:=fW hb1;clear hW3 hb1
 go_wp21
 rw[<-J.out,<-z.out];refine(HS3.made (py bm bB bD 6 _) nofun).mono ?_;rintro e W4 ⟨f4,a4,l4,rfl,l⟩
 go_wp21
 refine(l.nE _ [fY] (.pq 6) (by rfl) (by rfl) (l.at (by simp))).mono ?_;rintro e W5 ⟨rfl,F⟩
 go_wp21
 refine(F.nE _ [iq] (.ig 92) (by rfl) (by rfl) rfl).mono ?_;rintro e W6 ⟨rfl,G⟩;have⟨W7,b2,hW7,hb2,HS7⟩:=G.map;have K:=fW hW7;have A:=fW hb2;clear hW7 hb2
 go_wp21
 rw[<-K.out,<-A.out];refine(HS7.nE _ [iq] .nothing (by rfl) (by rfl) rfl).mono ?_;rintro e W8 ⟨rfl,H⟩
 go_wp21
 refine(H.made (xj bm bB bD 121 _) nofun).mono ?_;rintro e W9 ⟨f9,a9,l9,rfl,q⟩
 go_wp21
 refine(q.nE _ [gm] (.ends 121) (by rfl) (by rfl) (q.at (by simp))).mono ?_;rintro e Y ⟨rfl,h⟩
 go_wp21
 refine(h.made (oj bm bB bD 121 _) nofun).mono ?_;rintro e Z ⟨O,N,V,rfl,d⟩;have W:=jz (sp:=qW) (v0:= .func (.func 91) #[iC bB] #[]) (v1:= .nilFunc) (v2:= .func f1 a1 l1) (v3:= .func (.func 79) #[] #[]) (v4:= .func f2 a2 l2) (v5:= .map (some b1)) (v6:= .map (some b2)) (v7:= .nilFunc) (v8:= .nilFunc) (v9:= .func O N V) d.g d.k ⟨rfl,rfl,(d.at (r:= .gS 87 true) (by simp)),rfl,(d.at (r:= .pq 6) (by simp)),(d.oM (by simp)),(d.oM (by simp)),rfl,rfl,(d.at (r:= .ahead 121) (by simp))⟩ _ rfl;have⟨q0,q1,q2,q3,q4,q5,q6,q7,q8,q9⟩:=kx d.g;have u:=gG d.g;go_wp2;exact kB results60 rfl rfl W
def oQ:mx:={start:=some [([gx,iq,gm,gq,gr,gu],(.ahead 123)),([iy,iA],(.nK [gq,gr,gu] ie 12)),([ie],(.rE [gq,gr,gu] 12))],stop:=some [([gE,gx,iq,gm,fY,iy,iA,ie],.nothing),([gg],(.ahead 123)),([gq,gr,gu],(.Nu (.ends 123)))],iE:= .pq 7}
def Lg (bm bB bD:Nat) (w:gw) (hb:BD bB bD w) (ht:xN w) (a7:bm < w.heap.size):
  Calls prog 61 #[iC bB] w (jP bm bB bD oQ w):=by
 have an:=@run_makeMap prog;have⟨W0,hW0,HS0⟩:=St.start bm bB bD w ht a7;have⟨xv,hBl⟩:=hb;have H:=fW hW0;clear hW0;go_enter func61,ntmps61;have⟨W1,b1,hW1,hb1,HS1⟩:=HS0.map;have a0:=fW hW1;have N:=fW hb1;clear hW1 hb1
 go_wp21
 rw[<-H.out];rw[<-a0.out,show w.heap.size+1=b1 by rw[N.out,H.out];simp];refine(HS1.Vm (zE bm _)).mono ?_;rintro e W2 ⟨f2,a2,l2,rfl,J,U⟩
 go_wp21
 refine(U.made (A6 bm bB bD [gq,gr,gu] 12 _ _ J) nofun).mono ?_;rintro e W3 ⟨f3,a3,l3,rfl,D⟩
 go_wp21
 refine(D.nE _ [ie] (.rE [gq,gr,gu] 12) (by rfl) (by rfl) (D.at (by simp))).mono ?_;rintro e W4 ⟨rfl,V⟩
 go_wp21
 refine(V.Vm (zE bm _)).mono ?_;rintro e W5 ⟨f5,a5,l5,rfl,K,W⟩
 go_wp21
 refine(W.made (Ct bm bB bD [gq,gr,gu] ie 12 _ _ K) nofun).mono ?_;rintro e W6 ⟨f6,a6,l6,rfl,F⟩
 go_wp21
 refine(F.nE _ [iy,iA] (.nK [gq,gr,gu] ie 12) (by rfl) (by rfl) (F.at (by simp))).mono ?_;rintro e W7 ⟨rfl,Y⟩
 go_wp21
 refine(Y.made (oj bm bB bD 123 _) nofun).mono ?_;rintro e W8 ⟨f8,a8,l8,rfl,G⟩
 go_wp21
 refine(G.nE _ [gx,iq,gm,gq,gr,gu] (.ahead 123) rfl (by rfl) (G.at (by simp))).mono ?_;rintro e W9 ⟨rfl,Z⟩;have⟨W10,b2,hW10,hb2,HS10⟩:=Z.map;have I:=fW hW10;have O:=fW hb2;clear hW10 hb2
 go_wp21
 rw[<-I.out,<-O.out];refine(HS10.made (xj bm bB bD 123 _) nofun).mono ?_;rintro e aa ⟨ak,ah,ao,rfl,h⟩
 go_wp21
 refine(h.made (JF bm bB bD (.ends 123) _ _ (by simp) (h.at (by simp))) nofun).mono ?_;rintro e ab ⟨al,ai,ap,rfl,l⟩
 go_wp21
 refine(l.nE _ [gq,gr,gu] (.Nu (.ends 123)) (by rfl) (by rfl) (l.at (by simp))).mono ?_;rintro e ac ⟨rfl,z⟩
 go_wp21
 refine(z.made (oj bm bB bD 123 _) nofun).mono ?_;rintro e ad ⟨am,aj,aq,rfl,q⟩
 go_wp21
 refine(q.nE _ [gg] (.ahead 123) (by rfl) (by rfl) (q.at (by simp))).mono ?_;rintro e ae ⟨rfl,A⟩
 go_wp21
 refine(A.nE _ [gE,gx,iq,gm,fY,iy,iA,ie] .nothing (by rfl) (by rfl) rfl).mono ?_;rintro e af ⟨rfl,B⟩
 go_wp21
 refine(B.made (py bm bB bD 7 _) nofun).mono ?_;rintro e ag ⟨a4,a1,a9,rfl,d⟩;have HF:=jz (sp:=oQ) (v0:= .nilFunc) (v1:= .nilFunc) (v2:= .nilFunc) (v3:= .nilFunc) (v4:= .nilFunc) (v5:= .map (some b1)) (v6:= .map (some b2)) (v7:= .nilFunc) (v8:= .nilFunc) (v9:= .func a4 a1 a9) d.g d.k ⟨rfl,rfl,rfl,rfl,rfl,(d.oM (by simp)),(d.oM (by simp)),rfl,rfl,(d.at (r:= .pq 7) (by simp))⟩ _ rfl;have⟨q0,q1,q2,q3,q4,q5,q6,q7,q8,q9⟩:=kx d.g;have u:=gG d.g;go_wp2;exact kB results61 rfl rfl HF
def Aw:mx:={start:=some [([gx,iq,gm,gq,gr,gu,ie],(.ahead 126)),([iy,iA],(.ig 125))],stop:=some [([gE,gx,iq,gm,fY,iy,iA],.nothing),([gq,gr,gu],(.Nu (.ahead 126))),([gg],(.ahead 126)),([ie],(.ends 126))],iE:= .pq 7}
def abx (bm bB bD:Nat) (w:gw) (hb:BD bB bD w) (ht:xN w) (Y:bm < w.heap.size):
  Calls prog 62 #[iC bB] w (jP bm bB bD Aw w):=by
 have ac:=@run_makeMap prog;have⟨W0,hW0,HS0⟩:=St.start bm bB bD w ht Y;have⟨xv,hBl⟩:=hb;have F:=fW hW0;clear hW0;go_enter func62,ntmps62;have⟨W1,b1,hW1,hb1,HS1⟩:=HS0.map;have O:=fW hW1;have G:=fW hb1;clear hW1 hb1
 go_wp21
 rw[<-F.out];rw[<-O.out,show w.heap.size+1=b1 by rw[G.out,F.out];simp];refine(HS1.nE _ [iy,iA] (.ig 125) (by rfl) (by rfl) rfl).mono ?_;rintro e W2 ⟨rfl,I⟩
 go_wp21
 refine(I.made (oj bm bB bD 126 _) nofun).mono ?_;rintro e W3 ⟨f3,a3,l3,rfl,A⟩
 go_wp21
 refine(A.nE _ [gx,iq,gm,gq,gr,gu,ie] (.ahead 126) rfl (by rfl) (A.at (by simp))).mono ?_;rintro e W4 ⟨rfl,J⟩;have⟨W5,b2,hW5,hb2,HS5⟩:=J.map;have U:=fW hW5;have H:=fW hb2;clear hW5 hb2
 go_wp21
 rw[<-U.out,<-H.out];refine(HS5.made (xj bm bB bD 126 _) nofun).mono ?_;rintro e W6 ⟨f6,a6,l6,rfl,B⟩
 go_wp21
 refine(B.nE _ [ie] (.ends 126) (by rfl) (by rfl) (B.at (by simp))).mono ?_;rintro e W7 ⟨rfl,K⟩
 go_wp21
 refine(K.made (oj bm bB bD 126 _) nofun).mono ?_;rintro e W8 ⟨f8,a8,l8,rfl,D⟩
 go_wp21
 refine(D.nE _ [gg] (.ahead 126) (by rfl) (by rfl) (D.at (by simp))).mono ?_;rintro e W9 ⟨rfl,N⟩
 go_wp21
 refine(N.made (oj bm bB bD 126 _) nofun).mono ?_;rintro e a0 ⟨aa,a7,ad,rfl,h⟩
 go_wp21
 refine(h.made (JF bm bB bD (.ahead 126) _ _ (by simp) (h.at (by simp))) nofun).mono ?_;rintro e a1 ⟨ab,a9,ae,rfl,l⟩
 go_wp21
 refine(l.nE _ [gq,gr,gu] (.Nu (.ahead 126)) (by rfl) (by rfl) (l.at (by simp))).mono ?_;rintro e a2 ⟨rfl,q⟩
 go_wp21
 refine(q.nE _ [gE,gx,iq,gm,fY,iy,iA] .nothing (by rfl) (by rfl) rfl).mono ?_;rintro e a4 ⟨rfl,z⟩
 go_wp21
 refine(z.made (py bm bB bD 7 _) nofun).mono ?_;rintro e a5 ⟨W,V,Z,rfl,d⟩;have HF:=jz (sp:=Aw) (v0:= .nilFunc) (v1:= .nilFunc) (v2:= .nilFunc) (v3:= .nilFunc) (v4:= .nilFunc) (v5:= .map (some b1)) (v6:= .map (some b2)) (v7:= .nilFunc) (v8:= .nilFunc) (v9:= .func W V Z) d.g d.k ⟨rfl,rfl,rfl,rfl,rfl,(d.oM (by simp)),(d.oM (by simp)),rfl,rfl,(d.at (r:= .pq 7) (by simp))⟩ _ rfl;have⟨q0,q1,q2,q3,q4,q5,q6,q7,q8,q9⟩:=kx d.g;have u:=gG d.g;go_wp2;exact kB results62 rfl rfl HF
def Ff:mx:={start:=some [([gx,iq,gm,gq,iy,gr,iA,gu,ie],(.ahead 127))],stop:=some [([gE,gx,iq,gm,fY],.nothing),([gg,gq,gr,gu,ie],(.Nu (.ahead 127))),([iy,iA],(.Nu (.ends 127)))],iE:= .pq 6}
def Zg (bm bB bD:Nat) (w:gw) (hb:BD bB bD w) (ht:xN w) (V:bm < w.heap.size):
  Calls prog 63 #[iC bB] w (jP bm bB bD Ff w):=by
 have a3:=@run_makeMap prog;have⟨W0,hW0,HS0⟩:=St.start bm bB bD w ht V;have⟨xv,hBl⟩:=hb;have F:=fW hW0;clear hW0;go_enter func63,ntmps63;have⟨W1,b1,hW1,hb1,HS1⟩:=HS0.map;have K:=fW hW1;have G:=fW hb1;clear hW1 hb1
 go_wp21
 rw[<-F.out];rw[<-K.out,show w.heap.size+1=b1 by rw[G.out,F.out];simp];refine(HS1.made (oj bm bB bD 127 _) nofun).mono ?_;rintro e W2 ⟨f2,a2,l2,rfl,q⟩
 go_wp21
 refine(q.nE _ [gx,iq,gm,gq,iy,gr,iA,gu,ie] (.ahead 127) rfl (by rfl) (q.at (by simp))).mono ?_;rintro e W3 ⟨rfl,I⟩;have⟨W4,b2,hW4,hb2,HS4⟩:=I.map;have N:=fW hW4;have H:=fW hb2;clear hW4 hb2
 go_wp21
 rw[<-N.out,<-H.out];refine(HS4.made (xj bm bB bD 127 _) nofun).mono ?_;rintro e W5 ⟨f5,a5,l5,rfl,z⟩
 go_wp21
 refine(z.made (JF bm bB bD (.ends 127) _ _ (by simp) (z.at (by simp))) nofun).mono ?_;rintro e W6 ⟨f6,a6,l6,rfl,A⟩
 go_wp21
 refine(A.nE _ [iy,iA] (.Nu (.ends 127)) (by rfl) (by rfl) (A.at (by simp))).mono ?_;rintro e W7 ⟨rfl,J⟩
 go_wp21
 refine(J.made (oj bm bB bD 127 _) nofun).mono ?_;rintro e W8 ⟨f8,a8,l8,rfl,B⟩
 go_wp21
 refine(B.made (JF bm bB bD (.ahead 127) _ _ (by simp) (B.at (by simp))) nofun).mono ?_;rintro e W9 ⟨f9,a9,l9,rfl,D⟩
 go_wp21
 refine(D.nE _ [gg,gq,gr,gu,ie] (.Nu (.ahead 127)) (by rfl) (by rfl) (D.at (by simp))).mono ?_;rintro e Z ⟨rfl,h⟩
 go_wp21
 refine(h.nE _ [gE,gx,iq,gm,fY] .nothing (by rfl) (by rfl) rfl).mono ?_;rintro e a0 ⟨rfl,l⟩
 go_wp21
 refine(l.made (py bm bB bD 6 _) nofun).mono ?_;rintro e a1 ⟨U,O,W,rfl,d⟩;have Y:=jz (sp:=Ff) (v0:= .nilFunc) (v1:= .nilFunc) (v2:= .nilFunc) (v3:= .nilFunc) (v4:= .nilFunc) (v5:= .map (some b1)) (v6:= .map (some b2)) (v7:= .nilFunc) (v8:= .nilFunc) (v9:= .func U O W) d.g d.k ⟨rfl,rfl,rfl,rfl,rfl,(d.oM (by simp)),(d.oM (by simp)),rfl,rfl,(d.at (r:= .pq 6) (by simp))⟩ _ rfl;have⟨q0,q1,q2,q3,q4,q5,q6,q7,q8,q9⟩:=kx d.g;have u:=gG d.g;go_wp2;exact kB results63 rfl rfl Y
def Ax:mx:={ke:= .ig 128,gS:= .gS 87 true,start:=some [([jD,jE],(.ahead 132)),([iY],(.ends 132)),([ug],(.ig 131)),([gn],(.ig 130)),([gO],(.ig 129)),([fY],(.pq 6))],stop:=some [([iY],(.ends 132)),([gO],(.ig 134)),([gn],(.ig 133))],iE:= .nothing}
def S8 (bm bB bD:Nat) (w:gw) (hb:BD bB bD w) (ht:xN w) (Y:bm < w.heap.size):
  Calls prog 64 #[iC bB] w (jP bm bB bD Ax w):=by
 have ad:=@run_makeMap prog;have⟨W0,hW0,HS0⟩:=St.start bm bB bD w ht Y;have⟨xv,hBl⟩:=hb;have V:=fW hW0;clear hW0;go_enter func64,ntmps64
 go_wp21
 rw[<-V.out];refine(HS0.made (ou bm bB bD 87 true _) nofun).mono ?_;rintro e W1 ⟨f1,a1,l1,rfl,I⟩;have⟨W2,b1,hW2,hb1,HS2⟩:=I.map;have W:=fW hW2;have G:=fW hb1;clear hW2 hb1
 go_wp21
 rw[<-W.out,<-G.out];refine(HS2.made (py bm bB bD 6 _) nofun).mono ?_;rintro e W3 ⟨f3,a3,l3,rfl,B⟩
 go_wp21
 refine(B.nE _ [fY] (.pq 6) (by rfl) (by rfl) (B.at (by simp))).mono ?_;rintro e W4 ⟨rfl,J⟩
 go_wp21
 refine(J.nE _ [gO] (.ig 129) (by rfl) (by rfl) rfl).mono ?_;rintro e W5 ⟨rfl,K⟩
 go_wp21
 refine(K.nE _ [gn] (.ig 130) (by rfl) (by rfl) rfl).mono ?_;rintro e W6 ⟨rfl,N⟩
 go_wp21
 refine(N.nE _ [ug] (.ig 131) (by rfl) (by rfl) rfl).mono ?_;rintro e W7 ⟨rfl,O⟩
 go_wp21
 refine(O.made (xj bm bB bD 132 _) nofun).mono ?_;rintro e W8 ⟨f8,a8,l8,rfl,D⟩
 go_wp21
 refine(D.nE _ [iY] (.ends 132) (by rfl) (by rfl) (D.at (by simp))).mono ?_;rintro e W9 ⟨rfl,U⟩
 go_wp21
 refine(U.made (oj bm bB bD 132 _) nofun).mono ?_;rintro e a0 ⟨ab,a9,ae,rfl,h⟩
 go_wp21
 refine(h.nE _ [jD,jE] (.ahead 132) (by rfl) (by rfl) (h.at (by simp))).mono ?_;rintro e a2 ⟨rfl,q⟩;have⟨W12,b2,hW12,hb2,HS12⟩:=q.map;have F:=fW hW12;have H:=fW hb2;clear hW12 hb2
 go_wp21
 rw[<-F.out,<-H.out];refine(HS12.nE _ [gn] (.ig 133) (by rfl) (by rfl) rfl).mono ?_;rintro e a4 ⟨rfl,z⟩
 go_wp21
 refine(z.nE _ [gO] (.ig 134) (by rfl) (by rfl) rfl).mono ?_;rintro e a5 ⟨rfl,A⟩
 go_wp21
 refine(A.made (xj bm bB bD 132 _) nofun).mono ?_;rintro e a6 ⟨ac,aa,af,rfl,l⟩
 go_wp21
 refine(l.nE _ [iY] (.ends 132) (by rfl) (by rfl) (l.at (by simp))).mono ?_;rintro e a7 ⟨rfl,d⟩;have Z:=jz (sp:=Ax) (v0:= .nilFunc) (v1:= .func (.func 128) #[iC bB] #[]) (v2:= .func f1 a1 l1) (v3:= .nilFunc) (v4:= .nilFunc) (v5:= .map (some b1)) (v6:= .map (some b2)) (v7:= .nilFunc) (v8:= .nilFunc) (v9:= .func (.func 79) #[] #[]) d.g d.k ⟨rfl,rfl,(d.at (r:= .gS 87 true) (by simp)),rfl,rfl,(d.oM (by simp)),(d.oM (by simp)),rfl,rfl,rfl⟩ _ rfl;have⟨q0,q1,q2,q3,q4,q5,q6,q7,q8,q9⟩:=kx d.g;have u:=gG d.g;go_wp2;exact kB results64 rfl rfl Z
def sq:mx:={start:=some [([gx,gg,gq,gr,gu,ie,iy,iA],(.ahead 132))],stop:=some [([gx,gg,gq,gr,gu,ie,iy,iA],(.Nu (.ahead 132)))],iE:= .pq 14}
def D0 (bm bB bD:Nat) (w:gw) (O:BD bB bD w) (V:xN w) (I:bm < w.heap.size):
  Calls prog 65 #[iC bB] w (jP bm bB bD sq w):=by
 have U:=@run_makeMap prog;have⟨W0,hW0,HS0⟩:=St.start bm bB bD w V I;have⟨xv,hBl⟩:=O;have z:=fW hW0;clear hW0;go_enter func65,ntmps65;have⟨W1,b1,hW1,hb1,HS1⟩:=HS0.map;have G:=fW hW1;have A:=fW hb1;clear hW1 hb1
 go_wp21
 rw[<-z.out];rw[<-G.out,show w.heap.size+1=b1 by rw[A.out,z.out];simp];refine(HS1.made (oj bm bB bD 132 _) nofun).mono ?_;rintro e Y ⟨f2,a2,l2,rfl,h⟩
 go_wp21
 refine(h.nE _ [gx,gg,gq,gr,gu,ie,iy,iA] (.ahead 132) (by rfl) (by rfl) (h.at (by simp))).mono ?_;rintro e Z ⟨rfl,D⟩;have⟨W4,b2,hW4,hb2,HS4⟩:=D.map;have H:=fW hW4;have B:=fW hb2;clear hW4 hb2
 go_wp21
 rw[<-H.out,<-B.out];refine(HS4.made (oj bm bB bD 132 _) nofun).mono ?_;rintro e W5 ⟨f5,a5,l5,rfl,l⟩
 go_wp21
 refine(l.made (JF bm bB bD (.ahead 132) _ _ (by simp) (l.at (by simp))) nofun).mono ?_;rintro e W6 ⟨f6,a6,l6,rfl,q⟩
 go_wp21
 refine(q.nE _ [gx,gg,gq,gr,gu,ie,iy,iA] (.Nu (.ahead 132)) (by rfl) (by rfl) (q.at (by simp))).mono ?_;rintro e W7 ⟨rfl,F⟩
 go_wp21
 refine(F.made (py bm bB bD 14 _) nofun).mono ?_;rintro e W8 ⟨N,K,W,rfl,d⟩;have J:=jz (sp:=sq) (v0:= .nilFunc) (v1:= .nilFunc) (v2:= .nilFunc) (v3:= .nilFunc) (v4:= .nilFunc) (v5:= .map (some b1)) (v6:= .map (some b2)) (v7:= .nilFunc) (v8:= .nilFunc) (v9:= .func N K W) d.g d.k ⟨rfl,rfl,rfl,rfl,rfl,(d.oM (by simp)),(d.oM (by simp)),rfl,rfl,(d.at (r:= .pq 14) (by simp))⟩ _ rfl;have⟨q0,q1,q2,q3,q4,q5,q6,q7,q8,q9⟩:=kx d.g;have u:=gG d.g;go_wp2;exact kB results65 rfl rfl J
def mG (z:jO) (d f a:Int) (v:gP) (bD:Nat):jO:=((((z.setIfInBounds 0 (gp d)).setIfInBounds 1 (gp f)).setIfInBounds 2 (gp a)).setIfInBounds 3 v).setIfInBounds 187 (iC bD)
def sc:Tryz.zeroCells157.size=199:=by rfl
def Bx (z:jO) (d f a:Int) (v:gP) (bD:Nat):(mG z d f a v bD).size=z.size:=by
 simp[mG]
theorem xg (z:jO) (d f a:Int) (v:gP) (bD i:Nat) (h:4<=i) (l:i≠187):(mG z d f a v bD)[i]?=z[i]?:=by
 simp only[mG,zG]
 grind
def yn:List mx:=[{blank:= .nothing,gS:= .gS 81 false,iN:= .ig 82,iE:= .ig 83},lj,ln,lE,mn,qX,kD,Cw,kQ,zd,qW,oQ,Aw,Ff,Ax,sq,vD,nw 81 false]
def ny.one (h:ny bm bB bD r v w):v.oneCell'=true:=by
 by_cases d:r= .nil
 .subst d;have:v= .nilFunc:=h;subst this;rfl
 .obtain⟨f,a,l,rfl⟩:=h.func d;rfl
def rB.one {R : Option (List (List gz×Ru))} (h:rB bm bB bD R v w):v.oneCell'=true:=by
 cases R with
 |none=>have:v= .map none:=h;subst this;rfl
 |some R=>obtain⟨b,L,rfl,_⟩:=h;rfl
def kL.one (h:kL bm bB bD sp v0 v1 v2 v3 v4 v5 v6 v7 v8 v9 w):∀v∈[v0,v1,v2,v3,v4,v5,v6,v7,v8,v9],v.oneCell'=true:=by
 intro v d;simp at d;rcases d with rfl|rfl|rfl|rfl|rfl|rfl|rfl|rfl|rfl|rfl
 .exact h.blank.one
 .exact h.ke.one
 .exact h.gS.one
 .exact h.iN.one
 .exact h.io.one
 .exact h.start.one
 .exact h.stop.one
 .exact h.jU.one
 .exact h.ku.one
 .exact h.iE.one
theorem kL.YG (h:kL bm bB bD sp v0 v1 v2 v3 v4 v5 v6 v7 v8 v9 w) (d:Kept [s] w w') (l:w.heap[s]?=some (gJ c 157)):kL bm bB bD sp v0 v1 v2 v3 v4 v5 v6 v7 v8 v9 w':=
 have f:vS bm w w':=⟨_,d,λk q _=>by
  grind[Hg]⟩
 ⟨h.blank.fr f,h.ke.fr f,h.gS.fr f,h.iN.fr f,h.io.fr f,h.start.I0 d l f,h.stop.I0 d l f,h.jU.fr f,h.ku.fr f,h.iE.fr f⟩
def AN (bm bB bD:Nat) (d:List gP) (W:gw):Prop:=d.length=180/\∀m sp,yn[m]?=some sp->∃v0 v1 v2 v3 v4 v5 v6 v7 v8 v9,(d.drop (10*m)).take 10=[v0,v1,v2,v3,v4,v5,v6,v7,v8,v9]/\kL bm bB bD sp v0 v1 v2 v3 v4 v5 v6 v7 v8 v9 W
def AN.YG {d : List gP} (h:AN bm bB bD d w) (l:Kept [s] w w') (z:w.heap[s]?=some (gJ c 157)):AN bm bB bD d w':=by
 refine⟨h.1,λm sp q=>?_⟩;have⟨v0,v1,v2,v3,v4,v5,v6,v7,v8,v9,e,hr⟩:=h.2 m sp q;exact⟨v0,v1,v2,v3,v4,v5,v6,v7,v8,v9,e,hr.YG l z⟩
section
variable {P:Program} {ops:Array Oper} {rest:List Oper} {o:Oper} {a:Act} {w:gw} {Q:Exit->Act->gw->Prop}
def AG (z:o.guard=none) (d:Option Tmp) (q:o.dst=d) (v:gP) (A:(execOp a.eval o).run P w= .ok (.value v) w) (h:wpList P ops Q rest (a.put d v) w):wpList P ops Q (o::rest) a w:=by
 subst q;refine wpList_plain z λK l=>?_;unfold Oper.wp;rw[A];exact l _ _ h
end
structure acQ (bm bB bD:Nat) (d f a:Int) (av:gP) (w W:gw):Prop where
 k:Kept [] w W
 new:w.heap.size<=bB
 iw:∃c6 cs v1 v2 v3,W.heap[bB]?=some (gJ (jW c6 4 cs) 157)/\c6=((((mG Tryz.zeroCells157 d f a av bD).setIfInBounds 184 v1).setIfInBounds 185 v2).setIfInBounds 186 v3)/\AN bm bB bD cs W/\Ask bm v1 lc W/\Ask bm v2 uK W/\Ask bm v3 iQ W
 xb:W.heap[bD]?=some (gJ #[gI kJ,jX,.pointer none,jX] 142)
 ne:bD≠bB
 afr:w.heap.size<=bD
def WS (d:gw) (bm:Nat) (c:jO) (l:gw) (h:l=((d.alloc (gJ #[.map (some bm)] 137)).alloc (gJ #[gI kJ,jX,.pointer none,jX] 142)).alloc (gJ c 157)):
  l.heap[d.heap.size]?=some (gJ #[.map (some bm)] 137)/\l.heap[d.heap.size+1]?=some (gJ #[gI kJ,jX,.pointer none,jX] 142)/\l.heap[d.heap.size+1+1]?=some (gJ c 157)/\Kept [] d l:=by
 have⟨h1,h2,h3⟩:=ot d (gJ #[.map (some bm)] 137) (gJ #[gI kJ,jX,.pointer none,jX] 142) (gJ c 157);subst h;exact⟨h1,h2,h3,(((Kept.refl _ _).alloc _).alloc _).alloc _⟩
theorem Wz {d : gw} (h:gw) (l:h=((d.setCell ⟨bB,184,none⟩ v1).setCell ⟨bB,185,none⟩ v2).setCell ⟨bB,186,none⟩ v3) (q:d.heap[bB]?=some (gJ c 157)):h.heap[bB]?=some (gJ (((c.setIfInBounds 184 v1).setIfInBounds 185 v2).setIfInBounds 186 v3) 157)/\Kept [bB] d h/\vS bm d h:=by
 have z:=gh q 184 v1;have A:=gh z 185 v2;have D:=gh A 186 v3;have k:Kept [bB] d h:=by
  rw[l];exact(((Kept.refl [bB] d).setCell (p:=⟨bB,184,none⟩) (.inl (by simp)) v1).setCell (p:=⟨bB,185,none⟩) (.inl (by simp)) v2).setCell (p:=⟨bB,186,none⟩) (.inl (by simp)) v3
 refine⟨by grind,k,⟨_,k,λx B _=>?_⟩⟩;have e:=List.mem_singleton.1 B;subst e;exact .inl ⟨_,_,_,q,by decide⟩
def adD (d f a:Int) (af:Fn) (aa al:jO) (w:gw) (ht:xN w):
  Calls prog 35 #[.agg #[gp d,gp f,gp a],.func af aa al] w λe W=>∃bm bB bD,e=ir (iC bB)/\acQ bm bB bD d f a (.func af aa al) w W:=by
 obtain⟨w0,f7,K0,g0,z0⟩:=sy w (gJ #[gp d,gp f,gp a] 55);have HT:=fW ht;have eW:=fW f7;have ed:=fW K0;have ew:=fW g0;have fr:=fW z0;clear ht f7 K0 g0 z0;go_enter func35,ntmps35;go_wp2_with fail;rw[<-eW.out];refine(K9 _ (HT.out.fr (bm:=0) (.gZ ed.out)).1).mono ?_;rintro e W1 ⟨bm,rfl,f5,H,eZ⟩;have g1:=H.at ew.out (by simp);have c0:W1.cell? ⟨w.heap.size,0,none⟩=some (gp d):=(fX g1 0).trans rfl;have c1:W1.cell? ⟨w.heap.size,1,none⟩=some (gp f):=(fX g1 1).trans rfl;have c2:W1.cell? ⟨w.heap.size,2,none⟩=some (gp a):=(fX g1 2).trans rfl;have f4:=jn g1;have eC:=fW f5;have ee:=fW (ed.out.trans H);have fh:=fW eZ;clear f5 H eZ g1;go_wp2_with fail;clear c0 c1 c2 f4;obtain⟨W2,ei⟩:∃W,W=((W1.alloc (gJ #[.map (some bm)] 137)).alloc (gJ #[gI kJ,jX,.pointer none,jX] 142)).alloc (gJ (mG Tryz.zeroCells157 d f a (.func af aa al) (W1.heap.size+1)) 157):=⟨_,rfl⟩;obtain⟨gC,gD,gB,k2⟩:=WS W1 bm _ W2 ei;change Code.wp _ _ _ _ (((W1.alloc (gJ #[.map (some bm)] 137)).alloc (gJ #[gI kJ,jX,.pointer none,jX] 142)).alloc (gJ (mG Tryz.zeroCells157 d f a (.func af aa al) (W1.heap.size+1)) 157));rw[<-ei];clear ei;obtain⟨bB,f0⟩:∃b,b=W1.heap.size+1+1:=⟨_,rfl⟩;obtain⟨bD,f2⟩:∃b,b=W1.heap.size+1:=⟨_,rfl⟩;obtain⟨bC,f1⟩:∃b,b=W1.heap.size:=⟨_,rfl⟩;rw[<-f0]at gB|-;rw[<-f2]at gB gD|-;rw[<-f1]at gC|-;have I:bC≠bB:=by omega
 have eb:=fW (show bD≠bB by omega);have ef:=fW (show w.heap.size<=bB/\w.heap.size<=bD by have:=ee.out.size;omega);have bS:=fW gC;have ez:=fW gD;have ey:=fW gB;have eg:=fW (eC.out.kept k2 (by simp));have eA:=fW (ee.out.trans k2);have et:=fW (show bm < W2.heap.size by
  obtain⟨es,ck,ha,_⟩:=eg.out;exact(Array.getElem?_eq_some_iff.1 ha).1)
 clear gC gD gB k2 f0 f2 f1 eC;have CA:Hid (∀(c:Nat) (W:gw),c < 16->Kept [] W2 W->Calls prog 49 #[.agg #[.map (some bm)],gp c] W λe w'=>(∃v,e=ir v/\Ask bm v (isC BW c) w')/\Kept [] W w'):=fW (λc W hc l=>aag bm c BW W (eg.out.kept l (by simp)) hc aar);have fG:W2.cell? ⟨bC,0,none⟩=some (.map (some bm)):=(fX bS.out 0).trans rfl
 go_region_held3 (λw'=>w'.cell? ⟨bC,0,none⟩=some (.map (some bm))) ((first|assumption|go_keep|exact(kR I).trans (by assumption)|exact(kR I).trans ((kR I).trans (by assumption))|exact(kR I).trans ((kR I).trans ((kR I).trans (by assumption))))) ((first|(go_at_call 49;refine(CA.out 2 _ (by decide) (Kept.refl _ _).drew).mono ?_;rintro e W3 ⟨⟨v1,rfl,ek⟩,H⟩;obtain⟨f9,f8,fa,fK⟩:=ek.func;subst fK;have ep:=fW ek;have bM:Hid (Kept [] W2 W3):=fW (Kept.trans (Kept.refl _ _).drew H);have fH:W3.cell? ⟨bC,0,none⟩=some (.map (some bm)):=(fX (bM.out.at bS.out (by simp)) 0).trans rfl;have ev:=fW (vS.gZ (bm:=bm) H);clear ek H)|(go_at_call 49;refine(CA.out 4 _ (by decide) bM.out).mono ?_;rintro e W4 ⟨⟨v2,rfl,el⟩,en⟩;obtain⟨fP,fN,fR,fL⟩:=el.func;subst fL;have eq:=fW el;have bN:Hid (Kept [] W2 W4):=fW (Kept.trans bM.out en);have fI:W4.cell? ⟨bC,0,none⟩=some (.map (some bm)):=(fX (bN.out.at bS.out (by simp)) 0).trans rfl;have dQ:=fW (vS.gZ (bm:=bm) en);clear el en)|(go_at_call 49;refine(CA.out 8 _ (by decide) bN.out).mono ?_;rintro e W5 ⟨⟨v3,rfl,em⟩,eo⟩;obtain⟨fQ,fO,fS,fM⟩:=em.func;subst fM;have er:=fW em;have D:Hid (Kept [] W2 W5):=fW (Kept.trans bN.out eo);have fJ:W5.cell? ⟨bC,0,none⟩=some (.map (some bm)):=(fX (D.out.at bS.out (by simp)) 0).trans rfl;have bR:=fW (vS.gZ (bm:=bm) eo);clear em eo;have G:=fW (D.out.at ey.out (by simp));have fb:W5.cell? ⟨bB,184,none⟩=some .nilFunc:=(fX G.out 184).trans ((xg _ d f a _ bD 184 (by decide) (by decide)).trans (by kernel_rfl));have fe:=gG G.out 184;have fc:W5.cell? ⟨bB,185,none⟩=some .nilFunc:=(fX G.out 185).trans ((xg _ d f a _ bD 185 (by decide) (by decide)).trans (by kernel_rfl));have ff:=gG G.out 185;have fd:W5.cell? ⟨bB,186,none⟩=some .nilFunc:=(fX G.out 186).trans ((xg _ d f a _ bD 186 (by decide) (by decide)).trans (by kernel_rfl));have fg:=gG G.out 186)))
 obtain⟨W6,ej⟩:∃W,W=((W5.setCell ⟨bB,184,none⟩ (.func f9 f8 fa)).setCell ⟨bB,185,none⟩ (.func fP fN fR)).setCell ⟨bB,186,none⟩ (.func fQ fO fS):=⟨_,rfl⟩;rw[<-ej];obtain⟨g6,k6,f6⟩:=Wz (bm:=bm) W6 ej G.out;have K6:Kept [] w W6:=(eA.out.trans D.out).next k6 (λx hx=> .inr (by rw[List.mem_singleton.1 hx];exact ef.out.1))
 have A1:=ep.out.fr (dQ.out.trans (bR.out.trans f6));have A2:=eq.out.fr (bR.out.trans f6);have A3:=er.out.fr f6;have f3:W6.heap[bD]?=some (gJ #[gI kJ,jX,.pointer none,jX] 142):=k6.at (D.out.at ez.out (by simp)) (by have:=eb.out;simpa using this);have e0:bm < W6.heap.size:=lU (lU et.out D.out.size) k6.size;have q:Hid (∀W,Kept [] W6 W->BD bB bD W/\BS bm bB W/\xN W/\bm < W.heap.size):=by
  have b0:BD bB bD W6:=⟨(fX g6 187).trans (by
   simp only[mG,zG,Ry,sc];rfl),jn g6⟩
  have b1:BS bm bB W6:=⟨jn g6,.func f9 f8 fa,(fX g6 184).trans (by
   simp only[mG,zG,Ry,sc];rfl),A1⟩
  exact fW (λW l=>⟨b0.im l,b1.im l,HT.out.fr (.gZ (bm:=bm) (K6.trans l)),lU e0 l.size⟩)
 have dL:=fW (And.intro A1 (And.intro A2 A3));have ex:=fW g6;have eB:=fW K6;have eu:=fW f3;have dP:=fW ef.out;have ec:=fW eb.out;have dM:Hid (Kept [] W6 W6):=fW (Kept.refl _ _);clear ej g6 k6 f6 K6 A1 A2 A3 f3 e0 fG fH fI fJ fb fc fd fe ff fg G bM bN D ev dQ bR ep eq er bS ez ey eg eA et fh ee eW ed ew fr HT CA I eb ef;go_wp2_with fail;refine(Wr bm bB bD _ (q.out _ dM.out).1 (q.out _ dM.out).2.2.1 (q.out _ dM.out).2.2.2).mono ?_;rintro e W7 ⟨bX,bY,bZ,c3,c4,c5,c6,c7,c8,c9,rfl,A,l⟩;have eL:=fW A;have dN:=fW (dM.out.trans l);have fT:=fW l;clear A l;go_wp2_with fail;refine(N2 bm bB bD _ (q.out _ dN.out).1 (q.out _ dN.out).2.2.1 (q.out _ dN.out).2.2.2).mono ?_;rintro e W8 ⟨ca,cb,cc,cf,cg,ch,ci,cj,cl,cm,rfl,A,l⟩;have eM:=fW A;have dO:=fW (dN.out.trans l);have fi:=fW l;clear A l;go_wp2_with fail;refine(N3 bm bB bD _ (q.out _ dO.out).1 (q.out _ dO.out).2.2.1 (q.out _ dO.out).2.2.2).mono ?_;rintro e W9 ⟨cn,co,cp,cq,cr,ct,cu,cv,cx,cy,rfl,A,l⟩;have eN:=fW A;have br:=fW (dO.out.trans l);have fj:=fW l;clear A l;go_wp2_with fail;refine(Zh bm bB bD _ (q.out _ br.out).1 (q.out _ br.out).2.2.1 (q.out _ br.out).2.2.2).mono ?_;rintro e fs ⟨cz,cA,cB,cC,cD,cE,cF,cG,cH,cI,rfl,A,l⟩;have eO:=fW A;have bt:=fW (br.out.trans l);have fk:=fW l;clear A l;go_wp2_with fail;refine(Qw bm bB bD _ (q.out _ bt.out).1 (q.out _ bt.out).2.2.1 (q.out _ bt.out).2.2.2).mono ?_;rintro e ft ⟨cJ,cK,cL,cM,cN,cO,cP,cQ,cR,cS,rfl,A,l⟩;have eP:=fW A;have bu:=fW (bt.out.trans l);have fl:=fW l;clear A l;go_wp2_with fail;refine(Zi bm bB bD _ (q.out _ bu.out).1 (q.out _ bu.out).2.2.1 (q.out _ bu.out).2.2.2).mono ?_;rintro e fu ⟨cT,cU,cV,cW,cX,cY,cZ,d0,d1,d2,rfl,A,l⟩;have eQ:=fW A;have bv:=fW (bu.out.trans l);have fm:=fW l;clear A l;go_wp2_with fail;refine(Zf bm bB bD _ (q.out _ bv.out).2.1 (q.out _ bv.out).2.2.1 (q.out _ bv.out).2.2.2).mono ?_;rintro e fv ⟨d3,d4,d5,d6,d7,d8,d9,da,db,dc,rfl,A,l⟩;have eR:=fW A;have bw:=fW (bv.out.trans l);have fn:=fW l;clear A l;go_wp2_with fail;refine(Wq bm bB bD _ (q.out _ bw.out).1 (q.out _ bw.out).2.2.1 (q.out _ bw.out).2.2.2).mono ?_;rintro e fw ⟨dd,de,df,dg,dh,di,dj,dk,dl,dm,rfl,A,l⟩;have eS:=fW A;have bx:=fW (bw.out.trans l);have fo:=fW l;clear A l;go_wp2_with fail;refine(Lh bm bB bD _ (q.out _ bx.out).1 (q.out _ bx.out).2.2.1 (q.out _ bx.out).2.2.2).mono ?_;rintro e fx ⟨dp,dq,dr,ds,dt,du,dv,dw,dx,dy,rfl,A,l⟩;have eT:=fW A;have bz:=fW (bx.out.trans l);have fp:=fW l;clear A l;go_wp2_with fail;refine(Qx bm bB bD _ (q.out _ bz.out).1 (q.out _ bz.out).2.2.1 (q.out _ bz.out).2.2.2).mono ?_;rintro e fy ⟨dz,dA,dB,dD,dE,dF,dG,dH,dJ,dK,rfl,A,l⟩;have eU:=fW A;have bA:=fW (bz.out.trans l);have fq:=fW l;clear A l;go_wp2_with fail;refine(GB bm bB bD _ (q.out _ bA.out).1 (q.out _ bA.out).2.2.1 (q.out _ bA.out).2.2.2).mono ?_;rintro e fz ⟨J,K,N,O,U,V,Y,Z,a0,a1,rfl,A,l⟩;have dS:=fW A;have bE:=fW (bA.out.trans l);have eD:=fW l;clear A l;go_wp2_with fail;refine(Lg bm bB bD _ (q.out _ bE.out).1 (q.out _ bE.out).2.2.1 (q.out _ bE.out).2.2.2).mono ?_;rintro e fA ⟨a2,a3,a4,a5,a6,a7,a8,a9,ab,ac,rfl,A,l⟩;have dT:=fW A;have bF:=fW (bE.out.trans l);have eE:=fW l;clear A l;go_wp2_with fail;refine(abx bm bB bD _ (q.out _ bF.out).1 (q.out _ bF.out).2.2.1 (q.out _ bF.out).2.2.2).mono ?_;rintro e fB ⟨ad,ae,ag,ah,ai,aj,ak,am,an,ao,rfl,A,l⟩;have dU:=fW A;have bG:=fW (bF.out.trans l);have eF:=fW l;clear A l;go_wp2_with fail;refine(Zg bm bB bD _ (q.out _ bG.out).1 (q.out _ bG.out).2.2.1 (q.out _ bG.out).2.2.2).mono ?_;rintro e fC ⟨ap,aq,ar,au,aw,ax,ay,az,aA,aB,rfl,A,l⟩;have dV:=fW A;have bH:=fW (bG.out.trans l);have eG:=fW l;clear A l;go_wp2_with fail;refine(S8 bm bB bD _ (q.out _ bH.out).1 (q.out _ bH.out).2.2.1 (q.out _ bH.out).2.2.2).mono ?_;rintro e fD ⟨aC,aD,aE,aF,aG,aH,aI,aJ,aK,aL,rfl,A,l⟩;have dW:=fW A;have bI:=fW (bH.out.trans l);have eH:=fW l;clear A l;go_wp2_with fail;refine(D0 bm bB bD _ (q.out _ bI.out).1 (q.out _ bI.out).2.2.1 (q.out _ bI.out).2.2.2).mono ?_;rintro e fE ⟨aM,aN,aO,aP,aQ,aR,aS,aT,aU,aV,rfl,A,l⟩;have dX:=fW A;have bJ:=fW (bI.out.trans l);have eI:=fW l;clear A l;go_wp2_with fail;refine(Qv bm bB bD _ (q.out _ bJ.out).1 (q.out _ bJ.out).2.2.1 (q.out _ bJ.out).2.2.2).mono ?_;rintro e fF ⟨aW,aX,aY,aZ,ba,bb,bc,bd,be,bf,rfl,A,l⟩;have dY:=fW A;have bK:=fW (bJ.out.trans l);have eJ:=fW l;clear A l;go_wp2_with fail;refine(EZ bm bB bD _ (q.out _ bK.out).1 (q.out _ bK.out).2.2.1 (q.out _ bK.out).2.2.2).mono ?_;rintro e z ⟨bg,bh,bi,bj,bk,bl,bn,bo,bp,bq,rfl,A,l⟩;have dZ:=fW A;have bL:=fW (bK.out.trans l);have eK:=fW l;clear A l;have ea:Kept [] z z:=Kept.refl _ _;have e9:Kept [] fF z:=eK.out.trans ea;have e8:Kept [] fE z:=eJ.out.trans e9;have e7:Kept [] fD z:=eI.out.trans e8;have e6:Kept [] fC z:=eH.out.trans e7;have e5:Kept [] fB z:=eG.out.trans e6;have e4:Kept [] fA z:=eF.out.trans e5;have e3:Kept [] fz z:=eE.out.trans e4;have E9:Kept [] fy z:=eD.out.trans e3;have E8:Kept [] fx z:=fq.out.trans E9;have E7:Kept [] fw z:=fp.out.trans E8;have E6:Kept [] fv z:=fo.out.trans E7;have E5:Kept [] fu z:=fn.out.trans E6;have E4:Kept [] ft z:=fm.out.trans E5;have E3:Kept [] fs z:=fl.out.trans E4;have E2:Kept [] W9 z:=fk.out.trans E3;have E1:Kept [] W8 z:=fj.out.trans E2;have E0:Kept [] W7 z:=fi.out.trans E1;obtain⟨cs,bQ⟩:∃c:List gP,c=[bX,bY,bZ,c3,c4,c5,c6,c7,c8,c9,ca,cb,cc,cf,cg,ch,ci,cj,cl,cm,cn,co,cp,cq,cr,ct,cu,cv,cx,cy,cz,cA,cB,cC,cD,cE,cF,cG,cH,cI,cJ,cK,cL,cM,cN,cO,cP,cQ,cR,cS,cT,cU,cV,cW,cX,cY,cZ,d0,d1,d2,d3,d4,d5,d6,d7,d8,d9,da,db,dc,dd,de,df,dg,dh,di,dj,dk,dl,dm,dp,dq,dr,ds,dt,du,dv,dw,dx,dy,dz,dA,dB,dD,dE,dF,dG,dH,dJ,dK,J,K,N,O,U,V,Y,Z,a0,a1,a2,a3,a4,a5,a6,a7,a8,a9,ab,ac,ad,ae,ag,ah,ai,aj,ak,am,an,ao,ap,aq,ar,au,aw,ax,ay,az,aA,aB,aC,aD,aE,aF,aG,aH,aI,aJ,aK,aL,aM,aN,aO,aP,aQ,aR,aS,aT,aU,aV,aW,aX,aY,aZ,ba,bb,bc,bd,be,bf,bg,bh,bi,bj,bk,bl,bn,bo,bp,bq]:=⟨_,rfl⟩;have HC:=fW bQ;have eh:Hid (AN bm bB bD cs z):=by
  refine fW ⟨by rw[bQ];rfl,?_⟩;rw[bQ];intro m sp F;have f4:m < 18:=(List.getElem?_eq_some_iff.1 F).1;obtain rfl|rfl|rfl|rfl|rfl|rfl|rfl|rfl|rfl|rfl|rfl|rfl|rfl|rfl|rfl|rfl|rfl|rfl:m=0\/m=1\/m=2\/m=3\/m=4\/m=5\/m=6\/m=7\/m=8\/m=9\/m=10\/m=11\/m=12\/m=13\/m=14\/m=15\/m=16\/m=17:=by omega
  .have e:=jK F;subst e;exact⟨_,_,_,_,_,_,_,_,_,_,rfl,eL.out.im E0⟩
  .have e:=jK F;subst e;exact⟨_,_,_,_,_,_,_,_,_,_,rfl,eM.out.im E1⟩
  .have e:=jK F;subst e;exact⟨_,_,_,_,_,_,_,_,_,_,rfl,eN.out.im E2⟩
  .have e:=jK F;subst e;exact⟨_,_,_,_,_,_,_,_,_,_,rfl,eO.out.im E3⟩
  .have e:=jK F;subst e;exact⟨_,_,_,_,_,_,_,_,_,_,rfl,eP.out.im E4⟩
  .have e:=jK F;subst e;exact⟨_,_,_,_,_,_,_,_,_,_,rfl,eQ.out.im E5⟩
  .have e:=jK F;subst e;exact⟨_,_,_,_,_,_,_,_,_,_,rfl,eR.out.im E6⟩
  .have e:=jK F;subst e;exact⟨_,_,_,_,_,_,_,_,_,_,rfl,eS.out.im E7⟩
  .have e:=jK F;subst e;exact⟨_,_,_,_,_,_,_,_,_,_,rfl,eT.out.im E8⟩
  .have e:=jK F;subst e;exact⟨_,_,_,_,_,_,_,_,_,_,rfl,eU.out.im E9⟩
  .have e:=jK F;subst e;exact⟨_,_,_,_,_,_,_,_,_,_,rfl,dS.out.im e3⟩
  .have e:=jK F;subst e;exact⟨_,_,_,_,_,_,_,_,_,_,rfl,dT.out.im e4⟩
  .have e:=jK F;subst e;exact⟨_,_,_,_,_,_,_,_,_,_,rfl,dU.out.im e5⟩
  .have e:=jK F;subst e;exact⟨_,_,_,_,_,_,_,_,_,_,rfl,dV.out.im e6⟩
  .have e:=jK F;subst e;exact⟨_,_,_,_,_,_,_,_,_,_,rfl,dW.out.im e7⟩
  .have e:=jK F;subst e;exact⟨_,_,_,_,_,_,_,_,_,_,rfl,dX.out.im e8⟩
  .have e:=jK F;subst e;exact⟨_,_,_,_,_,_,_,_,_,_,rfl,dY.out.im e9⟩
  .have e:=jK F;subst e;exact⟨_,_,_,_,_,_,_,_,_,_,rfl,dZ.out.im ea⟩
 have dR:Hid (cs.toArray.all (·.oneCell')=true):=by
  refine fW (all_oneCell_toArray ?_);rw[bQ,show[bX,bY,bZ,c3,c4,c5,c6,c7,c8,c9,ca,cb,cc,cf,cg,ch,ci,cj,cl,cm,cn,co,cp,cq,cr,ct,cu,cv,cx,cy,cz,cA,cB,cC,cD,cE,cF,cG,cH,cI,cJ,cK,cL,cM,cN,cO,cP,cQ,cR,cS,cT,cU,cV,cW,cX,cY,cZ,d0,d1,d2,d3,d4,d5,d6,d7,d8,d9,da,db,dc,dd,de,df,dg,dh,di,dj,dk,dl,dm,dp,dq,dr,ds,dt,du,dv,dw,dx,dy,dz,dA,dB,dD,dE,dF,dG,dH,dJ,dK,J,K,N,O,U,V,Y,Z,a0,a1,a2,a3,a4,a5,a6,a7,a8,a9,ab,ac,ad,ae,ag,ah,ai,aj,ak,am,an,ao,ap,aq,ar,au,aw,ax,ay,az,aA,aB,aC,aD,aE,aF,aG,aH,aI,aJ,aK,aL,aM,aN,aO,aP,aQ,aR,aS,aT,aU,aV,aW,aX,aY,aZ,ba,bb,bc,bd,be,bf,bg,bh,bi,bj,bk,bl,bn,bo,bp,bq]=[bX,bY,bZ,c3,c4,c5,c6,c7,c8,c9]++([ca,cb,cc,cf,cg,ch,ci,cj,cl,cm]++([cn,co,cp,cq,cr,ct,cu,cv,cx,cy]++([cz,cA,cB,cC,cD,cE,cF,cG,cH,cI]++([cJ,cK,cL,cM,cN,cO,cP,cQ,cR,cS]++([cT,cU,cV,cW,cX,cY,cZ,d0,d1,d2]++([d3,d4,d5,d6,d7,d8,d9,da,db,dc]++([dd,de,df,dg,dh,di,dj,dk,dl,dm]++([dp,dq,dr,ds,dt,du,dv,dw,dx,dy]++([dz,dA,dB,dD,dE,dF,dG,dH,dJ,dK]++([J,K,N,O,U,V,Y,Z,a0,a1]++([a2,a3,a4,a5,a6,a7,a8,a9,ab,ac]++([ad,ae,ag,ah,ai,aj,ak,am,an,ao]++([ap,aq,ar,au,aw,ax,ay,az,aA,aB]++([aC,aD,aE,aF,aG,aH,aI,aJ,aK,aL]++([aM,aN,aO,aP,aQ,aR,aS,aT,aU,aV]++([aW,aX,aY,aZ,ba,bb,bc,bd,be,bf]++([bg,bh,bi,bj,bk,bl,bn,bo,bp,bq])))))))))))))))))from rfl];simp only[List.mem_append];rintro v (h|h|h|h|h|h|h|h|h|h|h|h|h|h|h|h|h|h)
  .exact eL.out.one v h
  .exact eM.out.one v h
  .exact eN.out.one v h
  .exact eO.out.one v h
  .exact eP.out.one v h
  .exact eQ.out.one v h
  .exact eR.out.one v h
  .exact eS.out.one v h
  .exact eT.out.one v h
  .exact eU.out.one v h
  .exact dS.out.one v h
  .exact dT.out.one v h
  .exact dU.out.one v h
  .exact dV.out.one v h
  .exact dW.out.one v h
  .exact dX.out.one v h
  .exact dY.out.one v h
  .exact dZ.out.one v h
 have B:=fW (bL.out.at ex.out (by simp));have eV:Hid (z.there bB 4 cs.toArray.size):=by
  refine fW (λj hj=>⟨?_,gG B.out _⟩);have:cs.toArray.size=180:=by rw[bQ];rfl
  rw[fX B.out,AJ (by simp only[Ry,Bx,sc];omega)];rfl
 clear E0 E1 E2 E3 E4 E5 E6 E7 E8 E9 e3 e4 e5 e6 e7 e8 e9 ea;rename_i KK bT;refine bT _ _ ?_;clear bT;refine wpList_buildTo rfl 148 _ rfl _ rfl cs.toArray (by rw[HC.out];kernel_rfl) ?_;clear HC bQ;refine AG rfl _ rfl (iC bB) (by kernel_rfl) ?_;refine AG rfl _ rfl (jF bB 4) (by kernel_rfl) ?_;refine wpList_store_mid rfl 148 _ _ rfl bB 4 cs.toArray rfl rfl eV.out (by rw[show cs.toArray.size=180 from eh.out.1];kernel_rfl) dR.out ?_;obtain⟨bP,bO⟩:∃W,W=z.setCells bB 4 cs.toArray.toList:=⟨_,rfl⟩;rw[<-bO];have bW:Kept [bB] z bP:=by rw[bO];exact Kept.setCells (.inl (by simp)) _ _ (Kept.refl _ _)
 have eY:vS bm z bP:=⟨_,bW,λx hx _=>by
  have e:=List.mem_singleton.1 hx;subst e;exact .inl ⟨_,_,_,B.out,by decide⟩⟩
 have eX:Kept [] w bP:=(eB.out.trans bL.out).next bW (λx hx=> .inr (by rw[List.mem_singleton.1 hx];exact dP.out.1))
 have bU:=nF cs z bB _ _ _ 4 B.out;rw[show z.setCells bB 4 cs=bP from bO.symm]at bU;have FN:Hid (acQ bm bB bD d f a (.func af aa al) w bP):=by
  have f6:vS bm W6 bP:=(vS.gZ bL.out).trans eY;exact fW ⟨eX,dP.out.1,⟨_,cs,_,_,_,bU,rfl,eh.out.YG bW B.out,dL.out.1.fr f6,dL.out.2.1.fr f6,dL.out.2.2.fr f6⟩,bW.at (bL.out.at eu.out (by simp)) (by have:=ec.out;simpa using this),ec.out,dP.out.2⟩
 clear bW eY eX bU bO eh dR B eV dL ex eB eu dP ec q;generalize Value.agg cs.toArray=fU;rename_i KK bT;refine bT _ _ ?_;clear bT;simp only[Act.put,jA,jB,jC];go_wp2;go_ret;exact⟨bm,bB,bD,rfl,FN.out⟩
structure Loc where
 gQ:Nat->Nat
 av:Nat->gP
 kv:Nat->gP
 ov:gP
 cv:gP
 wv:gP
structure Env where
 bm:Nat
 bB:Nat
 bR:Nat
 C0:jO
 R0:jO
 EH:Nat
 w0:gw
 tv:gP
 ta:kY
 bs:Nat
 wv:Option (gP×List (Nat×Nat×gz)):=none
variable {E : Env}
def Nd.map (f:Nat->Nat):Nd->Nd
 | .el k=> .el (f k)
 | .tx k=> .tx (f k)
 | .cm k=> .cm (f k)
 | .dt k=> .dt (f k)
abbrev iD (f:Nat->Nat) (x:jg):jg:=x.map f
def flat (gM:kY):List gP:=gM.flatMap λa=>[gI a.1,gI a.2]
abbrev yB (w:gw) (v:gP) (gM:kY):Prop:=w.ownsRow 0 275 2 v gM.length (flat gM)
abbrev M3 (x:Nat×Nat×gz):gP:= .iface 167 (.agg #[gp x.1,gp x.2.1,gI x.2.2])
def kV (bs:Nat) (L:Loc) (w:gw) (i:Nat):Bj->Prop
 | .el e=>El bs w (L.gQ i) e.name (L.av i) (iD L.gQ e.je) (L.kv i) (e.kids.map (Nd.map L.gQ))/\yB w (L.av i) e.gV/\e.gV.length<=4096
 | .tx s=>w.heap[L.gQ i]?=some (gJ #[gI s] 260)
 | .cm s=>w.heap[L.gQ i]?=some (gJ #[gI s] 218)
 | .dt s=>w.heap[L.gQ i]?=some (gJ #[gI s] 222)
structure jv (E:Env) (L:Loc) (σ:Ab) (C:jO):Prop where
 size:C.size=199
 low:∀i,i < 188->C[i]?=E.C0[i]?
 gA:C[188]?=some L.ov
 act:C[189]?=some L.cv
 head:C[190]?=some (kh (iD L.gQ σ.head))
 form:C[191]?=some (kh (iD L.gQ σ.form))
 mode:C[192]?=some (gp σ.mode)
 kept:C[193]?=some (gp σ.kept)
 wait:C[194]?=some L.wv
 ID:C[195]?=some (.bool σ.iS)
 jL:C[196]?=some (.bool σ.jL)
 gQ:C[197]?=some (gp σ.gQ)
 behind:C[198]?=some (.bool σ.behind)
structure OD (E:Env) (bD:Nat):Prop where
 Gi:∃cs,(∀k,k < 180->E.C0[4+k]?=cs[k]?)/\AN E.bm E.bB bD cs E.w0
 txt:E.C0[3]?=some (.func (.func 36) #[gL E.bR] #[])
 spec:∃v,E.C0[184]?=some v/\Ask E.bm v lc E.w0
 VS:∃v,E.C0[185]?=some v/\Ask E.bm v uK E.w0
 Vp:∃v,E.C0[186]?=some v/\Ask E.bm v iQ E.w0
 xb:E.C0[187]?=some (gL bD)
structure Rel (E:Env) (L:Loc) (σ:Ab) (w:gw):Prop where
 fr:Fr E.bs E.w0 w
 env:OD E (L.gQ 0)
 DQ:E.C0[0]?=some (gp σ.pQ)/\E.C0[1]?=some (gp σ.qO)/\E.C0[2]?=some (gp σ.oZ)/\σ.pQ<=64/\σ.qO<=32/\σ.oZ<=16
 sL:∀i nd,σ.nodes[i]?=some nd->kV E.bs L w i nd
 inj:∀i j,L.gQ i=L.gQ j->i=j
 A0:∀i j g,i < σ.nodes.length->j < σ.nodes.length->i≠j->(L.kv i).ownBlock=some g->(L.kv j).ownBlock≠some g
 F5:∀i,i < σ.nodes.length->σ.ib i=none->(L.kv i).ownBlock=none
 uq:∀i j e g,σ.ib i=some e->nj e.name=true->j < σ.nodes.length->i≠j->(L.av i).ownBlock=some g->(L.av j).ownBlock≠some g
 Ep:∀i,i < σ.nodes.length->σ.ib i=none->(L.av i).ownBlock=none
 wf:Wf σ
 iw:∃C,w.heap[E.bB]?=some (gJ C 157)/\jv E L σ C
 o0:w.ownsRow E.bs 57 1 L.ov σ.gA.length (σ.gA.map λx=>kh (iD L.gQ x))
 pX:w.ownsRow E.bs 57 1 L.cv σ.act.length (σ.act.map λx=>kh (iD L.gQ x))
 F9:∀g,L.ov.ownBlock=some g->L.cv.ownBlock≠some g
 wT:σ.gA.length<=4096
 Et:σ.act.length<=4096
 oT:w.ownsRow E.bs 97 1 L.wv σ.waiting.length (σ.waiting.map M3)
 Lw:σ.waiting.length<=4096
 rd:w.heap[E.bR]?=some (gJ ((E.R0.setIfInBounds E.EH (gI σ.nC)).setIfInBounds (E.EH+1) (.bool σ.iZ)) 132)
 QJ:E.EH+1 < E.R0.size
 tok:yB w E.tv E.ta
 Lt:E.ta.length<=4096
 bz:E.bs<=E.w0.heap.size
 bB:E.bs<=E.bB
 bR:E.bs<=E.bR
 bN:∀i,i < σ.nodes.length->E.bs<=L.gQ i
 Da:σ.fresh=true->∀i g,i < σ.nodes.length->E.tv.ownBlock=some g->(L.av i).ownBlock≠some g
 ab:∀i g,i < σ.nodes.length->(L.av i).ownBlock=some g->E.bs<=g
 tb:∀g,E.tv.ownBlock=some g->E.bs<=g
 Lv:∀p,E.wv=some p->L.wv=p.1/\σ.waiting=p.2
def KT (bs:Nat) (T:List TypeId) (w w':gw):Prop:=∃S,Kept S w w'/\∀k∈S,k < w.heap.size->(∃c t m,w.heap[k]?=some (.cells c t m)/\t∈T)/\bs<=k
def KT.size (h:KT bs T w w'):w.heap.size<=w'.heap.size:=by have⟨S,hk,_⟩:=h;exact hk.size
def KT.jT (h:Kept S w w') (d:∀k∈S,k < w.heap.size->(∃c t m,w.heap[k]?=some (.cells c t m)/\t∈T)/\bs<=k):KT bs T w w':=⟨S,h,d⟩
def KT.gZ (h:Kept [] w w'):KT bs T w w':=⟨[],h,λ_ d=>by cases d⟩
theorem KT.mono {d : List TypeId} (h:KT bs T w w') (l:∀t∈T,t∈d):KT bs d w w':=by
 grind[KT]
def KT.fr (h:KT bs T w w') (d:∀t∈T,t∈U6):Fr bs w w':=h.mono d
theorem KT.at (h:KT bs T w w') (d:w.heap[g]?=some (.cells c t m)) (q:t∉T):w'.heap[g]?=some (.cells c t m):=by
 have⟨S,hk,hS⟩:=h;refine hk.at d λl=>?_
 grind
theorem KT.row (h:KT bs T w w') {e : TypeId} {d : Nat} (z:w.ownsRow base e d v n xs) (F:e∉T):w'.ownsRow base e d v n xs:=by
 refine⟨z.1,?_⟩;rcases z.2 with G|⟨g,l,q,rfl,A,B,D⟩
 .grind
 .exact .inr ⟨g,l,q,rfl,A,h.at B F,D⟩
theorem rX {e : TypeId} {d : Nat} (z:w.ownsRow base e d v n xs) (h:v.ownBlock=some g):∃c m,w.heap[g]?=some (.cells c e m):=by
 rcases z.2 with⟨e1,_⟩|⟨A,l,q,rfl,_,B,_⟩
 .rw[e1]at h;cases h
 .obtain rfl:=jK h
  grind
theorem Cs {e : TypeId} {d : Nat} (q:w.ownsRow base e d v n xs) (z:w.heap[b]?=some (.cells c t m)) (A:t≠e):v.ownBlock≠some b:=by
 intro l;have⟨c',m',h⟩:=rX q l
 grind
def Cr {e : TypeId} {d : Nat} (l:w.ownsRow base e d v n xs) (h:v.ownBlock=some g):g < w.heap.size:=(l.lt g h).2
def TB:List TypeId:=[142,183,260,218,222,275]
def kV.kt {q : Nat} {L:Loc} {nd:Bj} (h:kV q L w i nd) (l:KT bs T w w') (d:∀t∈TB,t∉T):kV q L w' i nd:=by
 cases nd with
 |el e=>exact⟨⟨l.at h.1.iw (d _ (by decide)),l.row h.1.row (d _ (by decide)),h.1.le,h.1.TM⟩,l.row h.2.1 (d _ (by decide)),h.2.2⟩
 |tx s=>exact l.at h (d _ (by decide))
 |cm s=>exact l.at h (d _ (by decide))
 |dt s=>exact l.at h (d _ (by decide))
def kV.kept {L:Loc} {nd:Bj} (h:kV bs L w i nd) (d:Kept S w w') (l:L.gQ i∉S) (q:∀g,(L.kv i).ownBlock=some g->g∉S) (z:∀g,(L.av i).ownBlock=some g->g∉S):kV bs L w' i nd:=by
 cases nd with
 |el e=>exact⟨h.1.kept d l q,d.ownsRow h.2.1 z,h.2.2⟩
 |tx s=>exact d.at h l
 |cm s=>exact d.at h l
 |dt s=>exact d.at h l
def Bj.typ:Bj->TypeId
 | .el _=>142
 | .tx _=>260
 | .cm _=>218
 | .dt _=>222
variable {nd : Bj}
def kV.typ {L:Loc} (h:kV bs L w i nd):∃c,w.heap[L.gQ i]?=some (gJ c nd.typ):=by
 cases nd with
 |el e=>exact⟨_,h.1.iw⟩
 |tx s=>exact⟨_,h⟩
 |cm s=>exact⟨_,h⟩
 |dt s=>exact⟨_,h⟩
theorem rK (d:∀i j,f i=f j->i=j) (h:iD f x=iD f y):x=y:=by
 cases x<;>cases y<;>simp_all[iD]
 grind
theorem x9 (f:Nat->Nat) (xs:kO) (n:Int):iB (xs.map (iD f)) n=iD f (iB xs n):=by
 grind[iB]
theorem AX (d:∀i j,f i=f j->i=j) (x:jg):∀xs:kO,(xs.map (iD f)).idxOf (iD f x)=xs.idxOf x
 |[]=>rfl
 |y::xs=>by
  rw[yy,List.idxOf_cons,List.idxOf_cons,AX d x xs]
  by_cases h:y=x
  .grind
  .have l:iD f y≠iD f x:=λe=>h (rK d e)
   grind
def Mf (d:∀i j,f i=f j->i=j) (xs:kO) (x:jg):posOf (xs.map (iD f)) (iD f x)=posOf xs x:=by
 unfold posOf;rw[AX d,BK]
theorem mem_map (d:∀i j,f i=f j->i=j) (xs:kO) (x:jg):iD f x∈xs.map (iD f)↔x∈xs:=by
 constructor
 .intro h;have⟨y,hy,e⟩:=List.mem_map.1 h;rw[<-rK d e];exact hy
 grind
theorem vG (d:∀i j,f i=f j->i=j) (x:jg):∀xs:kO,(xs.map (iD f)).erase (iD f x)=(xs.erase x).map (iD f)
 |[]=>rfl
 |y::xs=>by
  rw[yy,List.erase_cons,List.erase_cons,vG d x xs]
  by_cases h:y=x
  .grind
  .have l:iD f y≠iD f x:=λe=>h (rK d e)
   grind
def Jy (d:∀i j,f i=f j->i=j) (xs:kO) (x y:jg):pM (xs.map (iD f)) (iD f x) (iD f y)=(pM xs x y).map (iD f):=by
 unfold pM;rw[AX d]
 by_cases h:x∈xs
 .rw[gF h,gF ((mem_map d xs x).2 h),List.map_set]
 .rw[gR h,gR (λe=>h ((mem_map d xs x).1 e))]
def BA (d:∀i j,f i=f j->i=j) (xs:kO) (x y:jg):jb (xs.map (iD f)) (iD f x) (iD f y)=(jb xs x y).map (iD f):=by
 unfold jb;rw[AX d]
 by_cases h:x∈xs
 .rw[gF h,gF ((mem_map d xs x).2 h)];simp
 .rw[gR h,gR (λe=>h ((mem_map d xs x).1 e))]
theorem Md (l:∀i j,f i=f j->i=j) (xs:kO) (x:jg):og (xs.map (iD f)) (iD f x)=(og xs x).map (iD f):=by
 have h:∀d:kO,(d.map (iD f)).dropWhile (·≠iD f x)=(d.dropWhile (·≠x)).map (iD f):=by
  intro d
  induction d with
  |nil=>rfl
  |cons y d ih=>
   rw[yy,List.dropWhile_cons,List.dropWhile_cons]
   by_cases h:y=x
   .grind
   .have q:iD f y≠iD f x:=λe=>h (rK l e)
    grind
 unfold og;rw[<-UY,h];simp
theorem jv.abL {L:Loc} (h:jv E L σ C) (v:gP) (zs:kO):jv E {L with ov:=v} {σ with gA:=zs} (C.setIfInBounds 188 v):=by
 cases h;constructor<;>grind
theorem jv.abK {L:Loc} (h:jv E L σ C) (v:gP) (zs:kO):jv E {L with cv:=v} {σ with act:=zs} (C.setIfInBounds 189 v):=by
 cases h;constructor<;>grind
theorem jv.yl {L:Loc} (h:jv E L σ C) (x:jg):jv E L {σ with head:=x} (C.setIfInBounds 190 (kh (iD L.gQ x))):=by
 cases h;constructor<;>grind
theorem jv.uN {L:Loc} (h:jv E L σ C) (x:jg):jv E L {σ with form:=x} (C.setIfInBounds 191 (kh (iD L.gQ x))):=by
 cases h;constructor<;>grind
theorem jv.jc {L:Loc} (h:jv E L σ C) (x:Nat):jv E L {σ with mode:=x} (C.setIfInBounds 192 (gp x)):=by
 cases h;constructor<;>grind
theorem jv.ym {L:Loc} (h:jv E L σ C) (x:Nat):jv E L {σ with kept:=x} (C.setIfInBounds 193 (gp x)):=by
 cases h;constructor<;>grind
theorem jv.Zs {L:Loc} (h:jv E L σ C) (v:gP) (d:List (Nat×Nat×gz)):jv E {L with wv:=v} {σ with waiting:=d} (C.setIfInBounds 194 v):=by
 cases h;constructor<;>grind
theorem jv.yk {L:Loc} (h:jv E L σ C) (x:Bool):jv E L {σ with iS:=x} (C.setIfInBounds 195 (.bool x)):=by
 cases h;constructor<;>grind
theorem jv.qy {L:Loc} (h:jv E L σ C) (x:Bool):jv E L {σ with jL:=x} (C.setIfInBounds 196 (.bool x)):=by
 cases h;constructor<;>grind
theorem jv.Cv {L:Loc} (h:jv E L σ C) (x:Nat):jv E L {σ with gQ:=x} (C.setIfInBounds 197 (gp x)):=by
 cases h;constructor<;>grind
theorem jv.sj {L:Loc} (h:jv E L σ C) (x:Bool):jv E L {σ with behind:=x} (C.setIfInBounds 198 (.bool x)):=by
 cases h;constructor<;>grind
theorem kV.loc {L L':Loc} (h:kV bs L w i nd) (e1:L'.gQ=L.gQ) (e2:L'.av=L.av) (d:L'.kv=L.kv):kV bs L' w i nd:=by
 cases nd<;>(grind[kV])
theorem Rel.TN {L:Loc} (h:Rel E L σ w):∃C,w.heap[E.bB]?=some (gJ C 157):=by
 have⟨C,hb,_⟩:=h.iw;grind
def Rel.free {L:Loc} (h:Rel E L σ w) (j:Nat):w.frozen? ⟨E.bB,j,none⟩=false:=by
 have⟨C,hb⟩:=h.TN;exact gG hb j
theorem Rel.lt {L:Loc} (h:Rel E L σ w):E.bB < w.heap.size:=by
 have⟨C,hb⟩:=h.TN;grind
def Rel.low {L:Loc} (h:Rel E L σ w) (d:j < 188) (l:E.C0[j]?=some v):w.cell? ⟨E.bB,j,none⟩=some v:=by
 have⟨C,hb,hC⟩:=h.iw;rw[fX hb];exact(hC.low j d).trans l
def Rel.Vq {L:Loc} (h:Rel E L σ w):w.cell? ⟨E.bB,190,none⟩=some (kh (iD L.gQ σ.head)):=by
 have⟨C,hb,hC⟩:=h.iw;rw[fX hb];exact hC.head
def Rel.RW {L:Loc} (h:Rel E L σ w):w.cell? ⟨E.bB,191,none⟩=some (kh (iD L.gQ σ.form)):=by
 have⟨C,hb,hC⟩:=h.iw;rw[fX hb];exact hC.form
def Rel.rH {L:Loc} (h:Rel E L σ w):w.cell? ⟨E.bB,192,none⟩=some (gp σ.mode):=by
 have⟨C,hb,hC⟩:=h.iw;rw[fX hb];exact hC.mode
def Rel.RX {L:Loc} (h:Rel E L σ w):w.cell? ⟨E.bB,193,none⟩=some (gp σ.kept):=by
 have⟨C,hb,hC⟩:=h.iw;rw[fX hb];exact hC.kept
def Rel.aam {L:Loc} (h:Rel E L σ w):w.cell? ⟨E.bB,194,none⟩=some L.wv:=by
 have⟨C,hb,hC⟩:=h.iw;rw[fX hb];exact hC.wait
def Rel.XM {L:Loc} (h:Rel E L σ w):w.cell? ⟨E.bB,195,none⟩=some (.bool σ.iS):=by
 have⟨C,hb,hC⟩:=h.iw;rw[fX hb];exact hC.ID
def Rel.XN {L:Loc} (h:Rel E L σ w):w.cell? ⟨E.bB,196,none⟩=some (.bool σ.jL):=by
 have⟨C,hb,hC⟩:=h.iw;rw[fX hb];exact hC.jL
def Rel.RY {L:Loc} (h:Rel E L σ w):w.cell? ⟨E.bB,197,none⟩=some (gp σ.gQ):=by
 have⟨C,hb,hC⟩:=h.iw;rw[fX hb];exact hC.gQ
def Rel.XO {L:Loc} (h:Rel E L σ w):w.cell? ⟨E.bB,198,none⟩=some (.bool σ.behind):=by
 have⟨C,hb,hC⟩:=h.iw;rw[fX hb];exact hC.behind
def Rel.im {L:Loc} (h:Rel E L σ w) (l:Kept [] w w'):Rel E L σ w':=by
 have d:KT E.bs [] w w':= .gZ l;have⟨C,hb,hC⟩:=h.iw;exact {h with
  fr:=h.fr.trans (.gZ l)
  sL:=λi nd q=>(h.sL i nd q).kt d (by simp)
  iw:=⟨C,d.at hb (by simp),hC⟩
  o0:=d.row h.o0 (by simp)
  pX:=d.row h.pX (by simp)
  oT:=d.row h.oT (by simp)
  rd:=d.at h.rd (by simp)
  tok:=d.row h.tok (by simp)}
def Rel.bw {L:Loc} (h:Rel E L σ w):E.bs<=w.heap.size:=jN h.bz h.fr.size
def To (E:Env) (L:Loc) (σ':Ab) (w w':gw):Prop:=∃L',L'.gQ=L.gQ/\Rel E L' σ' w'/\Fr E.bs w w'
def Rel.to {L:Loc} (h:Rel E L σ w') (d:Fr E.bs w w'):To E L σ w w':=⟨L,rfl,h,d⟩
def Rel.store {L:Loc} (h:Rel E L σ w) (j:Nat) (u:gP) (W:∀C,jv E L σ C->jv E L σ' (C.setIfInBounds j u)) (I:Wf σ') (d:σ'.nodes=σ.nodes:=by rfl) (N:σ'.gA=σ.gA:=by rfl) (J:σ'.act=σ.act:=by rfl) (H:σ'.waiting=σ.waiting:=by rfl) (O:σ'.nC=σ.nC:=by rfl) (U:σ'.iZ=σ.iZ:=by rfl) (V:σ'.fresh=σ.fresh:=by rfl) (D:σ'.pQ=σ.pQ:=by rfl) (F:σ'.qO=σ.qO:=by rfl) (G:σ'.oZ=σ.oZ:=by rfl):Rel E L σ' (w.setCell ⟨E.bB,j,none⟩ u):=by
 obtain⟨C,K,Y⟩:=h.iw;have A:Kept [E.bB] w (w.setCell ⟨E.bB,j,none⟩ u):=(Kept.refl _ w).setCell (.inl (by simp)) u;have z:KT E.bs [157] w (w.setCell ⟨E.bB,j,none⟩ u):= .jT A (λk A _=>by simp at A;subst A;exact⟨⟨_,_,_,K,by simp⟩,h.bB⟩);have B:∀i,σ'.ib i=σ.ib i:=λi=>by unfold Ab.ib;rw[d]
 exact {h with
  fr:=h.fr.trans (z.fr (by decide))
  DQ:=by rw[D,F,G];exact h.DQ
  sL:=λi nd q=>(h.sL i nd (by rw[<-d];exact q)).kt z (by decide)
  bN:=by rw[d];exact h.bN
  A0:=by rw[d];exact h.A0
  F5:=λi q l=>h.F5 i (by rw[<-d];exact q) (by rw[<-B];exact l)
  uq:=λi j e g q Z hj=>h.uq i j e g (by rw[<-B];exact q) Z (by rw[<-d];exact hj)
  Ep:=λi q l=>h.Ep i (by rw[<-d];exact q) (by rw[<-B];exact l)
  wf:=I
  iw:=⟨_,gh K j u,W C Y⟩
  o0:=by rw[N];exact z.row h.o0 (by decide)
  pX:=by rw[J];exact z.row h.pX (by decide)
  wT:=by rw[N];exact h.wT
  Et:=by rw[J];exact h.Et
  oT:=by rw[H];exact z.row h.oT (by decide)
  Lw:=by rw[H];exact h.Lw
  rd:=by rw[O,U];exact z.at h.rd (by decide)
  tok:=z.row h.tok (by decide)
  Da:=by rw[V,d];exact h.Da
  ab:=by rw[d];exact h.ab
  Lv:=by rw[H];exact h.Lv}
def Rel.yl {L:Loc} (h:Rel E L σ w) (x:jg) (l:σ.gX x=true):Rel E L {σ with head:=x} (w.setCell ⟨E.bB,190,none⟩ (kh (iD L.gQ x))):=
 h.store 190 _ (λC d=>d.yl x) {h.wf with head:=l}
def Rel.uN {L:Loc} (h:Rel E L σ w) (x:jg) (l:σ.gX x=true):Rel E L {σ with form:=x} (w.setCell ⟨E.bB,191,none⟩ (kh (iD L.gQ x))):=
 h.store 191 _ (λC d=>d.uN x) {h.wf with form:=l}
def Rel.jc {L:Loc} (h:Rel E L σ w) (x:Nat):Rel E L {σ with mode:=x} (w.setCell ⟨E.bB,192,none⟩ (gp x)):=
 h.store 192 _ (λC d=>d.jc x) {h.wf with}
def Rel.ym {L:Loc} (h:Rel E L σ w) (x:Nat):Rel E L {σ with kept:=x} (w.setCell ⟨E.bB,193,none⟩ (gp x)):=
 h.store 193 _ (λC d=>d.ym x) {h.wf with}
def Rel.yk {L:Loc} (h:Rel E L σ w) (x:Bool):Rel E L {σ with iS:=x} (w.setCell ⟨E.bB,195,none⟩ (.bool x)):=
 h.store 195 _ (λC d=>d.yk x) {h.wf with}
def Rel.qy {L:Loc} (h:Rel E L σ w) (x:Bool):Rel E L {σ with jL:=x} (w.setCell ⟨E.bB,196,none⟩ (.bool x)):=
 h.store 196 _ (λC d=>d.qy x) {h.wf with}
def Rel.Cv {L:Loc} (h:Rel E L σ w) (x:Nat):Rel E L {σ with gQ:=x} (w.setCell ⟨E.bB,197,none⟩ (gp x)):=
 h.store 197 _ (λC d=>d.Cv x) {h.wf with}
def Rel.sj {L:Loc} (h:Rel E L σ w) (x:Bool):Rel E L {σ with behind:=x} (w.setCell ⟨E.bB,198,none⟩ (.bool x)):=
 h.store 198 _ (λC d=>d.sj x) {h.wf with}
def Rel.gX {L:Loc} (h:Rel E L σ w) (l:σ.gX x=true):tm w (iD L.gQ x):=by
 intro k d;cases x with
 |none=>cases d
 |some i=>
  obtain rfl:=jK d;unfold Ab.gX at l;have⟨e,he⟩:=Option.isSome_iff_exists.1 l;exact⟨_,(h.sL i _ (Ab.jo he)).1.iw⟩
def Me {xs : kO} (h:y∈og xs x):y∈xs:=by
 unfold og at h;rw[List.mem_reverse]at h;exact List.mem_reverse.1 ((ZS _).subset (List.mem_of_mem_tail h))
theorem JA {xs : kO} {z : jg} (h:z∈pM xs x y):z∈xs\/z=y:=by
 unfold pM at h
 grind
theorem BC {xs : kO} {z : jg} (h:z∈jb xs x y):z∈xs\/z=y:=by
 unfold jb at h
 grind
def Rel.yV {L:Loc} (h:Rel E L σ w):∃C,wW E.bs E.bB 188 157 C L.ov (σ.gA.map (iD L.gQ)) w/\jv E L σ C:=by
 have⟨C,hb,hC⟩:=h.iw;refine⟨C,⟨hb,hC.gA,?_,by decide,by simpa using h.wT⟩,hC⟩
 simpa [RE,UZ]using h.o0
def Rel.elO {L:Loc} (h:Rel E L σ w):∀x∈σ.gA.map (iD L.gQ),tm w x:=by
 intro x d;obtain⟨y,l,rfl⟩:=List.mem_map.1 d;exact h.gX (Ab.vz (h.wf.gA y l))
def Sd (L:Loc) (w:gw) (k:Nat) (v:gP):Prop:=w.heap[k]?=some (gJ #[v] 57)/\L.ov.ownBlock≠some k/\L.cv.ownBlock≠some k
def Xr (E:Env) (L:Loc) (σ':Ab) (w w':gw):Prop:=∃L',L'.gQ=L.gQ/\Rel E L' σ' w'/\Fr E.bs w w'/\∀k v,Sd L w k v->Sd L' w' k v
theorem Sd.YF {L:Loc} {u : gP} (h:Sd L w k v) (l:Kept (b::u.ownBlock.toList) w w') (q:w.heap[b]?=some (gJ C 157)) (z:u.ownBlock≠some k):w'.heap[k]?=some (gJ #[v] 57):=by
 refine l.at h.1 λd=>?_;rcases List.mem_cons.1 d with rfl|d
 .have:=h.1
  grind
 grind
def Sd.CG {L:Loc} {v' : gP} (h:Sd L w k v) (q:Kept (b::L.ov.ownBlock.toList) w w') (l:w.heap[b]?=some (gJ C 157)) (d:v'.ownBlock=L.ov.ownBlock\/∀g,v'.ownBlock=some g->w.heap.size<=g):Sd {L with ov:=v'} w' k v:=by
 refine⟨h.YF q l h.2.1,λe=>?_,h.2.2⟩;rcases d with d|d
 .exact h.2.1 (d▸e)
 .have:=d k e;have:=jn h.1;omega
def Sd.AD {L:Loc} {v' : gP} (h:Sd L w k v) (q:Kept (b::L.cv.ownBlock.toList) w w') (l:w.heap[b]?=some (gJ C 157)) (d:v'.ownBlock=L.cv.ownBlock\/∀g,v'.ownBlock=some g->w.heap.size<=g):Sd {L with cv:=v'} w' k v:=by
 refine⟨h.YF q l h.2.2,h.2.1,λe=>?_⟩;rcases d with d|d
 .exact h.2.2 (d▸e)
 .have:=d k e;have:=jn h.1;omega
def Rel.Ot {L:Loc} (h:Rel E L σ w) (l:wW E.bs E.bB 188 157 C L.ov (σ.gA.map (iD L.gQ)) w) (K:jv E L σ C) (W:oA E.bs E.bB 188 157 C L.ov (zs.map (iD L.gQ)) w w') (Y:∀x∈zs,σ.mF x=true):Xr E L {σ with gA:=zs} w w':=by
 obtain⟨J,z,D,F⟩:=W;have d:KT E.bs [157,57] w w':= .jT D (λk q _=>by
  rcases List.mem_cons.1 q with rfl|q
  .exact⟨⟨_,_,_,l.iw,by simp⟩,h.bB⟩
  .obtain⟨c,m,N⟩:=rX l.row (by simpa using q);exact⟨⟨_,_,_,N,by simp⟩,(l.row.lt k (by simpa using q)).1⟩)
 have A:∀g,L.cv.ownBlock=some g->g∉E.bB::L.ov.ownBlock.toList:=by
  intro g I B;rcases List.mem_cons.1 B with rfl|B
  .exact Cs h.pX l.iw (by decide) I
  .exact(h.F9:∀g,L.ov.ownBlock=some g->L.cv.ownBlock≠some g) g (by simpa using B) I
 refine⟨{L with ov:=J},rfl,?_,d.fr (by decide),λk v V=>V.CG D l.iw F⟩;exact {h with
  fr:=h.fr.trans (d.fr (by decide))
  sL:=λi nd O=>((h.sL i nd O).kt d (by decide)).loc rfl rfl rfl
  wf:={h.wf with gA:=Y}
  iw:=⟨_,z.iw,K.abL J zs⟩
  o0:=by simpa [RE,UZ]using z.row
  pX:=D.ownsRow h.pX A
  F9:=by
   intro g G H;have U:=Cr h.pX (g:=g) H;rcases F with e|e
   .exact h.F9 g (by rw[<-e];exact G) H
   .have:=e g G;omega
  wT:=by simpa using z.le
  oT:=d.row h.oT (by decide)
  rd:=d.at h.rd (by decide)
  tok:=d.row h.tok (by decide)}
def Rel.CG {L:Loc} (h:Rel E L σ w) (l:wW E.bs E.bB 188 157 C L.ov (σ.gA.map (iD L.gQ)) w) (d:jv E L σ C) (q:oA E.bs E.bB 188 157 C L.ov (zs.map (iD L.gQ)) w w') (z:∀x∈zs,σ.mF x=true):To E L {σ with gA:=zs} w w':=
 have⟨L1,a,b,c,_⟩:=h.Ot l d q z
 ⟨L1,a,b,c⟩
def Y2 {L:Loc} (h:Rel E L σ w):
  Calls prog 251 #[jF E.bB 188] w λe w'=>e=ir (gp σ.gA.length)/\w'=w:=by
 have⟨C,hL,hC⟩:=h.yV;have:=acw E.bs E.bB 188 _ C _ _ w hL
 rwa [BK]at this
def aeL {L:Loc} (h:Rel E L σ w) (n:Int):
  Calls prog 229 #[jF E.bB 188,gp n] w λe w'=>e=ir (kh (iD L.gQ (iB σ.gA n)))/\w'=w:=by
 have⟨C,hL,hC⟩:=h.yV;have:=YJ E.bs E.bB 188 _ C _ _ n w hL
 rwa [x9]at this
def SK {L:Loc} (h:Rel E L σ w):
  Calls prog 160 #[jF E.bB 188] w λe w'=>e=ir (kh (iD L.gQ (iB σ.gA ((σ.gA.length:Int) - 1))))/\w'=w:=by
 have⟨C,hL,hC⟩:=h.yV;have:=YK E.bs E.bB 188 _ C _ _ w hL
 rwa [x9,BK]at this
def aeM {L:Loc} (h:Rel E L σ w) (x:jg) (d:σ.gX x=true):
  Calls prog 303 #[jF E.bB 188,kh (iD L.gQ x)] w λe w'=>e=ir (.bool (decide (x∈σ.gA)))/\w'=w:=by
 have⟨C,hL,hC⟩:=h.yV;have:=acv E.bs E.bB 188 _ C _ _ (iD L.gQ x) w hL h.elO (h.gX d)
 rwa [decide_eq_decide.2 (mem_map h.inj σ.gA x)]at this
def y7 {L:Loc} (h:Rel E L σ w) (x:jg) (d:σ.gX x=true):
  Calls prog 227 #[jF E.bB 188,kh (iD L.gQ x)] w λe w'=>e=ir (kh (iD L.gQ (iB σ.gA (posOf σ.gA x - 1))))/\w'=w:=by
 have⟨C,hL,hC⟩:=h.yV;have:=NB E.bs E.bB 188 _ C _ _ (iD L.gQ x) w hL h.elO (h.gX d)
 rwa [Mf h.inj,x9]at this
theorem adG {L:Loc} (h:Rel E L σ w) (x:jg) (z:σ.mF x=true) (l:σ.gA.length < 4096):
  Calls prog 253 #[jF E.bB 188,kh (iD L.gQ x)] w λe w'=>e=p8/\To E L {σ with gA:=σ.gA++[x]} w w':=by
 have⟨C,hL,hC⟩:=h.yV;refine(YL E.bs E.bB 188 _ C _ _ (iD L.gQ x) w hL (by grind) h.bw).mono ?_;rintro e w' ⟨rfl,q⟩;refine⟨rfl,h.CG hL hC (by grind) λy d=>?_⟩;rcases List.mem_append.1 d with d|d
 .exact h.wf.gA y d
 grind
theorem Qf {L:Loc} (h:Rel E L σ w):
  Calls prog 165 #[jF E.bB 188] w λe w'=>e=ir (kh (iD L.gQ (iB σ.gA ((σ.gA.length:Int) - 1))))/\To E L {σ with gA:=σ.gA.dropLast} w w':=by
 have⟨C,hL,hC⟩:=h.yV;refine(acx E.bs E.bB 188 _ C _ _ w hL).mono ?_;rintro e w' ⟨rfl,l⟩;refine⟨by rw[x9,BK],h.CG hL hC (by grind) λy d=>h.wf.gA y (List.dropLast_subset _ d)⟩
def abc {L:Loc} (h:Rel E L σ w) (x:jg) (l:σ.gX x=true):
  Calls prog 309 #[jF E.bB 188,kh (iD L.gQ x)] w λe w'=>e=p8/\To E L {σ with gA:=og σ.gA x} w w':=by
 have⟨C,hL,hC⟩:=h.yV;refine(Ug E.bs E.bB 188 _ C _ _ (iD L.gQ x) w hL (by decide) h.elO (h.gX l)).mono ?_;rintro e w' ⟨rfl,d⟩;exact⟨rfl,h.CG hL hC (by rw[<-Md h.inj];exact d) λy q=>h.wf.gA y (Me q)⟩
def Y3 {L:Loc} (h:Rel E L σ w) (x:jg) (l:σ.gX x=true):
  Calls prog 168 #[jF E.bB 188,kh (iD L.gQ x)] w λe w'=>e=p8/\To E L {σ with gA:=σ.gA.erase x} w w':=by
 have⟨C,hL,hC⟩:=h.yV;refine(Ai E.bs E.bB 188 _ C _ _ (iD L.gQ x) w hL h.elO (h.gX l)).mono ?_;rintro e w' ⟨rfl,d⟩;exact⟨rfl,h.CG hL hC (by rw[<-vG h.inj];exact d) λy q=>h.wf.gA y (AK q)⟩
theorem Qg {L:Loc} (h:Rel E L σ w) (x y:jg) (q:σ.gX x=true) (A:σ.mF y=true) (B:σ.gA.length < 4096):
  Calls prog 360 #[jF E.bB 188,kh (iD L.gQ x),kh (iD L.gQ y)] w λe w'=>e=p8/\To E L {σ with gA:=jb σ.gA x y} w w':=by
 have⟨C,hL,hC⟩:=h.yV;refine(F7 E.bs E.bB 188 _ C _ _ (iD L.gQ x) (iD L.gQ y) w hL h.elO (h.gX q) (by grind) h.bw).mono ?_;rintro e w' ⟨rfl,l⟩;exact⟨rfl,h.CG hL hC (by rw[<-BA h.inj];exact l) λz d=>by rcases BC d with d|rfl;exact h.wf.gA z d;exact A⟩
def Rel.Gy {L:Loc} (h:Rel E L σ w):∃C,wW E.bs E.bB 189 157 C L.cv (σ.act.map (iD L.gQ)) w/\jv E L σ C:=by
 have⟨C,hb,hC⟩:=h.iw;refine⟨C,⟨hb,hC.act,?_,by decide,by simpa using h.Et⟩,hC⟩
 simpa [RE,UZ]using h.pX
def Rel.elA {L:Loc} (h:Rel E L σ w):∀x∈σ.act.map (iD L.gQ),tm w x:=by
 intro x d;obtain⟨y,l,rfl⟩:=List.mem_map.1 d;exact h.gX (h.wf.act y l)
def Rel.Oq {L:Loc} (h:Rel E L σ w) (l:wW E.bs E.bB 189 157 C L.cv (σ.act.map (iD L.gQ)) w) (K:jv E L σ C) (W:oA E.bs E.bB 189 157 C L.cv (zs.map (iD L.gQ)) w w') (Y:∀x∈zs,σ.gX x=true):Xr E L {σ with act:=zs} w w':=by
 obtain⟨J,B,G,H⟩:=W;have d:KT E.bs [157,57] w w':= .jT G (λk A _=>by
  rcases List.mem_cons.1 A with rfl|A
  .exact⟨⟨_,_,_,l.iw,by simp⟩,h.bB⟩
  .obtain⟨c,m,N⟩:=rX l.row (by simpa using A);exact⟨⟨_,_,_,N,by simp⟩,(l.row.lt k (by simpa using A)).1⟩)
 have D:∀g,L.ov.ownBlock=some g->g∉E.bB::L.cv.ownBlock.toList:=by
  intro g I F;rcases List.mem_cons.1 F with rfl|F
  .exact Cs h.o0 l.iw (by decide) I
  .exact((λg q z=>h.F9 g z q):∀g,L.cv.ownBlock=some g->L.ov.ownBlock≠some g) g (by simpa using F) I
 refine⟨{L with cv:=J},rfl,?_,d.fr (by decide),λk v V=>V.AD G l.iw H⟩;exact {h with
  fr:=h.fr.trans (d.fr (by decide))
  sL:=λi nd O=>((h.sL i nd O).kt d (by decide)).loc rfl rfl rfl
  wf:={h.wf with act:=Y}
  iw:=⟨_,B.iw,K.abK J zs⟩
  pX:=by simpa [RE,UZ]using B.row
  o0:=G.ownsRow h.o0 D
  F9:=by
   intro g q z;have U:=Cr h.o0 (g:=g) q;rcases H with e|e
   .exact h.F9 g q (by rw[<-e];exact z)
   .have:=e g z;omega
  Et:=by simpa using B.le
  oT:=d.row h.oT (by decide)
  rd:=d.at h.rd (by decide)
  tok:=d.row h.tok (by decide)}
def Rel.AD {L:Loc} (h:Rel E L σ w) (l:wW E.bs E.bB 189 157 C L.cv (σ.act.map (iD L.gQ)) w) (d:jv E L σ C) (q:oA E.bs E.bB 189 157 C L.cv (zs.map (iD L.gQ)) w w') (z:∀x∈zs,σ.gX x=true):To E L {σ with act:=zs} w w':=
 have⟨L1,a,b,c,_⟩:=h.Oq l d q z
 ⟨L1,a,b,c⟩
def acg {L:Loc} (h:Rel E L σ w):
  Calls prog 251 #[jF E.bB 189] w λe w'=>e=ir (gp σ.act.length)/\w'=w:=by
 have⟨C,hL,hC⟩:=h.Gy;have:=acw E.bs E.bB 189 _ C _ _ w hL
 rwa [BK]at this
def afg {L:Loc} (h:Rel E L σ w) (n:Int):
  Calls prog 229 #[jF E.bB 189,gp n] w λe w'=>e=ir (kh (iD L.gQ (iB σ.act n)))/\w'=w:=by
 have⟨C,hL,hC⟩:=h.Gy;have:=YJ E.bs E.bB 189 _ C _ _ n w hL
 rwa [x9]at this
def aem {L:Loc} (h:Rel E L σ w) (x:jg) (d:σ.gX x=true):
  Calls prog 303 #[jF E.bB 189,kh (iD L.gQ x)] w λe w'=>e=ir (.bool (decide (x∈σ.act)))/\w'=w:=by
 have⟨C,hL,hC⟩:=h.Gy;have:=acv E.bs E.bB 189 _ C _ _ (iD L.gQ x) w hL h.elA (h.gX d)
 rwa [decide_eq_decide.2 (mem_map h.inj σ.act x)]at this
theorem acS {L:Loc} (h:Rel E L σ w) (x:jg) (z:σ.gX x=true) (l:σ.act.length < 4096):
  Calls prog 253 #[jF E.bB 189,kh (iD L.gQ x)] w λe w'=>e=p8/\To E L {σ with act:=σ.act++[x]} w w':=by
 have⟨C,hL,hC⟩:=h.Gy;refine(YL E.bs E.bB 189 _ C _ _ (iD L.gQ x) w hL (by grind) h.bw).mono ?_;rintro e w' ⟨rfl,q⟩;refine⟨rfl,h.AD hL hC (by grind) λy d=>?_⟩;rcases List.mem_append.1 d with d|d
 .exact h.wf.act y d
 grind
def aab {L:Loc} (h:Rel E L σ w) (x:jg) (l:σ.gX x=true):
  Calls prog 309 #[jF E.bB 189,kh (iD L.gQ x)] w λe w'=>e=p8/\To E L {σ with act:=og σ.act x} w w':=by
 have⟨C,hL,hC⟩:=h.Gy;refine(Ug E.bs E.bB 189 _ C _ _ (iD L.gQ x) w hL (by decide) h.elA (h.gX l)).mono ?_;rintro e w' ⟨rfl,d⟩;exact⟨rfl,h.AD hL hC (by rw[<-Md h.inj];exact d) λy q=>h.wf.act y (Me q)⟩
def Xu {L:Loc} (h:Rel E L σ w) (x:jg) (l:σ.gX x=true):
  Calls prog 168 #[jF E.bB 189,kh (iD L.gQ x)] w λe w'=>e=p8/\To E L {σ with act:=σ.act.erase x} w w':=by
 have⟨C,hL,hC⟩:=h.Gy;refine(Ai E.bs E.bB 189 _ C _ _ (iD L.gQ x) w hL h.elA (h.gX l)).mono ?_;rintro e w' ⟨rfl,d⟩;exact⟨rfl,h.AD hL hC (by rw[<-vG h.inj];exact d) λy q=>h.wf.act y (AK q)⟩
def Vd {L:Loc} (h:Rel E L σ w) (x y:jg) (q:σ.gX x=true) (A:σ.gX y=true):
  Calls prog 258 #[jF E.bB 189,kh (iD L.gQ x),kh (iD L.gQ y)] w λe w'=>e=p8/\To E L {σ with act:=pM σ.act x y} w w':=by
 have⟨C,hL,hC⟩:=h.Gy;refine(EN E.bs E.bB 189 _ C _ _ (iD L.gQ x) (iD L.gQ y) w hL h.elA (h.gX q)).mono ?_;rintro e w' ⟨rfl,l⟩;exact⟨rfl,h.AD hL hC (by rw[<-Jy h.inj];exact l) λz d=>by rcases JA d with d|rfl;exact h.wf.act z d;exact A⟩
theorem OM {L:Loc} (h:Rel E L σ w) (x y:jg) (q:σ.gX x=true) (A:σ.gX y=true) (B:σ.act.length < 4096):
  Calls prog 360 #[jF E.bB 189,kh (iD L.gQ x),kh (iD L.gQ y)] w λe w'=>e=p8/\To E L {σ with act:=jb σ.act x y} w w':=by
 have⟨C,hL,hC⟩:=h.Gy;refine(F7 E.bs E.bB 189 _ C _ _ (iD L.gQ x) (iD L.gQ y) w hL h.elA (h.gX q) (by grind) h.bw).mono ?_;rintro e w' ⟨rfl,l⟩;exact⟨rfl,h.AD hL hC (by rw[<-BA h.inj];exact l) λz d=>by rcases BC d with d|rfl;exact h.wf.act z d;exact A⟩
def Loc.new (L:Loc) (n k:Nat) (av kv:gP):Loc:={L with gQ:=λi=>if i < n then L.gQ i else k+(i - n),av:=λi=>if i=n then av else L.av i,kv:=λi=>if i=n then kv else L.kv i}
variable {L L' : Loc}
def Loc.An (h:i < n):(L.new n k av kv).gQ i=L.gQ i:=gF h
def Loc.sX:(L.new n k av kv).gQ n=k:=by simp[Loc.new]
def Loc.EP (h:i < n):(L.new n k av kv).av i=L.av i:=gR (by omega)
def Loc.NL (h:i < n):(L.new n k av kv).kv i=L.kv i:=gR (by omega)
def Loc.A4:(L.new n k av kv).av n=av:=gF rfl
def Loc.GV:(L.new n k av kv).kv n=kv:=gF rfl
def Fy (n:Nat) (L L':Loc):Prop:=∀i,i < n->L'.gQ i=L.gQ i
def Fy.refl (n:Nat) (L:Loc):Fy n L L:=λ_ _=>rfl
def Ab.lN (h:σ.gX (some i)=true):i < σ.nodes.length:=by
 have⟨e,he⟩:=Option.isSome_iff_exists.1 h;exact Ab.il he
def Ab.PM {k : Nd} (h:σ.ji k=true):k.iw < σ.nodes.length:=by
 by_cases l:k.iw < σ.nodes.length
 .exact l
 .exfalso;have d:σ.nodes[k.iw]?=none:=ZT (by omega);cases k with
  |el i=>simp only[Nd.iw]at d;simp[Ab.ji,Ab.ib,d]at h
  |tx i=>simp only[Nd.iw]at d;simp[Ab.ji,d]at h
  |cm i=>simp only[Nd.iw]at d;simp[Ab.ji,d]at h
  |dt i=>simp only[Nd.iw]at d;simp[Ab.ji,d]at h
def Fy.om (h:Fy σ.nodes.length L L') (d:σ.gX x=true):iD L'.gQ x=iD L.gQ x:=by
 cases x with
 |none=>rfl
 |some i=>show some _=some _;rw[h i (Ab.lN d)]
def Fy.kid (h:Fy σ.nodes.length L L') {k : Nd} (d:σ.ji k=true):Nd.map L'.gQ k=Nd.map L.gQ k:=by
 have:=h _ (Ab.PM d);cases k<;>(simp only[Nd.map,Nd.iw]at this|-;rw[this])
def Fy.list (h:Fy σ.nodes.length L L') {xs : kO} (l:∀x∈xs,σ.gX x=true):(xs.map λx=>kh (iD L'.gQ x))=xs.map λx=>kh (iD L.gQ x):=
 U0 λx d=>by rw[h.om (l x d)]
def Fy.kids (h:Fy σ.nodes.length L L') {ks : List Nd} (l:∀x∈ks,σ.ji x=true):ks.map (Nd.map L'.gQ)=ks.map (Nd.map L.gQ):=
 U0 λx d=>h.kid (l x d)
theorem Ab.tF (d:i < σ.nodes.length):(σ.add nd).ib i=σ.ib i:=by
 grind[Ab.ib,Ab.add]
theorem Ab.ui:(σ.add nd).ib σ.nodes.length=(match nd with| .el e=>some e|_=>none):=by
 show(match (σ.nodes++[nd])[σ.nodes.length]? with|some (.el e)=>some e|_=>none)=_
 grind
def Ab.Af (h:σ.gX x=true):(σ.add nd).gX x=true:=by
 cases x with
 |none=>rfl
 |some i=>show((σ.add nd).ib i).isSome=true;rw[Ab.tF (Ab.lN h)];exact h
def Ab.L5 (h:σ.mF x=true):(σ.add nd).mF x=true:=by
 cases x with
 |none=>exact h
 |some i=>show((σ.add nd).ib i).isSome=true;rw[Ab.tF (Ab.lN h)];exact h
theorem Ab.EJ {k : Nd} (h:σ.ji k=true):(σ.add nd).ji k=true:=by
 have d:=Ab.PM h;have e:(σ.nodes++[nd])[k.iw]?=σ.nodes[k.iw]?:=UX d;cases k with
 |el i=>show((σ.add nd).ib i).isSome=true;rw[Ab.tF (i:=i) d];exact h
 |tx i=>grind[Ab.ji,Ab.add]
 |cm i=>grind[Ab.ji,Ab.add]
 |dt i=>grind[Ab.ji,Ab.add]
theorem Ab.Io (h:(σ.add nd).ib i=some e):(i < σ.nodes.length/\σ.ib i=some e)\/(i=σ.nodes.length/\nd= .el e):=by
 have l:=Ab.il h;have q:i < σ.nodes.length+1:=by simpa [Ab.add]using l
 by_cases d:i < σ.nodes.length
 .exact .inl ⟨d,by rw[<-Ab.tF d];exact h⟩
 .have e1:i=σ.nodes.length:=by omega
  subst e1;rw[Ab.ui]at h
  grind
def kV.ext (h:kV bs L w i nd) (d:Fy σ.nodes.length L L') (l:i < σ.nodes.length) (q:L'.av i=L.av i) (z:L'.kv i=L.kv i) (A:∀e,nd= .el e->σ.gX e.je=true/\∀k∈e.kids,σ.ji k=true):kV bs L' w i nd:=by
 cases nd with
 |el e=>
  have⟨h1,h2⟩:=A e rfl;show El bs w (L'.gQ i) e.name (L'.av i) (iD L'.gQ e.je) (L'.kv i) (e.kids.map (Nd.map L'.gQ))/\yB w (L'.av i) e.gV/\e.gV.length<=4096;rw[d i l,q,z,d.om h1,d.kids h2];exact h
 |tx s=>show w.heap[L'.gQ i]?=_;rw[d i l];exact h
 |cm s=>show w.heap[L'.gQ i]?=_;rw[d i l];exact h
 |dt s=>show w.heap[L'.gQ i]?=_;rw[d i l];exact h
theorem Rel.Hp (h:Rel E L σ w) (d:i < σ.nodes.length):L.gQ i < w.heap.size:=by
 have⟨c,hc⟩:=(h.sL i σ.nodes[i] (rq d)).typ
 grind
def Rel.wfn (h:Rel E L σ w) (l:σ.nodes[i]?=some nd):∀e,nd= .el e->σ.gX e.je=true/\∀k∈e.kids,σ.ji k=true:=by
 rintro e rfl;have d:=Ab.R9 l;exact⟨h.wf.je i e d,h.wf.kids i e d⟩
def jv.ext (h:jv E L σ C) (l:Fy σ.nodes.length L L') (d:Wf σ) (e1:L'.ov=L.ov) (e2:L'.cv=L.cv) (q:L'.wv=L.wv) (z:σ'.head=σ.head) (A:σ'.form=σ.form) (B:σ'.mode=σ.mode) (D:σ'.kept=σ.kept) (s5:σ'.iS=σ.iS) (s6:σ'.jL=σ.jL) (s7:σ'.gQ=σ.gQ) (s8:σ'.behind=σ.behind):jv E L' σ' C:=
 ⟨h.size,h.low,by rw[e1];exact h.gA,by rw[e2];exact h.act,by rw[z,l.om d.head];exact h.head,by rw[A,l.om d.form];exact h.form,by rw[B];exact h.mode,by rw[D];exact h.kept,by rw[q];exact h.wait,by rw[s5];exact h.ID,by rw[s6];exact h.jL,by rw[s7];exact h.gQ,by rw[s8];exact h.behind⟩
theorem Rel.aci (h:Rel E L σ w) (nd:Bj) (k:Nat) (av kv:gP) (V:Bool) (hk:Kept [] w w') (a7:∀i,i < σ.nodes.length->L.gQ i < k) (a5:E.bs<=k)
  (a8:kV E.bs (L.new σ.nodes.length k av kv) w' σ.nodes.length nd) (a6:kv.ownBlock=none) (a3:∀e,nd= .el e->e.je=none/\e.kids=[])
  (a1:∀i e g,σ.ib i=some e->nj e.name=true->av.ownBlock=some g->(L.av i).ownBlock≠some g)
  (a2:∀e g j,nd= .el e->nj e.name=true->j < σ.nodes.length->av.ownBlock=some g->(L.av j).ownBlock≠some g)
  (J:(∀e,nd≠ .el e)->av.ownBlock=none)
  (Z:V=true->σ.fresh=true/\∀g,E.tv.ownBlock=some g->av.ownBlock≠some g) (a4:∀g,av.ownBlock=some g->E.bs<=g):
  Rel E (L.new σ.nodes.length k av kv) (σ.pn nd V) w':=by
 have z:=h.im hk;have W:Fy σ.nodes.length L (L.new σ.nodes.length k av kv):=λi l=>Loc.An l;have G:=Ab.lN (σ:=σ) (i:=0) h.wf.xb;have q:(σ.pn nd V).nodes.length=σ.nodes.length+1:=by simp[Ab.pn]
 have K:∀i,(σ.pn nd V).ib i=(σ.add nd).ib i:=λi=>rfl;have⟨C,hb,hC⟩:=z.iw;refine⟨z.fr,by rw[Loc.An G];exact z.env,z.DQ,?_,?_,?_,?_,?_,?_,?_,⟨C,hb,hC.ext W h.wf rfl rfl rfl rfl rfl rfl rfl rfl rfl rfl rfl⟩,?_,?_,z.F9,z.wT,z.Et,z.oT,z.Lw,z.rd,z.QJ,z.tok,z.Lt,z.bz,z.bB,z.bR,?_,?_,?_,h.tb,h.Lv⟩
 .intro i U l;have d:(σ.nodes++[nd])[i]?=some U:=l
  by_cases Y:i < σ.nodes.length
  .rw[UX Y]at d;exact(z.sL i U d).ext W Y (Loc.EP Y) (Loc.NL Y) (h.wfn d)
  grind
 .intro i j D;have H:(if i < σ.nodes.length then L.gQ i else k+(i - σ.nodes.length))=(if j < σ.nodes.length then L.gQ j else k+(j - σ.nodes.length)):=D
  by_cases l:i < σ.nodes.length
  .by_cases N:j < σ.nodes.length
   .rw[gF l,gF N]at H;exact h.inj i j H
   grind
  grind
 .intro i j g l N D B;rw[q]at l N
  by_cases d:i < σ.nodes.length
  .rw[Loc.NL d]at B
   by_cases F:j < σ.nodes.length
   .rw[Loc.NL F];exact h.A0 i j g d F D B
   grind[Loc.new]
  grind[Loc.new]
 .intro i l A;rw[q]at l
  by_cases d:i < σ.nodes.length
  .rw[Loc.NL d];exact h.F5 i d (by rw[<-Ab.tF d];exact A)
  grind[Loc.new]
 .intro i j e g l a0 N D B;rw[q]at N;rcases Ab.Io (nd:=nd) l with⟨d,A⟩|⟨rfl,rfl⟩
  .rw[Loc.EP d]at B
   by_cases F:j < σ.nodes.length
   .rw[Loc.EP F];exact h.uq i j e g A a0 F D B
   grind[Loc.new]
  grind[Loc.new]
 .intro i l A;rw[q]at l
  by_cases d:i < σ.nodes.length
  .rw[Loc.EP d];exact h.Ep i d (by rw[<-Ab.tF d];exact A)
  .have e1:i=σ.nodes.length:=by omega
   subst e1;rw[Loc.A4];refine J λe O=>?_;rw[K,Ab.ui,O]at A;cases A
 .refine⟨λx I=>Ab.L5 (h.wf.gA x I),λx I=>Ab.Af (h.wf.act x I),Ab.Af h.wf.head,Ab.Af h.wf.form,?_,?_,?_⟩
  .intro i e l;rcases Ab.Io (nd:=nd) l with⟨d,A⟩|⟨rfl,hn⟩
   .exact Ab.Af (h.wf.je i e A)
   grind[Ab.gX]
  .intro i e l x I;rcases Ab.Io (nd:=nd) l with⟨d,A⟩|⟨rfl,hn⟩
   .exact Ab.EJ (h.wf.kids i e A x I)
   grind
  .rw[K,Ab.tF G];exact h.wf.xb
 .show w'.ownsRow E.bs _ 1 L.ov σ.gA.length (σ.gA.map λx=>kh (iD (L.new σ.nodes.length k av kv).gQ x));rw[W.list λx I=>Ab.vz (h.wf.gA x I)];exact z.o0
 .show w'.ownsRow E.bs _ 1 L.cv σ.act.length (σ.act.map λx=>kh (iD (L.new σ.nodes.length k av kv).gQ x));rw[W.list h.wf.act];exact z.pX
 .intro i l;rw[q]at l
  by_cases d:i < σ.nodes.length
  .rw[Loc.An d];exact h.bN i d
  grind[Loc.new]
 .intro hf i g l B;rw[q]at l;have⟨f1,f2⟩:=Z hf
  by_cases d:i < σ.nodes.length
  .rw[Loc.EP d];exact h.Da f1 i g d B
  grind[Loc.new]
 .intro i g l B;rw[q]at l
  by_cases d:i < σ.nodes.length
  .rw[Loc.EP d]at B;exact h.ab i g d B
  .have e1:i=σ.nodes.length:=by omega
   subst e1;rw[Loc.A4]at B;grind
def Rel.add {E:Env} {L:Loc} {σ:Ab} {w w':gw} (h:Rel E L σ w) (nd:Bj) (k:Nat) (av kv:gP) (B:Bool) (J:Kept [] w w') (A:w.heap.size<=k)
  (H:kV E.bs (L.new σ.nodes.length k av kv) w' σ.nodes.length nd) (G:kv.ownBlock=none) (z:∀e,nd= .el e->e.je=none/\e.kids=[])
  (l:∀i e g,σ.ib i=some e->nj e.name=true->av.ownBlock=some g->(L.av i).ownBlock≠some g)
  (q:∀e g j,nd= .el e->nj e.name=true->j < σ.nodes.length->av.ownBlock=some g->(L.av j).ownBlock≠some g)
  (d:(∀e,nd≠ .el e)->av.ownBlock=none)
  (F:B=true->σ.fresh=true/\∀g,E.tv.ownBlock=some g->av.ownBlock≠some g) (D:∀g,av.ownBlock=some g->E.bs<=g):
  Rel E (L.new σ.nodes.length k av kv) (σ.pn nd B) w':=
 h.aci nd k av kv B J (λ_ I=>lU (h.Hp I) A) (jN h.bw A) H G z l q d F D
def Rel.UO (h:Rel E L σ w) (d:KT E.bs [142,183,260] w w') (l:Fy σ.nodes.length L L') (e1:L'.ov=L.ov) (e2:L'.cv=L.cv) (B:L'.wv=L.wv)
  (I:∀i nd,σ'.nodes[i]?=some nd->kV E.bs L' w' i nd) (F:∀i j,L'.gQ i=L'.gQ j->i=j)
  (H:∀i j g,i < σ'.nodes.length->j < σ'.nodes.length->i≠j->(L'.kv i).ownBlock=some g->(L'.kv j).ownBlock≠some g)
  (G:∀i,i < σ'.nodes.length->σ'.ib i=none->(L'.kv i).ownBlock=none)
  (uq:∀i j e g,σ'.ib i=some e->nj e.name=true->j < σ'.nodes.length->i≠j->(L'.av i).ownBlock=some g->(L'.av j).ownBlock≠some g)
  (A:∀i,i < σ'.nodes.length->σ'.ib i=none->(L'.av i).ownBlock=none)
  (wf:Wf σ') (D:σ'.fresh=true->∀i g,i < σ'.nodes.length->E.tv.ownBlock=some g->(L'.av i).ownBlock≠some g)
  (sl:σ'.nodes.length<=σ.nodes.length:=by first|exact ij _|simp[Ab.ic,Ab.ol])
  (N:σ'.gA=σ.gA:=by rfl) (s9:σ'.act=σ.act:=by rfl) (s1:σ'.head=σ.head:=by rfl) (s2:σ'.form=σ.form:=by rfl) (s3:σ'.mode=σ.mode:=by rfl) (s4:σ'.kept=σ.kept:=by rfl) (s5:σ'.iS=σ.iS:=by rfl) (s6:σ'.jL=σ.jL:=by rfl) (s7:σ'.gQ=σ.gQ:=by rfl) (s8:σ'.behind=σ.behind:=by rfl) (sw:σ'.waiting=σ.waiting:=by rfl) (so:σ'.nC=σ.nC:=by rfl) (sp:σ'.iZ=σ.iZ:=by rfl) (O:σ'.pQ=σ.pQ:=by rfl) (U:σ'.qO=σ.qO:=by rfl) (V:σ'.oZ=σ.oZ:=by rfl) (av:L'.av=L.av:=by rfl):Rel E L' σ' w':=by
 obtain⟨C,Y,W⟩:=h.iw;have q:=Ab.lN (σ:=σ) (i:=0) h.wf.xb;exact {h with
  fr:=h.fr.trans (d.fr (by decide))
  env:=by rw[l 0 q];exact h.env
  DQ:=by rw[O,U,V];exact h.DQ
  sL:=I,inj:=F,A0:=H,F5:=G,uq:=uq,Ep:=A,wf:=wf
  iw:=⟨C,d.at Y (by decide),W.ext l h.wf e1 e2 B s1 s2 s3 s4 s5 s6 s7 s8⟩
  o0:=by rw[N,e1,l.list λx Z=>Ab.vz (h.wf.gA x Z)];exact d.row h.o0 (by decide)
  pX:=by rw[s9,e2,l.list h.wf.act];exact d.row h.pX (by decide)
  F9:=by rw[e1,e2];exact h.F9
  wT:=by rw[N];exact h.wT
  Et:=by rw[s9];exact h.Et
  oT:=by rw[sw,B];exact d.row h.oT (by decide)
  Lw:=by rw[sw];exact h.Lw
  rd:=by rw[so,sp];exact d.at h.rd (by decide)
  tok:=d.row h.tok (by decide)
  bN:=λi z=>by rw[l i (lU z sl)];exact h.bN i (lU z sl)
  Da:=D
  ab:=λi g z J=>h.ab i g (lU z sl) (by rw[av]at J;exact J)
  Lv:=λv K=>⟨B.trans (h.Lv v K).1,sw.trans (h.Lv v K).2⟩}
def Rel.yS (h:Rel E L σ w) (l:j < σ.nodes.length) (d:(L.kv j).ownBlock=some g):∃c m,w.heap[g]?=some (.cells c 183 m):=by
 cases he:σ.ib j with
 |none=>rw[h.F5 j l he]at d;cases d
 |some e=>exact rX (h.sL j _ (Ab.jo he)).1.row d
def Rel.MW (h:Rel E L σ w) (l:j < σ.nodes.length) (d:(L.av j).ownBlock=some g):∃c m,w.heap[g]?=some (.cells c 275 m):=by
 cases he:σ.ib j with
 |none=>rw[h.Ep j l he]at d;cases d
 |some e=>exact rX (h.sL j _ (Ab.jo he)).2.1 d
def Rel.MV (h:Rel E L σ w) (d:j < σ.nodes.length):∃c t,w.heap[L.gQ j]?=some (gJ c t)/\t≠183/\t≠275:=by
 have⟨c,hc⟩:=(h.sL j σ.nodes[j] (rq d)).typ;refine⟨c,_,hc,?_⟩;cases σ.nodes[j]<;>(simp[Bj.typ])
theorem J5 {a : Nat} {c' : jO} {d : TypeId} {l : Nat×Nat} (h:w.heap[a]?=some (.cells c t m)) (q:w.heap[a]?=some (.cells c' d l)):t=d:=by
 grind
theorem Rel.iE (h:Rel E L σ w) (J:List Nat) (q:∀j∈J,j < σ.nodes.length) (D:∀s∈S,∃j∈J,s=L.gQ j\/(L.kv j).ownBlock=some s) (G:Kept S w w') (F:σ.nodes[i]?=some nd) (z:i∉J):kV E.bs L w' i nd:=by
 have d:i < σ.nodes.length:=(List.getElem?_eq_some_iff.1 F).1;refine(h.sL i nd F).kept G ?_ ?_ ?_
 .intro A;obtain⟨j,l,e|e⟩:=D _ A
  .exact z (by rw[h.inj i j e];exact l)
  .have⟨c,m,h1⟩:=h.yS (q j l) e;have⟨c',t,h2,h3,_⟩:=h.MV d
   grind
 .intro g B A;obtain⟨j,l,e|e⟩:=D _ A
  .have⟨c,m,h1⟩:=h.yS d B;have⟨c',t,h2,h3,_⟩:=h.MV (q j l)
   grind
  .exact h.A0 i j g d (q j l) (λH=>z (by grind)) B e
 .intro g B A;have⟨c,m,h1⟩:=h.MW d B;obtain⟨j,l,e|e⟩:=D _ A
  .have⟨c',t,h2,_,h3⟩:=h.MV (q j l)
   grind
  .have⟨c',m',h2⟩:=h.yS (q j l) e
   grind
def Rel.ktJ (h:Rel E L σ w) (J:List Nat) (d:∀j∈J,(σ.ib j).isSome=true) (q:∀s∈S,∃j∈J,s=L.gQ j\/(L.kv j).ownBlock=some s) (z:Kept S w w'):KT E.bs [142,183,260] w w':=by
 refine .jT z λs A _=>?_;obtain⟨j,l,e|e⟩:=q s A
 .have⟨e',he⟩:=Option.isSome_iff_exists.1 (d j l);rw[e];exact⟨⟨_,_,_,(h.sL j _ (Ab.jo he)).1.iw,by simp⟩,h.bN j (Ab.il he)⟩
 .have⟨e',he⟩:=Option.isSome_iff_exists.1 (d j l);have⟨c,m,h1⟩:=h.yS (Ab.il he) e;exact⟨⟨_,_,_,h1,by simp⟩,((h.sL j _ (Ab.jo he)).1.row.lt _ e).1⟩
def Ab.nD (σ:Ab) (i:Nat) (e:zp):(σ.ic i e).nodes.length=σ.nodes.length:=by simp[Ab.ic]
theorem Ab.iX (d:i < σ.nodes.length):(σ.ic i e).ib i=some e:=by
 grind[Ab.ib,Ab.ic]
theorem Ab.iT (d:j≠i):(σ.ic i e).ib j=σ.ib j:=by
 grind[Ab.ib,Ab.ic]
theorem Ab.oc (h:(σ.ic i e).nodes[j]?=some nd):(j=i/\nd= .el e)\/(j≠i/\σ.nodes[j]?=some nd):=by
 by_cases d:i=j
 .subst d;have l:i < σ.nodes.length:=by have:=(List.getElem?_eq_some_iff.1 h).1;simpa [Ab.ic]using this
  simp[Ab.ic,l]at h
  grind
 .simp[Ab.ic,d]at h
  grind
theorem Ab.qs (d:(σ.ib i).isSome=true) (x:jg):(σ.ic i e).gX x=σ.gX x:=by
 cases x with
 |none=>rfl
 |some j=>
  show((σ.ic i e).ib j).isSome=(σ.ib j).isSome
  grind[Ab.ib,Ab.ic]
def Ab.yc (d:(σ.ib i).isSome=true) (x:jg):(σ.ic i e).mF x=σ.mF x:=by
 cases x with
 |none=>rfl
 |some j=>exact Ab.qs d (some j)
theorem Ab.la (d:(σ.ib i).isSome=true) (k:Nd):(σ.ic i e).ji k=σ.ji k:=by
 have h:∀j,j≠i->(σ.ic i e).nodes[j]?=σ.nodes[j]?:=λj z=>by grind[Ab.ic]
 have⟨e0,he0⟩:=Option.isSome_iff_exists.1 d;have l:=Ab.jo he0;have q:(σ.ic i e).nodes[i]?=some (.el e):=by simp[Ab.ic,Ab.il he0]
 cases k with
 |el j=>exact Ab.qs d (some j)
 |tx j=>grind[Ab.ji]
 |cm j=>grind[Ab.ji]
 |dt j=>grind[Ab.ji]
theorem Wf.ic (h:Wf σ) (l:(σ.ib i).isSome=true) (F:σ.gX e.je=true) (D:∀k∈e.kids,σ.ji k=true):Wf (σ.ic i e):=by
 refine⟨λx B=>by rw[Ab.yc l];exact h.gA x B,λx B=>by rw[Ab.qs l];exact h.act x B,by rw[Ab.qs l];exact h.head,by rw[Ab.qs l];exact h.form,?_,?_,?_⟩
 .intro j z q;rw[Ab.qs l]
  by_cases d:j=i
  .subst d;rw[Ab.iX (Ab.lN (σ:=σ) (i:=j) l)]at q;grind
  .rw[Ab.iT d]at q;exact h.je j z q
 .intro j z q k A;rw[Ab.la l]
  by_cases d:j=i
  .subst d;rw[Ab.iX (Ab.lN (σ:=σ) (i:=j) l)]at q;grind
  .rw[Ab.iT d]at q;exact h.kids j z q k A
 .have:=Ab.qs (e:=e) l (some 0);exact this.trans h.xb
theorem Rel.abH (h:Rel E L σ w) (i:Nat) (l:gP) (J:(σ.ib i).isSome=true) (Z:KT E.bs [142,183,260] w w') (U:l.ownBlock=(L.kv i).ownBlock\/∀g,l.ownBlock=some g->w.heap.size<=g)
  (d:σ'.nodes.length=σ.nodes.length) (O:∀j W,σ'.ib j=some W->∃e,σ.ib j=some e/\W.name=e.name) (H:∀j,σ'.ib j=none->σ.ib j=none)
  (V:∀j nd,σ'.nodes[j]?=some nd->kV E.bs {L with kv:=λx=>if x=i then l else L.kv x} w' j nd) (wf:Wf σ')
  (s0:σ'.gA=σ.gA:=by rfl) (s9:σ'.act=σ.act:=by rfl) (s1:σ'.head=σ.head:=by rfl) (s2:σ'.form=σ.form:=by rfl) (s3:σ'.mode=σ.mode:=by rfl) (s4:σ'.kept=σ.kept:=by rfl) (s5:σ'.iS=σ.iS:=by rfl) (s6:σ'.jL=σ.jL:=by rfl) (s7:σ'.gQ=σ.gQ:=by rfl) (s8:σ'.behind=σ.behind:=by rfl) (sw:σ'.waiting=σ.waiting:=by rfl) (so:σ'.nC=σ.nC:=by rfl) (sp:σ'.iZ=σ.iZ:=by rfl) (sf:σ'.fresh=σ.fresh:=by rfl) (d1:σ'.pQ=σ.pQ:=by rfl) (d2:σ'.qO=σ.qO:=by rfl) (d3:σ'.oZ=σ.oZ:=by rfl):To E L σ' w w':=by
 have K:=Ab.lN (σ:=σ) (i:=i) J;have Y:∀j g,j < σ.nodes.length->j≠i->l.ownBlock=some g->(L.kv j).ownBlock≠some g:=by
  intro j g q B A F;rcases U with e|e
  .rw[e]at A;exact h.A0 i j g K q (xn B) A F
  .have⟨c,m,hc⟩:=h.yS q F
   grind
 refine⟨{L with kv:=λx=>if x=i then l else L.kv x},rfl,h.UO (L':={L with kv:=λx=>if x=i then l else L.kv x}) Z (λ_ _=>rfl) rfl rfl rfl V h.inj ?_ ?_ ?_ ?_ wf ?_ (nh d) s0 s9 s1 s2 s3 s4 s5 s6 s7 s8 sw so sp d1 d2 d3,Z.fr (by decide)⟩
 .intro a b g I D z A;rw[d]at I D
  by_cases h1:a=i
  .grind
  .simp only[gR h1]at A
   by_cases h2:b=i
   .grind
   .simp only[gR h2];exact h.A0 a b g I D z A
 .intro j q N;rw[d]at q;have G:=H j N;have B:j≠i:=by rintro rfl;rw[G]at J;cases J
  simp only[gR B];exact h.F5 j q G
 .intro a b e g I a0 D z A;rw[d]at D;have⟨e0,h0,hnm'⟩:=O a e I;exact h.uq a b e0 g h0 (by grind) D z A
 .intro j q N;rw[d]at q;exact h.Ep j q (H j N)
 .rw[d,sf];exact h.Da
end
end Go.Proofs.YtofkkmcdggkkpaaGreatDoor
