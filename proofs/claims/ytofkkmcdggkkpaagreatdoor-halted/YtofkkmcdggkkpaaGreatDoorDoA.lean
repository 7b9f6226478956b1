import Derived.Test.YtofkkmcdggkkpaaGreatDoorRelE
import Derived.RangeFuncWrites
import Derived.Sort.BigQuietIn
import Derived.RegionIn
import Derived.TacticsIn
set_option linter.unusedSimpArgs false
set_option linter.unusedVariables false
set_option linter.defProp false
set_option maxHeartbeats 0
set_option maxRecDepth 100000
namespace Go.Proofs.YtofkkmcdggkkpaaGreatDoor
open Go.RowKit Tryz
def Kl:=@Nat.add_sub_cancel
def Fw:=@Calls.quiet_of_same
def Fy:=@beq_eq_false_iff_ne
def aeg:=@Oper.semAt_some
def wI:=@wpIn_mono
def xJ:=@grownBy_putObj'
def wJ:=@callsIn_wide
def wK:=@callsIn_of_wp_marks
def qF:=@CallsIn.inRound
def Km:=@KeepsOthers.setCell
def nM:=@run_takeDeferred
def AM:=@if_false
def xK:=@if_true
section
variable {E : Env} {W w w0 : gv} {f : Nat->Nat} {it k n n0 : Nat} {lb : jM} {p q : gy->Bool} {rest : kQ} {v : gO} {y : jg}
def RF (E:Env) (f:Nat->Nat) (σ:Ab) (w:gv):Prop:=∃L,L.gP=f/\Rel E L σ w
def RR (n:Nat) (f g:Nat->Nat):Prop:=∀i,i < n->g i=f i
def Leaves {α:Type} (E:Env) (f:Nat->Nat) (n:Nat) (w:gv) (r:pG α) (b:(Nat->Nat)->α->gO) (e:Ending) (w':gv):Prop:=match r with
 | .ok a σ'=>∃g,RR n f g/\n<=σ'.nodes.length/\e=iq (b g a)/\RF E g σ' w'/\Fr E.bs w w'
 | .stop c p=>∃k,e=qB k/\kJ w' k c p/\Fr E.bs w w'
 | .stuck=>False
def ja {α:Type} (E:Env) (k:Nat) (args:(Nat->Nat)->jM) (m:M α) (a:(Nat->Nat)->α->gO):Prop:=
 ∀f σ w,RF E f σ w->m σ≠ .stuck->Calls prog k (args f) w (Leaves E f σ.nodes.length w (m σ) a)
abbrev uV (_:Nat->Nat) (_:Unit):gO:= .tuple #[]
abbrev bV (_:Nat->Nat) (b:Bool):gO:= .bool b
abbrev nV (f:Nat->Nat) (i:Nat):gO:=gJ (f i)
abbrev oV (f:Nat->Nat) (x:jg):gO:=kh (iD f x)
abbrev pV (f:Nat->Nat) (pl:Nat×Nat):gO:= .agg #[gJ (f pl.1),gn pl.2]
structure At (E:Env) (f0:Nat->Nat) (n0:Nat) (w0:gv) (f:Nat->Nat) (σ:Ab) (w:gv):Prop where
 rel:RF E f σ w
 ext:RR n0 f0 f
 le:n0<=σ.nodes.length
 fr:Fr E.bs w0 w
 hw:E.w0.heap.size<=w0.heap.size
def At.start {σ:Ab} (h:RF E f σ w):At E f σ.nodes.length w f σ w:=⟨h,λ_ _=>rfl,ig _,Fr.refl _,by have⟨L,_,hr⟩:=h;exact hr.fr.size⟩
def RF.il {σ:Ab} {w' : gv} (h:RF E f σ w) (a:Kept [] w w'):RF E f σ w':=by have⟨L,e,hr⟩:=h;exact⟨L,e,hr.il a⟩
def Vi:List TypeId:=[142,183,260,218,222,275,157,57,97,132]
theorem Rel.side {L : Loc} {σ:Ab} (h:Rel E L σ w) {b : Nat} {c : jM} {T : TypeId} {m : Nat×Nat} (l:w.heap[b]?=some (.cells c T m)) (x:∀t∈Vi,t≠T) (e:E.w0.heap.size<=b) (j:Nat) (u:gO):Rel E L σ (w.setCell ⟨b,j,none⟩ u):=by
 have d:KT E.bs [T] w (w.setCell ⟨b,j,none⟩ u):= .jU ((Kept.refl [b] w).setCell (.inl (by simp)) u) (λk g _=>by simp at g;subst g;exact⟨⟨_,_,_,l,by simp⟩,jP h.bz e⟩);have a:∀t∈Vi,t∉[T]:=λt r=>by grind
 have⟨C,hbl,hC⟩:=h.ir;exact {h with
  fr:=by
   have⟨S,g,hS⟩:=h.fr;exact⟨S,g.setCell (.inr e) u,hS⟩
  sN:=λi s o=>(h.sN i s o).kt d (λt r=>a t (by revert t;decide))
  ir:=⟨C,d.at hbl (a _ (by decide)),hC⟩
  o0:=d.row h.o0 (a _ (by decide))
  pX:=d.row h.pX (a _ (by decide))
  oS:=d.row h.oS (a _ (by decide))
  rd:=d.at h.rd (a _ (by decide))
  tok:=d.row h.tok (a _ (by decide))}
section
variable {α β:Type} {E:Env} {f0:Nat->Nat} {n0:Nat} {w0:gv} {f:Nat->Nat} {σ:Ab} {w:gv}
def At.side (h:At E f0 n0 w0 f σ w) {b:Nat} {c:jM} {T:TypeId} {m:Nat×Nat} (g:w.heap[b]?=some (.cells c T m)) (d:∀t∈Vi,t≠T) (a:w0.heap.size<=b) (j:Nat) (u:gO):At E f0 n0 w0 f σ (w.setCell ⟨b,j,none⟩ u):=by
 have⟨L,e,hr⟩:=h.rel;refine⟨⟨L,e,hr.side g d (jP h.hw a) j u⟩,h.ext,h.le,?_,h.hw⟩;have⟨S,hk,hS⟩:=h.fr;exact⟨S,hk.setCell (.inr a) u,hS⟩
def At.k0 (h:At E f0 n0 w0 f σ w) {w':gv} (a:Kept [] w w'):At E f0 n0 w0 f σ w':=⟨h.rel.il a,h.ext,h.le,h.fr.trans (.gX a),h.hw⟩
def At.to (h:At E f0 n0 w0 f σ w) {σ':Ab} {w':gv} (c:RF E f σ' w') (b:σ.nodes.length<=σ'.nodes.length) (a:Fr E.bs w w'):At E f0 n0 w0 f σ' w':=⟨c,h.ext,jP h.le b,h.fr.trans a,h.hw⟩
def At.go (h:At E f0 n0 w0 f σ w) {g:Nat->Nat} {σ':Ab} {w':gv} (d:RF E g σ' w') (e:RR σ.nodes.length f g) (c:σ.nodes.length<=σ'.nodes.length) (b:Fr E.bs w w'):At E f0 n0 w0 g σ' w':=
 ⟨d,λi a=>(e i (lV a h.le)).trans (h.ext i a),jP h.le c,h.fr.trans b,h.hw⟩
def gu {R:pG α} {a:α} {b:(Nat->Nat)->α->gO} (c:R= .ok a σ) (h:At E f0 n0 w0 f σ w) {e:Ending} (d:e=iq (b f a)):Leaves E f0 n0 w0 R b e w:=by
 subst c;exact⟨f,h.ext,h.le,d,h.rel,h.fr⟩
theorem pd {R:pG α} {a:(Nat->Nat)->α->gO} {c p j:Nat} (b:R= .stop c p) (e:kJ w j c p) (d:Fr E.bs w0 w):Leaves E f0 n0 w0 R a (qB j) w:=by
 grind[Leaves]
theorem ja.call {k:Nat} {args:(Nat->Nat)->jM} {m:M α} {l:(Nat->Nat)->α->gO} (D:ja E k args m l) (H:At E f0 n0 w0 f σ w) {R:pG β} {K:α->M β} (i:R=(m>>=K) σ) (G:R≠ .stuck) {A:jM} (hA:args f=A) {Q:Ending->gv->Prop}
  (u:∀c p j b,R= .stop c p->kJ b j c p->Fr E.bs w0 b->Q (qB j) b)
  (s:∀a g d b,At E f0 n0 w0 g d b->RR σ.nodes.length f g->Fr E.bs w b->R=K a d->Q (iq (l g a)) b):Calls prog k A w Q:=by
 rw[M.gx]at i;have B:m σ≠ .stuck:=λe=>G (by grind);have h:=D f σ w H.rel B;rw[hA]at h;refine h.mono ?_;intro e b o;cases hr:m σ with
 |ok a d=>
  rw[hr]at o i;obtain⟨g,x,r,rfl,F,z⟩:=o;exact s a g d b (H.go F x r z) x z i
 |stop c p=>
  rw[hr]at o i;obtain⟨j,rfl,r,C⟩:=o;exact u c p j b i r (H.fr.trans C)
 |stuck=>exact absurd hr B
end
def j8 {α:Type} (E:Env) (f:Nat->Nat) (n:Nat) (w:gv) (r:pG α) (b:(Nat->Nat)->α->gO) (e:Ending) (w':gv):Prop:=match r with
 | .ok a σ'=>e=iq (b f a)/\RF E f σ' w'/\Fr E.bs w w'/\n<=σ'.nodes.length
 | .stop c p=>∃j,e=qB j/\kJ w' j c p/\Fr E.bs w w'
 | .stuck=>False
def j9 {α:Type} (E:Env) (k:Nat) (args:(Nat->Nat)->jM) (m:M α) (a:(Nat->Nat)->α->gO):Prop:=
 ∀f σ w,RF E f σ w->m σ≠ .stuck->Calls prog k (args f) w (j8 E f σ.nodes.length w (m σ) a)
section
variable {α β:Type} {E:Env} {f0:Nat->Nat} {n0:Nat} {w0:gv} {f:Nat->Nat} {σ:Ab} {w:gv}
theorem j9.call {k:Nat} {args:(Nat->Nat)->jM} {m:M α} {i:(Nat->Nat)->α->gO} (D:j9 E k args m i) (H:At E f0 n0 w0 f σ w) {R:pG β} {K:α->M β} (g:R=(m>>=K) σ) (F:R≠ .stuck) {A:jM} (hA:args f=A) {Q:Ending->gv->Prop}
  (r:∀c p j b,R= .stop c p->kJ b j c p->Fr E.bs w0 b->Q (qB j) b)
  (o:∀a d b,At E f0 n0 w0 f d b->Fr E.bs w b->R=K a d->Q (iq (i f a)) b):Calls prog k A w Q:=by
 rw[M.gx]at g;have u:m σ≠ .stuck:=λe=>F (by grind);have h:=D f σ w H.rel u;rw[hA]at h;refine h.mono ?_;intro e b l;cases hr:m σ with
 |ok a d=>
  rw[hr]at l g;obtain⟨rfl,B,s,C⟩:=l;exact o a d b (H.to B C s) s g
 |stop c p=>
  rw[hr]at l g;obtain⟨j,rfl,x,z⟩:=l;exact r c p j b g x (H.fr.trans z)
 |stuck=>exact absurd hr u
def aeW {k:Nat} {m:M α} {h:(Nat->Nat)->α->gO} {A:jM} (C:m σ≠ .stuck->Calls prog k A w (j8 E f σ.nodes.length w (m σ) h)) (H:At E f0 n0 w0 f σ w) {R:pG β} {K:α->M β} (g:R=(m>>=K) σ) (D:R≠ .stuck) {Q:Ending->gv->Prop}
  (o:∀c p j b,R= .stop c p->kJ b j c p->Fr E.bs w0 b->Q (qB j) b)
  (l:∀a d b,At E f0 n0 w0 f d b->Fr E.bs w b->R=K a d->Q (iq (h f a)) b):Calls prog k A w Q:=by
 rw[M.gx]at g;have s:m σ≠ .stuck:=λe=>D (by rw[g,e]);refine(C s).mono ?_;intro e b i;cases hr:m σ with
 |ok a d=>
  rw[hr]at i g;obtain⟨rfl,z,r,B⟩:=i;exact l a d b (H.to z B r) r g
 |stop c p=>
  rw[hr]at i g;obtain⟨j,rfl,u,x⟩:=i;exact o c p j b g u (H.fr.trans x)
 |stuck=>exact absurd hr s
def aeG {k:Nat} {m:M α} {i:(Nat->Nat)->α->gO} {A:jM} (C:m σ≠ .stuck->Calls prog k A w (Leaves E f σ.nodes.length w (m σ) i)) (H:At E f0 n0 w0 f σ w) {R:pG β} {K:α->M β} (h:R=(m>>=K) σ) (F:R≠ .stuck) {Q:Ending->gv->Prop}
  (s:∀c p j b,R= .stop c p->kJ b j c p->Fr E.bs w0 b->Q (qB j) b)
  (r:∀a g d b,At E f0 n0 w0 g d b->RR σ.nodes.length f g->Fr E.bs w b->R=K a d->Q (iq (i g a)) b):Calls prog k A w Q:=by
 rw[M.gx]at h;have z:m σ≠ .stuck:=λe=>F (by rw[h,e]);refine(C z).mono ?_;intro e b l;cases hr:m σ with
 |ok a d=>
  rw[hr]at l h;obtain⟨g,u,o,rfl,D,x⟩:=l;exact r a g d b (H.go D u o x) u x h
 |stop c p=>
  rw[hr]at l h;obtain⟨j,rfl,o,B⟩:=l;exact s c p j b h o (H.fr.trans B)
 |stuck=>exact absurd hr z
def jZ {R:pG α} {a:α} {b:(Nat->Nat)->α->gO} (c:R= .ok a σ) (h:At E f n0 w0 f σ w) {e:Ending} (d:e=iq (b f a)):j8 E f n0 w0 R b e w:=by
 subst c;exact⟨d,h.rel,h.fr,h.le⟩
theorem tU {R:pG α} {a:(Nat->Nat)->α->gO} {c p j:Nat} (b:R= .stop c p) (e:kJ w j c p) (d:Fr E.bs w0 w):j8 E f n0 w0 R a (qB j) w:=by
 grind[j8]
def dC {k:Nat} {args:(Nat->Nat)->jM} {m:M α} {d:(Nat->Nat)->α->gO} (D:ja E k args m d) (H:Hid (At E f0 n0 w0 f σ w)) {R:pG β} {K:α->M β} (s:Hid (R=(m>>=K) σ)) (u:Hid (R≠ .stuck)) {A:jM} (hA:args f=A) {Q:Ending->gv->Prop}
  (i:∀c p j b,Hid (R= .stop c p/\kJ b j c p/\Fr E.bs w0 b)->Q (qB j) b)
  (h:∀a g e b,Hid (At E f0 n0 w0 g e b)->Hid (RR σ.nodes.length f g)->Hid (Fr E.bs w b)->Hid (R=K a e)->Q (iq (d g a)) b):Calls prog k A w Q:=ja.call D H s u hA (λc p j b l o r=>i c p j b ⟨l,o,r⟩) h
def mC {k:Nat} {args:(Nat->Nat)->jM} {m:M α} {d:(Nat->Nat)->α->gO} (D:j9 E k args m d) (H:Hid (At E f0 n0 w0 f σ w)) {R:pG β} {K:α->M β} (r:Hid (R=(m>>=K) σ)) (s:Hid (R≠ .stuck)) {A:jM} (hA:args f=A) {Q:Ending->gv->Prop}
  (h:∀c p j b,Hid (R= .stop c p/\kJ b j c p/\Fr E.bs w0 b)->Q (qB j) b)
  (g:∀a e b,Hid (At E f0 n0 w0 f e b)->Hid (Fr E.bs w b)->Hid (R=K a e)->Q (iq (d f a)) b):Calls prog k A w Q:=j9.call D H r s hA (λc p j b i l o=>h c p j b ⟨i,l,o⟩) g
def Aq {k:Nat} {m:M α} {d:(Nat->Nat)->α->gO} {A:jM} (C:m σ≠ .stuck->Calls prog k A w (j8 E f σ.nodes.length w (m σ) d)) (H:Hid (At E f0 n0 w0 f σ w)) {R:pG β} {K:α->M β} (r:Hid (R=(m>>=K) σ)) (s:Hid (R≠ .stuck)) {Q:Ending->gv->Prop}
  (h:∀c p j b,Hid (R= .stop c p/\kJ b j c p/\Fr E.bs w0 b)->Q (qB j) b)
  (g:∀a e b,Hid (At E f0 n0 w0 f e b)->Hid (Fr E.bs w b)->Hid (R=K a e)->Q (iq (d f a)) b):Calls prog k A w Q:=aeW C H r s (λc p j b i l o=>h c p j b ⟨i,l,o⟩) g
def dcH {k:Nat} {m:M α} {d:(Nat->Nat)->α->gO} {A:jM} (C:m σ≠ .stuck->Calls prog k A w (Leaves E f σ.nodes.length w (m σ) d)) (H:Hid (At E f0 n0 w0 f σ w)) {R:pG β} {K:α->M β} (s:Hid (R=(m>>=K) σ)) (u:Hid (R≠ .stuck)) {Q:Ending->gv->Prop}
  (i:∀c p j b,Hid (R= .stop c p/\kJ b j c p/\Fr E.bs w0 b)->Q (qB j) b)
  (h:∀a g e b,Hid (At E f0 n0 w0 g e b)->Hid (RR σ.nodes.length f g)->Hid (Fr E.bs w b)->Hid (R=K a e)->Q (iq (d g a)) b):Calls prog k A w Q:=aeG C H s u (λc p j b l o r=>i c p j b ⟨l,o,r⟩) h
def lS {R:pG α} {a:(Nat->Nat)->α->gO} {c p j:Nat} (h:Hid (R= .stop c p/\kJ w j c p/\Fr E.bs w0 w)):Leaves E f0 n0 w0 R a (qB j) w:=pd h.1 h.2.1 h.2.2
def mS {R:pG α} {a:(Nat->Nat)->α->gO} {c p j:Nat} (h:Hid (R= .stop c p/\kJ w j c p/\Fr E.bs w0 w)):j8 E f n0 w0 R a (qB j) w:=tU h.1 h.2.1 h.2.2
def dI {k:Nat} {args:(Nat->Nat)->jM} {m:M α} {a:(Nat->Nat)->α->gO} (h:∀f σ w R,Hid (R=m σ)->Hid (R≠ .stuck)->Hid (At E f σ.nodes.length w f σ w)->Calls prog k (args f) w (Leaves E f σ.nodes.length w R a)):ja E k args m a:=λf σ w b c=>h f σ w _ rfl c (At.start b)
def mI {k:Nat} {args:(Nat->Nat)->jM} {m:M α} {a:(Nat->Nat)->α->gO} (h:∀f σ w R,Hid (R=m σ)->Hid (R≠ .stuck)->Hid (At E f σ.nodes.length w f σ w)->Calls prog k (args f) w (j8 E f σ.nodes.length w R a)):j9 E k args m a:=λf σ w b c=>h f σ w _ rfl c (At.start b)
end
def lT {α:Type} {β:Sort _} {x:β} {f0 : Nat->Nat} {R:pG α} {a:(Nat->Nat)->α->gO} (c p j:Nat) (w:gv) (h:Hid (R= .stop c p/\kJ w j c p/\Fr E.bs w0 w)):x=x/\Leaves E f0 n0 w0 R a (qB j) w:=⟨rfl,lS h⟩
def mT {α:Type} {β:Sort _} {x:β} {R:pG α} {a:(Nat->Nat)->α->gO} (c p j:Nat) (w:gv) (h:Hid (R= .stop c p/\kJ w j c p/\Fr E.bs w0 w)):x=x/\j8 E f n0 w0 R a (qB j) w:=⟨rfl,mS h⟩
def FX (E:Env) (i:Nat):j9 E 81 (λf=>#[nV f i]) (jy i) pV:=by
 intro f σ w ⟨L,e,d⟩ a;subst e;unfold jy at a|-;cases he:σ.hU i with
 |none=>rw[he]at a;exact absurd rfl a
 |some e=>
  refine(Rf d he).mono ?_;rintro g h ⟨rfl,b,c⟩;exact⟨rfl,⟨L,rfl,b⟩,.gX c,ig _⟩
def D5 (E:Env) (pl:Nat×Nat) (j:Nat):j9 E 156 (λf=>#[pV f pl,.iface 57 (nV f j)]) (mO pl j) uV:=by
 intro f σ w ⟨L,e,h⟩ a;subst e;unfold mO at a|-;cases h1:σ.hU pl.1 with
 |none=>rw[h1]at a;exact absurd rfl a
 |some ei=>
  cases h2:σ.hU j with
  |none=>rw[h1,h2]at a;exact absurd rfl a
  |some ej=>
   simp only[h1,h2]at a|-
   by_cases b:j≠pl.1/\pl.2<=ei.kids.length/\ei.kids.length < 1048576
   .rw[gF b];refine(ZP h h1 h2 b.1 b.2.1 b.2.2).mono ?_;rintro i l ⟨rfl,c,e1,d,g⟩;exact⟨rfl,⟨c,e1,d⟩,g,by simp[Ab.ib]⟩
   .rw[gQ b]at a;exact absurd rfl a
theorem Tf (E:Env) (pl:Nat×Nat) (s:gy):ja E 163 (λf=>#[pV f pl,gH s]) (uN pl s) uV:=by
 intro f σ w ⟨L,e,r⟩ a;subst e;unfold uN at a|-;cases h1:σ.hU pl.1 with
 |none=>rw[h1]at a;exact absurd rfl a
 |some ei=>
  simp only[h1]at a|-
  by_cases i:pl.2<=ei.kids.length/\ei.kids.length < 1048576
  .rw[gF i]at a|-;have b:∀(u:∀m,(j:m < ei.kids.length)->pl.2=m+1->∀t,ei.kids[m]≠ .tx t),Calls prog 163 #[pV L.gP pl,gH s] w (Leaves E L.gP σ.nodes.length w (.ok () ((σ.add (.tx s)).ib pl.1 {ei with kids:=ins ei.kids pl.2 (.tx σ.nodes.length)})) uV):=by
    intro u;refine(J3 r h1 i.1 i.2 u).mono ?_;rintro B D ⟨rfl,h,e1,l,o⟩;exact⟨h.gP,e1,by simp[Ab.ib,Ab.add],rfl,⟨h,rfl,l⟩,o⟩
   by_cases x:pl.2=0
   .simp only[gF x]at a|-;exact b λm j e=>by omega
   .simp only[gQ x]at a|-;obtain⟨m,j⟩:∃m,pl.2=m+1:=⟨pl.2 - 1,by omega⟩;have g:m < ei.kids.length:=by omega
    have C:ei.kids[pl.2 - 1]?=some ei.kids[m]:=by rw[j,Kl];exact ry g
    rw[C]at a|-;cases hk:ei.kids[m]with
    |tx t=>
     simp only[hk]at a|-;cases ht:σ.nodes[t]? with
     |none=>rw[ht]at a;exact absurd rfl a
     |some nd=>
      cases nd with
      |tx old=>
       simp only[ht]at a|-
       by_cases c:old.size+s.size<=1048576
       .rw[gF c];have:=GM r h1 g hk ht c;rw[<-j]at this;refine this.mono ?_;rintro B D ⟨rfl,h,e1,l,o⟩;exact⟨L.gP,λ_ _=>rfl,by simp[Ab.oj],rfl,⟨h,e1,l⟩,o⟩
       .rw[gQ c]at a;exact absurd rfl a
      |el e=>rw[ht]at a;exact absurd rfl a
      |cm e=>rw[ht]at a;exact absurd rfl a
      |dt e=>rw[ht]at a;exact absurd rfl a
    |el t=>exact b λz d e A=>by grind
    |cm t=>exact b λz d e A=>by grind
    |dt t=>exact b λz d e A=>by grind
  .rw[gQ i]at a;exact absurd rfl a
def Zn (E:Env):j9 E 165 (λ_=>#[jG E.bB 188]) (λσ=> .ok σ.last σ.pop) oV:=by
 intro f σ w ⟨L,e,d⟩ h;subst e;refine(Qn d).mono ?_;rintro g i ⟨rfl,a,e1,b,c⟩;exact⟨rfl,⟨a,e1,b⟩,c,ig _⟩
theorem N5 (E:Env) (x:jg):j9 E 167 (λf=>#[Bp E,oV f x]) (xk x) uV:=by
 intro f σ w ⟨L,e,h⟩ g;subst e;have C:=h.low (j:=0) (by decide) h.DU.1;have⟨_,_,_,hd,_,_⟩:=h.DU;have A:=h.wV;have c:=(λq=>Zh (h.drewN q));unfold xk at g|-
 by_cases d:σ.pQ<=σ.gz.length
 .rw[gF d];have b:=(λq=>On (h.drewN q) 5);go_enter func167,ntmps167
  go_wp21
  go_quiet ((go_at_call 251;exact Fw (c _)))
  go_wp21
  refine(b nq).mono ?_;rintro e B ⟨k,rfl,i,u⟩;have l:=(Fr.drewN w nq).trans u;go_wp2;exact⟨rfl,k,rfl,i,l⟩
 .rw[gQ d]at g|-;have a:σ.mG x=true:=by
   by_cases a:σ.mG x=true
   .exact a
   .grind
  rw[gF a];have b:=(λq=>adV (h.drewN q) x a (by omega));go_enter func167,ntmps167
  go_wp21
  go_quiet ((go_at_call 251;exact Fw (c _)))
  go_wp21
  refine(b nq).mono ?_;rintro e B ⟨rfl,s,e1,r,z⟩;have o:=(Fr.drewN w nq).trans z;go_wp2;go_end0;exact⟨rfl,⟨s,e1,r⟩,o,ig _⟩
section
variable {E:Env} {f0:Nat->Nat} {n0:Nat} {w0:gv} {f:Nat->Nat} {σ:Ab} {w:gv}
def At.lt (h:At E f0 n0 w0 f σ w):E.bB < w.heap.size:=by have⟨L,_,hr⟩:=h.rel;exact hr.lt
def At.free (h:At E f0 n0 w0 f σ w) (j:Nat):w.frozen? ⟨E.bB,j,none⟩=false:=by have⟨L,_,hr⟩:=h.rel;exact hr.free j
def At.VB (h:At E f0 n0 w0 f σ w):w.cell? ⟨E.bB,190,none⟩=some (oV f σ.head):=by obtain⟨L,rfl,a⟩:=h.rel;exact a.VB
def At.R5 (h:At E f0 n0 w0 f σ w):w.cell? ⟨E.bB,191,none⟩=some (oV f σ.form):=by obtain⟨L,rfl,a⟩:=h.rel;exact a.R5
def At.rJ (h:At E f0 n0 w0 f σ w):w.cell? ⟨E.bB,192,none⟩=some (gn σ.mode):=by obtain⟨L,rfl,a⟩:=h.rel;exact a.rJ
def At.R6 (h:At E f0 n0 w0 f σ w):w.cell? ⟨E.bB,193,none⟩=some (gn σ.kept):=by obtain⟨L,rfl,a⟩:=h.rel;exact a.R6
def At.X1 (h:At E f0 n0 w0 f σ w):w.cell? ⟨E.bB,195,none⟩=some (.bool σ.iR):=by obtain⟨L,rfl,a⟩:=h.rel;exact a.X1
def At.X2 (h:At E f0 n0 w0 f σ w):w.cell? ⟨E.bB,196,none⟩=some (.bool σ.jN):=by obtain⟨L,rfl,a⟩:=h.rel;exact a.X2
def At.R7 (h:At E f0 n0 w0 f σ w):w.cell? ⟨E.bB,197,none⟩=some (gn σ.gP):=by obtain⟨L,rfl,a⟩:=h.rel;exact a.R7
def At.X3 (h:At E f0 n0 w0 f σ w):w.cell? ⟨E.bB,198,none⟩=some (.bool σ.behind):=by obtain⟨L,rfl,a⟩:=h.rel;exact a.X3
def At.KU (h:At E f0 n0 w0 f σ w) (j:Nat) (u:gO):Fr E.bs w (w.setCell ⟨E.bB,j,none⟩ u):=by
 have⟨L,_,hr⟩:=h.rel;have⟨C,hb⟩:=hr.TX;exact .jU ((Kept.refl [E.bB] w).setCell (.inl (by simp)) u) (λk a=>by simp at a;subst a;exact⟨⟨_,_,_,hb,by decide⟩,hr.bB⟩)
def At.yp (h:At E f0 n0 w0 f σ w) (x:jg) (c:σ.gW x=true):At E f0 n0 w0 f {σ with head:=x} (w.setCell ⟨E.bB,190,none⟩ (oV f x)):=by
 have a:=h.KU 190 (oV f x);obtain⟨L,rfl,b⟩:=h.rel;exact h.to ⟨L,rfl,b.yp x c⟩ (ig _) a
def At.uP (h:At E f0 n0 w0 f σ w) (x:jg) (c:σ.gW x=true):At E f0 n0 w0 f {σ with form:=x} (w.setCell ⟨E.bB,191,none⟩ (oV f x)):=by
 have a:=h.KU 191 (oV f x);obtain⟨L,rfl,b⟩:=h.rel;exact h.to ⟨L,rfl,b.uP x c⟩ (ig _) a
def At.jc (h:At E f0 n0 w0 f σ w) (x:Nat):At E f0 n0 w0 f {σ with mode:=x} (w.setCell ⟨E.bB,192,none⟩ (gn x)):=by
 have a:=h.KU 192 (gn x);obtain⟨L,rfl,b⟩:=h.rel;exact h.to ⟨L,rfl,b.jc x⟩ (ig _) a
def At.yq (h:At E f0 n0 w0 f σ w) (x:Nat):At E f0 n0 w0 f {σ with kept:=x} (w.setCell ⟨E.bB,193,none⟩ (gn x)):=by
 have a:=h.KU 193 (gn x);obtain⟨L,rfl,b⟩:=h.rel;exact h.to ⟨L,rfl,b.yq x⟩ (ig _) a
def At.yo (h:At E f0 n0 w0 f σ w) (x:Bool):At E f0 n0 w0 f {σ with iR:=x} (w.setCell ⟨E.bB,195,none⟩ (.bool x)):=by
 have a:=h.KU 195 (.bool x);obtain⟨L,rfl,b⟩:=h.rel;exact h.to ⟨L,rfl,b.yo x⟩ (ig _) a
def At.qz (h:At E f0 n0 w0 f σ w) (x:Bool):At E f0 n0 w0 f {σ with jN:=x} (w.setCell ⟨E.bB,196,none⟩ (.bool x)):=by
 have a:=h.KU 196 (.bool x);obtain⟨L,rfl,b⟩:=h.rel;exact h.to ⟨L,rfl,b.qz x⟩ (ig _) a
def At.Cy (h:At E f0 n0 w0 f σ w) (x:Nat):At E f0 n0 w0 f {σ with gP:=x} (w.setCell ⟨E.bB,197,none⟩ (gn x)):=by
 have a:=h.KU 197 (gn x);obtain⟨L,rfl,b⟩:=h.rel;exact h.to ⟨L,rfl,b.Cy x⟩ (ig _) a
def At.sq (h:At E f0 n0 w0 f σ w) (x:Bool):At E f0 n0 w0 f {σ with behind:=x} (w.setCell ⟨E.bB,198,none⟩ (.bool x)):=by
 have a:=h.KU 198 (.bool x);obtain⟨L,rfl,b⟩:=h.rel;exact h.to ⟨L,rfl,b.sq x⟩ (ig _) a
def GD (f:Nat->Nat) (n k:Nat):Nat->Nat:=λi=>if i < n then f i else k+(i - n)
def aen (f:Nat->Nat) (n k:Nat):GD f n k n=k:=by simp[GD]
def PC (f:Nat->Nat) (n k:Nat):RR n f (GD f n k):=λi a=>gF a
def At.Gc (h:At E f0 n0 w0 f σ w) (a:gy):At E f0 n0 w0 (GD f σ.nodes.length w.heap.size) (σ.add (.el {name:=a,gU:=[],je:=none,kids:=[]})) (w.alloc (gI #[gH a,jX,.pointer none,jX] 142)):=by
 obtain⟨L,rfl,b⟩:=h.rel;exact h.go ⟨_,rfl,b.Gc a⟩ (PC _ _ _) (by simp[Ab.add]) (.gX ((Kept.refl _ _).alloc _))
def At.pL (h:At E f0 n0 w0 f σ w) (b:σ.fresh=true) (a:gy):At E f0 n0 w0 (GD f σ.nodes.length w.heap.size) (σ.pn (.el {name:=a,gU:=E.ta,je:=none,kids:=[]}) false) (w.alloc (gI #[gH a,E.tv,.pointer none,jX] 142)):=by
 obtain⟨L,rfl,c⟩:=h.rel;exact h.go ⟨_,rfl,c.pL b a⟩ (PC _ _ _) (by simp[Ab.pn]) (.gX ((Kept.refl _ _).alloc _))
end
def iF (E:Env) (t:gM):gO:=match t.k with
 | .ke s=> .iface 167 (.agg #[gn t.a,gn t.b,gH s])
 | .start n=> .iface 175 (.agg #[gn t.a,gn t.b,gH n,E.tv])
 | .stop n=> .iface 176 (.agg #[gn t.a,gn t.b,gH n,E.tv])
 | .gR s=> .iface 177 (.agg #[gn t.a,gn t.b,gH s])
 | .iM n q=> .iface 179 (.agg #[gn t.a,gn t.b,gH n,.bool q])
 | .lost=> .iface 169 (.agg #[gn t.a,gn t.b])
 | .im=> .iface 165 (.agg #[gn t.a,gn t.b])
def jd (E:Env) (t:gM):Prop:=t.rL=true->t.gU=E.ta
def qC {X : TypeId} {a:Array Field} (b:prog.underlying X=some (.struct a)) (v:gO) (c:TypeId) (w:gv):(Instr.typeAssert (.iface X v) c X true).run prog w= .ok (.tuple #[v,.bool true]) w:=by
 simp[Instr.typeAssert,pO b]
def J4 {X T : TypeId} {c:Array Field} {z : gO} (d:prog.underlying X=some (.struct c)) (b:(prog.info? X).bind (·.zero)=some z) (a:T≠X) (v:gO) (e:TypeId) (w:gv):(Instr.typeAssert (.iface T v) e X true).run prog w= .ok (.tuple #[z,.bool false]) w:=by
 have⟨i,hi,b⟩:=Option.bind_eq_some_iff.1 b;simp[Instr.typeAssert,pO d,a,zeroValue,typeInfo,hi,b]
def vh (T:TypeId) (h:T≠167) (v:gO) (a:TypeId) (w:gv):(Instr.typeAssert (.iface T v) a 167 true).run prog w= .ok (.tuple #[.agg #[gn 0,gn 0,gH kI],.bool false]) w:=J4 underlying167 (by kernel_rfl) h v a w
def sD (T:TypeId) (h:T≠177) (v:gO) (a:TypeId) (w:gv):(Instr.typeAssert (.iface T v) a 177 true).run prog w= .ok (.tuple #[.agg #[gn 0,gn 0,gH kI],.bool false]) w:=J4 underlying177 (by kernel_rfl) h v a w
def qw (T:TypeId) (h:T≠175) (v:gO) (a:TypeId) (w:gv):(Instr.typeAssert (.iface T v) a 175 true).run prog w= .ok (.tuple #[.agg #[gn 0,gn 0,gH kI,jX],.bool false]) w:=J4 underlying175 (by kernel_rfl) h v a w
def yj (T:TypeId) (h:T≠176) (v:gO) (a:TypeId) (w:gv):(Instr.typeAssert (.iface T v) a 176 true).run prog w= .ok (.tuple #[.agg #[gn 0,gn 0,gH kI,jX],.bool false]) w:=J4 underlying176 (by kernel_rfl) h v a w
def vO (T:TypeId) (h:T≠179) (v:gO) (a:TypeId) (w:gv):(Instr.typeAssert (.iface T v) a 179 true).run prog w= .ok (.tuple #[.agg #[gn 0,gn 0,gH kI,.bool false],.bool false]) w:=J4 underlying179 (by kernel_rfl) h v a w
def adR (T:TypeId) (h:T≠169) (v:gO) (a:TypeId) (w:gv):(Instr.typeAssert (.iface T v) a 169 true).run prog w= .ok (.tuple #[.agg #[gn 0,gn 0],.bool false]) w:=J4 underlying169 (by kernel_rfl) h v a w
def zl (E:Env) (t:gM):jM:=match t.k with
 | .start n=>#[gn t.a,gn t.b,gH n,E.tv]
 | .stop n=>#[gn t.a,gn t.b,gH n,E.tv]
 |_=>#[gn 0,gn 0,gH kI,jX]
def yI (E:Env) (t:gM) (w:gv):
  Calls prog 75 #[iF E t] w λe c=>e=iq (gH t.chars)/\Kept [] w c:=by
 obtain⟨a,b,k,gL⟩:=t;have d:=qC underlying167;have g:=vh;cases k
 all_goals
  simp only[iF,gM.chars];go_enter func75,ntmps75;go_wp2;go_ret;exact⟨rfl,(Kept.refl _ _).alloc _⟩
def yx (E:Env) (t:gM) (w:gv) (h:∃c n d,E.tv= .slice c n d):
  Calls prog 158 #[iF E t] w λe i=>e=iq (.agg (zl E t))/\Kept [] w i:=by
 have⟨a,b,k,gL⟩:=t;obtain⟨c,n,d,g⟩:=h;have j:=qC underlying175;have l:=qC underlying176;have o:=qw;have r:=yj;cases k
 all_goals
  simp only[iF,zl,g];go_enter func158,ntmps158;go_wp2
  first
  |refine qf (v:= .agg #[gn 0,gn 0,gH kI,jX]) ?_ rfl ⟨rfl,(Kept.refl _ _).alloc _⟩
  |refine qf (v:= .agg #[gn a,gn b,gH _,.slice c n d]) ?_ rfl ⟨rfl,((Kept.refl _ _).alloc _).alloc _⟩
  simp[results,results158,asAddr,Result.andThen,go_sem]
def I8 (E:Env) (t:gM) (w:gv):
  Calls prog 170 #[iF E t] w λe a=>e=iq (.bool (sW t.chars))/\Kept [] w a:=by
 have b:=yI E t w;go_enter func170,ntmps170
 go_wp21
 refine b.mono ?_;rintro e a ⟨rfl,c⟩;go_wp2;go_ret;refine⟨?_,c⟩;show Ending.returned (.bool (t.chars.toList==[0]))=_;unfold sW kC;simp
def XU (c:UInt8):decide (0<=Lib.indexByte [32,9,10,12] c)=lU ⟨#[c]⟩:=by
 unfold lU ij kC;simp only[sJ,List.any_cons,List.any_nil,Bool.or_false]
 by_cases a:c=32
 .subst a;rfl
 by_cases b:c=9
 .subst b;rfl
 by_cases d:c=10
 .subst d;rfl
 by_cases e:c=12
 .subst e;rfl
 simp[Lib.indexByte,a,b,d,e,List.findIdx_cons,xu]
theorem I5 (s:gy) (w:gv):
  Calls prog 279 #[gH s] w λe b=>e=iq (.bool (lU s))/\Kept [] w b:=by
 by_cases a:s.size=1
 .obtain⟨c,rfl⟩:∃c,s=⟨#[c]⟩:=by
   have⟨d⟩:=s;have j:d.size=1:=a;have⟨c,hc⟩:=Array.size_eq_one_iff.1 j
   grind
  have g:=(λw=>Tryz.strings_Contains_one mx c w);have i:=fU (XU c);go_enter func279,ntmps279
  go_wp21
  refine(g _).mono ?_;rintro e b ⟨rfl,rfl⟩;go_wp2;go_ret;exact⟨by rw[<-i.out];rfl,Kept.refl _ _⟩
 .have o:lU s=false:=by
   unfold lU ij;simp only[List.any_cons,List.any_nil,Bool.or_false];have l:∀c:UInt8,kC s ⟨#[c]⟩=false:=by
    intro c;rw[Bool.eq_false_iff];intro h;rw[xg]at h;subst h;exact a rfl
   simp[l]
  rw[o];have r:((s.size:Int)==1)=false:=by rw[Fy];omega
  go_enter func279,ntmps279;go_wp2;go_ret;exact⟨rfl,Kept.refl _ _⟩
attribute [local go_sem] Oper.semAt_some
def y7 {f : jg->jg} (c:∀x y,f x=f y->x=y):∀{a b:kQ},a.map f=b.map f->a=b
 |[],[],_=>rfl
 |[],_::_,h=>by simp at h
 |_::_,[],h=>by simp at h
 |x::a,y::b,h=>by
  simp only[yC,RL]at h;rw[c x y h.1,y7 c h.2]
theorem Td {f : jg->jg} (b:∀x y,f x=f y->x=y) {a ys : kQ} (h:a.map f <+:ys.map f):a <+:ys:=by
 have⟨t,ht⟩:=h;have c:a.length<=ys.length:=by have:=sK List.length ht;simp at this;omega
 refine⟨ys.drop a.length,?_⟩;have e:a.map f=(ys.take a.length).map f:=by
  rw[List.map_take,<-ht];simp
 rw[y7 b e]
 simp_all
def G9 (o:Oper):Bool:=match o.op with
 | .defer _=>false
 |_=>true
theorem NU {o:Oper} (h:G9 o=true):∀c,o.op≠ .defer c:=by
 intro c e;unfold G9 at h
 grind
section
variable {n:Nat} {P:Program} {ops:Array Oper} {Q:Exit->Act->gv->Prop} {md:Region.Mode}
def LC (l:Nat) (r:∀(i:Nat) o,ops[i]?=some o->G9 o=true):∀c b a w,wpAnyIn Fence.wide n P md ops Q c b a w->wpAnyIn (Fence.wide.inRound l) n P md ops Q c b a w:=by
 intro c
 induction c with
 |zero=>exact λb a w h=>h
 |succ c ih=>
  intro b a w h;refine⟨h.1,λi s=>?_⟩;have d:=h.2 i s;unfold wpOpIn at d|-;cases ho:ops[i]? with
  |none=>rw[ho]at d;exact ih _ _ _ d
  |some o=>
   rw[ho]at d;simp only at d|-;split
   .rename_i e;rw[gF e]at d;have g:=Oper.wpIn_mono (K':=wpAnyIn (Fence.wide.inRound l) n P md ops Q c (b.setIfInBounds i true)) (λa w h=>ih _ a w h) d;refine⟨g.1,?_⟩;have j:=g.2;have e1:o.semAt (Fence.wide.inRound l).round a.eval=execOp a.eval o:=aeg l a.eval o (NU (r i o ho));have e2:o.semAt Fence.wide.round a.eval=execOp a.eval o:=by
     show o.semAt none a.eval=_;unfold Oper.semAt;cases o.op<;>rfl
    rw[e1]
    rwa [e2]at j
   .rename_i e;rw[gQ e]at d;exact⟨d.1,ih _ _ _ d.2⟩
theorem Ax {id:Nat} {a:Act} {w:gv} {l:List Oper} (L:Nat) (g:P.follows .mixedOrders=true) (d:Region.lexB .any l.toArray=true) (i:l.all G9=true)
  (h:wpQuietIn Fence.wide n P l.toArray (λb=>∃n,b=w.drewN n) (λc=>∀b,(∃n,b=w.drewN n)->Q .normal c b) l a):(Code.region id l.toArray true).wpIn (Fence.wide.inRound L) n P Q a w:=by
 simp only[Region.lexB,rS]at d;refine wpIn_region_any g (LC L ?_ _ _ _ _ (wpAnyIn_of_quiet (C:=λb=>∃n,b=w.drewN n) (Q:=λc=>∀b,(∃n,b=w.drewN n)->Q .normal c b) rfl (λ_ b e h=>h b e) _ _ _ _ ⟨1,rfl⟩ ?_))
 .grind
 .have:=wpAnyQIn_lex (F:=Fence.wide) (n:=n) (C:=λb=>∃n,b=w.drewN n) (md:= .any) d.1 l.toArray.toList 0 (Array.replicate l.toArray.size false) a (by simp) (by simpa using d.2) (by simpa using h)
  simpa using this
end
attribute [local go_sem] Oper.semAt_some
def acf (T c:List Nat) (I:kQ->gv->Prop) (b:Code->kQ->gv->Prop) (a:kQ) (W:gv):Exit->Act->gv->Prop
 | .normal,_,W'=>Kept T W W'/\I a W'
 | .ret,_,W'=>Kept c W W'/\b .ret a W'
 | .exit id,_,W'=>Kept c W W'/\b (.exit id) a W'
 | .goto t,_,W'=>Kept c W W'/\b (.goto t) a W'
 | .panic _,_,_=>False
 | .outgrown,_,_=>False
theorem Ej {n:Nat} (hn:3<=n) {base b j:Nat} {tB:TypeId} {C:jM} {v:gO} {f:jg->jg} (hf:∀x y,f x=f y->x=y) {ys:kQ} {w1:gv} (hL:wY base b j tB C v (ys.map f) w1)
  {g:Operand} {p:Tmp} {u V:Code} {Q:Exit->Act->gv->Prop} {a:Act} (hg:a.eval g=uQ w1.heap.size)
  (T Tx:List Nat) (hT:∀k∈T,k < w1.heap.size/\k≠b/\v.ownBlock≠some k) (ab:∀k∈Tx,k < w1.heap.size)
  (I:kQ->gv->Prop) (Ix:Code->kQ->gv->Prop)
  (hI:OwnFrom (w1.heap.size+2) I) (a3:∀c,OwnFrom (w1.heap.size+2) (Ix c)) (h0:I [] (mu b j ys.length w1)) (L:jg->Act)
  (O:∀(l:Nat) (x:jg) (W:gv) (K:Act->gv->Prop),K (L x) W->
   u.wpIn (Fence.wide.inRound l) (n - 1 - 1) prog (Exit.then K (λ_ _ _=>False)) {tmps:=a.tmps.setIfInBounds p (kh x),defers:=[]} W)
  (Y:∀(l:Nat) (pre:kQ) (y:jg) (W:gv),y∈ys->I pre W->V.wpIn (Fence.wide.inRound l) (n - 1 - 1) prog (acf T Tx I Ix (pre++[y]) W) (L (f y)) W)
  (a7:∀(D:Nat) (W:gv),w1.heap.size+2<=D->I ys.reverse W->W.heap[D]?=some (.deferred (some []))->Q .normal {a with defers:={target:= .collected D,args:=#[]}::a.defers} W)
  (a0:∀(D:Nat) (c:Code) (pre:kQ) (W:gv),w1.heap.size+2<=D->pre <+:ys.reverse->Ix c pre W->W.heap[D]?=some (.deferred (some []))->c.wpIn Fence.wide n prog Q {a with defers:={target:= .collected D,args:=#[]}::a.defers} W):
  (Code.rangeFunc g #[p] u V).wpIn Fence.wide n prog Q a (mu b j ys.length w1):=by
 have i:(mu b j ys.length w1).heap.size=w1.heap.size+2:=by simp
 have a6:=jk hL.ir;have a8:Kept [] w1 (mu b j ys.length w1):=((Kept.refl _ _).alloc _).alloc _;have a5:wY base b j tB C v (ys.map f) (mu b j ys.length w1):=hL.ER (kB.jU (K:=b::v.ownBlock.toList) a8 (λk d=>⟨by
  rcases List.mem_cons.1 d with rfl|d
  .exact a6
  .exact(hL.row.lt k (by simpa using d)).2,by simp⟩)) (by simp) (λk d=>by simp[d])
 have⟨b0,b1⟩:=(⟨(Below.heap_alloc _ _ _ (by simp)).trans (fY w1 _),by
   have:=fY (w1.alloc (gI #[jG b j] 256)) (gI #[gn ys.length] 3)
   simp_all⟩:(mu b j ys.length w1).heap[w1.heap.size]?=some (gI #[jG b j] 256)/\(mu b j ys.length w1).heap[w1.heap.size+1]?=some (gI #[gn ys.length] 3))
 obtain⟨K,hK⟩:∃K,K=b::w1.heap.size::v.ownBlock.toList:=⟨_,rfl⟩;have a1:∀k∈K,k < w1.heap.size+2:=by
  intro k d;rw[hK]at d;rcases List.mem_cons.1 d with rfl|d
  .omega
  .rcases List.mem_cons.1 d with rfl|d
   .omega
   .have:=(hL.row.lt k (by simpa using d)).2;omega
 have a4:∀k∈K,k∉T:=by
  intro k d Z;have⟨t1,t2,t3⟩:=hT k Z;rw[hK]at d;rcases List.mem_cons.1 d with rfl|d
  .omega
  .grind
 have a9:=Rw (n - 1) (by omega) base b j tB C v (ys.map f) ys.length w1.heap.size K _ a5 (by simp) (by rw[hK];simp) (by rw[hK];simp) (by grind) (by simp) b1 b0;have aa:∀{α:Type} {W J:gv} {R:jg} {B:Nat},B<=W.heap.size->W.grownBy J R->B<=J.heap.size:=λF G=>jP F G.size;refine wpIn_rangeFunc_ownG rfl (by omega) (gf:=341) hg trivial (Go.Proofs.enters_of func341 (by rfl) rfl) a9 kB.trans (λW l o o' hl F G h3=>kB.put (w:=mu b j ys.length w1) (by rw[i];omega) W l o o' hl F G h3) (Below.refl _ _) (λ_=>rfl)
  (λpre W=>w1.heap.size+2<=W.heap.size/\∃h,pre.map (·.1)=h.map f/\I h W) (λc pre W=>∃h,pre.map (·.1)=h.map f/\Ix c h W) ?_ ?_ ?_ (λx=>L x.1) ?_ ?_ ?_ ?_
 .rintro s A B R ⟨hs,h,F,G⟩ U hr;rw[i]at hr;exact⟨jP hs U.size,h,F,hI h A B R G U hr⟩
 .rintro c s A B R ⟨h,F,G⟩ U hr;rw[i]at hr;exact⟨h,F,a3 c h A B R G U hr⟩
 .grind
 .intro l x W K' S;have:=O l x.1 W K' S;have e:(#[p].zip #[kh x.1]).foldl (λt (p,v)=>t.setIfInBounds p v) a.tmps=a.tmps.setIfInBounds p (kh x.1):=by simp
  rw[e];exact this
 .rintro l pre ⟨x,hx⟩ W ⟨hs,h,F,G⟩ _;obtain⟨y,hy,rfl⟩:=List.mem_map.1 hx;refine wI (Y l h y W hy G) ?_;have a2:∀{J:gv},Kept T W J->KeepsFrom (mu b j ys.length w1).heap.size W J:=by
   intro J d;refine⟨d.size,λk o X ho _=>?_⟩;rw[i]at X;rw[d.block k (Array.getElem?_eq_some_iff.1 ho).1 (λZ=>by grind)];exact ho
  have r:∀{J:gv},Kept Tx W J->KeepsFrom (mu b j ys.length w1).heap.size W J:=by
   intro J d;refine⟨d.size,λk o X ho _=>?_⟩;rw[i]at X;rw[d.block k (Array.getElem?_eq_some_iff.1 ho).1 (λZ=>by grind)];exact ho
  have z:(pre++[(⟨f y,hx⟩:{x:jg // x∈ys.map f})]).map (·.1)=(h++[y]).map f:=by rw[rA,F];simp
  intro e a' J H;cases e with
  |normal=>exact⟨a2 H.1,kB.jU H.1 (λk d=>⟨lV (a1 k d) hs,a4 k d⟩),jP hs H.1.size,_,z,H.2⟩
  |ret=>exact⟨r H.1,_,z,H.2⟩
  |exit id=>exact⟨r H.1,_,z,H.2⟩
  |goto t=>exact⟨r H.1,_,z,H.2⟩
  |panic _=>exact H
  |outgrown=>exact H
 .rintro D xs W hD hS ⟨_,h,F,G⟩ S;rw[i]at hD;have N:xs.map (·.1)=((ys.map f).take ys.length).reverse:=hS;rw[F,AN (by simp),<-U9]at N;rw[y7 hf N]at G
  grind
 .rintro D c pre W hD hS ⟨h,F,G⟩ S;rw[i]at hD;have N:pre.map (·.1) <+:((ys.map f).take ys.length).reverse:=hS;rw[F,AN (by simp),<-U9]at N;exact a0 D c h W hD (Td hf N) G S
def U0:=λ{n:Nat} (s:3<=n) {d b j u C v} {f:jg->jg} l {z x} i {g p c e Q a} o T h=>@Ej n s d b j u C v f l z x i g p c e Q a o T T h (λk r=>(h k r).1)
attribute [local go_sem] Oper.semAt_some
def JQ {σ:Ab}:∀{a:kQ},(∀y∈a,p (σ.qU y)=false/\q (σ.qU y)=false)->σ.xG p q a=false
 |[],_=>rfl
 |x::a,h=>by
  unfold Ab.xG;have⟨h1,h2⟩:=h x (by simp);rw[h1,h2];exact JQ λy b=>h y (by simp[b])
theorem JR {σ:Ab} {r : Bool} (b:(p (σ.qU y)=true/\r=true)\/(p (σ.qU y)=false/\q (σ.qU y)=true/\r=false)):∀{a:kQ},(∀y∈a,p (σ.qU y)=false/\q (σ.qU y)=false)->σ.xG p q (a++[y]++rest)=r
 |[],_=>by
  grind[Ab.xG]
 |x::a,h=>by
  show σ.xG p q (x::(a++[y]++rest))=r;unfold Ab.xG;have⟨h1,h2⟩:=h x (by simp);rw[h1,h2];exact JR b λy c=>h y (by simp[c])
theorem Kept.take (h:Kept [] w W) {D : Nat} (a:w.heap.size<=D) (o:Obj):Kept [] w (W.putObj D o):=h.grown (xJ W D o) (λk e=>by grind)
theorem kG {A B : gv} {a : jg} {o : Obj} (h:A.heap[k]?=some o) (b:A.grownBy B a) (d:∀r,a=some r->n<=r/\∃o:Obj,A.heap[r]?=some o/\o.isCells=false) (c:k < n):B.heap[k]?=some o:=by
 rw[b.block k (Array.getElem?_eq_some_iff.1 h).1 (λe=>by grind)];exact h
theorem lX {A B : gv} {a : jg} (h:Kept [] w A) (b:A.grownBy B a) (d:∀r,a=some r->n<=r/\∃o:Obj,A.heap[r]?=some o/\o.isCells=false) (c:w.heap.size<=n):Kept [] w B:=h.grown b (λk e=> .inr (by grind))
theorem vJ {σ:Ab} (h:RF E f σ w) (p q:gy->Bool) (vs vb:gO) (hs:Ask E.bm vs p w) (hb:Ask E.bm vb q w):
  Calls prog 219 #[Bp E,vs,vb] w λe G=>e=iq (.bool (σ.inScope p q))/\Kept [] w G:=by
 obtain⟨L,rfl,j⟩:=h;obtain⟨S,b,rfl,a6,H1⟩:=hs.call;obtain⟨X,o,rfl,a7,H2⟩:=hb.call;refine(wJ (n:=3)).1 ?_;refine wK func219 rfl trivial ?_ rfl;simp only[ntmps219,wM,qe,uS,Nat.reduceAdd,Nat.reduceSub,wN,wO,wP,wQ,ru,uT];obtain⟨H,u⟩:∃H,H=((w.alloc (gI #[.func (.func S) #[] b] 150)).alloc (gI #[.func (.func X) #[] o] 150)).alloc (gI #[.bool false] 4):=⟨_,rfl⟩;have a1:Kept [] w H:=by rw[u];exact(((Kept.refl _ _).alloc _).alloc _).alloc _
 have⟨b0,b1,b2⟩:=oq w (gI #[.func (.func S) #[] b] 150) (gI #[.func (.func X) #[] o] 150) (gI #[.bool false] 4);rw[<-u]at b0 b1 b2;have a:H.heap.size=w.heap.size+1+1+1:=by rw[u];simp
 have a3:=j.il a1;have⟨C,HL,hC⟩:=a3.yZ;have a8:=j.lt;have HU:=Wi E.bs E.bB 188 _ C _ _ H HL;have HO:=(λg (O:L.ov.ownBlock=some g)=>Cu j.o0 O);have HN:=fU (λ(W:gv) (F:Kept [] w W) (i:Nat) (e:zu) (hi:σ.hU i=some e)=>(j.il F).vi hi);have HS:=(λ(y:jg) (z:y∈σ.gz)=>j.od z);have HI:=fU j.inj;clear j a3 hC hs hb
 gi_wp2_with (refine⟨trivial,?_⟩;gi_at_call 276;rw[<-u];refine(callsIn_wide.2 HU).mono ?_;rintro e G ⟨rfl,rfl⟩)
 rw[<-a,<-u];have HZ:=fU a;clear a u;refine U0 (by omega) (f:=iD L.gP) (λx y e=>rM HI.out e) HL rfl [w.heap.size+1+1] ?_
  (λpre W=>Kept [] w W/\W.heap[w.heap.size]?=some (gI #[.func (.func S) #[] b] 150)/\W.heap[w.heap.size+1]?=some (gI #[.func (.func X) #[] o] 150)/\W.heap[w.heap.size+1+1]?=some (gI #[.bool false] 4)/\∀y∈pre,p (σ.qU y)=false/\q (σ.qU y)=false)
  (λc pre W=>c= .ret/\Kept [] w W/\∃d y r,pre=d++[y]/\(∀y∈d,p (σ.qU y)=false/\q (σ.qU y)=false)/\((p (σ.qU y)=true/\r=true)\/(p (σ.qU y)=false/\q (σ.qU y)=true/\r=false))/\W.heap[w.heap.size+1+1]?=some (gI #[.bool r] 4))
  ?_ ?_ ?_ (λx=>{tmps:=#[Bp E,.func (.func S) #[] b,.func (.func X) #[] o,undef,gJ w.heap.size,gJ (w.heap.size+1),gJ (w.heap.size+1+1),kh x,Bp E,gJ E.bB,jG E.bB 188,uQ H.heap.size,kh x,undef,undef,undef,undef,undef,undef,undef,undef,undef,undef,undef,undef,undef,undef],defers:=[]}) ?assign ?body ?done ?stop
 .grind
 .rintro s A B a5 ⟨h1,h2,R,J,N⟩ O j;have a:=HZ.out;exact⟨lX h1 O j (by omega),kG h2 O j (by omega),kG R O j (by omega),kG J O j (by omega),N⟩
 .rintro c s A B a5 ⟨h0,h1,d,y,r,h2,R,J,N⟩ O j;have a:=HZ.out;exact⟨h0,lX h1 O j (by omega),d,y,r,h2,R,J,kG N O j (by omega)⟩
 .have F:Kept [] H (mu E.bB 188 (σ.gz.length) H):=((Kept.refl _ _).alloc _).alloc _;exact⟨a1.trans F,F.at b0 (by simp),F.at b1 (by simp),F.at b2 (by simp),by simp⟩
 case assign=>
  intro l x W K Y;gi_wp2;exact Y
 case body=>
  rintro l pre y W z ⟨I,B2,B3,Z,B5⟩;obtain⟨i,e0,rfl,hi⟩:=HS y z;have c0:=HN.out W I i e0 hi;have c1:=fW B2 0;have c2:=fW B3 0;have T:=fW Z 0;have f3:=gE Z 0;dsimp at c1 c2 T;have HA:=(λW' (F:Kept [] w W')=>H1 W' (.gX F) (σ.nm i));have HB:=(λW' (F:Kept [] w W')=>H2 W' (.gX F) (σ.nm i));have HW:=I.drew;have HT:Hid (∀(r:Bool),Kept [w.heap.size+1+1] W ((W.drew).setCell ⟨w.heap.size+1+1,0,none⟩ (.bool r))/\Kept [] w ((W.drew).setCell ⟨w.heap.size+1+1,0,none⟩ (.bool r))/\((W.drew).setCell ⟨w.heap.size+1+1,0,none⟩ (.bool r)).heap[w.heap.size+1+1]?=some (gI #[.bool r] 4)):=λr=>⟨((Kept.refl _ W).drew).setCell (.inl (by simp)) _,I.drew.setCell (.inr (by simp;omega)) _,gg (show W.drew.heap[w.heap.size+1+1]?=_ from Z) 0 _⟩;have a4:Hid (∀(r:Bool),Kept [w.heap.size+1+1] W ((W.drew.drew).setCell ⟨w.heap.size+1+1,0,none⟩ (.bool r))/\Kept [] w ((W.drew.drew).setCell ⟨w.heap.size+1+1,0,none⟩ (.bool r))/\((W.drew.drew).setCell ⟨w.heap.size+1+1,0,none⟩ (.bool r)).heap[w.heap.size+1+1]?=some (gI #[.bool r] 4)):=λr=>⟨((Kept.refl _ W).drew.drew).setCell (.inl (by simp)) _,I.drew.drew.setCell (.inr (by simp;omega)) _,gg (show W.drew.drew.heap[w.heap.size+1+1]?=_ from Z) 0 _⟩;have HN:Hid (Kept [w.heap.size+1+1] W W.drew.drew):=(Kept.refl _ W).drew.drew
  try dsimp only
  rw[show kh (iD L.gP (some i))=gJ (L.gP i)from rfl];have a9:prog.follows .mixedOrders=true:=rfl;gi_wp2;refine wI (Q:=λe a' G=>e=Exit.normal/\a'=({tmps:=#[Bp E,.func (.func S) #[] b,.func (.func X) #[] o,undef,gJ w.heap.size,gJ (w.heap.size+1),gJ (w.heap.size+1+1),gJ (L.gP i),Bp E,gJ E.bB,jG E.bB 188,uQ H.heap.size,gJ (L.gP i),.bool (p (σ.nm i)),.func (.func S) #[] b,gJ (L.gP i),gJ (L.gP i),gJ (L.gP i),gH (σ.nm i),.bool (p (σ.nm i)),undef,undef,undef,undef,undef,undef,undef],defers:=[]}:Act)/\G=W.drew) ?_ ?_
  .gi_region_with_o (refine⟨trivial,?_⟩;refine(qF l (callsIn_wide.2 (HA _ HW))).mono ?_;rintro e G ⟨rfl,rfl⟩)
   all_goals simp
  rintro e a' G ⟨rfl,rfl,rfl⟩;cases hp:p (σ.nm i)with
  |true=>
   gi_wp2;have⟨t1,t2,t3⟩:=HT.out true;exact⟨t1,rfl,t2,pre,some i,true,rfl,B5,.inl ⟨hp,rfl⟩,t3⟩
  |false=>
   have HP:=hp;clear hp;gi_wp2;refine wI (Q:=λe a' G=>e=Exit.normal/\a'=({tmps:=#[Bp E,.func (.func S) #[] b,.func (.func X) #[] o,undef,gJ w.heap.size,gJ (w.heap.size+1),gJ (w.heap.size+1+1),gJ (L.gP i),Bp E,gJ E.bB,jG E.bB 188,uQ H.heap.size,gJ (L.gP i),.bool false,.func (.func S) #[] b,gJ (L.gP i),gJ (L.gP i),gJ (L.gP i),gH (σ.nm i),.bool false,.bool (q (σ.nm i)),.func (.func X) #[] o,gJ (L.gP i),gJ (L.gP i),gJ (L.gP i),gH (σ.nm i),.bool (q (σ.nm i))],defers:=[]}:Act)/\G=W.drew.drew) ?_ ?_
   .gi_region_with_o (refine⟨trivial,?_⟩;refine(qF l (callsIn_wide.2 (HB _ HW.drew))).mono ?_;rintro e G ⟨rfl,rfl⟩)
    all_goals simp
   rintro e a' G ⟨rfl,rfl,rfl⟩;cases hq:q (σ.nm i)with
   |true=>
    gi_wp2;have⟨t1,t2,t3⟩:=a4.out false;exact⟨t1,rfl,t2,pre,some i,false,rfl,B5,.inr ⟨HP,hq,rfl⟩,t3⟩
   |false=>
    have HQ:=hq;clear hq;gi_wp2;refine⟨HN.out,I.drew.drew,B2,B3,Z,λy z=>?_⟩;rcases List.mem_append.1 z with z|z
    .exact B5 y z
    .rw[List.mem_singleton.1 z];exact⟨HP,HQ⟩
 case done=>
  rintro D W HD ⟨I,h2,R,J,N⟩ Y;have a:=HZ.out;have T:=fW J 0;have f3:=gE J 0;dsimp at T;have V:σ.inScope p q=false:=JQ (λy z=>N y z);clear h2 R a N;gi_wp2;have a0:=(Km W ⟨w.heap.size+1+1,0,none⟩ (.bool false)).same D _ Y rfl;refine⟨by simp,.inl ⟨_,_,rfl,nM a0,?_⟩⟩;have U:=cell_kept (World.cell?_setCell_same' W ⟨w.heap.size+1+1,0,none⟩ (.bool false) (by rw[T];rfl)) (xJ _ D (.deferred none)) (λr e=>by cases e;exact⟨_,a0,rfl⟩);refine⟨.bool false,?_,⟨by rw[V],?_⟩⟩
  .simp[results,results219,go_sem,U]
  .have a:=HZ.out;have hD:=HD;exact(I.setCell (.inr (by simp;omega)) _).take (by omega) _
 case stop=>
  rintro D c pre W HD a2 ⟨rfl,I,d,y,r,rfl,R,J,N⟩ Y;have⟨rest,hrest⟩:=a2;have V:σ.inScope p q=r:=by unfold Ab.inScope;rw[<-hrest];exact JR J R
  have T:=fW N 0;dsimp at T;clear R J N hrest;gi_wp2;refine⟨by simp,.inl ⟨_,_,rfl,nM Y,?_⟩⟩;have U:=cell_kept T (xJ _ D (.deferred none)) (λr e=>by cases e;exact⟨_,Y,rfl⟩);refine⟨.bool r,?_,⟨by rw[V],?_⟩⟩
  .simp[results,results219,go_sem,U]
  .have a:=HZ.out;have hD:=HD;exact I.take (by omega) _
section
attribute [local go_sem] Oper.semAt_some
def qd (f:FuncId):Fence.wide.fn f=True:=rfl
attribute [local go_sem] qd
attribute [local simp] qd
def DL {σ:Ab}:∀{a:kQ},(∀y∈a,y≠some it/\iP (σ.qU y)=false)->σ.nX it a=false
 |[],_=>rfl
 |x::a,h=>by
  unfold Ab.nX;have⟨h1,h2⟩:=h x (by simp);rw[gQ h1,h2];exact DL λy b=>h y (by simp[b])
theorem DN {σ:Ab} {r : Bool} (b:(y=some it/\r=true)\/(y≠some it/\iP (σ.qU y)=true/\r=false)):∀{a:kQ},(∀y∈a,y≠some it/\iP (σ.qU y)=false)->σ.nX it (a++[y]++rest)=r
 |[],_=>by
  grind[Ab.nX]
 |x::a,h=>by
  show σ.nX it (x::(a++[y]++rest))=r;unfold Ab.nX;have⟨h1,h2⟩:=h x (by simp);rw[gQ h1,h2];exact DN b λy c=>h y (by simp[c])
theorem F8 {σ:Ab} (h:RF E f σ w) (it:Nat) (a4:σ.gW (some it)=true):
  Calls prog 269 #[Bp E,nV f it] w λe w'=>e=iq (.bool (σ.oI it))/\Kept [] w w':=by
 obtain⟨L,rfl,d⟩:=h;have⟨fb,ab,lb0,cb,hb⟩:=d.bounds;have⟨kb,lbb,eb,heb,H2⟩:=hb.call;cases eb;refine(wJ (n:=3)).1 ?_;refine wK func269 rfl trivial ?_ rfl;simp only[ntmps269,wM,qe,uS,Nat.reduceAdd,Nat.reduceSub,wN,wO,wP,wQ,ru,uT];obtain⟨H,u⟩:∃H,H=((w.alloc (gI #[Bp E] 93)).alloc (gI #[gJ (L.gP it)] 57)).alloc (gI #[.bool false] 4):=⟨_,rfl⟩;have a0:Kept [] w H:=by rw[u];exact(((Kept.refl _ _).alloc _).alloc _).alloc _
 have⟨b0,b1,b2⟩:=oq w (gI #[Bp E] 93) (gI #[gJ (L.gP it)] 57) (gI #[.bool false] 4);rw[<-u]at b0 b1 b2;have a:H.heap.size=w.heap.size+1+1+1:=by rw[u];simp
 have a7:=d.il a0;have⟨C,HL,hC⟩:=a7.yZ;have a5:=d.lt;have HU:=Wi E.bs E.bB 188 _ C _ _ H HL;have a2:=(λ(W:gv) (o:Kept [] w W)=>(o.cell (p:=⟨E.bB,186,none⟩) a5 (by simp)).trans cb);have HO:=(λg (F:L.ov.ownBlock=some g)=>Cu d.o0 F);have HN:=(λ(W:gv) (o:Kept [] w W) (i:Nat) (e:zu) (hi:σ.hU i=some e)=>(d.il o).vi hi);have HS:=(λ(y:jg) (z:y∈σ.gz)=>d.od z);have HI:=d.inj;have HE:=(λ(W:gv) (o:Kept [] w W) (x:jg) (hx:σ.gW x=true)=>(d.il o).gW hx);have Y:=fU a;have HW:=fU u;clear a u
 gi_wp2_with fail
 rw[<-HW.out];refine(callsIn_wide.2 HU).mono ?_;rintro e w' ⟨rfl,rfl⟩;gi_wp2;refine U0 (by omega) (f:=iD L.gP) (λx y e=>rM HI e) HL rfl [w.heap.size+1+1] ?_
  (λpre W=>Kept [] w W/\W.heap[w.heap.size]?=some (gI #[Bp E] 93)/\W.heap[w.heap.size+1]?=some (gI #[gJ (L.gP it)] 57)/\W.heap[w.heap.size+1+1]?=some (gI #[.bool false] 4)/\∀y∈pre,y≠some it/\iP (σ.qU y)=false)
  (λc pre W=>c= .ret/\Kept [] w W/\∃b y r,pre=b++[y]/\(∀y∈b,y≠some it/\iP (σ.qU y)=false)/\((y=some it/\r=true)\/(y≠some it/\iP (σ.qU y)=true/\r=false))/\W.heap[w.heap.size+1+1]?=some (gI #[.bool r] 4))
  ?_ ?_ ?_ (λx=>{tmps:=#[Bp E,gJ (L.gP it),gJ w.heap.size,gJ (w.heap.size+1),gJ (w.heap.size+1+1),kh x,Bp E,gJ E.bB,jG E.bB 188,uQ H.heap.size,kh x,undef,undef,undef,undef,undef,undef,undef,undef,undef,undef,undef,undef,undef,undef],defers:=[]}) ?assign ?body ?done ?stop
 .grind
 .rintro s A B a9 ⟨h1,h2,T,G,J⟩ F d;have a:=Y.out;exact⟨lX h1 F d (by omega),kG h2 F d (by omega),kG T F d (by omega),kG G F d (by omega),J⟩
 .rintro c s A B a9 ⟨h0,h1,b,y,r,h2,T,G,J⟩ F d;have a:=Y.out;exact⟨h0,lX h1 F d (by omega),b,y,r,h2,T,G,kG J F d (by omega)⟩
 .have o:Kept [] H (mu E.bB 188 (σ.gz.length) H):=((Kept.refl _ _).alloc _).alloc _;exact⟨a0.trans o,o.at b0 (by simp),o.at b1 (by simp),o.at b2 (by simp),by simp⟩
 case assign=>
  intro l x W K U;gi_wp2;exact U
 case body=>
  rintro l pre y W z ⟨j,B2,B3,V,B5⟩;obtain⟨i,e0,rfl,hi⟩:=HS y z;have c0:=HN W j i e0 hi;have cB:=a2 W j;have c1:=fW B2 0;have c2:=fW B3 0;have I:=fW V 0;have f3:=gE V 0;dsimp at c1 c2 I;have HB:=(λW' (o:Kept [] w W')=>H2 W' (.gX o) (σ.nm i));have HT:Hid (∀(q:Nat) (r:Bool),Kept [w.heap.size+1+1] W ((W.drewN q).setCell ⟨w.heap.size+1+1,0,none⟩ (.bool r))/\Kept [] w ((W.drewN q).setCell ⟨w.heap.size+1+1,0,none⟩ (.bool r))/\((W.drewN q).setCell ⟨w.heap.size+1+1,0,none⟩ (.bool r)).heap[w.heap.size+1+1]?=some (gI #[.bool r] 4)):=λq r=>⟨((Kept.refl _ W).drewN q).setCell (.inl (by simp)) _,(j.drewN q).setCell (.inr (by simp;omega)) _,gg (show(W.drewN q).heap[w.heap.size+1+1]?=_ from V) 0 _⟩;have a3:Hid (∀(r:Bool),Kept [w.heap.size+1+1] W (W.setCell ⟨w.heap.size+1+1,0,none⟩ (.bool r))/\Kept [] w (W.setCell ⟨w.heap.size+1+1,0,none⟩ (.bool r))/\(W.setCell ⟨w.heap.size+1+1,0,none⟩ (.bool r)).heap[w.heap.size+1+1]?=some (gI #[.bool r] 4)):=λr=>⟨(Kept.refl _ W).setCell (.inl (by simp)) _,j.setCell (.inr (by simp;omega)) _,gg V 0 _⟩;have O:=Cc (HE W j (some i) (by show(σ.hU i).isSome=true;rw[hi];rfl)) (HE W j (some it) a4);rw[show ptr (iD L.gP (some i))=some ⟨L.gP i,0,none⟩from rfl,show ptr (iD L.gP (some it))=some ⟨L.gP it,0,none⟩from rfl]at O
  try dsimp only
  rw[show kh (iD L.gP (some i))=gJ (L.gP i)from rfl]
  by_cases R:i=it
  .subst R;rw[vp rfl]at O;gi_wp2;have⟨t1,t2,t3⟩:=a3.out true;exact⟨t1,rfl,t2,pre,some i,true,rfl,B5,.inl ⟨rfl,rfl⟩,t3⟩
  .have a6:L.gP i≠L.gP it:=λe=>R (HI _ _ e);have X:(some i:jg)≠some it:=λe=>R (jL e);rw[xo (by simpa using a6)]at O;gi_wp2;refine Ax l (by kernel_rfl) (by kernel_rfl) (by rfl) ?_
   repeat (gi_big_quiet_step ((exact callsIn_wide.2 (Fw (HB _ (j.drewN _))))))
   refine wpQuietIn_nil ?_;intro _ a8;have⟨nq,hw''⟩:=a8;subst hw'';cases hq:iP (σ.nm i)with
   |true=>
    gi_wp2;have⟨t1,t2,t3⟩:=HT.out nq false;exact⟨t1,rfl,t2,pre,some i,false,rfl,B5,.inr ⟨X,hq,rfl⟩,t3⟩
   |false=>
    have HQ:=hq;gi_wp2;refine⟨(Kept.refl _ W).drewN nq,j.drewN nq,B2,B3,V,λy z=>?_⟩;rcases List.mem_append.1 z with z|z
    .exact B5 y z
    .rw[List.mem_singleton.1 z];exact⟨X,HQ⟩
 case done=>
  rintro D W HD ⟨j,h2,T,G,J⟩ U;have a:=Y.out;have I:=fW G 0;have f3:=gE G 0;dsimp at I;have S:σ.oI it=false:=DL (λy z=>J y z);clear a;gi_wp2;have Z:=(Km W ⟨w.heap.size+1+1,0,none⟩ (.bool false)).same D _ U rfl;refine⟨by simp,.inl ⟨_,_,rfl,nM Z,?_⟩⟩;have N:=cell_kept (World.cell?_setCell_same' W ⟨w.heap.size+1+1,0,none⟩ (.bool false) (by rw[I];rfl)) (xJ _ D (.deferred none)) (λr e=>by cases e;exact⟨_,Z,rfl⟩);refine⟨.bool false,?_,⟨by rw[S],?_⟩⟩
  .simp[results,results269,go_sem,N]
  .have a:=Y.out;have hD:=HD;exact(j.setCell (.inr (by simp;omega)) _).take (by omega) _
 case stop=>
  rintro D c pre W HD a1 ⟨rfl,j,b,y,r,rfl,T,G,J⟩ U;have⟨rest,hrest⟩:=a1;have S:σ.oI it=r:=by unfold Ab.oI;rw[<-hrest];exact DN G T
  have I:=fW J 0;dsimp at I;gi_wp2;refine⟨by simp,.inl ⟨_,_,rfl,nM U,?_⟩⟩;have N:=cell_kept I (xJ _ D (.deferred none)) (λr e=>by cases e;exact⟨_,U,rfl⟩);refine⟨.bool r,?_,⟨by rw[S],?_⟩⟩
  .simp[results,results269,go_sem,N]
  .have a:=Y.out;have hD:=HD;exact j.take (by omega) _
end
theorem Ld (s:gy) (w:gv):Calls prog 277 #[gH s] w λe b=>e=iq (gn (jR s))/\b=w:=by
 have a:jR s=if (s.toList==[116,100]||s.toList==[116,104])then 13 else if s.toList==[116,114]then 12 else if (s.toList==[116,98,111,100,121]||(s.toList==[116,104,101,97,100]||s.toList==[116,102,111,111,116]))then 11 else if s.toList==[99,97,112,116,105,111,110]then 9 else if s.toList==[99,111,108,103,114,111,117,112]then 10 else if s.toList==[116,97,98,108,101]then 7 else 6:=by
  unfold jR ij kC;simp only[List.any_cons,List.any_nil,Bool.or_false,sJ]
 rw[a];go_enter func277,ntmps277;go_wp2
 all_goals go_ret
 all_goals refine⟨?_,rfl⟩
 all_goals simp_all
attribute [local go_sem] Oper.semAt_some
theorem Kept.both {a : gv} (h:Kept [] a w) {b : Nat} {c : jM} {t : TypeId} (r:a.heap[b]?=some (gI c t)) (j:Nat) (v:gO):Kept [] (a.setCell ⟨b,j,none⟩ v) (w.setCell ⟨b,j,none⟩ v):=by
 have g:=(Kept.refl [b] a).setCell (p:=⟨b,j,none⟩) (.inl (by simp)) v;have i:=(Kept.refl [b] w).setCell (p:=⟨b,j,none⟩) (.inl (by simp)) v;have d:(a.setCell ⟨b,j,none⟩ v).heap.size=a.heap.size:=by simp
 have o:(w.setCell ⟨b,j,none⟩ v).heap.size=w.heap.size:=by simp
 refine⟨i.os.trans (h.os.trans g.os.symm),i.tape.trans (h.tape.trans g.tape.symm),i.output.trans (h.output.trans g.output.symm),by rw[d,o];exact h.size,λk e _=>?_⟩;rw[d]at e
 by_cases l:k=b
 .subst l;exact(gg (h.at r (by simp)) j v).trans (gg r j v).symm
 .rw[i.block k (lV e h.size) (by grind),g.block k e (by grind),h.block k e (by simp)]
def JI {σ:Ab}:∀{a:kQ},(∀y∈a,jR (σ.qU y)=6)->tZ σ a=6
 |[],_=>rfl
 |x::a,h=>by
  unfold tZ;rw[gF (h x (by simp))];exact JI λy b=>h y (by simp[b])
theorem JK {σ:Ab} (b:jR (σ.qU y)≠6):∀{a:kQ},(∀y∈a,jR (σ.qU y)=6)->tZ σ (a++[y]++rest)=jR (σ.qU y)
 |[],_=>by
  grind[tZ]
 |x::a,h=>by
  show tZ σ (x::(a++[y]++rest))=_;unfold tZ;rw[gF (h x (by simp))];exact JK b λy c=>h y (by simp[c])
theorem UF {σ:Ab} (h:RF E f σ w):
  Calls prog 211 #[Bp E] w (j8 E f σ.nodes.length w (xF σ) uV):=by
 obtain⟨L,rfl,d⟩:=h;refine(wJ (n:=3)).1 ?_;refine wK func211 rfl trivial ?_ rfl;simp only[ntmps211,wM,qe,uS,Nat.reduceAdd,Nat.reduceSub,wN,wO,wP,wQ,ru,uT];have a9:=d.lt;have cm:=d.rJ;have fm:=d.free 192;have a6:=d.jc 6;have a5:Fr E.bs w (w.setCell ⟨E.bB,192,none⟩ (gn ((6:Nat)))):=(At.start ⟨L,rfl,d⟩).KU 192 _;obtain⟨j,u⟩:∃j,j=(w.setCell ⟨E.bB,192,none⟩ (gn 6)).alloc (gI #[Bp E] 93):=⟨_,rfl⟩;have Y:Kept [] (w.setCell ⟨E.bB,192,none⟩ (gn 6)) j:=by rw[u];exact(Kept.refl _ _).alloc _
 have b0:j.heap[w.heap.size]?=some (gI #[Bp E] 93):=by
  rw[u];have:=fY (w.setCell ⟨E.bB,192,none⟩ (gn 6)) (gI #[Bp E] 93)
  simpa using this
 have G:j.heap.size=w.heap.size+1:=by rw[u];simp
 have b:=a6.il Y;have⟨C,HL,hC⟩:=b.yZ;have HU:=Wi E.bs E.bB 188 _ C _ _ j HL;have HO:=(λg (V:L.ov.ownBlock=some g)=>Cu d.o0 V);have HN:=(λ(W:gv) (X:Kept [] j W) (i:Nat) (e:zu) (hi:σ.hU i=some e)=>(show W.cell? ⟨L.gP i,0,none⟩=some (gH (σ.nm i))from(b.il X).vi (σ:={σ with mode:=6}) hi));have HS:=(λ(y:jg) (F:y∈σ.gz)=>d.od F);have HI:=d.inj;have HM:=(λ(W:gv) (X:Kept [] j W)=>(⟨(b.il X).rJ,(b.il X).free 192,(b.il X).lt⟩:_/\_/\_));have I:=fU b;have S:=a5.trans (.gX Y);have a1:=HL.ir;have a8:=d.fr.size;clear b;have HZ:=fU G;have HW:=fU u;clear G u
 gi_wp2_with fail
 rw[<-HW.out];refine⟨trivial,(callsIn_wide.2 HU).mono ?_⟩;rintro e w' ⟨rfl,rfl⟩;gi_wp2;refine Ej (by omega) (f:=iD L.gP) (λx y e=>rM HI e) HL rfl [] [E.bB] (by simp) (by grind)
  (λpre W=>Kept [] j W/\∀y∈pre,jR (σ.qU y)=6)
  (λc pre W=>c= .ret/\∃a y,pre=a++[y]/\(∀y∈a,jR (σ.qU y)=6)/\jR (σ.qU y)≠6/\Kept [] (j.setCell ⟨E.bB,192,none⟩ (gn (jR (σ.qU y)))) W)
  ?_ ?_ ?_ (λx=>{tmps:=#[Bp E,gJ w.heap.size,kh x,undef,Bp E,gJ E.bB,jG E.bB 192,Bp E,gJ E.bB,jG E.bB 188,uQ j.heap.size,kh x,undef,undef,undef,undef,undef,undef,undef,undef,undef,undef,undef],defers:=[]}) ?assign ?body ?done ?stop
 .rintro s A B a7 ⟨o,z⟩ V d;exact⟨lX o V d (by omega),z⟩
 .rintro c s A B a7 ⟨h0,a,y,h2,h3,h4,z⟩ V d;exact⟨h0,a,y,h2,h3,h4,lX z V d (by simp)⟩
 .exact⟨((Kept.refl _ _).alloc _).alloc _,by simp⟩
 case assign=>
  intro l x W K U;gi_wp2;exact U
 case body=>
  rintro l pre y W F ⟨o,B5⟩;obtain⟨i,e0,rfl,hi⟩:=HS y F;have c0:=HN W o i e0 hi;have c1:=fW (o.at b0 (by simp)) 0;dsimp at c1;have⟨c2,f2,hl2⟩:=HM W o;have HB:=(λW=>Ld (σ.nm i) W);have T:=fU o;have HT:=(λv=>(Kept.refl [E.bB] W).setCell (p:=⟨E.bB,192,none⟩) (.inl (by simp)) v);have a4:=(λv=>o.both a1 192 v);clear o
  try dsimp only
  rw[show kh (iD L.gP (some i))=gJ (L.gP i)from rfl];obtain⟨R,J⟩:∃R,R=jR (σ.nm i):=⟨_,rfl⟩;rw[<-J]at HB;have H:Hid (jR (σ.qU (some i))=R):=fU J.symm;clear J
  gi_wp2_with (first|(refine⟨trivial,?_⟩;refine(qF l (callsIn_wide.2 (HB _))).mono ?_;rintro e W ⟨rfl,rfl⟩))
  .rename_i N;have Z:R≠6:=by intro e;subst e;simp at N
   refine⟨HT _,rfl,pre,some i,rfl,B5,by rw[H.out];omega,?_⟩;rw[H.out];exact a4 _
  .rename_i N;have Z:R=6:=by
    have:¬((R:Int)≠6):=by simpa using N
    omega
   refine⟨Kept.refl _ _,T.out,λy F=>?_⟩;rcases List.mem_append.1 F with F|F
   .exact B5 y F
   .rw[List.mem_singleton.1 F,H.out];omega
 case done=>
  rintro D W HD ⟨o,z⟩ U;have O:xF σ= .ok () {σ with mode:=6}:=by
   show pG.ok () {σ with mode:=tZ σ σ.gz.reverse}=_;rw[JI z]
  rw[O];have T:=fU o;clear o z;gi_wp2;refine⟨by simp,.inl ⟨_,_,rfl,nM U,?_⟩⟩;have G:=HZ.out;have hD:=HD;have r:=T.out.take (D:=D) (by omega) (.deferred none);exact⟨_,Kr rfl _ _ _,rfl,⟨L,rfl,I.out.il r⟩,S.trans (.gX r),ig _⟩
 case stop=>
  rintro D c pre W HD a0 ⟨rfl,a,y,rfl,h3,h4,z⟩ U;have⟨rest,hrest⟩:=a0;have O:xF σ= .ok () {σ with mode:=jR (σ.qU y)}:=by
   show pG.ok () {σ with mode:=tZ σ σ.gz.reverse}=_;rw[<-hrest,JK h4 h3]
  rw[O];have a3:=I.out.jc (jR (σ.qU y));have a2:Fr E.bs j (j.setCell ⟨E.bB,192,none⟩ (gn (jR (σ.qU y)))):=(At.start ⟨L,rfl,I.out⟩).KU 192 _;have T:=fU z;clear z;gi_wp2;refine⟨by simp,.inl ⟨_,_,rfl,nM U,?_⟩⟩;have G:=HZ.out;have hD:=HD;have r:=T.out.take (D:=D) (by simp;omega) (.deferred none);exact⟨_,Kr rfl _ _ _,rfl,⟨L,rfl,a3.il r⟩,(S.trans a2).trans (.gX r),ig _⟩
section
attribute [local go_sem] Oper.semAt_some
attribute [local go_sem] qd
attribute [local simp] qd
def Ab.ir (σ:Ab) (pre:kQ) (b:jg):jg:=pre.foldl (λb y=>if lc (σ.qU y)then y else b) b
def Ia {σ:Ab}:∀{a:kQ} {b:jg},(∀y∈a,y≠some it)->σ.uZ it a b=σ.ir a b
 |[],_,_=>rfl
 |x::a,b,h=>by
  unfold Ab.uZ;rw[gQ (h x (by simp))];exact Ia λy c=>h y (by simp[c])
theorem Ib {σ:Ab}:∀{a:kQ} {b:jg},(∀y∈a,y≠some it)->σ.uZ it (a++[some it]++rest) b=σ.ir a b
 |[],b,_=>by
  grind[Ab.uZ,Ab.ir]
 |x::a,b,h=>by
  show σ.uZ it (x::(a++[some it]++rest)) b=_;unfold Ab.uZ;rw[gQ (h x (by simp))];exact Ib λy c=>h y (by simp[c])
def O0 (σ:Ab) (pre:kQ) (y b:jg):σ.ir (pre++[y]) b=if lc (σ.qU y)then y else σ.ir pre b:=by
 simp[Ab.ir]
theorem KG {σ:Ab} (h:RF E f σ w) (it:Nat) (a1:σ.gW (some it)=true):
  Calls prog 337 #[Bp E,nV f it] w λe w'=>e=iq (oV f (σ.ql it))/\Kept [] w w':=by
 obtain⟨L,rfl,b⟩:=h;have⟨fb,ab,lb0,cb,hb⟩:=b.Hg;have⟨kb,lbb,eb,heb,H2⟩:=hb.call;cases eb;refine(wJ (n:=3)).1 ?_;refine wK func337 rfl trivial ?_ rfl;simp only[ntmps337,wM,qe,uS,Nat.reduceAdd,Nat.reduceSub,wN,wO,wP,wQ,ru,uT];obtain⟨G,z⟩:∃G,G=((w.alloc (gI #[Bp E] 93)).alloc (gI #[gJ (L.gP it)] 57)).alloc (gI #[.pointer none] 57):=⟨_,rfl⟩;have V:Kept [] w G:=by rw[z];exact(((Kept.refl _ _).alloc _).alloc _).alloc _
 have⟨b0,b1,b2⟩:=oq w (gI #[Bp E] 93) (gI #[gJ (L.gP it)] 57) (gI #[.pointer none] 57);rw[<-z]at b0 b1 b2;have d:G.heap.size=w.heap.size+1+1+1:=by rw[z];simp
 have a4:=b.il V;have⟨C,HL,hC⟩:=a4.yZ;have a2:=b.lt;have HU:=Wi E.bs E.bB 188 _ C _ _ G HL;have a0:=(λ(W:gv) (o:Kept [] w W)=>(o.cell (p:=⟨E.bB,184,none⟩) a2 (by simp)).trans cb);have HO:=(λg (F:L.ov.ownBlock=some g)=>Cu b.o0 F);have HN:=(λ(W:gv) (o:Kept [] w W) (i:Nat) (e:zu) (hi:σ.hU i=some e)=>(b.il o).vi hi);have HS:=(λ(y:jg) (O:y∈σ.gz)=>b.od O);have HI:=b.inj;have HE:=(λ(W:gv) (o:Kept [] w W) (x:jg) (hx:σ.gW x=true)=>(b.il o).gW hx);have Y:=fU d;have HW:=fU z;clear d z
 gi_wp2_with fail
 rw[<-HW.out];refine(callsIn_wide.2 HU).mono ?_;rintro e w' ⟨rfl,rfl⟩;gi_wp2;refine Ej (by omega) (f:=iD L.gP) (λx y e=>rM HI e) HL rfl [w.heap.size+1+1] [] ?_ (by simp)
  (λpre W=>Kept [] w W/\W.heap[w.heap.size]?=some (gI #[Bp E] 93)/\W.heap[w.heap.size+1]?=some (gI #[gJ (L.gP it)] 57)/\W.heap[w.heap.size+1+1]?=some (gI #[oV L.gP (σ.ir pre none)] 57)/\∀y∈pre,y≠some it)
  (λc pre W=>c= .exit 0/\Kept [] w W/\∃a,pre=a++[some it]/\(∀y∈a,y≠some it)/\W.heap[w.heap.size+1+1]?=some (gI #[oV L.gP (σ.ir a none)] 57))
  ?_ ?_ ?_ (λx=>{tmps:=#[Bp E,gJ (L.gP it),gJ w.heap.size,gJ (w.heap.size+1),.pointer none,gJ (w.heap.size+1+1),kh x,Bp E,gJ E.bB,jG E.bB 188,uQ G.heap.size,kh x,undef,undef,undef,undef,undef,undef,undef,undef,undef,undef,undef,undef,undef,undef],defers:=[]}) ?assign ?body ?done ?stop
 .grind
 .rintro s A B a6 ⟨h1,Z,R,h4,I⟩ F b;have d:=Y.out;exact⟨lX h1 F b (by omega),kG Z F b (by omega),kG R F b (by omega),kG h4 F b (by omega),I⟩
 .rintro c s A B a6 ⟨h0,h1,a,Z,R,I⟩ F b;have d:=Y.out;exact⟨h0,lX h1 F b (by omega),a,Z,R,kG I F b (by omega)⟩
 .have o:Kept [] G (mu E.bB 188 (σ.gz.length) G):=((Kept.refl _ _).alloc _).alloc _;exact⟨V.trans o,o.at b0 (by simp),o.at b1 (by simp),o.at b2 (by simp),by simp⟩
 case assign=>
  intro l x W K U;gi_wp2;exact U
 case body=>
  rintro l pre y W O ⟨j,B2,B3,S,B5⟩;obtain⟨i,e0,rfl,hi⟩:=HS y O;have c0:=HN W j i e0 hi;have cB:=a0 W j;have c1:=fW B2 0;have c2:=fW B3 0;have T:=fW S 0;have f3:=gE S 0;dsimp at c1 c2 T;have HB:=(λW' (o:Kept [] w W')=>H2 W' (.gX o) (σ.nm i));have HT:Hid (∀(q:Nat) (r:gO),Kept [w.heap.size+1+1] W ((W.drewN q).setCell ⟨w.heap.size+1+1,0,none⟩ r)/\Kept [] w ((W.drewN q).setCell ⟨w.heap.size+1+1,0,none⟩ r)/\((W.drewN q).setCell ⟨w.heap.size+1+1,0,none⟩ r).heap[w.heap.size+1+1]?=some (gI #[r] 57)/\((W.drewN q).setCell ⟨w.heap.size+1+1,0,none⟩ r).heap[w.heap.size]?=some (gI #[Bp E] 93)/\((W.drewN q).setCell ⟨w.heap.size+1+1,0,none⟩ r).heap[w.heap.size+1]?=some (gI #[gJ (L.gP it)] 57)):=λq r=>
   have kk:=((Kept.refl [w.heap.size+1+1] W).drewN q).setCell (p:=⟨w.heap.size+1+1,0,none⟩) (.inl (by simp)) r
   ⟨kk,(j.drewN q).setCell (.inr (by simp;omega)) _,gg (show(W.drewN q).heap[w.heap.size+1+1]?=_ from S) 0 _,kk.at B2 (by simp;omega),kk.at B3 (by simp)⟩
  have J:=Cc (HE W j (some i) (by show(σ.hU i).isSome=true;rw[hi];rfl)) (HE W j (some it) a1);rw[show ptr (iD L.gP (some i))=some ⟨L.gP i,0,none⟩from rfl,show ptr (iD L.gP (some it))=some ⟨L.gP it,0,none⟩from rfl]at J
  try dsimp only
  rw[show kh (iD L.gP (some i))=gJ (L.gP i)from rfl]
  by_cases N:i=it
  .subst N;rw[vp rfl]at J;gi_wp2;exact⟨Kept.refl _ _,rfl,j,pre,rfl,B5,S⟩
  .have a3:L.gP i≠L.gP it:=λe=>N (HI _ _ e);have a7:(some i:jg)≠some it:=λe=>N (jL e);rw[xo (by simpa using a3)]at J;gi_wp2;refine Ax l (by kernel_rfl) (by kernel_rfl) (by rfl) ?_
   repeat (gi_big_quiet_step ((exact callsIn_wide.2 (Fw (HB _ (j.drewN _))))))
   refine wpQuietIn_nil ?_;intro _ a5;have⟨nq,hw''⟩:=a5;subst hw'';cases hq:lc (σ.nm i)with
   |true=>
    have HQ:=fU hq;clear hq;gi_wp2;have⟨t1,t2,t3,t4,t5⟩:=HT.out nq (gJ (L.gP i));refine⟨t1,t2,t4,t5,?_,λy O=>?_⟩
    .rw[O0,show σ.qU (some i)=σ.nm i from rfl,HQ.out];exact t3
    grind
   |false=>
    have HQ:=fU hq;clear hq;gi_wp2;refine⟨(Kept.refl _ W).drewN nq,j.drewN nq,B2,B3,?_,λy O=>?_⟩
    .rw[O0,show σ.qU (some i)=σ.nm i from rfl,HQ.out];exact S
    grind
 case done=>
  rintro D W HD ⟨j,Z,R,h4,I⟩ U;have T:=fW h4 0;dsimp at T;have u:σ.ql it=σ.ir σ.gz.reverse none:=Ia (λy O=>I y O);have H:=fU u;clear u;gi_wp2;refine⟨by simp,.inl ⟨_,_,rfl,nM U,?_⟩⟩;have d:=Y.out;have hD:=HD;exact⟨_,results_tmp rfl _ _ _,by rw[H.out];rfl,j.take (by omega) _⟩
 case stop=>
  rintro D c pre W HD X ⟨rfl,j,a,rfl,R,I⟩ U;have⟨rest,hrest⟩:=X;have u:σ.ql it=σ.ir a none:=by unfold Ab.ql;rw[<-hrest];exact Ib R
  have H:=fU u;have T:=fW I 0;dsimp at T;clear u;gi_wp2;refine⟨by simp,.inl ⟨_,_,rfl,nM U,?_⟩⟩;have d:=Y.out;have hD:=HD;exact⟨_,results_tmp rfl _ _ _,by rw[H.out];rfl,j.take (by omega) _⟩
end
def lu (E:Env):Prop:=j9 E 249 (λ_=>#[Bp E]) j4 pV
def y8 (f:Nat->Nat) (n k:Nat):nV (GD f n k) n=gJ k:=by simp[GD]
def BL (E:Env) (w:gv):Calls prog 202 #[] w λe b=>∃k lb,e=iq (.func (.func k) #[] lb)/\Ask E.bm (.func (.func k) #[] lb) AE b/\Kept [] w b:=by
 have C:=YS E.bm [fZ,gp,gq,gr,ic] w (by decide);go_enter func202,ntmps202
 go_wp21
 refine C.mono ?_;rintro e j ⟨h,g,i,rfl,a,d⟩;have⟨k,lb,e0,_,_⟩:=a.call;cases e0;have c:=fU a;clear a;go_wp2;go_ret;exact⟨_,_,rfl,c,d⟩
def PT (E:Env) (c:j9 E 87 (λ_=>#[Bp E]) mW pV) (j:Nat):j9 E 250 (λf=>#[Bp E,nV f j]) (mj j) uV:=by
 refine mI λf σ w R a HS H=>?_;unfold mj at a;go_enter func250,ntmps250
 go_wp21
 refine mC (c) H a HS rfl mT ?_;rintro(d) σ w H b a
 go_wp21
 refine mC (D5 E d j) H a HS rfl mT ?_;rintro(_) σ w H b a
 go_wp21
 refine mC (N5 E (some j)) H a HS rfl mT ?_;rintro(_) σ w H b a;go_wp2;go_end0;exact jZ a H rfl
def La (E:Env) (c:j9 E 87 (λ_=>#[Bp E]) mW pV) (s:gy):ja E 169 (λ_=>#[Bp E,gH s]) (kq s) uV:=by
 refine dI λf σ w R a HS H=>?_;unfold kq at a;go_enter func169,ntmps169;have b:=H.Gc s;replace a:Hid (R=(mj σ.nodes.length>>=λ_=>pure ()) (σ.add (.el {name:=s,gU:=[],je:=none,kids:=[]}))):=a;have H:=b
 go_wp21
 refine mC (PT E c σ.nodes.length) H a HS (by rw[y8]) lT ?_;rintro(_) σ w H d a;go_wp2;go_end0;exact gu a H rfl
abbrev xO (E:Env) (p:gy->Bool) (w:gv) (e:Ending) (w':gv):Prop:=∃k lb,e=iq (.func (.func k) #[] lb)/\Ask E.bm (.func (.func k) #[] lb) p w'/\Kept [] w w'
theorem RF.bounds {σ:Ab} (h:RF E f σ w):∃k lb,w.cell? ⟨E.bB,186,none⟩=some (.func (.func k) #[] lb)/\Ask E.bm (.func (.func k) #[] lb) iP w:=by
 have⟨L,_,hr⟩:=h;have⟨f1,a1,l1,c,ha⟩:=hr.bounds;have⟨k,lb,e,_,_⟩:=ha.call
 grind
theorem RF.Hg {σ:Ab} (h:RF E f σ w):∃k lb,w.cell? ⟨E.bB,184,none⟩=some (.func (.func k) #[] lb)/\Ask E.bm (.func (.func k) #[] lb) lc w:=by
 have⟨L,_,hr⟩:=h;have⟨f1,a1,l1,c,ha⟩:=hr.Hg;have⟨k,lb,e,_,_⟩:=ha.call
 grind
def RF.lt {σ:Ab} (h:RF E f σ w):E.bB < w.heap.size:=by have⟨L,_,hr⟩:=h;exact hr.lt
theorem np (E:Env) (a:List gy) (w:gv) (b:a.length<=4096):
  Calls prog 206 #[oY w.heap.size a.length a.length] (w.alloc (gI (a.map Value.string).toArray 9)) (xO E (ij a) w):=by
 refine(YS E.bm a w b).mono ?_;rintro e j ⟨g,d,i,rfl,c,h⟩;have⟨k,lb,e,_,_⟩:=c.call
 grind
theorem S5 (E:Env) (v1 v2:gO) (p q:gy->Bool) (w:gv) (b:Ask E.bm v1 p w) (c:Ask E.bm v2 q w):
  Calls prog 226 #[v1,v2] w (xO E (λs=>p s||q s) w):=by
 refine(acR E.bm v1 v2 p q w b c).mono ?_;rintro e j ⟨g,d,i,rfl,a,h⟩;have⟨k,lb,e,_,_⟩:=a.call
 grind
def zy {σ:Ab} (h:RF E f σ w):Calls prog 268 #[Bp E] w (xO E Do w):=by
 have⟨kb,lbb,cb,HB⟩:=h.bounds;have o:=h.lt;have s:=cb;have r:=np E [hH] w.drew (by decide);go_enter func268,ntmps268
 go_wp21
 go_region_with (first
  |(go_at_call 206;refine r.mono ?_;rintro e z ⟨B,u,rfl,c,a⟩;have A:z.cell? ⟨E.bB,186,none⟩=some (.func (.func kb) #[] lbb):=(a.cell (p:=⟨E.bB,186,none⟩) o (by simp)).trans s;have i:=fU c;have b:=fU a;clear c a)
  |(go_at_call 226;refine(S5 E _ _ _ _ _ (HB.k0 (((Kept.refl _ w).drew).trans b)) i).mono ?_;rintro e D ⟨C,x,rfl,d,g⟩;have j:=fU d;have l:=fU ((((Kept.refl _ w).drew).trans b).trans g);clear d g))
 all_goals go_wp2
 all_goals go_ret
 all_goals exact⟨_,_,rfl,j,l⟩
def Lb {σ:Ab} (h:RF E f σ w):Calls prog 267 #[Bp E] w (xO E acH w):=by
 have⟨kb,lbb,cb,HB⟩:=h.bounds;have o:=h.lt;have s:=cb;have r:=np E [oy] w.drew (by decide);go_enter func267,ntmps267
 go_wp21
 go_region_with (first
  |(go_at_call 206;refine r.mono ?_;rintro e z ⟨B,u,rfl,c,a⟩;have A:z.cell? ⟨E.bB,186,none⟩=some (.func (.func kb) #[] lbb):=(a.cell (p:=⟨E.bB,186,none⟩) o (by simp)).trans s;have i:=fU c;have b:=fU a;clear c a)
  |(go_at_call 226;refine(S5 E _ _ _ _ _ (HB.k0 (((Kept.refl _ w).drew).trans b)) i).mono ?_;rintro e D ⟨C,x,rfl,d,g⟩;have j:=fU d;have l:=fU ((((Kept.refl _ w).drew).trans b).trans g);clear d g))
 all_goals go_wp2
 all_goals go_ret
 all_goals exact⟨_,_,rfl,j,l⟩
def wG (E:Env) (w:gv):Calls prog 210 #[] w (xO E AD w):=by
 have C:=np E [fX,fZ] w (by decide);go_enter func210,ntmps210
 go_wp21
 refine C.mono ?_;rintro e c ⟨k,lb,rfl,a,b⟩;go_wp2;go_ret;exact⟨_,_,rfl,a,b⟩
def MC (E:Env) (w:gv):Calls prog 110 #[] w (xO E (ij [fZ]) w):=by
 have C:=np E [fZ] w (by decide);go_enter func110,ntmps110
 go_wp21
 refine C.mono ?_;rintro e c ⟨k,lb,rfl,a,b⟩;go_wp2;go_ret;exact⟨_,_,rfl,a,b⟩
def J5 (E:Env) (w:gv):Calls prog 122 #[] w (xO E (ij [gp,gq,gr]) w):=by
 have C:=np E [gp,gq,gr] w (by decide);go_enter func122,ntmps122
 go_wp21
 refine C.mono ?_;rintro e c ⟨k,lb,rfl,a,b⟩;go_wp2;go_ret;exact⟨_,_,rfl,a,b⟩
def UG (E:Env) (w:gv):Calls prog 220 #[] w (xO E (ij [ic]) w):=by
 have C:=np E [ic] w (by decide);go_enter func220,ntmps220
 go_wp21
 refine C.mono ?_;rintro e c ⟨k,lb,rfl,a,b⟩;go_wp2;go_ret;exact⟨_,_,rfl,a,b⟩
def VC (E:Env) (w:gv):Calls prog 221 #[] w (xO E (ij [iy,iA]) w):=by
 have C:=np E [iy,iA] w (by decide);go_enter func221,ntmps221
 go_wp21
 refine C.mono ?_;rintro e c ⟨k,lb,rfl,a,b⟩;go_wp2;go_ret;exact⟨_,_,rfl,a,b⟩
def F5 (E:Env) (w:gv):Calls prog 261 #[] w (xO E (ij [mf,mg]) w):=by
 have C:=np E [mf,mg] w (by decide);go_enter func261,ntmps261
 go_wp21
 refine C.mono ?_;rintro e c ⟨k,lb,rfl,a,b⟩;go_wp2;go_ret;exact⟨_,_,rfl,a,b⟩
def tW (E:Env) (w:gv):Calls prog 223 #[] w (xO E (ij [gN]) w):=by
 have C:=np E [gN] w (by decide);go_enter func223,ntmps223
 go_wp21
 refine C.mono ?_;rintro e c ⟨k,lb,rfl,a,b⟩;go_wp2;go_ret;exact⟨_,_,rfl,a,b⟩
def qV (E:Env) (w:gv):Calls prog 224 #[] w (xO E (ij [gm]) w):=by
 have C:=np E [gm] w (by decide);go_enter func224,ntmps224
 go_wp21
 refine C.mono ?_;rintro e c ⟨k,lb,rfl,a,b⟩;go_wp2;go_ret;exact⟨_,_,rfl,a,b⟩
def To.ml {L : Loc} {σ σ':Ab} {w' : gv} {α:Type} {b:(Nat->Nat)->α->gO} {a:α} {e : Ending} (h:To E L σ' w w') (c:e=iq (b L.gP a)) (d:σ.nodes.length<=σ'.nodes.length):j8 E L.gP σ.nodes.length w (.ok a σ') b e w':=by
 have⟨L',e1,h3,h4⟩:=h;exact⟨c,⟨L',e1,h3⟩,h4,d⟩
def aee {σ:Ab} (h:RF E f σ w) (a:Ask E.bm v p w):
  Calls prog 275 #[Bp E,v] w (j8 E f σ.nodes.length w (.ok () (σ.Fq p)) uV):=by
 obtain⟨L,rfl,b⟩:=h;exact(ach b v p a).mono (λe c h=>h.2.ml h.1 (ig _))
theorem vD {σ:Ab} (h:RF E f σ w) (a:Ask E.bm v p w):
  Calls prog 222 #[Bp E,v] w (j8 E f σ.nodes.length w (pZ p σ) uV):=by
 obtain⟨L,rfl,b⟩:=h;exact(Zm b v p a).mono (λe c h=>h.2.ml h.1 (by unfold Ab.Jy;grind[Ab.pop]))
def Ez {σ:Ab} (h:RF E f σ w) (a:Ask E.bm (.func (.func k) #[] lb) p w):
  Calls prog 203 #[Bp E,.func (.func k) #[] lb] w (j8 E f σ.nodes.length w (uG p σ) uV):=by
 obtain⟨L,rfl,b⟩:=h;exact(R8 b _ _ _ p a).mono (λe c h=>h.2.ml h.1 (ig _))
def K7 {σ:Ab} (h:RF E f σ w):
  Calls prog 270 #[Bp E] w (j8 E f σ.nodes.length w (wH (λσ=>σ.mF) σ) uV):=by
 obtain⟨L,rfl,a⟩:=h;exact(IZ a).mono (λe b h=>h.2.ml h.1 (ig _))
def AX {σ:Ab} (h:RF E f σ w) (a:Ask E.bm v p w):
  Calls prog 201 #[Bp E,v] w λe c=>e=iq (.bool (σ.current p))/\c=w:=by
 obtain⟨L,rfl,b⟩:=h;exact yM b v p a
def yK {σ:Ab} (h:RF E f σ w) {i j : Nat} {b c : jM} (g:Ask E.bm (.func (.func i) #[] b) p w) (x:Ask E.bm (.func (.func j) #[] c) q w):
  Calls prog 209 #[Bp E,.func (.func i) #[] b,.func (.func j) #[] c] w (j8 E f σ.nodes.length w (nj p q σ) bV):=by
 have d:=vJ h p q _ _ g x;have o:=g;have H:=At.start h;unfold nj;cases hi:σ.inScope p q with
 |false=>
  rw[hi]at d;rw[gQ (by simp)];go_enter func209,ntmps209
  go_wp21
  refine d.mono ?_;rintro e z ⟨rfl,a⟩;replace H:=H.k0 a;go_wp2;go_ret;exact jZ rfl H rfl
 |true=>
  rw[hi]at d;rw[gF (by simp)];go_enter func209,ntmps209
  go_wp21
  refine d.mono ?_;rintro e z ⟨rfl,a⟩;have l:=aee (H.k0 a).rel (o.k0 a);replace H:=H.k0 a
  go_wp21
  refine l.mono ?_;rintro e A ⟨rfl,r,s,u⟩;replace H:=H.to r u s;go_wp2;go_ret;exact jZ rfl H rfl
def xY {σ:Ab} (h:RF E f σ w) (j:oC σ≠ .stuck):
  Calls prog 260 #[Bp E] w (j8 E f σ.nodes.length w (oC σ) uV):=by
 obtain⟨R,c⟩:∃R,R=(oC) σ:=⟨_,rfl⟩;rw[<-c]at j|-;unfold oC at c;have HS:=j;have H:=At.start h;have g:=fU c;clear c;go_enter func260,ntmps260;have l:=np E [nc] w (by decide)
 go_wp21
 refine l.mono ?_;rintro e z ⟨u,o,rfl,a,i⟩;replace H:=H.k0 i
 go_wp21
 refine(zy H.rel).mono ?_;rintro e A ⟨x,r,rfl,d,b⟩;replace a:=a.k0 b;replace H:=H.k0 b
 go_wp21
 refine Aq (λ_=>yK H.rel a d) H g HS mT ?_;rintro(_) σ w H s g;go_wp2;go_end0;exact jZ g H rfl
abbrev RU:Obj:=gI #[.pointer none,gn 0] 214
def M.bind_pure {α:Type} (m:M α) (σ:Ab):(m>>=λa=>(Pure.pure a:M α)) σ=m σ:=by
 rw[M.gx];cases m σ<;>rfl
theorem Jw (E:Env) (hF:lu E) (i:Nat):j9 E 159 (λf=>#[Bp E,nV f i]) (placeFor i) pV:=by
 intro f σ w h hs;have HB:=fY w RU;have a2:=h.lt;have H0:=(At.start h).k0 ((Kept.refl _ w).alloc RU);have u:w.cell? ⟨E.bB,195,none⟩=some (.bool σ.iR):=(At.start h).X1;obtain⟨R,o⟩:∃R,R=placeFor i σ:=⟨_,rfl⟩;rw[<-o]at hs|-;have HS:=hs;unfold placeFor at o;cases hfo:σ.iR with
 |false=>
  rw[hfo]at o u;rw[gQ (by simp)]at o;have H:=H0;have l:Hid (R=(jy i>>=λd=>pure d) σ):=fU (o.trans (M.bind_pure (jy i) σ).symm);clear o;go_enter func159,ntmps159
  go_wp21
  go_quiet (fail)
  replace H:=fU (H.k0 ((Kept.refl _ (w.alloc RU)).drewN nq))
  go_wp21
  refine j9.call (FX E i) H l HS rfl ?_ ?_
  .intro c p j ws g G I;have F:=fU g;clear g;go_wp2;exact⟨rfl,tU F G I⟩
  rintro d S D g N x;have a:=((Fr.gX ((Kept.refl _ (w.alloc RU)).drewN nq)).trans N).cell HB (by decide);have K:=fW a 0;have C:=fW a 1;have f0:=gE a 0;have f1:=gE a 1;dsimp at K C;replace H:=fU (((g.side a (by decide) (ig _) 0 (gJ (f d.1))).side (gg a 0 _) (by decide) (ig _) 1 (gn d.2)));replace l:=fU x;have r:=fU (gg (gg a 0 (gJ (f d.1))) 1 (gn d.2));clear g x;go_wp2;refine qf (v:=pV f d) ?_ rfl (jZ l H rfl);simp[results,results159,asAddr,Result.andThen,go_sem,fW r.out]
 |true=>
  rw[hfo]at o u;have Y:∃e,σ.hU i=some e:=by
   cases he:σ.hU i with
   |some e=>simp
   |none=>
    exfalso;have a0:σ.nm i=⟨#[]⟩:=by unfold Ab.nm;rw[he]
    have s:AE (σ.nm i)=false:=by rw[a0];simp[AE,ij,kC,sJ]
    rw[s]at o;simp only[Bool.and_false,wR,AM]at o;apply hs;rw[o]
    grind[jy]
  have⟨e0,he0⟩:=Y;have HN:∀W,Kept [] w W->W.cell? ⟨f i,0,none⟩=some (gH (σ.nm i)):=by
   intro W Z;obtain⟨L,rfl,hr⟩:=h;exact(hr.il Z).vi he0
  have cN:=HN w (Kept.refl _ _);have a1:f i < w.heap.size:=by
   obtain⟨L,rfl,hr⟩:=h;exact hr.Hw (Ab.ik he0)
  have l:=fU o;have X:=At.start h;clear o;go_enter func159,ntmps159
  go_wp21
  go_cut [16]from 5 to 15 (λb wc=>b= .bool (AE (σ.nm i))/\Kept [] w wc/\wc.heap[w.heap.size]?=some RU)
  case first=>
   go_region_with (first
    |(go_at_call 202;refine(BL E _).mono ?_;rintro e D ⟨k1,a3,rfl,O,B⟩;have A:Kept [] w D:=(((Kept.refl _ w).alloc RU).drew).trans B;have C:=HN D A;have⟨k1',lb1',e1,he1,hc1⟩:=O.call;cases e1;have U:=fU (hc1 D (vT.refl _ _) (σ.nm i));have V:=fU A;have T:=fU (B.at HB (by simp));clear O B A hc1)
    |(refine U.mono ?_;rintro e w2 ⟨rfl,rfl⟩))
   all_goals (try (go_wp21))
   all_goals (go_meet;exact⟨rfl,V,T⟩)
  case rest=>
   obtain⟨rfl,Z,J⟩:=hcut;have H:Hid (At E f σ.nodes.length w f σ wc):=fU (X.k0 Z);cases s:AE (σ.nm i)with
   |true=>
    have z:Hid (R=(j4>>=λd=>(Pure.pure d:M (Nat×Nat))) σ):=by
     refine fU ?_;rw[M.bind_pure];have:=l
     rwa [s]at this
    replace l:=z
    go_wp21
    refine j9.call hF H l HS rfl ?_ ?_
    .intro c p j ws g G I;have F:=fU g;clear g;go_wp2;exact⟨rfl,tU F G I⟩
    rintro d S D g N x;have a:=N.cell J (by decide);have K:=fW a 0;have C:=fW a 1;have f0:=gE a 0;have f1:=gE a 1;dsimp at K C;replace H:=fU (((g.side a (by decide) (ig _) 0 (gJ (f d.1))).side (gg a 0 _) (by decide) (ig _) 1 (gn d.2)));replace l:=fU x;have r:=fU (gg (gg a 0 (gJ (f d.1))) 1 (gn d.2));clear g x;go_wp2;refine qf (v:=pV f d) ?_ rfl (jZ l H rfl);simp[results,results159,asAddr,Result.andThen,go_sem,fW r.out]
   |false=>
    have z:Hid (R=(jy i>>=λd=>(Pure.pure d:M (Nat×Nat))) σ):=by
     refine fU ?_;rw[M.bind_pure];have:=l
     rwa [s]at this
    replace l:=z
    go_wp21
    refine j9.call (FX E i) H l HS rfl ?_ ?_
    .intro c p j ws g G I;have F:=fU g;clear g;go_wp2;exact⟨rfl,tU F G I⟩
    rintro d S D g N x;have a:=N.cell J (by decide);have K:=fW a 0;have C:=fW a 1;have f0:=gE a 0;have f1:=gE a 1;dsimp at K C;replace H:=fU (((g.side a (by decide) (ig _) 0 (gJ (f d.1))).side (gg a 0 _) (by decide) (ig _) 1 (gn d.2)));replace l:=fU x;have r:=fU (gg (gg a 0 (gJ (f d.1))) 1 (gn d.2));clear g x;go_wp2;refine qf (v:=pV f d) ?_ rfl (jZ l H rfl);simp[results,results159,asAddr,Result.andThen,go_sem,fW r.out]
def Hc (E:Env) (hF:lu E):j9 E 87 (λ_=>#[Bp E]) mW pV:=by
 intro f σ w h HS;cases hl:σ.last with
 |none=>exfalso;apply HS;unfold mW;rw[hl]
 |some i=>
  have F:mW σ=(placeFor i>>=λb=>pure b) σ:=by
   unfold mW;rw[hl,M.bind_pure]
  obtain⟨R,g⟩:∃R,R=mW σ:=⟨_,rfl⟩;have u:Hid (Calls prog 160 #[jG E.bB 188] (w.alloc RU) λe s=>e=iq (gJ (f i))/\s=w.alloc RU):=by
   obtain⟨L,rfl,J⟩:=h;have:=SV (J.il ((Kept.refl _ w).alloc RU))
   rwa [show iB σ.gz ((σ.gz.length:Int) - 1)=some i from hl]at this
  rw[<-g]at HS|-;rw[F]at g;have H:=(At.start h).k0 ((Kept.refl _ w).alloc RU);have l:=fU g;have B:=fY w RU;have I:=h.lt;clear g;go_enter func87,ntmps87
  go_wp21
  refine u.mono ?_;rintro e s ⟨rfl,rfl⟩
  go_wp21
  refine j9.call (Jw E hF i) H l HS rfl ?_ ?_
  .intro c p j S d z A;have x:=fU d;clear d;go_wp2;exact⟨rfl,tU x z A⟩
  rintro b K O d G r;have a:=G.cell B (by decide);have C:=fW a 0;have D:=fW a 1;have f0:=gE a 0;have N:=gE a 1;dsimp at C D;replace H:=((d.side a (by decide) (ig _) 0 (gJ (f b.1))).side (gg a 0 _) (by decide) (ig _) 1 (gn b.2));replace l:=fU r;have o:=fU (gg (gg a 0 (gJ (f b.1))) 1 (gn b.2));clear d r;go_wp2;refine qf (v:=pV f b) ?_ rfl (jZ l H rfl);simp[results,results87,asAddr,Result.andThen,go_sem,fW o.out]
theorem RF.tv {σ:Ab} (h:RF E f σ w):∃a n b,E.tv= .slice a n b:=by
 have⟨L,_,hr⟩:=h;have⟨a,cap,e⟩:=gG hr.tok
 grind
section
variable (E:Env) (hF:lu E)
include hF
def DK (j:Nat):j9 E 250 (λf=>#[Bp E,nV f j]) (mj j) uV:=PT E (Hc E hF) j
def uu (s:gy):ja E 169 (λ_=>#[Bp E,gH s]) (kq s) uV:=La E (Hc E hF) s
theorem kZ (t:gM) (x:jd E t):ja E 164 (λ_=>#[Bp E,iF E t]) (jt t) uV:=by
 intro f σ w h HS;have⟨ao,n,cp,htv⟩:=h.tv;have c:t.rL=true/\σ.fresh=true:=by
  unfold jt at HS;rw[M.gx]at HS;unfold pL at HS;cases hc:(σ.fresh&&t.rL)with
  |true=>grind
  |false=>grind
 have r:=x c.1;have g:t.js=E.ta/\zl E t=#[gn t.a,gn t.b,gH t.name,.slice ao n cp]:=by
  have⟨a,b,k,gL⟩:=t;cases k<;>simp_all[gM.rL,gM.js,zl,gM.name]
 obtain⟨R,o⟩:∃R,R=(jt t) σ:=⟨_,rfl⟩;rw[<-o]at HS|-;have i:R=(mj σ.nodes.length>>=λ_=>(Pure.pure ():M Unit)) (σ.pn (.el {name:=t.name,gU:=E.ta,je:=none,kids:=[]}) false):=by
  rw[o];unfold jt;rw[M.gx];unfold pL;simp only[c.1,c.2,g.1,Bool.and_self,xK]
 have j:=fU i;have d:=yx E t w ⟨ao,n,cp,htv⟩;rw[g.2]at d;have H:=At.start h;have u:=h.lt;have l:=c.2;clear h o i c r g;go_enter func164,ntmps164
 go_wp21
 refine d.mono ?_;rintro e A ⟨rfl,s⟩;replace H:=(H.k0 (s.alloc (gI #[gn t.a,gn t.b,gH t.name,.slice ao n cp] 173))).pL l t.name;rw[htv]at H;clear s d
 go_wp21
 refine mC (DK E hF σ.nodes.length) H j HS (by simp[GD]) lT ?_;clear H j;rintro(_) σ w H z j;go_wp2;go_end0;exact gu j H rfl
def vz (t:gM) (c:jd E t):ja E 92 (λ_=>#[Bp E,iF E t]) (lx t) uV:=by
 refine dI λf σ w R a HS H=>?_;unfold lx at a;go_enter func92,ntmps92
 go_wp21
 refine dC (kZ E hF t c) H a HS rfl lT ?_;rintro(_) f σ w H d b a
 go_wp21
 refine mC (Zn E) H a HS rfl lT ?_;rintro(_) σ w H b a;go_wp2;go_end0;exact gu a H rfl
def vy (t:gM):ja E 91 (λ_=>#[Bp E,iF E t]) (j7 t) uV:=by
 refine dI λf σ w R a HS H=>?_;unfold j7 at a;go_enter func91,ntmps91
 go_wp21
 refine mC (Hc E hF) H a HS rfl lT ?_;rintro(d) σ w H b a
 go_wp21
 refine(yI E t _).mono ?_;rintro e h ⟨rfl,c⟩;replace H:=H.k0 c
 go_wp21
 refine dC (Tf E d t.chars) H a HS rfl lT ?_;rintro(_) f σ w H g b a;go_wp2;go_end0;exact gu a H rfl
def vF (t:gM) (d:jd E t):ja E 174 (λ_=>#[Bp E,iF E t]) (mX t) uV:=by
 refine dI λf σ w R a HS H=>?_;unfold mX at a;go_enter func174,ntmps174
 go_wp21
 refine Aq (λc=>xY H.rel c) H a HS lT ?_;rintro(_) σ w H b a
 go_wp21
 refine dC (kZ E hF t d) H a HS rfl lT ?_;rintro(_) f σ w H e b a;go_wp2;go_end0;exact gu a H rfl
def Tv (t:gM) (b:jd E t):ja E 175 (λ_=>#[Bp E,iF E t]) (wF t) uV:=by
 refine dI λf σ w R a HS H=>?_;unfold wF at a;go_enter func175,ntmps175
 go_wp21
 refine dC (vF E hF t b) H a HS rfl lT ?_;rintro(_) f σ w H d c a;have e:=H.X3;have g:=H.free 198;replace H:=H.sq true;go_wp2;go_end0;exact gu a H rfl
end
def AG (a b:Int) (s:gy) (c:Option Addr) (n d:Nat) (w:gv):(Instr.field 173 (.agg #[gn a,gn b,gH s,.slice c n d]) 1).run prog w= .ok (gH s) w:=by
 have e:=underlying173;simp[Instr.field,pO e,go_sem,asAgg,Result.andThen]
def yy (a b:Int) (s:gy) (c:Option Addr) (n d:Nat) (w:gv):(Instr.field 173 (.agg #[gn a,gn b,gH s,.slice c n d]) 2).run prog w= .ok (.slice c n d) w:=by
 have e:=underlying173;simp[Instr.field,pO e,go_sem,asAgg,Result.andThen]
def At.xy {f0 : Nat->Nat} {σ:Ab} (h:At E f0 n0 w0 f σ w):w.cell? ⟨E.bB,187,none⟩=some (nV f 0):=by
 obtain⟨L,rfl,a⟩:=h.rel;exact a.low (by decide) a.env.xf
theorem si (σ σ':Ab) (h:σ'.nodes=σ.nodes):σ.nodes.length<=σ'.nodes.length:=by grind
def D0 (E:Env) (x:jg):j9 E 168 (λf=>#[jG E.bB 188,oV f x]) (ku x) uV:=by
 intro f σ w ⟨L,e,c⟩ a;subst e;unfold ku at a|-
 by_cases b:σ.gW x=true
 .rw[gF b];exact(Zi c x b).mono (λe d h=>h.2.ml h.1 (si _ _ rfl))
 .rw[gQ b]at a;exact absurd rfl a
def Zg (E:Env) (x:jg):j9 E 309 (λf=>#[jG E.bB 188,oV f x]) (Av x) uV:=by
 intro f σ w ⟨L,e,c⟩ a;subst e;unfold Av at a|-
 by_cases b:σ.gW x=true
 .rw[gF b];exact(abr c x b).mono (λe d h=>h.2.ml h.1 (si _ _ rfl))
 .rw[gQ b]at a;exact absurd rfl a
def NZ (E:Env) (x y:jg):j9 E 360 (λf=>#[jG E.bB 188,oV f x,oV f y]) (qx x y) uV:=by
 intro f σ w ⟨L,e,c⟩ b;subst e;unfold qx at b|-
 by_cases a:(σ.gW x&&σ.mG y&&decide (σ.gz.length < 4096))=true
 .rw[gF a];simp at a;exact(Qo c x y a.1.1 a.1.2 a.2).mono (λe d h=>h.2.ml h.1 (si _ _ rfl))
 .rw[gQ a]at b;exact absurd rfl b
def Dj (E:Env) (x:jg):j9 E 168 (λf=>#[jG E.bB 189,oV f x]) (kK x) uV:=by
 intro f σ w ⟨L,e,c⟩ a;subst e;unfold kK at a|-
 by_cases b:σ.gW x=true
 .rw[gF b];exact(XI c x b).mono (λe d h=>h.2.ml h.1 (si _ _ rfl))
 .rw[gQ b]at a;exact absurd rfl a
def XH (E:Env) (x:jg):j9 E 309 (λf=>#[jG E.bB 189,oV f x]) (BT x) uV:=by
 intro f σ w ⟨L,e,c⟩ a;subst e;unfold BT at a|-
 by_cases b:σ.gW x=true
 .rw[gF b];exact(aap c x b).mono (λe d h=>h.2.ml h.1 (si _ _ rfl))
 .rw[gQ b]at a;exact absurd rfl a
def aan (E:Env) (x y:jg):j9 E 258 (λf=>#[jG E.bB 189,oV f x,oV f y]) (rj x y) uV:=by
 intro f σ w ⟨L,e,c⟩ b;subst e;unfold rj at b|-
 by_cases a:(σ.gW x&&σ.gW y)=true
 .rw[gF a];simp at a;exact(Vo c x y a.1 a.2).mono (λe d h=>h.2.ml h.1 (si _ _ rfl))
 .rw[gQ a]at b;exact absurd rfl b
def MO (E:Env) (x y:jg):j9 E 360 (λf=>#[jG E.bB 189,oV f x,oV f y]) (qj x y) uV:=by
 intro f σ w ⟨L,e,c⟩ b;subst e;unfold qj at b|-
 by_cases a:(σ.gW x&&σ.gW y&&decide (σ.act.length < 4096))=true
 .rw[gF a];simp at a;exact(OS c x y a.1.1 a.1.2 a.2).mono (λe d h=>h.2.ml h.1 (si _ _ rfl))
 .rw[gQ a]at b;exact absurd rfl b
def Cm (E:Env):j9 E 165 (λ_=>#[jG E.bB 188]) yl oV:=Zn E
def Xd (E:Env) (j:Nat):j9 E 358 (λf=>#[nV f j]) (mr j) uV:=by
 intro f σ w ⟨L,e,c⟩ a;subst e;unfold mr at a|-;cases hj:σ.hU j with
 |none=>rw[hj]at a;exact absurd rfl a
 |some ej=>
  simp only[hj]at a|-;cases hp:ej.je with
  |none=>
   simp only[hp]at a|-;refine(Ef c hj hp).mono ?_;rintro e d ⟨rfl,rfl⟩;exact⟨rfl,⟨L,rfl,c⟩,Fr.refl _,ig _⟩
  |some p=>
   simp only[hp]at a|-;cases hep:σ.hU p with
   |none=>rw[hep]at a;exact absurd rfl a
   |some ep=>
    simp only[hep]at a|-
    by_cases b:j≠p/\0<=qh ep.kids (Nd.gW j)/\(qh ep.kids (Nd.gW j)).toNat < ep.kids.length
    .rw[gF b];exact(Xb c hj hp hep b.1 b.2.2 (by omega)).mono (λe d h=>h.2.ml h.1 (by simp[Ab.ib]))
    .rw[gQ b]at a;exact absurd rfl a
theorem LH (E:Env) (i:Nat):ja E 257 (λf=>#[nV f i]) (kR i) nV:=by
 intro f σ w ⟨L,e,j⟩ a;subst e;unfold kR at a|-;cases hi:σ.hU i with
 |none=>rw[hi]at a;exact absurd rfl a
 |some e=>
  simp only[hi]at a|-
  by_cases c:nk e.name=true
  .rw[gF c]at a;exact absurd rfl a
  .rw[gQ c];refine(WX j hi (by grind)).mono ?_;rintro l o ⟨b,d,rfl,g,h⟩;exact⟨b.gP,d,by simp[Ab.add],rfl,⟨b,rfl,g⟩,h⟩
def RF.aeH {σ:Ab} (h:RF E f σ w):0 < σ.nodes.length:=by
 have⟨L,_,hr⟩:=h;exact Ab.lO (σ:=σ) (i:=0) hr.wf.xf
theorem Y6 {i : Nat} (h:i < n):nV (GD f n k) i=nV f i:=by grind[GD]
section
variable (E:Env) (hF:lu E) (rec:Nat->gM->M Unit)
variable (hA:∀(m:Nat) (t:gM),jd E t->ja E 153 (λ_=>#[Bp E,.int .i64 (m:Int),iF E t]) (rec m t) uV)
include hA in
def tk (t:gM) (e:jd E t):ja E 76 (λ_=>#[Bp E,iF E t]) (j1 rec t) uV:=by
 intro f σ w h HS;obtain⟨R,c⟩:∃R,R=j1 rec t σ:=⟨_,rfl⟩;rw[<-c]at HS|-;have a:R=(rec σ.mode t>>=λ_=>(Pure.pure ():M Unit)) σ:=by
  rw[c,M.bind_pure];rfl
 have b:=fU a;have H:=At.start h;have j:=H.rJ;have d:=h.lt;clear h c a;go_enter func76,ntmps76
 go_wp21
 refine dC (hA σ.mode t e) H b HS rfl lT ?_;clear H b;rintro(_) f σ w H i g b;go_wp2;go_end0;exact gu b H rfl
include hA in
def zT (t:gM) (c:jd E t):ja E 83 (λ_=>#[Bp E,iF E t]) (lG rec t) uV:=by
 refine dI λf σ w R a HS H=>?_;unfold lG at a;go_enter func83,ntmps83;have g:=H.X2;have i:=H.free 196;have h:=H.rJ;have j:=H.free 192;have b:=H.lt;replace H:=(H.qz true).jc 1
 go_wp21
 refine dC (tk E rec hA t c) H a HS rfl lT ?_;rintro(_) f σ w H e d a;go_wp2;go_end0;exact gu a H rfl
theorem Cj (own:Bool):ja E 157 (λ_=>#[Bp E,if own then E.tv else .slice none 0 0]) (rN own (if own then E.ta else [])) uV:=by
 intro f σ w h i;have⟨ao,n,cp,htv⟩:=h.tv;obtain⟨R,b⟩:∃R,R=rN own (if own then E.ta else []) σ:=⟨_,rfl⟩;rw[<-b]at i|-;have HS:=i;have H:=At.start h;have o:=h.lt;have g:=fU h.aeH;have r:=H.xy;have s:=H.VB;have u:=H.free 190;unfold rN at b;cases own with
 |true=>
  rw[M.gx]at b;unfold sY at b;have d:σ.fresh=true:=by
   cases hq:σ.fresh with
   |true=>rfl
   |false=>grind
  simp only[d,xK]at b;have a:=fU b;replace H:=H.pL d fX;rw[htv]at H;rw[gF rfl,htv];clear h b;go_enter func157,ntmps157
  go_wp21
  refine mC (FX E 0) H a HS (by rw[Y6 g.out]) lT ?_;rintro(e) σ w H c a
  go_wp21
  refine mC (D5 E e _) H a HS (by rw[y8]) lT ?_;rintro(_) σ w H c a
  go_wp21
  refine mC (N5 E (some _)) H a HS (by show #[_,nV _ _]=_;rw[y8]) lT ?_;rintro(_) σ w H c a;have j:=H.rJ;have l:=H.free 192;replace H:=H.jc 2;go_wp2;go_end0;exact gu a H rfl
 |false=>
  rw[M.gx]at b;unfold sY at b;simp only[wR,AM]at b;have a:=fU b;replace H:=H.Gc fX;rw[gQ (by simp)];clear h b;go_enter func157,ntmps157
  go_wp21
  refine mC (FX E 0) H a HS (by rw[Y6 g.out]) lT ?_;rintro(e) σ w H c a
  go_wp21
  refine mC (D5 E e _) H a HS (by rw[y8]) lT ?_;rintro(_) σ w H c a
  go_wp21
  refine mC (N5 E (some _)) H a HS (by show #[_,nV _ _]=_;rw[y8]) lT ?_;rintro(_) σ w H c a;have j:=H.rJ;have l:=H.free 192;replace H:=H.jc 2;go_wp2;go_end0;exact gu a H rfl
include hF in
theorem Ck (own:Bool):ja E 162 (λ_=>#[Bp E,if own then E.tv else .slice none 0 0]) (rO own (if own then E.ta else [])) uV:=by
 intro f σ w h g;have⟨ao,n,cp,htv⟩:=h.tv;obtain⟨R,a⟩:∃R,R=rO own (if own then E.ta else []) σ:=⟨_,rfl⟩;rw[<-a]at g|-;have HS:=g;have H:=At.start h;have e:=h.lt;have o:=h.aeH;have r:=H.xy;have s:=H.VB;have u:=H.free 190;unfold rO at a;cases own with
 |true=>
  rw[M.gx]at a;unfold sY at a;have d:σ.fresh=true:=by
   cases hq:σ.fresh with
   |true=>rfl
   |false=>grind
  simp only[d,xK]at a;have c:=fU a;replace H:=H.pL d gS;rw[htv]at H;rw[gF rfl,htv];clear a;go_enter func162,ntmps162;have b:=H.yp (some σ.nodes.length) (by simp[Ab.gW,Ab.hU,Ab.pn,Ab.add]);rw[show oV (GD f σ.nodes.length w.heap.size) (some σ.nodes.length)=gJ w.heap.size from y8 _ _ _]at b;rw[World.setCell_alloc_past _ _ _ _ e]at b;replace H:=b
  go_wp21
  refine mC (DK E hF _) H c HS (by rw[y8]) lT ?_;rintro(_) σ w H i c;have j:=H.rJ;have l:=H.free 192;replace H:=H.jc 3;go_wp2;go_end0;exact gu c H rfl
 |false=>
  rw[M.gx]at a;unfold sY at a;simp only[wR,AM]at a;have c:=fU a;replace H:=H.Gc gS;rw[gQ (by simp)];clear a;go_enter func162,ntmps162;have b:=H.yp (some σ.nodes.length) (by simp[Ab.gW,Ab.hU,Ab.pn,Ab.add]);rw[show oV (GD f σ.nodes.length w.heap.size) (some σ.nodes.length)=gJ w.heap.size from y8 _ _ _]at b;rw[World.setCell_alloc_past _ _ _ _ e]at b;replace H:=b
  go_wp21
  refine mC (DK E hF _) H c HS (by rw[y8]) lT ?_;rintro(_) σ w H i c;have j:=H.rJ;have l:=H.free 192;replace H:=H.jc 3;go_wp2;go_end0;exact gu c H rfl
include hA in
def K8 (t:gM) (d:jd E t):ja E 86 (λ_=>#[Bp E,iF E t]) (pa rec t) uV:=by
 refine dI λf σ w R a HS H=>?_;unfold pa at a;go_enter func86,ntmps86
 go_wp21
 refine dC (Cj E false) H a HS (by simp) lT ?_;rintro(_) f σ w H c b a
 go_wp21
 refine dC (tk E rec hA t d) H a HS rfl lT ?_;rintro(_) f σ w H c b a;go_wp2;go_end0;exact gu a H rfl
include hF hA in
def K9 (t:gM) (d:jd E t):ja E 90 (λ_=>#[Bp E,iF E t]) (pc rec t) uV:=by
 refine dI λf σ w R a HS H=>?_;unfold pc at a;go_enter func90,ntmps90
 go_wp21
 refine dC (Ck E hF false) H a HS (by simp) lT ?_;rintro(_) f σ w H c b a
 go_wp21
 refine dC (tk E rec hA t d) H a HS rfl lT ?_;rintro(_) f σ w H c b a;go_wp2;go_end0;exact gu a H rfl
theorem Q6 (t:gM) (A:jd E t):ja E 85 (λ_=>#[Bp E,iF E t]) (yt t) uV:=by
 intro f σ w h s;have⟨ao,n,cp,htv⟩:=h.tv;obtain⟨R,d⟩:∃R,R=yt t σ:=⟨_,rfl⟩;rw[<-d]at s|-;have HS:=s;have H:=At.start h;have z:=h.lt;have j:=yx E t w ⟨ao,n,cp,htv⟩;unfold yt at d;cases htg:t.rL with
 |true=>
  have c:t.js=(if true then E.ta else [])/\zl E t=#[gn t.a,gn t.b,gH t.name,.slice ao n cp]:=by
   have:=A htg;have⟨a,b,k,gL⟩:=t;cases k<;>simp_all[gM.rL,gM.js,zl,gM.name]
  rw[htg,c.1]at d;rw[c.2]at j;have g:=fU j;have i:=fU d;have l:=fU htv;have o:=λw=>yy (t.a:Int) (t.b:Int) t.name ao n cp w;clear d j htv;go_enter func85,ntmps85
  go_wp21
  refine g.mono ?_;rintro e B ⟨rfl,r⟩;replace H:=H.k0 r
  go_wp21
  refine dC (Cj E true) H i HS (by rw[gF rfl,l.out]) lT ?_;rintro(_) f σ w H x u i;go_wp2;go_end0;exact gu i H rfl
 |false=>
  have c:t.js=(if false then E.ta else [])/\zl E t=#[gn 0,gn 0,gH kI,jX]:=by
   have⟨a,b,k,gL⟩:=t;cases k<;>simp_all[gM.rL,gM.js,zl,gM.name]
  rw[htg,c.1]at d;rw[c.2]at j;have g:=fU j;have i:=fU d;have o:=λw=>yy 0 0 ⟨#[]⟩ none 0 0 w;clear d j htv;go_enter func85,ntmps85
  go_wp21
  refine g.mono ?_;rintro e B ⟨rfl,r⟩;replace H:=H.k0 r
  go_wp21
  refine dC (Cj E false) H i HS (by simp) lT ?_;rintro(_) f σ w H x u i;go_wp2;go_end0;exact gu i H rfl
include hF in
theorem Q7 (t:gM) (A:jd E t):ja E 89 (λ_=>#[Bp E,iF E t]) (yu t) uV:=by
 intro f σ w h s;have⟨ao,n,cp,htv⟩:=h.tv;obtain⟨R,d⟩:∃R,R=yu t σ:=⟨_,rfl⟩;rw[<-d]at s|-;have HS:=s;have H:=At.start h;have z:=h.lt;have j:=yx E t w ⟨ao,n,cp,htv⟩;unfold yu at d;cases htg:t.rL with
 |true=>
  have c:t.js=(if true then E.ta else [])/\zl E t=#[gn t.a,gn t.b,gH t.name,.slice ao n cp]:=by
   have:=A htg;have⟨a,b,k,gL⟩:=t;cases k<;>simp_all[gM.rL,gM.js,zl,gM.name]
  rw[htg,c.1]at d;rw[c.2]at j;have g:=fU j;have i:=fU d;have l:=fU htv;have o:=λw=>yy (t.a:Int) (t.b:Int) t.name ao n cp w;clear d j htv;go_enter func89,ntmps89
  go_wp21
  refine g.mono ?_;rintro e B ⟨rfl,r⟩;replace H:=H.k0 r
  go_wp21
  refine dC (Ck E hF true) H i HS (by rw[gF rfl,l.out]) lT ?_;rintro(_) f σ w H x u i;go_wp2;go_end0;exact gu i H rfl
 |false=>
  have c:t.js=(if false then E.ta else [])/\zl E t=#[gn 0,gn 0,gH kI,jX]:=by
   have⟨a,b,k,gL⟩:=t;cases k<;>simp_all[gM.rL,gM.js,zl,gM.name]
  rw[htg,c.1]at d;rw[c.2]at j;have g:=fU j;have i:=fU d;have o:=λw=>yy 0 0 ⟨#[]⟩ none 0 0 w;clear d j htv;go_enter func89,ntmps89
  go_wp21
  refine g.mono ?_;rintro e B ⟨rfl,r⟩;replace H:=H.k0 r
  go_wp21
  refine dC (Ck E hF false) H i HS (by simp) lT ?_;rintro(_) f σ w H x u i;go_wp2;go_end0;exact gu i H rfl
def LS (t:gM):ja E 95 (λ_=>#[Bp E,iF E t]) (AZ) uV:=by
 refine dI λf σ w R a HS H=>?_;unfold AZ at a;go_enter func95,ntmps95
 go_wp21
 refine mC (Cm E) H a HS rfl lT ?_;rintro(_) σ w H c a;have d:=H.rJ;have e:=H.free 192;have b:=H.lt;replace H:=H.jc 4;go_wp2;go_end0;exact gu a H rfl
include hA in
def Cf (t:gM) (d:jd E t):ja E 96 (λ_=>#[Bp E,iF E t]) (nC rec t) uV:=by
 refine dI λf σ w R a HS H=>?_;unfold nC at a;go_enter func96,ntmps96
 go_wp21
 refine dC (LS E t) H a HS rfl lT ?_;rintro(_) f σ w H c b a
 go_wp21
 refine dC (tk E rec hA t d) H a HS rfl lT ?_;rintro(_) f σ w H c b a;go_wp2;go_end0;exact gu a H rfl
include hF in
def Q0 (t:gM) (c:jd E t):ja E 97 (λ_=>#[Bp E,iF E t]) (ue t) uV:=by
 refine dI λf σ w R a HS H=>?_;unfold ue at a;go_enter func97,ntmps97
 go_wp21
 refine dC (kZ E hF t c) H a HS rfl lT ?_;rintro(_) f σ w H e d a;have g:=H.rJ;have h:=H.free 192;have b:=H.lt;replace H:=H.jc 6;go_wp2;go_end0;exact gu a H rfl
include hF hA in
def K5 (t:gM) (e:jd E t):ja E 99 (λ_=>#[Bp E,iF E t]) (nw rec t) uV:=by
 refine dI λf σ w R a HS H=>?_;unfold nw at a;go_enter func99,ntmps99
 go_wp21
 refine dC (uu E hF gA) H a HS rfl lT ?_;rintro(_) f σ w H c b a;have g:=H.rJ;have h:=H.free 192;have d:=H.lt;replace H:=H.jc 6
 go_wp21
 refine dC (tk E rec hA t e) H a HS rfl lT ?_;rintro(_) f σ w H c b a;go_wp2;go_end0;exact gu a H rfl
def LU (t:gM):ja E 101 (λ_=>#[Bp E,iF E t]) (yT) uV:=by
 refine dI λf σ w R a HS H=>?_;unfold yT at a;go_enter func101,ntmps101
 go_wp21
 refine mC (Cm E) H a HS rfl lT ?_;rintro(_) σ w H b a;have c:=H.rJ;have e:=H.free 192;have d:=H.R6;have g:=H.lt;replace H:=H.jc σ.kept;go_wp2;go_end0;exact gu a H rfl
include hA in
def VJ (t:gM) (d:jd E t):ja E 100 (λ_=>#[Bp E,iF E t]) (Ds rec t) uV:=by
 refine dI λf σ w R a HS H=>?_;unfold Ds at a;go_enter func100,ntmps100
 go_wp21
 refine dC (LU E t) H a HS rfl lT ?_;rintro(_) f σ w H c b a
 go_wp21
 refine dC (tk E rec hA t d) H a HS rfl lT ?_;rintro(_) f σ w H c b a;go_wp2;go_end0;exact gu a H rfl
def Yj (t:gM):ja E 137 (λ_=>#[Bp E,iF E t]) (IA) uV:=by
 refine dI λf σ w R a HS H=>?_;unfold IA at a;go_enter func137,ntmps137;have c:=H.rJ;have d:=H.free 192;have b:=H.lt;replace H:=H.jc 17;go_wp2;go_end0;exact gu a H rfl
include hA in
def M2 (t:gM) (c:jd E t):ja E 228 (λ_=>#[Bp E,iF E t]) (vV rec t) uV:=by
 refine dI λf σ w R a HS H=>?_;unfold vV at a;go_enter func228,ntmps228;have g:=H.rJ;have h:=H.free 192;have b:=H.lt;replace H:=H.jc 6
 go_wp21
 refine dC (tk E rec hA t c) H a HS rfl lT ?_;rintro(_) f σ w H e d a;go_wp2;go_end0;exact gu a H rfl
end
def RF.P6 {σ:Ab} (h:RF E f σ w):Calls prog 160 #[jG E.bB 188] w λe b=>e=iq (oV f σ.last)/\b=w:=by
 obtain⟨L,rfl,a⟩:=h;exact SV a
def RF.aeT {σ:Ab} (h:RF E f σ w):Calls prog 251 #[jG E.bB 189] w λe b=>e=iq (gn σ.act.length)/\b=w:=by
 obtain⟨L,rfl,a⟩:=h;exact acv a
def RF.atA {σ:Ab} (h:RF E f σ w) (n:Int):Calls prog 229 #[jG E.bB 189,gn n] w λe b=>e=iq (oV f (iB σ.act n))/\b=w:=by
 obtain⟨L,rfl,a⟩:=h;exact afv a n
def RF.atO {σ:Ab} (h:RF E f σ w) (n:Int):Calls prog 229 #[jG E.bB 188,gn n] w λe b=>e=iq (oV f (iB σ.gz n))/\b=w:=by
 obtain⟨L,rfl,a⟩:=h;exact ae0 a n
def RF.aeP {σ:Ab} (h:RF E f σ w) (x:jg) (b:σ.gW x=true):Calls prog 303 #[jG E.bB 188,oV f x] w λe c=>e=iq (.bool (decide (x∈σ.gz)))/\c=w:=by
 obtain⟨L,rfl,a⟩:=h;exact ae1 a x b
def RF.aeO {σ:Ab} (h:RF E f σ w) (x:jg) (b:σ.gW x=true):Calls prog 303 #[jG E.bB 189,oV f x] w λe c=>e=iq (.bool (decide (x∈σ.act)))/\c=w:=by
 obtain⟨L,rfl,a⟩:=h;exact aeB a x b
def RF.ada {σ:Ab} (h:RF E f σ w) (x:jg) (b:σ.gW x=true):Calls prog 227 #[jG E.bB 188,oV f x] w λe c=>e=iq (oV f (iB σ.gz (posOf σ.gz x - 1)))/\c=w:=by
 obtain⟨L,rfl,a⟩:=h;exact zd a x b
def RF.acw {σ:Ab} (h:RF E f σ w) (n:Int):σ.gW (iB σ.act n)=true:=by
 obtain⟨L,rfl,c⟩:=h;unfold iB
 by_cases b:0<=n/\n < σ.act.length
 .rw[gF b];have a:n.toNat < σ.act.length:=by omega
  have e:σ.act.getD n.toNat none=σ.act[n.toNat]:=by simp[List.getD,a]
  rw[e];exact c.wf.act _ (uR a)
 .rw[gQ b];rfl
def aa6 {σ:Ab} (h:RF E f σ w) (x:jg) (c:σ.gW x=true):
  Calls prog 256 #[Bp E,oV f x] w λe a=>e=iq (.bool (σ.SK x))/\a=w:=by
 have C:=h.aeP x c;unfold Ab.SK;cases x with
 |none=>
  go_enter func256,ntmps256;go_wp2;go_ret;simp
 |some i=>
  have b:oV f (some i)=gJ (f i):=rfl;rw[b]at C|-;go_enter func256,ntmps256
  go_wp21
  refine C.mono ?_;rintro e a ⟨rfl,rfl⟩;go_wp2;go_ret;simp
theorem BU (E:Env) (x:jg):j9 E 272 (λf=>#[Bp E,oV f x]) (lw x) uV:=by
 intro f σ w ⟨L,e,h⟩ g;subst e;have C:=h.low (j:=1) (by decide) h.DU.2.1;have⟨_,_,_,_,hd,_⟩:=h.DU;have A:=h.Ey;have c:=(λq=>acv (h.drewN q));unfold lw at g|-
 by_cases d:σ.qQ<=σ.act.length
 .rw[gF d];have b:=(λq=>On (h.drewN q) 6);go_enter func272,ntmps272
  go_wp21
  go_quiet ((go_at_call 251;exact Fw (c _)))
  go_wp21
  refine(b nq).mono ?_;rintro e B ⟨k,rfl,i,u⟩;have l:=(Fr.drewN w nq).trans u;go_wp2;exact⟨rfl,k,rfl,i,l⟩
 .rw[gQ d]at g|-;have a:σ.gW x=true:=by
   by_cases a:σ.gW x=true
   .exact a
   .grind
  rw[gF a];have b:=(λq=>ac8 (h.drewN q) x a (by omega));go_enter func272,ntmps272
  go_wp21
  go_quiet ((go_at_call 251;exact Fw (c _)))
  go_wp21
  refine(b nq).mono ?_;rintro e B ⟨rfl,s,e1,r,z⟩;have o:=(Fr.drewN w nq).trans z;go_wp2;go_end0;exact⟨rfl,⟨s,e1,r⟩,o,ig _⟩
def M.tail {α:Type} {m:M α} {σ:Ab} {R:pG α} (h:R=m σ):R=(m>>=λa=>(Pure.pure a:M α)) σ:=by rw[M.bind_pure];exact h
def zY (E:Env):j9 E 204 (λ_=>#[Bp E]) (lw none) uV:=by
 refine mI λf σ w R a HS H=>?_;go_enter func204,ntmps204;replace a:=fU (M.tail a)
 go_wp21
 refine mC (BU E none) H a HS rfl mT ?_;rintro(_) σ w H b a;go_wp2;go_end0;exact jZ a H rfl
def Rt (E:Env):j9 E 271 (λ_=>#[Bp E]) zo uV:=by
 refine mI λf σ w R a HS H=>?_;unfold zo at a;go_enter func271,ntmps271
 go_wp21
 refine mC (XH E none) H a HS rfl mT ?_;rintro(_) σ w H b a;go_wp2;go_end0;exact jZ a H rfl
def WM {σ:Ab} {xs : kQ} {x : jg}:σ.tY ((xs++[x]).reverse)=if σ.SK x then xs.length+1 else σ.tY xs.reverse:=by
 simp[Ab.tY]
attribute [local go_sem] Oper.semAt_some
theorem F1 {σ:Ab}:∀{a:kQ},(∀y∈a,(!kC (σ.qU y) fZ)=true\/y=iB σ.gz 0)->rV σ a=none
 |[],_=>rfl
 |x::a,h=>by
  unfold rV;rw[gF (by grind)];exact F1 λy b=>h y (by simp[b])
theorem F2 {σ:Ab} (b:¬((!kC (σ.qU y) fZ)=true\/y=iB σ.gz 0)):∀{a:kQ},(∀y∈a,(!kC (σ.qU y) fZ)=true\/y=iB σ.gz 0)->rV σ (a++[y]++rest)=some y
 |[],_=>by
  grind[rV]
 |x::a,h=>by
  show rV σ (x::(a++[y]++rest))=some y;unfold rV;rw[gF (by grind)];exact F2 b λy c=>h y (by simp[c])
def Cl {a : gv} {s : Nat} (b:Kept [] W a) (e:Kept [] w W) (c:w.heap.size<=s) (d:a.heap[s]?=some (gI #[.pointer none,gn 0] 214)) (v0 v1:gO):
  Kept [s] W ((a.setCell ⟨s,0,none⟩ v0).setCell ⟨s,1,none⟩ v1)/\Kept [] w ((a.setCell ⟨s,0,none⟩ v0).setCell ⟨s,1,none⟩ v1)/\((a.setCell ⟨s,0,none⟩ v0).setCell ⟨s,1,none⟩ v1).heap[s]?=some (gI #[v0,v1] 214):=
 ⟨((b.mono (by simp)).setCell (.inl (by simp)) _).setCell (.inl (by simp)) _,(((e.trans b)).setCell (.inr c) _).setCell (.inr c) _,gg (gg d 0 v0) 1 v1⟩
def Wz {a : gv} {s : Nat} (c:Kept [] W a) (e:Kept [] w W) (d:w.heap.size<=s) (b:a.heap[s]?=some (gI #[.pointer none,gn 0] 214)) (v0 v1:gO) (o:Obj):
  Kept [s] W (((a.setCell ⟨s,0,none⟩ v0).setCell ⟨s,1,none⟩ v1).alloc o)/\Kept [] w (((a.setCell ⟨s,0,none⟩ v0).setCell ⟨s,1,none⟩ v1).alloc o)/\(((a.setCell ⟨s,0,none⟩ v0).setCell ⟨s,1,none⟩ v1).alloc o).heap[s]?=some (gI #[v0,v1] 214):=by
 have⟨h1,h2,h3⟩:=Cl c e d b v0 v1;exact⟨h1.alloc _,h2.alloc _,((Kept.refl [] _).alloc o).at h3 (by simp)⟩
theorem iK (E:Env):lu E:=by
 intro f σ w h hs;have aj:∃Y,j4 σ= .ok Y σ:=by
  cases b:j4 σ with
  |ok Y σ1=>exact⟨Y,by rw[oF b]⟩
  |stop c p=>
   exfalso;unfold j4 at b;split at b
   .split at b
    .unfold mD at b;split at b
     .split at b
      .grind
      .split at b
       .unfold jy at b;grind
       grind
     grind
    .cases b
    .split at b
     .unfold jy at b;grind
     grind
   grind
  |stuck=>grind
 have⟨pl0,hpl0⟩:=aj;have V:σ.AF=true:=by
  cases ht:σ.AF with
  |true=>rfl
  |false=>unfold j4 at hpl0;grind
 rw[hpl0];obtain⟨L,rfl,j⟩:=h;refine(wJ (n:=3)).1 ?_;refine wK func249 rfl trivial ?_ rfl;simp only[ntmps249,wM,qe,uS,Nat.reduceAdd,Nat.reduceSub,wN,wO,wP,wQ,ru,uT];have ap:=j.lt;obtain⟨r,z⟩:∃r,r=(w.alloc (gI #[Bp E] 93)).alloc (gI #[.pointer none,gn 0] 214):=⟨_,rfl⟩;have a9:Kept [] w r:=by rw[z];exact((Kept.refl _ _).alloc _).alloc _
 have an:r.heap[w.heap.size]?=some (gI #[Bp E] 93):=by
  have:=(sy w (gI #[Bp E] 93) (gI #[.pointer none,gn 0] 214)).1
  rwa [<-z]at this
 obtain⟨w1,X⟩:∃w1,w1=r.alloc (gI #[oV L.gP (iB σ.gz 0)] 57):=⟨_,rfl⟩;have af:Kept [] w w1:=by rw[X];exact a9.alloc _
 have⟨b0,b1,b2⟩:=oq w (gI #[Bp E] 93) (gI #[.pointer none,gn 0] 214) (gI #[oV L.gP (iB σ.gz 0)] 57);rw[<-z,<-X]at b0 b1 b2;have a2:r.heap.size=w.heap.size+1+1:=by rw[z];simp
 have F:w1.heap.size=w.heap.size+1+1+1:=by rw[X];simp[a2]
 have CA:=ae0 (j.il a9) 0;have aq:=j.il af;have⟨C,HL,hC⟩:=aq.yZ;have HU:=Wi E.bs E.bB 188 _ C _ _ w1 HL;have HO:=(λg (S:L.ov.ownBlock=some g)=>Cu j.o0 S);have HN:=(λ(W:gv) (d:Kept [] w W) (i:Nat) (e:zu) (hi:σ.hU i=some e)=>(j.il d).vi hi);have HS:=(λ(y:jg) (hy:y∈σ.gz)=>j.od hy);have HI:=fU j.inj;have HE:=(λ(W:gv) (d:Kept [] w W) (x:jg) (hx:σ.gW x=true)=>(j.il d).gW hx);have HZ:=fU F;have a5:=fU a2;have am:=fU z;have HW:=fU X;clear F X a2 z;have au:r.cell? ⟨w.heap.size,0,none⟩=some (Bp E):=by rw[fW an];rfl
 have aw:E.bB < r.heap.size:=lV ap a9.size;have ax:w.heap.size < r.heap.size:=by have:=a5.out;omega
 gi_wp2_with fail
 rw[<-am.out];refine⟨trivial,(callsIn_wide.2 CA).mono ?_⟩;rintro e r ⟨rfl,rfl⟩
 gi_wp2_with fail
 rw[<-HW.out];refine⟨trivial,(callsIn_wide.2 HU).mono ?_⟩;rintro e w' ⟨rfl,rfl⟩;gi_wp2;refine Ej (by omega) (f:=iD L.gP) (λx y e=>rM HI.out e) HL rfl [] [w.heap.size+1] (by simp) (by grind)
  (λpre W=>Kept [] w W/\W.heap[w.heap.size]?=some (gI #[Bp E] 93)/\W.heap[w.heap.size+1]?=some (gI #[.pointer none,gn 0] 214)/\W.heap[r.heap.size]?=some (gI #[oV L.gP (iB σ.gz 0)] 57)/\∀y∈pre,(!kC (σ.qU y) fZ)=true\/y=iB σ.gz 0)
  (λc pre W=>c= .ret/\Kept [] w W/\∃o i Y,pre=o++[some i]/\(∀y∈o,(!kC (σ.qU y) fZ)=true\/y=iB σ.gz 0)/\¬((!kC (σ.qU (some i)) fZ)=true\/some i=iB σ.gz 0)/\mD i σ= .ok Y σ/\W.heap[w.heap.size+1]?=some (gI #[gJ (L.gP Y.1),gn Y.2] 214))
  ?_ ?_ ?_ (λx=>{tmps:=#[Bp E,gJ w.heap.size,gJ (w.heap.size+1),gJ r.heap.size,kh x,undef,undef,Bp E,gJ E.bB,jG E.bB 188,oV L.gP (iB σ.gz 0),Bp E,gJ E.bB,jG E.bB 188,uQ w1.heap.size,kh x,undef,undef,undef,undef,undef,undef,undef,undef,undef,undef,undef,undef,undef,undef,undef,undef,undef,undef,undef,undef,undef,undef,undef,undef,undef],defers:=[]}) ?assign ?body ?done ?stopx
 .rintro s A B ar ⟨h1,h2,h3,h4,h5⟩ S hr;have F:=HZ.out;have a2:=a5.out;exact⟨lX h1 S hr (by omega),kG h2 S hr (by omega),kG h3 S hr (by omega),kG h4 S hr (by omega),h5⟩
 .rintro c s A B ar ⟨h0,h1,o,i,Y,h2,h3,h4,h5,h6⟩ S hr;have F:=HZ.out;exact⟨h0,lX h1 S hr (by omega),o,i,Y,h2,h3,h4,h5,kG h6 S hr (by omega)⟩
 .have d:Kept [] w1 (mu E.bB 188 (σ.gz.length) w1):=((Kept.refl _ _).alloc _).alloc _;refine⟨af.trans d,d.at b0 (by simp),d.at b1 (by simp),?_,by simp⟩;rw[a5.out];exact d.at b2 (by simp)
 case assign=>
  intro l x W K hK;gi_wp2;exact hK
 case body=>
  rintro l pre y W hy ⟨u,h2,B3,B4,B5⟩;obtain⟨i,e0,rfl,hi⟩:=HS y hy;have H:=j.il u;have c0:=HN W u i e0 hi;have c1:W.cell? ⟨w.heap.size,0,none⟩=some (Bp E):=by rw[fW h2];rfl
  have c2:W.cell? ⟨r.heap.size,0,none⟩=some (oV L.gP (iB σ.gz 0)):=by rw[fW B4];rfl
  have J:(binOp .eql 57 (gJ (L.gP i)) (oV L.gP (iB σ.gz 0))).run prog W= .ok (.bool (decide (some i=iB σ.gz 0))) W:=by
   have ao:σ.gW (iB σ.gz 0)=true:=by
    unfold iB
    by_cases hn:(0:Int)<=0/\(0:Int) < σ.gz.length
    .rw[gF hn];have ag:0 < σ.gz.length:=by omega
     show σ.gW (σ.gz.getD 0 none)=true;rw[xv,ry ag];exact Ab.vA (H.wf.gz _ (uR ag))
    .rw[gQ hn];rfl
   have J:=Cc (HE W u (some i) (by show(σ.hU i).isSome=true;rw[hi];rfl)) (HE W u _ ao);rw[decide_eq_decide.2 (⟨λe=>rM HI.out e,λe=>by rw[e]⟩:iD L.gP (some i)=iD L.gP (iB σ.gz 0)↔some i=iB σ.gz 0)]at J;exact J
  have a1:kC (σ.qU (some i)) fZ=((σ.nm i).toList==[116,97,98,108,101]):=by
   show kC (σ.nm i) _=_;unfold kC;rw[sJ fZ]
  have B2:=fU h2;have G:=fU hi;clear h2 hi
  try dsimp only
  rw[show kh (iD L.gP (some i))=gJ (L.gP i)from rfl];cases htb:((σ.nm i).toList==[116,97,98,108,101])with
  |false=>
   rw[htb]at a1;have HG:Hid ((!kC (σ.qU (some i)) fZ)=true\/some i=iB σ.gz 0):=fU (.inl (by rw[a1];rfl));have ak:((σ.nm i).toList != [116,97,98,108,101])=true:=by simp[bne,htb]
   gi_wp2;refine⟨Kept.refl _ _,u,B2.out,B3,B4,λy hy=>?_⟩
   grind
  |true=>
   rw[htb]at a1;have ak:((σ.nm i).toList != [116,97,98,108,101])=false:=by simp[bne,htb]
   by_cases O:some i=iB σ.gz 0
   .rw[vp O]at J;have HG:Hid ((!kC (σ.qU (some i)) fZ)=true\/some i=iB σ.gz 0):=fU (.inr O);gi_wp2;refine⟨Kept.refl _ _,u,B2.out,B3,B4,λy hy=>?_⟩
    grind
   .rw[xo O]at J;have HG:Hid (¬((!kC (σ.qU (some i)) fZ)=true\/some i=iB σ.gz 0)):=fU (by rw[a1];simp[O]);have ae:(mD i σ).isOk=true:=by
     have:=List.all_eq_true.1 V (some i) hy;simp only[Bool.or_eq_true,MI]at this;rcases this with(h|h)|h
     .exfalso;have e:kC (σ.qU (some i)) fZ=kC (σ.nm i) fZ:=rfl;grind
     .exact absurd h O
     .exact h
    cases hp:e0.je with
    |some p=>
     have I:∃ep,σ.hU p=some ep/\0<=qh ep.kids (Nd.gW i)/\mD i σ= .ok (p,(qh ep.kids (Nd.gW i)).toNat) σ:=by
      have d:=ae;unfold mD at d|-;rw[G.out]at d|-;simp only[hp]at d|-;cases b:σ.hU p with
      |none=>rw[b]at d;simp[pG.isOk]at d
      |some ep=>
       simp only[b]at d|-
       by_cases ai:0<=qh ep.kids (Nd.gW i)
       .grind
       .rw[gQ ai]at d;simp[pG.isOk]at d
     have⟨ep,I,ai,hfa⟩:=I;have CF:=Rg H G.out hp I;obtain⟨q,b⟩:∃q:Nat,qh ep.kids (Nd.gW i)=(q:Int):=⟨(qh ep.kids (Nd.gW i)).toNat,by omega⟩;rw[b]at CF hfa;have a3:Hid (mD i σ= .ok (p,q) σ):=fU (by rw[hfa];rfl);clear hfa
     gi_wp2_with fail
     refine⟨trivial,(qF l (callsIn_wide.2 CF)).mono ?_⟩;rintro e W2 ⟨rfl,aa,ac⟩;have a:=ac.at B3 (by simp);have d0:W2.cell? ⟨w.heap.size+1,0,none⟩=some (.pointer none):=by rw[fW a];rfl
     have d1:W2.cell? ⟨w.heap.size+1,1,none⟩=some (gn 0):=by rw[fW a];rfl
     have g0:=gE a 0;have g1:=gE a 1;have av:w.heap.size+1 < W2.heap.size:=jk a;have Z:=fU a;gi_wp2;have⟨t1,t2,t3⟩:=Wz ac u (lf _) Z.out (gJ (L.gP p)) (gn q) (gI #[gJ (L.gP p),gn q] 214);exact⟨t1,rfl,t2,pre,i,(p,q),rfl,B5,HG.out,a3.out,t3⟩
    |none=>
     have I:∃q e,iB σ.gz (posOf σ.gz (some i) - 1)=some q/\σ.hU q=some e/\mD i σ= .ok (q,e.kids.length) σ:=by
      have d:=ae;unfold mD at d|-;rw[G.out]at d|-;simp only[hp]at d|-;cases b:iB σ.gz (posOf σ.gz (some i) - 1)with
      |none=>rw[b]at d;simp[pG.isOk]at d
      |some q=>
       simp only[b]at d|-;unfold jy at d|-;cases hq2:σ.hU q with
       |none=>rw[hq2]at d;simp[pG.isOk]at d
       |some e=>grind
     have⟨q,eq,a7,N,hfa⟩:=I;have CF:=TA H G.out hp;have a3:=fU hfa;have al:=(λ(W':gv) (d:Kept [] W W')=>(show Calls prog 227 #[jG E.bB 188,gJ (L.gP i)] W' (λe w'=>e=iq (gJ (L.gP q))/\w'=W')from by
      have:=zd (H.il d) (some i) (by show(σ.hU i).isSome=true;rw[G.out];rfl)
      rwa [a7]at this))
     have CE:=(λ(W':gv) (d:Kept [] W W')=>Rf (H.il d) N);clear hfa
     gi_wp2_with fail
     refine⟨trivial,(qF l (callsIn_wide.2 CF)).mono ?_⟩;rintro e W2 ⟨rfl,aa,a8⟩;have a4:Kept [] W (W2.alloc (gI #[.pointer none,gn 0] 214)):=a8.alloc _;have e1:W2.cell? ⟨w.heap.size,0,none⟩=some (Bp E):=by rw[fW (a8.at B2.out (by simp))];rfl
     have ay:w.heap.size < W2.heap.size:=jk (a8.at B2.out (by simp))
     gi_wp2_with fail
     refine⟨trivial,(qF l (callsIn_wide.2 (al _ a4))).mono ?_⟩;rintro e W3 ⟨rfl,rfl⟩
     gi_wp2_with fail
     refine⟨trivial,(qF l (callsIn_wide.2 (CE _ a4))).mono ?_⟩;rintro e W4 ⟨rfl,ab,T⟩;have a0:=a4.trans T;have a:=a0.at B3 (by simp);have d0:W4.cell? ⟨w.heap.size+1,0,none⟩=some (.pointer none):=by rw[fW a];rfl
     have d1:W4.cell? ⟨w.heap.size+1,1,none⟩=some (gn 0):=by rw[fW a];rfl
     have g0:=gE a 0;have g1:=gE a 1;have Z:=fU a;gi_wp2;have⟨t1,t2,t3⟩:=Cl a0 u (lf _) Z.out (gJ (L.gP q)) (gn eq.kids.length);exact⟨t1,rfl,t2,pre,i,(q,eq.kids.length),rfl,B5,HG.out,a3.out,t3⟩
 case done=>
  rintro D W HD ⟨u,h2,B3,h4,h5⟩ hK;have R:∃q e,iB σ.gz 0=some q/\σ.hU q=some e/\pl0=(q,e.kids.length):=by
   have b:=hpl0;unfold j4 at b;rw[gF V,F1 h5]at b;simp only at b;cases S:iB σ.gz 0 with
   |none=>grind
   |some q=>
    rw[S]at b;simp only at b;unfold jy at b
    grind
  obtain⟨q,eq,a7,N,rfl⟩:=R;have c2:W.cell? ⟨r.heap.size,0,none⟩=some (gJ (L.gP q)):=by rw[fW h4,a7];rfl
  have CE:=Rf (j.il u) N;clear h2
  gi_wp2_with fail
  refine⟨trivial,(callsIn_wide.2 CE).mono ?_⟩;rintro e W4 ⟨rfl,ab,T⟩;have a:=T.at B3 (by simp);have d0:W4.cell? ⟨w.heap.size+1,0,none⟩=some (.pointer none):=by rw[fW a];rfl
  have d1:W4.cell? ⟨w.heap.size+1,1,none⟩=some (gn 0):=by rw[fW a];rfl
  have g0:=gE a 0;have g1:=gE a 1;have ad:=(T.block D (Array.getElem?_eq_some_iff.1 hK).1 (by simp)).trans hK;have⟨t1,T2,T3⟩:=Cl T u (lf _) a (gJ (L.gP q)) (gn eq.kids.length);have Z:=fU a;have a0:=((((Kept.refl [w.heap.size+1] W4).setCell (p:=⟨w.heap.size+1,0,none⟩) (.inl (by simp)) (gJ (L.gP q))).setCell (p:=⟨w.heap.size+1,1,none⟩) (.inl (by simp)) (gn eq.kids.length)).block D (Array.getElem?_eq_some_iff.1 ad).1 (by have:=HZ.out;grind)).trans ad;gi_wp2;refine⟨by simp,.inl ⟨_,_,rfl,nM a0,?_⟩⟩;have F:=HZ.out;have hD:=HD;have a6:(World.putObj _ D (.deferred none)).heap[w.heap.size+1]?=_:=(pk (by omega)).trans T3;have U:=T2.take (D:=D) (by omega) (.deferred none);refine⟨pV L.gP (q,eq.kids.length),?_,rfl,⟨L,rfl,j.il U⟩,.gX U,ig _⟩;simp[results,results249,asAddr,Result.andThen,go_sem,fW a6]
 case stopx=>
  rintro D c pre W HD ah ⟨rfl,u,o,i,Y,rfl,h3,h4,h5,T3⟩ hK;have R:pl0=Y:=by
   have⟨rest,hrest⟩:=ah;have b:=hpl0;unfold j4 at b;rw[gF V,<-hrest,F2 h4 h3]at b;simp only at b;rw[h5]at b;cases b;rfl
  subst R;gi_wp2;refine⟨by simp,.inl ⟨_,_,rfl,nM hK,?_⟩⟩;have F:=HZ.out;have hD:=HD;have a6:(World.putObj _ D (.deferred none)).heap[w.heap.size+1]?=_:=(pk (by omega)).trans T3;have U:=u.take (D:=D) (by omega) (.deferred none);refine⟨pV L.gP pl0,?_,rfl,⟨L,rfl,j.il U⟩,.gX U,ig _⟩;simp[results,results249,asAddr,Result.andThen,go_sem,fW a6]
section
variable {α β:Type} {E:Env} {f0:Nat->Nat} {n0:Nat} {w0:gv} {f:Nat->Nat} {σ:Ab} {w:gv}
theorem ja.O4 {k:Nat} {args:(Nat->Nat)->jM} {m:M α} {l:(Nat->Nat)->α->gO} (D:ja E k args m l) (H:At E f0 n0 w0 f σ w) {R:pG β} {K:α->M β} (i:R=(m>>=K) σ) (G:R≠ .stuck) {A:jM} (hA:args f=A) {Q:Ending->gv->Prop}
  (u:∀c p j d,R= .stop c p->kJ d j c p->Fr E.bs w0 d->Q (qB j) d)
  (s:∀a g b d,At E f0 n0 w0 g b d->RR σ.nodes.length f g->Fr E.bs w d->R=K a b->m σ= .ok a b->Q (iq (l g a)) d):Calls prog k A w Q:=by
 rw[M.gx]at i;have B:m σ≠ .stuck:=λe=>G (by grind);have h:=D f σ w H.rel B;rw[hA]at h;refine h.mono ?_;intro e d o;cases hr:m σ with
 |ok a b=>
  rw[hr]at o i;obtain⟨g,x,r,rfl,F,z⟩:=o;exact s a g b d (H.go F x r z) x z i hr
 |stop c p=>
  rw[hr]at o i;obtain⟨j,rfl,r,C⟩:=o;exact u c p j d i r (H.fr.trans C)
 |stuck=>exact absurd hr B
theorem j9.O4 {k:Nat} {args:(Nat->Nat)->jM} {m:M α} {i:(Nat->Nat)->α->gO} (D:j9 E k args m i) (H:At E f0 n0 w0 f σ w) {R:pG β} {K:α->M β} (g:R=(m>>=K) σ) (F:R≠ .stuck) {A:jM} (hA:args f=A) {Q:Ending->gv->Prop}
  (r:∀c p j d,R= .stop c p->kJ d j c p->Fr E.bs w0 d->Q (qB j) d)
  (o:∀a b d,At E f0 n0 w0 f b d->Fr E.bs w d->R=K a b->m σ= .ok a b->Q (iq (i f a)) d):Calls prog k A w Q:=by
 rw[M.gx]at g;have u:m σ≠ .stuck:=λe=>F (by grind);have h:=D f σ w H.rel u;rw[hA]at h;refine h.mono ?_;intro e d l;cases hr:m σ with
 |ok a b=>
  rw[hr]at l g;obtain⟨rfl,B,s,C⟩:=l;exact o a b d (H.to B C s) s g hr
 |stop c p=>
  rw[hr]at l g;obtain⟨j,rfl,x,z⟩:=l;exact r c p j d g x (H.fr.trans z)
 |stuck=>exact absurd hr u
def mE {k:Nat} {args:(Nat->Nat)->jM} {m:M α} {e:(Nat->Nat)->α->gO} (D:j9 E k args m e) (H:Hid (At E f0 n0 w0 f σ w)) {R:pG β} {K:α->M β} (r:Hid (R=(m>>=K) σ)) (s:Hid (R≠ .stuck)) {A:jM} (hA:args f=A) {Q:Ending->gv->Prop}
  (h:∀c p j b,Hid (R= .stop c p/\kJ b j c p/\Fr E.bs w0 b)->Q (qB j) b)
  (g:∀a d b,Hid (At E f0 n0 w0 f d b)->Hid (Fr E.bs w b)->Hid (R=K a d)->Hid (m σ= .ok a d)->Q (iq (e f a)) b):Calls prog k A w Q:=j9.O4 D H r s hA (λc p j b i l o=>h c p j b ⟨i,l,o⟩) g
end
def aam {σ:Ab} (h:RF E f σ w) (x y:jg) (a:rj x y σ≠ .stuck):
  Calls prog 258 #[jG E.bB 189,oV f x,oV f y] w λe b=>e=p8/\rj x y σ= .ok () {σ with act:=pM σ.act x y}/\RF E f {σ with act:=pM σ.act x y} b/\Fr E.bs w b:=by
 have:=aan E x y f σ w h a;unfold rj at this a|-
 by_cases c:(σ.gW x&&σ.gW y)=true
 .rw[gF c]at this|-;exact this.mono (λe b h=>⟨h.1,rfl,h.2.1,h.2.2.1⟩)
 .rw[gQ c]at a;exact absurd rfl a
theorem QP (xs:kQ) (x y:jg):(pM xs x y).length=xs.length:=by
 grind[pM]
theorem PR {j : Nat} {σ σ':Ab} (h:mj j σ= .ok () σ'):σ'.act=σ.act:=by
 unfold mj at h;rw[M.gx]at h;cases a:mW σ with
 |stuck=>grind
 |stop c p=>grind
 |ok pl σ1=>
  have e1:σ1=σ:=by
   unfold mW at a;cases hl:σ.last with
   |none=>grind
   |some i=>
    rw[hl]at a;have a:placeFor i σ= .ok pl σ1:=a;unfold placeFor at a;split at a
    .exact oF a
    .exact pt a
  rw[e1]at a;rw[a]at h;simp only at h;rw[M.gx]at h;cases h2:mO pl j σ with
  |stuck=>grind
  |stop c p=>grind
  |ok u σ2=>
   have e2:σ2.act=σ.act:=by
    unfold mO at h2;split at h2
    .split at h2
     .cases h2;rfl
     grind
    .cases h2
   rw[h2]at h;simp only at h;rw[M.gx]at h;cases h3:xk (some j) σ2 with
   |stuck=>grind
   |stop c p=>grind
   |ok u σ3=>
    rw[h3]at h;have d:σ3.act=σ2.act:=by
     unfold xk at h3;split at h3
     .cases h3
     .grind
    have:σ3=σ':=by
     have b:(pG.ok () σ3:pG Unit)= .ok () σ':=h;cases b;rfl
    grind
theorem rP (E:Env) (hF:lu E):ja E 171 (λ_=>#[Bp E]) lK uV:=by
 intro f σ w D HS;obtain⟨R,hR⟩:∃R,R=lK σ:=⟨_,rfl⟩;rw[<-hR]at HS|-;have H:=At.start D;have U:R=JC (σ.act.length - σ.Ay) σ.Ay σ:=hR;have s:=fU U;have C1:=D.aeT;have ae:=D.lt;have am:σ.act.length<=4096:=by have⟨L,_,hr⟩:=D;exact hr.Ey
 have af:σ.Ay<=σ.act.length:=by
  have:∀C:kQ,σ.tY C<=C.length:=by
   intro C
   induction C with
   |nil=>simp[Ab.tY]
   |cons x C ih=>
    show(if σ.SK x then C.length+1 else σ.tY C)<=C.length+1;split<;>omega
  have:=this σ.act.reverse
  rwa [List.length_reverse]at this
 clear hR U;go_enter func171,ntmps171
 go_wp21
 refine C1.mono ?_;rintro e w ⟨rfl,rfl⟩
 go_wp21
 rename_i K F;have N:∀(u8 u9 Z a0 a1 a2 a3 a4 a5 a6 a7 a8 a9 aa ab:gO),K {tmps:=#[Bp E,undef,gn σ.Ay,undef,Bp E,gJ E.bB,jG E.bB 189,gn σ.act.length,u8,u9,Z,a0,a1,a2,a3,a4,a5,a6,a7,a8,a9,aa,ab,undef,undef,undef,undef,undef,undef,undef,undef,undef,undef,undef,undef,undef,undef,undef,undef,undef,undef,undef,undef,undef,undef,undef,undef,undef,undef],defers:=[]} w:=by
  intro u8 u9 Z a0 a1 a2 a3 a4 a5 a6 a7 a8 a9 aa ab;refine F _ _ ?_;have al:=af;clear F C1
  go_wp21
  go_loopw [2,3] (λv v3 wr=>∃(k n:Nat) (g:Nat->Nat) (h:Ab),v=gn n/\n+k=σ.act.length/\At E f σ.nodes.length w g h wr/\R=JC k n h/\h.act.length=σ.act.length) (λv _ _=>σ.act.length - (intOf v).toNat)
  case atStart=>exact⟨σ.act.length - σ.Ay,σ.Ay,f,σ,rfl,by omega,H,s,rfl⟩
  case round=>
   obtain⟨k,n,g,h,rfl,an,H,T,O⟩:=hrel;have s:=fU T;have A:=H.rel.aeT;rw[O]at A;have ae:=H.lt;clear T;cases k with
   |zero=>
    have e0:(n:Int)=(σ.act.length:Int):=by omega
    have G:((n:Int) < (σ.act.length:Int))=False:=by simp;omega
    go_wp21
    refine A.mono ?_;rintro e w' ⟨rfl,rfl⟩;go_wp2;go_end0;exact gu s H rfl
   |succ k=>
    have G:(n:Int) < (σ.act.length:Int):=by omega
    have o:∃a,iB h.act (n:Int)=some a:=by
     cases hg:iB h.act (n:Int)with
     |some i=>simp
     |none=>
      exfalso;apply HS;rw[s.out];unfold JC;rw[M.gx];unfold FH;rw[hg]
    have⟨a,o⟩:=o;have r:=H.rel.acw (n:Int);have l:=H.rel.atA (n:Int);rw[o]at l r;have ad:=fU (Ab.lO r);replace s:Hid (R=(kR a>>=λj=>(do
      mj j
      qK a
      JC k (n+1):M Unit)) h):=by
     refine fU (s.trans ?_);show(FH n>>=_) h=_;rw[M.gx];unfold FH;rw[o]
    clear o r
    go_wp21
    refine A.mono ?_;rintro e wr ⟨rfl,rfl⟩
    go_wp21
    refine l.mono ?_;rintro e wr ⟨rfl,rfl⟩;rw[show oV g (some a)=gJ (g a)from rfl];clear l A
    go_wp21
    refine ja.O4 (LH E a) H s HS rfl ?_ ?_
    .intro c p j ws H1 H2 H3;go_wp2;exact⟨rfl,pd H1 H2 H3⟩
    rintro j g2 ai w2 I h0 h2 S z;have HX:=fU h0;have HJ:Hid (ai.act=h.act):=by
     unfold kR at z;split at z
     .split at z
      .cases z
      .cases z;rfl
     .cases z
    clear z;replace H:=I;replace s:=fU S;clear I h0 h2 S
    go_wp21
    refine j9.O4 (DK E hF j) H s HS rfl ?_ ?_
    .intro c p j ws H1 H2 H3;go_wp2;exact⟨rfl,pd H1 H2 H3⟩
    rintro⟨⟩ u w3 I h2 S z;have ac:Hid (u.act=h.act):=fU ((PR z).trans HJ);clear z;replace H:=I;replace s:=fU S;have aj:=I.lt;clear I h2 S;have X:rj (some a) u.last u≠ .stuck:=by
     intro ah;apply HS;rw[s.out,M.gx];unfold qK;rw[ah]
    have CL:=(H.k0 ((Kept.refl _ w3).drew)).rel.P6;have J:=aam (H.k0 ((Kept.refl _ w3).drew)).rel (some a) u.last X;rw[show oV g2 (some a)=gJ (g a)from by show gJ (g2 a)=_;rw[HX.out a ad.out]]at J;clear X
    go_wp21
    go_region_with (first
     |(go_at_call 160;refine CL.mono ?_;rintro e w4 ⟨rfl,rfl⟩)
     |(go_at_call 258;refine J.mono ?_;rintro e w5 ⟨rfl,q1,q2,q3⟩;have HZ:=fU ((H.k0 ((Kept.refl _ w3).drew)).to q2 (si _ _ rfl) q3);have HQ:=fU q1;clear q1 q2 q3))
    all_goals (try (go_wp21))
    all_goals refine⟨⟨k,n+1,g2,_,by simp,by omega,HZ,?_,?_⟩,by simp[intOf];omega⟩
    .rw[s.out,M.gx];unfold qK;rw[HQ.out]
    .show(pM u.act (some a) u.last).length=σ.act.length;rw[QP,ac.out];exact O
 clear F H s C1
 go_loopw [2] (λv wr=>∃k:Nat,k<=σ.act.length/\v=gn k/\σ.tY (σ.act.take k).reverse=σ.Ay/\wr=w) (λv _=>(intOf v).toNat)
 case atStart=>grind[Ab.Ay]
 case round=>
  obtain⟨k,hk,rfl,d,rfl⟩:=hrel;cases k with
  |zero=>
   have hz:σ.Ay=0:=by rw[<-d];rfl
   have HZ:=fU hz;clear hz d;go_wp2;have:=N;rw[HZ.out]at this
   simp_all
  |succ k=>
   have V:k < σ.act.length:=by omega
   have e1:σ.act.take (k+1)=σ.act.take k++[σ.act[k]]:=by rw[Ks,ry V];rfl
   rw[e1,WM]at d;have hg:iB σ.act ((k:Int))=σ.act[k]:=by
    unfold iB;rw[gF (by omega)];simp[List.getD,V]
   have l:=D.atA (k:Int);have r:=D.acw (k:Int);rw[hg]at l r;have B:=aa6 D _ r;have e2:((k+1:Nat):Int) - 1=(k:Int):=by omega
   have ak:(0:Int) < ((k+1:Nat):Int):=by omega
   have Y:(σ.act.take k).length=k:=by simp;omega
   rw[Y]at d;clear e1 hg r Y;generalize hM:σ.SK σ.act[k]=b at B d;clear hM;generalize oV f σ.act[k]=vv at l B;cases b with
   |true=>
    go_wp21
    refine l.mono ?_;rintro e w ⟨rfl,rfl⟩
    go_wp21
    refine B.mono ?_;rintro e w ⟨rfl,rfl⟩
    go_wp21
    have:=N;have ag:k+1=σ.Ay:=by simpa using d
    rw[<-ag]at this;exact this _ _ _ _ _ _ _ _ _ _ _ _ _ _ _
   |false=>
    go_wp21
    refine l.mono ?_;rintro e w ⟨rfl,rfl⟩
    go_wp21
    refine B.mono ?_;rintro e w ⟨rfl,rfl⟩
    go_wp21
    exact⟨⟨k,by omega,rfl,by simpa using d,trivial⟩,by simp[intOf]⟩
theorem tG (p q:gy->Bool) (σ:Ab):nj p q σ= .ok (σ.inScope p q) (σ.close p q):=by
 grind[nj,Ab.inScope,Ab.close]
def Dr {σ:Ab} (h:RF E f σ w) {d g : Nat} {a b : jM} (i:Ask E.bm (.func (.func d) #[] a) p w) (j:Ask E.bm (.func (.func g) #[] b) q w):
  Calls prog 209 #[Bp E,.func (.func d) #[] a,.func (.func g) #[] b] w λe c=>e=iq (.bool (σ.inScope p q))/\RF E f (σ.close p q) c/\Fr E.bs w c:=by
 have:=yK h i j;rw[tG]at this;exact this.mono (λe c h=>⟨h.1,h.2.1,h.2.2.1⟩)
theorem xZ (σ:Ab) (p q:gy->Bool):σ.nodes.length<=(σ.close p q).nodes.length:=by
 unfold Ab.close;grind[Ab.Fq]
def Eg (E:Env) (t:gM) {σ:Ab} (h:RF E f σ w):∃a b c n d,∀w,Calls prog 158 #[iF E t] w λe g=>e=iq (.agg #[gn a,gn b,gH t.name,.slice c n d])/\Kept [] w g:=by
 have⟨c,n,d,htv⟩:=h.tv;have C:=λw=>yx E t w ⟨c,n,d,htv⟩;have⟨a,b,k,gL⟩:=t;cases k<;>simp only[zl,gM.name,htv]at C|-
 case start s=>exact⟨_,_,_,_,_,C⟩
 case stop s=>exact⟨_,_,_,_,_,C⟩
 all_goals exact⟨_,_,_,_,_,C⟩
def Nj (E:Env) (t:gM):ja E 193 (λ_=>#[Bp E,iF E t]) (tK) uV:=by
 refine dI λf σ w R g HS H=>?_;unfold tK at g;go_enter func193,ntmps193;have⟨kb,lbb,cb,HQ⟩:=H.rel.bounds;have j:=H.lt;have i:=cb;have r:=(Kept.refl [] w).drew;replace g:Hid (R= .ok () (σ.close (ij [mf,mg]) (iP))):=by
  have:=g;rw[M.gx,tG]at this;exact fU this
 go_wp21
 go_region_with (first
   |(go_at_call 261;refine(F5 E _).mono ?_;rintro e x ⟨A,u,rfl,c,d⟩;have b:=r.trans d;have z:x.cell? ⟨E.bB,186,none⟩=some (.func (.func kb) #[] lbb):=(b.cell (p:=⟨E.bB,186,none⟩) j (by simp)).trans i;have h:=fU c;have a:=fU b;clear c d b)
   |(go_at_call 209;refine(Dr (p:=ij [mf,mg]) (q:=iP) (H.k0 a).rel h (HQ.k0 a)).mono ?_;rintro e B ⟨rfl,l,o⟩;have s:=fU ((H.k0 a).to l (xZ _ _ _) o);clear l o))
 all_goals (try (go_wp21))
 all_goals go_wp2
 all_goals go_end0
 all_goals exact gu g s rfl
def IC (E:Env) (s:gy):ja E 200 (λ_=>#[Bp E,gH s]) (uJ s) uV:=by
 refine dI λf σ w R g HS H=>?_;unfold uJ at g;go_enter func200,ntmps200;have⟨kb,lbb,cb,HQ⟩:=H.rel.Hg;have j:=H.lt;have i:=cb;have r:=(Kept.refl [] w).drew;replace g:Hid (R= .ok () (σ.close (ij [s]) (lc))):=by
  have:=g;rw[M.gx,tG]at this;exact fU this
 go_wp21
 go_region_with (first
   |(go_at_call 206;refine(np E [s] w.drew (by simp)).mono ?_;rintro e z ⟨B,x,rfl,c,d⟩;have b:=r.trans d;have A:z.cell? ⟨E.bB,184,none⟩=some (.func (.func kb) #[] lbb):=(b.cell (p:=⟨E.bB,184,none⟩) j (by simp)).trans i;have h:=fU c;have a:=fU b;clear c d b)
   |(go_at_call 209;refine(Dr (p:=ij [s]) (q:=lc) (H.k0 a).rel h (HQ.k0 a)).mono ?_;rintro e C ⟨rfl,l,o⟩;have u:=fU ((H.k0 a).to l (xZ _ _ _) o);clear l o))
 all_goals (try (go_wp21))
 all_goals go_wp2
 all_goals go_end0
 all_goals exact gu g u rfl
def VP (E:Env) (t:gM):ja E 190 (λ_=>#[Bp E,iF E t]) (yP) uV:=by
 refine dI λf σ w R b HS H=>?_;unfold yP at b;go_enter func190,ntmps190;have⟨kb,lbb,cb,HQ⟩:=H.rel.bounds;have o:=H.lt;have j:=cb;have s:=(Kept.refl [] w).drew
 go_wp21
 go_cut [11]from 4 to 10 (λr wc=>r= .bool (σ.inScope (ij [gA]) (iP))/\At E f σ.nodes.length w f (σ) wc)
 case first=>
  go_region_with (first
   |(go_at_call 206;refine(np E [gA] w.drew (by simp)).mono ?_;rintro e A ⟨F,z,rfl,d,g⟩;have c:=s.trans g;have B:A.cell? ⟨E.bB,186,none⟩=some (.func (.func kb) #[] lbb):=(c.cell (p:=⟨E.bB,186,none⟩) o (by simp)).trans j;have i:=fU d;have a:=fU c;clear d g c)
   |(go_at_call 219;refine(vJ (H.k0 a).rel (ij [gA]) (iP) _ _ i (HQ.k0 a)).mono ?_;rintro e G ⟨rfl,h⟩;have u:=fU ((H.k0 a).k0 h);clear h))
  all_goals (try (go_wp21))
  all_goals (go_meet;exact⟨rfl,u⟩)
 case rest=>
  obtain⟨rfl,l⟩:=hcut;replace H:=l;cases hc:σ.inScope (ij [gA]) iP with
  |true=>
   replace b:Hid (R= .ok () {σ with mode:=16}):=by
    have:=b;rw[gF hc]at this;exact fU this
   have C:=H.rJ;have D:=H.free 192;have x:=H.lt;replace H:=H.jc 16;go_wp2;go_end0;exact gu b H rfl
  |false=>
   replace b:Hid (R= .ok () σ):=by
    have:=b;rw[gQ (by simp[hc])]at this;exact fU this
   go_wp2;go_end0;exact gu b H rfl
def VT (E:Env) (rec:Nat->gM->M Unit) (hA:∀(m:Nat) (t:gM),jd E t->ja E 153 (λ_=>#[Bp E,gn m,iF E t]) (rec m t) uV) (t:gM) (z:jd E t):ja E 191 (λ_=>#[Bp E,iF E t]) (yR rec t) uV:=by
 refine dI λf σ w R a HS H=>?_;unfold yR at a;go_enter func191,ntmps191;have⟨kb,lbb,cb,HQ⟩:=H.rel.bounds;have o:=H.lt;have j:=cb;have s:=(Kept.refl [] w).drew
 go_wp21
 go_cut [11]from 4 to 10 (λr wc=>r= .bool (σ.inScope (ij [gA]) (iP))/\At E f σ.nodes.length w f (σ) wc)
 case first=>
  go_region_with (first
   |(go_at_call 206;refine(np E [gA] w.drew (by simp)).mono ?_;rintro e B ⟨J,A,rfl,d,g⟩;have c:=s.trans g;have F:B.cell? ⟨E.bB,186,none⟩=some (.func (.func kb) #[] lbb):=(c.cell (p:=⟨E.bB,186,none⟩) o (by simp)).trans j;have i:=fU d;have b:=fU c;clear d g c)
   |(go_at_call 219;refine(vJ (H.k0 b).rel (ij [gA]) (iP) _ _ i (HQ.k0 b)).mono ?_;rintro e K ⟨rfl,h⟩;have u:=fU ((H.k0 b).k0 h);clear h))
  all_goals (try (go_wp21))
  all_goals (go_meet;exact⟨rfl,u⟩)
 case rest=>
  obtain⟨rfl,l⟩:=hcut;replace H:=l;cases hc:σ.inScope (ij [gA]) iP with
  |true=>
   replace a:Hid (R=(j1 rec t>>=λ_=>(Pure.pure ():M Unit)) {σ with mode:=16}):=by
    have:=a;rw[gF hc]at this;exact fU this
   have G:=H.rJ;have I:=H.free 192;have x:=H.lt;replace H:=H.jc 16
   go_wp21
   refine dC (tk E rec hA t z) H a HS rfl lT ?_;rintro(_) f σ w H D C a;go_wp2;go_end0;exact gu a H rfl
  |false=>
   replace a:Hid (R= .ok () σ):=by
    have:=a;rw[gQ (by simp[hc])]at this;exact fU this
   go_wp2;go_end0;exact gu a H rfl
def rh (E:Env) (hF:lu E) (t:gM) (d:jd E t):ja E 104 (λ_=>#[Bp E,iF E t]) (lz t) uV:=by
 refine dI λf σ w R a HS H=>?_;unfold lz at a;go_enter func104,ntmps104
 go_wp21
 refine dC (rP E hF) H a HS rfl lT ?_;rintro(_) f σ w H c b a
 go_wp21
 refine dC (kZ E hF t d) H a HS rfl lT ?_;rintro(_) f σ w H c b a;go_wp2;go_end0;exact gu a H rfl
def Rb (E:Env) (hF:lu E) (t:gM) (d:jd E t):ja E 185 (λ_=>#[Bp E,iF E t]) (sI t) uV:=by
 refine dI λf σ w R a HS H=>?_;unfold sI at a;go_enter func185,ntmps185
 go_wp21
 refine dC (rP E hF) H a HS rfl lT ?_;rintro(_) f σ w H c b a
 go_wp21
 refine dC (vz E hF t d) H a HS rfl lT ?_;rintro(_) f σ w H c b a;go_wp2;go_end0;exact gu a H rfl
def M7 (E:Env) (hF:lu E) (t:gM):ja E 102 (λ_=>#[Bp E,iF E t]) (nG t) uV:=by
 refine dI λf σ w R a HS H=>?_;unfold nG at a;go_enter func102,ntmps102;have C:=I8 E t w;cases hn:sW t.chars with
 |true=>
  rw[hn]at C a;replace a:Hid (R= .ok () σ):=a
  go_wp21
  refine C.mono ?_;rintro e w ⟨rfl,b⟩;replace H:=H.k0 b;go_wp2;go_end0;exact gu a H rfl
 |false=>
  rw[hn]at C a;replace a:Hid (R=(lK>>=λ_=>(do j7 t;return ():M Unit)) σ):=a
  go_wp21
  refine C.mono ?_;rintro e w ⟨rfl,b⟩;replace H:=H.k0 b
  go_wp21
  refine dC (rP E hF) H a HS rfl lT ?_;rintro(_) f σ w H d c a
  go_wp21
  refine dC (vy E hF t) H a HS rfl lT ?_;rintro(_) f σ w H d c a;go_wp2;go_end0;exact gu a H rfl
def Ih (E:Env) (hF:lu E) (t:gM):ja E 128 (λ_=>#[Bp E,iF E t]) (pr t) uV:=by
 refine dI λf σ w R a HS H=>?_;unfold pr at a;go_enter func128,ntmps128;have C:=I8 E t w;cases hn:sW t.chars with
 |true=>
  rw[hn]at C a;replace a:Hid (R= .ok () σ):=a
  go_wp21
  refine C.mono ?_;rintro e w ⟨rfl,b⟩;replace H:=H.k0 b;go_wp2;go_end0;exact gu a H rfl
 |false=>
  rw[hn]at C a;replace a:Hid (R=(j7 t>>=λ_=>(pure ():M Unit)) σ):=a
  go_wp21
  refine C.mono ?_;rintro e w ⟨rfl,b⟩;replace H:=H.k0 b
  go_wp21
  refine dC (vy E hF t) H a HS rfl lT ?_;rintro(_) f σ w H d c a;go_wp2;go_end0;exact gu a H rfl
def JV (E:Env) (hF:lu E) (t:gM) (h:jd E t):ja E 176 (λ_=>#[Bp E,iF E t]) (oo t) uV:=by
 refine dI λf σ w R a HS H=>?_;unfold oo at a;go_enter func176,ntmps176
 go_wp21
 refine Aq (λg=>xY H.rel g) H a HS lT ?_;rintro(_) σ w H d a
 go_wp21
 refine(F5 E _).mono ?_;rintro e w ⟨l,i,rfl,b,c⟩;replace H:=H.k0 c
 go_wp21
 refine Aq (λ_=>vD H.rel b) H a HS lT ?_;rintro(_) σ w H d a
 go_wp21
 refine dC (kZ E hF t h) H a HS rfl lT ?_;rintro(_) f σ w H j d a;go_wp2;go_end0;exact gu a H rfl
def WW (E:Env) (hF:lu E) (t:gM) (d:jd E t):ja E 177 (λ_=>#[Bp E,iF E t]) (xn t) uV:=by
 refine dI λf σ w R a HS H=>?_;unfold xn at a;go_enter func177,ntmps177
 go_wp21
 refine Aq (λc=>xY H.rel c) H a HS lT ?_;rintro(_) σ w H b a
 go_wp21
 refine dC (vz E hF t d) H a HS rfl lT ?_;rintro(_) f σ w H e b a;go_wp2;go_end0;exact gu a H rfl
def Lu (E:Env) (hF:lu E) (t:gM) (g:jd E t):ja E 183 (λ_=>#[Bp E,iF E t]) (pj t) uV:=by
 refine dI λf σ w R a HS H=>?_;unfold pj at a;go_enter func183,ntmps183
 go_wp21
 refine(np E [gN] _ (by decide)).mono ?_;rintro e w ⟨j,h,rfl,b,c⟩;replace H:=H.k0 c
 go_wp21
 refine Aq (λ_=>vD H.rel b) H a HS lT ?_;rintro(_) σ w H d a
 go_wp21
 refine dC (rh E hF t g) H a HS rfl lT ?_;rintro(_) f σ w H i d a;go_wp2;go_end0;exact gu a H rfl
def zS (E:Env) (hF:lu E) (t:gM) (g:jd E t):ja E 129 (λ_=>#[Bp E,iF E t]) (j5 t) uV:=by
 refine dI λf σ w R a HS H=>?_;unfold j5 at a;go_enter func129,ntmps129
 go_wp21
 refine(tW E _).mono ?_;rintro e w ⟨j,h,rfl,b,c⟩;replace H:=H.k0 c
 go_wp21
 refine Aq (λ_=>vD H.rel b) H a HS lT ?_;rintro(_) σ w H d a
 go_wp21
 refine dC (kZ E hF t g) H a HS rfl lT ?_;rintro(_) f σ w H i d a;go_wp2;go_end0;exact gu a H rfl
def sH (E:Env) (hF:lu E) (t:gM) (i:jd E t):ja E 130 (λ_=>#[Bp E,iF E t]) (jv t) uV:=by
 refine dI λf σ w R a HS H=>?_;unfold jv at a;go_enter func130,ntmps130
 go_wp21
 refine(tW E _).mono ?_;rintro e w ⟨r,j,rfl,b,d⟩;replace H:=H.k0 d
 go_wp21
 refine Aq (λ_=>vD H.rel b) H a HS lT ?_;rintro(_) σ w H h a
 go_wp21
 refine(qV E _).mono ?_;rintro e w ⟨s,l,rfl,c,g⟩;replace H:=H.k0 g
 go_wp21
 refine Aq (λ_=>vD H.rel c) H a HS lT ?_;rintro(_) σ w H h a
 go_wp21
 refine dC (kZ E hF t i) H a HS rfl lT ?_;rintro(_) f σ w H o h a;go_wp2;go_end0;exact gu a H rfl
def Ec (E:Env) (hF:lu E) (t:gM) (c:jd E t):ja E 131 (λ_=>#[Bp E,iF E t]) (lL t) uV:=by
 refine dI λf σ w R a HS H=>?_;unfold lL at a;go_enter func131,ntmps131
 go_wp21
 refine dC (sH E hF t c) H a HS rfl lT ?_;rintro(_) f σ w H d b a
 go_wp21
 refine mC (Cm E) H a HS rfl lT ?_;rintro(_) σ w H b a;go_wp2;go_end0;exact gu a H rfl
def Bk (E:Env) (t:gM):ja E 134 (λ_=>#[Bp E,iF E t]) (mN) uV:=by
 refine dI λf σ w R a HS H=>?_;unfold mN at a;go_enter func134,ntmps134
 go_wp21
 refine(tW E _).mono ?_;rintro e w ⟨h,d,rfl,b,c⟩;replace H:=H.k0 c
 go_wp21
 refine Aq (λ_=>vD H.rel b) H a HS lT ?_;rintro(_) σ w H g a;go_wp2;go_end0;exact gu a H rfl
def Lt (E:Env) (hF:lu E) (t:gM) (c:jd E t):ja E 189 (λ_=>#[Bp E,iF E t]) (pi t) uV:=by
 refine dI λf σ w R a HS H=>?_;unfold pi at a;go_enter func189,ntmps189
 go_wp21
 refine dC (rh E hF t c) H a HS rfl lT ?_;rintro(_) f σ w H d b a
 go_wp21
 refine mC (zY E) H a HS rfl lT ?_;rintro(_) σ w H b a;go_wp2;go_end0;exact gu a H rfl
def JU (E:Env) (hF:lu E) (t:gM) (g:jd E t):ja E 108 (λ_=>#[Bp E,iF E t]) (pB t) uV:=by
 refine dI λf σ w R a HS H=>?_;unfold pB at a;go_enter func108,ntmps108
 go_wp21
 refine(MC E _).mono ?_;rintro e w ⟨r,h,rfl,b,c⟩;replace H:=H.k0 c
 go_wp21
 refine Aq (λ_=>Ez H.rel b) H a HS lT ?_;rintro(_) σ w H d a
 go_wp21
 refine mC (zY E) H a HS rfl lT ?_;rintro(_) σ w H d a
 go_wp21
 refine dC (kZ E hF t g) H a HS rfl lT ?_;rintro(_) f σ w H i d a;have j:=H.rJ;have l:=H.free 192;have o:=H.lt;replace H:=H.jc 9;go_wp2;go_end0;exact gu a H rfl
def VU (E:Env) (t:gM):ja E 194 (λ_=>#[Bp E,iF E t]) (A0) uV:=by
 refine dI λf σ w R c HS H=>?_;unfold A0 at c;go_enter func194,ntmps194
 go_wp21
 refine(np E [kM] _ (by decide)).mono ?_;rintro e w ⟨l,h,rfl,a,g⟩;replace H:=H.k0 g
 go_wp21
 refine(Lb H.rel).mono ?_;rintro e w ⟨o,i,rfl,d,b⟩;replace H:=H.k0 b;replace a:=a.k0 b
 go_wp21
 refine Aq (λ_=>yK H.rel a d) H c HS lT ?_;rintro(_) σ w H j c;go_wp2;go_end0;exact gu c H rfl
def Sn (E:Env) (hF:lu E) (t:gM):ja E 196 (λ_=>#[Bp E,iF E t]) (uI) uV:=by
 refine dI λf σ w R a HS H=>?_;unfold uI at a;go_enter func196,ntmps196
 go_wp21
 refine dC (rP E hF) H a HS rfl lT ?_;rintro(_) f σ w H c b a
 go_wp21
 refine dC (uu E hF j3) H a HS rfl lT ?_;rintro(_) f σ w H c b a
 go_wp21
 refine mC (Cm E) H a HS rfl lT ?_;rintro(_) σ w H b a;go_wp2;go_end0;exact gu a H rfl
def Sl (E:Env) (t:gM):ja E 192 (λ_=>#[Bp E,iF E t]) (x9 t) uV:=by
 refine dI λf σ w R l HS H=>?_;unfold x9 at l;go_enter func192,ntmps192;have⟨kb,lbb,cb,HQ⟩:=H.rel.bounds;have c:=H.lt;have d:=cb;have g:=(Kept.refl [] w).drew;have⟨ta,tb,tao,tn,tcp,HTG⟩:=Eg E t H.rel;have z:=λw=>AG ta tb t.name tao tn tcp w;replace l:Hid (R= .ok () (σ.close (ij [t.name]) (iP))):=by
  have:=l;rw[M.gx,tG]at this;exact fU this
 go_wp21
 go_region_with (first
   |(go_at_call 158;refine(HTG _).mono ?_;rintro e r ⟨rfl,j⟩;have g:=fU (g.trans j);have F:r.cell? ⟨E.bB,186,none⟩=some (.func (.func kb) #[] lbb):=(g.cell (p:=⟨E.bB,186,none⟩) c (by simp)).trans d;have A:E.bB < r.heap.size:=lV c g.size;clear j)
   |(go_at_call 206;refine(np E [t.name] r (by simp)).mono ?_;rintro e C ⟨G,B,rfl,h,i⟩;have b:=g.trans i;have D:C.cell? ⟨E.bB,186,none⟩=some (.func (.func kb) #[] lbb):=(b.cell (p:=⟨E.bB,186,none⟩) c (by simp)).trans d;have o:=fU h;have a:=fU b;clear h i b)
   |(go_at_call 209;refine(Dr (p:=ij [t.name]) (q:=iP) (H.k0 a).rel o (HQ.k0 a)).mono ?_;rintro e I ⟨rfl,s,u⟩;have x:=fU ((H.k0 a).to s (xZ _ _ _) u);clear s u))
 all_goals (try (go_wp21))
 all_goals go_wp2
 all_goals go_end0
 all_goals exact gu l x rfl
def DE (E:Env) (rec:Nat->gM->M Unit) (hA:∀(m:Nat) (t:gM),jd E t->ja E 153 (λ_=>#[Bp E,gn m,iF E t]) (rec m t) uV) (t:gM) (e:jd E t):ja E 117 (λ_=>#[Bp E,iF E t]) (sV rec t) uV:=by
 refine dI λf σ w R a HS H=>?_;unfold sV at a;go_enter func117,ntmps117;have b:=H.X1;have c:=H.free 195;have d:=H.lt;replace H:=H.yo true
 go_wp21
 refine dC (hA 6 t e) H a HS rfl lT ?_;rintro(_) f σ w H h g a;have b:=H.X1;have c:=H.free 195;have d:=H.lt;replace H:=H.yo false;go_wp2;go_end0;exact gu a H rfl
def KJ (E:Env) (rec:Nat->gM->M Unit) (hA:∀(m:Nat) (t:gM),jd E t->ja E 153 (λ_=>#[Bp E,gn m,iF E t]) (rec m t) uV) (t:gM) (d:jd E t):ja E 107 (λ_=>#[Bp E,iF E t]) (o9 rec t) uV:=by
 refine dI λf σ w R a HS H=>?_;unfold o9 at a;go_enter func107,ntmps107
 go_wp21
 refine(BL E _).mono ?_;rintro e w ⟨u,i,rfl,b,c⟩;replace H:=H.k0 c;have C:=AX H.rel b;cases hc:σ.current AE with
 |true=>
  rw[hc]at C;replace a:Hid (R=(j1 rec t>>=λ_=>(pure ():M Unit)) {σ with kept:=σ.mode,mode:=8}):=by
   have:=a;rw[gF hc]at this;exact fU this
  go_wp21
  refine C.mono ?_;rintro e w ⟨rfl,rfl⟩;have j:=H.rJ;have o:=H.free 192;have l:=H.R6;have r:=H.free 193;have s:=H.lt;replace H:=(H.yq σ.mode).jc 8
  go_wp21
  refine dC (tk E rec hA t d) H a HS rfl lT ?_;rintro(_) f σ w H h g a;go_wp2;go_end0;exact gu a H rfl
 |false=>
  rw[hc]at C;replace a:Hid (R=(sV rec t>>=λ_=>(pure ():M Unit)) σ):=by
   have:=a;rw[gQ (by simp[hc])]at this;exact fU this
  go_wp21
  refine C.mono ?_;rintro e w ⟨rfl,rfl⟩
  go_wp21
  refine dC (DE E rec hA t d) H a HS rfl lT ?_;rintro(_) f σ w H h g a;go_wp2;go_end0;exact gu a H rfl
def EG {σ:Ab} (h:RF E f σ w) {ks : List gy} (m:Nat) (l:Ask E.bm (.func (.func k) #[] lb) (ij ks) w) (j:(rU ks m) σ≠ .stuck):Calls prog 217 #[Bp E,.func (.func k) #[] lb,gn m] w (j8 E f σ.nodes.length w ((rU ks m) σ) bV):=by
 have g:=l;obtain⟨R,d⟩:∃R,R=(rU ks m) σ:=⟨_,rfl⟩;rw[<-d]at j|-;unfold rU at d;have HS:=j;have H:=At.start h;have a:=fU d;clear d;go_enter func217,ntmps217
 go_wp21
 refine(wG E _).mono ?_;rintro e w ⟨z,o,rfl,i,c⟩;replace H:=H.k0 c;replace g:=g.k0 c
 go_wp21
 refine Aq (λ_=>yK H.rel g i) H a HS mT ?_;rintro(b) σ w H r a;cases b with
 |false=>
  replace a:Hid (R= .ok false σ):=a;go_wp2;go_ret;exact jZ a H rfl
 |true=>
  replace a:Hid (R= .ok true {σ with mode:=m}):=a;have s:=H.rJ;have u:=H.free 192;have x:=H.lt;replace H:=H.jc m;go_wp2;go_ret;exact jZ a H rfl
def zB {σ:Ab} (h:RF E f σ w) {ks : List gy} (m:Nat) (i:Ask E.bm (.func (.func k) #[] lb) (ij ks) w) (d:(lj ks m) σ≠ .stuck):Calls prog 216 #[Bp E,.func (.func k) #[] lb,gn m] w (j8 E f σ.nodes.length w ((lj ks m) σ) bV):=by
 have e:=i;obtain⟨R,c⟩:∃R,R=(lj ks m) σ:=⟨_,rfl⟩;rw[<-c]at d|-;unfold lj at c;have HS:=d;have H:=At.start h;have a:=fU c;clear c;go_enter func216,ntmps216
 go_wp21
 refine Aq (λj=>EG H.rel m e j) H a HS mT ?_;rintro(b) σ w H g a;cases b with
 |false=>
  replace a:Hid (R= .ok false σ):=a;go_wp2;go_ret;exact jZ a H rfl
 |true=>
  replace a:Hid (R=(zo>>=λ_=>(pure true:M Bool)) σ):=a
  go_wp21
  refine mC (Rt E) H a HS rfl mT ?_;rintro(_) σ w H g a;go_wp2;go_ret;exact jZ a H rfl
def Sv (E:Env):j9 E 113 (λ_=>#[Bp E]) yc bV:=by
 refine mI λf σ w R a HS H=>?_;unfold yc at a;go_enter func113,ntmps113
 go_wp21
 refine(MC E _).mono ?_;rintro e w ⟨o,j,rfl,d,h⟩;replace H:=H.k0 h
 go_wp21
 refine(wG E _).mono ?_;rintro e w ⟨r,l,rfl,g,c⟩;replace H:=H.k0 c;replace d:=d.k0 c
 go_wp21
 refine Aq (λ_=>yK H.rel d g) H a HS mT ?_;rintro(b) σ w H i a;cases b with
 |false=>
  replace a:Hid (R= .ok false σ):=a;go_wp2;go_ret;exact jZ a H rfl
 |true=>
  replace a:Hid (R=(xF>>=λ_=>(pure true:M Bool)) σ):=a
  go_wp21
  refine Aq (λ_=>UF H.rel) H a HS mT ?_;rintro(_) σ w H i a;go_wp2;go_ret;exact jZ a H rfl
def Ni (E:Env):j9 E 120 (λ_=>#[Bp E]) tJ bV:=by
 refine mI λf σ w R a HS H=>?_;unfold tJ at a;go_enter func120,ntmps120;replace a:=fU (M.tail a)
 go_wp21
 refine(np E [gw] _ (by decide)).mono ?_;rintro e w ⟨j,h,rfl,c,d⟩;replace H:=H.k0 d
 go_wp21
 refine Aq (λg=>zB H.rel 7 c g) H a HS mT ?_;rintro(b) σ w H i a;go_wp2;go_ret;exact jZ a H rfl
def IF (E:Env):j9 E 123 (λ_=>#[Bp E]) qP bV:=by
 refine mI λf σ w R a HS H=>?_;unfold qP at a;go_enter func123,ntmps123;replace a:=fU (M.tail a)
 go_wp21
 refine(J5 E _).mono ?_;rintro e w ⟨j,h,rfl,c,d⟩;replace H:=H.k0 d
 go_wp21
 refine Aq (λg=>EG H.rel 7 c g) H a HS mT ?_;rintro(b) σ w H i a;go_wp2;go_ret;exact jZ a H rfl
def Yn (E:Env):j9 E 126 (λ_=>#[Bp E]) EH bV:=by
 refine mI λf σ w R a HS H=>?_;unfold EH at a;go_enter func126,ntmps126;replace a:=fU (M.tail a)
 go_wp21
 refine(UG E _).mono ?_;rintro e w ⟨j,h,rfl,c,d⟩;replace H:=H.k0 d
 go_wp21
 refine Aq (λg=>EG H.rel 11 c g) H a HS mT ?_;rintro(b) σ w H i a;go_wp2;go_ret;exact jZ a H rfl
def VR (E:Env):j9 E 127 (λ_=>#[Bp E]) endCell bV:=by
 refine mI λf σ w R a HS H=>?_;unfold endCell at a;go_enter func127,ntmps127;replace a:=fU (M.tail a)
 go_wp21
 refine(VC E _).mono ?_;rintro e w ⟨j,h,rfl,c,d⟩;replace H:=H.k0 d
 go_wp21
 refine Aq (λg=>zB H.rel 12 c g) H a HS mT ?_;rintro(b) σ w H i a;go_wp2;go_ret;exact jZ a H rfl
def ED (E:Env):j9 E 121 (λ_=>#[Bp E]) mB bV:=by
 refine mI λf σ w R a HS H=>?_;unfold mB at a;go_enter func121,ntmps121
 go_wp21
 refine(np E [gh] _ (by decide)).mono ?_;rintro e w ⟨l,d,rfl,b,c⟩;replace H:=H.k0 c;have C:=AX H.rel b;cases hc:σ.current (ij [gh])with
 |true=>
  rw[hc]at C;replace a:Hid (R=(yl>>=λ_=>(do jO 7;return true:M Bool)) σ):=by
   have:=a;rw[gF hc]at this;exact fU this
  go_wp21
  refine C.mono ?_;rintro e w ⟨rfl,rfl⟩
  go_wp21
  refine mC (Cm E) H a HS rfl mT ?_;rintro(_) σ w H g a;have h:=H.rJ;have i:=H.free 192;have j:=H.lt;replace H:=H.jc 7;go_wp2;go_ret;exact jZ a H rfl
 |false=>
  rw[hc]at C;replace a:Hid (R= .ok false σ):=by
   have:=a;rw[gQ (by simp[hc])]at this;exact fU this
  go_wp21
  refine C.mono ?_;rintro e w ⟨rfl,rfl⟩;go_wp2;go_ret;exact jZ a H rfl
def RF.adx {σ:Ab} (h:RF E f σ w):σ.gW σ.form=true:=by have⟨L,_,hr⟩:=h;exact hr.wf.form
theorem RF.Jc {σ:Ab} (h:RF E f σ w):σ.gW σ.last=true:=by
 have⟨L,_,hr⟩:=h;unfold Ab.last;rcases wE σ.gz with a|⟨b,y,a⟩
 .rw[a];rfl
 .rw[a,vK];exact Ab.vA (hr.wf.gz y (by grind))
theorem abo (E:Env) (v1:gO) (p:gy->Bool) (w:gv) (b:Ask E.bm v1 p w):
  Calls prog 225 #[v1] w (xO E (λs=>!p s) w):=by
 refine(abm E.bm v1 p w b).mono ?_;rintro e d ⟨⟨v,rfl,a⟩,c⟩;have⟨k,lb,e,_,_⟩:=a.call
 grind
def Q5 (E:Env) (t:gM) (h:jd E t):ja E 178 (λ_=>#[Bp E,iF E t]) (ug t) uV:=by
 refine dI λf σ w R a HS H=>?_;unfold ug at a;go_enter func178,ntmps178;have b:=H.R5;have s:=H.lt;cases hf:σ.form with
 |some i=>
  rw[hf]at b a;replace a:Hid (R= .ok () σ):=a;rw[show oV f (some i)=gJ (f i)from rfl]at b;go_wp2;go_end0;exact gu a H rfl
 |none=>
  rw[hf]at b a;replace a:Hid (R=(mX t>>=λ_=>(do wH λσ=>{σ with form:=σ.last};return ():M Unit)) σ):=a;rw[show oV f none= .pointer none from rfl]at b
  go_wp21
  refine dC (vF E (iK E) t h) H a HS rfl lT ?_;rintro(_) f σ w H l j a;have c:=H.rel.Jc;have C:=H.rel.P6;have o:=H.R5;have r:=H.free 191;have g:=H.lt;have d:=H.uP σ.last c
  go_wp21
  refine C.mono ?_;rintro e w ⟨rfl,rfl⟩;replace H:=d;go_wp2;go_end0;exact gu a H rfl
def CG (E:Env) (t:gM) (z:jd E t):ja E 114 (λ_=>#[Bp E,iF E t]) (me t) uV:=by
 refine dI λf σ w R a HS H=>?_;unfold me at a;go_enter func114,ntmps114;have d:=H.R5;have I:=H.lt;cases hf:σ.form with
 |some i=>
  rw[hf]at d a;replace a:Hid (R= .ok () σ):=a;rw[show oV f (some i)=gJ (f i)from rfl]at d;go_wp2;go_end0;exact gu a H rfl
 |none=>
  rw[hf]at d a;replace a:Hid (R=(jt t>>=λ_=>(do let x <-yl;wH λσ=>{σ with form:=x};return ():M Unit)) σ):=a;rw[show oV f none= .pointer none from rfl]at d
  go_wp21
  refine dC (kZ E (iK E) t z) H a HS rfl lT ?_;rintro(_) f σ w H C B a;have e:=H.rel.Jc
  go_wp21
  refine j9.O4 (Cm E) H a HS rfl ?_ ?_
  .intro c p j J b o r;have l:=fU b;clear b;go_wp2;exact⟨rfl,pd l o r⟩
  rintro x g w b G s h;have A:g.gW x=true:=by
   unfold yl at h;cases h;exact e
  have D:=b.R5;have F:=b.free 191;have u:=b.lt;replace H:=b.uP x A;replace a:=s;clear b;go_wp2;go_end0;exact gu a H rfl
def Ok (E:Env) (t:gM) (e:jd E t):ja E 181 (λ_=>#[Bp E,iF E t]) (sx t) uV:=by
 refine dI λf σ w R a HS H=>?_;unfold sx at a;go_enter func181,ntmps181;have c:=H.X2;have d:=H.lt;cases hq:σ.jN with
 |true=>
  rw[hq]at c;replace a:Hid (R=(jt t>>=λ_=>(do jO 7;return ():M Unit)) σ):=by
   have:=a;rw[M.gx]at this;unfold yJ at this;rw[hq]at this;exact fU this
  go_wp21
  refine dC (kZ E (iK E) t e) H a HS rfl lT ?_;rintro(_) f σ w H g b a;have h:=H.rJ;have i:=H.free 192;have d:=H.lt;replace H:=H.jc 7;go_wp2;go_end0;exact gu a H rfl
 |false=>
  rw[hq]at c;replace a:Hid (R=(oC>>=λ_=>(do jt t;jO 7;return ():M Unit)) σ):=by
   have:=a;rw[M.gx]at this;unfold yJ at this;rw[hq]at this;exact fU this
  go_wp21
  refine Aq (λj=>xY H.rel j) H a HS lT ?_;rintro(_) σ w H b a
  go_wp21
  refine dC (kZ E (iK E) t e) H a HS rfl lT ?_;rintro(_) f σ w H g b a;have h:=H.rJ;have i:=H.free 192;have d:=H.lt;replace H:=H.jc 7;go_wp2;go_end0;exact gu a H rfl
def Lw (E:Env) (t:gM) (j:jd E t):ja E 184 (λ_=>#[Bp E,iF E t]) (qA t) uV:=by
 refine dI λf σ w R a HS H=>?_;unfold qA at a;go_enter func184,ntmps184
 go_wp21
 refine dC (rh E (iK E) t j) H a HS rfl lT ?_;rintro(_) f σ w H u s a;have i:=H.rJ;have x:=H.free 192;have z:=H.lt;have g:=H.jc 15;have h:=H.jc 14;replace a:Hid (R= .ok () {σ with mode:=if σ.mode=7\/σ.mode=9\/σ.mode=11\/σ.mode=12\/σ.mode=13 then 15 else 14}):=a;generalize c:σ.mode=b at i a;have e:=c;have d:=a
 by_cases c:b=7\/b=9\/b=11\/b=12\/b=13
 .rw[gF c]at d;replace a:=d;rcases c with rfl|rfl|rfl|rfl|rfl
  all_goals go_wp2
  all_goals go_end0
  all_goals exact gu a g rfl
 .rw[gQ c]at d;replace a:=d;have A:((b:Int)==7)=false:=by rw[Fy];omega
  have B:((b:Int)==9)=false:=by rw[Fy];omega
  have l:((b:Int)==11)=false:=by rw[Fy];omega
  have o:((b:Int)==12)=false:=by rw[Fy];omega
  have r:((b:Int)==13)=false:=by rw[Fy];omega
  go_wp2;go_end0;exact gu a h rfl
def ads (E:Env) (t:gM):ja E 195 (λ_=>#[Bp E,iF E t]) Pq uV:=by
 refine dI λf σ w R a HS H=>?_;unfold Pq at a;go_enter func195,ntmps195
 go_wp21
 refine(np E [nc] _ (by decide)).mono ?_;rintro e w ⟨s,l,rfl,c,h⟩;replace H:=H.k0 h
 go_wp21
 refine(zy H.rel).mono ?_;rintro e w ⟨u,o,rfl,d,b⟩;replace H:=H.k0 b;have C:=vJ H.rel _ _ _ _ (c.k0 b) d;cases hc:σ.inScope (ij [nc]) Do with
 |true=>
  rw[hc]at C;replace a:Hid (R=(oC>>=λ_=>(pure ():M Unit)) σ):=by
   have:=a;rw[gF hc]at this;exact fU this
  go_wp21
  refine C.mono ?_;rintro e w ⟨rfl,g⟩;replace H:=H.k0 g
  go_wp21
  refine Aq (λi=>xY H.rel i) H a HS lT ?_;rintro(_) σ w H j a;go_wp2;go_end0;exact gu a H rfl
 |false=>
  rw[hc]at C;replace a:Hid (R=(kq nc>>=λ_=>(do oC;return ():M Unit)) σ):=by
   have:=a;rw[gQ (by simp[hc])]at this;exact fU this
  go_wp21
  refine C.mono ?_;rintro e w ⟨rfl,g⟩;replace H:=H.k0 g
  go_wp21
  refine dC (uu E (iK E) nc) H a HS rfl lT ?_;rintro(_) f σ w H r j a
  go_wp21
  refine Aq (λi=>xY H.rel i) H a HS lT ?_;rintro(_) σ w H j a;go_wp2;go_end0;exact gu a H rfl
def Ps (E:Env):j9 E 132 (λ_=>#[Bp E]) vG bV:=by
 refine mI λf σ w R a HS H=>?_;unfold vG at a;go_enter func132,ntmps132
 go_wp21
 refine(np E [iX] _ (by decide)).mono ?_;rintro e w ⟨D,x,rfl,c,s⟩;replace H:=H.k0 s
 go_wp21
 refine(tW E _).mono ?_;rintro e w ⟨F,z,rfl,d,h⟩;replace H:=H.k0 h;replace c:=c.k0 h
 go_wp21
 refine(qV E _).mono ?_;rintro e w ⟨G,A,rfl,l,g⟩;replace H:=H.k0 g;replace c:=c.k0 g;replace d:=d.k0 g
 go_wp21
 refine(S5 E _ _ _ _ _ d l).mono ?_;rintro e w ⟨I,B,rfl,o,i⟩;replace H:=H.k0 i;replace c:=c.k0 i
 go_wp21
 refine(abo E _ _ _ o).mono ?_;rintro e w ⟨J,C,rfl,r,j⟩;replace H:=H.k0 j;replace c:=c.k0 j
 go_wp21
 refine Aq (λ_=>yK H.rel c r) H a HS mT ?_;rintro(b) σ w H u a;cases b with
 |false=>
  replace a:Hid (R= .ok false σ):=a;go_wp2;go_ret;exact jZ a H rfl
 |true=>
  replace a:Hid (R=(xF>>=λ_=>(pure true:M Bool)) σ):=a
  go_wp21
  refine Aq (λ_=>UF H.rel) H a HS mT ?_;rintro(_) σ w H u a;go_wp2;go_ret;exact jZ a H rfl
end
end Go.Proofs.YtofkkmcdggkkpaaGreatDoor
