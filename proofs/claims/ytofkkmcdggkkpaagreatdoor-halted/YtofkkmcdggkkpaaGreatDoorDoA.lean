import Derived.Test.YtofkkmcdggkkpaaGreatDoorRelF
import Derived.RangeFuncWrites
import Derived.Sort.BigQuietIn
import Derived.RegionIn
import Derived.TacticsIn
set_option linter.unusedSimpArgs false
set_option linter.unusedVariables false
set_option linter.defProp false
set_option maxHeartbeats 0
set_option maxRecDepth 100000
namespace Go.Proofs.YtofkkmcdggkkpaaGreatDoor
open Go.RowKit Tryz
def Ke:=@Nat.add_sub_cancel
def Fs:=@Calls.quiet_of_same
def Ft:=@beq_eq_false_iff_ne
def ad1:=@Oper.semAt_some
def wH:=@wpIn_mono
def xF:=@grownBy_putObj'
def wI:=@callsIn_wide
def wJ:=@callsIn_of_wp_marks
def qD:=@CallsIn.inRound
def Kf:=@KeepsOthers.setCell
def nN:=@run_takeDeferred
def AH:=@if_false
def xG:=@if_true
section
variable {E : Env} {W w w0 : gw} {f : Nat->Nat} {it k n n0 : Nat} {lb : jO} {p q : gz->Bool} {rest : kO} {v : gP} {y : jg}
def RF (E:Env) (f:Nat->Nat) (σ:Ab) (w:gw):Prop:=∃L,L.gQ=f/\Rel E L σ w
def RH (n:Nat) (f g:Nat->Nat):Prop:=∀i,i < n->g i=f i
def Leaves {α:Type} (E:Env) (f:Nat->Nat) (n:Nat) (w:gw) (r:pG α) (b:(Nat->Nat)->α->gP) (e:Ending) (w':gw):Prop:=match r with
 | .ok a σ'=>∃g,RH n f g/\n<=σ'.nodes.length/\e=ir (b g a)/\RF E g σ' w'/\Fr E.bs w w'
 | .stop c p=>∃k,e=qA k/\kG w' k c p/\Fr E.bs w w'
 | .stuck=>False
def ja {α:Type} (E:Env) (k:Nat) (args:(Nat->Nat)->jO) (m:M α) (a:(Nat->Nat)->α->gP):Prop:=
 ∀f σ w,RF E f σ w->m σ≠ .stuck->Calls prog k (args f) w (Leaves E f σ.nodes.length w (m σ) a)
abbrev uV (_:Nat->Nat) (_:Unit):gP:= .tuple #[]
abbrev bV (_:Nat->Nat) (b:Bool):gP:= .bool b
abbrev nV (f:Nat->Nat) (i:Nat):gP:=gL (f i)
abbrev oV (f:Nat->Nat) (x:jg):gP:=kh (iD f x)
abbrev pV (f:Nat->Nat) (pl:Nat×Nat):gP:= .agg #[gL (f pl.1),gp pl.2]
structure At (E:Env) (f0:Nat->Nat) (n0:Nat) (w0:gw) (f:Nat->Nat) (σ:Ab) (w:gw):Prop where
 rel:RF E f σ w
 ext:RH n0 f0 f
 le:n0<=σ.nodes.length
 fr:Fr E.bs w0 w
 hw:E.w0.heap.size<=w0.heap.size
def At.start {σ:Ab} (h:RF E f σ w):At E f σ.nodes.length w f σ w:=⟨h,λ_ _=>rfl,ij _,Fr.refl _,by have⟨L,_,hr⟩:=h;exact hr.fr.size⟩
def RF.im {σ:Ab} {w' : gw} (h:RF E f σ w) (a:Kept [] w w'):RF E f σ w':=by have⟨L,e,hr⟩:=h;exact⟨L,e,hr.im a⟩
def U7:List TypeId:=[142,183,260,218,222,275,157,57,97,132]
theorem Rel.side {L : Loc} {σ:Ab} (h:Rel E L σ w) {b : Nat} {c : jO} {T : TypeId} {m : Nat×Nat} (l:w.heap[b]?=some (.cells c T m)) (x:∀t∈U7,t≠T) (e:E.w0.heap.size<=b) (j:Nat) (u:gP):Rel E L σ (w.setCell ⟨b,j,none⟩ u):=by
 have d:KT E.bs [T] w (w.setCell ⟨b,j,none⟩ u):= .jT ((Kept.refl [b] w).setCell (.inl (by simp)) u) (λk g _=>by simp at g;subst g;exact⟨⟨_,_,_,l,by simp⟩,jN h.bz e⟩);have a:∀t∈U7,t∉[T]:=λt r=>by grind
 have⟨C,hbl,hC⟩:=h.iw;exact {h with
  fr:=by
   have⟨S,g,hS⟩:=h.fr;exact⟨S,g.setCell (.inr e) u,hS⟩
  sL:=λi s o=>(h.sL i s o).kt d (λt r=>a t (by revert t;decide))
  iw:=⟨C,d.at hbl (a _ (by decide)),hC⟩
  o0:=d.row h.o0 (a _ (by decide))
  pX:=d.row h.pX (a _ (by decide))
  oT:=d.row h.oT (a _ (by decide))
  rd:=d.at h.rd (a _ (by decide))
  tok:=d.row h.tok (a _ (by decide))}
section
variable {α β:Type} {E:Env} {f0:Nat->Nat} {n0:Nat} {w0:gw} {f:Nat->Nat} {σ:Ab} {w:gw}
def At.side (h:At E f0 n0 w0 f σ w) {b:Nat} {c:jO} {T:TypeId} {m:Nat×Nat} (g:w.heap[b]?=some (.cells c T m)) (d:∀t∈U7,t≠T) (a:w0.heap.size<=b) (j:Nat) (u:gP):At E f0 n0 w0 f σ (w.setCell ⟨b,j,none⟩ u):=by
 have⟨L,e,hr⟩:=h.rel;refine⟨⟨L,e,hr.side g d (jN h.hw a) j u⟩,h.ext,h.le,?_,h.hw⟩;have⟨S,hk,hS⟩:=h.fr;exact⟨S,hk.setCell (.inr a) u,hS⟩
def At.k0 (h:At E f0 n0 w0 f σ w) {w':gw} (a:Kept [] w w'):At E f0 n0 w0 f σ w':=⟨h.rel.im a,h.ext,h.le,h.fr.trans (.gZ a),h.hw⟩
def At.to (h:At E f0 n0 w0 f σ w) {σ':Ab} {w':gw} (c:RF E f σ' w') (b:σ.nodes.length<=σ'.nodes.length) (a:Fr E.bs w w'):At E f0 n0 w0 f σ' w':=⟨c,h.ext,jN h.le b,h.fr.trans a,h.hw⟩
def At.go (h:At E f0 n0 w0 f σ w) {g:Nat->Nat} {σ':Ab} {w':gw} (d:RF E g σ' w') (e:RH σ.nodes.length f g) (c:σ.nodes.length<=σ'.nodes.length) (b:Fr E.bs w w'):At E f0 n0 w0 g σ' w':=
 ⟨d,λi a=>(e i (lU a h.le)).trans (h.ext i a),jN h.le c,h.fr.trans b,h.hw⟩
def gv {R:pG α} {a:α} {b:(Nat->Nat)->α->gP} (c:R= .ok a σ) (h:At E f0 n0 w0 f σ w) {e:Ending} (d:e=ir (b f a)):Leaves E f0 n0 w0 R b e w:=by
 subst c;exact⟨f,h.ext,h.le,d,h.rel,h.fr⟩
theorem pd {R:pG α} {a:(Nat->Nat)->α->gP} {c p j:Nat} (b:R= .stop c p) (e:kG w j c p) (d:Fr E.bs w0 w):Leaves E f0 n0 w0 R a (qA j) w:=by
 grind[Leaves]
theorem ja.call {k:Nat} {args:(Nat->Nat)->jO} {m:M α} {l:(Nat->Nat)->α->gP} (D:ja E k args m l) (H:At E f0 n0 w0 f σ w) {R:pG β} {K:α->M β} (i:R=(m>>=K) σ) (G:R≠ .stuck) {A:jO} (hA:args f=A) {Q:Ending->gw->Prop}
  (u:∀c p j b,R= .stop c p->kG b j c p->Fr E.bs w0 b->Q (qA j) b)
  (s:∀a g d b,At E f0 n0 w0 g d b->RH σ.nodes.length f g->Fr E.bs w b->R=K a d->Q (ir (l g a)) b):Calls prog k A w Q:=by
 rw[M.gy]at i;have B:m σ≠ .stuck:=λe=>G (by grind);have h:=D f σ w H.rel B;rw[hA]at h;refine h.mono ?_;intro e b o;cases hr:m σ with
 |ok a d=>
  rw[hr]at o i;obtain⟨g,x,r,rfl,F,z⟩:=o;exact s a g d b (H.go F x r z) x z i
 |stop c p=>
  rw[hr]at o i;obtain⟨j,rfl,r,C⟩:=o;exact u c p j b i r (H.fr.trans C)
 |stuck=>exact absurd hr B
end
def j8 {α:Type} (E:Env) (f:Nat->Nat) (n:Nat) (w:gw) (r:pG α) (b:(Nat->Nat)->α->gP) (e:Ending) (w':gw):Prop:=match r with
 | .ok a σ'=>e=ir (b f a)/\RF E f σ' w'/\Fr E.bs w w'/\n<=σ'.nodes.length
 | .stop c p=>∃j,e=qA j/\kG w' j c p/\Fr E.bs w w'
 | .stuck=>False
def j9 {α:Type} (E:Env) (k:Nat) (args:(Nat->Nat)->jO) (m:M α) (a:(Nat->Nat)->α->gP):Prop:=
 ∀f σ w,RF E f σ w->m σ≠ .stuck->Calls prog k (args f) w (j8 E f σ.nodes.length w (m σ) a)
section
variable {α β:Type} {E:Env} {f0:Nat->Nat} {n0:Nat} {w0:gw} {f:Nat->Nat} {σ:Ab} {w:gw}
theorem j9.call {k:Nat} {args:(Nat->Nat)->jO} {m:M α} {i:(Nat->Nat)->α->gP} (D:j9 E k args m i) (H:At E f0 n0 w0 f σ w) {R:pG β} {K:α->M β} (g:R=(m>>=K) σ) (F:R≠ .stuck) {A:jO} (hA:args f=A) {Q:Ending->gw->Prop}
  (r:∀c p j b,R= .stop c p->kG b j c p->Fr E.bs w0 b->Q (qA j) b)
  (o:∀a d b,At E f0 n0 w0 f d b->Fr E.bs w b->R=K a d->Q (ir (i f a)) b):Calls prog k A w Q:=by
 rw[M.gy]at g;have u:m σ≠ .stuck:=λe=>F (by grind);have h:=D f σ w H.rel u;rw[hA]at h;refine h.mono ?_;intro e b l;cases hr:m σ with
 |ok a d=>
  rw[hr]at l g;obtain⟨rfl,B,s,C⟩:=l;exact o a d b (H.to B C s) s g
 |stop c p=>
  rw[hr]at l g;obtain⟨j,rfl,x,z⟩:=l;exact r c p j b g x (H.fr.trans z)
 |stuck=>exact absurd hr u
def aeH {k:Nat} {m:M α} {h:(Nat->Nat)->α->gP} {A:jO} (C:m σ≠ .stuck->Calls prog k A w (j8 E f σ.nodes.length w (m σ) h)) (H:At E f0 n0 w0 f σ w) {R:pG β} {K:α->M β} (g:R=(m>>=K) σ) (D:R≠ .stuck) {Q:Ending->gw->Prop}
  (o:∀c p j b,R= .stop c p->kG b j c p->Fr E.bs w0 b->Q (qA j) b)
  (l:∀a d b,At E f0 n0 w0 f d b->Fr E.bs w b->R=K a d->Q (ir (h f a)) b):Calls prog k A w Q:=by
 rw[M.gy]at g;have s:m σ≠ .stuck:=λe=>D (by rw[g,e]);refine(C s).mono ?_;intro e b i;cases hr:m σ with
 |ok a d=>
  rw[hr]at i g;obtain⟨rfl,z,r,B⟩:=i;exact l a d b (H.to z B r) r g
 |stop c p=>
  rw[hr]at i g;obtain⟨j,rfl,u,x⟩:=i;exact o c p j b g u (H.fr.trans x)
 |stuck=>exact absurd hr s
def aer {k:Nat} {m:M α} {i:(Nat->Nat)->α->gP} {A:jO} (C:m σ≠ .stuck->Calls prog k A w (Leaves E f σ.nodes.length w (m σ) i)) (H:At E f0 n0 w0 f σ w) {R:pG β} {K:α->M β} (h:R=(m>>=K) σ) (F:R≠ .stuck) {Q:Ending->gw->Prop}
  (s:∀c p j b,R= .stop c p->kG b j c p->Fr E.bs w0 b->Q (qA j) b)
  (r:∀a g d b,At E f0 n0 w0 g d b->RH σ.nodes.length f g->Fr E.bs w b->R=K a d->Q (ir (i g a)) b):Calls prog k A w Q:=by
 rw[M.gy]at h;have z:m σ≠ .stuck:=λe=>F (by rw[h,e]);refine(C z).mono ?_;intro e b l;cases hr:m σ with
 |ok a d=>
  rw[hr]at l h;obtain⟨g,u,o,rfl,D,x⟩:=l;exact r a g d b (H.go D u o x) u x h
 |stop c p=>
  rw[hr]at l h;obtain⟨j,rfl,o,B⟩:=l;exact s c p j b h o (H.fr.trans B)
 |stuck=>exact absurd hr z
def jZ {R:pG α} {a:α} {b:(Nat->Nat)->α->gP} (c:R= .ok a σ) (h:At E f n0 w0 f σ w) {e:Ending} (d:e=ir (b f a)):j8 E f n0 w0 R b e w:=by
 subst c;exact⟨d,h.rel,h.fr,h.le⟩
theorem tP {R:pG α} {a:(Nat->Nat)->α->gP} {c p j:Nat} (b:R= .stop c p) (e:kG w j c p) (d:Fr E.bs w0 w):j8 E f n0 w0 R a (qA j) w:=by
 grind[j8]
def dC {k:Nat} {args:(Nat->Nat)->jO} {m:M α} {d:(Nat->Nat)->α->gP} (D:ja E k args m d) (H:Hid (At E f0 n0 w0 f σ w)) {R:pG β} {K:α->M β} (s:Hid (R=(m>>=K) σ)) (u:Hid (R≠ .stuck)) {A:jO} (hA:args f=A) {Q:Ending->gw->Prop}
  (i:∀c p j b,Hid (R= .stop c p/\kG b j c p/\Fr E.bs w0 b)->Q (qA j) b)
  (h:∀a g e b,Hid (At E f0 n0 w0 g e b)->Hid (RH σ.nodes.length f g)->Hid (Fr E.bs w b)->Hid (R=K a e)->Q (ir (d g a)) b):Calls prog k A w Q:=ja.call D H s u hA (λc p j b l o r=>i c p j b ⟨l,o,r⟩) h
def mC {k:Nat} {args:(Nat->Nat)->jO} {m:M α} {d:(Nat->Nat)->α->gP} (D:j9 E k args m d) (H:Hid (At E f0 n0 w0 f σ w)) {R:pG β} {K:α->M β} (r:Hid (R=(m>>=K) σ)) (s:Hid (R≠ .stuck)) {A:jO} (hA:args f=A) {Q:Ending->gw->Prop}
  (h:∀c p j b,Hid (R= .stop c p/\kG b j c p/\Fr E.bs w0 b)->Q (qA j) b)
  (g:∀a e b,Hid (At E f0 n0 w0 f e b)->Hid (Fr E.bs w b)->Hid (R=K a e)->Q (ir (d f a)) b):Calls prog k A w Q:=j9.call D H r s hA (λc p j b i l o=>h c p j b ⟨i,l,o⟩) g
def Am {k:Nat} {m:M α} {d:(Nat->Nat)->α->gP} {A:jO} (C:m σ≠ .stuck->Calls prog k A w (j8 E f σ.nodes.length w (m σ) d)) (H:Hid (At E f0 n0 w0 f σ w)) {R:pG β} {K:α->M β} (r:Hid (R=(m>>=K) σ)) (s:Hid (R≠ .stuck)) {Q:Ending->gw->Prop}
  (h:∀c p j b,Hid (R= .stop c p/\kG b j c p/\Fr E.bs w0 b)->Q (qA j) b)
  (g:∀a e b,Hid (At E f0 n0 w0 f e b)->Hid (Fr E.bs w b)->Hid (R=K a e)->Q (ir (d f a)) b):Calls prog k A w Q:=aeH C H r s (λc p j b i l o=>h c p j b ⟨i,l,o⟩) g
def dcH {k:Nat} {m:M α} {d:(Nat->Nat)->α->gP} {A:jO} (C:m σ≠ .stuck->Calls prog k A w (Leaves E f σ.nodes.length w (m σ) d)) (H:Hid (At E f0 n0 w0 f σ w)) {R:pG β} {K:α->M β} (s:Hid (R=(m>>=K) σ)) (u:Hid (R≠ .stuck)) {Q:Ending->gw->Prop}
  (i:∀c p j b,Hid (R= .stop c p/\kG b j c p/\Fr E.bs w0 b)->Q (qA j) b)
  (h:∀a g e b,Hid (At E f0 n0 w0 g e b)->Hid (RH σ.nodes.length f g)->Hid (Fr E.bs w b)->Hid (R=K a e)->Q (ir (d g a)) b):Calls prog k A w Q:=aer C H s u (λc p j b l o r=>i c p j b ⟨l,o,r⟩) h
def lS {R:pG α} {a:(Nat->Nat)->α->gP} {c p j:Nat} (h:Hid (R= .stop c p/\kG w j c p/\Fr E.bs w0 w)):Leaves E f0 n0 w0 R a (qA j) w:=pd h.1 h.2.1 h.2.2
def mS {R:pG α} {a:(Nat->Nat)->α->gP} {c p j:Nat} (h:Hid (R= .stop c p/\kG w j c p/\Fr E.bs w0 w)):j8 E f n0 w0 R a (qA j) w:=tP h.1 h.2.1 h.2.2
def dI {k:Nat} {args:(Nat->Nat)->jO} {m:M α} {a:(Nat->Nat)->α->gP} (h:∀f σ w R,Hid (R=m σ)->Hid (R≠ .stuck)->Hid (At E f σ.nodes.length w f σ w)->Calls prog k (args f) w (Leaves E f σ.nodes.length w R a)):ja E k args m a:=λf σ w b c=>h f σ w _ rfl c (At.start b)
def mI {k:Nat} {args:(Nat->Nat)->jO} {m:M α} {a:(Nat->Nat)->α->gP} (h:∀f σ w R,Hid (R=m σ)->Hid (R≠ .stuck)->Hid (At E f σ.nodes.length w f σ w)->Calls prog k (args f) w (j8 E f σ.nodes.length w R a)):j9 E k args m a:=λf σ w b c=>h f σ w _ rfl c (At.start b)
end
def lT {α:Type} {β:Sort _} {x:β} {f0 : Nat->Nat} {R:pG α} {a:(Nat->Nat)->α->gP} (c p j:Nat) (w:gw) (h:Hid (R= .stop c p/\kG w j c p/\Fr E.bs w0 w)):x=x/\Leaves E f0 n0 w0 R a (qA j) w:=⟨rfl,lS h⟩
def mT {α:Type} {β:Sort _} {x:β} {R:pG α} {a:(Nat->Nat)->α->gP} (c p j:Nat) (w:gw) (h:Hid (R= .stop c p/\kG w j c p/\Fr E.bs w0 w)):x=x/\j8 E f n0 w0 R a (qA j) w:=⟨rfl,mS h⟩
def FT (E:Env) (i:Nat):j9 E 81 (λf=>#[nV f i]) (jx i) pV:=by
 intro f σ w ⟨L,e,d⟩ a;subst e;unfold jx at a|-;cases he:σ.ib i with
 |none=>rw[he]at a;exact absurd rfl a
 |some e=>
  refine(Q6 d he).mono ?_;rintro g h ⟨rfl,b,c⟩;exact⟨rfl,⟨L,rfl,b⟩,.gZ c,ij _⟩
def DY (E:Env) (pl:Nat×Nat) (j:Nat):j9 E 156 (λf=>#[pV f pl,.iface 57 (nV f j)]) (mN pl j) uV:=by
 intro f σ w ⟨L,e,h⟩ a;subst e;unfold mN at a|-;cases h1:σ.ib pl.1 with
 |none=>rw[h1]at a;exact absurd rfl a
 |some ei=>
  cases h2:σ.ib j with
  |none=>rw[h1,h2]at a;exact absurd rfl a
  |some ej=>
   simp only[h1,h2]at a|-
   by_cases b:j≠pl.1/\pl.2<=ei.kids.length/\ei.kids.length < 1048576
   .rw[gF b];refine(ZA h h1 h2 b.1 b.2.1 b.2.2).mono ?_;rintro i l ⟨rfl,c,e1,d,g⟩;exact⟨rfl,⟨c,e1,d⟩,g,by simp[Ab.ic]⟩
   .rw[gR b]at a;exact absurd rfl a
theorem SZ (E:Env) (pl:Nat×Nat) (s:gz):ja E 163 (λf=>#[pV f pl,gI s]) (uL pl s) uV:=by
 intro f σ w ⟨L,e,r⟩ a;subst e;unfold uL at a|-;cases h1:σ.ib pl.1 with
 |none=>rw[h1]at a;exact absurd rfl a
 |some ei=>
  simp only[h1]at a|-
  by_cases i:pl.2<=ei.kids.length/\ei.kids.length < 1048576
  .rw[gF i]at a|-;have b:∀(u:∀m,(j:m < ei.kids.length)->pl.2=m+1->∀t,ei.kids[m]≠ .tx t),Calls prog 163 #[pV L.gQ pl,gI s] w (Leaves E L.gQ σ.nodes.length w (.ok () ((σ.add (.tx s)).ic pl.1 {ei with kids:=ins ei.kids pl.2 (.tx σ.nodes.length)})) uV):=by
    intro u;refine(JU r h1 i.1 i.2 u).mono ?_;rintro B D ⟨rfl,h,e1,l,o⟩;exact⟨h.gQ,e1,by simp[Ab.ic,Ab.add],rfl,⟨h,rfl,l⟩,o⟩
   by_cases x:pl.2=0
   .simp only[gF x]at a|-;exact b λm j e=>by omega
   .simp only[gR x]at a|-;obtain⟨m,j⟩:∃m,pl.2=m+1:=⟨pl.2 - 1,by omega⟩;have g:m < ei.kids.length:=by omega
    have C:ei.kids[pl.2 - 1]?=some ei.kids[m]:=by rw[j,Ke];exact rq g
    rw[C]at a|-;cases hk:ei.kids[m]with
    |tx t=>
     simp only[hk]at a|-;cases ht:σ.nodes[t]? with
     |none=>rw[ht]at a;exact absurd rfl a
     |some nd=>
      cases nd with
      |tx old=>
       simp only[ht]at a|-
       by_cases c:old.size+s.size<=1048576
       .rw[gF c];have:=GH r h1 g hk ht c;rw[<-j]at this;refine this.mono ?_;rintro B D ⟨rfl,h,e1,l,o⟩;exact⟨L.gQ,λ_ _=>rfl,by simp[Ab.ol],rfl,⟨h,e1,l⟩,o⟩
       .rw[gR c]at a;exact absurd rfl a
      |el e=>rw[ht]at a;exact absurd rfl a
      |cm e=>rw[ht]at a;exact absurd rfl a
      |dt e=>rw[ht]at a;exact absurd rfl a
    |el t=>exact b λz d e A=>by grind
    |cm t=>exact b λz d e A=>by grind
    |dt t=>exact b λz d e A=>by grind
  .rw[gR i]at a;exact absurd rfl a
def Y8 (E:Env):j9 E 165 (λ_=>#[jF E.bB 188]) (λσ=> .ok σ.last σ.pop) oV:=by
 intro f σ w ⟨L,e,d⟩ h;subst e;refine(Qf d).mono ?_;rintro g i ⟨rfl,a,e1,b,c⟩;exact⟨rfl,⟨a,e1,b⟩,c,ij _⟩
theorem N0 (E:Env) (x:jg):j9 E 167 (λf=>#[Bp E,oV f x]) (xi x) uV:=by
 intro f σ w ⟨L,e,h⟩ g;subst e;have C:=h.low (j:=0) (by decide) h.DQ.1;have⟨_,_,_,hd,_,_⟩:=h.DQ;have A:=h.wT;have c:=(λq=>Y2 (h.drewN q));unfold xi at g|-
 by_cases d:σ.pQ<=σ.gA.length
 .rw[gF d];have b:=(λq=>Oi (h.drewN q) 5);go_enter func167,ntmps167
  go_wp21
  go_quiet ((go_at_call 251;exact Fs (c _)))
  go_wp21
  refine(b nq).mono ?_;rintro e B ⟨k,rfl,i,u⟩;have l:=(Fr.drewN w nq).trans u;go_wp2;exact⟨rfl,k,rfl,i,l⟩
 .rw[gR d]at g|-;have a:σ.mF x=true:=by
   by_cases a:σ.mF x=true
   .exact a
   .grind
  rw[gF a];have b:=(λq=>adG (h.drewN q) x a (by omega));go_enter func167,ntmps167
  go_wp21
  go_quiet ((go_at_call 251;exact Fs (c _)))
  go_wp21
  refine(b nq).mono ?_;rintro e B ⟨rfl,s,e1,r,z⟩;have o:=(Fr.drewN w nq).trans z;go_wp2;go_end0;exact⟨rfl,⟨s,e1,r⟩,o,ij _⟩
section
variable {E:Env} {f0:Nat->Nat} {n0:Nat} {w0:gw} {f:Nat->Nat} {σ:Ab} {w:gw}
def At.lt (h:At E f0 n0 w0 f σ w):E.bB < w.heap.size:=by have⟨L,_,hr⟩:=h.rel;exact hr.lt
def At.free (h:At E f0 n0 w0 f σ w) (j:Nat):w.frozen? ⟨E.bB,j,none⟩=false:=by have⟨L,_,hr⟩:=h.rel;exact hr.free j
def At.Vq (h:At E f0 n0 w0 f σ w):w.cell? ⟨E.bB,190,none⟩=some (oV f σ.head):=by obtain⟨L,rfl,a⟩:=h.rel;exact a.Vq
def At.RW (h:At E f0 n0 w0 f σ w):w.cell? ⟨E.bB,191,none⟩=some (oV f σ.form):=by obtain⟨L,rfl,a⟩:=h.rel;exact a.RW
def At.rH (h:At E f0 n0 w0 f σ w):w.cell? ⟨E.bB,192,none⟩=some (gp σ.mode):=by obtain⟨L,rfl,a⟩:=h.rel;exact a.rH
def At.RX (h:At E f0 n0 w0 f σ w):w.cell? ⟨E.bB,193,none⟩=some (gp σ.kept):=by obtain⟨L,rfl,a⟩:=h.rel;exact a.RX
def At.XM (h:At E f0 n0 w0 f σ w):w.cell? ⟨E.bB,195,none⟩=some (.bool σ.iS):=by obtain⟨L,rfl,a⟩:=h.rel;exact a.XM
def At.XN (h:At E f0 n0 w0 f σ w):w.cell? ⟨E.bB,196,none⟩=some (.bool σ.jL):=by obtain⟨L,rfl,a⟩:=h.rel;exact a.XN
def At.RY (h:At E f0 n0 w0 f σ w):w.cell? ⟨E.bB,197,none⟩=some (gp σ.gQ):=by obtain⟨L,rfl,a⟩:=h.rel;exact a.RY
def At.XO (h:At E f0 n0 w0 f σ w):w.cell? ⟨E.bB,198,none⟩=some (.bool σ.behind):=by obtain⟨L,rfl,a⟩:=h.rel;exact a.XO
def At.KO (h:At E f0 n0 w0 f σ w) (j:Nat) (u:gP):Fr E.bs w (w.setCell ⟨E.bB,j,none⟩ u):=by
 have⟨L,_,hr⟩:=h.rel;have⟨C,hb⟩:=hr.TN;exact .jT ((Kept.refl [E.bB] w).setCell (.inl (by simp)) u) (λk a=>by simp at a;subst a;exact⟨⟨_,_,_,hb,by decide⟩,hr.bB⟩)
def At.yl (h:At E f0 n0 w0 f σ w) (x:jg) (c:σ.gX x=true):At E f0 n0 w0 f {σ with head:=x} (w.setCell ⟨E.bB,190,none⟩ (oV f x)):=by
 have a:=h.KO 190 (oV f x);obtain⟨L,rfl,b⟩:=h.rel;exact h.to ⟨L,rfl,b.yl x c⟩ (ij _) a
def At.uN (h:At E f0 n0 w0 f σ w) (x:jg) (c:σ.gX x=true):At E f0 n0 w0 f {σ with form:=x} (w.setCell ⟨E.bB,191,none⟩ (oV f x)):=by
 have a:=h.KO 191 (oV f x);obtain⟨L,rfl,b⟩:=h.rel;exact h.to ⟨L,rfl,b.uN x c⟩ (ij _) a
def At.jc (h:At E f0 n0 w0 f σ w) (x:Nat):At E f0 n0 w0 f {σ with mode:=x} (w.setCell ⟨E.bB,192,none⟩ (gp x)):=by
 have a:=h.KO 192 (gp x);obtain⟨L,rfl,b⟩:=h.rel;exact h.to ⟨L,rfl,b.jc x⟩ (ij _) a
def At.ym (h:At E f0 n0 w0 f σ w) (x:Nat):At E f0 n0 w0 f {σ with kept:=x} (w.setCell ⟨E.bB,193,none⟩ (gp x)):=by
 have a:=h.KO 193 (gp x);obtain⟨L,rfl,b⟩:=h.rel;exact h.to ⟨L,rfl,b.ym x⟩ (ij _) a
def At.yk (h:At E f0 n0 w0 f σ w) (x:Bool):At E f0 n0 w0 f {σ with iS:=x} (w.setCell ⟨E.bB,195,none⟩ (.bool x)):=by
 have a:=h.KO 195 (.bool x);obtain⟨L,rfl,b⟩:=h.rel;exact h.to ⟨L,rfl,b.yk x⟩ (ij _) a
def At.qy (h:At E f0 n0 w0 f σ w) (x:Bool):At E f0 n0 w0 f {σ with jL:=x} (w.setCell ⟨E.bB,196,none⟩ (.bool x)):=by
 have a:=h.KO 196 (.bool x);obtain⟨L,rfl,b⟩:=h.rel;exact h.to ⟨L,rfl,b.qy x⟩ (ij _) a
def At.Cv (h:At E f0 n0 w0 f σ w) (x:Nat):At E f0 n0 w0 f {σ with gQ:=x} (w.setCell ⟨E.bB,197,none⟩ (gp x)):=by
 have a:=h.KO 197 (gp x);obtain⟨L,rfl,b⟩:=h.rel;exact h.to ⟨L,rfl,b.Cv x⟩ (ij _) a
def At.sj (h:At E f0 n0 w0 f σ w) (x:Bool):At E f0 n0 w0 f {σ with behind:=x} (w.setCell ⟨E.bB,198,none⟩ (.bool x)):=by
 have a:=h.KO 198 (.bool x);obtain⟨L,rfl,b⟩:=h.rel;exact h.to ⟨L,rfl,b.sj x⟩ (ij _) a
def Gx (f:Nat->Nat) (n k:Nat):Nat->Nat:=λi=>if i < n then f i else k+(i - n)
def ad7 (f:Nat->Nat) (n k:Nat):Gx f n k n=k:=by simp[Gx]
def Pw (f:Nat->Nat) (n k:Nat):RH n f (Gx f n k):=λi a=>gF a
def At.F8 (h:At E f0 n0 w0 f σ w) (a:gz):At E f0 n0 w0 (Gx f σ.nodes.length w.heap.size) (σ.add (.el {name:=a,gV:=[],je:=none,kids:=[]})) (w.alloc (gJ #[gI a,jX,.pointer none,jX] 142)):=by
 obtain⟨L,rfl,b⟩:=h.rel;exact h.go ⟨_,rfl,b.F8 a⟩ (Pw _ _ _) (by simp[Ab.add]) (.gZ ((Kept.refl _ _).alloc _))
def At.pL (h:At E f0 n0 w0 f σ w) (b:σ.fresh=true) (a:gz):At E f0 n0 w0 (Gx f σ.nodes.length w.heap.size) (σ.pn (.el {name:=a,gV:=E.ta,je:=none,kids:=[]}) false) (w.alloc (gJ #[gI a,E.tv,.pointer none,jX] 142)):=by
 obtain⟨L,rfl,c⟩:=h.rel;exact h.go ⟨_,rfl,c.pL b a⟩ (Pw _ _ _) (by simp[Ab.pn]) (.gZ ((Kept.refl _ _).alloc _))
end
def iF (E:Env) (t:gN):gP:=match t.k with
 | .ke s=> .iface 167 (.agg #[gp t.a,gp t.b,gI s])
 | .start n=> .iface 175 (.agg #[gp t.a,gp t.b,gI n,E.tv])
 | .stop n=> .iface 176 (.agg #[gp t.a,gp t.b,gI n,E.tv])
 | .gS s=> .iface 177 (.agg #[gp t.a,gp t.b,gI s])
 | .iN n q=> .iface 179 (.agg #[gp t.a,gp t.b,gI n,.bool q])
 | .lost=> .iface 169 (.agg #[gp t.a,gp t.b])
 | .io=> .iface 165 (.agg #[gp t.a,gp t.b])
def jd (E:Env) (t:gN):Prop:=t.rJ=true->t.gV=E.ta
def qB {X : TypeId} {a:Array Field} (b:prog.underlying X=some (.struct a)) (v:gP) (c:TypeId) (w:gw):(Instr.typeAssert (.iface X v) c X true).run prog w= .ok (.tuple #[v,.bool true]) w:=by
 simp[Instr.typeAssert,pO b]
def JV {X T : TypeId} {c:Array Field} {z : gP} (d:prog.underlying X=some (.struct c)) (b:(prog.info? X).bind (·.zero)=some z) (a:T≠X) (v:gP) (e:TypeId) (w:gw):(Instr.typeAssert (.iface T v) e X true).run prog w= .ok (.tuple #[z,.bool false]) w:=by
 have⟨i,hi,b⟩:=Option.bind_eq_some_iff.1 b;simp[Instr.typeAssert,pO d,a,zeroValue,typeInfo,hi,b]
def vg (T:TypeId) (h:T≠167) (v:gP) (a:TypeId) (w:gw):(Instr.typeAssert (.iface T v) a 167 true).run prog w= .ok (.tuple #[.agg #[gp 0,gp 0,gI kJ],.bool false]) w:=JV underlying167 (by kernel_rfl) h v a w
def sB (T:TypeId) (h:T≠177) (v:gP) (a:TypeId) (w:gw):(Instr.typeAssert (.iface T v) a 177 true).run prog w= .ok (.tuple #[.agg #[gp 0,gp 0,gI kJ],.bool false]) w:=JV underlying177 (by kernel_rfl) h v a w
def qv (T:TypeId) (h:T≠175) (v:gP) (a:TypeId) (w:gw):(Instr.typeAssert (.iface T v) a 175 true).run prog w= .ok (.tuple #[.agg #[gp 0,gp 0,gI kJ,jX],.bool false]) w:=JV underlying175 (by kernel_rfl) h v a w
def yf (T:TypeId) (h:T≠176) (v:gP) (a:TypeId) (w:gw):(Instr.typeAssert (.iface T v) a 176 true).run prog w= .ok (.tuple #[.agg #[gp 0,gp 0,gI kJ,jX],.bool false]) w:=JV underlying176 (by kernel_rfl) h v a w
def vN (T:TypeId) (h:T≠179) (v:gP) (a:TypeId) (w:gw):(Instr.typeAssert (.iface T v) a 179 true).run prog w= .ok (.tuple #[.agg #[gp 0,gp 0,gI kJ,.bool false],.bool false]) w:=JV underlying179 (by kernel_rfl) h v a w
def adC (T:TypeId) (h:T≠169) (v:gP) (a:TypeId) (w:gw):(Instr.typeAssert (.iface T v) a 169 true).run prog w= .ok (.tuple #[.agg #[gp 0,gp 0],.bool false]) w:=JV underlying169 (by kernel_rfl) h v a w
def zh (E:Env) (t:gN):jO:=match t.k with
 | .start n=>#[gp t.a,gp t.b,gI n,E.tv]
 | .stop n=>#[gp t.a,gp t.b,gI n,E.tv]
 |_=>#[gp 0,gp 0,gI kJ,jX]
def yE (E:Env) (t:gN) (w:gw):
  Calls prog 75 #[iF E t] w λe c=>e=ir (gI t.chars)/\Kept [] w c:=by
 obtain⟨a,b,k,gM⟩:=t;have d:=qB underlying167;have g:=vg;cases k
 all_goals
  simp only[iF,gN.chars];go_enter func75,ntmps75;go_wp2;go_ret;exact⟨rfl,(Kept.refl _ _).alloc _⟩
def yt (E:Env) (t:gN) (w:gw) (h:∃c n d,E.tv= .slice c n d):
  Calls prog 158 #[iF E t] w λe i=>e=ir (.agg (zh E t))/\Kept [] w i:=by
 have⟨a,b,k,gM⟩:=t;obtain⟨c,n,d,g⟩:=h;have j:=qB underlying175;have l:=qB underlying176;have o:=qv;have r:=yf;cases k
 all_goals
  simp only[iF,zh,g];go_enter func158,ntmps158;go_wp2
  first
  |refine qe (v:= .agg #[gp 0,gp 0,gI kJ,jX]) ?_ rfl ⟨rfl,(Kept.refl _ _).alloc _⟩
  |refine qe (v:= .agg #[gp a,gp b,gI _,.slice c n d]) ?_ rfl ⟨rfl,((Kept.refl _ _).alloc _).alloc _⟩
  simp[results,results158,asAddr,Result.andThen,go_sem]
def IZ (E:Env) (t:gN) (w:gw):
  Calls prog 170 #[iF E t] w λe a=>e=ir (.bool (sU t.chars))/\Kept [] w a:=by
 have b:=yE E t w;go_enter func170,ntmps170
 go_wp21
 refine b.mono ?_;rintro e a ⟨rfl,c⟩;go_wp2;go_ret;refine⟨?_,c⟩;show Ending.returned (.bool (t.chars.toList==[0]))=_;unfold sU kA;simp
def XF (c:UInt8):decide (0<=Lib.indexByte [32,9,10,12] c)=lR ⟨#[c]⟩:=by
 unfold lR ik kA;simp only[sH,List.any_cons,List.any_nil,Bool.or_false]
 by_cases a:c=32
 .subst a;rfl
 by_cases b:c=9
 .subst b;rfl
 by_cases d:c=10
 .subst d;rfl
 by_cases e:c=12
 .subst e;rfl
 simp[Lib.indexByte,a,b,d,e,List.findIdx_cons,xn]
theorem IW (s:gz) (w:gw):
  Calls prog 279 #[gI s] w λe b=>e=ir (.bool (lR s))/\Kept [] w b:=by
 by_cases a:s.size=1
 .obtain⟨c,rfl⟩:∃c,s=⟨#[c]⟩:=by
   have⟨d⟩:=s;have j:d.size=1:=a;have⟨c,hc⟩:=Array.size_eq_one_iff.1 j
   grind
  have g:=(λw=>Tryz.strings_Contains_one mw c w);have i:=fW (XF c);go_enter func279,ntmps279
  go_wp21
  refine(g _).mono ?_;rintro e b ⟨rfl,rfl⟩;go_wp2;go_ret;exact⟨by rw[<-i.out];rfl,Kept.refl _ _⟩
 .have o:lR s=false:=by
   unfold lR ik;simp only[List.any_cons,List.any_nil,Bool.or_false];have l:∀c:UInt8,kA s ⟨#[c]⟩=false:=by
    intro c;rw[Bool.eq_false_iff];intro h;rw[xe]at h;subst h;exact a rfl
   simp[l]
  rw[o];have r:((s.size:Int)==1)=false:=by rw[Ft];omega
  go_enter func279,ntmps279;go_wp2;go_ret;exact⟨rfl,Kept.refl _ _⟩
attribute [local go_sem] Oper.semAt_some
def yW {f : jg->jg} (c:∀x y,f x=f y->x=y):∀{a b:kO},a.map f=b.map f->a=b
 |[],[],_=>rfl
 |[],_::_,h=>by simp at h
 |_::_,[],h=>by simp at h
 |x::a,y::b,h=>by
  simp only[yy,Rx]at h;rw[c x y h.1,yW c h.2]
theorem SX {f : jg->jg} (b:∀x y,f x=f y->x=y) {a ys : kO} (h:a.map f <+:ys.map f):a <+:ys:=by
 have⟨t,ht⟩:=h;have c:a.length<=ys.length:=by have:=sI List.length ht;simp at this;omega
 refine⟨ys.drop a.length,?_⟩;have e:a.map f=(ys.take a.length).map f:=by
  rw[List.map_take,<-ht];simp
 rw[yW b e]
 simp_all
def GW (o:Oper):Bool:=match o.op with
 | .defer _=>false
 |_=>true
theorem NP {o:Oper} (h:GW o=true):∀c,o.op≠ .defer c:=by
 intro c e;unfold GW at h
 grind
section
variable {n:Nat} {P:Program} {ops:Array Oper} {Q:Exit->Act->gw->Prop} {md:Region.Mode}
def Lx (l:Nat) (r:∀(i:Nat) o,ops[i]?=some o->GW o=true):∀c b a w,wpAnyIn Fence.wide n P md ops Q c b a w->wpAnyIn (Fence.wide.inRound l) n P md ops Q c b a w:=by
 intro c
 induction c with
 |zero=>exact λb a w h=>h
 |succ c ih=>
  intro b a w h;refine⟨h.1,λi s=>?_⟩;have d:=h.2 i s;unfold wpOpIn at d|-;cases ho:ops[i]? with
  |none=>rw[ho]at d;exact ih _ _ _ d
  |some o=>
   rw[ho]at d;simp only at d|-;split
   .rename_i e;rw[gF e]at d;have g:=Oper.wpIn_mono (K':=wpAnyIn (Fence.wide.inRound l) n P md ops Q c (b.setIfInBounds i true)) (λa w h=>ih _ a w h) d;refine⟨g.1,?_⟩;have j:=g.2;have e1:o.semAt (Fence.wide.inRound l).round a.eval=execOp a.eval o:=ad1 l a.eval o (NP (r i o ho));have e2:o.semAt Fence.wide.round a.eval=execOp a.eval o:=by
     show o.semAt none a.eval=_;unfold Oper.semAt;cases o.op<;>rfl
    rw[e1]
    rwa [e2]at j
   .rename_i e;rw[gR e]at d;exact⟨d.1,ih _ _ _ d.2⟩
theorem As {id:Nat} {a:Act} {w:gw} {l:List Oper} (L:Nat) (g:P.follows .mixedOrders=true) (d:Region.lexB .any l.toArray=true) (i:l.all GW=true)
  (h:wpQuietIn Fence.wide n P l.toArray (λb=>∃n,b=w.drewN n) (λc=>∀b,(∃n,b=w.drewN n)->Q .normal c b) l a):(Code.region id l.toArray true).wpIn (Fence.wide.inRound L) n P Q a w:=by
 simp only[Region.lexB,rR]at d;refine wpIn_region_any g (Lx L ?_ _ _ _ _ (wpAnyIn_of_quiet (C:=λb=>∃n,b=w.drewN n) (Q:=λc=>∀b,(∃n,b=w.drewN n)->Q .normal c b) rfl (λ_ b e h=>h b e) _ _ _ _ ⟨1,rfl⟩ ?_))
 .grind
 .have:=wpAnyQIn_lex (F:=Fence.wide) (n:=n) (C:=λb=>∃n,b=w.drewN n) (md:= .any) d.1 l.toArray.toList 0 (Array.replicate l.toArray.size false) a (by simp) (by simpa using d.2) (by simpa using h)
  simpa using this
end
attribute [local go_sem] Oper.semAt_some
def ab0 (T c:List Nat) (I:kO->gw->Prop) (b:Code->kO->gw->Prop) (a:kO) (W:gw):Exit->Act->gw->Prop
 | .normal,_,W'=>Kept T W W'/\I a W'
 | .ret,_,W'=>Kept c W W'/\b .ret a W'
 | .exit id,_,W'=>Kept c W W'/\b (.exit id) a W'
 | .goto t,_,W'=>Kept c W W'/\b (.goto t) a W'
 | .panic _,_,_=>False
 | .outgrown,_,_=>False
theorem Ef {n:Nat} (hn:3<=n) {base b j:Nat} {tB:TypeId} {C:jO} {v:gP} {f:jg->jg} (hf:∀x y,f x=f y->x=y) {ys:kO} {w1:gw} (hL:wW base b j tB C v (ys.map f) w1)
  {g:Operand} {p:Tmp} {u V:Code} {Q:Exit->Act->gw->Prop} {a:Act} (hg:a.eval g=uO w1.heap.size)
  (T Tx:List Nat) (hT:∀k∈T,k < w1.heap.size/\k≠b/\v.ownBlock≠some k) (ab:∀k∈Tx,k < w1.heap.size)
  (I:kO->gw->Prop) (Ix:Code->kO->gw->Prop)
  (hI:OwnFrom (w1.heap.size+2) I) (a3:∀c,OwnFrom (w1.heap.size+2) (Ix c)) (h0:I [] (mr b j ys.length w1)) (L:jg->Act)
  (O:∀(l:Nat) (x:jg) (W:gw) (K:Act->gw->Prop),K (L x) W->
   u.wpIn (Fence.wide.inRound l) (n - 1 - 1) prog (Exit.then K (λ_ _ _=>False)) {tmps:=a.tmps.setIfInBounds p (kh x),defers:=[]} W)
  (Y:∀(l:Nat) (pre:kO) (y:jg) (W:gw),y∈ys->I pre W->V.wpIn (Fence.wide.inRound l) (n - 1 - 1) prog (ab0 T Tx I Ix (pre++[y]) W) (L (f y)) W)
  (a7:∀(D:Nat) (W:gw),w1.heap.size+2<=D->I ys.reverse W->W.heap[D]?=some (.deferred (some []))->Q .normal {a with defers:={target:= .collected D,args:=#[]}::a.defers} W)
  (a0:∀(D:Nat) (c:Code) (pre:kO) (W:gw),w1.heap.size+2<=D->pre <+:ys.reverse->Ix c pre W->W.heap[D]?=some (.deferred (some []))->c.wpIn Fence.wide n prog Q {a with defers:={target:= .collected D,args:=#[]}::a.defers} W):
  (Code.rangeFunc g #[p] u V).wpIn Fence.wide n prog Q a (mr b j ys.length w1):=by
 have i:(mr b j ys.length w1).heap.size=w1.heap.size+2:=by simp
 have a6:=jn hL.iw;have a8:Kept [] w1 (mr b j ys.length w1):=((Kept.refl _ _).alloc _).alloc _;have a5:wW base b j tB C v (ys.map f) (mr b j ys.length w1):=hL.EM (ky.jT (K:=b::v.ownBlock.toList) a8 (λk d=>⟨by
  rcases List.mem_cons.1 d with rfl|d
  .exact a6
  .exact(hL.row.lt k (by simpa using d)).2,by simp⟩)) (by simp) (λk d=>by simp[d])
 have⟨b0,b1⟩:=(⟨(Below.heap_alloc _ _ _ (by simp)).trans (fZ w1 _),by
   have:=fZ (w1.alloc (gJ #[jF b j] 256)) (gJ #[gp ys.length] 3)
   simp_all⟩:(mr b j ys.length w1).heap[w1.heap.size]?=some (gJ #[jF b j] 256)/\(mr b j ys.length w1).heap[w1.heap.size+1]?=some (gJ #[gp ys.length] 3))
 obtain⟨K,hK⟩:∃K,K=b::w1.heap.size::v.ownBlock.toList:=⟨_,rfl⟩;have a1:∀k∈K,k < w1.heap.size+2:=by
  intro k d;rw[hK]at d;rcases List.mem_cons.1 d with rfl|d
  .omega
  .rcases List.mem_cons.1 d with rfl|d
   .omega
   .have:=(hL.row.lt k (by simpa using d)).2;omega
 have a4:∀k∈K,k∉T:=by
  intro k d Z;have⟨t1,t2,t3⟩:=hT k Z;rw[hK]at d;rcases List.mem_cons.1 d with rfl|d
  .omega
  .grind
 have a9:=Rn (n - 1) (by omega) base b j tB C v (ys.map f) ys.length w1.heap.size K _ a5 (by simp) (by rw[hK];simp) (by rw[hK];simp) (by grind) (by simp) b1 b0;have aa:∀{α:Type} {W J:gw} {R:jg} {B:Nat},B<=W.heap.size->W.grownBy J R->B<=J.heap.size:=λF G=>jN F G.size;refine wpIn_rangeFunc_ownG rfl (by omega) (gf:=341) hg trivial (Go.Proofs.enters_of func341 (by rfl) rfl) a9 ky.trans (λW l o o' hl F G h3=>ky.put (w:=mr b j ys.length w1) (by rw[i];omega) W l o o' hl F G h3) (Below.refl _ _) (λ_=>rfl)
  (λpre W=>w1.heap.size+2<=W.heap.size/\∃h,pre.map (·.1)=h.map f/\I h W) (λc pre W=>∃h,pre.map (·.1)=h.map f/\Ix c h W) ?_ ?_ ?_ (λx=>L x.1) ?_ ?_ ?_ ?_
 .rintro s A B R ⟨hs,h,F,G⟩ U hr;rw[i]at hr;exact⟨jN hs U.size,h,F,hI h A B R G U hr⟩
 .rintro c s A B R ⟨h,F,G⟩ U hr;rw[i]at hr;exact⟨h,F,a3 c h A B R G U hr⟩
 .grind
 .intro l x W K' S;have:=O l x.1 W K' S;have e:(#[p].zip #[kh x.1]).foldl (λt (p,v)=>t.setIfInBounds p v) a.tmps=a.tmps.setIfInBounds p (kh x.1):=by simp
  rw[e];exact this
 .rintro l pre ⟨x,hx⟩ W ⟨hs,h,F,G⟩ _;obtain⟨y,hy,rfl⟩:=List.mem_map.1 hx;refine wH (Y l h y W hy G) ?_;have a2:∀{J:gw},Kept T W J->KeepsFrom (mr b j ys.length w1).heap.size W J:=by
   intro J d;refine⟨d.size,λk o X ho _=>?_⟩;rw[i]at X;rw[d.block k (Array.getElem?_eq_some_iff.1 ho).1 (λZ=>by grind)];exact ho
  have r:∀{J:gw},Kept Tx W J->KeepsFrom (mr b j ys.length w1).heap.size W J:=by
   intro J d;refine⟨d.size,λk o X ho _=>?_⟩;rw[i]at X;rw[d.block k (Array.getElem?_eq_some_iff.1 ho).1 (λZ=>by grind)];exact ho
  have z:(pre++[(⟨f y,hx⟩:{x:jg // x∈ys.map f})]).map (·.1)=(h++[y]).map f:=by rw[ru,F];simp
  intro e a' J H;cases e with
  |normal=>exact⟨a2 H.1,ky.jT H.1 (λk d=>⟨lU (a1 k d) hs,a4 k d⟩),jN hs H.1.size,_,z,H.2⟩
  |ret=>exact⟨r H.1,_,z,H.2⟩
  |exit id=>exact⟨r H.1,_,z,H.2⟩
  |goto t=>exact⟨r H.1,_,z,H.2⟩
  |panic _=>exact H
  |outgrown=>exact H
 .rintro D xs W hD hS ⟨_,h,F,G⟩ S;rw[i]at hD;have N:xs.map (·.1)=((ys.map f).take ys.length).reverse:=hS;rw[F,Kl (by simp),<-UY]at N;rw[yW hf N]at G
  grind
 .rintro D c pre W hD hS ⟨h,F,G⟩ S;rw[i]at hD;have N:pre.map (·.1) <+:((ys.map f).take ys.length).reverse:=hS;rw[F,Kl (by simp),<-UY]at N;exact a0 D c h W hD (SX hf N) G S
def UQ:=λ{n:Nat} (s:3<=n) {d b j u C v} {f:jg->jg} l {z x} i {g p c e Q a} o T h=>@Ef n s d b j u C v f l z x i g p c e Q a o T T h (λk r=>(h k r).1)
attribute [local go_sem] Oper.semAt_some
def JK {σ:Ab}:∀{a:kO},(∀y∈a,p (σ.qS y)=false/\q (σ.qS y)=false)->σ.xD p q a=false
 |[],_=>rfl
 |x::a,h=>by
  unfold Ab.xD;have⟨h1,h2⟩:=h x (by simp);rw[h1,h2];exact JK λy b=>h y (by simp[b])
theorem JL {σ:Ab} {r : Bool} (b:(p (σ.qS y)=true/\r=true)\/(p (σ.qS y)=false/\q (σ.qS y)=true/\r=false)):∀{a:kO},(∀y∈a,p (σ.qS y)=false/\q (σ.qS y)=false)->σ.xD p q (a++[y]++rest)=r
 |[],_=>by
  grind[Ab.xD]
 |x::a,h=>by
  show σ.xD p q (x::(a++[y]++rest))=r;unfold Ab.xD;have⟨h1,h2⟩:=h x (by simp);rw[h1,h2];exact JL b λy c=>h y (by simp[c])
theorem Kept.take (h:Kept [] w W) {D : Nat} (a:w.heap.size<=D) (o:Obj):Kept [] w (W.putObj D o):=h.grown (xF W D o) (λk e=>by grind)
theorem kE {A B : gw} {a : jg} {o : Obj} (h:A.heap[k]?=some o) (b:A.grownBy B a) (d:∀r,a=some r->n<=r/\∃o:Obj,A.heap[r]?=some o/\o.isCells=false) (c:k < n):B.heap[k]?=some o:=by
 rw[b.block k (Array.getElem?_eq_some_iff.1 h).1 (λe=>by grind)];exact h
theorem lW {A B : gw} {a : jg} (h:Kept [] w A) (b:A.grownBy B a) (d:∀r,a=some r->n<=r/\∃o:Obj,A.heap[r]?=some o/\o.isCells=false) (c:w.heap.size<=n):Kept [] w B:=h.grown b (λk e=> .inr (by grind))
theorem vI {σ:Ab} (h:RF E f σ w) (p q:gz->Bool) (vs vb:gP) (hs:Ask E.bm vs p w) (hb:Ask E.bm vb q w):
  Calls prog 219 #[Bp E,vs,vb] w λe G=>e=ir (.bool (σ.inScope p q))/\Kept [] w G:=by
 obtain⟨L,rfl,j⟩:=h;obtain⟨S,b,rfl,a6,H1⟩:=hs.call;obtain⟨X,o,rfl,a7,H2⟩:=hb.call;refine(wI (n:=3)).1 ?_;refine wJ func219 rfl trivial ?_ rfl;simp only[ntmps219,wK,qd,uQ,Nat.reduceAdd,Nat.reduceSub,wL,wM,wN,wO,rQ,uR];obtain⟨H,u⟩:∃H,H=((w.alloc (gJ #[.func (.func S) #[] b] 150)).alloc (gJ #[.func (.func X) #[] o] 150)).alloc (gJ #[.bool false] 4):=⟨_,rfl⟩;have a1:Kept [] w H:=by rw[u];exact(((Kept.refl _ _).alloc _).alloc _).alloc _
 have⟨b0,b1,b2⟩:=ot w (gJ #[.func (.func S) #[] b] 150) (gJ #[.func (.func X) #[] o] 150) (gJ #[.bool false] 4);rw[<-u]at b0 b1 b2;have a:H.heap.size=w.heap.size+1+1+1:=by rw[u];simp
 have a3:=j.im a1;have⟨C,HL,hC⟩:=a3.yV;have a8:=j.lt;have HU:=V3 E.bs E.bB 188 _ C _ _ H HL;have HO:=(λg (O:L.ov.ownBlock=some g)=>Cr j.o0 O);have HN:=fW (λ(W:gw) (F:Kept [] w W) (i:Nat) (e:zp) (hi:σ.ib i=some e)=>(j.im F).vh hi);have HS:=(λ(y:jg) (z:y∈σ.gA)=>j.oe z);have HI:=fW j.inj;clear j a3 hC hs hb
 gi_wp2_with (refine⟨trivial,?_⟩;gi_at_call 276;rw[<-u];refine(callsIn_wide.2 HU).mono ?_;rintro e G ⟨rfl,rfl⟩)
 rw[<-a,<-u];have HZ:=fW a;clear a u;refine UQ (by omega) (f:=iD L.gQ) (λx y e=>rK HI.out e) HL rfl [w.heap.size+1+1] ?_
  (λpre W=>Kept [] w W/\W.heap[w.heap.size]?=some (gJ #[.func (.func S) #[] b] 150)/\W.heap[w.heap.size+1]?=some (gJ #[.func (.func X) #[] o] 150)/\W.heap[w.heap.size+1+1]?=some (gJ #[.bool false] 4)/\∀y∈pre,p (σ.qS y)=false/\q (σ.qS y)=false)
  (λc pre W=>c= .ret/\Kept [] w W/\∃d y r,pre=d++[y]/\(∀y∈d,p (σ.qS y)=false/\q (σ.qS y)=false)/\((p (σ.qS y)=true/\r=true)\/(p (σ.qS y)=false/\q (σ.qS y)=true/\r=false))/\W.heap[w.heap.size+1+1]?=some (gJ #[.bool r] 4))
  ?_ ?_ ?_ (λx=>{tmps:=#[Bp E,.func (.func S) #[] b,.func (.func X) #[] o,undef,gL w.heap.size,gL (w.heap.size+1),gL (w.heap.size+1+1),kh x,Bp E,gL E.bB,jF E.bB 188,uO H.heap.size,kh x,undef,undef,undef,undef,undef,undef,undef,undef,undef,undef,undef,undef,undef,undef],defers:=[]}) ?assign ?body ?done ?stop
 .grind
 .rintro s A B a5 ⟨h1,h2,R,J,N⟩ O j;have a:=HZ.out;exact⟨lW h1 O j (by omega),kE h2 O j (by omega),kE R O j (by omega),kE J O j (by omega),N⟩
 .rintro c s A B a5 ⟨h0,h1,d,y,r,h2,R,J,N⟩ O j;have a:=HZ.out;exact⟨h0,lW h1 O j (by omega),d,y,r,h2,R,J,kE N O j (by omega)⟩
 .have F:Kept [] H (mr E.bB 188 (σ.gA.length) H):=((Kept.refl _ _).alloc _).alloc _;exact⟨a1.trans F,F.at b0 (by simp),F.at b1 (by simp),F.at b2 (by simp),by simp⟩
 case assign=>
  intro l x W K Y;gi_wp2;exact Y
 case body=>
  rintro l pre y W z ⟨I,B2,B3,Z,B5⟩;obtain⟨i,e0,rfl,hi⟩:=HS y z;have c0:=HN.out W I i e0 hi;have c1:=fX B2 0;have c2:=fX B3 0;have T:=fX Z 0;have f3:=gG Z 0;dsimp at c1 c2 T;have HA:=(λW' (F:Kept [] w W')=>H1 W' (.gZ F) (σ.nm i));have HB:=(λW' (F:Kept [] w W')=>H2 W' (.gZ F) (σ.nm i));have HW:=I.drew;have HT:Hid (∀(r:Bool),Kept [w.heap.size+1+1] W ((W.drew).setCell ⟨w.heap.size+1+1,0,none⟩ (.bool r))/\Kept [] w ((W.drew).setCell ⟨w.heap.size+1+1,0,none⟩ (.bool r))/\((W.drew).setCell ⟨w.heap.size+1+1,0,none⟩ (.bool r)).heap[w.heap.size+1+1]?=some (gJ #[.bool r] 4)):=λr=>⟨((Kept.refl _ W).drew).setCell (.inl (by simp)) _,I.drew.setCell (.inr (by simp;omega)) _,gh (show W.drew.heap[w.heap.size+1+1]?=_ from Z) 0 _⟩;have a4:Hid (∀(r:Bool),Kept [w.heap.size+1+1] W ((W.drew.drew).setCell ⟨w.heap.size+1+1,0,none⟩ (.bool r))/\Kept [] w ((W.drew.drew).setCell ⟨w.heap.size+1+1,0,none⟩ (.bool r))/\((W.drew.drew).setCell ⟨w.heap.size+1+1,0,none⟩ (.bool r)).heap[w.heap.size+1+1]?=some (gJ #[.bool r] 4)):=λr=>⟨((Kept.refl _ W).drew.drew).setCell (.inl (by simp)) _,I.drew.drew.setCell (.inr (by simp;omega)) _,gh (show W.drew.drew.heap[w.heap.size+1+1]?=_ from Z) 0 _⟩;have HN:Hid (Kept [w.heap.size+1+1] W W.drew.drew):=(Kept.refl _ W).drew.drew
  try dsimp only
  rw[show kh (iD L.gQ (some i))=gL (L.gQ i)from rfl];have a9:prog.follows .mixedOrders=true:=rfl;gi_wp2;refine wH (Q:=λe a' G=>e=Exit.normal/\a'=({tmps:=#[Bp E,.func (.func S) #[] b,.func (.func X) #[] o,undef,gL w.heap.size,gL (w.heap.size+1),gL (w.heap.size+1+1),gL (L.gQ i),Bp E,gL E.bB,jF E.bB 188,uO H.heap.size,gL (L.gQ i),.bool (p (σ.nm i)),.func (.func S) #[] b,gL (L.gQ i),gL (L.gQ i),gL (L.gQ i),gI (σ.nm i),.bool (p (σ.nm i)),undef,undef,undef,undef,undef,undef,undef],defers:=[]}:Act)/\G=W.drew) ?_ ?_
  .gi_region_with_o (refine⟨trivial,?_⟩;refine(qD l (callsIn_wide.2 (HA _ HW))).mono ?_;rintro e G ⟨rfl,rfl⟩)
   all_goals simp
  rintro e a' G ⟨rfl,rfl,rfl⟩;cases hp:p (σ.nm i)with
  |true=>
   gi_wp2;have⟨t1,t2,t3⟩:=HT.out true;exact⟨t1,rfl,t2,pre,some i,true,rfl,B5,.inl ⟨hp,rfl⟩,t3⟩
  |false=>
   have HP:=hp;clear hp;gi_wp2;refine wH (Q:=λe a' G=>e=Exit.normal/\a'=({tmps:=#[Bp E,.func (.func S) #[] b,.func (.func X) #[] o,undef,gL w.heap.size,gL (w.heap.size+1),gL (w.heap.size+1+1),gL (L.gQ i),Bp E,gL E.bB,jF E.bB 188,uO H.heap.size,gL (L.gQ i),.bool false,.func (.func S) #[] b,gL (L.gQ i),gL (L.gQ i),gL (L.gQ i),gI (σ.nm i),.bool false,.bool (q (σ.nm i)),.func (.func X) #[] o,gL (L.gQ i),gL (L.gQ i),gL (L.gQ i),gI (σ.nm i),.bool (q (σ.nm i))],defers:=[]}:Act)/\G=W.drew.drew) ?_ ?_
   .gi_region_with_o (refine⟨trivial,?_⟩;refine(qD l (callsIn_wide.2 (HB _ HW.drew))).mono ?_;rintro e G ⟨rfl,rfl⟩)
    all_goals simp
   rintro e a' G ⟨rfl,rfl,rfl⟩;cases hq:q (σ.nm i)with
   |true=>
    gi_wp2;have⟨t1,t2,t3⟩:=a4.out false;exact⟨t1,rfl,t2,pre,some i,false,rfl,B5,.inr ⟨HP,hq,rfl⟩,t3⟩
   |false=>
    have HQ:=hq;clear hq;gi_wp2;refine⟨HN.out,I.drew.drew,B2,B3,Z,λy z=>?_⟩;rcases List.mem_append.1 z with z|z
    .exact B5 y z
    .rw[List.mem_singleton.1 z];exact⟨HP,HQ⟩
 case done=>
  rintro D W HD ⟨I,h2,R,J,N⟩ Y;have a:=HZ.out;have T:=fX J 0;have f3:=gG J 0;dsimp at T;have V:σ.inScope p q=false:=JK (λy z=>N y z);clear h2 R a N;gi_wp2;have a0:=(Kf W ⟨w.heap.size+1+1,0,none⟩ (.bool false)).same D _ Y rfl;refine⟨by simp,.inl ⟨_,_,rfl,nN a0,?_⟩⟩;have U:=cell_kept (World.cell?_setCell_same' W ⟨w.heap.size+1+1,0,none⟩ (.bool false) (by rw[T];rfl)) (xF _ D (.deferred none)) (λr e=>by cases e;exact⟨_,a0,rfl⟩);refine⟨.bool false,?_,⟨by rw[V],?_⟩⟩
  .simp[results,results219,go_sem,U]
  .have a:=HZ.out;have hD:=HD;exact(I.setCell (.inr (by simp;omega)) _).take (by omega) _
 case stop=>
  rintro D c pre W HD a2 ⟨rfl,I,d,y,r,rfl,R,J,N⟩ Y;have⟨rest,hrest⟩:=a2;have V:σ.inScope p q=r:=by unfold Ab.inScope;rw[<-hrest];exact JL J R
  have T:=fX N 0;dsimp at T;clear R J N hrest;gi_wp2;refine⟨by simp,.inl ⟨_,_,rfl,nN Y,?_⟩⟩;have U:=cell_kept T (xF _ D (.deferred none)) (λr e=>by cases e;exact⟨_,Y,rfl⟩);refine⟨.bool r,?_,⟨by rw[V],?_⟩⟩
  .simp[results,results219,go_sem,U]
  .have a:=HZ.out;have hD:=HD;exact I.take (by omega) _
section
attribute [local go_sem] Oper.semAt_some
def abS (f:FuncId):Fence.wide.fn f=True:=rfl
attribute [local go_sem] abS
attribute [local simp] abS
def DH {σ:Ab}:∀{a:kO},(∀y∈a,y≠some it/\iQ (σ.qS y)=false)->σ.nY it a=false
 |[],_=>rfl
 |x::a,h=>by
  unfold Ab.nY;have⟨h1,h2⟩:=h x (by simp);rw[gR h1,h2];exact DH λy b=>h y (by simp[b])
theorem DJ {σ:Ab} {r : Bool} (b:(y=some it/\r=true)\/(y≠some it/\iQ (σ.qS y)=true/\r=false)):∀{a:kO},(∀y∈a,y≠some it/\iQ (σ.qS y)=false)->σ.nY it (a++[y]++rest)=r
 |[],_=>by
  grind[Ab.nY]
 |x::a,h=>by
  show σ.nY it (x::(a++[y]++rest))=r;unfold Ab.nY;have⟨h1,h2⟩:=h x (by simp);rw[gR h1,h2];exact DJ b λy c=>h y (by simp[c])
theorem F2 {σ:Ab} (h:RF E f σ w) (it:Nat) (a4:σ.gX (some it)=true):
  Calls prog 269 #[Bp E,nV f it] w λe w'=>e=ir (.bool (σ.oJ it))/\Kept [] w w':=by
 obtain⟨L,rfl,d⟩:=h;have⟨fb,ab,lb0,cb,hb⟩:=d.bounds;have⟨kb,lbb,eb,heb,H2⟩:=hb.call;cases eb;refine(wI (n:=3)).1 ?_;refine wJ func269 rfl trivial ?_ rfl;simp only[ntmps269,wK,qd,uQ,Nat.reduceAdd,Nat.reduceSub,wL,wM,wN,wO,rQ,uR];obtain⟨H,u⟩:∃H,H=((w.alloc (gJ #[Bp E] 93)).alloc (gJ #[gL (L.gQ it)] 57)).alloc (gJ #[.bool false] 4):=⟨_,rfl⟩;have a0:Kept [] w H:=by rw[u];exact(((Kept.refl _ _).alloc _).alloc _).alloc _
 have⟨b0,b1,b2⟩:=ot w (gJ #[Bp E] 93) (gJ #[gL (L.gQ it)] 57) (gJ #[.bool false] 4);rw[<-u]at b0 b1 b2;have a:H.heap.size=w.heap.size+1+1+1:=by rw[u];simp
 have a7:=d.im a0;have⟨C,HL,hC⟩:=a7.yV;have a5:=d.lt;have HU:=V3 E.bs E.bB 188 _ C _ _ H HL;have a2:=(λ(W:gw) (o:Kept [] w W)=>(o.cell (p:=⟨E.bB,186,none⟩) a5 (by simp)).trans cb);have HO:=(λg (F:L.ov.ownBlock=some g)=>Cr d.o0 F);have HN:=(λ(W:gw) (o:Kept [] w W) (i:Nat) (e:zp) (hi:σ.ib i=some e)=>(d.im o).vh hi);have HS:=(λ(y:jg) (z:y∈σ.gA)=>d.oe z);have HI:=d.inj;have HE:=(λ(W:gw) (o:Kept [] w W) (x:jg) (hx:σ.gX x=true)=>(d.im o).gX hx);have Y:=fW a;have HW:=fW u;clear a u
 gi_wp2_with fail
 rw[<-HW.out];refine(callsIn_wide.2 HU).mono ?_;rintro e w' ⟨rfl,rfl⟩;gi_wp2;refine UQ (by omega) (f:=iD L.gQ) (λx y e=>rK HI e) HL rfl [w.heap.size+1+1] ?_
  (λpre W=>Kept [] w W/\W.heap[w.heap.size]?=some (gJ #[Bp E] 93)/\W.heap[w.heap.size+1]?=some (gJ #[gL (L.gQ it)] 57)/\W.heap[w.heap.size+1+1]?=some (gJ #[.bool false] 4)/\∀y∈pre,y≠some it/\iQ (σ.qS y)=false)
  (λc pre W=>c= .ret/\Kept [] w W/\∃b y r,pre=b++[y]/\(∀y∈b,y≠some it/\iQ (σ.qS y)=false)/\((y=some it/\r=true)\/(y≠some it/\iQ (σ.qS y)=true/\r=false))/\W.heap[w.heap.size+1+1]?=some (gJ #[.bool r] 4))
  ?_ ?_ ?_ (λx=>{tmps:=#[Bp E,gL (L.gQ it),gL w.heap.size,gL (w.heap.size+1),gL (w.heap.size+1+1),kh x,Bp E,gL E.bB,jF E.bB 188,uO H.heap.size,kh x,undef,undef,undef,undef,undef,undef,undef,undef,undef,undef,undef,undef,undef,undef],defers:=[]}) ?assign ?body ?done ?stop
 .grind
 .rintro s A B a9 ⟨h1,h2,T,G,J⟩ F d;have a:=Y.out;exact⟨lW h1 F d (by omega),kE h2 F d (by omega),kE T F d (by omega),kE G F d (by omega),J⟩
 .rintro c s A B a9 ⟨h0,h1,b,y,r,h2,T,G,J⟩ F d;have a:=Y.out;exact⟨h0,lW h1 F d (by omega),b,y,r,h2,T,G,kE J F d (by omega)⟩
 .have o:Kept [] H (mr E.bB 188 (σ.gA.length) H):=((Kept.refl _ _).alloc _).alloc _;exact⟨a0.trans o,o.at b0 (by simp),o.at b1 (by simp),o.at b2 (by simp),by simp⟩
 case assign=>
  intro l x W K U;gi_wp2;exact U
 case body=>
  rintro l pre y W z ⟨j,B2,B3,V,B5⟩;obtain⟨i,e0,rfl,hi⟩:=HS y z;have c0:=HN W j i e0 hi;have cB:=a2 W j;have c1:=fX B2 0;have c2:=fX B3 0;have I:=fX V 0;have f3:=gG V 0;dsimp at c1 c2 I;have HB:=(λW' (o:Kept [] w W')=>H2 W' (.gZ o) (σ.nm i));have HT:Hid (∀(q:Nat) (r:Bool),Kept [w.heap.size+1+1] W ((W.drewN q).setCell ⟨w.heap.size+1+1,0,none⟩ (.bool r))/\Kept [] w ((W.drewN q).setCell ⟨w.heap.size+1+1,0,none⟩ (.bool r))/\((W.drewN q).setCell ⟨w.heap.size+1+1,0,none⟩ (.bool r)).heap[w.heap.size+1+1]?=some (gJ #[.bool r] 4)):=λq r=>⟨((Kept.refl _ W).drewN q).setCell (.inl (by simp)) _,(j.drewN q).setCell (.inr (by simp;omega)) _,gh (show(W.drewN q).heap[w.heap.size+1+1]?=_ from V) 0 _⟩;have a3:Hid (∀(r:Bool),Kept [w.heap.size+1+1] W (W.setCell ⟨w.heap.size+1+1,0,none⟩ (.bool r))/\Kept [] w (W.setCell ⟨w.heap.size+1+1,0,none⟩ (.bool r))/\(W.setCell ⟨w.heap.size+1+1,0,none⟩ (.bool r)).heap[w.heap.size+1+1]?=some (gJ #[.bool r] 4)):=λr=>⟨(Kept.refl _ W).setCell (.inl (by simp)) _,j.setCell (.inr (by simp;omega)) _,gh V 0 _⟩;have O:=B9 (HE W j (some i) (by show(σ.ib i).isSome=true;rw[hi];rfl)) (HE W j (some it) a4);rw[show ptr (iD L.gQ (some i))=some ⟨L.gQ i,0,none⟩from rfl,show ptr (iD L.gQ (some it))=some ⟨L.gQ it,0,none⟩from rfl]at O
  try dsimp only
  rw[show kh (iD L.gQ (some i))=gL (L.gQ i)from rfl]
  by_cases R:i=it
  .subst R;rw[vn rfl]at O;gi_wp2;have⟨t1,t2,t3⟩:=a3.out true;exact⟨t1,rfl,t2,pre,some i,true,rfl,B5,.inl ⟨rfl,rfl⟩,t3⟩
  .have a6:L.gQ i≠L.gQ it:=λe=>R (HI _ _ e);have X:(some i:jg)≠some it:=λe=>R (jK e);rw[xm (by simpa using a6)]at O;gi_wp2;refine As l (by kernel_rfl) (by kernel_rfl) (by rfl) ?_
   repeat (gi_big_quiet_step ((exact callsIn_wide.2 (Fs (HB _ (j.drewN _))))))
   refine wpQuietIn_nil ?_;intro _ a8;have⟨nq,hw''⟩:=a8;subst hw'';cases hq:iQ (σ.nm i)with
   |true=>
    gi_wp2;have⟨t1,t2,t3⟩:=HT.out nq false;exact⟨t1,rfl,t2,pre,some i,false,rfl,B5,.inr ⟨X,hq,rfl⟩,t3⟩
   |false=>
    have HQ:=hq;gi_wp2;refine⟨(Kept.refl _ W).drewN nq,j.drewN nq,B2,B3,V,λy z=>?_⟩;rcases List.mem_append.1 z with z|z
    .exact B5 y z
    .rw[List.mem_singleton.1 z];exact⟨X,HQ⟩
 case done=>
  rintro D W HD ⟨j,h2,T,G,J⟩ U;have a:=Y.out;have I:=fX G 0;have f3:=gG G 0;dsimp at I;have S:σ.oJ it=false:=DH (λy z=>J y z);clear a;gi_wp2;have Z:=(Kf W ⟨w.heap.size+1+1,0,none⟩ (.bool false)).same D _ U rfl;refine⟨by simp,.inl ⟨_,_,rfl,nN Z,?_⟩⟩;have N:=cell_kept (World.cell?_setCell_same' W ⟨w.heap.size+1+1,0,none⟩ (.bool false) (by rw[I];rfl)) (xF _ D (.deferred none)) (λr e=>by cases e;exact⟨_,Z,rfl⟩);refine⟨.bool false,?_,⟨by rw[S],?_⟩⟩
  .simp[results,results269,go_sem,N]
  .have a:=Y.out;have hD:=HD;exact(j.setCell (.inr (by simp;omega)) _).take (by omega) _
 case stop=>
  rintro D c pre W HD a1 ⟨rfl,j,b,y,r,rfl,T,G,J⟩ U;have⟨rest,hrest⟩:=a1;have S:σ.oJ it=r:=by unfold Ab.oJ;rw[<-hrest];exact DJ G T
  have I:=fX J 0;dsimp at I;gi_wp2;refine⟨by simp,.inl ⟨_,_,rfl,nN U,?_⟩⟩;have N:=cell_kept I (xF _ D (.deferred none)) (λr e=>by cases e;exact⟨_,U,rfl⟩);refine⟨.bool r,?_,⟨by rw[S],?_⟩⟩
  .simp[results,results269,go_sem,N]
  .have a:=Y.out;have hD:=HD;exact j.take (by omega) _
end
theorem K8 (s:gz) (w:gw):Calls prog 277 #[gI s] w λe b=>e=ir (gp (jQ s))/\b=w:=by
 have a:jQ s=if (s.toList==[116,100]||s.toList==[116,104])then 13 else if s.toList==[116,114]then 12 else if (s.toList==[116,98,111,100,121]||(s.toList==[116,104,101,97,100]||s.toList==[116,102,111,111,116]))then 11 else if s.toList==[99,97,112,116,105,111,110]then 9 else if s.toList==[99,111,108,103,114,111,117,112]then 10 else if s.toList==[116,97,98,108,101]then 7 else 6:=by
  unfold jQ ik kA;simp only[List.any_cons,List.any_nil,Bool.or_false,sH]
 rw[a];go_enter func277,ntmps277;go_wp2
 all_goals go_ret
 all_goals refine⟨?_,rfl⟩
 all_goals simp_all
attribute [local go_sem] Oper.semAt_some
theorem Kept.both {a : gw} (h:Kept [] a w) {b : Nat} {c : jO} {t : TypeId} (r:a.heap[b]?=some (gJ c t)) (j:Nat) (v:gP):Kept [] (a.setCell ⟨b,j,none⟩ v) (w.setCell ⟨b,j,none⟩ v):=by
 have g:=(Kept.refl [b] a).setCell (p:=⟨b,j,none⟩) (.inl (by simp)) v;have i:=(Kept.refl [b] w).setCell (p:=⟨b,j,none⟩) (.inl (by simp)) v;have d:(a.setCell ⟨b,j,none⟩ v).heap.size=a.heap.size:=by simp
 have o:(w.setCell ⟨b,j,none⟩ v).heap.size=w.heap.size:=by simp
 refine⟨i.os.trans (h.os.trans g.os.symm),i.tape.trans (h.tape.trans g.tape.symm),i.output.trans (h.output.trans g.output.symm),by rw[d,o];exact h.size,λk e _=>?_⟩;rw[d]at e
 by_cases l:k=b
 .subst l;exact(gh (h.at r (by simp)) j v).trans (gh r j v).symm
 .rw[i.block k (lU e h.size) (by grind),g.block k e (by grind),h.block k e (by simp)]
def JB {σ:Ab}:∀{a:kO},(∀y∈a,jQ (σ.qS y)=6)->tW σ a=6
 |[],_=>rfl
 |x::a,h=>by
  unfold tW;rw[gF (h x (by simp))];exact JB λy b=>h y (by simp[b])
theorem JC {σ:Ab} (b:jQ (σ.qS y)≠6):∀{a:kO},(∀y∈a,jQ (σ.qS y)=6)->tW σ (a++[y]++rest)=jQ (σ.qS y)
 |[],_=>by
  grind[tW]
 |x::a,h=>by
  show tW σ (x::(a++[y]++rest))=_;unfold tW;rw[gF (h x (by simp))];exact JC b λy c=>h y (by simp[c])
theorem Uv {σ:Ab} (h:RF E f σ w):
  Calls prog 211 #[Bp E] w (j8 E f σ.nodes.length w (xC σ) uV):=by
 obtain⟨L,rfl,d⟩:=h;refine(wI (n:=3)).1 ?_;refine wJ func211 rfl trivial ?_ rfl;simp only[ntmps211,wK,qd,uQ,Nat.reduceAdd,Nat.reduceSub,wL,wM,wN,wO,rQ,uR];have a9:=d.lt;have cm:=d.rH;have fm:=d.free 192;have a6:=d.jc 6;have a5:Fr E.bs w (w.setCell ⟨E.bB,192,none⟩ (gp ((6:Nat)))):=(At.start ⟨L,rfl,d⟩).KO 192 _;obtain⟨j,u⟩:∃j,j=(w.setCell ⟨E.bB,192,none⟩ (gp 6)).alloc (gJ #[Bp E] 93):=⟨_,rfl⟩;have Y:Kept [] (w.setCell ⟨E.bB,192,none⟩ (gp 6)) j:=by rw[u];exact(Kept.refl _ _).alloc _
 have b0:j.heap[w.heap.size]?=some (gJ #[Bp E] 93):=by
  rw[u];have:=fZ (w.setCell ⟨E.bB,192,none⟩ (gp 6)) (gJ #[Bp E] 93)
  simpa using this
 have G:j.heap.size=w.heap.size+1:=by rw[u];simp
 have b:=a6.im Y;have⟨C,HL,hC⟩:=b.yV;have HU:=V3 E.bs E.bB 188 _ C _ _ j HL;have HO:=(λg (V:L.ov.ownBlock=some g)=>Cr d.o0 V);have HN:=(λ(W:gw) (X:Kept [] j W) (i:Nat) (e:zp) (hi:σ.ib i=some e)=>(show W.cell? ⟨L.gQ i,0,none⟩=some (gI (σ.nm i))from(b.im X).vh (σ:={σ with mode:=6}) hi));have HS:=(λ(y:jg) (F:y∈σ.gA)=>d.oe F);have HI:=d.inj;have HM:=(λ(W:gw) (X:Kept [] j W)=>(⟨(b.im X).rH,(b.im X).free 192,(b.im X).lt⟩:_/\_/\_));have I:=fW b;have S:=a5.trans (.gZ Y);have a1:=HL.iw;have a8:=d.fr.size;clear b;have HZ:=fW G;have HW:=fW u;clear G u
 gi_wp2_with fail
 rw[<-HW.out];refine⟨trivial,(callsIn_wide.2 HU).mono ?_⟩;rintro e w' ⟨rfl,rfl⟩;gi_wp2;refine Ef (by omega) (f:=iD L.gQ) (λx y e=>rK HI e) HL rfl [] [E.bB] (by simp) (by grind)
  (λpre W=>Kept [] j W/\∀y∈pre,jQ (σ.qS y)=6)
  (λc pre W=>c= .ret/\∃a y,pre=a++[y]/\(∀y∈a,jQ (σ.qS y)=6)/\jQ (σ.qS y)≠6/\Kept [] (j.setCell ⟨E.bB,192,none⟩ (gp (jQ (σ.qS y)))) W)
  ?_ ?_ ?_ (λx=>{tmps:=#[Bp E,gL w.heap.size,kh x,undef,Bp E,gL E.bB,jF E.bB 192,Bp E,gL E.bB,jF E.bB 188,uO j.heap.size,kh x,undef,undef,undef,undef,undef,undef,undef,undef,undef,undef,undef],defers:=[]}) ?assign ?body ?done ?stop
 .rintro s A B a7 ⟨o,z⟩ V d;exact⟨lW o V d (by omega),z⟩
 .rintro c s A B a7 ⟨h0,a,y,h2,h3,h4,z⟩ V d;exact⟨h0,a,y,h2,h3,h4,lW z V d (by simp)⟩
 .exact⟨((Kept.refl _ _).alloc _).alloc _,by simp⟩
 case assign=>
  intro l x W K U;gi_wp2;exact U
 case body=>
  rintro l pre y W F ⟨o,B5⟩;obtain⟨i,e0,rfl,hi⟩:=HS y F;have c0:=HN W o i e0 hi;have c1:=fX (o.at b0 (by simp)) 0;dsimp at c1;have⟨c2,f2,hl2⟩:=HM W o;have HB:=(λW=>K8 (σ.nm i) W);have T:=fW o;have HT:=(λv=>(Kept.refl [E.bB] W).setCell (p:=⟨E.bB,192,none⟩) (.inl (by simp)) v);have a4:=(λv=>o.both a1 192 v);clear o
  try dsimp only
  rw[show kh (iD L.gQ (some i))=gL (L.gQ i)from rfl];obtain⟨R,J⟩:∃R,R=jQ (σ.nm i):=⟨_,rfl⟩;rw[<-J]at HB;have H:Hid (jQ (σ.qS (some i))=R):=fW J.symm;clear J
  gi_wp2_with (first|(refine⟨trivial,?_⟩;refine(qD l (callsIn_wide.2 (HB _))).mono ?_;rintro e W ⟨rfl,rfl⟩))
  .rename_i N;have Z:R≠6:=by intro e;subst e;simp at N
   refine⟨HT _,rfl,pre,some i,rfl,B5,by rw[H.out];omega,?_⟩;rw[H.out];exact a4 _
  .rename_i N;have Z:R=6:=by
    have:¬((R:Int)≠6):=by simpa using N
    omega
   refine⟨Kept.refl _ _,T.out,λy F=>?_⟩;rcases List.mem_append.1 F with F|F
   .exact B5 y F
   .rw[List.mem_singleton.1 F,H.out];omega
 case done=>
  rintro D W HD ⟨o,z⟩ U;have O:xC σ= .ok () {σ with mode:=6}:=by
   show pG.ok () {σ with mode:=tW σ σ.gA.reverse}=_;rw[JB z]
  rw[O];have T:=fW o;clear o z;gi_wp2;refine⟨by simp,.inl ⟨_,_,rfl,nN U,?_⟩⟩;have G:=HZ.out;have hD:=HD;have r:=T.out.take (D:=D) (by omega) (.deferred none);exact⟨_,Ki rfl _ _ _,rfl,⟨L,rfl,I.out.im r⟩,S.trans (.gZ r),ij _⟩
 case stop=>
  rintro D c pre W HD a0 ⟨rfl,a,y,rfl,h3,h4,z⟩ U;have⟨rest,hrest⟩:=a0;have O:xC σ= .ok () {σ with mode:=jQ (σ.qS y)}:=by
   show pG.ok () {σ with mode:=tW σ σ.gA.reverse}=_;rw[<-hrest,JC h4 h3]
  rw[O];have a3:=I.out.jc (jQ (σ.qS y));have a2:Fr E.bs j (j.setCell ⟨E.bB,192,none⟩ (gp (jQ (σ.qS y)))):=(At.start ⟨L,rfl,I.out⟩).KO 192 _;have T:=fW z;clear z;gi_wp2;refine⟨by simp,.inl ⟨_,_,rfl,nN U,?_⟩⟩;have G:=HZ.out;have hD:=HD;have r:=T.out.take (D:=D) (by simp;omega) (.deferred none);exact⟨_,Ki rfl _ _ _,rfl,⟨L,rfl,a3.im r⟩,(S.trans a2).trans (.gZ r),ij _⟩
section
attribute [local go_sem] Oper.semAt_some
attribute [local go_sem] abS
attribute [local simp] abS
def Ab.iw (σ:Ab) (pre:kO) (b:jg):jg:=pre.foldl (λb y=>if lc (σ.qS y)then y else b) b
def Hu {σ:Ab}:∀{a:kO} {b:jg},(∀y∈a,y≠some it)->σ.uY it a b=σ.iw a b
 |[],_,_=>rfl
 |x::a,b,h=>by
  unfold Ab.uY;rw[gR (h x (by simp))];exact Hu λy c=>h y (by simp[c])
theorem Hw {σ:Ab}:∀{a:kO} {b:jg},(∀y∈a,y≠some it)->σ.uY it (a++[some it]++rest) b=σ.iw a b
 |[],b,_=>by
  grind[Ab.uY,Ab.iw]
 |x::a,b,h=>by
  show σ.uY it (x::(a++[some it]++rest)) b=_;unfold Ab.uY;rw[gR (h x (by simp))];exact Hw λy c=>h y (by simp[c])
def OU (σ:Ab) (pre:kO) (y b:jg):σ.iw (pre++[y]) b=if lc (σ.qS y)then y else σ.iw pre b:=by
 simp[Ab.iw]
theorem Kz {σ:Ab} (h:RF E f σ w) (it:Nat) (a1:σ.gX (some it)=true):
  Calls prog 337 #[Bp E,nV f it] w λe w'=>e=ir (oV f (σ.qj it))/\Kept [] w w':=by
 obtain⟨L,rfl,b⟩:=h;have⟨fb,ab,lb0,cb,hb⟩:=b.G1;have⟨kb,lbb,eb,heb,H2⟩:=hb.call;cases eb;refine(wI (n:=3)).1 ?_;refine wJ func337 rfl trivial ?_ rfl;simp only[ntmps337,wK,qd,uQ,Nat.reduceAdd,Nat.reduceSub,wL,wM,wN,wO,rQ,uR];obtain⟨G,z⟩:∃G,G=((w.alloc (gJ #[Bp E] 93)).alloc (gJ #[gL (L.gQ it)] 57)).alloc (gJ #[.pointer none] 57):=⟨_,rfl⟩;have V:Kept [] w G:=by rw[z];exact(((Kept.refl _ _).alloc _).alloc _).alloc _
 have⟨b0,b1,b2⟩:=ot w (gJ #[Bp E] 93) (gJ #[gL (L.gQ it)] 57) (gJ #[.pointer none] 57);rw[<-z]at b0 b1 b2;have d:G.heap.size=w.heap.size+1+1+1:=by rw[z];simp
 have a4:=b.im V;have⟨C,HL,hC⟩:=a4.yV;have a2:=b.lt;have HU:=V3 E.bs E.bB 188 _ C _ _ G HL;have a0:=(λ(W:gw) (o:Kept [] w W)=>(o.cell (p:=⟨E.bB,184,none⟩) a2 (by simp)).trans cb);have HO:=(λg (F:L.ov.ownBlock=some g)=>Cr b.o0 F);have HN:=(λ(W:gw) (o:Kept [] w W) (i:Nat) (e:zp) (hi:σ.ib i=some e)=>(b.im o).vh hi);have HS:=(λ(y:jg) (O:y∈σ.gA)=>b.oe O);have HI:=b.inj;have HE:=(λ(W:gw) (o:Kept [] w W) (x:jg) (hx:σ.gX x=true)=>(b.im o).gX hx);have Y:=fW d;have HW:=fW z;clear d z
 gi_wp2_with fail
 rw[<-HW.out];refine(callsIn_wide.2 HU).mono ?_;rintro e w' ⟨rfl,rfl⟩;gi_wp2;refine Ef (by omega) (f:=iD L.gQ) (λx y e=>rK HI e) HL rfl [w.heap.size+1+1] [] ?_ (by simp)
  (λpre W=>Kept [] w W/\W.heap[w.heap.size]?=some (gJ #[Bp E] 93)/\W.heap[w.heap.size+1]?=some (gJ #[gL (L.gQ it)] 57)/\W.heap[w.heap.size+1+1]?=some (gJ #[oV L.gQ (σ.iw pre none)] 57)/\∀y∈pre,y≠some it)
  (λc pre W=>c= .exit 0/\Kept [] w W/\∃a,pre=a++[some it]/\(∀y∈a,y≠some it)/\W.heap[w.heap.size+1+1]?=some (gJ #[oV L.gQ (σ.iw a none)] 57))
  ?_ ?_ ?_ (λx=>{tmps:=#[Bp E,gL (L.gQ it),gL w.heap.size,gL (w.heap.size+1),.pointer none,gL (w.heap.size+1+1),kh x,Bp E,gL E.bB,jF E.bB 188,uO G.heap.size,kh x,undef,undef,undef,undef,undef,undef,undef,undef,undef,undef,undef,undef,undef,undef],defers:=[]}) ?assign ?body ?done ?stop
 .grind
 .rintro s A B a6 ⟨h1,Z,R,h4,I⟩ F b;have d:=Y.out;exact⟨lW h1 F b (by omega),kE Z F b (by omega),kE R F b (by omega),kE h4 F b (by omega),I⟩
 .rintro c s A B a6 ⟨h0,h1,a,Z,R,I⟩ F b;have d:=Y.out;exact⟨h0,lW h1 F b (by omega),a,Z,R,kE I F b (by omega)⟩
 .have o:Kept [] G (mr E.bB 188 (σ.gA.length) G):=((Kept.refl _ _).alloc _).alloc _;exact⟨V.trans o,o.at b0 (by simp),o.at b1 (by simp),o.at b2 (by simp),by simp⟩
 case assign=>
  intro l x W K U;gi_wp2;exact U
 case body=>
  rintro l pre y W O ⟨j,B2,B3,S,B5⟩;obtain⟨i,e0,rfl,hi⟩:=HS y O;have c0:=HN W j i e0 hi;have cB:=a0 W j;have c1:=fX B2 0;have c2:=fX B3 0;have T:=fX S 0;have f3:=gG S 0;dsimp at c1 c2 T;have HB:=(λW' (o:Kept [] w W')=>H2 W' (.gZ o) (σ.nm i));have HT:Hid (∀(q:Nat) (r:gP),Kept [w.heap.size+1+1] W ((W.drewN q).setCell ⟨w.heap.size+1+1,0,none⟩ r)/\Kept [] w ((W.drewN q).setCell ⟨w.heap.size+1+1,0,none⟩ r)/\((W.drewN q).setCell ⟨w.heap.size+1+1,0,none⟩ r).heap[w.heap.size+1+1]?=some (gJ #[r] 57)/\((W.drewN q).setCell ⟨w.heap.size+1+1,0,none⟩ r).heap[w.heap.size]?=some (gJ #[Bp E] 93)/\((W.drewN q).setCell ⟨w.heap.size+1+1,0,none⟩ r).heap[w.heap.size+1]?=some (gJ #[gL (L.gQ it)] 57)):=λq r=>
   have kk:=((Kept.refl [w.heap.size+1+1] W).drewN q).setCell (p:=⟨w.heap.size+1+1,0,none⟩) (.inl (by simp)) r
   ⟨kk,(j.drewN q).setCell (.inr (by simp;omega)) _,gh (show(W.drewN q).heap[w.heap.size+1+1]?=_ from S) 0 _,kk.at B2 (by simp;omega),kk.at B3 (by simp)⟩
  have J:=B9 (HE W j (some i) (by show(σ.ib i).isSome=true;rw[hi];rfl)) (HE W j (some it) a1);rw[show ptr (iD L.gQ (some i))=some ⟨L.gQ i,0,none⟩from rfl,show ptr (iD L.gQ (some it))=some ⟨L.gQ it,0,none⟩from rfl]at J
  try dsimp only
  rw[show kh (iD L.gQ (some i))=gL (L.gQ i)from rfl]
  by_cases N:i=it
  .subst N;rw[vn rfl]at J;gi_wp2;exact⟨Kept.refl _ _,rfl,j,pre,rfl,B5,S⟩
  .have a3:L.gQ i≠L.gQ it:=λe=>N (HI _ _ e);have a7:(some i:jg)≠some it:=λe=>N (jK e);rw[xm (by simpa using a3)]at J;gi_wp2;refine As l (by kernel_rfl) (by kernel_rfl) (by rfl) ?_
   repeat (gi_big_quiet_step ((exact callsIn_wide.2 (Fs (HB _ (j.drewN _))))))
   refine wpQuietIn_nil ?_;intro _ a5;have⟨nq,hw''⟩:=a5;subst hw'';cases hq:lc (σ.nm i)with
   |true=>
    have HQ:=fW hq;clear hq;gi_wp2;have⟨t1,t2,t3,t4,t5⟩:=HT.out nq (gL (L.gQ i));refine⟨t1,t2,t4,t5,?_,λy O=>?_⟩
    .rw[OU,show σ.qS (some i)=σ.nm i from rfl,HQ.out];exact t3
    grind
   |false=>
    have HQ:=fW hq;clear hq;gi_wp2;refine⟨(Kept.refl _ W).drewN nq,j.drewN nq,B2,B3,?_,λy O=>?_⟩
    .rw[OU,show σ.qS (some i)=σ.nm i from rfl,HQ.out];exact S
    grind
 case done=>
  rintro D W HD ⟨j,Z,R,h4,I⟩ U;have T:=fX h4 0;dsimp at T;have u:σ.qj it=σ.iw σ.gA.reverse none:=Hu (λy O=>I y O);have H:=fW u;clear u;gi_wp2;refine⟨by simp,.inl ⟨_,_,rfl,nN U,?_⟩⟩;have d:=Y.out;have hD:=HD;exact⟨_,results_tmp rfl _ _ _,by rw[H.out];rfl,j.take (by omega) _⟩
 case stop=>
  rintro D c pre W HD X ⟨rfl,j,a,rfl,R,I⟩ U;have⟨rest,hrest⟩:=X;have u:σ.qj it=σ.iw a none:=by unfold Ab.qj;rw[<-hrest];exact Hw R
  have H:=fW u;have T:=fX I 0;dsimp at T;clear u;gi_wp2;refine⟨by simp,.inl ⟨_,_,rfl,nN U,?_⟩⟩;have d:=Y.out;have hD:=HD;exact⟨_,results_tmp rfl _ _ _,by rw[H.out];rfl,j.take (by omega) _⟩
end
def lr (E:Env):Prop:=j9 E 249 (λ_=>#[Bp E]) j4 pV
def yX (f:Nat->Nat) (n k:Nat):nV (Gx f n k) n=gL k:=by simp[Gx]
def BG (E:Env) (w:gw):Calls prog 202 #[] w λe b=>∃k lb,e=ir (.func (.func k) #[] lb)/\Ask E.bm (.func (.func k) #[] lb) AA b/\Kept [] w b:=by
 have C:=YD E.bm [gg,gq,gr,gu,ie] w (by decide);go_enter func202,ntmps202
 go_wp21
 refine C.mono ?_;rintro e j ⟨h,g,i,rfl,a,d⟩;have⟨k,lb,e0,_,_⟩:=a.call;cases e0;have c:=fW a;clear a;go_wp2;go_ret;exact⟨_,_,rfl,c,d⟩
def PJ (E:Env) (c:j9 E 87 (λ_=>#[Bp E]) mV pV) (j:Nat):j9 E 250 (λf=>#[Bp E,nV f j]) (mi j) uV:=by
 refine mI λf σ w R a HS H=>?_;unfold mi at a;go_enter func250,ntmps250
 go_wp21
 refine mC (c) H a HS rfl mT ?_;rintro(d) σ w H b a
 go_wp21
 refine mC (DY E d j) H a HS rfl mT ?_;rintro(_) σ w H b a
 go_wp21
 refine mC (N0 E (some j)) H a HS rfl mT ?_;rintro(_) σ w H b a;go_wp2;go_end0;exact jZ a H rfl
def K4 (E:Env) (c:j9 E 87 (λ_=>#[Bp E]) mV pV) (s:gz):ja E 169 (λ_=>#[Bp E,gI s]) (km s) uV:=by
 refine dI λf σ w R a HS H=>?_;unfold km at a;go_enter func169,ntmps169;have b:=H.F8 s;replace a:Hid (R=(mi σ.nodes.length>>=λ_=>pure ()) (σ.add (.el {name:=s,gV:=[],je:=none,kids:=[]}))):=a;have H:=b
 go_wp21
 refine mC (PJ E c σ.nodes.length) H a HS (by rw[yX]) lT ?_;rintro(_) σ w H d a;go_wp2;go_end0;exact gv a H rfl
abbrev xK (E:Env) (p:gz->Bool) (w:gw) (e:Ending) (w':gw):Prop:=∃k lb,e=ir (.func (.func k) #[] lb)/\Ask E.bm (.func (.func k) #[] lb) p w'/\Kept [] w w'
theorem RF.bounds {σ:Ab} (h:RF E f σ w):∃k lb,w.cell? ⟨E.bB,186,none⟩=some (.func (.func k) #[] lb)/\Ask E.bm (.func (.func k) #[] lb) iQ w:=by
 have⟨L,_,hr⟩:=h;have⟨f1,a1,l1,c,ha⟩:=hr.bounds;have⟨k,lb,e,_,_⟩:=ha.call
 grind
theorem RF.G1 {σ:Ab} (h:RF E f σ w):∃k lb,w.cell? ⟨E.bB,184,none⟩=some (.func (.func k) #[] lb)/\Ask E.bm (.func (.func k) #[] lb) lc w:=by
 have⟨L,_,hr⟩:=h;have⟨f1,a1,l1,c,ha⟩:=hr.G1;have⟨k,lb,e,_,_⟩:=ha.call
 grind
def RF.lt {σ:Ab} (h:RF E f σ w):E.bB < w.heap.size:=by have⟨L,_,hr⟩:=h;exact hr.lt
theorem nk (E:Env) (a:List gz) (w:gw) (b:a.length<=4096):
  Calls prog 206 #[rh w.heap.size a.length a.length] (w.alloc (gJ (a.map Value.string).toArray 9)) (xK E (ik a) w):=by
 refine(YD E.bm a w b).mono ?_;rintro e j ⟨g,d,i,rfl,c,h⟩;have⟨k,lb,e,_,_⟩:=c.call
 grind
theorem SQ (E:Env) (v1 v2:gP) (p q:gz->Bool) (w:gw) (b:Ask E.bm v1 p w) (c:Ask E.bm v2 q w):
  Calls prog 226 #[v1,v2] w (xK E (λs=>p s||q s) w):=by
 refine(acC E.bm v1 v2 p q w b c).mono ?_;rintro e j ⟨g,d,i,rfl,a,h⟩;have⟨k,lb,e,_,_⟩:=a.call
 grind
def zu {σ:Ab} (h:RF E f σ w):Calls prog 268 #[Bp E] w (xK E Dk w):=by
 have⟨kb,lbb,cb,HB⟩:=h.bounds;have o:=h.lt;have s:=cb;have r:=nk E [hU] w.drew (by decide);go_enter func268,ntmps268
 go_wp21
 go_region_with (first
  |(go_at_call 206;refine r.mono ?_;rintro e z ⟨B,u,rfl,c,a⟩;have A:z.cell? ⟨E.bB,186,none⟩=some (.func (.func kb) #[] lbb):=(a.cell (p:=⟨E.bB,186,none⟩) o (by simp)).trans s;have i:=fW c;have b:=fW a;clear c a)
  |(go_at_call 226;refine(SQ E _ _ _ _ _ (HB.k0 (((Kept.refl _ w).drew).trans b)) i).mono ?_;rintro e D ⟨C,x,rfl,d,g⟩;have j:=fW d;have l:=fW ((((Kept.refl _ w).drew).trans b).trans g);clear d g))
 all_goals go_wp2
 all_goals go_ret
 all_goals exact⟨_,_,rfl,j,l⟩
def K5 {σ:Ab} (h:RF E f σ w):Calls prog 267 #[Bp E] w (xK E acr w):=by
 have⟨kb,lbb,cb,HB⟩:=h.bounds;have o:=h.lt;have s:=cb;have r:=nk E [oz] w.drew (by decide);go_enter func267,ntmps267
 go_wp21
 go_region_with (first
  |(go_at_call 206;refine r.mono ?_;rintro e z ⟨B,u,rfl,c,a⟩;have A:z.cell? ⟨E.bB,186,none⟩=some (.func (.func kb) #[] lbb):=(a.cell (p:=⟨E.bB,186,none⟩) o (by simp)).trans s;have i:=fW c;have b:=fW a;clear c a)
  |(go_at_call 226;refine(SQ E _ _ _ _ _ (HB.k0 (((Kept.refl _ w).drew).trans b)) i).mono ?_;rintro e D ⟨C,x,rfl,d,g⟩;have j:=fW d;have l:=fW ((((Kept.refl _ w).drew).trans b).trans g);clear d g))
 all_goals go_wp2
 all_goals go_ret
 all_goals exact⟨_,_,rfl,j,l⟩
def wF (E:Env) (w:gw):Calls prog 210 #[] w (xK E Az w):=by
 have C:=nk E [fY,gg] w (by decide);go_enter func210,ntmps210
 go_wp21
 refine C.mono ?_;rintro e c ⟨k,lb,rfl,a,b⟩;go_wp2;go_ret;exact⟨_,_,rfl,a,b⟩
def Mx (E:Env) (w:gw):Calls prog 110 #[] w (xK E (ik [gg]) w):=by
 have C:=nk E [gg] w (by decide);go_enter func110,ntmps110
 go_wp21
 refine C.mono ?_;rintro e c ⟨k,lb,rfl,a,b⟩;go_wp2;go_ret;exact⟨_,_,rfl,a,b⟩
def JX (E:Env) (w:gw):Calls prog 122 #[] w (xK E (ik [gq,gr,gu]) w):=by
 have C:=nk E [gq,gr,gu] w (by decide);go_enter func122,ntmps122
 go_wp21
 refine C.mono ?_;rintro e c ⟨k,lb,rfl,a,b⟩;go_wp2;go_ret;exact⟨_,_,rfl,a,b⟩
def Uw (E:Env) (w:gw):Calls prog 220 #[] w (xK E (ik [ie]) w):=by
 have C:=nk E [ie] w (by decide);go_enter func220,ntmps220
 go_wp21
 refine C.mono ?_;rintro e c ⟨k,lb,rfl,a,b⟩;go_wp2;go_ret;exact⟨_,_,rfl,a,b⟩
def Vr (E:Env) (w:gw):Calls prog 221 #[] w (xK E (ik [iy,iA]) w):=by
 have C:=nk E [iy,iA] w (by decide);go_enter func221,ntmps221
 go_wp21
 refine C.mono ?_;rintro e c ⟨k,lb,rfl,a,b⟩;go_wp2;go_ret;exact⟨_,_,rfl,a,b⟩
def F0 (E:Env) (w:gw):Calls prog 261 #[] w (xK E (ik [me,mf]) w):=by
 have C:=nk E [me,mf] w (by decide);go_enter func261,ntmps261
 go_wp21
 refine C.mono ?_;rintro e c ⟨k,lb,rfl,a,b⟩;go_wp2;go_ret;exact⟨_,_,rfl,a,b⟩
def tR (E:Env) (w:gw):Calls prog 223 #[] w (xK E (ik [gO]) w):=by
 have C:=nk E [gO] w (by decide);go_enter func223,ntmps223
 go_wp21
 refine C.mono ?_;rintro e c ⟨k,lb,rfl,a,b⟩;go_wp2;go_ret;exact⟨_,_,rfl,a,b⟩
def qT (E:Env) (w:gw):Calls prog 224 #[] w (xK E (ik [gn]) w):=by
 have C:=nk E [gn] w (by decide);go_enter func224,ntmps224
 go_wp21
 refine C.mono ?_;rintro e c ⟨k,lb,rfl,a,b⟩;go_wp2;go_ret;exact⟨_,_,rfl,a,b⟩
def To.ml {L : Loc} {σ σ':Ab} {w' : gw} {α:Type} {b:(Nat->Nat)->α->gP} {a:α} {e : Ending} (h:To E L σ' w w') (c:e=ir (b L.gQ a)) (d:σ.nodes.length<=σ'.nodes.length):j8 E L.gQ σ.nodes.length w (.ok a σ') b e w':=by
 have⟨L',e1,h3,h4⟩:=h;exact⟨c,⟨L',e1,h3⟩,h4,d⟩
def adZ {σ:Ab} (h:RF E f σ w) (a:Ask E.bm v p w):
  Calls prog 275 #[Bp E,v] w (j8 E f σ.nodes.length w (.ok () (σ.Fl p)) uV):=by
 obtain⟨L,rfl,b⟩:=h;exact(ab2 b v p a).mono (λe c h=>h.2.ml h.1 (ij _))
theorem vC {σ:Ab} (h:RF E f σ w) (a:Ask E.bm v p w):
  Calls prog 222 #[Bp E,v] w (j8 E f σ.nodes.length w (pZ p σ) uV):=by
 obtain⟨L,rfl,b⟩:=h;exact(Y7 b v p a).mono (λe c h=>h.2.ml h.1 (by unfold Ab.Jr;grind[Ab.pop]))
def Eu {σ:Ab} (h:RF E f σ w) (a:Ask E.bm (.func (.func k) #[] lb) p w):
  Calls prog 203 #[Bp E,.func (.func k) #[] lb] w (j8 E f σ.nodes.length w (uE p σ) uV):=by
 obtain⟨L,rfl,b⟩:=h;exact(RZ b _ _ _ p a).mono (λe c h=>h.2.ml h.1 (ij _))
def KX {σ:Ab} (h:RF E f σ w):
  Calls prog 270 #[Bp E] w (j8 E f σ.nodes.length w (wG (λσ=>σ.mD) σ) uV):=by
 obtain⟨L,rfl,a⟩:=h;exact(IR a).mono (λe b h=>h.2.ml h.1 (ij _))
def AQ {σ:Ab} (h:RF E f σ w) (a:Ask E.bm v p w):
  Calls prog 201 #[Bp E,v] w λe c=>e=ir (.bool (σ.current p))/\c=w:=by
 obtain⟨L,rfl,b⟩:=h;exact yI b v p a
def yG {σ:Ab} (h:RF E f σ w) {i j : Nat} {b c : jO} (g:Ask E.bm (.func (.func i) #[] b) p w) (x:Ask E.bm (.func (.func j) #[] c) q w):
  Calls prog 209 #[Bp E,.func (.func i) #[] b,.func (.func j) #[] c] w (j8 E f σ.nodes.length w (ni p q σ) bV):=by
 have d:=vI h p q _ _ g x;have o:=g;have H:=At.start h;unfold ni;cases hi:σ.inScope p q with
 |false=>
  rw[hi]at d;rw[gR (by simp)];go_enter func209,ntmps209
  go_wp21
  refine d.mono ?_;rintro e z ⟨rfl,a⟩;replace H:=H.k0 a;go_wp2;go_ret;exact jZ rfl H rfl
 |true=>
  rw[hi]at d;rw[gF (by simp)];go_enter func209,ntmps209
  go_wp21
  refine d.mono ?_;rintro e z ⟨rfl,a⟩;have l:=adZ (H.k0 a).rel (o.k0 a);replace H:=H.k0 a
  go_wp21
  refine l.mono ?_;rintro e A ⟨rfl,r,s,u⟩;replace H:=H.to r u s;go_wp2;go_ret;exact jZ rfl H rfl
def xU {σ:Ab} (h:RF E f σ w) (j:oD σ≠ .stuck):
  Calls prog 260 #[Bp E] w (j8 E f σ.nodes.length w (oD σ) uV):=by
 obtain⟨R,c⟩:∃R,R=(oD) σ:=⟨_,rfl⟩;rw[<-c]at j|-;unfold oD at c;have HS:=j;have H:=At.start h;have g:=fW c;clear c;go_enter func260,ntmps260;have l:=nk E [mZ] w (by decide)
 go_wp21
 refine l.mono ?_;rintro e z ⟨u,o,rfl,a,i⟩;replace H:=H.k0 i
 go_wp21
 refine(zu H.rel).mono ?_;rintro e A ⟨x,r,rfl,d,b⟩;replace a:=a.k0 b;replace H:=H.k0 b
 go_wp21
 refine Am (λ_=>yG H.rel a d) H g HS mT ?_;rintro(_) σ w H s g;go_wp2;go_end0;exact jZ g H rfl
abbrev RL:Obj:=gJ #[.pointer none,gp 0] 214
def M.bind_pure {α:Type} (m:M α) (σ:Ab):(m>>=λa=>(Pure.pure a:M α)) σ=m σ:=by
 rw[M.gy];cases m σ<;>rfl
theorem Jq (E:Env) (hF:lr E) (i:Nat):j9 E 159 (λf=>#[Bp E,nV f i]) (placeFor i) pV:=by
 intro f σ w h hs;have HB:=fZ w RL;have a2:=h.lt;have H0:=(At.start h).k0 ((Kept.refl _ w).alloc RL);have u:w.cell? ⟨E.bB,195,none⟩=some (.bool σ.iS):=(At.start h).XM;obtain⟨R,o⟩:∃R,R=placeFor i σ:=⟨_,rfl⟩;rw[<-o]at hs|-;have HS:=hs;unfold placeFor at o;cases hfo:σ.iS with
 |false=>
  rw[hfo]at o u;rw[gR (by simp)]at o;have H:=H0;have l:Hid (R=(jx i>>=λd=>pure d) σ):=fW (o.trans (M.bind_pure (jx i) σ).symm);clear o;go_enter func159,ntmps159
  go_wp21
  go_quiet (fail)
  replace H:=fW (H.k0 ((Kept.refl _ (w.alloc RL)).drewN nq))
  go_wp21
  refine j9.call (FT E i) H l HS rfl ?_ ?_
  .intro c p j ws g G I;have F:=fW g;clear g;go_wp2;exact⟨rfl,tP F G I⟩
  rintro d S D g N x;have a:=((Fr.gZ ((Kept.refl _ (w.alloc RL)).drewN nq)).trans N).cell HB (by decide);have K:=fX a 0;have C:=fX a 1;have f0:=gG a 0;have f1:=gG a 1;dsimp at K C;replace H:=fW (((g.side a (by decide) (ij _) 0 (gL (f d.1))).side (gh a 0 _) (by decide) (ij _) 1 (gp d.2)));replace l:=fW x;have r:=fW (gh (gh a 0 (gL (f d.1))) 1 (gp d.2));clear g x;go_wp2;refine qe (v:=pV f d) ?_ rfl (jZ l H rfl);simp[results,results159,asAddr,Result.andThen,go_sem,fX r.out]
 |true=>
  rw[hfo]at o u;have Y:∃e,σ.ib i=some e:=by
   cases he:σ.ib i with
   |some e=>simp
   |none=>
    exfalso;have a0:σ.nm i=⟨#[]⟩:=by unfold Ab.nm;rw[he]
    have s:AA (σ.nm i)=false:=by rw[a0];simp[AA,ik,kA,sH]
    rw[s]at o;simp only[Bool.and_false,wP,AH]at o;apply hs;rw[o]
    grind[jx]
  have⟨e0,he0⟩:=Y;have HN:∀W,Kept [] w W->W.cell? ⟨f i,0,none⟩=some (gI (σ.nm i)):=by
   intro W Z;obtain⟨L,rfl,hr⟩:=h;exact(hr.im Z).vh he0
  have cN:=HN w (Kept.refl _ _);have a1:f i < w.heap.size:=by
   obtain⟨L,rfl,hr⟩:=h;exact hr.Hp (Ab.il he0)
  have l:=fW o;have X:=At.start h;clear o;go_enter func159,ntmps159
  go_wp21
  go_cut [16]from 5 to 15 (λb wc=>b= .bool (AA (σ.nm i))/\Kept [] w wc/\wc.heap[w.heap.size]?=some RL)
  case first=>
   go_region_with (first
    |(go_at_call 202;refine(BG E _).mono ?_;rintro e D ⟨k1,a3,rfl,O,B⟩;have A:Kept [] w D:=(((Kept.refl _ w).alloc RL).drew).trans B;have C:=HN D A;have⟨k1',lb1',e1,he1,hc1⟩:=O.call;cases e1;have U:=fW (hc1 D (vS.refl _ _) (σ.nm i));have V:=fW A;have T:=fW (B.at HB (by simp));clear O B A hc1)
    |(refine U.mono ?_;rintro e w2 ⟨rfl,rfl⟩))
   all_goals (try (go_wp21))
   all_goals (go_meet;exact⟨rfl,V,T⟩)
  case rest=>
   obtain⟨rfl,Z,J⟩:=hcut;have H:Hid (At E f σ.nodes.length w f σ wc):=fW (X.k0 Z);cases s:AA (σ.nm i)with
   |true=>
    have z:Hid (R=(j4>>=λd=>(Pure.pure d:M (Nat×Nat))) σ):=by
     refine fW ?_;rw[M.bind_pure];have:=l
     rwa [s]at this
    replace l:=z
    go_wp21
    refine j9.call hF H l HS rfl ?_ ?_
    .intro c p j ws g G I;have F:=fW g;clear g;go_wp2;exact⟨rfl,tP F G I⟩
    rintro d S D g N x;have a:=N.cell J (by decide);have K:=fX a 0;have C:=fX a 1;have f0:=gG a 0;have f1:=gG a 1;dsimp at K C;replace H:=fW (((g.side a (by decide) (ij _) 0 (gL (f d.1))).side (gh a 0 _) (by decide) (ij _) 1 (gp d.2)));replace l:=fW x;have r:=fW (gh (gh a 0 (gL (f d.1))) 1 (gp d.2));clear g x;go_wp2;refine qe (v:=pV f d) ?_ rfl (jZ l H rfl);simp[results,results159,asAddr,Result.andThen,go_sem,fX r.out]
   |false=>
    have z:Hid (R=(jx i>>=λd=>(Pure.pure d:M (Nat×Nat))) σ):=by
     refine fW ?_;rw[M.bind_pure];have:=l
     rwa [s]at this
    replace l:=z
    go_wp21
    refine j9.call (FT E i) H l HS rfl ?_ ?_
    .intro c p j ws g G I;have F:=fW g;clear g;go_wp2;exact⟨rfl,tP F G I⟩
    rintro d S D g N x;have a:=N.cell J (by decide);have K:=fX a 0;have C:=fX a 1;have f0:=gG a 0;have f1:=gG a 1;dsimp at K C;replace H:=fW (((g.side a (by decide) (ij _) 0 (gL (f d.1))).side (gh a 0 _) (by decide) (ij _) 1 (gp d.2)));replace l:=fW x;have r:=fW (gh (gh a 0 (gL (f d.1))) 1 (gp d.2));clear g x;go_wp2;refine qe (v:=pV f d) ?_ rfl (jZ l H rfl);simp[results,results159,asAddr,Result.andThen,go_sem,fX r.out]
def GX (E:Env) (hF:lr E):j9 E 87 (λ_=>#[Bp E]) mV pV:=by
 intro f σ w h HS;cases hl:σ.last with
 |none=>exfalso;apply HS;unfold mV;rw[hl]
 |some i=>
  have F:mV σ=(placeFor i>>=λb=>pure b) σ:=by
   unfold mV;rw[hl,M.bind_pure]
  obtain⟨R,g⟩:∃R,R=mV σ:=⟨_,rfl⟩;have u:Hid (Calls prog 160 #[jF E.bB 188] (w.alloc RL) λe s=>e=ir (gL (f i))/\s=w.alloc RL):=by
   obtain⟨L,rfl,J⟩:=h;have:=SK (J.im ((Kept.refl _ w).alloc RL))
   rwa [show iB σ.gA ((σ.gA.length:Int) - 1)=some i from hl]at this
  rw[<-g]at HS|-;rw[F]at g;have H:=(At.start h).k0 ((Kept.refl _ w).alloc RL);have l:=fW g;have B:=fZ w RL;have I:=h.lt;clear g;go_enter func87,ntmps87
  go_wp21
  refine u.mono ?_;rintro e s ⟨rfl,rfl⟩
  go_wp21
  refine j9.call (Jq E hF i) H l HS rfl ?_ ?_
  .intro c p j S d z A;have x:=fW d;clear d;go_wp2;exact⟨rfl,tP x z A⟩
  rintro b K O d G r;have a:=G.cell B (by decide);have C:=fX a 0;have D:=fX a 1;have f0:=gG a 0;have N:=gG a 1;dsimp at C D;replace H:=((d.side a (by decide) (ij _) 0 (gL (f b.1))).side (gh a 0 _) (by decide) (ij _) 1 (gp b.2));replace l:=fW r;have o:=fW (gh (gh a 0 (gL (f b.1))) 1 (gp b.2));clear d r;go_wp2;refine qe (v:=pV f b) ?_ rfl (jZ l H rfl);simp[results,results87,asAddr,Result.andThen,go_sem,fX o.out]
theorem RF.tv {σ:Ab} (h:RF E f σ w):∃a n b,E.tv= .slice a n b:=by
 have⟨L,_,hr⟩:=h;have⟨a,cap,e⟩:=gH hr.tok
 grind
section
variable (E:Env) (hF:lr E)
include hF
def DG (j:Nat):j9 E 250 (λf=>#[Bp E,nV f j]) (mi j) uV:=PJ E (GX E hF) j
def ur (s:gz):ja E 169 (λ_=>#[Bp E,gI s]) (km s) uV:=K4 E (GX E hF) s
theorem kZ (t:gN) (x:jd E t):ja E 164 (λ_=>#[Bp E,iF E t]) (jt t) uV:=by
 intro f σ w h HS;have⟨ao,n,cp,htv⟩:=h.tv;have c:t.rJ=true/\σ.fresh=true:=by
  unfold jt at HS;rw[M.gy]at HS;unfold pL at HS;cases hc:(σ.fresh&&t.rJ)with
  |true=>grind
  |false=>grind
 have r:=x c.1;have g:t.js=E.ta/\zh E t=#[gp t.a,gp t.b,gI t.name,.slice ao n cp]:=by
  have⟨a,b,k,gM⟩:=t;cases k<;>simp_all[gN.rJ,gN.js,zh,gN.name]
 obtain⟨R,o⟩:∃R,R=(jt t) σ:=⟨_,rfl⟩;rw[<-o]at HS|-;have i:R=(mi σ.nodes.length>>=λ_=>(Pure.pure ():M Unit)) (σ.pn (.el {name:=t.name,gV:=E.ta,je:=none,kids:=[]}) false):=by
  rw[o];unfold jt;rw[M.gy];unfold pL;simp only[c.1,c.2,g.1,Bool.and_self,xG]
 have j:=fW i;have d:=yt E t w ⟨ao,n,cp,htv⟩;rw[g.2]at d;have H:=At.start h;have u:=h.lt;have l:=c.2;clear h o i c r g;go_enter func164,ntmps164
 go_wp21
 refine d.mono ?_;rintro e A ⟨rfl,s⟩;replace H:=(H.k0 (s.alloc (gJ #[gp t.a,gp t.b,gI t.name,.slice ao n cp] 173))).pL l t.name;rw[htv]at H;clear s d
 go_wp21
 refine mC (DG E hF σ.nodes.length) H j HS (by simp[Gx]) lT ?_;clear H j;rintro(_) σ w H z j;go_wp2;go_end0;exact gv j H rfl
def vy (t:gN) (c:jd E t):ja E 92 (λ_=>#[Bp E,iF E t]) (lw t) uV:=by
 refine dI λf σ w R a HS H=>?_;unfold lw at a;go_enter func92,ntmps92
 go_wp21
 refine dC (kZ E hF t c) H a HS rfl lT ?_;rintro(_) f σ w H d b a
 go_wp21
 refine mC (Y8 E) H a HS rfl lT ?_;rintro(_) σ w H b a;go_wp2;go_end0;exact gv a H rfl
def vx (t:gN):ja E 91 (λ_=>#[Bp E,iF E t]) (j7 t) uV:=by
 refine dI λf σ w R a HS H=>?_;unfold j7 at a;go_enter func91,ntmps91
 go_wp21
 refine mC (GX E hF) H a HS rfl lT ?_;rintro(d) σ w H b a
 go_wp21
 refine(yE E t _).mono ?_;rintro e h ⟨rfl,c⟩;replace H:=H.k0 c
 go_wp21
 refine dC (SZ E d t.chars) H a HS rfl lT ?_;rintro(_) f σ w H g b a;go_wp2;go_end0;exact gv a H rfl
def vE (t:gN) (d:jd E t):ja E 174 (λ_=>#[Bp E,iF E t]) (mW t) uV:=by
 refine dI λf σ w R a HS H=>?_;unfold mW at a;go_enter func174,ntmps174
 go_wp21
 refine Am (λc=>xU H.rel c) H a HS lT ?_;rintro(_) σ w H b a
 go_wp21
 refine dC (kZ E hF t d) H a HS rfl lT ?_;rintro(_) f σ w H e b a;go_wp2;go_end0;exact gv a H rfl
def Tj (t:gN) (b:jd E t):ja E 175 (λ_=>#[Bp E,iF E t]) (wE t) uV:=by
 refine dI λf σ w R a HS H=>?_;unfold wE at a;go_enter func175,ntmps175
 go_wp21
 refine dC (vE E hF t b) H a HS rfl lT ?_;rintro(_) f σ w H d c a;have e:=H.XO;have g:=H.free 198;replace H:=H.sj true;go_wp2;go_end0;exact gv a H rfl
end
def AC (a b:Int) (s:gz) (c:Option Addr) (n d:Nat) (w:gw):(Instr.field 173 (.agg #[gp a,gp b,gI s,.slice c n d]) 1).run prog w= .ok (gI s) w:=by
 have e:=underlying173;simp[Instr.field,pO e,go_sem,asAgg,Result.andThen]
def yu (a b:Int) (s:gz) (c:Option Addr) (n d:Nat) (w:gw):(Instr.field 173 (.agg #[gp a,gp b,gI s,.slice c n d]) 2).run prog w= .ok (.slice c n d) w:=by
 have e:=underlying173;simp[Instr.field,pO e,go_sem,asAgg,Result.andThen]
def At.xv {f0 : Nat->Nat} {σ:Ab} (h:At E f0 n0 w0 f σ w):w.cell? ⟨E.bB,187,none⟩=some (nV f 0):=by
 obtain⟨L,rfl,a⟩:=h.rel;exact a.low (by decide) a.env.xb
theorem se (σ σ':Ab) (h:σ'.nodes=σ.nodes):σ.nodes.length<=σ'.nodes.length:=by grind
def DW (E:Env) (x:jg):j9 E 168 (λf=>#[jF E.bB 188,oV f x]) (kq x) uV:=by
 intro f σ w ⟨L,e,c⟩ a;subst e;unfold kq at a|-
 by_cases b:σ.gX x=true
 .rw[gF b];exact(Y3 c x b).mono (λe d h=>h.2.ml h.1 (se _ _ rfl))
 .rw[gR b]at a;exact absurd rfl a
def Y1 (E:Env) (x:jg):j9 E 309 (λf=>#[jF E.bB 188,oV f x]) (Aq x) uV:=by
 intro f σ w ⟨L,e,c⟩ a;subst e;unfold Aq at a|-
 by_cases b:σ.gX x=true
 .rw[gF b];exact(abc c x b).mono (λe d h=>h.2.ml h.1 (se _ _ rfl))
 .rw[gR b]at a;exact absurd rfl a
def NU (E:Env) (x y:jg):j9 E 360 (λf=>#[jF E.bB 188,oV f x,oV f y]) (qw x y) uV:=by
 intro f σ w ⟨L,e,c⟩ b;subst e;unfold qw at b|-
 by_cases a:(σ.gX x&&σ.mF y&&decide (σ.gA.length < 4096))=true
 .rw[gF a];simp at a;exact(Qg c x y a.1.1 a.1.2 a.2).mono (λe d h=>h.2.ml h.1 (se _ _ rfl))
 .rw[gR a]at b;exact absurd rfl b
def Df (E:Env) (x:jg):j9 E 168 (λf=>#[jF E.bB 189,oV f x]) (kH x) uV:=by
 intro f σ w ⟨L,e,c⟩ a;subst e;unfold kH at a|-
 by_cases b:σ.gX x=true
 .rw[gF b];exact(Xu c x b).mono (λe d h=>h.2.ml h.1 (se _ _ rfl))
 .rw[gR b]at a;exact absurd rfl a
def Xt (E:Env) (x:jg):j9 E 309 (λf=>#[jF E.bB 189,oV f x]) (BP x) uV:=by
 intro f σ w ⟨L,e,c⟩ a;subst e;unfold BP at a|-
 by_cases b:σ.gX x=true
 .rw[gF b];exact(aab c x b).mono (λe d h=>h.2.ml h.1 (se _ _ rfl))
 .rw[gR b]at a;exact absurd rfl a
def Z9 (E:Env) (x y:jg):j9 E 258 (λf=>#[jF E.bB 189,oV f x,oV f y]) (ri x y) uV:=by
 intro f σ w ⟨L,e,c⟩ b;subst e;unfold ri at b|-
 by_cases a:(σ.gX x&&σ.gX y)=true
 .rw[gF a];simp at a;exact(Vd c x y a.1 a.2).mono (λe d h=>h.2.ml h.1 (se _ _ rfl))
 .rw[gR a]at b;exact absurd rfl b
def MJ (E:Env) (x y:jg):j9 E 360 (λf=>#[jF E.bB 189,oV f x,oV f y]) (qi x y) uV:=by
 intro f σ w ⟨L,e,c⟩ b;subst e;unfold qi at b|-
 by_cases a:(σ.gX x&&σ.gX y&&decide (σ.act.length < 4096))=true
 .rw[gF a];simp at a;exact(OM c x y a.1.1 a.1.2 a.2).mono (λe d h=>h.2.ml h.1 (se _ _ rfl))
 .rw[gR a]at b;exact absurd rfl b
def Cj (E:Env):j9 E 165 (λ_=>#[jF E.bB 188]) yh oV:=Y8 E
def WQ (E:Env) (j:Nat):j9 E 358 (λf=>#[nV f j]) (mq j) uV:=by
 intro f σ w ⟨L,e,c⟩ a;subst e;unfold mq at a|-;cases hj:σ.ib j with
 |none=>rw[hj]at a;exact absurd rfl a
 |some ej=>
  simp only[hj]at a|-;cases hp:ej.je with
  |none=>
   simp only[hp]at a|-;refine(Eb c hj hp).mono ?_;rintro e d ⟨rfl,rfl⟩;exact⟨rfl,⟨L,rfl,c⟩,Fr.refl _,ij _⟩
  |some p=>
   simp only[hp]at a|-;cases hep:σ.ib p with
   |none=>rw[hep]at a;exact absurd rfl a
   |some ep=>
    simp only[hep]at a|-
    by_cases b:j≠p/\0<=qg ep.kids (Nd.gX j)/\(qg ep.kids (Nd.gX j)).toNat < ep.kids.length
    .rw[gF b];exact(WN c hj hp hep b.1 b.2.2 (by omega)).mono (λe d h=>h.2.ml h.1 (by simp[Ab.ic]))
    .rw[gR b]at a;exact absurd rfl a
theorem LB (E:Env) (i:Nat):ja E 257 (λf=>#[nV f i]) (kP i) nV:=by
 intro f σ w ⟨L,e,j⟩ a;subst e;unfold kP at a|-;cases hi:σ.ib i with
 |none=>rw[hi]at a;exact absurd rfl a
 |some e=>
  simp only[hi]at a|-
  by_cases c:nj e.name=true
  .rw[gF c]at a;exact absurd rfl a
  .rw[gR c];refine(WJ j hi (by grind)).mono ?_;rintro l o ⟨b,d,rfl,g,h⟩;exact⟨b.gQ,d,by simp[Ab.add],rfl,⟨b,rfl,g⟩,h⟩
def RF.aes {σ:Ab} (h:RF E f σ w):0 < σ.nodes.length:=by
 have⟨L,_,hr⟩:=h;exact Ab.lN (σ:=σ) (i:=0) hr.wf.xb
theorem YR {i : Nat} (h:i < n):nV (Gx f n k) i=nV f i:=by grind[Gx]
section
variable (E:Env) (hF:lr E) (rec:Nat->gN->M Unit)
variable (hA:∀(m:Nat) (t:gN),jd E t->ja E 153 (λ_=>#[Bp E,.int .i64 (m:Int),iF E t]) (rec m t) uV)
include hA in
def th (t:gN) (e:jd E t):ja E 76 (λ_=>#[Bp E,iF E t]) (j1 rec t) uV:=by
 intro f σ w h HS;obtain⟨R,c⟩:∃R,R=j1 rec t σ:=⟨_,rfl⟩;rw[<-c]at HS|-;have a:R=(rec σ.mode t>>=λ_=>(Pure.pure ():M Unit)) σ:=by
  rw[c,M.bind_pure];rfl
 have b:=fW a;have H:=At.start h;have j:=H.rH;have d:=h.lt;clear h c a;go_enter func76,ntmps76
 go_wp21
 refine dC (hA σ.mode t e) H b HS rfl lT ?_;clear H b;rintro(_) f σ w H i g b;go_wp2;go_end0;exact gv b H rfl
include hA in
def zP (t:gN) (c:jd E t):ja E 83 (λ_=>#[Bp E,iF E t]) (lF rec t) uV:=by
 refine dI λf σ w R a HS H=>?_;unfold lF at a;go_enter func83,ntmps83;have g:=H.XN;have i:=H.free 196;have h:=H.rH;have j:=H.free 192;have b:=H.lt;replace H:=(H.qy true).jc 1
 go_wp21
 refine dC (th E rec hA t c) H a HS rfl lT ?_;rintro(_) f σ w H e d a;go_wp2;go_end0;exact gv a H rfl
theorem Cg (own:Bool):ja E 157 (λ_=>#[Bp E,if own then E.tv else .slice none 0 0]) (rL own (if own then E.ta else [])) uV:=by
 intro f σ w h i;have⟨ao,n,cp,htv⟩:=h.tv;obtain⟨R,b⟩:∃R,R=rL own (if own then E.ta else []) σ:=⟨_,rfl⟩;rw[<-b]at i|-;have HS:=i;have H:=At.start h;have o:=h.lt;have g:=fW h.aes;have r:=H.xv;have s:=H.Vq;have u:=H.free 190;unfold rL at b;cases own with
 |true=>
  rw[M.gy]at b;unfold sW at b;have d:σ.fresh=true:=by
   cases hq:σ.fresh with
   |true=>rfl
   |false=>grind
  simp only[d,xG]at b;have a:=fW b;replace H:=H.pL d fY;rw[htv]at H;rw[gF rfl,htv];clear h b;go_enter func157,ntmps157
  go_wp21
  refine mC (FT E 0) H a HS (by rw[YR g.out]) lT ?_;rintro(e) σ w H c a
  go_wp21
  refine mC (DY E e _) H a HS (by rw[yX]) lT ?_;rintro(_) σ w H c a
  go_wp21
  refine mC (N0 E (some _)) H a HS (by show #[_,nV _ _]=_;rw[yX]) lT ?_;rintro(_) σ w H c a;have j:=H.rH;have l:=H.free 192;replace H:=H.jc 2;go_wp2;go_end0;exact gv a H rfl
 |false=>
  rw[M.gy]at b;unfold sW at b;simp only[wP,AH]at b;have a:=fW b;replace H:=H.F8 fY;rw[gR (by simp)];clear h b;go_enter func157,ntmps157
  go_wp21
  refine mC (FT E 0) H a HS (by rw[YR g.out]) lT ?_;rintro(e) σ w H c a
  go_wp21
  refine mC (DY E e _) H a HS (by rw[yX]) lT ?_;rintro(_) σ w H c a
  go_wp21
  refine mC (N0 E (some _)) H a HS (by show #[_,nV _ _]=_;rw[yX]) lT ?_;rintro(_) σ w H c a;have j:=H.rH;have l:=H.free 192;replace H:=H.jc 2;go_wp2;go_end0;exact gv a H rfl
include hF in
theorem Ch (own:Bool):ja E 162 (λ_=>#[Bp E,if own then E.tv else .slice none 0 0]) (rM own (if own then E.ta else [])) uV:=by
 intro f σ w h g;have⟨ao,n,cp,htv⟩:=h.tv;obtain⟨R,a⟩:∃R,R=rM own (if own then E.ta else []) σ:=⟨_,rfl⟩;rw[<-a]at g|-;have HS:=g;have H:=At.start h;have e:=h.lt;have o:=h.aes;have r:=H.xv;have s:=H.Vq;have u:=H.free 190;unfold rM at a;cases own with
 |true=>
  rw[M.gy]at a;unfold sW at a;have d:σ.fresh=true:=by
   cases hq:σ.fresh with
   |true=>rfl
   |false=>grind
  simp only[d,xG]at a;have c:=fW a;replace H:=H.pL d gU;rw[htv]at H;rw[gF rfl,htv];clear a;go_enter func162,ntmps162;have b:=H.yl (some σ.nodes.length) (by simp[Ab.gX,Ab.ib,Ab.pn,Ab.add]);rw[show oV (Gx f σ.nodes.length w.heap.size) (some σ.nodes.length)=gL w.heap.size from yX _ _ _]at b;rw[World.setCell_alloc_past _ _ _ _ e]at b;replace H:=b
  go_wp21
  refine mC (DG E hF _) H c HS (by rw[yX]) lT ?_;rintro(_) σ w H i c;have j:=H.rH;have l:=H.free 192;replace H:=H.jc 3;go_wp2;go_end0;exact gv c H rfl
 |false=>
  rw[M.gy]at a;unfold sW at a;simp only[wP,AH]at a;have c:=fW a;replace H:=H.F8 gU;rw[gR (by simp)];clear a;go_enter func162,ntmps162;have b:=H.yl (some σ.nodes.length) (by simp[Ab.gX,Ab.ib,Ab.pn,Ab.add]);rw[show oV (Gx f σ.nodes.length w.heap.size) (some σ.nodes.length)=gL w.heap.size from yX _ _ _]at b;rw[World.setCell_alloc_past _ _ _ _ e]at b;replace H:=b
  go_wp21
  refine mC (DG E hF _) H c HS (by rw[yX]) lT ?_;rintro(_) σ w H i c;have j:=H.rH;have l:=H.free 192;replace H:=H.jc 3;go_wp2;go_end0;exact gv c H rfl
include hA in
def KY (t:gN) (d:jd E t):ja E 86 (λ_=>#[Bp E,iF E t]) (pa rec t) uV:=by
 refine dI λf σ w R a HS H=>?_;unfold pa at a;go_enter func86,ntmps86
 go_wp21
 refine dC (Cg E false) H a HS (by simp) lT ?_;rintro(_) f σ w H c b a
 go_wp21
 refine dC (th E rec hA t d) H a HS rfl lT ?_;rintro(_) f σ w H c b a;go_wp2;go_end0;exact gv a H rfl
include hF hA in
def KZ (t:gN) (d:jd E t):ja E 90 (λ_=>#[Bp E,iF E t]) (pc rec t) uV:=by
 refine dI λf σ w R a HS H=>?_;unfold pc at a;go_enter func90,ntmps90
 go_wp21
 refine dC (Ch E hF false) H a HS (by simp) lT ?_;rintro(_) f σ w H c b a
 go_wp21
 refine dC (th E rec hA t d) H a HS rfl lT ?_;rintro(_) f σ w H c b a;go_wp2;go_end0;exact gv a H rfl
theorem QV (t:gN) (A:jd E t):ja E 85 (λ_=>#[Bp E,iF E t]) (yo t) uV:=by
 intro f σ w h s;have⟨ao,n,cp,htv⟩:=h.tv;obtain⟨R,d⟩:∃R,R=yo t σ:=⟨_,rfl⟩;rw[<-d]at s|-;have HS:=s;have H:=At.start h;have z:=h.lt;have j:=yt E t w ⟨ao,n,cp,htv⟩;unfold yo at d;cases htg:t.rJ with
 |true=>
  have c:t.js=(if true then E.ta else [])/\zh E t=#[gp t.a,gp t.b,gI t.name,.slice ao n cp]:=by
   have:=A htg;have⟨a,b,k,gM⟩:=t;cases k<;>simp_all[gN.rJ,gN.js,zh,gN.name]
  rw[htg,c.1]at d;rw[c.2]at j;have g:=fW j;have i:=fW d;have l:=fW htv;have o:=λw=>yu (t.a:Int) (t.b:Int) t.name ao n cp w;clear d j htv;go_enter func85,ntmps85
  go_wp21
  refine g.mono ?_;rintro e B ⟨rfl,r⟩;replace H:=H.k0 r
  go_wp21
  refine dC (Cg E true) H i HS (by rw[gF rfl,l.out]) lT ?_;rintro(_) f σ w H x u i;go_wp2;go_end0;exact gv i H rfl
 |false=>
  have c:t.js=(if false then E.ta else [])/\zh E t=#[gp 0,gp 0,gI kJ,jX]:=by
   have⟨a,b,k,gM⟩:=t;cases k<;>simp_all[gN.rJ,gN.js,zh,gN.name]
  rw[htg,c.1]at d;rw[c.2]at j;have g:=fW j;have i:=fW d;have o:=λw=>yu 0 0 ⟨#[]⟩ none 0 0 w;clear d j htv;go_enter func85,ntmps85
  go_wp21
  refine g.mono ?_;rintro e B ⟨rfl,r⟩;replace H:=H.k0 r
  go_wp21
  refine dC (Cg E false) H i HS (by simp) lT ?_;rintro(_) f σ w H x u i;go_wp2;go_end0;exact gv i H rfl
include hF in
theorem QW (t:gN) (A:jd E t):ja E 89 (λ_=>#[Bp E,iF E t]) (yp t) uV:=by
 intro f σ w h s;have⟨ao,n,cp,htv⟩:=h.tv;obtain⟨R,d⟩:∃R,R=yp t σ:=⟨_,rfl⟩;rw[<-d]at s|-;have HS:=s;have H:=At.start h;have z:=h.lt;have j:=yt E t w ⟨ao,n,cp,htv⟩;unfold yp at d;cases htg:t.rJ with
 |true=>
  have c:t.js=(if true then E.ta else [])/\zh E t=#[gp t.a,gp t.b,gI t.name,.slice ao n cp]:=by
   have:=A htg;have⟨a,b,k,gM⟩:=t;cases k<;>simp_all[gN.rJ,gN.js,zh,gN.name]
  rw[htg,c.1]at d;rw[c.2]at j;have g:=fW j;have i:=fW d;have l:=fW htv;have o:=λw=>yu (t.a:Int) (t.b:Int) t.name ao n cp w;clear d j htv;go_enter func89,ntmps89
  go_wp21
  refine g.mono ?_;rintro e B ⟨rfl,r⟩;replace H:=H.k0 r
  go_wp21
  refine dC (Ch E hF true) H i HS (by rw[gF rfl,l.out]) lT ?_;rintro(_) f σ w H x u i;go_wp2;go_end0;exact gv i H rfl
 |false=>
  have c:t.js=(if false then E.ta else [])/\zh E t=#[gp 0,gp 0,gI kJ,jX]:=by
   have⟨a,b,k,gM⟩:=t;cases k<;>simp_all[gN.rJ,gN.js,zh,gN.name]
  rw[htg,c.1]at d;rw[c.2]at j;have g:=fW j;have i:=fW d;have o:=λw=>yu 0 0 ⟨#[]⟩ none 0 0 w;clear d j htv;go_enter func89,ntmps89
  go_wp21
  refine g.mono ?_;rintro e B ⟨rfl,r⟩;replace H:=H.k0 r
  go_wp21
  refine dC (Ch E hF false) H i HS (by simp) lT ?_;rintro(_) f σ w H x u i;go_wp2;go_end0;exact gv i H rfl
def LN (t:gN):ja E 95 (λ_=>#[Bp E,iF E t]) (AU) uV:=by
 refine dI λf σ w R a HS H=>?_;unfold AU at a;go_enter func95,ntmps95
 go_wp21
 refine mC (Cj E) H a HS rfl lT ?_;rintro(_) σ w H c a;have d:=H.rH;have e:=H.free 192;have b:=H.lt;replace H:=H.jc 4;go_wp2;go_end0;exact gv a H rfl
include hA in
def Cc (t:gN) (d:jd E t):ja E 96 (λ_=>#[Bp E,iF E t]) (nB rec t) uV:=by
 refine dI λf σ w R a HS H=>?_;unfold nB at a;go_enter func96,ntmps96
 go_wp21
 refine dC (LN E t) H a HS rfl lT ?_;rintro(_) f σ w H c b a
 go_wp21
 refine dC (th E rec hA t d) H a HS rfl lT ?_;rintro(_) f σ w H c b a;go_wp2;go_end0;exact gv a H rfl
include hF in
def QS (t:gN) (c:jd E t):ja E 97 (λ_=>#[Bp E,iF E t]) (tZ t) uV:=by
 refine dI λf σ w R a HS H=>?_;unfold tZ at a;go_enter func97,ntmps97
 go_wp21
 refine dC (kZ E hF t c) H a HS rfl lT ?_;rintro(_) f σ w H e d a;have g:=H.rH;have h:=H.free 192;have b:=H.lt;replace H:=H.jc 6;go_wp2;go_end0;exact gv a H rfl
include hF hA in
def KU (t:gN) (e:jd E t):ja E 99 (λ_=>#[Bp E,iF E t]) (nr rec t) uV:=by
 refine dI λf σ w R a HS H=>?_;unfold nr at a;go_enter func99,ntmps99
 go_wp21
 refine dC (ur E hF gE) H a HS rfl lT ?_;rintro(_) f σ w H c b a;have g:=H.rH;have h:=H.free 192;have d:=H.lt;replace H:=H.jc 6
 go_wp21
 refine dC (th E rec hA t e) H a HS rfl lT ?_;rintro(_) f σ w H c b a;go_wp2;go_end0;exact gv a H rfl
def LO (t:gN):ja E 101 (λ_=>#[Bp E,iF E t]) (yP) uV:=by
 refine dI λf σ w R a HS H=>?_;unfold yP at a;go_enter func101,ntmps101
 go_wp21
 refine mC (Cj E) H a HS rfl lT ?_;rintro(_) σ w H b a;have c:=H.rH;have e:=H.free 192;have d:=H.RX;have g:=H.lt;replace H:=H.jc σ.kept;go_wp2;go_end0;exact gv a H rfl
include hA in
def Vy (t:gN) (d:jd E t):ja E 100 (λ_=>#[Bp E,iF E t]) (Do rec t) uV:=by
 refine dI λf σ w R a HS H=>?_;unfold Do at a;go_enter func100,ntmps100
 go_wp21
 refine dC (LO E t) H a HS rfl lT ?_;rintro(_) f σ w H c b a
 go_wp21
 refine dC (th E rec hA t d) H a HS rfl lT ?_;rintro(_) f σ w H c b a;go_wp2;go_end0;exact gv a H rfl
def X3 (t:gN):ja E 137 (λ_=>#[Bp E,iF E t]) (Iu) uV:=by
 refine dI λf σ w R a HS H=>?_;unfold Iu at a;go_enter func137,ntmps137;have c:=H.rH;have d:=H.free 192;have b:=H.lt;replace H:=H.jc 17;go_wp2;go_end0;exact gv a H rfl
include hA in
def MX (t:gN) (c:jd E t):ja E 228 (λ_=>#[Bp E,iF E t]) (vU rec t) uV:=by
 refine dI λf σ w R a HS H=>?_;unfold vU at a;go_enter func228,ntmps228;have g:=H.rH;have h:=H.free 192;have b:=H.lt;replace H:=H.jc 6
 go_wp21
 refine dC (th E rec hA t c) H a HS rfl lT ?_;rintro(_) f σ w H e d a;go_wp2;go_end0;exact gv a H rfl
end
def RF.PT {σ:Ab} (h:RF E f σ w):Calls prog 160 #[jF E.bB 188] w λe b=>e=ir (oV f σ.last)/\b=w:=by
 obtain⟨L,rfl,a⟩:=h;exact SK a
def RF.aeE {σ:Ab} (h:RF E f σ w):Calls prog 251 #[jF E.bB 189] w λe b=>e=ir (gp σ.act.length)/\b=w:=by
 obtain⟨L,rfl,a⟩:=h;exact acg a
def RF.atA {σ:Ab} (h:RF E f σ w) (n:Int):Calls prog 229 #[jF E.bB 189,gp n] w λe b=>e=ir (oV f (iB σ.act n))/\b=w:=by
 obtain⟨L,rfl,a⟩:=h;exact afg a n
def RF.atO {σ:Ab} (h:RF E f σ w) (n:Int):Calls prog 229 #[jF E.bB 188,gp n] w λe b=>e=ir (oV f (iB σ.gA n))/\b=w:=by
 obtain⟨L,rfl,a⟩:=h;exact aeL a n
def RF.aeA {σ:Ab} (h:RF E f σ w) (x:jg) (b:σ.gX x=true):Calls prog 303 #[jF E.bB 188,oV f x] w λe c=>e=ir (.bool (decide (x∈σ.gA)))/\c=w:=by
 obtain⟨L,rfl,a⟩:=h;exact aeM a x b
def RF.aez {σ:Ab} (h:RF E f σ w) (x:jg) (b:σ.gX x=true):Calls prog 303 #[jF E.bB 189,oV f x] w λe c=>e=ir (.bool (decide (x∈σ.act)))/\c=w:=by
 obtain⟨L,rfl,a⟩:=h;exact aem a x b
def RF.acU {σ:Ab} (h:RF E f σ w) (x:jg) (b:σ.gX x=true):Calls prog 227 #[jF E.bB 188,oV f x] w λe c=>e=ir (oV f (iB σ.gA (posOf σ.gA x - 1)))/\c=w:=by
 obtain⟨L,rfl,a⟩:=h;exact y7 a x b
def RF.ach {σ:Ab} (h:RF E f σ w) (n:Int):σ.gX (iB σ.act n)=true:=by
 obtain⟨L,rfl,c⟩:=h;unfold iB
 by_cases b:0<=n/\n < σ.act.length
 .rw[gF b];have a:n.toNat < σ.act.length:=by omega
  have e:σ.act.getD n.toNat none=σ.act[n.toNat]:=by simp[List.getD,a]
  rw[e];exact c.wf.act _ (uP a)
 .rw[gR b];rfl
def aaS {σ:Ab} (h:RF E f σ w) (x:jg) (c:σ.gX x=true):
  Calls prog 256 #[Bp E,oV f x] w λe a=>e=ir (.bool (σ.Sz x))/\a=w:=by
 have C:=h.aeA x c;unfold Ab.Sz;cases x with
 |none=>
  go_enter func256,ntmps256;go_wp2;go_ret;simp
 |some i=>
  have b:oV f (some i)=gL (f i):=rfl;rw[b]at C|-;go_enter func256,ntmps256
  go_wp21
  refine C.mono ?_;rintro e a ⟨rfl,rfl⟩;go_wp2;go_ret;simp
theorem BQ (E:Env) (x:jg):j9 E 272 (λf=>#[Bp E,oV f x]) (lu x) uV:=by
 intro f σ w ⟨L,e,h⟩ g;subst e;have C:=h.low (j:=1) (by decide) h.DQ.2.1;have⟨_,_,_,_,hd,_⟩:=h.DQ;have A:=h.Et;have c:=(λq=>acg (h.drewN q));unfold lu at g|-
 by_cases d:σ.qO<=σ.act.length
 .rw[gF d];have b:=(λq=>Oi (h.drewN q) 6);go_enter func272,ntmps272
  go_wp21
  go_quiet ((go_at_call 251;exact Fs (c _)))
  go_wp21
  refine(b nq).mono ?_;rintro e B ⟨k,rfl,i,u⟩;have l:=(Fr.drewN w nq).trans u;go_wp2;exact⟨rfl,k,rfl,i,l⟩
 .rw[gR d]at g|-;have a:σ.gX x=true:=by
   by_cases a:σ.gX x=true
   .exact a
   .grind
  rw[gF a];have b:=(λq=>acS (h.drewN q) x a (by omega));go_enter func272,ntmps272
  go_wp21
  go_quiet ((go_at_call 251;exact Fs (c _)))
  go_wp21
  refine(b nq).mono ?_;rintro e B ⟨rfl,s,e1,r,z⟩;have o:=(Fr.drewN w nq).trans z;go_wp2;go_end0;exact⟨rfl,⟨s,e1,r⟩,o,ij _⟩
def M.tail {α:Type} {m:M α} {σ:Ab} {R:pG α} (h:R=m σ):R=(m>>=λa=>(Pure.pure a:M α)) σ:=by rw[M.bind_pure];exact h
def zT (E:Env):j9 E 204 (λ_=>#[Bp E]) (lu none) uV:=by
 refine mI λf σ w R a HS H=>?_;go_enter func204,ntmps204;replace a:=fW (M.tail a)
 go_wp21
 refine mC (BQ E none) H a HS rfl mT ?_;rintro(_) σ w H b a;go_wp2;go_end0;exact jZ a H rfl
def Rl (E:Env):j9 E 271 (λ_=>#[Bp E]) zk uV:=by
 refine mI λf σ w R a HS H=>?_;unfold zk at a;go_enter func271,ntmps271
 go_wp21
 refine mC (Xt E none) H a HS rfl mT ?_;rintro(_) σ w H b a;go_wp2;go_end0;exact jZ a H rfl
def Ww {σ:Ab} {xs : kO} {x : jg}:σ.tV ((xs++[x]).reverse)=if σ.Sz x then xs.length+1 else σ.tV xs.reverse:=by
 simp[Ab.tV]
attribute [local go_sem] Oper.semAt_some
theorem FX {σ:Ab}:∀{a:kO},(∀y∈a,(!kA (σ.qS y) gg)=true\/y=iB σ.gA 0)->rU σ a=none
 |[],_=>rfl
 |x::a,h=>by
  unfold rU;rw[gF (by grind)];exact FX λy b=>h y (by simp[b])
theorem FY {σ:Ab} (b:¬((!kA (σ.qS y) gg)=true\/y=iB σ.gA 0)):∀{a:kO},(∀y∈a,(!kA (σ.qS y) gg)=true\/y=iB σ.gA 0)->rU σ (a++[y]++rest)=some y
 |[],_=>by
  grind[rU]
 |x::a,h=>by
  show rU σ (x::(a++[y]++rest))=some y;unfold rU;rw[gF (by grind)];exact FY b λy c=>h y (by simp[c])
def Ci {a : gw} {s : Nat} (b:Kept [] W a) (e:Kept [] w W) (c:w.heap.size<=s) (d:a.heap[s]?=some (gJ #[.pointer none,gp 0] 214)) (v0 v1:gP):
  Kept [s] W ((a.setCell ⟨s,0,none⟩ v0).setCell ⟨s,1,none⟩ v1)/\Kept [] w ((a.setCell ⟨s,0,none⟩ v0).setCell ⟨s,1,none⟩ v1)/\((a.setCell ⟨s,0,none⟩ v0).setCell ⟨s,1,none⟩ v1).heap[s]?=some (gJ #[v0,v1] 214):=
 ⟨((b.mono (by simp)).setCell (.inl (by simp)) _).setCell (.inl (by simp)) _,(((e.trans b)).setCell (.inr c) _).setCell (.inr c) _,gh (gh d 0 v0) 1 v1⟩
def Wm {a : gw} {s : Nat} (c:Kept [] W a) (e:Kept [] w W) (d:w.heap.size<=s) (b:a.heap[s]?=some (gJ #[.pointer none,gp 0] 214)) (v0 v1:gP) (o:Obj):
  Kept [s] W (((a.setCell ⟨s,0,none⟩ v0).setCell ⟨s,1,none⟩ v1).alloc o)/\Kept [] w (((a.setCell ⟨s,0,none⟩ v0).setCell ⟨s,1,none⟩ v1).alloc o)/\(((a.setCell ⟨s,0,none⟩ v0).setCell ⟨s,1,none⟩ v1).alloc o).heap[s]?=some (gJ #[v0,v1] 214):=by
 have⟨h1,h2,h3⟩:=Ci c e d b v0 v1;exact⟨h1.alloc _,h2.alloc _,((Kept.refl [] _).alloc o).at h3 (by simp)⟩
theorem iK (E:Env):lr E:=by
 intro f σ w h hs;have aj:∃Y,j4 σ= .ok Y σ:=by
  cases b:j4 σ with
  |ok Y σ1=>exact⟨Y,by rw[oG b]⟩
  |stop c p=>
   exfalso;unfold j4 at b;split at b
   .split at b
    .unfold mB at b;split at b
     .split at b
      .grind
      .split at b
       .unfold jx at b;grind
       grind
     grind
    .cases b
    .split at b
     .unfold jx at b;grind
     grind
   grind
  |stuck=>grind
 have⟨pl0,hpl0⟩:=aj;have V:σ.AB=true:=by
  cases ht:σ.AB with
  |true=>rfl
  |false=>unfold j4 at hpl0;grind
 rw[hpl0];obtain⟨L,rfl,j⟩:=h;refine(wI (n:=3)).1 ?_;refine wJ func249 rfl trivial ?_ rfl;simp only[ntmps249,wK,qd,uQ,Nat.reduceAdd,Nat.reduceSub,wL,wM,wN,wO,rQ,uR];have ap:=j.lt;obtain⟨r,z⟩:∃r,r=(w.alloc (gJ #[Bp E] 93)).alloc (gJ #[.pointer none,gp 0] 214):=⟨_,rfl⟩;have a9:Kept [] w r:=by rw[z];exact((Kept.refl _ _).alloc _).alloc _
 have an:r.heap[w.heap.size]?=some (gJ #[Bp E] 93):=by
  have:=(sv w (gJ #[Bp E] 93) (gJ #[.pointer none,gp 0] 214)).1
  rwa [<-z]at this
 obtain⟨w1,X⟩:∃w1,w1=r.alloc (gJ #[oV L.gQ (iB σ.gA 0)] 57):=⟨_,rfl⟩;have af:Kept [] w w1:=by rw[X];exact a9.alloc _
 have⟨b0,b1,b2⟩:=ot w (gJ #[Bp E] 93) (gJ #[.pointer none,gp 0] 214) (gJ #[oV L.gQ (iB σ.gA 0)] 57);rw[<-z,<-X]at b0 b1 b2;have a2:r.heap.size=w.heap.size+1+1:=by rw[z];simp
 have F:w1.heap.size=w.heap.size+1+1+1:=by rw[X];simp[a2]
 have CA:=aeL (j.im a9) 0;have aq:=j.im af;have⟨C,HL,hC⟩:=aq.yV;have HU:=V3 E.bs E.bB 188 _ C _ _ w1 HL;have HO:=(λg (S:L.ov.ownBlock=some g)=>Cr j.o0 S);have HN:=(λ(W:gw) (d:Kept [] w W) (i:Nat) (e:zp) (hi:σ.ib i=some e)=>(j.im d).vh hi);have HS:=(λ(y:jg) (hy:y∈σ.gA)=>j.oe hy);have HI:=fW j.inj;have HE:=(λ(W:gw) (d:Kept [] w W) (x:jg) (hx:σ.gX x=true)=>(j.im d).gX hx);have HZ:=fW F;have a5:=fW a2;have am:=fW z;have HW:=fW X;clear F X a2 z;have au:r.cell? ⟨w.heap.size,0,none⟩=some (Bp E):=by rw[fX an];rfl
 have aw:E.bB < r.heap.size:=lU ap a9.size;have ax:w.heap.size < r.heap.size:=by have:=a5.out;omega
 gi_wp2_with fail
 rw[<-am.out];refine⟨trivial,(callsIn_wide.2 CA).mono ?_⟩;rintro e r ⟨rfl,rfl⟩
 gi_wp2_with fail
 rw[<-HW.out];refine⟨trivial,(callsIn_wide.2 HU).mono ?_⟩;rintro e w' ⟨rfl,rfl⟩;gi_wp2;refine Ef (by omega) (f:=iD L.gQ) (λx y e=>rK HI.out e) HL rfl [] [w.heap.size+1] (by simp) (by grind)
  (λpre W=>Kept [] w W/\W.heap[w.heap.size]?=some (gJ #[Bp E] 93)/\W.heap[w.heap.size+1]?=some (gJ #[.pointer none,gp 0] 214)/\W.heap[r.heap.size]?=some (gJ #[oV L.gQ (iB σ.gA 0)] 57)/\∀y∈pre,(!kA (σ.qS y) gg)=true\/y=iB σ.gA 0)
  (λc pre W=>c= .ret/\Kept [] w W/\∃o i Y,pre=o++[some i]/\(∀y∈o,(!kA (σ.qS y) gg)=true\/y=iB σ.gA 0)/\¬((!kA (σ.qS (some i)) gg)=true\/some i=iB σ.gA 0)/\mB i σ= .ok Y σ/\W.heap[w.heap.size+1]?=some (gJ #[gL (L.gQ Y.1),gp Y.2] 214))
  ?_ ?_ ?_ (λx=>{tmps:=#[Bp E,gL w.heap.size,gL (w.heap.size+1),gL r.heap.size,kh x,undef,undef,Bp E,gL E.bB,jF E.bB 188,oV L.gQ (iB σ.gA 0),Bp E,gL E.bB,jF E.bB 188,uO w1.heap.size,kh x,undef,undef,undef,undef,undef,undef,undef,undef,undef,undef,undef,undef,undef,undef,undef,undef,undef,undef,undef,undef,undef,undef,undef,undef,undef],defers:=[]}) ?assign ?body ?done ?stopx
 .rintro s A B ar ⟨h1,h2,h3,h4,h5⟩ S hr;have F:=HZ.out;have a2:=a5.out;exact⟨lW h1 S hr (by omega),kE h2 S hr (by omega),kE h3 S hr (by omega),kE h4 S hr (by omega),h5⟩
 .rintro c s A B ar ⟨h0,h1,o,i,Y,h2,h3,h4,h5,h6⟩ S hr;have F:=HZ.out;exact⟨h0,lW h1 S hr (by omega),o,i,Y,h2,h3,h4,h5,kE h6 S hr (by omega)⟩
 .have d:Kept [] w1 (mr E.bB 188 (σ.gA.length) w1):=((Kept.refl _ _).alloc _).alloc _;refine⟨af.trans d,d.at b0 (by simp),d.at b1 (by simp),?_,by simp⟩;rw[a5.out];exact d.at b2 (by simp)
 case assign=>
  intro l x W K hK;gi_wp2;exact hK
 case body=>
  rintro l pre y W hy ⟨u,h2,B3,B4,B5⟩;obtain⟨i,e0,rfl,hi⟩:=HS y hy;have H:=j.im u;have c0:=HN W u i e0 hi;have c1:W.cell? ⟨w.heap.size,0,none⟩=some (Bp E):=by rw[fX h2];rfl
  have c2:W.cell? ⟨r.heap.size,0,none⟩=some (oV L.gQ (iB σ.gA 0)):=by rw[fX B4];rfl
  have J:(binOp .eql 57 (gL (L.gQ i)) (oV L.gQ (iB σ.gA 0))).run prog W= .ok (.bool (decide (some i=iB σ.gA 0))) W:=by
   have ao:σ.gX (iB σ.gA 0)=true:=by
    unfold iB
    by_cases hn:(0:Int)<=0/\(0:Int) < σ.gA.length
    .rw[gF hn];have ag:0 < σ.gA.length:=by omega
     show σ.gX (σ.gA.getD 0 none)=true;rw[xo,rq ag];exact Ab.vz (H.wf.gA _ (uP ag))
    .rw[gR hn];rfl
   have J:=B9 (HE W u (some i) (by show(σ.ib i).isSome=true;rw[hi];rfl)) (HE W u _ ao);rw[decide_eq_decide.2 (⟨λe=>rK HI.out e,λe=>by rw[e]⟩:iD L.gQ (some i)=iD L.gQ (iB σ.gA 0)↔some i=iB σ.gA 0)]at J;exact J
  have a1:kA (σ.qS (some i)) gg=((σ.nm i).toList==[116,97,98,108,101]):=by
   show kA (σ.nm i) _=_;unfold kA;rw[sH gg]
  have B2:=fW h2;have G:=fW hi;clear h2 hi
  try dsimp only
  rw[show kh (iD L.gQ (some i))=gL (L.gQ i)from rfl];cases htb:((σ.nm i).toList==[116,97,98,108,101])with
  |false=>
   rw[htb]at a1;have HG:Hid ((!kA (σ.qS (some i)) gg)=true\/some i=iB σ.gA 0):=fW (.inl (by rw[a1];rfl));have ak:((σ.nm i).toList != [116,97,98,108,101])=true:=by simp[bne,htb]
   gi_wp2;refine⟨Kept.refl _ _,u,B2.out,B3,B4,λy hy=>?_⟩
   grind
  |true=>
   rw[htb]at a1;have ak:((σ.nm i).toList != [116,97,98,108,101])=false:=by simp[bne,htb]
   by_cases O:some i=iB σ.gA 0
   .rw[vn O]at J;have HG:Hid ((!kA (σ.qS (some i)) gg)=true\/some i=iB σ.gA 0):=fW (.inr O);gi_wp2;refine⟨Kept.refl _ _,u,B2.out,B3,B4,λy hy=>?_⟩
    grind
   .rw[xm O]at J;have HG:Hid (¬((!kA (σ.qS (some i)) gg)=true\/some i=iB σ.gA 0)):=fW (by rw[a1];simp[O]);have ae:(mB i σ).isOk=true:=by
     have:=List.all_eq_true.1 V (some i) hy;simp only[Bool.or_eq_true,MC]at this;rcases this with(h|h)|h
     .exfalso;have e:kA (σ.qS (some i)) gg=kA (σ.nm i) gg:=rfl;grind
     .exact absurd h O
     .exact h
    cases hp:e0.je with
    |some p=>
     have I:∃ep,σ.ib p=some ep/\0<=qg ep.kids (Nd.gX i)/\mB i σ= .ok (p,(qg ep.kids (Nd.gX i)).toNat) σ:=by
      have d:=ae;unfold mB at d|-;rw[G.out]at d|-;simp only[hp]at d|-;cases b:σ.ib p with
      |none=>rw[b]at d;simp[pG.isOk]at d
      |some ep=>
       simp only[b]at d|-
       by_cases ai:0<=qg ep.kids (Nd.gX i)
       .grind
       .rw[gR ai]at d;simp[pG.isOk]at d
     have⟨ep,I,ai,hfa⟩:=I;have CF:=Q7 H G.out hp I;obtain⟨q,b⟩:∃q:Nat,qg ep.kids (Nd.gX i)=(q:Int):=⟨(qg ep.kids (Nd.gX i)).toNat,by omega⟩;rw[b]at CF hfa;have a3:Hid (mB i σ= .ok (p,q) σ):=fW (by rw[hfa];rfl);clear hfa
     gi_wp2_with fail
     refine⟨trivial,(qD l (callsIn_wide.2 CF)).mono ?_⟩;rintro e W2 ⟨rfl,aa,ac⟩;have a:=ac.at B3 (by simp);have d0:W2.cell? ⟨w.heap.size+1,0,none⟩=some (.pointer none):=by rw[fX a];rfl
     have d1:W2.cell? ⟨w.heap.size+1,1,none⟩=some (gp 0):=by rw[fX a];rfl
     have g0:=gG a 0;have g1:=gG a 1;have av:w.heap.size+1 < W2.heap.size:=jn a;have Z:=fW a;gi_wp2;have⟨t1,t2,t3⟩:=Wm ac u (lf _) Z.out (gL (L.gQ p)) (gp q) (gJ #[gL (L.gQ p),gp q] 214);exact⟨t1,rfl,t2,pre,i,(p,q),rfl,B5,HG.out,a3.out,t3⟩
    |none=>
     have I:∃q e,iB σ.gA (posOf σ.gA (some i) - 1)=some q/\σ.ib q=some e/\mB i σ= .ok (q,e.kids.length) σ:=by
      have d:=ae;unfold mB at d|-;rw[G.out]at d|-;simp only[hp]at d|-;cases b:iB σ.gA (posOf σ.gA (some i) - 1)with
      |none=>rw[b]at d;simp[pG.isOk]at d
      |some q=>
       simp only[b]at d|-;unfold jx at d|-;cases hq2:σ.ib q with
       |none=>rw[hq2]at d;simp[pG.isOk]at d
       |some e=>grind
     have⟨q,eq,a7,N,hfa⟩:=I;have CF:=Tp H G.out hp;have a3:=fW hfa;have al:=(λ(W':gw) (d:Kept [] W W')=>(show Calls prog 227 #[jF E.bB 188,gL (L.gQ i)] W' (λe w'=>e=ir (gL (L.gQ q))/\w'=W')from by
      have:=y7 (H.im d) (some i) (by show(σ.ib i).isSome=true;rw[G.out];rfl)
      rwa [a7]at this))
     have CE:=(λ(W':gw) (d:Kept [] W W')=>Q6 (H.im d) N);clear hfa
     gi_wp2_with fail
     refine⟨trivial,(qD l (callsIn_wide.2 CF)).mono ?_⟩;rintro e W2 ⟨rfl,aa,a8⟩;have a4:Kept [] W (W2.alloc (gJ #[.pointer none,gp 0] 214)):=a8.alloc _;have e1:W2.cell? ⟨w.heap.size,0,none⟩=some (Bp E):=by rw[fX (a8.at B2.out (by simp))];rfl
     have ay:w.heap.size < W2.heap.size:=jn (a8.at B2.out (by simp))
     gi_wp2_with fail
     refine⟨trivial,(qD l (callsIn_wide.2 (al _ a4))).mono ?_⟩;rintro e W3 ⟨rfl,rfl⟩
     gi_wp2_with fail
     refine⟨trivial,(qD l (callsIn_wide.2 (CE _ a4))).mono ?_⟩;rintro e W4 ⟨rfl,ab,T⟩;have a0:=a4.trans T;have a:=a0.at B3 (by simp);have d0:W4.cell? ⟨w.heap.size+1,0,none⟩=some (.pointer none):=by rw[fX a];rfl
     have d1:W4.cell? ⟨w.heap.size+1,1,none⟩=some (gp 0):=by rw[fX a];rfl
     have g0:=gG a 0;have g1:=gG a 1;have Z:=fW a;gi_wp2;have⟨t1,t2,t3⟩:=Ci a0 u (lf _) Z.out (gL (L.gQ q)) (gp eq.kids.length);exact⟨t1,rfl,t2,pre,i,(q,eq.kids.length),rfl,B5,HG.out,a3.out,t3⟩
 case done=>
  rintro D W HD ⟨u,h2,B3,h4,h5⟩ hK;have R:∃q e,iB σ.gA 0=some q/\σ.ib q=some e/\pl0=(q,e.kids.length):=by
   have b:=hpl0;unfold j4 at b;rw[gF V,FX h5]at b;simp only at b;cases S:iB σ.gA 0 with
   |none=>grind
   |some q=>
    rw[S]at b;simp only at b;unfold jx at b
    grind
  obtain⟨q,eq,a7,N,rfl⟩:=R;have c2:W.cell? ⟨r.heap.size,0,none⟩=some (gL (L.gQ q)):=by rw[fX h4,a7];rfl
  have CE:=Q6 (j.im u) N;clear h2
  gi_wp2_with fail
  refine⟨trivial,(callsIn_wide.2 CE).mono ?_⟩;rintro e W4 ⟨rfl,ab,T⟩;have a:=T.at B3 (by simp);have d0:W4.cell? ⟨w.heap.size+1,0,none⟩=some (.pointer none):=by rw[fX a];rfl
  have d1:W4.cell? ⟨w.heap.size+1,1,none⟩=some (gp 0):=by rw[fX a];rfl
  have g0:=gG a 0;have g1:=gG a 1;have ad:=(T.block D (Array.getElem?_eq_some_iff.1 hK).1 (by simp)).trans hK;have⟨t1,T2,T3⟩:=Ci T u (lf _) a (gL (L.gQ q)) (gp eq.kids.length);have Z:=fW a;have a0:=((((Kept.refl [w.heap.size+1] W4).setCell (p:=⟨w.heap.size+1,0,none⟩) (.inl (by simp)) (gL (L.gQ q))).setCell (p:=⟨w.heap.size+1,1,none⟩) (.inl (by simp)) (gp eq.kids.length)).block D (Array.getElem?_eq_some_iff.1 ad).1 (by have:=HZ.out;grind)).trans ad;gi_wp2;refine⟨by simp,.inl ⟨_,_,rfl,nN a0,?_⟩⟩;have F:=HZ.out;have hD:=HD;have a6:(World.putObj _ D (.deferred none)).heap[w.heap.size+1]?=_:=(pk (by omega)).trans T3;have U:=T2.take (D:=D) (by omega) (.deferred none);refine⟨pV L.gQ (q,eq.kids.length),?_,rfl,⟨L,rfl,j.im U⟩,.gZ U,ij _⟩;simp[results,results249,asAddr,Result.andThen,go_sem,fX a6]
 case stopx=>
  rintro D c pre W HD ah ⟨rfl,u,o,i,Y,rfl,h3,h4,h5,T3⟩ hK;have R:pl0=Y:=by
   have⟨rest,hrest⟩:=ah;have b:=hpl0;unfold j4 at b;rw[gF V,<-hrest,FY h4 h3]at b;simp only at b;rw[h5]at b;cases b;rfl
  subst R;gi_wp2;refine⟨by simp,.inl ⟨_,_,rfl,nN hK,?_⟩⟩;have F:=HZ.out;have hD:=HD;have a6:(World.putObj _ D (.deferred none)).heap[w.heap.size+1]?=_:=(pk (by omega)).trans T3;have U:=u.take (D:=D) (by omega) (.deferred none);refine⟨pV L.gQ pl0,?_,rfl,⟨L,rfl,j.im U⟩,.gZ U,ij _⟩;simp[results,results249,asAddr,Result.andThen,go_sem,fX a6]
section
variable {α β:Type} {E:Env} {f0:Nat->Nat} {n0:Nat} {w0:gw} {f:Nat->Nat} {σ:Ab} {w:gw}
theorem ja.OY {k:Nat} {args:(Nat->Nat)->jO} {m:M α} {l:(Nat->Nat)->α->gP} (D:ja E k args m l) (H:At E f0 n0 w0 f σ w) {R:pG β} {K:α->M β} (i:R=(m>>=K) σ) (G:R≠ .stuck) {A:jO} (hA:args f=A) {Q:Ending->gw->Prop}
  (u:∀c p j d,R= .stop c p->kG d j c p->Fr E.bs w0 d->Q (qA j) d)
  (s:∀a g b d,At E f0 n0 w0 g b d->RH σ.nodes.length f g->Fr E.bs w d->R=K a b->m σ= .ok a b->Q (ir (l g a)) d):Calls prog k A w Q:=by
 rw[M.gy]at i;have B:m σ≠ .stuck:=λe=>G (by grind);have h:=D f σ w H.rel B;rw[hA]at h;refine h.mono ?_;intro e d o;cases hr:m σ with
 |ok a b=>
  rw[hr]at o i;obtain⟨g,x,r,rfl,F,z⟩:=o;exact s a g b d (H.go F x r z) x z i hr
 |stop c p=>
  rw[hr]at o i;obtain⟨j,rfl,r,C⟩:=o;exact u c p j d i r (H.fr.trans C)
 |stuck=>exact absurd hr B
theorem j9.OY {k:Nat} {args:(Nat->Nat)->jO} {m:M α} {i:(Nat->Nat)->α->gP} (D:j9 E k args m i) (H:At E f0 n0 w0 f σ w) {R:pG β} {K:α->M β} (g:R=(m>>=K) σ) (F:R≠ .stuck) {A:jO} (hA:args f=A) {Q:Ending->gw->Prop}
  (r:∀c p j d,R= .stop c p->kG d j c p->Fr E.bs w0 d->Q (qA j) d)
  (o:∀a b d,At E f0 n0 w0 f b d->Fr E.bs w d->R=K a b->m σ= .ok a b->Q (ir (i f a)) d):Calls prog k A w Q:=by
 rw[M.gy]at g;have u:m σ≠ .stuck:=λe=>F (by grind);have h:=D f σ w H.rel u;rw[hA]at h;refine h.mono ?_;intro e d l;cases hr:m σ with
 |ok a b=>
  rw[hr]at l g;obtain⟨rfl,B,s,C⟩:=l;exact o a b d (H.to B C s) s g hr
 |stop c p=>
  rw[hr]at l g;obtain⟨j,rfl,x,z⟩:=l;exact r c p j d g x (H.fr.trans z)
 |stuck=>exact absurd hr u
def mE {k:Nat} {args:(Nat->Nat)->jO} {m:M α} {e:(Nat->Nat)->α->gP} (D:j9 E k args m e) (H:Hid (At E f0 n0 w0 f σ w)) {R:pG β} {K:α->M β} (r:Hid (R=(m>>=K) σ)) (s:Hid (R≠ .stuck)) {A:jO} (hA:args f=A) {Q:Ending->gw->Prop}
  (h:∀c p j b,Hid (R= .stop c p/\kG b j c p/\Fr E.bs w0 b)->Q (qA j) b)
  (g:∀a d b,Hid (At E f0 n0 w0 f d b)->Hid (Fr E.bs w b)->Hid (R=K a d)->Hid (m σ= .ok a d)->Q (ir (e f a)) b):Calls prog k A w Q:=j9.OY D H r s hA (λc p j b i l o=>h c p j b ⟨i,l,o⟩) g
end
def Z8 {σ:Ab} (h:RF E f σ w) (x y:jg) (a:ri x y σ≠ .stuck):
  Calls prog 258 #[jF E.bB 189,oV f x,oV f y] w λe b=>e=p8/\ri x y σ= .ok () {σ with act:=pM σ.act x y}/\RF E f {σ with act:=pM σ.act x y} b/\Fr E.bs w b:=by
 have:=Z9 E x y f σ w h a;unfold ri at this a|-
 by_cases c:(σ.gX x&&σ.gX y)=true
 .rw[gF c]at this|-;exact this.mono (λe b h=>⟨h.1,rfl,h.2.1,h.2.2.1⟩)
 .rw[gR c]at a;exact absurd rfl a
theorem QH (xs:kO) (x y:jg):(pM xs x y).length=xs.length:=by
 grind[pM]
theorem PH {j : Nat} {σ σ':Ab} (h:mi j σ= .ok () σ'):σ'.act=σ.act:=by
 unfold mi at h;rw[M.gy]at h;cases a:mV σ with
 |stuck=>grind
 |stop c p=>grind
 |ok pl σ1=>
  have e1:σ1=σ:=by
   unfold mV at a;cases hl:σ.last with
   |none=>grind
   |some i=>
    rw[hl]at a;have a:placeFor i σ= .ok pl σ1:=a;unfold placeFor at a;split at a
    .exact oG a
    .exact pt a
  rw[e1]at a;rw[a]at h;simp only at h;rw[M.gy]at h;cases h2:mN pl j σ with
  |stuck=>grind
  |stop c p=>grind
  |ok u σ2=>
   have e2:σ2.act=σ.act:=by
    unfold mN at h2;split at h2
    .split at h2
     .cases h2;rfl
     grind
    .cases h2
   rw[h2]at h;simp only at h;rw[M.gy]at h;cases h3:xi (some j) σ2 with
   |stuck=>grind
   |stop c p=>grind
   |ok u σ3=>
    rw[h3]at h;have d:σ3.act=σ2.act:=by
     unfold xi at h3;split at h3
     .cases h3
     .grind
    have:σ3=σ':=by
     have b:(pG.ok () σ3:pG Unit)= .ok () σ':=h;cases b;rfl
    grind
theorem rN (E:Env) (hF:lr E):ja E 171 (λ_=>#[Bp E]) lH uV:=by
 intro f σ w D HS;obtain⟨R,hR⟩:∃R,R=lH σ:=⟨_,rfl⟩;rw[<-hR]at HS|-;have H:=At.start D;have U:R=Jv (σ.act.length - σ.Au) σ.Au σ:=hR;have s:=fW U;have C1:=D.aeE;have ae:=D.lt;have am:σ.act.length<=4096:=by have⟨L,_,hr⟩:=D;exact hr.Et
 have af:σ.Au<=σ.act.length:=by
  have:∀C:kO,σ.tV C<=C.length:=by
   intro C
   induction C with
   |nil=>simp[Ab.tV]
   |cons x C ih=>
    show(if σ.Sz x then C.length+1 else σ.tV C)<=C.length+1;split<;>omega
  have:=this σ.act.reverse
  rwa [List.length_reverse]at this
 clear hR U;go_enter func171,ntmps171
 go_wp21
 refine C1.mono ?_;rintro e w ⟨rfl,rfl⟩
 go_wp21
 rename_i K F;have N:∀(u8 u9 Z a0 a1 a2 a3 a4 a5 a6 a7 a8 a9 aa ab:gP),K {tmps:=#[Bp E,undef,gp σ.Au,undef,Bp E,gL E.bB,jF E.bB 189,gp σ.act.length,u8,u9,Z,a0,a1,a2,a3,a4,a5,a6,a7,a8,a9,aa,ab,undef,undef,undef,undef,undef,undef,undef,undef,undef,undef,undef,undef,undef,undef,undef,undef,undef,undef,undef,undef,undef,undef,undef,undef,undef,undef],defers:=[]} w:=by
  intro u8 u9 Z a0 a1 a2 a3 a4 a5 a6 a7 a8 a9 aa ab;refine F _ _ ?_;have al:=af;clear F C1
  go_wp21
  go_loopw [2,3] (λv v3 wr=>∃(k n:Nat) (g:Nat->Nat) (h:Ab),v=gp n/\n+k=σ.act.length/\At E f σ.nodes.length w g h wr/\R=Jv k n h/\h.act.length=σ.act.length) (λv _ _=>σ.act.length - (intOf v).toNat)
  case atStart=>exact⟨σ.act.length - σ.Au,σ.Au,f,σ,rfl,by omega,H,s,rfl⟩
  case round=>
   obtain⟨k,n,g,h,rfl,an,H,T,O⟩:=hrel;have s:=fW T;have A:=H.rel.aeE;rw[O]at A;have ae:=H.lt;clear T;cases k with
   |zero=>
    have e0:(n:Int)=(σ.act.length:Int):=by omega
    have G:((n:Int) < (σ.act.length:Int))=False:=by simp;omega
    go_wp21
    refine A.mono ?_;rintro e w' ⟨rfl,rfl⟩;go_wp2;go_end0;exact gv s H rfl
   |succ k=>
    have G:(n:Int) < (σ.act.length:Int):=by omega
    have o:∃a,iB h.act (n:Int)=some a:=by
     cases hg:iB h.act (n:Int)with
     |some i=>simp
     |none=>
      exfalso;apply HS;rw[s.out];unfold Jv;rw[M.gy];unfold FD;rw[hg]
    have⟨a,o⟩:=o;have r:=H.rel.ach (n:Int);have l:=H.rel.atA (n:Int);rw[o]at l r;have ad:=fW (Ab.lN r);replace s:Hid (R=(kP a>>=λj=>(do
      mi j
      qI a
      Jv k (n+1):M Unit)) h):=by
     refine fW (s.trans ?_);show(FD n>>=_) h=_;rw[M.gy];unfold FD;rw[o]
    clear o r
    go_wp21
    refine A.mono ?_;rintro e wr ⟨rfl,rfl⟩
    go_wp21
    refine l.mono ?_;rintro e wr ⟨rfl,rfl⟩;rw[show oV g (some a)=gL (g a)from rfl];clear l A
    go_wp21
    refine ja.OY (LB E a) H s HS rfl ?_ ?_
    .intro c p j ws H1 H2 H3;go_wp2;exact⟨rfl,pd H1 H2 H3⟩
    rintro j g2 ai w2 I h0 h2 S z;have HX:=fW h0;have HJ:Hid (ai.act=h.act):=by
     unfold kP at z;split at z
     .split at z
      .cases z
      .cases z;rfl
     .cases z
    clear z;replace H:=I;replace s:=fW S;clear I h0 h2 S
    go_wp21
    refine j9.OY (DG E hF j) H s HS rfl ?_ ?_
    .intro c p j ws H1 H2 H3;go_wp2;exact⟨rfl,pd H1 H2 H3⟩
    rintro⟨⟩ u w3 I h2 S z;have ac:Hid (u.act=h.act):=fW ((PH z).trans HJ);clear z;replace H:=I;replace s:=fW S;have aj:=I.lt;clear I h2 S;have X:ri (some a) u.last u≠ .stuck:=by
     intro ah;apply HS;rw[s.out,M.gy];unfold qI;rw[ah]
    have CL:=(H.k0 ((Kept.refl _ w3).drew)).rel.PT;have J:=Z8 (H.k0 ((Kept.refl _ w3).drew)).rel (some a) u.last X;rw[show oV g2 (some a)=gL (g a)from by show gL (g2 a)=_;rw[HX.out a ad.out]]at J;clear X
    go_wp21
    go_region_with (first
     |(go_at_call 160;refine CL.mono ?_;rintro e w4 ⟨rfl,rfl⟩)
     |(go_at_call 258;refine J.mono ?_;rintro e w5 ⟨rfl,q1,q2,q3⟩;have HZ:=fW ((H.k0 ((Kept.refl _ w3).drew)).to q2 (se _ _ rfl) q3);have HQ:=fW q1;clear q1 q2 q3))
    all_goals (try (go_wp21))
    all_goals refine⟨⟨k,n+1,g2,_,by simp,by omega,HZ,?_,?_⟩,by simp[intOf];omega⟩
    .rw[s.out,M.gy];unfold qI;rw[HQ.out]
    .show(pM u.act (some a) u.last).length=σ.act.length;rw[QH,ac.out];exact O
 clear F H s C1
 go_loopw [2] (λv wr=>∃k:Nat,k<=σ.act.length/\v=gp k/\σ.tV (σ.act.take k).reverse=σ.Au/\wr=w) (λv _=>(intOf v).toNat)
 case atStart=>grind[Ab.Au]
 case round=>
  obtain⟨k,hk,rfl,d,rfl⟩:=hrel;cases k with
  |zero=>
   have hz:σ.Au=0:=by rw[<-d];rfl
   have HZ:=fW hz;clear hz d;go_wp2;have:=N;rw[HZ.out]at this
   simp_all
  |succ k=>
   have V:k < σ.act.length:=by omega
   have e1:σ.act.take (k+1)=σ.act.take k++[σ.act[k]]:=by rw[Kk,rq V];rfl
   rw[e1,Ww]at d;have hg:iB σ.act ((k:Int))=σ.act[k]:=by
    unfold iB;rw[gF (by omega)];simp[List.getD,V]
   have l:=D.atA (k:Int);have r:=D.ach (k:Int);rw[hg]at l r;have B:=aaS D _ r;have e2:((k+1:Nat):Int) - 1=(k:Int):=by omega
   have ak:(0:Int) < ((k+1:Nat):Int):=by omega
   have Y:(σ.act.take k).length=k:=by simp;omega
   rw[Y]at d;clear e1 hg r Y;generalize hM:σ.Sz σ.act[k]=b at B d;clear hM;generalize oV f σ.act[k]=vv at l B;cases b with
   |true=>
    go_wp21
    refine l.mono ?_;rintro e w ⟨rfl,rfl⟩
    go_wp21
    refine B.mono ?_;rintro e w ⟨rfl,rfl⟩
    go_wp21
    have:=N;have ag:k+1=σ.Au:=by simpa using d
    rw[<-ag]at this;exact this _ _ _ _ _ _ _ _ _ _ _ _ _ _ _
   |false=>
    go_wp21
    refine l.mono ?_;rintro e w ⟨rfl,rfl⟩
    go_wp21
    refine B.mono ?_;rintro e w ⟨rfl,rfl⟩
    go_wp21
    exact⟨⟨k,by omega,rfl,by simpa using d,trivial⟩,by simp[intOf]⟩
theorem tC (p q:gz->Bool) (σ:Ab):ni p q σ= .ok (σ.inScope p q) (σ.close p q):=by
 grind[ni,Ab.inScope,Ab.close]
def Dn {σ:Ab} (h:RF E f σ w) {d g : Nat} {a b : jO} (i:Ask E.bm (.func (.func d) #[] a) p w) (j:Ask E.bm (.func (.func g) #[] b) q w):
  Calls prog 209 #[Bp E,.func (.func d) #[] a,.func (.func g) #[] b] w λe c=>e=ir (.bool (σ.inScope p q))/\RF E f (σ.close p q) c/\Fr E.bs w c:=by
 have:=yG h i j;rw[tC]at this;exact this.mono (λe c h=>⟨h.1,h.2.1,h.2.2.1⟩)
theorem xV (σ:Ab) (p q:gz->Bool):σ.nodes.length<=(σ.close p q).nodes.length:=by
 unfold Ab.close;grind[Ab.Fl]
def Ec (E:Env) (t:gN) {σ:Ab} (h:RF E f σ w):∃a b c n d,∀w,Calls prog 158 #[iF E t] w λe g=>e=ir (.agg #[gp a,gp b,gI t.name,.slice c n d])/\Kept [] w g:=by
 have⟨c,n,d,htv⟩:=h.tv;have C:=λw=>yt E t w ⟨c,n,d,htv⟩;have⟨a,b,k,gM⟩:=t;cases k<;>simp only[zh,gN.name,htv]at C|-
 case start s=>exact⟨_,_,_,_,_,C⟩
 case stop s=>exact⟨_,_,_,_,_,C⟩
 all_goals exact⟨_,_,_,_,_,C⟩
def Nc (E:Env) (t:gN):ja E 193 (λ_=>#[Bp E,iF E t]) (tH) uV:=by
 refine dI λf σ w R g HS H=>?_;unfold tH at g;go_enter func193,ntmps193;have⟨kb,lbb,cb,HQ⟩:=H.rel.bounds;have j:=H.lt;have i:=cb;have r:=(Kept.refl [] w).drew;replace g:Hid (R= .ok () (σ.close (ik [me,mf]) (iQ))):=by
  have:=g;rw[M.gy,tC]at this;exact fW this
 go_wp21
 go_region_with (first
   |(go_at_call 261;refine(F0 E _).mono ?_;rintro e x ⟨A,u,rfl,c,d⟩;have b:=r.trans d;have z:x.cell? ⟨E.bB,186,none⟩=some (.func (.func kb) #[] lbb):=(b.cell (p:=⟨E.bB,186,none⟩) j (by simp)).trans i;have h:=fW c;have a:=fW b;clear c d b)
   |(go_at_call 209;refine(Dn (p:=ik [me,mf]) (q:=iQ) (H.k0 a).rel h (HQ.k0 a)).mono ?_;rintro e B ⟨rfl,l,o⟩;have s:=fW ((H.k0 a).to l (xV _ _ _) o);clear l o))
 all_goals (try (go_wp21))
 all_goals go_wp2
 all_goals go_end0
 all_goals exact gv g s rfl
def Iv (E:Env) (s:gz):ja E 200 (λ_=>#[Bp E,gI s]) (uH s) uV:=by
 refine dI λf σ w R g HS H=>?_;unfold uH at g;go_enter func200,ntmps200;have⟨kb,lbb,cb,HQ⟩:=H.rel.G1;have j:=H.lt;have i:=cb;have r:=(Kept.refl [] w).drew;replace g:Hid (R= .ok () (σ.close (ik [s]) (lc))):=by
  have:=g;rw[M.gy,tC]at this;exact fW this
 go_wp21
 go_region_with (first
   |(go_at_call 206;refine(nk E [s] w.drew (by simp)).mono ?_;rintro e z ⟨B,x,rfl,c,d⟩;have b:=r.trans d;have A:z.cell? ⟨E.bB,184,none⟩=some (.func (.func kb) #[] lbb):=(b.cell (p:=⟨E.bB,184,none⟩) j (by simp)).trans i;have h:=fW c;have a:=fW b;clear c d b)
   |(go_at_call 209;refine(Dn (p:=ik [s]) (q:=lc) (H.k0 a).rel h (HQ.k0 a)).mono ?_;rintro e C ⟨rfl,l,o⟩;have u:=fW ((H.k0 a).to l (xV _ _ _) o);clear l o))
 all_goals (try (go_wp21))
 all_goals go_wp2
 all_goals go_end0
 all_goals exact gv g u rfl
def VE (E:Env) (t:gN):ja E 190 (λ_=>#[Bp E,iF E t]) (yL) uV:=by
 refine dI λf σ w R b HS H=>?_;unfold yL at b;go_enter func190,ntmps190;have⟨kb,lbb,cb,HQ⟩:=H.rel.bounds;have o:=H.lt;have j:=cb;have s:=(Kept.refl [] w).drew
 go_wp21
 go_cut [11]from 4 to 10 (λr wc=>r= .bool (σ.inScope (ik [gE]) (iQ))/\At E f σ.nodes.length w f (σ) wc)
 case first=>
  go_region_with (first
   |(go_at_call 206;refine(nk E [gE] w.drew (by simp)).mono ?_;rintro e A ⟨F,z,rfl,d,g⟩;have c:=s.trans g;have B:A.cell? ⟨E.bB,186,none⟩=some (.func (.func kb) #[] lbb):=(c.cell (p:=⟨E.bB,186,none⟩) o (by simp)).trans j;have i:=fW d;have a:=fW c;clear d g c)
   |(go_at_call 219;refine(vI (H.k0 a).rel (ik [gE]) (iQ) _ _ i (HQ.k0 a)).mono ?_;rintro e G ⟨rfl,h⟩;have u:=fW ((H.k0 a).k0 h);clear h))
  all_goals (try (go_wp21))
  all_goals (go_meet;exact⟨rfl,u⟩)
 case rest=>
  obtain⟨rfl,l⟩:=hcut;replace H:=l;cases hc:σ.inScope (ik [gE]) iQ with
  |true=>
   replace b:Hid (R= .ok () {σ with mode:=16}):=by
    have:=b;rw[gF hc]at this;exact fW this
   have C:=H.rH;have D:=H.free 192;have x:=H.lt;replace H:=H.jc 16;go_wp2;go_end0;exact gv b H rfl
  |false=>
   replace b:Hid (R= .ok () σ):=by
    have:=b;rw[gR (by simp[hc])]at this;exact fW this
   go_wp2;go_end0;exact gv b H rfl
def VI (E:Env) (rec:Nat->gN->M Unit) (hA:∀(m:Nat) (t:gN),jd E t->ja E 153 (λ_=>#[Bp E,gp m,iF E t]) (rec m t) uV) (t:gN) (z:jd E t):ja E 191 (λ_=>#[Bp E,iF E t]) (yN rec t) uV:=by
 refine dI λf σ w R a HS H=>?_;unfold yN at a;go_enter func191,ntmps191;have⟨kb,lbb,cb,HQ⟩:=H.rel.bounds;have o:=H.lt;have j:=cb;have s:=(Kept.refl [] w).drew
 go_wp21
 go_cut [11]from 4 to 10 (λr wc=>r= .bool (σ.inScope (ik [gE]) (iQ))/\At E f σ.nodes.length w f (σ) wc)
 case first=>
  go_region_with (first
   |(go_at_call 206;refine(nk E [gE] w.drew (by simp)).mono ?_;rintro e B ⟨J,A,rfl,d,g⟩;have c:=s.trans g;have F:B.cell? ⟨E.bB,186,none⟩=some (.func (.func kb) #[] lbb):=(c.cell (p:=⟨E.bB,186,none⟩) o (by simp)).trans j;have i:=fW d;have b:=fW c;clear d g c)
   |(go_at_call 219;refine(vI (H.k0 b).rel (ik [gE]) (iQ) _ _ i (HQ.k0 b)).mono ?_;rintro e K ⟨rfl,h⟩;have u:=fW ((H.k0 b).k0 h);clear h))
  all_goals (try (go_wp21))
  all_goals (go_meet;exact⟨rfl,u⟩)
 case rest=>
  obtain⟨rfl,l⟩:=hcut;replace H:=l;cases hc:σ.inScope (ik [gE]) iQ with
  |true=>
   replace a:Hid (R=(j1 rec t>>=λ_=>(Pure.pure ():M Unit)) {σ with mode:=16}):=by
    have:=a;rw[gF hc]at this;exact fW this
   have G:=H.rH;have I:=H.free 192;have x:=H.lt;replace H:=H.jc 16
   go_wp21
   refine dC (th E rec hA t z) H a HS rfl lT ?_;rintro(_) f σ w H D C a;go_wp2;go_end0;exact gv a H rfl
  |false=>
   replace a:Hid (R= .ok () σ):=by
    have:=a;rw[gR (by simp[hc])]at this;exact fW this
   go_wp2;go_end0;exact gv a H rfl
def ra (E:Env) (hF:lr E) (t:gN) (d:jd E t):ja E 104 (λ_=>#[Bp E,iF E t]) (ly t) uV:=by
 refine dI λf σ w R a HS H=>?_;unfold ly at a;go_enter func104,ntmps104
 go_wp21
 refine dC (rN E hF) H a HS rfl lT ?_;rintro(_) f σ w H c b a
 go_wp21
 refine dC (kZ E hF t d) H a HS rfl lT ?_;rintro(_) f σ w H c b a;go_wp2;go_end0;exact gv a H rfl
def Q0 (E:Env) (hF:lr E) (t:gN) (d:jd E t):ja E 185 (λ_=>#[Bp E,iF E t]) (sG t) uV:=by
 refine dI λf σ w R a HS H=>?_;unfold sG at a;go_enter func185,ntmps185
 go_wp21
 refine dC (rN E hF) H a HS rfl lT ?_;rintro(_) f σ w H c b a
 go_wp21
 refine dC (vy E hF t d) H a HS rfl lT ?_;rintro(_) f σ w H c b a;go_wp2;go_end0;exact gv a H rfl
def M2 (E:Env) (hF:lr E) (t:gN):ja E 102 (λ_=>#[Bp E,iF E t]) (nG t) uV:=by
 refine dI λf σ w R a HS H=>?_;unfold nG at a;go_enter func102,ntmps102;have C:=IZ E t w;cases hn:sU t.chars with
 |true=>
  rw[hn]at C a;replace a:Hid (R= .ok () σ):=a
  go_wp21
  refine C.mono ?_;rintro e w ⟨rfl,b⟩;replace H:=H.k0 b;go_wp2;go_end0;exact gv a H rfl
 |false=>
  rw[hn]at C a;replace a:Hid (R=(lH>>=λ_=>(do j7 t;return ():M Unit)) σ):=a
  go_wp21
  refine C.mono ?_;rintro e w ⟨rfl,b⟩;replace H:=H.k0 b
  go_wp21
  refine dC (rN E hF) H a HS rfl lT ?_;rintro(_) f σ w H d c a
  go_wp21
  refine dC (vx E hF t) H a HS rfl lT ?_;rintro(_) f σ w H d c a;go_wp2;go_end0;exact gv a H rfl
def Ia (E:Env) (hF:lr E) (t:gN):ja E 128 (λ_=>#[Bp E,iF E t]) (pr t) uV:=by
 refine dI λf σ w R a HS H=>?_;unfold pr at a;go_enter func128,ntmps128;have C:=IZ E t w;cases hn:sU t.chars with
 |true=>
  rw[hn]at C a;replace a:Hid (R= .ok () σ):=a
  go_wp21
  refine C.mono ?_;rintro e w ⟨rfl,b⟩;replace H:=H.k0 b;go_wp2;go_end0;exact gv a H rfl
 |false=>
  rw[hn]at C a;replace a:Hid (R=(j7 t>>=λ_=>(pure ():M Unit)) σ):=a
  go_wp21
  refine C.mono ?_;rintro e w ⟨rfl,b⟩;replace H:=H.k0 b
  go_wp21
  refine dC (vx E hF t) H a HS rfl lT ?_;rintro(_) f σ w H d c a;go_wp2;go_end0;exact gv a H rfl
def JP (E:Env) (hF:lr E) (t:gN) (h:jd E t):ja E 176 (λ_=>#[Bp E,iF E t]) (oq t) uV:=by
 refine dI λf σ w R a HS H=>?_;unfold oq at a;go_enter func176,ntmps176
 go_wp21
 refine Am (λg=>xU H.rel g) H a HS lT ?_;rintro(_) σ w H d a
 go_wp21
 refine(F0 E _).mono ?_;rintro e w ⟨l,i,rfl,b,c⟩;replace H:=H.k0 c
 go_wp21
 refine Am (λ_=>vC H.rel b) H a HS lT ?_;rintro(_) σ w H d a
 go_wp21
 refine dC (kZ E hF t h) H a HS rfl lT ?_;rintro(_) f σ w H j d a;go_wp2;go_end0;exact gv a H rfl
def WH (E:Env) (hF:lr E) (t:gN) (d:jd E t):ja E 177 (λ_=>#[Bp E,iF E t]) (xl t) uV:=by
 refine dI λf σ w R a HS H=>?_;unfold xl at a;go_enter func177,ntmps177
 go_wp21
 refine Am (λc=>xU H.rel c) H a HS lT ?_;rintro(_) σ w H b a
 go_wp21
 refine dC (vy E hF t d) H a HS rfl lT ?_;rintro(_) f σ w H e b a;go_wp2;go_end0;exact gv a H rfl
def Lp (E:Env) (hF:lr E) (t:gN) (g:jd E t):ja E 183 (λ_=>#[Bp E,iF E t]) (pj t) uV:=by
 refine dI λf σ w R a HS H=>?_;unfold pj at a;go_enter func183,ntmps183
 go_wp21
 refine(nk E [gO] _ (by decide)).mono ?_;rintro e w ⟨j,h,rfl,b,c⟩;replace H:=H.k0 c
 go_wp21
 refine Am (λ_=>vC H.rel b) H a HS lT ?_;rintro(_) σ w H d a
 go_wp21
 refine dC (ra E hF t g) H a HS rfl lT ?_;rintro(_) f σ w H i d a;go_wp2;go_end0;exact gv a H rfl
def zO (E:Env) (hF:lr E) (t:gN) (g:jd E t):ja E 129 (λ_=>#[Bp E,iF E t]) (j5 t) uV:=by
 refine dI λf σ w R a HS H=>?_;unfold j5 at a;go_enter func129,ntmps129
 go_wp21
 refine(tR E _).mono ?_;rintro e w ⟨j,h,rfl,b,c⟩;replace H:=H.k0 c
 go_wp21
 refine Am (λ_=>vC H.rel b) H a HS lT ?_;rintro(_) σ w H d a
 go_wp21
 refine dC (kZ E hF t g) H a HS rfl lT ?_;rintro(_) f σ w H i d a;go_wp2;go_end0;exact gv a H rfl
def sF (E:Env) (hF:lr E) (t:gN) (i:jd E t):ja E 130 (λ_=>#[Bp E,iF E t]) (ju t) uV:=by
 refine dI λf σ w R a HS H=>?_;unfold ju at a;go_enter func130,ntmps130
 go_wp21
 refine(tR E _).mono ?_;rintro e w ⟨r,j,rfl,b,d⟩;replace H:=H.k0 d
 go_wp21
 refine Am (λ_=>vC H.rel b) H a HS lT ?_;rintro(_) σ w H h a
 go_wp21
 refine(qT E _).mono ?_;rintro e w ⟨s,l,rfl,c,g⟩;replace H:=H.k0 g
 go_wp21
 refine Am (λ_=>vC H.rel c) H a HS lT ?_;rintro(_) σ w H h a
 go_wp21
 refine dC (kZ E hF t i) H a HS rfl lT ?_;rintro(_) f σ w H o h a;go_wp2;go_end0;exact gv a H rfl
def D8 (E:Env) (hF:lr E) (t:gN) (c:jd E t):ja E 131 (λ_=>#[Bp E,iF E t]) (lK t) uV:=by
 refine dI λf σ w R a HS H=>?_;unfold lK at a;go_enter func131,ntmps131
 go_wp21
 refine dC (sF E hF t c) H a HS rfl lT ?_;rintro(_) f σ w H d b a
 go_wp21
 refine mC (Cj E) H a HS rfl lT ?_;rintro(_) σ w H b a;go_wp2;go_end0;exact gv a H rfl
def Bf (E:Env) (t:gN):ja E 134 (λ_=>#[Bp E,iF E t]) (mM) uV:=by
 refine dI λf σ w R a HS H=>?_;unfold mM at a;go_enter func134,ntmps134
 go_wp21
 refine(tR E _).mono ?_;rintro e w ⟨h,d,rfl,b,c⟩;replace H:=H.k0 c
 go_wp21
 refine Am (λ_=>vC H.rel b) H a HS lT ?_;rintro(_) σ w H g a;go_wp2;go_end0;exact gv a H rfl
def Lo (E:Env) (hF:lr E) (t:gN) (c:jd E t):ja E 189 (λ_=>#[Bp E,iF E t]) (pi t) uV:=by
 refine dI λf σ w R a HS H=>?_;unfold pi at a;go_enter func189,ntmps189
 go_wp21
 refine dC (ra E hF t c) H a HS rfl lT ?_;rintro(_) f σ w H d b a
 go_wp21
 refine mC (zT E) H a HS rfl lT ?_;rintro(_) σ w H b a;go_wp2;go_end0;exact gv a H rfl
def JO (E:Env) (hF:lr E) (t:gN) (g:jd E t):ja E 108 (λ_=>#[Bp E,iF E t]) (pB t) uV:=by
 refine dI λf σ w R a HS H=>?_;unfold pB at a;go_enter func108,ntmps108
 go_wp21
 refine(Mx E _).mono ?_;rintro e w ⟨r,h,rfl,b,c⟩;replace H:=H.k0 c
 go_wp21
 refine Am (λ_=>Eu H.rel b) H a HS lT ?_;rintro(_) σ w H d a
 go_wp21
 refine mC (zT E) H a HS rfl lT ?_;rintro(_) σ w H d a
 go_wp21
 refine dC (kZ E hF t g) H a HS rfl lT ?_;rintro(_) f σ w H i d a;have j:=H.rH;have l:=H.free 192;have o:=H.lt;replace H:=H.jc 9;go_wp2;go_end0;exact gv a H rfl
def VJ (E:Env) (t:gN):ja E 194 (λ_=>#[Bp E,iF E t]) (AV) uV:=by
 refine dI λf σ w R c HS H=>?_;unfold AV at c;go_enter func194,ntmps194
 go_wp21
 refine(nk E [kK] _ (by decide)).mono ?_;rintro e w ⟨l,h,rfl,a,g⟩;replace H:=H.k0 g
 go_wp21
 refine(K5 H.rel).mono ?_;rintro e w ⟨o,i,rfl,d,b⟩;replace H:=H.k0 b;replace a:=a.k0 b
 go_wp21
 refine Am (λ_=>yG H.rel a d) H c HS lT ?_;rintro(_) σ w H j c;go_wp2;go_end0;exact gv c H rfl
def Sf (E:Env) (hF:lr E) (t:gN):ja E 196 (λ_=>#[Bp E,iF E t]) (uG) uV:=by
 refine dI λf σ w R a HS H=>?_;unfold uG at a;go_enter func196,ntmps196
 go_wp21
 refine dC (rN E hF) H a HS rfl lT ?_;rintro(_) f σ w H c b a
 go_wp21
 refine dC (ur E hF j3) H a HS rfl lT ?_;rintro(_) f σ w H c b a
 go_wp21
 refine mC (Cj E) H a HS rfl lT ?_;rintro(_) σ w H b a;go_wp2;go_end0;exact gv a H rfl
def Sc (E:Env) (t:gN):ja E 192 (λ_=>#[Bp E,iF E t]) (xY t) uV:=by
 refine dI λf σ w R l HS H=>?_;unfold xY at l;go_enter func192,ntmps192;have⟨kb,lbb,cb,HQ⟩:=H.rel.bounds;have c:=H.lt;have d:=cb;have g:=(Kept.refl [] w).drew;have⟨ta,tb,tao,tn,tcp,HTG⟩:=Ec E t H.rel;have z:=λw=>AC ta tb t.name tao tn tcp w;replace l:Hid (R= .ok () (σ.close (ik [t.name]) (iQ))):=by
  have:=l;rw[M.gy,tC]at this;exact fW this
 go_wp21
 go_region_with (first
   |(go_at_call 158;refine(HTG _).mono ?_;rintro e r ⟨rfl,j⟩;have g:=fW (g.trans j);have F:r.cell? ⟨E.bB,186,none⟩=some (.func (.func kb) #[] lbb):=(g.cell (p:=⟨E.bB,186,none⟩) c (by simp)).trans d;have A:E.bB < r.heap.size:=lU c g.size;clear j)
   |(go_at_call 206;refine(nk E [t.name] r (by simp)).mono ?_;rintro e C ⟨G,B,rfl,h,i⟩;have b:=g.trans i;have D:C.cell? ⟨E.bB,186,none⟩=some (.func (.func kb) #[] lbb):=(b.cell (p:=⟨E.bB,186,none⟩) c (by simp)).trans d;have o:=fW h;have a:=fW b;clear h i b)
   |(go_at_call 209;refine(Dn (p:=ik [t.name]) (q:=iQ) (H.k0 a).rel o (HQ.k0 a)).mono ?_;rintro e I ⟨rfl,s,u⟩;have x:=fW ((H.k0 a).to s (xV _ _ _) u);clear s u))
 all_goals (try (go_wp21))
 all_goals go_wp2
 all_goals go_end0
 all_goals exact gv l x rfl
def DA (E:Env) (rec:Nat->gN->M Unit) (hA:∀(m:Nat) (t:gN),jd E t->ja E 153 (λ_=>#[Bp E,gp m,iF E t]) (rec m t) uV) (t:gN) (e:jd E t):ja E 117 (λ_=>#[Bp E,iF E t]) (sT rec t) uV:=by
 refine dI λf σ w R a HS H=>?_;unfold sT at a;go_enter func117,ntmps117;have b:=H.XM;have c:=H.free 195;have d:=H.lt;replace H:=H.yk true
 go_wp21
 refine dC (hA 6 t e) H a HS rfl lT ?_;rintro(_) f σ w H h g a;have b:=H.XM;have c:=H.free 195;have d:=H.lt;replace H:=H.yk false;go_wp2;go_end0;exact gv a H rfl
def KE (E:Env) (rec:Nat->gN->M Unit) (hA:∀(m:Nat) (t:gN),jd E t->ja E 153 (λ_=>#[Bp E,gp m,iF E t]) (rec m t) uV) (t:gN) (d:jd E t):ja E 107 (λ_=>#[Bp E,iF E t]) (o9 rec t) uV:=by
 refine dI λf σ w R a HS H=>?_;unfold o9 at a;go_enter func107,ntmps107
 go_wp21
 refine(BG E _).mono ?_;rintro e w ⟨u,i,rfl,b,c⟩;replace H:=H.k0 c;have C:=AQ H.rel b;cases hc:σ.current AA with
 |true=>
  rw[hc]at C;replace a:Hid (R=(j1 rec t>>=λ_=>(pure ():M Unit)) {σ with kept:=σ.mode,mode:=8}):=by
   have:=a;rw[gF hc]at this;exact fW this
  go_wp21
  refine C.mono ?_;rintro e w ⟨rfl,rfl⟩;have j:=H.rH;have o:=H.free 192;have l:=H.RX;have r:=H.free 193;have s:=H.lt;replace H:=(H.ym σ.mode).jc 8
  go_wp21
  refine dC (th E rec hA t d) H a HS rfl lT ?_;rintro(_) f σ w H h g a;go_wp2;go_end0;exact gv a H rfl
 |false=>
  rw[hc]at C;replace a:Hid (R=(sT rec t>>=λ_=>(pure ():M Unit)) σ):=by
   have:=a;rw[gR (by simp[hc])]at this;exact fW this
  go_wp21
  refine C.mono ?_;rintro e w ⟨rfl,rfl⟩
  go_wp21
  refine dC (DA E rec hA t d) H a HS rfl lT ?_;rintro(_) f σ w H h g a;go_wp2;go_end0;exact gv a H rfl
def Ez {σ:Ab} (h:RF E f σ w) {ks : List gz} (m:Nat) (l:Ask E.bm (.func (.func k) #[] lb) (ik ks) w) (j:(rT ks m) σ≠ .stuck):Calls prog 217 #[Bp E,.func (.func k) #[] lb,gp m] w (j8 E f σ.nodes.length w ((rT ks m) σ) bV):=by
 have g:=l;obtain⟨R,d⟩:∃R,R=(rT ks m) σ:=⟨_,rfl⟩;rw[<-d]at j|-;unfold rT at d;have HS:=j;have H:=At.start h;have a:=fW d;clear d;go_enter func217,ntmps217
 go_wp21
 refine(wF E _).mono ?_;rintro e w ⟨z,o,rfl,i,c⟩;replace H:=H.k0 c;replace g:=g.k0 c
 go_wp21
 refine Am (λ_=>yG H.rel g i) H a HS mT ?_;rintro(b) σ w H r a;cases b with
 |false=>
  replace a:Hid (R= .ok false σ):=a;go_wp2;go_ret;exact jZ a H rfl
 |true=>
  replace a:Hid (R= .ok true {σ with mode:=m}):=a;have s:=H.rH;have u:=H.free 192;have x:=H.lt;replace H:=H.jc m;go_wp2;go_ret;exact jZ a H rfl
def zx {σ:Ab} (h:RF E f σ w) {ks : List gz} (m:Nat) (i:Ask E.bm (.func (.func k) #[] lb) (ik ks) w) (d:(li ks m) σ≠ .stuck):Calls prog 216 #[Bp E,.func (.func k) #[] lb,gp m] w (j8 E f σ.nodes.length w ((li ks m) σ) bV):=by
 have e:=i;obtain⟨R,c⟩:∃R,R=(li ks m) σ:=⟨_,rfl⟩;rw[<-c]at d|-;unfold li at c;have HS:=d;have H:=At.start h;have a:=fW c;clear c;go_enter func216,ntmps216
 go_wp21
 refine Am (λj=>Ez H.rel m e j) H a HS mT ?_;rintro(b) σ w H g a;cases b with
 |false=>
  replace a:Hid (R= .ok false σ):=a;go_wp2;go_ret;exact jZ a H rfl
 |true=>
  replace a:Hid (R=(zk>>=λ_=>(pure true:M Bool)) σ):=a
  go_wp21
  refine mC (Rl E) H a HS rfl mT ?_;rintro(_) σ w H g a;go_wp2;go_ret;exact jZ a H rfl
def Sl (E:Env):j9 E 113 (λ_=>#[Bp E]) x8 bV:=by
 refine mI λf σ w R a HS H=>?_;unfold x8 at a;go_enter func113,ntmps113
 go_wp21
 refine(Mx E _).mono ?_;rintro e w ⟨o,j,rfl,d,h⟩;replace H:=H.k0 h
 go_wp21
 refine(wF E _).mono ?_;rintro e w ⟨r,l,rfl,g,c⟩;replace H:=H.k0 c;replace d:=d.k0 c
 go_wp21
 refine Am (λ_=>yG H.rel d g) H a HS mT ?_;rintro(b) σ w H i a;cases b with
 |false=>
  replace a:Hid (R= .ok false σ):=a;go_wp2;go_ret;exact jZ a H rfl
 |true=>
  replace a:Hid (R=(xC>>=λ_=>(pure true:M Bool)) σ):=a
  go_wp21
  refine Am (λ_=>Uv H.rel) H a HS mT ?_;rintro(_) σ w H i a;go_wp2;go_ret;exact jZ a H rfl
def Nb (E:Env):j9 E 120 (λ_=>#[Bp E]) tG bV:=by
 refine mI λf σ w R a HS H=>?_;unfold tG at a;go_enter func120,ntmps120;replace a:=fW (M.tail a)
 go_wp21
 refine(nk E [gx] _ (by decide)).mono ?_;rintro e w ⟨j,h,rfl,c,d⟩;replace H:=H.k0 d
 go_wp21
 refine Am (λg=>zx H.rel 7 c g) H a HS mT ?_;rintro(b) σ w H i a;go_wp2;go_ret;exact jZ a H rfl
def Iy (E:Env):j9 E 123 (λ_=>#[Bp E]) qN bV:=by
 refine mI λf σ w R a HS H=>?_;unfold qN at a;go_enter func123,ntmps123;replace a:=fW (M.tail a)
 go_wp21
 refine(JX E _).mono ?_;rintro e w ⟨j,h,rfl,c,d⟩;replace H:=H.k0 d
 go_wp21
 refine Am (λg=>Ez H.rel 7 c g) H a HS mT ?_;rintro(b) σ w H i a;go_wp2;go_ret;exact jZ a H rfl
def X9 (E:Env):j9 E 126 (λ_=>#[Bp E]) EA bV:=by
 refine mI λf σ w R a HS H=>?_;unfold EA at a;go_enter func126,ntmps126;replace a:=fW (M.tail a)
 go_wp21
 refine(Uw E _).mono ?_;rintro e w ⟨j,h,rfl,c,d⟩;replace H:=H.k0 d
 go_wp21
 refine Am (λg=>Ez H.rel 11 c g) H a HS mT ?_;rintro(b) σ w H i a;go_wp2;go_ret;exact jZ a H rfl
def VG (E:Env):j9 E 127 (λ_=>#[Bp E]) endCell bV:=by
 refine mI λf σ w R a HS H=>?_;unfold endCell at a;go_enter func127,ntmps127;replace a:=fW (M.tail a)
 go_wp21
 refine(Vr E _).mono ?_;rintro e w ⟨j,h,rfl,c,d⟩;replace H:=H.k0 d
 go_wp21
 refine Am (λg=>zx H.rel 12 c g) H a HS mT ?_;rintro(b) σ w H i a;go_wp2;go_ret;exact jZ a H rfl
def Ex (E:Env):j9 E 121 (λ_=>#[Bp E]) my bV:=by
 refine mI λf σ w R a HS H=>?_;unfold my at a;go_enter func121,ntmps121
 go_wp21
 refine(nk E [gm] _ (by decide)).mono ?_;rintro e w ⟨l,d,rfl,b,c⟩;replace H:=H.k0 c;have C:=AQ H.rel b;cases hc:σ.current (ik [gm])with
 |true=>
  rw[hc]at C;replace a:Hid (R=(yh>>=λ_=>(do jM 7;return true:M Bool)) σ):=by
   have:=a;rw[gF hc]at this;exact fW this
  go_wp21
  refine C.mono ?_;rintro e w ⟨rfl,rfl⟩
  go_wp21
  refine mC (Cj E) H a HS rfl mT ?_;rintro(_) σ w H g a;have h:=H.rH;have i:=H.free 192;have j:=H.lt;replace H:=H.jc 7;go_wp2;go_ret;exact jZ a H rfl
 |false=>
  rw[hc]at C;replace a:Hid (R= .ok false σ):=by
   have:=a;rw[gR (by simp[hc])]at this;exact fW this
  go_wp21
  refine C.mono ?_;rintro e w ⟨rfl,rfl⟩;go_wp2;go_ret;exact jZ a H rfl
def RF.adi {σ:Ab} (h:RF E f σ w):σ.gX σ.form=true:=by have⟨L,_,hr⟩:=h;exact hr.wf.form
theorem RF.I6 {σ:Ab} (h:RF E f σ w):σ.gX σ.last=true:=by
 have⟨L,_,hr⟩:=h;unfold Ab.last;rcases wD σ.gA with a|⟨b,y,a⟩
 .rw[a];rfl
 .rw[a,vJ];exact Ab.vz (hr.wf.gA y (by grind))
theorem aa9 (E:Env) (v1:gP) (p:gz->Bool) (w:gw) (b:Ask E.bm v1 p w):
  Calls prog 225 #[v1] w (xK E (λs=>!p s) w):=by
 refine(aa7 E.bm v1 p w b).mono ?_;rintro e d ⟨⟨v,rfl,a⟩,c⟩;have⟨k,lb,e,_,_⟩:=a.call
 grind
def QU (E:Env) (t:gN) (h:jd E t):ja E 178 (λ_=>#[Bp E,iF E t]) (ub t) uV:=by
 refine dI λf σ w R a HS H=>?_;unfold ub at a;go_enter func178,ntmps178;have b:=H.RW;have s:=H.lt;cases hf:σ.form with
 |some i=>
  rw[hf]at b a;replace a:Hid (R= .ok () σ):=a;rw[show oV f (some i)=gL (f i)from rfl]at b;go_wp2;go_end0;exact gv a H rfl
 |none=>
  rw[hf]at b a;replace a:Hid (R=(mW t>>=λ_=>(do wG λσ=>{σ with form:=σ.last};return ():M Unit)) σ):=a;rw[show oV f none= .pointer none from rfl]at b
  go_wp21
  refine dC (vE E (iK E) t h) H a HS rfl lT ?_;rintro(_) f σ w H l j a;have c:=H.rel.I6;have C:=H.rel.PT;have o:=H.RW;have r:=H.free 191;have g:=H.lt;have d:=H.uN σ.last c
  go_wp21
  refine C.mono ?_;rintro e w ⟨rfl,rfl⟩;replace H:=d;go_wp2;go_end0;exact gv a H rfl
def Cx (E:Env) (t:gN) (z:jd E t):ja E 114 (λ_=>#[Bp E,iF E t]) (mc t) uV:=by
 refine dI λf σ w R a HS H=>?_;unfold mc at a;go_enter func114,ntmps114;have d:=H.RW;have I:=H.lt;cases hf:σ.form with
 |some i=>
  rw[hf]at d a;replace a:Hid (R= .ok () σ):=a;rw[show oV f (some i)=gL (f i)from rfl]at d;go_wp2;go_end0;exact gv a H rfl
 |none=>
  rw[hf]at d a;replace a:Hid (R=(jt t>>=λ_=>(do let x <-yh;wG λσ=>{σ with form:=x};return ():M Unit)) σ):=a;rw[show oV f none= .pointer none from rfl]at d
  go_wp21
  refine dC (kZ E (iK E) t z) H a HS rfl lT ?_;rintro(_) f σ w H C B a;have e:=H.rel.I6
  go_wp21
  refine j9.OY (Cj E) H a HS rfl ?_ ?_
  .intro c p j J b o r;have l:=fW b;clear b;go_wp2;exact⟨rfl,pd l o r⟩
  rintro x g w b G s h;have A:g.gX x=true:=by
   unfold yh at h;cases h;exact e
  have D:=b.RW;have F:=b.free 191;have u:=b.lt;replace H:=b.uN x A;replace a:=s;clear b;go_wp2;go_end0;exact gv a H rfl
def Of (E:Env) (t:gN) (e:jd E t):ja E 181 (λ_=>#[Bp E,iF E t]) (su t) uV:=by
 refine dI λf σ w R a HS H=>?_;unfold su at a;go_enter func181,ntmps181;have c:=H.XN;have d:=H.lt;cases hq:σ.jL with
 |true=>
  rw[hq]at c;replace a:Hid (R=(jt t>>=λ_=>(do jM 7;return ():M Unit)) σ):=by
   have:=a;rw[M.gy]at this;unfold yF at this;rw[hq]at this;exact fW this
  go_wp21
  refine dC (kZ E (iK E) t e) H a HS rfl lT ?_;rintro(_) f σ w H g b a;have h:=H.rH;have i:=H.free 192;have d:=H.lt;replace H:=H.jc 7;go_wp2;go_end0;exact gv a H rfl
 |false=>
  rw[hq]at c;replace a:Hid (R=(oD>>=λ_=>(do jt t;jM 7;return ():M Unit)) σ):=by
   have:=a;rw[M.gy]at this;unfold yF at this;rw[hq]at this;exact fW this
  go_wp21
  refine Am (λj=>xU H.rel j) H a HS lT ?_;rintro(_) σ w H b a
  go_wp21
  refine dC (kZ E (iK E) t e) H a HS rfl lT ?_;rintro(_) f σ w H g b a;have h:=H.rH;have i:=H.free 192;have d:=H.lt;replace H:=H.jc 7;go_wp2;go_end0;exact gv a H rfl
def Lr (E:Env) (t:gN) (j:jd E t):ja E 184 (λ_=>#[Bp E,iF E t]) (qz t) uV:=by
 refine dI λf σ w R a HS H=>?_;unfold qz at a;go_enter func184,ntmps184
 go_wp21
 refine dC (ra E (iK E) t j) H a HS rfl lT ?_;rintro(_) f σ w H u s a;have i:=H.rH;have x:=H.free 192;have z:=H.lt;have g:=H.jc 15;have h:=H.jc 14;replace a:Hid (R= .ok () {σ with mode:=if σ.mode=7\/σ.mode=9\/σ.mode=11\/σ.mode=12\/σ.mode=13 then 15 else 14}):=a;generalize c:σ.mode=b at i a;have e:=c;have d:=a
 by_cases c:b=7\/b=9\/b=11\/b=12\/b=13
 .rw[gF c]at d;replace a:=d;rcases c with rfl|rfl|rfl|rfl|rfl
  all_goals go_wp2
  all_goals go_end0
  all_goals exact gv a g rfl
 .rw[gR c]at d;replace a:=d;have A:((b:Int)==7)=false:=by rw[Ft];omega
  have B:((b:Int)==9)=false:=by rw[Ft];omega
  have l:((b:Int)==11)=false:=by rw[Ft];omega
  have o:((b:Int)==12)=false:=by rw[Ft];omega
  have r:((b:Int)==13)=false:=by rw[Ft];omega
  go_wp2;go_end0;exact gv a h rfl
def adb (E:Env) (t:gN):ja E 195 (λ_=>#[Bp E,iF E t]) Pk uV:=by
 refine dI λf σ w R a HS H=>?_;unfold Pk at a;go_enter func195,ntmps195
 go_wp21
 refine(nk E [mZ] _ (by decide)).mono ?_;rintro e w ⟨s,l,rfl,c,h⟩;replace H:=H.k0 h
 go_wp21
 refine(zu H.rel).mono ?_;rintro e w ⟨u,o,rfl,d,b⟩;replace H:=H.k0 b;have C:=vI H.rel _ _ _ _ (c.k0 b) d;cases hc:σ.inScope (ik [mZ]) Dk with
 |true=>
  rw[hc]at C;replace a:Hid (R=(oD>>=λ_=>(pure ():M Unit)) σ):=by
   have:=a;rw[gF hc]at this;exact fW this
  go_wp21
  refine C.mono ?_;rintro e w ⟨rfl,g⟩;replace H:=H.k0 g
  go_wp21
  refine Am (λi=>xU H.rel i) H a HS lT ?_;rintro(_) σ w H j a;go_wp2;go_end0;exact gv a H rfl
 |false=>
  rw[hc]at C;replace a:Hid (R=(km mZ>>=λ_=>(do oD;return ():M Unit)) σ):=by
   have:=a;rw[gR (by simp[hc])]at this;exact fW this
  go_wp21
  refine C.mono ?_;rintro e w ⟨rfl,g⟩;replace H:=H.k0 g
  go_wp21
  refine dC (ur E (iK E) mZ) H a HS rfl lT ?_;rintro(_) f σ w H r j a
  go_wp21
  refine Am (λi=>xU H.rel i) H a HS lT ?_;rintro(_) σ w H j a;go_wp2;go_end0;exact gv a H rfl
def Pm (E:Env):j9 E 132 (λ_=>#[Bp E]) vF bV:=by
 refine mI λf σ w R a HS H=>?_;unfold vF at a;go_enter func132,ntmps132
 go_wp21
 refine(nk E [iY] _ (by decide)).mono ?_;rintro e w ⟨D,x,rfl,c,s⟩;replace H:=H.k0 s
 go_wp21
 refine(tR E _).mono ?_;rintro e w ⟨F,z,rfl,d,h⟩;replace H:=H.k0 h;replace c:=c.k0 h
 go_wp21
 refine(qT E _).mono ?_;rintro e w ⟨G,A,rfl,l,g⟩;replace H:=H.k0 g;replace c:=c.k0 g;replace d:=d.k0 g
 go_wp21
 refine(SQ E _ _ _ _ _ d l).mono ?_;rintro e w ⟨I,B,rfl,o,i⟩;replace H:=H.k0 i;replace c:=c.k0 i
 go_wp21
 refine(aa9 E _ _ _ o).mono ?_;rintro e w ⟨J,C,rfl,r,j⟩;replace H:=H.k0 j;replace c:=c.k0 j
 go_wp21
 refine Am (λ_=>yG H.rel c r) H a HS mT ?_;rintro(b) σ w H u a;cases b with
 |false=>
  replace a:Hid (R= .ok false σ):=a;go_wp2;go_ret;exact jZ a H rfl
 |true=>
  replace a:Hid (R=(xC>>=λ_=>(pure true:M Bool)) σ):=a
  go_wp21
  refine Am (λ_=>Uv H.rel) H a HS mT ?_;rintro(_) σ w H u a;go_wp2;go_ret;exact jZ a H rfl
end
end Go.Proofs.YtofkkmcdggkkpaaGreatDoor
