import Derived.Test.YtcalkelgoekpfaaGreatDoorKept
import Derived.Stop.Asserts
import Derived.Handy
import Derived.PlainAid
import Derived.Deep.AppendLies
set_option linter.unusedSimpArgs false
set_option linter.unusedVariables false
set_option linter.defProp false
set_option linter.unusedSectionVars false
set_option maxHeartbeats 0
set_option maxRecDepth 100000
namespace Go.Proofs.YtcalkelgoekpfaaGreatDoor
open Go.RowKit Go.Extern.Stop Go.Stop Go.Extern Go.PlainAid Tryz
open Oper renaming semAt_some→db
open Nat renaming add_sub_cancel→nG
open Instr renaming checkKey→gg,field→lC,findKey→gj,findNow→gA,lookup→fO,mapUpdate→ew,sameNow→lD,typeAssert→dH
open Result renaming andThen→da
open Lib renaming indexByte→lA
open Below renaming heap_alloc→dc
open Value renaming func→fe,int→dv,ownBlock→dl,slice→cV
open Pure renaming pure→aG
open ReflectliteValue renaming elem→im,flagAddr→ij,isNil→ix,method→gv,methodAny→mA,mk→so,parts→gd,set→lq,unpack→ie,valueError→ga
open ReflectliteType renaming abiMethod→je,assignableTo→la,elem→na,implements_→nc,method→mR,relation→gr,toType→mK,typeOf→mz
open Option renaming some→H,none→F
open Bool renaming true→C,false→I
open List renaming length→ln,all_eq_true→dm,getElem?_eq_some_iff→dG,mem_append→dA,mem_cons→bZ,mem_map→dW,mem_singleton→cC,range→et,range_succ→ti,take_append_drop→fA
open _root_.Array renaming size→zq,getElem?_eq_some_iff→dD,replicate→eY
open Go renaming undef→qu
def Ph:=@Calls.quiet_of_same
def xu:=@List.drop_eq_getElem_cons
def Mu:=@fA
def amR:=@db
def Ch:=@wpIn_mono
def AR:=@grownBy_putObj'
def AU:=@callsIn_wide
def AV:=@callsIn_of_wp_marks
def uK:=@CallsIn.inRound
def ZV:=@KeepsOthers.setCell
def ru:=@run_takeDeferred
def uS:=@Bool.false_eq_true
def AO:=@if_false
def wJ:=@List.mem_of_mem_erase
def ak8:=@List.length_reverse
def jR:=@Nat.le_succ
def GK:=@Sem.run_bind
def Mm:=@Nat.eq_zero_or_pos
def py:=@World.cell?_alloc_lt
def XR:=@run_convert_bytes_back
def xK:=@Calls.quiet_of
def ug:=@dif_pos
def qm:=@List.length_append
def Mn:=@Lib.run_eql_slice_nil
def GL:=@List.flatMap_append
section
variable {E:fS}{L:iB}{S:List Nat}{T t:TypeId}{W K w U w0:J}{b bB bD base bm clock g i it j k l n n0 r:Nat}{c:io}{f:Nat->Nat}{m:Nat×Nat}{p vd:O->Bool}{q:Int->Bool}{rest:iU}{rs:List Ru}{s:O}{v x:dB}{vs B:List dB}{y:fW}{X:N}
def RF(E:fS)(f:Nat->Nat)(X:N)(w:J):Prop:=∃L,L.K=f/\fk E L X w
def Vn(n:Nat)(f g:Nat->Nat):Prop:=∀i,i<n->g i=f i
def Leaves{b:Type}(E:fS)(f:Nat->Nat)(n:Nat)(w:J)(r:pj b)(d:(Nat->Nat)->b->dB)(e:Ending)(U:J):Prop:=match r with
 | .ok a P=>∃g,Vn n f g/\n<=ln P.d/\e=ff (d g a)/\RF E g P U/\Fr E.bs w U
 | .stop c p=>∃k,e=qi k/\iO U k c p/\Fr E.bs w U
 | .stuck=>False
def pL{c:Type}(E:fS)(k:Nat)(b:(Nat->Nat)->io)(m:M c)(a:(Nat->Nat)->c->dB):Prop:=
 ∀f X w,RF E f X w->m X≠ .stuck->dS k (b f) w (Leaves E f (ln X.d) w (m X) a)
abbrev uV(_:Nat->Nat)(_:Unit):dB:=.tuple #[]
abbrev bV(_:Nat->Nat)(b:Bool):dB:=.bool b
abbrev nV(f:Nat->Nat)(i:Nat):dB:=dq (f i)
abbrev oV(f:Nat->Nat)(x:fW):dB:=jl (fx f x)
abbrev pV(f:Nat->Nat)(pl:Nat×Nat):dB:=.agg #[dq (f pl.1),G pl.2]
structure At(E:fS)(f0:Nat->Nat)(n0:Nat)(w0:J)(f:Nat->Nat)(σ:N)(w:J):Prop where
 rel:RF E f σ w
 ext:Vn n0 f0 f
 le:n0<=ln σ.d
 d:Fr E.bs w0 w
 hw:zq E.L.heap<=zq w0.heap
def At.start(h:RF E f X w):At E f (ln X.d) w f X w:=⟨h,λ_ _=>D,dF _,Fr.refl _,by have⟨L,_,hr⟩:=h;exact hr.d.size⟩
theorem RF.h(h:RF E f X w)(a:Z [] w U):RF E f X U:=by have⟨L,e,hr⟩:=h;exact⟨L,e,hr.h a⟩
def Z4:List TypeId:=[138,140,280,235,239,295,178,68,123,163]
theorem fk.side{L:pi}(h:fk E L X w)(U:w.heap[b]?=H (.cells c T m))(K:∀t∈Z4,t≠T)(e:zq E.L.heap<=b)(j:Nat)(u:dB):fk E L X (w.setCell ⟨b,j,F⟩ u):=by
 have d:KT E.bs [T] w (w.setCell ⟨b,j,F⟩ u):=.q ((Z.refl [b] w).setCell (.inl (by simp)) u) (λk o _=>by grind[fk.t]);have a:∀t∈Z4,t∉[T]:=λt A=>by grind
 have⟨Co,hbl,hC⟩:=h.dP;exact {h with
  d:=by have⟨S,o,hS⟩:=h.d;exact⟨S,o.setCell (.inr e) u,hS⟩
  B:=λi B z=>(h.B i B z).l d (λt A=>a t (by revert t;decide))
  dP:=⟨Co,d.at hbl (a _ (by decide)),hC⟩
  R:=d.row h.R (a _ (by decide))
  S:=d.row h.S (a _ (by decide))
  K:=d.row h.K (a _ (by decide))
  rd:=d.at h.rd (a _ (by decide))
  tok:=d.row h.tok (a _ (by decide))}
section
variable {α β:Type}{E:fS}{f0:Nat->Nat}{n0:Nat}{w0:J}{f:Nat->Nat}{X:N}{w:J}
def At.side(h:At E f0 n0 w0 f X w){b:Nat}{c:io}{T:TypeId}{m:Nat×Nat}(o:w.heap[b]?=H (.cells c T m))(d:∀t∈Z4,t≠T)(a:zq w0.heap<=b)(j:Nat)(u:dB):At E f0 n0 w0 f X (w.setCell ⟨b,j,F⟩ u):=by have⟨L,e,hr⟩:=h.rel;refine⟨⟨L,e,hr.side o d (gR h.hw a) j u⟩,h.ext,h.le,?_,h.hw⟩;have⟨S,hk,hS⟩:=h.d;exact⟨S,hk.setCell (.inr a) u,hS⟩
def At.k0(h:At E f0 n0 w0 f X w){U:J}(a:Z [] w U):At E f0 n0 w0 f X U:=⟨h.rel.h a,h.ext,h.le,h.d.trans (.h a),h.hw⟩
theorem At.to(h:At E f0 n0 w0 f X w){P:N}{U:J}(e:RF E f P U)(d:ln X.d<=ln P.d)(a:Fr E.bs w U):At E f0 n0 w0 f P U:=⟨e,h.ext,gR h.le d,h.d.trans a,h.hw⟩
theorem At.go(h:At E f0 n0 w0 f X w){g:Nat->Nat}{P:N}{U:J}(o:RF E g P U)(u:Vn (ln X.d) f g)(e:ln X.d<=ln P.d)(d:Fr E.bs w U):At E f0 n0 w0 g P U:=
 ⟨o,λi a=>(u i (kQ a h.le)).trans (h.ext i a),gR h.le e,h.d.trans d,h.hw⟩
theorem cF{R:pj α}{a:α}{d:(Nat->Nat)->α->dB}(o:R=.ok a X)(h:At E f0 n0 w0 f X w){e:Ending}(u:e=ff (d f a)):Leaves E f0 n0 w0 R d e w:=by subst o;exact⟨f,h.ext,h.le,u,h.rel,h.d⟩
theorem nY{R:pj α}{a:(Nat->Nat)->α->dB}{c p j:Nat}(d:R=.stop c p)(h:iO w j c p)(e:Fr E.bs w0 w):Leaves E f0 n0 w0 R a (qi j) w:=by grind[Leaves]
theorem pL.call{k:Nat}{n:(Nat->Nat)->io}{m:M α}{o:(Nat->Nat)->α->dB}(q:pL E k n m o)(a1:At E f0 n0 w0 f X w){R:pj β}{K:α->M β}(u:R=(m>>=K) X)(z:R≠ .stuck){A:io}(r:n f=A){Q:Ending->J->Prop}
  (B:∀c p j U,R=.stop c p->iO U j c p->Fr E.bs w0 U->Q (qi j) U)
  (a0:∀a g d U,At E f0 n0 w0 g d U->Vn (ln X.d) f g->Fr E.bs w U->R=K a d->Q (ff (o g a)) U):dS k A w Q:=by
 rw[M.cW]at u;have h:=q f X w a1.rel (λe=>z (by grind));rw[r]at h;refine h.mono ?_;intro e U i;cases hr:m X with
 |ok a d=>
  rw[hr]at i u;obtain⟨g,h1,l,rfl,s,t⟩:=i;grind[At.go]
 |stop c p=>
  rw[hr]at i u;obtain⟨j,rfl,l,b⟩:=i;exact B c p j U u l (a1.d.trans b)
 |stuck=>grind
end
def iW{b:Type}(E:fS)(f:Nat->Nat)(n:Nat)(w:J)(r:pj b)(d:(Nat->Nat)->b->dB)(e:Ending)(U:J):Prop:=match r with
 | .ok a P=>e=ff (d f a)/\RF E f P U/\Fr E.bs w U/\n<=ln P.d
 | .stop c p=>∃j,e=qi j/\iO U j c p/\Fr E.bs w U
 | .stuck=>False
def jk{c:Type}(E:fS)(k:Nat)(b:(Nat->Nat)->io)(m:M c)(a:(Nat->Nat)->c->dB):Prop:=
 ∀f X w,RF E f X w->m X≠ .stuck->dS k (b f) w (iW E f (ln X.d) w (m X) a)
section
variable {α β:Type}{E:fS}{f0:Nat->Nat}{n0:Nat}{w0:J}{f:Nat->Nat}{X:N}{w:J}
theorem jk.call{k:Nat}{l:(Nat->Nat)->io}{m:M α}{o:(Nat->Nat)->α->dB}(n:jk E k l m o)(a1:At E f0 n0 w0 f X w){R:pj β}{K:α->M β}(u:R=(m>>=K) X)(z:R≠ .stuck){A:io}(q:l f=A){Q:Ending->J->Prop}
  (B:∀c p j U,R=.stop c p->iO U j c p->Fr E.bs w0 U->Q (qi j) U)
  (a0:∀a d U,At E f0 n0 w0 f d U->Fr E.bs w U->R=K a d->Q (ff (o f a)) U):dS k A w Q:=by
 rw[M.cW]at u;have h:=n f X w a1.rel (λe=>z (by grind));rw[q]at h;refine h.mono ?_;intro e U g;cases hr:m X with
 |ok a d=>
  rw[hr]at g u;obtain⟨rfl,r,s,t⟩:=g;grind[At.to]
 |stop c p=>
  rw[hr]at g u;obtain⟨j,rfl,i,b⟩:=g;exact B c p j U u i (a1.d.trans b)
 |stuck=>grind
theorem ama{k:Nat}{m:M α}{h:(Nat->Nat)->α->dB}{A:io}(l:m X≠ .stuck->dS k A w (iW E f (ln X.d) w (m X) h))(a0:At E f0 n0 w0 f X w){R:pj β}{K:α->M β}(o:R=(m>>=K) X)(z:R≠ .stuck){Q:Ending->J->Prop}
  (g:∀c p j U,R=.stop c p->iO U j c p->Fr E.bs w0 U->Q (qi j) U)
  (b:∀a d U,At E f0 n0 w0 f d U->Fr E.bs w U->R=K a d->Q (ff (h f a)) U):dS k A w Q:=by
 rw[M.cW]at o;refine(l (λe=>z (by grind))).mono ?_;intro e U u;cases hr:m X with
 |ok a d=>
  rw[hr]at u o;obtain⟨rfl,n,q,r⟩:=u;grind[At.to]
 |stop c p=>
  rw[hr]at u o;obtain⟨j,rfl,B,i⟩:=u;exact g c p j U o B (a0.d.trans i)
 |stuck=>grind
theorem alI{k:Nat}{m:M α}{h:(Nat->Nat)->α->dB}{A:io}(n:m X≠ .stuck->dS k A w (Leaves E f (ln X.d) w (m X) h))(a0:At E f0 n0 w0 f X w){R:pj β}{K:α->M β}(o:R=(m>>=K) X)(z:R≠ .stuck){Q:Ending->J->Prop}
  (i:∀c p j U,R=.stop c p->iO U j c p->Fr E.bs w0 U->Q (qi j) U)
  (b:∀a g d U,At E f0 n0 w0 g d U->Vn (ln X.d) f g->Fr E.bs w U->R=K a d->Q (ff (h g a)) U):dS k A w Q:=by
 rw[M.cW]at o;refine(n (λe=>z (by grind))).mono ?_;intro e U u;cases hr:m X with
 |ok a d=>
  rw[hr]at u o;obtain⟨g,h1,B,rfl,q,r⟩:=u;grind[At.go]
 |stop c p=>
  rw[hr]at u o;obtain⟨j,rfl,B,l⟩:=u;exact i c p j U o B (a0.d.trans l)
 |stuck=>grind
def iw{R:pj α}{a:α}{d:(Nat->Nat)->α->dB}(o:R=.ok a X)(h:At E f n0 w0 f X w){e:Ending}(u:e=ff (d f a)):iW E f n0 w0 R d e w:=by subst o;exact⟨u,h.rel,h.d,h.le⟩
theorem tP{R:pj α}{a:(Nat->Nat)->α->dB}{c p j:Nat}(d:R=.stop c p)(h:iO w j c p)(e:Fr E.bs w0 w):iW E f n0 w0 R a (qi j) w:=by grind[iW]
def dC{k:Nat}{l:(Nat->Nat)->io}{m:M α}{d:(Nat->Nat)->α->dB}(n:pL E k l m d)(a0:Hid (At E f0 n0 w0 f X w)){R:pj β}{K:α->M β}(i:Hid (R=(m>>=K) X))(b:Hid (R≠ .stuck)){A:io}(q:l f=A){Q:Ending->J->Prop}
  (o:∀c p j U,Hid (R=.stop c p/\iO U j c p/\Fr E.bs w0 U)->Q (qi j) U)
  (h:∀a g e U,Hid (At E f0 n0 w0 g e U)->Hid (Vn (ln X.d) f g)->Hid (Fr E.bs w U)->Hid (R=K a e)->Q (ff (d g a)) U):dS k A w Q:=pL.call n a0 i b q (λc p j U u z B=>o c p j U ⟨u,z,B⟩) h
def mC{k:Nat}{i:(Nat->Nat)->io}{m:M α}{d:(Nat->Nat)->α->dB}(l:jk E k i m d)(a0:Hid (At E f0 n0 w0 f X w)){R:pj β}{K:α->M β}(g:Hid (R=(m>>=K) X))(b:Hid (R≠ .stuck)){A:io}(n:i f=A){Q:Ending->J->Prop}
  (o:∀c p j U,Hid (R=.stop c p/\iO U j c p/\Fr E.bs w0 U)->Q (qi j) U)
  (h:∀a e U,Hid (At E f0 n0 w0 f e U)->Hid (Fr E.bs w U)->Hid (R=K a e)->Q (ff (d f a)) U):dS k A w Q:=jk.call l a0 g b n (λc p j U u z B=>o c p j U ⟨u,z,B⟩) h
def As{k:Nat}{m:M α}{d:(Nat->Nat)->α->dB}{A:io}(i:m X≠ .stuck->dS k A w (iW E f (ln X.d) w (m X) d))(a0:Hid (At E f0 n0 w0 f X w)){R:pj β}{K:α->M β}(g:Hid (R=(m>>=K) X))(b:Hid (R≠ .stuck)){Q:Ending->J->Prop}
  (o:∀c p j U,Hid (R=.stop c p/\iO U j c p/\Fr E.bs w0 U)->Q (qi j) U)
  (h:∀a e U,Hid (At E f0 n0 w0 f e U)->Hid (Fr E.bs w U)->Hid (R=K a e)->Q (ff (d f a)) U):dS k A w Q:=ama i a0 g b (λc p j U u z B=>o c p j U ⟨u,z,B⟩) h
def dcH{k:Nat}{m:M α}{d:(Nat->Nat)->α->dB}{A:io}(l:m X≠ .stuck->dS k A w (Leaves E f (ln X.d) w (m X) d))(a0:Hid (At E f0 n0 w0 f X w)){R:pj β}{K:α->M β}(i:Hid (R=(m>>=K) X))(b:Hid (R≠ .stuck)){Q:Ending->J->Prop}
  (o:∀c p j U,Hid (R=.stop c p/\iO U j c p/\Fr E.bs w0 U)->Q (qi j) U)
  (h:∀a g e U,Hid (At E f0 n0 w0 g e U)->Hid (Vn (ln X.d) f g)->Hid (Fr E.bs w U)->Hid (R=K a e)->Q (ff (d g a)) U):dS k A w Q:=alI l a0 i b (λc p j U u z B=>o c p j U ⟨u,z,B⟩) h
def lS{R:pj α}{a:(Nat->Nat)->α->dB}{c p j:Nat}(h:Hid (R=.stop c p/\iO w j c p/\Fr E.bs w0 w)):Leaves E f0 n0 w0 R a (qi j) w:=nY h.1 h.2.1 h.2.2
def mS{R:pj α}{a:(Nat->Nat)->α->dB}{c p j:Nat}(h:Hid (R=.stop c p/\iO w j c p/\Fr E.bs w0 w)):iW E f n0 w0 R a (qi j) w:=tP h.1 h.2.1 h.2.2
def dI{k:Nat}{b:(Nat->Nat)->io}{m:M α}{a:(Nat->Nat)->α->dB}(h:∀f X w R,Hid (R=m X)->Hid (R≠ .stuck)->Hid (At E f (ln X.d) w f X w)->dS k (b f) w (Leaves E f (ln X.d) w R a)):pL E k b m a:=λf X w d e=>h f X w _ D e (At.start d)
def mI{k:Nat}{b:(Nat->Nat)->io}{m:M α}{a:(Nat->Nat)->α->dB}(h:∀f X w R,Hid (R=m X)->Hid (R≠ .stuck)->Hid (At E f (ln X.d) w f X w)->dS k (b f) w (iW E f (ln X.d) w R a)):jk E k b m a:=λf X w d e=>h f X w _ D e (At.start d)
end
def lT{b:Type}{d:Sort _}{x:d}{f0:Nat->Nat}{R:pj b}{a:(Nat->Nat)->b->dB}(c p j:Nat)(w:J)(h:Hid (R=.stop c p/\iO w j c p/\Fr E.bs w0 w)):x=x/\Leaves E f0 n0 w0 R a (qi j) w:=⟨D,lS h⟩
def mT{b:Type}{d:Sort _}{x:d}{R:pj b}{a:(Nat->Nat)->b->dB}(c p j:Nat)(w:J)(h:Hid (R=.stop c p/\iO w j c p/\Fr E.bs w0 w)):x=x/\iW E f n0 w0 R a (qi j) w:=⟨D,mS h⟩
def Hk(E:fS)(i:Nat):jk E 93 (λf=>#[nV f i]) (fM i) pV:=by
 intro f X w ⟨L,e,o⟩ a;subst e;unfold fM at a|-;cases he:X.h i with
 |none=>rw[he]at a;exact absurd D a
 |some e=>
  refine(US o he).mono ?_;rintro u U⟨rfl,d,h⟩;exact⟨D,⟨L,D,d⟩,.h h,dF _⟩
def EW(E:fS)(pl:Nat×Nat)(j:Nat):jk E 169 (λf=>#[pV f pl,.iface 68 (nV f j)]) (jz pl j) uV:=by
 intro f X w ⟨L,e,z⟩ a;subst e;unfold jz at a|-;cases h1:X.h pl.1 with
 |none=>rw[h1]at a;exact absurd D a
 |some ei=>
  cases h2:X.h j with
  |none=>rw[h1,h2]at a;exact absurd D a
  |some ej=>
   simp only[h1,h2]at a|-;by_cases d:j≠pl.1/\pl.2<=ln ei.q/\(ln ei.q)<1048576;rw[dw d];refine(L5 z h1 h2 d.1 d.2.1 d.2.2).mono ?_;rintro A U⟨rfl,h,e1,_,o,u,_⟩;exact⟨D,⟨h,e1,o⟩,u,by simp[N.l]⟩;rw[di d]at a;exact absurd D a
theorem Xp(E:fS)(pl:Nat×Nat)(s:O):pL E 176 (λf=>#[pV f pl,Y s]) (qd pl s) uV:=by
 intro f X w ⟨L,e,b⟩ a;subst e;unfold qd at a|-;cases h1:X.h pl.1 with
 |none=>rw[h1]at a;exact absurd D a
 |some ei=>
  simp only[h1]at a|-;by_cases A:pl.2<=ln ei.q/\(ln ei.q)<1048576;rw[dw A]at a|-;have d:∀(g:∀m,(B:m<ln ei.q)->pl.2=m+1->∀t,ei.q[m]≠ .tx t),dS 176 #[pV L.K pl,Y s] w (Leaves E L.K (ln X.d) w (.ok () ((X.add (.tx s)).l pl.1 {ei with q:=ins ei.q pl.2 (.tx (ln X.d))})) uV):=by intro g;refine(LZ b h1 A.1 A.2 g).mono ?_;rintro l U⟨rfl,z,e1,K,c⟩;exact⟨z.K,e1,by simp[N.l,N.add],D,⟨z,D,K⟩,c⟩
  by_cases i:pl.2=0;simp only[dw i]at a|-;exact d λm B e=>by omega
  simp only[di i]at a|-;obtain⟨m,B⟩:∃m,pl.2=m+1:=⟨pl.2-1,by omega⟩;have u:m<ln ei.q:=by omega
  have n:ei.q[pl.2-1]?=H ei.q[m]:=by rw[B,nG];exact qM u
  rw[n]at a|-;cases hk:ei.q[m]with
  |tx t=>
   simp only[hk]at a|-;cases ht:X.d[t]? with
   |none=>rw[ht]at a;exact absurd D a
   |some nd=>
    cases nd with
    |tx old=>
     simp only[ht]at a|-;by_cases h:old.size+s.size<=1048576;rw[dw h];have:=I9 b h1 u hk ht h;rw[<-B]at this;refine this.mono ?_;rintro l U⟨rfl,z,e1,K,c⟩;exact⟨L.K,λ_ _=>D,by simp[N.lw],D,⟨z,e1,K⟩,c⟩;rw[di h]at a;exact absurd D a
    |el e=>rw[ht]at a;exact absurd D a
    |cm e=>rw[ht]at a;exact absurd D a
    |dt e=>rw[ht]at a;exact absurd D a
  |el t=>exact d λj o e k=>by grind
  |cm t=>exact d λj o e k=>by grind
  |dt t=>exact d λj o e k=>by grind
  rw[di A]at a;exact absurd D a
def Vv(E:fS):jk E 178 (λ_=>#[gU E.A 188]) (λX=> .ok X.last X.pop) oV:=by intro f X w ⟨L,e,o⟩ z;subst e;refine(T6 o).mono ?_;rintro u U⟨rfl,a,e1,d,h⟩;exact⟨D,⟨a,e1,d⟩,h,dF _⟩
theorem QU(E:fS)(x:fW):jk E 180 (λf=>#[Bp E,oV f x]) (nK x) uV:=by
 intro f X w ⟨L,e,h⟩ z;subst e;have c0:=h.low (j:=0) (by decide) h.k.1;have⟨_,_,_,hd,_,_⟩:=h.k;have a0:=h.P;have o:=(λq=>V8 (h.drewN q));unfold nK at z|-;by_cases u:X.Q<=ln X.A
 .rw[dw u];have a:=(λq=>Re (h.drewN q) 5);go_enter func180,ntmps180;go_wp21
  go_quiet ((go_at_call 263;exact Ph (o _)))
  go_wp21;refine(a nq).mono ?_;rintro e U⟨k,rfl,A,g⟩;have B:=(Fr.drewN w nq).trans g;go_wp2;exact⟨D,k,D,A,B⟩
 .rw[di u]at z|-;have d:X.lj x=C:=by by_cases d:X.lj x=C;exact d;grind
  rw[dw d];have a:=(λq=>(by show Calls prog 265 #[gU E.A 188,jl (fx L.K x)] (w.drewN q) λe U=>e=pG/\To E L {X with A:=X.A++[x]} (w.drewN q) U;have h:=h.drewN q;have⟨Co,hL,hC⟩:=h.yT;refine(ad4 E.bs E.A 188 _ Co _ _ _ (w.drewN q) hL (by grind) h.bw).mono ?_;grind[fk.Mf,Wf.A,fk.wf]))
  go_enter func180,ntmps180;go_wp21
  go_quiet ((go_at_call 263;exact Ph (o _)))
  go_wp21;refine(a nq).mono ?_;rintro e U⟨rfl,b,e1,c,hf⟩;have K:=(Fr.drewN w nq).trans hf;go_wp2;go_end0;exact⟨D,⟨b,e1,c⟩,K,dF _⟩
section
variable {E:fS}{f0:Nat->Nat}{n0:Nat}{w0:J}{f:Nat->Nat}{X:N}{w:J}
theorem At.lt(h:At E f0 n0 w0 f X w):E.A<zq w.heap:=by have⟨L,_,hr⟩:=h.rel;exact hr.lt
def At.free(h:At E f0 n0 w0 f X w)(j:Nat):w.frozen? ⟨E.A,j,F⟩=I:=by have⟨L,_,hr⟩:=h.rel;exact hr.free j
def At.Hv(h:At E f0 n0 w0 f X w):w.cell? ⟨E.A,190,F⟩=H (oV f X.head):=by obtain⟨L,rfl,a⟩:=h.rel;exact a.Hv
def At.VS(h:At E f0 n0 w0 f X w):w.cell? ⟨E.A,191,F⟩=H (oV f X.j):=by obtain⟨L,rfl,a⟩:=h.rel;exact a.VS
def At.qY(h:At E f0 n0 w0 f X w):w.cell? ⟨E.A,192,F⟩=H (G X.g):=by obtain⟨L,rfl,a⟩:=h.rel;exact a.qY
def At.VU(h:At E f0 n0 w0 f X w):w.cell? ⟨E.A,193,F⟩=H (G X.kept):=by obtain⟨L,rfl,a⟩:=h.rel;exact a.VU
def At.IQ(h:At E f0 n0 w0 f X w):w.cell? ⟨E.A,195,F⟩=H (.bool X.U):=by obtain⟨L,rfl,a⟩:=h.rel;exact a.IQ
def At.I1(h:At E f0 n0 w0 f X w):w.cell? ⟨E.A,196,F⟩=H (.bool X.W):=by obtain⟨L,rfl,a⟩:=h.rel;exact a.I1
def At.VV(h:At E f0 n0 w0 f X w):w.cell? ⟨E.A,197,F⟩=H (G X.K):=by obtain⟨L,rfl,a⟩:=h.rel;exact a.VV
def At.I2(h:At E f0 n0 w0 f X w):w.cell? ⟨E.A,198,F⟩=H (.bool X.P):=by obtain⟨L,rfl,a⟩:=h.rel;exact a.I2
def At.a(h:At E f0 n0 w0 f X w)(j:Nat)(u:dB):Fr E.bs w (w.setCell ⟨E.A,j,F⟩ u):=by have⟨L,_,hr⟩:=h.rel;have⟨Co,hb⟩:=hr.TJ;exact .q ((Z.refl [E.A] w).setCell (.inl (by simp)) u) (λk a=>by simp at a;subst a;exact⟨⟨_,_,_,hb,by decide⟩,hr.A⟩)
def At.yl(h:At E f0 n0 w0 f X w)(x:fW)(e:X.dO x=C):At E f0 n0 w0 f {X with head:=x} (w.setCell ⟨E.A,190,F⟩ (oV f x)):=by have a:=h.a 190 (oV f x);obtain⟨L,rfl,d⟩:=h.rel;exact h.to ⟨L,D,d.yl x e⟩ (dF _) a
def At.uG(h:At E f0 n0 w0 f X w)(x:fW)(e:X.dO x=C):At E f0 n0 w0 f {X with j:=x} (w.setCell ⟨E.A,191,F⟩ (oV f x)):=by have a:=h.a 191 (oV f x);obtain⟨L,rfl,d⟩:=h.rel;exact h.to ⟨L,D,d.uG x e⟩ (dF _) a
def At.fy(h:At E f0 n0 w0 f X w)(x:Nat):At E f0 n0 w0 f {X with g:=x} (w.setCell ⟨E.A,192,F⟩ (G x)):=by obtain⟨L,rfl,a⟩:=h.rel;exact h.to ⟨L,D,a.fy x⟩ (dF _) (h.a 192 _)
def At.ym(h:At E f0 n0 w0 f X w)(x:Nat):At E f0 n0 w0 f {X with kept:=x} (w.setCell ⟨E.A,193,F⟩ (G x)):=by obtain⟨L,rfl,a⟩:=h.rel;exact h.to ⟨L,D,a.ym x⟩ (dF _) (h.a 193 _)
def At.yk(h:At E f0 n0 w0 f X w)(x:Bool):At E f0 n0 w0 f {X with U:=x} (w.setCell ⟨E.A,195,F⟩ (.bool x)):=by obtain⟨L,rfl,a⟩:=h.rel;exact h.to ⟨L,D,a.yk x⟩ (dF _) (h.a 195 _)
def At.qf(h:At E f0 n0 w0 f X w)(x:Bool):At E f0 n0 w0 f {X with W:=x} (w.setCell ⟨E.A,196,F⟩ (.bool x)):=by obtain⟨L,rfl,a⟩:=h.rel;exact h.to ⟨L,D,a.qf x⟩ (dF _) (h.a 196 _)
def At.Ds(h:At E f0 n0 w0 f X w)(x:Nat):At E f0 n0 w0 f {X with K:=x} (w.setCell ⟨E.A,197,F⟩ (G x)):=by obtain⟨L,rfl,a⟩:=h.rel;exact h.to ⟨L,D,a.Ds x⟩ (dF _) (h.a 197 _)
def At.rT(h:At E f0 n0 w0 f X w)(x:Bool):At E f0 n0 w0 f {X with P:=x} (w.setCell ⟨E.A,198,F⟩ (.bool x)):=by obtain⟨L,rfl,a⟩:=h.rel;exact h.to ⟨L,D,a.rT x⟩ (dF _) (h.a 198 _)
def IX(f:Nat->Nat)(n k:Nat):Nat->Nat:=λi=>if i<n then f i else k+(i-n)
def ald(f:Nat->Nat)(n k:Nat):IX f n k n=k:=by simp[IX]
def Tg(f:Nat->Nat)(n k:Nat):Vn n f (IX f n k):=λi a=>dw a
def At.Ic(h:At E f0 n0 w0 f X w)(a:O):At E f0 n0 w0 (IX f (ln X.d) w.heap.size) (X.add (.el {name:=a,A:=[],E:=F,q:=[]})) (w.alloc (dr #[Y a,gq,.pointer F,gq] 138)):=by obtain⟨L,rfl,d⟩:=h.rel;exact h.go ⟨_,D,d.Ic a⟩ (Tg _ _ _) (by simp[N.add]) (.h ((Z.refl _ _).alloc _))
theorem At.jN(h:At E f0 n0 w0 f X w)(d:X.E=C)(a:O):At E f0 n0 w0 (IX f (ln X.d) w.heap.size) (X.il (.el {name:=a,A:=E.B,E:=F,q:=[]}) I) (w.alloc (dr #[Y a,E.a,.pointer F,gq] 138)):=by obtain⟨L,rfl,e⟩:=h.rel;exact h.go ⟨_,D,e.jN d a⟩ (Tg _ _ _) (by simp[N.il]) (.h ((Z.refl _ _).alloc _))
end
def kP(E:fS)(t:dj):dB:=match t.k with
 | .fI s=> .iface 186 (.agg #[G t.a,G t.b,Y s])
 | .start n=> .iface 194 (.agg #[G t.a,G t.b,Y n,E.a])
 | .stop n=> .iface 195 (.agg #[G t.a,G t.b,Y n,E.a])
 | .dz s=> .iface 196 (.agg #[G t.a,G t.b,Y s])
 | .eG n q=> .iface 198 (.agg #[G t.a,G t.b,Y n,.bool q])
 | .ic=> .iface 188 (.agg #[G t.a,G t.b])
 | .dZ=> .iface 184 (.agg #[G t.a,G t.b])
abbrev qU(E:fS)(t:dj)(k:Nat)(m:M Unit):Prop:=pL E k (λ_=>#[Bp E,kP E t]) m uV
def gz(E:fS)(t:dj):Prop:=t.l6=C->t.A=E.B
abbrev FA(E:fS)(o:Nat->dj->M Unit):Prop:=∀(m:Nat)(t:dj),gz E t->pL E 165 (λ_=>#[Bp E,G m,kP E t]) (o m t) uV
def qj{X:TypeId}{a:Array Field}(d:prog.underlying X=H (.struct a))(v:dB)(e:TypeId)(w:J):(dH (.iface X v) e X C).run prog w=.ok (.tuple #[v,.bool C]) w:=by simp[dH,sY d]
def L7{X:TypeId}{e:Array Field}{z:dB}(h:prog.underlying X=H (.struct e))(d:(prog.info? X).bind (·.zero)=H z)(a:T≠X)(v:dB)(o:TypeId)(w:J):(dH (.iface T v) o X C).run prog w=.ok (.tuple #[z,.bool I]) w:=by have⟨i,hi,d⟩:=Option.bind_eq_some_iff.1 d;simp[dH,sY h,a,zeroValue,typeInfo,hi,d]
def Au(T:TypeId)(h:T≠186)(v:dB)(a:TypeId)(w:J):(dH (.iface T v) a 186 C).run prog w=.ok (.tuple #[.agg #[G 0,G 0,Y iJ],.bool I]) w:=L7 underlying186 (rfl) h v a w
def yc(T:TypeId)(h:T≠196)(v:dB)(a:TypeId)(w:J):(dH (.iface T v) a 196 C).run prog w=.ok (.tuple #[.agg #[G 0,G 0,Y iJ],.bool I]) w:=L7 underlying196 (rfl) h v a w
def rQ(T:TypeId)(h:T≠194)(v:dB)(a:TypeId)(w:J):(dH (.iface T v) a 194 C).run prog w=.ok (.tuple #[.agg #[G 0,G 0,Y iJ,gq],.bool I]) w:=L7 underlying194 (rfl) h v a w
def yd(T:TypeId)(h:T≠195)(v:dB)(a:TypeId)(w:J):(dH (.iface T v) a 195 C).run prog w=.ok (.tuple #[.agg #[G 0,G 0,Y iJ,gq],.bool I]) w:=L7 underlying195 (rfl) h v a w
def Bd(T:TypeId)(h:T≠198)(v:dB)(a:TypeId)(w:J):(dH (.iface T v) a 198 C).run prog w=.ok (.tuple #[.agg #[G 0,G 0,Y iJ,.bool I],.bool I]) w:=L7 underlying198 (rfl) h v a w
def ako(T:TypeId)(h:T≠188)(v:dB)(a:TypeId)(w:J):(dH (.iface T v) a 188 C).run prog w=.ok (.tuple #[.agg #[G 0,G 0],.bool I]) w:=L7 underlying188 (rfl) h v a w
def Dy(E:fS)(t:dj):io:=match t.k with
 | .start n=>#[G t.a,G t.b,Y n,E.a]
 | .stop n=>#[G t.a,G t.b,Y n,E.a]
 |_=>#[G 0,G 0,Y iJ,gq]
def yJ(E:fS)(t:dj)(w:J):dS 88 #[kP E t] w (vc w (Y t.d)):=by
 obtain⟨a,b,k,bY⟩:=t;have d:=qj underlying186;have e:=Au;cases k
 all_goals
  simp only[kP,dj.d];go_enter func88,ntmps88;go_wp2;go_ret;exact⟨D,(Z.refl _ _).alloc _⟩
def AF(E:fS)(t:dj)(w:J)(o:∃d n e,E.a=.slice d n e):dS 171 #[kP E t] w (vc w (.agg (Dy E t))):=by
 have⟨a,b,k,bY⟩:=t;obtain⟨d,n,e,h⟩:=o;have u:=qj underlying194;have z:=qj underlying195;have A:=rQ;have B:=yd;cases k
 all_goals
  simp only[kP,Dy,h];go_enter func171,ntmps171;go_wp2
  first
  |refine mL (v:=.agg #[G 0,G 0,Y iJ,gq]) ?_ D ⟨D,(Z.refl _ _).alloc _⟩
  |refine mL (v:=.agg #[G a,G b,Y _,.slice d n e]) ?_ D ⟨D,((Z.refl _ _).alloc _).alloc _⟩
  simp[results,results171,asAddr,da,go_sem]
theorem KO(E:fS)(t:dj)(w:J):dS 183 #[kP E t] w (vc w (.bool (kN t.d))):=by
 go_enter func183,ntmps183;go_wp21;refine(yJ E t w).mono ?_;rintro e U⟨rfl,a⟩;go_wp2;go_ret;refine⟨?_,a⟩;show Ending.returned (.bool (t.d.toList==[0]))=_;grind[ByteArray.toList_mk,kN,fG]
def acC(c:UInt8):decide (0<=lA [32,9,10,12] c)=fP ⟨#[c]⟩:=by unfold fP cZ fG;simp;by_cases a:c=32;subst a;rfl;by_cases d:c=9;subst d;rfl;by_cases e:c=10;subst e;rfl;by_cases h:c=12;subst h;rfl;simp[lA,a,d,e,h,yz]
theorem KL(s:O)(w:J):dS 291 #[Y s] w (vc w (.bool (fP s))):=by
 by_cases a:s.size=1
 .obtain⟨c,rfl⟩:∃c,s=⟨#[c]⟩:=by have⟨d⟩:=s;have B:d.size=1:=a;grind[Array.size_eq_one_iff]
  have o:=(λw=>Tryz.strings_Contains_one lN c w);have u:=V (acC c);go_enter func291,ntmps291;go_wp21;refine(o _).mono ?_;rintro e U⟨rfl,rfl⟩;go_wp2;go_ret;exact⟨by rw[<-u.out];rfl,Z.refl _ _⟩
 .have A:fP s=I:=by
   unfold fP cZ;simp;have z:∀c:UInt8,fG s ⟨#[c]⟩=I:=by intro c;rw[Bool.eq_false_iff];intro h;rw[jM]at h;subst h;exact a D
   simp[z]
  rw[A];go_enter func291,ntmps291;go_wp2;go_ret;exact⟨D,Z.refl _ _⟩
def YR(v:dB):Prop:=v=.nilFunc\/∃k a l,v=.func k a l
def Aa:List dB->dB
 |[]=> .func (.func 91) #[] #[]
 | .nilFunc::r=>Aa r
 |v::_=>v
theorem Ta(g z:Nat)(b:List dB)(w:J)(U:w.heap[g]?=H (dr b.toArray 166))(s:∀v∈b,YR v)(r:ln b<=4096):dS 310 #[lO g (ln b) z] w (JK w (Aa b)):=by
 obtain⟨m,q⟩:∃m,m=Aa b:=⟨_,D⟩;rw[<-q];have j:=s;have c:=V U;obtain⟨n,h⟩:∃n,n=ln b:=⟨_,D⟩;rw[<-h]at r|-;have i:=V h;clear U h;go_enter func310,ntmps310;go_wp21
 go_loopw [7] (λv wr=>∃k:Nat,v=G k/\k<=n/\Aa (b.drop k)=m/\wr=w) (λv _=>n-(intOf v).toNat)
 case atStart=>grind
 case round=>
  obtain⟨k,rfl,hk,e,rfl⟩:=hrel;have t:=e;by_cases B:k<n
  .have d:k<ln b:=by rw[<-i.out];exact B
   have hd:=xu d;have p:wr.cell? ⟨g,k,F⟩=H b[k]:=by rw[aF c.out];simp[d]
   have X:=j b[k] (uI d);rw[hd]at e;generalize b[k]=u at e p X;rcases X with rfl|⟨f,a,l,rfl⟩
   .have o:=V e;clear e;go_wp21;rename_i K A;refine A _ _ ?_;simp only[Bool.not_true];go_wp2;go_roundw
    case rel=>exact⟨k+1,by go_num,by omega,o,trivial⟩
    case measure=>simp[intOf];omega
   .have o:=V e;clear e;go_wp21;rename_i K A;refine A _ _ ?_;simp only[Bool.not_false];go_wp2;go_ret;exact⟨by rw[<-o.out];rfl,rfl⟩
  .rw[(List.drop_eq_nil_of_le (by grind[Hid.out]))]at e;have o:=V e;clear e;go_wp2;go_ret;exact⟨by rw[<-o.out];rfl,rfl⟩
def gE:List Ru->Ru
 |[]=> .eW
 | .nil::r=>gE r
 |x::_=>x
def uC:Option (List (List O×Ru))->O->Ru
 |none,_=> .nil
 |some R,k=>(lV R k).getD .nil
def eI(a:kR)(t:dj):Ru:=match t.k with
 | .fI s=>if fP s then gE [a.blank,a.fI,a.l]else gE [a.fI,a.l]
 | .dz _=>gE [a.dz,a.l]
 | .eG _ _=>gE [a.eG,a.l]
 | .start n=>gE [uC a.start n,a.B,a.l]
 | .stop n=>gE [uC a.stop n,a.A,a.l]
 | .ic=>gE [a.dZ,a.l]
 | .dZ=>gE [a.dZ,a.l]
theorem mM.a{r:Ru}(h:mM bm bB bD r v w):(r=.nil/\v=.nilFunc)\/(r≠ .nil/\∃k a l,v=.func k a l):=by
 cases r with
 |nil=>exact .inl ⟨D,h⟩
 |eW=>exact .inr ⟨by simp,_,_,_,h⟩
 |dX f=>exact .inr ⟨by simp,_,_,_,h⟩
 |qX m=>have⟨b1,b2,e,_⟩:=h;grind
 |dz pf own=>have⟨b1,e,_⟩:=h;grind
 |ahead f=>have⟨b1,b2,e,_⟩:=h;grind
 |ends f=>have⟨b1,e,_⟩:=h;grind
 |Qn r=>have⟨b1,b2,u,e,_⟩:=h;grind
 |nN S m=>have⟨b1,b2,b3,u,e,_⟩:=h;grind
 |ox S n m=>have⟨b1,b2,b3,b4,u,e,_⟩:=h;grind
 |item S=>have⟨b1,b2,b3,u1,u2,e,_⟩:=h;grind
theorem mM.fv{r:Ru}(h:mM bm bB bD r v w):YR v:=by rcases h.a with⟨_,e⟩|⟨_,e⟩;exact .inl e;exact .inr e
inductive vN(bm bB bD:Nat)(w:J):List Ru->List dB->Prop
 |nil:vN bm bB bD w [] []
 |cons {r:Ru} {v:dB} {rs:List Ru} {vs:List dB} (h:mM bm bB bD r v w) (t:vN bm bB bD w rs vs):vN bm bB bD w (r::rs) (v::vs)
theorem vN.first(h:vN bm bB bD w rs vs):mM bm bB bD (gE rs) (Aa vs) w:=by
 induction h with
 |nil=>rfl
 |@cons r v rs vs h t ih=>
  rcases h.a with⟨rfl,rfl⟩|⟨d,k,a,l,rfl⟩
  all_goals grind[gE,Aa]
theorem vN.a(h:vN bm bB bD w rs vs):∀v∈vs,YR v:=by
 induction h with
 |nil=>simp
 |cons h t ih=>grind[mM.fv]
def aaN(h:vN bm bB bD w rs vs)(d:ln vs<=4096)(a:zq W.heap=g):dS 310 #[lO g (ln vs) (ln vs)] (W.alloc (dr vs.toArray 166)) λe U=>e=ff (Aa vs)/\U=W.alloc (dr vs.toArray 166):=by
 subst a;exact Ta _ _ vs _ (aY _ _) h.a d
def ajH(h:v.oneCell'=C):v.cells=#[v]:=by cases v<;>first|rfl|(simp[Value.oneCell']at h)
def abI{a d e o u z A B K U:dB}(h:∀v∈[a,d,e,o,u,z,A,B,K,U],v.oneCell'=C):a.cells=#[a]/\d.cells=#[d]/\e.cells=#[e]/\o.cells=#[o]/\u.cells=#[u]/\z.cells=#[z]/\A.cells=#[A]/\B.cells=#[B]/\K.cells=#[K]/\U.cells=#[U]:=by refine⟨?_,?_,?_,?_,?_,?_,?_,?_,?_,?_⟩<;>exact ajH (h _ (by simp))
def Dz(w:J)(o a:Obj):((w.alloc o).alloc a).heap[zq w.heap]?=H o:=(dc _ _ _ (by simp)).trans (aY w _)
section
variable {α β:Type}{E:fS}{f0:Nat->Nat}{n0:Nat}{w0:J}{f:Nat->Nat}{X:N}{w:J}
theorem pL.a{k:Nat}{n:(Nat->Nat)->io}{m:M α}{o:(Nat->Nat)->α->dB}(q:pL E k n m o)(a1:At E f0 n0 w0 f X w){R:pj β}{K:α->M β}(u:R=(m>>=K) X)(z:R≠ .stuck){A:io}(r:n f=A){Q:Ending->J->Prop}
  (B:∀c p j U,R=.stop c p->iO U j c p->Fr E.bs w0 U->Q (qi j) U)
  (a0:∀a g d U,At E f0 n0 w0 g d U->Vn (ln X.d) f g->Fr E.bs w U->R=K a d->m X=.ok a d->Q (ff (o g a)) U):dS k A w Q:=by
 rw[M.cW]at u;have h:=q f X w a1.rel (λe=>z (by grind));rw[r]at h;refine h.mono ?_;intro e U i;cases hr:m X with
 |ok a d=>
  rw[hr]at i u;obtain⟨g,h1,l,rfl,s,t⟩:=i;grind[At.go]
 |stop c p=>
  rw[hr]at i u;obtain⟨j,rfl,l,b⟩:=i;exact B c p j U u l (a1.d.trans b)
 |stuck=>grind
theorem jk.a{k:Nat}{l:(Nat->Nat)->io}{m:M α}{o:(Nat->Nat)->α->dB}(n:jk E k l m o)(a1:At E f0 n0 w0 f X w){R:pj β}{K:α->M β}(u:R=(m>>=K) X)(z:R≠ .stuck){A:io}(q:l f=A){Q:Ending->J->Prop}
  (B:∀c p j U,R=.stop c p->iO U j c p->Fr E.bs w0 U->Q (qi j) U)
  (a0:∀a d U,At E f0 n0 w0 f d U->Fr E.bs w U->R=K a d->m X=.ok a d->Q (ff (o f a)) U):dS k A w Q:=by
 rw[M.cW]at u;have h:=n f X w a1.rel (λe=>z (by grind));rw[q]at h;refine h.mono ?_;intro e U g;cases hr:m X with
 |ok a d=>
  rw[hr]at g u;obtain⟨rfl,r,s,t⟩:=g;grind[At.to]
 |stop c p=>
  rw[hr]at g u;obtain⟨j,rfl,i,b⟩:=g;exact B c p j U u i (a1.d.trans b)
 |stuck=>grind
def mE{k:Nat}{i:(Nat->Nat)->io}{m:M α}{e:(Nat->Nat)->α->dB}(l:jk E k i m e)(a0:Hid (At E f0 n0 w0 f X w)){R:pj β}{K:α->M β}(g:Hid (R=(m>>=K) X))(b:Hid (R≠ .stuck)){A:io}(n:i f=A){Q:Ending->J->Prop}
  (o:∀c p j U,Hid (R=.stop c p/\iO U j c p/\Fr E.bs w0 U)->Q (qi j) U)
  (h:∀a d U,Hid (At E f0 n0 w0 f d U)->Hid (Fr E.bs w U)->Hid (R=K a d)->Hid (m X=.ok a d)->Q (ff (e f a)) U):dS k A w Q:=jk.a l a0 g b n (λc p j U u z B=>o c p j U ⟨u,z,B⟩) h
end
attribute [local go_sem] db
theorem yU{f:fW->fW}(d:∀x y,f x=f y->x=y):∀{B a:iU},B.map f=a.map f->B=a
 |[],[],_=>rfl
 |[],_::_,h=>by grind
 |_::_,[],h=>by grind
 |x::B,y::a,h=>by simp at h;rw[d x y h.1,yU d h.2]
theorem Xl{f:fW->fW}(d:∀x y,f x=f y->x=y){a b:iU}(h:a.map f <+:b.map f):a <+:b:=by
 have⟨t,ht⟩:=h;have o:ln a<=ln b:=by have:=mf ln ht;simp at this;omega
 have e:a.map f=(b.take (ln a)).map f:=by rw[ZP,<-ht];simp
 grind[yU,fA]
def QI(o:Oper):Bool:=match o.op with
 | .defer _=>I
 |_=>C
section
variable {n:Nat}{P:Program}{ops:Array Oper}{Q:Exit->Act->J->Prop}{md:Region.Mode}
theorem NB(l:Nat)(U:∀(i:Nat)o,ops[i]?=H o->QI o=C):∀e d a w,wpAnyIn Fence.wide n P md ops Q e d a w->wpAnyIn (Fence.wide.inRound l) n P md ops Q e d a w:=by
 intro e
 induction e with
 |zero=>exact λd a w h=>h
 |succ e ih=>
  intro d a w h;refine⟨h.1,λi K=>?_⟩;have u:=h.2 i K;unfold wpOpIn at u|-;cases ho:ops[i]? with
  |none=>rw[ho]at u;exact ih _ _ _ u
  |some o=>
   rw[ho]at u;simp only at u|-;split
   .rename_i z;rw[dw z]at u;have A:=Oper.wpIn_mono (λa w h=>ih _ a w h) u;refine⟨A.1,?_⟩;have B:=A.2;have e1:o.semAt (Fence.wide.inRound l).round a.eval=execOp a.eval o:=amR l a.eval o ((by grind[QI]));have e2:o.semAt Fence.wide.round a.eval=execOp a.eval o:=rfl;rw[e1]
    rwa [e2]at B
   rename_i z;rw[di z]at u;exact⟨u.1,ih _ _ _ u.2⟩
theorem AA{id:Nat}{a:Act}{w:J}{l:List Oper}(L:Nat)(u:P.follows .mixedOrders=C)(o:Region.lexB .any l.toArray=C)(z:l.all QI=C)
  (h:wpQuietIn Fence.wide n P l.toArray (λU=>∃n,U=w.drewN n) (λd=>∀U,(∃n,U=w.drewN n)->Q .normal d U) l a):(Code.region id l.toArray C).wpIn (Fence.wide.inRound L) n P Q a w:=by
 simp[Region.lexB]at o;refine wpIn_region_any u (NB L ?_ _ _ _ _ (wpAnyIn_of_quiet (Q:=λd=>∀U,(∃n,U=w.drewN n)->Q .normal d U) D (λ_ U e h=>h U e) _ _ _ _ ⟨1,D⟩ ?_));grind
 .have:=wpAnyQIn_lex (md:=.any) o.1 l.toArray.toList 0 (eY l.toArray.size I) a (by simp) (by grind) (by simpa using h)
  simpa using this
end
attribute [local go_sem] db
def aie(T e:List Nat)(b:iU->J->Prop)(d:Code->iU->J->Prop)(a:iU)(W:J):Exit->Act->J->Prop
 | .normal,_,K=>Z T W K/\b a K
 | .ret,_,K=>Z e W K/\d .ret a K
 | .exit id,_,K=>Z e W K/\d (.exit id) a K
 | .goto t,_,K=>Z e W K/\d (.goto t) a K
 | .panic _,_,_=>False
 | .outgrown,_,_=>False
theorem Fu{n:Nat}(hn:3<=n){C b j:Nat}{tB:TypeId}{V:io}{v:dB}{f:fW->fW}(hf:∀x y,f x=f y->x=y){r:iU}{w1:J}(R:vR C b j tB V v (r.map f) w1)
  {g:Operand} {p:Tmp} {i a4:Code} {Q:Exit->Act->J->Prop} {a:Act} (hg:a.eval g=uH w1.heap.size)
  (T Y:List Nat) (hT:∀k∈T,k<zq w1.heap/\k≠b/\v.ownBlock≠H k) (aj:∀k∈Y,k<zq w1.heap)
  (I:iU->J->Prop) (N:Code->iU->J->Prop)
  (hI:OwnFrom (zq w1.heap+2) I) (ac:∀c,OwnFrom (zq w1.heap+2) (N c)) (h0:I [] (kH b j (ln r) w1)) (a0:fW->Act)
  (a1:∀(l:Nat)(x:fW)(W:J)(m:Act->J->Prop),m (a0 x) W->
   i.wpIn (Fence.wide.inRound l) (n-1-1) prog (Exit.then m (λ_ _ _=>False)) {tmps:=a.tmps.setIfInBounds p (jl x),defers:=[]} W)
  (a6:∀(l:Nat)(pre:iU)(y:fW)(W:J),y∈r->I pre W->a4.wpIn (Fence.wide.inRound l) (n-1-1) prog (aie T Y I N (pre++[y]) W) (a0 (f y)) W)
  (ag:∀(E:Nat)(W:J),zq w1.heap+2<=E->I r.reverse W->W.heap[E]?=H (.deferred (H []))->Q .normal {a with defers:={target:=.collected E,args:=#[]}::a.defers} W)
  (a8:∀(E:Nat)(c:Code)(pre:iU)(W:J),zq w1.heap+2<=E->pre <+:r.reverse->N c pre W->W.heap[E]?=H (.deferred (H []))->c.wpIn Fence.wide n prog Q {a with defers:={target:=.collected E,args:=#[]}::a.defers} W):(Code.rangeFunc g #[p] i a4).wpIn Fence.wide n prog Q a (kH b j (ln r) w1):=by
 have X:zq (kH b j (ln r) w1).heap=zq w1.heap+2:=by simp
 have af:=fp R.dP;have ah:Z [] w1 (kH b j (ln r) w1):=((Z.refl _ _).alloc _).alloc _;have ae:vR C b j tB V v (r.map f) (kH b j (ln r) w1):=R.h (iN.q (K:=b::v.ownBlock.toList) ah (λk d=>⟨by
  rcases bZ.1 d with rfl|d;exact af;exact(R.row.lt k (by grind)).2,by simp⟩)) (by simp) (λk d=>by simp[d])
 have⟨b0,b1⟩:=(⟨(dc _ _ _ (by simp)).trans (aY w1 _),by
   grind[aY]⟩:(kH b j (ln r) w1).heap[zq w1.heap]?=H (dr #[gU b j] 276)/\(kH b j (ln r) w1).heap[zq w1.heap+1]?=H (dr #[G (ln r)] 3))
 obtain⟨m,P⟩:∃m,m=b::zq w1.heap::v.ownBlock.toList:=⟨_,D⟩;have aa:∀k∈m,k<zq w1.heap+2:=by intro k d;rw[P]at d;rcases bZ.1 d with rfl|d;omega;rcases bZ.1 d with rfl|d;omega;have:=(R.row.lt k (by grind)).2;omega
 have ad:∀k∈m,k∉T:=by intro k d a7;have⟨t1,t2,t3⟩:=hT k a7;rw[P]at d;rcases bZ.1 d with rfl|d;omega;grind
 have ai:=U9 (n-1) (by omega) C b j tB V v (r.map f) (ln r) w1.heap.size m _ ae (by simp) (by rw[P];simp) (by rw[P];simp) (by grind) (by simp) b1 b0;refine wpIn_rangeFunc_ownG D (by omega) (gf:=351) hg trivial (Go.Proofs.enters_of func351 (by rfl) D) ai iN.trans (λW l o o' hl U F h3=>iN.put (w:=kH b j (ln r) w1) (by grind) W l o o' hl U F h3) (Below.refl _ _) (λ_=>D)
  (λpre W=> zq w1.heap+2<=zq W.heap/\∃h,pre.map (·.1)=h.map f/\I h W) (λc pre W=>∃h,pre.map (·.1)=h.map f/\N c h W) ?_ ?_ ?_ (λx=>a0 x.1) ?_ ?_ ?_ ?_
 rintro s A q a9⟨z,h,U,F⟩ a3 M;rw[X]at M;exact⟨gR z a3.size,h,U,hI h A q a9 F a3 M⟩;rintro c s A q a9⟨h,U,F⟩ a3 M;rw[X]at M;exact⟨h,U,ac c h A q a9 F a3 M⟩;grind;intro l x W K' a2;have:=a1 l x.1 W K' a2;have e:(#[p].zip #[jl x.1]).foldl (λt (p,v)=>t.setIfInBounds p v) a.tmps=a.tmps.setIfInBounds p (jl x.1):=by simp
 rw[e];exact this
 .rintro l pre⟨x,hx⟩ W⟨z,h,U,F⟩ _;obtain⟨y,hy,rfl⟩:=dW.1 hx;refine Ch (a6 l h y W hy F) ?_;have ab:∀{K:J},Z T W K->KeepsFrom (kH b j (ln r) w1).heap.size W K:=by intro K d;refine⟨d.size,λk o a5 L _=>?_⟩;rw[X]at a5;rw[d.block k (dD.1 L).1 (λa7=>by grind)];exact L
  have u:∀{K:J},Z Y W K->KeepsFrom (kH b j (ln r) w1).heap.size W K:=by intro K d;refine⟨d.size,λk o a5 L _=>?_⟩;rw[X]at a5;rw[d.block k (dD.1 L).1 (λa7=>by grind)];exact L
  intro e a' K w;cases e with
  |normal=>exact⟨ab w.1,iN.q w.1 (λk d=>⟨kQ (aa k d) z,ad k d⟩),gR z w.1.size,_,(by rw[sy,U];simp),w.2⟩
  |ret=>exact⟨u w.1,_,(by rw[sy,U];simp),w.2⟩
  |exit id=>exact⟨u w.1,_,(by rw[sy,U];simp),w.2⟩
  |goto t=>exact⟨u w.1,_,(by rw[sy,U];simp),w.2⟩
  |panic _=>exact w
  |outgrown=>exact w
 rintro E B W O S⟨_,h,U,F⟩ a2;rw[X]at O;rw[U,zA (by simp),<-Cf]at S;grind[yU];rintro E c pre W O S⟨h,U,F⟩ a2;rw[X]at O;rw[U,zA (by simp),<-Cf]at S;exact a8 E c h W O (Xl hf S) F a2
def ZK:=λ{n:Nat} (B:3<=n) {base b j K a0 v} {f:fW->fW} u {X U} o {g p d e Q a} z T h=>@Fu n B base b j K a0 v f u X U o g p d e Q a z T T h (λk A=>(h k A).1)
attribute [local go_sem] db
theorem LL{q:O->Bool}:∀{B:iU},(∀y∈B,p (X.l7 y)=I/\q (X.l7 y)=I)->X.px p q B=I
 |[],_=>rfl
 |x::B,h=>by unfold N.px;have⟨h1,h2⟩:=h x (by simp);rw[h1,h2];exact LL λy a=>h y (by grind)
theorem LM{q:O->Bool}{r:Bool}(a:(p (X.l7 y)=C/\r=C)\/(p (X.l7 y)=I/\q (X.l7 y)=C/\r=I)):∀{B:iU},(∀y∈B,p (X.l7 y)=I/\q (X.l7 y)=I)->X.px p q (B++[y]++rest)=r
 |[],_=>by grind[N.px]
 |x::B,h=>by show X.px p q (x::(B++[y]++rest))=r;unfold N.px;have⟨h1,h2⟩:=h x (by simp);rw[h1,h2];exact LM a λy d=>h y (by grind)
theorem Z.take(h:Z [] w W){bF:Nat}(a:zq w.heap<=bF)(o:Obj):Z [] w (W.putObj bF o):=h.grown (AR W bF o) (λk e=>by grind)
theorem jd{A B:J}{a:fW}{o:Obj}(h:A.heap[k]?=H o)(d:A.grownBy B a)(u:∀r,a=H r->n<=r/\∃o:Obj,A.heap[r]?=H o/\o.isCells=I)(e:k<n):B.heap[k]?=H o:=by grind[World.grownBy.block]
theorem km{A B:J}{a:fW}(h:Z [] w A)(d:A.grownBy B a)(z:∀r,a=H r->n<=r/\∃o:Obj,A.heap[r]?=H o/\o.isCells=I)(u:zq w.heap<=n):Z [] w B:=h.grown d (λk e=> .inr (by grind))
theorem vE(h:RF E f X w)(p q:O->Bool)(vs vb:dB)(z:Ask E.bm vs p w)(hb:Ask E.bm vb q w):dS 232 #[Bp E,vs,vb] w (vc w (.bool (X.gH p q))):=by
 obtain⟨L,rfl,u⟩:=h;obtain⟨k1,d,rfl,a8,H1⟩:=z.call;obtain⟨k2,b,rfl,a9,H2⟩:=hb.call;refine(AU (n:=3)).1 ?_;refine AV func232 D trivial ?_ D;simp only[ntmps232,wL,uJ,uY,Nat.reduceAdd,Nat.reduceSub,wM,wN,wO,wP,tA,tf];obtain⟨w1,j⟩:∃w1,w1=((w.alloc (dr #[.func (.func k1) #[] d] 87)).alloc (dr #[.func (.func k2) #[] b] 87)).alloc (dr #[.bool I] 4):=⟨_,D⟩;have a3:Z [] w w1:=by rw[j];exact(((Z.refl _ _).alloc _).alloc _).alloc _
 have⟨b0,b1,b2⟩:=oH w (dr #[.func (.func k1) #[] d] 87) (dr #[.func (.func k2) #[] b] 87) (dr #[.bool I] 4);rw[<-j]at b0 b1 b2;have a:zq w1.heap=zq w.heap+1+1+1:=by rw[j];simp
 have a5:=u.h a3;have⟨Co,HL,hC⟩:=a5.yT;have aa:=u.lt;have HU:=Ga E.bs E.A 188 _ Co _ _ w1 HL;have HO:=(λg (G:L.P.ownBlock=H g)=>Do u.R G);have HN:=V (λ(W:J) (hk:Z [] w W) (i:Nat) (e:mh) (hi:X.h i=H e)=>(u.h hk).uR hi);have HS:=(λ(y:fW) (m:y∈X.A)=>u.nJ m);have HI:=V u.inj;clear u a5 hC z hb
 gi_wp2_with (refine⟨trivial,?_⟩;gi_at_call 288;rw[<-j];refine(callsIn_wide.2 HU).mono ?_;rintro e U⟨rfl,rfl⟩)
 rw[<-a,<-j];have Q:=V a;clear a j;refine ZK (by omega) (f:=fx L.K) (λx y e=>ri HI.out e) HL D [zq w.heap+1+1] ?_
  (λpre W=>Z [] w W/\W.heap[zq w.heap]?=H (dr #[.func (.func k1) #[] d] 87)/\W.heap[zq w.heap+1]?=H (dr #[.func (.func k2) #[] b] 87)/\W.heap[zq w.heap+1+1]?=H (dr #[.bool I] 4)/\∀y∈pre,p (X.l7 y)=I/\q (X.l7 y)=I)
  (λc pre W=>c=.ret/\Z [] w W/\∃o y r,pre=o++[y]/\(∀y∈o,p (X.l7 y)=I/\q (X.l7 y)=I)/\((p (X.l7 y)=C/\r=C)\/(p (X.l7 y)=I/\q (X.l7 y)=C/\r=I))/\W.heap[zq w.heap+1+1]?=H (dr #[.bool r] 4))
  ?_ ?_ ?_ (λx=>{tmps:=#[Bp E,.func (.func k1) #[] d,.func (.func k2) #[] b,qu,dq w.heap.size,dq (zq w.heap+1),dq (zq w.heap+1+1),jl x,Bp E,dq E.A,gU E.A 188,uH w1.heap.size,jl x,qu,qu,qu,qu,qu,qu,qu,qu,qu,qu,qu,qu,qu,qu],defers:=[]}) ?assign ?body ?done ?stop
 grind;rintro s A B a7⟨h1,S,h3,t,v⟩ G u;have a:=Q.out;exact⟨km h1 G u (by omega),jd S G u (by omega),jd h3 G u (by omega),jd t G u (by omega),v⟩;rintro c s A B a7⟨h0,h1,o,y,r,S,h3,t,v⟩ G u;have a:=Q.out;exact⟨h0,km h1 G u (by omega),o,y,r,S,h3,t,jd v G u (by omega)⟩;have hk:Z [] w1 (kH E.A 188 (ln X.A) w1):=((Z.refl _ _).alloc _).alloc _;exact⟨a3.trans hk,hk.at b0 (by simp),hk.at b1 (by simp),hk.at b2 (by simp),by simp⟩
 case assign=>
  intro l x W k M;gi_wp2;exact M
 case body=>
  rintro l pre y W m⟨n,B2,B3,P,B5⟩;obtain⟨i,e0,rfl,hi⟩:=HS y m;have c0:=HN.out W n i e0 hi;have c1:=aF B2 0;have c2:=aF B3 0;have c3:=aF P 0;have f3:=cY P 0;dsimp at c1 c2 c3;have HA:=(λK (hk:Z [] w K)=>H1 K (.h hk) (X.nm i));have HB:=(λK (hk:Z [] w K)=>H2 K (.h hk) (X.nm i));have HW:=n.drew;have HT:Hid (∀(r:Bool),Z [zq w.heap+1+1] W ((W.drew).setCell ⟨zq w.heap+1+1,0,F⟩ (.bool r))/\Z [] w ((W.drew).setCell ⟨zq w.heap+1+1,0,F⟩ (.bool r))/\((W.drew).setCell ⟨zq w.heap+1+1,0,F⟩ (.bool r)).heap[zq w.heap+1+1]?=H (dr #[.bool r] 4)):=λr=>⟨((Z.refl _ W).drew).setCell (.inl (by simp)) _,n.drew.setCell (.inr (by simp;omega)) _,bH (show W.drew.heap[zq w.heap+1+1]?=_ from P) 0 _⟩;have a6:Hid (∀(r:Bool),Z [zq w.heap+1+1] W ((W.drew.drew).setCell ⟨zq w.heap+1+1,0,F⟩ (.bool r))/\Z [] w ((W.drew.drew).setCell ⟨zq w.heap+1+1,0,F⟩ (.bool r))/\((W.drew.drew).setCell ⟨zq w.heap+1+1,0,F⟩ (.bool r)).heap[zq w.heap+1+1]?=H (dr #[.bool r] 4)):=λr=>⟨((Z.refl _ W).drew.drew).setCell (.inl (by simp)) _,n.drew.drew.setCell (.inr (by simp;omega)) _,bH (show W.drew.drew.heap[zq w.heap+1+1]?=_ from P) 0 _⟩;have HN:Hid (Z [zq w.heap+1+1] W W.drew.drew):=(Z.refl _ W).drew.drew
  try dsimp only
  rw[show jl (fx L.K (H i))=dq (L.K i)from D];have ab:prog.follows .mixedOrders=C:=rfl;gi_wp2;refine Ch (Q:=λe R U=>e=Exit.normal/\R=({tmps:=#[Bp E,.func (.func k1) #[] d,.func (.func k2) #[] b,qu,dq w.heap.size,dq (zq w.heap+1),dq (zq w.heap+1+1),dq (L.K i),Bp E,dq E.A,gU E.A 188,uH w1.heap.size,dq (L.K i),.bool (p (X.nm i)),.func (.func k1) #[] d,dq (L.K i),dq (L.K i),dq (L.K i),Y (X.nm i),.bool (p (X.nm i)),qu,qu,qu,qu,qu,qu,qu],defers:=[]}:Act)/\U=W.drew) ?_ ?_
  .gi_region_with_o (refine⟨trivial,?_⟩;refine(uK l (callsIn_wide.2 (HA _ HW))).mono ?_;rintro e U⟨rfl,rfl⟩)
   all_goals simp
  rintro e R U⟨rfl,rfl,rfl⟩;cases hp:p (X.nm i)with
  |true=>
   gi_wp2;have⟨t1,t2,t3⟩:=HT.out C;exact⟨t1,D,t2,pre,H i,C,D,B5,.inl ⟨hp,D⟩,t3⟩
  |false=>
   have HP:=hp;clear hp;gi_wp2;refine Ch (Q:=λe R U=>e=Exit.normal/\R=({tmps:=#[Bp E,.func (.func k1) #[] d,.func (.func k2) #[] b,qu,dq w.heap.size,dq (zq w.heap+1),dq (zq w.heap+1+1),dq (L.K i),Bp E,dq E.A,gU E.A 188,uH w1.heap.size,dq (L.K i),.bool I,.func (.func k1) #[] d,dq (L.K i),dq (L.K i),dq (L.K i),Y (X.nm i),.bool I,.bool (q (X.nm i)),.func (.func k2) #[] b,dq (L.K i),dq (L.K i),dq (L.K i),Y (X.nm i),.bool (q (X.nm i))],defers:=[]}:Act)/\U=W.drew.drew) ?_ ?_
   .gi_region_with_o (refine⟨trivial,?_⟩;refine(uK l (callsIn_wide.2 (HB _ HW.drew))).mono ?_;rintro e U⟨rfl,rfl⟩)
    all_goals simp
   rintro e R U⟨rfl,rfl,rfl⟩;cases hq:q (X.nm i)with
   |true=>
    gi_wp2;have⟨t1,t2,t3⟩:=a6.out I;exact⟨t1,D,t2,pre,H i,I,D,B5,.inr ⟨HP,hq,D⟩,t3⟩
   |false=>
    have HQ:=hq;clear hq;gi_wp2;refine⟨HN.out,n.drew.drew,B2,B3,P,λy m=>?_⟩;rcases dA.1 m with m|m;exact B5 y m;rw[cC.1 m];exact⟨HP,HQ⟩
 case done=>
  rintro T W HD⟨n,S,h3,t,v⟩ M;have a:=Q.out;have c3:=aF t 0;have f3:=cY t 0;dsimp at c3;have a1:X.gH p q=I:=LL (λy m=>v y m);clear S h3 a v;gi_wp2;have a2:=(ZV W ⟨zq w.heap+1+1,0,F⟩ (.bool I)).same T _ M D;refine⟨by simp,.inl ⟨_,_,D,ru a2,?_⟩⟩;have a0:=cell_kept (World.cell?_setCell_same' W ⟨zq w.heap+1+1,0,F⟩ (.bool I) (by rw[c3];rfl)) (AR _ T (.deferred F)) (λr e=>by cases e;exact⟨_,a2,D⟩);refine⟨.bool I,?_,⟨by rw[a1],?_⟩⟩
  .simp[results,results232,go_sem,a0]
  have a:=Q.out;have hD:=HD;exact(n.setCell (.inr (by simp;omega)) _).take (by omega) _
 case stop=>
  rintro T c pre W HD a4⟨rfl,n,o,y,r,rfl,h3,t,v⟩ M;have⟨rest,hrest⟩:=a4;have a1:X.gH p q=r:=by unfold N.gH;rw[<-hrest];exact LM t h3
  have c3:=aF v 0;dsimp at c3;clear h3 t v hrest;gi_wp2;refine⟨by simp,.inl ⟨_,_,D,ru M,?_⟩⟩;have a0:=cell_kept c3 (AR _ T (.deferred F)) (λr e=>by cases e;exact⟨_,M,D⟩);refine⟨.bool r,?_,⟨by rw[a1],?_⟩⟩
  .simp[results,results232,go_sem,a0]
  have a:=Q.out;have hD:=HD;exact n.take (by omega) _
def jI(E:fS):Prop:=jk E 261 (λ_=>#[Bp E]) gJ pV
def yV(f:Nat->Nat)(n k:Nat):nV (IX f n k) n=dq k:=by simp[IX]
def Cb(E:fS)(w:J):dS 215 #[] w λe U=>∃k d,e=ff (.func (.func k) #[] d)/\Ask E.bm (.func (.func k) #[] d) qS U/\Z [] w U:=by have K:=T7 E.bm [aH,cO,cH,cX,dK] w (by decide);go_enter func215,ntmps215;go_wp21;refine K.mono ?_;rintro e B⟨z,u,A,rfl,a,o⟩;have⟨k,d,e0,_,_⟩:=a.call;cases e0;have h:=V a;clear a;go_wp2;go_ret;exact⟨_,_,D,h,o⟩
def TB(E:fS)(e:jk E 99 (λ_=>#[Bp E]) ja pV)(j:Nat):jk E 262 (λf=>#[Bp E,nV f j]) (j5 j) uV:=by refine mI λf X w R a HS o=>?_;go_enter func262,ntmps262;go_wp21;refine mC (e) o a HS D mT ?_;rintro(h) X w o d a;go_wp21;refine mC (EW E h j) o a HS D mT ?_;rintro(_) X w o d a;go_wp21;refine mC (QU E (H j)) o a HS D mT ?_;rintro(_) X w o d a;go_wp2;go_end0;exact iw a o D
abbrev xM(E:fS)(p:O->Bool)(w:J)(e:Ending)(U:J):Prop:=∃k a,e=ff (.func (.func k) #[] a)/\Ask E.bm (.func (.func k) #[] a) p U/\Z [] w U
theorem RF.bounds(h:RF E f X w):∃k a,w.cell? ⟨E.A,186,F⟩=H (.func (.func k) #[] a)/\Ask E.bm (.func (.func k) #[] a) eP w:=by have⟨L,_,hr⟩:=h;have⟨f1,a1,l1,c,ha⟩:=hr.bounds;have⟨k,a,e,_,_⟩:=ha.call;grind
theorem RF.Jz(h:RF E f X w):∃k a,w.cell? ⟨E.A,184,F⟩=H (.func (.func k) #[] a)/\Ask E.bm (.func (.func k) #[] a) kg w:=by have⟨L,_,hr⟩:=h;have⟨f1,a1,l1,c,ha⟩:=hr.Jz;have⟨k,a,e,_,_⟩:=ha.call;grind
theorem RF.lt(h:RF E f X w):E.A<zq w.heap:=by have⟨L,_,hr⟩:=h;exact hr.lt
theorem lG(E:fS)(a:List O)(w:J)(d:ln a<=4096):dS 219 #[lO w.heap.size (ln a) (ln a)] (w.alloc (dr (a.map Value.string).toArray 9)) (xM E (cZ a) w):=by
 refine(T7 E.bm a w d).mono ?_;grind[Ask.call]
theorem Xe(E:fS)(a d:dB)(p q:O->Bool)(w:J)(e:Ask E.bm a p w)(h:Ask E.bm d q w):dS 239 #[a,d] w (xM E (λs=>p s||q s) w):=by
 refine(ai3 E.bm a d p q w e h).mono ?_;grind[Ask.call]
def zp(h:RF E f X w):dS 280 #[Bp E] w (xM E DR w):=by
 have⟨kb,lbb,cb,HB⟩:=h.bounds;have U:=h.lt;have c:=cb;have b:=lG E [eu] w.drew (by decide);go_enter func280,ntmps280;go_wp21
 go_region_with (first
  |(go_at_call 219;refine b.mono ?_;rintro e w1⟨k1,a0,rfl,o,a⟩;have c1:w1.cell? ⟨E.A,186,F⟩=H (.func (.func kb) #[] lbb):=(a.cell (p:=⟨E.A,186,F⟩) U (by simp)).trans c;have A:=V o;have d:=V a;clear o a)
  |(go_at_call 239;refine(Xe E _ _ _ _ _ (HB.k0 (((Z.refl _ w).drew).trans d)) A).mono ?_;rintro e w2⟨k2,a1,rfl,u,z⟩;have B:=V u;have K:=V ((((Z.refl _ w).drew).trans d).trans z);clear u z))
 all_goals go_wp2
 all_goals go_ret
 all_goals exact⟨_,_,D,B,K⟩
def wG(E:fS)(w:J):dS 223 #[] w (xM E zf w):=by have u:=lG E [aC,aH] w (by decide);go_enter func223,ntmps223;go_wp21;refine u.mono ?_;rintro e o⟨k,h,rfl,a,d⟩;go_wp2;go_ret;exact⟨_,_,D,a,d⟩
def O1(E:fS)(w:J):dS 122 #[] w (xM E (cZ [aH]) w):=by have u:=lG E [aH] w (by decide);go_enter func122,ntmps122;go_wp21;refine u.mono ?_;rintro e o⟨k,h,rfl,a,d⟩;go_wp2;go_ret;exact⟨_,_,D,a,d⟩
def L8(E:fS)(w:J):dS 134 #[] w (xM E (cZ [cO,cH,cX]) w):=by have u:=lG E [cO,cH,cX] w (by decide);go_enter func134,ntmps134;go_wp21;refine u.mono ?_;rintro e o⟨k,h,rfl,a,d⟩;go_wp2;go_ret;exact⟨_,_,D,a,d⟩
def Zh(E:fS)(w:J):dS 233 #[] w (xM E (cZ [dK]) w):=by have u:=lG E [dK] w (by decide);go_enter func233,ntmps233;go_wp21;refine u.mono ?_;rintro e o⟨k,h,rfl,a,d⟩;go_wp2;go_ret;exact⟨_,_,D,a,d⟩
def aao(E:fS)(w:J):dS 234 #[] w (xM E (cZ [eQ,eS]) w):=by have u:=lG E [eQ,eS] w (by decide);go_enter func234,ntmps234;go_wp21;refine u.mono ?_;rintro e o⟨k,h,rfl,a,d⟩;go_wp2;go_ret;exact⟨_,_,D,a,d⟩
def Hs(E:fS)(w:J):dS 273 #[] w (xM E (cZ [pg,ph]) w):=by have u:=lG E [pg,ph] w (by decide);go_enter func273,ntmps273;go_wp21;refine u.mono ?_;rintro e o⟨k,h,rfl,a,d⟩;go_wp2;go_ret;exact⟨_,_,D,a,d⟩
def tQ(E:fS)(w:J):dS 236 #[] w (xM E (cZ [dJ]) w):=by have u:=lG E [dJ] w (by decide);go_enter func236,ntmps236;go_wp21;refine u.mono ?_;rintro e o⟨k,h,rfl,a,d⟩;go_wp2;go_ret;exact⟨_,_,D,a,d⟩
def qB(E:fS)(w:J):dS 237 #[] w (xM E (cZ [cD]) w):=by go_enter func237,ntmps237;go_wp21;refine(lG E [cD] w (by decide)).mono ?_;rintro e o⟨k,h,rfl,a,d⟩;go_wp2;go_ret;exact⟨_,_,D,a,d⟩
def iY(p b:O->Bool):M Bool:=λX=>if X.gH p b then .ok C (X.BE p)else .ok I X
def my:M Unit:=do
 let _ <-iY (cZ [jV]) DR
 return ()
def oA(p:O->Bool):M Unit:=oc λX=>X.Io p
def sH(p:O->Bool):M Unit:=oc λX=>X.qv p
def iA(m:Nat):M Unit:=oc λX=>{X with g:=m}
def iH(x:fW):M Unit:=λX=>if X.dO x then .ok () {X with A:=X.A.erase x} else .stuck
def zw(x y:fW):M Unit:=λX=>if X.dO x&&X.lj y then .ok () {X with A:=oU X.A x y} else .stuck
def p5(x y:fW):M Unit:=λX=>if X.dO x&&X.lj y&&decide (ln X.A<4096)then .ok () {X with A:=ft X.A x y} else .stuck
def Aw(x:fW):M Unit:=λX=>if X.dO x then .ok () {X with A:=mc X.A x} else .stuck
def iP(x:fW):M Unit:=λX=>if X.dO x then .ok () {X with B:=X.B.erase x} else .stuck
def qI(x y:fW):M Unit:=λX=>if X.dO x&&X.dO y then .ok () {X with B:=oU X.B x y} else .stuck
def pM(x y:fW):M Unit:=λX=>if X.dO x&&X.dO y&&decide (ln X.B<4096)then .ok () {X with B:=ft X.B x y} else .stuck
def Ck(x:fW):M Unit:=λX=>if X.dO x then .ok () {X with B:=mc X.B x} else .stuck
def vi(bY:iB)(s:O):Bool:=bY.any λa=>fG a.1 s
def oR(i:Nat):iB->M Unit
 |[]=>pure ()
 |a::r=>λX=>match X.h i with
  |none=> .stuck
  |some e=>if vi e.A a.1 then oR i r X else if X.T<=ln e.A then .stop 7 X.K else oR i r (X.l i {e with A:=e.A++[a]})
def uW(i:Nat)(t:dj):M Unit:=λX=>if X.E&&l4 (X.nm i)then oR i t.h X else .stuck
def jm(i:Nat):M Nat:=λX=>match X.h i with
 |some e=>if l4 e.name then .stuck else .ok (ln X.d) (X.add (.el {name:=e.name,A:=e.A,E:=F,q:=[]}))
 |none=> .stuck
def N.Qq(X:N)(x:fW):Bool:=decide (x=F)||decide (x∈X.A)
def N.iT(X:N):iU->Nat
 |[]=>0
 |x::r=>if X.Qq x then ln r+1 else X.iT r
def N.e(X:N):Nat:=X.iT X.B.reverse
def GW(n:Nat):M Nat:=λX=>match dT X.B (n:Int)with
 |some i=> .ok i X
 |none=> .stuck
def oZ(a:Nat):M Unit:=λX=>qI (H a) X.last X
def Lz:Nat->Nat->M Unit
 |0,_=>pure ()
 |k+1,n=>do
  let a <-GW n
  let j <-jm a
  j5 j
  oZ a
  Lz k (n+1)
def iF:M Unit:=λX=>Lz (ln X.B-X.e) X.e X
def N.pX(X:N)(s:O):iU->fW
 |[]=>F
 |none::_=>F
 |some i::r=>if fG (X.nm i) s then H i else X.pX s r
def N.lU(X:N)(s:O):fW:=X.pX s X.B.reverse
def akk(a b:mh):Bool:=fG a.name b.name&&(ln a.A==ln b.A)&&a.A.all λx=>b.A.any λy=>fG x.1 y.1&&fG x.2 y.2
def N.z(X:N)(i j:Nat):Bool:=match X.h i,X.h j with
 |some a,H b=>akk a b
 |_,_=>I
def N.u(X:N)(j:Nat):iU->fW×Nat->fW×Nat
 |[],c=>c
 |none::_,c=>c
 |some i::r,c=>if X.z i j then X.u j r (H i,c.2+1)else X.u j r c
def gN(x:fW):M Unit:=λX=>if X.R<=ln X.B then .stop 6 X.K else if X.dO x then .ok () {X with B:=X.B++[x]} else .stuck
def Pt(i:Nat):M Unit:=λX=>
 let c:=X.u i X.B.reverse (F,0)
 if 3<=c.2 then (do
  iP c.1
  gN (H i)
  return ():M Unit) X else (do
  gN (H i)
  return ():M Unit) X
def xJ:M Unit:=do
 Ck F
 return ()
def Ib:M Nat:=λX=>match X.last with
 |some i=> .ok i X
 |none=> .stuck
def jB(t:dj):M Unit:=do
 iF
 eE t
 return ()
def vK(t:dj):M Unit:=do
 iF
 jA t
 return ()
def fj(t:dj):M Unit:=do
 jB t
 let i <-Ib
 Pt i
 return ()
def oP(s:O):M Unit:=do
 let _ <-iY (cZ [s]) kg
 return ()
def N.uO(X:N)(f:Nat):iU->fW->fW
 |[],b=>b
 |x::r,b=>if x=H f then b else X.uO f r (if kg (X.l7 x)then x else b)
def N.pO(X:N)(f:Nat):fW:=X.uO f X.A.reverse F
def kG(j:Nat):M Unit:=λX=>match X.h j with
 |none=> .stuck
 |some ej=>match ej.E with
  |none=> .ok () X
  |some p=>match X.h p with
   |none=> .stuck
   |some ep=>if j≠p/\0<=oS ep.q (Nd.dO j)/\(oS ep.q (Nd.dO j)).toNat<ln ep.q then .ok () ((X.l p {ep with q:=ep.q.eraseIdx (oS ep.q (Nd.dO j)).toNat}).l j {ej with E:=F})else .stuck
def Gi(pl:Nat×Nat)(k:Nd):M Unit:=match k with
 | .el j=>jz pl j
 |k=>wB pl k
def x8(dst:Nat):List Nd->M Unit
 |[]=>pure ()
 |k::r=>do
  let a <-fM dst
  Gi a k
  x8 dst r
def mG(b dst:Nat):M Unit:=λX=>match X.h b with
 |none=> .stuck
 |some eb=>if b=dst then .stuck else (x8 dst eb.q>>=λ_ a=>match a.h b with
  |some eb'=> .ok () (a.l b {eb' with q:=[]})
  |none=> .stuck) X
def Il(n:Nat):M Nat:=λX=>match dT X.A (n:Int)with
 |some i=> .ok i X
 |none=> .stuck
def kC(f dP:Nat):Nat->Nat->Nat->Nat->M (Nat×Nat)
 |0,_,last,mark=>pure (last,mark)
 |n+1,c,last,mark=>do
  let e <-Il n
  if e=f then pure (last,mark)else do
   (if 3<c+1 then iP (H e)else pure ())
   λX=>if H e∉X.B then (do
    iH (H e)
    kC f dP n (c+1) last mark:M (Nat×Nat)) X else (do
    let a <-jm e
    zw (H e) (H a)
    qI (H e) (H a)
    kG last
    let d <-fM a
    jz d last
    kC f dP n (c+1) a (if last=dP then a else mark):M (Nat×Nat)) X
def xH(f dP:Nat):M (Nat×Nat):=λX=>kC f dP (jf X.A (H dP)).toNat 0 dP f X
def ahead(f:Nat):M Nat:=λX=>match dT X.A (jf X.A (H f)-1)with
 |some i=> .ok i X
 |none=> .stuck
def uu(f dP:Nat):M Unit:=do
 let (last,mark) <-xH f dP
 kG last
 let a <-ahead f
 let e <-iS a
 jz e last
 let d <-jm f
 mG dP d
 let e <-fM dP
 jz e d
 pM (H mark) (H d)
 iP (H f)
 iH (H f)
 p5 (H dP) (H d)
 return ()
def lQ(s:O):M Bool:=λX=>match X.lU s with
 |none=>(do oP s;return I:M Bool) X
 |some f=>if H f∉X.A then (do iP (H f);return I:M Bool) X
  else if !X.nD f then .ok I X
  else match X.pO f with
   |none=>(do Aw (H f);iP (H f);return I:M Bool) X
   |some b=>(do uu f b;return C:M Bool) X
def rL(s:O):Nat->M Unit
 |0=>pure ()
 |k+1=>do
  let b <-lQ s
  if b then rL s k else pure ()
def vU(s:O):M Unit:=λX=>match X.last with
 |none=> .stuck
 |some i=>if fG (X.nm i) s&&!decide (H i∈X.B)then (do let _ <-wU;return ():M Unit) X else rL s 8 X
section
variable (o:Nat->dj->M Unit)(t:dj)
def jg:M Unit:=λX=>o X.g t X
def kZ(pl:Nat×Nat)(nd:zE)(k:Nat->Nd):M Unit:=λX=>wB pl (k (ln X.d)) (X.add nd)
def Cv:M (Nat×Nat):=fM 0
def kF:M Unit:=match t.k with
 | .eG n q=>do
  let a <-Cv
  kZ a (.dt n) .dt
  oc λX=>{X with W:=q||!fG n aC}
  iA 1
  return ()
 |_=>do
  iA 1
  return ()
def ly:M Unit:=do
 oc λX=>{X with W:=C}
 iA 1
 jg o t
 return ()
def lW(a:O)(own:Bool)(bY:iB):M Nat:=λX=>if own then (if X.E then .ok (ln X.d) (X.il (.el {name:=a,A:=bY,E:=F,q:=[]}) I)else .stuck)else .ok (ln X.d) (X.add (.el {name:=a,A:=[],E:=F,q:=[]}))
def p6(own:Bool)(bY:iB):M Unit:=do
 let e <-lW aC own bY
 let a <-Cv
 jz a e
 nK (H e)
 iA 2
 return ()
def Bj:M Unit:=do
 p6 t.l6 t.h
 return ()
def uz:M Unit:=do
 p6 I []
 jg o t
 return ()
def p9(own:Bool)(bY:iB):M Unit:=do
 let e <-lW aZ own bY
 oc λX=>{X with head:=H e}
 j5 e
 iA 3
 return ()
def Gy:M Unit:=do
 p9 t.l6 t.h
 return ()
def uA:M Unit:=do
 p9 I []
 jg o t
 return ()
def A5:M Unit:=do
 let _ <-wU
 iA 4
 return ()
def nB:M Unit:=do
 A5
 jg o t
 return ()
def vJ:M Unit:=do
 eE t
 iA 6
 return ()
def sd:M Unit:=do
 iD aO
 iA 6
 jg o t
 return ()
def oy:M Unit:=λX=>iH X.head X
def pushHead:M Unit:=λX=>nK X.head X
def rM:M Unit:=do
 pushHead
 o 3 t
 oy
 return ()
def Pz(of:O)(a:Bool):M Unit:=oc λX=>{X with a:=of,S:=a}
def lu(a:Bool):M Unit:=do
 eE t
 Pz t.name a
 oc λX=>{X with kept:=X.g}
 iA 5
 return ()
def yr:M Unit:=do
 lu t I
 return ()
def sV:M Unit:=do
 lu t C
 return ()
def xh:M Unit:=do
 let _ <-wU
 oc λX=>{X with g:=X.kept}
 return ()
def DZ:M Unit:=do
 xh
 jg o t
 return ()
def jL:M Unit:=if kN t.d then pure ()else do
 iF
 gh t
 return ()
def mF:M Unit:=λX=>match dT X.A 0 with
 |some i=>(do uW i t;return ():M Unit) X
 |none=> .stuck
def nA:M Unit:=λX=>match dT X.A 1 with
 |some i=>if fG (X.nm i) aO then (do uW i t;return ():M Unit) X else .ok () X
 |none=> .ok () X
def lc:M Unit:=do
 my
 eE t
 return ()
def yq:M Unit:=do
 lc t
 oc λX=>{X with P:=C}
 return ()
def oG:M Unit:=do
 my
 oA (cZ [pg,ph])
 eE t
 return ()
def zd:M Unit:=do
 my
 jA t
 return ()
def sq:M Unit:=λX=>match X.j with
 |some _=> .ok () X
 |none=>(do
  lc t
  oc λX=>{X with j:=X.last}
  return ():M Unit) X
def qg:M Unit:=do
 let _ <-iY (cZ [eu]) eP
 jB t
 return ()
def xa:M Unit:=λX=>if X.W then .ok () X else my X
def tZ:M Unit:=do
 xa
 eE t
 iA 7
 return ()
def rq:M Unit:=do
 yr t
 oc λX=>{X with P:=C}
 return ()
def nZ:M Unit:=do
 oA (cZ [dJ])
 jB t
 return ()
def sv:M Unit:=do
 jB t
 oc λX=>{X with g:=if X.g=7\/X.g=9\/X.g=11\/X.g=12\/X.g=13 then 15 else 14}
 return ()
def pd:M Unit:=λX=>match X.lU xv with
 |none=>(do fj t;return ():M Unit) X
 |some a=>(do
  vU xv
  iP (H a)
  iH (H a)
  fj t
  return ():M Unit) X
def tY:M Unit:=λX=>if X.gH (cZ [fD]) eP then (do vU fD;fj t;return ():M Unit) X else (do fj t;return ():M Unit) X
def sr:M Unit:=do
 iF
 tY t
def rh:M Unit:=do
 vU t.name
 return ()
def qh:M Unit:=do
 jB t
 gN F
 return ()
def rX:M Unit:=do
 let b <-iY (cZ [dR]) eP
 if b then xJ else pure ()
def xe:M Unit:=λX=>if X.gH (cZ [aO]) eP then .ok () {X with g:=16} else .ok () X
def xg:M Unit:=λX=>if X.gH (cZ [aO]) eP then (do
  iA 16
  jg o t
  return ():M Unit) X else .ok () X
def xW:M Unit:=do
 let _ <-iY (cZ [t.name]) eP
 return ()
def tK:M Unit:=do
 let _ <-iY (cZ [pg,ph]) eP
 return ()
def A6:M Unit:=do
 let _ <-iY (cZ [eN]) aiN
 return ()
def Qb:M Unit:=λX=>if X.gH (cZ [jV]) DR then (do my;return ():M Unit) X else (do
  iD jV
  my
  return ():M Unit) X
def uy:M Unit:=do
 iF
 iD iC
 let _ <-wU
 return ()
def xf:M Unit:=λX=>match X.j with
 |none=> .ok () X
 |some i=>if X.nD i then (do
   oc λX=>{X with j:=F}
   oc λX=>X.kM
   iH (H i)
   return ():M Unit) X else .ok () {X with j:=F}
def xY:M Unit:=do
 oP t.name
 return ()
def Wn:M Unit:=iA 17
def yH:M Unit:=do
 iA 6
 jg o t
 return ()
def pQ:M Unit:=do
 oc λX=>{X with U:=C}
 o 6 t
 oc λX=>{X with U:=I}
 return ()
def lL:M Unit:=λX=>if X.gV qS then (do
  oc λX=>{X with kept:=X.g}
  iA 8
  jg o t
  return ():M Unit) X else (do pQ o t;return ():M Unit) X
def oF:M Unit:=do
 sH (cZ [aH])
 gN F
 eE t
 iA 9
 return ()
def jD:M Unit:=λX=>match X.j with
 |some _=> .ok () X
 |none=>(do
  eE t
  let x <-wU
  oc λX=>{X with j:=x}
  return ():M Unit) X
def Xz(s:O):O:=⟨s.data.map λb=>if 65<=b.toNat/\b.toNat<=90 then b+32 else b⟩
def uk:iB->Bool
 |[]=>I
 |a::r=>if fG a.1 lY then fG (Xz a.2) jT else uk r
def iL:M Unit:=if uk t.h then (do jA t;return ())else (do pQ o t;return ())
def j8:M Unit:=match t.k with
 | .fI s=>if kN s then pure ()else λX=>if ln X.L<4096 then .ok () {X with L:=X.L++[(t.a,t.b,s)]} else .stuck
 |_=>stuck
def nX(x:Nat×Nat×O):dj:={a:=x.1,b:=x.2.1,k:=.fI x.2.2}
def qA:List (Nat×Nat×O)->M Unit
 |[]=>pure ()
 |x::r=>do
  gh (nX x)
  qA r
def tL:List (Nat×Nat×O)->M Unit
 |[]=>pure ()
 |x::r=>do
  pQ o (nX x)
  tL r
def og:M Unit:=λX=>if X.L.any λx=>!fP x.2.2 then tL o X.L X else qA X.L X
def mD(a:List O)(m:Nat):M Bool:=do
 let b <-iY (cZ a) zf
 if b then (do iA m;return C)else return I
def jn(a:List O)(m:Nat):M Bool:=do
 let b <-mD a m
 if b then (do xJ;return C)else return I
def de(s:O):Nat:=if cZ [eQ,eS] s then 13 else if cZ [dK] s then 12 else if cZ [cO,cX,cH] s then 11 else if cZ [cI] s then 9 else if cZ [aV] s then 10 else if cZ [aH] s then 7 else 6
def jq(X:N):iU->Nat
 |[]=>6
 |x::r=>if de (X.l7 x)=6 then jq X r else de (X.l7 x)
def Dm:M Unit:=oc λX=>{X with g:=jq X X.A.reverse}
def sI:M Bool:=do
 let b <-iY (cZ [aH]) zf
 if b then (do Dm;return C)else return I
def tJ:M Bool:=jn [cI] 7
def ir:M Bool:=λX=>if X.gV (cZ [aV])then (do
  let _ <-wU
  iA 7
  return C:M Bool) X else .ok I X
def sJ:M Bool:=mD [cO,cH,cX] 7
def Km:M Bool:=mD [dK] 11
def endCell:M Bool:=jn [eQ,eS] 12
def qF:M Unit:=do
 sH (cZ [dK])
 eE t
 iA 13
 gN F
 return ()
def qt:M Unit:=if kN t.d then pure ()else do
 gh t
 return ()
def jW:M Unit:=do
 oA (cZ [dJ])
 eE t
 return ()
def iI:M Unit:=do
 oA (cZ [dJ])
 oA (cZ [cD])
 eE t
 return ()
def mu:M Unit:=do
 iI t
 let _ <-wU
 return ()
def fX:M Unit:=λX=>if X.gV (cZ [dJ])then (match dT X.A (jf X.A X.last-1)with
  |none=> .stuck
  |some i=>if fG (X.nm i) cD then (do
    let _ <-wU
    oA (cZ [cD])
    return ():M Unit) X else (do oA (cZ [cD]);return ():M Unit) X)
 else (do oA (cZ [cD]);return ():M Unit) X
def mB:M Unit:=do
 oA (cZ [dJ])
 return ()
def vA:M Bool:=do
 let b <-iY (cZ [gm]) (λs=>!(cZ [dJ] s||cZ [cD] s))
 if b then (do Dm;return C)else return I
end
def To.a{L:pi}{P:N}{b:Type}{d:(Nat->Nat)->b->dB}{a:b}{e:Ending}(h:To E L P w U)(o:e=ff (d L.K a))(u:ln X.d<=ln P.d):iW E L.K (ln X.d) w (.ok a P) d e U:=by have⟨L',e1,h3,h4⟩:=h;exact⟨o,⟨L',e1,h3⟩,h4,u⟩
theorem vp(h:RF E f X w)(u:Ask E.bm v p w):dS 235 #[Bp E,v] w (iW E f (ln X.d) w (oA p X) uV):=by
 obtain⟨L,rfl,o⟩:=h;exact((show Calls prog 235 #[Bp E,v] w λe U=>e=pG/\To E L (X.Io p) w U by
   have a:=yM o v p u;have z:=T6 o;have A:=o.to (Fr.refl w);obtain⟨k,B,rfl,_,_⟩:=u.call;unfold N.Io;cases hcur:X.gV p with
   |false=>
    rw[hcur]at a;go_enter func235,ntmps235;go_wp21;refine a.mono ?_;rintro e U⟨rfl,rfl⟩;go_wp2;go_end0;grind
   |true=>
    rw[hcur]at a;go_enter func235,ntmps235;go_wp21;refine a.mono ?_;rintro e U⟨rfl,rfl⟩;go_wp21;refine z.mono ?_;rintro e U⟨rfl,d⟩;go_wp2;go_end0;exact⟨D,d⟩)).mono (λe U h=>h.2.a h.1 (by grind[N.Io,N.pop]))
def FI(h:RF E f X w){a:io}(d:Ask E.bm (.func (.func k) #[] a) p w):dS 216 #[Bp E,.func (.func k) #[] a] w (iW E f (ln X.d) w (sH p X) uV):=by
 obtain⟨L,rfl,o⟩:=h;exact(VZ o _ _ _ p d).mono (λe U h=>h.2.a h.1 (dF _))
def M2(h:RF E f X w):dS 282 #[Bp E] w (iW E f (ln X.d) w (oc (λX=>X.kM) X) uV):=by
 obtain⟨L,rfl,a⟩:=h;exact(KF a).mono (λe U h=>h.2.a h.1 (dF _))
def A0(h:RF E f X w)(a:Ask E.bm v p w):dS 214 #[Bp E,v] w (JK w (.bool (X.gV p))):=by
 obtain⟨L,rfl,d⟩:=h;exact yM d v p a
def yK(h:RF E f X w){z K:Nat}{a o:io}{q:O->Bool}(B:Ask E.bm (.func (.func z) #[] a) p w)(i:Ask E.bm (.func (.func K) #[] o) q w):dS 222 #[Bp E,.func (.func z) #[] a,.func (.func K) #[] o] w (iW E f (ln X.d) w (iY p q X) bV):=by
 have u:=vE h p q _ _ B i;have a0:=At.start h;unfold iY;cases hi:X.gH p q with
 |false=>
  rw[hi]at u;rw[di (by simp)];go_enter func222,ntmps222;go_wp21;refine u.mono ?_;rintro e A⟨rfl,d⟩;replace a0:=a0.k0 d;go_wp2;go_ret;exact iw D a0 D
 |true=>
  rw[hi]at u;rw[dw (by simp)];go_enter func222,ntmps222;go_wp21;refine u.mono ?_;rintro e A⟨rfl,d⟩;have c:dS 287 #[Bp E,(fe (Fn.func z) #[] a)] A (iW E f (ln X.d) A (.ok () (X.BE p)) uV):=by have h:=(a0.k0 d).rel;have ha:=B.k0 d;obtain⟨L,rfl,j⟩:=h;exact(aig j (fe (Fn.func z) #[] a) p ha).mono (λe U h=>h.2.a h.1 (dF _))
  replace a0:=a0.k0 d;go_wp21;refine c.mono ?_;rintro e w2⟨rfl,b,g,h3⟩;replace a0:=a0.to b h3 g;go_wp2;go_ret;exact iw D a0 D
def xS(h:RF E f X w)(B:my X≠ .stuck):dS 272 #[Bp E] w (iW E f (ln X.d) w (my X) uV):=by
 obtain⟨R,o⟩:∃R,R=(my) X:=⟨_,D⟩;rw[<-o]at B|-;unfold my at o;have a0:=At.start h;have z:=V o;clear o;go_enter func272,ntmps272;have K:=lG E [jV] w (by decide);go_wp21;refine K.mono ?_;rintro e w1⟨k1,U,rfl,a,A⟩;replace a0:=a0.k0 A;go_wp21;refine(zp a0.rel).mono ?_;rintro e w2⟨k2,b,rfl,u,d⟩;replace a:=a.k0 d;replace a0:=a0.k0 d;go_wp21;refine As (λ_=>yK a0.rel a u) a0 z B mT ?_;rintro(_) X w a0 c z;go_wp2;go_end0;exact iw z a0 D
abbrev Vt:Obj:=dr #[.pointer F,G 0] 231
theorem M.bind_pure{b:Type}(m:M b)(X:N):(m>>=λa=>(aG a:M b)) X=m X:=by rw[M.cW];cases m X<;>rfl
theorem Lr(E:fS)(hF:jI E)(i:Nat):jk E 172 (λf=>#[Bp E,nV f i]) (iS i) pV:=by
 intro f X w h z;have t:=aY w Vt;have ac:=h.lt;have C:=(At.start h).k0 ((Z.refl _ w).alloc Vt);have K:w.cell? ⟨E.A,195,F⟩=H (.bool X.U):=(At.start h).IQ;obtain⟨R,g⟩:∃R,R=iS i X:=⟨_,D⟩;rw[<-g]at z|-;have HS:=z;unfold iS at g;cases hfo:X.U with
 |false=>
  rw[hfo]at g K;rw[di (by simp)]at g;have l:=C;have u:Hid (R=(fM i>>=λd=>pure d) X):=V (g.trans (M.bind_pure (fM i) X).symm);clear g;go_enter func172,ntmps172;go_wp21
  go_quiet (fail)
  replace l:=V (l.k0 ((Z.refl _ (w.alloc Vt)).drewN nq));go_wp21;refine jk.call (Hk E i) l u HS D ?_ ?_
  .intro c p j y o n q;have m:=V o;clear o;go_wp2;exact⟨D,tP m n q⟩
  rintro d x w1 o r U;have a:=((Fr.h ((Z.refl _ (w.alloc Vt)).drewN nq)).trans r).cell t (by decide);have c0:=aF a 0;have c1:=aF a 1;have f0:=cY a 0;have f1:=cY a 1;dsimp at c0 c1;replace l:=V (((o.side a (by decide) (dF _) 0 (dq (f d.1))).side (bH a 0 _) (by decide) (dF _) 1 (G d.2)));replace u:=V U;have A:=V (bH (bH a 0 (dq (f d.1))) 1 (G d.2));clear o U;go_wp2;refine mL (v:=pV f d) ?_ D (iw u l D);simp[results,results172,asAddr,da,go_sem,aF A.out]
 |true=>
  rw[hfo]at g K;have S:∃e,X.h i=H e:=by
   cases he:X.h i with
   |some e=>simp
   |none=>
    exfalso;have T:X.nm i=⟨#[]⟩:=by unfold N.nm;rw[he]
    have B:qS (X.nm i)=I:=by rw[T];simp[qS,cZ,fG,th]
    rw[B]at g;simp only[Bool.and_false,uS,AO]at g;apply z;rw[g];grind[fM]
  have⟨e0,he0⟩:=S;have v:∀W,Z [] w W->W.cell? ⟨f i,0,F⟩=H (Y (X.nm i)):=by intro W hk;obtain⟨L,rfl,s⟩:=h;exact(s.h hk).uR he0
  have cN:=v w (Z.refl _ _);have ab:f i<zq w.heap:=by obtain⟨L,rfl,s⟩:=h;exact s.JO (N.n he0)
  have u:=V g;have Q:=At.start h;clear g;go_enter func172,ntmps172;go_wp21
  go_cut [16]from 5 to 15 (λb wc=>b=.bool (qS (X.nm i))/\Z [] w wc/\wc.heap[zq w.heap]?=H Vt)
  case first=>
   go_region_with (first
    |(go_at_call 215;refine(Cb E _).mono ?_;rintro e w1⟨k1,ad,rfl,a3,a1⟩;have a0:Z [] w w1:=(((Z.refl _ w).alloc Vt).drew).trans a1;have c1:=v w1 a0;have⟨k1',lb1',e1,he1,hc1⟩:=a3.call;cases e1;have O:=V (hc1 w1 (yD.refl _ _) (X.nm i));have P:=V a0;have J:=V (a1.at t (by simp));clear a3 a1 a0 hc1)
    |(refine O.mono ?_;rintro e w2⟨rfl,rfl⟩))
   all_goals (try (go_wp21))
   all_goals (go_meet;exact⟨D,P,J⟩)
  case rest=>
   obtain⟨rfl,hk,a2⟩:=hcut;have l:Hid (At E f (ln X.d) w f X wc):=V (Q.k0 hk);cases B:qS (X.nm i)with
   |true=>
    have k:Hid (R=(gJ>>=λd=>(aG d:M (Nat×Nat))) X):=by
     refine V ?_;rw[M.bind_pure];have:=u
     rwa [B]at this
    replace u:=k;go_wp21;refine jk.call hF l u HS D ?_ ?_
    .intro c p j y o n q;have m:=V o;clear o;go_wp2;exact⟨D,tP m n q⟩
    rintro d x w1 o r U;have a:=r.cell a2 (by decide);have c0:=aF a 0;have c1:=aF a 1;have f0:=cY a 0;have f1:=cY a 1;dsimp at c0 c1;replace l:=V (((o.side a (by decide) (dF _) 0 (dq (f d.1))).side (bH a 0 _) (by decide) (dF _) 1 (G d.2)));replace u:=V U;have A:=V (bH (bH a 0 (dq (f d.1))) 1 (G d.2));clear o U;go_wp2;refine mL (v:=pV f d) ?_ D (iw u l D);simp[results,results172,asAddr,da,go_sem,aF A.out]
   |false=>
    have k:Hid (R=(fM i>>=λd=>(aG d:M (Nat×Nat))) X):=by
     refine V ?_;rw[M.bind_pure];have:=u
     rwa [B]at this
    replace u:=k;go_wp21;refine jk.call (Hk E i) l u HS D ?_ ?_
    .intro c p j y o n q;have m:=V o;clear o;go_wp2;exact⟨D,tP m n q⟩
    rintro d x w1 o r U;have a:=r.cell a2 (by decide);have c0:=aF a 0;have c1:=aF a 1;have f0:=cY a 0;have f1:=cY a 1;dsimp at c0 c1;replace l:=V (((o.side a (by decide) (dF _) 0 (dq (f d.1))).side (bH a 0 _) (by decide) (dF _) 1 (G d.2)));replace u:=V U;have A:=V (bH (bH a 0 (dq (f d.1))) 1 (G d.2));clear o U;go_wp2;refine mL (v:=pV f d) ?_ D (iw u l D);simp[results,results172,asAddr,da,go_sem,aF A.out]
theorem Jt(E:fS)(q:jI E):jk E 99 (λ_=>#[Bp E]) ja pV:=by
 intro f X w h HS;cases hl:X.last with
 |none=>exfalso;grind[ja]
 |some i=>
  have m:ja X=(iS i>>=λd=>pure d) X:=by unfold ja;rw[hl,M.bind_pure]
  obtain⟨R,u⟩:∃R,R=ja X:=⟨_,D⟩;have K:Hid (dS 173 #[gU E.A 188] (w.alloc Vt) λe U=>e=ff (dq (f i))/\U=w.alloc Vt):=by
   obtain⟨L,rfl,r⟩:=h;have:=Xc (r.h ((Z.refl _ w).alloc Vt))
   rwa [show dT X.A ((ln X.A:Int)-1)=H i from hl]at this
  rw[<-u]at HS|-;rw[m]at u;have a2:=(At.start h).k0 ((Z.refl _ w).alloc Vt);have z:=V u;have l:=aY w Vt;have a0:=h.lt;clear u;go_enter func99,ntmps99;go_wp21;refine K.mono ?_;rintro e U⟨rfl,rfl⟩;go_wp21;refine jk.call (Lr E q i) a2 z HS D ?_ ?_
  .intro c p j s o g k;have b:=V o;clear o;go_wp2;exact⟨D,tP b g k⟩
  rintro d a1 w1 o n B;have a:=n.cell l (by decide);have c0:=aF a 0;have c1:=aF a 1;have f0:=cY a 0;have f1:=cY a 1;dsimp at c0 c1;replace a2:=((o.side a (by decide) (dF _) 0 (dq (f d.1))).side (bH a 0 _) (by decide) (dF _) 1 (G d.2));replace z:=V B;have A:=V (bH (bH a 0 (dq (f d.1))) 1 (G d.2));clear o B;go_wp2;refine mL (v:=pV f d) ?_ D (iw z a2 D);simp[results,results99,asAddr,da,go_sem,aF A.out]
theorem RF.a(h:RF E f X w):∃a n d,E.a=.slice a n d:=by have⟨L,_,hr⟩:=h;have⟨a,cap,e⟩:=df hr.tok;grind
section
variable (E:fS)(hF:jI E)
include hF
def Er(j:Nat):jk E 262 (λf=>#[Bp E,nV f j]) (j5 j) uV:=TB E (Jt E hF) j
def uo(s:O):pL E 182 (λ_=>#[Bp E,Y s]) (iD s) uV:=(by refine dI λf X w R a HS h=>?_;unfold iD at a;go_enter func182,ntmps182;have d:=h.Ic s;replace a:=a;have h:=d;go_wp21;refine mC (TB E (Jt E hF) (ln X.d)) h a HS (by rw[yV]) lT ?_;rintro(_) X w h e a;go_wp2;go_end0;exact cF a h D)
theorem jC(t:dj)(g:gz E t):qU E t 177 (eE t):=by
 intro f X w h HS;have⟨ao,n,cp,htv⟩:=h.a;have d:t.l6=C/\X.E=C:=by
  unfold eE at HS;rw[M.cW]at HS;unfold jN at HS;cases hc:(X.E&&t.l6)with
  |true=>grind
  |false=>grind
 have U:=g d.1;have u:t.h=E.B/\Dy E t=#[G t.a,G t.b,Y t.name,.slice ao n cp]:=by have⟨a,b,k,bY⟩:=t;cases k<;>simp_all[dj.l6,dj.h,Dy,dj.name]
 obtain⟨R,K⟩:∃R,R=(eE t) X:=⟨_,D⟩;rw[<-K]at HS|-;have z:R=(j5 (ln X.d)>>=λ_=>(aG ():M Unit)) (X.il (.el {name:=t.name,A:=E.B,E:=F,q:=[]}) I):=by rw[K];unfold eE;rw[M.cW];unfold jN;simp only[d.1,d.2,u.1,Bool.and_self,Cg]
 have A:=V z;have o:=AF E t w ⟨ao,n,cp,htv⟩;rw[u.2]at o;have a1:=At.start h;have a0:=h.lt;have B:=d.2;clear h K z d U u;go_enter func177,ntmps177;go_wp21;refine o.mono ?_;rintro e w1⟨rfl,c⟩;replace a1:=(a1.k0 (c.alloc (dr #[G t.a,G t.b,Y t.name,.slice ao n cp] 192))).jN B t.name;rw[htv]at a1;clear c o;go_wp21;refine mC (Er E hF (ln X.d)) a1 A HS (by simp[IX]) lT ?_;clear a1 A;rintro(_) X w a1 i A;go_wp2;go_end0;exact cF A a1 D
def vk(t:dj)(e:gz E t):qU E t 104 (jA t):=by refine dI λf X w R a HS o=>?_;go_enter func104,ntmps104;go_wp21;refine dC (jC E hF t e) o a HS D lT ?_;rintro(_) f X w o h d a;go_wp21;refine mC (Vv E) o a HS D lT ?_;rintro(_) X w o d a;go_wp2;go_end0;exact cF a o D
def vj(t:dj):qU E t 103 (gh t):=by refine dI λf X w R a HS A=>?_;go_enter func103,ntmps103;go_wp21;refine mC (Jt E hF) A a HS D lT ?_;rintro(o) X w A d a;go_wp21;refine(yJ E t _).mono ?_;rintro e z⟨rfl,h⟩;replace A:=A.k0 h;go_wp21;refine dC (Xp E o t.d) A a HS D lT ?_;rintro(_) f X w A u d a;go_wp2;go_end0;exact cF a A D
def vr(t:dj)(h:gz E t):qU E t 187 (lc t):=by refine dI λf X w R a HS u=>?_;go_enter func187,ntmps187;go_wp21;refine As (λe=>xS u.rel e) u a HS lT ?_;rintro(_) X w u d a;go_wp21;refine dC (jC E hF t h) u a HS D lT ?_;rintro(_) f X w u o d a;go_wp2;go_end0;exact cF a u D
def XE(t:dj)(d:gz E t):qU E t 188 (yq t):=by refine dI λf X w R a HS z=>?_;unfold yq at a;go_enter func188,ntmps188;go_wp21;refine dC (vr E hF t d) z a HS D lT ?_;rintro(_) f X w z h e a;have o:=z.I2;have u:=z.free 198;replace z:=z.rT C;go_wp2;go_end0;exact cF a z D
end
def AG(a b:Int)(s:O)(d:Option Addr)(n e:Nat)(w:J):(lC 192 (.agg #[G a,G b,Y s,.slice d n e]) 1).run prog w=.ok (Y s) w:=by have h:=underlying192;simp[lC,sY h,go_sem,asAgg,da]
def GD(a b:Int)(s:O)(d:Option Addr)(n e:Nat)(w:J):(lC 192 (.agg #[G a,G b,Y s,.slice d n e]) 2).run prog w=.ok (.slice d n e) w:=by have h:=underlying192;simp[lC,sY h,go_sem,asAgg,da]
def At.Ht{f0:Nat->Nat}(h:At E f0 n0 w0 f X w):w.cell? ⟨E.A,187,F⟩=H (nV f 0):=by obtain⟨L,rfl,a⟩:=h.rel;exact a.low (by decide) a.env.u
theorem rO(X P:N)(h:P.d=X.d):ln X.d<=ln P.d:=by grind
def EQ(E:fS)(x:fW):jk E 181 (λf=>#[gU E.A 188,oV f x]) (iH x) uV:=by
 intro f X w ⟨L,e,a⟩ d;subst e;unfold iH at d|-;by_cases o:X.dO x=C;rw[dw o];exact((show Calls prog 181 #[gU E.A 188,jl (fx L.K x)] w λe U=>e=pG/\To E L {X with A:=X.A.erase x} w U by have⟨Co,hL,hC⟩:=a.yT;refine(An E.bs E.A 188 _ Co _ _ _ w hL a.Dr (a.dO o)).mono ?_;rintro e U⟨rfl,u⟩;exact⟨D,a.Mf hL hC (by rw[<-vB a.inj];exact u) λy z=>a.wf.A y (wJ z)⟩)).mono (λe U h=>h.2.a h.1 (rO _ _ D))
 rw[di o]at d;exact absurd D d
def aew(E:fS)(x:fW):jk E 322 (λf=>#[gU E.A 188,oV f x]) (Aw x) uV:=by
 intro f X w ⟨L,e,a⟩ d;subst e;unfold Aw at d|-;by_cases o:X.dO x=C;rw[dw o];exact((show Calls prog 322 #[gU E.A 188,jl (fx L.K x)] w λe U=>e=pG/\To E L {X with A:=mc X.A x} w U by have⟨Co,hL,hC⟩:=a.yT;refine(YM E.bs E.A 188 _ Co _ _ _ w hL (by decide) a.Dr (a.dO o)).mono ?_;rintro e U⟨rfl,u⟩;exact⟨D,a.Mf hL hC (by rw[<-OC a.inj];exact u) λy z=>a.wf.A y (OD z)⟩)).mono (λe U h=>h.2.a h.1 (rO _ _ D))
 rw[di o]at d;exact absurd D d
theorem QN(E:fS)(x y:fW):jk E 370 (λf=>#[gU E.A 188,oV f x,oV f y]) (p5 x y) uV:=by
 intro f X w ⟨L,e,a⟩ o;subst e;unfold p5 at o|-;by_cases d:(X.dO x&&X.lj y&&decide (ln X.A<4096))=C;rw[dw d];simp at d;exact((show Calls prog 370 #[gU E.A 188,jl (fx L.K x),jl (fx L.K y)] w λe U=>e=pG/\To E L {X with A:=ft X.A x y} w U by have⟨Co,hL,hC⟩:=a.yT;refine(Ia E.bs E.A 188 _ Co _ _ _ _ w hL a.Dr (a.dO d.1.1) (by grind) a.bw).mono ?_;rintro e U⟨rfl,u⟩;exact⟨D,a.Mf hL hC (by rw[<-BX a.inj];exact u) λz A=>by grind[B8,Wf.A,fk.wf]⟩)).mono (λe U h=>h.2.a h.1 (rO _ _ D))
 rw[di d]at o;exact absurd D o
def DL(E:fS)(x:fW):jk E 181 (λf=>#[gU E.A 189,oV f x]) (iP x) uV:=by
 intro f X w ⟨L,e,a⟩ d;subst e;unfold iP at d|-;by_cases o:X.dO x=C;rw[dw o];exact((show Calls prog 181 #[gU E.A 189,jl (fx L.K x)] w λe U=>e=pG/\To E L {X with B:=X.B.erase x} w U by have⟨Co,hL,hC⟩:=a.I0;refine(An E.bs E.A 189 _ Co _ _ _ w hL a.Dd (a.dO o)).mono ?_;rintro e U⟨rfl,u⟩;exact⟨D,a.GG hL hC (by rw[<-vB a.inj];exact u) λy z=>a.wf.B y (wJ z)⟩)).mono (λe U h=>h.2.a h.1 (rO _ _ D))
 rw[di o]at d;exact absurd D d
theorem aga(E:fS)(x y:fW):jk E 270 (λf=>#[gU E.A 189,oV f x,oV f y]) (qI x y) uV:=by
 intro f X w ⟨L,e,a⟩ o;subst e;unfold qI at o|-;by_cases d:(X.dO x&&X.dO y)=C;rw[dw d];simp at d;exact((show Calls prog 270 #[gU E.A 189,jl (fx L.K x),jl (fx L.K y)] w λe U=>e=pG/\To E L {X with B:=oU X.B x y} w U by have⟨Co,hL,hC⟩:=a.I0;refine(F9 E.bs E.A 189 _ Co _ _ _ _ w hL a.Dd (a.dO d.1)).mono ?_;rintro e U⟨rfl,u⟩;exact⟨D,a.GG hL hC (by rw[<-LB a.inj];exact u) λz A=>by grind[LD,Wf.B,fk.wf]⟩)).mono (λe U h=>h.2.a h.1 (rO _ _ D))
 rw[di d]at o;exact absurd D o
theorem Pr(E:fS)(x y:fW):jk E 370 (λf=>#[gU E.A 189,oV f x,oV f y]) (pM x y) uV:=by
 intro f X w ⟨L,e,a⟩ o;subst e;unfold pM at o|-;by_cases d:(X.dO x&&X.dO y&&decide (ln X.B<4096))=C;rw[dw d];simp at d;exact((show Calls prog 370 #[gU E.A 189,jl (fx L.K x),jl (fx L.K y)] w λe U=>e=pG/\To E L {X with B:=ft X.B x y} w U by have⟨Co,hL,hC⟩:=a.I0;refine(Ia E.bs E.A 189 _ Co _ _ _ _ w hL a.Dd (a.dO d.1.1) (by grind) a.bw).mono ?_;rintro e U⟨rfl,u⟩;exact⟨D,a.GG hL hC (by rw[<-BX a.inj];exact u) λz A=>by grind[B8,Wf.B,fk.wf]⟩)).mono (λe U h=>h.2.a h.1 (rO _ _ D))
 rw[di d]at o;exact absurd D o
def Df(E:fS):jk E 178 (λ_=>#[gU E.A 188]) wU oV:=Vv E
def abG(E:fS)(j:Nat):jk E 368 (λf=>#[nV f j]) (kG j) uV:=by
 intro f X w ⟨L,e,o⟩ a;subst e;unfold kG at a|-;cases hj:X.h j with
 |none=>rw[hj]at a;exact absurd D a
 |some ej=>
  simp only[hj]at a|-;cases hp:ej.E with
  |none=>
   simp only[hp]at a|-;refine(Fg o hj hp).mono ?_;rintro e U⟨rfl,rfl⟩;exact⟨D,⟨L,D,o⟩,Fr.refl _,dF _⟩
  |some p=>
   simp only[hp]at a|-;cases hep:X.h p with
   |none=>rw[hep]at a;exact absurd D a
   |some ep=>
    simp only[hep]at a|-;by_cases d:j≠p/\0<=oS ep.q (Nd.dO j)/\(oS ep.q (Nd.dO j)).toNat<ln ep.q;rw[dw d];exact(O0 o hj hp hep d.1 d.2.2 (by omega)).mono (λe U h=>h.2.to.a h.1 (by simp[N.l]));rw[di d]at a;exact absurd D a
def NF(E:fS)(i:Nat):pL E 269 (λf=>#[nV f i]) (jm i) nV:=by
 intro f X w ⟨L,e,A⟩ a;subst e;unfold jm at a|-;cases hi:X.h i with
 |none=>rw[hi]at a;exact absurd D a
 |some e=>
  simp only[hi]at a|-;by_cases d:l4 e.name=C;rw[dw d]at a;exact absurd D a;rw[di d];refine(OZ A hi (by simpa using d)).mono ?_;rintro B U⟨h,o,rfl,u,z,_⟩;exact⟨h.K,o,by simp[N.add],D,⟨h,D,u⟩,z⟩
def RF.alJ(h:RF E f X w):0<ln X.d:=by have⟨L,_,hr⟩:=h;exact N.kT hr.wf.u
theorem aed(h:i<n):nV (IX f n k) i=nV f i:=by grind[IX]
section
variable (E:fS)(hF:jI E)(o:Nat->dj->M Unit)
variable (hA:FA E o)
include hA in
def sW(t:dj)(u:gz E t):qU E t 89 (jg o t):=by
 intro f X w h HS;obtain⟨R,e⟩:∃R,R=jg o t X:=⟨_,D⟩;rw[<-e]at HS|-;have a:R=(o X.g t>>=λ_=>(aG ():M Unit)) X:=by rw[e,M.bind_pure];rfl
 have d:=V a;have K:=At.start h;have B:=K.qY;have b:=h.lt;clear h e a;go_enter func89,ntmps89;go_wp21;refine dC (hA X.g t u) K d HS D lT ?_;clear K d;rintro(_) f X w K A z d;go_wp2;go_end0;exact cF d K D
include hA in
def zO(t:dj)(e:gz E t):qU E t 95 (ly o t):=by refine dI λf X w R a HS K=>?_;unfold ly at a;go_enter func95,ntmps95;have u:=K.I1;have A:=K.free 196;have z:=K.qY;have B:=K.free 192;have d:=K.lt;replace K:=(K.qf C).fy 1;go_wp21;refine dC (sW E o hA t e) K a HS D lT ?_;rintro(_) f X w K b h a;go_wp2;go_end0;exact cF a K D
theorem Lh(own:Bool):pL E 170 (λ_=>#[Bp E,if own then E.a else .slice F 0 0]) (p6 own (if own then E.B else [])) uV:=by
 intro f X w h A;have⟨ao,n,cp,htv⟩:=h.a;obtain⟨R,d⟩:∃R,R=p6 own (if own then E.B else []) X:=⟨_,D⟩;rw[<-d]at A|-;have HS:=A;have a0:=At.start h;have U:=h.lt;have z:=V h.alJ;have b:=a0.Ht;have c3:=a0.Hv;have f3:=a0.free 190;unfold p6 at d;cases own with
 |true=>
  rw[M.cW]at d;unfold lW at d;have o:X.E=C:=by
   cases hq:X.E with
   |true=>rfl
   |false=>grind
  simp only[o,Cg]at d;have a:=V d;replace a0:=a0.jN o aC;rw[htv]at a0;rw[dw D,htv];clear h d;go_enter func170,ntmps170;go_wp21;refine mC (Hk E 0) a0 a HS (by rw[aed z.out]) lT ?_;rintro(u) X w a0 e a;go_wp21;refine mC (EW E u _) a0 a HS (by rw[yV]) lT ?_;rintro(_) X w a0 e a;go_wp21;refine mC (QU E (H _)) a0 a HS (by show #[_,nV _ _]=_;rw[yV]) lT ?_;rintro(_) X w a0 e a;have B:=a0.qY;have K:=a0.free 192;replace a0:=a0.fy 2;go_wp2;go_end0;exact cF a a0 D
 |false=>
  rw[M.cW]at d;unfold lW at d;simp only[uS,AO]at d;have a:=V d;replace a0:=a0.Ic aC;rw[di (by simp)];clear h d;go_enter func170,ntmps170;go_wp21;refine mC (Hk E 0) a0 a HS (by rw[aed z.out]) lT ?_;rintro(u) X w a0 e a;go_wp21;refine mC (EW E u _) a0 a HS (by rw[yV]) lT ?_;rintro(_) X w a0 e a;go_wp21;refine mC (QU E (H _)) a0 a HS (by show #[_,nV _ _]=_;rw[yV]) lT ?_;rintro(_) X w a0 e a;have B:=a0.qY;have K:=a0.free 192;replace a0:=a0.fy 2;go_wp2;go_end0;exact cF a a0 D
include hF in
theorem Lj(own:Bool):pL E 175 (λ_=>#[Bp E,if own then E.a else .slice F 0 0]) (p9 own (if own then E.B else [])) uV:=by
 intro f X w h z;have⟨ao,n,cp,htv⟩:=h.a;obtain⟨R,a⟩:∃R,R=p9 own (if own then E.B else []) X:=⟨_,D⟩;rw[<-a]at z|-;have HS:=z;have a0:=At.start h;have u:=h.lt;have U:=h.alJ;have b:=a0.Ht;have c3:=a0.Hv;have f3:=a0.free 190;unfold p9 at a;cases own with
 |true=>
  rw[M.cW]at a;unfold lW at a;have o:X.E=C:=by
   cases hq:X.E with
   |true=>rfl
   |false=>grind
  simp only[o,Cg]at a;have e:=V a;replace a0:=a0.jN o aZ;rw[htv]at a0;rw[dw D,htv];clear a;go_enter func175,ntmps175;have d:=a0.yl (H (ln X.d)) (by simp[N.dO,N.h,N.il,N.add]);rw[show oV (IX f (ln X.d) w.heap.size) (H (ln X.d))=dq w.heap.size from yV _ _ _]at d;rw[World.setCell_alloc_past _ _ _ _ u]at d;replace a0:=d;go_wp21;refine mC (Er E hF _) a0 e HS (by rw[yV]) lT ?_;rintro(_) X w a0 A e;have B:=a0.qY;have K:=a0.free 192;replace a0:=a0.fy 3;go_wp2;go_end0;exact cF e a0 D
 |false=>
  rw[M.cW]at a;unfold lW at a;simp only[uS,AO]at a;have e:=V a;replace a0:=a0.Ic aZ;rw[di (by simp)];clear a;go_enter func175,ntmps175;have d:=a0.yl (H (ln X.d)) (by simp[N.dO,N.h,N.il,N.add]);rw[show oV (IX f (ln X.d) w.heap.size) (H (ln X.d))=dq w.heap.size from yV _ _ _]at d;rw[World.setCell_alloc_past _ _ _ _ u]at d;replace a0:=d;go_wp21;refine mC (Er E hF _) a0 e HS (by rw[yV]) lT ?_;rintro(_) X w a0 A e;have B:=a0.qY;have K:=a0.free 192;replace a0:=a0.fy 3;go_wp2;go_end0;exact cF e a0 D
include hA in
def M3(t:dj)(h:gz E t):qU E t 98 (uz o t):=by refine dI λf X w R a HS b=>?_;unfold uz at a;go_enter func98,ntmps98;go_wp21;refine dC (Lh E I) b a HS (by simp) lT ?_;rintro(_) f X w b e d a;go_wp21;refine dC (sW E o hA t h) b a HS D lT ?_;rintro(_) f X w b e d a;go_wp2;go_end0;exact cF a b D
include hF hA in
def M4(t:dj)(h:gz E t):qU E t 102 (uA o t):=by refine dI λf X w R a HS b=>?_;unfold uA at a;go_enter func102,ntmps102;go_wp21;refine dC (Lj E hF I) b a HS (by simp) lT ?_;rintro(_) f X w b e d a;go_wp21;refine dC (sW E o hA t h) b a HS D lT ?_;rintro(_) f X w b e d a;go_wp2;go_end0;exact cF a b D
theorem UP{k k2:Nat}{m:dj->M Unit}{g:Bool->iB->M Unit}(K:(k=97/\k2=170/\m=Bj/\g=p6)\/(k=101/\k2=175/\m=Gy/\g=p9))(l:∀own,pL E k2 (λ_=>#[Bp E,if own then E.a else .slice F 0 0]) (g own (if own then E.B else [])) uV)(t:dj)(r:gz E t):pL E k (λ_=>#[Bp E,kP E t]) (m t) uV:=by
 intro f X w h c;obtain⟨i,n,j,A⟩:=h.a;obtain⟨R,z⟩:∃R,R=m t X:=⟨_,D⟩;rw[<-z]at c|-;have HS:=V c;have a3:=V (At.start h);have a2:=h.lt;have B:=AF E t w ⟨i,n,j,A⟩;replace z:R=(g t.l6 t.h>>=λ_=>(aG ():M Unit)) X:=by rcases K with⟨_,_,rfl,rfl⟩|⟨_,_,rfl,rfl⟩<;>exact z
 cases htg:t.l6 with
 |true=>
  have d:t.h=(if C then E.B else [])/\Dy E t=#[G t.a,G t.b,Y t.name,.slice i n j]:=by have:=r htg;obtain⟨a,b,k,bY⟩:=t;cases k<;>simp_all[dj.l6,dj.h,Dy,dj.name]
  rw[htg,d.1]at z;rw[d.2]at B;have o:=V B;have u:=V z;have a0:=V A;have a1:=λw=>GD (t.a:Int) (t.b:Int) t.name i n j w;clear h c z B d A;rcases K with⟨rfl,rfl,rfl,rfl⟩|⟨rfl,rfl,rfl,rfl⟩
  case' inl=>go_enter func97,ntmps97
  case' inr=>go_enter func101,ntmps101
  all_goals
   go_wp2_with fail;refine o.out.mono ?_;rintro e w1⟨rfl,U⟩;replace a3:=V (a3.out.k0 U);clear U o;go_wp2_with fail;refine dC (l C) a3 u HS (by rw[dw D,a0.out]) ?_ ?_
   .intro _ _ _ _ h;go_wp2;exact⟨D,lS h⟩
   clear a3 u;rintro(_) f X w a3 q p u;(try dsimp only at u);go_wp2;go_end0;exact cF u.out a3.out D
 |false=>
  have d:t.h=(if I then E.B else [])/\Dy E t=#[G 0,G 0,Y iJ,gq]:=by obtain⟨a,b,k,bY⟩:=t;cases k<;>simp_all[dj.l6,dj.h,Dy,dj.name]
  rw[htg,d.1]at z;rw[d.2]at B;have o:=V B;have u:=V z;have a1:=λw=>GD 0 0 ⟨#[]⟩ F 0 0 w;clear h c z B d A;rcases K with⟨rfl,rfl,rfl,rfl⟩|⟨rfl,rfl,rfl,rfl⟩
  case' inl=>go_enter func97,ntmps97
  case' inr=>go_enter func101,ntmps101
  all_goals
   go_wp2_with fail;refine o.out.mono ?_;rintro e w1⟨rfl,U⟩;replace a3:=V (a3.out.k0 U);clear U o;go_wp2_with fail;refine dC (l I) a3 u HS (by simp) ?_ ?_
   .intro _ _ _ _ h;go_wp2;exact⟨D,lS h⟩
   clear a3 u;rintro(_) f X w a3 q p u;(try dsimp only at u);go_wp2;go_end0;exact cF u.out a3.out D
def N2(t:dj):qU E t 107 (A5):=by refine dI λf X w R a HS u=>?_;unfold A5 at a;go_enter func107,ntmps107;go_wp21;refine mC (Df E) u a HS D lT ?_;rintro(_) X w u e a;have h:=u.qY;have o:=u.free 192;have d:=u.lt;replace u:=u.fy 4;go_wp2;go_end0;exact cF a u D
include hA in
def CQ(t:dj)(h:gz E t):qU E t 108 (nB o t):=by refine dI λf X w R a HS b=>?_;unfold nB at a;go_enter func108,ntmps108;go_wp21;refine dC (N2 E t) b a HS D lT ?_;rintro(_) f X w b e d a;go_wp21;refine dC (sW E o hA t h) b a HS D lT ?_;rintro(_) f X w b e d a;go_wp2;go_end0;exact cF a b D
include hF in
def UI(t:dj)(e:gz E t):qU E t 109 (vJ t):=by refine dI λf X w R a HS A=>?_;unfold vJ at a;go_enter func109,ntmps109;go_wp21;refine dC (jC E hF t e) A a HS D lT ?_;rintro(_) f X w A o h a;have u:=A.qY;have z:=A.free 192;have d:=A.lt;replace A:=A.fy 6;go_wp2;go_end0;exact cF a A D
include hF hA in
def M1(t:dj)(b:gz E t):qU E t 111 (sd o t):=by refine dI λf X w R a HS A=>?_;unfold sd at a;go_enter func111,ntmps111;go_wp21;refine dC (uo E hF aO) A a HS D lT ?_;rintro(_) f X w A e d a;have u:=A.qY;have z:=A.free 192;have h:=A.lt;replace A:=A.fy 6;go_wp21;refine dC (sW E o hA t b) A a HS D lT ?_;rintro(_) f X w A e d a;go_wp2;go_end0;exact cF a A D
def N5(t:dj):qU E t 113 (xh):=by refine dI λf X w R a HS z=>?_;unfold xh at a;go_enter func113,ntmps113;go_wp21;refine mC (Df E) z a HS D lT ?_;rintro(_) X w z d a;have e:=z.qY;have o:=z.free 192;have h:=z.VU;have u:=z.lt;replace z:=z.fy X.kept;go_wp2;go_end0;exact cF a z D
include hA in
def aau(t:dj)(h:gz E t):qU E t 112 (DZ o t):=by refine dI λf X w R a HS b=>?_;unfold DZ at a;go_enter func112,ntmps112;go_wp21;refine dC (N5 E t) b a HS D lT ?_;rintro(_) f X w b e d a;go_wp21;refine dC (sW E o hA t h) b a HS D lT ?_;rintro(_) f X w b e d a;go_wp2;go_end0;exact cF a b D
def adb(t:dj):qU E t 149 (Wn):=by refine dI λf X w R a HS o=>?_;go_enter func149,ntmps149;have e:=o.qY;have h:=o.free 192;have d:=o.lt;replace o:=o.fy 17;go_wp2;go_end0;exact cF a o D
include hA in
def PE(t:dj)(e:gz E t):qU E t 241 (yH o t):=by refine dI λf X w R a HS A=>?_;unfold yH at a;go_enter func241,ntmps241;have u:=A.qY;have z:=A.free 192;have d:=A.lt;replace A:=A.fy 6;go_wp21;refine dC (sW E o hA t e) A a HS D lT ?_;rintro(_) f X w A b h a;go_wp2;go_end0;exact cF a A D
end
def Leaves.k0{b:Type}{r:pj b}{d:(Nat->Nat)->b->dB}{e:Ending}(h:Leaves E f n U r d e W)(o:Z [] w U):Leaves E f n w r d e W:=by
 cases r with
 |ok a P=>have⟨g,h1,h2,h3,h4,h5⟩:=h;exact⟨g,h1,h2,h3,h4,(Fr.h o).trans h5⟩
 |stop c p=>have⟨k,h1,h2,h3⟩:=h;exact⟨k,h1,h2,(Fr.h o).trans h3⟩
 |stuck=>exact h
def aiq(E:fS)(t:dj):Prop:=∀(bB bD:Nat)(a:kR)(d h o u z A B K b X:dB)(w:J),jE E.bm bB bD a d h o u z A B K b X w->
  dS 258 #[.agg #[d,h,o,u,z,A,B,K,b,X],kP E t] w λe U=>∃v,e=ff v/\mM E.bm bB bD (eI a t) v w/\Z [] w U
def jJ(E:fS)(r:Ru)(t:dj)(m:M Unit):Prop:=∀v f X w,RF E f X w->mM E.bm E.A (f 0) r v w->m X≠ .stuck->
  ∃k bs d,v=.func (.func k) bs d/\(∀a w,(callFunc k a).run prog w=.ok (.enter k a) w)/\dS k (bs++#[kP E t]++d) w (Leaves E f (ln X.d) w (m X) uV)
def CO(a:Ru->dj->M Unit)(m:Nat)(t:dj):M Unit:=match sT[m]? with
 |some sp=>a (eI sp t) t
 |none=>stuck
theorem RF.z(h:RF E f X w){m:Nat}{k:kR}(l:sT[m]?=H k):∃o u z A B K U c g i,jE E.bm E.A (f 0) k o u z A B K U c g i w/\
  (∀j,j<10->w.cell? ⟨E.A,4+m*10+j,F⟩=[o,u,z,A,B,K,U,c,g,i][j]?):=by
 obtain⟨L,rfl,d⟩:=h;have⟨cs,hcs,hlen,hru⟩:=d.env.z;have⟨o,u,z,A,B,K,U,c,g,i,e,hi⟩:=hru m k l;have a0:m<18:=(dG.1 l).1;refine⟨o,u,z,A,B,K,U,c,g,i,?_,?_⟩
 .have a:=d.d.n E.bm;have n:∀{R:Option _} {v:dB},qN E.bm E.A (L.K 0) R v E.L->qN E.bm E.A (L.K 0) R v w:=by
   intro R v h;cases R with
   |none=>exact h
   |some R=>have⟨b,hb⟩:=h;exact⟨b,hb.d a (d.d.calm (.inl hb.at))⟩
  exact⟨hi.blank.d a,hi.fI.d a,hi.dz.d a,hi.eG.d a,hi.dZ.d a,n hi.start,n hi.stop,hi.B.d a,hi.A.d a,hi.l.d a⟩
 intro j p;have⟨Co,hb,hC⟩:=d.dP;rw[aF hb,hC.low _ (by omega),<-e];grind
def afn(E:fS)(B:Ru->dj->M Unit)(t:dj)(C:aiq E t)(I:∀r,jJ E r t (B r t))(m:Nat):pL E 165 (λ_=>#[Bp E,G m,kP E t]) (CO B m t) uV:=by
 intro f X w h o;unfold CO at o|-;cases hm:sT[m]? with
 |none=>rw[hm]at o;exact absurd D o
 |some sp=>
  rw[hm]at o;simp only[]at o|-;have b:m<18:=(dG.1 hm).1;have⟨v0,v1,v2,v3,v4,v5,v6,v7,v8,v9,hi,hc⟩:=h.z hm;have J:w.cell? ⟨E.A,4+m*10,F⟩=H v0:=hc 0 (by decide);have L:w.cell? ⟨E.A,4+m*10+2,F⟩=H v2:=hc 2 (by decide);have N:w.cell? ⟨E.A,4+m*10+8,F⟩=H v8:=hc 8 (by decide);have a1:=h.lt;have i:=C _ _ _ _ _ _ _ _ _ _ _ _ _ w hi;have K:=(λv U (u:Z [] w U) (A:mM E.bm E.A (f 0) (eI sp t) v w)=>I (eI sp t) v f X U (h.h u) (A.d (.h u)) o);generalize hZ:B (eI sp t) t X=a2 at K|-;generalize kP E t=tv at *;go_enter func165,ntmps165;go_wp21;refine i.mono ?_;rintro e w1⟨v,rfl,A,u⟩;obtain⟨k,bs,cs,rfl,a0,d⟩:=K v w1 u A;have q:=d.mono (λe W z=>z.k0 u);go_wp21;refine q.mono ?_;intro e W z;cases a2 with
  |ok a P=>
   obtain⟨g,h1,s,rfl,x,y⟩:=z;go_wp2;go_end0;exact(V ⟨g,h1,s,D,x,y⟩)
  |stop c p=>
   obtain⟨j,rfl,l,n⟩:=z;go_wp2;exact⟨D,nY D l n⟩
  |stuck=>exact z.elim
def nW(o:Nat->dj->M Unit)(t:dj):M Unit:=match t.k with
 | .ic=>aG ()
 |_=>λX=>if X.P&&fG t.d AW then .ok () {X with P:=I,K:=t.a} else jg o t {X with P:=I,K:=t.a}
def adn(s:O):fG s AW=(s.toList==[10]):=by simp[fG]
def So(a b:Int)(w:J):dS 430 #[.agg #[G a,G b]] w (vc w (.tuple #[G a,G b])):=by
 go_enter func430,ntmps430;go_wp21;go_region
 all_goals (try go_wp2)
 all_goals (try go_ret2)
 all_goals exact⟨D,((Z.refl [] w).alloc _).drew⟩
theorem xP(E:fS)(o:Nat->dj->M Unit)(q:FA E o)(t:dj)(l:gz E t)(hk:t.k≠ .ic)(K:kP E t=.iface T v)(k:T≠188)
  (a0:∀w,(Go.method 496 T v "Bytes").run prog w=.ok (430,.agg #[G t.a,G t.b]) w):qU E t 51 (nW o t):=by
 have g:=V (sW E o q t l);unfold qU at g;intro f X w h z;obtain⟨R,d⟩:∃R,R=nW o t X:=⟨_,D⟩;rw[<-d]at z|-;replace d:=d.trans (show nW o t X=if X.P&&fG t.d AW then .ok () {X with P:=I,K:=t.a} else jg o t {X with P:=I,K:=t.a} by grind[nW])
 have HS:=V z;have a3:=V (At.start h);have c1:=a3.out.I2;have a2:=h.lt;have f1:=a3.out.free 198;have f2:=a3.out.free 197;have c2:=a3.out.VV;have cm:=λw=>yJ E t w;simp only[K]at cm g|-;have U:=λ(v:dB) (r:TypeId) (w:J)=>L7 (z:=.agg #[G 0,G 0]) underlying188 D k v r w;have i:=V cm;clear h z cm K l hk k;have j:Hid (∀b,Z [] w (w.alloc b)):=V (λb=>(Z.refl [] w).alloc b);have c:=V (λw=>So (t.a:Int) (t.b:Int) w);replace a3:=V ((a3.out.rT I).k0 ((Z.refl [] _).alloc (dr #[G 0,G 0] 188)));cases hb:X.P with
 |false=>
  have A:R=(jg o t>>=λ_=>(aG ():M Unit)) {X with P:=I,K:=t.a}:=by rw[d,hb,M.bind_pure];rfl
  have u:=V A;rw[hb]at c1;clear d A hb j;go_enter func51,ntmps51;go_wp21;refine(c.out _).mono ?_;rintro e w1⟨rfl,a⟩;replace a3:=V (a3.out.k0 a);clear a;have c3:=a3.out.VV;have f3:=a3.out.free 197;have m:=a3.out.lt;replace a3:=V (a3.out.Ds t.a);go_wp21;refine dC (g.out) a3 u HS D lT ?_;clear a3 u;rintro(_) f X w a3 p n u;go_wp2;go_end0;exact cF u.out a3.out D
 |true=>
  rw[hb]at c1 d;simp only[Bool.true_and]at d;clear hb j;cases hn:fG (dj.d t) AW with
  |false=>
   rw[hn]at d;have A:R=(jg o t>>=λ_=>(aG ():M Unit)) {X with P:=I,K:=t.a}:=by rw[d,M.bind_pure];rfl
   have u:=V A;have a1:=(adn (dj.d t)).symm.trans hn;clear d A hn;go_enter func51,ntmps51;go_wp21;refine(c.out _).mono ?_;rintro e w1⟨rfl,a⟩;replace a3:=V (a3.out.k0 a);clear a;have c3:=a3.out.VV;have f3:=a3.out.free 197;have m:=a3.out.lt;replace a3:=V (a3.out.Ds t.a);go_wp21;refine(i.out _).mono ?_;rintro e w2⟨rfl,B⟩;replace a3:=V (a3.out.k0 B);clear B;go_wp21;refine dC (g.out) a3 u HS D lT ?_;clear a3 u;rintro(_) f X w a3 p n u;go_wp2;go_end0;exact cF u.out a3.out D
  |true=>
   rw[hn]at d;simp only[]at d;have u:=V d;have a1:=(adn (dj.d t)).symm.trans hn;clear d hn;go_enter func51,ntmps51;go_wp21;refine(c.out _).mono ?_;rintro e w1⟨rfl,a⟩;replace a3:=V (a3.out.k0 a);clear a;have c3:=a3.out.VV;have f3:=a3.out.free 197;have m:=a3.out.lt;replace a3:=V (a3.out.Ds t.a);go_wp21;refine(i.out _).mono ?_;rintro e w2⟨rfl,B⟩;replace a3:=V (a3.out.k0 B);clear B;go_wp2;go_end0;exact cF u.out a3.out D
def RF.A(h:RF E f X w):dS 173 #[gU E.A 188] w (JK w (oV f X.last)):=by obtain⟨L,rfl,a⟩:=h;exact Xc a
def RF.al1(h:RF E f X w):dS 263 #[gU E.A 189] w (JK w (G (ln X.B))):=by obtain⟨L,rfl,a⟩:=h;exact aix a
def RF.atA(h:RF E f X w)(n:Int):dS 242 #[gU E.A 189,G n] w (JK w (oV f (dT X.B n))):=by
 obtain⟨L,rfl,a⟩:=h;have⟨Co,hL,hC⟩:=a.I0;have:=KA E.bs E.A 189 _ Co _ _ n w hL
 rwa [x7]at this
def RF.u(h:RF E f X w)(n:Int):dS 242 #[gU E.A 188,G n] w (JK w (oV f (dT X.A n))):=by obtain⟨L,rfl,a⟩:=h;exact ami a n
def RF.alU(h:RF E f X w)(x:fW)(d:X.dO x=C):dS 316 #[gU E.A 188,oV f x] w (JK w (.bool (decide (x∈X.A)))):=by
 obtain⟨L,rfl,a⟩:=h;have⟨Co,hL,hC⟩:=a.yT;have:=aiP E.bs E.A 188 _ Co _ _ _ w hL a.Dr (a.dO d)
 rwa [decide_eq_decide.2 (mem_map a.inj _ x)]at this
def RF.alT(h:RF E f X w)(x:fW)(d:X.dO x=C):dS 316 #[gU E.A 189,oV f x] w (JK w (.bool (decide (x∈X.B)))):=by
 obtain⟨L,rfl,a⟩:=h;have⟨Co,hL,hC⟩:=a.I0;have:=aiP E.bs E.A 189 _ Co _ _ _ w hL a.Dd (a.dO d)
 rwa [decide_eq_decide.2 (mem_map a.inj _ x)]at this
theorem RF.aiy(h:RF E f X w)(n:Int):X.dO (dT X.B n)=C:=by obtain⟨L,rfl,d⟩:=h;unfold dT;by_cases a:0<=n/\n<ln X.B;grind[Wf.B,fk.wf];rw[di a];rfl
def ahc(h:RF E f X w)(x:fW)(d:X.dO x=C):dS 268 #[Bp E,oV f x] w λe U=>e=ff (.bool (X.Qq x))/\U=w:=by
 have o:=h.alU x d;unfold N.Qq;cases x with
 |none=>
  go_enter func268,ntmps268;go_wp2;go_ret;simp
 |some i=>
  have a:oV f (H i)=dq (f i):=rfl;rw[a]at o|-;go_enter func268,ntmps268;go_wp21;refine o.mono ?_;rintro e U⟨rfl,rfl⟩;go_wp2;go_ret;simp
theorem Cl(E:fS)(x:fW):jk E 284 (λf=>#[Bp E,oV f x]) (gN x) uV:=by
 intro f X w ⟨L,e,h⟩ z;subst e;have c0:=h.low (j:=1) (by decide) h.k.2.1;have⟨_,_,_,_,hd,_⟩:=h.k;have a0:=h.W;have o:=(λq=>aix (h.drewN q));unfold gN at z|-;by_cases u:X.R<=ln X.B
 .rw[dw u];have a:=(λq=>Re (h.drewN q) 6);go_enter func284,ntmps284;go_wp21
  go_quiet ((go_at_call 263;exact Ph (o _)))
  go_wp21;refine(a nq).mono ?_;rintro e U⟨k,rfl,A,g⟩;have B:=(Fr.drewN w nq).trans g;go_wp2;exact⟨D,k,D,A,B⟩
 .rw[di u]at z|-;have d:X.dO x=C:=by by_cases d:X.dO x=C;exact d;grind
  rw[dw d];have a:=(λq=>(by show Calls prog 265 #[gU E.A 189,jl (fx L.K x)] (w.drewN q) λe U=>e=pG/\To E L {X with B:=X.B++[x]} (w.drewN q) U;have h:=h.drewN q;have⟨Co,hL,hC⟩:=h.I0;refine(ad4 E.bs E.A 189 _ Co _ _ _ (w.drewN q) hL (by grind) h.bw).mono ?_;grind[fk.GG,Wf.B,fk.wf]))
  go_enter func284,ntmps284;go_wp21
  go_quiet ((go_at_call 263;exact Ph (o _)))
  go_wp21;refine(a nq).mono ?_;rintro e U⟨rfl,b,e1,c,hf⟩;have K:=(Fr.drewN w nq).trans hf;go_wp2;go_end0;exact⟨D,⟨b,e1,c⟩,K,dF _⟩
theorem M.tail{b:Type}{m:M b}{R:pj b}(h:R=m X):R=(m>>=λa=>(aG a:M b)) X:=by grind[bind_pure]
def zT(E:fS):jk E 217 (λ_=>#[Bp E]) (gN F) uV:=by refine mI λf X w R a HS e=>?_;go_enter func217,ntmps217;replace a:=V (M.tail a);go_wp21;refine mC (Cl E F) e a HS D mT ?_;rintro(_) X w e d a;go_wp2;go_end0;exact iw a e D
def U7(E:fS):jk E 283 (λ_=>#[Bp E]) xJ uV:=by
 refine mI λf X w R a HS A=>?_;unfold xJ at a;go_enter func283,ntmps283;go_wp21;refine mC ((show jk E 322 (λf=>#[gU E.A 189,oV f F]) (Ck F) uV by intro f X w ⟨L,e,u⟩ d;subst e;unfold Ck at d|-;by_cases o:X.dO F=C;rw[dw o];exact(agc u F o).mono (λe U h=>h.2.a h.1 (rO _ _ D));rw[di o]at d;exact absurd D d)) A a HS D mT ?_
 rintro(_) X w A z a;go_wp2;go_end0;exact iw a A D
def abp{B:iU}{x:fW}:X.iT ((B++[x]).reverse)=if X.Qq x then ln B+1 else X.iT B.reverse:=by simp[N.iT]
def af9(h:RF E f X w)(x y:fW)(a:qI x y X≠ .stuck):dS 270 #[gU E.A 189,oV f x,oV f y] w λe U=>e=pG/\qI x y X=.ok () {X with B:=oU X.B x y}/\RF E f {X with B:=oU X.B x y} U/\Fr E.bs w U:=by
 have:=aga E x y f X w h a;unfold qI at this a|-;by_cases d:(X.dO x&&X.dO y)=C;rw[dw d]at this|-;exact this.mono (λe U h=>⟨h.1,D,h.2.1,h.2.2.1⟩);rw[di d]at a;exact absurd D a
theorem Uw(B:iU)(x y:fW):ln (oU B x y)=ln B:=by grind[oU]
theorem TA{P:N}(h:j5 j X=.ok () P):P.B=X.B:=by
 unfold j5 at h;rw[M.cW]at h;cases h1:ja X with
 |stuck=>grind
 |stop c p=>grind
 |ok pl σ1=>
  have e1:σ1=X:=by
   unfold ja at h1;cases hl:X.last with
   |none=>grind
   |some i=>
    grind[ol,ny,iS]
  rw[e1]at h1;rw[h1]at h;simp only at h;rw[M.cW]at h;cases h2:jz pl j X with
  |stuck=>grind
  |stop c p=>grind
  |ok u σ2=>
   have e2:σ2.B=X.B:=by unfold jz at h2;split at h2;split at h2;cases h2;rfl;grind;cases h2
   rw[h2]at h;simp only at h;rw[M.cW]at h;cases h3:nK (H j) σ2 with
   |stuck=>grind
   |stop c p=>grind
   |ok u σ3=>
    rw[h3]at h;have a:σ3.B=σ2.B:=by unfold nK at h3;split at h3;cases h3;grind
    have:σ3=P:=by cases h;rfl
    grind
theorem rj(E:fS)(hF:jI E):pL E 184 (λ_=>#[Bp E]) iF uV:=by
 intro f X w s HS;obtain⟨R,Q⟩:∃R,R=iF X:=⟨_,D⟩;rw[<-Q]at HS|-;have r:=At.start s;have W:R=Lz (ln X.B-X.e) X.e X:=Q;have z:=V W;have y:=s.al1;have aq:=s.lt;have aA:ln X.B<=4096:=by have⟨L,_,hr⟩:=s;exact hr.W
 have ar:X.e<=ln X.B:=by
  have:∀B:iU,X.iT B<=ln B:=by
   intro B
   induction B with
   |nil=>simp[N.iT]
   |cons x B ih=>
    show(if X.Qq x then ln B+1 else X.iT B)<=ln B+1;split<;>omega
  have:=this X.B.reverse
  rwa [ak8]at this
 clear Q W;go_enter func184,ntmps184;go_wp21;refine y.mono ?_;rintro e w⟨rfl,rfl⟩;go_wp21;rename_i K a0;have a3:∀(u8 u9 aa ab ac ad ae af ag ah ai aj ak al an:dB),K {tmps:=#[Bp E,qu,G X.e,qu,Bp E,dq E.A,gU E.A 189,G (ln X.B),u8,u9,aa,ab,ac,ad,ae,af,ag,ah,ai,aj,ak,al,an,qu,qu,qu,qu,qu,qu,qu,qu,qu,qu,qu,qu,qu,qu,qu,qu,qu,qu,qu,qu,qu,qu,qu,qu,qu,qu],defers:=[]} w:=by
  intro u8 u9 aa ab ac ad ae af ag ah ai aj ak al an;refine a0 _ _ ?_;have az:=ar;clear a0 y;go_wp21
  go_loopw [2,3] (λv v3 wr=>∃(k n:Nat)(g:Nat->Nat)(h:N),v=G n/\n+k=ln X.B/\At E f (ln X.d) w g h wr/\R=Lz k n h/\(ln h.B)=ln X.B) (λv _ _=> ln X.B-(intOf v).toNat)
  case atStart=>exact⟨ln X.B-X.e,X.e,f,X,D,by omega,r,z,D⟩
  case round=>
   obtain⟨k,n,g,h,rfl,aB,r,T,S⟩:=hrel;have z:=V T;have l:=r.rel.al1;rw[S]at l;have aq:=r.lt;clear T;cases k with
   |zero=>
    have e0:(n:Int)=(ln X.B:Int):=by omega
    have a1:((n:Int)<(ln X.B:Int))=False:=by simp;omega
    go_wp21;refine l.mono ?_;rintro e U⟨rfl,rfl⟩;go_wp2;go_end0;exact cF z r D
   |succ k=>
    have a1:(n:Int)<(ln X.B:Int):=by omega
    have hold:∃a,dT h.B (n:Int)=H a:=by
     cases t:dT h.B (n:Int)with
     |some i=>simp
     |none=>
      exfalso;apply HS;rw[z.out];unfold Lz;rw[M.cW];unfold GW;rw[t]
    have⟨a,hold⟩:=hold;have u:=r.rel.aiy (n:Int);have o:=r.rel.atA (n:Int);rw[hold]at o u;have ap:=V (N.kT u);replace z:Hid (R=(jm a>>=λj=>(do
      j5 j
      oZ a
      Lz k (n+1):M Unit)) h):=by
     refine V (z.trans ?_);show(GW n>>=_) h=_;rw[M.cW];unfold GW;rw[hold]
    clear hold u;go_wp21;refine l.mono ?_;rintro e wr⟨rfl,rfl⟩;go_wp21;refine o.mono ?_;rintro e wr⟨rfl,rfl⟩;rw[show oV g (H a)=dq (g a)from D];clear o l;go_wp21;refine pL.a (NF E a) r z HS D ?_ ?_
    .intro c p j ws C F I;go_wp2;exact⟨D,nY C F I⟩
    rintro j O aw w2 h1 h0 P h3 m;have HX:=V h0;have HJ:Hid (aw.B=h.B):=by unfold jm at m;split at m;split at m;cases m;cases m;rfl;cases m
    clear m;replace r:=h1;replace z:=V h3;clear h1 h0 P h3;go_wp21;refine jk.a (Er E hF j) r z HS D ?_ ?_
    .intro c p j ws C F I;go_wp2;exact⟨D,nY C F I⟩
    rintro⟨⟩ A w3 h1 P h3 m;have ao:Hid (A.B=h.B):=V ((TA m).trans HJ);clear m;replace r:=h1;replace z:=V h3;have ax:=h1.lt;clear h1 P h3;have a8:qI (H a) A.last A≠ .stuck:=by intro av;apply HS;rw[z.out,M.cW];unfold oZ;rw[av]
    have CL:=(r.k0 ((Z.refl _ w3).drew)).rel.A;have a2:=af9 (r.k0 ((Z.refl _ w3).drew)).rel (H a) A.last a8;rw[show oV O (H a)=dq (g a)from by show dq (O a)=_;rw[HX.out a ap.out]]at a2;clear a8;go_wp21
    go_region_with (first
     |(go_at_call 173;refine CL.mono ?_;rintro e w4⟨rfl,rfl⟩)
     |(go_at_call 270;refine a2.mono ?_;rintro e w5⟨rfl,q1,q2,q3⟩;have J:=V ((r.k0 ((Z.refl _ w3).drew)).to q2 (rO _ _ D) q3);have HQ:=V q1;clear q1 q2 q3))
    all_goals (try (go_wp21))
    all_goals refine⟨⟨k,n+1,O,_,by simp,by omega,J,?_,?_⟩,by simp[intOf];omega⟩
    rw[z.out,M.cW];unfold oZ;rw[HQ.out];show ln (oU A.B (H a) A.last)=ln X.B;rw[Uw,ao.out];exact S
 clear a0 r z y
 go_loopw [2] (λv wr=>∃k:Nat,k<=ln X.B/\v=G k/\X.iT (X.B.take k).reverse=X.e/\wr=w) (λv _=>(intOf v).toNat)
 case atStart=>grind[N.e]
 case round=>
  obtain⟨k,hk,rfl,d,rfl⟩:=hrel;cases k with
  |zero=>
   have hz:X.e=0:=by rw[<-d];rfl
   have J:=V hz;clear hz d;go_wp2;have:=a3;rw[J.out]at this;simp_all
  |succ k=>
   have Y:k<ln X.B:=by omega
   have e1:X.B.take (k+1)=X.B.take k++[X.B[k]]:=by rw[IJ,qM Y];rfl
   rw[e1,abp]at d;have t:dT X.B ((k:Int))=X.B[k]:=by unfold dT;rw[dw (by omega)];simp[List.getD,Y]
   have o:=s.atA (k:Int);have u:=s.aiy (k:Int);rw[t]at o u;have q:=ahc s _ u;have e2:((k+1:Nat):Int)-1=(k:Int):=by omega
   have ay:(0:Int)<((k+1:Nat):Int):=by omega
   have a9:ln (X.B.take k)=k:=by simp;omega
   rw[a9]at d;clear e1 t u a9;generalize hM:X.Qq X.B[k]=b at q d;clear hM;generalize oV f X.B[k]=vv at o q;cases b with
   |true=>
    go_wp21;refine o.mono ?_;rintro e w⟨rfl,rfl⟩;go_wp21;refine q.mono ?_;rintro e w⟨rfl,rfl⟩;go_wp21;have:=a3;have au:k+1=X.e:=by simpa using d
    rw[<-au]at this;exact this _ _ _ _ _ _ _ _ _ _ _ _ _ _ _
   |false=>
    go_wp21;refine o.mono ?_;rintro e w⟨rfl,rfl⟩;go_wp21;refine q.mono ?_;rintro e w⟨rfl,rfl⟩;go_wp21;exact⟨⟨k,by omega,D,by simpa using d,trivial⟩,by simp[intOf]⟩
theorem tG(p q:O->Bool)(X:N):iY p q X=.ok (X.gH p q) (X.close p q):=by grind[iY,N.close]
def DX(h:RF E f X w){o u:Nat}{a d:io}{q:O->Bool}(z:Ask E.bm (.func (.func o) #[] a) p w)(A:Ask E.bm (.func (.func u) #[] d) q w):dS 222 #[Bp E,.func (.func o) #[] a,.func (.func u) #[] d] w λe U=>e=ff (.bool (X.gH p q))/\RF E f (X.close p q) U/\Fr E.bs w U:=by
 have:=yK h z A;rw[tG]at this;exact this.mono (λe U h=>⟨h.1,h.2.1,h.2.2.1⟩)
theorem xU(X:N)(p q:O->Bool):ln X.d<=ln (X.close p q).d:=by grind[N.close,N.BE]
def Fi(E:fS)(t:dj)(h:RF E f X w):∃a b d n e,∀w,dS 171 #[kP E t] w (vc w (.agg #[G a,G b,Y t.name,.slice d n e])):=by
 have⟨d,n,e,htv⟩:=h.a;have o:=λw=>AF E t w ⟨d,n,e,htv⟩;have⟨a,b,k,bY⟩:=t;cases k<;>simp[Dy,htv]at o|-
 all_goals exact⟨_,_,_,_,_,o⟩
def P7(E:fS)(t:dj):qU E t 206 (tK):=by
 refine dI λf X w R u HS a1=>?_;unfold tK at u;go_enter func206,ntmps206;have⟨kb,lbb,cb,HQ⟩:=a1.rel.bounds;have B:=a1.lt;have A:=cb;have b:=(Z.refl [] w).drew;replace u:Hid (R=.ok () (X.close (cZ [pg,ph]) (eP))):=by have:=u;rw[M.cW,tG]at this;exact V this
 go_wp21
 go_region_with (first
   |(go_at_call 273;refine(Hs E _).mono ?_;rintro e w1⟨k1,a0,rfl,h,o⟩;have d:=b.trans o;have c1:w1.cell? ⟨E.A,186,F⟩=H (.func (.func kb) #[] lbb):=(d.cell (p:=⟨E.A,186,F⟩) B (by simp)).trans A;have z:=V h;have a:=V d;clear h o d)
   |(go_at_call 222;refine(DX (p:=cZ [pg,ph]) (q:=eP) (a1.k0 a).rel z (HQ.k0 a)).mono ?_;rintro e w2⟨rfl,K,U⟩;have c:=V ((a1.k0 a).to K (xU _ _ _) U);clear K U))
 all_goals (try (go_wp21))
 all_goals go_wp2
 all_goals go_end0
 all_goals exact cF u c D
def Kl(E:fS)(s:O):pL E 213 (λ_=>#[Bp E,Y s]) (oP s) uV:=by
 refine dI λf X w R u HS a1=>?_;unfold oP at u;go_enter func213,ntmps213;have⟨kb,lbb,cb,HQ⟩:=a1.rel.Jz;have B:=a1.lt;have A:=cb;have b:=(Z.refl [] w).drew;replace u:Hid (R=.ok () (X.close (cZ [s]) (kg))):=by have:=u;rw[M.cW,tG]at this;exact V this
 go_wp21
 go_region_with (first
   |(go_at_call 219;refine(lG E [s] w.drew (by simp)).mono ?_;rintro e w1⟨k1,a0,rfl,h,o⟩;have d:=b.trans o;have c1:w1.cell? ⟨E.A,184,F⟩=H (.func (.func kb) #[] lbb):=(d.cell (p:=⟨E.A,184,F⟩) B (by simp)).trans A;have z:=V h;have a:=V d;clear h o d)
   |(go_at_call 222;refine(DX (p:=cZ [s]) (q:=kg) (a1.k0 a).rel z (HQ.k0 a)).mono ?_;rintro e w2⟨rfl,K,U⟩;have c:=V ((a1.k0 a).to K (xU _ _ _) U);clear K U))
 all_goals (try (go_wp21))
 all_goals go_wp2
 all_goals go_end0
 all_goals exact cF u c D
def aaA(E:fS)(t:dj):qU E t 203 (xe):=by
 refine dI λf X w R d HS a2=>?_;unfold xe at d;go_enter func203,ntmps203;have⟨kb,lbb,cb,HQ⟩:=a2.rel.bounds;have U:=a2.lt;have B:=cb;have b:=(Z.refl [] w).drew;go_wp21
 go_cut [11]from 4 to 10 (λr wc=>r=.bool (X.gH (cZ [aO]) (eP))/\At E f (ln X.d) w f (X) wc)
 case first=>
  go_region_with (first
   |(go_at_call 219;refine(lG E [aO] w.drew (by simp)).mono ?_;rintro e w1⟨k1,a1,rfl,o,u⟩;have h:=b.trans u;have c1:w1.cell? ⟨E.A,186,F⟩=H (.func (.func kb) #[] lbb):=(h.cell (p:=⟨E.A,186,F⟩) U (by simp)).trans B;have A:=V o;have a:=V h;clear o u h)
   |(go_at_call 232;refine(vE (a2.k0 a).rel (cZ [aO]) (eP) _ _ A (HQ.k0 a)).mono ?_;rintro e w2⟨rfl,z⟩;have c:=V ((a2.k0 a).k0 z);clear z))
  all_goals (try (go_wp21))
  all_goals (go_meet;exact⟨D,c⟩)
 case rest=>
  obtain⟨rfl,K⟩:=hcut;replace a2:=K;cases hc:X.gH (cZ [aO]) eP with
  |true=>
   replace d:Hid (R=.ok () {X with g:=16}):=by have:=d;rw[dw hc]at this;exact V this
   have c2:=a2.qY;have f2:=a2.free 192;have a0:=a2.lt;replace a2:=a2.fy 16;go_wp2;go_end0;exact cF d a2 D
  |false=>
   replace d:Hid (R=.ok () X):=by have:=d;rw[di (by simp[hc])]at this;exact V this
   go_wp2;go_end0;exact cF d a2 D
def aaD(E:fS)(o:Nat->dj->M Unit)(i:FA E o)(t:dj)(j:gz E t):qU E t 204 (xg o t):=by
 refine dI λf X w R a HS a2=>?_;unfold xg at a;go_enter func204,ntmps204;have⟨kb,lbb,cb,HQ⟩:=a2.rel.bounds;have U:=a2.lt;have B:=cb;have c:=(Z.refl [] w).drew;go_wp21
 go_cut [11]from 4 to 10 (λr wc=>r=.bool (X.gH (cZ [aO]) (eP))/\At E f (ln X.d) w f (X) wc)
 case first=>
  go_region_with (first
   |(go_at_call 219;refine(lG E [aO] w.drew (by simp)).mono ?_;rintro e w1⟨k1,a1,rfl,b,u⟩;have h:=c.trans u;have c1:w1.cell? ⟨E.A,186,F⟩=H (.func (.func kb) #[] lbb):=(h.cell (p:=⟨E.A,186,F⟩) U (by simp)).trans B;have A:=V b;have d:=V h;clear b u h)
   |(go_at_call 232;refine(vE (a2.k0 d).rel (cZ [aO]) (eP) _ _ A (HQ.k0 d)).mono ?_;rintro e w2⟨rfl,z⟩;have g:=V ((a2.k0 d).k0 z);clear z))
  all_goals (try (go_wp21))
  all_goals (go_meet;exact⟨D,g⟩)
 case rest=>
  obtain⟨rfl,K⟩:=hcut;replace a2:=K;cases hc:X.gH (cZ [aO]) eP with
  |true=>
   replace a:Hid (R=(jg o t>>=λ_=>(aG ():M Unit)) {X with g:=16}):=by have:=a;rw[dw hc]at this;exact V this
   have c2:=a2.qY;have f2:=a2.free 192;have a0:=a2.lt;replace a2:=a2.fy 16;go_wp21;refine dC (sW E o i t j) a2 a HS D lT ?_;rintro(_) f X w a2 l k a;go_wp2;go_end0;exact cF a a2 D
  |false=>
   replace a:Hid (R=.ok () X):=by have:=a;rw[di (by simp[hc])]at this;exact V this
   go_wp2;go_end0;exact cF a a2 D
def qG(E:fS)(b:jI E)(t:dj)(h:gz E t):qU E t 116 (jB t):=by refine dI λf X w R a HS o=>?_;go_enter func116,ntmps116;go_wp21;refine dC (rj E b) o a HS D lT ?_;rintro(_) f X w o e d a;go_wp21;refine dC (jC E b t h) o a HS D lT ?_;rintro(_) f X w o e d a;go_wp2;go_end0;exact cF a o D
def UO(E:fS)(b:jI E)(t:dj)(h:gz E t):qU E t 198 (vK t):=by refine dI λf X w R a HS o=>?_;go_enter func198,ntmps198;go_wp21;refine dC (rj E b) o a HS D lT ?_;rintro(_) f X w o e d a;go_wp21;refine dC (vk E b t h) o a HS D lT ?_;rintro(_) f X w o e d a;go_wp2;go_end0;exact cF a o D
def PN(E:fS)(b:jI E)(t:dj):qU E t 114 (jL t):=by
 refine dI λf X w R a HS z=>?_;unfold jL at a;go_enter func114,ntmps114;have u:=KO E t w;cases hn:kN t.d with
 |true=>
  rw[hn]at u a;replace a:Hid (R=.ok () X):=a;go_wp21;refine u.mono ?_;rintro e w⟨rfl,d⟩;replace z:=z.k0 d;go_wp2;go_end0;exact cF a z D
 |false=>
  rw[hn]at u a;replace a:=a;go_wp21;refine u.mono ?_;rintro e w⟨rfl,d⟩;replace z:=z.k0 d;go_wp21;refine dC (rj E b) z a HS D lT ?_;rintro(_) f X w z o h a;go_wp21;refine dC (vj E b t) z a HS D lT ?_;rintro(_) f X w z o h a;go_wp2;go_end0;exact cF a z D
def JY(E:fS)(b:jI E)(t:dj):qU E t 140 (qt t):=by
 refine dI λf X w R a HS z=>?_;unfold qt at a;go_enter func140,ntmps140;have u:=KO E t w;cases hn:kN t.d with
 |true=>
  rw[hn]at u a;replace a:Hid (R=.ok () X):=a;go_wp21;refine u.mono ?_;rintro e w⟨rfl,d⟩;replace z:=z.k0 d;go_wp2;go_end0;exact cF a z D
 |false=>
  rw[hn]at u a;replace a:Hid (R=(gh t>>=λ_=>(pure ():M Unit)) X):=a;go_wp21;refine u.mono ?_;rintro e w⟨rfl,d⟩;replace z:=z.k0 d;go_wp21;refine dC (vj E b t) z a HS D lT ?_;rintro(_) f X w z o h a;go_wp2;go_end0;exact cF a z D
def LU(E:fS)(b:jI E)(t:dj)(z:gz E t):qU E t 189 (oG t):=by refine dI λf X w R a HS U=>?_;unfold oG at a;go_enter func189,ntmps189;go_wp21;refine As (λu=>xS U.rel u) U a HS lT ?_;rintro(_) X w U o a;go_wp21;refine(Hs E _).mono ?_;rintro e w⟨K,A,rfl,d,h⟩;replace U:=U.k0 h;go_wp21;refine As (λ_=>vp U.rel d) U a HS lT ?_;rintro(_) X w U o a;go_wp21;refine dC (jC E b t z) U a HS D lT ?_;rintro(_) f X w U B o a;go_wp2;go_end0;exact cF a U D
def abD(E:fS)(b:jI E)(t:dj)(h:gz E t):qU E t 190 (zd t):=by refine dI λf X w R a HS u=>?_;unfold zd at a;go_enter func190,ntmps190;go_wp21;refine As (λe=>xS u.rel e) u a HS lT ?_;rintro(_) X w u d a;go_wp21;refine dC (vk E b t h) u a HS D lT ?_;rintro(_) f X w u o d a;go_wp2;go_end0;exact cF a u D
def Nr(E:fS)(b:jI E)(t:dj)(u:gz E t):qU E t 196 (nZ t):=by refine dI λf X w R a HS K=>?_;unfold nZ at a;go_enter func196,ntmps196;go_wp21;refine(lG E [dJ] _ (by decide)).mono ?_;rintro e w⟨B,z,rfl,d,h⟩;replace K:=K.k0 h;go_wp21;refine As (λ_=>vp K.rel d) K a HS lT ?_;rintro(_) X w K o a;go_wp21;refine dC (qG E b t u) K a HS D lT ?_;rintro(_) f X w K A o a;go_wp2;go_end0;exact cF a K D
def zN(E:fS)(b:jI E)(t:dj)(u:gz E t):qU E t 141 (jW t):=by refine dI λf X w R a HS K=>?_;unfold jW at a;go_enter func141,ntmps141;go_wp21;refine(tQ E _).mono ?_;rintro e w⟨B,z,rfl,d,h⟩;replace K:=K.k0 h;go_wp21;refine As (λ_=>vp K.rel d) K a HS lT ?_;rintro(_) X w K o a;go_wp21;refine dC (jC E b t u) K a HS D lT ?_;rintro(_) f X w K A o a;go_wp2;go_end0;exact cF a K D
def su(E:fS)(c:jI E)(t:dj)(A:gz E t):qU E t 142 (iI t):=by refine dI λf X w R a HS a0=>?_;unfold iI at a;go_enter func142,ntmps142;go_wp21;refine(tQ E _).mono ?_;rintro e w⟨b,B,rfl,d,o⟩;replace a0:=a0.k0 o;go_wp21;refine As (λ_=>vp a0.rel d) a0 a HS lT ?_;rintro(_) X w a0 z a;go_wp21;refine(qB E _).mono ?_;rintro e w⟨k2,K,rfl,h,u⟩;replace a0:=a0.k0 u;go_wp21;refine As (λ_=>vp a0.rel h) a0 a HS lT ?_;rintro(_) X w a0 z a;go_wp21;refine dC (jC E c t A) a0 a HS D lT ?_;rintro(_) f X w a0 U z a;go_wp2;go_end0;exact cF a a0 D
def Fc(E:fS)(b:jI E)(t:dj)(e:gz E t):qU E t 143 (mu t):=by refine dI λf X w R a HS o=>?_;unfold mu at a;go_enter func143,ntmps143;go_wp21;refine dC (su E b t e) o a HS D lT ?_;rintro(_) f X w o h d a;go_wp21;refine mC (Df E) o a HS D lT ?_;rintro(_) X w o d a;go_wp2;go_end0;exact cF a o D
def Bw(E:fS)(t:dj):qU E t 146 (mB):=by refine dI λf X w R a HS A=>?_;unfold mB at a;go_enter func146,ntmps146;go_wp21;refine(tQ E _).mono ?_;rintro e w⟨z,o,rfl,d,h⟩;replace A:=A.k0 h;go_wp21;refine As (λ_=>vp A.rel d) A a HS lT ?_;rintro(_) X w A u a;go_wp2;go_end0;exact cF a A D
def Nq(E:fS)(b:jI E)(t:dj)(e:gz E t):qU E t 202 (qh t):=by refine dI λf X w R a HS o=>?_;unfold qh at a;go_enter func202,ntmps202;go_wp21;refine dC (qG E b t e) o a HS D lT ?_;rintro(_) f X w o h d a;go_wp21;refine mC (zT E) o a HS D lT ?_;rintro(_) X w o d a;go_wp2;go_end0;exact cF a o D
def LS(E:fS)(c:jI E)(t:dj)(u:gz E t):qU E t 120 (oF t):=by refine dI λf X w R a HS a0=>?_;unfold oF at a;go_enter func120,ntmps120;go_wp21;refine(O1 E _).mono ?_;rintro e w⟨b,z,rfl,d,h⟩;replace a0:=a0.k0 h;go_wp21;refine As (λ_=>FI a0.rel d) a0 a HS lT ?_;rintro(_) X w a0 o a;go_wp21;refine mC (zT E) a0 a HS D lT ?_;rintro(_) X w a0 o a;go_wp21;refine dC (jC E c t u) a0 a HS D lT ?_;rintro(_) f X w a0 A o a;have B:=a0.qY;have K:=a0.free 192;have U:=a0.lt;replace a0:=a0.fy 9;go_wp2;go_end0;exact cF a a0 D
def aaE(E:fS)(t:dj):qU E t 207 (A6):=by
 refine dI λf X w R B HS a1=>?_;unfold A6 at B;go_enter func207,ntmps207;go_wp21;refine(lG E [eN] _ (by decide)).mono ?_;rintro e w⟨k1,b,rfl,a,d⟩;replace a1:=a1.k0 d;go_wp21;refine((show Calls prog 279 #[Bp E] w (xM E aiN w) by
   have⟨kb,lbb,cb,HB⟩:=a1.rel.bounds;have U:=a1.rel.lt;have g:=cb;have c:=lG E [iK] w.drew (by decide);go_enter func279,ntmps279;go_wp21
   go_region_with (first
    |(go_at_call 219;refine c.mono ?_;rintro e w1⟨k1,b,rfl,z,d⟩;have c1:w1.cell? ⟨E.A,186,F⟩=H (.func (.func kb) #[] lbb):=(d.cell (p:=⟨E.A,186,F⟩) U (by simp)).trans g;have a:=V z;have u:=V d;clear z d)
    |(go_at_call 239;refine(Xe E _ _ _ _ _ (HB.k0 (((Z.refl _ w).drew).trans u)) a).mono ?_;rintro e w2⟨k2,a0,rfl,A,h⟩;have o:=V A;have K:=V ((((Z.refl _ w).drew).trans u).trans h);clear A h))
   all_goals go_wp2
   all_goals go_ret
   all_goals exact⟨_,_,D,o,K⟩)).mono ?_
 rintro e w⟨k2,a0,rfl,o,h⟩;replace a1:=a1.k0 h;replace a:=a.k0 h;go_wp21;refine As (λ_=>yK a1.rel a o) a1 B HS lT ?_;rintro(_) X w a1 i B;go_wp2;go_end0;exact cF B a1 D
def Wq(E:fS)(b:jI E)(t:dj):qU E t 209 (uy):=by refine dI λf X w R a HS h=>?_;unfold uy at a;go_enter func209,ntmps209;go_wp21;refine dC (rj E b) h a HS D lT ?_;rintro(_) f X w h e d a;go_wp21;refine dC (uo E b iC) h a HS D lT ?_;rintro(_) f X w h e d a;go_wp21;refine mC (Df E) h a HS D lT ?_;rintro(_) X w h d a;go_wp2;go_end0;exact cF a h D
section
attribute [local go_sem] db
def pF(f:FuncId):Fence.wide.fn f=True:=rfl
attribute [local go_sem] pF
attribute [local simp] pF
theorem Es:∀{B:iU},(∀y∈B,y≠H it/\eP (X.l7 y)=I)->X.nF it B=I
 |[],_=>rfl
 |x::B,h=>by unfold N.nF;have⟨h1,h2⟩:=h x (by simp);rw[di h1,h2];exact Es λy a=>h y (by grind)
theorem Eu{r:Bool}(a:(y=H it/\r=C)\/(y≠H it/\eP (X.l7 y)=C/\r=I)):∀{B:iU},(∀y∈B,y≠H it/\eP (X.l7 y)=I)->X.nF it (B++[y]++rest)=r
 |[],_=>by grind[N.nF]
 |x::B,h=>by show X.nF it (x::(B++[y]++rest))=r;unfold N.nF;have⟨h1,h2⟩:=h x (by simp);rw[di h1,h2];exact Eu a λy d=>h y (by grind)
theorem H8(h:RF E f X w)(m:Nat)(aa:X.dO (H m)=C):dS 281 #[Bp E,nV f m] w (vc w (.bool (X.nD m))):=by
 obtain⟨L,rfl,o⟩:=h;have⟨fb,ab,lb0,cb,hb⟩:=o.bounds;have⟨kb,lbb,eb,heb,H2⟩:=hb.call;cases eb;refine(AU (n:=3)).1 ?_;refine AV func281 D trivial ?_ D;simp only[ntmps281,wL,uJ,uY,Nat.reduceAdd,Nat.reduceSub,wM,wN,wO,wP,tA,tf];obtain⟨w1,b⟩:∃w1,w1=((w.alloc (dr #[Bp E] 119)).alloc (dr #[dq (L.K m)] 68)).alloc (dr #[.bool I] 4):=⟨_,D⟩;have a6:Z [] w w1:=by rw[b];exact(((Z.refl _ _).alloc _).alloc _).alloc _
 have⟨b0,b1,b2⟩:=oH w (dr #[Bp E] 119) (dr #[dq (L.K m)] 68) (dr #[.bool I] 4);rw[<-b]at b0 b1 b2;have a:zq w1.heap=zq w.heap+1+1+1:=by rw[b];simp
 have ae:=o.h a6;have⟨Co,HL,hC⟩:=ae.yT;have ac:=o.lt;have HU:=Ga E.bs E.A 188 _ Co _ _ w1 HL;have a8:=(λ(W:J) (z:Z [] w W)=>(z.cell (p:=⟨E.A,186,F⟩) ac (by simp)).trans cb);have HO:=(λg (n:L.P.ownBlock=H g)=>Do o.R n);have HN:=(λ(W:J) (z:Z [] w W) (i:Nat) (e:mh) (Q:X.h i=H e)=>(o.h z).uR Q);have HS:=(λ(y:fW) (k:y∈X.A)=>o.nJ k);have HI:=o.inj;have Y:=(λ(W:J) (z:Z [] w W) (x:fW) (hx:X.dO x=C)=>(o.h z).dO hx);have M:=V a;have HW:=V b;clear a b
 gi_wp2_with fail
 rw[<-HW.out];refine(callsIn_wide.2 HU).mono ?_;rintro e U⟨rfl,rfl⟩;gi_wp2;refine ZK (by omega) (f:=fx L.K) (λx y e=>ri HI e) HL D [zq w.heap+1+1] ?_
  (λpre W=>Z [] w W/\W.heap[zq w.heap]?=H (dr #[Bp E] 119)/\W.heap[zq w.heap+1]?=H (dr #[dq (L.K m)] 68)/\W.heap[zq w.heap+1+1]?=H (dr #[.bool I] 4)/\∀y∈pre,y≠H m/\eP (X.l7 y)=I)
  (λc pre W=>c=.ret/\Z [] w W/\∃d y r,pre=d++[y]/\(∀y∈d,y≠H m/\eP (X.l7 y)=I)/\((y=H m/\r=C)\/(y≠H m/\eP (X.l7 y)=C/\r=I))/\W.heap[zq w.heap+1+1]?=H (dr #[.bool r] 4))
  ?_ ?_ ?_ (λx=>{tmps:=#[Bp E,dq (L.K m),dq w.heap.size,dq (zq w.heap+1),dq (zq w.heap+1+1),jl x,Bp E,dq E.A,gU E.A 188,uH w1.heap.size,jl x,qu,qu,qu,qu,qu,qu,qu,qu,qu,qu,qu,qu,qu,qu],defers:=[]}) ?assign ?body ?done ?stop
 grind;rintro s A B ag⟨h1,P,h3,p,t⟩ n o;have a:=M.out;exact⟨km h1 n o (by omega),jd P n o (by omega),jd h3 n o (by omega),jd p n o (by omega),t⟩;rintro c s A B ag⟨h0,h1,d,y,r,P,h3,p,t⟩ n o;have a:=M.out;exact⟨h0,km h1 n o (by omega),d,y,r,P,h3,p,jd t n o (by omega)⟩;have z:Z [] w1 (kH E.A 188 (ln X.A) w1):=((Z.refl _ _).alloc _).alloc _;exact⟨a6.trans z,z.at b0 (by simp),z.at b1 (by simp),z.at b2 (by simp),by simp⟩
 case assign=>
  intro l x W j v;gi_wp2;exact v
 case body=>
  rintro l pre y W k⟨u,T,B3,G,R⟩;obtain⟨i,e0,rfl,Q⟩:=HS y k;have c0:=HN W u i e0 Q;have cB:=a8 W u;have c1:=aF T 0;have c2:=aF B3 0;have c3:=aF G 0;have f3:=cY G 0;dsimp at c1 c2 c3;have HB:=(λK (z:Z [] w K)=>H2 K (.h z) (X.nm i));have HT:Hid (∀(q:Nat)(r:Bool),Z [zq w.heap+1+1] W ((W.drewN q).setCell ⟨zq w.heap+1+1,0,F⟩ (.bool r))/\Z [] w ((W.drewN q).setCell ⟨zq w.heap+1+1,0,F⟩ (.bool r))/\((W.drewN q).setCell ⟨zq w.heap+1+1,0,F⟩ (.bool r)).heap[zq w.heap+1+1]?=H (dr #[.bool r] 4)):=λq r=>⟨((Z.refl _ W).drewN q).setCell (.inl (by simp)) _,(u.drewN q).setCell (.inr (by simp;omega)) _,bH (show(W.drewN q).heap[zq w.heap+1+1]?=_ from G) 0 _⟩;have a9:Hid (∀(r:Bool),Z [zq w.heap+1+1] W (W.setCell ⟨zq w.heap+1+1,0,F⟩ (.bool r))/\Z [] w (W.setCell ⟨zq w.heap+1+1,0,F⟩ (.bool r))/\(W.setCell ⟨zq w.heap+1+1,0,F⟩ (.bool r)).heap[zq w.heap+1+1]?=H (dr #[.bool r] 4)):=λr=>⟨(Z.refl _ W).setCell (.inl (by simp)) _,u.setCell (.inr (by simp;omega)) _,bH G 0 _⟩;have a1:=Cx (Y W u (H i) (by show(X.h i).isSome=C;rw[Q];rfl)) (Y W u (H m) aa);rw[show ptr (fx L.K (H i))=H ⟨L.K i,0,F⟩from D,show ptr (fx L.K (H m))=H ⟨L.K m,0,F⟩from D]at a1
  try dsimp only
  rw[show jl (fx L.K (H i))=dq (L.K i)from D];by_cases a2:i=m
  .subst a2;rw[sx D]at a1;gi_wp2;have⟨t1,t2,t3⟩:=a9.out C;exact⟨t1,D,t2,pre,H i,C,D,R,.inl ⟨D,D⟩,t3⟩
  .have ad:L.K i≠L.K m:=λe=>a2 (HI _ _ e);have a4:(H i:fW)≠H m:=λe=>a2 (jS e);rw[yx (by simpa using ad)]at a1;gi_wp2;refine AA l (by kernel_rfl) (by kernel_rfl) (by rfl) ?_
   repeat (gi_big_quiet_step ((exact callsIn_wide.2 (Ph (HB _ (u.drewN _))))))
   refine wpQuietIn_nil ?_;intro _ af;have⟨nq,hw''⟩:=af;subst hw'';cases hq:eP (X.nm i)with
   |true=>
    gi_wp2;have⟨t1,t2,t3⟩:=HT.out nq I;exact⟨t1,D,t2,pre,H i,I,D,R,.inr ⟨a4,hq,D⟩,t3⟩
   |false=>
    have HQ:=hq;gi_wp2;refine⟨(Z.refl _ W).drewN nq,u.drewN nq,T,B3,G,λy k=>?_⟩;rcases dA.1 k with k|k;exact R y k;rw[cC.1 k];exact⟨a4,HQ⟩
 case done=>
  rintro O W S⟨u,P,h3,p,t⟩ v;have a:=M.out;have c3:=aF p 0;have f3:=cY p 0;dsimp at c3;have a3:X.nD m=I:=Es (λy k=>t y k);clear a;gi_wp2;have a5:=(ZV W ⟨zq w.heap+1+1,0,F⟩ (.bool I)).same O _ v D;refine⟨by simp,.inl ⟨_,_,D,ru a5,?_⟩⟩;have a0:=cell_kept (World.cell?_setCell_same' W ⟨zq w.heap+1+1,0,F⟩ (.bool I) (by rw[c3];rfl)) (AR _ O (.deferred F)) (λr e=>by cases e;exact⟨_,a5,D⟩);refine⟨.bool I,?_,⟨by rw[a3],?_⟩⟩
  .simp[results,results281,go_sem,a0]
  have a:=M.out;have hD:=S;exact(u.setCell (.inr (by simp;omega)) _).take (by omega) _
 case stop=>
  rintro O c pre W S a7⟨rfl,u,d,y,r,rfl,h3,p,t⟩ v;have⟨rest,hrest⟩:=a7;have a3:X.nD m=r:=by unfold N.nD;rw[<-hrest];exact Eu p h3
  have c3:=aF t 0;dsimp at c3;gi_wp2;refine⟨by simp,.inl ⟨_,_,D,ru v,?_⟩⟩;have a0:=cell_kept c3 (AR _ O (.deferred F)) (λr e=>by cases e;exact⟨_,v,D⟩);refine⟨.bool r,?_,⟨by rw[a3],?_⟩⟩
  .simp[results,results281,go_sem,a0]
  have a:=M.out;have hD:=S;exact u.take (by omega) _
end
theorem M6(s:O)(w:J):dS 289 #[Y s] w (JK w (G (de s))):=by
 have a:de s=if (s.toList==[116,100]||s.toList==[116,104])then 13 else if s.toList==[116,114]then 12 else if (s.toList==[116,98,111,100,121]||(s.toList==[116,104,101,97,100]||s.toList==[116,102,111,111,116]))then 11 else if s.toList==[99,97,112,116,105,111,110]then 9 else if s.toList==[99,111,108,103,114,111,117,112]then 10 else if s.toList==[116,97,98,108,101]then 7 else 6:=by unfold de cZ fG;simp only[List.any_cons,List.any_nil,Bool.or_false,th]
 rw[a];go_enter func289,ntmps289;go_wp2
 all_goals go_ret
 all_goals refine⟨?_,D⟩
 all_goals simp_all
attribute [local go_sem] db
theorem Z.both{a:J}(h:Z [] a w)(A:a.heap[b]?=H (dr c t))(j:Nat)(v:dB):Z [] (a.setCell ⟨b,j,F⟩ v) (w.setCell ⟨b,j,F⟩ v):=by
 have u:=(Z.refl [b] a).setCell (p:=⟨b,j,F⟩) (.inl (by simp)) v;have z:=(Z.refl [b] w).setCell (p:=⟨b,j,F⟩) (.inl (by simp)) v;have e:zq (a.setCell ⟨b,j,F⟩ v).heap=zq a.heap:=by simp
 have o:zq (w.setCell ⟨b,j,F⟩ v).heap=zq w.heap:=by simp
 refine⟨z.os.trans (h.os.trans u.os.symm),z.tape.trans (h.tape.trans u.tape.symm),z.output.trans (h.output.trans u.output.symm),by rw[e,o];exact h.size,λk B _=>?_⟩;by_cases d:k=b;subst d;exact(bH (h.at A (by simp)) j v).trans (bH A j v).symm;grind[block]
theorem LF:∀{B:iU},(∀y∈B,de (X.l7 y)=6)->jq X B=6
 |[],_=>rfl
 |x::B,h=>by unfold jq;rw[dw (h x (by simp))];exact LF λy a=>h y (by grind)
theorem LG(a:de (X.l7 y)≠6):∀{B:iU},(∀y∈B,de (X.l7 y)=6)->jq X (B++[y]++rest)=de (X.l7 y)
 |[],_=>by grind[jq]
 |x::B,h=>by show jq X (x::(B++[y]++rest))=_;unfold jq;rw[dw (h x (by simp))];exact LG a λy d=>h y (by grind)
theorem Zf(h:RF E f X w):dS 224 #[Bp E] w (iW E f (ln X.d) w (Dm X) uV):=by
 obtain⟨L,rfl,o⟩:=h;refine(AU (n:=3)).1 ?_;refine AV func224 D trivial ?_ D;simp only[ntmps224,wL,uJ,uY,Nat.reduceAdd,Nat.reduceSub,wM,wN,wO,wP,tA,tf];have ai:=o.lt;have cm:=o.qY;have fm:=o.free 192;have ad:=o.fy 6;have ac:Fr E.bs w (w.setCell ⟨E.A,192,F⟩ (G ((6:Nat)))):=(At.start ⟨L,D,o⟩).a 192 _;obtain⟨u,j⟩:∃u,u=(w.setCell ⟨E.A,192,F⟩ (G 6)).alloc (dr #[Bp E] 119):=⟨_,D⟩;have R:Z [] (w.setCell ⟨E.A,192,F⟩ (G 6)) u:=by rw[j];exact(Z.refl _ _).alloc _
 have b0:u.heap[zq w.heap]?=H (dr #[Bp E] 119):=by
  rw[j];have:=aY (w.setCell ⟨E.A,192,F⟩ (G 6)) (dr #[Bp E] 119)
  simpa using this
 have a0:zq u.heap=zq w.heap+1:=by rw[j];simp
 have d:=ad.h R;have⟨Co,HL,hC⟩:=d.yT;have HU:=Ga E.bs E.A 188 _ Co _ _ u HL;have HO:=(λg (q:L.P.ownBlock=H g)=>Do o.R q);have HN:=(λ(W:J) (hk:Z [] u W) (i:Nat) (e:mh) (N:X.h i=H e)=>(show W.cell? ⟨L.K i,0,F⟩=H (Y (X.nm i))from(d.h hk).uR (U:={X with g:=6}) N));have HS:=(λ(y:fW) (r:y∈X.A)=>o.nJ r);have T:=o.inj;have HM:=(λ(W:J) (hk:Z [] u W)=>(⟨(d.h hk).qY,(d.h hk).free 192,(d.h hk).lt⟩:_/\_/\_));have a1:=V d;have Q:=ac.trans (.h R);have a9:=HL.dP;have ag:=o.d.size;clear d;have P:=V a0;have HW:=V j;clear a0 j
 gi_wp2_with fail
 rw[<-HW.out];refine⟨trivial,(callsIn_wide.2 HU).mono ?_⟩;rintro e U⟨rfl,rfl⟩;gi_wp2;refine Fu (by omega) (f:=fx L.K) (λx y e=>ri T e) HL D [] [E.A] (by simp) (by grind)
  (λpre W=>Z [] u W/\∀y∈pre,de (X.l7 y)=6)
  (λc pre W=>c=.ret/\∃a y,pre=a++[y]/\(∀y∈a,de (X.l7 y)=6)/\de (X.l7 y)≠6/\Z [] (u.setCell ⟨E.A,192,F⟩ (G (de (X.l7 y)))) W)
  ?_ ?_ ?_ (λx=>{tmps:=#[Bp E,dq w.heap.size,jl x,qu,Bp E,dq E.A,gU E.A 192,Bp E,dq E.A,gU E.A 188,uH u.heap.size,jl x,qu,qu,qu,qu,qu,qu,qu,qu,qu,qu,qu],defers:=[]}) ?assign ?body ?done ?stop
 rintro s A B ae⟨z,k⟩ q o;exact⟨km z q o (by omega),k⟩;rintro c s A B ae⟨h0,a,y,h2,h3,M,k⟩ q o;exact⟨h0,a,y,h2,h3,M,km k q o (by simp)⟩;grind[Z.alloc,Z.refl]
 case assign=>
  intro l x W K p;gi_wp2;exact p
 case body=>
  rintro l pre y W r⟨z,S⟩;obtain⟨i,e0,rfl,N⟩:=HS y r;have c0:=HN W z i e0 N;have c1:=aF (z.at b0 (by simp)) 0;dsimp at c1;have⟨c2,f2,hl2⟩:=HM W z;have O:=(λW=>M6 (X.nm i) W);have n:=V z;have HT:=(λv=>(Z.refl [E.A] W).setCell (p:=⟨E.A,192,F⟩) (.inl (by simp)) v);have ah:=(λv=>z.both a9 192 v);clear z
  try dsimp only
  rw[show jl (fx L.K (H i))=dq (L.K i)from D];obtain⟨m,a2⟩:∃m,m=de (X.nm i):=⟨_,D⟩;rw[<-a2]at O;have af:Hid (de (X.l7 (H i))=m):=V a2.symm;clear a2
  gi_wp2_with (first|(refine⟨trivial,?_⟩;refine(uK l (callsIn_wide.2 (O _))).mono ?_;rintro e W⟨rfl,rfl⟩))
  rename_i a3;have a7:m≠6:=by intro e;subst e;simp at a3
  refine⟨HT _,D,pre,H i,D,S,by grind[Hid.out],?_⟩;grind[Hid.out];rename_i a3;have a7:m=6:=by
   have:¬((m:Int)≠6):=by simpa using a3
   omega
  refine⟨Z.refl _ _,n.out,λy r=>?_⟩;grind[Hid.out]
 case done=>
  rintro I W t⟨z,k⟩ p;have C:Dm X=.ok () {X with g:=6}:=by show pj.ok () {X with g:=jq X X.A.reverse}=_;rw[LF k]
  rw[C];have n:=V z;clear z k;gi_wp2;refine⟨by simp,.inl ⟨_,_,D,ru p,?_⟩⟩;have a0:=P.out;have hD:=t;have b:=n.out.take (bF:=I) (by omega) (.deferred F);exact⟨_,II D _ _ _,D,⟨L,D,a1.out.h b⟩,Q.trans (.h b),dF _⟩
 case stop=>
  rintro I c pre W t a8⟨rfl,a,y,rfl,h3,M,k⟩ p;have⟨rest,hrest⟩:=a8;have C:Dm X=.ok () {X with g:=de (X.l7 y)}:=by show pj.ok () {X with g:=jq X X.A.reverse}=_;rw[<-hrest,LG M h3]
  rw[C];have ab:=a1.out.fy (de (X.l7 y));have aa:Fr E.bs u (u.setCell ⟨E.A,192,F⟩ (G (de (X.l7 y)))):=(At.start ⟨L,D,a1.out⟩).a 192 _;have n:=V k;clear k;gi_wp2;refine⟨by simp,.inl ⟨_,_,D,ru p,?_⟩⟩;have a0:=P.out;have hD:=t;have b:=n.out.take (bF:=I) (by simp;omega) (.deferred F);exact⟨_,II D _ _ _,D,⟨L,D,ab.h b⟩,(Q.trans aa).trans (.h b),dF _⟩
section
attribute [local go_sem] db
attribute [local go_sem] pF
attribute [local simp] pF
def N.dP(X:N)(pre:iU)(b:fW):fW:=pre.foldl (λb y=>if kg (X.l7 y)then y else b) b
theorem JS:∀{B:iU} {b:fW},(∀y∈B,y≠H it)->X.uO it B b=X.dP B b
 |[],_,_=>rfl
 |x::B,b,h=>by unfold N.uO;rw[di (h x (by simp))];exact JS λy a=>h y (by grind)
theorem JT:∀{B:iU} {b:fW},(∀y∈B,y≠H it)->X.uO it (B++[H it]++rest) b=X.dP B b
 |[],b,_=>by grind[N.uO,N.dP]
 |x::B,b,h=>by show X.uO it (x::(B++[H it]++rest)) b=_;unfold N.uO;rw[di (h x (by simp))];exact JT λy a=>h y (by grind)
def Sl(X:N)(pre:iU)(y b:fW):X.dP (pre++[y]) b=if kg (X.l7 y)then y else X.dP pre b:=by simp[N.dP]
theorem MJ(h:RF E f X w)(m:Nat)(a6:X.dO (H m)=C):dS 347 #[Bp E,nV f m] w (vc w (oV f (X.pO m))):=by
 obtain⟨L,rfl,d⟩:=h;have⟨fb,ab,lb0,cb,hb⟩:=d.Jz;have⟨kb,lbb,eb,heb,H2⟩:=hb.call;cases eb;refine(AU (n:=3)).1 ?_;refine AV func347 D trivial ?_ D;simp only[ntmps347,wL,uJ,uY,Nat.reduceAdd,Nat.reduceSub,wM,wN,wO,wP,tA,tf];obtain⟨w1,k⟩:∃w1,w1=((w.alloc (dr #[Bp E] 119)).alloc (dr #[dq (L.K m)] 68)).alloc (dr #[.pointer F] 68):=⟨_,D⟩;have a3:Z [] w w1:=by rw[k];exact(((Z.refl _ _).alloc _).alloc _).alloc _
 have⟨b0,b1,b2⟩:=oH w (dr #[Bp E] 119) (dr #[dq (L.K m)] 68) (dr #[.pointer F] 68);rw[<-k]at b0 b1 b2;have o:zq w1.heap=zq w.heap+1+1+1:=by rw[k];simp
 have a9:=d.h a3;have⟨Co,HL,hC⟩:=a9.yT;have a7:=d.lt;have HU:=Ga E.bs E.A 188 _ Co _ _ w1 HL;have a5:=(λ(W:J) (z:Z [] w W)=>(z.cell (p:=⟨E.A,184,F⟩) a7 (by simp)).trans cb);have HO:=(λg (n:L.P.ownBlock=H g)=>Do d.R n);have HN:=(λ(W:J) (z:Z [] w W) (i:Nat) (e:mh) (O:X.h i=H e)=>(d.h z).uR O);have HS:=(λ(y:fW) (t:y∈X.A)=>d.nJ t);have HI:=d.inj;have Y:=(λ(W:J) (z:Z [] w W) (x:fW) (hx:X.dO x=C)=>(d.h z).dO hx);have I:=V o;have HW:=V k;clear o k
 gi_wp2_with fail
 rw[<-HW.out];refine(callsIn_wide.2 HU).mono ?_;rintro e U⟨rfl,rfl⟩;gi_wp2;refine Fu (by omega) (f:=fx L.K) (λx y e=>ri HI e) HL D [zq w.heap+1+1] [] ?_ (by simp)
  (λpre W=>Z [] w W/\W.heap[zq w.heap]?=H (dr #[Bp E] 119)/\W.heap[zq w.heap+1]?=H (dr #[dq (L.K m)] 68)/\W.heap[zq w.heap+1+1]?=H (dr #[oV L.K (X.dP pre F)] 68)/\∀y∈pre,y≠H m)
  (λc pre W=>c=.exit 0/\Z [] w W/\∃a,pre=a++[H m]/\(∀y∈a,y≠H m)/\W.heap[zq w.heap+1+1]?=H (dr #[oV L.K (X.dP a F)] 68))
  ?_ ?_ ?_ (λx=>{tmps:=#[Bp E,dq (L.K m),dq w.heap.size,dq (zq w.heap+1),.pointer F,dq (zq w.heap+1+1),jl x,Bp E,dq E.A,gU E.A 188,uH w1.heap.size,jl x,qu,qu,qu,qu,qu,qu,qu,qu,qu,qu,qu,qu,qu,qu],defers:=[]}) ?assign ?body ?done ?stop
 grind;rintro s A B ac⟨h1,M,h3,S,p⟩ n d;have o:=I.out;exact⟨km h1 n d (by omega),jd M n d (by omega),jd h3 n d (by omega),jd S n d (by omega),p⟩;rintro c s A B ac⟨h0,h1,a,M,h3,p⟩ n d;have o:=I.out;exact⟨h0,km h1 n d (by omega),a,M,h3,jd p n d (by omega)⟩;have z:Z [] w1 (kH E.A 188 (ln X.A) w1):=((Z.refl _ _).alloc _).alloc _;exact⟨a3.trans z,z.at b0 (by simp),z.at b1 (by simp),z.at b2 (by simp),by simp⟩
 case assign=>
  intro l x W j G;gi_wp2;exact G
 case body=>
  rintro l pre y W t⟨u,P,B3,v,B5⟩;obtain⟨i,e0,rfl,O⟩:=HS y t;have c0:=HN W u i e0 O;have cB:=a5 W u;have c1:=aF P 0;have c2:=aF B3 0;have c3:=aF v 0;have f3:=cY v 0;dsimp at c1 c2 c3;have HB:=(λK (z:Z [] w K)=>H2 K (.h z) (X.nm i));have HT:Hid (∀(q:Nat)(r:dB),Z [zq w.heap+1+1] W ((W.drewN q).setCell ⟨zq w.heap+1+1,0,F⟩ r)/\Z [] w ((W.drewN q).setCell ⟨zq w.heap+1+1,0,F⟩ r)/\((W.drewN q).setCell ⟨zq w.heap+1+1,0,F⟩ r).heap[zq w.heap+1+1]?=H (dr #[r] 68)/\((W.drewN q).setCell ⟨zq w.heap+1+1,0,F⟩ r).heap[zq w.heap]?=H (dr #[Bp E] 119)/\((W.drewN q).setCell ⟨zq w.heap+1+1,0,F⟩ r).heap[zq w.heap+1]?=H (dr #[dq (L.K m)] 68)):=λq r=>
   have T:=((Z.refl [zq w.heap+1+1] W).drewN q).setCell (p:=⟨zq w.heap+1+1,0,F⟩) (.inl (by simp)) r
   ⟨T,(u.drewN q).setCell (.inr (by simp;omega)) _,bH (show(W.drewN q).heap[zq w.heap+1+1]?=_ from v) 0 _,T.at P (by simp;omega),T.at B3 (by simp)⟩
  have a1:=Cx (Y W u (H i) (by show(X.h i).isSome=C;rw[O];rfl)) (Y W u (H m) a6);rw[show ptr (fx L.K (H i))=H ⟨L.K i,0,F⟩from D,show ptr (fx L.K (H m))=H ⟨L.K m,0,F⟩from D]at a1
  try dsimp only
  rw[show jl (fx L.K (H i))=dq (L.K i)from D];by_cases a2:i=m
  .subst a2;rw[sx D]at a1;gi_wp2;exact⟨Z.refl _ _,D,u,pre,D,B5,v⟩
  .have a8:L.K i≠L.K m:=λe=>a2 (HI _ _ e);have ad:(H i:fW)≠H m:=λe=>a2 (jS e);rw[yx (by simpa using a8)]at a1;gi_wp2;refine AA l (by kernel_rfl) (by kernel_rfl) (by rfl) ?_
   repeat (gi_big_quiet_step ((exact callsIn_wide.2 (Ph (HB _ (u.drewN _))))))
   refine wpQuietIn_nil ?_;intro _ aa;have⟨nq,hw''⟩:=aa;subst hw'';cases hq:kg (X.nm i)with
   |true=>
    have R:=V hq;clear hq;gi_wp2;have⟨t1,t2,t3,t4,t5⟩:=HT.out nq (dq (L.K i));refine⟨t1,t2,t4,t5,?_,λy t=>?_⟩;rw[Sl,show X.l7 (H i)=X.nm i from D,R.out];exact t3;grind
   |false=>
    have R:=V hq;clear hq;gi_wp2;refine⟨(Z.refl _ W).drewN nq,u.drewN nq,P,B3,?_,λy t=>?_⟩;rw[Sl,show X.l7 (H i)=X.nm i from D,R.out];exact v;grind
 case done=>
  rintro ae W Q⟨u,M,h3,S,p⟩ G;have c3:=aF S 0;dsimp at c3;have b:X.pO m=X.dP X.A.reverse F:=JS (λy t=>p y t);have a0:=V b;clear b;gi_wp2;refine⟨by simp,.inl ⟨_,_,D,ru G,?_⟩⟩;have o:=I.out;have hD:=Q;exact⟨_,results_tmp D _ _ _,by rw[a0.out];rfl,u.take (by omega) _⟩
 case stop=>
  rintro ae c pre W Q a4⟨rfl,u,a,rfl,h3,p⟩ G;have⟨rest,hrest⟩:=a4;have b:X.pO m=X.dP a F:=by unfold N.pO;rw[<-hrest];exact JT h3
  have a0:=V b;have c3:=aF p 0;dsimp at c3;clear b;gi_wp2;refine⟨by simp,.inl ⟨_,_,D,ru G,?_⟩⟩;have o:=I.out;have hD:=Q;exact⟨_,results_tmp D _ _ _,by rw[a0.out];rfl,u.take (by omega) _⟩
end
attribute [local go_sem] db
theorem Ho:∀{B:iU},(∀y∈B,(!fG (X.l7 y) aH)=C\/y=dT X.A 0)->oq X B=F
 |[],_=>rfl
 |x::B,h=>by unfold oq;rw[dw (by grind)];exact Ho λy a=>h y (by grind)
theorem Hp(a:¬((!fG (X.l7 y) aH)=C\/y=dT X.A 0)):∀{B:iU},(∀y∈B,(!fG (X.l7 y) aH)=C\/y=dT X.A 0)->oq X (B++[y]++rest)=H y
 |[],_=>by grind[oq]
 |x::B,h=>by show oq X (x::(B++[y]++rest))=H y;unfold oq;rw[dw (by grind)];exact Hp a λy d=>h y (by grind)
def De{a:J}{s:Nat}(h:Z [] W a)(z:Z [] w W)(o:zq w.heap<=s)(u:a.heap[s]?=H (dr #[.pointer F,G 0] 231))(d e:dB):Z [s] W ((a.setCell ⟨s,0,F⟩ d).setCell ⟨s,1,F⟩ e)/\Z [] w ((a.setCell ⟨s,0,F⟩ d).setCell ⟨s,1,F⟩ e)/\((a.setCell ⟨s,0,F⟩ d).setCell ⟨s,1,F⟩ e).heap[s]?=H (dr #[d,e] 231):=
 ⟨((h.mono (by simp)).setCell (.inl (by simp)) _).setCell (.inl (by simp)) _,(((z.trans h)).setCell (.inr o) _).setCell (.inr o) _,bH (bH u 0 d) 1 e⟩
def abc{a:J}{s:Nat}(u:Z [] W a)(A:Z [] w W)(z:zq w.heap<=s)(h:a.heap[s]?=H (dr #[.pointer F,G 0] 231))(d e:dB)(o:Obj):Z [s] W (((a.setCell ⟨s,0,F⟩ d).setCell ⟨s,1,F⟩ e).alloc o)/\Z [] w (((a.setCell ⟨s,0,F⟩ d).setCell ⟨s,1,F⟩ e).alloc o)/\(((a.setCell ⟨s,0,F⟩ d).setCell ⟨s,1,F⟩ e).alloc o).heap[s]?=H (dr #[d,e] 231):=by
 have⟨h1,h2,h3⟩:=De u A z h d e;exact⟨h1.alloc _,h2.alloc _,((Z.refl [] _).alloc o).at h3 (by simp)⟩
theorem fk.isNd{E:fS}{L:pi}{X:N}{w:J}(h:fk E L X w){k:Nd}(hk:X.q k=C):Bt w (Nd.map L.K k):=by
 cases k with
 |el i=>have⟨e,he⟩:=Option.isSome_iff_exists.1 hk;exact⟨_,(h.zI he).dP⟩
 |tx i=>
  simp[N.q]at hk;split at hk;rename_i s hs;exact⟨_,h.B i _ hs⟩;grind
 |cm i=>
  simp[N.q]at hk;split at hk;rename_i s hs;exact⟨_,h.B i _ hs⟩;grind
 |dt i=>
  simp[N.q]at hk;split at hk;rename_i s hs;exact⟨_,h.B i _ hs⟩;grind
theorem eK(E:fS):jI E:=by
 intro f X w h z;have az:∃pl,gJ X=.ok pl X:=by
  cases o:gJ X with
  |ok pl σ1=>exact⟨pl,by rw[ny o]⟩
  |stop c p=>
   exfalso;unfold gJ at o;split at o;split at o;unfold kL at o;split at o;split at o;grind;split at o;unfold fM at o;grind;grind;grind;cases o;split at o;unfold fM at o;grind;grind;grind
  |stuck=>grind
 have⟨pl0,hpl0⟩:=az;have aa:X.Fh=C:=by
  cases ht:X.Fh with
  |true=>rfl
  |false=>unfold gJ at hpl0;grind
 rw[hpl0];obtain⟨L,rfl,u⟩:=h;refine(AU (n:=3)).1 ?_;refine AV func261 D trivial ?_ D;simp only[ntmps261,wL,uJ,uY,Nat.reduceAdd,Nat.reduceSub,wM,wN,wO,wP,tA,tf];have aM:=u.lt;obtain⟨j,a0⟩:∃j,j=(w.alloc (dr #[Bp E] 119)).alloc (dr #[.pointer F,G 0] 231):=⟨_,D⟩;have an:Z [] w j:=by rw[a0];exact((Z.refl _ _).alloc _).alloc _
 have aK:j.heap[zq w.heap]?=H (dr #[Bp E] 119):=by
  have:=(ue w (dr #[Bp E] 119) (dr #[.pointer F,G 0] 231)).1
  rwa [<-a0]at this
 obtain⟨w1,ab⟩:∃w1,w1=j.alloc (dr #[oV L.K (dT X.A 0)] 68):=⟨_,D⟩;have av:Z [] w w1:=by rw[ab];exact an.alloc _
 have⟨b0,b1,b2⟩:=oH w (dr #[Bp E] 119) (dr #[.pointer F,G 0] 231) (dr #[oV L.K (dT X.A 0)] 68);rw[<-a0,<-ab]at b0 b1 b2;have af:zq j.heap=zq w.heap+1+1:=by rw[a0];simp
 have a1:zq w1.heap=zq w.heap+1+1+1:=by rw[ab];simp[af]
 have CA:=ami (u.h an) 0;have aP:=u.h av;have⟨Co,HL,hC⟩:=aP.yT;have HU:=Ga E.bs E.A 188 _ Co _ _ w1 HL;have HO:=(λg (r:L.P.ownBlock=H g)=>Do u.R r);have HN:=(λ(W:J) (d:Z [] w W) (i:Nat) (e:mh) (T:X.h i=H e)=>(u.h d).uR T);have HS:=(λ(y:fW) (Y:y∈X.A)=>u.nJ Y);have HI:=V u.inj;have HE:=(λ(W:J) (d:Z [] w W) (x:fW) (hx:X.dO x=C)=>(u.h d).dO hx);have HZ:=V a1;have ai:=V af;have aE:=V a0;have HW:=V ab;clear a1 ab af a0;have aR:j.cell? ⟨zq w.heap,0,F⟩=H (Bp E):=by rw[aF aK];rfl
 have aT:E.A<zq j.heap:=kQ aM an.size;have aU:zq w.heap<zq j.heap:=by have:=ai.out;omega
 gi_wp2_with fail
 rw[<-aE.out];refine⟨trivial,(callsIn_wide.2 CA).mono ?_⟩;rintro e j⟨rfl,rfl⟩
 gi_wp2_with fail
 rw[<-HW.out];refine⟨trivial,(callsIn_wide.2 HU).mono ?_⟩;rintro e U⟨rfl,rfl⟩;gi_wp2;refine Fu (by omega) (f:=fx L.K) (λx y e=>ri HI.out e) HL D [] [zq w.heap+1] (by simp) (by grind)
  (λpre W=>Z [] w W/\W.heap[zq w.heap]?=H (dr #[Bp E] 119)/\W.heap[zq w.heap+1]?=H (dr #[.pointer F,G 0] 231)/\W.heap[zq j.heap]?=H (dr #[oV L.K (dT X.A 0)] 68)/\∀y∈pre,(!fG (X.l7 y) aH)=C\/y=dT X.A 0)
  (λc pre W=>c=.ret/\Z [] w W/\∃b i pl,pre=b++[H i]/\(∀y∈b,(!fG (X.l7 y) aH)=C\/y=dT X.A 0)/\¬((!fG (X.l7 (H i)) aH)=C\/H i=dT X.A 0)/\kL i X=.ok pl X/\W.heap[zq w.heap+1]?=H (dr #[dq (L.K pl.1),G pl.2] 231))
  ?_ ?_ ?_ (λx=>{tmps:=#[Bp E,dq w.heap.size,dq (zq w.heap+1),dq j.heap.size,jl x,qu,qu,Bp E,dq E.A,gU E.A 188,oV L.K (dT X.A 0),Bp E,dq E.A,gU E.A 188,uH w1.heap.size,jl x,qu,qu,qu,qu,qu,qu,qu,qu,qu,qu,qu,qu,qu,qu,qu,qu,qu,qu,qu,qu,qu,qu,qu,qu,qu],defers:=[]}) ?assign ?body ?done ?stopx
 rintro s A B aQ⟨h1,v,h3,P,Q⟩ r R;have a1:=HZ.out;have af:=ai.out;exact⟨km h1 r R (by omega),jd v r R (by omega),jd h3 r R (by omega),jd P r R (by omega),Q⟩;rintro c s A B aQ⟨h0,h1,b,i,pl,v,h3,P,Q,h6⟩ r R;have a1:=HZ.out;exact⟨h0,km h1 r R (by omega),b,i,pl,v,h3,P,Q,jd h6 r R (by omega)⟩;have d:Z [] w1 (kH E.A 188 (ln X.A) w1):=((Z.refl _ _).alloc _).alloc _;refine⟨av.trans d,d.at b0 (by simp),d.at b1 (by simp),?_,by simp⟩;rw[ai.out];exact d.at b2 (by simp)
 case assign=>
  intro l x W m S;gi_wp2;exact S
 case body=>
  rintro l pre y W Y⟨n,v,B3,B4,B5⟩;obtain⟨i,e0,rfl,T⟩:=HS y Y;have k:=u.h n;have c0:=HN W n i e0 T;have c1:W.cell? ⟨zq w.heap,0,F⟩=H (Bp E):=by rw[aF v];rfl
  have c2:W.cell? ⟨zq j.heap,0,F⟩=H (oV L.K (dT X.A 0)):=by rw[aF B4];rfl
  have a4:(binOp .eql 68 (dq (L.K i)) (oV L.K (dT X.A 0))).run prog W=.ok (.bool (decide (H i=dT X.A 0))) W:=by
   have aL:X.dO (dT X.A 0)=C:=by
    unfold dT;by_cases hn:(0:Int)<=0/\(0:Int)<ln X.A;rw[dw hn];have aw:0<ln X.A:=by omega
    show X.dO (X.A.getD 0 F)=C;rw[Ce,qM aw];exact N.vm (k.wf.A _ (uI aw));rw[di hn];rfl
   have a4:=Cx (HE W n (H i) (by show(X.h i).isSome=C;rw[T];rfl)) (HE W n _ aL);rw[decide_eq_decide.2 (⟨λe=>ri HI.out e,λe=>by rw[e]⟩:fx L.K (H i)=fx L.K (dT X.A 0)↔H i=dT X.A 0)]at a4;exact a4
  have ae:fG (X.l7 (H i)) aH=((X.nm i).toList==[116,97,98,108,101]):=by show fG (X.nm i) _=_;unfold fG;rw[th aH]
  have B2:=V v;have a2:=V T;clear v T
  try dsimp only
  rw[show jl (fx L.K (H i))=dq (L.K i)from D];cases htb:((X.nm i).toList==[116,97,98,108,101])with
  |false=>
   rw[htb]at ae;have HG:Hid ((!fG (X.l7 (H i)) aH)=C\/H i=dT X.A 0):=V (.inl (by rw[ae];rfl));have aA:((X.nm i).toList != [116,97,98,108,101])=C:=by simp[bne,htb]
   gi_wp2;refine⟨Z.refl _ _,n,B2.out,B3,B4,λy Y=>?_⟩;grind
  |true=>
   rw[htb]at ae;have aA:((X.nm i).toList != [116,97,98,108,101])=I:=by simp[bne,htb]
   by_cases a6:H i=dT X.A 0
   .rw[sx a6]at a4;have HG:Hid ((!fG (X.l7 (H i)) aH)=C\/H i=dT X.A 0):=V (.inr a6);gi_wp2;refine⟨Z.refl _ _,n,B2.out,B3,B4,λy Y=>?_⟩;grind
   .rw[yx a6]at a4;have HG:Hid (¬((!fG (X.l7 (H i)) aH)=C\/H i=dT X.A 0)):=V (by rw[ae];simp[a6]);have au:(kL i X).isOk=C:=by have:=dm.1 aa (H i) Y;simp only[Bool.or_eq_true,zC]at this;rcases this with(h|h)|h;exfalso;have e:fG (X.l7 (H i)) aH=fG (X.nm i) aH:=rfl;grind;exact absurd h a6;exact h
    cases hp:e0.E with
    |some p=>
     have a3:∃t,X.h p=H t/\0<=oS t.q (Nd.dO i)/\kL i X=.ok (p,(oS t.q (Nd.dO i)).toNat) X:=by
      have d:=au;unfold kL at d|-;rw[a2.out]at d|-;simp only[hp]at d|-;cases o:X.h p with
      |none=>rw[o]at d;simp[pj.isOk]at d
      |some t=>
       simp only[o]at d|-;by_cases ay:0<=oS t.q (Nd.dO i);grind;rw[di ay]at d;simp[pj.isOk]at d
     have⟨t,a3,ay,hfa⟩:=a3;have CF:Calls prog 315 #[dq (L.K i)] W λe' U=>e'=ff (.tuple #[.agg #[dq (L.K p),G (oS t.q (Nd.dO i))],.bool C])/\fk E L X U/\Z [] W U:=by have hE:=k.zI a2.out;rw[hp]at hE;refine(aaR E.bs _ _ _ _ _ _ _ _ _ _ _ W hE (k.zI a3) ?_).mono ?_;grind[fk.isNd,Wf.q,fk.wf];rintro e' U⟨rfl,d⟩;exact⟨by rw[Ub k.inj],k.h d,d⟩
     obtain⟨q,o⟩:∃q:Nat,oS t.q (Nd.dO i)=(q:Int):=⟨(oS t.q (Nd.dO i)).toNat,by omega⟩;rw[o]at CF hfa;have ag:Hid (kL i X=.ok (p,q) X):=V (by rw[hfa];rfl);clear hfa
     gi_wp2_with fail
     refine⟨trivial,(uK l (callsIn_wide.2 CF)).mono ?_⟩;rintro e M⟨rfl,ao,aq⟩;have a:=aq.at B3 (by simp);have d0:M.cell? ⟨zq w.heap+1,0,F⟩=H (.pointer F):=by rw[aF a];rfl
     have d1:M.cell? ⟨zq w.heap+1,1,F⟩=H (G 0):=by rw[aF a];rfl
     have g0:=cY a 0;have g1:=cY a 1;have aS:zq w.heap+1<zq M.heap:=fp a;have ac:=V a;gi_wp2;have⟨t1,t2,t3⟩:=abc aq n (jR _) ac.out (dq (L.K p)) (G q) (dr #[dq (L.K p),G q] 231);exact⟨t1,D,t2,pre,i,(p,q),D,B5,HG.out,ag.out,t3⟩
    |none=>
     have a3:∃q e,dT X.A (jf X.A (H i)-1)=H q/\X.h q=H e/\kL i X=.ok (q,ln e.q) X:=by
      have d:=au;unfold kL at d|-;rw[a2.out]at d|-;simp only[hp]at d|-;cases o:dT X.A (jf X.A (H i)-1)with
      |none=>rw[o]at d;simp[pj.isOk]at d
      |some q=>
       simp only[o]at d|-;unfold fM at d|-;cases hq2:X.h q with
       |none=>rw[hq2]at d;simp[pj.isOk]at d
       |some e=>grind
     have⟨q,eq,ak,a5,hfa⟩:=a3;have CF:Calls prog 315 #[dq (L.K i)] W λe' U=>e'=ff (.tuple #[.agg #[.pointer F,G 0],.bool I])/\fk E L X U/\Z [] W U:=by have hE:=k.zI a2.out;rw[hp]at hE;refine(adB E.bs _ _ _ _ _ W hE).mono ?_;grind[fk.h]
     have ag:=V hfa;have aB:=(λ(K:J) (d:Z [] W K)=>(show Calls prog 240 #[gU E.A 188,dq (L.K i)] K (λe U=>e=ff (dq (L.K q))/\U=K)from by
      have:=yX (k.h d) (H i) (by show(X.h i).isSome=C;rw[a2.out];rfl)
      rwa [ak]at this))
     have CE:=(λ(K:J) (d:Z [] W K)=>US (k.h d) a5);clear hfa
     gi_wp2_with fail
     refine⟨trivial,(uK l (callsIn_wide.2 CF)).mono ?_⟩;rintro e M⟨rfl,ao,al⟩;have ah:Z [] W (M.alloc (dr #[.pointer F,G 0] 231)):=al.alloc _;have e1:M.cell? ⟨zq w.heap,0,F⟩=H (Bp E):=by rw[aF (al.at B2.out (by simp))];rfl
     have aW:zq w.heap<zq M.heap:=fp (al.at B2.out (by simp))
     gi_wp2_with fail
     refine⟨trivial,(uK l (callsIn_wide.2 (aB _ ah))).mono ?_⟩;rintro e W3⟨rfl,rfl⟩
     gi_wp2_with fail
     refine⟨trivial,(uK l (callsIn_wide.2 (CE _ ah))).mono ?_⟩;rintro e W4⟨rfl,ap,a8⟩;have ad:=ah.trans a8;have a:=ad.at B3 (by simp);have d0:W4.cell? ⟨zq w.heap+1,0,F⟩=H (.pointer F):=by rw[aF a];rfl
     have d1:W4.cell? ⟨zq w.heap+1,1,F⟩=H (G 0):=by rw[aF a];rfl
     have g0:=cY a 0;have g1:=cY a 1;have ac:=V a;gi_wp2;have⟨t1,t2,t3⟩:=De ad n (jR _) ac.out (dq (L.K q)) (G (ln eq.q));exact⟨t1,D,t2,pre,i,(q,ln eq.q),D,B5,HG.out,ag.out,t3⟩
 case done=>
  rintro O W HD⟨n,v,B3,P,Q⟩ S;have a7:∃q e,dT X.A 0=H q/\X.h q=H e/\pl0=(q,ln e.q):=by
   have o:=hpl0;unfold gJ at o;rw[dw aa,Ho Q]at o;simp only at o;cases r:dT X.A 0 with
   |none=>grind
   |some q=>
    rw[r]at o;simp only at o;unfold fM at o;grind
  obtain⟨q,eq,ak,a5,rfl⟩:=a7;have c2:W.cell? ⟨zq j.heap,0,F⟩=H (dq (L.K q)):=by rw[aF P,ak];rfl
  have CE:=US (u.h n) a5;clear v
  gi_wp2_with fail
  refine⟨trivial,(callsIn_wide.2 CE).mono ?_⟩;rintro e W4⟨rfl,ap,a8⟩;have a:=a8.at B3 (by simp);have d0:W4.cell? ⟨zq w.heap+1,0,F⟩=H (.pointer F):=by rw[aF a];rfl
  have d1:W4.cell? ⟨zq w.heap+1,1,F⟩=H (G 0):=by rw[aF a];rfl
  have g0:=cY a 0;have g1:=cY a 1;have ar:=(a8.block O (dD.1 S).1 (by simp)).trans S;have⟨t1,T2,T3⟩:=De a8 n (jR _) a (dq (L.K q)) (G (ln eq.q));have ac:=V a;have ad:=((((Z.refl [zq w.heap+1] W4).setCell (p:=⟨zq w.heap+1,0,F⟩) (.inl (by simp)) (dq (L.K q))).setCell (p:=⟨zq w.heap+1,1,F⟩) (.inl (by simp)) (G (ln eq.q))).block O (dD.1 ar).1 (by have:=HZ.out;grind)).trans ar;gi_wp2;refine⟨by simp,.inl ⟨_,_,D,ru ad,?_⟩⟩;have a1:=HZ.out;have hD:=HD;have aj:(World.putObj _ O (.deferred F)).heap[zq w.heap+1]?=_:=(td (by omega)).trans T3;have a9:=T2.take (bF:=O) (by omega) (.deferred F);refine⟨pV L.K (q,ln eq.q),?_,D,⟨L,D,u.h a9⟩,.h a9,dF _⟩;simp[results,results261,asAddr,da,go_sem,aF aj]
 case stopx=>
  rintro O c pre W HD ax⟨rfl,n,b,i,pl,rfl,h3,P,Q,T3⟩ S;have a7:pl0=pl:=by have⟨rest,hrest⟩:=ax;have o:=hpl0;unfold gJ at o;rw[dw aa,<-hrest,Hp P h3]at o;simp only at o;rw[Q]at o;cases o;rfl
  subst a7;gi_wp2;refine⟨by simp,.inl ⟨_,_,D,ru S,?_⟩⟩;have a1:=HZ.out;have hD:=HD;have aj:(World.putObj _ O (.deferred F)).heap[zq w.heap+1]?=_:=(td (by omega)).trans T3;have a9:=n.take (bF:=O) (by omega) (.deferred F);refine⟨pV L.K pl0,?_,D,⟨L,D,u.h a9⟩,.h a9,dF _⟩;simp[results,results261,asAddr,da,go_sem,aF aj]
def aba(E:fS)(t:dj):jJ E .eW t (aG ()):=by intro v f X w h a d;refine⟨91,#[],#[],a,enters_of func91 (rfl) D,?_⟩;unfold dS;go_wp2;go_end0;exact cF D (At.start h) D
def Qy(E:fS)(t:dj)(k:Nat)(m:M Unit)(d:∀a w,(callFunc k a).run prog w=.ok (.enter k a) w)(h:pL E k (λ_=>#[Bp E,kP E t]) m uV):jJ E (.dX k) t m:=by intro v f X w e u o;exact⟨k,#[fc E.A],#[],u,d,h f X w e o⟩
theorem xm(E:fS)(r:Ru)(t:dj):jJ E r t stuck:=λ_ _ _ _ _ _ a=>absurd D a
def S0(d f l a:Nat):N:={d:=[.el ⟨⟨#[]⟩,[],F,[]⟩],A:=[],B:=[],head:=F,j:=F,g:=0,kept:=0,L:=[],U:=I,W:=I,K:=a,P:=I,a:=⟨#[]⟩,S:=I,E:=I,Q:=d,R:=f,T:=l}
def Wm(t:Addr)(w:J):(ie (.iface 83 (.pointer (H t)))).run prog w
  =.ok (.agg #[gU 7 83,dq w.heap.size,.int .u64 150]) (w.alloc (.cells #[.pointer (H t)] 83)):=by kernel_rfl
def XC(t:Addr)(w:J):(ie (.iface 78 (.pointer (H t)))).run prog w
  =.ok (.agg #[gU 7 78,dq w.heap.size,.int .u64 150]) (w.alloc (.cells #[.pointer (H t)] 78)):=by kernel_rfl
def agQ(a:Addr)(w:J):(mA (ga "reflectlite.Value.Type" 0) (λt _ _ _=>mK t) #[.agg #[gU 7 83,.pointer (H a),.int .u64 150]]).run prog w
  =.ok (.iface 143 (.agg #[gU 7 83])) w:=rfl
def ah1(a:Addr)(w:J):(mA (ga "reflectlite.Value.Type" 0) (λt _ _ _=>mK t) #[.agg #[gU 7 78,.pointer (H a),.int .u64 150]]).run prog w
  =.ok (.iface 143 (.agg #[gU 7 78])) w:=rfl
def Zn(h:dB)(w:J):(Go.method 496 143 (.agg #[h]) "Kind").run prog w=.ok (401,h) w:=by kernel_rfl
def Zm(h:dB)(w:J):(Go.method 496 143 (.agg #[h]) "Elem").run prog w=.ok (422,.agg #[h]) w:=by kernel_rfl
def Ca(h:dB)(w:J):(Go.method 496 143 (.agg #[h]) "Implements").run prog w=.ok (423,.agg #[h]) w:=by kernel_rfl
def B9(h:dB)(w:J):(Go.method 496 143 (.agg #[h]) "AssignableTo").run prog w=.ok (420,.agg #[h]) w:=by kernel_rfl
def Ni(v:dB)(w:J):(Go.method 496 143 v "Comparable").run prog w=.ok (421,v) w:=by kernel_rfl
def ac9(w:J):((je λt=>(λa:Nat=>dv IntKind.u8 (a:Int)) <$> Rtype.kind t) #[gU 7 83]).run prog w=.ok (.int .u8 22) w:=by kernel_rfl
def agP(w:J):((je λt=>(λa:Nat=>dv IntKind.u8 (a:Int)) <$> Rtype.kind t) #[gU 7 22]).run prog w=.ok (.int .u8 2) w:=by kernel_rfl
def afa(w:J):((je λt=>(λa:Nat=>dv IntKind.u8 (a:Int)) <$> Rtype.kind t) #[gU 7 78]).run prog w=.ok (.int .u8 22) w:=by kernel_rfl
def ah0(w:J):((je λt=>(λa:Nat=>dv IntKind.u8 (a:Int)) <$> Rtype.kind t) #[gU 7 76]).run prog w=.ok (.int .u8 22) w:=by kernel_rfl
def QJ(z:Sem dB)(f:TypeId->Addr->Nat->Nat->Sem dB)(v:dB):gv z f #[v]=(do match <-gd v with|none=>z|some (t,a,fl)=>f t a fl (fl%32)):=rfl
def N0(a:Addr)(w:J):(gd (.agg #[gU 7 83,.pointer (H a),.int .u64 150])).run prog w=.ok (H (83,a,150)) w:=rfl
def OV(a:Addr)(w:J):(gd (.agg #[gU 7 78,.pointer (H a),.int .u64 150])).run prog w=.ok (H (78,a,150)) w:=rfl
def ac8(a p:Addr)(W:J)(d:W.cell? a=H (.pointer (H p))):(gv (ga "reflectlite.Value.IsNil" 0) ix #[.agg #[gU 7 83,.pointer (H a),.int .u64 150]]).run prog W=.ok (.bool I) W:=by
 rw[QJ];simp only[GK,N0,da];simp[ix,loadVar,isAgg,underlying,underlying83,d,da]
def ae9(a p:Addr)(W:J)(d:W.cell? a=H (.pointer (H p))):(gv (ga "reflectlite.Value.IsNil" 0) ix #[.agg #[gU 7 78,.pointer (H a),.int .u64 150]]).run prog W=.ok (.bool I) W:=by
 rw[QJ];simp only[GK,OV,da];simp[ix,loadVar,isAgg,underlying,underlying78,d,da]
def agO(w:J):(mR na #[.agg #[gU 7 83]]).run prog w=.ok (.iface 143 (.agg #[gU 7 22])) w:=by kernel_rfl
def ahZ(w:J):(mR na #[.agg #[gU 7 78]]).run prog w=.ok (.iface 143 (.agg #[gU 7 76])) w:=by kernel_rfl
def MT(w:J):(gr "Implements" nc #[.agg #[gU 7 22],.iface 143 (.agg #[gU 7 54])]).run prog w=.ok (.bool C) w:=by kernel_rfl
def Nk(w:J):(gr "Implements" nc #[.agg #[gU 7 76],.iface 143 (.agg #[gU 7 54])]).run prog w=.ok (.bool C) w:=by kernel_rfl
def N1(v:dB)(w:J):(mz #[.iface 22 v]).run prog w=.ok (.iface 143 (.agg #[gU 7 22])) w:=rfl
def MR(w:J):(gr "AssignableTo" la #[.agg #[gU 7 22],.iface 143 (.agg #[gU 7 22])]).run prog w=.ok (.bool C) w:=by kernel_rfl
def SM(n:Int)(w:J):(ie (.iface 22 (G n))).run prog w
  =.ok (.agg #[gU 7 22,dq w.heap.size,.int .u64 130]) (w.alloc (.cells #[G n] 22)):=by kernel_rfl
def aay(w:J):(Rtype.elem? 83).run prog w=.ok (H 22) w:=by kernel_rfl
def alM(p:Addr)(w:J):(so 22 p ij).run prog w=.ok (.agg #[gU 7 22,.pointer (H p),.int .u64 386]) w:=by kernel_rfl
def ac7(a p:Addr)(W:J)(d:W.cell? a=H (.pointer (H p))):(gv (ga "reflectlite.Value.Elem" 0) im #[.agg #[gU 7 83,.pointer (H a),.int .u64 150]]).run prog W
   =.ok (.agg #[gU 7 22,.pointer (H p),.int .u64 386]) W:=by
 rw[QJ];simp only[GK,N0,da];simp[im,loadVar,isAgg,underlying,underlying83,d,da,aay,alM]
def rls(v x:dB):lq #[v,x]=(do
  let (H (dst,a,fl),H (src,b,_)):=(<-gd v,<-gd x)
   |unsupported (.noEntry "extern/(internal/reflectlite.Value).Set.zeroValue")
  if fl / ij%2==0 then unsupported (.noEntry "extern/(internal/reflectlite.Value).Set.unaddressable")
  let d <-loadVar src b
  if <-Rtype.directlyAssignable dst src then storeVar dst a d
  else if <-Rtype.implements dst src then
   if (<-Rtype.kind src)==20 then
    match d with
    | .nilIface=>unsupported (.noEntry "extern/reflectlite: a nil value of one interface type handed on as a value of another")
    |_=>storeVar dst a d
   else storeVar dst a (.iface src d)
  else panicString ("reflectlite.Set: value of type "++(<-Rtype.spelt src)++ " is not assignable to type "++(<-Rtype.spelt dst))
  pure (.tuple #[])):=rfl
def aaz(a:Addr)(w:J):(gd (.agg #[gU 7 22,.pointer (H a),.int .u64 386])).run prog w=.ok (H (22,a,386)) w:=rfl
def ada(a:Addr)(w:J):(gd (.agg #[gU 7 22,.pointer (H a),.int .u64 130])).run prog w=.ok (H (22,a,130)) w:=rfl
def aax(w:J):(Rtype.directlyAssignable 22 22).run prog w=.ok C w:=by rfl
theorem ajT(a b:Addr)(n:Int)(d:dB)(W:J)(e:W.cell? b=H (G n))(o:W.cell? a=H d)(h:W.frozen? a=I):(lq #[.agg #[gU 7 22,.pointer (H a),.int .u64 386],.agg #[gU 7 22,.pointer (H b),.int .u64 130]]).run prog W
   =.ok (.tuple #[]) (W.setCell a (G n)):=by
 rw[rls];simp only[GK,aaz,ada,da];simp[ij,loadVar,isAgg,underlying,underlying22,e,da,aax,storeVar,Value.cells,storeCells,Addr.add];rw[run_store prog W a _ _ D];grind
abbrev rv(T:Nat)(b:Nat):io:=#[gU 7 T,dq b,.int .u64 150]
def zM{P:Program}(w:J)(d:Nat){u o:TypeId}{B:Array (String×TypeId)}{i:TypeInfo}{k:IntKind}(a b:Int)
  (z:P.underlying u=H (.interface B)) (A:P.underlying o=H (.int k)) (h:P.info? o=H i) (e:i.comparable=C):(Op.equalIn (d+2) u (.iface o (.int k a)) (.iface o (.int k b))).run P w=.ok (a==b) w:=by
 simp[Op.equalIn,sY z,sY A,typeInfo,h,e]
def E5{P:Program}(w:J){o h:TypeId}{A:Array (String×TypeId)}{i:TypeInfo}{k:IntKind}(a b:Int)
  (u:P.underlying o=H (.interface A)) (z:P.underlying h=H (.int k)) (e:P.info? h=H i) (d:i.comparable=C):(binOp .eql o (.iface h (.int k a)) (.iface h (.int k b))).run P w=.ok (.bool (a==b)) w:=by
 simp[binOp];simp[Op.equal,Op.maxDepth,zM w 9998 a b u z e d]
def Sx:io->Sem dB:=Extern.ReflectliteType.method λt=>do Rtype.noPackHeld "Comparable" t;pure (.bool (<-typeInfo t).comparable)
def IV(w:J):(Sx #[.agg #[gU 7 22]]).run prog w=.ok (.bool C) w:=by kernel_rfl
def agN:(prog.info? 22).map (·.comparable)=H C:=by kernel_rfl
def errorType(w:J):Prop:=w.cell? ⟨0,0,F⟩=H (.iface 143 (.agg #[gU 7 54]))
theorem VY(p q:Addr)(w:J):CallsD prog 60 #[.pointer (H p),.pointer (H q)] .returning w λe h U=>e=pG/\h=.returning/\U=w:=by
 refine callsD_of_wpS func60 D λa o d=>?_;apply wpS_seq;apply wpS_region;simp[wpOpsS,go_sem,recoverD,d];refine wpS_cond (rfl) (wpS_of_wp (wp_skip ?_));cases a;simp_all[bodyPostS,results]
def ry(h:errorType w)(o:Obj):errorType (w.alloc o):=by
 have:0<zq w.heap:=by rcases Mm w.heap.size with d|a;simp[errorType,World.cell?,d]at h;exact a
 show(w.alloc o).cell? _=_;rw[py _ _ _ this];exact h
section
variable {P:Program}{ops:Array Oper}{Q:Exit->Act->J->Prop}{md:Region.Mode}
end
def Fp(w:J):Calls prog 20 #[.nilIface] w (vc w (.tuple #[G 0,G 0])):=by
 go_wp2;go_ret2;exact⟨D,((Z.refl _ _).alloc _).alloc _⟩
def Kr(h:errorType w)(e:Z S w U)(o:0∉S):errorType U:=by
 have:0<zq w.heap:=by rcases Mm w.heap.size with d|a;simp[errorType,World.cell?,d]at h;exact a
 show U.cell? _=_;rw[e.cell this o];exact h
def Kq(h:errorType w):errorType w.drew:=h
def sX(a:Int×Int×Int)(d:dB):io:=#[G a.1,G a.2.1,G a.2.2,d,.bool I,G 0,.nilIface,gq,.pointer F]
def ad8(d f a:Int):Prop:=4<=d/\d<=64/\1<=f/\f<=32/\1<=a/\a<=16
def ag5(d f a:Int)(w:J)(h:ad8 d f a):dS 19 #[G d,G f,G a] w λe U=>e=ff (.tuple #[dq w.heap.size,.nilIface])/\U=w.alloc (.cells (sX (d,f,a) (gq)) 72):=by
 have⟨h1,h2,h3,h4,h5,h6⟩:=h;go_enter func19,ntmps19;go_wp2;go_ret2;exact⟨D,D⟩
theorem ahx(d f a:Int)(w:J)(h:ad8 d f a):dS 9 #[G d,G f,G a] w λe U=>e=ff (.tuple #[dq w.heap.size,G 0])/\U.heap[zq w.heap]?=H (dr (sX (d,f,a) (gq)) 72)/\Z [] w U:=by
 go_enter func9,ntmps9;go_wp21;refine(ag5 d f a _ h).mono ?_;rintro e K⟨rfl,rfl⟩;go_wp21;refine(Fp _).mono ?_;rintro e z⟨rfl,o⟩;have B:Z [] w z:=((Z.refl _ _).alloc _).next o (by simp)
 have u:=o.at (aY w _) (by simp);have A:Hid _:=u;go_wp2;go_ret2;simp_all
def Jk:(prog.info? 5).map (λi=>(i.zero,i.size,i.bytes))=H (H (.int .u8 0),1,1):=by kernel_rfl
def Ak(d:Nat)(a:Int×Int×Int)(o:dB)(w:J)(h:w.heap[d]?=H (dr (sX a o) 72)):Calls prog 31 #[dq d] w λe U=>e=ff (.bool I)/\U=w:=by
 have u:w.cell? ⟨d,4,F⟩=H (.bool I):=by rw[aF h];rfl
 go_wp2;go_ret;simp
theorem abZ(A g c:Nat)(a:Int×Int×Int)(tv:dB)(s t:O)(f:Nat)(w:J)(p:w.heap[A]?=H (dr (sX a tv) 72))
  (n:w.ownsRow f 5 1 tv s.size (ji s)) (Q:∀j u,(ji t)[j]?=H u->w.cell? ⟨g,j,F⟩=H u) (hl:s.size+t.size<=1024) (hb:f<=zq w.heap):dS 21 #[dq A,lO g t.size c] w λe U=>e=ff (.tuple #[G t.size,.nilIface])/\
   ∃K,U.heap[A]?=H (dr (sX a K) 72)/\U.ownsRow f 5 1 K (s++t).size (ji (s++t))/\Z (A::tv.ownBlock.toList) w U/\(K.ownBlock=tv.ownBlock\/∀k,K.ownBlock=H k->zq w.heap<=k):=by
 obtain⟨R,P,y,C,E⟩:=sZ Jk;have c1:w.cell? ⟨A,3,F⟩=H tv:=by rw[aF p];rfl
 have a3:∃X o,tv=.slice X s.size o:=by rcases n.2 with⟨rfl,V⟩|⟨g,o,a0,rfl,_⟩;grind;simp
 obtain⟨X,o,rfl⟩:=a3;have i:Hid _:=p;have m:Hid _:=n;have S:Hid _:=Q;go_enter func21,ntmps21;go_wp21;refine(Ak A a _ _ i).mono ?_;rintro e w1⟨rfl,rfl⟩;go_wp2_with (at_builtin;refine fQ _ D _ _ 58 D f 5 R (.int .u8 0) 1 1 underlying58 P y C E D (by decide) _ _ _ D m ⟨g,0,F⟩ t.size c (ji t) D ?c1 ?c2 ?c3 ?c4 ?c5 hb ?_)
 case c1=>simp[ji]
 case c2=>grind[fC]
 case c3=>grind[VP]
 case c4=>unfold maxLen;omega
 case c5=>omega
 intro W w2 z B a1;have⟨ao',d,hv⟩:=df z;subst hv;have a2:∀k,(cV X s.size o).ownBlock=H k->k≠A:=by intro k b;rcases m.2 with⟨h,_⟩|⟨L,d,a0,h,_,N,_⟩;rw[h]at b;cases b;rw[h]at b;obtain rfl:=jS b;grind
 have l:w2.heap[A]?=H (dr (sX a (.slice X s.size o)) 72):=by rw[B.block A (fp i.out) (λh=>a2 A h.symm D)];exact i
 have T:w2.cell? ⟨A,3,F⟩=H (.slice X s.size o):=by rw[aF l];rfl
 have d2:=cY l 3;have h3:=bH l 3 (.slice ao' (s.size+t.size) d);have I:(w2.setCell ⟨A,3,F⟩ (.slice ao' (s.size+t.size) d)).ownsRow f 5 1 (.slice ao' (s.size+t.size) d) (s++t).size (ji (s++t)):=by have x:(s++t).size=s.size+t.size:=ByteArray.size_append;rw[x,MG];refine qo z ?_ _;intro b;rcases z.2 with⟨h,_⟩|⟨L,d,a0,h,_,N,_⟩;grind;grind
 have M:Z (A::(cV X s.size o).ownBlock.toList) w1 (w2.setCell ⟨A,3,F⟩ (.slice ao' (s.size+t.size) d)):=
  ((Z.refl _ _).grown B (λk b=> .inl (by simp[b]))).setCell (.inl (by simp)) _
 have q:Hid _:=h3;have r:Hid _:=I;have v:Hid _:=a1;go_wp2;go_ret2;exact⟨D,_,q,r,M,v⟩
theorem aah(t:O)(j:Nat)(u:dB)(h:(ji t)[j]?=H u):∃a:j<t.data.size,u=.int .u8 (t.data[j].toNat:Int):=by grind[ji]
theorem JU(t:O)(a j:Nat)(u:dB)(h:(ji t)[j]?=H u):(bytesRow t a)[j]?=H u:=by grind[aah,bytesRow_at]
def BJ(t:O)(a:Nat):t.size<=(bytesRow t a).size:=by simp[bytesRow]
theorem AZ(h:w.heap[b]?=H (.cells c t m))(j:Nat):w.cell? ⟨b,j,F⟩=c[j]?:=by simp[World.cell?,h]
def Ob(h:w.heap[b]?=H (.cells c t (n,n+1)))(j:Nat)(a:j<n):w.frozen? ⟨b,j,F⟩=I:=by simp[World.frozen?,h];omega
theorem EJ(h:w.heap[b]?=H (.cells c t m))(j:Nat)(u:dB):(w.setCell ⟨b,j,F⟩ u).heap[b]?=H (.cells (c.setIfInBounds j u) t m):=by show(w.heap.modify b _)[b]?=_;grind
def VC(g a d:Nat)(h:io)(b n:Nat)(e:dB)(B:List dB)(S:List Nat)(w wr:J):Prop:=
 (∃o:io,wr.heap[g]?=H (.cells o 5 (a,a+1))/\o.size=a)/\wr.heap[d]?=H (dr h 72)/\wr.ownsRow b 5 1 e n B/\Z S w wr
theorem abg(o:Nat)(a:Int×Int×Int)(K:dB)(s t:O)(f:Nat)(w:J)(n:w.heap[o]?=H (dr (sX a K) 72))
  (l:w.ownsRow f 5 1 K s.size (ji s)) (hl:s.size+t.size<=1024) (hb:f<=zq w.heap):dS 10 #[dq o,Y t] w λe U=>e=ff (.tuple #[G t.size,G 0,.bool C])/\
   ∃d,U.heap[o]?=H (dr (sX a d) 72)/\U.ownsRow f 5 1 d (s++t).size (ji (s++t))/\Z (o::K.ownBlock.toList) w U/\(d.ownBlock=K.ownBlock\/∀k,d.ownBlock=H k->zq w.heap<=k):=by
 have b:=run_bytes_of_string (P:=prog) w 9 58 5 t underlying9 underlying58 underlying5;obtain⟨g,r⟩:∃g,g=grownCap w t.size 0 5:=⟨_,D⟩;rw[<-r]at b;clear r;have T:=BJ t g;have p:=JU t g;generalize bytesRow t g=R at b T p;obtain⟨X,A⟩:∃X,X=w.drew.alloc (.cells R 5 (R.size,R.size+1)):=⟨_,D⟩;rw[<-A]at b;have P:X.heap[zq w.heap]?=H (.cells R 5 (R.size,R.size+1)):=by rw[A];exact aY w.drew _
 have m:Z [] w X:=by rw[A];exact(Z.refl [] w).drew.alloc _
 have N:zq X.heap=zq w.heap+1:=by rw[A];show(w.heap.push _).size=_;simp
 clear A;have a9:=fp n;have W:=l.lt;have M:=m.at n (by simp);have L:=m.ownsRow l (λ_ _=>by simp);have q:=abZ o w.heap.size g a K s t f X M L (λj u h=>by grind[AZ]) hl (by omega);have HZ:Hid (zq X.heap=zq w.heap+1):=N;clear N M L n l;go_enter func10,ntmps10;go_wp21;refine q.mono ?_;rintro e w2⟨rfl,d,y,x,a3,a2⟩;clear b q;go_wp21;refine(Fp _).mono ?_;rintro e w3⟨rfl,B⟩;have E:zq w.heap∉o::K.ownBlock.toList:=by simp only[nQ,Option.mem_toList,not_or];exact⟨by omega,λh=>by grind⟩
 have a0:w3.heap[zq w.heap]?=H (.cells R 5 (R.size,R.size+1)):=B.at (a3.at P E) (by simp);have V:VC w.heap.size R.size o (sX a d) f (s++t).size d (ji (s++t)) (o::K.ownBlock.toList) w w3:=
  ⟨⟨R,a0,rfl⟩,B.at y (by simp),B.ownsRow x (λ_ _=>by simp),((m.mono (by simp)).trans a3).trans (B.mono (by simp))⟩
 have S:d.ownBlock≠H w.heap.size:=by rcases a2 with h|h;grind;grind
 have Q:d.ownBlock=K.ownBlock\/∀k,d.ownBlock=H k->zq w.heap<=k:=by rcases a2 with h|h;exact .inl h;grind
 have a1:=by
  have:=XR (P:=prog) w3 58 9 5 ⟨zq w.heap,0,F⟩ g t.data.toList underlying58 underlying5 underlying9 (λj hj=>by rw[fC,AZ a0];exact p j _ (by grind[ji]))
  simpa using this
 clear a2 a3 B y x a0 E m;go_wp21;clear a1
 go_loopw [33] (λi wr=>∃k:Nat,k<=t.size/\i=G k/\VC w.heap.size R.size o (sX a d) f (s++t).size d (ji (s++t)) (o::K.ownBlock.toList) w wr) (λi _=>t.size-(intOf i).toNat)
 case atStart=>grind
 case round=>
  obtain⟨k,hk,rfl,c⟩:=hrel;by_cases aa:k<t.size
  .have⟨⟨v,hv⟩,hfz⟩:=(show(∃v,wr.cell? ⟨zq w.heap,k,F⟩=H v)/\wr.frozen? ⟨zq w.heap,k,F⟩=I by have⟨⟨Co,hC,z⟩,_⟩:=c;refine⟨⟨Co[k]'(by omega),?_⟩,Ob hC k (by omega)⟩;rw[AZ hC];simp)
   have HS:VC w.heap.size R.size o (sX a d) f ((s++t).size) d (ji (s++t)) (o::K.ownBlock.toList) w (wr.setCell ⟨zq w.heap,k,F⟩ (.int .u8 33)):=by have⟨⟨Co,hC,z⟩,n,l,hk⟩:=c;refine⟨⟨_,EJ hC k (.int .u8 33),by grind⟩,?_,qo l S (.int .u8 33),hk.setCell (.inr (dF _)) (.int .u8 33)⟩;grind[Below.heap_setCell]
   go_wp2;go_roundw
   case rel=>exact⟨k+1,by omega,by go_num,HS⟩
   case measure=>simp[intOf];omega
  .go_wp2;go_ret3;exact⟨D,d,c.2.1,c.2.2.1,c.2.2.2,Q⟩
structure RC where
 A:O
 B:dB
 at_:Int
 d:dB
 lg:Int
 a:O:=⟨#[]⟩
 e:Bool:=I
variable {R:RC}
def xE(R:RC)(a Q:Nat):io:=#[Y R.A,R.B,G a,G Q,G R.at_,R.d,G R.lg,Y R.a,.bool R.e]
def Rd(w:J)(r:Nat)(R:RC)(a Q:Nat):Prop:=w.heap[r]?=H (dr (xE R a Q) 163)
def Rd.text{a Q:Nat}(h:Rd w r R a Q):w.cell? ⟨r,0,F⟩=H (Y R.A):=by rw[aF h];rfl
theorem Rd.bY{a Q:Nat}(h:Rd w r R a Q):w.cell? ⟨r,1,F⟩=H R.B:=by rw[aF h];rfl
def Rd.bg{a Q:Nat}(h:Rd w r R a Q):w.cell? ⟨r,2,F⟩=H (G a):=by rw[aF h];rfl
def Rd.ps{a Q:Nat}(h:Rd w r R a Q):w.cell? ⟨r,3,F⟩=H (G Q):=by rw[aF h];rfl
def Rd.d{a Q:Nat}(h:Rd w r R a Q):w.cell? ⟨r,5,F⟩=H R.d:=by rw[aF h];rfl
def Rd.lg{a Q:Nat}(h:Rd w r R a Q):w.cell? ⟨r,6,F⟩=H (G R.lg):=by rw[aF h];rfl
theorem Rd.a{a Q:Nat}(h:Rd w r R a Q):w.cell? ⟨r,7,F⟩=H (Y R.a):=by rw[aF h];rfl
def Rd.e{a Q:Nat}(h:Rd w r R a Q):w.cell? ⟨r,8,F⟩=H (.bool R.e):=by rw[aF h];rfl
def Rd.free{a Q:Nat}(h:Rd w r R a Q)(j:Nat):w.frozen? ⟨r,j,F⟩=I:=by unfold Rd at h;simp[World.frozen?,h]
def Rd.h{b Q:Nat}(h:Rd w r R b Q)(a:Nat):Rd (w.setCell ⟨r,3,F⟩ (G a)) r R b a:=bH h 3 _
theorem Rd.kept{b Q:Nat}(h:Rd w r R b Q)(a:Z S w U)(d:r∉S):Rd U r R b Q:=a.at h d
def nr(r:Nat)(R:RC)(b Q:Nat)(w:J)(h:Rd w r R b Q):dS 81 #[dq r] w λe U=>e=ff (.bool (decide (Q=R.A.size)))/\∃q,U=w.drewN q:=by
 have t:=h.text;have p:=h.ps;generalize R.A=s at t;by_cases e:Q=s.size
 .subst e;go_enter func81,ntmps81;go_wp21
  go_quiet (fail)
  go_wp2;go_ret;exact⟨by simp,⟨_,D⟩⟩
 .have a:((Q:Int)==(s.size:Int))=I:=beq_eq_false_iff_ne.2 (by omega);go_enter func81,ntmps81;go_wp21
  go_quiet (fail)
  go_wp2;go_ret;exact⟨by simp[e],⟨_,D⟩⟩
def E0(r:Nat)(R:RC)(b Q:Nat)(w:J)(h:Rd w r R b Q)(a:Q<=R.A.size)(_hs:R.A.size<=1024):dS 154 #[dq r] w λe U=>e=ff (Y (R.A.extract Q R.A.size))/\∃q,U=w.drewN q:=by
 have t:=h.text;have p:=h.ps;go_enter func154,ntmps154;go_wp21
 go_quiet (fail)
 go_wp2;go_ret;exact⟨D,⟨_,D⟩⟩
def KY(c:Int)(w:J)(o:0<=c)(u:c<=255):dS 156 #[.int .u8 c] w (JK w (.bool (decide (97<=c/\c<=122\/65<=c/\c<=90)))):=by
 by_cases a:97<=c<;>by_cases d:c<=122<;>by_cases e:65<=c<;>by_cases h:c<=90
 all_goals first|(exfalso;omega)|skip
 all_goals (go_enter func156,ntmps156;go_wp2;go_ret;exact⟨by first|(simp;done)|(simp;omega),rfl⟩)
def pre(s p:O):Bool:=decide (p.size<=s.size)&&((s.extract 0 p.size).toList==p.toList)
def uj(s p:O)(w:J)(d:s.size<=1048576)(a:p.size<=1048576):dS 153 #[Y s,Y p] w λe U=>e=ff (.bool (pre s p))/\U=w:=by
 go_enter func153,ntmps153;go_wp21;refine((show Calls prog 246 #[Y s,Y p] w λe U=>e=ff (.bool (pre s p))/\U=w by
   by_cases h:p.size<=s.size
   .go_enter func246,ntmps246;go_wp2;go_ret;exact⟨by simp[pre,h],D⟩
   .go_enter func246,ntmps246;go_wp2;go_ret;exact⟨by simp[pre,h],D⟩)).mono ?_
 rintro e U⟨rfl,rfl⟩;go_wp2;go_ret;simp
theorem Lu{p:O}(h:pre s p=C):p.size<=s.size:=by grind[pre]
def jO{p:O}{Q:Nat}(h:pre (s.extract Q s.size) p=C)(a:Q<=s.size):Q+p.size<=s.size:=by have:=Lu h;simp at this;omega
def fZ(R:RC)(p:O)(Q:Nat):Nat:=if pre (R.A.extract Q R.A.size) p=C then Q+p.size else Q
def U1{p:O}{Q:Nat}(h:Q<=R.A.size):fZ R p Q<=R.A.size:=by unfold fZ;split;rename_i a;exact jO a h;omega
theorem U0{p:O}{Q:Nat}:Q<=fZ R p Q:=by grind[fZ]
def jQ(r:Nat)(R:RC)(c Q:Nat)(s:O)(w:J)(h:Rd w r R c Q)(d:Q<=R.A.size)(u:R.A.size<=1024)(K:s.size<=1024):dS 85 #[dq r,Y s] w λe U=>e=ff (.bool (pre (R.A.extract Q R.A.size) s))/\Z [r] w U/\Rd U r R c (fZ R s Q):=by
 have X:=h;by_cases e:pre (R.A.extract Q R.A.size) s=C
 .have B:=jO e d;have a:fZ R s Q=Q+s.size:=by unfold fZ;rw[dw e]
  rw[a];go_enter func85,ntmps85;go_wp21;refine(E0 r R c Q w X d u).mono ?_;rintro e U⟨rfl,q,rfl⟩;go_wp21;refine(uj _ s _ (by simp;omega) (by omega)).mono ?_;rintro e U⟨rfl,rfl⟩;have p:(w.drewN q).cell? ⟨r,3,F⟩=H (G Q):=X.ps;have b:=X.free 3;have z:Hid (Z [r] w ((w.drewN q).setCell ⟨r,3,F⟩ (G ((Q+s.size:Nat))))):=((Z.refl [r] w).drewN q).setCell (.inl (by simp)) _;have A:Hid (Rd ((w.drewN q).setCell ⟨r,3,F⟩ (G ((Q+s.size:Nat)))) r R c (Q+s.size)):=Rd.h (w:=w.drewN q) X _;rw[e];go_wp2;go_ret;exact⟨by rw[e];rfl,z,A⟩
 .have a:fZ R s Q=Q:=by unfold fZ;rw[di e]
  rw[a];have o:pre (R.A.extract Q R.A.size) s=I:=by simpa using e
  go_enter func85,ntmps85;go_wp21;refine(E0 r R c Q w X d u).mono ?_;rintro e U⟨rfl,q,rfl⟩;go_wp21;refine(uj _ s _ (by simp;omega) (by omega)).mono ?_;rintro e U⟨rfl,rfl⟩;rw[o];go_wp2;go_ret;exact⟨by rw[o];rfl,(Z.refl [r] w).drewN q,X⟩
def gZ(q:Int->Bool)(s:O)(i:Nat):Nat:=if h:i<s.size then (if q (bt s i)then i else gZ q s (i+1))else i
  termination_by s.size-i
theorem E6(h:s.size<=i):gZ q s i=i:=by grind[gZ]
theorem E8(h:q (bt s i)=C):gZ q s i=i:=by grind[gZ]
theorem E7(a:i<s.size)(h:q (bt s i)=I):gZ q s i=gZ q s (i+1):=by grind[gZ]
theorem rI:i<=gZ q s i:=by
 fun_induction gZ q s i with
 |case1=>omega
 |case2=>omega
 |case3=>omega
theorem oB(h:i<=s.size):gZ q s i<=s.size:=by
 fun_induction gZ q s i with
 |case1=>omega
 |case2 _ _ _ ih=>omega
 |case3=>omega
theorem Zo:gZ q s i<s.size->q (bt s (gZ q s i))=C:=by
 fun_induction gZ q s i with
 |case1 _ _ h=>grind
 |case2 _ _ _ ih=>exact ih
 |case3 _ h=>omega
structure ZW(w:J)(S:List Nat)(k:Nat)(caps:io)(q:Int->Bool):Prop where
 A:∀(args:io)(w:J),(callFunc k args).run prog w=.ok (.enter k args) w
 ask:∀(c:Int)(w':J),0<=c->c<=255->Z S w w'->dS k (#[.int .u8 c]++caps) w' λe w''=>e=ff (.bool (q c))/\∃n,w''=w'.drewN n
theorem U8(r:Nat)(R:RC)(f Q:Nat)(k:Nat)(a:io)(q:Int->Bool)(w:J)(h:Rd w r R f Q)(j:Q<=R.A.size)(z:R.A.size<=1024)(l:ZW w [r] k a q):dS 252 #[dq r,.func (.func k) #[] a] w λe U=>e=ff (Y (R.A.extract Q (gZ q R.A Q)))/\Z [r] w U/\Rd U r R f (gZ q R.A Q):=by
 have b:=l;have s:=h.ps;have g:=h;have K:=get_bt R.A;have a0:=b.A;go_enter func252,ntmps252;go_wp21
 go_loopw [] (λwr=>∃i:Nat,Q<=i/\i<=R.A.size/\gZ q R.A i=gZ q R.A Q/\Rd wr r R f i/\Z [r] w wr) (λwr=>R.A.size-(match wr.cell? ⟨r,3,F⟩with|some v=>(intOf v).toNat|none=>0))
 case atStart=>exact⟨Q,dF _,j,D,g,Z.refl _ _⟩
 case round=>
  have⟨i,hi0,hi1,hsc,HR,HKW⟩:=hrel;have t:=HR.text;have p:=HR.ps;have n:=HR.free 3;by_cases e:i=R.A.size
  .have a2:=(λU (h:Rd U r R f i)=>nr r R f i U h);have e2:gZ q R.A Q=i:=by rw[<-hsc];exact E6 (by omega)
   have B:decide (i=R.A.size)=C:=by simp[e]
   rw[e2];rw[B]at a2;go_wp21
   go_quiet ((go_at_call 81;refine xK (a2 _ ?_);exact HR))
   go_wp21
   go_quiet (fail)
   go_wp2;go_ret;exact⟨by rw[e2,e];rfl,((HKW.drewN _).drewN _),by rw[e2];exact HR⟩
  .have o:i<R.A.size:=by omega
   have a2:=(λU (h:Rd U r R f i)=>nr r R f i U h);have B:decide (i=R.A.size)=I:=by simp[e]
   rw[B]at a2;have hb:=K i o;have c:=bt_nonneg R.A i;have X:=bt_le R.A i;by_cases d:q (bt R.A i)=C
   .have e2:gZ q R.A Q=i:=by rw[<-hsc];exact E8 d
    rw[e2];have a3:=(λU h=>b.ask (bt R.A i) U c X h);rw[d]at a3;go_wp21
    go_quiet (first|(go_at_call 81;refine xK (a2 _ ?_);exact HR)|(refine xK (a3 _ ?_);exact HKW.drewN _))
    go_wp21
    go_quiet (fail)
    go_wp2;go_ret;exact⟨by rw[e2];rfl,((HKW.drewN _).drewN _),by rw[e2];exact HR⟩
   .have u:q (bt R.A i)=I:=by simpa using d
    have HS:gZ q R.A (i+1)=gZ q R.A Q:=by rw[<-hsc,E7 o u]
    have a3:=(λU h=>b.ask (bt R.A i) U c X h);rw[u]at a3;go_wp21
    go_quiet (first|(go_at_call 81;refine xK (a2 _ ?_);exact HR)|(refine xK (a3 _ ?_);exact HKW.drewN _))
    have A:=Rd.h (w:=wr.drewN nq) HR (i+1);have a1:=(HKW.drewN nq).setCell (p:=⟨r,3,F⟩) (.inl (by simp)) (G ((i+1:Nat)));go_wp2;go_roundw
    case rel=>grind
    case measure=>
     have m:=A.ps;rw[show((i:Int)+1)=((i+1:Nat):Int)from by omega,m,p];simp[intOf];omega
def fw(s:O)(c:Int):Bool:=decide (0<=lA s.data.toList c.toNat.toUInt8)
def adK(s:O)(c:Int):fw s c=s.data.toList.contains c.toNat.toUInt8:=by rw[Lib.contains_iff_indexByte];rfl
theorem anB{c:Int}(a:0<=c)(d:c<=255){x:UInt8}(h:c.toNat.toUInt8=x):c=(x.toNat:Int):=by grind[UInt8.toNat_ofNat']
def adL{c:Int}(a:0<=c)(d:c<=255)(h:fw eV c=C):c=62:=by rw[adK]at h;simp at h;exact anB a d h
def Lf(b:Nat)(s:O)(c:Int)(w:J)(h:w.cell? ⟨b,0,F⟩=H (Y s)):dS 254 #[.int .u8 c,dq b] w (JK w (.bool (fw s c))):=by
 have o:=Tryz.strings_IndexByte s c w;go_enter func254,ntmps254;go_wp21;refine o.mono ?_;rintro e U⟨rfl,rfl⟩;generalize hx:lA s.data.toList c.toNat.toUInt8=x;have d:fw s c=decide (0<=x):=by unfold fw;rw[hx]
 have a:=V d;clear d;by_cases e:0<=x
 .go_wp2;go_ret;exact⟨by rw[a.out];simp[e],D⟩
 .go_wp2;go_ret;exact⟨by rw[a.out];simp[e],D⟩
def Cq(w:J)(S:List Nat)(b:Nat)(s:O)(h:w.cell? ⟨b,0,F⟩=H (Y s))(u:b<zq w.heap)(o:b∉S):ZW w S 254 #[dq b] (fw s) where
 A:=enters_of func254 (rfl) D
 ask c U _ _ hk:=(Lf b s c U ((hk.cell u o).trans h)).mono λe z ⟨a,d⟩=>⟨a,0,d⟩
def nI(s:O)(w:J):Calls prog 162 #[Y s] w λe U=>e=ff (.func (.func 254) #[] #[dq w.heap.size])/\U=w.alloc (.cells #[Y s] 9):=by
 go_wp2;go_ret;simp
def TL(w:J)(S:List Nat):ZW w S 156 #[] (λc=>decide (97<=c/\c<=122\/65<=c/\c<=90)) where
 A:=enters_of func156 (rfl) D
 ask c U h0 a _:=(KY c U h0 a).mono λe h ⟨a,d⟩=>⟨a,0,d⟩
def aeq(b a:Nat)(s:O)(c:Int)(w:J)(h:w.cell? ⟨b,0,F⟩=H (Y s))(d:w.cell? ⟨a,0,F⟩=H (.func (.func 254) #[] #[dq b])):dS 335 #[.int .u8 c,dq a] w λe U=>e=ff (.bool (!fw s c))/\U=w:=by
 have o:=Lf b s c w h;generalize fw s c=x at o|-;go_enter func335,ntmps335;go_wp21;refine o.mono ?_;rintro e U⟨rfl,rfl⟩;cases x
 .go_wp2;go_ret;simp
 .go_wp2;go_ret;simp
def acv(w:J)(S:List Nat)(b a:Nat)(s:O)(h:w.cell? ⟨b,0,F⟩=H (Y s))(d:w.cell? ⟨a,0,F⟩=H (.func (.func 254) #[] #[dq b]))(B:b<zq w.heap)(A:b∉S)(u:a<zq w.heap)(o:a∉S):ZW w S 335 #[dq a] (λc=>!fw s c) where
 A:=enters_of func335 (rfl) D
 ask c U _ _ hk:=(aeq b a s c U ((hk.cell B A).trans h) ((hk.cell u o).trans d)).mono λe K ⟨z,d⟩=>⟨z,0,d⟩
def ahr(f:Fn)(x y:io)(w:J):Calls prog 298 #[.func f x y] w λe U=>e=ff (.func (.func 335) #[] #[dq w.heap.size])/\U=w.alloc (.cells #[.func f x y] 220):=by
 go_wp2;go_ret;simp
theorem vn(r:Nat)(R:RC)(g Q:Nat)(s:O)(w:J)(h:Rd w r R g Q)(k:Q<=R.A.size)(z:R.A.size<=1024):dS 250 #[dq r,Y s] w λe U=>e=pG/\Z [r] w U/\Rd U r R g (gZ (λc=>!fw s c) R.A Q):=by
 have m:=fp h;have a3:=h;clear h;obtain⟨o,a⟩:∃o,o=w.alloc (.cells #[Y s] 9):=⟨_,D⟩;obtain⟨u,d⟩:∃u,u=o.alloc (.cells #[.func (.func 254) #[] #[dq w.heap.size]] 220):=⟨_,D⟩;have i:zq o.heap=zq w.heap+1:=by rw[a];simp
 have l:zq u.heap=zq w.heap+2:=by rw[d];simp[i]
 have b1:o.heap[zq w.heap]?=H (dr #[Y s] 9):=by rw[a];exact aY w _
 have k1:Z [r] w o:=by rw[a];exact(Z.refl _ _).alloc _
 have b:Z [] o u:=by rw[d];exact(Z.refl _ _).alloc _
 have b2:u.heap[zq o.heap]?=H (dr #[.func (.func 254) #[] #[dq w.heap.size]] 220):=by rw[d];exact aY o _
 have X:=b.at b1 (by simp);have A:Rd u r R g Q:=by rw[d,a];exact(((Z.refl [] w).alloc _).alloc _).at a3 (by simp)
 have j:Z [r] w u:=k1.trans (b.mono (by simp));have hA:ZW u [r] 335 #[dq o.heap.size] (λc=>!fw s c):=
  acv u [r] w.heap.size o.heap.size s (by simp_all) (by simp_all) (by omega) (by grind) (by omega) (by grind)
 have a2:=U8 r R g Q _ _ _ u A k z hA;have K:=V a;have f:=V d;clear hA A X b2 b k1 b1 i l a d;go_enter func250,ntmps250;go_wp21;refine(nI s w).mono ?_;rintro e U⟨rfl,rfl⟩;rw[<-K.out];go_wp21;refine(ahr _ _ _ o).mono ?_;rintro e U⟨rfl,rfl⟩;rw[<-f.out];go_wp21;refine a2.mono ?_;rintro e w3⟨rfl,B,a1⟩;have a0:=j.trans B;clear B;go_wp2;go_end0;grind
structure Pj(w:J)(r:Nat)(R:RC)(g cap:Nat)(cut:Nat->Nat):Prop where
 B:R.B=lO g (R.A.size+1) cap
 ne:g≠r
 lt:g<zq w.heap
 at_:∀i,i<=R.A.size->w.cell? ⟨g,i,F⟩=H (G (cut i))
theorem Pj.kept{a:Nat}{v:Nat->Nat}(h:Pj w r R g a v)(d:Z [r] w U):Pj U r R g a v:=
 ⟨h.B,h.ne,kQ h.lt d.size,λi e=>(d.cell h.lt (by simp[h.ne])).trans (h.at_ i e)⟩
def qC(r:Nat)(R:RC)(c Q g d:Nat)(v:Nat->Nat)(w:J)(h:Rd w r R c Q)(f:Pj w r R g d v)(e:c<=R.A.size)(o:Q<=R.A.size)(K:R.A.size<=1024):dS 82 #[dq r] w (vc w (.agg #[G (v c),G (v Q)])):=by
 have a:=h.bY;rw[f.B]at a;have p:=h.ps;have b:=h.bg;have u:=f.at_ c e;have z:=f.at_ Q o;have B:=fp h;have A:=f.lt;generalize R.A.size=n at *;generalize v c=x at *;generalize v Q=y at *;go_enter func82,ntmps82;go_wp21;go_region
 all_goals (try go_wp2)
 refine mL ?_ D ⟨D,((Z.refl [] w).alloc _).drew⟩;simp[results,results82,asAddr,da,go_sem]
theorem acy{c:Nat}{a b:Int}{d:J}(h:Z [r] w d)(e:Rd d r R c (c+1))(q:Z [] d W)(g:W.heap[zq w.heap]?=H (dr #[G 0,G 0,Y iJ] 186))(o:r≠zq w.heap):Z [r] w (((W.setCell ⟨zq w.heap,0,F⟩ (G a)).setCell ⟨zq w.heap,1,F⟩ (G b)).setCell ⟨zq w.heap,2,F⟩ (Y s))/\Rd (((W.setCell ⟨zq w.heap,0,F⟩ (G a)).setCell ⟨zq w.heap,1,F⟩ (G b)).setCell ⟨zq w.heap,2,F⟩ (Y s)) r R c (c+1)/\(((W.setCell ⟨zq w.heap,0,F⟩ (G a)).setCell ⟨zq w.heap,1,F⟩ (G b)).setCell ⟨zq w.heap,2,F⟩ (Y s)).heap[zq w.heap]?=H (dr #[G a,G b,Y s] 186):=by
 refine⟨?_,(e.kept q (by simp)).kept ((((Z.refl [zq w.heap] W).setCell (.inl (by simp)) _).setCell (.inl (by simp)) _).setCell (.inl (by simp)) _) (by grind),bH (bH (bH g 0 _) 1 _) 2 _⟩;grind[Z.setCell,Z.trans,Z.mono]
def DN(r:Nat)(R:RC)(i Q g K:Nat)(v:Nat->Nat)(w:J)(h:Rd w r R i Q)(k:Pj w r R g K v)(hb:i<R.A.size)(z:R.A.size<=1024):dS 151 #[dq r] w λe U=>e=ff (.agg #[G (v i),G (v (i+1)),Y (R.A.extract i (i+1))])/\Z [r] w U/\Rd U r R i (i+1):=by
 have b:=h.bg;have p:=h.ps;have N:=h.free 3;have P:=fp h;obtain⟨c,l⟩:∃c,c=Obj.cells #[G 0,G 0,Y iJ] 186 (0,0):=⟨_,D⟩;obtain⟨d,a⟩:∃d,d=(w.setCell ⟨r,3,F⟩ (G ((i+1:Nat)))).alloc c:=⟨_,D⟩;have j:Z [r] w d:=by rw[a];exact((Z.refl [r] w).setCell (.inl (by simp)) _).alloc _
 have R0:Rd d r R i (i+1):=by rw[a];exact((Z.refl [] _).alloc c).at (h.h (i+1)) (by simp)
 have m:d.heap[zq w.heap]?=H c:=by rw[a];have:=aY (w.setCell ⟨r,3,F⟩ (G ((i+1:Nat)))) c;rwa [World.size_setCell]at this
 have M:=V (λW (hk:Z [] d W)=>qC r R i (i+1) g K v W (R0.kept hk (by simp)) ((k.kept j).kept (hk.mono (by simp))) (by omega) (by omega) z);have S:=V k;have a1:=V j;have o:=V R0;have a0:=V m;have y:=V l;have a3:=V (show(w.setCell ⟨r,3,F⟩ (G ((i:Int)+1))).alloc (dr #[G 0,G 0,Y iJ] 186)=d from by rw[a,l];congr 1);clear h k j R0 m a l;go_enter func151,ntmps151;go_wp21;rw[a3.out];have a2:=V (show r≠zq w.heap by omega);clear b p N P;refine xr (by rfl) ?_;refine oW (λ(g:Unit) c=>⟨#[dq r,qu,dq w.heap.size,dq r,dq r,dq r,gU r 2,G i,G ((i:Int)+1),dq r,gU r 3,cd c 0 (dq r),cd c 1 (.agg #[G (v i),G (v (i+1))]),cd c 2 (dq r),cd c 3 (dq r),cd c 4 (dq r),cd c 5 (Y R.A),cd c 6 (dq r),cd c 7 (dq r),cd c 8 (gU r 2),cd c 9 (G i),cd c 10 (dq r),cd c 11 (dq r),cd c 12 (gU r 3),cd c 13 (G ((i:Int)+1)),cd c 14 (Y (R.A.extract i (i+1))),cd c 15 (.agg #[G (v i),G (v (i+1)),Y (R.A.extract i (i+1))])],[]⟩) (λg c W=>if dn c 16=C then (Z [r] w W/\Rd W r R i (i+1)/\W.heap[zq w.heap]?=H (dr #[G (v i),G (v (i+1)),Y (R.A.extract i (i+1))] 186))else Z [] d W) 17 [[],[0],[],[2],[3],[4],[],[6],[7],[8],[],[10],[11],[12],[5,9,13],[1,14],[0,1,2,3,4,5,6,7,8,9,10,11,12,13,14,15]] (()) D D ((Z.refl [] d).drew) ?_ ?_
 .repeat' first|exact kY|refine kX ?_ ?_
  all_goals
   rintro g c W X B O;simp[Cm]at B;refine lz D ?_;intro T A;simp only[kJ,B];have hb:dn c 16=I:=by simp[B,O]
   have q:Z [] d W:=by simpa [hb]using X
   have c0:=(o.out.kept q (by simp)).text;have c2:=(o.out.kept q (by simp)).bg;have c3:=(o.out.kept q (by simp)).ps;have n:=V (M.out W q);have u:=q.at (a0.out.trans (mf H y.out)) (by simp);have q0:W.cell? ⟨zq w.heap,0,F⟩=H (G 0):=by rw[aF u];rfl
   have q1:W.cell? ⟨zq w.heap,1,F⟩=H (G 0):=by rw[aF u];rfl
   have q2:W.cell? ⟨zq w.heap,2,F⟩=H (Y iJ):=by rw[aF u];rfl
   have z0:=cY u 0;have z1:=cY u 1;have z2:=cY u 2;go_simp
   try (rw[dw (by omega),dw (by omega)];go_simp)
   first
   |refine A _ _ ⟨g,?_,by simpa [jy,hb]using q⟩
   |refine n.out.mono ?_;rintro e W2⟨rfl,L⟩;refine A _ _ ⟨g,?_,by simpa [jy,hb]using q.trans L⟩
   |refine A _ _ ⟨g,?_,(dw nf).mpr (acy a1.out o.out q u a2.out)⟩
   simp[pA,wY,kJ,B]
 .rintro g W X;simp only[xw];rw[dw tI]at X;have⟨h1,h2,h3⟩:=X;have s:=V h1;have t:=V h2;have x:=V h3;clear h1 h2 h3;rename_i E f;refine f _ _ ?_;clear f E;go_wp2;refine mL (v:=.agg #[G (v i),G (v (i+1)),Y (R.A.extract i (i+1))]) ?_ D ⟨D,s.out,t.out⟩;have B:=aF x.out;simp[results,results151,asAddr,da,go_sem,B]
theorem Ug(c:io)(o i:Nat)(b:List dB)(h:o+ln b<=c.size)(a:i<o\/o+ln b<=i):(gX c o b)[i]?=c[i]?:=by rw[<-Xd,jP _ _ _ h];grind
theorem Xq(c:io)(o k:Nat)(b:List dB)(h:o+ln b<=c.size)(a:k<ln b):(gX c o b)[o+k]?=b[k]?:=by rw[<-Xd,jP _ _ _ h];grind
def z193:Tryz.zeroCells178[193]?=H (G 0):=by kernel_rfl
def z194:Tryz.zeroCells178[194]?=H (gq):=by kernel_rfl
def z196:Tryz.zeroCells178[196]?=H (.bool I):=by kernel_rfl
def z198:Tryz.zeroCells178[198]?=H (.bool I):=by kernel_rfl
def Yq(bs bm bB r:Nat)(a:io)(R:RC)(b Q:Nat)(w0:J):fS:={bm:=bm,A:=bB,Q:=r,P:=a,R:=xE R b Q,K:=7,L:=w0,a:=gq,B:=[],bs:=bs}
def Un(R:RC)(c Q:Nat)(s:O)(b:Bool)(d:s=R.a)(a:b=R.e):((xE R c Q).setIfInBounds 7 (Y s)).setIfInBounds 8 (.bool b)=xE R c Q:=by subst d a;rfl
theorem Tb{d f a x:Nat}{e:mh}(h:(S0 d f a x).h i=H e):e=⟨⟨#[]⟩,[],F,[]⟩:=by
 have:=N.eH h
 match i,this with
 |0,this=>
  have o:H (zE.el ⟨⟨#[]⟩,[],F,[]⟩)=H (.el e):=this;grind
 |i+1,this=>grind[S0]
theorem alA(d f a x:Nat):Wf (S0 d f a x) where
 A:=λx o=>by cases o
 B:=λx o=>by cases o
 head:=rfl
 j:=rfl
 E:=λi e h=>by rw[Tb h];rfl
 q:=λi e h k u=>by grind[Tb]
 u:=rfl
theorem akq(bs bm bB b r:Nat)(d f a:Nat)(w W:J)(R:RC)(K:aju bm bB b d f a (.func (.func 49) #[dq r] #[]) w W)(y:Rd W r R 0 0)(E:R.a=⟨#[]⟩)(L:R.e=I)(hd:d<=64)(hf:f<=32)(ha:a<=16)(A:bs<=zq w.heap)(n:bs<=r):∃s c,c 0=b/\RF (Yq bs bm bB r s R 0 0 W) c (S0 d f a 0) W:=by
 have⟨c6,cs,v1,v2,v3,hb,hc6,hru,h1,l,h3⟩:=K.dP;have a3:=hru.1;have q:c6.size=199:=by rw[hc6];simp[BT,rJ]
 have a2:4+ln cs<=c6.size:=by rw[a3,q];decide
 have o:=λi u=>Ug c6 4 i cs a2 (by omega);have z:∀i,188<=i->(gX c6 4 cs)[i]?=Tryz.zeroCells178[i]?:=λi u=>by rw[o i (.inr (by omega)),hc6];simp only[zD];grind[xj]
 have N:b<zq W.heap:=fp K.u;refine⟨gX c6 4 cs,λi=>if i=0 then b else zq W.heap+i,D,⟨⟨_,λ_=> .slice F 0 0,λ_=> .slice F 0 0,gq,gq,gq⟩,D,?_⟩⟩;have low:∀i v,i<4->c6[i]?=H v->(gX c6 4 cs)[i]?=H v:=λi v u h=>(o i (.inl u)).trans h;have c0:c6[0]?=H (G d):=by rw[hc6];simp[j9,zD,rJ]
 have c1:c6[1]?=H (G f):=by rw[hc6];simp[j9,zD,rJ]
 have c2:c6[2]?=H (G a):=by rw[hc6];simp[j9,zD,rJ]
 have c3:c6[3]?=H (.func (.func 49) #[dq r] #[]):=by rw[hc6];simp[j9,zD,rJ]
 have U:(gX c6 4 cs)[184]?=H v1:=by rw[o _ (.inr (by omega)),hc6];simp[j9,zD,rJ]
 have X:(gX c6 4 cs)[185]?=H v2:=by rw[o _ (.inr (by omega)),hc6];simp[j9,zD,rJ]
 have a0:(gX c6 4 cs)[186]?=H v3:=by rw[o _ (.inr (by omega)),hc6];simp[j9,zD,rJ]
 have a1:(gX c6 4 cs)[187]?=H (fc b):=by rw[o _ (.inr (by omega)),hc6];simp[j9,zD,rJ]
 exact
  {d:=Fr.refl _
   env:={z:=⟨cs,λk hk=>Xq c6 4 k cs a2 (by omega),hru⟩,IA:=low 3 _ (by decide) c3,spec:=⟨v1,U,h1⟩,A:=⟨v2,X,l⟩,B:=⟨v3,a0,h3⟩,u:=a1}
   k:=⟨low 0 _ (by decide) c0,low 1 _ (by decide) c1,low 2 _ (by decide) c2,hd,hf,ha⟩
   B:=λi nd u=>by
    match i,u with
    |0,u=>
     have e:nd=.el ⟨⟨#[]⟩,[],F,[]⟩:=by have:H (zE.el ⟨⟨#[]⟩,[],F,[]⟩)=H nd:=u;exact(jS this).symm
     subst e;exact⟨⟨K.u,mY _ _ _ _,eZ _,⟨_,_,_,D⟩⟩,mY _ _ _ _,eZ _⟩
    |i+1,u=>simp[S0]at u
   inj:=λi j h=>by have t:(if i=0 then b else zq W.heap+i)=(if j=0 then b else zq W.heap+j):=h;by_cases u:i=0<;>by_cases m:j=0<;>simp only[u,m,↓reduceIte]at t|- <;>omega
   b:=λi j g u m P B=>by simp[dl]at B
   m:=λi u C=>D
   T:=λi j e g h1 l h3 Q x=>by simp[dl]at x
   f:=λi u C=>D
   wf:=alA d f a 0
   dP:=⟨_,hb,{size:=by grind[jb],low:=λi u=>D,A:=(z 188 (by omega)).trans (by kernel_rfl),B:=(z 189 (by omega)).trans (by kernel_rfl),head:=(z 190 (by omega)).trans (by kernel_rfl),j:=(z 191 (by omega)).trans (by kernel_rfl),g:=(z 192 (by omega)).trans (by kernel_rfl),kept:=(z 193 (by omega)).trans (by kernel_rfl),wait:=(z 194 (by omega)).trans (by kernel_rfl),q:=(z 195 (by omega)).trans (by kernel_rfl),W:=(z 196 (by omega)).trans (by kernel_rfl),K:=(z 197 (by omega)).trans (by kernel_rfl),P:=(z 198 (by omega)).trans (by kernel_rfl)}⟩
   R:=mY _ _ _ _
   S:=mY _ _ _ _
   o:=λg B=>by simp[dl]at B
   P:=eZ _
   W:=eZ _
   K:=mY _ _ _ _
   s:=eZ _
   rd:=by show W.heap[r]?=H (.cells (((xE R 0 0).setIfInBounds 7 (Y iJ)).setIfInBounds 8 (.bool I)) _ _);rw[Un R 0 0 _ _ E.symm L.symm];exact y
   u:=by show 7+1<9;decide
   tok:=mY _ _ _ _
   q:=eZ _
   t:=gR A K.k.size
   A:=gR A K.new
   Q:=n
   X:=λi u=>by
    have O:i<1:=u;have:i=0:=by omega
    subst this;exact gR A K.A
   c:=λh=>by grind[S0]
   U:=λi g u B=>by simp[dl]at B
   a:=λg B=>by have p:(gq).ownBlock=H g:=B;simp[dl]at p
   r:=λv M=>by cases M}
def R5.move(h:R5 E bD)(u:Fr E.bs E.L w)(B:yD E.bm w U)(A:∀(b:Nat)(o:Array MapEntry)(d:Nat),w.heap[b]?=H (Obj.map o d)->U.heap[b]?=H (Obj.map o d)):R5 {E with L:=U} bD:=by
 have a:=(u.n E.bm).trans B;have z:∀{R:Option _} {v:dB},qN E.bm E.A bD R v E.L->qN E.bm E.A bD R v U:=by
  intro R v h;cases R with
  |none=>exact h
  |some R=>
   have⟨b,hb⟩:=h;have⟨o,d,hat⟩:=hb.at;exact⟨b,hb.d a ((A b o d ((u.calm (.inl hb.at)).trans hat)).trans hat.symm)⟩
 have⟨cs,h1,h2,h3⟩:=h.z;have⟨v1,a1,b1⟩:=h.spec;have⟨v2,a2,b2⟩:=h.A;have⟨v3,a3,b3⟩:=h.B;exact⟨⟨cs,h1,h2,λm c K=>by have⟨v0,v1,v2,v3,v4,v5,v6,v7,v8,v9,e,hi⟩:=h3 m c K;exact⟨v0,v1,v2,v3,v4,v5,v6,v7,v8,v9,e,⟨hi.blank.d a,hi.fI.d a,hi.dz.d a,hi.eG.d a,hi.dZ.d a,z hi.start,z hi.stop,hi.B.d a,hi.A.d a,hi.l.d a⟩⟩⟩,h.IA,⟨v1,a1,b1.d a⟩,⟨v2,a2,b2.d a⟩,⟨v3,a3,b3.d a⟩,h.u⟩
structure Lk(w:J)(b:Nat)(look:O->Option O):Prop where
 lt:b<zq w.heap
 short:∀key t,look key=H t->t.size<=16
 run:∀(key:O)(w':J),w'.heap[b]?=w.heap[b]?->(fO 158 (.map (H b)) (Y key) C).run prog w'=.ok (.tuple #[.agg #[Y ((look key).getD ⟨#[]⟩)],.bool (look key).isSome]) w'
theorem Lk.kept{T:O->Option O}(h:Lk w b T)(o:Z S w U)(u:b∉S):Lk U b T:=
 ⟨kQ h.lt o.size,h.short,λa d e=>h.run a d (e.trans (o.block b h.lt u))⟩
open Go.ChangeMaps (setBlock)
def TI(e:MapEntry):dB×dB:=(e.key,e.val)
def kv(p:O×O):dB×dB:=(Y p.1,.agg #[Y p.2])
structure Mp(w:J)(b:Nat)(L:iB)(es:Array MapEntry)(clock:Nat):Prop where
 at_:w.heap[b]?=H (.map es clock)
 A:es.toList.map TI=L.map kv
 B:(es.toList.map (·.born)).Nodup
 old:∀x∈es.toList,x.born<clock
theorem Mp.kept{a:Array MapEntry}(h:Mp w b L a clock)(e:Z S w U)(d:b∉S):Mp U b L a clock:=⟨e.at h.at_ d,h.A,h.B,h.old⟩
theorem Qe(k:O):∀(a:List MapEntry)(L:iB)(i:Nat),a.map TI=L.map kv->L.all (λp=>!(k==p.1))=C->gA .string (Y k) a i=H F
 |[],_,_,_,_=>rfl
 |e::a,[],_,h,_=>by grind
 |e::a,p::L,i,h,hn=>by simp at h;simp only[List.all_cons,fq]at hn;have d:e.key=Y p.1:=mf Prod.fst h.1;unfold gA;simp[d,lD,(by simpa using hn.1)];exact Qe k a L _ h.2 hn.2
theorem S9(k:O):∀(a:List MapEntry)(L:iB)(i:Nat)(p:O×O),a.map TI=L.map kv->L.find? (λp=>k==p.1)=H p->∃j,gA .string (Y k) a i=H (H (j,.agg #[Y p.2]))
 |[],[],_,_,_,h=>by grind
 |[],_::_,_,_,h,_=>by grind
 |e::a,[],_,_,h,_=>by grind
 |e::a,q::L,i,p,h,hp=>by simp at h;have d:e.key=Y q.1:=mf Prod.fst h.1;have o:e.val=.agg _:=mf Prod.snd h.1;unfold gA;cases hf:(k==q.1);simp[d,lD,hf];rw[List.find?_cons,hf]at hp;exact S9 k a L _ p h.2 hp;simp[lD];simp_all
theorem BQ{a:J}(h:Z S a w)(d:b∈S\/zq a.heap<=b)(o:Obj):Z S a (setBlock w b o):=
 ⟨h.os,h.tape,h.output,by show zq a.heap<=(w.heap.setIfInBounds b o).size;rw[Vh];exact h.size,λk e u=>by show(w.heap.setIfInBounds b o)[k]?=_;grind[Z.block]⟩
theorem Iu(h:b<zq w.heap)(o:Obj):(setBlock w b o).heap[b]?=H o:=by show(w.heap.setIfInBounds b o)[b]?=_;grind
theorem rH{o:Array MapEntry}(h:Mp w b L o clock)(k t:O)(B:L.all (λp=>!(k==p.1))=C):∃U u a,(ew 158 (.map (H b)) (Y k) (.agg #[Y t])).run prog w=.ok () U/\Mp U b (L++[(k,t)]) u a/\Z [b] w U/\U.heap.size=zq w.heap:=by
 refine⟨setBlock w b (.map (o.push {key:=Y k,val:=.agg #[Y t],born:=clock}) (clock+1)),_,_,?_,⟨Iu (fp h.at_) _,?_,?_,?_⟩,BQ (Z.refl _ _) (.inl (by simp)) _,?_⟩;have A:(gg I 10000 9 (Y k)).run prog w=.ok () w:=by unfold gg;simp[(sY underlying9 _)]
 simp[ew,Mt h.at_,A,gj,(sY underlying9 _),(Qe k o.toList L 0 h.A B),setObj,Sem.run,h.at_,setBlock,da];grind[Mp.A,TI,kv];simp;rw[List.nodup_append];refine⟨h.B,by simp,?_⟩;intro x d y c e;obtain⟨z,K,rfl⟩:=dW.1 d;have:=h.old z K;grind;intro x d;simp only[Array.toList_push,dA,cC]at d;rcases d with d|rfl;have:=h.old x d;omega;simp;show(w.heap.setIfInBounds b _).size=_;simp
def fh(L:iB)(k:O):Option O:=(L.find? (λp=>k==p.1)).map (·.2)
def RO(w:J):(zeroValue 204).run prog w=.ok (.agg #[Y iJ]) w:=by simp
theorem Mp.lk{a:Array MapEntry}(h:Mp w b L a clock)(u:L.all (λp=>decide (p.2.size<=16))=C):Lk w b (fh L) where
 lt:=fp h.at_
 short k t ht:=by unfold fh at ht;grind[Option.map_eq_some_iff]
 run k U e:=by
  have o:∀x,(gg x 10000 9 (Y k)).run prog U=.ok () U:=λx=>by unfold gg;simp
  cases hf:L.find? (λp=>k==p.1)with
  |none=>
   have d:fh L k=F:=by unfold fh;rw[hf];rfl
   rw[d];simp[fO,Mt (e.trans h.at_),o,gj,(Qe k a.toList L 0 h.A (by grind)),RO,da]
  |some p=>
   have⟨j,h1⟩:=S9 k a.toList L 0 p h.A hf;have d:fh L k=H p.2:=by unfold fh;rw[hf];rfl
   rw[d];simp[fO,Mt (e.trans h.at_),o,gj,h1,da]
open Go.ChangeMaps (setBlock)
def kv0:iB:=[(⟨#[97,112,111,115,59]⟩,sB),(li,⟨#[226,132,151]⟩),(mj,⟨#[226,136,137]⟩),(mn,⟨#[226,136,140]⟩),(lf,oM),(⟨#[112,97,114,59]⟩,⟨#[226,136,165]⟩),(lh,⟨#[226,138,160]⟩),(⟨#[98,110,101,59]⟩,⟨#[61,226,131,165]⟩),(⟨#[84,97,98,59]⟩,⟨#[9]⟩),(jX,AW)]
def aiY:iB:=[(⟨#[65,77,80]⟩,uM),(⟨#[97,109,112]⟩,uM),(⟨#[108,116]⟩,oY),(⟨#[103,116]⟩,eV),(⟨#[113,117,111,116]⟩,mg),(⟨#[110,98,115,112]⟩,uh),(⟨#[99,111,112,121]⟩,⟨#[194,169]⟩),(⟨#[110,111,116]⟩,⟨#[194,172]⟩),(⟨#[112,97,114,97]⟩,⟨#[194,182]⟩),(oL,⟨#[195,151]⟩)]
def DF(j:Nat):iB:=kv0++(aiY.take j).flatMap λp=>[(p.1,p.2),(p.1++⟨#[59]⟩,p.2)]
def zL(j:Nat):O×O:=aiY.getD j (⟨#[]⟩,⟨#[]⟩)
def wC:io:=#[Y ⟨#[65,77,80]⟩,Y uM,Y ⟨#[97,109,112]⟩,Y uM,Y ⟨#[108,116]⟩,Y oY,Y ⟨#[103,116]⟩,Y eV,Y ⟨#[113,117,111,116]⟩,Y mg,Y ⟨#[110,98,115,112]⟩,Y uh,Y ⟨#[99,111,112,121]⟩,Y ⟨#[194,169]⟩,Y ⟨#[110,111,116]⟩,Y ⟨#[194,172]⟩,Y ⟨#[112,97,114,97]⟩,Y ⟨#[194,182]⟩,Y oL,Y ⟨#[195,151]⟩]
def ahK:Bool:=(et 10).all λj=>(DF j).all (λp=>!((zL j).1==p.1))&&(DF j++[zL j]).all (λp=>!(((zL j).1++⟨#[59]⟩)==p.1))&&decide ((zL j).1.size<=8)
def aeQ:ahK=C:=rfl
def abr(h:j<10):wC[j*2]?=H (Y (zL j).1)/\wC[j*2+1]?=H (Y (zL j).2):=by rcases(by omega:j=0\/j=1\/j=2\/j=3\/j=4\/j=5\/j=6\/j=7\/j=8\/j=9)with rfl|rfl|rfl|rfl|rfl|rfl|rfl|rfl|rfl|rfl<;>exact⟨D,D⟩
def ad1(h:j<10):DF (j+1)=DF j++[zL j]++[((zL j).1++⟨#[59]⟩,(zL j).2)]:=by rcases(by omega:j=0\/j=1\/j=2\/j=3\/j=4\/j=5\/j=6\/j=7\/j=8\/j=9)with rfl|rfl|rfl|rfl|rfl|rfl|rfl|rfl|rfl|rfl<;>rfl
def KV:iB:=DF 10
theorem R8:KV.all (λp=>decide (p.2.size<=16))=C:=by rfl
def af3:KV.all (λp=>decide (p.1.size<=8))=C:=by rfl
def acf:KV.any (λp=>decide (p.1.size=8))=C:=by rfl
def aic(w0:J)(b:Nat)(X:Mp w0 b [] #[] 0):∃d e h o u z A B K a:J,(ew 158 (.map (H b)) (Y ⟨#[97,112,111,115,59]⟩) (.agg #[Y sB])).run prog w0=.ok () d/\(ew 158 (.map (H b)) (Y li) (.agg #[Y ⟨#[226,132,151]⟩])).run prog d=.ok () e/\(ew 158 (.map (H b)) (Y mj) (.agg #[Y ⟨#[226,136,137]⟩])).run prog e=.ok () h/\(ew 158 (.map (H b)) (Y mn) (.agg #[Y ⟨#[226,136,140]⟩])).run prog h=.ok () o/\(ew 158 (.map (H b)) (Y lf) (.agg #[Y oM])).run prog o=.ok () u/\(ew 158 (.map (H b)) (Y ⟨#[112,97,114,59]⟩) (.agg #[Y ⟨#[226,136,165]⟩])).run prog u=.ok () z/\(ew 158 (.map (H b)) (Y lh) (.agg #[Y ⟨#[226,138,160]⟩])).run prog z=.ok () A/\(ew 158 (.map (H b)) (Y ⟨#[98,110,101,59]⟩) (.agg #[Y ⟨#[61,226,131,165]⟩])).run prog A=.ok () B/\(ew 158 (.map (H b)) (Y ⟨#[84,97,98,59]⟩) (.agg #[Y ⟨#[9]⟩])).run prog B=.ok () K/\(ew 158 (.map (H b)) (Y jX) (.agg #[Y AW])).run prog K=.ok () a/\(∃U clock,Mp a b kv0 U clock)/\Z [b] w0 a/\a.heap.size=zq w0.heap:=by have⟨d,es1,c1,r1,m1,k1,z1⟩:=rH X ⟨#[97,112,111,115,59]⟩ sB (rfl);have⟨e,es2,c2,r2,m2,k2,z2⟩:=rH m1 li ⟨#[226,132,151]⟩ (rfl);have⟨h,es3,c3,r3,m3,k3,z3⟩:=rH m2 mj ⟨#[226,136,137]⟩ (rfl);have⟨o,es4,c4,r4,m4,k4,z4⟩:=rH m3 mn ⟨#[226,136,140]⟩ (by rfl);have⟨u,es5,c5,r5,m5,k5,z5⟩:=rH m4 lf oM (rfl);have⟨z,es6,c6,r6,m6,k6,z6⟩:=rH m5 ⟨#[112,97,114,59]⟩ ⟨#[226,136,165]⟩ (rfl);have⟨A,es7,c7,r7,m7,k7,z7⟩:=rH m6 lh ⟨#[226,138,160]⟩ (by rfl);have⟨B,es8,c8,r8,m8,k8,z8⟩:=rH m7 ⟨#[98,110,101,59]⟩ ⟨#[61,226,131,165]⟩ D;have⟨K,es9,c9,r9,m9,k9,z9⟩:=rH m8 ⟨#[84,97,98,59]⟩ ⟨#[9]⟩ D;have⟨a,es10,c10,r10,m10,k10,z10⟩:=rH m9 jX AW D;exact⟨d,e,h,o,u,z,A,B,K,a,r1,r2,r3,r4,r5,r6,r7,r8,r9,r10,⟨_,_,m10⟩,(((((((((k1).trans k2).trans k3).trans k4).trans k5).trans k6).trans k7).trans k8).trans k9).trans k10,by omega⟩
def ajs(w:J)(a bm j:Nat)(wr:J):Prop:=
 (∃e d,Mp wr bm (DF j) e d)/\wr.heap[a]?=H (dr #[.map (H bm),G 0] 160)/\wr.heap[a+1]?=H (dr wC 205)/\wr.heap[zq w.heap]?=H (dr #[.map F,G 0] 160)/\Z [] w wr
def ahf:dB->Nat
 | .string k=>k.size
 |_=>0
structure ajt(w:J)(nb bm it:Nat)(es:Array MapEntry)(ck:Nat)(wr:J)(seen:Array Nat)(c0 M:Nat):Prop where
 iter:wr.heap[it]?=H (.mapIter (H bm) ck seen c0)
 late:ck<=c0
 mp:Mp wr bm KV es ck
 E:wr.heap[nb]?=H (dr #[.map (H bm),G M] 160)
 B:wr.heap[zq w.heap]?=H (dr #[.map F,G 0] 160)
 le:M<=8
 A:∀e∈es.toList,seen.contains e.born=C->ahf e.key<=M
 kept:Z [] w wr
 size:it<zq wr.heap
theorem ake{a:Array MapEntry}(h:a.toList.map TI=L.map kv){e:MapEntry}(d:e∈a.toList):∃p∈L,e.key=Y p.1:=by
 have:TI e∈L.map kv:=by grind
 have⟨p,hp,e1⟩:=dW.1 this;exact⟨p,hp,(mf Prod.fst e1).symm⟩
theorem adl{a:Array MapEntry}(h:a.toList.map TI=L.map kv){p:O×O}(d:p∈L):∃e∈a.toList,e.key=Y p.1:=by
 have:kv p∈a.toList.map TI:=by grind
 have⟨e,he,e1⟩:=dW.1 this;exact⟨e,he,mf Prod.fst e1⟩
theorem Uu(w:J):dS 61 #[] w λe U=>∃b,e=ff (.agg #[.map (H b),G 8])/\w.heap.size<=b/\Lk U b (fh KV)/\Z [] w U:=by
 obtain⟨a,c⟩:∃a,a=w.alloc (.cells #[.map F,G 0] 160):=⟨_,D⟩;have za:zq a.heap=zq w.heap+1:=by rw[c];simp
 obtain⟨i,B⟩:∃i,i=a.alloc (.map #[] 0):=⟨_,D⟩;have ka:Z [] w a:=by rw[c];exact(Z.refl _ _).alloc _
 have kb:Z [] a i:=by rw[B];exact(Z.refl _ _).alloc _
 have hA:a.heap[zq w.heap]?=H (dr #[.map F,G 0] 160):=by rw[c];exact aY w _
 have ag:Mp i a.heap.size [] #[] 0:=⟨by rw[B];exact aY a _,D,by simp,by simp⟩;have zb:zq i.heap=zq a.heap+1:=by rw[B];simp
 have⟨w1,w2,w3,w4,w5,w6,w7,w8,w9,w10,r1,r2,r3,r4,r5,r6,r7,r8,r9,r10,⟨es,ck,HM⟩,k10,z10⟩:=aic i a.heap.size ag;have aj:(Instr.makeMap 158 F).run prog a=.ok (.map (H a.heap.size)) i:=by rw[B];rfl
 have af:=V c.symm;have ap:=B.symm;have x:=(show Z [] w w10 from((ka.trans kb).next k10 (by grind)));have HA:=(show w10.heap[zq w.heap]?=_ from k10.at (kb.at hA (by simp)) (by grind));have P:=V (show zq w10.heap=zq w.heap+2 by omega);have a3:=V za;clear c B ka kb hA ag zb k10 za z10;go_enter func61,ntmps61;go_wp21;rw[af.out,aj];clear aj af ap;go_wp2_with fail;obtain⟨W,l⟩:∃W,W=(w10.alloc (.cells #[.map (H a.heap.size),G 0] 160)).alloc (.cells wC 205):=⟨_,D⟩;have N:Z [] w10 W:=by rw[l];exact((Z.refl _ _).alloc _).alloc _
 have u:W.heap[zq w10.heap]?=H (dr #[.map (H a.heap.size),G 0] 160):=by rw[l,dc _ _ _ (by simp)];exact aY w10 _
 have K:W.heap[zq w10.heap+1]?=H (dr wC 205):=by have:=aY (w10.alloc (.cells #[.map (H a.heap.size),G 0] 160)) (.cells wC 205);rw[l];simpa using this
 have HS:Hid (ajs w w10.heap.size a.heap.size 0 W):=⟨⟨es,ck,HM.kept N (by simp)⟩,u,K,N.at HA (by simp),x.trans N⟩;have an:wC=#[Y ⟨#[65,77,80]⟩,Y uM,Y ⟨#[97,109,112]⟩,Y uM,Y ⟨#[108,116]⟩,Y oY,Y ⟨#[103,116]⟩,Y eV,Y ⟨#[113,117,111,116]⟩,Y mg,Y ⟨#[110,98,115,112]⟩,Y uh,Y ⟨#[99,111,112,121]⟩,Y ⟨#[194,169]⟩,Y ⟨#[110,111,116]⟩,Y ⟨#[194,172]⟩,Y ⟨#[112,97,114,97]⟩,Y ⟨#[194,182]⟩,Y oL,Y ⟨#[195,151]⟩]:=rfl;rw[an]at l;rw[<-l];clear l N u K an HM x HA r1 r2 r3 r4 r5 r6 r7 r8 r9 r10
 go_loopw [30] (λv wr=>∃j:Nat,v=G j/\j<=10/\ajs w w10.heap.size a.heap.size j wr) (λv _=>10-(intOf v).toNat)
 case atStart=>exact⟨0,D,by omega,HS.out⟩
 case round=>
  obtain⟨j,rfl,hj,h1⟩:=hrel;by_cases ab:j<10
  .have⟨⟨es1,ck1,mp1⟩,u,K,hR,hk⟩:=h1;have rc:=abr ab;have x0:wr.cell? ⟨zq w10.heap+1,j*2,F⟩=H (Y (zL j).1):=by rw[aF K];exact rc.1
   have x1:wr.cell? ⟨zq w10.heap+1,j*2+1,F⟩=H (Y (zL j).2):=by rw[aF K];exact rc.2
   have⟨q,n2,n3⟩:=(show(DF j).all (λp=>!((zL j).1==p.1))=C/\(DF j++[zL j]).all (λp=>!(((zL j).1++⟨#[59]⟩)==p.1))=C/\(zL j).1.size<=8 by have:=dm.1 aeQ j (List.mem_range.2 ab);grind)
   have X:=ad1 ab;generalize hn:(zL j).1=nm at *;generalize ht:(zL j).2=tx at *;have ak:zL j=(nm,tx):=by rw[<-hn,<-ht]
   rw[ak]at n2 X;clear hn ht ak;obtain⟨y,E⟩:∃y,y=wr.alloc (.cells #[Y nm,Y tx] 205):=⟨_,D⟩;have m:Z [] wr y:=by rw[E];exact(Z.refl _ _).alloc _
   have L:y.heap[zq wr.heap]?=H (dr #[Y nm,Y tx] 205):=by rw[E];exact aY wr _
   have⟨W2,es2,ck2,ru2,mp2,k2,s2⟩:=rH (mp1.kept m (by simp)) nm tx q;have⟨W3,es3,ck3,ru3,mp3,k3,s3⟩:=rH mp2 (nm++⟨#[59]⟩) tx n2;have ar:=fp mp1.at_;have aA:=fp u;have bN:zq a.heap≠zq w10.heap:=λe=>by rw[<-e,mp1.at_]at u;simp at u
   have bG:zq a.heap≠zq w10.heap+1:=λe=>by rw[<-e,mp1.at_]at K;simp at K
   have bR:zq a.heap≠zq w.heap:=λe=>by rw[<-e,mp1.at_]at hR;simp at hR
   have Q:=m.at u (by simp);have R:=k2.at Q (by grind);have S:=k2.at L (by simp;omega);have a0:=aF u 0;have a1:=aF Q 0;have a2:=aF R 0;have y0:=aF L 0;have y1:=aF L 1;have z0:=aF S 0;have z1:=aF S 1;dsimp at a0 a1 a2 y0 y1 z0 z1;have t:Hid (ajs w w10.heap.size a.heap.size (j+1) W3):=by refine⟨⟨es3,ck3,by rw[X];exact mp3⟩,k3.at R (by grind),k3.at (k2.at (m.at K (by simp)) (by grind)) (by grind),k3.at (k2.at (m.at hR (by simp)) (by grind)) (by grind),?_⟩;have aK:=a3.out;exact((hk.trans m).next k2 (by simp;omega)).next k3 (by simp;omega)
   rw[E]at ru2;clear a1 y0 y1 mp1 u K hR hk rc q n2 X m L mp2 k2 s2 mp3 k3 s3 Q R S bN bG bR ar;clear E;go_wp2;go_roundw
   case rel=>exact⟨j+1,by go_num,by omega,t.out⟩
   case measure=>simp[intOf];omega
  .have aq:j=10:=by omega
   subst aq;have⟨⟨es1,ck1,mp1⟩,u,K,hR,hk⟩:=h1;have a0:=aF u 0;dsimp at a0;have av:=run_range_map (P:=prog) wr 158 9 204 a.heap.size es1 ck1 underlying158 mp1.at_;have s:Z [] wr (wr.alloc (.mapIter (H a.heap.size) ck1 #[] ck1)):=(Z.refl _ _).alloc _;have ae:Hid (ajt w w10.heap.size a.heap.size wr.heap.size es1 ck1 (wr.alloc (.mapIter (H a.heap.size) ck1 #[] ck1)) #[] ck1 0):=
    ⟨aY wr _,dF _,mp1.kept s (by simp),s.at u (by simp),s.at hR (by simp),by omega,by simp,hk.trans s,by simp⟩
   have g:zq w10.heap≠zq wr.heap:=by have:=fp u;omega
   have bR:zq w.heap≠zq wr.heap:=by have:=fp hR;omega
   have k:zq a.heap≠zq wr.heap:=by have:=fp mp1.at_;omega
   have A:zq w.heap≠zq w10.heap:=by have:=P.out;omega
   have z:zq w10.heap≠zq a.heap:=by have:=P.out;have:=a3.out;omega
   have ad:=(show zq w.heap<=zq wr.heap from hk.size);have Hb:=And.intro g (And.intro bR (And.intro k (And.intro A z)));clear mp1 u K hR hk s g bR k A z;go_wp21;clear av a0;obtain⟨it,ai⟩:∃it,it=zq wr.heap:=⟨_,D⟩;rw[<-ai]at ae Hb ad|-;clear ai
   go_loopw [] (λwq=>∃d c0 M,ajt w w10.heap.size a.heap.size it es1 ck1 wq d c0 M) (λwq=>(leftOf es1 (wq.iterSeen it)).size)
   case atStart=>exact⟨_,_,_,ae.out⟩
   case round=>
    have⟨d,c0,M,h2⟩:=hrel;have⟨g,bR,k,A,z⟩:=Hb;have ac:wr.iterSeen it=d:=by unfold World.iterSeen;rw[h2.iter]
    rcases run_next_at (P:=prog) wr 0 it a.heap.size ck1 c0 d es1 ck1 h2.iter h2.mp.at_ h2.mp.old h2.late with⟨h0,a6⟩|⟨f,T,wv,aw,a6⟩
    .have hM:M=8:=by
      have h8:=acf;rw[List.any_eq_true]at h8;have⟨p,hp,al⟩:=h8;have⟨e,r,hk⟩:=adl h2.mp.A hp;have h9:=h2.A e r (all_seen es1 d h0 e r);rw[hk]at h9;have ay:p.1.size=8:=by simpa using al
      have az:p.1.size<=M:=h9;have:=h2.le;omega
     subst hM;have n0:=aF h2.E 0;have q:=aF h2.E 1;have d0:=aF h2.B 0;have d1:=aF h2.B 1;have f0:=cY h2.B 0;have f1:=cY h2.B 1;dsimp at n0 q d0 d1;have x:Z [] w ((wr.setCell ⟨zq w.heap,0,F⟩ (.map (H a.heap.size))).setCell ⟨zq w.heap,1,F⟩ (G 8)):=(h2.kept.setCell (.inr (dF _)) _).setCell (.inr (dF _)) _;have kr:Z [zq w.heap] wr ((wr.setCell ⟨zq w.heap,0,F⟩ (.map (H a.heap.size))).setCell ⟨zq w.heap,1,F⟩ (G 8)):=((Z.refl _ _).setCell (.inl (by simp)) _).setCell (.inl (by simp)) _;have HL:=((h2.mp.kept kr (by simp;have:=a3.out;omega)).lk R8);have au:zq w.heap<=zq a.heap:=by have:=a3.out;omega
     clear h2 ac h0 kr g bR k A z;go_wp2;refine mL (v:=.agg #[.map (H a.heap.size),G 8]) ?_ D ⟨_,D,au,HL,x⟩;simp[results,results61,asAddr,da,go_sem,d0,d1]
    .have⟨he1,he2⟩:=mem_left T;have⟨p,hp,hkey⟩:=ake h2.mp.A he1;have al:p.1.size<=8:=by
      have:=dm.1 af3 p hp
      simpa using this
     have ax:=left_shrinks es1 d f T;obtain⟨wz,I⟩:∃wz,wz=setBlock wv it (.mapIter (H a.heap.size) ck1 (d.push f.born) ck1):=⟨_,D⟩;rw[<-I,hkey]at a6;have o:Z [] wr wv:=by rcases aw with rfl|rfl;exact Z.refl _ _;exact(Z.refl _ _).drew
     have n:Z [it] wv wz:=by rw[I];exact BQ (Z.refl _ _) (.inl (by simp)) _
     have iz:wz.heap[it]?=H (.mapIter (H a.heap.size) ck1 (d.push f.born) ck1):=by rw[I];exact Iu (kQ h2.size o.size) _
     have O:=(h2.mp.kept o (by simp)).kept n (by simpa using k);have nz:=n.at (o.at h2.E (by simp)) (by simpa using g);have rz:=n.at (o.at h2.B (by simp)) (by simpa using bR);have ah:=run_entry_at (P:=prog) wz it a.heap.size ck1 d es1 ck1 f iz O.at_ he1 O.B;rw[hkey]at ah;have q:=aF nz 1;have f1:=cY nz 1;dsimp at q;have aB:max (M:Int) (p.1.size:Int)=((max M p.1.size:Nat):Int):=by omega
     have X:Z [zq w10.heap] wz (wz.setCell ⟨zq w10.heap,1,F⟩ (G ((max M p.1.size:Nat)))):=(Z.refl _ _).setCell (.inl (by simp)) _;have ao:=bH nz 1 (G ((max M p.1.size:Nat)));have t:Hid (ajt w w10.heap.size a.heap.size it es1 ck1 (wz.setCell ⟨zq w10.heap,1,F⟩ (G ((max M p.1.size:Nat)))) (d.push f.born) ck1 (max M p.1.size)):=by
      refine⟨X.at iz (by simpa using λe=>g e.symm),dF _,O.kept X (by simpa using λe=>z e.symm),ao,X.at rz (by simpa using A),by have:=h2.le;omega,?_,?_,?_⟩;intro e r hc;rw[contains_push]at hc;rcases Bool.or_eq_true_iff.1 hc with h|h;have:=h2.A e r h;omega;have e1:e.born=f.born:=by simpa using h
      have e2:e=f:=by have q1:=find_born e es1.toList h2.mp.B r;have q2:=find_born f es1.toList h2.mp.B he1;rw[e1,q2]at q1;exact(jS q1).symm
      rw[e2,hkey];show p.1.size<=_;omega
      .have aL:=P.out;have aM:=fp h2.B;exact((h2.kept.trans o).next n (by simp;exact ad)).next X (by simp;omega)
      exact kQ h2.size (gR o.size (gR n.size X.size))
     have aE:(wz.setCell ⟨zq w10.heap,1,F⟩ (G ((max M p.1.size:Nat)))).iterSeen it=d.push f.born:=by unfold World.iterSeen;rw[t.out.iter]
     clear h2 O nz rz iz o n X ao I he1 he2 T hp hkey g bR k A z;generalize p.1=aP at *;go_wp2;go_roundw
     case rel=>exact⟨_,_,_,t.out⟩
     simp_all
def ya(s:O)(i:Nat):Bool:=!(decide (bt s i=10)&&decide (0<i)&&decide (bt s (i-1)=13))
def bY(s:O)(n:Nat):List Nat:=(et n).filter (ya s)
def xd(s:O)(k:Nat):Int:=if bt s k=13 then 10 else bt s k
def C4(s:O)(k:Nat):UInt8:=(xd s k).toNat.toUInt8
def pq(s:O):O:=⟨((bY s s.size).map (C4 s)).toArray⟩
theorem Jf(h:ya s n=C):bY s (n+1)=bY s n++[n]:=by grind[ti,bY]
theorem VM(h:ya s n=I):bY s (n+1)=bY s n:=by grind[ti,bY]
theorem Je(s:O)(n:Nat):ln (bY s n)<=n:=by grind[bY]
theorem vz(s:O):(pq s).size=ln (bY s s.size):=by show(((bY s _).map _).toArray).size=_;simp
theorem NM(s:O)(k:Nat):((C4 s k).toNat:Int)=xd s k:=by
 have:0<=xd s k/\xd s k<=255:=by have a:=bt_nonneg s k;have d:=bt_le s k;grind[xd]
 unfold C4;simp;omega
def FC(s:O)(n:Nat):List dB:=(bY s n).map λk=> .int .u8 (xd s k)
def Cj(s:O)(n:Nat):List dB:=(bY s n).map λk:Nat=> G k
theorem qc{z A:Nat}{e1 e2:TypeId}{c f:Nat}{o u:dB}{b n2:Nat}{g i:List dB}(B:w.ownsRow z e1 c o b g)(K:w.ownsRow A e2 f u n2 i)(a0:e1≠e2)(k:Nat)(d:o.ownBlock=H k):u.ownBlock≠H k:=by intro a;rcases B.2 with⟨h,_⟩|⟨j,c1,m,h,_,U,_⟩;rw[h]at d;cases d;rcases K.2 with⟨e,_⟩|⟨l,c2,n,e,_,X,_⟩;rw[e]at a;cases a;rw[h]at d;rw[e]at a;obtain rfl:=jS d;obtain rfl:=jS a;grind
def Tv:(prog.info? 3).map (λi=>(i.zero,i.size,i.bytes))=H (H (G 0),1,8):=by kernel_rfl
theorem LH{l:List UInt8}(d:w.ownsRow base 5 1 v n (l.map λb=> .int .u8 (b.toNat:Int)))(K:ln l=n)(o:∀k,v.ownBlock=H k->U.heap[k]?=w.heap[k]?):(convert 58 9 v).run prog U=.ok (Y ⟨l.toArray⟩) U:=by
 rcases d.2 with⟨rfl,u⟩|⟨g,a,e,rfl,z,A,c⟩;have:l=[]:=NC (by omega);subst this;have:=run_convert_bytes_nil (w:=U) 58 5 underlying58 underlying5 0 0;exact this 9 underlying9;have h:=XR U 58 9 5 ⟨g,0,F⟩ a l underlying58 underlying5 underlying9 (λj B=>by rw[K3 (w:=w) (by rw[fC];exact o g D)];exact d.cells D j _ (by grind))
 grind
structure R6(s:O)(w:J)(k:Nat)(vb va:dB)(wr:J):Prop where
 b:wr.ownsRow w.heap.size 5 1 vb (ln (bY s k)) (FC s k)
 a:wr.ownsRow w.heap.size 3 1 va (ln (bY s k)) (Cj s k)
 kept:Z [] w wr
theorem R6.more{d a:dB}(u:ya s k=C){x:Int}(z:x=xd s k)(h:W.ownsRow w.heap.size 5 1 d (ln (bY s k)+1) (FC s k++[.int .u8 x]))(e:W.ownsRow w.heap.size 3 1 a (ln (bY s k)+1) (Cj s k++[G k]))(o:Z [] w W):R6 s w (k+1) d a W:=by refine⟨?_,?_,o⟩;unfold FC at h|-;grind[Jf];unfold Cj at e|-;grind[Jf]
theorem R6.same{o e:dB}(z:ya s k=I)(h:R6 s w k o e W):R6 s w (k+1) o e W:=by obtain⟨a,d,u⟩:=h;unfold FC at a;unfold Cj at d;rw[<-VM z]at a d;exact⟨a,d,u⟩
theorem Ml{l:Array Oper}{g:List Oper}{A:Oper}{a:Act}{Q:Exit->Act->J->Prop}{e f e2:TypeId}{b c:dB}{d:Nat}(m:(prog.info? e).map (λi=>(i.zero,i.size,i.bytes))=H (H b,1,d))(t:prog.underlying f=H (.slice e))(I:b.cells.size=1)(hb:d<=8)(M:c.oneCell'=C)(a3:e≠e2)(p r:Operand)(X:A.guard=F)(E:A.op=.call {callee:=.builtin .append,args:=#[p,r],argTypes:=#[f,f]}){q:dB}{no:Nat}{x:List dB}(h:W.ownsRow w.heap.size e 1 v n B)(y:W.ownsRow w.heap.size e2 1 q no x)(hk:Z [] w W)(z:a.eval p=v)(G:a.eval r=lO W.heap.size 1 1)(O:n<=2000)
  (K:∀U o,o.ownsRow w.heap.size e 1 U (n+1) (B++[c])->o.ownsRow w.heap.size e2 1 q no x->Z [] w o->wpList prog l Q g (a.put A.dst U) o):wpList prog l Q (A::g) a (W.alloc (dr #[c] e)):=by
 obtain⟨L,m,a0,a1,a2⟩:=sZ m;refine fQ _ X p r f E _ e L b 1 d t m a0 a1 a2 I (by decide) v n B z (h.alloc _) _ 1 1 [c] G D (λj u N=>?_) (λu t=>by grind) (by unfold maxLen;omega) (gR (Nat.mul_le_mul_left _ hb) (by omega)) (by have:=hk.size;grind[World.size_alloc]) λU o h3 s _=>K U o h3 ?_ ((hk.alloc _).grown s λk e=> .inr (h.lt k e).1);rw[fC,aF (aY W _)];grind
 .refine(y.alloc _).kept s ?_;cases hb:q.ownBlock<;>grind[qc]
def adA(s:O)(tv:dB)(n:Nat)(w:J)(y:w.ownsRow n 5 1 tv s.size (ji s))(z:s.size<=1024):dS 62 #[tv] w λe U=>∃av,e=ff (.tuple #[Y (pq s),av])/\U.ownsRow w.heap.size 3 1 av (ln (bY s s.size)+1) (Cj s s.size++[G s.size])/\Z [] w U:=by
 obtain⟨iu,b2,b3,b4,b5⟩:=sZ Jk;obtain⟨ii,aP,aK,aL,aM⟩:=sZ Tv;obtain⟨ao,cp,aS⟩:=df y;subst aS;have a0:∀(wr:J),Z [] w wr->∀j,j<s.size->∃g,ao=H ⟨g,0,F⟩/\wr.cell? ⟨g,j,F⟩=H (.int .u8 (bt s j)):=by
  intro wr hk j i;rcases y.2 with⟨h,h0⟩|⟨g,az,b0,h,_,hc,_⟩;omega;have L:ao=H ⟨g,0,F⟩:=by simpa using mf (λv=>match v with| .slice a _ _=>a|_=>F) h
  refine⟨g,L,?_⟩;rw[hk.cell (p:=⟨g,j,F⟩) (fp hc) (by simp)];have h1:=y.cells (g:=g) (by rw[h];rfl) j (.int .u8 (bt s j)) (by unfold ji;rw[List.getElem?_map,qM (by simpa using i)];simp only[Option.map_some];rw[show((s.data.toList[j]'(by simpa using i)).toNat:Int)=bt s j from by unfold bt;rw[ug i];simp;rfl])
  rw[fC]at h1;exact h1
 have E:=V a0;have H0:Hid (R6 s w 0 (gq) (gq) w):=⟨mY _ _ _ _,mY _ _ _ _,Z.refl _ _⟩;clear a0 y;go_enter func62,ntmps62;go_wp2_with fail
 go_loopw [4,5,10] (λvb va v wr=>∃k:Nat,v=G k/\k<=s.size/\R6 s w k vb va wr) (λ_ _ v _=>s.size-(intOf v).toNat)
 case atStart=>exact⟨0,D,eZ _,H0.out⟩
 case round=>
  obtain⟨k,rfl,hk,A⟩:=hrel;by_cases aQ:k<s.size
  .obtain⟨g,L,c1⟩:=E.out wr A.kept k aQ;subst L;have l:=V A;obtain⟨P,bc,a2⟩:=df A.b;obtain⟨ax,t,a1⟩:=df A.a;subst a2 a1;have h0:=bt_nonneg s k;have h1:=bt_le s k;have aB:=Je s k;have f:0<k->wr.cell? ⟨g,k-1,F⟩=H (.int .u8 (bt s (k-1))):=λ_=>by
    obtain⟨g',c,f⟩:=E.out wr A.kept (k-1) (by omega);obtain rfl:g=g':=by simpa using c
    exact f
   clear A;cases hkp:ya s k with
   |false=>
    have p:bt s k=10/\0<k/\bt s (k-1)=13:=by unfold ya at hkp;simp at hkp;exact⟨hkp.1.1,hkp.1.2,hkp.2⟩
    obtain⟨d,K,o⟩:=p;replace f:=f K;have I:=V (l.out.same hkp);rw[d]at c1;rw[o]at f;obtain⟨m,rfl⟩:∃m,k=m+1:=⟨k-1,by omega⟩;simp only[nG]at f;generalize (ln (bY s (m+1)))=b6 at *;go_wp2;go_roundw
    case rel=>exact⟨m+1+1,by go_num,by omega,I.out⟩
    case measure=>simp[intOf];omega
   |true=>
    have p:∃x,x=xd s k/\((x=10/\bt s k=10/\k=0)\/(x=10/\bt s k=10/\0<k/\¬bt s (k-1)=13)\/(x=10/\bt s k=13)\/(x=bt s k/\¬bt s k=10/\¬bt s k=13)):=by refine⟨_,D,?_⟩;unfold ya at hkp;unfold xd;simp at hkp;by_cases d:bt s k=10;by_cases K:k=0;exact .inl ⟨by simp[d],d,K⟩;exact .inr (.inl ⟨by simp[d],d,by omega,hkp.resolve_left (by simp[d,K])⟩);by_cases o:bt s k=13;exact .inr (.inr (.inl ⟨by simp[o],o⟩));exact .inr (.inr (.inr ⟨by simp[o],d,o⟩))
    obtain⟨x,C,p⟩:=p;have HX:=V C;have ar:=V hkp;clear C hkp;rcases p with⟨rfl,d,rfl⟩|⟨rfl,d,K,o⟩|⟨rfl,o⟩|⟨rfl,d,o⟩;rw[d]at c1;clear f
    rotate_left
    replace f:=f K;rw[d]at c1;obtain⟨m,rfl⟩:∃m,k=m+1:=⟨k-1,by omega⟩;simp only[nG]at f o;have m0:=bt_nonneg s m;have m1:=bt_le s m
    rotate_left
    rw[o]at c1;clear f
    rotate_left
    clear f
    rotate_left
    all_goals
     go_wp2_with (at_builtin;refine Ml Jk underlying58 D (by decide) D (e2:=3) (by decide) _ _ D D l.out.b l.out.a l.out.kept D D (by omega) ?_);intro b8 w2 M W r;obtain⟨aX,aW,a2⟩:=df M;subst a2;have aw:=V M;have ap:=V W;have aq:=V r;clear M W r c1;go_wp2_with (at_builtin;refine Ml Tv underlying35 D (by decide) D (e2:=5) (by decide) _ _ D D ap.out aw.out aq.out D D (by omega) ?_);intro b7 w3 N ag aj;obtain⟨aU,aT,a1⟩:=df N;subst a1;have I:=V (R6.more ar.out HX.out ag N aj);clear N ag aj;go_wp2;go_roundw
     case rel=>exact⟨_,by go_num,by omega,I.out⟩
     case measure=>simp[intOf];omega
  .have r:k=s.size:=by omega
   subst r;have l:=V A;obtain⟨P,bc,a2⟩:=df A.b;obtain⟨ax,t,a1⟩:=df A.a;subst a2 a1;have aB:=Je s s.size;have ah:FC s s.size=((bY s s.size).map (C4 s)).map λb=> .int .u8 (b.toNat:Int):=by unfold FC;rw[List.map_map];refine Pg λk _=>?_;simp only[Function.comp];rw[NM]
   have B:=A.b;rw[ah]at B;obtain⟨wa,a3⟩:∃wa,wa=(wr.alloc (.cells #[G s.size] 3)).drew:=⟨_,D⟩;have q:Z [] wr wa:=by rw[a3];exact((Z.refl [] wr).alloc _).drew
   have oa:=q.ownsRow A.a (λ_ _=>by simp);have za:zq wa.heap=zq wr.heap+1:=by rw[a3];simp
   have aR:=A.kept.size;have ad:=V oa;have ab:Hid (∀(j:Nat)(u:dB),[dv .i64 (s.size:Int)][j]?=H u->wa.cell? ((⟨zq wr.heap,0,F⟩:Addr).add j)=H u):=by
    intro j u i
    match j,i with
    |0,i=>
     simp at i;subst i;have:=aY wr (.cells #[G s.size] 3);rw[fC,a3];rw[aF (w:=(wr.alloc (.cells #[G s.size] 3)).drew) (b:=zq wr.heap) this];rfl
   have al:∀k,(cV P (ln (bY s s.size)) bc).ownBlock=H k->H k≠(cV ax (ln (bY s s.size)) t).ownBlock:=λk hk h=>qc A.b A.a (by decide) k hk h.symm;have aA:=LH (U:=wr.drew) B (by simp) (λ_ _=>D);have T:=LH (U:=wa) B (by simp) (λk hk=>q.block k (B.lt k hk).2 (by simp));have R:Hid (∀X:J,wa.grownBy X (cV ax (ln (bY s s.size)) t).ownBlock->(convert 58 9 (.slice P (ln (bY s s.size)) bc)).run prog X=.ok (Y (pq s)) X):=λX c=>
    LH (U:=X) B (by simp) (λk hk=>(c.block k (by have:=(B.lt k hk).2;omega) (al k hk)).trans (q.block k (B.lt k hk).2 (by simp)))
   have S:Hid (∀X:J,wa.grownBy X (cV ax (ln (bY s s.size)) t).ownBlock->Z [] w X):=λX c=>(A.kept.trans q).grown c (λx C=> .inr (A.a.lt x C).1);have Q:=V (show zq w.heap<=zq wa.heap by omega);rw[a3]at T R S ad ab Q;clear A ah B a3 q oa za aR al E;have ai:(⟨((bY s s.size).map (C4 s)).toArray⟩:O)=pq s:=rfl;rw[ai]at aA T;clear ai;go_wp2_with fail
   go_region_law (refine step_append_lies _ D (.tmp 42) (.tmp 45) 35 D w.heap.size 3 ii (G 0) 1 8 underlying35 aP aK aL aM D (by decide) _ _ _ (by simp[Act.eval]) ad.out ⟨zq wr.heap,0,F⟩ 1 1 [G s.size] (by simp[Act.eval,Act.put]) D ab.out (by intro u hu;simp at hu;subst hu;rfl) (by decide) (by unfold maxLen;omega) (by omega) Q.out (zq wr.heap+1) (by simp) ?_;intro g az X an c aE ak;have b1:=R.out X c;have au:=V (S.out X c);have ay:=V an;clear an c aE ak)
   all_goals (try go_wp2)
   all_goals (try go_ret2)
   all_goals exact⟨_,D,ay.out,au.out⟩
def fF(s:O)(i:Nat):Nat:=(bY s s.size++[s.size]).getD i 0
theorem Z7(s:O)(i:Nat)(h:i<=(pq s).size):(Cj s s.size++[G s.size])[i]?=H (G (fF s i)):=by grind[vz,Cj,fF]
def vq(s:O)(a:Int)(d:dB)(b:Nat):RC:={A:=pq s,B:=d,at_:=a,d:=.map (H b),lg:=8}
theorem M7(s:O)(tv:dB)(j:Nat)(d:Int)(w:J)(n:w.ownsRow j 5 1 tv s.size (ji s))(z:s.size<=1024):dS 47 #[tv,G d] w λe U=>∃r b X g a,e=ff (dq r)/\w.heap.size<=r/\w.heap.size<=b/\w.heap.size<=g/\Rd U r (vq s d X b) 0 0/\Pj U r (vq s d X b) g a (fF s)/\Lk U b (fh KV)/\b≠r/\(∃k,U.heap[g]?=H (dr k 3))/\Z [] w U:=by
 have⟨ao,cp,htv⟩:=df n;subst htv;have v:=V n;clear n;go_enter func47,ntmps47;go_wp21;refine(Uu w).mono ?_;rintro e u⟨b,rfl,y,q,B⟩;have k2:Z [] u (u.alloc (.cells #[Y iJ,gq,G 0,G 0,G d,.map (H b),G 8,Y iJ,.bool I] 163)):=(Z.refl _ _).alloc _;have x:=aY u (.cells #[Y iJ,gq,G 0,G 0,G d,.map (H b),G 8,Y iJ,.bool I] 163);have t:=adA s (.slice ao s.size cp) j _ ((B.trans k2).ownsRow v (λ_ _=>by simp)) z;have a0:=B.trans k2;have a1:=B.size;go_wp21;refine t.mono ?_;rintro e w2⟨X,rfl,A,K⟩;have c:=K.at x (by simp);have c0:=aF c 0;have c1:=aF c 1;have f0:=cY c 0;have f1:=cY c 1;dsimp at c0 c1;have⟨ax,ac,hv⟩:=df A;subst hv;obtain⟨o,f⟩:∃o,o=(w2.setCell ⟨zq u.heap,0,F⟩ (Y (pq s))).setCell ⟨zq u.heap,1,F⟩ (.slice ax (ln (bY s s.size)+1) ac):=⟨_,D⟩;have l:Z [zq u.heap] w2 o:=by rw[f];exact((Z.refl _ _).setCell (.inl (by simp)) _).setCell (.inl (by simp)) _
 have M:Rd o u.heap.size (vq s d (.slice ax (ln (bY s s.size)+1) ac) b) 0 0:=by rw[f];exact bH (bH c 0 _) 1 _
 have P:b<zq u.heap:=q.lt;have a3:Lk o b (fh KV):=((q.kept ((Z.refl [] u).alloc _) (by simp)).kept K (by simp)).kept l (by simp;omega);have a2:∃g a,(zq w.heap<=g/\∃k,o.heap[g]?=H (dr k 3))/\Pj o u.heap.size (vq s d (.slice ax (ln (bY s s.size)+1) ac) b) g a (fF s):=by
  rcases A.2 with⟨_,R⟩|⟨g,a,N,h,E,m,_⟩;omega;have Q:zq u.heap<g:=by simp at E;omega
  refine⟨g,a,⟨by omega,⟨_,l.at m (by simp;omega)⟩⟩,?_,by omega,kQ (fp m) l.size,λi L=>?_⟩;show cV ax _ ac=_;rw[h];show cV _ _ _=cV _ ((pq s).size+1) _;grind[vz];rw[l.cell (p:=⟨g,i,F⟩) (fp m) (by simp;omega)];have:=A.cells (g:=g) (by rw[h];rfl) i _ (Z7 s i L);grind[fC]
 have⟨g,a,⟨hgl,hgt⟩,hA⟩:=a2;have C:Z [] w o:=(a0.trans K).next l (by grind)
 have p:Hid (∃r b X g a,ff (dq u.heap.size)=ff (dq r)/\w.heap.size<=r/\w.heap.size<=b/\w.heap.size<=g/\Rd o r (vq s d X b) 0 0/\Pj o r (vq s d X b) g a (fF s)/\Lk o b (fh KV)/\b≠r/\(∃k,o.heap[g]?=H (dr k 3))/\Z [] w o):=by exact⟨_,b,_,g,a,D,a1,y,hgl,M,hA,a3,by omega,hgt,C⟩
 rw[f]at p;go_wp2;go_ret;exact p
structure Sp where
 k:Int
 a:Int
 b:Int
def Bi(w:J)(q:Nat)(a:Addr):(w.drewN q).cell? a=w.cell? a:=rfl
theorem T9{e:TypeId}{a d:Nat}(h:w.ownsRow base e a (lO g n d) n B)(u:dB):(w.setCell ⟨g,j,F⟩ u).ownsRow base e a (lO g n d) n (B.set j u):=by have⟨h1,z⟩:=h;refine⟨by grind,?_⟩;rcases z with⟨z,_⟩|⟨f,A,o,c,U,X,b,K,i,k⟩;cases z;obtain⟨rfl,rfl⟩:=c;refine .inr ⟨g,d,o.setIfInBounds j u,D,U,bH X j u,b,K,by grind,?_⟩;grind[List.take_set]
def kO(L:List Sp):List dB:=L.flatMap λp=>[G p.k,G p.a,G p.b]
def uv(L M:List Sp):kO (L++M)=kO L++kO M:=by simp[kO]
theorem rn(L:List Sp):ln (kO L)=ln L*3:=by
 induction L with
 |nil=>rfl
 |cons p L ih=>show ln (dv .i64 p.k:: G p.a:: G p.b::kO L)=_;grind
theorem Gw(M:List Sp)(l:Sp)(i:Nat)(a:i<3):(kO (M++[l]))[ln M*3+i]?=[dv .i64 l.k,G l.a,G l.b][i]?:=by rw[uv,List.getElem?_append_right (by grind[rn]),rn,show ln M*3+i-(ln M)*3=i by omega];rfl
theorem Xx(M:List Sp)(l:Sp)(b:Int):(kO (M++[l])).set (ln M*3+2) (G b)=kO (M++[⟨l.k,l.a,b⟩]):=by rw[uv,uv,List.set_append_right _ _ (by grind[rn]),rn,show ln M*3+2-(ln M)*3=2 by omega];rfl
def tu(L:List Sp)(s:Sp):List Sp:=match L.getLast? with
 |some l=>if s.k=1/\l.k=1 then L.dropLast++[⟨l.k,l.a,s.b⟩]else L++[s]
 |none=>L++[s]
theorem aad(M:List Sp)(l s:Sp)(h:s.k=1/\l.k=1):tu (M++[l]) s=M++[⟨l.k,l.a,s.b⟩]:=by grind[tu]
theorem aac(L:List Sp)(s:Sp):ln (tu L s)<=ln L+1:=by grind[tu]
def Of:(prog.info? 75).map (λi=>(i.zero,i.size,i.bytes))=H (H (.agg #[G 0,G 0,G 0]),3,24):=by kernel_rfl
def DG(b:Nat)(w:J)(v:dB)(L:List Sp)(s:Sp)(e:Ending)(U:J):Prop:=
 ∃a,e=ff a/\U.ownsRow b 75 3 a (ln (tu L s)) (kO (tu L s))/\Z v.ownBlock.toList w U
theorem Pc{i:Array Oper}{g:List Oper}{h:Oper}{d:Act}{Q:Exit->Act->J->Prop}{o:Obj}{k a b:Int}(l m:Operand)(f:h.guard=F)(U:h.op=.call {callee:=.builtin .append,args:=#[l,m],argTypes:=#[24,24]})(s:w.ownsRow base 75 3 v n B)(A:base<=zq w.heap)(C:n<=5000)(z:d.eval l=v)(X:d.eval m=lO (zq w.heap+1) 1 1)
  (K:∀c e,e.ownsRow base 75 3 c (n+1) (B++[G k,G a,G b])->Z v.ownBlock.toList w e->wpList prog i Q g (d.put h.dst c) e):wpList prog i Q (h::g) d ((w.alloc o).alloc (dr #[G k,G a,G b] 75)):=by
 obtain⟨t,r,a0,a1,a2⟩:=sZ Of;refine fQ _ f l m 24 U base 75 t _ 3 24 underlying24 r a0 a1 a2 D (by decide) v n B z ((s.alloc _).alloc _) _ 1 1 _ X D (λj u y=>?_) (λu p=>by simp at p;rcases p with rfl|rfl|rfl<;>rfl) (by unfold maxLen;omega) (by omega) (by simp;omega) λc e h3 q _=>K c e h3 (((Z.refl _ _).alloc _|>.alloc _).grown q (λx X=> .inl (by simp[X])));have A:=aY (w.alloc o) (dr #[G k,G a,G b] 75);simp only[zB]at A;rw[fC,aF A];grind
theorem Pu(c:Nat)(v:dB)(M:List Sp)(l s:Sp)(w:J)(a:w.ownsRow c 75 3 v (ln M+1) (kO (M++[l])))(k:ln M<=4096)(z:s.k=1)(A:l.k=1):dS 54 #[v,.agg #[G s.k,G s.a,G s.b]] w λe U=>DG c w v (M++[l]) s e U:=by
 have⟨sk,sa,sb⟩:=s;simp only at z|-;subst z;obtain⟨g,d,b⟩:∃g d,v=lO g (ln M+1) d:=by
  rcases a.2 with⟨_,i⟩|⟨g,K,o,h,_⟩
  all_goals grind
 subst b;have n:g<zq w.heap:=(a.lt g D).2;have X:w.cell? ⟨g,ln M*3,F⟩=H (G 1):=by
  have:=a.cells (g:=g) D (ln M*3) _ (by have:=Gw M l 0 (by omega);simpa using this)
  rwa [fC,A]at this
 have c2:w.cell? ⟨g,ln M*3+2,F⟩=H (G l.b):=by
  have:=a.cells (g:=g) D (ln M*3+2) _ (by have:=Gw M l 2 (by omega);simpa using this)
  rwa [fC]at this
 have f2:w.frozen? ⟨g,ln M*3+2,F⟩=I:=by rcases a.2 with⟨h,_⟩|⟨f,u,o,h,_,m,_⟩;cases h;grind[cY]
 have B:Hid (DG c w (lO g (ln M+1) d) (M++[l]) ⟨1,sa,sb⟩ (ff (lO g (ln M+1) d)) ((w.setCell ⟨g,ln M*3+2,F⟩ (G sb)).alloc (.cells #[G 1,G sa,G sb] 75))):=by refine⟨_,D,?_,?_⟩;rw[aad M l _ ⟨D,A⟩];have j:=T9 (j:=ln M*3+2) a (G sb);grind[World.ownsRow.alloc,Xx];exact((Z.refl [g] w).setCell (.inl (by simp)) _).alloc _
 go_enter func54,ntmps54;go_wp2;go_ret;exact B
theorem Sb(c:Nat)(v:dB)(L:List Sp)(s:Sp)(w:J)(o:w.ownsRow c 75 3 v (ln L) (kO L))(hb:c<=zq w.heap)(k:ln L<=4096):dS 54 #[v,.agg #[G s.k,G s.a,G s.b]] w λe U=>DG c w v L s e U:=by
 rcases W9 L with rfl|⟨M,l,rfl⟩
 .obtain⟨j,z,f⟩:=df o;subst f;obtain⟨u,B,K⟩:=s;simp only;have X:=V o;clear o;go_enter func54,ntmps54;go_wp2_with (at_builtin;refine Pc _ _ D D X.out hb (by omega) D D ?_);intro A w3 d a;have b:=V (show DG c w (.slice j 0 z) [] ⟨u,B,K⟩ (ff A) w3 from⟨A,D,d,a⟩);clear d a;go_wp2;go_ret;exact b.out
 .rw[List.concat_eq_append];simp at o k;by_cases h:s.k=1/\l.k=1;exact Pu c v M l s w o (by omega) h.1 h.2
  .obtain⟨g,z,f⟩:∃g z,v=lO g (ln M+1) z:=by
    rcases o.2 with⟨_,n⟩|⟨g,a0,a1,h,_⟩
    all_goals grind
   subst f;have p:g<zq w.heap:=(o.lt g D).2;have c0:w.cell? ⟨g,ln M*3,F⟩=H (G l.k):=by have:=o.cells (g:=g) D (ln M*3) _ (by have:=Gw M l 0 (by omega);simpa using this);rw[fC]at this;exact this
   obtain⟨u,B,K⟩:=s;simp only at h|-;have i:=V ((show tu (M++[l]) ⟨u,B,K⟩=M++[l]++[⟨u,B,K⟩] by unfold tu;simp[h]));have X:=V o;clear o;have m:u=1/\¬l.k=1\/¬u=1:=by by_cases hk:u=1;grind;exact .inr hk
   clear h;rcases m with⟨rfl,hl⟩|hk
   all_goals
    go_enter func54,ntmps54;go_wp2_with (at_builtin;refine Pc _ _ D D X.out hb (by omega) D D ?_);intro A w3 d a;have b:=V (show DG c w (lO g (ln M+1) z) (M++[l]) _ (ff A) w3 from⟨A,D,by rw[i.out,uv _ [_],qm,qm];exact d,a⟩);clear d a;go_wp2;go_ret;exact b.out
theorem Um(p q:Addr)(w:J):CallsD prog 45 #[.pointer (H p),.pointer (H q)] .returning w λe h U=>e=pG/\h=.returning/\U=w:=by
 refine callsD_of_wpS func45 D λa o d=>?_;apply wpS_seq;apply wpS_region;simp[wpOpsS,go_sem,recoverD,d,ntmps45,Exit.thenS];apply wpS_seq;apply wpS_region;simp[wpOpsS,go_sem,Exit.thenS];refine wpS_cond (t:=I) (by simp[Act.eval,eY]) ?_;simp only[uS,AO];refine wpS_of_wp (wp_skip ?_);cases a;simp_all[bodyPostS,results,results45]
def adZ(E:fS)(a b:Nat)(w:J):dS 52 #[kP E ⟨a,b,.dZ,[]⟩] w λe U=>e=ff (G 0)/\U=w:=by simp only[kP];have z:=Au;have h:=yc;have o:=Bd;have d:=rQ;have u:=yd;have A:=ako;go_enter func52,ntmps52;go_wp2;go_ret;simp
def SI(E:fS)(f:Nat->Nat)(X:N)(w:J)(h:RF E f X w):dS 53 #[Bp E] w λe U=>e=ff (nV f 0)/\U=w:=by have c:=(At.start h).Ht;have a:=h.lt;go_enter func53,ntmps53;go_wp2;go_ret;simp
inductive Tn
 |el (name:O) (bY:iB) (bJ:List Tn)
 |tx (s:O)
 |cm (s:O)
 |dt (s:O)
inductive Ev
 |dt (s:O)
 |cm (s:O)
 |tx (s:O)
 |enter (name:O) (bY:iB)
 |tz (name:O)
variable {d8:List Ev->J->Prop}{tot:List Ev}
mutual
def Bx(a:O->Bool):Tn->List Ev
 | .el name bY S=> .enter name bY::(if a name then []else rN a S++[.tz name])
 | .tx s=>[.tx s]
 | .cm s=>[.cm s]
 | .dt s=>[.dt s]
def rN(a:O->Bool):List Tn->List Ev
 |[]=>[]
 |t::ts=>Bx a t++rN a ts
end
abbrev Ef(bY:iB):List dB:=bY.flatMap λa=>[Y a.1,Y a.2]
abbrev tC(w:J)(v:dB)(bY:iB):Prop:=w.ownsRow 0 295 2 v (ln bY) (Ef bY)
mutual
def ik(w:J):Tn->Nd->Prop
 | .el name bY S,.el k=>∃d a kv e,El 0 w k name d a kv e/\tC w d bY/\(ln bY)<=4096/\sC w S e
 | .tx s,.tx k=>w.heap[k]?=H (dr #[Y s] 280)
 | .cm s,.cm k=>w.heap[k]?=H (dr #[Y s] 235)
 | .dt s,.dt k=>w.heap[k]?=H (dr #[Y s] 239)
 |_,_=>False
def sC(w:J):List Tn->List Nd->Prop
 |[],[]=>True
 |t::ts,n::ns=>ik w t n/\sC w ts ns
 |_,_=>False
end
theorem sC.len:∀{d:List Tn} {a:List Nd},sC w d a->ln d=ln a
 |[],[],_=>rfl
 |_::_,_::_,h=>by simp[sC.len h.2]
 |[],_::_,h=>by unfold sC at h;grind
 |_::_,[],h=>by unfold sC at h;grind
theorem sC.get:∀{d:List Tn} {a:List Nd} (_:sC w d a) (k:Nat) (e:k<ln d) (o:k<ln a),ik w d[k] a[k]
 |[],_,_,_,e,_=>by grind
 |_::_,[],h,_,_,_=>by grind
 |_::_,_::_,h,0,_,_=>by exact h.1
 |_::_,_::_,h,k+1,e,o=>by exact sC.get h.2 k _ _
def CG(c:O->Bool):∀(a b:List Tn),rN c (a++b)=rN c a++rN c b
 |[],b=>rfl
 |t::a,b=>by simp[rN,CG c a b]
def agX(a:O->Bool)(t:Tn):rN a [t]=Bx a t:=by simp[rN]
def X2(T:TypeId)(x:dB)(m:String)(b:io)(w0:J)(c:List Ev)(d:List Ev->J->Prop)(a:Ev)(r:dB):Prop:=
 ∃f y,(∀w,(Go.method 496 T x m).run prog w=.ok (f,y) w)/\(∀w,(nilAhead 496 T x m).run prog w=.ok (H I) w)/\(∀b w,(callFunc f b).run prog w=.ok (.enter f b) w)/\
  ∀pre W,Z [] w0 W->d pre W->pre++[a] <+:c->dS f (#[y]++b) W λe K=>e=ff r/\d (pre++[a]) K/\Z [] w0 K
structure Bf(T:TypeId)(x:dB)(vd:O->Bool)(tot:List Ev)(w0:J)(d8:List Ev->J->Prop):Prop where
 mono:∀pre W W',d8 pre W->Z [] W W'->d8 pre W'
 dt:∀s,X2 T x "Doctype" #[Y s] w0 tot d8 (.dt s) (.tuple #[])
 cm:∀s,X2 T x "Comment" #[Y s] w0 tot d8 (.cm s) (.tuple #[])
 tx:∀s,X2 T x "Text" #[Y s] w0 tot d8 (.tx s) (.tuple #[])
 tz:∀s,X2 T x "Leave" #[Y s] w0 tot d8 (.tz s) (.tuple #[])
 enter:∃f y,(∀w,(Go.method 496 T x "Enter").run prog w=.ok (f,y) w)/\(∀w,(nilAhead 496 T x "Enter").run prog w=.ok (H I) w)/\(∀args w,(callFunc f args).run prog w=.ok (.enter f args) w)/\
  ∀pre W s av bY,Z [] w0 W->d8 pre W->pre++[.enter s bY] <+:tot->tC W av bY->ln bY<=4096->dS f #[y,Y s,av] W λe W'=>(∃b,e=ff (.bool b)/\(b=(!vd s)\/b=I/\∀p,d8 p W'))/\d8 (pre++[.enter s bY]) W'/\Z [] w0 W'
theorem amA(U:Bf T x vd tot w0 d8)(k:Nat)(s:O)(pre:List Ev)(W:J)(h:Z [] w0 W)(d:d8 pre W)(u:pre++[.tx s] <+:tot)(o:W.heap[k]?=H (dr #[Y s] 280)):dS 439 #[dq k,.iface T x] W λe K=>e=pG/\d8 (pre++[.tx s]) K/\Z [] w0 K:=by
 have⟨f,y,hm,hna,hcf,hc⟩:=U.tx s;have b:=(λq=>hc pre (W.drewN q) (h.drewN q) (U.mono _ _ _ d ((Z.refl _ _).drewN q)) u);have a:=aF o 0;dsimp at a;go_enter func439,ntmps439;go_wp21
 go_region_with (refine(b _).mono ?_;rintro e z⟨rfl,A,B⟩)
 all_goals (try go_wp2)
 all_goals (go_end0;grind)
theorem acV(U:Bf T x vd tot w0 d8)(k:Nat)(s:O)(pre:List Ev)(W:J)(h:Z [] w0 W)(d:d8 pre W)(u:pre++[.cm s] <+:tot)(o:W.heap[k]?=H (dr #[Y s] 235)):dS 437 #[dq k,.iface T x] W λe K=>e=pG/\d8 (pre++[.cm s]) K/\Z [] w0 K:=by
 have⟨f,y,hm,hna,hcf,hc⟩:=U.cm s;have b:=(λq=>hc pre (W.drewN q) (h.drewN q) (U.mono _ _ _ d ((Z.refl _ _).drewN q)) u);have a:=aF o 0;dsimp at a;go_enter func437,ntmps437;go_wp21
 go_region_with (refine(b _).mono ?_;rintro e z⟨rfl,A,B⟩)
 all_goals (try go_wp2)
 all_goals (go_end0;grind)
theorem ac2(U:Bf T x vd tot w0 d8)(k:Nat)(s:O)(pre:List Ev)(W:J)(h:Z [] w0 W)(d:d8 pre W)(u:pre++[.dt s] <+:tot)(o:W.heap[k]?=H (dr #[Y s] 239)):dS 438 #[dq k,.iface T x] W λe K=>e=pG/\d8 (pre++[.dt s]) K/\Z [] w0 K:=by
 have⟨f,y,hm,hna,hcf,hc⟩:=U.dt s;have b:=(λq=>hc pre (W.drewN q) (h.drewN q) (U.mono _ _ _ d ((Z.refl _ _).drewN q)) u);have a:=aF o 0;dsimp at a;go_enter func438,ntmps438;go_wp21
 go_region_with (refine(b _).mono ?_;rintro e z⟨rfl,A,B⟩)
 all_goals (try go_wp2)
 all_goals (go_end0;grind)
theorem ag1(L:iB):ln (Ef L)=ln L*2:=by
 induction L with
 |nil=>rfl
 |cons a L ih=>grind
theorem ajL(v:dB)(L:iB)(w:J)(o:tC w v L)(O:ln L<=4096):dS 407 #[v] w λe U=>∃d,e=ff d/\tC U d L/\Z [] w U:=by
 obtain⟨G,t,b,X,a0⟩:=sZ (show(prog.info? 295).map (λi=>(i.zero,i.size,i.bytes))=H (H (.agg #[Y iJ,Y iJ]),2,32) by kernel_rfl);rcases o.2 with⟨rfl,n⟩|⟨g,a,a3,rfl,M,s,_⟩
 .have E:=λw=>Mn (P:=prog) w 135 295 F 0 0 0 0 underlying135;have:L=[]:=NC n;subst this;clear o;go_enter func407,ntmps407;go_wp2;go_ret;exact⟨_,D,mY _ _ _ _,Z.refl _ _⟩
 .have E:=λw=>Mn (P:=prog) w 135 295 (H ⟨g,0,F⟩) (ln L) a 0 0 underlying135;have m:=V o;have A:=fp s;have c:(w.alloc (.cells #[] 295)).ownsRow w.heap.size 295 2 (lO w.heap.size 0 0) 0 []:=
   ⟨rfl,.inr ⟨zq w.heap,0,#[],rfl,dF _,aY w _,dF _,eZ _,rfl,rfl⟩⟩
  clear o;go_enter func407,ntmps407;go_wp2_with (at_builtin;refine fQ _ D _ _ 135 D w.heap.size 295 G (.agg #[Y iJ,Y iJ]) 2 32 underlying135 t b X a0 D (by decide) _ _ _ D c ⟨g,0,F⟩ (ln L) a (Ef L) D ?c1 ?c2 ?c3 ?c4 ?c5 ?c6 ?_)
  case c1=>grind
  case c2=>
   intro j u y;have:=m.cells (g:=g) D j u y;rw[fC]at this|-;rw[<-this];exact py _ _ _ A
  case c3=>
   intro u K;unfold Ef at K;simp at K;obtain⟨p,q,_,h|h⟩:=K<;>(subst h;rfl)
  case c4=>omega
  case c5=>omega
  case c6=>simp
  intro d w3 B z I;have f:w3.ownsRow w.heap.size 295 2 d (ln L) (Ef L):=by simpa using B
  have k:tC w3 d L:=by refine⟨f.1,?_⟩;rcases f.2 with e|⟨N,a1,a2,e,_,r⟩;exact .inl e;grind
  have l:Hid (Z [] w w3):=((Z.refl [] w).alloc _).grown z (λx C=> .inr (c.lt x C).1);go_wp2;go_ret;exact⟨_,D,k,l⟩
theorem tC.kept{bY:iB}(h:tC w v bY)(z:Z [] w U):tC U v bY:=by
 refine⟨h.1,?_⟩;rcases h.2 with e|⟨g,a,d,e,o,u,r⟩
 all_goals grind[Z.at]
theorem El.h{a:O}{o:dB}{d:fW}{kv:dB}{u:List Nd}(h:El 0 w k a o d kv u)(B:Z [] w U):El 0 U k a o d kv u:=by
 refine⟨B.at h.dP (by simp),⟨h.row.1,?_⟩,h.le,h.A⟩;rcases h.row.2 with e|⟨g,z,A,e,K,b,r⟩
 all_goals grind[Z.at]
mutual
theorem ik.kept(a:Z [] w U):∀{t:Tn} {n:Nd},ik w t n->ik U t n
 | .el name bY S,.el k,h=>by unfold ik at h|-;have⟨av,fH,kv,ns,h1,h2,h3,h4⟩:=h;exact⟨av,fH,kv,ns,h1.h a,h2.kept a,h3,sC.kept a h4⟩
 | .tx _,.tx _,h=>by unfold ik at h|-;exact a.at h (by simp)
 | .cm _,.cm _,h=>by unfold ik at h|-;exact a.at h (by simp)
 | .dt _,.dt _,h=>by unfold ik at h|-;exact a.at h (by simp)
 | .el _ _ _,.tx _,h=>by grind[ik]
 | .el _ _ _,.cm _,h=>by grind[ik]
 | .el _ _ _,.dt _,h=>by grind[ik]
 | .tx _,.el _,h=>by grind[ik]
 | .tx _,.cm _,h=>by grind[ik]
 | .tx _,.dt _,h=>by grind[ik]
 | .cm _,.el _,h=>by grind[ik]
 | .cm _,.tx _,h=>by grind[ik]
 | .cm _,.dt _,h=>by grind[ik]
 | .dt _,.el _,h=>by grind[ik]
 | .dt _,.tx _,h=>by grind[ik]
 | .dt _,.cm _,h=>by grind[ik]
theorem sC.kept(e:Z [] w U):∀{d:List Tn} {a:List Nd},sC w d a->sC U d a
 |[],[],_=>by simp[sC]
 |t::d,n::a,h=>by unfold sC at h|-;exact⟨ik.kept e h.1,sC.kept e h.2⟩
 |[],_::_,h=>by grind[sC]
 |_::_,[],h=>by grind[sC]
end
section
variable {T:TypeId}{x:dB}{vd:O->Bool}{tot:List Ev}{w0:J}{d8:List Ev->J->Prop}
def zi:Nd->Nat
 | .el _=>406
 | .tx _=>439
 | .cm _=>437
 | .dt _=>438
def Nd.bk:Nd->Nat
 | .el k=>k
 | .tx k=>k
 | .cm k=>k
 | .dt k=>k
def Jc(T:TypeId)(x:dB)(c:O->Bool)(a:List Ev)(w0:J)(b:List Ev->J->Prop)(t:Tn)(n:Nd):Prop:=
 ∀pre W,Z [] w0 W->b pre W->pre++Bx c t <+:a->
  dS (zi n) #[dq n.bk,.iface T x] W λe K=>e=pG/\b (pre++Bx c t) K/\Z [] w0 K
def Ov(n:Nd)(w:J):∃t y,n.val=.iface t y/\y=dq n.bk/\(∀w,(Go.method 496 t y "Visit").run prog w=.ok (zi n,y) w):=by
 cases n with
 |el k=>exact⟨_,_,D,D,λw=>D⟩
 |tx k=>exact⟨_,_,D,D,λw=>D⟩
 |cm k=>exact⟨_,_,D,D,λw=>D⟩
 |dt k=>exact⟨_,_,D,D,λw=>D⟩
def aa8(n:Nd):∀a w,(callFunc (zi n) a).run prog w=.ok (.enter (zi n) a) w:=by
 cases n with
 |el k=>simp[zi]
 |tx k=>simp[zi]
 |cm k=>simp[zi]
 |dt k=>simp[zi]
theorem Xk{a b c:List Ev}(h:a++(b++c) <+:tot):a++b <+:tot:=by have⟨r,hr⟩:=h;grind
theorem Hf(a9:Bf T x vd tot w0 d8)(k:Nat)(A:O)(av:dB)(a2:fW)(kv:dB)(a:List Tn)(d:List Nd)(hl:ln a=ln d)
  (z:El 0 w0 k A av a2 kv d) (I:∀i (U:i<ln a) (B:i<ln d),Jc T x vd tot w0 d8 a[i] d[i]) (pre:List Ev) (W:J) (l:Z [] w0 W) (s:d8 pre W) (E:pre++rN vd a <+:tot):dS 36 #[dq k,.iface T x] W λe K=>e=pG/\d8 (pre++rN vd a) K/\Z [] w0 K:=by
 have c3:=aF ((z.h l).dP) 3;dsimp at c3;have a0:=z.le;have⟨ao,cap,hkv⟩:=df z.row;have j:=V z;have r:=I;have q:=E;have L:=s;have M:=l;have m:=V hl;obtain⟨n,f⟩:∃n,n=ln d:=⟨_,D⟩;have p:=V f;subst hkv;rw[<-f]at c3 a0;clear z hl f;go_enter func36,ntmps36;go_wp21
 go_loopw [11] (λv wr=>∃i:Nat,v=G i/\i<=n/\d8 (pre++rN vd (a.take i)) wr/\Z [] w0 wr) (λv _=>n-(intOf v).toNat)
 case atStart=>grind[rN]
 case round=>
  obtain⟨i,rfl,hi,u,h⟩:=hrel;by_cases a1:i<n
  .have B:i<ln d:=by rw[<-p.out];exact a1
   have U:i<ln a:=by rw[m.out];exact B
   have⟨t,y,hval,hy,hm⟩:=Ov d[i] wr;have Y:=aa8 d[i];obtain⟨g,X⟩:∃g,ao=H ⟨g,0,F⟩:=by
    rcases j.row.2 with⟨e,h0⟩|⟨g,a3,S,e,_⟩
    all_goals grind
   subst X;have w:wr.cell? ⟨g,i,F⟩=H (.iface t y):=by
    have:=(j.h h).row.cells (g:=g) D i d[i].val (by simp[B]);rw[fC]at this;rw[<-hval]
    simpa using this
   have o:rN vd (a.take (i+1))=rN vd (a.take i)++Bx vd a[i]:=by rw[IJ,qM U,CG];simp[agX]
   have Q:pre++rN vd (a.take (i+1)) <+:tot:=by refine Xk (c:=rN vd (a.drop (i+1))) ?_;rw[<-CG,Mu];exact q
   have c:=r i U B _ wr h u (by grind);rw[oX,<-o]at c;rw[hy]at w hm;generalize zi d[i]=fv at *;generalize d[i].bk=kb at *;generalize hZ:d8 (pre++rN vd (a.take (i+1)))=aa at c;have N:=V hZ;clear hZ;go_wp21;refine c.mono ?_;rintro e P⟨rfl,R,b⟩;go_wp2;go_roundw
   case rel=>grind[Hid.out]
   case measure=>simp[intOf];omega
  .have C:a.take i=a:=zA (by grind[Hid.out]);rw[C]at u;have b:=h;go_wp2;go_end0;grind
theorem ac4(ag:Bf T x vd tot w0 d8)(k:Nat)(a:O)(bY:iB)(av:dB)(a8:fW)(kv:dB)(u:List Tn)(s:List Nd)(hl:ln u=ln s)
  (l:El 0 w0 k a av a8 kv s) (hA:tC w0 av bY) (a0:ln bY<=4096) (hv:∀i (h1:i<ln u) (h2:i<ln s),Jc T x vd tot w0 d8 u[i] s[i]):Jc T x vd tot w0 d8 (.el a bY u) (.el k):=by
 intro pre W z hJ t;show Calls prog 406 #[dq k,.iface T x] W _;have af:∀(fn:Fn)(first a3:io)(w:J),(Instr.makeFunc fn first a3).run prog w=.ok (.func fn first a3) w:=λ_ _ _ _=>D;have c0:=aF ((l.h z).dP) 0;have c1:=aF ((l.h z).dP) 1;dsimp at c0 c1;have a5:pre++[.enter a bY] <+:tot:=by unfold Bx at t;exact Xk (b:=[.enter a bY]) (by simpa using t)
 have⟨f,y,hm,hna,hcf,hc⟩:=ag.enter;have N:=V (λq=>ajL av bY (W.drewN q) ((hA.kept z).kept ((Z.refl _ _).drewN q)) a0);have P:=V (λq g M (hk:Z [] (W.drewN q) g) (ha:tC g M bY)=>hc pre g a M bY ((z.drewN q).trans hk) (ag.mono _ _ _ hJ (((Z.refl _ _).drewN q).trans hk)) a5 ha a0);have⟨ao,n,cp,hav⟩:=l.A;subst hav;have G:=V ag;have E:=V l;have HW:=V hv;have R:=V t;have HL:=V hl;have ac:=V z;clear hc ag z hJ t a5 hA a0 l hv hl;go_enter func406,ntmps406;go_wp21
 go_cut [17]from 4 to 16 (λr wc=>(∃b,r=.bool b/\(b=(!vd a)\/b=I/\∀p,d8 p wc))/\d8 (pre++[.enter a bY]) wc/\Z [] w0 wc)
 case first=>
  go_region_with (first
   |(go_at_call 407;refine(N.out _).mono ?_;rintro e g⟨M,rfl,X,a1⟩;have⟨ao1,cp1,hv1⟩:=df X;subst hv1;have a9:=V X;have ab:=V a1;have c2:g.cell? ⟨k,0,F⟩=H (Y a):=(by rw[aF (E.out.h ((ac.out.drewN _).trans a1)).dP];rfl);clear X a1)
   |(refine(P.out _ _ _ ab.out a9.out).mono ?_;rintro e j⟨⟨L,rfl,S⟩,o,d⟩;have aa:=V S;have B:=V o;have U:=V d;clear S o d))
  all_goals (try (go_wp21))
  all_goals (go_meet;exact⟨⟨L,D,aa.out⟩,B.out,U.out⟩)
 case rest=>
  obtain⟨⟨L,rfl,A⟩,c,hk⟩:=hcut;clear N P hm hna hcf c0 c1;cases L with
  |false=>
   replace c:d8 (pre++Bx vd (.el a bY u)) wc:=by
    rcases A with A|⟨_,A⟩;have a2:vd a=C:=by cases h:vd a;grind;rfl
    have m:pre++Bx vd (.el a bY u)=pre++[.enter a bY]:=by simp[Bx,a2]
    rw[m];exact c;exact A _
   clear A;have HJ:=V c;have HK:=V hk;clear c hk;rename_i K z;refine z _ _ ?_;clear z;go_wp2;go_end0;exact⟨D,HJ.out,HK.out⟩
  |true=>
   have a2:vd a=I:=by rcases A with A|⟨A,_⟩;grind;cases A
   clear A;have m:Bx vd (.el a bY u)=.enter a bY::(rN vd u++[.tz a]):=by simp[Bx,a2]
   have a6:(pre++[.enter a bY])++rN vd u <+:tot:=Xk (c:=[.tz a]) (by have:=R.out;grind);have a7:(pre++[.enter a bY]++rN vd u)++[.tz a] <+:tot:=by have:=R.out;rw[m]at this;simpa using this
   have e3:pre++Bx vd (.el a bY u)=(pre++[.enter a bY]++rN vd u)++[.tz a]:=by rw[m];simp
   have Q:=V (Hf G.out k a _ a8 kv u s HL.out E.out HW.out _ wc hk c a6);have⟨f,y,hm,hna,hcf,hc⟩:=G.out.tz a;have v:=V (λq j (d:Z [] w0 j) (o:d8 (pre++[.enter a bY]++rN vd u) j)=>hc _ (j.drewN q) (d.drewN q) (G.out.mono _ _ _ o ((Z.refl _ _).drewN q)) a7);rw[<-e3]at v;clear a6 a7 m e3 c hk hc;generalize hJJ:d8 (pre++[.enter a bY]++rN vd u)=J1 at Q v;clear hJJ;rename_i K z;refine z _ _ ?_;clear z;go_wp21;refine Q.out.mono ?_;rintro e j⟨rfl,o,d⟩;have c0:=aF ((E.out.h d).dP) 0;dsimp at c0;have B:=V o;have U:=V d;clear o d;go_wp21
   go_region_with (refine(v.out _ _ U.out B.out).mono ?_;rintro e W3⟨rfl,ad,ae⟩)
   all_goals (try go_wp2)
   all_goals (go_end0;grind)
end
section
variable {T:TypeId}{x:dB}{vd:O->Bool}{tot:List Ev}{w0:J}{d8:List Ev->J->Prop}
theorem Vb(z:Bf T x vd tot w0 d8):∀(t:Tn)(n:Nd),ik w0 t n->Jc T x vd tot w0 d8 t n
 | .el name bY S,.el k,h=>by have⟨av,fH,kv,ns,h1,h2,h3,h4⟩:=h;exact ac4 z k name bY av fH kv S ns h4.len h1 h2 h3 (λi o u=>Vb z S[i] ns[i] (h4.get i o u))
 | .tx s,.tx k,h=>by intro pre W a d e;exact amA z k s pre W a d e (a.at h (by simp))
 | .cm s,.cm k,h=>by intro pre W a d e;exact acV z k s pre W a d e (a.at h (by simp))
 | .dt s,.dt k,h=>by intro pre W a d e;exact ac2 z k s pre W a d e (a.at h (by simp))
 | .el _ _ _,.tx _,h=>by grind[ik]
 | .el _ _ _,.cm _,h=>by grind[ik]
 | .el _ _ _,.dt _,h=>by grind[ik]
 | .tx _,.el _,h=>by grind[ik]
 | .tx _,.cm _,h=>by grind[ik]
 | .tx _,.dt _,h=>by grind[ik]
 | .cm _,.el _,h=>by grind[ik]
 | .cm _,.tx _,h=>by grind[ik]
 | .cm _,.dt _,h=>by grind[ik]
 | .dt _,.el _,h=>by grind[ik]
 | .dt _,.tx _,h=>by grind[ik]
 | .dt _,.cm _,h=>by grind[ik]
  termination_by t=>SizeOf.sizeOf t
  decreasing_by
 have:=List.sizeOf_lt_of_mem (uI o);grind
theorem yv(b:Bf T x vd tot w0 d8)(k:Nat)(a:O)(bY:iB)(d:List Tn)(h:ik w0 (.el a bY d) (.el k))(z:rN vd d=tot)(W:J)(u:Z [] w0 W)(o:d8 [] W):dS 36 #[dq k,.iface T x] W λe K=>e=pG/\d8 tot K/\Z [] w0 K:=by
 have⟨av,fH,kv,ns,h1,h2,h3,h4⟩:=h;have:=Hf b k a av fH kv d ns h4.len h1 (λi A B=>Vb b _ _ (h4.get i A B)) [] W u o (by grind)
 rwa [z]at this
end
attribute [local go_sem] db
structure It where
 k:Int
 s:O
 t:O
abbrev It.val(x:It):dB:=.agg #[G x.k,Y x.s,Y x.t]
def rB:Ev->List It
 | .dt s=>[⟨1,s,⟨#[]⟩⟩]
 | .cm s=>[⟨2,s,⟨#[]⟩⟩]
 | .tx s=>[⟨3,s,⟨#[]⟩⟩]
 | .enter s bY=>⟨4,s,⟨#[]⟩⟩::bY.map λa=>⟨5,a.1,a.2⟩
 | .tz s=>[⟨6,s,⟨#[]⟩⟩]
def gF(a:List Ev):List It:=a.flatMap rB
def Wk(w:J)(b l:Nat)(d:Bool):Prop:=w.heap[b]?=H (dr #[.func (.yield l) #[] #[],.bool d] 201)
theorem oC(h:w.heap[b]?=H (.cells c t m))(j:Nat)(v:dB)(a:c[j]?=H v):w.setCell ⟨b,j,F⟩ v=w:=by
 have d:c.setIfInBounds j v=c:=by grind
 have e:∀f,f (.cells c t m)=.cells c t m->w.heap.modify b f=w.heap:=by grind
 unfold World.setCell;simp_all
def KW(W K:J):Prop:=∀(k:Nat)(c:io)(t:TypeId),W.heap[k]?=H (dr c t)->t∈[201,295]->K.heap[k]?=H (dr c t)
def KW.z(h:KW W K){d:Bool}(a:Wk W b l d):Wk K b l d:=h b _ _ a (by decide)
theorem KW.a(h:KW W K){bY:iB}(o:tC W v bY):tC K v bY:=by refine⟨o.1,?_⟩;rcases o.2 with e|⟨g,a,d,e,u,z,r⟩;grind;exact .inr ⟨g,a,d,e,u,h g _ _ z (by decide),r⟩
theorem Wk.a{d:Bool}(h:Wk W b l d)(x:dB){bY:iB}(u:tC W v bY):tC (W.setCell ⟨b,1,F⟩ x) v bY:=by refine⟨u.1,?_⟩;rcases u.2 with e|⟨g,a,o,e,A,z,r⟩;grind;refine .inr ⟨g,a,o,e,A,((Z.refl [b] W).setCell (.inl (by simp)) _).at z ?_,r⟩;intro B;have e:=cC.1 B;subst e;rw[h]at z;grind
def IB(l:Nat)(a:List It)(w0:J)(b:List It->J->Prop)(c:J->Prop):Prop:=∀pre x W,Z [] w0 W->b pre W->pre++[x] <+:a->YieldAt Fence.wide 3 prog l #[It.val x] W λe K=>(e=ff (.bool C)/\b (pre++[x]) K\/e=ff (.bool I)/\c K)/\Z [] w0 K/\KW W K
def JW(l b:Nat)(c:List It->J->Prop)(a:J->Prop)(pre:List It)(W:J):Prop:=(c pre W/\Wk W b l I)\/(a W/\Wk W b l C)
theorem JW.mono{f:List It->J->Prop}{c:J->Prop}(e:∀pre W K,f pre W->Z [] W K->f pre K)(d:∀W K,c W->Z [] W K->c K){pre:List It}(h:JW l b f c pre W)(a:Z [] W K):JW l b f c pre K:=by rcases h with⟨h,k⟩|⟨h,k⟩;exact .inl ⟨e _ _ _ h a,a.at k (by simp)⟩;exact .inr ⟨d _ _ h a,a.at k (by simp)⟩
section
variable {l b:Nat}{tot:List It}{w0:J}{d8:List It->J->Prop}{JE:J->Prop}
theorem Bq(f:IB l tot w0 d8 JE)(hb:zq w0.heap<=b)(B:∀a1,Wk a1 b l I->JE a1->JE (a1.setCell ⟨b,1,F⟩ (.bool C)))(pre:List It)(x:It)(W:J)(U:Z [] w0 W)(A:JW l b d8 JE pre W)(g:pre++[x] <+:tot):dS 436 #[dq b,G x.k,Y x.s,Y x.t] W λe K=>e=pG/\(JW l b d8 JE (pre++[x]) K/\Z [] w0 K)/\∀v bY,tC W v bY->tC K v bY:=by
 refine(AU (n:=4)).1 ?_;rcases A with⟨A,u⟩|⟨A,u⟩
 .have c0:=aF u 0;have X:=aF u 1;dsimp at c0 X;have⟨fn,tmps,assign,body,hy,hR⟩:=f pre x W U A g;have p:=V hR;dsimp only[It.val]at hy;have a0:=fp u;have j:=V u;have n:=V B;have m:=V hb;clear hR f U A g u B hb;have⟨k,s,t⟩:=x;refine callsIn_of_wp func436 D trivial ?_ D;simp only[ntmps436,wL,uJ,uY,Nat.reduceAdd,Nat.reduceSub,wM,wN,wO,wP,tA,tf];gi_wp2;refine p.out.mono ?_;rintro e c⟨⟨rfl,o⟩|⟨rfl,o⟩,z,d⟩
  .have a:=d.z j.out;have c2:=aF a 1;have f2:=cY a 1;dsimp at c2;have HS:=V (oC a 1 (.bool I) D);have i:=V (show(JW l b d8 JE (pre++[⟨k,s,t⟩]) c/\Z [] w0 c)/\∀v bY,tC W v bY->tC c v bY from⟨⟨.inl ⟨o,a⟩,z⟩,λ_ _ h=>d.a h⟩);clear o z d a;gi_wp2;go_end0;grind[Hid.out]
  .have a:=d.z j.out;have c2:=aF a 1;have f2:=cY a 1;dsimp at c2;have i:=V (show(JW l b d8 JE (pre++[⟨k,s,t⟩]) (c.setCell ⟨b,1,F⟩ (.bool C))/\Z [] w0 (c.setCell ⟨b,1,F⟩ (.bool C)))/\∀v bY,tC W v bY->tC (c.setCell ⟨b,1,F⟩ (.bool C)) v bY from⟨⟨.inr ⟨n.out _ a o,bH a 1 _⟩,z.setCell (.inr m.out) _⟩,λ_ _ h=>a.a _ (d.a h)⟩);clear o z d a;gi_wp2;go_end0;grind[Hid.out]
 .have X:=aF u 1;dsimp at X;have a0:=fp u;have i:=V (show(JW l b d8 JE (pre++[x]) W/\Z [] w0 W)/\∀v bY,tC W v bY->tC W v bY from⟨⟨.inr ⟨A,u⟩,U⟩,λ_ _ h=>h⟩);clear f U A g u B hb;refine callsIn_of_wp func436 D trivial ?_ D;simp only[ntmps436,wL,uJ,uY,Nat.reduceAdd,Nat.reduceSub,wM,wN,wO,wP,tA,tf];gi_wp2;go_end0;grind[Hid.out]
def afX(a b:List Ev):gF (a++b)=gF a++gF b:=GL ..
def wo{a b:List Ev}(h:a <+:b):gF a <+:gF b:=by obtain⟨r,rfl⟩:=h;simp[gF]
theorem N9(L:iB)(i:Nat)(h:i<ln L):(Ef L)[i*2]?=H (Y L[i].1)/\(Ef L)[i*2+1]?=H (Y L[i].2):=by
 induction L generalizing i with
 |nil=>simp at h
 |cons a L ih=>
  cases i<;>grind
theorem wen(t:IB l tot w0 d8 JE)(hb:zq w0.heap<=b)(X:∀m,Wk m b l I->JE m->JE (m.setCell ⟨b,1,F⟩ (.bool C)))(P:∀pre W K,d8 pre W->Z [] W K->d8 pre K)(a2:∀W K,JE W->Z [] W K->JE K)(s:O)(av:dB)(bY:iB)(pre:List It)(W:J)(M:Z [] w0 W)(L:JW l b d8 JE pre W)(x:pre++rB (.enter s bY) <+:tot)(q:tC W av bY)(a7:ln bY<=4096):dS 433 #[dq b,Y s,av] W λe K=>(∃d,e=ff (.bool d)/\(d=C\/d=I/\∀p,JW l b d8 JE p K))/\JW l b d8 JE (pre++rB (.enter s bY)) K/\Z [] w0 K:=by
 have a3:pre++[(⟨4,s,⟨#[]⟩⟩:It)] <+:tot:=by have⟨r,hr⟩:=x;exact⟨_,by rw[<-hr];simp[rB];rfl⟩
 have E:=V (Bq t hb X pre ⟨4,s,⟨#[]⟩⟩ W M L a3);have⟨ao,cap,hav⟩:=df q;have y:=V q;have T:=V x;have HY:=V t;have R:=V P;have a5:=V a2;have a6:=V X;have Q:=V hb;obtain⟨n,w⟩:∃n,n=ln bY:=⟨_,D⟩;rw[<-w]at a7 hav;have S:=V w;subst hav;clear t M L x a3 q P w hb X a2;go_enter func433,ntmps433;go_wp21;refine E.out.mono ?_;rintro e W2⟨rfl,⟨h,z⟩,f⟩;have ac:=V (f _ _ y.out);have ae:=V h;have af:=V z;clear h z f E y;go_wp21
 go_loopw [14] (λv wr=>∃i:Nat,v=G i/\i<=n/\JW l b d8 JE (pre++(⟨4,s,⟨#[]⟩⟩::(bY.take i).map λa=>(⟨5,a.1,a.2⟩:It))) wr/\Z [] w0 wr/\tC wr (.slice ao n cap) bY) (λv _=>n-(intOf v).toNat)
 case atStart=>grind[Hid.out]
 case round=>
  obtain⟨i,rfl,hi,h,z,ha⟩:=hrel;by_cases aa:i<n
  .have h1:i<ln bY:=by rw[<-S.out];exact aa
   obtain⟨g,a8⟩:∃g,ao=H ⟨g,0,F⟩:=by
    rcases ha.2 with⟨e,h0⟩|⟨g,ab,ag,e,_⟩
    all_goals grind
   subst a8;have ah:wr.cell? ⟨g,i*2,F⟩=H (Y bY[i].1):=by
    have:=ha.cells (g:=g) D (i*2) _ (N9 bY i h1).1;rw[fC]at this
    simpa using this
   have ai:wr.cell? ⟨g,i*2+1,F⟩=H (Y bY[i].2):=by
    have:=ha.cells (g:=g) D (i*2+1) _ (N9 bY i h1).2;rw[fC]at this
    simpa using this
   have u:(pre++(⟨4,s,⟨#[]⟩⟩::(bY.take i).map λa=>(⟨5,a.1,a.2⟩:It)))++[⟨5,bY[i].1,bY[i].2⟩]=pre++(⟨4,s,⟨#[]⟩⟩::(bY.take (i+1)).map λa=>(⟨5,a.1,a.2⟩:It)):=by
    have:(bY.take (i+1))=bY.take i++[bY[i]]:=by rw[IJ,qM h1];rfl
    rw[this,sy];simp only[oX,tf,Fy,List.map_nil]
   have A:(pre++(⟨4,s,⟨#[]⟩⟩::(bY.take i).map λa=>(⟨5,a.1,a.2⟩:It)))++[⟨5,bY[i].1,bY[i].2⟩] <+:tot:=by rw[u];have⟨r,hr⟩:=T.out;refine⟨((bY.drop (i+1)).map λa=>(⟨5,a.1,a.2⟩:It))++r,?_⟩;rw[<-hr];have e:=mf (List.map λa:O×O=>(⟨5,a.1,a.2⟩:It)) (Mu (i+1) bY);rw[sy]at e;show _=pre++(⟨4,s,⟨#[]⟩⟩::bY.map λa=>(⟨5,a.1,a.2⟩:It))++r;rw[<-e];simp only[oX,tf]
   have j:∀o,Z [] wr (wr.alloc o):=λo=>(Z.refl [] wr).alloc o;have k:=V (λo=>Bq HY.out Q.out a6.out _ ⟨5,bY[i].1,bY[i].2⟩ (wr.alloc o) (z.trans (j o)) (JW.mono R.out a5.out h (j o)) A);have a1:=V (λo=>ha.kept (j o));simp only[u]at k;generalize bY[i].1=u1 at *;generalize bY[i].2=u2 at *;clear u A j h z ha;go_wp21;refine(k.out _).mono ?_;rintro e W3⟨rfl,⟨h,z⟩,f⟩;have c:=V h;have U:=V z;have ad:=V (f _ _ (a1.out _));clear h z f k a1;go_wp2;go_roundw
   case rel=>grind[Hid.out]
   case measure=>simp[intOf];omega
  .have N:bY.take i=bY:=zA (by grind[Hid.out]);rw[N]at h;have c:=V h;have U:=V z;clear z ha N;rcases h with⟨h,B⟩|⟨h,B⟩
   .have a0:=aF B 1;dsimp at a0;have a9:=fp B;clear h B;go_wp2;go_ret;exact⟨⟨_,D,.inl D⟩,c.out,U.out⟩
   .have a0:=aF B 1;dsimp at a0;have a9:=fp B;have a4:=V (λp=>(show JW l b d8 JE p wr from .inr ⟨h,B⟩));clear h B;go_wp2;go_ret;exact⟨⟨_,D,.inr ⟨D,a4.out⟩⟩,c.out,U.out⟩
end
theorem XN(l b:Nat)(i:List Ev)(w0:J)(g:List It->J->Prop)(f:J->Prop)(A:IB l (gF i) w0 g f)(B:zq w0.heap<=b)(d:∀a1,Wk a1 b l I->f a1->f (a1.setCell ⟨b,1,F⟩ (.bool C)))(k:∀pre W K,g pre W->Z [] W K->g pre K)(c:∀W K,f W->Z [] W K->f K):Bf 199 (dq b) (λ_=>I) i w0 (λpre W=>JW l b g f (gF pre) W):=by
 have one:∀pre X,gF (pre++[X])=gF pre++rB X:=λpre X=>by simp[gF]
 refine {mono:=λpre W K h hk=>h.mono k c hk,dt:=λs=>?_,cm:=λs=>?_,tx:=λs=>?_,tz:=λs=>?_,enter:=?_}
 .refine⟨432,dq b,λw=>by kernel_rfl,λw=>by kernel_rfl,enters_of func432 (by rfl) D,λpre W u o z=>?_⟩;have a:=wo z;rw[one]at a
  try simp
  rw[one];show Calls prog 432 #[dq b,Y s] W λe K=>e=pG/\JW l b g f (_++[⟨1,s,⟨#[]⟩⟩]) K/\Z [] w0 K;go_enter func432,ntmps432;go_wp21;refine(V (Bq A B d _ _ W u o a)).out.mono ?_;rintro e U⟨rfl,j,_⟩;go_wp2;go_end0;grind[Hid.out]
 .refine⟨431,dq b,λw=>by kernel_rfl,λw=>by kernel_rfl,enters_of func431 (by rfl) D,λpre W u o z=>?_⟩;have a:=wo z;rw[one]at a
  try simp
  rw[one];show Calls prog 431 #[dq b,Y s] W λe K=>e=pG/\JW l b g f (_++[⟨2,s,⟨#[]⟩⟩]) K/\Z [] w0 K;go_enter func431,ntmps431;go_wp21;refine(V (Bq A B d _ _ W u o a)).out.mono ?_;rintro e U⟨rfl,j,_⟩;go_wp2;go_end0;grind[Hid.out]
 .refine⟨435,dq b,λw=>by kernel_rfl,λw=>by kernel_rfl,enters_of func435 (by rfl) D,λpre W u o z=>?_⟩;have a:=wo z;rw[one]at a
  try simp
  rw[one];show Calls prog 435 #[dq b,Y s] W λe K=>e=pG/\JW l b g f (_++[⟨3,s,⟨#[]⟩⟩]) K/\Z [] w0 K;go_enter func435,ntmps435;go_wp21;refine(V (Bq A B d _ _ W u o a)).out.mono ?_;rintro e U⟨rfl,j,_⟩;go_wp2;go_end0;grind[Hid.out]
 .refine⟨434,dq b,λw=>by kernel_rfl,λw=>by kernel_rfl,enters_of func434 (by rfl) D,λpre W u o z=>?_⟩;have a:=wo z;rw[one]at a
  try simp
  rw[one];show Calls prog 434 #[dq b,Y s] W λe K=>e=pG/\JW l b g f (_++[⟨6,s,⟨#[]⟩⟩]) K/\Z [] w0 K;go_enter func434,ntmps434;go_wp21;refine(V (Bq A B d _ _ W u o a)).out.mono ?_;rintro e U⟨rfl,j,_⟩;go_wp2;go_end0;grind[Hid.out]
 refine⟨433,dq b,λw=>by kernel_rfl,λw=>by kernel_rfl,enters_of func433 (by rfl) D,λpre W s av bY u o z hA a0=>?_⟩;have a:=wo z;rw[one]at a;rw[one];refine(wen A B d k c s av bY _ W u o a hA a0).mono ?_;grind
def ab0(w:J):(zeroValue 166).run prog w=.ok .nilFunc w:=by simp
theorem TN{R:Option (List (List O×Ru))}(h:qN bm bB bD R v w)(n:O):∃u,(∀U,Z [] w U->(fO 168 v (Y n) I).run prog U=.ok u U)/\mM bm bB bD (uC R n) u w:=by
 cases R with
 |none=>
  obtain rfl:=h;refine⟨.nilFunc,λU _=>?_,D⟩;have d:∀x,(gg x 10000 9 (Y n)).run prog U=.ok () U:=λx=>D;simp[fO,d,gj,gA,da]
 |some R=>
  obtain⟨b,L,rfl,a,o⟩:=h;refine⟨(Bz L n).getD .nilFunc,λU e=>Gv (by simp) ab0 (a.keeps (e.block b a.lt (by simp))) n,?_⟩;grind[mM,uC]
end
end Go.Proofs.YtcalkelgoekpfaaGreatDoor
