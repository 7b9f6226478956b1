import Derived.Test.YtcalkelgoekpfaaGreatDoorDoA
import Derived.Shelf.Lay
import Derived.Shelf.Strings.SlTrimAscii
set_option linter.unusedSimpArgs false
set_option linter.unusedVariables false
set_option linter.defProp false
set_option linter.unusedSectionVars false
set_option maxHeartbeats 0
set_option maxRecDepth 100000
namespace Go.Proofs.YtcalkelgoekpfaaGreatDoor
open Go.RowKit Go.PlainAid Tryz
open _root_.ByteArray renaming ext→gL,mk→eL,size_extract→ev
open Result renaming andThen→da
open Value renaming ownBlock→dl,slice→cV
open Below renaming heap_alloc→dc,heap_setCell→dE,refl→gB
open Oper renaming semAt_some→db
open Pure renaming pure→aG
open Region renaming binds→du,ready→fB,wanted→ub
open Lib renaming hasSuffix→gO,trimSuffix→dM
open Option renaming some→H,none→F,isSome_iff_exists→dh
open Bool renaming true→C,false→I
open List renaming length→ln,any_eq_true→fT,append_eq_nil_iff→fL,getElem?_eq_some_iff→dG,map_singleton→ov,mem_append→dA,mem_cons→bZ,mem_singleton→cC,take_length→ot
open _root_.Array renaming size→zq,getElem?_eq_some_iff→dD,getElem?_setIfInBounds_ne→tT
open Go renaming undef→qu
def Mo:=@beq_eq_false_iff_ne
def Rz:=@wpIn_rangeFunc
def DB:=@World.alloc_heap_new
def RA:=@run_enterLoop_outer
def Mq:=@World.putObj_heap_same
def DC:=@run_endLoop
def GM:=@ownsRow_putObj
def rW:=@gL
def uT:=@eq_of_beq
section
variable {A c lb:io}{bF b dP bs cp fi i j n n0 z:Nat}{E:fS}{L:pi}{aI:Ending->J->Prop}{R:RC}{S:List (Nat×dB)}{T:List Nat}{W K w P w0 w2:J}{a:Act}{ao:Option Addr}{assign body:Code}{bY:iB}{f f0:Nat->Nat}{m:Nat×Nat}{o o':Obj}{s:O}{v v':dB}{X U:N}
def akw(E:fS)(a2:∃x m c,E.a=.slice x m c)(t:dj)(h:t.k≠ .ic):aiq E t:=by
 intro bB C sp z p K P U j r X f l w hi;obtain⟨a,b,k,bY⟩:=t;have⟨x0,m0,c0,a2⟩:=a2;have⟨k0,k1,k2,k3,k4,k5,k6,k7,k8,k9⟩:=abI hi.one;have g:=V hi;clear hi;have v:=V (λo=>((Z.refl [] w).alloc (dr #[z,p,K,P,U,j,r,X,f,l] 170)).alloc o);have f9:=g.out.l.fv;have y1:=qj underlying186;have y2:=qj underlying196;have y3:=qj underlying198;have y4:=qj underlying194;have y5:=qj underlying195;have n1:=Au;have n2:=yc;have n3:=Bd;have n4:=rQ;have n5:=yd;cases k
 case ic=>exact absurd D h
 all_goals simp only[kP,a2,eI]
 all_goals clear a2 h
 all_goals go_enter func258,ntmps258
 case' fI s=>
  go_wp21;refine(KL s _).mono ?_;rintro e w1⟨rfl,a3⟩;have y:=a3.at (Dz w (dr #[z,p,K,P,U,j,r,X,f,l] 170) _) (by simp);replace v:=V ((v.out _).trans a3);have M:=aF y 0;have N:=aF y 1;have A:=aF y 9;dsimp at M N A;clear y a3;have f0:=g.out.blank.fv;have f1:=g.out.fI.fv;cases hb:fP s
  case' false=>have d:Hid (vN E.bm bB C w _ [p,l]):=V (.cons g.out.fI (.cons g.out.l .nil))
  case' true=>
   have d:Hid (vN E.bm bB C w _ [z,p,l]):=V (.cons g.out.blank (.cons g.out.fI (.cons g.out.l .nil)));rcases f0 with rfl|⟨_,_,_,rfl⟩
  all_goals rcases f1 with rfl|⟨_,_,_,rfl⟩
 case' dz s=>
  have O:=λo=>aF (Dz w (dr #[z,p,K,P,U,j,r,X,f,l] 170) o) 2;have A:=λo=>aF (Dz w (dr #[z,p,K,P,U,j,r,X,f,l] 170) o) 9;dsimp at O A;have d:Hid (vN E.bm bB C w _ [K,l]):=V (.cons g.out.dz (.cons g.out.l .nil));rcases g.out.dz.fv with rfl|⟨_,_,_,rfl⟩
 case' eG n q=>
  have aI:=λo=>aF (Dz w (dr #[z,p,K,P,U,j,r,X,f,l] 170) o) 3;have A:=λo=>aF (Dz w (dr #[z,p,K,P,U,j,r,X,f,l] 170) o) 9;dsimp at aI A;have d:Hid (vN E.bm bB C w _ [P,l]):=V (.cons g.out.eG (.cons g.out.l .nil));rcases g.out.eG.fv with rfl|⟨_,_,_,rfl⟩
 case' dZ=>
  have R:=aF (aY w (dr #[z,p,K,P,U,j,r,X,f,l] 170)) 4;have A:=aF (aY w (dr #[z,p,K,P,U,j,r,X,f,l] 170)) 9;replace v:=V ((Z.refl [] w).alloc (dr #[z,p,K,P,U,j,r,X,f,l] 170));dsimp at R A;have d:Hid (vN E.bm bB C w _ [U,l]):=V (.cons g.out.dZ (.cons g.out.l .nil));rcases g.out.dZ.fv with rfl|⟨_,_,_,rfl⟩
 case' start n=>
  have⟨u,hlk,hu⟩:=TN g.out.start n;obtain⟨i,F⟩:∃i,i=Obj.cells #[G a,G b,Y n,.slice x0 m0 c0] 194 (0,0):=⟨_,D⟩;obtain⟨W,H⟩:∃W,W=(w.alloc (dr #[z,p,K,P,U,j,r,X,f,l] 170)).alloc i:=⟨_,D⟩;have a0:=hlk _ (v.out i);have y:=Dz w (dr #[z,p,K,P,U,j,r,X,f,l] 170) i;have B:=aY (w.alloc (dr #[z,p,K,P,U,j,r,X,f,l] 170)) i;replace v:=V (v.out i);rw[<-H]at a0 y B v;simp[F]at B;have S:=aF y 5;have Q:=aF y 7;have A:=aF y 9;have L:=aF B 2;dsimp at S Q A L;have I:=V (F▸H.symm);have d:Hid (vN E.bm bB C w _ [u,X,l]):=V (.cons hu (.cons g.out.B (.cons g.out.l .nil)));have J:=hu.fv;have f7:=g.out.B.fv;clear H F hlk y B hu;go_wp21;rw[I.out];go_wp21;rw[a0];clear a0;rcases J with rfl|⟨_,_,_,rfl⟩<;>rcases f7 with rfl|⟨_,_,_,rfl⟩
 case' stop n=>
  have⟨u,hlk,hu⟩:=TN g.out.stop n;obtain⟨i,F⟩:∃i,i=Obj.cells #[G a,G b,Y n,.slice x0 m0 c0] 195 (0,0):=⟨_,D⟩;obtain⟨W,H⟩:∃W,W=(w.alloc (dr #[z,p,K,P,U,j,r,X,f,l] 170)).alloc i:=⟨_,D⟩;have a0:=hlk _ (v.out i);have y:=Dz w (dr #[z,p,K,P,U,j,r,X,f,l] 170) i;have B:=aY (w.alloc (dr #[z,p,K,P,U,j,r,X,f,l] 170)) i;replace v:=V (v.out i);rw[<-H]at a0 y B v;simp[F]at B;have T:=aF y 6;have q8:=aF y 8;have A:=aF y 9;have L:=aF B 2;dsimp at T q8 A L;have I:=V (F▸H.symm);have d:Hid (vN E.bm bB C w _ [u,f,l]):=V (.cons hu (.cons g.out.A (.cons g.out.l .nil)));have J:=hu.fv;have f8:=g.out.A.fv;clear H F hlk y B hu;go_wp21;rw[I.out];go_wp21;rw[a0];clear a0;rcases J with rfl|⟨_,_,_,rfl⟩<;>rcases f8 with rfl|⟨_,_,_,rfl⟩
 all_goals rcases f9 with rfl|⟨_,_,_,rfl⟩
 all_goals go_wp2_with fail
 all_goals refine(aaN d.out (by simp) (by simp)).mono ?_
 all_goals rintro e w3⟨rfl,rfl⟩
 all_goals have a1:=V d.out.first
 all_goals simp only[Aa]at a1|-
 all_goals go_wp2
 all_goals go_ret
 all_goals first|exact⟨_,D,by rw[hb];exact a1.out,v.out.alloc _⟩|exact⟨_,D,a1.out,v.out.alloc _⟩|exact⟨_,D,a1.out,(v.out _).alloc _⟩
def Wo(E:fS)(t:dj):qU E t 205 (xW t):=by
 refine dI λf X w R z HS a3=>?_;unfold xW at z;go_enter func205,ntmps205;have⟨kb,lbb,cb,HQ⟩:=a3.rel.bounds;have h:=a3.lt;have k:=cb;have l:=(Z.refl [] w).drew;have⟨ta,tb,tao,tn,tcp,HTG⟩:=Fi E t a3.rel;have a0:=λw=>AG ta tb t.name tao tn tcp w;replace z:Hid (R=.ok () (X.close (cZ [t.name]) (eP))):=by have:=z;rw[M.cW,tG]at this;exact V this
 go_wp21
 go_region_with (first
   |(go_at_call 171;refine(HTG _).mono ?_;rintro e P⟨rfl,y⟩;have l:=V (l.trans y);have c3:P.cell? ⟨E.A,186,F⟩=H (.func (.func kb) #[] lbb):=(l.cell (p:=⟨E.A,186,F⟩) h (by simp)).trans k;have a1:E.A<zq P.heap:=kQ h l.size;clear y)
   |(go_at_call 219;refine(lG E [t.name] P (by simp)).mono ?_;rintro e w1⟨k1,a2,rfl,u,x⟩;have g:=l.trans x;have c1:w1.cell? ⟨E.A,186,F⟩=H (.func (.func kb) #[] lbb):=(g.cell (p:=⟨E.A,186,F⟩) h (by simp)).trans k;have K:=V u;have d:=V g;clear u x g)
   |(go_at_call 222;refine(DX (p:=cZ [t.name]) (q:=eP) (a3.k0 d).rel K (HQ.k0 d)).mono ?_;rintro e w2⟨rfl,U,a⟩;have b:=V ((a3.k0 d).to U (xU _ _ _) a);clear U a))
 all_goals (try (go_wp21))
 all_goals go_wp2
 all_goals go_end0
 all_goals exact cF z b D
def Ei(E:fS)(a:Nat->dj->M Unit)(b:FA E a)(t:dj)(h:gz E t):qU E t 129 (pQ a t):=by refine dI λf X w R d HS p=>?_;unfold pQ at d;go_enter func129,ntmps129;have e:=p.IQ;have g:=p.free 195;replace p:=p.yk C;go_wp21;refine dC (b 6 t h) p d HS D lT ?_;rintro(_) f X w p l k d;have e:=p.IQ;have g:=p.free 195;have p.lt:=p.lt;replace p:=p.yk I;go_wp2;go_end0;exact cF d p D
def MM(E:fS)(a:Nat->dj->M Unit)(b:FA E a)(t:dj)(k:gz E t):qU E t 119 (lL a t):=by
 refine dI λf X w R d HS U=>?_;unfold lL at d;go_enter func119,ntmps119;go_wp21;refine(Cb E _).mono ?_;rintro e w⟨K,q,rfl,g,h⟩;replace U:=U.k0 h;have P:=A0 U.rel g;cases hc:X.gV qS with
 |true=>
  rw[hc]at P;replace d:Hid (R=(jg a t>>=λ_=>(pure ():M Unit)) {X with kept:=X.g,g:=8}):=by have:=d;rw[dw hc]at this;exact V this
  go_wp21;refine P.mono ?_;rintro e w⟨rfl,rfl⟩;have u:=U.qY;have y:=U.free 192;have x:=U.VU;have z:=U.free 193;have hl:=U.lt;replace U:=(U.ym X.g).fy 8;go_wp21;refine dC (sW E a b t k) U d HS D lT ?_;rintro(_) f X w U p l d;go_wp2;go_end0;exact cF d U D
 |false=>
  rw[hc]at P;replace d:Hid (R=(pQ a t>>=λ_=>(pure ():M Unit)) X):=by have:=d;rw[di (by simp[hc])]at this;exact V this
  go_wp21;refine P.mono ?_;rintro e w⟨rfl,rfl⟩;go_wp21;refine dC (Ei E a b t k) U d HS D lT ?_;rintro(_) f X w U p l d;go_wp2;go_end0;exact cF d U D
def FO(h:RF E f X w){k:Nat}{p:List O}(m:Nat)(u:Ask E.bm (.func (.func k) #[] lb) (cZ p) w)(x:(mD p m) X≠ .stuck):dS 230 #[Bp E,.func (.func k) #[] lb,G m] w (iW E f (ln X.d) w ((mD p m) X) bV):=by
 obtain⟨R,l⟩:∃R,R=(mD p m) X:=⟨_,D⟩;rw[<-l]at x|-;unfold mD at l;have a:=At.start h;have d:=V l;clear l;go_enter func230,ntmps230;go_wp21;refine(wG E _).mono ?_;rintro e w⟨U,y,rfl,q,g⟩;replace a:=a.k0 g;replace u:=u.k0 g;go_wp21;refine As (λ_=>yK a.rel u q) a d x mT ?_;rintro(b) X w a z d;cases b with
 |false=>
  go_wp2;go_ret;exact iw d a D
 |true=>
  replace d:=d;have K:=a.qY;have P:=a.free 192;have hl:=a.lt;replace a:=a.fy m;go_wp2;go_ret;exact iw d a D
def zt(h:RF E f X w){k:Nat}{e:List O}(m:Nat)(q:Ask E.bm (.func (.func k) #[] lb) (cZ e) w)(l:(jn e m) X≠ .stuck):dS 229 #[Bp E,.func (.func k) #[] lb,G m] w (iW E f (ln X.d) w ((jn e m) X) bV):=by
 obtain⟨R,g⟩:∃R,R=(jn e m) X:=⟨_,D⟩;rw[<-g]at l|-;have x:=At.start h;have d:=V g;clear g;go_enter func229,ntmps229;go_wp21;refine As (λu=>FO x.rel m q u) x d l mT ?_;rintro(b) X w x p d;cases b with
 |false=>
  go_wp2;go_ret;exact iw d x D
 |true=>
  replace d:=d;go_wp21;refine mC (U7 E) x d l D mT ?_;rintro(_) X w x p d;go_wp2;go_ret;exact iw d x D
def Ww(E:fS):jk E 125 (λ_=>#[Bp E]) sI bV:=by
 refine mI λf X w R d HS z=>?_;unfold sI at d;go_enter func125,ntmps125;go_wp21;refine(O1 E _).mono ?_;rintro e w⟨x,q,rfl,h,l⟩;replace z:=z.k0 l;go_wp21;refine(wG E _).mono ?_;rintro e w⟨y,u,rfl,k,g⟩;replace z:=z.k0 g;replace h:=h.k0 g;go_wp21;refine As (λ_=>yK z.rel h k) z d HS mT ?_;rintro(b) X w z p d;cases b with
 |false=>
  go_wp2;go_ret;exact iw d z D
 |true=>
  replace d:=d;go_wp21;refine As (λ_=>Zf z.rel) z d HS mT ?_;rintro(_) X w z p d;go_wp2;go_ret;exact iw d z D
def FL(E:fS):jk E 133 (λ_=>#[Bp E]) ir bV:=by
 refine mI λf X w R d HS y=>?_;unfold ir at d;go_enter func133,ntmps133;go_wp21;refine(lG E [aV] _ (by decide)).mono ?_;rintro e w⟨u,k,rfl,g,h⟩;replace y:=y.k0 h;have x:=A0 y.rel g;cases hc:X.gV (cZ [aV])with
 |true=>
  rw[hc]at x;replace d:=by have:=d;rw[dw hc]at this;exact V this
  go_wp21;refine x.mono ?_;rintro e w⟨rfl,rfl⟩;go_wp21;refine mC (Df E) y d HS D mT ?_;rintro(_) X w y l d;have p:=y.qY;have q:=y.free 192;have hl:=y.lt;replace y:=y.fy 7;go_wp2;go_ret;exact iw d y D
 |false=>
  rw[hc]at x;replace d:Hid (R=.ok I X):=by have:=d;rw[di (by simp[hc])]at this;exact V this
  go_wp21;refine x.mono ?_;rintro e w⟨rfl,rfl⟩;go_wp2;go_ret;exact iw d y D
theorem RF.g(h:RF E f X w):X.dO X.last=C:=by have⟨L,_,Q⟩:=h;unfold N.last;rcases wD X.A with d|⟨e,y,d⟩;rw[d];rfl;rw[d,vF];exact N.vm (Q.wf.A y (by grind))
theorem ahs(E:fS)(d:dB)(p:O->Bool)(w:J)(q:Ask E.bm d p w):dS 238 #[d] w (xM E (λs=>!p s) w):=by
 refine((show Calls prog 238 #[d] w λe P=>(∃v,e=ff v/\Ask E.bm v (λs=>!p s) P)/\Z [] w P by have⟨E1,a1,c1⟩:=q;refine(aer E1 d p w a1).mono ?_;rintro e P⟨⟨v,rfl,k,h⟩,l⟩;refine⟨⟨v,D,_,k,λe g=>?_⟩,l⟩;simp at g;rcases g with rfl|g;exact .inr ⟨_,_,h,by decide⟩;grind[wW.d,yD.h])).mono ?_
 grind[Ask.call]
def UK(E:fS)(t:dj)(p:gz E t):qU E t 191 (sq t):=by
 refine dI λf X w R d HS K=>?_;unfold sq at d;go_enter func191,ntmps191;have h:=K.VS;have hl:=K.lt;cases hf:X.j with
 |some i=>
  rw[hf]at h d;replace d:Hid (R=.ok () X):=d;go_wp2;go_end0;exact cF d K D
 |none=>
  rw[hf]at h d;replace d:=d;go_wp21;refine dC (vr E (eK E) t p) K d HS D lT ?_;rintro(_) f X w K u q d;have g:=K.rel.g;have z:=K.rel.A;have x:=K.VS;have y:=K.free 191;have l:=K.lt;have k:=K.uG X.last g;go_wp21;refine z.mono ?_;rintro e w⟨rfl,rfl⟩;replace K:=k;go_wp2;go_end0;exact cF d K D
def Dt(E:fS)(t:dj)(P:gz E t):qU E t 126 (jD t):=by
 refine dI λf X w R d HS a0=>?_;unfold jD at d;go_enter func126,ntmps126;have g:=a0.VS;have hl:=a0.lt;cases hf:X.j with
 |some i=>
  rw[hf]at g d;replace d:Hid (R=.ok () X):=d;rw[show oV f (H i)=dq (f i)from D]at g;go_wp2;go_end0;exact cF d a0 D
 |none=>
  rw[hf]at g d;replace d:Hid (R=(eE t>>=λ_=>(do let x <-wU;oc λX=>{X with j:=x};return ():M Unit)) X):=d;rw[show oV f F=.pointer F from D]at g;go_wp21;refine dC (jC E (eK E) t P) a0 d HS D lT ?_;rintro(_) f X w a0 b a d;have h:=a0.rel.g;go_wp21;refine jk.a (Df E) a0 d HS D ?_ ?_
  .intro c p j n e u y;have q:=V e;clear e;go_wp2;exact⟨D,nY q u y⟩
  rintro x k w e m z l;have U:k.dO x=C:=by unfold wU at l;cases l;exact h
  have c2:=e.VS;have f2:=e.free 191;have K:=e.lt;replace a0:=e.uG x U;replace d:=z;clear e;go_wp2;go_end0;exact cF d a0 D
def Ra(E:fS)(t:dj)(h:gz E t):qU E t 194 (tZ t):=by
 refine dI λf X w R d HS u=>?_;unfold tZ at d;go_enter func194,ntmps194;have g:=u.I1;have hl:=u.lt;cases hq:X.W with
 |true=>
  rw[hq]at g;replace d:=by have:=d;rw[M.cW]at this;unfold xa at this;rw[hq]at this;exact V this
  go_wp21;refine dC (jC E (eK E) t h) u d HS D lT ?_;rintro(_) f X w u k e d;have l:=u.qY;have p:=u.free 192;have hl:=u.lt;replace u:=u.fy 7;go_wp2;go_end0;exact cF d u D
 |false=>
  rw[hq]at g;replace d:=by have:=d;rw[M.cW]at this;unfold xa at this;rw[hq]at this;exact V this
  go_wp21;refine As (λq=>xS u.rel q) u d HS lT ?_;rintro(_) X w u e d;go_wp21;refine dC (jC E (eK E) t h) u d HS D lT ?_;rintro(_) f X w u k e d;have l:=u.qY;have p:=u.free 192;have hl:=u.lt;replace u:=u.fy 7;go_wp2;go_end0;exact cF d u D
def Nu(E:fS)(t:dj)(u:gz E t):qU E t 197 (sv t):=by
 refine dI λf X w R d HS a0=>?_;unfold sv at d;go_enter func197,ntmps197;go_wp21;refine dC (qG E (eK E) t u) a0 d HS D lT ?_;rintro(_) f X w a0 P K d;have q:=a0.qY;have U:=a0.free 192;have hl:=a0.lt;have l:=a0.fy 15;have p:=a0.fy 14;replace d:Hid (R=.ok () {X with g:=if X.g=7\/X.g=9\/X.g=11\/X.g=12\/X.g=13 then 15 else 14}):=d;generalize g:X.g=e at q d;have k:=g;have h:=d;by_cases g:e=7\/e=9\/e=11\/e=12\/e=13
 .rw[dw g]at h;replace d:=h;rcases g with rfl|rfl|rfl|rfl|rfl
  all_goals go_wp2
  all_goals go_end0
  all_goals exact cF d l D
 .rw[di g]at h;replace d:=h;have a:((e:Int)==7)=I:=by rw[Mo];omega
  have b:((e:Int)==9)=I:=by rw[Mo];omega
  have x:((e:Int)==11)=I:=by rw[Mo];omega
  have y:((e:Int)==12)=I:=by rw[Mo];omega
  have z:((e:Int)==13)=I:=by rw[Mo];omega
  go_wp2;go_end0;exact cF d p D
def ajU(E:fS)(t:dj):qU E t 208 Qb:=by
 refine dI λf X w R d HS a=>?_;unfold Qb at d;go_enter func208,ntmps208;go_wp21;refine(lG E [jV] _ (by decide)).mono ?_;rintro e w⟨K,x,rfl,h,p⟩;replace a:=a.k0 p;go_wp21;refine(zp a.rel).mono ?_;rintro e w⟨P,y,rfl,k,g⟩;replace a:=a.k0 g;have U:=vE a.rel _ _ _ _ (h.k0 g) k;cases hc:X.gH (cZ [jV]) DR with
 |true=>
  rw[hc]at U;replace d:Hid (R=(my>>=λ_=>(pure ():M Unit)) X):=by have:=d;rw[dw hc]at this;exact V this
  go_wp21;refine U.mono ?_;rintro e w⟨rfl,l⟩;replace a:=a.k0 l;go_wp21;refine As (λq=>xS a.rel q) a d HS lT ?_;rintro(_) X w a u d;go_wp2;go_end0;exact cF d a D
 |false=>
  rw[hc]at U;replace d:Hid (R=(iD jV>>=λ_=>(do my;return ():M Unit)) X):=by have:=d;rw[di (by simp[hc])]at this;exact V this
  go_wp21;refine U.mono ?_;rintro e w⟨rfl,l⟩;replace a:=a.k0 l;go_wp21;refine dC (uo E (eK E) jV) a d HS D lT ?_;rintro(_) f X w a z u d;go_wp21;refine As (λq=>xS a.rel q) a d HS lT ?_;rintro(_) X w a u d;go_wp2;go_end0;exact cF d a D
def SV(E:fS):jk E 144 (λ_=>#[Bp E]) vA bV:=by
 refine mI λf X w R g HS a2=>?_;unfold vA at g;go_enter func144,ntmps144;go_wp21;refine(lG E [gm] _ (by decide)).mono ?_;rintro e w⟨k1,P,rfl,d,z⟩;replace a2:=a2.k0 z;go_wp21;refine(tQ E _).mono ?_;rintro e w⟨k3,U,rfl,h,l⟩;replace a2:=a2.k0 l;replace d:=d.k0 l;go_wp21;refine(qB E _).mono ?_;rintro e w⟨k4,a,rfl,u,k⟩;replace a2:=a2.k0 k;replace d:=d.k0 k;replace h:=h.k0 k;go_wp21;refine(Xe E _ _ _ _ _ h u).mono ?_;rintro e w⟨c,a0,rfl,x,p⟩;replace a2:=a2.k0 p;replace d:=d.k0 p;go_wp21;refine(ahs E _ _ _ x).mono ?_;rintro e w⟨i,a1,rfl,y,q⟩;replace a2:=a2.k0 q;replace d:=d.k0 q;go_wp21;refine As (λ_=>yK a2.rel d y) a2 g HS mT ?_;rintro(b) X w a2 K g;cases b with
 |false=>
  go_wp2;go_ret;exact iw g a2 D
 |true=>
  replace g:=g;go_wp21;refine As (λ_=>Zf a2.rel) a2 g HS mT ?_;rintro(_) X w a2 K g;go_wp2;go_ret;exact iw g a2 D
def Rx:O->Bool:=λs=>kg s&&!cZ [gw,jV] s
def uw(d:List O)(m:Nat)(t:dj):M Unit:=do
 sH (cZ d)
 eE t
 iA m
 return ()
def pS(a:Nat->dj->M Unit)(e:List O)(d:O)(m:Nat)(t:dj):M Unit:=do
 sH (cZ e)
 iD d
 iA m
 jg a t
 return ()
def Ew(d:List O)(t:dj):M Unit:=do
 let _ <-iY (cZ d) Rx
 lc t
 return ()
def vV(a:Nat->dj->M Unit)(b:M Bool)(t:dj):M Unit:=do
 let x <-b
 if x then (do jg a t;return ())else return ()
def zY(b:M Bool):M Unit:=do
 let _ <-b
 return ()
def Ask.e{bm:Nat}{p:O->Bool}(h:Ask bm v p w)(d:Fr bs w P):Ask bm v p P:=h.d (d.n bm)
def agm(E:fS)(a:Nat->dj->M Unit)(b:FA E a)(t:dj)(u:gz E t)(m p q:Nat)(h:RF E f X w)(l:a m t X≠ .stuck)(g:box w p (fc E.A) 119)(k:box w q (G m) 175):dS 174 #[kP E t,fc p,fc q] w (Leaves E f (ln X.d) w (a m t X) uV):=by
 obtain⟨R,e⟩:∃R,R=a m t X:=⟨_,D⟩;rw[<-e]at l|-;have HS:=l;have P:=V (At.start h);have d:=V (M.tail e);clear h l e;have z:=aF (box.d (V g).out (P.out.d.n E.bm) (by decide)) 0;have K:=aF (box.d (V k).out (P.out.d.n E.bm) (by decide)) 0;go_enter func174,ntmps174;go_wp21;refine dC (b m t u) P d HS D lT ?_;rintro(_) f X w P y x d;go_wp2;go_end0;exact cF d P D
def Iz(E:fS)(t:dj)(i:gz E t)(u:List O)(m P U a:Nat)(k:Nat)(b:io)(h:RF E f X w)(K:(uw u m t) X≠ .stuck)(l:box w P (fc E.A) 119)(p:box w U (.func (.func k) #[] b) 87)(ha:Ask E.bm (.func (.func k) #[] b) (cZ u) w)(q:box w a (G m) 175):dS 218 #[kP E t,fc P,fc U,fc a] w (Leaves E f (ln X.d) w ((uw u m t) X) uV):=by
 have d:=V l;clear l;have x:=V p;clear p;have y:=V q;clear q;obtain⟨R,z⟩:∃R,R=(uw u m t) X:=⟨_,D⟩;rw[<-z]at K|-;have a0:=V (At.start h);have e:=V z;clear z;have g:=aF (box.d d.out (a0.out.d.n E.bm) (by decide)) 0;have c2:=aF (box.d x.out (a0.out.d.n E.bm) (by decide)) 0;dsimp at g c2;go_enter func218,ntmps218;go_wp21;refine As (λ_=>FI a0.rel (ha.e a0.d)) a0 e K lT ?_;rintro(_) X w a0 c e;have g:=aF (box.d d.out (a0.out.d.n E.bm) (by decide)) 0;dsimp at g;go_wp21;refine dC (jC E (eK E) t i) a0 e K D lT ?_;rintro(_) f X w a0 j c e;have g:=aF (box.d d.out (a0.out.d.n E.bm) (by decide)) 0;have c3:=aF (box.d y.out (a0.out.d.n E.bm) (by decide)) 0;dsimp at g c3;have c4:=a0.qY;have f4:=a0.free 192;have hl:=a0.lt;replace a0:=V (a0.fy m);go_wp2;go_end0;exact cF e a0 D
def Eo(E:fS)(b:Nat->dj->M Unit)(o:FA E b)(t:dj)(r:gz E t)(z:List O)(d:O)(m b1 b2 b3 b4:Nat)(k:Nat)(i:io)(h:RF E f X w)(y:(pS b z d m t) X≠ .stuck)(p:box w b1 (fc E.A) 119)(q:box w b2 (.func (.func k) #[] i) 87)(ha:Ask E.bm (.func (.func k) #[] i) (cZ z) w)(u:box w b3 (Y d) 9)(x:box w b4 (G m) 175):dS 220 #[kP E t,fc b1,fc b2,fc b3,fc b4] w (Leaves E f (ln X.d) w ((pS b z d m t) X) uV):=by
 have g:=V p;clear p;have K:=V q;clear q;have P:=V u;clear u;have U:=V x;clear x;obtain⟨R,a⟩:∃R,R=(pS b z d m t) X:=⟨_,D⟩;rw[<-a]at y|-;have a0:=V (At.start h);have e:=V a;clear a;have l:=aF (box.d g.out (a0.out.d.n E.bm) (by decide)) 0;have c2:=aF (box.d K.out (a0.out.d.n E.bm) (by decide)) 0;dsimp at l c2;go_enter func220,ntmps220;go_wp21;refine As (λ_=>FI a0.rel (ha.e a0.d)) a0 e y lT ?_;rintro(_) X w a0 c e;have l:=aF (box.d g.out (a0.out.d.n E.bm) (by decide)) 0;have c3:=aF (box.d P.out (a0.out.d.n E.bm) (by decide)) 0;dsimp at l c3;go_wp21;refine dC (uo E (eK E) d) a0 e y D lT ?_;rintro(_) f X w a0 j c e;have l:=aF (box.d g.out (a0.out.d.n E.bm) (by decide)) 0;have n:=aF (box.d U.out (a0.out.d.n E.bm) (by decide)) 0;dsimp at l n;have c4:=a0.qY;have f4:=a0.free 192;have hl:=a0.lt;replace a0:=V (a0.fy m);go_wp21;refine dC (sW E b o t r) a0 e y D lT ?_;rintro(_) f X w a0 j c e;go_wp2;go_end0;exact cF e a0 D
def Q7(E:fS)(t:dj)(i:gz E t)(x:List O)(b1 b2 b3:Nat)(k1 k2:Nat)(p q:io)(h:RF E f X w)(y:(Ew x t) X≠ .stuck)(g:box w b1 (fc E.A) 119)(k:box w b2 (.func (.func k1) #[] p) 87)(b:Ask E.bm (.func (.func k1) #[] p) (cZ x) w)(l:box w b3 (.func (.func k2) #[] q) 87)(a0:Ask E.bm (.func (.func k2) #[] q) Rx w):dS 275 #[kP E t,fc b1,fc b2,fc b3] w (Leaves E f (ln X.d) w ((Ew x t) X) uV):=by
 have e:=V g;clear g;have K:=V k;clear k;have P:=V l;clear l;have a:=b;have z:=a0;obtain⟨R,u⟩:∃R,R=(Ew x t) X:=⟨_,D⟩;rw[<-u]at y|-;unfold Ew at u;have HS:=y;have a1:=V (At.start h);have d:=V u;clear u;have U:=aF (box.d e.out (a1.out.d.n E.bm) (by decide)) 0;have c2:=aF (box.d K.out (a1.out.d.n E.bm) (by decide)) 0;have c3:=aF (box.d P.out (a1.out.d.n E.bm) (by decide)) 0;dsimp at U c2 c3;go_enter func275,ntmps275;go_wp21;refine As (λ_=>yK a1.rel (a.e a1.d) (z.e a1.d)) a1 d HS lT ?_;rintro(_) X w a1 c d;have U:=aF (box.d e.out (a1.out.d.n E.bm) (by decide)) 0;dsimp at U;go_wp21;refine dC (vr E (eK E) t i) a1 d HS D lT ?_;rintro(_) f X w a1 j c d;go_wp2;go_end0;exact cF d a1 D
def agT(E:fS)(t:dj)(b:M Bool)(k:Nat)(z:jk E k (λ_=>#[Bp E]) b bV)(y:∀d w,(callFunc k d).run prog w=.ok (.enter k d) w)(q:Nat)(h:RF E f X w)(u:(zY b) X≠ .stuck)(e:box w q (.func (.func k) #[fc E.A] #[]) 65):dS 226 #[kP E t,fc q] w (Leaves E f (ln X.d) w ((zY b) X) uV):=by
 have p:=V e;clear e;obtain⟨R,g⟩:∃R,R=(zY b) X:=⟨_,D⟩;rw[<-g]at u|-;unfold zY at g;have HS:=u;have P:=V (At.start h);have l:=V g;clear g;have x:=aF (box.d p.out (P.out.d.n E.bm) (by decide)) 0;dsimp at x;go_enter func226,ntmps226;go_wp21;refine mC (z) P l HS D lT ?_;rintro(_) X w P K l;go_wp2;go_end0;exact cF l P D
def Qc(E:fS)(c:Nat->dj->M Unit)(i:FA E c)(t:dj)(j:gz E t)(b:M Bool)(k:Nat)(hk:jk E k (λ_=>#[Bp E]) b bV)(a0:∀e w,(callFunc k e).run prog w=.ok (.enter k e) w)(x y:Nat)(h:RF E f X w)(z:(vV c b t) X≠ .stuck)(g:box w x (fc E.A) 119)(l:box w y (.func (.func k) #[fc E.A] #[]) 65):dS 221 #[kP E t,fc y,fc x] w (Leaves E f (ln X.d) w ((vV c b t) X) uV):=by
 have q:=V g;clear g;have u:=V l;clear l;obtain⟨R,p⟩:∃R,R=(vV c b t) X:=⟨_,D⟩;rw[<-p]at z|-;unfold vV at p;have HS:=z;have a1:=V (At.start h);have d:=V p;clear p;have U:=aF (box.d u.out (a1.out.d.n E.bm) (by decide)) 0;dsimp at U;go_enter func221,ntmps221;go_wp21;refine mC (hk) a1 d HS D lT ?_;rintro(P) X w a1 K d;have a:=aF (box.d q.out (a1.out.d.n E.bm) (by decide)) 0;dsimp at a;cases P with
 |true=>
  replace d:Hid (R=(jg c t>>=λ_=>(pure ():M Unit)) X):=d;go_wp21;refine dC (sW E c i t j) a1 d HS D lT ?_;rintro(_) f X w a1 m K d;go_wp2;go_end0;exact cF d a1 D
 |false=>
  replace d:Hid (R=.ok () X):=d;go_wp2;go_end0;exact cF d a1 D
theorem fk.p(h:fk E L X w)(s:O)(p:Bool):fk E L {X with a:=s,S:=p} ((w.setCell ⟨E.Q,E.K,F⟩ (Y s)).setCell ⟨E.Q,E.K+1,F⟩ (.bool p)):=by
 have g:Z [E.Q] w ((w.setCell ⟨E.Q,E.K,F⟩ (Y s)).setCell ⟨E.Q,E.K+1,F⟩ (.bool p)):=((Z.refl _ w).setCell (.inl (by simp)) _).setCell (.inl (by simp)) _;have e:KT E.bs [163] w _:=.q g (λk g _=>by simp at g;subst g;exact⟨⟨_,_,_,h.rd,by simp⟩,h.Q⟩);obtain⟨z,u,d⟩:=h.dP;have l:=bH (bH h.rd E.K (Y s)) (E.K+1) (.bool p);have x:=h.u;exact {h with
  d:=h.d.trans (e.d (by decide))
  B:=λi y hi=>(h.B i y hi).l e (by decide)
  inj:=h.inj,b:=h.b,m:=h.m,T:=h.T,f:=h.f
  wf:=⟨h.wf.A,h.wf.B,h.wf.head,h.wf.j,h.wf.E,h.wf.q,h.wf.u⟩
  dP:=⟨z,e.at u (by decide),⟨d.size,d.low,d.A,d.B,d.head,d.j,d.g,d.kept,d.wait,d.q,d.W,d.K,d.P⟩⟩
  R:=e.row h.R (by decide)
  S:=e.row h.S (by decide)
  o:=h.o,P:=h.P,W:=h.W
  K:=e.row h.K (by decide)
  t:=h.t,A:=h.A,Q:=h.Q,X:=h.X
  rd:=by
   rw[l]
   congr 2
   apply Array.ext_getElem?;intro i;by_cases q:E.K+1=i;grind;rw[tT q,tT q];grind
  tok:=e.row h.tok (by decide)
  q:=h.q,c:=h.c,U:=h.U,a:=h.a,r:=h.r}
theorem fk.xE(h:fk E L X w):w.cell? ⟨E.Q,E.K,F⟩=H (Y X.a)/\w.cell? ⟨E.Q,E.K+1,F⟩=H (.bool X.S)/\(∀j,w.frozen? ⟨E.Q,j,F⟩=I)/\E.Q<zq w.heap:=by have d:=h.u;refine⟨?_,?_,λj=>cY h.rd j,fp h.rd⟩;rw[aF h.rd];grind;rw[aF h.rd];grind
def At.e(h:At E f0 n0 w0 f X w):w.cell? ⟨E.A,3,F⟩=H (.func (.func 49) #[dq E.Q] #[]):=by obtain⟨L,rfl,Q⟩:=h.rel;exact Q.low (by decide) Q.env.IA
theorem Ll(E:fS)(c:E.K=7)(t:dj)(i:gz E t)(d:Bool):pL E 179 (λ_=>#[Bp E,kP E t,.bool d]) (lu t d) uV:=by
 refine dI λf X w R l HS a2=>?_;unfold lu at l;go_enter func179,ntmps179;go_wp21;refine dC (jC E (eK E) t i) a2 l HS D lT ?_;rintro(_) f X w a2 j y l;have⟨ta,tb,tao,tn,tcp,HTG⟩:=Fi E t a2.rel;have a0:=λw=>AG ta tb t.name tao tn tcp w;have a:=a2.e;have hl:=a2.lt;have x:=a;go_wp21
 go_region_with (first
  |(go_at_call 171;refine(HTG _).mono ?_;rintro e q⟨rfl,u⟩;have h:=V (((Z.refl [] w).drew).trans u);have d3:q.cell? ⟨E.A,3,F⟩=_:=(h.cell (p:=⟨E.A,3,F⟩) hl (by simp)).trans x;clear u)
  |(go_at_call 49;refine((show Calls prog 49 #[dq E.Q,Y t.name,.bool d] q λe P=>e=pG/\RF E f {X with a:=t.name,S:=d} P/\Fr E.bs q P by obtain⟨L,rfl,Q⟩:=((a2.k0 h).rel);have⟨c1,z,fz,hl⟩:=Q.xE;have l:=Q.p t.name d;have y:Fr E.bs q ((q.setCell ⟨E.Q,E.K,F⟩ (Y t.name)).setCell ⟨E.Q,E.K+1,F⟩ (.bool d)):=.q (((Z.refl [E.Q] q).setCell (.inl (by simp)) _).setCell (.inl (by simp)) _) (λk K=>by simp at K;subst K;exact⟨⟨_,_,_,Q.rd,by decide⟩,Q.Q⟩);rw[c]at c1 z l y;have f2:=fz 8;go_enter func49,ntmps49;go_wp2;go_end0;grind[RF])).mono ?_;rintro e w4⟨rfl,b,U⟩;have g:=V ((a2.k0 h).to b (rO _ _ D) U);clear b U))
 all_goals
  have z:=g.qY;have f2:=g.free 192;have c4:=g.VU;have f4:=g.free 193;have a1:=g.lt;replace g:=(g.ym X.g).fy 5;go_wp2;go_end0;exact cF l g D
def Iy(E:fS)(a:E.K=7)(t:dj)(e:gz E t):qU E t 105 (yr t):=by refine dI λf X w R d HS k=>?_;go_enter func105,ntmps105;go_wp21;refine dC (Ll E a t e _) k d HS D lT ?_;rintro(_) f X w k h g d;go_wp2;go_end0;exact cF d k D
def Gz(E:fS)(a:E.K=7)(t:dj)(e:gz E t):qU E t 106 (sV t):=by refine dI λf X w R d HS k=>?_;go_enter func106,ntmps106;go_wp21;refine dC (Ll E a t e C) k d HS D lT ?_;rintro(_) f X w k h g d;go_wp2;go_end0;exact cF d k D
def I8(E:fS)(a:E.K=7)(t:dj)(e:gz E t):qU E t 195 (rq t):=by refine dI λf X w R d HS p=>?_;go_enter func195,ntmps195;go_wp21;refine dC (Iy E a t e) p d HS D lT ?_;rintro(_) f X w p h g d;have k:=p.I2;have l:=p.free 198;replace p:=p.rT C;go_wp2;go_end0;exact cF d p D
def aeu(h:RF E f X w)(x:fW)(d:iH x X≠ .stuck):dS 181 #[gU E.A 188,oV f x] w λe P=>e=pG/\iH x X=.ok () {X with A:=X.A.erase x}/\RF E f {X with A:=X.A.erase x} P/\Fr E.bs w P:=by
 have:=EQ E x f X w h d;unfold iH at this d|-;by_cases g:X.dO x=C;rw[dw g]at this|-;exact this.mono (λe P h=>⟨h.1,D,h.2.1,h.2.2.1⟩);rw[di g]at d;exact absurd D d
def PF(E:fS)(b:Nat->dj->M Unit)(c:FA E b)(t:dj)(P:gz E t):qU E t 110 (rM b t):=by
 refine dI λf X w R d HS a0=>?_;unfold rM at d;go_enter func110,ntmps110;have z:=a0.Hv;have hl:=a0.lt;go_wp21;refine As (λK=>(QU E X.head f X w a0.rel K)) a0 d HS lT ?_;rintro(_) X w a0 u d;go_wp21;refine dC (c 3 t P) a0 d HS D lT ?_;rintro(_) f X w a0 U u d;have z:=a0.Hv;have hl:=a0.lt;have h:iH X.head X≠ .stuck:=by intro k;apply HS;rw[d.out,M.cW];unfold oy;rw[k]
 have g:=aeu (a0.k0 ((Z.refl _ w).drew)).rel X.head h;go_wp21
 go_region_with (go_at_call 181;refine g.mono ?_;rintro e a⟨rfl,l,p,q⟩;have y:=V ((a0.k0 ((Z.refl _ w).drew)).to p (rO _ _ D) q);have x:=V l;clear l p q)
 all_goals
  go_wp2;go_end0;refine cF (X:={X with A:=X.A.erase X.head}) (a:=()) ?_ y D;rw[d.out,M.cW];unfold oy;rw[x.out];rfl
def SQ(E:fS)(i:Nat)(h:RF E f X w)(K:dT X.A 0=H i)(z:fM i X≠ .stuck):dS 148 #[Bp E] w (iW E f (ln X.d) w (fM i X) pV):=by
 obtain⟨R,x⟩:∃R,R=fM i X:=⟨_,D⟩;have l:=(h.h ((Z.refl _ w).alloc Vt)).u 0;rw[K]at l;have q:=(show Calls prog 242 #[gU E.A 188,G 0] (w.alloc Vt) (λe P=>e=ff (dq (f i))/\P=w.alloc Vt)from l);rw[<-x]at z|-;have HS:=z;have a2:=(At.start h).k0 ((Z.refl _ w).alloc Vt);have u:=V (M.tail x);have o:=aY w Vt;have a0:=h.lt;clear h z x K l;go_enter func148,ntmps148;go_wp21;refine q.mono ?_;rintro e P⟨rfl,rfl⟩;go_wp21;refine jk.call (Hk E i) a2 u HS D ?_ ?_
 .intro c p j r g m n;have a:=V g;clear g;go_wp2;exact⟨D,tP a m n⟩
 rintro k a1 w1 g b U;have d:=b.cell o (by decide);have c0:=aF d 0;have c1:=aF d 1;have f0:=cY d 0;have f1:=cY d 1;dsimp at c0 c1;replace a2:=((g.side d (by decide) (dF _) 0 (dq (f k.1))).side (bH d 0 _) (by decide) (dF _) 1 (G k.2));replace u:=V U;have y:=V (bH (bH d 0 (dq (f k.1))) 1 (G k.2));clear g b U;go_wp2;refine mL (v:=pV f k) ?_ D (iw u a2 D);simp[results,results148,asAddr,da,go_sem,aF y.out]
def Q5(t:dj)(X:N):qF t X=(uw [dK] 13 t>>=λ_=>(do gN F;return ():M Unit)) X:=by
 unfold qF uw;rw[M.cW,M.cW,M.cW];cases sH _ X with
 |ok a σ1=>
  simp only;rw[M.cW,M.cW];cases eE t σ1 with
  |ok a σ2=>rfl
  |stop c p=>rfl
  |stuck=>rfl
 |stop c p=>rfl
 |stuck=>rfl
def UJ(E:fS)(t:dj)(c:gz E t):qU E t 137 (qF t):=by intro f X w h HS;obtain⟨R,g⟩:∃R,R=qF t X:=⟨_,D⟩;rw[<-g]at HS|-;rw[Q5]at g;have a2:=At.start h;have d:=V g;have a0:=Go.Proofs.enters_of func218 (by rfl) D;clear g;go_enter func137,ntmps137;go_wp21;refine(Zh E _).mono ?_;rintro e w⟨k1,a1,rfl,k,x⟩;replace a2:=a2.k0 x;go_wp21;refine(OS E.bm E.A 0 [dK] 13 _ _ k).mono ?_;rintro e w⟨⟨v,rfl,U,a,b3,u,rfl,l,p,z,q⟩,hk⟩;obtain⟨k2,y,rfl,_,_⟩:=z.call;replace a2:=a2.k0 hk;have K:=(λb=>Iz E t c [dK] 13 U a b3 k2 y a2.rel b l p z q);go_wp21;refine dcH (K) a2 d HS lT ?_;rintro(_) f X w a2 i P d;go_wp21;refine mC (zT E) a2 d HS D lT ?_;rintro(_) X w a2 P d;go_wp2;go_end0;exact cF d a2 D
def aj7:(prog.info? 123).map (λi=>(i.zero,i.size,i.bytes))=H (H .nilIface,1,16):=by kernel_rfl
theorem fk.amw(h:fk E L X w){c:io}(l:iG E L X c)(b:dB)(a:List (Nat×Nat×O))(e:P.heap[E.A]?=H (dr (c.setIfInBounds 194 b) 178))(d:KT E.bs [178,123] w P)(g:P.ownsRow E.bs 123 1 b (ln a) (a.map Vq))(k:ln a<=4096)(p:E.E=F):fk E {L with E:=b} {X with L:=a} P:=
 {d:=h.d.trans (d.d (by decide))
  env:=h.env
  k:=h.k
  B:=λi q hi=>((h.B i q hi).l d (by decide)).loc D D D
  inj:=h.inj,b:=h.b,m:=h.m,T:=h.T,f:=h.f
  wf:=⟨h.wf.A,h.wf.B,h.wf.head,h.wf.j,h.wf.E,h.wf.q,h.wf.u⟩
  dP:=⟨_,e,(by cases l;constructor<;>grind)⟩
  R:=d.row h.R (by decide)
  S:=d.row h.S (by decide)
  o:=h.o,P:=h.P,W:=h.W
  K:=g
  s:=k
  rd:=d.at h.rd (by decide)
  u:=h.u
  tok:=d.row h.tok (by decide)
  q:=h.q,t:=h.t,A:=h.A,Q:=h.Q,X:=h.X,c:=h.c,U:=h.U,a:=h.a,r:=λv u=>by grind}
theorem WS(E:fS)(N:E.E=F)(t:dj):qU E t 130 (j8 t):=by
 intro f X w h z;have⟨a,b,k,bY⟩:=t;cases k with
 |fI s=>
  have K:=KO E ⟨a,b,.fI s,bY⟩ w;cases hn:kN s with
  |true=>
   have n:j8 ⟨a,b,.fI s,bY⟩ X=.ok () X:=by unfold j8;simp only;rw[hn];rfl
   rw[n];have p:kN (dj.d ⟨a,b,.fI s,bY⟩)=C:=hn;rw[p]at K;have v:=At.start h;clear p;go_enter func130,ntmps130;go_wp21;refine K.mono ?_;rintro e w⟨rfl,g⟩;replace v:=v.k0 g;go_wp2;go_end0;grind[cF]
  |false=>
   have a0:ln X.L<4096:=by by_cases hl:ln X.L<4096;exact hl;grind[j8]
   have n:j8 ⟨a,b,.fI s,bY⟩ X=.ok () {X with L:=X.L++[(a,b,s)]}:=by unfold j8;simp only;rw[hn];simp[a0]
   rw[n];have p:kN (dj.d ⟨a,b,.fI s,bY⟩)=I:=hn;rw[p]at K;obtain⟨L,rfl,J⟩:=h;clear p;rw[show kP E ⟨a,b,.fI s,bY⟩=.iface 186 (.agg #[G a,G b,Y s])from D]at K|-;go_enter func130,ntmps130;go_wp21;refine K.mono ?_;rintro e w0⟨rfl,g⟩;have Q:=J.h g;have B:=Fr.h (bs:=E.bs) g;have c1:=Q.P1;have ab:=Q.lt;have⟨Co,HBB,p⟩:=Q.dP;obtain⟨W,hi,O,aI,R⟩:=sZ aj7;have⟨ao,cap,hwv⟩:=df Q.K;rw[hwv]at c1;have U:Z [] w0 (w0.alloc (dr #[Vq (a,b,s)] 123)):=(Z.refl _ _).alloc _;have o:=U.ownsRow Q.K (λ_ _=>by simp);rw[hwv]at o;have a4:(cV ao (ln X.L) cap).ownBlock≠H E.A:=by rw[<-hwv];exact Dp Q.K HBB (by decide)
   have a3:=V (aY w0 (dr #[Vq (a,b,s)] 123));have l:=V Q;have P:=V p;have i:=V hwv;clear Q p hwv;go_wp2_with (at_builtin;refine fQ _ D _ _ 176 D E.bs 123 W .nilIface 1 16 underlying176 hi O aI R D (by decide) (.slice ao (ln X.L) cap) (ln X.L) (X.L.map Vq) D o ⟨zq w0.heap,0,F⟩ 1 1 [Vq (a,b,s)] D D (λk u j=>by rw[fC,aF a3.out,<-j];simp) (λu j=>by simp at j;subst j;rfl) (by unfold maxLen;omega) (by omega) (by have h7:=l.t;have h8:=l.d.size;simp;omega) ?_);intro v' w2 d x a9;have r:Z (cV ao (ln X.L) cap).ownBlock.toList w0 w2:=(U.mono (by simp)).grown x (λk g=> .inl (by rw[g];simp));have b2:w2.heap[E.A]?=H (dr Co 178):=r.at HBB (by grind);have⟨ao',cap',hv⟩:=df d;subst hv;have d1:w2.cell? ⟨E.A,194,F⟩=H (.slice ao (ln X.L) cap):=by rw[aF b2,P.out.wait,i.out]
   have d2:=cY b2 194;have aa:=fp b2;have h3:=bH b2 194 (.slice ao' (ln X.L+1) cap');have a1:(cV ao' (ln X.L+1) cap').ownBlock≠H E.A:=Dp d b2 (by decide);have h4:=qo (a:=⟨E.A,194,F⟩) d a1 (.slice ao' (ln X.L+1) cap');have S:Z (E.A::(cV ao (ln X.L) cap).ownBlock.toList) w0 (w2.setCell ⟨E.A,194,F⟩ (.slice ao' (ln X.L+1) cap')):=(r.mono (λk g _=>gS _ g)).setCell (.inl (by simp)) _;have A:KT E.bs [178,123] w0 (w2.setCell ⟨E.A,194,F⟩ (.slice ao' (ln X.L+1) cap')):=.q S (λk g _=>by rcases bZ.1 g with rfl|g;grind[fk.A];have y:=l.K;rw[i.out]at y;obtain⟨c,m,T⟩:=rG y (by simpa using g);exact⟨⟨_,_,_,T,by simp⟩,(y.lt k (by grind)).1⟩)
   have M:=l.amw P (.slice ao' (ln X.L+1) cap') (X.L++[(a,b,s)]) h3 A (by grind) (by simp;omega) N;have a2:=B.trans (A.d (by decide));go_wp2;go_end0;exact⟨L.K,λ_ _=>D,dF _,D,⟨{L with E:=.slice ao' (ln X.L+1) cap'},D,M⟩,a2⟩
 |start s=>exact absurd D z
 |stop s=>exact absurd D z
 |dz s=>exact absurd D z
 |eG s q=>exact absurd D z
 |ic=>exact absurd D z
 |dZ=>exact absurd D z
def ND{a:Type}(n:Nat)(P:Program)(g:Nat)(b:io)(h:a->io)(Kp:J->J->Prop)(S Sp:List a->Prop)(u:Nat)(w:J):Prop:=
 ∀(l:Nat)(q k:List a->J->Prop)(W:J),Below w.heap.size w W->OwnFrom W.heap.size q->OwnFrom W.heap.size k->
  (∀pre x d,q pre d->ln pre<u->YieldAt Fence.wide (n-1) P l (h x) d λe K=>(e=ff (.bool C)/\q (pre++[x]) K/\Kp d K/\KeepsFrom W.heap.size d K)\/(e=ff (.bool I)/\k (pre++[x]) K/\KeepsFrom W.heap.size d K))->
  q [] W->CallsIn Fence.wide n P g (#[.func (.yield l) #[] #[]]++b) W λe K=>(∃v,e=ff v)/\((∃p,S p/\q p K)\/(∃pre,Sp pre/\k pre K))
theorem Ln{A B:J}{row:fW}{d k:Nat}(a:A.grownBy B row)(b:∀r,row=H r->d<=r/\∃o:Obj,A.heap[r]?=H o/\o.isCells=I)(h:A.heap[k]?=H o)(g:k<d):B.heap[k]?=H o:=
 (a.block k (dD.1 h).1 (λe=>by grind)).trans h
theorem ut{l:Nat}{d:J}(hl:l<b)(h:KeepsFrom (l-1) (W.putObj l o) d):KeepsFrom b W (d.putObj l o'):=by refine⟨?_,λk q g p e=>?_⟩;have:=h.size;simp_all;grind[World.putObj_heap_other,KeepsFrom.same]
theorem Vd{i:Type}{P:Program}{g:Operand}{z:Array Tmp}{aI:Exit->Act->J->Prop}
  (h1:1<=n) {m:Nat} (hg:a.eval g=.func (.func m) #[] lb) (eg:∀L w,(callFunc m L).run P w=.ok (.enter m L) w)
  {u:i->io} {Kp:J->J->Prop} {S Sp:List i->Prop} {ax:Nat} (ae:ND (n-1) P m lb u Kp S Sp ax w0)
  (ab:∀{A B R:J},Kp A B->Kp B R->Kp A R) (N:∀(W:J)(l:Nat)(o o':Obj),zq w.heap<=l->W.heap[l]?=H o->o.isCells=I->o.isWalk=I->Kp W (W.putObj l o')) (O:Below w0.heap.size w0 w) (au:∀x,(u x).size=z.size)
  (j:List i->J->Prop) (E:Code->List i->J->Prop) (C:OwnFrom w.heap.size j) (a0:∀c,OwnFrom w.heap.size (E c)) (h0:j [] w) (M:i->Act)
  (a1:∀(l:Nat)(x:i)(W:J)(K:Act->J->Prop),K (M x) W->assign.wpIn (Fence.wide.inRound l) (n-1-1) P (Exit.then K (λ_ _ _=>False)) {tmps:=(z.zip (u x)).foldl (λt (p,v)=>t.setIfInBounds p v) a.tmps,defers:=[]} W)
  (Y:∀(l:Nat)(pre:List i)(x:i)(W:J),j pre W->ln pre<ax->body.wpIn (Fence.wide.inRound l) (n-1-1) P (ownPostG w.heap.size Kp j E (pre++[x]) W) (M x) W)
  (Z:∀(bF:Nat)(T:List i)(W:J),zq w.heap<=bF->S T->j T W->W.heap[bF]?=H (.deferred (H []))->aI .normal {a with defers:={target:=.collected bF,args:=#[]}::a.defers} W)
  (a9:∀(bF:Nat)(c:Code)(pre:List i)(W:J),zq w.heap<=bF->Sp pre->E c pre W->W.heap[bF]?=H (.deferred (H []))->c.wpIn Fence.wide n P aI {a with defers:={target:=.collected bF,args:=#[]}::a.defers} W):(Code.rangeFunc g z assign body).wpIn Fence.wide n P aI a w:=by
 refine Rz ?_;intro fn ak;obtain⟨rec,k⟩:∃rec:LoopState->Option Code->Loop,rec=λst pe=>{state:=st,pending:=pe,fn,tmps:=a.tmps,params:=z,assign,body,defers:=zq w.heap}:=⟨_,D⟩;obtain⟨b,f⟩:∃b,(w.alloc (.deferred (H []))).alloc (.loop (rec .ready F))=b:=⟨_,D⟩;have av:zq b.heap=zq w.heap+2:=by rw[<-f];simp
 have ah:b.heap[zq w.heap+1]?=H (.loop (rec .ready F)):=by rw[<-f];have:=DB (w.alloc (.deferred (H []))) (.loop (rec .ready F));rwa [zB]at this
 have ag:b.heap[zq w.heap]?=H (.deferred (H [])):=by rw[<-f];exact(dc _ _ _ (by simp)).trans (DB w _)
 have af:j [] b:=by rw[<-f];exact C.alloc _ (C.alloc _ h0)
 have aj:Below w0.heap.size w0 b:=by rw[<-f];exact O.trans ((((gB _ w).alloc (dF _) _).alloc (by simp) _).mono O.size)
 refine⟨zq w.heap+1,[{target:=.collected w.heap.size,args:=#[]}],b,{target:=.fn (.func m) lb,args:=#[.func (.yield (zq w.heap+1)) #[] #[]]},b,m,
  #[.func (.yield (zq w.heap+1)) #[] #[]]++lb,b,?_,?_,?_,?_,λ_=>h1,?_⟩
 rw[<-f,k];exact RA _ _ _ _ _
 .simp only[resolve,hg];simp[go_sem]
 intro f' ar;trivial
 .simp[invoke,go_sem,eg]
 have lo:∀{A B:J} {row:fW},(∀r,row=H r->zq b.heap<=r/\∃o:Obj,A.heap[r]?=H o/\o.isCells=I)->(∀r,row=H r->zq w.heap<=r/\∃o:Obj,A.heap[r]?=H o/\o.isCells=I):=
  λQ r e=>⟨by grind,(Q r e).2⟩
 refine(ae (zq w.heap+1)
  (λpre W=>j pre W/\W.heap[zq w.heap+1]?=H (.loop (rec .ready F))/\W.heap[zq w.heap]?=H (.deferred (H [])))
  (λpre W=>∃c,E c pre W/\W.heap[zq w.heap+1]?=H (.loop (rec .done (H c)))/\W.heap[zq w.heap]?=H (.deferred (H [])))
  b aj
  (λs A B row y q Q=>⟨C s A B row y.1 q (lo (B:=B) Q),Ln q Q y.2.1 (by omega),Ln q Q y.2.2 (by omega)⟩)
  (λs A B row y q Q=>by have⟨c,hc,hl,hk⟩:=y;exact⟨c,a0 c s A B row hc q (lo (B:=B) Q),Ln q Q hl (by omega),Ln q Q hk (by omega)⟩)
  ?_ ⟨af,ah,ag⟩).mono ?_
 .rintro pre x W⟨hi,hl,hk⟩ ad;have ap:zq w.heap+1<zq W.heap:=(dD.1 hl).1;have V:=run_yield (P:=P) (args:=u x) hl (by grind);rw[k]at V;refine⟨fn,_,assign,body,V,roundIn_of_wpIn ak (a1 _ x W _ ?_)⟩;refine⟨_,run_beginRound hl (by rw[k]),?_⟩;have an:(W.putObj (zq w.heap+1) (.loop {rec .ready F with state:=.busy})).heap[zq w.heap+1]?=H (.loop {rec .ready F with state:=.busy}):=Mq ap;have al:(W.putObj (zq w.heap+1) (.loop {rec .ready F with state:=.busy})).heap[zq w.heap]?=H (.deferred (H [])):=(td (by omega)).trans hk;have aq:Kp W (W.putObj (zq w.heap+1) (.loop {rec .ready F with state:=.busy})):=N _ _ _ _ (by omega) hl D D;refine Ch (Y _ pre x _ (C.putObj _ hi (by omega) hl D) ad) ?_;have G:∀(d:Option Code)(U:J),KeepsFrom w.heap.size (W.putObj (zq w.heap+1) (.loop {rec .ready F with state:=.busy})) U->
    (Instr.endRound (zq w.heap+1) d).run P U=.ok (.bool d.isNone) (U.putObj (zq w.heap+1) (.loop (rec (if d.isNone then .ready else .done) d)))/\
    U.heap[zq w.heap+1]?=H (.loop {rec .ready F with state:=.busy})/\
    (U.putObj (zq w.heap+1) (.loop (rec (if d.isNone then .ready else .done) d))).heap[zq w.heap+1]?=H (.loop (rec (if d.isNone then .ready else .done) d))/\
    (U.putObj (zq w.heap+1) (.loop (rec (if d.isNone then .ready else .done) d))).heap[zq w.heap]?=H (.deferred (H [])):=λd U a2=>by
   have h:=a2.same _ _ (by omega) an D;have:=run_endRound (P:=P) d h;rw[k]at this|-;exact⟨this,by grind,Mq (dD.1 h).1,(td (by omega)).trans (a2.same _ _ (dF _) al D)⟩
  rintro e a3 U X;cases e with
  |normal=>
   have⟨a2,hkp3,hi3⟩:=X;have⟨Q,h,hl4,hk4⟩:=G F U a2;exact⟨_,_,Q,.inl ⟨D,⟨C.putObj _ hi3 (by omega) h D,hl4,hk4⟩,ab (ab aq hkp3) (N _ _ _ _ (by omega) h D D),ut (by omega) a2⟩⟩
  |ret=>
   have⟨Q,h,hl4,hk4⟩:=G (H .ret) U X.1;exact⟨_,_,Q,.inr ⟨D,⟨.ret,(a0 _).putObj _ X.2 (by omega) h D,hl4,hk4⟩,ut (by omega) X.1⟩⟩
  |exit id=>
   have⟨Q,h,hl4,hk4⟩:=G (H (.exit id)) U X.1;exact⟨_,_,Q,.inr ⟨D,⟨.exit id,(a0 _).putObj _ X.2 (by omega) h D,hl4,hk4⟩,ut (by omega) X.1⟩⟩
  |goto t=>
   have⟨Q,h,hl4,hk4⟩:=G (H (.goto t)) U X.1;exact⟨_,_,Q,.inr ⟨D,⟨.goto t,(a0 _).putObj _ X.2 (by omega) h D,hl4,hk4⟩,ut (by omega) X.1⟩⟩
  |panic ch=>exact X.elim
  |outgrown=>exact X.elim
 rintro e W2⟨⟨v,rfl⟩,(⟨T,hS,hi,hl,hk⟩|⟨pre,ai,c,hi,hl,hk⟩)⟩;exact⟨F,_,by have:=DC (P:=P) hl (by grind);rw[k]at this;exact this,Z _ T _ (dF _) hS (C.putObj _ hi (by omega) hl D) ((td (by omega)).trans hk)⟩;exact⟨H c,_,by have:=DC (P:=P) hl (by grind);rw[k]at this;exact this,a9 _ c pre _ (dF _) ai ((a0 c).putObj _ hi (by omega) hl D) ((td (by omega)).trans hk)⟩
section
attribute [local go_sem] db
attribute [local go_sem] pF
attribute [local simp] pF
def Bv:iU->List Nat
 |[]=>[]
 |none::_=>[]
 |some i::r=>i::Bv r
def KC(T:List Nat)(W K:J):Prop:=zq W.heap<=zq K.heap/\∀(k:Nat)(c:io)(t:TypeId)(m:Nat×Nat),k∉T->W.heap[k]?=H (.cells c t m)->K.heap[k]?=H (.cells c t m)
theorem KC.trans{A B a:J}(h:KC T A B)(k:KC T B a):KC T A a:=⟨gR h.1 k.1,λi c t m hi d=>k.2 i c t m hi (h.2 i c t m hi d)⟩
def KC.put(W:J)(l:Nat)(o a:Obj)(d:W.heap[l]?=H o)(h:o.isCells=I):KC T W (W.putObj l a):=
 ⟨by simp,λk c t m _ g=>(td (λe=>by subst e;rw[g]at d;cases d;cases h)).trans g⟩
def abq{m a k:Nat}{P:Program}{l:Nat}{f:FuncId}{e:io}{R:Ending->J->Prop}(h:RoundIn Fence.wide m P l f e assign body w R):RoundIn (Fence.wide.inRound k) a P l f e assign body w R:=⟨h.1,λc g _=>h.2 c g (λd h=>by cases h)⟩
def Yh{a:iU}:∀{z:List Nat},z.map H <+:a->z <+:Bv a
 |[],_=>List.nil_prefix
 |p::z,h=>by have⟨r,Q⟩:=h;subst Q;exact(List.prefix_cons_inj p).2 (Yh ⟨r,D⟩)
def Ye:∀{z:List Nat},Bv (z.map H)=z
 |[]=>rfl
 |p::z=>by show p::Bv _=_;rw[Ye]
def Sn{r:iU}:∀{z:List Nat},Bv (z.map H++F::r)=z
 |[]=>rfl
 |p::z=>by show p::Bv (z.map H++F::r)=_;rw[Sn]
theorem acD(m:Nat)(hm:5<=m)(S b:Nat)(R:TypeId)(aI:io)(v:dB)(T:iU)(s:Nat)(n:List Nat)(w:J)(h:vR S b 189 R aI v T w)
  (y:w.heap[s]?=H (dr #[dq b] 119)) (hT:∀k∈n,k≠b/\v.ownBlock≠H k/\k<zq w.heap):ND m prog 346 #[dq s] (λx:{x:Nat // H x∈T}=>#[jl (H x.1)]) (KC n) (λO=>O.map (·.1)=Bv T.reverse) (λpre=>pre.map (·.1) <+:Bv T.reverse) (ln T) w:=by
 intro l aL Jx W hB M a9 HY H0;have ad:=fp h.dP;have L1:vR S b 189 R aI v T W:=by refine h.h (K:=b::v.ownBlock.toList) (λk d=>hB.block k ?_) (by simp) (λk d=>by simp[d]);rcases bZ.1 d with rfl|d;exact ad;exact(h.row.lt k (by grind)).2
 have av:=fp y;have ag:=(hB.block s av).trans y;have af:zq w.heap<=zq W.heap:=hB.size;have ar:b<zq W.heap:=kQ ad af;obtain⟨q,X⟩:∃q,q=W.alloc (dr #[.func (.yield l) #[] #[]] 285):=⟨_,D⟩;have aa:Z [] W q:=by rw[X];exact(Z.refl [] W).alloc _
 have aj:q.heap[zq W.heap]?=H (dr #[.func (.yield l) #[] #[]] 285):=by rw[X];exact aY W _
 have z1:zq q.heap=zq W.heap+1:=by rw[X];simp
 have HL:vR S b 189 R aI v T q:=L1.h (iN.q (K:=b::v.ownBlock.toList) aa (λk d=>⟨by
  rcases bZ.1 d with rfl|d;exact ar;exact(L1.row.lt k (by grind)).2,by simp⟩)) (by simp) (λk d=>by simp[d])
 have c1:(W.alloc (dr #[.func (.yield l) #[] #[]] 285)).cell? ⟨s,0,F⟩=H (dq b):=by rw[<-X,aF (aa.at ag (by simp))];rfl
 have HU:=Ga S b 189 R aI v T q HL;refine AV func346 D trivial ?_ D;simp only[ntmps346,wL,uJ,uY,Nat.reduceAdd,Nat.reduceSub,wM,wN,wO,wP,tA,tf];have HW:=V X.symm;have HZ:=V z1;have HT:=hT;clear X z1 L1 ag h hB y
 gi_wp2_with fail
 rw[HW.out];refine⟨λ_=>by omega,(callsIn_wide.2 HU).mono ?_⟩;rintro e P⟨rfl,rfl⟩;gi_wp2;have an:=HL;obtain⟨a,a3⟩:∃a,a=kH b 189 (ln T:Int) q:=⟨_,D⟩;have k2:Z [] q a:=by rw[a3];exact((Z.refl _ _).alloc _).alloc _
 have aw:zq a.heap=zq q.heap+2:=by rw[a3];simp
 have a1:vR S b 189 R aI v T a:=HL.h (iN.q (K:=b::v.ownBlock.toList) k2 (λk d=>⟨by
  rcases bZ.1 d with rfl|d;grind;exact(HL.row.lt k (by simpa using d)).2,by simp⟩)) (by simp) (λk d=>by simp[d])
 have⟨b0,b1⟩:=(⟨(dc _ _ _ (by simp)).trans (aY q _),by
   have:=aY (q.alloc (dr #[gU b 189] 276)) (dr #[G (ln T)] 3);simp_all⟩:(kH b 189 (ln T:Int) q).heap[zq q.heap]?=H (dr #[gU b 189] 276)/\(kH b 189 (ln T:Int) q).heap[zq q.heap+1]?=H (dr #[G (ln T)] 3))
 rw[<-a3]at b0 b1|-;have az:=HZ.out;have gY:=k2.at aj (by simp);obtain⟨j,C⟩:∃j,j=b::zq q.heap::v.ownBlock.toList:=⟨_,D⟩;have ac:∀k∈j,k<zq a.heap/\k∉n/\∃c t m,a.heap[k]?=H (.cells c t m):=by
  intro k d;rw[C]at d;rcases bZ.1 d with rfl|d;exact⟨fp a1.dP,λe=>(HT _ e).1 D,_,_,_,a1.dP⟩;rcases bZ.1 d with rfl|d;grind;have au:v.ownBlock=H k:=by simpa using d
  have⟨c,m',hc⟩:=rG a1.row au;grind
 have ax:=U9 (m-1) (by omega) S b 189 R aI v T (ln T) q.heap.size j a a1 (dF _) (by rw[C];simp) (by rw[C];simp) (by grind) (by omega) b1 b0;have aE:∀k∈n,k<zq W.heap:=λk d=>kQ (HT k d).2.2 af;have a5:=V ac;have a7:=(show zq a.heap=zq W.heap+1+2 by omega);have aB:aL [] a:=by have h1:aL [] q:=M [] W q F H0 (by rw[<-HW.out];exact World.grownBy_alloc W _ F) (λr e=>by cases e);rw[a3];refine M [] (q.alloc _) _ F ?_ (World.grownBy_alloc _ _ F) (λr e=>by cases e);exact M [] q _ F h1 (World.grownBy_alloc _ _ F) (λr e=>by cases e)
 clear C b0 b1 HU HL an a1 k2 a3 ac c1 aw az;obtain⟨aK,hI⟩:∃aK:List {x:fW // x∈T}->J->Prop,aK=(λI K=> zq a.heap<=zq K.heap/\iN j a K/\K.heap[zq W.heap]?=H (dr #[.func (.yield l) #[] #[]] 285)/\∃z:List {x:Nat // H x∈T},I.map (·.1)=z.map (λp=>H p.1)/\aL z K):=⟨_,D⟩;obtain⟨Ix,ab⟩:∃Ix:Code->List {x:fW // x∈T}->J->Prop,Ix=(λc I K=>c=.ret/\((∃z:List {x:Nat // H x∈T},I.map (·.1)=z.map (λp=>H p.1)++[F]/\aL z K)\/(∃z:List {x:Nat // H x∈T},I.map (·.1)=z.map (λp=>H p.1)/\Jx z K))):=⟨_,D⟩;have Y:=V hI;have a4:=V ab;clear hI ab;refine wpIn_rangeFunc_ownG D (by omega) (gf:=351) D trivial (Go.Proofs.enters_of func351 (by rfl) D) ax iN.trans (λW l o o' hl h1 E h3=>iN.put (w:=a) (λk d=>(a5.out k d).1) W l o o' hl h1 E h3) (gB _ _) (λ_=>D)
  aK Ix
  ?_ ?_ ?_ (λx=>{tmps:=#[.func (.yield l) #[] #[],dq s,dq W.heap.size,jl x.1,dq b,dq b,gU b 189,uH q.heap.size,jl x.1,qu,qu,qu,qu,qu,qu,qu,qu],defers:=[]}) ?assign ?body ?done ?stop
 rw[Y.out];rintro I A B row⟨h1,E,h3,z,N,h5⟩ hg Q;have hz:=a7;refine⟨gR h1 hg.size,λk d=>?_,Ln hg Q h3 (by omega),z,N,M z A B row h5 hg (λr e=>⟨by grind,(Q r e).2⟩)⟩;rw[hg.block k (kQ (a5.out k d).1 h1) (λe=>by have:=(Q k e.symm).1;have:=(a5.out k d).1;omega)];exact E k d;rw[a4.out];rintro c I A B row⟨h1,E⟩ hg Q;have hz:=a7;refine⟨h1,E.imp (λ⟨z,N,h5⟩=>⟨z,N,M z A B row h5 hg (λr e=>⟨by grind,(Q r e).2⟩)⟩) (λ⟨z,N,h5⟩=>⟨z,N,a9 z A B row h5 hg (λr e=>⟨by grind,(Q r e).2⟩)⟩)⟩;rw[Y.out];grind[iN]
 case assign=>
  intro l2 x K KK aq;gi_wp2;exact aq
 case body=>
  rintro l2 pre⟨x,hx⟩ K u aA;rw[Y.out]at u;have⟨hz,hkb,hbx,z,g,L⟩:=u;have cy:=aF hbx 0;dsimp at cy;cases x with
  |none=>
   have HP:=V g;have al:=V L;clear g L hz hkb hbx;gi_wp2;refine⟨KeepsFrom.refl _ _,?_⟩;rw[a4.out];exact⟨D,.inl ⟨z,by rw[sy,HP.out];rfl,al.out⟩⟩
  |some i=>
   have ay:=HY z ⟨i,hx⟩ K L (by have:=mf ln g;grind);have a8:Hid (∀U,KC n K U->iN j a U/\U.heap[zq W.heap]?=H (dr #[.func (.yield l) #[] #[]] 285)/\a.heap.size<=zq U.heap/\iN j K U):=V (by
    intro U a0;have ai:∀k∈j,U.heap[k]?=a.heap[k]?:=by intro k d;have⟨_,E,c,t,mm,h3⟩:=a5.out k d;have N:=(hkb k d).trans h3;rw[a0.2 k c t mm E N,h3]
    exact⟨ai,a0.2 _ _ _ _ (λe=>by grind) hbx,gR hz a0.1,λk d=>(ai k d).trans (hkb k d).symm⟩)
   have⟨fn,tmps,assign,body,hyy,HRR⟩:=ay;have HP:=V g;clear g L hz hkb hbx
   gi_wp2_with fail
   refine⟨λ_=>by omega,(abq HRR).mono ?_⟩;rintro e U (⟨rfl,ae,a0,f⟩|⟨rfl,ah,f⟩)
   .have⟨p1,p2,p3,P4⟩:=a8.out U a0;have ak:Hid (aK (pre++[⟨H i,hx⟩]) U):=V (by rw[Y.out];exact⟨p3,p1,p2,z++[⟨i,hx⟩],by rw[sy,sy,HP.out];rfl,ae⟩);have a6:=(show KeepsFrom a.heap.size K U from⟨f.size,λk o d h1 E=>f.same k o (by omega) h1 E⟩);clear ae a0 f p1 p2 p3 HRR a8;gi_wp2;exact⟨a6,P4,ak.out⟩
   .have ap:Hid (Ix .ret (pre++[⟨H i,hx⟩]) U):=V (by rw[a4.out];exact⟨D,.inr ⟨z++[⟨i,hx⟩],by rw[sy,sy,HP.out];rfl,ah⟩⟩);have a6:=(show KeepsFrom a.heap.size K U from⟨f.size,λk o d h1 E=>f.same k o (by omega) h1 E⟩);clear ah f HRR a8;gi_wp2;exact⟨a6,ap.out⟩
 case done=>
  rintro bF I K HD hS u C;rw[Y.out]at u;have⟨_,_,_,z,g,HJ3⟩:=u;have HE:Hid (z.map (·.1)=Bv T.reverse):=V (by rw[ot]at hS;rw[<-hS,g,show(z.map λp=>H p.1)=(z.map (·.1)).map H by simp,Ye])
  clear g hS;gi_wp2;refine⟨by simp,.inl ⟨_,_,D,ru C,?_⟩⟩;refine⟨.tuple #[],by simp[results,results346,go_sem],⟨_,D⟩,.inl ⟨z,HE.out,?_⟩⟩;exact M z K _ (H bF) HJ3 (AR _ bF (.deferred F)) (λr e=>by cases e;exact⟨by omega,_,C,D⟩)
 case stop=>
  rintro bF c I K HD a2 u C;rw[a4.out]at u;obtain⟨rfl,u⟩:=u;have HE:Hid ((∃O:List {x:Nat // H x∈T},O.map (·.1)=Bv T.reverse/\aL O K)\/(∃pre:List {x:Nat // H x∈T},pre.map (·.1) <+:Bv T.reverse/\Jx pre K)):=V (by rw[ot]at a2;rcases u with⟨z,g,L⟩|⟨z,g,L⟩;refine .inl ⟨z,?_,L⟩;have⟨r,Q⟩:=a2;rw[<-Q,g,show(z.map λp=>H p.1)=(z.map (·.1)).map H by simp,oX];exact Sn.symm;refine .inr ⟨z,?_,L⟩;rw[g,show(z.map λp=>H p.1)=(z.map (·.1)).map H by simp]at a2;exact Yh a2)
  clear u a2;gi_wp2;refine⟨by simp,.inl ⟨_,_,D,ru C,?_⟩⟩;refine⟨.tuple #[],by simp[results,results346,go_sem],⟨_,D⟩,?_⟩;have hb:bF>=zq W.heap:=by have:=HD;have:=a7;omega
  rcases HE.out with⟨O,e1,e2⟩|⟨pre,e1,e2⟩;exact .inl ⟨O,e1,M O K _ (H bF) e2 (AR _ bF (.deferred F)) (λr e=>by cases e;exact⟨hb,_,C,D⟩)⟩;exact .inr ⟨pre,e1,a9 pre K _ (H bF) e2 (AR _ bF (.deferred F)) (λr e=>by cases e;exact⟨hb,_,C,D⟩)⟩
end
section
attribute [local go_sem] db
attribute [local go_sem] pF
attribute [local simp] pF
def NJ(s:Nat):dB:=.func (.func 346) #[] #[dq s]
def JQ(d:Nat)(w:J):Calls prog 319 #[dq d] w λe P=>e=ff (NJ w.heap.size)/\P=w.alloc (dr #[dq d] 119):=by
 go_wp2;go_ret;simp[NJ]
def Yg:∀(d:iU),Bv (d.map (Option.map f))=(Bv d).map f
 |[]=>rfl
 |none::_=>rfl
 |some i::r=>by show f i::Bv _=f i::(Bv r).map f;rw[Yg]
def ajF(T:List Nat)(a:List Nat->J->Prop)(e:Code->List Nat->J->Prop)(d:List Nat)(W:J):Exit->Act->J->Prop
 | .normal,_,K=>Z T W K/\a d K
 | .ret,_,K=>Z T W K/\e .ret d K
 | .exit id,_,K=>Z T W K/\e (.exit id) d K
 | .goto t,_,K=>Z T W K/\e (.goto t) d K
 | .panic _,_,_=>False
 | .outgrown,_,_=>False
def Z.g(h:Z T W K):KC T W K:=⟨h.size,λk c t m e d=>(h.block k (dD.1 d).1 e).trans d⟩
theorem Z.e{B:Nat}(h:Z T W K)(g:∀k∈T,k<B):KeepsFrom B W K:=⟨h.size,λk o l d _=>(h.block k (dD.1 d).1 (λe=>by grind)).trans d⟩
theorem Gf(e:∀i j,f i=f j->i=j):∀{g d:List Nat},g.map f=d.map f->g=d
 |[],[],_=>rfl
 |[],_::_,h=>by grind
 |_::_,[],h=>by grind
 |x::T,y::d,h=>by simp at h;rw[e x y h.1,Gf e h.2]
theorem ahz(g:∀i j,f i=f j->i=j){d a:List Nat}(h:d.map f <+:a.map f):d <+:a:=by
 have⟨t,ht⟩:=h;have hl:ln d<=ln a:=by have:=mf ln ht;simp at this;omega
 have e:d.map f=(a.take (ln d)).map f:=by rw[ZP,<-ht];simp
 grind[Gf,List.take_append_drop]
theorem ZJ(hn:7<=n){w1:J}(C:fk E L X w1)
  {g:Operand} {p:Tmp} {Q:Exit->Act->J->Prop} (R:a.eval g=NJ w1.heap.size)
  (T:List Nat) (w:∀k∈T,k≠E.A/\L.L.ownBlock≠H k/\k<zq w1.heap)
  (f:List Nat->J->Prop) (j:Code->List Nat->J->Prop)
  (O:OwnFrom (zq w1.heap+1) f) (G:∀c,OwnFrom (zq w1.heap+1) (j c)) (h0:f [] (w1.alloc (dr #[Bp E] 119))) (h:Nat->Act)
  (q:∀(l:Nat)(x:Nat)(W:J)(K:Act->J->Prop),K (h x) W->assign.wpIn (Fence.wide.inRound l) (n-1-1) prog (Exit.then K (λ_ _ _=>False)) {tmps:=a.tmps.setIfInBounds p (jl (H x)),defers:=[]} W)
  (a0:∀(l:Nat)(pre:List Nat)(i:Nat)(W:J),H i∈X.B->f pre W->ln pre<ln X.B->body.wpIn (Fence.wide.inRound l) (n-1-1) prog (ajF T f j (pre++[i]) W) (h (L.K i)) W)
  (Y:∀(bF:Nat)(W:J),zq w1.heap+1<=bF->f (Bv X.B.reverse) W->W.heap[bF]?=H (.deferred (H []))->Q .normal {a with defers:={target:=.collected bF,args:=#[]}::a.defers} W)
  (a2:∀(bF:Nat)(c:Code)(pre:List Nat)(W:J),zq w1.heap+1<=bF->pre <+:Bv X.B.reverse->j c pre W->W.heap[bF]?=H (.deferred (H []))->c.wpIn Fence.wide n prog Q {a with defers:={target:=.collected bF,args:=#[]}::a.defers} W):(Code.rangeFunc g #[p] assign body).wpIn Fence.wide n prog Q a (w1.alloc (dr #[Bp E] 119)):=by
 have k1:Z [] w1 (w1.alloc (dr #[Bp E] 119)):=(Z.refl _ _).alloc _;have I:=C.h k1;have⟨Co,hL,hC⟩:=I.I0;have m:zq (w1.alloc (dr #[Bp E] 119)).heap=zq w1.heap+1:=by simp
 have N:=C.inj;have M:=acD (n-1) (by omega) E.bs E.A _ Co L.L _ w1.heap.size T _ hL (aY w1 _) (λk hk=>⟨(w k hk).1,(w k hk).2.1,by grind⟩);have F:∀x:{x:Nat // H x∈X.B.map (fx L.K)},∃i,H i∈X.B/\L.K i=x.1:=by
  rintro⟨x,S⟩;have⟨y,hy,e⟩:=List.mem_map.1 S;cases y with
  |none=>cases e
  |some i=>grind
 have ac:Bv (X.B.map (fx L.K)).reverse=(Bv X.B.reverse).map L.K:=by rw[<-Cf];exact Yg _
 refine Vd (by omega) (m:=346) R (Go.Proofs.enters_of func346 (by rfl) D) M KC.trans (λW l o o' _ P U _=>KC.put W l o o' P U) (gB _ _) (λ_=>D)
  (λpre W=>∃d,pre.map (·.1)=d.map L.K/\f d W) (λc pre W=>∃d,pre.map (·.1)=d.map L.K/\j c d W) ?_ ?_ ?_ (λx=>h x.1) ?_ ?_ ?_ ?_
 rintro s A B row⟨d,P,U⟩ a1 z;rw[m]at z;exact⟨d,P,O d A B row U a1 z⟩;rintro c s A B row⟨d,P,U⟩ a1 z;rw[m]at z;exact⟨d,P,G c d A B row U a1 z⟩;grind;intro l x W K r
 simpa using q l x.1 W K r
 .rintro l pre x W⟨d,P,U⟩ ab;have⟨i,hi,ei⟩:=F x;have hb:=a0 l d i W hi U (by have:=mf ln P;grind);rw[ei]at hb;have b:∀k∈T,k<zq (w1.alloc (dr #[Bp E] 119)).heap:=λk hk=>by grind
  have e2:(pre++[x]).map (·.1)=(d++[i]).map L.K:=by rw[sy,sy,P,ov,ov,ei]
  refine Ch hb ?_;rintro e a3 V u;cases e with
  |normal=>exact⟨u.1.e b,u.1.g,_,e2,u.2⟩
  |ret=>exact⟨u.1.e b,_,e2,u.2⟩
  |exit id=>exact⟨u.1.e b,_,e2,u.2⟩
  |goto t=>exact⟨u.1.e b,_,e2,u.2⟩
  |panic ch=>exact u.elim
  |outgrown=>exact u.elim
 grind[Gf];rintro bF c pre W v ad⟨d,P,U⟩ r;rw[m]at v;exact a2 bF c d W v (ahz N (by grind)) U r
end
section
attribute [local go_sem] db
attribute [local go_sem] pF
attribute [local simp] pF
theorem EA:∀{d:iU},(∀i∈Bv d,fG (X.nm i) s=I)->X.pX s d=F
 |[],_=>rfl
 |none::_,_=>rfl
 |some i::r,h=>by show(if fG _ s then H i else X.pX s r)=F;rw[h i (by simp[Bv])];exact EA λj e=>h j (by grind[Bv])
theorem ED(a:fG (X.nm i) s=C):∀{d:iU} {pre:List Nat},pre++[i] <+:Bv d->(∀j∈pre,fG (X.nm j) s=I)->X.pX s d=H i
 |[],pre,h,_=>by grind[fL,Bv]
 |none::_,pre,h,_=>by grind[fL,Bv]
 |some k::r,[],h,_=>by
  have⟨t,ht⟩:=h;have e:=by simp[Bv]at ht;exact ht.1
  grind[N.pX]
 |some k::r,p::pre,h,hp=>by
  have⟨t,ht⟩:=h;have e:p=k/\pre++[i]++t=Bv r:=by simpa [Bv]using ht
  obtain⟨rfl,e2⟩:=e;show(if fG (X.nm p) s then H p else X.pX s r)=_;rw[hp p (by simp)];simp;exact ED a ⟨t,e2⟩ (λj g=>hp j (by simp[g]))
def yI(W:J)(h:b≠bF):(W.putObj bF o).cell? ⟨b,0,F⟩=W.cell? ⟨b,0,F⟩:=K3 (td h)
theorem EE(h:RF E f X w)(s:O):dS 276 #[Bp E,Y s] w (vc w (oV f (X.lU s))):=by
 obtain⟨L,rfl,Q⟩:=h;refine(AU (n:=9)).1 ?_;refine AV func276 D trivial ?_ D;simp only[ntmps276,wL,uJ,uY,Nat.reduceAdd,Nat.reduceSub,wM,wN,wO,wP,tA,tf];obtain⟨u,k⟩:∃u,u=(w.alloc (dr #[Y s] 9)).alloc (dr #[.pointer F] 68):=⟨_,D⟩;have a1:Z [] w u:=by rw[k];exact((Z.refl _ _).alloc _).alloc _
 have aI:u.heap[zq w.heap]?=H (dr #[Y s] 9):=by rw[k];exact(dc _ _ _ (by simp)).trans (aY w _)
 have R:u.heap[zq w.heap+1]?=H (dr #[.pointer F] 68):=by rw[k];have:=aY (w.alloc (dr #[Y s] 9)) (dr #[.pointer F] 68);rwa [zB]at this
 have p:zq u.heap=zq w.heap+1+1:=by rw[k];simp
 have a3:=Q.h a1;have a7:=Q.lt;have HB:=JQ E.A u;have HN:=(λ(W:J) (hk:Z [] w W) (i:Nat) (e:mh) (hi:X.h i=H e)=>(Q.h hk).uR hi);have T:=(λ(i:Nat) (hi:H i∈X.B)=>Q.wf.B (H i) hi);have HO:=(λg (hg:L.L.ownBlock=H g)=>(Q.S.lt g hg).2);have o:=V p;have HW:=V k;clear p k
 gi_wp2_with fail
 rw[<-HW.out];refine(callsIn_wide.2 HB).mono ?_;rintro e P⟨rfl,rfl⟩;gi_wp2;refine ZJ (by omega) a3 D [zq w.heap+1] ?_
  (λpre W=>Z [] w W/\W.heap[zq w.heap]?=H (dr #[Y s] 9)/\W.heap[zq w.heap+1]?=H (dr #[.pointer F] 68)/\∀i∈pre,fG (X.nm i) s=I)
  (λc pre W=>c=.ret/\Z [] w W/\∃d i,pre=d++[i]/\(∀j∈d,fG (X.nm j) s=I)/\fG (X.nm i) s=C/\W.heap[zq w.heap+1]?=H (dr #[dq (L.K i)] 68))
  ?_ ?_ ?_ (λx=>{tmps:=#[Bp E,Y s,qu,dq w.heap.size,dq (zq w.heap+1),jl (H x),Bp E,NJ u.heap.size,jl (H x),qu,qu,qu,qu,qu,qu,qu],defers:=[]}) ?assign ?body ?done ?stop
 grind;rintro pre A B row⟨h1,r,z,m⟩ hg Q;have p:=o.out;exact⟨km h1 hg Q (by omega),jd r hg Q (by omega),jd z hg Q (by omega),m⟩;rintro c pre A B row⟨h0,h1,d,i,r,z,m,G⟩ hg Q;have p:=o.out;exact⟨h0,km h1 hg Q (by omega),d,i,r,z,m,jd G hg Q (by omega)⟩;have hk:Z [] u (u.alloc (dr #[Bp E] 119)):=(Z.refl _ _).alloc _;exact⟨a1.trans hk,hk.at aI (by simp),hk.at R (by simp),by simp⟩
 case assign=>
  intro l x W K n;gi_wp2;exact n
 case body=>
  rintro l pre i W hi⟨a,M,B3,S⟩ _;have a5:=T i hi;obtain⟨v,a4⟩:∃v,X.h i=H v:=dh.1 a5;have c0:=HN W a i v a4;have c1:=aF M 0;have b:=aF B3 0;have f3:=cY B3 0;dsimp at c1 b;rw[show jl (H (L.K i))=dq (L.K i)from D];gi_wp2;refine AA l (by kernel_rfl) (by kernel_rfl) (by rfl) ?_
  repeat (gi_big_quiet_step (fail))
  refine wpQuietIn_nil ?_;intro _ a6;have⟨nq,hw''⟩:=a6;subst hw'';cases hq:fG (X.nm i) s with
  |true=>
   have N:=hq;have a0:((X.nm i).toList==s.toList)=C:=hq;rw[a0];gi_wp2;refine⟨((Z.refl [zq w.heap+1] W).drewN nq).setCell (.inl (by simp)) _,D,(a.drewN nq).setCell (.inr (by simp)) _,pre,i,D,S,N,?_⟩;exact bH (show(W.drewN nq).heap[zq w.heap+1]?=_ from B3) 0 _
  |false=>
   have N:=hq;have a0:((X.nm i).toList==s.toList)=I:=hq;rw[a0];gi_wp2;refine⟨(Z.refl _ W).drewN nq,a.drewN nq,M,B3,λy hy=>?_⟩;grind
 case done=>
  rintro bF W t⟨a,r,z,m⟩ n;have b:=aF z 0;have f3:=cY z 0;dsimp at b;have q:X.lU s=F:=EA m;have U:=V q;have HS:=V (oC z 0 (.pointer F) D);clear q;gi_wp2;rw[HS.out];refine⟨by simp,.inl ⟨_,_,D,ru n,?_⟩⟩;have p:=o.out;have hD:=t;have c4:(W.putObj bF (.deferred F)).cell? ⟨zq w.heap+1,0,F⟩=H (.pointer F):=by rw[<-b];exact yI W (by omega)
  exact⟨.pointer F,by simp[results,results276,asAddr,da,go_sem,c4],by rw[U.out];rfl,a.take (by omega) _⟩
 case stop=>
  rintro bF c pre W t a2⟨rfl,a,d,i,rfl,z,m,G⟩ n;have q:X.lU s=H i:=ED m a2 z;have U:=V q;have b:=aF G 0;dsimp at b;clear q;gi_wp2;refine⟨by simp,.inl ⟨_,_,D,ru n,?_⟩⟩;have p:=o.out;have hD:=t;have c4:(W.putObj bF (.deferred F)).cell? ⟨zq w.heap+1,0,F⟩=H (dq (L.K i)):=by rw[<-b];exact yI W (by omega)
  exact⟨dq (L.K i),by simp[results,results276,asAddr,da,go_sem,c4],by rw[U.out];rfl,a.take (by omega) _⟩
end
theorem aaO(L:iB)(i:Nat)(h:i<ln L):(flat L)[i*2]?=H (Y (L[i]).1)/\(flat L)[i*2+1]?=H (Y (L[i]).2):=by
 induction L generalizing i with
 |nil=>simp at h
 |cons a L ih=>
  cases i with
  |zero=>simp[flat]
  |succ i=>
   grind[flat]
theorem AX.d(h:AX w (.slice ao (ln bY) cp) bY){k:Nat}(p:k<ln bY):∃g,ao=H ⟨g,0,F⟩/\w.cell? ⟨g,k*2,F⟩=H (Y bY[k].1)/\w.cell? ⟨g,k*2+1,F⟩=H (Y bY[k].2):=by
 obtain⟨g,hg⟩:∃g,ao=H ⟨g,0,F⟩:=by
  rcases h.2 with⟨e,u⟩|⟨q,d,l,e,_⟩
  all_goals grind
 have⟨f0,f1⟩:=aaO bY k p;grind[World.ownsRow.cellAt]
def alp(w:J)(k:Nat)(g:io)(q:O×O->Bool)(bY:iB):Prop:=
 (∀d w,(callFunc k d).run prog w=.ok (.enter k d) w)/\∀W,Z [] w W->∀a∈bY,dS k (#[.agg #[Y a.1,Y a.2]]++g) W λe K=>e=ff (.bool (q a))/\Z [] W K
theorem PB(k:Nat)(p:io)(q:O×O->Bool)(av:dB)(bY:iB)(w:J)(f:AX w av bY)(A:ln bY<=4096)(j:alp w k p q bY):dS 366 #[av,.func (.func k) #[] p] w λe P=>∃n:Int,e=ff (G n)/\decide (0<=n)=bY.any q/\Z [] w P:=by
 have⟨ao,cp,hav⟩:=df f;subst hav;have⟨hcf,HC⟩:=j;have i:=V f;clear f;go_enter func366,ntmps366;go_wp21
 go_loopw [8] (λv wr=>∃d:Nat,v=G d/\d<=ln bY/\(∀a∈bY.take d,q a=I)/\Z [] w wr) (λv _=> ln bY-(intOf v).toNat)
 case atStart=>grind[Z.refl]
 case round=>
  obtain⟨d,rfl,a2,z,K⟩:=hrel;by_cases l:d<ln bY
  .obtain⟨g,rfl,c0,c1⟩:=AX.d (K.ownsRow i (λ_ _=>by simp)) l;have bF:=HC wr K bY[d] (uI l);have o:=V z;have U:=V K;have c:bY.take (d+1)=bY.take d++[bY[d]]:=by rw[IJ,qM l];rfl
   have a1:=V c;have u:∀b,q bY[d]=b->(b=C->bY.any q=C):=λb hb h=>fT.2 ⟨bY[d],uI l,by rw[hb,h]⟩;generalize hqq:q bY[d]=b at bF u;have r:=hqq;have s:=V (u b D);clear z K c;generalize bY[d].1=x at *;generalize bY[d].2=y at *;go_wp21;refine bF.mono ?_;rintro e t⟨rfl,X⟩;have a0:=U.trans X;cases b with
   |true=>
    go_wp2;go_ret;simp_all
   |false=>
    go_wp2;go_roundw
    case rel=>
     grind[Hid.out]
    case measure=>simp[intOf];omega
  .have m:Hid (bY.any q=I):=V (by grind)
   have U:=V K;clear K z;go_wp2;go_ret;exact⟨-1,D,by grind[Hid.out],U⟩
def zo(k:Nat)(d:io)(q:O×O->Bool)(g:dB)(bY:iB)(w:J)(a:AX w g bY)(u:ln bY<=4096)(x:alp w k d q bY):dS 344 #[g,.func (.func k) #[] d] w (vc w (.bool (bY.any q))):=by
 go_enter func344,ntmps344;go_wp21;refine(PB k d q g bY w a u x).mono ?_;rintro e y⟨n,rfl,h,p⟩;have l:=V h;clear h;go_wp2
 all_goals go_ret
 all_goals exact⟨by rw[<-l.out];rfl,p⟩
def ag3(b:Nat)(s:O)(a:O×O)(w:J)(e:w.cell? ⟨b,0,F⟩=H (Y s))(d:b<zq w.heap):Calls prog 345 #[.agg #[Y a.1,Y a.2],dq b] w (vc w (.bool (fG a.1 s))):=by
 go_wp2;go_ret;exact⟨D,((Z.refl [] w).alloc _)⟩
def aj4(k:Nat)(h:O)(l:dB)(K kv:dB)(bY:iB)(s:O)(w:J)(y:w.heap[k]?=H (dr #[Y h,l,K,kv] 138))(b:AX w l bY)(z:ln bY<=4096):dS 317 #[dq k,Y s] w (vc w (.bool (vi bY s))):=by
 obtain⟨p,d⟩:∃p,p=w.alloc (dr #[Y s] 9):=⟨_,D⟩;have g:Z [] w p:=by rw[d];exact(Z.refl _ _).alloc _
 have P:(w.alloc (dr #[Y s] 9)).cell? ⟨k,1,F⟩=H l:=by rw[<-d,aF (g.at y (by simp))];rfl
 have U:=zo 345 #[dq w.heap.size] (λa=>fG a.1 s) l bY p (g.ownsRow b (λ_ _=>by simp)) z ⟨enters_of func345 (by rfl) D,λW u a _=>ag3 w.heap.size s a W (by rw[aF (u.at (by rw[d];exact aY w _) (by simp))];rfl) (fp (u.at (by rw[d];exact aY w _) (by simp)))⟩;have⟨ao,cp,hav⟩:=df b;subst hav;have x:=V d.symm;clear d;go_enter func317,ntmps317;go_wp21;rw[x.out];refine U.mono ?_;rintro e w2⟨rfl,q⟩;go_wp2;go_ret;exact⟨D,(g.trans q)⟩
def qQ(a b:O×O):Bool:=fG a.1 b.1&&fG a.2 b.2
theorem acw(x:O×O)(av:dB)(bY:iB)(w:J)(o:AX w av bY)(M:ln bY<=4096):dS 371 #[av,.agg #[Y x.1,Y x.2]] w λe P=>∃n:Int,e=ff (G n)/\decide (0<=n)=bY.any (λy=>qQ x y)/\Z [] w P:=by
 have⟨ao,cp,hav⟩:=df o;subst hav;obtain⟨w1,l⟩:∃w1,w1=w.alloc (dr #[Y x.1,Y x.2] 295):=⟨_,D⟩;have q:Z [] w w1:=by rw[l];exact(Z.refl _ _).alloc _
 have b1:w1.heap[zq w.heap]?=H (dr #[Y x.1,Y x.2] 295):=by rw[l];exact aY w _
 have r:=q.ownsRow o (λ_ _=>by simp);have s:=V l.symm;have b:=V b1;clear l b1;go_enter func371,ntmps371;go_wp21;rw[s.out]
 go_loopw [8] (λv wr=>∃d:Nat,v=G d/\d<=ln bY/\(∀a∈bY.take d,qQ x a=I)/\Z [] w1 wr) (λv _=> ln bY-(intOf v).toNat)
 case atStart=>grind[Z.refl]
 case round=>
  obtain⟨d,rfl,a1,K,u⟩:=hrel;by_cases z:d<ln bY
  .obtain⟨g,rfl,c0,c1⟩:=AX.d (u.ownsRow r (λ_ _=>by simp)) z;have t:=aF (u.at b.out (by simp)) 0;have A:=aF (u.at b.out (by simp)) 1;dsimp at t A;have m:=V K;have U:=V u;have a0:bY.take (d+1)=bY.take d++[bY[d]]:=by rw[IJ,qM z];rfl
   have X:=V a0;have F:=V (λ(h:qQ x bY[d]=C)=>fT.2 ⟨bY[d],uI z,h⟩);have E:=(show qQ x bY[d]=(fG x.1 bY[d].1&&fG x.2 bY[d].2)from D);clear K u a0;generalize bY[d]=y at *;have⟨y0,y1⟩:=y;obtain⟨i,j⟩:=x;simp only[]at *;have p:∀(f:Bool),(fG i y0&&fG j y1)=f->qQ (i,j) (y0,y1)=f:=λf h=>h;by_cases L:i.toList=y0.toList
   .by_cases e1:j.toList=y1.toList
    .have c:=V (p C (by unfold fG;grind));go_wp2_with fail;go_region
     all_goals (try go_wp2)
     all_goals (try go_ret)
     all_goals exact⟨(d:Int),D,by grind[Hid.out],q.trans U.drew⟩
    .have c:=V (p I (by unfold fG;grind));go_wp21;go_region
     all_goals (try go_wp2)
     all_goals (try go_roundw)
     all_goals first
      |(case rel=>
        refine⟨d+1,by go_num,by omega,λa k=>?_,U.drew⟩;rw[X.out]at k;rcases dA.1 k with k|k;exact m a k;rw[cC.1 k];exact c)
      |(case measure=>simp[intOf];omega)
      |skip
   .have c:=V (p I (by grind[fG]));go_wp21;go_region
    all_goals (try go_wp2)
    all_goals (try go_roundw)
    all_goals first
     |(case rel=>
       refine⟨d+1,by go_num,by omega,λa k=>?_,U.drew⟩;rw[X.out]at k;rcases dA.1 k with k|k;exact m a k;rw[cC.1 k];exact c)
     |(case measure=>simp[intOf];omega)
     |skip
  .have B:Hid (bY.any (λy=>qQ x y)=I):=V (by grind)
   have U:=V u;clear u K;go_wp2;go_ret;exact⟨-1,D,by grind[Hid.out],q.trans U⟩
def Si(x:O×O)(g:dB)(bY:iB)(w:J)(a:AX w g bY)(p:ln bY<=4096):dS 350 #[g,.agg #[Y x.1,Y x.2]] w (vc w (.bool (bY.any λy=>qQ x y))):=by
 have d:=(Z.refl [] w).alloc (dr #[Y x.1,Y x.2] 295);have u:=acw x g bY _ (d.ownsRow a (λ_ _=>by simp)) p;have⟨ao,cp,hav⟩:=df a;subst hav;go_enter func350,ntmps350;go_wp21;refine u.mono ?_;rintro e q⟨n,rfl,h,l⟩;have k:=V h;clear h;go_wp2
 all_goals go_ret
 all_goals exact⟨by rw[<-k.out];rfl,(d.trans l)⟩
def ad7(b k:Nat)(p:O)(u i kv:dB)(bY:iB)(a:O×O)(w:J)(hb:w.heap[b]?=H (dr #[dq k] 68))(z:w.heap[k]?=H (dr #[Y p,u,i,kv] 138))(c:AX w u bY)(f:ln bY<=4096):dS 349 #[.agg #[Y a.1,Y a.2],dq b] w (vc w (.bool (!(bY.any λy=>qQ a y)))):=by
 obtain⟨h,g⟩:∃h,h=w.alloc (dr #[Y a.1,Y a.2] 295):=⟨_,D⟩;have d:Z [] w h:=by rw[g];exact(Z.refl _ _).alloc _
 have x:h.heap[zq w.heap]?=H (dr #[Y a.1,Y a.2] 295):=by rw[g];exact aY w _
 have U:=aF x 0;have X:=aF x 1;have c2:=aF (d.at hb (by simp)) 0;have c3:=aF (d.at z (by simp)) 1;dsimp at U X c2 c3;have a0:k<zq h.heap:=fp (d.at z (by simp));have a1:=(λq=>Si a u bY (h.drewN q) ((d.drewN q).ownsRow c (λ_ _=>by simp)) f);have⟨ao,cp,hav⟩:=df c;subst hav;have P:=V g.symm;clear g;go_enter func349,ntmps349;go_wp21;rw[P.out]
 go_region_with (go_at_call 350;refine(a1 1).mono ?_;rintro e w2⟨rfl,l⟩;have K:=V ((d.drewN 1).trans l);clear l)
 all_goals (try go_wp2)
 all_goals (try go_ret)
 all_goals exact⟨D,K⟩
def agB(E:fS)(x:Nat×Nat×O):kP E (nX x)=Vq x:=rfl
theorem ajx.at{S:Nat}{T:List (Nat×Nat×O)}(h:w.ownsRow S 123 1 (.slice ao (ln T) cp) (ln T) (T.map Vq)){k:Nat}(p:k<ln T):∃g,ao=H ⟨g,0,F⟩/\w.cell? ⟨g,k,F⟩=H (Vq T[k]):=by
 obtain⟨g,hg⟩:∃g,ao=H ⟨g,0,F⟩:=by
  rcases h.2 with⟨e,u⟩|⟨q,d,l,e,_⟩
  all_goals grind
 subst hg;exact⟨g,D,by rw[h.cellAt k (by omega)];simp[p]⟩
theorem Rn(E:fS)(S:Nat)(wv:dB)(T:List (Nat×Nat×O))(w:J)(f:w.ownsRow S 123 1 wv (ln T) (T.map Vq))(A:ln T<=4096):dS 290 #[wv,.func (.func 228) #[] #[]] w λe P=>∃n:Int,e=ff (G n)/\decide (0<=n)=(T.any λx=>!fP x.2.2)/\Z [] w P:=by
 have⟨ao,cp,hav⟩:=df f;subst hav;have a2:=enters_of func228 (by rfl) D;have i:=(λW x=>(by show Calls prog 228 #[Vq x] W (vc W (.bool (!fP x.2.2)));have u:=yJ E (nX x) W;rw[agB]at u;have U:=(λW=>KL x.2.2 W);have j:(nX x).d=x.2.2:=rfl;rw[j]at u;go_enter func228,ntmps228;go_wp21;refine u.mono ?_;rintro e w1⟨rfl,z⟩;go_wp21;refine(U w1).mono ?_;rintro e w2⟨rfl,K⟩;go_wp2;go_ret;exact⟨D,(z.trans K)⟩))
 have X:=V f;clear f;go_enter func290,ntmps290;go_wp21
 go_loopw [8] (λv wr=>∃d:Nat,v=G d/\d<=ln T/\(∀a∈T.take d,(!fP a.2.2)=I)/\Z [] w wr) (λv _=> ln T-(intOf v).toNat)
 case atStart=>grind[Z.refl]
 case round=>
  obtain⟨d,rfl,a3,l,p⟩:=hrel;by_cases q:d<ln T
  .obtain⟨g,rfl,c0⟩:=ajx.at (p.ownsRow X (λ_ _=>by simp)) q;have bF:=i wr T[d];have o:=V l;have y:=V p;have a1:=V (show T.take (d+1)=T.take d++[T[d]] by simp);have k:∀b,(!fP T[d].2.2)=b->(b=C->(T.any λx=>!fP x.2.2)=C):=λb hb h=>fT.2 ⟨T[d],uI q,by rw[hb,h]⟩;generalize hqq:(!fP T[d].2.2)=b at bF k;have r:=hqq;have s:=V (k b D);clear l p;go_wp21;refine bF.mono ?_;rintro e t⟨rfl,c⟩;have a0:=y.trans c;cases b with
   |true=>
    go_wp2;go_ret;simp_all
   |false=>
    go_wp2;go_roundw
    case rel=>
     grind[Hid.out]
    case measure=>simp[intOf];omega
  .have m:Hid ((T.any λx=>!fP x.2.2)=I):=V (by grind)
   have y:=V p;clear p l;go_wp2;go_ret;exact⟨-1,D,by grind[Hid.out],y⟩
attribute [local go_sem] db
def kA(b a:Nat->dj->M Unit)(t:dj):M Unit:=do
 og b
 oc λX=>{X with L:=[],g:=X.kept}
 jg a t
 return ()
def fS.lock(E:fS)(v:dB)(a:List (Nat×Nat×O)):fS:={E with E:=H (v,a)}
def fk.lock(h:fk E L X w):fk (E.lock L.E X.L) L X w:=by
 have⟨Co,hb,hC⟩:=h.dP;exact
  {d:=h.d,env:=⟨h.env.z,h.env.IA,h.env.spec,h.env.A,h.env.B,h.env.u⟩,k:=h.k,B:=h.B,inj:=h.inj,b:=h.b,m:=h.m,T:=h.T,f:=h.f,wf:=h.wf
   dP:=⟨Co,hb,⟨hC.size,hC.low,hC.A,hC.B,hC.head,hC.j,hC.g,hC.kept,hC.wait,hC.q,hC.W,hC.K,hC.P⟩⟩
   R:=h.R,S:=h.S,o:=h.o,P:=h.P,W:=h.W,K:=h.K,s:=h.s,rd:=h.rd,u:=h.u,tok:=h.tok,q:=h.q,t:=h.t,A:=h.A,Q:=h.Q,X:=h.X,c:=h.c,U:=h.U,a:=h.a
   r:=λp d=>by cases d;simp}
theorem fk.unlock{a:List (Nat×Nat×O)}(h:fk (E.lock v a) L X w)(d:E.E=F):fk E L X w:=by
 have⟨Co,hb,hC⟩:=h.dP;exact
  {d:=h.d,env:=⟨h.env.z,h.env.IA,h.env.spec,h.env.A,h.env.B,h.env.u⟩,k:=h.k,B:=h.B,inj:=h.inj,b:=h.b,m:=h.m,T:=h.T,f:=h.f,wf:=h.wf
   dP:=⟨Co,hb,⟨hC.size,hC.low,hC.A,hC.B,hC.head,hC.j,hC.g,hC.kept,hC.wait,hC.q,hC.W,hC.K,hC.P⟩⟩
   R:=h.R,S:=h.S,o:=h.o,P:=h.P,W:=h.W,K:=h.K,s:=h.s,rd:=h.rd,u:=h.u,tok:=h.tok,q:=h.q,t:=h.t,A:=h.A,Q:=h.Q,X:=h.X,c:=h.c,U:=h.U,a:=h.a
   r:=λp e=>by grind}
def At.unlock{a:List (Nat×Nat×O)}(h:At (E.lock v a) f0 n0 w0 f X w)(d:E.E=F):At E f0 n0 w0 f X w:=by have⟨L,e,Q⟩:=h.rel;exact⟨⟨L,e,Q.unlock d⟩,h.ext,h.le,h.d,h.hw⟩
theorem M.p{b d e:Type}(m:M b)(k:b->M d)(g:d->M e)(X:N):((m>>=k)>>=g) X=(m>>=λa=>k a>>=g) X:=by grind[cW]
theorem fk.g(h:fk E L X w)(e:E.E=F):fk E {L with E:=gq} {X with L:=[]} (w.setCell ⟨E.A,194,F⟩ (gq)):=by have⟨Co,hb,hC⟩:=h.dP;have d:Z [E.A] w (w.setCell ⟨E.A,194,F⟩ (gq)):=(Z.refl _ w).setCell (.inl (by simp)) _;have g:KT E.bs [178,123] w _:=.q d (λk d _=>by grind[fk.A]);grind[amw,bH,World.ownsRow_nil]
def At.g(h:At E f0 n0 w0 f X w)(g:E.E=F):At E f0 n0 w0 f {X with L:=[]} (w.setCell ⟨E.A,194,F⟩ (gq)):=by have⟨L,e,Q⟩:=h.rel;refine h.to ⟨{L with E:=gq},e,Q.g g⟩ (dF _) ?_;have⟨Co,hb,hC⟩:=Q.dP;have d:Z [E.A] w (w.setCell ⟨E.A,194,F⟩ (gq)):=(Z.refl _ w).setCell (.inl (by simp)) _;exact .q d (λk d=>by simp at d;subst d;exact⟨⟨_,_,_,hb,by decide⟩,Q.A⟩)
def Kf(a:Nat->dj->M Unit)(d:Bool)(x:Nat×Nat×O):M Unit:=if d then pQ a (nX x)else gh (nX x)
def qx(a:Nat->dj->M Unit)(d:Bool):List (Nat×Nat×O)->M Unit
 |[]=>pure ()
 |x::r=>do
  Kf a d x
  qx a d r
def D7(a:Nat->dj->M Unit)(d:Bool)(x:Nat×Nat×O)(r:List (Nat×Nat×O)):qx a d (x::r)=(Kf a d x>>=λ_=>qx a d r):=rfl
def NU(a:Nat->dj->M Unit):∀d,qx a C d=tL a d
 |[]=>rfl
 |x::r=>by unfold qx tL;rw[NU a r];rfl
def NT(a:Nat->dj->M Unit):∀d,qx a I d=qA d
 |[]=>rfl
 |x::r=>by unfold qx qA;rw[NT a r];rfl
theorem Ko(E:fS)(T:E.E=F)(j i:Nat->dj->M Unit)(aI:∀v ws (m:Nat) (t:dj),gz E t->pL (E.lock v ws) 165 (λ_=>#[Bp E,G m,kP E t]) (j m t) uV)(hA:FA E i)(t:dj)(W:gz E t):qU E t 131 (kA j i t):=by
 intro f X w h HS;have⟨L,hL,Q⟩:=h;obtain⟨R,a⟩:∃R,R=kA j i t X:=⟨_,D⟩;rw[<-a]at HS|-;obtain⟨fo,a8⟩:∃fo,fo=X.L.any λx=>!fP x.2.2:=⟨_,D⟩;obtain⟨d,A⟩:∃d,d=X.L:=⟨_,D⟩;obtain⟨p,s⟩:∃p,p=L.E:=⟨_,D⟩;have ad:R=(qx j fo d>>=λ_=>(do
   oc λX=>{X with L:=[],g:=X.kept}
   jg i t
   return ():M Unit)) X:=by
  rw[a];unfold kA;rw[M.cW,M.cW];have e1:og j X=qx j fo d X:=by unfold og;rw[<-a8,A];cases fo;rw[NT];rfl;rw[NU];rfl
  rw[e1]
 have a9:=Q.lock;rw[<-s,<-A]at a9;have c:=At.start (E:=E.lock p d) ⟨L,hL,a9⟩;have r:dS 227 #[L.E,.func (.func 228) #[] #[]] w (vc w (.bool (X.L.any λx=>!fP x.2.2))):=by
  go_enter func227,ntmps227;go_wp21;refine(Rn E E.bs L.E X.L w Q.K Q.s).mono ?_;rintro e w1⟨n,rfl,h1,HK⟩;go_wp2
  all_goals go_ret
  all_goals exact⟨D,HK⟩
 rw[<-a8,<-s]at r;have aa:=Q.K;rw[<-s,<-A]at aa;have⟨ao,cp,hsh⟩:=df aa;have ak:ln d<=4096:=by rw[A];exact Q.s
 have c0:=Q.P1;rw[<-s,hsh]at c0;rw[hsh]at r;have a0:=Q.lt;have aj:∀(fn:Fn)(first ac:io)(w:J),(Instr.makeFunc fn first ac).run prog w=.ok (.func fn first ac) w:=λ_ _ _ _=>D;have ai:=enters_of func103 (by rfl) D;have ah:=enters_of func129 (by rfl) D;have q:=V ad;have ab:=V hsh;have S:∀x:Nat×Nat×O,pL (E.lock p d) (if fo then 129 else 103) (λ_=>#[Bp E,Vq x]) (Kf j fo x) uV:=by
  intro x;cases fo with
  |true=>exact Ei (E.lock p d) j (λm t W=>aI p d m t W) (nX x) (λh=>by cases h)
  |false=>exact vj (E.lock p d) (eK _) (nX x)
 have HA:=hA;clear a ad a9 aa hsh Q hL hA aI a8 A s;cases fo with
 |true=>
  have a7:Hid (∀x:Nat×Nat×O,pL (E.lock p d) 129 (λ_=>#[Bp E,Vq x]) (Kf j C x) uV):=S;clear S;go_enter func131,ntmps131;go_wp21;refine r.mono ?_;rintro e w1⟨rfl,z⟩;have c1:=(z.cell (p:=⟨E.A,194,F⟩) a0 (by simp)).trans c0;have a2:E.A<zq w1.heap:=kQ a0 z.size;replace c:=c.k0 z;clear z r;go_wp21
  go_loopw [21] (λv wr=>∃(l:Nat)(g:Nat->Nat)(U:N),v=G l/\l<=ln d/\R=(qx j C (d.drop l)>>=λ_=>(do
   oc λX=>{X with L:=[],g:=X.kept}
   jg i t
   return ():M Unit)) U/\At (E.lock p d) f (ln X.d) w g U wr) (λv _=> ln d-(intOf v).toNat)
  case atStart=>exact⟨0,f,X,D,eZ _,q,c⟩
  case round=>
   clear c q c0 c1 a0 a2;obtain⟨l,g,U,rfl,ae,a,u⟩:=hrel;by_cases a3:l<ln d
   .have⟨L',hL',hr'⟩:=u.rel;have⟨e1,e2⟩:=hr'.r _ D;have k:=hr'.K;rw[e1,e2]at k;dsimp only at k;rw[ab.out]at k;obtain⟨gb,rfl,B⟩:=ajx.at k a3;rw[xu a3]at a;have y:R=(Kf j C d[l]>>=λ_=>qx j C (d.drop (l+1))>>=λ_=>(do
      oc λX=>{X with L:=[],g:=X.kept}
      jg i t
      return ():M Unit)) U:=by
     rw[a,D7,M.p]
    replace c:=u;have q:=V y;have a1:=a7 d[l];clear a y u k e1 e2 hr' hL';rw[show Vq d[l]=.iface 186 (.agg #[G (d[l].1),G (d[l].2.1),Y d[l].2.2])from D]at B a1;go_wp21;refine dC (a1) c q HS D (λ_ _ _ _ h=>And.intro rfl (lS h)) ?_;clear c q;rintro(_) f X w c HX Z q;go_wp2;go_roundw
    case rel=>exact⟨l+1,f,X,by go_num,by omega,q,c⟩
    case measure=>simp[intOf];omega
   .have y:R=(jg i t>>=λ_=>(aG ():M Unit)) {U with L:=[],g:=U.kept}:=by rw[a,Fw (by omega)];rfl
    have o:=(u.unlock T);obtain⟨K,P,c4⟩:∃K P,wr.cell? ⟨E.A,194,F⟩=H (.slice K (ln U.L) P):=by have⟨L4,_,hr4⟩:=o.rel;have⟨K,P,e4⟩:=df hr4.K;grind[fk.P1]
    have f4:=o.free 194;have af:=o.lt;have b:=o.g T;have B:=b.VU;have c6:=b.qY;have f6:=b.free 192;have ag:=b.lt;have c:=b.fy U.kept;have q:=V y;clear a y u o b;go_wp21;refine dC (sW E i HA t W) c q HS D (λ_ _ _ _ h=>And.intro rfl (lS h)) ?_;clear c q;rintro(_) f X w c HX Z q;go_wp2;go_end0;exact cF q c D
 |false=>
  have a7:Hid (∀x:Nat×Nat×O,pL (E.lock p d) 103 (λ_=>#[Bp E,Vq x]) (Kf j I x) uV):=S;clear S;go_enter func131,ntmps131;go_wp21;refine r.mono ?_;rintro e w1⟨rfl,z⟩;have c1:=(z.cell (p:=⟨E.A,194,F⟩) a0 (by simp)).trans c0;have a2:E.A<zq w1.heap:=kQ a0 z.size;replace c:=c.k0 z;clear z r;go_wp21
  go_loopw [21] (λv wr=>∃(l:Nat)(g:Nat->Nat)(U:N),v=G l/\l<=ln d/\R=(qx j I (d.drop l)>>=λ_=>(do
   oc λX=>{X with L:=[],g:=X.kept}
   jg i t
   return ():M Unit)) U/\At (E.lock p d) f (ln X.d) w g U wr) (λv _=> ln d-(intOf v).toNat)
  case atStart=>exact⟨0,f,X,D,eZ _,q,c⟩
  case round=>
   clear c q c0 c1 a0 a2;obtain⟨l,g,U,rfl,ae,a,u⟩:=hrel;by_cases a3:l<ln d
   .have⟨L',hL',hr'⟩:=u.rel;have⟨e1,e2⟩:=hr'.r _ D;have k:=hr'.K;rw[e1,e2]at k;dsimp only at k;rw[ab.out]at k;obtain⟨gb,rfl,B⟩:=ajx.at k a3;rw[xu a3]at a;have y:R=(Kf j I d[l]>>=λ_=>qx j I (d.drop (l+1))>>=λ_=>(do
      oc λX=>{X with L:=[],g:=X.kept}
      jg i t
      return ():M Unit)) U:=by
     rw[a,D7,M.p]
    replace c:=u;have q:=V y;have a1:=a7 d[l];clear a y u k e1 e2 hr' hL';rw[show Vq d[l]=.iface 186 (.agg #[G (d[l].1),G (d[l].2.1),Y d[l].2.2])from D]at B a1;go_wp21;refine dC (a1) c q HS D (λ_ _ _ _ h=>And.intro rfl (lS h)) ?_;clear c q;rintro(_) f X w c HX Z q;go_wp2;go_roundw
    case rel=>exact⟨l+1,f,X,by go_num,by omega,q,c⟩
    case measure=>simp[intOf];omega
   .have y:R=(jg i t>>=λ_=>(aG ():M Unit)) {U with L:=[],g:=U.kept}:=by rw[a,Fw (by omega)];rfl
    have o:=(u.unlock T);obtain⟨K,P,c4⟩:∃K P,wr.cell? ⟨E.A,194,F⟩=H (.slice K (ln U.L) P):=by have⟨L4,_,hr4⟩:=o.rel;have⟨K,P,e4⟩:=df hr4.K;grind[fk.P1]
    have f4:=o.free 194;have af:=o.lt;have b:=o.g T;have B:=b.VU;have c6:=b.qY;have f6:=b.free 192;have ag:=b.lt;have c:=b.fy U.kept;have q:=V y;clear a y u o b;go_wp21;refine dC (sW E i HA t W) c q HS D (λ_ _ _ _ h=>And.intro rfl (lS h)) ?_;clear c q;rintro(_) f X w c HX Z q;go_wp2;go_end0;exact cF q c D
attribute [local go_sem] db
def Em(d:M Unit)(t:dj):M Unit:=λX=>if X.gH (cZ [t.name]) zf then d X else .ok () X
def R3(E:fS)(v:dB)(p:O->Bool)(W:J):Prop:=∃k lb,v=.func (.func k) #[] lb/\Ask E.bm v p W
def R3.k{E:fS}{v:dB}{p:O->Bool}{W K:J}(h:R3 E v p W)(d:Z [] W K):R3 E v p K:=by have⟨k,lb,e,ha⟩:=h;exact⟨k,lb,e,ha.k0 d⟩
def Nz(s:O)(v:dB)(W:J):Prop:=∃g,v=lO g 1 1/\W.heap[g]?=H (dr #[Y s] 9)
def Nz.k{s:O}{v:dB}{W K:J}(h:Nz s v W)(d:Z [] W K):Nz s v K:=by have⟨g,e,hb⟩:=h;exact⟨g,e,d.at hb (by simp)⟩
structure IfI(E:fS)(t:dj)(σ:N)(ta tb:Int)(tao:Option Addr)(tn tcp:Nat)(W0:J)(z0 z1 z2 z3 z4 z5 z6 z7:Bool)(s4 s5 s6 s7 s8 s9 s10 s11:dB)(W:J):Prop where
 f0:z0=C->s4=fc E.A
 f1:z1=C->s5=kP E t
 f2:z2=C->s6=.agg #[G ta,G tb,Y t.name,.slice tao tn tcp]
 f3:z3=C->s7=Y t.name
 f4:z4=C->Nz t.name s8 W
 f5:z5=C->R3 E s9 (cZ [t.name]) W
 f6:z6=C->R3 E s10 zf W
 f7:z7=C->s11=.bool (σ.gH (cZ [t.name]) zf)
 d2:z2=C->z1=C
 d3:z3=C->z2=C
 d4:z4=C->z3=C
 d5:z5=C->z4=C
 d7:z7=C->z0=C/\z5=C/\z6=C
 A:Z [] W0 W
theorem Qm(E:fS)(t:dj)(r:Ru)(n:M Unit)(m:jJ E r t n)(b1 b2:Nat)(u:dB)(h:RF E f X w)(y:Em n t X≠ .stuck)(a2:box w b1 (fc E.A) 119)(a0:box w b2 u 166)(hu:mM E.bm E.A (f 0) r u w):dS 231 #[kP E t,fc b1,fc b2] w (Leaves E f (ln X.d) w (Em n t X) uV):=by
 obtain⟨R,hR⟩:∃R,R=Em n t X:=⟨_,D⟩;rw[<-hR]at y|-;have⟨ta,tb,tao,tn,tcp,HTG⟩:=Fi E t h;have a8:=(λw=>AG ta tb t.name tao tn tcp w);have a1:=V h;have HS:=y;have HR:=V hR;have a4:=V a0;have HU:=hu;have ab:=m;have a7:=(λW (hk:Z [] w W)=>(by rw[aF (hk.at a2 (by simp))];rfl:W.cell? ⟨b1,0,F⟩=H (fc E.A)));clear h hR a0;go_enter func231,ntmps231;go_wp21;refine xr (by rfl) ?_
 try (change wpAny _ _ _ _ _ _ _ (World.drew _))
 refine GJ (b:=λx ac W=>∃o s A B C G J L aI S T Q s8 s9 z K,x=#[o,s,A,B,C,G,J,L]/\ac=⟨#[kP E t,fc b1,fc b2,qu,aI,S,T,Q,s8,s9,z,K,qu,qu,qu],[]⟩/\IfI E t X ta tb tao tn tcp w o s A B C G J L aI S T Q s8 s9 z K W) ?_ ?_ _ _ _ _ ?_ ?_
 .rintro x a W k⟨o,s,A,B,C,G,J,L,aI,S,T,Q,s8,s9,z,K,rfl,rfl,d⟩ hi;simp only[fB,Vi,Vj]at hi;have⟨a3,hc⟩:=hi;have a3:k<8:=a3;obtain rfl|rfl|rfl|rfl|rfl|rfl|rfl|rfl:k=0\/k=1\/k=2\/k=3\/k=4\/k=5\/k=6\/k=7:=by omega
  all_goals simp[du]at hc
  .refine lz D ?_;intro U q;have ag:o=I:=by simp[hc]
   have cc:=a7 W d.A;go_simp;refine q _ _ ⟨_,_,_,_,_,_,_,_,_,_,_,_,_,_,_,_,D,D,?_⟩;exact {d with f0:=(λ_=>D),d7:=(λhh=>by have h2:=(d.d7 hh).1;grind)}
  .refine lz D ?_;intro U q;have a2:s=I:=by simp[hc]
   go_simp;refine q _ _ ⟨_,_,_,_,_,_,_,_,_,_,_,_,_,_,_,_,D,D,?_⟩;exact {d with f1:=(λ_=>D),d2:=(λ_=>D)}
  .refine lz D ?_;intro U q;have a0:A=I:=by simp[hc]
   have e1:=d.f1 (by simp[hc]);subst e1;go_simp;refine(HTG W).mono ?_;rintro e O⟨rfl,l⟩;refine q _ _ ⟨_,_,_,_,_,_,_,_,_,_,_,_,_,_,_,_,D,D,?_⟩;exact {d with f2:=(λ_=>D),f4:=(λh=>(d.f4 h).k l),f5:=(λh=>(d.f5 h).k l),f6:=(λh=>(d.f6 h).k l),d2:=(λ_=>by simp[hc]),d3:=(λ_=>D),A:=(d.A.trans l)}
  .refine lz D ?_;intro U q;have ah:B=I:=by simp[hc]
   have e2:=d.f2 (by simp[hc]);subst e2;have an:=a8;go_simp;refine q _ _ ⟨_,_,_,_,_,_,_,_,_,_,_,_,_,_,_,_,D,D,?_⟩;exact {d with f3:=(λ_=>D),d3:=(λ_=>by simp[hc]),d4:=(λ_=>D)}
  .refine lz D ?_;intro U q;have ai:C=I:=by simp[hc]
   have e3:=d.f3 (by simp[hc]);subst e3;go_simp;have ka:Z [] W (W.alloc (dr #[Y t.name] 9)):=(Z.refl _ _).alloc _;refine q _ _ ⟨_,_,_,_,_,_,_,_,_,_,_,_,_,_,_,_,D,D,?_⟩;exact {d with f4:=(λ_=>⟨_,D,aY W _⟩),f5:=(λh=>(d.f5 h).k ka),f6:=(λh=>(d.f6 h).k ka),d4:=(λ_=>by simp[hc]),d5:=(λ_=>D),A:=(d.A.trans ka)}
  .refine lz D ?_;intro U q;have aj:G=I:=by simp[hc]
   have e4:=d.f4 (by simp[hc]);have⟨g,e4,hg⟩:=d.f4 (by simp[hc]);subst e4;go_simp;refine(WR E.bm g 1 [t.name] W hg (by simp)).mono ?_;rintro e O⟨⟨v,rfl,ha⟩,l⟩;refine q _ _ ⟨_,_,_,_,_,_,_,_,_,_,_,_,_,_,_,_,D,D,?_⟩;exact {d with f4:=(λ_=>⟨g,D,l.at hg (by simp)⟩),f5:=(λ_=>(by have⟨k,lb,e,_,_⟩:=ha.call;exact⟨k,lb,e,ha⟩)),f6:=(λh=>(d.f6 h).k l),d5:=(λ_=>by simp[hc]),d7:=(λhh=>by have h2:=(d.d7 hh).2.1;grind),A:=(d.A.trans l)}
  .refine lz D ?_;intro U q;have ak:J=I:=by simp[hc]
   go_simp;refine(wG E W).mono ?_;rintro e O⟨k,lb,rfl,ha,l⟩;refine q _ _ ⟨_,_,_,_,_,_,_,_,_,_,_,_,_,_,_,_,D,D,?_⟩;exact {d with f4:=(λh=>(d.f4 h).k l),f5:=(λh=>(d.f5 h).k l),f6:=(λ_=>⟨k,lb,D,ha⟩),d7:=(λhh=>by have h2:=(d.d7 hh).2.2;grind),A:=(d.A.trans l)}
  .refine lz D ?_;intro U q;have al:L=I:=by simp[hc]
   have e0:=d.f0 (by simp[hc]);subst e0;have a5:=d.f5 (by simp[hc]);have a6:=d.f6 (by simp[hc]);go_simp;refine(vE (a1.h d.A) (cZ [t.name]) zf _ _ a5.choose_spec.choose_spec.2 a6.choose_spec.choose_spec.2).mono ?_;rintro e O⟨rfl,l⟩;refine q _ _ ⟨_,_,_,_,_,_,_,_,_,_,_,_,_,_,_,_,D,D,?_⟩;exact {d with f4:=(λh=>(d.f4 h).k l),f5:=(λh=>(d.f5 h).k l),f6:=(λh=>(d.f6 h).k l),f7:=(λ_=>D),d7:=(λ_=>by simp[hc]),A:=(d.A.trans l)}
 .rintro x a W⟨o,s,A,B,C,G,J,L,aI,S,T,Q,s8,s9,z,K,rfl,rfl,d⟩ m;simp only[fB,Ya,Vj]at m;have q0:=m 0 (by decide);simp[du]at q0;subst q0;have q1:=m 1 (by decide);simp[du]at q1;subst q1;have q2:=m 2 (by decide);simp[du]at q2;subst q2;have q3:=m 3 (by decide);simp[du]at q3;subst q3;have q4:=m 4 (by decide);simp[du]at q4;subst q4;have q5:=m 5 (by decide);simp[du]at q5;subst q5;have q6:=m 6 (by decide);simp[du]at q6;subst q6;have q7:=m 7 (by decide);simp[du]at q7;subst q7;have e7:=d.f7 D;subst e7;have ap:=(At.start a1).k0 d.A;have P:=V d.A;clear d;cases hq:X.gH (cZ [t.name]) zf with
  |false=>
   have aa:=(show R=.ok () X by rw[HR.out];unfold Em;rw[hq];rfl);go_wp2;go_end0;exact cF aa ap D
  |true=>
   have i:R=n X:=by rw[HR.out];unfold Em;rw[hq];rfl
   have ae:n X≠ .stuck:=by rw[<-i];exact HS
   have af:=mM.d HU (Fr.n (bs:=E.bs) (.h P) E.bm);have⟨k,bs,cs,hv,eg,HC⟩:=ab u f X W ap.rel af ae;subst hv;have c2:=aF (P.out.at a4.out (by simp)) 0;dsimp at c2;have ad:=V i;clear i;go_wp21;refine HC.mono ?_;intro e O hL;have N:=V hL;have a9:=Fr.h (bs:=E.bs) P;clear hL;have b:=V ad;cases hrr:n X with
   |ok a σ2=>
    rw[hrr]at N b;obtain⟨g,g1,g2,rfl,g4,g5⟩:=N;have HG:=ap.go g4 g1 g2 g5;go_wp2;go_end0;exact cF b HG D
   |stop c p=>
    rw[hrr]at N b;obtain⟨j,rfl,G2,g3⟩:=N;have G3:=a9.trans g3;go_wp2;exact⟨D,nY b G2 G3⟩
   |stuck=>grind
 decide;exact⟨_,_,_,_,_,_,_,_,_,_,_,_,_,_,_,_,D,D,⟨(by simp),(by simp),(by simp),(by simp),(by simp),(by simp),(by simp),(by simp),(by simp),(by simp),(by simp),(by simp),(by simp),((Z.refl _ _).drew)⟩⟩
def KZ{n:O}{a p k:dB}(h:w.heap[i]?=H (dr #[Y n,a,p,k] 138)):w.cell? ⟨i,0,F⟩=H (Y n)/\w.cell? ⟨i,1,F⟩=H a/\i<zq w.heap:=⟨by rw[aF h];rfl,by rw[aF h];rfl,fp h⟩
def aaY(i j:Nat)(f n2:O)(a1 p1 k1 a2 R k2:dB)(d h:iB)(w:J)(Q:w.heap[i]?=H (dr #[Y f,a1,p1,k1] 138))(s:w.heap[j]?=H (dr #[Y n2,a2,R,k2] 138))(a0:AX w a1 d)(a3:AX w a2 h)(ah:ln d<=4096)(ai:ln h<=4096):dS 321 #[dq i,dq j] w (vc w (.bool (fG f n2&&(ln d==ln h)&&d.all λx=>h.any λy=>qQ x y))):=by
 have p:∀(N:Fn)(first A:io)(w:J),(Instr.makeFunc N first A).run prog w=.ok (.func N first A) w:=λ_ _ _ _=>D;obtain⟨P,K⟩:∃P,P=w.alloc (dr #[dq j] 68):=⟨_,D⟩;have c:Z [] w P:=by rw[K];exact(Z.refl _ _).alloc _
 have b1:P.heap[zq w.heap]?=H (dr #[dq j] 68):=by rw[K];exact aY w _
 have⟨c0,c1,l1⟩:=KZ (c.at Q (by simp));have⟨d0,d1,l2⟩:=KZ (c.at s (by simp));have n:P.cell? ⟨zq w.heap,0,F⟩=H (dq j):=by rw[aF b1];rfl
 have M:=V (λW (l:Z [] P W)=>zo 349 #[dq w.heap.size] (λa=>!(h.any λy=>qQ a y)) a1 d W ((c.trans l).ownsRow a0 (λ_ _=>by simp)) ah ⟨enters_of func349 (by rfl) D,λt k a _=>ad7 w.heap.size j n2 a2 R k2 h a t ((l.trans k).at b1 (by simp)) (((c.trans l).trans k).at s (by simp)) (((c.trans l).trans k).ownsRow a3 (λ_ _=>by simp)) ai⟩);have v:=V (fp b1);have U:(!(d.any λa=>!(h.any λy=>qQ a y)))=d.all λx=>h.any λy=>qQ x y:=by rw[List.not_any_eq_all_not];simp
 have⟨ao1,cp1,hav1⟩:=df a0;have⟨ao2,cp2,hav2⟩:=df a3;subst hav1 hav2;have o:=V K.symm;have X:=V c;have aa:=V U;clear Q s a0 a3 K c b1 U;cases hq:fG f n2 with
 |false=>
  have u:(f.toList==n2.toList)=I:=hq;clear hq;go_enter func321,ntmps321;go_wp21;rw[o.out]
  go_quiet (fail)
  go_wp2;go_ret;exact⟨D,X.out.drewN _⟩
 |true=>
  have u:(f.toList==n2.toList)=C:=hq;clear hq;by_cases hl:ln d=ln h
  .have q:((ln d:Int)==(ln h:Int))=C:=by rw[hl];simp
   have ad:=V (show(ln d==ln h)=C by rw[hl];simp);clear hl;go_enter func321,ntmps321;go_wp21;rw[o.out];obtain⟨m,L⟩:∃m,m=zq w.heap:=⟨_,D⟩;rw[<-L]at n M v|-;clear L;have T:=V (λ(W:J) (l:Z [] P W)=>(⟨(l.cell (p:=⟨i,0,F⟩) l1 (by simp)).trans c0,(l.cell (p:=⟨i,1,F⟩) l1 (by simp)).trans c1,(l.cell (p:=⟨j,0,F⟩) l2 (by simp)).trans d0,(l.cell (p:=⟨j,1,F⟩) l2 (by simp)).trans d1,(l.cell (p:=⟨m,0,F⟩) v.out (by simp)).trans n⟩:_/\_/\_/\_/\_));have af:=V u;have ac:=V q;have ae:=V p;clear c0 c1 d0 d1 n u q p;refine xr (by rfl) ?_;refine oW (λ(g:Unit) z=>⟨#[dq i,dq j,qu,dq m,ce z 31 (.bool I) (.bool (!(d.any λa=>!(h.any λy=>qQ a y)))),cd z 0 (dq i),cd z 1 (dq i),cd z 2 (dq i),cd z 3 (Y f),cd z 4 (dq j),cd z 5 (dq j),cd z 6 (dq j),cd z 7 (Y n2),cd z 8 (.bool C),cd z 9 (.bool C),cd z 10 (dq i),cd z 11 (dq i),cd z 12 (gU i 1),cd z 13 (.slice ao1 (ln d) cp1),cd z 14 (G (ln d)),cd z 15 (dq j),cd z 16 (dq j),cd z 17 (gU j 1),cd z 18 (.slice ao2 (ln h) cp2),cd z 19 (G (ln h)),cd z 20 (.bool C),cd z 21 (.bool C),cd z 22 (.bool C),cd z 23 (dq i),cd z 24 (dq i),cd z 25 (gU i 1),cd z 26 (.slice ao1 (ln d) cp1),cd z 27 (.func (.func 349) #[] #[dq m]),cd z 28 (.bool (d.any λa=>!(h.any λy=>qQ a y))),cd z 29 (.bool (!(d.any λa=>!(h.any λy=>qQ a y)))),cd z 30 (.bool (!(d.any λa=>!(h.any λy=>qQ a y))))],[]⟩) (λg z W=>Z [] P W) 32 [[],[0],[1],[2],[],[4],[5],[6],[3,7],[8],[9],[9,10],[9,11],[9,12],[9,13],[9],[9,15],[9,16],[9,17],[9,18],[9,14,19],[9,20],[21],[22],[22,23],[22,24],[22,25],[22],[22,26,27],[22,28],[22,29],[30]] (()) D D ((Z.refl [] P).drew) ?_ ?_
   .repeat' first|exact kY|refine kX ?_ ?_
    all_goals
     rintro g z W b r _;simp[Cm]at r;refine lz D ?_;intro K' B;simp only[kJ,r];have⟨c0,c1,d0,d1,n⟩:=T.out W b;have u:=af.out;have q:=ac.out;have p:=ae.out;have S:=V (M.out W b);go_simp
     first
     |refine B _ _ ⟨g,?_,b⟩
     |refine S.out.mono ?_;rintro e t⟨rfl,k⟩;refine B _ _ ⟨g,?_,b.trans k⟩
     simp[pA,wY,kJ,vf,DS,r]
   .rintro g W b;simp only[xw,PM];have ab:=V b;clear b;rename_i KK E;refine E _ _ ?_;clear E KK;go_wp2;go_ret;exact⟨by rw[ad.out,<-aa.out];rfl,X.out.trans ab.out⟩
  .have q:((ln d:Int)==(ln h:Int))=I:=beq_eq_false_iff_ne.2 (by omega);have ag:(ln d==ln h)=I:=beq_eq_false_iff_ne.2 hl;go_enter func321,ntmps321;go_wp21;rw[o.out]
   go_quiet (fail)
   go_wp2;go_ret;exact⟨by rw[ag];rfl,X.out.drewN _⟩
section
attribute [local go_sem] db
attribute [local go_sem] pF
attribute [local simp] pF
def N.k(X:N)(j:Nat)(c:fW×Nat)(i:Nat):fW×Nat:=if X.z i j then (H i,c.2+1)else c
def Ap(X:N)(j:Nat):∀(d:iU)(c:fW×Nat),X.u j d c=(Bv d).foldl (X.k j) c
 |[],_=>rfl
 |none::_,_=>rfl
 |some i::r,c=>by show(if X.z i j then X.u j r _ else X.u j r c)=(Bv r).foldl _ _;unfold N.k;split<;>exact Ap X j r _
theorem K4(X:N)(j:Nat):∀(d:List Nat)(c:fW×Nat),(d.foldl (X.k j) c).2<=c.2+ln d
 |[],c=>by simp
 |x::d,c=>by have h:=K4 X j d (X.k j c x);grind[N.k]
theorem Yf:∀(d:iU),ln (Bv d)<=ln d
 |[]=>dF _
 |none::_=>eZ _
 |some _::r=>by have:=Yf r;grind[Bv]
def Dh{k:Nat}{t:TypeId}(d:w.heap[bF]?=H o)(g:o.isCells=I)(h:w.heap[k]?=H (.cells c t m)):(w.putObj bF o').heap[k]?=H (.cells c t m):=
 (td (λe=>by subst e;rw[d]at h;cases h;cases g)).trans h
def kI.e{nd:zE}(h:kI bs L w i nd)(d:w.heap[bF]?=H o)(g:o.isCells=I):kI bs L (w.putObj bF o') i nd:=by
 cases nd with
 |el e=>exact⟨⟨Dh d g h.1.dP,GM h.1.row o' d g,h.1.le,h.1.A⟩,GM h.2.1 o' d g,h.2.2⟩
 |tx s=>exact Dh d g h
 |cm s=>exact Dh d g h
 |dt s=>exact Dh d g h
theorem Fr.take(h:Fr bs w W)(d:zq w.heap<=bF)(o:Obj):Fr bs w (W.putObj bF o):=by have⟨S,hk,hS⟩:=h;exact⟨S,hk.grown (AR W bF o) (λk e=>by grind),hS⟩
def fk.e(h:fk E L X w)(d:w.heap[bF]?=H o)(e:o.isCells=I)(g:zq E.L.heap<=bF):fk E L X (w.putObj bF o'):=by
 have⟨Co,hb,hC⟩:=h.dP;exact
  {d:=h.d.take g o'
   env:=h.env
   k:=h.k
   B:=λi k hi=>(h.B i k hi).e d e
   inj:=h.inj,b:=h.b,m:=h.m,T:=h.T,f:=h.f,wf:=h.wf
   dP:=⟨Co,Dh d e hb,hC⟩
   R:=GM h.R o' d e
   S:=GM h.S o' d e
   o:=h.o,P:=h.P,W:=h.W
   K:=GM h.K o' d e
   s:=h.s
   rd:=Dh d e h.rd
   u:=h.u
   tok:=GM h.tok o' d e
   q:=h.q,t:=h.t,A:=h.A,Q:=h.Q,X:=h.X,c:=h.c,U:=h.U,a:=h.a,r:=h.r}
def Fr.other(h:Fr bs w W)(e:w.heap[bF]?=H o)(k:o.isCells=I):W.heap[bF]?=H o:=by have⟨S,hk,hS⟩:=h;have d:bF<zq w.heap:=(dD.1 e).1;refine(hk.block bF d λg=>?_).trans e;have⟨⟨c,t,m,h3,_⟩,_⟩:=hS bF g d;rw[e]at h3;cases h3;cases k
theorem aeb{o q:Type}{k:Nat}{m:M o}{d:(Nat->Nat)->o->dB}(r:m X≠ .stuck->dS k A w (iW E f (ln X.d) w (m X) d))(b:At E f0 n0 w0 f X w){R:pj q}{K:o->M q}(g:R=(m>>=K) X)(y:R≠ .stuck)
  (h:∀c p j P,R=.stop c p->iO P j c p->Fr E.bs w0 P->Fr E.bs w P->aI (qi j) P)
  (x:∀a U P,At E f0 n0 w0 f U P->Fr E.bs w P->R=K a U->aI (ff (d f a)) P):dS k A w aI:=by
 rw[M.cW]at g;refine(r (λe=>y (by grind))).mono ?_;intro e P hl;cases Q:m X with
 |ok a U=>
  rw[Q]at hl g;obtain⟨rfl,z,n,i⟩:=hl;grind[At.to]
 |stop c p=>
  rw[Q]at hl g;obtain⟨j,rfl,u,l⟩:=hl;exact h c p j P g u (b.d.trans l) l
 |stuck=>grind
def TP{d:N}{r:pj Unit}(k:At E f n w f d w2)(h:w2.heap[bF]?=H (.deferred (H [])))(g:zq w.heap<=bF)(a:r=.ok () d):iW E f n w r uV (pG) (w2.putObj bF (.deferred F)):=by subst a;have⟨L,e,a⟩:=k.rel;exact⟨D,⟨L,e,a.e h D (gR k.hw g)⟩,k.d.take g _,k.le⟩
def K7{c p k:Nat}{r:pj Unit}(h:iO w2 k c p)(g:Fr E.bs w w2)(e:w2.heap[bF]?=H (.deferred (H [])))(d:zq w.heap<=bF)(a:r=.stop c p):iW E f n w r uV (qi k) (w2.putObj bF (.deferred F)):=by subst a;exact⟨k,D,Dh e D h,g.take d _⟩
def Z9(h:fk E L X w)(x:fW)(q:X.dO x=C):dS 181 #[gU E.A 189,oV L.K x] w λe P=>e=pG/\RF E L.K {X with B:=X.B.erase x} P/\Fr E.bs w P/\Z (E.A::L.L.ownBlock.toList) w P:=by
 have⟨Co,hL,hC⟩:=h.I0;refine(An E.bs E.A 189 _ Co _ _ _ w hL h.Dd (h.dO q)).mono ?_;rintro e P⟨rfl,d⟩;have⟨_,_,hk,_⟩:=id d;obtain⟨g,k,l,p⟩:=h.GG hL hC (by rw[<-vB h.inj];exact d) λy u=>h.wf.B y (wJ u);exact⟨D,⟨g,k,l⟩,p,hk⟩
theorem alD(h:RF E f X w)(j:Nat){ej:mh}(ad:X.h j=H ej)(y:Pt j X≠ .stuck):Calls prog 278 #[Bp E,nV f j] w (iW E f (ln X.d) w (Pt j X) uV):=by
 have t:=At.start h;obtain⟨L,rfl,Q⟩:=h;refine(AU (n:=9)).1 ?_;refine AV func278 D trivial ?_ D;simp only[ntmps278,wL,uJ,uY,Nat.reduceAdd,Nat.reduceSub,wM,wN,wO,wP,tA,tf];obtain⟨w1,a3⟩:∃w1,w1=((w.alloc (dr #[nV L.K j] 68)).alloc (dr #[.pointer F] 68)).alloc (dr #[G 0] 3):=⟨_,D⟩;have a9:Z [] w w1:=by rw[a3];exact(((Z.refl _ _).alloc _).alloc _).alloc _
 have⟨B0,B1,B2⟩:=oH w (dr #[nV L.K j] 68) (dr #[.pointer F] 68) (dr #[G 0] 3);rw[<-a3]at B0 B1 B2;have u:zq w1.heap=zq w.heap+1+1+1:=by rw[a3];simp
 have ai:=Q.h a9;have aA:=Q.lt;have az:=Q.W;have HB:=JQ E.A w1;have ah:=(λ(W:J) (hk:Z [] w W) (i:Nat) (e:mh) (hi:X.h i=H e)=>(by show Calls prog 321 #[dq (L.K i),dq (L.K j)] W (vc W (.bool (X.z i j)));have⟨h1,s,n⟩:=(Q.h hk).B i _ (N.eH hi);have⟨g1,g2,g3⟩:=(Q.h hk).B j _ (N.eH ad);refine(aaY _ _ _ _ _ _ _ _ _ _ _ _ W h1.dP g1.dP s g2 n g3).mono ?_;rintro e P⟨rfl,hk⟩;refine⟨?_,hk⟩;unfold N.z;rw[hi,ad];rfl))
 have ak:=(λ(W:J) (hk:Z [] w W)=>Q.h hk);have HA:=(λ(i:Nat) (hi:H i∈X.B)=>Q.wf.B (H i) hi);have HO:=(λg (hg:L.L.ownBlock=H g)=>(Q.S.lt g hg).2);have S:=V u;have HW:=V a3;have HS:=y;clear u a3
 gi_wp2_with fail
 rw[<-HW.out];refine(callsIn_wide.2 HB).mono ?_;rintro e P⟨rfl,rfl⟩;gi_wp2;refine ZJ (by omega) ai D [zq w.heap+1,zq w.heap+1+1] ?_
  (λpre W=>Z [] w W/\W.heap[zq w.heap]?=H (dr #[nV L.K j] 68)/\W.heap[zq w.heap+1]?=H (dr #[oV L.K (pre.foldl (X.k j) (F,0)).1] 68)/\W.heap[zq w.heap+1+1]?=H (dr #[G ((pre.foldl (X.k j) (F,0)).2)] 3))
  (λ_ _ _=>False)
  ?_ ?_ ?_ (λx=>{tmps:=#[Bp E,nV L.K j,qu,dq w.heap.size,dq (zq w.heap+1),dq (zq w.heap+1+1),jl (H x),Bp E,NJ w1.heap.size,jl (H x),qu,qu,qu,qu,qu,qu,qu,qu,qu,qu,qu,qu,qu,qu,qu,qu],defers:=[]}) ?assign ?body ?done ?stop
 grind;rintro pre A B row⟨h1,s,n,v⟩ hg Q;have u:=S.out;exact⟨km h1 hg Q (by omega),jd s hg Q (by omega),jd n hg Q (by omega),jd v hg Q (by omega)⟩;rintro c pre A B row h _ _;exact h;have hk:Z [] w1 (w1.alloc (dr #[Bp E] 119)):=(Z.refl _ _).alloc _;exact⟨a9.trans hk,hk.at B0 (by simp),hk.at B1 (by simp),hk.at B2 (by simp)⟩
 case assign=>
  intro l x W o hK;gi_wp2;exact hK
 case body=>
  rintro l pre i W hi⟨HK,B3,B4,B5⟩ aw;have ay:(pre.foldl (X.k j) (F,0)).2<=4096:=by have:=K4 X j pre (F,0);simp at this;omega
  have a5:=HA i hi;obtain⟨e0,au⟩:∃e0,X.h i=H e0:=dh.1 a5;have aK:=ah W HK i e0 au;have c1:=aF B3 0;dsimp at c1;have a4:=V (show(pre++[i]).foldl (X.k j) (F,0)=X.k j (pre.foldl (X.k j) (F,0)) i by simp);rw[show jl (H (L.K i))=dq (L.K i)from D];generalize pre.foldl (X.k j) (F,0)=c at *
  gi_wp2_with fail
  refine(uK l (callsIn_wide.2 aK)).mono ?_;rintro e W3⟨rfl,a0⟩;have G3:=a0.at B3 (by simp);have T:=a0.at B4 (by simp);have Y:=a0.at B5 (by simp);have d4:=aF T 0;have d5:=aF Y 0;have f4:=cY T 0;have f5:=cY Y 0;dsimp at d4 d5;have aa:=HK.trans a0;have ab:=a0.mono (S':=[zq w.heap+1,zq w.heap+1+1]) (by simp);cases I:X.z i j with
  |true=>
   have aI:=V (show X.k j c i=(H i,c.2+1) by unfold N.k;rw[I];rfl);gi_wp2;have k6:Z [zq w.heap+1,zq w.heap+1+1] W3 ((W3.setCell ⟨zq w.heap+1,0,F⟩ (dq (L.K i))).setCell ⟨zq w.heap+1+1,0,F⟩ (G ((c.2:Int)+1))):=((Z.refl _ W3).setCell (.inl (by simp)) _).setCell (.inl (by simp)) _;refine⟨ab.trans k6,((aa.setCell (.inr (by simp)) _).setCell (.inr (by simp;omega)) _),k6.at G3 (by simp;omega),?_,?_⟩;rw[a4.out,aI.out];exact(dE _ _ _ _ (by simp)).trans (bH T 0 _);rw[a4.out,aI.out];exact bH ((dE _ _ _ _ (by simp)).trans Y) 0 _
  |false=>
   have aI:=V (show X.k j c i=c by unfold N.k;rw[I];rfl);gi_wp2;exact⟨ab,aa,G3,by rw[a4.out,aI.out];exact T,by rw[a4.out,aI.out];exact Y⟩
 case done=>
  rintro bF W HD⟨ac,a8,n,v⟩ m;rw[<-Ap]at n v;have aE:(X.u j X.B.reverse (F,0)).2<=4096:=by rw[Ap];have a1:=K4 X j (Bv X.B.reverse) (F,0);have a2:=Yf X.B.reverse;simp at a1 a2;omega
  obtain⟨R,z⟩:∃R,R=Pt j X:=⟨_,D⟩;have y:=HS;rw[<-z]at y;have U:R=if 3<=(X.u j X.B.reverse (F,0)).2 then (iP (X.u j X.B.reverse (F,0)).1>>=λ_=>(gN (H j)>>=λ_=>(aG ():M Unit))) X else (gN (H j)>>=λ_=>(aG ():M Unit)) X:=z
  generalize X.u j X.B.reverse (F,0)=c at *;have c1:=aF a8 0;have c2:=aF n 0;have c3:=aF v 0;dsimp at c1 c2 c3;replace t:=t.k0 ac;replace HS:=y;by_cases n:3<=c.2
  .rw[dw n]at U;have O:=V U;clear U;have a5:X.dO c.1=C:=by
    cases I:X.dO c.1 with
    |true=>rfl
    |false=>
     refine absurd ?_ HS;rw[O.out,M.cW];unfold iP;rw[I];rfl
   have aj:Hid (R=(gN (H j)>>=λ_=>(aG ():M Unit)) {X with B:=X.B.erase c.1}):=by refine V ?_;rw[O.out,M.cW];unfold iP;rw[a5];rfl
   have ae:=Z9 (ak _ ac.drew) c.1 a5;have aB:=t.lt
   gi_wp2_with fail
   refine wpIn_wide.2 ?_;rename_i o ar _;refine wp_mono (Q:=Exit.then (λa K=>∃d e b,a={tmps:=#[Bp E,nV L.K j,qu,dq w.heap.size,dq (zq w.heap+1),dq (zq w.heap+1+1),qu,Bp E,NJ w1.heap.size,qu,qu,qu,qu,qu,qu,qu,G c.2,b,Bp E,d,gU E.A 189,oV L.K c.1,e,qu,qu,qu],defers:=[{target:=Target.collected bF,args:=#[]}]}/\At E L.K (ln X.d) w L.K {X with B:=X.B.erase c.1} K/\Fr E.bs W K/\Z (E.A::L.L.ownBlock.toList) W K) (λ_ _ _=>False)) ?_ ?_
   .go_region_with (go_at_call 181;refine ae.mono ?_;rintro e w5⟨rfl,q2,q3,q4⟩;have al:=V ((t.k0 ((Z.refl _ W).drew)).to q2 (rO _ _ D) q3);have af:=V q3;have ag:=V (((Z.refl _ W).drew).trans q4);clear q2 q3 q4)
    all_goals exact⟨_,_,_,D,al.out,(Fr.h ((Z.refl _ W).drew)).trans af.out,ag.out⟩
   .intro e a K I;cases e with
    |normal=>
     obtain⟨d,e,b,rfl,an,ap,aq⟩:=I;have b2:K.heap[zq w.heap]?=H (dr #[nV L.K j] 68):=by refine aq.at a8 λhm=>?_;rcases bZ.1 hm with hm|hm;omega;grind
     have c1:=aF b2 0;dsimp at c1;have k:=Fr.other (o:=.deferred (H [])) ap m D;replace t:=an;replace m:=k;replace O:=aj;refine ar _ _ ?_
     gi_wp2_with fail
     refine callsIn_wide.2 ?_;refine aeb (λy=>Cl E (H j) _ _ _ t.rel y) t O.out HS ?_ ?_;intro c p q ws h1 s n v;have k:=Fr.other (o:=.deferred (H [])) v m D;refine⟨by simp,.inl ⟨_,_,D,ru k,?_⟩⟩;have u:=S.out;have hD:=HD;exact K7 s n k (by omega) (z.symm.trans h1)
     .rintro a av w2 a6 s a7;have k:=Fr.other (o:=.deferred (H [])) s m D;have r:=k;gi_wp2;refine⟨by simp,.inl ⟨_,_,D,ru r,?_⟩⟩;have u:=S.out;have hD:=HD;refine⟨.tuple #[],?_,TP a6 r (by omega) (z.symm.trans a7)⟩;simp[results,results278,go_sem]
    |_=>exact I.elim
  .rw[di n]at U;have O:=V U;clear U
   gi_wp2_with fail
   refine callsIn_wide.2 ?_;refine aeb (λy=>Cl E (H j) _ _ _ t.rel y) t O.out HS ?_ ?_;intro c p q ws h1 s n v;have k:=Fr.other (o:=.deferred (H [])) v m D;refine⟨by simp,.inl ⟨_,_,D,ru k,?_⟩⟩;have u:=S.out;have hD:=HD;exact K7 s n k (by omega) (z.symm.trans h1)
   .rintro a av w2 a6 s a7;have k:=Fr.other (o:=.deferred (H [])) s m D;have r:=k;gi_wp2;refine⟨by simp,.inl ⟨_,_,D,ru r,?_⟩⟩;have u:=S.out;have hD:=HD;refine⟨.tuple #[],?_,TP a6 r (by omega) (z.symm.trans a7)⟩;simp[results,results278,go_sem]
 case stop=>rintro bF c pre W hD ax h;exact h.elim
end
def Et(X:N)(x:fW)(d:Nat):∀e:iU,({X with j:=x}:N).nF d e=X.nF d e
 |[]=>rfl
 |y::r=>by unfold N.nF;rw[Et X x d r];rfl
def Np(E:fS)(t:dj)(b:gz E t):qU E t 193 (qg t):=by
 refine dI λf X w R h HS a1=>?_;unfold qg at h;go_enter func193,ntmps193;have⟨kb,lbb,cb,HQ⟩:=a1.rel.bounds;have z:=a1.lt;have x:=cb;have U:=(Z.refl [] w).drew;go_wp21
 go_cut [11]from 4 to 10 (λr wc=>r=.bool (X.gH (cZ [eu]) (eP))/\At E f (ln X.d) w f (X.close (cZ [eu]) (eP)) wc)
 case first=>
  go_region_with (first
   |(go_at_call 219;refine(lG E [eu] w.drew (by simp)).mono ?_;rintro e w1⟨k1,a0,rfl,k,l⟩;have g:=U.trans l;have c1:w1.cell? ⟨E.A,186,F⟩=H (.func (.func kb) #[] lbb):=(g.cell (p:=⟨E.A,186,F⟩) z (by simp)).trans x;have u:=V k;have d:=V g;clear k l g)
   |(go_at_call 222;refine(DX (p:=cZ [eu]) (q:=eP) (a1.k0 d).rel u (HQ.k0 d)).mono ?_;rintro e w2⟨rfl,K,P⟩;have a:=V ((a1.k0 d).to K (xU _ _ _) P);clear K P))
  all_goals (try (go_wp21))
  all_goals (go_meet;exact⟨D,a⟩)
 case rest=>
  obtain⟨rfl,y⟩:=hcut;replace a1:=y;replace h:Hid (R=(jB t>>=λ_=>(pure ():M Unit)) (X.close (cZ [eu]) eP)):=by have:=h;rw[M.cW,tG]at this;exact V this
  go_wp21;refine dC (qG E (eK E) t b) a1 h HS D lT ?_;rintro(_) f X w a1 i c h;go_wp2;go_end0;exact cF h a1 D
def SP(E:fS)(t:dj):qU E t 212 (rX):=by
 refine dI λf X w R d HS a1=>?_;unfold rX at d;go_enter func212,ntmps212;have⟨kb,lbb,cb,HQ⟩:=a1.rel.bounds;have z:=a1.lt;have l:=cb;have P:=(Z.refl [] w).drew;go_wp21
 go_cut [11]from 4 to 10 (λr wc=>r=.bool (X.gH (cZ [dR]) (eP))/\At E f (ln X.d) w f (X.close (cZ [dR]) (eP)) wc)
 case first=>
  go_region_with (first
   |(go_at_call 219;refine(lG E [dR] w.drew (by simp)).mono ?_;rintro e w1⟨k1,a0,rfl,u,y⟩;have k:=P.trans y;have c1:w1.cell? ⟨E.A,186,F⟩=H (.func (.func kb) #[] lbb):=(k.cell (p:=⟨E.A,186,F⟩) z (by simp)).trans l;have K:=V u;have h:=V k;clear u y k)
   |(go_at_call 222;refine(DX (p:=cZ [dR]) (q:=eP) (a1.k0 h.out).rel K.out (HQ.k0 h.out)).mono ?_;rintro e w2⟨rfl,U,b⟩;have c:=V ((a1.k0 h.out).to U (xU _ _ _) b);clear U b))
  all_goals (try (go_wp21))
  all_goals (go_meet;exact⟨D,c.out⟩)
 case rest=>
  obtain⟨rfl,x⟩:=hcut;replace a1:=x;clear x HQ l P cb z;have g:=d.out;rw[M.cW,tG]at g;simp only at g;cases hc:X.gH (cZ [dR]) eP with
  |true=>
   rw[hc]at g;replace d:Hid (R=(xJ>>=λa=>(pure a:M Unit)) (X.close (cZ [dR]) eP)):=V (M.tail (by simpa using g));clear hc g;go_wp21;refine mC (U7 E) a1 d HS D lT ?_;clear a1 d;rintro(_) X w a1 i d;go_wp2;go_end0;exact cF d.out a1 D
  |false=>
   rw[hc]at g;replace d:Hid (R=.ok () (X.close (cZ [dR]) eP)):=V (show R=(pure ():M Unit) (X.close (cZ [dR]) eP)from by simpa using g);clear hc g;go_wp2;go_end0;exact cF d.out a1 D
def aaC(E:fS)(t:dj):qU E t 210 xf:=by
 refine dI λf X w R d HS K=>?_;unfold xf at d;go_enter func210,ntmps210;have k:=K.VS;have y:=K.free 191;have hl:=K.lt;cases hf:X.j with
 |none=>
  rw[hf]at k d;replace d:Hid (R=.ok () X):=d;rw[show oV f F=.pointer F from D]at k;have q:=K.uG F D;rw[show({X with j:=F}:N)=X from by rw[<-hf]]at q;replace K:=q;go_wp2;go_end0;exact cF d K D
 |some i=>
  have u:X.dO X.j=C:=by have⟨L,_,Q⟩:=K.rel;exact Q.wf.j
  rw[hf]at k d u;rw[show oV f (H i)=dq (f i)from D]at k;replace K:=K.uG F D;have z:=H8 K.rel i u;have h:({X with j:=F}:N).nD i=X.nD i:=Et X F i _;rw[h]at z;cases hc:X.nD i with
  |true=>
   rw[hc]at z;have l:=V z;have g:=d;simp only[hc,Cg]at g;replace d:Hid (R=(oc (λX=>X.kM)>>=λ_=>(do iH (H i);return ():M Unit)) {X with j:=F}):=V g;clear z g;go_wp21;refine l.mono ?_;rintro e w⟨rfl,p⟩;replace K:=K.k0 p;go_wp21;refine As (λ_=>M2 K.rel) K d HS lT ?_;rintro(_) X w K x d;go_wp21;refine mC (EQ E (H i)) K d HS D lT ?_;rintro(_) X w K x d;go_wp2;go_end0;exact cF d K D
  |false=>
   rw[hc]at z;have l:=V z;have g:=d;simp only[hc,uS,AO]at g;replace d:Hid (R=.ok () {X with j:=F}):=V g;clear z g;go_wp21;refine l.mono ?_;rintro e w⟨rfl,p⟩;replace K:=K.k0 p;go_wp2;go_end0;exact cF d K D
attribute [local go_sem] db
theorem RF.wf(h:RF E f X w):Wf X:=by have⟨L,_,Q⟩:=h;exact Q.wf
theorem A9{T:iU}{n:Int}(h:dT T n=H i):H i∈T:=by grind[dT]
def Wf.g(h:Wf X)(a:X.last=H i):∃e,X.h i=H e:=by exact dh.1 (h.A _ (A9 a))
theorem aa1{d:Type}{R:pj d}{K:Nat->M d}(e:R=(Ib>>=K) X)(g:R≠ .stuck):∃i,X.last=H i/\R=K i X:=by grind[M.cW,Ib]
def mJ(E:fS)(t:dj)(k:gz E t):qU E t 200 (fj t):=by refine dI λf X w R d HS q=>?_;go_enter func200,ntmps200;go_wp21;refine dC (qG E (eK E) t k) q d HS D lT ?_;rintro(_) f X w q l g d;have⟨i,hi,hR2⟩:=aa1 d HS;have⟨e,he⟩:=q.rel.wf.g hi;replace d:=V hR2;clear hR2;go_wp21;refine q.rel.A.mono ?_;rintro e p⟨rfl,rfl⟩;go_wp21;refine As (λh=>(alD q.rel i he h)) q d HS lT ?_;rintro(_) X w q g d;go_wp2;go_end0;exact cF d q D
attribute [local go_sem] db
theorem zJ(E:fS)(t:dj):qU E t 145 fX:=by
 intro f X w h y;obtain⟨R,o⟩:∃R,R=fX X:=⟨_,D⟩;rw[<-o]at y|-;have HS:=V y;have a:=V h;have a3:=V (λW (hk:Z [] w W)=>kQ h.lt hk.size);cases hcu:X.gV (cZ [dJ])with
 |false=>
  have p:=V (show R=(oA (cZ [cD])>>=λ_=>(aG ():M Unit)) X by rw[o];grind[fX]);have a0:=V hcu;clear h y o hcu;go_enter func145,ntmps145;go_wp21;refine xr (by rfl) ?_;refine oW (λ(g:dB) z=>⟨#[Bp E,kP E t,qu,qu,cd z 0 (Bp E),cd z 1 (g),cd z 2 (.bool I),cd z 3 (.bool I),qu,qu,qu,qu,qu,qu,qu,qu,qu,qu,qu,qu,qu,cd z 17 (.bool I),qu,qu,qu,qu,qu,qu,qu],[]⟩) (λg z W=>Z [] w W/\(dn z 1=C->R3 E g (cZ [dJ]) W)) 18 [[],[],[0,1],[2],[3],[3],[3],[3],[3],[3],[3],[3],[3],[3],[3],[3],[3],[3]] (qu) D (by rfl) (⟨(Z.refl _ _).drew,λh=>by cases h⟩) ?_ ?_
  .repeat' first|exact kY|refine kX ?_ ?_
   all_goals
    rintro g z W d c S;simp[Cm]at c;refine lz D ?_;intro B l;simp only[kJ,c];have ab:=a3.out W d.1;go_simp
    first
    |refine l _ _ ⟨g,?_,d.1,oi d.2 (by decide)⟩
    |refine(tQ E W).mono ?_;rintro e n⟨k,lb,rfl,ha,x⟩;refine l _ _ ⟨_,?_,d.1.trans x,λ_=>⟨k,lb,D,ha⟩⟩
    |refine(A0 (a.out.h d.1) (d.2 c.2.1).choose_spec.choose_spec.2).mono ?_;rintro e n⟨rfl,rfl⟩;rw[a0.out];refine l _ _ ⟨g,?_,d.1,oi d.2 (by decide)⟩
    simp[pA,wY,kJ,c]
  .rintro g W d;simp only[xw];have m:=V ((At.start a.out).k0 d.1);clear d;go_wp21;refine(qB E _).mono ?_;rintro e w1⟨k1,A,rfl,q,u⟩;replace m:=V (m.out.k0 u);have K:=V q;clear q u;go_wp21;refine As (λ_=>vp m.out.rel K.out) m p HS lT ?_;clear m p;rintro(_) X w m r p;go_wp2;go_end0;exact cF p.out m.out D
 |true=>
  obtain⟨i,a2⟩:∃i,dT X.A (jf X.A X.last-1)=H i:=by
   cases hq:dT X.A (jf X.A X.last-1)with
   |some i=>simp
   |none=>unfold fX at o;grind
  have s:=V (show R=(if fG (X.nm i) cD then (do
    let _ <-wU
    oA (cZ [cD])
    return ():M Unit) X else (do oA (cZ [cD]);return ():M Unit) X) by rw[o];grind[fX])
  have v:H i∈X.A:=A9 a2;obtain⟨ei,a1⟩:∃e,X.h i=H e:=dh.1 (h.wf.A _ v);have U:X.dO X.last=C:=by
   cases hl:X.last with
   |none=>rfl
   |some j=>exact N.vm (h.wf.A _ (A9 hl))
  have J:=V U;have G:=V a2;have aI:=V (λW (hk:Z [] w W)=>(by have⟨L,e,Q⟩:=h.h hk;rw[<-e];exact Q.uR a1:W.cell? ⟨f i,0,F⟩=H (Y (X.nm i))))
  have O:=V (λW (hk:Z [] w W)=>(by have⟨L,e,Q⟩:=h.h hk;rw[<-e];exact Q.JO (N.n a1):f i<zq W.heap))
  have a0:=V hcu;clear h y o hcu a2 v a1 U;go_enter func145,ntmps145;go_wp21;refine xr (by rfl) ?_;refine oW (λ(g:dB×dB) z=>⟨#[Bp E,kP E t,qu,qu,cd z 0 (Bp E),cd z 1 (g.1),cd z 2 (.bool C),cd z 3 (.bool C),cd z 4 (g.2),cd z 5 (Bp E),cd z 6 (dq E.A),cd z 7 (gU E.A 188),cd z 8 (Bp E),cd z 9 (dq E.A),cd z 10 (gU E.A 188),cd z 11 (oV f X.last),cd z 12 (nV f i),cd z 13 (dq (f i)),cd z 14 (dq (f i)),cd z 15 (Y (X.nm i)),cd z 16 (.bool (cZ [cD] (X.nm i))),cd z 17 (.bool (cZ [cD] (X.nm i))),qu,qu,qu,qu,qu,qu,qu],[]⟩) (λg z W=>Z [] w W/\(dn z 1=C->R3 E g.1 (cZ [dJ]) W)/\(dn z 4=C->R3 E g.2 (cZ [cD]) W)) 18 [[],[],[0,1],[2],[3],[3],[3,5],[3,6],[3],[3,8],[3,9],[3,10],[3,7,11],[3,12],[3,13],[3,14],[3,4,15],[3,16]] ((qu,qu)) D (by rfl) (⟨(Z.refl _ _).drew,λh=>(by cases h),λh=>(by cases h)⟩) ?_ ?_
  .repeat' first|exact kY|refine kX ?_ ?_
   all_goals
    rintro g z W d c S;simp[Cm]at c;refine lz D ?_;intro B l;simp only[kJ,c];have ab:=a3.out W d.1;have T:=O.out W d.1;have cc:=aI.out W d.1;go_simp
    first
    |refine l _ _ ⟨g,?_,d.1,oi d.2.1 (by decide),oi d.2.2 (by decide)⟩
    |refine(tQ E W).mono ?_;rintro e n⟨k,lb,rfl,ha,x⟩;refine l _ _ ⟨(.func (.func k) #[] lb,g.2),?_,d.1.trans x,λ_=>⟨k,lb,D,ha⟩,oi (λh=>(d.2.2 h).k x) (by decide)⟩
    |refine(qB E W).mono ?_;rintro e n⟨k,lb,rfl,ha,x⟩;refine l _ _ ⟨(g.1,.func (.func k) #[] lb),?_,d.1.trans x,oi (λh=>(d.2.1 h).k x) (by decide),λ_=>⟨k,lb,D,ha⟩⟩
    |refine(A0 (a.out.h d.1) (d.2.1 c.2.1).choose_spec.choose_spec.2).mono ?_;rintro e n⟨rfl,rfl⟩;rw[a0.out];refine l _ _ ⟨g,?_,d.1,oi d.2.1 (by decide),oi d.2.2 (by decide)⟩
    |refine(a.out.h d.1).A.mono ?_;rintro e n⟨rfl,rfl⟩;refine l _ _ ⟨g,?_,d.1,oi d.2.1 (by decide),oi d.2.2 (by decide)⟩
    |refine((show Calls prog 240 #[gU E.A 188,oV f X.last] W λe P=>e=ff (oV f (dT X.A (jf X.A X.last-1)))/\P=W by obtain⟨L,rfl,Q⟩:=(a.out.h d.1);exact yX Q X.last J.out)).mono ?_;rintro e n⟨rfl,rfl⟩;rw[G.out,show oV f (H i)=nV f i from D];refine l _ _ ⟨g,?_,d.1,oi d.2.1 (by decide),oi d.2.2 (by decide)⟩
    |have⟨k,lb,e4,ha⟩:=d.2.2 (by simp[c]);rw[e4]at ha;have⟨k2,lb2,e5,eg,hcl⟩:=ha.call;cases e5;simp only[e4];go_simp;refine(hcl W (yD.refl _ _) _).mono ?_;rintro e n⟨rfl,rfl⟩;refine l _ _ ⟨g,?_,d.1,oi d.2.1 (by decide),oi d.2.2 (by decide)⟩;simp[wY,pA,kJ,c,e4]
    all_goals simp[pA,wY,kJ,c]
  .rintro g W d;simp only[xw];have m:=V ((At.start a.out).k0 d.1);clear d;cases hq:cZ [cD] (X.nm i)with
   |false=>
    have b:fG (X.nm i) cD=I:=by simpa [cZ]using hq
    replace p:=V (show R=(oA (cZ [cD])>>=λ_=>(aG ():M Unit)) X by rw[s.out,b];rfl);clear hq b;go_wp21;refine(qB E _).mono ?_;rintro e w1⟨k1,A,rfl,q,u⟩;replace m:=V (m.out.k0 u);have K:=V q;clear q u;go_wp21;refine As (λ_=>vp m.out.rel K.out) m p HS lT ?_;clear m p;rintro(_) X w m r p;go_wp2;go_end0;exact cF p.out m.out D
   |true=>
    have b:fG (X.nm i) cD=C:=by simpa [cZ]using hq
    replace p:=V (show R=(wU>>=λ_=>oA (cZ [cD])>>=λ_=>(aG ():M Unit)) X by rw[s.out,b];rfl);clear hq b;have ad:=m.out.lt;go_wp21;refine mC (Vv E) m p HS D lT ?_;clear m p;rintro(_) X w m r p;go_wp21;refine(qB E _).mono ?_;rintro e w1⟨k1,A,rfl,q,u⟩;replace m:=V (m.out.k0 u);have K:=V q;clear q u;go_wp21;refine As (λ_=>vp m.out.rel K.out) m p HS lT ?_;clear m p;rintro(_) X w m r p;go_wp2;go_end0;exact cF p.out m.out D
attribute [local go_sem] db
def Za(E:fS)(h:RF E f X W)(s:O)(c:Bool)(k:Nat)(hb:W.heap[k]?=H (dr #[Y s] (if c then 235 else 239)))(a0:∀i,i<ln X.d->f i<k)(a:E.bs<=k)(pl:Nat×Nat)(l:kZ pl (if c then .cm s else .dt s) (if c then Nd.cm else Nd.dt) X=.ok () U):dS 169 #[pV f pl,((if c then Nd.cm else Nd.dt) k).val] W λe K=>e=pG/\∃g,Vn (ln X.d) f g/\(ln X.d)<=ln U.d/\RF E g U K/\Fr E.bs W K:=by
 obtain⟨L,rfl,Q⟩:=h;obtain⟨p,q⟩:∃p:zE,p=if c then .cm s else .dt s:=⟨_,D⟩
 obtain⟨y,d⟩:∃y:Nat->Nd,y=if c then Nd.cm else Nd.dt:=⟨_,D⟩
 rw[<-q,<-d]at l;rw[<-d];have x:∀e,p≠ .el e:=by intro e;rw[q];cases c<;>simp
 have m:∀i j,y i≠ .el j:=by intro i j;rw[d];cases c<;>simp
 have a1:fk E (L.new (ln X.d) k (gq) (gq)) (X.add p) W:=by
  refine Q.aiz p k (gq) (gq) X.E (Z.refl _ _) a0 a ?_ D (λe t=>absurd t (x e)) (λ_ _ _ _ _ u=>by cases u) (λ_ _ _ _ _ _ u=>by cases u) (λ_=>D) (λhf=>⟨hf,λ_ _=>by simp[dl]⟩) (λ_ u=>by cases u);rw[q];cases c with
  |true=>show _=_;rw[pi.d];exact hb
  |false=>show _=_;rw[pi.d];exact hb
 unfold kZ wB at l;cases hi:(X.add p).h pl.1 with
 |none=>rw[hi]at l;cases l
 |some ei=>
  rw[hi]at l;dsimp only at l;split at l;rename_i P;cases l;have b:pl.1<ln X.d:=by
   have u:=N.n hi;have v:ln (X.add p).d=ln X.d+1:=by simp[N.add]
   rcases qp pl.1 (ln X.d) with h|h;exact h;have e1:pl.1=ln X.d:=by omega
   rw[e1,N.ng]at hi;cases hx:p with
   |el e=>exact absurd hx (x e)
   |tx s=>rw[hx]at hi;cases hi
   |cm s=>rw[hx]at hi;cases hi
   |dt s=>rw[hx]at hi;cases hi
  have a2:=L6 a1 hi P.1 (m _) P.2.1 P.2.2;have e1:place ((L.new (ln X.d) k (gq) (gq)).K pl.1) pl.2=pV L.K pl:=by rw[pi.h b]
  have e2:(Nd.map (L.new (ln X.d) k (gq) (gq)).K (y (ln X.d)))=y k:=by have z:(L.new (ln X.d) k (gq) (gq)).K (ln X.d)=k:=pi.d;rw[d];cases c;show Nd.dt _=Nd.dt k;rw[z];show Nd.cm _=Nd.cm k;rw[z]
  rw[e1,e2]at a2;refine a2.mono ?_;rintro e K⟨rfl,n,z,_,r,o,_⟩;refine⟨D,n.K,λi hi=>?_,?_,⟨n,D,r⟩,o⟩;rw[z];exact pi.h hi;rw[N.gP];simp[N.add];cases l
structure DH(E:fS)(pf:Nat)(own:Bool)(pm:M (Nat×Nat)):Prop where
 A:∀args w,(callFunc pf args).run prog w=.ok (.enter pf args) w
 same:∀σ pl σ1,pm σ=.ok pl σ1->σ1=σ
 K:∀σ c p,pm σ≠ .stop c p
 B:∀f σ w,RF E f σ w->pm σ≠ .stuck->dS pf #[fc (if own then E.A else f 0)] w (iW E f (ln σ.d) w (pm σ) pV)
def iq(e:M (Nat×Nat))(t:dj):M Unit:=match t.k with
 | .dz s=>do
  let d <-e
  kZ d (.cm s) .cm
  return ()
 |_=>return ()
def zr(E:fS)(f:Nat->Nat)(X:N)(T:TypeId)(s:O)(v:dB)(W:J):Prop:=∃k,v=dq k/\W.heap[k]?=H (dr #[Y s] T)/\(∀i,i<ln X.d->f i<k)/\E.bs<=k
theorem zr.d(h:zr E f X 235 s v W)(d:Fr E.bs W K):zr E f X 235 s v K:=by have⟨k,e,h1,h2⟩:=h;exact⟨k,e,d.d h1 (by decide),h2⟩
theorem zr.new{T:TypeId}(h:RF E f X W)(s:O):zr E f X T s (dq W.heap.size) (W.alloc (dr #[Y s] T)):=by obtain⟨L,rfl,Q⟩:=h;exact⟨_,D,aY W _,λi hi=>Q.JO hi,Q.bw⟩
theorem We(E:fS)(aI:Nat)(own:Bool)(j:M (Nat×Nat))(r:DH E aI own j)(t:dj)(b1:Nat)(h:RF E f X w)(y:iq j t X≠ .stuck)(n:box w b1 (.func (.func aI) #[fc (if own then E.A else f 0)] #[]) 208):dS 168 #[kP E t,fc b1] w (Leaves E f (ln X.d) w (iq j t X) uV):=by
 have o:=V (At.start h);have⟨a,b,k,bY⟩:=t;cases k with
 |dz s=>
  have hx:∃l U,j X=.ok l X/\kZ l (.cm s) .cm X=.ok () U/\iq j ⟨a,b,.dz s,bY⟩ X=.ok () U:=by
   have A:iq j ⟨a,b,.dz s,bY⟩ X=(j>>=λl=>kZ l (.cm s) .cm>>=λ_=>(aG ():M Unit)) X:=rfl;rw[M.cW]at A;cases hq:j X with
   |ok l σ1=>
    obtain rfl:=r.same _ _ _ hq;rw[hq]at A;cases hq2:kZ l (.cm s) .cm σ1 with
    |ok u U=>exact⟨l,U,D,hq2,by rw[A];dsimp only;rw[M.cW,hq2];rfl⟩
    |stop c p=>
     exfalso;unfold kZ wB at hq2;grind
    |stuck=>exact absurd (by rw[A];dsimp only;rw[M.cW,hq2]) y
   |stop c p=>exact absurd hq (r.K _ _ _)
   |stuck=>grind
  have⟨l,U,hq1,hq2,hq3⟩:=hx;rw[hq3];have a0:=λW (hW:RF E f X W)=>r.B f X W hW (by grind);rw[hq1]at a0;have R:=r.A;simp only[kP];have d:=qj underlying196;obtain⟨K,m⟩:∃K,K=w.alloc (dr #[G a,G b,Y s] 196):=⟨_,D⟩;have k1:Z [] w K:=by rw[m];exact(Z.refl _ _).alloc _
  have a1:K.heap[zq w.heap]?=H (dr #[G a,G b,Y s] 196):=by rw[m];exact aY w _
  have P:=k1.at n (by simp);have HC:=V (λW (hF:Fr E.bs K W)=>(⟨by rw[aF (hF.d P (by decide))];rfl,by rw[aF (hF.d a1 (by decide))];rfl⟩:W.cell? ⟨b1,0,F⟩=H (.func (.func aI) #[fc (if own then E.A else f 0)] #[])/\W.cell? ⟨zq w.heap,2,F⟩=H (Y s)));have HW:=V m.symm;have HA:=V (o.out.k0 k1);have a4:=V a0;have a3:=V R;have a5:=V hq2;have HN:=V (λi (hi:i<ln X.d)=>(show f i<zq K.heap by have⟨L,e,Q⟩:=(o.out.k0 k1).rel;rw[<-e];exact Q.JO hi))
  have a7:=V (show E.bs<=zq K.heap by have⟨L,e,Q⟩:=(o.out.k0 k1).rel;exact Q.bw)
  clear h y n r hq1 hq2 hq3 a0 R a1 P k1 m o;go_enter func168,ntmps168;go_wp21;rw[HW.out];refine xr (by rfl) ?_;refine oW (λ(g:dB) z=>⟨#[.iface 196 (.agg #[G a,G b,Y s]),fc b1,qu,dq w.heap.size,.bool C,.tuple #[.agg #[G a,G b,Y s],.bool C],.iface 196 (.agg #[G a,G b,Y s]),.tuple #[.agg #[G a,G b,Y s],.bool C],.agg #[G a,G b,Y s],.bool C,.bool C,cd z 0 (.func (.func aI) #[fc (if own then E.A else f 0)] #[]),cd z 1 (pV f l),cd z 2 (gU w.heap.size 2),cd z 3 (Y s),cd z 4 (.agg #[Y s]),cd z 5 (g),cd z 6 (.iface 233 g),cd z 7 (.tuple #[])],[]⟩) (λg z W=>if dn z 7=C then (∃B,Vn (ln X.d) f B/\(ln X.d)<=ln U.d/\RF E B U W/\Fr E.bs K W)else (RF E f X W/\Fr E.bs K W/\(dn z 5=C->zr E f X 235 s g W))) 8 [[],[0],[],[2],[3],[4],[5],[0,1,2,3,4,5,6]] (qu) D (by rfl) (⟨HA.out.rel.h (Z.refl _ _).drew,Fr.h (Z.refl _ _).drew,λh=>by cases h⟩) ?_ ?_
  .repeat' first|exact kY|refine kX ?_ ?_
   all_goals
    rintro g z W O v hn;simp[Cm]at v;refine lz D ?_;intro K' x;simp only[kJ,v];have hb:dn z 7=I:=by simp[v,hn]
    have q:=(di (by simp[hb])).mp O;have⟨cc,c2⟩:=HC.out W q.2.1;have R:=a3.out;go_simp
    first
    |refine x _ _ ⟨g,?_,(di (by simp[jy,hb])).mpr ⟨q.1,q.2.1,oi q.2.2 (by decide)⟩⟩
    |refine(a4.out W q.1).mono ?_;rintro e W2⟨rfl,a6,a2,_⟩;refine x _ _ ⟨g,?_,(di (by simp[jy,hb])).mpr ⟨a6,q.2.1.trans a2,oi (λh=>(q.2.2 h).d a2) (by decide)⟩⟩
    |have ka:Z [] W (W.alloc (dr #[Y s] 235)):=(Z.refl _ _).alloc _;refine x _ _ ⟨_,?_,(di (by simp[jy,hb])).mpr ⟨q.1.h ka,q.2.1.trans (.h ka),λ_=>zr.new q.1 s⟩⟩;have h9:dn z 6=I:=(by simp[hn]);simp[pA,wY,kJ,aiC,v,h9]
    |obtain⟨k,rfl,k1,k2,k3⟩:=q.2.2 (by simp[v]);refine(Za E q.1 s C k k1 k2 k3 l a5.out).mono ?_;rintro e W2⟨rfl,B,S,T,J,N⟩;refine x _ _ ⟨dq k,?_,(dw nf).mpr ⟨B,S,T,J,q.2.1.trans N⟩⟩
    all_goals simp[pA,wY,kJ,v]
  .rintro g W O;have⟨f2,S,T,J,N⟩:=(dw tI).mp O;simp only[xw];have G3:=V J;have G4:=V (HA.out.d.trans N);clear O J N;go_wp2
   all_goals go_end0
   all_goals exact⟨f2,S,T,D,G3.out,G4.out⟩
 |_=>
  change Calls _ _ _ _ (Leaves E f _ w (.ok () X) uV);simp only[kP];have d:=yc;have a8:=V (o.out.k0 ((Z.refl [] w).alloc (dr #[G 0,G 0,Y iJ] 196)));clear h y n r o;go_enter func168,ntmps168;go_wp2;go_end0;exact cF D a8.out D
attribute [local go_sem] db
theorem I6(E:fS)(t:dj):qU E t 94 (kF t):=by
 intro f X w h y;have r:=V (At.start h);have⟨a,b,k,bY⟩:=t;cases k with
 |eG n q=>
  have hx:∃j U,fM 0 X=.ok j X/\kZ j (.dt n) .dt X=.ok () U/\kF ⟨a,b,.eG n q,bY⟩ X=.ok () {U with W:=q||!fG n aC,g:=1}:=by
   have A:kF ⟨a,b,.eG n q,bY⟩ X=(fM 0>>=λj=>kZ j (.dt n) .dt>>=λ_=>(do oc λX=>{X with W:=q||!fG n aC};iA 1;return ():M Unit)) X:=rfl;rw[M.cW]at A;cases hq:fM 0 X with
   |ok j σ1=>
    obtain rfl:=ol hq;rw[hq]at A;cases d:kZ j (.dt n) .dt σ1 with
    |ok u U=>exact⟨j,U,D,d,by rw[A];dsimp only;rw[M.cW,d];rfl⟩
    |stop c p=>
     exfalso;unfold kZ wB at d;grind
    |stuck=>exact absurd (by rw[A];dsimp only;rw[M.cW,d]) y
   |stop c p=>
    exfalso;unfold fM at hq;grind
   |stuck=>grind
  have⟨j,U,hq1,d,hq3⟩:=hx;obtain⟨R,Q⟩:∃R,R=kF ⟨a,b,.eG n q,bY⟩ X:=⟨_,D⟩;rw[<-Q];have l:=V (Q.trans hq3);have a0:=λW (hW:RF E f X W)=>Hk E 0 f X W hW (by grind);rw[hq1]at a0;simp only[kP];have x:=qj underlying198;obtain⟨i,P⟩:∃i,i=w.alloc (dr #[G a,G b,Y n,.bool q] 198):=⟨_,D⟩;have k1:Z [] w i:=by rw[P];exact(Z.refl _ _).alloc _
  have m:i.heap[zq w.heap]?=H (dr #[G a,G b,Y n,.bool q] 198):=by rw[P];exact aY w _
  have a4:=V m;have HC:=V (λW (T:Fr E.bs i W)=>(by rw[aF (T.d m (by decide))];rfl:W.cell? ⟨zq w.heap,2,F⟩=H (Y n)));have a1:=V (λW (hW:RF E f X W)=>(show W.cell? ⟨E.A,187,F⟩=H (nV f 0) by have h1:=(At.start hW).Ht;exact h1));have a5:=V (λW (T:Fr E.bs i W)=>(kQ (r.out.k0 k1).lt T.size:E.A<zq W.heap));have HW:=V P.symm;have HA:=V (r.out.k0 k1);have a6:=V a0;have a7:=V d;clear h y hq1 d hq3 a0 m k1 P r Q;go_enter func94,ntmps94;go_wp21;rw[HW.out];refine xr (by rfl) ?_;refine oW (λ(g:dB) z=>⟨#[Bp E,.iface 198 (.agg #[G a,G b,Y n,.bool q]),qu,qu,dq w.heap.size,.bool C,.tuple #[.agg #[G a,G b,Y n,.bool q],.bool C],.iface 198 (.agg #[G a,G b,Y n,.bool q]),.tuple #[.agg #[G a,G b,Y n,.bool q],.bool C],.agg #[G a,G b,Y n,.bool q],.bool C,.bool C,cd z 0 (Bp E),cd z 1 (dq E.A),cd z 2 (gU E.A 187),cd z 3 (nV f 0),cd z 4 (pV f j),cd z 5 (gU w.heap.size 2),cd z 6 (Y n),cd z 7 (.agg #[Y n]),cd z 8 (g),cd z 9 (.iface 237 g),cd z 10 (.tuple #[]),qu,qu,qu,qu,qu,qu,qu,qu,qu,qu,qu,qu,qu],[]⟩) (λg z W=>if dn z 10=C then (∃B,Vn (ln X.d) f B/\(ln X.d)<=ln U.d/\RF E B U W/\Fr E.bs i W)else (RF E f X W/\Fr E.bs i W/\(dn z 8=C->zr E f X 239 n g W))) 11 [[],[0],[1],[2],[3],[],[5],[6],[7],[8],[0,1,2,3,4,5,6,7,8,9]] (qu) D D (⟨HA.out.rel.h (Z.refl _ _).drew,Fr.h (Z.refl _ _).drew,λh=>by cases h⟩) ?_ ?_
  .repeat' first|exact kY|refine kX ?_ ?_
   all_goals
    rintro g z W L o hn;simp[Cm]at o;refine lz D ?_;intro K' K;simp only[kJ,o];have hb:dn z 10=I:=by simp[o,hn]
    have q:=(di (by simp[hb])).mp L;have aa:=a5.out W q.2.1;have cc:=a1.out W q.1;have c2:=HC.out W q.2.1;go_simp
    first
    |refine K _ _ ⟨g,?_,(di (by simp[jy,hb])).mpr ⟨q.1,q.2.1,oi q.2.2 (by decide)⟩⟩
    |refine(a6.out W q.1).mono ?_;rintro e W2⟨rfl,a9,a3,_⟩;refine K _ _ ⟨g,?_,(di (by simp[jy,hb])).mpr ⟨a9,q.2.1.trans a3,oi (λh=>(by have⟨k,e,h1,h2⟩:=(q.2.2 h);exact⟨k,e,a3.d h1 (by decide),h2⟩)) (by decide)⟩⟩
    |have ka:Z [] W (W.alloc (dr #[Y n] 239)):=(Z.refl _ _).alloc _;refine K _ _ ⟨_,?_,(di (by simp[jy,hb])).mpr ⟨q.1.h ka,q.2.1.trans (.h ka),λ_=>zr.new q.1 n⟩⟩;have h9:dn z 9=I:=(by simp[hn]);simp[pA,wY,kJ,aiC,o,h9]
    |obtain⟨k,rfl,k1,k2,k3⟩:=q.2.2 (by simp[o]);refine(Za E q.1 n I k k1 k2 k3 j a7.out).mono ?_;rintro e W2⟨rfl,B,aI,S,J,v⟩;refine K _ _ ⟨dq k,?_,(dw nf).mpr ⟨B,aI,S,J,q.2.1.trans v⟩⟩
    all_goals simp[pA,wY,kJ,o]
  .rintro g W L;have⟨f2,aI,S,J,v⟩:=(dw tI).mp L;simp only[xw];have ab:=V (HA.out.go J aI S v);have a2:=V (v.d a4.out (by decide));clear L J v HC a1;have c0:W.cell? ⟨zq w.heap,2,F⟩=H (Y n):=by rw[aF a2.out];rfl
   have c4:W.cell? ⟨zq w.heap,3,F⟩=H (.bool q):=by rw[aF a2.out];rfl
   have c1:=ab.out.I1;have f1:=ab.out.free 196;have c2:=ab.out.qY;have f2:=ab.out.free 192;have a8:=ab.out.lt;cases q with
   |true=>
    have s:=V ((ab.out.qf C).fy 1);clear ab;go_wp2;go_end0;exact cF l.out s.out D
   |false=>
    cases hq:fG n aC with
    |true=>
     have d:(n.toList==[104,116,109,108])=C:=by
      have N:(aC:O).toList=[104,116,109,108]:=by first|rfl|decide|simp
      rw[<-N];exact hq
     have s:=V ((ab.out.qf I).fy 1);rw[hq]at l;clear ab hq;go_wp2;go_end0;exact cF l.out s.out D
    |false=>
     have d:(n.toList==[104,116,109,108])=I:=by
      have N:(aC:O).toList=[104,116,109,108]:=by first|rfl|decide|simp
      rw[<-N];exact hq
     have s:=V ((ab.out.qf C).fy 1);rw[hq]at l;clear ab hq;go_wp2;go_end0;exact cF l.out s.out D
 |_=>
  change Calls _ _ _ _ (Leaves E f _ w (.ok () {X with g:=1}) uV);simp only[kP];have x:=Bd;have ab:=V (r.out.k0 ((Z.refl [] w).alloc (dr #[G 0,G 0,Y iJ,.bool I] 198)));have c2:=ab.out.qY;have f2:=ab.out.free 192;have a8:=ab.out.lt;replace ab:=V (ab.out.fy 1);clear h y r;go_enter func94,ntmps94;go_wp2;go_end0;exact cF D ab.out D
def SF(E:fS)(f:Nat->Nat)(X:N)(w:J)(S:List (Nat×dB)):Prop:=∃L,L.K=f/\fk E L X w/\∀p∈S,Sd L w p.1 p.2
def SF.d(h:SF E f X w S):RF E f X w:=by have⟨L,e,Q,_⟩:=h;exact⟨L,e,Q⟩
theorem SF.at(h:SF E f X w S){k:Nat}(d:(k,v)∈S):w.heap[k]?=H (dr #[v] 68):=by have⟨L,e,Q,y⟩:=h;exact(y _ d).1
theorem SF.h(h:SF E f X w S)(d:Z [] w P):SF E f X P S:=by have⟨L,e,Q,y⟩:=h;exact⟨L,e,Q.h d,λp g=>⟨d.at (y p g).1 (by simp),(y p g).2⟩⟩
def XW{b:Type}(E:fS)(f:Nat->Nat)(n:Nat)(S:List (Nat×dB))(w:J)(r:pj b)(d:(Nat->Nat)->b->dB)(e:Ending)(P:J):Prop:=match r with
 | .ok a U=>∃g,Vn n f g/\n<=ln U.d/\e=ff (d g a)/\SF E g U P S/\Fr E.bs w P
 |_=>False
def aip{b:Type}(E:fS)(k:Nat)(a:(Nat->Nat)->io)(m:M b)(d:(Nat->Nat)->b->dB):Prop:=
 ∀f X w S,SF E f X w S->m X≠ .stuck->dS k (a f) w (XW E f (ln X.d) S w (m X) d)
theorem amu{c h:Type}{k:Nat}{b:(Nat->Nat)->io}{m:M c}{d:(Nat->Nat)->c->dB}(i:aip E k b m d)(u:SF E f X w S){R:pj h}{K:c->M h}(l:R=(m>>=K) X)(q:R≠ .stuck)(j:A=b f)
  (p:∀a g U P,Vn (ln X.d) f g->ln X.d<=ln U.d->SF E g U P S->Fr E.bs w P->R=K a U->m X=.ok a U->aI (ff (d g a)) P):dS k A w aI:=by
 subst j;rw[M.cW]at l;refine(i f X w S u (λe=>q (by grind))).mono ?_;grind[XW]
def Pm{b:Type}(E:fS)(f:Nat->Nat)(n:Nat)(S:List (Nat×dB))(w:J)(r:pj b)(d:(Nat->Nat)->b->dB)(e:Ending)(P:J):Prop:=match r with
 | .ok a U=>n<=ln U.d/\e=ff (d f a)/\SF E f U P S/\Fr E.bs w P
 |_=>False
def zR{b:Type}(E:fS)(k:Nat)(a:(Nat->Nat)->io)(m:M b)(d:(Nat->Nat)->b->dB):Prop:=
 ∀f X w S,SF E f X w S->m X≠ .stuck->dS k (a f) w (Pm E f (ln X.d) S w (m X) d)
theorem C8{c g:Type}{k:Nat}{b:(Nat->Nat)->io}{m:M c}{d:(Nat->Nat)->c->dB}(i:zR E k b m d)(q:SF E f X w S){R:pj g}{K:c->M g}(h:R=(m>>=K) X)(p:R≠ .stuck)(j:A=b f)
  (l:∀a U P,ln X.d<=ln U.d->SF E f U P S->Fr E.bs w P->R=K a U->m X=.ok a U->aI (ff (d f a)) P):dS k A w aI:=by
 subst j;rw[M.cW]at h;refine(i f X w S q (λe=>p (by grind))).mono ?_;grind[Pm]
theorem Ad.ls(h:Ad E L U w P)(k:∀p∈S,Sd L w p.1 p.2)(g:n<=ln U.d){e:Ending}(d:e=pG):Pm E L.K n S w (.ok () U) uV e P:=by have⟨L',h1,h2,h3,h4⟩:=h;exact⟨g,d,⟨L',h1,h2,by grind⟩,h3⟩
def aev(E:fS)(x:fW):zR E 181 (λf=>#[gU E.A 188,oV f x]) (iH x) uV:=by
 rintro f X w S⟨L,rfl,Q,k⟩ d;unfold iH at d|-;by_cases g:X.dO x=C;rw[dw g];exact((show Calls prog 181 #[gU E.A 188,jl (fx L.K x)] w λe P=>e=pG/\Ad E L {X with A:=X.A.erase x} w P by have⟨Co,hL,hC⟩:=Q.yT;refine(An E.bs E.A 188 _ Co _ _ _ w hL Q.Dr (Q.dO g)).mono ?_;rintro e P⟨rfl,l⟩;exact⟨D,Q.Rr hL hC (by rw[<-vB Q.inj];exact l) λy p=>Q.wf.A y (wJ p)⟩)).mono (λe P h=>h.2.ls k (rO _ _ D) h.1)
 rw[di g]at d;exact absurd D d
def aco(E:fS)(x:fW):zR E 181 (λf=>#[gU E.A 189,oV f x]) (iP x) uV:=by
 rintro f X w S⟨L,rfl,Q,k⟩ d;unfold iP at d|-;by_cases g:X.dO x=C;rw[dw g];exact((show Calls prog 181 #[gU E.A 189,jl (fx L.K x)] w λe P=>e=pG/\Ad E L {X with B:=X.B.erase x} w P by have⟨Co,hL,hC⟩:=Q.I0;refine(An E.bs E.A 189 _ Co _ _ _ w hL Q.Dd (Q.dO g)).mono ?_;rintro e P⟨rfl,l⟩;exact⟨D,Q.Rq hL hC (by rw[<-vB Q.inj];exact l) λy p=>Q.wf.B y (wJ p)⟩)).mono (λe P h=>h.2.ls k (rO _ _ D) h.1)
 rw[di g]at d;exact absurd D d
theorem aht(E:fS)(x y:fW):zR E 270 (λf=>#[gU E.A 188,oV f x,oV f y]) (zw x y) uV:=by
 rintro f X w S⟨L,rfl,Q,k⟩ g;unfold zw at g|-;by_cases d:(X.dO x&&X.lj y)=C;rw[dw d];simp at d;exact((show Calls prog 270 #[gU E.A 188,jl (fx L.K x),jl (fx L.K y)] w λe P=>e=pG/\Ad E L {X with A:=oU X.A x y} w P by have⟨Co,hL,hC⟩:=Q.yT;refine(F9 E.bs E.A 188 _ Co _ _ _ _ w hL Q.Dr (Q.dO d.1)).mono ?_;rintro e P⟨rfl,l⟩;exact⟨D,Q.Rr hL hC (by rw[<-LB Q.inj];exact l) λz p=>by grind[LD,Wf.A,fk.wf]⟩)).mono (λe P h=>h.2.ls k (rO _ _ D) h.1)
 rw[di d]at g;exact absurd D g
theorem agb(E:fS)(x y:fW):zR E 270 (λf=>#[gU E.A 189,oV f x,oV f y]) (qI x y) uV:=by
 rintro f X w S⟨L,rfl,Q,k⟩ g;unfold qI at g|-;by_cases d:(X.dO x&&X.dO y)=C;rw[dw d];simp at d;exact((show Calls prog 270 #[gU E.A 189,jl (fx L.K x),jl (fx L.K y)] w λe P=>e=pG/\Ad E L {X with B:=oU X.B x y} w P by have⟨Co,hL,hC⟩:=Q.I0;refine(F9 E.bs E.A 189 _ Co _ _ _ _ w hL Q.Dd (Q.dO d.1)).mono ?_;rintro e P⟨rfl,l⟩;exact⟨D,Q.Rq hL hC (by rw[<-LB Q.inj];exact l) λz p=>by grind[LD,Wf.B,fk.wf]⟩)).mono (λe P h=>h.2.ls k (rO _ _ D) h.1)
 rw[di d]at g;exact absurd D g
def abH(E:fS)(j:Nat):zR E 368 (λf=>#[nV f j]) (kG j) uV:=by
 rintro f X w S⟨L,rfl,Q,k⟩ d;unfold kG at d|-;cases hj:X.h j with
 |none=>rw[hj]at d;exact absurd D d
 |some ej=>
  simp only[hj]at d|-;cases hp:ej.E with
  |none=>
   simp only[hp]at d|-;refine(Fg Q hj hp).mono ?_;rintro e P⟨rfl,rfl⟩;exact⟨dF _,D,⟨L,D,Q,k⟩,Fr.refl _⟩
  |some p=>
   simp only[hp]at d|-;cases hep:X.h p with
   |none=>rw[hep]at d;exact absurd D d
   |some ep=>
    simp only[hep]at d|-;by_cases g:j≠p/\0<=oS ep.q (Nd.dO j)/\(oS ep.q (Nd.dO j)).toNat<ln ep.q;rw[dw g];exact(O0 Q hj hp hep g.1 g.2.2 (by omega)).mono (λe P h=>h.2.s.ls k (by simp[N.l]) h.1);rw[di g]at d;exact absurd D d
def aaf(E:fS)(i:Nat):aip E 269 (λf=>#[nV f i]) (jm i) nV:=by
 rintro f X w S⟨L,rfl,Q,u⟩ d;unfold jm at d|-;cases hi:X.h i with
 |none=>rw[hi]at d;exact absurd D d
 |some e=>
  simp only[hi]at d|-;by_cases hg:l4 e.name=C;rw[dw hg]at d;exact absurd D d;rw[di hg];refine(OZ Q hi (by simpa using hg)).mono ?_;rintro y P⟨g,h,rfl,k,l,q⟩;exact⟨g.K,h,by simp[N.add],D,⟨g,D,k,λp x=>q _ _ (u p x)⟩,l⟩
def agR(E:fS)(i:Nat):zR E 93 (λf=>#[nV f i]) (fM i) pV:=by
 rintro f X w S⟨L,rfl,Q,h⟩ d;unfold fM at d|-;cases he:X.h i with
 |none=>rw[he]at d;exact absurd D d
 |some e=>
  refine(US Q he).mono ?_;rintro k P⟨rfl,l,g⟩;exact⟨dF _,D,SF.h ⟨L,D,Q,h⟩ g,.h g⟩
def ahC(E:fS)(pl:Nat×Nat)(j:Nat):zR E 169 (λf=>#[pV f pl,.iface 68 (nV f j)]) (jz pl j) uV:=by
 rintro f X w S⟨L,rfl,Q,k⟩ d;unfold jz at d|-;cases h1:X.h pl.1 with
 |none=>rw[h1]at d;exact absurd D d
 |some ei=>
  cases h2:X.h j with
  |none=>rw[h1,h2]at d;exact absurd D d
  |some ej=>
   simp only[h1,h2]at d|-;by_cases g:j≠pl.1/\pl.2<=ln ei.q/\(ln ei.q)<1048576;rw[dw g];exact(L5 Q h1 h2 g.1 g.2.1 g.2.2).mono (λe P h=>h.2.s.ls k (by simp[N.l]) h.1);rw[di g]at d;exact absurd D d
def Ab{b:Type}(m:M b):Prop:=∀X a U,m X=.ok a U->∀i,X.dO (H i)=C->U.dO (H i)=C
theorem Wj(x:fW):Ab (iH x):=by intro X a U h i hi;unfold iH at h;split at h;cases h;exact hi;grind
theorem Kk(x:fW):Ab (iP x):=by intro X a U h i hi;unfold iP at h;split at h;cases h;exact hi;grind
theorem NY(x y:fW):Ab (zw x y):=by intro X a U h i hi;unfold zw at h;split at h;cases h;exact hi;grind
theorem NV(x y:fW):Ab (qI x y):=by intro X a U h i hi;unfold qI at h;split at h;cases h;exact hi;grind
theorem NX(j:Nat):Ab (fM j):=by grind[Ab,fM]
theorem SK(j:Nat):Ab (jm j):=by intro X a U h i hi;grind[N.Al,jm]
theorem Yn{e d:mh}(g:X.h j=H d)(a:X.dO (H i)=C):(X.l j e).dO (H i)=C:=by grind[N.sN]
theorem NZ(pl:Nat×Nat)(j:Nat):Ab (jz pl j):=by intro X a U h i hi;grind[Yn,N.s,jz]
theorem Hj(j:Nat):Ab (kG j):=by intro X a U h i hi;unfold kG at h;grind[Yn,N.s]
theorem SF.set{E:fS}{f:Nat->Nat}{X:N}{w:J}{S:List (Nat×dB)}(h:SF E f X w S){k:Nat}{v:dB}(q:(k,v)∈S)(U:E.bs<=k)(a:zq E.L.heap<=k)(u:dB)(b:List (Nat×dB))(m:∀p∈b,p=(k,u)\/(p.1≠k/\p∈S)):SF E f X (w.setCell ⟨k,0,F⟩ u) b/\Fr E.bs w (w.setCell ⟨k,0,F⟩ u):=by
 have⟨L,e,Q,d⟩:=h;have⟨h1,h2,h3,h4⟩:=(show fk E L X (w.setCell ⟨((k,v).fst),0,F⟩ u)/\Sd L (w.setCell ⟨((k,v).fst),0,F⟩ u) ((k,v).fst) u/\(∀j x,j≠((k,v).fst)->Sd L w j x->Sd L (w.setCell ⟨((k,v).fst),0,F⟩ u) j x)/\Fr E.bs w (w.setCell ⟨((k,v).fst),0,F⟩ u) by
   have d:=d _ q;have q:Z [((k,v).fst)] w (w.setCell ⟨((k,v).fst),0,F⟩ u):=(Z.refl _ w).setCell (.inl (by simp)) _;have l:KT E.bs [68] w _:=.q q (λj z _=>by rw[cC.1 z];exact⟨⟨_,_,_,d.1,by simp⟩,U⟩)
   obtain⟨a0,P,y⟩:=Q.dP;exact⟨({Q with
    d:=Q.d.trans (l.d (by decide))
    B:=λi nd hi=>((Q.B i nd hi).l l (by decide)).loc D D D
    dP:=⟨a0,l.at P (by decide),y⟩
    R:=q.ownsRow Q.R (λg hg c=>d.2.1 (by grind))
    S:=q.ownsRow Q.S (λg hg c=>d.2.2 (by grind))
    K:=l.row Q.K (by decide)
    rd:=l.at Q.rd (by decide)
    tok:=l.row Q.tok (by decide)}),⟨bH d.1 0 u,d.2⟩,λj x z K=>⟨q.at K.1 (by grind),K.2⟩,l.d (by decide)⟩)
 grind[SF]
section
variable {W K:J}{row:fW}(hg:W.grownBy K row){B:Nat}(Q:∀r,row=H r->B<=r/\∃o:Obj,W.heap[r]?=H o/\o.isCells=I)
include hg Q
def pR{k:Nat}{c:io}{t:TypeId}{m:Nat×Nat}(h:W.heap[k]?=H (.cells c t m)):K.heap[k]?=H (.cells c t m):=by refine(hg.block k (dD.1 h).1 (λe=>?_)).trans h;have⟨_,o,ho,hc⟩:=Q k e.symm;rw[h]at ho;cases ho;cases hc
def vC{S:Nat}{e:TypeId}{d:Nat}{v:dB}{k:Nat}{T:List dB}(h:W.ownsRow S e d v k T):K.ownsRow S e d v k T:=by refine h.kept hg ?_;rcases h.2 with⟨rfl,_⟩|⟨g,p,q,rfl,_,l,_⟩;exact .inl D;refine .inr λu=>?_;have⟨_,o,ho,hc⟩:=Q g (by simpa [dl]using u.symm);rw[l]at ho;cases ho;cases hc
def Fr.grown{bs:Nat}{w:J}(h:Fr bs w W)(d:zq w.heap<=B):Fr bs w K:=by have⟨S,hk,hS⟩:=h;exact⟨S,hk.grown hg (λk e=> .inr (gR d (Q k e).1)),hS⟩
def fk.grown{E:fS}{L:pi}{X:N}(h:fk E L X W)(k:zq E.L.heap<=B):fk E L X K:=by
 have⟨Co,hb,hC⟩:=h.dP;exact
  {d:=Fr.grown hg Q h.d k
   env:=h.env
   k:=h.k
   B:=λi g hi=>by
    have d:=h.B i g hi;cases g with
    |el e=>exact⟨⟨pR hg Q d.1.dP,vC hg Q d.1.row,d.1.le,d.1.A⟩,vC hg Q d.2.1,d.2.2⟩
    |tx s=>exact pR hg Q d
    |cm s=>exact pR hg Q d
    |dt s=>exact pR hg Q d
   inj:=h.inj,b:=h.b,m:=h.m,T:=h.T,f:=h.f,wf:=h.wf
   dP:=⟨Co,pR hg Q hb,hC⟩
   R:=vC hg Q h.R
   S:=vC hg Q h.S
   o:=h.o,P:=h.P,W:=h.W
   K:=vC hg Q h.K
   s:=h.s
   rd:=pR hg Q h.rd
   u:=h.u
   tok:=vC hg Q h.tok
   q:=h.q,t:=h.t,A:=h.A,Q:=h.Q,X:=h.X,c:=h.c,U:=h.U,a:=h.a,r:=h.r}
def SF.grown{E:fS}{f:Nat->Nat}{X:N}{S:List (Nat×dB)}(h:SF E f X W S)(g:zq E.L.heap<=B):SF E f X K S:=by have⟨L,e,h1,h2⟩:=h;exact⟨L,e,h1.grown hg Q g,λp d=>⟨pR hg Q (h2 p d).1,(h2 p d).2⟩⟩
end
def Fr.e(h:Fr bs w W)(B:Nat):KeepsFrom B w W:=⟨h.size,λ_ _ _ d e=>h.other d e⟩
theorem Fr.at(h:Fr bs w W){k:Nat}{t:TypeId}(d:w.heap[k]?=H (.cells c t m))(e:t∉Z1):W.heap[k]?=H (.cells c t m):=by have⟨S,hkk,hS⟩:=h;grind[Z.block]
attribute [local go_sem] db
theorem ak2{u:Type}(m:Nat)(a2:1<=m)(b j n bN w l:Nat)(a1:n<=4096)(nx:u->fW)(d:u->Nat)(f v:u->J->Prop)
  (A:∀s W,f s W->W.cell? ⟨bN,0,F⟩=H (G n)) (O:∀s W,f s W->W.cell? ⟨w,0,F⟩=H (gU b j))
  (c:∀s W q,f s W->d s<n->q=n-1-d s->dS 242 #[gU b j,G q] W λe P=>e=ff (jl (nx s))/\P=W)
  (Q:∀s W,f s W->d s<n->YieldAt Fence.wide (m-1) prog l #[jl (nx s)] W λe K=>
   (e=ff (.bool C)/\∃g,d g=d s+1/\f g K)\/(e=ff (.bool I)/\∃g,v g K))
  (W:J) (t:u) (T:d t=0) (N:f t W):CallsIn Fence.wide m prog 351 #[.func (.yield l) #[] #[],dq bN,dq w] W λe K=>(∃r,e=ff r)/\
   ((∃s,d s=n/\f s K)\/(∃s,v s K)):=by
 refine callsIn_of_wp func351 D trivial ?_ D;simp only[ntmps351,wL,uJ,uY,Nat.reduceAdd,Nat.reduceSub,wM,wN,wO,wP,tA,tf];have cN:=A t W N;have M:=Q;have R:=A;have E:=O;have y:=c;gi_wp2
 gi_loopw [4] (λi wr=>∃s:u,d s<=n/\i=G ((n:Int)-1-d s)/\f s wr)
  (λi _=>((intOf i)+1).toNat)
 case atStart=>grind
 case round=>
  obtain⟨s,hk,rfl,x⟩:=hrel;have Y:=E s wr x;by_cases k:d s<n
  .obtain⟨q,o⟩:∃q:Nat,q=n-1-d s:=⟨_,D⟩;have a0:(n:Int)-1-d s=(q:Int):=by omega
   rw[a0];have B:=y s wr q x k o;have⟨fn,tmps,assign,body,hy,HR⟩:=M s wr x k;have L:=V o;have a3:q<4096:=by omega
   clear o
   gi_wp2_with (refine⟨trivial,?_⟩;gi_at_call 242;refine(callsIn_wide.2 B).mono ?_;rintro e P⟨rfl,rfl⟩)
   refine HR.mono ?_;rintro e S (⟨rfl,g,X,U⟩|⟨rfl,g,h⟩)
   .have z:=X;gi_wp2;go_roundw
    case rel=>exact⟨g,by omega,by have:=L;have:=z;congr 1;omega,U⟩
    case measure=>simp[intOf]
   .gi_wp2;refine mL (II D _ _ _) D ?_;exact⟨⟨_,D⟩,.inr ⟨g,h⟩⟩
  .have a:d s=n:=by omega
   have p:(n:Int)-1-d s= -1:=by omega
   rw[p];gi_wp2;go_end0;exact⟨⟨_,D⟩,.inl ⟨s,a,x⟩⟩
def aif{g:Type}(B:Nat)(a:g->J->Prop)(h:Code->g->J->Prop)(e:g->Nat)(s:g)(W:J):Exit->Act->J->Prop
 | .normal,_,K=>KeepsFrom B W K/\∃d,e d=e s+1/\a d K
 | .ret,_,K=>KeepsFrom B W K/\∃d,h .ret d K
 | .exit id,_,K=>KeepsFrom B W K/\∃d,h (.exit id) d K
 | .goto t,_,K=>KeepsFrom B W K/\∃d,h (.goto t) d K
 | .panic _,_,_=>False
 | .outgrown,_,_=>False
theorem afH{o:Type}{m:Nat}{g:Operand}{p:Tmp}{aI:Exit->Act->J->Prop}(h1:2<=m)(ag:n<=4096)(hg:a.eval g=uH bs)
  (nx:o->fW) (U:o->Nat) (f:o->J->Prop) (B:Code->o->J->Prop) (A:OwnFrom w.heap.size f) (a2:∀c,OwnFrom w.heap.size (B c))
  (hN:∀s W,f s W->W.cell? ⟨bs+1,0,F⟩=H (G n)) (hL:∀s W,f s W->W.cell? ⟨bs,0,F⟩=H (gU b j))
  (S:∀s W q,f s W->U s<n->q=n-1-U s->dS 242 #[gU b j,G q] W λe P=>e=ff (jl (nx s))/\P=W)
  (E:o) (Z:U E=0) (h0:f E w) (I:fW->Act)
  (a0:∀(l:Nat)(x:fW)(W:J)(K:Act->J->Prop),K (I x) W->assign.wpIn (Fence.wide.inRound l) (m-1-1) prog (Exit.then K (λ_ _ _=>False)) {tmps:=a.tmps.setIfInBounds p (jl x),defers:=[]} W)
  (M:∀(l:Nat)(s:o)(W:J),f s W->U s<n->body.wpIn (Fence.wide.inRound l) (m-1-1) prog (aif w.heap.size f B U s W) (I (nx s)) W)
  (N:∀(bF:Nat)(s:o)(W:J),zq w.heap<=bF->U s=n->f s W->W.heap[bF]?=H (.deferred (H []))->aI .normal {a with defers:={target:=.collected bF,args:=#[]}::a.defers} W)
  (O:∀(bF:Nat)(c:Code)(s:o)(W:J),zq w.heap<=bF->B c s W->W.heap[bF]?=H (.deferred (H []))->c.wpIn Fence.wide m prog aI {a with defers:={target:=.collected bF,args:=#[]}::a.defers} W):(Code.rangeFunc g #[p] assign body).wpIn Fence.wide m prog aI a w:=by
 refine Rz ?_;intro fn ad;obtain⟨rec,k⟩:∃rec:LoopState->Option Code->Loop,rec=λst pe=>{state:=st,pending:=pe,fn,tmps:=a.tmps,params:=#[p],assign,body,defers:=zq w.heap}:=⟨_,D⟩;obtain⟨i,C⟩:∃i,(w.alloc (.deferred (H []))).alloc (.loop (rec .ready F))=i:=⟨_,D⟩;have T:i.heap[zq w.heap+1]?=H (.loop (rec .ready F)):=by rw[<-C];have:=DB (w.alloc (.deferred (H []))) (.loop (rec .ready F));rwa [zB]at this
 have ab:i.heap[zq w.heap]?=H (.deferred (H [])):=by rw[<-C];exact(dc _ _ _ (by simp)).trans (DB w _)
 refine⟨zq w.heap+1,[{target:=.collected w.heap.size,args:=#[]}],i,{target:=.fn (.func 351) #[dq (bs+1),dq bs],args:=#[.func (.yield (zq w.heap+1)) #[] #[]]},i,351,
  #[.func (.yield (zq w.heap+1)) #[] #[],dq (bs+1),dq bs],i,?_,?_,?_,?_,λ_=>by omega,?_⟩
 rw[<-C,k];exact RA _ _ _ _ _
 .simp only[resolve,hg];simp[go_sem]
 intro f' ai;trivial;exact enters_of func351 (by rfl) D _ _;refine(ak2 (m-1) (by omega) b j n (bs+1) bs (zq w.heap+1) ag nx U
  (λs W=>f s W/\W.heap[zq w.heap+1]?=H (.loop (rec .ready F))/\W.heap[zq w.heap]?=H (.deferred (H [])))
  (λs W=>∃c,B c s W/\W.heap[zq w.heap+1]?=H (.loop (rec .done (H c)))/\W.heap[zq w.heap]?=H (.deferred (H [])))
  (λs W h=>hN s W h.1) (λs W h=>hL s W h.1) (λs W q h=>S s W q h.1) ?_ i E Z ⟨(by rw[<-C];exact A.alloc _ (A.alloc _ h0)),T,ab⟩).mono ?_
 .rintro s W⟨hi,hl,hk⟩ R;have L:=run_yield (P:=prog) (args:=#[jl (nx s)]) hl (by rw[k];rfl);rw[k]at L;refine⟨fn,_,assign,body,L,roundIn_of_wpIn ad ((mf (λz=>assign.wpIn (Fence.wide.inRound (zq w.heap+1)) (m-1-1) prog (Exit.then _ (λ_ _ _=>False)) {tmps:=z,defers:=[]} W) (by simp)).mpr (a0 _ (nx s) W _ ?_))⟩;refine⟨_,run_beginRound hl (by rw[k]),?_⟩;have Y:(W.putObj (zq w.heap+1) (.loop {rec .ready F with state:=.busy})).heap[zq w.heap+1]?=H (.loop {rec .ready F with state:=.busy}):=Mq ((dD.1 hl).1);have V:(W.putObj (zq w.heap+1) (.loop {rec .ready F with state:=.busy})).heap[zq w.heap]?=H (.deferred (H [])):=(td (by omega)).trans hk;refine Ch (M _ s _ (A.putObj _ hi (by omega) hl D) R) ?_;have a1:∀(d:Option Code)(X:J),KeepsFrom w.heap.size (W.putObj (zq w.heap+1) (.loop {rec .ready F with state:=.busy})) X->
    (Instr.endRound (zq w.heap+1) d).run prog X=.ok (.bool d.isNone) (X.putObj (zq w.heap+1) (.loop (rec (if d.isNone then .ready else .done) d)))/\
    X.heap[zq w.heap+1]?=H (.loop {rec .ready F with state:=.busy})/\
    (X.putObj (zq w.heap+1) (.loop (rec (if d.isNone then .ready else .done) d))).heap[zq w.heap+1]?=H (.loop (rec (if d.isNone then .ready else .done) d))/\
    (X.putObj (zq w.heap+1) (.loop (rec (if d.isNone then .ready else .done) d))).heap[zq w.heap]?=H (.deferred (H [])):=λd X u=>by
   have y:=u.same _ _ (by omega) Y D;have:=run_endRound (P:=prog) d y;rw[k]at this|-;exact⟨this,by grind,Mq (dD.1 y).1,(td (by omega)).trans (u.same _ _ (dF _) V D)⟩
  rintro e a3 X r;cases e with
  |normal=>
   have⟨u,s',hc',hi3⟩:=r;have⟨Q,y,hl4,hk4⟩:=a1 F X u;exact⟨_,_,Q,.inl ⟨D,s',hc',A.putObj _ hi3 (by omega) y D,hl4,hk4⟩⟩
  |ret=>
   have⟨u,s',hi3⟩:=r;have⟨Q,y,hl4,hk4⟩:=a1 (H .ret) X u;exact⟨_,_,Q,.inr ⟨D,s',.ret,(a2 _).putObj _ hi3 (by omega) y D,hl4,hk4⟩⟩
  |exit id=>
   have⟨u,s',hi3⟩:=r;have⟨Q,y,hl4,hk4⟩:=a1 (H (.exit id)) X u;exact⟨_,_,Q,.inr ⟨D,s',.exit id,(a2 _).putObj _ hi3 (by omega) y D,hl4,hk4⟩⟩
  |goto t=>
   have⟨u,s',hi3⟩:=r;have⟨Q,y,hl4,hk4⟩:=a1 (H (.goto t)) X u;exact⟨_,_,Q,.inr ⟨D,s',.goto t,(a2 _).putObj _ hi3 (by omega) y D,hl4,hk4⟩⟩
  |panic ch=>exact r.elim
  |outgrown=>exact r.elim
 rintro e W2⟨⟨v,rfl⟩,(⟨s,hS,hi,hl,hk⟩|⟨s,c,hi,hl,hk⟩)⟩;exact⟨F,_,by have:=DC (P:=prog) hl (by grind);rw[k]at this;exact this,N _ s _ (dF _) hS (A.putObj _ hi (by omega) hl D) ((td (by omega)).trans hk)⟩;exact⟨H c,_,by have:=DC (P:=prog) hl (by grind);rw[k]at this;exact this,O _ c s _ (dF _) ((a2 c).putObj _ hi (by omega) hl D) ((td (by omega)).trans hk)⟩
section
attribute [local go_sem] db
attribute [local go_sem] pF
attribute [local simp] pF
abbrev CH(E:fS)(f:Nat->Nat)(i dP z:Nat)(a b c d e g h y p q:dB)(j:List Deferred):Act:={tmps:=#[Bp E,nV f i,nV f dP,dq z,dq (z+1),dq (z+1+1),dq (z+1+1+1),dq (z+1+1+1+1),a,b,qu,nV f dP,nV f i,c,d,e,g,h,y,qu,qu,qu,qu,qu,qu,qu,qu,qu,qu,qu,qu,qu,qu,qu,qu,qu,qu,qu,qu,qu,qu,qu,qu,qu,qu,qu,qu,qu,qu,qu,qu,qu,qu,qu,qu,qu,qu,qu,qu,qu,qu,qu,qu,qu,qu,qu,qu,qu,p,q],defers:=j}
def RF.p(h:RF E f X w)(x:fW)(d:X.dO x=C):dS 379 #[gU E.A 188,oV f x] w λe P=>e=ff (uH w.heap.size)/\P=kH E.A 188 (jf X.A x) w:=by
 obtain⟨L,rfl,Q⟩:=h;have⟨Co,hL,hC⟩:=Q.yT;have:=ahh E.bs E.A 188 _ Co _ _ _ w hL Q.Dr (Q.dO d)
 rwa [OE Q.inj]at this
theorem Tc(w:J)(d e g h k:Obj):(((((w.alloc d).alloc e).alloc g).alloc h).alloc k).heap[zq w.heap]?=H d/\(((((w.alloc d).alloc e).alloc g).alloc h).alloc k).heap[zq w.heap+1]?=H e/\(((((w.alloc d).alloc e).alloc g).alloc h).alloc k).heap[zq w.heap+1+1]?=H g/\(((((w.alloc d).alloc e).alloc g).alloc h).alloc k).heap[zq w.heap+1+1+1]?=H h/\(((((w.alloc d).alloc e).alloc g).alloc h).alloc k).heap[zq w.heap+1+1+1+1]?=H k:=by grind[dc,World.size_alloc,aY]
theorem RF.e(h:RF E f X w)(g:Z [] w W)(d:∀p∈S,zq w.heap<=p.1/\W.heap[p.1]?=H (dr #[p.2] 68)):SF E f X W S:=by have⟨L,e,Q⟩:=h;refine⟨L,e,Q.h g,λp k=>⟨(d p k).2,λq=>?_,λq=>?_⟩⟩;have:=(Q.R.lt _ q).2;grind;have:=(Q.S.lt _ q).2;grind
theorem Wy{T:iU}{n:Int}(h:dT T n=H i):H i∈T:=by grind[dT]
def alu(R:pj (Nat×Nat)):Prop:=∀r U,R=.ok r U->r.1<ln U.d/\r.2<ln U.d
structure Gh where
 g:Nat->Nat
 σ:N
 c:Nat
 last:Nat
 mark:Nat
structure RI(E:fS)(f:Nat->Nat)(σ:N)(w:J)(n fi dP:Nat)(s:Gh)(W:J):Prop where
 le:s.c<=n
 ex:Vn (ln σ.d) f s.g
 A:ln σ.d<=ln s.σ.d
 S:s.last<ln s.σ.d
 a:s.mark<ln s.σ.d
 R:s.σ.dO (H fi)=C
 L:s.σ.dO (H dP)=C
 T:s.σ.dO (H s.last)=C
 e:SF E s.g s.σ W [(zq w.heap+1,nV f fi),(zq w.heap+1+1,nV f dP),(zq w.heap+1+1+1,nV s.g s.last),(zq w.heap+1+1+1+1,nV s.g s.mark)]
 B:W.heap[zq w.heap]?=H (dr #[Bp E] 119)
 K:W.heap[zq w.heap+1+1+1+1+1]?=H (dr #[G s.c] 3)
 P:W.heap[zq w.heap+1+1+1+1+1+1]?=H (dr #[gU E.A 188] 276)
 Q:W.heap[zq w.heap+1+1+1+1+1+1+1]?=H (dr #[G n] 3)
 d:Fr E.bs w W
def RI.grown{s:Gh}{row:fW}{B:Nat}(h:RI E f X w n fi dP s W)(a:W.grownBy K row)(b:∀r,row=H r->B<=r/\∃o:Obj,W.heap[r]?=H o/\o.isCells=I)(d:zq E.L.heap<=B)(e:zq w.heap<=B):RI E f X w n fi dP s K:=
 ⟨h.le,h.ex,h.A,h.S,h.a,h.R,h.L,h.T,h.e.grown a b d,pR a b h.B,pR a b h.K,pR a b h.P,pR a b h.Q,h.d.grown a b e⟩
def SF.side(h:SF E f X w S){T:TypeId}(l:w.heap[b]?=H (.cells c T m))(k:∀t∈Z4,t≠T)(d:zq E.L.heap<=b)(j:Nat)(u:dB):SF E f X (w.setCell ⟨b,j,F⟩ u) S:=by have⟨L,e,Q,y⟩:=h;refine⟨L,e,Q.side l k d j u,λp g=>⟨?_,(y p g).2⟩⟩;have q:Z [b] w (w.setCell ⟨b,j,F⟩ u):=(Z.refl _ w).setCell (.inl (by simp)) _;refine q.at (y p g).1 λx=>?_;have:=(y p g).1;rw[(cC.1 x),l]at this;injection this with this;injection this with _ e2;exact k 68 (by decide) e2.symm
def Fr.g(h:Fr bs w W){k:Nat}(d:zq w.heap<=k)(j:Nat)(u:dB):Fr bs w (W.setCell ⟨k,j,F⟩ u):=by have⟨S,h1,h2⟩:=h;exact⟨S,h1.setCell (.inr d) _,h2⟩
theorem RI.next{s:Gh}(h:RI E f X w n fi dP s W)(e:s.c<n)(k:zq E.L.heap<=zq w.heap)(u:dB)(g:u=G ((s.c+1:Nat))):RI E f X w n fi dP ⟨s.g,s.σ,s.c+1,s.last,s.mark⟩ (W.setCell ⟨zq w.heap+1+1+1+1+1,0,F⟩ u):=by
 subst g;have d:Z [zq w.heap+1+1+1+1+1] W (W.setCell ⟨zq w.heap+1+1+1+1+1,0,F⟩ (G ((s.c+1)))):=(Z.refl _ W).setCell (.inl (by simp)) _;exact
  {le:=e,ex:=h.ex,A:=h.A,S:=h.S,a:=h.a,R:=h.R,L:=h.L,T:=h.T
   e:=h.e.side h.K (by decide) (by omega) 0 _
   B:=d.at h.B (by grind)
   K:=bH h.K 0 _
   P:=d.at h.P (by simp)
   Q:=d.at h.Q (by grind)
   d:=h.d.g (by omega) 0 _}
def RI.step{s:Gh}(h:RI E f X w n fi dP s W){e:Nat->Nat}(l:Vn (ln s.σ.d) s.g e)(k:ln s.σ.d<=ln U.d)(g:Fr E.bs W K)(d:∀i,s.σ.dO (H i)=C->U.dO (H i)=C)
  (p:SF E e U K [(zq w.heap+1,nV f fi),(zq w.heap+1+1,nV f dP),(zq w.heap+1+1+1,nV s.g s.last),(zq w.heap+1+1+1+1,nV s.g s.mark)]):RI E f X w n fi dP ⟨e,U,s.c,s.last,s.mark⟩ K:=by
 have e1:nV s.g s.last=nV e s.last:=by unfold nV;rw[l _ h.S]
 have e2:nV s.g s.mark=nV e s.mark:=by unfold nV;rw[l _ h.a]
 rw[e1,e2]at p;exact
  {le:=h.le,ex:=λi hi=>(l i (kQ hi h.A)).trans (h.ex i hi),A:=gR h.A k,S:=kQ h.S k,a:=kQ h.a k,R:=d _ h.R,L:=d _ h.L,T:=d _ h.T
   e:=p
   B:=g.at h.B (by decide),K:=g.at h.K (by decide),P:=g.at h.P (by decide),Q:=g.at h.Q (by decide)
   d:=h.d.trans g}
def RI.g{s:Gh}(h:RI E f X w n fi dP s W)(x:Nat)(d:s.σ.dO (H x)=C)(g:zq E.L.heap<=zq w.heap)(e:E.bs<=zq w.heap):RI E f X w n fi dP ⟨s.g,s.σ,s.c,x,s.mark⟩ (W.setCell ⟨zq w.heap+1+1+1,0,F⟩ (nV s.g x))/\Fr E.bs W (W.setCell ⟨zq w.heap+1+1+1,0,F⟩ (nV s.g x)):=by
 have⟨q1,q2⟩:=h.e.set (k:=zq w.heap+1+1+1) (v:=nV s.g s.last) (by simp) (by omega) (by omega) (nV s.g x) [(zq w.heap+1,nV f fi),(zq w.heap+1+1,nV f dP),(zq w.heap+1+1+1,nV s.g x),(zq w.heap+1+1+1+1,nV s.g s.mark)] (by simp)
 exact⟨{le:=h.le,ex:=h.ex,A:=h.A,S:=N.kT d,a:=h.a,R:=h.R,L:=h.L,T:=d,e:=q1,B:=q2.at h.B (by decide),K:=q2.at h.K (by decide),P:=q2.at h.P (by decide),Q:=q2.at h.Q (by decide),d:=h.d.trans q2},q2⟩
def RI.h{s:Gh}(h:RI E f X w n fi dP s W)(x:Nat)(g:s.σ.dO (H x)=C)(e:zq E.L.heap<=zq w.heap)(d:E.bs<=zq w.heap):RI E f X w n fi dP ⟨s.g,s.σ,s.c,s.last,x⟩ (W.setCell ⟨zq w.heap+1+1+1+1,0,F⟩ (nV s.g x))/\Fr E.bs W (W.setCell ⟨zq w.heap+1+1+1+1,0,F⟩ (nV s.g x)):=by
 have⟨q1,q2⟩:=h.e.set (k:=zq w.heap+1+1+1+1) (v:=nV s.g s.mark) (by simp) (by omega) (by omega) (nV s.g x) [(zq w.heap+1,nV f fi),(zq w.heap+1+1,nV f dP),(zq w.heap+1+1+1,nV s.g s.last),(zq w.heap+1+1+1+1,nV s.g x)] (by simp)
 exact⟨{le:=h.le,ex:=h.ex,A:=h.A,S:=h.S,a:=N.kT g,R:=h.R,L:=h.L,T:=h.T,e:=q1,B:=q2.at h.B (by decide),K:=q2.at h.K (by decide),P:=q2.at h.P (by decide),Q:=q2.at h.Q (by decide),d:=h.d.trans q2},q2⟩
theorem VH{d:Nat}(h:jm j X=.ok d U):U.dO (H d)=C:=by unfold jm at h;split at h;split at h;cases h;cases h;show((X.add _).h _).isSome=C;grind[N.ng];grind
def RI.k0{s:Gh}(h:RI E f X w n fi dP s W)(d:Z [] W K):RI E f X w n fi dP s K:=
 ⟨h.le,h.ex,h.A,h.S,h.a,h.R,h.L,h.T,h.e.h d,d.at h.B (by simp),d.at h.K (by simp),d.at h.P (by simp),d.at h.Q (by simp),h.d.trans (.h d)⟩
def Xt(f dP k c last g e:Nat):M (Nat×Nat):=λX=>if H e∉X.B then (iH (H e)>>=λ_=>kC f dP k (c+1) last g) X else
 (jm e>>=λd=>zw (H e) (H d)>>=λ_=>qI (H e) (H d)>>=λ_=>kG last>>=λ_=>fM d>>=λh=>jz h last>>=λ_=>kC f dP k (c+1) d (if last=dP then d else g)) X
theorem Uv{f k c last d:Nat}{R:pj (Nat×Nat)}(l:R=kC f dP (k+1) c last d X)(p:R≠ .stuck):∃e,dT X.A (k:Int)=H e/\((e=f/\R=.ok (last,d) X)\/(e≠f/\R=((if 3<c+1 then iP (H e)else pure ())>>=λ_=>Xt f dP k c last d e) X)):=by
 have g:R=(Il k>>=λe=>if e=f then pure _ else ((if 3<c+1 then iP _ else pure ())>>=λ_=>Xt f dP k c last d e)) X:=l;rw[M.cW]at g;unfold Il at g;cases hq:dT _ (k)with
 |none=>grind
 |some e=>
  rw[hq]at g;dsimp at g;refine⟨e,D,?_⟩;by_cases h:e=f;rw[dw h]at g;exact .inl ⟨h,g⟩;grind
theorem RF.eql{g:Nat->Nat}(h:RF E g X W)(a:X.dO (H i)=C)(d:X.dO (H j)=C):(binOp .eql 68 (nV g i) (nV g j)).run prog W=.ok (.bool (decide (i=j))) W:=by obtain⟨L,rfl,Q⟩:=h;have:=Cx (Q.dO a) (Q.dO d);rw[show decide (fx _ (H i)=fx _ (H j))=decide _ from decide_eq_decide.2 ⟨λe=>Q.inj _ _ (jS e),by grind⟩]at this;exact this
def aeM(h:RF E f X w)(v dP:Nat)(br:(X.h v).isSome=C)(aU:H dP∈X.A)(y:xH v dP X≠ .stuck):Calls prog 367 #[Bp E,nV f v,nV f dP] w (λe P=>Leaves E f (ln X.d) w (xH v dP X) (λg r=> .tuple #[nV g r.1,nV g r.2]) e P/\alu (xH v dP X)):=by
 obtain⟨R,hR⟩:∃R,R=xH v dP X:=⟨_,D⟩;rw[<-hR]at y|-;obtain⟨n,hn⟩:∃n,n=(jf X.A (H dP)).toNat:=⟨_,D⟩;have c0:R=kC v dP n 0 dP v X:=by rw[hR,hn];rfl
 have ba:jf X.A (H dP)=(n:Int):=by rw[hn];rcases sj X.A (H dP)with⟨bt,_⟩|⟨m,hp,_⟩;exact absurd aU bt;rw[hp];simp
 have cg:Wf X:=by obtain⟨L,_,Q⟩:=h;exact Q.wf
 have a7:(X.h dP).isSome=C:=cg.A _ aU;have c1:X.dO (H dP)=C:=N.vm (cg.A _ aU);have cE:ln X.A<=4096:=by obtain⟨L,_,Q⟩:=h;exact Q.P
 have cx:n<=4096:=by rcases sj X.A (H dP)with⟨bt,_⟩|⟨m,hp,hm,_⟩;exact absurd aU bt;rw[hp]at ba;omega
 have cR:=h.lt;have bu:zq E.L.heap<=zq w.heap:=by obtain⟨L,_,Q⟩:=h;exact Q.d.size
 have c2:E.bs<=zq w.heap:=by obtain⟨L,_,Q⟩:=h;have:=Q.A;omega
 have HF:=V h;have HR:=V c0;have HS:=V y;have ck:=V c1;have HP:=V ba;clear h hR c0 y;refine(AU (n:=9)).1 ?_;refine AV func367 D trivial ?_ D;simp only[ntmps367,wL,uJ,uY,Nat.reduceAdd,Nat.reduceSub,wM,wN,wO,wP,tA,tf];obtain⟨w5,ax⟩:∃w5,w5=((((w.alloc (dr #[Bp E] 119)).alloc (dr #[nV f v] 68)).alloc (dr #[nV f dP] 68)).alloc (dr #[.pointer F] 68)).alloc (dr #[.pointer F] 68):=⟨_,D⟩;have ca:Z [] w w5:=by rw[ax];exact(((((Z.refl _ _).alloc _).alloc _).alloc _).alloc _).alloc _
 have ch:zq w5.heap=zq w.heap+1+1+1+1+1:=by rw[ax];simp
 obtain⟨b3,b4,b5,b6,b7⟩:=Tc w (dr #[Bp E] 119) (dr #[nV f v] 68) (dr #[nV f dP] 68) (dr #[.pointer F] 68) (dr #[.pointer F] 68);rw[<-ax]at b3 b4 b5 b6 b7;have c4:=aF b4 0;have c5:=aF b5 0;have T:=aF b6 0;have c7:=aF b7 0;have f6:=cY b6 0;have f7:=cY b7 0;dsimp at c4 c5 T c7;have aB:=V ax;have bz:=V ca;have bM:=V ch;have B3:=V b3;have B4:=V b4;have B5:=V b5;have B6:=V b6;have B7:=V b7;clear ax ca ch b3 b4 b5 b6 b7
 gi_wp2_with fail
 rw[<-aB.out];rename_i K1 bS;refine Ch (Q:=Exit.then (λa K=>a=CH E f v dP w.heap.size qu qu qu qu qu qu qu qu qu qu []/\K.heap.size=zq w5.heap/\Z [] w K/\Z [zq w.heap+1+1+1,zq w.heap+1+1+1+1] w5 K/\K.heap[zq w.heap+1+1+1]?=H (dr #[nV f dP] 68)/\K.heap[zq w.heap+1+1+1+1]?=H (dr #[nV f v] 68)) (λ_ _ _=>False)) ?_ ?_
 .refine wpIn_wide.2 ?_;go_region;refine⟨D,by simp,((bz.out.setCell (.inr (by simp;omega)) _).setCell (.inr (by simp;omega)) _).drew,(((Z.refl _ w5).setCell (.inl (by simp)) _).setCell (.inl (by simp)) _).drew,?_,?_⟩;exact(dE _ _ _ _ (by simp)).trans (bH B6.out 0 _);exact bH ((dE _ _ _ _ (by simp)).trans B7.out) 0 _
 .intro e a K S;cases e with
  |normal=>
   obtain⟨rfl,bv,cb,aX,g6,g7⟩:=S;show K1 _ K;dsimp only[CH];refine bS _ _ ?_;have g3:=aX.at B3.out (by simp;omega);have g4:=aX.at B4.out (by simp);have g5:=aX.at B5.out (by simp);rw[bM.out]at bv;have aK:=V bv;have bA:=V cb;have G3:=V g3;have G4:=V g4;have G5:=V g5;have G6:=V g6;have G7:=V g7;clear bv cb aX g3 g4 g5 g6 g7 c4 c5 T c7 f6 f7 B3 B4 B5 B6 B7 bz bM aB w5 bS
   gi_wp2_with fail
   rw[aK.out];have ac:Z [] K (K.alloc (dr #[G 0] 3)):=(Z.refl _ _).alloc _;have g8:(K.alloc (dr #[G 0] 3)).heap[zq w.heap+1+1+1+1+1]?=H (dr #[G 0] 3):=by rw[<-aK.out];exact aY K _
   have ci:zq (K.alloc (dr #[G 0] 3)).heap=zq w.heap+1+1+1+1+1+1:=by rw[zB,aK.out]
   have ak:=V (bA.out.trans ac);replace G3:=V (ac.at G3.out (by simp));replace G4:=V (ac.at G4.out (by simp));replace G5:=V (ac.at G5.out (by simp));replace G6:=V (ac.at G6.out (by simp));replace G7:=V (ac.at G7.out (by simp));have G8:=V g8;have ap:=V ci;clear ac g8 ci bA aK;generalize K.alloc (dr #[G 0] 3)=W8 at *;have c3:=aF G3.out 0;have c5:=aF G5.out 0;dsimp at c3 c5;have cv:=(HF.out.h ak.out).lt;have bc:=V ((HF.out.h ak.out.drew).p (H dP) ck.out);rw[HP.out]at bc;rename_i Kb cP Ka bU;obtain⟨P3,bX⟩:∃P3:Act->J->Prop,P3=(λa i=>∃aL aM aP aQ,a=CH E f v dP w.heap.size (dq (zq w.heap+1+1+1+1+1)) qu aL aM aP aQ (uH (zq w.heap+1+1+1+1+1+1)) qu qu qu []/\Z [] W8 i/\i.heap[zq w.heap+1+1+1+1+1+1]?=H (dr #[gU E.A 188] 276)/\i.heap[zq w.heap+1+1+1+1+1+1+1]?=H (dr #[G n] 3)):=⟨_,D⟩;have bf:=V bX;clear bX;refine Ch (Q:=Exit.then P3 (λ_ _ _=>False)) ?_ ?_
   .refine wpIn_wide.2 ?_
    go_region_with (go_at_call 379;refine bc.out.mono ?_;rintro e w9⟨rfl,cf⟩;have bh:=V cf;clear cf)
    all_goals
     show P3 _ w9;rw[bf.out,ap.out];refine⟨_,_,_,_,D,?_,?_,?_⟩;rw[bh.out];exact(((Z.refl [] W8).drew).alloc _).alloc _;rw[bh.out,<-ap.out];exact(ue W8.drew _ _).1;rw[bh.out,<-ap.out];exact(ue W8.drew _ _).2
   .intro e a i S;cases e with
    |normal=>
     replace S:P3 a i:=S;rw[bf.out]at S;obtain⟨aL,aM,aP,aQ,rfl,a1,g9,bR⟩:=S;show Ka _ i;dsimp only[CH];refine bU _ _ ?_;have cS:zq w.heap+1+1+1+1+1+1<=zq i.heap:=by have:=ap.out;have:=a1.size;omega
     have c9:RI E f X w n v dP ⟨f,X,0,dP,v⟩ i:=
      {le:=eZ _,ex:=λ_ _=>D,A:=dF _,S:=N.kT (U:=X) (i:=dP) a7,a:=N.kT (U:=X) (i:=v) br,R:=br,L:=a7,T:=a7
       e:=HF.out.e (ak.out.trans a1) (by
        intro p hp;simp only[nQ,nR,od]at hp;rcases hp with rfl|rfl|rfl|rfl
        .exact⟨by simp<;>omega,a1.at G4.out (by simp)⟩
        .exact⟨by simp<;>omega,a1.at G5.out (by simp)⟩
        .exact⟨by simp<;>omega,a1.at G6.out (by simp)⟩
        .exact⟨by simp<;>omega,a1.at G7.out (by simp)⟩)
       B:=a1.at G3.out (by simp),K:=a1.at G8.out (by simp),P:=g9,Q:=bR
       d:=.h (ak.out.trans a1)}
     have cl:=V c9;clear c9 a1 g9 bR G3 G4 G5 G6 G7 G8 ak ap bc bf c3 c5 cv bU Ka P3 W8
     gi_wp2_with fail
     refine afH (b:=E.A) (j:=188) (bs:=zq w.heap+1+1+1+1+1+1) (by omega) cx (by rfl) (λs:Gh=>fx s.g (dT s.σ.A ((n-1-s.c:Nat):Int))) Gh.c
      (λs W=>RI E f X w n v dP s W/\R=kC v dP (n-s.c) s.c s.last s.mark s.σ)
      (λc s W=>c=.exit 0/\RI E f X w n v dP s W/\R=.ok (s.last,s.mark) s.σ)
      ?_ ?_ ?_ ?_ ?_ ⟨f,X,0,dP,v⟩ rfl ⟨cl.out,HR.out⟩ (λx=>CH E f v dP w.heap.size (dq (zq w.heap+1+1+1+1+1)) (jl x) aL aM aP aQ (uH (zq w.heap+1+1+1+1+1+1)) (jl x) qu qu []) ?assign ?body ?done ?stop
     rintro s A B row⟨u,aI⟩ hg Q;exact⟨u.grown hg Q (by omega) (by omega),aI⟩;rintro c s A B row⟨h0,u,aI⟩ hg Q;exact⟨h0,u.grown hg Q (by omega) (by omega),aI⟩;rintro s W⟨u,_⟩;rw[aF u.Q];rfl;rintro s W⟨u,_⟩;rw[aF u.P];rfl;rintro s W q⟨u,_⟩ cc rfl;exact u.e.d.u _
     case assign=>
      intro l x W o hK;dsimp only;gi_wp2;exact hK
     case body=>
      rintro l s W⟨u,aI⟩ cc;unfold CH;obtain⟨k,hk⟩:∃k,k=n-1-s.c:=⟨_,D⟩;have cu:n-s.c=k+1:=by omega
      rw[cu]at aI;obtain⟨e,aW,bp⟩:=Uv aI HS.out;rw[<-hk,aW];rw[show jl (fx s.g (H e))=nV s.g e from D];have ae:s.σ.dO (H e)=C:=by obtain⟨L,_,Q,_⟩:=u.e;exact Q.wf.A _ (Wy aW)
      have c3:=aF u.B 0;dsimp at c3;have c4:W.cell? ⟨zq w.heap+1,0,F⟩=H (nV s.g v):=by rw[aF (u.e.at (v:=nV f v) (by simp)),show nV s.g v=nV f v by unfold nV;rw[u.ex v (N.kT (U:=X) (i:=v) br)]];rfl
      have c8:=aF u.K 0;have f8:=cY u.K 0;dsimp at c8;have bq:=u.e.d.eql ae u.R;have cQ:s.c<4096:=by omega
      rcases bp with⟨rfl,ar⟩|⟨cw,ar⟩
      .rw[sx D]at bq;have H1:=V u;have H3:=V ar;clear u aI ar aW ae;unfold nV at *;gi_wp2;exact⟨KeepsFrom.refl _ _,s,D,H1.out,H3.out⟩
      .rw[yx cw]at bq;have bj:=u.next cc bu (G ((s.c:Int)+1)) (by simp);obtain⟨W6,aS⟩:∃W6,W6=W.setCell ⟨zq w.heap+1+1+1+1+1,0,F⟩ (G ((s.c:Int)+1)):=⟨_,D⟩;have b1:KeepsFrom i.heap.size W W6:=by rw[aS];exact(ZV _ _ _).from _
       rw[<-aS]at bj;have ai:=V bj;have ad:=V b1;have aE:=V aS;have ab:=V ar;have ay:=V ae;clear u aI ar aW bj b1 aS ae;unfold nV at *;by_cases h3:3<s.c+1;have an:Hid (R=(iP (H e)>>=λ_=>Xt v dP k s.c s.last s.mark e) s.σ):=by refine V ?_;have:=ab.out;rw[dw h3]at this;exact this
       gi_wp2_with fail
       rw[<-aE.out];refine uK l (callsIn_wide.2 (C8 (aco E (H e)) ai.out.e an.out HS.out D ?_));rintro a a2 WA I M z O j;have hA:=ai.out.step (λ_ _=>D) I z (Kk _ _ _ _ j) M;have a9:=Kk _ _ _ _ j e ay.out;have bk:=ad.out.trans (z.e i.heap.size);have bm:=O;clear I M z O j ai an ab ad ay aE c3 c4 c8 f8 bq
       rotate_left
       have an:Hid (R=Xt v dP k s.c s.last s.mark e s.σ):=by refine V ?_;have:=ab.out;rw[di h3]at this;exact this
       obtain⟨a2,af⟩:∃a2,a2=s.σ:=⟨_,D⟩;obtain⟨WA,aT⟩:∃WA,WA=W6:=⟨_,D⟩;have hA:RI E f X w n v dP ⟨s.g,a2,s.c+1,s.last,s.mark⟩ WA:=by rw[af,aT];exact ai.out
       have a9:a2.dO (H e)=C:=by rw[af];exact ay.out
       have bk:KeepsFrom i.heap.size W WA:=by rw[aT];exact ad.out
       have bm:R=Xt v dP k s.c s.last s.mark e a2:=by rw[af];exact an.out
       have cr:=V (aT.trans aE.out);clear ai ab ad ay an af aT aE
       all_goals
        have c3:=aF hA.B 0;dsimp at c3;have bb:=V (hA.e.d.alT (H e) a9);have HA:=V hA;have aA:=V bm;have b:=V bk;clear hA bm bk
        gi_wp2_with fail
        try rw[<-cr.out]
        refine(uK l (callsIn_wide.2 bb.out)).mono ?_;rintro e' w_⟨rfl,cz⟩;subst cz;by_cases a5:H e∈a2.B
        .have au:R=(jm e>>=λd=>zw (H e) (H d)>>=λ_=>qI (H e) (H d)>>=λ_=>kG s.last>>=λ_=>fM d>>=λpl=>jz pl s.last>>=λ_=>kC v dP k (s.c+1) d (if s.last=dP then d else s.mark)) a2:=by rw[aA.out];unfold Xt;rw[di (by simpa using a5)]
         have al:=V au;rw[sx a5];clear au a5 aA bb
         gi_wp2_with fail
         refine uK l (callsIn_wide.2 (amu (aaf E e) HA.out.e al.out HS.out D ?_));rintro d t cB W2 x1 I M z O j;have aI:=HA.out.step x1 I z (SK _ _ _ _ j) M;have b9:t e=s.g e:=x1 e (N.kT (U:=a2) (i:=e) a9);have aa:=V (VH j);have aj:=V aI;have bL:=V O;replace b:=V (b.out.trans (z.e i.heap.size));have c3:=aF aI.B 0;dsimp at c3;clear aI x1 I M z O j HA al a9
         gi_wp2_with fail
         refine uK l (callsIn_wide.2 (C8 (aht E (H e) (H d)) aj.out.e bL.out HS.out (by show _=#[_,nV t e,nV t d];unfold nV;rw[b9]) ?_));rintro a3 cT W3 I M z O j;have bi:=aj.out.step (λ_ _=>D) I z (NY _ _ _ _ _ j) M;replace aa:=V (NY _ _ _ _ _ j d aa.out);have bd:=V bi;have ab:=V O;replace b:=V (b.out.trans (z.e i.heap.size));have c3:=aF bi.B 0;dsimp at c3;clear bi I M z O j aj bL
         gi_wp2_with fail
         refine uK l (callsIn_wide.2 (C8 (agb E (H e) (H d)) bd.out.e ab.out HS.out (by show _=#[_,nV t e,nV t d];unfold nV;rw[b9]) ?_));rintro a4 cj W4 I M z O j;have h4:=bd.out.step (λ_ _=>D) I z (NV _ _ _ _ _ j) M;replace aa:=V (NV _ _ _ _ _ j d aa.out);have az:=V h4;have av:=O;replace b:=V (b.out.trans (z.e i.heap.size));have c5:W4.cell? ⟨zq w.heap+1+1,0,F⟩=H (nV t dP):=by have cA:t dP=f dP:=h4.ex dP (N.kT (U:=X) (i:=dP) a7);rw[aF (h4.e.at (k:=zq w.heap+1+1) (v:=nV f dP) (by simp)),show nV t dP=nV f dP by unfold nV;rw[cA]];rfl
         have T:=aF (h4.e.at (k:=zq w.heap+1+1+1) (v:=nV t s.last) (by simp)) 0;have c7:=aF (h4.e.at (k:=zq w.heap+1+1+1+1) (v:=nV t s.mark) (by simp)) 0;have f7:=cY (h4.e.at (k:=zq w.heap+1+1+1+1) (v:=nV t s.mark) (by simp)) 0;dsimp at T c7;have aw:(binOp .eql 68 (nV t s.last) (nV t dP)).run prog W4=.ok (.bool (decide (s.last=dP))) W4:=h4.e.d.eql h4.T h4.L;clear h4 I M z O j bd ab;unfold nV at c5 T c7 aw;generalize hmk:(if s.last=dP then d else s.mark)=mk at av;by_cases ag:s.last=dP;rw[sx ag]at aw;obtain⟨q1,q2⟩:=az.out.h d aa.out bu c2;obtain⟨W5,aR⟩:∃W5,W5=W4.setCell ⟨zq w.heap+1+1+1+1,0,F⟩ (dq (t d)):=⟨_,D⟩;have q3:RI E f X w n v dP ⟨t,cj,s.c+1,s.last,mk⟩ W5:=by rw[aR,<-hmk,dw ag];exact q1
         have q4:KeepsFrom i.heap.size W4 W5:=by rw[aR];exact q2.e i.heap.size
         have H5:=V q3;replace b:=V (b.out.trans q4);have aB:=V aR;have bg:=V av;clear q1 q2 q3 q4 aR az av ag hmk
         gi_wp2_with fail
         rw[<-aB.out]
         rotate_left
         rw[yx ag]at aw;have H5:=V (show RI E f X w n v dP ⟨t,cj,s.c+1,s.last,mk⟩ W4 by rw[<-hmk,di ag];exact az.out);have bg:=V av;clear az av ag hmk
         gi_wp2_with fail
         all_goals
          refine uK l (callsIn_wide.2 (C8 (abH E s.last) H5.out.e bg.out HS.out D ?_));rintro a6 cU W7 I M z O j;have h6:=H5.out.step (λ_ _=>D) I z (Hj _ _ _ _ j) M;have h7:=h6.k0 ((Z.refl _ W7).drew);have T:=aF (h6.e.at (k:=zq w.heap+1+1+1) (v:=nV t s.last) (by simp)) 0;dsimp at T;replace aa:=V (Hj _ _ _ _ j d aa.out);have H7:=V h7;have co:=V O;replace b:=V ((b.out.trans (z.e i.heap.size)).trans ((Fr.h (bs:=E.bs) ((Z.refl _ W7).drew)).e i.heap.size));clear h6 h7 I M z O j H5 bg;unfold nV at T
          gi_wp2_with fail
          have bw:Hid (Calls prog 93 #[nV t d] W7.drew λe Y=>∃pl a0,e=ff (pV t pl)/\RI E f X w n v dP ⟨t,a0,s.c+1,s.last,mk⟩ Y/\KeepsFrom i.heap.size W Y/\R=(jz pl s.last>>=λ_=>kC v dP k (s.c+1) d mk) a0/\a0.dO (H d)=C):=by refine V ?_;refine C8 (agR E d) H7.out.e co.out HS.out D ?_;rintro pl a0 Y I M z O j;exact⟨pl,a0,D,H7.out.step (λ_ _=>D) I z (NX _ _ _ _ j) M,b.out.trans (z.e i.heap.size),O,NX _ _ _ _ j d aa.out⟩
          have bx:Hid (∀pl a0 Y,RI E f X w n v dP ⟨t,a0,s.c+1,s.last,mk⟩ Y->KeepsFrom i.heap.size W Y->R=(jz pl s.last>>=λ_=>kC v dP k (s.c+1) d mk) a0->a0.dO (H d)=C->Calls prog 169 #[pV t pl,.iface 68 (nV t s.last)] Y λe WP=>e=pG/\∃ah,RI E f X w n v dP ⟨t,ah,s.c+1,s.last,mk⟩ WP/\KeepsFrom i.heap.size W WP/\R=kC v dP k (s.c+1) d mk ah/\ah.dO (H d)=C):=by refine V ?_;intro pl a0 Y y1 y2 y3 y4;refine C8 (ahC E pl s.last) y1.e y3 HS.out D ?_;rintro a8 ah WP I M z O j;exact⟨D,ah,y1.step (λ_ _=>D) I z (NZ _ _ _ _ _ j) M,y2.trans (z.e i.heap.size),O,NZ _ _ _ _ _ j d y4⟩
          unfold nV at bw bx
          gi_region_with (first
           |(refine(uK l (callsIn_wide.2 bw.out)).mono ?_;rintro e' Y⟨pl,a0,rfl,y1,y2,y3,y4⟩;have cK:Y.cell? ⟨zq w.heap+1+1+1,0,F⟩=H (dq (t s.last)):=by {rw[aF (y1.e.at (k:=zq w.heap+1+1+1) (v:=nV t s.last) (by simp))];rfl};have CP:=V (bx.out pl a0 Y y1 y2 y3 y4);clear y1 y2 y3 y4)
           |(refine(uK l (callsIn_wide.2 CP.out)).mono ?_;rintro e' WP⟨rfl,ah,y1,y2,y3,y4⟩;have cL:WP.cell? ⟨zq w.heap+1+1+1,0,F⟩=H (dq (t s.last)):=by {rw[aF (y1.e.at (k:=zq w.heap+1+1+1) (v:=nV t s.last) (by simp))];rfl};have cM:=cY (y1.e.at (k:=zq w.heap+1+1+1) (v:=nV t s.last) (by simp)) 0;have bE:=V (y1.g d y4 bu c2);have bK:=V y3;have cn:=V y2;clear y1 y2 y3 y4))
          all_goals
           gi_wp2;exact⟨cn.out.trans (bE.out.2.e i.heap.size),_,D,bE.out.1,by rw[show n-(s.c+1)=k by omega];exact bK.out⟩
        .have au:R=(iH (H e)>>=λ_=>kC v dP k (s.c+1) s.last s.mark) a2:=by rw[aA.out];unfold Xt;rw[dw a5]
         have al:=V au;rw[yx a5];clear au a5 aA bb
         gi_wp2_with fail
         refine uK l (callsIn_wide.2 (C8 (aev E (H e)) HA.out.e al.out HS.out D ?_));rintro a cB W2 I M z O j;have aI:=HA.out.step (λ_ _=>D) I z (Wj _ _ _ _ j) M;have aj:=V aI;have cs:=V O;have bB:=V (b.out.trans (z.e i.heap.size));clear aI I M z O j HA al b c3;gi_wp2;exact⟨bB.out,_,D,aj.out,by rw[show n-(s.c+1)=k by omega];exact cs.out⟩
     rintro bF s W hD hc⟨u,aI⟩ hK;have bo:R=.ok (s.last,s.mark) s.σ:=by rw[aI,show n-s.c=0 by omega];rfl
     clear aI hc
     rotate_left
     rintro bF c s W hD⟨rfl,u,bo⟩ hK
     all_goals
      have T:=aF (u.e.at (k:=zq w.heap+1+1+1) (v:=nV s.g s.last) (by simp)) 0;have c7:=aF (u.e.at (k:=zq w.heap+1+1+1+1) (v:=nV s.g s.mark) (by simp)) 0;have f6:=cY (u.e.at (k:=zq w.heap+1+1+1) (v:=nV s.g s.last) (by simp)) 0;have f7:=cY (u.e.at (k:=zq w.heap+1+1+1+1) (v:=nV s.g s.mark) (by simp)) 0;dsimp at T c7;have s6:=oC (u.e.at (k:=zq w.heap+1+1+1) (v:=nV s.g s.last) (by simp)) 0 (nV s.g s.last) D;have s7:=oC (u.e.at (k:=zq w.heap+1+1+1+1) (v:=nV s.g s.mark) (by simp)) 0 (nV s.g s.mark) D;have S6:=V s6;have S7:=V s7;have H1:=V u;have cq:=V bo;have HD:=V hD;have cm:=V hK;clear u bo hD hK s6 s7
      gi_wp2_with fail
      rename_i Kx bW;obtain⟨aq,b2⟩:∃aq:Act->J->Prop,aq=(λa K=>∃bP bQ,a=CH E f v dP w.heap.size (dq (zq w.heap+1+1+1+1+1)) qu aL aM aP aQ (uH (zq w.heap+1+1+1+1+1+1)) qu bP bQ [{target:=Target.collected bF,args:=#[]}]/\K=W.drew):=⟨_,D⟩;have b0:=V b2;clear b2;refine Ch (Q:=Exit.then aq (λ_ _ _=>False)) ?_ ?_
      .refine wpIn_wide.2 ?_;go_region
       all_goals
        show aq _ _;rw[b0.out];refine⟨_,_,D,?_⟩;show((W.setCell ⟨zq w.heap+1+1+1,0,F⟩ (nV s.g s.last)).setCell ⟨zq w.heap+1+1+1+1,0,F⟩ (nV s.g s.mark)).drew=W.drew;rw[S6.out,S7.out]
      .intro e a K S;cases e with
       |normal=>
        replace S:aq a K:=S;rw[b0.out]at S;obtain⟨bP,bQ,rfl,rfl⟩:=S;show Kx _ _;dsimp only[CH];refine bW _ _ ?_;clear bW;have T:W.drew.cell? ⟨zq w.heap+1+1+1,0,F⟩=H (nV s.g s.last):=T;gi_wp2;have bT:W.drew.heap[bF]?=H (.deferred (H [])):=cm.out;refine⟨by simp,.inl ⟨_,_,D,ru bT,?_⟩⟩;have hD:=HD.out;have h7:=H1.out.k0 ((Z.refl _ W).drew);have d6:(W.drew.putObj bF (.deferred F)).cell? ⟨zq w.heap+1+1+1,0,F⟩=H (nV s.g s.last):=(yI W.drew (by omega)).trans T;have d7:(W.drew.putObj bF (.deferred F)).cell? ⟨zq w.heap+1+1+1+1,0,F⟩=H (nV s.g s.mark):=(yI W.drew (by omega)).trans c7;refine⟨.tuple #[nV s.g s.last,nV s.g s.mark],by simp[results,results367,asAddr,da,go_sem,d6,d7],?_⟩;rw[cq.out];obtain⟨L,ct,Q,_⟩:=h7.e;exact⟨⟨s.g,h7.ex,h7.A,D,⟨L,ct,Q.e bT D (by omega)⟩,h7.d.take (by omega) _⟩,λr U cy=>by cases cy;exact⟨h7.S,h7.a⟩⟩
       |_=>exact S.elim
    |_=>exact S.elim
  |_=>exact S.elim
end
def ToK(E:fS)(L:pi)(i:Nat)(U:N)(w P:J):Prop:=∃d,d.K=L.K/\(∀x,x≠i->d.A x=L.A x)/\fk E d U P/\Fr E.bs w P
def x6.k{E:fS}{L:pi}{i:Nat}{X:N}{w P:J}(h:x6 E L i X w P):ToK E L i X w P:=by obtain⟨e,a,b,c,d,_⟩:=h;exact⟨e,a,b,c,d⟩
attribute [local go_sem] db
def WG(dst:Nat)(k:Nd)(r:List Nd):x8 dst (k::r)=(fM dst>>=λd=>(Gi d k>>=λ_=>x8 dst r)):=rfl
def aaS(E:fS){dst:Nat}(u:b≠dst){y:mh}(f:X.h b=H y){k:Nd}{r:List Nd}{a:Type}{K:Unit->M a}{R:pj a}(d:R=(x8 dst (k::r)>>=K) X)(z:R≠ .stuck)(c:X.q k=C):∃g U,X.h dst=H g/\R=(x8 dst r>>=K) U/\(∃p,U.h b=H p/\p.q=y.q)/\(ln U.d)=ln X.d/\
   ∀(L:pi)(w:J),fk E L X w->dS 169 #[place (L.K dst) (ln g.q),(Nd.map L.K k).val] w (λe P=>e=pG/\ToK E L dst U w P):=by
 rw[WG,M.cW,M.cW]at d;unfold fM at d;cases hd:X.h dst with
 |none=>rw[hd]at d;exact absurd d z
 |some g=>
  rw[hd]at d;dsimp only at d;rw[M.cW]at d;cases k with
  |el j=>
   unfold Gi jz at d;dsimp only at d;cases hj:X.h j with
   |none=>rw[hd,hj]at d;exact absurd d z
   |some ej=>
    rw[hd,hj]at d;dsimp only at d;by_cases l:j≠dst/\(ln g.q)<=ln g.q/\(ln g.q)<1048576;rw[dw l]at d;refine⟨g,_,D,?_,?_,?_,λL w h=>(L5 h hd hj l.1 l.2.1 l.2.2).mono λ_ _ q=>⟨q.1,q.2.k⟩⟩;rw[d,M.cW];by_cases x:b=j;subst x;rw[N.gu (by rw[N.gP];exact N.n hj)];rw[f]at hj;cases hj;exact⟨_,D,D⟩;rw[N.s x,N.s u];exact⟨y,f,D⟩;rw[N.gP,N.gP];rw[di l]at d;exact absurd d z
  |_=>
   unfold Gi wB at d;dsimp only at d;rw[hd]at d;dsimp only at d;by_cases l:ln g.q<1048576;rw[dw ⟨c,dF _,l⟩]at d;refine⟨g,_,D,?_,?_,?_,λL w h=>(L6 h hd c (by intro j e;cases e) (dF _) l).mono λ_ _ q=>⟨q.1,q.2.k⟩⟩;rw[d,M.cW];rw[N.s u];exact⟨y,f,D⟩;rw[N.gP];rw[di (λq=>l q.2.2)]at d;exact absurd d z
def fk.x(h:fk E L X w){p:mh}(c:X.h i=H p):To E L (X.l i {p with q:=[]}) w (w.setCell ⟨L.K i,3,F⟩ (gq)):=by
 have l:=N.n c;have k:(X.h i).isSome=C:=by rw[c];rfl
 have b:=h.JP c;have m:=h.n c;have u:=h.zI c;have K:Z [L.K i] w (w.setCell ⟨L.K i,3,F⟩ (gq)):=(Z.refl _ w).setCell (.inl (by simp)) _;have z:∀s∈[L.K i],∃x∈[i],s=L.K x\/(L.A x).ownBlock=H s:=by intro s y;exact⟨i,by simp,.inl (cC.1 y)⟩
 have U:=h.QB [i] (by intro x d;simp at d;subst d;assumption) z K;refine(h.LP i (gq) k U (.inr (by intro g hg;cases hg)) (by rw[N.gP]) ?_ ?_ ?_ ?_).to;intro x f d;by_cases e:x=i;subst e;rw[N.gu l]at d;cases d;exact⟨p,c,D⟩;rw[N.s e]at d;exact⟨f,d,D⟩;intro x d;by_cases e:x=i;subst e;rw[N.gu l]at d;cases d;rw[N.s e]at d;exact d;intro x nd d;rcases N.wx d with⟨rfl,rfl⟩|⟨e,d⟩;show El E.bs _ _ _ _ _ (if x=x then (gq)else L.A x) _/\_;rw[dw D];refine⟨⟨bH u.dP 3 _,?_,by simp,u.A⟩,U.row b (by decide),m⟩;exact⟨D,.inl ⟨D,D⟩⟩;have j:=h.l [i] (by intro a P;simp at P;subst P;assumption) z K d (by simp[e]);have q:x<ln X.d:=(dG.1 d).1;exact j.ext (U:=X) (JD.refl _ _) q D (di e) (h.Mx d);refine h.wf.l k (h.wf.E i p c) ?_;intro x d;cases d
def OT(b:Nat):Unit->M Unit:=λ_ U=>match U.h b with
 |some eb'=> .ok () (U.l b {eb' with q:=[]})
 |none=> .stuck
theorem WH(h:RF E f X w)(b dst:Nat)(y:mG b dst X≠ .stuck):dS 369 #[nV f b,nV f dst] w (iW E f (ln X.d) w (mG b dst X) uV):=by
 obtain⟨R,x⟩:∃R,R=mG b dst X:=⟨_,D⟩;rw[<-x]at y|-;obtain⟨L,rfl,a2⟩:=h;obtain⟨l,s⟩:∃l,X.h b=H l:=by
  cases hq:X.h b with
  |some l=>simp
  |none=>grind[mG]
 have c:b≠dst:=by intro e;unfold mG at x;rw[s]at x;dsimp only at x;rw[dw e]at x;exact absurd x y
 have HR:R=(x8 dst l.q>>=OT b) X:=by
  unfold mG at x;rw[s]at x;dsimp only at x
  rwa [di c]at x
 have o:=a2.zI s;have c3:=aF o.dP 3;dsimp at c3;have aI:=o.le;rw[Fz]at aI;have⟨ao,cap,hkv⟩:=df o.row;rw[Fz]at hkv;rw[hkv]at c3;obtain⟨n,t⟩:∃n,n=ln l.q:=⟨_,D⟩;have B:=V t;rw[<-t]at c3 aI;have a1:=V hkv;have HS:=y;have Y:=V o;have ap:=a2.d.size;have ai:=fp o.dP;clear t hkv o;go_enter func369,ntmps369;go_wp21
 go_loopw [11] (λv wr=>∃(i:Nat)(j:pi)(k:N)(p:mh),v=G i/\i<=n/\j.K=L.K/\j.A b=L.A b/\fk E j k wr/\k.h b=H p/\p.q=l.q/\(ln k.d)=ln X.d/\Fr E.bs w wr/\R=(x8 dst (l.q.drop i)>>=OT b) k) (λv _=>n-(intOf v).toNat)
 case atStart=>grind[Fr.refl]
 case round=>
  obtain⟨i,j,k,p,rfl,hi,d,U,u,q,I,O,P,K⟩:=hrel;have z:=u.zI q;rw[U,I]at z;by_cases ag:i<n
  .have S:i<ln l.q:=by rw[<-B.out];exact ag
   rw[(xu S)]at K;have a4:k.q l.q[i]=C:=u.wf.q b p q _ (by grind);have⟨ed,σ2,hd,HR3,⟨eb2,HB2,hkk2⟩,hl2,hput⟩:=aaS E c q K HS a4;obtain⟨g,ae⟩:∃g,ao=H ⟨g,0,F⟩:=by
    rcases Y.row.2 with⟨e,h0⟩|⟨g,ah,aq,e,_⟩
    all_goals grind[Hid.out]
   subst ae;have hc:wr.cell? ⟨g,i,F⟩=H (Nd.map L.K l.q[i]).val:=by
    have:=z.row.cells (g:=g) (by rw[a1.out];rfl) i (Nd.map j.K l.q[i]).val (by simp[S]);rw[fC]at this;rw[<-d]
    simpa using this
   obtain⟨ty,a,a8, -, -⟩:=Ov (Nd.map L.K l.q[i]) wr;have A:=US u hd;have r:=(λ(W:J) (hk:Z [] wr W)=>hput j W (u.h hk));rw[d]at A r;rw[a8]at hc r;have ak:=hkk2.trans I;have an:=hl2.trans O;have aa:=V P;have a9:=V d;have ab:=V U;clear P U d;generalize (ln ed.q)=m at *;go_wp21;refine A.mono ?_;rintro e Q⟨rfl, -,a0⟩;have T:=r Q a0;go_wp21;refine T.mono ?_;rintro e W3⟨rfl,L2,q1,q2,Q3,q4⟩;have aj:=(aa.trans (Fr.h a0)).trans q4;have Q1:=q1.trans a9;have Q2:=(q2 b c).trans ab;go_wp2;go_roundw
   case rel=>grind
   case measure=>simp[intOf];omega
  .have he:l.q.drop i=[]:=Fw (by grind[Hid.out]);rw[he]at K;have a3:R=.ok () (k.l b {p with q:=[]}):=by rw[K,M.cW];show OT b () k=_;unfold OT;rw[q]
   have⟨L3,HP1,HP2,p3⟩:=u.x q;rw[d]at HP1 HP2 p3;have c4:wr.cell? ⟨L.K b,3,F⟩=H (.slice ao n cap):=by rw[<-d,aF z.dP,a1.out,<-B.out];rfl
   have af:=cY z.dP 3;rw[d]at af;have ac:=P.trans p3;have ad:=V a3;have al:=V O;clear U d a3 P;go_wp2;go_end0;rw[ad.out];exact⟨D,⟨L3,HP1,HP2⟩,ac,by grind[N.gP]⟩
attribute [local go_sem] db
theorem aae{g:Type}{R:pj g}{K:Nat->M g}(d:R=(ahead fi>>=K) X)(q:R≠ .stuck):∃i,dT X.A (jf X.A (H fi)-1)=H i/\R=K i X/\H fi∈X.A:=by
 rw[M.cW]at d;unfold ahead at d;cases hq:dT _ _ with
 |none=>grind
 |some i=>
  rcases sj _ _ with⟨k,e⟩|⟨m,e,h,p,l⟩;rw[e]at hq;cases hq;grind
theorem UY{a:Unit}(h:kG j X=.ok a U):ln U.d=ln X.d:=by unfold kG at h;split at h;cases h;split at h;grind;split at h;cases h;split at h;grind[N.l];grind
theorem abf{pl:Nat×Nat}{a:Unit}(h:jz pl j X=.ok a U):ln U.d=ln X.d:=by unfold jz at h;split at h;split at h;grind[N.l];grind;grind
theorem QP{a:Nat×Nat}(h:iS i X=.ok a U):ln U.d=ln X.d:=by grind[ol,ny,iS]
theorem At.nv(h:At E f0 n0 w0 f X w)(a:i<n0):nV f i=nV f0 i:=by unfold nV;rw[h.ext i a]
theorem aa6{i:N}(h:RF E f0 i w0)(m dP:Nat)(z:(i.h m).isSome=C)(a:H dP∈i.A)(y:uu m dP i≠ .stuck):dS 348 #[Bp E,nV f0 m,nV f0 dP] w0 (Leaves E f0 (ln i.d) w0 (uu m dP i) uV):=by
 have a0:m<ln i.d:=N.kT (U:=i) (i:=m) z;have U:dP<ln i.d:=N.kT (U:=i) (i:=dP) (h.wf.A _ a);obtain⟨R,b⟩:∃R,R=uu m dP i:=⟨_,D⟩;rw[<-b]at y|-;unfold uu at b;have HS:=y;have a3:=V (At.start h);have d:=V b;have o:=(λK=>aeM h m dP z a K);clear h y b z a;go_enter func348,ntmps348;go_wp21;have K:xH m dP i≠ .stuck:=λe=>HS (by grind[Hid.out,M.cW]);refine(o K).mono ?_;rintro e w1⟨x,P⟩;have l:=d;rw[M.cW]at l;cases Q:xH m dP i with
 |stuck=>grind
 |stop c p=>
  rw[Q]at x l;obtain⟨j,rfl,B,F⟩:=x;have A:=V l;clear l Q K P o d;go_wp2;exact⟨D,nY A B F⟩
 |ok r X=>
  have⟨last,mark⟩:=r;have⟨hll,k⟩:=P _ _ Q;rw[Q]at x l;obtain⟨f,h1,s,rfl,t,v⟩:=x;replace a3:=V (show At E f0 (ln i.d) w0 f X w1 from⟨t,h1,s,v,a3.hw⟩);replace d:=V l;obtain⟨w,hw⟩:∃w,w=w1:=⟨_,D⟩;rw[<-hw]at a3|-;clear h1 s t v l Q K P o hw;dsimp only at hll k d;have hl:=a3.lt;go_wp21;refine mE (abG E last) a3 d HS D lT ?_;clear a3 d;rintro(_) X w a3 u d q;replace q:=q;replace k:mark<ln X.d:=by rw[UY q];exact k
  clear q;have hl:=a3.lt;have⟨ia,ha,hR2,hin⟩:=aae d HS;have n:Calls prog 240 #[gU E.A 188,oV f (H m)] w (JK w (oV f (dT X.A (jf X.A (H m)-1)))):=by obtain⟨L,rfl,Q⟩:=a3.rel;exact yX Q (H m) (N.vm (a3.rel.wf.A _ hin))
  rw[ha,show oV f (H m)=nV f0 m from a3.out.nv a0]at n;replace d:=V hR2;clear hR2 ha hin;go_wp21;refine n.mono ?_;rintro e I⟨rfl,rfl⟩;clear n;go_wp21;refine mE (Lr E (eK E) ia) a3 d HS D lT ?_;clear a3 d;rintro(pl) X w a3 u d q;replace q:=q;replace k:mark<ln X.d:=by rw[QP q];exact k
  clear q;go_wp21;refine mE (EW E pl last) a3 d HS D lT ?_;clear a3 d;rintro(_) X w a3 u d q;replace q:=q;replace k:mark<ln X.d:=by rw[abf q];exact k
  clear q;go_wp21;refine dC (NF E m) a3 d HS ((by grind[At.nv,Hid.out])) lT ?_;clear a3 d;rintro(g) f X w a3 G u d;have a2:=G mark k;go_wp21;refine As (λK=>(show Calls prog 369 #[nV f0 dP,nV f g] w (iW E f (ln X.d) w (mG dP g X) uV)from by rw[<-a3.out.nv U];exact WH a3.rel dP g K)) a3 d HS lT ?_;clear a3 d;rintro(_) X w a3 u d;have hl:=a3.lt;go_wp21;refine mC (Hk E dP) a3 d HS ((by grind[At.nv,Hid.out])) lT ?_;clear a3 d;rintro(a1) X w a3 u d;go_wp21;refine mC (EW E a1 g) a3 d HS D lT ?_;clear a3 d;rintro(_) X w a3 u d;have hl:=a3.lt;go_wp21;refine mC (Pr E (H mark) (H g)) a3 d HS ((by show #[_,nV f mark,nV f g]=_;simp)) lT ?_;clear a3 d;rintro(_) X w a3 u d;have hl:=a3.lt;go_wp21;refine mC (DL E (H m)) a3 d HS ((by show #[_,nV f m]=_;grind[At.nv,Hid.out])) lT ?_;clear a3 d;rintro(_) X w a3 u d;have hl:=a3.lt;go_wp21;refine mC (EQ E (H m)) a3 d HS ((by show #[_,nV f m]=_;grind[At.nv,Hid.out])) lT ?_;clear a3 d;rintro(_) X w a3 u d;have hl:=a3.lt;go_wp21;refine mC (QN E (H dP) (H g)) a3 d HS ((by show #[_,nV f dP,nV f g]=_;grind[At.nv,Hid.out])) lT ?_;clear a3 d;rintro(_) X w a3 u d;go_wp2;go_end0;exact cF d a3 D
attribute [local go_sem] db
def RF.k{g:Nat->Nat}(h:RF E g X W)(a:X.dO (H i)=C):(binOp .eql 68 (nV g i) (.pointer F)).run prog W=.ok (.bool I) W:=by obtain⟨L,rfl,Q⟩:=h;have:=Cx (Q.dO a) (Q.dO (x:=F) D);exact this
theorem yR:∀{d:iU},X.pX s d=H i->H i∈d
 |[],h=>by cases h
 |none::_,h=>by cases h
 |some k::r,h=>by unfold N.pX at h;split at h;grind;exact gS _ (yR h)
theorem JR{f:Nat}:∀{d:iU} {b:fW},X.uO f d b=H i->H i∈d\/b=H i
 |[],b,h=> .inr h
 |x::r,b,h=>by
  unfold N.uO at h;split at h;grind
  .rcases JR h with h|h
   all_goals grind
theorem GY(E:fS)(s:O):pL E 320 (λ_=>#[Bp E,Y s]) (lQ s) bV:=by
 intro f X w h y;obtain⟨R,m⟩:∃R,R=lQ s X:=⟨_,D⟩;rw[<-m]at y|-;have P:=EE h s;have j:=At.start h;have HS:=y;have hl:=h.lt;cases hla:X.lU s with
 |none=>
  have k:R=(oP s>>=λ_=>(aG I:M Bool)) X:=by rw[m];unfold lQ;rw[hla]
  have l:=V k;rw[hla]at P;clear h y m k hla;go_enter func320,ntmps320;go_wp21;refine P.mono ?_;rintro e U⟨rfl,g⟩;replace j:=j.k0 g;clear g P;go_wp21;refine dC (Kl E s) j l HS D lT ?_;clear j l;rintro(_) f X w j A r l;go_wp2;go_ret;exact cF l j D
 |some i=>
  have a:H i∈X.B:=by have:=yR hla;simpa using this
  have u:X.dO (H i)=C:=h.wf.B _ a;rw[hla]at P;have p:=(λ(W:J) (g:Z [] w W)=>(h.h g).alU (H i) u);have c:=(λ(W:J) (g:Z [] w W)=>(h.h g).k u);by_cases o:H i∈X.A
  .rw[sx o]at p;have x:=(λ(W:J) (g:Z [] w W)=>H8 (h.h g) i u);have z:=(λ(W:J) (g:Z [] w W)=>MJ (h.h g) i u);cases hsc:X.nD i with
   |false=>
    have k:R=.ok I X:=by rw[m];unfold lQ;rw[hla];dsimp only;rw[di (by grind),hsc];rfl
    have l:=V k;rw[hsc]at x;clear h y m k hla a u o hsc z;go_enter func320,ntmps320;go_wp21;refine P.mono ?_;rintro e U⟨rfl,d⟩;replace j:=j.k0 d;have n:=p U d;have q:=c U d;clear P p;unfold nV at q;go_wp21;refine n.mono ?_;rintro e v⟨rfl,K⟩;subst K;clear n;go_wp21;refine(x _ d).mono ?_;rintro e w2⟨rfl,g⟩;replace j:=j.k0 g;replace d:=d.trans g;clear g x q;go_wp2;go_ret;exact cF l j D
   |true=>
    rw[hsc]at x;cases hbb:X.pO i with
    |none=>
     have k:R=(Aw (H i)>>=λ_=>iP (H i)>>=λ_=>(aG I:M Bool)) X:=by rw[m];unfold lQ;rw[hla];dsimp only;rw[di (by grind),hsc,hbb];rfl
     have l:=V k;rw[hbb]at z;clear h y m k hla a u o hsc hbb;go_enter func320,ntmps320;go_wp21;refine P.mono ?_;rintro e U⟨rfl,d⟩;replace j:=j.k0 d;have n:=p U d;have q:=c U d;clear P p;unfold nV at q;go_wp21;refine n.mono ?_;rintro e v⟨rfl,K⟩;subst K;clear n;go_wp21;refine(x _ d).mono ?_;rintro e w2⟨rfl,g⟩;replace j:=j.k0 g;replace d:=d.trans g;clear g x q;go_wp21;refine(z _ d).mono ?_;rintro e w3⟨rfl,g⟩;replace j:=j.k0 g;replace d:=d.trans g;clear g z;have hl:=j.lt;go_wp21;refine mC (aew E (H i)) j l HS D lT ?_;clear j l;rintro(_) X w j r l;have hl:=j.lt;go_wp21;refine mC (DL E (H i)) j l HS D lT ?_;clear j l;rintro(_) X w j r l;go_wp2;go_ret;exact cF l j D
    |some b=>
     have a0:H b∈X.A:=by
      rcases JR (b:=F) hbb with h|h
      simpa using h
      cases h
     have a2:X.dO (H b)=C:=N.vm (h.wf.A _ a0);have a1:=(λ(W:J) (g:Z [] w W)=>(h.h g).k a2);have k:R=(uu i b>>=λ_=>(aG C:M Bool)) X:=by rw[m];unfold lQ;rw[hla];dsimp only;rw[di (by grind),hsc,hbb];rfl
     have l:=V k;have B:=(λ(W:J) (g:Z [] w W) (t:uu i b X≠ .stuck)=>aa6 (h.h g) i b u a0 t);rw[hbb]at z;clear h y m k hla a u o hsc hbb a0 a2;go_enter func320,ntmps320;go_wp21;refine P.mono ?_;rintro e U⟨rfl,d⟩;replace j:=j.k0 d;have n:=p U d;have q:=c U d;clear P p;unfold nV at q;go_wp21;refine n.mono ?_;rintro e v⟨rfl,K⟩;subst K;clear n;go_wp21;refine(x _ d).mono ?_;rintro e w2⟨rfl,g⟩;replace j:=j.k0 g;replace d:=d.trans g;clear g x q;go_wp21;refine(z _ d).mono ?_;rintro e w3⟨rfl,g⟩;replace j:=j.k0 g;replace d:=d.trans g;clear g z;have a3:=a1 _ d;unfold nV at a3;go_wp21;refine dcH (λt=>B _ d t) j l HS lT ?_;clear j l;rintro(_) f X w j A r l;go_wp2;go_ret;exact cF l j D
  .rw[yx o]at p;have k:R=(iP (H i)>>=λ_=>(aG I:M Bool)) X:=by rw[m];unfold lQ;rw[hla];dsimp only;rw[dw o]
   have l:=V k;clear h y m k hla a u o;go_enter func320,ntmps320;go_wp21;refine P.mono ?_;rintro e U⟨rfl,g⟩;replace j:=j.k0 g;have n:=p U g;have q:=c U g;clear g P p c;unfold nV at q;go_wp21;refine n.mono ?_;rintro e v⟨rfl,K⟩;subst K;have hl:=j.lt;go_wp21;refine mC (DL E (H i)) j l HS D lT ?_;clear j l;rintro(_) X w j r l;go_wp2;go_ret;exact cF l j D
attribute [local go_sem] db
def GX{k:Nat}{R:pj Unit}(h:R=rL s (k+1) X):R=(lQ s>>=λb=>if b then rL s k else (aG ():M Unit)) X:=h
theorem Pw(E:fS)(s:O):pL E 277 (λ_=>#[Bp E,Y s]) (vU s) uV:=by
 intro f0 d w0 h HS;obtain⟨R,n⟩:∃R,R=vU s d:=⟨_,D⟩;rw[<-n]at HS|-;obtain⟨i,hi⟩:∃i,d.last=H i:=by
  cases hq:d.last with
  |some i=>simp
  |none=>grind[vU]
 have⟨ei,hei⟩:=h.wf.g hi;have a1:d.dO (H i)=C:=by show(d.h i).isSome=C;rw[hei];rfl
 have a:=h.A;rw[hi]at a;have c0:w0.cell? ⟨f0 i,0,F⟩=H (Y (d.nm i)):=by obtain⟨L,rfl,Q⟩:=h;exact Q.uR hei
 have K:=h.alT (H i) a1;have c:=At.start h;have hl:=h.lt;have A:f0 i<zq w0.heap:=by obtain⟨L,rfl,Q⟩:=h;exact Q.JO (N.n hei)
 have u:R=if fG (d.nm i) s&&!decide (H i∈d.B)then (wU>>=λ_=>(aG ():M Unit)) d else rL s 8 d:=by rw[n];unfold vU;rw[hi]
 clear h n hi hei a1;cases hq:fG (d.nm i) s with
 |false=>
  rw[hq]at u;have l:=V (show R=rL s 8 d from u);have t:((d.nm i).toList==s.toList)=I:=hq;clear u hq K;go_enter func277,ntmps277;go_wp21;refine a.mono ?_;rintro e j⟨rfl,y⟩;have x:=y.symm;subst x;clear a;rw[show oV f0 (H i)=dq (f0 i)from D];go_wp21
  go_loopw [27] (λv wr=>∃(k:Nat)(g:Nat->Nat)(U:N),v=G k/\k<=8/\At E f0 (ln d.d) w0 g U wr/\R=rL s (8-k) U) (λv _=>8-(intOf v).toNat)
  case atStart=>exact⟨0,f0,d,D,by omega,c,l⟩
  case round=>
   obtain⟨k,f,X,rfl,a2,p,z⟩:=hrel;have a3:ln d.d<=ln X.d:=p.le;by_cases hk:k<8
   .have P:=GX (R:=R) (X:=X) (s:=s) (k:=7-k) (by grind);replace c:=p;replace l:=V P;clear p z P;obtain⟨w,hw⟩:∃w,w=wr:=⟨_,D⟩;rw[<-hw]at c|-;clear hw;go_wp21;refine dC (GY E s) c l HS D lT ?_;clear c l;rintro(b) f X w c r o l;cases b with
    |false=>
     replace l:Hid (R=(aG ():M Unit) X):=l;go_wp2;go_end0;exact cF l c D
    |true=>
     have a0:Hid (R=rL s (7-k) X):=l;go_wp2;go_roundw
     case rel=>exact⟨k+1,f,X,by go_num,by omega,c,by rw[show 8-(k+1)=7-k by omega];exact a0⟩
     case measure=>simp[intOf];omega
   .have m:k=8:=by omega
    subst m;replace c:=p;replace l:=V (show R=(aG ():M Unit) X from z);clear p z;go_wp2;go_end0;exact cF l c D
 |true=>
  have t:((d.nm i).toList==s.toList)=C:=hq;by_cases q:H i∈d.B
  .rw[hq,sx q]at u;have l:=V (show R=rL s 8 d from u);rw[sx q]at K;clear u hq q;go_enter func277,ntmps277;go_wp21;refine a.mono ?_;rintro e j⟨rfl,y⟩;have x:=y.symm;subst x;clear a;rw[show oV f0 (H i)=dq (f0 i)from D];go_wp21;refine K.mono ?_;rintro e j⟨rfl,y⟩;have x:=y.symm;subst x;go_wp21
   go_loopw [27] (λv wr=>∃(k:Nat)(g:Nat->Nat)(U:N),v=G k/\k<=8/\At E f0 (ln d.d) w0 g U wr/\R=rL s (8-k) U) (λv _=>8-(intOf v).toNat)
   case atStart=>exact⟨0,f0,d,D,by omega,c,l⟩
   case round=>
    obtain⟨k,f,X,rfl,a2,p,z⟩:=hrel;have a3:ln d.d<=ln X.d:=p.le;by_cases hk:k<8
    .have P:=GX (R:=R) (X:=X) (s:=s) (k:=7-k) (by grind);replace c:=p;replace l:=V P;clear p z P;obtain⟨w,hw⟩:∃w,w=wr:=⟨_,D⟩;rw[<-hw]at c|-;clear hw;go_wp21;refine dC (GY E s) c l HS D lT ?_;clear c l;rintro(b) f X w c r o l;cases b with
     |false=>
      replace l:Hid (R=(aG ():M Unit) X):=l;go_wp2;go_end0;exact cF l c D
     |true=>
      have a0:Hid (R=rL s (7-k) X):=l;go_wp2;go_roundw
      case rel=>exact⟨k+1,f,X,by go_num,by omega,c,by rw[show 8-(k+1)=7-k by omega];exact a0⟩
      case measure=>simp[intOf];omega
    .have m:k=8:=by omega
     subst m;replace c:=p;replace l:=V (show R=(aG ():M Unit) X from z);clear p z;go_wp2;go_end0;exact cF l c D
  .rw[hq,yx q]at u;have l:=V (show R=(wU>>=λ_=>(aG ():M Unit)) d from u);rw[yx q]at K;clear u hq q;go_enter func277,ntmps277;go_wp21;refine a.mono ?_;rintro e j⟨rfl,y⟩;have x:=y.symm;subst x;clear a;rw[show oV f0 (H i)=dq (f0 i)from D];go_wp21;refine K.mono ?_;rintro e j⟨rfl,y⟩;have x:=y.symm;subst x;go_wp21;obtain⟨w,hw⟩:∃w,w=w0:=⟨_,D⟩;refine mC (Df E) c l HS D lT ?_;clear c l;rintro(_) X w c o l;go_wp2;go_end0;exact cF l c D
attribute [local go_sem] db
def aee(g:Nat->Nat)(i:Nat)(W:J):(binOp .neq 68 (nV g i) (.pointer F)).run prog W=.ok (.bool C) W:=run_neq_pointer_nil W 68 _ Ki
def UL(E:fS)(t:dj)(a:gz E t):qU E t 199 (pd t):=by
 intro f0 g w0 h K;obtain⟨R,q⟩:∃R,R=pd t g:=⟨_,D⟩;rw[<-q]at K|-;have p:=EE h xv;have a0:=V (At.start h);have HS:=K;have hl:=h.lt;cases hla:g.lU xv with
 |none=>
  have k:R=(fj t>>=λ_=>(aG ():M Unit)) g:=by rw[q];unfold pd;rw[hla]
  have d:=V k;rw[hla]at p;clear h K q k hla;go_enter func199,ntmps199;go_wp21;refine p.mono ?_;rintro e w⟨rfl,y⟩;replace a0:=V (a0.k0 y);clear y p;go_wp21;refine dC (mJ E t a) a0 d HS D lT ?_;clear a0 d;rintro(_) f X w a0 U z d;go_wp2;go_end0;exact cF d a0 D
 |some i=>
  have l:H i∈g.B:=by have:=yR hla;simpa using this
  have u:g.dO (H i)=C:=h.wf.B _ l;have x:i<ln g.d:=N.kT (U:=g) (i:=i) u;have k:R=(vU xv>>=λ_=>iP (H i)>>=λ_=>iH (H i)>>=λ_=>fj t>>=λ_=>(aG ():M Unit)) g:=by rw[q];unfold pd;rw[hla]
  have d:=V k;rw[hla]at p;clear h K q k hla l u;go_enter func199,ntmps199;go_wp21;refine p.mono ?_;rintro e w⟨rfl,y⟩;replace a0:=V (a0.k0 y);have P:=aee f0 i w;clear y p;unfold nV at P;rw[show oV f0 (H i)=dq (f0 i)from D];go_wp21;refine dC (Pw E xv) a0 d HS D lT ?_;clear a0 d;rintro(_) f X w a0 U z d;have hl:=a0.lt;go_wp21;refine mC (DL E (H i)) a0 d HS ((by show #[_,nV f i]=_;rw[a0.out.nv x])) lT ?_;clear a0 d;rintro(_) X w a0 z d;have hl:=a0.lt;go_wp21;refine mC (EQ E (H i)) a0 d HS ((by show #[_,nV f i]=_;rw[a0.out.nv x])) lT ?_;clear a0 d;rintro(_) X w a0 z d;go_wp21;refine dC (mJ E t a) a0 d HS D lT ?_;clear a0 d;rintro(_) f X w a0 U z d;go_wp2;go_end0;exact cF d a0 D
def IW(E:fS)(t:dj):qU E t 211 (rh t):=by refine dI λf X w R d HS q=>?_;go_enter func211,ntmps211;have⟨ta,tb,tao,tn,tcp,HTG⟩:=Fi E t q.rel;have g:=λw=>AG ta tb t.name tao tn tcp w;go_wp21;refine(HTG _).mono ?_;rintro e p⟨rfl,h⟩;replace q:=q.k0 h;go_wp21;refine dC (Pw E t.name) q d HS D lT ?_;rintro(_) f X w q l k d;go_wp2;go_end0;exact cF d q D
attribute [local go_sem] db
section
variable (E:fS)(t:dj)(hG:∀i,pL E 271 (λf=>#[Bp E,nV f i,kP E t]) (uW i t) uV)
include hG
theorem WC:qU E t 185 (mF t):=by
 intro f X w h HS;obtain⟨R,l⟩:∃R,R=mF t X:=⟨_,D⟩;rw[<-l]at HS|-;obtain⟨i,hi⟩:∃i,dT X.A 0=H i:=by
  cases hq:dT X.A 0 with
  |some i=>simp
  |none=>grind[mF]
 have d:R=(uW i t>>=λ_=>(aG ():M Unit)) X:=by rw[l];unfold mF;rw[hi]
 have k:=h.u 0;rw[hi]at k;have K:=At.start h;have g:=V d;have hl:=h.lt;have u:=hG;clear h l d hi hG;go_enter func185,ntmps185;go_wp21;refine k.mono ?_;rintro e z⟨rfl,q⟩;have p:=q.symm;subst p;clear k;go_wp21;refine dC (u i) K g HS D lT ?_;clear K g;rintro(_) f X w K y x g;go_wp2;go_end0;exact cF g K D
def WB:qU E t 186 (nA t):=by
 intro f X w h y;obtain⟨R,u⟩:∃R,R=nA t X:=⟨_,D⟩;rw[<-u]at y|-;have p:=h.u 1;have a0:=At.start h;have HS:=y;have hl:=h.lt;have z:=hG;cases hi:dT X.A 1 with
 |none=>
  have d:R=.ok () X:=by rw[u];unfold nA;rw[hi]
  rw[hi]at p;have q:=V d;clear h y u d hi hG z;go_enter func186,ntmps186;go_wp21;refine p.mono ?_;rintro e a⟨rfl,k⟩;have g:=k.symm;subst g;clear p;go_wp2;go_end0;exact cF q a0 D
 |some i=>
  obtain⟨j,l⟩:∃e,X.h i=H e:=dh.1 (h.wf.A _ (A9 hi));have c0:w.cell? ⟨f i,0,F⟩=H (Y (X.nm i)):=by obtain⟨L,rfl,Q⟩:=h;exact Q.uR l
  have U:f i<zq w.heap:=by obtain⟨L,rfl,Q⟩:=h;exact Q.JO (N.n l)
  have x:=aee f i w;rw[hi]at p;cases hq:fG (X.nm i) aO with
  |true=>
   have d:R=(uW i t>>=λ_=>(aG ():M Unit)) X:=by rw[u];unfold nA;rw[hi];dsimp only;rw[hq];rfl
   have q:=V d;have P:((X.nm i).toList==[98,111,100,121])=C:=by
    have K:(aO:O).toList=[98,111,100,121]:=by first|rfl|decide|simp
    rw[<-K];exact hq
   clear h y u d hi hG hq l;unfold nV at x;go_enter func186,ntmps186;go_wp21;refine p.mono ?_;rintro e a⟨rfl,k⟩;have g:=k.symm;subst g;clear p;rw[show oV f (H i)=dq (f i)from D];go_wp21;refine dC (z i) a0 q HS D lT ?_;clear a0 q;rintro(_) f X w a0 c b q;go_wp2;go_end0;exact cF q a0 D
  |false=>
   have d:R=.ok () X:=by rw[u];unfold nA;rw[hi];dsimp only;rw[hq];rfl
   have q:=V d;have P:((X.nm i).toList==[98,111,100,121])=I:=by
    have K:(aO:O).toList=[98,111,100,121]:=by first|rfl|decide|simp
    rw[<-K];exact hq
   clear h y u d hi hG hq l z;unfold nV at x;go_enter func186,ntmps186;go_wp21;refine p.mono ?_;rintro e a⟨rfl,k⟩;have g:=k.symm;subst g;clear p;rw[show oV f (H i)=dq (f i)from D];go_wp2;go_end0;exact cF q a0 D
end
def aiI(L M:iB):flat (L++M)=flat L++flat M:=GL ..
structure alo(w:J)(v:dB)(bY:iB)(v':dB)(w':J):Prop where
 row:AX w' v' bY
 E:Z v.ownBlock.toList w w'
 new:v'.ownBlock=v.ownBlock\/∀k,v'.ownBlock=H k->zq w.heap<=k
theorem fk.y{w1:J}(h:fk E L X w){e:mh}(n:X.h i=H e)(o:l4 e.name=C)(hf:X.E=C)(a:O×O)(G:ln e.A<4096)(K:alo w (L.B i) (e.A++[a]) v' w1):fk E {L with B:=λx=>if x=i then v' else L.B x} (X.l i {e with A:=e.A++[a]}) (w1.setCell ⟨L.K i,1,F⟩ v')/\Fr E.bs w (w1.setCell ⟨L.K i,1,F⟩ v'):=by
 have b:=N.n n;have a3:(X.h i).isSome=C:=by rw[n];rfl
 have⟨hEl,hAt,hAl⟩:=h.B i _ (N.eH n);have U:∀g,(L.B i).ownBlock=H g->∃c m,w.heap[g]?=H (.cells c 295 m):=λg o=>rG hAt o;have a1:L.K i∉(L.B i).ownBlock.toList:=by
  intro u;have A:(L.B i).ownBlock=H (L.K i):=by simpa using u
  exact Dp hAt hEl.dP (by decide) A
 have b1:=K.E.at hEl.dP a1;obtain⟨P,z⟩:∃P,P=w1.setCell ⟨L.K i,1,F⟩ v':=⟨_,D⟩;rw[<-z];have b2:P.heap[L.K i]?=H (dr #[Y e.name,v',jl (fx L.K e.E),L.A i] 138):=by rw[z];exact bH b1 1 v'
 have y:Z (L.K i::(L.B i).ownBlock.toList) w P:=by rw[z];exact(K.E.mono (λk y _=>gS _ y)).setCell (.inl (by simp)) _
 have r2:AX P v' (e.A++[a]):=by rw[z];exact qo (a:=⟨L.K i,1,F⟩) K.row (Dp K.row b1 (by decide)) v'
 have f:KT E.bs [138,295] w P:=.q y (λk y _=>by
  rcases bZ.1 y with rfl|y;exact⟨⟨_,_,_,hEl.dP,by simp⟩,h.X i b⟩;have a0:(L.B i).ownBlock=H k:=by simpa using y
  have⟨c,m,hc⟩:=U k a0;exact⟨⟨_,_,_,hc,by simp⟩,h.U i k b a0⟩)
 have q:ln (X.l i {e with A:=e.A++[a]}).d=ln X.d:=N.gP _ _ _;have a2:∀j,((X.l i {e with A:=e.A++[a]}).h j=F↔X.h j=F):=by intro j;by_cases p:j=i;grind[N.gu];grind[N.s]
 have hold:∀j g,j<ln X.d->j≠i->v'.ownBlock=H g->(L.B j).ownBlock≠H g:=by intro j g p l d r;rcases K.new with e1|e1;rw[e1]at d;exact h.T i j e g n o p (yz l) d r;grind[PD]
 have⟨Co,hbl,hC⟩:=h.dP;refine⟨?_,f.d (by decide)⟩;exact
  {d:=h.d.trans (f.d (by decide))
   env:=h.env
   k:=h.k
   B:=by
    intro j nd p;rcases N.wx p with⟨rfl,rfl⟩|⟨l,p⟩
    .refine⟨⟨?_,?_,hEl.le,?_⟩,?_,?_⟩
     all_goals grind[KT.row,El.row,df]
    have v:=(dG.1 p).1;have t:kI E.bs L P j nd:=by refine(h.B j nd p).kept y ?_ ?_ ?_;intro u;rcases bZ.1 u with e1|u;exact l (h.inj _ _ e1);grind[VL];grind[F8,El.dP];intro g d u;rcases bZ.1 u with e1|u;grind[PD,El.dP];exact h.T i j e g n o v (yz l) (by grind) d
    cases nd with
    |el e'=>grind[kI]
    |tx s=>exact t
    |cm s=>exact t
    |dt s=>exact t
   inj:=h.inj
   b:=by grind[fk.b]
   m:=λj p B=>h.m j (by omega) ((a2 j).1 B)
   T:=by grind[N.n,N.s,fk.T]
   f:=by grind[fk.f]
   wf:=h.wf.l a3 (h.wf.E i e n) (h.wf.q i e n)
   dP:=⟨Co,f.at hbl (by decide),⟨hC.size,hC.low,hC.A,hC.B,hC.head,hC.j,hC.g,hC.kept,hC.wait,hC.q,hC.W,hC.K,hC.P⟩⟩
   R:=f.row h.R (by decide)
   S:=f.row h.S (by decide)
   o:=h.o,P:=h.P,W:=h.W
   K:=f.row h.K (by decide)
   s:=h.s
   rd:=f.at h.rd (by decide)
   u:=h.u
   tok:=y.ownsRow h.tok (λg d u=>by rcases bZ.1 u with e1|u;have⟨c,m,hc⟩:=rG h.tok d;grind[El.dP];grind[fk.c])
   q:=h.q,t:=h.t,A:=h.A,Q:=h.Q
   X:=by rw[q];exact h.X
   c:=by intro _ j g p d;rw[q]at p;by_cases l:j=i;subst l;simp only[Cg];intro r;rcases K.new with e1|e1;grind[fk.c];have:=e1 g r;have⟨c,m,hc⟩:=rG h.tok d;grind;grind[fk.c]
   U:=by intro j g p d;rw[q]at p;by_cases l:j=i;subst l;simp only[Cg]at d;rcases K.new with e1|e1;rw[e1]at d;exact h.U j g p d;exact gR h.bw (e1 g d);simp only[di l]at d;exact h.U j g p d
   a:=h.a
   r:=h.r}
attribute [local go_sem] db
def Ky(i:Nat)(a:O×O)(r:iB)(X:N):oR i (a::r) X=(match X.h i with
  |none=> .stuck
  |some e=>if vi e.A a.1 then oR i r X else if X.T<=ln e.A then .stop 7 X.K else oR i r (X.l i {e with A:=e.A++[a]})):=rfl
def abb{o:Oper}{c:Nat->Option Bool}{e:Act->J->Prop}{f:Exit->Act->J->Prop}{d:Prop}(s x:Operand)(t:TypeId)(g:o.op=.call {callee:=.builtin .append,args:=#[s,x],argTypes:=#[t,t]})(l:o.guard=F)(v u:dB)(k:a.eval s=v)(p:a.eval x=u)(b:(Builtin.append_ #[t,t] o.type #[v,u]).run prog w=.ok v' P)(h:e (a.put o.dst v') P):if ub o c=C then Oper.wp prog o a w e f else d:=by rw[dw (by unfold ub;rw[l])];unfold Oper.wp execOp;simp[g,resolve,invoke,builtin,k,p,b];exact h
structure Vu(w:J)(v:dB)(n:Nat)(bY:iB)(v':dB)(W:J):Prop where
 e:alo w v bY v' W
 shape:∃ao cp,v'=.slice ao (n+1) cp
theorem Vu.at(h:Vu w v n bY v' W){k:Nat}{T:TypeId}(d:w.heap[k]?=H (dr c T))(e:v.ownBlock≠H k):W.heap[k]?=H (dr c T):=h.e.E.at d (by grind)
theorem Vu.cell(h:Vu w v n bY v' W){k:Nat}{g l p:dB}{T:TypeId}(e:w.heap[k]?=H (dr #[g,v,l,p] T))(d:v.ownBlock≠H k):W.cell? ⟨k,1,F⟩=H v:=by rw[aF (h.at e d)];rfl
theorem Sf(w W:J)(d:Z [] w W)(y:AX w (.slice ao (ln bY) cp) bY)(k:Nat)(a b:O)(x:W.heap[k]?=H (dr #[Y a,Y b] 295))(K:ln bY<=4096):∃v' P,(Builtin.append_ #[135,135] 135 #[.slice ao (ln bY) cp,lO k 1 1]).run prog W=.ok v' P/\Vu w (.slice ao (ln bY) cp) (ln bY) (bY++[(a,b)]) v' P:=by
 obtain⟨z,hi,l,p,q⟩:=sZ (show(prog.info? 295).map (λi=>(i.zero,i.size,i.bytes))=H (H (.agg #[Y iJ,Y iJ]),2,32) by kernel_rfl);have⟨v',P,h1,h2,h3,h4⟩:=zx W 0 135 135 295 z _ 2 32 underlying135 hi l p q D (by decide) (.slice ao (ln bY) cp) (ln bY) (flat bY) (d.ownsRow y (λ_ _=>by simp)) ⟨k,0,F⟩ 1 1 [Y a,Y b] D (λj u g=>by rw[fC,aF x,<-g];simp) (λu g=>by simp at g;rcases g with rfl|rfl<;>rfl) (by unfold maxLen;omega) (by omega) (eZ _)
 refine⟨v',P,h1,⟨?_,((d.mono (by simp)).grown h3 (λk d=> .inl (by grind))),?_⟩,?_⟩;grind[flat];rcases h4 with e|e;grind;exact .inr λk h=>gR d.size (e k h);grind[df]
def MX(w2:J)(a b:O)(k:dB)(n:Nat)(bY:iB)(c:Nat)(g:Nat×dB)(l h d:Bool)(W:J):Prop:=(h=I->Z [] w2 W/\(l=C->W.heap[g.1]?=H (dr #[Y a,Y b] 295)))/\(h=C->d=I->Vu w2 k n bY g.2 W)/\(d=C->∃e,Vu w2 k n bY g.2 e/\W=e.setCell ⟨c,1,F⟩ g.2)
theorem MX.q{a b:O}{e:dB}{g:Nat×dB}{z:Array Bool}(h:MX w2 a b e n bY fi g (dn z 6) (dn z 7) (dn z 10) W){k:Nat}(l:k≠6)(p:k≠7)(d:k≠10):MX w2 a b e n bY fi g (dn (z.setIfInBounds k C) 6) (dn (z.setIfInBounds k C) 7) (dn (z.setIfInBounds k C) 10) W:=by rw[jy l,jy p,jy d];exact h
theorem adC(E:fS)(t:dj)(ht:gz E t)(i:Nat):pL E 271 (λf=>#[Bp E,nV f i,kP E t]) (uW i t) uV:=by
 intro f X w h y;obtain⟨R,p⟩:∃R,R=uW i t X:=⟨_,D⟩;rw[<-p]at y|-;have K:(X.E&&l4 (X.nm i))=C:=by
  cases hq:(X.E&&l4 (X.nm i))with
  |true=>rfl
  |false=>unfold uW at p;grind
 have a3:R=oR i t.h X:=by rw[p];unfold uW;rw[K];rfl
 rw[fq]at K;have⟨S,O⟩:=K;have⟨x,j,nm,ao,cp,hTV,G,hrow⟩:=(show∃x j nm ao cp,Dy E t=#[.int .i64 x,.int .i64 j,.string nm,.slice ao (ln t.h) cp]/\(ln t.h)<=4096/\∀f X w,RF E f X w->AX w (.slice ao (ln t.h) cp) t.h by
   have⟨L,e,Q⟩:=h;have⟨ao,cp,ah⟩:=df Q.tok;have⟨a,b,k,bY⟩:=t;cases k with
   |start n=>
    have e:=ht D;subst e;exact⟨a,b,n,ao,cp,by grind[Dy,dj.h],Q.q,λf X w ⟨L,_,h⟩=>by show AX w (.slice ao (ln E.B) cp) E.B;grind[fk.tok]⟩
   |stop n=>
    have e:=ht D;subst e;exact⟨a,b,n,ao,cp,by grind[Dy,dj.h],Q.q,λf X w ⟨L,_,h⟩=>by show AX w (.slice ao (ln E.B) cp) E.B;grind[fk.tok]⟩
   |fI s=>exact⟨0,0,_,F,0,D,eZ _,λ_ _ _ _=>mY _ _ _ _⟩
   |dz s=>exact⟨0,0,_,F,0,D,eZ _,λ_ _ _ _=>mY _ _ _ _⟩
   |eG n q=>exact⟨0,0,_,F,0,D,eZ _,λ_ _ _ _=>mY _ _ _ _⟩
   |ic=>exact⟨0,0,_,F,0,D,eZ _,λ_ _ _ _=>mY _ _ _ _⟩
   |dZ=>exact⟨0,0,_,F,0,D,eZ _,λ_ _ _ _=>mY _ _ _ _⟩)
 have ah:∃ao n cp,E.a=.slice ao n cp:=by have⟨L,_,Q⟩:=h;have⟨ao,cp,e⟩:=df Q.tok;exact⟨ao,_,cp,e⟩
 have C1:=λW=>AF E t W ah;rw[hTV]at C1;generalize t.h=bY at *;have ai:=V C1;have al:=V hrow;have HS:=V y;have aQ:=V (At.start h);have c:=V S;have o:=V O;have HR:=V a3;clear C1 hrow y h S O p a3 hTV ah ht;go_enter func271,ntmps271;go_wp21;refine(ai.out _).mono ?_;rintro e w1⟨rfl,an⟩;replace aQ:=V (aQ.out.k0 an);clear an ai;have aB:=λ(w:J)=>GD x j nm ao (ln bY) cp w;go_wp21;clear aB
 go_loopw [12] (λv wr=>∃(l:Nat)(U:N),v=.int .i64 l/\l<=ln bY/\R=oR i (bY.drop l) U/\At E f (ln X.d) w f U wr/\U.E=C/\l4 (U.nm i)=C) (λv _=> ln bY-(intOf v).toNat)
 case atStart=>exact⟨0,X,D,eZ _,HR.out,aQ.out,c.out,o.out⟩
 case round=>
  clear aQ c o HR;obtain⟨l,U,rfl,aM,p,a1,S,O⟩:=hrel;by_cases aq:l<ln bY
  .obtain⟨g0,rfl,c0,c1⟩:=AX.d (al.out _ _ _ a1.rel) aq;rw[xu aq]at p;obtain⟨e,T⟩:∃e,U.h i=H e:=by
    cases hq:U.h i with
    |some e=>simp
    |none=>rw[Ky,hq]at p;exact absurd p HS.out
   have a3:R=(if vi e.A bY[l].1 then oR i (bY.drop (l+1)) U else if U.T<=ln e.A then .stop 7 U.K else oR i (bY.drop (l+1)) (U.l i {e with A:=e.A++[bY[l]]})):=by rw[p,Ky,T]
   have ar:U.nm i=e.name:=by unfold N.nm;rw[T]
   rw[ar]at O;have au:bY[l]=(bY[l].1,bY[l].2):=rfl;generalize bY[l].1=a at *;generalize bY[l].2=b at *;rw[au]at a3;have hK:Z [] wr (wr.alloc (.cells #[.string a,.string b] 295 (0,0))):=(Z.refl _ _).alloc _;have hB:=aY wr (.cells #[.string a,.string b] 295 (0,0));have⟨L,hL,Q⟩:=(a1.k0 hK).rel;have⟨m,d,hAl⟩:=Q.B i _ (N.eH T);have C2:=V (aj4 (L.K i) e.name (L.B i) _ _ e.A a _ m.dP d hAl);rw[hL]at C2;have B:=V T;have a0:=V a3;have A:=V (a1.k0 hK);have Y:=V hB;have aL:=V (fp hB);have c:=V S;have o:=V O;clear p a3 T a1 hK hB Q m d hAl S O ar au hL;go_wp21;refine C2.out.mono ?_;rintro e2 w2⟨rfl,ag⟩;replace A:=V (A.out.k0 ag);replace Y:=V (ag.at Y.out (by simp));clear ag C2 L;cases hq:vi e.A a with
   |true=>
    have aI:=V (show R=oR i (bY.drop (l+1)) U by rw[a0.out,hq];rfl);clear hq a0;go_wp2;go_roundw
    case rel=>exact⟨l+1,U,by go_num,by omega,aI.out,A.out,c.out,by unfold N.nm;rw[B.out];exact o.out⟩
    case measure=>simp[intOf];omega
   |false=>
    have⟨L,hL,Q⟩:=A.out.rel;have m:=(Q.B i _ (N.eH B.out)).1;have d:=(Q.B i _ (N.eH B.out)).2.1;have⟨ao2,cp2,hav⟩:=df d;have d0:w2.cell? ⟨f i,1,F⟩=H (.slice ao2 (ln e.A) cp2):=by rw[<-hL,aF m.dP,<-hav];rfl
    have d1:w2.cell? ⟨E.A,2,F⟩=H (.int .i64 (U.T:Int)):=Q.low (by decide) Q.k.2.2.1;have aK:=Q.k.2.2.2.2.2;have ap:f i<zq w2.heap:=by rw[<-hL];exact fp m.dP
    have aP:=Q.lt;by_cases aa:U.T<=ln e.A
    .have aI:=V (show R=.stop 7 U.K by rw[a0.out,hq];simp[aa]);have C3:=V (λq=>Re (Q.drewN q) 7);clear hq a0 Q m d hav;go_wp21
     go_quiet (fail)
     go_wp21;refine(C3.out nq).mono ?_;rintro e3 w3⟨k,rfl,h1,h2⟩;have H1:=V h1;have H2:=V ((A.out.d.trans (Fr.drewN w2 nq)).trans h2);clear h1 h2 C3;go_wp2;exact⟨D,nY aI.out H1.out H2.out⟩
    .have aI:=V (show R=oR i (bY.drop (l+1)) (U.l i {e with A:=e.A++[(a,b)]}) by rw[a0.out,hq];simp[aa]);have a7:=V Q;have ad:=V hL;have ab:=V hav;have az:=V d0;have ae:=V ap;clear hq a0 Q m d hav hL;have ac:=V (show w2.heap[f i]?=H (.cells #[.string e.name,.slice ao2 (ln e.A) cp2,jl (fx L.K e.E),L.A i] 138 (0,0)) by have:=(a7.out.B i _ (N.eH B.out)).1.dP;rw[ad.out,ab.out]at this;rw[ad.out];omega)
     have a9:=V (show AX w2 (.slice ao2 (ln e.A) cp2) e.A by rw[<-ab.out];exact(a7.out.B i _ (N.eH B.out)).2.1);have ay:=V (a7.out.B i _ (N.eH B.out)).2.2;have ak:=V (Dp a9.out ac.out (by decide));have ax:=V (λW (hk:Z [] w2 W)=>kQ ae.out hk.size);have aj:=V ae.out;have aw:=V (λW (hk:Z [] w2 W)=>(hk.cell (p:=⟨f i,1,F⟩) ae.out (by simp)).trans az.out);have av:=V (λW (hk:Z [] w2 W)=>(⟨by rw[aF (hk.at Y.out (by simp))];rfl,by rw[aF (hk.at Y.out (by simp))];rfl⟩:W.cell? ⟨zq wr.heap,0,F⟩=H (.string a)/\W.cell? ⟨zq wr.heap,1,F⟩=H (.string b)));have aE:=V (show ln e.A<16 by omega);go_wp21
     go_quiet (fail)
     clear d0 ap;go_wp21;refine xr (by rfl) ?_;refine oW (λ(g:Nat×dB) z=>⟨#[Bp E,nV f i,kP E t,qu,qu,qu,qu,.pointer (H ⟨zq wr.heap,0,F⟩),kP E t,.agg #[.int .i64 x,.int .i64 j,.string nm,.slice (H ⟨g0,0,F⟩) (ln bY) cp],.slice (H ⟨g0,0,F⟩) (ln bY) cp,.int .i64 (ln bY:Int),.int .i64 (l:Int),.bool C,.pointer (H ⟨g0,l*2,F⟩),.agg #[.string a,.string b],nV f i,.pointer (H ⟨zq wr.heap,0,F⟩),.string a,.bool I,nV f i,.pointer (H ⟨f i,0,F⟩),.pointer (H ⟨f i,1,F⟩),.slice ao2 (ln e.A) cp2,.int .i64 (ln e.A:Int),Bp E,.pointer (H ⟨E.A,0,F⟩),.pointer (H ⟨E.A,0,F⟩),.pointer (H ⟨E.A,2,F⟩),.int .i64 (U.T:Int),.bool I,u31,u32,ce z 0 u33 (nV f i),ce z 1 u34 (nV f i),ce z 2 u35 (.pointer (H ⟨f i,0,F⟩)),ce z 3 u36 (.pointer (H ⟨f i,1,F⟩)),ce z 4 u37 (.slice ao2 (ln e.A) cp2),ce z 5 u38 (.agg #[.string a,.string b]),ce z 6 u39 (.slice (H ⟨g.1,0,F⟩) 1 1),ce z 7 u40 g.2,ce z 8 u41 (.pointer (H ⟨f i,0,F⟩)),ce z 9 u42 (.pointer (H ⟨f i,1,F⟩)),u43],[]⟩) (λg z W=>MX w2 a b (.slice ao2 (ln e.A) cp2) (ln e.A) (e.A++[(a,b)]) (f i) g (dn z 6) (dn z 7) (dn z 10) W) 11 [[],[],[1],[1,2],[1,2,3],[],[5],[1,2,3,4,5,6],[0,1,2,3,4,5,6,7],[0,1,2,3,4,5,6,7,8],[0,1,2,3,4,5,6,7,8,9]] (0,qu) D D ⟨λ_=>⟨((Z.refl _ _).drewN nq).drew,λh=>by cases h⟩,λh=>(by cases h),λh=>(by cases h)⟩ ?_ ?_
     .repeat' first|exact kY|refine kX ?_ ?_
      all_goals
       rintro g z W r K G;simp[Cm]at K;refine lz D ?_;intro K' a2;simp only[vX,K]
       first
       |have M:=(r.1 (G 7 (by decide))).1;have aA:=ax.out W M;have cc:=aw.out W M;have⟨c2,c3⟩:=av.out W M;go_simp;refine a2 _ _ ⟨g,?_,r.q (by decide) (by decide) (by decide)⟩;simp[vf,DS,vX,K]
       |have M:=(r.1 (G 7 (by decide))).1;go_simp;refine a2 _ _ ⟨(zq W.heap,g.2),?_,λ_=>⟨M.alloc _,λ_=>aY W _⟩,λh=>(by rw[jy (by decide),G 7 (by decide)]at h;cases h),λh=>(by rw[jy (by decide),G 10 (by decide)]at h;cases h)⟩;simp[vf,DS,vX,K,G 7 (by decide)]
       |go_simp;refine a2 _ _ ⟨g,?_,r.q (by decide) (by decide) (by decide)⟩;simp[vf,DS,vX,K]
       |skip
      have⟨M,h6⟩:=r.1 (by simp[K]);have⟨v',P,hap,u⟩:=Sf w2 W M a9.out g.1 a b (h6 (by simp[K])) ay.out;refine abb (.tmp 37) (.tmp 39) 135 D D (.slice ao2 (ln e.A) cp2) (.slice (H ⟨g.1,0,F⟩) 1 1) D D (v':=v') (P:=P) hap ?_;refine a2 _ _ ⟨(g.1,v'),?_,λh=>(by rw[nf]at h;cases h),λ_ _=>u,λh=>(by rw[jy (by decide),G 10 (by decide)]at h;cases h)⟩;simp[Act.put,vf,DS,vX,K]
      all_goals have u:=r.2.1 (by simp[K]) (by first|exact G 10 (by decide)|simp[K])
      all_goals first
       |have aA:=u.lt2 aj.out;go_simp;refine a2 _ _ ⟨g,?_,r.q (by decide) (by decide) (by decide)⟩;simp[vf,DS,vX,K]
       |skip
      have⟨g1,g2⟩:=g;have⟨ao9,cp9,e9⟩:=u.shape;dsimp only at e9;subst e9;have c9:=u.cell ac.out ak.out;have f9:W.frozen? ⟨(f i),1,F⟩=I:=cY (u.at ac.out ak.out) 1;go_simp;refine a2 _ _ ⟨(g1,_),?_,λh=>(by rw[jy (by decide)]at h;simp[K]at h),λ_ h=>(by rw[nf]at h;cases h),λ_=>⟨W,u,D⟩⟩;simp[vf,DS,vX,K]
     .rintro g W r;simp only[PM];have⟨W1,u,hW⟩:=r.2.2 tI;subst hW;have af:=a7.out.y B.out o.out c.out (a,b) (by omega) (v':=g.2) (w1:=W1) (by rw[ab.out];exact u.e);rw[ad.out]at af;have a8:=V af;clear r af;go_wp2;go_roundw
      case rel=>exact⟨l+1,_,by go_num,by omega,aI.out,A.out.to ⟨_,D,a8.out.1⟩ (lX (N.gP _ _ _).symm) a8.out.2,c.out,by unfold N.nm;rw[N.gu (N.n B.out)];exact o.out⟩
      case measure=>simp[intOf];omega
  .have HD:=V (show R=.ok () U by rw[p,Fw (by omega)];rfl);have A:=V a1;clear p a1;go_wp2;go_end0;exact cF HD.out A.out D
attribute [local go_sem] db
def UM(E:fS)(t:dj)(P:gz E t):qU E t 201 (sr t):=by
 refine dI λf X w R d HS b=>?_;unfold sr at d;go_enter func201,ntmps201;obtain⟨f0,a0⟩:∃f0,f0=f:=⟨_,D⟩;obtain⟨n0,a1⟩:∃n0,n0=ln X.d:=⟨_,D⟩;obtain⟨w0,a2⟩:∃w0,w0=w:=⟨_,D⟩;go_wp21;refine dC (rj E (eK E)) b d HS D lT ?_;rintro(_) f X w b y x d;have⟨kb,lbb,cb,HQ⟩:=b.rel.bounds;have z:=b.lt;have u:=cb;have U:=(Z.refl [] w).drew;go_wp21
 go_cut [13]from 6 to 12 (λr wc=>r=.bool (X.gH (cZ [fD]) (eP))/\Z [] w wc)
 case first=>
  go_region_with (first
   |(go_at_call 219;refine(lG E [fD] w.drew (by simp)).mono ?_;rintro e w1⟨k1,a3,rfl,k,l⟩;have h:=U.trans l;have c1:w1.cell? ⟨E.A,186,F⟩=H (.func (.func kb) #[] lbb):=(h.cell (p:=⟨E.A,186,F⟩) z (by simp)).trans u;have q:=V k;have g:=V h;clear k l h)
   |(go_at_call 232;refine(vE (b.k0 g).rel (cZ [fD]) eP _ _ q (HQ.k0 g)).mono ?_;rintro e w2⟨rfl,K⟩;have a:=V (g.trans K);clear K))
  all_goals (try (go_wp21))
  all_goals (go_meet;exact⟨D,a⟩)
 case rest=>
  obtain⟨rfl,hk⟩:=hcut;replace b:=b.k0 hk;cases hsc:X.gH (cZ [fD]) eP with
  |true=>
   replace d:Hid (R=(vU fD>>=λ_=>fj t>>=λ_=>(aG ():M Unit)) X):=by refine V ?_;rw[d.out];unfold tY;rw[hsc];rfl
   go_wp21;refine dC (Pw E fD) b d HS D lT ?_;rintro(_) f X w b y x d;go_wp21;refine dC (mJ E t P) b d HS D lT ?_;rintro(_) f X w b y x d;go_wp2;go_end0;exact cF d b D
  |false=>
   replace d:Hid (R=(fj t>>=λ_=>(aG ():M Unit)) X):=by refine V ?_;rw[d.out];unfold tY;rw[hsc];rfl
   go_wp21;refine dC (mJ E t P) b d HS D lT ?_;rintro(_) f X w b y x d;go_wp2;go_end0;exact cF d b D
def Z.d(h:Below w.heap.size w P):Z [] w P:=⟨h.os,h.tape,h.output,h.size,λk d _=>h.block k d⟩
def Gl(w:J)(r:Nat):Prop:=(∃m,w.cell? ⟨3,0,F⟩=H (G m))/\3<zq w.heap/\r≠3
theorem Gl.kept{r:Nat}(h:Gl w r)(d:Z [r] w P):Gl P r:=by have⟨⟨m,hm⟩,hl,hn⟩:=h;exact⟨⟨m,(d.cell hl (by grind)).trans hm⟩,kQ hl d.size,hn⟩
def jG(s:O):O:=⟨(Lib.replaceAll s.data.toList (eL #[0]).data.toList (eL #[239,191,189]).data.toList).toArray⟩
theorem yf(r:Nat)(s:O)(w:J)(h:s.size<=1048576)(a:Gl w r):dS 152 #[Y s] w (vc w (Y (jG s))):=by
 have⟨⟨m,hm⟩,_,_⟩:=a;have g:=Lib.countB_le ⟨#[0]⟩ (by decide) s.size s (dF _);have k:=Tryz.strings_ReplaceAll s ⟨#[0]⟩ ⟨#[239,191,189]⟩ m w (by omega) hm (by decide) (by have:(eL #[239,191,189]).size=3:=rfl;grind);go_enter func152,ntmps152;go_wp21;refine k.mono ?_;rintro e P⟨rfl,d⟩;go_wp2;go_ret;exact⟨D,Z.d d⟩
def low(c:Int):Int:=if 65<=c/\c<=90 then c+32 else c
def small(s:O):O:=⟨s.data.map λb=>if 65<=b.toNat/\b.toNat<=90 then b+32 else b⟩
theorem rU(s:O):(small s).size=s.size:=Array.size_map ..
theorem acG(s:O)(j:Nat)(h:j<s.size):bt (small s) j=low (bt s j):=by
 have d:j<(small s).size:=by rw[rU];exact h
 unfold bt low;rw[ug h,ug d];show(((small s).data[j]'d).toNat:Int)=_;have e:(small s).data[j]'d=(if 65<=(s.data[j]).toNat/\(s.data[j]).toNat<=90 then s.data[j]+32 else s.data[j]):=by simp[small]
 show _=(if 65<=((s.data[j]).toNat:Int)/\((s.data[j]).toNat:Int)<=90 then ((s.data[j]).toNat:Int)+32 else ((s.data[j]).toNat));grind[UInt8.toNat_add]
def uZ(g d:Nat)(s:O)(k:Nat)(w wr:J):Prop:=
 (∃e:io,wr.heap[g]?=H (.cells e 5 (d,d+1))/\e.size=d/\∀j,j<s.size->e[j]?=H (.int .u8 (if j<k then low (bt s j)else bt s j)))/\Z [] w wr
theorem uZ.cell{g d:Nat}{k:Nat}{wr:J}(h:uZ g d s k w wr)(l:s.size<=d)(j:Nat)(e:j<s.size):wr.cell? ⟨g,j,F⟩=H (.int .u8 (if j<k then low (bt s j)else bt s j))/\wr.frozen? ⟨g,j,F⟩=I:=by have⟨⟨Co,hC,_,h⟩,_⟩:=h;exact⟨by rw[AZ hC];grind,Ob hC j (by omega)⟩
theorem uZ.q{g d:Nat}{k:Nat}{wr:J}(h:uZ g d s k w wr)(hl:low (bt s k)=bt s k):uZ g d s (k+1) w wr:=by grind[uZ]
theorem yo(s:O)(w:J)(y:s.size<=1048576):dS 244 #[Y s] w (vc w (Y (small s))):=by
 have h:=run_bytes_of_string (P:=prog) w 9 58 5 s underlying9 underlying58 underlying5;obtain⟨cp,x⟩:∃cp,cp=grownCap w s.size 0 5:=⟨_,D⟩;rw[<-x]at h;clear x;have K:=BJ s cp;have f:∀j,j<s.size->(bytesRow s cp)[j]?=H (.int .u8 (bt s j)):=λj q=>by rw[bytesRow_at s cp j q,<-get_bt s j q];rfl
 generalize bytesRow s cp=R at h K f;obtain⟨u,g⟩:∃u,u=w.drew.alloc (.cells R 5 (R.size,R.size+1)):=⟨_,D⟩;rw[<-g]at h;have n:u.heap[zq w.heap]?=H (.cells R 5 (R.size,R.size+1)):=by rw[g];exact aY w.drew _
 have m:Z [] w u:=by rw[g];exact(Z.refl [] w).drew.alloc _
 clear g;have r:Hid (uZ w.heap.size R.size s 0 w u):=⟨⟨R,n,D,λj q=>by grind⟩,m⟩;clear n m f;generalize R.size=sz at *;go_enter func244,ntmps244;go_wp21;clear h
 go_loopw [10] (λi wr=>∃k:Nat,k<=s.size/\i=G k/\uZ w.heap.size sz s k w wr) (λi _=>s.size-(intOf i).toNat)
 case atStart=>exact⟨0,eZ _,D,r⟩
 case round=>
  obtain⟨k,hk,rfl,d⟩:=hrel;by_cases X:k<s.size
  .have⟨c1,f1⟩:=d.cell K k X;rw[di (by omega)]at c1;have t:=bt_nonneg s k;have h1:=bt_le s k;by_cases a:65<=bt s k
   .by_cases b:bt s k<=90;have z:uZ w.heap.size sz s (k+1) w (wr.setCell ⟨zq w.heap,k,F⟩ (.int .u8 (low (bt s k)))):=by have⟨⟨Co,hC,y,d⟩,hk⟩:=d;refine⟨⟨_,EJ hC k _,by grind,λj q=>?_⟩,hk.setCell (.inr (dF _)) _⟩;grind
    have l:low (bt s k)=bt s k-65+97:=by unfold low;rw[dw ⟨a,b⟩];omega
    rw[l]at z;clear l
    rotate_left
    have z:=d.q (by grind[low])
    all_goals
     generalize bt s k=c at *;go_wp2;go_roundw
     case rel=>grind
     case measure=>simp[intOf];omega
   .have z:=d.q (by grind[low]);generalize bt s k=c at *;go_wp2;go_roundw
    case rel=>grind
    case measure=>simp[intOf];omega
  .have e:k=s.size:=by omega
   subst e;have U:=by
    have:=XR (P:=prog) wr 58 9 5 ⟨zq w.heap,0,F⟩ cp (small s).data.toList underlying58 underlying5 underlying9 (λj q=>by
     have p:j<s.size:=by have:=rU s;simp at q;have e:(small s).data.size=(small s).size:=rfl;omega
     rw[fC];have:=(d.cell K j p).1;rw[dw p]at this;rw[this,<-acG s j p,<-get_bt (small s) j (by simp_all)];rfl)
    have e2:ln (small s).data.toList=s.size:=by simp;exact rU s
    rw[e2]at this
    simpa using this
   have o:=d.2;go_wp2;go_ret;exact⟨D,o⟩
theorem pU(x y:Int)(nm:O)(av:dB)(bY:iB)(w:J)(j:AX w av bY)(s:ln bY<=4096)(f:∀a∈bY,a.2.size<=1048576):dS 225 #[.agg #[G x,G y,Y nm,av]] w (vc w (.bool (uk bY))):=by
 have⟨ao,cp,hav⟩:=df j;subst hav;obtain⟨K,p⟩:∃K,K=w.alloc (dr #[G x,G y,Y nm,.slice ao (ln bY) cp] 192):=⟨_,D⟩;have h:Z [] w K:=by rw[p];exact(Z.refl _ _).alloc _
 have m:=h.ownsRow j (λ_ _=>by simp);have n:=V p.symm;have o:=f;clear p;obtain⟨R,c⟩:∃R,R=uk bY:=⟨_,D⟩;rw[<-c];have X:Hid (R=uk (bY.drop 0)):=V c;clear c;go_enter func225,ntmps225;go_wp21;rw[n.out]
 go_loopw [8] (λv wr=>∃d:Nat,v=G d/\d<=ln bY/\R=uk (bY.drop d)/\Z [] K wr) (λv _=> ln bY-(intOf v).toNat)
 case atStart=>exact⟨0,D,eZ _,X,Z.refl _ _⟩
 case round=>
  obtain⟨d,rfl,a2,u,z⟩:=hrel;by_cases l:d<ln bY
  .obtain⟨g,rfl,c0,c1⟩:=AX.d (z.ownsRow m (λ_ _=>by simp)) l;have f:=o bY[d] (uI l);rw[xu l]at u;have i:Hid (R=if fG bY[d].1 lY then fG (Xz bY[d].2) jT else uk (bY.drop (d+1))):=V u;have P:=V z;clear z u;generalize bY[d].1=a at *;generalize bY[d].2=b at *;have a3:=(λW=>yo b W f);have q:=P.alloc (dr #[Y a,Y b] 295);cases hq:fG a lY with
   |true=>
    have a1:(a.toList==[116,121,112,101])=C:=by rw[<-hq];unfold fG;rw[th (lY)]
    have k:=V (show R=fG (Xz b) jT by grind[Hid.out]);go_wp21;refine(a3 _).mono ?_;rintro e r⟨rfl,a0⟩;have U:=q.trans a0;go_wp2;go_ret;refine⟨?_,h.trans U⟩;rw[k.out];unfold fG;rw[th (jT)];rfl
   |false=>
    have a1:(a.toList==[116,121,112,101])=I:=by rw[<-hq];unfold fG;rw[th (lY)]
    have k:=V (show R=uk (bY.drop (d+1)) by grind[Hid.out]);go_wp2;go_roundw
    case rel=>exact⟨d+1,by go_num,by omega,k,q⟩
    case measure=>simp[intOf];omega
  .have i:Hid (R=I):=V (by rw[u,Fw (by omega)];rfl);have P:=V z;clear z u;go_wp2;go_ret;exact⟨by rw[i.out];rfl,h.trans P⟩
def BC(E:fS)(j:Nat->dj->M Unit)(o:FA E j)(t:dj)(x:gz E t)(U:∀a∈t.h,a.2.size<=1048576):qU E t 127 (iL j t):=by
 intro f X w h HS;have z:∃ao n cp,E.a=.slice ao n cp:=by have⟨L,_,Q⟩:=h;have⟨ao,cp,e⟩:=df Q.tok;exact⟨ao,_,cp,e⟩
 have P:=(λW=>AF E t W z);have u:Hid (∀W,Z [] w W->dS 225 #[.agg (Dy E t)] W λe K=>e=ff (.bool (uk t.h))/\Z [] W K):=V (by
  intro W hk;have⟨L,_,Q⟩:=h.h hk;have⟨a,b,k,bY⟩:=t;cases k with
  |start n=>
   have e:bY=E.B:=x D;subst e;exact pU a b n E.a E.B W Q.tok Q.q U
  |stop n=>
   have e:bY=E.B:=x D;subst e;exact pU a b n E.a E.B W Q.tok Q.q U
  |fI s=>exact pU 0 0 _ _ [] W (mY _ _ _ _) (by simp) (by simp)
  |dz s=>exact pU 0 0 _ _ [] W (mY _ _ _ _) (by simp) (by simp)
  |eG n q=>exact pU 0 0 _ _ [] W (mY _ _ _ _) (by simp) (by simp)
  |ic=>exact pU 0 0 _ _ [] W (mY _ _ _ _) (by simp) (by simp)
  |dZ=>exact pU 0 0 _ _ [] W (mY _ _ _ _) (by simp) (by simp))
 obtain⟨R,g⟩:∃R,R=(iL j t) X:=⟨_,D⟩;rw[<-g]at HS|-;unfold iL at g;have a0:=At.start h;cases hq:uk t.h with
 |true=>
  rw[hq]at u g;have l:Hid (R=(jA t>>=λ_=>(aG ():M Unit)) X):=V g;clear g;generalize hav:Dy E t=tg at *;go_enter func127,ntmps127;go_wp21;refine(P _).mono ?_;rintro e c⟨rfl,d⟩;have y:=u c d;replace a0:=a0.k0 d;go_wp21;refine y.mono ?_;rintro e w2⟨rfl,p⟩;replace a0:=a0.k0 p;go_wp21;refine dC (vk E (eK E) t x) a0 l HS D lT ?_;rintro(_) f X w a0 m i l;go_wp2;go_end0;exact cF l a0 D
 |false=>
  rw[hq]at u g;have l:Hid (R=(pQ j t>>=λ_=>(aG ():M Unit)) X):=V g;clear g;generalize hav:Dy E t=tg at *;go_enter func127,ntmps127;go_wp21;refine(P _).mono ?_;rintro e c⟨rfl,d⟩;have y:=u c d;replace a0:=a0.k0 d;go_wp21;refine y.mono ?_;rintro e w2⟨rfl,p⟩;replace a0:=a0.k0 p;go_wp21;refine dC (Ei E j o t x) a0 l HS D lT ?_;rintro(_) f X w a0 m i l;go_wp2;go_end0;exact cF l a0 D
def Wt(E:fS)(t:dj):qU E t 118 (xY t):=by refine dI λf X w R d HS q=>?_;go_enter func118,ntmps118;have⟨ta,tb,tao,tn,tcp,HTG⟩:=Fi E t q.rel;have g:=λw=>AG ta tb t.name tao tn tcp w;go_wp21;refine(HTG _).mono ?_;rintro e p⟨rfl,h⟩;replace q:=q.k0 h;go_wp21;refine dC (Kl E t.name) q d HS D lT ?_;rintro(_) f X w q l k d;go_wp2;go_end0;exact cF d q D
def yn(t:dj):Bool:=t.h.all λa=>decide (a.2.size<=1048576)
def D9(f:Nat):Option (M Bool):=
 if f=132 then H tJ else
 if f=139 then H endCell else
 if f=133 then H ir else
 if f=138 then H Km else
 if f=144 then H vA else
 if f=135 then H sJ else
 if f=125 then H sI else
 F
def adf(E:fS){f:Nat}{b:M Bool}(h:D9 f=H b):jk E f (λ_=>#[Bp E]) b bV/\∀l w,(callFunc f l).run prog w=.ok (.enter f l) w:=by
 unfold D9 at h;split at h
 .rename_i e;subst e;cases h;exact⟨(by refine mI λf X w R d HS y=>?_;unfold tJ at d;go_enter func132,ntmps132;replace d:=V (M.tail d);go_wp21;refine(lG E [cI] _ (by decide)).mono ?_;rintro e w⟨x,q,rfl,g,k⟩;replace y:=y.k0 k;go_wp21;refine As (λp=>zt y.rel 7 g p) y d HS mT ?_;rintro(b) X w y u d;go_wp2;go_ret;exact iw d y D),enters_of func132 (by rfl) D⟩
 split at h
 .rename_i e;subst e;cases h;exact⟨(by refine mI λf X w R d HS y=>?_;go_enter func139,ntmps139;replace d:=V (M.tail d);go_wp21;refine(aao E _).mono ?_;rintro e w⟨x,q,rfl,g,k⟩;replace y:=y.k0 k;go_wp21;refine As (λp=>zt y.rel 12 g p) y d HS mT ?_;rintro(b) X w y u d;go_wp2;go_ret;exact iw d y D),enters_of func139 (by rfl) D⟩
 split at h;rename_i e;subst e;cases h;exact⟨FL E,enters_of func133 (by rfl) D⟩;split at h
 .rename_i e;subst e;cases h;exact⟨(by refine mI λf X w R d HS y=>?_;go_enter func138,ntmps138;replace d:=V (M.tail d);go_wp21;refine(Zh E _).mono ?_;rintro e w⟨x,q,rfl,g,k⟩;replace y:=y.k0 k;go_wp21;refine As (λp=>FO y.rel 11 g p) y d HS mT ?_;rintro(b) X w y u d;go_wp2;go_ret;exact iw d y D),enters_of func138 (by rfl) D⟩
 split at h;rename_i e;subst e;cases h;exact⟨SV E,enters_of func144 (by rfl) D⟩;split at h
 .rename_i e;subst e;cases h;exact⟨(by refine mI λf X w R d HS y=>?_;go_enter func135,ntmps135;replace d:=V (M.tail d);go_wp21;refine(L8 E _).mono ?_;rintro e w⟨x,q,rfl,g,k⟩;replace y:=y.k0 k;go_wp21;refine As (λp=>FO y.rel 7 g p) y d HS mT ?_;rintro(b) X w y u d;go_wp2;go_ret;exact iw d y D),enters_of func135 (by rfl) D⟩
 split at h;rename_i e;subst e;cases h;exact⟨Ww E,enters_of func125 (by rfl) D⟩;cases h
def Ot(lk:Bool)(b a:Nat->dj->M Unit)(t:dj)(f:Nat):M Unit:=
 if f=107 then A5 else
 if f=113 then xh else
 if f=203 then xe else
 if f=206 then tK else
 if f=207 then A6 else
 if f=208 then Qb else
 if f=209 then uy else
 if f=210 then xf else
 if f=212 then rX else
 if f=149 then Wn else
 if f=146 then mB else
 if f=145 then fX else
 if f=94 then kF t else
 if f=97 then Bj t else
 if f=101 then Gy t else
 if f=109 then vJ t else
 if f=103 then gh t else
 if f=104 then jA t else
 if f=114 then jL t else
 if f=116 then jB t else
 if f=198 then vK t else
 if f=187 then lc t else
 if f=188 then yq t else
 if f=189 then oG t else
 if f=190 then zd t else
 if f=191 then sq t else
 if f=193 then qg t else
 if f=194 then tZ t else
 if f=196 then nZ t else
 if f=197 then sv t else
 if f=199 then pd t else
 if f=200 then fj t else
 if f=201 then sr t else
 if f=202 then qh t else
 if f=205 then xW t else
 if f=118 then xY t else
 if f=211 then rh t else
 if f=120 then oF t else
 if f=137 then qF t else
 if f=126 then jD t else
 if f=140 then qt t else
 if f=141 then jW t else
 if f=142 then iI t else
 if f=143 then mu t else
 if f=105 then yr t else
 if f=106 then sV t else
 if f=195 then rq t else
 if f=185 then mF t else
 if f=186 then nA t else
 if f=95 then ly a t else
 if f=98 then uz a t else
 if f=102 then uA a t else
 if f=108 then nB a t else
 if f=111 then sd a t else
 if f=110 then rM a t else
 if f=112 then DZ a t else
 if f=204 then xg a t else
 if f=241 then yH a t else
 if f=129 then pQ a t else
 if f=119 then lL a t else
 if f=127 then (if yn t then iL a t else stuck)else
 if f=130 then (if lk then stuck else j8 t)else
 if f=131 then (if lk then stuck else kA b a t)else
 stuck
theorem anu{t:dj}{f k:Nat}{a b:M Unit}(d:jJ E (.dX k) t a)(e:jJ E (.dX f) t b):jJ E (.dX f) t (if f=k then a else b):=by grind
def gp{t:dj}{f k:Nat}{a b:M Unit}(h:∀d w,(callFunc k d).run prog w=.ok (.enter k d) w)(e:pL E k (λ_=>#[Bp E,kP E t]) a uV)(g:jJ E (.dX f) t b):jJ E (.dX f) t (if f=k then a else b):=anu (Qy E t _ _ h e) g
section
variable (E:fS)(lk:Bool)(hl:lk=I->E.E=F)(hi:E.K=7)(iT rec:Nat->dj->M Unit)
variable (hAL:∀v ws (m:Nat) (t:dj),gz E t->pL (E.lock v ws) 165 (λ_=>#[Bp E,.int .i64 (m:Int),kP E t]) (iT m t) uV)
variable (hA:FA E rec)
include hl hi hAL hA
def ahl(f:Nat)(t:dj)(d:gz E t):jJ E (.dX f) t (Ot lk iT rec t f):=by
 unfold Ot;refine gp (enters_of func107 D D) (N2 E t) <|gp (enters_of func113 rfl rfl) (N5 E t) <|gp (enters_of func203 rfl rfl) (aaA E t) <|gp (enters_of func206 rfl rfl) (P7 E t) <|gp (enters_of func207 rfl rfl) (aaE E t) <|gp (enters_of func208 rfl rfl) (ajU E t) <|gp (enters_of func209 rfl rfl) (Wq E (eK E) t) <|gp (enters_of func210 rfl rfl) (aaC E t) <|gp (enters_of func212 rfl rfl) (SP E t) <|gp (enters_of func149 rfl rfl) (adb E t) <|gp (enters_of func146 rfl rfl) (Bw E t) <|gp (enters_of func145 rfl rfl) (zJ E t) <|gp (enters_of func94 rfl rfl) (I6 E t) <|gp (enters_of func97 rfl rfl) (UP E (.inl ⟨rfl,rfl,rfl,rfl⟩) (Lh E) t d) <|gp (enters_of func101 rfl rfl) (UP E (.inr ⟨rfl,rfl,rfl,rfl⟩) (Lj E (eK E)) t d) <|gp (enters_of func109 rfl rfl) (UI E (eK E) t d) <|gp (enters_of func103 rfl rfl) (vj E (eK E) t) <|gp (enters_of func104 rfl rfl) (vk E (eK E) t d) <|gp (enters_of func114 rfl rfl) (PN E (eK E) t) <|gp (enters_of func116 rfl rfl) (qG E (eK E) t d) <|gp (enters_of func198 rfl rfl) (UO E (eK E) t d) <|gp (enters_of func187 rfl rfl) (vr E (eK E) t d) <|gp (enters_of func188 rfl rfl) (XE E (eK E) t d) <|gp (enters_of func189 rfl rfl) (LU E (eK E) t d) <|gp (enters_of func190 rfl rfl) (abD E (eK E) t d) <|gp (enters_of func191 rfl rfl) (UK E t d) <|gp (enters_of func193 rfl rfl) (Np E t d) <|gp (enters_of func194 rfl rfl) (Ra E t d) <|gp (enters_of func196 rfl rfl) (Nr E (eK E) t d) <|gp (enters_of func197 rfl rfl) (Nu E t d) <|gp (enters_of func199 rfl rfl) (UL E t d) <|gp (enters_of func200 rfl rfl) (mJ E t d) <|gp (enters_of func201 rfl rfl) (UM E t d) <|gp (enters_of func202 rfl rfl) (Nq E (eK E) t d) <|gp (enters_of func205 rfl rfl) (Wo E t) <|gp (enters_of func118 rfl rfl) (Wt E t) <|gp (enters_of func211 rfl rfl) (IW E t) <|gp (enters_of func120 rfl rfl) (LS E (eK E) t d) <|gp (enters_of func137 rfl rfl) (UJ E t d) <|gp (enters_of func126 rfl rfl) (Dt E t d) <|gp (enters_of func140 rfl rfl) (JY E (eK E) t) <|gp (enters_of func141 rfl rfl) (zN E (eK E) t d) <|gp (enters_of func142 rfl rfl) (su E (eK E) t d) <|gp (enters_of func143 rfl rfl) (Fc E (eK E) t d) <|gp (enters_of func105 rfl rfl) (Iy E hi t d) <|gp (enters_of func106 rfl rfl) (Gz E hi t d) <|gp (enters_of func195 rfl rfl) (I8 E hi t d) <|gp (enters_of func185 rfl rfl) (by exact WC E t (λi=>adC E t d i)) <|gp (enters_of func186 rfl rfl) (by exact WB E t (λi=>adC E t d i)) <|gp (enters_of func95 rfl rfl) (zO E rec hA t d) <|gp (enters_of func98 rfl rfl) (M3 E rec hA t d) <|gp (enters_of func102 rfl rfl) (M4 E (eK E) rec hA t d) <|gp (enters_of func108 rfl rfl) (CQ E rec hA t d) <|gp (enters_of func111 rfl rfl) (M1 E (eK E) rec hA t d) <|gp (enters_of func110 rfl rfl) (PF E rec hA t d) <|gp (enters_of func112 rfl rfl) (aau E rec hA t d) <|gp (enters_of func204 rfl rfl) (aaD E rec hA t d) <|gp (enters_of func241 rfl rfl) (PE E rec hA t d) <|gp (enters_of func129 rfl rfl) (Ei E rec hA t d) <|gp (enters_of func119 rfl rfl) (MM E rec hA t d) ?_;by_cases e:f=127;rw[dw e];subst e;refine Qy E t _ _ (enters_of func127 (by kernel_rfl) D) ?_;by_cases h:yn t=C;rw[dw h];exact BC E rec hA t d (λa k=>by unfold yn at h;rw[Pf]at h;simpa using h a k);rw[di h];exact λ_ _ _ _ g=>absurd D g;rw[di e];clear e;by_cases e:f=130;rw[dw e];subst e;refine Qy E t _ _ (enters_of func130 (by kernel_rfl) D) ?_
 (cases lk with
  |true=>exact λ_ _ _ _ g=>absurd D g
  |false=>exact WS E (hl D) t)
 rw[di e];clear e;by_cases e:f=131;rw[dw e];subst e;refine Qy E t _ _ (enters_of func131 (by kernel_rfl) D) ?_
 (cases lk with
  |true=>exact λ_ _ _ _ g=>absurd D g
  |false=>exact Ko E (hl D) iT rec hAL hA t d)
 rw[di e];clear e;exact xm E _ t
end
def pP:M (Nat×Nat):=λX=>match dT X.A 0 with
 |some i=>fM i X
 |none=> .stuck
def xV(d:Nat)(own:Bool)(t:dj):M Unit:=
 if d=99/\own=C then iq ja t else
 if d=148/\own=C then iq pP t else
 if d=93/\own=I then iq (fM 0) t else
 stuck
theorem BW{σ1:N}{pl:Nat×Nat}(h:iS i X=.ok pl σ1):σ1=X:=by grind[ol,ny,iS]
theorem qy(i:Nat)(X:N)(c p:Nat):fM i X≠ .stop c p:=by grind[fM]
theorem IY(i:Nat)(X:N)(c p:Nat):kL i X≠ .stop c p:=by grind[qy,kL]
theorem wj(X:N)(c p:Nat):gJ X≠ .stop c p:=by grind[IY,qy,gJ]
theorem Nf(E:fS):DH E 99 C ja where
 A:=enters_of func99 (rfl) D
 same:=by grind[BW,ja]
 K:=by intro X c p h;unfold ja at h;split at h;grind[qy,wj,iS];grind
 B:=λf X w h d=>Jt E (eK E) f X w h d
theorem SH(E:fS):DH E 93 I (fM 0) where
 A:=enters_of func93 (rfl) D
 same:=λ_ _ _ h=>ol h
 K:=λX c p=>qy 0 X c p
 B:=λf X w h d=>Hk E 0 f X w h d
theorem Qk(E:fS):DH E 148 C pP where
 A:=enters_of func148 (rfl) D
 same:=by grind[ol,pP]
 K:=by grind[qy,pP]
 B:=by
  intro f X w h d;unfold pP at d|-;cases hq:dT _ 0 with
  |none=>rw[hq]at d;exact absurd D d
  |some i=>
   rw[hq]at d;exact SQ E i h hq d
theorem agF(E:fS)(d:Nat)(own:Bool)(t:dj):jJ E (.dz d own) t (xV d own t):=by
 have k:∀g,DH E d own g->jJ E (.dz d own) t (iq g t):=by intro g l v f X w h q p;have⟨b1,e,hb⟩:=q;exact⟨_,_,_,e,enters_of func168 (rfl) D,We E d own g l t b1 h p hb⟩
 grind[xm,SH,Qk,Nf,xV]
def jp(lk:Bool)(c a:Nat->dj->M Unit):Ru->dj->M Unit
 | .nil,_=>stuck
 | .eW,_=>aG ()
 | .dX f,t=>Ot lk c a t f
 | .qX m,t=>if 0<=m then a m.toNat t else stuck
 | .dz pf own,t=>xV pf own t
 | .ahead f,t=>match D9 f with
  |some b=>vV a b t
  |none=>stuck
 | .ends f,_=>match D9 f with
  |some b=>zY b
  |none=>stuck
 | .Qn r,t=>Em (jp lk c a r t) t
 | .nN aI m,t=>if 0<=m then uw aI m.toNat t else stuck
 | .ox aI name m,t=>if 0<=m then pS a aI name m.toNat t else stuck
 | .item aI,t=>Ew aI t
section
variable (E:fS)(lk:Bool)(hl:lk=I->E.E=F)(hi:E.K=7)(iT rec:Nat->dj->M Unit)
variable (hAL:∀v ws (m:Nat) (t:dj),gz E t->pL (E.lock v ws) 165 (λ_=>#[Bp E,.int .i64 (m:Int),kP E t]) (iT m t) uV)
variable (hA:FA E rec)
include hl hi hAL hA
theorem Tk(t:dj)(l:gz E t):∀r,jJ E r t (jp lk iT rec r t)
 | .nil=>xm E _ t
 | .eW=>aba E t
 | .dX f=>ahl E lk hl hi iT rec hAL hA f t l
 | .qX m=>by
  show jJ E (.qX m) t (if 0<=m then rec m.toNat t else stuck);split;rename_i p;intro v f X w h g d;have⟨b1,b2,e,hb1,hb2⟩:=g;have em:m=((m.toNat:Nat):Int):=by omega
  rw[em]at hb2;exact⟨_,_,_,e,enters_of func174 (by rfl) D,agm E rec hA t l m.toNat b1 b2 h d hb1 hb2⟩;grind[xm]
 | .dz pf own=>agF E pf own t
 | .ahead k=>by
  show jJ E (.ahead k) t (match D9 k with|some b=>vV rec b t|none=>stuck)
  cases hb:D9 k with
  |none=>grind[xm]
  |some b=>
   intro v f X w h g d;have⟨b1,b2,e,hb1,hb2⟩:=g;have⟨p,he⟩:=adf E hb;exact⟨_,_,_,e,enters_of func221 (by rfl) D,Qc E rec hA t l b k p he b1 b2 h d hb1 hb2⟩
 | .ends k=>by
  show jJ E (.ends k) t (match D9 k with|some b=>zY b|none=>stuck)
  cases hb:D9 k with
  |none=>grind[xm]
  |some b=>
   intro v f X w h g d;have⟨b1,e,hb1⟩:=g;have⟨p,he⟩:=adf E hb;exact⟨_,_,_,e,enters_of func226 (by rfl) D,agT E t b k p he b1 h d hb1⟩
 | .Qn r=>by intro v f X w h g d;have⟨b1,b2,u,e,hb1,hb2,hu⟩:=g;exact⟨_,_,_,e,enters_of func231 (by rfl) D,Qm E t r _ (Tk t l r) b1 b2 u h d hb1 hb2 hu⟩
 | .nN aI m=>by
  show jJ E (.nN aI m) t (if 0<=m then uw aI m.toNat t else stuck);split;rename_i p;intro v f X w h g d;have⟨b1,b2,b3,u,e,hb1,hb2,ha,hb3⟩:=g;have em:m=((m.toNat:Nat):Int):=by omega
  rw[em]at hb3;obtain⟨k,lb,rfl,_,_⟩:=ha.call;exact⟨_,_,_,e,enters_of func218 (by rfl) D,Iz E t l aI m.toNat b1 b2 b3 k lb h d hb1 hb2 ha hb3⟩;grind[xm]
 | .ox aI name m=>by
  show jJ E (.ox aI name m) t (if 0<=m then pS rec aI name m.toNat t else stuck);split
  .rename_i p;intro v f X w h g d;have⟨b1,b2,b3,b4,u,e,hb1,hb2,ha,hb3,hb4⟩:=g;have em:m=((m.toNat:Nat):Int):=by omega
   rw[em]at hb4;obtain⟨k,lb,rfl,_,_⟩:=ha.call;exact⟨_,_,_,e,enters_of func220 (by rfl) D,by first|exact Eo E rec hA t l aI name m.toNat b1 b2 b3 b4 k lb h d hb1 hb2 ha hb3 hb4|exact Eo E rec hA t l aI name m.toNat b1 b2 b3 b4 k lb h d hb1 hb2 hb3 hb4 ha⟩
  grind[xm]
 | .item aI=>by intro v f X w h g d;have⟨b1,b2,b3,u1,u2,e,hb1,hb2,ha1,hb3,ha2⟩:=g;obtain⟨y,q,rfl,_,_⟩:=ha1.call;obtain⟨z,x,rfl,_,_⟩:=ha2.call;exact⟨_,_,_,e,enters_of func275 (by rfl) D,Q7 E t l aI b1 b2 b3 y z q x h d hb1 hb2 ha1 hb3 ha2⟩
end
def dx:Bool->Nat->Nat->dj->M Unit
 |_,0,_,_=>stuck
 |lk,n+1,m,t=>match t.k with
  | .ic=>stuck
  |_=>CO (jp lk (dx C n) (dx lk n)) m t
theorem AH(lk:Bool)(n m:Nat)(t:dj)(h:t.k≠ .ic):dx lk (n+1) m t=CO (jp lk (dx C n) (dx lk n)) m t:=by simp[dx]
def Ri:∀(n:Nat)(lk:Bool)(E:fS),(lk=I->E.E=F)->E.K=7->(∃x m c,E.a=.slice x m c)->∀(m:Nat)(t:dj),gz E t->pL E 165 (λ_=>#[Bp E,G m,kP E t]) (dx lk n m t) uV
 |0,_,_,_,_,_,_,_,_=>λ_ _ _ _ g=>absurd D g
 |n+1,lk,E,hl,hi,htv,m,t,l=>by
  by_cases d:t.k=.ic;have e:dx lk (n+1) m t=stuck:=by have⟨a,b,k,bY⟩:=t;cases d;rfl
  rw[e];exact λ_ _ _ _ g=>absurd D g;rw[AH lk n m t d];exact afn E _ t (akw E htv t d) (λr=>Tk E lk hl hi _ _ (λv f m t l=>Ri n C (E.lock v f) (λh=>by cases h) hi htv m t l) (Ri n lk E hl hi htv) t l r) m
theorem Z5(E:fS)(c:Nat->dj->M Unit)(a b:Nat)(bY:iB):pL E 51 (λ_=>#[Bp E,kP E ⟨a,b,.ic,bY⟩]) (nW c ⟨a,b,.ic,bY⟩) uV:=by intro f X w h g;have e:nW c ⟨a,b,.ic,bY⟩ X=.ok () X:=rfl;rw[e];simp only[kP];have d:=qj underlying188;have k:=V ((At.start h).k0 ((Z.refl [] w).alloc (dr #[G a,G b] 188)));clear h g e;go_enter func51,ntmps51;go_wp2;go_end0;exact cF D k.out D
section
variable (lk:Bool)(iT rec:Nat->dj->M Unit)(t:dj)
end
theorem acn(E:fS)(hl:E.E=F)(f:E.K=7)(e:∃x m c,E.a=.slice x m c)(n:Nat)(t:dj)(d:gz E t):qU E t 51 (nW (dx I n) t):=by
 have hA:=Ri n I E (λ_=>hl) f e;have⟨a,b,k,bY⟩:=t;cases k with
 |fI s=>exact xP E _ hA _ d nofun D (by decide) λw=>by kernel_rfl
 |start s=>exact xP E _ hA _ d nofun D (by decide) λw=>by kernel_rfl
 |stop s=>exact xP E _ hA _ d nofun D (by decide) λw=>by kernel_rfl
 |dz s=>exact xP E _ hA _ d nofun D (by decide) λw=>D
 |eG s q=>exact xP E _ hA _ d nofun D (by decide) λw=>D
 |ic=>grind[Z5]
 |dZ=>exact xP E _ hA _ d nofun D (by decide) λw=>D
theorem y7(r:Nat)(s:O)(w:J)(h:s.size<=1048576)(a:Gl w r):dS 251 #[Y s] w (vc w (Y (jG (small s)))):=by
 go_enter func251,ntmps251;go_wp21;refine(yo s w h).mono ?_;rintro e k⟨rfl,g⟩;go_wp21;refine(yf r (small s) k (by grind[rU]) (a.kept (g.mono (by simp)))).mono ?_;rintro e w2⟨rfl,d⟩;go_wp2;go_ret;exact⟨D,(g.trans d)⟩
theorem zh(r:Nat)(R:RC)(a z:Nat)(s:O)(w:J)(h:Rd w r R a z)(p:z<=R.A.size)(q:R.A.size<=1024):dS 252 #[dq r,.func (.func 254) #[] #[dq w.heap.size]] (w.alloc (.cells #[Y s] 9))
   λe P=>e=ff (Y (R.A.extract z (gZ (fw s) R.A z)))/\Z [r] w P/\Rd P r R a (gZ (fw s) R.A z):=by
 have Q:=fp h;have k:Z [] w (w.alloc (.cells #[Y s] 9)):=(Z.refl _ _).alloc _;refine(U8 r R a z _ _ _ _ (k.at h (by simp)) p q (Cq _ [r] _ s (by simp) (by simp) (by grind))).mono ?_;rintro e P⟨d,g,l⟩;exact⟨d,(k.mono (by simp)).trans g,l⟩
def KM(r:Nat)(R:RC)(f z:Nat)(k:Nat)(d:io)(q:Int->Bool)(w:J)(h:Rd w r R f z)(i:z<=R.A.size)(y:R.A.size<=1024)(U:ZW w [r] k d q):dS 155 #[dq r,.func (.func k) #[] d] w λe P=>e=ff (.bool (decide (z<R.A.size)&&q (bt R.A z)))/\∃n,P=w.drewN n:=by
 have x:=U;have t:=h.text;have p:=h.ps;have a1:=h;have u:=get_bt R.A;have a:=x.A;have a0:=(λP (h:Rd P r R f z)=>nr r R f z P h);by_cases e:z=R.A.size
 .have l:decide (z=R.A.size)=C:=by simp[e]
  rw[l]at a0;go_enter func155,ntmps155;go_wp21
  go_quiet ((go_at_call 81;refine xK (a0 _ ?_);exact a1))
  go_wp2;go_ret;exact⟨by simp[e],⟨_,D⟩⟩
 .have g:z<R.A.size:=by omega
  have l:decide (z=R.A.size)=I:=by simp[e]
  rw[l]at a0;have X:=u z g;have K:=bt_nonneg R.A z;have c:=bt_le R.A z;have bF:=(λP h=>x.ask (bt R.A z) P K c h);have b:(decide (z<R.A.size)&&q (bt R.A z))=q (bt R.A z):=by simp[g]
  rw[b];cases hqv:q (bt R.A z)
  all_goals
   rw[hqv]at bF;go_enter func155,ntmps155;go_wp21
   go_quiet (first|(go_at_call 81;refine xK (a0 _ ?_);exact a1)|(refine xK (bF _ ?_);exact(λn=>(Z.refl _ _).drewN n) _))
   go_wp2;go_ret;exact⟨D,⟨_,D⟩⟩
def xi(R:RC)(s:O)(z:Nat):Bool:=decide (s.size<=R.A.size-z)&&((small ((R.A.extract z R.A.size).extract 0 s.size)).toList==s.toList)
theorem UX(r:Nat)(R:RC)(f z:Nat)(s:O)(w:J)(h:Rd w r R f z)(i:z<=R.A.size)(y:R.A.size<=1024)(a0:s.size<=1024):dS 160 #[dq r,Y s] w λe P=>e=ff (.bool (xi R s z))/\Z [r] w P/\Rd P r R f (if xi R s z=C then z+s.size else z):=by
 have a1:=h;obtain⟨t,x⟩:∃t,t=R.A.extract z R.A.size:=⟨_,D⟩;have l:t.size=R.A.size-z:=by rw[x];simp
 have g:=E0 r R f z w a1 i y;rw[<-x]at g;have p:=V x;clear x;by_cases e1:s.size<=t.size
 .have j:(t.extract 0 s.size).size=s.size:=by simp;omega
  cases e2:((small (t.extract 0 s.size)).toList==s.toList)
  .have c:xi R s z=I:=by unfold xi;rw[<-p.out,e2];simp
   rw[c];go_enter func160,ntmps160;go_wp21;refine g.mono ?_;rintro e w1⟨rfl,q,rfl⟩;go_wp21;refine(yo _ _ (by omega)).mono ?_;rintro e w2⟨rfl,d⟩;generalize small (t.extract 0 s.size)=u at *;go_wp2;go_ret;exact⟨D,((Z.refl [r] w).drewN q).trans (d.mono (by simp)),d.at (show Rd (w.drewN q) r R f z from a1) (by simp)⟩
  .have c:xi R s z=C:=by unfold xi;rw[<-p.out,e2,<-l];simp[e1]
   rw[c];go_enter func160,ntmps160;go_wp21;refine g.mono ?_;rintro e w1⟨rfl,q,rfl⟩;go_wp21;refine(yo _ _ (by omega)).mono ?_;rintro e w2⟨rfl,d⟩;have U:Rd w2 r R f z:=d.at (show Rd (w.drewN q) r R f z from a1) (by simp);have K:=jQ r R f z (t.extract 0 s.size) w2 U i y (by omega);have k:pre t (t.extract 0 s.size)=C:=by grind[ev,pre]
   rw[<-p.out,k]at K;have X:fZ R (t.extract 0 s.size) z=z+s.size:=by unfold fZ;rw[<-p.out,dw k,j]
   rw[X]at K;generalize small (t.extract 0 s.size)=u at *;go_wp21;refine K.mono ?_;rintro e w3⟨rfl,b,a⟩;go_wp2;go_ret;exact⟨D,(((Z.refl [r] w).drewN q).trans (d.mono (by simp))).trans b,a⟩
 .have m:xi R s z=I:=by unfold xi;rw[<-l];simp[e1]
  rw[m];go_enter func160,ntmps160;go_wp21;refine g.mono ?_;rintro e w1⟨rfl,q,rfl⟩;go_wp2;go_ret;exact⟨D,((Z.refl [r] w).drewN q),a1⟩
def fU(R:RC)(z:Nat):Nat:=gZ (fw oN) R.A (z+1)
theorem toList_eq{a b:O}(h:a.toList=b.toList):a=b:=by grind[gL,Array.toList_inj,ByteArray.toList_eq]
theorem VR{a:Nat}(h:a+j<b)(e:b<=s.size):bt (s.extract a b) j=bt s (a+j):=by
 have d:j<(s.extract a b).size:=by simp;omega
 unfold bt;grind[ByteArray.getElem_extract]
theorem FE{p:O}(h:pre (s.extract z s.size) p=C)(d:j<p.size):bt s (z+j)=bt p j:=by grind[toList_eq,ev,VR,pre]
def pC(R:RC)(z:Nat):Nat:=fZ R eV (gZ (fw eV) R.A z)
def Kz(h:z<=R.A.size):pC R z<=R.A.size:=U1 (oB h)
def tN(r:Nat)(R:RC)(f z g p:Nat)(B:Nat->Nat)(w:J)(h:Rd w r R f z)(o:Pj w r R g p B)(s:Gl w r)(hb:f<=R.A.size)(X:z<=R.A.size)(y:R.A.size<=1024):dS 163 #[dq r] w λe P=>e=ff (.iface 196 (.agg #[G (B f),G (B (pC R z)),Y (jG (R.A.extract z (gZ (fw eV) R.A z)))]))/\Z [r] w P/\Rd P r R f (pC R z):=by
 have a0:=zh r R f z eV w h X y;have i:=o;have j:=s;have bF:=(λ(w2:J) (Q:Rd w2 r R f (gZ (fw eV) R.A z))=>jQ r R f _ eV w2 Q (oB X) y (by decide));rw[show fZ R eV (gZ (fw eV) R.A z)=pC R z from D]at bF;have x:pC R z<=R.A.size:=Kz X;generalize pC R z=m at *;generalize gZ (fw eV) R.A z=n at *;go_enter func163,ntmps163;go_wp21;refine(nI _ w).mono ?_;rintro e P⟨rfl,rfl⟩;go_wp21;refine a0.mono ?_;rintro e w2⟨rfl,b,K⟩;go_wp21;refine(bF _ K).mono ?_;rintro e w3⟨rfl,U,l⟩;have d:=b.trans U;have E:=qC r R f m g p B w3 l (i.kept d) hb x y;go_wp21;refine E.mono ?_;rintro e w4⟨rfl,q⟩;have k:=d.trans (q.mono (by simp));have c:=l.kept q (by simp);have a1:=yf r (R.A.extract z n) w4 (by simp;omega) (j.kept k);go_wp21;refine a1.mono ?_;rintro e t⟨rfl,u⟩;have a:=k.trans (u.mono (by simp));go_wp2;go_ret;exact⟨D,a,(c.kept u (by simp))⟩
def wu(s:O):O:=
 if gO s.data.toList [45,45,33]then ⟨(dM s.data.toList [45,45,33]).toArray⟩
 else if gO s.data.toList [45,45]then ⟨(dM s.data.toList [45,45]).toArray⟩
 else if gO s.data.toList [45]then ⟨(dM s.data.toList [45]).toArray⟩else s
def WZ(s:O)(w:J)(u:s.size<=1048576):dS 297 #[Y s] w (vc w (Y (wu s))):=by
 have d:=(λw=>Tryz.strings_CutSuffix s ⟨#[45,45,33]⟩ w (by omega));have g:=(λw=>Tryz.strings_CutSuffix s ⟨#[45,45]⟩ w (by omega));have h:=(λw=>Tryz.strings_CutSuffix s ⟨#[45]⟩ w (by omega));have k:Hid (Z [] w (w.alloc (.cells #[Y ⟨#[45,45,33]⟩,Y ⟨#[45,45]⟩,Y ⟨#[45]⟩] 9))):=(Z.refl _ _).alloc _;unfold wu;simp only at d g h;cases h1:gO s.data.toList [45,45,33]
 .rw[h1]at d;cases h2:gO s.data.toList [45,45]
  .rw[h2]at g;cases h3:gO s.data.toList [45]
   .rw[h3]at h;simp only[uS,↓reduceIte];generalize dM s.data.toList [45,45,33]=l at *;generalize dM s.data.toList [45,45]=p at *;generalize dM s.data.toList [45]=q at *;go_enter func297,ntmps297;go_wp21;refine wK 4 ?_;rw[nP];go_wp21;refine(d _).mono ?_;rintro e P⟨rfl,rfl⟩;go_wp21;rw[nP];go_wp21;refine(g _).mono ?_;rintro e P⟨rfl,rfl⟩;go_wp21;rw[nP];go_wp21;refine(h _).mono ?_;rintro e P⟨rfl,rfl⟩;go_wp21;rw[nP];go_wp2;go_ret;exact⟨D,k⟩
   .rw[h3]at h;simp only[uS,↓reduceIte];generalize dM s.data.toList [45,45,33]=l at *;generalize dM s.data.toList [45,45]=p at *;generalize dM s.data.toList [45]=q at *;go_enter func297,ntmps297;go_wp21;refine wK 4 ?_;rw[nP];go_wp21;refine(d _).mono ?_;rintro e P⟨rfl,rfl⟩;go_wp21;rw[nP];go_wp21;refine(g _).mono ?_;rintro e P⟨rfl,rfl⟩;go_wp21;rw[nP];go_wp21;refine(h _).mono ?_;rintro e P⟨rfl,rfl⟩;go_wp2;go_ret;exact⟨D,k⟩
  .rw[h2]at g;simp only[uS,↓reduceIte];generalize dM s.data.toList [45,45,33]=l at *;generalize dM s.data.toList [45,45]=p at *;go_enter func297,ntmps297;go_wp21;refine wK 4 ?_;rw[nP];go_wp21;refine(d _).mono ?_;rintro e P⟨rfl,rfl⟩;go_wp21;rw[nP];go_wp21;refine(g _).mono ?_;rintro e P⟨rfl,rfl⟩;go_wp2;go_ret;exact⟨D,k⟩
 .rw[h1]at d;simp only[↓reduceIte];generalize dM s.data.toList [45,45,33]=l at *;go_enter func297,ntmps297;go_wp21;refine wK 4 ?_;rw[nP];go_wp21;refine(d _).mono ?_;rintro e P⟨rfl,rfl⟩;go_wp2;go_ret;exact⟨D,k⟩
def e1:O:=qq
def e2:O:=⟨#[45,45,33,62]⟩
def qZ(R:RC)(i:Nat):Nat:=
 if i<R.A.size then (if pre (R.A.extract i R.A.size) e1=C then i+3 else if pre (R.A.extract i R.A.size) e2=C then i+4 else qZ R (i+1))else i
  termination_by R.A.size-i
def kK(R:RC)(a i:Nat):O:=
 if i<R.A.size then (if pre (R.A.extract i R.A.size) e1=C then R.A.extract a i else if pre (R.A.extract i R.A.size) e2=C then R.A.extract a i else kK R a (i+1))else wu (R.A.extract a R.A.size)
  termination_by R.A.size-i
theorem agy:i<=qZ R i:=by fun_induction qZ R i<;>omega
theorem agz(h:i<=R.A.size):qZ R i<=R.A.size:=by
 fun_induction qZ R i with
 |case1 i h1 h2=>exact jO h2 h
 |case2 i h1 h2 h3=>exact jO h3 h
 |case3 i h1 h2 h3 ih=>omega
 |case4=>exact h
theorem aap(h:i<=R.A.size):qZ R i=R.A.size\/(i<qZ R i/\bt R.A (qZ R i-1)=62):=by
 fun_induction qZ R i with
 |case1 i h1 h2=>right;exact⟨by omega,FE h2 (by decide)⟩
 |case2 i h1 h2 h3=>right;exact⟨by omega,FE h3 (by decide)⟩
 |case3 i h1 h2 h3 ih=>omega
 |case4 i h1=>omega
theorem DA(r:Nat)(R:RC)(f z:Nat)(w:J)(h:Rd w r R f z)(O:z<=R.A.size)(y:R.A.size<=1024):dS 249 #[dq r] w λe P=>e=ff (Y (kK R z z))/\Z [r] w P/\Rd P r R f (qZ R z):=by
 have aI:=h.ps;have M:=h;obtain⟨ce,A⟩:∃x,x=qZ R z:=⟨_,D⟩;obtain⟨n,B⟩:∃x,x=kK R z z:=⟨_,D⟩;rw[<-A,<-B];go_enter func249,ntmps249;go_wp21
 go_loopw [] (λwr=>∃i:Nat,z<=i/\i<=R.A.size/\qZ R i=ce/\kK R z i=n/\Rd wr r R f i/\Z [r] w wr) (λwr=>R.A.size-(match wr.cell? ⟨r,3,F⟩with|some v=>(intOf v).toNat|none=>0))
 case atStart=>grind[Z.refl]
 case round=>
  have⟨i,hi0,hi1,hcc,hcx,HR,HKW⟩:=hrel;have K:=V hcc;have X:=V hcx;have t:=HR.text;have p:=HR.ps;have N:=HR.free 3;clear hcc hcx;by_cases e:i=R.A.size
  .have m:decide (i=R.A.size)=C:=by simp[e]
   have j:=nr r R f i wr HR;rw[m]at j;have o:n=wu (R.A.extract z R.A.size):=by rw[<-X.out,kK,di (by omega)]
   have s:ce=i:=by rw[<-K.out,qZ,di (by omega)]
   have E:=V o;have H:=V s;clear o s;have a2:=e;have bF:=(λP=>WZ (R.A.extract z R.A.size) P (by simp;omega));go_wp21;refine j.mono ?_;rintro e w1⟨rfl,q,rfl⟩;go_wp21;refine(bF _).mono ?_;rintro e w2⟨rfl,g⟩;go_wp2;go_ret;exact⟨by rw[E.out];rfl,(HKW.drewN q).trans (g.mono (by simp)),by rw[H.out];exact g.at (show Rd (wr.drewN q) r R f i from HR) (by simp)⟩
  .have a3:i<R.A.size:=by omega
   have m:decide (i=R.A.size)=I:=by simp[e]
   have j:=nr r R f i wr HR;rw[m]at j;have u:=(λP (h:Rd P r R f i)=>jQ r R f i e1 P h hi1 y (by decide));have a:=(λP (h:Rd P r R f i)=>jQ r R f i e2 P h hi1 y (by decide));cases h1:pre (R.A.extract i R.A.size) e1
   .have k1:fZ R e1 i=i:=by unfold fZ;rw[di (by simp[h1])]
    rw[h1,k1]at u;cases h2:pre (R.A.extract i R.A.size) e2
    .have k2:fZ R e2 i=i:=by unfold fZ;rw[di (by simp[h2])]
     rw[h2,k2]at a;have HS:=V ((by show qZ R i=qZ R (i+1);grind[qZ]))
     have l:=V ((by show kK R z i=kK R z (i+1);grind[kK]))
     unfold e1 at u;unfold e2 at a;go_wp21;refine j.mono ?_;rintro e w1⟨rfl,q,rfl⟩;go_wp21
     go_quiet (fail)
     go_wp21;refine(u _ ?_).mono ?_;exact HR;rintro e w2⟨rfl,g,b⟩;go_wp21;refine(a _ b).mono ?_;rintro e w3⟨rfl,c,d⟩;have S:=d.ps;have f3:=d.free 3;have U:=Rd.h d (i+1);have k:=((HKW.drewN (q+nq)).trans (g.trans c)).setCell (p:=⟨r,3,F⟩) (.inl (by simp)) (G ((i+1:Nat)));go_wp2;go_roundw
     case rel=>grind[Hid.out]
     case measure=>
      have L:=U.ps;rw[show((i:Int)+1)=((i+1:Nat):Int)from by omega,L,p];simp[intOf];omega
    .have k2:fZ R e2 i=i+4:=by unfold fZ;rw[dw h2];rfl
     rw[h2,k2]at a;have HS:=V ((by show qZ R i=i+4;grind[qZ]))
     have l:=V ((by show kK R z i=R.A.extract z i;grind[kK]))
     unfold e1 at u;unfold e2 at a;go_wp21;refine j.mono ?_;rintro e w1⟨rfl,q,rfl⟩;go_wp21
     go_quiet (fail)
     go_wp21;refine(u _ ?_).mono ?_;exact HR;rintro e w2⟨rfl,g,b⟩;go_wp21;refine(a _ b).mono ?_;rintro e w3⟨rfl,a1,d⟩;have k:=((HKW.drewN (q+nq)).trans (g.trans a1));go_wp2;go_ret;exact⟨by rw[<-X.out,l.out];rfl,k,by rw[<-K.out,HS.out];exact d⟩
   .have k1:fZ R e1 i=i+3:=by unfold fZ;rw[dw h1];rfl
    rw[h1,k1]at u;have HS:=V ((by show qZ R i=i+3;grind[qZ]))
    have l:=V ((by show kK R z i=R.A.extract z i;grind[kK]))
    unfold e1 at u;go_wp21;refine j.mono ?_;rintro e w1⟨rfl,q,rfl⟩;go_wp21
    go_quiet (fail)
    go_wp21;refine(u _ ?_).mono ?_;exact HR;rintro e w2⟨rfl,a0,d⟩;have k:=((HKW.drewN (q+nq)).trans a0);go_wp2;go_ret;exact⟨by rw[<-X.out,l.out];rfl,k,by rw[<-K.out,HS.out];exact d⟩
def kh(R:RC)(z:Nat):Nat:=if pre (R.A.extract z R.A.size) eV=C then z+1 else if pre (R.A.extract z R.A.size) wQ=C then z+2 else qZ R z
def jY(R:RC)(z:Nat):O:=if pre (R.A.extract z R.A.size) eV=C then ⟨#[]⟩else if pre (R.A.extract z R.A.size) wQ=C then ⟨#[]⟩else kK R z z
theorem NP(h:z<=R.A.size):kh R z<=R.A.size:=by unfold kh;split;rename_i d;exact jO d h;split;rename_i d;exact jO d h;grind[agz]
theorem Sz(h:z<=R.A.size):kh R z=R.A.size\/(z<kh R z/\bt R.A (kh R z-1)=62):=by unfold kh;split;rename_i d;exact .inr ⟨by omega,FE (j:=0) d (by decide)⟩;split;rename_i d;exact .inr ⟨by omega,FE d (by decide)⟩;grind[aap]
theorem T0(s:O):(wu s).size<=s.size:=by
 have h:∀p,(eL (dM s.data.toList p).toArray).size<=s.size:=by intro p;show(dM _ p).toArray.size<=s.data.size;unfold dM;split;simp;simp
 grind[wu]
theorem Wh{a:Nat}:(kK R a i).size<=R.A.size:=by
 fun_induction kK R a i with
 |case1=>simp;omega
 |case2=>simp;omega
 |case3=>omega
 |case4=>grind[T0,ev]
theorem PU:(jY R z).size<=R.A.size:=by unfold jY;split;exact eZ _;split;exact eZ _;grind[Wh]
theorem SB(r:Nat)(R:RC)(f z g a0:Nat)(B:Nat->Nat)(w:J)(h:Rd w r R f z)(C:Pj w r R g a0 B)(D:Gl w r)(hb:f<=R.A.size)(A:z<=R.A.size)(y:R.A.size<=1024):dS 159 #[dq r] w λe P=>e=ff (.iface 196 (.agg #[G (B f),G (B (kh R z)),Y (jG (jY R z))]))/\Z [r] w P/\Rd P r R f (kh R z):=by
 have i:=jQ r R f z eV w h A y (by decide);have j:=(λP (h:Rd P r R f z)=>jQ r R f z wQ P h A y (by decide));have s:=(λP (h:Rd P r R f z)=>DA r R f z P h A y);have n:=(λu (hk:Z [r] w u) (Q:Rd u r R f (kh R z))=>(by show(Calls prog 82 #[dq r] u λe X=>e=ff (.agg #[G (B f),G (B (kh R z))])/\Z [r] w X/\Rd X r R f (kh R z)/\Calls prog 152 #[Y (jY R z)] X λe o=>e=ff (Y (jG (jY R z)))/\Z [r] w o/\Rd o r R f (kh R z));refine(qC r R f (kh R z) g a0 B u Q (C.kept hk) hb (NP A) y).mono ?_;rintro e X⟨d,l⟩;have k4:=hk.trans (l.mono (by simp));refine⟨d,k4,Q.kept l (by simp),((yf r (jY R z) X (gR PU (by omega)) (D.kept k4)).mono ?_)⟩;rintro e o⟨q,a2⟩;exact⟨q,k4.trans (a2.mono (by simp)),(Q.kept l (by simp)).kept a2 (by simp)⟩))
 clear h C D;cases d:pre (R.A.extract z R.A.size) eV
 .have k1:fZ R eV z=z:=by unfold fZ;rw[di (by simp[d])]
  rw[d,k1]at i;cases q:pre (R.A.extract z R.A.size) wQ;have k2:fZ R wQ z=z:=by unfold fZ;rw[di (by simp[q])]
  rw[q,k2]at j;have x:kh R z=qZ R z:=by unfold kh;rw[di (by simp[d]),di (by simp[q])]
  have b:jY R z=kK R z z:=by unfold jY;rw[di (by simp[d]),di (by simp[q])]
  rw[<-x,<-b]at s;clear d q k1 k2 x b;generalize kh R z=m at *;generalize jY R z=t at *;go_enter func159,ntmps159;go_wp21;refine i.mono ?_;rintro e w1⟨rfl,K,c⟩;go_wp21;refine(j _ c).mono ?_;rintro e w2⟨rfl,a1,F⟩;have a3:=K.trans a1;clear a1;go_wp21;refine(s _ F).mono ?_;rintro e u⟨rfl,k,p⟩;have v:=n u (a3.trans k) p
  rotate_left
  have k2:fZ R wQ z=z+2:=by unfold fZ;rw[dw q];rfl
  rw[q,k2]at j;have x:kh R z=z+2:=by unfold kh;rw[di (by simp[d]),dw q]
  have b:jY R z=⟨#[]⟩:=by unfold jY;rw[di (by simp[d]),dw q]
  rw[x,b]at n|-;clear d q k1 k2 x b s;go_enter func159,ntmps159;go_wp21;refine i.mono ?_;rintro e w1⟨rfl,K,c⟩;go_wp21;refine(j _ c).mono ?_;rintro e u⟨rfl,k,p⟩;have v:=n u (K.trans k) p
  all_goals
   clear k p;go_wp21;refine v.mono ?_;rintro e X⟨rfl,l,U,a⟩;clear l U;go_wp21;refine a.mono ?_;rintro e o⟨rfl,E,H⟩;go_wp2;go_ret;simp_all
 .have k1:fZ R eV z=z+1:=by unfold fZ;rw[dw d];rfl
  rw[d,k1]at i;have x:kh R z=z+1:=by unfold kh;rw[dw d]
  have b:jY R z=⟨#[]⟩:=by unfold jY;rw[dw d]
  rw[x,b]at n|-;clear d k1 x b j s;go_enter func159,ntmps159;go_wp21;refine i.mono ?_;rintro e u⟨rfl,k,p⟩;have v:=n u k p;clear k p;go_wp21;refine v.mono ?_;rintro e X⟨rfl,l,U,a⟩;clear l U;go_wp21;refine a.mono ?_;rintro e o⟨rfl,E,H⟩;go_wp2;go_ret;simp_all
section
open Go.Shelf Go.Lib
def Rp(s:O):O:=⟨(Lib.trimS s.data.toList [32,9,10,12]).toArray⟩
def afv(s:O)(w:J)(h:s.size<=1048576):dS 253 #[Y s,Y lN] w (vc w (Y (Rp s))):=by
 exact(Any.strings_Trim_laid Tryz.lays160 (rfl) s _ w (by omega) (by decide) (ascii_of_all (rfl))).mono λe P ⟨d,g⟩=>⟨d,Z.d g⟩
def ua(R:RC)(z:Nat):Nat:=gZ (λc=>!fw lN c) R.A z
def D6(R:RC)(z:Nat):Nat:=gZ (fw ku) R.A (ua R z)
def ac3(h:z<=R.A.size):ua R z<=R.A.size:=oB h
def Ke(h:z<=R.A.size):D6 R z<=R.A.size:=oB (ac3 h)
end
section
open Go.Shelf Go.Lib
def P5(R:RC)(z:Nat):O:=jG (small (R.A.extract (ua R z) (D6 R z)))
def Ld(R:RC)(z:Nat):Bool:=((P5 R z).toList==[])||!((Rp (R.A.extract (D6 R z) (gZ (fw eV) R.A (D6 R z)))).toList==[])||!(pre (R.A.extract (gZ (fw eV) R.A (D6 R z)) R.A.size) eV)
def MP(r:Nat)(R:RC)(o z g i:Nat)(B:Nat->Nat)(w:J)(h:Rd w r R o z)(F:Pj w r R g i B)(H:Gl w r)(hb:o<=R.A.size)(p:z<=R.A.size)(y:R.A.size<=1024):dS 161 #[dq r] w λe P=>e=ff (.iface 198 (.agg #[G (B o),G (B (pC R (D6 R z))),Y (P5 R z),.bool (Ld R z)]))/\Z [r] w P/\Rd P r R o (pC R (D6 R z)):=by
 have f:P5 R z=jG (small (R.A.extract (ua R z) (D6 R z))):=rfl;have C:Ld R z=(((P5 R z).toList==[])||!((Rp (R.A.extract (D6 R z) (gZ (fw eV) R.A (D6 R z)))).toList==[])||!(pre (R.A.extract (gZ (fw eV) R.A (D6 R z)) R.A.size) eV)):=rfl;generalize Ld R z=qk at *;generalize P5 R z=ac at *;have s:=vn r R o z lN w h p y;rw[show gZ (λc=>!fw lN c) R.A z=ua R z from D]at s;have t:=(λ(P:J) (h:Rd P r R o (ua R z))=>zh r R o (ua R z) ku P h (ac3 p) y);rw[show gZ (fw ku) R.A (ua R z)=D6 R z from D]at t;have E:=(λ(P:J) (h:Rd P r R o (D6 R z))=>zh r R o (D6 R z) eV P h (Ke p) y);have ab:gZ (fw eV) R.A (D6 R z)<=R.A.size:=oB (Ke p);have bF:=(λ(w2:J) (Q:Rd w2 r R o (gZ (fw eV) R.A (D6 R z)))=>jQ r R o _ eV w2 Q ab y (by decide));rw[show fZ R eV (gZ (fw eV) R.A (D6 R z))=pC R (D6 R z)from D]at bF;have X:pC R (D6 R z)<=R.A.size:=Kz (Ke p);have h3:D6 R z<=R.A.size:=Ke p;have I:=F;have L:=H;clear h F H;generalize pC R (D6 R z)=m at *;generalize gZ (fw eV) R.A (D6 R z)=n at *;generalize D6 R z=b at *;generalize ua R z=a at *;go_enter func161,ntmps161;go_wp21;refine s.mono ?_;rintro e w1⟨rfl,a0,O⟩;clear s;go_wp21;refine(nI _ w1).mono ?_;rintro e P⟨rfl,rfl⟩;go_wp21;refine(t _ O).mono ?_;rintro e w2⟨rfl,K,aI⟩;have q:=a0.trans K;clear K t;have v:=y7 r (R.A.extract a b) w2 (by simp;omega) (L.kept q);rw[<-f]at v;clear f;go_wp21;refine v.mono ?_;rintro e w3⟨rfl,d⟩;have a1:=q.trans (d.mono (by simp));have S:=aI.kept d (by simp);clear d v;go_wp21;refine(nI _ w3).mono ?_;rintro e P⟨rfl,rfl⟩;go_wp21;refine(E _ S).mono ?_;rintro e w4⟨rfl,j,T⟩;have a2:=a1.trans j;clear j E;have A:=afv (R.A.extract b n) w4 (by simp;omega);generalize Rp (R.A.extract b n)=mo at A C;go_wp21;refine A.mono ?_;rintro e w5⟨rfl,k⟩;have a3:=a2.trans (k.mono (by simp));have W:=T.kept k (by simp);clear k A;go_wp21;refine(bF _ W).mono ?_;rintro e w6⟨rfl,U,x⟩;have u:=a3.trans U;clear U bF;have ad:=qC r R o m g i B w6 x (I.kept u) hb X y;generalize pre (R.A.extract n R.A.size) eV=cl at *;go_wp21;refine ad.mono ?_;rintro e w7⟨rfl,l⟩;have N:=u.trans (l.mono (by simp));have aa:=x.kept l (by simp);clear l ad;have M:=V C;clear C;cases h1:(ac.toList==[])<;>cases h2:(mo.toList==[])<;>cases cl
 all_goals go_wp2
 all_goals go_ret
 all_goals exact⟨by rw[M.out,h1,h2];rfl,N,aa⟩
end
section
open Go.Shelf Go.Lib
def NS(n:Int):Int:=if n=0\/(55296<=n/\n<=57343)\/n>=1114112 then 65533 else if n=128 then 8364 else if n=133 then 8230 else if n=145 then 8216 else if n=146 then 8217 else if n=147 then 8220 else if n=148 then 8221 else if n=150 then 8211 else if n=151 then 8212 else if n=153 then 8482 else n
def qw{x n:Int}(h:x=NS n):Ending.returned (.int .i32 x)=ff (.int .i32 (NS n)):=by rw[h]
theorem MN(n:Int)(w:J)(h:0<=n)(k:n<=1114112):dS 308 #[G n] w λe P=>e=ff (.int .i32 (NS n))/\P=w:=by
 by_cases a:n=0
 .subst a;go_enter func308,ntmps308;go_wp2;go_ret;simp[NS]
 .by_cases b:55296<=n
  .by_cases d:n<=57343
   .go_enter func308,ntmps308;go_wp2;go_ret;exact⟨qw (by grind[NS]),D⟩
   .by_cases g:n>=1114112
    .go_enter func308,ntmps308;go_wp2;go_ret;exact⟨qw (by grind[NS]),D⟩
    .go_enter func308,ntmps308;go_wp2;go_ret;exact⟨qw (by grind[NS]),D⟩
  .go_enter func308,ntmps308;go_wp2
   all_goals
    (go_ret
     first
     |exact⟨qw (by rw[uT ‹(n==128)=C›];rfl),D⟩
     |exact⟨qw (by rw[uT ‹(n==133)=C›];rfl),D⟩
     |exact⟨qw (by rw[uT ‹(n==145)=C›];rfl),D⟩
     |exact⟨qw (by rw[uT ‹(n==146)=C›];rfl),D⟩
     |exact⟨qw (by rw[uT ‹(n==147)=C›];rfl),D⟩
     |exact⟨qw (by rw[uT ‹(n==148)=C›];rfl),D⟩
     |exact⟨qw (by rw[uT ‹(n==150)=C›];rfl),D⟩
     |exact⟨qw (by rw[uT ‹(n==151)=C›];rfl),D⟩
     |exact⟨qw (by rw[uT ‹(n==153)=C›];rfl),D⟩
     |exact⟨qw ((show NS n=n by grind[NS])).symm,D⟩)
def jF(c:Int):Int:=if 48<=c/\c<=57 then c-48 else if 97<=c/\c<=102 then c-87 else if 65<=c/\c<=70 then c-55 else 99
theorem D0(c:Int):0<=jF c/\jF c<=99:=by grind[jF]
theorem JV(c:Int)(w:J)(h:0<=c)(k:c<=255):Calls prog 340 #[.int .u8 c] w λe P=>e=ff (.bool (decide (48<=c/\c<=57)))/\P=w:=by
 by_cases d:48<=c<;>by_cases g:c<=57
 all_goals (go_wp2;go_ret;simp_all)
def aav(c:Int)(w:J)(k:0<=c)(l:c<=255):dS 307 #[.int .u8 c] w λe P=>e=ff (G (jF c))/\P=w:=by
 have p:=JV c w k l;by_cases a:48<=c/\c<=57
 .rw[show decide (48<=c/\c<=57)=C from by simp[a]]at p;have e:jF c=c-48:=by unfold jF;rw[dw a]
  rw[e];clear e;have⟨a1,a2⟩:=a;go_enter func307,ntmps307;go_wp21;refine p.mono ?_;rintro e P⟨rfl,rfl⟩;go_wp2;go_ret;simp
 .rw[show decide (48<=c/\c<=57)=I from by simp;omega]at p;by_cases b:97<=c
  .by_cases g:c<=102;have e:jF c=c-97+10:=by unfold jF;rw[di a,dw ⟨b,g⟩];omega
   rotate_left
   have e:jF c=99:=by unfold jF;rw[di a,di (by omega),di (by omega)]
   all_goals
    rw[e];clear e a;go_enter func307,ntmps307;go_wp21;refine p.mono ?_;rintro e P⟨rfl,rfl⟩;go_wp2;go_ret;simp
  .by_cases d:65<=c
   .by_cases h:c<=70;have e:jF c=c-65+10:=by unfold jF;rw[di a,di (by omega),dw ⟨d,h⟩];omega
    rotate_left
    have e:jF c=99:=by unfold jF;rw[di a,di (by omega),di (by omega)]
    all_goals
     rw[e];clear e a;go_enter func307,ntmps307;go_wp21;refine p.mono ?_;rintro e P⟨rfl,rfl⟩;go_wp2;go_ret;simp
   .have e:jF c=99:=by unfold jF;rw[di a,di (by omega),di (by omega)]
    rw[e];clear e a;go_enter func307,ntmps307;go_wp21;refine p.mono ?_;rintro e P⟨rfl,rfl⟩;go_wp2;go_ret;simp
end
end
end Go.Proofs.YtcalkelgoekpfaaGreatDoor
