import Derived.Test.YtofkkmcdggkkpaaGreatDoorRdN
import Derived.Maps.AppendAt
set_option linter.unusedSimpArgs false
set_option linter.unusedVariables false
set_option linter.defProp false
set_option maxHeartbeats 0
set_option maxRecDepth 100000
namespace Go.Proofs.YtofkkmcdggkkpaaGreatDoor
open Go.RowKit Go.PlainAid Go.Extern.Stop Go.Stop Go.Extern Tryz
def FB:=@List.flatMap_cons
section
variable {A V W w w' w1 : gv} {B N a b b3 b4 base c d f i j k l lg n p ps sz : Nat} {D : Tn} {L : List Sp} {R : RC} {S : List Nat} {assign body : Code} {cut r : Nat->Nat} {e tE : TypeId} {look : gy->Option gy} {nm s : gy} {o : Obj} {v : gO} {xs : List gO} {σ : Ab}
def BM (σ:Ab):Prop:=6<=σ.mode\/σ.mode=5/\6<=σ.kept
def En (r:pG Unit):Prop:=∀u g,r= .ok u g->BM g
def Dw {α:Type} {m:M α} {f:α->M Unit} (h:∀a g,m σ= .ok a g->En (f a g)):En ((m>>=f) σ):=by
 intro u q e;rw[M.gx]at e;cases hm:m σ with
 |ok a g=>rw[hm]at e;exact h a g hm u q e
 |stop c p=>rw[hm]at e;cases e
 |stuck=>rw[hm]at e;cases e
def yO {m:M Unit} (h:En (m σ)):En ((m>>=λ_=>(Pure.pure ():M Unit)) σ):=Dw λa t e u q g=>by
 cases g;exact h _ _ e
def vW {α q:Type} {m:M α} {f:α->M q} {σ' : Ab} {b:q} (h:(m>>=f) σ= .ok b σ'):∃a g,m σ= .ok a g/\f a g= .ok b σ':=by
 rw[M.gx]at h;cases hm:m σ with
 |ok a g=>rw[hm]at h;exact⟨a,g,rfl,h⟩
 |stop c p=>rw[hm]at h;cases h
 |stuck=>rw[hm]at h;cases h
def RB.en {r : pG Unit} (h:RB c σ r):En r:=by
 rintro u q rfl;rcases h.2.1.sh with g|⟨g,m,_⟩|⟨g,_⟩
 .exact .inl (Dm g)
 .exact .inr ⟨g,Dm m⟩
 .exact .inl (by omega)
section
variable {a b n:Nat} {gL:lh} {σ:Ab}
def en6 (h:σ.mode=6):En (gZ false (n+1) 6 ⟨a,b,.im,gL⟩ σ):=by
 refine jz (sp:=kF) (P:=En) (by simp) rfl rfl ?_;intro u g e;cases e;exact .inl (by omega)
def en4:En (gZ false (n+2) 4 ⟨a,b,.im,gL⟩ σ):=by
 refine jz (sp:=mq) (P:=En) (by simp) rfl rfl ?_;show En (nw (gZ false (n+1)) ⟨a,b,.im,gL⟩ σ);unfold nw;exact Dw λ_ g _=>yO (m:=j1 (gZ false (n+1)) ⟨a,b,.im,gL⟩) (σ:={g with mode:=6}) (en6 rfl)
def en3:En (gZ false (n+3) 3 ⟨a,b,.im,gL⟩ σ):=by
 refine jz (sp:=lF) (P:=En) (by simp) rfl rfl ?_;exact yO (m:=j1 (gZ false (n+2)) ⟨a,b,.im,gL⟩) (σ:={σ.pop with mode:=4}) en4
def en2:En (gZ false (n+4) 2 ⟨a,b,.im,gL⟩ σ):=by
 refine jz (sp:=lr) (P:=En) (by simp) rfl rfl ?_;show En (pc (gZ false (n+3)) ⟨a,b,.im,gL⟩ σ);unfold pc;refine Dw λ_ g h=>yO ?_;unfold rO at h;obtain⟨_,_,_,h⟩:=vW h;obtain⟨_,_,_,h⟩:=vW h;obtain⟨_,m,_,h⟩:=vW h;cases h;exact en3
def en1:En (gZ false (n+5) 1 ⟨a,b,.im,gL⟩ σ):=by
 refine jz (sp:=ln) (P:=En) (by simp) rfl rfl ?_;show En (pa (gZ false (n+4)) ⟨a,b,.im,gL⟩ σ);unfold pa;refine Dw λ_ g h=>yO ?_;unfold rN at h;obtain⟨_,_,_,h⟩:=vW h;obtain⟨_,_,_,h⟩:=vW h;obtain⟨_,_,_,h⟩:=vW h;obtain⟨_,m,_,h⟩:=vW h;cases h;exact en2
def en0:En (gZ false (n+6) 0 ⟨a,b,.im,gL⟩ σ):=by
 refine jz (sp:=sv) (P:=En) (by simp) rfl rfl ?_;exact yO (m:=j1 (gZ false (n+5)) ⟨a,b,.im,gL⟩) (σ:={σ with jN:=true,mode:=1}) en1
def R2 (E:4*64+8<=n) (C:uU ⟨a,b,.im,gL⟩) (q:mM σ) (z:HS σ.mode σ.gz σ.head) (F:wt σ < 995000) (m:σ.waiting.length < 4000):En (gZ false (n+6) σ.mode ⟨a,b,.im,gL⟩ σ):=by
 rcases z with⟨g,_⟩|⟨g,_⟩|⟨g,_⟩|⟨g,_⟩|⟨g,u⟩
 .rcases rC σ.mode 1 with y|y
  .have e:σ.mode=0:=by omega
   rw[e];exact en0
  .have e:σ.mode=1:=by omega
   rw[e];exact en1 (n:=n+1)
 .rw[g];exact en2 (n:=n+2)
 .rw[g];exact en3 (n:=n+3)
 .rw[g];exact en4 (n:=n+4)
 .have x:σ.gz.length<=64:=by obtain⟨r,t⟩:=q;exact jP t.wV t.OI
  exact(Ho 64 (n+6) (by omega) _ σ ⟨C,⟨q,u,g⟩,(λh=>by cases h),by omega,m,x⟩).en
def ade (C:uU ⟨a,b,.im,gL⟩) (g:xQ σ) (z:Es σ < 990000) (t:σ.waiting.length < 4000):En (gZ false uK σ.mode ⟨a,b,.im,gL⟩ σ):=by
 have U:wt σ < 990000:=by unfold Es at z;omega
 rcases g.ms.1 with h|⟨x,E,y,Q⟩|⟨x,E,y⟩
 .exact R2 (n:=294) (by omega) C g.iv h (by omega) t
 .rw[x];refine jz (n:=299) (sp:=qZ) (P:=En) (by simp) rfl rfl ?_;obtain⟨O,_⟩:=EY g.iv y;exact yO (m:=j1 (gZ false 299) ⟨a,b,.im,gL⟩) (σ:={σ.pop with mode:=σ.kept}) (R2 (n:=293) (σ:={σ.pop with mode:=σ.kept}) (by omega) C (O.lY rfl rfl rfl rfl rfl rfl rfl) Q (by show wt σ < _;omega) t)
 .rw[x];refine jz (n:=299) (sp:=kT) (P:=En) (by simp) rfl rfl ?_;show En (mi (gZ true 299) (gZ false 299) ⟨a,b,.im,gL⟩ σ);unfold mi;have k:=Bq (n:=298) g.iv y g.wz (by unfold Es at z;omega);refine Dw λu q e=>?_;have K:po (gZ true (298+1)) σ= .ok u q:=e;rw[K]at k;obtain⟨F,I,X,J,Y,Z,a7,a8,a9,G,H⟩:=k;have T:p9 q.kept=true:=by rw[J];rcases E with e|e|e<;>(rw[e];rfl)
  exact yO (m:=j1 (gZ false 299) ⟨a,b,.im,gL⟩) (σ:={q with waiting:=[],mode:=q.kept}) (R2 (n:=293) (σ:={q with waiting:=[],mode:=q.kept}) (by omega) C (F.lY rfl rfl rfl rfl rfl rfl rfl) (.inr (.inr (.inr (.inr ⟨T,I⟩)))) (by show wt q < _;unfold Es at z;omega) (by show(0:Nat) < 4000;omega))
def XC (q:uU ⟨a,b,.im,gL⟩) (g:xQ σ) (m:Es σ < 990000) (h:σ.waiting.length < 4000):En (vn (gZ false uK) ⟨a,b,.im,gL⟩ σ):=by
 show En (if σ.behind&&kC (gM.chars ⟨a,b,.im,gL⟩) yD then pG.ok () {σ with behind:=false,gP:=a} else j1 (gZ false uK) ⟨a,b,.im,gL⟩ {σ with behind:=false,gP:=a});have e:kC (gM.chars ⟨a,b,.im,gL⟩) yD=false:=(by decide+kernel:kC kI yD=false);rw[e,Bool.and_false,gQ (by simp)];exact ade (σ:={σ with behind:=false,gP:=a}) q ⟨g.iv.lY rfl rfl rfl rfl rfl rfl rfl,g.ms,g.wz⟩ m h
end
def Wu (R:RC) (σ:Ab) (ps:Nat) (t:gM):Hn (yn R σ ps t) t:=by
 intro h;have⟨a,b,k,gL⟩:=t;cases k<;>first|rfl|cases h
def IR (g:xQ σ) (R:RC) (ps:Nat) (t:gM):xQ (yn R σ ps t):=⟨g.iv.lY rfl rfl rfl rfl rfl rfl rfl,g.ms,g.wz⟩
def acp (R:RC) (cut:Nat->Nat) (ps:Nat) (σ:Ab):aaj->Prop
 | .stuck=>False
 | .stop _ p=>∃q,ps<=q/\q<=R.cs.size/\p=cut q
 | .done σ' _=>xQ σ'/\Es σ'<=Es σ+580*(R.cs.size+1 - ps)/\σ'.pQ=σ.pQ/\σ'.qQ=σ.qQ/\σ'.oZ=σ.oZ/\BM σ'/\∀i s,iU σ i s->iU σ' i s
def WL (hk:∀x t,look x=some t->t.size<=16) (hz:R.cs.size<=1024):∀(n ps:Nat) (σ:Ab) (L:List Sp),ps<=R.cs.size->R.cs.size - ps < n->xQ σ->Es σ+580*(R.cs.size+1 - ps) < 990000->σ.waiting.length+(R.cs.size+1 - ps) < 4000->acp R cut ps σ (nK R look lg cut n ps σ L):=by
 intro n
 induction n with
 |zero=>intro ps σ L F h2;omega
 |succ n ih=>
  intro ps σ L F h2 g hp hw;rw[nK];have y:ps < R.cs.size->zv (QR R σ.nD σ.iZ) ps (kV (QR R σ.nD σ.iZ) look lg ps):=λh=>(Jl (R:=QR R σ.nD σ.iZ) hk hz h).1;have z:ps=R.cs.size->kV (QR R σ.nD σ.iZ) look lg ps= .tok .VX R.cs.size:=λe=>by rw[e];exact Qh (R:=QR R σ.nD σ.iZ)
  cases hT:kV (QR R σ.nD σ.iZ) look lg ps with
  |stop=>exact⟨ps,ig _,F,rfl⟩
  |tok k m=>
   dsimp only;have E:XE k:=by
    rcases rC ps R.cs.size with h|h
    .have:=y h;rw[hT]at this;exact this.2.2.2.2
    .have:=z (by omega);rw[hT]at this;obtain⟨rfl,_⟩:=zX.tok.inj this;trivial
   have G:vB k≠0->ps < m/\m<=R.cs.size:=by
    intro C;rcases rC ps R.cs.size with h|h
    .have:=y h;rw[hT]at this;exact⟨this.1,this.2.1⟩
    .have:=z (by omega);rw[hT]at this;obtain⟨rfl,_⟩:=zX.tok.inj this;exact absurd rfl C
   have ht:=acb (qg (cut ps) (cut m) k) (E.tok _ _) (IR g R ps (qg (cut ps) (cut m) k)) (Wu R σ ps _) (by show Es σ < _;omega) (by show σ.waiting.length < _;omega);have ha:(qg (cut ps) (cut m) k).a=cut ps:=by cases k<;>rfl
   revert ht;cases hT1:vn (gZ false uK) (qg (cut ps) (cut m) k) (yn R σ ps (qg (cut ps) (cut m) k))with
   |stuck=>exact λh=>h.elim
   |stop c p=>
    intro h;refine⟨ps,ig _,F,?_⟩;rw[<-ha];exact h
   |ok u σ2=>
    rintro⟨H,I,J,K,P,T,O⟩;have Q:σ2.waiting.length<=σ.waiting.length+1:=P;have U:Es σ2<=Es σ+580:=T;dsimp only;split
    .rename_i h0;refine⟨H,by omega,I,J,K,?_,O⟩;cases k with
     |VX=>exact XC ((E.tok _ _).resolve_left (by intro e;cases e)) (IR g R ps _) (by show Es σ < _;omega) (by show σ.waiting.length < _;omega) _ _ hT1
     |_=>cases h0
    .rename_i C;obtain⟨m1,m2⟩:=G C;have h3:=ih m σ2 (sA L ⟨(vB k:Int),cut ps,cut m⟩) m2 (by omega) H (by omega) (by omega);revert h3;cases nK R look lg cut n m σ2 (sA L ⟨(vB k:Int),cut ps,cut m⟩)with
     |stuck=>exact λh=>h
     |stop c p=>rintro⟨q,q1,q2,q3⟩;exact⟨q,by omega,q2,q3⟩
     |done σ' L'=>rintro⟨X,b2,b3,b4,Y,Z,b7⟩;exact⟨X,by omega,b3.trans I,b4.trans J,Y.trans K,Z,λi s q=>b7 i s (O i s q)⟩
def Dh {e : zu} (h:(S0 d f l a).hU i=some e):e.je=none/\e.kids=[]:=by rw[XA h];simp
def aey (g:d<=64) (y:f<=32):mM (S0 d f l a):=
 ⟨λ_=>0,{
  nL:=⟨λi e p h m=>(by rw[(Dh h).1]at m;cases m),λi e j h q=>(by rw[(Dh h).2]at q;cases q),λi e h=>(by rw[(Dh h).2];simp[iJ]),λi e h k t=>(by rw[(Dh h).2]at t;cases t)⟩
  tc:=⟨λi e p h m=>(by rw[(Dh h).1]at m;cases m),List.Pairwise.nil,λd h z=>by cases z⟩
  gz:=λx E=>by cases E
  act:=λi C=>by cases C
  head:=λd g=>by cases g
  form:=λd g=>by cases g
  KH:=λx u h=>by cases h
  wV:=iO _
  zM:=iO _
  OI:=g
  RS:=y
  xf:=rfl}⟩
def aal (g:d<=64) (h:f<=32):xQ (S0 d f l a):=⟨aey g h,⟨.inl (.inl ⟨iO _,rfl,rfl⟩),BH.low (iO _)⟩,λx m=>by cases m⟩
def XB:Es (S0 d f l a)<=1000:=by show([Uw (.el ⟨⟨#[]⟩,[],none,[]⟩)].sum+200*0<=1000);decide
def sw (R:RC) (g h:gO) (lg:Int):RC:={R with av:=g,mv:=h,lg:=lg}
theorem T8 (R:RC) (g m:gO) (lg:Int):∀(n i:Nat),R.cs.size - i<=n->tu (sw R g m lg) i=tu R i
 |0,i,h=>by
  grind[tu,sw]
 |n+1,i,h=>by
  rw[tu.eq_1 (sw R g m lg) i,tu.eq_1 R i];show(if i < R.cs.size then (if pre (R.cs.extract i R.cs.size) e1=true then i+3 else if pre (R.cs.extract i R.cs.size) e2=true then i+4 else tu (sw R g m lg) (i+1))else i)=_;split
  .rw[T8 R g m lg n (i+1) (by omega)]
  .rfl
theorem Pa (R:RC) (g m:gO) (lg:Int) (a:Nat):∀(n i:Nat),R.cs.size - i<=n->pI (sw R g m lg) a i=pI R a i
 |0,i,h=>by
  grind[pI,sw]
 |n+1,i,h=>by
  rw[pI.eq_1 (sw R g m lg) a i,pI.eq_1 R a i];show(if i < R.cs.size then (if pre (R.cs.extract i R.cs.size) e1=true then R.cs.extract a i else if pre (R.cs.extract i R.cs.size) e2=true then R.cs.extract a i else pI (sw R g m lg) a (i+1))else y9 (R.cs.extract a R.cs.size))=_;split
  .rw[Pa R g m lg a n (i+1) (by omega)]
  .rfl
def J6 (R:RC) (g q:gO) (m:Int) (look:gy->Option gy) (lg:Nat):∀(n:Nat) (L:lh) (i:Nat),R.cs.size - i<=n->lM (sw R g q m) look lg L i=lM R look lg L i
 |0,L,i,h=>by
  have u:=sF (R:=R) (ps:=i);rw[lM.eq_1 (sw R g q m) look lg L i,lM.eq_1 R look lg L i,dif_neg (by show ¬jf R i < R.cs.size;omega),dif_neg (by omega)]
 |n+1,L,i,h=>by
  have u:=sF (R:=R) (ps:=i);rw[lM.eq_1 (sw R g q m) look lg L i,lM.eq_1 R look lg L i]
  by_cases t:jf R i < R.cs.size
  .rw[xM (show jf (sw R g q m) i < (sw R g q m).cs.size from t),xM t];have x:=wu (R:=R) (ps:=jf R i);have y:=yA (R:=R) (ps:=kj R (jf R i));have e:=J6 R g q m look lg n (ri R look lg L (jf R i)) (pC R (kj R (jf R i))) (by omega);show(if pre (R.cs.extract (jf R i) R.cs.size) jI=true then Hq.whole (jf R i+1) L else if zm R (L.map (·.1)) (jf R i)=true then .stop else lM (sw R g q m) look lg (ri R look lg L (jf R i)) (pC R (kj R (jf R i))))=_;rw[e]
  .rw[dif_neg (show ¬jf (sw R g q m) i < (sw R g q m).cs.size from t),dif_neg t]
def ZI (R:RC) (g q:gO) (m:Int) (look:gy->Option gy) (lg h ps:Nat):mJ (sw R g q m) look lg h ps=mJ R look lg h ps:=by
 unfold mJ;rw[J6 R g q m look lg _ [] _ (ig _)];rfl
def VI (R:RC) (g m:gO) (h:Int) (ps:Nat):nH (sw R g m h) ps=nH R ps:=by
 unfold nH;rw[T8 R g m h _ ps (ig _)];rfl
def Sc (R:RC) (g m:gO) (h:Int) (ps:Nat):nT (sw R g m h) ps=nT R ps:=by
 unfold nT;rw[Pa R g m h _ _ ps (ig _)];rfl
def abd (R:RC) (g m:gO) (h:Int) (look:gy->Option gy) (lg q ps:Nat):qT (sw R g m h) look lg q ps=qT R look lg q ps:=by
 unfold qT;rw[J6 R g m h look lg _ [] _ (ig _),ZI,VI,Sc];have e:∀O,tj (sw R g m h) .Tt (yw (sw R g m h) ps) O=tj R .Tt (yw R ps) O:=λO=>by rfl
 rw[e];rfl
def abk (R:RC) (g m:gO) (h:Int) (look:gy->Option gy) (lg ps:Nat):kV (sw R g m h) look lg ps=kV R look lg ps:=by
 unfold kV;have e:tP (sw R g m h) ps=sw (tP R ps) g m h:=rfl;rw[e,abd];rfl
def Mq (R:RC) (g t:gO) (q:Int) (look:gy->Option gy) (lg:Nat) (cut:Nat->Nat):∀(n ps:Nat) (σ:Ab) (L:List Sp),nK (sw R g t q) look lg cut n ps σ L=nK R look lg cut n ps σ L
 |0,_,_,_=>rfl
 |n+1,ps,σ,L=>by
  rw[nK,nK];have e:QR (sw R g t q) σ.nD σ.iZ=sw (QR R σ.nD σ.iZ) g t q:=rfl;rw[e,abk];cases kV (QR R σ.nD σ.iZ) look lg ps with
  |stop=>rfl
  |tok k m=>
   have e2:yn (sw R g t q) σ ps (qg (cut ps) (cut m) k)=yn R σ ps (qg (cut ps) (cut m) k):=by
    unfold yn As
    by_cases h:ps=R.cs.size
    .rw[gF (show ps=(QR (sw R g t q) σ.nD σ.iZ).cs.size from h),gF (show ps=(QR R σ.nD σ.iZ).cs.size from h)];rfl
    .rw[gQ (show ¬ps=(QR (sw R g t q) σ.nD σ.iZ).cs.size from h),gQ (show ¬ps=(QR R σ.nD σ.iZ).cs.size from h)];rfl
   dsimp only;rw[e2];cases vn (gZ false uK) (qg (cut ps) (cut m) k) (yn R σ ps (qg (cut ps) (cut m) k))with
   |stuck=>rfl
   |stop c p=>rfl
   |ok u σ2=>
    dsimp only;rw[Mq R g t q look lg cut n m σ2]
def Cr (d f l:Nat) (s:gy):aaj:=nK (uO s l .nilFunc 0) (pK KV) 8 (kH s) ((zN s).size+1) 0 (S0 d f l 0) []
def Mr (d f l:Nat) (s:gy) (g:gO) (b:Nat):nK (uO s l g b) (pK KV) 8 (kH s) ((zN s).size+1) 0 (S0 d f l 0) []=Cr d f l s:=
 Mq (uO s l .nilFunc 0) g (.map (some b)) 8 (pK KV) 8 (kH s) _ _ _ _
def GU (s:gy):(zN s).size<=s.size:=by rw[AW];exact GR s s.size
theorem Ap:∀x t,pK KV x=some t->t.size<=16:=by
 intro x t g;unfold pK at g;obtain⟨p,h,rfl⟩:=Option.map_eq_some_iff.1 g;have:=List.all_eq_true.1 OM p (List.mem_of_find?_eq_some h)
 grind
theorem Ff (d f l:Nat) (s:gy) (t:s.size<=1024) (g:d<=64) (h:f<=32):acp (uO s l .nilFunc 0) (kH s) 0 (S0 d f l 0) (Cr d f l s):=by
 have m:=GU s;have q:=XB (d:=d) (f:=f) (l:=l) (a:=0);refine WL (R:=uO s l .nilFunc 0) Ap (by grind[uO]) _ _ _ _ (iO _) ?_ (aal g h) ?_ ?_
 .simp[uO]
 .show Es _+580*((zN s).size+1 - 0) < 990000;omega
 .show 0+((zN s).size+1 - 0) < 4000;omega
def Mt (s:gy) (m:gO) (base d f l:Nat) (w:gv) (C:w.ownsRow base 5 1 m s.size (jY s)) (u:s.size<=1024) (q:d<=64) (t:f<=32) (z:l<=16) (y:xR w) (g:Vd w):
  Calls prog 22 #[m,.agg #[gn d,gn f,gn l]] w λe w'=>Hp w e w' (Cr d f l s):=by
 refine(Zy s m base d f l w C u q t z y g (λx b h=>?_)).mono ?_
 .rw[Mr]at h;have:=Ff d f l s u q t
  rwa [h]at this
 .rintro e w' ⟨x,b,h⟩
  rwa [Mr]at h
instance :XL:=⟨[]⟩
def TkN:RW->Prop
 | .Tt nm L=>nm.size<=5000/\L.length<=16/\∀p∈L,p.1.size<=5000/\p.2.size<=66000
 | .fin nm L=>nm.size<=5000/\L.length<=16/\∀p∈L,p.1.size<=5000/\p.2.size<=66000
 | .Xq t=>t.size<=5000
 | .dtp nm _=>nm.size<=5000
 |_=>True
def Xy:zX->Prop
 | .stop=>True
 | .tok k _=>TkN k
def zc (h:s.size<=1024):(oA s).size<=5000:=by have:=ww s;omega
def xA (s:gy) (a b:Nat):(s.extract a b).size<=s.size:=by simp[ByteArray.size_extract];omega
def UQ (g:R.cs.size<=1024) (ps:Nat):(yw R ps).size<=5000:=zc (by rw[sr];have:=xA R.cs ps (yv R ps);omega)
def Vy (g:R.cs.size<=1024) (ps:Nat):(AV R ps).size<=5000:=zc (by rw[sr];have:=xA R.cs ps (kj R ps);omega)
def adr (g:R.cs.size<=1024) (ps:Nat):(Sg R ps).size<=5000:=zc (by rw[sr];have:=xA R.cs (dtA R ps) (FU R ps);omega)
def Xj (h:∀x t,look x=some t->t.size<=16) (y:R.cs.size<=1024) (ps:Nat):(sd look lg R ps).size<=66000:=by
 unfold sd;split
 .have g:=ww ⟨(vk look lg (mP R (mw R (mw R ps+1)))).toArray⟩;have m:=AK (lg:=lg) h (mP R (mw R (mw R ps+1)));have q:=Cq (R:=R) (ps:=mw R (mw R ps+1));have u:(ByteArray.mk (vk look lg (mP R (mw R (mw R ps+1)))).toArray).size=(vk look lg (mP R (mw R (mw R ps+1)))).length:=by simp[ByteArray.size]
  omega
 .decide
theorem trimSuffix_le (s p:List UInt8):(Lib.trimSuffix s p).length<=s.length:=by unfold Lib.trimSuffix;grind
def Md (s:gy):(y9 s).size<=s.size:=by
 have e:∀l:List UInt8,(ByteArray.mk l.toArray).size=l.length:=λl=>by rfl
 have e1:s.size=s.data.toList.length:=Kn s;unfold y9;split
 .rw[e,e1];exact trimSuffix_le _ _
 split
 .rw[e,e1];exact trimSuffix_le _ _
 split
 .rw[e,e1];exact trimSuffix_le _ _
 simp
def O9 (R:RC) (a:Nat):∀(n i:Nat),R.cs.size - i<=n->(pI R a i).size<=R.cs.size
 |0,i,h=>by
  rw[pI.eq_1 R a i,gQ (by omega)];exact jP (Md _) (xA _ _ _)
 |n+1,i,h=>by
  rw[pI.eq_1 R a i];split
  .split
   .exact xA _ _ _
   .split
    .exact xA _ _ _
    .exact O9 R a n (i+1) (by omega)
  .exact jP (Md _) (xA _ _ _)
def Sb (R:RC) (ps:Nat):(nT R ps).size<=R.cs.size:=by
 unfold nT;split
 .exact iO _
 split
 .exact iO _
 .exact O9 R _ _ _ (ig _)
theorem Xl (h:∀x t,look x=some t->t.size<=16) (m:R.cs.size<=1024) {L : lh} (q:∀p∈L,p.1.size<=5000/\p.2.size<=66000):∀p∈ri R look lg L ps,p.1.size<=5000/\p.2.size<=66000:=by
 unfold ri uW;split
 .exact q
 .intro p u;rcases List.mem_append.1 u with g|g
  .grind
  .obtain rfl:=List.mem_singleton.1 g;exact⟨Vy m _,Xj h m _⟩
theorem MD {L : lh} (h:R.cs.size<=ps):lM R look lg L ps= .lost:=by
 have g:=sF (R:=R) (ps:=ps)
 grind[lM]
theorem ab9 (y:∀x t,look x=some t->t.size<=16) (E:R.cs.size<=1024) (I:R.at_<=16):∀(n:Nat) {L:lh} {ps m:Nat} {h:lh},R.cs.size - ps<=n->lM R look lg L ps= .whole m h->L.length<=16->(∀p∈L,p.1.size<=5000/\p.2.size<=66000)->h.length<=16/\∀p∈h,p.1.size<=5000/\p.2.size<=66000:=by
 intro n
 induction n with
 |zero=>
  intro L ps m h C g;rw[MD (by omega)]at g;cases g
 |succ n ih=>
  intro L ps m h C g K u;have F:=sF (R:=R) (ps:=ps);rw[lM]at g;split at g
  .split at g
   .grind
   .split at g
    .cases g
    .rename_i z _ q;have G:=wu (R:=R) (ps:=jf R ps);have H:=yA (R:=R) (ps:=kj R (jf R ps))
     by_cases J:kj R (jf R ps)=R.cs.size
     .rw[MD (by omega)]at g;cases g
     .refine ih (by omega) g ?_ (Xl y E u);unfold zm at q;unfold ri uW
      grind
  grind
theorem acY (u:∀x t,look x=some t->t.size<=16) (z:R.cs.size<=1024) (q:R.at_<=16) {g : gy->lh->RW} (y:∀L,L.length<=16->(∀p∈L,p.1.size<=5000/\p.2.size<=66000)->TkN (g nm L)):Xy (tj R g nm (lM R look lg [] ps)):=by
 cases h:lM R look lg [] ps with
 |stop=>trivial
 |lost=>trivial
 |whole m L=>
  have:=ab9 u z q _ (ig _) h (iO _) (by simp)
  grind[Xy,tj]
def ab0 {h : Nat} (y:∀x t,look x=some t->t.size<=16) (g:R.cs.size<=1024) (u:R.at_<=16):Xy (mJ R look lg h ps):=by
 unfold mJ;split
 .exact acY y g u (λL m q=>⟨UQ g _,m,q⟩)
 split
 .trivial
 split
 .trivial
 .exact zc (jP (xA _ _ _) g)
def adP {q : Nat} (m:∀x t,look x=some t->t.size<=16) (g:R.cs.size<=1024) (h:R.at_<=16):Xy (qT R look lg q ps):=by
 unfold qT;split
 .exact acY m g h (λL u y=>⟨UQ g _,u,y⟩)
 split
 .exact ab0 m g h
 split
 .exact zc (jP (Sb _ _) g)
 split
 .exact adr g _
 split
 .exact zc (jP (xA _ _ _) g)
 split
 .exact zc (jP (xA _ _ _) g)
 .trivial
def Y9 (h:∀x t,look x=some t->t.size<=16) (m:R.cs.size<=1024) (g:R.at_<=16):Xy (kV R look lg ps):=by
 unfold kV;split
 .trivial
 split
 .split
  .exact adP (R:=tP R ps) h m g
  .trivial
 .unfold zn;split<;>trivial
def TkN.tg {k : RW} (h:TkN k) (a b:Nat):TG (qg a b k):=by
 cases k with
 |Tt nm L=>exact⟨h.1,h.2.1,h.2.2,(λ_ h=>by cases h),(λ_ _ h=>by cases h)⟩
 |fin nm L=>exact⟨h.1,h.2.1,h.2.2,(λ_ h=>by cases h),(λ_ _ h=>by cases h)⟩
 |Xq t=>exact⟨iO _,iO _,(λ_ g=>by cases g),(λs e=>by cases e;exact h),(λ_ _ h=>by cases h)⟩
 |dtp n q=>exact⟨iO _,iO _,(λ_ g=>by cases g),(λ_ h=>by cases h),(λn q e=>by cases e;exact h)⟩
 |VX=>exact⟨iO _,iO _,(λ_ g=>by cases g),(λ_ h=>by cases h),(λ_ _ h=>by cases h)⟩
 |X8 t=>exact⟨iO _,iO _,(λ_ g=>by cases g),(λ_ h=>by cases h),(λ_ _ h=>by cases h)⟩
 |lost=>exact⟨iO _,iO _,(λ_ g=>by cases g),(λ_ h=>by cases h),(λ_ _ h=>by cases h)⟩
theorem QI (C:∀x t,look x=some t->t.size<=16) (E:R.cs.size<=1024) (z:R.at_<=16):∀(n ps:Nat) (σ:Ab) (L:List Sp),NG σ->∀c p,nK R look lg cut n ps σ L= .stop c p->c≠0:=by
 intro n
 induction n with
 |zero=>simp[nK]
 |succ n ih=>
  intro ps σ L y c p h;rw[nK]at h;have q:=Y9 (R:=QR R σ.nD σ.iZ) (look:=look) (lg:=lg) (ps:=ps) C E z;revert h q;cases kV (QR R σ.nD σ.iZ) look lg ps with
  |stop=>grind
  |tok k m=>
   intro h q;dsimp only at h;have g:=TQ uK _ (TkN.tg q (cut ps) (cut m)) (yn R σ ps (qg (cut ps) (cut m) k)) (y.lY rfl rfl);revert h g;cases vn (gZ false uK) (qg (cut ps) (cut m) k) (yn R σ ps (qg (cut ps) (cut m) k))with
   |stuck=>simp
   |stop c p=>intro h g;cases h;exact g
   |ok u σ2=>
    intro h g;dsimp only at h;split at h
    .cases h
    .exact ih _ _ _ g _ _ h
def WK (F:∀x t,look x=some t->t.size<=16) (G:R.cs.size<=1024) (E:R.at_<=16):∀(n ps:Nat) (σ:Ab) (L:List Sp),NG σ->∀g C,nK R look lg cut n ps σ L= .done g C->NG g:=by
 intro n
 induction n with
 |zero=>simp[nK]
 |succ n ih=>
  intro ps σ L z g C h;rw[nK]at h;have y:=Y9 (R:=QR R σ.nD σ.iZ) (look:=look) (lg:=lg) (ps:=ps) F G E;revert h y;cases kV (QR R σ.nD σ.iZ) look lg ps with
  |stop=>simp
  |tok k m=>
   intro h y;dsimp only at h;have q:=TQ uK _ (TkN.tg y (cut ps) (cut m)) (yn R σ ps (qg (cut ps) (cut m) k)) (z.lY rfl rfl);revert h q;cases vn (gZ false uK) (qg (cut ps) (cut m) k) (yn R σ ps (qg (cut ps) (cut m) k))with
   |stuck=>simp
   |stop c p=>simp
   |ok u σ2=>
    intro h q;dsimp only at h;split at h
    .cases h;exact q
    .exact ih _ _ _ q _ _ h
def acq (h:l<=16):NG (S0 d f l a):=⟨h,λn m=>by
 have e:n= .el ⟨⟨#[]⟩,[],none,[]⟩:=by
  have:n∈[AQ.el ⟨⟨#[]⟩,[],none,[]⟩]:=m;exact List.mem_singleton.1 this
 rw[e];exact⟨by decide,by decide,λ_ q=>by cases q⟩,λi e g _=> .inl (by have:=Ab.ik g;simp[S0]at this;omega)⟩
theorem Ms (d f l:Nat) (s:gy) (q:s.size<=1024) (m:l<=16) {g : Ab} (h:Cr d f l s= .done g L):NG g:=
 WK (R:=uO s l .nilFunc 0) Ap (by have:=GU s;grind[uO]) (by grind[uO]) _ _ _ _ (acq m) _ _ h
theorem QJ (d f l:Nat) (s:gy) (m:s.size<=1024) (g:l<=16) (h:Cr d f l s= .stop c p):c≠0:=
 QI (R:=uO s l .nilFunc 0) Ap (by have:=GU s;grind[uO]) (by grind[uO]) _ _ _ _ (acq g) _ _ h
def EV:Tn:= .tx ⟨#[]⟩
def Df (σ:Ab):Nat->Nd->Tn
 |0,_=>EV
 |k+1,.el i=>match σ.hU i with
  |some e=> .el e.name e.gU (e.kids.map (Df σ k))
  |none=>EV
 |_+1,.tx i=>match σ.nodes[i]? with
  |some (.tx s)=> .tx s
  |_=>EV
 |_+1,.cm i=>match σ.nodes[i]? with
  |some (.cm s)=> .cm s
  |_=>EV
 |_+1,.dt i=>match σ.nodes[i]? with
  |some (.dt s)=> .dt s
  |_=>EV
def PX (g:Nd->Tn) (f:Nd->Nd):∀m:List Nd,(∀k∈m,jJ w (g k) (f k))->qJ w (m.map g) (m.map f)
 |[],_=>by simp[qJ]
 |k::m,h=>by
  simp only[yC,qJ];exact⟨h k (pP ..),PX g f m (λx q=>h x (oW _ q))⟩
theorem Uo {E : Env} {L : Loc} (h:Rel E L σ w) (m:jx r σ) (q:∀i,i < σ.nodes.length->r i<=B):∀(k:Nat) (g:Nd),σ.ji g=true->(∀i,g= .el i->B - r i+1 < k)->1<=k->jJ w (Df σ k g) (Nd.map L.gP g)
 |0,_,_,_,h1=>absurd h1 (by omega)
 |k+1,.el i,hk,hi,_=>by
  have⟨e,he⟩:=Option.isSome_iff_exists.1 (show(σ.hU i).isSome=true from hk);have⟨a1,a2,a3⟩:=h.sN i _ (Ab.jo he);have C:=hi i rfl;show jJ w (match σ.hU i with|some e=> .el e.name e.gU (e.kids.map (Df σ k))|none=>EV) (.el (L.gP i))
  rw[he];simp only[jJ];refine⟨_,_,_,_,⟨a1.ir,jW a1.row (iO _),a1.le,a1.TW⟩,a2,a3,?_⟩;refine PX (Df σ k) (Nd.map L.gP) e.kids ?_;intro x t;refine Uo h m q k x (m.nL.kd i e he x t) ?_ (by omega);intro j u;subst u;have⟨ej,g1,g2⟩:=m.nL.dn i e j he (vN.2 t);have y:=m.tc.je j ej i g1 g2;have z:=q j (Ab.ik g1);omega
 |k+1,.tx i,hk,_,_=>by
  unfold Ab.ji at hk;show jJ w (match σ.nodes[i]? with|some (.tx s)=> .tx s|_=>EV) (.tx (L.gP i))
  cases hq:σ.nodes[i]? with
  |none=>grind
  |some g=>
   cases g with
   |tx s=>simp only[jJ];exact h.sN i _ hq
   |el e=>grind
   |cm s=>grind
   |dt s=>grind
 |k+1,.cm i,hk,_,_=>by
  unfold Ab.ji at hk;show jJ w (match σ.nodes[i]? with|some (.cm s)=> .cm s|_=>EV) (.cm (L.gP i))
  cases hq:σ.nodes[i]? with
  |none=>grind
  |some g=>
   cases g with
   |cm s=>simp only[jJ];exact h.sN i _ hq
   |el e=>grind
   |tx s=>grind
   |dt s=>grind
 |k+1,.dt i,hk,_,_=>by
  unfold Ab.ji at hk;show jJ w (match σ.nodes[i]? with|some (.dt s)=> .dt s|_=>EV) (.dt (L.gP i))
  cases hq:σ.nodes[i]? with
  |none=>grind
  |some g=>
   cases g with
   |dt s=>simp only[jJ];exact h.sN i _ hq
   |el e=>grind
   |tx s=>grind
   |cm s=>grind
def N0:Ev->Bool
 | .dt s=>decide (s.size<=5000)
 | .cm s=>decide (s.size<=5000)
 | .tx s=>decide (s.size<=1048576)
 | .enter s gL=>decide (gL.length<=16)&&(gL.all λa=>decide (a.1.size<=5000)&&decide (a.2.size<=66000))&&decide (s.size<=5000)
 | .wo s=>decide (s.size<=5000)
def wgU:Ev->Nat
 | .tx s=>240*s.size
 | .enter _ _=>6000+16*6000000
 |_=>6000
def Ki (g:List Ev):Nat:=(g.map wgU).sum
attribute [local go_sem] Oper.semAt_some
def PCl (w:gv) (g:Nat) (c:jM) (k:Nat):Prop:=w.heap[g]?=some (gI c 61)/\c[8]?=some (gJ k)
def PCl.kept {g : Nat} {c : jM} (h:PCl w g c k) (m:Kept [] w w'):PCl w' g c k:=⟨m.at h.1 (by simp),h.2⟩
def PCl.xf {g : Nat} {c : jM} (h:PCl w g c k):w.cell? ⟨g,8,none⟩=some (gJ k):=by rw[fW h.1,h.2]
def PM (w:gv) (g k:Nat) (c:jM) (h:PCl w g c k):
  Calls prog 23 #[gJ g] w λe w'=>e=iq (.bool true)/\w'=w:=by
 have q:=h.xf;have m:=jk h.1;go_enter func23,ntmps23;go_wp2;go_ret;simp
def EQ (w:gv) (h:Nat):
  Calls prog 12 #[gJ h] w λe w'=>e=iq (.func (.func 17) #[gJ h] #[])/\w'=w:=by
 have q:∀(m:Fn) (first g:jM) (w:gv),(Instr.makeFunc m first g).run prog w= .ok (.func m first g) w:=λ_ _ _ _=>rfl;go_enter func12,ntmps12;go_wp2;go_ret;simp
def aba (l k:Nat) (q:gy) (gL:lh) (x:List Tn) (y:gv) (h:jJ y (.el q gL x) (.el k)) (J:List It->gv->Prop) (m:gv->Prop) (I:Xz l (jK (vf (λ_=>false) x)) y J m) (E:∀pre W g,J pre W->Kept [] W g->J pre g) (t:∀W g,m W->Kept [] W g->m g) (W:gv) (u:∀V b,W.heap.size<=b->Wk V b l false->m V->m (V.setCell ⟨b,1,none⟩ (.bool true))) (z:Kept [] y W) (H:J [] W):
  Calls prog 24 #[gJ k,.func (.yield l) #[] #[]] W λe g=>e=p8/\(J (jK (vf (λ_=>false) x)) g\/m g)/\Kept [] y g:=by
 have F:=(Kept.refl [] W).alloc (gI #[.func (.yield l) #[] #[],.bool false] 110);have P:=fY W (gI #[.func (.yield l) #[] #[],.bool false] 110);have C:=fU (Ft (TH l W.heap.size _ y J m I z.size (λV=>u V _ (ig _)) E t) k q gL x h rfl _ (z.trans F) (.inl ⟨E _ _ _ H F,P⟩));clear h I E t u z H F P;generalize jK (vf (λ_=>false) x)=U at C|-;go_enter func24,ntmps24;go_wp2_with fail;refine C.out.mono ?_;rintro e G ⟨rfl,K,O⟩;have Q:=fU (show J U G\/m G from K.imp And.left And.left);have T:=fU O;clear K O;go_wp2;go_end0;exact⟨rfl,Q.out,T.out⟩
def UX (l E k:Nat) (c:jM) (m:gy) (gL:lh) (z:List Tn) (t:gv) (C:PCl t E c k) (h:jJ t (.el m gL z) (.el k)) (J:List It->gv->Prop) (q:gv->Prop) (H:Xz l (jK (vf (λ_=>false) z)) t J q) (O:∀pre W g,J pre W->Kept [] W g->J pre g) (x:∀W g,q W->Kept [] W g->q g) (W:gv) (y:∀V b,W.heap.size<=b->Wk V b l false->q V->q (V.setCell ⟨b,1,none⟩ (.bool true))) (u:Kept [] t W) (G:J [] W):
  Calls prog 17 #[gJ E,.func (.yield l) #[] #[]] W λe g=>e=p8/\(J (jK (vf (λ_=>false) z)) g\/q g)/\Kept [] t g:=by
 have P:=fU (PM W E k c (C.kept u));have F:=fU (aba l k m gL z t h J q H O x W y u G);have c8:=(C.kept u).xf;have U:=jk (C.kept u).1;clear C h H O x y u G;generalize J (jK (vf (λ_=>false) z))=X at F|-;go_enter func17,ntmps17;go_wp2_with fail;refine P.out.mono ?_;rintro e Y ⟨rfl,rfl⟩;go_wp2_with fail;refine F.out.mono ?_;rintro e Z ⟨rfl,I,K⟩;have Q:=fU I;have T:=fU K;clear I K;go_wp2;go_end0;exact⟨rfl,Q.out,T.out⟩
mutual
def J0:Tn->Nat
 | .el _ _ ks=>1+szS ks
 | .tx _=>1
 | .cm _=>1
 | .dt _=>1
def szS:List Tn->Nat
 |[]=>0
 |t::ts=>J0 t+szS ts
end
def rQ (σ:Ab):Nat->Nd->List Nat
 |0,_=>[]
 |k+1,.el i=>i::(match σ.hU i with
  |some e=>e.kids.flatMap (rQ σ k)
  |none=>[])
 |_+1,_=>[]
def kl (σ:Ab) (i:Nat):Nat:=match σ.hU i with
 |some e=>e.kids.length
 |none=>0
theorem UP (f:Nd->Tn) (g:Nd->List Nat) (h:Nat->Nat):∀m:List Nd,(∀k∈m,J0 (f k)<=1+((g k).map h).sum)->szS (m.map f)<=m.length+((m.flatMap g).map h).sum
 |[],_=>by simp[szS]
 |k::m,hk=>by
  have t:=hk k (pP ..);have u:=UP f g h m (λx q=>hk x (oW _ q))
  grind[szS]
theorem ZO (σ:Ab):∀(k:Nat) (g:Nd),J0 (Df σ k g)<=1+((rQ σ k g).map (kl σ)).sum
 |0,g=>by
  have e:Df σ 0 g=EV:=by cases g<;>rfl
  rw[e];simp[EV,J0]
 |k+1,.el i=>by
  show J0 (match σ.hU i with|some e=> .el e.name e.gU (e.kids.map (Df σ k))|none=>EV)<=1+((i::(match σ.hU i with|some e=>e.kids.flatMap (rQ σ k)|none=>[])).map (kl σ)).sum
  cases he:σ.hU i with
  |none=>simp[EV,J0]
  |some e=>
   have h:=UP (Df σ k) (rQ σ k) (kl σ) e.kids (λx _=>ZO σ k x);have m:kl σ i=e.kids.length:=by unfold kl;rw[he]
   grind[J0]
 |k+1,.tx i=>by
  show J0 (match σ.nodes[i]? with|some (.tx s)=> .tx s|_=>EV)<=_
  split<;>simp[EV,J0]
 |k+1,.cm i=>by
  show J0 (match σ.nodes[i]? with|some (.cm s)=> .cm s|_=>EV)<=_
  split<;>simp[EV,J0]
 |k+1,.dt i=>by
  show J0 (match σ.nodes[i]? with|some (.dt s)=> .dt s|_=>EV)<=_
  split<;>simp[EV,J0]
def Bl (σ:Ab) (j:Nat):jg:=(σ.hU j).bind (·.je)
def Oz (σ:Ab):Nat->Nat->jg
 |0,j=>some j
 |n+1,j=>(Oz σ n j).bind (Bl σ)
def UV (σ:Ab) (n j:Nat):∀d,Oz σ (n+d) j=(Oz σ n j).bind (Oz σ d)
 |0=>by simp[Oz]
 |d+1=>by
  show(Oz σ (n+d) j).bind (Bl σ)=_;rw[UV σ n j d];cases Oz σ n j<;>simp[Oz]
theorem Jv (g:jx r σ) (h:Bl σ j=some p):r p < r j:=by
 unfold Bl at h;cases he:σ.hU j with
 |none=>grind
 |some e=>rw[he]at h;exact g.tc.je j e p he h
theorem Kf (m:jx r σ):∀(n j i:Nat),Oz σ n j=some i->r i<=r j
 |0,j,i,h=>by cases h;simp
 |n+1,j,i,h=>by
  have g:(Oz σ n j).bind (Bl σ)=some i:=h;cases hq:Oz σ n j with
  |none=>grind
  |some q=>
   rw[hq]at g;have t:=Kf m n j q hq;have u:=Jv m (show Bl σ q=some i from g);omega
theorem Hj (m:jx r σ):∀(k:Nat) (i j:Nat),j∈rQ σ k (.el i)->∃n,Oz σ n j=some i
 |0,i,j,h=>by cases h
 |k+1,i,j,h=>by
  have q:j∈i::(match σ.hU i with|some e=>e.kids.flatMap (rQ σ k)|none=>[]):=h
  rcases List.mem_cons.1 q with rfl|g
  .exact⟨0,rfl⟩
  .cases he:σ.hU i with
   |none=>grind
   |some e=>
    rw[he]at g;have⟨x,hx,hj⟩:=List.mem_flatMap.1 g;cases x with
    |el c=>
     have⟨n,hn⟩:=Hj m k c j hj;have⟨ej,g1,g2⟩:=m.nL.dn i e c he (vN.2 hx);refine⟨n+1,?_⟩;show(Oz σ n j).bind (Bl σ)=some i
     grind[Bl]
    |tx c=>cases k<;>cases hj
    |cm c=>cases k<;>cases hj
    |dt c=>cases k<;>cases hj
theorem aci (t:jx r σ) {m : Nat} (h:Oz σ n j=some c) (g:Oz σ m j=some d) (u:Bl σ c=some i) (x:Bl σ d=some i):c=d:=by
 have z:∀{n m c d:Nat},n < m->Oz σ n j=some c->Oz σ m j=some d->Bl σ c=some i->Bl σ d=some i->False:=by
  intro n m c d y h g u x;obtain⟨q,rfl⟩:∃q,m=(n+1)+q:=⟨m - (n+1),by omega⟩;rw[UV]at g;have e:Oz σ (n+1) j=some i:=by
   show(Oz σ n j).bind (Bl σ)=some i;rw[h];exact u
  rw[e]at g;have C:=Kf t q i d g;have E:=Jv t x;omega
 grind
def Ag (σ:Ab) (k:Nat):∀g:List Nd,g.flatMap (rQ σ k)=(iJ g).flatMap (λc=>rQ σ k (.el c))
 |[]=>rfl
 | .el c::g=>by simp only[FB,iJ];rw[Ag σ k g]
 | .tx c::g=>by
  have e:rQ σ k (.tx c)=[]:=by cases k<;>rfl
  simp only[FB,iJ,e,ru];exact Ag σ k g
 | .cm c::g=>by
  have e:rQ σ k (.cm c)=[]:=by cases k<;>rfl
  simp only[FB,iJ,e,ru];exact Ag σ k g
 | .dt c::g=>by
  have e:rQ σ k (.dt c)=[]:=by cases k<;>rfl
  simp only[FB,iJ,e,ru];exact Ag σ k g
theorem IJ (h:jx r σ) (k:Nat) (u:∀c,(rQ σ k (.el c)).Nodup):∀g:List Nat,g.Nodup->(∀c∈g,Bl σ c=some i)->(g.flatMap (λc=>rQ σ k (.el c))).Nodup
 |[],_,_=>List.nodup_nil
 |c::g,hn,hp=>by
  rw[FB];rw[Gx]at hn;refine List.nodup_append.2 ⟨u c,IJ h k u g hn.2 (λd q=>hp d (oW _ q)),?_⟩;intro j x y t e;subst e;have⟨d,q,hjd⟩:=List.mem_flatMap.1 t;have⟨n,h1⟩:=Hj h k c j x;have⟨m,h2⟩:=Hj h k d j hjd;have e:=aci h h1 h2 (hp c (pP ..)) (hp d (oW _ q))
  grind
def J9 (g:jx r σ):∀(k i:Nat),(rQ σ k (.el i)).Nodup
 |0,i=>List.nodup_nil
 |k+1,i=>by
  show(i::(match σ.hU i with|some e=>e.kids.flatMap (rQ σ k)|none=>[])).Nodup
  cases he:σ.hU i with
  |none=>simp
  |some e=>
   have m:∀c∈iJ e.kids,Bl σ c=some i:=by
    intro c h;have⟨ej,g1,g2⟩:=g.nL.dn i e c he h;unfold Bl;rw[g1];exact g2
   dsimp only;rw[Ag];refine List.nodup_cons.2 ⟨?_,IJ g k (λc=>J9 g k c) _ (g.nL.nd i e he) m⟩;intro q;have⟨c,h,hj⟩:=List.mem_flatMap.1 q;have⟨n,h1⟩:=Hj g k c i hj;have t:=Kf g n i c h1;have u:=Jv g (m c h);omega
theorem MB:∀(l:List Nat) (L:List Nat),l.Nodup->(l.map (λi=>L.getD i 0)).sum<=L.sum
 |[],_,_=>by simp
 |i::l,L,hn=>by
  rw[Gx]at hn;have m:=MB l (L.set i 0) hn.2;have e:l.map (λj=>(L.set i 0).getD j 0)=l.map (λj=>L.getD j 0):=by
   apply Vb;intro j q;have g:i≠j:=λe=>hn.1 (e▸q);simp[xv,List.getElem?_set,g]
  rw[e]at m;rw[yC,List.sum_cons]
  by_cases h:i < L.length
  .have t:=Oq L i L[i] 0 (by simp)
   grind
  .have u:L.getD i 0=0:=by simp[xv,Z7 (Nat.le_of_not_lt h)]
   have x:L.set i 0=L:=List.set_eq_of_length_le (Nat.le_of_not_lt h)
   grind
theorem Re (f g:Nat->Nat) (h:∀i,f i<=g i):∀l:List Nat,(l.map f).sum<=(l.map g).sum
 |[]=>by simp
 |i::l=>by
  have:=h i;have:=Re f g h l
  grind
theorem aeS {l : List Nat} (h:l.Nodup):(l.map (kl σ)).sum<=wt σ:=by
 refine jP (Re (kl σ) (λi=>(σ.nodes.map Uw).getD i 0) (λi=>?_) l) (MB l _ h);unfold kl;split
 .rename_i e g;have m:=Ab.jo g
  grind[Uw]
 simp
def aeb (g:mM σ) (k i:Nat):J0 (Df σ k (.el i))<=1+wt σ:=by
 have⟨r,hr⟩:=g;have h:=ZO σ k (.el i);have m:=aeS (σ:=σ) (J9 hr k i);omega
mutual
def TnG (B:Nat):Tn->Prop
 | .el name gL ks=>name.size<=5000/\gL.length<=16/\(∀p∈gL,p.1.size<=5000/\p.2.size<=66000)/\TsG B ks
 | .tx s=>s.size<=B
 | .cm s=>s.size<=5000
 | .dt s=>s.size<=5000
def TsG (B:Nat):List Tn->Prop
 |[]=>True
 |t::ts=>TnG B t/\TsG B ts
end
def UT (f:Nd->Tn):∀g:List Nd,(∀k∈g,TnG B (f k))->TsG B (g.map f)
 |[],_=>trivial
 |k::g,h=>⟨h k (pP ..),UT f g (λx m=>h x (oW _ m))⟩
def acZ (h:NG σ):∀(k:Nat) (m:Nd),TnG (wt σ) (Df σ k m)
 |0,m=>by
  have e:Df σ 0 m=EV:=by cases m<;>rfl
  rw[e];exact iO _
 |k+1,.el i=>by
  show TnG (wt σ) (match σ.hU i with|some e=> .el e.name e.gU (e.kids.map (Df σ k))|none=>EV)
  cases he:σ.hU i with
  |none=>exact iO _
  |some e=>
   obtain⟨q,t,u⟩:=h.el he;exact⟨q,t,u,UT _ _ (λx _=>acZ h k x)⟩
 |k+1,.tx i=>by
  show TnG (wt σ) (match σ.nodes[i]? with|some (.tx s)=> .tx s|_=>EV)
  split
  .rename_i s g;exact ZY g
  .exact iO _
 |k+1,.cm i=>by
  show TnG (wt σ) (match σ.nodes[i]? with|some (.cm s)=> .cm s|_=>EV)
  split
  .rename_i s g;exact h.2.1 _ (tA g)
  .exact iO _
 |k+1,.dt i=>by
  show TnG (wt σ) (match σ.nodes[i]? with|some (.dt s)=> .dt s|_=>EV)
  split
  .rename_i s g;exact h.2.1 _ (tA g)
  .exact iO _
mutual
theorem adv (u:B<=595500) (g:gy->Bool):∀t:Tn,TnG B t->(∀e∈Dd g t,N0 e=true)/\Ki (Dd g t)<=143000000*J0 t/\(jK (Dd g t)).length<=18*J0 t
 | .el name gL ks,h=>by
  have⟨h1,h2,h3,h4⟩:=h;have⟨g1,g2,g3⟩:=Sw u g ks h4;have x:N0 (.enter name gL)=true:=by
   simp only[N0,rS,MI,RP];exact⟨⟨h2,h3⟩,h1⟩
  have y:N0 (.wo name)=true:=by simpa [N0]using h1
  unfold Dd J0;split
  .refine⟨λe m=>?_,?_,?_⟩
   .grind
   .simp[Ki,wgU];omega
   .simp[jK,qS];omega
  .refine⟨λe m=>?_,?_,?_⟩
   .grind
   .have e:Ki (.enter name gL::(vf g ks++[.wo name]))=(6000+16*6000000)+(Ki (vf g ks)+6000):=by simp[Ki,wgU]
    omega
   .have e:(jK (.enter name gL::(vf g ks++[.wo name]))).length=(1+gL.length)+((jK (vf g ks)).length+1):=by simp[jK,qS];omega
    omega
 | .tx s,h=>by
  have q:s.size<=B:=h;refine⟨λe m=>?_,?_,?_⟩
  .rw[List.mem_singleton.1 m];simp[N0];omega
  .simp[Dd,Ki,wgU,J0];omega
  .simp[Dd,jK,qS,J0]
 | .cm s,h=>by
  have q:s.size<=5000:=h;refine⟨λe m=>?_,?_,?_⟩
  .rw[List.mem_singleton.1 m];simp[N0];omega
  .simp[Dd,Ki,wgU,J0]
  .simp[Dd,jK,qS,J0]
 | .dt s,h=>by
  have q:s.size<=5000:=h;refine⟨λe m=>?_,?_,?_⟩
  .rw[List.mem_singleton.1 m];simp[N0];omega
  .simp[Dd,Ki,wgU,J0]
  .simp[Dd,jK,qS,J0]
theorem Sw (q:B<=595500) (m:gy->Bool):∀g:List Tn,TsG B g->(∀e∈vf m g,N0 e=true)/\Ki (vf m g)<=143000000*szS g/\(jK (vf m g)).length<=18*szS g
 |[],_=>⟨(λe u=>by cases u),(by simp[vf,Ki]),(by simp[vf,jK])⟩
 |t::g,h=>by
  have⟨a1,a2,a3⟩:=adv q m t h.1;have⟨b1,b2,b3⟩:=Sw q m g h.2;unfold vf szS;refine⟨λe u=>?_,?_,?_⟩
  .grind
  .grind[Ki]
  grind[jK]
end
def Rs {q : zu} (u:σ.hU p=some q) (t:i∈iJ q.kids):∀(k a:Nat),p∈rQ σ k (.el a)->i∈rQ σ (k+1) (.el a)
 |0,_,h=>by cases h
 |k+1,a,h=>by
  have y:p∈a::(match σ.hU a with|some e=>e.kids.flatMap (rQ σ k)|none=>[]):=h
  show i∈a::(match σ.hU a with|some e=>e.kids.flatMap (rQ σ (k+1))|none=>[])
  rcases List.mem_cons.1 y with rfl|g
  .rw[u];refine oW _ (List.mem_flatMap.2 ⟨.el i,vN.1 t,?_⟩);exact pP ..
  .cases he:σ.hU a with
   |none=>rw[he]at g;cases g
   |some e=>
    rw[he]at g;obtain⟨x,z,m⟩:=List.mem_flatMap.1 g;refine oW _ (List.mem_flatMap.2 ⟨x,z,?_⟩);cases x with
    |el c=>exact Rs u t k c m
    |tx c=>cases k<;>cases m
    |cm c=>cases k<;>cases m
    |dt c=>cases k<;>cases m
def Rr (g:jx r σ) (t:∀i e,σ.hU i=some e->e.je=none->i=0):∀(n i:Nat) (e:zu),σ.hU i=some e->r i < n->∃d,d<=r i/\∀k,d < k->i∈rQ σ k (.el 0)
 |0,_,_,_,h=>absurd h (by omega)
 |n+1,i,e,he,hn=>by
  cases hp:e.je with
  |none=>
   have:=t i e he hp;subst this;refine⟨0,iO _,λk z=>?_⟩;obtain⟨k,rfl⟩:∃q,k=q+1:=⟨k - 1,by omega⟩;exact pP ..
  |some p=>
   have C:=g.tc.je i e p he hp;obtain⟨u,m,x⟩:=g.nL.up i e p he hp;obtain⟨d,E,y⟩:=Rr g t n p u m (by omega);refine⟨d+1,by omega,λk z=>?_⟩;obtain⟨k,rfl⟩:∃q,k=q+1:=⟨k - 1,by omega⟩;exact Rs m x k 0 (y k (by omega))
def SL (f:Nd->Tn) (g:Nd->List Nat):∀m:List Nd,(∀x∈m,2*(g x).length<=(jK (Dd (λ_=>false) (f x))).length)->2*(m.flatMap g).length<=(jK (vf (λ_=>false) (m.map f))).length
 |[],_=>by simp
 |x::m,h=>by
  have t:=h x (pP ..);have u:=SL f g m (λy q=>h y (oW _ q));simp only[FB,yC,vf,BA,p6];omega
def acG (m:jx r σ):∀(k:Nat) (g:Nd),σ.ji g=true->2*(rQ σ k g).length<=(jK (Dd (λ_=>false) (Df σ k g))).length
 |0,g,_=>by
  have e:rQ σ 0 g=[]:=by cases g<;>rfl
  rw[e];exact iO _
 |k+1,.el i,hk=>by
  obtain⟨e,h⟩:=Option.isSome_iff_exists.1 (show(σ.hU i).isSome=true from hk);have t:=SL (Df σ k) (rQ σ k) e.kids (λx q=>acG m k x (m.nL.kd i e h x q));show 2*(i::(match σ.hU i with|some e=>e.kids.flatMap (rQ σ k)|none=>[])).length<=(jK (Dd _ (match σ.hU i with|some e=>Tn.el e.name e.gU (e.kids.map (Df σ k))|none=>EV))).length
  rw[h];have e2:jK (Dd (λ_=>false) (Tn.el e.name e.gU (e.kids.map (Df σ k))))=qS (.enter e.name e.gU)++(jK (vf (λ_=>false) (e.kids.map (Df σ k)))++qS (.wo e.name)):=by simp[Dd,jK]
  dsimp only;rw[e2];simp only[p6,qe,qS,uS];omega
 |k+1,.tx i,_=>iO _
 |k+1,.cm i,_=>iO _
 |k+1,.dt i,_=>iO _
def WR (m:jx r σ) (I:∀i e,σ.hU i=some e->e.je=none->i=0) (E:(σ.hU a).isSome=true) (F:(σ.hU b).isSome=true) (G:(σ.hU c).isSome=true) (O:[0,a,b,c].Nodup) {K : Nat} (u:r a<=K/\r b<=K/\r c<=K) {gL : lh} {T : List Tn} (C:Df σ (K+1) (.el 0)= .el nm gL T):6<=(jK (vf (λ_=>false) T)).length:=by
 have g:∀i,(σ.hU i).isSome=true->r i<=K->i∈rQ σ (K+1) (.el 0):=by
  intro i J Q;obtain⟨e,h⟩:=Option.isSome_iff_exists.1 J;obtain⟨d,y,t⟩:=Rr m I (r i+1) i e h (by omega);exact t _ (by omega)
 have H:0∈rQ σ (K+1) (.el 0):=pP ..;have z:4<=(rQ σ (K+1) (.el 0)).length:=by
  have:=List.Nodup.length_le_of_subset O (l₂:=rQ σ (K+1) (.el 0)) (by
   intro x q;simp only[qD,qE,rH]at q;rcases q with rfl|rfl|rfl|rfl
   .exact H
   .exact g _ E u.1
   .exact g _ F u.2.1
   .exact g _ G u.2.2)
  simpa using this
 obtain⟨e,h⟩:=Option.isSome_iff_exists.1 m.xf;have y:Df σ (K+1) (.el 0)= .el e.name e.gU (e.kids.map (Df σ K)):=by
  show(match σ.hU 0 with|some e=>Tn.el e.name e.gU (e.kids.map (Df σ K))|none=>EV)=_
  rw[h]
 have t:rQ σ (K+1) (.el 0)=0::e.kids.flatMap (rQ σ K):=by
  show 0::(match σ.hU 0 with|some e=>e.kids.flatMap (rQ σ K)|none=>[])=_
  rw[h]
 rw[y]at C;cases C;have P:=SL (Df σ K) (rQ σ K) e.kids (λx q=>acG m K x (m.nL.kd 0 e h x q));rw[t]at z;simp only[qe]at z;omega
def iU.ne {t : gy} (h:iU σ i s) (k:iU σ j t) (g:s≠t):i≠j:=by
 rintro rfl;obtain⟨e,q,u⟩:=h;obtain⟨y,m,x⟩:=k;rw[q]at m;cases m;exact g (u.symm.trans x)
def iU.some (h:iU σ i s):(σ.hU i).isSome=true:=by
 obtain⟨e,g,_⟩:=h;rw[g];rfl
def ad9 (d f l:Nat) (s:gy) (U:s.size<=1024) (Y:d<=64) (hf:f<=32) (hl:l<=16) {m : Ab} (h:Cr d f l s= .done m L) (Q:jx r m) {K : Nat} (I:∀i,i < m.nodes.length->r i<=K) {gL : lh} {T : List Tn} (X:Df m (K+1) (.el 0)= .el nm gL T):6<=(jK (vf (λ_=>false) T)).length:=by
 have E:=Ff d f l s U Y hf;rw[h]at E;obtain⟨g,_,_,_,_,G,hn⟩:=E;have O:=Ms d f l s U hl h;obtain⟨⟨a,u⟩,b,z⟩:=g.ms.2 G;have H:iU m 0 ⟨#[]⟩:=hn 0 ⟨#[]⟩ ⟨_,rfl,rfl⟩;have J:m.gz≠[]:=by
  rcases g.ms.1 with q|⟨_,_,q,_⟩|⟨_,_,q⟩
  .rcases q with⟨h2,_⟩|⟨_,x,t⟩|⟨_,x,y,t,_⟩|⟨_,x,y,t,_⟩|⟨_,t⟩
   .rcases G with G|⟨G,_⟩<;>omega
   all_goals first|exact t|(rw[t];simp)
  .intro e;rw[e]at q;simp at q
  .exact q
 obtain⟨x,F,e⟩:=List.exists_cons_of_ne_nil J;obtain⟨c,rfl,C⟩:=Q.KH x F e;have P:∀{i s},iU m i s->i < m.nodes.length:=λh=>by obtain⟨e,q,_⟩:=h;exact Ab.ik q
 refine WR Q (λi e Z hp=>(O.2.2 i e Z hp).elim id (λh=>by cases h)) C.some u.some z.some ?_ ⟨I _ (P C),I _ (P u),I _ (P z)⟩ X;have n1:kI≠fX:=by decide+kernel
 simp only[Gx,qD,qE,rH,not_or,List.nodup_nil,not_false_eq_true,and_true];exact⟨⟨H.ne C (by decide+kernel),H.ne u (by decide+kernel),H.ne z (by decide+kernel)⟩,⟨C.ne u (by decide+kernel),C.ne z (by decide+kernel)⟩,u.ne z (by decide+kernel)⟩
def KN (w w':gv):Prop:=∀(k:Nat) (c:jM) (t:TypeId),w.heap[k]?=some (gI c t)->t∈TN->w'.heap[k]?=some (gI c t)
def KN.jU (h:Kept S w w') (m:∀k∈S,∀c t,w.heap[k]?=some (gI c t)->t∉TN):KN w w':=λk c t g u=>h.at g (λq=>m k q c t g u)
theorem KN.row (h:KN w w') {m : Nat} (u:w.ownsRow base e m v n xs) (z:e∈TN):w'.ownsRow base e m v n xs:=by
 refine⟨u.1,?_⟩;rcases u.2 with e1|⟨g,q,t,e1,x,y,r⟩
 .grind
 .exact .inr ⟨g,q,t,e1,x,h g _ _ y z,r⟩
mutual
theorem jJ.kn (g:KN w w'):∀{t:Tn} {n:Nd},jJ w t n->jJ w' t n
 | .el name gL ks,.el k,h=>by
  unfold jJ at h|-;have⟨av,je,kv,ns,h1,h2,h3,h4⟩:=h;exact⟨av,je,kv,ns,⟨g _ _ _ h1.ir (by decide),g.row h1.row (by decide),h1.le,h1.TW⟩,g.row h2 (by decide),h3,qJ.kn g h4⟩
 | .tx _,.tx _,h=>by unfold jJ at h|-;exact g _ _ _ h (by decide)
 | .cm _,.cm _,h=>by unfold jJ at h|-;exact g _ _ _ h (by decide)
 | .dt _,.dt _,h=>by unfold jJ at h|-;exact g _ _ _ h (by decide)
 | .el _ _ _,.tx _,h=>by grind[jJ]
 | .el _ _ _,.cm _,h=>by grind[jJ]
 | .el _ _ _,.dt _,h=>by grind[jJ]
 | .tx _,.el _,h=>by grind[jJ]
 | .tx _,.cm _,h=>by grind[jJ]
 | .tx _,.dt _,h=>by grind[jJ]
 | .cm _,.el _,h=>by grind[jJ]
 | .cm _,.tx _,h=>by grind[jJ]
 | .cm _,.dt _,h=>by grind[jJ]
 | .dt _,.el _,h=>by grind[jJ]
 | .dt _,.tx _,h=>by grind[jJ]
 | .dt _,.cm _,h=>by grind[jJ]
theorem qJ.kn (q:KN w w'):∀{m:List Tn} {g:List Nd},qJ w m g->qJ w' m g
 |[],[],_=>by simp[qJ]
 |t::m,n::g,h=>by
  unfold qJ at h|-;exact⟨jJ.kn q h.1,qJ.kn q h.2⟩
 |[],_::_,h=>by grind[qJ]
 |_::_,[],h=>by grind[qJ]
end
def S8 (d f l:Int) (n:Nat) (v:gO) (k:Nat):jM:=#[gn d,gn f,gn l,jX,.bool true,gn n,.nilIface,v,gJ k]
def acs (w:gv) (D:Tn) (L:List Sp) (e:Ending) (w':gv):Prop:=
 ∃v k,e=iq (.tuple #[.agg #[v,gJ k],.pointer none])/\jJ w' D (.el k)/\w'.ownsRow w.heap.size 106 3 v L.length (ou L)/\L.length<=1024/\Kept [] w w'
def MM (s:gy) (d f l:Nat) (D:Tn) (L:List Sp):Prop:=∀(g:gO) (base:Nat) (w:gv),w.ownsRow base 5 1 g s.size (jY s)->xR w->Vd w->
  Calls prog 22 #[g,.agg #[gn d,gn f,gn l]] w (acs w D L)
def ac1 (w:gv) (D:Tn) (L:List Sp) (v3 v4:gO) (wc:gv):Prop:=∃g v k,v3=gJ g/\v4= .pointer none/\w.heap.size<=g/\wc.heap[g]?=some (gI #[v,gJ k] 59)/\jJ wc D (.el k)/\wc.ownsRow w.heap.size 106 3 v L.length (ou L)/\L.length<=1024/\Kept [] w wc
theorem Io {x : gv} {e : Ending} (h:acs W D L e x) (H:Kept [] w W):∃v k,e=iq (.tuple #[.agg #[v,gJ k],.pointer none])/\(∃K n J,v= .slice K n J)/\ac1 w D L (gJ x.heap.size) (.pointer none) (x.alloc (gI #[v,gJ k] 59))/\
  (∀g,w.heap.size<=g->W.heap[g]?=some (gI #[jX,.pointer none] 59)->x.heap[g]?=some (gI #[jX,.pointer none] 59)/\ac1 w D L (gJ g) (.pointer none) ((x.setCell ⟨g,0,none⟩ v).setCell ⟨g,1,none⟩ (gJ k))):=by
 obtain⟨v,k,rfl,P,F,E,u⟩:=h;have T:w.heap.size<=W.heap.size:=H.size;have m:=jW F T;have I:=(Kept.refl [] x).alloc (gI #[v,gJ k] 59);have⟨K,J,hv⟩:=gG F;refine⟨v,k,rfl,⟨_,_,_,hv⟩,⟨_,v,k,rfl,rfl,jP T u.size,fY x _,jJ.kept I P,I.ownsRow m (λ_ _=>by simp),E,(H.trans u).trans I⟩,?_⟩;intro g y Y;have z:=u.at Y (by simp);have U:Kept [g] x ((x.setCell ⟨g,0,none⟩ v).setCell ⟨g,1,none⟩ (gJ k)):=((Kept.refl _ _).setCell (.inl (by simp)) _).setCell (.inl (by simp)) _;refine⟨z,g,v,k,rfl,rfl,y,gg (gg z 0 _) 1 _,jJ.kn (KN.jU U (λq C c t G Q=>?_)) P,U.ownsRow m (λq C Z=>?_),E,((H.trans u).setCell (.inr y) _).setCell (.inr y) _⟩
 .have e:=List.mem_singleton.1 C;subst e;rw[z]at G;simp at G;rw[<-G.2]at Q;revert Q;decide
 .have e:=List.mem_singleton.1 Z;subst e;rcases m.2 with⟨e2,_⟩|⟨q',O,X,e2,_,G,_⟩
  .rw[e2]at C;cases C
  .rw[e2]at C;have e3:=jL C
   grind
def GO (w:gv) (g d f l:Nat) (s:gy) (D:Tn) (L:List Sp) (w':gv):Prop:=∃v k,w'.heap[g]?=some (gI (S8 d f l s.size v k) 61)/\jJ w' D (.el k)/\w'.ownsRow w.heap.size 106 3 v L.length (ou L)/\L.length<=1024/\Kept [g] w w'
def R9 (h d f l:Nat) (tv:gO) (s:gy) (base:Nat) (w:gv) (z:w.heap[h]?=some (gI (p5 ((d:Int),(f:Int),(l:Int)) tv) 61)) (ho:w.ownsRow base 5 1 tv s.size (jY s)) (hT:xR w) (I:Vd w) (hn:MM s d f l D L):
  Calls prog 16 #[gJ h] w λe w'=>e= .returned .nilIface/\GO w h d f l s D L w':=by
 have⟨ao,cp,htv⟩:=gG ho;subst htv;have a2:=jk z;have c0:w.cell? ⟨h,0,none⟩=some (gn d):=by rw[fW z];rfl
 have c1:w.cell? ⟨h,1,none⟩=some (gn f):=by rw[fW z];rfl
 have c2:w.cell? ⟨h,2,none⟩=some (gn l):=by rw[fW z];rfl
 have c3:w.cell? ⟨h,3,none⟩=some (.slice ao s.size cp):=by rw[fW z];rfl
 have CI:=xh h ((d:Int),(f:Int),(l:Int)) _ w z;have Q:=(λW (u:Kept [] w W)=>hn (.slice ao s.size cp) base W (u.ownsRow ho (λ_ _=>by simp)) (hT.fr (bm:=0) (.gX u)) (I.kept u));have HX:=z;have HG:=fY w.drew (gI #[jX,.pointer none] 59);go_enter func16,ntmps16
 go_wp21
 refine CI.mono ?_;rintro e w1 ⟨rfl,rfl⟩
 go_wp21
 go_cut [3,4]from 8 to 19 (λv3 v4 wc=>ac1 w1 D L v3 v4 wc)
 case first=>
  go_region_with (go_at_call 22;first
   |(refine(Q _ ((Kept.refl [] w1).drew)).mono ?_;intro e P C;obtain⟨v,k,rfl,⟨H,n,G,rfl⟩,U,_⟩:=Io C ((Kept.refl [] w1).drew);have E:=fU U;clear U C)
   |(refine(Q _ (((Kept.refl [] w1).drew).alloc _)).mono ?_;intro e P C;obtain⟨v,k,rfl,⟨H,n,G,rfl⟩,_,X⟩:=Io C (((Kept.refl [] w1).drew).alloc _);have⟨h3,h4⟩:=X w1.heap.size (ig _) HG;have q0:P.cell? ⟨w1.heap.size,0,none⟩=some (jX):=(by rw[fW h3];rfl);have q1:P.cell? ⟨w1.heap.size,1,none⟩=some (.pointer none):=(by rw[fW h3];rfl);have z0:=gE h3 0;have z1:=gE h3 1;have E:=fU h4;clear X h3 h4 C))
  all_goals (try (go_wp21))
  all_goals (go_meet;exact E)
 case rest=>
  obtain⟨F,v,k,rfl,rfl,a1,I,x,m,y,u⟩:=hcut;have⟨H,G,hv⟩:=gG m;subst hv;have g:=u.at HX (by simp);have e3:wc.cell? ⟨h,3,none⟩=some (.slice ao s.size cp):=by rw[fW g];rfl
  have e4:wc.cell? ⟨h,4,none⟩=some (.bool false):=by rw[fW g];rfl
  have e5:wc.cell? ⟨h,5,none⟩=some (gn 0):=by rw[fW g];rfl
  have e7:wc.cell? ⟨h,7,none⟩=some (jX):=by rw[fW g];rfl
  have e8:wc.cell? ⟨h,8,none⟩=some (.pointer none):=by rw[fW g];rfl
  have t0:wc.cell? ⟨F,0,none⟩=some (.slice H L.length G):=by rw[fW I];rfl
  have t1:wc.cell? ⟨F,1,none⟩=some (gJ k):=by rw[fW I];rfl
  have f4:=gE g 4;have f5:=gE g 5;have f7:=gE g 7;have f8:=gE g 8;have a3:F≠h:=by omega
  have a0:h≠F:=by omega
  have Z:=jk g;have T:=And.intro g (And.intro x (And.intro m (And.intro y u)))
  go_wp21
  go_cut []from 20 to 34 (λwd=>wd.heap[h]?=some (gI #[gn d,gn f,gn l,.slice ao s.size cp,.bool true,gn s.size,.nilIface,.slice H L.length G,gJ k] 61)/\Kept [h] wc wd)
  case first=>
   go_region
   all_goals (try (go_wp21))
   all_goals (go_meet;exact⟨gg (gg (gg (gg T.1 _ _) _ _) _ _) _ _,(((((Kept.refl [h] wc).setCell (.inl (by simp)) _).setCell (.inl (by simp)) _).setCell (.inl (by simp)) _).setCell (.inl (by simp)) _).drew⟩)
  case rest=>
   have⟨hx3,hk3⟩:=hcut;have⟨g,x,m,y,u⟩:=T;have g3:wc.cell? ⟨h,3,none⟩=some (.slice ao s.size cp):=by rw[fW hx3];rfl
   have g6:wc.cell? ⟨h,6,none⟩=some .nilIface:=by rw[fW hx3];rfl
   have y3:=gE hx3 3;have Y:=jk hx3;have O:=hk3.trans ((Kept.refl [h] wc).setCell (p:=⟨h,3,none⟩) (.inl (by simp)) (jX));have E:Hid (GO w1 h d f l s D L (wc.setCell ⟨h,3,none⟩ (jX))):=fU ⟨_,k,gg hx3 3 _,jJ.kn (KN.jU O (λq K c t J ht=>by
     have e:=List.mem_singleton.1 K;subst e;rw[g]at J;simp at J;rw[<-J.2]at ht;revert ht;decide)) x,O.ownsRow m (λq K hm=>by
     have e:=List.mem_singleton.1 hm;subst e;have:=(m.lt _ K).1;omega),y,(u.mono (by simp)).trans O⟩
   go_wp2;go_ret;exact⟨rfl,E⟩
def My (v:gO) (w:gv):(ReflectliteType.typeOf #[.iface 62 v]).run prog w= .ok (.iface 112 (.agg #[jG 7 62])) w:=rfl
def Lp (w:gv):(ReflectliteType.relation "AssignableTo" ReflectliteType.assignableTo #[.agg #[jG 7 62],.iface 112 (.agg #[jG 7 62])]).run prog w= .ok (.bool true) w:=by kernel_rfl
def Fk (w:gv):(ReflectliteType.relation "AssignableTo" ReflectliteType.assignableTo #[.agg #[jG 7 62],.iface 112 (.agg #[jG 7 34])]).run prog w= .ok (.bool false) w:=by kernel_rfl
def Tr (p:Addr) (w:gv):(ReflectliteValue.unpack (.iface 62 (.pointer (some p)))).run prog w
  = .ok (.agg #[jG 7 62,gJ w.heap.size,.int .u64 150]) (w.alloc (.cells #[.pointer (some p)] 62)):=by kernel_rfl
def WU (w:gv):(Rtype.elem? 64).run prog w= .ok (some 62) w:=by kernel_rfl
def afb (p:Addr) (w:gv):(ReflectliteValue.mk 62 p ReflectliteValue.flagAddr).run prog w= .ok (.agg #[jG 7 62,.pointer (some p),.int .u64 406]) w:=by kernel_rfl
def ZK (a p:Addr) (W:gv) (g:W.cell? a=some (.pointer (some p))):
  (ReflectliteValue.method (ReflectliteValue.valueError "reflectlite.Value.Elem" 0) ReflectliteValue.elem #[.agg #[jG 7 64,.pointer (some a),.int .u64 150]]).run prog W
   = .ok (.agg #[jG 7 62,.pointer (some p),.int .u64 406]) W:=by
 rw[rlm];simp only[RN,Mz,Result.andThen];simp[ReflectliteValue.elem,loadVar,isAgg,underlying,underlying64,g,Result.andThen,WU,afb]
def WV (a:Addr) (w:gv):(ReflectliteValue.parts (.agg #[jG 7 62,.pointer (some a),.int .u64 406])).run prog w= .ok (some (62,a,406)) w:=rfl
def ZL (a:Addr) (w:gv):(ReflectliteValue.parts (.agg #[jG 7 62,.pointer (some a),.int .u64 150])).run prog w= .ok (some (62,a,150)) w:=rfl
def WT (w:gv):(Rtype.directlyAssignable 62 62).run prog w= .ok true w:=by rfl
theorem aea (g b p:Addr) (h:gO) (W:gv) (m:W.cell? b=some (.pointer (some p))) (t:W.cell? g=some h) (q:W.frozen? g=false):
  (ReflectliteValue.set #[.agg #[jG 7 62,.pointer (some g),.int .u64 406],.agg #[jG 7 62,.pointer (some b),.int .u64 150]]).run prog W
   = .ok (.tuple #[]) (W.setCell g (.pointer (some p))):=by
 rw[rls];simp only[RN,WV,ZL,Result.andThen];simp[ReflectliteValue.flagAddr,loadVar,isAgg,underlying,underlying62,m,Result.andThen,WT,storeVar,Value.cells,storeCells,Addr.add];rw[run_store prog W g _ _ rfl]
 grind
def ab2 (v:gO) (g:TypeId) (w:gv):(Instr.typeAssert (.iface 62 v) g 116 true).run prog w= .ok (.tuple #[.nilIface,.bool false]) w:=run_typeAssert_lacksB underlying116 (by kernel_rfl) (by kernel_rfl) v g w
def ab3 (v:gO) (g:TypeId) (w:gv):(Instr.typeAssert (.iface 62 v) g 123 true).run prog w= .ok (.tuple #[.nilIface,.bool false]) w:=run_typeAssert_lacksB underlying123 (by kernel_rfl) (by kernel_rfl) v g w
def Eb (v:gO) (g:TypeId) (w:gv):(Instr.typeAssert (.iface 62 v) g 119 true).run prog w= .ok (.tuple #[.iface 62 v,.bool true]) w:=run_typeAssert_hasB underlying119 (by kernel_rfl) v g w
def zH (v:gO) (w:gv):(Go.method 489 62 v "Unwrap").run prog w= .ok (400,v) w:=by kernel_rfl
def Gu (p n:Nat) (g:Int) (k:Int) (w:gv) (m:w.heap[p]?=some (gI #[gn k,gn g] 67)) (h:n=0):
  Calls prog 400 #[jG p n] w λe w'=>e=iq (.iface 34 (gn k))/\w'=w:=by
 subst h;have q:w.cell? ⟨p,0,none⟩=some (gn k):=by simp[World.cell?,m]
 go_enter func400,ntmps400;go_wp2;go_ret;simp
def OY (p t:Addr) (u:gO) (w:gv) (z:w.cell? ⟨0,0,none⟩=some (.iface 112 (.agg #[jG 7 46]))) (m:w.cell? t=some u) (x:w.frozen? t=false):
  Calls prog 18 #[.iface 62 (.pointer (some p)),.iface 64 (.pointer (some t))] w λF w'=>F=iq (.bool true)/\w'=((((w.alloc (.cells #[.pointer (some t)] 64)).alloc (.cells (rv 64 w.heap.size) 77)).alloc (.cells (rv 64 w.heap.size) 77)).alloc (.cells #[.pointer (some p)] 62)).setCell t (.pointer (some p)):=by
 have h6:=@run_callFunc_extern prog 25 _ (λg=>ReflectliteValue.unpack (g.getD 0 (.tuple #[]))) func25 (by rfl) (by rfl) rfl rfl;have h7:=@run_callFunc_extern prog 26 _ (ReflectliteValue.methodAny (ReflectliteValue.valueError "reflectlite.Value.Type" 0) (λt _ _ _=>ReflectliteType.toType t)) func26 (by rfl) (by rfl) rfl rfl;have h8:=@run_callFunc_extern prog 27 _ (ReflectliteValue.method (ReflectliteValue.valueError "reflectlite.Value.IsNil" 0) ReflectliteValue.isNil) func27 (by rfl) (by rfl) rfl rfl;have K:=@run_callFunc_extern prog 391 _ (ReflectliteType.abiMethod λt=>do pure (.int .u8 (<-Rtype.kind t))) func391 (by rfl) (by rfl) rfl rfl;have P:=@run_callFunc_extern prog 411 _ (ReflectliteType.method ReflectliteType.elem) func411 (by rfl) (by rfl) rfl rfl;have Q:=@run_callFunc_extern prog 412 _ (ReflectliteType.relation "Implements" ReflectliteType.implements_) func412 (by rfl) (by rfl) rfl rfl;have H:=@run_callFunc_extern prog 29 _ ReflectliteType.typeOf func29 (by rfl) (by rfl) rfl rfl;have O:=@run_callFunc_extern prog 409 _ (ReflectliteType.relation "AssignableTo" ReflectliteType.assignableTo) func409 (by rfl) (by rfl) rfl rfl;have I:=@run_callFunc_extern prog 43 _ (ReflectliteValue.method (ReflectliteValue.valueError "reflectlite.Value.Elem" 0) ReflectliteValue.elem) func43 (by rfl) (by rfl) rfl rfl;have J:=@run_callFunc_extern prog 44 _ ReflectliteValue.set func44 (by rfl) (by rfl) rfl rfl;have tO:=My;have mA:=uB;have C:=Lp;have Z:=Tr;have f6:=JS;have f7:=UO;have mK:=Hf;have mE:=Hd;have mI:=uC;have Y:=QZ;have X:=UN;have E:=UM;have U:=BK;have n8:=QY ⟨w.heap.size,0,none⟩ t ((w.alloc (.cells #[.pointer (some t)] 64)).alloc (.cells (rv 64 w.heap.size) 77)) (by simp);have y:0 < w.heap.size:=by
  rcases C8 w.heap.size with G|h
  .simp[World.cell?,G]at z
  .exact h
 have T:((w.alloc (.cells #[.pointer (some t)] 64)).alloc (.cells (rv 64 w.heap.size) 77)).cell? ⟨0,0,none⟩=some (.iface 112 (.agg #[jG 7 46])):=by
  rw[mY _ _ ⟨0,0,none⟩ (by simp),mY _ _ ⟨0,0,none⟩ y];exact z
 have q:t.block < w.heap.size:=by
  rcases rC t.block w.heap.size with h|h
  .exact h
  .simp[World.cell?,BO h]at m
 have el:=ZK ⟨w.heap.size,0,none⟩ t (((w.alloc (.cells #[.pointer (some t)] 64)).alloc (.cells (rv 64 w.heap.size) 77)).alloc (.cells (rv 64 w.heap.size) 77)) (by rw[mY _ _ ⟨w.heap.size,0,none⟩ (by simp;omega)];simp);have st:=aea t ⟨w.heap.size+1+1+1,0,none⟩ p u ((((w.alloc (.cells #[.pointer (some t)] 64)).alloc (.cells (rv 64 w.heap.size) 77)).alloc (.cells (rv 64 w.heap.size) 77)).alloc (.cells #[.pointer (some p)] 62))
  (by rw[World.cell?_alloc_at _ _ _ _ (by simp)];rfl)
  (by rw[mY _ _ t (by simp;omega),mY _ _ t (by simp;omega),mY _ _ t (by simp;omega),mY _ _ t q];exact m)
  (by rw[vm _ _ t (by simp;omega),vm _ _ t (by simp;omega),vm _ _ t (by simp;omega),vm _ _ t (Nat.ne_of_lt q)];exact x)
 go_enter func18,ntmps18;go_wp2;refine vq 1 ?_;rw[oU];go_wp2;go_ret;exact⟨rfl,rfl⟩
theorem Kz (p:Nat) (g k:Int) (t:Addr) (x:gO) (w:gv) (F:w.heap[p]?=some (gI #[gn k,gn g] 67)) (Z:w.cell? ⟨0,0,none⟩=some (.iface 112 (.agg #[jG 7 46]))) (q:w.cell? t=some x) (y:w.frozen? t=false):
  Calls prog 18 #[.iface 62 (gJ p),.iface 69 (.pointer (some t))] w λK w'=>K=iq (.bool true)/\w'=((((w.alloc (.cells #[.pointer (some t)] 69)).alloc (.cells (rv 69 w.heap.size) 77)).alloc (.cells (rv 69 w.heap.size) 77)).alloc (.cells #[gn k] 34)).setCell t (gn k):=by
 have h6:=@run_callFunc_extern prog 25 _ (λm=>ReflectliteValue.unpack (m.getD 0 (.tuple #[]))) func25 (by rfl) (by rfl) rfl rfl;have h7:=@run_callFunc_extern prog 26 _ (ReflectliteValue.methodAny (ReflectliteValue.valueError "reflectlite.Value.Type" 0) (λt _ _ _=>ReflectliteType.toType t)) func26 (by rfl) (by rfl) rfl rfl;have h8:=@run_callFunc_extern prog 27 _ (ReflectliteValue.method (ReflectliteValue.valueError "reflectlite.Value.IsNil" 0) ReflectliteValue.isNil) func27 (by rfl) (by rfl) rfl rfl;have T:=@run_callFunc_extern prog 391 _ (ReflectliteType.abiMethod λt=>do pure (.int .u8 (<-Rtype.kind t))) func391 (by rfl) (by rfl) rfl rfl;have X:=@run_callFunc_extern prog 411 _ (ReflectliteType.method ReflectliteType.elem) func411 (by rfl) (by rfl) rfl rfl;have Y:=@run_callFunc_extern prog 412 _ (ReflectliteType.relation "Implements" ReflectliteType.implements_) func412 (by rfl) (by rfl) rfl rfl;have O:=@run_callFunc_extern prog 29 _ ReflectliteType.typeOf func29 (by rfl) (by rfl) rfl rfl;have U:=@run_callFunc_extern prog 409 _ (ReflectliteType.relation "AssignableTo" ReflectliteType.assignableTo) func409 (by rfl) (by rfl) rfl rfl;have P:=@run_callFunc_extern prog 43 _ (ReflectliteValue.method (ReflectliteValue.valueError "reflectlite.Value.Elem" 0) ReflectliteValue.elem) func43 (by rfl) (by rfl) rfl rfl;have Q:=@run_callFunc_extern prog 44 _ ReflectliteValue.set func44 (by rfl) (by rfl) rfl rfl;have tO:=My;have a4:=x8;have mA:=uB;have H:=Fk;have I:=Bs;have a5:=FW;have f6:=Iz;have f7:=Ue;have mK:=Hf;have mE:=Hd;have mI:=uC;have a3:=Pj;have a2:=Ud;have J:=Uc;have a1:=Bt;have x1:=ab2;have x2:=Eb;have x3:=zH;have n8:=Ph ⟨w.heap.size,0,none⟩ t ((w.alloc (.cells #[.pointer (some t)] 69)).alloc (.cells (rv 69 w.heap.size) 77)) (by simp);have z:0 < w.heap.size:=by
  rcases C8 w.heap.size with h0|h
  .grind
  .exact h
 have a0:((w.alloc (.cells #[.pointer (some t)] 69)).alloc (.cells (rv 69 w.heap.size) 77)).cell? ⟨0,0,none⟩=some (.iface 112 (.agg #[jG 7 46])):=by
  rw[mY _ _ ⟨0,0,none⟩ (by simp),mY _ _ ⟨0,0,none⟩ z];exact Z
 have u:t.block < w.heap.size:=by
  rcases rC t.block w.heap.size with h|h
  .exact h
  .simp[World.cell?,BO h]at q
 have C:=jk F;have G:Hid ((((w.alloc (.cells #[.pointer (some t)] 69)).alloc (.cells (rv 69 w.heap.size) 77)).alloc (.cells (rv 69 w.heap.size) 77)).heap[p]?=some (gI #[gn k,gn g] 67)):=by
  show _=_;rw[Below.heap_alloc _ _ _ (by simp;omega),Below.heap_alloc _ _ _ (by simp;omega),Below.heap_alloc _ _ _ C];exact F
 have el:=Pg ⟨w.heap.size,0,none⟩ t (((w.alloc (.cells #[.pointer (some t)] 69)).alloc (.cells (rv 69 w.heap.size) 77)).alloc (.cells (rv 69 w.heap.size) 77)) (by rw[mY _ _ ⟨w.heap.size,0,none⟩ (by simp;omega)];simp);have st:=Yi t ⟨w.heap.size+1+1+1,0,none⟩ k x ((((w.alloc (.cells #[.pointer (some t)] 69)).alloc (.cells (rv 69 w.heap.size) 77)).alloc (.cells (rv 69 w.heap.size) 77)).alloc (.cells #[gn k] 34))
  (by rw[World.cell?_alloc_at _ _ _ _ (by simp)];rfl)
  (by rw[mY _ _ t (by simp;omega),mY _ _ t (by simp;omega),mY _ _ t (by simp;omega),mY _ _ t u];exact q)
  (by rw[vm _ _ t (by simp;omega),vm _ _ t (by simp;omega),vm _ _ t (by simp;omega),vm _ _ t (Nat.ne_of_lt u)];exact y)
 go_enter func18,ntmps18;go_wp2;refine vq 2 ?_;rw[oU];go_wp2_with (go_at_call 400;refine(Gu p 0 g k _ G rfl).mono ?_;rintro e w' ⟨rfl,E⟩;subst E);rw[oU];go_wp2;go_ret;exact⟨rfl,rfl⟩
def aa8 (p:Nat) (g k:Int) (w:gv) (u:w.heap[p]?=some (gI #[gn k,gn g] 67)):
  Calls prog 19 #[.iface 62 (gJ p),.iface 34 (gn k)] w λe w'=>e=iq (.bool true)/\w'=w:=by
 have⟨i,hi,hcmp⟩:=Option.map_eq_some_iff.1 Ub;have z:=@run_callFunc_extern prog 29 _ Extern.ReflectliteType.typeOf func29 (by rfl) (by rfl) rfl rfl;have q:=@run_callFunc_extern prog 410 _ Il func410 (by rfl) (by rfl) rfl rfl;have E:=x8;have y:=zA;have C:=BJ;have F:=ab3;have G:=Eb;have H:=zH;have t:∀w:gv,(binOp .eql 46 (.iface 34 (gn k)) (.iface 34 (gn k))).run prog w= .ok (.bool true) w:=λw=>by
  rw[xm w k k underlying46 underlying34 hi hcmp];simp
 have x:=λw=>run_eql_iface_types (P:=prog) 62 34 (gJ p) (gn k) underlying46 (by decide) w;have m:Hid (w.heap[p]?=some (gI #[gn k,gn g] 67)):=u;go_enter func19,ntmps19;go_wp2;refine vq 2 ?_;rw[oU];go_wp2_with (go_at_call 400;refine(Gu p 0 g k _ m rfl).mono ?_;rintro e w' ⟨rfl,h⟩;subst h);rw[oU];go_wp2;go_ret;exact⟨rfl,rfl⟩
def MY (p:Addr) (t:Nat) (g:gO) (w:gv) (q:errorType w) (h:w.heap[t]?=some (gI #[g] 62)):
  Calls prog 18 #[.iface 62 (.pointer (some p)),.iface 64 (gJ t)] w λm w'=>m=iq (.bool true)/\w'.heap[t]?=some (gI #[.pointer (some p)] 62)/\Kept [t] w w':=by
 refine(OY p ⟨t,0,none⟩ g w q (tl h) (free_of_one h)).mono ?_;rintro e w' ⟨rfl,rfl⟩;refine⟨rfl,one_setCell (v:=g) ?_,?_⟩
 .have u:=jk h;rw[Below.heap_alloc _ _ _ (by simp;omega),Below.heap_alloc _ _ _ (by simp;omega),Below.heap_alloc _ _ _ (by simp;omega),Below.heap_alloc _ _ _ u];exact h
 .exact Kept.setCell ((((Kept.refl _ _).alloc _).alloc _).alloc _|>.alloc _) (.inl (by simp)) _
def Hu (p:Nat) (h k:Int) (t:Nat) (g:gO) (w:gv) (y:w.heap[p]?=some (gI #[gn k,gn h] 67)) (u:errorType w) (m:w.heap[t]?=some (gI #[g] 34)):
  Calls prog 18 #[.iface 62 (gJ p),.iface 69 (gJ t)] w λq w'=>q=iq (.bool true)/\w'.heap[t]?=some (gI #[gn k] 34)/\Kept [t] w w':=by
 refine(Kz p h k ⟨t,0,none⟩ g w y u (tl m) (free_of_one m)).mono ?_;rintro e w' ⟨rfl,rfl⟩;refine⟨rfl,one_setCell (v:=g) ?_,?_⟩
 .have x:=jk m;rw[Below.heap_alloc _ _ _ (by simp;omega),Below.heap_alloc _ _ _ (by simp;omega),Below.heap_alloc _ _ _ (by simp;omega),Below.heap_alloc _ _ _ x];exact m
 .exact Kept.setCell ((((Kept.refl _ _).alloc _).alloc _).alloc _|>.alloc _) (.inl (by simp)) _
def VY (p:Nat) (g k:Int) (w:gv) (C:w.heap[p]?=some (gI #[gn k,gn g] 67)) (I:errorType w):
  Calls prog 31 #[.iface 62 (gJ p)] w λe w'=>e=iq (.tuple #[gn k,.bool true])/\Kept [] w w':=by
 have J:∀(y:Fn) (first h:jM) (w:gv),(Instr.makeFunc y first h).run prog w= .ok (.func y first h) w:=λ_ _ _ _=>rfl;have u:=lH (lH I (.cells #[gn 0] 34)) (.cells #[.bool false] 4);have x:=jk C;have m:((w.alloc (.cells #[gn 0] 34)).alloc (.cells #[.bool false] 4)).heap[p]?=some (gI #[gn k,gn g] 67):=by
  rw[Below.heap_alloc _ _ _ (by simp;omega),Below.heap_alloc _ _ _ x];exact C
 go_enter_defers func31,ntmps31
 go_wp21
 refine(Hu p g k w.heap.size _ _ m u (by rw[Below.heap_alloc _ _ _ (by simp)];exact fY _ _)).mono ?_;rintro e w1 ⟨rfl,q,z⟩;have t:w1.heap[w.heap.size+1]?=some (gI #[.bool false] 4):=by
  refine z.at ?_ (by simp);have:=fY (w.alloc (.cells #[gn 0] 34)) (.cells #[.bool false] 4)
  simpa using this
 have G:=tl q;have H:=tl t;have O:=free_of_one q;have P:=free_of_one t;have E:Kept [] w w1:=((((Kept.refl _ _).alloc _).alloc _).trans (S:=[w.heap.size]) z).mono (by simp);have T:=jk q;have U:=jk t
 go_wp21
 go_region
 all_goals go_wp2
 refine leaves_cons (f:=45) (args:=#[gJ w.heap.size,gJ (w.heap.size+1)]) (by simp) (by simp[go_sem]) ?_;refine(Ic ⟨w.heap.size,0,none⟩ ⟨w.heap.size+1,0,none⟩ _).mono ?_;rintro e Q K ⟨rfl,rfl,rfl⟩;have F:Kept [] w (((w1.setCell ⟨w.heap.size+1,0,none⟩ (.bool true)).setCell ⟨w.heap.size,0,none⟩ (gn k)).setCell ⟨w.heap.size+1,0,none⟩ (.bool true)).drew:=
  (((E.setCell (.inr (by simp)) _).setCell (.inr (by simp)) _).setCell (.inr (by simp)) _).drew
 simp[Go.Leaves,settle,results,results31,go_sem,G,H];exact F
def Au (p:Nat) (g k:Int) (w:gv) (q:w.heap[p]?=some (gI #[gn k,gn g] 67)) (h:errorType w):
  Calls prog 20 #[.iface 62 (gJ p)] w λe w'=>e=iq (gn k)/\Kept [] w w':=by
 have H:=VY p g k w q h;go_enter func20,ntmps20
 go_wp21
 refine H.mono ?_;rintro e w' ⟨rfl,m⟩;go_wp2;go_ret;exact⟨rfl,m⟩
def Xg (p:Nat) (q k:Int) (w:gv) (U:w.heap[p]?=some (gI #[gn k,gn q] 67)) (O:errorType w):
  Calls prog 14 #[.iface 62 (gJ p)] w λe w'=>e=iq (.tuple #[gn k,gn q])/\Kept [] w w':=by
 have F:=lH (lH O (.cells #[.pointer none] 62)) (.cells #[gn 0] 34);have Q:=U;have P:=O;go_enter func14,ntmps14
 go_wp21
 refine tC (by rfl) ?_;change wpAny _ _ _ _ _ _ _ (World.drew _);refine iN (i:=0) (some 10) (.iface 62 (gJ p)) rfl rfl (by kernel_rfl) (by kernel_rfl) (by kernel_rfl) (λ_ _ _ h=>h) (by kernel_rfl) (λ_=>by kernel_rfl) ?_;simp only[Act.put,jB,jC,jD];refine iN (i:=1) (some 11) (.iface 64 (gJ w.heap.size)) rfl rfl (by kernel_rfl) (by kernel_rfl) (by kernel_rfl) (λ_ _ _ h=>h) (by kernel_rfl) (λ_=>by kernel_rfl) ?_;simp only[Act.put,jB,jC,jD];refine qG (rs:=[2]) (by kernel_rfl) (by simp) ?_;refine oT rfl (λK g=>?_) qH;go_simp
 go_wp21
 refine(MY ⟨p,0,none⟩ w.heap.size _ _ (wg F) (by show((w.alloc _).alloc _).heap[w.heap.size]?=_;rw[Below.heap_alloc _ _ _ (by simp)];exact fY _ _)).mono ?_;rintro e w1 ⟨rfl,E,T⟩;have x:Kept [] w w1:=(((Kept.refl _ _).alloc _).alloc _).drew.next T (by simp);have z:=sT P x (by simp);have t:=x.at Q (by simp);have Y:=tl E;have X:w1.cell? ⟨p,0,none⟩=some (gn k):=by simp[World.cell?,t]
 refine g _ _ ?_;refine iN (i:=3) (some 13) (.bool true) rfl rfl (by kernel_rfl) (by kernel_rfl) (by kernel_rfl) (λ_ _ _ h=>h) (by kernel_rfl) (λ_=>by kernel_rfl) ?_;simp only[Act.put,jB,jC,jD];refine iN (i:=4) (some 14) (.iface 62 (gJ p)) rfl rfl (by kernel_rfl) (by kernel_rfl) (by kernel_rfl) (λ_ _ _ h=>h) (by kernel_rfl) (λ_=>by kernel_rfl) ?_;simp only[Act.put,jB,jC,jD];refine qG (rs:=[5]) (by kernel_rfl) (by simp) ?_;refine oT rfl (λK g=>?_) qH;go_simp;refine g _ _ ?_;refine iN (i:=6) (some 16) (gJ p) rfl rfl (by kernel_rfl) (by kernel_rfl) (by kernel_rfl) (λ_ _ _ h=>h) (by kernel_rfl) (λ_=>by kernel_rfl) ?_;simp only[Act.put,jB,jC,jD];refine iN (i:=7) (some 17) (gJ p) rfl rfl (by kernel_rfl) (by kernel_rfl) (by kernel_rfl) (λ_ _ _ h=>h) (by kernel_rfl) (λ_=>by kernel_rfl) ?_;simp only[Act.put,jB,jC,jD];refine qG (rs:=[8]) (by kernel_rfl) (by simp) ?_;refine oT rfl (λK g=>?_) qH;go_simp;refine g _ _ ?_;refine iN (i:=9) (some 19) (.iface 34 (gn k)) rfl rfl (by kernel_rfl) (by kernel_rfl) (by kernel_rfl) (λ_ _ _ h=>h) (by kernel_rfl) (λ_=>by kernel_rfl) ?_;simp only[Act.put,jB,jC,jD];refine qG (rs:=[10]) (by kernel_rfl) (by simp) ?_;refine oT rfl (λK g=>?_) qH;go_simp
 go_wp21
 refine(aa8 p q k _ t).mono ?_;rintro e Z ⟨rfl,G⟩;subst G;refine g _ _ ?_;refine iN (i:=11) (some 21) (.bool true) rfl rfl (by kernel_rfl) (by kernel_rfl) (by kernel_rfl) (λ_ _ _ h=>h) (by kernel_rfl) (λ_=>by kernel_rfl) ?_;simp only[Act.put,jB,jC,jD];refine iN (i:=12) (some 22) (.bool true) rfl rfl (by kernel_rfl) (by kernel_rfl) (by kernel_rfl) (λ_ _ _ h=>h) (by kernel_rfl) (λ_=>by kernel_rfl) ?_;simp only[Act.put,jB,jC,jD];refine iN (i:=13) (some 23) (.iface 62 (gJ p)) rfl rfl (by kernel_rfl) (by kernel_rfl) (by kernel_rfl) (λ_ _ _ h=>h) (by kernel_rfl) (λ_=>by kernel_rfl) ?_;simp only[Act.put,jB,jC,jD];refine qG (rs:=[14,15]) (by kernel_rfl) (by simp) ?_;refine oT rfl (λK g=>?_) (oT rfl (λK g=>?_) qH)
 .go_simp
  go_wp21
  refine(Au p q k _ t z).mono ?_;rintro e y ⟨rfl,m⟩;have C:Kept [] w y:=x.next m (by simp);have I:=tl (m.at E (by simp));have u:=m.at t (by simp);have H:y.cell? ⟨p,0,none⟩=some (gn k):=by simp[World.cell?,u]
  have J:y.cell? ⟨p,1,none⟩=some (gn q):=by simp[World.cell?,u]
  refine g _ _ ?_;refine qG (rs:=[15]) (by kernel_rfl) (by simp) ?_;refine oT rfl (λK g=>?_) qH;go_simp;refine g _ _ ?_;refine iN (i:=16) (some 26) (gJ p) rfl rfl (by kernel_rfl) (by kernel_rfl) (by kernel_rfl) (λ_ _ _ h=>h) (by kernel_rfl) (λ_=>by kernel_rfl) ?_;simp only[Act.put,jB,jC,jD];refine iN (i:=17) (some 27) (gJ p) rfl rfl (by kernel_rfl) (by kernel_rfl) (by kernel_rfl) (λ_ _ _ h=>h) (by kernel_rfl) (λ_=>by kernel_rfl) ?_;simp only[Act.put,jB,jC,jD];refine qG (rs:=[18]) (by kernel_rfl) (by simp) ?_;refine oT rfl (λK g=>?_) qH;go_simp;refine g _ _ ?_;refine iN (i:=19) (some 29) (.bool true) rfl rfl (by kernel_rfl) (by kernel_rfl) (by kernel_rfl) (λ_ _ _ h=>h) (by kernel_rfl) (λ_=>by go_simp) ?_;simp only[Act.put,jB,jC,jD];refine iN (i:=20) (some 30) (.bool true) rfl rfl (by kernel_rfl) (by kernel_rfl) (by kernel_rfl) (λ_ _ _ h=>h) (by kernel_rfl) (λ_=>by kernel_rfl) ?_;simp only[Act.put,jB,jC,jD];refine iN (i:=21) (some 9) (.bool true) rfl rfl (by kernel_rfl) (by kernel_rfl) (by kernel_rfl) (λ_ _ _ h=>h) (by kernel_rfl) (λ_=>by kernel_rfl) ?_;simp only[Act.put,jB,jC,jD];refine wpAny_done (by kernel_rfl) ?_ _
  go_wp21
  go_quiet (fail)
  go_wp2;go_ret2;exact⟨rfl,C.next ((Kept.refl [] _).drewN _) (by simp)⟩
 .go_simp;refine g _ _ ?_;refine iN (i:=16) (some 26) (gJ p) rfl rfl (by kernel_rfl) (by kernel_rfl) (by kernel_rfl) (λ_ _ _ h=>h) (by kernel_rfl) (λ_=>by kernel_rfl) ?_;simp only[Act.put,jB,jC,jD];refine iN (i:=17) (some 27) (gJ p) rfl rfl (by kernel_rfl) (by kernel_rfl) (by kernel_rfl) (λ_ _ _ h=>h) (by kernel_rfl) (λ_=>by kernel_rfl) ?_;simp only[Act.put,jB,jC,jD];refine qG (rs:=[14,18]) (by kernel_rfl) (by simp) ?_;refine oT rfl (λK g=>?_) (oT rfl (λK g=>?_) qH)
  .go_simp
   go_wp21
   refine(Au p q k _ t z).mono ?_;rintro e y ⟨rfl,m⟩;have C:Kept [] w y:=x.next m (by simp);have I:=tl (m.at E (by simp));have u:=m.at t (by simp);have H:y.cell? ⟨p,0,none⟩=some (gn k):=by simp[World.cell?,u]
   have J:y.cell? ⟨p,1,none⟩=some (gn q):=by simp[World.cell?,u]
   refine g _ _ ?_;refine qG (rs:=[18]) (by kernel_rfl) (by simp) ?_;refine oT rfl (λK g=>?_) qH;go_simp;refine g _ _ ?_;refine iN (i:=19) (some 29) (.bool true) rfl rfl (by kernel_rfl) (by kernel_rfl) (by kernel_rfl) (λ_ _ _ h=>h) (by kernel_rfl) (λ_=>by go_simp) ?_;simp only[Act.put,jB,jC,jD];refine iN (i:=20) (some 30) (.bool true) rfl rfl (by kernel_rfl) (by kernel_rfl) (by kernel_rfl) (λ_ _ _ h=>h) (by kernel_rfl) (λ_=>by kernel_rfl) ?_;simp only[Act.put,jB,jC,jD];refine iN (i:=21) (some 9) (.bool true) rfl rfl (by kernel_rfl) (by kernel_rfl) (by kernel_rfl) (λ_ _ _ h=>h) (by kernel_rfl) (λ_=>by kernel_rfl) ?_;simp only[Act.put,jB,jC,jD];refine wpAny_done (by kernel_rfl) ?_ _
   go_wp21
   go_quiet (fail)
   go_wp2;go_ret2;exact⟨rfl,C.next ((Kept.refl [] _).drewN _) (by simp)⟩
  .go_simp;refine g _ _ ?_;refine qG (rs:=[14]) (by kernel_rfl) (by simp) ?_;refine oT rfl (λK g=>?_) qH;go_simp
   go_wp21
   refine(Au p q k _ t z).mono ?_;rintro e y ⟨rfl,m⟩;have C:Kept [] w y:=x.next m (by simp);have I:=tl (m.at E (by simp));have u:=m.at t (by simp);have H:y.cell? ⟨p,0,none⟩=some (gn k):=by simp[World.cell?,u]
   have J:y.cell? ⟨p,1,none⟩=some (gn q):=by simp[World.cell?,u]
   refine g _ _ ?_;refine iN (i:=19) (some 29) (.bool true) rfl rfl (by kernel_rfl) (by kernel_rfl) (by kernel_rfl) (λ_ _ _ h=>h) (by kernel_rfl) (λ_=>by go_simp) ?_;simp only[Act.put,jB,jC,jD];refine iN (i:=20) (some 30) (.bool true) rfl rfl (by kernel_rfl) (by kernel_rfl) (by kernel_rfl) (λ_ _ _ h=>h) (by kernel_rfl) (λ_=>by kernel_rfl) ?_;simp only[Act.put,jB,jC,jD];refine iN (i:=21) (some 9) (.bool true) rfl rfl (by kernel_rfl) (by kernel_rfl) (by kernel_rfl) (λ_ _ _ h=>h) (by kernel_rfl) (λ_=>by kernel_rfl) ?_;simp only[Act.put,jB,jC,jD];refine wpAny_done (by kernel_rfl) ?_ _
   go_wp21
   go_quiet (fail)
   go_wp2;go_ret2;exact⟨rfl,C.next ((Kept.refl [] _).drewN _) (by simp)⟩
attribute [local go_sem] Oper.semAt_some
def errorType.kept (h:errorType w) (q:Kept S w w') (t:0∉S):errorType w':=by
 have m:0 < w.heap.size:=by
  rcases rC 0 w.heap.size with g|g
  .exact g
  .unfold errorType at h;simp[World.cell?,BO g]at h
 exact(q.cell (p:=⟨0,0,none⟩) m t).trans h
def MN (s:gy) (d f l c p:Nat):Prop:=∀(g:gO) (base:Nat) (w:gv),w.ownsRow base 5 1 g s.size (jY s)->xR w->Vd w->
  Calls prog 22 #[g,.agg #[gn d,gn f,gn l]] w λe w'=>Hp w e w' (.stop c p)
def ac0 (w:gv) (c p:Nat) (v3 v4:gO) (wc:gv):Prop:=∃g k,v3=gJ g/\v4=gJ k/\w.heap.size<=g/\wc.heap[g]?=some (gI #[jX,.pointer none] 59)/\kJ wc k c p/\Kept [] w wc
theorem Im {q : gv} {e : Ending} (h:Hp W e q (.stop c p)) (y:Kept [] w W):∃k,e=iq (.tuple #[.agg #[jX,.pointer none],gJ k])/\ac0 w c p (gJ q.heap.size) (gJ k) (q.alloc (gI #[jX,.pointer none] 59))/\
  (∀g,w.heap.size<=g->W.heap[g]?=some (gI #[jX,.pointer none] 59)->q.heap[g]?=some (gI #[jX,.pointer none] 59)/\ac0 w c p (gJ g) (gJ k) ((q.setCell ⟨g,0,none⟩ (jX)).setCell ⟨g,1,none⟩ (.pointer none))):=by
 obtain⟨k,rfl,u,m⟩:=h;have F:w.heap.size<=W.heap.size:=y.size;have z:=(Kept.refl [] q).alloc (gI #[jX,.pointer none] 59);refine⟨k,rfl,⟨_,k,rfl,rfl,jP F m.size,fY q _,z.at u (by simp),(y.trans m).trans z⟩,?_⟩;intro g t C;have x:=m.at C (by simp);have G:Kept [g] q ((q.setCell ⟨g,0,none⟩ (jX)).setCell ⟨g,1,none⟩ (.pointer none)):=((Kept.refl _ _).setCell (.inl (by simp)) _).setCell (.inl (by simp)) _;refine⟨x,g,k,rfl,rfl,t,gg (gg x 0 _) 1 _,G.at u (λE=>?_),((y.trans m).setCell (.inr t) _).setCell (.inr t) _⟩;have e:=List.mem_singleton.1 E;subst e;unfold kJ at u
 grind
def ad4 (d f l:Int) (p k:Nat):jM:=#[gn d,gn f,gn l,jX,.bool true,gn p,.iface 62 (gJ k),jX,.pointer none]
def Di (w:gv) (g d f l c p k:Nat) (w':gv):Prop:=w'.heap[g]?=some (gI (ad4 d f l p k) 61)/\kJ w' k c p/\Kept [g] w w'
def Sa (g d f l:Nat) (X:gO) (s:gy) (base:Nat) (w:gv) (t:w.heap[g]?=some (gI (p5 ((d:Int),(f:Int),(l:Int)) X) 61)) (T:w.ownsRow base 5 1 X s.size (jY s)) (hT:xR w) (F:Vd w) (hn:MN s d f l c p):
  Calls prog 16 #[gJ g] w λe w'=>∃k,e=iq (.iface 62 (gJ k))/\Di w g d f l c p k w':=by
 have⟨ao,cp,htv⟩:=gG T;subst htv;have a2:=jk t;have c0:w.cell? ⟨g,0,none⟩=some (gn d):=by rw[fW t];rfl
 have c1:w.cell? ⟨g,1,none⟩=some (gn f):=by rw[fW t];rfl
 have c2:w.cell? ⟨g,2,none⟩=some (gn l):=by rw[fW t];rfl
 have c3:w.cell? ⟨g,3,none⟩=some (.slice ao s.size cp):=by rw[fW t];rfl
 have Z:=xh g ((d:Int),(f:Int),(l:Int)) _ w t;have H:=(λW (q:Kept [] w W)=>hn (.slice ao s.size cp) base W (q.ownsRow T (λ_ _=>by simp)) (hT.fr (bm:=0) (.gX q)) (F.kept q));have HX:=t;have HG:=fY w.drew (gI #[jX,.pointer none] 59);go_enter func16,ntmps16
 go_wp21
 refine Z.mono ?_;rintro e w1 ⟨rfl,rfl⟩
 go_wp21
 go_cut [3,4]from 8 to 19 (λv3 v4 wc=>ac0 w1 c p v3 v4 wc)
 case first=>
  go_region_with (go_at_call 22;first
   |(refine(H _ ((Kept.refl [] w1).drew)).mono ?_;intro e G y;obtain⟨k,rfl,J,_⟩:=Im y ((Kept.refl [] w1).drew);have C:=fU J;clear J y)
   |(refine(H _ (((Kept.refl [] w1).drew).alloc _)).mono ?_;intro e G y;obtain⟨k,rfl,_,K⟩:=Im y (((Kept.refl [] w1).drew).alloc _);have⟨h3,h4⟩:=K w1.heap.size (ig _) HG;have q0:G.cell? ⟨w1.heap.size,0,none⟩=some (jX):=(by rw[fW h3];rfl);have q1:G.cell? ⟨w1.heap.size,1,none⟩=some (.pointer none):=(by rw[fW h3];rfl);have z0:=gE h3 0;have z1:=gE h3 1;have C:=fU h4;clear K h3 h4 y))
  all_goals (try (go_wp21))
  all_goals (go_meet;exact C)
 case rest=>
  obtain⟨E,k,rfl,rfl,a0,F,m,q⟩:=hcut;have h:=q.at HX (by simp);have e3:wc.cell? ⟨g,3,none⟩=some (.slice ao s.size cp):=by rw[fW h];rfl
  have e4:wc.cell? ⟨g,4,none⟩=some (.bool false):=by rw[fW h];rfl
  have e5:wc.cell? ⟨g,5,none⟩=some (gn 0):=by rw[fW h];rfl
  have e7:wc.cell? ⟨g,7,none⟩=some (jX):=by rw[fW h];rfl
  have e8:wc.cell? ⟨g,8,none⟩=some (.pointer none):=by rw[fW h];rfl
  have t0:wc.cell? ⟨E,0,none⟩=some (jX):=by rw[fW F];rfl
  have t1:wc.cell? ⟨E,1,none⟩=some (.pointer none):=by rw[fW F];rfl
  have f4:=gE h 4;have f5:=gE h 5;have f7:=gE h 7;have f8:=gE h 8;have a3:E≠g:=by omega
  have Q:g≠E:=by omega
  have u:k≠g:=by
   rintro rfl;unfold kJ at m;rw[h]at m;simp at m
  have P:=jk h;have I:=And.intro h (And.intro m q)
  go_wp21
  go_cut []from 20 to 34 (λY=>Y.heap[g]?=some (gI #[gn d,gn f,gn l,.slice ao s.size cp,.bool true,gn s.size,.nilIface,jX,.pointer none] 61)/\Kept [g] wc Y)
  case first=>
   go_region
   all_goals (try (go_wp21))
   all_goals (go_meet;exact⟨gg (gg (gg (gg I.1 _ _) _ _) _ _) _ _,(((((Kept.refl [g] wc).setCell (.inl (by simp)) _).setCell (.inl (by simp)) _).setCell (.inl (by simp)) _).setCell (.inl (by simp)) _).drew⟩)
  case rest=>
   have⟨hx3,hk3⟩:=hcut;have⟨h,m,q⟩:=I;have z:kJ wc k c p:=hk3.at m (by simpa using u);have g3:wc.cell? ⟨g,3,none⟩=some (.slice ao s.size cp):=by rw[fW hx3];rfl
   have g5:wc.cell? ⟨g,5,none⟩=some (gn s.size):=by rw[fW hx3];rfl
   have g6:wc.cell? ⟨g,6,none⟩=some .nilIface:=by rw[fW hx3];rfl
   have s1:wc.cell? ⟨k,1,none⟩=some (gn p):=by rw[fW z];rfl
   have y3:=gE hx3 3;have y5:=gE hx3 5;have y6:=gE hx3 6;have O:=jk hx3;have x:=u;have a1:g≠k:=λe=>x e.symm;have U:=hk3.trans ((((Kept.refl [g] wc).setCell (p:=⟨g,5,none⟩) (.inl (by simp)) (gn p)).setCell (p:=⟨g,6,none⟩) (.inl (by simp)) (.iface 62 (gJ k))).setCell (p:=⟨g,3,none⟩) (.inl (by simp)) (jX));have C:Hid (Di w1 g d f l c p k (((wc.setCell ⟨g,5,none⟩ (gn p)).setCell ⟨g,6,none⟩ (.iface 62 (gJ k))).setCell ⟨g,3,none⟩ (jX))):=fU ⟨gg (gg (gg hx3 5 _) 6 _) 3 _,U.at m (by simpa using x),(q.mono (by simp)).trans U⟩;go_wp2;go_ret;exact⟨k,rfl,C⟩
def Qr (g d f l:Nat) (q:gO) (s:gy) (base:Nat) (w:gv) (I:w.heap[g]?=some (gI (p5 ((d:Int),(f:Int),(l:Int)) q) 61)) (H:w.ownsRow base 5 1 q s.size (jY s)) (y:xR w) (F:Vd w) (G:MN s d f l c p) (E:errorType w) (z:0≠g):
  Calls prog 11 #[gJ g] w λe w'=>∃k,e=iq (.tuple #[gn c,gn p])/\Di w g d f l c p k w':=by
 have C:=Sa g d f l q s base w I H y F G;have u:=E;go_enter func11,ntmps11
 go_wp21
 refine C.mono ?_;rintro e w1 ⟨k,rfl,h⟩;have t:=Xg k (p:Int) (c:Int) w1 h.2.1 (u.kept h.2.2 (by simpa using z))
 go_wp21
 refine t.mono ?_;rintro e J ⟨rfl,m⟩;have x:Hid (Di w g d f l c p k J):=by
  have⟨h1,h2,h3⟩:=h;exact fU ⟨m.at h1 (by simp),m.at h2 (by simp),h3.trans (m.mono (by simp))⟩
 go_wp2;go_ret2;exact⟨k,rfl,x⟩
structure W4 (w:gv):Prop where
 tab:xR w
 gl:Vd w
 er:errorType w
 el:0 < w.heap.size
def W4.kept (h:W4 w) (g:Kept [] w w'):W4 w':=⟨h.tab.fr (bm:=0) (.gX g),h.gl.kept g,h.er.kept g (by simp),lV h.el g.size⟩
def TF (g:mM σ):∃r K,jx r σ/\(∀i,i < σ.nodes.length->r i<=K)/\∀(E:Env) (f:Nat->Nat) (w:gv),RF E f σ w->jJ w (Df σ (K+1) (.el 0)) (.el (f 0)):=by
 obtain⟨r,m⟩:=g;obtain⟨B,q⟩:=Ac r σ.nodes.length;refine⟨r,B+1,m,λi g=>jP (q i g) (by omega),λE f w h=>?_⟩;obtain⟨L,rfl,t⟩:=h;refine Uo t m q (B+2) (.el 0) m.xf ?_ (by omega);intro i g;cases g;omega
def YT (x:mM σ) (y:NG σ) (z:wt σ<=595500) (K:Nat):∃nm gL T,Df σ (K+1) (.el 0)= .el nm gL T/\(jK (vf (λ_=>false) T)).length<=1000000000:=by
 obtain⟨r,q⟩:=x;obtain⟨e,u⟩:=Option.isSome_iff_exists.1 q.xf;have g:Df σ (K+1) (.el 0)= .el e.name e.gU (e.kids.map (Df σ K)):=by
  show(match σ.hU 0 with|some e=>Tn.el e.name e.gU (e.kids.map (Df σ K))|none=>EV)=_
  rw[u]
 have h:=aeb ⟨r,q⟩ (K+1) 0;have m:=acZ y (K+1) (.el 0);rw[g]at h m;have t:TsG (wt σ) (e.kids.map (Df σ K)):=m.2.2.2;have E:1+szS (e.kids.map (Df σ K))<=1+wt σ:=h;refine⟨_,_,_,g,?_⟩;obtain⟨_,_,C⟩:=Sw z (λ_=>false) _ t;omega
def aaW (s:gy) (t:s.size<=1024):(∃c p,c≠0/\MN s 64 32 16 c p)\/∃nm gL T L,MM s 64 32 16 (.el nm gL T) L/\6<=(jK (vf (λ_=>false) T)).length/\(jK (vf (λ_=>false) T)).length<=1000000000:=by
 have g:=Ff 64 32 16 s t (by omega) (by omega);cases h:Cr 64 32 16 s with
 |stuck=>rw[h]at g;exact g.elim
 |stop c p=>
  refine .inl ⟨c,p,QJ 64 32 16 s t (by omega) h,λC base w z q x=>?_⟩;exact(Mt s C base 64 32 16 w z t (by omega) (by omega) (by omega) q x).mono (λe w' m=>by rw[h]at m;exact m)
 |done fin L=>
  rw[h]at g;obtain⟨G,Z,_⟩:=g;have y:=Ms 64 32 16 s t (by omega) h;have Y:wt fin<=595500:=by
   have H:wt fin<=Es fin:=xN _ _;have I:=XB (d:=64) (f:=32) (l:=16) (a:=0);have J:=GU s;have O:(uO s ((16:Nat):Int) .nilFunc 0).cs.size=(zN s).size:=rfl;omega
  obtain⟨r,K,m,X,P⟩:=TF G.iv;obtain⟨nm,gL,T,q,U⟩:=YT G.iv y Y K;have u:=ad9 64 32 16 s t (by omega) (by omega) (by omega) h m X q;rw[q]at P;refine .inr ⟨nm,gL,T,L,λC base w z q x=>?_,u,U⟩;refine(Mt s C base 64 32 16 w z t (by omega) (by omega) (by omega) q x).mono λe w' m=>?_;rw[h]at m;obtain⟨v,k,E,F,H,I,J,O,Q,u⟩:=m;subst I;exact⟨v,F 0,H,P E F w' J,O,Q,u⟩
def abx (g d f l:Nat) (m:gO) (s:gy) (base:Nat) (w:gv) (E:w.heap[g]?=some (gI (p5 ((d:Int),(f:Int),(l:Int)) m) 61)) (z:w.ownsRow base 5 1 m s.size (jY s)) (u:xR w) (x:Vd w) (y:MM s d f l D L):
  Calls prog 11 #[gJ g] w λe w'=>e=iq (.tuple #[gn 0,gn 0])/\GO w g d f l s D L w':=by
 have C:=R9 g d f l m s base w E z u x y;go_enter func11,ntmps11
 go_wp21
 refine C.mono ?_;rintro e w1 ⟨rfl,q⟩
 go_wp21
 refine(Kc w1).mono ?_;rintro e F ⟨rfl,h⟩;have t:Hid (GO w g d f l s D L F):=by
  have⟨v,k,h1,h2,h3,h4,h5⟩:=q;exact fU ⟨v,k,h.at h1 (by simp),jJ.kept h h2,h.ownsRow h3 (λ_ _=>by simp),h4,h5.trans (h.mono (by simp))⟩
 go_wp2;go_ret2;exact⟨rfl,t⟩
def OC (q g m c:Nat) (a:Int×Int×Int) (t:gO) (s:gy) (base:Nat) (w:gv) (u:w.heap[q]?=some (gI (p5 a t) 61))
  (y:w.ownsRow base 5 1 t s.size (jY s)) (I:s.size<=1024) (_hm:m<=140737488351232) (H:1024 < s.size+m):
  Calls prog 15 #[gJ q,oY g m c] w λe w'=>e=iq (.tuple #[gn 0,.iface 34 (gn 2)])/\w'=w:=by
 have G:w.cell? ⟨q,3,none⟩=some t:=by rw[fW u];rfl
 have F:∃x h,t= .slice x s.size h:=by
  rcases y.2 with⟨rfl,E⟩|⟨g,h,C,rfl,_⟩
  .exact⟨_,_,by rw[E]⟩
  .exact⟨_,_,rfl⟩
 obtain⟨x,h,rfl⟩:=F;have z:Hid _:=u;clear u y;go_enter func15,ntmps15;go_wp2_with fail;refine(xh q a _ _ z.out).mono ?_;rintro e w1 ⟨rfl,rfl⟩;go_wp2;go_ret2;exact⟨rfl,rfl⟩
def QC (I:Nat) (a:Int×Int×Int) (u:gO) (s t:gy) (base:Nat) (w:gv) (hx:w.heap[I]?=some (gI (p5 a u) 61))
  (ho:w.ownsRow base 5 1 u s.size (jY s)) (hs:s.size<=1024) (ht:t.size<=140737488351232) (hl:1024 < s.size+t.size) (hg:errorType w):
  Calls prog 10 #[gJ I,gH t] w λe w'=>e=iq (.tuple #[gn 0,gn 2,.bool true])/\Kept [] w w':=by
 have m:=run_bytes_of_string (P:=prog) w 9 50 5 t underlying9 underlying50 underlying5;obtain⟨q,K⟩:∃q,q=grownCap w t.size 0 5:=⟨_,rfl⟩;rw[<-K]at m;clear K;have E:=xx t q;have C:=Ad t q;generalize bytesRow t q=R at m E C;obtain⟨H,h⟩:∃H,H=w.drew.alloc (.cells R 5 (R.size,R.size+1)):=⟨_,rfl⟩;rw[<-h]at m;have hB:H.heap[w.heap.size]?=some (.cells R 5 (R.size,R.size+1)):=by rw[h];exact fY w.drew _
 have G:Kept [] w H:=by rw[h];exact(Kept.refl [] w).drew.alloc _
 clear h;have a1:=jk hx;have T:=ho.lt;have x1:=G.at hx (by simp);have o1:=G.ownsRow ho (λ_ _=>by simp);have C1:=OC I w.heap.size t.size q a u s base H x1 o1 hs ht hl;have F:=fU C1;have HB:=fU hB;have HR:=fU C;have HX:=fU T;have Y:=fU x1;have X:=fU o1;have O:=sT hg G (by simp);clear C1 hB C T x1 o1 hx ho hg;go_enter func10,ntmps10;go_wp2_with fail;refine F.out.mono ?_;rintro e w2 ⟨rfl,a0⟩;subst a0;clear m F;go_wp2_with fail;refine(TE 2 _ O).mono ?_;rintro e U ⟨rfl,g⟩;have y:U.heap[w.heap.size]?=some (.cells R 5 (R.size,R.size+1)):=g.at HB.out (by simp);have J:Turned w.heap.size R.size I (p5 a u) base s.size u (jY s) [] w U:=
  ⟨⟨R,y,rfl⟩,g.at Y.out (by simp),g.ownsRow X.out (λ_ _=>by simp),G.trans g⟩
 have Q:u.ownBlock≠some w.heap.size:=by
  intro h';have:=(HX.out _ h').2;omega
 have z:(convert 50 9 (oY w.heap.size t.size q)).run prog U= .ok (gH t) U:=by
  have:=OE (P:=prog) U 50 9 5 ⟨w.heap.size,0,none⟩ q t.data.toList underlying50 underlying5 underlying9 (λj hj=>by
   rw[iY,xX y];exact HR.out j _ (by unfold jY;rw[U5,ry hj];rfl))
  simpa using this
 have HT:=fU J;have HN:=fU Q;have Z:=fU E;clear J Q g y G E O;go_wp2_with fail;clear z
 go_loopw [33] (λi wr=>∃k:Nat,k<=t.size/\i=gn k/\Turned w.heap.size R.size I (p5 a u) base s.size u (jY s) [] w wr) (λi _=>t.size - (intOf i).toNat)
 case atStart=>exact⟨0,iO _,rfl,HT.out⟩
 case round=>
  obtain⟨k,hk,rfl,J⟩:=hrel;have x:=fU J;clear J
  by_cases a3:k < t.size
  .obtain⟨⟨v,hv⟩,a2⟩:=x.out.cell k (by have:=Z.out;omega);have HS:=fU (x.out.store (ig _) (by omega) HN.out k (.int .u8 33));go_wp2;go_roundw
   case rel=>exact⟨k+1,by omega,by go_num,HS.out⟩
   case measure=>simp[intOf];omega
  .go_wp2;go_ret3;exact⟨rfl,x.out.2.2.2⟩
def Br (s:gy):kI++s=s:=by
 apply Kv;rw[ByteArray.data_append];exact Array.empty_append
def NJ:NK 64 32 16:=by unfold NK;decide
def Wx (s:gy) (w:gv) (F:1024 < s.size) (u:s.size<=140737488351232) (y:W4 w):
  Calls prog 4 #[gH s] w λe w'=>e=iq (.tuple #[.pointer none,.bool true])/\Kept [] w w':=by
 have x:=fU (N2 64 32 16 w NJ);have E:=fU y;clear y;go_enter func4,ntmps4;go_wp2_with fail;refine x.out.mono ?_;rintro e w1 ⟨rfl,m,g⟩;have C:=fU (QC w.heap.size (64,32,16) (jX) ⟨#[]⟩ s w1.heap.size w1 m (oX _ _ _ _) (by decide) u (by show 1024 < 0+s.size;omega) (E.out.kept g).er);have z:=fU g;clear x m g;go_wp2_with fail;refine C.out.mono ?_;rintro e G ⟨rfl,h⟩;have q:=fU (z.out.trans h);have t:(1024:Int) < (s.size:Int):=by omega
 clear h C;go_wp2;go_ret2;exact⟨by simp[t],q.out⟩
def Wy (s:gy) (w:gv) (X:s.size<=1024) (J:W4 w) (U:c≠0) (I:MN s 64 32 16 c p):
  Calls prog 4 #[gH s] w λe w'=>e=iq (.tuple #[.pointer none,.bool true])/\Kept [] w w':=by
 have F:=fU (N2 64 32 16 w NJ);have G:=fU J;have P:=fU I;clear J I;go_enter func4,ntmps4;go_wp2_with fail;refine F.out.mono ?_;rintro e w1 ⟨rfl,u,q⟩;have C:=fU (Ml w.heap.size (64,32,16) (jX) ⟨#[]⟩ s w1.heap.size w1 u (oX _ _ _ _) (by show 0+s.size<=1024;omega) (ig _));have O:=fU q;clear F u q;go_wp2_with fail;refine C.out.mono ?_;rintro e K ⟨rfl,T,x,m,t,_⟩;have h:Kept [] w K:=O.out.next t (by simp[Value.ownBlock]);simp only[Br]at m;have g:=G.out.kept h;have E:=fU (Qr w.heap.size 64 32 16 T s w1.heap.size K x m g.tab g.gl P.out g.er (by have:=G.out.el;omega));have y:=fU h;clear x m t h g C;go_wp2_with fail;refine E.out.mono ?_;rintro e Y ⟨k,rfl,H⟩;have z:=fU (y.out.next H.2.2 (by simp));have Q:¬((c:Int)=0):=by omega
 clear H E;go_wp2;go_ret2;exact⟨rfl,z.out⟩
def Ww (s:gy) (w:gv) (Z:s.size<=1024) (K:W4 w) (J:MM s 64 32 16 D L):
  Calls prog 4 #[gH s] w λe w'=>e=iq (.tuple #[gJ w.heap.size,.bool true])/\(∃v k,w'.heap[w.heap.size]?=some (gI (S8 64 32 16 s.size v k) 61)/\jJ w' D (.el k))/\Kept [] w w':=by
 have F:=fU (N2 64 32 16 w NJ);have X:=fU K;have T:=fU J;clear K J;go_enter func4,ntmps4;go_wp2_with fail;refine F.out.mono ?_;rintro e w1 ⟨rfl,u,q⟩;have C:=fU (Ml w.heap.size (64,32,16) (jX) ⟨#[]⟩ s w1.heap.size w1 u (oX _ _ _ _) (by show 0+s.size<=1024;omega) (ig _));have Q:=fU q;clear F u q;go_wp2_with fail;refine C.out.mono ?_;rintro e O ⟨rfl,Y,x,m,t,_⟩;have g:Kept [] w O:=Q.out.next t (by simp[Value.ownBlock]);simp only[Br]at m;have h:=X.out.kept g;have E:=fU (abx w.heap.size 64 32 16 Y s w1.heap.size O x m h.tab h.gl T.out);have y:=fU g;clear x m t g h C;go_wp2_with fail;refine E.out.mono ?_;rintro e P ⟨rfl,v,k,G,H,_,_,I⟩;have z:=fU (y.out.next I (by simp));have U:=fU (show∃v k,P.heap[w.heap.size]?=some (gI (S8 64 32 16 s.size v k) 61)/\jJ P D (.el k)from⟨v,k,G,H⟩);clear G H I E;go_wp2;go_ret2;exact⟨rfl,U.out,z.out⟩
attribute [local go_sem] Oper.semAt_some
def KW.put (h:W.heap[l]?=some o) (m:o.isCells=false) (q:Obj):KW W (W.putObj l q):=by
 intro k c t g _;refine(pk ?_).trans g;rintro rfl;rw[h]at g;cases g;cases m
def KW.trans {B C : gv} (h:KW A B) (k:KW B C):KW A C:=λi c t m g=>k i c t (h i c t m g) g
def KW.jU {B : gv} (h:Kept [] A B):KW A B:=λi c t g _=>h.at g (by simp)
def uL {B : gv} (h:Kept S A B) (u:∀k∈S,∃c t m,A.heap[k]?=some (.cells c t m)):KeepsOthers A B:=by
 refine⟨h.size,λk o g y=>(h.block k (Array.getElem?_eq_some_iff.1 g).1 ?_).trans g⟩;intro x;obtain⟨c,t,m,q⟩:=u k x;rw[g]at q;cases q;cases y
def GY {B : gv} (h:Kept S A B) (u:∀k∈S,∃c t m,A.heap[k]?=some (.cells c t m)/\t∉[110,275]):KW A B:=by
 intro k c t q z;refine(h.block k (Array.getElem?_eq_some_iff.1 q).1 ?_).trans q;intro x;obtain⟨c,C,m,g,y⟩:=u k x;rw[q]at g;simp at g;exact y (g.2.1▸z)
theorem xj (h:W.ownsRow base e sz v n xs) (x:W.heap[l]?=some o) (y:o.isCells=false) (z:Obj):(W.putObj l z).ownsRow base e sz v n xs:=by
 refine⟨h.1,?_⟩;rcases h.2 with e|⟨g,m,q,e,u,t,r⟩
 .grind
 .refine .inr ⟨g,m,q,e,u,(pk ?_).trans t,r⟩;rintro rfl;rw[x]at t;cases t;cases y
def A7 (h:Kept S w W) (u:w.heap.size<=l) (q:Obj):Kept S w (W.putObj l q):=by
 have g:=xJ W l q;exact⟨g.os.trans h.os,g.tape.trans h.tape,g.output.trans h.output,jP h.size g.size,λk m t=>(g.block k (lV m h.size) (by intro e;cases e;omega)).trans (h.block k m t)⟩
def Ja (h:Kept [] w W) (m:w.heap.size<=l) (g:Obj):Kept [] w (W.putObj l g):=A7 h m g
def C5 (h1:1<=n) (ro:jg) {g:Operand} {p:Tmp} {Q:Exit->Act->gv->Prop} {a : Act} {gf : Nat} {recv : gO} (hg:a.eval g= .func (.func gf) #[recv] #[]) (eg:∀a8 w,(callFunc gf a8).run prog w= .ok (.enter gf a8) w)
  (a7:List It) (w0:gv)
  (ad:∀l J JE W,Xz l a7 w0 J JE->(∀pre W q,J pre W->Kept [] W q->J pre q)->(∀W q,JE W->Kept [] W q->JE q)->(∀V b,W.heap.size<=b->Wk V b l false->JE V->JE (V.setCell ⟨b,1,none⟩ (.bool true)))->J [] W->Kept [] w0 W->Calls prog gf #[recv,.func (.yield l) #[] #[]] W λe q=>e=p8/\(J a7 q\/JE q)/\Kept [] w0 q)
  (id:Nat) (H:List Deferred) (X:gv->Prop) (l:Nat) (G:w.heap.size<=l)
  (ao:∀fn,∃D W1,(Instr.enterLoop fn a.tmps #[p] assign body ro).run prog w= .ok (l,H) W1/\Kept [] w W1/\X W1/\W1.heap[l]?=some (.loop {state:= .ready,pending:=none,fn:=fn,tmps:=a.tmps,params:=#[p],assign:=assign,body:=body,defers:=D}))
  (T:∀W q,X W->KeepsOthers W q->X q) (Z:∀W o,X W->X (W.putObj l (.loop o)))
  (I:List It->gv->Prop) (E:gv->Prop) (al:∀pre W,I pre W->Kept [] w0 W) (av:∀W,E W->Kept [] w0 W) (a5:∀pre W q,I pre W->Kept [] W q->I pre q) (aw:∀W q,E W->Kept [] W q->E q)
  (ab:∀pre W k r o',w.heap.size<=k->W.heap[k]?=some (.loop r)->I pre W->I pre (W.putObj k (.loop o'))) (ak:∀W k r o',w.heap.size<=k->W.heap[k]?=some (.loop r)->E W->E (W.putObj k (.loop o')))
  (ax:∀V b l,w.heap.size<=b->Wk V b l false->E V->E (V.setCell ⟨b,1,none⟩ (.bool true)))
  (h0:I [] w) (A:It->Act->gv->Prop) (au:∀x Y W k r o',w.heap.size<=k->W.heap[k]?=some (.loop r)->A x Y W->A x Y (W.putObj k (.loop o')))
  (a0:∀(l:Nat) (pre:List It) (x:It) (W:gv) (K:Act->gv->Prop),I pre W->(∀Y q,Kept [] W q->A x Y q->K Y q)->
   assign.wpIn (Fence.wide.inRound l) 3 prog (Exit.then K (λ_ _ _=>False)) {tmps:=a.tmps.setIfInBounds p x.val,defers:=[]} W)
  (ac:∀(l:Nat) (pre:List It) (x:It) (Y:Act) (W:gv),w.heap.size<=l->(∃r,W.heap[l]?=some (.loop r))->I pre W->A x Y W->pre++[x] <+:a7->body.wpIn (Fence.wide.inRound l) 3 prog (λe _ q=>((e= .normal/\I (pre++[x]) q)\/(e= .exit id/\E q))/\KW W q/\KeepsOthers W q) Y W)
  (af:∀(W:gv),I a7 W->X W->Q .normal {a with defers:=H++a.defers} W)
  (ai:∀(W:gv),E W->X W->Q (.exit id) {a with defers:=H++a.defers} W):
  (Code.rangeFunc g #[p] assign body).wpIn {Fence.wide with round:=ro} n prog Q a w:=by
 refine wpIn_rangeFunc ?_;intro fn aB;obtain⟨D,W1,aq,aj,ay,am⟩:=ao fn;obtain⟨t,a4⟩:∃t:LoopState->Option Code->Loop,t=λst pe=>{state:=st,pending:=pe,fn:=fn,tmps:=a.tmps,params:=#[p],assign:=assign,body:=body,defers:=D}:=⟨_,rfl⟩;have er:∀st pe,t st pe={state:=st,pending:=pe,fn:=fn,tmps:=a.tmps,params:=#[p],assign:=assign,body:=body,defers:=D}:=λ_ _=>by rw[a4]
 rw[<-er]at am;have ko:∀{A B:gv},Kept [] A B->KeepsOthers A B:=λh=>uL h (by simp);refine⟨l,H,W1,{target:= .fn (.func gf) #[],args:=#[recv,.func (.yield l) #[] #[]]},W1,gf,#[recv,.func (.yield l) #[] #[]],W1,aq,?_,?_,?_,λ_=>h1,?_⟩
 .simp only[resolve,hg];simp[go_sem]
 .intro f' _;trivial
 .simp[invoke,go_sem,eg]
 .have hC:=ad l (λpre W=>I pre W/\W.heap[l]?=some (.loop (t .ready none))/\X W) (λW=>E W/\W.heap[l]?=some (.loop (t .done (some (.exit id))))/\X W) W1 ?_ ?_ ?_ ?_ ⟨a5 _ _ _ h0 aj,am,ay⟩ (al _ _ (a5 _ _ _ h0 aj))
  .refine CallsIn.mono (F:={Fence.wide with round:=ro}) (callsIn_wide.2 hC) ?_;rintro e W2 ⟨rfl,⟨U,z,hx⟩|⟨U,z,hx⟩,_⟩
   .have m:=Fz (P:=prog) z (by rw[er];simp);rw[er]at m;exact⟨none,_,m,af _ (ab _ _ _ _ _ G z U) (Z _ _ hx)⟩
   .have m:=Fz (P:=prog) z (by rw[er];simp);rw[er]at m;exact⟨some (.exit id),_,m,wpIn_exit (ai _ (ak _ _ _ _ G z U) (Z _ _ hx))⟩
  .rintro pre x W hK ⟨U,z,hd⟩ ap;have aC:l < W.heap.size:=(Array.getElem?_eq_some_iff.1 z).1;have hy:(Instr.yield l #[x.val]).run prog W= .ok (.round l fn (a.tmps.setIfInBounds p x.val) assign body) W:=by
    have:=run_yield (P:=prog) (args:=#[x.val]) z (by rw[er];rfl);rw[er]at this
    simpa using this
   refine⟨fn,_,assign,body,hy,roundIn_of_wpIn trivial (a0 _ pre x W _ U ?_)⟩;intro Y Wa a6 hA;have a2:Wa.heap[l]?=some (.loop (t .ready none)):=(a6.block _ (Array.getElem?_eq_some_iff.1 z).1 (by simp)).trans z;have az:X Wa:=T _ _ hd (ko a6);refine⟨_,run_beginRound a2 (by rw[er]),?_⟩;obtain⟨W2,O⟩:∃W2,W2=Wa.putObj l (.loop {t .ready none with state:= .busy}):=⟨_,rfl⟩;rw[<-O];have aA:I pre W2:=by rw[O];exact ab _ _ _ _ _ G a2 (a5 _ _ _ U a6)
   have ar:A x Y W2:=by rw[O];exact au _ _ _ _ _ _ G a2 hA
   have ah:W2.heap[l]?=some (.loop {t .ready none with state:= .busy}):=by rw[O];exact Da (Array.getElem?_eq_some_iff.1 a2).1
   have an:X W2:=by rw[O];exact Z _ _ az
   have a9:KW W W2:=by rw[O];exact(KW.jU a6).trans (KW.put a2 rfl _)
   refine wI (ac _ pre x Y W2 G ⟨_,ah⟩ aA ar ap) ?_;rintro e a3 W3 ⟨⟨rfl,ag⟩|⟨rfl,ag⟩,aa,C⟩
   .have y:=C.same _ _ ah rfl;have ae:=T _ _ an C;have m:=run_endRound (P:=prog) none y;have e1:({({t .ready none with state:= .busy}:Loop)with state:=if (none:Option Code).isNone then .ready else .done,pending:=none}:Loop)=t .ready none:=by subst a4;rfl
    rw[e1]at m;obtain⟨W4,u⟩:∃W4,W4=W3.putObj l (.loop (t .ready none)):=⟨_,rfl⟩;rw[<-u]at m;have a1:I (pre++[x]) W4:=by rw[u];exact ab _ _ _ _ _ G y ag
    refine⟨_,_,m,.inl ⟨rfl,a1,?_,?_⟩,al _ _ a1,?_⟩
    .rw[u];exact Da (Array.getElem?_eq_some_iff.1 y).1
    .rw[u];exact Z _ _ ae
    .rw[u];exact(a9.trans aa).trans (KW.put y rfl _)
   .have y:=C.same _ _ ah rfl;have ae:=T _ _ an C;have m:=run_endRound (P:=prog) (some (.exit id)) y;have e1:({({t .ready none with state:= .busy}:Loop)with state:=if (some (Code.exit id):Option Code).isNone then .ready else .done,pending:=some (.exit id)}:Loop)=t .done (some (.exit id)):=by subst a4;rfl
    rw[e1]at m;obtain⟨W4,u⟩:∃W4,W4=W3.putObj l (.loop (t .done (some (.exit id)))):=⟨_,rfl⟩;rw[<-u]at m;have a1:E W4:=by rw[u];exact ak _ _ _ _ G y ag
    refine⟨_,_,m,.inr ⟨rfl,a1,?_,?_⟩,av _ a1,?_⟩
    .rw[u];exact Da (Array.getElem?_eq_some_iff.1 y).1
    .rw[u];exact Z _ _ ae
    .rw[u];exact(a9.trans aa).trans (KW.put y rfl _)
  .rintro pre W q ⟨U,z,hd⟩ hk;exact⟨a5 _ _ _ U hk,(hk.block _ (Array.getElem?_eq_some_iff.1 z).1 (by simp)).trans z,T _ _ hd (ko hk)⟩
  .rintro W q ⟨U,z,hd⟩ hk;exact⟨aw _ _ U hk,(hk.block _ (Array.getElem?_eq_some_iff.1 z).1 (by simp)).trans z,T _ _ hd (ko hk)⟩
  .rintro V b hb hw ⟨U,z,hd⟩;have C:=Km V ⟨b,1,none⟩ (.bool true);exact⟨ax _ _ _ (jP aj.size hb) hw U,C.same _ _ z rfl,T _ _ hd C⟩
def LV {a : Act} {p:Tmp}:∀h,∃D g,(Instr.enterLoop h a.tmps #[p] assign body none).run prog w= .ok (w.heap.size+1,[{target:= .collected w.heap.size,args:=#[]}]) g/\Kept [] w g/\g.heap[w.heap.size]?=some (.deferred (some []))/\g.heap[w.heap.size+1]?=some (.loop {state:= .ready,pending:=none,fn:=h,tmps:=a.tmps,params:=#[p],assign:=assign,body:=body,defers:=D}):=by
 intro h;refine⟨w.heap.size,_,run_enterLoop_outer _ _ _ _ _,((Kept.refl _ _).alloc _).alloc _,(Below.heap_alloc _ _ _ (by simp)).trans (C9 w _),?_⟩;have:=C9 (w.alloc (.deferred (some []))) (.loop {state:= .ready,pending:=none,fn:=h,tmps:=a.tmps,params:=#[p],assign:=assign,body:=body,defers:=w.heap.size})
 rwa [rB]at this
def VV {a : Act} {p:Tmp} {q : Nat} {t:Loop} (h:w.heap[q]?=some (.loop t)):∀m,∃D g,(Instr.enterLoop m a.tmps #[p] assign body (some q)).run prog w= .ok (w.heap.size,[]) g/\Kept [] w g/\True/\g.heap[w.heap.size]?=some (.loop {state:= .ready,pending:=none,fn:=m,tmps:=a.tmps,params:=#[p],assign:=assign,body:=body,defers:=D}):=
 λm=>⟨t.defers,_,run_enterLoop_inner h _ _ _ _ _,(Kept.refl _ _).alloc _,trivial,C9 w _⟩
attribute [local go_sem] Oper.semAt_some
def qq (L:List It):List gO:=L.flatMap λx=>[gn x.k,gH x.s,gH x.t]
def Bv (L M:List It):qq (L++M)=qq L++qq M:=List.flatMap_append ..
def L7:(prog.info? 44).map (λi=>(i.zero,i.size,i.bytes))=some (some (.agg #[gn 0,gH kI,gH kI]),3,40):=by kernel_rfl
def MW {h : gv} {g : Nat} {z : TypeId} {E : Nat} {v' : gO} {u : List gO} (F:W.heap[g]?=some (gI #[v] z)) (I:W.ownsRow base tE sz v n xs) (J:g < base) (t:h.ownsRow base tE sz v' E u) (x:(W.alloc o).grownBy h v.ownBlock):
  h.heap[g]?=some (gI #[v] z)/\(h.setCell ⟨g,0,none⟩ v').heap[g]?=some (gI #[v'] z)/\(h.setCell ⟨g,0,none⟩ v').ownsRow base tE sz v' E u/\Kept (g::v.ownBlock.toList) W (h.setCell ⟨g,0,none⟩ v'):=by
 have C:Kept v.ownBlock.toList W h:=((Kept.refl _ _).alloc _).grown x (λk e=> .inl (by rw[e];simp));have m:=C.at F (λy=>by
  have:=(I.lt g (by simpa using y)).1;omega)
 refine⟨m,gg m 0 _,((Kept.refl [g] h).setCell (.inl (by simp)) _).ownsRow t (λq H y=>?_),(C.mono (λk G _=>oW _ G)).setCell (.inl (by simp)) _⟩;have:=(t.lt q H).1;have:=List.mem_singleton.1 y;omega
def uA (u:W.ownsRow base tE sz v n xs):∀k∈v.ownBlock.toList,∃c,W.heap[k]?=some (gI c tE):=by
 intro k h;rcases u.2 with⟨rfl,_⟩|⟨g,m,q,rfl,_,t,_⟩
 .simp[Value.ownBlock]at h
 .simp[Value.ownBlock]at h;subst h;exact⟨_,t⟩
def Ju {d : Bool} (x:Wk V b l d) (h:V.ownsRow base tE sz v n xs) (t:tE≠110) (u:gO):(V.setCell ⟨b,1,none⟩ u).ownsRow base tE sz v n xs:=by
 refine((Kept.refl [b] V).setCell (.inl (by simp)) _).ownsRow h (λk m q=>?_);have e:=List.mem_singleton.1 q;subst e;obtain⟨c,g⟩:=uA h k (by simp[m]);rw[show V.heap[k]?=_ from x]at g;simp at g;exact t g.2.symm
def FO {d : Bool} (x:Wk V b l d) {c : jM} {t : TypeId} {m : Nat×Nat} (g:V.heap[k]?=some (.cells c t m)) (q:t≠110) (u:gO):(V.setCell ⟨b,1,none⟩ u).heap[k]?=some (.cells c t m):=by
 refine((Kept.refl [b] V).setCell (.inl (by simp)) _).at g (λh=>?_);have e:=List.mem_singleton.1 h;subst e;rw[show V.heap[k]?=_ from x]at g;simp at g;exact q g.2.1.symm
def Zt (w:gv) (I k:Nat) (c:jM) (Z:gy) (gL:lh) (ts:List Tn) (hp:PCl w I c k) (h:jJ w (.el Z gL ts) (.el k)) (E:List It) (ht:jK (vf (λ_=>false) ts)=E) (hn:E.length<=1000000000):
  Calls prog 5 #[gJ I,gn 0] w λe w'=>∃v,e=iq (.tuple #[v,.bool true])/\w'.ownsRow w.heap.size 44 3 v E.length (qq E)/\Kept [] w w':=by
 refine(wJ (n:=5)).1 ?_;refine wK func5 rfl trivial ?_ rfl;simp only[ntmps5,wM,qe,uS,Nat.reduceAdd,Nat.reduceSub,wN,wO,wP,wQ,ru,uT];have HP:=fU hp;have HT:=fU h;have ad:=fU ht;clear hp h ht;have O:∀w',(binOp .eql 41 (.func (.func 17) #[gJ I] #[]) .nilFunc).run prog w'= .ok (.bool false) w':=λw'=>by rfl
 gi_wp2_with (refine⟨trivial,?_⟩;gi_at_call 12;refine(callsIn_wide.2 (EQ _ I)).mono ?_;rintro e w' ⟨rfl,rfl⟩)
 clear O;obtain⟨w1,H⟩:∃w1,w1=(w.alloc (gI #[gn 0] 3)).alloc (gI #[jX] 25):=⟨_,rfl⟩;have z1:w1.heap.size=w.heap.size+2:=by rw[H];simp
 have k1:Kept [] w w1:=by rw[H];exact((Kept.refl _ _).alloc _).alloc _
 have n1:w1.heap[w.heap.size]?=some (gI #[gn 0] 3):=by rw[H];exact(Below.heap_alloc _ _ _ (by simp)).trans (fY w _)
 have g1:w1.heap[w.heap.size+1]?=some (gI #[jX] 25):=by rw[H];have:=fY (w.alloc (gI #[gn 0] 3)) (gI #[jX] 25);rwa [rB]at this
 rw[<-H];clear H;obtain⟨i0,hi,ai,aj,ak⟩:=tz L7;have HE:=fU (enters_of func17 (by kernel_rfl) rfl);have a4:=ad.out;have HC:=fU (λl J JE W hY hm af ag h0 hK=>UX l I k c Z gL ts w HP.out HT.out J JE (by rw[a4];exact hY) hm af W ag hK h0);rw[a4]at HC;clear a4;have ab:∀{W:gv},Kept [w.heap.size+1] w1 W->Kept [] w W:=λh=>k1.next h (by simp);refine C5 (by omega) none (gf:=17) (recv:=gJ I) rfl HE.out E w HC.out 0 _ (λW=>W.heap[w1.heap.size]?=some (.deferred (some []))) (w1.heap.size+1) (by omega) LV (λW W' h hk=>hk.same _ _ h rfl) (λW o h=>(pk (by omega)).trans h)
  (λpre W=>∃v,W.heap[w.heap.size+1]?=some (gI #[v] 25)/\W.ownsRow w1.heap.size 44 3 v pre.length (qq pre)/\Kept [w.heap.size+1] w1 W) (λ_=>False)
  (λ_ _ h=>by obtain⟨_,_,_,h⟩:=h;exact ab h) (λ_ h=>h.elim) ?_ (λ_ _ h _=>h) ?_ (λ_ _ _ _ _ _ h=>h) (λ_ _ _ _ _ h=>h) ⟨_,g1,oX _ _ _ _,Kept.refl _ _⟩
  (λx a' W=>∃X,w1.heap.size<=X/\W.heap[X]?=some (gI #[gn x.k,gH x.s,gH x.t] 44)/\a'={tmps:=#[gJ I,gn 0,undef,gJ w.heap.size,jX,.bool false,.func (.func 17) #[gJ I] #[],gJ (w.heap.size+1),gJ X,gJ I,.func (.func 17) #[gJ I] #[],.func (.func 17) #[gJ I] #[],.bool false,.func (.func 17) #[gJ I] #[],x.val,undef,undef,undef,undef,undef,undef,undef,undef,undef],defers:=[]}) ?_ ?assign ?body ?done ?halt
 .rintro pre W W' ⟨v,C,z,F⟩ hk;exact⟨v,hk.at C (by simp),hk.ownsRow z (λ_ _=>by simp),F.trans (hk.mono (by simp))⟩
 .rintro pre W k r o' hk hl ⟨v,C,z,F⟩;exact⟨v,(pk (by omega)).trans C,xj z hl rfl _,A7 F (by omega) _⟩
 .rintro x a' W k r o' hk hl ⟨X,C,z,F⟩;refine⟨X,C,(pk ?_).trans z,F⟩;rintro rfl;rw[hl]at z;cases z
 case assign=>
  rintro l pre x W K ⟨v,C,z,F⟩ hK;have hz:=F.size;gi_wp2;exact hK _ _ ((Kept.refl [] W).alloc _) ⟨W.heap.size,by omega,fY W _,rfl⟩
 case body=>
  rintro l pre x a' W _ _ ⟨v,C,z,F⟩ ⟨X,hX,h4,rfl⟩ Y;have U:pre.length+1<=E.length:=by have:=Y.length_le;simpa using this
  have hz:=F.size;have c1:W.cell? ⟨w.heap.size+1,0,none⟩=some v:=by rw[fW C];rfl
  have f1:=gE C 0;have x0:W.cell? ⟨X,0,none⟩=some (gn x.k):=by rw[fW h4];rfl
  have x1:W.cell? ⟨X,1,none⟩=some (gH x.s):=by rw[fW h4];rfl
  have x2:W.cell? ⟨X,2,none⟩=some (gH x.t):=by rw[fW h4];rfl
  obtain⟨ao,cp,hv⟩:=gG z;subst hv;have a6:=fU C;have G:=fU z;have a0:=fU F;have ae:=jk C;have HB:=fU ae;have HZ:=fU hz;have T:=fU U;have a7:=fU hn;have a8:=fU z1;have ac:=fU n1;clear C z F h4 Y hz U hn n1 z1
  gi_wp2_with (gi_at_builtin;refine wpListIn_append_own _ rfl _ _ 25 rfl w1.heap.size 44 i0 (.agg #[gn 0,gH kI,gH kI]) 3 40 underlying25 hi ai aj ak rfl (by decide) _ _ _ rfl (G.out.alloc _) ⟨W.heap.size,0,none⟩ 1 1 [gn x.k,gH x.s,gH x.t] rfl rfl ?c1 ?c2 ?c3 ?c4 ?c5 ?_)
  case c1=>
   intro j u hj;have hg:=fY W (gI #[gn x.k,gH x.s,gH x.t] 44);rw[iY,fW hg]
   match j,hj with
   |0,hj=>exact hj
   |1,hj=>exact hj
   |2,hj=>exact hj
  case c2=>
   intro u hu;simp at hu;rcases hu with rfl|rfl|rfl<;>rfl
  case c3=>have:=T.out;have:=a7.out;unfold maxLen;omega
  case c4=>have:=T.out;have:=a7.out;omega
  case c5=>have:=HB.out;have:=HZ.out;have:=a8.out;simp;omega
  intro v' P a3 a9 _;obtain⟨g,y,ah⟩:=gG a3;subst ah;obtain⟨a1,a2,aa,Q⟩:=MW a6.out G.out (by have:=a8.out;omega) a3 a9;have c3:P.cell? ⟨w.heap.size+1,0,none⟩=some (.slice ao pre.length cp):=by rw[fW a1];rfl
  have f3:=gE a1 0;have kk:Kept [w.heap.size+1] w1 (P.setCell ⟨w.heap.size+1,0,none⟩ (.slice g (pre.length+1) y)):=a0.out.next Q (λq O=>by
   rcases List.mem_cons.1 O with rfl|O
   .exact .inl (by simp)
   .exact .inr (G.out.lt q (by simpa using O)).1)
  have ow:(P.setCell ⟨w.heap.size+1,0,none⟩ (.slice g (pre.length+1) y)).ownsRow w1.heap.size 44 3 (.slice g (pre.length+1) y) (pre++[x]).length (qq (pre++[x])):=by
   have e2:qq (pre++[x])=qq pre++[gn x.k,gH x.s,gH x.t]:=by rw[Bv];rfl
   rw[e2,p6];exact aa
  have hS:∀k∈(w.heap.size+1)::(Value.slice ao pre.length cp).ownBlock.toList,∃c t m,W.heap[k]?=some (.cells c t m)/\t∉[110,275]:=λq O=>by
   rcases List.mem_cons.1 O with rfl|O
   .exact⟨_,_,_,a6.out,by decide⟩
   .obtain⟨cc,hc⟩:=uA G.out q O;exact⟨_,_,_,hc,by decide⟩
  have c4:(P.setCell ⟨w.heap.size+1,0,none⟩ (.slice g (pre.length+1) y)).cell? ⟨w.heap.size+1,0,none⟩=some (.slice g (pre.length+1) y):=by rw[fW a2];rfl
  have c5:(P.setCell ⟨w.heap.size+1,0,none⟩ (.slice g (pre.length+1) y)).cell? ⟨w.heap.size,0,none⟩=some (gn 0):=by rw[fW (kk.at ac.out (by simp))];rfl
  have HF:=fU (show(∃v,(P.setCell ⟨w.heap.size+1,0,none⟩ (.slice g (pre.length+1) y)).heap[w.heap.size+1]?=some (gI #[v] 25)/\(P.setCell ⟨w.heap.size+1,0,none⟩ (.slice g (pre.length+1) y)).ownsRow w1.heap.size 44 3 v (pre++[x]).length (qq (pre++[x]))/\Kept [w.heap.size+1] w1 (P.setCell ⟨w.heap.size+1,0,none⟩ (.slice g (pre.length+1) y)))/\KW W (P.setCell ⟨w.heap.size+1,0,none⟩ (.slice g (pre.length+1) y))/\KeepsOthers W (P.setCell ⟨w.heap.size+1,0,none⟩ (.slice g (pre.length+1) y))from⟨⟨_,a2,ow,kk⟩,GY Q hS,uL Q (λq O=>by obtain⟨c,t,m,h,_⟩:=hS q O;exact⟨c,t,m,h⟩)⟩);clear a3 a9 a1 a2 aa Q kk ow hS;gi_wp2;exact⟨by simpa using HF.out.1,HF.out.2⟩
 case done=>
  rintro W ⟨v,C,z,F⟩ hd;obtain⟨ao,cp,hv⟩:=gG z;subst hv;have c1:W.cell? ⟨w.heap.size+1,0,none⟩=some (.slice ao E.length cp):=by rw[fW C];rfl
  have G:=fU z;have a0:=fU (ab F);have HD:=fU hd;have a5:=fU z1;clear C z F hd;gi_wp2;refine⟨by simp,.inl ⟨_,_,rfl,nM HD.out,?_⟩⟩;refine⟨_,results_tmp2 rfl _ _ _,_,rfl,?_,Ja a0.out (by have:=a5.out;omega) _⟩;exact jW (xj G.out HD.out rfl (.deferred none)) (by have:=a5.out;omega)
 case halt=>rintro W h;exact h.elim
def Kk (P:1<=n) {g:Operand} {p:Tmp} {Q:Exit->Act->gv->Prop} {a : Act} {gf : Nat} {recv : gO} (hg:a.eval g= .func (.func gf) #[recv] #[]) (eg:∀C w,(callFunc gf C).run prog w= .ok (.enter gf C) w)
  (y:List It) (O:gv)
  (F:∀l J I W,Xz l y O J I->(∀pre W z,J pre W->Kept [] W z->J pre z)->(∀W z,I W->Kept [] W z->I z)->(∀V b,W.heap.size<=b->Wk V b l false->I V->I (V.setCell ⟨b,1,none⟩ (.bool true)))->J [] W->Kept [] O W->Calls prog gf #[recv,.func (.yield l) #[] #[]] W λe z=>e=p8/\(J y z\/I z)/\Kept [] O z)
  {Z : Nat} (H:∃r0,w.heap[Z]?=some (.loop r0)) (Y:Kept [] O w) (t m:Nat) (X:O.heap.size<=t) (hn:w.heap[t]?=some (gI #[gn m] 3))
  (E:∀(l j:Nat) (x:It) (W:gv),j < y.length->W.heap[t]?=some (gI #[gn ((m+j:Nat))] 3)->body.wpIn (Fence.wide.inRound l) 3 prog (λe _ z=>e= .normal/\z=W.setCell ⟨t,0,none⟩ (gn ((m+j+1:Nat)))) {tmps:=a.tmps.setIfInBounds p x.val,defers:=[]} W)
  (G:∀(W:gv),W.heap[t]?=some (gI #[gn ((m+y.length:Nat))] 3)->Kept [t] w W->Q .normal a W):
  (Code.rangeFunc g #[p] .skip body).wpIn (Fence.wide.inRound Z) n prog Q a w:=by
 obtain⟨r0,H⟩:=H;have hb:=jk hn;have kk:∀(W:gv) v,W.heap[t]?=some (gI #[v] 3)->∀u,Kept [t] W (W.setCell ⟨t,0,none⟩ u)/\KW W (W.setCell ⟨t,0,none⟩ u)/\KeepsOthers W (W.setCell ⟨t,0,none⟩ u):=by
  intro W v h u;have k:=(Kept.refl [t] W).setCell (p:=⟨t,0,none⟩) (.inl (by simp)) u;refine⟨k,GY k (λq hq=>?_),Km _ _ _⟩;have e:=List.mem_singleton.1 hq;subst e;exact⟨_,_,_,h,by decide⟩
 refine C5 P (some Z) hg eg y O F 0 [] (λ_=>True) w.heap.size (ig _) (VV H) (λ_ _ _ _=>trivial) (λ_ _ _=>trivial)
  (λpre W=>W.heap[t]?=some (gI #[gn ((m+pre.length:Nat))] 3)/\Kept [t] w W) (λ_=>False)
  (λ_ _ h=>Y.next h.2 (by simpa using X)) (λ_ h=>h.elim) (λ_ _ _ h U=>⟨U.at h.1 (by simp),h.2.trans (U.mono (by simp))⟩) (λ_ _ h _=>h)
  (λ_ _ _ _ _ U _ h=>⟨(pk (by omega)).trans h.1,A7 h.2 U _⟩) (λ_ _ _ _ _ _ h=>h) (λ_ _ _ _ _ h=>h) ⟨hn,Kept.refl _ _⟩
  (λx a' _=>a'={tmps:=a.tmps.setIfInBounds p x.val,defers:=[]}) (λ_ _ _ _ _ _ _ _ h=>h)
  (λl pre x W K _ hK=>wpIn_skip (hK _ _ (Kept.refl _ _) rfl)) ?_ (λW h _=>G W h.1 h.2) (λ_ h=>h.elim)
 rintro l pre x a' W _ _ ⟨P,h2⟩ rfl T;have a0:pre.length+1<=y.length:=by have:=T.length_le;simpa using this
 refine wI (E l pre.length x W (by omega) P) ?_;rintro e a3 W3 ⟨rfl,rfl⟩;obtain⟨k1,k2,k3⟩:=kk W _ P (gn ((m+pre.length+1:Nat)));refine⟨.inl ⟨rfl,?_,h2.trans k1⟩,k2,k3⟩;have:=gg P 0 (gn ((m+pre.length+1:Nat)));rw[p6];exact this
attribute [local go_sem] Oper.semAt_some
def V7:(prog.info? 3).map (λi=>(i.zero,i.size,i.bytes))=some (some (gn 0),1,8):=by kernel_rfl
def xV (w:gv) (o:Obj) (k:Nat):(w.alloc o).heap[k]?=if k=w.heap.size then some o else w.heap[k]?:=by
 split
 .rename_i h;subst h;exact fY w o
 .rename_i h;rcases rC k w.heap.size with g|g
  .exact Below.heap_alloc w o k g
  .rw[BO (by simp;omega),BO g]
def WI (w1:gv) (b3 b4 N:Nat) (pre:List It) (W:gv):Prop:=∃v u,W.heap[b3]?=some (gI #[v] 25)/\W.ownsRow w1.heap.size 44 3 v pre.length (qq pre)/\W.heap[b4]?=some (gI #[u] 29)/\W.ownsRow w1.heap.size 3 1 u (min 3 pre.length) (List.replicate (min 3 pre.length) (gn ((2*N:Nat))))/\Kept [b3,b4] w1 W
def WI.kept {pre : List It} {m : gv} (h:WI w1 b3 b4 N pre W) (g:Kept [] W m):WI w1 b3 b4 N pre m:=by
 obtain⟨v,u,q,t,x,y,z⟩:=h;exact⟨v,u,g.at q (by simp),g.ownsRow t (λ_ _=>by simp),g.at x (by simp),g.ownsRow y (λ_ _=>by simp),z.trans (g.mono (by simp))⟩
def WI.put {pre : List It} (h:WI w1 b3 b4 N pre W) (E:b3 < w1.heap.size/\b4 < w1.heap.size) {r C:Loop} (z:w1.heap.size<=k) (g:W.heap[k]?=some (.loop r)):WI w1 b3 b4 N pre (W.putObj k (.loop C)):=by
 obtain⟨v,u,m,q,t,x,y⟩:=h;exact⟨v,u,(pk (by omega)).trans m,xj q g rfl _,(pk (by omega)).trans t,xj x g rfl _,A7 y z _⟩
def WI.aef {pre : List It} (h:WI w1 b3 b4 N pre V) {d : Bool} (C:w1.heap.size<=b) (g:Wk V b l d) (x:gO):WI w1 b3 b4 N pre (V.setCell ⟨b,1,none⟩ x):=by
 obtain⟨v,u,m,q,t,y,z⟩:=h;exact⟨v,u,FO g m (by decide) _,Ju g q (by decide) _,FO g t (by decide) _,Ju g y (by decide) _,z.setCell (.inr C) _⟩
def Ti (w:gv) (C k left:Nat) (c:jM) (aF:gy) (gL:lh) (ts:List Tn) (hp:PCl w C c k) (h:jJ w (.el aF gL ts) (.el k)) (g:List It) (ht:jK (vf (λ_=>false) ts)=g) (hn:g.length<=1000000000) (ck:1<=left) (cl:left<=1000) (P:List It) (hP:g.take left=P) (M:Int) (hM:((2*g.length:Nat):Int)=M):
  Calls prog 7 #[gJ C,gn left] w λe w'=>∃v u,e=iq (.tuple #[v,u])/\w'.ownsRow w.heap.size 44 3 v P.length (qq P)/\w'.ownsRow w.heap.size 3 1 u (min 3 P.length) (List.replicate (min 3 P.length) (gn M))/\Kept [] w w':=by
 refine(wJ (n:=5)).1 ?_;refine wK func7 rfl trivial ?_ rfl;simp only[ntmps7,wM,qe,uS,Nat.reduceAdd,Nat.reduceSub,wN,wO,wP,wQ,ru,uT];have HP:=fU hp;have HT:=fU h;have bP:=fU ht;have ar:=fU hP;have bd:=fU hM;clear hp h ht hP hM;have z:∀w',(binOp .eql 41 (.func (.func 17) #[gJ C] #[]) .nilFunc).run prog w'= .ok (.bool false) w':=λw'=>by rfl
 obtain⟨wA,ay⟩:∃wA,wA=((w.alloc (gI #[gJ C] 22)).alloc (gI #[gn left] 3)).alloc (gI #[.nilFunc] 41):=⟨_,rfl⟩;have aT:wA.heap[w.heap.size+1+1]?=some (gI #[.nilFunc] 41):=by rw[ay];have:=fY ((w.alloc (gI #[gJ C] 22)).alloc (gI #[gn left] 3)) (gI #[.nilFunc] 41);rwa [rB,rB]at this
 have cA:wA.cell? ⟨w.heap.size+1+1,0,none⟩=some .nilFunc:=by rw[fW aT];rfl
 have fA:=gE aT 0;have bR:=fU ay;have bD:∀(w':gv) a,(store a (.func (.func 17) #[gJ C] #[])).run prog w'=stored prog w' a (.func (.func 17) #[gJ C] #[]) .plain:=λw' a=>run_store _ _ _ _ _ rfl;rw[ay]at cA fA;clear aT ay
 gi_wp2_with (refine⟨trivial,?_⟩;gi_at_call 12;refine(callsIn_wide.2 (EQ _ C)).mono ?_;rintro e w' ⟨rfl,rfl⟩)
 clear z cA fA bR;have cj:=fU bD;clear bD;obtain⟨w1,Y⟩:∃w1,w1=((((w.alloc (gI #[gJ C] 22)).alloc (gI #[gn left] 3)).alloc (gI #[.func (.func 17) #[gJ C] #[]] 41)).alloc (gI #[jX] 25)).alloc (gI #[jX] 29):=⟨_,rfl⟩;have z1:w1.heap.size=w.heap.size+5:=by rw[Y];simp
 have k1:Kept [] w w1:=by rw[Y];exact(((((Kept.refl _ _).alloc _).alloc _).alloc _).alloc _).alloc _
 have n0:w1.heap[w.heap.size]?=some (gI #[gJ C] 22):=by rw[Y];simp only[xV,rB];repeat (first|rw[gF trivial]|rw[gF (by omega)]|rw[gQ (by omega)])
 have n1:w1.heap[w.heap.size+1]?=some (gI #[gn left] 3):=by rw[Y];simp only[xV,rB];repeat (first|rw[gF trivial]|rw[gF (by omega)]|rw[gQ (by omega)])
 have n2:w1.heap[w.heap.size+1+1]?=some (gI #[.func (.func 17) #[gJ C] #[]] 41):=by rw[Y];simp only[xV,rB];repeat (first|rw[gF trivial]|rw[gF (by omega)]|rw[gQ (by omega)])
 have n3:w1.heap[w.heap.size+1+1+1]?=some (gI #[jX] 25):=by rw[Y];simp only[xV,rB];repeat (first|rw[gF trivial]|rw[gF (by omega)]|rw[gQ (by omega)])
 have n4:w1.heap[w.heap.size+1+1+1+1]?=some (gI #[jX] 29):=by rw[Y];simp only[xV,rB];repeat (first|rw[gF trivial]|rw[gF (by omega)]|rw[gQ (by omega)])
 rw[<-Y];clear Y;generalize e4:w.heap.size+1+1+1+1=b4 at n4|-;generalize e3:w.heap.size+1+1+1=b3 at n3|-;generalize e2:w.heap.size+1+1=b2 at n2|-;generalize e1:w.heap.size+1=b1 at n1|-;have EE:=fU (And.intro (And.intro e1 e2) (And.intro (And.intro e3 e4) z1));clear e1 e2 e3 e4 z1;obtain⟨i0,hi,c8,ca,bH⟩:=tz L7;obtain⟨j0,hj,c0,c6,c7⟩:=tz V7;have HE:=fU (enters_of func17 (by kernel_rfl) rfl);have b6:=bP.out;have HC:=fU (λl J JE W hY hm bW bX h0 hK=>UX l C k c aF gL ts w HP.out HT.out J JE (by rw[b6];exact hY) hm bW W bX hK h0);rw[b6]at HC;clear b6;have be:=fU n0;have bf:=fU n1;have bM:=fU n2;have bJ:∀{W:gv},Kept [b3,b4] w1 W->Kept [] w W:=λh=>k1.next h (by have:=EE.out;simp;omega);have af:=fU (show∀W:gv,Kept [b3,b4] w1 W->Kept [] w W from λW h=>bJ h);have aq:=fU hn;clear n0 n1 n2 bJ hn k1;refine C5 (by omega) none (gf:=17) (recv:=gJ C) rfl HE.out g w HC.out 0 _ (λW=>W.heap[w1.heap.size]?=some (.deferred (some []))) (w1.heap.size+1) (by omega) LV (λW W' h hk=>hk.same _ _ h rfl) (λW o h=>(pk (by omega)).trans h)
  (λpre W=>pre.length < left/\WI w1 b3 b4 g.length pre W) (λW=>∃pre,pre <+:g/\pre.length=left/\WI w1 b3 b4 g.length pre W)
  (λ_ _ h=>by obtain⟨_,_,_,_,_,_,_,h⟩:=h;exact af.out _ h) (λ_ h=>by obtain⟨_,_,_,_,_,_,_,_,_,h⟩:=h;exact af.out _ h) (λ_ _ _ h hk=>⟨h.1,h.2.kept hk⟩) (λ_ _ h hk=>by obtain⟨p,G,E,F⟩:=h;exact⟨p,G,E,F.kept hk⟩) (λ_ _ _ _ _ hk hl h=>⟨h.1,h.2.put (by have:=EE.out;omega) hk hl⟩) (λ_ _ _ _ hk hl h=>by obtain⟨p,G,E,F⟩:=h;exact⟨p,G,E,F.put (by have:=EE.out;omega) hk hl⟩)
  (λ_ _ _ hb hw h=>by obtain⟨p,G,E,F⟩:=h;exact⟨p,G,E,F.aef hb hw _⟩) ⟨by show 0 < left;omega,_,_,n3,oX _ _ _ _,n4,oX _ _ _ _,Kept.refl _ _⟩
  (λx a' W=>∃X,w1.heap.size<=X/\W.heap[X]?=some (gI #[gn x.k,gH x.s,gH x.t] 44)/\a'={tmps:=#[gJ C,gn left,gJ w.heap.size,gJ b1,jX,jX,gJ b2,gJ b3,gJ b4,gJ X,undef,gJ C,.func (.func 17) #[gJ C] #[],.func (.func 17) #[gJ C] #[],.bool false,.func (.func 17) #[gJ C] #[],x.val,undef,undef,undef,undef,undef,undef,undef,undef,undef,undef,undef,undef,undef,undef,undef,undef,undef,undef,undef,undef,undef,undef,undef,undef,undef,undef],defers:=[]}) ?_ ?assign ?body ?done ?halt
 .rintro x a' W k r o' hk hl ⟨X,G,E,F⟩;refine⟨X,G,(pk ?_).trans E,F⟩;rintro rfl;rw[hl]at E;cases E
 case assign=>
  rintro l pre x W K ⟨_,v,u,G,E,_,_,F⟩ hK;have hz:=F.size;gi_wp2;exact hK _ _ ((Kept.refl [] W).alloc _) ⟨W.heap.size,by omega,fY W _,rfl⟩
 case body=>
  clear n3 n4;rintro l pre x a' W bz bA ⟨a4,v,u,G,E,h5,h6,F⟩ ⟨X,hX,h4,rfl⟩ O;have aE:pre.length+1<=g.length:=by have:=O.length_le;simpa using this
  have hz:=F.size;have c1:W.cell? ⟨b3,0,none⟩=some v:=by rw[fW G];rfl
  have f1:=gE G 0;have x0:W.cell? ⟨X,0,none⟩=some (gn x.k):=by rw[fW h4];rfl
  have x1:W.cell? ⟨X,1,none⟩=some (gH x.s):=by rw[fW h4];rfl
  have x2:W.cell? ⟨X,2,none⟩=some (gH x.t):=by rw[fW h4];rfl
  obtain⟨ao,cp,hv⟩:=gG E;subst hv;have aI:=fU G;have I:=fU E;have ab:=fU F;have aJ:=fU h5;have a1:=fU h6;have bU:=jk G;have HB:=fU bU;have HZ:=fU hz;have aA:=fU aE;have bO:=fU a4;have bL:=fU bA;have bh:=fU O;have HX:=fU (And.intro hX bz);clear G E F h4 h5 h6 O hz aE a4 bA hX bz
  gi_wp2_with (gi_at_builtin;refine wpListIn_append_own _ rfl _ _ 25 rfl w1.heap.size 44 i0 (.agg #[gn 0,gH kI,gH kI]) 3 40 underlying25 hi c8 ca bH rfl (by decide) _ _ _ rfl (I.out.alloc _) ⟨W.heap.size,0,none⟩ 1 1 [gn x.k,gH x.s,gH x.t] rfl rfl ?c1 ?c2 ?c3 ?c4 ?c5 ?_)
  case c1=>
   intro j u hj;have hg:=fY W (gI #[gn x.k,gH x.s,gH x.t] 44);rw[iY,fW hg]
   match j,hj with
   |0,hj=>exact hj
   |1,hj=>exact hj
   |2,hj=>exact hj
  case c2=>
   intro u hu;simp at hu;rcases hu with rfl|rfl|rfl<;>rfl
  case c3=>have:=aA.out;have:=aq.out;unfold maxLen;omega
  case c4=>have:=aA.out;have:=aq.out;omega
  case c5=>have:=HB.out;have:=HZ.out;simp;omega
  intro v' w3 aZ bt _;obtain⟨ag,ah,bZ⟩:=gG aZ;subst bZ;obtain⟨aP,aj,b0,a6⟩:=MW aI.out I.out (by have:=EE.out;omega) aZ bt;have c3:w3.cell? ⟨b3,0,none⟩=some (.slice ao pre.length cp):=by rw[fW aP];rfl
  have f3:=gE aP 0;obtain⟨W4,a5⟩:∃W4,W4=w3.setCell ⟨b3,0,none⟩ (.slice ag (pre.length+1) ah):=⟨_,rfl⟩;rw[<-a5]at aj b0 a6;have ow:W4.ownsRow w1.heap.size 44 3 (.slice ag (pre.length+1) ah) (pre++[x]).length (qq (pre++[x])):=by
   have e2:qq (pre++[x])=qq pre++[gn x.k,gH x.s,gH x.t]:=by rw[Bv];rfl
   rw[e2,p6];exact b0
  have kk:Kept [b3,b4] w1 W4:=ab.out.next a6 (λq z=>by
   rcases List.mem_cons.1 z with rfl|z
   .exact .inl (by simp)
   .exact .inr (I.out.lt q (by simpa using z)).1)
  have nu:∀q,u.ownBlock=some q->q∉b3::(Value.slice ao pre.length cp).ownBlock.toList:=λq z hm=>by
   obtain⟨cc,hc⟩:=uA a1.out q (by simp[z]);rcases List.mem_cons.1 hm with rfl|hm
   .rw[aI.out]at hc;simp at hc
   .obtain⟨aO,T⟩:=uA I.out q hm;rw[T]at hc;simp at hc
  have n4:b4∉b3::(Value.slice ao pre.length cp).ownBlock.toList:=λhm=>by
   rcases List.mem_cons.1 hm with e|hm
   .have:=EE.out;omega
   .obtain⟨aO,T⟩:=uA I.out b4 hm;rw[aJ.out]at T;simp at T
  have bE:W4.heap[b4]?=some (gI #[u] 29):=a6.at aJ.out n4;have bF:W4.ownsRow w1.heap.size 3 1 u (min 3 pre.length) (List.replicate (min 3 pre.length) (gn ((2*g.length:Nat)))):=a6.ownsRow a1.out nu;have hS:∀k∈b3::(Value.slice ao pre.length cp).ownBlock.toList,∃c t m,W.heap[k]?=some (.cells c t m)/\t∉[110,275]:=λq z=>by
   rcases List.mem_cons.1 z with rfl|z
   .exact⟨_,_,_,aI.out,by decide⟩
   .obtain⟨cc,hc⟩:=uA I.out q z;exact⟨_,_,_,hc,by decide⟩
  have c4:W4.cell? ⟨b3,0,none⟩=some (.slice ag (pre.length+1) ah):=by rw[fW aj];rfl
  have m0:w.heap.size∉[b3,b4]:=by have:=EE.out;simp;omega
  have m1:b1∉[b3,b4]:=by have:=EE.out;simp;omega
  have m2:b2∉[b3,b4]:=by have:=EE.out;simp;omega
  have au:=fU a5;have ba:=fU aj;have bg:=fU ow;have a2:=fU kk;have an:=fU a6;have bi:=fU bE;have bj:=fU bF;have HS:=fU hS;have Z:=jk aj;have d0:W4.cell? ⟨w.heap.size,0,none⟩=some (gJ C):=by rw[fW (kk.at be.out m0)];rfl
  have d1:W4.cell? ⟨b1,0,none⟩=some (gn left):=by rw[fW (kk.at bf.out m1)];rfl
  clear aZ bt aP aj b0 a6 kk ow hS nu n4 bE bF;have ch:=fU d1;have cg:=fU c4;have aC:=fU (show∀Wf,WI w1 b3 b4 g.length (pre++[x]) Wf->KW W Wf->KeepsOthers W Wf->(pre.length+1=left->((∃pre,pre <+:g/\pre.length=left/\WI w1 b3 b4 g.length pre Wf)/\KW W Wf/\KeepsOthers W Wf))/\(¬pre.length+1=left->(((pre++[x]).length < left/\WI w1 b3 b4 g.length (pre++[x]) Wf)/\KW W Wf/\KeepsOthers W Wf))from λWf G E F=>⟨λe=>⟨⟨_,bh.out,by simpa using e,G⟩,E,F⟩,λe=>⟨⟨by have:=bO.out;simp;omega,G⟩,E,F⟩⟩)
  by_cases F:pre.length+1<=3
  .have bT:((pre.length:Int)+1<=3):=by omega
   have bm:(W4.alloc (gI #[gn 0] 3)).cell? ⟨w.heap.size,0,none⟩=some (gJ C):=by rw[fW (((Kept.refl [] W4).alloc _).at (a2.out.at be.out m0) (by simp))];rfl
   rw[a5]at bm c4;clear a5
   gi_wp2_with (refine⟨trivial,?_⟩;gi_at_call 12;refine(callsIn_wide.2 (EQ _ C)).mono ?_;rintro e w' ⟨rfl,rfl⟩)
   have e5:w3.heap.size=W4.heap.size:=by rw[au.out];simp
   rw[<-au.out,e5];obtain⟨W5,av⟩:∃W5,W5=W4.alloc (gI #[gn 0] 3):=⟨_,rfl⟩;obtain⟨bn,al⟩:∃bn,bn=W4.heap.size:=⟨_,rfl⟩;have aY:W5.heap[bn]?=some (gI #[gn 0] 3):=by rw[av,al];exact fY W4 _
   have k5:Kept [] W4 W5:=by rw[av];exact(Kept.refl _ _).alloc _
   rw[<-av,<-al];have b7:Kept [] w W4:=af.out _ a2.out;have bs:w.heap.size<=bn:=by rw[al];exact b7.size
   have b9:KeepsOthers W W4:=uL an.out (λq z=>by obtain⟨c,t,m,h,_⟩:=HS.out q z;exact⟨c,t,m,h⟩);have aX:∃r,W5.heap[l]?=some (.loop r):=by obtain⟨r,hr⟩:=bL.out;exact⟨r,k5.at (b9.same _ _ hr rfl) (by simp)⟩
   have bc:=fU aX;have bB:l≠bn:=by rintro rfl;obtain⟨r,hr⟩:=aX;rw[aY]at hr;cases hr
   have bN:=fU bB;have ap:=fU k5;have aG:=fU bs;have bb:=fU al;have aD:=fU b7;have ci:=fU b9;clear bB av bm c4 d0 e5 f3 c3 k5 aX b7 b9 bs al d1 Z;refine Kk (by omega) (gf:=17) (recv:=gJ C) rfl HE.out g w HC.out bc.out (aD.out.trans ap.out) bn 0 aG.out aY ?_ ?_
   .rintro l' j y V hj hV;have cV:V.cell? ⟨bn,0,none⟩=some (gn ((0+j:Nat))):=by rw[fW hV];rfl
    have fV:=gE hV 0;have aV:0+j < 4000000000:=by have:=aq.out;omega
    clear hV hj;generalize 0+j=jj at cV aV|-;gi_wp2
    first
     |rfl
     |(congr 2;omega)
     |trace_state
   .intro V1 bp aW;have q2:V1.cell? ⟨b2,0,none⟩=some (.func (.func 17) #[gJ C] #[]):=by
     rw[fW (aW.at (ap.out.at (a2.out.at bM.out m2) (by simp)) (by have:=EE.out;have:=bb.out;have:=a2.out.size;simp;omega))];rfl
    have bQ:=fU bp;have ad:=fU aW;clear bp aW aY;gi_wp2;have bK:=fU (show∃r,V1.heap[l]?=some (.loop r) by obtain⟨r,hr⟩:=bc.out;exact⟨r,ad.out.at hr (by simpa using bN.out)⟩);clear q2;refine Kk (by omega) (gf:=17) (recv:=gJ C) rfl HE.out g w HC.out bK.out ((aD.out.trans ap.out).next ad.out (by simpa using aG.out)) bn (0+g.length) aG.out bQ.out ?_ ?_
    .rintro l' j y V hj hV;have cV:V.cell? ⟨bn,0,none⟩=some (gn ((0+g.length+j:Nat))):=by rw[fW hV];rfl
     have fV:=gE hV 0;have aV:0+g.length+j < 4000000000:=by have:=aq.out;omega
     clear hV hj;generalize 0+g.length+j=jj at cV aV|-;gi_wp2
     first
      |rfl
      |(congr 2;omega)
      |trace_state
    .intro V2 bq bv;have bI:Kept [bn] W5 V2:=ad.out.trans bv;have a7:Kept [] W4 V2:=ap.out.next bI (by have:=bb.out;simp;omega);have br:=a7.at ba.out (by simp);have Z:=a7.at bi.out (by simp);have bC:=a7.ownsRow bg.out (λ_ _=>by simp);have ax:=a7.ownsRow bj.out (λ_ _=>by simp);obtain⟨uo,uc,hu⟩:=gG ax;subst hu;have e0:min 3 pre.length=pre.length:=by omega
     rw[e0]at ax Z;have c4:V2.cell? ⟨b4,0,none⟩=some (.slice uo pre.length uc):=by rw[fW Z];rfl
     have f4:=gE Z 0;have cn:V2.cell? ⟨bn,0,none⟩=some (gn ((0+g.length+g.length:Nat))):=by rw[fW bq];rfl
     have bH:=jk Z;have ac:=fU a7;have ae:=fU ax;have aB:=fU bC;have az:=fU Z;have a8:=fU br;have aH:=fU F;clear bq bv bI a7 br Z bC ax;have bo:0+g.length+g.length=2*g.length:=by omega
     rw[bo]at cn;clear bo;obtain⟨aN,ak⟩:∃M:Int,M=((2*g.length:Nat):Int):=⟨_,rfl⟩;rw[<-ak]at cn;have HM:=fU ak;clear ak
     gi_wp2_with (gi_at_builtin;refine wpListIn_append_own _ rfl _ _ 29 rfl w1.heap.size 3 j0 (gn 0) 1 8 underlying29 hj c0 c6 c7 rfl (by decide) _ _ _ rfl (ae.out.alloc _) ⟨V2.heap.size,0,none⟩ 1 1 [gn aN] rfl rfl ?e1 ?e2 ?e3 ?e4 ?e5 ?_)
     case e1=>
      intro j u hj;have hg:=fY V2 (gI #[gn aN] 3);rw[iY,fW hg]
      match j,hj with
      |0,hj=>exact hj
     case e2=>
      intro u hu;simp at hu;subst hu;rfl
     case e3=>have:=aH.out;unfold maxLen;omega
     case e4=>have:=aH.out;omega
     case e5=>have:=ac.out.size;have:=a2.out.size;simp;omega
     intro u' w9 b5 bu _;obtain⟨cf,cb,bY⟩:=gG b5;subst bY;have aU:b3 < w1.heap.size/\b4 < w1.heap.size/\b3≠b4/\b1≠b4/\b1≠b3:=by have:=EE.out;omega
     obtain⟨aQ,ai,am,H⟩:=MW az.out ae.out aU.2.1 b5 bu;have c9:w9.cell? ⟨b4,0,none⟩=some (.slice uo pre.length uc):=by rw[fW aQ];rfl
     have f9:=gE aQ 0;obtain⟨Wf,aw⟩:∃Wf,Wf=w9.setCell ⟨b4,0,none⟩ (.slice cf (pre.length+1) cb):=⟨_,rfl⟩;rw[<-aw]at ai am H;have n3:b3∉b4::(Value.slice uo pre.length uc).ownBlock.toList:=λhm=>by
      rcases List.mem_cons.1 hm with e|hm
      .exact aU.2.2.1 e
      .obtain⟨aO,T⟩:=uA ae.out b3 hm;rw[a8.out]at T;simp at T
     have nv:∀q,(Value.slice ag (pre.length+1) ah).ownBlock=some q->q∉b4::(Value.slice uo pre.length uc).ownBlock.toList:=λq z hm=>by
      obtain⟨cc,hc⟩:=uA aB.out q (by simp[z]);rcases List.mem_cons.1 hm with rfl|hm
      .rw[az.out]at hc;simp at hc
      .obtain⟨aO,T⟩:=uA ae.out q hm;rw[T]at hc;simp at hc
     have b8:Kept [b3,b4] w1 Wf:=(a2.out.trans (ac.out.mono (by simp))).next H (λq z=>by
      rcases List.mem_cons.1 z with rfl|z
      .exact .inl (by simp)
      .exact .inr (ae.out.lt q (by simpa using z)).1)
     have bS:Wf.cell? ⟨b3,0,none⟩=some (.slice ag (pre.length+1) ah):=by rw[fW (H.at a8.out n3)];rfl
     have bl:Wf.cell? ⟨b1,0,none⟩=some (gn left):=by rw[fW (b8.at bf.out m1)];rfl
     have e1:min 3 (pre++[x]).length=pre.length+1:=by have:=aH.out;simp;omega
     have e9:aN=2*(g.length:Int):=by rw[HM.out];push_cast;rfl
     have bG:WI w1 b3 b4 g.length (pre++[x]) Wf:=⟨_,_,H.at a8.out n3,H.ownsRow aB.out nv,ai,by
      rw[e1,List.replicate_succ',<-HM.out];have h:=am;rw[<-e9]at h;exact h,b8⟩
     have kW:Kept ((b3::(Value.slice ao pre.length cp).ownBlock.toList)++(b4::(Value.slice uo pre.length uc).ownBlock.toList)) W Wf:=((an.out.mono (λq z _=>List.mem_append_left _ z)).trans (ac.out.mono (by simp))).trans (H.mono (λq z _=>List.mem_append_right _ z));have aS:∀k∈(b3::(Value.slice ao pre.length cp).ownBlock.toList)++(b4::(Value.slice uo pre.length uc).ownBlock.toList),∃c t m,W.heap[k]?=some (.cells c t m)/\t∉[110,275]:=λq z=>by
      rcases List.mem_append.1 z with z|z
      .exact HS.out q z
      .rcases List.mem_cons.1 z with rfl|z
       .exact⟨_,_,_,aJ.out,by decide⟩
       .obtain⟨cc,hc⟩:=uA a1.out q (by cases uo<;>exact z);exact⟨_,_,_,hc,by decide⟩
     have aa:=fU (aC.out Wf bG (GY kW aS) (uL kW (λq z=>by obtain⟨c,t,m,h,_⟩:=aS q z;exact⟨c,t,m,h⟩)));have bk:=fU aw;rw[aw]at bS bl;clear aw aQ ai am H n3 nv b8 e1 bG kW aS b5 bu aU c4 f4 cn
     by_cases U:pre.length+1=left
     .rw[<-U]at bl;have aM:=fU U;clear U;gi_wp2;rw[<-bk.out];exact aa.out.1 aM.out
     .have bw:¬((pre.length:Int)+1=(left:Int)):=by omega
      gi_wp2;rw[<-bk.out];have:=aa.out.2 U
      simpa using this
  .have bT:¬((pre.length:Int)+1<=3):=by omega
   rw[a5]at c4 d1;clear a5;have aa:=fU (aC.out W4 ⟨_,_,ba.out,bg.out,bi.out,by have e1:min 3 (pre++[x]).length=3:=(by simp;omega);have e2:min 3 pre.length=3:=(by omega);rw[e1];have h:=bj.out;rw[e2]at h;exact h,a2.out⟩ (GY an.out HS.out) (uL an.out (λq z=>by obtain⟨c,t,m,h,_⟩:=HS.out q z;exact⟨c,t,m,h⟩)))
   by_cases U:pre.length+1=left
   .rw[<-U]at d1;have aM:=fU U;clear U;gi_wp2;rw[<-au.out];exact aa.out.1 aM.out
   .have bw:¬((pre.length:Int)+1=(left:Int)):=by omega
    gi_wp2;rw[<-au.out];have:=aa.out.2 U
    simpa using this
 case done=>
  rintro W ⟨a4,v,u,G,E,h5,h6,F⟩ hd;have et:g.take left=g:=AN (by omega);obtain⟨ao,cp,hv⟩:=gG E;subst hv;obtain⟨uo,uc,hu⟩:=gG h6;subst hu;have c1:W.cell? ⟨b3,0,none⟩=some (.slice ao g.length cp):=by rw[fW G];rfl
  have c2:W.cell? ⟨b4,0,none⟩=some (.slice uo (min 3 g.length) uc):=by rw[fW h5];rfl
  have I:=fU E;have a1:=fU h6;have ab:=fU (af.out _ F);have HD:=fU hd;have a9:=fU et;clear G E F h5 h6 hd et a4 n3 n4
  gi_wp2_with fail
  refine wpIn_wide.2 ?_;rename_i K aR;refine wp_mono (Q:=Exit.then (λa W'=>a={tmps:=#[gJ C,gn left,gJ w.heap.size,gJ b1,.slice ao g.length cp,.slice uo (min 3 g.length) uc,gJ b2,gJ b3,gJ b4,undef,undef,gJ C,.func (.func 17) #[gJ C] #[],.func (.func 17) #[gJ C] #[],.bool false,.func (.func 17) #[gJ C] #[],undef,undef,undef,undef,undef,undef,undef,undef,undef,undef,undef,undef,undef,undef,undef,undef,undef,undef,undef,undef,undef,undef,undef,undef,undef,.slice ao g.length cp,.slice uo (min 3 g.length) uc],defers:=[{target:= .collected w1.heap.size,args:=#[]}]++[]}/\∃q,W'=W.drewN q) (λ_ _ _=>False)) ?_ ?_
  .go_quiet (fail)
   exact⟨rfl,_,rfl⟩
  .intro e a W' z;cases e with
   |normal=>
    obtain⟨rfl,q,rfl⟩:=z;refine aR _ _ ?_;have a0:(W.drewN q).heap[w1.heap.size]?=some (.deferred (some [])):=HD.out;have E:(W.drewN q).ownsRow w1.heap.size 44 3 (.slice ao g.length cp) _ _:=((Kept.refl [] W).drewN q).ownsRow I.out (λ_ _=>by simp);have h6:(W.drewN q).ownsRow w1.heap.size 3 1 (.slice uo (min 3 g.length) uc) _ _:=((Kept.refl [] W).drewN q).ownsRow a1.out (λ_ _=>by simp);have aK:=fU E;have aL:=fU h6;clear E h6;gi_wp2;refine⟨by simp,.inl ⟨_,_,rfl,nM a0,?_⟩⟩;have a3:w.heap.size<=w1.heap.size:=by have:=EE.out;omega
    refine⟨_,results_tmp2 rfl _ _ _,_,_,rfl,?_,?_,Ja (ab.out.drewN q) a3 _⟩
    .rw[<-ar.out,a9.out];exact jW (xj aK.out a0 rfl (.deferred none)) a3
    .rw[<-ar.out,a9.out,<-bd.out];exact jW (xj aL.out a0 rfl (.deferred none)) a3
   |_=>exact z.elim
 case halt=>
  rintro W ⟨pre,O,a4,v,u,G,E,h5,h6,F⟩ hd;have et:g.take left=pre:=by obtain⟨r,rfl⟩:=O;rw[<-a4];simp
  clear O;obtain⟨ao,cp,hv⟩:=gG E;subst hv;obtain⟨uo,uc,hu⟩:=gG h6;subst hu;have c1:W.cell? ⟨b3,0,none⟩=some (.slice ao pre.length cp):=by rw[fW G];rfl
  have c2:W.cell? ⟨b4,0,none⟩=some (.slice uo (min 3 pre.length) uc):=by rw[fW h5];rfl
  have I:=fU E;have a1:=fU h6;have ab:=fU (af.out _ F);have HD:=fU hd;have a9:=fU et;clear G E F h5 h6 hd et a4 n3 n4
  gi_wp2_with fail
  refine wpIn_wide.2 ?_;rename_i K aR;refine wp_mono (Q:=Exit.then (λa W'=>a={tmps:=#[gJ C,gn left,gJ w.heap.size,gJ b1,.slice ao pre.length cp,.slice uo (min 3 pre.length) uc,gJ b2,gJ b3,gJ b4,undef,undef,gJ C,.func (.func 17) #[gJ C] #[],.func (.func 17) #[gJ C] #[],.bool false,.func (.func 17) #[gJ C] #[],undef,undef,undef,undef,undef,undef,undef,undef,undef,undef,undef,undef,undef,undef,undef,undef,undef,undef,undef,undef,undef,undef,undef,undef,undef,.slice ao pre.length cp,.slice uo (min 3 pre.length) uc],defers:=[{target:= .collected w1.heap.size,args:=#[]}]++[]}/\∃q,W'=W.drewN q) (λ_ _ _=>False)) ?_ ?_
  .go_quiet (fail)
   exact⟨rfl,_,rfl⟩
  .intro e a W' z;cases e with
   |normal=>
    obtain⟨rfl,q,rfl⟩:=z;refine aR _ _ ?_;have a0:(W.drewN q).heap[w1.heap.size]?=some (.deferred (some [])):=HD.out;have E:(W.drewN q).ownsRow w1.heap.size 44 3 (.slice ao pre.length cp) _ _:=((Kept.refl [] W).drewN q).ownsRow I.out (λ_ _=>by simp);have h6:(W.drewN q).ownsRow w1.heap.size 3 1 (.slice uo (min 3 pre.length) uc) _ _:=((Kept.refl [] W).drewN q).ownsRow a1.out (λ_ _=>by simp);have aK:=fU E;have aL:=fU h6;clear E h6;gi_wp2;refine⟨by simp,.inl ⟨_,_,rfl,nM a0,?_⟩⟩;have a3:w.heap.size<=w1.heap.size:=by have:=EE.out;omega
    refine⟨_,results_tmp2 rfl _ _ _,_,_,rfl,?_,?_,Ja (ab.out.drewN q) a3 _⟩
    .rw[<-ar.out,a9.out];exact jW (xj aK.out a0 rfl (.deferred none)) a3
    .rw[<-ar.out,a9.out,<-bd.out];exact jW (xj aL.out a0 rfl (.deferred none)) a3
   |_=>exact z.elim
structure AR (w:gv) (g off n:Nat) (A:Nat->It):Prop where
 c0:∀i,i < n->w.cell? ⟨g,off+i*3,none⟩=some (gn (A i).k)
 c1:∀i,i < n->w.cell? ⟨g,off+i*3+1,none⟩=some (gH (A i).s)
 c2:∀i,i < n->w.cell? ⟨g,off+i*3+2,none⟩=some (gH (A i).t)
def Az (m C Y t E Z n:Nat) (A B:Nat->It) (w:gv) (O:AR w m C n A) (P:AR w t E n B) (hn:n<=140737488351232) (u:∀i,i < n->A i=B i):
  Calls prog 8 #[.slice (some ⟨m,C,none⟩) n Y,.slice (some ⟨t,E,none⟩) n Z] w λe w'=>e=iq (.bool true)/\∃q,w'=w.drewN q:=by
 have F:=fU O;have H:=fU P;have G:=fU u;clear O P u;go_enter func8,ntmps8;go_wp2
 go_loopw [5] (λi wr=>∃k:Nat,k<=n/\i=gn k/\∃q,wr=w.drewN q) (λi _=>n - (intOf i).toNat)
 case atStart=>exact⟨0,iO _,rfl,0,rfl⟩
 case round=>
  obtain⟨k,hk,rfl,Q⟩:=hrel;have h:=fU Q;clear Q
  by_cases g:k < n
  .have T:wr.cell? ⟨m,C+k*3,none⟩=some (gn (A k).k):=by obtain⟨q,rfl⟩:=h.out;rw[Bd];exact F.out.c0 k g
   have U:wr.cell? ⟨m,C+k*3+1,none⟩=some (gH (A k).s):=by obtain⟨q,rfl⟩:=h.out;rw[Bd];exact F.out.c1 k g
   have X:wr.cell? ⟨m,C+k*3+2,none⟩=some (gH (A k).t):=by obtain⟨q,rfl⟩:=h.out;rw[Bd];exact F.out.c2 k g
   have I:wr.cell? ⟨t,E+k*3,none⟩=some (gn (B k).k):=by obtain⟨q,rfl⟩:=h.out;rw[Bd];exact H.out.c0 k g
   have J:wr.cell? ⟨t,E+k*3+1,none⟩=some (gH (B k).s):=by obtain⟨q,rfl⟩:=h.out;rw[Bd];exact H.out.c1 k g
   have K:wr.cell? ⟨t,E+k*3+2,none⟩=some (gH (B k).t):=by obtain⟨q,rfl⟩:=h.out;rw[Bd];exact H.out.c2 k g
   rw[<-G.out k g]at I J K;generalize (A k).k=x at T I;generalize (A k).s=y at U J;generalize (A k).t=z at X K;go_wp2_with fail
   go_quiet (fail)
   go_wp2;go_roundw
   case rel=>exact⟨k+1,by omega,by go_num,by obtain⟨q,rfl⟩:=h.out;exact⟨_,World.drewN_drewN _ _ _⟩⟩
   case measure=>simp[intOf];omega
  .go_wp2;go_ret;exact⟨rfl,h.out⟩
def yh (L:List It) (i:Nat):It:=L.getD i ⟨0,⟨#[]⟩,⟨#[]⟩⟩
def PY {g u : Nat} {L : List It} (x:w.ownsRow base 44 3 (oY g L.length u) L.length (qq L)):AR w g 0 L.length (yh L):=by
 have t:∀(L:List It) (i k:Nat),i < L.length->k < 3->(qq L)[i*3+k]?=[Value.int .i64 (yh L i).k,gH (yh L i).s,gH (yh L i).t][k]?:=by
  intro L
  induction L with
  |nil=>intro i k h;simp at h
  |cons p L ih=>
   intro i k m q;show(Value.int .i64 p.k:: .string p.s:: .string p.t::qq L)[i*3+k]?=_;cases i with
   |zero=>
    have e:yh (p::L) 0=p:=rfl;rw[e,Nat.zero_mul,Db]
    match k,q with
    |0,_=>rfl
    |1,_=>rfl
    |2,_=>rfl
   |succ i=>
    have e:yh (p::L) (i+1)=yh L i:=by unfold yh;simp
    rw[e,show(i+1)*3+k=(i*3+k)+1+1+1 by omega];simp only[List.getElem?_cons_succ];exact ih i k (by simpa using m) q
 have c:∀i k,i < L.length->k < 3->w.cell? ⟨g,i*3+k,none⟩=[Value.int .i64 (yh L i).k,gH (yh L i).s,gH (yh L i).t][k]?:=by
  intro i k m q
  match k,q with
  |0,q=>have:=x.cells (g:=g) rfl (i*3+0) _ (t L i 0 m q);rw[iY]at this;exact this
  |1,q=>have:=x.cells (g:=g) rfl (i*3+1) _ (t L i 1 m q);rw[iY]at this;exact this
  |2,q=>have:=x.cells (g:=g) rfl (i*3+2) _ (t L i 2 m q);rw[iY]at this;exact this
 refine⟨λi m=>?_,λi m=>?_,λi m=>?_⟩
 .rw[Db];exact c i 0 m (by omega)
 .rw[Db];exact c i 1 m (by omega)
 .rw[Db];exact c i 2 m (by omega)
def aby (c:Int) (w:gv) (t: -9223372036854775808<=c) (u:c<=9223372036854775807):
  Calls prog 6 #[gn c,gn 100] w λe w'=>(∃m:Nat,m<=99/\e=iq (gn m))/\w'=w:=by
 by_cases x:c < 0
 .have h:0<= -(c+1):=by omega
  have q:(-(c+1)).tmod 100=(((-(c+1)).toNat%100:Nat):Int):=by rw[Int.tmod_eq_emod_of_nonneg h];omega
  go_enter func6,ntmps6;go_wp2;go_ret;refine⟨⟨(-(c+1)).toNat%100,by omega,?_⟩,rfl⟩;have g:max (-(c+1)) 0%100=(((-(c+1)).toNat%100:Nat):Int):=by omega
  show Ending.returned (Value.int .i64 (max (-(c+1)) 0%100))=_;rw[g]
 .have q:c.tmod 100=((c.toNat%100:Nat):Int):=by rw[Int.tmod_eq_emod_of_nonneg (by omega)];omega
  go_enter func6,ntmps6;go_wp2;go_ret;refine⟨⟨c.toNat%100,by omega,?_⟩,rfl⟩;have g:max c 0%100=((c.toNat%100:Nat):Int):=by omega
  show Ending.returned (Value.int .i64 (max c 0%100))=_;rw[g]
def IV (s:gy) (n:Int) (w:gv) (g:Calls prog 4 #[gH s] w λe w'=>e=iq (.tuple #[.pointer none,.bool true])/\Kept [] w w'):
  Calls prog 3 #[gH s,gn n] w λe w'=>e=iq (.bool true)/\Kept [] w w':=by
 have C:=fU g;clear g;go_enter func3,ntmps3;go_wp2_with fail;refine C.out.mono ?_;rintro e w1 ⟨rfl,h⟩;have m:=fU h;clear h C;go_wp2;go_ret;exact⟨rfl,m.out⟩
def AR.le {g q m : Nat} {A : Nat->It} (h:AR w g q n A) (u:m<=n):AR w g q m A:=
 ⟨λi t=>h.c0 i (by omega),λi t=>h.c1 i (by omega),λi t=>h.c2 i (by omega)⟩
def Wd (L:List It) (m i:Nat) (g:i < (L.take m).length):yh (L.take m) i=yh L i:=by
 unfold yh;rw[List.length_take]at g;simp only[xv,BN];rw[gF (by omega)]
def JL (h:w.ownsRow base e sz v n xs) (u:0 < n):∃g m,v=oY g n m/\n<=m:=by
 rcases h.2 with⟨_,t⟩|⟨g,m,q,rfl,_,_,r⟩
 .omega
 .exact⟨g,m,rfl,r.1⟩
def SD (s:gy) (n:Int) (w:gv) (bx:Nat) (hn: -9223372036854775808<=n/\n<=9223372036854775807) (ts:List Tn) (hO:Calls prog 4 #[gH s] w λe w'=>e=iq (.tuple #[gJ bx,.bool true])/\(∃k c x gL,PCl w' bx c k/\jJ w' (.el x gL ts) (.el k))/\Kept [] w w') (t:List It) (ht:jK (vf (λ_=>false) ts)=t) (h6:6<=t.length) (h9:t.length<=1000000000):
  Calls prog 3 #[gH s,gn n] w λe w'=>e=iq (.bool true)/\Kept [] w w':=by
 have C:=fU hO;have HT:=fU ht;have X:=fU hn;clear hO ht hn;go_enter func3,ntmps3;go_wp2_with fail;refine C.out.mono ?_;rintro e w1 ⟨rfl,⟨k,c,x,gL,hp,hi⟩,a3⟩;have CW:=fU (Zt w1 bx k c x gL ts hp hi t HT.out h9);have HP:=fU hp;have HI:=fU hi;have O:=fU a3;clear hp hi a3 C;go_wp2_with fail;refine CW.out.mono ?_;rintro e w2 ⟨v,rfl,J,a4⟩;obtain⟨g,a2,hv,a9⟩:=JL J (by omega);subst hv;have CP:=fU (aby n w2 X.out.1 X.out.2);have Z:=fU J;have z:=fU a4;clear J a4 CW;go_wp2_with fail;refine CP.out.mono ?_;rintro e w3 ⟨⟨m,hm,rfl⟩,rfl⟩;obtain⟨P,hP⟩:∃P,t.take (m+1)=P:=⟨_,rfl⟩;obtain⟨M,hM⟩:∃M:Int,((2*t.length:Nat):Int)=M:=⟨_,rfl⟩;have CI:=fU (Ti w3 bx k (m+1) c x gL ts (HP.out.kept z.out) (jJ.kept z.out HI.out) t HT.out h9 (by omega) (by omega) P hP M hM);have F:=fU hP;have U:=fU hM;clear hP hM CP;have e1:(1:Int)+(m:Int)=((m+1:Nat):Int):=by omega
 go_wp2_with fail;refine CI.out.mono ?_;rintro e w4 ⟨v2,u,rfl,y,I,H⟩;have a5:P.length=min (m+1) t.length:=by rw[<-F.out,List.length_take]
 obtain⟨g2,E,a7,_⟩:=JL y (by omega);obtain⟨g3,a8,hu,_⟩:=JL I (by omega);subst a7 hu;have a0:=fU (PY (H.ownsRow Z.out (λ_ _=>by simp)));have a1:=fU (PY y);have Y:=fU I;have T:=fU (show M=2*(t.length:Int) by rw[<-U.out];push_cast;rfl);have K:=fU (show∀i,i < P.length->yh P i=yh t i from λi hi=>by have h:=F.out;subst h;exact Wd _ _ _ hi);have Q:=fU ((O.out.trans z.out).trans H);clear y I H CI Z U F HP HI O z e1;generalize P.length=lp at *
 by_cases aa:t.length < m+1
 .obtain rfl:lp=t.length:=by omega
  clear a5;have a6:(t.length:Int) < (m:Int)+1:=by omega
  go_wp2_with fail
  go_loopw [11] (λi wr=>∃j:Nat,j<=min 3 (t.length)/\i=gn j/\wr=w4) (λi _=>min 3 (t.length) - (intOf i).toNat)
  case atStart=>exact⟨0,iO _,rfl,rfl⟩
  case round=>
   obtain⟨j,hj,rfl,rfl⟩:=hrel
   by_cases G:j < min 3 (t.length)
   .have cj:wr.cell? ⟨g3,j,none⟩=some (gn (2*(t.length:Int))):=by
     have:=Y.out.cells (g:=g3) rfl j (gn M) (by rw[List.getElem?_replicate,gF G]);rw[iY]at this;rw[T.out]at this
     simpa using this
    go_wp2;go_roundw
    case rel=>exact⟨j+1,by omega,by go_num,by first|rfl|trivial⟩
    case measure=>simp[intOf];omega
   .have CS:=fU (Az g2 0 E g 0 a2 (t.length) (yh P) (yh t) wr a1.out (a0.out.le (by omega)) (by omega) K.out);clear hj;go_wp2_with fail;refine CS.out.mono ?_;rintro e w5 ⟨rfl,q,rfl⟩;go_wp2;go_ret;exact⟨rfl,Q.out.drewN q⟩
 .obtain rfl:lp=m+1:=by omega
  clear a5;have a6:¬((t.length:Int) < (m:Int)+1):=by omega
  go_wp2_with fail
  go_loopw [11] (λi wr=>∃j:Nat,j<=min 3 (m+1)/\i=gn j/\wr=w4) (λi _=>min 3 (m+1) - (intOf i).toNat)
  case atStart=>exact⟨0,iO _,rfl,rfl⟩
  case round=>
   obtain⟨j,hj,rfl,rfl⟩:=hrel
   by_cases G:j < min 3 (m+1)
   .have cj:wr.cell? ⟨g3,j,none⟩=some (gn (2*(t.length:Int))):=by
     have:=Y.out.cells (g:=g3) rfl j (gn M) (by rw[List.getElem?_replicate,gF G]);rw[iY]at this;rw[T.out]at this
     simpa using this
    go_wp2;go_roundw
    case rel=>exact⟨j+1,by omega,by go_num,by first|rfl|trivial⟩
    case measure=>simp[intOf];omega
   .have CS:=fU (Az g2 0 E g 0 a2 (m+1) (yh P) (yh t) wr a1.out (a0.out.le (by omega)) (by omega) K.out);clear hj;go_wp2_with fail;refine CS.out.mono ?_;rintro e w5 ⟨rfl,q,rfl⟩;go_wp2;go_ret;exact⟨rfl,Q.out.drewN q⟩
def V3 (s:gy) (n:Int) (w:gv) (G:s.size<=140737488351232) (E: -9223372036854775808<=n/\n<=9223372036854775807) (m:W4 w):
  Calls prog 3 #[gH s,gn n] w λe w'=>e=iq (.bool true)/\Kept [] w w':=by
 by_cases C:1024 < s.size
 .exact IV s n w (Wx s w C G m)
 .have g:s.size<=1024:=by omega
  rcases aaW s g with⟨c,p,z,h⟩|⟨nm,gL,T,L,F,x,y⟩
  .exact IV s n w (Wy s w g m z h)
  .refine SD s n w w.heap.size E T ((Ww s w g m F).mono ?_) _ rfl x y;rintro e w' ⟨rfl,⟨v,k,q,t⟩,u⟩;exact⟨rfl,⟨k,_,nm,gL,⟨q,rfl⟩,t⟩,u⟩
end
end Go.Proofs.YtofkkmcdggkkpaaGreatDoor
