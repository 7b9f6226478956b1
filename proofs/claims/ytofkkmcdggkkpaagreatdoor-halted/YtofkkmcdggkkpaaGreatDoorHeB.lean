import Derived.Test.YtofkkmcdggkkpaaGreatDoorRdN
import Derived.Maps.AppendAt
set_option linter.unusedSimpArgs false
set_option linter.unusedVariables false
set_option linter.defProp false
set_option maxHeartbeats 0
set_option maxRecDepth 100000
namespace Go.Proofs.YtofkkmcdggkkpaaGreatDoor
open Go.RowKit Go.PlainAid Go.Extern.Stop Go.Stop Go.Extern Tryz
def Fw:=@List.flatMap_cons
section
variable {A V W w w' w1 : gw} {B N a b b3 b4 base c d f i j k l lg n p ps sz : Nat} {D : Tn} {L : List Sp} {R : RC} {S : List Nat} {assign body : Code} {cut r : Nat->Nat} {e tE : TypeId} {look : gz->Option gz} {nm s : gz} {o : Obj} {pre : List It} {v : gP} {xs : List gP} {σ : Ab}
def BM (σ:Ab):Prop:=6<=σ.mode\/σ.mode=5/\6<=σ.kept
def En (r:pG Unit):Prop:=∀u g,r= .ok u g->BM g
def Ds {α:Type} {m:M α} {f:α->M Unit} (h:∀a g,m σ= .ok a g->En (f a g)):En ((m>>=f) σ):=by
 intro u q e;rw[M.gy]at e;cases hm:m σ with
 |ok a g=>rw[hm]at e;exact h a g hm u q e
 |stop c p=>rw[hm]at e;cases e
 |stuck=>rw[hm]at e;cases e
def yK {m:M Unit} (h:En (m σ)):En ((m>>=λ_=>(Pure.pure ():M Unit)) σ):=Ds λa t e u q g=>by
 cases g;exact h _ _ e
def vV {α q:Type} {m:M α} {f:α->M q} {σ' : Ab} {b:q} (h:(m>>=f) σ= .ok b σ'):∃a g,m σ= .ok a g/\f a g= .ok b σ':=by
 rw[M.gy]at h;cases hm:m σ with
 |ok a g=>rw[hm]at h;exact⟨a,g,rfl,h⟩
 |stop c p=>rw[hm]at h;cases h
 |stuck=>rw[hm]at h;cases h
def RB.en {r : pG Unit} (h:RB c σ r):En r:=by
 rintro u q rfl;rcases h.2.1.sh with g|⟨g,m,_⟩|⟨g,_⟩
 .exact .inl (Di g)
 .exact .inr ⟨g,Di m⟩
 .exact .inl (by omega)
section
variable {a b n:Nat} {gM:kY} {σ:Ab}
def en6 (h:σ.mode=6):En (hH false (n+1) 6 ⟨a,b,.io,gM⟩ σ):=by
 refine jy (sp:=kD) (P:=En) (by simp) rfl rfl ?_;intro u g e;cases e;exact .inl (by omega)
def en4:En (hH false (n+2) 4 ⟨a,b,.io,gM⟩ σ):=by
 refine jy (sp:=mn) (P:=En) (by simp) rfl rfl ?_;show En (nr (hH false (n+1)) ⟨a,b,.io,gM⟩ σ);unfold nr;exact Ds λ_ g _=>yK (m:=j1 (hH false (n+1)) ⟨a,b,.io,gM⟩) (σ:={g with mode:=6}) (en6 rfl)
def en3:En (hH false (n+3) 3 ⟨a,b,.io,gM⟩ σ):=by
 refine jy (sp:=lE) (P:=En) (by simp) rfl rfl ?_;exact yK (m:=j1 (hH false (n+2)) ⟨a,b,.io,gM⟩) (σ:={σ.pop with mode:=4}) en4
def en2:En (hH false (n+4) 2 ⟨a,b,.io,gM⟩ σ):=by
 refine jy (sp:=ln) (P:=En) (by simp) rfl rfl ?_;show En (pc (hH false (n+3)) ⟨a,b,.io,gM⟩ σ);unfold pc;refine Ds λ_ g h=>yK ?_;unfold rM at h;obtain⟨_,_,_,h⟩:=vV h;obtain⟨_,_,_,h⟩:=vV h;obtain⟨_,m,_,h⟩:=vV h;cases h;exact en3
def en1:En (hH false (n+5) 1 ⟨a,b,.io,gM⟩ σ):=by
 refine jy (sp:=lj) (P:=En) (by simp) rfl rfl ?_;show En (pa (hH false (n+4)) ⟨a,b,.io,gM⟩ σ);unfold pa;refine Ds λ_ g h=>yK ?_;unfold rL at h;obtain⟨_,_,_,h⟩:=vV h;obtain⟨_,_,_,h⟩:=vV h;obtain⟨_,_,_,h⟩:=vV h;obtain⟨_,m,_,h⟩:=vV h;cases h;exact en2
def en0:En (hH false (n+6) 0 ⟨a,b,.io,gM⟩ σ):=by
 refine jy (sp:=sr) (P:=En) (by simp) rfl rfl ?_;exact yK (m:=j1 (hH false (n+5)) ⟨a,b,.io,gM⟩) (σ:={σ with jL:=true,mode:=1}) en1
def RS (E:4*64+8<=n) (C:uT ⟨a,b,.io,gM⟩) (q:mL σ) (z:HS σ.mode σ.gA σ.head) (F:wt σ < 995000) (m:σ.waiting.length < 4000):En (hH false (n+6) σ.mode ⟨a,b,.io,gM⟩ σ):=by
 rcases z with⟨g,_⟩|⟨g,_⟩|⟨g,_⟩|⟨g,_⟩|⟨g,u⟩
 .rcases rA σ.mode 1 with y|y
  .have e:σ.mode=0:=by omega
   rw[e];exact en0
  .have e:σ.mode=1:=by omega
   rw[e];exact en1 (n:=n+1)
 .rw[g];exact en2 (n:=n+2)
 .rw[g];exact en3 (n:=n+3)
 .rw[g];exact en4 (n:=n+4)
 .have x:σ.gA.length<=64:=by obtain⟨r,t⟩:=q;exact jN t.wT t.OB
  exact(Hi 64 (n+6) (by omega) _ σ ⟨C,⟨q,u,g⟩,(λh=>by cases h),by omega,m,x⟩).en
def acW (C:uT ⟨a,b,.io,gM⟩) (g:xM σ) (z:Em σ < 990000) (t:σ.waiting.length < 4000):En (hH false uI σ.mode ⟨a,b,.io,gM⟩ σ):=by
 have U:wt σ < 990000:=by unfold Em at z;omega
 rcases g.ms.1 with h|⟨x,E,y,Q⟩|⟨x,E,y⟩
 .exact RS (n:=294) (by omega) C g.iv h (by omega) t
 .rw[x];refine jy (n:=299) (sp:=qX) (P:=En) (by simp) rfl rfl ?_;obtain⟨O,_⟩:=EU g.iv y;exact yK (m:=j1 (hH false 299) ⟨a,b,.io,gM⟩) (σ:={σ.pop with mode:=σ.kept}) (RS (n:=293) (σ:={σ.pop with mode:=σ.kept}) (by omega) C (O.lX rfl rfl rfl rfl rfl rfl rfl) Q (by show wt σ < _;omega) t)
 .rw[x];refine jy (n:=299) (sp:=kQ) (P:=En) (by simp) rfl rfl ?_;show En (mh (hH true 299) (hH false 299) ⟨a,b,.io,gM⟩ σ);unfold mh;have k:=Bl (n:=298) g.iv y g.wz (by unfold Em at z;omega);refine Ds λu q e=>?_;have K:po (hH true (298+1)) σ= .ok u q:=e;rw[K]at k;obtain⟨F,I,X,J,Y,Z,a7,a8,a9,G,H⟩:=k;have T:p9 q.kept=true:=by rw[J];rcases E with e|e|e<;>(rw[e];rfl)
  exact yK (m:=j1 (hH false 299) ⟨a,b,.io,gM⟩) (σ:={q with waiting:=[],mode:=q.kept}) (RS (n:=293) (σ:={q with waiting:=[],mode:=q.kept}) (by omega) C (F.lX rfl rfl rfl rfl rfl rfl rfl) (.inr (.inr (.inr (.inr ⟨T,I⟩)))) (by show wt q < _;unfold Em at z;omega) (by show(0:Nat) < 4000;omega))
def Xo (q:uT ⟨a,b,.io,gM⟩) (g:xM σ) (m:Em σ < 990000) (h:σ.waiting.length < 4000):En (uD (hH false uI) ⟨a,b,.io,gM⟩ σ):=by
 show En (if σ.behind&&kA (gN.chars ⟨a,b,.io,gM⟩) yz then pG.ok () {σ with behind:=false,gQ:=a} else j1 (hH false uI) ⟨a,b,.io,gM⟩ {σ with behind:=false,gQ:=a});have e:kA (gN.chars ⟨a,b,.io,gM⟩) yz=false:=(by decide+kernel:kA kJ yz=false);rw[e,Bool.and_false,gR (by simp)];exact acW (σ:={σ with behind:=false,gQ:=a}) q ⟨g.iv.lX rfl rfl rfl rfl rfl rfl rfl,g.ms,g.wz⟩ m h
end
def Wg (R:RC) (σ:Ab) (ps:Nat) (t:gN):Hh (yj R σ ps t) t:=by
 intro h;have⟨a,b,k,gM⟩:=t;cases k<;>first|rfl|cases h
def IJ (g:xM σ) (R:RC) (ps:Nat) (t:gN):xM (yj R σ ps t):=⟨g.iv.lX rfl rfl rfl rfl rfl rfl rfl,g.ms,g.wz⟩
def aca (R:RC) (cut:Nat->Nat) (ps:Nat) (σ:Ab):Z5->Prop
 | .stuck=>False
 | .stop _ p=>∃q,ps<=q/\q<=R.cs.size/\p=cut q
 | .done σ' _=>xM σ'/\Em σ'<=Em σ+580*(R.cs.size+1 - ps)/\σ'.pQ=σ.pQ/\σ'.qO=σ.qO/\σ'.oZ=σ.oZ/\BM σ'/\∀i s,iV σ i s->iV σ' i s
def Wv (hk:∀x t,look x=some t->t.size<=16) (hz:R.cs.size<=1024):∀(n ps:Nat) (σ:Ab) (L:List Sp),ps<=R.cs.size->R.cs.size - ps < n->xM σ->Em σ+580*(R.cs.size+1 - ps) < 990000->σ.waiting.length+(R.cs.size+1 - ps) < 4000->aca R cut ps σ (nL R look lg cut n ps σ L):=by
 intro n
 induction n with
 |zero=>intro ps σ L F h2;omega
 |succ n ih=>
  intro ps σ L F h2 g hp hw;rw[nL];have y:ps < R.cs.size->zq (QR R σ.nC σ.iZ) ps (kT (QR R σ.nC σ.iZ) look lg ps):=λh=>(Jf (R:=QR R σ.nC σ.iZ) hk hz h).1;have z:ps=R.cs.size->kT (QR R σ.nC σ.iZ) look lg ps= .tok .VM R.cs.size:=λe=>by rw[e];exact P9 (R:=QR R σ.nC σ.iZ)
  cases hT:kT (QR R σ.nC σ.iZ) look lg ps with
  |stop=>exact⟨ps,ij _,F,rfl⟩
  |tok k m=>
   dsimp only;have E:Xq k:=by
    rcases rA ps R.cs.size with h|h
    .have:=y h;rw[hT]at this;exact this.2.2.2.2
    .have:=z (by omega);rw[hT]at this;obtain⟨rfl,_⟩:=zS.tok.inj this;trivial
   have G:vA k≠0->ps < m/\m<=R.cs.size:=by
    intro C;rcases rA ps R.cs.size with h|h
    .have:=y h;rw[hT]at this;exact⟨this.1,this.2.1⟩
    .have:=z (by omega);rw[hT]at this;obtain⟨rfl,_⟩:=zS.tok.inj this;exact absurd rfl C
   have ht:=abX (qf (cut ps) (cut m) k) (E.tok _ _) (IJ g R ps (qf (cut ps) (cut m) k)) (Wg R σ ps _) (by show Em σ < _;omega) (by show σ.waiting.length < _;omega);have ha:(qf (cut ps) (cut m) k).a=cut ps:=by cases k<;>rfl
   revert ht;cases hT1:uD (hH false uI) (qf (cut ps) (cut m) k) (yj R σ ps (qf (cut ps) (cut m) k))with
   |stuck=>exact λh=>h.elim
   |stop c p=>
    intro h;refine⟨ps,ij _,F,?_⟩;rw[<-ha];exact h
   |ok u σ2=>
    rintro⟨H,I,J,K,P,T,O⟩;have Q:σ2.waiting.length<=σ.waiting.length+1:=P;have U:Em σ2<=Em σ+580:=T;dsimp only;split
    .rename_i h0;refine⟨H,by omega,I,J,K,?_,O⟩;cases k with
     |VM=>exact Xo ((E.tok _ _).resolve_left (by intro e;cases e)) (IJ g R ps _) (by show Em σ < _;omega) (by show σ.waiting.length < _;omega) _ _ hT1
     |_=>cases h0
    .rename_i C;obtain⟨m1,m2⟩:=G C;have h3:=ih m σ2 (sx L ⟨(vA k:Int),cut ps,cut m⟩) m2 (by omega) H (by omega) (by omega);revert h3;cases nL R look lg cut n m σ2 (sx L ⟨(vA k:Int),cut ps,cut m⟩)with
     |stuck=>exact λh=>h
     |stop c p=>rintro⟨q,q1,q2,q3⟩;exact⟨q,by omega,q2,q3⟩
     |done σ' L'=>rintro⟨X,b2,b3,b4,Y,Z,b7⟩;exact⟨X,by omega,b3.trans I,b4.trans J,Y.trans K,Z,λi s q=>b7 i s (O i s q)⟩
def Dd {e : zp} (h:(S0 d f l a).ib i=some e):e.je=none/\e.kids=[]:=by rw[Xm h];simp
def aei (g:d<=64) (y:f<=32):mL (S0 d f l a):=
 ⟨λ_=>0,{
  nM:=⟨λi e p h m=>(by rw[(Dd h).1]at m;cases m),λi e j h q=>(by rw[(Dd h).2]at q;cases q),λi e h=>(by rw[(Dd h).2];simp[iJ]),λi e h k t=>(by rw[(Dd h).2]at t;cases t)⟩
  sY:=⟨λi e p h m=>(by rw[(Dd h).1]at m;cases m),List.Pairwise.nil,λd h z=>by cases z⟩
  gA:=λx E=>by cases E
  act:=λi C=>by cases C
  head:=λd g=>by cases g
  form:=λd g=>by cases g
  KB:=λx u h=>by cases h
  wT:=iP _
  zH:=iP _
  OB:=g
  RK:=y
  xb:=rfl}⟩
def Z7 (g:d<=64) (h:f<=32):xM (S0 d f l a):=⟨aei g h,⟨.inl (.inl ⟨iP _,rfl,rfl⟩),BH.low (iP _)⟩,λx m=>by cases m⟩
def Xn:Em (S0 d f l a)<=1000:=by show([Um (.el ⟨⟨#[]⟩,[],none,[]⟩)].sum+200*0<=1000);decide
def sw (R:RC) (g h:gP) (lg:Int):RC:={R with av:=g,mv:=h,lg:=lg}
theorem TW (R:RC) (g m:gP) (lg:Int):∀(n i:Nat),R.cs.size - i<=n->tq (sw R g m lg) i=tq R i
 |0,i,h=>by
  grind[tq,sw]
 |n+1,i,h=>by
  rw[tq.eq_1 (sw R g m lg) i,tq.eq_1 R i];show(if i < R.cs.size then (if pre (R.cs.extract i R.cs.size) e1=true then i+3 else if pre (R.cs.extract i R.cs.size) e2=true then i+4 else tq (sw R g m lg) (i+1))else i)=_;split
  .rw[TW R g m lg n (i+1) (by omega)]
  .rfl
theorem O4 (R:RC) (g m:gP) (lg:Int) (a:Nat):∀(n i:Nat),R.cs.size - i<=n->pI (sw R g m lg) a i=pI R a i
 |0,i,h=>by
  grind[pI,sw]
 |n+1,i,h=>by
  rw[pI.eq_1 (sw R g m lg) a i,pI.eq_1 R a i];show(if i < R.cs.size then (if pre (R.cs.extract i R.cs.size) e1=true then R.cs.extract a i else if pre (R.cs.extract i R.cs.size) e2=true then R.cs.extract a i else pI (sw R g m lg) a (i+1))else yY (R.cs.extract a R.cs.size))=_;split
  .rw[O4 R g m lg a n (i+1) (by omega)]
  .rfl
def JY (R:RC) (g q:gP) (m:Int) (look:gz->Option gz) (lg:Nat):∀(n:Nat) (L:kY) (i:Nat),R.cs.size - i<=n->lL (sw R g q m) look lg L i=lL R look lg L i
 |0,L,i,h=>by
  have u:=sD (R:=R) (ps:=i);rw[lL.eq_1 (sw R g q m) look lg L i,lL.eq_1 R look lg L i,dif_neg (by show ¬jf R i < R.cs.size;omega),dif_neg (by omega)]
 |n+1,L,i,h=>by
  have u:=sD (R:=R) (ps:=i);rw[lL.eq_1 (sw R g q m) look lg L i,lL.eq_1 R look lg L i]
  by_cases t:jf R i < R.cs.size
  .rw[xI (show jf (sw R g q m) i < (sw R g q m).cs.size from t),xI t];have x:=wo (R:=R) (ps:=jf R i);have y:=yw (R:=R) (ps:=kj R (jf R i));have e:=JY R g q m look lg n (re R look lg L (jf R i)) (pC R (kj R (jf R i))) (by omega);show(if pre (R.cs.extract (jf R i) R.cs.size) jH=true then Hk.whole (jf R i+1) L else if zi R (L.map (·.1)) (jf R i)=true then .stop else lL (sw R g q m) look lg (re R look lg L (jf R i)) (pC R (kj R (jf R i))))=_;rw[e]
  .rw[dif_neg (show ¬jf (sw R g q m) i < (sw R g q m).cs.size from t),dif_neg t]
def Zt (R:RC) (g q:gP) (m:Int) (look:gz->Option gz) (lg h ps:Nat):mH (sw R g q m) look lg h ps=mH R look lg h ps:=by
 unfold mH;rw[JY R g q m look lg _ [] _ (ij _)];rfl
def Vx (R:RC) (g m:gP) (h:Int) (ps:Nat):nH (sw R g m h) ps=nH R ps:=by
 unfold nH;rw[TW R g m h _ ps (ij _)];rfl
def R4 (R:RC) (g m:gP) (h:Int) (ps:Nat):nU (sw R g m h) ps=nU R ps:=by
 unfold nU;rw[O4 R g m h _ _ ps (ij _)];rfl
def aaZ (R:RC) (g m:gP) (h:Int) (look:gz->Option gz) (lg q ps:Nat):qR (sw R g m h) look lg q ps=qR R look lg q ps:=by
 unfold qR;rw[JY R g m h look lg _ [] _ (ij _),Zt,Vx,R4];have e:∀O,tf (sw R g m h) .Th (yr (sw R g m h) ps) O=tf R .Th (yr R ps) O:=λO=>by rfl
 rw[e];rfl
def aa5 (R:RC) (g m:gP) (h:Int) (look:gz->Option gz) (lg ps:Nat):kT (sw R g m h) look lg ps=kT R look lg ps:=by
 unfold kT;have e:tL (sw R g m h) ps=sw (tL R ps) g m h:=rfl;rw[e,aaZ];rfl
def Mk (R:RC) (g t:gP) (q:Int) (look:gz->Option gz) (lg:Nat) (cut:Nat->Nat):∀(n ps:Nat) (σ:Ab) (L:List Sp),nL (sw R g t q) look lg cut n ps σ L=nL R look lg cut n ps σ L
 |0,_,_,_=>rfl
 |n+1,ps,σ,L=>by
  rw[nL,nL];have e:QR (sw R g t q) σ.nC σ.iZ=sw (QR R σ.nC σ.iZ) g t q:=rfl;rw[e,aa5];cases kT (QR R σ.nC σ.iZ) look lg ps with
  |stop=>rfl
  |tok k m=>
   have e2:yj (sw R g t q) σ ps (qf (cut ps) (cut m) k)=yj R σ ps (qf (cut ps) (cut m) k):=by
    unfold yj Ao
    by_cases h:ps=R.cs.size
    .rw[gF (show ps=(QR (sw R g t q) σ.nC σ.iZ).cs.size from h),gF (show ps=(QR R σ.nC σ.iZ).cs.size from h)];rfl
    .rw[gR (show ¬ps=(QR (sw R g t q) σ.nC σ.iZ).cs.size from h),gR (show ¬ps=(QR R σ.nC σ.iZ).cs.size from h)];rfl
   dsimp only;rw[e2];cases uD (hH false uI) (qf (cut ps) (cut m) k) (yj R σ ps (qf (cut ps) (cut m) k))with
   |stuck=>rfl
   |stop c p=>rfl
   |ok u σ2=>
    dsimp only;rw[Mk R g t q look lg cut n m σ2]
def Cn (d f l:Nat) (s:gz):Z5:=nL (uM s l .nilFunc 0) (pK KV) 8 (kF s) ((zI s).size+1) 0 (S0 d f l 0) []
def Ml (d f l:Nat) (s:gz) (g:gP) (b:Nat):nL (uM s l g b) (pK KV) 8 (kF s) ((zI s).size+1) 0 (S0 d f l 0) []=Cn d f l s:=
 Mk (uM s l .nilFunc 0) g (.map (some b)) 8 (pK KV) 8 (kF s) _ _ _ _
def GO (s:gz):(zI s).size<=s.size:=by rw[AP];exact GM s s.size
theorem Al:∀x t,pK KV x=some t->t.size<=16:=by
 intro x t g;unfold pK at g;obtain⟨p,h,rfl⟩:=Option.map_eq_some_iff.1 g;have:=List.all_eq_true.1 OG p (List.mem_of_find?_eq_some h)
 grind
theorem Fa (d f l:Nat) (s:gz) (t:s.size<=1024) (g:d<=64) (h:f<=32):aca (uM s l .nilFunc 0) (kF s) 0 (S0 d f l 0) (Cn d f l s):=by
 have m:=GO s;have q:=Xn (d:=d) (f:=f) (l:=l) (a:=0);refine Wv (R:=uM s l .nilFunc 0) Al (by grind[uM]) _ _ _ _ (iP _) ?_ (Z7 g h) ?_ ?_
 .simp[uM]
 .show Em _+580*((zI s).size+1 - 0) < 990000;omega
 .show 0+((zI s).size+1 - 0) < 4000;omega
def Mn (s:gz) (m:gP) (base d f l:Nat) (w:gw) (C:w.ownsRow base 5 1 m s.size (jY s)) (u:s.size<=1024) (q:d<=64) (t:f<=32) (z:l<=16) (y:xN w) (g:U2 w):
  Calls prog 22 #[m,.agg #[gp d,gp f,gp l]] w λe w'=>Hj w e w' (Cn d f l s):=by
 refine(Zj s m base d f l w C u q t z y g (λx b h=>?_)).mono ?_
 .rw[Ml]at h;have:=Fa d f l s u q t
  rwa [h]at this
 .rintro e w' ⟨x,b,h⟩
  rwa [Ml]at h
instance :XL:=⟨[]⟩
def TkN:RN->Prop
 | .Th nm L=>nm.size<=5000/\L.length<=16/\∀p∈L,p.1.size<=5000/\p.2.size<=66000
 | .fin nm L=>nm.size<=5000/\L.length<=16/\∀p∈L,p.1.size<=5000/\p.2.size<=66000
 | .Xd t=>t.size<=5000
 | .dtp nm _=>nm.size<=5000
 |_=>True
def Xk:zS->Prop
 | .stop=>True
 | .tok k _=>TkN k
def yZ (h:s.size<=1024):(oB s).size<=5000:=by have:=wu s;omega
def xx (s:gz) (a b:Nat):(s.extract a b).size<=s.size:=by simp[ByteArray.size_extract];omega
def UG (g:R.cs.size<=1024) (ps:Nat):(yr R ps).size<=5000:=yZ (by rw[sn];have:=xx R.cs ps (yq R ps);omega)
def Vn (g:R.cs.size<=1024) (ps:Nat):(AO R ps).size<=5000:=yZ (by rw[sn];have:=xx R.cs ps (kj R ps);omega)
def ada (g:R.cs.size<=1024) (ps:Nat):(R7 R ps).size<=5000:=yZ (by rw[sn];have:=xx R.cs (ZZ R ps) (FP R ps);omega)
def WW (h:∀x t,look x=some t->t.size<=16) (y:R.cs.size<=1024) (ps:Nat):(rZ look lg R ps).size<=66000:=by
 unfold rZ;split
 .have g:=wu ⟨(vj look lg (mO R (mu R (mu R ps+1)))).toArray⟩;have m:=AF (lg:=lg) h (mO R (mu R (mu R ps+1)));have q:=Cm (R:=R) (ps:=mu R (mu R ps+1));have u:(ByteArray.mk (vj look lg (mO R (mu R (mu R ps+1)))).toArray).size=(vj look lg (mO R (mu R (mu R ps+1)))).length:=by simp[ByteArray.size]
  omega
 .decide
theorem trimSuffix_le (s p:List UInt8):(Lib.trimSuffix s p).length<=s.length:=by unfold Lib.trimSuffix;grind
def L8 (s:gz):(yY s).size<=s.size:=by
 have e:∀l:List UInt8,(ByteArray.mk l.toArray).size=l.length:=λl=>by rfl
 have e1:s.size=s.data.toList.length:=Kg s;unfold yY;split
 .rw[e,e1];exact trimSuffix_le _ _
 split
 .rw[e,e1];exact trimSuffix_le _ _
 split
 .rw[e,e1];exact trimSuffix_le _ _
 simp
def O3 (R:RC) (a:Nat):∀(n i:Nat),R.cs.size - i<=n->(pI R a i).size<=R.cs.size
 |0,i,h=>by
  rw[pI.eq_1 R a i,gR (by omega)];exact jN (L8 _) (xx _ _ _)
 |n+1,i,h=>by
  rw[pI.eq_1 R a i];split
  .split
   .exact xx _ _ _
   .split
    .exact xx _ _ _
    .exact O3 R a n (i+1) (by omega)
  .exact jN (L8 _) (xx _ _ _)
def R3 (R:RC) (ps:Nat):(nU R ps).size<=R.cs.size:=by
 unfold nU;split
 .exact iP _
 split
 .exact iP _
 .exact O3 R _ _ _ (ij _)
theorem WY (h:∀x t,look x=some t->t.size<=16) (m:R.cs.size<=1024) {L : kY} (q:∀p∈L,p.1.size<=5000/\p.2.size<=66000):∀p∈re R look lg L ps,p.1.size<=5000/\p.2.size<=66000:=by
 unfold re uU;split
 .exact q
 .intro p u;rcases List.mem_append.1 u with g|g
  .grind
  .obtain rfl:=List.mem_singleton.1 g;exact⟨Vn m _,WW h m _⟩
theorem My {L : kY} (h:R.cs.size<=ps):lL R look lg L ps= .lost:=by
 have g:=sD (R:=R) (ps:=ps)
 grind[lL]
theorem abV (y:∀x t,look x=some t->t.size<=16) (E:R.cs.size<=1024) (I:R.at_<=16):∀(n:Nat) {L:kY} {ps m:Nat} {h:kY},R.cs.size - ps<=n->lL R look lg L ps= .whole m h->L.length<=16->(∀p∈L,p.1.size<=5000/\p.2.size<=66000)->h.length<=16/\∀p∈h,p.1.size<=5000/\p.2.size<=66000:=by
 intro n
 induction n with
 |zero=>
  intro L ps m h C g;rw[My (by omega)]at g;cases g
 |succ n ih=>
  intro L ps m h C g K u;have F:=sD (R:=R) (ps:=ps);rw[lL]at g;split at g
  .split at g
   .grind
   .split at g
    .cases g
    .rename_i z _ q;have G:=wo (R:=R) (ps:=jf R ps);have H:=yw (R:=R) (ps:=kj R (jf R ps))
     by_cases J:kj R (jf R ps)=R.cs.size
     .rw[My (by omega)]at g;cases g
     .refine ih (by omega) g ?_ (WY y E u);unfold zi at q;unfold re uU
      grind
  grind
theorem acJ (u:∀x t,look x=some t->t.size<=16) (z:R.cs.size<=1024) (q:R.at_<=16) {g : gz->kY->RN} (y:∀L,L.length<=16->(∀p∈L,p.1.size<=5000/\p.2.size<=66000)->TkN (g nm L)):Xk (tf R g nm (lL R look lg [] ps)):=by
 cases h:lL R look lg [] ps with
 |stop=>trivial
 |lost=>trivial
 |whole m L=>
  have:=abV u z q _ (ij _) h (iP _) (by simp)
  grind[Xk,tf]
def abM {h : Nat} (y:∀x t,look x=some t->t.size<=16) (g:R.cs.size<=1024) (u:R.at_<=16):Xk (mH R look lg h ps):=by
 unfold mH;split
 .exact acJ y g u (λL m q=>⟨UG g _,m,q⟩)
 split
 .trivial
 split
 .trivial
 .exact yZ (jN (xx _ _ _) g)
def adA {q : Nat} (m:∀x t,look x=some t->t.size<=16) (g:R.cs.size<=1024) (h:R.at_<=16):Xk (qR R look lg q ps):=by
 unfold qR;split
 .exact acJ m g h (λL u y=>⟨UG g _,u,y⟩)
 split
 .exact abM m g h
 split
 .exact yZ (jN (R3 _ _) g)
 split
 .exact ada g _
 split
 .exact yZ (jN (xx _ _ _) g)
 split
 .exact yZ (jN (xx _ _ _) g)
 .trivial
def YU (h:∀x t,look x=some t->t.size<=16) (m:R.cs.size<=1024) (g:R.at_<=16):Xk (kT R look lg ps):=by
 unfold kT;split
 .trivial
 split
 .split
  .exact adA (R:=tL R ps) h m g
  .trivial
 .unfold zj;split<;>trivial
def TkN.tg {k : RN} (h:TkN k) (a b:Nat):TG (qf a b k):=by
 cases k with
 |Th nm L=>exact⟨h.1,h.2.1,h.2.2,(λ_ h=>by cases h),(λ_ _ h=>by cases h)⟩
 |fin nm L=>exact⟨h.1,h.2.1,h.2.2,(λ_ h=>by cases h),(λ_ _ h=>by cases h)⟩
 |Xd t=>exact⟨iP _,iP _,(λ_ g=>by cases g),(λs e=>by cases e;exact h),(λ_ _ h=>by cases h)⟩
 |dtp n q=>exact⟨iP _,iP _,(λ_ g=>by cases g),(λ_ h=>by cases h),(λn q e=>by cases e;exact h)⟩
 |VM=>exact⟨iP _,iP _,(λ_ g=>by cases g),(λ_ h=>by cases h),(λ_ _ h=>by cases h)⟩
 |XR t=>exact⟨iP _,iP _,(λ_ g=>by cases g),(λ_ h=>by cases h),(λ_ _ h=>by cases h)⟩
 |lost=>exact⟨iP _,iP _,(λ_ g=>by cases g),(λ_ h=>by cases h),(λ_ _ h=>by cases h)⟩
theorem QA (C:∀x t,look x=some t->t.size<=16) (E:R.cs.size<=1024) (z:R.at_<=16):∀(n ps:Nat) (σ:Ab) (L:List Sp),NG σ->∀c p,nL R look lg cut n ps σ L= .stop c p->c≠0:=by
 intro n
 induction n with
 |zero=>simp[nL]
 |succ n ih=>
  intro ps σ L y c p h;rw[nL]at h;have q:=YU (R:=QR R σ.nC σ.iZ) (look:=look) (lg:=lg) (ps:=ps) C E z;revert h q;cases kT (QR R σ.nC σ.iZ) look lg ps with
  |stop=>grind
  |tok k m=>
   intro h q;dsimp only at h;have g:=TE uI _ (TkN.tg q (cut ps) (cut m)) (yj R σ ps (qf (cut ps) (cut m) k)) (y.lX rfl rfl);revert h g;cases uD (hH false uI) (qf (cut ps) (cut m) k) (yj R σ ps (qf (cut ps) (cut m) k))with
   |stuck=>simp
   |stop c p=>intro h g;cases h;exact g
   |ok u σ2=>
    intro h g;dsimp only at h;split at h
    .cases h
    .exact ih _ _ _ g _ _ h
def Wu (F:∀x t,look x=some t->t.size<=16) (G:R.cs.size<=1024) (E:R.at_<=16):∀(n ps:Nat) (σ:Ab) (L:List Sp),NG σ->∀g C,nL R look lg cut n ps σ L= .done g C->NG g:=by
 intro n
 induction n with
 |zero=>simp[nL]
 |succ n ih=>
  intro ps σ L z g C h;rw[nL]at h;have y:=YU (R:=QR R σ.nC σ.iZ) (look:=look) (lg:=lg) (ps:=ps) F G E;revert h y;cases kT (QR R σ.nC σ.iZ) look lg ps with
  |stop=>simp
  |tok k m=>
   intro h y;dsimp only at h;have q:=TE uI _ (TkN.tg y (cut ps) (cut m)) (yj R σ ps (qf (cut ps) (cut m) k)) (z.lX rfl rfl);revert h q;cases uD (hH false uI) (qf (cut ps) (cut m) k) (yj R σ ps (qf (cut ps) (cut m) k))with
   |stuck=>simp
   |stop c p=>simp
   |ok u σ2=>
    intro h q;dsimp only at h;split at h
    .cases h;exact q
    .exact ih _ _ _ q _ _ h
def acb (h:l<=16):NG (S0 d f l a):=⟨h,λn m=>by
 have e:n= .el ⟨⟨#[]⟩,[],none,[]⟩:=by
  have:n∈[Bj.el ⟨⟨#[]⟩,[],none,[]⟩]:=m;exact List.mem_singleton.1 this
 rw[e];exact⟨by decide,by decide,λ_ q=>by cases q⟩,λi e g _=> .inl (by have:=Ab.il g;simp[S0]at this;omega)⟩
theorem Mm (d f l:Nat) (s:gz) (q:s.size<=1024) (m:l<=16) {g : Ab} (h:Cn d f l s= .done g L):NG g:=
 Wu (R:=uM s l .nilFunc 0) Al (by have:=GO s;grind[uM]) (by grind[uM]) _ _ _ _ (acb m) _ _ h
theorem QB (d f l:Nat) (s:gz) (m:s.size<=1024) (g:l<=16) (h:Cn d f l s= .stop c p):c≠0:=
 QA (R:=uM s l .nilFunc 0) Al (by have:=GO s;grind[uM]) (by grind[uM]) _ _ _ _ (acb g) _ _ h
def EQ:Tn:= .tx ⟨#[]⟩
def Db (σ:Ab):Nat->Nd->Tn
 |0,_=>EQ
 |k+1,.el i=>match σ.ib i with
  |some e=> .el e.name e.gV (e.kids.map (Db σ k))
  |none=>EQ
 |_+1,.tx i=>match σ.nodes[i]? with
  |some (.tx s)=> .tx s
  |_=>EQ
 |_+1,.cm i=>match σ.nodes[i]? with
  |some (.cm s)=> .cm s
  |_=>EQ
 |_+1,.dt i=>match σ.nodes[i]? with
  |some (.dt s)=> .dt s
  |_=>EQ
def PO (g:Nd->Tn) (f:Nd->Nd):∀m:List Nd,(∀k∈m,jI w (g k) (f k))->qH w (m.map g) (m.map f)
 |[],_=>by simp[qH]
 |k::m,h=>by
  simp only[yy,qH];exact⟨h k (pP ..),PO g f m (λx q=>h x (oX _ q))⟩
theorem Ue {E : Env} {L : Loc} (h:Rel E L σ w) (m:jw r σ) (q:∀i,i < σ.nodes.length->r i<=B):∀(k:Nat) (g:Nd),σ.ji g=true->(∀i,g= .el i->B - r i+1 < k)->1<=k->jI w (Db σ k g) (Nd.map L.gQ g)
 |0,_,_,_,h1=>absurd h1 (by omega)
 |k+1,.el i,hk,hi,_=>by
  have⟨e,he⟩:=Option.isSome_iff_exists.1 (show(σ.ib i).isSome=true from hk);have⟨a1,a2,a3⟩:=h.sL i _ (Ab.jo he);have C:=hi i rfl;show jI w (match σ.ib i with|some e=> .el e.name e.gV (e.kids.map (Db σ k))|none=>EQ) (.el (L.gQ i))
  rw[he];simp only[jI];refine⟨_,_,_,_,⟨a1.iw,jV a1.row (iP _),a1.le,a1.TM⟩,a2,a3,?_⟩;refine PO (Db σ k) (Nd.map L.gQ) e.kids ?_;intro x t;refine Ue h m q k x (m.nM.kd i e he x t) ?_ (by omega);intro j u;subst u;have⟨ej,g1,g2⟩:=m.nM.dn i e j he (vM.2 t);have y:=m.sY.je j ej i g1 g2;have z:=q j (Ab.il g1);omega
 |k+1,.tx i,hk,_,_=>by
  unfold Ab.ji at hk;show jI w (match σ.nodes[i]? with|some (.tx s)=> .tx s|_=>EQ) (.tx (L.gQ i))
  cases hq:σ.nodes[i]? with
  |none=>grind
  |some g=>
   cases g with
   |tx s=>simp only[jI];exact h.sL i _ hq
   |el e=>grind
   |cm s=>grind
   |dt s=>grind
 |k+1,.cm i,hk,_,_=>by
  unfold Ab.ji at hk;show jI w (match σ.nodes[i]? with|some (.cm s)=> .cm s|_=>EQ) (.cm (L.gQ i))
  cases hq:σ.nodes[i]? with
  |none=>grind
  |some g=>
   cases g with
   |cm s=>simp only[jI];exact h.sL i _ hq
   |el e=>grind
   |tx s=>grind
   |dt s=>grind
 |k+1,.dt i,hk,_,_=>by
  unfold Ab.ji at hk;show jI w (match σ.nodes[i]? with|some (.dt s)=> .dt s|_=>EQ) (.dt (L.gQ i))
  cases hq:σ.nodes[i]? with
  |none=>grind
  |some g=>
   cases g with
   |dt s=>simp only[jI];exact h.sL i _ hq
   |el e=>grind
   |tx s=>grind
   |cm s=>grind
def NV:Ev->Bool
 | .dt s=>decide (s.size<=5000)
 | .cm s=>decide (s.size<=5000)
 | .tx s=>decide (s.size<=1048576)
 | .enter s gM=>decide (gM.length<=16)&&(gM.all λa=>decide (a.1.size<=5000)&&decide (a.2.size<=66000))&&decide (s.size<=5000)
 | .wm s=>decide (s.size<=5000)
def wgU:Ev->Nat
 | .tx s=>240*s.size
 | .enter _ _=>6000+16*6000000
 |_=>6000
def Kc (g:List Ev):Nat:=(g.map wgU).sum
attribute [local go_sem] Oper.semAt_some
def ZW (w:gw) (g:Nat) (c:jO) (k:Nat):Prop:=w.heap[g]?=some (gJ c 61)/\c[8]?=some (gL k)
def ZW.kept {g : Nat} {c : jO} (h:ZW w g c k) (m:Kept [] w w'):ZW w' g c k:=⟨m.at h.1 (by simp),h.2⟩
def ZW.xb {g : Nat} {c : jO} (h:ZW w g c k):w.cell? ⟨g,8,none⟩=some (gL k):=by rw[fX h.1,h.2]
def PF (w:gw) (g k:Nat) (c:jO) (h:ZW w g c k):
  Calls prog 23 #[gL g] w λe w'=>e=ir (.bool true)/\w'=w:=by
 have q:=h.xb;have m:=jn h.1;go_enter func23,ntmps23;go_wp2;go_ret;simp
def EK (w:gw) (h:Nat):
  Calls prog 12 #[gL h] w λe w'=>e=ir (.func (.func 17) #[gL h] #[])/\w'=w:=by
 have q:∀(m:Fn) (first g:jO) (w:gw),(Instr.makeFunc m first g).run prog w= .ok (.func m first g) w:=λ_ _ _ _=>rfl;go_enter func12,ntmps12;go_wp2;go_ret;simp
def aaW (l k:Nat) (q:gz) (gM:kY) (x:List Tn) (y:gw) (h:jI y (.el q gM x) (.el k)) (J:List It->gw->Prop) (m:gw->Prop) (I:Xl l (jJ (ve (λ_=>false) x)) y J m) (E:∀pre W g,J pre W->Kept [] W g->J pre g) (t:∀W g,m W->Kept [] W g->m g) (W:gw) (u:∀V b,W.heap.size<=b->Wk V b l false->m V->m (V.setCell ⟨b,1,none⟩ (.bool true))) (z:Kept [] y W) (H:J [] W):
  Calls prog 24 #[gL k,.func (.yield l) #[] #[]] W λe g=>e=p8/\(J (jJ (ve (λ_=>false) x)) g\/m g)/\Kept [] y g:=by
 have F:=(Kept.refl [] W).alloc (gJ #[.func (.yield l) #[] #[],.bool false] 110);have P:=fZ W (gJ #[.func (.yield l) #[] #[],.bool false] 110);have C:=fW (Fo (Tv l W.heap.size _ y J m I z.size (λV=>u V _ (ij _)) E t) k q gM x h rfl _ (z.trans F) (.inl ⟨E _ _ _ H F,P⟩));clear h I E t u z H F P;generalize jJ (ve (λ_=>false) x)=U at C|-;go_enter func24,ntmps24;go_wp2_with fail;refine C.out.mono ?_;rintro e G ⟨rfl,K,O⟩;have Q:=fW (show J U G\/m G from K.imp And.left And.left);have T:=fW O;clear K O;go_wp2;go_end0;exact⟨rfl,Q.out,T.out⟩
def UN (l E k:Nat) (c:jO) (m:gz) (gM:kY) (z:List Tn) (t:gw) (C:ZW t E c k) (h:jI t (.el m gM z) (.el k)) (J:List It->gw->Prop) (q:gw->Prop) (H:Xl l (jJ (ve (λ_=>false) z)) t J q) (O:∀pre W g,J pre W->Kept [] W g->J pre g) (x:∀W g,q W->Kept [] W g->q g) (W:gw) (y:∀V b,W.heap.size<=b->Wk V b l false->q V->q (V.setCell ⟨b,1,none⟩ (.bool true))) (u:Kept [] t W) (G:J [] W):
  Calls prog 17 #[gL E,.func (.yield l) #[] #[]] W λe g=>e=p8/\(J (jJ (ve (λ_=>false) z)) g\/q g)/\Kept [] t g:=by
 have P:=fW (PF W E k c (C.kept u));have F:=fW (aaW l k m gM z t h J q H O x W y u G);have c8:=(C.kept u).xb;have U:=jn (C.kept u).1;clear C h H O x y u G;generalize J (jJ (ve (λ_=>false) z))=X at F|-;go_enter func17,ntmps17;go_wp2_with fail;refine P.out.mono ?_;rintro e Y ⟨rfl,rfl⟩;go_wp2_with fail;refine F.out.mono ?_;rintro e Z ⟨rfl,I,K⟩;have Q:=fW I;have T:=fW K;clear I K;go_wp2;go_end0;exact⟨rfl,Q.out,T.out⟩
mutual
def JT:Tn->Nat
 | .el _ _ ks=>1+szS ks
 | .tx _=>1
 | .cm _=>1
 | .dt _=>1
def szS:List Tn->Nat
 |[]=>0
 |t::ts=>JT t+szS ts
end
def rO (σ:Ab):Nat->Nd->List Nat
 |0,_=>[]
 |k+1,.el i=>i::(match σ.ib i with
  |some e=>e.kids.flatMap (rO σ k)
  |none=>[])
 |_+1,_=>[]
def kl (σ:Ab) (i:Nat):Nat:=match σ.ib i with
 |some e=>e.kids.length
 |none=>0
theorem UF (f:Nd->Tn) (g:Nd->List Nat) (h:Nat->Nat):∀m:List Nd,(∀k∈m,JT (f k)<=1+((g k).map h).sum)->szS (m.map f)<=m.length+((m.flatMap g).map h).sum
 |[],_=>by simp[szS]
 |k::m,hk=>by
  have t:=hk k (pP ..);have u:=UF f g h m (λx q=>hk x (oX _ q))
  grind[szS]
theorem Zz (σ:Ab):∀(k:Nat) (g:Nd),JT (Db σ k g)<=1+((rO σ k g).map (kl σ)).sum
 |0,g=>by
  have e:Db σ 0 g=EQ:=by cases g<;>rfl
  rw[e];simp[EQ,JT]
 |k+1,.el i=>by
  show JT (match σ.ib i with|some e=> .el e.name e.gV (e.kids.map (Db σ k))|none=>EQ)<=1+((i::(match σ.ib i with|some e=>e.kids.flatMap (rO σ k)|none=>[])).map (kl σ)).sum
  cases he:σ.ib i with
  |none=>simp[EQ,JT]
  |some e=>
   have h:=UF (Db σ k) (rO σ k) (kl σ) e.kids (λx _=>Zz σ k x);have m:kl σ i=e.kids.length:=by unfold kl;rw[he]
   grind[JT]
 |k+1,.tx i=>by
  show JT (match σ.nodes[i]? with|some (.tx s)=> .tx s|_=>EQ)<=_
  split<;>simp[EQ,JT]
 |k+1,.cm i=>by
  show JT (match σ.nodes[i]? with|some (.cm s)=> .cm s|_=>EQ)<=_
  split<;>simp[EQ,JT]
 |k+1,.dt i=>by
  show JT (match σ.nodes[i]? with|some (.dt s)=> .dt s|_=>EQ)<=_
  split<;>simp[EQ,JT]
def Bg (σ:Ab) (j:Nat):jg:=(σ.ib j).bind (·.je)
def Ou (σ:Ab):Nat->Nat->jg
 |0,j=>some j
 |n+1,j=>(Ou σ n j).bind (Bg σ)
def UL (σ:Ab) (n j:Nat):∀d,Ou σ (n+d) j=(Ou σ n j).bind (Ou σ d)
 |0=>by simp[Ou]
 |d+1=>by
  show(Ou σ (n+d) j).bind (Bg σ)=_;rw[UL σ n j d];cases Ou σ n j<;>simp[Ou]
theorem Jp (g:jw r σ) (h:Bg σ j=some p):r p < r j:=by
 unfold Bg at h;cases he:σ.ib j with
 |none=>grind
 |some e=>rw[he]at h;exact g.sY.je j e p he h
theorem J7 (m:jw r σ):∀(n j i:Nat),Ou σ n j=some i->r i<=r j
 |0,j,i,h=>by cases h;simp
 |n+1,j,i,h=>by
  have g:(Ou σ n j).bind (Bg σ)=some i:=h;cases hq:Ou σ n j with
  |none=>grind
  |some q=>
   rw[hq]at g;have t:=J7 m n j q hq;have u:=Jp m (show Bg σ q=some i from g);omega
theorem Hd (m:jw r σ):∀(k:Nat) (i j:Nat),j∈rO σ k (.el i)->∃n,Ou σ n j=some i
 |0,i,j,h=>by cases h
 |k+1,i,j,h=>by
  have q:j∈i::(match σ.ib i with|some e=>e.kids.flatMap (rO σ k)|none=>[]):=h
  rcases List.mem_cons.1 q with rfl|g
  .exact⟨0,rfl⟩
  .cases he:σ.ib i with
   |none=>grind
   |some e=>
    rw[he]at g;have⟨x,hx,hj⟩:=List.mem_flatMap.1 g;cases x with
    |el c=>
     have⟨n,hn⟩:=Hd m k c j hj;have⟨ej,g1,g2⟩:=m.nM.dn i e c he (vM.2 hx);refine⟨n+1,?_⟩;show(Ou σ n j).bind (Bg σ)=some i
     grind[Bg]
    |tx c=>cases k<;>cases hj
    |cm c=>cases k<;>cases hj
    |dt c=>cases k<;>cases hj
theorem ab3 (t:jw r σ) {m : Nat} (h:Ou σ n j=some c) (g:Ou σ m j=some d) (u:Bg σ c=some i) (x:Bg σ d=some i):c=d:=by
 have z:∀{n m c d:Nat},n < m->Ou σ n j=some c->Ou σ m j=some d->Bg σ c=some i->Bg σ d=some i->False:=by
  intro n m c d y h g u x;obtain⟨q,rfl⟩:∃q,m=(n+1)+q:=⟨m - (n+1),by omega⟩;rw[UL]at g;have e:Ou σ (n+1) j=some i:=by
   show(Ou σ n j).bind (Bg σ)=some i;rw[h];exact u
  rw[e]at g;have C:=J7 t q i d g;have E:=Jp t x;omega
 grind
def Ac (σ:Ab) (k:Nat):∀g:List Nd,g.flatMap (rO σ k)=(iJ g).flatMap (λc=>rO σ k (.el c))
 |[]=>rfl
 | .el c::g=>by simp only[Fw,iJ];rw[Ac σ k g]
 | .tx c::g=>by
  have e:rO σ k (.tx c)=[]:=by cases k<;>rfl
  simp only[Fw,iJ,e,rQ];exact Ac σ k g
 | .cm c::g=>by
  have e:rO σ k (.cm c)=[]:=by cases k<;>rfl
  simp only[Fw,iJ,e,rQ];exact Ac σ k g
 | .dt c::g=>by
  have e:rO σ k (.dt c)=[]:=by cases k<;>rfl
  simp only[Fw,iJ,e,rQ];exact Ac σ k g
theorem IC (h:jw r σ) (k:Nat) (u:∀c,(rO σ k (.el c)).Nodup):∀g:List Nat,g.Nodup->(∀c∈g,Bg σ c=some i)->(g.flatMap (λc=>rO σ k (.el c))).Nodup
 |[],_,_=>List.nodup_nil
 |c::g,hn,hp=>by
  rw[Fw];rw[Gs]at hn;refine List.nodup_append.2 ⟨u c,IC h k u g hn.2 (λd q=>hp d (oX _ q)),?_⟩;intro j x y t e;subst e;have⟨d,q,hjd⟩:=List.mem_flatMap.1 t;have⟨n,h1⟩:=Hd h k c j x;have⟨m,h2⟩:=Hd h k d j hjd;have e:=ab3 h h1 h2 (hp c (pP ..)) (hp d (oX _ q))
  grind
def J3 (g:jw r σ):∀(k i:Nat),(rO σ k (.el i)).Nodup
 |0,i=>List.nodup_nil
 |k+1,i=>by
  show(i::(match σ.ib i with|some e=>e.kids.flatMap (rO σ k)|none=>[])).Nodup
  cases he:σ.ib i with
  |none=>simp
  |some e=>
   have m:∀c∈iJ e.kids,Bg σ c=some i:=by
    intro c h;have⟨ej,g1,g2⟩:=g.nM.dn i e c he h;unfold Bg;rw[g1];exact g2
   dsimp only;rw[Ac];refine List.nodup_cons.2 ⟨?_,IC g k (λc=>J3 g k c) _ (g.nM.nd i e he) m⟩;intro q;have⟨c,h,hj⟩:=List.mem_flatMap.1 q;have⟨n,h1⟩:=Hd g k c i hj;have t:=J7 g n i c h1;have u:=Jp g (m c h);omega
theorem Mw:∀(l:List Nat) (L:List Nat),l.Nodup->(l.map (λi=>L.getD i 0)).sum<=L.sum
 |[],_,_=>by simp
 |i::l,L,hn=>by
  rw[Gs]at hn;have m:=Mw l (L.set i 0) hn.2;have e:l.map (λj=>(L.set i 0).getD j 0)=l.map (λj=>L.getD j 0):=by
   apply U0;intro j q;have g:i≠j:=λe=>hn.1 (e▸q);simp[xo,List.getElem?_set,g]
  rw[e]at m;rw[yy,List.sum_cons]
  by_cases h:i < L.length
  .have t:=Ok L i L[i] 0 (by simp)
   grind
  .have u:L.getD i 0=0:=by simp[xo,ZT (Nat.le_of_not_lt h)]
   have x:L.set i 0=L:=List.set_eq_of_length_le (Nat.le_of_not_lt h)
   grind
theorem Q5 (f g:Nat->Nat) (h:∀i,f i<=g i):∀l:List Nat,(l.map f).sum<=(l.map g).sum
 |[]=>by simp
 |i::l=>by
  have:=h i;have:=Q5 f g h l
  grind
theorem aeD {l : List Nat} (h:l.Nodup):(l.map (kl σ)).sum<=wt σ:=by
 refine jN (Q5 (kl σ) (λi=>(σ.nodes.map Um).getD i 0) (λi=>?_) l) (Mw l _ h);unfold kl;split
 .rename_i e g;have m:=Ab.jo g
  grind[Um]
 simp
def adW (g:mL σ) (k i:Nat):JT (Db σ k (.el i))<=1+wt σ:=by
 have⟨r,hr⟩:=g;have h:=Zz σ k (.el i);have m:=aeD (σ:=σ) (J3 hr k i);omega
mutual
def TnG (B:Nat):Tn->Prop
 | .el name gM ks=>name.size<=5000/\gM.length<=16/\(∀p∈gM,p.1.size<=5000/\p.2.size<=66000)/\TsG B ks
 | .tx s=>s.size<=B
 | .cm s=>s.size<=5000
 | .dt s=>s.size<=5000
def TsG (B:Nat):List Tn->Prop
 |[]=>True
 |t::ts=>TnG B t/\TsG B ts
end
def UJ (f:Nd->Tn):∀g:List Nd,(∀k∈g,TnG B (f k))->TsG B (g.map f)
 |[],_=>trivial
 |k::g,h=>⟨h k (pP ..),UJ f g (λx m=>h x (oX _ m))⟩
def acK (h:NG σ):∀(k:Nat) (m:Nd),TnG (wt σ) (Db σ k m)
 |0,m=>by
  have e:Db σ 0 m=EQ:=by cases m<;>rfl
  rw[e];exact iP _
 |k+1,.el i=>by
  show TnG (wt σ) (match σ.ib i with|some e=> .el e.name e.gV (e.kids.map (Db σ k))|none=>EQ)
  cases he:σ.ib i with
  |none=>exact iP _
  |some e=>
   obtain⟨q,t,u⟩:=h.el he;exact⟨q,t,u,UJ _ _ (λx _=>acK h k x)⟩
 |k+1,.tx i=>by
  show TnG (wt σ) (match σ.nodes[i]? with|some (.tx s)=> .tx s|_=>EQ)
  split
  .rename_i s g;exact ZJ g
  .exact iP _
 |k+1,.cm i=>by
  show TnG (wt σ) (match σ.nodes[i]? with|some (.cm s)=> .cm s|_=>EQ)
  split
  .rename_i s g;exact h.2.1 _ (tu g)
  .exact iP _
 |k+1,.dt i=>by
  show TnG (wt σ) (match σ.nodes[i]? with|some (.dt s)=> .dt s|_=>EQ)
  split
  .rename_i s g;exact h.2.1 _ (tu g)
  .exact iP _
mutual
theorem adg (u:B<=595500) (g:gz->Bool):∀t:Tn,TnG B t->(∀e∈C9 g t,NV e=true)/\Kc (C9 g t)<=143000000*JT t/\(jJ (C9 g t)).length<=18*JT t
 | .el name gM ks,h=>by
  have⟨h1,h2,h3,h4⟩:=h;have⟨g1,g2,g3⟩:=Sm u g ks h4;have x:NV (.enter name gM)=true:=by
   simp only[NV,rR,MC,RD];exact⟨⟨h2,h3⟩,h1⟩
  have y:NV (.wm name)=true:=by simpa [NV]using h1
  unfold C9 JT;split
  .refine⟨λe m=>?_,?_,?_⟩
   .grind
   .simp[Kc,wgU];omega
   .simp[jJ,qQ];omega
  .refine⟨λe m=>?_,?_,?_⟩
   .grind
   .have e:Kc (.enter name gM::(ve g ks++[.wm name]))=(6000+16*6000000)+(Kc (ve g ks)+6000):=by simp[Kc,wgU]
    omega
   .have e:(jJ (.enter name gM::(ve g ks++[.wm name]))).length=(1+gM.length)+((jJ (ve g ks)).length+1):=by simp[jJ,qQ];omega
    omega
 | .tx s,h=>by
  have q:s.size<=B:=h;refine⟨λe m=>?_,?_,?_⟩
  .rw[List.mem_singleton.1 m];simp[NV];omega
  .simp[C9,Kc,wgU,JT];omega
  .simp[C9,jJ,qQ,JT]
 | .cm s,h=>by
  have q:s.size<=5000:=h;refine⟨λe m=>?_,?_,?_⟩
  .rw[List.mem_singleton.1 m];simp[NV];omega
  .simp[C9,Kc,wgU,JT]
  .simp[C9,jJ,qQ,JT]
 | .dt s,h=>by
  have q:s.size<=5000:=h;refine⟨λe m=>?_,?_,?_⟩
  .rw[List.mem_singleton.1 m];simp[NV];omega
  .simp[C9,Kc,wgU,JT]
  .simp[C9,jJ,qQ,JT]
theorem Sm (q:B<=595500) (m:gz->Bool):∀g:List Tn,TsG B g->(∀e∈ve m g,NV e=true)/\Kc (ve m g)<=143000000*szS g/\(jJ (ve m g)).length<=18*szS g
 |[],_=>⟨(λe u=>by cases u),(by simp[ve,Kc]),(by simp[ve,jJ])⟩
 |t::g,h=>by
  have⟨a1,a2,a3⟩:=adg q m t h.1;have⟨b1,b2,b3⟩:=Sm q m g h.2;unfold ve szS;refine⟨λe u=>?_,?_,?_⟩
  .grind
  .grind[Kc]
  grind[jJ]
end
def Rk {q : zp} (u:σ.ib p=some q) (t:i∈iJ q.kids):∀(k a:Nat),p∈rO σ k (.el a)->i∈rO σ (k+1) (.el a)
 |0,_,h=>by cases h
 |k+1,a,h=>by
  have y:p∈a::(match σ.ib a with|some e=>e.kids.flatMap (rO σ k)|none=>[]):=h
  show i∈a::(match σ.ib a with|some e=>e.kids.flatMap (rO σ (k+1))|none=>[])
  rcases List.mem_cons.1 y with rfl|g
  .rw[u];refine oX _ (List.mem_flatMap.2 ⟨.el i,vM.1 t,?_⟩);exact pP ..
  .cases he:σ.ib a with
   |none=>rw[he]at g;cases g
   |some e=>
    rw[he]at g;obtain⟨x,z,m⟩:=List.mem_flatMap.1 g;refine oX _ (List.mem_flatMap.2 ⟨x,z,?_⟩);cases x with
    |el c=>exact Rk u t k c m
    |tx c=>cases k<;>cases m
    |cm c=>cases k<;>cases m
    |dt c=>cases k<;>cases m
def Ri (g:jw r σ) (t:∀i e,σ.ib i=some e->e.je=none->i=0):∀(n i:Nat) (e:zp),σ.ib i=some e->r i < n->∃d,d<=r i/\∀k,d < k->i∈rO σ k (.el 0)
 |0,_,_,_,h=>absurd h (by omega)
 |n+1,i,e,he,hn=>by
  cases hp:e.je with
  |none=>
   have:=t i e he hp;subst this;refine⟨0,iP _,λk z=>?_⟩;obtain⟨k,rfl⟩:∃q,k=q+1:=⟨k - 1,by omega⟩;exact pP ..
  |some p=>
   have C:=g.sY.je i e p he hp;obtain⟨u,m,x⟩:=g.nM.up i e p he hp;obtain⟨d,E,y⟩:=Ri g t n p u m (by omega);refine⟨d+1,by omega,λk z=>?_⟩;obtain⟨k,rfl⟩:∃q,k=q+1:=⟨k - 1,by omega⟩;exact Rk m x k 0 (y k (by omega))
def SA (f:Nd->Tn) (g:Nd->List Nat):∀m:List Nd,(∀x∈m,2*(g x).length<=(jJ (C9 (λ_=>false) (f x))).length)->2*(m.flatMap g).length<=(jJ (ve (λ_=>false) (m.map f))).length
 |[],_=>by simp
 |x::m,h=>by
  have t:=h x (pP ..);have u:=SA f g m (λy q=>h y (oX _ q));simp only[Fw,yy,ve,Bv,p6];omega
def acq (m:jw r σ):∀(k:Nat) (g:Nd),σ.ji g=true->2*(rO σ k g).length<=(jJ (C9 (λ_=>false) (Db σ k g))).length
 |0,g,_=>by
  have e:rO σ 0 g=[]:=by cases g<;>rfl
  rw[e];exact iP _
 |k+1,.el i,hk=>by
  obtain⟨e,h⟩:=Option.isSome_iff_exists.1 (show(σ.ib i).isSome=true from hk);have t:=SA (Db σ k) (rO σ k) e.kids (λx q=>acq m k x (m.nM.kd i e h x q));show 2*(i::(match σ.ib i with|some e=>e.kids.flatMap (rO σ k)|none=>[])).length<=(jJ (C9 _ (match σ.ib i with|some e=>Tn.el e.name e.gV (e.kids.map (Db σ k))|none=>EQ))).length
  rw[h];have e2:jJ (C9 (λ_=>false) (Tn.el e.name e.gV (e.kids.map (Db σ k))))=qQ (.enter e.name e.gV)++(jJ (ve (λ_=>false) (e.kids.map (Db σ k)))++qQ (.wm e.name)):=by simp[C9,jJ]
  dsimp only;rw[e2];simp only[p6,qd,qQ,uQ];omega
 |k+1,.tx i,_=>iP _
 |k+1,.cm i,_=>iP _
 |k+1,.dt i,_=>iP _
def WB (m:jw r σ) (I:∀i e,σ.ib i=some e->e.je=none->i=0) (E:(σ.ib a).isSome=true) (F:(σ.ib b).isSome=true) (G:(σ.ib c).isSome=true) (O:[0,a,b,c].Nodup) {K : Nat} (u:r a<=K/\r b<=K/\r c<=K) {gM : kY} {T : List Tn} (C:Db σ (K+1) (.el 0)= .el nm gM T):6<=(jJ (ve (λ_=>false) T)).length:=by
 have g:∀i,(σ.ib i).isSome=true->r i<=K->i∈rO σ (K+1) (.el 0):=by
  intro i J Q;obtain⟨e,h⟩:=Option.isSome_iff_exists.1 J;obtain⟨d,y,t⟩:=Ri m I (r i+1) i e h (by omega);exact t _ (by omega)
 have H:0∈rO σ (K+1) (.el 0):=pP ..;have z:4<=(rO σ (K+1) (.el 0)).length:=by
  have:=List.Nodup.length_le_of_subset O (l₂:=rO σ (K+1) (.el 0)) (by
   intro x q;simp only[uS,qC,rF]at q;rcases q with rfl|rfl|rfl|rfl
   .exact H
   .exact g _ E u.1
   .exact g _ F u.2.1
   .exact g _ G u.2.2)
  simpa using this
 obtain⟨e,h⟩:=Option.isSome_iff_exists.1 m.xb;have y:Db σ (K+1) (.el 0)= .el e.name e.gV (e.kids.map (Db σ K)):=by
  show(match σ.ib 0 with|some e=>Tn.el e.name e.gV (e.kids.map (Db σ K))|none=>EQ)=_
  rw[h]
 have t:rO σ (K+1) (.el 0)=0::e.kids.flatMap (rO σ K):=by
  show 0::(match σ.ib 0 with|some e=>e.kids.flatMap (rO σ K)|none=>[])=_
  rw[h]
 rw[y]at C;cases C;have P:=SA (Db σ K) (rO σ K) e.kids (λx q=>acq m K x (m.nM.kd 0 e h x q));rw[t]at z;simp only[qd]at z;omega
def iV.ne {t : gz} (h:iV σ i s) (k:iV σ j t) (g:s≠t):i≠j:=by
 rintro rfl;obtain⟨e,q,u⟩:=h;obtain⟨y,m,x⟩:=k;rw[q]at m;cases m;exact g (u.symm.trans x)
def iV.some (h:iV σ i s):(σ.ib i).isSome=true:=by
 obtain⟨e,g,_⟩:=h;rw[g];rfl
def adU (d f l:Nat) (s:gz) (U:s.size<=1024) (Y:d<=64) (hf:f<=32) (hl:l<=16) {m : Ab} (h:Cn d f l s= .done m L) (Q:jw r m) {K : Nat} (I:∀i,i < m.nodes.length->r i<=K) {gM : kY} {T : List Tn} (X:Db m (K+1) (.el 0)= .el nm gM T):6<=(jJ (ve (λ_=>false) T)).length:=by
 have E:=Fa d f l s U Y hf;rw[h]at E;obtain⟨g,_,_,_,_,G,hn⟩:=E;have O:=Mm d f l s U hl h;obtain⟨⟨a,u⟩,b,z⟩:=g.ms.2 G;have H:iV m 0 ⟨#[]⟩:=hn 0 ⟨#[]⟩ ⟨_,rfl,rfl⟩;have J:m.gA≠[]:=by
  rcases g.ms.1 with q|⟨_,_,q,_⟩|⟨_,_,q⟩
  .rcases q with⟨h2,_⟩|⟨_,x,t⟩|⟨_,x,y,t,_⟩|⟨_,x,y,t,_⟩|⟨_,t⟩
   .rcases G with G|⟨G,_⟩<;>omega
   all_goals first|exact t|(rw[t];simp)
  .intro e;rw[e]at q;simp at q
  .exact q
 obtain⟨x,F,e⟩:=List.exists_cons_of_ne_nil J;obtain⟨c,rfl,C⟩:=Q.KB x F e;have P:∀{i s},iV m i s->i < m.nodes.length:=λh=>by obtain⟨e,q,_⟩:=h;exact Ab.il q
 refine WB Q (λi e Z hp=>(O.2.2 i e Z hp).elim id (λh=>by cases h)) C.some u.some z.some ?_ ⟨I _ (P C),I _ (P u),I _ (P z)⟩ X;have n1:kJ≠fY:=by decide+kernel
 simp only[Gs,uS,qC,rF,not_or,List.nodup_nil,not_false_eq_true,and_true];exact⟨⟨H.ne C (by decide+kernel),H.ne u (by decide+kernel),H.ne z (by decide+kernel)⟩,⟨C.ne u (by decide+kernel),C.ne z (by decide+kernel)⟩,u.ne z (by decide+kernel)⟩
def KN (w w':gw):Prop:=∀(k:Nat) (c:jO) (t:TypeId),w.heap[k]?=some (gJ c t)->t∈TB->w'.heap[k]?=some (gJ c t)
def KN.jT (h:Kept S w w') (m:∀k∈S,∀c t,w.heap[k]?=some (gJ c t)->t∉TB):KN w w':=λk c t g u=>h.at g (λq=>m k q c t g u)
theorem KN.row (h:KN w w') {m : Nat} (u:w.ownsRow base e m v n xs) (z:e∈TB):w'.ownsRow base e m v n xs:=by
 refine⟨u.1,?_⟩;rcases u.2 with e1|⟨g,q,t,e1,x,y,r⟩
 .grind
 .exact .inr ⟨g,q,t,e1,x,h g _ _ y z,r⟩
mutual
theorem jI.kn (g:KN w w'):∀{t:Tn} {n:Nd},jI w t n->jI w' t n
 | .el name gM ks,.el k,h=>by
  unfold jI at h|-;have⟨av,je,kv,ns,h1,h2,h3,h4⟩:=h;exact⟨av,je,kv,ns,⟨g _ _ _ h1.iw (by decide),g.row h1.row (by decide),h1.le,h1.TM⟩,g.row h2 (by decide),h3,qH.kn g h4⟩
 | .tx _,.tx _,h=>by unfold jI at h|-;exact g _ _ _ h (by decide)
 | .cm _,.cm _,h=>by unfold jI at h|-;exact g _ _ _ h (by decide)
 | .dt _,.dt _,h=>by unfold jI at h|-;exact g _ _ _ h (by decide)
 | .el _ _ _,.tx _,h=>by grind[jI]
 | .el _ _ _,.cm _,h=>by grind[jI]
 | .el _ _ _,.dt _,h=>by grind[jI]
 | .tx _,.el _,h=>by grind[jI]
 | .tx _,.cm _,h=>by grind[jI]
 | .tx _,.dt _,h=>by grind[jI]
 | .cm _,.el _,h=>by grind[jI]
 | .cm _,.tx _,h=>by grind[jI]
 | .cm _,.dt _,h=>by grind[jI]
 | .dt _,.el _,h=>by grind[jI]
 | .dt _,.tx _,h=>by grind[jI]
 | .dt _,.cm _,h=>by grind[jI]
theorem qH.kn (q:KN w w'):∀{m:List Tn} {g:List Nd},qH w m g->qH w' m g
 |[],[],_=>by simp[qH]
 |t::m,n::g,h=>by
  unfold qH at h|-;exact⟨jI.kn q h.1,qH.kn q h.2⟩
 |[],_::_,h=>by grind[qH]
 |_::_,[],h=>by grind[qH]
end
def SR (d f l:Int) (n:Nat) (v:gP) (k:Nat):jO:=#[gp d,gp f,gp l,jX,.bool true,gp n,.nilIface,v,gL k]
def ace (w:gw) (D:Tn) (L:List Sp) (e:Ending) (w':gw):Prop:=
 ∃v k,e=ir (.tuple #[.agg #[v,gL k],.pointer none])/\jI w' D (.el k)/\w'.ownsRow w.heap.size 106 3 v L.length (ox L)/\L.length<=1024/\Kept [] w w'
def MH (s:gz) (d f l:Nat) (D:Tn) (L:List Sp):Prop:=∀(g:gP) (base:Nat) (w:gw),w.ownsRow base 5 1 g s.size (jY s)->xN w->U2 w->
  Calls prog 22 #[g,.agg #[gp d,gp f,gp l]] w (ace w D L)
def acM (w:gw) (D:Tn) (L:List Sp) (v3 v4:gP) (wc:gw):Prop:=∃g v k,v3=gL g/\v4= .pointer none/\w.heap.size<=g/\wc.heap[g]?=some (gJ #[v,gL k] 59)/\jI wc D (.el k)/\wc.ownsRow w.heap.size 106 3 v L.length (ox L)/\L.length<=1024/\Kept [] w wc
theorem Ii {x : gw} {e : Ending} (h:ace W D L e x) (H:Kept [] w W):∃v k,e=ir (.tuple #[.agg #[v,gL k],.pointer none])/\(∃K n J,v= .slice K n J)/\acM w D L (gL x.heap.size) (.pointer none) (x.alloc (gJ #[v,gL k] 59))/\
  (∀g,w.heap.size<=g->W.heap[g]?=some (gJ #[jX,.pointer none] 59)->x.heap[g]?=some (gJ #[jX,.pointer none] 59)/\acM w D L (gL g) (.pointer none) ((x.setCell ⟨g,0,none⟩ v).setCell ⟨g,1,none⟩ (gL k))):=by
 obtain⟨v,k,rfl,P,F,E,u⟩:=h;have T:w.heap.size<=W.heap.size:=H.size;have m:=jV F T;have I:=(Kept.refl [] x).alloc (gJ #[v,gL k] 59);have⟨K,J,hv⟩:=gH F;refine⟨v,k,rfl,⟨_,_,_,hv⟩,⟨_,v,k,rfl,rfl,jN T u.size,fZ x _,jI.kept I P,I.ownsRow m (λ_ _=>by simp),E,(H.trans u).trans I⟩,?_⟩;intro g y Y;have z:=u.at Y (by simp);have U:Kept [g] x ((x.setCell ⟨g,0,none⟩ v).setCell ⟨g,1,none⟩ (gL k)):=((Kept.refl _ _).setCell (.inl (by simp)) _).setCell (.inl (by simp)) _;refine⟨z,g,v,k,rfl,rfl,y,gh (gh z 0 _) 1 _,jI.kn (KN.jT U (λq C c t G Q=>?_)) P,U.ownsRow m (λq C Z=>?_),E,((H.trans u).setCell (.inr y) _).setCell (.inr y) _⟩
 .have e:=List.mem_singleton.1 C;subst e;rw[z]at G;simp at G;rw[<-G.2]at Q;revert Q;decide
 .have e:=List.mem_singleton.1 Z;subst e;rcases m.2 with⟨e2,_⟩|⟨q',O,X,e2,_,G,_⟩
  .rw[e2]at C;cases C
  .rw[e2]at C;have e3:=jK C
   grind
def GJ (w:gw) (g d f l:Nat) (s:gz) (D:Tn) (L:List Sp) (w':gw):Prop:=∃v k,w'.heap[g]?=some (gJ (SR d f l s.size v k) 61)/\jI w' D (.el k)/\w'.ownsRow w.heap.size 106 3 v L.length (ox L)/\L.length<=1024/\Kept [g] w w'
def R1 (h d f l:Nat) (tv:gP) (s:gz) (base:Nat) (w:gw) (z:w.heap[h]?=some (gJ (p5 ((d:Int),(f:Int),(l:Int)) tv) 61)) (ho:w.ownsRow base 5 1 tv s.size (jY s)) (hT:xN w) (I:U2 w) (hn:MH s d f l D L):
  Calls prog 16 #[gL h] w λe w'=>e= .returned .nilIface/\GJ w h d f l s D L w':=by
 have⟨ao,cp,htv⟩:=gH ho;subst htv;have a2:=jn z;have c0:w.cell? ⟨h,0,none⟩=some (gp d):=by rw[fX z];rfl
 have c1:w.cell? ⟨h,1,none⟩=some (gp f):=by rw[fX z];rfl
 have c2:w.cell? ⟨h,2,none⟩=some (gp l):=by rw[fX z];rfl
 have c3:w.cell? ⟨h,3,none⟩=some (.slice ao s.size cp):=by rw[fX z];rfl
 have CI:=xf h ((d:Int),(f:Int),(l:Int)) _ w z;have Q:=(λW (u:Kept [] w W)=>hn (.slice ao s.size cp) base W (u.ownsRow ho (λ_ _=>by simp)) (hT.fr (bm:=0) (.gZ u)) (I.kept u));have HX:=z;have HG:=fZ w.drew (gJ #[jX,.pointer none] 59);go_enter func16,ntmps16
 go_wp21
 refine CI.mono ?_;rintro e w1 ⟨rfl,rfl⟩
 go_wp21
 go_cut [3,4]from 8 to 19 (λv3 v4 wc=>acM w1 D L v3 v4 wc)
 case first=>
  go_region_with (go_at_call 22;first
   |(refine(Q _ ((Kept.refl [] w1).drew)).mono ?_;intro e P C;obtain⟨v,k,rfl,⟨H,n,G,rfl⟩,U,_⟩:=Ii C ((Kept.refl [] w1).drew);have E:=fW U;clear U C)
   |(refine(Q _ (((Kept.refl [] w1).drew).alloc _)).mono ?_;intro e P C;obtain⟨v,k,rfl,⟨H,n,G,rfl⟩,_,X⟩:=Ii C (((Kept.refl [] w1).drew).alloc _);have⟨h3,h4⟩:=X w1.heap.size (ij _) HG;have q0:P.cell? ⟨w1.heap.size,0,none⟩=some (jX):=(by rw[fX h3];rfl);have q1:P.cell? ⟨w1.heap.size,1,none⟩=some (.pointer none):=(by rw[fX h3];rfl);have z0:=gG h3 0;have z1:=gG h3 1;have E:=fW h4;clear X h3 h4 C))
  all_goals (try (go_wp21))
  all_goals (go_meet;exact E)
 case rest=>
  obtain⟨F,v,k,rfl,rfl,a1,I,x,m,y,u⟩:=hcut;have⟨H,G,hv⟩:=gH m;subst hv;have g:=u.at HX (by simp);have e3:wc.cell? ⟨h,3,none⟩=some (.slice ao s.size cp):=by rw[fX g];rfl
  have e4:wc.cell? ⟨h,4,none⟩=some (.bool false):=by rw[fX g];rfl
  have e5:wc.cell? ⟨h,5,none⟩=some (gp 0):=by rw[fX g];rfl
  have e7:wc.cell? ⟨h,7,none⟩=some (jX):=by rw[fX g];rfl
  have e8:wc.cell? ⟨h,8,none⟩=some (.pointer none):=by rw[fX g];rfl
  have t0:wc.cell? ⟨F,0,none⟩=some (.slice H L.length G):=by rw[fX I];rfl
  have t1:wc.cell? ⟨F,1,none⟩=some (gL k):=by rw[fX I];rfl
  have f4:=gG g 4;have f5:=gG g 5;have f7:=gG g 7;have f8:=gG g 8;have a3:F≠h:=by omega
  have a0:h≠F:=by omega
  have Z:=jn g;have T:=And.intro g (And.intro x (And.intro m (And.intro y u)))
  go_wp21
  go_cut []from 20 to 34 (λwd=>wd.heap[h]?=some (gJ #[gp d,gp f,gp l,.slice ao s.size cp,.bool true,gp s.size,.nilIface,.slice H L.length G,gL k] 61)/\Kept [h] wc wd)
  case first=>
   go_region
   all_goals (try (go_wp21))
   all_goals (go_meet;exact⟨gh (gh (gh (gh T.1 _ _) _ _) _ _) _ _,(((((Kept.refl [h] wc).setCell (.inl (by simp)) _).setCell (.inl (by simp)) _).setCell (.inl (by simp)) _).setCell (.inl (by simp)) _).drew⟩)
  case rest=>
   have⟨hx3,hk3⟩:=hcut;have⟨g,x,m,y,u⟩:=T;have g3:wc.cell? ⟨h,3,none⟩=some (.slice ao s.size cp):=by rw[fX hx3];rfl
   have g6:wc.cell? ⟨h,6,none⟩=some .nilIface:=by rw[fX hx3];rfl
   have y3:=gG hx3 3;have Y:=jn hx3;have O:=hk3.trans ((Kept.refl [h] wc).setCell (p:=⟨h,3,none⟩) (.inl (by simp)) (jX));have E:Hid (GJ w1 h d f l s D L (wc.setCell ⟨h,3,none⟩ (jX))):=fW ⟨_,k,gh hx3 3 _,jI.kn (KN.jT O (λq K c t J ht=>by
     have e:=List.mem_singleton.1 K;subst e;rw[g]at J;simp at J;rw[<-J.2]at ht;revert ht;decide)) x,O.ownsRow m (λq K hm=>by
     have e:=List.mem_singleton.1 hm;subst e;have:=(m.lt _ K).1;omega),y,(u.mono (by simp)).trans O⟩
   go_wp2;go_ret;exact⟨rfl,E⟩
def Mt (v:gP) (w:gw):(ReflectliteType.typeOf #[.iface 62 v]).run prog w= .ok (.iface 112 (.agg #[jF 7 62])) w:=rfl
def Li (w:gw):(ReflectliteType.relation "AssignableTo" ReflectliteType.assignableTo #[.agg #[jF 7 62],.iface 112 (.agg #[jF 7 62])]).run prog w= .ok (.bool true) w:=by kernel_rfl
def Fg (w:gw):(ReflectliteType.relation "AssignableTo" ReflectliteType.assignableTo #[.agg #[jF 7 62],.iface 112 (.agg #[jF 7 34])]).run prog w= .ok (.bool false) w:=by kernel_rfl
def Tf (p:Addr) (w:gw):(ReflectliteValue.unpack (.iface 62 (.pointer (some p)))).run prog w
  = .ok (.agg #[jF 7 62,gL w.heap.size,.int .u64 150]) (w.alloc (.cells #[.pointer (some p)] 62)):=by kernel_rfl
def WF (w:gw):(Rtype.elem? 64).run prog w= .ok (some 62) w:=by kernel_rfl
def aeW (p:Addr) (w:gw):(ReflectliteValue.mk 62 p ReflectliteValue.flagAddr).run prog w= .ok (.agg #[jF 7 62,.pointer (some p),.int .u64 406]) w:=by kernel_rfl
def Zv (a p:Addr) (W:gw) (g:W.cell? a=some (.pointer (some p))):
  (ReflectliteValue.method (ReflectliteValue.valueError "reflectlite.Value.Elem" 0) ReflectliteValue.elem #[.agg #[jF 7 64,.pointer (some a),.int .u64 150]]).run prog W
   = .ok (.agg #[jF 7 62,.pointer (some p),.int .u64 406]) W:=by
 rw[rlm];simp only[RA,Mu,Result.andThen];simp[ReflectliteValue.elem,loadVar,isAgg,underlying,underlying64,g,Result.andThen,WF,aeW]
def WG (a:Addr) (w:gw):(ReflectliteValue.parts (.agg #[jF 7 62,.pointer (some a),.int .u64 406])).run prog w= .ok (some (62,a,406)) w:=rfl
def Zw (a:Addr) (w:gw):(ReflectliteValue.parts (.agg #[jF 7 62,.pointer (some a),.int .u64 150])).run prog w= .ok (some (62,a,150)) w:=rfl
def WD (w:gw):(Rtype.directlyAssignable 62 62).run prog w= .ok true w:=by rfl
theorem adV (g b p:Addr) (h:gP) (W:gw) (m:W.cell? b=some (.pointer (some p))) (t:W.cell? g=some h) (q:W.frozen? g=false):
  (ReflectliteValue.set #[.agg #[jF 7 62,.pointer (some g),.int .u64 406],.agg #[jF 7 62,.pointer (some b),.int .u64 150]]).run prog W
   = .ok (.tuple #[]) (W.setCell g (.pointer (some p))):=by
 rw[rls];simp only[RA,WG,Zw,Result.andThen];simp[ReflectliteValue.flagAddr,loadVar,isAgg,underlying,underlying62,m,Result.andThen,WD,storeVar,Value.cells,storeCells,Addr.add];rw[run_store prog W g _ _ rfl]
 grind
def abO (v:gP) (g:TypeId) (w:gw):(Instr.typeAssert (.iface 62 v) g 116 true).run prog w= .ok (.tuple #[.nilIface,.bool false]) w:=run_typeAssert_lacksB underlying116 (by kernel_rfl) (by kernel_rfl) v g w
def abP (v:gP) (g:TypeId) (w:gw):(Instr.typeAssert (.iface 62 v) g 123 true).run prog w= .ok (.tuple #[.nilIface,.bool false]) w:=run_typeAssert_lacksB underlying123 (by kernel_rfl) (by kernel_rfl) v g w
def D7 (v:gP) (g:TypeId) (w:gw):(Instr.typeAssert (.iface 62 v) g 119 true).run prog w= .ok (.tuple #[.iface 62 v,.bool true]) w:=run_typeAssert_hasB underlying119 (by kernel_rfl) v g w
def zD (v:gP) (w:gw):(Go.method 489 62 v "Unwrap").run prog w= .ok (400,v) w:=by kernel_rfl
def Gq (p n:Nat) (g:Int) (k:Int) (w:gw) (m:w.heap[p]?=some (gJ #[gp k,gp g] 67)) (h:n=0):
  Calls prog 400 #[jF p n] w λe w'=>e=ir (.iface 34 (gp k))/\w'=w:=by
 subst h;have q:w.cell? ⟨p,0,none⟩=some (gp k):=by simp[World.cell?,m]
 go_enter func400,ntmps400;go_wp2;go_ret;simp
def OS (p t:Addr) (u:gP) (w:gw) (z:w.cell? ⟨0,0,none⟩=some (.iface 112 (.agg #[jF 7 46]))) (m:w.cell? t=some u) (x:w.frozen? t=false):
  Calls prog 18 #[.iface 62 (.pointer (some p)),.iface 64 (.pointer (some t))] w λF w'=>F=ir (.bool true)/\w'=((((w.alloc (.cells #[.pointer (some t)] 64)).alloc (.cells (rv 64 w.heap.size) 77)).alloc (.cells (rv 64 w.heap.size) 77)).alloc (.cells #[.pointer (some p)] 62)).setCell t (.pointer (some p)):=by
 have h6:=@run_callFunc_extern prog 25 _ (λg=>ReflectliteValue.unpack (g.getD 0 (.tuple #[]))) func25 (by rfl) (by rfl) rfl rfl;have h7:=@run_callFunc_extern prog 26 _ (ReflectliteValue.methodAny (ReflectliteValue.valueError "reflectlite.Value.Type" 0) (λt _ _ _=>ReflectliteType.toType t)) func26 (by rfl) (by rfl) rfl rfl;have h8:=@run_callFunc_extern prog 27 _ (ReflectliteValue.method (ReflectliteValue.valueError "reflectlite.Value.IsNil" 0) ReflectliteValue.isNil) func27 (by rfl) (by rfl) rfl rfl;have K:=@run_callFunc_extern prog 391 _ (ReflectliteType.abiMethod λt=>do pure (.int .u8 (<-Rtype.kind t))) func391 (by rfl) (by rfl) rfl rfl;have P:=@run_callFunc_extern prog 411 _ (ReflectliteType.method ReflectliteType.elem) func411 (by rfl) (by rfl) rfl rfl;have Q:=@run_callFunc_extern prog 412 _ (ReflectliteType.relation "Implements" ReflectliteType.implements_) func412 (by rfl) (by rfl) rfl rfl;have H:=@run_callFunc_extern prog 29 _ ReflectliteType.typeOf func29 (by rfl) (by rfl) rfl rfl;have O:=@run_callFunc_extern prog 409 _ (ReflectliteType.relation "AssignableTo" ReflectliteType.assignableTo) func409 (by rfl) (by rfl) rfl rfl;have I:=@run_callFunc_extern prog 43 _ (ReflectliteValue.method (ReflectliteValue.valueError "reflectlite.Value.Elem" 0) ReflectliteValue.elem) func43 (by rfl) (by rfl) rfl rfl;have J:=@run_callFunc_extern prog 44 _ ReflectliteValue.set func44 (by rfl) (by rfl) rfl rfl;have tO:=Mt;have mA:=uy;have C:=Li;have Z:=Tf;have f6:=JM;have f7:=UE;have mK:=GZ;have mE:=GY;have mI:=uz;have Y:=QQ;have X:=UD;have E:=UC;have U:=BF;have n8:=QP ⟨w.heap.size,0,none⟩ t ((w.alloc (.cells #[.pointer (some t)] 64)).alloc (.cells (rv 64 w.heap.size) 77)) (by simp);have y:0 < w.heap.size:=by
  rcases CZ w.heap.size with G|h
  .simp[World.cell?,G]at z
  .exact h
 have T:((w.alloc (.cells #[.pointer (some t)] 64)).alloc (.cells (rv 64 w.heap.size) 77)).cell? ⟨0,0,none⟩=some (.iface 112 (.agg #[jF 7 46])):=by
  rw[mX _ _ ⟨0,0,none⟩ (by simp),mX _ _ ⟨0,0,none⟩ y];exact z
 have q:t.block < w.heap.size:=by
  rcases rA t.block w.heap.size with h|h
  .exact h
  .simp[World.cell?,BJ h]at m
 have el:=Zv ⟨w.heap.size,0,none⟩ t (((w.alloc (.cells #[.pointer (some t)] 64)).alloc (.cells (rv 64 w.heap.size) 77)).alloc (.cells (rv 64 w.heap.size) 77)) (by rw[mX _ _ ⟨w.heap.size,0,none⟩ (by simp;omega)];simp);have st:=adV t ⟨w.heap.size+1+1+1,0,none⟩ p u ((((w.alloc (.cells #[.pointer (some t)] 64)).alloc (.cells (rv 64 w.heap.size) 77)).alloc (.cells (rv 64 w.heap.size) 77)).alloc (.cells #[.pointer (some p)] 62))
  (by rw[World.cell?_alloc_at _ _ _ _ (by simp)];rfl)
  (by rw[mX _ _ t (by simp;omega),mX _ _ t (by simp;omega),mX _ _ t (by simp;omega),mX _ _ t q];exact m)
  (by rw[vk _ _ t (by simp;omega),vk _ _ t (by simp;omega),vk _ _ t (by simp;omega),vk _ _ t (Nat.ne_of_lt q)];exact x)
 go_enter func18,ntmps18;go_wp2;refine vo 1 ?_;rw[oW];go_wp2;go_ret;exact⟨rfl,rfl⟩
theorem Kt (p:Nat) (g k:Int) (t:Addr) (x:gP) (w:gw) (F:w.heap[p]?=some (gJ #[gp k,gp g] 67)) (Z:w.cell? ⟨0,0,none⟩=some (.iface 112 (.agg #[jF 7 46]))) (q:w.cell? t=some x) (y:w.frozen? t=false):
  Calls prog 18 #[.iface 62 (gL p),.iface 69 (.pointer (some t))] w λK w'=>K=ir (.bool true)/\w'=((((w.alloc (.cells #[.pointer (some t)] 69)).alloc (.cells (rv 69 w.heap.size) 77)).alloc (.cells (rv 69 w.heap.size) 77)).alloc (.cells #[gp k] 34)).setCell t (gp k):=by
 have h6:=@run_callFunc_extern prog 25 _ (λm=>ReflectliteValue.unpack (m.getD 0 (.tuple #[]))) func25 (by rfl) (by rfl) rfl rfl;have h7:=@run_callFunc_extern prog 26 _ (ReflectliteValue.methodAny (ReflectliteValue.valueError "reflectlite.Value.Type" 0) (λt _ _ _=>ReflectliteType.toType t)) func26 (by rfl) (by rfl) rfl rfl;have h8:=@run_callFunc_extern prog 27 _ (ReflectliteValue.method (ReflectliteValue.valueError "reflectlite.Value.IsNil" 0) ReflectliteValue.isNil) func27 (by rfl) (by rfl) rfl rfl;have T:=@run_callFunc_extern prog 391 _ (ReflectliteType.abiMethod λt=>do pure (.int .u8 (<-Rtype.kind t))) func391 (by rfl) (by rfl) rfl rfl;have X:=@run_callFunc_extern prog 411 _ (ReflectliteType.method ReflectliteType.elem) func411 (by rfl) (by rfl) rfl rfl;have Y:=@run_callFunc_extern prog 412 _ (ReflectliteType.relation "Implements" ReflectliteType.implements_) func412 (by rfl) (by rfl) rfl rfl;have O:=@run_callFunc_extern prog 29 _ ReflectliteType.typeOf func29 (by rfl) (by rfl) rfl rfl;have U:=@run_callFunc_extern prog 409 _ (ReflectliteType.relation "AssignableTo" ReflectliteType.assignableTo) func409 (by rfl) (by rfl) rfl rfl;have P:=@run_callFunc_extern prog 43 _ (ReflectliteValue.method (ReflectliteValue.valueError "reflectlite.Value.Elem" 0) ReflectliteValue.elem) func43 (by rfl) (by rfl) rfl rfl;have Q:=@run_callFunc_extern prog 44 _ ReflectliteValue.set func44 (by rfl) (by rfl) rfl rfl;have tO:=Mt;have a4:=xX;have mA:=uy;have H:=Fg;have I:=Bn;have a5:=FR;have f6:=Is;have f7:=T4;have mK:=GZ;have mE:=GY;have mI:=uz;have a3:=Pc;have a2:=T1;have J:=T0;have a1:=Bo;have x1:=abO;have x2:=D7;have x3:=zD;have n8:=Pb ⟨w.heap.size,0,none⟩ t ((w.alloc (.cells #[.pointer (some t)] 69)).alloc (.cells (rv 69 w.heap.size) 77)) (by simp);have z:0 < w.heap.size:=by
  rcases CZ w.heap.size with h0|h
  .grind
  .exact h
 have a0:((w.alloc (.cells #[.pointer (some t)] 69)).alloc (.cells (rv 69 w.heap.size) 77)).cell? ⟨0,0,none⟩=some (.iface 112 (.agg #[jF 7 46])):=by
  rw[mX _ _ ⟨0,0,none⟩ (by simp),mX _ _ ⟨0,0,none⟩ z];exact Z
 have u:t.block < w.heap.size:=by
  rcases rA t.block w.heap.size with h|h
  .exact h
  .simp[World.cell?,BJ h]at q
 have C:=jn F;have G:Hid ((((w.alloc (.cells #[.pointer (some t)] 69)).alloc (.cells (rv 69 w.heap.size) 77)).alloc (.cells (rv 69 w.heap.size) 77)).heap[p]?=some (gJ #[gp k,gp g] 67)):=by
  show _=_;rw[Below.heap_alloc _ _ _ (by simp;omega),Below.heap_alloc _ _ _ (by simp;omega),Below.heap_alloc _ _ _ C];exact F
 have el:=Pa ⟨w.heap.size,0,none⟩ t (((w.alloc (.cells #[.pointer (some t)] 69)).alloc (.cells (rv 69 w.heap.size) 77)).alloc (.cells (rv 69 w.heap.size) 77)) (by rw[mX _ _ ⟨w.heap.size,0,none⟩ (by simp;omega)];simp);have st:=X2 t ⟨w.heap.size+1+1+1,0,none⟩ k x ((((w.alloc (.cells #[.pointer (some t)] 69)).alloc (.cells (rv 69 w.heap.size) 77)).alloc (.cells (rv 69 w.heap.size) 77)).alloc (.cells #[gp k] 34))
  (by rw[World.cell?_alloc_at _ _ _ _ (by simp)];rfl)
  (by rw[mX _ _ t (by simp;omega),mX _ _ t (by simp;omega),mX _ _ t (by simp;omega),mX _ _ t u];exact q)
  (by rw[vk _ _ t (by simp;omega),vk _ _ t (by simp;omega),vk _ _ t (by simp;omega),vk _ _ t (Nat.ne_of_lt u)];exact y)
 go_enter func18,ntmps18;go_wp2;refine vo 2 ?_;rw[oW];go_wp2_with (go_at_call 400;refine(Gq p 0 g k _ G rfl).mono ?_;rintro e w' ⟨rfl,E⟩;subst E);rw[oW];go_wp2;go_ret;exact⟨rfl,rfl⟩
def aaU (p:Nat) (g k:Int) (w:gw) (u:w.heap[p]?=some (gJ #[gp k,gp g] 67)):
  Calls prog 19 #[.iface 62 (gL p),.iface 34 (gp k)] w λe w'=>e=ir (.bool true)/\w'=w:=by
 have⟨i,hi,hcmp⟩:=Option.map_eq_some_iff.1 TZ;have z:=@run_callFunc_extern prog 29 _ Extern.ReflectliteType.typeOf func29 (by rfl) (by rfl) rfl rfl;have q:=@run_callFunc_extern prog 410 _ Ig func410 (by rfl) (by rfl) rfl rfl;have E:=xX;have y:=zw;have C:=BE;have F:=abP;have G:=D7;have H:=zD;have t:∀w:gw,(binOp .eql 46 (.iface 34 (gp k)) (.iface 34 (gp k))).run prog w= .ok (.bool true) w:=λw=>by
  rw[xk w k k underlying46 underlying34 hi hcmp];simp
 have x:=λw=>run_eql_iface_types (P:=prog) 62 34 (gL p) (gp k) underlying46 (by decide) w;have m:Hid (w.heap[p]?=some (gJ #[gp k,gp g] 67)):=u;go_enter func19,ntmps19;go_wp2;refine vo 2 ?_;rw[oW];go_wp2_with (go_at_call 400;refine(Gq p 0 g k _ m rfl).mono ?_;rintro e w' ⟨rfl,h⟩;subst h);rw[oW];go_wp2;go_ret;exact⟨rfl,rfl⟩
def MT (p:Addr) (t:Nat) (g:gP) (w:gw) (q:errorType w) (h:w.heap[t]?=some (gJ #[g] 62)):
  Calls prog 18 #[.iface 62 (.pointer (some p)),.iface 64 (gL t)] w λm w'=>m=ir (.bool true)/\w'.heap[t]?=some (gJ #[.pointer (some p)] 62)/\Kept [t] w w':=by
 refine(OS p ⟨t,0,none⟩ g w q (tj h) (free_of_one h)).mono ?_;rintro e w' ⟨rfl,rfl⟩;refine⟨rfl,one_setCell (v:=g) ?_,?_⟩
 .have u:=jn h;rw[Below.heap_alloc _ _ _ (by simp;omega),Below.heap_alloc _ _ _ (by simp;omega),Below.heap_alloc _ _ _ (by simp;omega),Below.heap_alloc _ _ _ u];exact h
 .exact Kept.setCell ((((Kept.refl _ _).alloc _).alloc _).alloc _|>.alloc _) (.inl (by simp)) _
def Ho (p:Nat) (h k:Int) (t:Nat) (g:gP) (w:gw) (y:w.heap[p]?=some (gJ #[gp k,gp h] 67)) (u:errorType w) (m:w.heap[t]?=some (gJ #[g] 34)):
  Calls prog 18 #[.iface 62 (gL p),.iface 69 (gL t)] w λq w'=>q=ir (.bool true)/\w'.heap[t]?=some (gJ #[gp k] 34)/\Kept [t] w w':=by
 refine(Kt p h k ⟨t,0,none⟩ g w y u (tj m) (free_of_one m)).mono ?_;rintro e w' ⟨rfl,rfl⟩;refine⟨rfl,one_setCell (v:=g) ?_,?_⟩
 .have x:=jn m;rw[Below.heap_alloc _ _ _ (by simp;omega),Below.heap_alloc _ _ _ (by simp;omega),Below.heap_alloc _ _ _ (by simp;omega),Below.heap_alloc _ _ _ x];exact m
 .exact Kept.setCell ((((Kept.refl _ _).alloc _).alloc _).alloc _|>.alloc _) (.inl (by simp)) _
def VN (p:Nat) (g k:Int) (w:gw) (C:w.heap[p]?=some (gJ #[gp k,gp g] 67)) (I:errorType w):
  Calls prog 31 #[.iface 62 (gL p)] w λe w'=>e=ir (.tuple #[gp k,.bool true])/\Kept [] w w':=by
 have J:∀(y:Fn) (first h:jO) (w:gw),(Instr.makeFunc y first h).run prog w= .ok (.func y first h) w:=λ_ _ _ _=>rfl;have u:=lG (lG I (.cells #[gp 0] 34)) (.cells #[.bool false] 4);have x:=jn C;have m:((w.alloc (.cells #[gp 0] 34)).alloc (.cells #[.bool false] 4)).heap[p]?=some (gJ #[gp k,gp g] 67):=by
  rw[Below.heap_alloc _ _ _ (by simp;omega),Below.heap_alloc _ _ _ x];exact C
 go_enter_defers func31,ntmps31
 go_wp21
 refine(Ho p g k w.heap.size _ _ m u (by rw[Below.heap_alloc _ _ _ (by simp)];exact fZ _ _)).mono ?_;rintro e w1 ⟨rfl,q,z⟩;have t:w1.heap[w.heap.size+1]?=some (gJ #[.bool false] 4):=by
  refine z.at ?_ (by simp);have:=fZ (w.alloc (.cells #[gp 0] 34)) (.cells #[.bool false] 4)
  simpa using this
 have G:=tj q;have H:=tj t;have O:=free_of_one q;have P:=free_of_one t;have E:Kept [] w w1:=((((Kept.refl _ _).alloc _).alloc _).trans (S:=[w.heap.size]) z).mono (by simp);have T:=jn q;have U:=jn t
 go_wp21
 go_region
 all_goals go_wp2
 refine leaves_cons (f:=45) (args:=#[gL w.heap.size,gL (w.heap.size+1)]) (by simp) (by simp[go_sem]) ?_;refine(H6 ⟨w.heap.size,0,none⟩ ⟨w.heap.size+1,0,none⟩ _).mono ?_;rintro e Q K ⟨rfl,rfl,rfl⟩;have F:Kept [] w (((w1.setCell ⟨w.heap.size+1,0,none⟩ (.bool true)).setCell ⟨w.heap.size,0,none⟩ (gp k)).setCell ⟨w.heap.size+1,0,none⟩ (.bool true)).drew:=
  (((E.setCell (.inr (by simp)) _).setCell (.inr (by simp)) _).setCell (.inr (by simp)) _).drew
 simp[Go.Leaves,settle,results,results31,go_sem,G,H];exact F
def Ap (p:Nat) (g k:Int) (w:gw) (q:w.heap[p]?=some (gJ #[gp k,gp g] 67)) (h:errorType w):
  Calls prog 20 #[.iface 62 (gL p)] w λe w'=>e=ir (gp k)/\Kept [] w w':=by
 have H:=VN p g k w q h;go_enter func20,ntmps20
 go_wp21
 refine H.mono ?_;rintro e w' ⟨rfl,m⟩;go_wp2;go_ret;exact⟨rfl,m⟩
def WT (p:Nat) (q k:Int) (w:gw) (U:w.heap[p]?=some (gJ #[gp k,gp q] 67)) (O:errorType w):
  Calls prog 14 #[.iface 62 (gL p)] w λe w'=>e=ir (.tuple #[gp k,gp q])/\Kept [] w w':=by
 have F:=lG (lG O (.cells #[.pointer none] 62)) (.cells #[gp 0] 34);have Q:=U;have P:=O;go_enter func14,ntmps14
 go_wp21
 refine tw (by rfl) ?_;change wpAny _ _ _ _ _ _ _ (World.drew _);refine iO (i:=0) (some 10) (.iface 62 (gL p)) rfl rfl (by kernel_rfl) (by kernel_rfl) (by kernel_rfl) (λ_ _ _ h=>h) (by kernel_rfl) (λ_=>by kernel_rfl) ?_;simp only[Act.put,jA,jB,jC];refine iO (i:=1) (some 11) (.iface 64 (gL w.heap.size)) rfl rfl (by kernel_rfl) (by kernel_rfl) (by kernel_rfl) (λ_ _ _ h=>h) (by kernel_rfl) (λ_=>by kernel_rfl) ?_;simp only[Act.put,jA,jB,jC];refine qE (rs:=[2]) (by kernel_rfl) (by simp) ?_;refine oU rfl (λK g=>?_) qF;go_simp
 go_wp21
 refine(MT ⟨p,0,none⟩ w.heap.size _ _ (we F) (by show((w.alloc _).alloc _).heap[w.heap.size]?=_;rw[Below.heap_alloc _ _ _ (by simp)];exact fZ _ _)).mono ?_;rintro e w1 ⟨rfl,E,T⟩;have x:Kept [] w w1:=(((Kept.refl _ _).alloc _).alloc _).drew.next T (by simp);have z:=sR P x (by simp);have t:=x.at Q (by simp);have Y:=tj E;have X:w1.cell? ⟨p,0,none⟩=some (gp k):=by simp[World.cell?,t]
 refine g _ _ ?_;refine iO (i:=3) (some 13) (.bool true) rfl rfl (by kernel_rfl) (by kernel_rfl) (by kernel_rfl) (λ_ _ _ h=>h) (by kernel_rfl) (λ_=>by kernel_rfl) ?_;simp only[Act.put,jA,jB,jC];refine iO (i:=4) (some 14) (.iface 62 (gL p)) rfl rfl (by kernel_rfl) (by kernel_rfl) (by kernel_rfl) (λ_ _ _ h=>h) (by kernel_rfl) (λ_=>by kernel_rfl) ?_;simp only[Act.put,jA,jB,jC];refine qE (rs:=[5]) (by kernel_rfl) (by simp) ?_;refine oU rfl (λK g=>?_) qF;go_simp;refine g _ _ ?_;refine iO (i:=6) (some 16) (gL p) rfl rfl (by kernel_rfl) (by kernel_rfl) (by kernel_rfl) (λ_ _ _ h=>h) (by kernel_rfl) (λ_=>by kernel_rfl) ?_;simp only[Act.put,jA,jB,jC];refine iO (i:=7) (some 17) (gL p) rfl rfl (by kernel_rfl) (by kernel_rfl) (by kernel_rfl) (λ_ _ _ h=>h) (by kernel_rfl) (λ_=>by kernel_rfl) ?_;simp only[Act.put,jA,jB,jC];refine qE (rs:=[8]) (by kernel_rfl) (by simp) ?_;refine oU rfl (λK g=>?_) qF;go_simp;refine g _ _ ?_;refine iO (i:=9) (some 19) (.iface 34 (gp k)) rfl rfl (by kernel_rfl) (by kernel_rfl) (by kernel_rfl) (λ_ _ _ h=>h) (by kernel_rfl) (λ_=>by kernel_rfl) ?_;simp only[Act.put,jA,jB,jC];refine qE (rs:=[10]) (by kernel_rfl) (by simp) ?_;refine oU rfl (λK g=>?_) qF;go_simp
 go_wp21
 refine(aaU p q k _ t).mono ?_;rintro e Z ⟨rfl,G⟩;subst G;refine g _ _ ?_;refine iO (i:=11) (some 21) (.bool true) rfl rfl (by kernel_rfl) (by kernel_rfl) (by kernel_rfl) (λ_ _ _ h=>h) (by kernel_rfl) (λ_=>by kernel_rfl) ?_;simp only[Act.put,jA,jB,jC];refine iO (i:=12) (some 22) (.bool true) rfl rfl (by kernel_rfl) (by kernel_rfl) (by kernel_rfl) (λ_ _ _ h=>h) (by kernel_rfl) (λ_=>by kernel_rfl) ?_;simp only[Act.put,jA,jB,jC];refine iO (i:=13) (some 23) (.iface 62 (gL p)) rfl rfl (by kernel_rfl) (by kernel_rfl) (by kernel_rfl) (λ_ _ _ h=>h) (by kernel_rfl) (λ_=>by kernel_rfl) ?_;simp only[Act.put,jA,jB,jC];refine qE (rs:=[14,15]) (by kernel_rfl) (by simp) ?_;refine oU rfl (λK g=>?_) (oU rfl (λK g=>?_) qF)
 .go_simp
  go_wp21
  refine(Ap p q k _ t z).mono ?_;rintro e y ⟨rfl,m⟩;have C:Kept [] w y:=x.next m (by simp);have I:=tj (m.at E (by simp));have u:=m.at t (by simp);have H:y.cell? ⟨p,0,none⟩=some (gp k):=by simp[World.cell?,u]
  have J:y.cell? ⟨p,1,none⟩=some (gp q):=by simp[World.cell?,u]
  refine g _ _ ?_;refine qE (rs:=[15]) (by kernel_rfl) (by simp) ?_;refine oU rfl (λK g=>?_) qF;go_simp;refine g _ _ ?_;refine iO (i:=16) (some 26) (gL p) rfl rfl (by kernel_rfl) (by kernel_rfl) (by kernel_rfl) (λ_ _ _ h=>h) (by kernel_rfl) (λ_=>by kernel_rfl) ?_;simp only[Act.put,jA,jB,jC];refine iO (i:=17) (some 27) (gL p) rfl rfl (by kernel_rfl) (by kernel_rfl) (by kernel_rfl) (λ_ _ _ h=>h) (by kernel_rfl) (λ_=>by kernel_rfl) ?_;simp only[Act.put,jA,jB,jC];refine qE (rs:=[18]) (by kernel_rfl) (by simp) ?_;refine oU rfl (λK g=>?_) qF;go_simp;refine g _ _ ?_;refine iO (i:=19) (some 29) (.bool true) rfl rfl (by kernel_rfl) (by kernel_rfl) (by kernel_rfl) (λ_ _ _ h=>h) (by kernel_rfl) (λ_=>by go_simp) ?_;simp only[Act.put,jA,jB,jC];refine iO (i:=20) (some 30) (.bool true) rfl rfl (by kernel_rfl) (by kernel_rfl) (by kernel_rfl) (λ_ _ _ h=>h) (by kernel_rfl) (λ_=>by kernel_rfl) ?_;simp only[Act.put,jA,jB,jC];refine iO (i:=21) (some 9) (.bool true) rfl rfl (by kernel_rfl) (by kernel_rfl) (by kernel_rfl) (λ_ _ _ h=>h) (by kernel_rfl) (λ_=>by kernel_rfl) ?_;simp only[Act.put,jA,jB,jC];refine wpAny_done (by kernel_rfl) ?_ _
  go_wp21
  go_quiet (fail)
  go_wp2;go_ret2;exact⟨rfl,C.next ((Kept.refl [] _).drewN _) (by simp)⟩
 .go_simp;refine g _ _ ?_;refine iO (i:=16) (some 26) (gL p) rfl rfl (by kernel_rfl) (by kernel_rfl) (by kernel_rfl) (λ_ _ _ h=>h) (by kernel_rfl) (λ_=>by kernel_rfl) ?_;simp only[Act.put,jA,jB,jC];refine iO (i:=17) (some 27) (gL p) rfl rfl (by kernel_rfl) (by kernel_rfl) (by kernel_rfl) (λ_ _ _ h=>h) (by kernel_rfl) (λ_=>by kernel_rfl) ?_;simp only[Act.put,jA,jB,jC];refine qE (rs:=[14,18]) (by kernel_rfl) (by simp) ?_;refine oU rfl (λK g=>?_) (oU rfl (λK g=>?_) qF)
  .go_simp
   go_wp21
   refine(Ap p q k _ t z).mono ?_;rintro e y ⟨rfl,m⟩;have C:Kept [] w y:=x.next m (by simp);have I:=tj (m.at E (by simp));have u:=m.at t (by simp);have H:y.cell? ⟨p,0,none⟩=some (gp k):=by simp[World.cell?,u]
   have J:y.cell? ⟨p,1,none⟩=some (gp q):=by simp[World.cell?,u]
   refine g _ _ ?_;refine qE (rs:=[18]) (by kernel_rfl) (by simp) ?_;refine oU rfl (λK g=>?_) qF;go_simp;refine g _ _ ?_;refine iO (i:=19) (some 29) (.bool true) rfl rfl (by kernel_rfl) (by kernel_rfl) (by kernel_rfl) (λ_ _ _ h=>h) (by kernel_rfl) (λ_=>by go_simp) ?_;simp only[Act.put,jA,jB,jC];refine iO (i:=20) (some 30) (.bool true) rfl rfl (by kernel_rfl) (by kernel_rfl) (by kernel_rfl) (λ_ _ _ h=>h) (by kernel_rfl) (λ_=>by kernel_rfl) ?_;simp only[Act.put,jA,jB,jC];refine iO (i:=21) (some 9) (.bool true) rfl rfl (by kernel_rfl) (by kernel_rfl) (by kernel_rfl) (λ_ _ _ h=>h) (by kernel_rfl) (λ_=>by kernel_rfl) ?_;simp only[Act.put,jA,jB,jC];refine wpAny_done (by kernel_rfl) ?_ _
   go_wp21
   go_quiet (fail)
   go_wp2;go_ret2;exact⟨rfl,C.next ((Kept.refl [] _).drewN _) (by simp)⟩
  .go_simp;refine g _ _ ?_;refine qE (rs:=[14]) (by kernel_rfl) (by simp) ?_;refine oU rfl (λK g=>?_) qF;go_simp
   go_wp21
   refine(Ap p q k _ t z).mono ?_;rintro e y ⟨rfl,m⟩;have C:Kept [] w y:=x.next m (by simp);have I:=tj (m.at E (by simp));have u:=m.at t (by simp);have H:y.cell? ⟨p,0,none⟩=some (gp k):=by simp[World.cell?,u]
   have J:y.cell? ⟨p,1,none⟩=some (gp q):=by simp[World.cell?,u]
   refine g _ _ ?_;refine iO (i:=19) (some 29) (.bool true) rfl rfl (by kernel_rfl) (by kernel_rfl) (by kernel_rfl) (λ_ _ _ h=>h) (by kernel_rfl) (λ_=>by go_simp) ?_;simp only[Act.put,jA,jB,jC];refine iO (i:=20) (some 30) (.bool true) rfl rfl (by kernel_rfl) (by kernel_rfl) (by kernel_rfl) (λ_ _ _ h=>h) (by kernel_rfl) (λ_=>by kernel_rfl) ?_;simp only[Act.put,jA,jB,jC];refine iO (i:=21) (some 9) (.bool true) rfl rfl (by kernel_rfl) (by kernel_rfl) (by kernel_rfl) (λ_ _ _ h=>h) (by kernel_rfl) (λ_=>by kernel_rfl) ?_;simp only[Act.put,jA,jB,jC];refine wpAny_done (by kernel_rfl) ?_ _
   go_wp21
   go_quiet (fail)
   go_wp2;go_ret2;exact⟨rfl,C.next ((Kept.refl [] _).drewN _) (by simp)⟩
attribute [local go_sem] Oper.semAt_some
def errorType.kept (h:errorType w) (q:Kept S w w') (t:0∉S):errorType w':=by
 have m:0 < w.heap.size:=by
  rcases rA 0 w.heap.size with g|g
  .exact g
  .unfold errorType at h;simp[World.cell?,BJ g]at h
 exact(q.cell (p:=⟨0,0,none⟩) m t).trans h
def MI (s:gz) (d f l c p:Nat):Prop:=∀(g:gP) (base:Nat) (w:gw),w.ownsRow base 5 1 g s.size (jY s)->xN w->U2 w->
  Calls prog 22 #[g,.agg #[gp d,gp f,gp l]] w λe w'=>Hj w e w' (.stop c p)
def acL (w:gw) (c p:Nat) (v3 v4:gP) (wc:gw):Prop:=∃g k,v3=gL g/\v4=gL k/\w.heap.size<=g/\wc.heap[g]?=some (gJ #[jX,.pointer none] 59)/\kG wc k c p/\Kept [] w wc
theorem Ih {q : gw} {e : Ending} (h:Hj W e q (.stop c p)) (y:Kept [] w W):∃k,e=ir (.tuple #[.agg #[jX,.pointer none],gL k])/\acL w c p (gL q.heap.size) (gL k) (q.alloc (gJ #[jX,.pointer none] 59))/\
  (∀g,w.heap.size<=g->W.heap[g]?=some (gJ #[jX,.pointer none] 59)->q.heap[g]?=some (gJ #[jX,.pointer none] 59)/\acL w c p (gL g) (gL k) ((q.setCell ⟨g,0,none⟩ (jX)).setCell ⟨g,1,none⟩ (.pointer none))):=by
 obtain⟨k,rfl,u,m⟩:=h;have F:w.heap.size<=W.heap.size:=y.size;have z:=(Kept.refl [] q).alloc (gJ #[jX,.pointer none] 59);refine⟨k,rfl,⟨_,k,rfl,rfl,jN F m.size,fZ q _,z.at u (by simp),(y.trans m).trans z⟩,?_⟩;intro g t C;have x:=m.at C (by simp);have G:Kept [g] q ((q.setCell ⟨g,0,none⟩ (jX)).setCell ⟨g,1,none⟩ (.pointer none)):=((Kept.refl _ _).setCell (.inl (by simp)) _).setCell (.inl (by simp)) _;refine⟨x,g,k,rfl,rfl,t,gh (gh x 0 _) 1 _,G.at u (λE=>?_),((y.trans m).setCell (.inr t) _).setCell (.inr t) _⟩;have e:=List.mem_singleton.1 E;subst e;unfold kG at u
 grind
def adP (d f l:Int) (p k:Nat):jO:=#[gp d,gp f,gp l,jX,.bool true,gp p,.iface 62 (gL k),jX,.pointer none]
def De (w:gw) (g d f l c p k:Nat) (w':gw):Prop:=w'.heap[g]?=some (gJ (adP d f l p k) 61)/\kG w' k c p/\Kept [g] w w'
def R2 (g d f l:Nat) (X:gP) (s:gz) (base:Nat) (w:gw) (t:w.heap[g]?=some (gJ (p5 ((d:Int),(f:Int),(l:Int)) X) 61)) (T:w.ownsRow base 5 1 X s.size (jY s)) (hT:xN w) (F:U2 w) (hn:MI s d f l c p):
  Calls prog 16 #[gL g] w λe w'=>∃k,e=ir (.iface 62 (gL k))/\De w g d f l c p k w':=by
 have⟨ao,cp,htv⟩:=gH T;subst htv;have a2:=jn t;have c0:w.cell? ⟨g,0,none⟩=some (gp d):=by rw[fX t];rfl
 have c1:w.cell? ⟨g,1,none⟩=some (gp f):=by rw[fX t];rfl
 have c2:w.cell? ⟨g,2,none⟩=some (gp l):=by rw[fX t];rfl
 have c3:w.cell? ⟨g,3,none⟩=some (.slice ao s.size cp):=by rw[fX t];rfl
 have Z:=xf g ((d:Int),(f:Int),(l:Int)) _ w t;have H:=(λW (q:Kept [] w W)=>hn (.slice ao s.size cp) base W (q.ownsRow T (λ_ _=>by simp)) (hT.fr (bm:=0) (.gZ q)) (F.kept q));have HX:=t;have HG:=fZ w.drew (gJ #[jX,.pointer none] 59);go_enter func16,ntmps16
 go_wp21
 refine Z.mono ?_;rintro e w1 ⟨rfl,rfl⟩
 go_wp21
 go_cut [3,4]from 8 to 19 (λv3 v4 wc=>acL w1 c p v3 v4 wc)
 case first=>
  go_region_with (go_at_call 22;first
   |(refine(H _ ((Kept.refl [] w1).drew)).mono ?_;intro e G y;obtain⟨k,rfl,J,_⟩:=Ih y ((Kept.refl [] w1).drew);have C:=fW J;clear J y)
   |(refine(H _ (((Kept.refl [] w1).drew).alloc _)).mono ?_;intro e G y;obtain⟨k,rfl,_,K⟩:=Ih y (((Kept.refl [] w1).drew).alloc _);have⟨h3,h4⟩:=K w1.heap.size (ij _) HG;have q0:G.cell? ⟨w1.heap.size,0,none⟩=some (jX):=(by rw[fX h3];rfl);have q1:G.cell? ⟨w1.heap.size,1,none⟩=some (.pointer none):=(by rw[fX h3];rfl);have z0:=gG h3 0;have z1:=gG h3 1;have C:=fW h4;clear K h3 h4 y))
  all_goals (try (go_wp21))
  all_goals (go_meet;exact C)
 case rest=>
  obtain⟨E,k,rfl,rfl,a0,F,m,q⟩:=hcut;have h:=q.at HX (by simp);have e3:wc.cell? ⟨g,3,none⟩=some (.slice ao s.size cp):=by rw[fX h];rfl
  have e4:wc.cell? ⟨g,4,none⟩=some (.bool false):=by rw[fX h];rfl
  have e5:wc.cell? ⟨g,5,none⟩=some (gp 0):=by rw[fX h];rfl
  have e7:wc.cell? ⟨g,7,none⟩=some (jX):=by rw[fX h];rfl
  have e8:wc.cell? ⟨g,8,none⟩=some (.pointer none):=by rw[fX h];rfl
  have t0:wc.cell? ⟨E,0,none⟩=some (jX):=by rw[fX F];rfl
  have t1:wc.cell? ⟨E,1,none⟩=some (.pointer none):=by rw[fX F];rfl
  have f4:=gG h 4;have f5:=gG h 5;have f7:=gG h 7;have f8:=gG h 8;have a3:E≠g:=by omega
  have Q:g≠E:=by omega
  have u:k≠g:=by
   rintro rfl;unfold kG at m;rw[h]at m;simp at m
  have P:=jn h;have I:=And.intro h (And.intro m q)
  go_wp21
  go_cut []from 20 to 34 (λY=>Y.heap[g]?=some (gJ #[gp d,gp f,gp l,.slice ao s.size cp,.bool true,gp s.size,.nilIface,jX,.pointer none] 61)/\Kept [g] wc Y)
  case first=>
   go_region
   all_goals (try (go_wp21))
   all_goals (go_meet;exact⟨gh (gh (gh (gh I.1 _ _) _ _) _ _) _ _,(((((Kept.refl [g] wc).setCell (.inl (by simp)) _).setCell (.inl (by simp)) _).setCell (.inl (by simp)) _).setCell (.inl (by simp)) _).drew⟩)
  case rest=>
   have⟨hx3,hk3⟩:=hcut;have⟨h,m,q⟩:=I;have z:kG wc k c p:=hk3.at m (by simpa using u);have g3:wc.cell? ⟨g,3,none⟩=some (.slice ao s.size cp):=by rw[fX hx3];rfl
   have g5:wc.cell? ⟨g,5,none⟩=some (gp s.size):=by rw[fX hx3];rfl
   have g6:wc.cell? ⟨g,6,none⟩=some .nilIface:=by rw[fX hx3];rfl
   have s1:wc.cell? ⟨k,1,none⟩=some (gp p):=by rw[fX z];rfl
   have y3:=gG hx3 3;have y5:=gG hx3 5;have y6:=gG hx3 6;have O:=jn hx3;have x:=u;have a1:g≠k:=λe=>x e.symm;have U:=hk3.trans ((((Kept.refl [g] wc).setCell (p:=⟨g,5,none⟩) (.inl (by simp)) (gp p)).setCell (p:=⟨g,6,none⟩) (.inl (by simp)) (.iface 62 (gL k))).setCell (p:=⟨g,3,none⟩) (.inl (by simp)) (jX));have C:Hid (De w1 g d f l c p k (((wc.setCell ⟨g,5,none⟩ (gp p)).setCell ⟨g,6,none⟩ (.iface 62 (gL k))).setCell ⟨g,3,none⟩ (jX))):=fW ⟨gh (gh (gh hx3 5 _) 6 _) 3 _,U.at m (by simpa using x),(q.mono (by simp)).trans U⟩;go_wp2;go_ret;exact⟨k,rfl,C⟩
def Qj (g d f l:Nat) (q:gP) (s:gz) (base:Nat) (w:gw) (I:w.heap[g]?=some (gJ (p5 ((d:Int),(f:Int),(l:Int)) q) 61)) (H:w.ownsRow base 5 1 q s.size (jY s)) (y:xN w) (F:U2 w) (G:MI s d f l c p) (E:errorType w) (z:0≠g):
  Calls prog 11 #[gL g] w λe w'=>∃k,e=ir (.tuple #[gp c,gp p])/\De w g d f l c p k w':=by
 have C:=R2 g d f l q s base w I H y F G;have u:=E;go_enter func11,ntmps11
 go_wp21
 refine C.mono ?_;rintro e w1 ⟨k,rfl,h⟩;have t:=WT k (p:Int) (c:Int) w1 h.2.1 (u.kept h.2.2 (by simpa using z))
 go_wp21
 refine t.mono ?_;rintro e J ⟨rfl,m⟩;have x:Hid (De w g d f l c p k J):=by
  have⟨h1,h2,h3⟩:=h;exact fW ⟨m.at h1 (by simp),m.at h2 (by simp),h3.trans (m.mono (by simp))⟩
 go_wp2;go_ret2;exact⟨k,rfl,x⟩
structure W4 (w:gw):Prop where
 tab:xN w
 gl:U2 w
 er:errorType w
 el:0 < w.heap.size
def W4.kept (h:W4 w) (g:Kept [] w w'):W4 w':=⟨h.tab.fr (bm:=0) (.gZ g),h.gl.kept g,h.er.kept g (by simp),lU h.el g.size⟩
def Tu (g:mL σ):∃r K,jw r σ/\(∀i,i < σ.nodes.length->r i<=K)/\∀(E:Env) (f:Nat->Nat) (w:gw),RF E f σ w->jI w (Db σ (K+1) (.el 0)) (.el (f 0)):=by
 obtain⟨r,m⟩:=g;obtain⟨B,q⟩:=zX r σ.nodes.length;refine⟨r,B+1,m,λi g=>jN (q i g) (by omega),λE f w h=>?_⟩;obtain⟨L,rfl,t⟩:=h;refine Ue t m q (B+2) (.el 0) m.xb ?_ (by omega);intro i g;cases g;omega
def YE (x:mL σ) (y:NG σ) (z:wt σ<=595500) (K:Nat):∃nm gM T,Db σ (K+1) (.el 0)= .el nm gM T/\(jJ (ve (λ_=>false) T)).length<=1000000000:=by
 obtain⟨r,q⟩:=x;obtain⟨e,u⟩:=Option.isSome_iff_exists.1 q.xb;have g:Db σ (K+1) (.el 0)= .el e.name e.gV (e.kids.map (Db σ K)):=by
  show(match σ.ib 0 with|some e=>Tn.el e.name e.gV (e.kids.map (Db σ K))|none=>EQ)=_
  rw[u]
 have h:=adW ⟨r,q⟩ (K+1) 0;have m:=acK y (K+1) (.el 0);rw[g]at h m;have t:TsG (wt σ) (e.kids.map (Db σ K)):=m.2.2.2;have E:1+szS (e.kids.map (Db σ K))<=1+wt σ:=h;refine⟨_,_,_,g,?_⟩;obtain⟨_,_,C⟩:=Sm z (λ_=>false) _ t;omega
def aaI (s:gz) (t:s.size<=1024):(∃c p,c≠0/\MI s 64 32 16 c p)\/∃nm gM T L,MH s 64 32 16 (.el nm gM T) L/\6<=(jJ (ve (λ_=>false) T)).length/\(jJ (ve (λ_=>false) T)).length<=1000000000:=by
 have g:=Fa 64 32 16 s t (by omega) (by omega);cases h:Cn 64 32 16 s with
 |stuck=>rw[h]at g;exact g.elim
 |stop c p=>
  refine .inl ⟨c,p,QB 64 32 16 s t (by omega) h,λC base w z q x=>?_⟩;exact(Mn s C base 64 32 16 w z t (by omega) (by omega) (by omega) q x).mono (λe w' m=>by rw[h]at m;exact m)
 |done fin L=>
  rw[h]at g;obtain⟨G,Z,_⟩:=g;have y:=Mm 64 32 16 s t (by omega) h;have Y:wt fin<=595500:=by
   have H:wt fin<=Em fin:=xJ _ _;have I:=Xn (d:=64) (f:=32) (l:=16) (a:=0);have J:=GO s;have O:(uM s ((16:Nat):Int) .nilFunc 0).cs.size=(zI s).size:=rfl;omega
  obtain⟨r,K,m,X,P⟩:=Tu G.iv;obtain⟨nm,gM,T,q,U⟩:=YE G.iv y Y K;have u:=adU 64 32 16 s t (by omega) (by omega) (by omega) h m X q;rw[q]at P;refine .inr ⟨nm,gM,T,L,λC base w z q x=>?_,u,U⟩;refine(Mn s C base 64 32 16 w z t (by omega) (by omega) (by omega) q x).mono λe w' m=>?_;rw[h]at m;obtain⟨v,k,E,F,H,I,J,O,Q,u⟩:=m;subst I;exact⟨v,F 0,H,P E F w' J,O,Q,u⟩
def abh (g d f l:Nat) (m:gP) (s:gz) (base:Nat) (w:gw) (E:w.heap[g]?=some (gJ (p5 ((d:Int),(f:Int),(l:Int)) m) 61)) (z:w.ownsRow base 5 1 m s.size (jY s)) (u:xN w) (x:U2 w) (y:MH s d f l D L):
  Calls prog 11 #[gL g] w λe w'=>e=ir (.tuple #[gp 0,gp 0])/\GJ w g d f l s D L w':=by
 have C:=R1 g d f l m s base w E z u x y;go_enter func11,ntmps11
 go_wp21
 refine C.mono ?_;rintro e w1 ⟨rfl,q⟩
 go_wp21
 refine(J4 w1).mono ?_;rintro e F ⟨rfl,h⟩;have t:Hid (GJ w g d f l s D L F):=by
  have⟨v,k,h1,h2,h3,h4,h5⟩:=q;exact fW ⟨v,k,h.at h1 (by simp),jI.kept h h2,h.ownsRow h3 (λ_ _=>by simp),h4,h5.trans (h.mono (by simp))⟩
 go_wp2;go_ret2;exact⟨rfl,t⟩
def Ox (q g m c:Nat) (a:Int×Int×Int) (t:gP) (s:gz) (base:Nat) (w:gw) (u:w.heap[q]?=some (gJ (p5 a t) 61))
  (y:w.ownsRow base 5 1 t s.size (jY s)) (I:s.size<=1024) (_hm:m<=140737488351232) (H:1024 < s.size+m):
  Calls prog 15 #[gL q,rh g m c] w λe w'=>e=ir (.tuple #[gp 0,.iface 34 (gp 2)])/\w'=w:=by
 have G:w.cell? ⟨q,3,none⟩=some t:=by rw[fX u];rfl
 have F:∃x h,t= .slice x s.size h:=by
  rcases y.2 with⟨rfl,E⟩|⟨g,h,C,rfl,_⟩
  .exact⟨_,_,by rw[E]⟩
  .exact⟨_,_,rfl⟩
 obtain⟨x,h,rfl⟩:=F;have z:Hid _:=u;clear u y;go_enter func15,ntmps15;go_wp2_with fail;refine(xf q a _ _ z.out).mono ?_;rintro e w1 ⟨rfl,rfl⟩;go_wp2;go_ret2;exact⟨rfl,rfl⟩
def Qu (I:Nat) (a:Int×Int×Int) (u:gP) (s t:gz) (base:Nat) (w:gw) (hx:w.heap[I]?=some (gJ (p5 a u) 61))
  (ho:w.ownsRow base 5 1 u s.size (jY s)) (hs:s.size<=1024) (ht:t.size<=140737488351232) (hl:1024 < s.size+t.size) (hg:errorType w):
  Calls prog 10 #[gL I,gI t] w λe w'=>e=ir (.tuple #[gp 0,gp 2,.bool true])/\Kept [] w w':=by
 have m:=run_bytes_of_string (P:=prog) w 9 50 5 t underlying9 underlying50 underlying5;obtain⟨q,K⟩:∃q,q=grownCap w t.size 0 5:=⟨_,rfl⟩;rw[<-K]at m;clear K;have E:=xu t q;have C:=zY t q;generalize bytesRow t q=R at m E C;obtain⟨H,h⟩:∃H,H=w.drew.alloc (.cells R 5 (R.size,R.size+1)):=⟨_,rfl⟩;rw[<-h]at m;have hB:H.heap[w.heap.size]?=some (.cells R 5 (R.size,R.size+1)):=by rw[h];exact fZ w.drew _
 have G:Kept [] w H:=by rw[h];exact(Kept.refl [] w).drew.alloc _
 clear h;have a1:=jn hx;have T:=ho.lt;have x1:=G.at hx (by simp);have o1:=G.ownsRow ho (λ_ _=>by simp);have C1:=Ox I w.heap.size t.size q a u s base H x1 o1 hs ht hl;have F:=fW C1;have HB:=fW hB;have HR:=fW C;have HX:=fW T;have Y:=fW x1;have X:=fW o1;have O:=sR hg G (by simp);clear C1 hB C T x1 o1 hx ho hg;go_enter func10,ntmps10;go_wp2_with fail;refine F.out.mono ?_;rintro e w2 ⟨rfl,a0⟩;subst a0;clear m F;go_wp2_with fail;refine(Tt 2 _ O).mono ?_;rintro e U ⟨rfl,g⟩;have y:U.heap[w.heap.size]?=some (.cells R 5 (R.size,R.size+1)):=g.at HB.out (by simp);have J:Turned w.heap.size R.size I (p5 a u) base s.size u (jY s) [] w U:=
  ⟨⟨R,y,rfl⟩,g.at Y.out (by simp),g.ownsRow X.out (λ_ _=>by simp),G.trans g⟩
 have Q:u.ownBlock≠some w.heap.size:=by
  intro h';have:=(HX.out _ h').2;omega
 have z:(convert 50 9 (rh w.heap.size t.size q)).run prog U= .ok (gI t) U:=by
  have:=Oz (P:=prog) U 50 9 5 ⟨w.heap.size,0,none⟩ q t.data.toList underlying50 underlying5 underlying9 (λj hj=>by
   rw[jq,xS y];exact HR.out j _ (by unfold jY;rw[UU,rq hj];rfl))
  simpa using this
 have HT:=fW J;have HN:=fW Q;have Z:=fW E;clear J Q g y G E O;go_wp2_with fail;clear z
 go_loopw [33] (λi wr=>∃k:Nat,k<=t.size/\i=gp k/\Turned w.heap.size R.size I (p5 a u) base s.size u (jY s) [] w wr) (λi _=>t.size - (intOf i).toNat)
 case atStart=>exact⟨0,iP _,rfl,HT.out⟩
 case round=>
  obtain⟨k,hk,rfl,J⟩:=hrel;have x:=fW J;clear J
  by_cases a3:k < t.size
  .obtain⟨⟨v,hv⟩,a2⟩:=x.out.cell k (by have:=Z.out;omega);have HS:=fW (x.out.store (ij _) (by omega) HN.out k (.int .u8 33));go_wp2;go_roundw
   case rel=>exact⟨k+1,by omega,by go_num,HS.out⟩
   case measure=>simp[intOf];omega
  .go_wp2;go_ret3;exact⟨rfl,x.out.2.2.2⟩
def Bm (s:gz):kJ++s=s:=by
 apply Ko;rw[ByteArray.data_append];exact Array.empty_append
def ND:NE 64 32 16:=by unfold NE;decide
def Wj (s:gz) (w:gw) (F:1024 < s.size) (u:s.size<=140737488351232) (y:W4 w):
  Calls prog 4 #[gI s] w λe w'=>e=ir (.tuple #[.pointer none,.bool true])/\Kept [] w w':=by
 have x:=fW (NX 64 32 16 w ND);have E:=fW y;clear y;go_enter func4,ntmps4;go_wp2_with fail;refine x.out.mono ?_;rintro e w1 ⟨rfl,m,g⟩;have C:=fW (Qu w.heap.size (64,32,16) (jX) ⟨#[]⟩ s w1.heap.size w1 m (oY _ _ _ _) (by decide) u (by show 1024 < 0+s.size;omega) (E.out.kept g).er);have z:=fW g;clear x m g;go_wp2_with fail;refine C.out.mono ?_;rintro e G ⟨rfl,h⟩;have q:=fW (z.out.trans h);have t:(1024:Int) < (s.size:Int):=by omega
 clear h C;go_wp2;go_ret2;exact⟨by simp[t],q.out⟩
def Wl (s:gz) (w:gw) (X:s.size<=1024) (J:W4 w) (U:c≠0) (I:MI s 64 32 16 c p):
  Calls prog 4 #[gI s] w λe w'=>e=ir (.tuple #[.pointer none,.bool true])/\Kept [] w w':=by
 have F:=fW (NX 64 32 16 w ND);have G:=fW J;have P:=fW I;clear J I;go_enter func4,ntmps4;go_wp2_with fail;refine F.out.mono ?_;rintro e w1 ⟨rfl,u,q⟩;have C:=fW (Mg w.heap.size (64,32,16) (jX) ⟨#[]⟩ s w1.heap.size w1 u (oY _ _ _ _) (by show 0+s.size<=1024;omega) (ij _));have O:=fW q;clear F u q;go_wp2_with fail;refine C.out.mono ?_;rintro e K ⟨rfl,T,x,m,t,_⟩;have h:Kept [] w K:=O.out.next t (by simp[Value.ownBlock]);simp only[Bm]at m;have g:=G.out.kept h;have E:=fW (Qj w.heap.size 64 32 16 T s w1.heap.size K x m g.tab g.gl P.out g.er (by have:=G.out.el;omega));have y:=fW h;clear x m t h g C;go_wp2_with fail;refine E.out.mono ?_;rintro e Y ⟨k,rfl,H⟩;have z:=fW (y.out.next H.2.2 (by simp));have Q:¬((c:Int)=0):=by omega
 clear H E;go_wp2;go_ret2;exact⟨rfl,z.out⟩
def Wi (s:gz) (w:gw) (Z:s.size<=1024) (K:W4 w) (J:MH s 64 32 16 D L):
  Calls prog 4 #[gI s] w λe w'=>e=ir (.tuple #[gL w.heap.size,.bool true])/\(∃v k,w'.heap[w.heap.size]?=some (gJ (SR 64 32 16 s.size v k) 61)/\jI w' D (.el k))/\Kept [] w w':=by
 have F:=fW (NX 64 32 16 w ND);have X:=fW K;have T:=fW J;clear K J;go_enter func4,ntmps4;go_wp2_with fail;refine F.out.mono ?_;rintro e w1 ⟨rfl,u,q⟩;have C:=fW (Mg w.heap.size (64,32,16) (jX) ⟨#[]⟩ s w1.heap.size w1 u (oY _ _ _ _) (by show 0+s.size<=1024;omega) (ij _));have Q:=fW q;clear F u q;go_wp2_with fail;refine C.out.mono ?_;rintro e O ⟨rfl,Y,x,m,t,_⟩;have g:Kept [] w O:=Q.out.next t (by simp[Value.ownBlock]);simp only[Bm]at m;have h:=X.out.kept g;have E:=fW (abh w.heap.size 64 32 16 Y s w1.heap.size O x m h.tab h.gl T.out);have y:=fW g;clear x m t g h C;go_wp2_with fail;refine E.out.mono ?_;rintro e P ⟨rfl,v,k,G,H,_,_,I⟩;have z:=fW (y.out.next I (by simp));have U:=fW (show∃v k,P.heap[w.heap.size]?=some (gJ (SR 64 32 16 s.size v k) 61)/\jI P D (.el k)from⟨v,k,G,H⟩);clear G H I E;go_wp2;go_ret2;exact⟨rfl,U.out,z.out⟩
attribute [local go_sem] Oper.semAt_some
def KW.put (h:W.heap[l]?=some o) (m:o.isCells=false) (q:Obj):KW W (W.putObj l q):=by
 intro k c t g _;refine(pk ?_).trans g;rintro rfl;rw[h]at g;cases g;cases m
def KW.trans {B C : gw} (h:KW A B) (k:KW B C):KW A C:=λi c t m g=>k i c t (h i c t m g) g
def KW.jT {B : gw} (h:Kept [] A B):KW A B:=λi c t g _=>h.at g (by simp)
def uJ {B : gw} (h:Kept S A B) (u:∀k∈S,∃c t m,A.heap[k]?=some (.cells c t m)):KeepsOthers A B:=by
 refine⟨h.size,λk o g y=>(h.block k (Array.getElem?_eq_some_iff.1 g).1 ?_).trans g⟩;intro x;obtain⟨c,t,m,q⟩:=u k x;rw[g]at q;cases q;cases y
def GS {B : gw} (h:Kept S A B) (u:∀k∈S,∃c t m,A.heap[k]?=some (.cells c t m)/\t∉[110,275]):KW A B:=by
 intro k c t q z;refine(h.block k (Array.getElem?_eq_some_iff.1 q).1 ?_).trans q;intro x;obtain⟨c,C,m,g,y⟩:=u k x;rw[q]at g;simp at g;exact y (g.2.1▸z)
theorem xh (h:W.ownsRow base e sz v n xs) (x:W.heap[l]?=some o) (y:o.isCells=false) (z:Obj):(W.putObj l z).ownsRow base e sz v n xs:=by
 refine⟨h.1,?_⟩;rcases h.2 with e|⟨g,m,q,e,u,t,r⟩
 .grind
 .refine .inr ⟨g,m,q,e,u,(pk ?_).trans t,r⟩;rintro rfl;rw[x]at t;cases t;cases y
def AZ (h:Kept S w W) (u:w.heap.size<=l) (q:Obj):Kept S w (W.putObj l q):=by
 have g:=xF W l q;exact⟨g.os.trans h.os,g.tape.trans h.tape,g.output.trans h.output,jN h.size g.size,λk m t=>(g.block k (lU m h.size) (by intro e;cases e;omega)).trans (h.block k m t)⟩
def I4 (h:Kept [] w W) (m:w.heap.size<=l) (g:Obj):Kept [] w (W.putObj l g):=AZ h m g
def CQ (h1:1<=n) (ro:jg) {g:Operand} {p:Tmp} {Q:Exit->Act->gw->Prop} {a : Act} {gf : Nat} {recv : gP} (hg:a.eval g= .func (.func gf) #[recv] #[]) (eg:∀a8 w,(callFunc gf a8).run prog w= .ok (.enter gf a8) w)
  (a7:List It) (w0:gw)
  (ad:∀l J JE W,Xl l a7 w0 J JE->(∀pre W q,J pre W->Kept [] W q->J pre q)->(∀W q,JE W->Kept [] W q->JE q)->(∀V b,W.heap.size<=b->Wk V b l false->JE V->JE (V.setCell ⟨b,1,none⟩ (.bool true)))->J [] W->Kept [] w0 W->Calls prog gf #[recv,.func (.yield l) #[] #[]] W λe q=>e=p8/\(J a7 q\/JE q)/\Kept [] w0 q)
  (id:Nat) (H:List Deferred) (X:gw->Prop) (l:Nat) (G:w.heap.size<=l)
  (ao:∀fn,∃D W1,(Instr.enterLoop fn a.tmps #[p] assign body ro).run prog w= .ok (l,H) W1/\Kept [] w W1/\X W1/\W1.heap[l]?=some (.loop {state:= .ready,pending:=none,fn:=fn,tmps:=a.tmps,params:=#[p],assign:=assign,body:=body,defers:=D}))
  (T:∀W q,X W->KeepsOthers W q->X q) (Z:∀W o,X W->X (W.putObj l (.loop o)))
  (I:List It->gw->Prop) (E:gw->Prop) (al:∀pre W,I pre W->Kept [] w0 W) (av:∀W,E W->Kept [] w0 W) (a5:∀pre W q,I pre W->Kept [] W q->I pre q) (aw:∀W q,E W->Kept [] W q->E q)
  (ab:∀pre W k r o',w.heap.size<=k->W.heap[k]?=some (.loop r)->I pre W->I pre (W.putObj k (.loop o'))) (ak:∀W k r o',w.heap.size<=k->W.heap[k]?=some (.loop r)->E W->E (W.putObj k (.loop o')))
  (ax:∀V b l,w.heap.size<=b->Wk V b l false->E V->E (V.setCell ⟨b,1,none⟩ (.bool true)))
  (h0:I [] w) (A:It->Act->gw->Prop) (au:∀x Y W k r o',w.heap.size<=k->W.heap[k]?=some (.loop r)->A x Y W->A x Y (W.putObj k (.loop o')))
  (a0:∀(l:Nat) (pre:List It) (x:It) (W:gw) (K:Act->gw->Prop),I pre W->(∀Y q,Kept [] W q->A x Y q->K Y q)->
   assign.wpIn (Fence.wide.inRound l) 3 prog (Exit.then K (λ_ _ _=>False)) {tmps:=a.tmps.setIfInBounds p x.val,defers:=[]} W)
  (ac:∀(l:Nat) (pre:List It) (x:It) (Y:Act) (W:gw),w.heap.size<=l->(∃r,W.heap[l]?=some (.loop r))->I pre W->A x Y W->pre++[x] <+:a7->body.wpIn (Fence.wide.inRound l) 3 prog (λe _ q=>((e= .normal/\I (pre++[x]) q)\/(e= .exit id/\E q))/\KW W q/\KeepsOthers W q) Y W)
  (af:∀(W:gw),I a7 W->X W->Q .normal {a with defers:=H++a.defers} W)
  (ai:∀(W:gw),E W->X W->Q (.exit id) {a with defers:=H++a.defers} W):
  (Code.rangeFunc g #[p] assign body).wpIn {Fence.wide with round:=ro} n prog Q a w:=by
 refine wpIn_rangeFunc ?_;intro fn aB;obtain⟨D,W1,aq,aj,ay,am⟩:=ao fn;obtain⟨t,a4⟩:∃t:LoopState->Option Code->Loop,t=λst pe=>{state:=st,pending:=pe,fn:=fn,tmps:=a.tmps,params:=#[p],assign:=assign,body:=body,defers:=D}:=⟨_,rfl⟩;have er:∀st pe,t st pe={state:=st,pending:=pe,fn:=fn,tmps:=a.tmps,params:=#[p],assign:=assign,body:=body,defers:=D}:=λ_ _=>by rw[a4]
 rw[<-er]at am;have ko:∀{A B:gw},Kept [] A B->KeepsOthers A B:=λh=>uJ h (by simp);refine⟨l,H,W1,{target:= .fn (.func gf) #[],args:=#[recv,.func (.yield l) #[] #[]]},W1,gf,#[recv,.func (.yield l) #[] #[]],W1,aq,?_,?_,?_,λ_=>h1,?_⟩
 .simp only[resolve,hg];simp[go_sem]
 .intro f' _;trivial
 .simp[invoke,go_sem,eg]
 .have hC:=ad l (λpre W=>I pre W/\W.heap[l]?=some (.loop (t .ready none))/\X W) (λW=>E W/\W.heap[l]?=some (.loop (t .done (some (.exit id))))/\X W) W1 ?_ ?_ ?_ ?_ ⟨a5 _ _ _ h0 aj,am,ay⟩ (al _ _ (a5 _ _ _ h0 aj))
  .refine CallsIn.mono (F:={Fence.wide with round:=ro}) (callsIn_wide.2 hC) ?_;rintro e W2 ⟨rfl,⟨U,z,hx⟩|⟨U,z,hx⟩,_⟩
   .have m:=Fu (P:=prog) z (by rw[er];simp);rw[er]at m;exact⟨none,_,m,af _ (ab _ _ _ _ _ G z U) (Z _ _ hx)⟩
   .have m:=Fu (P:=prog) z (by rw[er];simp);rw[er]at m;exact⟨some (.exit id),_,m,wpIn_exit (ai _ (ak _ _ _ _ G z U) (Z _ _ hx))⟩
  .rintro pre x W hK ⟨U,z,hd⟩ ap;have aC:l < W.heap.size:=(Array.getElem?_eq_some_iff.1 z).1;have hy:(Instr.yield l #[x.val]).run prog W= .ok (.round l fn (a.tmps.setIfInBounds p x.val) assign body) W:=by
    have:=run_yield (P:=prog) (args:=#[x.val]) z (by rw[er];rfl);rw[er]at this
    simpa using this
   refine⟨fn,_,assign,body,hy,roundIn_of_wpIn trivial (a0 _ pre x W _ U ?_)⟩;intro Y Wa a6 hA;have a2:Wa.heap[l]?=some (.loop (t .ready none)):=(a6.block _ (Array.getElem?_eq_some_iff.1 z).1 (by simp)).trans z;have az:X Wa:=T _ _ hd (ko a6);refine⟨_,run_beginRound a2 (by rw[er]),?_⟩;obtain⟨W2,O⟩:∃W2,W2=Wa.putObj l (.loop {t .ready none with state:= .busy}):=⟨_,rfl⟩;rw[<-O];have aA:I pre W2:=by rw[O];exact ab _ _ _ _ _ G a2 (a5 _ _ _ U a6)
   have ar:A x Y W2:=by rw[O];exact au _ _ _ _ _ _ G a2 hA
   have ah:W2.heap[l]?=some (.loop {t .ready none with state:= .busy}):=by rw[O];exact C6 (Array.getElem?_eq_some_iff.1 a2).1
   have an:X W2:=by rw[O];exact Z _ _ az
   have a9:KW W W2:=by rw[O];exact(KW.jT a6).trans (KW.put a2 rfl _)
   refine wH (ac _ pre x Y W2 G ⟨_,ah⟩ aA ar ap) ?_;rintro e a3 W3 ⟨⟨rfl,ag⟩|⟨rfl,ag⟩,aa,C⟩
   .have y:=C.same _ _ ah rfl;have ae:=T _ _ an C;have m:=run_endRound (P:=prog) none y;have e1:({({t .ready none with state:= .busy}:Loop)with state:=if (none:Option Code).isNone then .ready else .done,pending:=none}:Loop)=t .ready none:=by subst a4;rfl
    rw[e1]at m;obtain⟨W4,u⟩:∃W4,W4=W3.putObj l (.loop (t .ready none)):=⟨_,rfl⟩;rw[<-u]at m;have a1:I (pre++[x]) W4:=by rw[u];exact ab _ _ _ _ _ G y ag
    refine⟨_,_,m,.inl ⟨rfl,a1,?_,?_⟩,al _ _ a1,?_⟩
    .rw[u];exact C6 (Array.getElem?_eq_some_iff.1 y).1
    .rw[u];exact Z _ _ ae
    .rw[u];exact(a9.trans aa).trans (KW.put y rfl _)
   .have y:=C.same _ _ ah rfl;have ae:=T _ _ an C;have m:=run_endRound (P:=prog) (some (.exit id)) y;have e1:({({t .ready none with state:= .busy}:Loop)with state:=if (some (Code.exit id):Option Code).isNone then .ready else .done,pending:=some (.exit id)}:Loop)=t .done (some (.exit id)):=by subst a4;rfl
    rw[e1]at m;obtain⟨W4,u⟩:∃W4,W4=W3.putObj l (.loop (t .done (some (.exit id)))):=⟨_,rfl⟩;rw[<-u]at m;have a1:E W4:=by rw[u];exact ak _ _ _ _ G y ag
    refine⟨_,_,m,.inr ⟨rfl,a1,?_,?_⟩,av _ a1,?_⟩
    .rw[u];exact C6 (Array.getElem?_eq_some_iff.1 y).1
    .rw[u];exact Z _ _ ae
    .rw[u];exact(a9.trans aa).trans (KW.put y rfl _)
  .rintro pre W q ⟨U,z,hd⟩ hk;exact⟨a5 _ _ _ U hk,(hk.block _ (Array.getElem?_eq_some_iff.1 z).1 (by simp)).trans z,T _ _ hd (ko hk)⟩
  .rintro W q ⟨U,z,hd⟩ hk;exact⟨aw _ _ U hk,(hk.block _ (Array.getElem?_eq_some_iff.1 z).1 (by simp)).trans z,T _ _ hd (ko hk)⟩
  .rintro V b hb hw ⟨U,z,hd⟩;have C:=Kf V ⟨b,1,none⟩ (.bool true);exact⟨ax _ _ _ (jN aj.size hb) hw U,C.same _ _ z rfl,T _ _ hd C⟩
def LP {a : Act} {p:Tmp}:∀h,∃D g,(Instr.enterLoop h a.tmps #[p] assign body none).run prog w= .ok (w.heap.size+1,[{target:= .collected w.heap.size,args:=#[]}]) g/\Kept [] w g/\g.heap[w.heap.size]?=some (.deferred (some []))/\g.heap[w.heap.size+1]?=some (.loop {state:= .ready,pending:=none,fn:=h,tmps:=a.tmps,params:=#[p],assign:=assign,body:=body,defers:=D}):=by
 intro h;refine⟨w.heap.size,_,run_enterLoop_outer _ _ _ _ _,((Kept.refl _ _).alloc _).alloc _,(Below.heap_alloc _ _ _ (by simp)).trans (C5 w _),?_⟩;have:=C5 (w.alloc (.deferred (some []))) (.loop {state:= .ready,pending:=none,fn:=h,tmps:=a.tmps,params:=#[p],assign:=assign,body:=body,defers:=w.heap.size})
 rwa [ry]at this
def VK {a : Act} {p:Tmp} {q : Nat} {t:Loop} (h:w.heap[q]?=some (.loop t)):∀m,∃D g,(Instr.enterLoop m a.tmps #[p] assign body (some q)).run prog w= .ok (w.heap.size,[]) g/\Kept [] w g/\True/\g.heap[w.heap.size]?=some (.loop {state:= .ready,pending:=none,fn:=m,tmps:=a.tmps,params:=#[p],assign:=assign,body:=body,defers:=D}):=
 λm=>⟨t.defers,_,run_enterLoop_inner h _ _ _ _ _,(Kept.refl _ _).alloc _,trivial,C5 w _⟩
attribute [local go_sem] Oper.semAt_some
def qp (L:List It):List gP:=L.flatMap λx=>[gp x.k,gI x.s,gI x.t]
def Br (L M:List It):qp (L++M)=qp L++qp M:=List.flatMap_append ..
def LY:(prog.info? 44).map (λi=>(i.zero,i.size,i.bytes))=some (some (.agg #[gp 0,gI kJ,gI kJ]),3,40):=by kernel_rfl
def MQ {h : gw} {g : Nat} {z : TypeId} {E : Nat} {v' : gP} {u : List gP} (F:W.heap[g]?=some (gJ #[v] z)) (I:W.ownsRow base tE sz v n xs) (J:g < base) (t:h.ownsRow base tE sz v' E u) (x:(W.alloc o).grownBy h v.ownBlock):
  h.heap[g]?=some (gJ #[v] z)/\(h.setCell ⟨g,0,none⟩ v').heap[g]?=some (gJ #[v'] z)/\(h.setCell ⟨g,0,none⟩ v').ownsRow base tE sz v' E u/\Kept (g::v.ownBlock.toList) W (h.setCell ⟨g,0,none⟩ v'):=by
 have C:Kept v.ownBlock.toList W h:=((Kept.refl _ _).alloc _).grown x (λk e=> .inl (by rw[e];simp));have m:=C.at F (λy=>by
  have:=(I.lt g (by simpa using y)).1;omega)
 refine⟨m,gh m 0 _,((Kept.refl [g] h).setCell (.inl (by simp)) _).ownsRow t (λq H y=>?_),(C.mono (λk G _=>oX _ G)).setCell (.inl (by simp)) _⟩;have:=(t.lt q H).1;have:=List.mem_singleton.1 y;omega
def ux (u:W.ownsRow base tE sz v n xs):∀k∈v.ownBlock.toList,∃c,W.heap[k]?=some (gJ c tE):=by
 intro k h;rcases u.2 with⟨rfl,_⟩|⟨g,m,q,rfl,_,t,_⟩
 .simp[Value.ownBlock]at h
 .simp[Value.ownBlock]at h;subst h;exact⟨_,t⟩
def Jo {d : Bool} (x:Wk V b l d) (h:V.ownsRow base tE sz v n xs) (t:tE≠110) (u:gP):(V.setCell ⟨b,1,none⟩ u).ownsRow base tE sz v n xs:=by
 refine((Kept.refl [b] V).setCell (.inl (by simp)) _).ownsRow h (λk m q=>?_);have e:=List.mem_singleton.1 q;subst e;obtain⟨c,g⟩:=ux h k (by simp[m]);rw[show V.heap[k]?=_ from x]at g;simp at g;exact t g.2.symm
def FJ {d : Bool} (x:Wk V b l d) {c : jO} {t : TypeId} {m : Nat×Nat} (g:V.heap[k]?=some (.cells c t m)) (q:t≠110) (u:gP):(V.setCell ⟨b,1,none⟩ u).heap[k]?=some (.cells c t m):=by
 refine((Kept.refl [b] V).setCell (.inl (by simp)) _).at g (λh=>?_);have e:=List.mem_singleton.1 h;subst e;rw[show V.heap[k]?=_ from x]at g;simp at g;exact q g.2.1.symm
def Ze (w:gw) (I k:Nat) (c:jO) (Z:gz) (gM:kY) (ts:List Tn) (hp:ZW w I c k) (h:jI w (.el Z gM ts) (.el k)) (E:List It) (ht:jJ (ve (λ_=>false) ts)=E) (hn:E.length<=1000000000):
  Calls prog 5 #[gL I,gp 0] w λe w'=>∃v,e=ir (.tuple #[v,.bool true])/\w'.ownsRow w.heap.size 44 3 v E.length (qp E)/\Kept [] w w':=by
 refine(wI (n:=5)).1 ?_;refine wJ func5 rfl trivial ?_ rfl;simp only[ntmps5,wK,qd,uQ,Nat.reduceAdd,Nat.reduceSub,wL,wM,wN,wO,rQ,uR];have HP:=fW hp;have HT:=fW h;have ad:=fW ht;clear hp h ht;have O:∀w',(binOp .eql 41 (.func (.func 17) #[gL I] #[]) .nilFunc).run prog w'= .ok (.bool false) w':=λw'=>by rfl
 gi_wp2_with (refine⟨trivial,?_⟩;gi_at_call 12;refine(callsIn_wide.2 (EK _ I)).mono ?_;rintro e w' ⟨rfl,rfl⟩)
 clear O;obtain⟨w1,H⟩:∃w1,w1=(w.alloc (gJ #[gp 0] 3)).alloc (gJ #[jX] 25):=⟨_,rfl⟩;have z1:w1.heap.size=w.heap.size+2:=by rw[H];simp
 have k1:Kept [] w w1:=by rw[H];exact((Kept.refl _ _).alloc _).alloc _
 have n1:w1.heap[w.heap.size]?=some (gJ #[gp 0] 3):=by rw[H];exact(Below.heap_alloc _ _ _ (by simp)).trans (fZ w _)
 have g1:w1.heap[w.heap.size+1]?=some (gJ #[jX] 25):=by rw[H];have:=fZ (w.alloc (gJ #[gp 0] 3)) (gJ #[jX] 25);rwa [ry]at this
 rw[<-H];clear H;obtain⟨i0,hi,ai,aj,ak⟩:=vp LY;have HE:=fW (enters_of func17 (by kernel_rfl) rfl);have a4:=ad.out;have HC:=fW (λl J JE W hY hm af ag h0 hK=>UN l I k c Z gM ts w HP.out HT.out J JE (by rw[a4];exact hY) hm af W ag hK h0);rw[a4]at HC;clear a4;have ab:∀{W:gw},Kept [w.heap.size+1] w1 W->Kept [] w W:=λh=>k1.next h (by simp);refine CQ (by omega) none (gf:=17) (recv:=gL I) rfl HE.out E w HC.out 0 _ (λW=>W.heap[w1.heap.size]?=some (.deferred (some []))) (w1.heap.size+1) (by omega) LP (λW W' h hk=>hk.same _ _ h rfl) (λW o h=>(pk (by omega)).trans h)
  (λpre W=>∃v,W.heap[w.heap.size+1]?=some (gJ #[v] 25)/\W.ownsRow w1.heap.size 44 3 v pre.length (qp pre)/\Kept [w.heap.size+1] w1 W) (λ_=>False)
  (λ_ _ h=>by obtain⟨_,_,_,h⟩:=h;exact ab h) (λ_ h=>h.elim) ?_ (λ_ _ h _=>h) ?_ (λ_ _ _ _ _ _ h=>h) (λ_ _ _ _ _ h=>h) ⟨_,g1,oY _ _ _ _,Kept.refl _ _⟩
  (λx a' W=>∃X,w1.heap.size<=X/\W.heap[X]?=some (gJ #[gp x.k,gI x.s,gI x.t] 44)/\a'={tmps:=#[gL I,gp 0,undef,gL w.heap.size,jX,.bool false,.func (.func 17) #[gL I] #[],gL (w.heap.size+1),gL X,gL I,.func (.func 17) #[gL I] #[],.func (.func 17) #[gL I] #[],.bool false,.func (.func 17) #[gL I] #[],x.val,undef,undef,undef,undef,undef,undef,undef,undef,undef],defers:=[]}) ?_ ?assign ?body ?done ?halt
 .rintro pre W W' ⟨v,C,z,F⟩ hk;exact⟨v,hk.at C (by simp),hk.ownsRow z (λ_ _=>by simp),F.trans (hk.mono (by simp))⟩
 .rintro pre W k r o' hk hl ⟨v,C,z,F⟩;exact⟨v,(pk (by omega)).trans C,xh z hl rfl _,AZ F (by omega) _⟩
 .rintro x a' W k r o' hk hl ⟨X,C,z,F⟩;refine⟨X,C,(pk ?_).trans z,F⟩;rintro rfl;rw[hl]at z;cases z
 case assign=>
  rintro l pre x W K ⟨v,C,z,F⟩ hK;have hz:=F.size;gi_wp2;exact hK _ _ ((Kept.refl [] W).alloc _) ⟨W.heap.size,by omega,fZ W _,rfl⟩
 case body=>
  rintro l pre x a' W _ _ ⟨v,C,z,F⟩ ⟨X,hX,h4,rfl⟩ Y;have U:pre.length+1<=E.length:=by have:=Y.length_le;simpa using this
  have hz:=F.size;have c1:W.cell? ⟨w.heap.size+1,0,none⟩=some v:=by rw[fX C];rfl
  have f1:=gG C 0;have x0:W.cell? ⟨X,0,none⟩=some (gp x.k):=by rw[fX h4];rfl
  have x1:W.cell? ⟨X,1,none⟩=some (gI x.s):=by rw[fX h4];rfl
  have x2:W.cell? ⟨X,2,none⟩=some (gI x.t):=by rw[fX h4];rfl
  obtain⟨ao,cp,hv⟩:=gH z;subst hv;have a6:=fW C;have G:=fW z;have a0:=fW F;have ae:=jn C;have HB:=fW ae;have HZ:=fW hz;have T:=fW U;have a7:=fW hn;have a8:=fW z1;have ac:=fW n1;clear C z F h4 Y hz U hn n1 z1
  gi_wp2_with (gi_at_builtin;refine wpListIn_append_own _ rfl _ _ 25 rfl w1.heap.size 44 i0 (.agg #[gp 0,gI kJ,gI kJ]) 3 40 underlying25 hi ai aj ak rfl (by decide) _ _ _ rfl (G.out.alloc _) ⟨W.heap.size,0,none⟩ 1 1 [gp x.k,gI x.s,gI x.t] rfl rfl ?c1 ?c2 ?c3 ?c4 ?c5 ?_)
  case c1=>
   intro j u hj;have hg:=fZ W (gJ #[gp x.k,gI x.s,gI x.t] 44);rw[jq,fX hg]
   match j,hj with
   |0,hj=>exact hj
   |1,hj=>exact hj
   |2,hj=>exact hj
  case c2=>
   intro u hu;simp at hu;rcases hu with rfl|rfl|rfl<;>rfl
  case c3=>have:=T.out;have:=a7.out;unfold maxLen;omega
  case c4=>have:=T.out;have:=a7.out;omega
  case c5=>have:=HB.out;have:=HZ.out;have:=a8.out;simp;omega
  intro v' P a3 a9 _;obtain⟨g,y,ah⟩:=gH a3;subst ah;obtain⟨a1,a2,aa,Q⟩:=MQ a6.out G.out (by have:=a8.out;omega) a3 a9;have c3:P.cell? ⟨w.heap.size+1,0,none⟩=some (.slice ao pre.length cp):=by rw[fX a1];rfl
  have f3:=gG a1 0;have kk:Kept [w.heap.size+1] w1 (P.setCell ⟨w.heap.size+1,0,none⟩ (.slice g (pre.length+1) y)):=a0.out.next Q (λq O=>by
   rcases List.mem_cons.1 O with rfl|O
   .exact .inl (by simp)
   .exact .inr (G.out.lt q (by simpa using O)).1)
  have ow:(P.setCell ⟨w.heap.size+1,0,none⟩ (.slice g (pre.length+1) y)).ownsRow w1.heap.size 44 3 (.slice g (pre.length+1) y) (pre++[x]).length (qp (pre++[x])):=by
   have e2:qp (pre++[x])=qp pre++[gp x.k,gI x.s,gI x.t]:=by rw[Br];rfl
   rw[e2,p6];exact aa
  have hS:∀k∈(w.heap.size+1)::(Value.slice ao pre.length cp).ownBlock.toList,∃c t m,W.heap[k]?=some (.cells c t m)/\t∉[110,275]:=λq O=>by
   rcases List.mem_cons.1 O with rfl|O
   .exact⟨_,_,_,a6.out,by decide⟩
   .obtain⟨cc,hc⟩:=ux G.out q O;exact⟨_,_,_,hc,by decide⟩
  have c4:(P.setCell ⟨w.heap.size+1,0,none⟩ (.slice g (pre.length+1) y)).cell? ⟨w.heap.size+1,0,none⟩=some (.slice g (pre.length+1) y):=by rw[fX a2];rfl
  have c5:(P.setCell ⟨w.heap.size+1,0,none⟩ (.slice g (pre.length+1) y)).cell? ⟨w.heap.size,0,none⟩=some (gp 0):=by rw[fX (kk.at ac.out (by simp))];rfl
  have HF:=fW (show(∃v,(P.setCell ⟨w.heap.size+1,0,none⟩ (.slice g (pre.length+1) y)).heap[w.heap.size+1]?=some (gJ #[v] 25)/\(P.setCell ⟨w.heap.size+1,0,none⟩ (.slice g (pre.length+1) y)).ownsRow w1.heap.size 44 3 v (pre++[x]).length (qp (pre++[x]))/\Kept [w.heap.size+1] w1 (P.setCell ⟨w.heap.size+1,0,none⟩ (.slice g (pre.length+1) y)))/\KW W (P.setCell ⟨w.heap.size+1,0,none⟩ (.slice g (pre.length+1) y))/\KeepsOthers W (P.setCell ⟨w.heap.size+1,0,none⟩ (.slice g (pre.length+1) y))from⟨⟨_,a2,ow,kk⟩,GS Q hS,uJ Q (λq O=>by obtain⟨c,t,m,h,_⟩:=hS q O;exact⟨c,t,m,h⟩)⟩);clear a3 a9 a1 a2 aa Q kk ow hS;gi_wp2;exact⟨by simpa using HF.out.1,HF.out.2⟩
 case done=>
  rintro W ⟨v,C,z,F⟩ hd;obtain⟨ao,cp,hv⟩:=gH z;subst hv;have c1:W.cell? ⟨w.heap.size+1,0,none⟩=some (.slice ao E.length cp):=by rw[fX C];rfl
  have G:=fW z;have a0:=fW (ab F);have HD:=fW hd;have a5:=fW z1;clear C z F hd;gi_wp2;refine⟨by simp,.inl ⟨_,_,rfl,nN HD.out,?_⟩⟩;refine⟨_,results_tmp2 rfl _ _ _,_,rfl,?_,I4 a0.out (by have:=a5.out;omega) _⟩;exact jV (xh G.out HD.out rfl (.deferred none)) (by have:=a5.out;omega)
 case halt=>rintro W h;exact h.elim
def Kd (P:1<=n) {g:Operand} {p:Tmp} {Q:Exit->Act->gw->Prop} {a : Act} {gf : Nat} {recv : gP} (hg:a.eval g= .func (.func gf) #[recv] #[]) (eg:∀C w,(callFunc gf C).run prog w= .ok (.enter gf C) w)
  (y:List It) (O:gw)
  (F:∀l J I W,Xl l y O J I->(∀pre W z,J pre W->Kept [] W z->J pre z)->(∀W z,I W->Kept [] W z->I z)->(∀V b,W.heap.size<=b->Wk V b l false->I V->I (V.setCell ⟨b,1,none⟩ (.bool true)))->J [] W->Kept [] O W->Calls prog gf #[recv,.func (.yield l) #[] #[]] W λe z=>e=p8/\(J y z\/I z)/\Kept [] O z)
  {Z : Nat} (H:∃r0,w.heap[Z]?=some (.loop r0)) (Y:Kept [] O w) (t m:Nat) (X:O.heap.size<=t) (hn:w.heap[t]?=some (gJ #[gp m] 3))
  (E:∀(l j:Nat) (x:It) (W:gw),j < y.length->W.heap[t]?=some (gJ #[gp ((m+j:Nat))] 3)->body.wpIn (Fence.wide.inRound l) 3 prog (λe _ z=>e= .normal/\z=W.setCell ⟨t,0,none⟩ (gp ((m+j+1:Nat)))) {tmps:=a.tmps.setIfInBounds p x.val,defers:=[]} W)
  (G:∀(W:gw),W.heap[t]?=some (gJ #[gp ((m+y.length:Nat))] 3)->Kept [t] w W->Q .normal a W):
  (Code.rangeFunc g #[p] .skip body).wpIn (Fence.wide.inRound Z) n prog Q a w:=by
 obtain⟨r0,H⟩:=H;have hb:=jn hn;have kk:∀(W:gw) v,W.heap[t]?=some (gJ #[v] 3)->∀u,Kept [t] W (W.setCell ⟨t,0,none⟩ u)/\KW W (W.setCell ⟨t,0,none⟩ u)/\KeepsOthers W (W.setCell ⟨t,0,none⟩ u):=by
  intro W v h u;have k:=(Kept.refl [t] W).setCell (p:=⟨t,0,none⟩) (.inl (by simp)) u;refine⟨k,GS k (λq hq=>?_),Kf _ _ _⟩;have e:=List.mem_singleton.1 hq;subst e;exact⟨_,_,_,h,by decide⟩
 refine CQ P (some Z) hg eg y O F 0 [] (λ_=>True) w.heap.size (ij _) (VK H) (λ_ _ _ _=>trivial) (λ_ _ _=>trivial)
  (λpre W=>W.heap[t]?=some (gJ #[gp ((m+pre.length:Nat))] 3)/\Kept [t] w W) (λ_=>False)
  (λ_ _ h=>Y.next h.2 (by simpa using X)) (λ_ h=>h.elim) (λ_ _ _ h U=>⟨U.at h.1 (by simp),h.2.trans (U.mono (by simp))⟩) (λ_ _ h _=>h)
  (λ_ _ _ _ _ U _ h=>⟨(pk (by omega)).trans h.1,AZ h.2 U _⟩) (λ_ _ _ _ _ _ h=>h) (λ_ _ _ _ _ h=>h) ⟨hn,Kept.refl _ _⟩
  (λx a' _=>a'={tmps:=a.tmps.setIfInBounds p x.val,defers:=[]}) (λ_ _ _ _ _ _ _ _ h=>h)
  (λl pre x W K _ hK=>wpIn_skip (hK _ _ (Kept.refl _ _) rfl)) ?_ (λW h _=>G W h.1 h.2) (λ_ h=>h.elim)
 rintro l pre x a' W _ _ ⟨P,h2⟩ rfl T;have a0:pre.length+1<=y.length:=by have:=T.length_le;simpa using this
 refine wH (E l pre.length x W (by omega) P) ?_;rintro e a3 W3 ⟨rfl,rfl⟩;obtain⟨k1,k2,k3⟩:=kk W _ P (gp ((m+pre.length+1:Nat)));refine⟨.inl ⟨rfl,?_,h2.trans k1⟩,k2,k3⟩;have:=gh P 0 (gp ((m+pre.length+1:Nat)));rw[p6];exact this
attribute [local go_sem] Oper.semAt_some
def ab4:(prog.info? 3).map (λi=>(i.zero,i.size,i.bytes))=some (some (gp 0),1,8):=by kernel_rfl
def xQ (w:gw) (o:Obj) (k:Nat):(w.alloc o).heap[k]?=if k=w.heap.size then some o else w.heap[k]?:=by
 split
 .rename_i h;subst h;exact fZ w o
 .rename_i h;rcases rA k w.heap.size with g|g
  .exact Below.heap_alloc w o k g
  .rw[BJ (by simp;omega),BJ g]
def WI (w1:gw) (b3 b4 N:Nat) (pre:List It) (W:gw):Prop:=∃v u,W.heap[b3]?=some (gJ #[v] 25)/\W.ownsRow w1.heap.size 44 3 v pre.length (qp pre)/\W.heap[b4]?=some (gJ #[u] 29)/\W.ownsRow w1.heap.size 3 1 u (min 3 pre.length) (List.replicate (min 3 pre.length) (gp ((2*N:Nat))))/\Kept [b3,b4] w1 W
def WI.kept {m : gw} (h:WI w1 b3 b4 N pre W) (g:Kept [] W m):WI w1 b3 b4 N pre m:=by
 obtain⟨v,u,q,t,x,y,z⟩:=h;exact⟨v,u,g.at q (by simp),g.ownsRow t (λ_ _=>by simp),g.at x (by simp),g.ownsRow y (λ_ _=>by simp),z.trans (g.mono (by simp))⟩
def WI.put (h:WI w1 b3 b4 N pre W) (E:b3 < w1.heap.size/\b4 < w1.heap.size) {r C:Loop} (z:w1.heap.size<=k) (g:W.heap[k]?=some (.loop r)):WI w1 b3 b4 N pre (W.putObj k (.loop C)):=by
 obtain⟨v,u,m,q,t,x,y⟩:=h;exact⟨v,u,(pk (by omega)).trans m,xh q g rfl _,(pk (by omega)).trans t,xh x g rfl _,AZ y z _⟩
def WI.ad0 (h:WI w1 b3 b4 N pre V) {d : Bool} (C:w1.heap.size<=b) (g:Wk V b l d) (x:gP):WI w1 b3 b4 N pre (V.setCell ⟨b,1,none⟩ x):=by
 obtain⟨v,u,m,q,t,y,z⟩:=h;exact⟨v,u,FJ g m (by decide) _,Jo g q (by decide) _,FJ g t (by decide) _,Jo g y (by decide) _,z.setCell (.inr C) _⟩
def S5 (w:gw) (C k left:Nat) (c:jO) (aF:gz) (gM:kY) (ts:List Tn) (hp:ZW w C c k) (h:jI w (.el aF gM ts) (.el k)) (g:List It) (ht:jJ (ve (λ_=>false) ts)=g) (hn:g.length<=1000000000) (ck:1<=left) (cl:left<=1000) (P:List It) (hP:g.take left=P) (M:Int) (hM:((2*g.length:Nat):Int)=M):
  Calls prog 7 #[gL C,gp left] w λe w'=>∃v u,e=ir (.tuple #[v,u])/\w'.ownsRow w.heap.size 44 3 v P.length (qp P)/\w'.ownsRow w.heap.size 3 1 u (min 3 P.length) (List.replicate (min 3 P.length) (gp M))/\Kept [] w w':=by
 refine(wI (n:=5)).1 ?_;refine wJ func7 rfl trivial ?_ rfl;simp only[ntmps7,wK,qd,uQ,Nat.reduceAdd,Nat.reduceSub,wL,wM,wN,wO,rQ,uR];have HP:=fW hp;have HT:=fW h;have bP:=fW ht;have ar:=fW hP;have bd:=fW hM;clear hp h ht hP hM;have z:∀w',(binOp .eql 41 (.func (.func 17) #[gL C] #[]) .nilFunc).run prog w'= .ok (.bool false) w':=λw'=>by rfl
 obtain⟨wA,ay⟩:∃wA,wA=((w.alloc (gJ #[gL C] 22)).alloc (gJ #[gp left] 3)).alloc (gJ #[.nilFunc] 41):=⟨_,rfl⟩;have aT:wA.heap[w.heap.size+1+1]?=some (gJ #[.nilFunc] 41):=by rw[ay];have:=fZ ((w.alloc (gJ #[gL C] 22)).alloc (gJ #[gp left] 3)) (gJ #[.nilFunc] 41);rwa [ry,ry]at this
 have cA:wA.cell? ⟨w.heap.size+1+1,0,none⟩=some .nilFunc:=by rw[fX aT];rfl
 have fA:=gG aT 0;have bR:=fW ay;have bD:∀(w':gw) a,(store a (.func (.func 17) #[gL C] #[])).run prog w'=stored prog w' a (.func (.func 17) #[gL C] #[]) .plain:=λw' a=>run_store _ _ _ _ _ rfl;rw[ay]at cA fA;clear aT ay
 gi_wp2_with (refine⟨trivial,?_⟩;gi_at_call 12;refine(callsIn_wide.2 (EK _ C)).mono ?_;rintro e w' ⟨rfl,rfl⟩)
 clear z cA fA bR;have cj:=fW bD;clear bD;obtain⟨w1,Y⟩:∃w1,w1=((((w.alloc (gJ #[gL C] 22)).alloc (gJ #[gp left] 3)).alloc (gJ #[.func (.func 17) #[gL C] #[]] 41)).alloc (gJ #[jX] 25)).alloc (gJ #[jX] 29):=⟨_,rfl⟩;have z1:w1.heap.size=w.heap.size+5:=by rw[Y];simp
 have k1:Kept [] w w1:=by rw[Y];exact(((((Kept.refl _ _).alloc _).alloc _).alloc _).alloc _).alloc _
 have n0:w1.heap[w.heap.size]?=some (gJ #[gL C] 22):=by rw[Y];simp only[xQ,ry];repeat (first|rw[gF trivial]|rw[gF (by omega)]|rw[gR (by omega)])
 have n1:w1.heap[w.heap.size+1]?=some (gJ #[gp left] 3):=by rw[Y];simp only[xQ,ry];repeat (first|rw[gF trivial]|rw[gF (by omega)]|rw[gR (by omega)])
 have n2:w1.heap[w.heap.size+1+1]?=some (gJ #[.func (.func 17) #[gL C] #[]] 41):=by rw[Y];simp only[xQ,ry];repeat (first|rw[gF trivial]|rw[gF (by omega)]|rw[gR (by omega)])
 have n3:w1.heap[w.heap.size+1+1+1]?=some (gJ #[jX] 25):=by rw[Y];simp only[xQ,ry];repeat (first|rw[gF trivial]|rw[gF (by omega)]|rw[gR (by omega)])
 have n4:w1.heap[w.heap.size+1+1+1+1]?=some (gJ #[jX] 29):=by rw[Y];simp only[xQ,ry];repeat (first|rw[gF trivial]|rw[gF (by omega)]|rw[gR (by omega)])
 rw[<-Y];clear Y;generalize e4:w.heap.size+1+1+1+1=b4 at n4|-;generalize e3:w.heap.size+1+1+1=b3 at n3|-;generalize e2:w.heap.size+1+1=b2 at n2|-;generalize e1:w.heap.size+1=b1 at n1|-;have EE:=fW (And.intro (And.intro e1 e2) (And.intro (And.intro e3 e4) z1));clear e1 e2 e3 e4 z1;obtain⟨i0,hi,c8,ca,bH⟩:=vp LY;obtain⟨j0,hj,c0,c6,c7⟩:=vp ab4;have HE:=fW (enters_of func17 (by kernel_rfl) rfl);have b6:=bP.out;have HC:=fW (λl J JE W hY hm bW bX h0 hK=>UN l C k c aF gM ts w HP.out HT.out J JE (by rw[b6];exact hY) hm bW W bX hK h0);rw[b6]at HC;clear b6;have be:=fW n0;have bf:=fW n1;have bM:=fW n2;have bJ:∀{W:gw},Kept [b3,b4] w1 W->Kept [] w W:=λh=>k1.next h (by have:=EE.out;simp;omega);have af:=fW (show∀W:gw,Kept [b3,b4] w1 W->Kept [] w W from λW h=>bJ h);have aq:=fW hn;clear n0 n1 n2 bJ hn k1;refine CQ (by omega) none (gf:=17) (recv:=gL C) rfl HE.out g w HC.out 0 _ (λW=>W.heap[w1.heap.size]?=some (.deferred (some []))) (w1.heap.size+1) (by omega) LP (λW W' h hk=>hk.same _ _ h rfl) (λW o h=>(pk (by omega)).trans h)
  (λpre W=>pre.length < left/\WI w1 b3 b4 g.length pre W) (λW=>∃pre,pre <+:g/\pre.length=left/\WI w1 b3 b4 g.length pre W)
  (λ_ _ h=>by obtain⟨_,_,_,_,_,_,_,h⟩:=h;exact af.out _ h) (λ_ h=>by obtain⟨_,_,_,_,_,_,_,_,_,h⟩:=h;exact af.out _ h) (λ_ _ _ h hk=>⟨h.1,h.2.kept hk⟩) (λ_ _ h hk=>by obtain⟨p,G,E,F⟩:=h;exact⟨p,G,E,F.kept hk⟩) (λ_ _ _ _ _ hk hl h=>⟨h.1,h.2.put (by have:=EE.out;omega) hk hl⟩) (λ_ _ _ _ hk hl h=>by obtain⟨p,G,E,F⟩:=h;exact⟨p,G,E,F.put (by have:=EE.out;omega) hk hl⟩)
  (λ_ _ _ hb hw h=>by obtain⟨p,G,E,F⟩:=h;exact⟨p,G,E,F.ad0 hb hw _⟩) ⟨by show 0 < left;omega,_,_,n3,oY _ _ _ _,n4,oY _ _ _ _,Kept.refl _ _⟩
  (λx a' W=>∃X,w1.heap.size<=X/\W.heap[X]?=some (gJ #[gp x.k,gI x.s,gI x.t] 44)/\a'={tmps:=#[gL C,gp left,gL w.heap.size,gL b1,jX,jX,gL b2,gL b3,gL b4,gL X,undef,gL C,.func (.func 17) #[gL C] #[],.func (.func 17) #[gL C] #[],.bool false,.func (.func 17) #[gL C] #[],x.val,undef,undef,undef,undef,undef,undef,undef,undef,undef,undef,undef,undef,undef,undef,undef,undef,undef,undef,undef,undef,undef,undef,undef,undef,undef,undef],defers:=[]}) ?_ ?assign ?body ?done ?halt
 .rintro x a' W k r o' hk hl ⟨X,G,E,F⟩;refine⟨X,G,(pk ?_).trans E,F⟩;rintro rfl;rw[hl]at E;cases E
 case assign=>
  rintro l pre x W K ⟨_,v,u,G,E,_,_,F⟩ hK;have hz:=F.size;gi_wp2;exact hK _ _ ((Kept.refl [] W).alloc _) ⟨W.heap.size,by omega,fZ W _,rfl⟩
 case body=>
  clear n3 n4;rintro l pre x a' W bz bA ⟨a4,v,u,G,E,h5,h6,F⟩ ⟨X,hX,h4,rfl⟩ O;have aE:pre.length+1<=g.length:=by have:=O.length_le;simpa using this
  have hz:=F.size;have c1:W.cell? ⟨b3,0,none⟩=some v:=by rw[fX G];rfl
  have f1:=gG G 0;have x0:W.cell? ⟨X,0,none⟩=some (gp x.k):=by rw[fX h4];rfl
  have x1:W.cell? ⟨X,1,none⟩=some (gI x.s):=by rw[fX h4];rfl
  have x2:W.cell? ⟨X,2,none⟩=some (gI x.t):=by rw[fX h4];rfl
  obtain⟨ao,cp,hv⟩:=gH E;subst hv;have aI:=fW G;have I:=fW E;have ab:=fW F;have aJ:=fW h5;have a1:=fW h6;have bU:=jn G;have HB:=fW bU;have HZ:=fW hz;have aA:=fW aE;have bO:=fW a4;have bL:=fW bA;have bh:=fW O;have HX:=fW (And.intro hX bz);clear G E F h4 h5 h6 O hz aE a4 bA hX bz
  gi_wp2_with (gi_at_builtin;refine wpListIn_append_own _ rfl _ _ 25 rfl w1.heap.size 44 i0 (.agg #[gp 0,gI kJ,gI kJ]) 3 40 underlying25 hi c8 ca bH rfl (by decide) _ _ _ rfl (I.out.alloc _) ⟨W.heap.size,0,none⟩ 1 1 [gp x.k,gI x.s,gI x.t] rfl rfl ?c1 ?c2 ?c3 ?c4 ?c5 ?_)
  case c1=>
   intro j u hj;have hg:=fZ W (gJ #[gp x.k,gI x.s,gI x.t] 44);rw[jq,fX hg]
   match j,hj with
   |0,hj=>exact hj
   |1,hj=>exact hj
   |2,hj=>exact hj
  case c2=>
   intro u hu;simp at hu;rcases hu with rfl|rfl|rfl<;>rfl
  case c3=>have:=aA.out;have:=aq.out;unfold maxLen;omega
  case c4=>have:=aA.out;have:=aq.out;omega
  case c5=>have:=HB.out;have:=HZ.out;simp;omega
  intro v' w3 aZ bt _;obtain⟨ag,ah,bZ⟩:=gH aZ;subst bZ;obtain⟨aP,aj,b0,a6⟩:=MQ aI.out I.out (by have:=EE.out;omega) aZ bt;have c3:w3.cell? ⟨b3,0,none⟩=some (.slice ao pre.length cp):=by rw[fX aP];rfl
  have f3:=gG aP 0;obtain⟨W4,a5⟩:∃W4,W4=w3.setCell ⟨b3,0,none⟩ (.slice ag (pre.length+1) ah):=⟨_,rfl⟩;rw[<-a5]at aj b0 a6;have ow:W4.ownsRow w1.heap.size 44 3 (.slice ag (pre.length+1) ah) (pre++[x]).length (qp (pre++[x])):=by
   have e2:qp (pre++[x])=qp pre++[gp x.k,gI x.s,gI x.t]:=by rw[Br];rfl
   rw[e2,p6];exact b0
  have kk:Kept [b3,b4] w1 W4:=ab.out.next a6 (λq z=>by
   rcases List.mem_cons.1 z with rfl|z
   .exact .inl (by simp)
   .exact .inr (I.out.lt q (by simpa using z)).1)
  have nu:∀q,u.ownBlock=some q->q∉b3::(Value.slice ao pre.length cp).ownBlock.toList:=λq z hm=>by
   obtain⟨cc,hc⟩:=ux a1.out q (by simp[z]);rcases List.mem_cons.1 hm with rfl|hm
   .rw[aI.out]at hc;simp at hc
   .obtain⟨aO,T⟩:=ux I.out q hm;rw[T]at hc;simp at hc
  have n4:b4∉b3::(Value.slice ao pre.length cp).ownBlock.toList:=λhm=>by
   rcases List.mem_cons.1 hm with e|hm
   .have:=EE.out;omega
   .obtain⟨aO,T⟩:=ux I.out b4 hm;rw[aJ.out]at T;simp at T
  have bE:W4.heap[b4]?=some (gJ #[u] 29):=a6.at aJ.out n4;have bF:W4.ownsRow w1.heap.size 3 1 u (min 3 pre.length) (List.replicate (min 3 pre.length) (gp ((2*g.length:Nat)))):=a6.ownsRow a1.out nu;have hS:∀k∈b3::(Value.slice ao pre.length cp).ownBlock.toList,∃c t m,W.heap[k]?=some (.cells c t m)/\t∉[110,275]:=λq z=>by
   rcases List.mem_cons.1 z with rfl|z
   .exact⟨_,_,_,aI.out,by decide⟩
   .obtain⟨cc,hc⟩:=ux I.out q z;exact⟨_,_,_,hc,by decide⟩
  have c4:W4.cell? ⟨b3,0,none⟩=some (.slice ag (pre.length+1) ah):=by rw[fX aj];rfl
  have m0:w.heap.size∉[b3,b4]:=by have:=EE.out;simp;omega
  have m1:b1∉[b3,b4]:=by have:=EE.out;simp;omega
  have m2:b2∉[b3,b4]:=by have:=EE.out;simp;omega
  have au:=fW a5;have ba:=fW aj;have bg:=fW ow;have a2:=fW kk;have an:=fW a6;have bi:=fW bE;have bj:=fW bF;have HS:=fW hS;have Z:=jn aj;have d0:W4.cell? ⟨w.heap.size,0,none⟩=some (gL C):=by rw[fX (kk.at be.out m0)];rfl
  have d1:W4.cell? ⟨b1,0,none⟩=some (gp left):=by rw[fX (kk.at bf.out m1)];rfl
  clear aZ bt aP aj b0 a6 kk ow hS nu n4 bE bF;have ch:=fW d1;have cg:=fW c4;have aC:=fW (show∀Wf,WI w1 b3 b4 g.length (pre++[x]) Wf->KW W Wf->KeepsOthers W Wf->(pre.length+1=left->((∃pre,pre <+:g/\pre.length=left/\WI w1 b3 b4 g.length pre Wf)/\KW W Wf/\KeepsOthers W Wf))/\(¬pre.length+1=left->(((pre++[x]).length < left/\WI w1 b3 b4 g.length (pre++[x]) Wf)/\KW W Wf/\KeepsOthers W Wf))from λWf G E F=>⟨λe=>⟨⟨_,bh.out,by simpa using e,G⟩,E,F⟩,λe=>⟨⟨by have:=bO.out;simp;omega,G⟩,E,F⟩⟩)
  by_cases F:pre.length+1<=3
  .have bT:((pre.length:Int)+1<=3):=by omega
   have bm:(W4.alloc (gJ #[gp 0] 3)).cell? ⟨w.heap.size,0,none⟩=some (gL C):=by rw[fX (((Kept.refl [] W4).alloc _).at (a2.out.at be.out m0) (by simp))];rfl
   rw[a5]at bm c4;clear a5
   gi_wp2_with (refine⟨trivial,?_⟩;gi_at_call 12;refine(callsIn_wide.2 (EK _ C)).mono ?_;rintro e w' ⟨rfl,rfl⟩)
   have e5:w3.heap.size=W4.heap.size:=by rw[au.out];simp
   rw[<-au.out,e5];obtain⟨W5,av⟩:∃W5,W5=W4.alloc (gJ #[gp 0] 3):=⟨_,rfl⟩;obtain⟨bn,al⟩:∃bn,bn=W4.heap.size:=⟨_,rfl⟩;have aY:W5.heap[bn]?=some (gJ #[gp 0] 3):=by rw[av,al];exact fZ W4 _
   have k5:Kept [] W4 W5:=by rw[av];exact(Kept.refl _ _).alloc _
   rw[<-av,<-al];have b7:Kept [] w W4:=af.out _ a2.out;have bs:w.heap.size<=bn:=by rw[al];exact b7.size
   have b9:KeepsOthers W W4:=uJ an.out (λq z=>by obtain⟨c,t,m,h,_⟩:=HS.out q z;exact⟨c,t,m,h⟩);have aX:∃r,W5.heap[l]?=some (.loop r):=by obtain⟨r,hr⟩:=bL.out;exact⟨r,k5.at (b9.same _ _ hr rfl) (by simp)⟩
   have bc:=fW aX;have bB:l≠bn:=by rintro rfl;obtain⟨r,hr⟩:=aX;rw[aY]at hr;cases hr
   have bN:=fW bB;have ap:=fW k5;have aG:=fW bs;have bb:=fW al;have aD:=fW b7;have ci:=fW b9;clear bB av bm c4 d0 e5 f3 c3 k5 aX b7 b9 bs al d1 Z;refine Kd (by omega) (gf:=17) (recv:=gL C) rfl HE.out g w HC.out bc.out (aD.out.trans ap.out) bn 0 aG.out aY ?_ ?_
   .rintro l' j y V hj hV;have cV:V.cell? ⟨bn,0,none⟩=some (gp ((0+j:Nat))):=by rw[fX hV];rfl
    have fV:=gG hV 0;have aV:0+j < 4000000000:=by have:=aq.out;omega
    clear hV hj;generalize 0+j=jj at cV aV|-;gi_wp2
    first
     |rfl
     |(congr 2;omega)
     |trace_state
   .intro V1 bp aW;have q2:V1.cell? ⟨b2,0,none⟩=some (.func (.func 17) #[gL C] #[]):=by
     rw[fX (aW.at (ap.out.at (a2.out.at bM.out m2) (by simp)) (by have:=EE.out;have:=bb.out;have:=a2.out.size;simp;omega))];rfl
    have bQ:=fW bp;have ad:=fW aW;clear bp aW aY;gi_wp2;have bK:=fW (show∃r,V1.heap[l]?=some (.loop r) by obtain⟨r,hr⟩:=bc.out;exact⟨r,ad.out.at hr (by simpa using bN.out)⟩);clear q2;refine Kd (by omega) (gf:=17) (recv:=gL C) rfl HE.out g w HC.out bK.out ((aD.out.trans ap.out).next ad.out (by simpa using aG.out)) bn (0+g.length) aG.out bQ.out ?_ ?_
    .rintro l' j y V hj hV;have cV:V.cell? ⟨bn,0,none⟩=some (gp ((0+g.length+j:Nat))):=by rw[fX hV];rfl
     have fV:=gG hV 0;have aV:0+g.length+j < 4000000000:=by have:=aq.out;omega
     clear hV hj;generalize 0+g.length+j=jj at cV aV|-;gi_wp2
     first
      |rfl
      |(congr 2;omega)
      |trace_state
    .intro V2 bq bv;have bI:Kept [bn] W5 V2:=ad.out.trans bv;have a7:Kept [] W4 V2:=ap.out.next bI (by have:=bb.out;simp;omega);have br:=a7.at ba.out (by simp);have Z:=a7.at bi.out (by simp);have bC:=a7.ownsRow bg.out (λ_ _=>by simp);have ax:=a7.ownsRow bj.out (λ_ _=>by simp);obtain⟨uo,uc,hu⟩:=gH ax;subst hu;have e0:min 3 pre.length=pre.length:=by omega
     rw[e0]at ax Z;have c4:V2.cell? ⟨b4,0,none⟩=some (.slice uo pre.length uc):=by rw[fX Z];rfl
     have f4:=gG Z 0;have cn:V2.cell? ⟨bn,0,none⟩=some (gp ((0+g.length+g.length:Nat))):=by rw[fX bq];rfl
     have bH:=jn Z;have ac:=fW a7;have ae:=fW ax;have aB:=fW bC;have az:=fW Z;have a8:=fW br;have aH:=fW F;clear bq bv bI a7 br Z bC ax;have bo:0+g.length+g.length=2*g.length:=by omega
     rw[bo]at cn;clear bo;obtain⟨aN,ak⟩:∃M:Int,M=((2*g.length:Nat):Int):=⟨_,rfl⟩;rw[<-ak]at cn;have HM:=fW ak;clear ak
     gi_wp2_with (gi_at_builtin;refine wpListIn_append_own _ rfl _ _ 29 rfl w1.heap.size 3 j0 (gp 0) 1 8 underlying29 hj c0 c6 c7 rfl (by decide) _ _ _ rfl (ae.out.alloc _) ⟨V2.heap.size,0,none⟩ 1 1 [gp aN] rfl rfl ?e1 ?e2 ?e3 ?e4 ?e5 ?_)
     case e1=>
      intro j u hj;have hg:=fZ V2 (gJ #[gp aN] 3);rw[jq,fX hg]
      match j,hj with
      |0,hj=>exact hj
     case e2=>
      intro u hu;simp at hu;subst hu;rfl
     case e3=>have:=aH.out;unfold maxLen;omega
     case e4=>have:=aH.out;omega
     case e5=>have:=ac.out.size;have:=a2.out.size;simp;omega
     intro u' w9 b5 bu _;obtain⟨cf,cb,bY⟩:=gH b5;subst bY;have aU:b3 < w1.heap.size/\b4 < w1.heap.size/\b3≠b4/\b1≠b4/\b1≠b3:=by have:=EE.out;omega
     obtain⟨aQ,ai,am,H⟩:=MQ az.out ae.out aU.2.1 b5 bu;have c9:w9.cell? ⟨b4,0,none⟩=some (.slice uo pre.length uc):=by rw[fX aQ];rfl
     have f9:=gG aQ 0;obtain⟨Wf,aw⟩:∃Wf,Wf=w9.setCell ⟨b4,0,none⟩ (.slice cf (pre.length+1) cb):=⟨_,rfl⟩;rw[<-aw]at ai am H;have n3:b3∉b4::(Value.slice uo pre.length uc).ownBlock.toList:=λhm=>by
      rcases List.mem_cons.1 hm with e|hm
      .exact aU.2.2.1 e
      .obtain⟨aO,T⟩:=ux ae.out b3 hm;rw[a8.out]at T;simp at T
     have nv:∀q,(Value.slice ag (pre.length+1) ah).ownBlock=some q->q∉b4::(Value.slice uo pre.length uc).ownBlock.toList:=λq z hm=>by
      obtain⟨cc,hc⟩:=ux aB.out q (by simp[z]);rcases List.mem_cons.1 hm with rfl|hm
      .rw[az.out]at hc;simp at hc
      .obtain⟨aO,T⟩:=ux ae.out q hm;rw[T]at hc;simp at hc
     have b8:Kept [b3,b4] w1 Wf:=(a2.out.trans (ac.out.mono (by simp))).next H (λq z=>by
      rcases List.mem_cons.1 z with rfl|z
      .exact .inl (by simp)
      .exact .inr (ae.out.lt q (by simpa using z)).1)
     have bS:Wf.cell? ⟨b3,0,none⟩=some (.slice ag (pre.length+1) ah):=by rw[fX (H.at a8.out n3)];rfl
     have bl:Wf.cell? ⟨b1,0,none⟩=some (gp left):=by rw[fX (b8.at bf.out m1)];rfl
     have e1:min 3 (pre++[x]).length=pre.length+1:=by have:=aH.out;simp;omega
     have e9:aN=2*(g.length:Int):=by rw[HM.out];push_cast;rfl
     have bG:WI w1 b3 b4 g.length (pre++[x]) Wf:=⟨_,_,H.at a8.out n3,H.ownsRow aB.out nv,ai,by
      rw[e1,List.replicate_succ',<-HM.out];have h:=am;rw[<-e9]at h;exact h,b8⟩
     have kW:Kept ((b3::(Value.slice ao pre.length cp).ownBlock.toList)++(b4::(Value.slice uo pre.length uc).ownBlock.toList)) W Wf:=((an.out.mono (λq z _=>List.mem_append_left _ z)).trans (ac.out.mono (by simp))).trans (H.mono (λq z _=>List.mem_append_right _ z));have aS:∀k∈(b3::(Value.slice ao pre.length cp).ownBlock.toList)++(b4::(Value.slice uo pre.length uc).ownBlock.toList),∃c t m,W.heap[k]?=some (.cells c t m)/\t∉[110,275]:=λq z=>by
      rcases List.mem_append.1 z with z|z
      .exact HS.out q z
      .rcases List.mem_cons.1 z with rfl|z
       .exact⟨_,_,_,aJ.out,by decide⟩
       .obtain⟨cc,hc⟩:=ux a1.out q (by cases uo<;>exact z);exact⟨_,_,_,hc,by decide⟩
     have aa:=fW (aC.out Wf bG (GS kW aS) (uJ kW (λq z=>by obtain⟨c,t,m,h,_⟩:=aS q z;exact⟨c,t,m,h⟩)));have bk:=fW aw;rw[aw]at bS bl;clear aw aQ ai am H n3 nv b8 e1 bG kW aS b5 bu aU c4 f4 cn
     by_cases U:pre.length+1=left
     .rw[<-U]at bl;have aM:=fW U;clear U;gi_wp2;rw[<-bk.out];exact aa.out.1 aM.out
     .have bw:¬((pre.length:Int)+1=(left:Int)):=by omega
      gi_wp2;rw[<-bk.out];have:=aa.out.2 U
      simpa using this
  .have bT:¬((pre.length:Int)+1<=3):=by omega
   rw[a5]at c4 d1;clear a5;have aa:=fW (aC.out W4 ⟨_,_,ba.out,bg.out,bi.out,by have e1:min 3 (pre++[x]).length=3:=(by simp;omega);have e2:min 3 pre.length=3:=(by omega);rw[e1];have h:=bj.out;rw[e2]at h;exact h,a2.out⟩ (GS an.out HS.out) (uJ an.out (λq z=>by obtain⟨c,t,m,h,_⟩:=HS.out q z;exact⟨c,t,m,h⟩)))
   by_cases U:pre.length+1=left
   .rw[<-U]at d1;have aM:=fW U;clear U;gi_wp2;rw[<-au.out];exact aa.out.1 aM.out
   .have bw:¬((pre.length:Int)+1=(left:Int)):=by omega
    gi_wp2;rw[<-au.out];have:=aa.out.2 U
    simpa using this
 case done=>
  rintro W ⟨a4,v,u,G,E,h5,h6,F⟩ hd;have et:g.take left=g:=Kl (by omega);obtain⟨ao,cp,hv⟩:=gH E;subst hv;obtain⟨uo,uc,hu⟩:=gH h6;subst hu;have c1:W.cell? ⟨b3,0,none⟩=some (.slice ao g.length cp):=by rw[fX G];rfl
  have c2:W.cell? ⟨b4,0,none⟩=some (.slice uo (min 3 g.length) uc):=by rw[fX h5];rfl
  have I:=fW E;have a1:=fW h6;have ab:=fW (af.out _ F);have HD:=fW hd;have a9:=fW et;clear G E F h5 h6 hd et a4 n3 n4
  gi_wp2_with fail
  refine wpIn_wide.2 ?_;rename_i K aR;refine wp_mono (Q:=Exit.then (λa W'=>a={tmps:=#[gL C,gp left,gL w.heap.size,gL b1,.slice ao g.length cp,.slice uo (min 3 g.length) uc,gL b2,gL b3,gL b4,undef,undef,gL C,.func (.func 17) #[gL C] #[],.func (.func 17) #[gL C] #[],.bool false,.func (.func 17) #[gL C] #[],undef,undef,undef,undef,undef,undef,undef,undef,undef,undef,undef,undef,undef,undef,undef,undef,undef,undef,undef,undef,undef,undef,undef,undef,undef,.slice ao g.length cp,.slice uo (min 3 g.length) uc],defers:=[{target:= .collected w1.heap.size,args:=#[]}]++[]}/\∃q,W'=W.drewN q) (λ_ _ _=>False)) ?_ ?_
  .go_quiet (fail)
   exact⟨rfl,_,rfl⟩
  .intro e a W' z;cases e with
   |normal=>
    obtain⟨rfl,q,rfl⟩:=z;refine aR _ _ ?_;have a0:(W.drewN q).heap[w1.heap.size]?=some (.deferred (some [])):=HD.out;have E:(W.drewN q).ownsRow w1.heap.size 44 3 (.slice ao g.length cp) _ _:=((Kept.refl [] W).drewN q).ownsRow I.out (λ_ _=>by simp);have h6:(W.drewN q).ownsRow w1.heap.size 3 1 (.slice uo (min 3 g.length) uc) _ _:=((Kept.refl [] W).drewN q).ownsRow a1.out (λ_ _=>by simp);have aK:=fW E;have aL:=fW h6;clear E h6;gi_wp2;refine⟨by simp,.inl ⟨_,_,rfl,nN a0,?_⟩⟩;have a3:w.heap.size<=w1.heap.size:=by have:=EE.out;omega
    refine⟨_,results_tmp2 rfl _ _ _,_,_,rfl,?_,?_,I4 (ab.out.drewN q) a3 _⟩
    .rw[<-ar.out,a9.out];exact jV (xh aK.out a0 rfl (.deferred none)) a3
    .rw[<-ar.out,a9.out,<-bd.out];exact jV (xh aL.out a0 rfl (.deferred none)) a3
   |_=>exact z.elim
 case halt=>
  rintro W ⟨pre,O,a4,v,u,G,E,h5,h6,F⟩ hd;have et:g.take left=pre:=by obtain⟨r,rfl⟩:=O;rw[<-a4];simp
  clear O;obtain⟨ao,cp,hv⟩:=gH E;subst hv;obtain⟨uo,uc,hu⟩:=gH h6;subst hu;have c1:W.cell? ⟨b3,0,none⟩=some (.slice ao pre.length cp):=by rw[fX G];rfl
  have c2:W.cell? ⟨b4,0,none⟩=some (.slice uo (min 3 pre.length) uc):=by rw[fX h5];rfl
  have I:=fW E;have a1:=fW h6;have ab:=fW (af.out _ F);have HD:=fW hd;have a9:=fW et;clear G E F h5 h6 hd et a4 n3 n4
  gi_wp2_with fail
  refine wpIn_wide.2 ?_;rename_i K aR;refine wp_mono (Q:=Exit.then (λa W'=>a={tmps:=#[gL C,gp left,gL w.heap.size,gL b1,.slice ao pre.length cp,.slice uo (min 3 pre.length) uc,gL b2,gL b3,gL b4,undef,undef,gL C,.func (.func 17) #[gL C] #[],.func (.func 17) #[gL C] #[],.bool false,.func (.func 17) #[gL C] #[],undef,undef,undef,undef,undef,undef,undef,undef,undef,undef,undef,undef,undef,undef,undef,undef,undef,undef,undef,undef,undef,undef,undef,undef,undef,.slice ao pre.length cp,.slice uo (min 3 pre.length) uc],defers:=[{target:= .collected w1.heap.size,args:=#[]}]++[]}/\∃q,W'=W.drewN q) (λ_ _ _=>False)) ?_ ?_
  .go_quiet (fail)
   exact⟨rfl,_,rfl⟩
  .intro e a W' z;cases e with
   |normal=>
    obtain⟨rfl,q,rfl⟩:=z;refine aR _ _ ?_;have a0:(W.drewN q).heap[w1.heap.size]?=some (.deferred (some [])):=HD.out;have E:(W.drewN q).ownsRow w1.heap.size 44 3 (.slice ao pre.length cp) _ _:=((Kept.refl [] W).drewN q).ownsRow I.out (λ_ _=>by simp);have h6:(W.drewN q).ownsRow w1.heap.size 3 1 (.slice uo (min 3 pre.length) uc) _ _:=((Kept.refl [] W).drewN q).ownsRow a1.out (λ_ _=>by simp);have aK:=fW E;have aL:=fW h6;clear E h6;gi_wp2;refine⟨by simp,.inl ⟨_,_,rfl,nN a0,?_⟩⟩;have a3:w.heap.size<=w1.heap.size:=by have:=EE.out;omega
    refine⟨_,results_tmp2 rfl _ _ _,_,_,rfl,?_,?_,I4 (ab.out.drewN q) a3 _⟩
    .rw[<-ar.out,a9.out];exact jV (xh aK.out a0 rfl (.deferred none)) a3
    .rw[<-ar.out,a9.out,<-bd.out];exact jV (xh aL.out a0 rfl (.deferred none)) a3
   |_=>exact z.elim
structure AM (w:gw) (g off n:Nat) (A:Nat->It):Prop where
 c0:∀i,i < n->w.cell? ⟨g,off+i*3,none⟩=some (gp (A i).k)
 c1:∀i,i < n->w.cell? ⟨g,off+i*3+1,none⟩=some (gI (A i).s)
 c2:∀i,i < n->w.cell? ⟨g,off+i*3+2,none⟩=some (gI (A i).t)
def Av (m C Y t E Z n:Nat) (A B:Nat->It) (w:gw) (O:AM w m C n A) (P:AM w t E n B) (hn:n<=140737488351232) (u:∀i,i < n->A i=B i):
  Calls prog 8 #[.slice (some ⟨m,C,none⟩) n Y,.slice (some ⟨t,E,none⟩) n Z] w λe w'=>e=ir (.bool true)/\∃q,w'=w.drewN q:=by
 have F:=fW O;have H:=fW P;have G:=fW u;clear O P u;go_enter func8,ntmps8;go_wp2
 go_loopw [5] (λi wr=>∃k:Nat,k<=n/\i=gp k/\∃q,wr=w.drewN q) (λi _=>n - (intOf i).toNat)
 case atStart=>exact⟨0,iP _,rfl,0,rfl⟩
 case round=>
  obtain⟨k,hk,rfl,Q⟩:=hrel;have h:=fW Q;clear Q
  by_cases g:k < n
  .have T:wr.cell? ⟨m,C+k*3,none⟩=some (gp (A k).k):=by obtain⟨q,rfl⟩:=h.out;rw[A8];exact F.out.c0 k g
   have U:wr.cell? ⟨m,C+k*3+1,none⟩=some (gI (A k).s):=by obtain⟨q,rfl⟩:=h.out;rw[A8];exact F.out.c1 k g
   have X:wr.cell? ⟨m,C+k*3+2,none⟩=some (gI (A k).t):=by obtain⟨q,rfl⟩:=h.out;rw[A8];exact F.out.c2 k g
   have I:wr.cell? ⟨t,E+k*3,none⟩=some (gp (B k).k):=by obtain⟨q,rfl⟩:=h.out;rw[A8];exact H.out.c0 k g
   have J:wr.cell? ⟨t,E+k*3+1,none⟩=some (gI (B k).s):=by obtain⟨q,rfl⟩:=h.out;rw[A8];exact H.out.c1 k g
   have K:wr.cell? ⟨t,E+k*3+2,none⟩=some (gI (B k).t):=by obtain⟨q,rfl⟩:=h.out;rw[A8];exact H.out.c2 k g
   rw[<-G.out k g]at I J K;generalize (A k).k=x at T I;generalize (A k).s=y at U J;generalize (A k).t=z at X K;go_wp2_with fail
   go_quiet (fail)
   go_wp2;go_roundw
   case rel=>exact⟨k+1,by omega,by go_num,by obtain⟨q,rfl⟩:=h.out;exact⟨_,World.drewN_drewN _ _ _⟩⟩
   case measure=>simp[intOf];omega
  .go_wp2;go_ret;exact⟨rfl,h.out⟩
def yd (L:List It) (i:Nat):It:=L.getD i ⟨0,⟨#[]⟩,⟨#[]⟩⟩
def PQ {g u : Nat} {L : List It} (x:w.ownsRow base 44 3 (rh g L.length u) L.length (qp L)):AM w g 0 L.length (yd L):=by
 have t:∀(L:List It) (i k:Nat),i < L.length->k < 3->(qp L)[i*3+k]?=[Value.int .i64 (yd L i).k,gI (yd L i).s,gI (yd L i).t][k]?:=by
  intro L
  induction L with
  |nil=>intro i k h;simp at h
  |cons p L ih=>
   intro i k m q;show(Value.int .i64 p.k:: .string p.s:: .string p.t::qp L)[i*3+k]?=_;cases i with
   |zero=>
    have e:yd (p::L) 0=p:=rfl;rw[e,Nat.zero_mul,C7]
    match k,q with
    |0,_=>rfl
    |1,_=>rfl
    |2,_=>rfl
   |succ i=>
    have e:yd (p::L) (i+1)=yd L i:=by unfold yd;simp
    rw[e,show(i+1)*3+k=(i*3+k)+1+1+1 by omega];simp only[List.getElem?_cons_succ];exact ih i k (by simpa using m) q
 have c:∀i k,i < L.length->k < 3->w.cell? ⟨g,i*3+k,none⟩=[Value.int .i64 (yd L i).k,gI (yd L i).s,gI (yd L i).t][k]?:=by
  intro i k m q
  match k,q with
  |0,q=>have:=x.cells (g:=g) rfl (i*3+0) _ (t L i 0 m q);rw[jq]at this;exact this
  |1,q=>have:=x.cells (g:=g) rfl (i*3+1) _ (t L i 1 m q);rw[jq]at this;exact this
  |2,q=>have:=x.cells (g:=g) rfl (i*3+2) _ (t L i 2 m q);rw[jq]at this;exact this
 refine⟨λi m=>?_,λi m=>?_,λi m=>?_⟩
 .rw[C7];exact c i 0 m (by omega)
 .rw[C7];exact c i 1 m (by omega)
 .rw[C7];exact c i 2 m (by omega)
def abj (c:Int) (w:gw) (t: -9223372036854775808<=c) (u:c<=9223372036854775807):
  Calls prog 6 #[gp c,gp 100] w λe w'=>(∃m:Nat,m<=99/\e=ir (gp m))/\w'=w:=by
 by_cases x:c < 0
 .have h:0<= -(c+1):=by omega
  have q:(-(c+1)).tmod 100=(((-(c+1)).toNat%100:Nat):Int):=by rw[Int.tmod_eq_emod_of_nonneg h];omega
  go_enter func6,ntmps6;go_wp2;go_ret;refine⟨⟨(-(c+1)).toNat%100,by omega,?_⟩,rfl⟩;have g:max (-(c+1)) 0%100=(((-(c+1)).toNat%100:Nat):Int):=by omega
  show Ending.returned (Value.int .i64 (max (-(c+1)) 0%100))=_;rw[g]
 .have q:c.tmod 100=((c.toNat%100:Nat):Int):=by rw[Int.tmod_eq_emod_of_nonneg (by omega)];omega
  go_enter func6,ntmps6;go_wp2;go_ret;refine⟨⟨c.toNat%100,by omega,?_⟩,rfl⟩;have g:max c 0%100=((c.toNat%100:Nat):Int):=by omega
  show Ending.returned (Value.int .i64 (max c 0%100))=_;rw[g]
def IL (s:gz) (n:Int) (w:gw) (g:Calls prog 4 #[gI s] w λe w'=>e=ir (.tuple #[.pointer none,.bool true])/\Kept [] w w'):
  Calls prog 3 #[gI s,gp n] w λe w'=>e=ir (.bool true)/\Kept [] w w':=by
 have C:=fW g;clear g;go_enter func3,ntmps3;go_wp2_with fail;refine C.out.mono ?_;rintro e w1 ⟨rfl,h⟩;have m:=fW h;clear h C;go_wp2;go_ret;exact⟨rfl,m.out⟩
def AM.le {g q m : Nat} {A : Nat->It} (h:AM w g q n A) (u:m<=n):AM w g q m A:=
 ⟨λi t=>h.c0 i (by omega),λi t=>h.c1 i (by omega),λi t=>h.c2 i (by omega)⟩
def VX (L:List It) (m i:Nat) (g:i < (L.take m).length):yd (L.take m) i=yd L i:=by
 unfold yd;rw[List.length_take]at g;simp only[xo,Eh];rw[gF (by omega)]
def JD (h:w.ownsRow base e sz v n xs) (u:0 < n):∃g m,v=rh g n m/\n<=m:=by
 rcases h.2 with⟨_,t⟩|⟨g,m,q,rfl,_,_,r⟩
 .omega
 .exact⟨g,m,rfl,r.1⟩
def Sv (s:gz) (n:Int) (w:gw) (bx:Nat) (hn: -9223372036854775808<=n/\n<=9223372036854775807) (ts:List Tn) (hO:Calls prog 4 #[gI s] w λe w'=>e=ir (.tuple #[gL bx,.bool true])/\(∃k c x gM,ZW w' bx c k/\jI w' (.el x gM ts) (.el k))/\Kept [] w w') (t:List It) (ht:jJ (ve (λ_=>false) ts)=t) (h6:6<=t.length) (h9:t.length<=1000000000):
  Calls prog 3 #[gI s,gp n] w λe w'=>e=ir (.bool true)/\Kept [] w w':=by
 have C:=fW hO;have HT:=fW ht;have X:=fW hn;clear hO ht hn;go_enter func3,ntmps3;go_wp2_with fail;refine C.out.mono ?_;rintro e w1 ⟨rfl,⟨k,c,x,gM,hp,hi⟩,a3⟩;have CW:=fW (Ze w1 bx k c x gM ts hp hi t HT.out h9);have HP:=fW hp;have HI:=fW hi;have O:=fW a3;clear hp hi a3 C;go_wp2_with fail;refine CW.out.mono ?_;rintro e w2 ⟨v,rfl,J,a4⟩;obtain⟨g,a2,hv,a9⟩:=JD J (by omega);subst hv;have CP:=fW (abj n w2 X.out.1 X.out.2);have Z:=fW J;have z:=fW a4;clear J a4 CW;go_wp2_with fail;refine CP.out.mono ?_;rintro e w3 ⟨⟨m,hm,rfl⟩,rfl⟩;obtain⟨P,hP⟩:∃P,t.take (m+1)=P:=⟨_,rfl⟩;obtain⟨M,hM⟩:∃M:Int,((2*t.length:Nat):Int)=M:=⟨_,rfl⟩;have CI:=fW (S5 w3 bx k (m+1) c x gM ts (HP.out.kept z.out) (jI.kept z.out HI.out) t HT.out h9 (by omega) (by omega) P hP M hM);have F:=fW hP;have U:=fW hM;clear hP hM CP;have e1:(1:Int)+(m:Int)=((m+1:Nat):Int):=by omega
 go_wp2_with fail;refine CI.out.mono ?_;rintro e w4 ⟨v2,u,rfl,y,I,H⟩;have a5:P.length=min (m+1) t.length:=by rw[<-F.out,List.length_take]
 obtain⟨g2,E,a7,_⟩:=JD y (by omega);obtain⟨g3,a8,hu,_⟩:=JD I (by omega);subst a7 hu;have a0:=fW (PQ (H.ownsRow Z.out (λ_ _=>by simp)));have a1:=fW (PQ y);have Y:=fW I;have T:=fW (show M=2*(t.length:Int) by rw[<-U.out];push_cast;rfl);have K:=fW (show∀i,i < P.length->yd P i=yd t i from λi hi=>by have h:=F.out;subst h;exact VX _ _ _ hi);have Q:=fW ((O.out.trans z.out).trans H);clear y I H CI Z U F HP HI O z e1;generalize P.length=lp at *
 by_cases aa:t.length < m+1
 .obtain rfl:lp=t.length:=by omega
  clear a5;have a6:(t.length:Int) < (m:Int)+1:=by omega
  go_wp2_with fail
  go_loopw [11] (λi wr=>∃j:Nat,j<=min 3 (t.length)/\i=gp j/\wr=w4) (λi _=>min 3 (t.length) - (intOf i).toNat)
  case atStart=>exact⟨0,iP _,rfl,rfl⟩
  case round=>
   obtain⟨j,hj,rfl,rfl⟩:=hrel
   by_cases G:j < min 3 (t.length)
   .have cj:wr.cell? ⟨g3,j,none⟩=some (gp (2*(t.length:Int))):=by
     have:=Y.out.cells (g:=g3) rfl j (gp M) (by rw[List.getElem?_replicate,gF G]);rw[jq]at this;rw[T.out]at this
     simpa using this
    go_wp2;go_roundw
    case rel=>exact⟨j+1,by omega,by go_num,by first|rfl|trivial⟩
    case measure=>simp[intOf];omega
   .have CS:=fW (Av g2 0 E g 0 a2 (t.length) (yd P) (yd t) wr a1.out (a0.out.le (by omega)) (by omega) K.out);clear hj;go_wp2_with fail;refine CS.out.mono ?_;rintro e w5 ⟨rfl,q,rfl⟩;go_wp2;go_ret;exact⟨rfl,Q.out.drewN q⟩
 .obtain rfl:lp=m+1:=by omega
  clear a5;have a6:¬((t.length:Int) < (m:Int)+1):=by omega
  go_wp2_with fail
  go_loopw [11] (λi wr=>∃j:Nat,j<=min 3 (m+1)/\i=gp j/\wr=w4) (λi _=>min 3 (m+1) - (intOf i).toNat)
  case atStart=>exact⟨0,iP _,rfl,rfl⟩
  case round=>
   obtain⟨j,hj,rfl,rfl⟩:=hrel
   by_cases G:j < min 3 (m+1)
   .have cj:wr.cell? ⟨g3,j,none⟩=some (gp (2*(t.length:Int))):=by
     have:=Y.out.cells (g:=g3) rfl j (gp M) (by rw[List.getElem?_replicate,gF G]);rw[jq]at this;rw[T.out]at this
     simpa using this
    go_wp2;go_roundw
    case rel=>exact⟨j+1,by omega,by go_num,by first|rfl|trivial⟩
    case measure=>simp[intOf];omega
   .have CS:=fW (Av g2 0 E g 0 a2 (m+1) (yd P) (yd t) wr a1.out (a0.out.le (by omega)) (by omega) K.out);clear hj;go_wp2_with fail;refine CS.out.mono ?_;rintro e w5 ⟨rfl,q,rfl⟩;go_wp2;go_ret;exact⟨rfl,Q.out.drewN q⟩
def VQ (s:gz) (n:Int) (w:gw) (G:s.size<=140737488351232) (E: -9223372036854775808<=n/\n<=9223372036854775807) (m:W4 w):
  Calls prog 3 #[gI s,gp n] w λe w'=>e=ir (.bool true)/\Kept [] w w':=by
 by_cases C:1024 < s.size
 .exact IL s n w (Wj s w C G m)
 .have g:s.size<=1024:=by omega
  rcases aaI s g with⟨c,p,z,h⟩|⟨nm,gM,T,L,F,x,y⟩
  .exact IL s n w (Wl s w g m z h)
  .refine Sv s n w w.heap.size E T ((Wi s w g m F).mono ?_) _ rfl x y;rintro e w' ⟨rfl,⟨v,k,q,t⟩,u⟩;exact⟨rfl,⟨k,_,nm,gM,⟨q,rfl⟩,t⟩,u⟩
end
end Go.Proofs.YtofkkmcdggkkpaaGreatDoor
