import Derived.Test.YtofkkmcdggkkpaaGreatDoorGvA
import Derived.Laws.BytesArg
import Derived.Deep.AppendLies
import Derived.Laws.StructEq
import Derived.Ground.NamesProg
import Derived.Shelf.Lay
import Derived.Shelf.Strings.SlTrimAscii
set_option linter.unusedSimpArgs false
set_option linter.unusedVariables false
set_option linter.defProp false
set_option maxHeartbeats 0
set_option maxRecDepth 100000
namespace Go.Proofs.YtofkkmcdggkkpaaGreatDoor
open Go.RowKit Go.PlainAid Tryz
def p6:=@List.length_append
def Db:=@Nat.zero_add
def zt:=@eq_of_beq
section
variable {L : lh} {R : RC} {S : List Nat} {a b c clock i n ps : Nat} {s : gy} {t : gM} {w w' : gv} {σ : Ab}
structure In3 (σ:Ab):Prop where
 iv:mM σ
 md:σ.mode=3
 sh:∃h d,σ.gz=[some h,some d]/\σ.head=some d
def In3.ms (h:In3 σ):MS σ:=by
 obtain⟨x,d,e,f⟩:=h.sh;exact⟨.inl (.inr (.inr (.inl ⟨h.md,x,d,e,f⟩))),BH.low (by have:=h.md;omega)⟩
theorem In3.ne (h:In3 σ):σ.gz≠[]:=by have⟨x,d,h1,_⟩:=h.sh;grind
def In3.pop (h:In3 σ):In4 {σ.pop with mode:=4}/\Lm σ {σ.pop with mode:=4}:=by
 obtain⟨x,d,e,g⟩:=h.sh;obtain⟨f,j⟩:=EY h.iv (by rw[e];simp);refine⟨⟨f.lY rfl rfl rfl rfl rfl rfl rfl,rfl,x,d,?_,g⟩,⟨rfl,rfl,rfl,rfl,lf _,λ_ h=> .inl h,λ_ _ h=>h⟩⟩;show σ.gz.dropLast=_;rw[e];rfl
def Gj (m:mM σ) (d:σ.gz≠[]) (v:nS σ t) (b:Bool) (x:wt σ < 998000) (o:3<=σ.mode) (l:BH σ) (r:HS σ.mode σ.gz σ.head):RG 1 σ ((oc t b>>=λ_=>(Pure.pure ():M Unit)) σ):=by
 refine RG.tail ?_;have k:=Gg m d v b x;revert k;cases oc t b σ with
 |ok u σ2=>
  rintro⟨y,z,A,f,e,⟨j,g,D⟩,B,C⟩;refine⟨y,⟨.inr (.inl ⟨f,by rw[e];exact o,?_,?_⟩),λq=>(l (by rw[f,e]at q;omega)).of C⟩,z,A⟩
  .have:0 < σ.gz.length:=List.length_pos_iff.2 d;rw[g];simp;omega
  .rw[e,g,B,RH];exact r
 |stop c p=>exact λh=>h
 |stuck=>exact λh=>h
def xB (h:mM σ) (d:σ.gz≠[]) (e:MS σ) (f:t.chars.size<=100) (g:wt σ < 999000):RG 101 σ (j7 t σ):=
 RG.mono (c:=t.chars.size+1) ((oH h d t (by omega)).rg e (λ_ q=>q.gz)) (by omega)
def UJ (B:4*64+8<=n) (t:gM) (f:uU t) (h:In3 σ) (g:Hn σ t) (D:wt σ < 997000) (y:σ.waiting.length < 4000):RG 373 σ (gZ false (n+2) 3 t σ):=by
 obtain⟨r,z⟩:=h.pop;have m:∀t,uU t->Hn σ t->RG 373 σ (nC (gZ false (n+1)) t σ):=by
  intro t f g;have u:=RG.tail (UK B t f r (λC=>g C) D y);exact RG.from (c1:=372) (c2:=0) u z (ig _) (λ_ h=>h) (ni (jm rfl)) (by omega)
 have o:RG 373 σ ((Pure.pure ():M Unit) σ):=(qX h.iv h.ms).mono (by omega);have j:HS σ.mode σ.gz σ.head:=by
  obtain⟨x,d,u,A⟩:=h.sh;exact .inr (.inr (.inl ⟨h.md,x,d,u,A⟩))
 obtain⟨a,b,E,gL⟩:=t;cases E with
 |lost=>exact absurd rfl f.nl
 |ke s=>
  refine BZ (sp:=lF) (P:=RG 373 σ) rfl rfl rfl ?_ ?_
  .exact(xB h.iv h.ne h.ms f.sz (by omega)).mono (by omega)
  .exact m _ f g
 |gR s=>
  refine jz f.nl (sp:=lF) (P:=RG 373 σ) rfl rfl ?_;show RG 373 σ (x7 87 true _ σ);rw[yL];exact RG.mono (c:=1) (vZ h.iv mW (Aw h.iv h.ne) _ (by omega) h.ms) (by omega)
 |iM s q=>exact jz f.nl (sp:=lF) (P:=RG 373 σ) rfl rfl o
 |im=>exact jz f.nl (sp:=lF) (P:=RG 373 σ) rfl rfl (m _ f g)
 |start nm=>
  have l:nS σ ⟨a,b,.start nm,gL⟩:=g.tag rfl;refine Hh (sp:=lF) (P:=RG 373 σ) rfl (by simp) rfl rfl ?_ ?_
  .intro p k v;simp only[qD,qE,rH]at k;rcases k with rfl|rfl|rfl|rfl|rfl
   all_goals dsimp only at v|-
   .exact(Gj h.iv h.ne l true (by omega) (by rw[h.md];omega) h.ms.2 j).mono (by omega)
   .exact(Gj h.iv h.ne l false (by omega) (by rw[h.md];omega) h.ms.2 j).mono (by omega)
   .exact RG.mono (c:=1) ((qs h.iv h.ne (by omega) _ l.tag l.fr).rg h.ms (λ_ q=>q.1)) (by omega)
   .have e:=IX v;subst e;exact(Nx n a b gL h.iv h.ne l.fr h.ms).mono (by omega)
   .exact o
  .exact m _ f g
 |stop nm=>
  refine Om (sp:=lF) (P:=RG 373 σ) rfl (by simp) rfl rfl ?_ ?_
  .intro p k v;simp only[qD,qE,rH]at k;rcases k with rfl|rfl
   .exact m _ f g
   .exact⟨r.iv,r.ms,z,jP (ni (jm rfl)) (xN _ _)⟩
  .exact o
structure In2 (σ:Ab):Prop where
 iv:mM σ
 md:σ.mode=2
 sh:∃h,σ.gz=[some h]
def In2.ms (h:In2 σ):MS σ:=by
 obtain⟨x,d⟩:=h.sh;exact⟨.inl (.inr (.inl ⟨h.md,x,d⟩)),BH.low (by have:=h.md;omega)⟩
theorem In2.ne (h:In2 σ):σ.gz≠[]:=by have⟨x,h1⟩:=h.sh;grind
theorem jx.abU {r : Nat->Nat} (h:jx r σ) {d : Nat} (g:iU σ d gS) (j:∀x,σ.gz.head?=some (some x)->r x < r d):jx r {σ with head:=some d}:=
 ⟨⟨h.nL.up,h.nL.dn,h.nL.nd,h.nL.kd⟩,⟨h.tc.je,h.tc.gz,λf x e k=>by grind⟩,h.gz,h.act,λf e=>by cases e;exact g,h.form,h.KH,h.wV,h.zM,h.OI,h.RS,h.xf⟩
def Gf (h:In2 σ) (own:Bool) (gL:lh) (Y:own=true->σ.fresh=true) (hw:wt σ < 998000) {k:M Unit} (hk:∀l,In3 l->Lm σ l->l.waiting=σ.waiting->wt l<=wt σ+1->(own=false->l.fresh=σ.fresh)->RG c l (k l)):RG (c+1) σ ((rO own gL>>=λ_=>k) σ):=by
 obtain⟨x,J⟩:=h.sh;obtain⟨r,N⟩:=h.iv;obtain⟨B,X⟩:=Ac r σ.nodes.length;have O:x < σ.nodes.length:=N.EW (by rw[J];exact pP ..);have C:∀(m:lh) (A:Bool),(own=false->A=σ.fresh)->sY gS own gL σ= .ok σ.nodes.length (σ.pn (.el {name:=gS,gU:=m,je:=none,kids:=[]}) A)->RG (c+1) σ ((rO own gL>>=λ_=>k) σ):=by
  intro m A G Q;obtain⟨P,z⟩:=N.new gS m A (B+1);obtain⟨f,g⟩:∃f,f=σ.pn (.el {name:=gS,gU:=m,je:=none,kids:=[]}) A:=⟨_,rfl⟩;rw[<-g]at P z Q;have D:f.hU σ.nodes.length=some {name:=gS,gU:=m,je:=none,kids:=[]}:=by rw[g];exact Ab.um
  have F:f.gz=σ.gz:=by rw[g];rfl
  have w1:wt f=wt σ:=by rw[g];exact Ek _ _ _
  have Z:=P.abU (d:=σ.nodes.length) ⟨_,D,rfl⟩ (by
   intro y T;rw[F,J]at T;have:x=y:=by simpa using T
   subst this;rw[yz,zq (by omega)];have:=X x O;omega)
  have I:some σ.nodes.length∉({f with head:=some σ.nodes.length}:Ab).gz:=by
   show some σ.nodes.length∉f.gz;rw[F];intro hm;have:=N.EW (i:=σ.nodes.length) hm;omega
  have H:=L9 (σ:={f with head:=some σ.nodes.length}) ⟨_,Z⟩ (j:=σ.nodes.length) D rfl rfl I (by show f.gz≠[];rw[F];exact h.ne) (by show wt f < _;omega);show RG (c+1) σ (((sY gS own gL>>=λe=>wH (λσ=>{σ with head:=some e})>>=λ_=>mj e>>=λ_=>jO 3>>=λ_=>(Pure.pure ():M Unit))>>=λ_=>k) σ);rw[M.gx,M.gx,Q];dsimp only;rw[M.gx];have hu:wH (λE:Ab=>{E with head:=some σ.nodes.length}) f= .ok () {f with head:=some σ.nodes.length}:=rfl;rw[hu];dsimp only;rw[M.gx];revert H;cases mj σ.nodes.length {f with head:=some σ.nodes.length} with
  |ok u σ2=>
   rintro⟨i2,v,w2,V⟩;dsimp only;have i3:In3 {σ2 with mode:=3}:=⟨i2.lY rfl rfl rfl rfl rfl rfl rfl,rfl,x,σ.nodes.length,by
    show σ2.gz=_;rw[V.gz];show f.gz++_=_;rw[F,J];rfl,v.head⟩
   have o:σ2.waiting=σ.waiting:=by rw[v.waiting];show f.waiting=_;rw[g];rfl
   have U:Lm σ {σ2 with mode:=3}:=⟨v.gP.trans z.gP,v.pQ.trans z.pQ,v.qQ.trans z.qQ,v.oZ.trans z.oZ,by show σ2.waiting.length<=_;rw[o];omega,by show∀x∈σ2.waiting,_;rw[o];exact λ_ h=> .inl h,λi s q=>v.nm i s (z.nm i s q)⟩;have a0:wt σ2<=wt f+1:=w2;have W:=hk {σ2 with mode:=3} i3 U o (by show wt σ2<=_;omega) (λK=>by
    show σ2.fresh=_;rw[V.fresh];show f.fresh=_;rw[g];exact G K)
   exact RG.from (c1:=c) (c2:=1) (σ1:={σ2 with mode:=3}) W U (by show σ2.waiting.length<=_;rw[o];omega) (by show∀x∈σ2.waiting,_;rw[o];exact λ_ h=>h) (by show wt σ2<=_;omega) (ig _)
  |stop e p=>exact λh=>xI h z.gP
  |stuck=>exact λh=>h
 cases own with
 |true=>
  refine C gL false (λh=>by cases h) ?_;unfold sY;rw[gF rfl,gF (Y rfl)]
 |false=>exact C [] σ.fresh (λ_=>rfl) rfl
theorem UI (y:4*64+8<=n) (t:gM) (d:uU t) (h:In2 σ) (g:Hn σ t) (D:wt σ < 996000) (A:σ.waiting.length < 4000):RG 374 σ (gZ false (n+3) 2 t σ):=by
 have m:∀t,uU t->Hn σ t->RG 374 σ (pc (gZ false (n+2)) t σ):=by
  intro t d g;refine Gf (c:=373) h false [] (λh=>by cases h) (by omega) (k:=j1 (gZ false (n+2)) t>>=λ_=>(Pure.pure ():M Unit)) ?_;intro f j B C w' u;have x:=UJ y t d j (λz=>(u rfl).trans (g z)) (by omega) (by grind);refine RG.tail ?_;show RG 373 f (gZ false (n+2) f.mode t f);rw[j.md];exact x
 have o:RG 374 σ ((Pure.pure ():M Unit) σ):=(qX h.iv h.ms).mono (by omega);have⟨a,b,kk,gL⟩:=t;cases kk with
 |lost=>exact absurd rfl d.nl
 |ke s=>
  refine BZ (sp:=lr) (P:=RG 374 σ) rfl rfl rfl ?_ ?_
  .exact o
  .exact m _ d g
 |gR s=>
  refine jz d.nl (sp:=lr) (P:=RG 374 σ) rfl rfl ?_;show RG 374 σ (x7 87 true _ σ);rw[yL];exact RG.mono (c:=1) (vZ h.iv mW (Aw h.iv h.ne) _ (by omega) h.ms) (by omega)
 |iM s q=>exact jz d.nl (sp:=lr) (P:=RG 374 σ) rfl rfl o
 |im=>exact jz d.nl (sp:=lr) (P:=RG 374 σ) rfl rfl (m _ d g)
 |start nm=>
  have v:nS σ ⟨a,b,.start nm,gL⟩:=g.tag rfl;refine Hh (sp:=lr) (P:=RG 374 σ) rfl (by simp) rfl rfl ?_ ?_
  .intro p l r;simp only[qD,qE,rH]at l;rcases l with rfl|rfl
   all_goals dsimp only at r|-
   .refine RG.mono (c:=1) (Gf (c:=0) h true gL (λ_=>v.fr) (by omega) (k:=(Pure.pure ():M Unit)) ?_) (by omega);intro f j B C w' u;exact qX j.iv j.ms
   .have e:=IX r;subst e;exact(Nx (n+1) a b gL h.iv h.ne v.fr h.ms).mono (by omega)
  .exact m _ d g
 |stop nm=>
  refine Om (sp:=lr) (P:=RG 374 σ) rfl (by simp) rfl rfl ?_ ?_
  .intro p l r;simp only[qD,qE,rH]at l;subst l;exact m _ d g
  .exact o
structure Z8 (σ:Ab):Prop where
 iv:mM σ
 md:σ.mode<=1
 op:σ.gz=[]
 hd:σ.head=none
def Z8.ms (h:Z8 σ):MS σ:=⟨.inl (.inl ⟨h.md,h.op,h.hd⟩),BH.low (by have:=h.md;omega)⟩
def Ge (h:Z8 σ) (own:Bool) (gL:lh) (U:own=true->σ.fresh=true) (hw:wt σ < 998000) {k:M Unit} (V:∀j,In2 j->Lm σ j->j.waiting=σ.waiting->wt j<=wt σ+1->(own=false->j.fresh=σ.fresh)->RG c j (k j)):RG (c+1) σ ((rN own gL>>=λ_=>k) σ):=by
 obtain⟨r,K⟩:=h.iv;obtain⟨B,Q⟩:=Ac r σ.nodes.length;obtain⟨A,u⟩:=Option.isSome_iff_exists.1 K.xf;have q:=Ab.ik u;have p:∀(l:lh) (o:Bool),(own=false->o=σ.fresh)->sY fX own gL σ= .ok σ.nodes.length (σ.pn (.el {name:=fX,gU:=l,je:=none,kids:=[]}) o)->RG (c+1) σ ((rN own gL>>=λ_=>k) σ):=by
  intro l o C I;obtain⟨G,H⟩:=K.new fX l o (B+1);obtain⟨g,f⟩:∃g,g=σ.pn (.el {name:=fX,gU:=l,je:=none,kids:=[]}) o:=⟨_,rfl⟩;rw[<-f]at G H I;have z:g.hU σ.nodes.length=some {name:=fX,gU:=l,je:=none,kids:=[]}:=by rw[f];exact Ab.um
  have v:g.hU 0=some A:=by rw[f];show(σ.add _).hU 0=_;rw[Ab.tI q];exact u
  have w1:wt g=wt σ:=by rw[f];exact Ek _ _ _
  have Y:g.gz=[]:=by rw[f];exact h.op
  have T:Ca g= .ok (0,A.kids.length) g:=by unfold Ca jy;rw[v]
  obtain⟨d,q1,q2,q3,q4,q5,q6,q7,q8,q9,a0⟩:=G.put (pl:=(0,A.kids.length)) ⟨A,v,ig _⟩ z rfl (by
   show wW r σ.nodes.length (B+1) 0 < wW r σ.nodes.length (B+1) σ.nodes.length;rw[yz,zq (by omega)];have:=Q 0 q;omega) (by omega)
  obtain⟨e2,y,D,_⟩:=q9 _ _ z;show RG (c+1) σ (((sY fX own gL>>=λe=>Ca>>=λpl=>mO pl e>>=λ_=>xk (some e)>>=λ_=>jO 2>>=λ_=>(Pure.pure ():M Unit))>>=λ_=>k) σ);rw[M.gx,M.gx,I];dsimp only;rw[M.gx,T];dsimp only;rw[M.gx,q1];dsimp only;rw[M.gx];have O:d.gz=[]:=q5.trans Y;have F:=H.trans q3;unfold xk
  by_cases J:d.pQ<=d.gz.length
  .rw[gF J];exact F.gP
  .rw[gQ J,gF (show d.mG (some σ.nodes.length)=true by show(d.hU _).isSome=true;rw[y];rfl)];dsimp only;obtain⟨Z,p2⟩:=q2.push y (by rw[O];intro x W;cases W) (by omega) (.inr ⟨D,by rw[F.head];exact h.hd⟩);have m:d.waiting=σ.waiting:=F.waiting;have X:In2 {({d with gz:=d.gz++[some σ.nodes.length]}:Ab)with mode:=2}:=⟨mM.lY ⟨_,Z⟩ rfl rfl rfl rfl rfl rfl rfl,rfl,σ.nodes.length,by show d.gz++_=_;rw[O];rfl⟩;have N:Lm σ {({d with gz:=d.gz++[some σ.nodes.length]}:Ab)with mode:=2}:=⟨F.gP,F.pQ,F.qQ,F.oZ,by show d.waiting.length<=_;rw[m];omega,by show∀x∈d.waiting,_;rw[m];exact λ_ h=> .inl h,F.nm⟩;have P:=V _ X N m (by show wt d<=_;omega) (λE=>by
    show d.fresh=_;rw[q7,f];exact C E)
   exact RG.from (c1:=c) (c2:=1) P N (by show d.waiting.length<=_;rw[m];omega) (by show∀x∈d.waiting,_;rw[m];exact λ_ h=>h) (by show wt d<=_;omega) (ig _)
 cases own with
 |true=>
  refine p gL false (λh=>by cases h) ?_;unfold sY;rw[gF rfl,gF (U rfl)]
 |false=>exact p [] σ.fresh (λ_=>rfl) rfl
theorem UH (u:4*64+8<=n) (t:gM) (d:uU t) (h:Z8 σ) (f:Hn σ t) (C:wt σ < 995000) (z:σ.waiting.length < 4000):RG 375 σ (gZ false (n+4) 1 t σ):=by
 have l:∀t,uU t->Hn σ t->RG 375 σ (pa (gZ false (n+3)) t σ):=by
  intro t d f;refine Ge (c:=374) h false [] (λh=>by cases h) (by omega) (k:=j1 (gZ false (n+3)) t>>=λ_=>(Pure.pure ():M Unit)) ?_;intro e g A B w' o;have r:=UI u t d g (λx=>(o rfl).trans (f x)) (by omega) (by grind);refine RG.tail ?_;show RG 374 e (gZ false (n+3) e.mode t e);rw[g.md];exact r
 have m:RG 375 σ ((Pure.pure ():M Unit) σ):=(qX h.iv h.ms).mono (by omega);have⟨a,b,kk,gL⟩:=t;cases kk with
 |lost=>exact absurd rfl d.nl
 |ke s=>
  refine BZ (sp:=ln) (P:=RG 375 σ) rfl rfl rfl ?_ ?_
  .exact m
  .exact l _ d f
 |gR s=>
  refine jz d.nl (sp:=ln) (P:=RG 375 σ) rfl rfl ?_;show RG 375 σ (x7 81 false _ σ);rw[O7];exact RG.mono (c:=1) (vZ h.iv (jy 0) (Nb h.iv) _ (by omega) h.ms) (by omega)
 |iM s q=>exact jz d.nl (sp:=ln) (P:=RG 375 σ) rfl rfl m
 |im=>exact jz d.nl (sp:=ln) (P:=RG 375 σ) rfl rfl (l _ d f)
 |start nm=>
  have y:nS σ ⟨a,b,.start nm,gL⟩:=f.tag rfl;refine Hh (sp:=ln) (P:=RG 375 σ) rfl (by simp) rfl rfl ?_ ?_
  .intro p j v;simp only[qD,qE,rH]at j;subst j;refine RG.mono (c:=1) (Ge (c:=0) h true gL (λ_=>y.fr) (by omega) (k:=(Pure.pure ():M Unit)) ?_) (by omega);intro e g A B w' o;exact qX g.iv g.ms
  .exact l _ d f
 |stop nm=>
  refine Om (sp:=ln) (P:=RG 375 σ) rfl (by simp) rfl rfl ?_ ?_
  .intro p j v;simp only[qD,qE,rH]at j;subst j;exact l _ d f
  .exact m
def sv:my:={blank:= .nothing,gR:= .gR 81 false,iM:= .ie 82,iE:= .ie 83}
def Z8.q (h:Z8 σ) (q:Bool):Z8 {σ with jN:=q,mode:=1}:=⟨h.iv.lY rfl rfl rfl rfl rfl rfl rfl,ig _,h.op,h.hd⟩
def abR (z:4*64+8<=n) (t:gM) (d:uU t) (h:Z8 σ) (f:Hn σ t) (B:wt σ < 995000) (k:σ.waiting.length < 4000):RG 376 σ (gZ false (n+5) 0 t σ):=by
 have g:∀t,uU t->Hn σ t->RG 376 σ (lG (gZ false (n+4)) t σ):=by
  intro t d f;have j:=RG.tail (UH z t d (h.q true) (λA=>f A) B k);exact RG.from (c1:=375) (c2:=0) j ⟨rfl,rfl,rfl,rfl,lf _,λ_ h=> .inl h,λ_ _ h=>h⟩ (ig _) (λ_ h=>h) (ni (jm rfl)) (by omega)
 have o:RG 376 σ ((Pure.pure ():M Unit) σ):=(qX h.iv h.ms).mono (by omega);obtain⟨a,b,D,gL⟩:=t;cases D with
 |lost=>exact absurd rfl d.nl
 |ke s=>
  refine BZ (sp:=sv) (P:=RG 376 σ) rfl rfl rfl ?_ ?_
  .exact o
  .exact g _ d f
 |gR s=>
  refine jz d.nl (sp:=sv) (P:=RG 376 σ) rfl rfl ?_;show RG 376 σ (x7 81 false _ σ);rw[O7];exact RG.mono (c:=1) (vZ h.iv (jy 0) (Nb h.iv) _ (by omega) h.ms) (by omega)
 |iM s q=>
  refine jz d.nl (sp:=sv) (P:=RG 376 σ) rfl rfl ?_;obtain⟨l,j,r⟩:=Nb h.iv;have v:=Fc h.iv r (.dt s) .dt (.inr ⟨s,rfl,rfl⟩) (by omega);show RG 376 σ ((jy 0>>=λl=>oO l (.dt s) .dt>>=λ_=>(do wH λσ=>{σ with jN:=q||!kC s fX};jO 1;return ():M Unit)) σ);rw[M.gx,j];dsimp only;rw[M.gx];revert v;cases oO l (.dt s) .dt σ with
  |ok u σ1=>
   rintro⟨C,e,F,E⟩;have y:Z8 σ1:=⟨C,by rw[e.mode];exact h.md,by rw[E.gz];exact h.op,by rw[e.head];exact h.hd⟩;have m:=y.q (q||!kC s fX);exact⟨m.iv,m.ms,⟨e.gP,e.pQ,e.qQ,e.oZ,by show σ1.waiting.length<=_;rw[e.waiting];omega,by show∀x∈σ1.waiting,_;rw[e.waiting];exact λ_ h=> .inl h,e.nm⟩,by show wt σ1<=_;omega⟩
  |stop c p=>exact λh=>h
  |stuck=>exact λh=>h
 |im=>exact jz d.nl (sp:=sv) (P:=RG 376 σ) rfl rfl (g _ d f)
 |start nm=>exact jz d.nl (sp:=sv) (P:=RG 376 σ) rfl rfl (g _ d f)
 |stop nm=>exact jz d.nl (sp:=sv) (P:=RG 376 σ) rfl rfl (g _ d f)
def R3 (x:4*64+8<=n) (t:gM) (k:uU t) (j:mM σ) (y:HS σ.mode σ.gz σ.head) (q:BH σ) (h:Hn σ t) (o:wt σ < 995000) (f:σ.waiting.length < 4000):RG 380 σ (gZ false (n+5) σ.mode t σ):=by
 rcases y with⟨d,g,p⟩|⟨d,g⟩|⟨d,g⟩|⟨d,g⟩|⟨d,g⟩
 .have l:Z8 σ:=⟨j,d,g,p⟩;rcases rC σ.mode 1 with v|v
  .have e:σ.mode=0:=by omega
   rw[e];exact(abR x t k l h o f).mono (by omega)
  .have e:σ.mode=1:=by omega
   rw[e];exact(UH (n:=n+1) (by omega) t k l h o f).mono (by omega)
 .rw[d];exact(UI (n:=n+2) (by omega) t k ⟨j,d,g⟩ h (by omega) f).mono (by omega)
 .rw[d];exact(UJ (n:=n+3) (by omega) t k ⟨j,d,g⟩ h (by omega) f).mono (by omega)
 .rw[d];exact(UK (n:=n+4) (by omega) t k ⟨j,d,g⟩ h (by omega) f).mono (by omega)
 .have u:σ.gz.length<=64:=by obtain⟨r,m⟩:=j;exact jP m.wV m.OI
  exact((Ho 64 (n+5) (by omega) t σ ⟨k,⟨j,g,d⟩,h,by omega,f,u⟩).rg (q (.inl (Dm d)))).mono (by omega)
def abS (B:4*64+8<=n) (t:gM) (d:uU t) (m:mM σ) (u:σ.mode=5) (A:3<=σ.kept) (l:2<=σ.gz.length) (o:HS σ.kept σ.gz.dropLast σ.head) (r:BH σ) (F:Hn σ t) (C:wt σ < 995000) (p:σ.waiting.length < 4000):RG 380 σ (gZ false (n+6) 5 t σ):=by
 have g:MS σ:=⟨.inr (.inl ⟨u,A,l,o⟩),r⟩;have f:BH {σ.pop with mode:=σ.kept}:=λq=>(r (.inr ⟨u,by have q:6<=σ.kept\/σ.kept=5/\6<=σ.kept:=q;omega⟩)).of λ_ _ h=>h;have j:σ.gz≠[]:=by intro e;rw[e]at l;simp at l
 obtain⟨y,E⟩:=EY m l;have v:mM {σ.pop with mode:=σ.kept}:=y.lY rfl rfl rfl rfl rfl rfl rfl;have x:Lm σ {σ.pop with mode:=σ.kept}:=⟨rfl,rfl,rfl,rfl,lf _,λ_ h=> .inl h,λ_ _ h=>h⟩;have k:RG 380 σ (yT σ):=⟨v,⟨.inl o,f⟩,x,jP (ni (jm rfl)) (xN _ _)⟩;obtain⟨a,b,D,gL⟩:=t;cases D with
 |lost=>exact absurd rfl d.nl
 |ke s=>
  refine BZ (sp:=qZ) (P:=RG 380 σ) rfl rfl rfl ?_ ?_
  .exact(xB m j g d.sz (by omega)).mono (by omega)
  .exact(xB m j g d.sz (by omega)).mono (by omega)
 |gR s=>exact jz d.nl (sp:=qZ) (P:=RG 380 σ) rfl rfl k
 |iM s q=>exact jz d.nl (sp:=qZ) (P:=RG 380 σ) rfl rfl k
 |start nm=>exact jz d.nl (sp:=qZ) (P:=RG 380 σ) rfl rfl k
 |stop nm=>exact jz d.nl (sp:=qZ) (P:=RG 380 σ) rfl rfl k
 |im=>
  refine jz d.nl (sp:=qZ) (P:=RG 380 σ) rfl rfl ?_;have z:=RG.tail (R3 B ⟨a,b,.im,gL⟩ d (σ:={σ.pop with mode:=σ.kept}) v o f (λh=>by cases h) C p);exact RG.from (c1:=380) (c2:=0) (σ1:={σ.pop with mode:=σ.kept}) z x (ig _) (λ_ h=>h) (ni (jm rfl)) (by omega)
def Vf (c:Nat) (σ:Ab) (r:pG Unit):Prop:=match r with
 | .ok _ σ'=>mM σ'/\σ'.gz≠[]/\σ'.mode=σ.mode/\σ'.kept=σ.kept/\σ'.gP=σ.gP/\σ'.pQ=σ.pQ/\σ'.qQ=σ.qQ/\σ'.oZ=σ.oZ/\σ'.fresh=σ.fresh/\wt σ'<=wt σ+c/\∀i s,iU σ i s->iU σ' i s
 | .stop _ p=>p=σ.gP
 | .stuck=>False
def Vf.bind {c1 c2 : Nat} {m k:M Unit} (h:Vf c1 σ (m σ)) (Q:∀d,mM d->d.gz≠[]->wt d<=wt σ+c1->Vf c2 d (k d)) (T:c1+c2<=c):Vf c σ ((m>>=λ_=>k) σ):=by
 rw[M.gx];revert h;cases m σ with
 |ok u σ1=>
  rintro⟨o,r,x,y,l,z,A,B,C,f,g⟩;have P:=Q σ1 o r f;dsimp only;revert P;cases k σ1 with
  |ok v σ2=>
   rintro⟨D,F,G,H,I,J,K,N,O,E,j⟩;exact⟨D,F,G.trans x,H.trans y,I.trans l,J.trans z,K.trans A,N.trans B,O.trans C,by omega,λi s q=>j i s (g i s q)⟩
  |stop e p=>exact λh=>xI h l
  |stuck=>exact λh=>h
 |stop e p=>exact λh=>h
 |stuck=>exact λh=>h
def jH.kw {r : pG Unit} {Q : Unit->Ab->Prop} (h:jH c σ r Q) (g:σ.gz≠[]) (m:∀d,Q () d->d.fresh=σ.fresh):Vf c σ r:=by
 cases r with
 |ok a d=>
  obtain⟨j,f,k,l⟩:=h;exact⟨j,f.ne g,f.mode,f.kept,f.gP,f.pQ,f.qQ,f.oZ,m d l,k,f.nm⟩
 |stop e p=>exact h
 |stuck=>exact h
def Ig (h:mM σ) (e:σ.gz≠[]) (m:t.chars.size<=100) (o:wt σ < 999000):jH 200 σ (nG t σ) (λ_ d=>d.fresh=σ.fresh):=by
 unfold nG;split
 .exact⟨h,Fx.refl _,xN _ _,rfl⟩
 .refine jH.bind (nP h e (by omega)) (c2:=101) ?_ (by omega);rintro _ k g f p ⟨_,_,j⟩;refine jH.iH (Q:=λ_ d=>d.fresh=σ.fresh) ((oH g (f.ne e) t (by omega)).mono (by omega) ?_);intro _ l _ _ q;exact q.fresh.trans j
def KS (h:mM σ) (f:σ.gz≠[]) (x:Nat×Nat×gy) (j:x.2.2.size<=100) (k:wt σ < 999000):Vf 200 σ (sV (gZ true (n+1)) (rl x) σ):=by
 have e:gZ true (n+1) 6 (rl x)=nG (rl x):=iI true n 6 _ (by intro e;cases e) kF rfl (.ie 102) (by
  unfold rl kg;dsimp only;split<;>rfl)
 have g:=Ig (σ:={σ with iR:=true}) (t:=rl x) (h.lY rfl rfl rfl rfl rfl rfl rfl) f j k;show Vf 200 σ ((gZ true (n+1) 6 (rl x)>>=λ_=>wH (λσ=>{σ with iR:=false})>>=λ_=>(Pure.pure ():M Unit)) {σ with iR:=true});rw[e,M.gx];revert g;cases nG (rl x) {σ with iR:=true} with
 |ok u σ1=>
  rintro⟨l,d,o,m⟩;exact⟨l.lY rfl rfl rfl rfl rfl rfl rfl,d.ne f,d.mode,d.kept,d.gP,d.pQ,d.qQ,d.oZ,m,o,d.nm⟩
 |stop c p=>exact λh=>h
 |stuck=>exact λh=>h
def DD:∀(d:List (Nat×Nat×gy)) {σ:Ab},mM σ->σ.gz≠[]->(∀x∈d,x.2.2.size<=100)->wt σ+200*d.length < 999000->Vf (200*d.length) σ (tN (gZ true (n+1)) d σ)
 |[],σ,h,hne,_,_=>⟨h,hne,rfl,rfl,rfl,rfl,rfl,rfl,rfl,xN _ _,λ_ _ h=>h⟩
 |x::d,σ,h,hne,hs,hw=>by
  simp only[qe]at hw;refine Vf.bind (m:=sV (gZ true (n+1)) (rl x)) (k:=tN (gZ true (n+1)) d) (KS h hne x (hs x (pP ..)) (by omega)) (c2:=200*d.length) ?_ (by simp only[qe];omega);intro j e g w';exact DD d e g (λy f=>hs y (oW _ f)) (by omega)
def DJ:∀(d:List (Nat×Nat×gy)) {σ:Ab},mM σ->σ.gz≠[]->(∀x∈d,x.2.2.size<=100)->wt σ+200*d.length < 999000->Vf (200*d.length) σ (tQ d σ)
 |[],σ,h,hne,_,_=>⟨h,hne,rfl,rfl,rfl,rfl,rfl,rfl,rfl,xN _ _,λ_ _ h=>h⟩
 |x::d,σ,h,hne,hs,hw=>by
  simp only[qe]at hw;have o:(rl x).chars.size<=100:=hs x (pP ..);have f:Vf 200 σ (j7 (rl x) σ):=((oH h hne (rl x) (by omega)).mono (c':=200) (by omega) (λ_ _ _ _ h=>h)).kw hne (λ_ q=>q.fresh);refine Vf.bind (m:=j7 (rl x)) (k:=tQ d) f (c2:=200*d.length) ?_ (by simp only[qe];omega);intro l e j w';exact DJ d e j (λy g=>hs y (oW _ g)) (by omega)
def Bq (h:mM σ) (d:σ.gz≠[]) (e:∀x∈σ.waiting,x.2.2.size<=100) (f:wt σ+200*σ.waiting.length < 999000):Vf (200*σ.waiting.length) σ (po (gZ true (n+1)) σ):=by
 unfold po;split
 .exact DD σ.waiting h d e f
 .exact DJ σ.waiting h d e f
def Es (σ:Ab):Nat:=wt σ+200*σ.waiting.length
structure xQ (σ:Ab):Prop where
 iv:mM σ
 ms:MS σ
 wz:∀x∈σ.waiting,x.2.2.size<=100
def RT (c:Nat) (σ:Ab) (r:pG Unit):Prop:=match r with
 | .ok _ σ'=>xQ σ'/\σ'.gP=σ.gP/\σ'.pQ=σ.pQ/\σ'.qQ=σ.qQ/\σ'.oZ=σ.oZ/\σ'.waiting.length<=σ.waiting.length+1/\Es σ'<=Es σ+c/\∀i s,iU σ i s->iU σ' i s
 | .stop _ p=>p=σ.gP
 | .stuck=>False
def RG.rt {r : pG Unit} (h:RG c σ r) (k:∀x∈σ.waiting,x.2.2.size<=100):RT (c+200) σ r:=by
 cases r with
 |ok a σ'=>
  obtain⟨f,g,d,l⟩:=h;refine⟨⟨f,g,λx j=>(d.wz x j).elim (k x) id⟩,d.gP,d.pQ,d.qQ,d.oZ,d.wt,?_,d.nm⟩;unfold Es;have:=d.wt;omega
 |stop e p=>exact h
 |stuck=>exact h
def abT (X:4*64+8<=n) (t:gM) (d:uU t) (g:xQ σ) (W:σ.mode=8) (z:σ.kept=7\/σ.kept=11\/σ.kept=12) (r:σ.gz≠[]) (j:Hn σ t) (A:Es σ < 990000) (a0:σ.waiting.length < 4000):RT 580 σ (gZ false (n+6) 8 t σ):=by
 have o:MS σ:=g.ms;have l:∀t,uU t->Hn σ t->RT 580 σ (mi (gZ true (n+5)) (gZ false (n+5)) t σ):=by
  intro t d j;have O:=Bq (n:=n+4) g.iv r g.wz (by unfold Es at A;omega);unfold mi;rw[M.gx];revert O;cases po (gZ true (n+4+1)) σ with
  |ok u σ1=>
   rintro⟨B,D,a3,E,y,F,G,H,I,C,m⟩;dsimp only;have i2:mM {σ1 with waiting:=[],mode:=σ1.kept}:=B.lY rfl rfl rfl rfl rfl rfl rfl;have V:p9 σ1.kept=true:=by rw[E];rcases z with e|e|e<;>(rw[e];rfl)
   have Q:=R3 X t d (σ:={σ1 with waiting:=[],mode:=σ1.kept}) i2 (.inr (.inr (.inr (.inr ⟨V,D⟩)))) (λ_=>(o.2 (.inl (by omega))).of m) (λY=>I.trans (j Y)) (by show wt σ1 < _;unfold Es at A;omega) (by show(0:Nat) < 4000;omega);have T:=RG.tail Q;show RT 580 σ ((j1 (gZ false (n+5)) t>>=λ_=>(Pure.pure ():M Unit)) {σ1 with waiting:=[],mode:=σ1.kept});have U:RG 380 {σ1 with waiting:=[],mode:=σ1.kept} ((j1 (gZ false (n+5)) t>>=λ_=>(Pure.pure ():M Unit)) {σ1 with waiting:=[],mode:=σ1.kept}):=T;revert U;cases(j1 (gZ false (n+5)) t>>=λ_=>(Pure.pure ():M Unit)) {σ1 with waiting:=[],mode:=σ1.kept} with
   |ok v σ2=>
    rintro⟨J,K,f,N⟩;have hl:σ2.waiting.length<=0+1:=f.wt;refine⟨⟨J,K,λx k=>(f.wz x k).elim (λh=>by cases h) id⟩,f.gP.trans y,f.pQ.trans F,f.qQ.trans G,f.oZ.trans H,by omega,?_,λi s q=>f.nm i s (m i s q)⟩;have Z:wt σ2<=wt σ1+380:=N;unfold Es;omega
   |stop c p=>exact λh=>xI h y
   |stuck=>exact λh=>h
  |stop c p=>exact λh=>h
  |stuck=>exact λh=>h
 obtain⟨a,b,kk,gL⟩:=t;cases kk with
 |lost=>exact absurd rfl d.nl
 |ke s=>
  have KC:RT 580 σ (oJ ⟨a,b,.ke s,gL⟩ σ):=by
   rw[DO (by omega)];cases sW s with
   |true=>exact⟨g,rfl,rfl,rfl,rfl,lf _,xN _ _,λ_ _ h=>h⟩
   |false=>
    refine⟨⟨g.iv.lY rfl rfl rfl rfl rfl rfl rfl,⟨.inr (.inr ⟨W,z,r⟩),o.2⟩,?_⟩,rfl,rfl,rfl,rfl,by show(σ.waiting++[(a,b,s)]).length<=_;simp,?_,λ_ _ h=>h⟩
    .intro x k;rcases List.mem_append.1 (show x∈σ.waiting++[(a,b,s)]from k)with k|k
     .exact g.wz x k
     .rw[List.mem_singleton.1 k];exact d.sz
    .show wt σ+200*(σ.waiting++[(a,b,s)]).length<=_;unfold Es;simp;omega
  exact BZ (sp:=kT) (P:=RT 580 σ) rfl rfl rfl KC KC
 |gR s=>exact jz d.nl (sp:=kT) (P:=RT 580 σ) rfl rfl (l _ d j)
 |iM s q=>exact jz d.nl (sp:=kT) (P:=RT 580 σ) rfl rfl (l _ d j)
 |start nm=>exact jz d.nl (sp:=kT) (P:=RT 580 σ) rfl rfl (l _ d j)
 |stop nm=>exact jz d.nl (sp:=kT) (P:=RT 580 σ) rfl rfl (l _ d j)
 |im=>exact jz d.nl (sp:=kT) (P:=RT 580 σ) rfl rfl (l _ d j)
abbrev uK:Nat:=300
def adf (t:gM) (l:uU t) (g:xQ σ) (k:Hn σ t) (m:Es σ < 990000) (d:σ.waiting.length < 4000):RT 580 σ (gZ false uK σ.mode t σ):=by
 have p:wt σ < 990000:=by unfold Es at m;omega
 rcases g.ms.1 with h|⟨e,f,j,o⟩|⟨e,f,j⟩
 .exact(R3 (n:=295) (by omega) t l g.iv h g.ms.2 k (by omega) d).rt g.wz
 .rw[e];exact(abS (n:=294) (by omega) t l g.iv e f j o g.ms.2 k (by omega) d).rt g.wz
 .rw[e];exact abT (n:=294) (by omega) t l g e f j k m d
def RTk (σ:Ab) (t:gM) (r:pG Unit):Prop:=match r with
 | .ok _ σ'=>xQ σ'/\σ'.pQ=σ.pQ/\σ'.qQ=σ.qQ/\σ'.oZ=σ.oZ/\σ'.waiting.length<=σ.waiting.length+1/\Es σ'<=Es σ+580/\∀i s,iU σ i s->iU σ' i s
 | .stop _ p=>p=t.a
 | .stuck=>False
def acb (t:gM) (E:t.k= .lost\/uU t) (g:xQ σ) (z:Hn σ t) (C:Es σ < 990000) (f:σ.waiting.length < 4000):RTk σ t (vn (gZ false uK) t σ):=by
 have d:t.k≠ .lost->RTk σ t ((if σ.behind&&kC t.chars yD then .ok () {σ with behind:=false,gP:=t.a} else j1 (gZ false uK) t {σ with behind:=false,gP:=t.a}):pG Unit):=by
  intro A;have j:uU t:=E.resolve_left A;have k:xQ {σ with behind:=false,gP:=t.a}:=⟨g.iv.lY rfl rfl rfl rfl rfl rfl rfl,g.ms,g.wz⟩;split
  .exact⟨k,rfl,rfl,rfl,lf _,xN _ _,λ_ _ h=>h⟩
  .have h:=adf t j k (λB=>z B) C f;show RTk σ t (gZ false uK σ.mode t {σ with behind:=false,gP:=t.a});revert h;cases gZ false uK ({σ with behind:=false,gP:=t.a}:Ab).mode t {σ with behind:=false,gP:=t.a} with
   |ok u σ'=>rintro⟨l,F,m,o,r,v,x,y⟩;exact⟨l,m,o,r,v,x,y⟩
   |stop c p=>exact λh=>h
   |stuck=>exact λh=>h
 obtain⟨a,b,D,gL⟩:=t;cases D with
 |lost=>exact⟨g,rfl,rfl,rfl,lf _,xN _ _,λ_ _ h=>h⟩
 |ke s=>exact d (by intro e;cases e)
 |gR s=>exact d (by intro e;cases e)
 |iM s q=>exact d (by intro e;cases e)
 |start nm=>exact d (by intro e;cases e)
 |stop nm=>exact d (by intro e;cases e)
 |im=>exact d (by intro e;cases e)
def NQ:AQ->Prop
 | .el e=>e.name.size<=5000/\e.gU.length<=16/\∀p∈e.gU,p.1.size<=5000/\p.2.size<=66000
 | .tx _=>True
 | .cm s=>s.size<=5000
 | .dt s=>s.size<=5000
class XL where
 l:List Nat
section
variable [XL]
def NG (σ:Ab):Prop:=σ.oZ<=16/\(∀n∈σ.nodes,NQ n)/\∀i e,σ.hU i=some e->e.je=none->i=0\/i∈XL.l
structure TG (t:gM):Prop where
 name:t.name.size<=5000
 len:t.js.length<=16
 gL:∀p∈t.js,p.1.size<=5000/\p.2.size<=66000
 cm:∀s,t.k= .gR s->s.size<=5000
 dt:∀n q,t.k= .iM n q->n.size<=5000
def vu {α:Type} (r:pG α):Prop:=match r with
 | .ok _ σ'=>NG σ'
 | .stop e _=>e≠0
 | .stuck=>True
def Kp {α:Type} (m:M α):Prop:=∀σ,NG σ->vu (m σ)
def Kp.pure {α:Type} (a:α):Kp (Pure.pure a:M α):=λ_ h=>h
def Kp.stuck {α:Type}:Kp (stuck:M α):=λ_ _=>trivial
def Kp.bind {α k:Type} {m:M α} {f:α->M k} (h:Kp m) (j:∀a,Kp (f a)):Kp (m>>=f):=by
 intro σ g;rw[M.gx];have d:=h σ g;revert d;cases m σ with
 |ok a σ'=>intro d;exact j a σ' d
 |stop e p=>simp[vu]
 |stuck=>simp[vu]
theorem Kp.ite {α:Type} {c:Prop} [Decidable c] {a b:M α} (d:Kp a) (e:Kp b):Kp (if c then a else b):=by grind
def Kp.at {α:Type} {m:M α} {σ:Ab} (h:Kp m) (d:NG σ):vu (m σ):=h σ d
def NG.lY {σ σ':Ab} (h:NG σ) (e1:σ'.nodes=σ.nodes) (e2:σ'.oZ=σ.oZ):NG σ':=⟨by rw[e2];exact h.1,by rw[e1];exact h.2.1,λi e d=>h.2.2 i e (by unfold Ab.hU at d|-;rw[e1]at d;exact d)⟩
def Kp.wH {f:Ab->Ab} (e1:∀σ,(f σ).nodes=σ.nodes) (e2:∀σ,(f σ).oZ=σ.oZ):Kp (wH f):=λσ h=>h.lY (e1 σ) (e2 σ)
theorem Kp.same {α:Type} {m:M α} (h:∀σ a d,m σ= .ok a d->d=σ) (j:∀σ c p,m σ≠ .stop c p):Kp m:=by
 intro σ k;have f:=h σ;have g:=j σ;revert f g;cases m σ with
 |ok a d=>grind[vu]
 |stop e p=>simp
 |stuck=>simp[vu]
def NG.el {σ:Ab} (h:NG σ) {i:Nat} {e:zu} (d:σ.hU i=some e):NQ (.el e):=h.2.1 _ (tA (Ab.jo d))
def NG.ae9 {σ:Ab} (h:NG σ) {i:Nat} {n:AQ} (o:NQ n) (p:∀e,n= .el e->e.je=none->i=0\/i∈XL.l):NG {σ with nodes:=σ.nodes.set i n}:=⟨h.1,λm l=>by
 rcases List.mem_or_eq_of_mem_set l with f|f
 .exact h.2.1 m f
 .rw[f];exact o,λj e d=>by
 have k:=h.2.2 j e;unfold Ab.hU at d k;dsimp only at d
 by_cases e1:i=j
 .subst e1
  by_cases g:i < σ.nodes.length
  .rw[List.getElem?_set_self g]at d;cases n with
   |el e'=>cases d;exact p _ rfl
   |_=>cases d
  .rw[Z7 (by simp;omega)]at d;cases d
 .rw[List.getElem?_set_ne e1]at d;exact k d⟩
def NG.set {σ:Ab} (h:NG σ) {i:Nat} {e:zu} (f:NQ (.el e)) (g:e.je=none->i=0\/i∈XL.l):NG (σ.ib i e):=h.ae9 f (λj d=>by cases d;exact g)
def NG.add {σ:Ab} (h:NG σ) {n:AQ} (l:NQ n) (o:∀e,n= .el e->σ.nodes.length∈XL.l):NG (σ.add n):=⟨h.1,λm k=>by
 rcases List.mem_append.1 k with f|f
 .exact h.2.1 m f
 .rw[List.mem_singleton.1 f];exact l,λj e d p=>by
 by_cases g:j < σ.nodes.length
 .rw[Ab.tI g]at d;exact h.2.2 j e d p
 .by_cases e1:j=σ.nodes.length
  .subst e1;rw[Ab.um]at d;cases n with
   |el e'=>exact .inr (o _ rfl)
   |_=>cases d
  .have:=Ab.ik d;simp[Ab.add]at this;omega⟩
def NG.pn {σ:Ab} (h:NG σ) {n:AQ} (d:NQ n) (b:Bool) (f:∀e,n= .el e->σ.nodes.length∈XL.l):NG (σ.pn n b):=(h.add d f).lY rfl rfl
omit [XL] in
theorem NQ.kids {e e':zu} (h:NQ (.el e)) (d:e'.name=e.name) (f:e'.gU=e.gU):NQ (.el e'):=by
 grind[NQ]
def vu.ok {α:Type} {a:α} {σ:Ab} (h:NG σ):vu (.ok a σ):=h
def Kp.fn {α:Type} {f:Ab->pG α} (h:∀σ,NG σ->vu (f σ)):Kp (α:=α) f:=h
attribute [simp] Kp.pure Kp.stuck Kp.bind Kp.ite
@[simp] def ZV {f:Ab->Ab} (h:∀σ,(f σ).nodes=σ.nodes/\(f σ).oZ=σ.oZ):Kp (wH f):=Kp.wH (λσ=>(h σ).1) (λσ=>(h σ).2)
def BR (rec:Nat->gM->M Unit):Prop:=∀m t,TG t->Kp (rec m t)
omit [XL] in
@[simp] def Uk (σ:Ab):σ.mF.nodes=σ.nodes/\σ.mF.oZ=σ.oZ:=⟨rfl,rfl⟩
def vu.st {α:Type} {n p:Nat}:vu (α:=α) (.stop (n+1) p):=Nat.succ_ne_zero n
omit [XL] in
@[simp] def aac (σ:Ab) (p:gy->Bool):(σ.xa p).nodes=σ.nodes/\(σ.xa p).oZ=σ.oZ:=⟨rfl,rfl⟩
@[simp] def abF (pl:Nat×Nat) (j:Nat):Kp (mO pl j):=by
 intro σ h;unfold mO;split
 .rename_i e g d f;split
  .refine vu.ok (NG.set (NG.set h ?_ ?_) ?_ ?_)
   .exact NQ.kids (h.el d) rfl rfl
   .exact h.2.2 _ e d
   .exact NQ.kids (h.el f) rfl rfl
   .exact λh=>by cases h
  .trivial
 .trivial
@[simp] def abH (pl:Nat×Nat) (k:Nd):Kp (zF pl k):=by
 intro σ h;unfold zF;split
 .rename_i e d;split
  .exact vu.ok (NG.set h (NQ.kids (h.el d) rfl rfl) (h.2.2 _ e d))
  .trivial
 .trivial
@[simp] def ad2 (pl:Nat×Nat) (s:gy):Kp (uN pl s):=by
 intro σ h;unfold uN;split
 .rename_i e d;split
  .split
   .split
    .split
     .exact vu.ok (NG.ae9 h (n:= .tx _) trivial nofun)
     .trivial
    .trivial
   .exact vu.ok (NG.set (NG.add h (n:= .tx _) trivial nofun) (NQ.kids (h.el d) rfl rfl) (h.2.2 _ e d))
  .trivial
 .trivial
@[simp] def N4 (x:jg):Kp (xk x):=by
 unfold xk;refine Kp.fn λσ h=>?_
 (repeat' split)<;>first|exact h|exact trivial|exact vu.st|exact vu.ok (h.lY rfl rfl)|exact Kp.at (by(repeat' first|with_reducible refine Kp.bind ?_ λ_=>?_|with_reducible refine Kp.ite ?_ ?_)<;>simp[*]) h
@[simp] def X9 (p b:gy->Bool):Kp (nj p b):=by
 unfold nj;refine Kp.fn λσ h=>?_
 (repeat' split)<;>first|exact h|exact trivial|exact vu.st|exact vu.ok (h.lY rfl rfl)|exact Kp.at (by(repeat' first|with_reducible refine Kp.bind ?_ λ_=>?_|with_reducible refine Kp.ite ?_ ?_)<;>simp[*]) h
@[simp] def VG:Kp (oC):=by
 simp[oC]
@[simp] def ae3 (p:gy->Bool):Kp (pZ p):=by refine Kp.wH (λσ=>?_) (λσ=>?_)<;>(unfold Ab.Jy;split<;>rfl)
@[simp] def Ij (p:gy->Bool):Kp (uG p):=ZV λ_=>⟨rfl,rfl⟩
@[simp] def Bc (m:Nat):Kp (jO m):=ZV λ_=>⟨rfl,rfl⟩
@[simp] def Jn (x:jg):Kp (ku x):=by
 unfold ku;refine Kp.fn λσ h=>?_
 (repeat' split)<;>first|exact h|exact trivial|exact vu.st|exact vu.ok (h.lY rfl rfl)|exact Kp.at (by(repeat' first|with_reducible refine Kp.bind ?_ λ_=>?_|with_reducible refine Kp.ite ?_ ?_)<;>simp[*]) h
@[simp] def OQ (x:jg):Kp (kK x):=by
 unfold kK;refine Kp.fn λσ h=>?_
 (repeat' split)<;>first|exact h|exact trivial|exact vu.st|exact vu.ok (h.lY rfl rfl)|exact Kp.at (by(repeat' first|with_reducible refine Kp.bind ?_ λ_=>?_|with_reducible refine Kp.ite ?_ ?_)<;>simp[*]) h
@[simp] def abp (x y:jg):Kp (zE x y):=by
 unfold zE;refine Kp.fn λσ h=>?_
 (repeat' split)<;>first|exact h|exact trivial|exact vu.st|exact vu.ok (h.lY rfl rfl)|exact Kp.at (by(repeat' first|with_reducible refine Kp.bind ?_ λ_=>?_|with_reducible refine Kp.ite ?_ ?_)<;>simp[*]) h
@[simp] def TT (x y:jg):Kp (rj x y):=by
 unfold rj;refine Kp.fn λσ h=>?_
 (repeat' split)<;>first|exact h|exact trivial|exact vu.st|exact vu.ok (h.lY rfl rfl)|exact Kp.at (by(repeat' first|with_reducible refine Kp.bind ?_ λ_=>?_|with_reducible refine Kp.ite ?_ ?_)<;>simp[*]) h
@[simp] def Ug (i:Nat):∀L:lh,(∀p∈L,p.1.size<=5000/\p.2.size<=66000)->Kp (qo i L)
 |[],_=>Kp.pure _
 |a::r,hL=>by
  intro σ h;have j:=Ug i r (λp f=>hL p (oW _ f));unfold qo;split
  .trivial
  .rename_i e g;split
   .exact j σ h
   .split
    .exact(by decide:(7:Nat)≠0)
    .rename_i m;refine j _ (h.set ?_ (h.2.2 _ e g));obtain⟨k,o,l⟩:=h.el g;have:=h.1;refine⟨k,by simp;omega,λp f=>?_⟩;rcases List.mem_append.1 f with d|d
     .exact l p d
     .rw[List.mem_singleton.1 d];exact hL a (pP ..)
@[simp] def afm (i:Nat) (t:gM) (d:TG t):Kp (wj i t):=by
 intro σ h;unfold wj;split
 .exact Ug i _ d.gL σ h
 .trivial
@[simp] theorem aaq (n:Nat):Kp (FH n):=by
 unfold FH;refine Kp.fn λσ h=>?_
 grind[vu]
@[simp] def OR (n:Nat):Kp (qK n):=by intro σ h;exact TT _ _ σ h
@[simp] def ad3 (pl:Nat×Nat) (k:Nd):Kp (Fb pl k):=by
 cases k with
 |el j=>simp[Fb]
 |tx j=>simp[Fb]
 |cm j=>simp[Fb]
 |dt j=>simp[Fb]
@[simp] theorem abv (n:Nat):Kp (Gk n):=by
 unfold Gk;refine Kp.fn λσ h=>?_
 grind[vu]
@[simp] def Hi (rec:Nat->gM->M Unit) (t:gM) (d:BR rec) (e:TG t):Kp (j1 rec t):=λσ h=>d _ _ e σ h
@[simp] def QB (pl:Nat×Nat) (nd:AQ) (k:Nat->Nd) (d:NQ nd) (f:∀e,nd= .el e->False):Kp (oO pl nd k):=λσ h=>abH _ _ _ (h.add d λe h=>(f e h).elim)
@[simp] def NY:Kp (px):=by intro σ h;exact Jn _ σ h
@[simp] def Te:Kp (pushHead):=by intro σ h;exact N4 _ σ h
@[simp] def aax (rec:Nat->gM->M Unit) (t:gM) (d:BR rec) (e:TG t):Kp (tF rec t):=Kp.bind Te λ_=>Kp.bind (d _ _ e) λ_=>Kp.bind NY λ_=>Kp.pure _
@[simp] def aej (of:gy) (pl:Bool):Kp (MX of pl):=ZV λ_=>⟨rfl,rfl⟩
@[simp] def aem:Kp (yJ):=by intro σ h;unfold yJ;split;exact h;exact VG σ h
@[simp] def Yx (rec:Nat->gM->M Unit) (t:gM) (d:BR rec) (e:TG t):Kp (sV rec t):=Kp.bind (Kp.wH (λ_=>rfl) (λ_=>rfl)) λ_=>Kp.bind (d _ _ e) λ_=>Kp.bind (Kp.wH (λ_=>rfl) (λ_=>rfl)) λ_=>Kp.pure _
@[simp] def adK (t:gM):Kp (oJ t):=by
 unfold oJ;split
 .refine Kp.ite (Kp.pure _) (Kp.fn λσ h=>?_);split
  .exact vu.ok (h.lY rfl rfl)
  .trivial
 simp
omit [XL] in
def aaD (x:Nat×Nat×gy):TG (rl x):=⟨iO _,iO _,(λ_ d=>by cases d),(λ_ h=>by cases h),(λ_ _ h=>by cases h)⟩
@[simp] def FY (rec:Nat->gM->M Unit) (d:BR rec):∀e,Kp (tN rec e)
 |[]=>Kp.pure _
 |x::r=>Kp.bind (Yx rec _ d (aaD x)) λ_=>FY rec d r
@[simp] def ae5:Kp (xF):=ZV λ_=>⟨rfl,rfl⟩
def Mw:Ru->Bool
 | .nJ _ name _=>decide (name.size<=5000)
 | .Nz r=>Mw r
 |_=>true
def spG (sp:my):Bool:=Mw sp.blank&&Mw sp.ke&&Mw sp.gR&&Mw sp.iM&&Mw sp.im&&Mw sp.jV&&Mw sp.kx&&Mw sp.iE&&((sp.start.getD []).all λp=>Mw p.2)&&((sp.stop.getD []).all λp=>Mw p.2)
omit [XL] in
def ab5:∀d∈yr,spG d=true:=List.all_eq_true.1 (by rfl)
omit [XL] in
theorem Us:∀(R:List (List gy×Ru)) (k:gy) (r:Ru),(R.all λp=>Mw p.2)=true->pg R k=some r->Mw r=true
 |[],_,_,_,h=>by cases h
 |p::R,k,r,hR,h=>by
  rw[List.all_cons,rS]at hR;unfold pg at h;split at h
  .grind
  .exact Us R k r hR.2 h
omit [XL] in
def sU:∀L:List Ru,(∀r∈L,Mw r=true)->Mw (kE L)=true
 |[],_=>rfl
 |x::r,h=>by
  have d:=h x (pP ..);cases x with
  |nil=>exact sU r (λy e=>h y (oW _ e))
  |_=>exact d
omit [XL] in
def Ur (R:Option (List (List gy×Ru))) (k:gy) (h:((R.getD []).all λp=>Mw p.2)=true):Mw (DV R k)=true:=by
 cases R with
 |none=>rfl
 |some R=>
  show Mw ((pg R k).getD .nil)=true;cases hq:pg R k with
  |none=>rfl
  |some r=>exact Us R k r h hq
omit [XL] in
theorem ZD {sp:my} (h:spG sp=true) (t:gM):Mw (kg sp t)=true:=by
 unfold spG at h;simp only[rS]at h;have⟨⟨⟨⟨⟨⟨⟨⟨⟨h1,h2⟩,h3⟩,h4⟩,h5⟩,h6⟩,h7⟩,h8⟩,h9⟩,h10⟩:=h;unfold kg;split
 .split
  .exact sU _ (by grind)
  .exact sU _ (by grind)
 .exact sU _ (by grind)
 .exact sU _ (by grind)
 .exact sU _ (by simp[Ur _ _ h9,h6,h8])
 .exact sU _ (by simp[Ur _ _ h10,h7,h8])
 .exact sU _ (by grind)
 .exact sU _ (by grind)
@[simp] def B9 (d:M (Nat×Nat)) (t:gM) (e:Kp d) (g:TG t):Kp (nU d t):=by
 unfold nU;split
 .rename_i s f;exact Kp.bind e λ_=>Kp.bind (QB _ _ _ (g.cm s f) nofun) λ_=>Kp.pure _
 .exact Kp.pure _
@[simp] def nh0:(∀(x:jg),Kp (aeI x)/\Kp (Av x)/\Kp (BT x)/\Kp (lw x))/\Kp yl/\Kp Jd/\Kp yP/\Kp tK/\Kp A0/\Kp yQ/\Kp IA/\Kp yc/\Kp mN/\Kp vG/\(∀(x y:jg),Kp (qx x y)/\Kp (qj x y))/\(∀(s:gy),Kp (uJ s))/\(∀(f:Nat),Kp (ahead f))/\(∀(d:Nat->gM->M Unit) (t:gM) (j:BR d) (e:TG t),Kp (lG d t)/\Kp (yR d t)/\Kp (vV d t)/\Kp (o9 d t))/\(∀(t:gM) (e:TG t),Kp (oG t)/\Kp (qm t))/\(∀(t:gM),Kp (x9 t))/\(∀(g:List gy) (m:Nat),Kp (rU g m)):=by
 (repeat' first|with_reducible intro _|with_reducible apply And.intro)<;>delta aeI yl Av BT qx qj lw Jd uJ ahead lG oG qm yP yR x9 tK A0 yQ IA vV o9 rU yc mN vG<;>(repeat' first|with_reducible refine Kp.bind ?_ λ_=>?_|with_reducible refine Kp.ite ?_ ?_)<;>first|(simp[*];done)|(refine Kp.fn λσ h=>?_;(repeat' split)<;>first|exact h|exact trivial|exact vu.st|exact vu.ok (h.lY rfl rfl)|exact Kp.at (by(repeat' first|with_reducible refine Kp.bind ?_ λ_=>?_|with_reducible refine Kp.ite ?_ ?_)<;>simp[*]) h)
@[simp] def GX (i:Nat):Kp (jy i):=Kp.same (λ_ _ _ h=>pt h) (λσ c p=>qO _ σ c p)
@[simp] def ady (i:Nat):Kp (mD i):=Kp.same (λ_ _ _ h=>Bu h) (λσ c p=>zC _ σ c p)
@[simp] def aae:Kp (j4):=Kp.same (λ_ _ _ h=>oF h) (λσ c p=>wh σ c p)
@[simp] def afw (i:Nat):Kp (MP i):=by
 intro σ h;unfold MP;dsimp only;split
 .refine Kp.at ?_ h;simp[*]
 .refine Kp.at ?_ h;simp[*]
@[simp] def Uh (d:Nat):∀e,Kp (ye d e)
 |[]=>Kp.pure _
 |k::r=>Kp.bind (GX _) λ_=>Kp.bind (ad3 _ _) λ_=>Uh d r
@[simp] def SH (b d:Nat):Kp (handOver b d):=by
 intro σ h;unfold handOver;split
 .trivial
 .split
  .trivial
  .refine Kp.at (Kp.bind (Uh _ _) λ_=>Kp.fn λj e=>?_) h;split
   .rename_i g f;exact vu.ok (NG.set e (NQ.kids (e.el f) rfl rfl) (e.2.2 _ g f))
   .trivial
@[simp] def Pb:Kp (Ca):=by
 simp[Ca]
@[simp] def Xt (t:gM) (e:TG t):Kp (ox t):=by
 unfold ox;split
 .rename_i n q d;exact Kp.bind Pb λ_=>Kp.bind (QB _ _ _ (e.dt n q d) nofun) λ_=>by simp
 .simp
def Z9 {α:Type} (Y:α->List Nat) (r:pG α):Prop:=match r with
 | .ok a σ'=>@NG ⟨Y a⟩ σ'
 | .stop e _=>e≠0
 | .stuck=>True
omit [XL] in
def Z9.ok {α:Type} {Y:α->List Nat} {a:α} {σ:Ab} (h:@NG ⟨Y a⟩ σ):Z9 Y (.ok a σ):=h
def Kj {α:Type} (X:List Nat) (Y:α->List Nat) (m:M α):Prop:=∀σ,@NG ⟨X⟩ σ->Z9 Y (m σ)
omit [XL] in
def Kj.bind {α j:Type} {X:List Nat} {Y:α->List Nat} {Z:j->List Nat} {m:M α} {f:α->M j} (h:Kj X Y m) (k:∀a,Kj (Y a) Z (f a)):Kj X Z (m>>=f):=by
 intro σ g;rw[M.gx];have d:=h σ g;revert d;cases m σ with
 |ok a σ'=>intro d;exact k a σ' d
 |stop e p=>exact λh=>h
 |stuck=>exact λ_=>trivial
def Kp.k {α:Type} {m:M α} (h:Kp m):Kj XL.l (λ_=>XL.l) m:=λσ d=>by
 have e:=h σ d;cases hm:m σ<;>rw[hm]at e<;>exact e
omit [XL] in
def Kp.j {α:Type} {X:List Nat} {m:M α} (h:∀[XL],Kp m):Kj X (λ_=>X) m:=@Kp.k ⟨X⟩ _ _ (@h ⟨X⟩)
def Kj.p {α:Type} {m:M α} (h:Kj XL.l (λ_=>XL.l) m):Kp m:=λσ d=>by
 have e:=h σ d;cases hm:m σ<;>rw[hm]at e<;>exact e
omit [XL] in
def NG.mono {X Y:List Nat} {σ:Ab} (h:@NG ⟨X⟩ σ) (g:∀i∈X,i∈Y):@NG ⟨Y⟩ σ:=⟨h.1,h.2.1,λi e d f=>(h.2.2 i e d f).imp id (g i)⟩
omit [XL] in
def NG.cons {X:List Nat} {σ:Ab} (h:@NG ⟨X⟩ σ) (j:Nat):@NG ⟨j::X⟩ σ:=h.mono λ_ d=>oW _ d
omit [XL] in
def D4 {X Z:List Nat} (pl:Nat×Nat) (j:Nat) (m:∀i∈Z,i=j\/i∈X):Kj Z (λ_=>X) (mO pl j):=by
 intro σ h;have f:=@abF ⟨j::X⟩ pl j σ (h.mono λi o=>List.mem_cons.2 (m i o));revert f;unfold mO;split
 .rename_i p q r l;split
  .rename_i u;intro f;refine Z9.ok ⟨f.1,f.2.1,λi e g k=>?_⟩;rcases f.2.2 i e g k with d|d
   .exact .inl d
   .rcases List.mem_cons.1 d with d|d
    .subst d;rw[Ab.iW (by have:=Ab.ik l;simpa [Ab.ib]using this)]at g;cases g;cases k
    .exact .inr d
  .exact λh=>h
 .exact λh=>h
omit [XL] in
def Uy {X:List Nat} (d:gy) (e:d.size<=5000):Kj X (λj=>j::X) (Gc d):=λσ h=>Z9.ok <|@NG.add ⟨_⟩ _ (h.cons _) (.el ⟨d,[],none,[]⟩) ⟨e,iO _,λ_ f=>by cases f⟩ λ_ _=>pP ..
omit [XL] in
def SP {X:List Nat} (t:gM) (d:TG t):Kj X (λj=>j::X) (pL t):=by
 intro σ h;unfold pL;split
 .exact Z9.ok <|@NG.pn ⟨_⟩ _ (h.cons _) (.el ⟨t.name,t.js,none,[]⟩) ⟨d.name,d.len,d.gL⟩ _ λ_ _=>pP ..
 .trivial
omit [XL] in
def Qg {X:List Nat} (d:gy) (own:Bool) (gL:lh) (e:d.size<=5000) (g:gL.length<=16) (f:∀p∈gL,p.1.size<=5000/\p.2.size<=66000):Kj X (λj=>j::X) (sY d own gL):=by
 intro σ h;unfold sY;split
 .split
  .exact Z9.ok <|@NG.pn ⟨_⟩ _ (h.cons _) (.el ⟨d,gL,none,[]⟩) ⟨e,g,f⟩ _ λ_ _=>pP ..
  .trivial
 .exact Uy d e σ h
omit [XL] in
def BW {X:List Nat} (i:Nat):Kj X (λj=>j::X) (kR i):=by
 intro σ h;unfold kR;split
 .rename_i e d;split
  .trivial
  .exact Z9.ok <|@NG.add ⟨_⟩ _ (h.cons _) (.el ⟨e.name,e.gU,none,[]⟩) (NQ.kids (@NG.el ⟨_⟩ _ h _ _ d) rfl rfl) λ_ _=>pP ..
 .trivial
omit [XL] in
def ME {X:List Nat} (j:Nat):Kj X (λ_=>j::X) (mr j):=by
 intro σ h;unfold mr;split
 .trivial
 .rename_i g f;split
  .exact Z9.ok (h.cons j)
  .split
   .trivial
   .rename_i e d;split
    .refine Z9.ok (@NG.set ⟨_⟩ _ (@NG.set ⟨_⟩ _ (h.cons j) _ _ ?_ ?_) _ _ ?_ ?_)
     .exact NQ.kids (@NG.el ⟨_⟩ _ h _ _ d) rfl rfl
     .exact(h.cons j).2.2 _ e d
     .exact NQ.kids (@NG.el ⟨_⟩ _ h _ _ f) rfl rfl
     .exact λ_=> .inr (pP ..)
    .trivial
@[simp] def Jq (own:Bool) (gL:lh) (f:gL.length<=16) (d:∀p∈gL,p.1.size<=5000/\p.2.size<=66000):Kp (rN own gL):=
 Kj.p (Kj.bind (Qg _ _ _ (by decide) f d) λj=>Kj.bind (Kp.j Pb) λg=>Kj.bind (D4 g j λi e=>List.mem_cons.1 e) λ_=>Kp.j (Kp.bind (N4 _) λ_=>Kp.bind (Bc _) λ_=>Kp.pure _))
@[simp] def acW (t:gM) (d:TG t):Kp (yt t):=Kp.bind (Jq _ _ d.len d.gL) λ_=>Kp.pure _
@[simp] def acP:Kp (rN false []):=Jq _ _ (by decide) (λ_ d=>by cases d)
@[simp] theorem Sq:Kp sS:=by
 unfold sS;refine Kp.fn λσ h=>?_;split
 all_goals grind[vu,jy]
@[simp] def nh1:(∀(i:Nat),Kp (placeFor i))/\Kp zo/\Kp AZ/\Kp yT/\Kp mB/\Kp qP/\Kp EH/\Kp jl/\(∀(d:Nat->gM->M Unit) (t:gM) (e:BR d) (f:TG t),Kp (pa d t))/\(∀(t:gM),Kp (yb t)):=by
 (repeat' first|with_reducible intro _|with_reducible apply And.intro)<;>delta placeFor zo pa AZ yT yb mB qP EH jl<;>(repeat' first|with_reducible refine Kp.bind ?_ λ_=>?_|with_reducible refine Kp.ite ?_ ?_)<;>first|(simp[*];done)|(refine Kp.fn λσ h=>?_;(repeat' split)<;>first|exact h|exact trivial|exact vu.st|exact vu.ok (h.lY rfl rfl)|exact Kp.at (by simp) h)
@[simp] def Qt:Kp (mW):=by
 unfold mW;refine Kp.fn λσ h=>?_
 (repeat' split)<;>first|exact h|exact trivial|exact vu.st|exact vu.ok (h.lY rfl rfl)|exact Kp.at (by simp) h
omit [XL] in
def A6 {X:List Nat} (j:Nat):Kj (j::X) (λ_=>X) (mj j):=Kj.bind (Kp.j Qt) λe=>Kj.bind (D4 e j λi d=>List.mem_cons.1 d) λ_=>Kp.j (Kp.bind (N4 _) λ_=>Kp.pure _)
@[simp] def ut (d:gy) (e:d.size<=5000):Kp (kq d):=Kj.p (Kj.bind (Uy d e) λj=>Kj.bind (A6 j) λ_=>Kp.j (Kp.pure _))
@[simp] def PS (t:gM) (d:TG t):Kp (jt t):=Kj.p (Kj.bind (SP t d) λj=>Kj.bind (A6 j) λ_=>Kp.j (Kp.pure _))
@[simp] def NB (t:gM):Kp (j7 t):=by
 simp[j7]
@[simp] def Zz:∀k n,Kp (JC k n)
 |0,_=>Kp.pure _
 |k+1,n=>Kj.p (Kj.bind (Kp.j (aaq _)) λi=>Kj.bind (BW i) λj=>Kj.bind (A6 j) λ_=>Kp.k (Kp.bind (OR _) λ_=>Zz k (n+1)))
@[simp] def aaf:Kp lK:=λσ h=>Zz _ _ σ h
@[simp] def Jr (own:Bool) (gL:lh) (e:gL.length<=16) (d:∀p∈gL,p.1.size<=5000/\p.2.size<=66000):Kp (rO own gL):=
 Kj.p (Kj.bind (Qg _ _ _ (by decide) e d) λj=>Kj.bind (Kp.j (ZV λ_=>⟨rfl,rfl⟩)) λ_=>Kj.bind (A6 j) λ_=>Kp.j (Kp.bind (Bc _) λ_=>Kp.pure _))
@[simp] def acX (t:gM) (d:TG t):Kp (yu t):=Kp.bind (Jr _ _ d.len d.gL) λ_=>Kp.pure _
@[simp] def acQ:Kp (rO false []):=Jr _ _ (by decide) (λ_ d=>by cases d)
@[simp] def aa5:Kp (kq gA):=ut _ (by decide)
@[simp] def aeo:Kp (kq nc):=ut _ (by decide)
@[simp] def adD:Kp (kq j3):=ut _ (by decide)
@[simp] def Oe (t:gM) (d:TG t):Kp (mX t):=by
 unfold mX
 (repeat' first|with_reducible refine Kp.bind ?_ λ_=>?_|with_reducible refine Kp.ite ?_ ?_)<;>simp[*]
@[simp] def F7:∀d,Kp (tQ d)
 |[]=>Kp.pure _
 |x::r=>Kp.bind (NB _) λ_=>F7 r
@[simp] def MU (rec:Nat->gM->M Unit) (d:BR rec):Kp (po rec):=by
 intro σ h;unfold po;split
 .exact FY rec d _ σ h
 .exact F7 _ σ h
@[simp] def Xr (d rec:Nat->gM->M Unit) (t:gM) (e:BR d) (f:BR rec) (g:TG t):Kp (mi d rec t):=
 Kp.bind (MU d e) λ_=>Kp.bind (Kp.wH (λ_=>rfl) (λ_=>rfl)) λ_=>Kp.bind (Hi rec t f g) λ_=>Kp.pure _
@[simp] def aaH (e:Nat) (own:Bool) (t:gM) (d:TG t):Kp (x7 e own t):=by
 unfold x7;exact Kp.ite (B9 _ _ Qt d) (Kp.ite (B9 _ _ Sq d) (Kp.ite (B9 _ _ (GX _) d) Kp.stuck))
omit [XL] in
theorem Fg (f g:Nat):∀(X:List Nat) n c last d,Kj (last::X) (λr=>r.1::X) (mn f g n c last d)
 |X,0,_,_,_=>λσ h=>h
 |X,n+1,c,last,d=>by
  unfold mn;refine Kj.bind (Kp.j (abv _)) λe=>?_;split
  .exact λσ h=>h
  .refine Kj.bind (Kp.j (Kp.ite (OQ _) (Kp.pure _))) λ_=>λσ h=>?_
   by_cases k:some e∉σ.act
   .rw[gF k];exact Kj.bind (Kp.j (Jn _)) (λ_=>Fg f g X n _ _ _) σ h
   .rw[gQ k];exact Kj.bind (BW _) (λj=>Kj.bind (Kp.j (abp _ _)) λ_=>Kj.bind (Kp.j (TT _ _)) λ_=>Kj.bind (ME _) λ_=>Kj.bind (Kp.j (GX _)) λl=>Kj.bind (D4 l last (X:=j::X) (by simp;grind)) λ_=>Fg f g X n _ _ _) σ h
@[simp] def aep (f d:Nat):Kp (ux f d):=Kj.p (Kj.bind (λσ h=>Fg f d _ _ _ _ _ σ (h.cons _)) λ(last,mark)=>Kj.bind (ME last) λ_=>Kj.bind (Kp.j (by simp)) λa=>Kj.bind (Kp.j (by simp)) λg=>Kj.bind (D4 g last (X:=XL.l) (by simp)) λ_=>Kj.bind (BW f) λe=>Kj.bind (Kp.j (SH _ _)) λ_=>Kj.bind (Kp.j (GX _)) λg=>Kj.bind (D4 g e (X:=XL.l) (by simp)) λ_=>Kp.j (Kp.bind (by simp) λ_=>Kp.bind (OQ _) λ_=>Kp.bind (Jn _) λ_=>Kp.bind (by simp) λ_=>Kp.pure _))
@[simp] def nh2:(∀(t:gM) (e:TG t),Kp (lx t)/\Kp (lz t)/\Kp (ue t)/\Kp (nG t)/\Kp (wF t)/\Kp (oo t)/\Kp (ug t)/\Kp (sx t)/\Kp (pB t)/\Kp (me t)/\Kp (ra t)/\Kp (j5 t)/\Kp (jv t))/\(∀(d:Nat->gM->M Unit) (t:gM) (j:BR d) (e:TG t),Kp (pc d t)/\Kp (nC d t)/\Kp (nw d t)/\Kp (Ds d t))/\(∀(t:gM) (g:Bool) (e:TG t),Kp (oc t g))/\Kp sC/\Kp Pq/\Kp uI/\(∀(f:List gy) (m:Nat),Kp (lj f m))/\(∀(t:gM),Kp (pr t)):=by
 (repeat' first|with_reducible intro _|with_reducible apply And.intro)<;>delta lx lz pc nC ue nw oc Ds nG wF oo ug sx sC Pq uI pB me lj ra pr j5 jv<;>(repeat' first|with_reducible refine Kp.bind ?_ λ_=>?_|with_reducible refine Kp.ite ?_ ?_)<;>first|(simp[*];done)|(refine Kp.fn λσ h=>?_;(repeat' split)<;>first|exact h|exact trivial|exact vu.st|exact vu.ok (h.lY rfl rfl)|exact Kp.at (by(repeat' first|with_reducible refine Kp.bind ?_ λ_=>?_|with_reducible refine Kp.ite ?_ ?_)<;>simp[*]) h)
@[simp] def OV (s:gy):Kp (nB s):=by
 unfold nB;refine Kp.fn λσ h=>?_
 (repeat' split)<;>first|exact h|exact trivial|exact vu.st|exact vu.ok (h.lY rfl rfl)|exact Kp.at (by simp) h
@[simp] def XM (s:gy):∀n,Kp (sR s n)
 |0=>Kp.pure _
 |n+1=>Kp.bind (OV _) λ_=>Kp.ite (XM s n) (Kp.pure _)
@[simp] def nh3:(∀(t:gM) (e:TG t),Kp (sI t)/\Kp (iV t)/\Kp (ui t)/\Kp (oR t)/\Kp (xn t)/\Kp (ph t)/\Kp (pj t)/\Kp (qA t)/\Kp (pi t)/\Kp (lL t))/\(∀(s:gy),Kp (wZ s))/\(∀(d:Nat->gM->M Unit) (t:gM) (f:BR d) (e:TG t),Kp (kO d t))/\Kp tJ/\Kp endCell:=by
 (repeat' first|with_reducible intro _|with_reducible apply And.intro)<;>delta sI iV wZ ui oR xn ph pj qA pi kO tJ endCell lL<;>(repeat' first|with_reducible refine Kp.bind ?_ λ_=>?_|with_reducible refine Kp.ite ?_ ?_)<;>first|(simp[*];done)|(refine Kp.fn λσ h=>?_;(repeat' split)<;>first|exact h|exact trivial|exact vu.st|exact vu.ok (h.lY rfl rfl)|exact Kp.at (by simp) h)
@[simp] def Yk {f:Nat} {b:M Bool} (h:Dx f=some b):Kp b:=by
 unfold Dx at h
 repeat' (split at h)
 all_goals (cases h<;>simp)
@[simp] def nh4:(∀(t:gM) (d:TG t),Kp (pW t)/\Kp (re t)/\Kp (uh t))/\(∀(t:gM),Kp (pR t)):=by
 (repeat' first|with_reducible intro _|with_reducible apply And.intro)<;>delta pW re uh pR<;>(repeat' first|with_reducible refine Kp.bind ?_ λ_=>?_|with_reducible refine Kp.ite ?_ ?_)<;>first|(simp[*];done)|(refine Kp.fn λσ h=>?_;(repeat' split)<;>first|exact h|exact trivial|exact vu.st|exact vu.ok (h.lY rfl rfl)|exact Kp.at (by(repeat' first|with_reducible refine Kp.bind ?_ λ_=>?_|with_reducible refine Kp.ite ?_ ?_)<;>simp[*]) h)
@[simp] theorem nh5:(∀(t:gM) (d:TG t),Kp (sG t)):=by
 (repeat' first|with_reducible intro _|with_reducible apply And.intro)<;>delta sG<;>(simp_all)<;>first|(simp[*];done)|(refine Kp.fn λσ h=>?_;(repeat' split)<;>first|exact h|exact trivial|exact vu.st|exact vu.ok (h.lY rfl rfl)|exact Kp.at (by(repeat' first|with_reducible refine Kp.bind ?_ λ_=>?_|with_reducible refine Kp.ite ?_ ?_)<;>simp[*]) h)
@[simp] def abf (e:Bool) (d rec:Nat->gM->M Unit) (t:gM) (f:Nat) (g:BR d) (h:BR rec) (j:TG t):Kp (Qc e d rec t f):=by
 unfold Qc
 (repeat' with_reducible refine Kp.ite ?_ ?_)<;>simp[*]
@[simp] def PD (k:Bool) (d rec:Nat->gM->M Unit) (t:gM) (l:BR d) (g:BR rec) (e:TG t):∀r,Mw r=true->Kp (pu k d rec r t)
 | .nil,_=>Kp.stuck
 | .nothing,_=>Kp.pure _
 | .ie f,_=>abf k d rec t f l g e
 | .pq m,_=>Kp.ite (g _ _ e) Kp.stuck
 | .gR pf own,_=>aaH pf own t e
 | .ahead f,_=>by
  show Kp (match Dx f with|some b=>xw rec b t|none=>stuck)
  cases hb:Dx f with
  |none=>simp
  |some b=>exact Kp.bind (Yk hb) λ_=>Kp.ite (Kp.bind (Hi rec t g e) λ_=>Kp.pure _) (Kp.pure _)
 | .ends f,_=>by
  show Kp (match Dx f with|some b=>DA b|none=>stuck)
  cases hb:Dx f with
  |none=>simp
  |some b=>exact Kp.bind (Yk hb) λ_=>Kp.pure _
 | .Nz r,h=>by
  have o:=PD k d rec t l g e r h;intro σ j;show vu (K4 (pu k d rec r t) t σ);unfold K4;split
  .exact o σ j
  .exact j
 | .rG ks m,_=>Kp.ite (Kp.bind (Ij _) λ_=>Kp.bind (PS t e) λ_=>Kp.bind (Bc _) λ_=>Kp.pure _) Kp.stuck
 | .nJ ks name m,h=>Kp.ite (Kp.bind (Ij _) λ_=>Kp.bind (ut _ (of_decide_eq_true h)) λ_=>Kp.bind (Bc _) λ_=>Kp.bind (Hi rec t g e) λ_=>Kp.pure _) Kp.stuck
 | .item ks,_=>Kp.bind (X9 _ _) λ_=>Kp.bind (Oe t e) λ_=>Kp.pure _
@[simp] theorem Ot:∀(n:Nat) (d:Bool) (m:Nat) (t:gM),TG t->Kp (gZ d n m t)
 |0,_,_,_,_=>Kp.stuck
 |n+1,d,m,t,f=>by
  by_cases g:t.k= .lost
  .have e:gZ d (n+1) m t=stuck:=by
    have⟨a,b,k,gL⟩:=t;cases g;rfl
   simp_all
  .rw[J7 d n m t g];unfold asM;cases hs:yr[m]? with
   |none=>simp
   |some sp=>exact PD d _ _ t (λm t f=>Ot n true m t f) (λm t f=>Ot n d m t f) f _ (ZD (ab5 sp (tA hs)) t)
@[simp] def TQ (n:Nat) (t:gM) (d:TG t):Kp (vn (gZ false n) t):=by
 have e:Kp (α:=Unit) (λσ:Ab=>if σ.behind&&kC t.chars yD then pG.ok () {σ with behind:=false,gP:=t.a} else j1 (gZ false n) t {σ with behind:=false,gP:=t.a}):=by
  refine Kp.fn λσ h=>?_;have f:NG {σ with behind:=false,gP:=t.a}:=h.lY rfl rfl;split
  .exact f
  .exact Hi _ t (λm t d=>Ot n false m t d) d _ f
 obtain⟨a,b,k,gL⟩:=t;cases k with
 |lost=>exact Kp.pure _
 |_=>exact e
end
def S0 (d f l a:Nat):Ab:={nodes:=[.el ⟨⟨#[]⟩,[],none,[]⟩],gz:=[],act:=[],head:=none,form:=none,mode:=0,kept:=0,waiting:=[],iR:=false,jN:=false,gP:=a,behind:=false,nD:=⟨#[]⟩,iZ:=false,fresh:=false,pQ:=d,qQ:=f,oZ:=l}
theorem XS {r : Nat} {d : Nat} {a b : Int} {e W : gv} (f:Kept [r] w e) (h:Rd e r R d (d+1)) (q:Kept [] e W) (g:W.heap[w.heap.size]?=some (gI #[gn 0,gn 0,gH kI] 167)) (k:r≠w.heap.size):
  Kept [r] w (((W.setCell ⟨w.heap.size,0,none⟩ (gn a)).setCell ⟨w.heap.size,1,none⟩ (gn b)).setCell ⟨w.heap.size,2,none⟩ (gH s))/\Rd (((W.setCell ⟨w.heap.size,0,none⟩ (gn a)).setCell ⟨w.heap.size,1,none⟩ (gn b)).setCell ⟨w.heap.size,2,none⟩ (gH s)) r R d (d+1)/\(((W.setCell ⟨w.heap.size,0,none⟩ (gn a)).setCell ⟨w.heap.size,1,none⟩ (gn b)).setCell ⟨w.heap.size,2,none⟩ (gH s)).heap[w.heap.size]?=some (gI #[gn a,gn b,gH s] 167):=by
 have j:Kept [w.heap.size] W (((W.setCell ⟨w.heap.size,0,none⟩ (gn a)).setCell ⟨w.heap.size,1,none⟩ (gn b)).setCell ⟨w.heap.size,2,none⟩ (gH s)):=(((Kept.refl [w.heap.size] W).setCell (.inl (by simp)) _).setCell (.inl (by simp)) _).setCell (.inl (by simp)) _;refine⟨?_,(h.kept q (by simp)).kept j (by grind),gg (gg (gg g 0 _) 1 _) 2 _⟩;exact((((f.trans (q.mono (by simp))).setCell (.inr (ig _)) _).setCell (.inr (ig _)) _).setCell (.inr (ig _)) _)
def Dl (r:Nat) (R:RC) (d ps g x:Nat) (f:Nat->Nat) (w:gv) (h:Rd w r R d ps) (J:LD w r R g x f) (B:d < R.cs.size) (hs:R.cs.size<=1024):
  Calls prog 139 #[gJ r] w λe w'=>e=iq (.agg #[gn (f d),gn (f (d+1)),gH (R.cs.extract d (d+1))])/\Kept [r] w w'/\Rd w' r R d (d+1):=by
 have b:=h.bg;have p:=h.ps;have Z:=h.free 3;have hr:=jk h;obtain⟨z,N⟩:∃z,z=Obj.cells #[gn 0,gn 0,gH kI] 167 (0,0):=⟨_,rfl⟩;obtain⟨k,j⟩:∃k,k=(w.setCell ⟨r,3,none⟩ (gn ((d+1:Nat)))).alloc z:=⟨_,rfl⟩;have H:Kept [r] w k:=by rw[j];exact((Kept.refl [r] w).setCell (.inl (by simp)) _).alloc _
 have I:Rd k r R d (d+1):=by rw[j];exact((Kept.refl [] _).alloc z).at (h.Mx (d+1)) (by simp)
 have O:k.heap[w.heap.size]?=some z:=by rw[j];have:=fY (w.setCell ⟨r,3,none⟩ (gn ((d+1:Nat)))) z;rwa [World.size_setCell]at this
 have C:=fU (λW (P:Kept [] k W)=>pS r R d (d+1) g x f W (I.kept P (by simp)) ((J.kept H).kept (P.mono (by simp))) (by omega) (by omega) hs);have HA:=fU J;have E:=fU H;have l:=fU I;have D:=fU O;have X:=fU N;have G:=fU (show(w.setCell ⟨r,3,none⟩ (gn ((d:Int)+1))).alloc (gI #[gn 0,gn 0,gH kI] 167)=k from by rw[j,N];congr 1);clear h J H I O j N;go_enter func139,ntmps139
 go_wp21
 rw[G.out];have F:=fU (show r≠w.heap.size by omega);clear b p Z hr;refine tC (by rfl) ?_;refine pN (λ(g:Unit) z=>⟨#[gJ r,undef,gJ w.heap.size,gJ r,gJ r,gJ r,jG r 2,gn d,gn ((d:Int)+1),gJ r,jG r 3,cd z 0 (gJ r),cd z 1 (.agg #[gn (f d),gn (f (d+1))]),cd z 2 (gJ r),cd z 3 (gJ r),cd z 4 (gJ r),cd z 5 (gH R.cs),cd z 6 (gJ r),cd z 7 (gJ r),cd z 8 (jG r 2),cd z 9 (gn d),cd z 10 (gJ r),cd z 11 (gJ r),cd z 12 (jG r 3),cd z 13 (gn ((d:Int)+1)),cd z 14 (gH (R.cs.extract d (d+1))),cd z 15 (.agg #[gn (f d),gn (f (d+1)),gH (R.cs.extract d (d+1))])],[]⟩) (λg z W=>if dn z 16=true then (Kept [r] w W/\Rd W r R d (d+1)/\W.heap[w.heap.size]?=some (gI #[gn (f d),gn (f (d+1)),gH (R.cs.extract d (d+1))] 167))else Kept [] k W) 17 [[],[0],[],[2],[3],[4],[],[6],[7],[8],[],[10],[11],[12],[5,9,13],[1,14],[0,1,2,3,4,5,6,7,8,9,10,11,12,13,14,15]] (()) rfl rfl ((Kept.refl [] k).drew) ?_ ?_
 .repeat' first|exact mV|refine mU ?_ ?_
  all_goals
   rintro g z W A u hn;simp[BV]at u;refine kP rfl ?_;intro K' o;simp only[ld,u];have B:dn z 16=false:=by simp[u,hn]
   have q:Kept [] k W:=by simpa [B]using A
   have c0:=(l.out.kept q (by simp)).text;have c2:=(l.out.kept q (by simp)).bg;have c3:=(l.out.kept q (by simp)).ps;have Q:=fU (C.out W q);have m:=q.at (D.out.trans (sK some X.out)) (by simp);have q0:W.cell? ⟨w.heap.size,0,none⟩=some (gn 0):=by rw[fW m];rfl
   have q1:W.cell? ⟨w.heap.size,1,none⟩=some (gn 0):=by rw[fW m];rfl
   have q2:W.cell? ⟨w.heap.size,2,none⟩=some (gH kI):=by rw[fW m];rfl
   have z0:=gE m 0;have z1:=gE m 1;have z2:=gE m 2;go_simp
   try (rw[gF (by omega),gF (by omega)];go_simp)
   first
   |refine o _ _ ⟨g,?_,by simpa [oE,B]using q⟩
   |refine Q.out.mono ?_;rintro e W2 ⟨rfl,K⟩;refine o _ _ ⟨g,?_,by simpa [oE,B]using q.trans K⟩
   |refine o _ _ ⟨g,?_,(gF rT).mpr (XS E.out l.out q m F.out)⟩
   simp[oB,vo,ld,u]
 .rintro g W A;simp only[vc];rw[gF xz]at A;have⟨h1,h2,h3⟩:=A;have T:=fU h1;have U:=fU h2;have V:=fU h3;clear h1 h2 h3;rename_i Y y;refine y _ _ ?_;clear y Y;go_wp2;refine qf (v:= .agg #[gn (f d),gn (f (d+1)),gH (R.cs.extract d (d+1))]) ?_ rfl ⟨rfl,T.out,U.out⟩;have u:=fW V.out;simp[results,results139,asAddr,Result.andThen,go_sem,u]
def V6 (r:Nat) (R:RC) (d ps:Nat) (w:gv) (h:Rd w r R d ps) (f:R.nD=⟨#[]⟩):
  Calls prog 70 #[gJ r] w λe w'=>e=iq (.bool false)/\Kept [] w w':=by
 have o:=h.nD;rw[f]at o;have g:=jk h;go_enter func70,ntmps70;go_wp2;go_ret;exact⟨rfl,Kept.refl _ _⟩
theorem Qx (c:jM) (o i:Nat) (d:List gO) (h:o+d.length<=c.size) (e:i < o\/o+d.length<=i):(jp c o d)[i]?=c[i]?:=by
 rw[<-U6,ky _ _ _ h,<-U6]
 grind
theorem Tg (c:jM) (o k:Nat) (d:List gO) (h:o+d.length<=c.size) (e:k < d.length):(jp c o d)[o+k]?=d[k]?:=by
 rw[<-U6,ky _ _ _ h]
 grind
def afM:Tryz.zeroCells157[188]?=some (jX):=by kernel_rfl
def afN:Tryz.zeroCells157[189]?=some (jX):=by kernel_rfl
def afO:Tryz.zeroCells157[190]?=some (.pointer none):=by kernel_rfl
def afP:Tryz.zeroCells157[191]?=some (.pointer none):=by kernel_rfl
def afQ:Tryz.zeroCells157[192]?=some (gn 0):=by kernel_rfl
def z193:Tryz.zeroCells157[193]?=some (gn 0):=by kernel_rfl
def z194:Tryz.zeroCells157[194]?=some (jX):=by kernel_rfl
def afR:Tryz.zeroCells157[195]?=some (.bool false):=by kernel_rfl
def z196:Tryz.zeroCells157[196]?=some (.bool false):=by kernel_rfl
def afS:Tryz.zeroCells157[197]?=some (gn 0):=by kernel_rfl
def z198:Tryz.zeroCells157[198]?=some (.bool false):=by kernel_rfl
def Uf (bs bm d r:Nat) (C:jM) (R:RC) (e ps:Nat) (f:gv):Env:={bm:=bm,bB:=d,bR:=r,C0:=C,R0:=wy R e ps,EM:=7,w0:=f,tv:=jX,ta:=[],bs:=bs}
def QH (R:RC) (d ps:Nat) (s:gy) (b:Bool) (f:s=R.nD) (e:b=R.Zl):((wy R d ps).setIfInBounds 7 (gH s)).setIfInBounds 8 (.bool b)=wy R d ps:=by
 subst f e;rfl
theorem XA {d f x : Nat} {e : zu} (h:(S0 d f a x).hU i=some e):e=⟨⟨#[]⟩,[],none,[]⟩:=by
 have:=Ab.jo h
 match i,this with
 |0,this=>
  have g:some (AQ.el ⟨⟨#[]⟩,[],none,[]⟩)=some (.el e):=this
  grind
 |i+1,this=>simp[S0]at this
def aez (d f a x:Nat):Wf (S0 d f a x) where
 gz:=λx g=>by cases g
 act:=λx g=>by cases g
 head:=rfl
 form:=rfl
 je:=λi e h=>by rw[XA h];rfl
 kids:=λi e h k j=>by rw[XA h]at j;cases j
 xf:=rfl
def adT (bs bm I p r:Nat) (d f a:Nat) (w W:gv) (R:RC) (x:ac5 bm I p d f a (.func (.func 36) #[gJ r] #[]) w W) (hR:Rd W r R 0 0) (ho:R.nD=⟨#[]⟩) (hp:R.Zl=false) (hd:d<=64) (hf:f<=32) (ha:a<=16) (q:bs<=w.heap.size) (G:bs<=r):
  ∃C J,J 0=p/\RF (Uf bs bm I r C R 0 0 W) J (S0 d f a 0) W:=by
 have⟨c6,cs,v1,v2,v3,hb,hc6,hru,K,N,O⟩:=x.ir;have E:=hru.1;have F:c6.size=199:=by rw[hc6];simp[BC,se]
 have D:4+cs.length<=c6.size:=by rw[E,F];decide
 have l:∀i,i < 4\/184<=i->(jp c6 4 cs)[i]?=c6[i]?:=λi m=>Qx c6 4 i cs D (by omega);have o:∀i,188<=i->(jp c6 4 cs)[i]?=Tryz.zeroCells157[i]?:=λi m=>by
  rw[l i (.inr (by omega)),hc6];simp only[zL];rw[gQ (by omega),gQ (by omega),gQ (by omega),xi _ _ _ _ _ _ _ (by omega) (by omega)]
 have a0:p < W.heap.size:=jk x.xf;refine⟨jp c6 4 cs,λi=>if i=0 then p else W.heap.size+i,rfl,⟨⟨_,λ_=> .slice none 0 0,λ_=> .slice none 0 0,jX,jX,jX⟩,rfl,?_⟩⟩;have low:∀i v,i < 4->c6[i]?=some v->(jp c6 4 cs)[i]?=some v:=λi v m h=>(l i (.inl m)).trans h;have T:c6[0]?=some (gn d):=by
  rw[hc6];simp[mH,zL,se]
 have U:c6[1]?=some (gn f):=by
  rw[hc6];simp[mH,zL,se]
 have V:c6[2]?=some (gn a):=by
  rw[hc6];simp[mH,zL,se]
 have X:c6[3]?=some (.func (.func 36) #[gJ r] #[]):=by
  rw[hc6];simp[mH,zL,se]
 have y:(jp c6 4 cs)[184]?=some v1:=by
  rw[l _ (.inr (by omega)),hc6];simp[mH,zL,se]
 have z:(jp c6 4 cs)[185]?=some v2:=by
  rw[l _ (.inr (by omega)),hc6];simp[mH,zL,se]
 have A:(jp c6 4 cs)[186]?=some v3:=by
  rw[l _ (.inr (by omega)),hc6];simp[mH,zL,se]
 have B:(jp c6 4 cs)[187]?=some (iC p):=by
  rw[l _ (.inr (by omega)),hc6];simp[mH,zL,se]
 exact
  {fr:=Fr.refl _
   env:={Gn:=⟨cs,λk hk=>Tg c6 4 k cs D (by omega),hru⟩,txt:=low 3 _ (by decide) X,spec:=⟨v1,y,K⟩,V5:=⟨v2,z,N⟩,VA:=⟨v3,A,O⟩,xf:=B}
   DU:=⟨low 0 _ (by decide) T,low 1 _ (by decide) U,low 2 _ (by decide) V,hd,hf,ha⟩
   sN:=λi Q m=>by
    match i,m with
    |0,m=>
     have e:Q= .el ⟨⟨#[]⟩,[],none,[]⟩:=by
      have:some (AQ.el ⟨⟨#[]⟩,[],none,[]⟩)=some Q:=m;exact(jL this).symm
     subst e;exact⟨⟨x.xf,oX _ _ _ _,iO _,⟨_,_,_,rfl⟩⟩,oX _ _ _ _,iO _⟩
    |i+1,m=>simp[S0]at m
   inj:=λi j h=>by
    have Y:(if i=0 then p else W.heap.size+i)=(if j=0 then p else W.heap.size+j):=h
    by_cases m:i=0<;>by_cases P:j=0<;>simp only[m,P,↓reduceIte]at Y|- <;>omega
   A8:=λi j g m P a2 u=>by simp[Value.ownBlock]at u
   Ga:=λi m he=>rfl
   uq:=λi j e g K N O h4 Z=>by simp[Value.ownBlock]at Z
   Eu:=λi m he=>rfl
   wf:=aez d f a 0
   ir:=⟨_,hb,{size:=by rw[ju];exact F,low:=λi m=>rfl,gz:=(o 188 (by omega)).trans afM,act:=(o 189 (by omega)).trans afN,head:=(o 190 (by omega)).trans afO,form:=(o 191 (by omega)).trans afP,mode:=(o 192 (by omega)).trans afQ,kept:=(o 193 (by omega)).trans z193,wait:=(o 194 (by omega)).trans z194,IL:=(o 195 (by omega)).trans afR,jN:=(o 196 (by omega)).trans z196,gP:=(o 197 (by omega)).trans afS,behind:=(o 198 (by omega)).trans z198}⟩
   o0:=oX _ _ _ _
   pX:=oX _ _ _ _
   Gd:=λg u=>by simp[Value.ownBlock]at u
   wV:=iO _
   Ey:=iO _
   oS:=oX _ _ _ _
   LB:=iO _
   rd:=by
    show W.heap[r]?=some (.cells (((wy R 0 0).setIfInBounds 7 (gH kI)).setIfInBounds 8 (.bool false)) _ _);rw[QH R 0 0 _ _ ho.symm hp.symm];exact hR
   QS:=by show 7+1 < 9;decide
   tok:=oX _ _ _ _
   Ly:=iO _
   bz:=jP q x.k.size
   bB:=jP q x.new
   bR:=G
   bN:=λi m=>by
    have a1:i < 1:=m;have:i=0:=by omega
    subst this;exact jP q x.afG
   De:=λh=>by simp[S0]at h
   ab:=λi g m u=>by simp[Value.ownBlock]at u
   tb:=λg u=>by
    have H:(jX).ownBlock=some g:=u;simp[Value.ownBlock]at H
   LA:=λv hv=>by cases hv}
def OK.move {E : Env} {f : Nat} (h:OK E f) (k:Fr E.bs E.w0 w) (p:vT E.bm w w') (o:∀(b:Nat) (j:Array MapEntry) (g:Nat),w.heap[b]?=some (Obj.map j g)->w'.heap[b]?=some (Obj.map j g)):OK {E with w0:=w'} f:=by
 have d:vT E.bm E.w0 w':=(k.n E.bm).trans p;have l:∀{R:Option (List (List gy×Ru))} {v:gO},rD E.bm E.bB f R v E.w0->rD E.bm E.bB f R v w':=by
  intro R v h;cases R with
  |none=>exact h
  |some R=>
   have⟨b,hb⟩:=h;have⟨j,g,hat⟩:=hb.at;have e1:=(k.calm (.inl hb.at)).trans hat;exact⟨b,hb.fr d ((o b j g e1).trans hat.symm)⟩
 have⟨cs,h1,h2,h3⟩:=h.Gn;have⟨v1,a1,b1⟩:=h.spec;have⟨v2,a2,b2⟩:=h.V5;have⟨v3,a3,b3⟩:=h.VA;exact⟨⟨cs,h1,h2,λm r q=>by
  have⟨v0,v1,v2,v3,v4,v5,v6,v7,v8,v9,e,hi⟩:=h3 m r q;exact⟨v0,v1,v2,v3,v4,v5,v6,v7,v8,v9,e,⟨hi.blank.fr d,hi.ke.fr d,hi.gR.fr d,hi.iM.fr d,hi.im.fr d,l hi.start,l hi.stop,hi.jV.fr d,hi.kx.fr d,hi.iE.fr d⟩⟩⟩,h.txt,⟨v1,a1,b1.fr d⟩,⟨v2,a2,b2.fr d⟩,⟨v3,a3,b3.fr d⟩,h.xf⟩
structure Lk (w:gv) (b:Nat) (look:gy->Option gy):Prop where
 lt:b < w.heap.size
 short:∀key t,look key=some t->t.size<=16
 run:∀(key:gy) (w':gv),w'.heap[b]?=w.heap[b]?->(Instr.lookup 127 (.map (some b)) (gH key) true).run prog w'= .ok (.tuple #[.agg #[gH ((look key).getD ⟨#[]⟩)],.bool (look key).isSome]) w'
def Lk.kept {look : gy->Option gy} (h:Lk w b look) (g:Kept S w w') (j:b∉S):Lk w' b look:=
 ⟨lV h.lt g.size,h.short,λd f e=>h.run d f (e.trans (g.block b h.lt j))⟩
open Go.ChangeMaps (setBlock)
def P5 (e:MapEntry):gO×gO:=(e.key,e.val)
def kv (p:gy×gy):gO×gO:=(gH p.1,.agg #[gH p.2])
structure Mp (w:gv) (b:Nat) (L:lh) (es:Array MapEntry) (clock:Nat):Prop where
 at_:w.heap[b]?=some (.map es clock)
 kvs:es.toList.map P5=L.map kv
 nod:(es.toList.map (·.born)).Nodup
 old:∀x∈es.toList,x.born < clock
def Mp.kept {d:Array MapEntry} (h:Mp w b L d clock) (f:Kept S w w') (e:b∉S):Mp w' b L d clock:=⟨f.at h.at_ e,h.kvs,h.nod,h.old⟩
def Nn (k:gy):∀(d:List MapEntry) (L:lh) (i:Nat),d.map P5=L.map kv->L.all (λp=>!(k==p.1))=true->Instr.findNow .string (gH k) d i=some none
 |[],_,_,_,_=>rfl
 |e::d,[],_,h,_=>by simp at h
 |e::d,p::L,i,h,hn=>by
  simp only[yC,RL]at h;simp only[List.all_cons,rS]at hn;have g:e.key=gH p.1:=sK Prod.fst h.1;have f:(k==p.1)=false:=by simpa using hn.1
  unfold Instr.findNow;simp only[g,Instr.sameNow,f];exact Nn k d L (i+1) h.2 hn.2
theorem Pu (k:gy):∀(d:List MapEntry) (L:lh) (i:Nat) (p:gy×gy),d.map P5=L.map kv->L.find? (λp=>k==p.1)=some p->∃j,Instr.findNow .string (gH k) d i=some (some (j,.agg #[gH p.2]))
 |[],[],_,_,_,h=>by simp at h
 |[],_::_,_,_,h,_=>by simp at h
 |e::d,[],_,_,h,_=>by simp at h
 |e::d,q::L,i,p,h,hp=>by
  simp only[yC,RL]at h;have f:e.key=gH q.1:=sK Prod.fst h.1;have g:e.val= .agg #[gH q.2]:=sK Prod.snd h.1;unfold Instr.findNow;cases hf:(k==q.1)
  .simp only[f,Instr.sameNow,hf];rw[List.find?_cons,hf]at hp;exact Pu k d L (i+1) p h.2 hp
  .simp only[f,Instr.sameNow,hf]
   simp_all
theorem BB {a : gv} (h:Kept S a w) (f:b∈S\/a.heap.size<=b) (o:Obj):Kept S a (setBlock w b o):=
 ⟨h.os,h.tape,h.output,by show a.heap.size<=(w.heap.setIfInBounds b o).size;rw[RM];exact h.size,λk d e=>by
  show(w.heap.setIfInBounds b o)[k]?=_;rw[Eo (by grind)];exact h.block k d e⟩
theorem Gp (h:b < w.heap.size) (o:Obj):(setBlock w b o).heap[b]?=some o:=by
 show(w.heap.setIfInBounds b o)[b]?=_
 grind
theorem rZ {g:Array MapEntry} (h:Mp w b L g clock) (k t:gy) (r:L.all (λp=>!(k==p.1))=true):
  ∃w' j d,(Instr.mapUpdate 127 (.map (some b)) (gH k) (.agg #[gH t])).run prog w= .ok () w'/\Mp w' b (L++[(k,t)]) j d/\Kept [b] w w'/\w'.heap.size=w.heap.size:=by
 have q:=jk h.at_;refine⟨setBlock w b (.map (g.push {key:=gH k,val:= .agg #[gH t],born:=clock}) (clock+1)),_,_,?_,⟨Gp q _,?_,?_,?_⟩,BB (Kept.refl _ _) (.inl (by simp)) _,?_⟩
 .have o:=Nn k g.toList L 0 h.kvs r;have l:(underlying 9).run prog w= .ok .string w:=pO underlying9 _;have m:(Instr.checkKey false 10000 9 (gH k)).run prog w= .ok () w:=by
   unfold Instr.checkKey;simp[l]
  simp[Instr.mapUpdate,pO underlying127,Kt h.at_,m,Instr.findKey,l,o,setObj,Sem.run,h.at_,setBlock,Result.andThen]
 .simp[h.kvs,P5,kv]
 .simp only[Array.toList_push,rA,yC,List.map_nil];rw[List.nodup_append];refine⟨h.nod,by simp,?_⟩;intro x f y v e;obtain⟨z,u,rfl⟩:=List.mem_map.1 f;have:=h.old z u
  grind
 .intro x f;simp only[Array.toList_push,List.mem_append,List.mem_singleton]at f;rcases f with f|rfl
  .have:=h.old x f;omega
  simp
 .show(w.heap.setIfInBounds b _).size=_;simp
def pK (L:lh) (k:gy):Option gy:=(L.find? (λp=>k==p.1)).map (·.2)
def OG (w:gv):(zeroValue 185).run prog w= .ok (.agg #[gH kI]) w:=by
 simp
theorem Mp.lk {d:Array MapEntry} (h:Mp w b L d clock) (u:L.all (λp=>decide (p.2.size<=16))=true):Lk w b (pK L) where
 lt:=jk h.at_
 short k t ht:=by
  unfold pK at ht;obtain⟨p,o,rfl⟩:=Option.map_eq_some_iff.1 ht
  grind
 run k w' e:=by
  have l:w'.heap[b]?=some (.map d clock):=e.trans h.at_;have q:(underlying 9).run prog w'= .ok .string w':=pO underlying9 _;have m:∀x,(Instr.checkKey x 10000 9 (gH k)).run prog w'= .ok () w':=λx=>by
   unfold Instr.checkKey;simp
  cases hf:L.find? (λp=>k==p.1)with
  |none=>
   have r:L.all (λp=>!(k==p.1))=true:=by
    rw[RP];intro p o;have:=List.find?_eq_none.1 hf p o
    simpa using this
   have f:=Nn k d.toList L 0 h.kvs r;have g:pK L k=none:=by unfold pK;rw[hf];rfl
   rw[g];simp[Instr.lookup,pO underlying127,Kt l,m,Instr.findKey,q,f,OG,Result.andThen]
  |some p=>
   have⟨j,f⟩:=Pu k d.toList L 0 p h.kvs hf;have g:pK L k=some p.2:=by unfold pK;rw[hf];rfl
   rw[g];simp[Instr.lookup,pO underlying127,Kt l,m,Instr.findKey,q,f,Result.andThen]
open Go.ChangeMaps (setBlock)
def kv0:lh:=[(⟨#[97,112,111,115,59]⟩,sL),(ng,⟨#[226,132,151]⟩),(nN,⟨#[226,136,137]⟩),(nO,⟨#[226,136,140]⟩),(mZ,pE),(⟨#[112,97,114,59]⟩,⟨#[226,136,165]⟩),(nf,⟨#[226,138,160]⟩),(⟨#[98,110,101,59]⟩,⟨#[61,226,131,165]⟩),(⟨#[84,97,98,59]⟩,⟨#[9]⟩),(lN,yD)]
def acO:lh:=[(⟨#[65,77,80]⟩,BQ),(⟨#[97,109,112]⟩,BQ),(⟨#[108,116]⟩,Ep),(⟨#[103,116]⟩,jI),(⟨#[113,117,111,116]⟩,tD),(⟨#[110,98,115,112]⟩,⟨#[194,160]⟩),(⟨#[99,111,112,121]⟩,⟨#[194,169]⟩),(⟨#[110,111,116]⟩,⟨#[194,172]⟩),(⟨#[112,97,114,97]⟩,⟨#[194,182]⟩),(pD,⟨#[195,151]⟩)]
def kvj (j:Nat):lh:=kv0++(acO.take j).flatMap λp=>[(p.1,p.2),(p.1++⟨#[59]⟩,p.2)]
def zQ (j:Nat):gy×gy:=acO.getD j (⟨#[]⟩,⟨#[]⟩)
def wC:jM:=#[gH ⟨#[65,77,80]⟩,gH BQ,gH ⟨#[97,109,112]⟩,gH BQ,gH ⟨#[108,116]⟩,gH Ep,gH ⟨#[103,116]⟩,gH jI,gH ⟨#[113,117,111,116]⟩,gH tD,gH ⟨#[110,98,115,112]⟩,gH ⟨#[194,160]⟩,gH ⟨#[99,111,112,121]⟩,gH ⟨#[194,169]⟩,gH ⟨#[110,111,116]⟩,gH ⟨#[194,172]⟩,gH ⟨#[112,97,114,97]⟩,gH ⟨#[194,182]⟩,gH pD,gH ⟨#[195,151]⟩]
def abO:Bool:=(List.range 10).all λj=>(kvj j).all (λp=>!((zQ j).1==p.1))&&(kvj j++[zQ j]).all (λp=>!(((zQ j).1++⟨#[59]⟩)==p.1))&&decide ((zQ j).1.size<=8)
def ZC:abO=true:=rfl
theorem abN {j : Nat} (h:j < 10):(kvj j).all (λp=>!((zQ j).1==p.1))=true/\(kvj j++[zQ j]).all (λp=>!(((zQ j).1++⟨#[59]⟩)==p.1))=true/\(zQ j).1.size<=8:=by
 have:=List.all_eq_true.1 ZC j (List.mem_range.2 h)
 grind
def WO {j : Nat} (h:j < 10):wC[j*2]?=some (gH (zQ j).1)/\wC[j*2+1]?=some (gH (zQ j).2):=by
 rcases(by omega:j=0\/j=1\/j=2\/j=3\/j=4\/j=5\/j=6\/j=7\/j=8\/j=9)with rfl|rfl|rfl|rfl|rfl|rfl|rfl|rfl|rfl|rfl<;>exact⟨rfl,rfl⟩
def YX {j : Nat} (h:j < 10):kvj (j+1)=kvj j++[zQ j]++[((zQ j).1++⟨#[59]⟩,(zQ j).2)]:=by
 rcases(by omega:j=0\/j=1\/j=2\/j=3\/j=4\/j=5\/j=6\/j=7\/j=8\/j=9)with rfl|rfl|rfl|rfl|rfl|rfl|rfl|rfl|rfl|rfl<;>rfl
def KV:lh:=kvj 10
def OM:KV.all (λp=>decide (p.2.size<=16))=true:=by rfl
def aai:KV.all (λp=>decide (p.1.size<=8))=true:=by rfl
def Xw:KV.any (λp=>decide (p.1.size=8))=true:=by rfl
def acd (e:gv) (b:Nat) (r:Mp e b [] #[] 0):∃f g h j k l m o p d:gv,(Instr.mapUpdate 127 (.map (some b)) (gH ⟨#[97,112,111,115,59]⟩) (.agg #[gH sL])).run prog e= .ok () f/\(Instr.mapUpdate 127 (.map (some b)) (gH ng) (.agg #[gH ⟨#[226,132,151]⟩])).run prog f= .ok () g/\(Instr.mapUpdate 127 (.map (some b)) (gH nN) (.agg #[gH ⟨#[226,136,137]⟩])).run prog g= .ok () h/\(Instr.mapUpdate 127 (.map (some b)) (gH nO) (.agg #[gH ⟨#[226,136,140]⟩])).run prog h= .ok () j/\(Instr.mapUpdate 127 (.map (some b)) (gH mZ) (.agg #[gH pE])).run prog j= .ok () k/\(Instr.mapUpdate 127 (.map (some b)) (gH ⟨#[112,97,114,59]⟩) (.agg #[gH ⟨#[226,136,165]⟩])).run prog k= .ok () l/\(Instr.mapUpdate 127 (.map (some b)) (gH nf) (.agg #[gH ⟨#[226,138,160]⟩])).run prog l= .ok () m/\(Instr.mapUpdate 127 (.map (some b)) (gH ⟨#[98,110,101,59]⟩) (.agg #[gH ⟨#[61,226,131,165]⟩])).run prog m= .ok () o/\(Instr.mapUpdate 127 (.map (some b)) (gH ⟨#[84,97,98,59]⟩) (.agg #[gH ⟨#[9]⟩])).run prog o= .ok () p/\(Instr.mapUpdate 127 (.map (some b)) (gH lN) (.agg #[gH yD])).run prog p= .ok () d/\(∃q clock,Mp d b kv0 q clock)/\Kept [b] e d/\d.heap.size=e.heap.size:=by
 have⟨f,es1,c1,r1,m1,k1,z1⟩:=rZ (w:=e) r ⟨#[97,112,111,115,59]⟩ sL (by rfl);have⟨g,es2,c2,r2,m2,k2,z2⟩:=rZ (w:=f) m1 ng ⟨#[226,132,151]⟩ (by rfl);have⟨h,es3,c3,r3,m3,k3,z3⟩:=rZ (w:=g) m2 nN ⟨#[226,136,137]⟩ (by rfl);have⟨j,es4,c4,r4,m4,k4,z4⟩:=rZ (w:=h) m3 nO ⟨#[226,136,140]⟩ (by rfl);have⟨k,es5,c5,r5,m5,k5,z5⟩:=rZ (w:=j) m4 mZ pE (by rfl);have⟨l,es6,c6,r6,m6,k6,z6⟩:=rZ (w:=k) m5 ⟨#[112,97,114,59]⟩ ⟨#[226,136,165]⟩ (by rfl);have⟨m,es7,c7,r7,m7,k7,z7⟩:=rZ (w:=l) m6 nf ⟨#[226,138,160]⟩ (by rfl);have⟨o,es8,c8,r8,m8,k8,z8⟩:=rZ (w:=m) m7 ⟨#[98,110,101,59]⟩ ⟨#[61,226,131,165]⟩ rfl;have⟨p,es9,c9,r9,m9,k9,z9⟩:=rZ (w:=o) m8 ⟨#[84,97,98,59]⟩ ⟨#[9]⟩ rfl;have⟨d,es10,c10,r10,m10,k10,z10⟩:=rZ (w:=p) m9 lN yD rfl;exact⟨f,g,h,j,k,l,m,o,p,d,r1,r2,r3,r4,r5,r6,r7,r8,r9,r10,⟨_,_,m10⟩,(((((((((k1).trans k2).trans k3).trans k4).trans k5).trans k6).trans k7).trans k8).trans k9).trans k10,by omega⟩
def ac3 (w:gv) (d bm j:Nat) (wr:gv):Prop:=
 (∃f e,Mp wr bm (kvj j) f e)/\wr.heap[d]?=some (gI #[.map (some bm),gn 0] 129)/\wr.heap[d+1]?=some (gI wC 186)/\wr.heap[w.heap.size]?=some (gI #[.map none,gn 0] 129)/\Kept [] w wr
def abb:gO->Nat
 | .string k=>k.size
 |_=>0
structure ac4 (w:gv) (nb bm it:Nat) (es:Array MapEntry) (ck:Nat) (wr:gv) (seen:Array Nat) (c0 M:Nat):Prop where
 iter:wr.heap[it]?=some (.mapIter (some bm) ck seen c0)
 late:ck<=c0
 mp:Mp wr bm KV es ck
 nam:wr.heap[nb]?=some (gI #[.map (some bm),gn M] 129)
 res:wr.heap[w.heap.size]?=some (gI #[.map none,gn 0] 129)
 le:M<=8
 TZ:∀e∈es.toList,seen.contains e.born=true->abb e.key<=M
 kept:Kept [] w wr
 size:it < wr.heap.size
def adL {d:Array MapEntry} (h:d.toList.map P5=L.map kv) {e:MapEntry} (f:e∈d.toList):∃p∈L,e.key=gH p.1:=by
 have:P5 e∈L.map kv:=by rw[<-h];exact List.mem_map.2 ⟨e,f,rfl⟩
 have⟨p,hp,e1⟩:=List.mem_map.1 this;exact⟨p,hp,(sK Prod.fst e1).symm⟩
def Yq {d:Array MapEntry} (h:d.toList.map P5=L.map kv) {p : gy×gy} (f:p∈L):∃e∈d.toList,e.key=gH p.1:=by
 have:kv p∈d.toList.map P5:=by rw[h];exact List.mem_map.2 ⟨p,f,rfl⟩
 have⟨e,he,e1⟩:=List.mem_map.1 this;exact⟨e,he,sK Prod.fst e1⟩
theorem QN (w:gv):
  Calls prog 46 #[] w λe w'=>∃b,e=iq (.agg #[.map (some b),gn 8])/\w.heap.size<=b/\Lk w' b (pK KV)/\Kept [] w w':=by
 obtain⟨d,u⟩:∃d,d=w.alloc (.cells #[.map none,gn 0] 129):=⟨_,rfl⟩;have za:d.heap.size=w.heap.size+1:=by rw[u];simp
 obtain⟨O,o⟩:∃O,O=d.alloc (.map #[] 0):=⟨_,rfl⟩;have ka:Kept [] w d:=by rw[u];exact(Kept.refl _ _).alloc _
 have kb:Kept [] d O:=by rw[o];exact(Kept.refl _ _).alloc _
 have hA:d.heap[w.heap.size]?=some (gI #[.map none,gn 0] 129):=by rw[u];exact fY w _
 have a4:Mp O d.heap.size [] #[] 0:=⟨by rw[o];exact fY d _,rfl,by simp,by simp⟩;have zb:O.heap.size=d.heap.size+1:=by rw[o];simp
 have⟨w1,w2,w3,w4,w5,w6,w7,w8,w9,w10,r1,r2,r3,r4,r5,r6,r7,r8,r9,r10,⟨es,ck,HM⟩,k10,z10⟩:=acd O d.heap.size a4;have a7:(Instr.makeMap 127 none).run prog d= .ok (.map (some d.heap.size)) O:=by rw[o];rfl
 have a3:=fU u.symm;have ac:=o.symm;have HK:=(show Kept [] w w10 from((ka.trans kb).next k10 (by grind)));have HA:=(show w10.heap[w.heap.size]?=_ from k10.at (kb.at hA (by simp)) (by grind));have Hz:=fU (show w10.heap.size=w.heap.size+2 by omega);have y:=fU za;clear u o ka kb hA a4 zb k10 za z10;go_enter func46,ntmps46
 go_wp21
 rw[a3.out,a7];clear a7 a3 ac;go_wp2_with fail;obtain⟨W,T⟩:∃W,W=(w10.alloc (.cells #[.map (some d.heap.size),gn 0] 129)).alloc (.cells wC 186):=⟨_,rfl⟩;have kW:Kept [] w10 W:=by rw[T];exact((Kept.refl _ _).alloc _).alloc _
 have k:W.heap[w10.heap.size]?=some (gI #[.map (some d.heap.size),gn 0] 129):=by
  rw[T,Below.heap_alloc _ _ _ (by simp)];exact fY w10 _
 have r:W.heap[w10.heap.size+1]?=some (gI wC 186):=by
  have:=fY (w10.alloc (.cells #[.map (some d.heap.size),gn 0] 129)) (.cells wC 186);rw[T];simpa using this
 have HS:Hid (ac3 w w10.heap.size d.heap.size 0 W):=⟨⟨es,ck,HM.kept kW (by simp)⟩,k,r,kW.at HA (by simp),HK.trans kW⟩;have aa:wC=#[gH ⟨#[65,77,80]⟩,gH BQ,gH ⟨#[97,109,112]⟩,gH BQ,gH ⟨#[108,116]⟩,gH Ep,gH ⟨#[103,116]⟩,gH jI,gH ⟨#[113,117,111,116]⟩,gH tD,gH ⟨#[110,98,115,112]⟩,gH ⟨#[194,160]⟩,gH ⟨#[99,111,112,121]⟩,gH ⟨#[194,169]⟩,gH ⟨#[110,111,116]⟩,gH ⟨#[194,172]⟩,gH ⟨#[112,97,114,97]⟩,gH ⟨#[194,182]⟩,gH pD,gH ⟨#[195,151]⟩]:=rfl;rw[aa]at T;rw[<-T];clear T kW k r aa HM HK HA r1 r2 r3 r4 r5 r6 r7 r8 r9 r10
 go_loopw [30] (λv wr=>∃j:Nat,v=gn j/\j<=10/\ac3 w w10.heap.size d.heap.size j wr) (λv _=>10 - (intOf v).toNat)
 case atStart=>exact⟨0,rfl,by omega,HS.out⟩
 case round=>
  obtain⟨j,rfl,hj,h1⟩:=hrel
  by_cases K:j < 10
  .have⟨⟨es1,ck1,mp1⟩,k,r,hR,hk⟩:=h1;have rc:=WO K;have x0:wr.cell? ⟨w10.heap.size+1,j*2,none⟩=some (gH (zQ j).1):=by rw[fW r];exact rc.1
   have x1:wr.cell? ⟨w10.heap.size+1,j*2+1,none⟩=some (gH (zQ j).2):=by rw[fW r];exact rc.2
   have⟨X,n2,n3⟩:=abN K;have x:=YX K;generalize hn:(zQ j).1=nm at *;generalize ht:(zQ j).2=tx at *;have a8:zQ j=(nm,tx):=by rw[<-hn,<-ht]
   rw[a8]at n2 x;clear hn ht a8;obtain⟨W1,A⟩:∃W1,W1=wr.alloc (.cells #[gH nm,gH tx] 186):=⟨_,rfl⟩;have U:Kept [] wr W1:=by rw[A];exact(Kept.refl _ _).alloc _
   have hX:W1.heap[wr.heap.size]?=some (gI #[gH nm,gH tx] 186):=by rw[A];exact fY wr _
   have⟨W2,es2,ck2,ru2,mp2,k2,s2⟩:=rZ (mp1.kept U (by simp)) nm tx X;have⟨W3,es3,ck3,ru3,mp3,k3,s3⟩:=rZ mp2 (nm++⟨#[59]⟩) tx n2;have ae:=jk mp1.at_;have al:=jk k;have bN:d.heap.size≠w10.heap.size:=λe=>by rw[<-e,mp1.at_]at k;simp at k
   have bG:d.heap.size≠w10.heap.size+1:=λe=>by rw[<-e,mp1.at_]at r;simp at r
   have D:d.heap.size≠w.heap.size:=λe=>by rw[<-e,mp1.at_]at hR;simp at hR
   have G:=U.at k (by simp);have H:=k2.at G (by grind);have I:=k2.at hX (by simp;omega);have a0:=fW k 0;have a1:=fW G 0;have a2:=fW H 0;have y0:=fW hX 0;have y1:=fW hX 1;have z0:=fW I 0;have z1:=fW I 1;dsimp at a0 a1 a2 y0 y1 z0 z1;have HE:Hid (ac3 w w10.heap.size d.heap.size (j+1) W3):=by
    refine⟨⟨es3,ck3,by rw[x];exact mp3⟩,k3.at H (by grind),k3.at (k2.at (U.at r (by simp)) (by grind)) (by grind),k3.at (k2.at (U.at hR (by simp)) (by grind)) (by grind),?_⟩;have ao:=y.out;exact((hk.trans U).next k2 (by simp;omega)).next k3 (by simp;omega)
   rw[A]at ru2;clear a1 y0 y1 mp1 k r hR hk rc X n2 x U hX mp2 k2 s2 mp3 k3 s3 G H I bN bG D ae;clear A;go_wp2;go_roundw
   case rel=>exact⟨j+1,by go_num,by omega,HE.out⟩
   case measure=>simp[intOf];omega
  .have ad:j=10:=by omega
   subst ad;have⟨⟨es1,ck1,mp1⟩,k,r,hR,hk⟩:=h1;have a0:=fW k 0;dsimp at a0;have ag:=run_range_map (P:=prog) wr 127 9 185 d.heap.size es1 ck1 underlying127 mp1.at_;have ki:Kept [] wr (wr.alloc (.mapIter (some d.heap.size) ck1 #[] ck1)):=(Kept.refl _ _).alloc _;have Z:Hid (ac4 w w10.heap.size d.heap.size wr.heap.size es1 ck1 (wr.alloc (.mapIter (some d.heap.size) ck1 #[] ck1)) #[] ck1 0):=
    ⟨fY wr _,ig _,mp1.kept ki (by simp),ki.at k (by simp),ki.at hR (by simp),by omega,by simp,hk.trans ki,by simp⟩
   have F:w10.heap.size≠wr.heap.size:=by have:=jk k;omega
   have D:w.heap.size≠wr.heap.size:=by have:=jk hR;omega
   have Q:d.heap.size≠wr.heap.size:=by have:=jk mp1.at_;omega
   have m:w.heap.size≠w10.heap.size:=by have:=Hz.out;omega
   have l:w10.heap.size≠d.heap.size:=by have:=Hz.out;have:=y.out;omega
   have Y:=(show w.heap.size<=wr.heap.size from hk.size);have Hb:=And.intro F (And.intro D (And.intro Q (And.intro m l)));clear mp1 k r hR hk ki F D Q m l
   go_wp21
   clear ag a0;obtain⟨q,a6⟩:∃q,q=wr.heap.size:=⟨_,rfl⟩;rw[<-a6]at Z Hb Y|-;clear a6
   go_loopw [] (λwq=>∃f c0 M,ac4 w w10.heap.size d.heap.size q es1 ck1 wq f c0 M) (λwq=>(leftOf es1 (wq.iterSeen q)).size)
   case atStart=>exact⟨_,_,_,Z.out⟩
   case round=>
    have⟨f,c0,M,h2⟩:=hrel;have⟨F,D,Q,m,l⟩:=Hb;have N:wr.iterSeen q=f:=by unfold World.iterSeen;rw[h2.iter]
    rcases run_next_at (P:=prog) wr 0 q d.heap.size ck1 c0 f es1 ck1 h2.iter h2.mp.at_ h2.mp.old h2.late with⟨h0,E⟩|⟨z,J,wv,ah,E⟩
    .have hM:M=8:=by
      have h8:=Xw;rw[List.any_eq_true]at h8;have⟨p,hp,a9⟩:=h8;have⟨e,he,hk⟩:=Yq h2.mp.kvs hp;have h9:=h2.TZ e he (all_seen es1 f h0 e he);rw[hk]at h9;have aj:p.1.size=8:=by simpa using a9
      have ak:p.1.size<=M:=h9;have:=h2.le;omega
     subst hM;have n0:=fW h2.nam 0;have X:=fW h2.nam 1;have d0:=fW h2.res 0;have d1:=fW h2.res 1;have f0:=gE h2.res 0;have f1:=gE h2.res 1;dsimp at n0 X d0 d1;have HK:Kept [] w ((wr.setCell ⟨w.heap.size,0,none⟩ (.map (some d.heap.size))).setCell ⟨w.heap.size,1,none⟩ (gn 8)):=(h2.kept.setCell (.inr (ig _)) _).setCell (.inr (ig _)) _;have kr:Kept [w.heap.size] wr ((wr.setCell ⟨w.heap.size,0,none⟩ (.map (some d.heap.size))).setCell ⟨w.heap.size,1,none⟩ (gn 8)):=((Kept.refl _ _).setCell (.inl (by simp)) _).setCell (.inl (by simp)) _;have HL:=((h2.mp.kept kr (by simp;have:=y.out;omega)).lk OM);have af:w.heap.size<=d.heap.size:=by have:=y.out;omega
     clear h2 N h0 kr F D Q m l;go_wp2;refine qf (v:= .agg #[.map (some d.heap.size),gn 8]) ?_ rfl ⟨_,rfl,af,HL,HK⟩;simp[results,results46,asAddr,Result.andThen,go_sem,d0,d1]
    .have⟨he1,he2⟩:=mem_left J;have⟨p,hp,hkey⟩:=adL h2.mp.kvs he1;have a9:p.1.size<=8:=by
      have:=List.all_eq_true.1 aai p hp
      simpa using this
     have ai:=left_shrinks es1 f z J;obtain⟨C,B⟩:∃C,C=setBlock wv q (.mapIter (some d.heap.size) ck1 (f.push z.born) ck1):=⟨_,rfl⟩;rw[<-B,hkey]at E;have g:Kept [] wr wv:=by rcases ah with rfl|rfl;exact Kept.refl _ _;exact(Kept.refl _ _).drew
     have V:Kept [q] wv C:=by rw[B];exact BB (Kept.refl _ _) (.inl (by simp)) _
     have iz:C.heap[q]?=some (.mapIter (some d.heap.size) ck1 (f.push z.born) ck1):=by rw[B];exact Gp (lV h2.size g.size) _
     have mz:=(h2.mp.kept g (by simp)).kept V (by simpa using Q);have nz:=V.at (g.at h2.nam (by simp)) (by simpa using F);have rz:=V.at (g.at h2.res (by simp)) (by simpa using D);have a5:=run_entry_at (P:=prog) C q d.heap.size ck1 f es1 ck1 z iz mz.at_ he1 mz.nod;rw[hkey]at a5;have X:=fW nz 1;have f1:=gE nz 1;dsimp at X;have am:max (M:Int) (p.1.size:Int)=((max M p.1.size:Nat):Int):=by omega
     have x:Kept [w10.heap.size] C (C.setCell ⟨w10.heap.size,1,none⟩ (gn ((max M p.1.size:Nat)))):=(Kept.refl _ _).setCell (.inl (by simp)) _;have ab:=gg nz 1 (gn ((max M p.1.size:Nat)));have HE:Hid (ac4 w w10.heap.size d.heap.size q es1 ck1 (C.setCell ⟨w10.heap.size,1,none⟩ (gn ((max M p.1.size:Nat)))) (f.push z.born) ck1 (max M p.1.size)):=by
      refine⟨x.at iz (by simpa using λe=>F e.symm),ig _,mz.kept x (by simpa using λe=>l e.symm),ab,x.at rz (by simpa using m),by have:=h2.le;omega,?_,?_,?_⟩
      .intro e he hc;rw[contains_push]at hc;rcases Bool.or_eq_true_iff.1 hc with h|h
       .have:=h2.TZ e he h;omega
       .have e1:e.born=z.born:=by simpa using h
        have e2:e=z:=by
         have q1:=find_born e es1.toList h2.mp.nod he;have q2:=find_born z es1.toList h2.mp.nod he1;rw[e1,q2]at q1;exact(jL q1).symm
        rw[e2,hkey];show p.1.size<=_;omega
      .have ap:=Hz.out;have aq:=jk h2.res;exact((h2.kept.trans g).next V (by simp;exact Y)).next x (by simp;omega)
      .exact lV h2.size (jP g.size (jP V.size x.size))
     have an:(C.setCell ⟨w10.heap.size,1,none⟩ (gn ((max M p.1.size:Nat)))).iterSeen q=f.push z.born:=by unfold World.iterSeen;rw[HE.out.iter]
     clear h2 mz nz rz iz g V x ab B he1 he2 J hp hkey F D Q m l;generalize p.1=ar at *;go_wp2;go_roundw
     case rel=>exact⟨_,_,_,HE.out⟩
     simp_all
def yi (s:gy) (i:Nat):Bool:=!(decide (bt s i=10)&&decide (0 < i)&&decide (bt s (i - 1)=13))
def gL (s:gy) (n:Nat):List Nat:=(List.range n).filter (yi s)
def T9 (s:gy) (k:Nat):Int:=if bt s k=13 then 10 else bt s k
def chB (s:gy) (k:Nat):UInt8:=(T9 s k).toNat.toUInt8
def zN (s:gy):gy:=⟨((gL s s.size).map (chB s)).toArray⟩
def GS (h:yi s n=true):gL s (n+1)=gL s n++[n]:=by unfold gL;rw[List.range_succ,List.filter_append];simp[h]
def XR (h:yi s n=false):gL s (n+1)=gL s n:=by unfold gL;rw[List.range_succ,List.filter_append];simp[h]
theorem GR (s:gy) (n:Nat):(gL s n).length<=n:=by
 grind[gL]
def AW (s:gy):(zN s).size=(gL s s.size).length:=by show(((gL s s.size).map (chB s)).toArray).size=_;simp
theorem VF (s:gy) (k:Nat):0<=T9 s k/\T9 s k<=255:=by
 have d:=bt_nonneg s k;have e:=bt_le s k
 grind[T9]
def VE (s:gy) (k:Nat):((chB s k).toNat:Int)=T9 s k:=by
 have:=VF s k;unfold chB;simp;omega
def uY (s:gy) (n:Nat):List gO:=(gL s n).map λk=> .int .u8 (T9 s k)
def qi (s:gy) (n:Nat):List gO:=(gL s n).map λk:Nat=> gn k
theorem nr {g j : Nat} {e1 e2 : TypeId} {v x : Nat} {v1 v2 : gO} {r u : Nat} {y z : List gO} (l:w.ownsRow g e1 v v1 r y) (m:w.ownsRow j e2 x v2 u z) (q:e1≠e2) (k:Nat) (e:v1.ownBlock=some k):v2.ownBlock≠some k:=by
 intro d;rcases l.2 with⟨h,_⟩|⟨C,A,E,h,_,o,_⟩
 .rw[h]at e;cases e
 rcases m.2 with⟨f,_⟩|⟨D,B,F,f,_,p,_⟩
 .rw[f]at d;cases d
 rw[h]at e;rw[f]at d;obtain rfl:=jL e;obtain rfl:=jL d
 grind
def YN:(prog.info? 3).map (λi=>(i.zero,i.size,i.bytes))=some (some (gn 0),1,8):=by kernel_rfl
theorem JN {base : Nat} {v : gO} {l:List UInt8} (e:w.ownsRow base 5 1 v n (l.map λb=> .int .u8 (b.toNat:Int))) (u:l.length=n) (m:∀k,v.ownBlock=some k->w'.heap[k]?=w.heap[k]?):
  (convert 50 9 v).run prog w'= .ok (gH ⟨l.toArray⟩) w':=by
 rcases e.2 with⟨rfl,o⟩|⟨g,d,f,rfl,p,q,x⟩
 .have:l=[]:=Xn (by omega);subst this;have:=run_convert_bytes_nil (P:=prog) (w:=w') 50 5 underlying50 underlying5 0 0;exact this 9 underlying9
 .have h:=OE (P:=prog) w' 50 9 5 ⟨g,0,none⟩ d l underlying50 underlying5 underlying9 (λj r=>by
   rw[Z1 (w:=w) (a:=(⟨g,0,none⟩:Addr).add j) (by rw[iY];exact m g rfl)];exact e.cells (g:=g) rfl j _ (by grind))
  grind
structure RV (s:gy) (w:gv) (k:Nat) (vb va:gO) (wr:gv):Prop where
 b:wr.ownsRow w.heap.size 5 1 vb (gL s k).length (uY s k)
 a:wr.ownsRow w.heap.size 3 1 va (gL s k).length (qi s k)
 kept:Kept [] w wr
theorem Yy (s:gy) (tv:gO) (base:Nat) (w:gv) (ho:w.ownsRow base 5 1 tv s.size (jY s)) (hs:s.size<=1024):
  Calls prog 47 #[tv] w λe w'=>∃av,e=iq (.tuple #[gH (zN s),av])/\w'.ownsRow w.heap.size 3 1 av ((gL s s.size).length+1) (qi s s.size++[gn s.size])/\Kept [] w w':=by
 have⟨iu,hiu,hu0,hu1,hu2⟩:=tz NA;obtain⟨ii,Y,V,W,X⟩:=tz YN;have⟨ao,cp,htv⟩:=gG ho;subst htv;have HC:∀(wr:gv),Kept [] w wr->∀j,j < s.size->∃g,ao=some ⟨g,0,none⟩/\wr.cell? ⟨g,j,none⟩=some (.int .u8 (bt s j)):=by
  intro wr hk j f;rcases ho.2 with⟨h,h0⟩|⟨g,ai,ay,h,_,hc,_⟩
  .omega
  .have a2:ao=some ⟨g,0,none⟩:=by simpa using sK (λv=>match v with| .slice a _ _=>a|_=>none) h
   refine⟨g,a2,?_⟩;rw[hk.cell (p:=⟨g,j,none⟩) (jk hc) (by simp)];have h1:=ho.cells (g:=g) (by rw[h];rfl) j (.int .u8 (bt s j)) (by
    unfold jY;rw[U5,ry (by simp_all)];simp only[Option.map_some];rw[show((s.data.toList[j]'(by simp_all)).toNat:Int)=bt s j from by unfold bt;rw[xM f];rfl])
   rwa [iY]at h1
 have H0:Hid (RV s w 0 (jX) (jX) w):=⟨oX _ _ _ _,oX _ _ _ _,Kept.refl _ _⟩;clear ho;go_enter func47,ntmps47
 go_wp21
 go_loopw [4,5,10] (λvb va v wr=>∃k:Nat,v=gn k/\k<=s.size/\RV s w k vb va wr) (λ_ _ v _=>s.size - (intOf v).toNat)
 case atStart=>exact⟨0,rfl,iO _,H0⟩
 case round=>
  obtain⟨k,rfl,hk,Q⟩:=hrel
  by_cases ar:k < s.size
  .have⟨g,a2,c1⟩:=HC wr Q.kept k ar;subst a2;have o:=Q;have⟨bo,bc,hvb⟩:=gG Q.b;have⟨ax,ac,hva⟩:=gG Q.a;subst hvb hva;have h0:=bt_nonneg s k;have h1:=bt_le s k;have ak:=GR s k
   by_cases I:bt s k=10
   .by_cases ap:k=0
    .subst ap;have F:yi s 0=true:=by unfold yi;simp
     have A:T9 s 0=10:=by unfold T9;rw[I];rfl
     rw[I]at c1;have Z:=GS F;have U:=fU Z;have K:=fU A;clear Z A;go_wp2_with (at_builtin;refine iw _ rfl _ _ 50 rfl w.heap.size 5 iu (.int .u8 0) 1 1 underlying50 hiu hu0 hu1 hu2 rfl (by decide) _ _ _ rfl (o.b.alloc _) ⟨wr.heap.size,0,none⟩ 1 1 [.int .u8 10] rfl ?c1 ?G ?c3 ?c4 ?c5 ?c6 ?_)
     case c1=>rfl
     case G=>
      intro j u f
      match j,f with
      |0,f=>simp at f;subst f;simp[Addr.add]
     case c3=>intro u r;simp at r;subst r;rfl
     case c4=>unfold maxLen;omega
     case c5=>omega
     case c6=>have:=o.kept.size;simp;omega
     intro a6 E q B a3;have⟨bo',bc',hvb⟩:=gG q;subst hvb;have y:Kept [] w E:=(o.kept.alloc _).grown B (λx d=> .inr (o.b.lt x d).1);have l:E.ownsRow w.heap.size 3 1 (.slice ax (gL s 0).length ac) (gL s 0).length (qi s 0):=by
      have N:Kept (Value.slice bo (gL s 0).length bc).ownBlock.toList (wr.alloc (.cells #[.int .u8 10] 5)) E:=(Kept.refl _ _).grown B (λx d=> .inl (by simp[d]));exact N.ownsRow (o.a.alloc _) (λx d=>by simp;exact λO=>nr o.b o.a (by decide) x O d)
     have z:=fU q;clear q;go_wp2_with (at_builtin;refine iw _ rfl _ _ 29 rfl w.heap.size 3 ii (gn 0) 1 8 underlying29 Y V W X rfl (by decide) _ _ _ rfl (l.alloc _) ⟨E.heap.size,0,none⟩ 1 1 [gn ((0:Nat))] rfl ?c1 ?G ?c3 ?c4 ?c5 ?c6 ?_)
     case c1=>rfl
     case G=>
      intro j u f
      match j,f with
      |0,f=>simp at f;subst f;simp[Addr.add]
     case c3=>intro u r;simp at r;subst r;rfl
     case c4=>unfold maxLen;omega
     case c5=>omega
     case c6=>have:=y.size;simp;omega
     intro a5 w3 D C a4;have⟨ao',ac',hva⟩:=gG D;subst hva;have HE:Hid (RV s w (0+1) (.slice bo' ((gL s 0).length+1) bc') (.slice ao' ((gL s 0).length+1) ac') w3):=by
      have N:Kept (Value.slice ax (gL s 0).length ac).ownBlock.toList (E.alloc (.cells #[gn ((0:Nat))] 3)) w3:=(Kept.refl _ _).grown C (λx d=> .inl (by simp[d]));refine⟨?_,?_,(y.alloc _).grown C (λx d=> .inr (l.lt x d).1)⟩
      .unfold uY;rw[U.out,rA,p6];have:=N.ownsRow (z.alloc _) (λx d=>by simp;exact λO=>nr l z (by decide) x O d)
       simpa [uY,K.out]using this
      .unfold qi;rw[U.out,rA,p6]
       simpa [qi]using D
     generalize (gL s 0).length=a1 at *;go_wp2;go_roundw
     case rel=>exact⟨0+1,by go_num,by omega,HE⟩
     case measure=>simp[intOf];omega
    .have G:wr.cell? ⟨g,k - 1,none⟩=some (.int .u8 (bt s (k - 1))):=by
      have⟨g',H,G⟩:=HC wr o.kept (k - 1) (by omega);obtain rfl:g=g':=by simpa using H
      exact G
     obtain⟨m,rfl⟩:∃m,k=m+1:=⟨k - 1,by omega⟩;simp only[Kl]at G
     by_cases J:bt s m=13
     .have F:yi s (m+1)=false:=by unfold yi;simp[I,J]
      have HE:Hid (RV s w (m+1+1) (.slice bo (gL s (m+1)).length bc) (.slice ax (gL s (m+1)).length ac) wr):=by
       have:=o;refine⟨?_,?_,this.kept⟩
       .have h:=this.b;unfold uY at h|-;rw[XR F];exact h
       .have h:=this.a;unfold qi at h|-;rw[XR F];exact h
      rw[I]at c1;rw[J]at G;generalize (gL s (m+1)).length=a1 at *;go_wp2;go_roundw
      case rel=>exact⟨m+1+1,by go_num,by omega,HE⟩
      case measure=>simp[intOf];omega
     .have F:yi s (m+1)=true:=by unfold yi;simp[J]
      have A:T9 s (m+1)=10:=by unfold T9;rw[I];rfl
      have aw:¬bt s m=13:=J;rw[I]at c1;have m0:=bt_nonneg s m;have m1:=bt_le s m;have Z:=GS F;have U:=fU Z;have K:=fU A;clear Z A;go_wp2_with (at_builtin;refine iw _ rfl _ _ 50 rfl w.heap.size 5 iu (.int .u8 0) 1 1 underlying50 hiu hu0 hu1 hu2 rfl (by decide) _ _ _ rfl (o.b.alloc _) ⟨wr.heap.size,0,none⟩ 1 1 [.int .u8 10] rfl ?c1 ?G ?c3 ?c4 ?c5 ?c6 ?_)
      case c1=>rfl
      case G=>
       intro j u f
       match j,f with
       |0,f=>simp at f;subst f;simp[Addr.add]
      case c3=>intro u r;simp at r;subst r;rfl
      case c4=>unfold maxLen;omega
      case c5=>omega
      case c6=>have:=o.kept.size;simp;omega
      intro a6 E q B a3;have⟨bo',bc',hvb⟩:=gG q;subst hvb;have y:Kept [] w E:=(o.kept.alloc _).grown B (λx d=> .inr (o.b.lt x d).1);have l:E.ownsRow w.heap.size 3 1 (.slice ax (gL s (m+1)).length ac) (gL s (m+1)).length (qi s (m+1)):=by
       have N:Kept (Value.slice bo (gL s (m+1)).length bc).ownBlock.toList (wr.alloc (.cells #[.int .u8 10] 5)) E:=(Kept.refl _ _).grown B (λx d=> .inl (by simp[d]));exact N.ownsRow (o.a.alloc _) (λx d=>by simp;exact λO=>nr o.b o.a (by decide) x O d)
      have z:=fU q;clear q;go_wp2_with (at_builtin;refine iw _ rfl _ _ 29 rfl w.heap.size 3 ii (gn 0) 1 8 underlying29 Y V W X rfl (by decide) _ _ _ rfl (l.alloc _) ⟨E.heap.size,0,none⟩ 1 1 [gn (((m+1):Nat):Int)] rfl ?c1 ?G ?c3 ?c4 ?c5 ?c6 ?_)
      case c1=>rfl
      case G=>
       intro j u f
       match j,f with
       |0,f=>simp at f;subst f;simp[Addr.add]
      case c3=>intro u r;simp at r;subst r;rfl
      case c4=>unfold maxLen;omega
      case c5=>omega
      case c6=>have:=y.size;simp;omega
      intro a5 w3 D C a4;have⟨ao',ac',hva⟩:=gG D;subst hva;have HE:Hid (RV s w ((m+1)+1) (.slice bo' ((gL s (m+1)).length+1) bc') (.slice ao' ((gL s (m+1)).length+1) ac') w3):=by
       have N:Kept (Value.slice ax (gL s (m+1)).length ac).ownBlock.toList (E.alloc (.cells #[gn (((m+1):Nat):Int)] 3)) w3:=(Kept.refl _ _).grown C (λx d=> .inl (by simp[d]));refine⟨?_,?_,(y.alloc _).grown C (λx d=> .inr (l.lt x d).1)⟩
       .unfold uY;rw[U.out,rA,p6];have:=N.ownsRow (z.alloc _) (λx d=>by simp;exact λO=>nr l z (by decide) x O d)
        simpa [uY,K.out]using this
       .unfold qi;rw[U.out,rA,p6]
        simpa [qi]using D
      generalize (gL s (m+1)).length=a1 at *;go_wp2;go_roundw
      case rel=>exact⟨(m+1)+1,by go_num,by omega,HE⟩
      case measure=>simp[intOf];omega
   .by_cases J:bt s k=13
    .have F:yi s k=true:=by unfold yi;simp[I]
     have A:T9 s k=10:=by unfold T9;rw[J];rfl
     rw[J]at c1;have Z:=GS F;have U:=fU Z;have K:=fU A;clear Z A;go_wp2_with (at_builtin;refine iw _ rfl _ _ 50 rfl w.heap.size 5 iu (.int .u8 0) 1 1 underlying50 hiu hu0 hu1 hu2 rfl (by decide) _ _ _ rfl (o.b.alloc _) ⟨wr.heap.size,0,none⟩ 1 1 [.int .u8 10] rfl ?c1 ?G ?c3 ?c4 ?c5 ?c6 ?_)
     case c1=>rfl
     case G=>
      intro j u f
      match j,f with
      |0,f=>simp at f;subst f;simp[Addr.add]
     case c3=>intro u r;simp at r;subst r;rfl
     case c4=>unfold maxLen;omega
     case c5=>omega
     case c6=>have:=o.kept.size;simp;omega
     intro a6 E q B a3;have⟨bo',bc',hvb⟩:=gG q;subst hvb;have y:Kept [] w E:=(o.kept.alloc _).grown B (λx d=> .inr (o.b.lt x d).1);have l:E.ownsRow w.heap.size 3 1 (.slice ax (gL s k).length ac) (gL s k).length (qi s k):=by
      have N:Kept (Value.slice bo (gL s k).length bc).ownBlock.toList (wr.alloc (.cells #[.int .u8 10] 5)) E:=(Kept.refl _ _).grown B (λx d=> .inl (by simp[d]));exact N.ownsRow (o.a.alloc _) (λx d=>by simp;exact λO=>nr o.b o.a (by decide) x O d)
     have z:=fU q;clear q;go_wp2_with (at_builtin;refine iw _ rfl _ _ 29 rfl w.heap.size 3 ii (gn 0) 1 8 underlying29 Y V W X rfl (by decide) _ _ _ rfl (l.alloc _) ⟨E.heap.size,0,none⟩ 1 1 [gn ((k:Nat))] rfl ?c1 ?G ?c3 ?c4 ?c5 ?c6 ?_)
     case c1=>rfl
     case G=>
      intro j u f
      match j,f with
      |0,f=>simp at f;subst f;simp[Addr.add]
     case c3=>intro u r;simp at r;subst r;rfl
     case c4=>unfold maxLen;omega
     case c5=>omega
     case c6=>have:=y.size;simp;omega
     intro a5 w3 D C a4;have⟨ao',ac',hva⟩:=gG D;subst hva;have HE:Hid (RV s w (k+1) (.slice bo' ((gL s k).length+1) bc') (.slice ao' ((gL s k).length+1) ac') w3):=by
      have N:Kept (Value.slice ax (gL s k).length ac).ownBlock.toList (E.alloc (.cells #[gn ((k:Nat))] 3)) w3:=(Kept.refl _ _).grown C (λx d=> .inl (by simp[d]));refine⟨?_,?_,(y.alloc _).grown C (λx d=> .inr (l.lt x d).1)⟩
      .unfold uY;rw[U.out,rA,p6];have:=N.ownsRow (z.alloc _) (λx d=>by simp;exact λO=>nr l z (by decide) x O d)
       simpa [uY,K.out]using this
      .unfold qi;rw[U.out,rA,p6]
       simpa [qi]using D
     generalize (gL s k).length=a1 at *;go_wp2;go_roundw
     case rel=>exact⟨k+1,by go_num,by omega,HE⟩
     case measure=>simp[intOf];omega
    .have F:yi s k=true:=by unfold yi;simp[I]
     have A:T9 s k=bt s k:=by unfold T9;rw[gQ J]
     have Z:=GS F;have U:=fU Z;have K:=fU A;clear Z A;go_wp2_with (at_builtin;refine iw _ rfl _ _ 50 rfl w.heap.size 5 iu (.int .u8 0) 1 1 underlying50 hiu hu0 hu1 hu2 rfl (by decide) _ _ _ rfl (o.b.alloc _) ⟨wr.heap.size,0,none⟩ 1 1 [.int .u8 (bt s k)] rfl ?c1 ?G ?c3 ?c4 ?c5 ?c6 ?_)
     case c1=>rfl
     case G=>
      intro j u f
      match j,f with
      |0,f=>simp at f;subst f;simp[Addr.add]
     case c3=>intro u r;simp at r;subst r;rfl
     case c4=>unfold maxLen;omega
     case c5=>omega
     case c6=>have:=o.kept.size;simp;omega
     intro a6 E q B a3;have⟨bo',bc',hvb⟩:=gG q;subst hvb;have y:Kept [] w E:=(o.kept.alloc _).grown B (λx d=> .inr (o.b.lt x d).1);have l:E.ownsRow w.heap.size 3 1 (.slice ax (gL s k).length ac) (gL s k).length (qi s k):=by
      have N:Kept (Value.slice bo (gL s k).length bc).ownBlock.toList (wr.alloc (.cells #[.int .u8 (bt s k)] 5)) E:=(Kept.refl _ _).grown B (λx d=> .inl (by simp[d]));exact N.ownsRow (o.a.alloc _) (λx d=>by simp;exact λO=>nr o.b o.a (by decide) x O d)
     have z:=fU q;clear q;go_wp2_with (at_builtin;refine iw _ rfl _ _ 29 rfl w.heap.size 3 ii (gn 0) 1 8 underlying29 Y V W X rfl (by decide) _ _ _ rfl (l.alloc _) ⟨E.heap.size,0,none⟩ 1 1 [gn ((k:Nat))] rfl ?c1 ?G ?c3 ?c4 ?c5 ?c6 ?_)
     case c1=>rfl
     case G=>
      intro j u f
      match j,f with
      |0,f=>simp at f;subst f;simp[Addr.add]
     case c3=>intro u r;simp at r;subst r;rfl
     case c4=>unfold maxLen;omega
     case c5=>omega
     case c6=>have:=y.size;simp;omega
     intro a5 w3 D C a4;have⟨ao',ac',hva⟩:=gG D;subst hva;have HE:Hid (RV s w (k+1) (.slice bo' ((gL s k).length+1) bc') (.slice ao' ((gL s k).length+1) ac') w3):=by
      have N:Kept (Value.slice ax (gL s k).length ac).ownBlock.toList (E.alloc (.cells #[gn ((k:Nat))] 3)) w3:=(Kept.refl _ _).grown C (λx d=> .inl (by simp[d]));refine⟨?_,?_,(y.alloc _).grown C (λx d=> .inr (l.lt x d).1)⟩
      .unfold uY;rw[U.out,rA,p6];have:=N.ownsRow (z.alloc _) (λx d=>by simp;exact λO=>nr l z (by decide) x O d)
       simpa [uY,K.out]using this
      .unfold qi;rw[U.out,rA,p6]
       simpa [qi]using D
     generalize (gL s k).length=a1 at *;go_wp2;go_roundw
     case rel=>exact⟨k+1,by go_num,by omega,HE⟩
     case measure=>simp[intOf];omega
  .have aq:k=s.size:=by omega
   subst aq;have o:=Q;have⟨bo,bc,hvb⟩:=gG Q.b;have⟨ax,ac,hva⟩:=gG Q.a;subst hvb hva;have ak:=GR s s.size;have am:uY s s.size=((gL s s.size).map (chB s)).map λb=> .int .u8 (b.toNat:Int):=by
    unfold uY;rw[RQ];refine Vb λk _=>?_;simp only[Function.comp];rw[VE]
   have P:=Q.b;rw[am]at P;obtain⟨wa,a0⟩:∃wa,wa=(wr.alloc (.cells #[gn s.size] 3)).drew:=⟨_,rfl⟩;have ka:Kept [] wr wa:=by rw[a0];exact((Kept.refl [] wr).alloc _).drew
   have ab:=ka.ownsRow Q.a (λ_ _=>by simp);have za:wa.heap.size=wr.heap.size+1:=by rw[a0];simp
   have aA:=Q.kept.size;have aa:Hid (∀(j:Nat) (u:gO),[Value.int .i64 (s.size:Int)][j]?=some u->wa.cell? ((⟨wr.heap.size,0,none⟩:Addr).add j)=some u):=by
    intro j u f
    match j,f with
    |0,f=>
     simp at f;subst f;have:=fY wr (.cells #[gn s.size] 3);rw[iY,a0];simp
   have au:∀k,(Value.slice bo (gL s s.size).length bc).ownBlock=some k->some k≠(Value.slice ax (gL s s.size).length ac).ownBlock:=λk hk h=>nr Q.b Q.a (by decide) k hk h.symm;have aj:=JN (w':=wr.drew) P (by simp) (λ_ _=>rfl);have ad:=JN (w':=wa) P (by simp) (λk hk=>ka.block k (P.lt k hk).2 (by simp));have a8:Hid (∀T:gv,wa.grownBy T (Value.slice ax (gL s s.size).length ac).ownBlock->(convert 50 9 (.slice bo (gL s s.size).length bc)).run prog T= .ok (gH (zN s)) T):=λT H=>
    JN (w':=T) P (by simp) (λk hk=>(H.block k (by have:=(P.lt k hk).2;omega) (au k hk)).trans (ka.block k (P.lt k hk).2 (by simp)))
   have a9:Hid (∀T:gv,wa.grownBy T (Value.slice ax (gL s s.size).length ac).ownBlock->Kept [] w T):=λT H=>(Q.kept.trans ka).grown H (λx d=> .inr (Q.a.lt x d).1);have a7:=(show w.heap.size<=wa.heap.size by omega);rw[a0]at ad a8 a9 ab aa a7;have an:(⟨((gL s s.size).map (chB s)).toArray⟩:gy)=zN s:=rfl;rw[an]at aj ad
   go_wp21
   go_region_law (refine step_append_lies _ rfl (.tmp 42) (.tmp 45) 29 rfl w.heap.size 3 ii (gn 0) 1 8 underlying29 Y V W X rfl (by decide) _ _ _ (by rfl) ab ⟨wr.heap.size,0,none⟩ 1 1 [gn s.size] (by rfl) rfl aa (by intro u r;simp at r;subst r;rfl) (by decide) (by unfold maxLen;omega) (by omega) a7 (wr.heap.size+1) (by simp) ?_;intro g ai T af H al ae;have az:=a8 T H;have ag:=fU (a9 T H);have ah:=fU af;clear af H al ae)
   all_goals (try go_wp2)
   all_goals (try go_ret2)
   all_goals exact⟨_,rfl,ah,ag⟩
def kH (s:gy) (i:Nat):Nat:=(gL s s.size++[s.size]).getD i 0
theorem Vk (s:gy) (i:Nat) (h:i<=(zN s).size):(qi s s.size++[gn s.size])[i]?=some (gn (kH s i)):=by
 rw[AW]at h
 grind[qi,kH]
def uO (s:gy) (d:Int) (e:gO) (b:Nat):RC:={cs:=zN s,av:=e,at_:=d,mv:= .map (some b),lg:=8}
def Lf (s:gy) (K:gO) (base:Nat) (f:Int) (w:gv) (F:w.ownsRow base 5 1 K s.size (jY s)) (hs:s.size<=1024):
  Calls prog 34 #[K,gn f] w λe w'=>∃r b v g d,e=iq (gJ r)/\w.heap.size<=r/\w.heap.size<=b/\w.heap.size<=g/\Rd w' r (uO s f v b) 0 0/\LD w' r (uO s f v b) g d (kH s)/\Lk w' b (pK KV)/\b≠r/\(∃y,w'.heap[g]?=some (gI y 3))/\Kept [] w w':=by
 have⟨ao,cp,htv⟩:=gG F;subst htv;have P:=fU F;clear F;go_enter func34,ntmps34
 go_wp21
 refine(QN w).mono ?_;rintro e k ⟨b,rfl,T,I,o⟩;have J:Kept [] k (k.alloc (.cells #[gH kI,jX,gn 0,gn 0,gn f,.map (some b),gn 8,gH kI,.bool false] 132)):=(Kept.refl _ _).alloc _;have Q:=fY k (.cells #[gH kI,jX,gn 0,gn 0,gn f,.map (some b),gn 8,gH kI,.bool false] 132);have O:=Yy s (.slice ao s.size cp) base _ ((o.trans J).ownsRow P (λ_ _=>by simp)) hs;have A:=o.trans J;have x:=o.size
 go_wp21
 refine O.mono ?_;rintro e N ⟨v,rfl,m,q⟩;have l:=q.at Q (by simp);have U:=fW l 0;have V:=fW l 1;have f0:=gE l 0;have f1:=gE l 1;dsimp at U V;have⟨ax,ac,hv⟩:=gG m;subst hv;obtain⟨j,u⟩:∃j,j=(N.setCell ⟨k.heap.size,0,none⟩ (gH (zN s))).setCell ⟨k.heap.size,1,none⟩ (.slice ax ((gL s s.size).length+1) ac):=⟨_,rfl⟩;have z:Kept [k.heap.size] N j:=by rw[u];exact((Kept.refl _ _).setCell (.inl (by simp)) _).setCell (.inl (by simp)) _
 have rz:Rd j k.heap.size (uO s f (.slice ax ((gL s s.size).length+1) ac) b) 0 0:=by
  rw[u];exact gg (gg l 0 _) 1 _
 have X:b < k.heap.size:=I.lt;have C:Lk j b (pK KV):=((I.kept ((Kept.refl [] k).alloc _) (by simp)).kept q (by simp)).kept z (by simp;omega);have B:∃g d,(w.heap.size<=g/\∃y,j.heap[g]?=some (gI y 3))/\LD j k.heap.size (uO s f (.slice ax ((gL s s.size).length+1) ac) b) g d (kH s):=by
  rcases m.2 with⟨_,h0⟩|⟨g,d,W,h,D,E,_⟩
  .omega
  .have Y:k.heap.size < g:=by simp at D;omega
   refine⟨g,d,⟨by omega,⟨_,z.at E (by simp;omega)⟩⟩,?_,by omega,lV (jk E) z.size,λi Z=>?_⟩
   .show Value.slice ax _ ac=_;rw[h];show Value.slice _ _ _=Value.slice _ ((zN s).size+1) _;rw[AW]
   .rw[z.cell (p:=⟨g,i,none⟩) (jk E) (by simp;omega)];have:=m.cells (g:=g) (by rw[h];rfl) i _ (Vk s i Z);rw[iY]at this;omega
 have⟨g,d,⟨hgl,hgt⟩,hA⟩:=B;have G:Kept [] w j:=(A.trans q).next z (by simp;exact x)
 have H:Hid (∃r b v g d,iq (gJ k.heap.size)=iq (gJ r)/\w.heap.size<=r/\w.heap.size<=b/\w.heap.size<=g/\Rd j r (uO s f v b) 0 0/\LD j r (uO s f v b) g d (kH s)/\Lk j b (pK KV)/\b≠r/\(∃y,j.heap[g]?=some (gI y 3))/\Kept [] w j):=by
  exact⟨_,b,_,g,d,rfl,x,T,hgl,rz,hA,C,by omega,hgt,G⟩
 rw[u]at H;go_wp2;go_ret;exact H
structure Sp where
 k:Int
 a:Int
 b:Int
def Bd (w:gv) (q:Nat) (a:Addr):(w.drewN q).cell? a=w.cell? a:=rfl
theorem Qq {base : Nat} {e : TypeId} {d f g j : Nat} {xs : List gO} (h:w.ownsRow base e d (oY g n f) n xs) (u:gO):(w.setCell ⟨g,j,none⟩ u).ownsRow base e d (oY g n f) n (xs.set j u):=by
 have⟨h1,l⟩:=h;refine⟨by grind,?_⟩;rcases l with⟨l,_⟩|⟨y,m,k,o,v,x,p,q,z,r⟩
 .cases l
 .simp only[Value.slice.injEq,Option.some.injEq,Addr.mk.injEq,and_true,true_and]at o;obtain⟨rfl,rfl⟩:=o;refine .inr ⟨g,f,k.setIfInBounds j u,rfl,v,gg x j u,p,q,by grind,?_⟩;rw[Array.toList_setIfInBounds,List.take_set,r]
def ou (L:List Sp):List gO:=L.flatMap λp=>[gn p.k,gn p.a,gn p.b]
def pU (L M:List Sp):ou (L++M)=ou L++ou M:=by simp[ou]
theorem uD (L:List Sp):(ou L).length=L.length*3:=by
 induction L with
 |nil=>rfl
 |cons p L ih=>show(Value.int .i64 p.k:: gn p.a:: gn p.b::ou L).length=_;grind
def Fi (M:List Sp) (l:Sp) (i:Nat) (d:i < 3):(ou (M++[l]))[M.length*3+i]?=[Value.int .i64 l.k,gn l.a,gn l.b][i]?:=by
 rw[pU,List.getElem?_append_right (by rw[uD];omega),uD,show M.length*3+i - M.length*3=i by omega];rfl
def Tm (M:List Sp) (l:Sp) (b:Int):(ou (M++[l])).set (M.length*3+2) (gn b)=ou (M++[⟨l.k,l.a,b⟩]):=by
 rw[pU,pU,List.set_append_right _ _ (by rw[uD];omega),uD,show M.length*3+2 - M.length*3=2 by omega];rfl
def sA (L:List Sp) (s:Sp):List Sp:=match L.getLast? with
 |some l=>if s.k=1/\l.k=1 then L.dropLast++[⟨l.k,l.a,s.b⟩]else L++[s]
 |none=>L++[s]
def Vs (s:Sp):sA [] s=[s]:=rfl
def Vt (M:List Sp) (l s:Sp) (h:s.k=1/\l.k=1):sA (M++[l]) s=M++[⟨l.k,l.a,s.b⟩]:=by unfold sA;simp[h]
def XK (M:List Sp) (l s:Sp) (h:¬(s.k=1/\l.k=1)):sA (M++[l]) s=M++[l]++[s]:=by unfold sA;simp[h]
theorem Vr (L:List Sp) (s:Sp):(sA L s).length<=L.length+1:=by
 grind[sA]
def L8:(prog.info? 106).map (λi=>(i.zero,i.size,i.bytes))=some (some (.agg #[gn 0,gn 0,gn 0]),3,24):=by kernel_rfl
def wX (base:Nat) (w:gv) (v:gO) (L:List Sp) (s:Sp) (e:Ending) (w':gv):Prop:=
 ∃d,e=iq d/\w'.ownsRow base 106 3 d (sA L s).length (ou (sA L s))/\Kept v.ownBlock.toList w w'
theorem OU (base:Nat) (v:gO) (s:Sp) (w:gv) (k:w.ownsRow base 106 3 v 0 (ou [])) (g:base<=w.heap.size):
  Calls prog 41 #[v,.agg #[gn s.k,gn s.a,gn s.b]] w λe w'=>wX base w v [] s e w':=by
 obtain⟨E,C,m,o,p⟩:=tz L8;have⟨ao,cp,hv⟩:=gG k;subst hv;have⟨sk,sa,sb⟩:=s;have d:sA [] ⟨sk,sa,sb⟩=[]++[⟨sk,sa,sb⟩]:=Vs _;simp only;have H:=k;have z:=fU d;have F:Kept [] w (w.alloc (.cells #[gn sk,gn sa,gn sb] 106)):=(Kept.refl _ _).alloc _;have f:=F.ownsRow k (λ_ _=>by simp);clear d;have q:w.heap.size < w.heap.size+1:=by omega
 go_enter func41,ntmps41;go_wp2_with (at_builtin;refine iw _ rfl _ _ 56 rfl base 106 E (.agg #[gn 0,gn 0,gn 0]) 3 24 underlying56 C m o p rfl (by decide) _ _ _ rfl (f.alloc _) ⟨w.heap.size+1,0,none⟩ 1 1 [gn sk,gn sa,gn sb] rfl ?c1 ?c2 ?c3 ?c4 ?c5 ?c6 ?_)
 case c1=>rfl
 case c2=>
  intro j u I;have g:=fY (w.alloc (.cells #[gn sk,gn sa,gn sb] 106)) (.cells #[gn sk,gn sa,gn sb] 106);simp only[rB]at g;rw[iY,fW g]
  grind
 case c3=>intro u r;simp at r;rcases r with rfl|rfl|rfl<;>rfl
 case c4=>unfold maxLen;omega
 case c5=>omega
 case c6=>simp;omega
 intro y G l h B;have A:Hid (wX base w (.slice ao 0 cp) [] ⟨sk,sa,sb⟩ (iq y) G):=by
  refine⟨y,rfl,?_,?_⟩
  .rw[z.out,pU,p6];exact l
  .exact((Kept.refl _ _).alloc _|>.alloc _).grown h (λx D=> .inl (by simp[D]))
 go_wp2;go_ret;exact A
theorem MR (base:Nat) (v:gO) (M:List Sp) (l s:Sp) (w:gv) (q:w.ownsRow base 106 3 v (M.length+1) (ou (M++[l]))) (r:base<=w.heap.size) (hM:M.length<=4096) (m:¬(s.k=1/\l.k=1)):
  Calls prog 41 #[v,.agg #[gn s.k,gn s.a,gn s.b]] w λe w'=>wX base w v (M++[l]) s e w':=by
 obtain⟨Q,O,A,B,C⟩:=tz L8;obtain⟨g,E,H⟩:∃g E,v=oY g (M.length+1) E:=by
  rcases q.2 with⟨_,Z⟩|⟨g,U,V,h,_⟩
  all_goals grind
 have hg:g < w.heap.size:=by subst H;exact(q.lt g rfl).2
 have Y:w.cell? ⟨g,M.length*3,none⟩=some (gn l.k):=by
  subst H;have:=q.cells (g:=g) rfl (M.length*3) _ (by have:=Fi M l 0 (by omega);simpa using this)
  rwa [iY]at this
 obtain⟨N,W⟩:∃N:Option Addr,N=some ⟨g,0,none⟩:=⟨_,rfl⟩;have⟨sk,sa,sb⟩:=s;simp only at m|-;have d:sA (M++[l]) ⟨sk,sa,sb⟩=(M++[l])++[⟨sk,sa,sb⟩]:=XK M l _ m;subst H
 by_cases P:sk=1
 .have hl:¬l.k=1:=λh=>m ⟨P,h⟩;subst P;clear m;have T:=q;have F:=fU d;have J:Kept [] w (w.alloc (.cells #[gn 1,gn sa,gn sb] 106)):=(Kept.refl _ _).alloc _;have o:=J.ownsRow q (λ_ _=>by simp);clear d;have y:w.heap.size < w.heap.size+1:=by omega
  go_enter func41,ntmps41;go_wp2_with (at_builtin;refine iw _ rfl _ _ 56 rfl base 106 Q (.agg #[gn 0,gn 0,gn 0]) 3 24 underlying56 O A B C rfl (by decide) _ _ _ rfl (o.alloc _) ⟨w.heap.size+1,0,none⟩ 1 1 [gn 1,gn sa,gn sb] rfl ?c1 ?c2 ?c3 ?c4 ?c5 ?c6 ?_)
  case c1=>rfl
  case c2=>
   intro j u X;have r:=fY (w.alloc (.cells #[gn 1,gn sa,gn sb] 106)) (.cells #[gn 1,gn sa,gn sb] 106);simp only[rB]at r;rw[iY,fW r]
   grind
  case c3=>intro u z;simp at z;rcases z with rfl|rfl|rfl<;>rfl
  case c4=>unfold maxLen;omega
  case c5=>omega
  case c6=>simp;omega
  intro D K k f p;have G:Hid (wX base w (oY g (M.length+1) E) (M++[l]) ⟨1,sa,sb⟩ (iq D) K):=by
   refine⟨D,rfl,?_,?_⟩
   .rw[F.out,pU,p6];rw[show(M++[l]).length+[(⟨1,sa,sb⟩:Sp)].length=M.length+1+1 from by simp];exact k
   .exact((Kept.refl _ _).alloc _|>.alloc _).grown f (λx I=> .inl (by simp[I]))
  clear k f p;go_wp2;go_ret;exact G
 .skip
  have T:=q;have F:=fU d;have J:Kept [] w (w.alloc (.cells #[gn sk,gn sa,gn sb] 106)):=(Kept.refl _ _).alloc _;have o:=J.ownsRow q (λ_ _=>by simp);clear d;have y:w.heap.size < w.heap.size+1:=by omega
  go_enter func41,ntmps41;go_wp2_with (at_builtin;refine iw _ rfl _ _ 56 rfl base 106 Q (.agg #[gn 0,gn 0,gn 0]) 3 24 underlying56 O A B C rfl (by decide) _ _ _ rfl (o.alloc _) ⟨w.heap.size+1,0,none⟩ 1 1 [gn sk,gn sa,gn sb] rfl ?c1 ?c2 ?c3 ?c4 ?c5 ?c6 ?_)
  case c1=>rfl
  case c2=>
   intro j u X;have r:=fY (w.alloc (.cells #[gn sk,gn sa,gn sb] 106)) (.cells #[gn sk,gn sa,gn sb] 106);simp only[rB]at r;rw[iY,fW r]
   grind
  case c3=>intro u z;simp at z;rcases z with rfl|rfl|rfl<;>rfl
  case c4=>unfold maxLen;omega
  case c5=>omega
  case c6=>simp;omega
  intro D K k f p;have G:Hid (wX base w (oY g (M.length+1) E) (M++[l]) ⟨sk,sa,sb⟩ (iq D) K):=by
   refine⟨D,rfl,?_,?_⟩
   .rw[F.out,pU,p6];rw[show(M++[l]).length+[(⟨sk,sa,sb⟩:Sp)].length=M.length+1+1 from by simp];exact k
   .exact((Kept.refl _ _).alloc _|>.alloc _).grown f (λx I=> .inl (by simp[I]))
  clear k f p;go_wp2;go_ret;exact G
theorem MQ (base:Nat) (v:gO) (M:List Sp) (l s:Sp) (w:gv) (d:w.ownsRow base 106 3 v (M.length+1) (ou (M++[l]))) (E:M.length<=4096) (p:s.k=1) (q:l.k=1):
  Calls prog 41 #[v,.agg #[gn s.k,gn s.a,gn s.b]] w λe w'=>wX base w v (M++[l]) s e w':=by
 have⟨sk,sa,sb⟩:=s;simp only at p|-;subst p;obtain⟨g,f,y⟩:∃g f,v=oY g (M.length+1) f:=by
  rcases d.2 with⟨_,D⟩|⟨g,u,k,h,_⟩
  all_goals grind
 subst y;have F:g < w.heap.size:=(d.lt g rfl).2;have z:w.cell? ⟨g,M.length*3,none⟩=some (gn 1):=by
  have:=d.cells (g:=g) rfl (M.length*3) _ (by have:=Fi M l 0 (by omega);simpa using this)
  rwa [iY,q]at this
 have A:w.cell? ⟨g,M.length*3+2,none⟩=some (gn l.b):=by
  have:=d.cells (g:=g) rfl (M.length*3+2) _ (by have:=Fi M l 2 (by omega);simpa using this)
  rwa [iY]at this
 have B:w.frozen? ⟨g,M.length*3+2,none⟩=false:=by
  rcases d.2 with⟨h,_⟩|⟨C,m,k,h,_,x,_⟩
  .cases h
  .simp only[Value.slice.injEq,Option.some.injEq,Addr.mk.injEq,and_true,true_and]at h;obtain⟨rfl,rfl⟩:=h;exact gE x _
 have r:Hid (wX base w (oY g (M.length+1) f) (M++[l]) ⟨1,sa,sb⟩ (iq (oY g (M.length+1) f)) ((w.setCell ⟨g,M.length*3+2,none⟩ (gn sb)).alloc (.cells #[gn 1,gn sa,gn sb] 106))):=by
  refine⟨_,rfl,?_,?_⟩
  .rw[Vt M l _ ⟨rfl,q⟩];have o:=Qq (j:=M.length*3+2) d (gn sb);rw[Tm]at o
   simpa using o.alloc _
  .exact((Kept.refl [g] w).setCell (.inl (by simp)) _).alloc _
 go_enter func41,ntmps41;go_wp2;go_ret;exact r
def OT (base:Nat) (v:gO) (L:List Sp) (s:Sp) (w:gv) (d:w.ownsRow base 106 3 v L.length (ou L)) (g:base<=w.heap.size) (f:L.length<=4096):
  Calls prog 41 #[v,.agg #[gn s.k,gn s.a,gn s.b]] w λe w'=>wX base w v L s e w':=by
 rcases Z3 L with rfl|⟨M,l,rfl⟩
 .exact OU base v s w d g
 .rw[List.concat_eq_append]at d f|-;simp only[p6,qe,uS,Db]at d f
  by_cases h:s.k=1/\l.k=1
  .exact MQ base v M l s w d (by omega) h.1 h.2
  .exact MR base v M l s w d g (by omega) h
theorem QG (p q:Addr) (w:gv):
  CallsD prog 32 #[.pointer (some p),.pointer (some q)] .returning w λe g w'=>e=p8/\g= .returning/\w'=w:=by
 refine callsD_of_wpS func32 rfl λd h f=>?_;apply wpS_seq;apply wpS_region;simp[wpOpsS,go_sem,recoverD,f,ntmps32,Exit.thenS];apply wpS_seq;apply wpS_region;simp[wpOpsS,go_sem,Exit.thenS];refine wpS_cond (t:=false) (by simp[Act.eval,Array.replicate]) ?_;simp only[wR,AM];refine wpS_of_wp (wp_skip ?_);cases d
 simp_all[bodyPostS,results,results32]
def We (E:Env) (a b:Nat) (s:gy) (w:gv):Calls prog 39 #[iF E ⟨a,b,.ke s,[]⟩] w λe w'=>e=iq (gn 1)/\w'=w:=by
 simp only[iF];have d:=qC underlying167;go_enter func39,ntmps39;go_wp2;go_ret;simp
def YW (E:Env) (a b:Nat) (w:gv):Calls prog 39 #[iF E ⟨a,b,.im,[]⟩] w λe w'=>e=iq (gn 0)/\w'=w:=by
 simp only[iF];have j:=vh;have f:=sD;have g:=vO;have d:=qw;have h:=yj;have k:=adR;go_enter func39,ntmps39;go_wp2;go_ret;simp
def Pd (E:Env) (f:Nat->Nat) (σ:Ab) (w:gv) (h:RF E f σ w):Calls prog 40 #[Bp E] w λe w'=>e=iq (nV f 0)/\w'=w:=by
 have c:=(At.start h).xy;have d:=h.lt;go_enter func40,ntmps40;go_wp2;go_ret;simp
def zg (r:Nat) (s:gy) (w:gv) (h:s.size<=1048576) (k:Gl w r):
  Calls prog 238 #[gH s] w λe w'=>e=iq (gH (oA (small s)))/\Kept [] w w':=by
 have j:=k;go_enter func238,ntmps238
 go_wp21
 refine(vP s w h).mono ?_;rintro e l ⟨rfl,g⟩;have C:=yk r (small s) l (by rw[sr];exact h) (j.kept (g.mono (by simp)))
 go_wp21
 refine C.mono ?_;rintro e m ⟨rfl,f⟩;have d:=g.trans f;go_wp2;go_ret;exact⟨rfl,d⟩
theorem zp (r:Nat) (R:RC) (d ps:Nat) (s:gy) (w:gv) (h:Rd w r R d ps) (l:ps<=R.cs.size) (m:R.cs.size<=1024):
  Calls prog 239 #[gJ r,.func (.func 241) #[] #[gJ w.heap.size]] (w.alloc (.cells #[gH s] 9))
   λe w'=>e=iq (gH (R.cs.extract ps (scan (jr s) R.cs ps)))/\Kept [r] w w'/\Rd w' r R d (scan (jr s) R.cs ps):=by
 have o:=jk h;have k:Kept [] w (w.alloc (.cells #[gH s] 9)):=(Kept.refl _ _).alloc _;have b:=fY w (.cells #[gH s] 9);refine(Rv r R d ps _ _ _ _ (k.at h (by simp)) l m (BX _ [r] w.heap.size s (by simp) (by simp) (by grind))).mono ?_;rintro e w' ⟨f,g,j⟩;exact⟨f,(k.mono (by simp)).trans g,j⟩
def I7 (r:Nat) (R:RC) (g ps:Nat) (k:Nat) (d:jM) (q:Int->Bool) (w:gv) (h:Rd w r R g ps) (B:ps<=R.cs.size) (E:R.cs.size<=1024) (z:Vc w [r] k d q):
  Calls prog 143 #[gJ r,.func (.func k) #[] d] w λe w'=>e=iq (.bool (decide (ps < R.cs.size)&&q (bt R.cs ps)))/\∃n,w'=w.drewN n:=by
 have m:=z;have t:=h.text;have p:=h.ps;have H:=h;have l:=get_bt R.cs;have o:=m.Yp;have C:=(λw' (h:Rd w' r R g ps)=>oD r R g ps w' h)
 by_cases e:ps=R.cs.size
 .have j:decide (ps=R.cs.size)=true:=by simp[e]
  rw[j]at C;go_enter func143,ntmps143
  go_wp21
  go_quiet ((go_at_call 68;refine xL (C _ ?_);exact H))
  go_wp2;go_ret;exact⟨by simp[e],⟨_,rfl⟩⟩
 .have f:ps < R.cs.size:=by omega
  have j:decide (ps=R.cs.size)=false:=by simp[e]
  rw[j]at C;have A:=l ps f;have x:=bt_nonneg R.cs ps;have y:=bt_le R.cs ps;have D:=(λw' h=>m.ask (bt R.cs ps) w' x y h);have v:(decide (ps < R.cs.size)&&q (bt R.cs ps))=q (bt R.cs ps):=by simp[f]
  rw[v];have u:Hid (∀n,Kept [r] w (w.drewN n)):=λn=>(Kept.refl _ _).drewN n;cases hqv:q (bt R.cs ps)
  all_goals
   rw[hqv]at D;go_enter func143,ntmps143
   go_wp21
   go_quiet (first|(go_at_call 68;refine xL (C _ ?_);exact H)|(refine xL (D _ ?_);exact u _))
   go_wp2;go_ret;exact⟨rfl,⟨_,rfl⟩⟩
def zD (R:RC) (s:gy) (ps:Nat):Bool:=decide (s.size<=R.cs.size - ps)&&((small ((R.cs.extract ps R.cs.size).extract 0 s.size)).toList==s.toList)
theorem Zr (t:gy) (n:Nat) (h:n<=t.size):pre t (t.extract 0 n)=true:=by
 have e:(t.extract 0 n).size=n:=by simp;omega
 grind[pre]
def Rn (r:Nat) (R:RC) (j ps:Nat) (s:gy) (w:gv) (h:Rd w r R j ps) (B:ps<=R.cs.size) (C:R.cs.size<=1024) (F:s.size<=1024):
  Calls prog 148 #[gJ r,gH s] w λe w'=>e=iq (.bool (zD R s ps))/\Kept [r] w w'/\Rd w' r R j (if zD R s ps=true then ps+s.size else ps):=by
 have H:=h;obtain⟨t,m⟩:∃t,t=R.cs.extract ps R.cs.size:=⟨_,rfl⟩;have k:t.size=R.cs.size - ps:=by rw[m];simp
 have f:=wB r R j ps w H B C;rw[<-m]at f;have l:=fU m;clear m
 by_cases e1:s.size<=t.size
 .have E:(t.extract 0 s.size).size=s.size:=by simp;omega
  cases e2:((small (t.extract 0 s.size)).toList==s.toList)
  .have x:zD R s ps=false:=by unfold zD;rw[<-l.out,e2];simp
   rw[x];go_enter func148,ntmps148
   go_wp21
   refine f.mono ?_;rintro e D ⟨rfl,q,rfl⟩
   go_wp21
   refine(vP _ _ (by omega)).mono ?_;rintro e A ⟨rfl,d⟩;generalize small (t.extract 0 s.size)=u at *;go_wp2;go_ret;exact⟨rfl,((Kept.refl [r] w).drewN q).trans (d.mono (by simp)),d.at (show Rd (w.drewN q) r R j ps from H) (by simp)⟩
  .have x:zD R s ps=true:=by unfold zD;rw[<-l.out,e2,<-k];simp[e1]
   rw[x];go_enter func148,ntmps148
   go_wp21
   refine f.mono ?_;rintro e D ⟨rfl,q,rfl⟩
   go_wp21
   refine(vP _ _ (by omega)).mono ?_;rintro e A ⟨rfl,d⟩;have y:Rd A r R j ps:=d.at (show Rd (w.drewN q) r R j ps from H) (by simp);have v:=lA r R j ps (t.extract 0 s.size) A y B C (by omega);have g:=Zr t s.size e1;rw[<-l.out,g]at v;have z:taken R (t.extract 0 s.size) ps=ps+s.size:=by unfold taken;rw[<-l.out,gF g,E]
   rw[z]at v;generalize small (t.extract 0 s.size)=u at *
   go_wp21
   refine v.mono ?_;rintro e I ⟨rfl,o,p⟩;go_wp2;go_ret;exact⟨rfl,(((Kept.refl [r] w).drewN q).trans (d.mono (by simp))).trans o,p⟩
 .have G:zD R s ps=false:=by unfold zD;rw[<-k];simp[e1]
  rw[G];go_enter func148,ntmps148
  go_wp21
  refine f.mono ?_;rintro e D ⟨rfl,q,rfl⟩;go_wp2;go_ret;exact⟨rfl,((Kept.refl [r] w).drewN q),H⟩
def kj (R:RC) (ps:Nat):Nat:=scan (jr pF) R.cs (ps+1)
def Dk (r:Nat) (R:RC) (x ps:Nat) (w:gv) (h:Rd w r R x ps) (J:ps < R.cs.size) (I:R.cs.size<=1024) (A:Gl w r):
  Calls prog 319 #[gJ r] w λe w'=>e=iq (gH (oA (small (R.cs.extract ps (kj R ps)))))/\Kept [r] w w'/\Rd w' r R x (kj R ps):=by
 have p:=h.ps;have F:=h.free 3;have B:=A;have l:=h.Mx (ps+1);have j:=(Kept.refl [r] w).setCell (p:=⟨r,3,none⟩) (.inl (by simp)) (gn ((ps+1:Nat)));clear h A;obtain⟨v,g⟩:∃v,v=w.setCell ⟨r,3,none⟩ (gn ((ps+1:Nat))):=⟨_,rfl⟩;rw[<-g]at l j;have d:w.setCell ⟨r,3,none⟩ (gn ((ps:Int)+1))=v:=by rw[g];congr 1
 have z:=fU d;clear g d;have C:=zp r R x (ps+1) pF v l (by omega) I;rw[show scan (jr pF) R.cs (ps+1)=kj R ps from rfl]at C;have H:kj R ps<=R.cs.size:=pz (by omega);have G:ps+1<=kj R ps:=td;generalize kj R ps=n at *;go_enter func319,ntmps319
 go_wp21
 rw[z.out];clear p F;refine(oN _ v).mono ?_;rintro e w' ⟨rfl,rfl⟩
 go_wp21
 refine C.mono ?_;rintro e y ⟨rfl,o,f⟩;have N:=f.text;have K:=f.ps;have k:=j.trans o;have D:=(λq=>zg r (R.cs.extract ps n) (y.drewN q) (by simp;omega) (show Gl (y.drewN q) r from B.kept (k.drewN q)));clear o C;generalize hm:oA (small (R.cs.extract ps n))=m at D|-;have E:=fU hm;clear hm
 go_wp21
 go_region_with (refine(D _).mono ?_;rintro e O ⟨rfl,u⟩)
 all_goals (try go_wp2)
 all_goals
  (go_ret
   exact⟨by rw[E.out];rfl,k.trans (((Kept.refl [r] y).drewN 1).trans (u.mono (by simp))),u.at (show Rd (y.drewN 1) r R x n from f) (by simp)⟩)
def toList_eq {a b : gy} (h:a.toList=b.toList):a=b:=by
 rw[sJ,sJ]at h;exact Kv (Array.toList_inj.1 h)
def M5 {j : Nat} (h:a+j < b) (e:b<=s.size):bt (s.extract a b) j=bt s (a+j):=by
 have d:j < (s.extract a b).size:=by simp;omega
 unfold bt;rw[xM d,xM (by omega)];rw[ByteArray.getElem_extract]
def Ew {p : gy} {j : Nat} (h:pre (s.extract ps s.size) p=true) (g:j < p.size):bt s (ps+j)=bt p j:=by
 have d:=EZ h;unfold pre at h;simp only[rS,MI,beq_iff_eq]at h;have e:=toList_eq h.2;have k:ps+j < s.size:=by simp at d;omega
 have f:=M5 (s:=s.extract ps s.size) (a:=0) (b:=p.size) (j:=j) (by omega) d;rw[e,Db,M5 (by omega) (ig _)]at f;omega
def rp (R:RC) (ps:Nat):Nat:=taken R jI (scan (jr jI) R.cs ps)
def IU (h:ps<=R.cs.size):rp R ps<=R.cs.size:=Rq (pz h)
def YC:ps<=rp R ps:=jP td Rp
def tR (r:Nat) (R:RC) (d ps g o:Nat) (f:Nat->Nat) (w:gv) (h:Rd w r R d ps) (P:LD w r R g o f) (Q:Gl w r) (T:d<=R.cs.size) (H:ps<=R.cs.size) (I:R.cs.size<=1024):
  Calls prog 151 #[gJ r] w λe w'=>e=iq (.iface 177 (.agg #[gn (f d),gn (f (rp R ps)),gH (oA (R.cs.extract ps (scan (jr jI) R.cs ps)))]))/\Kept [r] w w'/\Rd w' r R d (rp R ps):=by
 have C:=zp r R d ps jI w h H I;have N:=P;have O:=Q;have G:scan (jr jI) R.cs ps<=R.cs.size:=pz H;have D:=(λ(J:gv) (U:Rd J r R d (scan (jr jI) R.cs ps))=>lA r R d _ jI J U G I (by decide));rw[show taken R jI (scan (jr jI) R.cs ps)=rp R ps from rfl]at D;have u:rp R ps<=R.cs.size:=IU H;generalize rp R ps=m at *;generalize scan (jr jI) R.cs ps=n at *;go_enter func151,ntmps151
 go_wp21
 refine(oN _ w).mono ?_;rintro e w' ⟨rfl,rfl⟩
 go_wp21
 refine C.mono ?_;rintro e J ⟨rfl,v,y⟩
 go_wp21
 refine(D _ y).mono ?_;rintro e V ⟨rfl,B,l⟩;have j:=v.trans B;have E:=pS r R d m g o f V l (N.kept j) T u I
 go_wp21
 refine E.mono ?_;rintro e K ⟨rfl,p⟩;have k:=j.trans (p.mono (by simp));have z:Hid (Rd K r R d m):=l.kept p (by simp);have F:=yk r (R.cs.extract ps n) K (by simp;omega) (O.kept k)
 go_wp21
 refine F.mono ?_;rintro e W ⟨rfl,q⟩;have x:=k.trans (q.mono (by simp));have A:Hid (Rd W r R d m):=z.kept q (by simp);go_wp2;go_ret;exact⟨rfl,x,A⟩
def y9 (s:gy):gy:=
 if Lib.hasSuffix s.data.toList [45,45,33]then ⟨(Lib.trimSuffix s.data.toList [45,45,33]).toArray⟩
 else if Lib.hasSuffix s.data.toList [45,45]then ⟨(Lib.trimSuffix s.data.toList [45,45]).toArray⟩
 else if Lib.hasSuffix s.data.toList [45]then ⟨(Lib.trimSuffix s.data.toList [45]).toArray⟩else s
def SQ (s:gy) (w:gv) (m:s.size<=1048576):
  Calls prog 285 #[gH s] w λe w'=>e=iq (gH (y9 s))/\Kept [] w w':=by
 have d:=(λw=>Tryz.strings_CutSuffix s ⟨#[45,45,33]⟩ w (by omega));have f:=(λw=>Tryz.strings_CutSuffix s ⟨#[45,45]⟩ w (by omega));have g:=(λw=>Tryz.strings_CutSuffix s ⟨#[45]⟩ w (by omega));have h:Hid (Kept [] w (w.alloc (.cells #[gH ⟨#[45,45,33]⟩,gH ⟨#[45,45]⟩,gH ⟨#[45]⟩] 9))):=(Kept.refl _ _).alloc _;unfold y9;simp only at d f g;cases h1:Lib.hasSuffix s.data.toList [45,45,33]
 .rw[h1]at d;cases h2:Lib.hasSuffix s.data.toList [45,45]
  .rw[h2]at f;cases h3:Lib.hasSuffix s.data.toList [45]
   .rw[h3]at g;simp only[wR,↓reduceIte];generalize Lib.trimSuffix s.data.toList [45,45,33]=j at *;generalize Lib.trimSuffix s.data.toList [45,45]=k at *;generalize Lib.trimSuffix s.data.toList [45]=l at *;go_enter func285,ntmps285
    go_wp21
    refine vq 4 ?_;rw[oU]
    go_wp21
    refine(d _).mono ?_;rintro e w' ⟨rfl,rfl⟩
    go_wp21
    rw[oU]
    go_wp21
    refine(f _).mono ?_;rintro e w' ⟨rfl,rfl⟩
    go_wp21
    rw[oU]
    go_wp21
    refine(g _).mono ?_;rintro e w' ⟨rfl,rfl⟩
    go_wp21
    rw[oU];go_wp2;go_ret;exact⟨rfl,h⟩
   .rw[h3]at g;simp only[wR,↓reduceIte];generalize Lib.trimSuffix s.data.toList [45,45,33]=j at *;generalize Lib.trimSuffix s.data.toList [45,45]=k at *;generalize Lib.trimSuffix s.data.toList [45]=l at *;go_enter func285,ntmps285
    go_wp21
    refine vq 4 ?_;rw[oU]
    go_wp21
    refine(d _).mono ?_;rintro e w' ⟨rfl,rfl⟩
    go_wp21
    rw[oU]
    go_wp21
    refine(f _).mono ?_;rintro e w' ⟨rfl,rfl⟩
    go_wp21
    rw[oU]
    go_wp21
    refine(g _).mono ?_;rintro e w' ⟨rfl,rfl⟩;go_wp2;go_ret;exact⟨rfl,h⟩
  .rw[h2]at f;simp only[wR,↓reduceIte];generalize Lib.trimSuffix s.data.toList [45,45,33]=j at *;generalize Lib.trimSuffix s.data.toList [45,45]=k at *;go_enter func285,ntmps285
   go_wp21
   refine vq 4 ?_;rw[oU]
   go_wp21
   refine(d _).mono ?_;rintro e w' ⟨rfl,rfl⟩
   go_wp21
   rw[oU]
   go_wp21
   refine(f _).mono ?_;rintro e w' ⟨rfl,rfl⟩;go_wp2;go_ret;exact⟨rfl,h⟩
 .rw[h1]at d;simp only[↓reduceIte];generalize Lib.trimSuffix s.data.toList [45,45,33]=j at *;go_enter func285,ntmps285
  go_wp21
  refine vq 4 ?_;rw[oU]
  go_wp21
  refine(d _).mono ?_;rintro e w' ⟨rfl,rfl⟩;go_wp2;go_ret;exact⟨rfl,h⟩
def e1:gy:=⟨#[45,45,62]⟩
def e2:gy:=⟨#[45,45,33,62]⟩
def tu (R:RC) (i:Nat):Nat:=
 if i < R.cs.size then (if pre (R.cs.extract i R.cs.size) e1=true then i+3 else if pre (R.cs.extract i R.cs.size) e2=true then i+4 else tu R (i+1))else i
  termination_by R.cs.size - i
def pI (R:RC) (a i:Nat):gy:=
 if i < R.cs.size then (if pre (R.cs.extract i R.cs.size) e1=true then R.cs.extract a i else if pre (R.cs.extract i R.cs.size) e2=true then R.cs.extract a i else pI R a (i+1))else y9 (R.cs.extract a R.cs.size)
  termination_by R.cs.size - i
def aaB:i<=tu R i:=by
 fun_induction tu R i<;>omega
def aaC (h:i<=R.cs.size):tu R i<=R.cs.size:=by
 fun_induction tu R i with
 |case1 i h1 h2=>exact ly (p:=e1) h2 h
 |case2 i h1 h2 h3=>exact ly (p:=e2) h3 h
 |case3 i h1 h2 h3 ih=>omega
 |case4=>exact h
def VD (h:i<=R.cs.size):tu R i=R.cs.size\/(i < tu R i/\bt R.cs (tu R i - 1)=62):=by
 fun_induction tu R i with
 |case1 i h1 h2=>right;exact⟨by omega,Ew (p:=e1) (j:=2) h2 (by decide)⟩
 |case2 i h1 h2 h3=>right;exact⟨by omega,Ew (p:=e2) (j:=3) h3 (by decide)⟩
 |case3 i h1 h2 h3 ih=>omega
 |case4 i h1=>omega
theorem aeD (h:i < R.cs.size) (d:pre (R.cs.extract i R.cs.size) e1=true):tu R i=i+3:=by grind[tu]
theorem aeE (h:i < R.cs.size) (d:pre (R.cs.extract i R.cs.size) e1=false) (e:pre (R.cs.extract i R.cs.size) e2=true):tu R i=i+4:=by grind[tu]
theorem aeF (h:i < R.cs.size) (d:pre (R.cs.extract i R.cs.size) e1=false) (e:pre (R.cs.extract i R.cs.size) e2=false):tu R i=tu R (i+1):=by grind[tu]
theorem adm (h:i < R.cs.size) (d:pre (R.cs.extract i R.cs.size) e1=true):pI R a i=R.cs.extract a i:=by grind[pI]
theorem adn (h:i < R.cs.size) (d:pre (R.cs.extract i R.cs.size) e1=false) (e:pre (R.cs.extract i R.cs.size) e2=true):pI R a i=R.cs.extract a i:=by grind[pI]
theorem ado (h:i < R.cs.size) (d:pre (R.cs.extract i R.cs.size) e1=false) (e:pre (R.cs.extract i R.cs.size) e2=false):pI R a i=pI R a (i+1):=by grind[pI]
def CZ (r:Nat) (R:RC) (l ps:Nat) (w:gv) (h:Rd w r R l ps) (Z:ps<=R.cs.size) (T:R.cs.size<=1024):
  Calls prog 236 #[gJ r] w λe w'=>e=iq (gH (pI R ps ps))/\Kept [r] w w'/\Rd w' r R l (tu R ps):=by
 have p0:=h.ps;have H:=h;obtain⟨ce,O⟩:∃x,x=tu R ps:=⟨_,rfl⟩;obtain⟨Q,P⟩:∃x,x=pI R ps ps:=⟨_,rfl⟩;rw[<-O,<-P];go_enter func236,ntmps236
 go_wp21
 go_loopw [] (λwr=>∃i:Nat,ps<=i/\i<=R.cs.size/\tu R i=ce/\pI R ps i=Q/\Rd wr r R l i/\Kept [r] w wr) (λwr=>R.cs.size - (match wr.cell? ⟨r,3,none⟩with|some v=>(intOf v).toNat|none=>0))
 case atStart=>exact⟨ps,ig _,Z,O.symm,P.symm,H,Kept.refl _ _⟩
 case round=>
  have⟨i,hi0,hi1,hcc,hcx,HR,HKW⟩:=hrel;have z:=fU hcc;have A:=fU hcx;have t:=HR.text;have p:=HR.ps;have fz:=HR.free 3;clear hcc hcx
  by_cases e:i=R.cs.size
  .have E:decide (i=R.cs.size)=true:=by simp[e]
   have C:=oD r R l i wr HR;rw[E]at C;have U:Q=y9 (R.cs.extract ps R.cs.size):=by rw[<-A.out,pI,gQ (by omega)]
   have V:ce=i:=by rw[<-z.out,tu,gQ (by omega)]
   have W:=fU U;have X:=fU V;clear U V;have Y:=e;have D:=(λw'=>SQ (R.cs.extract ps R.cs.size) w' (by simp;omega))
   go_wp21
   refine C.mono ?_;rintro e K ⟨rfl,q,rfl⟩
   go_wp21
   refine(D _).mono ?_;rintro e N ⟨rfl,f⟩;go_wp2;go_ret;exact⟨by rw[W.out];rfl,(HKW.drewN q).trans (f.mono (by simp)),by rw[X.out];exact f.at (show Rd (wr.drewN q) r R l i from HR) (by simp)⟩
  .have g:i < R.cs.size:=by omega
   have E:decide (i=R.cs.size)=false:=by simp[e]
   have C:=oD r R l i wr HR;rw[E]at C;have m:=(λw' (h:Rd w' r R l i)=>lA r R l i e1 w' h hi1 T (by decide));have u:=(λw' (h:Rd w' r R l i)=>lA r R l i e2 w' h hi1 T (by decide));cases h1:pre (R.cs.extract i R.cs.size) e1
   .have I:taken R e1 i=i:=by unfold taken;rw[gQ (by simp[h1])]
    rw[h1,I]at m;cases h2:pre (R.cs.extract i R.cs.size) e2
    .have J:taken R e2 i=i:=by unfold taken;rw[gQ (by simp[h2])]
     rw[h2,J]at u;have HS:=fU (aeF g h1 h2);have k:=fU (ado (a:=ps) g h1 h2);unfold e1 at m;unfold e2 at u
     go_wp21
     refine C.mono ?_;rintro e K ⟨rfl,q,rfl⟩
     go_wp21
     go_quiet (fail)
     go_wp21
     refine(m _ ?_).mono ?_
     .exact HR
     rintro e N ⟨rfl,f,o⟩
     go_wp21
     refine(u _ o).mono ?_;rintro e w3 ⟨rfl,B,d⟩;have p3:=d.ps;have f3:=d.free 3;have y:=Rd.Mx d (i+1);have j:=((HKW.drewN (q+nq)).trans (f.trans B)).setCell (p:=⟨r,3,none⟩) (.inl (by simp)) (gn ((i+1:Nat)));go_wp2;go_roundw
     case rel=>exact⟨i+1,by omega,by omega,by rw[<-HS.out,z.out],by rw[<-k.out,A.out],y,j⟩
     case measure=>
      have m1:=y.ps;rw[show((i:Int)+1)=((i+1:Nat):Int)from by omega,m1,p];simp[intOf];omega
    .have J:taken R e2 i=i+4:=by unfold taken;rw[gF h2];rfl
     rw[h2,J]at u;have HS:=fU (aeE g h1 h2);have k:=fU (adn (a:=ps) g h1 h2);unfold e1 at m;unfold e2 at u
     go_wp21
     refine C.mono ?_;rintro e K ⟨rfl,q,rfl⟩
     go_wp21
     go_quiet (fail)
     go_wp21
     refine(m _ ?_).mono ?_
     .exact HR
     rintro e N ⟨rfl,f,o⟩
     go_wp21
     refine(u _ o).mono ?_;rintro e w3 ⟨rfl,G,d⟩;have j:=((HKW.drewN (q+nq)).trans (f.trans G));go_wp2;go_ret;exact⟨by rw[<-A.out,k.out];rfl,j,by rw[<-z.out,HS.out];exact d⟩
   .have I:taken R e1 i=i+3:=by unfold taken;rw[gF h1];rfl
    rw[h1,I]at m;have HS:=fU (aeD g h1);have k:=fU (adm (a:=ps) g h1);unfold e1 at m
    go_wp21
    refine C.mono ?_;rintro e K ⟨rfl,q,rfl⟩
    go_wp21
    go_quiet (fail)
    go_wp21
    refine(m _ ?_).mono ?_
    .exact HR
    rintro e N ⟨rfl,F,d⟩;have j:=((HKW.drewN (q+nq)).trans F);go_wp2;go_ret;exact⟨by rw[<-A.out,k.out];rfl,j,by rw[<-z.out,HS.out];exact d⟩
def nH (R:RC) (ps:Nat):Nat:=if pre (R.cs.extract ps R.cs.size) jI=true then ps+1 else if pre (R.cs.extract ps R.cs.size) yE=true then ps+2 else tu R ps
def nT (R:RC) (ps:Nat):gy:=if pre (R.cs.extract ps R.cs.size) jI=true then ⟨#[]⟩else if pre (R.cs.extract ps R.cs.size) yE=true then ⟨#[]⟩else pI R ps ps
def LK (h:ps<=R.cs.size):nH R ps<=R.cs.size:=by
 unfold nH;split
 .rename_i d;exact ly d h
 .split
  .rename_i d;exact ly d h
  .exact aaC h
def VH:ps<=nH R ps:=by
 unfold nH;split
 .omega
 .split
  .omega
  .exact aaB
def O6 (h:ps<=R.cs.size):nH R ps=R.cs.size\/(ps < nH R ps/\bt R.cs (nH R ps - 1)=62):=by
 unfold nH;split
 .rename_i d;exact .inr ⟨by omega,Ew (j:=0) d (by decide)⟩
 .split
  .rename_i d;exact .inr ⟨by omega,Ew (j:=1) d (by decide)⟩
  .exact VD h
theorem Qk (s:gy):(y9 s).size<=s.size:=by
 have h:∀p,(ByteArray.mk (Lib.trimSuffix s.data.toList p).toArray).size<=s.size:=by
  intro p;show(Lib.trimSuffix s.data.toList p).toArray.size<=s.data.size;unfold Lib.trimSuffix;split
  .simp
  .simp
 grind[y9]
def Sf:(pI R a i).size<=R.cs.size:=by
 fun_induction pI R a i with
 |case1=>simp;omega
 |case2=>simp;omega
 |case3=>omega
 |case4=>exact jP (Qk _) (by simp)
def M9:(nT R ps).size<=R.cs.size:=by
 unfold nT;split
 .exact iO _
 .split
  .exact iO _
  .exact Sf
def KM (r:Nat) (R:RC) (h m g j:Nat) (d:Nat->Nat) (w o:gv) (z:LD w r R g j d) (A:Gl w r) (B:h<=R.cs.size) (C:m<=R.cs.size) (D:R.cs.size<=1024) (v:Kept [r] w o) (p:Rd o r R h m) (t:gy) (E:t.size<=1048576):
  (Calls prog 69 #[gJ r] o λe l=>e=iq (.agg #[gn (d h),gn (d m)])/\Kept [r] w l/\Rd l r R h m/\
   Calls prog 140 #[gH t] l λe u=>e=iq (gH (oA t))/\Kept [r] w u/\Rd u r R h m):=by
 refine(pS r R h m g j d o p (z.kept v) B C D).mono ?_;rintro e l ⟨x,f⟩;have q:=v.trans (f.mono (by simp));refine⟨x,q,p.kept f (by simp),?_⟩;refine(yk r t l E (A.kept q)).mono ?_;rintro e u ⟨y,k⟩;exact⟨y,q.trans (k.mono (by simp)),(p.kept f (by simp)).kept k (by simp)⟩
theorem O8 (r:Nat) (R:RC) (j ps g C:Nat) (k:Nat->Nat) (w:gv) (h:Rd w r R j ps) (Q:LD w r R g C k) (T:Gl w r) (U:j<=R.cs.size) (I:ps<=R.cs.size) (J:R.cs.size<=1024):
  Calls prog 147 #[gJ r] w λe w'=>e=iq (.iface 177 (.agg #[gn (k j),gn (k (nH R ps)),gH (oA (nT R ps))]))/\Kept [r] w w'/\Rd w' r R j (nH R ps):=by
 have A:=lA r R j ps jI w h I J (by decide);have B:=(λw' (h:Rd w' r R j ps)=>lA r R j ps yE w' h I J (by decide));have G:=(λw' (h:Rd w' r R j ps)=>CZ r R j ps w' h I J);have F:=(λl (V:Kept [r] w l) (W:Rd l r R j (nH R ps))=>KM r R j (nH R ps) g C k w l Q T U (LK I) J V W (nT R ps) (jP M9 (by omega)));clear h Q T;cases h1:pre (R.cs.extract ps R.cs.size) jI
 .have z:taken R jI ps=ps:=by unfold taken;rw[gQ (by simp[h1])]
  rw[h1,z]at A;cases h2:pre (R.cs.extract ps R.cs.size) yE;have E:taken R yE ps=ps:=by unfold taken;rw[gQ (by simp[h2])]
  rw[h2,E]at B;have o:nH R ps=tu R ps:=by unfold nH;rw[gQ (by simp[h1]),gQ (by simp[h2])]
  have p:nT R ps=pI R ps ps:=by unfold nT;rw[gQ (by simp[h1]),gQ (by simp[h2])]
  rw[<-o,<-p]at G;clear h1 h2 z E o p;generalize nH R ps=m at *;generalize nT R ps=t at *;go_enter func147,ntmps147
  go_wp21
  refine A.mono ?_;rintro e X ⟨rfl,u,v⟩
  go_wp21
  refine(B _ v).mono ?_;rintro e w2 ⟨rfl,D,O⟩;have K:=u.trans D;clear D
  go_wp21
  refine(G _ O).mono ?_;rintro e l ⟨rfl,d,f⟩;have H:=F l (K.trans d) f
  rotate_left
  have E:taken R yE ps=ps+2:=by unfold taken;rw[gF h2];rfl
  rw[h2,E]at B;have o:nH R ps=ps+2:=by unfold nH;rw[gQ (by simp[h1]),gF h2]
  have p:nT R ps=⟨#[]⟩:=by unfold nT;rw[gQ (by simp[h1]),gF h2]
  rw[o,p]at F|-;clear h1 h2 z E o p G;go_enter func147,ntmps147
  go_wp21
  refine A.mono ?_;rintro e X ⟨rfl,u,v⟩
  go_wp21
  refine(B _ v).mono ?_;rintro e l ⟨rfl,d,f⟩;have H:=F l (u.trans d) f
  all_goals
   clear d f
   go_wp21
   refine H.mono ?_;rintro e Y ⟨rfl,x,y,q⟩;clear x y
   go_wp21
   refine q.mono ?_;rintro e Z ⟨rfl,N,P⟩;go_wp2;go_ret
   simp_all
 .have z:taken R jI ps=ps+1:=by unfold taken;rw[gF h1];rfl
  rw[h1,z]at A;have o:nH R ps=ps+1:=by unfold nH;rw[gF h1]
  have p:nT R ps=⟨#[]⟩:=by unfold nT;rw[gF h1]
  rw[o,p]at F|-;clear h1 z o p B G;go_enter func147,ntmps147
  go_wp21
  refine A.mono ?_;rintro e l ⟨rfl,d,f⟩;have H:=F l d f;clear d f
  go_wp21
  refine H.mono ?_;rintro e Y ⟨rfl,x,y,q⟩;clear x y
  go_wp21
  refine q.mono ?_;rintro e Z ⟨rfl,N,P⟩;go_wp2;go_ret
  simp_all
section
open Go.Shelf Go.Lib
def Ow (s:gy):gy:=⟨(Lib.trimS s.data.toList [32,9,10,12]).toArray⟩
def ZS (s:gy) (w:gv) (h:s.size<=1048576):
  Calls prog 240 #[gH s,gH mx] w λe w'=>e=iq (gH (Ow s))/\Kept [] w w':=by
 have d:=Any.strings_Trim_laid Tryz.lays160 (by kernel_rfl) s mx w (by omega) (by decide) (ascii_of_all (by decide));exact d.mono λe w' ⟨f,g⟩=>⟨f,Kept.Ba g⟩
def dtA (R:RC) (ps:Nat):Nat:=scan (λc=>!jr mx c) R.cs ps
def FU (R:RC) (ps:Nat):Nat:=scan (jr mh) R.cs (dtA R ps)
def Yf (h:ps<=R.cs.size):dtA R ps<=R.cs.size:=pz h
def Ir (h:ps<=R.cs.size):FU R ps<=R.cs.size:=pz (Yf h)
def adq:ps<=FU R ps:=jP td td
end
section
open Go.Shelf Go.Lib
def Sg (R:RC) (ps:Nat):gy:=oA (small (R.cs.extract (dtA R ps) (FU R ps)))
def dtQ (R:RC) (ps:Nat):Bool:=((Sg R ps).toList==[])||!((Ow (R.cs.extract (FU R ps) (scan (jr jI) R.cs (FU R ps)))).toList==[])||!(pre (R.cs.extract (scan (jr jI) R.cs (FU R ps)) R.cs.size) jI)
def KQ (r:Nat) (R:RC) (d ps g v:Nat) (f:Nat->Nat) (w:gv) (h:Rd w r R d ps) (hA:LD w r R g v f) (hG:Gl w r) (hb:d<=R.cs.size) (o:ps<=R.cs.size) (C:R.cs.size<=1024):
  Calls prog 149 #[gJ r] w λe w'=>e=iq (.iface 179 (.agg #[gn (f d),gn (f (rp R (FU R ps))),gH (Sg R ps),.bool (dtQ R ps)]))/\Kept [r] w w'/\Rd w' r R d (rp R (FU R ps)):=by
 have x:Sg R ps=oA (small (R.cs.extract (dtA R ps) (FU R ps))):=rfl;have Z:dtQ R ps=(((Sg R ps).toList==[])||!((Ow (R.cs.extract (FU R ps) (scan (jr jI) R.cs (FU R ps)))).toList==[])||!(pre (R.cs.extract (scan (jr jI) R.cs (FU R ps)) R.cs.size) jI)):=rfl;generalize dtQ R ps=qk at *;generalize Sg R ps=a1 at *;have G:=vC r R d ps mx w h o C;rw[show scan (λc=>!jr mx c) R.cs ps=dtA R ps from rfl]at G;have H:=(λ(w':gv) (h:Rd w' r R d (dtA R ps))=>zp r R d (dtA R ps) mh w' h (Yf o) C);rw[show scan (jr mh) R.cs (dtA R ps)=FU R ps from rfl]at H;have C3:=(λ(w':gv) (h:Rd w' r R d (FU R ps))=>zp r R d (FU R ps) jI w' h (Ir o) C);have a0:scan (jr jI) R.cs (FU R ps)<=R.cs.size:=pz (Ir o);have D:=(λ(E:gv) (hr:Rd E r R d (scan (jr jI) R.cs (FU R ps)))=>lA r R d _ jI E hr a0 C (by decide));rw[show taken R jI (scan (jr jI) R.cs (FU R ps))=rp R (FU R ps)from rfl]at D;have B:rp R (FU R ps)<=R.cs.size:=IU (Ir o);have h3:FU R ps<=R.cs.size:=Ir o;have HA:=hA;have HG:=hG;clear h hA hG;generalize rp R (FU R ps)=m at *;generalize scan (jr jI) R.cs (FU R ps)=n at *;generalize FU R ps=b at *;generalize dtA R ps=a at *;go_enter func149,ntmps149
 go_wp21
 refine G.mono ?_;rintro e w1 ⟨rfl,K,T⟩;clear G
 go_wp21
 refine(oN _ w1).mono ?_;rintro e w' ⟨rfl,rfl⟩
 go_wp21
 refine(H _ T).mono ?_;rintro e E ⟨rfl,y,U⟩;have p:=K.trans y;clear y H;have I:=zg r (R.cs.extract a b) E (by simp;omega) (HG.kept p);rw[<-x]at I;clear x
 go_wp21
 refine I.mono ?_;rintro e w3 ⟨rfl,j⟩;have N:=p.trans (j.mono (by simp));have V:=U.kept j (by simp);clear j I
 go_wp21
 refine(oN _ w3).mono ?_;rintro e w' ⟨rfl,rfl⟩
 go_wp21
 refine(C3 _ V).mono ?_;rintro e w4 ⟨rfl,z,W⟩;have O:=N.trans z;clear z C3;have J:=ZS (R.cs.extract b n) w4 (by simp;omega);generalize Ow (R.cs.extract b n)=mo at J Z
 go_wp21
 refine J.mono ?_;rintro e w5 ⟨rfl,k⟩;have P:=O.trans (k.mono (by simp));have X:=W.kept k (by simp);clear k J
 go_wp21
 refine(D _ X).mono ?_;rintro e w6 ⟨rfl,A,u⟩;have q:=P.trans A;clear A D;have F:=pS r R d m g v f w6 u (HA.kept q) hb B C;generalize pre (R.cs.extract n R.cs.size) jI=cl at *
 go_wp21
 refine F.mono ?_;rintro e w7 ⟨rfl,l⟩;have Q:=q.trans (l.mono (by simp));have Y:=u.kept l (by simp);clear l F;have HQ:=fU Z;clear Z;cases h1:(a1.toList==[])<;>cases h2:(mo.toList==[])<;>cases cl
 all_goals go_wp2
 all_goals go_ret
 all_goals exact⟨by rw[HQ.out,h1,h2];rfl,Q,Y⟩
end
section
open Go.Shelf Go.Lib
def OH (n:Int):Int:=if n=0\/(55296<=n/\n<=57343)\/n>=1114112 then 65533 else if n=128 then 8364 else if n=133 then 8230 else if n=145 then 8216 else if n=146 then 8217 else if n=147 then 8220 else if n=148 then 8221 else if n=150 then 8211 else if n=151 then 8212 else if n=153 then 8482 else n
def qL {x n : Int} (h:x=OH n):Ending.returned (.int .i32 x)=iq (.int .i32 (OH n)):=by rw[h]
theorem Yc {n : Int} (o:¬n=0) (p:n < 55296) (d:(n==128)=false) (e:(n==133)=false) (f:(n==145)=false) (g:(n==146)=false) (h:(n==147)=false) (j:(n==148)=false) (k:(n==150)=false) (l:(n==151)=false) (m:(n==153)=false):OH n=n:=by
 grind[OH]
theorem KL (n:Int) (w:gv) (g:0<=n) (h:n<=1114112):
  Calls prog 296 #[gn n] w λe w'=>e=iq (.int .i32 (OH n))/\w'=w:=by
 by_cases a:n=0
 .subst a;go_enter func296,ntmps296;go_wp2;go_ret;simp[OH]
 .by_cases b:55296<=n
  .by_cases d:n<=57343
   .go_enter func296,ntmps296;go_wp2;go_ret;exact⟨qL (by unfold OH;omega),rfl⟩
   .by_cases f:n>=1114112
    .go_enter func296,ntmps296;go_wp2;go_ret;exact⟨qL (by unfold OH;omega),rfl⟩
    .go_enter func296,ntmps296;go_wp2;go_ret;exact⟨qL (by grind[OH]),rfl⟩
  .go_enter func296,ntmps296;go_wp2
   all_goals
    (go_ret
     first
     |exact⟨qL (by rw[zt ‹(n==128)=true›];rfl),rfl⟩
     |exact⟨qL (by rw[zt ‹(n==133)=true›];rfl),rfl⟩
     |exact⟨qL (by rw[zt ‹(n==145)=true›];rfl),rfl⟩
     |exact⟨qL (by rw[zt ‹(n==146)=true›];rfl),rfl⟩
     |exact⟨qL (by rw[zt ‹(n==147)=true›];rfl),rfl⟩
     |exact⟨qL (by rw[zt ‹(n==148)=true›];rfl),rfl⟩
     |exact⟨qL (by rw[zt ‹(n==150)=true›];rfl),rfl⟩
     |exact⟨qL (by rw[zt ‹(n==151)=true›];rfl),rfl⟩
     |exact⟨qL (by rw[zt ‹(n==153)=true›];rfl),rfl⟩
     |exact⟨qL (Yc a b ‹(n==128)=false› ‹(n==133)=false› ‹(n==145)=false› ‹(n==146)=false› ‹(n==147)=false› ‹(n==148)=false› ‹(n==150)=false› ‹(n==151)=false› ‹(n==153)=false›).symm,rfl⟩)
def kY (c:Int):Int:=if 48<=c/\c<=57 then c - 48 else if 97<=c/\c<=102 then c - 87 else if 65<=c/\c<=70 then c - 55 else 99
theorem Dt (c:Int):0<=kY c/\kY c<=99:=by grind[kY]
theorem Ie (c:Int) (w:gv) (g:0<=c) (h:c<=255):
  Calls prog 328 #[.int .u8 c] w λe w'=>e=iq (.bool (decide (48<=c/\c<=57)))/\w'=w:=by
 by_cases d:48<=c<;>by_cases f:c<=57
 all_goals first|(exfalso;omega)|skip
 all_goals (go_enter func328,ntmps328;go_wp2;go_ret;simp_all)
def VL (c:Int) (w:gv) (h:0<=c) (j:c<=255):
  Calls prog 295 #[.int .u8 c] w λe w'=>e=iq (gn (kY c))/\w'=w:=by
 have C:=Ie c w h j
 by_cases a:48<=c/\c<=57
 .rw[show decide (48<=c/\c<=57)=true from by simp[a]]at C;have e:kY c=c - 48:=by unfold kY;rw[gF a]
  rw[e];clear e;have⟨a1,a2⟩:=a;go_enter func295,ntmps295
  go_wp21
  refine C.mono ?_;rintro e w' ⟨rfl,rfl⟩;go_wp2;go_ret;simp
 .rw[show decide (48<=c/\c<=57)=false from by simp;omega]at C
  by_cases b:97<=c
  .by_cases f:c<=102
   have e:kY c=c - 97+10:=by unfold kY;rw[gQ a,gF ⟨b,f⟩];omega
   rotate_left
   have e:kY c=99:=by unfold kY;rw[gQ a,gQ (by omega),gQ (by omega)]
   all_goals
    rw[e];clear e a;go_enter func295,ntmps295
    go_wp21
    refine C.mono ?_;rintro e w' ⟨rfl,rfl⟩;go_wp2;go_ret;simp
  .by_cases d:65<=c
   .by_cases g:c<=70
    have e:kY c=c - 65+10:=by unfold kY;rw[gQ a,gQ (by omega),gF ⟨d,g⟩];omega
    rotate_left
    have e:kY c=99:=by unfold kY;rw[gQ a,gQ (by omega),gQ (by omega)]
    all_goals
     rw[e];clear e a;go_enter func295,ntmps295
     go_wp21
     refine C.mono ?_;rintro e w' ⟨rfl,rfl⟩;go_wp2;go_ret;simp
   .have e:kY c=99:=by unfold kY;rw[gQ a,gQ (by omega),gQ (by omega)]
    rw[e];clear e a;go_enter func295,ntmps295
    go_wp21
    refine C.mono ?_;rintro e w' ⟨rfl,rfl⟩;go_wp2;go_ret;simp
end
end
end Go.Proofs.YtofkkmcdggkkpaaGreatDoor
