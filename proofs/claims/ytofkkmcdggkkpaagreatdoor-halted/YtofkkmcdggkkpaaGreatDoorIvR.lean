import Derived.Test.YtofkkmcdggkkpaaGreatDoorGvA
import Derived.Laws.BytesArg
import Derived.Deep.AppendLies
import Derived.Laws.StructEq
import Derived.Ground.NamesProg
import Derived.Shelf.Lay
import Derived.Shelf.Strings.SlTrimAscii
set_option linter.unusedSimpArgs false
set_option linter.unusedVariables false
set_option linter.defProp false
set_option maxHeartbeats 0
set_option maxRecDepth 100000
namespace Go.Proofs.YtofkkmcdggkkpaaGreatDoor
open Go.RowKit Go.PlainAid Tryz
def p6:=@List.length_append
def C7:=@Nat.zero_add
def zo:=@eq_of_beq
section
variable {c n : Nat} {t : gN} {σ : Ab}
structure Z3 (σ:Ab):Prop where
 iv:mL σ
 md:σ.mode=3
 sh:∃h d,σ.gA=[some h,some d]/\σ.head=some d
def Z3.ms (h:Z3 σ):MS σ:=by
 obtain⟨x,d,a,b⟩:=h.sh;exact⟨.inl (.inr (.inr (.inl ⟨h.md,x,d,a,b⟩))),BH.low (by have:=h.md;omega)⟩
theorem Z3.ne (h:Z3 σ):σ.gA≠[]:=by have⟨x,d,h1,_⟩:=h.sh;grind
def Z3.pop (h:Z3 σ):In4 {σ.pop with mode:=4}/\Lm σ {σ.pop with mode:=4}:=by
 obtain⟨x,d,a,e⟩:=h.sh;obtain⟨b,f⟩:=EU h.iv (by rw[a];simp);refine⟨⟨b.lX rfl rfl rfl rfl rfl rfl rfl,rfl,x,d,?_,e⟩,⟨rfl,rfl,rfl,rfl,lf _,λ_ h=> .inl h,λ_ _ h=>h⟩⟩;show σ.gA.dropLast=_;rw[a];rfl
def Ge (i:mL σ) (a:σ.gA≠[]) (o:nT σ t) (b:Bool) (r:wt σ < 998000) (l:3<=σ.mode) (g:BH σ) (m:HS σ.mode σ.gA σ.head):RG 1 σ ((od t b>>=λ_=>(Pure.pure ():M Unit)) σ):=by
 refine RG.tail ?_;have k:=Gc i a o b r;revert k;cases od t b σ with
 |ok u σ2=>
  rintro⟨s,v,w,e,d,⟨j,f,z⟩,x,y⟩;refine⟨s,⟨.inr (.inl ⟨e,by rw[d];exact l,?_,?_⟩),λq=>(g (by rw[e,d]at q;omega)).of y⟩,v,w⟩
  .have:0 < σ.gA.length:=List.length_pos_iff.2 a;rw[f];simp;omega
  .rw[d,f,x,Rv];exact m
 |stop c p=>exact λh=>h
 |stuck=>exact λh=>h
def xy (h:mL σ) (a:σ.gA≠[]) (b:MS σ) (d:t.chars.size<=100) (e:wt σ < 999000):RG 101 σ (j7 t σ):=
 RG.mono (c:=t.chars.size+1) ((oI h a t (by omega)).rg b (λ_ q=>q.gA)) (by omega)
def Uz (z:4*64+8<=n) (t:gN) (f:uT t) (h:Z3 σ) (g:Hh σ t) (B:wt σ < 997000) (v:σ.waiting.length < 4000):RG 373 σ (hH false (n+2) 3 t σ):=by
 obtain⟨o,w⟩:=h.pop;have l:∀t,uT t->Hh σ t->RG 373 σ (nB (hH false (n+1)) t σ):=by
  intro t f g;have r:=RG.tail (UA z t f o (λA=>g A) B v);exact RG.from (c1:=372) (c2:=0) r w (ij _) (λ_ h=>h) (nh (jl rfl)) (by omega)
 have m:RG 373 σ ((Pure.pure ():M Unit) σ):=(qV h.iv h.ms).mono (by omega);have i:HS σ.mode σ.gA σ.head:=by
  obtain⟨x,d,r,y⟩:=h.sh;exact .inr (.inr (.inl ⟨h.md,x,d,r,y⟩))
 obtain⟨a,b,C,gM⟩:=t;cases C with
 |lost=>exact absurd rfl f.nl
 |ke s=>
  refine BV (sp:=lE) (P:=RG 373 σ) rfl rfl rfl ?_ ?_
  .exact(xy h.iv h.ne h.ms f.sz (by omega)).mono (by omega)
  .exact l _ f g
 |gS s=>
  refine jy f.nl (sp:=lE) (P:=RG 373 σ) rfl rfl ?_;show RG 373 σ (xW 87 true _ σ);rw[yH];exact RG.mono (c:=1) (vY h.iv mV (Ar h.iv h.ne) _ (by omega) h.ms) (by omega)
 |iN s q=>exact jy f.nl (sp:=lE) (P:=RG 373 σ) rfl rfl m
 |io=>exact jy f.nl (sp:=lE) (P:=RG 373 σ) rfl rfl (l _ f g)
 |start nm=>
  have k:nT σ ⟨a,b,.start nm,gM⟩:=g.tag rfl;refine G9 (sp:=lE) (P:=RG 373 σ) rfl (by simp) rfl rfl ?_ ?_
  .intro p j u;simp only[uS,qC,rF]at j;rcases j with rfl|rfl|rfl|rfl|rfl
   all_goals dsimp only at u|-
   .exact(Ge h.iv h.ne k true (by omega) (by rw[h.md];omega) h.ms.2 i).mono (by omega)
   .exact(Ge h.iv h.ne k false (by omega) (by rw[h.md];omega) h.ms.2 i).mono (by omega)
   .exact RG.mono (c:=1) ((qq h.iv h.ne (by omega) _ k.tag k.fr).rg h.ms (λ_ q=>q.1)) (by omega)
   .have e:=IP u;subst e;exact(Ns n a b gM h.iv h.ne k.fr h.ms).mono (by omega)
   .exact m
  .exact l _ f g
 |stop nm=>
  refine Oh (sp:=lE) (P:=RG 373 σ) rfl (by simp) rfl rfl ?_ ?_
  .intro p j u;simp only[uS,qC,rF]at j;rcases j with rfl|rfl
   .exact l _ f g
   .exact⟨o.iv,o.ms,w,jN (nh (jl rfl)) (xJ _ _)⟩
  .exact m
structure In2 (σ:Ab):Prop where
 iv:mL σ
 md:σ.mode=2
 sh:∃h,σ.gA=[some h]
def In2.ms (h:In2 σ):MS σ:=by
 obtain⟨x,a⟩:=h.sh;exact⟨.inl (.inr (.inl ⟨h.md,x,a⟩)),BH.low (by have:=h.md;omega)⟩
theorem In2.ne (h:In2 σ):σ.gA≠[]:=by have⟨x,h1⟩:=h.sh;grind
theorem jw.abG {r : Nat->Nat} (h:jw r σ) {d : Nat} (e:iV σ d gU) (f:∀x,σ.gA.head?=some (some x)->r x < r d):jw r {σ with head:=some d}:=
 ⟨⟨h.nM.up,h.nM.dn,h.nM.nd,h.nM.kd⟩,⟨h.sY.je,h.sY.gA,λb x a g=>by grind⟩,h.gA,h.act,λb a=>by cases a;exact e,h.form,h.KB,h.wT,h.zH,h.OB,h.RK,h.xb⟩
def Gb (h:In2 σ) (own:Bool) (gM:kY) (S:own=true->σ.fresh=true) (hw:wt σ < 998000) {k:M Unit} (U:∀f,Z3 f->Lm σ f->f.waiting=σ.waiting->wt f<=wt σ+1->(own=false->f.fresh=σ.fresh)->RG c f (k f)):RG (c+1) σ ((rM own gM>>=λ_=>k) σ):=by
 obtain⟨x,G⟩:=h.sh;obtain⟨r,I⟩:=h.iv;obtain⟨B,R⟩:=zX r σ.nodes.length;have J:x < σ.nodes.length:=I.ER (by rw[G];exact pP ..);have w:∀(g:kY) (v:Bool),(own=false->v=σ.fresh)->sW gU own gM σ= .ok σ.nodes.length (σ.pn (.el {name:=gU,gV:=g,je:=none,kids:=[]}) v)->RG (c+1) σ ((rM own gM>>=λ_=>k) σ):=by
  intro g v D L;obtain⟨K,o⟩:=I.new gU g v (B+1);obtain⟨a,b⟩:∃a,a=σ.pn (.el {name:=gU,gV:=g,je:=none,kids:=[]}) v:=⟨_,rfl⟩;rw[<-b]at K o L;have z:a.ib σ.nodes.length=some {name:=gU,gV:=g,je:=none,kids:=[]}:=by rw[b];exact Ab.ui
  have C:a.gA=σ.gA:=by rw[b];rfl
  have w1:wt a=wt σ:=by rw[b];exact Eg _ _ _
  have T:=K.abG (d:=σ.nodes.length) ⟨_,z,rfl⟩ (by
   intro y N;rw[C,G]at N;have:x=y:=by simpa using N
   subst this;rw[yv,zm (by omega)];have:=R x J;omega)
  have F:some σ.nodes.length∉({a with head:=some σ.nodes.length}:Ab).gA:=by
   show some σ.nodes.length∉a.gA;rw[C];intro V;have:=I.ER (i:=σ.nodes.length) V;omega
  have E:=L0 (σ:={a with head:=some σ.nodes.length}) ⟨_,T⟩ (j:=σ.nodes.length) z rfl rfl F (by show a.gA≠[];rw[C];exact h.ne) (by show wt a < _;omega);show RG (c+1) σ (((sW gU own gM>>=λe=>wG (λσ=>{σ with head:=some e})>>=λ_=>mi e>>=λ_=>jM 3>>=λ_=>(Pure.pure ():M Unit))>>=λ_=>k) σ);rw[M.gy,M.gy,L];dsimp only;rw[M.gy];have W:wG (λA:Ab=>{A with head:=some σ.nodes.length}) a= .ok () {a with head:=some σ.nodes.length}:=rfl;rw[W];dsimp only;rw[M.gy];revert E;cases mi σ.nodes.length {a with head:=some σ.nodes.length} with
  |ok u σ2=>
   rintro⟨Y,m,w2,P⟩;dsimp only;have Z:Z3 {σ2 with mode:=3}:=⟨Y.lX rfl rfl rfl rfl rfl rfl rfl,rfl,x,σ.nodes.length,by
    show σ2.gA=_;rw[P.gA];show a.gA++_=_;rw[C,G];rfl,m.head⟩
   have l:σ2.waiting=σ.waiting:=by rw[m.waiting];show a.waiting=_;rw[b];rfl
   have O:Lm σ {σ2 with mode:=3}:=⟨m.gQ.trans o.gQ,m.pQ.trans o.pQ,m.qO.trans o.qO,m.oZ.trans o.oZ,by show σ2.waiting.length<=_;rw[l];omega,by show∀x∈σ2.waiting,_;rw[l];exact λ_ h=> .inl h,λi s q=>m.nm i s (o.nm i s q)⟩;have X:wt σ2<=wt a+1:=w2;have Q:=U {σ2 with mode:=3} Z O l (by show wt σ2<=_;omega) (λH=>by
    show σ2.fresh=_;rw[P.fresh];show a.fresh=_;rw[b];exact D H)
   exact RG.from (c1:=c) (c2:=1) (σ1:={σ2 with mode:=3}) Q O (by show σ2.waiting.length<=_;rw[l];omega) (by show∀x∈σ2.waiting,_;rw[l];exact λ_ h=>h) (by show wt σ2<=_;omega) (ij _)
  |stop e p=>exact λh=>BL h o.gQ
  |stuck=>exact λh=>h
 cases own with
 |true=>
  refine w gM false (λh=>by cases h) ?_;unfold sW;rw[gF rfl,gF (S rfl)]
 |false=>exact w [] σ.fresh (λ_=>rfl) rfl
theorem Uy (w:4*64+8<=n) (t:gN) (d:uT t) (h:In2 σ) (g:Hh σ t) (C:wt σ < 996000) (y:σ.waiting.length < 4000):RG 374 σ (hH false (n+3) 2 t σ):=by
 have l:∀t,uT t->Hh σ t->RG 374 σ (pc (hH false (n+2)) t σ):=by
  intro t d g;refine Gb (c:=373) h false [] (λh=>by cases h) (by omega) (k:=j1 (hH false (n+2)) t>>=λ_=>(Pure.pure ():M Unit)) ?_;intro f i z B A r;have v:=Uz w t d i (λx=>(r rfl).trans (g x)) (by omega) (by grind);refine RG.tail ?_;show RG 373 f (hH false (n+2) f.mode t f);rw[i.md];exact v
 have m:RG 374 σ ((Pure.pure ():M Unit) σ):=(qV h.iv h.ms).mono (by omega);have⟨a,b,kk,gM⟩:=t;cases kk with
 |lost=>exact absurd rfl d.nl
 |ke s=>
  refine BV (sp:=ln) (P:=RG 374 σ) rfl rfl rfl ?_ ?_
  .exact m
  .exact l _ d g
 |gS s=>
  refine jy d.nl (sp:=ln) (P:=RG 374 σ) rfl rfl ?_;show RG 374 σ (xW 87 true _ σ);rw[yH];exact RG.mono (c:=1) (vY h.iv mV (Ar h.iv h.ne) _ (by omega) h.ms) (by omega)
 |iN s q=>exact jy d.nl (sp:=ln) (P:=RG 374 σ) rfl rfl m
 |io=>exact jy d.nl (sp:=ln) (P:=RG 374 σ) rfl rfl (l _ d g)
 |start nm=>
  have u:nT σ ⟨a,b,.start nm,gM⟩:=g.tag rfl;refine G9 (sp:=ln) (P:=RG 374 σ) rfl (by simp) rfl rfl ?_ ?_
  .intro p j o;simp only[uS,qC,rF]at j;rcases j with rfl|rfl
   all_goals dsimp only at o|-
   .refine RG.mono (c:=1) (Gb (c:=0) h true gM (λ_=>u.fr) (by omega) (k:=(Pure.pure ():M Unit)) ?_) (by omega);intro f i z B A r;exact qV i.iv i.ms
   .have e:=IP o;subst e;exact(Ns (n+1) a b gM h.iv h.ne u.fr h.ms).mono (by omega)
  .exact l _ d g
 |stop nm=>
  refine Oh (sp:=ln) (P:=RG 374 σ) rfl (by simp) rfl rfl ?_ ?_
  .intro p j o;simp only[uS,qC,rF]at j;subst j;exact l _ d g
  .exact m
structure ZU (σ:Ab):Prop where
 iv:mL σ
 md:σ.mode<=1
 op:σ.gA=[]
 hd:σ.head=none
def ZU.ms (h:ZU σ):MS σ:=⟨.inl (.inl ⟨h.md,h.op,h.hd⟩),BH.low (by have:=h.md;omega)⟩
def Ga (h:ZU σ) (own:Bool) (gM:kY) (L:own=true->σ.fresh=true) (hw:wt σ < 998000) {k:M Unit} (N:∀f,In2 f->Lm σ f->f.waiting=σ.waiting->wt f<=wt σ+1->(own=false->f.fresh=σ.fresh)->RG c f (k f)):RG (c+1) σ ((rL own gM>>=λ_=>k) σ):=by
 obtain⟨r,E⟩:=h.iv;obtain⟨B,J⟩:=zX r σ.nodes.length;obtain⟨u,o⟩:=Option.isSome_iff_exists.1 E.xb;have m:=Ab.il o;have l:∀(g:kY) (j:Bool),(own=false->j=σ.fresh)->sW fY own gM σ= .ok σ.nodes.length (σ.pn (.el {name:=fY,gV:=g,je:=none,kids:=[]}) j)->RG (c+1) σ ((rL own gM>>=λ_=>k) σ):=by
  intro g j v C;obtain⟨z,A⟩:=E.new fY g j (B+1);obtain⟨d,b⟩:∃d,d=σ.pn (.el {name:=fY,gV:=g,je:=none,kids:=[]}) j:=⟨_,rfl⟩;rw[<-b]at z A C;have s:d.ib σ.nodes.length=some {name:=fY,gV:=g,je:=none,kids:=[]}:=by rw[b];exact Ab.ui
  have p:d.ib 0=some u:=by rw[b];show(σ.add _).ib 0=_;rw[Ab.tF m];exact o
  have w1:wt d=wt σ:=by rw[b];exact Eg _ _ _
  have Q:d.gA=[]:=by rw[b];exact h.op
  have K:BZ d= .ok (0,u.kids.length) d:=by unfold BZ jx;rw[p]
  obtain⟨a,T,V,W,q4,X,q6,Y,q8,Z,U⟩:=z.put (pl:=(0,u.kids.length)) ⟨u,p,ij _⟩ s rfl (by
   show wU r σ.nodes.length (B+1) 0 < wU r σ.nodes.length (B+1) σ.nodes.length;rw[yv,zm (by omega)];have:=J 0 m;omega) (by omega)
  obtain⟨e2,q,w,_⟩:=Z _ _ s;show RG (c+1) σ (((sW fY own gM>>=λe=>BZ>>=λS=>mN S e>>=λ_=>xi (some e)>>=λ_=>jM 2>>=λ_=>(Pure.pure ():M Unit))>>=λ_=>k) σ);rw[M.gy,M.gy,C];dsimp only;rw[M.gy,K];dsimp only;rw[M.gy,T];dsimp only;rw[M.gy];have H:a.gA=[]:=X.trans Q;have F:=A.trans W;unfold xi
  by_cases D:a.pQ<=a.gA.length
  .rw[gF D];exact F.gQ
  .rw[gR D,gF (show a.mF (some σ.nodes.length)=true by show(a.ib _).isSome=true;rw[q];rfl)];dsimp only;obtain⟨R,p2⟩:=V.push q (by rw[H];intro x O;cases O) (by omega) (.inr ⟨w,by rw[F.head];exact h.hd⟩);have i:a.waiting=σ.waiting:=F.waiting;have P:In2 {({a with gA:=a.gA++[some σ.nodes.length]}:Ab)with mode:=2}:=⟨mL.lX ⟨_,R⟩ rfl rfl rfl rfl rfl rfl rfl,rfl,σ.nodes.length,by show a.gA++_=_;rw[H];rfl⟩;have G:Lm σ {({a with gA:=a.gA++[some σ.nodes.length]}:Ab)with mode:=2}:=⟨F.gQ,F.pQ,F.qO,F.oZ,by show a.waiting.length<=_;rw[i];omega,by show∀x∈a.waiting,_;rw[i];exact λ_ h=> .inl h,F.nm⟩;have I:=N _ P G i (by show wt a<=_;omega) (λy=>by
    show a.fresh=_;rw[Y,b];exact v y)
   exact RG.from (c1:=c) (c2:=1) I G (by show a.waiting.length<=_;rw[i];omega) (by show∀x∈a.waiting,_;rw[i];exact λ_ h=>h) (by show wt a<=_;omega) (ij _)
 cases own with
 |true=>
  refine l gM false (λh=>by cases h) ?_;unfold sW;rw[gF rfl,gF (L rfl)]
 |false=>exact l [] σ.fresh (λ_=>rfl) rfl
theorem Ux (r:4*64+8<=n) (t:gN) (d:uT t) (h:ZU σ) (f:Hh σ t) (B:wt σ < 995000) (x:σ.waiting.length < 4000):RG 375 σ (hH false (n+4) 1 t σ):=by
 have j:∀t,uT t->Hh σ t->RG 375 σ (pa (hH false (n+3)) t σ):=by
  intro t d f;refine Ga (c:=374) h false [] (λh=>by cases h) (by omega) (k:=j1 (hH false (n+3)) t>>=λ_=>(Pure.pure ():M Unit)) ?_;intro e g y A z m;have o:=Uy r t d g (λv=>(m rfl).trans (f v)) (by omega) (by grind);refine RG.tail ?_;show RG 374 e (hH false (n+3) e.mode t e);rw[g.md];exact o
 have l:RG 375 σ ((Pure.pure ():M Unit) σ):=(qV h.iv h.ms).mono (by omega);have⟨a,b,kk,gM⟩:=t;cases kk with
 |lost=>exact absurd rfl d.nl
 |ke s=>
  refine BV (sp:=lj) (P:=RG 375 σ) rfl rfl rfl ?_ ?_
  .exact l
  .exact j _ d f
 |gS s=>
  refine jy d.nl (sp:=lj) (P:=RG 375 σ) rfl rfl ?_;show RG 375 σ (xW 81 false _ σ);rw[O1];exact RG.mono (c:=1) (vY h.iv (jx 0) (M6 h.iv) _ (by omega) h.ms) (by omega)
 |iN s q=>exact jy d.nl (sp:=lj) (P:=RG 375 σ) rfl rfl l
 |io=>exact jy d.nl (sp:=lj) (P:=RG 375 σ) rfl rfl (j _ d f)
 |start nm=>
  have w:nT σ ⟨a,b,.start nm,gM⟩:=f.tag rfl;refine G9 (sp:=lj) (P:=RG 375 σ) rfl (by simp) rfl rfl ?_ ?_
  .intro p i u;simp only[uS,qC,rF]at i;subst i;refine RG.mono (c:=1) (Ga (c:=0) h true gM (λ_=>w.fr) (by omega) (k:=(Pure.pure ():M Unit)) ?_) (by omega);intro e g y A z m;exact qV g.iv g.ms
  .exact j _ d f
 |stop nm=>
  refine Oh (sp:=lj) (P:=RG 375 σ) rfl (by simp) rfl rfl ?_ ?_
  .intro p i u;simp only[uS,qC,rF]at i;subst i;exact j _ d f
  .exact l
def sr:mx:={blank:= .nothing,gS:= .gS 81 false,iN:= .ig 82,iE:= .ig 83}
def ZU.q (h:ZU σ) (q:Bool):ZU {σ with jL:=q,mode:=1}:=⟨h.iv.lX rfl rfl rfl rfl rfl rfl rfl,ij _,h.op,h.hd⟩
def abD (w:4*64+8<=n) (t:gN) (d:uT t) (h:ZU σ) (f:Hh σ t) (z:wt σ < 995000) (j:σ.waiting.length < 4000):RG 376 σ (hH false (n+5) 0 t σ):=by
 have g:∀t,uT t->Hh σ t->RG 376 σ (lF (hH false (n+4)) t σ):=by
  intro t d f;have i:=RG.tail (Ux w t d (h.q true) (λy=>f y) z j);exact RG.from (c1:=375) (c2:=0) i ⟨rfl,rfl,rfl,rfl,lf _,λ_ h=> .inl h,λ_ _ h=>h⟩ (ij _) (λ_ h=>h) (nh (jl rfl)) (by omega)
 have m:RG 376 σ ((Pure.pure ():M Unit) σ):=(qV h.iv h.ms).mono (by omega);obtain⟨a,b,B,gM⟩:=t;cases B with
 |lost=>exact absurd rfl d.nl
 |ke s=>
  refine BV (sp:=sr) (P:=RG 376 σ) rfl rfl rfl ?_ ?_
  .exact m
  .exact g _ d f
 |gS s=>
  refine jy d.nl (sp:=sr) (P:=RG 376 σ) rfl rfl ?_;show RG 376 σ (xW 81 false _ σ);rw[O1];exact RG.mono (c:=1) (vY h.iv (jx 0) (M6 h.iv) _ (by omega) h.ms) (by omega)
 |iN s q=>
  refine jy d.nl (sp:=sr) (P:=RG 376 σ) rfl rfl ?_;obtain⟨k,i,o⟩:=M6 h.iv;have r:=EY h.iv o (.dt s) .dt (.inr ⟨s,rfl,rfl⟩) (by omega);show RG 376 σ ((jx 0>>=λk=>oP k (.dt s) .dt>>=λ_=>(do wG λσ=>{σ with jL:=q||!kA s fY};jM 1;return ():M Unit)) σ);rw[M.gy,i];dsimp only;rw[M.gy];revert r;cases oP k (.dt s) .dt σ with
  |ok u σ1=>
   rintro⟨A,e,D,C⟩;have v:ZU σ1:=⟨A,by rw[e.mode];exact h.md,by rw[C.gA];exact h.op,by rw[e.head];exact h.hd⟩;have l:=v.q (q||!kA s fY);exact⟨l.iv,l.ms,⟨e.gQ,e.pQ,e.qO,e.oZ,by show σ1.waiting.length<=_;rw[e.waiting];omega,by show∀x∈σ1.waiting,_;rw[e.waiting];exact λ_ h=> .inl h,e.nm⟩,by show wt σ1<=_;omega⟩
  |stop c p=>exact λh=>h
  |stuck=>exact λh=>h
 |io=>exact jy d.nl (sp:=sr) (P:=RG 376 σ) rfl rfl (g _ d f)
 |start nm=>exact jy d.nl (sp:=sr) (P:=RG 376 σ) rfl rfl (g _ d f)
 |stop nm=>exact jy d.nl (sp:=sr) (P:=RG 376 σ) rfl rfl (g _ d f)
def RU (q:4*64+8<=n) (t:gN) (h:uT t) (g:mL σ) (s:HS σ.mode σ.gA σ.head) (m:BH σ) (f:Hh σ t) (k:wt σ < 995000) (b:σ.waiting.length < 4000):RG 380 σ (hH false (n+5) σ.mode t σ):=by
 rcases s with⟨a,d,l⟩|⟨a,d⟩|⟨a,d⟩|⟨a,d⟩|⟨a,d⟩
 .have i:ZU σ:=⟨g,a,d,l⟩;rcases rA σ.mode 1 with p|p
  .have e:σ.mode=0:=by omega
   rw[e];exact(abD q t h i f k b).mono (by omega)
  .have e:σ.mode=1:=by omega
   rw[e];exact(Ux (n:=n+1) (by omega) t h i f k b).mono (by omega)
 .rw[a];exact(Uy (n:=n+2) (by omega) t h ⟨g,a,d⟩ f (by omega) b).mono (by omega)
 .rw[a];exact(Uz (n:=n+3) (by omega) t h ⟨g,a,d⟩ f (by omega) b).mono (by omega)
 .rw[a];exact(UA (n:=n+4) (by omega) t h ⟨g,a,d⟩ f (by omega) b).mono (by omega)
 .have o:σ.gA.length<=64:=by obtain⟨r,j⟩:=g;exact jN j.wT j.OB
  exact((Hi 64 (n+5) (by omega) t σ ⟨h,⟨g,d,a⟩,f,by omega,b,o⟩).rg (m (.inl (Di a)))).mono (by omega)
def abE (z:4*64+8<=n) (t:gN) (d:uT t) (l:mL σ) (r:σ.mode=5) (y:3<=σ.kept) (k:2<=σ.gA.length) (m:HS σ.kept σ.gA.dropLast σ.head) (p:BH σ) (D:Hh σ t) (A:wt σ < 995000) (o:σ.waiting.length < 4000):RG 380 σ (hH false (n+6) 5 t σ):=by
 have g:MS σ:=⟨.inr (.inl ⟨r,y,k,m⟩),p⟩;have f:BH {σ.pop with mode:=σ.kept}:=λq=>(p (.inr ⟨r,by have q:6<=σ.kept\/σ.kept=5/\6<=σ.kept:=q;omega⟩)).of λ_ _ h=>h;have i:σ.gA≠[]:=by intro e;rw[e]at k;simp at k
 obtain⟨w,C⟩:=EU l k;have u:mL {σ.pop with mode:=σ.kept}:=w.lX rfl rfl rfl rfl rfl rfl rfl;have v:Lm σ {σ.pop with mode:=σ.kept}:=⟨rfl,rfl,rfl,rfl,lf _,λ_ h=> .inl h,λ_ _ h=>h⟩;have j:RG 380 σ (yP σ):=⟨u,⟨.inl m,f⟩,v,jN (nh (jl rfl)) (xJ _ _)⟩;obtain⟨a,b,B,gM⟩:=t;cases B with
 |lost=>exact absurd rfl d.nl
 |ke s=>
  refine BV (sp:=qX) (P:=RG 380 σ) rfl rfl rfl ?_ ?_
  .exact(xy l i g d.sz (by omega)).mono (by omega)
  .exact(xy l i g d.sz (by omega)).mono (by omega)
 |gS s=>exact jy d.nl (sp:=qX) (P:=RG 380 σ) rfl rfl j
 |iN s q=>exact jy d.nl (sp:=qX) (P:=RG 380 σ) rfl rfl j
 |start nm=>exact jy d.nl (sp:=qX) (P:=RG 380 σ) rfl rfl j
 |stop nm=>exact jy d.nl (sp:=qX) (P:=RG 380 σ) rfl rfl j
 |io=>
  refine jy d.nl (sp:=qX) (P:=RG 380 σ) rfl rfl ?_;have x:=RG.tail (RU z ⟨a,b,.io,gM⟩ d (σ:={σ.pop with mode:=σ.kept}) u m f (λh=>by cases h) A o);exact RG.from (c1:=380) (c2:=0) (σ1:={σ.pop with mode:=σ.kept}) x v (ij _) (λ_ h=>h) (nh (jl rfl)) (by omega)
def U4 (c:Nat) (σ:Ab) (r:pG Unit):Prop:=match r with
 | .ok _ σ'=>mL σ'/\σ'.gA≠[]/\σ'.mode=σ.mode/\σ'.kept=σ.kept/\σ'.gQ=σ.gQ/\σ'.pQ=σ.pQ/\σ'.qO=σ.qO/\σ'.oZ=σ.oZ/\σ'.fresh=σ.fresh/\wt σ'<=wt σ+c/\∀i s,iV σ i s->iV σ' i s
 | .stop _ p=>p=σ.gQ
 | .stuck=>False
def U4.bind {c1 c2 : Nat} {m k:M Unit} (h:U4 c1 σ (m σ)) (L:∀a,mL a->a.gA≠[]->wt a<=wt σ+c1->U4 c2 a (k a)) (N:c1+c2<=c):U4 c σ ((m>>=λ_=>k) σ):=by
 rw[M.gy];revert h;cases m σ with
 |ok u σ1=>
  rintro⟨j,l,o,r,g,w,x,y,z,b,d⟩;have K:=L σ1 j l b;dsimp only;revert K;cases k σ1 with
  |ok v σ2=>
   rintro⟨A,C,D,E,F,G,H,I,J,B,f⟩;exact⟨A,C,D.trans o,E.trans r,F.trans g,G.trans w,H.trans x,I.trans y,J.trans z,by omega,λi s q=>f i s (d i s q)⟩
  |stop e p=>exact λh=>BL h g
  |stuck=>exact λh=>h
 |stop e p=>exact λh=>h
 |stuck=>exact λh=>h
def jG.kw {r : pG Unit} {Q : Unit->Ab->Prop} (h:jG c σ r Q) (d:σ.gA≠[]) (k:∀b,Q () b->b.fresh=σ.fresh):U4 c σ r:=by
 cases r with
 |ok a b=>
  obtain⟨g,f,i,j⟩:=h;exact⟨g,f.ne d,f.mode,f.kept,f.gQ,f.pQ,f.qO,f.oZ,k b j,i,f.nm⟩
 |stop e p=>exact h
 |stuck=>exact h
def H9 (h:mL σ) (b:σ.gA≠[]) (j:t.chars.size<=100) (k:wt σ < 999000):jG 200 σ (nG t σ) (λ_ a=>a.fresh=σ.fresh):=by
 unfold nG;split
 .exact⟨h,Fx.refl _,xJ _ _,rfl⟩
 .refine jG.bind (nQ h b (by omega)) (c2:=101) ?_ (by omega);rintro _ g e d l ⟨_,_,f⟩;refine jG.iH (Q:=λ_ a=>a.fresh=σ.fresh) ((oI e (d.ne b) t (by omega)).mono (by omega) ?_);intro _ i _ _ q;exact q.fresh.trans f
def KM (h:mL σ) (b:σ.gA≠[]) (x:Nat×Nat×gz) (f:x.2.2.size<=100) (g:wt σ < 999000):U4 200 σ (sT (hH true (n+1)) (rj x) σ):=by
 have e:hH true (n+1) 6 (rj x)=nG (rj x):=iI true n 6 _ (by intro e;cases e) kD rfl (.ig 102) (by
  unfold rj kg;dsimp only;split<;>rfl)
 have d:=H9 (σ:={σ with iS:=true}) (t:=rj x) (h.lX rfl rfl rfl rfl rfl rfl rfl) b f g;show U4 200 σ ((hH true (n+1) 6 (rj x)>>=λ_=>wG (λσ=>{σ with iS:=false})>>=λ_=>(Pure.pure ():M Unit)) {σ with iS:=true});rw[e,M.gy];revert d;cases nG (rj x) {σ with iS:=true} with
 |ok u σ1=>
  rintro⟨i,a,k,j⟩;exact⟨i.lX rfl rfl rfl rfl rfl rfl rfl,a.ne b,a.mode,a.kept,a.gQ,a.pQ,a.qO,a.oZ,j,k,a.nm⟩
 |stop c p=>exact λh=>h
 |stuck=>exact λh=>h
def Dz:∀(a:List (Nat×Nat×gz)) {σ:Ab},mL σ->σ.gA≠[]->(∀x∈a,x.2.2.size<=100)->wt σ+200*a.length < 999000->U4 (200*a.length) σ (tK (hH true (n+1)) a σ)
 |[],σ,h,hne,_,_=>⟨h,hne,rfl,rfl,rfl,rfl,rfl,rfl,rfl,xJ _ _,λ_ _ h=>h⟩
 |x::a,σ,h,hne,hs,hw=>by
  simp only[qd]at hw;refine U4.bind (m:=sT (hH true (n+1)) (rj x)) (k:=tK (hH true (n+1)) a) (KM h hne x (hs x (pP ..)) (by omega)) (c2:=200*a.length) ?_ (by simp only[qd];omega);intro f b e g;exact Dz a b e (λy d=>hs y (oX _ d)) (by omega)
def DF:∀(a:List (Nat×Nat×gz)) {σ:Ab},mL σ->σ.gA≠[]->(∀x∈a,x.2.2.size<=100)->wt σ+200*a.length < 999000->U4 (200*a.length) σ (tM a σ)
 |[],σ,h,hne,_,_=>⟨h,hne,rfl,rfl,rfl,rfl,rfl,rfl,rfl,xJ _ _,λ_ _ h=>h⟩
 |x::a,σ,h,hne,hs,hw=>by
  simp only[qd]at hw;have i:(rj x).chars.size<=100:=hs x (pP ..);have d:U4 200 σ (j7 (rj x) σ):=((oI h hne (rj x) (by omega)).mono (c':=200) (by omega) (λ_ _ _ _ h=>h)).kw hne (λ_ q=>q.fresh);refine U4.bind (m:=j7 (rj x)) (k:=tM a) d (c2:=200*a.length) ?_ (by simp only[qd];omega);intro g b f j;exact DF a b f (λy e=>hs y (oX _ e)) (by omega)
def Bl (h:mL σ) (a:σ.gA≠[]) (b:∀x∈σ.waiting,x.2.2.size<=100) (d:wt σ+200*σ.waiting.length < 999000):U4 (200*σ.waiting.length) σ (po (hH true (n+1)) σ):=by
 unfold po;split
 .exact Dz σ.waiting h a b d
 .exact DF σ.waiting h a b d
def Em (σ:Ab):Nat:=wt σ+200*σ.waiting.length
structure xM (σ:Ab):Prop where
 iv:mL σ
 ms:MS σ
 wz:∀x∈σ.waiting,x.2.2.size<=100
def RT (c:Nat) (σ:Ab) (r:pG Unit):Prop:=match r with
 | .ok _ σ'=>xM σ'/\σ'.gQ=σ.gQ/\σ'.pQ=σ.pQ/\σ'.qO=σ.qO/\σ'.oZ=σ.oZ/\σ'.waiting.length<=σ.waiting.length+1/\Em σ'<=Em σ+c/\∀i s,iV σ i s->iV σ' i s
 | .stop _ p=>p=σ.gQ
 | .stuck=>False
def RG.rt {r : pG Unit} (h:RG c σ r) (i:∀x∈σ.waiting,x.2.2.size<=100):RT (c+200) σ r:=by
 cases r with
 |ok a σ'=>
  obtain⟨d,f,b,j⟩:=h;refine⟨⟨d,f,λx g=>(b.wz x g).elim (i x) id⟩,b.gQ,b.pQ,b.qO,b.oZ,b.wt,?_,b.nm⟩;unfold Em;have:=b.wt;omega
 |stop e p=>exact h
 |stuck=>exact h
def abF (T:4*64+8<=n) (t:gN) (d:uT t) (g:xM σ) (S:σ.mode=8) (y:σ.kept=7\/σ.kept=11\/σ.kept=12) (r:σ.gA≠[]) (j:Hh σ t) (z:Em σ < 990000) (W:σ.waiting.length < 4000):RT 580 σ (hH false (n+6) 8 t σ):=by
 have o:MS σ:=g.ms;have l:∀t,uT t->Hh σ t->RT 580 σ (mh (hH true (n+5)) (hH false (n+5)) t σ):=by
  intro t d j;have L:=Bl (n:=n+4) g.iv r g.wz (by unfold Em at z;omega);unfold mh;rw[M.gy];revert L;cases po (hH true (n+4+1)) σ with
  |ok u σ1=>
   rintro⟨A,C,Z,D,w,E,F,G,H,B,m⟩;dsimp only;have X:mL {σ1 with waiting:=[],mode:=σ1.kept}:=A.lX rfl rfl rfl rfl rfl rfl rfl;have R:p9 σ1.kept=true:=by rw[D];rcases y with e|e|e<;>(rw[e];rfl)
   have N:=RU T t d (σ:={σ1 with waiting:=[],mode:=σ1.kept}) X (.inr (.inr (.inr (.inr ⟨R,C⟩)))) (λ_=>(o.2 (.inl (by omega))).of m) (λU=>H.trans (j U)) (by show wt σ1 < _;unfold Em at z;omega) (by show(0:Nat) < 4000;omega);have O:=RG.tail N;show RT 580 σ ((j1 (hH false (n+5)) t>>=λ_=>(Pure.pure ():M Unit)) {σ1 with waiting:=[],mode:=σ1.kept});have Q:RG 380 {σ1 with waiting:=[],mode:=σ1.kept} ((j1 (hH false (n+5)) t>>=λ_=>(Pure.pure ():M Unit)) {σ1 with waiting:=[],mode:=σ1.kept}):=O;revert Q;cases(j1 (hH false (n+5)) t>>=λ_=>(Pure.pure ():M Unit)) {σ1 with waiting:=[],mode:=σ1.kept} with
   |ok v σ2=>
    rintro⟨I,J,f,K⟩;have hl:σ2.waiting.length<=0+1:=f.wt;refine⟨⟨I,J,λx k=>(f.wz x k).elim (λh=>by cases h) id⟩,f.gQ.trans w,f.pQ.trans E,f.qO.trans F,f.oZ.trans G,by omega,?_,λi s q=>f.nm i s (m i s q)⟩;have V:wt σ2<=wt σ1+380:=K;unfold Em;omega
   |stop c p=>exact λh=>BL h w
   |stuck=>exact λh=>h
  |stop c p=>exact λh=>h
  |stuck=>exact λh=>h
 obtain⟨a,b,Y,gM⟩:=t;cases Y with
 |lost=>exact absurd rfl d.nl
 |ke s=>
  have KC:RT 580 σ (oK ⟨a,b,.ke s,gM⟩ σ):=by
   rw[DK (by omega)];cases sU s with
   |true=>exact⟨g,rfl,rfl,rfl,rfl,lf _,xJ _ _,λ_ _ h=>h⟩
   |false=>
    refine⟨⟨g.iv.lX rfl rfl rfl rfl rfl rfl rfl,⟨.inr (.inr ⟨S,y,r⟩),o.2⟩,?_⟩,rfl,rfl,rfl,rfl,by show(σ.waiting++[(a,b,s)]).length<=_;simp,?_,λ_ _ h=>h⟩
    .intro x k;rcases List.mem_append.1 (show x∈σ.waiting++[(a,b,s)]from k)with k|k
     .exact g.wz x k
     .rw[List.mem_singleton.1 k];exact d.sz
    .show wt σ+200*(σ.waiting++[(a,b,s)]).length<=_;unfold Em;simp;omega
  exact BV (sp:=kQ) (P:=RT 580 σ) rfl rfl rfl KC KC
 |gS s=>exact jy d.nl (sp:=kQ) (P:=RT 580 σ) rfl rfl (l _ d j)
 |iN s q=>exact jy d.nl (sp:=kQ) (P:=RT 580 σ) rfl rfl (l _ d j)
 |start nm=>exact jy d.nl (sp:=kQ) (P:=RT 580 σ) rfl rfl (l _ d j)
 |stop nm=>exact jy d.nl (sp:=kQ) (P:=RT 580 σ) rfl rfl (l _ d j)
 |io=>exact jy d.nl (sp:=kQ) (P:=RT 580 σ) rfl rfl (l _ d j)
abbrev uI:Nat:=300
def acX (t:gN) (i:uT t) (g:xM σ) (f:Hh σ t) (j:Em σ < 990000) (a:σ.waiting.length < 4000):RT 580 σ (hH false uI σ.mode t σ):=by
 have l:wt σ < 990000:=by unfold Em at j;omega
 rcases g.ms.1 with h|⟨b,d,e,k⟩|⟨b,d,e⟩
 .exact(RU (n:=295) (by omega) t i g.iv h g.ms.2 f (by omega) a).rt g.wz
 .rw[b];exact(abE (n:=294) (by omega) t i g.iv b d e k g.ms.2 f (by omega) a).rt g.wz
 .rw[b];exact abF (n:=294) (by omega) t i g b d e f j a
def RTk (σ:Ab) (t:gN) (r:pG Unit):Prop:=match r with
 | .ok _ σ'=>xM σ'/\σ'.pQ=σ.pQ/\σ'.qO=σ.qO/\σ'.oZ=σ.oZ/\σ'.waiting.length<=σ.waiting.length+1/\Em σ'<=Em σ+580/\∀i s,iV σ i s->iV σ' i s
 | .stop _ p=>p=t.a
 | .stuck=>False
def abX (t:gN) (C:t.k= .lost\/uT t) (g:xM σ) (x:Hh σ t) (A:Em σ < 990000) (f:σ.waiting.length < 4000):RTk σ t (uD (hH false uI) t σ):=by
 have d:t.k≠ .lost->RTk σ t ((if σ.behind&&kA t.chars yz then .ok () {σ with behind:=false,gQ:=t.a} else j1 (hH false uI) t {σ with behind:=false,gQ:=t.a}):pG Unit):=by
  intro y;have i:uT t:=C.resolve_left y;have j:xM {σ with behind:=false,gQ:=t.a}:=⟨g.iv.lX rfl rfl rfl rfl rfl rfl rfl,g.ms,g.wz⟩;split
  .exact⟨j,rfl,rfl,rfl,lf _,xJ _ _,λ_ _ h=>h⟩
  .have h:=acX t i j (λz=>x z) A f;show RTk σ t (hH false uI σ.mode t {σ with behind:=false,gQ:=t.a});revert h;cases hH false uI ({σ with behind:=false,gQ:=t.a}:Ab).mode t {σ with behind:=false,gQ:=t.a} with
   |ok u σ'=>rintro⟨k,D,l,m,o,r,v,w⟩;exact⟨k,l,m,o,r,v,w⟩
   |stop c p=>exact λh=>h
   |stuck=>exact λh=>h
 obtain⟨a,b,B,gM⟩:=t;cases B with
 |lost=>exact⟨g,rfl,rfl,rfl,lf _,xJ _ _,λ_ _ h=>h⟩
 |ke s=>exact d (by intro e;cases e)
 |gS s=>exact d (by intro e;cases e)
 |iN s q=>exact d (by intro e;cases e)
 |start nm=>exact d (by intro e;cases e)
 |stop nm=>exact d (by intro e;cases e)
 |io=>exact d (by intro e;cases e)
def NK:Bj->Prop
 | .el e=>e.name.size<=5000/\e.gV.length<=16/\∀p∈e.gV,p.1.size<=5000/\p.2.size<=66000
 | .tx _=>True
 | .cm s=>s.size<=5000
 | .dt s=>s.size<=5000
class XL where
 l:List Nat
variable [XL]
def NG (σ:Ab):Prop:=σ.oZ<=16/\(∀n∈σ.nodes,NK n)/\∀i e,σ.ib i=some e->e.je=none->i=0\/i∈XL.l
structure TG (t:gN):Prop where
 name:t.name.size<=5000
 len:t.js.length<=16
 gM:∀p∈t.js,p.1.size<=5000/\p.2.size<=66000
 cm:∀s,t.k= .gS s->s.size<=5000
 dt:∀n q,t.k= .iN n q->n.size<=5000
def vr {α:Type} (r:pG α):Prop:=match r with
 | .ok _ σ'=>NG σ'
 | .stop e _=>e≠0
 | .stuck=>True
def Kp {α:Type} (m:M α):Prop:=∀σ,NG σ->vr (m σ)
def Kp.pure {α:Type} (a:α):Kp (Pure.pure a:M α):=λ_ h=>h
def Kp.stuck {α:Type}:Kp (stuck:M α):=λ_ _=>trivial
def Kp.bind {α i:Type} {m:M α} {f:α->M i} (h:Kp m) (g:∀a,Kp (f a)):Kp (m>>=f):=by
 intro σ d;rw[M.gy];have b:=h σ d;revert b;cases m σ with
 |ok a σ'=>intro b;exact g a σ' b
 |stop e p=>simp[vr]
 |stuck=>simp[vr]
theorem Kp.ite {α:Type} {c:Prop} [Decidable c] {a b:M α} (d:Kp a) (e:Kp b):Kp (if c then a else b):=by grind
def Kp.at {α:Type} {m:M α} {σ:Ab} (h:Kp m) (a:NG σ):vr (m σ):=h σ a
def NG.lX {σ σ':Ab} (h:NG σ) (e1:σ'.nodes=σ.nodes) (e2:σ'.oZ=σ.oZ):NG σ':=⟨by rw[e2];exact h.1,by rw[e1];exact h.2.1,λi e a=>h.2.2 i e (by unfold Ab.ib at a|-;rw[e1]at a;exact a)⟩
def Kp.wG {f:Ab->Ab} (e1:∀σ,(f σ).nodes=σ.nodes) (e2:∀σ,(f σ).oZ=σ.oZ):Kp (wG f):=λσ h=>h.lX (e1 σ) (e2 σ)
theorem Kp.same {α:Type} {m:M α} (h:∀σ a b,m σ= .ok a b->b=σ) (g:∀σ c p,m σ≠ .stop c p):Kp m:=by
 intro σ i;have d:=h σ;have f:=g σ;revert d f;cases m σ with
 |ok a b=>grind[vr]
 |stop e p=>simp
 |stuck=>simp[vr]
def NG.el {σ:Ab} (h:NG σ) {i:Nat} {e:zp} (a:σ.ib i=some e):NK (.el e):=h.2.1 _ (tu (Ab.jo a))
def NG.aeU {σ:Ab} (h:NG σ) {i:Nat} {n:Bj} (k:NK n) (l:∀e,n= .el e->e.je=none->i=0\/i∈XL.l):NG {σ with nodes:=σ.nodes.set i n}:=⟨h.1,λm g=>by
 rcases List.mem_or_eq_of_mem_set g with b|b
 .exact h.2.1 m b
 .rw[b];exact k,λj e a=>by
 have f:=h.2.2 j e;unfold Ab.ib at a f;dsimp only at a
 by_cases e1:i=j
 .subst e1
  by_cases d:i < σ.nodes.length
  .rw[List.getElem?_set_self d]at a;cases n with
   |el e'=>cases a;exact l _ rfl
   |_=>cases a
  .rw[ZT (by simp;omega)]at a;cases a
 .rw[List.getElem?_set_ne e1]at a;exact f a⟩
def NG.set {σ:Ab} (h:NG σ) {i:Nat} {e:zp} (b:NK (.el e)) (d:e.je=none->i=0\/i∈XL.l):NG (σ.ic i e):=h.aeU b (λf a=>by cases a;exact d)
def NG.add {σ:Ab} (h:NG σ) {n:Bj} (g:NK n) (i:∀e,n= .el e->σ.nodes.length∈XL.l):NG (σ.add n):=⟨h.1,λm f=>by
 rcases List.mem_append.1 f with b|b
 .exact h.2.1 m b
 .rw[List.mem_singleton.1 b];exact g,λj e a k=>by
 by_cases d:j < σ.nodes.length
 .rw[Ab.tF d]at a;exact h.2.2 j e a k
 .by_cases e1:j=σ.nodes.length
  .subst e1;rw[Ab.ui]at a;cases n with
   |el e'=>exact .inr (i _ rfl)
   |_=>cases a
  .have:=Ab.il a;simp[Ab.add]at this;omega⟩
def NG.pn {σ:Ab} (h:NG σ) {n:Bj} (a:NK n) (b:Bool) (d:∀e,n= .el e->σ.nodes.length∈XL.l):NG (σ.pn n b):=(h.add a d).lX rfl rfl
omit [XL] in
theorem NK.kids {e e':zp} (h:NK (.el e)) (a:e'.name=e.name) (b:e'.gV=e.gV):NK (.el e'):=by
 grind[NK]
def vr.ok {α:Type} {a:α} {σ:Ab} (h:NG σ):vr (.ok a σ):=h
def Kp.fn {α:Type} {f:Ab->pG α} (h:∀σ,NG σ->vr (f σ)):Kp (α:=α) f:=h
attribute [simp] Kp.pure Kp.stuck Kp.bind Kp.ite
@[simp] def ZG {f:Ab->Ab} (h:∀σ,(f σ).nodes=σ.nodes/\(f σ).oZ=σ.oZ):Kp (wG f):=Kp.wG (λσ=>(h σ).1) (λσ=>(h σ).2)
def BO (rec:Nat->gN->M Unit):Prop:=∀m t,TG t->Kp (rec m t)
omit [XL] in
@[simp] def Ua (σ:Ab):σ.mD.nodes=σ.nodes/\σ.mD.oZ=σ.oZ:=⟨rfl,rfl⟩
def vr.st {α:Type} {n p:Nat}:vr (α:=α) (.stop (n+1) p):=Nat.succ_ne_zero n
omit [XL] in
@[simp] def ZY (σ:Ab) (p:gz->Bool):(σ.wY p).nodes=σ.nodes/\(σ.wY p).oZ=σ.oZ:=⟨rfl,rfl⟩
@[simp] def abq (pl:Nat×Nat) (j:Nat):Kp (mN pl j):=by
 intro σ h;unfold mN;split
 .rename_i b e a d;split
  .refine vr.ok (NG.set (NG.set h ?_ ?_) ?_ ?_)
   .exact NK.kids (h.el a) rfl rfl
   .exact h.2.2 _ b a
   .exact NK.kids (h.el d) rfl rfl
   .exact λh=>by cases h
  .trivial
 .trivial
@[simp] def abt (pl:Nat×Nat) (k:Nd):Kp (zB pl k):=by
 intro σ h;unfold zB;split
 .rename_i b a;split
  .exact vr.ok (NG.set h (NK.kids (h.el a) rfl rfl) (h.2.2 _ b a))
  .trivial
 .trivial
@[simp] def adN (pl:Nat×Nat) (s:gz):Kp (uL pl s):=by
 intro σ h;unfold uL;split
 .rename_i b a;split
  .split
   .split
    .split
     .exact vr.ok (NG.aeU h (n:= .tx _) trivial nofun)
     .trivial
    .trivial
   .exact vr.ok (NG.set (NG.add h (n:= .tx _) trivial nofun) (NK.kids (h.el a) rfl rfl) (h.2.2 _ b a))
  .trivial
 .trivial
@[simp] def NZ (x:jg):Kp (xi x):=by
 unfold xi;refine Kp.fn λσ h=>?_
 (repeat' split)<;>first|exact h|exact trivial|exact vr.st|exact vr.ok (h.lX rfl rfl)|exact Kp.at (by(repeat' first|with_reducible refine Kp.bind ?_ λ_=>?_|with_reducible refine Kp.ite ?_ ?_)<;>simp[*]) h
@[simp] def XS (p b:gz->Bool):Kp (ni p b):=by
 unfold ni;refine Kp.fn λσ h=>?_
 (repeat' split)<;>first|exact h|exact trivial|exact vr.st|exact vr.ok (h.lX rfl rfl)|exact Kp.at (by(repeat' first|with_reducible refine Kp.bind ?_ λ_=>?_|with_reducible refine Kp.ite ?_ ?_)<;>simp[*]) h
@[simp] def Vv:Kp (oD):=by
 simp[oD]
@[simp] def aeO (p:gz->Bool):Kp (pZ p):=by refine Kp.wG (λσ=>?_) (λσ=>?_)<;>(unfold Ab.Jr;split<;>rfl)
@[simp] def Ic (p:gz->Bool):Kp (uE p):=ZG λ_=>⟨rfl,rfl⟩
@[simp] def A7 (m:Nat):Kp (jM m):=ZG λ_=>⟨rfl,rfl⟩
@[simp] def Jh (x:jg):Kp (kq x):=by
 unfold kq;refine Kp.fn λσ h=>?_
 (repeat' split)<;>first|exact h|exact trivial|exact vr.st|exact vr.ok (h.lX rfl rfl)|exact Kp.at (by(repeat' first|with_reducible refine Kp.bind ?_ λ_=>?_|with_reducible refine Kp.ite ?_ ?_)<;>simp[*]) h
@[simp] def OK (x:jg):Kp (kH x):=by
 unfold kH;refine Kp.fn λσ h=>?_
 (repeat' split)<;>first|exact h|exact trivial|exact vr.st|exact vr.ok (h.lX rfl rfl)|exact Kp.at (by(repeat' first|with_reducible refine Kp.bind ?_ λ_=>?_|with_reducible refine Kp.ite ?_ ?_)<;>simp[*]) h
@[simp] def aba (x y:jg):Kp (zA x y):=by
 unfold zA;refine Kp.fn λσ h=>?_
 (repeat' split)<;>first|exact h|exact trivial|exact vr.st|exact vr.ok (h.lX rfl rfl)|exact Kp.at (by(repeat' first|with_reducible refine Kp.bind ?_ λ_=>?_|with_reducible refine Kp.ite ?_ ?_)<;>simp[*]) h
@[simp] def TI (x y:jg):Kp (ri x y):=by
 unfold ri;refine Kp.fn λσ h=>?_
 (repeat' split)<;>first|exact h|exact trivial|exact vr.st|exact vr.ok (h.lX rfl rfl)|exact Kp.at (by(repeat' first|with_reducible refine Kp.bind ?_ λ_=>?_|with_reducible refine Kp.ite ?_ ?_)<;>simp[*]) h
@[simp] def T6 (i:Nat):∀L:kY,(∀p∈L,p.1.size<=5000/\p.2.size<=66000)->Kp (qm i L)
 |[],_=>Kp.pure _
 |a::r,hL=>by
  intro σ h;have g:=T6 i r (λp d=>hL p (oX _ d));unfold qm;split
  .trivial
  .rename_i e f;split
   .exact g σ h
   .split
    .exact(by decide:(7:Nat)≠0)
    .rename_i l;refine g _ (h.set ?_ (h.2.2 _ e f));obtain⟨j,m,k⟩:=h.el f;have:=h.1;refine⟨j,by simp;omega,λp d=>?_⟩;rcases List.mem_append.1 d with b|b
     .exact k p b
     .rw[List.mem_singleton.1 b];exact hL a (pP ..)
@[simp] def ae7 (i:Nat) (t:gN) (a:TG t):Kp (wh i t):=by
 intro σ h;unfold wh;split
 .exact T6 i _ a.gM σ h
 .trivial
@[simp] theorem aac (n:Nat):Kp (FD n):=by
 unfold FD;refine Kp.fn λσ h=>?_
 grind[vr]
@[simp] def OL (n:Nat):Kp (qI n):=by intro σ h;exact TI _ _ σ h
@[simp] def adO (pl:Nat×Nat) (k:Nd):Kp (EX pl k):=by
 cases k with
 |el j=>simp[EX]
 |tx j=>simp[EX]
 |cm j=>simp[EX]
 |dt j=>simp[EX]
@[simp] theorem abf (n:Nat):Kp (Gf n):=by
 unfold Gf;refine Kp.fn λσ h=>?_
 grind[vr]
@[simp] def Hc (rec:Nat->gN->M Unit) (t:gN) (a:BO rec) (b:TG t):Kp (j1 rec t):=λσ h=>a _ _ b σ h
@[simp] def Qt (pl:Nat×Nat) (nd:Bj) (k:Nat->Nd) (a:NK nd) (b:∀e,nd= .el e->False):Kp (oP pl nd k):=λσ h=>abt _ _ _ (h.add a λe h=>(b e h).elim)
@[simp] def NT:Kp (px):=by intro σ h;exact Jh _ σ h
@[simp] def SY:Kp (pushHead):=by intro σ h;exact NZ _ σ h
@[simp] def aaj (rec:Nat->gN->M Unit) (t:gN) (a:BO rec) (b:TG t):Kp (tA rec t):=Kp.bind SY λ_=>Kp.bind (a _ _ b) λ_=>Kp.bind NT λ_=>Kp.pure _
@[simp] def ad4 (of:gz) (pl:Bool):Kp (MR of pl):=ZG λ_=>⟨rfl,rfl⟩
@[simp] def ad6:Kp (yF):=by intro σ h;unfold yF;split;exact h;exact Vv σ h
@[simp] def Yj (rec:Nat->gN->M Unit) (t:gN) (a:BO rec) (b:TG t):Kp (sT rec t):=Kp.bind (Kp.wG (λ_=>rfl) (λ_=>rfl)) λ_=>Kp.bind (a _ _ b) λ_=>Kp.bind (Kp.wG (λ_=>rfl) (λ_=>rfl)) λ_=>Kp.pure _
@[simp] def adv (t:gN):Kp (oK t):=by
 unfold oK;split
 .refine Kp.ite (Kp.pure _) (Kp.fn λσ h=>?_);split
  .exact vr.ok (h.lX rfl rfl)
  .trivial
 simp
omit [XL] in
def aap (x:Nat×Nat×gz):TG (rj x):=⟨iP _,iP _,(λ_ a=>by cases a),(λ_ h=>by cases h),(λ_ _ h=>by cases h)⟩
@[simp] def FU (rec:Nat->gN->M Unit) (a:BO rec):∀b,Kp (tK rec b)
 |[]=>Kp.pure _
 |x::r=>Kp.bind (Yj rec _ a (aap x)) λ_=>FU rec a r
@[simp] def aeQ:Kp (xC):=ZG λ_=>⟨rfl,rfl⟩
def Mr:Ru->Bool
 | .nK _ name _=>decide (name.size<=5000)
 | .Nu r=>Mr r
 |_=>true
def spG (sp:mx):Bool:=Mr sp.blank&&Mr sp.ke&&Mr sp.gS&&Mr sp.iN&&Mr sp.io&&Mr sp.jU&&Mr sp.ku&&Mr sp.iE&&((sp.start.getD []).all λp=>Mr p.2)&&((sp.stop.getD []).all λp=>Mr p.2)
omit [XL] in
def abR:∀a∈yn,spG a=true:=List.all_eq_true.1 (by rfl)
omit [XL] in
theorem Ui:∀(R:List (List gz×Ru)) (k:gz) (r:Ru),(R.all λp=>Mr p.2)=true->pg R k=some r->Mr r=true
 |[],_,_,_,h=>by cases h
 |p::R,k,r,hR,h=>by
  rw[List.all_cons,rR]at hR;unfold pg at h;split at h
  .grind
  .exact Ui R k r hR.2 h
omit [XL] in
def sS:∀L:List Ru,(∀r∈L,Mr r=true)->Mr (kC L)=true
 |[],_=>rfl
 |x::r,h=>by
  have a:=h x (pP ..);cases x with
  |nil=>exact sS r (λy b=>h y (oX _ b))
  |_=>exact a
omit [XL] in
def Uh (R:Option (List (List gz×Ru))) (k:gz) (h:((R.getD []).all λp=>Mr p.2)=true):Mr (DR R k)=true:=by
 cases R with
 |none=>rfl
 |some R=>
  show Mr ((pg R k).getD .nil)=true;cases hq:pg R k with
  |none=>rfl
  |some r=>exact Ui R k r h hq
omit [XL] in
theorem Zo {sp:mx} (h:spG sp=true) (t:gN):Mr (kg sp t)=true:=by
 unfold spG at h;simp only[rR]at h;have⟨⟨⟨⟨⟨⟨⟨⟨⟨h1,h2⟩,h3⟩,h4⟩,h5⟩,h6⟩,h7⟩,h8⟩,h9⟩,h10⟩:=h;unfold kg;split
 .split
  .exact sS _ (by grind)
  .exact sS _ (by grind)
 .exact sS _ (by grind)
 .exact sS _ (by grind)
 .exact sS _ (by simp[Uh _ _ h9,h6,h8])
 .exact sS _ (by simp[Uh _ _ h10,h7,h8])
 .exact sS _ (by grind)
 .exact sS _ (by grind)
@[simp] def BX (a:M (Nat×Nat)) (t:gN) (b:Kp a) (e:TG t):Kp (nW a t):=by
 unfold nW;split
 .rename_i s d;exact Kp.bind b λ_=>Kp.bind (Qt _ _ _ (e.cm s d) nofun) λ_=>Kp.pure _
 .exact Kp.pure _
@[simp] def nh0:(∀(x:jg),Kp (aet x)/\Kp (Aq x)/\Kp (BP x)/\Kp (lu x))/\Kp yh/\Kp I7/\Kp yL/\Kp tH/\Kp AV/\Kp yM/\Kp Iu/\Kp x8/\Kp mM/\Kp vF/\(∀(x y:jg),Kp (qw x y)/\Kp (qi x y))/\(∀(s:gz),Kp (uH s))/\(∀(f:Nat),Kp (ahead f))/\(∀(a:Nat->gN->M Unit) (t:gN) (e:BO a) (b:TG t),Kp (lF a t)/\Kp (yN a t)/\Kp (vU a t)/\Kp (o9 a t))/\(∀(t:gN) (b:TG t),Kp (oH t)/\Kp (ql t))/\(∀(t:gN),Kp (xY t))/\(∀(d:List gz) (m:Nat),Kp (rT d m)):=by
 (repeat' first|with_reducible intro _|with_reducible apply And.intro)<;>delta aet yh Aq BP qw qi lu I7 uH ahead lF oH ql yL yN xY tH AV yM Iu vU o9 rT x8 mM vF<;>(repeat' first|with_reducible refine Kp.bind ?_ λ_=>?_|with_reducible refine Kp.ite ?_ ?_)<;>first|(simp[*];done)|(refine Kp.fn λσ h=>?_;(repeat' split)<;>first|exact h|exact trivial|exact vr.st|exact vr.ok (h.lX rfl rfl)|exact Kp.at (by(repeat' first|with_reducible refine Kp.bind ?_ λ_=>?_|with_reducible refine Kp.ite ?_ ?_)<;>simp[*]) h)
@[simp] def GR (i:Nat):Kp (jx i):=Kp.same (λ_ _ _ h=>pt h) (λσ c p=>qM _ σ c p)
@[simp] def adj (i:Nat):Kp (mB i):=Kp.same (λ_ _ _ h=>Bq h) (λσ c p=>zy _ σ c p)
@[simp] def Z0:Kp (j4):=Kp.same (λ_ _ _ h=>oG h) (λσ c p=>wg σ c p)
@[simp] def afh (i:Nat):Kp (MK i):=by
 intro σ h;unfold MK;dsimp only;split
 .refine Kp.at ?_ h;simp[*]
 .refine Kp.at ?_ h;simp[*]
@[simp] def T7 (d:Nat):∀a,Kp (ya d a)
 |[]=>Kp.pure _
 |k::r=>Kp.bind (GR _) λ_=>Kp.bind (adO _ _) λ_=>T7 d r
@[simp] def Sy (b d:Nat):Kp (handOver b d):=by
 intro σ h;unfold handOver;split
 .trivial
 .split
  .trivial
  .refine Kp.at (Kp.bind (T7 _ _) λ_=>Kp.fn λg a=>?_) h;split
   .rename_i f e;exact vr.ok (NG.set a (NK.kids (a.el e) rfl rfl) (a.2.2 _ f e))
   .trivial
@[simp] def O5:Kp (BZ):=by
 simp[BZ]
@[simp] def Xg (t:gN) (b:TG t):Kp (oy t):=by
 unfold oy;split
 .rename_i n q a;exact Kp.bind O5 λ_=>Kp.bind (Qt _ _ _ (b.dt n q a) nofun) λ_=>by simp
 .simp
def ZV {α:Type} (Y:α->List Nat) (r:pG α):Prop:=match r with
 | .ok a σ'=>@NG ⟨Y a⟩ σ'
 | .stop e _=>e≠0
 | .stuck=>True
omit [XL] in
def ZV.ok {α:Type} {Y:α->List Nat} {a:α} {σ:Ab} (h:@NG ⟨Y a⟩ σ):ZV Y (.ok a σ):=h
def Kj {α:Type} (X:List Nat) (Y:α->List Nat) (m:M α):Prop:=∀σ,@NG ⟨X⟩ σ->ZV Y (m σ)
omit [XL] in
def Kj.bind {α g:Type} {X:List Nat} {Y:α->List Nat} {Z:g->List Nat} {m:M α} {f:α->M g} (h:Kj X Y m) (i:∀a,Kj (Y a) Z (f a)):Kj X Z (m>>=f):=by
 intro σ d;rw[M.gy];have b:=h σ d;revert b;cases m σ with
 |ok a σ'=>intro b;exact i a σ' b
 |stop e p=>exact λh=>h
 |stuck=>exact λ_=>trivial
def Kp.k {α:Type} {m:M α} (h:Kp m):Kj XL.l (λ_=>XL.l) m:=λσ a=>by
 have b:=h σ a;cases hm:m σ<;>rw[hm]at b<;>exact b
omit [XL] in
def Kp.j {α:Type} {X:List Nat} {m:M α} (h:∀[XL],Kp m):Kj X (λ_=>X) m:=@Kp.k ⟨X⟩ _ _ (@h ⟨X⟩)
def Kj.p {α:Type} {m:M α} (h:Kj XL.l (λ_=>XL.l) m):Kp m:=λσ a=>by
 have b:=h σ a;cases hm:m σ<;>rw[hm]at b<;>exact b
omit [XL] in
def NG.mono {X Y:List Nat} {σ:Ab} (h:@NG ⟨X⟩ σ) (d:∀i∈X,i∈Y):@NG ⟨Y⟩ σ:=⟨h.1,h.2.1,λi e a b=>(h.2.2 i e a b).imp id (d i)⟩
omit [XL] in
def NG.cons {X:List Nat} {σ:Ab} (h:@NG ⟨X⟩ σ) (j:Nat):@NG ⟨j::X⟩ σ:=h.mono λ_ a=>oX _ a
omit [XL] in
def DX {X Z:List Nat} (pl:Nat×Nat) (j:Nat) (k:∀i∈Z,i=j\/i∈X):Kj Z (λ_=>X) (mN pl j):=by
 intro σ h;have b:=@abq ⟨j::X⟩ pl j σ (h.mono λi l=>List.mem_cons.2 (k i l));revert b;unfold mN;split
 .rename_i m o p g;split
  .rename_i q;intro b;refine ZV.ok ⟨b.1,b.2.1,λi e d f=>?_⟩;rcases b.2.2 i e d f with a|a
   .exact .inl a
   .rcases List.mem_cons.1 a with a|a
    .subst a;rw[Ab.iX (by have:=Ab.il g;simpa [Ab.ic]using this)]at d;cases d;cases f
    .exact .inr a
  .exact λh=>h
 .exact λh=>h
omit [XL] in
def Uo {X:List Nat} (a:gz) (b:a.size<=5000):Kj X (λj=>j::X) (F8 a):=λσ h=>ZV.ok <|@NG.add ⟨_⟩ _ (h.cons _) (.el ⟨a,[],none,[]⟩) ⟨b,iP _,λ_ d=>by cases d⟩ λ_ _=>pP ..
omit [XL] in
def SE {X:List Nat} (t:gN) (a:TG t):Kj X (λj=>j::X) (pL t):=by
 intro σ h;unfold pL;split
 .exact ZV.ok <|@NG.pn ⟨_⟩ _ (h.cons _) (.el ⟨t.name,t.js,none,[]⟩) ⟨a.name,a.len,a.gM⟩ _ λ_ _=>pP ..
 .trivial
omit [XL] in
def P7 {X:List Nat} (a:gz) (own:Bool) (gM:kY) (b:a.size<=5000) (e:gM.length<=16) (d:∀p∈gM,p.1.size<=5000/\p.2.size<=66000):Kj X (λj=>j::X) (sW a own gM):=by
 intro σ h;unfold sW;split
 .split
  .exact ZV.ok <|@NG.pn ⟨_⟩ _ (h.cons _) (.el ⟨a,gM,none,[]⟩) ⟨b,e,d⟩ _ λ_ _=>pP ..
  .trivial
 .exact Uo a b σ h
omit [XL] in
def BT {X:List Nat} (i:Nat):Kj X (λj=>j::X) (kP i):=by
 intro σ h;unfold kP;split
 .rename_i e a;split
  .trivial
  .exact ZV.ok <|@NG.add ⟨_⟩ _ (h.cons _) (.el ⟨e.name,e.gV,none,[]⟩) (NK.kids (@NG.el ⟨_⟩ _ h _ _ a) rfl rfl) λ_ _=>pP ..
 .trivial
omit [XL] in
def Mz {X:List Nat} (j:Nat):Kj X (λ_=>j::X) (mq j):=by
 intro σ h;unfold mq;split
 .trivial
 .rename_i e d;split
  .exact ZV.ok (h.cons j)
  .split
   .trivial
   .rename_i b a;split
    .refine ZV.ok (@NG.set ⟨_⟩ _ (@NG.set ⟨_⟩ _ (h.cons j) _ _ ?_ ?_) _ _ ?_ ?_)
     .exact NK.kids (@NG.el ⟨_⟩ _ h _ _ a) rfl rfl
     .exact(h.cons j).2.2 _ b a
     .exact NK.kids (@NG.el ⟨_⟩ _ h _ _ d) rfl rfl
     .exact λ_=> .inr (pP ..)
    .trivial
@[simp] def Jk (own:Bool) (gM:kY) (d:gM.length<=16) (a:∀p∈gM,p.1.size<=5000/\p.2.size<=66000):Kp (rL own gM):=
 Kj.p (Kj.bind (P7 _ _ _ (by decide) d a) λj=>Kj.bind (Kp.j O5) λe=>Kj.bind (DX e j λi b=>List.mem_cons.1 b) λ_=>Kp.j (Kp.bind (NZ _) λ_=>Kp.bind (A7 _) λ_=>Kp.pure _))
@[simp] def acH (t:gN) (a:TG t):Kp (yo t):=Kp.bind (Jk _ _ a.len a.gM) λ_=>Kp.pure _
@[simp] def acA:Kp (rL false []):=Jk _ _ (by decide) (λ_ a=>by cases a)
@[simp] theorem Sh:Kp sQ:=by
 unfold sQ;refine Kp.fn λσ h=>?_;split
 all_goals grind[vr,jx]
@[simp] def nh1:(∀(i:Nat),Kp (placeFor i))/\Kp zk/\Kp AU/\Kp yP/\Kp my/\Kp qN/\Kp EA/\Kp jk/\(∀(a:Nat->gN->M Unit) (t:gN) (b:BO a) (d:TG t),Kp (pa a t))/\(∀(t:gN),Kp (x7 t)):=by
 (repeat' first|with_reducible intro _|with_reducible apply And.intro)<;>delta placeFor zk pa AU yP x7 my qN EA jk<;>(repeat' first|with_reducible refine Kp.bind ?_ λ_=>?_|with_reducible refine Kp.ite ?_ ?_)<;>first|(simp[*];done)|(refine Kp.fn λσ h=>?_;(repeat' split)<;>first|exact h|exact trivial|exact vr.st|exact vr.ok (h.lX rfl rfl)|exact Kp.at (by simp) h)
@[simp] def Ql:Kp (mV):=by
 unfold mV;refine Kp.fn λσ h=>?_
 (repeat' split)<;>first|exact h|exact trivial|exact vr.st|exact vr.ok (h.lX rfl rfl)|exact Kp.at (by simp) h
omit [XL] in
def AY {X:List Nat} (j:Nat):Kj (j::X) (λ_=>X) (mi j):=Kj.bind (Kp.j Ql) λb=>Kj.bind (DX b j λi a=>List.mem_cons.1 a) λ_=>Kp.j (Kp.bind (NZ _) λ_=>Kp.pure _)
@[simp] def um (a:gz) (b:a.size<=5000):Kp (km a):=Kj.p (Kj.bind (Uo a b) λj=>Kj.bind (AY j) λ_=>Kp.j (Kp.pure _))
@[simp] def PI (t:gN) (a:TG t):Kp (jt t):=Kj.p (Kj.bind (SE t a) λj=>Kj.bind (AY j) λ_=>Kp.j (Kp.pure _))
@[simp] def Nw (t:gN):Kp (j7 t):=by
 simp[j7]
@[simp] def Zk:∀k n,Kp (Jv k n)
 |0,_=>Kp.pure _
 |k+1,n=>Kj.p (Kj.bind (Kp.j (aac _)) λi=>Kj.bind (BT i) λj=>Kj.bind (AY j) λ_=>Kp.k (Kp.bind (OL _) λ_=>Zk k (n+1)))
@[simp] def Z1:Kp lH:=λσ h=>Zk _ _ σ h
@[simp] def Jl (own:Bool) (gM:kY) (b:gM.length<=16) (a:∀p∈gM,p.1.size<=5000/\p.2.size<=66000):Kp (rM own gM):=
 Kj.p (Kj.bind (P7 _ _ _ (by decide) b a) λj=>Kj.bind (Kp.j (ZG λ_=>⟨rfl,rfl⟩)) λ_=>Kj.bind (AY j) λ_=>Kp.j (Kp.bind (A7 _) λ_=>Kp.pure _))
@[simp] def acI (t:gN) (a:TG t):Kp (yp t):=Kp.bind (Jl _ _ a.len a.gM) λ_=>Kp.pure _
@[simp] def acB:Kp (rM false []):=Jl _ _ (by decide) (λ_ a=>by cases a)
@[simp] def aaR:Kp (km gE):=um _ (by decide)
@[simp] def ad8:Kp (km mZ):=um _ (by decide)
@[simp] def ado:Kp (km j3):=um _ (by decide)
@[simp] def N9 (t:gN) (a:TG t):Kp (mW t):=by
 unfold mW
 (repeat' first|with_reducible refine Kp.bind ?_ λ_=>?_|with_reducible refine Kp.ite ?_ ?_)<;>simp[*]
@[simp] def F1:∀a,Kp (tM a)
 |[]=>Kp.pure _
 |x::r=>Kp.bind (Nw _) λ_=>F1 r
@[simp] def MO (rec:Nat->gN->M Unit) (a:BO rec):Kp (po rec):=by
 intro σ h;unfold po;split
 .exact FU rec a _ σ h
 .exact F1 _ σ h
@[simp] def Xe (a rec:Nat->gN->M Unit) (t:gN) (b:BO a) (d:BO rec) (e:TG t):Kp (mh a rec t):=
 Kp.bind (MO a b) λ_=>Kp.bind (Kp.wG (λ_=>rfl) (λ_=>rfl)) λ_=>Kp.bind (Hc rec t d e) λ_=>Kp.pure _
@[simp] def aat (b:Nat) (own:Bool) (t:gN) (a:TG t):Kp (xW b own t):=by
 unfold xW;exact Kp.ite (BX _ _ Ql a) (Kp.ite (BX _ _ Sh a) (Kp.ite (BX _ _ (GR _) a) Kp.stuck))
omit [XL] in
theorem Fb (f b:Nat):∀(X:List Nat) n c last a,Kj (last::X) (λr=>r.1::X) (mj f b n c last a)
 |X,0,_,_,_=>λσ h=>h
 |X,n+1,c,last,a=>by
  unfold mj;refine Kj.bind (Kp.j (abf _)) λe=>?_;split
  .exact λσ h=>h
  .refine Kj.bind (Kp.j (Kp.ite (OK _) (Kp.pure _))) λ_=>λσ h=>?_
   by_cases g:some e∉σ.act
   .rw[gF g];exact Kj.bind (Kp.j (Jh _)) (λ_=>Fb f b X n _ _ _) σ h
   .rw[gR g];exact Kj.bind (BT _) (λd=>Kj.bind (Kp.j (aba _ _)) λ_=>Kj.bind (Kp.j (TI _ _)) λ_=>Kj.bind (Mz _) λ_=>Kj.bind (Kp.j (GR _)) λi=>Kj.bind (DX i last (X:=d::X) (by simp;grind)) λ_=>Fb f b X n _ _ _) σ h
@[simp] def ad9 (f b:Nat):Kp (uu f b):=Kj.p (Kj.bind (λσ h=>Fb f b _ _ _ _ _ σ (h.cons _)) λ(last,mark)=>Kj.bind (Mz last) λ_=>Kj.bind (Kp.j (by simp)) λa=>Kj.bind (Kp.j (by simp)) λe=>Kj.bind (DX e last (X:=XL.l) (by simp)) λ_=>Kj.bind (BT f) λd=>Kj.bind (Kp.j (Sy _ _)) λ_=>Kj.bind (Kp.j (GR _)) λe=>Kj.bind (DX e d (X:=XL.l) (by simp)) λ_=>Kp.j (Kp.bind (by simp) λ_=>Kp.bind (OK _) λ_=>Kp.bind (Jh _) λ_=>Kp.bind (by simp) λ_=>Kp.pure _))
@[simp] def nh2:(∀(t:gN) (b:TG t),Kp (lw t)/\Kp (ly t)/\Kp (tZ t)/\Kp (nG t)/\Kp (wE t)/\Kp (oq t)/\Kp (ub t)/\Kp (su t)/\Kp (pB t)/\Kp (mc t)/\Kp (qY t)/\Kp (j5 t)/\Kp (ju t))/\(∀(a:Nat->gN->M Unit) (t:gN) (f:BO a) (b:TG t),Kp (pc a t)/\Kp (nB a t)/\Kp (nr a t)/\Kp (Do a t))/\(∀(t:gN) (e:Bool) (b:TG t),Kp (od t e))/\Kp sA/\Kp Pk/\Kp uG/\(∀(d:List gz) (m:Nat),Kp (li d m))/\(∀(t:gN),Kp (pr t)):=by
 (repeat' first|with_reducible intro _|with_reducible apply And.intro)<;>delta lw ly pc nB tZ nr od Do nG wE oq ub su sA Pk uG pB mc li qY pr j5 ju<;>(repeat' first|with_reducible refine Kp.bind ?_ λ_=>?_|with_reducible refine Kp.ite ?_ ?_)<;>first|(simp[*];done)|(refine Kp.fn λσ h=>?_;(repeat' split)<;>first|exact h|exact trivial|exact vr.st|exact vr.ok (h.lX rfl rfl)|exact Kp.at (by(repeat' first|with_reducible refine Kp.bind ?_ λ_=>?_|with_reducible refine Kp.ite ?_ ?_)<;>simp[*]) h)
@[simp] def OP (s:gz):Kp (nA s):=by
 unfold nA;refine Kp.fn λσ h=>?_
 (repeat' split)<;>first|exact h|exact trivial|exact vr.st|exact vr.ok (h.lX rfl rfl)|exact Kp.at (by simp) h
@[simp] def Xx (s:gz):∀n,Kp (sP s n)
 |0=>Kp.pure _
 |n+1=>Kp.bind (OP _) λ_=>Kp.ite (Xx s n) (Kp.pure _)
@[simp] def nh3:(∀(t:gN) (b:TG t),Kp (sG t)/\Kp (iW t)/\Kp (ue t)/\Kp (oS t)/\Kp (xl t)/\Kp (ph t)/\Kp (pj t)/\Kp (qz t)/\Kp (pi t)/\Kp (lK t))/\(∀(s:gz),Kp (wX s))/\(∀(a:Nat->gN->M Unit) (t:gN) (d:BO a) (b:TG t),Kp (kM a t))/\Kp tG/\Kp endCell:=by
 (repeat' first|with_reducible intro _|with_reducible apply And.intro)<;>delta sG iW wX ue oS xl ph pj qz pi kM tG endCell lK<;>(repeat' first|with_reducible refine Kp.bind ?_ λ_=>?_|with_reducible refine Kp.ite ?_ ?_)<;>first|(simp[*];done)|(refine Kp.fn λσ h=>?_;(repeat' split)<;>first|exact h|exact trivial|exact vr.st|exact vr.ok (h.lX rfl rfl)|exact Kp.at (by simp) h)
@[simp] def X4 {f:Nat} {b:M Bool} (h:Dt f=some b):Kp b:=by
 unfold Dt at h
 repeat' (split at h)
 all_goals (cases h<;>simp)
@[simp] def nh4:(∀(t:gN) (a:TG t),Kp (pW t)/\Kp (qZ t)/\Kp (ud t))/\(∀(t:gN),Kp (pR t)):=by
 (repeat' first|with_reducible intro _|with_reducible apply And.intro)<;>delta pW qZ ud pR<;>(repeat' first|with_reducible refine Kp.bind ?_ λ_=>?_|with_reducible refine Kp.ite ?_ ?_)<;>first|(simp[*];done)|(refine Kp.fn λσ h=>?_;(repeat' split)<;>first|exact h|exact trivial|exact vr.st|exact vr.ok (h.lX rfl rfl)|exact Kp.at (by(repeat' first|with_reducible refine Kp.bind ?_ λ_=>?_|with_reducible refine Kp.ite ?_ ?_)<;>simp[*]) h)
@[simp] theorem nh5:(∀(t:gN) (a:TG t),Kp (sE t)):=by
 (repeat' first|with_reducible intro _|with_reducible apply And.intro)<;>delta sE<;>(simp_all)<;>first|(simp[*];done)|(refine Kp.fn λσ h=>?_;(repeat' split)<;>first|exact h|exact trivial|exact vr.st|exact vr.ok (h.lX rfl rfl)|exact Kp.at (by(repeat' first|with_reducible refine Kp.bind ?_ λ_=>?_|with_reducible refine Kp.ite ?_ ?_)<;>simp[*]) h)
@[simp] def aa1 (b:Bool) (a rec:Nat->gN->M Unit) (t:gN) (f:Nat) (d:BO a) (e:BO rec) (g:TG t):Kp (PY b a rec t f):=by
 unfold PY
 (repeat' with_reducible refine Kp.ite ?_ ?_)<;>simp[*]
@[simp] def Px (i:Bool) (a rec:Nat->gN->M Unit) (t:gN) (j:BO a) (e:BO rec) (d:TG t):∀r,Mr r=true->Kp (pu i a rec r t)
 | .nil,_=>Kp.stuck
 | .nothing,_=>Kp.pure _
 | .ig f,_=>aa1 i a rec t f j e d
 | .pq m,_=>Kp.ite (e _ _ d) Kp.stuck
 | .gS pf own,_=>aat pf own t d
 | .ahead f,_=>by
  show Kp (match Dt f with|some b=>xq rec b t|none=>stuck)
  cases hb:Dt f with
  |none=>simp
  |some b=>exact Kp.bind (X4 hb) λ_=>Kp.ite (Kp.bind (Hc rec t e d) λ_=>Kp.pure _) (Kp.pure _)
 | .ends f,_=>by
  show Kp (match Dt f with|some b=>Dw b|none=>stuck)
  cases hb:Dt f with
  |none=>simp
  |some b=>exact Kp.bind (X4 hb) λ_=>Kp.pure _
 | .Nu r,h=>by
  have k:=Px i a rec t j e d r h;intro σ g;show vr (KS (pu i a rec r t) t σ);unfold KS;split
  .exact k σ g
  .exact g
 | .rE ks m,_=>Kp.ite (Kp.bind (Ic _) λ_=>Kp.bind (PI t d) λ_=>Kp.bind (A7 _) λ_=>Kp.pure _) Kp.stuck
 | .nK ks name m,h=>Kp.ite (Kp.bind (Ic _) λ_=>Kp.bind (um _ (of_decide_eq_true h)) λ_=>Kp.bind (A7 _) λ_=>Kp.bind (Hc rec t e d) λ_=>Kp.pure _) Kp.stuck
 | .item ks,_=>Kp.bind (XS _ _) λ_=>Kp.bind (N9 t d) λ_=>Kp.pure _
@[simp] theorem Ol:∀(n:Nat) (d:Bool) (m:Nat) (t:gN),TG t->Kp (hH d n m t)
 |0,_,_,_,_=>Kp.stuck
 |n+1,d,m,t,f=>by
  by_cases g:t.k= .lost
  .have e:hH d (n+1) m t=stuck:=by
    have⟨a,b,k,gM⟩:=t;cases g;rfl
   simp_all
  .rw[JZ d n m t g];unfold asM;cases hs:yn[m]? with
   |none=>simp
   |some sp=>exact Px d _ _ t (λm t f=>Ol n true m t f) (λm t f=>Ol n d m t f) f _ (Zo (abR sp (tu hs)) t)
@[simp] def TE (n:Nat) (t:gN) (d:TG t):Kp (uD (hH false n) t):=by
 have e:Kp (α:=Unit) (λσ:Ab=>if σ.behind&&kA t.chars yz then pG.ok () {σ with behind:=false,gQ:=t.a} else j1 (hH false n) t {σ with behind:=false,gQ:=t.a}):=by
  refine Kp.fn λσ h=>?_;have f:NG {σ with behind:=false,gQ:=t.a}:=h.lX rfl rfl;split
  .exact f
  .exact Hc _ t (λm t d=>Ol n false m t d) d _ f
 have⟨a,b,k,gM⟩:=t;cases k with
 |lost=>simp[uD]
 |_=>exact e
def S0 (d f l a:Nat):Ab:={nodes:=[.el ⟨⟨#[]⟩,[],none,[]⟩],gA:=[],act:=[],head:=none,form:=none,mode:=0,kept:=0,waiting:=[],iS:=false,jL:=false,gQ:=a,behind:=false,nC:=⟨#[]⟩,iZ:=false,fresh:=false,pQ:=d,qO:=f,oZ:=l}
theorem XD {r:Nat} {R:RC} {d:Nat} {a b:Int} {s:gz} {w e W:gw} (f:Kept [r] w e) (h:Rd e r R d (d+1)) (q:Kept [] e W) (g:W.heap[w.heap.size]?=some (gJ #[gp 0,gp 0,gI kJ] 167)) (j:r≠w.heap.size):
  Kept [r] w (((W.setCell ⟨w.heap.size,0,none⟩ (gp a)).setCell ⟨w.heap.size,1,none⟩ (gp b)).setCell ⟨w.heap.size,2,none⟩ (gI s))/\Rd (((W.setCell ⟨w.heap.size,0,none⟩ (gp a)).setCell ⟨w.heap.size,1,none⟩ (gp b)).setCell ⟨w.heap.size,2,none⟩ (gI s)) r R d (d+1)/\(((W.setCell ⟨w.heap.size,0,none⟩ (gp a)).setCell ⟨w.heap.size,1,none⟩ (gp b)).setCell ⟨w.heap.size,2,none⟩ (gI s)).heap[w.heap.size]?=some (gJ #[gp a,gp b,gI s] 167):=by
 have i:Kept [w.heap.size] W (((W.setCell ⟨w.heap.size,0,none⟩ (gp a)).setCell ⟨w.heap.size,1,none⟩ (gp b)).setCell ⟨w.heap.size,2,none⟩ (gI s)):=(((Kept.refl [w.heap.size] W).setCell (.inl (by simp)) _).setCell (.inl (by simp)) _).setCell (.inl (by simp)) _;refine⟨?_,(h.kept q (by simp)).kept i (by grind),gh (gh (gh g 0 _) 1 _) 2 _⟩;exact((((f.trans (q.mono (by simp))).setCell (.inr (ij _)) _).setCell (.inr (ij _)) _).setCell (.inr (ij _)) _)
def Dh (r:Nat) (R:RC) (a ps g o:Nat) (d:Nat->Nat) (w:gw) (h:Rd w r R a ps) (G:Ly w r R g o d) (x:a < R.cs.size) (Y:R.cs.size<=1024):
  Calls prog 139 #[gL r] w λe L=>e=ir (.agg #[gp (d a),gp (d (a+1)),gI (R.cs.extract a (a+1))])/\Kept [r] w L/\Rd L r R a (a+1):=by
 have b:=h.bg;have p:=h.ps;have U:=h.free 3;have X:=jn h;obtain⟨z,I⟩:∃z,z=Obj.cells #[gp 0,gp 0,gI kJ] 167 (0,0):=⟨_,rfl⟩;obtain⟨i,f⟩:∃i,i=(w.setCell ⟨r,3,none⟩ (gp ((a+1:Nat)))).alloc z:=⟨_,rfl⟩;have E:Kept [r] w i:=by rw[f];exact((Kept.refl [r] w).setCell (.inl (by simp)) _).alloc _
 have F:Rd i r R a (a+1):=by rw[f];exact((Kept.refl [] _).alloc z).at (h.Ms (a+1)) (by simp)
 have J:i.heap[w.heap.size]?=some z:=by rw[f];have:=fZ (w.setCell ⟨r,3,none⟩ (gp ((a+1:Nat)))) z;rwa [World.size_setCell]at this
 have C:=fW (λW (K:Kept [] i W)=>pS r R a (a+1) g o d W (F.kept K (by simp)) ((G.kept E).kept (K.mono (by simp))) (by omega) (by omega) Y);have Z:=fW G;have A:=fW E;have j:=fW F;have y:=fW J;have S:=fW I;have D:=fW (show(w.setCell ⟨r,3,none⟩ (gp ((a:Int)+1))).alloc (gJ #[gp 0,gp 0,gI kJ] 167)=i from by rw[f,I];congr 1);clear h G E F J f I;go_enter func139,ntmps139
 go_wp21
 rw[D.out];have B:=fW (show r≠w.heap.size by omega);clear b p U X;refine tw (by rfl) ?_;refine pN (λ(g:Unit) z=>⟨#[gL r,undef,gL w.heap.size,gL r,gL r,gL r,jF r 2,gp a,gp ((a:Int)+1),gL r,jF r 3,cd z 0 (gL r),cd z 1 (.agg #[gp (d a),gp (d (a+1))]),cd z 2 (gL r),cd z 3 (gL r),cd z 4 (gL r),cd z 5 (gI R.cs),cd z 6 (gL r),cd z 7 (gL r),cd z 8 (jF r 2),cd z 9 (gp a),cd z 10 (gL r),cd z 11 (gL r),cd z 12 (jF r 3),cd z 13 (gp ((a:Int)+1)),cd z 14 (gI (R.cs.extract a (a+1))),cd z 15 (.agg #[gp (d a),gp (d (a+1)),gI (R.cs.extract a (a+1))])],[]⟩) (λg z W=>if dn z 16=true then (Kept [r] w W/\Rd W r R a (a+1)/\W.heap[w.heap.size]?=some (gJ #[gp (d a),gp (d (a+1)),gI (R.cs.extract a (a+1))] 167))else Kept [] i W) 17 [[],[0],[],[2],[3],[4],[],[6],[7],[8],[],[10],[11],[12],[5,9,13],[1,14],[0,1,2,3,4,5,6,7,8,9,10,11,12,13,14,15]] (()) rfl rfl ((Kept.refl [] i).drew) ?_ ?_
 .repeat' first|exact mU|refine mQ ?_ ?_
  all_goals
   rintro g z W u m V;simp[BR]at m;refine kN rfl ?_;intro K' l;simp only[ld,m];have x:dn z 16=false:=by simp[m,V]
   have q:Kept [] i W:=by simpa [x]using u
   have c0:=(j.out.kept q (by simp)).text;have c2:=(j.out.kept q (by simp)).bg;have c3:=(j.out.kept q (by simp)).ps;have N:=fW (C.out W q);have k:=q.at (y.out.trans (sI some S.out)) (by simp);have q0:W.cell? ⟨w.heap.size,0,none⟩=some (gp 0):=by rw[fX k];rfl
   have q1:W.cell? ⟨w.heap.size,1,none⟩=some (gp 0):=by rw[fX k];rfl
   have q2:W.cell? ⟨w.heap.size,2,none⟩=some (gI kJ):=by rw[fX k];rfl
   have z0:=gG k 0;have z1:=gG k 1;have z2:=gG k 2;go_simp
   try (rw[gF (by omega),gF (by omega)];go_simp)
   first
   |refine l _ _ ⟨g,?_,by simpa [oF,x]using q⟩
   |refine N.out.mono ?_;rintro e W2 ⟨rfl,H⟩;refine l _ _ ⟨g,?_,by simpa [oF,x]using q.trans H⟩
   |refine l _ _ ⟨g,?_,(gF rS).mpr (XD A.out j.out q k B.out)⟩
   simp[oC,vm,ld,m]
 .rintro g W u;simp only[uZ];rw[gF xw]at u;have⟨h1,h2,h3⟩:=u;have O:=fW h1;have P:=fW h2;have Q:=fW h3;clear h1 h2 h3;rename_i T s;refine s _ _ ?_;clear s T;go_wp2;refine qe (v:= .agg #[gp (d a),gp (d (a+1)),gI (R.cs.extract a (a+1))]) ?_ rfl ⟨rfl,O.out,P.out⟩;have m:=fX Q.out;simp[results,results139,asAddr,Result.andThen,go_sem,m]
def VT (r:Nat) (R:RC) (a ps:Nat) (w:gw) (h:Rd w r R a ps) (b:R.nC=⟨#[]⟩):
  Calls prog 70 #[gL r] w λe d=>e=ir (.bool false)/\Kept [] w d:=by
 have o:=h.nC;rw[b]at o;have f:=jn h;go_enter func70,ntmps70;go_wp2;go_ret;exact⟨rfl,Kept.refl _ _⟩
theorem Qp (c:jO) (o i:Nat) (a:List gP) (h:o+a.length<=c.size) (b:i < o\/o+a.length<=i):(jW c o a)[i]?=c[i]?:=by
 rw[<-UV,nI _ _ _ h,<-UV]
 grind
theorem S3 (c:jO) (o k:Nat) (a:List gP) (h:o+a.length<=c.size) (b:k < a.length):(jW c o a)[o+k]?=a[k]?:=by
 rw[<-UV,nI _ _ _ h]
 grind
def afx:Tryz.zeroCells157[188]?=some (jX):=by kernel_rfl
def afy:Tryz.zeroCells157[189]?=some (jX):=by kernel_rfl
def afz:Tryz.zeroCells157[190]?=some (.pointer none):=by kernel_rfl
def afA:Tryz.zeroCells157[191]?=some (.pointer none):=by kernel_rfl
def afB:Tryz.zeroCells157[192]?=some (gp 0):=by kernel_rfl
def z193:Tryz.zeroCells157[193]?=some (gp 0):=by kernel_rfl
def z194:Tryz.zeroCells157[194]?=some (jX):=by kernel_rfl
def afC:Tryz.zeroCells157[195]?=some (.bool false):=by kernel_rfl
def z196:Tryz.zeroCells157[196]?=some (.bool false):=by kernel_rfl
def afD:Tryz.zeroCells157[197]?=some (gp 0):=by kernel_rfl
def z198:Tryz.zeroCells157[198]?=some (.bool false):=by kernel_rfl
def T5 (bs bm a r:Nat) (C:jO) (R:RC) (b ps:Nat) (d:gw):Env:={bm:=bm,bB:=a,bR:=r,C0:=C,R0:=wx R b ps,EH:=7,w0:=d,tv:=jX,ta:=[],bs:=bs}
def Qz (R:RC) (a ps:Nat) (s:gz) (b:Bool) (e:s=R.nC) (d:b=R.Y6):((wx R a ps).setIfInBounds 7 (gI s)).setIfInBounds 8 (.bool b)=wx R a ps:=by
 subst e d;rfl
theorem Xm {d f a x i:Nat} {e:zp} (h:(S0 d f a x).ib i=some e):e=⟨⟨#[]⟩,[],none,[]⟩:=by
 have:=Ab.jo h
 match i,this with
 |0,this=>
  have b:some (Bj.el ⟨⟨#[]⟩,[],none,[]⟩)=some (.el e):=this
  grind
 |i+1,this=>simp[S0]at this
def aej (d f a x:Nat):Wf (S0 d f a x) where
 gA:=λx b=>by cases b
 act:=λx b=>by cases b
 head:=rfl
 form:=rfl
 je:=λi e h=>by rw[Xm h];rfl
 kids:=λi e h k g=>by rw[Xm h]at g;cases g
 xb:=rfl
def adE (bs bm G o r:Nat) (d f a:Nat) (w W:gw) (R:RC) (s:acQ bm G o d f a (.func (.func 36) #[gL r] #[]) w W) (V:Rd W r R 0 0) (ho:R.nC=⟨#[]⟩) (hp:R.Y6=false) (Y:d<=64) (hf:f<=32) (X:a<=16) (p:bs<=w.heap.size) (E:bs<=r):
  ∃C H,H 0=o/\RF (T5 bs bm G r C R 0 0 W) H (S0 d f a 0) W:=by
 have⟨c6,cs,v1,v2,v3,hb,hc6,hru,I,J,K⟩:=s.iw;have B:=hru.1;have D:c6.size=199:=by rw[hc6];simp[Bx,sc]
 have A:4+cs.length<=c6.size:=by rw[B,D];decide
 have b:∀i,i < 4\/184<=i->(jW c6 4 cs)[i]?=c6[i]?:=λi l=>Qp c6 4 i cs A (by omega);have m:∀i,188<=i->(jW c6 4 cs)[i]?=Tryz.zeroCells157[i]?:=λi l=>by
  rw[b i (.inr (by omega)),hc6];simp only[zG];rw[gR (by omega),gR (by omega),gR (by omega),xg _ _ _ _ _ _ _ (by omega) (by omega)]
 have Z:o < W.heap.size:=jn s.xb;refine⟨jW c6 4 cs,λi=>if i=0 then o else W.heap.size+i,rfl,⟨⟨_,λ_=> .slice none 0 0,λ_=> .slice none 0 0,jX,jX,jX⟩,rfl,?_⟩⟩;have low:∀i v,i < 4->c6[i]?=some v->(jW c6 4 cs)[i]?=some v:=λi v l h=>(b i (.inl l)).trans h;have O:c6[0]?=some (gp d):=by
  rw[hc6];simp[mG,zG,sc]
 have P:c6[1]?=some (gp f):=by
  rw[hc6];simp[mG,zG,sc]
 have Q:c6[2]?=some (gp a):=by
  rw[hc6];simp[mG,zG,sc]
 have S:c6[3]?=some (.func (.func 36) #[gL r] #[]):=by
  rw[hc6];simp[mG,zG,sc]
 have u:(jW c6 4 cs)[184]?=some v1:=by
  rw[b _ (.inr (by omega)),hc6];simp[mG,zG,sc]
 have x:(jW c6 4 cs)[185]?=some v2:=by
  rw[b _ (.inr (by omega)),hc6];simp[mG,zG,sc]
 have y:(jW c6 4 cs)[186]?=some v3:=by
  rw[b _ (.inr (by omega)),hc6];simp[mG,zG,sc]
 have z:(jW c6 4 cs)[187]?=some (iC o):=by
  rw[b _ (.inr (by omega)),hc6];simp[mG,zG,sc]
 exact
  {fr:=Fr.refl _
   env:={Gi:=⟨cs,λk hk=>S3 c6 4 k cs A (by omega),hru⟩,txt:=low 3 _ (by decide) S,spec:=⟨v1,u,I⟩,VS:=⟨v2,x,J⟩,Vp:=⟨v3,y,K⟩,xb:=z}
   DQ:=⟨low 0 _ (by decide) O,low 1 _ (by decide) P,low 2 _ (by decide) Q,Y,hf,X⟩
   sL:=λi N l=>by
    match i,l with
    |0,l=>
     have e:N= .el ⟨⟨#[]⟩,[],none,[]⟩:=by
      have:some (Bj.el ⟨⟨#[]⟩,[],none,[]⟩)=some N:=l;exact(jK this).symm
     subst e;exact⟨⟨s.xb,oY _ _ _ _,iP _,⟨_,_,_,rfl⟩⟩,oY _ _ _ _,iP _⟩
    |i+1,l=>simp[S0]at l
   inj:=λi j h=>by
    have T:(if i=0 then o else W.heap.size+i)=(if j=0 then o else W.heap.size+j):=h
    by_cases l:i=0<;>by_cases L:j=0<;>simp only[l,L,↓reduceIte]at T|- <;>omega
   A0:=λi j g l L a1 q=>by simp[Value.ownBlock]at q
   F5:=λi l he=>rfl
   uq:=λi j e g I J K h4 U=>by simp[Value.ownBlock]at U
   Ep:=λi l he=>rfl
   wf:=aej d f a 0
   iw:=⟨_,hb,{size:=by rw[kU];exact D,low:=λi l=>rfl,gA:=(m 188 (by omega)).trans afx,act:=(m 189 (by omega)).trans afy,head:=(m 190 (by omega)).trans afz,form:=(m 191 (by omega)).trans afA,mode:=(m 192 (by omega)).trans afB,kept:=(m 193 (by omega)).trans z193,wait:=(m 194 (by omega)).trans z194,ID:=(m 195 (by omega)).trans afC,jL:=(m 196 (by omega)).trans z196,gQ:=(m 197 (by omega)).trans afD,behind:=(m 198 (by omega)).trans z198}⟩
   o0:=oY _ _ _ _
   pX:=oY _ _ _ _
   F9:=λg q=>by simp[Value.ownBlock]at q
   wT:=iP _
   Et:=iP _
   oT:=oY _ _ _ _
   Lw:=iP _
   rd:=by
    show W.heap[r]?=some (.cells (((wx R 0 0).setIfInBounds 7 (gI kJ)).setIfInBounds 8 (.bool false)) _ _);rw[Qz R 0 0 _ _ ho.symm hp.symm];exact V
   QJ:=by show 7+1 < 9;decide
   tok:=oY _ _ _ _
   Lt:=iP _
   bz:=jN p s.k.size
   bB:=jN p s.new
   bR:=E
   bN:=λi l=>by
    have a0:i < 1:=l;have:i=0:=by omega
    subst this;exact jN p s.afr
   Da:=λh=>by simp[S0]at h
   ab:=λi g l q=>by simp[Value.ownBlock]at q
   tb:=λg q=>by
    have F:(jX).ownBlock=some g:=q;simp[Value.ownBlock]at F
   Lv:=λv hv=>by cases hv}
def OD.move {E:Env} {d:Nat} {w w':gw} (h:OD E d) (i:Fr E.bs E.w0 w) (l:vS E.bm w w') (k:∀(b:Nat) (g:Array MapEntry) (f:Nat),w.heap[b]?=some (Obj.map g f)->w'.heap[b]?=some (Obj.map g f)):OD {E with w0:=w'} d:=by
 have a:vS E.bm E.w0 w':=(i.n E.bm).trans l;have j:∀{R:Option (List (List gz×Ru))} {v:gP},rB E.bm E.bB d R v E.w0->rB E.bm E.bB d R v w':=by
  intro R v h;cases R with
  |none=>exact h
  |some R=>
   have⟨b,hb⟩:=h;have⟨g,f,hat⟩:=hb.at;have e1:=(i.calm (.inl hb.at)).trans hat;exact⟨b,hb.fr a ((k b g f e1).trans hat.symm)⟩
 have⟨cs,h1,h2,h3⟩:=h.Gi;have⟨v1,a1,b1⟩:=h.spec;have⟨v2,a2,b2⟩:=h.VS;have⟨v3,a3,b3⟩:=h.Vp;exact⟨⟨cs,h1,h2,λm p o=>by
  have⟨v0,v1,v2,v3,v4,v5,v6,v7,v8,v9,e,hi⟩:=h3 m p o;exact⟨v0,v1,v2,v3,v4,v5,v6,v7,v8,v9,e,⟨hi.blank.fr a,hi.ke.fr a,hi.gS.fr a,hi.iN.fr a,hi.io.fr a,j hi.start,j hi.stop,hi.jU.fr a,hi.ku.fr a,hi.iE.fr a⟩⟩⟩,h.txt,⟨v1,a1,b1.fr a⟩,⟨v2,a2,b2.fr a⟩,⟨v3,a3,b3.fr a⟩,h.xb⟩
structure Lk (w:gw) (b:Nat) (look:gz->Option gz):Prop where
 lt:b < w.heap.size
 short:∀key t,look key=some t->t.size<=16
 run:∀(key:gz) (w':gw),w'.heap[b]?=w.heap[b]?->(Instr.lookup 127 (.map (some b)) (gI key) true).run prog w'= .ok (.tuple #[.agg #[gI ((look key).getD ⟨#[]⟩)],.bool (look key).isSome]) w'
def Lk.kept {w w':gw} {b:Nat} {look:gz->Option gz} {S:List Nat} (h:Lk w b look) (f:Kept S w w') (g:b∉S):Lk w' b look:=
 ⟨lU h.lt f.size,h.short,λa d e=>h.run a d (e.trans (f.block b h.lt g))⟩
open Go.ChangeMaps (setBlock)
def PS (e:MapEntry):gP×gP:=(e.key,e.val)
def kv (p:gz×gz):gP×gP:=(gI p.1,.agg #[gI p.2])
structure Mp (w:gw) (b:Nat) (L:kY) (es:Array MapEntry) (clock:Nat):Prop where
 at_:w.heap[b]?=some (.map es clock)
 kvs:es.toList.map PS=L.map kv
 nod:(es.toList.map (·.born)).Nodup
 old:∀x∈es.toList,x.born < clock
def Mp.kept {w w':gw} {b:Nat} {L:kY} {d:Array MapEntry} {a:Nat} {S:List Nat} (h:Mp w b L d a) (f:Kept S w w') (e:b∉S):Mp w' b L d a:=⟨f.at h.at_ e,h.kvs,h.nod,h.old⟩
def Nh (k:gz):∀(a:List MapEntry) (L:kY) (i:Nat),a.map PS=L.map kv->L.all (λp=>!(k==p.1))=true->Instr.findNow .string (gI k) a i=some none
 |[],_,_,_,_=>rfl
 |e::a,[],_,h,_=>by simp at h
 |e::a,p::L,i,h,hn=>by
  simp only[yy,Rx]at h;simp only[List.all_cons,rR]at hn;have d:e.key=gI p.1:=sI Prod.fst h.1;have b:(k==p.1)=false:=by simpa using hn.1
  unfold Instr.findNow;simp only[d,Instr.sameNow,b];exact Nh k a L (i+1) h.2 hn.2
theorem Po (k:gz):∀(a:List MapEntry) (L:kY) (i:Nat) (p:gz×gz),a.map PS=L.map kv->L.find? (λp=>k==p.1)=some p->∃j,Instr.findNow .string (gI k) a i=some (some (j,.agg #[gI p.2]))
 |[],[],_,_,_,h=>by simp at h
 |[],_::_,_,_,h,_=>by simp at h
 |e::a,[],_,_,h,_=>by simp at h
 |e::a,q::L,i,p,h,hp=>by
  simp only[yy,Rx]at h;have b:e.key=gI q.1:=sI Prod.fst h.1;have d:e.val= .agg #[gI q.2]:=sI Prod.snd h.1;unfold Instr.findNow;cases hf:(k==q.1)
  .simp only[b,Instr.sameNow,hf];rw[List.find?_cons,hf]at hp;exact Po k a L (i+1) p h.2 hp
  .simp only[b,Instr.sameNow,hf]
   simp_all
theorem Bw {S:List Nat} {a w:gw} (h:Kept S a w) {b:Nat} (f:b∈S\/a.heap.size<=b) (o:Obj):Kept S a (setBlock w b o):=
 ⟨h.os,h.tape,h.output,by show a.heap.size<=(w.heap.setIfInBounds b o).size;rw[Ry];exact h.size,λk d e=>by
  show(w.heap.setIfInBounds b o)[k]?=_;rw[Ei (by grind)];exact h.block k d e⟩
theorem Gj {w:gw} {b:Nat} (h:b < w.heap.size) (o:Obj):(setBlock w b o).heap[b]?=some o:=by
 show(w.heap.setIfInBounds b o)[b]?=_
 grind
theorem rY {w:gw} {b:Nat} {L:kY} {i:Array MapEntry} {a:Nat} (h:Mp w b L i a) (k t:gz) (r:L.all (λp=>!(k==p.1))=true):
  ∃g j d,(Instr.mapUpdate 127 (.map (some b)) (gI k) (.agg #[gI t])).run prog w= .ok () g/\Mp g b (L++[(k,t)]) j d/\Kept [b] w g/\g.heap.size=w.heap.size:=by
 have q:=jn h.at_;refine⟨setBlock w b (.map (i.push {key:=gI k,val:= .agg #[gI t],born:=a}) (a+1)),_,_,?_,⟨Gj q _,?_,?_,?_⟩,Bw (Kept.refl _ _) (.inl (by simp)) _,?_⟩
 .have o:=Nh k i.toList L 0 h.kvs r;have l:(underlying 9).run prog w= .ok .string w:=pO underlying9 _;have m:(Instr.checkKey false 10000 9 (gI k)).run prog w= .ok () w:=by
   unfold Instr.checkKey;simp[l]
  simp[Instr.mapUpdate,pO underlying127,Km h.at_,m,Instr.findKey,l,o,setObj,Sem.run,h.at_,setBlock,Result.andThen]
 .simp[h.kvs,PS,kv]
 .simp only[Array.toList_push,ru,yy,List.map_nil];rw[List.nodup_append];refine⟨h.nod,by simp,?_⟩;intro x f y u e;obtain⟨z,s,rfl⟩:=List.mem_map.1 f;have:=h.old z s
  grind
 .intro x f;simp only[Array.toList_push,List.mem_append,List.mem_singleton]at f;rcases f with f|rfl
  .have:=h.old x f;omega
  simp
 .show(w.heap.setIfInBounds b _).size=_;simp
def pK (L:kY) (k:gz):Option gz:=(L.find? (λp=>k==p.1)).map (·.2)
def abZ (w:gw):(zeroValue 185).run prog w= .ok (.agg #[gI kJ]) w:=by
 simp
theorem Mp.lk {w:gw} {b:Nat} {L:kY} {d:Array MapEntry} {a:Nat} (h:Mp w b L d a) (r:L.all (λp=>decide (p.2.size<=16))=true):Lk w b (pK L) where
 lt:=jn h.at_
 short k t ht:=by
  unfold pK at ht;obtain⟨p,m,rfl⟩:=Option.map_eq_some_iff.1 ht
  grind
 run k w' e:=by
  have i:w'.heap[b]?=some (.map d a):=e.trans h.at_;have o:(underlying 9).run prog w'= .ok .string w':=pO underlying9 _;have l:∀x,(Instr.checkKey x 10000 9 (gI k)).run prog w'= .ok () w':=λx=>by
   unfold Instr.checkKey;simp
  cases hf:L.find? (λp=>k==p.1)with
  |none=>
   have q:L.all (λp=>!(k==p.1))=true:=by
    rw[RD];intro p m;have:=List.find?_eq_none.1 hf p m
    simpa using this
   have f:=Nh k d.toList L 0 h.kvs q;have g:pK L k=none:=by unfold pK;rw[hf];rfl
   rw[g];simp[Instr.lookup,pO underlying127,Km i,l,Instr.findKey,o,f,abZ,Result.andThen]
  |some p=>
   have⟨j,f⟩:=Po k d.toList L 0 p h.kvs hf;have g:pK L k=some p.2:=by unfold pK;rw[hf];rfl
   rw[g];simp[Instr.lookup,pO underlying127,Km i,l,Instr.findKey,o,f,Result.andThen]
open Go.ChangeMaps (setBlock)
def kv0:kY:=[(⟨#[97,112,111,115,59]⟩,sJ),(nf,⟨#[226,132,151]⟩),(nO,⟨#[226,136,137]⟩),(nP,⟨#[226,136,140]⟩),(mY,pE),(⟨#[112,97,114,59]⟩,⟨#[226,136,165]⟩),(nc,⟨#[226,138,160]⟩),(⟨#[98,110,101,59]⟩,⟨#[61,226,131,165]⟩),(⟨#[84,97,98,59]⟩,⟨#[9]⟩),(lM,yz)]
def acz:kY:=[(⟨#[65,77,80]⟩,BN),(⟨#[97,109,112]⟩,BN),(⟨#[108,116]⟩,Ej),(⟨#[103,116]⟩,jH),(⟨#[113,117,111,116]⟩,tz),(⟨#[110,98,115,112]⟩,⟨#[194,160]⟩),(⟨#[99,111,112,121]⟩,⟨#[194,169]⟩),(⟨#[110,111,116]⟩,⟨#[194,172]⟩),(⟨#[112,97,114,97]⟩,⟨#[194,182]⟩),(pD,⟨#[195,151]⟩)]
def kvj (j:Nat):kY:=kv0++(acz.take j).flatMap λp=>[(p.1,p.2),(p.1++⟨#[59]⟩,p.2)]
def zM (j:Nat):gz×gz:=acz.getD j (⟨#[]⟩,⟨#[]⟩)
def wB:jO:=#[gI ⟨#[65,77,80]⟩,gI BN,gI ⟨#[97,109,112]⟩,gI BN,gI ⟨#[108,116]⟩,gI Ej,gI ⟨#[103,116]⟩,gI jH,gI ⟨#[113,117,111,116]⟩,gI tz,gI ⟨#[110,98,115,112]⟩,gI ⟨#[194,160]⟩,gI ⟨#[99,111,112,121]⟩,gI ⟨#[194,169]⟩,gI ⟨#[110,111,116]⟩,gI ⟨#[194,172]⟩,gI ⟨#[112,97,114,97]⟩,gI ⟨#[194,182]⟩,gI pD,gI ⟨#[195,151]⟩]
def abA:Bool:=(List.range 10).all λj=>(kvj j).all (λp=>!((zM j).1==p.1))&&(kvj j++[zM j]).all (λp=>!(((zM j).1++⟨#[59]⟩)==p.1))&&decide ((zM j).1.size<=8)
def Zn:abA=true:=rfl
theorem abz {j:Nat} (h:j < 10):(kvj j).all (λp=>!((zM j).1==p.1))=true/\(kvj j++[zM j]).all (λp=>!(((zM j).1++⟨#[59]⟩)==p.1))=true/\(zM j).1.size<=8:=by
 have:=List.all_eq_true.1 Zn j (List.mem_range.2 h)
 grind
def Wy {j:Nat} (h:j < 10):wB[j*2]?=some (gI (zM j).1)/\wB[j*2+1]?=some (gI (zM j).2):=by
 rcases(by omega:j=0\/j=1\/j=2\/j=3\/j=4\/j=5\/j=6\/j=7\/j=8\/j=9)with rfl|rfl|rfl|rfl|rfl|rfl|rfl|rfl|rfl|rfl<;>exact⟨rfl,rfl⟩
def YI {j:Nat} (h:j < 10):kvj (j+1)=kvj j++[zM j]++[((zM j).1++⟨#[59]⟩,(zM j).2)]:=by
 rcases(by omega:j=0\/j=1\/j=2\/j=3\/j=4\/j=5\/j=6\/j=7\/j=8\/j=9)with rfl|rfl|rfl|rfl|rfl|rfl|rfl|rfl|rfl|rfl<;>rfl
def KV:kY:=kvj 10
def OG:KV.all (λp=>decide (p.2.size<=16))=true:=by rfl
def Z4:KV.all (λp=>decide (p.1.size<=8))=true:=by rfl
def Xi:KV.any (λp=>decide (p.1.size=8))=true:=by rfl
def abY (e:gw) (b:Nat) (q:Mp e b [] #[] 0):∃f g h i j k l m o a:gw,(Instr.mapUpdate 127 (.map (some b)) (gI ⟨#[97,112,111,115,59]⟩) (.agg #[gI sJ])).run prog e= .ok () f/\(Instr.mapUpdate 127 (.map (some b)) (gI nf) (.agg #[gI ⟨#[226,132,151]⟩])).run prog f= .ok () g/\(Instr.mapUpdate 127 (.map (some b)) (gI nO) (.agg #[gI ⟨#[226,136,137]⟩])).run prog g= .ok () h/\(Instr.mapUpdate 127 (.map (some b)) (gI nP) (.agg #[gI ⟨#[226,136,140]⟩])).run prog h= .ok () i/\(Instr.mapUpdate 127 (.map (some b)) (gI mY) (.agg #[gI pE])).run prog i= .ok () j/\(Instr.mapUpdate 127 (.map (some b)) (gI ⟨#[112,97,114,59]⟩) (.agg #[gI ⟨#[226,136,165]⟩])).run prog j= .ok () k/\(Instr.mapUpdate 127 (.map (some b)) (gI nc) (.agg #[gI ⟨#[226,138,160]⟩])).run prog k= .ok () l/\(Instr.mapUpdate 127 (.map (some b)) (gI ⟨#[98,110,101,59]⟩) (.agg #[gI ⟨#[61,226,131,165]⟩])).run prog l= .ok () m/\(Instr.mapUpdate 127 (.map (some b)) (gI ⟨#[84,97,98,59]⟩) (.agg #[gI ⟨#[9]⟩])).run prog m= .ok () o/\(Instr.mapUpdate 127 (.map (some b)) (gI lM) (.agg #[gI yz])).run prog o= .ok () a/\(∃p d,Mp a b kv0 p d)/\Kept [b] e a/\a.heap.size=e.heap.size:=by
 have⟨f,es1,c1,r1,m1,k1,z1⟩:=rY (w:=e) q ⟨#[97,112,111,115,59]⟩ sJ (by rfl);have⟨g,es2,c2,r2,m2,k2,z2⟩:=rY (w:=f) m1 nf ⟨#[226,132,151]⟩ (by rfl);have⟨h,es3,c3,r3,m3,k3,z3⟩:=rY (w:=g) m2 nO ⟨#[226,136,137]⟩ (by rfl);have⟨i,es4,c4,r4,m4,k4,z4⟩:=rY (w:=h) m3 nP ⟨#[226,136,140]⟩ (by rfl);have⟨j,es5,c5,r5,m5,k5,z5⟩:=rY (w:=i) m4 mY pE (by rfl);have⟨k,es6,c6,r6,m6,k6,z6⟩:=rY (w:=j) m5 ⟨#[112,97,114,59]⟩ ⟨#[226,136,165]⟩ (by rfl);have⟨l,es7,c7,r7,m7,k7,z7⟩:=rY (w:=k) m6 nc ⟨#[226,138,160]⟩ (by rfl);have⟨m,es8,c8,r8,m8,k8,z8⟩:=rY (w:=l) m7 ⟨#[98,110,101,59]⟩ ⟨#[61,226,131,165]⟩ rfl;have⟨o,es9,c9,r9,m9,k9,z9⟩:=rY (w:=m) m8 ⟨#[84,97,98,59]⟩ ⟨#[9]⟩ rfl;have⟨a,es10,c10,r10,m10,k10,z10⟩:=rY (w:=o) m9 lM yz rfl;exact⟨f,g,h,i,j,k,l,m,o,a,r1,r2,r3,r4,r5,r6,r7,r8,r9,r10,⟨_,_,m10⟩,(((((((((k1).trans k2).trans k3).trans k4).trans k5).trans k6).trans k7).trans k8).trans k9).trans k10,by omega⟩
def acO (w:gw) (a bm j:Nat) (wr:gw):Prop:=
 (∃d b,Mp wr bm (kvj j) d b)/\wr.heap[a]?=some (gJ #[.map (some bm),gp 0] 129)/\wr.heap[a+1]?=some (gJ wB 186)/\wr.heap[w.heap.size]?=some (gJ #[.map none,gp 0] 129)/\Kept [] w wr
def aaX:gP->Nat
 | .string k=>k.size
 |_=>0
structure acP (w:gw) (nb bm it:Nat) (es:Array MapEntry) (ck:Nat) (wr:gw) (seen:Array Nat) (c0 M:Nat):Prop where
 iter:wr.heap[it]?=some (.mapIter (some bm) ck seen c0)
 late:ck<=c0
 mp:Mp wr bm KV es ck
 nam:wr.heap[nb]?=some (gJ #[.map (some bm),gp M] 129)
 res:wr.heap[w.heap.size]?=some (gJ #[.map none,gp 0] 129)
 le:M<=8
 TP:∀e∈es.toList,seen.contains e.born=true->aaX e.key<=M
 kept:Kept [] w wr
 size:it < wr.heap.size
def adw {a:Array MapEntry} {L:kY} (h:a.toList.map PS=L.map kv) {e:MapEntry} (b:e∈a.toList):∃p∈L,e.key=gI p.1:=by
 have:PS e∈L.map kv:=by rw[<-h];exact List.mem_map.2 ⟨e,b,rfl⟩
 have⟨p,hp,e1⟩:=List.mem_map.1 this;exact⟨p,hp,(sI Prod.fst e1).symm⟩
def Yc {a:Array MapEntry} {L:kY} (h:a.toList.map PS=L.map kv) {p:gz×gz} (b:p∈L):∃e∈a.toList,e.key=gI p.1:=by
 have:kv p∈a.toList.map PS:=by rw[h];exact List.mem_map.2 ⟨p,b,rfl⟩
 have⟨e,he,e1⟩:=List.mem_map.1 this;exact⟨e,he,sI Prod.fst e1⟩
theorem QF (w:gw):
  Calls prog 46 #[] w λe w'=>∃b,e=ir (.agg #[.map (some b),gp 8])/\w.heap.size<=b/\Lk w' b (pK KV)/\Kept [] w w':=by
 obtain⟨a,q⟩:∃a,a=w.alloc (.cells #[.map none,gp 0] 129):=⟨_,rfl⟩;have za:a.heap.size=w.heap.size+1:=by rw[q];simp
 obtain⟨J,l⟩:∃J,J=a.alloc (.map #[] 0):=⟨_,rfl⟩;have ka:Kept [] w a:=by rw[q];exact(Kept.refl _ _).alloc _
 have kb:Kept [] a J:=by rw[l];exact(Kept.refl _ _).alloc _
 have hA:a.heap[w.heap.size]?=some (gJ #[.map none,gp 0] 129):=by rw[q];exact fZ w _
 have U:Mp J a.heap.size [] #[] 0:=⟨by rw[l];exact fZ a _,rfl,by simp,by simp⟩;have zb:J.heap.size=a.heap.size+1:=by rw[l];simp
 have⟨w1,w2,w3,w4,w5,w6,w7,w8,w9,w10,r1,r2,r3,r4,r5,r6,r7,r8,r9,r10,⟨es,ck,HM⟩,k10,z10⟩:=abY J a.heap.size U;have Z:(Instr.makeMap 127 none).run prog a= .ok (.map (some a.heap.size)) J:=by rw[l];rfl
 have T:=fW q.symm;have a7:=l.symm;have HK:=(show Kept [] w w10 from((ka.trans kb).next k10 (by grind)));have HA:=(show w10.heap[w.heap.size]?=_ from k10.at (kb.at hA (by simp)) (by grind));have Hz:=fW (show w10.heap.size=w.heap.size+2 by omega);have s:=fW za;clear q l ka kb hA U zb k10 za z10;go_enter func46,ntmps46
 go_wp21
 rw[T.out,Z];clear Z T a7;go_wp2_with fail;obtain⟨W,L⟩:∃W,W=(w10.alloc (.cells #[.map (some a.heap.size),gp 0] 129)).alloc (.cells wB 186):=⟨_,rfl⟩;have kW:Kept [] w10 W:=by rw[L];exact((Kept.refl _ _).alloc _).alloc _
 have g:W.heap[w10.heap.size]?=some (gJ #[.map (some a.heap.size),gp 0] 129):=by
  rw[L,Below.heap_alloc _ _ _ (by simp)];exact fZ w10 _
 have o:W.heap[w10.heap.size+1]?=some (gJ wB 186):=by
  have:=fZ (w10.alloc (.cells #[.map (some a.heap.size),gp 0] 129)) (.cells wB 186);rw[L];simpa using this
 have HS:Hid (acO w w10.heap.size a.heap.size 0 W):=⟨⟨es,ck,HM.kept kW (by simp)⟩,g,o,kW.at HA (by simp),HK.trans kW⟩;have a5:wB=#[gI ⟨#[65,77,80]⟩,gI BN,gI ⟨#[97,109,112]⟩,gI BN,gI ⟨#[108,116]⟩,gI Ej,gI ⟨#[103,116]⟩,gI jH,gI ⟨#[113,117,111,116]⟩,gI tz,gI ⟨#[110,98,115,112]⟩,gI ⟨#[194,160]⟩,gI ⟨#[99,111,112,121]⟩,gI ⟨#[194,169]⟩,gI ⟨#[110,111,116]⟩,gI ⟨#[194,172]⟩,gI ⟨#[112,97,114,97]⟩,gI ⟨#[194,182]⟩,gI pD,gI ⟨#[195,151]⟩]:=rfl;rw[a5]at L;rw[<-L];clear L kW g o a5 HM HK HA r1 r2 r3 r4 r5 r6 r7 r8 r9 r10
 go_loopw [30] (λv wr=>∃j:Nat,v=gp j/\j<=10/\acO w w10.heap.size a.heap.size j wr) (λv _=>10 - (intOf v).toNat)
 case atStart=>exact⟨0,rfl,by omega,HS.out⟩
 case round=>
  obtain⟨j,rfl,hj,h1⟩:=hrel
  by_cases H:j < 10
  .have⟨⟨es1,ck1,mp1⟩,g,o,hR,hk⟩:=h1;have rc:=Wy H;have x0:wr.cell? ⟨w10.heap.size+1,j*2,none⟩=some (gI (zM j).1):=by rw[fX o];exact rc.1
   have x1:wr.cell? ⟨w10.heap.size+1,j*2+1,none⟩=some (gI (zM j).2):=by rw[fX o];exact rc.2
   have⟨Q,n2,n3⟩:=abz H;have r:=YI H;generalize hn:(zM j).1=nm at *;generalize ht:(zM j).2=tx at *;have a3:zM j=(nm,tx):=by rw[<-hn,<-ht]
   rw[a3]at n2 r;clear hn ht a3;obtain⟨W1,x⟩:∃W1,W1=wr.alloc (.cells #[gI nm,gI tx] 186):=⟨_,rfl⟩;have N:Kept [] wr W1:=by rw[x];exact(Kept.refl _ _).alloc _
   have hX:W1.heap[wr.heap.size]?=some (gJ #[gI nm,gI tx] 186):=by rw[x];exact fZ wr _
   have⟨W2,es2,ck2,ru2,mp2,k2,s2⟩:=rY (mp1.kept N (by simp)) nm tx Q;have⟨W3,es3,ck3,ru3,mp3,k3,s3⟩:=rY mp2 (nm++⟨#[59]⟩) tx n2;have a9:=jn mp1.at_;have ag:=jn g;have bN:a.heap.size≠w10.heap.size:=λe=>by rw[<-e,mp1.at_]at g;simp at g
   have bG:a.heap.size≠w10.heap.size+1:=λe=>by rw[<-e,mp1.at_]at o;simp at o
   have A:a.heap.size≠w.heap.size:=λe=>by rw[<-e,mp1.at_]at hR;simp at hR
   have D:=N.at g (by simp);have E:=k2.at D (by grind);have F:=k2.at hX (by simp;omega);have a0:=fX g 0;have a1:=fX D 0;have a2:=fX E 0;have y0:=fX hX 0;have y1:=fX hX 1;have z0:=fX F 0;have z1:=fX F 1;dsimp at a0 a1 a2 y0 y1 z0 z1;have HE:Hid (acO w w10.heap.size a.heap.size (j+1) W3):=by
    refine⟨⟨es3,ck3,by rw[r];exact mp3⟩,k3.at E (by grind),k3.at (k2.at (N.at o (by simp)) (by grind)) (by grind),k3.at (k2.at (N.at hR (by simp)) (by grind)) (by grind),?_⟩;have aj:=s.out;exact((hk.trans N).next k2 (by simp;omega)).next k3 (by simp;omega)
   rw[x]at ru2;clear a1 y0 y1 mp1 g o hR hk rc Q n2 r N hX mp2 k2 s2 mp3 k3 s3 D E F bN bG A a9;clear x;go_wp2;go_roundw
   case rel=>exact⟨j+1,by go_num,by omega,HE.out⟩
   case measure=>simp[intOf];omega
  .have a8:j=10:=by omega
   subst a8;have⟨⟨es1,ck1,mp1⟩,g,o,hR,hk⟩:=h1;have a0:=fX g 0;dsimp at a0;have ab:=run_range_map (P:=prog) wr 127 9 185 a.heap.size es1 ck1 underlying127 mp1.at_;have ki:Kept [] wr (wr.alloc (.mapIter (some a.heap.size) ck1 #[] ck1)):=(Kept.refl _ _).alloc _;have S:Hid (acP w w10.heap.size a.heap.size wr.heap.size es1 ck1 (wr.alloc (.mapIter (some a.heap.size) ck1 #[] ck1)) #[] ck1 0):=
    ⟨fZ wr _,ij _,mp1.kept ki (by simp),ki.at g (by simp),ki.at hR (by simp),by omega,by simp,hk.trans ki,by simp⟩
   have C:w10.heap.size≠wr.heap.size:=by have:=jn g;omega
   have A:w.heap.size≠wr.heap.size:=by have:=jn hR;omega
   have K:a.heap.size≠wr.heap.size:=by have:=jn mp1.at_;omega
   have k:w.heap.size≠w10.heap.size:=by have:=Hz.out;omega
   have i:w10.heap.size≠a.heap.size:=by have:=Hz.out;have:=s.out;omega
   have R:=(show w.heap.size<=wr.heap.size from hk.size);have Hb:=And.intro C (And.intro A (And.intro K (And.intro k i)));clear mp1 g o hR hk ki C A K k i
   go_wp21
   clear ab a0;obtain⟨m,Y⟩:∃m,m=wr.heap.size:=⟨_,rfl⟩;rw[<-Y]at S Hb R|-;clear Y
   go_loopw [] (λwq=>∃d c0 M,acP w w10.heap.size a.heap.size m es1 ck1 wq d c0 M) (λwq=>(leftOf es1 (wq.iterSeen m)).size)
   case atStart=>exact⟨_,_,_,S.out⟩
   case round=>
    have⟨d,c0,M,h2⟩:=hrel;have⟨C,A,K,k,i⟩:=Hb;have I:wr.iterSeen m=d:=by unfold World.iterSeen;rw[h2.iter]
    rcases run_next_at (P:=prog) wr 0 m a.heap.size ck1 c0 d es1 ck1 h2.iter h2.mp.at_ h2.mp.old h2.late with⟨h0,B⟩|⟨u,G,wv,ac,B⟩
    .have hM:M=8:=by
      have h8:=Xi;rw[List.any_eq_true]at h8;have⟨p,hp,a4⟩:=h8;have⟨e,V,hk⟩:=Yc h2.mp.kvs hp;have h9:=h2.TP e V (all_seen es1 d h0 e V);rw[hk]at h9;have ae:p.1.size=8:=by simpa using a4
      have af:p.1.size<=M:=h9;have:=h2.le;omega
     subst hM;have n0:=fX h2.nam 0;have Q:=fX h2.nam 1;have d0:=fX h2.res 0;have d1:=fX h2.res 1;have f0:=gG h2.res 0;have f1:=gG h2.res 1;dsimp at n0 Q d0 d1;have HK:Kept [] w ((wr.setCell ⟨w.heap.size,0,none⟩ (.map (some a.heap.size))).setCell ⟨w.heap.size,1,none⟩ (gp 8)):=(h2.kept.setCell (.inr (ij _)) _).setCell (.inr (ij _)) _;have kr:Kept [w.heap.size] wr ((wr.setCell ⟨w.heap.size,0,none⟩ (.map (some a.heap.size))).setCell ⟨w.heap.size,1,none⟩ (gp 8)):=((Kept.refl _ _).setCell (.inl (by simp)) _).setCell (.inl (by simp)) _;have HL:=((h2.mp.kept kr (by simp;have:=s.out;omega)).lk OG);have aa:w.heap.size<=a.heap.size:=by have:=s.out;omega
     clear h2 I h0 kr C A K k i;go_wp2;refine qe (v:= .agg #[.map (some a.heap.size),gp 8]) ?_ rfl ⟨_,rfl,aa,HL,HK⟩;simp[results,results46,asAddr,Result.andThen,go_sem,d0,d1]
    .have⟨he1,he2⟩:=mem_left G;have⟨p,hp,hkey⟩:=adw h2.mp.kvs he1;have a4:p.1.size<=8:=by
      have:=List.all_eq_true.1 Z4 p hp
      simpa using this
     have ad:=left_shrinks es1 d u G;obtain⟨z,y⟩:∃z,z=setBlock wv m (.mapIter (some a.heap.size) ck1 (d.push u.born) ck1):=⟨_,rfl⟩;rw[<-y,hkey]at B;have f:Kept [] wr wv:=by rcases ac with rfl|rfl;exact Kept.refl _ _;exact(Kept.refl _ _).drew
     have O:Kept [m] wv z:=by rw[y];exact Bw (Kept.refl _ _) (.inl (by simp)) _
     have iz:z.heap[m]?=some (.mapIter (some a.heap.size) ck1 (d.push u.born) ck1):=by rw[y];exact Gj (lU h2.size f.size) _
     have mz:=(h2.mp.kept f (by simp)).kept O (by simpa using K);have nz:=O.at (f.at h2.nam (by simp)) (by simpa using C);have rz:=O.at (f.at h2.res (by simp)) (by simpa using A);have X:=run_entry_at (P:=prog) z m a.heap.size ck1 d es1 ck1 u iz mz.at_ he1 mz.nod;rw[hkey]at X;have Q:=fX nz 1;have f1:=gG nz 1;dsimp at Q;have ah:max (M:Int) (p.1.size:Int)=((max M p.1.size:Nat):Int):=by omega
     have r:Kept [w10.heap.size] z (z.setCell ⟨w10.heap.size,1,none⟩ (gp ((max M p.1.size:Nat)))):=(Kept.refl _ _).setCell (.inl (by simp)) _;have a6:=gh nz 1 (gp ((max M p.1.size:Nat)));have HE:Hid (acP w w10.heap.size a.heap.size m es1 ck1 (z.setCell ⟨w10.heap.size,1,none⟩ (gp ((max M p.1.size:Nat)))) (d.push u.born) ck1 (max M p.1.size)):=by
      refine⟨r.at iz (by simpa using λe=>C e.symm),ij _,mz.kept r (by simpa using λe=>i e.symm),a6,r.at rz (by simpa using k),by have:=h2.le;omega,?_,?_,?_⟩
      .intro e V hc;rw[contains_push]at hc;rcases Bool.or_eq_true_iff.1 hc with h|h
       .have:=h2.TP e V h;omega
       .have e1:e.born=u.born:=by simpa using h
        have e2:e=u:=by
         have q1:=find_born e es1.toList h2.mp.nod V;have q2:=find_born u es1.toList h2.mp.nod he1;rw[e1,q2]at q1;exact(jK q1).symm
        rw[e2,hkey];show p.1.size<=_;omega
      .have ak:=Hz.out;have al:=jn h2.res;exact((h2.kept.trans f).next O (by simp;exact R)).next r (by simp;omega)
      .exact lU h2.size (jN f.size (jN O.size r.size))
     have ai:(z.setCell ⟨w10.heap.size,1,none⟩ (gp ((max M p.1.size:Nat)))).iterSeen m=d.push u.born:=by unfold World.iterSeen;rw[HE.out.iter]
     clear h2 mz nz rz iz f O r a6 y he1 he2 G hp hkey C A K k i;generalize p.1=am at *;go_wp2;go_roundw
     case rel=>exact⟨_,_,_,HE.out⟩
     simp_all
def ye (s:gz) (i:Nat):Bool:=!(decide (bt s i=10)&&decide (0 < i)&&decide (bt s (i - 1)=13))
def gM (s:gz) (n:Nat):List Nat:=(List.range n).filter (ye s)
def TX (s:gz) (k:Nat):Int:=if bt s k=13 then 10 else bt s k
def chB (s:gz) (k:Nat):UInt8:=(TX s k).toNat.toUInt8
def zI (s:gz):gz:=⟨((gM s s.size).map (chB s)).toArray⟩
def GN {s:gz} {n:Nat} (h:ye s n=true):gM s (n+1)=gM s n++[n]:=by unfold gM;rw[List.range_succ,List.filter_append];simp[h]
def XC {s:gz} {n:Nat} (h:ye s n=false):gM s (n+1)=gM s n:=by unfold gM;rw[List.range_succ,List.filter_append];simp[h]
theorem GM (s:gz) (n:Nat):(gM s n).length<=n:=by
 grind[gM]
def AP (s:gz):(zI s).size=(gM s s.size).length:=by show(((gM s s.size).map (chB s)).toArray).size=_;simp
theorem Vu (s:gz) (k:Nat):0<=TX s k/\TX s k<=255:=by
 have a:=bt_nonneg s k;have b:=bt_le s k
 grind[TX]
def Vt (s:gz) (k:Nat):((chB s k).toNat:Int)=TX s k:=by
 have:=Vu s k;unfold chB;simp;omega
def uX (s:gz) (n:Nat):List gP:=(gM s n).map λk=> .int .u8 (TX s k)
def qh (s:gz) (n:Nat):List gP:=(gM s n).map λk:Nat=> gp k
theorem np {w:gw} {e f:Nat} {e1 e2:TypeId} {q r:Nat} {v1 v2:gP} {o p:Nat} {s u:List gP} (g:w.ownsRow e e1 q v1 o s) (i:w.ownsRow f e2 r v2 p u) (m:e1≠e2) (k:Nat) (b:v1.ownBlock=some k):v2.ownBlock≠some k:=by
 intro a;rcases g.2 with⟨h,_⟩|⟨y,v,A,h,_,j,_⟩
 .rw[h]at b;cases b
 rcases i.2 with⟨d,_⟩|⟨z,x,B,d,_,l,_⟩
 .rw[d]at a;cases a
 rw[h]at b;rw[d]at a;obtain rfl:=jK b;obtain rfl:=jK a
 grind
def Yy:(prog.info? 3).map (λi=>(i.zero,i.size,i.bytes))=some (some (gp 0),1,8):=by kernel_rfl
theorem JG {w w':gw} {base n:Nat} {v:gP} {l:List UInt8} (e:w.ownsRow base 5 1 v n (l.map λb=> .int .u8 (b.toNat:Int))) (r:l.length=n) (i:∀k,v.ownBlock=some k->w'.heap[k]?=w.heap[k]?):
  (convert 50 9 v).run prog w'= .ok (gI ⟨l.toArray⟩) w':=by
 rcases e.2 with⟨rfl,m⟩|⟨g,d,f,rfl,o,p,s⟩
 .have:l=[]:=Xa (by omega);subst this;have:=run_convert_bytes_nil (P:=prog) (w:=w') 50 5 underlying50 underlying5 0 0;exact this 9 underlying9
 .have h:=Oz (P:=prog) w' 50 9 5 ⟨g,0,none⟩ d l underlying50 underlying5 underlying9 (λj q=>by
   rw[ZN (w:=w) (a:=(⟨g,0,none⟩:Addr).add j) (by rw[jq];exact i g rfl)];exact e.cells (g:=g) rfl j _ (by grind))
  grind
structure RM (s:gz) (w:gw) (k:Nat) (vb va:gP) (wr:gw):Prop where
 b:wr.ownsRow w.heap.size 5 1 vb (gM s k).length (uX s k)
 a:wr.ownsRow w.heap.size 3 1 va (gM s k).length (qh s k)
 kept:Kept [] w wr
theorem Yk (s:gz) (tv:gP) (base:Nat) (w:gw) (ho:w.ownsRow base 5 1 tv s.size (jY s)) (hs:s.size<=1024):
  Calls prog 47 #[tv] w λe w'=>∃av,e=ir (.tuple #[gI (zI s),av])/\w'.ownsRow w.heap.size 3 1 av ((gM s s.size).length+1) (qh s s.size++[gp s.size])/\Kept [] w w':=by
 have⟨iu,hiu,hu0,hu1,hu2⟩:=vp Nv;obtain⟨ii,U,R,S,T⟩:=vp Yy;have⟨ao,cp,htv⟩:=gH ho;subst htv;have HC:∀(wr:gw),Kept [] w wr->∀j,j < s.size->∃g,ao=some ⟨g,0,none⟩/\wr.cell? ⟨g,j,none⟩=some (.int .u8 (bt s j)):=by
  intro wr X j f;rcases ho.2 with⟨h,h0⟩|⟨g,ah,aw,h,_,hc,_⟩
  .omega
  .have a1:ao=some ⟨g,0,none⟩:=by simpa using sI (λv=>match v with| .slice a _ _=>a|_=>none) h
   refine⟨g,a1,?_⟩;rw[X.cell (p:=⟨g,j,none⟩) (jn hc) (by simp)];have h1:=ho.cells (g:=g) (by rw[h];rfl) j (.int .u8 (bt s j)) (by
    unfold jY;rw[UU,rq (by simp_all)];simp only[Option.map_some];rw[show((s.data.toList[j]'(by simp_all)).toNat:Int)=bt s j from by unfold bt;rw[xI f];rfl])
   rwa [jq]at h1
 have H0:Hid (RM s w 0 (jX) (jX) w):=⟨oY _ _ _ _,oY _ _ _ _,Kept.refl _ _⟩;clear ho;go_enter func47,ntmps47
 go_wp21
 go_loopw [4,5,10] (λvb va v wr=>∃k:Nat,v=gp k/\k<=s.size/\RM s w k vb va wr) (λ_ _ v _=>s.size - (intOf v).toNat)
 case atStart=>exact⟨0,rfl,iP _,H0⟩
 case round=>
  obtain⟨k,rfl,X,O⟩:=hrel
  by_cases aq:k < s.size
  .have⟨g,a1,c1⟩:=HC wr O.kept k aq;subst a1;have l:=O;have⟨bo,bc,hvb⟩:=gH O.b;have⟨ax,ac,hva⟩:=gH O.a;subst hvb hva;have h0:=bt_nonneg s k;have h1:=bt_le s k;have aj:=GM s k
   by_cases H:bt s k=10
   .by_cases an:k=0
    .subst an;have E:ye s 0=true:=by unfold ye;simp
     have z:TX s 0=10:=by unfold TX;rw[H];rfl
     rw[H]at c1;have V:=GN E;have Q:=fW V;have J:=fW z;clear V z;go_wp2_with (at_builtin;refine iL _ rfl _ _ 50 rfl w.heap.size 5 iu (.int .u8 0) 1 1 underlying50 hiu hu0 hu1 hu2 rfl (by decide) _ _ _ rfl (l.b.alloc _) ⟨wr.heap.size,0,none⟩ 1 1 [.int .u8 10] rfl ?c1 ?F ?c3 ?c4 ?c5 ?c6 ?_)
     case c1=>rfl
     case F=>
      intro j u f
      match j,f with
      |0,f=>simp at f;subst f;simp[Addr.add]
     case c3=>intro u q;simp at q;subst q;rfl
     case c4=>unfold maxLen;omega
     case c5=>omega
     case c6=>have:=l.kept.size;simp;omega
     intro a5 D o A a2;have⟨bo',bc',hvb⟩:=gH o;subst hvb;have r:Kept [] w D:=(l.kept.alloc _).grown A (λx d=> .inr (l.b.lt x d).1);have i:D.ownsRow w.heap.size 3 1 (.slice ax (gM s 0).length ac) (gM s 0).length (qh s 0):=by
      have K:Kept (Value.slice bo (gM s 0).length bc).ownBlock.toList (wr.alloc (.cells #[.int .u8 10] 5)) D:=(Kept.refl _ _).grown A (λx d=> .inl (by simp[d]));exact K.ownsRow (l.a.alloc _) (λx d=>by simp;exact λL=>np l.b l.a (by decide) x L d)
     have y:=fW o;clear o;go_wp2_with (at_builtin;refine iL _ rfl _ _ 29 rfl w.heap.size 3 ii (gp 0) 1 8 underlying29 U R S T rfl (by decide) _ _ _ rfl (i.alloc _) ⟨D.heap.size,0,none⟩ 1 1 [gp ((0:Nat))] rfl ?c1 ?F ?c3 ?c4 ?c5 ?c6 ?_)
     case c1=>rfl
     case F=>
      intro j u f
      match j,f with
      |0,f=>simp at f;subst f;simp[Addr.add]
     case c3=>intro u q;simp at q;subst q;rfl
     case c4=>unfold maxLen;omega
     case c5=>omega
     case c6=>have:=r.size;simp;omega
     intro a4 W C B a3;have⟨ao',ac',hva⟩:=gH C;subst hva;have Y:Hid (RM s w (0+1) (.slice bo' ((gM s 0).length+1) bc') (.slice ao' ((gM s 0).length+1) ac') W):=by
      have K:Kept (Value.slice ax (gM s 0).length ac).ownBlock.toList (D.alloc (.cells #[gp ((0:Nat))] 3)) W:=(Kept.refl _ _).grown B (λx d=> .inl (by simp[d]));refine⟨?_,?_,(r.alloc _).grown B (λx d=> .inr (i.lt x d).1)⟩
      .unfold uX;rw[Q.out,ru,p6];have:=K.ownsRow (y.alloc _) (λx d=>by simp;exact λL=>np i y (by decide) x L d)
       simpa [uX,J.out]using this
      .unfold qh;rw[Q.out,ru,p6]
       simpa [qh]using C
     generalize (gM s 0).length=a0 at *;go_wp2;go_roundw
     case rel=>exact⟨0+1,by go_num,by omega,Y⟩
     case measure=>simp[intOf];omega
    .have F:wr.cell? ⟨g,k - 1,none⟩=some (.int .u8 (bt s (k - 1))):=by
      have⟨g',G,F⟩:=HC wr l.kept (k - 1) (by omega);obtain rfl:g=g':=by simpa using G
      exact F
     obtain⟨m,rfl⟩:∃m,k=m+1:=⟨k - 1,by omega⟩;simp only[Ke]at F
     by_cases I:bt s m=13
     .have E:ye s (m+1)=false:=by unfold ye;simp[H,I]
      have Y:Hid (RM s w (m+1+1) (.slice bo (gM s (m+1)).length bc) (.slice ax (gM s (m+1)).length ac) wr):=by
       have:=l;refine⟨?_,?_,this.kept⟩
       .have h:=this.b;unfold uX at h|-;rw[XC E];exact h
       .have h:=this.a;unfold qh at h|-;rw[XC E];exact h
      rw[H]at c1;rw[I]at F;generalize (gM s (m+1)).length=a0 at *;go_wp2;go_roundw
      case rel=>exact⟨m+1+1,by go_num,by omega,Y⟩
      case measure=>simp[intOf];omega
     .have E:ye s (m+1)=true:=by unfold ye;simp[I]
      have z:TX s (m+1)=10:=by unfold TX;rw[H];rfl
      have au:¬bt s m=13:=I;rw[H]at c1;have m0:=bt_nonneg s m;have m1:=bt_le s m;have V:=GN E;have Q:=fW V;have J:=fW z;clear V z;go_wp2_with (at_builtin;refine iL _ rfl _ _ 50 rfl w.heap.size 5 iu (.int .u8 0) 1 1 underlying50 hiu hu0 hu1 hu2 rfl (by decide) _ _ _ rfl (l.b.alloc _) ⟨wr.heap.size,0,none⟩ 1 1 [.int .u8 10] rfl ?c1 ?F ?c3 ?c4 ?c5 ?c6 ?_)
      case c1=>rfl
      case F=>
       intro j u f
       match j,f with
       |0,f=>simp at f;subst f;simp[Addr.add]
      case c3=>intro u q;simp at q;subst q;rfl
      case c4=>unfold maxLen;omega
      case c5=>omega
      case c6=>have:=l.kept.size;simp;omega
      intro a5 D o A a2;have⟨bo',bc',hvb⟩:=gH o;subst hvb;have r:Kept [] w D:=(l.kept.alloc _).grown A (λx d=> .inr (l.b.lt x d).1);have i:D.ownsRow w.heap.size 3 1 (.slice ax (gM s (m+1)).length ac) (gM s (m+1)).length (qh s (m+1)):=by
       have K:Kept (Value.slice bo (gM s (m+1)).length bc).ownBlock.toList (wr.alloc (.cells #[.int .u8 10] 5)) D:=(Kept.refl _ _).grown A (λx d=> .inl (by simp[d]));exact K.ownsRow (l.a.alloc _) (λx d=>by simp;exact λL=>np l.b l.a (by decide) x L d)
      have y:=fW o;clear o;go_wp2_with (at_builtin;refine iL _ rfl _ _ 29 rfl w.heap.size 3 ii (gp 0) 1 8 underlying29 U R S T rfl (by decide) _ _ _ rfl (i.alloc _) ⟨D.heap.size,0,none⟩ 1 1 [gp (((m+1):Nat):Int)] rfl ?c1 ?F ?c3 ?c4 ?c5 ?c6 ?_)
      case c1=>rfl
      case F=>
       intro j u f
       match j,f with
       |0,f=>simp at f;subst f;simp[Addr.add]
      case c3=>intro u q;simp at q;subst q;rfl
      case c4=>unfold maxLen;omega
      case c5=>omega
      case c6=>have:=r.size;simp;omega
      intro a4 W C B a3;have⟨ao',ac',hva⟩:=gH C;subst hva;have Y:Hid (RM s w ((m+1)+1) (.slice bo' ((gM s (m+1)).length+1) bc') (.slice ao' ((gM s (m+1)).length+1) ac') W):=by
       have K:Kept (Value.slice ax (gM s (m+1)).length ac).ownBlock.toList (D.alloc (.cells #[gp (((m+1):Nat):Int)] 3)) W:=(Kept.refl _ _).grown B (λx d=> .inl (by simp[d]));refine⟨?_,?_,(r.alloc _).grown B (λx d=> .inr (i.lt x d).1)⟩
       .unfold uX;rw[Q.out,ru,p6];have:=K.ownsRow (y.alloc _) (λx d=>by simp;exact λL=>np i y (by decide) x L d)
        simpa [uX,J.out]using this
       .unfold qh;rw[Q.out,ru,p6]
        simpa [qh]using C
      generalize (gM s (m+1)).length=a0 at *;go_wp2;go_roundw
      case rel=>exact⟨(m+1)+1,by go_num,by omega,Y⟩
      case measure=>simp[intOf];omega
   .by_cases I:bt s k=13
    .have E:ye s k=true:=by unfold ye;simp[H]
     have z:TX s k=10:=by unfold TX;rw[I];rfl
     rw[I]at c1;have V:=GN E;have Q:=fW V;have J:=fW z;clear V z;go_wp2_with (at_builtin;refine iL _ rfl _ _ 50 rfl w.heap.size 5 iu (.int .u8 0) 1 1 underlying50 hiu hu0 hu1 hu2 rfl (by decide) _ _ _ rfl (l.b.alloc _) ⟨wr.heap.size,0,none⟩ 1 1 [.int .u8 10] rfl ?c1 ?F ?c3 ?c4 ?c5 ?c6 ?_)
     case c1=>rfl
     case F=>
      intro j u f
      match j,f with
      |0,f=>simp at f;subst f;simp[Addr.add]
     case c3=>intro u q;simp at q;subst q;rfl
     case c4=>unfold maxLen;omega
     case c5=>omega
     case c6=>have:=l.kept.size;simp;omega
     intro a5 D o A a2;have⟨bo',bc',hvb⟩:=gH o;subst hvb;have r:Kept [] w D:=(l.kept.alloc _).grown A (λx d=> .inr (l.b.lt x d).1);have i:D.ownsRow w.heap.size 3 1 (.slice ax (gM s k).length ac) (gM s k).length (qh s k):=by
      have K:Kept (Value.slice bo (gM s k).length bc).ownBlock.toList (wr.alloc (.cells #[.int .u8 10] 5)) D:=(Kept.refl _ _).grown A (λx d=> .inl (by simp[d]));exact K.ownsRow (l.a.alloc _) (λx d=>by simp;exact λL=>np l.b l.a (by decide) x L d)
     have y:=fW o;clear o;go_wp2_with (at_builtin;refine iL _ rfl _ _ 29 rfl w.heap.size 3 ii (gp 0) 1 8 underlying29 U R S T rfl (by decide) _ _ _ rfl (i.alloc _) ⟨D.heap.size,0,none⟩ 1 1 [gp ((k:Nat))] rfl ?c1 ?F ?c3 ?c4 ?c5 ?c6 ?_)
     case c1=>rfl
     case F=>
      intro j u f
      match j,f with
      |0,f=>simp at f;subst f;simp[Addr.add]
     case c3=>intro u q;simp at q;subst q;rfl
     case c4=>unfold maxLen;omega
     case c5=>omega
     case c6=>have:=r.size;simp;omega
     intro a4 W C B a3;have⟨ao',ac',hva⟩:=gH C;subst hva;have Y:Hid (RM s w (k+1) (.slice bo' ((gM s k).length+1) bc') (.slice ao' ((gM s k).length+1) ac') W):=by
      have K:Kept (Value.slice ax (gM s k).length ac).ownBlock.toList (D.alloc (.cells #[gp ((k:Nat))] 3)) W:=(Kept.refl _ _).grown B (λx d=> .inl (by simp[d]));refine⟨?_,?_,(r.alloc _).grown B (λx d=> .inr (i.lt x d).1)⟩
      .unfold uX;rw[Q.out,ru,p6];have:=K.ownsRow (y.alloc _) (λx d=>by simp;exact λL=>np i y (by decide) x L d)
       simpa [uX,J.out]using this
      .unfold qh;rw[Q.out,ru,p6]
       simpa [qh]using C
     generalize (gM s k).length=a0 at *;go_wp2;go_roundw
     case rel=>exact⟨k+1,by go_num,by omega,Y⟩
     case measure=>simp[intOf];omega
    .have E:ye s k=true:=by unfold ye;simp[H]
     have z:TX s k=bt s k:=by unfold TX;rw[gR I]
     have V:=GN E;have Q:=fW V;have J:=fW z;clear V z;go_wp2_with (at_builtin;refine iL _ rfl _ _ 50 rfl w.heap.size 5 iu (.int .u8 0) 1 1 underlying50 hiu hu0 hu1 hu2 rfl (by decide) _ _ _ rfl (l.b.alloc _) ⟨wr.heap.size,0,none⟩ 1 1 [.int .u8 (bt s k)] rfl ?c1 ?F ?c3 ?c4 ?c5 ?c6 ?_)
     case c1=>rfl
     case F=>
      intro j u f
      match j,f with
      |0,f=>simp at f;subst f;simp[Addr.add]
     case c3=>intro u q;simp at q;subst q;rfl
     case c4=>unfold maxLen;omega
     case c5=>omega
     case c6=>have:=l.kept.size;simp;omega
     intro a5 D o A a2;have⟨bo',bc',hvb⟩:=gH o;subst hvb;have r:Kept [] w D:=(l.kept.alloc _).grown A (λx d=> .inr (l.b.lt x d).1);have i:D.ownsRow w.heap.size 3 1 (.slice ax (gM s k).length ac) (gM s k).length (qh s k):=by
      have K:Kept (Value.slice bo (gM s k).length bc).ownBlock.toList (wr.alloc (.cells #[.int .u8 (bt s k)] 5)) D:=(Kept.refl _ _).grown A (λx d=> .inl (by simp[d]));exact K.ownsRow (l.a.alloc _) (λx d=>by simp;exact λL=>np l.b l.a (by decide) x L d)
     have y:=fW o;clear o;go_wp2_with (at_builtin;refine iL _ rfl _ _ 29 rfl w.heap.size 3 ii (gp 0) 1 8 underlying29 U R S T rfl (by decide) _ _ _ rfl (i.alloc _) ⟨D.heap.size,0,none⟩ 1 1 [gp ((k:Nat))] rfl ?c1 ?F ?c3 ?c4 ?c5 ?c6 ?_)
     case c1=>rfl
     case F=>
      intro j u f
      match j,f with
      |0,f=>simp at f;subst f;simp[Addr.add]
     case c3=>intro u q;simp at q;subst q;rfl
     case c4=>unfold maxLen;omega
     case c5=>omega
     case c6=>have:=r.size;simp;omega
     intro a4 W C B a3;have⟨ao',ac',hva⟩:=gH C;subst hva;have Y:Hid (RM s w (k+1) (.slice bo' ((gM s k).length+1) bc') (.slice ao' ((gM s k).length+1) ac') W):=by
      have K:Kept (Value.slice ax (gM s k).length ac).ownBlock.toList (D.alloc (.cells #[gp ((k:Nat))] 3)) W:=(Kept.refl _ _).grown B (λx d=> .inl (by simp[d]));refine⟨?_,?_,(r.alloc _).grown B (λx d=> .inr (i.lt x d).1)⟩
      .unfold uX;rw[Q.out,ru,p6];have:=K.ownsRow (y.alloc _) (λx d=>by simp;exact λL=>np i y (by decide) x L d)
       simpa [uX,J.out]using this
      .unfold qh;rw[Q.out,ru,p6]
       simpa [qh]using C
     generalize (gM s k).length=a0 at *;go_wp2;go_roundw
     case rel=>exact⟨k+1,by go_num,by omega,Y⟩
     case measure=>simp[intOf];omega
  .have ap:k=s.size:=by omega
   subst ap;have l:=O;have⟨bo,bc,hvb⟩:=gH O.b;have⟨ax,ac,hva⟩:=gH O.a;subst hvb hva;have aj:=GM s s.size;have al:uX s s.size=((gM s s.size).map (chB s)).map λb=> .int .u8 (b.toNat:Int):=by
    unfold uX;rw[RE];refine U0 λk _=>?_;simp only[Function.comp];rw[Vt]
   have N:=O.b;rw[al]at N;obtain⟨wa,Z⟩:∃wa,wa=(wr.alloc (.cells #[gp s.size] 3)).drew:=⟨_,rfl⟩;have ka:Kept [] wr wa:=by rw[Z];exact((Kept.refl [] wr).alloc _).drew
   have aa:=ka.ownsRow O.a (λ_ _=>by simp);have za:wa.heap.size=wr.heap.size+1:=by rw[Z];simp
   have az:=O.kept.size;have a9:Hid (∀(j:Nat) (u:gP),[Value.int .i64 (s.size:Int)][j]?=some u->wa.cell? ((⟨wr.heap.size,0,none⟩:Addr).add j)=some u):=by
    intro j u f
    match j,f with
    |0,f=>
     simp at f;subst f;have:=fZ wr (.cells #[gp s.size] 3);rw[jq,Z];simp
   have ar:∀k,(Value.slice bo (gM s s.size).length bc).ownBlock=some k->some k≠(Value.slice ax (gM s s.size).length ac).ownBlock:=λk X h=>np O.b O.a (by decide) k X h.symm;have ai:=JG (w':=wr.drew) N (by simp) (λ_ _=>rfl);have ab:=JG (w':=wa) N (by simp) (λk X=>ka.block k (N.lt k X).2 (by simp));have a7:Hid (∀P:gw,wa.grownBy P (Value.slice ax (gM s s.size).length ac).ownBlock->(convert 50 9 (.slice bo (gM s s.size).length bc)).run prog P= .ok (gI (zI s)) P):=λP G=>
    JG (w':=P) N (by simp) (λk X=>(G.block k (by have:=(N.lt k X).2;omega) (ar k X)).trans (ka.block k (N.lt k X).2 (by simp)))
   have a8:Hid (∀P:gw,wa.grownBy P (Value.slice ax (gM s s.size).length ac).ownBlock->Kept [] w P):=λP G=>(O.kept.trans ka).grown G (λx d=> .inr (O.a.lt x d).1);have a6:=(show w.heap.size<=wa.heap.size by omega);rw[Z]at ab a7 a8 aa a9 a6;have am:(⟨((gM s s.size).map (chB s)).toArray⟩:gz)=zI s:=rfl;rw[am]at ai ab
   go_wp21
   go_region_law (refine step_append_lies _ rfl (.tmp 42) (.tmp 45) 29 rfl w.heap.size 3 ii (gp 0) 1 8 underlying29 U R S T rfl (by decide) _ _ _ (by rfl) aa ⟨wr.heap.size,0,none⟩ 1 1 [gp s.size] (by rfl) rfl a9 (by intro u q;simp at q;subst q;rfl) (by decide) (by unfold maxLen;omega) (by omega) a6 (wr.heap.size+1) (by simp) ?_;intro g ah P ae G ak ad;have ay:=a7 P G;have af:=fW (a8 P G);have ag:=fW ae;clear ae G ak ad)
   all_goals (try go_wp2)
   all_goals (try go_ret2)
   all_goals exact⟨_,rfl,ag,af⟩
def kF (s:gz) (i:Nat):Nat:=(gM s s.size++[s.size]).getD i 0
theorem U9 (s:gz) (i:Nat) (h:i<=(zI s).size):(qh s s.size++[gp s.size])[i]?=some (gp (kF s i)):=by
 rw[AP]at h
 grind[qh,kF]
def uM (s:gz) (a:Int) (d:gP) (b:Nat):RC:={cs:=zI s,av:=d,at_:=a,mv:= .map (some b),lg:=8}
def La (s:gz) (K:gP) (base:Nat) (d:Int) (w:gw) (F:w.ownsRow base 5 1 K s.size (jY s)) (X:s.size<=1024):
  Calls prog 34 #[K,gp d] w λe z=>∃r b u g a,e=ir (gL r)/\w.heap.size<=r/\w.heap.size<=b/\w.heap.size<=g/\Rd z r (uM s d u b) 0 0/\Ly z r (uM s d u b) g a (kF s)/\Lk z b (pK KV)/\b≠r/\(∃x,z.heap[g]?=some (gJ x 3))/\Kept [] w z:=by
 have⟨ao,cp,htv⟩:=gH F;subst htv;have O:=fW F;clear F;go_enter func34,ntmps34
 go_wp21
 refine(QF w).mono ?_;rintro e j ⟨b,rfl,Q,I,m⟩;have J:Kept [] j (j.alloc (.cells #[gI kJ,jX,gp 0,gp 0,gp d,.map (some b),gp 8,gI kJ,.bool false] 132)):=(Kept.refl _ _).alloc _;have P:=fZ j (.cells #[gI kJ,jX,gp 0,gp 0,gp d,.map (some b),gp 8,gI kJ,.bool false] 132);have N:=Yk s (.slice ao s.size cp) base _ ((m.trans J).ownsRow O (λ_ _=>by simp)) X;have A:=m.trans J;have v:=m.size
 go_wp21
 refine N.mono ?_;rintro e L ⟨u,rfl,l,o⟩;have k:=o.at P (by simp);have R:=fX k 0;have S:=fX k 1;have Z:=gG k 0;have f1:=gG k 1;dsimp at R S;have⟨ax,ac,hv⟩:=gH l;subst hv;obtain⟨f,q⟩:∃f,f=(L.setCell ⟨j.heap.size,0,none⟩ (gI (zI s))).setCell ⟨j.heap.size,1,none⟩ (.slice ax ((gM s s.size).length+1) ac):=⟨_,rfl⟩;have y:Kept [j.heap.size] L f:=by rw[q];exact((Kept.refl _ _).setCell (.inl (by simp)) _).setCell (.inl (by simp)) _
 have Y:Rd f j.heap.size (uM s d (.slice ax ((gM s s.size).length+1) ac) b) 0 0:=by
  rw[q];exact gh (gh k 0 _) 1 _
 have U:b < j.heap.size:=I.lt;have C:Lk f b (pK KV):=((I.kept ((Kept.refl [] j).alloc _) (by simp)).kept o (by simp)).kept y (by simp;omega);have B:∃g a,(w.heap.size<=g/\∃x,f.heap[g]?=some (gJ x 3))/\Ly f j.heap.size (uM s d (.slice ax ((gM s s.size).length+1) ac) b) g a (kF s):=by
  rcases l.2 with⟨_,h0⟩|⟨g,a,T,h,D,E,_⟩
  .omega
  .have V:j.heap.size < g:=by simp at D;omega
   refine⟨g,a,⟨by omega,⟨_,y.at E (by simp;omega)⟩⟩,?_,by omega,lU (jn E) y.size,λi W=>?_⟩
   .show Value.slice ax _ ac=_;rw[h];show Value.slice _ _ _=Value.slice _ ((zI s).size+1) _;rw[AP]
   .rw[y.cell (p:=⟨g,i,none⟩) (jn E) (by simp;omega)];have:=l.cells (g:=g) (by rw[h];rfl) i _ (U9 s i W);rw[jq]at this;omega
 have⟨g,a,⟨hgl,hgt⟩,hA⟩:=B;have G:Kept [] w f:=(A.trans o).next y (by simp;exact v)
 have H:Hid (∃r b u g a,ir (gL j.heap.size)=ir (gL r)/\w.heap.size<=r/\w.heap.size<=b/\w.heap.size<=g/\Rd f r (uM s d u b) 0 0/\Ly f r (uM s d u b) g a (kF s)/\Lk f b (pK KV)/\b≠r/\(∃x,f.heap[g]?=some (gJ x 3))/\Kept [] w f):=by
  exact⟨_,b,_,g,a,rfl,v,Q,hgl,Y,hA,C,by omega,hgt,G⟩
 rw[q]at H;go_wp2;go_ret;exact H
structure Sp where
 k:Int
 a:Int
 b:Int
def A8 (w:gw) (q:Nat) (a:Addr):(w.drewN q).cell? a=w.cell? a:=rfl
theorem Qi {w:gw} {base:Nat} {e:TypeId} {a n b g j:Nat} {xs:List gP} (h:w.ownsRow base e a (rh g n b) n xs) (u:gP):(w.setCell ⟨g,j,none⟩ u).ownsRow base e a (rh g n b) n (xs.set j u):=by
 have⟨h1,f⟩:=h;refine⟨by grind,?_⟩;rcases f with⟨f,_⟩|⟨r,i,d,k,p,q,l,m,s,o⟩
 .cases f
 .simp only[Value.slice.injEq,Option.some.injEq,Addr.mk.injEq,and_true,true_and]at k;obtain⟨rfl,rfl⟩:=k;refine .inr ⟨g,b,d.setIfInBounds j u,rfl,p,gh q j u,l,m,by grind,?_⟩;rw[Array.toList_setIfInBounds,List.take_set,o]
def ox (L:List Sp):List gP:=L.flatMap λp=>[gp p.k,gp p.a,gp p.b]
def pU (L M:List Sp):ox (L++M)=ox L++ox M:=by simp[ox]
theorem uA (L:List Sp):(ox L).length=L.length*3:=by
 induction L with
 |nil=>rfl
 |cons p L ih=>show(Value.int .i64 p.k:: gp p.a:: gp p.b::ox L).length=_;grind
def Fe (M:List Sp) (l:Sp) (i:Nat) (a:i < 3):(ox (M++[l]))[M.length*3+i]?=[Value.int .i64 l.k,gp l.a,gp l.b][i]?:=by
 rw[pU,List.getElem?_append_right (by rw[uA];omega),uA,show M.length*3+i - M.length*3=i by omega];rfl
def Tc (M:List Sp) (l:Sp) (b:Int):(ox (M++[l])).set (M.length*3+2) (gp b)=ox (M++[⟨l.k,l.a,b⟩]):=by
 rw[pU,pU,List.set_append_right _ _ (by rw[uA];omega),uA,show M.length*3+2 - M.length*3=2 by omega];rfl
def sx (L:List Sp) (s:Sp):List Sp:=match L.getLast? with
 |some l=>if s.k=1/\l.k=1 then L.dropLast++[⟨l.k,l.a,s.b⟩]else L++[s]
 |none=>L++[s]
def Vh (s:Sp):sx [] s=[s]:=rfl
def Vi (M:List Sp) (l s:Sp) (h:s.k=1/\l.k=1):sx (M++[l]) s=M++[⟨l.k,l.a,s.b⟩]:=by unfold sx;simp[h]
def Xw (M:List Sp) (l s:Sp) (h:¬(s.k=1/\l.k=1)):sx (M++[l]) s=M++[l]++[s]:=by unfold sx;simp[h]
theorem Vg (L:List Sp) (s:Sp):(sx L s).length<=L.length+1:=by
 grind[sx]
def LZ:(prog.info? 106).map (λi=>(i.zero,i.size,i.bytes))=some (some (.agg #[gp 0,gp 0,gp 0]),3,24):=by kernel_rfl
def wV (base:Nat) (w:gw) (v:gP) (L:List Sp) (s:Sp) (e:Ending) (w':gw):Prop:=
 ∃a,e=ir a/\w'.ownsRow base 106 3 a (sx L s).length (ox (sx L s))/\Kept v.ownBlock.toList w w'
theorem OO (base:Nat) (v:gP) (s:Sp) (w:gw) (g:w.ownsRow base 106 3 v 0 (ox [])) (d:base<=w.heap.size):
  Calls prog 41 #[v,.agg #[gp s.k,gp s.a,gp s.b]] w λe D=>wV base w v [] s e D:=by
 obtain⟨B,z,i,k,l⟩:=vp LZ;have⟨ao,cp,hv⟩:=gH g;subst hv;have⟨sk,sa,sb⟩:=s;have a:sx [] ⟨sk,sa,sb⟩=[]++[⟨sk,sa,sb⟩]:=Vh _;simp only;have F:=g;have q:=fW a;have C:Kept [] w (w.alloc (.cells #[gp sk,gp sa,gp sb] 106)):=(Kept.refl _ _).alloc _;have b:=C.ownsRow g (λ_ _=>by simp);clear a;have m:w.heap.size < w.heap.size+1:=by omega
 go_enter func41,ntmps41;go_wp2_with (at_builtin;refine iL _ rfl _ _ 56 rfl base 106 B (.agg #[gp 0,gp 0,gp 0]) 3 24 underlying56 z i k l rfl (by decide) _ _ _ rfl (b.alloc _) ⟨w.heap.size+1,0,none⟩ 1 1 [gp sk,gp sa,gp sb] rfl ?c1 ?c2 ?c3 ?c4 ?c5 ?c6 ?_)
 case c1=>rfl
 case c2=>
  intro j u G;have d:=fZ (w.alloc (.cells #[gp sk,gp sa,gp sb] 106)) (.cells #[gp sk,gp sa,gp sb] 106);simp only[ry]at d;rw[jq,fX d]
  grind
 case c3=>intro u o;simp at o;rcases o with rfl|rfl|rfl<;>rfl
 case c4=>unfold maxLen;omega
 case c5=>omega
 case c6=>simp;omega
 intro p E h f y;have r:Hid (wV base w (.slice ao 0 cp) [] ⟨sk,sa,sb⟩ (ir p) E):=by
  refine⟨p,rfl,?_,?_⟩
  .rw[q.out,pU,p6];exact h
  .exact((Kept.refl _ _).alloc _|>.alloc _).grown f (λx A=> .inl (by simp[A]))
 go_wp2;go_ret;exact r
theorem MM (base:Nat) (v:gP) (M:List Sp) (l s:Sp) (w:gw) (m:w.ownsRow base 106 3 v (M.length+1) (ox (M++[l]))) (o:base<=w.heap.size) (V:M.length<=4096) (f:¬(s.k=1/\l.k=1)):
  Calls prog 41 #[v,.agg #[gp s.k,gp s.a,gp s.b]] w λe S=>wV base w v (M++[l]) s e S:=by
 obtain⟨L,J,r,y,z⟩:=vp LZ;obtain⟨g,B,E⟩:∃g B,v=rh g (M.length+1) B:=by
  rcases m.2 with⟨_,U⟩|⟨g,O,P,h,_⟩
  all_goals grind
 have W:g < w.heap.size:=by subst E;exact(m.lt g rfl).2
 have T:w.cell? ⟨g,M.length*3,none⟩=some (gp l.k):=by
  subst E;have:=m.cells (g:=g) rfl (M.length*3) _ (by have:=Fe M l 0 (by omega);simpa using this)
  rwa [jq]at this
 obtain⟨I,Q⟩:∃I:Option Addr,I=some ⟨g,0,none⟩:=⟨_,rfl⟩;have⟨sk,sa,sb⟩:=s;simp only at f|-;have a:sx (M++[l]) ⟨sk,sa,sb⟩=(M++[l])++[⟨sk,sa,sb⟩]:=Xw M l _ f;subst E
 by_cases K:sk=1
 .have X:¬l.k=1:=λh=>f ⟨K,h⟩;subst K;clear f;have N:=m;have C:=fW a;have G:Kept [] w (w.alloc (.cells #[gp 1,gp sa,gp sb] 106)):=(Kept.refl _ _).alloc _;have i:=G.ownsRow m (λ_ _=>by simp);clear a;have p:w.heap.size < w.heap.size+1:=by omega
  go_enter func41,ntmps41;go_wp2_with (at_builtin;refine iL _ rfl _ _ 56 rfl base 106 L (.agg #[gp 0,gp 0,gp 0]) 3 24 underlying56 J r y z rfl (by decide) _ _ _ rfl (i.alloc _) ⟨w.heap.size+1,0,none⟩ 1 1 [gp 1,gp sa,gp sb] rfl ?c1 ?c2 ?c3 ?c4 ?c5 ?c6 ?_)
  case c1=>rfl
  case c2=>
   intro j u R;have o:=fZ (w.alloc (.cells #[gp 1,gp sa,gp sb] 106)) (.cells #[gp 1,gp sa,gp sb] 106);simp only[ry]at o;rw[jq,fX o]
   grind
  case c3=>intro u q;simp at q;rcases q with rfl|rfl|rfl<;>rfl
  case c4=>unfold maxLen;omega
  case c5=>omega
  case c6=>simp;omega
  intro A H d b k;have D:Hid (wV base w (rh g (M.length+1) B) (M++[l]) ⟨1,sa,sb⟩ (ir A) H):=by
   refine⟨A,rfl,?_,?_⟩
   .rw[C.out,pU,p6];rw[show(M++[l]).length+[(⟨1,sa,sb⟩:Sp)].length=M.length+1+1 from by simp];exact d
   .exact((Kept.refl _ _).alloc _|>.alloc _).grown b (λx F=> .inl (by simp[F]))
  clear d b k;go_wp2;go_ret;exact D
 .skip
  have N:=m;have C:=fW a;have G:Kept [] w (w.alloc (.cells #[gp sk,gp sa,gp sb] 106)):=(Kept.refl _ _).alloc _;have i:=G.ownsRow m (λ_ _=>by simp);clear a;have p:w.heap.size < w.heap.size+1:=by omega
  go_enter func41,ntmps41;go_wp2_with (at_builtin;refine iL _ rfl _ _ 56 rfl base 106 L (.agg #[gp 0,gp 0,gp 0]) 3 24 underlying56 J r y z rfl (by decide) _ _ _ rfl (i.alloc _) ⟨w.heap.size+1,0,none⟩ 1 1 [gp sk,gp sa,gp sb] rfl ?c1 ?c2 ?c3 ?c4 ?c5 ?c6 ?_)
  case c1=>rfl
  case c2=>
   intro j u R;have o:=fZ (w.alloc (.cells #[gp sk,gp sa,gp sb] 106)) (.cells #[gp sk,gp sa,gp sb] 106);simp only[ry]at o;rw[jq,fX o]
   grind
  case c3=>intro u q;simp at q;rcases q with rfl|rfl|rfl<;>rfl
  case c4=>unfold maxLen;omega
  case c5=>omega
  case c6=>simp;omega
  intro A H d b k;have D:Hid (wV base w (rh g (M.length+1) B) (M++[l]) ⟨sk,sa,sb⟩ (ir A) H):=by
   refine⟨A,rfl,?_,?_⟩
   .rw[C.out,pU,p6];rw[show(M++[l]).length+[(⟨sk,sa,sb⟩:Sp)].length=M.length+1+1 from by simp];exact d
   .exact((Kept.refl _ _).alloc _|>.alloc _).grown b (λx F=> .inl (by simp[F]))
  clear d b k;go_wp2;go_ret;exact D
theorem ML (base:Nat) (v:gP) (M:List Sp) (l s:Sp) (w:gw) (a:w.ownsRow base 106 3 v (M.length+1) (ox (M++[l]))) (C:M.length<=4096) (k:s.k=1) (m:l.k=1):
  Calls prog 41 #[v,.agg #[gp s.k,gp s.a,gp s.b]] w λe u=>wV base w v (M++[l]) s e u:=by
 have⟨sk,sa,sb⟩:=s;simp only at k|-;subst k;obtain⟨g,b,r⟩:∃g b,v=rh g (M.length+1) b:=by
  rcases a.2 with⟨_,B⟩|⟨g,p,d,h,_⟩
  all_goals grind
 subst r;have D:g < w.heap.size:=(a.lt g rfl).2;have x:w.cell? ⟨g,M.length*3,none⟩=some (gp 1):=by
  have:=a.cells (g:=g) rfl (M.length*3) _ (by have:=Fe M l 0 (by omega);simpa using this)
  rwa [jq,m]at this
 have y:w.cell? ⟨g,M.length*3+2,none⟩=some (gp l.b):=by
  have:=a.cells (g:=g) rfl (M.length*3+2) _ (by have:=Fe M l 2 (by omega);simpa using this)
  rwa [jq]at this
 have z:w.frozen? ⟨g,M.length*3+2,none⟩=false:=by
  rcases a.2 with⟨h,_⟩|⟨A,f,d,h,_,q,_⟩
  .cases h
  .simp only[Value.slice.injEq,Option.some.injEq,Addr.mk.injEq,and_true,true_and]at h;obtain⟨rfl,rfl⟩:=h;exact gG q _
 have o:Hid (wV base w (rh g (M.length+1) b) (M++[l]) ⟨1,sa,sb⟩ (ir (rh g (M.length+1) b)) ((w.setCell ⟨g,M.length*3+2,none⟩ (gp sb)).alloc (.cells #[gp 1,gp sa,gp sb] 106))):=by
  refine⟨_,rfl,?_,?_⟩
  .rw[Vi M l _ ⟨rfl,m⟩];have i:=Qi (j:=M.length*3+2) a (gp sb);rw[Tc]at i
   simpa using i.alloc _
  .exact((Kept.refl [g] w).setCell (.inl (by simp)) _).alloc _
 go_enter func41,ntmps41;go_wp2;go_ret;exact o
def ON (base:Nat) (v:gP) (L:List Sp) (s:Sp) (w:gw) (a:w.ownsRow base 106 3 v L.length (ox L)) (d:base<=w.heap.size) (b:L.length<=4096):
  Calls prog 41 #[v,.agg #[gp s.k,gp s.a,gp s.b]] w λe f=>wV base w v L s e f:=by
 rcases ZP L with rfl|⟨M,l,rfl⟩
 .exact OO base v s w a d
 .rw[List.concat_eq_append]at a b|-;simp only[p6,qd,uQ,C7]at a b
  by_cases h:s.k=1/\l.k=1
  .exact ML base v M l s w a (by omega) h.1 h.2
  .exact MM base v M l s w a d (by omega) h
theorem Qy (p q:Addr) (w:gw):
  CallsD prog 32 #[.pointer (some p),.pointer (some q)] .returning w λe d f=>e=p8/\d= .returning/\f=w:=by
 refine callsD_of_wpS func32 rfl λa g b=>?_;apply wpS_seq;apply wpS_region;simp[wpOpsS,go_sem,recoverD,b,ntmps32,Exit.thenS];apply wpS_seq;apply wpS_region;simp[wpOpsS,go_sem,Exit.thenS];refine wpS_cond (t:=false) (by simp[Act.eval,Array.replicate]) ?_;simp only[wP,AH];refine wpS_of_wp (wp_skip ?_);cases a
 simp_all[bodyPostS,results,results32]
def VY (E:Env) (a b:Nat) (s:gz) (w:gw):Calls prog 39 #[iF E ⟨a,b,.ke s,[]⟩] w λe f=>e=ir (gp 1)/\f=w:=by
 simp only[iF];have d:=qB underlying167;go_enter func39,ntmps39;go_wp2;go_ret;simp
def YH (E:Env) (a b:Nat) (w:gw):Calls prog 39 #[iF E ⟨a,b,.io,[]⟩] w λe k=>e=ir (gp 0)/\k=w:=by
 simp only[iF];have i:=vg;have f:=sB;have g:=vN;have d:=qv;have h:=yf;have j:=adC;go_enter func39,ntmps39;go_wp2;go_ret;simp
def O7 (E:Env) (f:Nat->Nat) (σ:Ab) (w:gw) (h:RF E f σ w):Calls prog 40 #[Bp E] w λe b=>e=ir (nV f 0)/\b=w:=by
 have c:=(At.start h).xv;have a:=h.lt;go_enter func40,ntmps40;go_wp2;go_ret;simp
def zc (r:Nat) (s:gz) (w:gw) (f:s.size<=1048576) (h:Gl w r):
  Calls prog 238 #[gI s] w λe i=>e=ir (gI (oB (small s)))/\Kept [] w i:=by
 have g:=h;go_enter func238,ntmps238
 go_wp21
 refine(vO s w f).mono ?_;rintro e j ⟨rfl,d⟩;have C:=yg r (small s) j (by rw[sn];exact f) (g.kept (d.mono (by simp)))
 go_wp21
 refine C.mono ?_;rintro e k ⟨rfl,b⟩;have a:=d.trans b;go_wp2;go_ret;exact⟨rfl,a⟩
theorem zl (r:Nat) (R:RC) (a ps:Nat) (s:gz) (w:gw) (h:Rd w r R a ps) (j:ps<=R.cs.size) (l:R.cs.size<=1024):
  Calls prog 239 #[gL r,.func (.func 241) #[] #[gL w.heap.size]] (w.alloc (.cells #[gI s] 9))
   λe d=>e=ir (gI (R.cs.extract ps (scan (jr s) R.cs ps)))/\Kept [r] w d/\Rd d r R a (scan (jr s) R.cs ps):=by
 have m:=jn h;have k:Kept [] w (w.alloc (.cells #[gI s] 9)):=(Kept.refl _ _).alloc _;have b:=fZ w (.cells #[gI s] 9);refine(Rm r R a ps _ _ _ _ (k.at h (by simp)) j l (BU _ [r] w.heap.size s (by simp) (by simp) (by grind))).mono ?_;rintro e d ⟨f,g,i⟩;exact⟨f,(k.mono (by simp)).trans g,i⟩
def IY (r:Nat) (R:RC) (f ps:Nat) (k:Nat) (a:jO) (q:Int->Bool) (w:gw) (h:Rd w r R f ps) (y:ps<=R.cs.size) (z:R.cs.size<=1024) (v:U1 w [r] k a q):
  Calls prog 143 #[gL r,.func (.func k) #[] a] w λe b=>e=ir (.bool (decide (ps < R.cs.size)&&q (bt R.cs ps)))/\∃n,b=w.drewN n:=by
 have j:=v;have t:=h.text;have p:=h.ps;have H:=h;have i:=get_bt R.cs;have l:=j.Yb;have C:=(λb (h:Rd b r R f ps)=>oE r R f ps b h)
 by_cases e:ps=R.cs.size
 .have g:decide (ps=R.cs.size)=true:=by simp[e]
  rw[g]at C;go_enter func143,ntmps143
  go_wp21
  go_quiet ((go_at_call 68;refine xH (C _ ?_);exact H))
  go_wp2;go_ret;exact⟨by simp[e],⟨_,rfl⟩⟩
 .have d:ps < R.cs.size:=by omega
  have g:decide (ps=R.cs.size)=false:=by simp[e]
  rw[g]at C;have x:=i ps d;have s:=bt_nonneg R.cs ps;have u:=bt_le R.cs ps;have D:=(λb h=>j.ask (bt R.cs ps) b s u h);have o:(decide (ps < R.cs.size)&&q (bt R.cs ps))=q (bt R.cs ps):=by simp[d]
  rw[o];have m:Hid (∀n,Kept [r] w (w.drewN n)):=λn=>(Kept.refl _ _).drewN n;cases hqv:q (bt R.cs ps)
  all_goals
   rw[hqv]at D;go_enter func143,ntmps143
   go_wp21
   go_quiet (first|(go_at_call 68;refine xH (C _ ?_);exact H)|(refine xH (D _ ?_);exact m _))
   go_wp2;go_ret;exact⟨rfl,⟨_,rfl⟩⟩
def zz (R:RC) (s:gz) (ps:Nat):Bool:=decide (s.size<=R.cs.size - ps)&&((small ((R.cs.extract ps R.cs.size).extract 0 s.size)).toList==s.toList)
theorem Zc (t:gz) (n:Nat) (h:n<=t.size):pre t (t.extract 0 n)=true:=by
 have e:(t.extract 0 n).size=n:=by simp;omega
 grind[pre]
def Re (r:Nat) (R:RC) (f ps:Nat) (s:gz) (w:gw) (h:Rd w r R f ps) (y:ps<=R.cs.size) (z:R.cs.size<=1024) (D:s.size<=1024):
  Calls prog 148 #[gL r,gI s] w λe A=>e=ir (.bool (zz R s ps))/\Kept [r] w A/\Rd A r R f (if zz R s ps=true then ps+s.size else ps):=by
 have H:=h;obtain⟨t,j⟩:∃t,t=R.cs.extract ps R.cs.size:=⟨_,rfl⟩;have g:t.size=R.cs.size - ps:=by rw[j];simp
 have b:=wy r R f ps w H y z;rw[<-j]at b;have i:=fW j;clear j
 by_cases e1:s.size<=t.size
 .have C:(t.extract 0 s.size).size=s.size:=by simp;omega
  cases e2:((small (t.extract 0 s.size)).toList==s.toList)
  .have o:zz R s ps=false:=by unfold zz;rw[<-i.out,e2];simp
   rw[o];go_enter func148,ntmps148
   go_wp21
   refine b.mono ?_;rintro e B ⟨rfl,q,rfl⟩
   go_wp21
   refine(vO _ _ (by omega)).mono ?_;rintro e x ⟨rfl,a⟩;generalize small (t.extract 0 s.size)=u at *;go_wp2;go_ret;exact⟨rfl,((Kept.refl [r] w).drewN q).trans (a.mono (by simp)),a.at (show Rd (w.drewN q) r R f ps from H) (by simp)⟩
  .have o:zz R s ps=true:=by unfold zz;rw[<-i.out,e2,<-g];simp[e1]
   rw[o];go_enter func148,ntmps148
   go_wp21
   refine b.mono ?_;rintro e B ⟨rfl,q,rfl⟩
   go_wp21
   refine(vO _ _ (by omega)).mono ?_;rintro e x ⟨rfl,a⟩;have p:Rd x r R f ps:=a.at (show Rd (w.drewN q) r R f ps from H) (by simp);have m:=lz r R f ps (t.extract 0 s.size) x p y z (by omega);have d:=Zc t s.size e1;rw[<-i.out,d]at m;have v:taken R (t.extract 0 s.size) ps=ps+s.size:=by unfold taken;rw[<-i.out,gF d,C]
   rw[v]at m;generalize small (t.extract 0 s.size)=u at *
   go_wp21
   refine m.mono ?_;rintro e F ⟨rfl,k,l⟩;go_wp2;go_ret;exact⟨rfl,(((Kept.refl [r] w).drewN q).trans (a.mono (by simp))).trans k,l⟩
 .have E:zz R s ps=false:=by unfold zz;rw[<-g];simp[e1]
  rw[E];go_enter func148,ntmps148
  go_wp21
  refine b.mono ?_;rintro e B ⟨rfl,q,rfl⟩;go_wp2;go_ret;exact⟨rfl,((Kept.refl [r] w).drewN q),H⟩
def kj (R:RC) (ps:Nat):Nat:=scan (jr pF) R.cs (ps+1)
def Dg (r:Nat) (R:RC) (o ps:Nat) (w:gw) (h:Rd w r R o ps) (G:ps < R.cs.size) (F:R.cs.size<=1024) (x:Gl w r):
  Calls prog 319 #[gL r] w λe v=>e=ir (gI (oB (small (R.cs.extract ps (kj R ps)))))/\Kept [r] w v/\Rd v r R o (kj R ps):=by
 have p:=h.ps;have A:=h.free 3;have y:=x;have i:=h.Ms (ps+1);have f:=(Kept.refl [r] w).setCell (p:=⟨r,3,none⟩) (.inl (by simp)) (gp ((ps+1:Nat)));clear h x;obtain⟨l,d⟩:∃l,l=w.setCell ⟨r,3,none⟩ (gp ((ps+1:Nat))):=⟨_,rfl⟩;rw[<-d]at i f;have a:w.setCell ⟨r,3,none⟩ (gp ((ps:Int)+1))=l:=by rw[d];congr 1
 have u:=fW a;clear d a;have C:=zl r R o (ps+1) pF l i (by omega) F;rw[show scan (jr pF) R.cs (ps+1)=kj R ps from rfl]at C;have E:kj R ps<=R.cs.size:=pz (by omega);have B:ps+1<=kj R ps:=sZ;generalize kj R ps=n at *;go_enter func319,ntmps319
 go_wp21
 rw[u.out];clear p A;refine(oO _ l).mono ?_;rintro e v ⟨rfl,rfl⟩
 go_wp21
 refine C.mono ?_;rintro e s ⟨rfl,j,b⟩;have I:=b.text;have H:=b.ps;have g:=f.trans j;have D:=(λq=>zc r (R.cs.extract ps n) (s.drewN q) (by simp;omega) (show Gl (s.drewN q) r from y.kept (g.drewN q)));clear j C;generalize hm:oB (small (R.cs.extract ps n))=m at D|-;have z:=fW hm;clear hm
 go_wp21
 go_region_with (refine(D _).mono ?_;rintro e J ⟨rfl,k⟩)
 all_goals (try go_wp2)
 all_goals
  (go_ret
   exact⟨by rw[z.out];rfl,g.trans (((Kept.refl [r] s).drewN 1).trans (k.mono (by simp))),k.at (show Rd (s.drewN 1) r R o n from b) (by simp)⟩)
def toList_eq {a b:gz} (h:a.toList=b.toList):a=b:=by
 rw[sH,sH]at h;exact Ko (Array.toList_inj.1 h)
def M0 {s:gz} {a b j:Nat} (h:a+j < b) (e:b<=s.size):bt (s.extract a b) j=bt s (a+j):=by
 have d:j < (s.extract a b).size:=by simp;omega
 unfold bt;rw[xI d,xI (by omega)];rw[ByteArray.getElem_extract]
def Er {s p:gz} {ps j:Nat} (h:pre (s.extract ps s.size) p=true) (g:j < p.size):bt s (ps+j)=bt p j:=by
 have d:=EV h;unfold pre at h;simp only[rR,MC,beq_iff_eq]at h;have e:=toList_eq h.2;have i:ps+j < s.size:=by simp at d;omega
 have f:=M0 (s:=s.extract ps s.size) (a:=0) (b:=p.size) (j:=j) (by omega) d;rw[e,C7,M0 (by omega) (ij _)]at f;omega
def rn (R:RC) (ps:Nat):Nat:=taken R jH (scan (jr jH) R.cs ps)
def IK {R:RC} {ps:Nat} (h:ps<=R.cs.size):rn R ps<=R.cs.size:=Rh (pz h)
def Yo {R:RC} {ps:Nat}:ps<=rn R ps:=jN sZ Rg
def tN (r:Nat) (R:RC) (a ps g j:Nat) (b:Nat->Nat) (w:gw) (h:Rd w r R a ps) (K:Ly w r R g j b) (L:Gl w r) (N:a<=R.cs.size) (z:ps<=R.cs.size) (A:R.cs.size<=1024):
  Calls prog 151 #[gL r] w λe B=>e=ir (.iface 177 (.agg #[gp (b a),gp (b (rn R ps)),gI (oB (R.cs.extract ps (scan (jr jH) R.cs ps)))]))/\Kept [r] w B/\Rd B r R a (rn R ps):=by
 have C:=zl r R a ps jH w h z A;have I:=K;have J:=L;have y:scan (jr jH) R.cs ps<=R.cs.size:=pz z;have D:=(λ(G:gw) (O:Rd G r R a (scan (jr jH) R.cs ps))=>lz r R a _ jH G O y A (by decide));rw[show taken R jH (scan (jr jH) R.cs ps)=rn R ps from rfl]at D;have o:rn R ps<=R.cs.size:=IK z;generalize rn R ps=m at *;generalize scan (jr jH) R.cs ps=n at *;go_enter func151,ntmps151
 go_wp21
 refine(oO _ w).mono ?_;rintro e B ⟨rfl,rfl⟩
 go_wp21
 refine C.mono ?_;rintro e G ⟨rfl,p,s⟩
 go_wp21
 refine(D _ s).mono ?_;rintro e P ⟨rfl,x,i⟩;have d:=p.trans x;have E:=pS r R a m g j b P i (I.kept d) N o A
 go_wp21
 refine E.mono ?_;rintro e H ⟨rfl,k⟩;have f:=d.trans (k.mono (by simp));have u:Hid (Rd H r R a m):=i.kept k (by simp);have F:=yg r (R.cs.extract ps n) H (by simp;omega) (J.kept f)
 go_wp21
 refine F.mono ?_;rintro e Q ⟨rfl,l⟩;have q:=f.trans (l.mono (by simp));have v:Hid (Rd Q r R a m):=u.kept l (by simp);go_wp2;go_ret;exact⟨rfl,q,v⟩
def yY (s:gz):gz:=
 if Lib.hasSuffix s.data.toList [45,45,33]then ⟨(Lib.trimSuffix s.data.toList [45,45,33]).toArray⟩
 else if Lib.hasSuffix s.data.toList [45,45]then ⟨(Lib.trimSuffix s.data.toList [45,45]).toArray⟩
 else if Lib.hasSuffix s.data.toList [45]then ⟨(Lib.trimSuffix s.data.toList [45]).toArray⟩else s
def SG (s:gz) (w:gw) (k:s.size<=1048576):
  Calls prog 285 #[gI s] w λe a=>e=ir (gI (yY s))/\Kept [] w a:=by
 have b:=(λw=>Tryz.strings_CutSuffix s ⟨#[45,45,33]⟩ w (by omega));have d:=(λw=>Tryz.strings_CutSuffix s ⟨#[45,45]⟩ w (by omega));have f:=(λw=>Tryz.strings_CutSuffix s ⟨#[45]⟩ w (by omega));have g:Hid (Kept [] w (w.alloc (.cells #[gI ⟨#[45,45,33]⟩,gI ⟨#[45,45]⟩,gI ⟨#[45]⟩] 9))):=(Kept.refl _ _).alloc _;unfold yY;simp only at b d f;cases h1:Lib.hasSuffix s.data.toList [45,45,33]
 .rw[h1]at b;cases h2:Lib.hasSuffix s.data.toList [45,45]
  .rw[h2]at d;cases h3:Lib.hasSuffix s.data.toList [45]
   .rw[h3]at f;simp only[wP,↓reduceIte];generalize Lib.trimSuffix s.data.toList [45,45,33]=h at *;generalize Lib.trimSuffix s.data.toList [45,45]=i at *;generalize Lib.trimSuffix s.data.toList [45]=j at *;go_enter func285,ntmps285
    go_wp21
    refine vo 4 ?_;rw[oW]
    go_wp21
    refine(b _).mono ?_;rintro e a ⟨rfl,rfl⟩
    go_wp21
    rw[oW]
    go_wp21
    refine(d _).mono ?_;rintro e a ⟨rfl,rfl⟩
    go_wp21
    rw[oW]
    go_wp21
    refine(f _).mono ?_;rintro e a ⟨rfl,rfl⟩
    go_wp21
    rw[oW];go_wp2;go_ret;exact⟨rfl,g⟩
   .rw[h3]at f;simp only[wP,↓reduceIte];generalize Lib.trimSuffix s.data.toList [45,45,33]=h at *;generalize Lib.trimSuffix s.data.toList [45,45]=i at *;generalize Lib.trimSuffix s.data.toList [45]=j at *;go_enter func285,ntmps285
    go_wp21
    refine vo 4 ?_;rw[oW]
    go_wp21
    refine(b _).mono ?_;rintro e a ⟨rfl,rfl⟩
    go_wp21
    rw[oW]
    go_wp21
    refine(d _).mono ?_;rintro e a ⟨rfl,rfl⟩
    go_wp21
    rw[oW]
    go_wp21
    refine(f _).mono ?_;rintro e a ⟨rfl,rfl⟩;go_wp2;go_ret;exact⟨rfl,g⟩
  .rw[h2]at d;simp only[wP,↓reduceIte];generalize Lib.trimSuffix s.data.toList [45,45,33]=h at *;generalize Lib.trimSuffix s.data.toList [45,45]=i at *;go_enter func285,ntmps285
   go_wp21
   refine vo 4 ?_;rw[oW]
   go_wp21
   refine(b _).mono ?_;rintro e a ⟨rfl,rfl⟩
   go_wp21
   rw[oW]
   go_wp21
   refine(d _).mono ?_;rintro e a ⟨rfl,rfl⟩;go_wp2;go_ret;exact⟨rfl,g⟩
 .rw[h1]at b;simp only[↓reduceIte];generalize Lib.trimSuffix s.data.toList [45,45,33]=h at *;go_enter func285,ntmps285
  go_wp21
  refine vo 4 ?_;rw[oW]
  go_wp21
  refine(b _).mono ?_;rintro e a ⟨rfl,rfl⟩;go_wp2;go_ret;exact⟨rfl,g⟩
def e1:gz:=⟨#[45,45,62]⟩
def e2:gz:=⟨#[45,45,33,62]⟩
def tq (R:RC) (i:Nat):Nat:=
 if i < R.cs.size then (if pre (R.cs.extract i R.cs.size) e1=true then i+3 else if pre (R.cs.extract i R.cs.size) e2=true then i+4 else tq R (i+1))else i
  termination_by R.cs.size - i
def pI (R:RC) (a i:Nat):gz:=
 if i < R.cs.size then (if pre (R.cs.extract i R.cs.size) e1=true then R.cs.extract a i else if pre (R.cs.extract i R.cs.size) e2=true then R.cs.extract a i else pI R a (i+1))else yY (R.cs.extract a R.cs.size)
  termination_by R.cs.size - i
def aan {R:RC} {i:Nat}:i<=tq R i:=by
 fun_induction tq R i<;>omega
def aao {R:RC} {i:Nat} (h:i<=R.cs.size):tq R i<=R.cs.size:=by
 fun_induction tq R i with
 |case1 i h1 h2=>exact lx (p:=e1) h2 h
 |case2 i h1 h2 h3=>exact lx (p:=e2) h3 h
 |case3 i h1 h2 h3 ih=>omega
 |case4=>exact h
def Vs {R:RC} {i:Nat} (h:i<=R.cs.size):tq R i=R.cs.size\/(i < tq R i/\bt R.cs (tq R i - 1)=62):=by
 fun_induction tq R i with
 |case1 i h1 h2=>right;exact⟨by omega,Er (p:=e1) (j:=2) h2 (by decide)⟩
 |case2 i h1 h2 h3=>right;exact⟨by omega,Er (p:=e2) (j:=3) h3 (by decide)⟩
 |case3 i h1 h2 h3 ih=>omega
 |case4 i h1=>omega
theorem aeo {R:RC} {i:Nat} (h:i < R.cs.size) (a:pre (R.cs.extract i R.cs.size) e1=true):tq R i=i+3:=by grind[tq]
theorem aep {R:RC} {i:Nat} (h:i < R.cs.size) (a:pre (R.cs.extract i R.cs.size) e1=false) (b:pre (R.cs.extract i R.cs.size) e2=true):tq R i=i+4:=by grind[tq]
theorem aeq {R:RC} {i:Nat} (h:i < R.cs.size) (a:pre (R.cs.extract i R.cs.size) e1=false) (b:pre (R.cs.extract i R.cs.size) e2=false):tq R i=tq R (i+1):=by grind[tq]
theorem ac4 {R:RC} {a i:Nat} (h:i < R.cs.size) (b:pre (R.cs.extract i R.cs.size) e1=true):pI R a i=R.cs.extract a i:=by grind[pI]
theorem ac5 {R:RC} {a i:Nat} (h:i < R.cs.size) (b:pre (R.cs.extract i R.cs.size) e1=false) (d:pre (R.cs.extract i R.cs.size) e2=true):pI R a i=R.cs.extract a i:=by grind[pI]
theorem ac7 {R:RC} {a i:Nat} (h:i < R.cs.size) (b:pre (R.cs.extract i R.cs.size) e1=false) (d:pre (R.cs.extract i R.cs.size) e2=false):pI R a i=pI R a (i+1):=by grind[pI]
def CJ (r:Nat) (R:RC) (k ps:Nat) (w:gw) (h:Rd w r R k ps) (W:ps<=R.cs.size) (P:R.cs.size<=1024):
  Calls prog 236 #[gL r] w λe l=>e=ir (gI (pI R ps ps))/\Kept [r] w l/\Rd l r R k (tq R ps):=by
 have p0:=h.ps;have H:=h;obtain⟨ce,L⟩:∃x,x=tq R ps:=⟨_,rfl⟩;obtain⟨O,N⟩:∃x,x=pI R ps ps:=⟨_,rfl⟩;rw[<-L,<-N];go_enter func236,ntmps236
 go_wp21
 go_loopw [] (λwr=>∃i:Nat,ps<=i/\i<=R.cs.size/\tq R i=ce/\pI R ps i=O/\Rd wr r R k i/\Kept [r] w wr) (λwr=>R.cs.size - (match wr.cell? ⟨r,3,none⟩with|some v=>(intOf v).toNat|none=>0))
 case atStart=>exact⟨ps,ij _,W,L.symm,N.symm,H,Kept.refl _ _⟩
 case round=>
  have⟨i,hi0,hi1,hcc,hcx,HR,HKW⟩:=hrel;have y:=fW hcc;have z:=fW hcx;have t:=HR.text;have p:=HR.ps;have fz:=HR.free 3;clear hcc hcx
  by_cases e:i=R.cs.size
  .have B:decide (i=R.cs.size)=true:=by simp[e]
   have C:=oE r R k i wr HR;rw[B]at C;have Q:O=yY (R.cs.extract ps R.cs.size):=by rw[<-z.out,pI,gR (by omega)]
   have S:ce=i:=by rw[<-y.out,tq,gR (by omega)]
   have T:=fW Q;have U:=fW S;clear Q S;have V:=e;have D:=(λl=>SG (R.cs.extract ps R.cs.size) l (by simp;omega))
   go_wp21
   refine C.mono ?_;rintro e J ⟨rfl,q,rfl⟩
   go_wp21
   refine(D _).mono ?_;rintro e K ⟨rfl,d⟩;go_wp2;go_ret;exact⟨by rw[T.out];rfl,(HKW.drewN q).trans (d.mono (by simp)),by rw[U.out];exact d.at (show Rd (wr.drewN q) r R k i from HR) (by simp)⟩
  .have f:i < R.cs.size:=by omega
   have B:decide (i=R.cs.size)=false:=by simp[e]
   have C:=oE r R k i wr HR;rw[B]at C;have m:=(λl (h:Rd l r R k i)=>lz r R k i e1 l h hi1 P (by decide));have s:=(λl (h:Rd l r R k i)=>lz r R k i e2 l h hi1 P (by decide));cases h1:pre (R.cs.extract i R.cs.size) e1
   .have G:taken R e1 i=i:=by unfold taken;rw[gR (by simp[h1])]
    rw[h1,G]at m;cases h2:pre (R.cs.extract i R.cs.size) e2
    .have I:taken R e2 i=i:=by unfold taken;rw[gR (by simp[h2])]
     rw[h2,I]at s;have HS:=fW (aeq f h1 h2);have j:=fW (ac7 (a:=ps) f h1 h2);unfold e1 at m;unfold e2 at s
     go_wp21
     refine C.mono ?_;rintro e J ⟨rfl,q,rfl⟩
     go_wp21
     go_quiet (fail)
     go_wp21
     refine(m _ ?_).mono ?_
     .exact HR
     rintro e K ⟨rfl,d,o⟩
     go_wp21
     refine(s _ o).mono ?_;rintro e Y ⟨rfl,A,b⟩;have p3:=b.ps;have Z:=b.free 3;have u:=Rd.Ms b (i+1);have g:=((HKW.drewN (q+nq)).trans (d.trans A)).setCell (p:=⟨r,3,none⟩) (.inl (by simp)) (gp ((i+1:Nat)));go_wp2;go_roundw
     case rel=>exact⟨i+1,by omega,by omega,by rw[<-HS.out,y.out],by rw[<-j.out,z.out],u,g⟩
     case measure=>
      have X:=u.ps;rw[show((i:Int)+1)=((i+1:Nat):Int)from by omega,X,p];simp[intOf];omega
    .have I:taken R e2 i=i+4:=by unfold taken;rw[gF h2];rfl
     rw[h2,I]at s;have HS:=fW (aep f h1 h2);have j:=fW (ac5 (a:=ps) f h1 h2);unfold e1 at m;unfold e2 at s
     go_wp21
     refine C.mono ?_;rintro e J ⟨rfl,q,rfl⟩
     go_wp21
     go_quiet (fail)
     go_wp21
     refine(m _ ?_).mono ?_
     .exact HR
     rintro e K ⟨rfl,d,o⟩
     go_wp21
     refine(s _ o).mono ?_;rintro e Y ⟨rfl,F,b⟩;have g:=((HKW.drewN (q+nq)).trans (d.trans F));go_wp2;go_ret;exact⟨by rw[<-z.out,j.out];rfl,g,by rw[<-y.out,HS.out];exact b⟩
   .have G:taken R e1 i=i+3:=by unfold taken;rw[gF h1];rfl
    rw[h1,G]at m;have HS:=fW (aeo f h1);have j:=fW (ac4 (a:=ps) f h1);unfold e1 at m
    go_wp21
    refine C.mono ?_;rintro e J ⟨rfl,q,rfl⟩
    go_wp21
    go_quiet (fail)
    go_wp21
    refine(m _ ?_).mono ?_
    .exact HR
    rintro e K ⟨rfl,E,b⟩;have g:=((HKW.drewN (q+nq)).trans E);go_wp2;go_ret;exact⟨by rw[<-z.out,j.out];rfl,g,by rw[<-y.out,HS.out];exact b⟩
def nH (R:RC) (ps:Nat):Nat:=if pre (R.cs.extract ps R.cs.size) jH=true then ps+1 else if pre (R.cs.extract ps R.cs.size) yA=true then ps+2 else tq R ps
def nU (R:RC) (ps:Nat):gz:=if pre (R.cs.extract ps R.cs.size) jH=true then ⟨#[]⟩else if pre (R.cs.extract ps R.cs.size) yA=true then ⟨#[]⟩else pI R ps ps
def LF {R:RC} {ps:Nat} (h:ps<=R.cs.size):nH R ps<=R.cs.size:=by
 unfold nH;split
 .rename_i a;exact lx a h
 .split
  .rename_i a;exact lx a h
  .exact aao h
def Vw {R:RC} {ps:Nat}:ps<=nH R ps:=by
 unfold nH;split
 .omega
 .split
  .omega
  .exact aan
def O0 {R:RC} {ps:Nat} (h:ps<=R.cs.size):nH R ps=R.cs.size\/(ps < nH R ps/\bt R.cs (nH R ps - 1)=62):=by
 unfold nH;split
 .rename_i a;exact .inr ⟨by omega,Er (j:=0) a (by decide)⟩
 .split
  .rename_i a;exact .inr ⟨by omega,Er (j:=1) a (by decide)⟩
  .exact Vs h
theorem Qc (s:gz):(yY s).size<=s.size:=by
 have h:∀p,(ByteArray.mk (Lib.trimSuffix s.data.toList p).toArray).size<=s.size:=by
  intro p;show(Lib.trimSuffix s.data.toList p).toArray.size<=s.data.size;unfold Lib.trimSuffix;split
  .simp
  .simp
 grind[yY]
def R6 {R:RC} {a i:Nat}:(pI R a i).size<=R.cs.size:=by
 fun_induction pI R a i with
 |case1=>simp;omega
 |case2=>simp;omega
 |case3=>omega
 |case4=>exact jN (Qc _) (by simp)
def M4 {R:RC} {ps:Nat}:(nU R ps).size<=R.cs.size:=by
 unfold nU;split
 .exact iP _
 .split
  .exact iP _
  .exact R6
def KG (r:Nat) (R:RC) (d m g f:Nat) (a:Nat->Nat) (w j:gw) (u:Ly w r R g f a) (v:Gl w r) (x:d<=R.cs.size) (y:m<=R.cs.size) (z:R.cs.size<=1024) (p:Kept [r] w j) (k:Rd j r R d m) (t:gz) (A:t.size<=1048576):
  (Calls prog 69 #[gL r] j λe i=>e=ir (.agg #[gp (a d),gp (a m)])/\Kept [r] w i/\Rd i r R d m/\
   Calls prog 140 #[gI t] i λe o=>e=ir (gI (oB t))/\Kept [r] w o/\Rd o r R d m):=by
 refine(pS r R d m g f a j k (u.kept p) x y z).mono ?_;rintro e i ⟨q,b⟩;have l:=p.trans (b.mono (by simp));refine⟨q,l,k.kept b (by simp),?_⟩;refine(yg r t i A (v.kept l)).mono ?_;rintro e o ⟨s,h⟩;exact⟨s,l.trans (h.mono (by simp)),(k.kept b (by simp)).kept h (by simp)⟩
theorem O2 (r:Nat) (R:RC) (d ps g z:Nat) (f:Nat->Nat) (w:gw) (h:Rd w r R d ps) (L:Ly w r R g z f) (N:Gl w r) (O:d<=R.cs.size) (E:ps<=R.cs.size) (G:R.cs.size<=1024):
  Calls prog 147 #[gL r] w λe l=>e=ir (.iface 177 (.agg #[gp (f d),gp (f (nH R ps)),gI (oB (nU R ps))]))/\Kept [r] w l/\Rd l r R d (nH R ps):=by
 have x:=lz r R d ps jH w h E G (by decide);have y:=(λl (h:Rd l r R d ps)=>lz r R d ps yA l h E G (by decide));have C:=(λl (h:Rd l r R d ps)=>CJ r R d ps l h E G);have F:=(λi (P:Kept [r] w i) (Q:Rd i r R d (nH R ps))=>KG r R d (nH R ps) g z f w i L N O (LF E) G P Q (nU R ps) (jN M4 (by omega)));clear h L N;cases h1:pre (R.cs.extract ps R.cs.size) jH
 .have v:taken R jH ps=ps:=by unfold taken;rw[gR (by simp[h1])]
  rw[h1,v]at x;cases h2:pre (R.cs.extract ps R.cs.size) yA;have B:taken R yA ps=ps:=by unfold taken;rw[gR (by simp[h2])]
  rw[h2,B]at y;have j:nH R ps=tq R ps:=by unfold nH;rw[gR (by simp[h1]),gR (by simp[h2])]
  have k:nU R ps=pI R ps ps:=by unfold nU;rw[gR (by simp[h1]),gR (by simp[h2])]
  rw[<-j,<-k]at C;clear h1 h2 v B j k;generalize nH R ps=m at *;generalize nU R ps=t at *;go_enter func147,ntmps147
  go_wp21
  refine x.mono ?_;rintro e S ⟨rfl,p,q⟩
  go_wp21
  refine(y _ q).mono ?_;rintro e V ⟨rfl,A,J⟩;have H:=p.trans A;clear A
  go_wp21
  refine(C _ J).mono ?_;rintro e i ⟨rfl,a,b⟩;have D:=F i (H.trans a) b
  rotate_left
  have B:taken R yA ps=ps+2:=by unfold taken;rw[gF h2];rfl
  rw[h2,B]at y;have j:nH R ps=ps+2:=by unfold nH;rw[gR (by simp[h1]),gF h2]
  have k:nU R ps=⟨#[]⟩:=by unfold nU;rw[gR (by simp[h1]),gF h2]
  rw[j,k]at F|-;clear h1 h2 v B j k C;go_enter func147,ntmps147
  go_wp21
  refine x.mono ?_;rintro e S ⟨rfl,p,q⟩
  go_wp21
  refine(y _ q).mono ?_;rintro e i ⟨rfl,a,b⟩;have D:=F i (p.trans a) b
  all_goals
   clear a b
   go_wp21
   refine D.mono ?_;rintro e T ⟨rfl,s,u,o⟩;clear s u
   go_wp21
   refine o.mono ?_;rintro e U ⟨rfl,I,K⟩;go_wp2;go_ret
   simp_all
 .have v:taken R jH ps=ps+1:=by unfold taken;rw[gF h1];rfl
  rw[h1,v]at x;have j:nH R ps=ps+1:=by unfold nH;rw[gF h1]
  have k:nU R ps=⟨#[]⟩:=by unfold nU;rw[gF h1]
  rw[j,k]at F|-;clear h1 v j k y C;go_enter func147,ntmps147
  go_wp21
  refine x.mono ?_;rintro e i ⟨rfl,a,b⟩;have D:=F i a b;clear a b
  go_wp21
  refine D.mono ?_;rintro e T ⟨rfl,s,u,o⟩;clear s u
  go_wp21
  refine o.mono ?_;rintro e U ⟨rfl,I,K⟩;go_wp2;go_ret
  simp_all
section
open Go.Shelf Go.Lib
def Oo (s:gz):gz:=⟨(Lib.trimS s.data.toList [32,9,10,12]).toArray⟩
def ZD (s:gz) (w:gw) (g:s.size<=1048576):
  Calls prog 240 #[gI s,gI mw] w λe b=>e=ir (gI (Oo s))/\Kept [] w b:=by
 have a:=Any.strings_Trim_laid Tryz.lays160 (by kernel_rfl) s mw w (by omega) (by decide) (ascii_of_all (by decide));exact a.mono λe b ⟨d,f⟩=>⟨d,Kept.A5 f⟩
def ZZ (R:RC) (ps:Nat):Nat:=scan (λc=>!jr mw c) R.cs ps
def FP (R:RC) (ps:Nat):Nat:=scan (jr mg) R.cs (ZZ R ps)
def XZ {R:RC} {ps:Nat} (h:ps<=R.cs.size):ZZ R ps<=R.cs.size:=pz h
def Il {R:RC} {ps:Nat} (h:ps<=R.cs.size):FP R ps<=R.cs.size:=pz (XZ h)
def ac9 {R:RC} {ps:Nat}:ps<=FP R ps:=jN sZ sZ
end
section
open Go.Shelf Go.Lib
def R7 (R:RC) (ps:Nat):gz:=oB (small (R.cs.extract (ZZ R ps) (FP R ps)))
def dtQ (R:RC) (ps:Nat):Bool:=((R7 R ps).toList==[])||!((Oo (R.cs.extract (FP R ps) (scan (jr jH) R.cs (FP R ps)))).toList==[])||!(pre (R.cs.extract (scan (jr jH) R.cs (FP R ps)) R.cs.size) jH)
def KJ (r:Nat) (R:RC) (d ps g u:Nat) (i:Nat->Nat) (w:gw) (h:Rd w r R d ps) (hA:Ly w r R g u i) (hG:Gl w r) (hb:d<=R.cs.size) (o:ps<=R.cs.size) (B:R.cs.size<=1024):
  Calls prog 149 #[gL r] w λe f=>e=ir (.iface 179 (.agg #[gp (i d),gp (i (rn R (FP R ps))),gI (R7 R ps),.bool (dtQ R ps)]))/\Kept [r] w f/\Rd f r R d (rn R (FP R ps)):=by
 have v:R7 R ps=oB (small (R.cs.extract (ZZ R ps) (FP R ps))):=rfl;have W:dtQ R ps=(((R7 R ps).toList==[])||!((Oo (R.cs.extract (FP R ps) (scan (jr jH) R.cs (FP R ps)))).toList==[])||!(pre (R.cs.extract (scan (jr jH) R.cs (FP R ps)) R.cs.size) jH)):=rfl;generalize dtQ R ps=qk at *;generalize R7 R ps=Y at *;have E:=vB r R d ps mw w h o B;rw[show scan (λc=>!jr mw c) R.cs ps=ZZ R ps from rfl]at E;have G:=(λ(f:gw) (h:Rd f r R d (ZZ R ps))=>zl r R d (ZZ R ps) mg f h (XZ o) B);rw[show scan (jr mg) R.cs (ZZ R ps)=FP R ps from rfl]at G;have Z:=(λ(f:gw) (h:Rd f r R d (FP R ps))=>zl r R d (FP R ps) jH f h (Il o) B);have X:scan (jr jH) R.cs (FP R ps)<=R.cs.size:=pz (Il o);have D:=(λ(C:gw) (hr:Rd C r R d (scan (jr jH) R.cs (FP R ps)))=>lz r R d _ jH C hr X B (by decide));rw[show taken R jH (scan (jr jH) R.cs (FP R ps))=rn R (FP R ps)from rfl]at D;have A:rn R (FP R ps)<=R.cs.size:=IK (Il o);have h3:FP R ps<=R.cs.size:=Il o;have HA:=hA;have HG:=hG;clear h hA hG;generalize rn R (FP R ps)=m at *;generalize scan (jr jH) R.cs (FP R ps)=n at *;generalize FP R ps=b at *;generalize ZZ R ps=a at *;go_enter func149,ntmps149
 go_wp21
 refine E.mono ?_;rintro e w1 ⟨rfl,J,P⟩;clear E
 go_wp21
 refine(oO _ w1).mono ?_;rintro e f ⟨rfl,rfl⟩
 go_wp21
 refine(G _ P).mono ?_;rintro e C ⟨rfl,x,Q⟩;have p:=J.trans x;clear x G;have H:=zc r (R.cs.extract a b) C (by simp;omega) (HG.kept p);rw[<-v]at H;clear v
 go_wp21
 refine H.mono ?_;rintro e w3 ⟨rfl,j⟩;have K:=p.trans (j.mono (by simp));have S:=Q.kept j (by simp);clear j H
 go_wp21
 refine(oO _ w3).mono ?_;rintro e f ⟨rfl,rfl⟩
 go_wp21
 refine(Z _ S).mono ?_;rintro e w4 ⟨rfl,y,T⟩;have L:=K.trans y;clear y Z;have I:=ZD (R.cs.extract b n) w4 (by simp;omega);generalize Oo (R.cs.extract b n)=mo at I W
 go_wp21
 refine I.mono ?_;rintro e w5 ⟨rfl,k⟩;have N:=L.trans (k.mono (by simp));have U:=T.kept k (by simp);clear k I
 go_wp21
 refine(D _ U).mono ?_;rintro e w6 ⟨rfl,z,s⟩;have q:=N.trans z;clear z D;have F:=pS r R d m g u i w6 s (HA.kept q) hb A B;generalize pre (R.cs.extract n R.cs.size) jH=cl at *
 go_wp21
 refine F.mono ?_;rintro e w7 ⟨rfl,l⟩;have O:=q.trans (l.mono (by simp));have V:=s.kept l (by simp);clear l F;have HQ:=fW W;clear W;cases h1:(Y.toList==[])<;>cases h2:(mo.toList==[])<;>cases cl
 all_goals go_wp2
 all_goals go_ret
 all_goals exact⟨by rw[HQ.out,h1,h2];rfl,O,V⟩
end
section
open Go.Shelf Go.Lib
def OA (n:Int):Int:=if n=0\/(55296<=n/\n<=57343)\/n>=1114112 then 65533 else if n=128 then 8364 else if n=133 then 8230 else if n=145 then 8216 else if n=146 then 8217 else if n=147 then 8220 else if n=148 then 8221 else if n=150 then 8211 else if n=151 then 8212 else if n=153 then 8482 else n
def qJ {x n : Int} (h:x=OA n):Ending.returned (.int .i32 x)=ir (.int .i32 (OA n)):=by rw[h]
theorem XV {n : Int} (k:¬n=0) (l:n < 55296) (a:(n==128)=false) (b:(n==133)=false) (d:(n==145)=false) (e:(n==146)=false) (f:(n==147)=false) (g:(n==148)=false) (h:(n==150)=false) (i:(n==151)=false) (j:(n==153)=false):OA n=n:=by
 grind[OA]
theorem KF (n:Int) (w:gw) (h:0<=n) (i:n<=1114112):
  Calls prog 296 #[gp n] w λe d=>e=ir (.int .i32 (OA n))/\d=w:=by
 by_cases a:n=0
 .subst a;go_enter func296,ntmps296;go_wp2;go_ret;simp[OA]
 .by_cases b:55296<=n
  .by_cases f:n<=57343
   .go_enter func296,ntmps296;go_wp2;go_ret;exact⟨qJ (by unfold OA;omega),rfl⟩
   .by_cases g:n>=1114112
    .go_enter func296,ntmps296;go_wp2;go_ret;exact⟨qJ (by unfold OA;omega),rfl⟩
    .go_enter func296,ntmps296;go_wp2;go_ret;exact⟨qJ (by grind[OA]),rfl⟩
  .go_enter func296,ntmps296;go_wp2
   all_goals
    (go_ret
     first
     |exact⟨qJ (by rw[zo ‹(n==128)=true›];rfl),rfl⟩
     |exact⟨qJ (by rw[zo ‹(n==133)=true›];rfl),rfl⟩
     |exact⟨qJ (by rw[zo ‹(n==145)=true›];rfl),rfl⟩
     |exact⟨qJ (by rw[zo ‹(n==146)=true›];rfl),rfl⟩
     |exact⟨qJ (by rw[zo ‹(n==147)=true›];rfl),rfl⟩
     |exact⟨qJ (by rw[zo ‹(n==148)=true›];rfl),rfl⟩
     |exact⟨qJ (by rw[zo ‹(n==150)=true›];rfl),rfl⟩
     |exact⟨qJ (by rw[zo ‹(n==151)=true›];rfl),rfl⟩
     |exact⟨qJ (by rw[zo ‹(n==153)=true›];rfl),rfl⟩
     |exact⟨qJ (XV a b ‹(n==128)=false› ‹(n==133)=false› ‹(n==145)=false› ‹(n==146)=false› ‹(n==147)=false› ‹(n==148)=false› ‹(n==150)=false› ‹(n==151)=false› ‹(n==153)=false›).symm,rfl⟩)
def kX (c:Int):Int:=if 48<=c/\c<=57 then c - 48 else if 97<=c/\c<=102 then c - 87 else if 65<=c/\c<=70 then c - 55 else 99
theorem Dp (c:Int):0<=kX c/\kX c<=99:=by grind[kX]
theorem H8 (c:Int) (w:gw) (f:0<=c) (g:c<=255):
  Calls prog 328 #[.int .u8 c] w λe a=>e=ir (.bool (decide (48<=c/\c<=57)))/\a=w:=by
 by_cases b:48<=c<;>by_cases d:c<=57
 all_goals first|(exfalso;omega)|skip
 all_goals (go_enter func328,ntmps328;go_wp2;go_ret;simp_all)
def VA (c:Int) (w:gw) (i:0<=c) (j:c<=255):
  Calls prog 295 #[.int .u8 c] w λe f=>e=ir (gp (kX c))/\f=w:=by
 have C:=H8 c w i j
 by_cases a:48<=c/\c<=57
 .rw[show decide (48<=c/\c<=57)=true from by simp[a]]at C;have e:kX c=c - 48:=by unfold kX;rw[gF a]
  rw[e];clear e;have⟨a1,a2⟩:=a;go_enter func295,ntmps295
  go_wp21
  refine C.mono ?_;rintro e f ⟨rfl,rfl⟩;go_wp2;go_ret;simp
 .rw[show decide (48<=c/\c<=57)=false from by simp;omega]at C
  by_cases b:97<=c
  .by_cases g:c<=102
   have e:kX c=c - 97+10:=by unfold kX;rw[gR a,gF ⟨b,g⟩];omega
   rotate_left
   have e:kX c=99:=by unfold kX;rw[gR a,gR (by omega),gR (by omega)]
   all_goals
    rw[e];clear e a;go_enter func295,ntmps295
    go_wp21
    refine C.mono ?_;rintro e f ⟨rfl,rfl⟩;go_wp2;go_ret;simp
  .by_cases d:65<=c
   .by_cases h:c<=70
    have e:kX c=c - 65+10:=by unfold kX;rw[gR a,gR (by omega),gF ⟨d,h⟩];omega
    rotate_left
    have e:kX c=99:=by unfold kX;rw[gR a,gR (by omega),gR (by omega)]
    all_goals
     rw[e];clear e a;go_enter func295,ntmps295
     go_wp21
     refine C.mono ?_;rintro e f ⟨rfl,rfl⟩;go_wp2;go_ret;simp
   .have e:kX c=99:=by unfold kX;rw[gR a,gR (by omega),gR (by omega)]
    rw[e];clear e a;go_enter func295,ntmps295
    go_wp21
    refine C.mono ?_;rintro e f ⟨rfl,rfl⟩;go_wp2;go_ret;simp
end
end
end Go.Proofs.YtofkkmcdggkkpaaGreatDoor
