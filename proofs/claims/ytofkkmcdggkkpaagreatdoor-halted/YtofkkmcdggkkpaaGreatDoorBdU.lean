import Derived.Test.YtofkkmcdggkkpaaGreatDoorDoA
import Derived.Deep.RegionWith
set_option linter.unusedSimpArgs false
set_option linter.unusedVariables false
set_option linter.defProp false
set_option maxHeartbeats 0
set_option maxRecDepth 100000
namespace Go.Proofs.YtofkkmcdggkkpaaGreatDoor
open Go.RowKit Tryz
def Oy:=@Array.getElem?_setIfInBounds_self_of_lt
def C5:=@World.alloc_heap_new
def C6:=@World.putObj_heap_same
def Fu:=@run_endLoop
def mX:=@World.cell?_alloc_lt
section
variable {E : Env} {L : Loc} {T : TypeId} {W W' w w' w0 : gw} {assign body : Code} {gM : kY} {b bB bD bm c i l n : Nat} {f : Nat->Nat} {o : Obj} {rs : List Ru} {s : gz} {t : gN} {v x : gP} {vd : gz->Bool} {vs : List gP} {σ σ' : Ab}
def Tw:gz->Bool:=λs=>lc s&&!ik [jR,mZ] s
def uB (ks:List gz) (m:Nat) (t:gN):M Unit:=do
 uE (ik ks)
 jt t
 jM m
 return ()
def pJ (rec:Nat->gN->M Unit) (ks:List gz) (a:gz) (m:Nat) (t:gN):M Unit:=do
 uE (ik ks)
 km a
 jM m
 j1 rec t
 return ()
def F4 (ks:List gz) (t:gN):M Unit:=do
 let _ <-ni (ik ks) Tw
 mW t
 return ()
def xq (rec:Nat->gN->M Unit) (b:M Bool) (t:gN):M Unit:=do
 let x <-b
 if x then (do j1 rec t;return ())else return ()
def Dw (b:M Bool):M Unit:=do
 let _ <-b
 return ()
def Ask.frA {bs : Nat} {p : gz->Bool} (h:Ask bm v p w) (a:Fr bs w w'):Ask bm v p w':=h.fr (a.n bm)
def aah (E:Env) (rec:Nat->gN->M Unit) (z:∀(m:Nat) (t:gN),jd E t->ja E 153 (λ_=>#[Bp E,gp m,iF E t]) (rec m t) uV) (t:gN) (A:jd E t) (m q r:Nat) (h:RF E f σ w) (p:rec m t σ≠ .stuck) (a:box w q (iC E.bB) 93) (d:box w r (gp m) 154):
  Calls prog 161 #[iF E t,iC q,iC r] w (Leaves E f σ.nodes.length w (rec m t σ) uV):=by
 have g:=fW a;have j:=fW d;clear a d;obtain⟨R,k⟩:∃R,R=rec m t σ:=⟨_,rfl⟩;rw[<-k]at p|-;have HS:=p;have H:=fW (At.start h);have e:=fW (M.tail k);clear h p k;have u:=fX (box.fr g.out (H.out.fr.n E.bm) (by decide)) 0;have y:=fX (box.fr j.out (H.out.fr.n E.bm) (by decide)) 0;dsimp at u y;go_enter func161,ntmps161
 go_wp21
 refine dC (z m t A) H e HS rfl lT ?_;clear H e;rintro(_) f σ w H C B e;go_wp2;go_end0;exact gv e H rfl
def Gn (E:Env) (t:gN) (N:jd E t) (ks:List gz) (m y z A:Nat) (k:Nat) (C:jO) (h:RF E f σ w) (B:(uB ks m t) σ≠ .stuck) (g:box w y (iC E.bB) 93) (j:box w z (.func (.func k) #[] C) 150) (K:Ask E.bm (.func (.func k) #[] C) (ik ks) w) (p:box w A (gp m) 154):
  Calls prog 205 #[iF E t,iC y,iC z,iC A] w (Leaves E f σ.nodes.length w ((uB ks m t) σ) uV):=by
 have a:=fW g;clear g;have r:=fW j;clear j;have u:=fW p;clear p;have F:=K;obtain⟨R,q⟩:∃R,R=(uB ks m t) σ:=⟨_,rfl⟩;rw[<-q]at B|-;unfold uB at q;have HS:=B;have H:=fW (At.start h);have d:=fW q;clear q;have e:=fX (box.fr a.out (H.out.fr.n E.bm) (by decide)) 0;have G:=fX (box.fr r.out (H.out.fr.n E.bm) (by decide)) 0;dsimp at e G;go_enter func205,ntmps205
 go_wp21
 refine Am (λ_=>Eu H.rel (F.frA H.fr)) H d HS lT ?_;rintro(_) σ w H D d;have e:=fX (box.fr a.out (H.out.fr.n E.bm) (by decide)) 0;dsimp at e
 go_wp21
 refine dC (kZ E (iK E) t N) H d HS rfl lT ?_;rintro(_) f σ w H O D d;have e:=fX (box.fr a.out (H.out.fr.n E.bm) (by decide)) 0;have I:=fX (box.fr u.out (H.out.fr.n E.bm) (by decide)) 0;dsimp at e I;have P:=H.rH;have Q:=H.free 192;have S:=H.lt;replace H:=fW (H.jc m);go_wp2;go_end0;exact gv d H rfl
def DC (E:Env) (rec:Nat->gN->M Unit) (Y:∀(m:Nat) (t:gN),jd E t->ja E 153 (λ_=>#[Bp E,gp m,iF E t]) (rec m t) uV) (t:gN) (ht:jd E t) (ks:List gz) (a:gz) (m y G I K:Nat) (k:Nat) (P:jO) (h:RF E f σ w) (O:(pJ rec ks a m t) σ≠ .stuck) (p:box w y (iC E.bB) 93) (q:box w G (.func (.func k) #[] P) 150) (Z:Ask E.bm (.func (.func k) #[] P) (ik ks) w) (r:box w I (gI a) 9) (u:box w K (gp m) 154):
  Calls prog 207 #[iF E t,iC y,iC G,iC I,iC K] w (Leaves E f σ.nodes.length w ((pJ rec ks a m t) σ) uV):=by
 have d:=fW p;clear p;have A:=fW q;clear q;have B:=fW r;clear r;have D:=fW u;clear u;have S:=Z;obtain⟨R,z⟩:∃R,R=(pJ rec ks a m t) σ:=⟨_,rfl⟩;rw[<-z]at O|-;unfold pJ at z;have HS:=O;have H:=fW (At.start h);have g:=fW z;clear z;have j:=fX (box.fr d.out (H.out.fr.n E.bm) (by decide)) 0;have U:=fX (box.fr A.out (H.out.fr.n E.bm) (by decide)) 0;dsimp at j U;go_enter func207,ntmps207
 go_wp21
 refine Am (λ_=>Eu H.rel (S.frA H.fr)) H g HS lT ?_;rintro(_) σ w H F g;have j:=fX (box.fr d.out (H.out.fr.n E.bm) (by decide)) 0;have V:=fX (box.fr B.out (H.out.fr.n E.bm) (by decide)) 0;dsimp at j V
 go_wp21
 refine dC (ur E (iK E) a) H g HS rfl lT ?_;rintro(_) f σ w H Q F g;have j:=fX (box.fr d.out (H.out.fr.n E.bm) (by decide)) 0;have X:=fX (box.fr D.out (H.out.fr.n E.bm) (by decide)) 0;dsimp at j X;have c4:=H.rH;have f4:=H.free 192;have hl:=H.lt;have a0:y≠E.bB:=by
  intro e;have N:w.heap[y]?=_:=box.fr d (H.fr.n E.bm) (by decide);have⟨L,_,hr⟩:=H.rel;have⟨C,hb⟩:=hr.TN;rw[e,hb]at N;simp at N
 replace H:=fW (H.jc m)
 go_wp21
 refine dC (th E rec Y t ht) H g HS rfl lT ?_;rintro(_) f σ w H Q F g;go_wp2;go_end0;exact gv g H rfl
def Oc (E:Env) (t:gN) (Q:jd E t) (ks:List gz) (C D F:Nat) (I K:Nat) (k m:jO) (h:RF E f σ w) (G:(F4 ks t) σ≠ .stuck) (e:box w C (iC E.bB) 93) (g:box w D (.func (.func I) #[] k) 150) (A:Ask E.bm (.func (.func I) #[] k) (ik ks) w) (j:box w F (.func (.func K) #[] m) 150) (B:Ask E.bm (.func (.func K) #[] m) Tw w):
  Calls prog 263 #[iF E t,iC C,iC D,iC F] w (Leaves E f σ.nodes.length w ((F4 ks t) σ) uV):=by
 have d:=fW e;clear e;have u:=fW g;clear g;have y:=fW j;clear j;have q:=A;have r:=B;obtain⟨R,p⟩:∃R,R=(F4 ks t) σ:=⟨_,rfl⟩;rw[<-p]at G|-;unfold F4 at p;have HS:=G;have H:=fW (At.start h);have a:=fW p;clear p;have z:=fX (box.fr d.out (H.out.fr.n E.bm) (by decide)) 0;have O:=fX (box.fr u.out (H.out.fr.n E.bm) (by decide)) 0;have P:=fX (box.fr y.out (H.out.fr.n E.bm) (by decide)) 0;dsimp at z O P;go_enter func263,ntmps263
 go_wp21
 refine Am (λ_=>yG H.rel (q.frA H.fr) (r.frA H.fr)) H a HS lT ?_;rintro(_) σ w H N a;have z:=fX (box.fr d.out (H.out.fr.n E.bm) (by decide)) 0;dsimp at z
 go_wp21
 refine dC (vE E (iK E) t Q) H a HS rfl lT ?_;rintro(_) f σ w H S N a;go_wp2;go_end0;exact gv a H rfl
def aaC (E:Env) (t:gN) (b:M Bool) (k:Nat) (u:j9 E k (λ_=>#[Bp E]) b bV) (r:∀a w,(callFunc k a).run prog w= .ok (.enter k a) w) (m:Nat) (h:RF E f σ w) (p:(Dw b) σ≠ .stuck) (d:box w m (.func (.func k) #[iC E.bB] #[]) 70):
  Calls prog 213 #[iF E t,iC m] w (Leaves E f σ.nodes.length w ((Dw b) σ) uV):=by
 have j:=fW d;clear d;obtain⟨R,e⟩:∃R,R=(Dw b) σ:=⟨_,rfl⟩;rw[<-e]at p|-;unfold Dw at e;have HS:=p;have H:=fW (At.start h);have g:=fW e;clear e;have q:=fX (box.fr j.out (H.out.fr.n E.bm) (by decide)) 0;dsimp at q;go_enter func213,ntmps213
 go_wp21
 refine mC (u) H g HS rfl lT ?_;rintro(_) σ w H y g;go_wp2;go_end0;exact gv g H rfl
def Ng (E:Env) (rec:Nat->gN->M Unit) (D:∀(m:Nat) (t:gN),jd E t->ja E 153 (λ_=>#[Bp E,gp m,iF E t]) (rec m t) uV) (t:gN) (I:jd E t) (b:M Bool) (k:Nat) (G:j9 E k (λ_=>#[Bp E]) b bV) (F:∀d w,(callFunc k d).run prog w= .ok (.enter k d) w) (r u:Nat) (h:RF E f σ w) (y:(xq rec b t) σ≠ .stuck) (e:box w r (iC E.bB) 93) (g:box w u (.func (.func k) #[iC E.bB] #[]) 70):
  Calls prog 208 #[iF E t,iC u,iC r] w (Leaves E f σ.nodes.length w ((xq rec b t) σ) uV):=by
 have p:=fW e;clear e;have q:=fW g;clear g;obtain⟨R,j⟩:∃R,R=(xq rec b t) σ:=⟨_,rfl⟩;rw[<-j]at y|-;unfold xq at j;have HS:=y;have H:=fW (At.start h);have a:=fW j;clear j;have B:=fX (box.fr q.out (H.out.fr.n E.bm) (by decide)) 0;dsimp at B;go_enter func208,ntmps208
 go_wp21
 refine mC (G) H a HS rfl lT ?_;rintro(A) σ w H z a;have C:=fX (box.fr p.out (H.out.fr.n E.bm) (by decide)) 0;dsimp at C;cases A with
 |true=>
  replace a:Hid (R=(j1 rec t>>=λ_=>(pure ():M Unit)) σ):=a
  go_wp21
  refine dC (th E rec D t I) H a HS rfl lT ?_;rintro(_) f σ w H K z a;go_wp2;go_end0;exact gv a H rfl
 |false=>
  replace a:Hid (R= .ok () σ):=a;go_wp2;go_end0;exact gv a H rfl
theorem mL.lX (h:mL σ) (O:σ'.nodes=σ.nodes) (q:σ'.gA=σ.gA) (G:σ'.act=σ.act) (H:σ'.head=σ.head) (P:σ'.form=σ.form) (I:σ'.pQ=σ.pQ) (K:σ'.qO=σ.qO):mL σ':=by
 have⟨r,h⟩:=h;have g:∀i,σ'.ib i=σ.ib i:=λi=>by unfold Ab.ib;rw[O]
 have R:∀k,σ'.ji k=σ.ji k:=λk=>by
  cases k with
  |el i=>grind[Ab.ji]
  |tx i=>grind[Ab.ji]
  |cm i=>grind[Ab.ji]
  |dt i=>grind[Ab.ji]
 have B:∀x,σ'.mF x=σ.mF x:=λx=>by
  cases x with
  |none=>rfl
  |some i=>grind[Ab.mF]
 have N:∀i s,iV σ i s->iV σ' i s:=λi s ⟨e,y,m⟩=>⟨e,by grind,m⟩;refine⟨r,⟨⟨?_,?_,?_,?_⟩,⟨?_,?_,?_⟩,?_,?_,?_,?_,?_,?_,?_,?_,?_,?_⟩⟩
 .intro i e p a D;rw[g]at a;have⟨ep,y,m⟩:=h.nM.up i e p a D;grind
 .intro i e j a Q;rw[g]at a;have⟨ep,y,m⟩:=h.nM.dn i e j a Q;grind
 .intro i e a;rw[g]at a;exact h.nM.nd i e a
 .intro i e a k C;rw[g]at a;rw[R];exact h.nM.kd i e a k C
 .intro i e p a D;rw[g]at a;exact h.sY.je i e p a D
 .rw[q];exact h.sY.gA
 .rw[q,H];exact h.sY.hd
 .rw[q];intro x F;rw[B];exact h.gA x F
 .rw[G];intro i a;have⟨e,y,m⟩:=h.act i a;grind
 .rw[H];exact λd A=>N _ _ (h.head d A)
 .rw[P];exact λd A=>N _ _ (h.form d A)
 .rw[q];intro x u F;have⟨z,y,m⟩:=h.KB x u F;grind
 .rw[q,I];exact h.wT
 .rw[G,K];exact h.zH
 .rw[I];exact h.OB
 .rw[K];exact h.RK
 .rw[g];exact h.xb
def mL.N8 (h:mL σ) (x:jg) (a:∀d,x=some d->iV σ d iM):mL {σ with form:=x}:=by
 have⟨r,h⟩:=h;exact⟨r,⟨⟨h.nM.up,h.nM.dn,h.nM.nd,h.nM.kd⟩,⟨h.sY.je,h.sY.gA,h.sY.hd⟩,h.gA,h.act,h.head,a,h.KB,h.wT,h.zH,h.OB,h.RK,h.xb⟩⟩
def p9 (m:Nat):Bool:=decide (m=6)||decide (m=7)||(decide (9<=m)&&decide (m<=17))
structure BMs (σ:Ab):Prop where
 ne:σ.gA≠[]
 sh:p9 σ.mode=true\/(σ.mode=5/\p9 σ.kept=true/\2<=σ.gA.length)\/(σ.mode=8/\(σ.kept=7\/σ.kept=11\/σ.kept=12))
def iV.nodes (h:iV σ i s) (e:σ'.nodes=σ.nodes):iV σ' i s:=by
 unfold iV Ab.ib at h|-;rw[e];exact h
structure Lm (σ σ':Ab):Prop where
 gQ:σ'.gQ=σ.gQ
 pQ:σ'.pQ=σ.pQ
 qO:σ'.qO=σ.qO
 oZ:σ'.oZ=σ.oZ
 wt:σ'.waiting.length<=σ.waiting.length+1
 wz:∀x∈σ'.waiting,x∈σ.waiting\/x.2.2.size<=100
 nm:∀i s,iV σ i s->iV σ' i s
def Fx.lm (h:Fx σ σ'):Lm σ σ':=⟨h.gQ,h.pQ,h.qO,h.oZ,by rw[h.waiting];omega,by rw[h.waiting];exact λ_ h=> .inl h,h.nm⟩
def RB (c:Nat) (σ:Ab) (r:pG Unit):Prop:=match r with
 | .ok _ σ'=>mL σ'/\BMs σ'/\Lm σ σ'/\wt σ'<=wt σ+c
 | .stop _ p=>p=σ.gQ
 | .stuck=>False
theorem RB.mono {c' : Nat} {r : pG Unit} (h:RB c σ r) (d:c<=c'):RB c' σ r:=by
 cases r with
 |ok a σ'=>grind[RB]
 |stop e p=>exact h
 |stuck=>exact h
def jG.rb {r : pG Unit} {Q : Unit->Ab->Prop} (h:jG c σ r Q) (d:σ.gA≠[]) (g:p9 σ.mode=true):RB c σ r:=by
 cases r with
 |ok a σ'=>
  have⟨h1,h2,h3,_⟩:=h;exact⟨h1,⟨h2.ne d,.inl (by rw[h2.mode];exact g)⟩,h2.lm,h3⟩
 |stop e p=>exact h
 |stuck=>exact h
def RB.bind {α:Type} {c1 c2 : Nat} {x:M α} {k:α->M Unit} {Q:α->Ab->Prop} (h:jG c1 σ (x σ) Q) (A:∀a σ',mL σ'->Fx σ σ'->wt σ'<=wt σ+c1->Q a σ'->RB c2 σ' (k a σ')) (C:c1+c2<=c):RB c σ ((x>>=k) σ):=by
 rw[M.gy];cases hm:x σ with
 |ok a σ'=>
  rw[hm]at h;obtain⟨u,d,y,z⟩:=h;have j:=A a σ' u d y z;dsimp only;cases hk2:k a σ' with
  |ok b σ2=>
   rw[hk2]at j;obtain⟨m,r,g,B⟩:=j;exact⟨m,r,⟨g.gQ.trans d.gQ,g.pQ.trans d.pQ,g.qO.trans d.qO,g.oZ.trans d.oZ,by have:=g.wt;rw[d.waiting]at this;exact this,by have:=g.wz;rw[d.waiting]at this;exact this,λi s q=>g.nm i s (d.nm i s q)⟩,by omega⟩
  |stop e p=>
   rw[hk2]at j;exact BL j d.gQ
  |stuck=>rw[hk2]at j;exact j
 |stop e p=>rw[hm]at h;exact h
 |stuck=>rw[hm]at h;exact h
def N5 (h:mL σ) (a:σ.gA≠[]) (m:Nat) (d:p9 m=true):RB 0 σ ((jM m>>=λ_=>(Pure.pure ():M Unit)) σ):=
 ⟨h.lX rfl rfl rfl rfl rfl rfl rfl,⟨a,.inl d⟩,⟨rfl,rfl,rfl,rfl,lf _,λ_ h=> .inl h,λ_ _ h=>h⟩,nh (jl rfl)⟩
def rW (h:mL σ) (a:BMs σ):RB 0 σ ((Pure.pure ():M Unit) σ):=⟨h,a,⟨rfl,rfl,rfl,rfl,lf _,λ_ h=> .inl h,λ_ _ h=>h⟩,ij _⟩
structure rG (σ:Ab):Prop where
 iv:mL σ
 ne:σ.gA≠[]
 md:p9 σ.mode=true
def rG.next (h:rG σ) (i:mL σ') (f:Fx σ σ'):rG σ':=⟨i,f.ne h.ne,by rw[f.mode];exact h.md⟩
def rG.Xc (h:rG σ):BMs σ:=⟨h.ne,.inl h.md⟩
structure nT (σ:Ab) (t:gN):Prop where
 tag:t.rJ=true
 fr:σ.fresh=true
def tD (h:mL σ):jG 0 σ (oD σ) (λ_ σ'=>uC σ σ'):=
 jG.iH ((vX h (ik [mZ]) Dk (by kernel_rfl)).mono (ij _) (λ_ _ _ _ h=>h.1))
theorem oR (h:mL σ) (d:σ.gA≠[]) (e:nT σ t) (hw:wt σ < 999900):jG 33 σ (ly t σ) (λ_ σ'=>∃a j,Fz a t.name j σ'/\σ.gA <+:a.gA/\a.act.length=σ.act.length):=by
 unfold ly;refine jG.bind (nQ h d (by omega)) (c2:=1) ?_ (by omega);rintro _ a k g r ⟨p,q,m⟩;refine jG.iH ((jS k (g.ne d) (by omega) t e.tag (m.trans e.fr)).mono (ij _) ?_)
 grind
theorem td (h:mL σ) (d:σ.gA≠[]) (e:nT σ t) (hw:wt σ < 999000):jG 1 σ (mW t σ) (λ_ σ'=>∃a j,Fz a t.name j σ'):=by
 unfold mW;refine jG.bind (tD h) (c2:=1) ?_ (by omega);rintro _ a k g p m;refine jG.iH ((jS k (g.ne d) (by omega) t e.tag (m.fresh.trans e.fr)).mono (ij _) ?_)
 grind
section
variable {σ:Ab} {t:gN} (h:rG σ) (hw:wt σ < 999000)
include h hw
def Lq (a:nT σ t):RB 33 σ (ly t σ):=(oR h.iv h.ne a (by omega)).rb h.ne h.md
def Ll (a:nT σ t):RB 1 σ (mW t σ):=(td h.iv h.ne a hw).rb h.ne h.md
def QZ (g:nT σ t):RB 1 σ (wE t σ):=by
 unfold wE;refine RB.bind (td h.iv h.ne g hw) (c2:=0) ?_ (by omega);rintro _ j d e _ _;have a:=h.next d e;exact⟨d.lX rfl rfl rfl rfl rfl rfl rfl,⟨a.ne,.inl a.md⟩,⟨rfl,rfl,rfl,rfl,lf _,λ_ h=> .inl h,λ_ _ h=>h⟩,nh (jl rfl)⟩
def GF (a:nT σ t):RB 1 σ (oq t σ):=by
 have:jG 1 σ (oq t σ) (λ_ _=>True):=by
  unfold oq;refine jG.bind (tD h.iv) (c2:=1) ?_ (by omega);rintro _ p g d r k;refine jG.bind (tU g (ik [me,mf]) (by kernel_rfl)) (c2:=1) ?_ (by omega);rintro _ q j e u m;exact jG.iH ((jS j (e.ne (d.ne h.ne)) (by omega) t a.tag (m.fresh.trans (k.fresh.trans a.fr))).mono (ij _) (λ_ _ _ _ _=>trivial))
 exact this.rb h.ne h.md
def Ti (a:nT σ t):RB 1 σ (xl t σ):=by
 have:jG 1 σ (xl t σ) (λ_ _=>True):=by
  unfold xl;refine jG.bind (tD h.iv) (c2:=1) ?_ (by omega);rintro _ j e d k g;exact jG.iH ((qq e (d.ne h.ne) (by omega) t a.tag (g.fresh.trans a.fr)).mono (ij _) (λ_ _ _ _ _=>trivial))
 exact this.rb h.ne h.md
def Ob (r:nT σ t) (p:t.name=iM):RB 1 σ (ub t σ):=by
 unfold ub;cases hf:σ.form with
 |some d=>exact(rW h.iv h.Xc).mono (by omega)
 |none=>
  dsimp only;refine RB.bind (td h.iv h.ne r hw) (c2:=0) ?_ (by omega);rintro _ a k m _ ⟨u,j,q⟩;have e:=h.next k m;refine⟨k.N8 a.last ?_,⟨e.ne,.inl e.md⟩,⟨rfl,rfl,rfl,rfl,lf _,λ_ h=> .inl h,λ_ _ h=>h⟩,nh (jl rfl)⟩;intro d g;rw[DO q]at g;cases g;rw[<-p];exact q.nm
def JN (a:nT σ t):RB 33 σ (ph t σ):=by
 have:jG 33 σ (ph t σ) (λ_ _=>True):=by
  unfold ph;refine jG.bind (vX h.iv (ik [hU]) iQ (by kernel_rfl)) (c2:=33) ?_ (by omega);rintro _ j e d k ⟨g,_⟩;exact jG.iH ((oR e (d.ne h.ne) ⟨a.tag,g.fresh.trans a.fr⟩ (by omega)).mono (ij _) (λ_ _ _ _ _=>trivial))
 exact this.rb h.ne h.md
def Ls (d:nT σ t):RB 1 σ (su t σ):=by
 unfold su;have g:jG 0 σ (yF σ) (λ_ σ'=>uC σ σ'):=by
  unfold yF;split
  .exact⟨h.iv,Fx.refl _,ij _,uC.refl _⟩
  .exact tD h.iv
 refine RB.bind g (c2:=1) ?_ (by omega);rintro _ p j a r m;refine RB.bind (jS j (a.ne h.ne) (by omega) t d.tag (m.fresh.trans d.fr)) (c2:=0) ?_ (by omega);rintro _ q k e u _;exact N5 k (e.ne (a.ne h.ne)) 7 rfl
def Gd (e:nT σ t) (b:Bool):RB 1 σ (od t b σ):=by
 unfold od;refine RB.bind (jS h.iv h.ne (by omega) t e.tag e.fr) (c2:=0) ?_ (by omega);rintro _ a g d _ ⟨j,q⟩;refine⟨g.lX rfl rfl rfl rfl rfl rfl rfl,⟨d.ne h.ne,.inr (.inl ⟨rfl,?_,?_⟩)⟩,⟨rfl,rfl,rfl,rfl,lf _,λ_ h=> .inl h,λ_ _ h=>h⟩,nh (jl rfl)⟩
 .show p9 a.mode=true;rw[d.mode];exact h.md
 .have:=DP q h.ne;exact this
def JR (a:nT σ t):RB 33 σ (pj t σ):=by
 have:jG 33 σ (pj t σ) (λ_ _=>True):=by
  unfold pj;refine jG.bind (tU h.iv (ik [gO]) (by kernel_rfl)) (c2:=33) ?_ (by omega);rintro _ j e d k g;exact jG.iH ((oR e (d.ne h.ne) ⟨a.tag,g.fresh.trans a.fr⟩ (by omega)).mono (ij _) (λ_ _ _ _ _=>trivial))
 exact this.rb h.ne h.md
def JS (d:nT σ t):RB 33 σ (qz t σ):=by
 unfold qz;refine RB.bind (oR h.iv h.ne d (by omega)) (c2:=0) ?_ (by omega);rintro _ g e a _ _;refine⟨e.lX rfl rfl rfl rfl rfl rfl rfl,⟨a.ne h.ne,.inl ?_⟩,⟨rfl,rfl,rfl,rfl,lf _,λ_ h=> .inl h,λ_ _ h=>h⟩,nh (jl rfl)⟩;show p9 (if _ then 15 else 14)=true;split<;>rfl
def Og (a:nT σ t):RB 33 σ (sG t σ):=by
 have:jG 33 σ (sG t σ) (λ_ _=>True):=by
  unfold sG;refine jG.bind (nQ h.iv h.ne (by omega)) (c2:=1) ?_ (by omega);rintro _ j e d p ⟨k,m,g⟩;exact jG.iH ((qq e (d.ne h.ne) (by omega) t a.tag (g.trans a.fr)).mono (ij _) (λ_ _ _ _ _=>trivial))
 exact this.rb h.ne h.md
omit h hw in
def ng (e:mL σ) (d:σ.gA≠[]) (m:nT σ t) (k:rl t.name=true) (hw:wt σ < 999900):jG 33 σ (iW t σ) (λ_ _=>True):=by
 unfold iW;refine jG.bind (oR e d m hw) (c2:=0) ?_ (by omega);rintro _ a p u y ⟨r,j,q,_⟩;have g:I7 a= .ok j a:=by unfold I7;rw[DO q]
 rw[M.gy,g];dsimp only;exact jG.iH ((Xv p q.nm k).mono (ij _) (λ_ _ _ _ _=>trivial))
def Cy (d:nT σ t) (a:rl t.name=true):RB 33 σ (iW t σ):=(ng h.iv h.ne d a (by omega)).rb h.ne h.md
theorem Od (m:nT σ t) (u:t.name=tl):RB 330 σ (qZ t σ):=by
 have d:rl t.name=true:=by rw[u];kernel_rfl
 unfold qZ;cases hl:σ.pw tl with
 |none=>
  dsimp only;exact RB.mono (c:=33) ((jG.iH (Q:=λ_ _=>True) (ng h.iv h.ne m d (by omega))).rb h.ne h.md) (by omega)
 |some a=>
  dsimp only;have⟨hm,hnm⟩:=xz σ tl hl;have⟨r,hr⟩:=id h.iv;have⟨ea,hea,hfa⟩:=hr.act a (List.mem_reverse.1 hm);have g:=R8 hea;have j:σ.nm a≠fY:=by rw[tI hnm];intro e;cases e
  have:jG 330 σ ((wX tl>>=λ_=>kH (some a)>>=λ_=>kq (some a)>>=λ_=>iW t>>=λ_=>(Pure.pure ():M Unit)) σ) (λ_ _=>True):=by
   refine jG.bind (Eo h.iv h.ne (s:=tl) (by grind) (by omega)) (c2:=33) ?_ (by omega);rintro _ F y k I B;refine jG.bind (yC y (x:=some a) (lV (k.nm _ _ g))) (c2:=33) ?_ (by omega);rintro _ G z p K C;refine jG.bind (Cf z (p.nm _ _ (k.nm _ _ g)) j) (c2:=33) ?_ (by omega);rintro _ H A q N D;exact jG.iH (ng A (q.ne (p.ne (k.ne h.ne))) ⟨m.tag,by rw[D.fresh,C.fresh,B];exact m.fr⟩ d (by omega))
  exact this.rb h.ne h.md
end
def Rel.acY (h:Rel E L σ w) (s:gz) (p:Bool):Rel E L {σ with nC:=s,iZ:=p} ((w.setCell ⟨E.bR,E.EH,none⟩ (gI s)).setCell ⟨E.bR,E.EH+1,none⟩ (.bool p)):=by
 have j:Kept [E.bR] w ((w.setCell ⟨E.bR,E.EH,none⟩ (gI s)).setCell ⟨E.bR,E.EH+1,none⟩ (.bool p)):=((Kept.refl _ w).setCell (.inl (by simp)) _).setCell (.inl (by simp)) _;have d:KT E.bs [132] w ((w.setCell ⟨E.bR,E.EH,none⟩ (gI s)).setCell ⟨E.bR,E.EH+1,none⟩ (.bool p)):= .jT j (λk j _=>by simp at j;subst j;exact⟨⟨_,_,_,h.rd,by simp⟩,h.bR⟩);obtain⟨C,q,a⟩:=h.iw;have m:=gh (gh h.rd E.EH (gI s)) (E.EH+1) (.bool p);have u:=h.QJ;exact {h with
  fr:=h.fr.trans (d.fr (by decide))
  sL:=λi y r=>(h.sL i y r).kt d (by decide)
  inj:=h.inj,A0:=h.A0,F5:=h.F5,uq:=h.uq,Ep:=h.Ep
  wf:=⟨h.wf.gA,h.wf.act,h.wf.head,h.wf.form,h.wf.je,h.wf.kids,h.wf.xb⟩
  iw:=⟨C,d.at q (by decide),⟨a.size,a.low,a.gA,a.act,a.head,a.form,a.mode,a.kept,a.wait,a.ID,a.jL,a.gQ,a.behind⟩⟩
  o0:=d.row h.o0 (by decide)
  pX:=d.row h.pX (by decide)
  F9:=h.F9,wT:=h.wT,Et:=h.Et
  oT:=d.row h.oT (by decide)
  bz:=h.bz,bB:=h.bB,bR:=h.bR,bN:=h.bN
  rd:=by
   rw[m]
   congr 2
   apply Array.ext_getElem?;intro i
   by_cases e:E.EH+1=i
   .subst e;rw[Oy (by simp;omega),Oy (by simp;omega)]
   .rw[Ei e,Ei e]
    by_cases g:E.EH=i
    .subst g;rw[Oy (by simp;omega),Oy (by omega)]
    .rw[Ei g,Ei e,Ei g,Ei g]
  tok:=d.row h.tok (by decide)
  Lt:=h.Lt,Da:=h.Da,ab:=h.ab,tb:=h.tb,Lv:=h.Lv}
theorem Rel.wx (h:Rel E L σ w):w.cell? ⟨E.bR,E.EH,none⟩=some (gI σ.nC)/\w.cell? ⟨E.bR,E.EH+1,none⟩=some (.bool σ.iZ)/\(∀j,w.frozen? ⟨E.bR,j,none⟩=false)/\E.bR < w.heap.size:=by
 have a:=h.QJ;refine⟨?_,?_,λj=>gG h.rd j,jn h.rd⟩
 .rw[fX h.rd,Ei (by omega)]
  grind
 .rw[fX h.rd]
  grind
theorem Vl (E:Env) (m:E.EH=7) (h:RF E f σ w) (s:gz) (p:Bool):
  Calls prog 36 #[gL E.bR,gI s,.bool p] w λe w'=>e=p8/\RF E f {σ with nC:=s,iZ:=p} w'/\Fr E.bs w w':=by
 obtain⟨L,rfl,a⟩:=h;have⟨c1,c2,fz,hl⟩:=a.wx;have j:=a.acY s p;have g:Fr E.bs w ((w.setCell ⟨E.bR,E.EH,none⟩ (gI s)).setCell ⟨E.bR,E.EH+1,none⟩ (.bool p)):= .jT (((Kept.refl [E.bR] w).setCell (.inl (by simp)) _).setCell (.inl (by simp)) _) (λk d=>by simp at d;subst d;exact⟨⟨_,_,_,a.rd,by decide⟩,a.bR⟩);rw[m]at c1 c2 j g;have q:=fz 7;have r:=fz 8;go_enter func36,ntmps36;go_wp2;go_end0
 grind[RF]
def At.c3 {d : Nat->Nat} {e : Nat} (h:At E d e w0 f σ w):w.cell? ⟨E.bB,3,none⟩=some (.func (.func 36) #[gL E.bR] #[]):=by
 obtain⟨L,rfl,a⟩:=h.rel;exact a.low (by decide) a.env.txt
def Jm (E:Env) (z:E.EH=7) (t:gN) (C:jd E t) (a:Bool):ja E 166 (λ_=>#[Bp E,iF E t,.bool a]) (od t a) uV:=by
 refine dI λf σ w R k HS H=>?_;unfold od at k;go_enter func166,ntmps166
 go_wp21
 refine dC (kZ E (iK E) t C) H k HS rfl lT ?_;rintro(_) f σ w H G F k;have⟨ta,tb,tao,tn,tcp,HTG⟩:=Ec E t H.rel;have y:=λw=>AC ta tb t.name tao tn tcp w;have u:=H.c3;have A:=H.lt;have m:=u
 go_wp21
 go_region_with (first
  |(go_at_call 158;refine(HTG _).mono ?_;rintro e D ⟨rfl,j⟩;have g:=fW (((Kept.refl [] w).drew).trans j);have N:D.cell? ⟨E.bB,3,none⟩=_:=(g.cell (p:=⟨E.bB,3,none⟩) A (by simp)).trans m;clear j)
  |(go_at_call 36;refine(Vl E z (H.k0 g).rel t.name a).mono ?_;rintro e Q ⟨rfl,q,r⟩;have d:=fW ((H.k0 g).to q (se _ _ rfl) r);clear q r))
 all_goals
  have I:=d.rH;have O:=d.free 192;have K:=d.RX;have P:=d.free 193;have B:=d.lt;replace d:=(d.ym σ.mode).jc 5;go_wp2;go_end0;exact gv k d rfl
def Gm (E:Env) (d:E.EH=7) (t:gN) (e:jd E t):ja E 93 (λ_=>#[Bp E,iF E t]) (ue t) uV:=by
 refine dI λf σ w R a HS H=>?_;unfold ue at a;go_enter func93,ntmps93
 go_wp21
 refine dC (Jm E d t e false) H a HS rfl lT ?_;rintro(_) f σ w H j g a;go_wp2;go_end0;exact gv a H rfl
def Fh (E:Env) (d:E.EH=7) (t:gN) (e:jd E t):ja E 94 (λ_=>#[Bp E,iF E t]) (oS t) uV:=by
 refine dI λf σ w R a HS H=>?_;unfold oS at a;go_enter func94,ntmps94
 go_wp21
 refine dC (Jm E d t e true) H a HS rfl lT ?_;rintro(_) f σ w H j g a;go_wp2;go_end0;exact gv a H rfl
def GG (E:Env) (d:E.EH=7) (t:gN) (e:jd E t):ja E 182 (λ_=>#[Bp E,iF E t]) (pW t) uV:=by
 refine dI λf σ w R a HS H=>?_;unfold pW at a;go_enter func182,ntmps182
 go_wp21
 refine dC (Gm E d t e) H a HS rfl lT ?_;rintro(_) f σ w H j g a;have k:=H.XO;have m:=H.free 198;have p:=H.lt;replace H:=H.sj true;go_wp2;go_end0;exact gv a H rfl
def YZ (h:RF E f σ w) (x:jg) (a:kq x σ≠ .stuck):
  Calls prog 168 #[jF E.bB 188,oV f x] w λe w'=>e=p8/\kq x σ= .ok () {σ with gA:=σ.gA.erase x}/\RF E f {σ with gA:=σ.gA.erase x} w'/\Fr E.bs w w':=by
 have:=DW E x f σ w h a;unfold kq at this a|-
 by_cases d:σ.gX x=true
 .rw[gF d]at this|-;exact this.mono (λe w' h=>⟨h.1,rfl,h.2.1,h.2.2.1⟩)
 .rw[gR d]at a;exact absurd rfl a
def MY (E:Env) (rec:Nat->gN->M Unit) (B:∀(m:Nat) (t:gN),jd E t->ja E 153 (λ_=>#[Bp E,gp m,iF E t]) (rec m t) uV) (t:gN) (F:jd E t):ja E 98 (λ_=>#[Bp E,iF E t]) (tA rec t) uV:=by
 refine dI λf σ w R d HS H=>?_;unfold tA at d;go_enter func98,ntmps98;have A:=H.Vq;have C:=H.lt
 go_wp21
 refine Am (λD=>(show Calls prog 167 #[Bp E,oV f σ.head] w (j8 E f σ.nodes.length w (pushHead σ) uV)from N0 E σ.head f σ w H.rel D)) H d HS lT ?_;rintro(_) σ w H u d
 go_wp21
 refine dC (B 3 t F) H d HS rfl lT ?_;rintro(_) f σ w H G u d;have A:=H.Vq;have C:=H.lt;have j:kq σ.head σ≠ .stuck:=by
  intro k;apply HS;rw[d.out,M.gy];unfold px;rw[k]
 have g:=YZ (H.k0 ((Kept.refl _ w).drew)).rel σ.head j
 go_wp21
 go_region_with (go_at_call 168;refine g.mono ?_;rintro e I ⟨rfl,p,q,r⟩;have z:=fW ((H.k0 ((Kept.refl _ w).drew)).to q (se _ _ rfl) r);have y:=fW p;clear p q r)
 all_goals
  go_wp2;go_end0;refine gv (σ:={σ with gA:=σ.gA.erase σ.head}) (a:=()) ?_ z rfl;rw[d.out,M.gy];unfold px;rw[y.out];rfl
def Ph (E:Env) (i:Nat) (h:RF E f σ w) (z:iB σ.gA 0=some i) (y:jx i σ≠ .stuck):Calls prog 136 #[Bp E] w (j8 E f σ.nodes.length w (jx i σ) pV):=by
 obtain⟨R,r⟩:∃R,R=jx i σ:=⟨_,rfl⟩;have k:=(h.im ((Kept.refl _ w).alloc RL)).atO 0;rw[z]at k;have m:=(show Calls prog 229 #[jF E.bB 188,gp 0] (w.alloc RL) (λe w'=>e=ir (gL (f i))/\w'=w.alloc RL)from k);rw[<-r]at y|-;have HS:=y;have H:=(At.start h).k0 ((Kept.refl _ w).alloc RL);have q:=fW (M.tail r);have G:=fZ w RL;have N:=h.lt;clear h y r z k;go_enter func136,ntmps136
 go_wp21
 refine m.mono ?_;rintro e w' ⟨rfl,rfl⟩
 go_wp21
 refine j9.call (FT E i) H q HS rfl ?_ ?_
 .intro c p j U d D F;have C:=fW d;clear d;go_wp2;exact⟨rfl,tP C D F⟩
 rintro g O S d A B;have a:=A.cell G (by decide);have I:=fX a 0;have K:=fX a 1;have P:=gG a 0;have Q:=gG a 1;dsimp at I K;replace H:=((d.side a (by decide) (ij _) 0 (gL (f g.1))).side (gh a 0 _) (by decide) (ij _) 1 (gp g.2));replace q:=fW B;have u:=fW (gh (gh a 0 (gL (f g.1))) 1 (gp g.2));clear d A B;go_wp2;refine qe (v:=pV f g) ?_ rfl (jZ q H rfl);simp[results,results136,asAddr,Result.andThen,go_sem,fX u.out]
attribute [local go_sem] Oper.semAt_some
theorem Us (E:Env) (h:RF E f σ W) (s:gz) (c:Bool) (k:Nat) (S:W.heap[k]?=some (gJ #[gI s] (if c then 218 else 222))) (F:∀i,i < σ.nodes.length->f i < k) (z:E.bs<=k) (pl:Nat×Nat) (d:oP pl (if c then .cm s else .dt s) (if c then Nd.cm else Nd.dt) σ= .ok () σ'):
  Calls prog 156 #[pV f pl,((if c then Nd.cm else Nd.dt) k).val] W λe W'=>e=p8/\∃g,RH σ.nodes.length f g/\σ.nodes.length<=σ'.nodes.length/\RF E g σ' W'/\Fr E.bs W W':=by
 obtain⟨L,rfl,Q⟩:=h;obtain⟨q,p⟩:∃q:Bj,q=if c then .cm s else .dt s:=⟨_,rfl⟩
 obtain⟨u,a⟩:∃u:Nat->Nd,u=if c then Nd.cm else Nd.dt:=⟨_,rfl⟩
 rw[<-p,<-a]at d;rw[<-a];have G:∀e,q≠ .el e:=by intro e;rw[p];cases c<;>simp
 have D:∀i j,u i≠ .el j:=by intro i j;rw[a];cases c<;>simp
 have H:Rel E (L.new σ.nodes.length k (jX) (jX)) (σ.add q) W:=by
  refine Q.aci q k (jX) (jX) σ.fresh (Kept.refl _ _) F z ?_ rfl (λe O=>absurd O (G e)) (λ_ _ _ _ _ r=>by cases r) (λ_ _ _ _ _ _ r=>by cases r) (λ_=>rfl) (λP=>⟨P,λ_ _=>by simp[Value.ownBlock]⟩) (λ_ r=>by cases r);rw[p];cases c with
  |true=>show _=_;grind[Loc.new]
  |false=>show _=_;grind[Loc.new]
 unfold oP zB at d;cases m:(σ.add q).ib pl.1 with
 |none=>rw[m]at d;cases d
 |some ei=>
  rw[m]at d;dsimp only at d;split at d
  .rename_i A;cases d;have B:pl.1 < σ.nodes.length:=by
    have r:=Ab.il m;have R:(σ.add q).nodes.length=σ.nodes.length+1:=by simp[Ab.add]
    rcases rA pl.1 σ.nodes.length with h|h
    .exact h
    .have e1:pl.1=σ.nodes.length:=by omega
     rw[e1,Ab.ui]at m
     grind
   have C:=Q8 H m A.1 (D _) A.2.1 A.2.2;have e1:place ((L.new σ.nodes.length k (jX) (jX)).gQ pl.1) pl.2=pV L.gQ pl:=by rw[Loc.An B]
   have e2:(Nd.map (L.new σ.nodes.length k (jX) (jX)).gQ (u σ.nodes.length))=u k:=by
    have y:(L.new σ.nodes.length k (jX) (jX)).gQ σ.nodes.length=k:=Loc.sX;rw[a];cases c
    .show Nd.dt _=Nd.dt k;rw[y]
    .show Nd.cm _=Nd.cm k;rw[y]
   rw[e1,e2]at C;refine C.mono ?_;rintro e W' ⟨rfl,I,y,N,K⟩;refine⟨rfl,I.gQ,λi m=>?_,?_,⟨I,rfl,N⟩,K⟩
   .rw[y];exact Loc.An m
   .rw[Ab.nD];simp[Ab.add]
  .cases d
structure Dc (E:Env) (pf:Nat) (own:Bool) (pm:M (Nat×Nat)):Prop where
 Yb:∀args w,(callFunc pf args).run prog w= .ok (.enter pf args) w
 same:∀σ pl σ1,pm σ= .ok pl σ1->σ1=σ
 NR:∀σ c p,pm σ≠ .stop c p
 aax:∀f σ w,RF E f σ w->pm σ≠ .stuck->Calls prog pf #[iC (if own then E.bB else f 0)] w (j8 E f σ.nodes.length w (pm σ) pV)
def nW (d:M (Nat×Nat)) (t:gN):M Unit:=match t.k with
 | .gS s=>do
  let a <-d
  oP a (.cm s) .cm
  return ()
 |_=>return ()
def Xb (E:Env) (f:Nat->Nat) (σ:Ab) (T:TypeId) (s:gz) (v:gP) (W:gw):Prop:=∃k,v=gL k/\W.heap[k]?=some (gJ #[gI s] T)/\(∀i,i < σ.nodes.length->f i < k)/\E.bs<=k
def Xb.fr (h:Xb E f σ 218 s v W) (a:Fr E.bs W W'):Xb E f σ 218 s v W':=by
 have⟨k,e,h1,h2⟩:=h;exact⟨k,e,a.zv h1 (by decide),h2⟩
def Xb.frD (h:Xb E f σ 222 s v W) (a:Fr E.bs W W'):Xb E f σ 222 s v W':=by
 have⟨k,e,h1,h2⟩:=h;exact⟨k,e,a.zv h1 (by decide),h2⟩
def Xb.new (h:RF E f σ W) (s:gz):Xb E f σ T s (gL W.heap.size) (W.alloc (gJ #[gI s] T)):=by
 obtain⟨L,rfl,a⟩:=h;exact⟨_,rfl,fZ W _,λi d=>a.Hp d,a.bw⟩
theorem R5 (E:Env) (Y:Nat) (own:Bool) (B:M (Nat×Nat)) (I:Dc E Y own B) (t:gN) (P:Nat) (h:RF E f σ w) (hs:nW B t σ≠ .stuck) (C:box w P (.func (.func Y) #[iC (if own then E.bB else f 0)] #[]) 190):
  Calls prog 155 #[iF E t,iC P] w (Leaves E f σ.nodes.length w (nW B t σ) uV):=by
 have G:=fW (At.start h);have⟨a,b,k,gM⟩:=t;cases k with
 |gS s=>
  have hx:∃j σ',B σ= .ok j σ/\oP j (.cm s) .cm σ= .ok () σ'/\nW B ⟨a,b,.gS s,gM⟩ σ= .ok () σ':=by
   have Q:nW B ⟨a,b,.gS s,gM⟩ σ=(B>>=λj=>oP j (.cm s) .cm>>=λ_=>(Pure.pure ():M Unit)) σ:=rfl;rw[M.gy]at Q;cases hq:B σ with
   |ok j σ1=>
    obtain rfl:=I.same _ _ _ hq;rw[hq]at Q;cases hq2:oP j (.cm s) .cm σ1 with
    |ok u σ'=>exact⟨j,σ',rfl,hq2,by rw[Q];dsimp only;rw[M.gy,hq2];rfl⟩
    |stop c p=>
     exfalso;unfold oP zB at hq2
     grind
    |stuck=>exact absurd (by rw[Q];dsimp only;rw[M.gy,hq2]) hs
   |stop c p=>exact absurd hq (I.NR _ _ _)
   |stuck=>grind
  have⟨j,σ',hq1,hq2,hq3⟩:=hx;rw[hq3];have D:=λW (hW:RF E f σ W)=>I.aax f σ W hW (by grind);rw[hq1]at D;have eg:=I.Yb;simp only[iF];have d:=qB underlying177;obtain⟨y,r⟩:∃y,y=w.alloc (gJ #[gp a,gp b,gI s] 177):=⟨_,rfl⟩;have F:Kept [] w y:=by rw[r];exact(Kept.refl _ _).alloc _
  have N:y.heap[w.heap.size]?=some (gJ #[gp a,gp b,gI s] 177):=by rw[r];exact fZ w _
  have A:=F.at C (by simp);have HC:=fW (λW (hF:Fr E.bs y W)=>(⟨by rw[fX (hF.zv A (by decide))];rfl,by rw[fX (hF.zv N (by decide))];rfl⟩:W.cell? ⟨P,0,none⟩=some (.func (.func Y) #[iC (if own then E.bB else f 0)] #[])/\W.cell? ⟨w.heap.size,2,none⟩=some (gI s)));have HW:=fW r.symm;have HA:=fW (G.out.k0 F);have a0:=fW D;have Z:=fW eg;have a1:=fW hq2;have HN:=fW (λi (hi:i < σ.nodes.length)=>(show f i < y.heap.size by
   have⟨L,e,hr⟩:=(G.out.k0 F).rel;rw[<-e];exact hr.Hp hi))
  have a3:=fW (show E.bs<=y.heap.size by
   have⟨L,e,hr⟩:=(G.out.k0 F).rel;exact hr.bw)
  clear h hs C I hq1 hq2 hq3 D eg N A F r G;go_enter func155,ntmps155
  go_wp21
  rw[HW.out];refine tw (by rfl) ?_;refine pN (λ(g:gP) z=>⟨#[.iface 177 (.agg #[gp a,gp b,gI s]),iC P,undef,gL w.heap.size,.bool true,.tuple #[.agg #[gp a,gp b,gI s],.bool true],.iface 177 (.agg #[gp a,gp b,gI s]),.tuple #[.agg #[gp a,gp b,gI s],.bool true],.agg #[gp a,gp b,gI s],.bool true,.bool true,cd z 0 (.func (.func Y) #[iC (if own then E.bB else f 0)] #[]),cd z 1 (pV f j),cd z 2 (jF w.heap.size 2),cd z 3 (gI s),cd z 4 (.agg #[gI s]),cd z 5 (g),cd z 6 (.iface 216 g),cd z 7 (.tuple #[])],[]⟩) (λg z W=>if dn z 7=true then (∃R,RH σ.nodes.length f R/\σ.nodes.length<=σ'.nodes.length/\RF E R σ' W/\Fr E.bs y W)else (RF E f σ W/\Fr E.bs y W/\(dn z 5=true->Xb E f σ 218 s g W))) 8 [[],[0],[],[2],[3],[4],[5],[0,1,2,3,4,5,6]] (undef) rfl (by rfl) (⟨HA.out.rel.im (Kept.refl _ _).drew,Fr.gZ (Kept.refl _ _).drew,λh=>by cases h⟩) ?_ ?_
  .repeat' first|exact mU|refine mQ ?_ ?_
   all_goals
    rintro g z W V K hn;simp[BR]at K;refine kN rfl ?_;intro K' m;simp only[ld,K];have X:dn z 7=false:=by simp[K,hn]
    have q:=(gR (by simp[X])).mp V;have⟨cc,c2⟩:=HC.out W q.2.1;have eg:=Z.out;go_simp
    first
    |refine m _ _ ⟨g,?_,(gR (by simp[oF,X])).mpr ⟨q.1,q.2.1,pY q.2.2 (by decide)⟩⟩
    |refine(a0.out W q.1).mono ?_;rintro e W2 ⟨rfl,a2,O,_⟩;refine m _ _ ⟨g,?_,(gR (by simp[oF,X])).mpr ⟨a2,q.2.1.trans O,pY (λh=>(q.2.2 h).fr O) (by decide)⟩⟩
    |have ka:Kept [] W (W.alloc (gJ #[gI s] 218)):=(Kept.refl _ _).alloc _;refine m _ _ ⟨_,?_,(gR (by simp[oF,X])).mpr ⟨q.1.im ka,q.2.1.trans (.gZ ka),λ_=>Xb.new q.1 s⟩⟩;have h9:dn z 6=false:=(by simp[hn]);simp[oC,vm,ld,acj,K,h9]
    |obtain⟨k,rfl,F,k2,k3⟩:=q.2.2 (by simp[K]);refine(Us E q.1 s true k F k2 k3 j a1.out).mono ?_;rintro e W2 ⟨rfl,R,g1,g2,S,U⟩;refine m _ _ ⟨gL k,?_,(gF rS).mpr ⟨R,g1,g2,S,q.2.1.trans U⟩⟩
    all_goals simp[oC,vm,ld,K]
  .rintro g W V;have⟨f2,g1,g2,S,U⟩:=(gF xw).mp V;simp only[uZ];have G3:=fW S;have G4:=fW (HA.out.fr.trans U);clear V S U;go_wp2
   all_goals go_end0
   all_goals exact⟨f2,g1,g2,rfl,G3.out,G4.out⟩
 |_=>
  change Calls _ _ _ _ (Leaves E f _ w (.ok () σ) uV);simp only[iF];have d:=sB;have H:=fW (G.out.k0 ((Kept.refl [] w).alloc (gJ #[gp 0,gp 0,gI kJ] 177)));clear h hs C I G;go_enter func155,ntmps155;go_wp2;go_end0;exact gv rfl H.out rfl
def RB.tail {m:M Unit} (h:RB c σ (m σ)):RB c σ ((m>>=λ_=>(Pure.pure ():M Unit)) σ):=by
 rw[M.gy];revert h;cases m σ<;>exact λh=>h
def RB.then {m:M Unit} (h:RB c σ (m σ)) (g:Ab->Ab) (N:∀σ,(g σ).nodes=σ.nodes/\(g σ).gA=σ.gA/\(g σ).act=σ.act/\(g σ).head=σ.head/\(g σ).form=σ.form/\(g σ).pQ=σ.pQ/\(g σ).qO=σ.qO/\(g σ).mode=σ.mode/\(g σ).kept=σ.kept/\(g σ).gQ=σ.gQ/\(g σ).oZ=σ.oZ/\(g σ).waiting=σ.waiting):RB c σ ((m>>=λ_=>wG g>>=λ_=>(Pure.pure ():M Unit)) σ):=by
 rw[M.gy];revert h;cases m σ with
 |ok a σ1=>
  rintro⟨I,B,d,K⟩;obtain⟨k,y,C,D,F,z,A,G,H,r,u,j⟩:=N σ1;refine⟨I.lX k y C D F z A,⟨by rw[y];exact B.ne,?_⟩,⟨r.trans d.gQ,z.trans d.pQ,A.trans d.qO,u.trans d.oZ,by rw[j];exact d.wt,by rw[j];exact d.wz,λi s q=>(d.nm i s q).nodes k⟩,by rw[jl k];exact K⟩;rw[G,H,y];exact B.sh
 |stop e p=>exact λh=>h
 |stuck=>exact λh=>h
def aeJ {a b : gz} (h:kA a b=false):a≠b:=by
 rintro rfl;unfold kA at h;simp at h
def LX (i:Nat) (a:gz×gz) (r:kY) (σ:Ab):qm i (a::r) σ=(match σ.ib i with
  |none=> .stuck
  |some e=>if yQ e.gV a.1 then qm i r σ else if σ.oZ<=e.gV.length then .stop 7 σ.gQ else qm i r (σ.ic i {e with gV:=e.gV++[a]})):=rfl
theorem EF:∀(gM:kY) {σ:Ab},mL σ->(σ.ib i).isSome=true->jG 0 σ (qm i gM σ) (λ_ _=>True)
 |[],σ,h,_=>⟨h,Fx.refl _,ij _,trivial⟩
 |a::r,σ,h,hi=>by
  have⟨e,he⟩:=Option.isSome_iff_exists.1 hi;have A:qm i (a::r) σ=(if yQ e.gV a.1 then qm i r σ else if σ.oZ<=e.gV.length then .stop 7 σ.gQ else qm i r (σ.ic i {e with gV:=e.gV++[a]})):=by
   rw[LX,he]
  rw[A];split
  .exact EF r h hi
  .split
   .rfl
   .have⟨rr,hr⟩:=h;have m:=Ab.il he;have G:(σ.ib i).isSome=true:=hi;have y:=hr.alike (σ':=σ.ic i {e with gV:=e.gV++[a]}) (λj q g=>by
     by_cases d:j=i
     .subst d;rw[he]at g;cases g;exact⟨_,Ab.iX m,rfl,rfl,rfl⟩
     .exact⟨q,by rw[Ab.iT d];exact g,rfl,rfl,rfl⟩) (λj q g=>by
     by_cases d:j=i
     .grind
     .rw[Ab.iT d]at g;grind) (λj q g k z=>by
     rw[Ab.la G]
     by_cases d:j=i
     .subst d;rw[Ab.iX m]at g;cases g;exact hr.nM.kd _ _ he k z
     .rw[Ab.iT d]at g;exact hr.nM.kd _ _ g k z)
    have hw:wt (σ.ic i {e with gV:=e.gV++[a]})=wt σ:=by
     have:=rP (e':={e with gV:=e.gV++[a]}) he;dsimp only at this;omega
    have F:=EF r (σ:=σ.ic i {e with gV:=e.gV++[a]}) ⟨rr,y.1⟩ (by rw[Ab.iX m];rfl);revert F;cases qm i r (σ.ic i {e with gV:=e.gV++[a]})with
    |ok u σ2=>rintro⟨B,C,H,D⟩;exact⟨B,y.2.trans C,by omega,D⟩
    |stop c p=>exact λh=>h
    |stuck=>simp[jG]
def PC (h:mL σ) (a:iV σ i s) (e:nj s=true) (t:gN) (d:σ.fresh=true):jG 0 σ (wh i t σ) (λ_ _=>True):=by
 unfold wh;rw[gF (by rw[rR];exact⟨d,by rw[jw.Qb a];exact e⟩)];exact EF t.js h (lV a)
def DB (h:mL σ) (a:σ.gA≠[]) (t:gN) (d:σ.fresh=true):jG 0 σ (oH t σ) (λ_ _=>True):=by
 have⟨r,hr⟩:=id h;have⟨q,e,rest,h1,h2,h3,h4⟩:=hr.first a;unfold oH;rw[h2];dsimp only;exact jG.iH (Q:=λ_ _=>True) (PC h ⟨e,h3,h4⟩ (by kernel_rfl) t d)
theorem Nk (h:mL σ) (t:gN) (g:σ.fresh=true):jG 0 σ (ql t σ) (λ_ _=>True):=by
 unfold ql;cases hq:iB σ.gA 1 with
 |none=>exact⟨h,Fx.refl _,ij _,trivial⟩
 |some i=>
  dsimp only;split
  .rename_i d;have⟨r,hr⟩:=id h;have k:some i∈σ.gA:=by
    rw[show(1:Int)=((1:Nat):Int)from rfl,qP,xo]at hq;cases hx:σ.gA[1]? with
    |none=>grind
    |some y=>grind
   have⟨j,e,e1,he⟩:=kI (hr.gA _ k);cases e1;have a:=R8 he;rw[tI d]at a;exact jG.iH (Q:=λ_ _=>True) (PC h a (by kernel_rfl) t g)
  .exact⟨h,Fx.refl _,ij _,trivial⟩
section
variable {σ:Ab} {t:gN} (h:rG σ) (hw:wt σ < 999000)
include h hw
theorem Oe (d:nT σ t) (m:t.name=iG):RB 360 σ (sE t σ):=by
 have a:rl t.name=true:=by rw[m];kernel_rfl
 have:jG 360 σ (sE t σ) (λ_ _=>True):=by
  unfold sE;refine jG.bind (nQ h.iv h.ne (by omega)) (c2:=325) ?_ (by omega);rintro _ r g e A ⟨y,z,j⟩;unfold ud;split
  .refine jG.bind (c1:=288) (Eo g (e.ne h.ne) (s:=iG) (by grind) (by omega)) (c2:=33) ?_ (by omega);rintro _ u p k B q;exact jG.iH (Q:=λ_ _=>True) (ng p (k.ne (e.ne h.ne)) ⟨d.tag,by rw[q,j];exact d.fr⟩ a (by omega))
  .exact jG.mono (c:=33) (jG.iH (Q:=λ_ _=>True) (ng g (e.ne h.ne) ⟨d.tag,by rw[j];exact d.fr⟩ a (by omega))) (by omega) (λ_ _ _ _ h=>h)
 exact this.rb h.ne h.md
def JQ (a:nT σ t):RB 33 σ (pi t σ):=by
 have:jG 33 σ (pi t σ) (λ_ _=>True):=by
  unfold pi;refine jG.bind (oR h.iv h.ne a (by omega)) (c2:=0) ?_ (by omega);rintro _ e d g j _;exact jG.iH ((vu d none (λ_ h=>by cases h)).mono (ij _) (λ_ _ _ _ _=>trivial))
 exact this.rb h.ne h.md
def aaV (a:nT σ t) (ks:List gz) (e:ik ks fY=false):RB 1 σ (F4 ks t σ):=by
 have:jG 1 σ (F4 ks t σ) (λ_ _=>True):=by
  unfold F4;refine jG.bind (vX h.iv (ik ks) Tw e) (c2:=1) ?_ (by omega);rintro _ k g d m ⟨j,_⟩;exact jG.iH ((td g (d.ne h.ne) ⟨a.tag,j.fresh.trans a.fr⟩ (by omega)).mono (ij _) (λ_ _ _ _ _=>trivial))
 exact this.rb h.ne h.md
def Ea (a:nT σ t):RB 1 σ (ue t σ):=RB.tail (Gd h hw a false)
def D9 (a:nT σ t):RB 1 σ (oS t σ):=RB.tail (Gd h hw a true)
def Fi (a:nT σ t):RB 1 σ (pW t σ):=RB.then (Ea h hw a) _ (λ_=>⟨rfl,rfl,rfl,rfl,rfl,rfl,rfl,rfl,rfl,rfl,rfl,rfl⟩)
omit hw in
def PB (a:σ.fresh=true):RB 0 σ (oH t σ):=(DB h.iv h.ne t a).rb h.ne h.md
omit hw in
def PA (a:σ.fresh=true):RB 0 σ (ql t σ):=(Nk h.iv t a).rb h.ne h.md
omit hw in
def Se:RB 0 σ (yL σ):=by
 unfold yL;split
 .exact⟨h.iv.lX rfl rfl rfl rfl rfl rfl rfl,⟨h.ne,.inl rfl⟩,⟨rfl,rfl,rfl,rfl,lf _,λ_ h=> .inl h,λ_ _ h=>h⟩,nh (jl rfl)⟩
 .exact rW h.iv h.Xc
omit hw in
def Ie (p b:gz->Bool) (a:p fY=false):RB 0 σ ((ni p b>>=λ_=>(Pure.pure ():M Unit)) σ):=
 (jG.iH (Q:=λ_ _=>True) ((vX h.iv p b a).mono (ij _) (λ_ _ _ _ _=>trivial))).rb h.ne h.md
omit hw in
def Pe (a:t.name≠fY):RB 0 σ (xY t σ):=Ie h _ _ (by
 rw[yb];cases hx:kA fY t.name with
 |false=>rfl
 |true=>exact absurd (tI hx).symm a)
omit hw in
def KL:RB 0 σ (tH σ):=Ie h _ _ (by kernel_rfl)
omit hw in
def Si:RB 0 σ (AV σ):=Ie h _ _ (by kernel_rfl)
omit hw in
def Pj (a:t.name≠fY):RB 0 σ (x7 t σ):=(jG.iH (Q:=λ_ _=>True) ((Dv h.iv a).mono (ij _) (λ_ _ _ _ _=>trivial))).rb h.ne h.md
def aaB:RB 1 σ (Pk σ):=by
 have:jG 1 σ (Pk σ) (λ_ _=>True):=by
  unfold Pk;split
  .exact jG.mono (c:=0) (jG.iH (Q:=λ_ _=>True) ((tD h.iv).mono (ij _) (λ_ _ _ _ _=>trivial))) (by omega) (λ_ _ _ _ h=>h)
  .refine jG.bind (rV h.iv h.ne (by omega) mZ) (c2:=0) ?_ (by omega);rintro _ d a e g _;exact jG.iH ((tD a).mono (ij _) (λ_ _ _ _ _=>trivial))
 exact this.rb h.ne h.md
def Pf:RB 33 σ (uG σ):=by
 have:jG 33 σ (uG σ) (λ_ _=>True):=by
  unfold uG;refine jG.bind (nQ h.iv h.ne (by omega)) (c2:=1) ?_ (by omega);rintro _ g d a p _;refine jG.bind (rV d (a.ne h.ne) (by omega) j3) (c2:=0) ?_ (by omega);rintro _ k e m r ⟨j,q,_⟩;exact jG.iH ((yi e (DP q (a.ne h.ne))).mono (ij _) (λ_ _ _ _ _=>trivial))
 exact this.rb h.ne h.md
omit hw in
def Sg:RB 0 σ (yM σ):=by
 unfold yM;cases hf:σ.form with
 |none=>exact rW h.iv h.Xc
 |some i=>
  dsimp only;have m:iV σ i iM:=by obtain⟨r,q⟩:=h.iv;exact q.form i hf
  have d:mL {σ with form:=none}:=h.iv.N8 none (λ_ h=>by cases h);split
  .obtain⟨j,a,B⟩:=Ik d uK (by kernel_rfl);have k:=Cf j (i:=i) (s:=iM) (a.nm _ _ m) (by intro e;cases e);show RB 0 σ ((kq (some i)>>=λ_=>(Pure.pure ():M Unit)) (({σ with form:=none}:Ab).mD));rw[M.gy];revert k;have g:({σ with form:=none}:Ab).mD={({σ with form:=none}:Ab)with gA:=(Ab.qc {σ with form:=none} uK ({σ with form:=none}:Ab).gA.reverse).reverse}:=rfl;rw[g];cases kq (some i) _ with
   |ok u σ2=>
    rintro⟨y,z,C,A⟩;have F:=a.trans z;refine⟨y,⟨F.ne h.ne,.inl ?_⟩,⟨F.gQ,F.pQ,F.qO,F.oZ,?_,by rw[F.waiting];exact λ_ h=> .inl h,F.nm⟩,?_⟩
    .rw[F.mode];exact h.md
    .rw[F.waiting];show σ.waiting.length<=_;omega
    .rw[jl A.nodes];exact nh (jl rfl)
   |stop c p=>exact λh=>h
   |stuck=>exact λh=>h
  .exact⟨d,⟨h.ne,.inl h.md⟩,⟨rfl,rfl,rfl,rfl,lf _,λ_ h=> .inl h,λ_ _ h=>h⟩,nh (jl rfl)⟩
def Ey (a:rl t.name=true):RB 288 σ (pR t σ):=(jG.iH (Q:=λ_ _=>True) ((Eo h.iv h.ne a (by omega)).mono (ij _) (λ_ _ _ _ _=>trivial))).rb h.ne h.md
omit hw in
def Nf:RB 0 σ (sA σ):=by
 have:jG 0 σ (sA σ) (λ_ _=>True):=by
  unfold sA;refine jG.bind (vX h.iv (ik [gW]) iQ (by kernel_rfl)) (c2:=0) ?_ (by omega);rintro b d a e g _;cases b with
  |true=>exact(J6 a).mono (ij _) (λ_ _ _ _ _=>trivial)
  |false=>exact⟨a,Fx.refl _,ij _,trivial⟩
 exact this.rb h.ne h.md
def Bs (a:t.chars.size<=100):RB 101 σ (j7 t σ):=((oI h.iv h.ne t (by omega)).mono (c':=101) (by omega) (λ_ _ _ _ h=>h)).rb h.ne h.md
def KD (g:t.chars.size<=100):RB 200 σ (nG t σ):=by
 unfold nG;split
 .exact(rW h.iv h.Xc).mono (by omega)
 .have:jG 200 σ ((lH>>=λ_=>j7 t>>=λ_=>(Pure.pure ():M Unit)) σ) (λ_ _=>True):=by
   refine jG.bind (nQ h.iv h.ne (by omega)) (c2:=101) ?_ (by omega);rintro _ e d a j _;exact jG.iH (Q:=λ_ _=>True) ((oI d (a.ne h.ne) t (by omega)).mono (by omega) (λ_ _ _ _ _=>trivial))
  exact this.rb h.ne h.md
def Gv (a:t.chars.size<=100):RB 101 σ (pr t σ):=by
 unfold pr;split
 .exact(rW h.iv h.Xc).mono (by omega)
 .exact RB.tail (Bs h hw a)
end
def FO (h:mL σ) (g:M (Nat×Nat)) (e:∃d,g σ= .ok d σ/\Bd σ d) (t:gN) (hw:wt σ < 999000):jG 1 σ (nW g t σ) (λ_ _=>True):=by
 have⟨a,b,k,gM⟩:=t;cases k with
 |gS s=>
  have⟨d,h1,h2⟩:=e;show jG 1 σ ((g>>=λd=>oP d (.cm s) .cm>>=λ_=>(Pure.pure ():M Unit)) σ) _;rw[M.gy,h1];dsimp only;exact jG.iH (m:=oP d (.cm s) .cm) (Q:=λ_ _=>True) ((EY h h2 (.cm s) .cm (.inl ⟨s,rfl,rfl⟩) (by omega)).mono (ij _) (λ_ _ _ _ _=>trivial))
 |ke s=>exact⟨h,Fx.refl _,lf _,trivial⟩
 |start s=>exact⟨h,Fx.refl _,lf _,trivial⟩
 |stop s=>exact⟨h,Fx.refl _,lf _,trivial⟩
 |iN s q=>exact⟨h,Fx.refl _,lf _,trivial⟩
 |lost=>exact⟨h,Fx.refl _,lf _,trivial⟩
 |io=>exact⟨h,Fx.refl _,lf _,trivial⟩
theorem Ar (h:mL σ) (a:σ.gA≠[]):∃d,mV σ= .ok d σ/\Bd σ d:=by
 have⟨r,h⟩:=h;have⟨d,h1,h2,_⟩:=ES h a
 grind
def M6 (h:mL σ):∃a,jx 0 σ= .ok a σ/\Bd σ a:=by
 have⟨e,he⟩:=Option.isSome_iff_exists.1 h.xb;exact⟨_,by unfold jx;rw[he],e,he,ij _⟩
def EB (σ:Ab) (r:pG Bool):Prop:=match r with
 | .ok x σ'=>mL σ'/\σ'.gA≠[]/\p9 σ'.mode=true/\(Lm σ σ'/\σ'.waiting=σ.waiting)/\wt σ'<=wt σ/\σ'.fresh=σ.fresh/\(x=true->σ'.gA.length < σ.gA.length)/\(x=false->σ'=σ)
 | .stop _ _=>False
 | .stuck=>False
def lm0 (σ:Ab):Lm σ σ:=⟨rfl,rfl,rfl,rfl,lf _,λ_ h=> .inl h,λ_ _ h=>h⟩
def EB.no (h:rG σ):EB σ (.ok false σ):=⟨h.iv,h.ne,h.md,⟨lm0 σ,rfl⟩,ij _,rfl,(λh=>by cases h),λ_=>rfl⟩
def EB.Qh (h:rG σ) (p b:gz->Bool) (H:p fY=false) {k:Bool->M Bool} (G:k false=Pure.pure false) (I:∀a,mL a->a.gA≠[]->∃d,k true a= .ok true d/\mL d/\d.gA=a.gA/\p9 d.mode=true/\d.gQ=a.gQ/\d.pQ=a.pQ/\d.qO=a.qO/\d.oZ=a.oZ/\d.waiting=a.waiting/\d.nodes=a.nodes/\d.fresh=a.fresh):EB σ ((ni p b>>=k) σ):=by
 have F:=vX h.iv p b H;rw[M.gy];revert F;cases hq:ni p b σ with
 |ok x a=>
  rintro⟨K,g,Q,N,O,P⟩;dsimp only;cases x with
  |false=>
   rw[G];have e:=P rfl;subst e;exact EB.no h
  |true=>
   obtain⟨d,e,y,r,z,A,B,C,D,m,u,j⟩:=I a K (g.ne h.ne);rw[e];refine⟨y,by rw[r];exact g.ne h.ne,z,⟨⟨A.trans g.gQ,B.trans g.pQ,C.trans g.qO,D.trans g.oZ,?_,by rw[m,g.waiting];exact λ_ h=> .inl h,λi s q=>(g.nm i s q).nodes u⟩,m.trans g.waiting⟩,?_,j.trans N.fresh,?_,λh=>by cases h⟩
   .rw[m,g.waiting];omega
   .rw[jl u];exact Q
   .intro _;rw[r];exact O rfl
 |stop c p=>unfold ni at hq;split at hq<;>cases hq
 |stuck=>exact λh=>h.elim
def B8 (h:rG σ) (ks:List gz) (m:Nat) (d:ik ks fY=false) (e:p9 m=true):EB σ (rT ks m σ):=by
 unfold rT;refine EB.Qh h _ _ d (k:=λb=>if b then (do jM m;return true)else return false) rfl ?_;intro a j g;exact⟨{a with mode:=m},rfl,j.lX rfl rfl rfl rfl rfl rfl rfl,rfl,e,rfl,rfl,rfl,rfl,rfl,rfl,rfl⟩
def xZ (h:rG σ) (ks:List gz) (m:Nat) (A:ik ks fY=false) (B:p9 m=true):EB σ (li ks m σ):=by
 have z:=B8 h ks m A B;unfold li;rw[M.gy];revert z;cases rT ks m σ with
 |ok x σ1=>
  rintro⟨e,j,g,⟨a,r⟩,q,k,d,u⟩;dsimp only;cases x with
  |false=>exact⟨e,j,g,⟨a,r⟩,q,k,d,u⟩
  |true=>
   obtain⟨y,C,D,F⟩:=J6 e;exact⟨y,j,g,⟨⟨a.gQ,a.pQ,a.qO,a.oZ,a.wt,a.wz,a.nm⟩,r⟩,q,k,d,λh=>by cases h⟩
 |stop c p=>exact λh=>h
 |stuck=>exact λh=>h
theorem Rr (s:gz):p9 (jQ s)=true:=by
 grind[p9,jQ]
def Gg (σ:Ab):∀a:kO,p9 (tW σ a)=true
 |[]=>rfl
 |x::a=>by
  unfold tW;split
  .exact Gg σ a
  .exact Rr _
def QI (h:rG σ) (p b:gz->Bool) (e:p fY=false):EB σ ((ni p b>>=λb=>if b then (do xC;return true)else return false) σ):=by
 refine EB.Qh h p b e (k:=λb=>if b then (do xC;return true)else return false) rfl ?_;intro a g d;exact⟨{a with mode:=tW a a.gA.reverse},rfl,g.lX rfl rfl rfl rfl rfl rfl rfl,rfl,Gg _ _,rfl,rfl,rfl,rfl,rfl,rfl,rfl⟩
def Du (h:rG σ):EB σ (my σ):=by
 unfold my;split
 .rename_i e;have g:=xa h.iv _ (by kernel_rfl) e;obtain⟨a,d⟩:=EU h.iv g;show EB σ (.ok true {σ.pop with mode:=7});refine⟨a.lX rfl rfl rfl rfl rfl rfl rfl,d.ne h.ne,rfl,⟨⟨rfl,rfl,rfl,rfl,lf _,λ_ h=> .inl h,λ_ _ h=>h⟩,rfl⟩,nh (jl rfl),rfl,λ_=>?_,λh=>by cases h⟩;show σ.gA.dropLast.length < _;simp;omega
 .exact EB.no h
structure vR (b:M Bool):Prop where
 ok:∀σ,rG σ->EB σ (b σ)
def Na:vR tG:=⟨λ_ h=>xZ h _ _ (by kernel_rfl) rfl⟩
def VF:vR endCell:=⟨λ_ h=>xZ h _ _ (by kernel_rfl) rfl⟩
def X8:vR EA:=⟨λ_ h=>B8 h _ _ (by kernel_rfl) rfl⟩
def Iw:vR qN:=⟨λ_ h=>B8 h _ _ (by kernel_rfl) rfl⟩
def Sk:vR x8:=⟨λ_ h=>QI h _ _ (by kernel_rfl)⟩
def Pl:vR vF:=⟨λ_ h=>QI h _ _ (by kernel_rfl)⟩
def Ew:vR my:=⟨λ_ h=>Du h⟩
def aaD {b:M Bool} (d:vR b) (h:rG σ):RB 0 σ (Dw b σ):=by
 have a:=d.ok σ h;unfold Dw;rw[M.gy];revert a;cases b σ with
 |ok x σ1=>rintro⟨e,k,j,⟨g,y⟩,m,u,q,r⟩;exact⟨e,⟨k,.inl j⟩,g,m⟩
 |stop c p=>simp[EB]
 |stuck=>simp[EB]
def Lm.trans {a b c : Ab} (h:Lm a b) (hw:b.waiting=a.waiting) (k:Lm b c):Lm a c:=⟨k.gQ.trans h.gQ,k.pQ.trans h.pQ,k.qO.trans h.qO,k.oZ.trans h.oZ,by have:=k.wt;rw[hw]at this;exact this,by have:=k.wz;rw[hw]at this;exact this,λi s q=>k.nm i s (h.nm i s q)⟩
def Xy {b:M Bool} (B:vR b) (h:rG σ) {rec:Nat->gN->M Unit} (C:∀σ',rG σ'->σ'.gA.length < σ.gA.length->wt σ'<=wt σ->σ'.fresh=σ.fresh->σ'.waiting=σ.waiting->σ'.pQ=σ.pQ->RB c σ' (rec σ'.mode t σ')):RB c σ (xq rec b t σ):=by
 have y:=B.ok σ h;unfold xq;rw[M.gy];revert y;cases b σ with
 |ok x σ1=>
  rintro⟨d,g,e,⟨a,j⟩,F,D,k,G⟩;dsimp only;cases x with
  |false=>exact⟨d,⟨g,.inl e⟩,a,by omega⟩
  |true=>
   have z:=C σ1 ⟨d,g,e⟩ (k rfl) F D j a.pQ;have A:RB c σ1 ((j1 rec t>>=λ_=>(Pure.pure ():M Unit)) σ1):=RB.tail z;show RB c σ ((j1 rec t>>=λ_=>(Pure.pure ():M Unit)) σ1);revert A;cases(j1 rec t>>=λ_=>(Pure.pure ():M Unit)) σ1 with
   |ok u σ2=>rintro⟨m,q,r,H⟩;exact⟨m,q,a.trans j r,by omega⟩
   |stop c p=>exact λh=>BL h a.gQ
   |stuck=>simp[RB]
 |stop c p=>simp[EB]
 |stuck=>simp[EB]
section
variable {σ:Ab} {t:gN} (h:rG σ) (hw:wt σ < 999000)
include h hw
def Mv (d:nT σ t) (ks:List gz) (m:Nat) (g:p9 m=true):RB 1 σ (uB ks m t σ):=by
 unfold uB;refine RB.bind (wZ h.iv (ik ks)) (c2:=1) ?_ (by omega);rintro _ q j a u p;refine RB.bind (jS j (a.ne h.ne) (by omega) t d.tag (p.fresh.trans d.fr)) (c2:=0) ?_ (by omega);rintro _ r k e y _;exact N5 k (e.ne (a.ne h.ne)) m g
def GC (e:nT σ t):RB 1 σ (pB t σ):=by
 unfold pB;refine RB.bind (wZ h.iv (ik [gg])) (c2:=1) ?_ (by omega);rintro _ r j a z p;refine RB.bind (vu j none (λ_ h=>by cases h)) (c2:=1) ?_ (by omega);rintro _ u k d A q;refine RB.bind (jS k (d.ne (a.ne h.ne)) (by omega) t e.tag (q.fresh.trans (p.fresh.trans e.fr))) (c2:=0) ?_ (by omega);rintro _ y m g B _;exact N5 m (g.ne (d.ne (a.ne h.ne))) 9 rfl
def ze (g:nT σ t):RB 1 σ (qY t σ):=by
 unfold qY;refine RB.bind (wZ h.iv (ik [ie])) (c2:=1) ?_ (by omega);rintro _ D y e F C;refine RB.bind (jS y (e.ne h.ne) (by omega) t g.tag (C.fresh.trans g.fr)) (c2:=0) ?_ (by omega);rintro _ a z j G _;have B:=j.ne (e.ne h.ne);have A:mL {a with mode:=13}:=z.lX rfl rfl rfl rfl rfl rfl rfl;have r:=(jG.iH (Q:=λ_ _=>True) ((vu A none (λ_ h=>by cases h)).mono (ij _) (λ_ _ _ _ _=>trivial))).rb B rfl;show RB 0 a ((lu none>>=λ_=>(Pure.pure ():M Unit)) {a with mode:=13});revert r;cases(lu none>>=λ_=>(Pure.pure ():M Unit)) {a with mode:=13} with
 |ok u σ4=>rintro⟨k,m,d,q⟩;exact⟨k,m,⟨d.gQ,d.pQ,d.qO,d.oZ,d.wt,d.wz,d.nm⟩,q⟩
 |stop c p=>exact λh=>h
 |stuck=>exact λh=>h
def Bh (m:nT σ t) (p:t.name=iM):RB 1 σ (mc t σ):=by
 unfold mc;cases hf:σ.form with
 |some d=>exact(rW h.iv h.Xc).mono (by omega)
 |none=>
  dsimp only;refine RB.bind (jS h.iv h.ne (by omega) t m.tag m.fr) (c2:=0) ?_ (by omega);rintro _ a r e z ⟨j,q⟩;refine RB.bind (yi r (DP q h.ne)) (c2:=0) ?_ (by omega);rintro x y u g A ⟨rfl,rfl⟩;refine⟨u.N8 a.last ?_,⟨g.ne (e.ne h.ne),.inl ?_⟩,⟨rfl,rfl,rfl,rfl,lf _,λ_ h=> .inl h,λ_ _ h=>h⟩,nh (jl rfl)⟩
  .intro d k;rw[DO q]at k;cases k;rw[<-p];exact g.nm _ _ q.nm
  .show p9 a.mode=true;rw[e.mode];exact h.md
def us (a:nT σ t):RB 1 σ (lw t σ):=(qq h.iv h.ne (by omega) t a.tag a.fr).rb h.ne h.md
def zf (a:nT σ t):RB 1 σ (j5 t σ):=by
 have:jG 1 σ (j5 t σ) (λ_ _=>True):=by
  unfold j5;refine jG.bind (tU h.iv (ik [gO]) (by kernel_rfl)) (c2:=1) ?_ (by omega);rintro _ j e d k g;exact jG.iH ((jS e (d.ne h.ne) (by omega) t a.tag (g.fresh.trans a.fr)).mono (ij _) (λ_ _ _ _ _=>trivial))
 exact this.rb h.ne h.md
def rp (e:nT σ t):jG 1 σ (ju t σ) (λ_ σ'=>2<=σ'.gA.length):=by
 unfold ju;refine jG.bind (tU h.iv (ik [gO]) (by kernel_rfl)) (c2:=1) ?_ (by omega);rintro _ r g a z m;refine jG.bind (tU g (ik [gn]) (by kernel_rfl)) (c2:=1) ?_ (by omega);rintro _ u k d A p;refine jG.iH ((jS k (d.ne (a.ne h.ne)) (by omega) t e.tag (p.fresh.trans (m.fresh.trans e.fr))).mono (ij _) ?_);rintro _ y _ _ ⟨j,q⟩;exact DP q (d.ne (a.ne h.ne))
def xE (a:nT σ t):RB 1 σ (ju t σ):=(rp h hw a).rb h.ne h.md
def Cz (a:nT σ t):RB 1 σ (lK t σ):=by
 have:jG 1 σ (lK t σ) (λ_ _=>True):=by
  unfold lK;refine jG.bind (rp h hw a) (c2:=0) ?_ (by omega);rintro _ g d j k e;exact jG.iH ((yi d e).mono (ij _) (λ_ _ _ _ _=>trivial))
 exact this.rb h.ne h.md
omit hw in
def Aa:RB 0 σ (mM σ):=(jG.iH (Q:=λ_ _=>True) ((tU h.iv (ik [gO]) (by kernel_rfl)).mono (ij _) (λ_ _ _ _ _=>trivial))).rb h.ne h.md
omit hw in
theorem yO:RB 0 σ (jk σ):=by
 have g:∀d,mL d->jG 0 d ((pZ (ik [gn])>>=λ_=>(Pure.pure ():M Unit)) d) (λ_ _=>True):=λd p=>
  jG.iH (Q:=λ_ _=>True) ((tU p (ik [gn]) (by kernel_rfl)).mono (ij _) (λ_ _ _ _ _=>trivial))
 have:jG 0 σ (jk σ) (λ_ _=>True):=by
  unfold jk;split
  .rename_i j;have m:=xa h.iv _ (by kernel_rfl) j;have⟨r,hr⟩:=id h.iv;have⟨i,e,h1,h2,h3,h4⟩:=NC hr h.ne;rw[List.getLast?_eq_getElem?]at h3;have⟨a,ha1,ha2⟩:=hr.OQ h3 (by omega);have k:iB σ.gA (posOf σ.gA σ.last - 1)=some a:=by
    rw[h1];unfold ahead at ha1;split at ha1
    .grind
    .cases ha1
   rw[k];dsimp only;split
   .refine jG.bind (yi h.iv m) (c2:=0) ?_ (by omega)
    grind
   .exact g σ h.iv
  .exact g σ h.iv
 exact this.rb h.ne h.md
end
def adu (v:gP):Prop:=v= .nilFunc\/∃k a l,v= .func k a l
def sd:List gP->gP
 |[]=> .func (.func 79) #[] #[]
 | .nilFunc::r=>sd r
 |v::_=>v
theorem Pp (g r:Nat) (vs:List gP) (w:gw) (B:w.heap[g]?=some (gJ vs.toArray 143)) (P:∀v∈vs,adu v) (O:vs.length<=4096):
  Calls prog 298 #[rh g vs.length r] w λe w'=>e=ir (sd vs)/\w'=w:=by
 obtain⟨m,D⟩:∃m,m=sd vs:=⟨_,rfl⟩;rw[<-D];have R:sd (vs.drop 0)=m:=by rw[D];rfl
 have G:=P;have F:=fW B;obtain⟨n,p⟩:∃n,n=vs.length:=⟨_,rfl⟩;rw[<-p]at O|-;have A:=fW p;clear B p;go_enter func298,ntmps298
 go_wp21
 go_loopw [7] (λv wr=>∃k:Nat,v=gp k/\k<=n/\sd (vs.drop k)=m/\wr=w) (λv _=>n - (intOf v).toNat)
 case atStart=>grind
 case round=>
  obtain⟨k,rfl,S,j,rfl⟩:=hrel;have Q:=j
  by_cases z:k < n
  .have d:k < vs.length:=by rw[<-A.out];exact z
   have I:=CV d;have H:wr.cell? ⟨g,k,none⟩=some vs[k]:=by rw[fX F.out];simp[d]
   have C:=G vs[k] (uP d);rw[I]at j;generalize vs[k]=u at j H C;rcases C with rfl|⟨f,a,l,rfl⟩
   .have q:=fW j;clear j
    go_wp21
    rename_i K y;refine y _ _ ?_;simp only[Bool.not_true];go_wp2;go_roundw
    case rel=>exact⟨k+1,by go_num,by omega,q,trivial⟩
    case measure=>simp[intOf];omega
   .have q:=fW j;clear j
    go_wp21
    rename_i K y;refine y _ _ ?_;simp only[Bool.not_false];go_wp2;go_ret;exact⟨by rw[<-q.out];rfl,rfl⟩
  .have N:vs.drop k=[]:=List.drop_eq_nil_of_le (by rw[<-A.out];omega);rw[N]at j;have q:=fW j;clear j;go_wp2;go_ret;exact⟨by rw[<-q.out];rfl,rfl⟩
def kC:List Ru->Ru
 |[]=> .nothing
 | .nil::r=>kC r
 |x::_=>x
def DR:Option (List (List gz×Ru))->gz->Ru
 |none,_=> .nil
 |some R,k=>(pg R k).getD .nil
def kg (sp:mx) (t:gN):Ru:=match t.k with
 | .ke s=>if lR s then kC [sp.blank,sp.ke,sp.iE]else kC [sp.ke,sp.iE]
 | .gS _=>kC [sp.gS,sp.iE]
 | .iN _ _=>kC [sp.iN,sp.iE]
 | .start n=>kC [DR sp.start n,sp.jU,sp.iE]
 | .stop n=>kC [DR sp.stop n,sp.ku,sp.iE]
 | .lost=>kC [sp.io,sp.iE]
 | .io=>kC [sp.io,sp.iE]
theorem ny.isF {r : Ru} (h:ny bm bB bD r v w):(r= .nil/\v= .nilFunc)\/(r≠ .nil/\∃k a l,v= .func k a l):=by
 cases r with
 |nil=>exact .inl ⟨rfl,h⟩
 |nothing=>exact .inr ⟨by simp,_,_,_,h⟩
 |ig f=>exact .inr ⟨by simp,_,_,_,h⟩
 |pq m=>have⟨b1,b2,e,_⟩:=h;grind
 |gS pf own=>have⟨b1,e,_⟩:=h;grind
 |ahead f=>have⟨b1,b2,e,_⟩:=h;grind
 |ends f=>have⟨b1,e,_⟩:=h;grind
 |Nu r=>have⟨b1,b2,u,e,_⟩:=h;grind
 |rE ks m=>have⟨b1,b2,b3,u,e,_⟩:=h;grind
 |nK ks n m=>have⟨b1,b2,b3,b4,u,e,_⟩:=h;grind
 |item ks=>have⟨b1,b2,b3,u1,u2,e,_⟩:=h;grind
def ny.fv {r : Ru} (h:ny bm bB bD r v w):adu v:=by
 rcases h.isF with⟨_,e⟩|⟨_,e⟩
 .exact .inl e
 .exact .inr e
inductive vQ (bm bB bD:Nat) (w:gw):List Ru->List gP->Prop
 |nil:vQ bm bB bD w [] []
 |cons {r:Ru} {v:gP} {rs:List Ru} {vs:List gP} (h:ny bm bB bD r v w) (t:vQ bm bB bD w rs vs):vQ bm bB bD w (r::rs) (v::vs)
theorem vQ.first (h:vQ bm bB bD w rs vs):ny bm bB bD (kC rs) (sd vs) w:=by
 induction h with
 |nil=>rfl
 |@cons r v rs vs h t ih=>
  rcases h.isF with⟨rfl,rfl⟩|⟨d,k,a,l,rfl⟩
  all_goals grind[ny,kC,sd]
theorem vQ.isF (h:vQ bm bB bD w rs vs):∀v∈vs,adu v:=by
 induction h with
 |nil=>simp
 |cons h t ih=>intro v a;rcases List.mem_cons.1 a with rfl|a;exact h.fv;grind
def tJ (h:vQ bm bB bD w rs vs) (d:vs.length<=4096) {g : Nat} (a:W.heap.size=g):
  Calls prog 298 #[rh g vs.length vs.length] (W.alloc (gJ vs.toArray 143)) λe w'=>e=ir (sd vs)/\w'=W.alloc (gJ vs.toArray 143):=by
 subst a;exact Pp _ _ vs _ (fZ _ _) h.isF d
def ac1 (h:v.oneCell'=true):v.cells=#[v]:=by
 cases v<;>first|rfl|(simp[Value.oneCell']at h)
def vP {v0 v1 v2 v3 v4 v5 v6 v7 v8 v9 : gP} (h:∀v∈[v0,v1,v2,v3,v4,v5,v6,v7,v8,v9],v.oneCell'=true):v0.cells=#[v0]/\v1.cells=#[v1]/\v2.cells=#[v2]/\v3.cells=#[v3]/\v4.cells=#[v4]/\v5.cells=#[v5]/\v6.cells=#[v6]/\v7.cells=#[v7]/\v8.cells=#[v8]/\v9.cells=#[v9]:=by
 refine⟨?_,?_,?_,?_,?_,?_,?_,?_,?_,?_⟩<;>exact ac1 (h _ (by simp))
def Fk (w:gw) (o a:Obj):((w.alloc o).alloc a).heap[w.heap.size]?=some o:=(Below.heap_alloc _ _ _ (by simp)).trans (fZ w _)
def abd (E:Env) (bB bD a b:Nat) (s:gz) (gM:kY) (sp:mx) (v0 v1 v2 v3 v4 v5 v6 v7 v8 v9:gP) (w:gw) (h:kL E.bm bB bD sp v0 v1 v2 v3 v4 v5 v6 v7 v8 v9 w):
  Calls prog 245 #[.agg #[v0,v1,v2,v3,v4,v5,v6,v7,v8,v9],iF E ⟨a,b,.ke s,gM⟩] w λe w'=>∃v,e=ir v/\ny E.bm bB bD (kg sp ⟨a,b,.ke s,gM⟩) v w/\Kept [] w w':=by
 have⟨O,G,k2,k3,k4,k5,k6,k7,k8,H⟩:=vP h.one;have j:=fW h;clear h;have B:=fW (λo=>Fk w (gJ #[v0,v1,v2,v3,v4,v5,v6,v7,v8,v9] 147) o);have u:=fW (fZ w (gJ #[v0,v1,v2,v3,v4,v5,v6,v7,v8,v9] 147));have m:=fW (λo=>((Kept.refl [] w).alloc (gJ #[v0,v1,v2,v3,v4,v5,v6,v7,v8,v9] 147)).alloc o);have y:=fW ((Kept.refl [] w).alloc (gJ #[v0,v1,v2,v3,v4,v5,v6,v7,v8,v9] 147));simp only[iF];have r:=qB underlying167;have A:=fW (λW=>IW s W);go_enter func245,ntmps245
 go_wp21
 refine(A.out _).mono ?_;rintro e Z ⟨rfl,k⟩;have q:=k.at (B.out _) (by simp);have C:=fW ((m.out _).trans k);have R:=fX q 0;have S:=fX q 1;have U:=fX q 9;dsimp at R S U;clear q k B u m y A;have N:=j.out.blank.fv;have D:=j.out.ke.fv;have F:=j.out.iE.fv;cases hb:lR s with
 |true=>
  have p:kg sp ⟨a,b,.ke s,gM⟩=kC [sp.blank,sp.ke,sp.iE]:=by simp[kg,hb]
  have d:Hid (vQ E.bm bB bD w _ [v0,v1,v9]):=fW (.cons j.out.blank (.cons j.out.ke (.cons j.out.iE (.nil))));have z:=fW p;clear p hb;rcases N with rfl|⟨O,X,Y,rfl⟩
  all_goals rcases D with rfl|⟨G,I,P,rfl⟩
  all_goals rcases F with rfl|⟨H,K,Q,rfl⟩
  all_goals go_wp21
  all_goals refine(tJ d.out (by simp) (by simp)).mono ?_
  all_goals rintro e V ⟨rfl,rfl⟩
  all_goals have g:=fW d.out.first
  all_goals simp only[sd]at g|-
  all_goals go_wp2
  all_goals go_ret
  all_goals exact⟨_,rfl,z.out▸g.out,C.out.alloc _⟩
 |false=>
  have p:kg sp ⟨a,b,.ke s,gM⟩=kC [sp.ke,sp.iE]:=by simp[kg,hb]
  have d:Hid (vQ E.bm bB bD w _ [v1,v9]):=fW (.cons j.out.ke (.cons j.out.iE (.nil)));have z:=fW p;clear p hb;rcases D with rfl|⟨G,I,P,rfl⟩
  all_goals rcases F with rfl|⟨H,K,Q,rfl⟩
  all_goals go_wp21
  all_goals refine(tJ d.out (by simp) (by simp)).mono ?_
  all_goals rintro e V ⟨rfl,rfl⟩
  all_goals have g:=fW d.out.first
  all_goals simp only[sd]at g|-
  all_goals go_wp2
  all_goals go_ret
  all_goals exact⟨_,rfl,z.out▸g.out,C.out.alloc _⟩
def SO (E:Env) (bB bD a b:Nat) (gM:kY) (sp:mx) (v0 v1 v2 v3 v4 v5 v6 v7 v8 v9:gP) (w:gw) (h:kL E.bm bB bD sp v0 v1 v2 v3 v4 v5 v6 v7 v8 v9 w):
  Calls prog 245 #[.agg #[v0,v1,v2,v3,v4,v5,v6,v7,v8,v9],iF E ⟨a,b,.io,gM⟩] w λe w'=>∃v,e=ir v/\ny E.bm bB bD (kg sp ⟨a,b,.io,gM⟩) v w/\Kept [] w w':=by
 have⟨k0,k1,k2,k3,D,k5,k6,k7,k8,F⟩:=vP h.one;have r:=fW h;clear h;have A:=fW (λo=>Fk w (gJ #[v0,v1,v2,v3,v4,v5,v6,v7,v8,v9] 147) o);have j:=fW (fZ w (gJ #[v0,v1,v2,v3,v4,v5,v6,v7,v8,v9] 147));have y:=fW (λo=>((Kept.refl [] w).alloc (gJ #[v0,v1,v2,v3,v4,v5,v6,v7,v8,v9] 147)).alloc o);have z:=fW ((Kept.refl [] w).alloc (gJ #[v0,v1,v2,v3,v4,v5,v6,v7,v8,v9] 147));simp only[iF];have u:=vg;have k:=sB;have m:=vN;have g:=qv;have p:=yf;have G:=fX j.out 4;have H:=fX j.out 9;dsimp at G H;clear A j y;have d:Hid (vQ E.bm bB bD w _ [v4,v9]):=fW (.cons r.out.io (.cons r.out.iE (.nil)));have B:=r.out.io.fv;have C:=r.out.iE.fv;go_enter func245,ntmps245;rcases B with rfl|⟨D,I,N,rfl⟩
 all_goals rcases C with rfl|⟨F,K,O,rfl⟩
 all_goals go_wp21
 all_goals refine(tJ d.out (by simp) (by simp)).mono ?_
 all_goals rintro e P ⟨rfl,rfl⟩
 all_goals have q:=fW d.out.first
 all_goals simp only[sd]at q|-
 all_goals go_wp2
 all_goals go_ret
 all_goals exact⟨_,rfl,q.out,z.out.alloc _⟩
def ME (w:gw):(zeroValue 143).run prog w= .ok .nilFunc w:=by simp
theorem PW {R : Option (List (List gz×Ru))} (h:rB bm bB bD R v w) (n:gz):
  ∃u,(∀w',Kept [] w w'->(Instr.lookup 145 v (gI n) false).run prog w'= .ok u w')/\ny bm bB bD (DR R n) u w:=by
 cases R with
 |none=>
  obtain rfl:v= .map none:=h;refine⟨.nilFunc,λw' _=>?_,rfl⟩;have j:(underlying 9).run prog w'= .ok .string w':=pO underlying9 _;have e:∀x,(Instr.checkKey x 10000 9 (gI n)).run prog w'= .ok () w':=λx=>by
   unfold Instr.checkKey;simp
  simp[Instr.lookup,pO (show prog.underlying 145=some (.map 9 143) by simp),e,Instr.findKey,Instr.findNow,j,ME,Result.andThen]
 |some R=>
  obtain⟨b,L,rfl,d,k⟩:=h;have a:=d.lt;refine⟨(zL L n).getD .nilFunc,λw' g=>Fc (by simp) ME (d.keeps (g.block b a (by simp))) n,?_⟩
  grind[ny,DR,zL]
def Y4 (E:Env) (bB bD a b:Nat) (n:gz) (gM:kY) (sp:mx) (v0 v1 v2 v3 v4 v5 v6 v7 v8 v9:gP) (w:gw) (h:kL E.bm bB bD sp v0 v1 v2 v3 v4 v5 v6 v7 v8 v9 w) (d:∃x m c,E.tv= .slice x m c):
  Calls prog 245 #[.agg #[v0,v1,v2,v3,v4,v5,v6,v7,v8,v9],iF E ⟨a,b,.start n,gM⟩] w λe w'=>∃v,e=ir v/\ny E.bm bB bD (kg sp ⟨a,b,.start n,gM⟩) v w/\Kept [] w w':=by
 have⟨k0,k1,k2,k3,k4,V,k6,X,k8,Y⟩:=vP h.one;have A:=fW h;clear h;have K:=fW (λo=>Fk w (gJ #[v0,v1,v2,v3,v4,v5,v6,v7,v8,v9] 147) o);have F:=fW (fZ w (gJ #[v0,v1,v2,v3,v4,v5,v6,v7,v8,v9] 147));have k:=fW (λo=>((Kept.refl [] w).alloc (gJ #[v0,v1,v2,v3,v4,v5,v6,v7,v8,v9] 147)).alloc o);have G:=fW ((Kept.refl [] w).alloc (gJ #[v0,v1,v2,v3,v4,v5,v6,v7,v8,v9] 147));simp only[iF];have⟨x0,m0,c0,d⟩:=d;rw[d];clear d;have D:=vg;have r:=sB;have y:=vN;have j:=qB underlying175;have⟨u,hlk,hu⟩:=PW A.out.start n;have H:=fW hlk;have q:=hlk ((w.alloc (gJ #[v0,v1,v2,v3,v4,v5,v6,v7,v8,v9] 147)).alloc (gJ #[gp a,gp b,gI n,.slice x0 m0 c0] 175)) (k.out _);have C:=K.out (gJ #[gp a,gp b,gI n,.slice x0 m0 c0] 175);have I:=fZ (w.alloc (gJ #[v0,v1,v2,v3,v4,v5,v6,v7,v8,v9] 147)) (gJ #[gp a,gp b,gI n,.slice x0 m0 c0] 175);have B:=fW (k.out (gJ #[gp a,gp b,gI n,.slice x0 m0 c0] 175));obtain⟨W,p⟩:∃W,W=((w.alloc (gJ #[v0,v1,v2,v3,v4,v5,v6,v7,v8,v9] 147)).alloc (gJ #[gp a,gp b,gI n,.slice x0 m0 c0] 175)):=⟨_,rfl⟩;have O:(w.alloc (gJ #[v0,v1,v2,v3,v4,v5,v6,v7,v8,v9] 147)).heap.size=w.heap.size+1:=by simp
 rw[O]at I;have q5:W.cell? ⟨w.heap.size,5,none⟩=some v5:=by rw[p,fX C];rfl
 have q7:W.cell? ⟨w.heap.size,7,none⟩=some v7:=by rw[p,fX C];rfl
 have q9:W.cell? ⟨w.heap.size,9,none⟩=some v9:=by rw[p,fX C];rfl
 have qn:W.cell? ⟨w.heap.size+1,2,none⟩=some (gI n):=by rw[p,fX I];rfl
 rw[<-p]at B q;have Q:=fW p.symm;clear C I K F k G hlk p O H;have N:kg sp ⟨a,b,.start n,gM⟩=kC [DR sp.start n,sp.jU,sp.iE]:=rfl;have g:Hid (vQ E.bm bB bD w _ [u,v7,v9]):=fW (.cons hu (.cons A.out.jU (.cons A.out.iE (.nil))));have P:=fW N;clear N;have R:=hu.fv;have S:=A.out.jU.fv;have U:=A.out.iE.fv;clear hu;go_enter func245,ntmps245
 go_wp21
 rw[Q.out]
 go_wp21
 rw[q];clear q;rcases R with rfl|⟨V,Z,l5,rfl⟩
 all_goals rcases S with rfl|⟨X,a7,l7,rfl⟩
 all_goals rcases U with rfl|⟨Y,a9,l9,rfl⟩
 all_goals go_wp2_with fail
 all_goals refine(tJ g.out (by simp) (by simp)).mono ?_
 all_goals rintro e w3 ⟨rfl,rfl⟩
 all_goals have z:=fW g.out.first
 all_goals simp only[sd]at z|-
 all_goals go_wp2
 all_goals go_ret
 all_goals exact⟨_,rfl,P.out▸z.out,B.out.alloc _⟩
def abe (E:Env) (bB bD a b:Nat) (n:gz) (gM:kY) (sp:mx) (v0 v1 v2 v3 v4 v5 v6 v7 v8 v9:gP) (w:gw) (h:kL E.bm bB bD sp v0 v1 v2 v3 v4 v5 v6 v7 v8 v9 w) (d:∃x m c,E.tv= .slice x m c):
  Calls prog 245 #[.agg #[v0,v1,v2,v3,v4,v5,v6,v7,v8,v9],iF E ⟨a,b,.stop n,gM⟩] w λe w'=>∃v,e=ir v/\ny E.bm bB bD (kg sp ⟨a,b,.stop n,gM⟩) v w/\Kept [] w w':=by
 have⟨k0,k1,k2,k3,k4,X,k6,k7,Y,Z⟩:=vP h.one;have B:=fW h;clear h;have N:=fW (λo=>Fk w (gJ #[v0,v1,v2,v3,v4,v5,v6,v7,v8,v9] 147) o);have G:=fW (fZ w (gJ #[v0,v1,v2,v3,v4,v5,v6,v7,v8,v9] 147));have k:=fW (λo=>((Kept.refl [] w).alloc (gJ #[v0,v1,v2,v3,v4,v5,v6,v7,v8,v9] 147)).alloc o);have H:=fW ((Kept.refl [] w).alloc (gJ #[v0,v1,v2,v3,v4,v5,v6,v7,v8,v9] 147));simp only[iF];have⟨x0,m0,c0,d⟩:=d;rw[d];clear d;have F:=vg;have r:=sB;have y:=vN;have j:=qv;have z:=qB underlying176;have⟨u,hlk,hu⟩:=PW B.out.stop n;have I:=fW hlk;have q:=hlk ((w.alloc (gJ #[v0,v1,v2,v3,v4,v5,v6,v7,v8,v9] 147)).alloc (gJ #[gp a,gp b,gI n,.slice x0 m0 c0] 176)) (k.out _);have D:=N.out (gJ #[gp a,gp b,gI n,.slice x0 m0 c0] 176);have K:=fZ (w.alloc (gJ #[v0,v1,v2,v3,v4,v5,v6,v7,v8,v9] 147)) (gJ #[gp a,gp b,gI n,.slice x0 m0 c0] 176);have C:=fW (k.out (gJ #[gp a,gp b,gI n,.slice x0 m0 c0] 176));obtain⟨W,p⟩:∃W,W=((w.alloc (gJ #[v0,v1,v2,v3,v4,v5,v6,v7,v8,v9] 147)).alloc (gJ #[gp a,gp b,gI n,.slice x0 m0 c0] 176)):=⟨_,rfl⟩;have P:(w.alloc (gJ #[v0,v1,v2,v3,v4,v5,v6,v7,v8,v9] 147)).heap.size=w.heap.size+1:=by simp
 rw[P]at K;have q6:W.cell? ⟨w.heap.size,6,none⟩=some v6:=by rw[p,fX D];rfl
 have q8:W.cell? ⟨w.heap.size,8,none⟩=some v8:=by rw[p,fX D];rfl
 have q9:W.cell? ⟨w.heap.size,9,none⟩=some v9:=by rw[p,fX D];rfl
 have qn:W.cell? ⟨w.heap.size+1,2,none⟩=some (gI n):=by rw[p,fX K];rfl
 rw[<-p]at C q;have R:=fW p.symm;clear D K N G k H hlk p P I;have O:kg sp ⟨a,b,.stop n,gM⟩=kC [DR sp.stop n,sp.ku,sp.iE]:=rfl;have g:Hid (vQ E.bm bB bD w _ [u,v8,v9]):=fW (.cons hu (.cons B.out.ku (.cons B.out.iE (.nil))));have Q:=fW O;clear O;have S:=hu.fv;have U:=B.out.ku.fv;have V:=B.out.iE.fv;clear hu;go_enter func245,ntmps245
 go_wp21
 rw[R.out]
 go_wp21
 rw[q];clear q;rcases S with rfl|⟨X,a5,l5,rfl⟩
 all_goals rcases U with rfl|⟨Y,a8,l8,rfl⟩
 all_goals rcases V with rfl|⟨Z,a9,l9,rfl⟩
 all_goals go_wp2_with fail
 all_goals refine(tJ g.out (by simp) (by simp)).mono ?_
 all_goals rintro e w3 ⟨rfl,rfl⟩
 all_goals have A:=fW g.out.first
 all_goals simp only[sd]at A|-
 all_goals go_wp2
 all_goals go_ret
 all_goals exact⟨_,rfl,Q.out▸A.out,C.out.alloc _⟩
def SM (E:Env) (bB bD a b:Nat) (s:gz) (gM:kY) (sp:mx) (v0 v1 v2 v3 v4 v5 v6 v7 v8 v9:gP) (w:gw) (h:kL E.bm bB bD sp v0 v1 v2 v3 v4 v5 v6 v7 v8 v9 w):
  Calls prog 245 #[.agg #[v0,v1,v2,v3,v4,v5,v6,v7,v8,v9],iF E ⟨a,b,.gS s,gM⟩] w λe w'=>∃v,e=ir v/\ny E.bm bB bD (kg sp ⟨a,b,.gS s,gM⟩) v w/\Kept [] w w':=by
 have⟨k0,k1,C,k3,k4,k5,k6,k7,k8,D⟩:=vP h.one;have m:=fW h;clear h;have z:=fW (λo=>Fk w (gJ #[v0,v1,v2,v3,v4,v5,v6,v7,v8,v9] 147) o);have q:=fW (fZ w (gJ #[v0,v1,v2,v3,v4,v5,v6,v7,v8,v9] 147));have k:=fW (λo=>((Kept.refl [] w).alloc (gJ #[v0,v1,v2,v3,v4,v5,v6,v7,v8,v9] 147)).alloc o);have r:=fW ((Kept.refl [] w).alloc (gJ #[v0,v1,v2,v3,v4,v5,v6,v7,v8,v9] 147));simp only[iF];have p:=vg;have g:=qB underlying177;have y:=z.out (gJ #[gp a,gp b,gI s] 177);have u:=fW (k.out (gJ #[gp a,gp b,gI s] 177));have F:=fX y 2;have G:=fX y 9;dsimp at F G;clear y z q k r;have d:Hid (vQ E.bm bB bD w _ [v2,v9]):=fW (.cons m.out.gS (.cons m.out.iE (.nil)));have A:=m.out.gS.fv;have B:=m.out.iE.fv;go_enter func245,ntmps245;rcases A with rfl|⟨C,H,K,rfl⟩
 all_goals rcases B with rfl|⟨D,I,N,rfl⟩
 all_goals go_wp21
 all_goals refine(tJ d.out (by simp) (by simp)).mono ?_
 all_goals rintro e O ⟨rfl,rfl⟩
 all_goals have j:=fW d.out.first
 all_goals simp only[sd]at j|-
 all_goals go_wp2
 all_goals go_ret
 all_goals exact⟨_,rfl,j.out,u.out.alloc _⟩
def SN (E:Env) (bB bD a b:Nat) (n:gz) (q:Bool) (gM:kY) (sp:mx) (v0 v1 v2 v3 v4 v5 v6 v7 v8 v9:gP) (w:gw) (h:kL E.bm bB bD sp v0 v1 v2 v3 v4 v5 v6 v7 v8 v9 w):
  Calls prog 245 #[.agg #[v0,v1,v2,v3,v4,v5,v6,v7,v8,v9],iF E ⟨a,b,.iN n q,gM⟩] w λe w'=>∃v,e=ir v/\ny E.bm bB bD (kg sp ⟨a,b,.iN n q,gM⟩) v w/\Kept [] w w':=by
 have⟨k0,k1,k2,F,k4,k5,k6,k7,k8,G⟩:=vP h.one;have p:=fW h;clear h;have B:=fW (λo=>Fk w (gJ #[v0,v1,v2,v3,v4,v5,v6,v7,v8,v9] 147) o);have u:=fW (fZ w (gJ #[v0,v1,v2,v3,v4,v5,v6,v7,v8,v9] 147));have m:=fW (λo=>((Kept.refl [] w).alloc (gJ #[v0,v1,v2,v3,v4,v5,v6,v7,v8,v9] 147)).alloc o);have y:=fW ((Kept.refl [] w).alloc (gJ #[v0,v1,v2,v3,v4,v5,v6,v7,v8,v9] 147));simp only[iF];have r:=vg;have g:=sB;have j:=qB underlying179;have A:=B.out (gJ #[gp a,gp b,gI n,.bool q] 179);have z:=fW (m.out (gJ #[gp a,gp b,gI n,.bool q] 179));have H:=fX A 3;have I:=fX A 9;dsimp at H I;clear A B u m y;have d:Hid (vQ E.bm bB bD w _ [v3,v9]):=fW (.cons p.out.iN (.cons p.out.iE (.nil)));have C:=p.out.iN.fv;have D:=p.out.iE.fv;go_enter func245,ntmps245;rcases C with rfl|⟨F,K,O,rfl⟩
 all_goals rcases D with rfl|⟨G,N,P,rfl⟩
 all_goals go_wp21
 all_goals refine(tJ d.out (by simp) (by simp)).mono ?_
 all_goals rintro e Q ⟨rfl,rfl⟩
 all_goals have k:=fW d.out.first
 all_goals simp only[sd]at k|-
 all_goals go_wp2
 all_goals go_ret
 all_goals exact⟨_,rfl,k.out,z.out.alloc _⟩
def Leaves.k0 {α:Type} {r:pG α} {d:(Nat->Nat)->α->gP} {e : Ending} (h:Leaves E f n w' r d e W) (j:Kept [] w w'):Leaves E f n w r d e W:=by
 cases r with
 |ok a σ'=>have⟨g,h1,h2,h3,h4,h5⟩:=h;exact⟨g,h1,h2,h3,h4,(Fr.gZ j).trans h5⟩
 |stop c p=>have⟨k,h1,h2,h3⟩:=h;exact⟨k,h1,h2,(Fr.gZ j).trans h3⟩
 |stuck=>exact h
def ab9 (E:Env) (t:gN):Prop:=∀(bB bD:Nat) (a:mx) (d g j k m p q r u y:gP) (w:gw),kL E.bm bB bD a d g j k m p q r u y w->
  Calls prog 245 #[.agg #[d,g,j,k,m,p,q,r,u,y],iF E t] w λe w'=>∃v,e=ir v/\ny E.bm bB bD (kg a t) v w/\Kept [] w w'
def lQ (E:Env) (r:Ru) (t:gN) (m:M Unit):Prop:=∀v f σ w,RF E f σ w->ny E.bm E.bB (f 0) r v w->m σ≠ .stuck->
  ∃k d e,v= .func (.func k) d e/\(∀a w,(callFunc k a).run prog w= .ok (.enter k a) w)/\Calls prog k (d++#[iF E t]++e) w (Leaves E f σ.nodes.length w (m σ) uV)
def asM (a:Ru->gN->M Unit) (m:Nat) (t:gN):M Unit:=match yn[m]? with
 |some sp=>a (kg sp t) t
 |none=>stuck
theorem RF.Gi (h:RF E f σ w) {m : Nat} {sp : mx} (F:yn[m]?=some sp):∃d g k p q r u y z A,kL E.bm E.bB (f 0) sp d g k p q r u y z A w/\
  (∀j,j < 10->w.cell? ⟨E.bB,4+m*10+j,none⟩=[d,g,k,p,q,r,u,y,z,A][j]?):=by
 obtain⟨L,rfl,B⟩:=h;have⟨cs,hcs,hlen,hru⟩:=B.env.Gi;have⟨d,g,k,p,q,r,u,y,z,A,e,hi⟩:=hru m sp F;have G:m < 18:=(List.getElem?_eq_some_iff.1 F).1;refine⟨d,g,k,p,q,r,u,y,z,A,?_,?_⟩
 .have D:=B.fr;have a:=D.n E.bm;have H:∀{R:Option (List (List gz×Ru))} {v:gP},rB E.bm E.bB (L.gQ 0) R v E.w0->rB E.bm E.bB (L.gQ 0) R v w:=by
   intro R v h;cases R with
   |none=>exact h
   |some R=>have⟨b,hb⟩:=h;exact⟨b,hb.fr a (D.calm (.inl hb.at))⟩
  exact⟨hi.blank.fr a,hi.ke.fr a,hi.gS.fr a,hi.iN.fr a,hi.io.fr a,H hi.start,H hi.stop,hi.jU.fr a,hi.ku.fr a,hi.iE.fr a⟩
 .intro j I;have⟨C,hb,hC⟩:=B.iw;rw[fX hb,hC.low _ (by omega),show 4+m*10+j=4+(m*10+j) by omega,hcs _ (by omega),<-e]
  grind
def ZB (E:Env) (A:Ru->gN->M Unit) (t:gN) (Q:ab9 E t) (R:∀r,lQ E r t (A r t)) (m:Nat):ja E 153 (λ_=>#[Bp E,gp m,iF E t]) (asM A m t) uV:=by
 intro f σ w h q;unfold asM at q|-;cases hm:yn[m]? with
 |none=>rw[hm]at q;exact absurd rfl q
 |some sp=>
  rw[hm]at q;simp only[]at q|-;have C:m < 18:=(List.getElem?_eq_some_iff.1 hm).1;have⟨v0,v1,v2,v3,v4,v5,v6,v7,v8,v9,hi,hc⟩:=h.Gi hm;have q0:w.cell? ⟨E.bB,4+m*10,none⟩=some v0:=hc 0 (by decide);have q1:w.cell? ⟨E.bB,4+m*10+1,none⟩=some v1:=hc 1 (by decide);have q2:w.cell? ⟨E.bB,4+m*10+2,none⟩=some v2:=hc 2 (by decide);have q3:w.cell? ⟨E.bB,4+m*10+3,none⟩=some v3:=hc 3 (by decide);have q4:w.cell? ⟨E.bB,4+m*10+4,none⟩=some v4:=hc 4 (by decide);have q5:w.cell? ⟨E.bB,4+m*10+5,none⟩=some v5:=hc 5 (by decide);have q6:w.cell? ⟨E.bB,4+m*10+6,none⟩=some v6:=hc 6 (by decide);have q7:w.cell? ⟨E.bB,4+m*10+7,none⟩=some v7:=hc 7 (by decide);have q8:w.cell? ⟨E.bB,4+m*10+8,none⟩=some v8:=hc 8 (by decide);have q9:w.cell? ⟨E.bB,4+m*10+9,none⟩=some v9:=hc 9 (by decide);have U:=h.lt;have D:=Q _ _ _ _ _ _ _ _ _ _ _ _ _ w hi;have B:=(λv w' (u:Kept [] w w') (z:ny E.bm E.bB (f 0) (kg sp t) v w)=>R (kg sp t) v f σ w' (h.im u) (z.fr (.gZ u)) q);generalize hZ:A (kg sp t) t σ=Z at B|-;generalize iF E t=tv at *;go_enter func153,ntmps153
  go_wp21
  refine D.mono ?_;rintro e V ⟨v,rfl,z,u⟩;obtain⟨k,X,Y,rfl,S,d⟩:=B v V u z;have H:=d.mono (λe W y=>y.k0 u)
  go_wp21
  refine H.mono ?_;intro e W y;cases Z with
  |ok a σ'=>
   obtain⟨g,K,N,rfl,O,P⟩:=y;have I:Hid (Leaves E f σ.nodes.length w (.ok a σ') uV (ir (uV g a)) W):=fW ⟨g,K,N,rfl,O,P⟩;go_wp2;go_end0;exact I
  |stop c p=>
   obtain⟨j,rfl,F,G⟩:=y;go_wp2;exact⟨rfl,pd rfl F G⟩
  |stuck=>exact y.elim
def uD (rec:Nat->gN->M Unit) (t:gN):M Unit:=match t.k with
 | .lost=>Pure.pure ()
 |_=>λσ=>if σ.behind&&kA t.chars yz then .ok () {σ with behind:=false,gQ:=t.a} else j1 rec t {σ with behind:=false,gQ:=t.a}
def Ye (s:gz):kA s yz=(s.toList==[10]):=by
 simp[kA]
def OX (a b:Int) (w:gw):Calls prog 419 #[.agg #[gp a,gp b]] w λe w'=>e=ir (.tuple #[gp a,gp b])/\Kept [] w w':=by
 go_enter func419,ntmps419
 go_wp21
 go_region
 all_goals (try go_wp2)
 all_goals (try go_ret2)
 all_goals exact⟨rfl,((Kept.refl [] w).alloc _).drew⟩
theorem xO (E:Env) (rec:Nat->gN->M Unit) (V:∀(m:Nat) (t:gN),jd E t->ja E 153 (λ_=>#[Bp E,gp m,iF E t]) (rec m t) uV) (t:gN) (O:jd E t) (X:t.k≠ .lost) (p:iF E t= .iface T v) (N:T≠169)
  (A:∀w,(Go.method 489 T v "Bytes").run prog w= .ok (419,.agg #[gp t.a,gp t.b]) w):ja E 38 (λ_=>#[Bp E,iF E t]) (uD rec t) uV:=by
 have u:=fW (th E rec V t O);intro f σ w h C;obtain⟨R,d⟩:∃R,R=uD rec t σ:=⟨_,rfl⟩;rw[<-d]at C|-;replace d:=d.trans (show uD rec t σ=if σ.behind&&kA t.chars yz then .ok () {σ with behind:=false,gQ:=t.a} else j1 rec t {σ with behind:=false,gQ:=t.a} by
  grind[uD])
 have HS:=fW C;have H:=fW (At.start h);have G:=H.out.XO;have Y:=h.lt;have f1:=H.out.free 198;have f2:=H.out.free 197;have c2:=H.out.RY;have y:=λw=>yE E t w;simp only[p]at y u|-;have q:=λ(v:gP) (xT:TypeId) (w:gw)=>JV (z:= .agg #[gp 0,gp 0]) underlying169 rfl N v xT w;have D:=fW y;clear h C y p O X N;have F:Hid (∀o,Kept [] w (w.alloc o)):=fW (λo=>(Kept.refl [] w).alloc o);have r:=fW (λw=>OX (t.a:Int) (t.b:Int) w);replace H:=fW ((H.out.sj false).k0 ((Kept.refl [] _).alloc (gJ #[gp 0,gp 0] 169)));cases hb:σ.behind with
 |false=>
  have j:R=(j1 rec t>>=λ_=>(Pure.pure ():M Unit)) {σ with behind:=false,gQ:=t.a}:=by rw[d,hb,M.bind_pure];rfl
  have g:=fW j;rw[hb]at G;clear d j hb F;go_enter func38,ntmps38
  go_wp21
  refine(r.out _).mono ?_;rintro e Q ⟨rfl,a⟩;replace H:=fW (H.out.k0 a);clear a;have I:=H.out.RY;have K:=H.out.free 197;have P:=H.out.lt;replace H:=fW (H.out.Cv t.a)
  go_wp21
  refine dC (u.out) H g HS rfl lT ?_;clear H g;rintro(_) f σ w H U S g;go_wp2;go_end0;exact gv g.out H.out rfl
 |true=>
  rw[hb]at G d;simp only[Bool.true_and]at d;clear hb F;cases hn:kA (gN.chars t) yz with
  |false=>
   rw[hn]at d;have j:R=(j1 rec t>>=λ_=>(Pure.pure ():M Unit)) {σ with behind:=false,gQ:=t.a}:=by rw[d,M.bind_pure];rfl
   have g:=fW j;have B:=(Ye (gN.chars t)).symm.trans hn;clear d j hn;go_enter func38,ntmps38
   go_wp21
   refine(r.out _).mono ?_;rintro e Q ⟨rfl,a⟩;replace H:=fW (H.out.k0 a);clear a;have I:=H.out.RY;have K:=H.out.free 197;have P:=H.out.lt;replace H:=fW (H.out.Cv t.a)
   go_wp21
   refine(D.out _).mono ?_;rintro e Z ⟨rfl,k⟩;replace H:=fW (H.out.k0 k);clear k
   go_wp21
   refine dC (u.out) H g HS rfl lT ?_;clear H g;rintro(_) f σ w H U S g;go_wp2;go_end0;exact gv g.out H.out rfl
  |true=>
   rw[hn]at d;simp only[]at d;have g:=fW d;have B:=(Ye (gN.chars t)).symm.trans hn;clear d hn;go_enter func38,ntmps38
   go_wp21
   refine(r.out _).mono ?_;rintro e Q ⟨rfl,a⟩;replace H:=fW (H.out.k0 a);clear a;have I:=H.out.RY;have K:=H.out.free 197;have P:=H.out.lt;replace H:=fW (H.out.Cv t.a)
   go_wp21
   refine(D.out _).mono ?_;rintro e Z ⟨rfl,k⟩;replace H:=fW (H.out.k0 k);clear k;go_wp2;go_end0;exact gv g.out H.out rfl
def Oa (t:gN) (σ:Ab):qY t σ=(uB [ie] 13 t>>=λ_=>(do lu none;return ():M Unit)) σ:=by
 unfold qY uB;rw[M.gy,M.gy,M.gy];cases uE (ik [ie]) σ with
 |ok a σ1=>
  simp only;rw[M.gy,M.gy];cases jt t σ1 with
  |ok a σ2=>rfl
  |stop c p=>rfl
  |stuck=>rfl
 |stop c p=>rfl
 |stuck=>rfl
def QT (E:Env) (t:gN) (I:jd E t):ja E 125 (λ_=>#[Bp E,iF E t]) (qY t) uV:=by
 intro f σ w h HS;obtain⟨R,d⟩:∃R,R=qY t σ:=⟨_,rfl⟩;rw[<-d]at HS|-;rw[Oa]at d;have H:=At.start h;have a:=fW d;have D:=Go.Proofs.enters_of func205 (by rfl) rfl;clear d;go_enter func125,ntmps125
 go_wp21
 refine(Uw E _).mono ?_;rintro e w ⟨P,N,rfl,g,p⟩;replace H:=H.k0 p
 go_wp21
 refine(A6 E.bm E.bB 0 [ie] 13 _ _ g).mono ?_;rintro e w ⟨⟨v,rfl,A,B,C,u,rfl,j,k,r,m⟩,F⟩;obtain⟨K,q,rfl,_,_⟩:=r.call;replace H:=H.k0 F;have y:=(λG=>Gn E t I [ie] 13 A B C K q H.rel G j k r m)
 go_wp21
 refine dcH (y) H a HS lT ?_;rintro(_) f σ w H O z a
 go_wp21
 refine mC (zT E) H a HS rfl lT ?_;rintro(_) σ w H z a;go_wp2;go_end0;exact gv a H rfl
def adn:(prog.info? 97).map (λi=>(i.zero,i.size,i.bytes))=some (some .nilIface,1,16):=by kernel_rfl
theorem Rel.aeV (h:Rel E L σ w) {C : jO} (k:jv E L σ C) (v':gP) (g:List (Nat×Nat×gz)) (d:w'.heap[E.bB]?=some (gJ (C.setIfInBounds 194 v') 157)) (a:KT E.bs [157,97] w w') (e:w'.ownsRow E.bs 97 1 v' g.length (g.map M3)) (j:g.length<=4096) (p:E.wv=none):Rel E {L with wv:=v'} {σ with waiting:=g} w':=
 {fr:=h.fr.trans (a.fr (by decide))
  env:=h.env
  DQ:=h.DQ
  sL:=λi q m=>((h.sL i q m).kt a (by decide)).loc rfl rfl rfl
  inj:=h.inj,A0:=h.A0,F5:=h.F5,uq:=h.uq,Ep:=h.Ep
  wf:=⟨h.wf.gA,h.wf.act,h.wf.head,h.wf.form,h.wf.je,h.wf.kids,h.wf.xb⟩
  iw:=⟨_,d,k.Zs v' g⟩
  o0:=a.row h.o0 (by decide)
  pX:=a.row h.pX (by decide)
  F9:=h.F9,wT:=h.wT,Et:=h.Et
  oT:=e
  Lw:=j
  rd:=a.at h.rd (by decide)
  QJ:=h.QJ
  tok:=a.row h.tok (by decide)
  Lt:=h.Lt,bz:=h.bz,bB:=h.bB,bR:=h.bR,bN:=h.bN,Da:=h.Da,ab:=h.ab,tb:=h.tb,Lv:=λv r=>by grind}
theorem SB (E:Env) (V:E.wv=none) (t:gN):ja E 118 (λ_=>#[Bp E,iF E t]) (oK t) uV:=by
 intro f σ w h A;have⟨a,b,k,gM⟩:=t;cases k with
 |ke s=>
  have D:=IZ E ⟨a,b,.ke s,gM⟩ w;cases hn:sU s with
  |true=>
   have U:oK ⟨a,b,.ke s,gM⟩ σ= .ok () σ:=by unfold oK;simp only;rw[hn];rfl
   rw[U];have p:sU (gN.chars ⟨a,b,.ke s,gM⟩)=true:=hn;rw[p]at D;have H:=At.start h;clear p;go_enter func118,ntmps118
   go_wp21
   refine D.mono ?_;rintro e w ⟨rfl,g⟩;replace H:=H.k0 g;go_wp2;go_end0;exact gv rfl H rfl
  |false=>
   have N:σ.waiting.length < 4096:=by
    by_cases hl:σ.waiting.length < 4096
    .exact hl
    .exfalso;apply A;unfold oK;simp_all
   have U:oK ⟨a,b,.ke s,gM⟩ σ= .ok () {σ with waiting:=σ.waiting++[(a,b,s)]}:=by unfold oK;simp only;rw[hn];simp[N]
   rw[U];have p:sU (gN.chars ⟨a,b,.ke s,gM⟩)=false:=hn;rw[p]at D;obtain⟨L,rfl,HR⟩:=h;clear p;rw[show iF E ⟨a,b,.ke s,gM⟩= .iface 167 (.agg #[gp a,gp b,gI s])from rfl]at D|-;go_enter func118,ntmps118
   go_wp21
   refine D.mono ?_;rintro e w0 ⟨rfl,g⟩;have r:=HR.im g;have HF:=Fr.gZ (bs:=E.bs) g;have c1:=r.aam;have a2:=r.lt;have⟨C,HBB,p⟩:=r.iw;obtain⟨i0,hi,X,Y,Z⟩:=vp adn;have⟨ao,cap,hwv⟩:=gH r.oT;rw[hwv]at c1;have G:Kept [] w0 (w0.alloc (gJ #[M3 (a,b,s)] 97)):=(Kept.refl _ _).alloc _;have HO:=G.ownsRow r.oT (λ_ _=>by simp);rw[hwv]at HO;have y:(Value.slice ao σ.waiting.length cap).ownBlock≠some E.bB:=by rw[<-hwv];exact Cs r.oT HBB (by decide)
   have S:=fW (fZ w0 (gJ #[M3 (a,b,s)] 97));have j:=fW r;have F:=fW p;have I:=fW hwv;clear r p hwv;go_wp2_with (at_builtin;refine iL _ rfl _ _ 155 rfl E.bs 97 i0 .nilIface 1 16 underlying155 hi X Y Z rfl (by decide) (.slice ao σ.waiting.length cap) σ.waiting.length (σ.waiting.map M3) rfl HO ⟨w0.heap.size,0,none⟩ 1 1 [M3 (a,b,s)] rfl rfl (λk u Q=>by rw[jq,fX S.out,<-Q];simp) (λu Q=>by simp at Q;subst Q;rfl) (by unfold maxLen;omega) (by omega) (by have h7:=j.bz;have h8:=j.fr.size;simp;omega) ?_);intro v' P d z a0;have K2:Kept (Value.slice ao σ.waiting.length cap).ownBlock.toList w0 P:=(G.mono (by simp)).grown z (λk g=> .inl (by rw[g];simp));have K:P.heap[E.bB]?=some (gJ C 157):=K2.at HBB (by simpa using y);have⟨ao',cap',hv⟩:=gH d;subst hv;have d1:P.cell? ⟨E.bB,194,none⟩=some (.slice ao σ.waiting.length cap):=by rw[fX K,F.out.wait,I.out]
   have d2:=gG K 194;have a1:=jn K;have h3:=gh K 194 (.slice ao' (σ.waiting.length+1) cap');have O:(Value.slice ao' (σ.waiting.length+1) cap').ownBlock≠some E.bB:=Cs d K (by decide);have h4:=yx (a:=⟨E.bB,194,none⟩) d O (.slice ao' (σ.waiting.length+1) cap');have h5:Kept (E.bB::(Value.slice ao σ.waiting.length cap).ownBlock.toList) w0 (P.setCell ⟨E.bB,194,none⟩ (.slice ao' (σ.waiting.length+1) cap')):=(K2.mono (λk g _=>oX _ g)).setCell (.inl (by simp)) _;have kt:KT E.bs [157,97] w0 (P.setCell ⟨E.bB,194,none⟩ (.slice ao' (σ.waiting.length+1) cap')):= .jT h5 (λk g _=>by
    rcases List.mem_cons.1 g with rfl|g
    .exact⟨⟨_,_,_,HBB,by simp⟩,j.bB⟩
    .have B:=j.oT;rw[I.out]at B;obtain⟨c,m,hc⟩:=rX B (by simpa using g);exact⟨⟨_,_,_,hc,by simp⟩,(B.lt k (by simpa using g)).1⟩)
   have HZ:=j.aeV F (.slice ao' (σ.waiting.length+1) cap') (σ.waiting++[(a,b,s)]) h3 kt (by simpa using h4) (by simp;omega) V;have R:=HF.trans (kt.fr (by decide));go_wp2;go_end0;exact⟨L.gQ,λ_ _=>rfl,ij _,rfl,⟨{L with wv:= .slice ao' (σ.waiting.length+1) cap'},rfl,HZ⟩,R⟩
 |start s=>exact absurd rfl A
 |stop s=>exact absurd rfl A
 |gS s=>exact absurd rfl A
 |iN s q=>exact absurd rfl A
 |lost=>exact absurd rfl A
 |io=>exact absurd rfl A
def Lz {α:Type} (n:Nat) (P:Program) (g:Nat) (m:jO) (d:α->jO) (Kp:gw->gw->Prop) (S Sp:List α->Prop) (N:Nat) (w:gw):Prop:=
 ∀(l:Nat) (J j:List α->gw->Prop) (W:gw),Below w.heap.size w W->OwnFrom W.heap.size J->OwnFrom W.heap.size j->
  (∀pre x a,J pre a->pre.length < N->YieldAt Fence.wide (n - 1) P l (d x) a λe W'=>(e=ir (.bool true)/\J (pre++[x]) W'/\Kp a W'/\KeepsFrom W.heap.size a W')\/(e=ir (.bool false)/\j (pre++[x]) W'/\KeepsFrom W.heap.size a W'))->
  J [] W->CallsIn Fence.wide n P g (#[.func (.yield l) #[] #[]]++m) W λe W'=>(∃v,e=ir v)/\((∃k,S k/\J k W')\/(∃pre,Sp pre/\j pre W'))
theorem Jn {A B : gw} {d : jg} {a k : Nat} (g:A.grownBy B d) (m:∀r,d=some r->a<=r/\∃o:Obj,A.heap[r]?=some o/\o.isCells=false) (h:A.heap[k]?=some o) (j:k < a):B.heap[k]?=some o:=
 (g.block k (Array.getElem?_eq_some_iff.1 h).1 (λe=>by grind)).trans h
theorem ut {a : gw} {g : Obj} (m:l < b) (h:KeepsFrom (l - 1) (W.putObj l o) a):KeepsFrom b W (a.putObj l g):=by
 refine⟨?_,λk q j e d=>?_⟩
 .have:=h.size
  simp_all
 .rw[pk (by omega)];exact h.same k q (by omega) ((pk (by omega)).trans e) d
theorem Rs {α:Type} {P:Program} {g:Operand} {ps:Array Tmp} {Q:Exit->Act->gw->Prop} {a : Act}
  (h1:1<=n) {gf : Nat} {lb : jO} (hg:a.eval g= .func (.func gf) #[] lb) (eg:∀Z w,(callFunc gf Z).run P w= .ok (.enter gf Z) w)
  {y:α->jO} {Kp : gw->gw->Prop} {S Sp:List α->Prop} {N : Nat} (a9:Lz (n - 1) P gf lb y Kp S Sp N w0)
  (a6:∀{A B C:gw},Kp A B->Kp B C->Kp A C) (a5:∀(W:gw) (l:Nat) (o o':Obj),w.heap.size<=l->W.heap[l]?=some o->o.isCells=false->o.isWalk=false->Kp W (W.putObj l o')) (a7:Below w0.heap.size w0 w) (al:∀x,(y x).size=ps.size)
  (I:List α->gw->Prop) (Ix:Code->List α->gw->Prop) (hI:OwnFrom w.heap.size I) (U:∀c,OwnFrom w.heap.size (Ix c)) (h0:I [] w) (a0:α->Act)
  (V:∀(l:Nat) (x:α) (W:gw) (K:Act->gw->Prop),K (a0 x) W->assign.wpIn (Fence.wide.inRound l) (n - 1 - 1) P (Exit.then K (λ_ _ _=>False)) {tmps:=(ps.zip (y x)).foldl (λt (p,v)=>t.setIfInBounds p v) a.tmps,defers:=[]} W)
  (a1:∀(l:Nat) (pre:List α) (x:α) (W:gw),I pre W->pre.length < N->body.wpIn (Fence.wide.inRound l) (n - 1 - 1) P (ownPostG w.heap.size Kp I Ix (pre++[x]) W) (a0 x) W)
  (a2:∀(D:Nat) (xs:List α) (W:gw),w.heap.size<=D->S xs->I xs W->W.heap[D]?=some (.deferred (some []))->Q .normal {a with defers:={target:= .collected D,args:=#[]}::a.defers} W)
  (a4:∀(D:Nat) (c:Code) (pre:List α) (W:gw),w.heap.size<=D->Sp pre->Ix c pre W->W.heap[D]?=some (.deferred (some []))->c.wpIn Fence.wide n P Q {a with defers:={target:= .collected D,args:=#[]}::a.defers} W):
  (Code.rangeFunc g ps assign body).wpIn Fence.wide n P Q a w:=by
 refine wpIn_rangeFunc ?_;intro fn af;obtain⟨j,k⟩:∃j:LoopState->Option Code->Loop,j=λst pe=>{state:=st,pending:=pe,fn,tmps:=a.tmps,params:=ps,assign,body,defers:=w.heap.size}:=⟨_,rfl⟩;obtain⟨H,z⟩:∃H,(w.alloc (.deferred (some []))).alloc (.loop (j .ready none))=H:=⟨_,rfl⟩;have am:H.heap.size=w.heap.size+2:=by rw[<-z];simp
 have ac:H.heap[w.heap.size+1]?=some (.loop (j .ready none)):=by
  rw[<-z];have:=C5 (w.alloc (.deferred (some []))) (.loop (j .ready none));rwa [ry]at this
 have ab:H.heap[w.heap.size]?=some (.deferred (some [])):=by
  rw[<-z];exact(Below.heap_alloc _ _ _ (by simp)).trans (C5 w _)
 have aa:I [] H:=by rw[<-z];exact hI.alloc _ (hI.alloc _ h0)
 have ae:Below w0.heap.size w0 H:=by
  rw[<-z];exact a7.trans ((((Below.refl _ w).alloc (ij _) _).alloc (by simp) _).mono a7.size)
 refine⟨w.heap.size+1,[{target:= .collected w.heap.size,args:=#[]}],H,{target:= .fn (.func gf) lb,args:=#[.func (.yield (w.heap.size+1)) #[] #[]]},H,gf,
  #[.func (.yield (w.heap.size+1)) #[] #[]]++lb,H,?_,?_,?_,?_,λ_=>h1,?_⟩
 .rw[<-z,k];exact run_enterLoop_outer _ _ _ _ _
 .simp only[resolve,hg];simp[go_sem]
 .intro f' ak;trivial
 .simp[invoke,go_sem,eg]
 have lo:∀{A B:gw} {G:jg},(∀r,G=some r->H.heap.size<=r/\∃o:Obj,A.heap[r]?=some o/\o.isCells=false)->(∀r,G=some r->w.heap.size<=r/\∃o:Obj,A.heap[r]?=some o/\o.isCells=false):=
  λq r e=>⟨by grind,(q r e).2⟩
 refine(a9 (w.heap.size+1)
  (λpre W=>I pre W/\W.heap[w.heap.size+1]?=some (.loop (j .ready none))/\W.heap[w.heap.size]?=some (.deferred (some [])))
  (λpre W=>∃c,Ix c pre W/\W.heap[w.heap.size+1]?=some (.loop (j .done (some c)))/\W.heap[w.heap.size]?=some (.deferred (some [])))
  H ae
  (λs A B G hs u q=>⟨hI s A B G hs.1 u (lo (B:=B) q),Jn u q hs.2.1 (by omega),Jn u q hs.2.2 (by omega)⟩)
  (λs A B G hs u q=>by
   have⟨c,hc,F,hk⟩:=hs;exact⟨c,U c s A B G hc u (lo (B:=B) q),Jn u q F (by omega),Jn u q hk (by omega)⟩)
  ?_ ⟨aa,ac,ab⟩).mono ?_
 .rintro pre x W ⟨hi,F,hk⟩ a8;have ai:w.heap.size+1 < W.heap.size:=(Array.getElem?_eq_some_iff.1 F).1;have hy:=run_yield (P:=P) (args:=y x) F (by grind);rw[k]at hy;refine⟨fn,_,assign,body,hy,roundIn_of_wpIn af (V _ x W _ ?_)⟩;refine⟨_,run_beginRound F (by rw[k]),?_⟩;have ah:(W.putObj (w.heap.size+1) (.loop {j .ready none with state:= .busy})).heap[w.heap.size+1]?=some (.loop {j .ready none with state:= .busy}):=C6 ai;have ag:(W.putObj (w.heap.size+1) (.loop {j .ready none with state:= .busy})).heap[w.heap.size]?=some (.deferred (some [])):=(pk (by omega)).trans hk;have aj:Kp W (W.putObj (w.heap.size+1) (.loop {j .ready none with state:= .busy})):=a5 _ _ _ _ (by omega) F rfl rfl;refine wH (a1 _ pre x _ (hI.putObj _ hi (by omega) F rfl) a8) ?_;have Y:∀(d:Option Code) (O:gw),KeepsFrom w.heap.size (W.putObj (w.heap.size+1) (.loop {j .ready none with state:= .busy})) O->
    (Instr.endRound (w.heap.size+1) d).run P O= .ok (.bool d.isNone) (O.putObj (w.heap.size+1) (.loop (j (if d.isNone then .ready else .done) d)))/\
    O.heap[w.heap.size+1]?=some (.loop {j .ready none with state:= .busy})/\
    (O.putObj (w.heap.size+1) (.loop (j (if d.isNone then .ready else .done) d))).heap[w.heap.size+1]?=some (.loop (j (if d.isNone then .ready else .done) d))/\
    (O.putObj (w.heap.size+1) (.loop (j (if d.isNone then .ready else .done) d))).heap[w.heap.size]?=some (.deferred (some [])):=λd O X=>by
   have m:=X.same _ _ (by omega) ah rfl;have:=run_endRound (P:=P) d m;rw[k]at this|-;exact⟨this,by grind,C6 (Array.getElem?_eq_some_iff.1 m).1,(pk (by omega)).trans (X.same _ _ (ij _) ag rfl)⟩
  rintro e a3 O R;cases e with
  |normal=>
   have⟨X,hkp3,hi3⟩:=R;have⟨q,m,hl4,hk4⟩:=Y none O X;exact⟨_,_,q,.inl ⟨rfl,⟨hI.putObj _ hi3 (by omega) m rfl,hl4,hk4⟩,a6 (a6 aj hkp3) (a5 _ _ _ _ (by omega) m rfl rfl),ut (by omega) X⟩⟩
  |ret=>
   have⟨q,m,hl4,hk4⟩:=Y (some .ret) O R.1;exact⟨_,_,q,.inr ⟨rfl,⟨.ret,(U _).putObj _ R.2 (by omega) m rfl,hl4,hk4⟩,ut (by omega) R.1⟩⟩
  |exit id=>
   have⟨q,m,hl4,hk4⟩:=Y (some (.exit id)) O R.1;exact⟨_,_,q,.inr ⟨rfl,⟨.exit id,(U _).putObj _ R.2 (by omega) m rfl,hl4,hk4⟩,ut (by omega) R.1⟩⟩
  |goto t=>
   have⟨q,m,hl4,hk4⟩:=Y (some (.goto t)) O R.1;exact⟨_,_,q,.inr ⟨rfl,⟨.goto t,(U _).putObj _ R.2 (by omega) m rfl,hl4,hk4⟩,ut (by omega) R.1⟩⟩
  |panic ch=>exact R.elim
  |outgrown=>exact R.elim
 .rintro e W2 ⟨⟨v,rfl⟩,(⟨xs,hS,hi,F,hk⟩|⟨pre,ad,c,hi,F,hk⟩)⟩
  .exact⟨none,_,by have:=Fu (P:=P) F (by rw[k];simp);rw[k]at this;exact this,a2 _ xs _ (ij _) hS (hI.putObj _ hi (by omega) F rfl) ((pk (by omega)).trans hk)⟩
  .exact⟨some c,_,by have:=Fu (P:=P) F (by rw[k];simp);rw[k]at this;exact this,a4 _ c pre _ (ij _) ad ((U c).putObj _ hi (by omega) F rfl) ((pk (by omega)).trans hk)⟩
section
attribute [local go_sem] Oper.semAt_some
attribute [local go_sem] abS
attribute [local simp] abS
def zV:kO->List Nat
 |[]=>[]
 |none::_=>[]
 |some i::r=>i::zV r
def KC (T:List Nat) (W W':gw):Prop:=W.heap.size<=W'.heap.size/\∀(k:Nat) (c:jO) (t:TypeId) (m:Nat×Nat),k∉T->W.heap[k]?=some (.cells c t m)->W'.heap[k]?=some (.cells c t m)
def KC.trans {T : List Nat} {A B C : gw} (h:KC T A B) (k:KC T B C):KC T A C:=⟨jN h.1 k.1,λi c t m a d=>k.2 i c t m a (h.2 i c t m a d)⟩
def KC.put {T : List Nat} (W:gw) (l:Nat) (o j:Obj) (a:W.heap[l]?=some o) (g:o.isCells=false):KC T W (W.putObj l j):=
 ⟨by simp,λk c t m _ d=>(pk (λe=>by subst e;rw[d]at a;cases a;cases g)).trans d⟩
def Wx {m j g : Nat} {P:Program} {f:FuncId} {a : jO} {R : Ending->gw->Prop} (h:RoundIn Fence.wide m P l f a assign body w R):RoundIn (Fence.wide.inRound g) j P l f a assign body w R:=⟨h.1,λc e _=>h.2 c e (λd h=>by cases h)⟩
def TT {ys : kO}:∀{a:List Nat},a.map some <+:ys->a <+:zV ys
 |[],_=>List.nil_prefix
 |p::a,h=>by
  have⟨r,hr⟩:=h;subst hr;show p::a <+:p::zV (a.map some++r);exact(List.prefix_cons_inj p).2 (TT ⟨r,rfl⟩)
def TQ:∀{a:List Nat},zV (a.map some)=a
 |[]=>rfl
 |p::a=>by show p::zV (a.map some)=_;rw[TQ]
def OV {r : kO}:∀{a:List Nat},zV (a.map some++none::r)=a
 |[]=>rfl
 |p::a=>by show p::zV (a.map some++none::r)=_;rw[OV]
theorem XG (m:Nat) (hm:5<=m) (base bB:Nat) (tB:TypeId) (C:jO) (v:gP) (xs:kO) (s:Nat) (T:List Nat) (w:gw) (h:wW base bB 189 tB C v xs w)
  (hs:w.heap[s]?=some (gJ #[gL bB] 93)) (hT:∀k∈T,k≠bB/\v.ownBlock≠some k/\k < w.heap.size):
  Lz m prog 336 #[gL s] (λx:{x:Nat // some x∈xs}=>#[kh (some x.1)]) (KC T) (λys=>ys.map (·.1)=zV xs.reverse) (λpre=>pre.map (·.1) <+:zV xs.reverse) xs.length w:=by
 intro l J Jx W hB HJ a3 HY H0;have a7:=jn h.iw;have L1:wW base bB 189 tB C v xs W:=by
  refine h.EM (K:=bB::v.ownBlock.toList) (λk a=>hB.block k ?_) (by simp) (λk a=>by simp[a]);rcases List.mem_cons.1 a with rfl|a
  .exact a7
  .exact(h.row.lt k (by grind)).2
 have al:=jn hs;have aa:=(hB.block s al).trans hs;have a9:w.heap.size<=W.heap.size:=hB.size;have aj:bB < W.heap.size:=lU a7 a9;obtain⟨j,F⟩:∃j,j=W.alloc (gJ #[.func (.yield l) #[] #[]] 265):=⟨_,rfl⟩;have a4:Kept [] W j:=by rw[F];exact(Kept.refl [] W).alloc _
 have ad:j.heap[W.heap.size]?=some (gJ #[.func (.yield l) #[] #[]] 265):=by rw[F];exact fZ W _
 have z1:j.heap.size=W.heap.size+1:=by rw[F];simp
 have HL:wW base bB 189 tB C v xs j:=L1.EM (ky.jT (K:=bB::v.ownBlock.toList) a4 (λk a=>⟨by
  rcases List.mem_cons.1 a with rfl|a
  .exact aj
  .exact(L1.row.lt k (by grind)).2,by simp⟩)) (by simp) (λk a=>by simp[a])
 have c1:(W.alloc (gJ #[.func (.yield l) #[] #[]] 265)).cell? ⟨s,0,none⟩=some (gL bB):=by rw[<-F,fX (a4.at aa (by simp))];rfl
 have HU:=V3 base bB 189 tB C v xs j HL;refine wJ func336 rfl trivial ?_ rfl;simp only[ntmps336,wK,qd,uQ,Nat.reduceAdd,Nat.reduceSub,wL,wM,wN,wO,rQ,uR];have HW:=fW F.symm;have HZ:=fW z1;have HT:=hT;clear F z1 L1 aa h hB hs
 gi_wp2_with fail
 rw[HW.out];refine⟨λ_=>by omega,(callsIn_wide.2 HU).mono ?_⟩;rintro e w' ⟨rfl,rfl⟩;gi_wp2;have ag:=HL;obtain⟨u,R⟩:∃u,u=mr bB 189 (xs.length:Int) j:=⟨_,rfl⟩;have k2:Kept [] j u:=by rw[R];exact((Kept.refl _ _).alloc _).alloc _
 have am:u.heap.size=j.heap.size+2:=by rw[R];simp
 have P:wW base bB 189 tB C v xs u:=HL.EM (ky.jT (K:=bB::v.ownBlock.toList) k2 (λk a=>⟨by
  rcases List.mem_cons.1 a with rfl|a
  .grind
  .exact(HL.row.lt k (by simpa using a)).2,by simp⟩)) (by simp) (λk a=>by simp[a])
 have⟨b0,b1⟩:=(⟨(Below.heap_alloc _ _ _ (by simp)).trans (fZ j _),by
   have:=fZ (j.alloc (gJ #[jF bB 189] 256)) (gJ #[gp xs.length] 3)
   simp_all⟩:(mr bB 189 (xs.length:Int) j).heap[j.heap.size]?=some (gJ #[jF bB 189] 256)/\(mr bB 189 (xs.length:Int) j).heap[j.heap.size+1]?=some (gJ #[gp xs.length] 3))
 rw[<-R]at b0 b1|-;have ap:=HZ.out;have gY:=k2.at ad (by simp);obtain⟨K,O⟩:∃K,K=bB::j.heap.size::v.ownBlock.toList:=⟨_,rfl⟩;have a6:∀k∈K,k < u.heap.size/\k∉T/\∃c t m,u.heap[k]?=some (.cells c t m):=by
  intro k a;rw[O]at a;rcases List.mem_cons.1 a with rfl|a
  .exact⟨jn P.iw,λe=>(HT _ e).1 rfl,_,_,_,P.iw⟩
  .rcases List.mem_cons.1 a with rfl|a
   .grind
   .have ak:v.ownBlock=some k:=by simpa using a
    have⟨c,m',hc⟩:=rX P.row ak
    grind
 have an:=Rn (m - 1) (by omega) base bB 189 tB C v xs xs.length j.heap.size K u P (ij _) (by rw[O];simp) (by rw[O];simp) (by grind) (by omega) b1 b0;have au:∀k∈T,k < W.heap.size:=λk a=>lU (HT k a).2.2 a9;have U:=fW a6;have a1:=(show u.heap.size=W.heap.size+1+2 by omega);have ar:J [] u:=by
  have H:J [] j:=HJ [] W j none H0 (by rw[<-HW.out];exact World.grownBy_alloc W _ none) (λr e=>by cases e);rw[R];refine HJ [] (j.alloc _) _ none ?_ (World.grownBy_alloc _ _ none) (λr e=>by cases e);exact HJ [] j _ none H (World.grownBy_alloc _ _ none) (λr e=>by cases e)
 clear O b0 b1 HU HL ag P k2 R a6 c1 am ap;obtain⟨I,hI⟩:∃I:List {x:jg // x∈xs}->gw->Prop,I=(λZ W'=>u.heap.size<=W'.heap.size/\ky K u W'/\W'.heap[W.heap.size]?=some (gJ #[.func (.yield l) #[] #[]] 265)/\∃d:List {x:Nat // some x∈xs},Z.map (·.1)=d.map (λp=>some p.1)/\J d W'):=⟨_,rfl⟩;obtain⟨Ix,a5⟩:∃Ix:Code->List {x:jg // x∈xs}->gw->Prop,Ix=(λc Z W'=>c= .ret/\((∃d:List {x:Nat // some x∈xs},Z.map (·.1)=d.map (λp=>some p.1)++[none]/\J d W')\/(∃d:List {x:Nat // some x∈xs},Z.map (·.1)=d.map (λp=>some p.1)/\Jx d W'))):=⟨_,rfl⟩;have HI:=fW hI;have S:=fW a5;clear hI a5;refine wpIn_rangeFunc_ownG rfl (by omega) (gf:=341) rfl trivial (Go.Proofs.enters_of func341 (by rfl) rfl) an ky.trans (λW l o o' hl H N h3=>ky.put (w:=u) (λk a=>(U.out k a).1) W l o o' hl H N h3) (Below.refl _ _) (λ_=>rfl)
  I Ix
  ?_ ?_ ?_ (λx=>{tmps:=#[.func (.yield l) #[] #[],gL s,gL W.heap.size,kh x.1,gL bB,gL bB,jF bB 189,uO j.heap.size,kh x.1,undef,undef,undef,undef,undef,undef,undef,undef],defers:=[]}) ?assign ?body ?done ?stop
 .rw[HI.out];rintro Z A B V ⟨H,N,h3,d,h4,h5⟩ hg Y;have hz:=a1;refine⟨jN H hg.size,λk a=>?_,Jn hg Y h3 (by omega),d,h4,HJ d A B V h5 hg (λr e=>⟨by grind,(Y r e).2⟩)⟩;rw[hg.block k (lU (U.out k a).1 H) (λe=>by have:=(Y k e.symm).1;have:=(U.out k a).1;omega)];exact N k a
 .rw[S.out];rintro c Z A B V ⟨H,N⟩ hg Y;have hz:=a1;refine⟨H,N.imp (λ⟨d,h4,h5⟩=>⟨d,h4,HJ d A B V h5 hg (λr e=>⟨by grind,(Y r e).2⟩)⟩) (λ⟨d,h4,h5⟩=>⟨d,h4,a3 d A B V h5 hg (λr e=>⟨by grind,(Y r e).2⟩)⟩)⟩
 .rw[HI.out]
  grind[ky]
 case assign=>
  intro l2 x W' KK ai;gi_wp2;exact ai
 case body=>
  rintro l2 pre ⟨x,hx⟩ W' q aq;rw[HI.out]at q;have⟨hz,hkb,hbx,d,g,X⟩:=q;have cy:=fX hbx 0;dsimp at cy;cases x with
  |none=>
   have HP:=fW g;have af:=fW X;clear g X hz hkb hbx;gi_wp2;refine⟨KeepsFrom.refl _ _,?_⟩;rw[S.out];exact⟨rfl,.inl ⟨d,by rw[ru,HP.out];rfl,af.out⟩⟩
  |some i=>
   have ao:=HY d ⟨i,hx⟩ W' X (by have:=sI List.length g;grind);have a2:Hid (∀z,KC T W' z->ky K u z/\z.heap[W.heap.size]?=some (gJ #[.func (.yield l) #[] #[]] 265)/\u.heap.size<=z.heap.size/\ky K W' z):=fW (by
    intro z G;have ac:∀k∈K,z.heap[k]?=u.heap[k]?:=by
     intro k a;have⟨_,N,c,t,mm,h3⟩:=U.out k a;have h4:=(hkb k a).trans h3;rw[G.2 k c t mm N h4,h3]
    exact⟨ac,G.2 _ _ _ _ (λe=>by grind) hbx,jN hz G.1,λk a=>(ac k a).trans (hkb k a).symm⟩)
   have⟨fn,tmps,assign,body,hyy,HRR⟩:=ao;have HP:=fW g;clear g X hz hkb hbx
   gi_wp2_with fail
   refine⟨λ_=>by omega,(Wx HRR).mono ?_⟩;rintro e z (⟨rfl,a8,G,y⟩|⟨rfl,ab,y⟩)
   .have⟨p1,p2,p3,P4⟩:=a2.out z G;have ae:Hid (I (pre++[⟨some i,hx⟩]) z):=fW (by rw[HI.out];exact⟨p3,p1,p2,d++[⟨i,hx⟩],by rw[ru,ru,HP.out];rfl,a8⟩);have a0:=(show KeepsFrom u.heap.size W' z from⟨y.size,λk o a H N=>y.same k o (by omega) H N⟩);clear a8 G y p1 p2 p3 HRR a2;gi_wp2;exact⟨a0,P4,ae.out⟩
   .have ah:Hid (Ix .ret (pre++[⟨some i,hx⟩]) z):=fW (by rw[S.out];exact⟨rfl,.inr ⟨d++[⟨i,hx⟩],by rw[ru,ru,HP.out];rfl,ab⟩⟩);have a0:=(show KeepsFrom u.heap.size W' z from⟨y.size,λk o a H N=>y.same k o (by omega) H N⟩);clear ab y HRR a2;gi_wp2;exact⟨a0,ah.out⟩
 case done=>
  rintro D Z W' HD hS q O;rw[HI.out]at q;have⟨_,_,_,d,g,HJ3⟩:=q;have HE:Hid (d.map (·.1)=zV xs.reverse):=fW (by
   rw[List.take_length]at hS;rw[<-hS,g,show(d.map λp=>some p.1)=(d.map (·.1)).map some by simp,TQ])
  clear g hS;gi_wp2;refine⟨by simp,.inl ⟨_,_,rfl,nN O,?_⟩⟩;refine⟨.tuple #[],by simp[results,results336,go_sem],⟨_,rfl⟩,.inl ⟨d,HE.out,?_⟩⟩;exact HJ d W' _ (some D) HJ3 (xF _ D (.deferred none)) (λr e=>by cases e;exact⟨by omega,_,O,rfl⟩)
 case stop=>
  rintro D c Z W' HD Q q O;rw[S.out]at q;obtain⟨rfl,q⟩:=q;have HE:Hid ((∃ys:List {x:Nat // some x∈xs},ys.map (·.1)=zV xs.reverse/\J ys W')\/(∃pre:List {x:Nat // some x∈xs},pre.map (·.1) <+:zV xs.reverse/\Jx pre W')):=fW (by
   rw[List.take_length]at Q;rcases q with⟨d,g,X⟩|⟨d,g,X⟩
   .refine .inl ⟨d,?_,X⟩;have⟨r,Y⟩:=Q;rw[<-Y,g,show(d.map λp=>some p.1)=(d.map (·.1)).map some by simp,BI];exact OV.symm
   .refine .inr ⟨d,?_,X⟩;rw[g,show(d.map λp=>some p.1)=(d.map (·.1)).map some by simp]at Q;exact TT Q)
  clear q Q;gi_wp2;refine⟨by simp,.inl ⟨_,_,rfl,nN O,?_⟩⟩;refine⟨.tuple #[],by simp[results,results336,go_sem],⟨_,rfl⟩,?_⟩;have hb:D>=W.heap.size:=by have:=HD;have:=a1;omega
  rcases HE.out with⟨ys,e1,e2⟩|⟨pre,e1,e2⟩
  .exact .inl ⟨ys,e1,HJ ys W' _ (some D) e2 (xF _ D (.deferred none)) (λr e=>by cases e;exact⟨hb,_,O,rfl⟩)⟩
  .exact .inr ⟨pre,e1,a3 pre W' _ (some D) e2 (xF _ D (.deferred none)) (λr e=>by cases e;exact⟨hb,_,O,rfl⟩)⟩
end
section
attribute [local go_sem] Oper.semAt_some
attribute [local go_sem] abS
attribute [local simp] abS
def LD (s:Nat):gP:= .func (.func 336) #[] #[gL s]
def Hq (bB:Nat) (w:gw):
  Calls prog 306 #[gL bB] w λe w'=>e=ir (LD w.heap.size)/\w'=w.alloc (gJ #[gL bB] 93):=by
 have g:∀(d:Fn) (first a:jO) (w:gw),(Instr.makeFunc d first a).run prog w= .ok (.func d first a) w:=λ_ _ _ _=>rfl;go_enter func306,ntmps306;go_wp2;go_ret;simp[LD]
def TS:∀(a:kO),zV (a.map (Option.map f))=(zV a).map f
 |[]=>rfl
 |none::_=>rfl
 |some i::r=>by show f i::zV (r.map (Option.map f))=f i::(zV r).map f;rw[TS]
def ac0 (T:List Nat) (I:List Nat->gw->Prop) (d:Code->List Nat->gw->Prop) (a:List Nat) (W:gw):Exit->Act->gw->Prop
 | .normal,_,W'=>Kept T W W'/\I a W'
 | .ret,_,W'=>Kept T W W'/\d .ret a W'
 | .exit id,_,W'=>Kept T W W'/\d (.exit id) a W'
 | .goto t,_,W'=>Kept T W W'/\d (.goto t) a W'
 | .panic _,_,_=>False
 | .outgrown,_,_=>False
def Kept.kc {T : List Nat} (h:Kept T W W'):KC T W W':=⟨h.size,λk c t m d a=>(h.block k (Array.getElem?_eq_some_iff.1 a).1 d).trans a⟩
theorem Kept.kf {T : List Nat} {B : Nat} (h:Kept T W W') (d:∀k∈T,k < B):KeepsFrom B W W':=⟨h.size,λk o g a _=>(h.block k (Array.getElem?_eq_some_iff.1 a).1 (λe=>by grind)).trans a⟩
def EW (d:∀i j,f i=f j->i=j):∀{e a:List Nat},e.map f=a.map f->e=a
 |[],[],_=>rfl
 |[],_::_,h=>by simp at h
 |_::_,[],h=>by simp at h
 |x::xs,y::a,h=>by
  simp only[yy,Rx]at h;rw[d x y h.1,EW d h.2]
def abp (d:∀i j,f i=f j->i=j) {a ys : List Nat} (h:a.map f <+:ys.map f):a <+:ys:=by
 have⟨t,ht⟩:=h;refine⟨ys.drop a.length,?_⟩;have g:a.length<=ys.length:=by have:=sI List.length ht;simp at this;omega
 have e:a.map f=(ys.take a.length).map f:=by rw[List.map_take,<-ht];simp
 have e2:=EW d e
 conv=>lhs;lhs;rw[e2]
 simp
theorem UP (hn:7<=n) {w1 : gw} (hr:Rel E L σ w1)
  {g:Operand} {p:Tmp} {Q:Exit->Act->gw->Prop} {a : Act} (hg:a.eval g=LD w1.heap.size)
  (T:List Nat) (hT:∀k∈T,k≠E.bB/\L.cv.ownBlock≠some k/\k < w1.heap.size)
  (I:List Nat->gw->Prop) (V:Code->List Nat->gw->Prop)
  (hI:OwnFrom (w1.heap.size+1) I) (Z:∀c,OwnFrom (w1.heap.size+1) (V c)) (h0:I [] (w1.alloc (gJ #[Bp E] 93))) (m:Nat->Act)
  (q:∀(l:Nat) (x:Nat) (W:gw) (K:Act->gw->Prop),K (m x) W->assign.wpIn (Fence.wide.inRound l) (n - 1 - 1) prog (Exit.then K (λ_ _ _=>False)) {tmps:=a.tmps.setIfInBounds p (kh (some x)),defers:=[]} W)
  (N:∀(l:Nat) (pre:List Nat) (i:Nat) (W:gw),some i∈σ.act->I pre W->pre.length < σ.act.length->body.wpIn (Fence.wide.inRound l) (n - 1 - 1) prog (ac0 T I V (pre++[i]) W) (m (L.gQ i)) W)
  (a0:∀(D:Nat) (W:gw),w1.heap.size+1<=D->I (zV σ.act.reverse) W->W.heap[D]?=some (.deferred (some []))->Q .normal {a with defers:={target:= .collected D,args:=#[]}::a.defers} W)
  (P:∀(D:Nat) (c:Code) (pre:List Nat) (W:gw),w1.heap.size+1<=D->pre <+:zV σ.act.reverse->V c pre W->W.heap[D]?=some (.deferred (some []))->c.wpIn Fence.wide n prog Q {a with defers:={target:= .collected D,args:=#[]}::a.defers} W):
  (Code.rangeFunc g #[p] assign body).wpIn Fence.wide n prog Q a (w1.alloc (gJ #[Bp E] 93)):=by
 have k1:Kept [] w1 (w1.alloc (gJ #[Bp E] 93)):=(Kept.refl _ _).alloc _;have a1:=hr.im k1;have⟨C,hL,hC⟩:=a1.Gy;have H:(w1.alloc (gJ #[Bp E] 93)).heap.size=w1.heap.size+1:=by simp
 have U:∀i j,L.gQ i=L.gQ j->i=j:=hr.inj;have a2:=XG (n - 1) (by omega) E.bs E.bB _ C L.cv _ w1.heap.size T _ hL (fZ w1 _) (λk hk=>⟨(hT k hk).1,(hT k hk).2.1,by grind⟩);have S:∀x:{x:Nat // some x∈σ.act.map (iD L.gQ)},∃i,some i∈σ.act/\L.gQ i=x.1:=by
  rintro⟨x,hx⟩;have⟨y,hy,e⟩:=List.mem_map.1 hx;cases y with
  |none=>cases e
  |some i=>grind
 have a5:zV (σ.act.map (iD L.gQ)).reverse=(zV σ.act.reverse).map L.gQ:=by
  rw[<-UY];exact TS _
 refine Rs (by omega) (gf:=336) hg (Go.Proofs.enters_of func336 (by rfl) rfl) a2 KC.trans (λW l o o' _ z F _=>KC.put W l o o' z F) (Below.refl _ _) (λ_=>rfl)
  (λpre W=>∃d,pre.map (·.1)=d.map L.gQ/\I d W) (λc pre W=>∃d,pre.map (·.1)=d.map L.gQ/\V c d W) ?_ ?_ ?_ (λx=>m x.1) ?_ ?_ ?_ ?_
 .rintro s A B R ⟨d,z,F⟩ O u;rw[H]at u;exact⟨d,z,hI d A B R F O u⟩
 .rintro c s A B R ⟨d,z,F⟩ O u;rw[H]at u;exact⟨d,z,Z c d A B R F O u⟩
 .grind
 .intro l x W K Y
  simpa using q l x.1 W K Y
 .rintro l pre x W ⟨d,z,F⟩ a4;have⟨i,hi,ei⟩:=S x;have hb:=N l d i W hi F (by have:=sI List.length z;grind);rw[ei]at hb;have G:∀k∈T,k < (w1.alloc (gJ #[Bp E] 93)).heap.size:=λk hk=>by grind
  have e2:(pre++[x]).map (·.1)=(d++[i]).map L.gQ:=by rw[ru,ru,z,List.map_singleton,List.map_singleton,ei]
  refine wH hb ?_;rintro e a3 W3 r;cases e with
  |normal=>exact⟨r.1.kf G,r.1.kc,_,e2,r.2⟩
  |ret=>exact⟨r.1.kf G,_,e2,r.2⟩
  |exit id=>exact⟨r.1.kf G,_,e2,r.2⟩
  |goto t=>exact⟨r.1.kf G,_,e2,r.2⟩
  |panic ch=>exact r.elim
  |outgrown=>exact r.elim
 .rintro D ys W X hS ⟨d,z,F⟩ Y;rw[H]at X;have:d=zV σ.act.reverse:=EW U (by grind)
  grind
 .rintro D c pre W X a6 ⟨d,z,F⟩ Y;rw[H]at X;exact P D c d W X (abp U (by grind)) F Y
end
inductive Tn
 |el (name:gz) (gM:kY) (kids:List Tn)
 |tx (s:gz)
 |cm (s:gz)
 |dt (s:gz)
inductive Ev
 |dt (s:gz)
 |cm (s:gz)
 |tx (s:gz)
 |enter (name:gz) (gM:kY)
 |wm (name:gz)
variable {J : List Ev->gw->Prop} {tot : List Ev}
mutual
def C9 (vd:gz->Bool):Tn->List Ev
 | .el name gM ks=> .enter name gM::(if vd name then []else ve vd ks++[.wm name])
 | .tx s=>[.tx s]
 | .cm s=>[.cm s]
 | .dt s=>[.dt s]
def ve (vd:gz->Bool):List Tn->List Ev
 |[]=>[]
 |t::ts=>C9 vd t++ve vd ts
end
abbrev IA (gM:kY):List gP:=gM.flatMap λa=>[gI a.1,gI a.2]
abbrev vq (w:gw) (v:gP) (gM:kY):Prop:=w.ownsRow 0 275 2 v gM.length (IA gM)
mutual
def jI (w:gw):Tn->Nd->Prop
 | .el name gM ks,.el k=>∃d a kv e,El 0 w k name d a kv e/\vq w d gM/\gM.length<=4096/\qH w ks e
 | .tx s,.tx k=>w.heap[k]?=some (gJ #[gI s] 260)
 | .cm s,.cm k=>w.heap[k]?=some (gJ #[gI s] 218)
 | .dt s,.dt k=>w.heap[k]?=some (gJ #[gI s] 222)
 |_,_=>False
def qH (w:gw):List Tn->List Nd->Prop
 |[],[]=>True
 |t::ts,n::ns=>jI w t n/\qH w ts ns
 |_,_=>False
end
theorem qH.len:∀{d:List Tn} {a:List Nd},qH w d a->d.length=a.length
 |[],[],_=>rfl
 |_::_,_::_,h=>by unfold qH at h;simp[qH.len h.2]
 |[],_::_,h=>by unfold qH at h;grind
 |_::_,[],h=>by unfold qH at h;grind
theorem qH.get:∀{d:List Tn} {a:List Nd} (_:qH w d a) (k:Nat) (e:k < d.length) (g:k < a.length),jI w d[k] a[k]
 |[],_,_,_,e,_=>by grind
 |_::_,[],h,_,_,_=>by grind
 |_::_,_::_,h,0,_,_=>by unfold qH at h;exact h.1
 |_::_,_::_,h,k+1,e,g=>by
  unfold qH at h;exact qH.get h.2 k (by grind) (by grind)
def Cb (vd:gz->Bool):∀(a b:List Tn),ve vd (a++b)=ve vd a++ve vd b
 |[],b=>by rfl
 |t::a,b=>by simp[ve,Cb vd a b]
def aaF (vd:gz->Bool) (t:Tn):ve vd [t]=C9 vd t:=by simp[ve]
def TH (T:TypeId) (x:gP) (m:String) (args:jO) (w0:gw) (tot:List Ev) (J:List Ev->gw->Prop) (a:Ev) (r:gP):Prop:=
 ∃f y,(∀w,(Go.method 489 T x m).run prog w= .ok (f,y) w)/\(∀w,(nilAhead 489 T x m).run prog w= .ok (some false) w)/\(∀args w,(callFunc f args).run prog w= .ok (.enter f args) w)/\
  ∀pre W,Kept [] w0 W->J pre W->pre++[a] <+:tot->Calls prog f (#[y]++args) W λe W'=>e=ir r/\J (pre++[a]) W'/\Kept [] w0 W'
structure Vis (T:TypeId) (x:gP) (vd:gz->Bool) (tot:List Ev) (w0:gw) (J:List Ev->gw->Prop):Prop where
 mono:∀pre W W',J pre W->Kept [] W W'->J pre W'
 dt:∀s,TH T x "Doctype" #[gI s] w0 tot J (.dt s) (.tuple #[])
 cm:∀s,TH T x "Comment" #[gI s] w0 tot J (.cm s) (.tuple #[])
 tx:∀s,TH T x "Text" #[gI s] w0 tot J (.tx s) (.tuple #[])
 wm:∀s,TH T x "Leave" #[gI s] w0 tot J (.wm s) (.tuple #[])
 enter:∃f y,(∀w,(Go.method 489 T x "Enter").run prog w= .ok (f,y) w)/\(∀w,(nilAhead 489 T x "Enter").run prog w= .ok (some false) w)/\(∀args w,(callFunc f args).run prog w= .ok (.enter f args) w)/\
  ∀pre W s av gM,Kept [] w0 W->J pre W->pre++[.enter s gM] <+:tot->vq W av gM->gM.length<=4096->Calls prog f #[y,gI s,av] W λe W'=>(∃b,e=ir (.bool b)/\(b=(!vd s)\/b=false/\∀p,J p W'))/\J (pre++[.enter s gM]) W'/\Kept [] w0 W'
theorem aeX (V:Vis T x vd tot w0 J) (k:Nat) (s:gz) (pre:List Ev) (W:gw) (m:Kept [] w0 W) (j:J pre W) (u:pre++[.tx s] <+:tot) (p:W.heap[k]?=some (gJ #[gI s] 260)):
  Calls prog 422 #[gL k,.iface T x] W λe W'=>e=p8/\J (pre++[.tx s]) W'/\Kept [] w0 W':=by
 have r:∀(d:Fn) (first a:jO) (w:gw),(Instr.makeFunc d first a).run prog w= .ok (.func d first a) w:=λ_ _ _ _=>rfl;have⟨f,y,hm,hna,hcf,hc⟩:=V.tx s;have C:=(λq=>hc pre (W.drewN q) (m.drewN q) (V.mono _ _ _ j ((Kept.refl _ _).drewN q)) u);have g:=fX p 0;dsimp at g;generalize hJJ:J (pre++[.tx s])=z at C|-;go_enter func422,ntmps422
 go_wp21
 go_region_with (refine(C _).mono ?_;rintro e A ⟨rfl,B,D⟩)
 all_goals (try go_wp2)
 all_goals (go_end0;grind)
theorem XT (V:Vis T x vd tot w0 J) (k:Nat) (s:gz) (pre:List Ev) (W:gw) (m:Kept [] w0 W) (j:J pre W) (u:pre++[.cm s] <+:tot) (p:W.heap[k]?=some (gJ #[gI s] 218)):
  Calls prog 420 #[gL k,.iface T x] W λe W'=>e=p8/\J (pre++[.cm s]) W'/\Kept [] w0 W':=by
 have r:∀(d:Fn) (first a:jO) (w:gw),(Instr.makeFunc d first a).run prog w= .ok (.func d first a) w:=λ_ _ _ _=>rfl;have⟨f,y,hm,hna,hcf,hc⟩:=V.cm s;have C:=(λq=>hc pre (W.drewN q) (m.drewN q) (V.mono _ _ _ j ((Kept.refl _ _).drewN q)) u);have g:=fX p 0;dsimp at g;generalize hJJ:J (pre++[.cm s])=z at C|-;go_enter func420,ntmps420
 go_wp21
 go_region_with (refine(C _).mono ?_;rintro e A ⟨rfl,B,D⟩)
 all_goals (try go_wp2)
 all_goals (go_end0;grind)
theorem XY (V:Vis T x vd tot w0 J) (k:Nat) (s:gz) (pre:List Ev) (W:gw) (m:Kept [] w0 W) (j:J pre W) (u:pre++[.dt s] <+:tot) (p:W.heap[k]?=some (gJ #[gI s] 222)):
  Calls prog 421 #[gL k,.iface T x] W λe W'=>e=p8/\J (pre++[.dt s]) W'/\Kept [] w0 W':=by
 have r:∀(d:Fn) (first a:jO) (w:gw),(Instr.makeFunc d first a).run prog w= .ok (.func d first a) w:=λ_ _ _ _=>rfl;have⟨f,y,hm,hna,hcf,hc⟩:=V.dt s;have C:=(λq=>hc pre (W.drewN q) (m.drewN q) (V.mono _ _ _ j ((Kept.refl _ _).drewN q)) u);have g:=fX p 0;dsimp at g;generalize hJJ:J (pre++[.dt s])=z at C|-;go_enter func421,ntmps421
 go_wp21
 go_region_with (refine(C _).mono ?_;rintro e A ⟨rfl,B,D⟩)
 all_goals (try go_wp2)
 all_goals (go_end0;grind)
def Yw:(prog.info? 275).map (λi=>(i.zero,i.size,i.bytes))=some (some (.agg #[gI kJ,gI kJ]),2,32):=by kernel_rfl
theorem Nj (L:kY):(IA L).length=L.length*2:=by
 induction L with
 |nil=>rfl
 |cons a L ih=>grind
theorem ac3 (v:gP) (L:kY) (w:gw) (k:vq w v L) (hL:L.length<=4096):
  Calls prog 398 #[v] w λe w'=>∃d,e=ir d/\vq w' d L/\Kept [] w w':=by
 obtain⟨i0,Y,B,C,D⟩:=vp Yw;rcases k.2 with⟨rfl,S⟩|⟨g,a,R,rfl,U,X,_⟩
 .have hn:=λw=>Lib.run_eql_slice_nil (P:=prog) w 139 275 none 0 0 0 0 underlying139;have:L=[]:=Xa S;subst this;clear k;go_enter func398,ntmps398;go_wp2;go_ret;exact⟨_,rfl,oY _ _ _ _,Kept.refl _ _⟩
 .have hn:=λw=>Lib.run_eql_slice_nil (P:=prog) w 139 275 (some ⟨g,0,none⟩) L.length a 0 0 underlying139;have Q:=fW k;have y:=jn X;have G:(w.alloc (.cells #[] 275)).ownsRow w.heap.size 275 2 (rh w.heap.size 0 0) 0 []:=
   ⟨rfl,.inr ⟨w.heap.size,0,#[],rfl,ij _,fZ w _,ij _,iP _,rfl,rfl⟩⟩
  clear k;go_enter func398,ntmps398;go_wp2_with (at_builtin;refine iL _ rfl _ _ 139 rfl w.heap.size 275 i0 (.agg #[gI kJ,gI kJ]) 2 32 underlying139 Y B C D rfl (by decide) _ _ _ rfl G ⟨g,0,none⟩ L.length a (IA L) rfl ?c1 ?c2 ?c3 ?c4 ?c5 ?c6 ?_)
  case c1=>exact Nj L
  case c2=>
   intro j u Z;have:=Q.cells (g:=g) rfl j u Z;rw[jq]at this|-;rw[<-this];exact mX _ _ _ y
  case c3=>
   intro u A;unfold IA at A;simp at A;obtain⟨p,q,_,h|h⟩:=A<;>(subst h;rfl)
  case c4=>omega
  case c5=>omega
  case c6=>simp
  intro d F z m V;have K:F.ownsRow w.heap.size 275 2 d L.length (IA L):=by simpa using z
  have N:vq F d L:=by
   refine⟨K.1,?_⟩;rcases K.2 with e|⟨g1,H,I,e,_,r⟩
   .exact .inl e
   .grind
  have O:Hid (Kept [] w F):=((Kept.refl [] w).alloc _).grown m (λx hx=> .inr (G.lt x hx).1);go_wp2;go_ret;exact⟨_,rfl,N,O⟩
theorem vq.kept (h:vq w v gM) (m:Kept [] w w'):vq w' v gM:=by
 refine⟨h.1,?_⟩;rcases h.2 with e|⟨g,a,d,e,j,k,r⟩
 .grind
 .exact .inr ⟨g,a,d,e,j,m.at k (by simp),r⟩
theorem El.im {k : Nat} {a : gz} {p : gP} {d : jg} {kv : gP} {ns:List Nd} (h:El 0 w k a p d kv ns) (q:Kept [] w w'):El 0 w' k a p d kv ns:=by
 refine⟨q.at h.iw (by simp),⟨h.row.1,?_⟩,h.le,h.TM⟩;rcases h.row.2 with e|⟨g,j,m,e,u,y,r⟩
 .grind
 .exact .inr ⟨g,j,m,e,u,q.at y (by simp),r⟩
mutual
theorem jI.kept (a:Kept [] w w'):∀{t:Tn} {n:Nd},jI w t n->jI w' t n
 | .el name gM ks,.el k,h=>by
  unfold jI at h|-;have⟨av,je,kv,ns,h1,h2,h3,h4⟩:=h;exact⟨av,je,kv,ns,h1.im a,h2.kept a,h3,qH.kept a h4⟩
 | .tx _,.tx _,h=>by unfold jI at h|-;exact a.at h (by simp)
 | .cm _,.cm _,h=>by unfold jI at h|-;exact a.at h (by simp)
 | .dt _,.dt _,h=>by unfold jI at h|-;exact a.at h (by simp)
 | .el _ _ _,.tx _,h=>by grind[jI]
 | .el _ _ _,.cm _,h=>by grind[jI]
 | .el _ _ _,.dt _,h=>by grind[jI]
 | .tx _,.el _,h=>by grind[jI]
 | .tx _,.cm _,h=>by grind[jI]
 | .tx _,.dt _,h=>by grind[jI]
 | .cm _,.el _,h=>by grind[jI]
 | .cm _,.tx _,h=>by grind[jI]
 | .cm _,.dt _,h=>by grind[jI]
 | .dt _,.el _,h=>by grind[jI]
 | .dt _,.tx _,h=>by grind[jI]
 | .dt _,.cm _,h=>by grind[jI]
theorem qH.kept (e:Kept [] w w'):∀{d:List Tn} {a:List Nd},qH w d a->qH w' d a
 |[],[],_=>by simp[qH]
 |t::d,n::a,h=>by
  unfold qH at h|-;exact⟨jI.kept e h.1,qH.kept e h.2⟩
 |[],_::_,h=>by grind[qH]
 |_::_,[],h=>by grind[qH]
end
section
variable {T:TypeId} {x:gP} {vd:gz->Bool} {tot:List Ev} {w0:gw} {J:List Ev->gw->Prop}
def zn:Nd->Nat
 | .el _=>397
 | .tx _=>422
 | .cm _=>420
 | .dt _=>421
def Nd.bk:Nd->Nat
 | .el k=>k
 | .tx k=>k
 | .cm k=>k
 | .dt k=>k
def GK (T:TypeId) (x:gP) (vd:gz->Bool) (tot:List Ev) (w0:gw) (J:List Ev->gw->Prop) (t:Tn) (n:Nd):Prop:=
 ∀pre W,Kept [] w0 W->J pre W->pre++C9 vd t <+:tot->
  Calls prog (zn n) #[gL n.bk,.iface T x] W λe W'=>e=p8/\J (pre++C9 vd t) W'/\Kept [] w0 W'
def L7 (n:Nd) (w:gw):∃t y,n.val= .iface t y/\y=gL n.bk/\(∀w,(Go.method 489 t y "Visit").run prog w= .ok (zn n,y) w):=by
 cases n with
 |el k=>exact⟨_,_,rfl,rfl,λw=>by kernel_rfl⟩
 |tx k=>exact⟨_,_,rfl,rfl,λw=>by kernel_rfl⟩
 |cm k=>exact⟨_,_,rfl,rfl,λw=>by kernel_rfl⟩
 |dt k=>exact⟨_,_,rfl,rfl,λw=>by kernel_rfl⟩
def V9 (n:Nd):∀a w,(callFunc (zn n) a).run prog w= .ok (.enter (zn n) a) w:=by
 cases n with
 |el k=>simp[zn]
 |tx k=>simp[zn]
 |cm k=>simp[zn]
 |dt k=>simp[zn]
theorem SV {a b c:List Ev} (h:a++(b++c) <+:tot):a++b <+:tot:=by
 have⟨r,hr⟩:=h
 grind
theorem FL (V:Vis T x vd tot w0 J) (k:Nat) (r:gz) (av:gP) (H:jg) (kv:gP) (a:List Tn) (ns:List Nd) (R:a.length=ns.length)
  (q:El 0 w0 k r av H kv ns) (hv:∀i (A:i < a.length) (u:i < ns.length),GK T x vd tot w0 J a[i] ns[i]) (pre:List Ev) (W:gw) (Q:Kept [] w0 W) (hJ:J pre W) (hp:pre++ve vd a <+:tot):
  Calls prog 42 #[gL k,.iface T x] W λe W'=>e=p8/\J (pre++ve vd a) W'/\Kept [] w0 W':=by
 have O:=fX ((q.im Q).iw) 3;dsimp at O;have D:=q.le;have⟨ao,cap,hkv⟩:=gH q.row;have I:=fW q;have X:=hv;have U:=hp;have HJ:=hJ;have HK:=Q;have K:=fW R;obtain⟨n,G⟩:∃n,n=ns.length:=⟨_,rfl⟩;have N:=fW G;subst hkv;rw[<-G]at O D;clear q R G;go_enter func42,ntmps42
 go_wp21
 go_loopw [11] (λv wr=>∃i:Nat,v=gp i/\i<=n/\J (pre++ve vd (a.take i)) wr/\Kept [] w0 wr) (λv _=>n - (intOf v).toNat)
 case atStart=>grind[ve]
 case round=>
  obtain⟨i,rfl,hi,m,d⟩:=hrel
  by_cases F:i < n
  .have u:i < ns.length:=by rw[<-N.out];exact F
   have A:i < a.length:=by rw[K.out];exact u
   have⟨t,y,hval,hy,hm⟩:=L7 ns[i] wr;have a1:=V9 ns[i];obtain⟨g,B⟩:∃g,ao=some ⟨g,0,none⟩:=by
    rcases I.row.2 with⟨e,h0⟩|⟨g,P,a0,e,_⟩
    all_goals grind
   subst B;have hc:wr.cell? ⟨g,i,none⟩=some (.iface t y):=by
    have:=(I.im d).row.cells (g:=g) rfl i ns[i].val (by simp[u]);rw[jq]at this;rw[<-hval]
    simpa using this
   have j:ve vd (a.take (i+1))=ve vd (a.take i)++C9 vd a[i]:=by
    rw[Kk,rq A,Cb];simp[aaF]
   have S:pre++ve vd (a.take (i+1)) <+:tot:=by
    refine SV (c:=ve vd (a.drop (i+1))) ?_;rw[<-Cb,Gt];exact U
   have C:=X i A u _ wr d m (by grind);rw[BI,<-j]at C;rw[hy]at hc hm;generalize zn ns[i]=fv at *;generalize ns[i].bk=kb at *;generalize hZ:J (pre++ve vd (a.take (i+1)))=Z at C;have Y:=fW hZ;clear hZ
   go_wp21
   refine C.mono ?_;rintro e W2 ⟨rfl,z,p⟩;go_wp2;go_roundw
   case rel=>exact⟨i+1,by go_num,by omega,by rw[Y.out];exact z,p⟩
   case measure=>simp[intOf];omega
  .have he:a.take i=a:=Kl (by rw[K.out,<-N.out];omega);rw[he]at m;have p:=d;go_wp2;go_end0
   grind
def X0 (V:Vis T x vd tot w0 J) (k:Nat) (a:gz) (gM:kY) (av:gP) (a1:jg) (kv:gP) (j:List Tn) (ns:List Nd) (hl:j.length=ns.length)
  (Q:El 0 w0 k a av a1 kv ns) (hA:vq w0 av gM) (C:gM.length<=4096) (hv:∀i (h1:i < j.length) (h2:i < ns.length),GK T x vd tot w0 J j[i] ns[i]):GK T x vd tot w0 J (.el a gM j) (.el k):=by
 intro pre W u hJ hp;show Calls prog 397 #[gL k,.iface T x] W _;have ac:∀(fn:Fn) (first P:jO) (w:gw),(Instr.makeFunc fn first P).run prog w= .ok (.func fn first P) w:=λ_ _ _ _=>rfl;have c0:=fX ((Q.im u).iw) 0;have c1:=fX ((Q.im u).iw) 1;dsimp at c0 c1;have Y:pre++[.enter a gM] <+:tot:=by
  unfold C9 at hp;exact SV (b:=[.enter a gM]) (by simpa using hp)
 obtain⟨f,y,hm,X,U,S⟩:=V.enter;have C1:=fW (λq=>ac3 av gM (W.drewN q) ((hA.kept u).kept ((Kept.refl _ _).drewN q)) C);have C2:=fW (λq N v1 (D:Kept [] (W.drewN q) N) (ha:vq N v1 gM)=>S pre N a v1 gM ((u.drewN q).trans D) (V.mono _ _ _ hJ (((Kept.refl _ _).drewN q).trans D)) Y ha C);obtain⟨ao,n,cp,a6⟩:=Q.TM;subst a6;have HV:=fW V;have HE:=fW Q;have HW:=fW hv;have HP:=fW hp;have HL:=fW hl;have a5:=fW u;clear S V u hJ hp Y hA C Q hv hl;go_enter func397,ntmps397;go_wp2_with fail
 go_cut [17]from 4 to 16 (λr wc=>(∃b,r= .bool b/\(b=(!vd a)\/b=false/\∀p,J p wc))/\J (pre++[.enter a gM]) wc/\Kept [] w0 wc)
 case first=>
  go_region_with (first
   |(go_at_call 398;refine(C1.out _).mono ?_;rintro e N ⟨v1,rfl,B,F⟩;obtain⟨aa,ab,a9⟩:=gH B;subst a9;have a2:=fW B;have a4:=fW F;have c2:N.cell? ⟨k,0,none⟩=some (gI a):=(by rw[fX (HE.out.im ((a5.out.drewN _).trans F)).iw];rfl);clear B F)
   |(refine(C2.out _ _ _ a4.out a2.out).mono ?_;rintro e O ⟨⟨bb,rfl,R⟩,g,d⟩;have a3:=fW R;have z:=fW g;have A:=fW d;clear R g d))
  all_goals (try (go_wp2_with fail))
  all_goals (go_meet;exact⟨⟨bb,rfl,a3.out⟩,z.out,A.out⟩)
 case rest=>
  obtain⟨⟨bb,rfl,m⟩,I,D⟩:=hcut;clear C1 C2 hm X U c0 c1;cases bb with
  |false=>
   replace I:J (pre++C9 vd (.el a gM j)) wc:=by
    rcases m with m|⟨_,m⟩
    .have G:vd a=true:=by
      cases h:vd a
      .rw[h]at m;cases m
      .rfl
     have H:pre++C9 vd (.el a gM j)=pre++[.enter a gM]:=by simp[C9,G]
     rw[H];exact I
    .exact m _
   clear m;have HJ:=fW I;have HK:=fW D;clear I D;rename_i K u;refine u _ _ ?_;clear u;go_wp2;go_end0;exact⟨rfl,HJ.out,HK.out⟩
  |true=>
   have G:vd a=false:=by
    rcases m with m|⟨m,_⟩
    .cases h:vd a
     .rfl
     .rw[h]at m;cases m
    .cases m
   clear m;have H:C9 vd (.el a gM j)= .enter a gM::(ve vd j++[.wm a]):=by simp[C9,G]
   have Z:(pre++[.enter a gM])++ve vd j <+:tot:=SV (c:=[.wm a]) (by have:=HP.out;rw[H]at this;simpa using this);have a0:(pre++[.enter a gM]++ve vd j)++[.wm a] <+:tot:=by have:=HP.out;rw[H]at this;simpa using this
   have e3:pre++C9 vd (.el a gM j)=(pre++[.enter a gM]++ve vd j)++[.wm a]:=by rw[H];simp
   have C3:=fW (FL HV.out k a _ a1 kv j ns HL.out HE.out HW.out _ wc D I Z);obtain⟨f,y,hm,X,U,S⟩:=HV.out.wm a;have C4:=fW (λq O (d:Kept [] w0 O) (g:J (pre++[.enter a gM]++ve vd j) O)=>S _ (O.drewN q) (d.drewN q) (HV.out.mono _ _ _ g ((Kept.refl _ _).drewN q)) a0);rw[<-e3]at C4;clear Z a0 H e3 I D S;generalize hJJ:J (pre++[.enter a gM]++ve vd j)=J1 at C3 C4;clear hJJ;rename_i K u;refine u _ _ ?_;clear u;go_wp2_with fail;refine C3.out.mono ?_;rintro e O ⟨rfl,g,d⟩;have c0:=fX ((HE.out.im d).iw) 0;dsimp at c0;have z:=fW g;have A:=fW d;clear g d;go_wp2_with fail
   go_region_with (refine(C4.out _ _ A.out z.out).mono ?_;rintro e W3 ⟨rfl,a7,a8⟩)
   all_goals (try go_wp2)
   all_goals (go_end0;exact⟨rfl,a7,a8⟩)
end
section
variable {T:TypeId} {x:gP} {vd:gz->Bool} {tot:List Ev} {w0:gw} {J:List Ev->gw->Prop}
theorem Rp (V:Vis T x vd tot w0 J):∀(t:Tn) (n:Nd),jI w0 t n->GK T x vd tot w0 J t n
 | .el name gM ks,.el k,h=>by
  unfold jI at h;have⟨av,je,kv,ns,h1,h2,h3,h4⟩:=h;exact X0 V k name gM av je kv ks ns h4.len h1 h2 h3 (λi g j=>Rp V ks[i] ns[i] (h4.get i g j))
 | .tx s,.tx k,h=>by
  unfold jI at h;intro pre W a e d;unfold C9 at d|-;exact aeX V k s pre W a e d (a.at h (by simp))
 | .cm s,.cm k,h=>by
  unfold jI at h;intro pre W a e d;unfold C9 at d|-;exact XT V k s pre W a e d (a.at h (by simp))
 | .dt s,.dt k,h=>by
  unfold jI at h;intro pre W a e d;unfold C9 at d|-;exact XY V k s pre W a e d (a.at h (by simp))
 | .el _ _ _,.tx _,h=>by unfold jI at h;grind
 | .el _ _ _,.cm _,h=>by unfold jI at h;grind
 | .el _ _ _,.dt _,h=>by unfold jI at h;grind
 | .tx _,.el _,h=>by unfold jI at h;grind
 | .tx _,.cm _,h=>by unfold jI at h;grind
 | .tx _,.dt _,h=>by unfold jI at h;grind
 | .cm _,.el _,h=>by unfold jI at h;grind
 | .cm _,.tx _,h=>by unfold jI at h;grind
 | .cm _,.dt _,h=>by unfold jI at h;grind
 | .dt _,.el _,h=>by unfold jI at h;grind
 | .dt _,.tx _,h=>by unfold jI at h;grind
 | .dt _,.cm _,h=>by unfold jI at h;grind
  termination_by t=>SizeOf.sizeOf t
  decreasing_by
 have:=List.sizeOf_lt_of_mem (uP g)
 grind
theorem Fo (V:Vis T x vd tot w0 J) (k:Nat) (a:gz) (gM:kY) (d:List Tn) (h:jI w0 (.el a gM d) (.el k)) (m:ve vd d=tot) (W:gw) (j:Kept [] w0 W) (g:J [] W):
  Calls prog 42 #[gL k,.iface T x] W λe W'=>e=p8/\J tot W'/\Kept [] w0 W':=by
 unfold jI at h;have⟨av,je,kv,ns,h1,h2,h3,h4⟩:=h;have:=FL V k a av je kv d ns h4.len h1 (λi p q=>Rp V d[i] ns[i] (h4.get i p q)) [] W j g (by grind)
 rwa [rQ,m]at this
end
attribute [local go_sem] Oper.semAt_some
structure It where
 k:Int
 s:gz
 t:gz
abbrev It.val (x:It):gP:= .agg #[gp x.k,gI x.s,gI x.t]
def qQ:Ev->List It
 | .dt s=>[⟨1,s,⟨#[]⟩⟩]
 | .cm s=>[⟨2,s,⟨#[]⟩⟩]
 | .tx s=>[⟨3,s,⟨#[]⟩⟩]
 | .enter s gM=>⟨4,s,⟨#[]⟩⟩::gM.map λa=>⟨5,a.1,a.2⟩
 | .wm s=>[⟨6,s,⟨#[]⟩⟩]
def jJ (a:List Ev):List It:=a.flatMap qQ
def Wk (w:gw) (b l:Nat) (d:Bool):Prop:=w.heap[b]?=some (gJ #[.func (.yield l) #[] #[],.bool d] 110)
theorem pA {c : jO} {t : TypeId} {m : Nat×Nat} (h:w.heap[b]?=some (.cells c t m)) (j:Nat) (v:gP) (d:c[j]?=some v):w.setCell ⟨b,j,none⟩ v=w:=by
 have⟨hlt,hb⟩:=Array.getElem?_eq_some_iff.1 h;have g:c.setIfInBounds j v=c:=by
  apply Array.ext
  .simp
  .grind
 have e:∀f:Obj->Obj,f (.cells c t m)= .cells c t m->w.heap.modify b f=w.heap:=by
  intro f a;apply Array.ext
  .simp
  .grind
 unfold World.setCell
 simp_all
def KW (W W':gw):Prop:=∀(k:Nat) (c:jO) (t:TypeId),W.heap[k]?=some (gJ c t)->t∈[110,275]->W'.heap[k]?=some (gJ c t)
def KW.wk (h:KW W W') {d : Bool} (hw:Wk W b l d):Wk W' b l d:=h b _ _ hw (by decide)
theorem KW.atr (h:KW W W') (j:vq W v gM):vq W' v gM:=by
 refine⟨j.1,?_⟩;rcases j.2 with e|⟨g,a,d,e,k,m,r⟩
 .grind
 .exact .inr ⟨g,a,d,e,k,h g _ _ m (by decide),r⟩
def Wk.atr {d : Bool} (h:Wk W b l d) (x:gP) (m:vq W v gM):vq (W.setCell ⟨b,1,none⟩ x) v gM:=by
 refine⟨m.1,?_⟩;rcases m.2 with e|⟨g,a,j,e,p,k,r⟩
 .exact .inl e
 .refine .inr ⟨g,a,j,e,p,((Kept.refl [b] W).setCell (.inl (by simp)) _).at k ?_,r⟩;intro q;have e:=List.mem_singleton.1 q;subst e;rw[show W.heap[g]?=_ from h]at k;simp at k
def Xl (l:Nat) (tot:List It) (w0:gw) (J:List It->gw->Prop) (JE:gw->Prop):Prop:=∀pre x W,Kept [] w0 W->J pre W->pre++[x] <+:tot->YieldAt Fence.wide 3 prog l #[It.val x] W λe W'=>(e=ir (.bool true)/\J (pre++[x]) W'\/e=ir (.bool false)/\JE W')/\Kept [] w0 W'/\KW W W'
def JW (l b:Nat) (J:List It->gw->Prop) (JE:gw->Prop) (pre:List It) (W:gw):Prop:=(J pre W/\Wk W b l false)\/(JE W/\Wk W b l true)
def JW.mono {J : List It->gw->Prop} {JE : gw->Prop} (e:∀pre W W',J pre W->Kept [] W W'->J pre W') (d:∀W W',JE W->Kept [] W W'->JE W') {pre : List It} (h:JW l b J JE pre W) (a:Kept [] W W'):JW l b J JE pre W':=by
 rcases h with⟨h,k⟩|⟨h,k⟩
 .exact .inl ⟨e _ _ _ h a,a.at k (by simp)⟩
 .exact .inr ⟨d _ _ h a,a.at k (by simp)⟩
section
variable {l b:Nat} {tot:List It} {w0:gw} {J:List It->gw->Prop} {JE:gw->Prop}
def Bb (B:Xl l tot w0 J JE) (C:w0.heap.size<=b) (q:∀V,Wk V b l false->JE V->JE (V.setCell ⟨b,1,none⟩ (.bool true))) (pre:List It) (x:It) (W:gw) (y:Kept [] w0 W) (p:JW l b J JE pre W) (F:pre++[x] <+:tot):
  Calls prog 407 #[gL b,gp x.k,gI x.s,gI x.t] W λe W'=>e=p8/\(JW l b J JE (pre++[x]) W'/\Kept [] w0 W')/\∀v gM,vq W v gM->vq W' v gM:=by
 refine(wI (n:=4)).1 ?_;rcases p with⟨p,j⟩|⟨p,j⟩
 .have P:=fX j 0;have z:=fX j 1;dsimp at P z;obtain⟨S,I,assign,body,R,H⟩:=B pre x W y p F;have O:=fW H;dsimp only[It.val]at R;have D:=jn j;have G:=fW j;have N:=fW q;have K:=fW C;clear H B y p F j q C;obtain⟨k,s,t⟩:=x;refine callsIn_of_wp func407 rfl trivial ?_ rfl;simp only[ntmps407,wK,qd,uQ,Nat.reduceAdd,Nat.reduceSub,wL,wM,wN,wO,rQ,uR];gi_wp2;refine O.out.mono ?_;rintro e r ⟨⟨rfl,g⟩|⟨rfl,g⟩,m,d⟩
  .have a:=d.wk G.out;have A:=fX a 1;have Q:=gG a 1;dsimp at A;have HS:=fW (pA a 1 (.bool false) rfl);have u:=fW (show(JW l b J JE (pre++[⟨k,s,t⟩]) r/\Kept [] w0 r)/\∀v gM,vq W v gM->vq r v gM from⟨⟨.inl ⟨g,a⟩,m⟩,λ_ _ h=>d.atr h⟩);clear g m d a;gi_wp2;go_end0;rw[HS.out];exact⟨rfl,u.out⟩
  .have a:=d.wk G.out;have A:=fX a 1;have Q:=gG a 1;dsimp at A;have u:=fW (show(JW l b J JE (pre++[⟨k,s,t⟩]) (r.setCell ⟨b,1,none⟩ (.bool true))/\Kept [] w0 (r.setCell ⟨b,1,none⟩ (.bool true)))/\∀v gM,vq W v gM->vq (r.setCell ⟨b,1,none⟩ (.bool true)) v gM from⟨⟨.inr ⟨N.out _ a g,gh a 1 _⟩,m.setCell (.inr K.out) _⟩,λ_ _ h=>a.atr _ (d.atr h)⟩);clear g m d a;gi_wp2;go_end0;exact⟨rfl,u.out⟩
 .have z:=fX j 1;dsimp at z;have D:=jn j;have u:=fW (show(JW l b J JE (pre++[x]) W/\Kept [] w0 W)/\∀v gM,vq W v gM->vq W v gM from⟨⟨.inr ⟨p,j⟩,y⟩,λ_ _ h=>h⟩);clear B y p F j q C;refine callsIn_of_wp func407 rfl trivial ?_ rfl;simp only[ntmps407,wK,qd,uQ,Nat.reduceAdd,Nat.reduceSub,wL,wM,wN,wO,rQ,uR];gi_wp2;go_end0;exact⟨rfl,u.out⟩
def wdt (j:Xl l tot w0 J JE) (k:w0.heap.size<=b) (a:∀V,Wk V b l false->JE V->JE (V.setCell ⟨b,1,none⟩ (.bool true))) (s:gz) (pre:List It) (W:gw) (g:Kept [] w0 W) (d:JW l b J JE pre W) (p:pre++[⟨1,s,⟨#[]⟩⟩] <+:tot):
  Calls prog 433 #[gL b,gI s] W λe W'=>e=p8/\JW l b J JE (pre++[⟨1,s,⟨#[]⟩⟩]) W'/\Kept [] w0 W':=by
 have C:=fW (Bb j k a pre ⟨1,s,⟨#[]⟩⟩ W g d p);clear j g d p k a;generalize JW l b J JE (pre++[⟨1,s,⟨#[]⟩⟩])=r at C|-;go_enter func433,ntmps433;go_wp2_with fail;refine C.out.mono ?_;rintro e u ⟨rfl,m,_⟩;have q:=fW m;clear m;go_wp2;go_end0;exact⟨rfl,q.out⟩
def wcm (j:Xl l tot w0 J JE) (k:w0.heap.size<=b) (a:∀V,Wk V b l false->JE V->JE (V.setCell ⟨b,1,none⟩ (.bool true))) (s:gz) (pre:List It) (W:gw) (g:Kept [] w0 W) (d:JW l b J JE pre W) (p:pre++[⟨2,s,⟨#[]⟩⟩] <+:tot):
  Calls prog 404 #[gL b,gI s] W λe W'=>e=p8/\JW l b J JE (pre++[⟨2,s,⟨#[]⟩⟩]) W'/\Kept [] w0 W':=by
 have C:=fW (Bb j k a pre ⟨2,s,⟨#[]⟩⟩ W g d p);clear j g d p k a;generalize JW l b J JE (pre++[⟨2,s,⟨#[]⟩⟩])=r at C|-;go_enter func404,ntmps404;go_wp2_with fail;refine C.out.mono ?_;rintro e u ⟨rfl,m,_⟩;have q:=fW m;clear m;go_wp2;go_end0;exact⟨rfl,q.out⟩
def wtx (j:Xl l tot w0 J JE) (k:w0.heap.size<=b) (a:∀V,Wk V b l false->JE V->JE (V.setCell ⟨b,1,none⟩ (.bool true))) (s:gz) (pre:List It) (W:gw) (g:Kept [] w0 W) (d:JW l b J JE pre W) (p:pre++[⟨3,s,⟨#[]⟩⟩] <+:tot):
  Calls prog 434 #[gL b,gI s] W λe W'=>e=p8/\JW l b J JE (pre++[⟨3,s,⟨#[]⟩⟩]) W'/\Kept [] w0 W':=by
 have C:=fW (Bb j k a pre ⟨3,s,⟨#[]⟩⟩ W g d p);clear j g d p k a;generalize JW l b J JE (pre++[⟨3,s,⟨#[]⟩⟩])=r at C|-;go_enter func434,ntmps434;go_wp2_with fail;refine C.out.mono ?_;rintro e u ⟨rfl,m,_⟩;have q:=fW m;clear m;go_wp2;go_end0;exact⟨rfl,q.out⟩
def wlv (j:Xl l tot w0 J JE) (k:w0.heap.size<=b) (a:∀V,Wk V b l false->JE V->JE (V.setCell ⟨b,1,none⟩ (.bool true))) (s:gz) (pre:List It) (W:gw) (g:Kept [] w0 W) (d:JW l b J JE pre W) (p:pre++[⟨6,s,⟨#[]⟩⟩] <+:tot):
  Calls prog 406 #[gL b,gI s] W λe W'=>e=p8/\JW l b J JE (pre++[⟨6,s,⟨#[]⟩⟩]) W'/\Kept [] w0 W':=by
 have C:=fW (Bb j k a pre ⟨6,s,⟨#[]⟩⟩ W g d p);clear j g d p k a;generalize JW l b J JE (pre++[⟨6,s,⟨#[]⟩⟩])=r at C|-;go_enter func406,ntmps406;go_wp2_with fail;refine C.out.mono ?_;rintro e u ⟨rfl,m,_⟩;have q:=fW m;clear m;go_wp2;go_end0;exact⟨rfl,q.out⟩
def Bv (a b:List Ev):jJ (a++b)=jJ a++jJ b:=List.flatMap_append ..
def wj {a b:List Ev} (h:a <+:b):jJ a <+:jJ b:=by
 obtain⟨r,rfl⟩:=h;simp[jJ]
theorem LR (L:kY) (i:Nat) (h:i < L.length):(IA L)[i*2]?=some (gI L[i].1)/\(IA L)[i*2+1]?=some (gI L[i].2):=by
 induction L generalizing i with
 |nil=>simp at h
 |cons a L ih=>
  cases i with
  |zero=>simp
  |succ i=>
   grind
def wen (hY:Xl l tot w0 J JE) (hb:w0.heap.size<=b) (z:∀V,Wk V b l false->JE V->JE (V.setCell ⟨b,1,none⟩ (.bool true))) (hm:∀pre W W',J pre W->Kept [] W W'->J pre W') (G:∀W W',JE W->Kept [] W W'->JE W') (s:gz) (av:gP) (gM:kY) (pre:List It) (W:gw) (hK:Kept [] w0 W) (hJ:JW l b J JE pre W) (hp:pre++qQ (.enter s gM) <+:tot) (hA:vq W av gM) (a0:gM.length<=4096):
  Calls prog 405 #[gL b,gI s,av] W λe W'=>(∃d,e=ir (.bool d)/\(d=true\/d=false/\∀p,JW l b J JE p W'))/\JW l b J JE (pre++qQ (.enter s gM)) W'/\Kept [] w0 W':=by
 have H:pre++[(⟨4,s,⟨#[]⟩⟩:It)] <+:tot:=by
  obtain⟨r,hr⟩:=hp;exact⟨_,by rw[<-hr];simp[qQ];rfl⟩
 have C:=fW (Bb hY hb z pre ⟨4,s,⟨#[]⟩⟩ W hK hJ H);obtain⟨ao,Y,F⟩:=gH hA;have HA:=fW hA;have HP:=fW hp;have HY:=fW hY;have HM:=fW hm;have U:=fW G;have X:=fW z;have HB:=fW hb;obtain⟨n,hn⟩:∃n,n=gM.length:=⟨_,rfl⟩;rw[<-hn]at a0 F;have HN:=fW hn;subst F;clear hY hK hJ hp H hA hm hn hb z G;go_enter func405,ntmps405;go_wp2_with fail;refine C.out.mono ?_;rintro e W2 ⟨rfl,⟨j,m⟩,I⟩;have O:=fW (I _ _ HA.out);have R:=fW j;have S:=fW m;clear j m I C HA;go_wp2_with fail
 go_loopw [14] (λv wr=>∃i:Nat,v=gp i/\i<=n/\JW l b J JE (pre++(⟨4,s,⟨#[]⟩⟩::(gM.take i).map λa=>(⟨5,a.1,a.2⟩:It))) wr/\Kept [] w0 wr/\vq wr (.slice ao n Y) gM) (λv _=>n - (intOf v).toNat)
 case atStart=>exact⟨0,rfl,iP _,by simpa using R.out,S.out,O.out⟩
 case round=>
  obtain⟨i,rfl,hi,j,m,B⟩:=hrel
  by_cases a3:i < n
  .have Z:i < gM.length:=by rw[<-HN.out];exact a3
   obtain⟨g,a1⟩:∃g,ao=some ⟨g,0,none⟩:=by
    rcases B.2 with⟨e,h0⟩|⟨g,a4,a5,e,_⟩
    .omega
    .injection e with e1;exact⟨g,e1⟩
   subst a1;have a6:wr.cell? ⟨g,i*2,none⟩=some (gI gM[i].1):=by
    have:=B.cells (g:=g) rfl (i*2) _ (LR gM i Z).1;rw[jq]at this
    simpa using this
   have a7:wr.cell? ⟨g,i*2+1,none⟩=some (gI gM[i].2):=by
    have:=B.cells (g:=g) rfl (i*2+1) _ (LR gM i Z).2;rw[jq]at this
    simpa using this
   have k:(pre++(⟨4,s,⟨#[]⟩⟩::(gM.take i).map λa=>(⟨5,a.1,a.2⟩:It)))++[⟨5,gM[i].1,gM[i].2⟩]=pre++(⟨4,s,⟨#[]⟩⟩::(gM.take (i+1)).map λa=>(⟨5,a.1,a.2⟩:It)):=by
    have:(gM.take (i+1))=gM.take i++[gM[i]]:=by rw[Kk,rq Z];rfl
    rw[this,ru];simp only[BI,uR,yy,List.map_nil]
   have y:(pre++(⟨4,s,⟨#[]⟩⟩::(gM.take i).map λa=>(⟨5,a.1,a.2⟩:It)))++[⟨5,gM[i].1,gM[i].2⟩] <+:tot:=by
    rw[k];obtain⟨r,hr⟩:=HP.out;refine⟨((gM.drop (i+1)).map λa=>(⟨5,a.1,a.2⟩:It))++r,?_⟩;rw[<-hr];have e:=sI (List.map λa:gz×gz=>(⟨5,a.1,a.2⟩:It)) (Gt (i+1) gM);rw[ru]at e;show _=pre++(⟨4,s,⟨#[]⟩⟩::gM.map λa=>(⟨5,a.1,a.2⟩:It))++r;rw[<-e];simp only[BI,uR]
   have K:∀o,Kept [] wr (wr.alloc o):=λo=>(Kept.refl [] wr).alloc o;have N:=fW (λo=>Bb HY.out HB.out X.out _ ⟨5,gM[i].1,gM[i].2⟩ (wr.alloc o) (m.trans (K o)) (JW.mono HM.out U.out j (K o)) y);have D:=fW (λo=>B.kept (K o));simp only[k]at N;generalize gM[i].1=u1 at *;generalize gM[i].2=u2 at *;clear k y K j m B;go_wp2_with fail;refine(N.out _).mono ?_;rintro e W3 ⟨rfl,⟨j,m⟩,I⟩;have q:=fW j;have u:=fW m;have P:=fW (I _ _ (D.out _));clear j m I N D;go_wp2;go_roundw
   case rel=>exact⟨i+1,by go_num,by omega,q.out,u.out,P.out⟩
   case measure=>simp[intOf];omega
  .have he:gM.take i=gM:=Kl (by rw[<-HN.out];omega);rw[he]at j;have q:=fW j;have u:=fW m;clear m B he;rcases j with⟨j,hw⟩|⟨j,hw⟩
   .have A:=fX hw 1;dsimp at A;have a2:=jn hw;clear j hw;go_wp2;go_ret;exact⟨⟨_,rfl,.inl rfl⟩,q.out,u.out⟩
   .have A:=fX hw 1;dsimp at A;have a2:=jn hw;have Q:=fW (λp=>(show JW l b J JE p wr from .inr ⟨j,hw⟩));clear j hw;go_wp2;go_ret;exact⟨⟨_,rfl,.inr ⟨rfl,Q.out⟩⟩,q.out,u.out⟩
end
def Tv (l b:Nat) (tot:List Ev) (w0:gw) (J:List It->gw->Prop) (JE:gw->Prop) (r:Xl l (jJ tot) w0 J JE) (u:w0.heap.size<=b) (j:∀V,Wk V b l false->JE V->JE (V.setCell ⟨b,1,none⟩ (.bool true))) (B:∀pre W W',J pre W->Kept [] W W'->J pre W') (y:∀W W',JE W->Kept [] W W'->JE W'):
  Vis 108 (gL b) (λ_=>false) tot w0 (λpre W=>JW l b J JE (jJ pre) W):=by
 have g:∀pre z,jJ (pre++[z])=jJ pre++qQ z:=λpre z=>by rw[Bv];simp[jJ]
 refine {mono:=λpre W W' h I=>h.mono B y I,dt:=λs=>?_,cm:=λs=>?_,tx:=λs=>?_,wm:=λs=>?_,enter:=?_}
 .refine⟨433,gL b,λw=>by kernel_rfl,λw=>by kernel_rfl,enters_of func433 (by kernel_rfl) rfl,λpre W m k q=>?_⟩;have a:=wj q;rw[g]at a
  try simp only[]
  rw[g];exact wdt r u j s _ W m k a
 .refine⟨404,gL b,λw=>by kernel_rfl,λw=>by kernel_rfl,enters_of func404 (by kernel_rfl) rfl,λpre W m k q=>?_⟩;have a:=wj q;rw[g]at a
  try simp only[]
  rw[g];exact wcm r u j s _ W m k a
 .refine⟨434,gL b,λw=>by kernel_rfl,λw=>by kernel_rfl,enters_of func434 (by kernel_rfl) rfl,λpre W m k q=>?_⟩;have a:=wj q;rw[g]at a
  try simp only[]
  rw[g];exact wtx r u j s _ W m k a
 .refine⟨406,gL b,λw=>by kernel_rfl,λw=>by kernel_rfl,enters_of func406 (by kernel_rfl) rfl,λpre W m k q=>?_⟩;have a:=wj q;rw[g]at a
  try simp only[]
  rw[g];exact wlv r u j s _ W m k a
 .refine⟨405,gL b,λw=>by kernel_rfl,λw=>by kernel_rfl,enters_of func405 (by kernel_rfl) rfl,λpre W s C gM m k q G A=>?_⟩;have a:=wj q;rw[g]at a
  try simp only[]
  rw[g];refine(wen r u j B y s C gM _ W m k a G A).mono ?_;rintro e W' ⟨⟨d,rfl,H⟩,D,F⟩;refine⟨⟨d,rfl,?_⟩,D,F⟩;rcases H with rfl|⟨rfl,h⟩
  .exact .inl rfl
  .exact .inr ⟨rfl,λp=>h _⟩
section
attribute [local go_sem] Oper.semAt_some
attribute [local go_sem] abS
attribute [local simp] abS
def DL:∀{a:kO},(∀i∈zV a,kA (σ.nm i) s=false)->σ.qu s a=none
 |[],_=>rfl
 |none::_,_=>rfl
 |some i::r,h=>by
  show(if kA (σ.nm i) s then some i else σ.qu s r)=none;rw[h i (by simp[zV])];simp only[wP,↓reduceIte];exact DL λj d=>h j (by simp[zV,d])
theorem DM (d:kA (σ.nm i) s=true):∀{a:kO} {pre:List Nat},pre++[i] <+:zV a->(∀j∈pre,kA (σ.nm j) s=false)->σ.qu s a=some i
 |[],pre,h,_=>by have⟨r,hr⟩:=h;simp[zV]at hr
 |none::_,pre,h,_=>by have⟨r,hr⟩:=h;simp[zV]at hr
 |some k::r,[],h,_=>by
  have⟨t,ht⟩:=h;have e:i=k:=by simp[zV]at ht;exact ht.1
  grind[Ab.qu]
 |some k::r,p::pre,h,hp=>by
  have⟨t,ht⟩:=h;have e:p=k/\pre++[i]++t=zV r:=by simpa [zV]using ht
  obtain⟨rfl,e2⟩:=e;show(if kA (σ.nm p) s then some p else σ.qu s r)=_;rw[hp p (by simp)];simp only[wP,↓reduceIte];exact DM d ⟨t,e2⟩ (λj g=>hp j (by simp[g]))
def yD (W:gw) {D : Nat} (h:b≠D):(W.putObj D o).cell? ⟨b,0,none⟩=W.cell? ⟨b,0,none⟩:=ZN (pk h)
theorem DN (h:RF E f σ w) (s:gz):
  Calls prog 264 #[Bp E,gI s] w λe w'=>e=ir (oV f (σ.pw s))/\Kept [] w w':=by
 obtain⟨L,rfl,m⟩:=h;refine(wI (n:=9)).1 ?_;refine wJ func264 rfl trivial ?_ rfl;simp only[ntmps264,wK,qd,uQ,Nat.reduceAdd,Nat.reduceSub,wL,wM,wN,wO,rQ,uR];obtain⟨q,d⟩:∃q,q=(w.alloc (gJ #[gI s] 9)).alloc (gJ #[.pointer none] 57):=⟨_,rfl⟩;have I:Kept [] w q:=by rw[d];exact((Kept.refl _ _).alloc _).alloc _
 have B0:q.heap[w.heap.size]?=some (gJ #[gI s] 9):=by rw[d];exact(Below.heap_alloc _ _ _ (by simp)).trans (fZ w _)
 have B1:q.heap[w.heap.size+1]?=some (gJ #[.pointer none] 57):=by rw[d];have:=fZ (w.alloc (gJ #[gI s] 9)) (gJ #[.pointer none] 57);rwa [ry]at this
 have k:q.heap.size=w.heap.size+1+1:=by rw[d];simp
 have V:=m.im I;have a4:=m.lt;have HB:=Hq E.bB q;have HN:=(λ(W:gw) (P:Kept [] w W) (i:Nat) (e:zp) (O:σ.ib i=some e)=>(m.im P).vh O);have HA:=(λ(i:Nat) (O:some i∈σ.act)=>m.wf.act (some i) O);have HO:=(λg (u:L.cv.ownBlock=some g)=>(m.pX.lt g u).2);have R:=fW k;have HW:=fW d;clear k d
 gi_wp2_with fail
 rw[<-HW.out];refine(callsIn_wide.2 HB).mono ?_;rintro e w' ⟨rfl,rfl⟩;gi_wp2;refine UP (by omega) V rfl [w.heap.size+1] ?_
  (λpre W=>Kept [] w W/\W.heap[w.heap.size]?=some (gJ #[gI s] 9)/\W.heap[w.heap.size+1]?=some (gJ #[.pointer none] 57)/\∀i∈pre,kA (σ.nm i) s=false)
  (λc pre W=>c= .ret/\Kept [] w W/\∃a i,pre=a++[i]/\(∀j∈a,kA (σ.nm j) s=false)/\kA (σ.nm i) s=true/\W.heap[w.heap.size+1]?=some (gJ #[gL (L.gQ i)] 57))
  ?_ ?_ ?_ (λx=>{tmps:=#[Bp E,gI s,undef,gL w.heap.size,gL (w.heap.size+1),kh (some x),Bp E,LD q.heap.size,kh (some x),undef,undef,undef,undef,undef,undef,undef],defers:=[]}) ?assign ?body ?done ?stop
 .grind
 .rintro pre A B a3 ⟨Z,S,r,G⟩ u m;have k:=R.out;exact⟨lW Z u m (by omega),kE S u m (by omega),kE r u m (by omega),G⟩
 .rintro c pre A B a3 ⟨h0,Z,a,i,S,r,G,h5⟩ u m;have k:=R.out;exact⟨h0,lW Z u m (by omega),a,i,S,r,G,kE h5 u m (by omega)⟩
 .have P:Kept [] q (q.alloc (gJ #[Bp E] 93)):=(Kept.refl _ _).alloc _;exact⟨I.trans P,P.at B0 (by simp),P.at B1 (by simp),by simp⟩
 case assign=>
  intro l x W K N;gi_wp2;exact N
 case body=>
  rintro l pre i W O ⟨z,B2,B3,B4⟩ _;have a1:=HA i O;obtain⟨Y,a0⟩:∃Y,σ.ib i=some Y:=Option.isSome_iff_exists.1 a1;have c0:=HN W z i Y a0;have c1:=fX B2 0;have F:=fX B3 0;have f3:=gG B3 0;dsimp at c1 F;rw[show kh (some (L.gQ i))=gL (L.gQ i)from rfl];gi_wp2;refine As l (by kernel_rfl) (by kernel_rfl) (by rfl) ?_
  repeat (gi_big_quiet_step (fail))
  refine wpQuietIn_nil ?_;intro _ a2;have⟨nq,hw''⟩:=a2;subst hw'';cases hq:kA (σ.nm i) s with
  |true=>
   have HQ:=hq;have H:((σ.nm i).toList==s.toList)=true:=hq;rw[H];gi_wp2;refine⟨((Kept.refl [w.heap.size+1] W).drewN nq).setCell (.inl (by simp)) _,rfl,(z.drewN nq).setCell (.inr (by simp)) _,pre,i,rfl,B4,HQ,?_⟩;exact gh (show(W.drewN nq).heap[w.heap.size+1]?=_ from B3) 0 _
  |false=>
   have HQ:=hq;have H:((σ.nm i).toList==s.toList)=false:=hq;rw[H];gi_wp2;refine⟨(Kept.refl _ W).drewN nq,z.drewN nq,B2,B3,λy hy=>?_⟩
   grind
 case done=>
  rintro D W U ⟨z,S,r,G⟩ N;have F:=fX r 0;have f3:=gG r 0;dsimp at F;have p:σ.pw s=none:=DL G;have C:=fW p;have HS:=fW (pA r 0 (.pointer none) rfl);clear p;gi_wp2;rw[HS.out];refine⟨by simp,.inl ⟨_,_,rfl,nN N,?_⟩⟩;have k:=R.out;have hD:=U;have X:(W.putObj D (.deferred none)).cell? ⟨w.heap.size+1,0,none⟩=some (.pointer none):=by rw[<-F];exact yD W (by omega)
  exact⟨.pointer none,by simp[results,results264,asAddr,Result.andThen,go_sem,X],by rw[C.out];rfl,z.take (by omega) _⟩
 case stop=>
  rintro D c pre W U Q ⟨rfl,z,a,i,rfl,r,G,h5⟩ N;have p:σ.pw s=some i:=DM G Q r;have C:=fW p;have F:=fX h5 0;dsimp at F;clear p;gi_wp2;refine⟨by simp,.inl ⟨_,_,rfl,nN N,?_⟩⟩;have k:=R.out;have hD:=U;have X:(W.putObj D (.deferred none)).cell? ⟨w.heap.size+1,0,none⟩=some (gL (L.gQ i)):=by rw[<-F];exact yD W (by omega)
  exact⟨gL (L.gQ i),by simp[results,results264,asAddr,Result.andThen,go_sem,X],by rw[C.out];rfl,z.take (by omega) _⟩
end
end
end Go.Proofs.YtofkkmcdggkkpaaGreatDoor
