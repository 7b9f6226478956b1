import Derived.Test.YtofkkmcdggkkpaaGreatDoorDoA
import Derived.Deep.RegionWith
set_option linter.unusedSimpArgs false
set_option linter.unusedVariables false
set_option linter.defProp false
set_option maxHeartbeats 0
set_option maxRecDepth 100000
namespace Go.Proofs.YtofkkmcdggkkpaaGreatDoor
open Go.RowKit Tryz
def OD:=@Array.getElem?_setIfInBounds_self_of_lt
def C9:=@World.alloc_heap_new
def Da:=@World.putObj_heap_same
def Fz:=@run_endLoop
def mY:=@World.cell?_alloc_lt
section
variable {E : Env} {L : Loc} {T : TypeId} {W W' w w' w0 : gv} {assign body : Code} {gL : lh} {b bB bD bm c i l n : Nat} {f : Nat->Nat} {o : Obj} {rs : List Ru} {s : gy} {t : gM} {v x : gO} {vd : gy->Bool} {vs : List gO} {σ σ' : Ab}
def TI:gy->Bool:=λs=>lc s&&!ij [jS,nc] s
def uE (ks:List gy) (m:Nat) (t:gM):M Unit:=do
 uG (ij ks)
 jt t
 jO m
 return ()
def pJ (rec:Nat->gM->M Unit) (ks:List gy) (a:gy) (m:Nat) (t:gM):M Unit:=do
 uG (ij ks)
 kq a
 jO m
 j1 rec t
 return ()
def F9 (ks:List gy) (t:gM):M Unit:=do
 let _ <-nj (ij ks) TI
 mX t
 return ()
def xw (rec:Nat->gM->M Unit) (b:M Bool) (t:gM):M Unit:=do
 let x <-b
 if x then (do j1 rec t;return ())else return ()
def DA (b:M Bool):M Unit:=do
 let _ <-b
 return ()
def Ask.frA {bs : Nat} {p : gy->Bool} (h:Ask bm v p w) (a:Fr bs w w'):Ask bm v p w':=h.fr (a.n bm)
def aav (E:Env) (rec:Nat->gM->M Unit) (z:∀(m:Nat) (t:gM),jd E t->ja E 153 (λ_=>#[Bp E,gn m,iF E t]) (rec m t) uV) (t:gM) (A:jd E t) (m q r:Nat) (h:RF E f σ w) (p:rec m t σ≠ .stuck) (a:box w q (iC E.bB) 93) (d:box w r (gn m) 154):
  Calls prog 161 #[iF E t,iC q,iC r] w (Leaves E f σ.nodes.length w (rec m t σ) uV):=by
 have g:=fU a;have j:=fU d;clear a d;obtain⟨R,k⟩:∃R,R=rec m t σ:=⟨_,rfl⟩;rw[<-k]at p|-;have HS:=p;have H:=fU (At.start h);have e:=fU (M.tail k);clear h p k;have u:=fW (box.fr g.out (H.out.fr.n E.bm) (by decide)) 0;have y:=fW (box.fr j.out (H.out.fr.n E.bm) (by decide)) 0;dsimp at u y;go_enter func161,ntmps161
 go_wp21
 refine dC (z m t A) H e HS rfl lT ?_;clear H e;rintro(_) f σ w H C B e;go_wp2;go_end0;exact gu e H rfl
def Gs (E:Env) (t:gM) (N:jd E t) (ks:List gy) (m y z A:Nat) (k:Nat) (C:jM) (h:RF E f σ w) (B:(uE ks m t) σ≠ .stuck) (g:box w y (iC E.bB) 93) (j:box w z (.func (.func k) #[] C) 150) (K:Ask E.bm (.func (.func k) #[] C) (ij ks) w) (p:box w A (gn m) 154):
  Calls prog 205 #[iF E t,iC y,iC z,iC A] w (Leaves E f σ.nodes.length w ((uE ks m t) σ) uV):=by
 have a:=fU g;clear g;have r:=fU j;clear j;have u:=fU p;clear p;have F:=K;obtain⟨R,q⟩:∃R,R=(uE ks m t) σ:=⟨_,rfl⟩;rw[<-q]at B|-;unfold uE at q;have HS:=B;have H:=fU (At.start h);have d:=fU q;clear q;have e:=fW (box.fr a.out (H.out.fr.n E.bm) (by decide)) 0;have G:=fW (box.fr r.out (H.out.fr.n E.bm) (by decide)) 0;dsimp at e G;go_enter func205,ntmps205
 go_wp21
 refine Aq (λ_=>Ez H.rel (F.frA H.fr)) H d HS lT ?_;rintro(_) σ w H D d;have e:=fW (box.fr a.out (H.out.fr.n E.bm) (by decide)) 0;dsimp at e
 go_wp21
 refine dC (kZ E (iK E) t N) H d HS rfl lT ?_;rintro(_) f σ w H O D d;have e:=fW (box.fr a.out (H.out.fr.n E.bm) (by decide)) 0;have I:=fW (box.fr u.out (H.out.fr.n E.bm) (by decide)) 0;dsimp at e I;have P:=H.rJ;have Q:=H.free 192;have S:=H.lt;replace H:=fU (H.jc m);go_wp2;go_end0;exact gu d H rfl
def DG (E:Env) (rec:Nat->gM->M Unit) (Y:∀(m:Nat) (t:gM),jd E t->ja E 153 (λ_=>#[Bp E,gn m,iF E t]) (rec m t) uV) (t:gM) (ht:jd E t) (ks:List gy) (a:gy) (m y G I K:Nat) (k:Nat) (P:jM) (h:RF E f σ w) (O:(pJ rec ks a m t) σ≠ .stuck) (p:box w y (iC E.bB) 93) (q:box w G (.func (.func k) #[] P) 150) (Z:Ask E.bm (.func (.func k) #[] P) (ij ks) w) (r:box w I (gH a) 9) (u:box w K (gn m) 154):
  Calls prog 207 #[iF E t,iC y,iC G,iC I,iC K] w (Leaves E f σ.nodes.length w ((pJ rec ks a m t) σ) uV):=by
 have d:=fU p;clear p;have A:=fU q;clear q;have B:=fU r;clear r;have D:=fU u;clear u;have S:=Z;obtain⟨R,z⟩:∃R,R=(pJ rec ks a m t) σ:=⟨_,rfl⟩;rw[<-z]at O|-;unfold pJ at z;have HS:=O;have H:=fU (At.start h);have g:=fU z;clear z;have j:=fW (box.fr d.out (H.out.fr.n E.bm) (by decide)) 0;have U:=fW (box.fr A.out (H.out.fr.n E.bm) (by decide)) 0;dsimp at j U;go_enter func207,ntmps207
 go_wp21
 refine Aq (λ_=>Ez H.rel (S.frA H.fr)) H g HS lT ?_;rintro(_) σ w H F g;have j:=fW (box.fr d.out (H.out.fr.n E.bm) (by decide)) 0;have V:=fW (box.fr B.out (H.out.fr.n E.bm) (by decide)) 0;dsimp at j V
 go_wp21
 refine dC (uu E (iK E) a) H g HS rfl lT ?_;rintro(_) f σ w H Q F g;have j:=fW (box.fr d.out (H.out.fr.n E.bm) (by decide)) 0;have X:=fW (box.fr D.out (H.out.fr.n E.bm) (by decide)) 0;dsimp at j X;have c4:=H.rJ;have f4:=H.free 192;have hl:=H.lt;have a0:y≠E.bB:=by
  intro e;have N:w.heap[y]?=_:=box.fr d (H.fr.n E.bm) (by decide);have⟨L,_,hr⟩:=H.rel;have⟨C,hb⟩:=hr.TX;rw[e,hb]at N;simp at N
 replace H:=fU (H.jc m)
 go_wp21
 refine dC (tk E rec Y t ht) H g HS rfl lT ?_;rintro(_) f σ w H Q F g;go_wp2;go_end0;exact gu g H rfl
def Oh (E:Env) (t:gM) (Q:jd E t) (ks:List gy) (C D F:Nat) (I K:Nat) (k m:jM) (h:RF E f σ w) (G:(F9 ks t) σ≠ .stuck) (e:box w C (iC E.bB) 93) (g:box w D (.func (.func I) #[] k) 150) (A:Ask E.bm (.func (.func I) #[] k) (ij ks) w) (j:box w F (.func (.func K) #[] m) 150) (B:Ask E.bm (.func (.func K) #[] m) TI w):
  Calls prog 263 #[iF E t,iC C,iC D,iC F] w (Leaves E f σ.nodes.length w ((F9 ks t) σ) uV):=by
 have d:=fU e;clear e;have u:=fU g;clear g;have y:=fU j;clear j;have q:=A;have r:=B;obtain⟨R,p⟩:∃R,R=(F9 ks t) σ:=⟨_,rfl⟩;rw[<-p]at G|-;unfold F9 at p;have HS:=G;have H:=fU (At.start h);have a:=fU p;clear p;have z:=fW (box.fr d.out (H.out.fr.n E.bm) (by decide)) 0;have O:=fW (box.fr u.out (H.out.fr.n E.bm) (by decide)) 0;have P:=fW (box.fr y.out (H.out.fr.n E.bm) (by decide)) 0;dsimp at z O P;go_enter func263,ntmps263
 go_wp21
 refine Aq (λ_=>yK H.rel (q.frA H.fr) (r.frA H.fr)) H a HS lT ?_;rintro(_) σ w H N a;have z:=fW (box.fr d.out (H.out.fr.n E.bm) (by decide)) 0;dsimp at z
 go_wp21
 refine dC (vF E (iK E) t Q) H a HS rfl lT ?_;rintro(_) f σ w H S N a;go_wp2;go_end0;exact gu a H rfl
def aaQ (E:Env) (t:gM) (b:M Bool) (k:Nat) (u:j9 E k (λ_=>#[Bp E]) b bV) (r:∀a w,(callFunc k a).run prog w= .ok (.enter k a) w) (m:Nat) (h:RF E f σ w) (p:(DA b) σ≠ .stuck) (d:box w m (.func (.func k) #[iC E.bB] #[]) 70):
  Calls prog 213 #[iF E t,iC m] w (Leaves E f σ.nodes.length w ((DA b) σ) uV):=by
 have j:=fU d;clear d;obtain⟨R,e⟩:∃R,R=(DA b) σ:=⟨_,rfl⟩;rw[<-e]at p|-;unfold DA at e;have HS:=p;have H:=fU (At.start h);have g:=fU e;clear e;have q:=fW (box.fr j.out (H.out.fr.n E.bm) (by decide)) 0;dsimp at q;go_enter func213,ntmps213
 go_wp21
 refine mC (u) H g HS rfl lT ?_;rintro(_) σ w H y g;go_wp2;go_end0;exact gu g H rfl
def Nl (E:Env) (rec:Nat->gM->M Unit) (D:∀(m:Nat) (t:gM),jd E t->ja E 153 (λ_=>#[Bp E,gn m,iF E t]) (rec m t) uV) (t:gM) (I:jd E t) (b:M Bool) (k:Nat) (G:j9 E k (λ_=>#[Bp E]) b bV) (F:∀d w,(callFunc k d).run prog w= .ok (.enter k d) w) (r u:Nat) (h:RF E f σ w) (y:(xw rec b t) σ≠ .stuck) (e:box w r (iC E.bB) 93) (g:box w u (.func (.func k) #[iC E.bB] #[]) 70):
  Calls prog 208 #[iF E t,iC u,iC r] w (Leaves E f σ.nodes.length w ((xw rec b t) σ) uV):=by
 have p:=fU e;clear e;have q:=fU g;clear g;obtain⟨R,j⟩:∃R,R=(xw rec b t) σ:=⟨_,rfl⟩;rw[<-j]at y|-;unfold xw at j;have HS:=y;have H:=fU (At.start h);have a:=fU j;clear j;have B:=fW (box.fr q.out (H.out.fr.n E.bm) (by decide)) 0;dsimp at B;go_enter func208,ntmps208
 go_wp21
 refine mC (G) H a HS rfl lT ?_;rintro(A) σ w H z a;have C:=fW (box.fr p.out (H.out.fr.n E.bm) (by decide)) 0;dsimp at C;cases A with
 |true=>
  replace a:Hid (R=(j1 rec t>>=λ_=>(pure ():M Unit)) σ):=a
  go_wp21
  refine dC (tk E rec D t I) H a HS rfl lT ?_;rintro(_) f σ w H K z a;go_wp2;go_end0;exact gu a H rfl
 |false=>
  replace a:Hid (R= .ok () σ):=a;go_wp2;go_end0;exact gu a H rfl
theorem mM.lY (h:mM σ) (O:σ'.nodes=σ.nodes) (q:σ'.gz=σ.gz) (G:σ'.act=σ.act) (H:σ'.head=σ.head) (P:σ'.form=σ.form) (I:σ'.pQ=σ.pQ) (K:σ'.qQ=σ.qQ):mM σ':=by
 have⟨r,h⟩:=h;have g:∀i,σ'.hU i=σ.hU i:=λi=>by unfold Ab.hU;rw[O]
 have R:∀k,σ'.ji k=σ.ji k:=λk=>by
  cases k with
  |el i=>grind[Ab.ji]
  |tx i=>grind[Ab.ji]
  |cm i=>grind[Ab.ji]
  |dt i=>grind[Ab.ji]
 have B:∀x,σ'.mG x=σ.mG x:=λx=>by
  cases x with
  |none=>rfl
  |some i=>grind[Ab.mG]
 have N:∀i s,iU σ i s->iU σ' i s:=λi s ⟨e,y,m⟩=>⟨e,by grind,m⟩;refine⟨r,⟨⟨?_,?_,?_,?_⟩,⟨?_,?_,?_⟩,?_,?_,?_,?_,?_,?_,?_,?_,?_,?_⟩⟩
 .intro i e p a D;rw[g]at a;have⟨ep,y,m⟩:=h.nL.up i e p a D;grind
 .intro i e j a Q;rw[g]at a;have⟨ep,y,m⟩:=h.nL.dn i e j a Q;grind
 .intro i e a;rw[g]at a;exact h.nL.nd i e a
 .intro i e a k C;rw[g]at a;rw[R];exact h.nL.kd i e a k C
 .intro i e p a D;rw[g]at a;exact h.tc.je i e p a D
 .rw[q];exact h.tc.gz
 .rw[q,H];exact h.tc.hd
 .rw[q];intro x F;rw[B];exact h.gz x F
 .rw[G];intro i a;have⟨e,y,m⟩:=h.act i a;grind
 .rw[H];exact λd A=>N _ _ (h.head d A)
 .rw[P];exact λd A=>N _ _ (h.form d A)
 .rw[q];intro x u F;have⟨z,y,m⟩:=h.KH x u F;grind
 .rw[q,I];exact h.wV
 .rw[G,K];exact h.zM
 .rw[I];exact h.OI
 .rw[K];exact h.RS
 .rw[g];exact h.xf
def mM.Od (h:mM σ) (x:jg) (a:∀d,x=some d->iU σ d iL):mM {σ with form:=x}:=by
 have⟨r,h⟩:=h;exact⟨r,⟨⟨h.nL.up,h.nL.dn,h.nL.nd,h.nL.kd⟩,⟨h.tc.je,h.tc.gz,h.tc.hd⟩,h.gz,h.act,h.head,a,h.KH,h.wV,h.zM,h.OI,h.RS,h.xf⟩⟩
def p9 (m:Nat):Bool:=decide (m=6)||decide (m=7)||(decide (9<=m)&&decide (m<=17))
structure BMs (σ:Ab):Prop where
 ne:σ.gz≠[]
 sh:p9 σ.mode=true\/(σ.mode=5/\p9 σ.kept=true/\2<=σ.gz.length)\/(σ.mode=8/\(σ.kept=7\/σ.kept=11\/σ.kept=12))
def iU.nodes (h:iU σ i s) (e:σ'.nodes=σ.nodes):iU σ' i s:=by
 unfold iU Ab.hU at h|-;rw[e];exact h
structure Lm (σ σ':Ab):Prop where
 gP:σ'.gP=σ.gP
 pQ:σ'.pQ=σ.pQ
 qQ:σ'.qQ=σ.qQ
 oZ:σ'.oZ=σ.oZ
 wt:σ'.waiting.length<=σ.waiting.length+1
 wz:∀x∈σ'.waiting,x∈σ.waiting\/x.2.2.size<=100
 nm:∀i s,iU σ i s->iU σ' i s
def Fx.lm (h:Fx σ σ'):Lm σ σ':=⟨h.gP,h.pQ,h.qQ,h.oZ,by rw[h.waiting];omega,by rw[h.waiting];exact λ_ h=> .inl h,h.nm⟩
def RB (c:Nat) (σ:Ab) (r:pG Unit):Prop:=match r with
 | .ok _ σ'=>mM σ'/\BMs σ'/\Lm σ σ'/\wt σ'<=wt σ+c
 | .stop _ p=>p=σ.gP
 | .stuck=>False
theorem RB.mono {c' : Nat} {r : pG Unit} (h:RB c σ r) (d:c<=c'):RB c' σ r:=by
 cases r with
 |ok a σ'=>grind[RB]
 |stop e p=>exact h
 |stuck=>exact h
def jH.rb {r : pG Unit} {Q : Unit->Ab->Prop} (h:jH c σ r Q) (d:σ.gz≠[]) (g:p9 σ.mode=true):RB c σ r:=by
 cases r with
 |ok a σ'=>
  have⟨h1,h2,h3,_⟩:=h;exact⟨h1,⟨h2.ne d,.inl (by rw[h2.mode];exact g)⟩,h2.lm,h3⟩
 |stop e p=>exact h
 |stuck=>exact h
def RB.bind {α:Type} {c1 c2 : Nat} {x:M α} {k:α->M Unit} {Q:α->Ab->Prop} (h:jH c1 σ (x σ) Q) (A:∀a σ',mM σ'->Fx σ σ'->wt σ'<=wt σ+c1->Q a σ'->RB c2 σ' (k a σ')) (C:c1+c2<=c):RB c σ ((x>>=k) σ):=by
 rw[M.gx];cases hm:x σ with
 |ok a σ'=>
  rw[hm]at h;obtain⟨u,d,y,z⟩:=h;have j:=A a σ' u d y z;dsimp only;cases hk2:k a σ' with
  |ok b σ2=>
   rw[hk2]at j;obtain⟨m,r,g,B⟩:=j;exact⟨m,r,⟨g.gP.trans d.gP,g.pQ.trans d.pQ,g.qQ.trans d.qQ,g.oZ.trans d.oZ,by have:=g.wt;rw[d.waiting]at this;exact this,by have:=g.wz;rw[d.waiting]at this;exact this,λi s q=>g.nm i s (d.nm i s q)⟩,by omega⟩
  |stop e p=>
   rw[hk2]at j;exact xI j d.gP
  |stuck=>rw[hk2]at j;exact j
 |stop e p=>rw[hm]at h;exact h
 |stuck=>rw[hm]at h;exact h
def Oa (h:mM σ) (a:σ.gz≠[]) (m:Nat) (d:p9 m=true):RB 0 σ ((jO m>>=λ_=>(Pure.pure ():M Unit)) σ):=
 ⟨h.lY rfl rfl rfl rfl rfl rfl rfl,⟨a,.inl d⟩,⟨rfl,rfl,rfl,rfl,lf _,λ_ h=> .inl h,λ_ _ h=>h⟩,ni (jm rfl)⟩
def rX (h:mM σ) (a:BMs σ):RB 0 σ ((Pure.pure ():M Unit) σ):=⟨h,a,⟨rfl,rfl,rfl,rfl,lf _,λ_ h=> .inl h,λ_ _ h=>h⟩,ig _⟩
structure rI (σ:Ab):Prop where
 iv:mM σ
 ne:σ.gz≠[]
 md:p9 σ.mode=true
def rI.next (h:rI σ) (i:mM σ') (f:Fx σ σ'):rI σ':=⟨i,f.ne h.ne,by rw[f.mode];exact h.md⟩
def rI.Xp (h:rI σ):BMs σ:=⟨h.ne,.inl h.md⟩
structure nS (σ:Ab) (t:gM):Prop where
 tag:t.rL=true
 fr:σ.fresh=true
def tH (h:mM σ):jH 0 σ (oC σ) (λ_ σ'=>uF σ σ'):=
 jH.iH ((vY h (ij [nc]) Do (by kernel_rfl)).mono (ig _) (λ_ _ _ _ h=>h.1))
theorem oQ (h:mM σ) (d:σ.gz≠[]) (e:nS σ t) (hw:wt σ < 999900):jH 33 σ (lz t σ) (λ_ σ'=>∃a j,FD a t.name j σ'/\σ.gz <+:a.gz/\a.act.length=σ.act.length):=by
 unfold lz;refine jH.bind (nP h d (by omega)) (c2:=1) ?_ (by omega);rintro _ a k g r ⟨p,q,m⟩;refine jH.iH ((jT k (g.ne d) (by omega) t e.tag (m.trans e.fr)).mono (ig _) ?_)
 grind
theorem th (h:mM σ) (d:σ.gz≠[]) (e:nS σ t) (hw:wt σ < 999000):jH 1 σ (mX t σ) (λ_ σ'=>∃a j,FD a t.name j σ'):=by
 unfold mX;refine jH.bind (tH h) (c2:=1) ?_ (by omega);rintro _ a k g p m;refine jH.iH ((jT k (g.ne d) (by omega) t e.tag (m.fresh.trans e.fr)).mono (ig _) ?_)
 grind
section
variable {σ:Ab} {t:gM} (h:rI σ) (hw:wt σ < 999000)
include h hw
def Lv (a:nS σ t):RB 33 σ (lz t σ):=(oQ h.iv h.ne a (by omega)).rb h.ne h.md
def Lr (a:nS σ t):RB 1 σ (mX t σ):=(th h.iv h.ne a hw).rb h.ne h.md
def Ra (g:nS σ t):RB 1 σ (wF t σ):=by
 unfold wF;refine RB.bind (th h.iv h.ne g hw) (c2:=0) ?_ (by omega);rintro _ j d e _ _;have a:=h.next d e;exact⟨d.lY rfl rfl rfl rfl rfl rfl rfl,⟨a.ne,.inl a.md⟩,⟨rfl,rfl,rfl,rfl,lf _,λ_ h=> .inl h,λ_ _ h=>h⟩,ni (jm rfl)⟩
def GK (a:nS σ t):RB 1 σ (oo t σ):=by
 have:jH 1 σ (oo t σ) (λ_ _=>True):=by
  unfold oo;refine jH.bind (tH h.iv) (c2:=1) ?_ (by omega);rintro _ p g d r k;refine jH.bind (tX g (ij [mf,mg]) (by kernel_rfl)) (c2:=1) ?_ (by omega);rintro _ q j e u m;exact jH.iH ((jT j (e.ne (d.ne h.ne)) (by omega) t a.tag (m.fresh.trans (k.fresh.trans a.fr))).mono (ig _) (λ_ _ _ _ _=>trivial))
 exact this.rb h.ne h.md
def Tu (a:nS σ t):RB 1 σ (xn t σ):=by
 have:jH 1 σ (xn t σ) (λ_ _=>True):=by
  unfold xn;refine jH.bind (tH h.iv) (c2:=1) ?_ (by omega);rintro _ j e d k g;exact jH.iH ((qs e (d.ne h.ne) (by omega) t a.tag (g.fresh.trans a.fr)).mono (ig _) (λ_ _ _ _ _=>trivial))
 exact this.rb h.ne h.md
def Og (r:nS σ t) (p:t.name=iL):RB 1 σ (ug t σ):=by
 unfold ug;cases hf:σ.form with
 |some d=>exact(rX h.iv h.Xp).mono (by omega)
 |none=>
  dsimp only;refine RB.bind (th h.iv h.ne r hw) (c2:=0) ?_ (by omega);rintro _ a k m _ ⟨u,j,q⟩;have e:=h.next k m;refine⟨k.Od a.last ?_,⟨e.ne,.inl e.md⟩,⟨rfl,rfl,rfl,rfl,lf _,λ_ h=> .inl h,λ_ _ h=>h⟩,ni (jm rfl)⟩;intro d g;rw[DS q]at g;cases g;rw[<-p];exact q.nm
def JT (a:nS σ t):RB 33 σ (ph t σ):=by
 have:jH 33 σ (ph t σ) (λ_ _=>True):=by
  unfold ph;refine jH.bind (vY h.iv (ij [hH]) iP (by kernel_rfl)) (c2:=33) ?_ (by omega);rintro _ j e d k ⟨g,_⟩;exact jH.iH ((oQ e (d.ne h.ne) ⟨a.tag,g.fresh.trans a.fr⟩ (by omega)).mono (ig _) (λ_ _ _ _ _=>trivial))
 exact this.rb h.ne h.md
def Lx (d:nS σ t):RB 1 σ (sx t σ):=by
 unfold sx;have g:jH 0 σ (yJ σ) (λ_ σ'=>uF σ σ'):=by
  unfold yJ;split
  .exact⟨h.iv,Fx.refl _,ig _,uF.refl _⟩
  .exact tH h.iv
 refine RB.bind g (c2:=1) ?_ (by omega);rintro _ p j a r m;refine RB.bind (jT j (a.ne h.ne) (by omega) t d.tag (m.fresh.trans d.fr)) (c2:=0) ?_ (by omega);rintro _ q k e u _;exact Oa k (e.ne (a.ne h.ne)) 7 rfl
def Gi (e:nS σ t) (b:Bool):RB 1 σ (oc t b σ):=by
 unfold oc;refine RB.bind (jT h.iv h.ne (by omega) t e.tag e.fr) (c2:=0) ?_ (by omega);rintro _ a g d _ ⟨j,q⟩;refine⟨g.lY rfl rfl rfl rfl rfl rfl rfl,⟨d.ne h.ne,.inr (.inl ⟨rfl,?_,?_⟩)⟩,⟨rfl,rfl,rfl,rfl,lf _,λ_ h=> .inl h,λ_ _ h=>h⟩,ni (jm rfl)⟩
 .show p9 a.mode=true;rw[d.mode];exact h.md
 .have:=DT q h.ne;exact this
def JY (a:nS σ t):RB 33 σ (pj t σ):=by
 have:jH 33 σ (pj t σ) (λ_ _=>True):=by
  unfold pj;refine jH.bind (tX h.iv (ij [gN]) (by kernel_rfl)) (c2:=33) ?_ (by omega);rintro _ j e d k g;exact jH.iH ((oQ e (d.ne h.ne) ⟨a.tag,g.fresh.trans a.fr⟩ (by omega)).mono (ig _) (λ_ _ _ _ _=>trivial))
 exact this.rb h.ne h.md
def JZ (d:nS σ t):RB 33 σ (qA t σ):=by
 unfold qA;refine RB.bind (oQ h.iv h.ne d (by omega)) (c2:=0) ?_ (by omega);rintro _ g e a _ _;refine⟨e.lY rfl rfl rfl rfl rfl rfl rfl,⟨a.ne h.ne,.inl ?_⟩,⟨rfl,rfl,rfl,rfl,lf _,λ_ h=> .inl h,λ_ _ h=>h⟩,ni (jm rfl)⟩;show p9 (if _ then 15 else 14)=true;split<;>rfl
def Ol (a:nS σ t):RB 33 σ (sI t σ):=by
 have:jH 33 σ (sI t σ) (λ_ _=>True):=by
  unfold sI;refine jH.bind (nP h.iv h.ne (by omega)) (c2:=1) ?_ (by omega);rintro _ j e d p ⟨k,m,g⟩;exact jH.iH ((qs e (d.ne h.ne) (by omega) t a.tag (g.trans a.fr)).mono (ig _) (λ_ _ _ _ _=>trivial))
 exact this.rb h.ne h.md
omit h hw in
def nh (e:mM σ) (d:σ.gz≠[]) (m:nS σ t) (k:rn t.name=true) (hw:wt σ < 999900):jH 33 σ (iV t σ) (λ_ _=>True):=by
 unfold iV;refine jH.bind (oQ e d m hw) (c2:=0) ?_ (by omega);rintro _ a p u y ⟨r,j,q,_⟩;have g:Jd a= .ok j a:=by unfold Jd;rw[DS q]
 rw[M.gx,g];dsimp only;exact jH.iH ((XJ p q.nm k).mono (ig _) (λ_ _ _ _ _=>trivial))
def CJ (d:nS σ t) (a:rn t.name=true):RB 33 σ (iV t σ):=(nh h.iv h.ne d a (by omega)).rb h.ne h.md
theorem Oi (m:nS σ t) (u:t.name=tq):RB 330 σ (re t σ):=by
 have d:rn t.name=true:=by rw[u];kernel_rfl
 unfold re;cases hl:σ.pw tq with
 |none=>
  dsimp only;exact RB.mono (c:=33) ((jH.iH (Q:=λ_ _=>True) (nh h.iv h.ne m d (by omega))).rb h.ne h.md) (by omega)
 |some a=>
  dsimp only;have⟨hm,hnm⟩:=xC σ tq hl;have⟨r,hr⟩:=id h.iv;have⟨ea,hea,hfa⟩:=hr.act a (List.mem_reverse.1 hm);have g:=Sh hea;have j:σ.nm a≠fX:=by rw[tL hnm];intro e;cases e
  have:jH 330 σ ((wZ tq>>=λ_=>kK (some a)>>=λ_=>ku (some a)>>=λ_=>iV t>>=λ_=>(Pure.pure ():M Unit)) σ) (λ_ _=>True):=by
   refine jH.bind (Et h.iv h.ne (s:=tq) (by grind) (by omega)) (c2:=33) ?_ (by omega);rintro _ F y k I B;refine jH.bind (yG y (x:=some a) (lW (k.nm _ _ g))) (c2:=33) ?_ (by omega);rintro _ G z p K C;refine jH.bind (Ci z (p.nm _ _ (k.nm _ _ g)) j) (c2:=33) ?_ (by omega);rintro _ H A q N D;exact jH.iH (nh A (q.ne (p.ne (k.ne h.ne))) ⟨m.tag,by rw[D.fresh,C.fresh,B];exact m.fr⟩ d (by omega))
  exact this.rb h.ne h.md
end
def Rel.adg (h:Rel E L σ w) (s:gy) (p:Bool):Rel E L {σ with nD:=s,iZ:=p} ((w.setCell ⟨E.bR,E.EM,none⟩ (gH s)).setCell ⟨E.bR,E.EM+1,none⟩ (.bool p)):=by
 have j:Kept [E.bR] w ((w.setCell ⟨E.bR,E.EM,none⟩ (gH s)).setCell ⟨E.bR,E.EM+1,none⟩ (.bool p)):=((Kept.refl _ w).setCell (.inl (by simp)) _).setCell (.inl (by simp)) _;have d:KT E.bs [132] w ((w.setCell ⟨E.bR,E.EM,none⟩ (gH s)).setCell ⟨E.bR,E.EM+1,none⟩ (.bool p)):= .jU j (λk j _=>by simp at j;subst j;exact⟨⟨_,_,_,h.rd,by simp⟩,h.bR⟩);obtain⟨C,q,a⟩:=h.ir;have m:=gg (gg h.rd E.EM (gH s)) (E.EM+1) (.bool p);have u:=h.QS;exact {h with
  fr:=h.fr.trans (d.fr (by decide))
  sN:=λi y r=>(h.sN i y r).kt d (by decide)
  inj:=h.inj,A8:=h.A8,Ga:=h.Ga,uq:=h.uq,Eu:=h.Eu
  wf:=⟨h.wf.gz,h.wf.act,h.wf.head,h.wf.form,h.wf.je,h.wf.kids,h.wf.xf⟩
  ir:=⟨C,d.at q (by decide),⟨a.size,a.low,a.gz,a.act,a.head,a.form,a.mode,a.kept,a.wait,a.IL,a.jN,a.gP,a.behind⟩⟩
  o0:=d.row h.o0 (by decide)
  pX:=d.row h.pX (by decide)
  Gd:=h.Gd,wV:=h.wV,Ey:=h.Ey
  oS:=d.row h.oS (by decide)
  bz:=h.bz,bB:=h.bB,bR:=h.bR,bN:=h.bN
  rd:=by
   rw[m]
   congr 2
   apply Array.ext_getElem?;intro i
   by_cases e:E.EM+1=i
   .subst e;rw[OD (by simp;omega),OD (by simp;omega)]
   .rw[Eo e,Eo e]
    by_cases g:E.EM=i
    .subst g;rw[OD (by simp;omega),OD (by omega)]
    .rw[Eo g,Eo e,Eo g,Eo g]
  tok:=d.row h.tok (by decide)
  Ly:=h.Ly,De:=h.De,ab:=h.ab,tb:=h.tb,LA:=h.LA}
theorem Rel.wy (h:Rel E L σ w):w.cell? ⟨E.bR,E.EM,none⟩=some (gH σ.nD)/\w.cell? ⟨E.bR,E.EM+1,none⟩=some (.bool σ.iZ)/\(∀j,w.frozen? ⟨E.bR,j,none⟩=false)/\E.bR < w.heap.size:=by
 have a:=h.QS;refine⟨?_,?_,λj=>gE h.rd j,jk h.rd⟩
 .rw[fW h.rd,Eo (by omega)]
  grind
 .rw[fW h.rd]
  grind
theorem Vw (E:Env) (m:E.EM=7) (h:RF E f σ w) (s:gy) (p:Bool):
  Calls prog 36 #[gJ E.bR,gH s,.bool p] w λe w'=>e=p8/\RF E f {σ with nD:=s,iZ:=p} w'/\Fr E.bs w w':=by
 obtain⟨L,rfl,a⟩:=h;have⟨c1,c2,fz,hl⟩:=a.wy;have j:=a.adg s p;have g:Fr E.bs w ((w.setCell ⟨E.bR,E.EM,none⟩ (gH s)).setCell ⟨E.bR,E.EM+1,none⟩ (.bool p)):= .jU (((Kept.refl [E.bR] w).setCell (.inl (by simp)) _).setCell (.inl (by simp)) _) (λk d=>by simp at d;subst d;exact⟨⟨_,_,_,a.rd,by decide⟩,a.bR⟩);rw[m]at c1 c2 j g;have q:=fz 7;have r:=fz 8;go_enter func36,ntmps36;go_wp2;go_end0
 grind[RF]
def At.c3 {d : Nat->Nat} {e : Nat} (h:At E d e w0 f σ w):w.cell? ⟨E.bB,3,none⟩=some (.func (.func 36) #[gJ E.bR] #[]):=by
 obtain⟨L,rfl,a⟩:=h.rel;exact a.low (by decide) a.env.txt
def Js (E:Env) (z:E.EM=7) (t:gM) (C:jd E t) (a:Bool):ja E 166 (λ_=>#[Bp E,iF E t,.bool a]) (oc t a) uV:=by
 refine dI λf σ w R k HS H=>?_;unfold oc at k;go_enter func166,ntmps166
 go_wp21
 refine dC (kZ E (iK E) t C) H k HS rfl lT ?_;rintro(_) f σ w H G F k;have⟨ta,tb,tao,tn,tcp,HTG⟩:=Eg E t H.rel;have y:=λw=>AG ta tb t.name tao tn tcp w;have u:=H.c3;have A:=H.lt;have m:=u
 go_wp21
 go_region_with (first
  |(go_at_call 158;refine(HTG _).mono ?_;rintro e D ⟨rfl,j⟩;have g:=fU (((Kept.refl [] w).drew).trans j);have N:D.cell? ⟨E.bB,3,none⟩=_:=(g.cell (p:=⟨E.bB,3,none⟩) A (by simp)).trans m;clear j)
  |(go_at_call 36;refine(Vw E z (H.k0 g).rel t.name a).mono ?_;rintro e Q ⟨rfl,q,r⟩;have d:=fU ((H.k0 g).to q (si _ _ rfl) r);clear q r))
 all_goals
  have I:=d.rJ;have O:=d.free 192;have K:=d.R6;have P:=d.free 193;have B:=d.lt;replace d:=(d.yq σ.mode).jc 5;go_wp2;go_end0;exact gu k d rfl
def Gr (E:Env) (d:E.EM=7) (t:gM) (e:jd E t):ja E 93 (λ_=>#[Bp E,iF E t]) (ui t) uV:=by
 refine dI λf σ w R a HS H=>?_;unfold ui at a;go_enter func93,ntmps93
 go_wp21
 refine dC (Js E d t e false) H a HS rfl lT ?_;rintro(_) f σ w H j g a;go_wp2;go_end0;exact gu a H rfl
def Fl (E:Env) (d:E.EM=7) (t:gM) (e:jd E t):ja E 94 (λ_=>#[Bp E,iF E t]) (oR t) uV:=by
 refine dI λf σ w R a HS H=>?_;unfold oR at a;go_enter func94,ntmps94
 go_wp21
 refine dC (Js E d t e true) H a HS rfl lT ?_;rintro(_) f σ w H j g a;go_wp2;go_end0;exact gu a H rfl
def GL (E:Env) (d:E.EM=7) (t:gM) (e:jd E t):ja E 182 (λ_=>#[Bp E,iF E t]) (pW t) uV:=by
 refine dI λf σ w R a HS H=>?_;unfold pW at a;go_enter func182,ntmps182
 go_wp21
 refine dC (Gr E d t e) H a HS rfl lT ?_;rintro(_) f σ w H j g a;have k:=H.X3;have m:=H.free 198;have p:=H.lt;replace H:=H.sq true;go_wp2;go_end0;exact gu a H rfl
def Ze (h:RF E f σ w) (x:jg) (a:ku x σ≠ .stuck):
  Calls prog 168 #[jG E.bB 188,oV f x] w λe w'=>e=p8/\ku x σ= .ok () {σ with gz:=σ.gz.erase x}/\RF E f {σ with gz:=σ.gz.erase x} w'/\Fr E.bs w w':=by
 have:=D0 E x f σ w h a;unfold ku at this a|-
 by_cases d:σ.gW x=true
 .rw[gF d]at this|-;exact this.mono (λe w' h=>⟨h.1,rfl,h.2.1,h.2.2.1⟩)
 .rw[gQ d]at a;exact absurd rfl a
def M3 (E:Env) (rec:Nat->gM->M Unit) (B:∀(m:Nat) (t:gM),jd E t->ja E 153 (λ_=>#[Bp E,gn m,iF E t]) (rec m t) uV) (t:gM) (F:jd E t):ja E 98 (λ_=>#[Bp E,iF E t]) (tF rec t) uV:=by
 refine dI λf σ w R d HS H=>?_;unfold tF at d;go_enter func98,ntmps98;have A:=H.VB;have C:=H.lt
 go_wp21
 refine Aq (λD=>(show Calls prog 167 #[Bp E,oV f σ.head] w (j8 E f σ.nodes.length w (pushHead σ) uV)from N5 E σ.head f σ w H.rel D)) H d HS lT ?_;rintro(_) σ w H u d
 go_wp21
 refine dC (B 3 t F) H d HS rfl lT ?_;rintro(_) f σ w H G u d;have A:=H.VB;have C:=H.lt;have j:ku σ.head σ≠ .stuck:=by
  intro k;apply HS;rw[d.out,M.gx];unfold px;rw[k]
 have g:=Ze (H.k0 ((Kept.refl _ w).drew)).rel σ.head j
 go_wp21
 go_region_with (go_at_call 168;refine g.mono ?_;rintro e I ⟨rfl,p,q,r⟩;have z:=fU ((H.k0 ((Kept.refl _ w).drew)).to q (si _ _ rfl) r);have y:=fU p;clear p q r)
 all_goals
  go_wp2;go_end0;refine gu (σ:={σ with gz:=σ.gz.erase σ.head}) (a:=()) ?_ z rfl;rw[d.out,M.gx];unfold px;rw[y.out];rfl
def Po (E:Env) (i:Nat) (h:RF E f σ w) (z:iB σ.gz 0=some i) (y:jy i σ≠ .stuck):Calls prog 136 #[Bp E] w (j8 E f σ.nodes.length w (jy i σ) pV):=by
 obtain⟨R,r⟩:∃R,R=jy i σ:=⟨_,rfl⟩;have k:=(h.il ((Kept.refl _ w).alloc RU)).atO 0;rw[z]at k;have m:=(show Calls prog 229 #[jG E.bB 188,gn 0] (w.alloc RU) (λe w'=>e=iq (gJ (f i))/\w'=w.alloc RU)from k);rw[<-r]at y|-;have HS:=y;have H:=(At.start h).k0 ((Kept.refl _ w).alloc RU);have q:=fU (M.tail r);have G:=fY w RU;have N:=h.lt;clear h y r z k;go_enter func136,ntmps136
 go_wp21
 refine m.mono ?_;rintro e w' ⟨rfl,rfl⟩
 go_wp21
 refine j9.call (FX E i) H q HS rfl ?_ ?_
 .intro c p j U d D F;have C:=fU d;clear d;go_wp2;exact⟨rfl,tU C D F⟩
 rintro g O S d A B;have a:=A.cell G (by decide);have I:=fW a 0;have K:=fW a 1;have P:=gE a 0;have Q:=gE a 1;dsimp at I K;replace H:=((d.side a (by decide) (ig _) 0 (gJ (f g.1))).side (gg a 0 _) (by decide) (ig _) 1 (gn g.2));replace q:=fU B;have u:=fU (gg (gg a 0 (gJ (f g.1))) 1 (gn g.2));clear d A B;go_wp2;refine qf (v:=pV f g) ?_ rfl (jZ q H rfl);simp[results,results136,asAddr,Result.andThen,go_sem,fW u.out]
attribute [local go_sem] Oper.semAt_some
theorem UC (E:Env) (h:RF E f σ W) (s:gy) (c:Bool) (k:Nat) (S:W.heap[k]?=some (gI #[gH s] (if c then 218 else 222))) (F:∀i,i < σ.nodes.length->f i < k) (z:E.bs<=k) (pl:Nat×Nat) (d:oO pl (if c then .cm s else .dt s) (if c then Nd.cm else Nd.dt) σ= .ok () σ'):
  Calls prog 156 #[pV f pl,((if c then Nd.cm else Nd.dt) k).val] W λe W'=>e=p8/\∃g,RR σ.nodes.length f g/\σ.nodes.length<=σ'.nodes.length/\RF E g σ' W'/\Fr E.bs W W':=by
 obtain⟨L,rfl,Q⟩:=h;obtain⟨q,p⟩:∃q:AQ,q=if c then .cm s else .dt s:=⟨_,rfl⟩
 obtain⟨u,a⟩:∃u:Nat->Nd,u=if c then Nd.cm else Nd.dt:=⟨_,rfl⟩
 rw[<-p,<-a]at d;rw[<-a];have G:∀e,q≠ .el e:=by intro e;rw[p];cases c<;>simp
 have D:∀i j,u i≠ .el j:=by intro i j;rw[a];cases c<;>simp
 have H:Rel E (L.new σ.nodes.length k (jX) (jX)) (σ.add q) W:=by
  refine Q.acx q k (jX) (jX) σ.fresh (Kept.refl _ _) F z ?_ rfl (λe O=>absurd O (G e)) (λ_ _ _ _ _ r=>by cases r) (λ_ _ _ _ _ _ r=>by cases r) (λ_=>rfl) (λP=>⟨P,λ_ _=>by simp[Value.ownBlock]⟩) (λ_ r=>by cases r);rw[p];cases c with
  |true=>show _=_;grind[Loc.new]
  |false=>show _=_;grind[Loc.new]
 unfold oO zF at d;cases m:(σ.add q).hU pl.1 with
 |none=>rw[m]at d;cases d
 |some ei=>
  rw[m]at d;dsimp only at d;split at d
  .rename_i A;cases d;have B:pl.1 < σ.nodes.length:=by
    have r:=Ab.ik m;have R:(σ.add q).nodes.length=σ.nodes.length+1:=by simp[Ab.add]
    rcases rC pl.1 σ.nodes.length with h|h
    .exact h
    .have e1:pl.1=σ.nodes.length:=by omega
     rw[e1,Ab.um]at m
     grind
   have C:=Rh H m A.1 (D _) A.2.1 A.2.2;have e1:place ((L.new σ.nodes.length k (jX) (jX)).gP pl.1) pl.2=pV L.gP pl:=by rw[Loc.Ar B]
   have e2:(Nd.map (L.new σ.nodes.length k (jX) (jX)).gP (u σ.nodes.length))=u k:=by
    have y:(L.new σ.nodes.length k (jX) (jX)).gP σ.nodes.length=k:=Loc.sZ;rw[a];cases c
    .show Nd.dt _=Nd.dt k;rw[y]
    .show Nd.cm _=Nd.cm k;rw[y]
   rw[e1,e2]at C;refine C.mono ?_;rintro e W' ⟨rfl,I,y,N,K⟩;refine⟨rfl,I.gP,λi m=>?_,?_,⟨I,rfl,N⟩,K⟩
   .rw[y];exact Loc.Ar m
   .rw[Ab.nE];simp[Ab.add]
  .cases d
structure Dg (E:Env) (pf:Nat) (own:Bool) (pm:M (Nat×Nat)):Prop where
 Yp:∀args w,(callFunc pf args).run prog w= .ok (.enter pf args) w
 same:∀σ pl σ1,pm σ= .ok pl σ1->σ1=σ
 NW:∀σ c p,pm σ≠ .stop c p
 aaL:∀f σ w,RF E f σ w->pm σ≠ .stuck->Calls prog pf #[iC (if own then E.bB else f 0)] w (j8 E f σ.nodes.length w (pm σ) pV)
def nU (d:M (Nat×Nat)) (t:gM):M Unit:=match t.k with
 | .gR s=>do
  let a <-d
  oO a (.cm s) .cm
  return ()
 |_=>return ()
def Xo (E:Env) (f:Nat->Nat) (σ:Ab) (T:TypeId) (s:gy) (v:gO) (W:gv):Prop:=∃k,v=gJ k/\W.heap[k]?=some (gI #[gH s] T)/\(∀i,i < σ.nodes.length->f i < k)/\E.bs<=k
def Xo.fr (h:Xo E f σ 218 s v W) (a:Fr E.bs W W'):Xo E f σ 218 s v W':=by
 have⟨k,e,h1,h2⟩:=h;exact⟨k,e,a.zz h1 (by decide),h2⟩
def Xo.frD (h:Xo E f σ 222 s v W) (a:Fr E.bs W W'):Xo E f σ 222 s v W':=by
 have⟨k,e,h1,h2⟩:=h;exact⟨k,e,a.zz h1 (by decide),h2⟩
def Xo.new (h:RF E f σ W) (s:gy):Xo E f σ T s (gJ W.heap.size) (W.alloc (gI #[gH s] T)):=by
 obtain⟨L,rfl,a⟩:=h;exact⟨_,rfl,fY W _,λi d=>a.Hw d,a.bw⟩
theorem Se (E:Env) (Y:Nat) (own:Bool) (B:M (Nat×Nat)) (I:Dg E Y own B) (t:gM) (P:Nat) (h:RF E f σ w) (hs:nU B t σ≠ .stuck) (C:box w P (.func (.func Y) #[iC (if own then E.bB else f 0)] #[]) 190):
  Calls prog 155 #[iF E t,iC P] w (Leaves E f σ.nodes.length w (nU B t σ) uV):=by
 have G:=fU (At.start h);have⟨a,b,k,gL⟩:=t;cases k with
 |gR s=>
  have hx:∃j σ',B σ= .ok j σ/\oO j (.cm s) .cm σ= .ok () σ'/\nU B ⟨a,b,.gR s,gL⟩ σ= .ok () σ':=by
   have Q:nU B ⟨a,b,.gR s,gL⟩ σ=(B>>=λj=>oO j (.cm s) .cm>>=λ_=>(Pure.pure ():M Unit)) σ:=rfl;rw[M.gx]at Q;cases hq:B σ with
   |ok j σ1=>
    obtain rfl:=I.same _ _ _ hq;rw[hq]at Q;cases hq2:oO j (.cm s) .cm σ1 with
    |ok u σ'=>exact⟨j,σ',rfl,hq2,by rw[Q];dsimp only;rw[M.gx,hq2];rfl⟩
    |stop c p=>
     exfalso;unfold oO zF at hq2
     grind
    |stuck=>exact absurd (by rw[Q];dsimp only;rw[M.gx,hq2]) hs
   |stop c p=>exact absurd hq (I.NW _ _ _)
   |stuck=>grind
  have⟨j,σ',hq1,hq2,hq3⟩:=hx;rw[hq3];have D:=λW (hW:RF E f σ W)=>I.aaL f σ W hW (by grind);rw[hq1]at D;have eg:=I.Yp;simp only[iF];have d:=qC underlying177;obtain⟨y,r⟩:∃y,y=w.alloc (gI #[gn a,gn b,gH s] 177):=⟨_,rfl⟩;have F:Kept [] w y:=by rw[r];exact(Kept.refl _ _).alloc _
  have N:y.heap[w.heap.size]?=some (gI #[gn a,gn b,gH s] 177):=by rw[r];exact fY w _
  have A:=F.at C (by simp);have HC:=fU (λW (hF:Fr E.bs y W)=>(⟨by rw[fW (hF.zz A (by decide))];rfl,by rw[fW (hF.zz N (by decide))];rfl⟩:W.cell? ⟨P,0,none⟩=some (.func (.func Y) #[iC (if own then E.bB else f 0)] #[])/\W.cell? ⟨w.heap.size,2,none⟩=some (gH s)));have HW:=fU r.symm;have HA:=fU (G.out.k0 F);have a0:=fU D;have Z:=fU eg;have a1:=fU hq2;have HN:=fU (λi (hi:i < σ.nodes.length)=>(show f i < y.heap.size by
   have⟨L,e,hr⟩:=(G.out.k0 F).rel;rw[<-e];exact hr.Hw hi))
  have a3:=fU (show E.bs<=y.heap.size by
   have⟨L,e,hr⟩:=(G.out.k0 F).rel;exact hr.bw)
  clear h hs C I hq1 hq2 hq3 D eg N A F r G;go_enter func155,ntmps155
  go_wp21
  rw[HW.out];refine tC (by rfl) ?_;refine pN (λ(g:gO) z=>⟨#[.iface 177 (.agg #[gn a,gn b,gH s]),iC P,undef,gJ w.heap.size,.bool true,.tuple #[.agg #[gn a,gn b,gH s],.bool true],.iface 177 (.agg #[gn a,gn b,gH s]),.tuple #[.agg #[gn a,gn b,gH s],.bool true],.agg #[gn a,gn b,gH s],.bool true,.bool true,cd z 0 (.func (.func Y) #[iC (if own then E.bB else f 0)] #[]),cd z 1 (pV f j),cd z 2 (jG w.heap.size 2),cd z 3 (gH s),cd z 4 (.agg #[gH s]),cd z 5 (g),cd z 6 (.iface 216 g),cd z 7 (.tuple #[])],[]⟩) (λg z W=>if dn z 7=true then (∃R,RR σ.nodes.length f R/\σ.nodes.length<=σ'.nodes.length/\RF E R σ' W/\Fr E.bs y W)else (RF E f σ W/\Fr E.bs y W/\(dn z 5=true->Xo E f σ 218 s g W))) 8 [[],[0],[],[2],[3],[4],[5],[0,1,2,3,4,5,6]] (undef) rfl (by rfl) (⟨HA.out.rel.il (Kept.refl _ _).drew,Fr.gX (Kept.refl _ _).drew,λh=>by cases h⟩) ?_ ?_
  .repeat' first|exact mV|refine mU ?_ ?_
   all_goals
    rintro g z W V K hn;simp[BV]at K;refine kP rfl ?_;intro K' m;simp only[ld,K];have X:dn z 7=false:=by simp[K,hn]
    have q:=(gQ (by simp[X])).mp V;have⟨cc,c2⟩:=HC.out W q.2.1;have eg:=Z.out;go_simp
    first
    |refine m _ _ ⟨g,?_,(gQ (by simp[oE,X])).mpr ⟨q.1,q.2.1,pY q.2.2 (by decide)⟩⟩
    |refine(a0.out W q.1).mono ?_;rintro e W2 ⟨rfl,a2,O,_⟩;refine m _ _ ⟨g,?_,(gQ (by simp[oE,X])).mpr ⟨a2,q.2.1.trans O,pY (λh=>(q.2.2 h).fr O) (by decide)⟩⟩
    |have ka:Kept [] W (W.alloc (gI #[gH s] 218)):=(Kept.refl _ _).alloc _;refine m _ _ ⟨_,?_,(gQ (by simp[oE,X])).mpr ⟨q.1.il ka,q.2.1.trans (.gX ka),λ_=>Xo.new q.1 s⟩⟩;have h9:dn z 6=false:=(by simp[hn]);simp[oB,vo,ld,acy,K,h9]
    |obtain⟨k,rfl,F,k2,k3⟩:=q.2.2 (by simp[K]);refine(UC E q.1 s true k F k2 k3 j a1.out).mono ?_;rintro e W2 ⟨rfl,R,g1,g2,S,U⟩;refine m _ _ ⟨gJ k,?_,(gF rT).mpr ⟨R,g1,g2,S,q.2.1.trans U⟩⟩
    all_goals simp[oB,vo,ld,K]
  .rintro g W V;have⟨f2,g1,g2,S,U⟩:=(gF xz).mp V;simp only[vc];have G3:=fU S;have G4:=fU (HA.out.fr.trans U);clear V S U;go_wp2
   all_goals go_end0
   all_goals exact⟨f2,g1,g2,rfl,G3.out,G4.out⟩
 |_=>
  change Calls _ _ _ _ (Leaves E f _ w (.ok () σ) uV);simp only[iF];have d:=sD;have H:=fU (G.out.k0 ((Kept.refl [] w).alloc (gI #[gn 0,gn 0,gH kI] 177)));clear h hs C I G;go_enter func155,ntmps155;go_wp2;go_end0;exact gu rfl H.out rfl
def RB.tail {m:M Unit} (h:RB c σ (m σ)):RB c σ ((m>>=λ_=>(Pure.pure ():M Unit)) σ):=by
 rw[M.gx];revert h;cases m σ<;>exact λh=>h
def RB.then {m:M Unit} (h:RB c σ (m σ)) (g:Ab->Ab) (N:∀σ,(g σ).nodes=σ.nodes/\(g σ).gz=σ.gz/\(g σ).act=σ.act/\(g σ).head=σ.head/\(g σ).form=σ.form/\(g σ).pQ=σ.pQ/\(g σ).qQ=σ.qQ/\(g σ).mode=σ.mode/\(g σ).kept=σ.kept/\(g σ).gP=σ.gP/\(g σ).oZ=σ.oZ/\(g σ).waiting=σ.waiting):RB c σ ((m>>=λ_=>wH g>>=λ_=>(Pure.pure ():M Unit)) σ):=by
 rw[M.gx];revert h;cases m σ with
 |ok a σ1=>
  rintro⟨I,B,d,K⟩;obtain⟨k,y,C,D,F,z,A,G,H,r,u,j⟩:=N σ1;refine⟨I.lY k y C D F z A,⟨by rw[y];exact B.ne,?_⟩,⟨r.trans d.gP,z.trans d.pQ,A.trans d.qQ,u.trans d.oZ,by rw[j];exact d.wt,by rw[j];exact d.wz,λi s q=>(d.nm i s q).nodes k⟩,by rw[jm k];exact K⟩;rw[G,H,y];exact B.sh
 |stop e p=>exact λh=>h
 |stuck=>exact λh=>h
def aeY {a b : gy} (h:kC a b=false):a≠b:=by
 rintro rfl;unfold kC at h;simp at h
def L6 (i:Nat) (a:gy×gy) (r:lh) (σ:Ab):qo i (a::r) σ=(match σ.hU i with
  |none=> .stuck
  |some e=>if yU e.gU a.1 then qo i r σ else if σ.oZ<=e.gU.length then .stop 7 σ.gP else qo i r (σ.ib i {e with gU:=e.gU++[a]})):=rfl
theorem EJ:∀(gL:lh) {σ:Ab},mM σ->(σ.hU i).isSome=true->jH 0 σ (qo i gL σ) (λ_ _=>True)
 |[],σ,h,_=>⟨h,Fx.refl _,ig _,trivial⟩
 |a::r,σ,h,hi=>by
  have⟨e,he⟩:=Option.isSome_iff_exists.1 hi;have A:qo i (a::r) σ=(if yU e.gU a.1 then qo i r σ else if σ.oZ<=e.gU.length then .stop 7 σ.gP else qo i r (σ.ib i {e with gU:=e.gU++[a]})):=by
   rw[L6,he]
  rw[A];split
  .exact EJ r h hi
  .split
   .rfl
   .have⟨rr,hr⟩:=h;have m:=Ab.ik he;have G:(σ.hU i).isSome=true:=hi;have y:=hr.alike (σ':=σ.ib i {e with gU:=e.gU++[a]}) (λj q g=>by
     by_cases d:j=i
     .subst d;rw[he]at g;cases g;exact⟨_,Ab.iW m,rfl,rfl,rfl⟩
     .exact⟨q,by rw[Ab.iS d];exact g,rfl,rfl,rfl⟩) (λj q g=>by
     by_cases d:j=i
     .grind
     .rw[Ab.iS d]at g;grind) (λj q g k z=>by
     rw[Ab.la G]
     by_cases d:j=i
     .subst d;rw[Ab.iW m]at g;cases g;exact hr.nL.kd _ _ he k z
     .rw[Ab.iS d]at g;exact hr.nL.kd _ _ g k z)
    have hw:wt (σ.ib i {e with gU:=e.gU++[a]})=wt σ:=by
     have:=rR (e':={e with gU:=e.gU++[a]}) he;dsimp only at this;omega
    have F:=EJ r (σ:=σ.ib i {e with gU:=e.gU++[a]}) ⟨rr,y.1⟩ (by rw[Ab.iW m];rfl);revert F;cases qo i r (σ.ib i {e with gU:=e.gU++[a]})with
    |ok u σ2=>rintro⟨B,C,H,D⟩;exact⟨B,y.2.trans C,by omega,D⟩
    |stop c p=>exact λh=>h
    |stuck=>simp[jH]
def PI (h:mM σ) (a:iU σ i s) (e:nk s=true) (t:gM) (d:σ.fresh=true):jH 0 σ (wj i t σ) (λ_ _=>True):=by
 unfold wj;rw[gF (by rw[rS];exact⟨d,by rw[jx.Qj a];exact e⟩)];exact EJ t.js h (lW a)
def DF (h:mM σ) (a:σ.gz≠[]) (t:gM) (d:σ.fresh=true):jH 0 σ (oG t σ) (λ_ _=>True):=by
 have⟨r,hr⟩:=id h;have⟨q,e,rest,h1,h2,h3,h4⟩:=hr.first a;unfold oG;rw[h2];dsimp only;exact jH.iH (Q:=λ_ _=>True) (PI h ⟨e,h3,h4⟩ (by kernel_rfl) t d)
theorem Nr (h:mM σ) (t:gM) (g:σ.fresh=true):jH 0 σ (qm t σ) (λ_ _=>True):=by
 unfold qm;cases hq:iB σ.gz 1 with
 |none=>exact⟨h,Fx.refl _,ig _,trivial⟩
 |some i=>
  dsimp only;split
  .rename_i d;have⟨r,hr⟩:=id h;have k:some i∈σ.gz:=by
    rw[show(1:Int)=((1:Nat):Int)from rfl,qR,xv]at hq;cases hx:σ.gz[1]? with
    |none=>grind
    |some y=>grind
   have⟨j,e,e1,he⟩:=kL (hr.gz _ k);cases e1;have a:=Sh he;rw[tL d]at a;exact jH.iH (Q:=λ_ _=>True) (PI h a (by kernel_rfl) t g)
  .exact⟨h,Fx.refl _,ig _,trivial⟩
section
variable {σ:Ab} {t:gM} (h:rI σ) (hw:wt σ < 999000)
include h hw
theorem Oj (d:nS σ t) (m:t.name=iG):RB 360 σ (sG t σ):=by
 have a:rn t.name=true:=by rw[m];kernel_rfl
 have:jH 360 σ (sG t σ) (λ_ _=>True):=by
  unfold sG;refine jH.bind (nP h.iv h.ne (by omega)) (c2:=325) ?_ (by omega);rintro _ r g e A ⟨y,z,j⟩;unfold uh;split
  .refine jH.bind (c1:=288) (Et g (e.ne h.ne) (s:=iG) (by grind) (by omega)) (c2:=33) ?_ (by omega);rintro _ u p k B q;exact jH.iH (Q:=λ_ _=>True) (nh p (k.ne (e.ne h.ne)) ⟨d.tag,by rw[q,j];exact d.fr⟩ a (by omega))
  .exact jH.mono (c:=33) (jH.iH (Q:=λ_ _=>True) (nh g (e.ne h.ne) ⟨d.tag,by rw[j];exact d.fr⟩ a (by omega))) (by omega) (λ_ _ _ _ h=>h)
 exact this.rb h.ne h.md
def JX (a:nS σ t):RB 33 σ (pi t σ):=by
 have:jH 33 σ (pi t σ) (λ_ _=>True):=by
  unfold pi;refine jH.bind (oQ h.iv h.ne a (by omega)) (c2:=0) ?_ (by omega);rintro _ e d g j _;exact jH.iH ((vw d none (λ_ h=>by cases h)).mono (ig _) (λ_ _ _ _ _=>trivial))
 exact this.rb h.ne h.md
def aa9 (a:nS σ t) (ks:List gy) (e:ij ks fX=false):RB 1 σ (F9 ks t σ):=by
 have:jH 1 σ (F9 ks t σ) (λ_ _=>True):=by
  unfold F9;refine jH.bind (vY h.iv (ij ks) TI e) (c2:=1) ?_ (by omega);rintro _ k g d m ⟨j,_⟩;exact jH.iH ((th g (d.ne h.ne) ⟨a.tag,j.fresh.trans a.fr⟩ (by omega)).mono (ig _) (λ_ _ _ _ _=>trivial))
 exact this.rb h.ne h.md
def Ee (a:nS σ t):RB 1 σ (ui t σ):=RB.tail (Gi h hw a false)
def Ed (a:nS σ t):RB 1 σ (oR t σ):=RB.tail (Gi h hw a true)
def Fm (a:nS σ t):RB 1 σ (pW t σ):=RB.then (Ee h hw a) _ (λ_=>⟨rfl,rfl,rfl,rfl,rfl,rfl,rfl,rfl,rfl,rfl,rfl,rfl⟩)
omit hw in
def PH (a:σ.fresh=true):RB 0 σ (oG t σ):=(DF h.iv h.ne t a).rb h.ne h.md
omit hw in
def PG (a:σ.fresh=true):RB 0 σ (qm t σ):=(Nr h.iv t a).rb h.ne h.md
omit hw in
def Sm:RB 0 σ (yP σ):=by
 unfold yP;split
 .exact⟨h.iv.lY rfl rfl rfl rfl rfl rfl rfl,⟨h.ne,.inl rfl⟩,⟨rfl,rfl,rfl,rfl,lf _,λ_ h=> .inl h,λ_ _ h=>h⟩,ni (jm rfl)⟩
 .exact rX h.iv h.Xp
omit hw in
def Ik (p b:gy->Bool) (a:p fX=false):RB 0 σ ((nj p b>>=λ_=>(Pure.pure ():M Unit)) σ):=
 (jH.iH (Q:=λ_ _=>True) ((vY h.iv p b a).mono (ig _) (λ_ _ _ _ _=>trivial))).rb h.ne h.md
omit hw in
def Pl (a:t.name≠fX):RB 0 σ (x9 t σ):=Ik h _ _ (by
 rw[yf];cases hx:kC fX t.name with
 |false=>rfl
 |true=>exact absurd (tL hx).symm a)
omit hw in
def KR:RB 0 σ (tK σ):=Ik h _ _ (by kernel_rfl)
omit hw in
def Sr:RB 0 σ (A0 σ):=Ik h _ _ (by kernel_rfl)
omit hw in
def Pp (a:t.name≠fX):RB 0 σ (yb t σ):=(jH.iH (Q:=λ_ _=>True) ((Dz h.iv a).mono (ig _) (λ_ _ _ _ _=>trivial))).rb h.ne h.md
def aaP:RB 1 σ (Pq σ):=by
 have:jH 1 σ (Pq σ) (λ_ _=>True):=by
  unfold Pq;split
  .exact jH.mono (c:=0) (jH.iH (Q:=λ_ _=>True) ((tH h.iv).mono (ig _) (λ_ _ _ _ _=>trivial))) (by omega) (λ_ _ _ _ h=>h)
  .refine jH.bind (rW h.iv h.ne (by omega) nc) (c2:=0) ?_ (by omega);rintro _ d a e g _;exact jH.iH ((tH a).mono (ig _) (λ_ _ _ _ _=>trivial))
 exact this.rb h.ne h.md
def Pm:RB 33 σ (uI σ):=by
 have:jH 33 σ (uI σ) (λ_ _=>True):=by
  unfold uI;refine jH.bind (nP h.iv h.ne (by omega)) (c2:=1) ?_ (by omega);rintro _ g d a p _;refine jH.bind (rW d (a.ne h.ne) (by omega) j3) (c2:=0) ?_ (by omega);rintro _ k e m r ⟨j,q,_⟩;exact jH.iH ((ym e (DT q (a.ne h.ne))).mono (ig _) (λ_ _ _ _ _=>trivial))
 exact this.rb h.ne h.md
omit hw in
def So:RB 0 σ (yQ σ):=by
 unfold yQ;cases hf:σ.form with
 |none=>exact rX h.iv h.Xp
 |some i=>
  dsimp only;have m:iU σ i iL:=by obtain⟨r,q⟩:=h.iv;exact q.form i hf
  have d:mM {σ with form:=none}:=h.iv.Od none (λ_ h=>by cases h);split
  .obtain⟨j,a,B⟩:=Iq d uM (by kernel_rfl);have k:=Ci j (i:=i) (s:=iL) (a.nm _ _ m) (by intro e;cases e);show RB 0 σ ((ku (some i)>>=λ_=>(Pure.pure ():M Unit)) (({σ with form:=none}:Ab).mF));rw[M.gx];revert k;have g:({σ with form:=none}:Ab).mF={({σ with form:=none}:Ab)with gz:=(Ab.qc {σ with form:=none} uM ({σ with form:=none}:Ab).gz.reverse).reverse}:=rfl;rw[g];cases ku (some i) _ with
   |ok u σ2=>
    rintro⟨y,z,C,A⟩;have F:=a.trans z;refine⟨y,⟨F.ne h.ne,.inl ?_⟩,⟨F.gP,F.pQ,F.qQ,F.oZ,?_,by rw[F.waiting];exact λ_ h=> .inl h,F.nm⟩,?_⟩
    .rw[F.mode];exact h.md
    .rw[F.waiting];show σ.waiting.length<=_;omega
    .rw[jm A.nodes];exact ni (jm rfl)
   |stop c p=>exact λh=>h
   |stuck=>exact λh=>h
  .exact⟨d,⟨h.ne,.inl h.md⟩,⟨rfl,rfl,rfl,rfl,lf _,λ_ h=> .inl h,λ_ _ h=>h⟩,ni (jm rfl)⟩
def EF (a:rn t.name=true):RB 288 σ (pR t σ):=(jH.iH (Q:=λ_ _=>True) ((Et h.iv h.ne a (by omega)).mono (ig _) (λ_ _ _ _ _=>trivial))).rb h.ne h.md
omit hw in
def Nk:RB 0 σ (sC σ):=by
 have:jH 0 σ (sC σ) (λ_ _=>True):=by
  unfold sC;refine jH.bind (vY h.iv (ij [gV]) iP (by kernel_rfl)) (c2:=0) ?_ (by omega);rintro b d a e g _;cases b with
  |true=>exact(Ke a).mono (ig _) (λ_ _ _ _ _=>trivial)
  |false=>exact⟨a,Fx.refl _,ig _,trivial⟩
 exact this.rb h.ne h.md
def Bw (a:t.chars.size<=100):RB 101 σ (j7 t σ):=((oH h.iv h.ne t (by omega)).mono (c':=101) (by omega) (λ_ _ _ _ h=>h)).rb h.ne h.md
def KI (g:t.chars.size<=100):RB 200 σ (nG t σ):=by
 unfold nG;split
 .exact(rX h.iv h.Xp).mono (by omega)
 .have:jH 200 σ ((lK>>=λ_=>j7 t>>=λ_=>(Pure.pure ():M Unit)) σ) (λ_ _=>True):=by
   refine jH.bind (nP h.iv h.ne (by omega)) (c2:=101) ?_ (by omega);rintro _ e d a j _;exact jH.iH (Q:=λ_ _=>True) ((oH d (a.ne h.ne) t (by omega)).mono (by omega) (λ_ _ _ _ _=>trivial))
  exact this.rb h.ne h.md
def GB (a:t.chars.size<=100):RB 101 σ (pr t σ):=by
 unfold pr;split
 .exact(rX h.iv h.Xp).mono (by omega)
 .exact RB.tail (Bw h hw a)
end
def FT (h:mM σ) (g:M (Nat×Nat)) (e:∃d,g σ= .ok d σ/\Bi σ d) (t:gM) (hw:wt σ < 999000):jH 1 σ (nU g t σ) (λ_ _=>True):=by
 have⟨a,b,k,gL⟩:=t;cases k with
 |gR s=>
  have⟨d,h1,h2⟩:=e;show jH 1 σ ((g>>=λd=>oO d (.cm s) .cm>>=λ_=>(Pure.pure ():M Unit)) σ) _;rw[M.gx,h1];dsimp only;exact jH.iH (m:=oO d (.cm s) .cm) (Q:=λ_ _=>True) ((Fc h h2 (.cm s) .cm (.inl ⟨s,rfl,rfl⟩) (by omega)).mono (ig _) (λ_ _ _ _ _=>trivial))
 |ke s=>exact⟨h,Fx.refl _,lf _,trivial⟩
 |start s=>exact⟨h,Fx.refl _,lf _,trivial⟩
 |stop s=>exact⟨h,Fx.refl _,lf _,trivial⟩
 |iM s q=>exact⟨h,Fx.refl _,lf _,trivial⟩
 |lost=>exact⟨h,Fx.refl _,lf _,trivial⟩
 |im=>exact⟨h,Fx.refl _,lf _,trivial⟩
theorem Aw (h:mM σ) (a:σ.gz≠[]):∃d,mW σ= .ok d σ/\Bi σ d:=by
 have⟨r,h⟩:=h;have⟨d,h1,h2,_⟩:=EX h a
 grind
def Nb (h:mM σ):∃a,jy 0 σ= .ok a σ/\Bi σ a:=by
 have⟨e,he⟩:=Option.isSome_iff_exists.1 h.xf;exact⟨_,by unfold jy;rw[he],e,he,ig _⟩
def EB (σ:Ab) (r:pG Bool):Prop:=match r with
 | .ok x σ'=>mM σ'/\σ'.gz≠[]/\p9 σ'.mode=true/\(Lm σ σ'/\σ'.waiting=σ.waiting)/\wt σ'<=wt σ/\σ'.fresh=σ.fresh/\(x=true->σ'.gz.length < σ.gz.length)/\(x=false->σ'=σ)
 | .stop _ _=>False
 | .stuck=>False
def lm0 (σ:Ab):Lm σ σ:=⟨rfl,rfl,rfl,rfl,lf _,λ_ h=> .inl h,λ_ _ h=>h⟩
def EB.no (h:rI σ):EB σ (.ok false σ):=⟨h.iv,h.ne,h.md,⟨lm0 σ,rfl⟩,ig _,rfl,(λh=>by cases h),λ_=>rfl⟩
def EB.Qp (h:rI σ) (p b:gy->Bool) (H:p fX=false) {k:Bool->M Bool} (G:k false=Pure.pure false) (I:∀a,mM a->a.gz≠[]->∃d,k true a= .ok true d/\mM d/\d.gz=a.gz/\p9 d.mode=true/\d.gP=a.gP/\d.pQ=a.pQ/\d.qQ=a.qQ/\d.oZ=a.oZ/\d.waiting=a.waiting/\d.nodes=a.nodes/\d.fresh=a.fresh):EB σ ((nj p b>>=k) σ):=by
 have F:=vY h.iv p b H;rw[M.gx];revert F;cases hq:nj p b σ with
 |ok x a=>
  rintro⟨K,g,Q,N,O,P⟩;dsimp only;cases x with
  |false=>
   rw[G];have e:=P rfl;subst e;exact EB.no h
  |true=>
   obtain⟨d,e,y,r,z,A,B,C,D,m,u,j⟩:=I a K (g.ne h.ne);rw[e];refine⟨y,by rw[r];exact g.ne h.ne,z,⟨⟨A.trans g.gP,B.trans g.pQ,C.trans g.qQ,D.trans g.oZ,?_,by rw[m,g.waiting];exact λ_ h=> .inl h,λi s q=>(g.nm i s q).nodes u⟩,m.trans g.waiting⟩,?_,j.trans N.fresh,?_,λh=>by cases h⟩
   .rw[m,g.waiting];omega
   .rw[jm u];exact Q
   .intro _;rw[r];exact O rfl
 |stop c p=>unfold nj at hq;split at hq<;>cases hq
 |stuck=>exact λh=>h.elim
def Cb (h:rI σ) (ks:List gy) (m:Nat) (d:ij ks fX=false) (e:p9 m=true):EB σ (rU ks m σ):=by
 unfold rU;refine EB.Qp h _ _ d (k:=λb=>if b then (do jO m;return true)else return false) rfl ?_;intro a j g;exact⟨{a with mode:=m},rfl,j.lY rfl rfl rfl rfl rfl rfl rfl,rfl,e,rfl,rfl,rfl,rfl,rfl,rfl,rfl⟩
def ya (h:rI σ) (ks:List gy) (m:Nat) (A:ij ks fX=false) (B:p9 m=true):EB σ (lj ks m σ):=by
 have z:=Cb h ks m A B;unfold lj;rw[M.gx];revert z;cases rU ks m σ with
 |ok x σ1=>
  rintro⟨e,j,g,⟨a,r⟩,q,k,d,u⟩;dsimp only;cases x with
  |false=>exact⟨e,j,g,⟨a,r⟩,q,k,d,u⟩
  |true=>
   obtain⟨y,C,D,F⟩:=Ke e;exact⟨y,j,g,⟨⟨a.gP,a.pQ,a.qQ,a.oZ,a.wt,a.wz,a.nm⟩,r⟩,q,k,d,λh=>by cases h⟩
 |stop c p=>exact λh=>h
 |stuck=>exact λh=>h
theorem RA (s:gy):p9 (jR s)=true:=by
 grind[p9,jR]
def Gm (σ:Ab):∀a:kQ,p9 (tZ σ a)=true
 |[]=>rfl
 |x::a=>by
  unfold tZ;split
  .exact Gm σ a
  .exact RA _
def QQ (h:rI σ) (p b:gy->Bool) (e:p fX=false):EB σ ((nj p b>>=λb=>if b then (do xF;return true)else return false) σ):=by
 refine EB.Qp h p b e (k:=λb=>if b then (do xF;return true)else return false) rfl ?_;intro a g d;exact⟨{a with mode:=tZ a a.gz.reverse},rfl,g.lY rfl rfl rfl rfl rfl rfl rfl,rfl,Gm _ _,rfl,rfl,rfl,rfl,rfl,rfl,rfl⟩
def Dy (h:rI σ):EB σ (mB σ):=by
 unfold mB;split
 .rename_i e;have g:=xe h.iv _ (by kernel_rfl) e;obtain⟨a,d⟩:=EY h.iv g;show EB σ (.ok true {σ.pop with mode:=7});refine⟨a.lY rfl rfl rfl rfl rfl rfl rfl,d.ne h.ne,rfl,⟨⟨rfl,rfl,rfl,rfl,lf _,λ_ h=> .inl h,λ_ _ h=>h⟩,rfl⟩,ni (jm rfl),rfl,λ_=>?_,λh=>by cases h⟩;show σ.gz.dropLast.length < _;simp;omega
 .exact EB.no h
structure vS (b:M Bool):Prop where
 ok:∀σ,rI σ->EB σ (b σ)
def Nh:vS tJ:=⟨λ_ h=>ya h _ _ (by kernel_rfl) rfl⟩
def VQ:vS endCell:=⟨λ_ h=>ya h _ _ (by kernel_rfl) rfl⟩
def Ym:vS EH:=⟨λ_ h=>Cb h _ _ (by kernel_rfl) rfl⟩
def ID:vS qP:=⟨λ_ h=>Cb h _ _ (by kernel_rfl) rfl⟩
def Su:vS yc:=⟨λ_ h=>QQ h _ _ (by kernel_rfl)⟩
def Pr:vS vG:=⟨λ_ h=>QQ h _ _ (by kernel_rfl)⟩
def EA:vS mB:=⟨λ_ h=>Dy h⟩
def aaR {b:M Bool} (d:vS b) (h:rI σ):RB 0 σ (DA b σ):=by
 have a:=d.ok σ h;unfold DA;rw[M.gx];revert a;cases b σ with
 |ok x σ1=>rintro⟨e,k,j,⟨g,y⟩,m,u,q,r⟩;exact⟨e,⟨k,.inl j⟩,g,m⟩
 |stop c p=>simp[EB]
 |stuck=>simp[EB]
def Lm.trans {a b c : Ab} (h:Lm a b) (hw:b.waiting=a.waiting) (k:Lm b c):Lm a c:=⟨k.gP.trans h.gP,k.pQ.trans h.pQ,k.qQ.trans h.qQ,k.oZ.trans h.oZ,by have:=k.wt;rw[hw]at this;exact this,by have:=k.wz;rw[hw]at this;exact this,λi s q=>k.nm i s (h.nm i s q)⟩
def XN {b:M Bool} (B:vS b) (h:rI σ) {rec:Nat->gM->M Unit} (C:∀σ',rI σ'->σ'.gz.length < σ.gz.length->wt σ'<=wt σ->σ'.fresh=σ.fresh->σ'.waiting=σ.waiting->σ'.pQ=σ.pQ->RB c σ' (rec σ'.mode t σ')):RB c σ (xw rec b t σ):=by
 have y:=B.ok σ h;unfold xw;rw[M.gx];revert y;cases b σ with
 |ok x σ1=>
  rintro⟨d,g,e,⟨a,j⟩,F,D,k,G⟩;dsimp only;cases x with
  |false=>exact⟨d,⟨g,.inl e⟩,a,by omega⟩
  |true=>
   have z:=C σ1 ⟨d,g,e⟩ (k rfl) F D j a.pQ;have A:RB c σ1 ((j1 rec t>>=λ_=>(Pure.pure ():M Unit)) σ1):=RB.tail z;show RB c σ ((j1 rec t>>=λ_=>(Pure.pure ():M Unit)) σ1);revert A;cases(j1 rec t>>=λ_=>(Pure.pure ():M Unit)) σ1 with
   |ok u σ2=>rintro⟨m,q,r,H⟩;exact⟨m,q,a.trans j r,by omega⟩
   |stop c p=>exact λh=>xI h a.gP
   |stuck=>simp[RB]
 |stop c p=>simp[EB]
 |stuck=>simp[EB]
section
variable {σ:Ab} {t:gM} (h:rI σ) (hw:wt σ < 999000)
include h hw
def MA (d:nS σ t) (ks:List gy) (m:Nat) (g:p9 m=true):RB 1 σ (uE ks m t σ):=by
 unfold uE;refine RB.bind (xb h.iv (ij ks)) (c2:=1) ?_ (by omega);rintro _ q j a u p;refine RB.bind (jT j (a.ne h.ne) (by omega) t d.tag (p.fresh.trans d.fr)) (c2:=0) ?_ (by omega);rintro _ r k e y _;exact Oa k (e.ne (a.ne h.ne)) m g
def GI (e:nS σ t):RB 1 σ (pB t σ):=by
 unfold pB;refine RB.bind (xb h.iv (ij [fZ])) (c2:=1) ?_ (by omega);rintro _ r j a z p;refine RB.bind (vw j none (λ_ h=>by cases h)) (c2:=1) ?_ (by omega);rintro _ u k d A q;refine RB.bind (jT k (d.ne (a.ne h.ne)) (by omega) t e.tag (q.fresh.trans (p.fresh.trans e.fr))) (c2:=0) ?_ (by omega);rintro _ y m g B _;exact Oa m (g.ne (d.ne (a.ne h.ne))) 9 rfl
def zi (g:nS σ t):RB 1 σ (ra t σ):=by
 unfold ra;refine RB.bind (xb h.iv (ij [ic])) (c2:=1) ?_ (by omega);rintro _ D y e F C;refine RB.bind (jT y (e.ne h.ne) (by omega) t g.tag (C.fresh.trans g.fr)) (c2:=0) ?_ (by omega);rintro _ a z j G _;have B:=j.ne (e.ne h.ne);have A:mM {a with mode:=13}:=z.lY rfl rfl rfl rfl rfl rfl rfl;have r:=(jH.iH (Q:=λ_ _=>True) ((vw A none (λ_ h=>by cases h)).mono (ig _) (λ_ _ _ _ _=>trivial))).rb B rfl;show RB 0 a ((lw none>>=λ_=>(Pure.pure ():M Unit)) {a with mode:=13});revert r;cases(lw none>>=λ_=>(Pure.pure ():M Unit)) {a with mode:=13} with
 |ok u σ4=>rintro⟨k,m,d,q⟩;exact⟨k,m,⟨d.gP,d.pQ,d.qQ,d.oZ,d.wt,d.wz,d.nm⟩,q⟩
 |stop c p=>exact λh=>h
 |stuck=>exact λh=>h
def Bm (m:nS σ t) (p:t.name=iL):RB 1 σ (me t σ):=by
 unfold me;cases hf:σ.form with
 |some d=>exact(rX h.iv h.Xp).mono (by omega)
 |none=>
  dsimp only;refine RB.bind (jT h.iv h.ne (by omega) t m.tag m.fr) (c2:=0) ?_ (by omega);rintro _ a r e z ⟨j,q⟩;refine RB.bind (ym r (DT q h.ne)) (c2:=0) ?_ (by omega);rintro x y u g A ⟨rfl,rfl⟩;refine⟨u.Od a.last ?_,⟨g.ne (e.ne h.ne),.inl ?_⟩,⟨rfl,rfl,rfl,rfl,lf _,λ_ h=> .inl h,λ_ _ h=>h⟩,ni (jm rfl)⟩
  .intro d k;rw[DS q]at k;cases k;rw[<-p];exact g.nm _ _ q.nm
  .show p9 a.mode=true;rw[e.mode];exact h.md
def uv (a:nS σ t):RB 1 σ (lx t σ):=(qs h.iv h.ne (by omega) t a.tag a.fr).rb h.ne h.md
def zj (a:nS σ t):RB 1 σ (j5 t σ):=by
 have:jH 1 σ (j5 t σ) (λ_ _=>True):=by
  unfold j5;refine jH.bind (tX h.iv (ij [gN]) (by kernel_rfl)) (c2:=1) ?_ (by omega);rintro _ j e d k g;exact jH.iH ((jT e (d.ne h.ne) (by omega) t a.tag (g.fresh.trans a.fr)).mono (ig _) (λ_ _ _ _ _=>trivial))
 exact this.rb h.ne h.md
def rq (e:nS σ t):jH 1 σ (jv t σ) (λ_ σ'=>2<=σ'.gz.length):=by
 unfold jv;refine jH.bind (tX h.iv (ij [gN]) (by kernel_rfl)) (c2:=1) ?_ (by omega);rintro _ r g a z m;refine jH.bind (tX g (ij [gm]) (by kernel_rfl)) (c2:=1) ?_ (by omega);rintro _ u k d A p;refine jH.iH ((jT k (d.ne (a.ne h.ne)) (by omega) t e.tag (p.fresh.trans (m.fresh.trans e.fr))).mono (ig _) ?_);rintro _ y _ _ ⟨j,q⟩;exact DT q (d.ne (a.ne h.ne))
def xH (a:nS σ t):RB 1 σ (jv t σ):=(rq h hw a).rb h.ne h.md
def CQ (a:nS σ t):RB 1 σ (lL t σ):=by
 have:jH 1 σ (lL t σ) (λ_ _=>True):=by
  unfold lL;refine jH.bind (rq h hw a) (c2:=0) ?_ (by omega);rintro _ g d j k e;exact jH.iH ((ym d e).mono (ig _) (λ_ _ _ _ _=>trivial))
 exact this.rb h.ne h.md
omit hw in
def Af:RB 0 σ (mN σ):=(jH.iH (Q:=λ_ _=>True) ((tX h.iv (ij [gN]) (by kernel_rfl)).mono (ig _) (λ_ _ _ _ _=>trivial))).rb h.ne h.md
omit hw in
theorem yS:RB 0 σ (jl σ):=by
 have g:∀d,mM d->jH 0 d ((pZ (ij [gm])>>=λ_=>(Pure.pure ():M Unit)) d) (λ_ _=>True):=λd p=>
  jH.iH (Q:=λ_ _=>True) ((tX p (ij [gm]) (by kernel_rfl)).mono (ig _) (λ_ _ _ _ _=>trivial))
 have:jH 0 σ (jl σ) (λ_ _=>True):=by
  unfold jl;split
  .rename_i j;have m:=xe h.iv _ (by kernel_rfl) j;have⟨r,hr⟩:=id h.iv;have⟨i,e,h1,h2,h3,h4⟩:=NI hr h.ne;rw[List.getLast?_eq_getElem?]at h3;have⟨a,ha1,ha2⟩:=hr.OW h3 (by omega);have k:iB σ.gz (posOf σ.gz σ.last - 1)=some a:=by
    rw[h1];unfold ahead at ha1;split at ha1
    .grind
    .cases ha1
   rw[k];dsimp only;split
   .refine jH.bind (ym h.iv m) (c2:=0) ?_ (by omega)
    grind
   .exact g σ h.iv
  .exact g σ h.iv
 exact this.rb h.ne h.md
end
def adJ (v:gO):Prop:=v= .nilFunc\/∃k a l,v= .func k a l
def sg:List gO->gO
 |[]=> .func (.func 79) #[] #[]
 | .nilFunc::r=>sg r
 |v::_=>v
theorem Pv (g r:Nat) (vs:List gO) (w:gv) (B:w.heap[g]?=some (gI vs.toArray 143)) (P:∀v∈vs,adJ v) (O:vs.length<=4096):
  Calls prog 298 #[oY g vs.length r] w λe w'=>e=iq (sg vs)/\w'=w:=by
 obtain⟨m,D⟩:∃m,m=sg vs:=⟨_,rfl⟩;rw[<-D];have R:sg (vs.drop 0)=m:=by rw[D];rfl
 have G:=P;have F:=fU B;obtain⟨n,p⟩:∃n,n=vs.length:=⟨_,rfl⟩;rw[<-p]at O|-;have A:=fU p;clear B p;go_enter func298,ntmps298
 go_wp21
 go_loopw [7] (λv wr=>∃k:Nat,v=gn k/\k<=n/\sg (vs.drop k)=m/\wr=w) (λv _=>n - (intOf v).toNat)
 case atStart=>grind
 case round=>
  obtain⟨k,rfl,S,j,rfl⟩:=hrel;have Q:=j
  by_cases z:k < n
  .have d:k < vs.length:=by rw[<-A.out];exact z
   have I:=C7 d;have H:wr.cell? ⟨g,k,none⟩=some vs[k]:=by rw[fW F.out];simp[d]
   have C:=G vs[k] (uR d);rw[I]at j;generalize vs[k]=u at j H C;rcases C with rfl|⟨f,a,l,rfl⟩
   .have q:=fU j;clear j
    go_wp21
    rename_i K y;refine y _ _ ?_;simp only[Bool.not_true];go_wp2;go_roundw
    case rel=>exact⟨k+1,by go_num,by omega,q,trivial⟩
    case measure=>simp[intOf];omega
   .have q:=fU j;clear j
    go_wp21
    rename_i K y;refine y _ _ ?_;simp only[Bool.not_false];go_wp2;go_ret;exact⟨by rw[<-q.out];rfl,rfl⟩
  .have N:vs.drop k=[]:=List.drop_eq_nil_of_le (by rw[<-A.out];omega);rw[N]at j;have q:=fU j;clear j;go_wp2;go_ret;exact⟨by rw[<-q.out];rfl,rfl⟩
def kE:List Ru->Ru
 |[]=> .nothing
 | .nil::r=>kE r
 |x::_=>x
def DV:Option (List (List gy×Ru))->gy->Ru
 |none,_=> .nil
 |some R,k=>(pg R k).getD .nil
def kg (sp:my) (t:gM):Ru:=match t.k with
 | .ke s=>if lU s then kE [sp.blank,sp.ke,sp.iE]else kE [sp.ke,sp.iE]
 | .gR _=>kE [sp.gR,sp.iE]
 | .iM _ _=>kE [sp.iM,sp.iE]
 | .start n=>kE [DV sp.start n,sp.jV,sp.iE]
 | .stop n=>kE [DV sp.stop n,sp.kx,sp.iE]
 | .lost=>kE [sp.im,sp.iE]
 | .im=>kE [sp.im,sp.iE]
theorem nA.isF {r : Ru} (h:nA bm bB bD r v w):(r= .nil/\v= .nilFunc)\/(r≠ .nil/\∃k a l,v= .func k a l):=by
 cases r with
 |nil=>exact .inl ⟨rfl,h⟩
 |nothing=>exact .inr ⟨by simp,_,_,_,h⟩
 |ie f=>exact .inr ⟨by simp,_,_,_,h⟩
 |pq m=>have⟨b1,b2,e,_⟩:=h;grind
 |gR pf own=>have⟨b1,e,_⟩:=h;grind
 |ahead f=>have⟨b1,b2,e,_⟩:=h;grind
 |ends f=>have⟨b1,e,_⟩:=h;grind
 |Nz r=>have⟨b1,b2,u,e,_⟩:=h;grind
 |rG ks m=>have⟨b1,b2,b3,u,e,_⟩:=h;grind
 |nJ ks n m=>have⟨b1,b2,b3,b4,u,e,_⟩:=h;grind
 |item ks=>have⟨b1,b2,b3,u1,u2,e,_⟩:=h;grind
def nA.fv {r : Ru} (h:nA bm bB bD r v w):adJ v:=by
 rcases h.isF with⟨_,e⟩|⟨_,e⟩
 .exact .inl e
 .exact .inr e
inductive vR (bm bB bD:Nat) (w:gv):List Ru->List gO->Prop
 |nil:vR bm bB bD w [] []
 |cons {r:Ru} {v:gO} {rs:List Ru} {vs:List gO} (h:nA bm bB bD r v w) (t:vR bm bB bD w rs vs):vR bm bB bD w (r::rs) (v::vs)
theorem vR.first (h:vR bm bB bD w rs vs):nA bm bB bD (kE rs) (sg vs) w:=by
 induction h with
 |nil=>rfl
 |@cons r v rs vs h t ih=>
  rcases h.isF with⟨rfl,rfl⟩|⟨d,k,a,l,rfl⟩
  all_goals grind[nA,kE,sg]
theorem vR.isF (h:vR bm bB bD w rs vs):∀v∈vs,adJ v:=by
 induction h with
 |nil=>simp
 |cons h t ih=>intro v a;rcases List.mem_cons.1 a with rfl|a;exact h.fv;grind
def tM (h:vR bm bB bD w rs vs) (d:vs.length<=4096) {g : Nat} (a:W.heap.size=g):
  Calls prog 298 #[oY g vs.length vs.length] (W.alloc (gI vs.toArray 143)) λe w'=>e=iq (sg vs)/\w'=W.alloc (gI vs.toArray 143):=by
 subst a;exact Pv _ _ vs _ (fY _ _) h.isF d
def adj (h:v.oneCell'=true):v.cells=#[v]:=by
 cases v<;>first|rfl|(simp[Value.oneCell']at h)
def vQ {v0 v1 v2 v3 v4 v5 v6 v7 v8 v9 : gO} (h:∀v∈[v0,v1,v2,v3,v4,v5,v6,v7,v8,v9],v.oneCell'=true):v0.cells=#[v0]/\v1.cells=#[v1]/\v2.cells=#[v2]/\v3.cells=#[v3]/\v4.cells=#[v4]/\v5.cells=#[v5]/\v6.cells=#[v6]/\v7.cells=#[v7]/\v8.cells=#[v8]/\v9.cells=#[v9]:=by
 refine⟨?_,?_,?_,?_,?_,?_,?_,?_,?_,?_⟩<;>exact adj (h _ (by simp))
def Fp (w:gv) (o a:Obj):((w.alloc o).alloc a).heap[w.heap.size]?=some o:=(Below.heap_alloc _ _ _ (by simp)).trans (fY w _)
def abt (E:Env) (bB bD a b:Nat) (s:gy) (gL:lh) (sp:my) (v0 v1 v2 v3 v4 v5 v6 v7 v8 v9:gO) (w:gv) (h:kN E.bm bB bD sp v0 v1 v2 v3 v4 v5 v6 v7 v8 v9 w):
  Calls prog 245 #[.agg #[v0,v1,v2,v3,v4,v5,v6,v7,v8,v9],iF E ⟨a,b,.ke s,gL⟩] w λe w'=>∃v,e=iq v/\nA E.bm bB bD (kg sp ⟨a,b,.ke s,gL⟩) v w/\Kept [] w w':=by
 have⟨O,G,k2,k3,k4,k5,k6,k7,k8,H⟩:=vQ h.one;have j:=fU h;clear h;have B:=fU (λo=>Fp w (gI #[v0,v1,v2,v3,v4,v5,v6,v7,v8,v9] 147) o);have u:=fU (fY w (gI #[v0,v1,v2,v3,v4,v5,v6,v7,v8,v9] 147));have m:=fU (λo=>((Kept.refl [] w).alloc (gI #[v0,v1,v2,v3,v4,v5,v6,v7,v8,v9] 147)).alloc o);have y:=fU ((Kept.refl [] w).alloc (gI #[v0,v1,v2,v3,v4,v5,v6,v7,v8,v9] 147));simp only[iF];have r:=qC underlying167;have A:=fU (λW=>I5 s W);go_enter func245,ntmps245
 go_wp21
 refine(A.out _).mono ?_;rintro e Z ⟨rfl,k⟩;have q:=k.at (B.out _) (by simp);have C:=fU ((m.out _).trans k);have R:=fW q 0;have S:=fW q 1;have U:=fW q 9;dsimp at R S U;clear q k B u m y A;have N:=j.out.blank.fv;have D:=j.out.ke.fv;have F:=j.out.iE.fv;cases hb:lU s with
 |true=>
  have p:kg sp ⟨a,b,.ke s,gL⟩=kE [sp.blank,sp.ke,sp.iE]:=by simp[kg,hb]
  have d:Hid (vR E.bm bB bD w _ [v0,v1,v9]):=fU (.cons j.out.blank (.cons j.out.ke (.cons j.out.iE (.nil))));have z:=fU p;clear p hb;rcases N with rfl|⟨O,X,Y,rfl⟩
  all_goals rcases D with rfl|⟨G,I,P,rfl⟩
  all_goals rcases F with rfl|⟨H,K,Q,rfl⟩
  all_goals go_wp21
  all_goals refine(tM d.out (by simp) (by simp)).mono ?_
  all_goals rintro e V ⟨rfl,rfl⟩
  all_goals have g:=fU d.out.first
  all_goals simp only[sg]at g|-
  all_goals go_wp2
  all_goals go_ret
  all_goals exact⟨_,rfl,z.out▸g.out,C.out.alloc _⟩
 |false=>
  have p:kg sp ⟨a,b,.ke s,gL⟩=kE [sp.ke,sp.iE]:=by simp[kg,hb]
  have d:Hid (vR E.bm bB bD w _ [v1,v9]):=fU (.cons j.out.ke (.cons j.out.iE (.nil)));have z:=fU p;clear p hb;rcases D with rfl|⟨G,I,P,rfl⟩
  all_goals rcases F with rfl|⟨H,K,Q,rfl⟩
  all_goals go_wp21
  all_goals refine(tM d.out (by simp) (by simp)).mono ?_
  all_goals rintro e V ⟨rfl,rfl⟩
  all_goals have g:=fU d.out.first
  all_goals simp only[sg]at g|-
  all_goals go_wp2
  all_goals go_ret
  all_goals exact⟨_,rfl,z.out▸g.out,C.out.alloc _⟩
def S3 (E:Env) (bB bD a b:Nat) (gL:lh) (sp:my) (v0 v1 v2 v3 v4 v5 v6 v7 v8 v9:gO) (w:gv) (h:kN E.bm bB bD sp v0 v1 v2 v3 v4 v5 v6 v7 v8 v9 w):
  Calls prog 245 #[.agg #[v0,v1,v2,v3,v4,v5,v6,v7,v8,v9],iF E ⟨a,b,.im,gL⟩] w λe w'=>∃v,e=iq v/\nA E.bm bB bD (kg sp ⟨a,b,.im,gL⟩) v w/\Kept [] w w':=by
 have⟨k0,k1,k2,k3,D,k5,k6,k7,k8,F⟩:=vQ h.one;have r:=fU h;clear h;have A:=fU (λo=>Fp w (gI #[v0,v1,v2,v3,v4,v5,v6,v7,v8,v9] 147) o);have j:=fU (fY w (gI #[v0,v1,v2,v3,v4,v5,v6,v7,v8,v9] 147));have y:=fU (λo=>((Kept.refl [] w).alloc (gI #[v0,v1,v2,v3,v4,v5,v6,v7,v8,v9] 147)).alloc o);have z:=fU ((Kept.refl [] w).alloc (gI #[v0,v1,v2,v3,v4,v5,v6,v7,v8,v9] 147));simp only[iF];have u:=vh;have k:=sD;have m:=vO;have g:=qw;have p:=yj;have G:=fW j.out 4;have H:=fW j.out 9;dsimp at G H;clear A j y;have d:Hid (vR E.bm bB bD w _ [v4,v9]):=fU (.cons r.out.im (.cons r.out.iE (.nil)));have B:=r.out.im.fv;have C:=r.out.iE.fv;go_enter func245,ntmps245;rcases B with rfl|⟨D,I,N,rfl⟩
 all_goals rcases C with rfl|⟨F,K,O,rfl⟩
 all_goals go_wp21
 all_goals refine(tM d.out (by simp) (by simp)).mono ?_
 all_goals rintro e P ⟨rfl,rfl⟩
 all_goals have q:=fU d.out.first
 all_goals simp only[sg]at q|-
 all_goals go_wp2
 all_goals go_ret
 all_goals exact⟨_,rfl,q.out,z.out.alloc _⟩
def MJ (w:gv):(zeroValue 143).run prog w= .ok .nilFunc w:=by simp
theorem Qa {R : Option (List (List gy×Ru))} (h:rD bm bB bD R v w) (n:gy):
  ∃u,(∀w',Kept [] w w'->(Instr.lookup 145 v (gH n) false).run prog w'= .ok u w')/\nA bm bB bD (DV R n) u w:=by
 cases R with
 |none=>
  obtain rfl:v= .map none:=h;refine⟨.nilFunc,λw' _=>?_,rfl⟩;have j:(underlying 9).run prog w'= .ok .string w':=pO underlying9 _;have e:∀x,(Instr.checkKey x 10000 9 (gH n)).run prog w'= .ok () w':=λx=>by
   unfold Instr.checkKey;simp
  simp[Instr.lookup,pO (show prog.underlying 145=some (.map 9 143) by simp),e,Instr.findKey,Instr.findNow,j,MJ,Result.andThen]
 |some R=>
  obtain⟨b,L,rfl,d,k⟩:=h;have a:=d.lt;refine⟨(zP L n).getD .nilFunc,λw' g=>Fh (by simp) MJ (d.keeps (g.block b a (by simp))) n,?_⟩
  grind[nA,DV,zP]
def Zj (E:Env) (bB bD a b:Nat) (n:gy) (gL:lh) (sp:my) (v0 v1 v2 v3 v4 v5 v6 v7 v8 v9:gO) (w:gv) (h:kN E.bm bB bD sp v0 v1 v2 v3 v4 v5 v6 v7 v8 v9 w) (d:∃x m c,E.tv= .slice x m c):
  Calls prog 245 #[.agg #[v0,v1,v2,v3,v4,v5,v6,v7,v8,v9],iF E ⟨a,b,.start n,gL⟩] w λe w'=>∃v,e=iq v/\nA E.bm bB bD (kg sp ⟨a,b,.start n,gL⟩) v w/\Kept [] w w':=by
 have⟨k0,k1,k2,k3,k4,V,k6,X,k8,Y⟩:=vQ h.one;have A:=fU h;clear h;have K:=fU (λo=>Fp w (gI #[v0,v1,v2,v3,v4,v5,v6,v7,v8,v9] 147) o);have F:=fU (fY w (gI #[v0,v1,v2,v3,v4,v5,v6,v7,v8,v9] 147));have k:=fU (λo=>((Kept.refl [] w).alloc (gI #[v0,v1,v2,v3,v4,v5,v6,v7,v8,v9] 147)).alloc o);have G:=fU ((Kept.refl [] w).alloc (gI #[v0,v1,v2,v3,v4,v5,v6,v7,v8,v9] 147));simp only[iF];have⟨x0,m0,c0,d⟩:=d;rw[d];clear d;have D:=vh;have r:=sD;have y:=vO;have j:=qC underlying175;have⟨u,hlk,hu⟩:=Qa A.out.start n;have H:=fU hlk;have q:=hlk ((w.alloc (gI #[v0,v1,v2,v3,v4,v5,v6,v7,v8,v9] 147)).alloc (gI #[gn a,gn b,gH n,.slice x0 m0 c0] 175)) (k.out _);have C:=K.out (gI #[gn a,gn b,gH n,.slice x0 m0 c0] 175);have I:=fY (w.alloc (gI #[v0,v1,v2,v3,v4,v5,v6,v7,v8,v9] 147)) (gI #[gn a,gn b,gH n,.slice x0 m0 c0] 175);have B:=fU (k.out (gI #[gn a,gn b,gH n,.slice x0 m0 c0] 175));obtain⟨W,p⟩:∃W,W=((w.alloc (gI #[v0,v1,v2,v3,v4,v5,v6,v7,v8,v9] 147)).alloc (gI #[gn a,gn b,gH n,.slice x0 m0 c0] 175)):=⟨_,rfl⟩;have O:(w.alloc (gI #[v0,v1,v2,v3,v4,v5,v6,v7,v8,v9] 147)).heap.size=w.heap.size+1:=by simp
 rw[O]at I;have q5:W.cell? ⟨w.heap.size,5,none⟩=some v5:=by rw[p,fW C];rfl
 have q7:W.cell? ⟨w.heap.size,7,none⟩=some v7:=by rw[p,fW C];rfl
 have q9:W.cell? ⟨w.heap.size,9,none⟩=some v9:=by rw[p,fW C];rfl
 have qn:W.cell? ⟨w.heap.size+1,2,none⟩=some (gH n):=by rw[p,fW I];rfl
 rw[<-p]at B q;have Q:=fU p.symm;clear C I K F k G hlk p O H;have N:kg sp ⟨a,b,.start n,gL⟩=kE [DV sp.start n,sp.jV,sp.iE]:=rfl;have g:Hid (vR E.bm bB bD w _ [u,v7,v9]):=fU (.cons hu (.cons A.out.jV (.cons A.out.iE (.nil))));have P:=fU N;clear N;have R:=hu.fv;have S:=A.out.jV.fv;have U:=A.out.iE.fv;clear hu;go_enter func245,ntmps245
 go_wp21
 rw[Q.out]
 go_wp21
 rw[q];clear q;rcases R with rfl|⟨V,Z,l5,rfl⟩
 all_goals rcases S with rfl|⟨X,a7,l7,rfl⟩
 all_goals rcases U with rfl|⟨Y,a9,l9,rfl⟩
 all_goals go_wp2_with fail
 all_goals refine(tM g.out (by simp) (by simp)).mono ?_
 all_goals rintro e w3 ⟨rfl,rfl⟩
 all_goals have z:=fU g.out.first
 all_goals simp only[sg]at z|-
 all_goals go_wp2
 all_goals go_ret
 all_goals exact⟨_,rfl,P.out▸z.out,B.out.alloc _⟩
def abu (E:Env) (bB bD a b:Nat) (n:gy) (gL:lh) (sp:my) (v0 v1 v2 v3 v4 v5 v6 v7 v8 v9:gO) (w:gv) (h:kN E.bm bB bD sp v0 v1 v2 v3 v4 v5 v6 v7 v8 v9 w) (d:∃x m c,E.tv= .slice x m c):
  Calls prog 245 #[.agg #[v0,v1,v2,v3,v4,v5,v6,v7,v8,v9],iF E ⟨a,b,.stop n,gL⟩] w λe w'=>∃v,e=iq v/\nA E.bm bB bD (kg sp ⟨a,b,.stop n,gL⟩) v w/\Kept [] w w':=by
 have⟨k0,k1,k2,k3,k4,X,k6,k7,Y,Z⟩:=vQ h.one;have B:=fU h;clear h;have N:=fU (λo=>Fp w (gI #[v0,v1,v2,v3,v4,v5,v6,v7,v8,v9] 147) o);have G:=fU (fY w (gI #[v0,v1,v2,v3,v4,v5,v6,v7,v8,v9] 147));have k:=fU (λo=>((Kept.refl [] w).alloc (gI #[v0,v1,v2,v3,v4,v5,v6,v7,v8,v9] 147)).alloc o);have H:=fU ((Kept.refl [] w).alloc (gI #[v0,v1,v2,v3,v4,v5,v6,v7,v8,v9] 147));simp only[iF];have⟨x0,m0,c0,d⟩:=d;rw[d];clear d;have F:=vh;have r:=sD;have y:=vO;have j:=qw;have z:=qC underlying176;have⟨u,hlk,hu⟩:=Qa B.out.stop n;have I:=fU hlk;have q:=hlk ((w.alloc (gI #[v0,v1,v2,v3,v4,v5,v6,v7,v8,v9] 147)).alloc (gI #[gn a,gn b,gH n,.slice x0 m0 c0] 176)) (k.out _);have D:=N.out (gI #[gn a,gn b,gH n,.slice x0 m0 c0] 176);have K:=fY (w.alloc (gI #[v0,v1,v2,v3,v4,v5,v6,v7,v8,v9] 147)) (gI #[gn a,gn b,gH n,.slice x0 m0 c0] 176);have C:=fU (k.out (gI #[gn a,gn b,gH n,.slice x0 m0 c0] 176));obtain⟨W,p⟩:∃W,W=((w.alloc (gI #[v0,v1,v2,v3,v4,v5,v6,v7,v8,v9] 147)).alloc (gI #[gn a,gn b,gH n,.slice x0 m0 c0] 176)):=⟨_,rfl⟩;have P:(w.alloc (gI #[v0,v1,v2,v3,v4,v5,v6,v7,v8,v9] 147)).heap.size=w.heap.size+1:=by simp
 rw[P]at K;have q6:W.cell? ⟨w.heap.size,6,none⟩=some v6:=by rw[p,fW D];rfl
 have q8:W.cell? ⟨w.heap.size,8,none⟩=some v8:=by rw[p,fW D];rfl
 have q9:W.cell? ⟨w.heap.size,9,none⟩=some v9:=by rw[p,fW D];rfl
 have qn:W.cell? ⟨w.heap.size+1,2,none⟩=some (gH n):=by rw[p,fW K];rfl
 rw[<-p]at C q;have R:=fU p.symm;clear D K N G k H hlk p P I;have O:kg sp ⟨a,b,.stop n,gL⟩=kE [DV sp.stop n,sp.kx,sp.iE]:=rfl;have g:Hid (vR E.bm bB bD w _ [u,v8,v9]):=fU (.cons hu (.cons B.out.kx (.cons B.out.iE (.nil))));have Q:=fU O;clear O;have S:=hu.fv;have U:=B.out.kx.fv;have V:=B.out.iE.fv;clear hu;go_enter func245,ntmps245
 go_wp21
 rw[R.out]
 go_wp21
 rw[q];clear q;rcases S with rfl|⟨X,a5,l5,rfl⟩
 all_goals rcases U with rfl|⟨Y,a8,l8,rfl⟩
 all_goals rcases V with rfl|⟨Z,a9,l9,rfl⟩
 all_goals go_wp2_with fail
 all_goals refine(tM g.out (by simp) (by simp)).mono ?_
 all_goals rintro e w3 ⟨rfl,rfl⟩
 all_goals have A:=fU g.out.first
 all_goals simp only[sg]at A|-
 all_goals go_wp2
 all_goals go_ret
 all_goals exact⟨_,rfl,Q.out▸A.out,C.out.alloc _⟩
def SY (E:Env) (bB bD a b:Nat) (s:gy) (gL:lh) (sp:my) (v0 v1 v2 v3 v4 v5 v6 v7 v8 v9:gO) (w:gv) (h:kN E.bm bB bD sp v0 v1 v2 v3 v4 v5 v6 v7 v8 v9 w):
  Calls prog 245 #[.agg #[v0,v1,v2,v3,v4,v5,v6,v7,v8,v9],iF E ⟨a,b,.gR s,gL⟩] w λe w'=>∃v,e=iq v/\nA E.bm bB bD (kg sp ⟨a,b,.gR s,gL⟩) v w/\Kept [] w w':=by
 have⟨k0,k1,C,k3,k4,k5,k6,k7,k8,D⟩:=vQ h.one;have m:=fU h;clear h;have z:=fU (λo=>Fp w (gI #[v0,v1,v2,v3,v4,v5,v6,v7,v8,v9] 147) o);have q:=fU (fY w (gI #[v0,v1,v2,v3,v4,v5,v6,v7,v8,v9] 147));have k:=fU (λo=>((Kept.refl [] w).alloc (gI #[v0,v1,v2,v3,v4,v5,v6,v7,v8,v9] 147)).alloc o);have r:=fU ((Kept.refl [] w).alloc (gI #[v0,v1,v2,v3,v4,v5,v6,v7,v8,v9] 147));simp only[iF];have p:=vh;have g:=qC underlying177;have y:=z.out (gI #[gn a,gn b,gH s] 177);have u:=fU (k.out (gI #[gn a,gn b,gH s] 177));have F:=fW y 2;have G:=fW y 9;dsimp at F G;clear y z q k r;have d:Hid (vR E.bm bB bD w _ [v2,v9]):=fU (.cons m.out.gR (.cons m.out.iE (.nil)));have A:=m.out.gR.fv;have B:=m.out.iE.fv;go_enter func245,ntmps245;rcases A with rfl|⟨C,H,K,rfl⟩
 all_goals rcases B with rfl|⟨D,I,N,rfl⟩
 all_goals go_wp21
 all_goals refine(tM d.out (by simp) (by simp)).mono ?_
 all_goals rintro e O ⟨rfl,rfl⟩
 all_goals have j:=fU d.out.first
 all_goals simp only[sg]at j|-
 all_goals go_wp2
 all_goals go_ret
 all_goals exact⟨_,rfl,j.out,u.out.alloc _⟩
def SZ (E:Env) (bB bD a b:Nat) (n:gy) (q:Bool) (gL:lh) (sp:my) (v0 v1 v2 v3 v4 v5 v6 v7 v8 v9:gO) (w:gv) (h:kN E.bm bB bD sp v0 v1 v2 v3 v4 v5 v6 v7 v8 v9 w):
  Calls prog 245 #[.agg #[v0,v1,v2,v3,v4,v5,v6,v7,v8,v9],iF E ⟨a,b,.iM n q,gL⟩] w λe w'=>∃v,e=iq v/\nA E.bm bB bD (kg sp ⟨a,b,.iM n q,gL⟩) v w/\Kept [] w w':=by
 have⟨k0,k1,k2,F,k4,k5,k6,k7,k8,G⟩:=vQ h.one;have p:=fU h;clear h;have B:=fU (λo=>Fp w (gI #[v0,v1,v2,v3,v4,v5,v6,v7,v8,v9] 147) o);have u:=fU (fY w (gI #[v0,v1,v2,v3,v4,v5,v6,v7,v8,v9] 147));have m:=fU (λo=>((Kept.refl [] w).alloc (gI #[v0,v1,v2,v3,v4,v5,v6,v7,v8,v9] 147)).alloc o);have y:=fU ((Kept.refl [] w).alloc (gI #[v0,v1,v2,v3,v4,v5,v6,v7,v8,v9] 147));simp only[iF];have r:=vh;have g:=sD;have j:=qC underlying179;have A:=B.out (gI #[gn a,gn b,gH n,.bool q] 179);have z:=fU (m.out (gI #[gn a,gn b,gH n,.bool q] 179));have H:=fW A 3;have I:=fW A 9;dsimp at H I;clear A B u m y;have d:Hid (vR E.bm bB bD w _ [v3,v9]):=fU (.cons p.out.iM (.cons p.out.iE (.nil)));have C:=p.out.iM.fv;have D:=p.out.iE.fv;go_enter func245,ntmps245;rcases C with rfl|⟨F,K,O,rfl⟩
 all_goals rcases D with rfl|⟨G,N,P,rfl⟩
 all_goals go_wp21
 all_goals refine(tM d.out (by simp) (by simp)).mono ?_
 all_goals rintro e Q ⟨rfl,rfl⟩
 all_goals have k:=fU d.out.first
 all_goals simp only[sg]at k|-
 all_goals go_wp2
 all_goals go_ret
 all_goals exact⟨_,rfl,k.out,z.out.alloc _⟩
def Leaves.k0 {α:Type} {r:pG α} {d:(Nat->Nat)->α->gO} {e : Ending} (h:Leaves E f n w' r d e W) (j:Kept [] w w'):Leaves E f n w r d e W:=by
 cases r with
 |ok a σ'=>have⟨g,h1,h2,h3,h4,h5⟩:=h;exact⟨g,h1,h2,h3,h4,(Fr.gX j).trans h5⟩
 |stop c p=>have⟨k,h1,h2,h3⟩:=h;exact⟨k,h1,h2,(Fr.gX j).trans h3⟩
 |stuck=>exact h
def aco (E:Env) (t:gM):Prop:=∀(bB bD:Nat) (a:my) (d g j k m p q r u y:gO) (w:gv),kN E.bm bB bD a d g j k m p q r u y w->
  Calls prog 245 #[.agg #[d,g,j,k,m,p,q,r,u,y],iF E t] w λe w'=>∃v,e=iq v/\nA E.bm bB bD (kg a t) v w/\Kept [] w w'
def lR (E:Env) (r:Ru) (t:gM) (m:M Unit):Prop:=∀v f σ w,RF E f σ w->nA E.bm E.bB (f 0) r v w->m σ≠ .stuck->
  ∃k d e,v= .func (.func k) d e/\(∀a w,(callFunc k a).run prog w= .ok (.enter k a) w)/\Calls prog k (d++#[iF E t]++e) w (Leaves E f σ.nodes.length w (m σ) uV)
def asM (a:Ru->gM->M Unit) (m:Nat) (t:gM):M Unit:=match yr[m]? with
 |some sp=>a (kg sp t) t
 |none=>stuck
theorem RF.Gn (h:RF E f σ w) {m : Nat} {sp : my} (F:yr[m]?=some sp):∃d g k p q r u y z A,kN E.bm E.bB (f 0) sp d g k p q r u y z A w/\
  (∀j,j < 10->w.cell? ⟨E.bB,4+m*10+j,none⟩=[d,g,k,p,q,r,u,y,z,A][j]?):=by
 obtain⟨L,rfl,B⟩:=h;have⟨cs,hcs,hlen,hru⟩:=B.env.Gn;have⟨d,g,k,p,q,r,u,y,z,A,e,hi⟩:=hru m sp F;have G:m < 18:=(List.getElem?_eq_some_iff.1 F).1;refine⟨d,g,k,p,q,r,u,y,z,A,?_,?_⟩
 .have D:=B.fr;have a:=D.n E.bm;have H:∀{R:Option (List (List gy×Ru))} {v:gO},rD E.bm E.bB (L.gP 0) R v E.w0->rD E.bm E.bB (L.gP 0) R v w:=by
   intro R v h;cases R with
   |none=>exact h
   |some R=>have⟨b,hb⟩:=h;exact⟨b,hb.fr a (D.calm (.inl hb.at))⟩
  exact⟨hi.blank.fr a,hi.ke.fr a,hi.gR.fr a,hi.iM.fr a,hi.im.fr a,H hi.start,H hi.stop,hi.jV.fr a,hi.kx.fr a,hi.iE.fr a⟩
 .intro j I;have⟨C,hb,hC⟩:=B.ir;rw[fW hb,hC.low _ (by omega),show 4+m*10+j=4+(m*10+j) by omega,hcs _ (by omega),<-e]
  grind
def ZQ (E:Env) (A:Ru->gM->M Unit) (t:gM) (Q:aco E t) (R:∀r,lR E r t (A r t)) (m:Nat):ja E 153 (λ_=>#[Bp E,gn m,iF E t]) (asM A m t) uV:=by
 intro f σ w h q;unfold asM at q|-;cases hm:yr[m]? with
 |none=>rw[hm]at q;exact absurd rfl q
 |some sp=>
  rw[hm]at q;simp only[]at q|-;have C:m < 18:=(List.getElem?_eq_some_iff.1 hm).1;have⟨v0,v1,v2,v3,v4,v5,v6,v7,v8,v9,hi,hc⟩:=h.Gn hm;have q0:w.cell? ⟨E.bB,4+m*10,none⟩=some v0:=hc 0 (by decide);have q1:w.cell? ⟨E.bB,4+m*10+1,none⟩=some v1:=hc 1 (by decide);have q2:w.cell? ⟨E.bB,4+m*10+2,none⟩=some v2:=hc 2 (by decide);have q3:w.cell? ⟨E.bB,4+m*10+3,none⟩=some v3:=hc 3 (by decide);have q4:w.cell? ⟨E.bB,4+m*10+4,none⟩=some v4:=hc 4 (by decide);have q5:w.cell? ⟨E.bB,4+m*10+5,none⟩=some v5:=hc 5 (by decide);have q6:w.cell? ⟨E.bB,4+m*10+6,none⟩=some v6:=hc 6 (by decide);have q7:w.cell? ⟨E.bB,4+m*10+7,none⟩=some v7:=hc 7 (by decide);have q8:w.cell? ⟨E.bB,4+m*10+8,none⟩=some v8:=hc 8 (by decide);have q9:w.cell? ⟨E.bB,4+m*10+9,none⟩=some v9:=hc 9 (by decide);have U:=h.lt;have D:=Q _ _ _ _ _ _ _ _ _ _ _ _ _ w hi;have B:=(λv w' (u:Kept [] w w') (z:nA E.bm E.bB (f 0) (kg sp t) v w)=>R (kg sp t) v f σ w' (h.il u) (z.fr (.gX u)) q);generalize hZ:A (kg sp t) t σ=Z at B|-;generalize iF E t=tv at *;go_enter func153,ntmps153
  go_wp21
  refine D.mono ?_;rintro e V ⟨v,rfl,z,u⟩;obtain⟨k,X,Y,rfl,S,d⟩:=B v V u z;have H:=d.mono (λe W y=>y.k0 u)
  go_wp21
  refine H.mono ?_;intro e W y;cases Z with
  |ok a σ'=>
   obtain⟨g,K,N,rfl,O,P⟩:=y;have I:Hid (Leaves E f σ.nodes.length w (.ok a σ') uV (iq (uV g a)) W):=fU ⟨g,K,N,rfl,O,P⟩;go_wp2;go_end0;exact I
  |stop c p=>
   obtain⟨j,rfl,F,G⟩:=y;go_wp2;exact⟨rfl,pd rfl F G⟩
  |stuck=>exact y.elim
def vn (rec:Nat->gM->M Unit) (t:gM):M Unit:=match t.k with
 | .lost=>Pure.pure ()
 |_=>λσ=>if σ.behind&&kC t.chars yD then .ok () {σ with behind:=false,gP:=t.a} else j1 rec t {σ with behind:=false,gP:=t.a}
def Ys (s:gy):kC s yD=(s.toList==[10]):=by
 simp[kC]
def O3 (a b:Int) (w:gv):Calls prog 419 #[.agg #[gn a,gn b]] w λe w'=>e=iq (.tuple #[gn a,gn b])/\Kept [] w w':=by
 go_enter func419,ntmps419
 go_wp21
 go_region
 all_goals (try go_wp2)
 all_goals (try go_ret2)
 all_goals exact⟨rfl,((Kept.refl [] w).alloc _).drew⟩
theorem xS (E:Env) (rec:Nat->gM->M Unit) (V:∀(m:Nat) (t:gM),jd E t->ja E 153 (λ_=>#[Bp E,gn m,iF E t]) (rec m t) uV) (t:gM) (O:jd E t) (X:t.k≠ .lost) (p:iF E t= .iface T v) (N:T≠169)
  (A:∀w,(Go.method 489 T v "Bytes").run prog w= .ok (419,.agg #[gn t.a,gn t.b]) w):ja E 38 (λ_=>#[Bp E,iF E t]) (vn rec t) uV:=by
 have u:=fU (tk E rec V t O);intro f σ w h C;obtain⟨R,d⟩:∃R,R=vn rec t σ:=⟨_,rfl⟩;rw[<-d]at C|-;replace d:=d.trans (show vn rec t σ=if σ.behind&&kC t.chars yD then .ok () {σ with behind:=false,gP:=t.a} else j1 rec t {σ with behind:=false,gP:=t.a} by
  grind[vn])
 have HS:=fU C;have H:=fU (At.start h);have G:=H.out.X3;have Y:=h.lt;have f1:=H.out.free 198;have f2:=H.out.free 197;have c2:=H.out.R7;have y:=λw=>yI E t w;simp only[p]at y u|-;have q:=λ(v:gO) (xT:TypeId) (w:gv)=>J4 (z:= .agg #[gn 0,gn 0]) underlying169 rfl N v xT w;have D:=fU y;clear h C y p O X N;have F:Hid (∀o,Kept [] w (w.alloc o)):=fU (λo=>(Kept.refl [] w).alloc o);have r:=fU (λw=>O3 (t.a:Int) (t.b:Int) w);replace H:=fU ((H.out.sq false).k0 ((Kept.refl [] _).alloc (gI #[gn 0,gn 0] 169)));cases hb:σ.behind with
 |false=>
  have j:R=(j1 rec t>>=λ_=>(Pure.pure ():M Unit)) {σ with behind:=false,gP:=t.a}:=by rw[d,hb,M.bind_pure];rfl
  have g:=fU j;rw[hb]at G;clear d j hb F;go_enter func38,ntmps38
  go_wp21
  refine(r.out _).mono ?_;rintro e Q ⟨rfl,a⟩;replace H:=fU (H.out.k0 a);clear a;have I:=H.out.R7;have K:=H.out.free 197;have P:=H.out.lt;replace H:=fU (H.out.Cy t.a)
  go_wp21
  refine dC (u.out) H g HS rfl lT ?_;clear H g;rintro(_) f σ w H U S g;go_wp2;go_end0;exact gu g.out H.out rfl
 |true=>
  rw[hb]at G d;simp only[Bool.true_and]at d;clear hb F;cases hn:kC (gM.chars t) yD with
  |false=>
   rw[hn]at d;have j:R=(j1 rec t>>=λ_=>(Pure.pure ():M Unit)) {σ with behind:=false,gP:=t.a}:=by rw[d,M.bind_pure];rfl
   have g:=fU j;have B:=(Ys (gM.chars t)).symm.trans hn;clear d j hn;go_enter func38,ntmps38
   go_wp21
   refine(r.out _).mono ?_;rintro e Q ⟨rfl,a⟩;replace H:=fU (H.out.k0 a);clear a;have I:=H.out.R7;have K:=H.out.free 197;have P:=H.out.lt;replace H:=fU (H.out.Cy t.a)
   go_wp21
   refine(D.out _).mono ?_;rintro e Z ⟨rfl,k⟩;replace H:=fU (H.out.k0 k);clear k
   go_wp21
   refine dC (u.out) H g HS rfl lT ?_;clear H g;rintro(_) f σ w H U S g;go_wp2;go_end0;exact gu g.out H.out rfl
  |true=>
   rw[hn]at d;simp only[]at d;have g:=fU d;have B:=(Ys (gM.chars t)).symm.trans hn;clear d hn;go_enter func38,ntmps38
   go_wp21
   refine(r.out _).mono ?_;rintro e Q ⟨rfl,a⟩;replace H:=fU (H.out.k0 a);clear a;have I:=H.out.R7;have K:=H.out.free 197;have P:=H.out.lt;replace H:=fU (H.out.Cy t.a)
   go_wp21
   refine(D.out _).mono ?_;rintro e Z ⟨rfl,k⟩;replace H:=fU (H.out.k0 k);clear k;go_wp2;go_end0;exact gu g.out H.out rfl
def Of (t:gM) (σ:Ab):ra t σ=(uE [ic] 13 t>>=λ_=>(do lw none;return ():M Unit)) σ:=by
 unfold ra uE;rw[M.gx,M.gx,M.gx];cases uG (ij [ic]) σ with
 |ok a σ1=>
  simp only;rw[M.gx,M.gx];cases jt t σ1 with
  |ok a σ2=>rfl
  |stop c p=>rfl
  |stuck=>rfl
 |stop c p=>rfl
 |stuck=>rfl
def Q4 (E:Env) (t:gM) (I:jd E t):ja E 125 (λ_=>#[Bp E,iF E t]) (ra t) uV:=by
 intro f σ w h HS;obtain⟨R,d⟩:∃R,R=ra t σ:=⟨_,rfl⟩;rw[<-d]at HS|-;rw[Of]at d;have H:=At.start h;have a:=fU d;have D:=Go.Proofs.enters_of func205 (by rfl) rfl;clear d;go_enter func125,ntmps125
 go_wp21
 refine(UG E _).mono ?_;rintro e w ⟨P,N,rfl,g,p⟩;replace H:=H.k0 p
 go_wp21
 refine(Bb E.bm E.bB 0 [ic] 13 _ _ g).mono ?_;rintro e w ⟨⟨v,rfl,A,B,C,u,rfl,j,k,r,m⟩,F⟩;obtain⟨K,q,rfl,_,_⟩:=r.call;replace H:=H.k0 F;have y:=(λG=>Gs E t I [ic] 13 A B C K q H.rel G j k r m)
 go_wp21
 refine dcH (y) H a HS lT ?_;rintro(_) f σ w H O z a
 go_wp21
 refine mC (zY E) H a HS rfl lT ?_;rintro(_) σ w H z a;go_wp2;go_end0;exact gu a H rfl
def adC:(prog.info? 97).map (λi=>(i.zero,i.size,i.bytes))=some (some .nilIface,1,16):=by kernel_rfl
theorem Rel.afa (h:Rel E L σ w) {C : jM} (k:jw E L σ C) (v':gO) (g:List (Nat×Nat×gy)) (d:w'.heap[E.bB]?=some (gI (C.setIfInBounds 194 v') 157)) (a:KT E.bs [157,97] w w') (e:w'.ownsRow E.bs 97 1 v' g.length (g.map M8)) (j:g.length<=4096) (p:E.wv=none):Rel E {L with wv:=v'} {σ with waiting:=g} w':=
 {fr:=h.fr.trans (a.fr (by decide))
  env:=h.env
  DU:=h.DU
  sN:=λi q m=>((h.sN i q m).kt a (by decide)).loc rfl rfl rfl
  inj:=h.inj,A8:=h.A8,Ga:=h.Ga,uq:=h.uq,Eu:=h.Eu
  wf:=⟨h.wf.gz,h.wf.act,h.wf.head,h.wf.form,h.wf.je,h.wf.kids,h.wf.xf⟩
  ir:=⟨_,d,k.ZH v' g⟩
  o0:=a.row h.o0 (by decide)
  pX:=a.row h.pX (by decide)
  Gd:=h.Gd,wV:=h.wV,Ey:=h.Ey
  oS:=e
  LB:=j
  rd:=a.at h.rd (by decide)
  QS:=h.QS
  tok:=a.row h.tok (by decide)
  Ly:=h.Ly,bz:=h.bz,bB:=h.bB,bR:=h.bR,bN:=h.bN,De:=h.De,ab:=h.ab,tb:=h.tb,LA:=λv r=>by grind}
theorem SM (E:Env) (V:E.wv=none) (t:gM):ja E 118 (λ_=>#[Bp E,iF E t]) (oJ t) uV:=by
 intro f σ w h A;have⟨a,b,k,gL⟩:=t;cases k with
 |ke s=>
  have D:=I8 E ⟨a,b,.ke s,gL⟩ w;cases hn:sW s with
  |true=>
   have U:oJ ⟨a,b,.ke s,gL⟩ σ= .ok () σ:=by unfold oJ;simp only;rw[hn];rfl
   rw[U];have p:sW (gM.chars ⟨a,b,.ke s,gL⟩)=true:=hn;rw[p]at D;have H:=At.start h;clear p;go_enter func118,ntmps118
   go_wp21
   refine D.mono ?_;rintro e w ⟨rfl,g⟩;replace H:=H.k0 g;go_wp2;go_end0;exact gu rfl H rfl
  |false=>
   have N:σ.waiting.length < 4096:=by
    by_cases hl:σ.waiting.length < 4096
    .exact hl
    .exfalso;apply A;unfold oJ;simp_all
   have U:oJ ⟨a,b,.ke s,gL⟩ σ= .ok () {σ with waiting:=σ.waiting++[(a,b,s)]}:=by unfold oJ;simp only;rw[hn];simp[N]
   rw[U];have p:sW (gM.chars ⟨a,b,.ke s,gL⟩)=false:=hn;rw[p]at D;obtain⟨L,rfl,HR⟩:=h;clear p;rw[show iF E ⟨a,b,.ke s,gL⟩= .iface 167 (.agg #[gn a,gn b,gH s])from rfl]at D|-;go_enter func118,ntmps118
   go_wp21
   refine D.mono ?_;rintro e w0 ⟨rfl,g⟩;have r:=HR.il g;have HF:=Fr.gX (bs:=E.bs) g;have c1:=r.aaA;have a2:=r.lt;have⟨C,HBB,p⟩:=r.ir;obtain⟨i0,hi,X,Y,Z⟩:=tz adC;have⟨ao,cap,hwv⟩:=gG r.oS;rw[hwv]at c1;have G:Kept [] w0 (w0.alloc (gI #[M8 (a,b,s)] 97)):=(Kept.refl _ _).alloc _;have HO:=G.ownsRow r.oS (λ_ _=>by simp);rw[hwv]at HO;have y:(Value.slice ao σ.waiting.length cap).ownBlock≠some E.bB:=by rw[<-hwv];exact Cv r.oS HBB (by decide)
   have S:=fU (fY w0 (gI #[M8 (a,b,s)] 97));have j:=fU r;have F:=fU p;have I:=fU hwv;clear r p hwv;go_wp2_with (at_builtin;refine iw _ rfl _ _ 155 rfl E.bs 97 i0 .nilIface 1 16 underlying155 hi X Y Z rfl (by decide) (.slice ao σ.waiting.length cap) σ.waiting.length (σ.waiting.map M8) rfl HO ⟨w0.heap.size,0,none⟩ 1 1 [M8 (a,b,s)] rfl rfl (λk u Q=>by rw[iY,fW S.out,<-Q];simp) (λu Q=>by simp at Q;subst Q;rfl) (by unfold maxLen;omega) (by omega) (by have h7:=j.bz;have h8:=j.fr.size;simp;omega) ?_);intro v' P d z a0;have K2:Kept (Value.slice ao σ.waiting.length cap).ownBlock.toList w0 P:=(G.mono (by simp)).grown z (λk g=> .inl (by rw[g];simp));have K:P.heap[E.bB]?=some (gI C 157):=K2.at HBB (by simpa using y);have⟨ao',cap',hv⟩:=gG d;subst hv;have d1:P.cell? ⟨E.bB,194,none⟩=some (.slice ao σ.waiting.length cap):=by rw[fW K,F.out.wait,I.out]
   have d2:=gE K 194;have a1:=jk K;have h3:=gg K 194 (.slice ao' (σ.waiting.length+1) cap');have O:(Value.slice ao' (σ.waiting.length+1) cap').ownBlock≠some E.bB:=Cv d K (by decide);have h4:=yB (a:=⟨E.bB,194,none⟩) d O (.slice ao' (σ.waiting.length+1) cap');have h5:Kept (E.bB::(Value.slice ao σ.waiting.length cap).ownBlock.toList) w0 (P.setCell ⟨E.bB,194,none⟩ (.slice ao' (σ.waiting.length+1) cap')):=(K2.mono (λk g _=>oW _ g)).setCell (.inl (by simp)) _;have kt:KT E.bs [157,97] w0 (P.setCell ⟨E.bB,194,none⟩ (.slice ao' (σ.waiting.length+1) cap')):= .jU h5 (λk g _=>by
    rcases List.mem_cons.1 g with rfl|g
    .exact⟨⟨_,_,_,HBB,by simp⟩,j.bB⟩
    .have B:=j.oS;rw[I.out]at B;obtain⟨c,m,hc⟩:=rY B (by simpa using g);exact⟨⟨_,_,_,hc,by simp⟩,(B.lt k (by simpa using g)).1⟩)
   have HZ:=j.afa F (.slice ao' (σ.waiting.length+1) cap') (σ.waiting++[(a,b,s)]) h3 kt (by simpa using h4) (by simp;omega) V;have R:=HF.trans (kt.fr (by decide));go_wp2;go_end0;exact⟨L.gP,λ_ _=>rfl,ig _,rfl,⟨{L with wv:= .slice ao' (σ.waiting.length+1) cap'},rfl,HZ⟩,R⟩
 |start s=>exact absurd rfl A
 |stop s=>exact absurd rfl A
 |gR s=>exact absurd rfl A
 |iM s q=>exact absurd rfl A
 |lost=>exact absurd rfl A
 |im=>exact absurd rfl A
def LF {α:Type} (n:Nat) (P:Program) (g:Nat) (m:jM) (d:α->jM) (Kp:gv->gv->Prop) (S Sp:List α->Prop) (N:Nat) (w:gv):Prop:=
 ∀(l:Nat) (J j:List α->gv->Prop) (W:gv),Below w.heap.size w W->OwnFrom W.heap.size J->OwnFrom W.heap.size j->
  (∀pre x a,J pre a->pre.length < N->YieldAt Fence.wide (n - 1) P l (d x) a λe W'=>(e=iq (.bool true)/\J (pre++[x]) W'/\Kp a W'/\KeepsFrom W.heap.size a W')\/(e=iq (.bool false)/\j (pre++[x]) W'/\KeepsFrom W.heap.size a W'))->
  J [] W->CallsIn Fence.wide n P g (#[.func (.yield l) #[] #[]]++m) W λe W'=>(∃v,e=iq v)/\((∃k,S k/\J k W')\/(∃pre,Sp pre/\j pre W'))
theorem Jt {A B : gv} {d : jg} {a k : Nat} (g:A.grownBy B d) (m:∀r,d=some r->a<=r/\∃o:Obj,A.heap[r]?=some o/\o.isCells=false) (h:A.heap[k]?=some o) (j:k < a):B.heap[k]?=some o:=
 (g.block k (Array.getElem?_eq_some_iff.1 h).1 (λe=>by grind)).trans h
theorem uw {a : gv} {g : Obj} (m:l < b) (h:KeepsFrom (l - 1) (W.putObj l o) a):KeepsFrom b W (a.putObj l g):=by
 refine⟨?_,λk q j e d=>?_⟩
 .have:=h.size
  simp_all
 .rw[pk (by omega)];exact h.same k q (by omega) ((pk (by omega)).trans e) d
theorem RD {α:Type} {P:Program} {g:Operand} {ps:Array Tmp} {Q:Exit->Act->gv->Prop} {a : Act}
  (h1:1<=n) {gf : Nat} {lb : jM} (hg:a.eval g= .func (.func gf) #[] lb) (eg:∀Z w,(callFunc gf Z).run P w= .ok (.enter gf Z) w)
  {y:α->jM} {Kp : gv->gv->Prop} {S Sp:List α->Prop} {N : Nat} (a9:LF (n - 1) P gf lb y Kp S Sp N w0)
  (a6:∀{A B C:gv},Kp A B->Kp B C->Kp A C) (a5:∀(W:gv) (l:Nat) (o o':Obj),w.heap.size<=l->W.heap[l]?=some o->o.isCells=false->o.isWalk=false->Kp W (W.putObj l o')) (a7:Below w0.heap.size w0 w) (al:∀x,(y x).size=ps.size)
  (I:List α->gv->Prop) (Ix:Code->List α->gv->Prop) (hI:OwnFrom w.heap.size I) (U:∀c,OwnFrom w.heap.size (Ix c)) (h0:I [] w) (a0:α->Act)
  (V:∀(l:Nat) (x:α) (W:gv) (K:Act->gv->Prop),K (a0 x) W->assign.wpIn (Fence.wide.inRound l) (n - 1 - 1) P (Exit.then K (λ_ _ _=>False)) {tmps:=(ps.zip (y x)).foldl (λt (p,v)=>t.setIfInBounds p v) a.tmps,defers:=[]} W)
  (a1:∀(l:Nat) (pre:List α) (x:α) (W:gv),I pre W->pre.length < N->body.wpIn (Fence.wide.inRound l) (n - 1 - 1) P (ownPostG w.heap.size Kp I Ix (pre++[x]) W) (a0 x) W)
  (a2:∀(D:Nat) (xs:List α) (W:gv),w.heap.size<=D->S xs->I xs W->W.heap[D]?=some (.deferred (some []))->Q .normal {a with defers:={target:= .collected D,args:=#[]}::a.defers} W)
  (a4:∀(D:Nat) (c:Code) (pre:List α) (W:gv),w.heap.size<=D->Sp pre->Ix c pre W->W.heap[D]?=some (.deferred (some []))->c.wpIn Fence.wide n P Q {a with defers:={target:= .collected D,args:=#[]}::a.defers} W):
  (Code.rangeFunc g ps assign body).wpIn Fence.wide n P Q a w:=by
 refine wpIn_rangeFunc ?_;intro fn af;obtain⟨j,k⟩:∃j:LoopState->Option Code->Loop,j=λst pe=>{state:=st,pending:=pe,fn,tmps:=a.tmps,params:=ps,assign,body,defers:=w.heap.size}:=⟨_,rfl⟩;obtain⟨H,z⟩:∃H,(w.alloc (.deferred (some []))).alloc (.loop (j .ready none))=H:=⟨_,rfl⟩;have am:H.heap.size=w.heap.size+2:=by rw[<-z];simp
 have ac:H.heap[w.heap.size+1]?=some (.loop (j .ready none)):=by
  rw[<-z];have:=C9 (w.alloc (.deferred (some []))) (.loop (j .ready none));rwa [rB]at this
 have ab:H.heap[w.heap.size]?=some (.deferred (some [])):=by
  rw[<-z];exact(Below.heap_alloc _ _ _ (by simp)).trans (C9 w _)
 have aa:I [] H:=by rw[<-z];exact hI.alloc _ (hI.alloc _ h0)
 have ae:Below w0.heap.size w0 H:=by
  rw[<-z];exact a7.trans ((((Below.refl _ w).alloc (ig _) _).alloc (by simp) _).mono a7.size)
 refine⟨w.heap.size+1,[{target:= .collected w.heap.size,args:=#[]}],H,{target:= .fn (.func gf) lb,args:=#[.func (.yield (w.heap.size+1)) #[] #[]]},H,gf,
  #[.func (.yield (w.heap.size+1)) #[] #[]]++lb,H,?_,?_,?_,?_,λ_=>h1,?_⟩
 .rw[<-z,k];exact run_enterLoop_outer _ _ _ _ _
 .simp only[resolve,hg];simp[go_sem]
 .intro f' ak;trivial
 .simp[invoke,go_sem,eg]
 have lo:∀{A B:gv} {G:jg},(∀r,G=some r->H.heap.size<=r/\∃o:Obj,A.heap[r]?=some o/\o.isCells=false)->(∀r,G=some r->w.heap.size<=r/\∃o:Obj,A.heap[r]?=some o/\o.isCells=false):=
  λq r e=>⟨by grind,(q r e).2⟩
 refine(a9 (w.heap.size+1)
  (λpre W=>I pre W/\W.heap[w.heap.size+1]?=some (.loop (j .ready none))/\W.heap[w.heap.size]?=some (.deferred (some [])))
  (λpre W=>∃c,Ix c pre W/\W.heap[w.heap.size+1]?=some (.loop (j .done (some c)))/\W.heap[w.heap.size]?=some (.deferred (some [])))
  H ae
  (λs A B G hs u q=>⟨hI s A B G hs.1 u (lo (B:=B) q),Jt u q hs.2.1 (by omega),Jt u q hs.2.2 (by omega)⟩)
  (λs A B G hs u q=>by
   have⟨c,hc,F,hk⟩:=hs;exact⟨c,U c s A B G hc u (lo (B:=B) q),Jt u q F (by omega),Jt u q hk (by omega)⟩)
  ?_ ⟨aa,ac,ab⟩).mono ?_
 .rintro pre x W ⟨hi,F,hk⟩ a8;have ai:w.heap.size+1 < W.heap.size:=(Array.getElem?_eq_some_iff.1 F).1;have hy:=run_yield (P:=P) (args:=y x) F (by grind);rw[k]at hy;refine⟨fn,_,assign,body,hy,roundIn_of_wpIn af (V _ x W _ ?_)⟩;refine⟨_,run_beginRound F (by rw[k]),?_⟩;have ah:(W.putObj (w.heap.size+1) (.loop {j .ready none with state:= .busy})).heap[w.heap.size+1]?=some (.loop {j .ready none with state:= .busy}):=Da ai;have ag:(W.putObj (w.heap.size+1) (.loop {j .ready none with state:= .busy})).heap[w.heap.size]?=some (.deferred (some [])):=(pk (by omega)).trans hk;have aj:Kp W (W.putObj (w.heap.size+1) (.loop {j .ready none with state:= .busy})):=a5 _ _ _ _ (by omega) F rfl rfl;refine wI (a1 _ pre x _ (hI.putObj _ hi (by omega) F rfl) a8) ?_;have Y:∀(d:Option Code) (O:gv),KeepsFrom w.heap.size (W.putObj (w.heap.size+1) (.loop {j .ready none with state:= .busy})) O->
    (Instr.endRound (w.heap.size+1) d).run P O= .ok (.bool d.isNone) (O.putObj (w.heap.size+1) (.loop (j (if d.isNone then .ready else .done) d)))/\
    O.heap[w.heap.size+1]?=some (.loop {j .ready none with state:= .busy})/\
    (O.putObj (w.heap.size+1) (.loop (j (if d.isNone then .ready else .done) d))).heap[w.heap.size+1]?=some (.loop (j (if d.isNone then .ready else .done) d))/\
    (O.putObj (w.heap.size+1) (.loop (j (if d.isNone then .ready else .done) d))).heap[w.heap.size]?=some (.deferred (some [])):=λd O X=>by
   have m:=X.same _ _ (by omega) ah rfl;have:=run_endRound (P:=P) d m;rw[k]at this|-;exact⟨this,by grind,Da (Array.getElem?_eq_some_iff.1 m).1,(pk (by omega)).trans (X.same _ _ (ig _) ag rfl)⟩
  rintro e a3 O R;cases e with
  |normal=>
   have⟨X,hkp3,hi3⟩:=R;have⟨q,m,hl4,hk4⟩:=Y none O X;exact⟨_,_,q,.inl ⟨rfl,⟨hI.putObj _ hi3 (by omega) m rfl,hl4,hk4⟩,a6 (a6 aj hkp3) (a5 _ _ _ _ (by omega) m rfl rfl),uw (by omega) X⟩⟩
  |ret=>
   have⟨q,m,hl4,hk4⟩:=Y (some .ret) O R.1;exact⟨_,_,q,.inr ⟨rfl,⟨.ret,(U _).putObj _ R.2 (by omega) m rfl,hl4,hk4⟩,uw (by omega) R.1⟩⟩
  |exit id=>
   have⟨q,m,hl4,hk4⟩:=Y (some (.exit id)) O R.1;exact⟨_,_,q,.inr ⟨rfl,⟨.exit id,(U _).putObj _ R.2 (by omega) m rfl,hl4,hk4⟩,uw (by omega) R.1⟩⟩
  |goto t=>
   have⟨q,m,hl4,hk4⟩:=Y (some (.goto t)) O R.1;exact⟨_,_,q,.inr ⟨rfl,⟨.goto t,(U _).putObj _ R.2 (by omega) m rfl,hl4,hk4⟩,uw (by omega) R.1⟩⟩
  |panic ch=>exact R.elim
  |outgrown=>exact R.elim
 .rintro e W2 ⟨⟨v,rfl⟩,(⟨xs,hS,hi,F,hk⟩|⟨pre,ad,c,hi,F,hk⟩)⟩
  .exact⟨none,_,by have:=Fz (P:=P) F (by rw[k];simp);rw[k]at this;exact this,a2 _ xs _ (ig _) hS (hI.putObj _ hi (by omega) F rfl) ((pk (by omega)).trans hk)⟩
  .exact⟨some c,_,by have:=Fz (P:=P) F (by rw[k];simp);rw[k]at this;exact this,a4 _ c pre _ (ig _) ad ((U c).putObj _ hi (by omega) F rfl) ((pk (by omega)).trans hk)⟩
section
attribute [local go_sem] Oper.semAt_some
attribute [local go_sem] qd
attribute [local simp] qd
def Aa:kQ->List Nat
 |[]=>[]
 |none::_=>[]
 |some i::r=>i::Aa r
def KC (T:List Nat) (W W':gv):Prop:=W.heap.size<=W'.heap.size/\∀(k:Nat) (c:jM) (t:TypeId) (m:Nat×Nat),k∉T->W.heap[k]?=some (.cells c t m)->W'.heap[k]?=some (.cells c t m)
def KC.trans {T : List Nat} {A B C : gv} (h:KC T A B) (k:KC T B C):KC T A C:=⟨jP h.1 k.1,λi c t m a d=>k.2 i c t m a (h.2 i c t m a d)⟩
def KC.put {T : List Nat} (W:gv) (l:Nat) (o j:Obj) (a:W.heap[l]?=some o) (g:o.isCells=false):KC T W (W.putObj l j):=
 ⟨by simp,λk c t m _ d=>(pk (λe=>by subst e;rw[d]at a;cases a;cases g)).trans d⟩
def WN {m j g : Nat} {P:Program} {f:FuncId} {a : jM} {R : Ending->gv->Prop} (h:RoundIn Fence.wide m P l f a assign body w R):RoundIn (Fence.wide.inRound g) j P l f a assign body w R:=⟨h.1,λc e _=>h.2 c e (λd h=>by cases h)⟩
def T5 {ys : kQ}:∀{a:List Nat},a.map some <+:ys->a <+:Aa ys
 |[],_=>List.nil_prefix
 |p::a,h=>by
  have⟨r,hr⟩:=h;subst hr;show p::a <+:p::Aa (a.map some++r);exact(List.prefix_cons_inj p).2 (T5 ⟨r,rfl⟩)
def T0:∀{a:List Nat},Aa (a.map some)=a
 |[]=>rfl
 |p::a=>by show p::Aa (a.map some)=_;rw[T0]
def O1 {r : kQ}:∀{a:List Nat},Aa (a.map some++none::r)=a
 |[]=>rfl
 |p::a=>by show p::Aa (a.map some++none::r)=_;rw[O1]
theorem XV (m:Nat) (hm:5<=m) (base bB:Nat) (tB:TypeId) (C:jM) (v:gO) (xs:kQ) (s:Nat) (T:List Nat) (w:gv) (h:wY base bB 189 tB C v xs w)
  (hs:w.heap[s]?=some (gI #[gJ bB] 93)) (hT:∀k∈T,k≠bB/\v.ownBlock≠some k/\k < w.heap.size):
  LF m prog 336 #[gJ s] (λx:{x:Nat // some x∈xs}=>#[kh (some x.1)]) (KC T) (λys=>ys.map (·.1)=Aa xs.reverse) (λpre=>pre.map (·.1) <+:Aa xs.reverse) xs.length w:=by
 intro l J Jx W hB HJ a3 HY H0;have a7:=jk h.ir;have L1:wY base bB 189 tB C v xs W:=by
  refine h.ER (K:=bB::v.ownBlock.toList) (λk a=>hB.block k ?_) (by simp) (λk a=>by simp[a]);rcases List.mem_cons.1 a with rfl|a
  .exact a7
  .exact(h.row.lt k (by grind)).2
 have al:=jk hs;have aa:=(hB.block s al).trans hs;have a9:w.heap.size<=W.heap.size:=hB.size;have aj:bB < W.heap.size:=lV a7 a9;obtain⟨j,F⟩:∃j,j=W.alloc (gI #[.func (.yield l) #[] #[]] 265):=⟨_,rfl⟩;have a4:Kept [] W j:=by rw[F];exact(Kept.refl [] W).alloc _
 have ad:j.heap[W.heap.size]?=some (gI #[.func (.yield l) #[] #[]] 265):=by rw[F];exact fY W _
 have z1:j.heap.size=W.heap.size+1:=by rw[F];simp
 have HL:wY base bB 189 tB C v xs j:=L1.ER (kB.jU (K:=bB::v.ownBlock.toList) a4 (λk a=>⟨by
  rcases List.mem_cons.1 a with rfl|a
  .exact aj
  .exact(L1.row.lt k (by grind)).2,by simp⟩)) (by simp) (λk a=>by simp[a])
 have c1:(W.alloc (gI #[.func (.yield l) #[] #[]] 265)).cell? ⟨s,0,none⟩=some (gJ bB):=by rw[<-F,fW (a4.at aa (by simp))];rfl
 have HU:=Wi base bB 189 tB C v xs j HL;refine wK func336 rfl trivial ?_ rfl;simp only[ntmps336,wM,qe,uS,Nat.reduceAdd,Nat.reduceSub,wN,wO,wP,wQ,ru,uT];have HW:=fU F.symm;have HZ:=fU z1;have HT:=hT;clear F z1 L1 aa h hB hs
 gi_wp2_with fail
 rw[HW.out];refine⟨λ_=>by omega,(callsIn_wide.2 HU).mono ?_⟩;rintro e w' ⟨rfl,rfl⟩;gi_wp2;have ag:=HL;obtain⟨u,R⟩:∃u,u=mu bB 189 (xs.length:Int) j:=⟨_,rfl⟩;have k2:Kept [] j u:=by rw[R];exact((Kept.refl _ _).alloc _).alloc _
 have am:u.heap.size=j.heap.size+2:=by rw[R];simp
 have P:wY base bB 189 tB C v xs u:=HL.ER (kB.jU (K:=bB::v.ownBlock.toList) k2 (λk a=>⟨by
  rcases List.mem_cons.1 a with rfl|a
  .grind
  .exact(HL.row.lt k (by simpa using a)).2,by simp⟩)) (by simp) (λk a=>by simp[a])
 have⟨b0,b1⟩:=(⟨(Below.heap_alloc _ _ _ (by simp)).trans (fY j _),by
   have:=fY (j.alloc (gI #[jG bB 189] 256)) (gI #[gn xs.length] 3)
   simp_all⟩:(mu bB 189 (xs.length:Int) j).heap[j.heap.size]?=some (gI #[jG bB 189] 256)/\(mu bB 189 (xs.length:Int) j).heap[j.heap.size+1]?=some (gI #[gn xs.length] 3))
 rw[<-R]at b0 b1|-;have ap:=HZ.out;have gY:=k2.at ad (by simp);obtain⟨K,O⟩:∃K,K=bB::j.heap.size::v.ownBlock.toList:=⟨_,rfl⟩;have a6:∀k∈K,k < u.heap.size/\k∉T/\∃c t m,u.heap[k]?=some (.cells c t m):=by
  intro k a;rw[O]at a;rcases List.mem_cons.1 a with rfl|a
  .exact⟨jk P.ir,λe=>(HT _ e).1 rfl,_,_,_,P.ir⟩
  .rcases List.mem_cons.1 a with rfl|a
   .grind
   .have ak:v.ownBlock=some k:=by simpa using a
    have⟨c,m',hc⟩:=rY P.row ak
    grind
 have an:=Rw (m - 1) (by omega) base bB 189 tB C v xs xs.length j.heap.size K u P (ig _) (by rw[O];simp) (by rw[O];simp) (by grind) (by omega) b1 b0;have au:∀k∈T,k < W.heap.size:=λk a=>lV (HT k a).2.2 a9;have U:=fU a6;have a1:=(show u.heap.size=W.heap.size+1+2 by omega);have ar:J [] u:=by
  have H:J [] j:=HJ [] W j none H0 (by rw[<-HW.out];exact World.grownBy_alloc W _ none) (λr e=>by cases e);rw[R];refine HJ [] (j.alloc _) _ none ?_ (World.grownBy_alloc _ _ none) (λr e=>by cases e);exact HJ [] j _ none H (World.grownBy_alloc _ _ none) (λr e=>by cases e)
 clear O b0 b1 HU HL ag P k2 R a6 c1 am ap;obtain⟨I,hI⟩:∃I:List {x:jg // x∈xs}->gv->Prop,I=(λZ W'=>u.heap.size<=W'.heap.size/\kB K u W'/\W'.heap[W.heap.size]?=some (gI #[.func (.yield l) #[] #[]] 265)/\∃d:List {x:Nat // some x∈xs},Z.map (·.1)=d.map (λp=>some p.1)/\J d W'):=⟨_,rfl⟩;obtain⟨Ix,a5⟩:∃Ix:Code->List {x:jg // x∈xs}->gv->Prop,Ix=(λc Z W'=>c= .ret/\((∃d:List {x:Nat // some x∈xs},Z.map (·.1)=d.map (λp=>some p.1)++[none]/\J d W')\/(∃d:List {x:Nat // some x∈xs},Z.map (·.1)=d.map (λp=>some p.1)/\Jx d W'))):=⟨_,rfl⟩;have HI:=fU hI;have S:=fU a5;clear hI a5;refine wpIn_rangeFunc_ownG rfl (by omega) (gf:=341) rfl trivial (Go.Proofs.enters_of func341 (by rfl) rfl) an kB.trans (λW l o o' hl H N h3=>kB.put (w:=u) (λk a=>(U.out k a).1) W l o o' hl H N h3) (Below.refl _ _) (λ_=>rfl)
  I Ix
  ?_ ?_ ?_ (λx=>{tmps:=#[.func (.yield l) #[] #[],gJ s,gJ W.heap.size,kh x.1,gJ bB,gJ bB,jG bB 189,uQ j.heap.size,kh x.1,undef,undef,undef,undef,undef,undef,undef,undef],defers:=[]}) ?assign ?body ?done ?stop
 .rw[HI.out];rintro Z A B V ⟨H,N,h3,d,h4,h5⟩ hg Y;have hz:=a1;refine⟨jP H hg.size,λk a=>?_,Jt hg Y h3 (by omega),d,h4,HJ d A B V h5 hg (λr e=>⟨by grind,(Y r e).2⟩)⟩;rw[hg.block k (lV (U.out k a).1 H) (λe=>by have:=(Y k e.symm).1;have:=(U.out k a).1;omega)];exact N k a
 .rw[S.out];rintro c Z A B V ⟨H,N⟩ hg Y;have hz:=a1;refine⟨H,N.imp (λ⟨d,h4,h5⟩=>⟨d,h4,HJ d A B V h5 hg (λr e=>⟨by grind,(Y r e).2⟩)⟩) (λ⟨d,h4,h5⟩=>⟨d,h4,a3 d A B V h5 hg (λr e=>⟨by grind,(Y r e).2⟩)⟩)⟩
 .rw[HI.out]
  grind[kB]
 case assign=>
  intro l2 x W' KK ai;gi_wp2;exact ai
 case body=>
  rintro l2 pre ⟨x,hx⟩ W' q aq;rw[HI.out]at q;have⟨hz,hkb,hbx,d,g,X⟩:=q;have cy:=fW hbx 0;dsimp at cy;cases x with
  |none=>
   have HP:=fU g;have af:=fU X;clear g X hz hkb hbx;gi_wp2;refine⟨KeepsFrom.refl _ _,?_⟩;rw[S.out];exact⟨rfl,.inl ⟨d,by rw[rA,HP.out];rfl,af.out⟩⟩
  |some i=>
   have ao:=HY d ⟨i,hx⟩ W' X (by have:=sK List.length g;grind);have a2:Hid (∀z,KC T W' z->kB K u z/\z.heap[W.heap.size]?=some (gI #[.func (.yield l) #[] #[]] 265)/\u.heap.size<=z.heap.size/\kB K W' z):=fU (by
    intro z G;have ac:∀k∈K,z.heap[k]?=u.heap[k]?:=by
     intro k a;have⟨_,N,c,t,mm,h3⟩:=U.out k a;have h4:=(hkb k a).trans h3;rw[G.2 k c t mm N h4,h3]
    exact⟨ac,G.2 _ _ _ _ (λe=>by grind) hbx,jP hz G.1,λk a=>(ac k a).trans (hkb k a).symm⟩)
   have⟨fn,tmps,assign,body,hyy,HRR⟩:=ao;have HP:=fU g;clear g X hz hkb hbx
   gi_wp2_with fail
   refine⟨λ_=>by omega,(WN HRR).mono ?_⟩;rintro e z (⟨rfl,a8,G,y⟩|⟨rfl,ab,y⟩)
   .have⟨p1,p2,p3,P4⟩:=a2.out z G;have ae:Hid (I (pre++[⟨some i,hx⟩]) z):=fU (by rw[HI.out];exact⟨p3,p1,p2,d++[⟨i,hx⟩],by rw[rA,rA,HP.out];rfl,a8⟩);have a0:=(show KeepsFrom u.heap.size W' z from⟨y.size,λk o a H N=>y.same k o (by omega) H N⟩);clear a8 G y p1 p2 p3 HRR a2;gi_wp2;exact⟨a0,P4,ae.out⟩
   .have ah:Hid (Ix .ret (pre++[⟨some i,hx⟩]) z):=fU (by rw[S.out];exact⟨rfl,.inr ⟨d++[⟨i,hx⟩],by rw[rA,rA,HP.out];rfl,ab⟩⟩);have a0:=(show KeepsFrom u.heap.size W' z from⟨y.size,λk o a H N=>y.same k o (by omega) H N⟩);clear ab y HRR a2;gi_wp2;exact⟨a0,ah.out⟩
 case done=>
  rintro D Z W' HD hS q O;rw[HI.out]at q;have⟨_,_,_,d,g,HJ3⟩:=q;have HE:Hid (d.map (·.1)=Aa xs.reverse):=fU (by
   rw[List.take_length]at hS;rw[<-hS,g,show(d.map λp=>some p.1)=(d.map (·.1)).map some by simp,T0])
  clear g hS;gi_wp2;refine⟨by simp,.inl ⟨_,_,rfl,nM O,?_⟩⟩;refine⟨.tuple #[],by simp[results,results336,go_sem],⟨_,rfl⟩,.inl ⟨d,HE.out,?_⟩⟩;exact HJ d W' _ (some D) HJ3 (xJ _ D (.deferred none)) (λr e=>by cases e;exact⟨by omega,_,O,rfl⟩)
 case stop=>
  rintro D c Z W' HD Q q O;rw[S.out]at q;obtain⟨rfl,q⟩:=q;have HE:Hid ((∃ys:List {x:Nat // some x∈xs},ys.map (·.1)=Aa xs.reverse/\J ys W')\/(∃pre:List {x:Nat // some x∈xs},pre.map (·.1) <+:Aa xs.reverse/\Jx pre W')):=fU (by
   rw[List.take_length]at Q;rcases q with⟨d,g,X⟩|⟨d,g,X⟩
   .refine .inl ⟨d,?_,X⟩;have⟨r,Y⟩:=Q;rw[<-Y,g,show(d.map λp=>some p.1)=(d.map (·.1)).map some by simp,xq];exact O1.symm
   .refine .inr ⟨d,?_,X⟩;rw[g,show(d.map λp=>some p.1)=(d.map (·.1)).map some by simp]at Q;exact T5 Q)
  clear q Q;gi_wp2;refine⟨by simp,.inl ⟨_,_,rfl,nM O,?_⟩⟩;refine⟨.tuple #[],by simp[results,results336,go_sem],⟨_,rfl⟩,?_⟩;have hb:D>=W.heap.size:=by have:=HD;have:=a1;omega
  rcases HE.out with⟨ys,e1,e2⟩|⟨pre,e1,e2⟩
  .exact .inl ⟨ys,e1,HJ ys W' _ (some D) e2 (xJ _ D (.deferred none)) (λr e=>by cases e;exact⟨hb,_,O,rfl⟩)⟩
  .exact .inr ⟨pre,e1,a3 pre W' _ (some D) e2 (xJ _ D (.deferred none)) (λr e=>by cases e;exact⟨hb,_,O,rfl⟩)⟩
end
section
attribute [local go_sem] Oper.semAt_some
attribute [local go_sem] qd
attribute [local simp] qd
def LJ (s:Nat):gO:= .func (.func 336) #[] #[gJ s]
def H6 (bB:Nat) (w:gv):
  Calls prog 306 #[gJ bB] w λe w'=>e=iq (LJ w.heap.size)/\w'=w.alloc (gI #[gJ bB] 93):=by
 have g:∀(d:Fn) (first a:jM) (w:gv),(Instr.makeFunc d first a).run prog w= .ok (.func d first a) w:=λ_ _ _ _=>rfl;go_enter func306,ntmps306;go_wp2;go_ret;simp[LJ]
def T4:∀(a:kQ),Aa (a.map (Option.map f))=(Aa a).map f
 |[]=>rfl
 |none::_=>rfl
 |some i::r=>by show f i::Aa (r.map (Option.map f))=f i::(Aa r).map f;rw[T4]
def adi (T:List Nat) (I:List Nat->gv->Prop) (d:Code->List Nat->gv->Prop) (a:List Nat) (W:gv):Exit->Act->gv->Prop
 | .normal,_,W'=>Kept T W W'/\I a W'
 | .ret,_,W'=>Kept T W W'/\d .ret a W'
 | .exit id,_,W'=>Kept T W W'/\d (.exit id) a W'
 | .goto t,_,W'=>Kept T W W'/\d (.goto t) a W'
 | .panic _,_,_=>False
 | .outgrown,_,_=>False
def Kept.kc {T : List Nat} (h:Kept T W W'):KC T W W':=⟨h.size,λk c t m d a=>(h.block k (Array.getElem?_eq_some_iff.1 a).1 d).trans a⟩
theorem Kept.kf {T : List Nat} {B : Nat} (h:Kept T W W') (d:∀k∈T,k < B):KeepsFrom B W W':=⟨h.size,λk o g a _=>(h.block k (Array.getElem?_eq_some_iff.1 a).1 (λe=>by grind)).trans a⟩
def Fa (d:∀i j,f i=f j->i=j):∀{e a:List Nat},e.map f=a.map f->e=a
 |[],[],_=>rfl
 |[],_::_,h=>by simp at h
 |_::_,[],h=>by simp at h
 |x::xs,y::a,h=>by
  simp only[yC,RL]at h;rw[d x y h.1,Fa d h.2]
def abE (d:∀i j,f i=f j->i=j) {a ys : List Nat} (h:a.map f <+:ys.map f):a <+:ys:=by
 have⟨t,ht⟩:=h;refine⟨ys.drop a.length,?_⟩;have g:a.length<=ys.length:=by have:=sK List.length ht;simp at this;omega
 have e:a.map f=(ys.take a.length).map f:=by rw[List.map_take,<-ht];simp
 have e2:=Fa d e
 conv=>lhs;lhs;rw[e2]
 simp
theorem UZ (hn:7<=n) {w1 : gv} (hr:Rel E L σ w1)
  {g:Operand} {p:Tmp} {Q:Exit->Act->gv->Prop} {a : Act} (hg:a.eval g=LJ w1.heap.size)
  (T:List Nat) (hT:∀k∈T,k≠E.bB/\L.cv.ownBlock≠some k/\k < w1.heap.size)
  (I:List Nat->gv->Prop) (V:Code->List Nat->gv->Prop)
  (hI:OwnFrom (w1.heap.size+1) I) (Z:∀c,OwnFrom (w1.heap.size+1) (V c)) (h0:I [] (w1.alloc (gI #[Bp E] 93))) (m:Nat->Act)
  (q:∀(l:Nat) (x:Nat) (W:gv) (K:Act->gv->Prop),K (m x) W->assign.wpIn (Fence.wide.inRound l) (n - 1 - 1) prog (Exit.then K (λ_ _ _=>False)) {tmps:=a.tmps.setIfInBounds p (kh (some x)),defers:=[]} W)
  (N:∀(l:Nat) (pre:List Nat) (i:Nat) (W:gv),some i∈σ.act->I pre W->pre.length < σ.act.length->body.wpIn (Fence.wide.inRound l) (n - 1 - 1) prog (adi T I V (pre++[i]) W) (m (L.gP i)) W)
  (a0:∀(D:Nat) (W:gv),w1.heap.size+1<=D->I (Aa σ.act.reverse) W->W.heap[D]?=some (.deferred (some []))->Q .normal {a with defers:={target:= .collected D,args:=#[]}::a.defers} W)
  (P:∀(D:Nat) (c:Code) (pre:List Nat) (W:gv),w1.heap.size+1<=D->pre <+:Aa σ.act.reverse->V c pre W->W.heap[D]?=some (.deferred (some []))->c.wpIn Fence.wide n prog Q {a with defers:={target:= .collected D,args:=#[]}::a.defers} W):
  (Code.rangeFunc g #[p] assign body).wpIn Fence.wide n prog Q a (w1.alloc (gI #[Bp E] 93)):=by
 have k1:Kept [] w1 (w1.alloc (gI #[Bp E] 93)):=(Kept.refl _ _).alloc _;have a1:=hr.il k1;have⟨C,hL,hC⟩:=a1.GF;have H:(w1.alloc (gI #[Bp E] 93)).heap.size=w1.heap.size+1:=by simp
 have U:∀i j,L.gP i=L.gP j->i=j:=hr.inj;have a2:=XV (n - 1) (by omega) E.bs E.bB _ C L.cv _ w1.heap.size T _ hL (fY w1 _) (λk hk=>⟨(hT k hk).1,(hT k hk).2.1,by grind⟩);have S:∀x:{x:Nat // some x∈σ.act.map (iD L.gP)},∃i,some i∈σ.act/\L.gP i=x.1:=by
  rintro⟨x,hx⟩;have⟨y,hy,e⟩:=List.mem_map.1 hx;cases y with
  |none=>cases e
  |some i=>grind
 have a5:Aa (σ.act.map (iD L.gP)).reverse=(Aa σ.act.reverse).map L.gP:=by
  rw[<-U9];exact T4 _
 refine RD (by omega) (gf:=336) hg (Go.Proofs.enters_of func336 (by rfl) rfl) a2 KC.trans (λW l o o' _ z F _=>KC.put W l o o' z F) (Below.refl _ _) (λ_=>rfl)
  (λpre W=>∃d,pre.map (·.1)=d.map L.gP/\I d W) (λc pre W=>∃d,pre.map (·.1)=d.map L.gP/\V c d W) ?_ ?_ ?_ (λx=>m x.1) ?_ ?_ ?_ ?_
 .rintro s A B R ⟨d,z,F⟩ O u;rw[H]at u;exact⟨d,z,hI d A B R F O u⟩
 .rintro c s A B R ⟨d,z,F⟩ O u;rw[H]at u;exact⟨d,z,Z c d A B R F O u⟩
 .grind
 .intro l x W K Y
  simpa using q l x.1 W K Y
 .rintro l pre x W ⟨d,z,F⟩ a4;have⟨i,hi,ei⟩:=S x;have hb:=N l d i W hi F (by have:=sK List.length z;grind);rw[ei]at hb;have G:∀k∈T,k < (w1.alloc (gI #[Bp E] 93)).heap.size:=λk hk=>by grind
  have e2:(pre++[x]).map (·.1)=(d++[i]).map L.gP:=by rw[rA,rA,z,List.map_singleton,List.map_singleton,ei]
  refine wI hb ?_;rintro e a3 W3 r;cases e with
  |normal=>exact⟨r.1.kf G,r.1.kc,_,e2,r.2⟩
  |ret=>exact⟨r.1.kf G,_,e2,r.2⟩
  |exit id=>exact⟨r.1.kf G,_,e2,r.2⟩
  |goto t=>exact⟨r.1.kf G,_,e2,r.2⟩
  |panic ch=>exact r.elim
  |outgrown=>exact r.elim
 .rintro D ys W X hS ⟨d,z,F⟩ Y;rw[H]at X;have:d=Aa σ.act.reverse:=Fa U (by grind)
  grind
 .rintro D c pre W X a6 ⟨d,z,F⟩ Y;rw[H]at X;exact P D c d W X (abE U (by grind)) F Y
end
inductive Tn
 |el (name:gy) (gL:lh) (kids:List Tn)
 |tx (s:gy)
 |cm (s:gy)
 |dt (s:gy)
inductive Ev
 |dt (s:gy)
 |cm (s:gy)
 |tx (s:gy)
 |enter (name:gy) (gL:lh)
 |wo (name:gy)
variable {J : List Ev->gv->Prop} {tot : List Ev}
mutual
def Dd (vd:gy->Bool):Tn->List Ev
 | .el name gL ks=> .enter name gL::(if vd name then []else vf vd ks++[.wo name])
 | .tx s=>[.tx s]
 | .cm s=>[.cm s]
 | .dt s=>[.dt s]
def vf (vd:gy->Bool):List Tn->List Ev
 |[]=>[]
 |t::ts=>Dd vd t++vf vd ts
end
abbrev II (gL:lh):List gO:=gL.flatMap λa=>[gH a.1,gH a.2]
abbrev vr (w:gv) (v:gO) (gL:lh):Prop:=w.ownsRow 0 275 2 v gL.length (II gL)
mutual
def jJ (w:gv):Tn->Nd->Prop
 | .el name gL ks,.el k=>∃d a kv e,El 0 w k name d a kv e/\vr w d gL/\gL.length<=4096/\qJ w ks e
 | .tx s,.tx k=>w.heap[k]?=some (gI #[gH s] 260)
 | .cm s,.cm k=>w.heap[k]?=some (gI #[gH s] 218)
 | .dt s,.dt k=>w.heap[k]?=some (gI #[gH s] 222)
 |_,_=>False
def qJ (w:gv):List Tn->List Nd->Prop
 |[],[]=>True
 |t::ts,n::ns=>jJ w t n/\qJ w ts ns
 |_,_=>False
end
theorem qJ.len:∀{d:List Tn} {a:List Nd},qJ w d a->d.length=a.length
 |[],[],_=>rfl
 |_::_,_::_,h=>by unfold qJ at h;simp[qJ.len h.2]
 |[],_::_,h=>by unfold qJ at h;grind
 |_::_,[],h=>by unfold qJ at h;grind
theorem qJ.get:∀{d:List Tn} {a:List Nd} (_:qJ w d a) (k:Nat) (e:k < d.length) (g:k < a.length),jJ w d[k] a[k]
 |[],_,_,_,e,_=>by grind
 |_::_,[],h,_,_,_=>by grind
 |_::_,_::_,h,0,_,_=>by unfold qJ at h;exact h.1
 |_::_,_::_,h,k+1,e,g=>by
  unfold qJ at h;exact qJ.get h.2 k (by grind) (by grind)
def Ce (vd:gy->Bool):∀(a b:List Tn),vf vd (a++b)=vf vd a++vf vd b
 |[],b=>by rfl
 |t::a,b=>by simp[vf,Ce vd a b]
def aaT (vd:gy->Bool) (t:Tn):vf vd [t]=Dd vd t:=by simp[vf]
def TS (T:TypeId) (x:gO) (m:String) (args:jM) (w0:gv) (tot:List Ev) (J:List Ev->gv->Prop) (a:Ev) (r:gO):Prop:=
 ∃f y,(∀w,(Go.method 489 T x m).run prog w= .ok (f,y) w)/\(∀w,(nilAhead 489 T x m).run prog w= .ok (some false) w)/\(∀args w,(callFunc f args).run prog w= .ok (.enter f args) w)/\
  ∀pre W,Kept [] w0 W->J pre W->pre++[a] <+:tot->Calls prog f (#[y]++args) W λe W'=>e=iq r/\J (pre++[a]) W'/\Kept [] w0 W'
structure Vis (T:TypeId) (x:gO) (vd:gy->Bool) (tot:List Ev) (w0:gv) (J:List Ev->gv->Prop):Prop where
 mono:∀pre W W',J pre W->Kept [] W W'->J pre W'
 dt:∀s,TS T x "Doctype" #[gH s] w0 tot J (.dt s) (.tuple #[])
 cm:∀s,TS T x "Comment" #[gH s] w0 tot J (.cm s) (.tuple #[])
 tx:∀s,TS T x "Text" #[gH s] w0 tot J (.tx s) (.tuple #[])
 wo:∀s,TS T x "Leave" #[gH s] w0 tot J (.wo s) (.tuple #[])
 enter:∃f y,(∀w,(Go.method 489 T x "Enter").run prog w= .ok (f,y) w)/\(∀w,(nilAhead 489 T x "Enter").run prog w= .ok (some false) w)/\(∀args w,(callFunc f args).run prog w= .ok (.enter f args) w)/\
  ∀pre W s av gL,Kept [] w0 W->J pre W->pre++[.enter s gL] <+:tot->vr W av gL->gL.length<=4096->Calls prog f #[y,gH s,av] W λe W'=>(∃b,e=iq (.bool b)/\(b=(!vd s)\/b=false/\∀p,J p W'))/\J (pre++[.enter s gL]) W'/\Kept [] w0 W'
theorem afc (V:Vis T x vd tot w0 J) (k:Nat) (s:gy) (pre:List Ev) (W:gv) (m:Kept [] w0 W) (j:J pre W) (u:pre++[.tx s] <+:tot) (p:W.heap[k]?=some (gI #[gH s] 260)):
  Calls prog 422 #[gJ k,.iface T x] W λe W'=>e=p8/\J (pre++[.tx s]) W'/\Kept [] w0 W':=by
 have r:∀(d:Fn) (first a:jM) (w:gv),(Instr.makeFunc d first a).run prog w= .ok (.func d first a) w:=λ_ _ _ _=>rfl;have⟨f,y,hm,hna,hcf,hc⟩:=V.tx s;have C:=(λq=>hc pre (W.drewN q) (m.drewN q) (V.mono _ _ _ j ((Kept.refl _ _).drewN q)) u);have g:=fW p 0;dsimp at g;generalize hJJ:J (pre++[.tx s])=z at C|-;go_enter func422,ntmps422
 go_wp21
 go_region_with (refine(C _).mono ?_;rintro e A ⟨rfl,B,D⟩)
 all_goals (try go_wp2)
 all_goals (go_end0;grind)
theorem Ya (V:Vis T x vd tot w0 J) (k:Nat) (s:gy) (pre:List Ev) (W:gv) (m:Kept [] w0 W) (j:J pre W) (u:pre++[.cm s] <+:tot) (p:W.heap[k]?=some (gI #[gH s] 218)):
  Calls prog 420 #[gJ k,.iface T x] W λe W'=>e=p8/\J (pre++[.cm s]) W'/\Kept [] w0 W':=by
 have r:∀(d:Fn) (first a:jM) (w:gv),(Instr.makeFunc d first a).run prog w= .ok (.func d first a) w:=λ_ _ _ _=>rfl;have⟨f,y,hm,hna,hcf,hc⟩:=V.cm s;have C:=(λq=>hc pre (W.drewN q) (m.drewN q) (V.mono _ _ _ j ((Kept.refl _ _).drewN q)) u);have g:=fW p 0;dsimp at g;generalize hJJ:J (pre++[.cm s])=z at C|-;go_enter func420,ntmps420
 go_wp21
 go_region_with (refine(C _).mono ?_;rintro e A ⟨rfl,B,D⟩)
 all_goals (try go_wp2)
 all_goals (go_end0;grind)
theorem Ye (V:Vis T x vd tot w0 J) (k:Nat) (s:gy) (pre:List Ev) (W:gv) (m:Kept [] w0 W) (j:J pre W) (u:pre++[.dt s] <+:tot) (p:W.heap[k]?=some (gI #[gH s] 222)):
  Calls prog 421 #[gJ k,.iface T x] W λe W'=>e=p8/\J (pre++[.dt s]) W'/\Kept [] w0 W':=by
 have r:∀(d:Fn) (first a:jM) (w:gv),(Instr.makeFunc d first a).run prog w= .ok (.func d first a) w:=λ_ _ _ _=>rfl;have⟨f,y,hm,hna,hcf,hc⟩:=V.dt s;have C:=(λq=>hc pre (W.drewN q) (m.drewN q) (V.mono _ _ _ j ((Kept.refl _ _).drewN q)) u);have g:=fW p 0;dsimp at g;generalize hJJ:J (pre++[.dt s])=z at C|-;go_enter func421,ntmps421
 go_wp21
 go_region_with (refine(C _).mono ?_;rintro e A ⟨rfl,B,D⟩)
 all_goals (try go_wp2)
 all_goals (go_end0;grind)
def YL:(prog.info? 275).map (λi=>(i.zero,i.size,i.bytes))=some (some (.agg #[gH kI,gH kI]),2,32):=by kernel_rfl
theorem Nq (L:lh):(II L).length=L.length*2:=by
 induction L with
 |nil=>rfl
 |cons a L ih=>grind
theorem adl (v:gO) (L:lh) (w:gv) (k:vr w v L) (hL:L.length<=4096):
  Calls prog 398 #[v] w λe w'=>∃d,e=iq d/\vr w' d L/\Kept [] w w':=by
 obtain⟨i0,Y,B,C,D⟩:=tz YL;rcases k.2 with⟨rfl,S⟩|⟨g,a,R,rfl,U,X,_⟩
 .have hn:=λw=>Lib.run_eql_slice_nil (P:=prog) w 139 275 none 0 0 0 0 underlying139;have:L=[]:=Xn S;subst this;clear k;go_enter func398,ntmps398;go_wp2;go_ret;exact⟨_,rfl,oX _ _ _ _,Kept.refl _ _⟩
 .have hn:=λw=>Lib.run_eql_slice_nil (P:=prog) w 139 275 (some ⟨g,0,none⟩) L.length a 0 0 underlying139;have Q:=fU k;have y:=jk X;have G:(w.alloc (.cells #[] 275)).ownsRow w.heap.size 275 2 (oY w.heap.size 0 0) 0 []:=
   ⟨rfl,.inr ⟨w.heap.size,0,#[],rfl,ig _,fY w _,ig _,iO _,rfl,rfl⟩⟩
  clear k;go_enter func398,ntmps398;go_wp2_with (at_builtin;refine iw _ rfl _ _ 139 rfl w.heap.size 275 i0 (.agg #[gH kI,gH kI]) 2 32 underlying139 Y B C D rfl (by decide) _ _ _ rfl G ⟨g,0,none⟩ L.length a (II L) rfl ?c1 ?c2 ?c3 ?c4 ?c5 ?c6 ?_)
  case c1=>exact Nq L
  case c2=>
   intro j u Z;have:=Q.cells (g:=g) rfl j u Z;rw[iY]at this|-;rw[<-this];exact mY _ _ _ y
  case c3=>
   intro u A;unfold II at A;simp at A;obtain⟨p,q,_,h|h⟩:=A<;>(subst h;rfl)
  case c4=>omega
  case c5=>omega
  case c6=>simp
  intro d F z m V;have K:F.ownsRow w.heap.size 275 2 d L.length (II L):=by simpa using z
  have N:vr F d L:=by
   refine⟨K.1,?_⟩;rcases K.2 with e|⟨g1,H,I,e,_,r⟩
   .exact .inl e
   .grind
  have O:Hid (Kept [] w F):=((Kept.refl [] w).alloc _).grown m (λx hx=> .inr (G.lt x hx).1);go_wp2;go_ret;exact⟨_,rfl,N,O⟩
theorem vr.kept (h:vr w v gL) (m:Kept [] w w'):vr w' v gL:=by
 refine⟨h.1,?_⟩;rcases h.2 with e|⟨g,a,d,e,j,k,r⟩
 .grind
 .exact .inr ⟨g,a,d,e,j,m.at k (by simp),r⟩
theorem El.il {k : Nat} {a : gy} {p : gO} {d : jg} {kv : gO} {ns:List Nd} (h:El 0 w k a p d kv ns) (q:Kept [] w w'):El 0 w' k a p d kv ns:=by
 refine⟨q.at h.ir (by simp),⟨h.row.1,?_⟩,h.le,h.TW⟩;rcases h.row.2 with e|⟨g,j,m,e,u,y,r⟩
 .grind
 .exact .inr ⟨g,j,m,e,u,q.at y (by simp),r⟩
mutual
theorem jJ.kept (a:Kept [] w w'):∀{t:Tn} {n:Nd},jJ w t n->jJ w' t n
 | .el name gL ks,.el k,h=>by
  unfold jJ at h|-;have⟨av,je,kv,ns,h1,h2,h3,h4⟩:=h;exact⟨av,je,kv,ns,h1.il a,h2.kept a,h3,qJ.kept a h4⟩
 | .tx _,.tx _,h=>by unfold jJ at h|-;exact a.at h (by simp)
 | .cm _,.cm _,h=>by unfold jJ at h|-;exact a.at h (by simp)
 | .dt _,.dt _,h=>by unfold jJ at h|-;exact a.at h (by simp)
 | .el _ _ _,.tx _,h=>by grind[jJ]
 | .el _ _ _,.cm _,h=>by grind[jJ]
 | .el _ _ _,.dt _,h=>by grind[jJ]
 | .tx _,.el _,h=>by grind[jJ]
 | .tx _,.cm _,h=>by grind[jJ]
 | .tx _,.dt _,h=>by grind[jJ]
 | .cm _,.el _,h=>by grind[jJ]
 | .cm _,.tx _,h=>by grind[jJ]
 | .cm _,.dt _,h=>by grind[jJ]
 | .dt _,.el _,h=>by grind[jJ]
 | .dt _,.tx _,h=>by grind[jJ]
 | .dt _,.cm _,h=>by grind[jJ]
theorem qJ.kept (e:Kept [] w w'):∀{d:List Tn} {a:List Nd},qJ w d a->qJ w' d a
 |[],[],_=>by simp[qJ]
 |t::d,n::a,h=>by
  unfold qJ at h|-;exact⟨jJ.kept e h.1,qJ.kept e h.2⟩
 |[],_::_,h=>by grind[qJ]
 |_::_,[],h=>by grind[qJ]
end
section
variable {T:TypeId} {x:gO} {vd:gy->Bool} {tot:List Ev} {w0:gv} {J:List Ev->gv->Prop}
def zr:Nd->Nat
 | .el _=>397
 | .tx _=>422
 | .cm _=>420
 | .dt _=>421
def Nd.bk:Nd->Nat
 | .el k=>k
 | .tx k=>k
 | .cm k=>k
 | .dt k=>k
def GP (T:TypeId) (x:gO) (vd:gy->Bool) (tot:List Ev) (w0:gv) (J:List Ev->gv->Prop) (t:Tn) (n:Nd):Prop:=
 ∀pre W,Kept [] w0 W->J pre W->pre++Dd vd t <+:tot->
  Calls prog (zr n) #[gJ n.bk,.iface T x] W λe W'=>e=p8/\J (pre++Dd vd t) W'/\Kept [] w0 W'
def Mc (n:Nd) (w:gv):∃t y,n.val= .iface t y/\y=gJ n.bk/\(∀w,(Go.method 489 t y "Visit").run prog w= .ok (zr n,y) w):=by
 cases n with
 |el k=>exact⟨_,_,rfl,rfl,λw=>by kernel_rfl⟩
 |tx k=>exact⟨_,_,rfl,rfl,λw=>by kernel_rfl⟩
 |cm k=>exact⟨_,_,rfl,rfl,λw=>by kernel_rfl⟩
 |dt k=>exact⟨_,_,rfl,rfl,λw=>by kernel_rfl⟩
def Wp (n:Nd):∀a w,(callFunc (zr n) a).run prog w= .ok (.enter (zr n) a) w:=by
 cases n with
 |el k=>simp[zr]
 |tx k=>simp[zr]
 |cm k=>simp[zr]
 |dt k=>simp[zr]
theorem Tc {a b c:List Ev} (h:a++(b++c) <+:tot):a++b <+:tot:=by
 have⟨r,hr⟩:=h
 grind
theorem FQ (V:Vis T x vd tot w0 J) (k:Nat) (r:gy) (av:gO) (H:jg) (kv:gO) (a:List Tn) (ns:List Nd) (R:a.length=ns.length)
  (q:El 0 w0 k r av H kv ns) (hv:∀i (A:i < a.length) (u:i < ns.length),GP T x vd tot w0 J a[i] ns[i]) (pre:List Ev) (W:gv) (Q:Kept [] w0 W) (hJ:J pre W) (hp:pre++vf vd a <+:tot):
  Calls prog 42 #[gJ k,.iface T x] W λe W'=>e=p8/\J (pre++vf vd a) W'/\Kept [] w0 W':=by
 have O:=fW ((q.il Q).ir) 3;dsimp at O;have D:=q.le;have⟨ao,cap,hkv⟩:=gG q.row;have I:=fU q;have X:=hv;have U:=hp;have HJ:=hJ;have HK:=Q;have K:=fU R;obtain⟨n,G⟩:∃n,n=ns.length:=⟨_,rfl⟩;have N:=fU G;subst hkv;rw[<-G]at O D;clear q R G;go_enter func42,ntmps42
 go_wp21
 go_loopw [11] (λv wr=>∃i:Nat,v=gn i/\i<=n/\J (pre++vf vd (a.take i)) wr/\Kept [] w0 wr) (λv _=>n - (intOf v).toNat)
 case atStart=>grind[vf]
 case round=>
  obtain⟨i,rfl,hi,m,d⟩:=hrel
  by_cases F:i < n
  .have u:i < ns.length:=by rw[<-N.out];exact F
   have A:i < a.length:=by rw[K.out];exact u
   have⟨t,y,hval,hy,hm⟩:=Mc ns[i] wr;have a1:=Wp ns[i];obtain⟨g,B⟩:∃g,ao=some ⟨g,0,none⟩:=by
    rcases I.row.2 with⟨e,h0⟩|⟨g,P,a0,e,_⟩
    all_goals grind
   subst B;have hc:wr.cell? ⟨g,i,none⟩=some (.iface t y):=by
    have:=(I.il d).row.cells (g:=g) rfl i ns[i].val (by simp[u]);rw[iY]at this;rw[<-hval]
    simpa using this
   have j:vf vd (a.take (i+1))=vf vd (a.take i)++Dd vd a[i]:=by
    rw[Ks,ry A,Ce];simp[aaT]
   have S:pre++vf vd (a.take (i+1)) <+:tot:=by
    refine Tc (c:=vf vd (a.drop (i+1))) ?_;rw[<-Ce,Gy];exact U
   have C:=X i A u _ wr d m (by grind);rw[xq,<-j]at C;rw[hy]at hc hm;generalize zr ns[i]=fv at *;generalize ns[i].bk=kb at *;generalize hZ:J (pre++vf vd (a.take (i+1)))=Z at C;have Y:=fU hZ;clear hZ
   go_wp21
   refine C.mono ?_;rintro e W2 ⟨rfl,z,p⟩;go_wp2;go_roundw
   case rel=>exact⟨i+1,by go_num,by omega,by rw[Y.out];exact z,p⟩
   case measure=>simp[intOf];omega
  .have he:a.take i=a:=AN (by rw[K.out,<-N.out];omega);rw[he]at m;have p:=d;go_wp2;go_end0
   grind
def Yg (V:Vis T x vd tot w0 J) (k:Nat) (a:gy) (gL:lh) (av:gO) (a1:jg) (kv:gO) (j:List Tn) (ns:List Nd) (hl:j.length=ns.length)
  (Q:El 0 w0 k a av a1 kv ns) (hA:vr w0 av gL) (C:gL.length<=4096) (hv:∀i (h1:i < j.length) (h2:i < ns.length),GP T x vd tot w0 J j[i] ns[i]):GP T x vd tot w0 J (.el a gL j) (.el k):=by
 intro pre W u hJ hp;show Calls prog 397 #[gJ k,.iface T x] W _;have ac:∀(fn:Fn) (first P:jM) (w:gv),(Instr.makeFunc fn first P).run prog w= .ok (.func fn first P) w:=λ_ _ _ _=>rfl;have c0:=fW ((Q.il u).ir) 0;have c1:=fW ((Q.il u).ir) 1;dsimp at c0 c1;have Y:pre++[.enter a gL] <+:tot:=by
  unfold Dd at hp;exact Tc (b:=[.enter a gL]) (by simpa using hp)
 obtain⟨f,y,hm,X,U,S⟩:=V.enter;have C1:=fU (λq=>adl av gL (W.drewN q) ((hA.kept u).kept ((Kept.refl _ _).drewN q)) C);have C2:=fU (λq N v1 (D:Kept [] (W.drewN q) N) (ha:vr N v1 gL)=>S pre N a v1 gL ((u.drewN q).trans D) (V.mono _ _ _ hJ (((Kept.refl _ _).drewN q).trans D)) Y ha C);obtain⟨ao,n,cp,a6⟩:=Q.TW;subst a6;have HV:=fU V;have HE:=fU Q;have HW:=fU hv;have HP:=fU hp;have HL:=fU hl;have a5:=fU u;clear S V u hJ hp Y hA C Q hv hl;go_enter func397,ntmps397;go_wp2_with fail
 go_cut [17]from 4 to 16 (λr wc=>(∃b,r= .bool b/\(b=(!vd a)\/b=false/\∀p,J p wc))/\J (pre++[.enter a gL]) wc/\Kept [] w0 wc)
 case first=>
  go_region_with (first
   |(go_at_call 398;refine(C1.out _).mono ?_;rintro e N ⟨v1,rfl,B,F⟩;obtain⟨aa,ab,a9⟩:=gG B;subst a9;have a2:=fU B;have a4:=fU F;have c2:N.cell? ⟨k,0,none⟩=some (gH a):=(by rw[fW (HE.out.il ((a5.out.drewN _).trans F)).ir];rfl);clear B F)
   |(refine(C2.out _ _ _ a4.out a2.out).mono ?_;rintro e O ⟨⟨bb,rfl,R⟩,g,d⟩;have a3:=fU R;have z:=fU g;have A:=fU d;clear R g d))
  all_goals (try (go_wp2_with fail))
  all_goals (go_meet;exact⟨⟨bb,rfl,a3.out⟩,z.out,A.out⟩)
 case rest=>
  obtain⟨⟨bb,rfl,m⟩,I,D⟩:=hcut;clear C1 C2 hm X U c0 c1;cases bb with
  |false=>
   replace I:J (pre++Dd vd (.el a gL j)) wc:=by
    rcases m with m|⟨_,m⟩
    .have G:vd a=true:=by
      cases h:vd a
      .rw[h]at m;cases m
      .rfl
     have H:pre++Dd vd (.el a gL j)=pre++[.enter a gL]:=by simp[Dd,G]
     rw[H];exact I
    .exact m _
   clear m;have HJ:=fU I;have HK:=fU D;clear I D;rename_i K u;refine u _ _ ?_;clear u;go_wp2;go_end0;exact⟨rfl,HJ.out,HK.out⟩
  |true=>
   have G:vd a=false:=by
    rcases m with m|⟨m,_⟩
    .cases h:vd a
     .rfl
     .rw[h]at m;cases m
    .cases m
   clear m;have H:Dd vd (.el a gL j)= .enter a gL::(vf vd j++[.wo a]):=by simp[Dd,G]
   have Z:(pre++[.enter a gL])++vf vd j <+:tot:=Tc (c:=[.wo a]) (by have:=HP.out;rw[H]at this;simpa using this);have a0:(pre++[.enter a gL]++vf vd j)++[.wo a] <+:tot:=by have:=HP.out;rw[H]at this;simpa using this
   have e3:pre++Dd vd (.el a gL j)=(pre++[.enter a gL]++vf vd j)++[.wo a]:=by rw[H];simp
   have C3:=fU (FQ HV.out k a _ a1 kv j ns HL.out HE.out HW.out _ wc D I Z);obtain⟨f,y,hm,X,U,S⟩:=HV.out.wo a;have C4:=fU (λq O (d:Kept [] w0 O) (g:J (pre++[.enter a gL]++vf vd j) O)=>S _ (O.drewN q) (d.drewN q) (HV.out.mono _ _ _ g ((Kept.refl _ _).drewN q)) a0);rw[<-e3]at C4;clear Z a0 H e3 I D S;generalize hJJ:J (pre++[.enter a gL]++vf vd j)=J1 at C3 C4;clear hJJ;rename_i K u;refine u _ _ ?_;clear u;go_wp2_with fail;refine C3.out.mono ?_;rintro e O ⟨rfl,g,d⟩;have c0:=fW ((HE.out.il d).ir) 0;dsimp at c0;have z:=fU g;have A:=fU d;clear g d;go_wp2_with fail
   go_region_with (refine(C4.out _ _ A.out z.out).mono ?_;rintro e W3 ⟨rfl,a7,a8⟩)
   all_goals (try go_wp2)
   all_goals (go_end0;exact⟨rfl,a7,a8⟩)
end
section
variable {T:TypeId} {x:gO} {vd:gy->Bool} {tot:List Ev} {w0:gv} {J:List Ev->gv->Prop}
theorem Ry (V:Vis T x vd tot w0 J):∀(t:Tn) (n:Nd),jJ w0 t n->GP T x vd tot w0 J t n
 | .el name gL ks,.el k,h=>by
  unfold jJ at h;have⟨av,je,kv,ns,h1,h2,h3,h4⟩:=h;exact Yg V k name gL av je kv ks ns h4.len h1 h2 h3 (λi g j=>Ry V ks[i] ns[i] (h4.get i g j))
 | .tx s,.tx k,h=>by
  unfold jJ at h;intro pre W a e d;unfold Dd at d|-;exact afc V k s pre W a e d (a.at h (by simp))
 | .cm s,.cm k,h=>by
  unfold jJ at h;intro pre W a e d;unfold Dd at d|-;exact Ya V k s pre W a e d (a.at h (by simp))
 | .dt s,.dt k,h=>by
  unfold jJ at h;intro pre W a e d;unfold Dd at d|-;exact Ye V k s pre W a e d (a.at h (by simp))
 | .el _ _ _,.tx _,h=>by unfold jJ at h;grind
 | .el _ _ _,.cm _,h=>by unfold jJ at h;grind
 | .el _ _ _,.dt _,h=>by unfold jJ at h;grind
 | .tx _,.el _,h=>by unfold jJ at h;grind
 | .tx _,.cm _,h=>by unfold jJ at h;grind
 | .tx _,.dt _,h=>by unfold jJ at h;grind
 | .cm _,.el _,h=>by unfold jJ at h;grind
 | .cm _,.tx _,h=>by unfold jJ at h;grind
 | .cm _,.dt _,h=>by unfold jJ at h;grind
 | .dt _,.el _,h=>by unfold jJ at h;grind
 | .dt _,.tx _,h=>by unfold jJ at h;grind
 | .dt _,.cm _,h=>by unfold jJ at h;grind
  termination_by t=>SizeOf.sizeOf t
  decreasing_by
 have:=List.sizeOf_lt_of_mem (uR g)
 grind
theorem Ft (V:Vis T x vd tot w0 J) (k:Nat) (a:gy) (gL:lh) (d:List Tn) (h:jJ w0 (.el a gL d) (.el k)) (m:vf vd d=tot) (W:gv) (j:Kept [] w0 W) (g:J [] W):
  Calls prog 42 #[gJ k,.iface T x] W λe W'=>e=p8/\J tot W'/\Kept [] w0 W':=by
 unfold jJ at h;have⟨av,je,kv,ns,h1,h2,h3,h4⟩:=h;have:=FQ V k a av je kv d ns h4.len h1 (λi p q=>Ry V d[i] ns[i] (h4.get i p q)) [] W j g (by grind)
 rwa [ru,m]at this
end
attribute [local go_sem] Oper.semAt_some
structure It where
 k:Int
 s:gy
 t:gy
abbrev It.val (x:It):gO:= .agg #[gn x.k,gH x.s,gH x.t]
def qS:Ev->List It
 | .dt s=>[⟨1,s,⟨#[]⟩⟩]
 | .cm s=>[⟨2,s,⟨#[]⟩⟩]
 | .tx s=>[⟨3,s,⟨#[]⟩⟩]
 | .enter s gL=>⟨4,s,⟨#[]⟩⟩::gL.map λa=>⟨5,a.1,a.2⟩
 | .wo s=>[⟨6,s,⟨#[]⟩⟩]
def jK (a:List Ev):List It:=a.flatMap qS
def Wk (w:gv) (b l:Nat) (d:Bool):Prop:=w.heap[b]?=some (gI #[.func (.yield l) #[] #[],.bool d] 110)
theorem pA {c : jM} {t : TypeId} {m : Nat×Nat} (h:w.heap[b]?=some (.cells c t m)) (j:Nat) (v:gO) (d:c[j]?=some v):w.setCell ⟨b,j,none⟩ v=w:=by
 have⟨hlt,hb⟩:=Array.getElem?_eq_some_iff.1 h;have g:c.setIfInBounds j v=c:=by
  apply Array.ext
  .simp
  .grind
 have e:∀f:Obj->Obj,f (.cells c t m)= .cells c t m->w.heap.modify b f=w.heap:=by
  intro f a;apply Array.ext
  .simp
  .grind
 unfold World.setCell
 simp_all
def KW (W W':gv):Prop:=∀(k:Nat) (c:jM) (t:TypeId),W.heap[k]?=some (gI c t)->t∈[110,275]->W'.heap[k]?=some (gI c t)
def KW.wk (h:KW W W') {d : Bool} (hw:Wk W b l d):Wk W' b l d:=h b _ _ hw (by decide)
theorem KW.atr (h:KW W W') (j:vr W v gL):vr W' v gL:=by
 refine⟨j.1,?_⟩;rcases j.2 with e|⟨g,a,d,e,k,m,r⟩
 .grind
 .exact .inr ⟨g,a,d,e,k,h g _ _ m (by decide),r⟩
def Wk.atr {d : Bool} (h:Wk W b l d) (x:gO) (m:vr W v gL):vr (W.setCell ⟨b,1,none⟩ x) v gL:=by
 refine⟨m.1,?_⟩;rcases m.2 with e|⟨g,a,j,e,p,k,r⟩
 .exact .inl e
 .refine .inr ⟨g,a,j,e,p,((Kept.refl [b] W).setCell (.inl (by simp)) _).at k ?_,r⟩;intro q;have e:=List.mem_singleton.1 q;subst e;rw[show W.heap[g]?=_ from h]at k;simp at k
def Xz (l:Nat) (tot:List It) (w0:gv) (J:List It->gv->Prop) (JE:gv->Prop):Prop:=∀pre x W,Kept [] w0 W->J pre W->pre++[x] <+:tot->YieldAt Fence.wide 3 prog l #[It.val x] W λe W'=>(e=iq (.bool true)/\J (pre++[x]) W'\/e=iq (.bool false)/\JE W')/\Kept [] w0 W'/\KW W W'
def JW (l b:Nat) (J:List It->gv->Prop) (JE:gv->Prop) (pre:List It) (W:gv):Prop:=(J pre W/\Wk W b l false)\/(JE W/\Wk W b l true)
def JW.mono {J : List It->gv->Prop} {JE : gv->Prop} (e:∀pre W W',J pre W->Kept [] W W'->J pre W') (d:∀W W',JE W->Kept [] W W'->JE W') {pre : List It} (h:JW l b J JE pre W) (a:Kept [] W W'):JW l b J JE pre W':=by
 rcases h with⟨h,k⟩|⟨h,k⟩
 .exact .inl ⟨e _ _ _ h a,a.at k (by simp)⟩
 .exact .inr ⟨d _ _ h a,a.at k (by simp)⟩
section
variable {l b:Nat} {tot:List It} {w0:gv} {J:List It->gv->Prop} {JE:gv->Prop}
def Bg (B:Xz l tot w0 J JE) (C:w0.heap.size<=b) (q:∀V,Wk V b l false->JE V->JE (V.setCell ⟨b,1,none⟩ (.bool true))) (pre:List It) (x:It) (W:gv) (y:Kept [] w0 W) (p:JW l b J JE pre W) (F:pre++[x] <+:tot):
  Calls prog 407 #[gJ b,gn x.k,gH x.s,gH x.t] W λe W'=>e=p8/\(JW l b J JE (pre++[x]) W'/\Kept [] w0 W')/\∀v gL,vr W v gL->vr W' v gL:=by
 refine(wJ (n:=4)).1 ?_;rcases p with⟨p,j⟩|⟨p,j⟩
 .have P:=fW j 0;have z:=fW j 1;dsimp at P z;obtain⟨S,I,assign,body,R,H⟩:=B pre x W y p F;have O:=fU H;dsimp only[It.val]at R;have D:=jk j;have G:=fU j;have N:=fU q;have K:=fU C;clear H B y p F j q C;obtain⟨k,s,t⟩:=x;refine callsIn_of_wp func407 rfl trivial ?_ rfl;simp only[ntmps407,wM,qe,uS,Nat.reduceAdd,Nat.reduceSub,wN,wO,wP,wQ,ru,uT];gi_wp2;refine O.out.mono ?_;rintro e r ⟨⟨rfl,g⟩|⟨rfl,g⟩,m,d⟩
  .have a:=d.wk G.out;have A:=fW a 1;have Q:=gE a 1;dsimp at A;have HS:=fU (pA a 1 (.bool false) rfl);have u:=fU (show(JW l b J JE (pre++[⟨k,s,t⟩]) r/\Kept [] w0 r)/\∀v gL,vr W v gL->vr r v gL from⟨⟨.inl ⟨g,a⟩,m⟩,λ_ _ h=>d.atr h⟩);clear g m d a;gi_wp2;go_end0;rw[HS.out];exact⟨rfl,u.out⟩
  .have a:=d.wk G.out;have A:=fW a 1;have Q:=gE a 1;dsimp at A;have u:=fU (show(JW l b J JE (pre++[⟨k,s,t⟩]) (r.setCell ⟨b,1,none⟩ (.bool true))/\Kept [] w0 (r.setCell ⟨b,1,none⟩ (.bool true)))/\∀v gL,vr W v gL->vr (r.setCell ⟨b,1,none⟩ (.bool true)) v gL from⟨⟨.inr ⟨N.out _ a g,gg a 1 _⟩,m.setCell (.inr K.out) _⟩,λ_ _ h=>a.atr _ (d.atr h)⟩);clear g m d a;gi_wp2;go_end0;exact⟨rfl,u.out⟩
 .have z:=fW j 1;dsimp at z;have D:=jk j;have u:=fU (show(JW l b J JE (pre++[x]) W/\Kept [] w0 W)/\∀v gL,vr W v gL->vr W v gL from⟨⟨.inr ⟨p,j⟩,y⟩,λ_ _ h=>h⟩);clear B y p F j q C;refine callsIn_of_wp func407 rfl trivial ?_ rfl;simp only[ntmps407,wM,qe,uS,Nat.reduceAdd,Nat.reduceSub,wN,wO,wP,wQ,ru,uT];gi_wp2;go_end0;exact⟨rfl,u.out⟩
def wdt (j:Xz l tot w0 J JE) (k:w0.heap.size<=b) (a:∀V,Wk V b l false->JE V->JE (V.setCell ⟨b,1,none⟩ (.bool true))) (s:gy) (pre:List It) (W:gv) (g:Kept [] w0 W) (d:JW l b J JE pre W) (p:pre++[⟨1,s,⟨#[]⟩⟩] <+:tot):
  Calls prog 433 #[gJ b,gH s] W λe W'=>e=p8/\JW l b J JE (pre++[⟨1,s,⟨#[]⟩⟩]) W'/\Kept [] w0 W':=by
 have C:=fU (Bg j k a pre ⟨1,s,⟨#[]⟩⟩ W g d p);clear j g d p k a;generalize JW l b J JE (pre++[⟨1,s,⟨#[]⟩⟩])=r at C|-;go_enter func433,ntmps433;go_wp2_with fail;refine C.out.mono ?_;rintro e u ⟨rfl,m,_⟩;have q:=fU m;clear m;go_wp2;go_end0;exact⟨rfl,q.out⟩
def wcm (j:Xz l tot w0 J JE) (k:w0.heap.size<=b) (a:∀V,Wk V b l false->JE V->JE (V.setCell ⟨b,1,none⟩ (.bool true))) (s:gy) (pre:List It) (W:gv) (g:Kept [] w0 W) (d:JW l b J JE pre W) (p:pre++[⟨2,s,⟨#[]⟩⟩] <+:tot):
  Calls prog 404 #[gJ b,gH s] W λe W'=>e=p8/\JW l b J JE (pre++[⟨2,s,⟨#[]⟩⟩]) W'/\Kept [] w0 W':=by
 have C:=fU (Bg j k a pre ⟨2,s,⟨#[]⟩⟩ W g d p);clear j g d p k a;generalize JW l b J JE (pre++[⟨2,s,⟨#[]⟩⟩])=r at C|-;go_enter func404,ntmps404;go_wp2_with fail;refine C.out.mono ?_;rintro e u ⟨rfl,m,_⟩;have q:=fU m;clear m;go_wp2;go_end0;exact⟨rfl,q.out⟩
def wtx (j:Xz l tot w0 J JE) (k:w0.heap.size<=b) (a:∀V,Wk V b l false->JE V->JE (V.setCell ⟨b,1,none⟩ (.bool true))) (s:gy) (pre:List It) (W:gv) (g:Kept [] w0 W) (d:JW l b J JE pre W) (p:pre++[⟨3,s,⟨#[]⟩⟩] <+:tot):
  Calls prog 434 #[gJ b,gH s] W λe W'=>e=p8/\JW l b J JE (pre++[⟨3,s,⟨#[]⟩⟩]) W'/\Kept [] w0 W':=by
 have C:=fU (Bg j k a pre ⟨3,s,⟨#[]⟩⟩ W g d p);clear j g d p k a;generalize JW l b J JE (pre++[⟨3,s,⟨#[]⟩⟩])=r at C|-;go_enter func434,ntmps434;go_wp2_with fail;refine C.out.mono ?_;rintro e u ⟨rfl,m,_⟩;have q:=fU m;clear m;go_wp2;go_end0;exact⟨rfl,q.out⟩
def wlv (j:Xz l tot w0 J JE) (k:w0.heap.size<=b) (a:∀V,Wk V b l false->JE V->JE (V.setCell ⟨b,1,none⟩ (.bool true))) (s:gy) (pre:List It) (W:gv) (g:Kept [] w0 W) (d:JW l b J JE pre W) (p:pre++[⟨6,s,⟨#[]⟩⟩] <+:tot):
  Calls prog 406 #[gJ b,gH s] W λe W'=>e=p8/\JW l b J JE (pre++[⟨6,s,⟨#[]⟩⟩]) W'/\Kept [] w0 W':=by
 have C:=fU (Bg j k a pre ⟨6,s,⟨#[]⟩⟩ W g d p);clear j g d p k a;generalize JW l b J JE (pre++[⟨6,s,⟨#[]⟩⟩])=r at C|-;go_enter func406,ntmps406;go_wp2_with fail;refine C.out.mono ?_;rintro e u ⟨rfl,m,_⟩;have q:=fU m;clear m;go_wp2;go_end0;exact⟨rfl,q.out⟩
def BA (a b:List Ev):jK (a++b)=jK a++jK b:=List.flatMap_append ..
def wm {a b:List Ev} (h:a <+:b):jK a <+:jK b:=by
 obtain⟨r,rfl⟩:=h;simp[jK]
theorem LX (L:lh) (i:Nat) (h:i < L.length):(II L)[i*2]?=some (gH L[i].1)/\(II L)[i*2+1]?=some (gH L[i].2):=by
 induction L generalizing i with
 |nil=>simp at h
 |cons a L ih=>
  cases i with
  |zero=>simp
  |succ i=>
   grind
def wen (hY:Xz l tot w0 J JE) (hb:w0.heap.size<=b) (z:∀V,Wk V b l false->JE V->JE (V.setCell ⟨b,1,none⟩ (.bool true))) (hm:∀pre W W',J pre W->Kept [] W W'->J pre W') (G:∀W W',JE W->Kept [] W W'->JE W') (s:gy) (av:gO) (gL:lh) (pre:List It) (W:gv) (hK:Kept [] w0 W) (hJ:JW l b J JE pre W) (hp:pre++qS (.enter s gL) <+:tot) (hA:vr W av gL) (a0:gL.length<=4096):
  Calls prog 405 #[gJ b,gH s,av] W λe W'=>(∃d,e=iq (.bool d)/\(d=true\/d=false/\∀p,JW l b J JE p W'))/\JW l b J JE (pre++qS (.enter s gL)) W'/\Kept [] w0 W':=by
 have H:pre++[(⟨4,s,⟨#[]⟩⟩:It)] <+:tot:=by
  obtain⟨r,hr⟩:=hp;exact⟨_,by rw[<-hr];simp[qS];rfl⟩
 have C:=fU (Bg hY hb z pre ⟨4,s,⟨#[]⟩⟩ W hK hJ H);obtain⟨ao,Y,F⟩:=gG hA;have HA:=fU hA;have HP:=fU hp;have HY:=fU hY;have HM:=fU hm;have U:=fU G;have X:=fU z;have HB:=fU hb;obtain⟨n,hn⟩:∃n,n=gL.length:=⟨_,rfl⟩;rw[<-hn]at a0 F;have HN:=fU hn;subst F;clear hY hK hJ hp H hA hm hn hb z G;go_enter func405,ntmps405;go_wp2_with fail;refine C.out.mono ?_;rintro e W2 ⟨rfl,⟨j,m⟩,I⟩;have O:=fU (I _ _ HA.out);have R:=fU j;have S:=fU m;clear j m I C HA;go_wp2_with fail
 go_loopw [14] (λv wr=>∃i:Nat,v=gn i/\i<=n/\JW l b J JE (pre++(⟨4,s,⟨#[]⟩⟩::(gL.take i).map λa=>(⟨5,a.1,a.2⟩:It))) wr/\Kept [] w0 wr/\vr wr (.slice ao n Y) gL) (λv _=>n - (intOf v).toNat)
 case atStart=>exact⟨0,rfl,iO _,by simpa using R.out,S.out,O.out⟩
 case round=>
  obtain⟨i,rfl,hi,j,m,B⟩:=hrel
  by_cases a3:i < n
  .have Z:i < gL.length:=by rw[<-HN.out];exact a3
   obtain⟨g,a1⟩:∃g,ao=some ⟨g,0,none⟩:=by
    rcases B.2 with⟨e,h0⟩|⟨g,a4,a5,e,_⟩
    .omega
    .injection e with e1;exact⟨g,e1⟩
   subst a1;have a6:wr.cell? ⟨g,i*2,none⟩=some (gH gL[i].1):=by
    have:=B.cells (g:=g) rfl (i*2) _ (LX gL i Z).1;rw[iY]at this
    simpa using this
   have a7:wr.cell? ⟨g,i*2+1,none⟩=some (gH gL[i].2):=by
    have:=B.cells (g:=g) rfl (i*2+1) _ (LX gL i Z).2;rw[iY]at this
    simpa using this
   have k:(pre++(⟨4,s,⟨#[]⟩⟩::(gL.take i).map λa=>(⟨5,a.1,a.2⟩:It)))++[⟨5,gL[i].1,gL[i].2⟩]=pre++(⟨4,s,⟨#[]⟩⟩::(gL.take (i+1)).map λa=>(⟨5,a.1,a.2⟩:It)):=by
    have:(gL.take (i+1))=gL.take i++[gL[i]]:=by rw[Ks,ry Z];rfl
    rw[this,rA];simp only[xq,uT,yC,List.map_nil]
   have y:(pre++(⟨4,s,⟨#[]⟩⟩::(gL.take i).map λa=>(⟨5,a.1,a.2⟩:It)))++[⟨5,gL[i].1,gL[i].2⟩] <+:tot:=by
    rw[k];obtain⟨r,hr⟩:=HP.out;refine⟨((gL.drop (i+1)).map λa=>(⟨5,a.1,a.2⟩:It))++r,?_⟩;rw[<-hr];have e:=sK (List.map λa:gy×gy=>(⟨5,a.1,a.2⟩:It)) (Gy (i+1) gL);rw[rA]at e;show _=pre++(⟨4,s,⟨#[]⟩⟩::gL.map λa=>(⟨5,a.1,a.2⟩:It))++r;rw[<-e];simp only[xq,uT]
   have K:∀o,Kept [] wr (wr.alloc o):=λo=>(Kept.refl [] wr).alloc o;have N:=fU (λo=>Bg HY.out HB.out X.out _ ⟨5,gL[i].1,gL[i].2⟩ (wr.alloc o) (m.trans (K o)) (JW.mono HM.out U.out j (K o)) y);have D:=fU (λo=>B.kept (K o));simp only[k]at N;generalize gL[i].1=u1 at *;generalize gL[i].2=u2 at *;clear k y K j m B;go_wp2_with fail;refine(N.out _).mono ?_;rintro e W3 ⟨rfl,⟨j,m⟩,I⟩;have q:=fU j;have u:=fU m;have P:=fU (I _ _ (D.out _));clear j m I N D;go_wp2;go_roundw
   case rel=>exact⟨i+1,by go_num,by omega,q.out,u.out,P.out⟩
   case measure=>simp[intOf];omega
  .have he:gL.take i=gL:=AN (by rw[<-HN.out];omega);rw[he]at j;have q:=fU j;have u:=fU m;clear m B he;rcases j with⟨j,hw⟩|⟨j,hw⟩
   .have A:=fW hw 1;dsimp at A;have a2:=jk hw;clear j hw;go_wp2;go_ret;exact⟨⟨_,rfl,.inl rfl⟩,q.out,u.out⟩
   .have A:=fW hw 1;dsimp at A;have a2:=jk hw;have Q:=fU (λp=>(show JW l b J JE p wr from .inr ⟨j,hw⟩));clear j hw;go_wp2;go_ret;exact⟨⟨_,rfl,.inr ⟨rfl,Q.out⟩⟩,q.out,u.out⟩
end
def TH (l b:Nat) (tot:List Ev) (w0:gv) (J:List It->gv->Prop) (JE:gv->Prop) (r:Xz l (jK tot) w0 J JE) (u:w0.heap.size<=b) (j:∀V,Wk V b l false->JE V->JE (V.setCell ⟨b,1,none⟩ (.bool true))) (B:∀pre W W',J pre W->Kept [] W W'->J pre W') (y:∀W W',JE W->Kept [] W W'->JE W'):
  Vis 108 (gJ b) (λ_=>false) tot w0 (λpre W=>JW l b J JE (jK pre) W):=by
 have g:∀pre z,jK (pre++[z])=jK pre++qS z:=λpre z=>by rw[BA];simp[jK]
 refine {mono:=λpre W W' h I=>h.mono B y I,dt:=λs=>?_,cm:=λs=>?_,tx:=λs=>?_,wo:=λs=>?_,enter:=?_}
 .refine⟨433,gJ b,λw=>by kernel_rfl,λw=>by kernel_rfl,enters_of func433 (by kernel_rfl) rfl,λpre W m k q=>?_⟩;have a:=wm q;rw[g]at a
  try simp only[]
  rw[g];exact wdt r u j s _ W m k a
 .refine⟨404,gJ b,λw=>by kernel_rfl,λw=>by kernel_rfl,enters_of func404 (by kernel_rfl) rfl,λpre W m k q=>?_⟩;have a:=wm q;rw[g]at a
  try simp only[]
  rw[g];exact wcm r u j s _ W m k a
 .refine⟨434,gJ b,λw=>by kernel_rfl,λw=>by kernel_rfl,enters_of func434 (by kernel_rfl) rfl,λpre W m k q=>?_⟩;have a:=wm q;rw[g]at a
  try simp only[]
  rw[g];exact wtx r u j s _ W m k a
 .refine⟨406,gJ b,λw=>by kernel_rfl,λw=>by kernel_rfl,enters_of func406 (by kernel_rfl) rfl,λpre W m k q=>?_⟩;have a:=wm q;rw[g]at a
  try simp only[]
  rw[g];exact wlv r u j s _ W m k a
 .refine⟨405,gJ b,λw=>by kernel_rfl,λw=>by kernel_rfl,enters_of func405 (by kernel_rfl) rfl,λpre W s C gL m k q G A=>?_⟩;have a:=wm q;rw[g]at a
  try simp only[]
  rw[g];refine(wen r u j B y s C gL _ W m k a G A).mono ?_;rintro e W' ⟨⟨d,rfl,H⟩,D,F⟩;refine⟨⟨d,rfl,?_⟩,D,F⟩;rcases H with rfl|⟨rfl,h⟩
  .exact .inl rfl
  .exact .inr ⟨rfl,λp=>h _⟩
section
attribute [local go_sem] Oper.semAt_some
attribute [local go_sem] qd
attribute [local simp] qd
def DP:∀{a:kQ},(∀i∈Aa a,kC (σ.nm i) s=false)->σ.qv s a=none
 |[],_=>rfl
 |none::_,_=>rfl
 |some i::r,h=>by
  show(if kC (σ.nm i) s then some i else σ.qv s r)=none;rw[h i (by simp[Aa])];simp only[wR,↓reduceIte];exact DP λj d=>h j (by simp[Aa,d])
theorem DQ (d:kC (σ.nm i) s=true):∀{a:kQ} {pre:List Nat},pre++[i] <+:Aa a->(∀j∈pre,kC (σ.nm j) s=false)->σ.qv s a=some i
 |[],pre,h,_=>by have⟨r,hr⟩:=h;simp[Aa]at hr
 |none::_,pre,h,_=>by have⟨r,hr⟩:=h;simp[Aa]at hr
 |some k::r,[],h,_=>by
  have⟨t,ht⟩:=h;have e:i=k:=by simp[Aa]at ht;exact ht.1
  grind[Ab.qv]
 |some k::r,p::pre,h,hp=>by
  have⟨t,ht⟩:=h;have e:p=k/\pre++[i]++t=Aa r:=by simpa [Aa]using ht
  obtain⟨rfl,e2⟩:=e;show(if kC (σ.nm p) s then some p else σ.qv s r)=_;rw[hp p (by simp)];simp only[wR,↓reduceIte];exact DQ d ⟨t,e2⟩ (λj g=>hp j (by simp[g]))
def yH (W:gv) {D : Nat} (h:b≠D):(W.putObj D o).cell? ⟨b,0,none⟩=W.cell? ⟨b,0,none⟩:=Z1 (pk h)
theorem DR (h:RF E f σ w) (s:gy):
  Calls prog 264 #[Bp E,gH s] w λe w'=>e=iq (oV f (σ.pw s))/\Kept [] w w':=by
 obtain⟨L,rfl,m⟩:=h;refine(wJ (n:=9)).1 ?_;refine wK func264 rfl trivial ?_ rfl;simp only[ntmps264,wM,qe,uS,Nat.reduceAdd,Nat.reduceSub,wN,wO,wP,wQ,ru,uT];obtain⟨q,d⟩:∃q,q=(w.alloc (gI #[gH s] 9)).alloc (gI #[.pointer none] 57):=⟨_,rfl⟩;have I:Kept [] w q:=by rw[d];exact((Kept.refl _ _).alloc _).alloc _
 have B0:q.heap[w.heap.size]?=some (gI #[gH s] 9):=by rw[d];exact(Below.heap_alloc _ _ _ (by simp)).trans (fY w _)
 have B1:q.heap[w.heap.size+1]?=some (gI #[.pointer none] 57):=by rw[d];have:=fY (w.alloc (gI #[gH s] 9)) (gI #[.pointer none] 57);rwa [rB]at this
 have k:q.heap.size=w.heap.size+1+1:=by rw[d];simp
 have V:=m.il I;have a4:=m.lt;have HB:=H6 E.bB q;have HN:=(λ(W:gv) (P:Kept [] w W) (i:Nat) (e:zu) (O:σ.hU i=some e)=>(m.il P).vi O);have HA:=(λ(i:Nat) (O:some i∈σ.act)=>m.wf.act (some i) O);have HO:=(λg (u:L.cv.ownBlock=some g)=>(m.pX.lt g u).2);have R:=fU k;have HW:=fU d;clear k d
 gi_wp2_with fail
 rw[<-HW.out];refine(callsIn_wide.2 HB).mono ?_;rintro e w' ⟨rfl,rfl⟩;gi_wp2;refine UZ (by omega) V rfl [w.heap.size+1] ?_
  (λpre W=>Kept [] w W/\W.heap[w.heap.size]?=some (gI #[gH s] 9)/\W.heap[w.heap.size+1]?=some (gI #[.pointer none] 57)/\∀i∈pre,kC (σ.nm i) s=false)
  (λc pre W=>c= .ret/\Kept [] w W/\∃a i,pre=a++[i]/\(∀j∈a,kC (σ.nm j) s=false)/\kC (σ.nm i) s=true/\W.heap[w.heap.size+1]?=some (gI #[gJ (L.gP i)] 57))
  ?_ ?_ ?_ (λx=>{tmps:=#[Bp E,gH s,undef,gJ w.heap.size,gJ (w.heap.size+1),kh (some x),Bp E,LJ q.heap.size,kh (some x),undef,undef,undef,undef,undef,undef,undef],defers:=[]}) ?assign ?body ?done ?stop
 .grind
 .rintro pre A B a3 ⟨Z,S,r,G⟩ u m;have k:=R.out;exact⟨lX Z u m (by omega),kG S u m (by omega),kG r u m (by omega),G⟩
 .rintro c pre A B a3 ⟨h0,Z,a,i,S,r,G,h5⟩ u m;have k:=R.out;exact⟨h0,lX Z u m (by omega),a,i,S,r,G,kG h5 u m (by omega)⟩
 .have P:Kept [] q (q.alloc (gI #[Bp E] 93)):=(Kept.refl _ _).alloc _;exact⟨I.trans P,P.at B0 (by simp),P.at B1 (by simp),by simp⟩
 case assign=>
  intro l x W K N;gi_wp2;exact N
 case body=>
  rintro l pre i W O ⟨z,B2,B3,B4⟩ _;have a1:=HA i O;obtain⟨Y,a0⟩:∃Y,σ.hU i=some Y:=Option.isSome_iff_exists.1 a1;have c0:=HN W z i Y a0;have c1:=fW B2 0;have F:=fW B3 0;have f3:=gE B3 0;dsimp at c1 F;rw[show kh (some (L.gP i))=gJ (L.gP i)from rfl];gi_wp2;refine Ax l (by kernel_rfl) (by kernel_rfl) (by rfl) ?_
  repeat (gi_big_quiet_step (fail))
  refine wpQuietIn_nil ?_;intro _ a2;have⟨nq,hw''⟩:=a2;subst hw'';cases hq:kC (σ.nm i) s with
  |true=>
   have HQ:=hq;have H:((σ.nm i).toList==s.toList)=true:=hq;rw[H];gi_wp2;refine⟨((Kept.refl [w.heap.size+1] W).drewN nq).setCell (.inl (by simp)) _,rfl,(z.drewN nq).setCell (.inr (by simp)) _,pre,i,rfl,B4,HQ,?_⟩;exact gg (show(W.drewN nq).heap[w.heap.size+1]?=_ from B3) 0 _
  |false=>
   have HQ:=hq;have H:((σ.nm i).toList==s.toList)=false:=hq;rw[H];gi_wp2;refine⟨(Kept.refl _ W).drewN nq,z.drewN nq,B2,B3,λy hy=>?_⟩
   grind
 case done=>
  rintro D W U ⟨z,S,r,G⟩ N;have F:=fW r 0;have f3:=gE r 0;dsimp at F;have p:σ.pw s=none:=DP G;have C:=fU p;have HS:=fU (pA r 0 (.pointer none) rfl);clear p;gi_wp2;rw[HS.out];refine⟨by simp,.inl ⟨_,_,rfl,nM N,?_⟩⟩;have k:=R.out;have hD:=U;have X:(W.putObj D (.deferred none)).cell? ⟨w.heap.size+1,0,none⟩=some (.pointer none):=by rw[<-F];exact yH W (by omega)
  exact⟨.pointer none,by simp[results,results264,asAddr,Result.andThen,go_sem,X],by rw[C.out];rfl,z.take (by omega) _⟩
 case stop=>
  rintro D c pre W U Q ⟨rfl,z,a,i,rfl,r,G,h5⟩ N;have p:σ.pw s=some i:=DQ G Q r;have C:=fU p;have F:=fW h5 0;dsimp at F;clear p;gi_wp2;refine⟨by simp,.inl ⟨_,_,rfl,nM N,?_⟩⟩;have k:=R.out;have hD:=U;have X:(W.putObj D (.deferred none)).cell? ⟨w.heap.size+1,0,none⟩=some (gJ (L.gP i)):=by rw[<-F];exact yH W (by omega)
  exact⟨gJ (L.gP i),by simp[results,results264,asAddr,Result.andThen,go_sem,X],by rw[C.out];rfl,z.take (by omega) _⟩
end
end
end Go.Proofs.YtofkkmcdggkkpaaGreatDoor
