import Derived.Test.YthnijkkcimlnjaaGreatDoorRelG
set_option linter.unusedSimpArgs false
set_option linter.unusedVariables false
set_option linter.defProp false
set_option maxHeartbeats 0
set_option maxRecDepth 100000
namespace Go.Proofs.YthnijkkcimlnjaaGreatDoor
open Go.RowKit Tryz
def Ad:=@beq_eq_false_iff_ne
def Ld:=@wpIn_rangeFunc
def QE:=@World.alloc_heap_new
def Cg:=@run_enterLoop_outer
def QF:=@World.putObj_heap_same
def Le:=@run_endLoop
def Ch:=@Lib.run_eql_slice_nil
def Lf:=@World.cell?_alloc_lt
def oi:=@List.flatMap_append
def Fw:=@ownsRow_putObj
section
variable {A:fN}{D b bB bD du bm bs c fi i j l n n0:Nat}{E:Env}{L:Loc}{Q:Ending->J->Prop}{S:List (Nat×cY)}{T:TypeId}{W W' w w' w0:J}{a:Act}{assign body:Code}{cU:iD}{ei ej:sZ}{f f0:Nat->Nat}{m:Nat×Nat}{o o':Obj}{r:nh Unit}{rs:List Ru}{s:O}{t:cR}{v x:cY}{vd:O->Bool}{vs:List cY}{σ σ':N}
def RF.ajQ(h:RF E f σ w):σ.de σ.form=true:=by have⟨L,_,hr⟩:=h;exact hr.wf.form
theorem RF.JN(h:RF E f σ w):σ.de σ.last=true:=by
 have⟨L,_,hr⟩:=h;unfold N.last;rcases vA σ.cC with d|⟨e,y,d⟩;rw[d];rfl;rw[d,uK];exact N.uu (hr.wf.cC y (by grind))
theorem aha(E:Env)(d:cY)(p:O->Bool)(w:J)(e:Ask E.bm d p w):
  Calls prog 238 #[d] w (wK E (λs=>!p s) w):=by
 refine(ag8 E.bm d p w e).mono ?_;grind[Ask.call]
def T6(E:Env)(t:cR)(u:eY E t):eP E 191 (λ_=>#[Bp E,dJ E t]) (mV t) uV:=by
 refine dI λf σ w R d HS H=>?_;unfold mV at d;go_enter func191,ntmps191;have k:=H.Vd;have K:=H.lt;cases hf:σ.form with
 |some i=>
  rw[hf]at k d;replace d:Hid (R=.ok () σ):=d;go_wp2;go_end0;exact cE d H rfl
 |none=>
  rw[hf]at k d;replace d:=d;go_wp21;refine dC (uz E (dO E) t u) H d HS rfl lT ?_;rintro(_) f σ w H z y d;have g:=H.rel.JN;have C:=H.rel.SM;have F:=H.Vd;have I:=H.free 191;have q:=H.lt;have p:=H.tm σ.last g;go_wp21;refine C.mono ?_;rintro e w⟨rfl,rfl⟩;replace H:=p;go_wp2;go_end0;exact cE d H rfl
def Cb(E:Env)(t:cR)(K:eY E t):eP E 126 (λ_=>#[Bp E,dJ E t]) (fZ t) uV:=by
 refine dI λf σ w R d HS H=>?_;unfold fZ at d;go_enter func126,ntmps126;have g:=H.Vd;have hl:=H.lt;cases hf:σ.form with
 |some i=>
  rw[hf]at g d;replace d:Hid (R=.ok () σ):=d;rw[show oV f (some i)=cW (f i)from rfl]at g;go_wp2;go_end0;exact cE d H rfl
 |none=>
  rw[hf]at g d;replace d:Hid (R=(dZ t>>=λ_=>(do let x <-tJ;rO λσ=>{σ with form:=x};return ():M Unit)) σ):=d;rw[show oV f none=.pointer none from rfl]at g;go_wp21;refine dC (jb E (dO E) t K) H d HS rfl lT ?_;rintro(_) f σ w H X U d;have k:=H.rel.JN;go_wp21;refine gO.Rw (BP E) H d HS rfl ?_ ?_
  .intro c p j ws e z C;have y:=V e;clear e;go_wp2;exact⟨rfl,nk y z C⟩
  rintro x q w e h2 F u;have P:q.de x=true:=by
   unfold tJ at u;cases u;exact k
  have c2:=e.Vd;have f2:=e.free 191;have I:=e.lt;replace H:=e.tm x P;replace d:=F;clear e;go_wp2;go_end0;exact cE d H rfl
def Qj(E:Env)(t:cR)(p:eY E t):eP E 194 (λ_=>#[Bp E,dJ E t]) (nJ t) uV:=by
 refine dI λf σ w R d HS H=>?_;unfold nJ at d;go_enter func194,ntmps194;have g:=H.acx;have k:=H.lt;cases hq:σ.fJ with
 |true=>
  rw[hq]at g;replace d:=by
   have:=d;rw[M.cH]at this;unfold rh at this;rw[hq]at this;exact V this
  go_wp21;refine dC (jb E (dO E) t p) H d HS rfl lT ?_;rintro(_) f σ w H q e d;have u:=H.pK;have y:=H.free 192;have k:=H.lt;replace H:=H.eV 7;go_wp2;go_end0;exact cE d H rfl
 |false=>
  rw[hq]at g;replace d:=by
   have:=d;rw[M.cH]at this;unfold rh at this;rw[hq]at this;exact V this
  go_wp21;refine zI (λz=>wT H.rel z) H d HS lT ?_;rintro(_) σ w H e d;go_wp21;refine dC (jb E (dO E) t p) H d HS rfl lT ?_;rintro(_) f σ w H q e d;have u:=H.pK;have y:=H.free 192;have k:=H.lt;replace H:=H.eV 7;go_wp2;go_end0;exact cE d H rfl
def MB(E:Env)(t:cR)(z:eY E t):eP E 197 (λ_=>#[Bp E,dJ E t]) (lU t) uV:=by
 refine dI λf σ w R d HS H=>?_;unfold lU at d;go_enter func197,ntmps197;go_wp21;refine dC (pt E (dO E) t z) H d HS rfl lT ?_;rintro(_) f σ w H P K d;have y:=H.pK;have U:=H.free 192;have X:=H.lt;have q:=H.eV 15;have u:=H.eV 14;replace d:Hid (R=.ok () {σ with mode:=if σ.mode=7\/σ.mode=9\/σ.mode=11\/σ.mode=12\/σ.mode=13 then 15 else 14}):=d;generalize g:σ.mode=e at y d;have p:=g;have k:=d;by_cases g:e=7\/e=9\/e=11\/e=12\/e=13
 .rw[dd g]at k;replace d:=k;rcases g with rfl|rfl|rfl|rfl|rfl
  all_goals go_wp2
  all_goals go_end0
  all_goals exact cE d q rfl
 .rw[cZ g]at k;replace d:=k;have n7:((e:Int)==7)=false:=by rw[Ad];omega
  have n9:((e:Int)==9)=false:=by rw[Ad];omega
  have C:((e:Int)==11)=false:=by rw[Ad];omega
  have F:((e:Int)==12)=false:=by rw[Ad];omega
  have I:((e:Int)==13)=false:=by rw[Ad];omega
  go_wp2;go_end0;exact cE d u rfl
def ajJ(E:Env)(t:cR):eP E 208 (λ_=>#[Bp E,dJ E t]) GQ uV:=by
 refine dI λf σ w R d HS H=>?_;unfold GQ at d;go_enter func208,ntmps208;go_wp21;refine(kH E [nO] _ (by decide)).mono ?_;rintro e w⟨P,F,rfl,k,u⟩;replace H:=H.k0 u;go_wp21;refine(yG H.rel).mono ?_;rintro e w⟨U,I,rfl,p,g⟩;replace H:=H.k0 g;have C:=uJ H.rel _ _ _ _ (k.k0 g) p;cases hc:σ.inScope (da [nO]) Hr with
 |true=>
  rw[hc]at C;replace d:Hid (R=(lr>>=λ_=>(pure ():M Unit)) σ):=by
   have:=d;rw[dd hc]at this;exact V this
  go_wp21;refine C.mono ?_;rintro e w⟨rfl,q⟩;replace H:=H.k0 q;go_wp21;refine zI (λy=>wT H.rel y) H d HS lT ?_;rintro(_) σ w H z d;go_wp2;go_end0;exact cE d H rfl
 |false=>
  rw[hc]at C;replace d:Hid (R=(fF nO>>=λ_=>(do lr;return ():M Unit)) σ):=by
   have:=d;rw[cZ (by simp[hc])]at this;exact V this
  go_wp21;refine C.mono ?_;rintro e w⟨rfl,q⟩;replace H:=H.k0 q;go_wp21;refine dC (sU E (dO E) nO) H d HS rfl lT ?_;rintro(_) f σ w H K z d;go_wp21;refine zI (λy=>wT H.rel y) H d HS lT ?_;rintro(_) σ w H z d;go_wp2;go_end0;exact cE d H rfl
def RZ(E:Env):gO E 144 (λ_=>#[Bp E]) pg bV:=by
 refine mI λf σ w R g HS H=>?_;unfold pg at g;go_enter func144,ntmps144;go_wp21;refine(kH E [gu] _ (by decide)).mono ?_;rintro e w⟨k1,P,rfl,d,I⟩;replace H:=H.k0 I;go_wp21;refine(sH E _).mono ?_;rintro e w⟨k3,U,rfl,k,q⟩;replace H:=H.k0 q;replace d:=d.k0 q;go_wp21;refine(pj E _).mono ?_;rintro e w⟨k4,X,rfl,z,p⟩;replace H:=H.k0 p;replace d:=d.k0 p;replace k:=k.k0 p;go_wp21;refine(WI E _ _ _ _ _ k z).mono ?_;rintro e w⟨k5,a0,rfl,C,u⟩;replace H:=H.k0 u;replace d:=d.k0 u;go_wp21;refine(aha E _ _ _ C).mono ?_;rintro e w⟨k6,a1,rfl,F,y⟩;replace H:=H.k0 y;replace d:=d.k0 y;go_wp21;refine zI (λ_=>xR H.rel d F) H g HS mT ?_;rintro(b) σ w H K g;cases b with
 |false=>
  go_wp2;go_ret;exact gF g H rfl
 |true=>
  replace g:=g;go_wp21;refine zI (λ_=>YP H.rel) H g HS mT ?_;rintro(_) σ w H K g;go_wp2;go_ret;exact gF g H rfl
def Xx:O->Bool:=λs=>iG s&&!da [jZ,nO] s
def uA(ks:List O)(m:Nat)(t:cR):M Unit:=do
 oB (da ks)
 dZ t
 fq m
 return ()
def oH(rec:Nat->cR->M Unit)(ks:List O)(d:O)(m:Nat)(t:cR):M Unit:=do
 oB (da ks)
 fF d
 fq m
 gh rec t
 return ()
def Gd(ks:List O)(t:cR):M Unit:=do
 let _ <-iI (da ks) Xx
 jJ t
 return ()
def tD(rec:Nat->cR->M Unit)(b:M Bool)(t:cR):M Unit:=do
 let x <-b
 if x then (do gh rec t;return ())else return ()
def zq(b:M Bool):M Unit:=do
 let _ <-b
 return ()
def Ask.frA{p:O->Bool}(h:Ask bm v p w)(d:Fr bs w w'):Ask bm v p w':=h.fr (d.n bm)
def af3(E:Env)(rec:Nat->cR->M Unit)(q:∀(m:Nat)(t:cR),eY E t->eP E 165 (λ_=>#[Bp E,G m,dJ E t]) (rec m t) uV)(t:cR)(u:eY E t)(m k p:Nat)(h:RF E f σ w)(hs:rec m t σ≠ .stuck)(mq:box w k (eF E.bB) 120)(g:box w p (G m) 176):
  Calls prog 174 #[dJ E t,eF k,eF p] w (Leaves E f σ.nodes.length w (rec m t σ) uV):=by
 obtain⟨R,e⟩:∃R,R=rec m t σ:=⟨_,rfl⟩;rw[<-e]at hs|-;have HS:=hs;have H:=V (At.start h);have d:=V (M.tail e);clear h hs e;have C:=aN (box.fr (V mq).out (H.out.fr.n E.bm) (by decide)) 0;have F:=aN (box.fr (V g).out (H.out.fr.n E.bm) (by decide)) 0;go_enter func174,ntmps174;go_wp21;refine dC (q m t u) H d HS rfl lT ?_;rintro(_) f σ w H z y d;go_wp2;go_end0;exact cE d H rfl
def Gy(E:Env)(t:cR)(ht:eY E t)(ks:List O)(m C F I:Nat)(k:Nat)(K:fN)(h:RF E f σ w)(hs:(uA ks m t) σ≠ .stuck)(mq:box w C (eF E.bB) 120)(p:box w F (.func (.func k) #[] K) 88)(ha:Ask E.bm (.func (.func k) #[] K) (da ks) w)(q:box w I (G m) 176):
  Calls prog 218 #[dJ E t,eF C,eF F,eF I] w (Leaves E f σ.nodes.length w ((uA ks m t) σ) uV):=by
 have d:=V mq;clear mq;have u:=V p;clear p;have y:=V q;clear q;obtain⟨R,z⟩:∃R,R=(uA ks m t) σ:=⟨_,rfl⟩;rw[<-z]at hs|-;have H:=V (At.start h);have e:=V z;clear z;have g:=aN (box.fr d.out (H.out.fr.n E.bm) (by decide)) 0;have U:=aN (box.fr u.out (H.out.fr.n E.bm) (by decide)) 0;dsimp at g U;go_enter func218,ntmps218;go_wp21;refine zI (λ_=>Er H.rel (ha.frA H.fr)) H e hs lT ?_;rintro(_) σ w H P e;have g:=aN (box.fr d.out (H.out.fr.n E.bm) (by decide)) 0;dsimp at g;go_wp21;refine dC (jb E (dO E) t ht) H e hs rfl lT ?_;rintro(_) f σ w H HX P e;have g:=aN (box.fr d.out (H.out.fr.n E.bm) (by decide)) 0;have X:=aN (box.fr y.out (H.out.fr.n E.bm) (by decide)) 0;dsimp at g X;have c4:=H.pK;have f4:=H.free 192;have hl:=H.lt;replace H:=V (H.eV m);go_wp2;go_end0;exact cE e H rfl
def Di(E:Env)(rec:Nat->cR->M Unit)(hA:∀(m:Nat)(t:cR),eY E t->eP E 165 (λ_=>#[Bp E,G m,dJ E t]) (rec m t) uV)(t:cR)(ht:eY E t)(ks:List O)(d:O)(m P U X b4:Nat)(k:Nat)(lb:fN)(h:RF E f σ w)(hs:(oH rec ks d m t) σ≠ .stuck)(mq:box w P (eF E.bB) 120)(q:box w U (.func (.func k) #[] lb) 88)(ha:Ask E.bm (.func (.func k) #[] lb) (da ks) w)(u:box w X (Y d) 9)(y:box w b4 (G m) 176):
  Calls prog 220 #[dJ E t,eF P,eF U,eF X,eF b4] w (Leaves E f σ.nodes.length w ((oH rec ks d m t) σ) uV):=by
 have g:=V mq;clear mq;have z:=V q;clear q;have C:=V u;clear u;have F:=V y;clear y;obtain⟨R,I⟩:∃R,R=(oH rec ks d m t) σ:=⟨_,rfl⟩;rw[<-I]at hs|-;have H:=V (At.start h);have e:=V I;clear I;have p:=aN (box.fr g.out (H.out.fr.n E.bm) (by decide)) 0;have c2:=aN (box.fr z.out (H.out.fr.n E.bm) (by decide)) 0;dsimp at p c2;go_enter func220,ntmps220;go_wp21;refine zI (λ_=>Er H.rel (ha.frA H.fr)) H e hs lT ?_;rintro(_) σ w H K e;have p:=aN (box.fr g.out (H.out.fr.n E.bm) (by decide)) 0;have c3:=aN (box.fr C.out (H.out.fr.n E.bm) (by decide)) 0;dsimp at p c3;go_wp21;refine dC (sU E (dO E) d) H e hs rfl lT ?_;rintro(_) f σ w H HX K e;have p:=aN (box.fr g.out (H.out.fr.n E.bm) (by decide)) 0;have c5:=aN (box.fr F.out (H.out.fr.n E.bm) (by decide)) 0;dsimp at p c5;have c4:=H.pK;have f4:=H.free 192;have hl:=H.lt;replace H:=V (H.eV m);go_wp21;refine dC (rN E rec hA t ht) H e hs rfl lT ?_;rintro(_) f σ w H HX K e;go_wp2;go_end0;exact cE e H rfl
def Qf(E:Env)(t:cR)(ht:eY E t)(ks:List O)(U X b3:Nat)(k1 k2:Nat)(p q:fN)(h:RF E f σ w)(hs:(Gd ks t) σ≠ .stuck)(mq:box w U (eF E.bB) 120)(g:box w X (.func (.func k1) #[] p) 88)(K:Ask E.bm (.func (.func k1) #[] p) (da ks) w)(k:box w b3 (.func (.func k2) #[] q) 88)(P:Ask E.bm (.func (.func k2) #[] q) Xx w):
  Calls prog 275 #[dJ E t,eF U,eF X,eF b3] w (Leaves E f σ.nodes.length w ((Gd ks t) σ) uV):=by
 have e:=V mq;clear mq;have C:=V g;clear g;have F:=V k;clear k;have y:=K;have z:=P;obtain⟨R,u⟩:∃R,R=(Gd ks t) σ:=⟨_,rfl⟩;rw[<-u]at hs|-;unfold Gd at u;have HS:=hs;have H:=V (At.start h);have d:=V u;clear u;have I:=aN (box.fr e.out (H.out.fr.n E.bm) (by decide)) 0;have c2:=aN (box.fr C.out (H.out.fr.n E.bm) (by decide)) 0;have c3:=aN (box.fr F.out (H.out.fr.n E.bm) (by decide)) 0;dsimp at I c2 c3;go_enter func275,ntmps275;go_wp21;refine zI (λ_=>xR H.rel (y.frA H.fr) (z.frA H.fr)) H d HS lT ?_;rintro(_) σ w H HF d;have I:=aN (box.fr e.out (H.out.fr.n E.bm) (by decide)) 0;dsimp at I;go_wp21;refine dC (uz E (dO E) t ht) H d HS rfl lT ?_;rintro(_) f σ w H HX HF d;go_wp2;go_end0;exact cE d H rfl
def agt(E:Env)(t:cR)(b:M Bool)(k:Nat)(z:gO E k (λ_=>#[Bp E]) b bV)(y:∀d w,(callFunc k d).run prog w=.ok (.enter k d) w)(q:Nat)(h:RF E f σ w)(hs:(zq b) σ≠ .stuck)(mq:box w q (.func (.func k) #[eF E.bB] #[]) 65):
  Calls prog 226 #[dJ E t,eF q] w (Leaves E f σ.nodes.length w ((zq b) σ) uV):=by
 have p:=V mq;clear mq;obtain⟨R,e⟩:∃R,R=(zq b) σ:=⟨_,rfl⟩;rw[<-e]at hs|-;unfold zq at e;have HS:=hs;have H:=V (At.start h);have g:=V e;clear e;have u:=aN (box.fr p.out (H.out.fr.n E.bm) (by decide)) 0;dsimp at u;go_enter func226,ntmps226;go_wp21;refine mC (z) H g HS rfl lT ?_;rintro(_) σ w H C g;go_wp2;go_end0;exact cE g H rfl
def Pd(E:Env)(rec:Nat->cR->M Unit)(P:∀(m:Nat)(t:cR),eY E t->eP E 165 (λ_=>#[Bp E,G m,dJ E t]) (rec m t) uV)(t:cR)(ht:eY E t)(b:M Bool)(k:Nat)(X:gO E k (λ_=>#[Bp E]) b bV)(U:∀e w,(callFunc k e).run prog w=.ok (.enter k e) w)(y z:Nat)(h:RF E f σ w)(hs:(tD rec b t) σ≠ .stuck)(mq:box w y (eF E.bB) 120)(g:box w z (.func (.func k) #[eF E.bB] #[]) 65):
  Calls prog 221 #[dJ E t,eF z,eF y] w (Leaves E f σ.nodes.length w ((tD rec b t) σ) uV):=by
 have q:=V mq;clear mq;have u:=V g;clear g;obtain⟨R,p⟩:∃R,R=(tD rec b t) σ:=⟨_,rfl⟩;rw[<-p]at hs|-;unfold tD at p;have HS:=hs;have H:=V (At.start h);have d:=V p;clear p;have I:=aN (box.fr u.out (H.out.fr.n E.bm) (by decide)) 0;dsimp at I;go_enter func221,ntmps221;go_wp21;refine mC (X) H d HS rfl lT ?_;rintro(F) σ w H C d;have K:=aN (box.fr q.out (H.out.fr.n E.bm) (by decide)) 0;dsimp at K;cases F with
 |true=>
  replace d:Hid (R=(gh rec t>>=λ_=>(pure ():M Unit)) σ):=d;go_wp21;refine dC (rN E rec P t ht) H d HS rfl lT ?_;rintro(_) f σ w H HX C d;go_wp2;go_end0;exact cE d H rfl
 |false=>
  replace d:Hid (R=.ok () σ):=d;go_wp2;go_end0;exact cE d H rfl
theorem jS.jo(h:jS σ)(h1:σ'.nodes=σ.nodes)(y:σ'.cC=σ.cC)(U:σ'.act=σ.act)(X:σ'.head=σ.head)(h5:σ'.form=σ.form)(h6:σ'.nB=σ.nB)(h7:σ'.ox=σ.ox):jS σ':=by
 have⟨r,h⟩:=h;have q:∀i,σ'.db i=σ.db i:=λi=>by unfold N.db;rw[h1]
 have hk:∀k,σ'.eZ k=σ.eZ k:=λk=>by
  cases k with
  |el i=>grind[N.eZ]
  |tx i=>grind[N.eZ]
  |cm i=>grind[N.eZ]
  |dt i=>grind[N.eZ]
 have I:∀x,σ'.jw x=σ.jw x:=λx=>by
  cases x with
  |none=>rfl
  |some i=>grind[N.jw]
 have hn:∀i s,dW σ i s->dW σ' i s:=λi s ⟨e,F,u⟩=>⟨e,by grind,u⟩;refine⟨r,⟨⟨?_,?_,?_,?_⟩,⟨?_,?_,?_⟩,?_,?_,?_,?_,?_,?_,?_,?_,?_,?_⟩⟩;intro i e p g P;rw[q]at g;have⟨ep,F,u⟩:=h.lY.up i e p g P;grind;intro i e j g hj;rw[q]at g;have⟨ep,F,u⟩:=h.lY.dn i e j g hj;grind;intro i e g;rw[q]at g;exact h.lY.nd i e g;intro i e g k K;rw[q]at g;rw[hk];exact h.lY.kd i e g k K;intro i e p g P;rw[q]at g;exact h.qK.ff i e p g P;rw[y];exact h.qK.cC;rw[y,X];exact h.qK.hd;rw[y];intro x R;rw[I];exact h.cC x R;rw[U];intro i g;have⟨e,F,u⟩:=h.act i g;grind;rw[X];exact λd H=>hn _ _ (h.head d H);rw[h5];exact λd H=>hn _ _ (h.form d H);rw[y];intro x C R;have⟨z,F,u⟩:=h.Ln x C R;grind;rw[y,h6];exact h.vu;rw[U,h7];exact h.xN;rw[h6];exact h.MW;rw[h7];exact h.QQ;rw[q];exact h.rU
def jS.Qa(h:jS σ)(x:eG)(e:∀d,x=some d->dW σ d fO):jS {σ with form:=x}:=by
 have⟨r,h⟩:=h;exact⟨r,⟨⟨h.lY.up,h.lY.dn,h.lY.nd,h.lY.kd⟩,⟨h.qK.ff,h.qK.cC,h.qK.hd⟩,h.cC,h.act,h.head,e,h.Ln,h.vu,h.xN,h.MW,h.QQ,h.rU⟩⟩
def oj(m:Nat):Bool:=decide (m=6)||decide (m=7)||(decide (9<=m)&&decide (m<=17))
structure BMs(σ:N):Prop where
 ne:σ.cC≠[]
 sh:oj σ.mode=true\/(σ.mode=5/\oj σ.kept=true/\2<=σ.cC.length)\/(σ.mode=8/\(σ.kept=7\/σ.kept=11\/σ.kept=12))
theorem dW.nodes(h:dW σ i s)(e:σ'.nodes=σ.nodes):dW σ' i s:=by
 unfold dW N.db at h|-;grind
structure Lm(σ σ':N):Prop where
 dk:σ'.dk=σ.dk
 nB:σ'.nB=σ.nB
 ox:σ'.ox=σ.ox
 mj:σ'.mj=σ.mj
 wt:σ'.waiting.length<=σ.waiting.length+1
 wz:∀x∈σ'.waiting,x∈σ.waiting\/x.2.2.size<=100
 nm:∀i s,dW σ i s->dW σ' i s
theorem Fx.lm(h:Fx σ σ'):Lm σ σ':=⟨h.dk,h.nB,h.ox,h.mj,by grind[waiting],by grind[waiting],h.nm⟩
def RB(c:Nat)(σ:N)(r:nh Unit):Prop:=match r with
 | .ok _ σ'=>jS σ'/\BMs σ'/\Lm σ σ'/\wt σ'<=wt σ+c
 | .stop _ p=>p=σ.dk
 | .stuck=>False
theorem RB.mono{c':Nat}(h:RB c σ r)(d:c<=c'):RB c' σ r:=by
 cases r with
 |ok a σ'=>grind[RB]
 |stop e p=>exact h
 |stuck=>exact h
theorem fk.rb{Q:Unit->N->Prop}(h:fk c σ r Q)(d:σ.cC≠[])(g:oj σ.mode=true):RB c σ r:=by
 cases r with
 |ok a σ'=>
  have⟨h1,h2,h3,_⟩:=h;exact⟨h1,⟨h2.ne d,.inl (by rw[h2.mode];exact g)⟩,h2.lm,h3⟩
 |stop e p=>exact h
 |stuck=>exact h
theorem RB.bind{α:Type}{c1 c2:Nat}{x:M α}{k:α->M Unit}{Q:α->N->Prop}(h:fk c1 σ (x σ) Q)(I:∀a σ',jS σ'->Fx σ σ'->wt σ'<=wt σ+c1->Q a σ'->RB c2 σ' (k a σ'))(P:c1+c2<=c):RB c σ ((x>>=k) σ):=by
 rw[M.cH];cases hm:x σ with
 |ok a σ'=>
  rw[hm]at h;obtain⟨C,d,F,H⟩:=h;have u:=I a σ' C d F H;dsimp only;cases hk2:k a σ' with
  |ok b σ2=>
   rw[hk2]at u;obtain⟨y,z,g,K⟩:=u;exact⟨y,z,⟨g.dk.trans d.dk,g.nB.trans d.nB,g.ox.trans d.ox,g.mj.trans d.mj,by have:=g.wt;rw[d.waiting]at this;exact this,by have:=g.wz;rw[d.waiting]at this;exact this,λi s q=>g.nm i s (d.nm i s q)⟩,by omega⟩
  |stop e p=>
   rw[hk2]at u;exact UR u d.dk
  |stuck=>rw[hk2]at u;exact u
 |stop e p=>rw[hm]at h;exact h
 |stuck=>rw[hm]at h;exact h
theorem P5(h:jS σ)(d:σ.cC≠[])(m:Nat)(e:oj m=true):RB 0 σ ((fq m>>=λ_=>(Pure.pure ():M Unit)) σ):=
 ⟨h.jo rfl rfl rfl rfl rfl rfl rfl,⟨d,.inl e⟩,⟨rfl,rfl,rfl,rfl,afv _,by grind,λ_ _ h=>h⟩,Zl (fj rfl)⟩
theorem qc(h:jS σ)(d:BMs σ):RB 0 σ ((Pure.pure ():M Unit) σ):=⟨h,d,⟨rfl,rfl,rfl,rfl,afv _,by grind,by grind⟩,dr _⟩
structure iH(σ:N):Prop where
 iv:jS σ
 ne:σ.cC≠[]
 md:oj σ.mode=true
def iH.next(h:iH σ)(i:jS σ')(f:Fx σ σ'):iH σ':=⟨i,f.ne h.ne,by rw[f.mode];exact h.md⟩
theorem iH.bms(h:iH σ):BMs σ:=⟨h.ne,.inl h.md⟩
structure lw(σ:N)(t:cR):Prop where
 tag:t.nj=true
 fr:σ.fresh=true
theorem sA(h:jS σ):fk 0 σ (lr σ) (λ_ σ'=>qU σ σ'):=
 fk.dP ((vf h _ _ (by kernel_rfl)).mono (dr _) (λ_ _ _ _ h=>h.1))
theorem mX(h:jS σ)(e:σ.cC≠[])(g:lw σ t)(hw:wt σ<999900):fk 33 σ (iX t σ) (λ_ σ'=>∃d j,ze d t.name j σ'/\σ.cC <+:d.cC/\d.act.length=σ.act.length):=by
 refine fk.bind (lB h e (by omega)) (c2:=1) ?_ (by omega);grind[fk.dP,fk.mono,gm,Fx.ne,lw.tag,lw.fr]
theorem rJ(h:jS σ)(e:σ.cC≠[])(g:lw σ t)(hw:wt σ<999000):fk 1 σ (jJ t σ) (λ_ σ'=>∃d j,ze d t.name j σ'):=by
 refine fk.bind (sA h) (c2:=1) ?_ (by omega);rintro _ d p k u q;refine fk.dP ((gm p (k.ne e) (by omega) t g.tag (q.fresh.trans g.fr)).mono (dr _) ?_);grind
section
variable {σ:N}{t:cR}(h:iH σ)(hw:wt σ<999000)
include h hw
def Mz(d:lw σ t):RB 33 σ (iX t σ):=(mX h.iv h.ne d (by omega)).rb h.ne h.md
def Ms(d:lw σ t):RB 1 σ (jJ t σ):=(rJ h.iv h.ne d hw).rb h.ne h.md
theorem Uf(g:lw σ t):RB 1 σ (rL t σ):=by
 refine RB.bind (rJ h.iv h.ne g hw) (c2:=0) ?_ (by omega);rintro _ k d e _ _;exact⟨d.jo rfl rfl rfl rfl rfl rfl rfl,⟨(h.next d e).ne,.inl (h.next d e).md⟩,⟨rfl,rfl,rfl,rfl,afv _,by grind,λ_ _ h=>h⟩,Zl (fj rfl)⟩
theorem Hc(d:lw σ t):RB 1 σ (jQ t σ):=by
 have:fk 1 σ (jQ t σ) (λ_ _=>True):=by
  refine fk.bind (sA h.iv) (c2:=1) ?_ (by omega);rintro _ y k e C q;refine fk.bind (sI k _ (by kernel_rfl)) (c2:=1) ?_ (by omega);rintro _ z p g F u;exact fk.dP ((gm p (g.ne (e.ne h.ne)) (by omega) t d.tag (u.fresh.trans (q.fresh.trans d.fr))).mono (dr _) (λ_ _ _ _ _=>trivial))
 grind[fk.rb,iH.ne,iH.md]
theorem Xj(d:lw σ t):RB 1 σ (sY t σ):=by
 have:fk 1 σ (sY t σ) (λ_ _=>True):=by
  refine fk.bind (sA h.iv) (c2:=1) ?_ (by omega);rintro _ p g e q k;exact fk.dP ((oI g (e.ne h.ne) (by omega) t d.tag (k.fresh.trans d.fr)).mono (dr _) (λ_ _ _ _ _=>trivial))
 grind[fk.rb,iH.ne,iH.md]
theorem Qe(p:lw σ t)(z:t.name=fO):RB 1 σ (mV t σ):=by
 unfold mV;cases hf:σ.form with
 |some d=>exact(qc h.iv h.bms).mono (by omega)
 |none=>
  refine RB.bind (rJ h.iv h.ne p hw) (c2:=0) ?_ (by omega);rintro _ y e g _⟨u,j,q⟩;refine⟨e.Qa _ ?_,⟨(h.next e g).ne,.inl (h.next e g).md⟩,⟨rfl,rfl,rfl,rfl,afv _,by grind,λ_ _ h=>h⟩,Zl (fj rfl)⟩;intro d k;rw[Dx q]at k;grind[ze.nm]
theorem KF(d:lw σ t):RB 33 σ (kQ t σ):=by
 have:fk 33 σ (kQ t σ) (λ_ _=>True):=by
  refine fk.bind (vf h.iv _ dG (by kernel_rfl)) (c2:=33) ?_ (by omega);rintro _ p g e q⟨k,_⟩;exact fk.dP ((mX g (e.ne h.ne) ⟨d.tag,k.fresh.trans d.fr⟩ (by omega)).mono (dr _) (λ_ _ _ _ _=>trivial))
 grind[fk.rb,iH.ne,iH.md]
theorem MC(e:lw σ t):RB 1 σ (nJ t σ):=by
 have k:fk 0 σ (rh σ) (λ_ σ'=>qU σ σ'):=by
  unfold rh;split;exact⟨h.iv,Fx.refl _,dr _,qU.refl _⟩;grind[sA,iH.iv]
 refine RB.bind k (c2:=1) ?_ (by omega);rintro _ y p d C u;refine RB.bind (gm p (d.ne h.ne) (by omega) t e.tag (u.fresh.trans e.fr)) (c2:=0) ?_ (by omega);rintro _ z q g F _;exact P5 q (g.ne (d.ne h.ne)) 7 rfl
theorem Gp(g:lw σ t)(b:Bool):RB 1 σ (jV t b σ):=by
 refine RB.bind (gm h.iv h.ne (by omega) t g.tag g.fr) (c2:=0) ?_ (by omega);rintro _ d k e _⟨j,q⟩;refine⟨k.jo rfl rfl rfl rfl rfl rfl rfl,⟨e.ne h.ne,.inr (.inl ⟨rfl,?_,?_⟩)⟩,⟨rfl,rfl,rfl,rfl,afv _,by grind,λ_ _ h=>h⟩,Zl (fj rfl)⟩;show oj d.mode=true;rw[e.mode];exact h.md;grind[Dy,iH.ne]
theorem KM(d:lw σ t):RB 33 σ (jY t σ):=by
 have:fk 33 σ (jY t σ) (λ_ _=>True):=by
  unfold jY;refine fk.bind (sI h.iv _ (by kernel_rfl)) (c2:=33) ?_ (by omega);rintro _ p g e q k;exact fk.dP ((mX g (e.ne h.ne) ⟨d.tag,k.fresh.trans d.fr⟩ (by omega)).mono (dr _) (λ_ _ _ _ _=>trivial))
 grind[fk.rb,iH.ne,iH.md]
theorem KO(e:lw σ t):RB 33 σ (lU t σ):=by
 refine RB.bind (mX h.iv h.ne e (by omega)) (c2:=0) ?_ (by omega);rintro _ k g d _ _;refine⟨g.jo rfl rfl rfl rfl rfl rfl rfl,⟨d.ne h.ne,.inl ?_⟩,⟨rfl,rfl,rfl,rfl,afv _,by grind,λ_ _ h=>h⟩,Zl (fj rfl)⟩;show oj (if _ then 15 else 14)=true;split<;>rfl
theorem Ql(d:lw σ t):RB 33 σ (pu t σ):=by
 have:fk 33 σ (pu t σ) (λ_ _=>True):=by
  refine fk.bind (lB h.iv h.ne (by omega)) (c2:=1) ?_ (by omega);rintro _ p g e y⟨q,u,k⟩;exact fk.dP ((oI g (e.ne h.ne) (by omega) t d.tag (k.trans d.fr)).mono (dr _) (λ_ _ _ _ _=>trivial))
 grind[fk.rb,iH.ne,iH.md]
omit h hw in
def kC(g:jS σ)(e:σ.cC≠[])(u:lw σ t)(p:pB t.name=true)(hw:wt σ<999900):fk 33 σ (dU t σ) (λ_ _=>True):=by
 unfold dU;refine fk.bind (mX g e u hw) (c2:=0) ?_ (by omega);rintro _ d y C F⟨z,j,q,_⟩;have k:AZ d=.ok j d:=by unfold AZ;rw[Dx q]
 rw[M.cH,k];dsimp only;exact fk.dP ((acd y q.nm p).mono (dr _) (λ_ _ _ _ _=>trivial))
def Cc(e:lw σ t)(d:pB t.name=true):RB 33 σ (dU t σ):=(kC h.iv h.ne e d (by omega)).rb h.ne h.md
theorem Qg(p:lw σ t)(y:t.name=xH):RB 330 σ (kY t σ):=by
 have d:pB t.name=true:=by rw[y];kernel_rfl
 unfold kY;cases hl:σ.jH xH with
 |none=>
  dsimp only;exact RB.mono (c:=33) ((fk.dP (Q:=λ_ _=>True) (kC h.iv h.ne p d (by omega))).rb h.ne h.md) (by omega)
 |some a=>
  dsimp only;have⟨hm,hnm⟩:=wA σ xH hl;have⟨r,hr⟩:=id h.iv;have⟨ea,hea,hfa⟩:=hr.act a (List.mem_reverse.1 hm);have g:=Vu hea;have:fk 330 σ ((rY xH>>=λ_=>gv (some a)>>=λ_=>fB (some a)>>=λ_=>dU t>>=λ_=>(Pure.pure ():M Unit)) σ) (λ_ _=>True):=by
   refine fk.bind (Ef h.iv h.ne (by grind) (by omega)) (c2:=33) ?_ (by omega);rintro _ P z k X H;refine fk.bind (xK z (x:=some a) (jF (k.nm _ _ g))) (c2:=33) ?_ (by omega);rintro _ R C q w2 I;refine fk.bind (BJ C (q.nm _ _ (k.nm _ _ g)) (by rw[oE hnm];intro e;cases e)) (c2:=33) ?_ (by omega);rintro _ U F u w3 K;exact fk.dP (kC F (u.ne (q.ne (k.ne h.ne))) ⟨p.tag,by rw[K.fresh,I.fresh,H];exact p.fr⟩ d (by omega))
  grind[fk.rb,iH.ne,iH.md]
end
theorem Rel.ajt(h:Rel E L σ w)(s:O)(p:Bool):Rel E L {σ with jI:=s,dM:=p} ((w.setCell ⟨E.bR,E.Hw,none⟩ (Y s)).setCell ⟨E.bR,E.Hw+1,none⟩ (.bool p)):=by
 have g:Z [E.bR] w ((w.setCell ⟨E.bR,E.Hw,none⟩ (Y s)).setCell ⟨E.bR,E.Hw+1,none⟩ (.bool p)):=((Z.refl _ w).setCell (.inl (by simp)) _).setCell (.inl (by simp)) _;have e:KT E.bs [164] w _:=.fS g (λk g _=>by simp at g;subst g;exact⟨⟨_,_,_,h.rd,by simp⟩,h.bR⟩);obtain⟨C,y,d⟩:=h.du;have q:=bJ (bJ h.rd E.Hw (Y s)) (E.Hw+1) (.bool p);have F:=h.TR;exact {h with
  fr:=h.fr.trans (e.fr (by decide))
  qH:=λi H z=>(h.qH i H z).kt e (by decide)
  inj:=h.inj,Ar:=h.Ar,Ge:=h.Ge,uq:=h.uq,Eg:=h.Eg
  wf:=⟨h.wf.cC,h.wf.act,h.wf.head,h.wf.form,h.wf.ff,h.wf.kids,h.wf.rU⟩
  du:=⟨C,e.at y (by decide),⟨d.size,d.low,d.cC,d.act,d.head,d.form,d.mode,d.kept,d.wait,d.Jm,d.fJ,d.dk,d.behind⟩⟩
  ng:=e.row h.ng (by decide)
  oh:=e.row h.oh (by decide)
  Ic:=h.Ic,vu:=h.vu,Ep:=h.Ep
  mY:=e.row h.mY (by decide)
  bz:=h.bz,bB:=h.bB,bR:=h.bR,bN:=h.bN
  rd:=by
   rw[q]
   congr 2
   apply Array.ext_getElem?;intro i;by_cases u:E.Hw+1=i;grind;rw[Array.getElem?_setIfInBounds_ne u,Array.getElem?_setIfInBounds_ne u];grind
  tok:=e.row h.tok (by decide)
  Lq:=h.Lq,zd:=h.zd,ab:=h.ab,tb:=h.tb,ME:=h.ME}
theorem Rel.wD(h:Rel E L σ w):w.cell? ⟨E.bR,E.Hw,none⟩=some (Y σ.jI)/\w.cell? ⟨E.bR,E.Hw+1,none⟩=some (.bool σ.dM)/\(∀j,w.frozen? ⟨E.bR,j,none⟩=false)/\E.bR<w.heap.size:=by
 have d:=h.TR;refine⟨?_,?_,λj=>cQ h.rd j,eS h.rd⟩;rw[aN h.rd];grind;rw[aN h.rd];grind
theorem ZH(E:Env)(u:E.Hw=7)(h:RF E f σ w)(s:O)(p:Bool):
  Calls prog 49 #[cW E.bR,Y s,.bool p] w λe w'=>e=nu/\RF E f {σ with jI:=s,dM:=p} w'/\Fr E.bs w w':=by
 obtain⟨L,rfl,hr⟩:=h;have⟨c1,c2,fz,hl⟩:=hr.wD;have q:=hr.ajt s p;have g:Fr E.bs w ((w.setCell ⟨E.bR,E.Hw,none⟩ (Y s)).setCell ⟨E.bR,E.Hw+1,none⟩ (.bool p)):=.fS (((Z.refl [E.bR] w).setCell (.inl (by simp)) _).setCell (.inl (by simp)) _) (λk d=>by simp at d;subst d;exact⟨⟨_,_,_,hr.rd,by decide⟩,hr.bR⟩);rw[u]at c1 c2 q g;have y:=fz 8;go_enter func49,ntmps49;go_wp2;go_end0;grind[RF]
def At.c3(h:At E f0 n0 w0 f σ w):w.cell? ⟨E.bB,3,none⟩=some (.func (.func 49) #[cW E.bR] #[]):=by
 obtain⟨L,rfl,hr⟩:=h.rel;exact hr.low (by decide) hr.env.Y7
def Ke(E:Env)(K:E.Hw=7)(t:cR)(X:eY E t)(d:Bool):eP E 179 (λ_=>#[Bp E,dJ E t,.bool d]) (jV t d) uV:=by
 refine dI λf σ w R u HS H=>?_;unfold jV at u;go_enter func179,ntmps179;go_wp21;refine dC (jb E (dO E) t X) H u HS rfl lT ?_;rintro(_) f σ w H HX HF u;have⟨ta,tb,tao,tn,tcp,HTG⟩:=DX E t H.rel;have I:=λw=>zV ta tb t.name tao tn tcp w;have F:=H.c3;have P:=H.lt;have y:=F;go_wp21
 go_region_with (first
  |(go_at_call 171;refine(HTG _).mono ?_;rintro e w3⟨rfl,q⟩;have k:=V (((Z.refl [] w).drew).trans q);have d3:w3.cell? ⟨E.bB,3,none⟩=_:=(k.cell (p:=⟨E.bB,3,none⟩) P (by simp)).trans y;clear q)
  |(go_at_call 49;refine(ZH E K (H.k0 k).rel t.name d).mono ?_;rintro e w4⟨rfl,z,C⟩;have g:=V ((H.k0 k).to z (qq _ _ rfl) C);clear z C))
 all_goals
  have c2:=g.pK;have f2:=g.free 192;have c4:=g.Ve;have f4:=g.free 193;have U:=g.lt;replace g:=(g.xl σ.mode).eV 5;go_wp2;go_end0;exact cE u g rfl
def Gx(E:Env)(e:E.Hw=7)(t:cR)(g:eY E t):eP E 105 (λ_=>#[Bp E,dJ E t]) (og t) uV:=by
 refine dI λf σ w R d HS H=>?_;go_enter func105,ntmps105;go_wp21;refine dC (Ke E e t g _) H d HS rfl lT ?_;rintro(_) f σ w H p k d;go_wp2;go_end0;exact cE d H rfl
def Fj(E:Env)(e:E.Hw=7)(t:cR)(g:eY E t):eP E 106 (λ_=>#[Bp E,dJ E t]) (jr t) uV:=by
 refine dI λf σ w R d HS H=>?_;go_enter func106,ntmps106;go_wp21;refine dC (Ke E e t g true) H d HS rfl lT ?_;rintro(_) f σ w H p k d;go_wp2;go_end0;exact cE d H rfl
def Hf(E:Env)(e:E.Hw=7)(t:cR)(g:eY E t):eP E 195 (λ_=>#[Bp E,dJ E t]) (kT t) uV:=by
 refine dI λf σ w R d HS H=>?_;go_enter func195,ntmps195;go_wp21;refine dC (Gx E e t g) H d HS rfl lT ?_;rintro(_) f σ w H p k d;have q:=H.acy;have u:=H.free 198;replace H:=H.qw true;go_wp2;go_end0;exact cE d H rfl
def aeb(h:RF E f σ w)(x:eG)(hs:fB x σ≠ .stuck):
  Calls prog 181 #[fR E.bB 188,oV f x] w λe w'=>e=nu/\fB x σ=.ok () {σ with cC:=σ.cC.erase x}/\RF E f {σ with cC:=σ.cC.erase x} w'/\Fr E.bs w w':=by
 have:=DE E x f σ w h hs;unfold fB at this hs|-;by_cases d:σ.de x=true;rw[dd d]at this|-;exact this.mono (λe w' h=>⟨h.1,rfl,h.2.1,h.2.2.1⟩);rw[cZ d]at hs;exact absurd rfl hs
def OQ(E:Env)(rec:Nat->cR->M Unit)(K:∀(m:Nat)(t:cR),eY E t->eP E 165 (λ_=>#[Bp E,G m,dJ E t]) (rec m t) uV)(t:cR)(X:eY E t):eP E 110 (λ_=>#[Bp E,dJ E t]) (nA rec t) uV:=by
 refine dI λf σ w R d HS H=>?_;unfold nA at d;go_enter func110,ntmps110;have I:=H.ZN;have P:=H.lt;go_wp21;refine zI (λU=>(PW E σ.head f σ w H.rel U)) H d HS lT ?_;rintro(_) σ w H z d;go_wp21;refine dC (K 3 t X) H d HS rfl lT ?_;rintro(_) f σ w H HX z d;have I:=H.ZN;have P:=H.lt;have k:fB σ.head σ≠ .stuck:=by
  intro p;apply HS;rw[d.out,M.cH];unfold iW;rw[p]
 have g:=aeb (H.k0 ((Z.refl _ w).drew)).rel σ.head k;go_wp21
 go_region_with (go_at_call 181;refine g.mono ?_;rintro e w5⟨rfl,q,u,y⟩;have F:=V ((H.k0 ((Z.refl _ w).drew)).to u (qq _ _ rfl) y);have C:=V q;clear q u y)
 all_goals
  go_wp2;go_end0;refine cE (σ:={σ with cC:=σ.cC.erase σ.head}) (a:=()) ?_ F rfl;rw[d.out,M.cH];unfold iW;rw[C.out];rfl
def RW(E:Env)(i:Nat)(h:RF E f σ w)(F:dA σ.cC 0=some i)(hs:eE i σ≠ .stuck):Calls prog 148 #[Bp E] w (gX E f σ.nodes.length w (eE i σ) pV):=by
 obtain⟨R,z⟩:∃R,R=eE i σ:=⟨_,rfl⟩;have q:=(h.dB ((Z.refl _ w).alloc UX)).atO 0;rw[F]at q;have u:=(show Calls prog 242 #[fR E.bB 188,G 0] (w.alloc UX) (λe w'=>e=dw (cW (f i))/\w'=w.alloc UX)from q);rw[<-z]at hs|-;have HS:=hs;have H:=(At.start h).k0 ((Z.refl _ w).alloc UX);have y:=V (M.tail z);have HB:=aY w UX;have a0:=h.lt;clear h hs z F q;go_enter func148,ntmps148;go_wp21;refine u.mono ?_;rintro e w'⟨rfl,rfl⟩;go_wp21;refine gO.call (FW E i) H y HS rfl ?_ ?_
 .intro c p j ws g U X;have P:=V g;clear g;go_wp2;exact⟨rfl,sG P U X⟩
 rintro k a1 w1 g I K;have d:=I.cell HB (by decide);have c0:=aN d 0;have c1:=aN d 1;have f0:=cQ d 0;have f1:=cQ d 1;dsimp at c0 c1;replace H:=((g.side d (by decide) (dr _) 0 (cW (f k.1))).side (bJ d 0 _) (by decide) (dr _) 1 (G k.2));replace y:=V K;have C:=V (bJ (bJ d 0 (cW (f k.1))) 1 (G k.2));clear g I K;go_wp2;refine nr (v:=pV f k) ?_ rfl (gF y H rfl);simp[results,results148,asAddr,Result.andThen,go_sem,aN C.out]
attribute [local go_sem] Oper.semAt_some
theorem YK(E:Env)(h:RF E f σ W)(s:O)(c:Bool)(k:Nat)(hb:W.heap[k]?=some (cV #[Y s] (if c then 235 else 239)))(R:∀i,i<σ.nodes.length->f i<k)(H:E.bs<=k)(pl:Nat×Nat)(p:lj pl (if c then .cm s else .dt s) (if c then Nd.cm else Nd.dt) σ=.ok () σ'):
  Calls prog 169 #[pV f pl,((if c then Nd.cm else Nd.dt) k).val] W λe W'=>e=nu/\∃g,UU σ.nodes.length f g/\σ.nodes.length<=σ'.nodes.length/\RF E g σ' W'/\Fr E.bs W W':=by
 obtain⟨L,rfl,hr⟩:=h;obtain⟨y,q⟩:∃y:zc,y=if c then .cm s else .dt s:=⟨_,rfl⟩
 obtain⟨F,d⟩:∃F:Nat->Nd,F=if c then Nd.cm else Nd.dt:=⟨_,rfl⟩
 rw[<-q,<-d]at p;rw[<-d];have U:∀e,y≠ .el e:=by intro e;rw[q];cases c<;>simp
 have P:∀i j,F i≠ .el j:=by intro i j;rw[d];cases c<;>simp
 have X:=by
  refine hr.aiv y k (gq) (gq) σ.fresh (Z.refl _ _) R H ?_ rfl (λe he=>absurd he (U e)) (λ_ _ _ _ _ u=>by cases u) (λ_ _ _ _ _ _ u=>by cases u) (λ_=>rfl) (λhf=>⟨hf,λ_ _=>by simp[Value.ownBlock]⟩) (λ_ u=>by cases u);rw[q];cases c with
  |true=>show _=_;grind[Loc.new]
  |false=>show _=_;grind[Loc.new]
 unfold lj pQ at p;cases z:(σ.add y).db pl.1 with
 |none=>rw[z]at p;cases p
 |some ei=>
  rw[z]at p;dsimp only at p;split at p;rename_i I;cases p;have K:pl.1<σ.nodes.length:=by
   have u:=N.dm z;have h2:(σ.add y).nodes.length=σ.nodes.length+1:=by simp[N.add]
   rcases dH pl.1 σ.nodes.length with h|h;exact h;grind[N.pc]
  have C:=Um X z I.1 (P _) I.2.1 I.2.2;have e1:place ((L.new σ.nodes.length k (gq) (gq)).dk pl.1) pl.2=pV L.dk pl:=by rw[Loc.yc K]
  have e2:(Nd.map (L.new σ.nodes.length k (gq) (gq)).dk (F σ.nodes.length))=F k:=by
   rw[d];cases c;show Nd.dt _=Nd.dt k;rw[Loc.pO];show Nd.cm _=Nd.cm k;rw[Loc.pO]
  rw[e1,e2]at C;refine C.mono ?_;rintro e W'⟨rfl,L',e3,hR,hF⟩;refine⟨rfl,L'.dk,λi z=>?_,?_,⟨L',rfl,hR⟩,hF⟩;rw[e3];grind[Loc.yc];grind[N.mQ,N.add];cases p
structure Cl(E:Env)(pf:Nat)(own:Bool)(pm:M (Nat×Nat)):Prop where
 ent:∀args w,(callFunc pf args).run prog w=.ok (.enter pf args) w
 same:∀σ pl σ1,pm σ=.ok pl σ1->σ1=σ
 PM:∀σ c p,pm σ≠ .stop c p
 agk:∀f σ w,RF E f σ w->pm σ≠ .stuck->Calls prog pf #[eF (if own then E.bB else f 0)] w (gX E f σ.nodes.length w (pm σ) pV)
def ja(e:M (Nat×Nat))(t:cR):M Unit:=match t.k with
 | .dl s=>do
  let d <-e
  lj d (.cm s) .cm
  return ()
 |_=>return ()
def CmK(E:Env)(f:Nat->Nat)(σ:N)(T:TypeId)(s:O)(v:cY)(W:J):Prop:=∃k,v=cW k/\W.heap[k]?=some (cV #[Y s] T)/\(∀i,i<σ.nodes.length->f i<k)/\E.bs<=k
theorem CmK.fr(h:CmK E f σ 235 s v W)(d:Fr E.bs W W'):CmK E f σ 235 s v W':=by
 have⟨k,e,h1,h2⟩:=h;exact⟨k,e,d.yH h1 (by decide),h2⟩
def CmK.frD(h:CmK E f σ 239 s v W)(d:Fr E.bs W W'):CmK E f σ 239 s v W':=by
 have⟨k,e,h1,h2⟩:=h;exact⟨k,e,d.yH h1 (by decide),h2⟩
theorem CmK.new(h:RF E f σ W)(s:O):CmK E f σ T s (cW W.heap.size) (W.alloc (cV #[Y s] T)):=by
 obtain⟨L,rfl,hr⟩:=h;exact⟨_,rfl,aY W _,λi d=>hr.IC d,hr.bw⟩
theorem Vq(E:Env)(pf:Nat)(own:Bool)(P:M (Nat×Nat))(hP:Cl E pf own P)(t:cR)(b1:Nat)(h:RF E f σ w)(hs:ja P t σ≠ .stuck)(mq:box w b1 (.func (.func pf) #[eF (if own then E.bB else f 0)] #[]) 209):
  Calls prog 168 #[dJ E t,eF b1] w (Leaves E f σ.nodes.length w (ja P t σ) uV):=by
 have X:=V (At.start h);have⟨a,b,k,cU⟩:=t;cases k with
 |dl s=>
  have hx:∃y σ',P σ=.ok y σ/\lj y (.cm s) .cm σ=.ok () σ'/\ja P ⟨a,b,.dl s,cU⟩ σ=.ok () σ':=by
   have e0:ja P ⟨a,b,.dl s,cU⟩ σ=(P>>=λy=>lj y (.cm s) .cm>>=λ_=>(Pure.pure ():M Unit)) σ:=rfl;rw[M.cH]at e0;cases hq:P σ with
   |ok y σ1=>
    obtain rfl:=hP.same _ _ _ hq;rw[hq]at e0;cases hq2:lj y (.cm s) .cm σ1 with
    |ok u σ'=>exact⟨y,σ',rfl,hq2,by rw[e0];dsimp only;rw[M.cH,hq2];rfl⟩
    |stop c p=>
     exfalso;unfold lj pQ at hq2;grind
    |stuck=>exact absurd (by rw[e0];dsimp only;rw[M.cH,hq2]) hs
   |stop c p=>exact absurd hq (hP.PM _ _ _)
   |stuck=>grind
  have⟨y,σ',hq1,hq2,hq3⟩:=hx;rw[hq3];have R:=λW (hW:RF E f σ W)=>hP.agk f σ W hW (by grind);rw[hq1]at R;have eg:=hP.ent;simp only[dJ];have d:=oS underlying197;obtain⟨I,F⟩:∃I,I=w.alloc (cV #[G a,G b,Y s] 197):=⟨_,rfl⟩;have U:Z [] w I:=by rw[F];exact(Z.refl _ _).alloc _
  have a0:I.heap[w.heap.size]?=some (cV #[G a,G b,Y s] 197):=by rw[F];exact aY w _
  have K:=U.at mq (by simp);have HC:=V (λW (hF:Fr E.bs I W)=>(⟨by rw[aN (hF.yH K (by decide))];rfl,by rw[aN (hF.yH a0 (by decide))];rfl⟩:W.cell? ⟨b1,0,none⟩=some (.func (.func pf) #[eF (if own then E.bB else f 0)] #[])/\W.cell? ⟨w.heap.size,2,none⟩=some (Y s)));have HW:=V F.symm;have HA:=V (X.out.k0 U);have a3:=V R;have a2:=V eg;have a4:=V hq2;have HN:=V (λi (hi:i<σ.nodes.length)=>(show f i<I.heap.size by
   have⟨L,e,hr⟩:=(X.out.k0 U).rel;rw[<-e];exact hr.IC hi))
  have uI:=V (show E.bs<=I.heap.size by
   have⟨L,e,hr⟩:=(X.out.k0 U).rel;exact hr.bw)
  clear h hs mq hP hq1 hq2 hq3 R eg a0 K U F X;go_enter func168,ntmps168;go_wp21;rw[HW.out];refine tz (by rfl) ?_;refine ln (λ(g:cY) z=>⟨#[.iface 197 (.agg #[G a,G b,Y s]),eF b1,undef,cW w.heap.size,.bool true,.tuple #[.agg #[G a,G b,Y s],.bool true],.iface 197 (.agg #[G a,G b,Y s]),.tuple #[.agg #[G a,G b,Y s],.bool true],.agg #[G a,G b,Y s],.bool true,.bool true,cd z 0 (.func (.func pf) #[eF (if own then E.bB else f 0)] #[]),cd z 1 (pV f y),cd z 2 (fR w.heap.size 2),cd z 3 (Y s),cd z 4 (.agg #[Y s]),cd z 5 (g),cd z 6 (.iface 233 g),cd z 7 (.tuple #[])],[]⟩) (λg z W=>if dn z 7=true then (∃f',UU σ.nodes.length f f'/\σ.nodes.length<=σ'.nodes.length/\RF E f' σ' W/\Fr E.bs I W)else (RF E f σ W/\Fr E.bs I W/\(dn z 5=true->CmK E f σ 235 s g W))) 8 [[],[0],[],[2],[3],[4],[5],[0,1,2,3,4,5,6]] (undef) rfl (by rfl) (⟨HA.out.rel.dB (Z.refl _ _).drew,Fr.df (Z.refl _ _).drew,λh=>by cases h⟩) ?_ ?_
  .repeat' first|exact iU|refine iT ?_ ?_
   all_goals
    rintro g z W hI hc hn;simp[yU]at hc;refine jO rfl ?_;intro K' C;simp only[iL,hc];have hb:dn z 7=false:=by simp[hc,hn]
    have q:=(cZ (by simp[hb])).mp hI;have⟨cc,c2⟩:=HC.out W q.2.1;have eg:=a2.out;go_simp
    first
    |refine C _ _ ⟨g,?_,(cZ (by simp[iR,hb])).mpr ⟨q.1,q.2.1,nC q.2.2 (by decide)⟩⟩
    |refine(a3.out W q.1).mono ?_;rintro e W2⟨rfl,a5,a1,_⟩;refine C _ _ ⟨g,?_,(cZ (by simp[iR,hb])).mpr ⟨a5,q.2.1.trans a1,nC (λh=>(q.2.2 h).fr a1) (by decide)⟩⟩
    |have ka:Z [] W (W.alloc (cV #[Y s] 235)):=(Z.refl _ _).alloc _;refine C _ _ ⟨_,?_,(cZ (by simp[iR,hb])).mpr ⟨q.1.dB ka,q.2.1.trans (.df ka),λ_=>CmK.new q.1 s⟩⟩;have h9:dn z 6=false:=(by simp[hn]);simp[lF,td,iL,aix,hc,h9]
    |obtain⟨k,rfl,U,k2,k3⟩:=q.2.2 (by simp[hc]);refine(YK E q.1 s true k U k2 k3 y a4.out).mono ?_;rintro e W2⟨rfl,f',g1,g2,g3,g4⟩;refine C _ _ ⟨cW k,?_,(dd mn).mpr ⟨f',g1,g2,g3,q.2.1.trans g4⟩⟩
    all_goals simp[lF,td,iL,hc]
  .rintro g W hI;have⟨f2,g1,g2,g3,g4⟩:=(dd sB).mp hI;simp only[sv];have G3:=V g3;have G4:=V (HA.out.fr.trans g4);clear hI g3 g4;go_wp2
   all_goals go_end0
   all_goals exact⟨f2,g1,g2,rfl,G3.out,G4.out⟩
 |_=>
  change Calls _ _ _ _ (Leaves E f _ w (.ok () σ) uV);simp only[dJ];have d:=qG;have H:=V (X.out.k0 ((Z.refl [] w).alloc (cV #[G 0,G 0,Y gU] 197)));clear h hs mq hP X;go_enter func168,ntmps168;go_wp2;go_end0;exact cE rfl H.out rfl
theorem RB.tail{m:M Unit}(h:RB c σ (m σ)):RB c σ ((m>>=λ_=>(Pure.pure ():M Unit)) σ):=by
 rw[M.cH];revert h;cases m σ<;>exact λh=>h
def RB.then{m:M Unit}(h:RB c σ (m σ))(g:N->N)(hg:∀σ,(g σ).nodes=σ.nodes/\(g σ).cC=σ.cC/\(g σ).act=σ.act/\(g σ).head=σ.head/\(g σ).form=σ.form/\(g σ).nB=σ.nB/\(g σ).ox=σ.ox/\(g σ).mode=σ.mode/\(g σ).kept=σ.kept/\(g σ).dk=σ.dk/\(g σ).mj=σ.mj/\(g σ).waiting=σ.waiting):RB c σ ((m>>=λ_=>rO g>>=λ_=>(Pure.pure ():M Unit)) σ):=by
 rw[M.cH];revert h;cases m σ with
 |ok a σ1=>
  rintro⟨h1,I,d,h4⟩;obtain⟨u,C,K,P,R,F,H,U,X,y,z,k⟩:=hg σ1;refine⟨h1.jo u C K P R F H,⟨by rw[C];exact I.ne,?_⟩,⟨y.trans d.dk,F.trans d.nB,H.trans d.ox,z.trans d.mj,by rw[k];exact d.wt,by rw[k];exact d.wz,λi s q=>(d.nm i s q).nodes u⟩,by rw[fj u];exact h4⟩;rw[U,X,C];exact I.sh
 |stop e p=>exact λh=>h
 |stuck=>exact λh=>h
theorem alR{a b:O}(h:ir a b=false):a≠b:=by
 rintro rfl;unfold ir at h;simp at h
def Nj(i:Nat)(a:O×O)(r:iD)(σ:N):lK i (a::r) σ=(match σ.db i with
  |none=> .stuck
  |some e=>if uo e.di a.1 then lK i r σ else if σ.mj<=e.di.length then .stop 7 σ.dk else lK i r (σ.dh i {e with di:=e.di++[a]})):=rfl
theorem EE:∀(cU:iD){σ:N},jS σ->(σ.db i).isSome=true->fk 0 σ (lK i cU σ) (λ_ _=>True)
 |[],σ,h,_=>⟨h,Fx.refl _,dr _,trivial⟩
 |a::r,σ,h,hi=>by
  have⟨e,he⟩:=Option.isSome_iff_exists.1 hi;have y:lK i (a::r) σ=(if uo e.di a.1 then lK i r σ else if σ.mj<=e.di.length then .stop 7 σ.dk else lK i r (σ.dh i {e with di:=e.di++[a]})):=by
   rw[Nj,he]
  rw[y];split;exact EE r h hi
  .split;rfl
   .have⟨rr,hr⟩:=h;have d:=N.dm he;have g:=hr.alike (σ':=σ.dh i {e with di:=e.di++[a]}) (λj ej q=>by
     grind[N.eB,N.dY]) (λj ej q=>by
     grind[N.dY]) (λj ej q k K=>by
     grind[N.jE,N.eB,Shp.kd,eJ.lY,N.dY])
    have hw:=by
     have:=tt (e':={e with di:=e.di++[a]}) he;dsimp only at this;omega
    have H:=EE r ⟨rr,g.1⟩ (by rw[N.eB d];rfl);revert H;cases lK i r (σ.dh i {e with di:=e.di++[a]})with
    |ok u σ2=>rintro⟨z,C,I,F⟩;exact⟨z,g.2.trans C,by omega,F⟩
    |stop c p=>exact λh=>h
    |stuck=>simp[fk]
theorem Sr(h:jS σ)(e:dW σ i s)(hg:kF s=true)(t:cR)(d:σ.fresh=true):fk 0 σ (qE i t σ) (λ_ _=>True):=by
 grind[eJ.S8,EE,jF,qE]
def Df(h:jS σ)(d:σ.cC≠[])(t:cR)(g:σ.fresh=true):fk 0 σ (jm t σ) (λ_ _=>True):=by
 have⟨r,hr⟩:=id h;have⟨q,e,rest,h1,h2,h3,h4⟩:=hr.first d;unfold jm;rw[h2];exact fk.dP (Sr h ⟨e,h3,h4⟩ (by kernel_rfl) t g)
theorem Pk(h:jS σ)(t:cR)(k:σ.fresh=true):fk 0 σ (lc t σ) (λ_ _=>True):=by
 unfold lc;cases hq:dA σ.cC 1 with
 |none=>exact⟨h,Fx.refl _,dr _,trivial⟩
 |some i=>
  dsimp only;split;rename_i g;have⟨r,hr⟩:=id h;have p:some i∈σ.cC:=by
   rw[show(1:Int)=((1:Nat):Int)from rfl,nY,gG]at hq;cases hx:σ.cC[1]? with
   |none=>grind
   |some y=>grind
  have⟨j,e,e1,he⟩:=iJ (hr.cC _ p);cases e1;have d:=Vu he;rw[oE g]at d;exact fk.dP (Sr h d (by kernel_rfl) t k);exact⟨h,Fx.refl _,dr _,trivial⟩
section
variable {σ:N}{t:cR}(h:iH σ)(hw:wt σ<999000)
include h hw
theorem Qh(g:lw σ t)(q:t.name=fu):RB 360 σ (mW t σ):=by
 have d:pB t.name=true:=by rw[q];kernel_rfl
 have:fk 360 σ (mW t σ) (λ_ _=>True):=by
  unfold mW;refine fk.bind (lB h.iv h.ne (by omega)) (c2:=325) ?_ (by omega);rintro _ y k e K⟨C,F,H⟩;unfold nI;split;refine fk.bind (c1:=288) (Ef k (e.ne h.ne) (by grind) (by omega)) (c2:=33) ?_ (by omega);rintro _ z u p P I;exact fk.dP (Q:=λ_ _=>True) (kC u (p.ne (e.ne h.ne)) ⟨g.tag,by grind[lw.fr]⟩ d (by omega));exact fk.mono (c:=33) (fk.dP (Q:=λ_ _=>True) (kC k (e.ne h.ne) ⟨g.tag,by grind[lw.fr]⟩ d (by omega))) (by omega) (λ_ _ _ _ h=>h)
 grind[fk.rb,iH.ne,iH.md]
theorem KL(d:lw σ t):RB 33 σ (kR t σ):=by
 have:fk 33 σ (kR t σ) (λ_ _=>True):=by
  refine fk.bind (mX h.iv h.ne d (by omega)) (c2:=0) ?_ (by omega);rintro _ g e k p _;exact fk.dP ((tZ e none (λ_ h=>by cases h)).mono (dr _) (λ_ _ _ _ _=>trivial))
 grind[fk.rb,iH.ne,iH.md]
theorem agP(d:lw σ t)(ks:List O)(g:da ks aG=false):RB 1 σ (Gd ks t σ):=by
 have:fk 1 σ (Gd ks t σ) (λ_ _=>True):=by
  refine fk.bind (vf h.iv (da ks) Xx g) (c2:=1) ?_ (by omega);rintro _ q k e u⟨p,_⟩;exact fk.dP ((rJ k (e.ne h.ne) ⟨d.tag,p.fresh.trans d.fr⟩ (by omega)).mono (dr _) (λ_ _ _ _ _=>trivial))
 grind[fk.rb,iH.ne,iH.md]
def DV(d:lw σ t):RB 1 σ (og t σ):=RB.tail (Gp h hw d _)
def DU(d:lw σ t):RB 1 σ (jr t σ):=RB.tail (Gp h hw d true)
def Fk(d:lw σ t):RB 1 σ (kT t σ):=RB.then (DV h hw d) _ (λ_=>⟨rfl,rfl,rfl,rfl,rfl,rfl,rfl,rfl,rfl,rfl,rfl,rfl⟩)
omit hw in
def Sq(d:σ.fresh=true):RB 0 σ (jm t σ):=(Df h.iv h.ne t d).rb h.ne h.md
omit hw in
def Sn(d:σ.fresh=true):RB 0 σ (lc t σ):=(Pk h.iv t d).rb h.ne h.md
omit hw in
def VC:RB 0 σ (rj σ):=by
 unfold rj;split;exact⟨h.iv.jo rfl rfl rfl rfl rfl rfl rfl,⟨h.ne,.inl rfl⟩,⟨rfl,rfl,rfl,rfl,afv _,λ_ h=> .inl h,λ_ _ h=>h⟩,Zl (fj rfl)⟩;exact qc h.iv h.bms
omit hw in
def IY(p b:O->Bool)(d:p aG=false):RB 0 σ ((iI p b>>=λ_=>(Pure.pure ():M Unit)) σ):=
 (fk.dP (Q:=λ_ _=>True) ((vf h.iv p b d).mono (dr _) (λ_ _ _ _ _=>trivial))).rb h.ne h.md
omit hw in
def RR(d:t.name≠aG):RB 0 σ (ri t σ):=IY h _ _ (by
 rw[wZ];cases hx:ir aG t.name with
 |false=>rfl
 |true=>exact absurd (oE hx).symm d)
omit hw in
def LP:RB 0 σ (nD σ):=IY h _ _ (by kernel_rfl)
omit hw in
def VH:RB 0 σ (uk σ):=IY h _ _ (by kernel_rfl)
omit hw in
def RX(d:t.name≠aG):RB 0 σ (pM t σ):=(fk.dP (Q:=λ_ _=>True) ((C7 h.iv d).mono (dr _) (λ_ _ _ _ _=>trivial))).rb h.ne h.md
theorem ags:RB 1 σ (GQ σ):=by
 have:fk 1 σ (GQ σ) (λ_ _=>True):=by
  unfold GQ;split;grind[fk.mono,fk.dP,sA,iH.iv];refine fk.bind (p5 h.iv h.ne (by omega) nO) (c2:=0) ?_ (by omega);grind[fk.dP,fk.mono,sA]
 grind[fk.rb,iH.ne,iH.md]
def RS:RB 33 σ (oC σ):=by
 have:fk 33 σ (oC σ) (λ_ _=>True):=by
  unfold oC;refine fk.bind (lB h.iv h.ne (by omega)) (c2:=1) ?_ (by omega);rintro _ k e d y _;refine fk.bind (p5 e (d.ne h.ne) (by omega) jM) (c2:=0) ?_ (by omega);rintro _ p g u z⟨j,q,_⟩;exact fk.dP ((xg g (Dy q (d.ne h.ne))).mono (dr _) (λ_ _ _ _ _=>trivial))
 exact this.rb h.ne h.md
omit hw in
def VF:RB 0 σ (rl σ):=by
 unfold rl;cases hf:σ.form with
 |none=>exact qc h.iv h.bms
 |some i=>
  dsimp only;have z:dW σ i fO:=by obtain⟨r,hr⟩:=h.iv;exact hr.form i hf
  have g:jS {σ with form:=none}:=h.iv.Qa none (λ_ h=>by cases h);split
  .obtain⟨q,d,K⟩:=I6 g rI (by kernel_rfl);have y:=BJ q (i:=i) (s:=fO) (d.nm _ _ z) (by intro e;cases e);show RB 0 σ ((fB (some i)>>=λ_=>(Pure.pure ():M Unit)) (({σ with form:=none}:N).gJ));rw[M.cH];revert y;have k:({σ with form:=none}:N).gJ={({σ with form:=none}:N)with cC:=(N.la {σ with form:=none} rI ({σ with form:=none}:N).cC.reverse).reverse}:=rfl;rw[k];cases fB (some i) _ with
   |ok u σ2=>
    rintro⟨C,H,P,I⟩;have F:=d.trans H;refine⟨C,⟨F.ne h.ne,.inl ?_⟩,⟨F.dk,F.nB,F.ox,F.mj,?_,by rw[F.waiting];exact λ_ h=> .inl h,F.nm⟩,?_⟩;rw[F.mode];exact h.md;rw[F.waiting];show σ.waiting.length<=_;omega;rw[fj I.nodes];exact Zl (fj rfl)
   |stop c p=>exact λh=>h
   |stuck=>exact λh=>h
  exact⟨g,⟨h.ne,.inl h.md⟩,⟨rfl,rfl,rfl,rfl,afv _,λ_ h=> .inl h,λ_ _ h=>h⟩,Zl (fj rfl)⟩
def Ex(d:pB t.name=true):RB 288 σ (kM t σ):=(fk.dP (Q:=λ_ _=>True) ((Ef h.iv h.ne d (by omega)).mono (dr _) (λ_ _ _ _ _=>trivial))).rb h.ne h.md
omit hw in
def Pc:RB 0 σ (mF σ):=by
 have:fk 0 σ (mF σ) (λ_ _=>True):=by
  unfold mF;refine fk.bind (vf h.iv (da [dx]) dG (by kernel_rfl)) (c2:=0) ?_ (by omega);rintro b e d g k _;cases b with
  |true=>exact(K4 d).mono (dr _) (λ_ _ _ _ _=>trivial)
  |false=>exact⟨d,Fx.refl _,dr _,trivial⟩
 exact this.rb h.ne h.md
theorem AV(hs:t.chars.size<=100):RB 101 σ (gw t σ):=((mG h.iv h.ne t (by omega)).mono (by omega) (λ_ _ _ _ h=>h)).rb h.ne h.md
theorem LD(hs:t.chars.size<=100):RB 200 σ (iV t σ):=by
 unfold iV;split;grind[RB.mono,qc,iH.iv,iH.bms];have:fk 200 σ ((iK>>=λ_=>gw t>>=λ_=>(Pure.pure ():M Unit)) σ) (λ_ _=>True):=by
  refine fk.bind (lB h.iv h.ne (by omega)) (c2:=101) ?_ (by omega);rintro _ g e d k _;exact fk.dP ((mG e (d.ne h.ne) t (by omega)).mono (by omega) (λ_ _ _ _ _=>trivial))
 grind[fk.rb,iH.ne,iH.md]
theorem GL(hs:t.chars.size<=100):RB 101 σ (jl t σ):=by
 unfold jl;grind[RB.tail,AV,RB.mono,qc,iH.iv,iH.bms]
end
def FR(h:jS σ)(g:M (Nat×Nat))(e:∃d,g σ=.ok d σ/\AB σ d)(t:cR)(hw:wt σ<999000):fk 1 σ (ja g t σ) (λ_ _=>True):=by
 have⟨a,b,k,cU⟩:=t;cases k with
 |dl s=>
  have⟨d,h1,h2⟩:=e;show fk 1 σ ((g>>=λd=>lj d _ .cm>>=λ_=>(Pure.pure ())) σ) _;rw[M.cH,h1];exact fk.dP ((E9 h h2 _ .cm (.inl ⟨s,rfl,rfl⟩) (by omega)).mono (dr _) (λ_ _ _ _ _=>trivial))
 |gz s=>exact⟨h,Fx.refl _,afv _,trivial⟩
 |start s=>exact⟨h,Fx.refl _,afv _,trivial⟩
 |stop s=>exact⟨h,Fx.refl _,afv _,trivial⟩
 |dK s q=>exact⟨h,Fx.refl _,afv _,trivial⟩
 |lost=>exact⟨h,Fx.refl _,afv _,trivial⟩
 |dD=>exact⟨h,Fx.refl _,afv _,trivial⟩
theorem zN(h:jS σ)(e:σ.cC≠[]):∃d,gp σ=.ok d σ/\AB σ d:=by
 have⟨r,h⟩:=h;grind[E0]
theorem O5(h:jS σ):∃d,eE 0 σ=.ok d σ/\AB σ d:=by
 have⟨e,he⟩:=Option.isSome_iff_exists.1 h.rU;exact⟨_,by unfold eE;rw[he],e,he,dr _⟩
def EB(σ:N)(r:nh Bool):Prop:=match r with
 | .ok x σ'=>jS σ'/\σ'.cC≠[]/\oj σ'.mode=true/\(Lm σ σ'/\σ'.waiting=σ.waiting)/\wt σ'<=wt σ/\σ'.fresh=σ.fresh/\(x=true->σ'.cC.length<σ.cC.length)/\(x=false->σ'=σ)
 | .stop _ _=>False
 | .stuck=>False
theorem lm0(σ:N):Lm σ σ:=⟨rfl,rfl,rfl,rfl,afv _,by grind,by grind⟩
theorem EB.no(h:iH σ):EB σ (.ok false σ):=⟨h.iv,h.ne,h.md,⟨lm0 σ,rfl⟩,dr _,rfl,by grind,λ_=>rfl⟩
def EB.Th(h:iH σ)(p b:O->Bool)(hp:p aG=false){k:Bool->M Bool}(hf:k false=Pure.pure false)(ht:∀d,jS d->d.cC≠[]->∃g,k true d=.ok true g/\jS g/\g.cC=d.cC/\oj g.mode=true/\g.dk=d.dk/\g.nB=d.nB/\g.ox=d.ox/\g.mj=d.mj/\g.waiting=d.waiting/\g.nodes=d.nodes/\g.fresh=d.fresh):EB σ ((iI p b>>=k) σ):=by
 have X:=vf h.iv p b hp;rw[M.cH];revert X;cases hq:iI p b σ with
 |ok x d=>
  rintro⟨i1,u,w1,q1,q2,q3⟩;dsimp only;cases x with
  |false=>
   rw[hf];have e:=q3 rfl;subst e;exact EB.no h
  |true=>
   obtain⟨g,e,H,C,I,K,P,R,U,z,F,y⟩:=ht d i1 (u.ne h.ne);rw[e];refine⟨H,by rw[C];exact u.ne h.ne,I,⟨⟨K.trans u.dk,P.trans u.nB,R.trans u.ox,U.trans u.mj,?_,by rw[z,u.waiting];exact λ_ h=> .inl h,λi s q=>(u.nm i s q).nodes F⟩,z.trans u.waiting⟩,?_,y.trans q1.fresh,?_,λh=>by cases h⟩;rw[z,u.waiting];omega;rw[fj F];exact w1;intro _;rw[C];exact q2 rfl
 |stop c p=>unfold iI at hq;split at hq<;>cases hq
 |stuck=>exact λh=>h.elim
def Bq(h:iH σ)(ks:List O)(m:Nat)(e:da ks aG=false)(g:oj m=true):EB σ (ol ks m σ):=by
 refine EB.Th h _ _ e rfl ?_;intro d p k;exact⟨{d with mode:=m},rfl,p.jo rfl rfl rfl rfl rfl rfl rfl,rfl,g,rfl,rfl,rfl,rfl,rfl,rfl,rfl⟩
theorem wW(h:iH σ)(ks:List O)(m:Nat)(I:da ks aG=false)(K:oj m=true):EB σ (gH ks m σ):=by
 have H:=Bq h ks m I K;unfold gH;rw[M.cH];revert H;cases ol ks m σ with
 |ok x σ1=>
  rintro⟨g,q,k,⟨d,z⟩,y,u,e,C⟩;cases x with
  |false=>exact⟨g,q,k,⟨d,z⟩,y,u,e,C⟩
  |true=>
   obtain⟨F,P,R,U⟩:=K4 g;exact⟨F,q,k,⟨⟨d.dk,d.nB,d.ox,d.mj,d.wt,d.wz,d.nm⟩,z⟩,y,u,e,by grind⟩
 |stop c p=>grind
 |stuck=>grind
theorem UF(s:O):oj (cX s)=true:=by
 grind[oj,cX]
theorem Gs(σ:N):∀d:gZ,oj (nE σ d)=true
 |[]=>rfl
 |x::d=>by
  unfold nE;split;exact Gs σ d;grind[UF]
def TP(h:iH σ)(p b:O->Bool)(g:p aG=false):EB σ ((iI p b>>=λb=>if b then (do wF;return true)else return false) σ):=by
 refine EB.Th h p b g rfl ?_;intro d k e;exact⟨{d with mode:=nE d _},rfl,k.jo rfl rfl rfl rfl rfl rfl rfl,rfl,Gs _ _,rfl,rfl,rfl,rfl,rfl,rfl,rfl⟩
theorem C6(h:iH σ):EB σ (gE σ):=by
 unfold gE;split;rename_i g;have k:=vV h.iv _ (by kernel_rfl) g;obtain⟨d,e⟩:=E5 h.iv k;refine⟨d.jo rfl rfl rfl rfl rfl rfl rfl,e.ne h.ne,rfl,⟨⟨rfl,rfl,rfl,rfl,afv _,λ_ h=> .inl h,λ_ _ h=>h⟩,rfl⟩,Zl (fj rfl),rfl,λ_=>?_,by grind⟩;show σ.cC.dropLast.length<_;simp;omega;grind[EB.no]
structure uW(b:M Bool):Prop where
 ok:∀σ,iH σ->EB σ (b σ)
def O8:uW oD:=⟨λ_ h=>wW h _ _ (by kernel_rfl) rfl⟩
def Z5:uW endCell:=⟨λ_ h=>wW h _ _ (by kernel_rfl) rfl⟩
def ac1:uW zp:=⟨λ_ h=>Bq h _ _ (by kernel_rfl) rfl⟩
def Je:uW lH:=⟨λ_ h=>Bq h _ _ (by kernel_rfl) rfl⟩
def VL:uW pN:=⟨λ_ h=>TP h _ _ (by kernel_rfl)⟩
def RY:uW pg:=⟨λ_ h=>TP h _ _ (by kernel_rfl)⟩
def Et:uW gE:=⟨λ_ h=>C6 h⟩
def agu{b:M Bool}(e:uW b)(h:iH σ):RB 0 σ (zq b σ):=by
 have d:=e.ok σ h;unfold zq;rw[M.cH];revert d;cases b σ with
 |ok x σ1=>rintro⟨g,u,q,⟨k,H⟩,y,F,z,C⟩;exact⟨g,⟨u,.inl q⟩,k,y⟩
 |stop c p=>simp[EB]
 |stuck=>simp[EB]
theorem Lm.trans{a b c:N}(h:Lm a b)(hw:b.waiting=a.waiting)(k:Lm b c):Lm a c:=⟨k.dk.trans h.dk,k.nB.trans h.nB,k.ox.trans h.ox,k.mj.trans h.mj,by have:=k.wt;grind,by grind[wz],λi s q=>k.nm i s (h.nm i s q)⟩
def ach{b:M Bool}(K:uW b)(h:iH σ){rec:Nat->cR->M Unit}(hr:∀σ',iH σ'->σ'.cC.length<σ.cC.length->wt σ'<=wt σ->σ'.fresh=σ.fresh->σ'.waiting=σ.waiting->σ'.nB=σ.nB->RB c σ' (rec σ'.mode t σ')):RB c σ (tD rec b t σ):=by
 have H:=K.ok σ h;unfold tD;rw[M.cH];revert H;cases b σ with
 |ok x σ1=>
  rintro⟨e,k,g,⟨d,q⟩,R,P,y,U⟩;cases x with
  |false=>exact⟨e,⟨k,.inl g⟩,d,by omega⟩
  |true=>
   have I:RB c σ1 ((gh rec t>>=λ_=>(Pure.pure ())) σ1):=RB.tail (hr σ1 ⟨e,k,g⟩ (y rfl) R P q d.nB);show RB c σ ((gh rec t>>=λ_=>(Pure.pure ())) σ1);revert I;cases(gh rec t>>=λ_=>(Pure.pure ())) σ1 with
   |ok u σ2=>rintro⟨z,C,F,X⟩;exact⟨z,C,d.trans q F,by omega⟩
   |stop c p=>exact λh=>UR h d.dk
   |stuck=>simp[RB]
 |stop c p=>simp[EB]
 |stuck=>simp[EB]
section
variable {σ:N}{t:cR}(h:iH σ)(hw:wt σ<999000)
include h hw
theorem Od(d:lw σ t)(ks:List O)(m:Nat)(q:oj m=true):RB 1 σ (uA ks m t σ):=by
 refine RB.bind (vU h.iv _) (c2:=1) ?_ (by omega);rintro _ p g e u k;refine RB.bind (gm g (e.ne h.ne) (by omega) t d.tag (k.fresh.trans d.fr)) (c2:=0) ?_ (by omega);grind[P5,Fx.ne,iH.ne]
def G1(g:lw σ t):RB 1 σ (kK t σ):=by
 refine RB.bind (vU h.iv _) (c2:=1) ?_ (by omega);rintro _ C p d I y;refine RB.bind (tZ p none (λ_ h=>by cases h)) (c2:=1) ?_ (by omega);rintro _ F q e K z;refine RB.bind (gm q (e.ne (d.ne h.ne)) (by omega) t g.tag (z.fresh.trans (y.fresh.trans g.fr))) (c2:=0) ?_ (by omega);rintro _ H u k P _;exact P5 u (k.ne (e.ne (d.ne h.ne))) 9 rfl
def yr(k:lw σ t):RB 1 σ (mU t σ):=by
 refine RB.bind (vU h.iv _) (c2:=1) ?_ (by omega);rintro _ R H g U P;refine RB.bind (gm H (g.ne h.ne) (by omega) t k.tag (P.fresh.trans k.fr)) (c2:=0) ?_ (by omega);rintro _ e I q X _;have K:jS {e with mode:=13}:=I.jo rfl rfl rfl rfl rfl rfl rfl;have F:=(fk.dP (Q:=λ_ _=>True) ((tZ K none (λ_ h=>by cases h)).mono (dr _) (λ_ _ _ _ _=>trivial))).rb (q.ne (g.ne h.ne)) rfl;show RB 0 e ((fC none>>=λ_=>(Pure.pure ())) _);revert F;cases(fC none>>=λ_=>(Pure.pure ())) _ with
 |ok u σ4=>rintro⟨y,z,d,C⟩;exact⟨y,z,⟨d.dk,d.nB,d.ox,d.mj,d.wt,d.wz,d.nm⟩,C⟩
 |stop c p=>exact λh=>h
 |stuck=>exact λh=>h
theorem AK(k:lw σ t)(F:t.name=fO):RB 1 σ (fZ t σ):=by
 unfold fZ;cases hf:σ.form with
 |some d=>exact(qc h.iv h.bms).mono (by omega)
 |none=>
  refine RB.bind (gm h.iv h.ne (by omega) t k.tag k.fr) (c2:=0) ?_ (by omega);rintro _ e y g H⟨j,q⟩;refine RB.bind (xg y (Dy q h.ne)) (c2:=0) ?_ (by omega);rintro x C z p I⟨rfl,rfl⟩;refine⟨z.Qa _ ?_,⟨p.ne (g.ne h.ne),.inl ?_⟩,⟨rfl,rfl,rfl,rfl,afv _,by grind,λ_ _ h=>h⟩,Zl (fj rfl)⟩;intro d u;rw[Dx q]at u;grind[Fx.nm,ze.nm];show oj e.mode=true;rw[g.mode];exact h.md
def sV(d:lw σ t):RB 1 σ (gM t σ):=(oI h.iv h.ne (by omega) t d.tag d.fr).rb h.ne h.md
theorem yt(d:lw σ t):RB 1 σ (fA t σ):=by
 have:fk 1 σ (fA t σ) (λ_ _=>True):=by
  refine fk.bind (sI h.iv _ (by kernel_rfl)) (c2:=1) ?_ (by omega);rintro _ p g e q k;exact fk.dP ((gm g (e.ne h.ne) (by omega) t d.tag (k.fresh.trans d.fr)).mono (dr _) (λ_ _ _ _ _=>trivial))
 grind[fk.rb,iH.ne,iH.md]
theorem pD(d:lw σ t):fk 1 σ (eN t σ) (λ_ σ'=>2<=σ'.cC.length):=by
 refine fk.bind (sI h.iv _ (by kernel_rfl)) (c2:=1) ?_ (by omega);rintro _ y k e C q;refine fk.bind (sI k _ (by kernel_rfl)) (c2:=1) ?_ (by omega);rintro _ z p g F u;refine fk.dP ((gm p (g.ne (e.ne h.ne)) (by omega) t d.tag (u.fresh.trans (q.fresh.trans d.fr))).mono (dr _) ?_);grind[Dy,Fx.ne,iH.ne]
def wG(d:lw σ t):RB 1 σ (eN t σ):=(pD h hw d).rb h.ne h.md
theorem Cd(d:lw σ t):RB 1 σ (im t σ):=by
 have:fk 1 σ (im t σ) (λ_ _=>True):=by
  refine fk.bind (pD h hw d) (c2:=0) ?_ (by omega);rintro _ k e p q g;exact fk.dP ((xg e g).mono (dr _) (λ_ _ _ _ _=>trivial))
 grind[fk.rb,iH.ne,iH.md]
omit hw in
def zo:RB 0 σ (gP σ):=(fk.dP (Q:=λ_ _=>True) ((sI h.iv (da [dj]) (by kernel_rfl)).mono (dr _) (λ_ _ _ _ _=>trivial))).rb h.ne h.md
omit hw in
theorem xX:RB 0 σ (dQ σ):=by
 have g:∀d,jS d->fk 0 d ((ly (da [cD])>>=λ_=>(Pure.pure ():M Unit)) d) (λ_ _=>True):=λd q=>
  fk.dP (Q:=λ_ _=>True) ((sI q (da [cD]) (by kernel_rfl)).mono (dr _) (λ_ _ _ _ _=>trivial))
 have:fk 0 σ (dQ σ) (λ_ _=>True):=by
  unfold dQ;split;rename_i k;have p:=vV h.iv _ (by kernel_rfl) k;have⟨r,hr⟩:=id h.iv;have⟨i,e,h1,h2,h3,h4⟩:=PA hr h.ne;rw[List.getLast?_eq_getElem?]at h3;have⟨a,ha1,ha2⟩:=hr.Rf h3 (by omega);have hg:dA σ.cC (posOf σ.cC σ.last-1)=some a:=by
   rw[h1];unfold ahead at ha1;split at ha1;grind;cases ha1
  rw[hg];dsimp only;split;refine fk.bind (xg h.iv p) (c2:=0) ?_ (by omega);grind;exact g σ h.iv;exact g σ h.iv
 exact this.rb h.ne h.md
end
def aj2(v:cY):Prop:=v=.nilFunc\/∃k a l,v=.func k a l
def ry:List cY->cY
 |[]=> .func (.func 91) #[] #[]
 | .nilFunc::r=>ry r
 |v::_=>v
theorem R7(g z:Nat)(vs:List cY)(w:J)(hg:w.heap[g]?=some (cV vs.toArray 167))(hv:∀v∈vs,aj2 v)(hn:vs.length<=4096):
  Calls prog 310 #[ky g vs.length z] w λe w'=>e=dw (ry vs)/\w'=w:=by
 obtain⟨m,hm⟩:∃m,m=ry vs:=⟨_,rfl⟩;rw[<-hm];have R:=hv;have I:=V hg;obtain⟨n,q⟩:∃n,n=vs.length:=⟨_,rfl⟩;rw[<-q]at hn|-;have P:=V q;clear hg q;go_enter func310,ntmps310;go_wp21
 go_loopw [7] (λv wr=>∃k:Nat,v=G k/\k<=n/\ry (vs.drop k)=m/\wr=w) (λv _=>n-(intOf v).toNat)
 case atStart=>grind
 case round=>
  obtain⟨k,rfl,hk,p,rfl⟩:=hrel;have HF:=p;by_cases F:k<n
  .have d:k<vs.length:=by rw[<-P.out];exact F
   have X:=US d;have U:wr.cell? ⟨g,k,none⟩=some vs[k]:=by rw[aN I.out];simp[d]
   have H:=R vs[k] (sd d);rw[X]at p;generalize vs[k]=u at p U H;rcases H with rfl|⟨f,a,l,rfl⟩
   .have y:=V p;clear p;go_wp21;rename_i K C;refine C _ _ ?_;simp only[Bool.not_true];go_wp2;go_roundw
    case rel=>exact⟨k+1,by go_num,by omega,y,trivial⟩
    case measure=>simp[intOf];omega
   .have y:=V p;clear p;go_wp21;rename_i K C;refine C _ _ ?_;simp only[Bool.not_false];go_wp2;go_ret;exact⟨by rw[<-y.out];rfl,rfl⟩
  .rw[(List.drop_eq_nil_of_le (by grind[Hid.out]))]at p;have y:=V p;clear p;go_wp2;go_ret;exact⟨by rw[<-y.out];rfl,rfl⟩
def fh:List Ru->Ru
 |[]=> .nothing
 | .nil::r=>fh r
 |x::_=>x
def rZ:Option (List (List O×Ru))->O->Ru
 |none,_=> .nil
 |some R,k=>(mf R k).getD .nil
def dT(sp:jz)(t:cR):Ru:=match t.k with
 | .gz s=>if jn s then fh [sp.blank,sp.gz,sp.dy]else fh [sp.gz,sp.dy]
 | .dl _=>fh [sp.dl,sp.dy]
 | .dK _ _=>fh [sp.dK,sp.dy]
 | .start n=>fh [rZ sp.start n,sp.fX,sp.dy]
 | .stop n=>fh [rZ sp.stop n,sp.ik,sp.dy]
 | .lost=>fh [sp.dD,sp.dy]
 | .dD=>fh [sp.dD,sp.dy]
theorem kV.isF{r:Ru}(h:kV bm bB bD r v w):(r=.nil/\v=.nilFunc)\/(r≠ .nil/\∃k a l,v=.func k a l):=by
 cases r with
 |nil=>exact .inl ⟨rfl,h⟩
 |nothing=>exact .inr ⟨by simp,_,_,_,h⟩
 |eI f=>exact .inr ⟨by simp,_,_,_,h⟩
 |su m=>have⟨b1,b2,e,_⟩:=h;grind
 |dl pf own=>have⟨b1,e,_⟩:=h;grind
 |ahead f=>have⟨b1,b2,e,_⟩:=h;grind
 |ends f=>have⟨b1,e,_⟩:=h;grind
 |Wb r=>have⟨b1,b2,u,e,_⟩:=h;grind
 |rM ks m=>have⟨b1,b2,b3,u,e,_⟩:=h;grind
 |mr ks n m=>have⟨b1,b2,b3,b4,u,e,_⟩:=h;grind
 |item ks=>have⟨b1,b2,b3,u1,u2,e,_⟩:=h;grind
theorem kV.fv{r:Ru}(h:kV bm bB bD r v w):aj2 v:=by
 rcases h.isF with⟨_,e⟩|⟨_,e⟩;exact .inl e;exact .inr e
inductive uU(bm bB bD:Nat)(w:J):List Ru->List cY->Prop
 |nil:uU bm bB bD w [] []
 |cons {r:Ru} {v:cY} {rs:List Ru} {vs:List cY} (h:kV bm bB bD r v w) (t:uU bm bB bD w rs vs):uU bm bB bD w (r::rs) (v::vs)
theorem uU.first(h:uU bm bB bD w rs vs):kV bm bB bD (fh rs) (ry vs) w:=by
 induction h with
 |nil=>rfl
 |@cons r v rs vs h t ih=>
  rcases h.isF with⟨rfl,rfl⟩|⟨hr,k,a,l,rfl⟩
  all_goals grind[fh,ry]
theorem uU.isF(h:uU bm bB bD w rs vs):∀v∈vs,aj2 v:=by
 induction h with
 |nil=>simp
 |cons h t ih=>grind[kV.fv]
def sC(h:uU bm bB bD w rs vs)(d:vs.length<=4096){g:Nat}(hg:W.heap.size=g):
  Calls prog 310 #[ky g vs.length vs.length] (W.alloc (cV vs.toArray 167)) λe w'=>e=dw (ry vs)/\w'=W.alloc (cV vs.toArray 167):=by
 subst hg;exact R7 _ _ vs _ (aY _ _) h.isF d
def ajv(h:v.oneCell'=true):v.cells=#[v]:=by
 cases v<;>first|rfl|(simp[Value.oneCell']at h)
def xw{d e g k p q u y z C:cY}(h:∀v∈[d,e,g,k,p,q,u,y,z,C],v.oneCell'=true):d.cells=#[d]/\e.cells=#[e]/\g.cells=#[g]/\k.cells=#[k]/\p.cells=#[p]/\q.cells=#[q]/\u.cells=#[u]/\y.cells=#[y]/\z.cells=#[z]/\C.cells=#[C]:=by
 refine⟨?_,?_,?_,?_,?_,?_,?_,?_,?_,?_⟩<;>exact ajv (h _ (by simp))
def Fq(w:J)(o d:Obj):((w.alloc o).alloc d).heap[w.heap.size]?=some o:=(Below.heap_alloc _ _ _ (by simp)).trans (aY w _)
def ahg(E:Env)(bB bD a b:Nat)(s:O)(cU:iD)(sp:jz)(y p z C F H I K P q:cY)(w:J)(h:gW E.bm bB bD sp y p z C F H I K P q w):
  Calls prog 258 #[.agg #[y,p,z,C,F,H,I,K,P,q],dJ E ⟨a,b,.gz s,cU⟩] w λe w'=>∃v,e=dw v/\kV E.bm bB bD (dT sp ⟨a,b,.gz s,cU⟩) v w/\Z [] w w':=by
 have⟨k0,k1,k2,k3,k4,k5,k6,k7,k8,k9⟩:=xw h.one;have k:=V h;clear h;have HG:=V (λo=>Fq w (cV #[y,p,z,C,F,H,I,K,P,q] 171) o);have a2:=V (aY w (cV #[y,p,z,C,F,H,I,K,P,q] 171));have R:=V (λo=>((Z.refl [] w).alloc (cV #[y,p,z,C,F,H,I,K,P,q] 171)).alloc o);have a3:=V ((Z.refl [] w).alloc (cV #[y,p,z,C,F,H,I,K,P,q] 171));simp only[dJ];have X:=oS underlying187;have HB:=V (λW=>JD s W);go_enter func258,ntmps258;go_wp21;refine(HB.out _).mono ?_;rintro e w1⟨rfl,u⟩;have U:=u.at (HG.out _) (by simp);have HK:=V ((R.out _).trans u);have q0:=aN U 0;have q1:=aN U 1;have q9:=aN U 9;dsimp at q0 q1 q9;clear U u HG a2 R a3 HB;have f0:=k.out.blank.fv;have f1:=k.out.gz.fv;have f9:=k.out.dy.fv;cases hb:jn s with
 |true=>
  have hr:dT sp ⟨a,b,.gz s,cU⟩=fh [sp.blank,sp.gz,sp.dy]:=by simp[dT,hb]
  have d:Hid (uU E.bm bB bD w _ [y,p,q]):=V (.cons k.out.blank (.cons k.out.gz (.cons k.out.dy (.nil))));have HR:=V hr;clear hr hb;rcases f0 with rfl|⟨k0,a0,l0,rfl⟩
  all_goals rcases f1 with rfl|⟨k1,a1,l1,rfl⟩
  all_goals rcases f9 with rfl|⟨k9,a9,l9,rfl⟩
  all_goals go_wp21
  all_goals refine(sC d.out (by simp) (by simp)).mono ?_
  all_goals rintro e w3⟨rfl,rfl⟩
  all_goals have g:=V d.out.first
  all_goals simp only[ry]at g|-
  all_goals go_wp2
  all_goals go_ret
  all_goals exact⟨_,rfl,HR.out▸g.out,HK.out.alloc _⟩
 |false=>
  have hr:dT sp ⟨a,b,.gz s,cU⟩=fh [sp.gz,sp.dy]:=by simp[dT,hb]
  have d:Hid (uU E.bm bB bD w _ [p,q]):=V (.cons k.out.gz (.cons k.out.dy (.nil)));have HR:=V hr;clear hr hb;rcases f1 with rfl|⟨k1,a1,l1,rfl⟩
  all_goals rcases f9 with rfl|⟨k9,a9,l9,rfl⟩
  all_goals go_wp21
  all_goals refine(sC d.out (by simp) (by simp)).mono ?_
  all_goals rintro e w3⟨rfl,rfl⟩
  all_goals have g:=V d.out.first
  all_goals simp only[ry]at g|-
  all_goals go_wp2
  all_goals go_ret
  all_goals exact⟨_,rfl,HR.out▸g.out,HK.out.alloc _⟩
def WF(E:Env)(bB bD a b:Nat)(cU:iD)(sp:jz)(C F H I u K P R U y:cY)(w:J)(h:gW E.bm bB bD sp C F H I u K P R U y w):
  Calls prog 258 #[.agg #[C,F,H,I,u,K,P,R,U,y],dJ E ⟨a,b,.dD,cU⟩] w λe w'=>∃v,e=dw v/\kV E.bm bB bD (dT sp ⟨a,b,.dD,cU⟩) v w/\Z [] w w':=by
 have HI:=V h;clear h;have HG:=V (λo=>Fq w (cV #[C,F,H,I,u,K,P,R,U,y] 171) o);have k:=V (aY w (cV #[C,F,H,I,u,K,P,R,U,y] 171));have a1:=V (λo=>((Z.refl [] w).alloc (cV #[C,F,H,I,u,K,P,R,U,y] 171)).alloc o);have a2:=V ((Z.refl [] w).alloc (cV #[C,F,H,I,u,K,P,R,U,y] 171));simp only[dJ];have a0:=tH;have p:=qG;have q:=uO;have g:=oN;have z:=xa;have q4:=aN k.out 4;have q9:=aN k.out 9;dsimp at q4 q9;clear HG k a1;have d:Hid (uU E.bm bB bD w _ [u,y]):=V (.cons HI.out.dD (.cons HI.out.dy (.nil)));have f4:=HI.out.dD.fv;have f9:=HI.out.dy.fv;go_enter func258,ntmps258;rcases f4 with rfl|⟨k4,a4,l4,rfl⟩
 all_goals rcases f9 with rfl|⟨k9,a9,l9,rfl⟩
 all_goals go_wp21
 all_goals refine(sC d.out (by simp) (by simp)).mono ?_
 all_goals rintro e w3⟨rfl,rfl⟩
 all_goals have X:=V d.out.first
 all_goals simp only[ry]at X|-
 all_goals go_wp2
 all_goals go_ret
 all_goals exact⟨_,rfl,X.out,a2.out.alloc _⟩
def abH(w:J):(zeroValue 167).run prog w=.ok .nilFunc w:=by simp
theorem SQ{R:Option (List (List O×Ru))}(h:pF bm bB bD R v w)(n:O):
  ∃u,(∀w',Z [] w w'->(Instr.lookup 169 v (Y n) false).run prog w'=.ok u w')/\kV bm bB bD (rZ R n) u w:=by
 cases R with
 |none=>
  obtain rfl:=h;refine⟨.nilFunc,λw' _=>?_,rfl⟩;have e:∀x,(Instr.checkKey x 10000 9 (Y n)).run prog w'=.ok () w':=λx=>rfl;simp[Instr.lookup,e,Instr.findKey,Instr.findNow,Result.andThen]
 |some R=>
  obtain⟨b,L,rfl,d,hr⟩:=h;refine⟨(AH L n).getD .nilFunc,λw' g=>Fe (by simp) abH (d.keeps (g.block b d.lt (by simp))) n,?_⟩;grind[kV,rZ]
def aeh(E:Env)(bB bD a b:Nat)(n:O)(cU:iD)(sp:jz)(p q y z C k F d H g:cY)(w:J)(h:gW E.bm bB bD sp p q y z C k F d H g w)(I:∃x m c,E.tv=.slice x m c):
  Calls prog 258 #[.agg #[p,q,y,z,C,k,F,d,H,g],dJ E ⟨a,b,.start n,cU⟩] w λe w'=>∃v,e=dw v/\kV E.bm bB bD (dT sp ⟨a,b,.start n,cU⟩) v w/\Z [] w w':=by
 have⟨k0,k1,k2,k3,k4,k5,k6,k7,k8,k9⟩:=xw h.one;have HI:=V h;clear h;have HG:=V (λo=>Fq w (cV #[p,q,y,z,C,k,F,d,H,g] 171) o);have a6:=V (aY w (cV #[p,q,y,z,C,k,F,d,H,g] 171));have R:=V (λo=>((Z.refl [] w).alloc (cV #[p,q,y,z,C,k,F,d,H,g] 171)).alloc o);have a8:=V ((Z.refl [] w).alloc (cV #[p,q,y,z,C,k,F,d,H,g] 171));simp only[dJ];have⟨x0,m0,c0,I⟩:=I;rw[I];clear I;have a4:=tH;have a0:=qG;have a1:=uO;have P:=oS underlying195;have⟨u,hlk,hu⟩:=SQ HI.out.start n;have aa:=V hlk;have X:=hlk ((w.alloc (cV #[p,q,y,z,C,k,F,d,H,g] 171)).alloc (cV #[G a,G b,Y n,.slice x0 m0 c0] 195)) (R.out _);have gB:=HG.out (cV #[G a,G b,Y n,.slice x0 m0 c0] 195);have gT:=aY (w.alloc (cV #[p,q,y,z,C,k,F,d,H,g] 171)) (cV #[G a,G b,Y n,.slice x0 m0 c0] 195);have a3:=V (R.out (cV #[G a,G b,Y n,.slice x0 m0 c0] 195));obtain⟨W,U⟩:∃W,W=((w.alloc (cV #[p,q,y,z,C,k,F,d,H,g] 171)).alloc (cV #[G a,G b,Y n,.slice x0 m0 c0] 195)):=⟨_,rfl⟩;have hz:(w.alloc (cV #[p,q,y,z,C,k,F,d,H,g] 171)).heap.size=w.heap.size+1:=by simp
 rw[hz]at gT;have q5:W.cell? ⟨w.heap.size,5,none⟩=some k:=by rw[U,aN gB];rfl
 have q7:W.cell? ⟨w.heap.size,7,none⟩=some d:=by rw[U,aN gB];rfl
 have q9:W.cell? ⟨w.heap.size,9,none⟩=some g:=by rw[U,aN gB];rfl
 have qn:W.cell? ⟨w.heap.size+1,2,none⟩=some (Y n):=by rw[U,aN gT];rfl
 rw[<-U]at a3 X;have HW:=V U.symm;clear gB gT HG a6 R a8 hlk U hz aa;have hr:dT sp ⟨a,b,.start n,cU⟩=fh [rZ sp.start n,sp.fX,sp.dy]:=rfl;have K:Hid (uU E.bm bB bD w _ [u,d,g]):=V (.cons hu (.cons HI.out.fX (.cons HI.out.dy (.nil))));have HR:=V hr;clear hr;have f5:=hu.fv;have f7:=HI.out.fX.fv;have f9:=HI.out.dy.fv;clear hu;go_enter func258,ntmps258;go_wp21;rw[HW.out];go_wp21;rw[X];clear X;rcases f5 with rfl|⟨k5,a5,l5,rfl⟩
 all_goals rcases f7 with rfl|⟨k7,a7,l7,rfl⟩
 all_goals rcases f9 with rfl|⟨k9,a9,l9,rfl⟩
 all_goals go_wp2_with fail
 all_goals refine(sC K.out (by simp) (by simp)).mono ?_
 all_goals rintro e w3⟨rfl,rfl⟩
 all_goals have a2:=V K.out.first
 all_goals simp only[ry]at a2|-
 all_goals go_wp2
 all_goals go_ret
 all_goals exact⟨_,rfl,HR.out▸a2.out,a3.out.alloc _⟩
def ahh(E:Env)(bB bD a b:Nat)(n:O)(cU:iD)(sp:jz)(p q y z C F k H d g:cY)(w:J)(h:gW E.bm bB bD sp p q y z C F k H d g w)(I:∃x m c,E.tv=.slice x m c):
  Calls prog 258 #[.agg #[p,q,y,z,C,F,k,H,d,g],dJ E ⟨a,b,.stop n,cU⟩] w λe w'=>∃v,e=dw v/\kV E.bm bB bD (dT sp ⟨a,b,.stop n,cU⟩) v w/\Z [] w w':=by
 have⟨k0,k1,k2,k3,k4,k5,k6,k7,k8,k9⟩:=xw h.one;have HI:=V h;clear h;have HG:=V (λo=>Fq w (cV #[p,q,y,z,C,F,k,H,d,g] 171) o);have a7:=V (aY w (cV #[p,q,y,z,C,F,k,H,d,g] 171));have R:=V (λo=>((Z.refl [] w).alloc (cV #[p,q,y,z,C,F,k,H,d,g] 171)).alloc o);have aa:=V ((Z.refl [] w).alloc (cV #[p,q,y,z,C,F,k,H,d,g] 171));simp only[dJ];have⟨x0,m0,c0,I⟩:=I;rw[I];clear I;have a6:=tH;have a0:=qG;have a1:=uO;have P:=oN;have a2:=oS underlying196;have⟨u,hlk,hu⟩:=SQ HI.out.stop n;have ab:=V hlk;have X:=hlk ((w.alloc (cV #[p,q,y,z,C,F,k,H,d,g] 171)).alloc (cV #[G a,G b,Y n,.slice x0 m0 c0] 196)) (R.out _);have gB:=HG.out (cV #[G a,G b,Y n,.slice x0 m0 c0] 196);have gT:=aY (w.alloc (cV #[p,q,y,z,C,F,k,H,d,g] 171)) (cV #[G a,G b,Y n,.slice x0 m0 c0] 196);have a4:=V (R.out (cV #[G a,G b,Y n,.slice x0 m0 c0] 196));obtain⟨W,U⟩:∃W,W=((w.alloc (cV #[p,q,y,z,C,F,k,H,d,g] 171)).alloc (cV #[G a,G b,Y n,.slice x0 m0 c0] 196)):=⟨_,rfl⟩;have hz:(w.alloc (cV #[p,q,y,z,C,F,k,H,d,g] 171)).heap.size=w.heap.size+1:=by simp
 rw[hz]at gT;have q6:W.cell? ⟨w.heap.size,6,none⟩=some k:=by rw[U,aN gB];rfl
 have q8:W.cell? ⟨w.heap.size,8,none⟩=some d:=by rw[U,aN gB];rfl
 have q9:W.cell? ⟨w.heap.size,9,none⟩=some g:=by rw[U,aN gB];rfl
 have qn:W.cell? ⟨w.heap.size+1,2,none⟩=some (Y n):=by rw[U,aN gT];rfl
 rw[<-U]at a4 X;have HW:=V U.symm;clear gB gT HG a7 R aa hlk U hz ab;have hr:dT sp ⟨a,b,.stop n,cU⟩=fh [rZ sp.stop n,sp.ik,sp.dy]:=rfl;have K:Hid (uU E.bm bB bD w _ [u,d,g]):=V (.cons hu (.cons HI.out.ik (.cons HI.out.dy (.nil))));have HR:=V hr;clear hr;have f5:=hu.fv;have f8:=HI.out.ik.fv;have f9:=HI.out.dy.fv;clear hu;go_enter func258,ntmps258;go_wp21;rw[HW.out];go_wp21;rw[X];clear X;rcases f5 with rfl|⟨k5,a5,l5,rfl⟩
 all_goals rcases f8 with rfl|⟨k8,a8,l8,rfl⟩
 all_goals rcases f9 with rfl|⟨k9,a9,l9,rfl⟩
 all_goals go_wp2_with fail
 all_goals refine(sC K.out (by simp) (by simp)).mono ?_
 all_goals rintro e w3⟨rfl,rfl⟩
 all_goals have a3:=V K.out.first
 all_goals simp only[ry]at a3|-
 all_goals go_wp2
 all_goals go_ret
 all_goals exact⟨_,rfl,HR.out▸a3.out,a4.out.alloc _⟩
def WB(E:Env)(bB bD a b:Nat)(s:O)(cU:iD)(sp:jz)(q u k y z C F H I p:cY)(w:J)(h:gW E.bm bB bD sp q u k y z C F H I p w):
  Calls prog 258 #[.agg #[q,u,k,y,z,C,F,H,I,p],dJ E ⟨a,b,.dl s,cU⟩] w λe w'=>∃v,e=dw v/\kV E.bm bB bD (dT sp ⟨a,b,.dl s,cU⟩) v w/\Z [] w w':=by
 have⟨k0,k1,k2,k3,k4,k5,k6,k7,k8,k9⟩:=xw h.one;have R:=V h;clear h;have HG:=V (λo=>Fq w (cV #[q,u,k,y,z,C,F,H,I,p] 171) o);have X:=V (aY w (cV #[q,u,k,y,z,C,F,H,I,p] 171));have P:=V (λo=>((Z.refl [] w).alloc (cV #[q,u,k,y,z,C,F,H,I,p] 171)).alloc o);have a0:=V ((Z.refl [] w).alloc (cV #[q,u,k,y,z,C,F,H,I,p] 171));simp only[dJ];have U:=tH;have g:=oS underlying197;have gB:=HG.out (cV #[G a,G b,Y s] 197);have a1:=V (P.out (cV #[G a,G b,Y s] 197));have q2:=aN gB 2;have q9:=aN gB 9;dsimp at q2 q9;clear gB HG X P a0;have d:Hid (uU E.bm bB bD w _ [k,p]):=V (.cons R.out.dl (.cons R.out.dy (.nil)));have f2:=R.out.dl.fv;have f9:=R.out.dy.fv;go_enter func258,ntmps258;rcases f2 with rfl|⟨k2,a2,l2,rfl⟩
 all_goals rcases f9 with rfl|⟨k9,a9,l9,rfl⟩
 all_goals go_wp21
 all_goals refine(sC d.out (by simp) (by simp)).mono ?_
 all_goals rintro e w3⟨rfl,rfl⟩
 all_goals have K:=V d.out.first
 all_goals simp only[ry]at K|-
 all_goals go_wp2
 all_goals go_ret
 all_goals exact⟨_,rfl,K.out,a1.out.alloc _⟩
def WC(E:Env)(bB bD a b:Nat)(n:O)(q:Bool)(cU:iD)(sp:jz)(y z C p F H I K P u:cY)(w:J)(h:gW E.bm bB bD sp y z C p F H I K P u w):
  Calls prog 258 #[.agg #[y,z,C,p,F,H,I,K,P,u],dJ E ⟨a,b,.dK n q,cU⟩] w λe w'=>∃v,e=dw v/\kV E.bm bB bD (dT sp ⟨a,b,.dK n q,cU⟩) v w/\Z [] w w':=by
 have⟨k0,k1,k2,k3,k4,k5,k6,k7,k8,k9⟩:=xw h.one;have X:=V h;clear h;have HG:=V (λo=>Fq w (cV #[y,z,C,p,F,H,I,K,P,u] 171) o);have a1:=V (aY w (cV #[y,z,C,p,F,H,I,K,P,u] 171));have U:=V (λo=>((Z.refl [] w).alloc (cV #[y,z,C,p,F,H,I,K,P,u] 171)).alloc o);have a2:=V ((Z.refl [] w).alloc (cV #[y,z,C,p,F,H,I,K,P,u] 171));simp only[dJ];have a0:=tH;have g:=qG;have k:=oS underlying199;have gB:=HG.out (cV #[G a,G b,Y n,.bool q] 199);have a4:=V (U.out (cV #[G a,G b,Y n,.bool q] 199));have q3:=aN gB 3;have q9:=aN gB 9;dsimp at q3 q9;clear gB HG a1 U a2;have d:Hid (uU E.bm bB bD w _ [p,u]):=V (.cons X.out.dK (.cons X.out.dy (.nil)));have f3:=X.out.dK.fv;have f9:=X.out.dy.fv;go_enter func258,ntmps258;rcases f3 with rfl|⟨k3,a3,l3,rfl⟩
 all_goals rcases f9 with rfl|⟨k9,a9,l9,rfl⟩
 all_goals go_wp21
 all_goals refine(sC d.out (by simp) (by simp)).mono ?_
 all_goals rintro e w3⟨rfl,rfl⟩
 all_goals have R:=V d.out.first
 all_goals simp only[ry]at R|-
 all_goals go_wp2
 all_goals go_ret
 all_goals exact⟨_,rfl,R.out,a4.out.alloc _⟩
def Leaves.k0{α:Type}{r:nh α}{d:(Nat->Nat)->α->cY}{e:Ending}(h:Leaves E f n w' r d e W)(q:Z [] w w'):Leaves E f n w r d e W:=by
 cases r with
 |ok a σ'=>have⟨g,h1,h2,h3,h4,h5⟩:=h;exact⟨g,h1,h2,h3,h4,(Fr.df q).trans h5⟩
 |stop c p=>have⟨k,h1,h2,h3⟩:=h;exact⟨k,h1,h2,(Fr.df q).trans h3⟩
 |stuck=>exact h
def aip(E:Env)(t:cR):Prop:=∀(bB bD:Nat)(d:jz)(g k p q u y z C F H:cY)(w:J),gW E.bm bB bD d g k p q u y z C F H w->
  Calls prog 258 #[.agg #[g,k,p,q,u,y,z,C,F,H],dJ E t] w λe w'=>∃v,e=dw v/\kV E.bm bB bD (dT d t) v w/\Z [] w w'
def jA(E:Env)(r:Ru)(t:cR)(m:M Unit):Prop:=∀v f σ w,RF E f σ w->kV E.bm E.bB (f 0) r v w->m σ≠ .stuck->
  ∃k bs e,v=.func (.func k) bs e/\(∀d w,(callFunc k d).run prog w=.ok (.enter k d) w)/\Calls prog k (bs++#[dJ E t]++e) w (Leaves E f σ.nodes.length w (m σ) uV)
def asM(d:Ru->cR->M Unit)(m:Nat)(t:cR):M Unit:=match tV[m]? with
 |some sp=>d (dT sp t) t
 |none=>stuck
theorem RF.Gu(h:RF E f σ w){m:Nat}{sp:jz}(K:tV[m]?=some sp):∃g k p q u y z F H I,gW E.bm E.bB (f 0) sp g k p q u y z F H I w/\
  (∀j,j<10->w.cell? ⟨E.bB,4+m*10+j,none⟩=[g,k,p,q,u,y,z,F,H,I][j]?):=by
 obtain⟨L,rfl,hr⟩:=h;have⟨cs,hcs,hlen,hru⟩:=hr.env.Gu;have⟨g,k,p,q,u,y,z,F,H,I,e,hi⟩:=hru m sp K;have P:m<18:=(List.getElem?_eq_some_iff.1 K).1;refine⟨g,k,p,q,u,y,z,F,H,I,?_,?_⟩
 .have d:=hr.fr.n E.bm;have U:∀{R:Option _} {v:cY},pF E.bm E.bB (L.dk 0) R v E.w0->pF E.bm E.bB (L.dk 0) R v w:=by
   intro R v h;cases R with
   |none=>exact h
   |some R=>have⟨b,hb⟩:=h;exact⟨b,hb.fr d (hr.fr.calm (.inl hb.at))⟩
  exact⟨hi.blank.fr d,hi.gz.fr d,hi.dl.fr d,hi.dK.fr d,hi.dD.fr d,U hi.start,U hi.stop,hi.fX.fr d,hi.ik.fr d,hi.dy.fr d⟩
 intro j X;have⟨C,hb,hC⟩:=hr.du;rw[aN hb,hC.low _ (by omega),<-e];grind
def ae5(E:Env)(C:Ru->cR->M Unit)(t:cR)(hO:aip E t)(hR:∀r,jA E r t (C r t))(m:Nat):eP E 165 (λ_=>#[Bp E,G m,dJ E t]) (asM C m t) uV:=by
 intro f σ w h q;unfold asM at q|-;cases hm:tV[m]? with
 |none=>rw[hm]at q;exact absurd rfl q
 |some sp=>
  rw[hm]at q;simp only[]at q|-;have H:m<18:=(List.getElem?_eq_some_iff.1 hm).1;have⟨v0,v1,v2,v3,v4,v5,v6,v7,v8,v9,hi,hc⟩:=h.Gu hm;have q0:w.cell? ⟨E.bB,4+m*10,none⟩=some v0:=hc 0 (by decide);have q2:w.cell? ⟨E.bB,4+m*10+2,none⟩=some v2:=hc 2 (by decide);have q8:w.cell? ⟨E.bB,4+m*10+8,none⟩=some v8:=hc 8 (by decide);have a1:=h.lt;have I:=hO _ _ _ _ _ _ _ _ _ _ _ _ _ w hi;have F:=(λv w' (u:Z [] w w') (z:kV E.bm E.bB (f 0) (dT sp t) v w)=>hR (dT sp t) v f σ w' (h.dB u) (z.fr (.df u)) q);generalize hZ:C (dT sp t) t σ=a2 at F|-;generalize dJ E t=tv at *;go_enter func165,ntmps165;go_wp21;refine I.mono ?_;rintro e w1⟨v,rfl,z,u⟩;obtain⟨k,bs,cs,rfl,a0,d⟩:=F v w1 u z;have R:=d.mono (λe W y=>y.k0 u);go_wp21;refine R.mono ?_;intro e W y;cases a2 with
  |ok a σ'=>
   obtain⟨g,U,X,rfl,h4,h5⟩:=y;go_wp2;go_end0;exact(V ⟨g,U,X,rfl,h4,h5⟩)
  |stop c p=>
   obtain⟨j,rfl,K,P⟩:=y;go_wp2;exact⟨rfl,nk rfl K P⟩
  |stuck=>exact y.elim
def mx(rec:Nat->cR->M Unit)(t:cR):M Unit:=match t.k with
 | .lost=>Pure.pure ()
 |_=>λσ=>if σ.behind&&ir t.chars xE then .ok () {σ with behind:=false,dk:=t.a} else gh rec t {σ with behind:=false,dk:=t.a}
def ac9(s:O):ir s xE=(s.toList==[10]):=by
 simp[ir]
def Rv(a b:Int)(w:J):Calls prog 430 #[.agg #[G a,G b]] w λe w'=>e=dw (.tuple #[G a,G b])/\Z [] w w':=by
 go_enter func430,ntmps430;go_wp21;go_region
 all_goals (try go_wp2)
 all_goals (try go_ret2)
 all_goals exact⟨rfl,((Z.refl [] w).alloc _).drew⟩
theorem wP(E:Env)(rec:Nat->cR->M Unit)(hA:∀(m:Nat)(t:cR),eY E t->eP E 165 (λ_=>#[Bp E,G m,dJ E t]) (rec m t) uV)(t:cR)(ht:eY E t)(hk:t.k≠ .lost)(u:dJ E t=.iface T v)(hT:T≠189)
  (K:∀w,(Go.method 496 T v "Bytes").run prog w=.ok (430,.agg #[G t.a,G t.b]) w):eP E 51 (λ_=>#[Bp E,dJ E t]) (mx rec t) uV:=by
 have F:=V (rN E rec hA t ht);intro f σ w h U;obtain⟨R,g⟩:∃R,R=mx rec t σ:=⟨_,rfl⟩;rw[<-g]at U|-;replace g:=g.trans (show mx rec t σ=if σ.behind&&ir t.chars xE then .ok () {σ with behind:=false,dk:=t.a} else gh rec t {σ with behind:=false,dk:=t.a} by
  grind[mx])
 have HS:=V U;have H:=V (At.start h);have c1:=H.out.acy;have a0:=h.lt;have f1:=H.out.free 198;have f2:=H.out.free 197;have c2:=H.out.Vf;have I:=λw=>xQ E t w;simp only[u]at I F|-;have y:=λ(v:cY) (xT:TypeId) (w:J)=>KS (z:=.agg #[G 0,G 0]) underlying189 rfl hT v xT w;have X:=V I;clear h U I u ht hk hT;have K1:Hid (∀o,Z [] w (w.alloc o)):=V (λo=>(Z.refl [] w).alloc o);have C:=V (λw=>Rv (t.a:Int) (t.b:Int) w);replace H:=V ((H.out.qw false).k0 ((Z.refl [] _).alloc (cV #[G 0,G 0] 189)));cases hb:σ.behind with
 |false=>
  have p:R=(gh rec t>>=λ_=>(Pure.pure ():M Unit)) {σ with behind:=false,dk:=t.a}:=by rw[g,hb,M.bind_pure];rfl
  have k:=V p;rw[hb]at c1;clear g p hb K1;go_enter func51,ntmps51;go_wp21;refine(C.out _).mono ?_;rintro e w1⟨rfl,d⟩;replace H:=V (H.out.k0 d);clear d;have c3:=H.out.Vf;have f3:=H.out.free 197;have l3:=H.out.lt;replace H:=V (H.out.B8 t.a);go_wp21;refine dC (F.out) H k HS rfl lT ?_;clear H k;rintro(_) f σ w H HX HF k;go_wp2;go_end0;exact cE k.out H.out rfl
 |true=>
  rw[hb]at c1 g;simp only[Bool.true_and]at g;clear hb K1;cases hn:ir (cR.chars t) xE with
  |false=>
   rw[hn]at g;have p:R=(gh rec t>>=λ_=>(Pure.pure ():M Unit)) {σ with behind:=false,dk:=t.a}:=by rw[g,M.bind_pure];rfl
   have k:=V p;have P:=(ac9 (cR.chars t)).symm.trans hn;clear g p hn;go_enter func51,ntmps51;go_wp21;refine(C.out _).mono ?_;rintro e w1⟨rfl,d⟩;replace H:=V (H.out.k0 d);clear d;have c3:=H.out.Vf;have f3:=H.out.free 197;have l3:=H.out.lt;replace H:=V (H.out.B8 t.a);go_wp21;refine(X.out _).mono ?_;rintro e w2⟨rfl,q⟩;replace H:=V (H.out.k0 q);clear q;go_wp21;refine dC (F.out) H k HS rfl lT ?_;clear H k;rintro(_) f σ w H HX HF k;go_wp2;go_end0;exact cE k.out H.out rfl
  |true=>
   rw[hn]at g;simp only[]at g;have k:=V g;have P:=(ac9 (cR.chars t)).symm.trans hn;clear g hn;go_enter func51,ntmps51;go_wp21;refine(C.out _).mono ?_;rintro e w1⟨rfl,d⟩;replace H:=V (H.out.k0 d);clear d;have c3:=H.out.Vf;have f3:=H.out.free 197;have l3:=H.out.lt;replace H:=V (H.out.B8 t.a);go_wp21;refine(X.out _).mono ?_;rintro e w2⟨rfl,q⟩;replace H:=V (H.out.k0 q);clear q;go_wp2;go_end0;exact cE k.out H.out rfl
def Qd(t:cR)(σ:N):mU t σ=(uA [dq] 13 t>>=λ_=>(do fC none;return ():M Unit)) σ:=by
 unfold mU uA;rw[M.cH,M.cH,M.cH];cases oB _ σ with
 |ok a σ1=>
  simp only;rw[M.cH,M.cH];cases dZ t σ1 with
  |ok a σ2=>rfl
  |stop c p=>rfl
  |stuck=>rfl
 |stop c p=>rfl
 |stuck=>rfl
def T4(E:Env)(t:cR)(ht:eY E t):eP E 137 (λ_=>#[Bp E,dJ E t]) (mU t) uV:=by
 intro f σ w h HS;obtain⟨R,g⟩:∃R,R=mU t σ:=⟨_,rfl⟩;rw[<-g]at HS|-;rw[Qd]at g;have H:=At.start h;have d:=V g;have X:=Go.Proofs.enters_of func218 (by rfl) rfl;clear g;go_enter func137,ntmps137;go_wp21;refine(YQ E _).mono ?_;rintro e w⟨k1,a0,rfl,k,y⟩;replace H:=H.k0 y;go_wp21;refine(N8 E.bm E.bB 0 [dq] 13 _ _ k).mono ?_;rintro e w⟨⟨v,rfl,K,P,U,u,rfl,mq,p,C,q⟩,hk⟩;obtain⟨k2,z,rfl,_,_⟩:=C.call;replace H:=H.k0 hk;have F:=(λhm=>Gy E t ht [dq] 13 K P U k2 z H.rel hm mq p C q);go_wp21;refine dcH (F) H d HS lT ?_;rintro(_) f σ w H HX I d;go_wp21;refine mC (zi E) H d HS rfl lT ?_;rintro(_) σ w H I d;go_wp2;go_end0;exact cE d H rfl
def ajW:(prog.info? 124).map (λi=>(i.zero,i.size,i.bytes))=some (some .nilIface,1,16):=by kernel_rfl
theorem Rel.amf(h:Rel E L σ w){C:fN}(q:fy E L σ C)(v':cY)(k:List (Nat×Nat×O))(e:w'.heap[E.bB]?=some (cV (C.setIfInBounds 194 v') 179))(d:KT E.bs [179,124] w w')(g:w'.ownsRow E.bs 124 1 v' k.length (k.map O1))(p:k.length<=4096)(y:E.wv=none):Rel E {L with wv:=v'} {σ with waiting:=k} w':=
 {fr:=h.fr.trans (d.fr (by decide))
  env:=h.env
  Dz:=h.Dz
  qH:=λi z u=>((h.qH i z u).kt d (by decide)).loc rfl rfl rfl
  inj:=h.inj,Ar:=h.Ar,Ge:=h.Ge,uq:=h.uq,Eg:=h.Eg
  wf:=⟨h.wf.cC,h.wf.act,h.wf.head,h.wf.form,h.wf.ff,h.wf.kids,h.wf.rU⟩
  du:=⟨_,e,q.aeT v' k⟩
  ng:=d.row h.ng (by decide)
  oh:=d.row h.oh (by decide)
  Ic:=h.Ic,vu:=h.vu,Ep:=h.Ep
  mY:=g
  MF:=p
  rd:=d.at h.rd (by decide)
  TR:=h.TR
  tok:=d.row h.tok (by decide)
  Lq:=h.Lq,bz:=h.bz,bB:=h.bB,bR:=h.bR,bN:=h.bN,zd:=h.zd,ab:=h.ab,tb:=h.tb,ME:=λv F=>by grind}
theorem Wi(E:Env)(a5:E.wv=none)(t:cR):eP E 130 (λ_=>#[Bp E,dJ E t]) (jB t) uV:=by
 intro f σ w h I;have⟨a,b,k,cU⟩:=t;cases k with
 |gz s=>
  have K:=JH E ⟨a,b,.gz s,cU⟩ w;cases hn:rD s with
  |true=>
   have hm:jB ⟨a,b,.gz s,cU⟩ σ=.ok () σ:=by unfold jB;simp only;rw[hn];rfl
   rw[hm];have y:rD (cR.chars ⟨a,b,.gz s,cU⟩)=true:=hn;rw[y]at K;have H:=At.start h;clear y;go_enter func130,ntmps130;go_wp21;refine K.mono ?_;rintro e w⟨rfl,g⟩;replace H:=H.k0 g;go_wp2;go_end0;grind[cE]
  |false=>
   have a0:σ.waiting.length<4096:=by
    by_cases hl:σ.waiting.length<4096;exact hl;grind[jB]
   have hm:jB ⟨a,b,.gz s,cU⟩ σ=.ok () {σ with waiting:=σ.waiting++[(a,b,s)]}:=by unfold jB;simp only;rw[hn];simp[a0]
   rw[hm];have y:rD (cR.chars ⟨a,b,.gz s,cU⟩)=false:=hn;rw[y]at K;obtain⟨L,rfl,HR⟩:=h;clear y;rw[show dJ E ⟨a,b,.gz s,cU⟩=.iface 187 (.agg #[G a,G b,Y s])from rfl]at K|-;go_enter func130,ntmps130;go_wp21;refine K.mono ?_;rintro e w0⟨rfl,g⟩;have hr:=HR.dB g;have HF:=Fr.df (bs:=E.bs) g;have c1:=hr.af8;have ab:=hr.lt;have⟨C,HBB,y⟩:=hr.du;obtain⟨i0,hi,a6,a7,a8⟩:=rQ ajW;have⟨ao,cap,hwv⟩:=cP hr.mY;rw[hwv]at c1;have R:Z [] w0 (w0.alloc (cV #[O1 (a,b,s)] 124)):=(Z.refl _ _).alloc _;have HO:=R.ownsRow hr.mY (λ_ _=>by simp);rw[hwv]at HO;have a4:(Value.slice ao σ.waiting.length cap).ownBlock≠some E.bB:=by rw[<-hwv];exact BW hr.mY HBB (by decide)
   have a3:=V (aY w0 (cV #[O1 (a,b,s)] 124));have p:=V hr;have P:=V y;have U:=V hwv;clear hr y hwv;go_wp2_with (at_builtin;refine fw _ rfl _ _ 177 rfl E.bs 124 i0 .nilIface 1 16 underlying177 hi a6 a7 a8 rfl (by decide) (.slice ao σ.waiting.length cap) σ.waiting.length (σ.waiting.map O1) rfl HO ⟨w0.heap.size,0,none⟩ 1 1 [O1 (a,b,s)] rfl rfl (λk u hu=>by rw[eL,aN a3.out,<-hu];simp) (λu hu=>by simp at hu;subst hu;rfl) (by unfold maxLen;omega) (by omega) (by have h7:=p.bz;have h8:=p.fr.size;simp;omega) ?_);intro v' w2 d z a9;have K2:Z (Value.slice ao σ.waiting.length cap).ownBlock.toList w0 w2:=(R.mono (by simp)).grown z (λk g=> .inl (by rw[g];simp));have X:w2.heap[E.bB]?=some (cV C 179):=K2.at HBB (by grind);have⟨ao',cap',hv⟩:=cP d;subst hv;have d1:w2.cell? ⟨E.bB,194,none⟩=some (.slice ao σ.waiting.length cap):=by rw[aN X,P.out.wait,U.out]
   have d2:=cQ X 194;have aa:=eS X;have h3:=bJ X 194 (.slice ao' (σ.waiting.length+1) cap');have a1:(Value.slice ao' (σ.waiting.length+1) cap').ownBlock≠some E.bB:=BW d X (by decide);have h4:=xC (a:=⟨E.bB,194,none⟩) d a1 (.slice ao' (σ.waiting.length+1) cap');have h5:Z (E.bB::(Value.slice ao σ.waiting.length cap).ownBlock.toList) w0 (w2.setCell ⟨E.bB,194,none⟩ (.slice ao' (σ.waiting.length+1) cap')):=(K2.mono (λk g _=>io _ g)).setCell (.inl (by simp)) _;have kt:KT E.bs [179,124] w0 (w2.setCell ⟨E.bB,194,none⟩ (.slice ao' (σ.waiting.length+1) cap')):=.fS h5 (λk g _=>by
    rcases List.mem_cons.1 g with rfl|g;grind[Rel.bB];have F:=p.mY;rw[U.out]at F;obtain⟨c,m,hc⟩:=qd F (by simpa using g);exact⟨⟨_,_,_,hc,by simp⟩,(F.lt k (by grind)).1⟩)
   have HZ:=p.amf P (.slice ao' (σ.waiting.length+1) cap') (σ.waiting++[(a,b,s)]) h3 kt (by grind) (by simp;omega) a5;have a2:=HF.trans (kt.fr (by decide));go_wp2;go_end0;exact⟨L.dk,λ_ _=>rfl,dr _,rfl,⟨{L with wv:=.slice ao' (σ.waiting.length+1) cap'},rfl,HZ⟩,a2⟩
 |start s=>exact absurd rfl I
 |stop s=>exact absurd rfl I
 |dl s=>exact absurd rfl I
 |dK s q=>exact absurd rfl I
 |lost=>exact absurd rfl I
 |dD=>exact absurd rfl I
def MI{α:Type}(n:Nat)(P:Program)(g:Nat)(u:fN)(k:α->fN)(Kp:J->J->Prop)(S Sp:List α->Prop)(y:Nat)(w:J):Prop:=
 ∀(l:Nat)(J3 p:List α->J->Prop)(W:J),Below w.heap.size w W->OwnFrom W.heap.size J3->OwnFrom W.heap.size p->
  (∀pre x d,J3 pre d->pre.length<y->YieldAt Fence.wide (n-1) P l (k x) d λe W'=>(e=dw (.bool true)/\J3 (pre++[x]) W'/\Kp d W'/\KeepsFrom W.heap.size d W')\/(e=dw (.bool false)/\p (pre++[x]) W'/\KeepsFrom W.heap.size d W'))->
  J3 [] W->CallsIn Fence.wide n P g (#[.func (.yield l) #[] #[]]++u) W λe W'=>(∃v,e=dw v)/\((∃q,S q/\J3 q W')\/(∃pre,Sp pre/\p pre W'))
theorem Kf{A B:J}{row:eG}{d k:Nat}(hg:A.grownBy B row)(hr:∀r,row=some r->d<=r/\∃o:Obj,A.heap[r]?=some o/\o.isCells=false)(h:A.heap[k]?=some o)(g:k<d):B.heap[k]?=some o:=
 (hg.block k (Array.getElem?_eq_some_iff.1 h).1 (λe=>by grind)).trans h
theorem sW{d:J}(p:l<b)(h:KeepsFrom (l-1) (W.putObj l o) d):KeepsFrom b W (d.putObj l o'):=by
 refine⟨?_,λk q g u e=>?_⟩;have:=h.size;simp_all;grind[World.putObj_heap_other,KeepsFrom.same]
theorem UG{α:Type}{P:Program}{g:Operand}{ps:Array Tmp}{Q:Exit->Act->J->Prop}
  (h1:1<=n) {gf:Nat} {lb:fN} (hg:a.eval g=.func (.func gf) #[] lb) (eg:∀a5 w,(callFunc gf a5).run P w=.ok (.enter gf a5) w)
  {z:α->fN} {Kp:J->J->Prop} {S Sp:List α->Prop} {ar:Nat} (ae:MI (n-1) P gf lb z Kp S Sp ar w0)
  (ab:∀{A B C:J},Kp A B->Kp B C->Kp A C) (aa:∀(W:J)(l:Nat)(o o':Obj),w.heap.size<=l->W.heap[l]?=some o->o.isCells=false->o.isWalk=false->Kp W (W.putObj l o')) (ac:Below w0.heap.size w0 w) (ap:∀x,(z x).size=ps.size)
  (I:List α->J->Prop) (Ix:Code->List α->J->Prop) (hI:OwnFrom w.heap.size I) (a0:∀c,OwnFrom w.heap.size (Ix c)) (h0:I [] w) (a6:α->Act)
  (a1:∀(l:Nat)(x:α)(W:J)(K:Act->J->Prop),K (a6 x) W->assign.wpIn (Fence.wide.inRound l) (n-1-1) P (Exit.then K (λ_ _ _=>False)) {tmps:=(ps.zip (z x)).foldl (λt (p,v)=>t.setIfInBounds p v) a.tmps,defers:=[]} W)
  (a7:∀(l:Nat)(pre:List α)(x:α)(W:J),I pre W->pre.length<ar->body.wpIn (Fence.wide.inRound l) (n-1-1) P (ownPostG w.heap.size Kp I Ix (pre++[x]) W) (a6 x) W)
  (a8:∀(D:Nat)(xs:List α)(W:J),w.heap.size<=D->S xs->I xs W->W.heap[D]?=some (.deferred (some []))->Q .normal {a with defers:={target:=.collected D,args:=#[]}::a.defers} W)
  (a9:∀(D:Nat)(c:Code)(pre:List α)(W:J),w.heap.size<=D->Sp pre->Ix c pre W->W.heap[D]?=some (.deferred (some []))->c.wpIn Fence.wide n P Q {a with defers:={target:=.collected D,args:=#[]}::a.defers} W):
  (Code.rangeFunc g ps assign body).wpIn Fence.wide n P Q a w:=by
 refine Ld ?_;intro fn aj;obtain⟨k,u⟩:∃k:LoopState->Option Code->Loop,k=λst pe=>{state:=st,pending:=pe,fn,tmps:=a.tmps,params:=ps,assign,body,defers:=w.heap.size}:=⟨_,rfl⟩;obtain⟨R,F⟩:∃R,(w.alloc (.deferred (some []))).alloc (.loop (k .ready none))=R:=⟨_,rfl⟩;have aq:R.heap.size=w.heap.size+2:=by rw[<-F];simp
 have ah:R.heap[w.heap.size+1]?=some (.loop (k .ready none)):=by
  rw[<-F];have:=QE (w.alloc (.deferred (some []))) (.loop (k .ready none));rwa [xD]at this
 have ag:R.heap[w.heap.size]?=some (.deferred (some [])):=by
  rw[<-F];exact(Below.heap_alloc _ _ _ (by simp)).trans (QE w _)
 have af:I [] R:=by rw[<-F];exact hI.alloc _ (hI.alloc _ h0)
 have mq:Below w0.heap.size w0 R:=by
  rw[<-F];exact ac.trans ((((Below.refl _ w).alloc (dr _) _).alloc (by simp) _).mono ac.size)
 refine⟨w.heap.size+1,[{target:=.collected w.heap.size,args:=#[]}],R,{target:=.fn (.func gf) lb,args:=#[.func (.yield (w.heap.size+1)) #[] #[]]},R,gf,
  #[.func (.yield (w.heap.size+1)) #[] #[]]++lb,R,?_,?_,?_,?_,λ_=>h1,?_⟩
 rw[<-F,u];exact Cg _ _ _ _ _
 .simp only[resolve,hg];simp[go_sem]
 intro f' ao;trivial
 .simp[invoke,go_sem,eg]
 have lo:∀{A B:J} {row:eG},(∀r,row=some r->R.heap.size<=r/\∃o:Obj,A.heap[r]?=some o/\o.isCells=false)->(∀r,row=some r->w.heap.size<=r/\∃o:Obj,A.heap[r]?=some o/\o.isCells=false):=
  λhr r e=>⟨by grind,(hr r e).2⟩
 refine(ae (w.heap.size+1)
  (λpre W=>I pre W/\W.heap[w.heap.size+1]?=some (.loop (k .ready none))/\W.heap[w.heap.size]?=some (.deferred (some [])))
  (λpre W=>∃c,Ix c pre W/\W.heap[w.heap.size+1]?=some (.loop (k .done (some c)))/\W.heap[w.heap.size]?=some (.deferred (some [])))
  R mq
  (λs A B row hs y hr=>⟨hI s A B row hs.1 y (lo (B:=B) hr),Kf y hr hs.2.1 (by omega),Kf y hr hs.2.2 (by omega)⟩)
  (λs A B row hs y hr=>by
   have⟨c,hc,H,hk⟩:=hs;exact⟨c,a0 c s A B row hc y (lo (B:=B) hr),Kf y hr H (by omega),Kf y hr hk (by omega)⟩)
  ?_ ⟨af,ah,ag⟩).mono ?_
 .rintro pre x W⟨hi,H,hk⟩ ad;have am:w.heap.size+1<W.heap.size:=(Array.getElem?_eq_some_iff.1 H).1;have hy:=run_yield (P:=P) (args:=z x) H (by grind);rw[u]at hy;refine⟨fn,_,assign,body,hy,roundIn_of_wpIn aj (a1 _ x W _ ?_)⟩;refine⟨_,run_beginRound H (by rw[u]),?_⟩;have al:(W.putObj (w.heap.size+1) (.loop {k .ready none with state:=.busy})).heap[w.heap.size+1]?=some (.loop {k .ready none with state:=.busy}):=QF am;have ak:(W.putObj (w.heap.size+1) (.loop {k .ready none with state:=.busy})).heap[w.heap.size]?=some (.deferred (some [])):=(rR (by omega)).trans hk;have an:Kp W (W.putObj (w.heap.size+1) (.loop {k .ready none with state:=.busy})):=aa _ _ _ _ (by omega) H rfl rfl;refine akP (a7 _ pre x _ (hI.putObj _ hi (by omega) H rfl) ad) ?_;have a4:∀(d:Option Code)(U:J),KeepsFrom w.heap.size (W.putObj (w.heap.size+1) (.loop {k .ready none with state:=.busy})) U->
    (Instr.endRound (w.heap.size+1) d).run P U=.ok (.bool d.isNone) (U.putObj (w.heap.size+1) (.loop (k (if d.isNone then .ready else .done) d)))/\
    U.heap[w.heap.size+1]?=some (.loop {k .ready none with state:=.busy})/\
    (U.putObj (w.heap.size+1) (.loop (k (if d.isNone then .ready else .done) d))).heap[w.heap.size+1]?=some (.loop (k (if d.isNone then .ready else .done) d))/\
    (U.putObj (w.heap.size+1) (.loop (k (if d.isNone then .ready else .done) d))).heap[w.heap.size]?=some (.deferred (some [])):=λd U a2=>by
   have q:=a2.same _ _ (by omega) al rfl;have:=run_endRound (P:=P) d q;rw[u]at this|-;exact⟨this,by grind,QF (Array.getElem?_eq_some_iff.1 q).1,(rR (by omega)).trans (a2.same _ _ (dr _) ak rfl)⟩
  rintro e a3 U X;cases e with
  |normal=>
   have⟨a2,hkp3,hi3⟩:=X;have⟨hr,q,hl4,hk4⟩:=a4 none U a2;exact⟨_,_,hr,.inl ⟨rfl,⟨hI.putObj _ hi3 (by omega) q rfl,hl4,hk4⟩,ab (ab an hkp3) (aa _ _ _ _ (by omega) q rfl rfl),sW (by omega) a2⟩⟩
  |ret=>
   have⟨hr,q,hl4,hk4⟩:=a4 (some .ret) U X.1;exact⟨_,_,hr,.inr ⟨rfl,⟨.ret,(a0 _).putObj _ X.2 (by omega) q rfl,hl4,hk4⟩,sW (by omega) X.1⟩⟩
  |exit id=>
   have⟨hr,q,hl4,hk4⟩:=a4 (some (.exit id)) U X.1;exact⟨_,_,hr,.inr ⟨rfl,⟨.exit id,(a0 _).putObj _ X.2 (by omega) q rfl,hl4,hk4⟩,sW (by omega) X.1⟩⟩
  |goto t=>
   have⟨hr,q,hl4,hk4⟩:=a4 (some (.goto t)) U X.1;exact⟨_,_,hr,.inr ⟨rfl,⟨.goto t,(a0 _).putObj _ X.2 (by omega) q rfl,hl4,hk4⟩,sW (by omega) X.1⟩⟩
  |panic ch=>exact X.elim
  |outgrown=>exact X.elim
 rintro e W2⟨⟨v,rfl⟩,(⟨xs,hS,hi,H,hk⟩|⟨pre,ai,c,hi,H,hk⟩)⟩;exact⟨none,_,by have:=Le (P:=P) H (by grind);rw[u]at this;exact this,a8 _ xs _ (dr _) hS (hI.putObj _ hi (by omega) H rfl) ((rR (by omega)).trans hk)⟩;exact⟨some c,_,by have:=Le (P:=P) H (by grind);rw[u]at this;exact this,a9 _ c pre _ (dr _) ai ((a0 c).putObj _ hi (by omega) H rfl) ((rR (by omega)).trans hk)⟩
section
attribute [local go_sem] Oper.semAt_some
attribute [local go_sem] oq
attribute [local simp] oq
def AC:gZ->List Nat
 |[]=>[]
 |none::_=>[]
 |some i::r=>i::AC r
def KC(T:List Nat)(W W':J):Prop:=W.heap.size<=W'.heap.size/\∀(k:Nat)(c:fN)(t:TypeId)(m:Nat×Nat),k∉T->W.heap[k]?=some (.cells c t m)->W'.heap[k]?=some (.cells c t m)
theorem KC.trans{T:List Nat}{A B C:J}(h:KC T A B)(k:KC T B C):KC T A C:=⟨fK h.1 k.1,λi c t m d e=>k.2 i c t m d (h.2 i c t m d e)⟩
def KC.put{T:List Nat}(W:J)(l:Nat)(o o':Obj)(d:W.heap[l]?=some o)(p:o.isCells=false):KC T W (W.putObj l o'):=
 ⟨by simp,λk c t m _ g=>(rR (λe=>by subst e;rw[g]at d;cases d;cases p)).trans g⟩
def aa9{m p k:Nat}{P:Program}{f:FuncId}{e:fN}{R:Ending->J->Prop}(h:RoundIn Fence.wide m P l f e assign body w R):RoundIn (Fence.wide.inRound k) p P l f e assign body w R:=⟨h.1,λc g _=>h.2 c g (λd h=>by cases h)⟩
def X1{ys:gZ}:∀{d:List Nat},d.map some <+:ys->d <+:AC ys
 |[],_=>List.nil_prefix
 |p::d,h=>by
  have⟨r,hr⟩:=h;subst hr;exact(List.prefix_cons_inj p).2 (X1 ⟨r,rfl⟩)
def XY:∀{d:List Nat},AC (d.map some)=d
 |[]=>rfl
 |p::d=>by show p::AC _=_;rw[XY]
def Rq{r:gZ}:∀{d:List Nat},AC (d.map some++none::r)=d
 |[]=>rfl
 |p::d=>by show p::AC (d.map some++none::r)=_;rw[Rq]
theorem acq(m:Nat)(hm:5<=m)(base bB:Nat)(tB:TypeId)(C:fN)(v:cY)(xs:gZ)(s:Nat)(T:List Nat)(w:J)(h:uX base bB 189 tB C v xs w)
  (hs:w.heap[s]?=some (cV #[cW bB] 120)) (hT:∀k∈T,k≠bB/\v.ownBlock≠some k/\k<w.heap.size):
  MI m prog 346 #[cW s] (λx:{x:Nat // some x∈xs}=>#[ig (some x.1)]) (KC T) (λys=>ys.map (·.1)=AC xs.reverse) (λpre=>pre.map (·.1) <+:AC xs.reverse) xs.length w:=by
 intro l J3 Jx W hB HJ a8 HY H0;have ac:=eS h.du;have L1:uX base bB 189 tB C v xs W:=by
  refine h.EP (K:=bB::v.ownBlock.toList) (λk d=>hB.block k ?_) (by simp) (λk d=>by simp[d]);rcases List.mem_cons.1 d with rfl|d;exact ac;exact(h.row.lt k (by grind)).2
 have aq:=eS hs;have af:=(hB.block s aq).trans hs;have ae:w.heap.size<=W.heap.size:=hB.size;have ao:bB<W.heap.size:=kL ac ae;obtain⟨u,P⟩:∃u,u=W.alloc (cV #[.func (.yield l) #[] #[]] 285):=⟨_,rfl⟩;have a9:Z [] W u:=by rw[P];exact(Z.refl [] W).alloc _
 have ai:u.heap[W.heap.size]?=some (cV #[.func (.yield l) #[] #[]] 285):=by rw[P];exact aY W _
 have z1:u.heap.size=W.heap.size+1:=by rw[P];simp
 have HL:uX base bB 189 tB C v xs u:=L1.EP (ib.fS (K:=bB::v.ownBlock.toList) a9 (λk d=>⟨by
  rcases List.mem_cons.1 d with rfl|d;exact ao;exact(L1.row.lt k (by grind)).2,by simp⟩)) (by simp) (λk d=>by simp[d])
 have c1:(W.alloc (cV #[.func (.yield l) #[] #[]] 285)).cell? ⟨s,0,none⟩=some (cW bB):=by rw[<-P,aN (a9.at af (by simp))];rfl
 have HU:=aaA base bB 189 tB C v xs u HL;refine vG func346 rfl trivial ?_ rfl;simp only[ntmps346,vI,sg,tX,Nat.reduceAdd,Nat.reduceSub,vJ,vK,vL,vM,tw,oW];have HW:=V P.symm;have HZ:=V z1;have HT:=hT;clear P z1 L1 af h hB hs
 gi_wp2_with fail
 rw[HW.out];refine⟨λ_=>by omega,(callsIn_wide.2 HU).mono ?_⟩;rintro e w'⟨rfl,rfl⟩;gi_wp2;have al:=HL;obtain⟨z,a2⟩:∃z,z=jR bB 189 (xs.length:Int) u:=⟨_,rfl⟩;have k2:Z [] u z:=by rw[a2];exact((Z.refl _ _).alloc _).alloc _
 have ar:z.heap.size=u.heap.size+2:=by rw[a2];simp
 have a0:uX base bB 189 tB C v xs z:=HL.EP (ib.fS (K:=bB::v.ownBlock.toList) k2 (λk d=>⟨by
  rcases List.mem_cons.1 d with rfl|d;grind;exact(HL.row.lt k (by simpa using d)).2,by simp⟩)) (by simp) (λk d=>by simp[d])
 have⟨b0,b1⟩:=(⟨(Below.heap_alloc _ _ _ (by simp)).trans (aY u _),by
   have:=aY (u.alloc (cV #[fR bB 189] 276)) (cV #[G xs.length] 3);simp_all⟩:(jR bB 189 (xs.length:Int) u).heap[u.heap.size]?=some (cV #[fR bB 189] 276)/\(jR bB 189 (xs.length:Int) u).heap[u.heap.size+1]?=some (cV #[G xs.length] 3))
 rw[<-a2]at b0 b1|-;have aw:=HZ.out;have gY:=k2.at ai (by simp);obtain⟨K,hK⟩:∃K,K=bB::u.heap.size::v.ownBlock.toList:=⟨_,rfl⟩;have ab:∀k∈K,k<z.heap.size/\k∉T/\∃c t m,z.heap[k]?=some (.cells c t m):=by
  intro k d;rw[hK]at d;rcases List.mem_cons.1 d with rfl|d;exact⟨eS a0.du,λe=>(HT _ e).1 rfl,_,_,_,a0.du⟩;rcases List.mem_cons.1 d with rfl|d;grind;have ap:v.ownBlock=some k:=by simpa using d
  have⟨c,m',hc⟩:=qd a0.row ap;grind
 have au:=UB (m-1) (by omega) base bB 189 tB C v xs xs.length u.heap.size K z a0 (dr _) (by rw[hK];simp) (by rw[hK];simp) (by grind) (by omega) b1 b0;have az:∀k∈T,k<W.heap.size:=λk d=>kL (HT k d).2.2 ae;have a4:=V ab;have a6:=(show z.heap.size=W.heap.size+1+2 by omega);have ay:J3 [] z:=by
  have U:J3 [] u:=HJ [] W u none H0 (by rw[<-HW.out];exact World.grownBy_alloc W _ none) (λr e=>by cases e);rw[a2];refine HJ [] (u.alloc _) _ none ?_ (World.grownBy_alloc _ _ none) (λr e=>by cases e);exact HJ [] u _ none U (World.grownBy_alloc _ _ none) (λr e=>by cases e)
 clear hK b0 b1 HU HL al a0 k2 a2 ab c1 ar aw;obtain⟨I,hI⟩:∃I:List {x:eG // x∈xs}->J->Prop,I=(λzs W'=>z.heap.size<=W'.heap.size/\ib K z W'/\W'.heap[W.heap.size]?=some (cV #[.func (.yield l) #[] #[]] 285)/\∃g:List {x:Nat // some x∈xs},zs.map (·.1)=g.map (λp=>some p.1)/\J3 g W'):=⟨_,rfl⟩;obtain⟨Ix,aa⟩:∃Ix:Code->List {x:eG // x∈xs}->J->Prop,Ix=(λc zs W'=>c=.ret/\((∃g:List {x:Nat // some x∈xs},zs.map (·.1)=g.map (λp=>some p.1)++[none]/\J3 g W')\/(∃g:List {x:Nat // some x∈xs},zs.map (·.1)=g.map (λp=>some p.1)/\Jx g W'))):=⟨_,rfl⟩;have HI:=V hI;have a3:=V aa;clear hI aa;refine wpIn_rangeFunc_ownG rfl (by omega) (gf:=351) rfl trivial (Go.Proofs.enters_of func351 (by rfl) rfl) au ib.trans (λW l o o' hl U X h3=>ib.put (w:=z) (λk d=>(a4.out k d).1) W l o o' hl U X h3) (Below.refl _ _) (λ_=>rfl)
  I Ix
  ?_ ?_ ?_ (λx=>{tmps:=#[.func (.yield l) #[] #[],cW s,cW W.heap.size,ig x.1,cW bB,cW bB,fR bB 189,tr u.heap.size,ig x.1,undef,undef,undef,undef,undef,undef,undef,undef],defers:=[]}) ?assign ?body ?done ?stop
 rw[HI.out];rintro zs A B row⟨U,X,h3,g,h4,h5⟩ hg hr;have hz:=a6;refine⟨fK U hg.size,λk d=>?_,Kf hg hr h3 (by omega),g,h4,HJ g A B row h5 hg (λr e=>⟨by grind,(hr r e).2⟩)⟩;rw[hg.block k (kL (a4.out k d).1 U) (λe=>by have:=(hr k e.symm).1;have:=(a4.out k d).1;omega)];exact X k d;rw[a3.out];rintro c zs A B row⟨U,X⟩ hg hr;have hz:=a6;refine⟨U,X.imp (λ⟨g,h4,h5⟩=>⟨g,h4,HJ g A B row h5 hg (λr e=>⟨by grind,(hr r e).2⟩)⟩) (λ⟨g,h4,h5⟩=>⟨g,h4,a8 g A B row h5 hg (λr e=>⟨by grind,(hr r e).2⟩)⟩)⟩;rw[HI.out];grind[ib]
 case assign=>
  intro l2 x W' KK an;gi_wp2;exact an
 case body=>
  rintro l2 pre⟨x,hx⟩ W' y ax;rw[HI.out]at y;have⟨hz,hkb,hbx,g,q,hj⟩:=y;have cy:=aN hbx 0;dsimp at cy;cases x with
  |none=>
   have HP:=V q;have ak:=V hj;clear q hj hz hkb hbx;gi_wp2;refine⟨KeepsFrom.refl _ _,?_⟩;rw[a3.out];exact⟨rfl,.inl ⟨g,by rw[lV,HP.out];rfl,ak.out⟩⟩
  |some i=>
   have av:=HY g ⟨i,hx⟩ W' hj (by have:=oX List.length q;grind);have a7:Hid (∀H,KC T W' H->ib K z H/\H.heap[W.heap.size]?=some (cV #[.func (.yield l) #[] #[]] 285)/\z.heap.size<=H.heap.size/\ib K W' H):=V (by
    intro H R;have ah:∀k∈K,H.heap[k]?=z.heap[k]?:=by
     intro k d;have⟨_,X,c,t,mm,h3⟩:=a4.out k d;have h4:=(hkb k d).trans h3;rw[R.2 k c t mm X h4,h3]
    exact⟨ah,R.2 _ _ _ _ (λe=>by grind) hbx,fK hz R.1,λk d=>(ah k d).trans (hkb k d).symm⟩)
   have⟨fn,tmps,assign,body,hyy,HRR⟩:=av;have HP:=V q;clear q hj hz hkb hbx
   gi_wp2_with fail
   refine⟨λ_=>by omega,(aa9 HRR).mono ?_⟩;rintro e H (⟨rfl,ad,R,F⟩|⟨rfl,ag,F⟩)
   .have⟨p1,p2,p3,P4⟩:=a7.out H R;have aj:Hid (I (pre++[⟨some i,hx⟩]) H):=V (by rw[HI.out];exact⟨p3,p1,p2,g++[⟨i,hx⟩],by rw[lV,lV,HP.out];rfl,ad⟩);have a5:=(show KeepsFrom z.heap.size W' H from⟨F.size,λk o d U X=>F.same k o (by omega) U X⟩);clear ad R F p1 p2 p3 HRR a7;gi_wp2;exact⟨a5,P4,aj.out⟩
   .have am:Hid (Ix .ret (pre++[⟨some i,hx⟩]) H):=V (by rw[a3.out];exact⟨rfl,.inr ⟨g++[⟨i,hx⟩],by rw[lV,lV,HP.out];rfl,ag⟩⟩);have a5:=(show KeepsFrom z.heap.size W' H from⟨F.size,λk o d U X=>F.same k o (by omega) U X⟩);clear ag F HRR a7;gi_wp2;exact⟨a5,am.out⟩
 case done=>
  rintro D zs W' HD hS y hK;rw[HI.out]at y;have⟨_,_,_,g,q,HJ3⟩:=y;have HE:Hid (g.map (·.1)=AC xs.reverse):=V (by
   rw[List.take_length]at hS;rw[<-hS,q,show(g.map λp=>some p.1)=(g.map (·.1)).map some by simp,XY])
  clear q hS;gi_wp2;refine⟨by simp,.inl ⟨_,_,rfl,QD hK,?_⟩⟩;refine⟨.tuple #[],by simp[results,results346,go_sem],⟨_,rfl⟩,.inl ⟨g,HE.out,?_⟩⟩;exact HJ g W' _ (some D) HJ3 (wH _ D (.deferred none)) (λr e=>by cases e;exact⟨by omega,_,hK,rfl⟩)
 case stop=>
  rintro D c zs W' HD a1 y hK;rw[a3.out]at y;obtain⟨rfl,y⟩:=y;have HE:Hid ((∃ys:List {x:Nat // some x∈xs},ys.map (·.1)=AC xs.reverse/\J3 ys W')\/(∃pre:List {x:Nat // some x∈xs},pre.map (·.1) <+:AC xs.reverse/\Jx pre W')):=V (by
   rw[List.take_length]at a1;rcases y with⟨g,q,hj⟩|⟨g,q,hj⟩;refine .inl ⟨g,?_,hj⟩;have⟨r,hr⟩:=a1;rw[<-hr,q,show(g.map λp=>some p.1)=(g.map (·.1)).map some by simp,se];exact Rq.symm;refine .inr ⟨g,?_,hj⟩;rw[q,show(g.map λp=>some p.1)=(g.map (·.1)).map some by simp]at a1;exact X1 a1)
  clear y a1;gi_wp2;refine⟨by simp,.inl ⟨_,_,rfl,QD hK,?_⟩⟩;refine⟨.tuple #[],by simp[results,results346,go_sem],⟨_,rfl⟩,?_⟩;have hb:D>=W.heap.size:=by have:=HD;have:=a6;omega
  rcases HE.out with⟨ys,e1,e2⟩|⟨pre,e1,e2⟩;exact .inl ⟨ys,e1,HJ ys W' _ (some D) e2 (wH _ D (.deferred none)) (λr e=>by cases e;exact⟨hb,_,hK,rfl⟩)⟩;exact .inr ⟨pre,e1,a8 pre W' _ (some D) e2 (wH _ D (.deferred none)) (λr e=>by cases e;exact⟨hb,_,hK,rfl⟩)⟩
end
section
attribute [local go_sem] Oper.semAt_some
attribute [local go_sem] oq
attribute [local simp] oq
def MP(s:Nat):cY:=.func (.func 346) #[] #[cW s]
def ID(bB:Nat)(w:J):
  Calls prog 319 #[cW bB] w λe w'=>e=dw (MP w.heap.size)/\w'=w.alloc (cV #[cW bB] 120):=by
 go_wp2;go_ret;simp[MP]
def X0:∀(d:gZ),AC (d.map (Option.map f))=(AC d).map f
 |[]=>rfl
 |none::_=>rfl
 |some i::r=>by show f i::AC _=f i::(AC r).map f;rw[X0]
def aju(T:List Nat)(I:List Nat->J->Prop)(e:Code->List Nat->J->Prop)(d:List Nat)(W:J):Exit->Act->J->Prop
 | .normal,_,W'=>Z T W W'/\I d W'
 | .ret,_,W'=>Z T W W'/\e .ret d W'
 | .exit id,_,W'=>Z T W W'/\e (.exit id) d W'
 | .goto t,_,W'=>Z T W W'/\e (.goto t) d W'
 | .panic _,_,_=>False
 | .outgrown,_,_=>False
def Z.kc{T:List Nat}(h:Z T W W'):KC T W W':=⟨h.size,λk c t m e d=>(h.block k (Array.getElem?_eq_some_iff.1 d).1 e).trans d⟩
theorem Z.kf{T:List Nat}{B:Nat}(h:Z T W W')(g:∀k∈T,k<B):KeepsFrom B W W':=⟨h.size,λk o p d _=>(h.block k (Array.getElem?_eq_some_iff.1 d).1 (λe=>by grind)).trans d⟩
theorem E7(e:∀i j,f i=f j->i=j):∀{g d:List Nat},g.map f=d.map f->g=d
 |[],[],_=>rfl
 |[],_::_,h=>by grind
 |_::_,[],h=>by grind
 |x::xs,y::d,h=>by
  simp at h;rw[e x y h.1,E7 e h.2]
theorem aht(g:∀i j,f i=f j->i=j){d ys:List Nat}(h:d.map f <+:ys.map f):d <+:ys:=by
 have⟨t,ht⟩:=h;have k:d.length<=ys.length:=by have:=oX List.length ht;simp at this;omega
 have e:d.map f=(ys.take d.length).map f:=by rw[Zh,<-ht];simp
 grind[E7,List.take_append_drop]
theorem Zc(hn:7<=n){w1:J}(hr:Rel E L σ w1)
  {g:Operand} {p:Tmp} {Q:Exit->Act->J->Prop} (hg:a.eval g=MP w1.heap.size)
  (T:List Nat) (hT:∀k∈T,k≠E.bB/\L.cv.ownBlock≠some k/\k<w1.heap.size)
  (I:List Nat->J->Prop) (Ix:Code->List Nat->J->Prop)
  (hI:OwnFrom (w1.heap.size+1) I) (a4:∀c,OwnFrom (w1.heap.size+1) (Ix c)) (h0:I [] (w1.alloc (cV #[Bp E] 120))) (q:Nat->Act)
  (u:∀(l:Nat)(x:Nat)(W:J)(K:Act->J->Prop),K (q x) W->assign.wpIn (Fence.wide.inRound l) (n-1-1) prog (Exit.then K (λ_ _ _=>False)) {tmps:=a.tmps.setIfInBounds p (ig (some x)),defers:=[]} W)
  (U:∀(l:Nat)(pre:List Nat)(i:Nat)(W:J),some i∈σ.act->I pre W->pre.length<σ.act.length->body.wpIn (Fence.wide.inRound l) (n-1-1) prog (aju T I Ix (pre++[i]) W) (q (L.dk i)) W)
  (a5:∀(D:Nat)(W:J),w1.heap.size+1<=D->I (AC σ.act.reverse) W->W.heap[D]?=some (.deferred (some []))->Q .normal {a with defers:={target:=.collected D,args:=#[]}::a.defers} W)
  (a0:∀(D:Nat)(c:Code)(pre:List Nat)(W:J),w1.heap.size+1<=D->pre <+:AC σ.act.reverse->Ix c pre W->W.heap[D]?=some (.deferred (some []))->c.wpIn Fence.wide n prog Q {a with defers:={target:=.collected D,args:=#[]}::a.defers} W):
  (Code.rangeFunc g #[p] assign body).wpIn Fence.wide n prog Q a (w1.alloc (cV #[Bp E] 120)):=by
 have k1:Z [] w1 (w1.alloc (cV #[Bp E] 120)):=(Z.refl _ _).alloc _;have a6:=hr.dB k1;have⟨C,hL,hC⟩:=a6.GX;have a1:(w1.alloc (cV #[Bp E] 120)).heap.size=w1.heap.size+1:=by simp
 have a8:=hr.inj;have a7:=acq (n-1) (by omega) E.bs E.bB _ C L.cv _ w1.heap.size T _ hL (aY w1 _) (λk hk=>⟨(hT k hk).1,(hT k hk).2.1,by grind⟩);have a2:∀x:{x:Nat // some x∈σ.act.map (eM L.dk)},∃i,some i∈σ.act/\L.dk i=x.1:=by
  rintro⟨x,hx⟩;have⟨y,hy,e⟩:=List.mem_map.1 hx;cases y with
  |none=>cases e
  |some i=>grind
 have aa:AC (σ.act.map (eM L.dk)).reverse=(AC σ.act.reverse).map L.dk:=by
  rw[<-yR];exact X0 _
 refine UG (by omega) (gf:=346) hg (Go.Proofs.enters_of func346 (by rfl) rfl) a7 KC.trans (λW l o o' _ H P _=>KC.put W l o o' H P) (Below.refl _ _) (λ_=>rfl)
  (λpre W=>∃d,pre.map (·.1)=d.map L.dk/\I d W) (λc pre W=>∃d,pre.map (·.1)=d.map L.dk/\Ix c d W) ?_ ?_ ?_ (λx=>q x.1) ?_ ?_ ?_ ?_
 rintro s A B row⟨d,H,P⟩ X F;rw[a1]at F;exact⟨d,H,hI d A B row P X F⟩;rintro c s A B row⟨d,H,P⟩ X F;rw[a1]at F;exact⟨d,H,a4 c d A B row P X F⟩;grind;intro l x W K hK
 simpa using u l x.1 W K hK
 .rintro l pre x W⟨d,H,P⟩ a9;have⟨i,hi,ei⟩:=a2 x;have hb:=U l d i W hi P (by have:=oX List.length H;grind);rw[ei]at hb;have R:∀k∈T,k<(w1.alloc (cV #[Bp E] 120)).heap.size:=λk hk=>by grind
  have e2:(pre++[x]).map (·.1)=(d++[i]).map L.dk:=by rw[lV,lV,H,List.map_singleton,List.map_singleton,ei]
  refine akP hb ?_;rintro e a3 W3 z;cases e with
  |normal=>exact⟨z.1.kf R,z.1.kc,_,e2,z.2⟩
  |ret=>exact⟨z.1.kf R,_,e2,z.2⟩
  |exit id=>exact⟨z.1.kf R,_,e2,z.2⟩
  |goto t=>exact⟨z.1.kf R,_,e2,z.2⟩
  |panic ch=>exact z.elim
  |outgrown=>exact z.elim
 grind[E7];rintro D c pre W hD ab⟨d,H,P⟩ hK;rw[a1]at hD;exact a0 D c d W hD (aht a8 (by grind)) P hK
end
inductive Tn
 |el (name:O) (cU:iD) (kids:List Tn)
 |tx (s:O)
 |cm (s:O)
 |dt (s:O)
inductive Ev
 |dt (s:O)
 |cm (s:O)
 |tx (s:O)
 |enter (name:O) (cU:iD)
 |tQ (name:O)
variable {J3:List Ev->J->Prop}{tot:List Ev}
mutual
def ED(vd:O->Bool):Tn->List Ev
 | .el name cU ks=> .enter name cU::(if vd name then []else rq vd ks++[.tQ name])
 | .tx s=>[.tx s]
 | .cm s=>[.cm s]
 | .dt s=>[.dt s]
def rq(vd:O->Bool):List Tn->List Ev
 |[]=>[]
 |t::ts=>ED vd t++rq vd ts
end
abbrev Da(cU:iD):List cY:=cU.flatMap λa=>[Y a.1,Y a.2]
abbrev sq(w:J)(v:cY)(cU:iD):Prop:=w.ownsRow 0 295 2 v cU.length (Da cU)
mutual
def gr(w:J):Tn->Nd->Prop
 | .el name cU ks,.el k=>∃e d kv g,El 0 w k name e d kv g/\sq w e cU/\cU.length<=4096/\pG w ks g
 | .tx s,.tx k=>w.heap[k]?=some (cV #[Y s] 280)
 | .cm s,.cm k=>w.heap[k]?=some (cV #[Y s] 235)
 | .dt s,.dt k=>w.heap[k]?=some (cV #[Y s] 239)
 |_,_=>False
def pG(w:J):List Tn->List Nd->Prop
 |[],[]=>True
 |t::ts,n::ns=>gr w t n/\pG w ts ns
 |_,_=>False
end
theorem pG.len:∀{e:List Tn} {d:List Nd},pG w e d->e.length=d.length
 |[],[],_=>rfl
 |_::_,_::_,h=>by simp[pG.len h.2]
 |[],_::_,h=>by unfold pG at h;grind
 |_::_,[],h=>by unfold pG at h;grind
theorem pG.get:∀{e:List Tn} {d:List Nd} (_:pG w e d) (k:Nat) (g:k<e.length) (p:k<d.length),gr w e[k] d[k]
 |[],_,_,_,g,_=>by grind
 |_::_,[],h,_,_,_=>by grind
 |_::_,_::_,h,0,_,_=>by exact h.1
 |_::_,_::_,h,k+1,g,p=>by
  exact pG.get h.2 k _ _
def Bu(vd:O->Bool):∀(a b:List Tn),rq vd (a++b)=rq vd a++rq vd b
 |[],b=>rfl
 |t::a,b=>by simp[rq,Bu vd a b]
def agw(vd:O->Bool)(t:Tn):rq vd [t]=ED vd t:=by simp[rq]
def XQ(T:TypeId)(x:cY)(m:String)(args:fN)(w0:J)(tot:List Ev)(J3:List Ev->J->Prop)(d:Ev)(r:cY):Prop:=
 ∃f y,(∀w,(Go.method 496 T x m).run prog w=.ok (f,y) w)/\(∀w,(nilAhead 496 T x m).run prog w=.ok (some false) w)/\(∀args w,(callFunc f args).run prog w=.ok (.enter f args) w)/\
  ∀pre W,Z [] w0 W->J3 pre W->pre++[d] <+:tot->Calls prog f (#[y]++args) W λe W'=>e=dw r/\J3 (pre++[d]) W'/\Z [] w0 W'
structure Vis(T:TypeId)(x:cY)(vd:O->Bool)(tot:List Ev)(w0:J)(J3:List Ev->J->Prop):Prop where
 mono:∀pre W W',J3 pre W->Z [] W W'->J3 pre W'
 dt:∀s,XQ T x "Doctype" #[Y s] w0 tot J3 (.dt s) (.tuple #[])
 cm:∀s,XQ T x "Comment" #[Y s] w0 tot J3 (.cm s) (.tuple #[])
 tx:∀s,XQ T x "Text" #[Y s] w0 tot J3 (.tx s) (.tuple #[])
 tQ:∀s,XQ T x "Leave" #[Y s] w0 tot J3 (.tQ s) (.tuple #[])
 enter:∃f y,(∀w,(Go.method 496 T x "Enter").run prog w=.ok (f,y) w)/\(∀w,(nilAhead 496 T x "Enter").run prog w=.ok (some false) w)/\(∀args w,(callFunc f args).run prog w=.ok (.enter f args) w)/\
  ∀pre W s av cU,Z [] w0 W->J3 pre W->pre++[.enter s cU] <+:tot->sq W av cU->cU.length<=4096->Calls prog f #[y,Y s,av] W λe W'=>(∃b,e=dw (.bool b)/\(b=(!vd s)\/b=false/\∀p,J3 p W'))/\J3 (pre++[.enter s cU]) W'/\Z [] w0 W'
theorem ami(K:Vis T x vd tot w0 J3)(k:Nat)(s:O)(pre:List Ev)(W:J)(p:Z [] w0 W)(g:J3 pre W)(z:pre++[.tx s] <+:tot)(u:W.heap[k]?=some (cV #[Y s] 280)):
  Calls prog 439 #[cW k,.iface T x] W λe W'=>e=nu/\J3 (pre++[.tx s]) W'/\Z [] w0 W':=by
 have⟨f,y,hm,hna,hcf,hc⟩:=K.tx s;have C:=(λq=>hc pre (W.drewN q) (p.drewN q) (K.mono _ _ _ g ((Z.refl _ _).drewN q)) z);have d:=aN u 0;dsimp at d;go_enter func439,ntmps439;go_wp21
 go_region_with (refine(C _).mono ?_;rintro e F⟨rfl,H,I⟩)
 all_goals (try go_wp2)
 all_goals (go_end0;grind)
theorem acG(K:Vis T x vd tot w0 J3)(k:Nat)(s:O)(pre:List Ev)(W:J)(p:Z [] w0 W)(g:J3 pre W)(z:pre++[.cm s] <+:tot)(u:W.heap[k]?=some (cV #[Y s] 235)):
  Calls prog 437 #[cW k,.iface T x] W λe W'=>e=nu/\J3 (pre++[.cm s]) W'/\Z [] w0 W':=by
 have⟨f,y,hm,hna,hcf,hc⟩:=K.cm s;have C:=(λq=>hc pre (W.drewN q) (p.drewN q) (K.mono _ _ _ g ((Z.refl _ _).drewN q)) z);have d:=aN u 0;dsimp at d;go_enter func437,ntmps437;go_wp21
 go_region_with (refine(C _).mono ?_;rintro e F⟨rfl,H,I⟩)
 all_goals (try go_wp2)
 all_goals (go_end0;grind)
theorem acN(K:Vis T x vd tot w0 J3)(k:Nat)(s:O)(pre:List Ev)(W:J)(p:Z [] w0 W)(g:J3 pre W)(z:pre++[.dt s] <+:tot)(u:W.heap[k]?=some (cV #[Y s] 239)):
  Calls prog 438 #[cW k,.iface T x] W λe W'=>e=nu/\J3 (pre++[.dt s]) W'/\Z [] w0 W':=by
 have⟨f,y,hm,hna,hcf,hc⟩:=K.dt s;have C:=(λq=>hc pre (W.drewN q) (p.drewN q) (K.mono _ _ _ g ((Z.refl _ _).drewN q)) z);have d:=aN u 0;dsimp at d;go_enter func438,ntmps438;go_wp21
 go_region_with (refine(C _).mono ?_;rintro e F⟨rfl,H,I⟩)
 all_goals (try go_wp2)
 all_goals (go_end0;grind)
def adA:(prog.info? 295).map (λi=>(i.zero,i.size,i.bytes))=some (some (.agg #[Y gU,Y gU]),2,32):=by kernel_rfl
theorem Ph(L:iD):(Da L).length=L.length*2:=by
 induction L with
 |nil=>rfl
 |cons a L ih=>grind
theorem ajx(v:cY)(L:iD)(w:J)(y:sq w v L)(hL:L.length<=4096):
  Calls prog 407 #[v] w λe w'=>∃k,e=dw k/\sq w' k L/\Z [] w w':=by
 obtain⟨i0,hi,I,K,R⟩:=rQ adA;rcases y.2 with⟨rfl,h0⟩|⟨g,d,a2,rfl,a3,hg,_⟩
 .have hn:=λw=>Ch (P:=prog) w 136 295 none 0 0 0 0 underlying136;have:L=[]:=QJ h0;subst this;clear y;go_enter func407,ntmps407;go_wp2;go_ret;exact⟨_,rfl,mh _ _ _ _,Z.refl _ _⟩
 .have hn:=λw=>Ch (P:=prog) w 136 295 (some ⟨g,0,none⟩) L.length d 0 0 underlying136;have HO:=V y;have C:=eS hg;have X:(w.alloc (.cells #[] 295)).ownsRow w.heap.size 295 2 (ky w.heap.size 0 0) 0 []:=
   ⟨rfl,.inr ⟨w.heap.size,0,#[],rfl,dr _,aY w _,dr _,yQ _,rfl,rfl⟩⟩
  clear y;go_enter func407,ntmps407;go_wp2_with (at_builtin;refine fw _ rfl _ _ 136 rfl w.heap.size 295 i0 (.agg #[Y gU,Y gU]) 2 32 underlying136 hi I K R rfl (by decide) _ _ _ rfl X ⟨g,0,none⟩ L.length d (Da L) rfl ?c1 ?c2 ?c3 ?c4 ?c5 ?c6 ?_)
  case c1=>grind
  case c2=>
   intro j u hj;have:=HO.cells (g:=g) rfl j u hj;rw[eL]at this|-;rw[<-this];exact Lf _ _ _ C
  case c3=>
   intro u H;unfold Da at H;simp at H;obtain⟨p,q,_,h|h⟩:=H<;>(subst h;rfl)
  case c4=>omega
  case c5=>omega
  case c6=>simp
  intro k U F z a4;have h9:U.ownsRow w.heap.size 295 2 k L.length (Da L):=by simpa using F
  have HF:sq U k L:=by
   refine⟨h9.1,?_⟩;rcases h9.2 with e|⟨g1,a0,a1,e,_,r⟩;exact .inl e;grind
  have HK:Hid (Z [] w U):=((Z.refl [] w).alloc _).grown z (λx hx=> .inr (X.lt x hx).1);go_wp2;go_ret;exact⟨_,rfl,HF,HK⟩
theorem sq.kept(h:sq w v cU)(u:Z [] w w'):sq w' v cU:=by
 refine⟨h.1,?_⟩;rcases h.2 with e|⟨g,d,k,e,p,q,r⟩
 all_goals grind[Z.at]
theorem El.dB{k:Nat}{d:O}{q:cY}{p:eG}{kv:cY}{ns:List Nd}(h:El 0 w k d q p kv ns)(z:Z [] w w'):El 0 w' k d q p kv ns:=by
 refine⟨z.at h.du (by simp),⟨h.row.1,?_⟩,h.le,h.XV⟩;rcases h.row.2 with e|⟨g,u,y,e,C,F,r⟩
 all_goals grind[Z.at]
mutual
theorem gr.kept(d:Z [] w w'):∀{t:Tn} {n:Nd},gr w t n->gr w' t n
 | .el name cU ks,.el k,h=>by
  unfold gr at h|-;have⟨av,ff,kv,ns,h1,h2,h3,h4⟩:=h;exact⟨av,ff,kv,ns,h1.dB d,h2.kept d,h3,pG.kept d h4⟩
 | .tx _,.tx _,h=>by unfold gr at h|-;exact d.at h (by simp)
 | .cm _,.cm _,h=>by unfold gr at h|-;exact d.at h (by simp)
 | .dt _,.dt _,h=>by unfold gr at h|-;exact d.at h (by simp)
 | .el _ _ _,.tx _,h=>by grind[gr]
 | .el _ _ _,.cm _,h=>by grind[gr]
 | .el _ _ _,.dt _,h=>by grind[gr]
 | .tx _,.el _,h=>by grind[gr]
 | .tx _,.cm _,h=>by grind[gr]
 | .tx _,.dt _,h=>by grind[gr]
 | .cm _,.el _,h=>by grind[gr]
 | .cm _,.tx _,h=>by grind[gr]
 | .cm _,.dt _,h=>by grind[gr]
 | .dt _,.el _,h=>by grind[gr]
 | .dt _,.tx _,h=>by grind[gr]
 | .dt _,.cm _,h=>by grind[gr]
theorem pG.kept(g:Z [] w w'):∀{e:List Tn} {d:List Nd},pG w e d->pG w' e d
 |[],[],_=>by simp[pG]
 |t::e,n::d,h=>by
  unfold pG at h|-;exact⟨gr.kept g h.1,pG.kept g h.2⟩
 |[],_::_,h=>by grind[pG]
 |_::_,[],h=>by grind[pG]
end
section
variable {T:TypeId}{x:cY}{vd:O->Bool}{tot:List Ev}{w0:J}{J3:List Ev->J->Prop}
def yy:Nd->Nat
 | .el _=>406
 | .tx _=>439
 | .cm _=>437
 | .dt _=>438
def Nd.bk:Nd->Nat
 | .el k=>k
 | .tx k=>k
 | .cm k=>k
 | .dt k=>k
def Hl(T:TypeId)(x:cY)(vd:O->Bool)(tot:List Ev)(w0:J)(J3:List Ev->J->Prop)(t:Tn)(n:Nd):Prop:=
 ∀pre W,Z [] w0 W->J3 pre W->pre++ED vd t <+:tot->
  Calls prog (yy n) #[cW n.bk,.iface T x] W λe W'=>e=nu/\J3 (pre++ED vd t) W'/\Z [] w0 W'
def NF(n:Nd)(w:J):∃t y,n.val=.iface t y/\y=cW n.bk/\(∀w,(Go.method 496 t y "Visit").run prog w=.ok (yy n,y) w):=by
 cases n with
 |el k=>exact⟨_,_,rfl,rfl,λw=>rfl⟩
 |tx k=>exact⟨_,_,rfl,rfl,λw=>rfl⟩
 |cm k=>exact⟨_,_,rfl,rfl,λw=>rfl⟩
 |dt k=>exact⟨_,_,rfl,rfl,λw=>rfl⟩
def aaK(n:Nd):∀d w,(callFunc (yy n) d).run prog w=.ok (.enter (yy n) d) w:=by
 cases n with
 |el k=>simp[yy]
 |tx k=>simp[yy]
 |cm k=>simp[yy]
 |dt k=>simp[yy]
theorem WN{a b c:List Ev}(h:a++(b++c) <+:tot):a++b <+:tot:=by
 have⟨r,hr⟩:=h;grind
theorem FP(a6:Vis T x vd tot w0 J3)(k:Nat)(F:O)(av:cY)(a0:eG)(kv:cY)(d:List Tn)(ns:List Nd)(hl:d.length=ns.length)
  (z:El 0 w0 k F av a0 kv ns) (hv:∀i (K:i<d.length) (H:i<ns.length),Hl T x vd tot w0 J3 d[i] ns[i]) (pre:List Ev) (W:J) (hK:Z [] w0 W) (hJ:J3 pre W) (hp:pre++rq vd d <+:tot):
  Calls prog 36 #[cW k,.iface T x] W λe W'=>e=nu/\J3 (pre++rq vd d) W'/\Z [] w0 W':=by
 have c3:=aN ((z.dB hK).du) 3;dsimp at c3;have R:=z.le;have⟨ao,cap,hkv⟩:=cP z.row;have HE:=V z;have HV:=hv;have HP:=hp;have HJ:=hJ;have HK:=hK;have HL:=V hl;obtain⟨n,X⟩:∃n,n=ns.length:=⟨_,rfl⟩;have HN:=V X;subst hkv;rw[<-X]at c3 R;clear z hl X;go_enter func36,ntmps36;go_wp21
 go_loopw [11] (λv wr=>∃i:Nat,v=G i/\i<=n/\J3 (pre++rq vd (d.take i)) wr/\Z [] w0 wr) (λv _=>n-(intOf v).toNat)
 case atStart=>grind[rq]
 case round=>
  obtain⟨i,rfl,hi,u,p⟩:=hrel;by_cases U:i<n
  .have H:i<ns.length:=by rw[<-HN.out];exact U
   have K:i<d.length:=by rw[HL.out];exact H
   have⟨t,y,hval,hy,hm⟩:=NF ns[i] wr;have a5:=aaK ns[i];obtain⟨g,P⟩:∃g,ao=some ⟨g,0,none⟩:=by
    rcases HE.row.2 with⟨e,h0⟩|⟨g,a1,a4,e,_⟩
    all_goals grind
   subst P;have hc:wr.cell? ⟨g,i,none⟩=some (.iface t y):=by
    have:=(HE.dB p).row.cells (g:=g) rfl i ns[i].val (by simp[H]);rw[eL]at this;rw[<-hval]
    simpa using this
   have q:rq vd (d.take (i+1))=rq vd (d.take i)++ED vd d[i]:=by
    rw[GH,pU K,Bu];simp[agw]
   have a2:pre++rq vd (d.take (i+1)) <+:tot:=by
    refine WN (c:=rq vd (d.drop (i+1))) ?_;rw[<-Bu,Oq];exact HP
   have C:=HV i K H _ wr p u (by grind);rw[se,<-q]at C;rw[hy]at hc hm;generalize yy ns[i]=fv at *;generalize ns[i].bk=kb at *;generalize hZ:J3 (pre++rq vd (d.take (i+1)))=a7 at C;have HZ:=V hZ;clear hZ;go_wp21;refine C.mono ?_;rintro e W2⟨rfl,a3,I⟩;go_wp2;go_roundw
   case rel=>grind[Hid.out]
   case measure=>simp[intOf];omega
  .have he:d.take i=d:=Ag (by grind[Hid.out]);rw[he]at u;have I:=p;go_wp2;go_end0;grind
theorem acQ(ae:Vis T x vd tot w0 J3)(k:Nat)(d:O)(cU:iD)(av:cY)(a6:eG)(kv:cY)(z:List Tn)(ns:List Nd)(hl:z.length=ns.length)
  (hE:El 0 w0 k d av a6 kv ns) (hA:sq w0 av cU) (R:cU.length<=4096) (hv:∀i (h1:i<z.length) (h2:i<ns.length),Hl T x vd tot w0 J3 z[i] ns[i]):Hl T x vd tot w0 J3 (.el d cU z) (.el k):=by
 intro pre W C hJ hp;show Calls prog 406 #[cW k,.iface T x] W _;have ad:∀(fn:Fn)(first a1:fN)(w:J),(Instr.makeFunc fn first a1).run prog w=.ok (.func fn first a1) w:=λ_ _ _ _=>rfl;have c0:=aN ((hE.dB C).du) 0;have c1:=aN ((hE.dB C).du) 1;dsimp at c0 c1;have a3:pre++[.enter d cU] <+:tot:=by
  unfold ED at hp;exact WN (b:=[.enter d cU]) (by simpa using hp)
 have⟨f,y,hm,hna,hcf,hc⟩:=ae.enter;have C1:=V (λq=>ajx av cU (W.drewN q) ((hA.kept C).kept ((Z.refl _ _).drewN q)) R);have C2:=V (λq W1 v1 (U:Z [] (W.drewN q) W1) (ha:sq W1 v1 cU)=>hc pre W1 d v1 cU ((C.drewN q).trans U) (ae.mono _ _ _ hJ (((Z.refl _ _).drewN q).trans U)) a3 ha R);have⟨ao,n,cp,hav⟩:=hE.XV;subst hav;have HV:=V ae;have HE:=V hE;have HW:=V hv;have HP:=V hp;have HL:=V hl;have aa:=V C;clear hc ae C hJ hp a3 hA R hE hv hl;go_enter func406,ntmps406;go_wp21
 go_cut [17]from 4 to 16 (λr wc=>(∃b,r=.bool b/\(b=(!vd d)\/b=false/\∀p,J3 p wc))/\J3 (pre++[.enter d cU]) wc/\Z [] w0 wc)
 case first=>
  go_region_with (first
   |(go_at_call 407;refine(C1.out _).mono ?_;rintro e W1⟨v1,rfl,P,X⟩;have⟨ao1,cp1,hv1⟩:=cP P;subst hv1;have a7:=V P;have a9:=V X;have c2:W1.cell? ⟨k,0,none⟩=some (Y d):=(by rw[aN (HE.out.dB ((aa.out.drewN _).trans X)).du];rfl);clear P X)
   |(refine(C2.out _ _ _ a9.out a7.out).mono ?_;rintro e W2⟨⟨bb,rfl,a2⟩,u,g⟩;have a8:=V a2;have H:=V u;have I:=V g;clear a2 u g))
  all_goals (try (go_wp21))
  all_goals (go_meet;exact⟨⟨bb,rfl,a8.out⟩,H.out,I.out⟩)
 case rest=>
  obtain⟨⟨bb,rfl,F⟩,hj,U⟩:=hcut;clear C1 C2 hm hna hcf c0 c1;cases bb with
  |false=>
   replace hj:J3 (pre++ED vd (.el d cU z)) wc:=by
    rcases F with F|⟨_,F⟩;have a0:vd d=true:=by
     cases h:vd d;grind;rfl
    have he:pre++ED vd (.el d cU z)=pre++[.enter d cU]:=by simp[ED,a0]
    rw[he];exact hj;exact F _
   clear F;have HJ:=V hj;have HK:=V U;clear hj U;rename_i K C;refine C _ _ ?_;clear C;go_wp2;go_end0;exact⟨rfl,HJ.out,HK.out⟩
  |true=>
   have a0:vd d=false:=by
    rcases F with F|⟨F,_⟩;grind;cases F
   clear F;have he:ED vd (.el d cU z)=.enter d cU::(rq vd z++[.tQ d]):=by simp[ED,a0]
   have a4:(pre++[.enter d cU])++rq vd z <+:tot:=WN (c:=[.tQ d]) (by have:=HP.out;grind);have a5:(pre++[.enter d cU]++rq vd z)++[.tQ d] <+:tot:=by have:=HP.out;rw[he]at this;simpa using this
   have e3:pre++ED vd (.el d cU z)=(pre++[.enter d cU]++rq vd z)++[.tQ d]:=by rw[he];simp
   have C3:=V (FP HV.out k d _ a6 kv z ns HL.out HE.out HW.out _ wc U hj a4);have⟨f,y,hm,hna,hcf,hc⟩:=HV.out.tQ d;have C4:=V (λq W2 (g:Z [] w0 W2) (u:J3 (pre++[.enter d cU]++rq vd z) W2)=>hc _ (W2.drewN q) (g.drewN q) (HV.out.mono _ _ _ u ((Z.refl _ _).drewN q)) a5);rw[<-e3]at C4;clear a4 a5 he e3 hj U hc;generalize hJJ:J3 (pre++[.enter d cU]++rq vd z)=J1 at C3 C4;clear hJJ;rename_i K C;refine C _ _ ?_;clear C;go_wp21;refine C3.out.mono ?_;rintro e W2⟨rfl,u,g⟩;have c0:=aN ((HE.out.dB g).du) 0;dsimp at c0;have H:=V u;have I:=V g;clear u g;go_wp21
   go_region_with (refine(C4.out _ _ I.out H.out).mono ?_;rintro e W3⟨rfl,ab,ac⟩)
   all_goals (try go_wp2)
   all_goals (go_end0;grind)
end
section
variable {T:TypeId}{x:cY}{vd:O->Bool}{tot:List Ev}{w0:J}{J3:List Ev->J->Prop}
theorem UD(u:Vis T x vd tot w0 J3):∀(t:Tn)(n:Nd),gr w0 t n->Hl T x vd tot w0 J3 t n
 | .el name cU ks,.el k,h=>by
  have⟨av,ff,kv,ns,h1,h2,h3,h4⟩:=h;exact acQ u k name cU av ff kv ks ns h4.len h1 h2 h3 (λi p q=>UD u ks[i] ns[i] (h4.get i p q))
 | .tx s,.tx k,h=>by
  intro pre W d e g;exact ami u k s pre W d e g (d.at h (by simp))
 | .cm s,.cm k,h=>by
  intro pre W d e g;exact acG u k s pre W d e g (d.at h (by simp))
 | .dt s,.dt k,h=>by
  intro pre W d e g;exact acN u k s pre W d e g (d.at h (by simp))
 | .el _ _ _,.tx _,h=>by grind[gr]
 | .el _ _ _,.cm _,h=>by grind[gr]
 | .el _ _ _,.dt _,h=>by grind[gr]
 | .tx _,.el _,h=>by grind[gr]
 | .tx _,.cm _,h=>by grind[gr]
 | .tx _,.dt _,h=>by grind[gr]
 | .cm _,.el _,h=>by grind[gr]
 | .cm _,.tx _,h=>by grind[gr]
 | .cm _,.dt _,h=>by grind[gr]
 | .dt _,.el _,h=>by grind[gr]
 | .dt _,.tx _,h=>by grind[gr]
 | .dt _,.cm _,h=>by grind[gr]
  termination_by t=>SizeOf.sizeOf t
  decreasing_by
 have:=List.sizeOf_lt_of_mem (sd p);grind
theorem xy(C:Vis T x vd tot w0 J3)(k:Nat)(d:O)(cU:iD)(g:List Tn)(h:gr w0 (.el d cU g) (.el k))(u:rq vd g=tot)(W:J)(q:Z [] w0 W)(p:J3 [] W):
  Calls prog 36 #[cW k,.iface T x] W λe W'=>e=nu/\J3 tot W'/\Z [] w0 W':=by
 have⟨av,ff,kv,ns,h1,h2,h3,h4⟩:=h;have:=FP C k d av ff kv g ns h4.len h1 (λi y z=>UD C _ _ (h4.get i y z)) [] W q p (by grind)
 rwa [u]at this
end
attribute [local go_sem] Oper.semAt_some
structure It where
 k:Int
 s:O
 t:O
abbrev It.val(x:It):cY:=.agg #[G x.k,Y x.s,Y x.t]
def rE:Ev->List It
 | .dt s=>[⟨1,s,⟨#[]⟩⟩]
 | .cm s=>[⟨2,s,⟨#[]⟩⟩]
 | .tx s=>[⟨3,s,⟨#[]⟩⟩]
 | .enter s cU=>⟨4,s,⟨#[]⟩⟩::cU.map λa=>⟨5,a.1,a.2⟩
 | .tQ s=>[⟨6,s,⟨#[]⟩⟩]
def fQ(d:List Ev):List It:=d.flatMap rE
def Wk(w:J)(b l:Nat)(d:Bool):Prop:=w.heap[b]?=some (cV #[.func (.yield l) #[] #[],.bool d] 202)
theorem nG{c:fN}{t:TypeId}(h:w.heap[b]?=some (.cells c t m))(j:Nat)(v:cY)(d:c[j]?=some v):w.setCell ⟨b,j,none⟩ v=w:=by
 have g:c.setIfInBounds j v=c:=by grind
 have e:∀f,f (.cells c t m)=.cells c t m->w.heap.modify b f=w.heap:=by grind
 unfold World.setCell;simp_all
def KW(W W':J):Prop:=∀(k:Nat)(c:fN)(t:TypeId),W.heap[k]?=some (cV c t)->t∈[202,295]->W'.heap[k]?=some (cV c t)
def KW.wk(h:KW W W'){d:Bool}(hw:Wk W b l d):Wk W' b l d:=h b _ _ hw (by decide)
theorem KW.atr(h:KW W W')(p:sq W v cU):sq W' v cU:=by
 refine⟨p.1,?_⟩;rcases p.2 with e|⟨g,d,k,e,q,u,r⟩;grind;exact .inr ⟨g,d,k,e,q,h g _ _ u (by decide),r⟩
theorem Wk.atr{d:Bool}(h:Wk W b l d)(x:cY)(q:sq W v cU):sq (W.setCell ⟨b,1,none⟩ x) v cU:=by
 refine⟨q.1,?_⟩;rcases q.2 with e|⟨g,k,p,e,y,u,r⟩;grind;refine .inr ⟨g,k,p,e,y,((Z.refl [b] W).setCell (.inl (by simp)) _).at u ?_,r⟩;intro z;have e:=List.mem_singleton.1 z;subst e;rw[h]at u;grind
def Rnd(l:Nat)(tot:List It)(w0:J)(J3:List It->J->Prop)(JE:J->Prop):Prop:=∀pre x W,Z [] w0 W->J3 pre W->pre++[x] <+:tot->YieldAt Fence.wide 3 prog l #[It.val x] W λe W'=>(e=dw (.bool true)/\J3 (pre++[x]) W'\/e=dw (.bool false)/\JE W')/\Z [] w0 W'/\KW W W'
def JW(l b:Nat)(J3:List It->J->Prop)(JE:J->Prop)(pre:List It)(W:J):Prop:=(J3 pre W/\Wk W b l false)\/(JE W/\Wk W b l true)
theorem JW.mono{J3:List It->J->Prop}{JE:J->Prop}(g:∀pre W W',J3 pre W->Z [] W W'->J3 pre W')(e:∀W W',JE W->Z [] W W'->JE W'){pre:List It}(h:JW l b J3 JE pre W)(d:Z [] W W'):JW l b J3 JE pre W':=by
 rcases h with⟨h,k⟩|⟨h,k⟩;exact .inl ⟨g _ _ _ h d,d.at k (by simp)⟩;exact .inr ⟨e _ _ h d,d.at k (by simp)⟩
section
variable {l b:Nat}{tot:List It}{w0:J}{J3:List It->J->Prop}{JE:J->Prop}
theorem AA(K:Rnd l tot w0 J3 JE)(P:w0.heap.size<=b)(z:∀a0,Wk a0 b l false->JE a0->JE (a0.setCell ⟨b,1,none⟩ (.bool true)))(pre:List It)(x:It)(W:J)(F:Z [] w0 W)(y:JW l b J3 JE pre W)(U:pre++[x] <+:tot):
  Calls prog 436 #[cW b,G x.k,Y x.s,Y x.t] W λe W'=>e=nu/\(JW l b J3 JE (pre++[x]) W'/\Z [] w0 W')/\∀v cU,sq W v cU->sq W' v cU:=by
 refine(vF (n:=4)).1 ?_;rcases y with⟨y,q⟩|⟨y,q⟩
 .have c0:=aN q 0;have H:=aN q 1;dsimp at c0 H;have⟨fn,tmps,assign,body,hy,hR⟩:=K pre x W F y U;have HR:=V hR;dsimp only[It.val]at hy;have R:=eS q;have HW:=V q;have HM:=V z;have HB:=V P;clear hR K F y U q z P;have⟨k,s,t⟩:=x;refine callsIn_of_wp func436 rfl trivial ?_ rfl;simp only[ntmps436,vI,sg,tX,Nat.reduceAdd,Nat.reduceSub,vJ,vK,vL,vM,tw,oW];gi_wp2;refine HR.out.mono ?_;rintro e C⟨⟨rfl,p⟩|⟨rfl,p⟩,u,g⟩
  .have d:=g.wk HW.out;have I:=aN d 1;have f2:=cQ d 1;dsimp at I;have HS:=V (nG d 1 (.bool false) rfl);have X:=V (show(JW l b J3 JE (pre++[⟨k,s,t⟩]) C/\Z [] w0 C)/\∀v cU,sq W v cU->sq C v cU from⟨⟨.inl ⟨p,d⟩,u⟩,λ_ _ h=>g.atr h⟩);clear p u g d;gi_wp2;go_end0;grind[Hid.out]
  .have d:=g.wk HW.out;have I:=aN d 1;have f2:=cQ d 1;dsimp at I;have X:=V (show(JW l b J3 JE (pre++[⟨k,s,t⟩]) (C.setCell ⟨b,1,none⟩ (.bool true))/\Z [] w0 (C.setCell ⟨b,1,none⟩ (.bool true)))/\∀v cU,sq W v cU->sq (C.setCell ⟨b,1,none⟩ (.bool true)) v cU from⟨⟨.inr ⟨HM.out _ d p,bJ d 1 _⟩,u.setCell (.inr HB.out) _⟩,λ_ _ h=>d.atr _ (g.atr h)⟩);clear p u g d;gi_wp2;go_end0;grind[Hid.out]
 .have H:=aN q 1;dsimp at H;have R:=eS q;have X:=V (show(JW l b J3 JE (pre++[x]) W/\Z [] w0 W)/\∀v cU,sq W v cU->sq W v cU from⟨⟨.inr ⟨y,q⟩,F⟩,λ_ _ h=>h⟩);clear K F y U q z P;refine callsIn_of_wp func436 rfl trivial ?_ rfl;simp only[ntmps436,vI,sg,tX,Nat.reduceAdd,Nat.reduceSub,vJ,vK,vL,vM,tw,oW];gi_wp2;go_end0;grind[Hid.out]
theorem wdt(p:Rnd l tot w0 J3 JE)(q:w0.heap.size<=b)(d:∀C,Wk C b l false->JE C->JE (C.setCell ⟨b,1,none⟩ (.bool true)))(s:O)(pre:List It)(W:J)(k:Z [] w0 W)(g:JW l b J3 JE pre W)(u:pre++[⟨1,s,⟨#[]⟩⟩] <+:tot):
  Calls prog 432 #[cW b,Y s] W λe W'=>e=nu/\JW l b J3 JE (pre++[⟨1,s,⟨#[]⟩⟩]) W'/\Z [] w0 W':=by
 go_enter func432,ntmps432;go_wp21;refine(V (AA p q d pre _ W k g u)).out.mono ?_;rintro e y⟨rfl,z,_⟩;go_wp2;go_end0;grind[Hid.out]
theorem wcm(p:Rnd l tot w0 J3 JE)(q:w0.heap.size<=b)(d:∀C,Wk C b l false->JE C->JE (C.setCell ⟨b,1,none⟩ (.bool true)))(s:O)(pre:List It)(W:J)(k:Z [] w0 W)(g:JW l b J3 JE pre W)(u:pre++[⟨2,s,⟨#[]⟩⟩] <+:tot):
  Calls prog 431 #[cW b,Y s] W λe W'=>e=nu/\JW l b J3 JE (pre++[⟨2,s,⟨#[]⟩⟩]) W'/\Z [] w0 W':=by
 go_enter func431,ntmps431;go_wp21;refine(V (AA p q d pre _ W k g u)).out.mono ?_;rintro e y⟨rfl,z,_⟩;go_wp2;go_end0;grind[Hid.out]
theorem wtx(p:Rnd l tot w0 J3 JE)(q:w0.heap.size<=b)(d:∀C,Wk C b l false->JE C->JE (C.setCell ⟨b,1,none⟩ (.bool true)))(s:O)(pre:List It)(W:J)(k:Z [] w0 W)(g:JW l b J3 JE pre W)(u:pre++[⟨3,s,⟨#[]⟩⟩] <+:tot):
  Calls prog 435 #[cW b,Y s] W λe W'=>e=nu/\JW l b J3 JE (pre++[⟨3,s,⟨#[]⟩⟩]) W'/\Z [] w0 W':=by
 go_enter func435,ntmps435;go_wp21;refine(V (AA p q d pre _ W k g u)).out.mono ?_;rintro e y⟨rfl,z,_⟩;go_wp2;go_end0;grind[Hid.out]
theorem wlv(p:Rnd l tot w0 J3 JE)(q:w0.heap.size<=b)(d:∀C,Wk C b l false->JE C->JE (C.setCell ⟨b,1,none⟩ (.bool true)))(s:O)(pre:List It)(W:J)(k:Z [] w0 W)(g:JW l b J3 JE pre W)(u:pre++[⟨6,s,⟨#[]⟩⟩] <+:tot):
  Calls prog 434 #[cW b,Y s] W λe W'=>e=nu/\JW l b J3 JE (pre++[⟨6,s,⟨#[]⟩⟩]) W'/\Z [] w0 W':=by
 go_enter func434,ntmps434;go_wp21;refine(V (AA p q d pre _ W k g u)).out.mono ?_;rintro e y⟨rfl,z,_⟩;go_wp2;go_end0;grind[Hid.out]
def afC(a b:List Ev):fQ (a++b)=fQ a++fQ b:=oi ..
def vk{a b:List Ev}(h:a <+:b):fQ a <+:fQ b:=by
 obtain⟨r,rfl⟩:=h;simp[fQ]
theorem Nb(L:iD)(i:Nat)(h:i<L.length):(Da L)[i*2]?=some (Y L[i].1)/\(Da L)[i*2+1]?=some (Y L[i].2):=by
 induction L generalizing i with
 |nil=>simp at h
 |cons a L ih=>
  cases i<;>grind
theorem wen(hY:Rnd l tot w0 J3 JE)(hb:w0.heap.size<=b)(H:∀af,Wk af b l false->JE af->JE (af.setCell ⟨b,1,none⟩ (.bool true)))(hm:∀pre W W',J3 pre W->Z [] W W'->J3 pre W')(R:∀W W',JE W->Z [] W W'->JE W')(s:O)(av:cY)(cU:iD)(pre:List It)(W:J)(hK:Z [] w0 W)(hJ:JW l b J3 JE pre W)(hp:pre++rE (.enter s cU) <+:tot)(hA:sq W av cU)(a3:cU.length<=4096):
  Calls prog 433 #[cW b,Y s,av] W λe W'=>(∃d,e=dw (.bool d)/\(d=true\/d=false/\∀p,JW l b J3 JE p W'))/\JW l b J3 JE (pre++rE (.enter s cU)) W'/\Z [] w0 W':=by
 have U:pre++[(⟨4,s,⟨#[]⟩⟩:It)] <+:tot:=by
  have⟨r,hr⟩:=hp;exact⟨_,by rw[<-hr];simp[rE];rfl⟩
 have C:=V (AA hY hb H pre ⟨4,s,⟨#[]⟩⟩ W hK hJ U);have⟨ao,cap,hav⟩:=cP hA;have HA:=V hA;have HP:=V hp;have HY:=V hY;have HM:=V hm;have a1:=V R;have a2:=V H;have HB:=V hb;obtain⟨n,hn⟩:∃n,n=cU.length:=⟨_,rfl⟩;rw[<-hn]at a3 hav;have HN:=V hn;subst hav;clear hY hK hJ hp U hA hm hn hb H R;go_enter func433,ntmps433;go_wp21;refine C.out.mono ?_;rintro e W2⟨rfl,⟨k,u⟩,X⟩;have a8:=V (X _ _ HA.out);have aa:=V k;have ab:=V u;clear k u X C HA;go_wp21
 go_loopw [14] (λv wr=>∃i:Nat,v=G i/\i<=n/\JW l b J3 JE (pre++(⟨4,s,⟨#[]⟩⟩::(cU.take i).map λa=>(⟨5,a.1,a.2⟩:It))) wr/\Z [] w0 wr/\sq wr (.slice ao n cap) cU) (λv _=>n-(intOf v).toNat)
 case atStart=>grind[Hid.out]
 case round=>
  obtain⟨i,rfl,hi,k,u,K⟩:=hrel;by_cases a6:i<n
  .have h1:i<cU.length:=by rw[<-HN.out];exact a6
   obtain⟨g,a4⟩:∃g,ao=some ⟨g,0,none⟩:=by
    rcases K.2 with⟨e,h0⟩|⟨g,a7,ac,e,_⟩
    all_goals grind
   subst a4;have ad:wr.cell? ⟨g,i*2,none⟩=some (Y cU[i].1):=by
    have:=K.cells (g:=g) rfl (i*2) _ (Nb cU i h1).1;rw[eL]at this
    simpa using this
   have ae:wr.cell? ⟨g,i*2+1,none⟩=some (Y cU[i].2):=by
    have:=K.cells (g:=g) rfl (i*2+1) _ (Nb cU i h1).2;rw[eL]at this
    simpa using this
   have q:(pre++(⟨4,s,⟨#[]⟩⟩::(cU.take i).map λa=>(⟨5,a.1,a.2⟩:It)))++[⟨5,cU[i].1,cU[i].2⟩]=pre++(⟨4,s,⟨#[]⟩⟩::(cU.take (i+1)).map λa=>(⟨5,a.1,a.2⟩:It)):=by
    have:(cU.take (i+1))=cU.take i++[cU[i]]:=by rw[GH,pU h1];rfl
    rw[this,lV];simp only[se,oW,oZ,List.map_nil]
   have y:(pre++(⟨4,s,⟨#[]⟩⟩::(cU.take i).map λa=>(⟨5,a.1,a.2⟩:It)))++[⟨5,cU[i].1,cU[i].2⟩] <+:tot:=by
    rw[q];have⟨r,hr⟩:=HP.out;refine⟨((cU.drop (i+1)).map λa=>(⟨5,a.1,a.2⟩:It))++r,?_⟩;rw[<-hr];have e:=oX (List.map λa:O×O=>(⟨5,a.1,a.2⟩:It)) (Oq (i+1) cU);rw[lV]at e;show _=pre++(⟨4,s,⟨#[]⟩⟩::cU.map λa=>(⟨5,a.1,a.2⟩:It))++r;rw[<-e];simp only[se,oW]
   have kk:∀o,Z [] wr (wr.alloc o):=λo=>(Z.refl [] wr).alloc o;have CT:=V (λo=>AA HY.out HB.out a2.out _ ⟨5,cU[i].1,cU[i].2⟩ (wr.alloc o) (u.trans (kk o)) (JW.mono HM.out a1.out k (kk o)) y);have P:=V (λo=>K.kept (kk o));simp only[q]at CT;generalize cU[i].1=u1 at *;generalize cU[i].2=u2 at *;clear q y kk k u K;go_wp21;refine(CT.out _).mono ?_;rintro e W3⟨rfl,⟨k,u⟩,X⟩;have z:=V k;have F:=V u;have a9:=V (X _ _ (P.out _));clear k u X CT P;go_wp2;go_roundw
   case rel=>grind[Hid.out]
   case measure=>simp[intOf];omega
  .have he:cU.take i=cU:=Ag (by grind[Hid.out]);rw[he]at k;have z:=V k;have F:=V u;clear u K he;rcases k with⟨k,hw⟩|⟨k,hw⟩
   .have I:=aN hw 1;dsimp at I;have a5:=eS hw;clear k hw;go_wp2;go_ret;exact⟨⟨_,rfl,.inl rfl⟩,z.out,F.out⟩
   .have I:=aN hw 1;dsimp at I;have a5:=eS hw;have a0:=V (λp=>(show JW l b J3 JE p wr from .inr ⟨k,hw⟩));clear k hw;go_wp2;go_ret;exact⟨⟨_,rfl,.inr ⟨rfl,a0.out⟩⟩,z.out,F.out⟩
end
theorem Xw(l b:Nat)(tot:List Ev)(w0:J)(J3:List It->J->Prop)(JE:J->Prop)(u:Rnd l (fQ tot) w0 J3 JE)(y:w0.heap.size<=b)(g:∀R,Wk R b l false->JE R->JE (R.setCell ⟨b,1,none⟩ (.bool true)))(H:∀pre W W',J3 pre W->Z [] W W'->J3 pre W')(z:∀W W',JE W->Z [] W W'->JE W'):
  Vis 200 (cW b) (λ_=>false) tot w0 (λpre W=>JW l b J3 JE (fQ pre) W):=by
 have e:∀pre C,fQ (pre++[C])=fQ pre++rE C:=λpre C=>by simp[fQ]
 refine {mono:=λpre W W' h P=>h.mono H z P,dt:=λs=>?_,cm:=λs=>?_,tx:=λs=>?_,tQ:=λs=>?_,enter:=?_}
 .refine⟨432,cW b,λw=>by kernel_rfl,λw=>by kernel_rfl,enters_of func432 (by rfl) rfl,λpre W p k q=>?_⟩;have d:=vk q;rw[e]at d
  try simp
  rw[e];exact wdt u y g s _ W p k d
 .refine⟨431,cW b,λw=>by kernel_rfl,λw=>by kernel_rfl,enters_of func431 (by rfl) rfl,λpre W p k q=>?_⟩;have d:=vk q;rw[e]at d
  try simp
  rw[e];exact wcm u y g s _ W p k d
 .refine⟨435,cW b,λw=>by kernel_rfl,λw=>by kernel_rfl,enters_of func435 (by rfl) rfl,λpre W p k q=>?_⟩;have d:=vk q;rw[e]at d
  try simp
  rw[e];exact wtx u y g s _ W p k d
 .refine⟨434,cW b,λw=>by kernel_rfl,λw=>by kernel_rfl,enters_of func434 (by rfl) rfl,λpre W p k q=>?_⟩;have d:=vk q;rw[e]at d
  try simp
  rw[e];exact wlv u y g s _ W p k d
 refine⟨433,cW b,λw=>by kernel_rfl,λw=>by kernel_rfl,enters_of func433 (by rfl) rfl,λpre W s I cU p k q K F=>?_⟩;have d:=vk q;rw[e]at d;rw[e];refine(wen u y g H z s I cU _ W p k d K F).mono ?_;grind
section
attribute [local go_sem] Oper.semAt_some
attribute [local go_sem] oq
attribute [local simp] oq
theorem Du:∀{d:gZ},(∀i∈AC d,ir (σ.nm i) s=false)->σ.oL s d=none
 |[],_=>rfl
 |none::_,_=>rfl
 |some i::r,h=>by
  show(if ir _ s then some i else σ.oL s r)=none;rw[h i (by simp[AC])];exact Du λj e=>h j (by grind[AC])
theorem Dv(g:ir (σ.nm i) s=true):∀{d:gZ} {pre:List Nat},pre++[i] <+:AC d->(∀j∈pre,ir (σ.nm j) s=false)->σ.oL s d=some i
 |[],pre,h,_=>by grind[List.append_eq_nil_iff,AC]
 |none::_,pre,h,_=>by grind[List.append_eq_nil_iff,AC]
 |some k::r,[],h,_=>by
  have⟨t,ht⟩:=h;have e:=by simp[AC]at ht;exact ht.1
  grind[N.oL]
 |some k::r,p::pre,h,hp=>by
  have⟨t,ht⟩:=h;have e:p=k/\pre++[i]++t=AC r:=by simpa [AC]using ht
  obtain⟨rfl,e2⟩:=e;show(if ir (σ.nm p) s then some p else σ.oL s r)=_;rw[hp p (by simp)];simp;exact Dv g ⟨t,e2⟩ (λj q=>hp j (by simp[q]))
def xO(W:J)(h:b≠D):(W.putObj D o).cell? ⟨b,0,none⟩=W.cell? ⟨b,0,none⟩:=afm (rR h)
theorem Dw(h:RF E f σ w)(s:O):
  Calls prog 276 #[Bp E,Y s] w λe w'=>e=dw (oV f (σ.jH s))/\Z [] w w':=by
 obtain⟨L,rfl,hr⟩:=h;refine(vF (n:=9)).1 ?_;refine vG func276 rfl trivial ?_ rfl;simp only[ntmps276,vI,sg,tX,Nat.reduceAdd,Nat.reduceSub,vJ,vK,vL,vM,tw,oW];obtain⟨u,k⟩:∃u,u=(w.alloc (cV #[Y s] 9)).alloc (cV #[.pointer none] 68):=⟨_,rfl⟩;have R:Z [] w u:=by rw[k];exact((Z.refl _ _).alloc _).alloc _
 have B0:u.heap[w.heap.size]?=some (cV #[Y s] 9):=by rw[k];exact(Below.heap_alloc _ _ _ (by simp)).trans (aY w _)
 have B1:u.heap[w.heap.size+1]?=some (cV #[.pointer none] 68):=by rw[k];have:=aY (w.alloc (cV #[Y s] 9)) (cV #[.pointer none] 68);rwa [xD]at this
 have p:u.heap.size=w.heap.size+1+1:=by rw[k];simp
 have a1:=hr.dB R;have a5:=hr.lt;have HB:=ID E.bB u;have HN:=(λ(W:J) (hk:Z [] w W) (i:Nat) (e:sZ) (X:σ.db i=some e)=>(hr.dB hk).tI X);have HA:=(λ(i:Nat) (X:some i∈σ.act)=>hr.wf.act (some i) X);have HO:=(λg (hg:L.cv.ownBlock=some g)=>(hr.oh.lt g hg).2);have HZ:=V p;have HW:=V k;clear p k
 gi_wp2_with fail
 rw[<-HW.out];refine(callsIn_wide.2 HB).mono ?_;rintro e w'⟨rfl,rfl⟩;gi_wp2;refine Zc (by omega) a1 rfl [w.heap.size+1] ?_
  (λpre W=>Z [] w W/\W.heap[w.heap.size]?=some (cV #[Y s] 9)/\W.heap[w.heap.size+1]?=some (cV #[.pointer none] 68)/\∀i∈pre,ir (σ.nm i) s=false)
  (λc pre W=>c=.ret/\Z [] w W/\∃d i,pre=d++[i]/\(∀j∈d,ir (σ.nm j) s=false)/\ir (σ.nm i) s=true/\W.heap[w.heap.size+1]?=some (cV #[cW (L.dk i)] 68))
  ?_ ?_ ?_ (λx=>{tmps:=#[Bp E,Y s,undef,cW w.heap.size,cW (w.heap.size+1),ig (some x),Bp E,MP u.heap.size,ig (some x),undef,undef,undef,undef,undef,undef,undef],defers:=[]}) ?assign ?body ?done ?stop
 grind;rintro pre A B row⟨h1,h2,z,I⟩ hg hr;have p:=HZ.out;exact⟨jG h1 hg hr (by omega),iE h2 hg hr (by omega),iE z hg hr (by omega),I⟩;rintro c pre A B row⟨h0,h1,d,i,h2,z,I,h5⟩ hg hr;have p:=HZ.out;exact⟨h0,jG h1 hg hr (by omega),d,i,h2,z,I,iE h5 hg hr (by omega)⟩;have hk:Z [] u (u.alloc (cV #[Bp E] 120)):=(Z.refl _ _).alloc _;exact⟨R.trans hk,hk.at B0 (by simp),hk.at B1 (by simp),by simp⟩
 case assign=>
  intro l x W K U;gi_wp2;exact U
 case body=>
  rintro l pre i W X⟨C,B2,B3,B4⟩ _;have a3:=HA i X;obtain⟨e0,a2⟩:∃e0,σ.db i=some e0:=Option.isSome_iff_exists.1 a3;have c0:=HN W C i e0 a2;have c1:=aN B2 0;have H:=aN B3 0;have f3:=cQ B3 0;dsimp at c1 H;rw[show ig (some (L.dk i))=cW (L.dk i)from rfl];gi_wp2;refine zP l (by kernel_rfl) (by kernel_rfl) (by rfl) ?_
  repeat (gi_big_quiet_step (fail))
  refine wpQuietIn_nil ?_;intro _ a4;have⟨nq,hw''⟩:=a4;subst hw'';cases hq:ir (σ.nm i) s with
  |true=>
   have HQ:=hq;have P:((σ.nm i).toList==s.toList)=true:=hq;rw[P];gi_wp2;refine⟨((Z.refl [w.heap.size+1] W).drewN nq).setCell (.inl (by simp)) _,rfl,(C.drewN nq).setCell (.inr (by simp)) _,pre,i,rfl,B4,HQ,?_⟩;exact bJ (show(W.drewN nq).heap[w.heap.size+1]?=_ from B3) 0 _
  |false=>
   have HQ:=hq;have P:((σ.nm i).toList==s.toList)=false:=hq;rw[P];gi_wp2;refine⟨(Z.refl _ W).drewN nq,C.drewN nq,B2,B3,λy hy=>?_⟩;grind
 case done=>
  rintro D W HD⟨C,h2,z,I⟩ U;have H:=aN z 0;have f3:=cQ z 0;dsimp at H;have q:σ.jH s=none:=Du I;have F:=V q;have HS:=V (nG z 0 (.pointer none) rfl);clear q;gi_wp2;rw[HS.out];refine⟨by simp,.inl ⟨_,_,rfl,QD U,?_⟩⟩;have p:=HZ.out;have hD:=HD;have c4:(W.putObj D (.deferred none)).cell? ⟨w.heap.size+1,0,none⟩=some (.pointer none):=by rw[<-H];exact xO W (by omega)
  exact⟨.pointer none,by simp[results,results276,asAddr,Result.andThen,go_sem,c4],by rw[F.out];rfl,C.take (by omega) _⟩
 case stop=>
  rintro D c pre W HD a0⟨rfl,C,d,i,rfl,z,I,h5⟩ U;have q:σ.jH s=some i:=Dv I a0 z;have F:=V q;have H:=aN h5 0;dsimp at H;clear q;gi_wp2;refine⟨by simp,.inl ⟨_,_,rfl,QD U,?_⟩⟩;have p:=HZ.out;have hD:=HD;have c4:(W.putObj D (.deferred none)).cell? ⟨w.heap.size+1,0,none⟩=some (cW (L.dk i)):=by rw[<-H];exact xO W (by omega)
  exact⟨cW (L.dk i),by simp[results,results276,asAddr,Result.andThen,go_sem,c4],by rw[F.out];rfl,C.take (by omega) _⟩
end
theorem aai(L:iD)(i:Nat)(h:i<L.length):(flat L)[i*2]?=some (Y (L[i]).1)/\(flat L)[i*2+1]?=some (Y (L[i]).2):=by
 induction L generalizing i with
 |nil=>simp at h
 |cons a L ih=>
  cases i with
  |zero=>simp[flat]
  |succ i=>
   grind[flat]
theorem yC.at2{d:Option Addr}{u:Nat}(h:yC w (.slice d cU.length u) cU){k:Nat}(z:k<cU.length):∃g,d=some ⟨g,0,none⟩/\w.cell? ⟨g,k*2,none⟩=some (Y cU[k].1)/\w.cell? ⟨g,k*2+1,none⟩=some (Y cU[k].2):=by
 obtain⟨g,hg⟩:∃g,d=some ⟨g,0,none⟩:=by
  rcases h.2 with⟨e,C⟩|⟨q,p,y,e,_⟩
  all_goals grind
 have⟨f0,f1⟩:=aai cU k z;grind[World.ownsRow.cellAt]
def ak8(w:J)(k:Nat)(g:fN)(q:O×O->Bool)(cU:iD):Prop:=
 (∀d w,(callFunc k d).run prog w=.ok (.enter k d) w)/\∀W,Z [] w W->∀a∈cU,Calls prog k (#[.agg #[Y a.1,Y a.2]]++g) W λe W'=>e=dw (.bool (q a))/\Z [] W W'
theorem OL(k:Nat)(u:fN)(q:O×O->Bool)(R:cY)(cU:iD)(w:J)(K:yC w R cU)(hn:cU.length<=4096)(hq:ak8 w k u q cU):
  Calls prog 366 #[R,.func (.func k) #[] u] w λe w'=>∃n:Int,e=dw (G n)/\decide (0<=n)=cU.any q/\Z [] w w':=by
 have⟨ao,cp,hav⟩:=cP K;subst hav;have⟨hcf,HC⟩:=hq;have U:=V K;clear K;go_enter func366,ntmps366;go_wp21
 go_loopw [8] (λv wr=>∃d:Nat,v=G d/\d<=cU.length/\(∀a∈cU.take d,q a=false)/\Z [] w wr) (λv _=>cU.length-(intOf v).toNat)
 case atStart=>grind[Z.refl]
 case round=>
  obtain⟨d,rfl,a1,C,F⟩:=hrel;by_cases p:d<cU.length
  .obtain⟨g,rfl,c0,c1⟩:=yC.at2 (F.ownsRow U (λ_ _=>by simp)) p;have D:=HC wr F cU[d] (sd p);have HN:=V C;have I:=V F;have H:cU.take (d+1)=cU.take d++[cU[d]]:=by rw[GH,pU p];rfl
   have a0:=V H;have z:∀b,q cU[d]=b->(b=true->cU.any q=true):=λb hb h=>List.any_eq_true.2 ⟨cU[d],sd p,by rw[hb,h]⟩;generalize hqq:q cU[d]=b at D z;have HQ:=hqq;have HY:=V (z b rfl);clear C F H;generalize cU[d].1=x at *;generalize cU[d].2=y at *;go_wp21;refine D.mono ?_;rintro e W3⟨rfl,P⟩;have X:=I.trans P;cases b with
   |true=>
    go_wp2;go_ret;simp_all
   |false=>
    go_wp2;go_roundw
    case rel=>
     grind[Hid.out]
    case measure=>simp[intOf];omega
  .have HF:Hid (cU.any q=false):=V (by
    grind)
   have I:=V F;clear F C;go_wp2;go_ret;exact⟨-1,rfl,by grind[Hid.out],I⟩
def yF(k:Nat)(d:fN)(q:O×O->Bool)(g:cY)(cU:iD)(w:J)(z:yC w g cU)(C:cU.length<=4096)(F:ak8 w k d q cU):
  Calls prog 344 #[g,.func (.func k) #[] d] w λe w'=>e=dw (.bool (cU.any q))/\Z [] w w':=by
 go_enter func344,ntmps344;go_wp21;refine(OL k d q g cU w z C F).mono ?_;rintro e H⟨n,rfl,p,y⟩;have u:=V p;clear p;go_wp2
 all_goals go_ret
 all_goals exact⟨by rw[<-u.out];rfl,y⟩
def agC(b:Nat)(s:O)(a:O×O)(w:J)(g:w.cell? ⟨b,0,none⟩=some (Y s))(d:b<w.heap.size):
  Calls prog 345 #[.agg #[Y a.1,Y a.2],cW b] w λe w'=>e=dw (.bool (ir a.1 s))/\Z [] w w':=by
 go_wp2;go_ret;exact⟨rfl,((Z.refl [] w).alloc _)⟩
def ajU(k:Nat)(p:O)(q:cY)(P kv:cY)(cU:iD)(s:O)(w:J)(I:w.heap[k]?=some (cV #[Y p,q,P,kv] 139))(z:yC w q cU)(K:cU.length<=4096):
  Calls prog 317 #[cW k,Y s] w λe w'=>e=dw (.bool (uo cU s))/\Z [] w w':=by
 obtain⟨u,d⟩:∃u,u=w.alloc (cV #[Y s] 9):=⟨_,rfl⟩;have g:Z [] w u:=by rw[d];exact(Z.refl _ _).alloc _
 have R:(w.alloc (cV #[Y s] 9)).cell? ⟨k,1,none⟩=some q:=by rw[<-d,aN (g.at I (by simp))];rfl
 have C:=yF 345 #[cW w.heap.size] (λa=>ir a.1 s) q cU u (g.ownsRow z (λ_ _=>by simp)) K ⟨enters_of func345 (by rfl) rfl,λW F a _=>agC w.heap.size s a W (by rw[aN (F.at (by rw[d];exact aY w _) (by simp))];rfl) (eS (F.at (by rw[d];exact aY w _) (by simp)))⟩;have⟨ao,cp,hav⟩:=cP z;subst hav;have H:=V d.symm;clear d;go_enter func317,ntmps317;go_wp21;rw[H.out];refine C.mono ?_;rintro e U⟨rfl,y⟩;go_wp2;go_ret;exact⟨rfl,(g.trans y)⟩
def pJ(a b:O×O):Bool:=ir a.1 b.1&&ir a.2 b.2
theorem acj(x:O×O)(av:cY)(cU:iD)(w:J)(hA:yC w av cU)(hn:cU.length<=4096):
  Calls prog 371 #[av,.agg #[Y x.1,Y x.2]] w λe w'=>∃n:Int,e=dw (G n)/\decide (0<=n)=cU.any (λy=>pJ x y)/\Z [] w w':=by
 have⟨ao,cp,hav⟩:=cP hA;subst hav;obtain⟨R,p⟩:∃R,R=w.alloc (cV #[Y x.1,Y x.2] 295):=⟨_,rfl⟩;have u:Z [] w R:=by rw[p];exact(Z.refl _ _).alloc _
 have b1:R.heap[w.heap.size]?=some (cV #[Y x.1,Y x.2] 295):=by rw[p];exact aY w _
 have HA:=u.ownsRow hA (λ_ _=>by simp);have HW:=V p.symm;have H:=V b1;clear p b1;go_enter func371,ntmps371;go_wp21;rw[HW.out]
 go_loopw [8] (λv wr=>∃d:Nat,v=G d/\d<=cU.length/\(∀a∈cU.take d,pJ x a=false)/\Z [] R wr) (λv _=>cU.length-(intOf v).toNat)
 case atStart=>grind[Z.refl]
 case round=>
  obtain⟨d,rfl,a0,F,z⟩:=hrel;by_cases C:d<cU.length
  .obtain⟨g,rfl,c0,c1⟩:=yC.at2 (z.ownsRow HA (λ_ _=>by simp)) C;have d0:=aN (z.at H.out (by simp)) 0;have d1:=aN (z.at H.out (by simp)) 1;dsimp at d0 d1;have HN:=V F;have I:=V z;have P:cU.take (d+1)=cU.take d++[cU[d]]:=by rw[GH,pU C];rfl
   have K:=V P;have HY:=V (λ(h:pJ x cU[d]=true)=>List.any_eq_true.2 ⟨cU[d],sd C,h⟩);have HP:=(show pJ x cU[d]=(ir x.1 cU[d].1&&ir x.2 cU[d].2)from rfl);clear F z P;generalize cU[d]=y at *;have⟨y0,y1⟩:=y;obtain⟨x0,x1⟩:=x;simp only[]at *;have q:∀(X:Bool),(ir x0 y0&&ir x1 y1)=X->pJ (x0,x1) (y0,y1)=X:=λX h=>h;by_cases e0:x0.toList=y0.toList
   .by_cases e1:x1.toList=y1.toList
    .have U:=V (q true (by unfold ir;grind));go_wp2_with fail;go_region
     all_goals (try go_wp2)
     all_goals (try go_ret)
     all_goals exact⟨(d:Int),rfl,by grind[Hid.out],u.trans I.drew⟩
    .have U:=V (q false (by unfold ir;grind));go_wp21;go_region
     all_goals (try go_wp2)
     all_goals (try go_roundw)
     all_goals first
      |(case rel=>
        refine⟨d+1,by go_num,by omega,λa k=>?_,I.drew⟩;rw[K.out]at k;rcases List.mem_append.1 k with k|k;exact HN a k;rw[List.mem_singleton.1 k];exact U)
      |(case measure=>simp[intOf];omega)
      |skip
   .have U:=V (q false (by grind[ir]));go_wp21;go_region
    all_goals (try go_wp2)
    all_goals (try go_roundw)
    all_goals first
     |(case rel=>
       refine⟨d+1,by go_num,by omega,λa k=>?_,I.drew⟩;rw[K.out]at k;rcases List.mem_append.1 k with k|k;exact HN a k;rw[List.mem_singleton.1 k];exact U)
     |(case measure=>simp[intOf];omega)
     |skip
  .have HF:Hid (cU.any (λy=>pJ x y)=false):=V (by
    grind)
   have I:=V z;clear z F;go_wp2;go_ret;exact⟨-1,rfl,by grind[Hid.out],u.trans I⟩
def Rl(x:O×O)(g:cY)(cU:iD)(w:J)(p:yC w g cU)(z:cU.length<=4096):
  Calls prog 350 #[g,.agg #[Y x.1,Y x.2]] w λe w'=>e=dw (.bool (cU.any λy=>pJ x y))/\Z [] w w':=by
 have d:=(Z.refl [] w).alloc (cV #[Y x.1,Y x.2] 295);have C:=acj x g cU _ (d.ownsRow p (λ_ _=>by simp)) z;have⟨ao,cp,hav⟩:=cP p;subst hav;go_enter func350,ntmps350;go_wp21;refine C.mono ?_;rintro e F⟨n,rfl,k,u⟩;have q:=V k;clear k;go_wp2
 all_goals go_ret
 all_goals exact⟨by rw[<-q.out];rfl,(d.trans u)⟩
def adT(b k:Nat)(z:O)(F pv kv:cY)(cU:iD)(a:O×O)(w:J)(hb:w.heap[b]?=some (cV #[cW k] 68))(K:w.heap[k]?=some (cV #[Y z,F,pv,kv] 139))(I:yC w F cU)(hn:cU.length<=4096):
  Calls prog 349 #[.agg #[Y a.1,Y a.2],cW b] w λe w'=>e=dw (.bool (!(cU.any λy=>pJ a y)))/\Z [] w w':=by
 obtain⟨p,g⟩:∃p,p=w.alloc (cV #[Y a.1,Y a.2] 295):=⟨_,rfl⟩;have d:Z [] w p:=by rw[g];exact(Z.refl _ _).alloc _
 have H:p.heap[w.heap.size]?=some (cV #[Y a.1,Y a.2] 295):=by rw[g];exact aY w _
 have U:=aN H 0;have X:=aN H 1;have c2:=aN (d.at hb (by simp)) 0;have c3:=aN (d.at K (by simp)) 1;dsimp at U X c2 c3;have a0:k<p.heap.size:=eS (d.at K (by simp));have C:=(λq=>Rl a F cU (p.drewN q) ((d.drewN q).ownsRow I (λ_ _=>by simp)) hn);have⟨ao,cp,hav⟩:=cP I;subst hav;have R:=V g.symm;clear g;go_enter func349,ntmps349;go_wp21;rw[R.out]
 go_region_with (go_at_call 350;refine(C 1).mono ?_;rintro e w2⟨rfl,u⟩;have P:=V ((d.drewN 1).trans u);clear u)
 all_goals (try go_wp2)
 all_goals (try go_ret)
 all_goals exact⟨rfl,P⟩
def agc(E:Env)(x:Nat×Nat×O):dJ E (pA x)=O1 x:=rfl
def Ta(E:Env)(x:Nat×Nat×O)(w:J):Calls prog 228 #[O1 x] w λe w'=>e=dw (.bool (!jn x.2.2))/\Z [] w w':=by
 have d:=xQ E (pA x) w;rw[agc]at d;have p:=(λW=>JD x.2.2 W);have q:(pA x).chars=x.2.2:=rfl;rw[q]at d;go_enter func228,ntmps228;go_wp21;refine d.mono ?_;rintro e u⟨rfl,g⟩;go_wp21;refine(p u).mono ?_;rintro e y⟨rfl,k⟩;go_wp2;go_ret;exact⟨rfl,(g.trans k)⟩
theorem aji.at{base:Nat}{d:Option Addr}{u:Nat}{xs:List (Nat×Nat×O)}(h:w.ownsRow base 124 1 (.slice d xs.length u) xs.length (xs.map O1)){k:Nat}(z:k<xs.length):∃g,d=some ⟨g,0,none⟩/\w.cell? ⟨g,k,none⟩=some (O1 xs[k]):=by
 obtain⟨g,hg⟩:∃g,d=some ⟨g,0,none⟩:=by
  rcases h.2 with⟨e,C⟩|⟨q,p,y,e,_⟩
  all_goals grind
 subst hg;exact⟨g,rfl,by rw[h.cellAt k (by omega)];simp[z]⟩
theorem Qv(E:Env)(base:Nat)(F:cY)(xs:List (Nat×Nat×O))(w:J)(z:w.ownsRow base 124 1 F xs.length (xs.map O1))(hn:xs.length<=4096):
  Calls prog 290 #[F,.func (.func 228) #[] #[]] w λe w'=>∃n:Int,e=dw (G n)/\decide (0<=n)=(xs.any λx=>!jn x.2.2)/\Z [] w w':=by
 have⟨ao,cp,hav⟩:=cP z;subst hav;have U:=enters_of func228 (by rfl) rfl;have I:=(λW x=>Ta E x W);have H:=V z;clear z;go_enter func290,ntmps290;go_wp21
 go_loopw [8] (λv wr=>∃d:Nat,v=G d/\d<=xs.length/\(∀a∈xs.take d,(!jn a.2.2)=false)/\Z [] w wr) (λv _=>xs.length-(intOf v).toNat)
 case atStart=>grind[Z.refl]
 case round=>
  obtain⟨d,rfl,X,p,q⟩:=hrel;by_cases u:d<xs.length
  .obtain⟨g,rfl,c0⟩:=aji.at (q.ownsRow H (λ_ _=>by simp)) u;have D:=I wr xs[d];have HN:=V p;have y:=V q;have P:=V (show xs.take (d+1)=xs.take d++[xs[d]] by simp);have k:∀b,(!jn xs[d].2.2)=b->(b=true->(xs.any λx=>!jn x.2.2)=true):=λb R h=>List.any_eq_true.2 ⟨xs[d],sd u,by rw[R,h]⟩;generalize hqq:(!jn xs[d].2.2)=b at D k;have HQ:=hqq;have HY:=V (k b rfl);clear p q;go_wp21;refine D.mono ?_;rintro e W3⟨rfl,C⟩;have K:=y.trans C;cases b with
   |true=>
    go_wp2;go_ret;simp_all
   |false=>
    go_wp2;go_roundw
    case rel=>
     grind[Hid.out]
    case measure=>simp[intOf];omega
  .have HF:Hid ((xs.any λx=>!jn x.2.2)=false):=V (by
    grind)
   have y:=V q;clear q p;go_wp2;go_ret;exact⟨-1,rfl,by grind[Hid.out],y⟩
def Hh(E:Env)(base:Nat)(d:cY)(xs:List (Nat×Nat×O))(w:J)(k:w.ownsRow base 124 1 d xs.length (xs.map O1))(p:xs.length<=4096):
  Calls prog 227 #[d,.func (.func 228) #[] #[]] w λe w'=>e=dw (.bool (xs.any λx=>!jn x.2.2))/\Z [] w w':=by
 go_enter func227,ntmps227;go_wp21;refine(Qv E base d xs w k p).mono ?_;rintro e u⟨n,rfl,q,g⟩;go_wp2
 all_goals go_ret
 all_goals exact⟨rfl,g⟩
attribute [local go_sem] Oper.semAt_some
def gI(d rec:Nat->cR->M Unit)(t:cR):M Unit:=do
 kh d
 rO λσ=>{σ with waiting:=[],mode:=σ.kept}
 gh rec t
 return ()
def Env.lock(E:Env)(v:cY)(d:List (Nat×Nat×O)):Env:={E with wv:=some (v,d)}
def Rel.lock(h:Rel E L σ w):Rel (E.lock L.wv σ.waiting) L σ w:=by
 have⟨C,hb,hC⟩:=h.du;exact
  {fr:=h.fr,env:=⟨h.env.Gu,h.env.Y7,h.env.spec,h.env.aam,h.env.ZK,h.env.rU⟩,Dz:=h.Dz,qH:=h.qH,inj:=h.inj,Ar:=h.Ar,Ge:=h.Ge,uq:=h.uq,Eg:=h.Eg,wf:=h.wf
   du:=⟨C,hb,⟨hC.size,hC.low,hC.cC,hC.act,hC.head,hC.form,hC.mode,hC.kept,hC.wait,hC.Jm,hC.fJ,hC.dk,hC.behind⟩⟩
   ng:=h.ng,oh:=h.oh,Ic:=h.Ic,vu:=h.vu,Ep:=h.Ep,mY:=h.mY,MF:=h.MF,rd:=h.rd,TR:=h.TR,tok:=h.tok,Lq:=h.Lq,bz:=h.bz,bB:=h.bB,bR:=h.bR,bN:=h.bN,zd:=h.zd,ab:=h.ab,tb:=h.tb
   ME:=λp d=>by cases d;simp}
theorem Rel.unlock{e:List (Nat×Nat×O)}(h:Rel (E.lock v e) L σ w)(d:E.wv=none):Rel E L σ w:=by
 have⟨C,hb,hC⟩:=h.du;exact
  {fr:=h.fr,env:=⟨h.env.Gu,h.env.Y7,h.env.spec,h.env.aam,h.env.ZK,h.env.rU⟩,Dz:=h.Dz,qH:=h.qH,inj:=h.inj,Ar:=h.Ar,Ge:=h.Ge,uq:=h.uq,Eg:=h.Eg,wf:=h.wf
   du:=⟨C,hb,⟨hC.size,hC.low,hC.cC,hC.act,hC.head,hC.form,hC.mode,hC.kept,hC.wait,hC.Jm,hC.fJ,hC.dk,hC.behind⟩⟩
   ng:=h.ng,oh:=h.oh,Ic:=h.Ic,vu:=h.vu,Ep:=h.Ep,mY:=h.mY,MF:=h.MF,rd:=h.rd,TR:=h.TR,tok:=h.tok,Lq:=h.Lq,bz:=h.bz,bB:=h.bB,bR:=h.bR,bN:=h.bN,zd:=h.zd,ab:=h.ab,tb:=h.tb
   ME:=λp g=>by grind}
def At.unlock{g:List (Nat×Nat×O)}(h:At (E.lock v g) f0 n0 w0 f σ w)(d:E.wv=none):At E f0 n0 w0 f σ w:=by
 have⟨L,e,hr⟩:=h.rel;exact⟨⟨L,e,hr.unlock d⟩,h.ext,h.le,h.fr,h.hw⟩
theorem M.MN{α d e:Type}(m:M α)(k:α->M d)(g:d->M e)(σ:N):((m>>=k)>>=g) σ=(m>>=λa=>k a>>=g) σ:=by
 grind[cH]
theorem Rel.PK(h:Rel E L σ w)(e:E.wv=none):Rel E {L with wv:=gq} {σ with waiting:=[]} (w.setCell ⟨E.bB,194,none⟩ (gq)):=by
 have⟨C,hb,hC⟩:=h.du;have d:Z [E.bB] w (w.setCell ⟨E.bB,194,none⟩ (gq)):=(Z.refl _ w).setCell (.inl (by simp)) _;have g:KT E.bs [179,124] w _:=.fS d (λk d _=>by grind[bB]);grind[amf,bJ,World.ownsRow_nil]
def At.PK(h:At E f0 n0 w0 f σ w)(g:E.wv=none):At E f0 n0 w0 f {σ with waiting:=[]} (w.setCell ⟨E.bB,194,none⟩ (gq)):=by
 have⟨L,e,hr⟩:=h.rel;refine h.to ⟨{L with wv:=gq},e,hr.PK g⟩ (dr _) ?_;have⟨C,hb,hC⟩:=hr.du;have d:Z [E.bB] w (w.setCell ⟨E.bB,194,none⟩ (gq)):=(Z.refl _ w).setCell (.inl (by simp)) _;exact .fS d (λk d=>by simp at d;subst d;exact⟨⟨_,_,_,hb,by decide⟩,hr.bB⟩)
def I8(d:Nat->cR->M Unit)(e:Bool)(x:Nat×Nat×O):M Unit:=if e then oF d (pA x)else gw (pA x)
def pa(d:Nat->cR->M Unit)(e:Bool):List (Nat×Nat×O)->M Unit
 |[]=>pure ()
 |x::r=>do
  I8 d e x
  pa d e r
def CZ(d:Nat->cR->M Unit)(e:Bool)(x:Nat×Nat×O)(r:List (Nat×Nat×O)):pa d e (x::r)=(I8 d e x>>=λ_=>pa d e r):=rfl
def MY(d:Nat->cR->M Unit):∀e,pa d true e=qD d e
 |[]=>rfl
 |x::r=>by unfold pa qD;rw[MY d r];rfl
def MX(d:Nat->cR->M Unit):∀e,pa d false e=qF e
 |[]=>rfl
 |x::r=>by unfold pa qF;rw[MX d r];rfl
theorem Jh(E:Env)(a5:E.wv=none)(d rec:Nat->cR->M Unit)(ac:∀v ws (m:Nat) (t:cR),eY E t->eP (E.lock v ws) 165 (λ_=>#[Bp E,G m,dJ E t]) (d m t) uV)(hA:∀(m:Nat)(t:cR),eY E t->eP E 165 (λ_=>#[Bp E,G m,dJ E t]) (rec m t) uV)(t:cR)(ht:eY E t):eP E 131 (λ_=>#[Bp E,dJ E t]) (gI d rec t) uV:=by
 intro f σ w h HS;have⟨L,hL,hr⟩:=h;obtain⟨R,P⟩:∃R,R=gI d rec t σ:=⟨_,rfl⟩;rw[<-P]at HS|-;obtain⟨fo,a7⟩:∃fo,fo=σ.waiting.any λx=>!jn x.2.2:=⟨_,rfl⟩;obtain⟨k,a4⟩:∃k,k=σ.waiting:=⟨_,rfl⟩;obtain⟨v0,a3⟩:∃v0,v0=L.wv:=⟨_,rfl⟩;have ad:R=(pa d fo k>>=λ_=>(do
   rO λσ=>{σ with waiting:=[],mode:=σ.kept}
   gh rec t
   return ():M Unit)) σ:=by
  rw[P];unfold gI;rw[M.cH,M.cH];have e1:kh d σ=pa d fo k σ:=by
   unfold kh;rw[<-a7,a4];cases fo;rw[MX];rfl;rw[MY];rfl
  rw[e1]
 have a8:=hr.lock;rw[<-a3,<-a4]at a8;have H:=At.start (E:=E.lock v0 k) ⟨L,hL,a8⟩;have C1:=Hh E E.bs L.wv σ.waiting w hr.mY hr.MF;rw[<-a7,<-a3]at C1;have a9:=hr.mY;rw[<-a3,<-a4]at a9;have⟨ao,cp,hsh⟩:=cP a9;have ak:k.length<=4096:=by rw[a4];exact hr.MF
 have c0:=hr.af8;rw[<-a3,hsh]at c0;rw[hsh]at C1;have X:=hr.lt;have aj:∀(fn:Fn)(first ab:fN)(w:J),(Instr.makeFunc fn first ab).run prog w=.ok (.func fn first ab) w:=λ_ _ _ _=>rfl;have ai:=enters_of func103 (by rfl) rfl;have ah:=enters_of func129 (by rfl) rfl;have y:=V ad;have aa:=V hsh;have HE:∀x:Nat×Nat×O,eP (E.lock v0 k) (if fo then 129 else 103) (λ_=>#[Bp E,O1 x]) (I8 d fo x) uV:=by
  intro x;cases fo with
  |true=>exact Dd (E.lock v0 k) d (λm t ht=>ac v0 k m t ht) (pA x) (λh=>by cases h)
  |false=>exact ur (E.lock v0 k) (dO _) (pA x)
 have HA:=hA;clear P ad a8 a9 hsh hr hL hA ac a7 a4 a3;cases fo with
 |true=>
  have a6:Hid (∀x:Nat×Nat×O,eP (E.lock v0 k) 129 (λ_=>#[Bp E,O1 x]) (I8 d true x) uV):=HE;clear HE;go_enter func131,ntmps131;go_wp21;refine C1.mono ?_;rintro e w1⟨rfl,F⟩;have c1:=(F.cell (p:=⟨E.bB,194,none⟩) X (by simp)).trans c0;have a1:E.bB<w1.heap.size:=kL X F.size;replace H:=H.k0 F;clear F C1;go_wp21
  go_loopw [21] (λv wr=>∃(u:Nat)(g:Nat->Nat)(σ':N),v=G u/\u<=k.length/\R=(pa d true (k.drop u)>>=λ_=>(do
   rO λσ=>{σ with waiting:=[],mode:=σ.kept}
   gh rec t
   return ():M Unit)) σ'/\At (E.lock v0 k) f σ.nodes.length w g σ' wr) (λv _=>k.length-(intOf v).toNat)
  case atStart=>exact⟨0,f,σ,rfl,yQ _,y,H⟩
  case round=>
   clear H y c0 c1 X a1;obtain⟨u,g,σ',rfl,ae,P,z⟩:=hrel;by_cases a2:u<k.length
   .have⟨L',hL',hr'⟩:=z.rel;have⟨e1,e2⟩:=hr'.ME _ rfl;have q:=hr'.mY;rw[e1,e2]at q;dsimp only at q;rw[aa.out]at q;obtain⟨gb,rfl,c5⟩:=aji.at q a2;rw[US a2]at P;have C:R=(I8 d true k[u]>>=λ_=>pa d true (k.drop (u+1))>>=λ_=>(do
      rO λσ=>{σ with waiting:=[],mode:=σ.kept}
      gh rec t
      return ():M Unit)) σ':=by
     rw[P,CZ,M.MN]
    replace H:=z;have y:=V C;have a0:=a6 k[u];clear P C z q e1 e2 hr' hL';rw[show O1 k[u]=.iface 187 (.agg #[G (k[u].1),G (k[u].2.1),Y k[u].2.2])from rfl]at c5 a0;go_wp21;refine dC (a0) H y HS rfl (λ_ _ _ _ h=>And.intro rfl (lS h)) ?_;clear H y;rintro(_) f σ w H HX HF y;go_wp2;go_roundw
    case rel=>exact⟨u+1,f,σ,by go_num,by omega,y,H⟩
    case measure=>simp[intOf];omega
   .have C:R=(gh rec t>>=λ_=>(Pure.pure ():M Unit)) {σ' with waiting:=[],mode:=σ'.kept}:=by
     rw[P,Li (by omega)];rfl
    have H1:=(z.unlock a5);obtain⟨I,K,c4⟩:∃I K,wr.cell? ⟨E.bB,194,none⟩=some (.slice I σ'.waiting.length K):=by
     have⟨L4,_,hr4⟩:=H1.rel;have⟨I,K,e4⟩:=cP hr4.mY;grind[Rel.af8]
    have f4:=H1.free 194;have af:=H1.lt;have U:=H1.PK a5;have c5:=U.Ve;have c6:=U.pK;have f6:=U.free 192;have ag:=U.lt;have H:=U.eV σ'.kept;have y:=V C;clear P C z H1 U;go_wp21;refine dC (rN E rec HA t ht) H y HS rfl (λ_ _ _ _ h=>And.intro rfl (lS h)) ?_;clear H y;rintro(_) f σ w H HX HF y;go_wp2;go_end0;exact cE y H rfl
 |false=>
  have a6:Hid (∀x:Nat×Nat×O,eP (E.lock v0 k) 103 (λ_=>#[Bp E,O1 x]) (I8 d false x) uV):=HE;clear HE;go_enter func131,ntmps131;go_wp21;refine C1.mono ?_;rintro e w1⟨rfl,F⟩;have c1:=(F.cell (p:=⟨E.bB,194,none⟩) X (by simp)).trans c0;have a1:E.bB<w1.heap.size:=kL X F.size;replace H:=H.k0 F;clear F C1;go_wp21
  go_loopw [21] (λv wr=>∃(u:Nat)(g:Nat->Nat)(σ':N),v=G u/\u<=k.length/\R=(pa d false (k.drop u)>>=λ_=>(do
   rO λσ=>{σ with waiting:=[],mode:=σ.kept}
   gh rec t
   return ():M Unit)) σ'/\At (E.lock v0 k) f σ.nodes.length w g σ' wr) (λv _=>k.length-(intOf v).toNat)
  case atStart=>exact⟨0,f,σ,rfl,yQ _,y,H⟩
  case round=>
   clear H y c0 c1 X a1;obtain⟨u,g,σ',rfl,ae,P,z⟩:=hrel;by_cases a2:u<k.length
   .have⟨L',hL',hr'⟩:=z.rel;have⟨e1,e2⟩:=hr'.ME _ rfl;have q:=hr'.mY;rw[e1,e2]at q;dsimp only at q;rw[aa.out]at q;obtain⟨gb,rfl,c5⟩:=aji.at q a2;rw[US a2]at P;have C:R=(I8 d false k[u]>>=λ_=>pa d false (k.drop (u+1))>>=λ_=>(do
      rO λσ=>{σ with waiting:=[],mode:=σ.kept}
      gh rec t
      return ():M Unit)) σ':=by
     rw[P,CZ,M.MN]
    replace H:=z;have y:=V C;have a0:=a6 k[u];clear P C z q e1 e2 hr' hL';rw[show O1 k[u]=.iface 187 (.agg #[G (k[u].1),G (k[u].2.1),Y k[u].2.2])from rfl]at c5 a0;go_wp21;refine dC (a0) H y HS rfl (λ_ _ _ _ h=>And.intro rfl (lS h)) ?_;clear H y;rintro(_) f σ w H HX HF y;go_wp2;go_roundw
    case rel=>exact⟨u+1,f,σ,by go_num,by omega,y,H⟩
    case measure=>simp[intOf];omega
   .have C:R=(gh rec t>>=λ_=>(Pure.pure ():M Unit)) {σ' with waiting:=[],mode:=σ'.kept}:=by
     rw[P,Li (by omega)];rfl
    have H1:=(z.unlock a5);obtain⟨I,K,c4⟩:∃I K,wr.cell? ⟨E.bB,194,none⟩=some (.slice I σ'.waiting.length K):=by
     have⟨L4,_,hr4⟩:=H1.rel;have⟨I,K,e4⟩:=cP hr4.mY;grind[Rel.af8]
    have f4:=H1.free 194;have af:=H1.lt;have U:=H1.PK a5;have c5:=U.Ve;have c6:=U.pK;have f6:=U.free 192;have ag:=U.lt;have H:=U.eV σ'.kept;have y:=V C;clear P C z H1 U;go_wp21;refine dC (rN E rec HA t ht) H y HS rfl (λ_ _ _ _ h=>And.intro rfl (lS h)) ?_;clear H y;rintro(_) f σ w H HX HF y;go_wp2;go_end0;exact cE y H rfl
attribute [local go_sem] Oper.semAt_some
def Bw(d:M Unit)(t:cR):M Unit:=λσ=>if σ.inScope (da [t.name]) zT then d σ else .ok () σ
def QT(E:Env)(v:cY)(p:O->Bool)(W:J):Prop:=∃k d,v=.func (.func k) #[] d/\Ask E.bm v p W
def QT.k{E:Env}{v:cY}{p:O->Bool}{W W':J}(h:QT E v p W)(d:Z [] W W'):QT E v p W':=by
 have⟨k,lb,e,ha⟩:=h;exact⟨k,lb,e,ha.k0 d⟩
def SlS(s:O)(v:cY)(W:J):Prop:=∃g,v=ky g 1 1/\W.heap[g]?=some (cV #[Y s] 9)
def SlS.k{s:O}{v:cY}{W W':J}(h:SlS s v W)(d:Z [] W W'):SlS s v W':=by
 have⟨g,e,hb⟩:=h;exact⟨g,e,d.at hb (by simp)⟩
structure IfI(E:Env)(t:cR)(σ:N)(ta tb:Int)(tao:Option Addr)(tn tcp:Nat)(W0:J)(z0 z1 z2 z3 z4 z5 z6 z7:Bool)(s4 s5 s6 s7 s8 s9 s10 s11:cY)(W:J):Prop where
 f0:z0=true->s4=eF E.bB
 f1:z1=true->s5=dJ E t
 f2:z2=true->s6=.agg #[G ta,G tb,Y t.name,.slice tao tn tcp]
 f3:z3=true->s7=Y t.name
 f4:z4=true->SlS t.name s8 W
 f5:z5=true->QT E s9 (da [t.name]) W
 f6:z6=true->QT E s10 zT W
 f7:z7=true->s11=.bool (σ.inScope (da [t.name]) zT)
 d2:z2=true->z1=true
 d3:z3=true->z2=true
 d4:z4=true->z3=true
 d5:z5=true->z4=true
 d7:z7=true->z0=true/\z5=true/\z6=true
 wi:Z [] W0 W
theorem Ps(E:Env)(t:cR)(r:Ru)(rr:M Unit)(hr:jA E r t rr)(b1 b2:Nat)(u:cY)(h:RF E f σ w)(hs:Bw rr t σ≠ .stuck)(mq:box w b1 (eF E.bB) 120)(a0:box w b2 u 167)(hu:kV E.bm E.bB (f 0) r u w):
  Calls prog 231 #[dJ E t,eF b1,eF b2] w (Leaves E f σ.nodes.length w (Bw rr t σ) uV):=by
 obtain⟨R,hR⟩:∃R,R=Bw rr t σ:=⟨_,rfl⟩;rw[<-hR]at hs|-;have⟨ta,tb,tao,tn,tcp,HTG⟩:=DX E t h;have a7:=(λw=>zV ta tb t.name tao tn tcp w);have a1:=V h;have HS:=hs;have HR:=V hR;have a3:=V a0;have HU:=hu;have aa:=hr;have a4:=(λW (hk:Z [] w W)=>(by rw[aN (hk.at mq (by simp))];rfl:W.cell? ⟨b1,0,none⟩=some (eF E.bB)));clear h hR a0;go_enter func231,ntmps231;go_wp21;refine tz (by rfl) ?_
 try (change wpAny _ _ _ _ _ _ _ (World.drew _))
 refine Ft (I:=λz ac W=>∃z0 z1 z2 z3 z4 z5 z6 z7 s4 s5 s6 s7 s8 s9 F K,z=#[z0,z1,z2,z3,z4,z5,z6,z7]/\ac=⟨#[dJ E t,eF b1,eF b2,undef,s4,s5,s6,s7,s8,s9,F,K,undef,undef,undef],[]⟩/\IfI E t σ ta tb tao tn tcp w z0 z1 z2 z3 z4 z5 z6 z7 s4 s5 s6 s7 s8 s9 F K W) ?_ ?_ _ _ _ _ ?_ ?_
 .rintro z a W k⟨z0,z1,z2,z3,z4,z5,z6,z7,s4,s5,s6,s7,s8,s9,F,K,rfl,rfl,d⟩ hi;simp only[Region.ready,UM,UO]at hi;have⟨a2,hc⟩:=hi;have a2:k<8:=a2;obtain rfl|rfl|rfl|rfl|rfl|rfl|rfl|rfl:k=0\/k=1\/k=2\/k=3\/k=4\/k=5\/k=6\/k=7:=by omega
  all_goals simp[Region.binds]at hc
  .refine jO rfl ?_;intro U y;have af:z0=false:=by simp[hc]
   have cc:=a4 W d.wi;go_simp;refine y _ _ ⟨_,_,_,_,_,_,_,_,_,_,_,_,_,_,_,_,rfl,rfl,?_⟩;exact {d with f0:=(λ_=>rfl),d7:=(λhh=>by have h2:=(d.d7 hh).1;grind)}
  .refine jO rfl ?_;intro U y;have mq:z1=false:=by simp[hc]
   go_simp;refine y _ _ ⟨_,_,_,_,_,_,_,_,_,_,_,_,_,_,_,_,rfl,rfl,?_⟩;exact {d with f1:=(λ_=>rfl),d2:=(λ_=>rfl)}
  .refine jO rfl ?_;intro U y;have a0:z2=false:=by simp[hc]
   have e1:=d.f1 (by simp[hc]);subst e1;go_simp;refine(HTG W).mono ?_;rintro e W2⟨rfl,q⟩;refine y _ _ ⟨_,_,_,_,_,_,_,_,_,_,_,_,_,_,_,_,rfl,rfl,?_⟩;exact {d with f2:=(λ_=>rfl),f4:=(λh=>(d.f4 h).k q),f5:=(λh=>(d.f5 h).k q),f6:=(λh=>(d.f6 h).k q),d2:=(λ_=>by simp[hc]),d3:=(λ_=>rfl),wi:=(d.wi.trans q)}
  .refine jO rfl ?_;intro U y;have ag:z3=false:=by simp[hc]
   have e2:=d.f2 (by simp[hc]);subst e2;have al:=a7;go_simp;refine y _ _ ⟨_,_,_,_,_,_,_,_,_,_,_,_,_,_,_,_,rfl,rfl,?_⟩;exact {d with f3:=(λ_=>rfl),d3:=(λ_=>by simp[hc]),d4:=(λ_=>rfl)}
  .refine jO rfl ?_;intro U y;have ah:z4=false:=by simp[hc]
   have e3:=d.f3 (by simp[hc]);subst e3;go_simp;have ka:Z [] W (W.alloc (cV #[Y t.name] 9)):=(Z.refl _ _).alloc _;refine y _ _ ⟨_,_,_,_,_,_,_,_,_,_,_,_,_,_,_,_,rfl,rfl,?_⟩;exact {d with f4:=(λ_=>⟨_,rfl,aY W _⟩),f5:=(λh=>(d.f5 h).k ka),f6:=(λh=>(d.f6 h).k ka),d4:=(λ_=>by simp[hc]),d5:=(λ_=>rfl),wi:=(d.wi.trans ka)}
  .refine jO rfl ?_;intro U y;have ai:z5=false:=by simp[hc]
   have e4:=d.f4 (by simp[hc]);have⟨g,e4,hg⟩:=d.f4 (by simp[hc]);subst e4;go_simp;refine(Wg E.bm g 1 [t.name] W hg (by simp)).mono ?_;rintro e W2⟨⟨v,rfl,ha⟩,q⟩;refine y _ _ ⟨_,_,_,_,_,_,_,_,_,_,_,_,_,_,_,_,rfl,rfl,?_⟩;exact {d with f4:=(λ_=>⟨g,rfl,q.at hg (by simp)⟩),f5:=(λ_=>(by have⟨k,lb,e,_,_⟩:=ha.call;exact⟨k,lb,e,ha⟩)),f6:=(λh=>(d.f6 h).k q),d5:=(λ_=>by simp[hc]),d7:=(λhh=>by have h2:=(d.d7 hh).2.1;grind),wi:=(d.wi.trans q)}
  .refine jO rfl ?_;intro U y;have aj:z6=false:=by simp[hc]
   go_simp;refine(vC E W).mono ?_;rintro e W2⟨k,lb,rfl,ha,q⟩;refine y _ _ ⟨_,_,_,_,_,_,_,_,_,_,_,_,_,_,_,_,rfl,rfl,?_⟩;exact {d with f4:=(λh=>(d.f4 h).k q),f5:=(λh=>(d.f5 h).k q),f6:=(λ_=>⟨k,lb,rfl,ha⟩),d7:=(λhh=>by have h2:=(d.d7 hh).2.2;grind),wi:=(d.wi.trans q)}
  .refine jO rfl ?_;intro U y;have ak:z7=false:=by simp[hc]
   have e0:=d.f0 (by simp[hc]);subst e0;have a5:=d.f5 (by simp[hc]);have a6:=d.f6 (by simp[hc]);go_simp;refine(uJ (a1.dB d.wi) (da [t.name]) zT _ _ a5.choose_spec.choose_spec.2 a6.choose_spec.choose_spec.2).mono ?_;rintro e W2⟨rfl,q⟩;refine y _ _ ⟨_,_,_,_,_,_,_,_,_,_,_,_,_,_,_,_,rfl,rfl,?_⟩;exact {d with f4:=(λh=>(d.f4 h).k q),f5:=(λh=>(d.f5 h).k q),f6:=(λh=>(d.f6 h).k q),f7:=(λ_=>rfl),d7:=(λ_=>by simp[hc]),wi:=(d.wi.trans q)}
 .rintro z a W⟨z0,z1,z2,z3,z4,z5,z6,z7,s4,s5,s6,s7,s8,s9,F,K,rfl,rfl,d⟩ hr;simp only[Region.ready,afq,UO]at hr;have q0:=hr 0 (by decide);simp[Region.binds]at q0;subst q0;have q1:=hr 1 (by decide);simp[Region.binds]at q1;subst q1;have q2:=hr 2 (by decide);simp[Region.binds]at q2;subst q2;have q3:=hr 3 (by decide);simp[Region.binds]at q3;subst q3;have q4:=hr 4 (by decide);simp[Region.binds]at q4;subst q4;have q5:=hr 5 (by decide);simp[Region.binds]at q5;subst q5;have q6:=hr 6 (by decide);simp[Region.binds]at q6;subst q6;have q7:=hr 7 (by decide);simp[Region.binds]at q7;subst q7;have e7:=d.f7 rfl;subst e7;have H:=(At.start a1).k0 d.wi;have P:=V d.wi;clear d;cases hq:σ.inScope (da [t.name]) zT with
  |false=>
   have a9:=(show R=.ok () σ by rw[HR.out];unfold Bw;rw[hq];rfl);go_wp2;go_end0;exact cE a9 H rfl
  |true=>
   have X:R=rr σ:=by rw[HR.out];unfold Bw;rw[hq];rfl
   have ad:rr σ≠ .stuck:=by rw[<-X];exact HS
   have ae:=kV.fr HU (Fr.n (bs:=E.bs) (.df P) E.bm);have⟨k,bs,cs,hv,eg,HC⟩:=aa u f σ W H.rel ae ad;subst hv;have c2:=aN (P.out.at a3.out (by simp)) 0;dsimp at c2;have ab:=V X;clear X;go_wp21;refine HC.mono ?_;intro e W2 hL;have HL:=V hL;have a8:=Fr.df (bs:=E.bs) P;clear hL;have C:=V ab;cases hrr:rr σ with
   |ok a σ2=>
    rw[hrr]at HL C;obtain⟨g,g1,g2,rfl,g4,g5⟩:=HL;have HG:=H.go g4 g1 g2 g5;go_wp2;go_end0;exact cE C HG rfl
   |stop c p=>
    rw[hrr]at HL C;obtain⟨j,rfl,G2,g3⟩:=HL;have G3:=a8.trans g3;go_wp2;exact⟨rfl,nk C G2 G3⟩
   |stuck=>grind
 decide;exact⟨_,_,_,_,_,_,_,_,_,_,_,_,_,_,_,_,rfl,rfl,⟨(by simp),(by simp),(by simp),(by simp),(by simp),(by simp),(by simp),(by simp),(by simp),(by simp),(by simp),(by simp),(by simp),((Z.refl _ _).drew)⟩⟩
def JP{n:O}{a p k:cY}(h:w.heap[i]?=some (cV #[Y n,a,p,k] 139)):w.cell? ⟨i,0,none⟩=some (Y n)/\w.cell? ⟨i,1,none⟩=some a/\i<w.heap.size:=⟨by rw[aN h];rfl,by rw[aN h];rfl,eS h⟩
def aau(i j:Nat)(n1 n2:O)(a1 p1 k1 a2 p2 k2:cY)(d k:iD)(w:J)(hi:w.heap[i]?=some (cV #[Y n1,a1,p1,k1] 139))(hj:w.heap[j]?=some (cV #[Y n2,a2,p2,k2] 139))(U:yC w a1 d)(X:yC w a2 k)(af:d.length<=4096)(ag:k.length<=4096):
  Calls prog 321 #[cW i,cW j] w λe w'=>e=dw (.bool (ir n1 n2&&(d.length==k.length)&&d.all λx=>k.any λy=>pJ x y))/\Z [] w w':=by
 have a0:∀(fn:Fn)(first a4:fN)(w:J),(Instr.makeFunc fn first a4).run prog w=.ok (.func fn first a4) w:=λ_ _ _ _=>rfl;obtain⟨K,I⟩:∃K,K=w.alloc (cV #[cW j] 68):=⟨_,rfl⟩;have kk:Z [] w K:=by rw[I];exact(Z.refl _ _).alloc _
 have b1:K.heap[w.heap.size]?=some (cV #[cW j] 68):=by rw[I];exact aY w _
 have⟨c0,c1,l1⟩:=JP (kk.at hi (by simp));have⟨d0,d1,l2⟩:=JP (kk.at hj (by simp));have e0:K.cell? ⟨w.heap.size,0,none⟩=some (cW j):=by rw[aN b1];rfl
 have C:=V (λW (u:Z [] K W)=>yF 349 #[cW w.heap.size] (λa=>!(k.any λy=>pJ a y)) a1 d W ((kk.trans u).ownsRow U (λ_ _=>by simp)) af ⟨enters_of func349 (by rfl) rfl,λW2 q a _=>adT w.heap.size j n2 a2 p2 k2 k a W2 ((u.trans q).at b1 (by simp)) (((kk.trans u).trans q).at hj (by simp)) (((kk.trans u).trans q).ownsRow X (λ_ _=>by simp)) ag⟩);have a3:=V (eS b1);have P:(!(d.any λa=>!(k.any λy=>pJ a y)))=d.all λx=>k.any λy=>pJ x y:=by
  rw[List.not_any_eq_all_not];simp
 have⟨ao1,cp1,hav1⟩:=cP U;have⟨ao2,cp2,hav2⟩:=cP X;subst hav1 hav2;have HW:=V I.symm;have R:=V kk;have a8:=V P;clear hi hj U X I kk b1 P;cases hq:ir n1 n2 with
 |false=>
  have H:(n1.toList==n2.toList)=false:=hq;clear hq;go_enter func321,ntmps321;go_wp21;rw[HW.out]
  go_quiet (fail)
  go_wp2;go_ret;exact⟨rfl,R.out.drewN _⟩
 |true=>
  have H:(n1.toList==n2.toList)=true:=hq;clear hq;by_cases hl:d.length=k.length
  .have F:((d.length:Int)==(k.length:Int))=true:=by rw[hl];simp
   have ab:=V (show(d.length==k.length)=true by rw[hl];simp);clear hl;go_enter func321,ntmps321;go_wp21;rw[HW.out];obtain⟨bx,a7⟩:∃bx,bx=w.heap.size:=⟨_,rfl⟩;rw[<-a7]at e0 C a3|-;clear a7;have HC:=V (λ(W:J) (u:Z [] K W)=>(⟨(u.cell (p:=⟨i,0,none⟩) l1 (by simp)).trans c0,(u.cell (p:=⟨i,1,none⟩) l1 (by simp)).trans c1,(u.cell (p:=⟨j,0,none⟩) l2 (by simp)).trans d0,(u.cell (p:=⟨j,1,none⟩) l2 (by simp)).trans d1,(u.cell (p:=⟨bx,0,none⟩) a3.out (by simp)).trans e0⟩:_/\_/\_/\_/\_));have ad:=V H;have aa:=V F;have ac:=V a0;clear c0 c1 d0 d1 e0 H F a0;refine tz (by rfl) ?_;refine ln (λ(g:Unit) z=>⟨#[cW i,cW j,undef,cW bx,ce z 31 (.bool false) (.bool (!(d.any λa=>!(k.any λy=>pJ a y)))),cd z 0 (cW i),cd z 1 (cW i),cd z 2 (cW i),cd z 3 (Y n1),cd z 4 (cW j),cd z 5 (cW j),cd z 6 (cW j),cd z 7 (Y n2),cd z 8 (.bool true),cd z 9 (.bool true),cd z 10 (cW i),cd z 11 (cW i),cd z 12 (fR i 1),cd z 13 (.slice ao1 d.length cp1),cd z 14 (G d.length),cd z 15 (cW j),cd z 16 (cW j),cd z 17 (fR j 1),cd z 18 (.slice ao2 k.length cp2),cd z 19 (G k.length),cd z 20 (.bool true),cd z 21 (.bool true),cd z 22 (.bool true),cd z 23 (cW i),cd z 24 (cW i),cd z 25 (fR i 1),cd z 26 (.slice ao1 d.length cp1),cd z 27 (.func (.func 349) #[] #[cW bx]),cd z 28 (.bool (d.any λa=>!(k.any λy=>pJ a y))),cd z 29 (.bool (!(d.any λa=>!(k.any λy=>pJ a y)))),cd z 30 (.bool (!(d.any λa=>!(k.any λy=>pJ a y))))],[]⟩) (λg z W=>Z [] K W) 32 [[],[0],[1],[2],[],[4],[5],[6],[3,7],[8],[9],[9,10],[9,11],[9,12],[9,13],[9],[9,15],[9,16],[9,17],[9,18],[9,14,19],[9,20],[21],[22],[22,23],[22,24],[22,25],[22],[22,26,27],[22,28],[22,29],[30]] (()) rfl rfl ((Z.refl [] K).drew) ?_ ?_
   .repeat' first|exact iU|refine iT ?_ ?_
    all_goals
     rintro g z W hI hc _;simp[yU]at hc;refine jO rfl ?_;intro K' a5;simp only[iL,hc];have⟨c0,c1,d0,d1,e0⟩:=HC.out W hI;have H:=ad.out;have F:=aa.out;have a0:=ac.out;have C1:=V (C.out W hI);go_simp
     first
     |refine a5 _ _ ⟨g,?_,hI⟩
     |refine C1.out.mono ?_;rintro e W2⟨rfl,q⟩;refine a5 _ _ ⟨g,?_,hI.trans q⟩
     simp[lF,td,iL,ug,Cv,hc]
   .rintro g W hI;simp only[sv,OZ];have a9:=V hI;clear hI;rename_i KK a6;refine a6 _ _ ?_;clear a6 KK;go_wp2;go_ret;exact⟨by rw[ab.out,<-a8.out];rfl,R.out.trans a9.out⟩
  .have F:((d.length:Int)==(k.length:Int))=false:=beq_eq_false_iff_ne.2 (by omega);have ae:(d.length==k.length)=false:=beq_eq_false_iff_ne.2 hl;go_enter func321,ntmps321;go_wp21;rw[HW.out]
   go_quiet (fail)
   go_wp2;go_ret;exact⟨by rw[ae];rfl,R.out.drewN _⟩
section
attribute [local go_sem] Oper.semAt_some
attribute [local go_sem] oq
attribute [local simp] oq
def N.tR(σ:N)(j:Nat)(c:eG×Nat)(i:Nat):eG×Nat:=if σ.aaE i j then (some i,c.2+1)else c
def zG(σ:N)(j:Nat):∀(d:gZ)(c:eG×Nat),σ.oM j d c=(AC d).foldl (σ.tR j) c
 |[],_=>rfl
 |none::_,_=>rfl
 |some i::r,c=>by
  show(if σ.aaE i j then σ.oM j r _ else σ.oM j r c)=(AC r).foldl _ _;unfold N.tR;split<;>exact zG σ j r _
theorem JQ(σ:N)(j:Nat):∀(d:List Nat)(c:eG×Nat),(d.foldl (σ.tR j) c).2<=c.2+d.length
 |[],c=>by simp
 |x::d,c=>by
  have h:=JQ σ j d (σ.tR j c x);grind[N.tR]
theorem XZ:∀(d:gZ),(AC d).length<=d.length
 |[]=>dr _
 |none::_=>yQ _
 |some _::r=>by have:=XZ r;grind[AC]
def Rel.alN(h:Rel E L σ w){a b:sZ}(d:σ.db i=some a)(g:σ.db j=some b):
  Calls prog 321 #[cW (L.dk i),cW (L.dk j)] w λe w'=>e=dw (.bool (σ.aaE i j))/\Z [] w w':=by
 have⟨h1,h2,h3⟩:=h.qH i _ (N.fa d);have⟨g1,g2,g3⟩:=h.qH j _ (N.fa g);refine(aau _ _ _ _ _ _ _ _ _ _ _ _ w h1.du g1.du h2 g2 h3 g3).mono ?_;rintro e w'⟨rfl,k⟩;refine⟨?_,k⟩;unfold N.aaE;rw[d,g];rfl
def BQ{k:Nat}{c:fN}{t:TypeId}(d:w.heap[D]?=some o)(g:o.isCells=false)(h:w.heap[k]?=some (.cells c t m)):(w.putObj D o').heap[k]?=some (.cells c t m):=
 (rR (λe=>by subst e;rw[d]at h;cases h;cases g)).trans h
def iS.ahA{nd:zc}(h:iS bs L w i nd)(d:w.heap[D]?=some o)(g:o.isCells=false):iS bs L (w.putObj D o') i nd:=by
 cases nd with
 |el e=>exact⟨⟨BQ d g h.1.du,Fw h.1.row o' d g,h.1.le,h.1.XV⟩,Fw h.2.1 o' d g,h.2.2⟩
 |tx s=>exact BQ d g h
 |cm s=>exact BQ d g h
 |dt s=>exact BQ d g h
theorem Fr.take(h:Fr bs w W)(d:w.heap.size<=D)(o:Obj):Fr bs w (W.putObj D o):=by
 have⟨S,hk,hS⟩:=h;exact⟨S,hk.grown (wH W D o) (λk e=>by grind),hS⟩
def Rel.ahA(h:Rel E L σ w)(d:w.heap[D]?=some o)(e:o.isCells=false)(g:E.w0.heap.size<=D):Rel E L σ (w.putObj D o'):=by
 have⟨C,hb,hC⟩:=h.du;exact
  {fr:=h.fr.take g o'
   env:=h.env
   Dz:=h.Dz
   qH:=λi p k=>(h.qH i p k).ahA d e
   inj:=h.inj,Ar:=h.Ar,Ge:=h.Ge,uq:=h.uq,Eg:=h.Eg,wf:=h.wf
   du:=⟨C,BQ d e hb,hC⟩
   ng:=Fw h.ng o' d e
   oh:=Fw h.oh o' d e
   Ic:=h.Ic,vu:=h.vu,Ep:=h.Ep
   mY:=Fw h.mY o' d e
   MF:=h.MF
   rd:=BQ d e h.rd
   TR:=h.TR
   tok:=Fw h.tok o' d e
   Lq:=h.Lq,bz:=h.bz,bB:=h.bB,bR:=h.bR,bN:=h.bN,zd:=h.zd,ab:=h.ab,tb:=h.tb,ME:=h.ME}
def Fr.other(h:Fr bs w W)(e:w.heap[D]?=some o)(k:o.isCells=false):W.heap[D]?=some o:=by
 have⟨S,hk,hS⟩:=h;have d:D<w.heap.size:=(Array.getElem?_eq_some_iff.1 e).1;refine(hk.block D d λg=>?_).trans e;have⟨⟨c,t,m,h3,_⟩,_⟩:=hS D g d;rw[e]at h3;cases h3;cases k
theorem adY{α z:Type}{k:Nat}{m:M α}{d:(Nat->Nat)->α->cY}(C:m σ≠ .stuck->Calls prog k A w (gX E f σ.nodes.length w (m σ) d))(H:At E f0 n0 w0 f σ w){R:nh z}{K:α->M z}(g:R=(m>>=K) σ)(hs:R≠ .stuck)
  (u:∀c p j w',R=.stop c p->ic w' j c p->Fr E.bs w0 w'->Fr E.bs w w'->Q (oR j) w')
  (I:∀a σ' w',At E f0 n0 w0 f σ' w'->Fr E.bs w w'->R=K a σ'->Q (dw (d f a)) w'):Calls prog k A w Q:=by
 rw[M.cH]at g;refine(C (λe=>hs (by grind))).mono ?_;intro e w' q;cases hr:m σ with
 |ok a σ'=>
  rw[hr]at q g;obtain⟨rfl,P,U,X⟩:=q;grind[At.to]
 |stop c p=>
  rw[hr]at q g;obtain⟨j,rfl,F,y⟩:=q;exact u c p j w' g F (H.fr.trans y) y
 |stuck=>grind
def SS{g:J}{d:N}(H:At E f n w f d g)(p:g.heap[D]?=some (.deferred (some [])))(k:w.heap.size<=D)(hr:r=.ok () d):gX E f n w r uV (nu) (g.putObj D (.deferred none)):=by
 subst hr;have⟨L,e,hr⟩:=H.rel;exact⟨rfl,⟨L,e,hr.ahA p rfl (fK H.hw k)⟩,H.fr.take k _,H.le⟩
def JT{p k:Nat}{d:J}(hs:ic d k c p)(q:Fr E.bs w d)(g:d.heap[D]?=some (.deferred (some [])))(e:w.heap.size<=D)(hr:r=.stop c p):gX E f n w r uV (oR k) (d.putObj D (.deferred none)):=by
 subst hr;exact⟨k,rfl,BQ g rfl hs,q.take e _⟩
def Zw(h:Rel E L σ w)(x:eG)(u:σ.de x=true):
  Calls prog 181 #[fR E.bB 189,oV L.dk x] w λe w'=>e=nu/\RF E L.dk {σ with act:=σ.act.erase x} w'/\Fr E.bs w w'/\Z (E.bB::L.cv.ownBlock.toList) w w':=by
 have⟨C,hL,hC⟩:=h.GX;refine(zE E.bs E.bB 189 _ C _ _ _ w hL h.elA (h.de u)).mono ?_;rintro e w'⟨rfl,d⟩;have⟨_,_,hk,_⟩:=id d;obtain⟨g,k,p,q⟩:=h.zX hL hC (by rw[<-uG h.inj];exact d) λy z=>h.wf.act y (GJ z);exact⟨rfl,⟨g,k,p⟩,q,hk⟩
theorem alo(h:RF E f σ w)(j:Nat)(ao:σ.db j=some ej)(hs:GK j σ≠ .stuck):Calls prog 278 #[Bp E,nV f j] w (gX E f σ.nodes.length w (GK j σ) uV):=by
 have H:=At.start h;obtain⟨L,rfl,hr⟩:=h;refine(vF (n:=9)).1 ?_;refine vG func278 rfl trivial ?_ rfl;simp only[ntmps278,vI,sg,tX,Nat.reduceAdd,Nat.reduceSub,vJ,vK,vL,vM,tw,oW];obtain⟨w1,X⟩:∃w1,w1=((w.alloc (cV #[nV L.dk j] 68)).alloc (cV #[.pointer none] 68)).alloc (cV #[G 0] 3):=⟨_,rfl⟩;have a7:Z [] w w1:=by rw[X];exact(((Z.refl _ _).alloc _).alloc _).alloc _
 have⟨B0,B1,B2⟩:=nK w (cV #[nV L.dk j] 68) (cV #[.pointer none] 68) (cV #[G 0] 3);rw[<-X]at B0 B1 B2;have u:w1.heap.size=w.heap.size+1+1+1:=by rw[X];simp
 have af:=hr.dB a7;have aw:=hr.lt;have av:=hr.Ep;have HB:=ID E.bB w1;have ae:=(λ(W:J) (hk:Z [] w W) (i:Nat) (e:sZ) (hi:σ.db i=some e)=>(hr.dB hk).alN hi ao);have ah:=(λ(W:J) (hk:Z [] w W)=>hr.dB hk);have HA:=(λ(i:Nat) (hi:some i∈σ.act)=>hr.wf.act (some i) hi);have HO:=(λg (hg:L.cv.ownBlock=some g)=>(hr.oh.lt g hg).2);have HZ:=V u;have HW:=V X;have HS:=hs;clear u X
 gi_wp2_with fail
 rw[<-HW.out];refine(callsIn_wide.2 HB).mono ?_;rintro e w'⟨rfl,rfl⟩;gi_wp2;refine Zc (by omega) af rfl [w.heap.size+1,w.heap.size+1+1] ?_
  (λpre W=>Z [] w W/\W.heap[w.heap.size]?=some (cV #[nV L.dk j] 68)/\W.heap[w.heap.size+1]?=some (cV #[oV L.dk (pre.foldl (σ.tR j) (none,0)).1] 68)/\W.heap[w.heap.size+1+1]?=some (cV #[G ((pre.foldl (σ.tR j) (none,0)).2)] 3))
  (λ_ _ _=>False)
  ?_ ?_ ?_ (λx=>{tmps:=#[Bp E,nV L.dk j,undef,cW w.heap.size,cW (w.heap.size+1),cW (w.heap.size+1+1),ig (some x),Bp E,MP w1.heap.size,ig (some x),undef,undef,undef,undef,undef,undef,undef,undef,undef,undef,undef,undef,undef,undef,undef,undef],defers:=[]}) ?assign ?body ?done ?stop
 grind;rintro pre A B row⟨h1,h2,P,h4⟩ hg hr;have u:=HZ.out;exact⟨jG h1 hg hr (by omega),iE h2 hg hr (by omega),iE P hg hr (by omega),iE h4 hg hr (by omega)⟩;rintro c pre A B row h _ _;exact h;have hk:Z [] w1 (w1.alloc (cV #[Bp E] 120)):=(Z.refl _ _).alloc _;exact⟨a7.trans hk,hk.at B0 (by simp),hk.at B1 (by simp),hk.at B2 (by simp)⟩
 case assign=>
  intro l x W K hK;gi_wp2;exact hK
 case body=>
  rintro l pre i W hi⟨HK,B3,B4,B5⟩ aq;have au:(pre.foldl (σ.tR j) (none,0)).2<=4096:=by have:=JQ σ j pre (none,0);simp at this;omega
  have a3:=HA i hi;obtain⟨e0,an⟩:∃e0,σ.db i=some e0:=Option.isSome_iff_exists.1 a3;have C:=ae W HK i e0 an;have c1:=aN B3 0;dsimp at c1;have a0:=V (show(pre++[i]).foldl (σ.tR j) (none,0)=σ.tR j (pre.foldl (σ.tR j) (none,0)) i by simp);rw[show ig (some (L.dk i))=cW (L.dk i)from rfl];generalize pre.foldl (σ.tR j) (none,0)=c at *
  gi_wp2_with fail
  refine(vH l (callsIn_wide.2 C)).mono ?_;rintro e W3⟨rfl,U⟩;have G3:=U.at B3 (by simp);have G4:=U.at B4 (by simp);have G5:=U.at B5 (by simp);have d4:=aN G4 0;have d5:=aN G5 0;have f4:=cQ G4 0;have f5:=cQ G5 0;dsimp at d4 d5;have a8:=HK.trans U;have a9:=U.mono (S':=[w.heap.size+1,w.heap.size+1+1]) (by simp);cases hq:σ.aaE i j with
  |true=>
   have HQ:=V (show σ.tR j c i=(some i,c.2+1) by unfold N.tR;rw[hq];rfl);gi_wp2;have k6:Z [w.heap.size+1,w.heap.size+1+1] W3 ((W3.setCell ⟨w.heap.size+1,0,none⟩ (cW (L.dk i))).setCell ⟨w.heap.size+1+1,0,none⟩ (G ((c.2:Int)+1))):=((Z.refl _ W3).setCell (.inl (by simp)) _).setCell (.inl (by simp)) _;refine⟨a9.trans k6,((a8.setCell (.inr (by simp)) _).setCell (.inr (by simp;omega)) _),k6.at G3 (by simp;omega),?_,?_⟩;rw[a0.out,HQ.out];exact(Below.heap_setCell _ _ _ _ (by simp)).trans (bJ G4 0 _);rw[a0.out,HQ.out];exact bJ ((Below.heap_setCell _ _ _ _ (by simp)).trans G5) 0 _
  |false=>
   have HQ:=V (show σ.tR j c i=c by unfold N.tR;rw[hq];rfl);gi_wp2;exact⟨a9,a8,G3,by rw[a0.out,HQ.out];exact G4,by rw[a0.out,HQ.out];exact G5⟩
 case done=>
  rintro D W HD⟨aa,a6,P,h4⟩ y;rw[<-zG]at P h4;have ay:(σ.oM j σ.act.reverse (none,0)).2<=4096:=by
   rw[zG];have a1:=JQ σ j (AC σ.act.reverse) (none,0);have a2:=XZ σ.act.reverse;simp at a1 a2;omega
  obtain⟨R,z⟩:∃R,R=GK j σ:=⟨_,rfl⟩;have hs:=HS;rw[<-z]at hs;have F:R=if 3<=(σ.oM j σ.act.reverse (none,0)).2 then (gv (σ.oM j σ.act.reverse (none,0)).1>>=λ_=>(fC (some j)>>=λ_=>(Pure.pure ():M Unit))) σ else (fC (some j)>>=λ_=>(Pure.pure ():M Unit)) σ:=z
  generalize σ.oM j σ.act.reverse (none,0)=c at *;have c1:=aN a6 0;have c2:=aN P 0;have c3:=aN h4 0;dsimp at c1 c2 c3;replace H:=H.k0 aa;replace HS:=hs;by_cases P:3<=c.2
  .rw[dd P]at F;have HR:=V F;clear F;have a3:σ.de c.1=true:=by
    cases hq:σ.de c.1 with
    |true=>rfl
    |false=>
     refine absurd ?_ HS;rw[HR.out,M.cH];unfold gv;rw[hq];rfl
   have ag:Hid (R=(fC (some j)>>=λ_=>(Pure.pure ():M Unit)) {σ with act:=σ.act.erase c.1}):=by
    refine V ?_;rw[HR.out,M.cH];unfold gv;rw[a3];rfl
   have ab:=Zw (ah _ aa.drew) c.1 a3;have ax:=H.lt
   gi_wp2_with fail
   refine wpIn_wide.2 ?_;rename_i K am _;refine wp_mono (Q:=Exit.then (λa W'=>∃d e b,a={tmps:=#[Bp E,nV L.dk j,undef,cW w.heap.size,cW (w.heap.size+1),cW (w.heap.size+1+1),undef,Bp E,MP w1.heap.size,undef,undef,undef,undef,undef,undef,undef,G c.2,b,Bp E,d,fR E.bB 189,oV L.dk c.1,e,undef,undef,undef],defers:=[{target:=Target.collected D,args:=#[]}]}/\At E L.dk σ.nodes.length w L.dk {σ with act:=σ.act.erase c.1} W'/\Fr E.bs W W'/\Z (E.bB::L.cv.ownBlock.toList) W W') (λ_ _ _=>False)) ?_ ?_
   .go_region_with (go_at_call 181;refine ab.mono ?_;rintro e w5⟨rfl,q2,q3,q4⟩;have ai:=V ((H.k0 ((Z.refl _ W).drew)).to q2 (qq _ _ rfl) q3);have ac:=V q3;have ad:=V (((Z.refl _ W).drew).trans q4);clear q2 q3 q4)
    all_goals exact⟨_,_,_,rfl,ai.out,(Fr.df ((Z.refl _ W).drew)).trans ac.out,ad.out⟩
   .intro e a W' hq;cases e with
    |normal=>
     obtain⟨d,e,b,rfl,aj,ak,al⟩:=hq;have b2:W'.heap[w.heap.size]?=some (cV #[nV L.dk j] 68):=by
      refine al.at a6 λhm=>?_;rcases List.mem_cons.1 hm with hm|hm;omega;grind
     have c1:=aN b2 0;dsimp at c1;have k:=Fr.other (o:=.deferred (some [])) ak y rfl;replace H:=aj;replace y:=k;replace HR:=ag;refine am _ _ ?_
     gi_wp2_with fail
     refine callsIn_wide.2 ?_;refine adY (λhs=>Bg E (some j) _ _ _ H.rel hs) H HR.out HS ?_ ?_;intro c p q ws h1 h2 P h4;have k:=Fr.other (o:=.deferred (some [])) h4 y rfl;refine⟨by simp,.inl ⟨_,_,rfl,QD k,?_⟩⟩;have u:=HZ.out;have hD:=HD;exact JT h2 P k (by omega) (z.symm.trans h1)
     .rintro a ap w2 a4 h2 a5;have k:=Fr.other (o:=.deferred (some [])) h2 y rfl;have I:=k;gi_wp2;refine⟨by simp,.inl ⟨_,_,rfl,QD I,?_⟩⟩;have u:=HZ.out;have hD:=HD;refine⟨.tuple #[],?_,SS a4 I (by omega) (z.symm.trans a5)⟩;simp[results,results278,go_sem]
    |_=>exact hq.elim
  .rw[cZ P]at F;have HR:=V F;clear F
   gi_wp2_with fail
   refine callsIn_wide.2 ?_;refine adY (λhs=>Bg E (some j) _ _ _ H.rel hs) H HR.out HS ?_ ?_;intro c p q ws h1 h2 P h4;have k:=Fr.other (o:=.deferred (some [])) h4 y rfl;refine⟨by simp,.inl ⟨_,_,rfl,QD k,?_⟩⟩;have u:=HZ.out;have hD:=HD;exact JT h2 P k (by omega) (z.symm.trans h1)
   .rintro a ap w2 a4 h2 a5;have k:=Fr.other (o:=.deferred (some [])) h2 y rfl;have I:=k;gi_wp2;refine⟨by simp,.inl ⟨_,_,rfl,QD I,?_⟩⟩;have u:=HZ.out;have hD:=HD;refine⟨.tuple #[],?_,SS a4 I (by omega) (z.symm.trans a5)⟩;simp[results,results278,go_sem]
 case stop=>rintro D c pre W hD ar h;exact h.elim
end
def Dq(σ:N)(x:eG)(d:Nat):∀e:gZ,({σ with form:=x}:N).lf d e=σ.lf d e
 |[]=>rfl
 |y::r=>by
  unfold N.lf;rw[Dq σ x d r];rfl
def Mu(E:Env)(t:cR)(ht:eY E t):eP E 193 (λ_=>#[Bp E,dJ E t]) (kQ t) uV:=by
 refine dI λf σ w R k HS H=>?_;unfold kQ at k;go_enter func193,ntmps193;have⟨kb,lbb,cb,HQ⟩:=H.rel.bounds;have I:=H.lt;have C:=cb;have U:=(Z.refl [] w).drew;go_wp21
 go_cut [11]from 4 to 10 (λr wc=>r=.bool (σ.inScope (da [dN]) (dG))/\At E f σ.nodes.length w f (σ.close (da [dN]) (dG)) wc)
 case first=>
  go_region_with (first
   |(go_at_call 219;refine(kH E [dN] w.drew (by simp)).mono ?_;rintro e w1⟨k1,a0,rfl,u,y⟩;have g:=U.trans y;have c1:w1.cell? ⟨E.bB,186,none⟩=some (.func (.func kb) #[] lbb):=(g.cell (p:=⟨E.bB,186,none⟩) I (by simp)).trans C;have z:=V u;have d:=V g;clear u y g)
   |(go_at_call 222;refine(Cz (p:=da [dN]) (q:=dG) (H.k0 d).rel z (HQ.k0 d)).mono ?_;rintro e w2⟨rfl,K,P⟩;have X:=V ((H.k0 d).to K (wU _ _ _) P);clear K P))
  all_goals (try (go_wp21))
  all_goals (go_meet;exact⟨rfl,X⟩)
 case rest=>
  obtain⟨rfl,F⟩:=hcut;replace H:=F;replace k:Hid (R=(iX t>>=λ_=>(pure ():M Unit)) (σ.close (da [dN]) dG)):=by
   have:=k;rw[M.cH,sx]at this;exact V this
  go_wp21;refine dC (pt E (dO E) t ht) H k HS rfl lT ?_;rintro(_) f σ w H HX HF k;go_wp2;go_end0;exact cE k H rfl
def RV(E:Env)(t:cR):eP E 212 (λ_=>#[Bp E,dJ E t]) (mF) uV:=by
 refine dI λf σ w R d HS H=>?_;unfold mF at d;go_enter func212,ntmps212;have⟨kb,lbb,cb,HQ⟩:=H.rel.bounds;have I:=H.lt;have y:=cb;have P:=(Z.refl [] w).drew;go_wp21
 go_cut [11]from 4 to 10 (λr wc=>r=.bool (σ.inScope (da [dx]) (dG))/\At E f σ.nodes.length w f (σ.close (da [dx]) (dG)) wc)
 case first=>
  go_region_with (first
   |(go_at_call 219;refine(kH E [dx] w.drew (by simp)).mono ?_;rintro e w1⟨k1,a0,rfl,z,F⟩;have u:=P.trans F;have c1:w1.cell? ⟨E.bB,186,none⟩=some (.func (.func kb) #[] lbb):=(u.cell (p:=⟨E.bB,186,none⟩) I (by simp)).trans y;have K:=V z;have k:=V u;clear z F u)
   |(go_at_call 222;refine(Cz (p:=da [dx]) (q:=dG) (H.k0 k.out).rel K.out (HQ.k0 k.out)).mono ?_;rintro e w2⟨rfl,U,X⟩;have HZ:=V ((H.k0 k.out).to U (wU _ _ _) X);clear U X))
  all_goals (try (go_wp21))
  all_goals (go_meet;exact⟨rfl,HZ.out⟩)
 case rest=>
  obtain⟨rfl,C⟩:=hcut;replace H:=C;clear C HQ y P cb I;have g:=d.out;rw[M.cH,sx]at g;simp only at g;cases hc:σ.inScope (da [dx]) dG with
  |true=>
   rw[hc]at g;replace d:Hid (R=(tM>>=λa=>(pure a:M Unit)) (σ.close (da [dx]) dG)):=V (M.tail (by simpa using g));clear hc g;go_wp21;refine mC (Uz E) H d HS rfl lT ?_;clear H d;rintro(_) σ w H HF d;go_wp2;go_end0;exact cE d.out H rfl
  |false=>
   rw[hc]at g;replace d:Hid (R=.ok () (σ.close (da [dx]) dG)):=V (show R=(pure ():M Unit) (σ.close (da [dx]) dG)from by simpa using g);clear hc g;go_wp2;go_end0;exact cE d.out H rfl
def Z8(E:Env)(t:cR):eP E 210 (λ_=>#[Bp E,dJ E t]) rl uV:=by
 refine dI λf σ w R d HS H=>?_;unfold rl at d;go_enter func210,ntmps210;have p:=H.Vd;have I:=H.free 191;have K:=H.lt;cases hf:σ.form with
 |none=>
  rw[hf]at p d;replace d:Hid (R=.ok () σ):=d;rw[show oV f none=.pointer none from rfl]at p;have y:=H.tm none rfl;rw[show({σ with form:=none}:N)=σ from by rw[<-hf]]at y;replace H:=y;go_wp2;go_end0;exact cE d H rfl
 |some i=>
  have z:=H.rel.ajQ;rw[hf]at p d z;rw[show oV f (some i)=cW (f i)from rfl]at p;replace H:=H.tm none rfl;have C:=Gc H.rel i z;have k:({σ with form:=none}:N).kg i=σ.kg i:=Dq σ none i _;rw[k]at C;cases hc:σ.kg i with
  |true=>
   rw[hc]at C;have q:=V C;have g:=d;simp only[hc,if_true]at g;replace d:Hid (R=(rO (λσ=>σ.gJ)>>=λ_=>(do fB (some i);return ():M Unit)) {σ with form:=none}):=V g;clear C g;go_wp21;refine q.mono ?_;rintro e w⟨rfl,u⟩;replace H:=H.k0 u;go_wp21;refine zI (λ_=>L0 H.rel) H d HS lT ?_;rintro(_) σ w H F d;go_wp21;refine mC (DE E (some i)) H d HS rfl lT ?_;rintro(_) σ w H F d;go_wp2;go_end0;exact cE d H rfl
  |false=>
   rw[hc]at C;have q:=V C;have g:=d;simp only[hc,lZ,rP]at g;replace d:Hid (R=.ok () {σ with form:=none}):=V g;clear C g;go_wp21;refine q.mono ?_;rintro e w⟨rfl,u⟩;replace H:=H.k0 u;go_wp2;go_end0;exact cE d H rfl
attribute [local go_sem] Oper.semAt_some
theorem RF.wf(h:RF E f σ w):Wf σ:=by have⟨L,_,hr⟩:=h;exact hr.wf
theorem j8{xs:gZ}{n:Int}(h:dA xs n=some i):some i∈xs:=by
 grind[dA]
def Wf.JN(h:Wf σ)(d:σ.last=some i):∃e,σ.db i=some e:=by
 exact Option.isSome_iff_exists.1 (h.cC _ (j8 d))
theorem aaB{d:Type}{R:nh d}{K:Nat->M d}(e:R=(AZ>>=K) σ)(hs:R≠ .stuck):∃i,σ.last=some i/\R=K i σ:=by
 grind[M.cH,AZ]
def lR(E:Env)(t:cR)(p:eY E t):eP E 200 (λ_=>#[Bp E,dJ E t]) (dU t) uV:=by
 refine dI λf σ w R d HS H=>?_;go_enter func200,ntmps200;go_wp21;refine dC (pt E (dO E) t p) H d HS rfl lT ?_;rintro(_) f σ w H q g d;have⟨i,hi,hR2⟩:=aaB d HS;have⟨e,he⟩:=H.rel.wf.JN hi;replace d:=V hR2;clear hR2;go_wp21;refine H.rel.SM.mono ?_;rintro e u⟨rfl,rfl⟩;go_wp21;refine zI (λk=>(alo H.rel i he k)) H d HS lT ?_;rintro(_) σ w H g d;go_wp2;go_end0;exact cE d H rfl
attribute [local go_sem] Oper.semAt_some
def RF.akx(h:RF E f σ w)(x:eG)(d:σ.de x=true):Calls prog 240 #[fR E.bB 188,oV f x] w λe w'=>e=dw (oV f (dA σ.cC (posOf σ.cC x-1)))/\w'=w:=by
 obtain⟨L,rfl,hr⟩:=h;exact yg hr x d
theorem yW(E:Env)(t:cR):eP E 145 (λ_=>#[Bp E,dJ E t]) dQ uV:=by
 intro f σ w h hs;obtain⟨R,hR⟩:∃R,R=dQ σ:=⟨_,rfl⟩;rw[<-hR]at hs|-;have HS:=V hs;have F:=V h;have a3:=V (λW (hk:Z [] w W)=>kL h.lt hk.size);cases hcu:σ.current (da [dj])with
 |false=>
  have q:=V (show R=(ly (da [cD])>>=λ_=>(Pure.pure ():M Unit)) σ by rw[hR];grind[dQ]);have a0:=V hcu;clear h hs hR hcu;go_enter func145,ntmps145;go_wp21;refine tz (by rfl) ?_;refine ln (λ(g:cY) z=>⟨#[Bp E,dJ E t,undef,undef,cd z 0 (Bp E),cd z 1 (g),cd z 2 (.bool false),cd z 3 (.bool false),undef,undef,undef,undef,undef,undef,undef,undef,undef,undef,undef,undef,undef,cd z 17 (.bool false),undef,undef,undef,undef,undef,undef,undef],[]⟩) (λg z W=>Z [] w W/\(dn z 1=true->QT E g (da [dj]) W)) 18 [[],[],[0,1],[2],[3],[3],[3],[3],[3],[3],[3],[3],[3],[3],[3],[3],[3],[3]] (undef) rfl (by rfl) (⟨(Z.refl _ _).drew,λh=>by cases h⟩) ?_ ?_
  .repeat' first|exact iU|refine iT ?_ ?_
   all_goals
    rintro g z W d K hn;simp[yU]at K;refine jO rfl ?_;intro K' p;simp only[iL,K];have ab:=a3.out W d.1;go_simp
    first
    |refine p _ _ ⟨g,?_,d.1,nC d.2 (by decide)⟩
    |refine(sH E W).mono ?_;rintro e W2⟨k,lb,rfl,X,C⟩;refine p _ _ ⟨_,?_,d.1.trans C,λ_=>⟨k,lb,rfl,X⟩⟩
    |refine(Al (F.out.dB d.1) (d.2 K.2.1).choose_spec.choose_spec.2).mono ?_;rintro e W2⟨rfl,rfl⟩;rw[a0.out];refine p _ _ ⟨g,?_,d.1,nC d.2 (by decide)⟩
    simp[lF,td,iL,K]
  .rintro g W d;simp only[sv];have H:=V ((At.start F.out).k0 d.1);clear d;go_wp21;refine(pj E _).mono ?_;rintro e w1⟨k1,a6,rfl,u,y⟩;replace H:=V (H.out.k0 y);have I:=V u;clear u y;go_wp21;refine zI (λ_=>uw H.out.rel I.out) H q HS lT ?_;clear H q;rintro(_) σ w H HF q;go_wp2;go_end0;exact cE q.out H.out rfl
 |true=>
  obtain⟨i,a2⟩:∃i,dA σ.cC (posOf σ.cC σ.last-1)=some i:=by
   cases hq:dA σ.cC (posOf σ.cC σ.last-1)with
   |some i=>simp
   |none=>unfold dQ at hR;grind
  have a4:=V (show R=(if ir (σ.nm i) cD then (do
    let _ <-tJ
    ly (da [cD])
    return ():M Unit) σ else (do ly (da [cD]);return ():M Unit) σ) by rw[hR];grind[dQ])
  have a5:some i∈σ.cC:=j8 a2;obtain⟨ei,a1⟩:∃e,σ.db i=some e:=Option.isSome_iff_exists.1 (h.wf.cC _ a5);have P:σ.de σ.last=true:=by
   cases hl:σ.last with
   |none=>rfl
   |some j=>exact N.uu (h.wf.cC _ (j8 hl))
  have a8:=V P;have a7:=V a2;have aa:=V (λW (hk:Z [] w W)=>(by
   have⟨L,e,hr⟩:=h.dB hk;rw[<-e];exact hr.tI a1:W.cell? ⟨f i,0,none⟩=some (Y (σ.nm i))))
  have a9:=V (λW (hk:Z [] w W)=>(by
   have⟨L,e,hr⟩:=h.dB hk;rw[<-e];exact hr.IC (N.dm a1):f i<W.heap.size))
  have a0:=V hcu;clear h hs hR hcu a2 a5 a1 P;go_enter func145,ntmps145;go_wp21;refine tz (by rfl) ?_;refine ln (λ(g:cY×cY) z=>⟨#[Bp E,dJ E t,undef,undef,cd z 0 (Bp E),cd z 1 (g.1),cd z 2 (.bool true),cd z 3 (.bool true),cd z 4 (g.2),cd z 5 (Bp E),cd z 6 (cW E.bB),cd z 7 (fR E.bB 188),cd z 8 (Bp E),cd z 9 (cW E.bB),cd z 10 (fR E.bB 188),cd z 11 (oV f σ.last),cd z 12 (nV f i),cd z 13 (cW (f i)),cd z 14 (cW (f i)),cd z 15 (Y (σ.nm i)),cd z 16 (.bool (da [cD] (σ.nm i))),cd z 17 (.bool (da [cD] (σ.nm i))),undef,undef,undef,undef,undef,undef,undef],[]⟩) (λg z W=>Z [] w W/\(dn z 1=true->QT E g.1 (da [dj]) W)/\(dn z 4=true->QT E g.2 (da [cD]) W)) 18 [[],[],[0,1],[2],[3],[3],[3,5],[3,6],[3],[3,8],[3,9],[3,10],[3,7,11],[3,12],[3,13],[3,14],[3,4,15],[3,16]] ((undef,undef)) rfl (by rfl) (⟨(Z.refl _ _).drew,λh=>(by cases h),λh=>(by cases h)⟩) ?_ ?_
  .repeat' first|exact iU|refine iT ?_ ?_
   all_goals
    rintro g z W d K hn;simp[yU]at K;refine jO rfl ?_;intro K' p;simp only[iL,K];have ab:=a3.out W d.1;have ac:=a9.out W d.1;have cc:=aa.out W d.1;go_simp
    first
    |refine p _ _ ⟨g,?_,d.1,nC d.2.1 (by decide),nC d.2.2 (by decide)⟩
    |refine(sH E W).mono ?_;rintro e W2⟨k,lb,rfl,X,C⟩;refine p _ _ ⟨(.func (.func k) #[] lb,g.2),?_,d.1.trans C,λ_=>⟨k,lb,rfl,X⟩,nC (λh=>(d.2.2 h).k C) (by decide)⟩
    |refine(pj E W).mono ?_;rintro e W2⟨k,lb,rfl,X,C⟩;refine p _ _ ⟨(g.1,.func (.func k) #[] lb),?_,d.1.trans C,nC (λh=>(d.2.1 h).k C) (by decide),λ_=>⟨k,lb,rfl,X⟩⟩
    |refine(Al (F.out.dB d.1) (d.2.1 K.2.1).choose_spec.choose_spec.2).mono ?_;rintro e W2⟨rfl,rfl⟩;rw[a0.out];refine p _ _ ⟨g,?_,d.1,nC d.2.1 (by decide),nC d.2.2 (by decide)⟩
    |refine(F.out.dB d.1).SM.mono ?_;rintro e W2⟨rfl,rfl⟩;refine p _ _ ⟨g,?_,d.1,nC d.2.1 (by decide),nC d.2.2 (by decide)⟩
    |refine((F.out.dB d.1).akx σ.last a8.out).mono ?_;rintro e W2⟨rfl,rfl⟩;rw[a7.out,show oV f (some i)=nV f i from rfl];refine p _ _ ⟨g,?_,d.1,nC d.2.1 (by decide),nC d.2.2 (by decide)⟩
    |have⟨k,lb,e4,X⟩:=d.2.2 (by simp[K]);rw[e4]at X;have⟨k2,lb2,e5,eg,hcl⟩:=X.call;cases e5;simp only[e4];go_simp;refine(hcl W (wm.refl _ _) _).mono ?_;rintro e W2⟨rfl,rfl⟩;refine p _ _ ⟨g,?_,d.1,nC d.2.1 (by decide),nC d.2.2 (by decide)⟩;simp[td,lF,iL,K,e4]
    all_goals simp[lF,td,iL,K]
  .rintro g W d;simp only[sv];have H:=V ((At.start F.out).k0 d.1);clear d;cases hq:da [cD] (σ.nm i)with
   |false=>
    have U:ir (σ.nm i) cD=false:=by simpa [da]using hq
    replace q:=V (show R=(ly (da [cD])>>=λ_=>(Pure.pure ():M Unit)) σ by rw[a4.out,U];rfl);clear hq U;go_wp21;refine(pj E _).mono ?_;rintro e w1⟨k1,a6,rfl,u,y⟩;replace H:=V (H.out.k0 y);have I:=V u;clear u y;go_wp21;refine zI (λ_=>uw H.out.rel I.out) H q HS lT ?_;clear H q;rintro(_) σ w H HF q;go_wp2;go_end0;exact cE q.out H.out rfl
   |true=>
    have U:ir (σ.nm i) cD=true:=by simpa [da]using hq
    replace q:=V (show R=(tJ>>=λ_=>ly (da [cD])>>=λ_=>(Pure.pure ():M Unit)) σ by rw[a4.out,U];rfl);clear hq U;have ad:=H.out.lt;go_wp21;refine mC (aer E) H q HS rfl lT ?_;clear H q;rintro(_) σ w H HF q;go_wp21;refine(pj E _).mono ?_;rintro e w1⟨k1,a6,rfl,u,y⟩;replace H:=V (H.out.k0 y);have I:=V u;clear u y;go_wp21;refine zI (λ_=>uw H.out.rel I.out) H q HS lT ?_;clear H q;rintro(_) σ w H HF q;go_wp2;go_end0;exact cE q.out H.out rfl
attribute [local go_sem] Oper.semAt_some
theorem Ha(E:Env)(t:cR):eP E 94 (λ_=>#[Bp E,dJ E t]) (iN t) uV:=by
 intro f σ w h hs;have H0:=V (At.start h);have⟨a,b,k,cU⟩:=t;cases k with
 |dK n q=>
  have hx:∃F σ',eE 0 σ=.ok F σ/\lj F (.dt n) .dt σ=.ok () σ'/\iN ⟨a,b,.dK n q,cU⟩ σ=.ok () {σ' with fJ:=q||!ir n aG,mode:=1}:=by
   have e0:iN ⟨a,b,.dK n q,cU⟩ σ=(eE 0>>=λF=>lj F (.dt n) .dt>>=λ_=>(do rO λσ=>{σ with fJ:=q||!ir n aG};fq 1;return ():M Unit)) σ:=rfl;rw[M.cH]at e0;cases hq:eE 0 σ with
   |ok F σ1=>
    obtain rfl:=jC hq;rw[hq]at e0;cases d:lj F (.dt n) .dt σ1 with
    |ok u σ'=>exact⟨F,σ',rfl,d,by rw[e0];dsimp only;rw[M.cH,d];rfl⟩
    |stop c p=>
     exfalso;unfold lj pQ at d;grind
    |stuck=>exact absurd (by rw[e0];dsimp only;rw[M.cH,d]) hs
   |stop c p=>
    exfalso;unfold eE at hq;grind
   |stuck=>grind
  have⟨F,σ',hq1,d,hq3⟩:=hx;obtain⟨R,hR⟩:∃R,R=iN ⟨a,b,.dK n q,cU⟩ σ:=⟨_,rfl⟩;rw[<-hR];have y:=V (hR.trans hq3);have X:=λW (hW:RF E f σ W)=>FW E 0 f σ W hW (by grind);rw[hq1]at X;simp only[dJ];have C:=oS underlying199;obtain⟨P,K⟩:∃P,P=w.alloc (cV #[G a,G b,Y n,.bool q] 199):=⟨_,rfl⟩;have k1:Z [] w P:=by rw[K];exact(Z.refl _ _).alloc _
  have U:P.heap[w.heap.size]?=some (cV #[G a,G b,Y n,.bool q] 199):=by rw[K];exact aY w _
  have a3:=V U;have HC:=V (λW (hF:Fr E.bs P W)=>(by rw[aN (hF.yH U (by decide))];rfl:W.cell? ⟨w.heap.size,2,none⟩=some (Y n)));have a0:=V (λW (hW:RF E f σ W)=>(show W.cell? ⟨E.bB,187,none⟩=some (nV f 0) by have h1:=(At.start hW).ZM;exact h1));have a4:=V (λW (hF:Fr E.bs P W)=>(kL (H0.out.k0 k1).lt hF.size:E.bB<W.heap.size));have HW:=V K.symm;have HA:=V (H0.out.k0 k1);have a5:=V X;have a6:=V d;clear h hs hq1 d hq3 X U k1 K H0 hR;go_enter func94,ntmps94;go_wp21;rw[HW.out];refine tz (by rfl) ?_;refine ln (λ(g:cY) z=>⟨#[Bp E,.iface 199 (.agg #[G a,G b,Y n,.bool q]),undef,undef,cW w.heap.size,.bool true,.tuple #[.agg #[G a,G b,Y n,.bool q],.bool true],.iface 199 (.agg #[G a,G b,Y n,.bool q]),.tuple #[.agg #[G a,G b,Y n,.bool q],.bool true],.agg #[G a,G b,Y n,.bool q],.bool true,.bool true,cd z 0 (Bp E),cd z 1 (cW E.bB),cd z 2 (fR E.bB 187),cd z 3 (nV f 0),cd z 4 (pV f F),cd z 5 (fR w.heap.size 2),cd z 6 (Y n),cd z 7 (.agg #[Y n]),cd z 8 (g),cd z 9 (.iface 237 g),cd z 10 (.tuple #[]),undef,undef,undef,undef,undef,undef,undef,undef,undef,undef,undef,undef,undef],[]⟩) (λg z W=>if dn z 10=true then (∃f',UU σ.nodes.length f f'/\σ.nodes.length<=σ'.nodes.length/\RF E f' σ' W/\Fr E.bs P W)else (RF E f σ W/\Fr E.bs P W/\(dn z 8=true->CmK E f σ 239 n g W))) 11 [[],[0],[1],[2],[3],[],[5],[6],[7],[8],[0,1,2,3,4,5,6,7,8,9]] (undef) rfl rfl (⟨HA.out.rel.dB (Z.refl _ _).drew,Fr.df (Z.refl _ _).drew,λh=>by cases h⟩) ?_ ?_
  .repeat' first|exact iU|refine iT ?_ ?_
   all_goals
    rintro g z W hI hc hn;simp[yU]at hc;refine jO rfl ?_;intro K' I;simp only[iL,hc];have hb:dn z 10=false:=by simp[hc,hn]
    have q:=(cZ (by simp[hb])).mp hI;have a9:=a4.out W q.2.1;have cc:=a0.out W q.1;have c2:=HC.out W q.2.1;go_simp
    first
    |refine I _ _ ⟨g,?_,(cZ (by simp[iR,hb])).mpr ⟨q.1,q.2.1,nC q.2.2 (by decide)⟩⟩
    |refine(a5.out W q.1).mono ?_;rintro e W2⟨rfl,a8,a2,_⟩;refine I _ _ ⟨g,?_,(cZ (by simp[iR,hb])).mpr ⟨a8,q.2.1.trans a2,nC (λh=>(q.2.2 h).frD a2) (by decide)⟩⟩
    |have ka:Z [] W (W.alloc (cV #[Y n] 239)):=(Z.refl _ _).alloc _;refine I _ _ ⟨_,?_,(cZ (by simp[iR,hb])).mpr ⟨q.1.dB ka,q.2.1.trans (.df ka),λ_=>CmK.new q.1 n⟩⟩;have h9:dn z 9=false:=(by simp[hn]);simp[lF,td,iL,aix,hc,h9]
    |obtain⟨k,rfl,k1,k2,k3⟩:=q.2.2 (by simp[hc]);refine(YK E q.1 n false k k1 k2 k3 F a6.out).mono ?_;rintro e W2⟨rfl,f',g1,g2,g3,g4⟩;refine I _ _ ⟨cW k,?_,(dd mn).mpr ⟨f',g1,g2,g3,q.2.1.trans g4⟩⟩
    all_goals simp[lF,td,iL,hc]
  .rintro g W hI;have⟨f2,g1,g2,g3,g4⟩:=(dd sB).mp hI;simp only[sv];have H:=V (HA.out.go g3 g1 g2 g4);have a1:=V (g4.yH a3.out (by decide));clear hI g3 g4 HC a0;have c0:W.cell? ⟨w.heap.size,2,none⟩=some (Y n):=by rw[aN a1.out];rfl
   have c4:W.cell? ⟨w.heap.size,3,none⟩=some (.bool q):=by rw[aN a1.out];rfl
   have c1:=H.out.acx;have f1:=H.out.free 196;have c2:=H.out.pK;have f2:=H.out.free 192;have a7:=H.out.lt;cases q with
   |true=>
    have HF:=V ((H.out.oQ true).eV 1);clear H;go_wp2;go_end0;exact cE y.out HF.out rfl
   |false=>
    cases hq:ir n aG with
    |true=>
     have d:(n.toList==[104,116,109,108])=true:=by
      have e4:(aG:O).toList=[104,116,109,108]:=by first|rfl|decide|simp
      rw[<-e4];exact hq
     have HF:=V ((H.out.oQ false).eV 1);rw[hq]at y;clear H hq;go_wp2;go_end0;exact cE y.out HF.out rfl
    |false=>
     have d:(n.toList==[104,116,109,108])=false:=by
      have e4:(aG:O).toList=[104,116,109,108]:=by first|rfl|decide|simp
      rw[<-e4];exact hq
     have HF:=V ((H.out.oQ true).eV 1);rw[hq]at y;clear H hq;go_wp2;go_end0;exact cE y.out HF.out rfl
 |_=>
  change Calls _ _ _ _ (Leaves E f _ w (.ok () {σ with mode:=1}) uV);simp only[dJ];have C:=uO;have H:=V (H0.out.k0 ((Z.refl [] w).alloc (cV #[G 0,G 0,Y gU,.bool false] 199)));have c2:=H.out.pK;have f2:=H.out.free 192;have a7:=H.out.lt;replace H:=V (H.out.eV 1);clear h hs H0;go_enter func94,ntmps94;go_wp2;go_end0;exact cE rfl H.out rfl
def aaO(h:Rel E L σ w)(x:eG)(g:σ.de x=true):
  Calls prog 181 #[fR E.bB 188,ig (eM L.dk x)] w λe w'=>e=nu/\ToS E L {σ with cC:=σ.cC.erase x} w w':=by
 have⟨C,hL,hC⟩:=h.x9;refine(zE E.bs E.bB 188 _ C _ _ _ w hL h.elO (h.de g)).mono ?_;rintro e w'⟨rfl,d⟩;exact⟨rfl,h.Qy hL hC (by rw[<-uG h.inj];exact d) λy k=>h.wf.cC y (GJ k)⟩
theorem Wz(h:Rel E L σ w)(x y:eG)(g:σ.de x=true)(k:σ.jw y=true):
  Calls prog 270 #[fR E.bB 188,ig (eM L.dk x),ig (eM L.dk y)] w λe w'=>e=nu/\ToS E L {σ with cC:=kB σ.cC x y} w w':=by
 have⟨C,hL,hC⟩:=h.x9;refine(ES E.bs E.bB 188 _ C _ _ _ _ w hL h.elO (h.de g)).mono ?_;rintro e w'⟨rfl,d⟩;exact⟨rfl,h.Qy hL hC (by rw[<-Ko h.inj];exact d) λz p=>by grind[Kq,Wf.cC,Rel.wf]⟩
def Zx(h:Rel E L σ w)(x:eG)(g:σ.de x=true):
  Calls prog 181 #[fR E.bB 189,ig (eM L.dk x)] w λe w'=>e=nu/\ToS E L {σ with act:=σ.act.erase x} w w':=by
 have⟨C,hL,hC⟩:=h.GX;refine(zE E.bs E.bB 189 _ C _ _ _ w hL h.elA (h.de g)).mono ?_;rintro e w'⟨rfl,d⟩;exact⟨rfl,h.Qx hL hC (by rw[<-uG h.inj];exact d) λy k=>h.wf.act y (GJ k)⟩
theorem U3(h:Rel E L σ w)(x y:eG)(g:σ.de x=true)(k:σ.de y=true):
  Calls prog 270 #[fR E.bB 189,ig (eM L.dk x),ig (eM L.dk y)] w λe w'=>e=nu/\ToS E L {σ with act:=kB σ.act x y} w w':=by
 have⟨C,hL,hC⟩:=h.GX;refine(ES E.bs E.bB 189 _ C _ _ _ _ w hL h.elA (h.de g)).mono ?_;rintro e w'⟨rfl,d⟩;exact⟨rfl,h.Qx hL hC (by rw[<-Ko h.inj];exact d) λz p=>by grind[Kq,Wf.act,Rel.wf]⟩
theorem Rel.aiY(h:Rel E L σ w)(i:Nat)(d:cY)(X:(σ.db i).isSome=true)(z:KT E.bs [139,141,280] w w')(y:d.ownBlock=(L.kv i).ownBlock\/∀g,d.ownBlock=some g->w.heap.size<=g)
  (p:σ'.nodes.length=σ.nodes.length) (a0:∀j F,σ'.db j=some F->∃e,σ.db j=some e/\F.name=e.name) (a1:∀j,σ'.db j=none->σ.db j=none)
  (C:∀j K,σ'.nodes[j]?=some K->iS E.bs {L with kv:=λx=>if x=i then d else L.kv x} w' j K) (wf:Wf σ')
  (s0:σ'.cC=σ.cC:=by rfl) (s9:σ'.act=σ.act:=by rfl) (s1:σ'.head=σ.head:=by rfl) (s2:σ'.form=σ.form:=by rfl) (s3:σ'.mode=σ.mode:=by rfl) (s4:σ'.kept=σ.kept:=by rfl) (s5:σ'.dv=σ.dv:=by rfl) (s6:σ'.fJ=σ.fJ:=by rfl) (s7:σ'.dk=σ.dk:=by rfl) (s8:σ'.behind=σ.behind:=by rfl) (sw:σ'.waiting=σ.waiting:=by rfl) (so:σ'.jI=σ.jI:=by rfl) (sp:σ'.dM=σ.dM:=by rfl) (sf:σ'.fresh=σ.fresh:=by rfl) (P:σ'.nB=σ.nB:=by rfl) (R:σ'.ox=σ.ox:=by rfl) (U:σ'.mj=σ.mj:=by rfl):ToS E L σ' w w':=by
 have H:∀j g,j<σ.nodes.length->j≠i->d.ownBlock=some g->(L.kv j).ownBlock≠some g:=by
  intro j g hj u hg q;rcases y with e|e;rw[e]at hg;exact h.Ar i j g (N.jy (i:=i) X) hj (wj u) hg q;grind[zD]
 refine⟨{L with kv:=λx=>if x=i then d else L.kv x},rfl,h.Zb z (λ_ _=>rfl) rfl rfl rfl C h.inj ?_ ?_ ?_ ?_ wf ?_ (Zl p) s0 s9 s1 s2 s3 s4 s5 s6 s7 s8 sw so sp P R U,z.fr (by decide),λk v I=>⟨z.at I.1 (by decide),I.2⟩⟩
 all_goals grind[Ar,Ge,uq,Eg,zd]
theorem abn(h:Rel E L σ w)(u:σ.db i=some ei)(C:σ.db j=some ej)(q:j≠i)(hn:n<=ei.kids.length)(hl:ei.kids.length<1048576):
  Calls prog 169 #[place (L.dk i) n,(Nd.el (L.dk j)).val] w λe w'=>e=nu/\ToS E L ((σ.dh i {ei with kids:=ins ei.kids n (.el j)}).dh j {ej with ff:=some i}) w w':=by
 have z:=N.dm u;have U:=N.dm C;have d:(σ.db i).isSome=true:=by rw[u];rfl
 have F:(σ.db j).isSome=true:=by rw[C];rfl
 have aI:=h.uY u;have lI:=h.xN u;have aJ:=h.uY C;have lJ:=h.xN C;refine(WX E.bs _ n _ _ _ _ _ _ _ _ _ _ _ w (h.th u) (h.th C) (λe=>q (h.inj _ _ e)) (λg hg=>h.Ar j i g U z q hg) (by grind) (by grind) h.bw).mono ?_;rintro e w'⟨rfl,⟨K,E1,f1⟩,E2,hk⟩;have hS:∀s∈L.dk j::L.dk i::(L.kv i).ownBlock.toList,∃x∈[j,i],s=L.dk x\/(L.kv x).ownBlock=some s:=by
  intro s P;rcases List.mem_cons.1 P with rfl|P;simp;rcases List.mem_cons.1 P with rfl|P;simp;grind
 have kt:=h.ktJ [j,i] (by grind) hS hk;have R:((σ.dh i {ei with kids:=ins ei.kids n (.el j)}).db j).isSome=true:=by rw[N.dY q];exact F
 have y:∀x e,x<σ.nodes.length->yC w (L.av x) e->yC w' (L.av x) e:=λx e _ ha=>kt.row ha (by decide);refine⟨rfl,h.aiY i K d kt f1 (by grind[N.dh]) ?_ ?_ ?_ ?_⟩;intro x e' p;by_cases I:x=j;grind[N.eB,N.dh];grind[N.eB,N.dY];intro x p;by_cases I:x=j;grind[N.eB,N.dh];grind[N.eB,N.dY];intro x nd p;rcases N.lh p with⟨rfl,rfl⟩|⟨I,p⟩;grind[iS];rcases N.lh p with⟨rfl,rfl⟩|⟨X,p⟩;show El E.bs w' _ _ _ _ (if x=x then K else L.kv x) _/\_;rw[dd rfl];refine⟨?_,y x _ z aI,lI⟩;rw[Dj];exact E1;have hN:=h.dy [j,i] (by grind) hS hk p (by grind);exact hN.ext (σ:=σ) (Ed.refl _ _) ((List.getElem?_eq_some_iff.1 p).1) rfl (cZ X) (h.wfn p);refine(h.wf.dh (e:={ei with kids:=ins ei.kids n (.el j)}) d (h.wf.ff i ei u) ?_).dh R ?_ ?_;intro k H;rcases Dk H with H|rfl;grind[Wf.kids,Rel.wf];exact F;rw[N.oJ d];exact d;grind[N.jE,Wf.kids,Rel.wf]
theorem Xr(h:Rel E L σ w){p:Nat}{d:sZ}(z:σ.db j=some ej)(C:ej.ff=some p)(u:σ.db p=some d)(q:j≠p)(hn:n<d.kids.length)(X:lO d.kids (Nd.de j)=(n:Int)):
  Calls prog 368 #[cW (L.dk j)] w λe w'=>e=nu/\ToS E L ((σ.dh p {d with kids:=d.kids.eraseIdx n}).dh j {ej with ff:=none}) w w':=by
 have K:=N.dm u;have I:=N.dm z;have R:=h.th z;rw[C]at R;have aP:=h.uY u;have lP:=h.xN u;have aJ:=h.uY z;have lJ:=h.xN z;refine(Gz E.bs _ _ n _ _ _ _ _ _ _ _ _ w R (h.th u) ?_ (λe=>q (h.inj _ _ e)) (λg hg=>h.Ar j p g I K q hg) (by grind) (by rw[Kk h.inj];omega)).mono ?_;grind[Rel.aav,Wf.kids,Rel.wf];rintro e w'⟨rfl,⟨y,E1,f1⟩,E2,U⟩;have kt:=h.ktJ [j,p] (by grind) (by grind) U;have H:((σ.dh p {d with kids:=d.kids.eraseIdx n}).db j).isSome=true:=by rw[N.dY q];exact(by rw[z];rfl)
 refine⟨rfl,h.aiY p y (by rw[u];rfl) kt (.inl f1) (by grind[N.dh]) ?_ ?_ ?_ ?_⟩;intro x e' k;by_cases F:x=j;grind[N.eB,N.dh];grind[N.eB,N.dY];intro x k;by_cases F:x=j;grind[N.eB,N.dh];grind[N.eB,N.dY];intro x nd k;rcases N.lh k with⟨rfl,rfl⟩|⟨F,k⟩;show El E.bs w' _ _ _ _ (if x=p then y else L.kv x) _/\_;grind[KT.row];rcases N.lh k with⟨rfl,rfl⟩|⟨P,k⟩;show El E.bs w' _ _ _ _ (if x=x then y else L.kv x) _/\_;grind[map_eraseIdx,KT.row];have hN:=h.dy [j,p] (by grind) (by grind) U k (by grind);exact hN.ext (σ:=σ) (Ed.refl _ _) ((List.getElem?_eq_some_iff.1 k).1) rfl (cZ P) (h.wfn k)
 .refine(h.wf.dh (e:={d with kids:=d.kids.eraseIdx n}) (by rw[u];rfl) (h.wf.ff p d u) ?_).dh H rfl ?_
  all_goals grind[Wf.kids,Rel.wf,List.mem_of_mem_eraseIdx,N.jE]
theorem Xp(h:Rel E L σ w){e:sZ}(p:σ.db i=some e)(hg:kF e.name=false):
  Calls prog 269 #[cW (L.dk i)] w λq w'=>∃d,Ed σ.nodes.length L d/\q=dw (cW (d.dk σ.nodes.length))/\Rel E d (σ.add (.el {name:=e.name,di:=e.di,ff:=none,kids:=[]})) w'/\Fr E.bs w w'/\∀k v,Sd L w k v->Sd d w' k v:=by
 have I:=h.uY p;have P:=h.xN p;refine(Iz E.bs _ _ _ _ _ _ w (h.th p)).mono ?_;rintro q w'⟨rfl,K,y⟩;have u:=N.dm p;refine⟨L.new _ w.heap.size (L.av i) (gq),λj H=>Loc.yc H,by simp[Loc.new],(h.add _ _ _ _ _ y (dr _) ?_ rfl (λq F=>by grind) ?_ ?_ (λz=>absurd rfl (z _)) ?_ (λg hg=>h.ab i g u hg)),.df y,λk v C=>⟨y.at C.1 (by simp),C.2⟩⟩
 .constructor<;>grind[Loc.pO,Loc.Au,Loc.Ia,Z.ownsRow]
 all_goals grind[Rel.uq,Rel.zd]
theorem Rel.am4(h:Rel E L σ w){k:Nat}(hs:Sd L w k v)(F:E.bs<=k)(H:E.w0.heap.size<=k)(u:cY):Rel E L σ (w.setCell ⟨k,0,none⟩ u)/\Sd L (w.setCell ⟨k,0,none⟩ u) k u/\(∀j x,j≠k->Sd L w j x->Sd L (w.setCell ⟨k,0,none⟩ u) j x)/\Fr E.bs w (w.setCell ⟨k,0,none⟩ u):=by
 have e:Z [k] w (w.setCell ⟨k,0,none⟩ u):=(Z.refl _ w).setCell (.inl (by simp)) _;have d:KT E.bs [68] w _:=.fS e (λj q _=>by
  rw[List.mem_singleton.1 q];exact⟨⟨_,_,_,hs.1,by simp⟩,F⟩)
 obtain⟨C,z,p⟩:=h.du;exact⟨({h with
  fr:=h.fr.trans (d.fr (by decide))
  qH:=λi P I=>((h.qH i P I).kt d (by decide)).loc rfl rfl rfl
  du:=⟨C,d.at z (by decide),p⟩
  ng:=e.ownsRow h.ng (λg hg K=>hs.2.1 (by grind))
  oh:=e.ownsRow h.oh (λg hg K=>hs.2.2 (by grind))
  mY:=d.row h.mY (by decide)
  rd:=d.at h.rd (by decide)
  tok:=d.row h.tok (by decide)}),⟨bJ hs.1 0 u,hs.2⟩,λj x q y=>⟨e.at y.1 (by grind),y.2⟩,d.fr (by decide)⟩
def SF(E:Env)(f:Nat->Nat)(σ:N)(w:J)(S:List (Nat×cY)):Prop:=∃L,L.dk=f/\Rel E L σ w/\∀p∈S,Sd L w p.1 p.2
def SF.rf(h:SF E f σ w S):RF E f σ w:=by have⟨L,e,hr,_⟩:=h;exact⟨L,e,hr⟩
theorem SF.at(h:SF E f σ w S){k:Nat}(d:(k,v)∈S):w.heap[k]?=some (cV #[v] 68):=by
 have⟨L,e,hr,hs⟩:=h;exact(hs _ d).1
theorem SF.dB(h:SF E f σ w S)(d:Z [] w w'):SF E f σ w' S:=by
 have⟨L,e,hr,hs⟩:=h;exact⟨L,e,hr.dB d,λp g=>⟨d.at (hs p g).1 (by simp),(hs p g).2⟩⟩
def XI{α:Type}(E:Env)(f:Nat->Nat)(n:Nat)(S:List (Nat×cY))(w:J)(r:nh α)(d:(Nat->Nat)->α->cY)(e:Ending)(w':J):Prop:=match r with
 | .ok a σ'=>∃g,UU n f g/\n<=σ'.nodes.length/\e=dw (d g a)/\SF E g σ' w' S/\Fr E.bs w w'
 |_=>False
def aio{α:Type}(E:Env)(k:Nat)(args:(Nat->Nat)->fN)(m:M α)(d:(Nat->Nat)->α->cY):Prop:=
 ∀f σ w S,SF E f σ w S->m σ≠ .stuck->Calls prog k (args f) w (XI E f σ.nodes.length S w (m σ) d)
theorem amb{α p:Type}{k:Nat}{args:(Nat->Nat)->fN}{m:M α}{d:(Nat->Nat)->α->cY}(D:aio E k args m d)(H:SF E f σ w S){R:nh p}{K:α->M p}(u:R=(m>>=K) σ)(hs:R≠ .stuck)(q:A=args f)
  (y:∀a g σ' w',UU σ.nodes.length f g->σ.nodes.length<=σ'.nodes.length->SF E g σ' w' S->Fr E.bs w w'->R=K a σ'->m σ=.ok a σ'->Q (dw (d g a)) w'):Calls prog k A w Q:=by
 subst q;rw[M.cH]at u;refine(D f σ w S H (λe=>hs (by grind))).mono ?_;grind[XI]
def Ov{α:Type}(E:Env)(f:Nat->Nat)(n:Nat)(S:List (Nat×cY))(w:J)(r:nh α)(d:(Nat->Nat)->α->cY)(e:Ending)(w':J):Prop:=match r with
 | .ok a σ'=>n<=σ'.nodes.length/\e=dw (d f a)/\SF E f σ' w' S/\Fr E.bs w w'
 |_=>False
def zg{α:Type}(E:Env)(k:Nat)(args:(Nat->Nat)->fN)(m:M α)(d:(Nat->Nat)->α->cY):Prop:=
 ∀f σ w S,SF E f σ w S->m σ≠ .stuck->Calls prog k (args f) w (Ov E f σ.nodes.length S w (m σ) d)
theorem BC{α g:Type}{k:Nat}{args:(Nat->Nat)->fN}{m:M α}{d:(Nat->Nat)->α->cY}(D:zg E k args m d)(H:SF E f σ w S){R:nh g}{K:α->M g}(q:R=(m>>=K) σ)(hs:R≠ .stuck)(p:A=args f)
  (u:∀a σ' w',σ.nodes.length<=σ'.nodes.length->SF E f σ' w' S->Fr E.bs w w'->R=K a σ'->m σ=.ok a σ'->Q (dw (d f a)) w'):Calls prog k A w Q:=by
 subst p;rw[M.cH]at q;refine(D f σ w S H (λe=>hs (by grind))).mono ?_;grind[Ov]
theorem ToS.ls(h:ToS E L σ' w w')(hs:∀p∈S,Sd L w p.1 p.2)(g:n<=σ'.nodes.length){e:Ending}(d:e=nu):Ov E L.dk n S w (.ok () σ') uV e w':=by
 have⟨L',h1,h2,h3,h4⟩:=h;exact⟨g,d,⟨L',h1,h2,by grind⟩,h3⟩
def aec(E:Env)(x:eG):zg E 181 (λf=>#[fR E.bB 188,oV f x]) (fB x) uV:=by
 rintro f σ w S⟨L,rfl,hr,k⟩ d;unfold fB at d|-;by_cases g:σ.de x=true;rw[dd g];exact(aaO hr x g).mono (λe w' h=>h.2.ls k (qq _ _ rfl) h.1);rw[cZ g]at d;exact absurd rfl d
def ab8(E:Env)(x:eG):zg E 181 (λf=>#[fR E.bB 189,oV f x]) (gv x) uV:=by
 rintro f σ w S⟨L,rfl,hr,k⟩ d;unfold gv at d|-;by_cases g:σ.de x=true;rw[dd g];exact(Zx hr x g).mono (λe w' h=>h.2.ls k (qq _ _ rfl) h.1);rw[cZ g]at d;exact absurd rfl d
def ahe(E:Env)(x y:eG):zg E 270 (λf=>#[fR E.bB 188,oV f x,oV f y]) (tU x y) uV:=by
 rintro f σ w S⟨L,rfl,hr,k⟩ g;unfold tU at g|-;by_cases d:(σ.de x&&σ.jw y)=true;rw[dd d];simp at d;exact(Wz hr x y d.1 d.2).mono (λe w' h=>h.2.ls k (qq _ _ rfl) h.1);rw[cZ d]at g;exact absurd rfl g
def afS(E:Env)(x y:eG):zg E 270 (λf=>#[fR E.bB 189,oV f x,oV f y]) (lE x y) uV:=by
 rintro f σ w S⟨L,rfl,hr,k⟩ g;unfold lE at g|-;by_cases d:(σ.de x&&σ.de y)=true;rw[dd d];simp at d;exact(U3 hr x y d.1 d.2).mono (λe w' h=>h.2.ls k (qq _ _ rfl) h.1);rw[cZ d]at g;exact absurd rfl g
theorem abu(E:Env)(j:Nat):zg E 368 (λf=>#[nV f j]) (iC j) uV:=by
 rintro f σ w S⟨L,rfl,hr,k⟩ d;unfold iC at d|-;cases hj:σ.db j with
 |none=>rw[hj]at d;exact absurd rfl d
 |some ej=>
  simp only[hj]at d|-;cases hp:ej.ff with
  |none=>
   refine(DW hr hj hp).mono ?_;rintro e w'⟨rfl,rfl⟩;exact⟨dr _,rfl,⟨L,rfl,hr,k⟩,Fr.refl _⟩
  |some p=>
   simp only[hp]at d|-;cases hep:σ.db p with
   |none=>rw[hep]at d;exact absurd rfl d
   |some ep=>
    simp only[hep]at d|-;by_cases g:j≠p/\0<=lO ep.kids (Nd.de j)/\(lO ep.kids (Nd.de j)).toNat<ep.kids.length;rw[dd g];exact(Xr hr hj hp hep g.1 g.2.2 (by omega)).mono (λe w' h=>h.2.ls k (by grind[N.dh]) h.1);rw[cZ g]at d;exact absurd rfl d
theorem ZG(E:Env)(i:Nat):aio E 269 (λf=>#[nV f i]) (fD i) nV:=by
 rintro f σ w S⟨L,rfl,hr,z⟩ d;unfold fD at d|-;cases hi:σ.db i with
 |none=>rw[hi]at d;exact absurd rfl d
 |some e=>
  simp only[hi]at d|-;by_cases hg:kF e.name=true;rw[dd hg]at d;exact absurd rfl d;rw[cZ hg];refine(Xp hr hi (by grind)).mono ?_;rintro u w'⟨g,k,rfl,p,q,y⟩;exact⟨g.dk,k,by simp[N.add],rfl,⟨g,rfl,p,by grind⟩,q⟩
def agr(E:Env)(i:Nat):zg E 93 (λf=>#[nV f i]) (eE i) pV:=by
 rintro f σ w S⟨L,rfl,hr,k⟩ d;unfold eE at d|-;cases he:σ.db i with
 |none=>rw[he]at d;exact absurd rfl d
 |some e=>
  refine(Uk hr he).mono ?_;rintro p w'⟨rfl,q,g⟩;exact⟨dr _,rfl,SF.dB ⟨L,rfl,hr,k⟩ g,.df g⟩
def ahy(E:Env)(pl:Nat×Nat)(j:Nat):zg E 169 (λf=>#[pV f pl,.iface 68 (nV f j)]) (fY pl j) uV:=by
 rintro f σ w S⟨L,rfl,hr,k⟩ d;unfold fY at d|-;cases h1:σ.db pl.1 with
 |none=>rw[h1]at d;exact absurd rfl d
 |some ei=>
  cases h2:σ.db j with
  |none=>rw[h1,h2]at d;exact absurd rfl d
  |some ej=>
   simp only[h1,h2]at d|-;by_cases g:j≠pl.1/\pl.2<=ei.kids.length/\ei.kids.length<1048576;rw[dd g];exact(abn hr h1 h2 g.1 g.2.1 g.2.2).mono (λe w' h=>h.2.ls k (by simp[N.dh]) h.1);rw[cZ g]at d;exact absurd rfl d
def ElK{α:Type}(m:M α):Prop:=∀σ a σ',m σ=.ok a σ'->∀i,σ.de (some i)=true->σ'.de (some i)=true
theorem Vw(x:eG):ElK (fB x):=by
 intro σ a σ' h i d;unfold fB at h;split at h;cases h;exact d;grind
theorem Jb(x:eG):ElK (gv x):=by
 intro σ a σ' h i d;unfold gv at h;split at h;cases h;exact d;grind
theorem M1(x y:eG):ElK (tU x y):=by
 intro σ a σ' h i d;unfold tU at h;split at h;cases h;exact d;grind
theorem MZ(x y:eG):ElK (lE x y):=by
 intro σ a σ' h i d;unfold lE at h;split at h;cases h;exact d;grind
theorem M0(j:Nat):ElK (eE j):=by
 grind[ElK,eE]
theorem RO(j:Nat):ElK (fD j):=by
 intro σ a σ' h i d;grind[N.zA,fD]
theorem X8{e:sZ}(g:σ.db j=some ej)(d:σ.de (some i)=true):(σ.dh j e).de (some i)=true:=by
 grind[N.oJ]
theorem M2(pl:Nat×Nat)(j:Nat):ElK (fY pl j):=by
 intro σ a σ' h i d;grind[X8,N.dY,fY]
theorem FV(j:Nat):ElK (iC j):=by
 intro σ a σ' h i d;unfold iC at h;grind[X8,N.dY]
theorem SF.set{E:Env}{f:Nat->Nat}{σ:N}{w:J}{S:List (Nat×cY)}(h:SF E f σ w S){k:Nat}{v:cY}(q:(k,v)∈S)(g:E.bs<=k)(d:E.w0.heap.size<=k)(u:cY)(S':List (Nat×cY))(y:∀p∈S',p=(k,u)\/(p.1≠k/\p∈S)):SF E f σ (w.setCell ⟨k,0,none⟩ u) S'/\Fr E.bs w (w.setCell ⟨k,0,none⟩ u):=by
 have⟨L,e,hr,hs⟩:=h;have⟨h1,h2,h3,h4⟩:=hr.am4 (hs _ q) g d u;grind[SF]
section
variable {W W':J}{row:eG}(hg:W.grownBy W' row){B:Nat}(hr:∀r,row=some r->B<=r/\∃o:Obj,W.heap[r]?=some o/\o.isCells=false)
include hg hr
def oG{k:Nat}{c:fN}{t:TypeId}{m:Nat×Nat}(h:W.heap[k]?=some (.cells c t m)):W'.heap[k]?=some (.cells c t m):=by
 refine(hg.block k (Array.getElem?_eq_some_iff.1 h).1 (λe=>?_)).trans h;have⟨_,o,ho,hc⟩:=hr k e.symm;rw[h]at ho;cases ho;cases hc
def uH{base:Nat}{e:TypeId}{d:Nat}{v:cY}{k:Nat}{xs:List cY}(h:W.ownsRow base e d v k xs):W'.ownsRow base e d v k xs:=by
 refine h.kept hg ?_;rcases h.2 with⟨rfl,_⟩|⟨g,q,u,rfl,_,p,_⟩;exact .inl rfl;refine .inr λy=>?_;have⟨_,o,ho,hc⟩:=hr g (by simpa [Value.ownBlock]using y.symm);rw[p]at ho;cases ho;cases hc
def Fr.grown{bs:Nat}{w:J}(h:Fr bs w W)(d:w.heap.size<=B):Fr bs w W':=by
 have⟨S,hk,hS⟩:=h;exact⟨S,hk.grown hg (λk e=> .inr (fK d (hr k e).1)),hS⟩
def Rel.grown{E:Env}{L:Loc}{σ:N}(h:Rel E L σ W)(k:E.w0.heap.size<=B):Rel E L σ W':=by
 have⟨C,hb,hC⟩:=h.du;exact
  {fr:=Fr.grown hg hr h.fr k
   env:=h.env
   Dz:=h.Dz
   qH:=λi g p=>by
    have d:=h.qH i g p;cases g with
    |el e=>exact⟨⟨oG hg hr d.1.du,uH hg hr d.1.row,d.1.le,d.1.XV⟩,uH hg hr d.2.1,d.2.2⟩
    |tx s=>exact oG hg hr d
    |cm s=>exact oG hg hr d
    |dt s=>exact oG hg hr d
   inj:=h.inj,Ar:=h.Ar,Ge:=h.Ge,uq:=h.uq,Eg:=h.Eg,wf:=h.wf
   du:=⟨C,oG hg hr hb,hC⟩
   ng:=uH hg hr h.ng
   oh:=uH hg hr h.oh
   Ic:=h.Ic,vu:=h.vu,Ep:=h.Ep
   mY:=uH hg hr h.mY
   MF:=h.MF
   rd:=oG hg hr h.rd
   TR:=h.TR
   tok:=uH hg hr h.tok
   Lq:=h.Lq,bz:=h.bz,bB:=h.bB,bR:=h.bR,bN:=h.bN,zd:=h.zd,ab:=h.ab,tb:=h.tb,ME:=h.ME}
def SF.grown{E:Env}{f:Nat->Nat}{σ:N}{S:List (Nat×cY)}(h:SF E f σ W S)(g:E.w0.heap.size<=B):SF E f σ W' S:=by
 have⟨L,e,h1,h2⟩:=h;exact⟨L,e,h1.grown hg hr g,λp d=>⟨oG hg hr (h2 p d).1,(h2 p d).2⟩⟩
end
def Fr.mH(h:Fr bs w W)(B:Nat):KeepsFrom B w W:=⟨h.size,λ_ _ _ d e=>h.other d e⟩
theorem Fr.at(h:Fr bs w W){k:Nat}{c:fN}{t:TypeId}(d:w.heap[k]?=some (.cells c t m))(e:t∉Zq):W.heap[k]?=some (.cells c t m):=by
 have⟨S,hkk,hS⟩:=h;grind[Z.block]
attribute [local go_sem] Oper.semAt_some
theorem akK{y:Type}(m:Nat)(a1:1<=m)(b j n bN bL l:Nat)(a0:n<=4096)(nx:y->eG)(d:y->Nat)(J3 Jx:y->J->Prop)
  (hN:∀s W,J3 s W->W.cell? ⟨bN,0,none⟩=some (G n)) (hL:∀s W,J3 s W->W.cell? ⟨bL,0,none⟩=some (fR b j))
  (I:∀s W q,J3 s W->d s<n->q=n-1-d s->Calls prog 242 #[fR b j,G q] W λe w'=>e=dw (ig (nx s))/\w'=W)
  (hY:∀s W,J3 s W->d s<n->YieldAt Fence.wide (m-1) prog l #[ig (nx s)] W λe W'=>
   (e=dw (.bool true)/\∃g,d g=d s+1/\J3 g W')\/(e=dw (.bool false)/\∃g,Jx g W'))
  (W:J) (X:y) (a3:d X=0) (h0:J3 X W):
  CallsIn Fence.wide m prog 351 #[.func (.yield l) #[] #[],cW bN,cW bL] W λe W'=>(∃r,e=dw r)/\
   ((∃s,d s=n/\J3 s W')\/(∃s,Jx s W')):=by
 refine callsIn_of_wp func351 rfl trivial ?_ rfl;simp only[ntmps351,vI,sg,tX,Nat.reduceAdd,Nat.reduceSub,vJ,vK,vL,vM,tw,oW];have cN:=hN X W h0;have HY:=hY;have HN:=hN;have HL:=hL;have C:=I;gi_wp2
 gi_loopw [4] (λi wr=>∃s:y,d s<=n/\i=G ((n:Int)-1-d s)/\J3 s wr)
  (λi _=>((intOf i)+1).toNat)
 case atStart=>grind
 case round=>
  obtain⟨s,hk,rfl,z⟩:=hrel;have cL:=HL s wr z;by_cases p:d s<n
  .obtain⟨q,R⟩:∃q:Nat,q=n-1-d s:=⟨_,rfl⟩;have U:(n:Int)-1-d s=(q:Int):=by omega
   rw[U];have HA:=C s wr q z p R;have⟨fn,tmps,assign,body,hy,HR⟩:=HY s wr z p;have HQ:=V R;have a2:q<4096:=by omega
   clear R
   gi_wp2_with (refine⟨trivial,?_⟩;gi_at_call 242;refine(callsIn_wide.2 HA).mono ?_;rintro e w'⟨rfl,rfl⟩)
   refine HR.mono ?_;rintro e W3 (⟨rfl,g,P,K⟩|⟨rfl,g,k⟩)
   .have F:=P;gi_wp2;go_roundw
    case rel=>exact⟨g,by omega,by have:=HQ;have:=F;congr 1;omega,K⟩
    case measure=>simp[intOf]
   .gi_wp2;refine nr (GG rfl _ _ _) rfl ?_;exact⟨⟨_,rfl⟩,.inr ⟨g,k⟩⟩
  .have H:d s=n:=by omega
   have u:(n:Int)-1-d s= -1:=by omega
   rw[u];gi_wp2;go_end0;exact⟨⟨_,rfl⟩,.inl ⟨s,H,z⟩⟩
def aif{g:Type}(B:Nat)(I:g->J->Prop)(k:Code->g->J->Prop)(e:g->Nat)(s:g)(W:J):Exit->Act->J->Prop
 | .normal,_,W'=>KeepsFrom B W W'/\∃d,e d=e s+1/\I d W'
 | .ret,_,W'=>KeepsFrom B W W'/\∃d,k .ret d W'
 | .exit id,_,W'=>KeepsFrom B W W'/\∃d,k (.exit id) d W'
 | .goto t,_,W'=>KeepsFrom B W W'/\∃d,k (.goto t) d W'
 | .panic _,_,_=>False
 | .outgrown,_,_=>False
theorem afi{β:Type}{m:Nat}{g:Operand}{p:Tmp}{Q:Exit->Act->J->Prop}(h1:2<=m)(ae:n<=4096)(hg:a.eval g=tr bs)
  (nx:β->eG) (F:β->Nat) (I:β->J->Prop) (Ix:Code->β->J->Prop) (hI:OwnFrom w.heap.size I) (a0:∀c,OwnFrom w.heap.size (Ix c))
  (hN:∀s W,I s W->W.cell? ⟨bs+1,0,none⟩=some (G n)) (hL:∀s W,I s W->W.cell? ⟨bs,0,none⟩=some (fR b j))
  (a8:∀s W q,I s W->F s<n->q=n-1-F s->Calls prog 242 #[fR b j,G q] W λe w'=>e=dw (ig (nx s))/\w'=W)
  (s0:β) (af:F s0=0) (h0:I s0 w) (a2:eG->Act)
  (R:∀(l:Nat)(x:eG)(W:J)(K:Act->J->Prop),K (a2 x) W->assign.wpIn (Fence.wide.inRound l) (m-1-1) prog (Exit.then K (λ_ _ _=>False)) {tmps:=a.tmps.setIfInBounds p (ig x),defers:=[]} W)
  (a4:∀(l:Nat)(s:β)(W:J),I s W->F s<n->body.wpIn (Fence.wide.inRound l) (m-1-1) prog (aif w.heap.size I Ix F s W) (a2 (nx s)) W)
  (a5:∀(D:Nat)(s:β)(W:J),w.heap.size<=D->F s=n->I s W->W.heap[D]?=some (.deferred (some []))->Q .normal {a with defers:={target:=.collected D,args:=#[]}::a.defers} W)
  (a6:∀(D:Nat)(c:Code)(s:β)(W:J),w.heap.size<=D->Ix c s W->W.heap[D]?=some (.deferred (some []))->c.wpIn Fence.wide m prog Q {a with defers:={target:=.collected D,args:=#[]}::a.defers} W):
  (Code.rangeFunc g #[p] assign body).wpIn Fence.wide m prog Q a w:=by
 refine Ld ?_;intro fn ab;obtain⟨k,u⟩:∃k:LoopState->Option Code->Loop,k=λst pe=>{state:=st,pending:=pe,fn,tmps:=a.tmps,params:=#[p],assign,body,defers:=w.heap.size}:=⟨_,rfl⟩;obtain⟨W1,a1⟩:∃W1,(w.alloc (.deferred (some []))).alloc (.loop (k .ready none))=W1:=⟨_,rfl⟩;have aa:W1.heap[w.heap.size+1]?=some (.loop (k .ready none)):=by
  rw[<-a1];have:=QE (w.alloc (.deferred (some []))) (.loop (k .ready none));rwa [xD]at this
 have a9:W1.heap[w.heap.size]?=some (.deferred (some [])):=by
  rw[<-a1];exact(Below.heap_alloc _ _ _ (by simp)).trans (QE w _)
 refine⟨w.heap.size+1,[{target:=.collected w.heap.size,args:=#[]}],W1,{target:=.fn (.func 351) #[cW (bs+1),cW bs],args:=#[.func (.yield (w.heap.size+1)) #[] #[]]},W1,351,
  #[.func (.yield (w.heap.size+1)) #[] #[],cW (bs+1),cW bs],W1,?_,?_,?_,?_,λ_=>by omega,?_⟩
 rw[<-a1,u];exact Cg _ _ _ _ _
 .simp only[resolve,hg];simp[go_sem]
 intro f' ag;trivial;exact enters_of func351 (by rfl) rfl _ _;refine(akK (m-1) (by omega) b j n (bs+1) bs (w.heap.size+1) ae nx F
  (λs W=>I s W/\W.heap[w.heap.size+1]?=some (.loop (k .ready none))/\W.heap[w.heap.size]?=some (.deferred (some [])))
  (λs W=>∃c,Ix c s W/\W.heap[w.heap.size+1]?=some (.loop (k .done (some c)))/\W.heap[w.heap.size]?=some (.deferred (some [])))
  (λs W h=>hN s W h.1) (λs W h=>hL s W h.1) (λs W q h=>a8 s W q h.1) ?_ W1 s0 af ⟨(by rw[<-a1];exact hI.alloc _ (hI.alloc _ h0)),aa,a9⟩).mono ?_
 .rintro s W⟨hi,U,hk⟩ a7;have hy:=run_yield (P:=prog) (args:=#[ig (nx s)]) U (by rw[u];rfl);rw[u]at hy;refine⟨fn,_,assign,body,hy,roundIn_of_wpIn ab ((oX (λz=>assign.wpIn (Fence.wide.inRound (w.heap.size+1)) (m-1-1) prog (Exit.then _ (λ_ _ _=>False)) {tmps:=z,defers:=[]} W) (by simp)).mpr (R _ (nx s) W _ ?_))⟩;refine⟨_,run_beginRound U (by rw[u]),?_⟩;have ad:(W.putObj (w.heap.size+1) (.loop {k .ready none with state:=.busy})).heap[w.heap.size+1]?=some (.loop {k .ready none with state:=.busy}):=QF ((Array.getElem?_eq_some_iff.1 U).1);have ac:(W.putObj (w.heap.size+1) (.loop {k .ready none with state:=.busy})).heap[w.heap.size]?=some (.deferred (some [])):=(rR (by omega)).trans hk;refine akP (a4 _ s _ (hI.putObj _ hi (by omega) U rfl) a7) ?_;have X:∀(d:Option Code)(H:J),KeepsFrom w.heap.size (W.putObj (w.heap.size+1) (.loop {k .ready none with state:=.busy})) H->
    (Instr.endRound (w.heap.size+1) d).run prog H=.ok (.bool d.isNone) (H.putObj (w.heap.size+1) (.loop (k (if d.isNone then .ready else .done) d)))/\
    H.heap[w.heap.size+1]?=some (.loop {k .ready none with state:=.busy})/\
    (H.putObj (w.heap.size+1) (.loop (k (if d.isNone then .ready else .done) d))).heap[w.heap.size+1]?=some (.loop (k (if d.isNone then .ready else .done) d))/\
    (H.putObj (w.heap.size+1) (.loop (k (if d.isNone then .ready else .done) d))).heap[w.heap.size]?=some (.deferred (some [])):=λd H y=>by
   have C:=y.same _ _ (by omega) ad rfl;have:=run_endRound (P:=prog) d C;rw[u]at this|-;exact⟨this,by grind,QF (Array.getElem?_eq_some_iff.1 C).1,(rR (by omega)).trans (y.same _ _ (dr _) ac rfl)⟩
  rintro e a3 H hp;cases e with
  |normal=>
   have⟨y,s',hc',hi3⟩:=hp;have⟨hr,C,hl4,hk4⟩:=X none H y;exact⟨_,_,hr,.inl ⟨rfl,s',hc',hI.putObj _ hi3 (by omega) C rfl,hl4,hk4⟩⟩
  |ret=>
   have⟨y,s',hi3⟩:=hp;have⟨hr,C,hl4,hk4⟩:=X (some .ret) H y;exact⟨_,_,hr,.inr ⟨rfl,s',.ret,(a0 _).putObj _ hi3 (by omega) C rfl,hl4,hk4⟩⟩
  |exit id=>
   have⟨y,s',hi3⟩:=hp;have⟨hr,C,hl4,hk4⟩:=X (some (.exit id)) H y;exact⟨_,_,hr,.inr ⟨rfl,s',.exit id,(a0 _).putObj _ hi3 (by omega) C rfl,hl4,hk4⟩⟩
  |goto t=>
   have⟨y,s',hi3⟩:=hp;have⟨hr,C,hl4,hk4⟩:=X (some (.goto t)) H y;exact⟨_,_,hr,.inr ⟨rfl,s',.goto t,(a0 _).putObj _ hi3 (by omega) C rfl,hl4,hk4⟩⟩
  |panic ch=>exact hp.elim
  |outgrown=>exact hp.elim
 rintro e W2⟨⟨v,rfl⟩,(⟨s,hS,hi,U,hk⟩|⟨s,c,hi,U,hk⟩)⟩;exact⟨none,_,by have:=Le (P:=prog) U (by grind);rw[u]at this;exact this,a5 _ s _ (dr _) hS (hI.putObj _ hi (by omega) U rfl) ((rR (by omega)).trans hk)⟩;exact⟨some c,_,by have:=Le (P:=prog) U (by grind);rw[u]at this;exact this,a6 _ c s _ (dr _) ((a0 c).putObj _ hi (by omega) U rfl) ((rR (by omega)).trans hk)⟩
section
attribute [local go_sem] Oper.semAt_some
attribute [local go_sem] oq
attribute [local simp] oq
abbrev RmT(E:Env)(f:Nat->Nat)(fi du z:Nat)(a b c d e g h y p q:cY)(D:List Deferred):Act:={tmps:=#[Bp E,nV f fi,nV f du,cW z,cW (z+1),cW (z+1+1),cW (z+1+1+1),cW (z+1+1+1+1),a,b,undef,nV f du,nV f fi,c,d,e,g,h,y,undef,undef,undef,undef,undef,undef,undef,undef,undef,undef,undef,undef,undef,undef,undef,undef,undef,undef,undef,undef,undef,undef,undef,undef,undef,undef,undef,undef,undef,undef,undef,undef,undef,undef,undef,undef,undef,undef,undef,undef,undef,undef,undef,undef,undef,undef,undef,undef,undef,p,q],defers:=D}
def RF.ajp(h:RF E f σ w)(x:eG)(d:σ.de x=true):Calls prog 379 #[fR E.bB 188,oV f x] w λe w'=>e=dw (tr w.heap.size)/\w'=jR E.bB 188 (posOf σ.cC x) w:=by
 obtain⟨L,rfl,hr⟩:=h;have⟨C,hL,hC⟩:=hr.x9;have:=agU E.bs E.bB 188 _ C _ _ _ w hL hr.elO (hr.de d)
 rwa [NS hr.inj]at this
theorem R8(w:J)(d e g k p:Obj):(((((w.alloc d).alloc e).alloc g).alloc k).alloc p).heap[w.heap.size]?=some d/\(((((w.alloc d).alloc e).alloc g).alloc k).alloc p).heap[w.heap.size+1]?=some e/\(((((w.alloc d).alloc e).alloc g).alloc k).alloc p).heap[w.heap.size+1+1]?=some g/\(((((w.alloc d).alloc e).alloc g).alloc k).alloc p).heap[w.heap.size+1+1+1]?=some k/\(((((w.alloc d).alloc e).alloc g).alloc k).alloc p).heap[w.heap.size+1+1+1+1]?=some p:=by
 grind[Below.heap_alloc,World.size_alloc,aY]
theorem RF.sf(h:RF E f σ w)(g:Z [] w W)(d:∀p∈S,w.heap.size<=p.1/\W.heap[p.1]?=some (cV #[p.2] 68)):SF E f σ W S:=by
 have⟨L,e,hr⟩:=h;refine⟨L,e,hr.dB g,λp k=>⟨(d p k).2,λq=>?_,λq=>?_⟩⟩;have:=(hr.ng.lt _ q).2;grind;have:=(hr.oh.lt _ q).2;grind
theorem VQ{xs:gZ}{n:Int}(h:dA xs n=some i):some i∈xs:=by
 grind[dA]
def ala(R:nh (Nat×Nat)):Prop:=∀r σ',R=.ok r σ'->r.1<σ'.nodes.length/\r.2<σ'.nodes.length
structure Gh where
 g:Nat->Nat
 σ:N
 c:Nat
 last:Nat
 mark:Nat
structure RI(E:Env)(f:Nat->Nat)(σ:N)(w:J)(n fi du:Nat)(s:Gh)(W:J):Prop where
 le:s.c<=n
 ex:UU σ.nodes.length f s.g
 nl:σ.nodes.length<=s.σ.nodes.length
 ll:s.last<s.σ.nodes.length
 ml:s.mark<s.σ.nodes.length
 fe:s.σ.de (some fi)=true
 be:s.σ.de (some du)=true
 te:s.σ.de (some s.last)=true
 sf:SF E s.g s.σ W [(w.heap.size+1,nV f fi),(w.heap.size+1+1,nV f du),(w.heap.size+1+1+1,nV s.g s.last),(w.heap.size+1+1+1+1,nV s.g s.mark)]
 b3:W.heap[w.heap.size]?=some (cV #[Bp E] 120)
 b8:W.heap[w.heap.size+1+1+1+1+1]?=some (cV #[G s.c] 3)
 bl:W.heap[w.heap.size+1+1+1+1+1+1]?=some (cV #[fR E.bB 188] 276)
 bn:W.heap[w.heap.size+1+1+1+1+1+1+1]?=some (cV #[G n] 3)
 fr:Fr E.bs w W
def RI.grown{s:Gh}{row:eG}{B:Nat}(h:RI E f σ w n fi du s W)(hg:W.grownBy W' row)(hr:∀r,row=some r->B<=r/\∃o:Obj,W.heap[r]?=some o/\o.isCells=false)(d:E.w0.heap.size<=B)(e:w.heap.size<=B):RI E f σ w n fi du s W':=
 ⟨h.le,h.ex,h.nl,h.ll,h.ml,h.fe,h.be,h.te,h.sf.grown hg hr d,oG hg hr h.b3,oG hg hr h.b8,oG hg hr h.bl,oG hg hr h.bn,h.fr.grown hg hr e⟩
def SF.side(h:SF E f σ w S){c:fN}(q:w.heap[b]?=some (.cells c T m))(k:∀t∈Zs,t≠T)(d:E.w0.heap.size<=b)(j:Nat)(u:cY):SF E f σ (w.setCell ⟨b,j,none⟩ u) S:=by
 have⟨L,e,hr,hs⟩:=h;refine⟨L,e,hr.side q k d j u,λp g=>⟨?_,(hs p g).2⟩⟩;have y:Z [b] w (w.setCell ⟨b,j,none⟩ u):=(Z.refl _ w).setCell (.inl (by simp)) _;refine y.at (hs p g).1 λz=>?_;have:=(hs p g).1;rw[(List.mem_singleton.1 z),q]at this;injection this with this;injection this with _ e2;exact k 68 (by decide) e2.symm
def Fr.akB(h:Fr bs w W){k:Nat}(d:w.heap.size<=k)(j:Nat)(u:cY):Fr bs w (W.setCell ⟨k,j,none⟩ u):=by
 have⟨S,h1,h2⟩:=h;exact⟨S,h1.setCell (.inr d) _,h2⟩
theorem RI.next{s:Gh}(h:RI E f σ w n fi du s W)(e:s.c<n)(k:E.w0.heap.size<=w.heap.size)(u:cY)(g:u=G ((s.c+1:Nat))):RI E f σ w n fi du ⟨s.g,s.σ,s.c+1,s.last,s.mark⟩ (W.setCell ⟨w.heap.size+1+1+1+1+1,0,none⟩ u):=by
 subst g;have d:Z [w.heap.size+1+1+1+1+1] W (W.setCell ⟨w.heap.size+1+1+1+1+1,0,none⟩ (G ((s.c+1)))):=(Z.refl _ W).setCell (.inl (by simp)) _;exact
  {le:=e,ex:=h.ex,nl:=h.nl,ll:=h.ll,ml:=h.ml,fe:=h.fe,be:=h.be,te:=h.te
   sf:=h.sf.side h.b8 (by decide) (by omega) 0 _
   b3:=d.at h.b3 (by grind)
   b8:=bJ h.b8 0 _
   bl:=d.at h.bl (by simp)
   bn:=d.at h.bn (by grind)
   fr:=h.fr.akB (by omega) 0 _}
def RI.step{s:Gh}(h:RI E f σ w n fi du s W){e:Nat->Nat}(p:UU s.σ.nodes.length s.g e)(k:s.σ.nodes.length<=σ'.nodes.length)(g:Fr E.bs W W')(d:∀i,s.σ.de (some i)=true->σ'.de (some i)=true)
  (hs:SF E e σ' W' [(w.heap.size+1,nV f fi),(w.heap.size+1+1,nV f du),(w.heap.size+1+1+1,nV s.g s.last),(w.heap.size+1+1+1+1,nV s.g s.mark)]):RI E f σ w n fi du ⟨e,σ',s.c,s.last,s.mark⟩ W':=by
 have e1:nV s.g s.last=nV e s.last:=by unfold nV;rw[p _ h.ll]
 have e2:nV s.g s.mark=nV e s.mark:=by unfold nV;rw[p _ h.ml]
 rw[e1,e2]at hs;exact
  {le:=h.le,ex:=λi q=>(p i (kL q h.nl)).trans (h.ex i q),nl:=fK h.nl k,ll:=kL h.ll k,ml:=kL h.ml k,fe:=d _ h.fe,be:=d _ h.be,te:=d _ h.te
   sf:=hs
   b3:=g.at h.b3 (by decide),b8:=g.at h.b8 (by decide),bl:=g.at h.bl (by decide),bn:=g.at h.bn (by decide)
   fr:=h.fr.trans g}
def RI.ahQ{s:Gh}(h:RI E f σ w n fi du s W)(x:Nat)(d:s.σ.de (some x)=true)(e:E.w0.heap.size<=w.heap.size)(uI:E.bs<=w.heap.size):RI E f σ w n fi du ⟨s.g,s.σ,s.c,x,s.mark⟩ (W.setCell ⟨w.heap.size+1+1+1,0,none⟩ (nV s.g x))/\Fr E.bs W (W.setCell ⟨w.heap.size+1+1+1,0,none⟩ (nV s.g x)):=by
 have⟨q1,q2⟩:=h.sf.set (k:=w.heap.size+1+1+1) (v:=nV s.g s.last) (by simp) (by omega) (by omega) (nV s.g x) [(w.heap.size+1,nV f fi),(w.heap.size+1+1,nV f du),(w.heap.size+1+1+1,nV s.g x),(w.heap.size+1+1+1+1,nV s.g s.mark)] (by
  simp)
 exact⟨{le:=h.le,ex:=h.ex,nl:=h.nl,ll:=N.jy d,ml:=h.ml,fe:=h.fe,be:=h.be,te:=d,sf:=q1,b3:=q2.at h.b3 (by decide),b8:=q2.at h.b8 (by decide),bl:=q2.at h.bl (by decide),bn:=q2.at h.bn (by decide),fr:=h.fr.trans q2},q2⟩
def RI.ahR{s:Gh}(h:RI E f σ w n fi du s W)(x:Nat)(e:s.σ.de (some x)=true)(d:E.w0.heap.size<=w.heap.size)(uI:E.bs<=w.heap.size):RI E f σ w n fi du ⟨s.g,s.σ,s.c,s.last,x⟩ (W.setCell ⟨w.heap.size+1+1+1+1,0,none⟩ (nV s.g x))/\Fr E.bs W (W.setCell ⟨w.heap.size+1+1+1+1,0,none⟩ (nV s.g x)):=by
 have⟨q1,q2⟩:=h.sf.set (k:=w.heap.size+1+1+1+1) (v:=nV s.g s.mark) (by simp) (by omega) (by omega) (nV s.g x) [(w.heap.size+1,nV f fi),(w.heap.size+1+1,nV f du),(w.heap.size+1+1+1,nV s.g s.last),(w.heap.size+1+1+1+1,nV s.g x)] (by
  simp)
 exact⟨{le:=h.le,ex:=h.ex,nl:=h.nl,ll:=h.ll,ml:=N.jy e,fe:=h.fe,be:=h.be,te:=h.te,sf:=q1,b3:=q2.at h.b3 (by decide),b8:=q2.at h.b8 (by decide),bl:=q2.at h.bl (by decide),bn:=q2.at h.bn (by decide),fr:=h.fr.trans q2},q2⟩
theorem U6{d:Nat}(h:fD j σ=.ok d σ'):σ'.de (some d)=true:=by
 unfold fD at h;split at h;split at h;cases h;cases h;show((σ.add _).db _).isSome=true;grind[N.pc];grind
def RI.k0{s:Gh}(h:RI E f σ w n fi du s W)(d:Z [] W W'):RI E f σ w n fi du s W':=
 ⟨h.le,h.ex,h.nl,h.ll,h.ml,h.fe,h.be,h.te,h.sf.dB d,d.at h.b3 (by simp),d.at h.b8 (by simp),d.at h.bl (by simp),d.at h.bn (by simp),h.fr.trans (.df d)⟩
def WZ(f du k c last g e:Nat):M (Nat×Nat):=λσ=>if some e∉σ.act then (fB (some e)>>=λ_=>iQ f du k (c+1) last g) σ else
 (fD e>>=λd=>tU (some e) (some d)>>=λ_=>lE (some e) (some d)>>=λ_=>iC last>>=λ_=>eE d>>=λp=>fY p last>>=λ_=>iQ f du k (c+1) d (if last=du then d else g)) σ
theorem TM{f k last d:Nat}{R:nh (Nat×Nat)}(q:R=iQ f du (k+1) c last d σ)(hs:R≠ .stuck):∃e,dA σ.cC (k:Int)=some e/\((e=f/\R=.ok (last,d) σ)\/(e≠f/\R=((if 3<c+1 then gv (some e)else pure ())>>=λ_=>WZ f du k c last d e) σ)):=by
 have g:R=(zM k>>=λe=>if e=f then pure _ else ((if 3<c+1 then gv _ else pure ())>>=λ_=>WZ f du k c last d e)) σ:=q;rw[M.cH]at g;unfold zM at g;cases hq:dA _ (k)with
 |none=>grind
 |some e=>
  rw[hq]at g;dsimp at g;refine⟨e,rfl,?_⟩;by_cases p:e=f;rw[dd p]at g;exact .inl ⟨p,g⟩;grind
theorem RF.eql{g:Nat->Nat}(h:RF E g σ W)(d:σ.de (some i)=true)(k:σ.de (some j)=true):(binOp .eql 68 (nV g i) (nV g j)).run prog W=.ok (.bool (decide (i=j))) W:=by
 obtain⟨L,rfl,hr⟩:=h;have:=Br (hr.de d) (hr.de k);rw[show decide (eM _ (some i)=eM _ (some j))=decide _ from decide_eq_decide.2 ⟨λe=>hr.inj _ _ (je e),by grind⟩]at this;exact this
def aeG(h:RF E f σ w)(fi du:Nat)(bg:(σ.db fi).isSome=true)(aI:some du∈σ.cC)(hs:tK fi du σ≠ .stuck):
  Calls prog 367 #[Bp E,nV f fi,nV f du] w (λe w'=>Leaves E f σ.nodes.length w (tK fi du σ) (λg r=> .tuple #[nV g r.1,nV g r.2]) e w'/\ala (tK fi du σ)):=by
 obtain⟨R,hR⟩:∃R,R=tK fi du σ:=⟨_,rfl⟩;rw[<-hR]at hs|-;obtain⟨n,hn⟩:∃n,n=(posOf σ.cC (some du)).toNat:=⟨_,rfl⟩;have bK:R=iQ fi du n 0 du fi σ:=by rw[hR,hn];rfl
 have aS:posOf σ.cC (some du)=(n:Int):=by
  rw[hn];rcases qJ σ.cC (some du)with⟨bh,_⟩|⟨m,hp,_⟩;exact absurd aI bh;rw[hp];simp
 have bT:Wf σ:=by obtain⟨L,_,hr⟩:=h;exact hr.wf
 have a2:(σ.db du).isSome=true:=bT.cC _ aI;have bL:σ.de (some du)=true:=N.uu (bT.cC _ aI);have cq:σ.cC.length<=4096:=by obtain⟨L,_,hr⟩:=h;exact hr.vu
 have cl:n<=4096:=by
  rcases qJ σ.cC (some du)with⟨bh,_⟩|⟨m,hp,hm,_⟩;exact absurd aI bh;rw[hp]at aS;omega
 have cw:=h.lt;have bi:E.w0.heap.size<=w.heap.size:=by obtain⟨L,_,hr⟩:=h;exact hr.fr.size
 have uI:E.bs<=w.heap.size:=by obtain⟨L,_,hr⟩:=h;have:=hr.bB;omega
 have HF:=V h;have HR:=V bK;have HS:=V hs;have c0:=V bL;have HP:=V aS;clear h hR bK hs;refine(vF (n:=9)).1 ?_;refine vG func367 rfl trivial ?_ rfl;simp only[ntmps367,vI,sg,tX,Nat.reduceAdd,Nat.reduceSub,vJ,vK,vL,vM,tw,oW];obtain⟨w5,ar⟩:∃w5,w5=((((w.alloc (cV #[Bp E] 120)).alloc (cV #[nV f fi] 68)).alloc (cV #[nV f du] 68)).alloc (cV #[.pointer none] 68)).alloc (cV #[.pointer none] 68):=⟨_,rfl⟩;have bP:Z [] w w5:=by rw[ar];exact(((((Z.refl _ _).alloc _).alloc _).alloc _).alloc _).alloc _
 have bU:w5.heap.size=w.heap.size+1+1+1+1+1:=by rw[ar];simp
 obtain⟨b3,b4,b5,b6,b7⟩:=R8 w (cV #[Bp E] 120) (cV #[nV f fi] 68) (cV #[nV f du] 68) (cV #[.pointer none] 68) (cV #[.pointer none] 68);rw[<-ar]at b3 b4 b5 b6 b7;have c4:=aN b4 0;have c5:=aN b5 0;have c6:=aN b6 0;have c7:=aN b7 0;have f6:=cQ b6 0;have f7:=cQ b7 0;dsimp at c4 c5 c6 c7;have ax:=V ar;have bp:=V bP;have bw:=V bU;have B3:=V b3;have B4:=V b4;have B5:=V b5;have B6:=V b6;have B7:=V b7;clear ar bP bU b3 b4 b5 b6 b7
 gi_wp2_with fail
 rw[<-ax.out];rename_i K1 bC;refine akP (Q:=Exit.then (λa W'=>a=RmT E f fi du w.heap.size undef undef undef undef undef undef undef undef undef undef []/\W'.heap.size=w5.heap.size/\Z [] w W'/\Z [w.heap.size+1+1+1,w.heap.size+1+1+1+1] w5 W'/\W'.heap[w.heap.size+1+1+1]?=some (cV #[nV f du] 68)/\W'.heap[w.heap.size+1+1+1+1]?=some (cV #[nV f fi] 68)) (λ_ _ _=>False)) ?_ ?_
 .refine wpIn_wide.2 ?_;go_region;refine⟨rfl,by simp,((bp.out.setCell (.inr (by simp;omega)) _).setCell (.inr (by simp;omega)) _).drew,(((Z.refl _ w5).setCell (.inl (by simp)) _).setCell (.inl (by simp)) _).drew,?_,?_⟩;exact(Below.heap_setCell _ _ _ _ (by simp)).trans (bJ B6.out 0 _);exact bJ ((Below.heap_setCell _ _ _ _ (by simp)).trans B7.out) 0 _
 .intro e a W' hq;cases e with
  |normal=>
   obtain⟨rfl,bj,bQ,aL,g6,g7⟩:=hq;show K1 _ W';dsimp only[RmT];refine bC _ _ ?_;have g3:=aL.at B3.out (by simp;omega);have g4:=aL.at B4.out (by simp);have g5:=aL.at B5.out (by simp);rw[bw.out]at bj;have az:=V bj;have bq:=V bQ;have G3:=V g3;have G4:=V g4;have G5:=V g5;have G6:=V g6;have G7:=V g7;clear bj bQ aL g3 g4 g5 g6 g7 c4 c5 c6 c7 f6 f7 B3 B4 B5 B6 B7 bp bw ax w5 bC
   gi_wp2_with fail
   rw[az.out];have aa:Z [] W' (W'.alloc (cV #[G 0] 3)):=(Z.refl _ _).alloc _;have g8:(W'.alloc (cV #[G 0] 3)).heap[w.heap.size+1+1+1+1+1]?=some (cV #[G 0] 3):=by rw[<-az.out];exact aY W' _
   have bW:(W'.alloc (cV #[G 0] 3)).heap.size=w.heap.size+1+1+1+1+1+1:=by rw[xD,az.out]
   have ai:=V (bq.out.trans aa);replace G3:=V (aa.at G3.out (by simp));replace G4:=V (aa.at G4.out (by simp));replace G5:=V (aa.at G5.out (by simp));replace G6:=V (aa.at G6.out (by simp));replace G7:=V (aa.at G7.out (by simp));have G8:=V g8;have al:=V bW;clear aa g8 bW bq az;generalize W'.alloc (cV #[G 0] 3)=W8 at *;have c3:=aN G3.out 0;have c5:=aN G5.out 0;dsimp at c3 c5;have cj:=(HF.out.dB ai.out).lt;have aU:=V ((HF.out.dB ai.out.drew).ajp (some du) c0.out);rw[HP.out]at aU;rename_i Kb cu Ka bF;obtain⟨P3,bI⟩:∃P3:Act->J->Prop,P3=(λa H=>∃aA aB aC aD,a=RmT E f fi du w.heap.size (cW (w.heap.size+1+1+1+1+1)) undef aA aB aC aD (tr (w.heap.size+1+1+1+1+1+1)) undef undef undef []/\Z [] W8 H/\H.heap[w.heap.size+1+1+1+1+1+1]?=some (cV #[fR E.bB 188] 276)/\H.heap[w.heap.size+1+1+1+1+1+1+1]?=some (cV #[G n] 3)):=⟨_,rfl⟩;have aX:=V bI;clear bI;refine akP (Q:=Exit.then P3 (λ_ _ _=>False)) ?_ ?_
   .refine wpIn_wide.2 ?_
    go_region_with (go_at_call 379;refine aU.out.mono ?_;rintro e w9⟨rfl,bS⟩;have b1:=V bS;clear bS)
    all_goals
     show P3 _ w9;rw[aX.out,al.out];refine⟨_,_,_,_,rfl,?_,?_,?_⟩;rw[b1.out];exact(((Z.refl [] W8).drew).alloc _).alloc _;rw[b1.out,<-al.out];exact(sM W8.drew _ _).1;rw[b1.out,<-al.out];exact(sM W8.drew _ _).2
   .intro e a H hq;cases e with
    |normal=>
     replace hq:P3 a H:=hq;rw[aX.out]at hq;obtain⟨aA,aB,aC,aD,rfl,P,g9,bA⟩:=hq;show Ka _ H;dsimp only[RmT];refine bF _ _ ?_;have Gq:w.heap.size+1+1+1+1+1+1<=H.heap.size:=by have:=al.out;have:=P.size;omega
     have bM:RI E f σ w n fi du ⟨f,σ,0,du,fi⟩ H:=
      {le:=yQ _,ex:=λ_ _=>rfl,nl:=dr _,ll:=N.jy (σ:=σ) (i:=du) a2,ml:=N.jy (σ:=σ) (i:=fi) bg,fe:=bg,be:=a2,te:=a2
       sf:=HF.out.sf (ai.out.trans P) (by
        intro p hp;simp only[UQ,pW,pX]at hp;rcases hp with rfl|rfl|rfl|rfl
        .exact⟨by simp<;>omega,P.at G4.out (by simp)⟩
        .exact⟨by simp<;>omega,P.at G5.out (by simp)⟩
        .exact⟨by simp<;>omega,P.at G6.out (by simp)⟩
        .exact⟨by simp<;>omega,P.at G7.out (by simp)⟩)
       b3:=P.at G3.out (by simp),b8:=P.at G8.out (by simp),bl:=g9,bn:=bA
       fr:=.df (ai.out.trans P)}
     have c1:=V bM;clear bM P g9 bA G3 G4 G5 G6 G7 G8 ai al aU aX c3 c5 cj bF Ka P3 W8
     gi_wp2_with fail
     refine afi (b:=E.bB) (j:=188) (bs:=w.heap.size+1+1+1+1+1+1) (by omega) cl (by rfl) (λs:Gh=>eM s.g (dA s.σ.cC ((n-1-s.c:Nat):Int))) Gh.c
      (λs W=>RI E f σ w n fi du s W/\R=iQ fi du (n-s.c) s.c s.last s.mark s.σ)
      (λc s W=>c=.exit 0/\RI E f σ w n fi du s W/\R=.ok (s.last,s.mark) s.σ)
      ?_ ?_ ?_ ?_ ?_ ⟨f,σ,0,du,fi⟩ rfl ⟨c1.out,HR.out⟩ (λx=>RmT E f fi du w.heap.size (cW (w.heap.size+1+1+1+1+1)) (ig x) aA aB aC aD (tr (w.heap.size+1+1+1+1+1+1)) (ig x) undef undef []) ?assign ?body ?done ?stop
     rintro s A B row⟨u,h2⟩ hg hr;exact⟨u.grown hg hr (by omega) (by omega),h2⟩;rintro c s A B row⟨h0,u,h2⟩ hg hr;exact⟨h0,u.grown hg hr (by omega) (by omega),h2⟩;rintro s W⟨u,_⟩;rw[aN u.bn];rfl;rintro s W⟨u,_⟩;rw[aN u.bl];rfl;rintro s W q⟨u,_⟩ bR rfl;exact u.sf.rf.atO _
     case assign=>
      intro l x W K hK;dsimp only;gi_wp2;exact hK
     case body=>
      rintro l s W⟨u,h2⟩ bR;unfold RmT;obtain⟨k,hk⟩:∃k,k=n-1-s.c:=⟨_,rfl⟩;have ci:n-s.c=k+1:=by omega
      rw[ci]at h2;obtain⟨e,aK,bd⟩:=TM h2 HS.out;rw[<-hk,aK];rw[show ig (eM s.g (some e))=nV s.g e from rfl];have ac:s.σ.de (some e)=true:=by
       obtain⟨L,_,hr,_⟩:=u.sf;exact hr.wf.cC _ (VQ aK)
      have c3:=aN u.b3 0;dsimp at c3;have c4:W.cell? ⟨w.heap.size+1,0,none⟩=some (nV s.g fi):=by
       rw[aN (u.sf.at (v:=nV f fi) (by simp)),show nV s.g fi=nV f fi by unfold nV;rw[u.ex fi (N.jy (σ:=σ) (i:=fi) bg)]];rfl
      have c8:=aN u.b8 0;have f8:=cQ u.b8 0;dsimp at c8;have bf:=u.sf.rf.eql ac u.fe;have cv:s.c<4096:=by omega
      rcases bd with⟨rfl,an⟩|⟨ck,an⟩
      .rw[tu rfl]at bf;have H1:=V u;have H3:=V an;clear u h2 an aK ac;unfold nV at *;gi_wp2;exact⟨KeepsFrom.refl _ _,s,rfl,H1.out,H3.out⟩
      .rw[xz ck]at bf;have b9:=u.next bR bi (G ((s.c:Int)+1)) (by simp);obtain⟨W6,aF⟩:∃W6,W6=W.setCell ⟨w.heap.size+1+1+1+1+1,0,none⟩ (G ((s.c:Int)+1)):=⟨_,rfl⟩;have aP:KeepsFrom H.heap.size W W6:=by rw[aF];exact(oT _ _ _).from _
       rw[<-aF]at b9;have ag:=V b9;have ab:=V aP;have ay:=V aF;have a9:=V an;have au:=V ac;clear u h2 an aK b9 aP aF ac;unfold nV at *;by_cases h3:3<s.c+1;have ak:Hid (R=(gv (some e)>>=λ_=>WZ fi du k s.c s.last s.mark e) s.σ):=by
        refine V ?_;have:=a9.out;rw[dd h3]at this;exact this
       gi_wp2_with fail
       rw[<-ay.out];refine vH l (callsIn_wide.2 (BC (ab8 E (some e)) ag.out.sf ak.out HS.out rfl ?_));rintro a a0 WA U X z x5 C;have hA:=ag.out.step (λ_ _=>rfl) U z (Jb _ _ _ _ C) X;have a5:=Jb _ _ _ _ C e au.out;have ba:=ab.out.trans (z.mH H.heap.size);have bb:=x5;clear U X z x5 C ag ak a9 ab au ay c3 c4 c8 f8 bf
       rotate_left
       have ak:Hid (R=WZ fi du k s.c s.last s.mark e s.σ):=by
        refine V ?_;have:=a9.out;rw[cZ h3]at this;exact this
       obtain⟨a0,ad⟩:∃a0,a0=s.σ:=⟨_,rfl⟩;obtain⟨WA,aH⟩:∃WA,WA=W6:=⟨_,rfl⟩;have hA:RI E f σ w n fi du ⟨s.g,a0,s.c+1,s.last,s.mark⟩ WA:=by rw[ad,aH];exact ag.out
       have a5:a0.de (some e)=true:=by rw[ad];exact au.out
       have ba:KeepsFrom H.heap.size W WA:=by rw[aH];exact ab.out
       have bb:R=WZ fi du k s.c s.last s.mark e a0:=by rw[ad];exact ak.out
       have cf:=V (aH.trans ay.out);clear ag a9 ab au ak ad aH ay
       all_goals
        have c3:=aN hA.b3 0;dsimp at c3;have aT:=V (hA.sf.rf.alD (some e) a5);have HA:=V hA;have aw:=V bb;have F:=V ba;clear hA bb ba
        gi_wp2_with fail
        try rw[<-cf.out]
        refine(vH l (callsIn_wide.2 aT.out)).mono ?_;rintro e' w_⟨rfl,cn⟩;subst cn;by_cases a1:some e∈a0.act
        .have ao:R=(fD e>>=λd=>tU (some e) (some d)>>=λ_=>lE (some e) (some d)>>=λ_=>iC s.last>>=λ_=>eE d>>=λpl=>fY pl s.last>>=λ_=>iQ fi du k (s.c+1) d (if s.last=du then d else s.mark)) a0:=by
          rw[aw.out];unfold WZ;rw[cZ (by simpa using a1)]
         have aj:=V ao;rw[tu a1];clear ao a1 aw aT
         gi_wp2_with fail
         refine vH l (callsIn_wide.2 (amb (ZG E e) HA.out.sf aj.out HS.out rfl ?_));rintro d y cp W2 x1 U X z x5 C;have h2:=HA.out.step x1 U z (RO _ _ _ _ C) X;have aR:y e=s.g e:=x1 e (N.jy (σ:=a0) (i:=e) a5);have a7:=V (U6 C);have ah:=V h2;have bv:=V x5;replace F:=V (F.out.trans (z.mH H.heap.size));have c3:=aN h2.b3 0;dsimp at c3;clear h2 x1 U X z x5 C HA aj a5
         gi_wp2_with fail
         refine vH l (callsIn_wide.2 (BC (ahe E (some e) (some d)) ah.out.sf bv.out HS.out (by show _=#[_,nV y e,nV y d];unfold nV;rw[aR]) ?_));rintro a3 cy W3 U X z x5 C;have b2:=ah.out.step (λ_ _=>rfl) U z (M1 _ _ _ _ _ C) X;replace a7:=V (M1 _ _ _ _ _ C d a7.out);have aW:=V b2;have a9:=V x5;replace F:=V (F.out.trans (z.mH H.heap.size));have c3:=aN b2.b3 0;dsimp at c3;clear b2 U X z x5 C ah bv
         gi_wp2_with fail
         refine vH l (callsIn_wide.2 (BC (afS E (some e) (some d)) aW.out.sf a9.out HS.out (by show _=#[_,nV y e,nV y d];unfold nV;rw[aR]) ?_));rintro a4 bX W4 U X z x5 C;have h4:=aW.out.step (λ_ _=>rfl) U z (MZ _ _ _ _ _ C) X;replace a7:=V (MZ _ _ _ _ _ C d a7.out);have av:=V h4;have ap:=x5;replace F:=V (F.out.trans (z.mH H.heap.size));have c5:W4.cell? ⟨w.heap.size+1+1,0,none⟩=some (nV y du):=by
          have co:y du=f du:=h4.ex du (N.jy (σ:=σ) (i:=du) a2);rw[aN (h4.sf.at (k:=w.heap.size+1+1) (v:=nV f du) (by simp)),show nV y du=nV f du by unfold nV;rw[co]];rfl
         have c6:=aN (h4.sf.at (k:=w.heap.size+1+1+1) (v:=nV y s.last) (by simp)) 0;have c7:=aN (h4.sf.at (k:=w.heap.size+1+1+1+1) (v:=nV y s.mark) (by simp)) 0;have f7:=cQ (h4.sf.at (k:=w.heap.size+1+1+1+1) (v:=nV y s.mark) (by simp)) 0;dsimp at c6 c7;have aq:(binOp .eql 68 (nV y s.last) (nV y du)).run prog W4=.ok (.bool (decide (s.last=du))) W4:=h4.sf.rf.eql h4.te h4.be;clear h4 U X z x5 C aW a9;unfold nV at c5 c6 c7 aq;generalize hmk:(if s.last=du then d else s.mark)=mk at ap;by_cases ae:s.last=du;rw[tu ae]at aq;obtain⟨q1,q2⟩:=av.out.ahR d a7.out bi uI;obtain⟨W5,aE⟩:∃W5,W5=W4.setCell ⟨w.heap.size+1+1+1+1,0,none⟩ (cW (y d)):=⟨_,rfl⟩;have q3:RI E f σ w n fi du ⟨y,bX,s.c+1,s.last,mk⟩ W5:=by rw[aE,<-hmk,dd ae];exact q1
         have q4:KeepsFrom H.heap.size W4 W5:=by rw[aE];exact q2.mH H.heap.size
         have H5:=V q3;replace F:=V (F.out.trans q4);have ax:=V aE;have b0:=V ap;clear q1 q2 q3 q4 aE av ap ae hmk
         gi_wp2_with fail
         rw[<-ax.out]
         rotate_left
         rw[xz ae]at aq;have H5:=V (show RI E f σ w n fi du ⟨y,bX,s.c+1,s.last,mk⟩ W4 by rw[<-hmk,cZ ae];exact av.out);have b0:=V ap;clear av ap ae hmk
         gi_wp2_with fail
         all_goals
          refine vH l (callsIn_wide.2 (BC (abu E s.last) H5.out.sf b0.out HS.out rfl ?_));rintro a6 cz W7 U X z x5 C;have h6:=H5.out.step (λ_ _=>rfl) U z (FV _ _ _ _ C) X;have h7:=h6.k0 ((Z.refl _ W7).drew);have c6:=aN (h6.sf.at (k:=w.heap.size+1+1+1) (v:=nV y s.last) (by simp)) 0;dsimp at c6;replace a7:=V (FV _ _ _ _ C d a7.out);have H7:=V h7;have ca:=V x5;replace F:=V ((F.out.trans (z.mH H.heap.size)).trans ((Fr.df (bs:=E.bs) ((Z.refl _ W7).drew)).mH H.heap.size));clear h6 h7 U X z x5 C H5 b0;unfold nV at c6
          gi_wp2_with fail
          have bk:Hid (Calls prog 93 #[nV y d] W7.drew λe WE=>∃pl I,e=dw (pV y pl)/\RI E f σ w n fi du ⟨y,I,s.c+1,s.last,mk⟩ WE/\KeepsFrom H.heap.size W WE/\R=(fY pl s.last>>=λ_=>iQ fi du k (s.c+1) d mk) I/\I.de (some d)=true):=by
           refine V ?_;refine BC (agr E d) H7.out.sf ca.out HS.out rfl ?_;rintro pl I WE U X z x5 C;exact⟨pl,I,rfl,H7.out.step (λ_ _=>rfl) U z (M0 _ _ _ _ C) X,F.out.trans (z.mH H.heap.size),x5,M0 _ _ _ _ C d a7.out⟩
          have bo:Hid (∀pl I WE,RI E f σ w n fi du ⟨y,I,s.c+1,s.last,mk⟩ WE->KeepsFrom H.heap.size W WE->R=(fY pl s.last>>=λ_=>iQ fi du k (s.c+1) d mk) I->I.de (some d)=true->Calls prog 169 #[pV y pl,.iface 68 (nV y s.last)] WE λe WP=>e=nu/\∃af,RI E f σ w n fi du ⟨y,af,s.c+1,s.last,mk⟩ WP/\KeepsFrom H.heap.size W WP/\R=iQ fi du k (s.c+1) d mk af/\af.de (some d)=true):=by
           refine V ?_;intro pl I WE y1 y2 y3 y4;refine BC (ahy E pl s.last) y1.sf y3 HS.out rfl ?_;rintro a8 af WP U X z x5 C;exact⟨rfl,af,y1.step (λ_ _=>rfl) U z (M2 _ _ _ _ _ C) X,y2.trans (z.mH H.heap.size),x5,M2 _ _ _ _ _ C d y4⟩
          unfold nV at bk bo
          gi_region_with (first
           |(refine(vH l (callsIn_wide.2 bk.out)).mono ?_;rintro e' WE⟨pl,I,rfl,y1,y2,y3,y4⟩;have cr:WE.cell? ⟨w.heap.size+1+1+1,0,none⟩=some (cW (y s.last)):=by {rw[aN (y1.sf.at (k:=w.heap.size+1+1+1) (v:=nV y s.last) (by simp))];rfl};have CP:=V (bo.out pl I WE y1 y2 y3 y4);clear y1 y2 y3 y4)
           |(refine(vH l (callsIn_wide.2 CP.out)).mono ?_;rintro e' WP⟨rfl,af,y1,y2,y3,y4⟩;have cs:WP.cell? ⟨w.heap.size+1+1+1,0,none⟩=some (cW (y s.last)):=by {rw[aN (y1.sf.at (k:=w.heap.size+1+1+1) (v:=nV y s.last) (by simp))];rfl};have ct:=cQ (y1.sf.at (k:=w.heap.size+1+1+1) (v:=nV y s.last) (by simp)) 0;have bt:=V (y1.ahQ d y4 bi uI);have bu:=V y3;have c9:=V y2;clear y1 y2 y3 y4))
          all_goals
           gi_wp2;exact⟨c9.out.trans (bt.out.2.mH H.heap.size),_,rfl,bt.out.1,by rw[show n-(s.c+1)=k by omega];exact bu.out⟩
        .have ao:R=(fB (some e)>>=λ_=>iQ fi du k (s.c+1) s.last s.mark) a0:=by
          rw[aw.out];unfold WZ;rw[dd a1]
         have aj:=V ao;rw[xz a1];clear ao a1 aw aT
         gi_wp2_with fail
         refine vH l (callsIn_wide.2 (BC (aec E (some e)) HA.out.sf aj.out HS.out rfl ?_));rintro a cp W2 U X z x5 C;have h2:=HA.out.step (λ_ _=>rfl) U z (Vw _ _ _ _ C) X;have ah:=V h2;have cg:=V x5;have br:=V (F.out.trans (z.mH H.heap.size));clear h2 U X z x5 C HA aj F c3;gi_wp2;exact⟨br.out,_,rfl,ah.out,by rw[show n-(s.c+1)=k by omega];exact cg.out⟩
     rintro D s W hD hc⟨u,h2⟩ hK;have bc:R=.ok (s.last,s.mark) s.σ:=by
      rw[h2,show n-s.c=0 by omega];rfl
     clear h2 hc
     rotate_left
     rintro D c s W hD⟨rfl,u,bc⟩ hK
     all_goals
      have c6:=aN (u.sf.at (k:=w.heap.size+1+1+1) (v:=nV s.g s.last) (by simp)) 0;have c7:=aN (u.sf.at (k:=w.heap.size+1+1+1+1) (v:=nV s.g s.mark) (by simp)) 0;have f6:=cQ (u.sf.at (k:=w.heap.size+1+1+1) (v:=nV s.g s.last) (by simp)) 0;have f7:=cQ (u.sf.at (k:=w.heap.size+1+1+1+1) (v:=nV s.g s.mark) (by simp)) 0;dsimp at c6 c7;have s6:=nG (u.sf.at (k:=w.heap.size+1+1+1) (v:=nV s.g s.last) (by simp)) 0 (nV s.g s.last) rfl;have s7:=nG (u.sf.at (k:=w.heap.size+1+1+1+1) (v:=nV s.g s.mark) (by simp)) 0 (nV s.g s.mark) rfl;have S6:=V s6;have S7:=V s7;have H1:=V u;have cc:=V bc;have HD:=V hD;have c2:=V hK;clear u bc hD hK s6 s7
      gi_wp2_with fail
      rename_i Kx bH;obtain⟨am,aQ⟩:∃am:Act->J->Prop,am=(λa W'=>∃bx bz,a=RmT E f fi du w.heap.size (cW (w.heap.size+1+1+1+1+1)) undef aA aB aC aD (tr (w.heap.size+1+1+1+1+1+1)) undef bx bz [{target:=Target.collected D,args:=#[]}]/\W'=W.drew):=⟨_,rfl⟩;have aM:=V aQ;clear aQ;refine akP (Q:=Exit.then am (λ_ _ _=>False)) ?_ ?_
      .refine wpIn_wide.2 ?_;go_region
       all_goals
        show am _ _;rw[aM.out];refine⟨_,_,rfl,?_⟩;show((W.setCell ⟨w.heap.size+1+1+1,0,none⟩ (nV s.g s.last)).setCell ⟨w.heap.size+1+1+1+1,0,none⟩ (nV s.g s.mark)).drew=W.drew;rw[S6.out,S7.out]
      .intro e a W' hq;cases e with
       |normal=>
        replace hq:am a W':=hq;rw[aM.out]at hq;obtain⟨bx,bz,rfl,rfl⟩:=hq;show Kx _ _;dsimp only[RmT];refine bH _ _ ?_;clear bH;have c6:W.drew.cell? ⟨w.heap.size+1+1+1,0,none⟩=some (nV s.g s.last):=c6;gi_wp2;have bE:W.drew.heap[D]?=some (.deferred (some [])):=c2.out;refine⟨by simp,.inl ⟨_,_,rfl,QD bE,?_⟩⟩;have hD:=HD.out;have h7:=H1.out.k0 ((Z.refl _ W).drew);have d6:(W.drew.putObj D (.deferred none)).cell? ⟨w.heap.size+1+1+1,0,none⟩=some (nV s.g s.last):=(xO W.drew (by omega)).trans c6;have d7:(W.drew.putObj D (.deferred none)).cell? ⟨w.heap.size+1+1+1+1,0,none⟩=some (nV s.g s.mark):=(xO W.drew (by omega)).trans c7;refine⟨.tuple #[nV s.g s.last,nV s.g s.mark],by simp[results,results367,asAddr,Result.andThen,go_sem,d6,d7],?_⟩;rw[cc.out];obtain⟨L,ch,hr,_⟩:=h7.sf;exact⟨⟨s.g,h7.ex,h7.nl,rfl,⟨L,ch,hr.ahA bE rfl (by omega)⟩,h7.fr.take (by omega) _⟩,λr σ' cm=>by cases cm;exact⟨h7.ll,h7.ml⟩⟩
       |_=>exact hq.elim
    |_=>exact hq.elim
  |_=>exact hq.elim
end
def ToK(E:Env)(L:Loc)(i:Nat)(σ':N)(w w':J):Prop:=∃d,d.dk=L.dk/\(∀x,x≠i->d.kv x=L.kv x)/\Rel E d σ' w'/\Fr E.bs w w'
theorem Rel.aiX(h:Rel E L σ w)(i:Nat)(d:cY)(R:(σ.db i).isSome=true)(F:KT E.bs [139,141,280] w w')(u:d.ownBlock=(L.kv i).ownBlock\/∀g,d.ownBlock=some g->w.heap.size<=g)
  (k:σ'.nodes.length=σ.nodes.length) (X:∀j z,σ'.db j=some z->∃e,σ.db j=some e/\z.name=e.name) (a0:∀j,σ'.db j=none->σ.db j=none)
  (y:∀j H,σ'.nodes[j]?=some H->iS E.bs {L with kv:=λx=>if x=i then d else L.kv x} w' j H) (wf:Wf σ')
  (s0:σ'.cC=σ.cC:=by rfl) (s9:σ'.act=σ.act:=by rfl) (s1:σ'.head=σ.head:=by rfl) (s2:σ'.form=σ.form:=by rfl) (s3:σ'.mode=σ.mode:=by rfl) (s4:σ'.kept=σ.kept:=by rfl) (s5:σ'.dv=σ.dv:=by rfl) (s6:σ'.fJ=σ.fJ:=by rfl) (s7:σ'.dk=σ.dk:=by rfl) (s8:σ'.behind=σ.behind:=by rfl) (sw:σ'.waiting=σ.waiting:=by rfl) (so:σ'.jI=σ.jI:=by rfl) (sp:σ'.dM=σ.dM:=by rfl) (sf:σ'.fresh=σ.fresh:=by rfl) (I:σ'.nB=σ.nB:=by rfl) (K:σ'.ox=σ.ox:=by rfl) (P:σ'.mj=σ.mj:=by rfl):ToK E L i σ' w w':=by
 have C:∀j g,j<σ.nodes.length->j≠i->d.ownBlock=some g->(L.kv j).ownBlock≠some g:=by
  intro j g U q hg p;rcases u with e|e;rw[e]at hg;exact h.Ar i j g (N.jy R) U (wj q) hg p;grind[zD]
 refine⟨{L with kv:=λx=>if x=i then d else L.kv x},rfl,by grind,h.Zb F (λ_ _=>rfl) rfl rfl rfl y h.inj ?_ ?_ ?_ ?_ wf ?_ (Zl k) s0 s9 s1 s2 s3 s4 s5 s6 s7 s8 sw so sp I K P,F.fr (by decide)⟩
 all_goals grind[Ar,Ge,uq,Eg,zd]
theorem abm(h:Rel E L σ w)(u:σ.db i=some ei)(C:σ.db j=some ej)(q:j≠i)(hn:n<=ei.kids.length)(hl:ei.kids.length<1048576):
  Calls prog 169 #[place (L.dk i) n,(Nd.el (L.dk j)).val] w λe w'=>e=nu/\ToK E L i ((σ.dh i {ei with kids:=ins ei.kids n (.el j)}).dh j {ej with ff:=some i}) w w':=by
 have z:=N.dm u;have R:=N.dm C;have d:(σ.db i).isSome=true:=by rw[u];rfl
 have F:(σ.db j).isSome=true:=by rw[C];rfl
 have aI:=h.uY u;have lI:=h.xN u;have aJ:=h.uY C;have lJ:=h.xN C;refine(WX E.bs _ n _ _ _ _ _ _ _ _ _ _ _ w (h.th u) (h.th C) (λe=>q (h.inj _ _ e)) (λg hg=>h.Ar j i g R z q hg) (by grind) (by grind) h.bw).mono ?_;rintro e w'⟨rfl,⟨K,E1,f1⟩,E2,X⟩;have kt:=h.ktJ [j,i] (by grind) (by grind) X;have P:((σ.dh i {ei with kids:=ins ei.kids n (.el j)}).db j).isSome=true:=by rw[N.dY q];exact F
 have y:∀x e,x<σ.nodes.length->yC w (L.av x) e->yC w' (L.av x) e:=λx e _ ha=>kt.row ha (by decide);refine⟨rfl,h.aiX i K d kt f1 (by grind[N.dh]) ?_ ?_ ?_ ?_⟩;intro x e' p;by_cases I:x=j;grind[N.eB,N.dh];grind[N.eB,N.dY];intro x p;by_cases I:x=j;grind[N.eB,N.dh];grind[N.eB,N.dY];intro x nd p;rcases N.lh p with⟨rfl,rfl⟩|⟨I,p⟩;grind[iS];rcases N.lh p with⟨rfl,rfl⟩|⟨U,p⟩;show El E.bs w' _ _ _ _ (if x=x then K else L.kv x) _/\_;rw[dd rfl];refine⟨?_,y x _ z aI,lI⟩;rw[Dj];exact E1;have hN:=h.dy [j,i] (by grind) (by grind) X p (by grind);exact hN.ext (σ:=σ) (Ed.refl _ _) ((List.getElem?_eq_some_iff.1 p).1) rfl (cZ U) (h.wfn p);refine(h.wf.dh (e:={ei with kids:=ins ei.kids n (.el j)}) d (h.wf.ff i ei u) ?_).dh P ?_ ?_;intro k H;rcases Dk H with H|rfl;grind[Wf.kids,Rel.wf];exact F;rw[N.oJ d];exact d;grind[N.jE,Wf.kids,Rel.wf]
theorem abo(h:Rel E L σ w){k:Nd}(d:σ.db i=some ei)(K:σ.eZ k=true)(C:∀j,k≠ .el j)(R:n<=ei.kids.length)(P:ei.kids.length<1048576):
  Calls prog 169 #[place (L.dk i) n,(Nd.map L.dk k).val] w λe w'=>e=nu/\ToK E L i (σ.dh i {ei with kids:=ins ei.kids n k}) w w':=by
 have z:=N.dm d;have I:=h.uY d;have U:=h.xN d;refine(aeB E.bs _ n _ _ _ _ _ (Nd.map L.dk k) w (h.th d) (by grind) (by grind) h.bw (λj e=>by cases k<;>simp[Nd.map]at e;grind)).mono ?_;rintro e w'⟨rfl,⟨u,H,y⟩,g⟩;have F:=h.ktJ [i] (by grind) (by simp) g;refine⟨rfl,h.aiX i u (by rw[d];rfl) F y (by grind[N.dh]) ?_ ?_ ?_ ?_⟩;grind[N.eB,N.dY];grind[N.eB,N.dY];intro x X p;rcases N.lh p with⟨rfl,rfl⟩|⟨q,p⟩;show El E.bs w' _ _ _ _ _ _/\_;grind[Dj,KT.row];exact(h.dy [i] (by grind) (by simp) g p (by grind)).ext (Ed.refl _ _) ((List.getElem?_eq_some_iff.1 p).1) rfl (cZ q) (h.wfn p);grind[Wf.dh,Rel.wf,Wf.ff,Dk,Wf.kids]
end
end Go.Proofs.YthnijkkcimlnjaaGreatDoor
