import Derived.Test.YthnijkkcimlnjaaGreatDoorKept
set_option linter.unusedSimpArgs false
set_option linter.unusedVariables false
set_option linter.defProp false
set_option maxHeartbeats 0
set_option maxRecDepth 100000
namespace Go.Proofs.YthnijkkcimlnjaaGreatDoor
open Go.RowKit Tryz
def kD:=@ByteArray.ext
def Oq:=@List.take_append_drop
def UR:=@Eq.trans
def Eb:=@List.head?_eq_getElem?
def amp:=@List.take_sublist
def US:=@List.drop_eq_getElem_cons
def Ot:=@List.mem_erase_of_ne
def afu:=@List.getElem?_append_right
def afv:=@Nat.le_succ
def lW:=@List.getElem?_of_mem
def Fu:=@Nat.eq_zero_or_pos
def Lb:=@List.reverse_append
def Lc:=@Calls.quiet_of_same
def Fv:=@Oper.semAt_some
def akP:=@wpIn_mono
def wH:=@grownBy_putObj'
def vF:=@callsIn_wide
def vG:=@callsIn_of_wp_marks
def vH:=@CallsIn.inRound
def oT:=@KeepsOthers.setCell
def QD:=@run_takeDeferred
def lZ:=@Bool.false_eq_true
def rP:=@if_false
section
variable {E:Env}{L:Loc}{W w w' w0:J}{a o rest xs ys:gZ}{b c i it j k m n n0 pf t:Nat}{e ei:sZ}{f r:Nat->Nat}{ks:List Nd}{lb:fN}{old s:O}{p q:O->Bool}{pl:Nat×Nat}{v:cY}{x y z:eG}{σ σ' σ1:N}
theorem Rel.wg(h:Rel E L σ w)(d:O):Rel E (L.new σ.nodes.length w.heap.size (gq) (gq)) (σ.add (.el {name:=d,di:=[],ff:=none,kids:=[]})) (w.alloc (cV #[Y d,gq,.pointer none,gq] 139)):=by
 refine h.add _ _ _ _ _ ((Z.refl _ _).alloc _) (dr _) ?_ rfl (λe u=>by grind) (λ_ _ _ _ _ g=>by cases g) (λ_ _ _ _ _ _ g=>by cases g) (λ_=>rfl) (λl=>⟨l,λ_ _=>by simp[Value.ownBlock]⟩) (λ_ g=>by cases g);show El E.bs _ _ _ _ _ _ _/\yC _ _ _/\_;rw[Loc.pO,Loc.Au,Loc.Ia];exact⟨⟨aY w _,mh _ _ _ _,by simp,by grind⟩,mh _ _ _ _,by simp⟩
theorem Rel.fG(h:Rel E L σ w)(u:σ.fresh=true)(d:O):Rel E (L.new σ.nodes.length w.heap.size E.tv (gq)) (σ.ny (.el {name:=d,di:=E.ta,ff:=none,kids:=[]}) false) (w.alloc (cV #[Y d,E.tv,.pointer none,gq] 139)):=by
 have B:Z [] w (w.alloc (cV #[Y d,E.tv,.pointer none,gq] 139)):=(Z.refl _ _).alloc _;refine h.add _ _ E.tv _ _ B (dr _) ?_ rfl (λe F=>by grind) (λi e g C _ l=>h.zd u i g (N.dm C) l) (λe g j _ _ D l=>h.zd u j g D l) (λA=>absurd rfl (A _)) (λu=>by grind) h.tb;show El E.bs _ _ _ _ _ _ _/\yC _ _ _/\_;rw[Loc.pO,Loc.Au,Loc.Ia];have⟨ao,cap,hv⟩:=cP h.tok;exact⟨⟨aY w _,mh _ _ _ _,by simp,by grind⟩,B.ownsRow h.tok (by simp),h.Lq⟩
theorem Rel.alQ(h:Rel E L σ w)(nd:zc)(s:O)(g:nd=.tx s\/nd=.cm s\/nd=.dt s):Rel E (L.new σ.nodes.length w.heap.size (gq) (gq)) (σ.add nd) (w.alloc (cV #[Y s] nd.typ)):=by
 have l:∀e,nd≠ .el e:=by grind
 refine h.add nd _ _ _ _ ((Z.refl _ _).alloc _) (dr _) ?_ rfl (λe u=>absurd u (l e)) (λ_ _ _ _ _ d=>by cases d) (λ_ _ _ _ _ _ d=>by grind) (λ_=>rfl) (λA=>⟨A,λ_ _=>by simp[Value.ownBlock]⟩) (λ_ d=>by cases d);rcases g with rfl|rfl|rfl;show _=_;rw[Loc.pO];exact aY w _;show _=_;rw[Loc.pO];exact aY w _;show _=_;rw[Loc.pO];exact aY w _
def Too(E:Env)(L:Loc)(n:Nat)(σ':N)(w w':J):Prop:=∃d,Ed n L d/\Rel E d σ' w'/\Fr E.bs w w'
def N.jN(σ:N)(t:Nat)(s:O):N:={σ with nodes:=σ.nodes.set t (.tx s)}
theorem N.pT(d:σ.nodes[t]?=some (.tx old))(i:Nat):(σ.jN t s).db i=σ.db i:=by
 grind[N.db,N.jN]
theorem N.sK(d:σ.nodes[t]?=some (.tx old))(x:eG):(σ.jN t s).de x=σ.de x:=by
 cases x with
 |none=>rfl
 |some i=>show((σ.jN t s).db i).isSome=(σ.db i).isSome;grind[pT]
def N.TU(d:σ.nodes[t]?=some (.tx old))(x:eG):(σ.jN t s).jw x=σ.jw x:=by
 cases x with
 |none=>rfl
 |some i=>exact N.sK d (some i)
theorem N.Gw(d:σ.nodes[t]?=some (.tx old))(k:Nd):(σ.jN t s).eZ k=σ.eZ k:=by
 have l:(σ.jN t s).nodes[t]?=some (.tx s):=by simp[N.jN,((List.getElem?_eq_some_iff.1 d).1)]
 have h:∀j,j≠t->(σ.jN t s).nodes[j]?=σ.nodes[j]?:=λj g=>by grind[N.jN]
 cases k with
 |el j=>exact N.sK d (some j)
 |tx j=>grind[N.eZ]
 |cm j=>grind[N.eZ]
 |dt j=>grind[N.eZ]
theorem Hg(h:Rel E L σ w)(S:σ.db i=some ei)(hm:m<ei.kids.length)(B:ei.kids[m]=.tx t)(A:σ.nodes[t]?=some (.tx old))(U:old.size+s.size<=1048576):
  Calls prog 176 #[place (L.dk i) (m+1),Y s] w λe w'=>e=nu/\To E L (σ.jN t (old++s)) w w':=by
 refine(Mn E.bs _ m (L.dk t) _ old s _ _ _ _ w (h.th S) (by grind) (by grind[Nd.map]) (h.qH t _ A) U).mono ?_;rintro e w'⟨rfl,hb,T⟩;have H:=h.qH t _ A;have kt:KT E.bs [139,141,280] w w':=.fS T (λx B _=>by simp at B;subst B;exact⟨⟨_,_,_,H,by simp⟩,h.bN t (List.getElem?_eq_some_iff.1 A).1⟩);refine⟨rfl,L,rfl,h.Zb kt (λ_ _=>rfl) rfl rfl rfl ?_ h.inj ?_ ?_ ?_ ?_ ?_ ?_,kt.fr (by decide)⟩;intro x nd d;by_cases C:t=x;subst C;simp[N.jN,((List.getElem?_eq_some_iff.1 A).1)]at d;rw[<-d];exact hb;have F:=by simpa [N.jN,C]using d
 have l:=(List.getElem?_eq_some_iff.1 F).1;refine(h.qH x nd F).kept T ?_ ?_ ?_;simp;exact λe=>C (h.inj _ _ e.symm);intro g D u;simp at u;have⟨c,m',h1⟩:=h.zD l D;rw[u]at h1;exact absurd (afd H h1) (by decide);intro g D u;simp at u;have⟨c,m',h1⟩:=h.OM l D;rw[u]at h1;exact absurd (afd H h1) (by decide)
 simpa [N.jN]using h.Ar
 intro x l d;rw[N.pT A]at d;exact h.Ge x (by simpa [N.jN]using l) d;intro a b e g X R K I D;rw[N.pT A]at X;exact h.uq a b e g X R (by simpa [N.jN]using K) I D;intro x l d;rw[N.pT A]at d;exact h.Eg x (by simpa [N.jN]using l) d;refine⟨λx B=>by rw[N.TU A];exact h.wf.cC x B,λx B=>by rw[N.sK A];exact h.wf.act x B,by rw[N.sK A];exact h.wf.head,by rw[N.sK A];exact h.wf.form,λi e S=>by grind[N.sK,Wf.ff,Rel.wf,N.pT],λi e S k T=>by grind[N.Gw,Wf.kids,Rel.wf,N.pT],by grind[N.pT,Wf.rU,Rel.wf]⟩;intro hf x g l;exact h.zd hf x g (by simpa [N.jN]using l)
theorem KR(h:Rel E L σ w)(l:σ.db i=some ei)(H:n<=ei.kids.length)(D:ei.kids.length<1048576)(K:∀m,(F:m<ei.kids.length)->n=m+1->∀t,ei.kids[m]≠ .tx t):
  Calls prog 176 #[place (L.dk i) n,Y s] w λe w'=>e=nu/\Too E L σ.nodes.length ((σ.add (.tx s)).dh i {ei with kids:=ins ei.kids n (.tx σ.nodes.length)}) w w':=by
 refine PX E.bs _ n _ s _ _ _ _ w (h.th l) (by grind) _ ?_ ?_;intro R u;have:=Um ((h.dB u).alQ (.tx s) s (.inl rfl)) (k:=.tx σ.nodes.length) (by rw[N.qo (N.dm l)];exact l) (by simp[N.eZ,N.add]) (λj e=>by cases e) H D;rw[(λj g=>Loc.yc g) i (N.dm l)]at this;simp[Nd.map,Loc.pO]at this;refine this.mono ?_;rintro e w'⟨rfl,A,e2,B,C⟩;exact⟨rfl,A,λj g=>by rw[e2];exact(λj g=>Loc.yc g) j g,B,(Fr.df (u.alloc _)).trans C⟩;intro m F I t d;rw[List.getElem_map]at d;cases hq:ei.kids[m]with
 |tx t'=>grind
 |el _=>rw[hq]at d;cases d
 |cm _=>rw[hq]at d;cases d
 |dt _=>rw[hq]at d;cases d
inductive TK
 |gz (s:O)
 |start (name:O)
 |stop (name:O)
 |dl (s:O)
 |dK (name:O) (q:Bool)
 |lost
 |dD
structure cR where
 a:Nat
 b:Nat
 k:TK
 di:iD:=[]
def cR.name(t:cR):O:=match t.k with
 | .start n=>n
 | .stop n=>n
 |_=>⟨#[]⟩
def cR.fc(t:cR):iD:=match t.k with
 | .start _=>t.di
 | .stop _=>t.di
 |_=>[]
def cR.chars(t:cR):O:=match t.k with
 | .gz s=>s
 |_=>⟨#[]⟩
def rD(s:O):Bool:=ir s ⟨#[0]⟩
def jn(s:O):Bool:=da [⟨#[32]⟩,⟨#[9]⟩,xE,⟨#[12]⟩] s
namespace N
def nm(σ:N)(i:Nat):O:=match σ.db i with
 |some e=>e.name
 |none=>⟨#[]⟩
def jg(σ:N):eG->O
 |some i=>σ.nm i
 |none=>⟨#[]⟩
def last(σ:N):eG:=dA σ.cC ((σ.cC.length:Int)-1)
def current(σ:N)(p:O->Bool):Bool:=match σ.last with
 |none=>false
 |some i=>p (σ.nm i)
def pop(σ:N):N:={σ with cC:=σ.cC.dropLast}
def Gr(σ:N)(p:O->Bool):N:=if σ.current p then σ.pop else σ
def xx(σ:N)(p:O->Bool):gZ->gZ
 |[]=>[]
 |x::r=>if p (σ.jg x)then r else xx σ p r
def yw(σ:N)(p:O->Bool):N:={σ with cC:=(xx σ p σ.cC.reverse).reverse}
def la(σ:N)(p:O->Bool):gZ->gZ
 |[]=>[]
 |x::r=>if p (σ.jg x)then la σ p r else x::r
def pY(σ:N)(p:O->Bool):N:={σ with cC:=(la σ (λs=>!(p s||da [aG] s)) σ.cC.reverse).reverse}
def gJ(σ:N):N:={σ with cC:=(la σ rI σ.cC.reverse).reverse}
def tL(σ:N)(p b:O->Bool):gZ->Bool
 |[]=>false
 |x::r=>if p (σ.jg x)then true else if b (σ.jg x)then false else tL σ p b r
def inScope(σ:N)(p b:O->Bool):Bool:=tL σ p b σ.cC.reverse
def lf(σ:N)(it:Nat):gZ->Bool
 |[]=>false
 |x::r=>if x=some it then true else if dG (σ.jg x)then false else lf σ it r
def kg(σ:N)(it:Nat):Bool:=lf σ it σ.cC.reverse
def close(σ:N)(p b:O->Bool):N:=if σ.inScope p b then σ.yw p else σ
end N
def Hr:O->Bool:=λs=>dG s||da [dN] s
def aiD:O->Bool:=λs=>dG s||da [vO] s
def zT:O->Bool:=da [aG,aV]
def zU:O->Bool:=da [aV,cJ,cF,cM,dq]
def agm(x:eG):M Nat:=λσ=>match x with
 |some i=>if (σ.db i).isSome then .ok i σ else .stuck
 |none=> .stuck
def eE(i:Nat):M (Nat×Nat):=λσ=>match σ.db i with
 |some e=> .ok (i,e.kids.length) σ
 |none=> .stuck
def oo(σ:N):gZ->Option (eG)
 |[]=>none
 |x::r=>if !ir (σ.jg x) aV||x=dA σ.cC 0 then oo σ r else some x
def nh.isOk{α:Type}:nh α->Bool
 | .ok _ _=>true
 |_=>false
def gQ(i:Nat):M (Nat×Nat):=λσ=>match σ.db i with
 |some e=>match e.ff with
  |some p=>match σ.db p with
   |some ep=>if 0<=lO ep.kids (Nd.de i)then .ok (p,(lO ep.kids (Nd.de i)).toNat) σ else .stuck
   |none=> .stuck
  |none=>match dA σ.cC (posOf σ.cC (some i)-1)with
   |some q=>eE q σ
   |none=> .stuck
 |none=> .stuck
def N.tq(σ:N):Bool:=σ.cC.all λx=>match x with
 |some i=>!ir (σ.nm i) aV||decide (some i=dA σ.cC 0)||(gQ i σ).isOk
 |none=>false
def fx:M (Nat×Nat):=λσ=>if σ.tq then (match oo σ σ.cC.reverse with
 |some (some i)=>gQ i σ
 |some none=> .stuck
 |none=>match dA σ.cC 0 with
  |some q=>eE q σ
  |none=> .stuck)else .stuck
theorem jC(h:eE i σ=.ok pl σ1):σ1=σ:=by
 grind[eE]
theorem AR(h:gQ i σ=.ok pl σ1):σ1=σ:=by
 grind[jC,gQ]
theorem kX(h:fx σ=.ok pl σ1):σ1=σ:=by
 grind[AR,jC,fx]
def placeFor(i:Nat):M (Nat×Nat):=λσ=>if σ.dv&&zU (σ.nm i)then fx σ else eE i σ
def gp:M (Nat×Nat):=λσ=>match σ.last with
 |some i=>placeFor i σ
 |none=> .stuck
def fY(pl:Nat×Nat)(j:Nat):M Unit:=λσ=>match σ.db pl.1,σ.db j with
 |some ei,some ej=>if j≠pl.1/\pl.2<=ei.kids.length/\ei.kids.length<1048576 then .ok () ((σ.dh pl.1 {ei with kids:=ins ei.kids pl.2 (.el j)}).dh j {ej with ff:=some pl.1})else .stuck
 |_,_=> .stuck
def pQ(pl:Nat×Nat)(k:Nd):M Unit:=λσ=>match σ.db pl.1 with
 |some ei=>if σ.eZ k=true/\pl.2<=ei.kids.length/\ei.kids.length<1048576 then .ok () (σ.dh pl.1 {ei with kids:=ins ei.kids pl.2 k})else .stuck
 |none=> .stuck
def mP(pl:Nat×Nat)(s:O):M Unit:=λσ=>match σ.db pl.1 with
 |some ei=>if pl.2<=ei.kids.length/\ei.kids.length<1048576 then
   match (if pl.2=0 then none else ei.kids[pl.2-1]?)with
   |some (.tx t)=>match σ.nodes[t]? with
    |some (.tx old)=>if old.size+s.size<=1048576 then .ok () (σ.jN t (old++s))else .stuck
    |_=> .stuck
   |_=> .ok () ((σ.add (.tx s)).dh pl.1 {ei with kids:=ins ei.kids pl.2 (.tx σ.nodes.length)})
  else .stuck
 |none=> .stuck
def kA(x:eG):M Unit:=λσ=>if σ.nB<=σ.cC.length then .stop 5 σ.dk else if σ.jw x then .ok () {σ with cC:=σ.cC++[x]} else .stuck
def fP(j:Nat):M Unit:=do
 let pl <-gp
 fY pl j
 kA (some j)
 return ()
def wg(d:O):M Nat:=λσ=> .ok σ.nodes.length (σ.add (.el {name:=d,di:=[],ff:=none,kids:=[]}))
def cR.nj(t:cR):Bool:=match t.k with
 | .start _=>true
 | .stop _=>true
 |_=>false
def fG(t:cR):M Nat:=λσ=>if σ.fresh&&t.nj then .ok σ.nodes.length (σ.ny (.el {name:=t.name,di:=t.fc,ff:=none,kids:=[]}) false)else .stuck
def fF(d:O):M Unit:=do
 let j <-wg d
 fP j
 return ()
def dZ(t:cR):M Unit:=do
 let j <-fG t
 fP j
 return ()
def tJ:M (eG):=λσ=> .ok σ.last σ.pop
def gM(t:cR):M Unit:=do
 dZ t
 let _ <-tJ
 return ()
def gw(t:cR):M Unit:=do
 let pl <-gp
 mP pl t.chars
 return ()
def iI(p b:O->Bool):M Bool:=λσ=>if σ.inScope p b then .ok true (σ.yw p)else .ok false σ
def lr:M Unit:=do
 let _ <-iI (da [nO]) Hr
 return ()
def ly(p:O->Bool):M Unit:=rO λσ=>σ.Gr p
def oB(p:O->Bool):M Unit:=rO λσ=>σ.pY p
def fq(m:Nat):M Unit:=rO λσ=>{σ with mode:=m}
def fB(x:eG):M Unit:=λσ=>if σ.de x then .ok () {σ with cC:=σ.cC.erase x} else .stuck
def tU(x y:eG):M Unit:=λσ=>if σ.de x&&σ.jw y then .ok () {σ with cC:=kB σ.cC x y} else .stuck
def kj(x y:eG):M Unit:=λσ=>if σ.de x&&σ.jw y&&decide (σ.cC.length<4096)then .ok () {σ with cC:=eu σ.cC x y} else .stuck
def vr(x:eG):M Unit:=λσ=>if σ.de x then .ok () {σ with cC:=li σ.cC x} else .stuck
def gv(x:eG):M Unit:=λσ=>if σ.de x then .ok () {σ with act:=σ.act.erase x} else .stuck
def lE(x y:eG):M Unit:=λσ=>if σ.de x&&σ.de y then .ok () {σ with act:=kB σ.act x y} else .stuck
def jk(x y:eG):M Unit:=λσ=>if σ.de x&&σ.de y&&decide (σ.act.length<4096)then .ok () {σ with act:=eu σ.act x y} else .stuck
def xL(x:eG):M Unit:=λσ=>if σ.de x then .ok () {σ with act:=li σ.act x} else .stuck
def uo(cU:iD)(s:O):Bool:=cU.any λa=>ir a.1 s
def lK(i:Nat):iD->M Unit
 |[]=>pure ()
 |a::r=>λσ=>match σ.db i with
  |none=> .stuck
  |some e=>if uo e.di a.1 then lK i r σ else if σ.mj<=e.di.length then .stop 7 σ.dk else lK i r (σ.dh i {e with di:=e.di++[a]})
def qE(i:Nat)(t:cR):M Unit:=λσ=>if σ.fresh&&kF (σ.nm i)then lK i t.fc σ else .stuck
def fD(i:Nat):M Nat:=λσ=>match σ.db i with
 |some e=>if kF e.name then .stuck else .ok σ.nodes.length (σ.add (.el {name:=e.name,di:=e.di,ff:=none,kids:=[]}))
 |none=> .stuck
def N.We(σ:N)(x:eG):Bool:=decide (x=none)||decide (x∈σ.cC)
def N.eC(σ:N):gZ->Nat
 |[]=>0
 |x::r=>if σ.We x then r.length+1 else σ.eC r
def N.ym(σ:N):Nat:=σ.eC σ.act.reverse
def yE(n:Nat):M Nat:=λσ=>match dA σ.act (n:Int)with
 |some i=> .ok i σ
 |none=> .stuck
def my(old:Nat):M Unit:=λσ=>lE (some old) σ.last σ
def DK:Nat->Nat->M Unit
 |0,_=>pure ()
 |k+1,n=>do
  let old <-yE n
  let j <-fD old
  fP j
  my old
  DK k (n+1)
def iK:M Unit:=λσ=>DK (σ.act.length-σ.ym) σ.ym σ
def N.oL(σ:N)(s:O):gZ->eG
 |[]=>none
 |none::_=>none
 |some i::r=>if ir (σ.nm i) s then some i else σ.oL s r
def N.jH(σ:N)(s:O):eG:=σ.oL s σ.act.reverse
def akb(a b:sZ):Bool:=ir a.name b.name&&(a.di.length==b.di.length)&&a.di.all λx=>b.di.any λy=>ir x.1 y.1&&ir x.2 y.2
def N.aaE(σ:N)(i j:Nat):Bool:=match σ.db i,σ.db j with
 |some a,some b=>akb a b
 |_,_=>false
def N.oM(σ:N)(j:Nat):gZ->eG×Nat->eG×Nat
 |[],c=>c
 |none::_,c=>c
 |some i::r,c=>if σ.aaE i j then σ.oM j r (some i,c.2+1)else σ.oM j r c
def fC(x:eG):M Unit:=λσ=>if σ.ox<=σ.act.length then .stop 6 σ.dk else if σ.de x then .ok () {σ with act:=σ.act++[x]} else .stuck
def GK(i:Nat):M Unit:=λσ=>
 let c:=σ.oM i σ.act.reverse (none,0)
 if 3<=c.2 then (do
  gv c.1
  fC (some i)
  return ():M Unit) σ else (do
  fC (some i)
  return ():M Unit) σ
def tM:M Unit:=do
 xL none
 return ()
def AZ:M Nat:=λσ=>match σ.last with
 |some i=> .ok i σ
 |none=> .stuck
def iX(t:cR):M Unit:=do
 iK
 dZ t
 return ()
def pu(t:cR):M Unit:=do
 iK
 gM t
 return ()
def dU(t:cR):M Unit:=do
 iX t
 let i <-AZ
 GK i
 return ()
def nT(s:O):M Unit:=do
 let _ <-iI (da [s]) iG
 return ()
def N.ql(σ:N)(f:Nat):gZ->eG->eG
 |[],b=>b
 |x::r,b=>if x=some f then b else σ.ql f r (if iG (σ.jg x)then x else b)
def N.jT(σ:N)(f:Nat):eG:=σ.ql f σ.cC.reverse none
def iC(j:Nat):M Unit:=λσ=>match σ.db j with
 |none=> .stuck
 |some ej=>match ej.ff with
  |none=> .ok () σ
  |some p=>match σ.db p with
   |none=> .stuck
   |some ep=>if j≠p/\0<=lO ep.kids (Nd.de j)/\(lO ep.kids (Nd.de j)).toNat<ep.kids.length then .ok () ((σ.dh p {ep with kids:=ep.kids.eraseIdx (lO ep.kids (Nd.de j)).toNat}).dh j {ej with ff:=none})else .stuck
def xh(pl:Nat×Nat)(k:Nd):M Unit:=match k with
 | .el j=>fY pl j
 |k=>pQ pl k
def rB(dst:Nat):List Nd->M Unit
 |[]=>pure ()
 |k::r=>do
  let pl <-eE dst
  xh pl k
  rB dst r
def handOver(b dst:Nat):M Unit:=λσ=>match σ.db b with
 |none=> .stuck
 |some eb=>if b=dst then .stuck else (rB dst eb.kids>>=λ_ σ'=>match σ'.db b with
  |some eb'=> .ok () (σ'.dh b {eb' with kids:=[]})
  |none=> .stuck) σ
def zM(n:Nat):M Nat:=λσ=>match dA σ.cC (n:Int)with
 |some i=> .ok i σ
 |none=> .stuck
def iQ(f du:Nat):Nat->Nat->Nat->Nat->M (Nat×Nat)
 |0,_,last,mark=>pure (last,mark)
 |n+1,c,last,mark=>do
  let e <-zM n
  if e=f then pure (last,mark)else do
   (if 3<c+1 then gv (some e)else pure ())
   λσ=>if some e∉σ.act then (do
    fB (some e)
    iQ f du n (c+1) last mark:M (Nat×Nat)) σ else (do
    let d <-fD e
    tU (some e) (some d)
    lE (some e) (some d)
    iC last
    let pl <-eE d
    fY pl last
    iQ f du n (c+1) d (if last=du then d else mark):M (Nat×Nat)) σ
def tK(f du:Nat):M (Nat×Nat):=λσ=>iQ f du (posOf σ.cC (some du)).toNat 0 du f σ
def ahead(f:Nat):M Nat:=λσ=>match dA σ.cC (posOf σ.cC (some f)-1)with
 |some i=> .ok i σ
 |none=> .stuck
def pi(f du:Nat):M Unit:=do
 let (last,mark) <-tK f du
 iC last
 let a <-ahead f
 let pl <-placeFor a
 fY pl last
 let d <-fD f
 handOver du d
 let pl <-eE du
 fY pl d
 jk (some mark) (some d)
 gv (some f)
 fB (some f)
 kj (some du) (some d)
 return ()
def iY(s:O):M Bool:=λσ=>match σ.jH s with
 |none=>(do nT s;return false:M Bool) σ
 |some f=>if some f∉σ.cC then (do gv (some f);return false:M Bool) σ
  else if !σ.kg f then .ok false σ
  else match σ.jT f with
   |none=>(do vr (some f);gv (some f);return false:M Bool) σ
   |some b=>(do pi f b;return true:M Bool) σ
def qj(s:O):Nat->M Unit
 |0=>pure ()
 |k+1=>do
  let b <-iY s
  if b then qj s k else pure ()
def rY(s:O):M Unit:=λσ=>match σ.last with
 |none=> .stuck
 |some i=>if ir (σ.nm i) s&&!decide (some i∈σ.act)then (do let _ <-tJ;return ():M Unit) σ else qj s 8 σ
section
variable (rec:Nat->cR->M Unit)(t:cR)
def gh:M Unit:=λσ=>rec σ.mode t σ
def lj(pl:Nat×Nat)(nd:zc)(k:Nat->Nd):M Unit:=λσ=>pQ pl (k σ.nodes.length) (σ.add nd)
def vi:M (Nat×Nat):=eE 0
def iN:M Unit:=match t.k with
 | .dK n q=>do
  let pl <-vi
  lj pl (.dt n) .dt
  rO λσ=>{σ with fJ:=q||!ir n aG}
  fq 1
  return ()
 |_=>do
  fq 1
  return ()
def fV:M Unit:=do
 rO λσ=>{σ with fJ:=true}
 fq 1
 gh rec t
 return ()
def mL(d:O)(own:Bool)(cU:iD):M Nat:=λσ=>if own then (if σ.fresh then .ok σ.nodes.length (σ.ny (.el {name:=d,di:=cU,ff:=none,kids:=[]}) false)else .stuck)else .ok σ.nodes.length (σ.add (.el {name:=d,di:=[],ff:=none,kids:=[]}))
def nU(own:Bool)(cU:iD):M Unit:=do
 let e <-mL aG own cU
 let pl <-vi
 fY pl e
 kA (some e)
 fq 2
 return ()
def qM:M Unit:=do
 nU t.nj t.fc
 return ()
def lL:M Unit:=do
 nU false []
 gh rec t
 return ()
def nW(own:Bool)(cU:iD):M Unit:=do
 let e <-mL bZ own cU
 rO λσ=>{σ with head:=some e}
 fP e
 fq 3
 return ()
def qN:M Unit:=do
 nW t.nj t.fc
 return ()
def lM:M Unit:=do
 nW false []
 gh rec t
 return ()
def uj:M Unit:=do
 let _ <-tJ
 fq 4
 return ()
def iw:M Unit:=do
 uj
 gh rec t
 return ()
def oe:M Unit:=do
 dZ t
 fq 6
 return ()
def kN:M Unit:=do
 fF aZ
 fq 6
 gh rec t
 return ()
def iW:M Unit:=λσ=>fB σ.head σ
def pushHead:M Unit:=λσ=>kA σ.head σ
def nA:M Unit:=do
 pushHead
 rec 3 t
 iW
 return ()
def Aj(of:O)(d:Bool):M Unit:=rO λσ=>{σ with jI:=of,dM:=d}
def jV(d:Bool):M Unit:=do
 dZ t
 Aj t.name d
 rO λσ=>{σ with kept:=σ.mode}
 fq 5
 return ()
def og:M Unit:=do
 jV t false
 return ()
def jr:M Unit:=do
 jV t true
 return ()
def sQ:M Unit:=do
 let _ <-tJ
 rO λσ=>{σ with mode:=σ.kept}
 return ()
def vW:M Unit:=do
 sQ
 gh rec t
 return ()
def iV:M Unit:=if rD t.chars then pure ()else do
 iK
 gw t
 return ()
def jm:M Unit:=λσ=>match dA σ.cC 0 with
 |some i=>(do qE i t;return ():M Unit) σ
 |none=> .stuck
def lc:M Unit:=λσ=>match dA σ.cC 1 with
 |some i=>if ir (σ.nm i) aZ then (do qE i t;return ():M Unit) σ else .ok () σ
 |none=> .ok () σ
def jJ:M Unit:=do
 lr
 dZ t
 return ()
def rL:M Unit:=do
 jJ t
 rO λσ=>{σ with behind:=true}
 return ()
def jQ:M Unit:=do
 lr
 ly (da [px,py])
 dZ t
 return ()
def sY:M Unit:=do
 lr
 gM t
 return ()
def mV:M Unit:=λσ=>match σ.form with
 |some _=> .ok () σ
 |none=>(do
  jJ t
  rO λσ=>{σ with form:=σ.last}
  return ():M Unit) σ
def kQ:M Unit:=do
 let _ <-iI (da [dN]) dG
 iX t
 return ()
def rh:M Unit:=λσ=>if σ.fJ then .ok () σ else lr σ
def nJ:M Unit:=do
 rh
 dZ t
 fq 7
 return ()
def kT:M Unit:=do
 og t
 rO λσ=>{σ with behind:=true}
 return ()
def jY:M Unit:=do
 ly (da [dj])
 iX t
 return ()
def lU:M Unit:=do
 iX t
 rO λσ=>{σ with mode:=if σ.mode=7\/σ.mode=9\/σ.mode=11\/σ.mode=12\/σ.mode=13 then 15 else 14}
 return ()
def kY:M Unit:=λσ=>match σ.jH xH with
 |none=>(do dU t;return ():M Unit) σ
 |some a=>(do
  rY xH
  gv (some a)
  fB (some a)
  dU t
  return ():M Unit) σ
def nI:M Unit:=λσ=>if σ.inScope (da [fu]) dG then (do rY fu;dU t;return ():M Unit) σ else (do dU t;return ():M Unit) σ
def mW:M Unit:=do
 iK
 nI t
def kM:M Unit:=do
 rY t.name
 return ()
def kR:M Unit:=do
 iX t
 fC none
 return ()
def mF:M Unit:=do
 let b <-iI (da [dx]) dG
 if b then tM else pure ()
def rj:M Unit:=λσ=>if σ.inScope (da [aZ]) dG then .ok () {σ with mode:=16} else .ok () σ
def rn:M Unit:=λσ=>if σ.inScope (da [aZ]) dG then (do
  fq 16
  gh rec t
  return ():M Unit) σ else .ok () σ
def ri:M Unit:=do
 let _ <-iI (da [t.name]) dG
 return ()
def nD:M Unit:=do
 let _ <-iI (da [px,py]) dG
 return ()
def uk:M Unit:=do
 let _ <-iI (da [nN]) aiD
 return ()
def GQ:M Unit:=λσ=>if σ.inScope (da [nO]) Hr then (do lr;return ():M Unit) σ else (do
  fF nO
  lr
  return ():M Unit) σ
def oC:M Unit:=do
 iK
 fF jM
 let _ <-tJ
 return ()
def rl:M Unit:=λσ=>match σ.form with
 |none=> .ok () σ
 |some i=>if σ.kg i then (do
   rO λσ=>{σ with form:=none}
   rO λσ=>σ.gJ
   fB (some i)
   return ():M Unit) σ else .ok () {σ with form:=none}
def pM:M Unit:=do
 nT t.name
 return ()
def zn:M Unit:=fq 17
def oz:M Unit:=do
 fq 6
 gh rec t
 return ()
def oF:M Unit:=do
 rO λσ=>{σ with dv:=true}
 rec 6 t
 rO λσ=>{σ with dv:=false}
 return ()
def iZ:M Unit:=λσ=>if σ.current zU then (do
  rO λσ=>{σ with kept:=σ.mode}
  fq 8
  gh rec t
  return ():M Unit) σ else (do oF rec t;return ():M Unit) σ
def kK:M Unit:=do
 oB (da [aV])
 fC none
 dZ t
 fq 9
 return ()
def fZ:M Unit:=λσ=>match σ.form with
 |some _=> .ok () σ
 |none=>(do
  dZ t
  let x <-tJ
  rO λσ=>{σ with form:=x}
  return ():M Unit) σ
def Xf(s:O):O:=⟨s.data.map λb=>if 65<=b.toNat/\b.toNat<=90 then b+32 else b⟩
def sS:iD->Bool
 |[]=>false
 |a::r=>if ir a.1 lp then ir (Xf a.2) jt else sS r
def ft:M Unit:=if sS t.fc then (do gM t;return ())else (do oF rec t;return ())
def jB:M Unit:=match t.k with
 | .gz s=>if rD s then pure ()else λσ=>if σ.waiting.length<4096 then .ok () {σ with waiting:=σ.waiting++[(t.a,t.b,s)]} else .stuck
 |_=>stuck
def pA(x:Nat×Nat×O):cR:={a:=x.1,b:=x.2.1,k:=.gz x.2.2}
def qF:List (Nat×Nat×O)->M Unit
 |[]=>pure ()
 |x::r=>do
  gw (pA x)
  qF r
def qD:List (Nat×Nat×O)->M Unit
 |[]=>pure ()
 |x::r=>do
  oF rec (pA x)
  qD r
def kh:M Unit:=λσ=>if σ.waiting.any λx=>!jn x.2.2 then qD rec σ.waiting σ else qF σ.waiting σ
def ol(ks:List O)(m:Nat):M Bool:=do
 let b <-iI (da ks) zT
 if b then (do fq m;return true)else return false
def gH(ks:List O)(m:Nat):M Bool:=do
 let b <-ol ks m
 if b then (do tM;return true)else return false
def cX(s:O):Nat:=if da [dE,dF] s then 13 else if da [dq] s then 12 else if da [cJ,cM,cF] s then 11 else if da [cO] s then 9 else if da [bY] s then 10 else if da [aV] s then 7 else 6
def nE(σ:N):gZ->Nat
 |[]=>6
 |x::r=>if cX (σ.jg x)=6 then nE σ r else cX (σ.jg x)
def wF:M Unit:=rO λσ=>{σ with mode:=nE σ σ.cC.reverse}
def pN:M Bool:=do
 let b <-iI (da [aV]) zT
 if b then (do wF;return true)else return false
def oD:M Bool:=gH [cO] 7
def gE:M Bool:=λσ=>if σ.current (da [bY])then (do
  let _ <-tJ
  fq 7
  return true:M Bool) σ else .ok false σ
def lH:M Bool:=ol [cJ,cF,cM] 7
def zp:M Bool:=ol [dq] 11
def endCell:M Bool:=gH [dE,dF] 12
def mU:M Unit:=do
 oB (da [dq])
 dZ t
 fq 13
 fC none
 return ()
def jl:M Unit:=if rD t.chars then pure ()else do
 gw t
 return ()
def fA:M Unit:=do
 ly (da [dj])
 dZ t
 return ()
def eN:M Unit:=do
 ly (da [dj])
 ly (da [cD])
 dZ t
 return ()
def im:M Unit:=do
 eN t
 let _ <-tJ
 return ()
def dQ:M Unit:=λσ=>if σ.current (da [dj])then (match dA σ.cC (posOf σ.cC σ.last-1)with
  |none=> .stuck
  |some i=>if ir (σ.nm i) cD then (do
    let _ <-tJ
    ly (da [cD])
    return ():M Unit) σ else (do ly (da [cD]);return ():M Unit) σ)
 else (do ly (da [cD]);return ():M Unit) σ
def gP:M Unit:=do
 ly (da [dj])
 return ()
def pg:M Bool:=do
 let b <-iI (da [gu]) (λs=>!(da [dj] s||da [cD] s))
 if b then (do wF;return true)else return false
end
theorem oE{a b:O}(h:ir a b=true):a=b:=by
 grind[ByteArray.ext,ByteArray.toList_eq,Array.toList_inj,ir]
def dX:List Nd->List Nat
 |[]=>[]
 | .el j::r=>j::dX r
 | .tx _::r=>dX r
 | .cm _::r=>dX r
 | .dt _::r=>dX r
theorem ui(a b:List Nd):dX (a++b)=dX a++dX b:=by
 induction a with
 |nil=>rfl
 |cons k r ih=>cases k<;>simp[dX,ih]
def uN:∀{ks:List Nd},j∈dX ks↔Nd.el j∈ks
 |[]=>by simp[dX]
 |k::r=>by cases k<;>simp[dX,uN]
theorem Am(ks:List Nd)(n:Nat)(j:Nat):(dX (ins ks n (.el j))).Perm (j::dX ks):=by
 grind[ui,List.take_append_drop,ins,dX]
theorem Vx(ks:List Nd)(n:Nat)(k:Nd)(d:∀j,k≠ .el j):dX (ins ks n k)=dX ks:=by
 unfold ins;have h:dX ks=dX (ks.take n)++dX (ks.drop n):=by rw[<-ui,Oq]
 rw[ui,ui,h];cases k with
 |el j=>grind
 |tx j=>simp[dX]
 |cm j=>simp[dX]
 |dt j=>simp[dX]
theorem Yp(ks:List Nd)(n:Nat)(k:Nd)(d:n<=ks.length):(ins ks n k).length=ks.length+1:=by
 grind[ins]
theorem As{k x:Nd}:x∈ins ks n k↔x=k\/x∈ks:=by
 grind[List.take_append_drop,ins]
def ndW:zc->Nat
 | .el e=>e.kids.length
 | .tx s=>s.size
 | .cm _=>0
 | .dt _=>0
def wt(σ:N):Nat:=(σ.nodes.map ndW).sum
theorem Qp:∀(l:List Nat)(i x y:Nat),l[i]?=some x->(l.set i y).sum+x=l.sum+y
 |[],i,x,y,h=>by grind
 |a::l,0,x,y,h=>by grind
 |a::l,i+1,x,y,h=>by
  have:=Qp l i x y h;grind
theorem afl{n m:zc}(h:σ.nodes[i]?=some n):((σ.nodes.set i m).map ndW).sum+ndW n=wt σ+ndW m:=by
 rw[List.map_set];exact Qp _ _ _ _ (by grind)
theorem tt{e':sZ}(h:σ.db i=some e):wt (σ.dh i e')+e.kids.length=wt σ+e'.kids.length:=afl (N.fa h)
theorem afj(σ:N)(nd:zc):wt (σ.add nd)=wt σ+ndW nd:=by grind[wt,N.add]
theorem D8(σ:N)(nd:zc)(b:Bool):wt (σ.ny nd b)=wt σ+ndW nd:=by grind[wt,N.ny]
theorem ae1:∀(l:List Nat)(i x:Nat),l[i]?=some x->x<=l.sum
 |[],i,x,h=>by grind
 |a::l,0,x,h=>by grind
 |a::l,i+1,x,h=>by
  have:=ae1 l i x h;grind
theorem afk{n:zc}(h:σ.nodes[i]?=some n):ndW n<=wt σ:=ae1 _ i _ (by grind)
def H9(h:σ.db i=some e):e.kids.length<=wt σ:=afk (N.fa h)
structure Shp(σ:N):Prop where
 up:∀i e p,σ.db i=some e->e.ff=some p->∃ep,σ.db p=some ep/\i∈dX ep.kids
 dn:∀i e j,σ.db i=some e->j∈dX e.kids->∃ej,σ.db j=some ej/\ej.ff=some i
 nd:∀i e,σ.db i=some e->(dX e.kids).Nodup
 kd:∀i e,σ.db i=some e->∀k∈e.kids,σ.eZ k=true
def rk(r:Nat->Nat):eG->Nat
 |some i=>r i
 |none=>0
structure afL(r:Nat->Nat)(σ:N):Prop where
 ff:∀i e p,σ.db i=some e->e.ff=some p->r p<r i
 cC:σ.cC.Pairwise λx y=>rk r x<rk r y
 hd:∀d h,σ.head=some d->σ.cC.head?=some (some h)->r h<r d
def pB(s:O):Bool:=da [xH,(⟨#[98]⟩:O),(⟨#[105]⟩:O),fu] s
def dW(σ:N)(i:Nat)(s:O):Prop:=∃e,σ.db i=some e/\e.name=s
structure eJ(r:Nat->Nat)(σ:N):Prop where
 lY:Shp σ
 qK:afL r σ
 cC:∀x∈σ.cC,σ.jw x=true
 act:∀i,some i∈σ.act->∃e,σ.db i=some e/\pB e.name=true
 head:∀d,σ.head=some d->dW σ d bZ
 form:∀d,σ.form=some d->dW σ d fO
 Ln:∀x rest,σ.cC=x::rest->∃h,x=some h/\dW σ h aG
 vu:σ.cC.length<=σ.nB
 xN:σ.act.length<=σ.ox
 MW:σ.nB<=64
 QQ:σ.ox<=32
 rU:(σ.db 0).isSome=true
def jS(σ:N):Prop:=∃r,eJ r σ
structure Fx(σ σ':N):Prop where
 mode:σ'.mode=σ.mode
 kept:σ'.kept=σ.kept
 head:σ'.head=σ.head
 form:σ'.form=σ.form
 waiting:σ'.waiting=σ.waiting
 Jm:σ'.dv=σ.dv
 fJ:σ'.fJ=σ.fJ
 dk:σ'.dk=σ.dk
 nB:σ'.nB=σ.nB
 ox:σ'.ox=σ.ox
 mj:σ'.mj=σ.mj
 nm:∀i s,dW σ i s->dW σ' i s
 Ln:σ.cC≠[]->σ'.cC.head?=σ.cC.head?
theorem Fx.refl(σ:N):Fx σ σ:=⟨rfl,rfl,rfl,rfl,rfl,rfl,rfl,rfl,rfl,rfl,rfl,by grind,λ_=>rfl⟩
theorem Fx.ne(h:Fx σ σ')(d:σ.cC≠[]):σ'.cC≠[]:=by
 have:=h.Ln d;cases ho:σ.cC<;>grind
theorem Fx.trans{a b c:N}(h:Fx a b)(k:Fx b c):Fx a c:=
 ⟨k.mode.trans h.mode,k.kept.trans h.kept,k.head.trans h.head,k.form.trans h.form,k.waiting.trans h.waiting,k.Jm.trans h.Jm,k.fJ.trans h.fJ,k.dk.trans h.dk,k.nB.trans h.nB,k.ox.trans h.ox,k.mj.trans h.mj,λi s g=>k.nm i s (h.nm i s g),λd=>(k.Ln (h.ne d)).trans (h.Ln d)⟩
def fk{α:Type}(c:Nat)(σ:N)(r:nh α)(Q:α->N->Prop):Prop:=match r with
 | .ok a σ'=>jS σ'/\Fx σ σ'/\wt σ'<=wt σ+c/\Q a σ'
 | .stop _ p=>p=σ.dk
 | .stuck=>False
theorem fk.mono{α:Type}{c':Nat}{r:nh α}{Q d:α->N->Prop}(h:fk c σ r Q)(l:c<=c')(g:∀a σ',jS σ'->Fx σ σ'->Q a σ'->d a σ'):fk c' σ r d:=by
 cases r with
 |ok a σ'=>grind[fk]
 |stop e p=>exact h
 |stuck=>exact h
theorem fk.bind{α β:Type}{c1 c2:Nat}{m:M α}{k:α->M β}{Q:α->N->Prop}{g:β->N->Prop}(h:fk c1 σ (m σ) Q)(l:∀a σ',jS σ'->Fx σ σ'->wt σ'<=wt σ+c1->Q a σ'->fk c2 σ' (k a σ') g)(u:c1+c2<=c):fk c σ ((m>>=k) σ) g:=by
 rw[M.cH];cases hm:m σ with
 |ok a σ'=>
  rw[hm]at h;have⟨h1,h2,h3,h4⟩:=h;have d:=l a σ' h1 h2 h3 h4;cases hk2:k a σ' with
  |ok b σ2=>
   rw[hk2]at d;dsimp only;rw[hk2];exact⟨d.1,h2.trans d.2.1,by have:=d.2.2.1;omega,d.2.2.2⟩
  |stop e p=>
   rw[hk2]at d;dsimp only;rw[hk2];exact UR d h2.dk
  |stuck=>grind[fk]
 |stop e p=>rwa [hm]at h
 |stuck=>grind[fk]
theorem fk.ret{α:Type}(d:jS σ){Q:α->N->Prop}{a:α}(g:Q a σ)(c:Nat:=0):fk c σ ((Pure.pure a:M α) σ) Q:=⟨d,Fx.refl _,by omega,g⟩
theorem jS.rU(h:jS σ):(σ.db 0).isSome=true:=by have⟨r,h⟩:=h;exact h.rU
theorem dW.lt(h:dW σ i s):i<σ.nodes.length:=by have⟨e,he,_⟩:=h;exact N.dm he
theorem iJ(h:σ.jw x=true):∃i e,x=some i/\σ.db i=some e:=by
 cases x with
 |none=>cases h
 |some i=>have⟨e,he⟩:=Option.isSome_iff_exists.1 h;grind
theorem eJ.sub(h:eJ r σ)(hs:ys.Sublist σ.cC)(g:ys.head?=σ.cC.head?):eJ r {σ with cC:=ys}/\Fx σ {σ with cC:=ys}:=by
 refine⟨⟨⟨h.lY.up,h.lY.dn,h.lY.nd,h.lY.kd⟩,⟨h.qK.ff,h.qK.cC.sublist hs,?_⟩,λx l=>h.cC x (hs.subset l),h.act,h.head,h.form,?_,fK hs.length_le h.vu,h.xN,h.MW,h.QQ,h.rU⟩,⟨rfl,rfl,rfl,rfl,rfl,rfl,rfl,rfl,rfl,rfl,rfl,λ_ _ h=>h,λ_=>g⟩⟩;intro d x A l;exact h.qK.hd d x A (by grind);intro x rest l;have u:ys=x::rest:=l;rw[u]at g;cases ho:σ.cC with
 |nil=>grind
 |cons y r2=>
  rw[ho]at g;have e:=by simpa using g
  subst e;exact h.Ln x r2 ho
def vR(r:Nat->Nat)(n x:Nat):Nat->Nat:=λi=>if i=n then x else r i
def Ok(r:Nat->Nat)(n x:Nat):vR r n x n=x:=by simp[vR]
theorem D0{x:Nat}(h:i≠n):vR r n x i=r i:=by grind[vR]
def Shp.akq(h:Shp σ){p:Nat}(d:σ.db i=some e)(g:e.ff=some p):p<σ.nodes.length:=by
 have⟨ep,h1,_⟩:=h.up i e p d g;exact N.dm h1
def eJ.EW(h:eJ r σ)(d:some i∈σ.cC):i<σ.nodes.length:=by
 have⟨j,e,hj,he⟩:=iJ (h.cC _ d);cases hj;exact N.dm he
theorem afL.congr{g:Nat->Nat}(h:afL r σ)(A:∀i e p,σ.db i=some e->e.ff=some p->g p<g i)(u:∀i,some i∈σ.cC->g i=r i)(l:∀d h,σ.head=some d->σ.cC.head?=some (some h)->g h<g d):afL g σ:=by
 refine⟨A,(h.cC.imp_of_mem ?_),l⟩;have C:∀z∈σ.cC,rk g z=rk r z:=by
  intro z B;cases z with
  |none=>rfl
  |some i=>exact u i B
 grind
theorem eJ.new(h:eJ r σ)(u:O)(cU:iD)(b:Bool)(x:Nat):eJ (vR r σ.nodes.length x) (σ.ny (.el {name:=u,di:=cU,ff:=none,kids:=[]}) b)/\Fx σ (σ.ny (.el {name:=u,di:=cU,ff:=none,kids:=[]}) b):=by
 obtain⟨I,U⟩:∃I:zc,I=.el {name:=u,di:=cU,ff:=none,kids:=[]}:=⟨_,rfl⟩;rw[<-U];have K:∀i e,σ.db i=some e->(σ.ny I b).db i=some e:=λi e H=>by grind[N.db,N.ny]
 have g:∀i e,(σ.ny I b).db i=some e->σ.db i=some e\/(i=σ.nodes.length/\e={name:=u,di:=cU,ff:=none,kids:=[]}):=by
  intro i e H;rcases N.wu (nd:=I) H with⟨_,l⟩|⟨l,S⟩;grind;grind
 have C:∀i s,dW σ i s->dW (σ.ny I b) i s:=λi s ⟨e,H,hn⟩=>⟨e,K i e H,hn⟩;have B:∀i,i<σ.nodes.length->vR r σ.nodes.length x i=r i:=λi A=>D0 (by omega);refine⟨⟨⟨?_,?_,?_,?_⟩,⟨?_,?_,?_⟩,λy D=>N.Ny (h.cC y D),λi A=>?_,λd F=>C _ _ (h.head d F),λd F=>C _ _ (h.form d F),λy rest D=>?_,h.vu,h.xN,h.MW,h.QQ,?_⟩,⟨rfl,rfl,rfl,rfl,rfl,rfl,rfl,rfl,rfl,rfl,rfl,C,λ_=>rfl⟩⟩;intro i e p A R;rcases g i e A with l|⟨_,l⟩;have⟨ep,S,h3⟩:=h.lY.up i e p l R;grind;grind;intro i e j A T;rcases g i e A with l|⟨_,l⟩;have⟨ej,S,h3⟩:=h.lY.dn i e j l T;grind;rw[l]at T;simp[dX]at T;intro i e A;rcases g i e A with l|⟨_,l⟩;exact h.lY.nd i e l;grind[dX];intro i e A k hk;rcases g i e A with l|⟨_,l⟩;exact N.EJ (h.lY.kd i e l k hk);grind;intro i e p A R;rcases g i e A with l|⟨_,l⟩;rw[B p (h.lY.akq l R),B i (N.dm l)];exact h.qK.ff i e p l R;grind;refine h.qK.cC.imp_of_mem ?_;intro y z D X a0;have hr:∀z∈σ.cC,rk (vR r σ.nodes.length x) z=rk r z:=by
  intro z X;cases z with
  |none=>rfl
  |some i=>exact B i (h.EW X)
 grind;intro d y F D;rw[B y (h.EW (List.mem_of_mem_head? D)),B d (h.head d F).lt];exact h.qK.hd d y F D;have⟨e,H,hf⟩:=h.act i A;grind;have⟨z,l,S⟩:=h.Ln y rest D;grind;have⟨e,H⟩:=Option.isSome_iff_exists.1 h.rU;grind
theorem wS(r:Nat->Nat):∀n,∃B,∀i,i<n->r i<=B
 |0=>⟨0,by grind⟩
 |n+1=>by
  have⟨B,hB⟩:=wS r n;refine⟨B+r n,λi d=>?_⟩;grind
theorem eJ.raise(h:eJ r σ)(B:σ.db j=some e)(C:dX e.kids=[])(D:some j∉σ.cC){x:Nat}(I:r j<=x):eJ (vR r j x) σ:=by
 refine {h with qK:=h.qK.congr ?_ ?_ ?_};intro i ei p g l;have F:p≠j:=by
  rintro rfl;have⟨ep,h1,h2⟩:=h.lY.up i ei p g l;rw[B]at h1;cases h1;rw[C]at h2;cases h2
 have:=h.qK.ff i ei p g l;grind[vR];grind[vR];intro d y A u;have H:y≠j:=by rintro rfl;exact D (List.mem_of_mem_head? u)
 have:=h.qK.hd d y A u;grind[vR]
def AB(σ:N)(pl:Nat×Nat):Prop:=∃e,σ.db pl.1=some e/\pl.2<=e.kids.length
theorem eJ.put(h:eJ r σ){K:sZ}(I:AB σ pl)(R:σ.db j=some K)(F:K.ff=none)(hr:r pl.1<r j)(hw:wt σ<1000000):
  ∃σ',fY pl j σ=.ok () σ'/\eJ r σ'/\Fx σ σ'/\wt σ'=wt σ+1/\σ'.cC=σ.cC/\σ'.act=σ.act/\σ'.fresh=σ.fresh/\σ'.nodes.length=σ.nodes.length/\(∀i e,σ.db i=some e->∃u,σ'.db i=some u/\u.name=e.name/\u.di=e.di/\(i≠pl.1->u.kids=e.kids)/\(i≠j->u.ff=e.ff))/\(∀u,σ'.db j=some u->u.ff=some pl.1):=by
 have⟨ei,hi,hn⟩:=I;have H:j≠pl.1:=by rintro rfl;omega
 have hl:=H9 hi;have a2:=N.dm hi;have a8:=N.dm R;obtain⟨σ',g⟩:∃σ',σ'=(σ.dh pl.1 {ei with kids:=ins ei.kids pl.2 (.el j)}).dh j {K with ff:=some pl.1}:=⟨_,rfl⟩;have hq:fY pl j σ=.ok () σ':=by
  unfold fY;rw[hi,R];dsimp only;rw[dd ⟨H,hn,by omega⟩,g]
 have g1:σ'.db pl.1=some {ei with kids:=ins ei.kids pl.2 (.el j)}:=by rw[g,N.dY (wj H),N.eB a2]
 have g2:σ'.db j=some {K with ff:=some pl.1}:=by rw[g,N.eB (by grind[N.dh])]
 have g3:∀i,i≠pl.1->i≠j->σ'.db i=σ.db i:=λi l C=>by grind[N.dY]
 have a7:(σ.db pl.1).isSome=true:=by rw[hi];rfl
 have a9:((σ.dh pl.1 {ei with kids:=ins ei.kids pl.2 (.el j)}).db j).isSome=true:=by rw[N.dY H,R];rfl
 have gk:∀k,σ'.eZ k=σ.eZ k:=λk=>by grind[N.jE]
 have ge:∀x,σ'.jw x=σ.jw x:=λx=>by grind[N.Aq]
 have D:∀i e,σ.db i=some e->∃u,σ'.db i=some u/\u.name=e.name/\u.di=e.di/\(i≠pl.1->u.kids=e.kids)/\(i≠j->u.ff=e.ff):=by
  intro i e X;by_cases l:i=pl.1;grind;grind
 have A:∀i u,σ'.db i=some u->(i=pl.1/\u={ei with kids:=ins ei.kids pl.2 (.el j)})\/(i=j/\u={K with ff:=some pl.1})\/(i≠pl.1/\i≠j/\σ.db i=some u):=by
  intro i u X;by_cases l:i=pl.1;grind;grind
 have S:∀i s,dW σ i s->dW σ' i s:=λi s ⟨e,X,hn⟩=>by
  grind[dW]
 have a3:j∉dX ei.kids:=by
  intro hm;have⟨ej2,l,C⟩:=h.lY.dn _ _ _ hi hm;rw[R]at l;cases l;rw[F]at C;cases C
 have a4:∀i e,σ.db i=some e->∀u,σ'.db i=some u->∀x,x∈dX e.kids->x∈dX u.kids:=by
  intro i e X u a0 x hx;rcases A i u a0 with⟨l,rfl⟩|⟨l,rfl⟩|⟨_,_,l⟩;grind[Am];grind;grind
 refine⟨σ',hq,⟨⟨?_,?_,?_,?_⟩,⟨?_,?_,?_⟩,λx hx=>?_,λi B=>?_,λd hd=>S _ _ (h.head d ?_),λd hd=>S _ _ (h.form d ?_),λy rest hy=>?_,?_,?_,?_,?_,?_⟩,?_,?_,?_,?_,?_,?_,D,?_⟩;intro i e p B I;rcases A i e B with⟨l,rfl⟩|⟨l,rfl⟩|⟨_,_,l⟩;rw[l]at *;have⟨ep,C,h3⟩:=h.lY.up _ _ p hi I;grind;grind[Am];have⟨ep,C,h3⟩:=h.lY.up _ _ p l I;grind;intro i e x B hx;have old:∀T,σ.db i=some T->x∈dX T.kids->∃U,σ'.db x=some U/\U.ff=some i:=by
  intro T a1 a5;have⟨U,C,h3⟩:=h.lY.dn i T x a1 a5;have a6:x≠j:=by rintro rfl;rw[R]at C;cases C;rw[F]at h3;cases h3
  have⟨ex',h4,_,_,_,h5⟩:=D x U C;exact⟨ex',h4,(h5 a6).trans h3⟩
 grind[Am];intro i e B;rcases A i e B with⟨l,rfl⟩|⟨l,rfl⟩|⟨_,_,l⟩;exact(Am ei.kids pl.2 j).nodup_iff.2 (List.nodup_cons.2 ⟨a3,h.lY.nd _ _ hi⟩);show(dX K.kids).Nodup;exact h.lY.nd _ _ R;exact h.lY.nd _ _ l
 .intro i e B k hk;rw[gk];rcases A i e B with⟨l,rfl⟩|⟨l,rfl⟩|⟨_,_,l⟩;rcases As.1 hk with rfl|hk;grind[N.eZ];grind[Shp.kd,lY]
  all_goals grind[Shp.kd,lY]
 intro i e p B I;rcases A i e B with⟨l,rfl⟩|⟨l,rfl⟩|⟨_,_,l⟩;rw[l];exact h.qK.ff _ _ p hi I;grind;exact h.qK.ff _ _ p l I;rw[g];exact h.qK.cC;rw[g];exact h.qK.hd;rw[ge];exact h.cC x (by rwa [g]at hx);have⟨e,X,hf⟩:=h.act i (by rw[g]at B;exact B);grind
 rwa [g]at hd
 rwa [g]at hd
 have⟨z,l,C⟩:=h.Ln y rest (by rwa [g]at hy);grind;rw[g];exact h.vu;rw[g];exact h.xN;rw[g];exact h.MW;rw[g];exact h.QQ;grind[rU];rw[g];exact⟨rfl,rfl,rfl,rfl,rfl,rfl,rfl,rfl,rfl,rfl,rfl,by grind,λ_=>rfl⟩;grind[tt,N.dY,Yp];rw[g];rfl;rw[g];rfl;rw[g];rfl
 all_goals grind[N.mQ]
theorem eJ.alike(h:eJ r σ)(hf:∀i e,σ.db i=some e->∃d,σ'.db i=some d/\d.name=e.name/\d.ff=e.ff/\dX d.kids=dX e.kids)(hb:∀i d,σ'.db i=some d->∃e,σ.db i=some e)(X:∀i d,σ'.db i=some d->∀k∈d.kids,σ'.eZ k=true)
  (u:σ'.cC=σ.cC:=by rfl) (ha:σ'.act=σ.act:=by rfl) (B:σ'.head=σ.head:=by rfl) (D:σ'.form=σ.form:=by rfl) (F:σ'.nB=σ.nB:=by rfl) (H:σ'.ox=σ.ox:=by rfl) (I:σ'.mode=σ.mode:=by rfl) (K:σ'.kept=σ.kept:=by rfl) (R:σ'.waiting=σ.waiting:=by rfl) (S:σ'.dv=σ.dv:=by rfl) (T:σ'.fJ=σ.fJ:=by rfl) (hA:σ'.dk=σ.dk:=by rfl) (U:σ'.mj=σ.mj:=by rfl):eJ r σ'/\Fx σ σ':=by
 have A:∀i s,dW σ i s->dW σ' i s:=λi s ⟨e,C,hn⟩=>by
  grind[dW]
 have g:∀i d,σ'.db i=some d->∃e,σ.db i=some e/\d.name=e.name/\d.ff=e.ff/\dX d.kids=dX e.kids:=by grind
 refine⟨⟨⟨?_,?_,?_,X⟩,⟨?_,?_,?_⟩,?_,?_,?_,?_,?_,?_,?_,?_,?_,?_⟩,⟨I,K,B,D,R,S,T,hA,F,H,U,A,λ_=>by rw[u]⟩⟩;intro i e p l hp;have⟨e0,g1,_,g3,_⟩:=g i e l;have⟨ep,g4,g5⟩:=h.lY.up i e0 p g1 (by grind);grind;intro i e j l hj;have⟨e0,g1,_,_,g4⟩:=g i e l;have⟨ej,g5,g6⟩:=h.lY.dn i e0 j g1 (by grind);grind;intro i e l;have⟨e0,g1,_,_,g4⟩:=g i e l;rw[g4];exact h.lY.nd i e0 g1;intro i e p l hp;have⟨e0,g1,_,g3,_⟩:=g i e l;exact h.qK.ff i e0 p g1 (by grind);rw[u];exact h.qK.cC;rw[B,u];exact h.qK.hd;rw[u];intro x hx;obtain⟨i,e,rfl,C⟩:=iJ (h.cC x hx);grind[N.jw];grind[act];grind[head];grind[form];grind[Ln];grind[vu];grind[xN];grind[MW];grind[QQ];have⟨e,C⟩:=Option.isSome_iff_exists.1 h.rU;grind
theorem eJ.tC(h:eJ r σ)(nd:zc)(A:∀e,nd≠ .el e):eJ r (σ.add nd)/\Fx σ (σ.add nd):=by
 refine h.alike (λi e B=>⟨e,by grind[N.db,N.add],rfl,rfl,rfl⟩) ?_ ?_;grind[N.db,N.add];intro i l d k u;rcases N.wu (nd:=nd) d with⟨_,g⟩|⟨_,g⟩;exact N.EJ (h.lY.kd i l g k u);grind
theorem eJ.alH(h:eJ r σ){k:Nd}(B:σ.db i=some ei)(D:∀j,k≠ .el j)(H:σ.eZ k=true)(F:n<=ei.kids.length):eJ r (σ.dh i {ei with kids:=ins ei.kids n k})/\Fx σ (σ.dh i {ei with kids:=ins ei.kids n k})/\wt (σ.dh i {ei with kids:=ins ei.kids n k})=wt σ+1:=by
 have l:∀j d,(σ.dh i {ei with kids:=ins ei.kids n k}).db j=some d->(j=i/\d={ei with kids:=ins ei.kids n k})\/(j≠i/\σ.db j=some d):=by
  intro j d g;by_cases C:j=i;grind[N.eB,N.dm];grind[N.dY]
 have u:=h.alike (σ':=σ.dh i {ei with kids:=ins ei.kids n k}) (λj e A=>by
  grind[N.eB,N.dm,Vx,N.dY]) (λj d g=>by
  grind) (λj d g x I=>by
  grind[N.jE,As,Shp.kd,lY])
 grind[tt,Yp]
theorem eJ.jN(h:eJ r σ)(g:σ.nodes[t]?=some (.tx old)):eJ r (σ.jN t s)/\Fx σ (σ.jN t s)/\wt (σ.jN t s)+old.size=wt σ+s.size:=by
 have u:=h.alike (σ':=σ.jN t s) (λi e B=>⟨e,by grind[N.db,N.jN],rfl,rfl,rfl⟩) (λi l d=>⟨l,by rw[N.pT g]at d;exact d⟩) (λi l d k A=>by
  rw[N.Gw g];rw[N.pT g]at d;exact h.lY.kd i l d k A)
 exact⟨u.1,u.2,afl (m:=.tx s) g⟩
structure Rest(σ σ':N):Prop where
 cC:σ'.cC=σ.cC
 act:σ'.act=σ.act
 fresh:σ'.fresh=σ.fresh
 behind:σ'.behind=σ.behind
 jI:σ'.jI=σ.jI
 dM:σ'.dM=σ.dM
theorem Tt(h:jS σ)(C:AB σ pl)(s:O)(S:wt σ+s.size+1<=1000000):fk (s.size+1) σ (mP pl s σ) (λ_ σ'=>Rest σ σ'):=by
 have⟨r,h⟩:=h;have⟨ei,hi,hn⟩:=C;have K:=H9 hi;unfold mP;rw[hi];dsimp only;rw[dd ⟨hn,by omega⟩];have D:fk (s.size+1) σ (.ok () ((σ.add (.tx s)).dh pl.1 {ei with kids:=ins ei.kids pl.2 (.tx σ.nodes.length)}):nh Unit) (λ_ σ'=>Rest σ σ'):=by
  have⟨a1,a2⟩:=h.tC (.tx s) (λe u=>by cases u);have l:(σ.add (.tx s)).db pl.1=some ei:=by rw[N.qo (N.dm hi)];exact hi
  have g:(σ.add (.tx s)).eZ (.tx σ.nodes.length)=true:=by simp[N.eZ,N.add]
  have⟨b1,b2,b3⟩:=a1.alH (n:=pl.2) l (λj A=>by cases A) g hn;have T:=afj σ (.tx s);have U:ndW (.tx s)=s.size:=rfl;exact⟨⟨r,b1⟩,a2.trans b2,by omega,⟨rfl,rfl,rfl,rfl,rfl,rfl⟩⟩
 split;rename_i t R;have B:Nd.tx t∈ei.kids:=by
  by_cases F:pl.2=0;grind;grind
 have d:=h.lY.kd _ _ hi _ B;unfold N.eZ at d;dsimp only at d;cases hx:σ.nodes[t]? with
 |none=>grind
 |some nd=>
  rw[hx]at d;cases nd with
  |tx old=>
   have H:ndW (.tx old)<=wt σ:=afk hx;have I:ndW (.tx old)=old.size:=rfl;dsimp only;rw[dd (by omega)];have⟨b1,b2,b3⟩:=h.jN (s:=old++s) hx;have:(old++s).size=old.size+s.size:=ByteArray.size_append;exact⟨⟨r,b1⟩,b2,by omega,⟨rfl,rfl,rfl,rfl,rfl,rfl⟩⟩
  |el e=>cases d
  |cm s=>cases d
  |dt s=>cases d
 omega
theorem E9(h:jS σ)(A:AB σ pl)(nd:zc)(k:Nat->Nd)(g:(∃s,nd=.cm s/\k=.cm)\/(∃s,nd=.dt s/\k=.dt))(D:wt σ+1<=1000000):fk 1 σ (lj pl nd k σ) (λ_ σ'=>Rest σ σ'):=by
 have⟨r,h⟩:=h;have⟨ei,hi,hn⟩:=A;have C:=H9 hi;have u:∀i j,k i≠ .el j:=by rcases g with⟨s,_,h⟩|⟨s,_,h⟩<;>(rw[h];simp)
 have B:ndW nd=0:=by rcases g with⟨s,h,_⟩|⟨s,h,_⟩<;>(rw[h];rfl)
 have⟨a1,a2⟩:=h.tC nd (by grind);have l:(σ.add nd).db pl.1=some ei:=by rw[N.qo (N.dm hi)];exact hi
 have d:(σ.add nd).eZ (k σ.nodes.length)=true:=by
  rcases g with⟨s,rfl,rfl⟩|⟨s,rfl,rfl⟩<;>simp[N.eZ,N.add]
 have⟨b1,b2,b3⟩:=a1.alH l (u _) d hn;have F:=afj σ nd;unfold lj pQ;rw[l];dsimp only;rw[dd ⟨d,hn,by omega⟩];exact⟨⟨r,b1⟩,a2.trans b2,by omega,⟨rfl,rfl,rfl,rfl,rfl,rfl⟩⟩
theorem YH(h:i∈dX ks):0<=lO ks (Nd.de i)/\(lO ks (Nd.de i)).toNat<ks.length:=by
 have d:ks.findIdx (Nd.de i)<ks.length:=List.findIdx_lt_length_of_exists ⟨_,uN.1 h,by simp[Nd.de]⟩;grind[lO]
theorem nY(xs:gZ)(n:Nat):dA xs (n:Int)=xs.getD n none:=by
 grind[dA]
theorem eJ.at(h:eJ r σ)(d:n<σ.cC.length):∃i e,σ.cC[n]?=some (some i)/\σ.db i=some e:=by
 have⟨i,e,h1,h2⟩:=iJ (h.cC _ (sd d));grind
theorem F0(h:eJ r σ)(C:some i∈σ.cC)(H:some i≠dA σ.cC 0):∃pl,gQ i σ=.ok pl σ/\AB σ pl/\r pl.1<r i/\(some pl.1∈σ.cC\/∃e c,σ.db pl.1=some e/\c∈dX e.kids):=by
 have⟨i',e,e1,he⟩:=iJ (h.cC _ C);cases e1;unfold gQ;rw[he];dsimp only;cases hp:e.ff with
 |some p=>
  have⟨ep,d,u⟩:=h.lY.up i e p he hp;have⟨A,B⟩:=YH u;dsimp only;rw[d];dsimp only;rw[dd A];exact⟨_,rfl,⟨ep,d,by omega⟩,h.qK.ff i e p he hp,.inr ⟨ep,i,d,u⟩⟩
 |none=>
  dsimp only;have d:σ.cC.idxOf (some i)<σ.cC.length:=List.idxOf_lt_length_of_mem C;have u:posOf σ.cC (some i)=(σ.cC.idxOf (some i):Int):=by unfold posOf;rw[dd d]
  have A:σ.cC.idxOf (some i)≠0:=by
   intro D;apply H;have:=List.getElem_idxOf d;rw[show(0:Int)=((0:Nat):Int)from rfl,nY];simp only[D]at this;rw[gG,pU (by omega),<-this];rfl
  have⟨q,eq,hq,he2⟩:=h.at (n:=σ.cC.idxOf (some i)-1) (by omega);have B:dA σ.cC (posOf σ.cC (some i)-1)=some q:=by
   rw[u,show(σ.cC.idxOf (some i):Int)-1=((σ.cC.idxOf (some i)-1:Nat):Int) by omega,nY,gG,hq];rfl
  rw[B];dsimp only;unfold eE;rw[he2];refine⟨_,rfl,⟨eq,he2,dr _⟩,?_,.inl (qQ hq)⟩;have g:=List.pairwise_iff_getElem.1 h.qK.cC (σ.cC.idxOf (some i)-1) (σ.cC.idxOf (some i)) (by omega) d (by omega);rw[List.getElem_idxOf d]at g;have F:=by
   have:=pU (l:=σ.cC) (i:=σ.cC.idxOf (some i)-1) (by omega);rw[hq]at this;exact(je this).symm
  rwa [F]at g
theorem zu:∀{xs:gZ} {x:eG},oo σ xs=some x->x∈xs/\x≠dA σ.cC 0/\ir (σ.jg x) aV=true
 |[],x,h=>by cases h
 |y::xs,x,h=>by
  unfold oo at h;split at h;have⟨h1,h2⟩:=zu h;grind;grind
theorem eJ.first(h:eJ r σ)(d:σ.cC≠[]):∃q e rest,σ.cC=some q::rest/\dA σ.cC 0=some q/\σ.db q=some e/\e.name=aG:=by
 cases ho:σ.cC with
 |nil=>grind
 |cons x rest=>
  obtain⟨q,rfl,e,g,l⟩:=h.Ln x rest ho;grind[dA]
theorem Up(h:eJ r σ):σ.tq=true:=by
 unfold N.tq;rw[afr];intro x d;obtain⟨i,e,rfl,l⟩:=iJ (h.cC x d);by_cases g:some i=dA σ.cC 0;grind;grind[F0,nh.isOk]
theorem zv(h:eJ r σ)(d:σ.cC≠[]):∃pl,fx σ=.ok pl σ/\AB σ pl/\(some pl.1∈σ.cC\/∃e c,σ.db pl.1=some e/\c∈dX e.kids)/\((∃i,some i∈σ.cC/\ir (σ.nm i) aV=true/\oo σ σ.cC.reverse=some (some i)/\r pl.1<r i)\/dA σ.cC 0=some pl.1):=by
 unfold fx;rw[dd (Up h)];have⟨q,eq,rest,ho,hq,g,_⟩:=h.first d;cases hf:oo σ _ with
 |none=>
  rw[hq];dsimp only;unfold eE;rw[g];grind[AB]
 |some x=>
  have⟨h1,h2,h3⟩:=zu hf;obtain⟨i,e,rfl,g⟩:=iJ (h.cC x (List.mem_reverse.1 h1));have⟨pl,p1,p2,p3,p4⟩:=F0 h (List.mem_reverse.1 h1) h2;exact⟨pl,p1,p2,p4,.inl ⟨i,(List.mem_reverse.1 h1),h3,rfl,p3⟩⟩
theorem Tm(h:eJ r σ)(d:some i∈σ.cC):∃pl,placeFor i σ=.ok pl σ/\AB σ pl/\(some pl.1∈σ.cC\/∃e c,σ.db pl.1=some e/\c∈dX e.kids):=by
 have⟨i',e,e1,he⟩:=iJ (h.cC _ d);cases e1;unfold placeFor;split;grind[zv,List.ne_nil_of_mem];unfold eE;rw[he];grind[AB]
theorem PA(h:eJ r σ)(d:σ.cC≠[]):∃i e,σ.last=some i/\some i∈σ.cC/\σ.cC.getLast?=some (some i)/\σ.db i=some e:=by
 have g:=List.length_pos_iff.2 d;grind[eJ.at,nY,N.last]
theorem E0(h:eJ r σ)(d:σ.cC≠[]):∃pl,gp σ=.ok pl σ/\AB σ pl/\(some pl.1∈σ.cC\/∃e c,σ.db pl.1=some e/\c∈dX e.kids):=by
 grind[PA,Tm,gp]
theorem eJ.push(h:eJ r σ)(B:σ.db j=some e)(F:∀x∈σ.cC,rk r x<r j)(D:σ.cC.length<σ.nB)(l:σ.cC≠[]\/(e.name=aG/\σ.head=none)):eJ r {σ with cC:=σ.cC++[some j]}/\Fx σ {σ with cC:=σ.cC++[some j]}:=by
 have A:σ.cC≠[]->(σ.cC++[some j]).head?=σ.cC.head?:=by
  intro C;cases ho:σ.cC with
  |nil=>grind
  |cons x rest=>rfl
 refine⟨⟨⟨h.lY.up,h.lY.dn,h.lY.nd,h.lY.kd⟩,⟨h.qK.ff,?_,?_⟩,?_,h.act,h.head,h.form,?_,?_,h.xN,h.MW,h.QQ,h.rU⟩,⟨rfl,rfl,rfl,rfl,rfl,rfl,rfl,rfl,rfl,rfl,rfl,λ_ _ h=>h,A⟩⟩;refine List.pairwise_append.2 ⟨h.qK.cC,by simp,λx g y H=>?_⟩;grind[rk];intro d x u g;rcases l with l|⟨_,l⟩;exact h.qK.hd d x u (by grind);grind;intro x g;rcases List.mem_append.1 g with g|g;exact h.cC x g;rw[List.mem_singleton.1 g];show(σ.db j).isSome=true;grind;intro x rest g;cases ho:σ.cC with
 |nil=>
  rw[ho]at g;injection g with h1 h2;rcases l with l|⟨l,_⟩;grind;exact⟨j,h1.symm,e,B,l⟩
 |cons y r2=>
  rw[ho]at g;injection g with h1 h2;have⟨z,h3,h4⟩:=h.Ln y r2 ho;exact⟨z,h1▸h3,h4⟩
 grind
def O6(h:e.kids=[]):dX e.kids=[]:=by rw[h];rfl
structure amJ(σ:N)(j:Nat)(σ':N):Prop where
 cC:σ'.cC=σ.cC++[some j]
 act:σ'.act=σ.act
 fresh:σ'.fresh=σ.fresh
 len:σ'.nodes.length=σ.nodes.length
theorem Nv(h:jS σ)(l:σ.db j=some e)(d:e.ff=none)(C:e.kids=[])(I:some j∉σ.cC)(u:σ.cC≠[])(U:wt σ<999999):fk 1 σ (fP j σ) (λ_ σ'=>amJ σ j σ'):=by
 have⟨r,h⟩:=h;have⟨pl,p1,p2,H⟩:=E0 h u;have K:pl.1≠j:=by
  rintro rfl;rcases H with H|⟨e2,c,g,A⟩;grind;rw[l]at g;cases g;rw[C]at A;cases A
 have⟨B,hB⟩:=wS r σ.nodes.length;have S:=h.raise l (O6 C) I (x:=B+1) (by grind[N.dm]);have R:pl.1<σ.nodes.length:=by have⟨e2,g,_⟩:=p2;exact N.dm g
 have⟨σ',q1,q2,q3,q4,q5,q6,q7,q8,q9,q10⟩:=S.put p2 l d (by grind[vR]) (by omega);unfold fP;rw[M.cH,p1];dsimp only;rw[M.cH,q1];dsimp only;rw[M.cH];unfold kA;have⟨e',e1,e2,_⟩:=q9 j e l;by_cases D:σ'.nB<=σ'.cC.length;rw[dd D];exact q3.dk;rw[cZ D];rw[dd (by show(σ'.db j).isSome=true;rw[e1];rfl)];dsimp only;have⟨g1,g2⟩:=q2.push e1 (by
  intro x F;rw[q5]at F;rw[Ok];obtain⟨i,ei,rfl,T⟩:=iJ (h.cC x F);show vR r j (B+1) i<_;grind[D0,N.dm]) (by omega) (.inl (by grind))
 exact⟨⟨_,g1⟩,q3.trans g2,by grind[wt],⟨by grind,q6,q7,q8⟩⟩
theorem sJ(xs:gZ)(k:Nat):(xs.reverse.drop k).reverse=xs.take (xs.length-k):=by
 grind[List.reverse_drop]
theorem K7(σ:N)(p:O->Bool):∀ys:gZ,(∃x∈ys,p (σ.jg x)=true)->∃k,1<=k/\k<=ys.length/\N.xx σ p ys=ys.drop k/\∃x,ys[k-1]?=some x/\p (σ.jg x)=true
 |[],h=>by grind
 |y::ys,h=>by
  unfold N.xx;by_cases d:p (σ.jg y)=true;rw[dd d];exact⟨1,dr _,by simp,rfl,y,rfl,d⟩;have⟨x,hx,hpx⟩:=h;have⟨k,h1,h2,h3,x2,h4,h5⟩:=K7 σ p ys ⟨x,(by grind),hpx⟩;refine⟨k+1,by omega,by grind,by grind,x2,?_,h5⟩;grind
theorem Ky(σ:N)(p b:O->Bool):∀{ys:gZ},N.tL σ p b ys=true->∃x∈ys,p (σ.jg x)=true
 |[],h=>by cases h
 |y::ys,h=>by
  unfold N.tL at h;by_cases d:p (σ.jg y)=true;grind;rw[cZ d]at h;split at h;cases h;have⟨x,hx,h2⟩:=Ky σ p b h;grind
theorem Az(h:1<=k):(xs.take k).head?=xs.head?:=by
 cases xs with
 |nil=>simp
 |cons x r=>cases k<;>grind
theorem eJ.JZ(h:eJ r σ)(d:σ.cC.head?=some x):σ.jg x=aG:=by
 cases ho:σ.cC with
 |nil=>grind
 |cons y rest=>
  rw[ho]at d;cases d;obtain⟨q,rfl,e,g,l⟩:=h.Ln _ rest ho;show σ.nm q=_;grind[N.nm]
theorem aff(h:eJ r σ)(p:O->Bool)(d:p aG=false)(g:∃x∈σ.cC,p (σ.jg x)=true):eJ r (σ.yw p)/\Fx σ (σ.yw p)/\∃k,1<=k/\k<σ.cC.length/\(σ.yw p).cC=σ.cC.take k:=by
 have⟨k,h1,h2,h3,x,h4,h5⟩:=K7 σ p σ.cC.reverse (by grind);grind[sJ,eJ.JZ,eJ.sub,Az,N.yw]
structure qU(σ σ':N):Prop where
 nodes:σ'.nodes=σ.nodes
 act:σ'.act=σ.act
 fresh:σ'.fresh=σ.fresh
 cC:∃k,σ'.cC=σ.cC.take k
theorem qU.refl(σ:N):qU σ σ:=⟨rfl,rfl,rfl,σ.cC.length,by simp⟩
theorem fj(h:σ'.nodes=σ.nodes):wt σ'=wt σ:=by grind[wt]
theorem vf(h:jS σ)(p b:O->Bool)(d:p aG=false):fk 0 σ (iI p b σ) (λx σ'=>qU σ σ'/\(x=true->σ'.cC.length<σ.cC.length)/\(x=false->σ'=σ)):=by
 have⟨r,h⟩:=h;unfold iI;split;rename_i g;have⟨x,h1,h2⟩:=Ky σ p b g;have⟨g1,g2,k,g3,g4,g5⟩:=aff h p d ⟨x,List.mem_reverse.1 h1,h2⟩;exact⟨⟨r,g1⟩,g2,Zl (fj rfl),⟨rfl,rfl,rfl,k,g5⟩,by grind,by grind⟩;exact⟨⟨r,h⟩,Fx.refl _,dr _,qU.refl _,by grind,λ_=>rfl⟩
theorem I5(σ:N)(p:O->Bool):∀ys:gZ,∃k,k<=ys.length/\N.la σ p ys=ys.drop k/\∀j,j<k->∃x,ys[j]?=some x/\p (σ.jg x)=true
 |[]=>⟨0,dr _,rfl,by grind⟩
 |y::ys=>by
  unfold N.la;by_cases d:p (σ.jg y)=true
  .have⟨k,h1,h2,h3⟩:=I5 σ p ys;refine⟨k+1,by grind,by grind,λj g=>?_⟩;cases j<;>grind
  rw[cZ d];exact⟨0,yQ _,rfl,by grind⟩
theorem agl(h:eJ r σ)(p:O->Bool)(l:p aG=false):∃k,(N.la σ p σ.cC.reverse).reverse=σ.cC.take k/\(σ.cC≠[]->1<=k):=by
 have⟨k,h1,h2,h3⟩:=I5 σ p σ.cC.reverse;have d:=by simpa using h1
 refine⟨σ.cC.length-k,by grind[sJ],λg=>?_⟩;grind[List.length_pos_iff,List.head?_eq_getElem?,eJ.JZ]
theorem I6(h:jS σ)(p:O->Bool)(d:p aG=false):jS {σ with cC:=(N.la σ p σ.cC.reverse).reverse}/\Fx σ {σ with cC:=(N.la σ p σ.cC.reverse).reverse}/\qU σ {σ with cC:=(N.la σ p σ.cC.reverse).reverse}:=by
 have⟨r,h⟩:=h;have⟨k,h1,h2⟩:=agl h p d;rw[h1];cases ho:σ.cC with
 |nil=>
  have:([]).take k=σ.cC:=by grind
  rw[this];exact⟨⟨r,h⟩,Fx.refl _,qU.refl _⟩
 |cons x rest=>
  rw[<-ho];have⟨g1,g2⟩:=h.sub (amp _ _) (Az (h2 (by grind)));exact⟨⟨r,g1⟩,g2,rfl,rfl,rfl,k,rfl⟩
def vU(h:jS σ)(p:O->Bool):fk 0 σ (oB p σ) (λ_ σ'=>qU σ σ'):=by
 have⟨g1,g2,g3⟩:=I6 h (λs=>!(p s||da [(aG)] s)) (by simp[da,ir]);exact⟨g1,g2,Zl (fj rfl),g3⟩
theorem E5(h:jS σ)(d:2<=σ.cC.length):jS σ.pop/\Fx σ σ.pop:=by
 have⟨r,h⟩:=h;have e:σ.cC.dropLast=σ.cC.take _:=afn;have⟨g1,g2⟩:=h.sub (ys:=σ.cC.take (σ.cC.length-1)) (amp _ _) (Az (by omega));grind[jS,N.pop]
theorem qU.pop(σ:N):qU σ σ.pop:=⟨rfl,rfl,rfl,σ.cC.length-1,afn⟩
theorem vV(h:jS σ)(p:O->Bool)(A:p aG=false)(d:σ.current p=true):2<=σ.cC.length:=by
 have⟨r,h⟩:=h;unfold N.current at d;cases ho:σ.cC with
 |nil=>
  have:σ.last=none:=by unfold N.last;rw[ho];rfl
  grind
 |cons x rest=>
  cases rest with
  |cons y r2=>simp
  |nil=>
   exfalso;obtain⟨q,rfl,e,g,l⟩:=h.Ln x [] ho;have:σ.last=some q:=by unfold N.last;rw[ho];rfl
   have u:σ.nm q=aG:=by unfold N.nm;rw[g];exact l
   grind
def sI(h:jS σ)(p:O->Bool)(g:p aG=false):fk 0 σ (ly p σ) (λ_ σ'=>qU σ σ'):=by
 show fk 0 σ (.ok () (σ.Gr p)) _;unfold N.Gr;split;rename_i d;have⟨g1,g2⟩:=E5 h (vV h p g d);exact⟨g1,g2,Zl (fj rfl),qU.pop σ⟩;exact⟨h,Fx.refl _,dr _,qU.refl _⟩
def eJ.BZ(h:eJ r σ)(hs:∀i,some i∈ys->∃e,σ.db i=some e/\pB e.name=true)(d:ys.length<=σ.ox):eJ r {σ with act:=ys}/\Fx σ {σ with act:=ys}:=
 ⟨⟨⟨h.lY.up,h.lY.dn,h.lY.nd,h.lY.kd⟩,⟨h.qK.ff,h.qK.cC,h.qK.hd⟩,h.cC,hs,h.head,h.form,h.Ln,h.vu,d,h.MW,h.QQ,h.rU⟩,⟨rfl,rfl,rfl,rfl,rfl,rfl,rfl,rfl,rfl,rfl,rfl,λ_ _ h=>h,λ_=>rfl⟩⟩
structure ze(σ:N)(s:O)(j:Nat)(σ':N):Prop where
 cC:σ'.cC=σ.cC++[some j]
 act:σ'.act=σ.act
 nm:dW σ' j s
 new:σ.nodes.length<=j
theorem PG(h:jS σ)(A:σ.cC≠[])(I:wt σ<999999)(d:O)(cU:iD)(b:Bool):fk 1 σ (fP σ.nodes.length (σ.ny (.el {name:=d,di:=cU,ff:=none,kids:=[]}) b)) (λ_ σ'=>∃j,ze σ d j σ'/\σ'.fresh=b):=by
 have⟨r,h⟩:=h;have⟨g1,g2⟩:=h.new d cU b 0;have g:(σ.ny (.el {name:=d,di:=cU,ff:=none,kids:=[]}) b).db _=some _:=N.pc;have B:some σ.nodes.length∉(σ.ny (.el {name:=d,di:=cU,ff:=none,kids:=[]}) b).cC:=by
  intro D;have:=h.EW D;omega
 have F:wt (σ.ny (.el {name:=d,di:=cU,ff:=none,kids:=[]}) b)=wt σ:=D8 _ _ _;have l:=Nv ⟨_,g1⟩ g rfl rfl B A (by omega);revert l;cases fP _ _ with
 |ok a σ'=>
  rintro⟨l,C,H,u⟩;refine⟨l,g2.trans C,by omega,σ.nodes.length,⟨u.cC,u.act,C.nm _ _ ⟨_,g,rfl⟩,dr _⟩,u.fresh⟩
 |stop e p=>exact λh=>h
 |stuck=>simp[fk]
theorem fk.dP{α:Type}{m:M α}{Q:Unit->N->Prop}(h:fk c σ (m σ) (λ_ σ'=>Q () σ')):fk c σ ((m>>=λ_=>(Pure.pure ():M Unit)) σ) Q:=by
 refine fk.bind h (λa σ' d _ _ g=>fk.ret d g) (by omega)
theorem fk.tail_at{α:Type}{m:M α}{Q:Unit->N->Prop}(h:fk c σ (m σ1) (λ_ σ'=>Q () σ')):fk c σ ((m>>=λ_=>(Pure.pure ():M Unit)) σ1) Q:=by
 rw[M.cH];revert h;cases m σ1<;>exact λh=>h
def p5(h:jS σ)(g:σ.cC≠[])(l:wt σ<999999)(d:O):fk 1 σ (fF d σ) (λ_ σ'=>∃j,ze σ d j σ'/\σ'.fresh=σ.fresh):=
 fk.dP (m:=λσ=>fP _ _) (PG h g l d [] _)
theorem gm(h:jS σ)(d:σ.cC≠[])(u:wt σ<999999)(t:cR)(l:t.nj=true)(g:σ.fresh=true):fk 1 σ (dZ t σ) (λ_ σ'=>∃j,ze σ t.name j σ'):=by
 unfold dZ;grind[M.cH,fk.tail_at,fk.mono,PG,fG]
def aho(h:ze σ s j σ'):σ'.pop.cC=σ.cC:=by
 show σ'.cC.dropLast=_;rw[h.cC];simp
theorem Dy(h:ze σ s j σ')(d:σ.cC≠[]):2<=σ'.cC.length:=by
 have:=List.length_pos_iff.2 d;rw[h.cC];grind
theorem Dx(h:ze σ s j σ'):σ'.last=some j:=by
 unfold N.last;rw[h.cC];have e:((σ.cC++[some j]).length)-1=((σ.cC.length)):=by simp
 grind[nY]
def xg(h:jS σ)(d:2<=σ.cC.length):fk 0 σ (tJ σ) (λx σ'=>σ'=σ.pop/\x=σ.last):=by
 have⟨g1,g2⟩:=E5 h d;exact⟨g1,g2,Zl (fj rfl),rfl,rfl⟩
def oI(h:jS σ)(d:σ.cC≠[])(B:wt σ<999999)(t:cR)(A:t.nj=true)(u:σ.fresh=true):fk 1 σ (gM t σ) (λ_ σ'=>σ'.cC=σ.cC/\σ'.act=σ.act):=by
 refine fk.bind (gm h d B t A u) (c2:=0) ?_ (by omega);rintro _ σ1 l D _⟨j,g⟩;refine fk.dP ((xg l (Dy g d)).mono (dr _) ?_);rintro x C _ _⟨rfl,_⟩;exact⟨aho g,g.act⟩
theorem mG(h:jS σ)(d:σ.cC≠[])(t:cR)(g:wt σ+t.chars.size+1<=1000000):fk (t.chars.size+1) σ (gw t σ) (λ_ σ'=>Rest σ σ'):=by
 have⟨r,hr⟩:=h;have⟨pl,p1,p2,_⟩:=E0 hr d;unfold gw;grind[M.cH,fk.dP,Tt]
def Sa(h:pB s=true):kF s=false:=by
 unfold pB da at h;rw[List.any_eq_true]at h;have⟨x,hx,he⟩:=h;simp at hx;rcases hx with rfl|rfl|rfl|rfl<;>(rw[(oE he)];simp[kF,ir,aiW,aiV])
theorem Db(h:pB s=true):s≠aG:=by
 rintro rfl;simp[pB,da,ir]at h
theorem aeI(h:(kB xs x (some j))[m]?=some y):xs[m]?=some y\/y=some j:=by
 grind[kB]
theorem Kn(xs:gZ)(x y:eG):(kB xs x y).length=xs.length:=by
 grind[kB]
theorem DM(h:z∈kB xs x y):z∈xs\/z=y:=by
 grind[kB]
theorem Zv(h:jS σ){old:Nat}(l:(σ.db old).isSome=true)(d:dW σ j s)(hs:pB s=true):fk 0 σ (lE (some old) (some j) σ) (λ_ σ'=>σ'.cC=σ.cC/\σ'.act=kB σ.act (some old) (some j)/\σ'.fresh=σ.fresh):=by
 have⟨r,h⟩:=h;have⟨ej,hej,hn⟩:=d;unfold lE;rw[dd (by grind[N.de])];have⟨g1,g2⟩:=h.BZ (ys:=kB σ.act (some old) (some j)) (λi g=>by
  grind[DM,eJ.act]) (by grind[Kn,eJ.xN])
 exact⟨⟨r,g1⟩,g2,Zl (fj rfl),rfl,rfl,rfl⟩
def zk(g:σ.db i=some e)(d:pB e.name=true):fD i σ=.ok σ.nodes.length (σ.ny (.el {name:=e.name,di:=e.di,ff:=none,kids:=[]}) σ.fresh):=by
 unfold fD;rw[g];dsimp only;rw[Sa d];rfl
theorem TJ:∀(k n:Nat){σ:N},jS σ->σ.cC≠[]->wt σ+k<999999->n+k<=σ.act.length->(∀m,n<=m->m<n+k->∃i,σ.act[m]?=some (some i))->fk k σ (DK k n σ) (λ_ σ'=>σ.cC <+:σ'.cC/\σ'.act.length=σ.act.length/\σ'.fresh=σ.fresh)
 |0,n,σ,h,_,_,_,_=>fk.ret h ⟨List.prefix_refl _,rfl,rfl⟩
 |k+1,n,σ,h,hne,hw,hl,ha=>by
  have⟨old,ho⟩:=ha n (dr _) (by omega);have⟨r,hr⟩:=h;have⟨eo,heo,hfo⟩:=hr.act old (qQ ho);have C:yE n σ=.ok old σ:=by
   unfold yE;rw[nY,gG,ho];rfl
  unfold DK;rw[M.cH,C];dsimp only;rw[M.cH,zk heo hfo];dsimp only;rw[M.cH];have T:=PG ⟨r,hr⟩ hne (by omega) eo.name eo.di σ.fresh;revert T;cases hq:fP σ.nodes.length (σ.ny (.el {name:=eo.name,di:=eo.di,ff:=none,kids:=[]}) σ.fresh)with
  |stop e p=>simp[fk]
  |stuck=>simp[fk]
  |ok u σ1=>
   rintro⟨X,g,w1,j,l,B⟩;dsimp only;have D:my old σ1=lE (some old) (some j) σ1:=by unfold my;rw[Dx l]
   have⟨eo1,heo1,_⟩:=g.nm old eo.name ⟨eo,heo,rfl⟩;have U:fk (k+0) σ1 ((my old>>=λ_=>DK k (n+1)) σ1) (λ_ σ'=>σ.cC <+:σ'.cC/\σ'.act.length=σ.act.length/\σ'.fresh=σ.fresh):=by
    refine fk.bind (c1:=0) (by rw[D];exact Zv X (by grind) l.nm hfo) (c2:=k) ?_ (by omega);rintro _ F i2 S w2⟨o2,A,r2⟩;have d:F.act.length=σ.act.length:=by rw[A,Kn,l.act]
    refine(TJ k (n+1) i2 (S.ne (g.ne hne)) (by omega) (by omega) ?_).mono (dr _) ?_;grind[aeI,ze.act];rintro _ H _ _⟨o3,I,r3⟩;refine⟨?_,I.trans d,r3.trans (r2.trans B)⟩;refine List.IsPrefix.trans ?_ o3;rw[o2,l.cC];simp
   revert U;cases((my old>>=λ_=>DK k (n+1)) σ1)with
   |ok a H=>rintro⟨K,A,I,R⟩;exact⟨K,g.trans A,by omega,R⟩
   |stop e p=>exact λh=>UR h g.dk
   |stuck=>simp[fk]
theorem N4(σ:N):∀ys:gZ,σ.eC ys<=ys.length/\∀m,m<ys.length-σ.eC ys->∃i,ys[m]?=some (some i)
 |[]=>⟨dr _,by grind⟩
 |x::ys=>by
  unfold N.eC;by_cases d:σ.We x=true;grind;have⟨h1,h2⟩:=N4 σ ys;refine⟨by grind,λm g=>?_⟩;cases m with
  |zero=>
   cases x with
   |none=>exact absurd (by rfl) d
   |some i=>simp
  |succ m=>exact h2 m (by grind)
theorem lB(h:jS σ)(d:σ.cC≠[])(B:wt σ+32<999999):fk 32 σ (iK σ) (λ_ σ'=>σ.cC <+:σ'.cC/\σ'.act.length=σ.act.length/\σ'.fresh=σ.fresh):=by
 unfold iK;have⟨h1,h2⟩:=N4 σ σ.act.reverse;have l:σ.ym<=σ.act.length:=by simpa [N.ym]using h1
 have g:σ.act.length<=32:=by have⟨r,hr⟩:=h;exact fK hr.xN hr.QQ
 refine(TJ (σ.act.length-σ.ym) σ.ym h d (by omega) (by omega) ?_).mono (by omega) (λ_ _ _ _ h=>h);intro m u A;have⟨i,hi⟩:=h2 (σ.act.length-1-m) (by
  have e:σ.eC σ.act.reverse=σ.ym:=rfl;grind)
 grind
structure Ip(σ:N)(o a:gZ)(σ':N):Prop where
 nodes:σ'.nodes=σ.nodes
 cC:σ'.cC=o
 act:σ'.act=a
 fresh:σ'.fresh=σ.fresh
def xK(h:jS σ)(g:σ.de x=true):fk 0 σ (gv x σ) (λ_ σ'=>Ip σ σ.cC (σ.act.erase x) σ'):=by
 have⟨r,h⟩:=h;unfold gv;rw[dd g];have⟨g1,g2⟩:=h.BZ (ys:=σ.act.erase x) (λi d=>h.act i (GJ d)) (fK (List.length_erase_le) h.xN);exact⟨⟨r,g1⟩,g2,Zl (fj rfl),rfl,rfl,rfl,rfl⟩
def U2(h:z∈li xs x):z∈xs:=by
 unfold li at h;rw[List.mem_reverse]at h;exact List.mem_reverse.1 ((Zj _).subset ((List.tail_sublist _).subset h))
theorem aaT(xs:gZ)(x:eG):(li xs x).length<=xs.length:=by
 grind[List.dropWhile_sublist,li]
def K4(h:jS σ):fk 0 σ (tM σ) (λ_ σ'=>Ip σ σ.cC (li σ.act none) σ'):=by
 have⟨r,h⟩:=h;have⟨g1,g2⟩:=h.BZ (ys:=li _ none) (λi d=>h.act i (U2 d)) (fK (aaT _ _) h.xN);exact⟨⟨r,g1⟩,g2,Zl (fj rfl),rfl,rfl,rfl,rfl⟩
theorem tZ(h:jS σ)(x:eG)(l:∀i,x=some i->∃e,σ.db i=some e/\pB e.name=true):fk 0 σ (fC x σ) (λ_ σ'=>Ip σ σ.cC (σ.act++[x]) σ'):=by
 have⟨r,h⟩:=h;unfold fC;split;rfl;have d:σ.de x=true:=by
  cases x with
  |none=>rfl
  |some i=>grind[N.de]
 rw[dd d];have⟨g1,g2⟩:=h.BZ (ys:=σ.act++[x]) (λi g=>by
  grind[eJ.act]) (by grind)
 exact⟨⟨r,g1⟩,g2,Zl (fj rfl),rfl,rfl,rfl,rfl⟩
theorem BB(σ:N)(j:Nat):∀(ys:gZ)(c:eG×Nat),(σ.oM j ys c).1=c.1\/(σ.oM j ys c).1∈ys
 |[],c=> .inl rfl
 |none::_,c=> .inl rfl
 |some i::ys,c=>by
  unfold N.oM;split
  .rcases BB σ j ys (some i,c.2+1)with h|h
   all_goals grind
  .rcases BB σ j ys c with h|h
   all_goals grind
theorem acd(h:jS σ)(B:dW σ i s)(hs:pB s=true):fk 0 σ (GK i σ) (λ_ σ'=>σ'.cC=σ.cC/\σ'.fresh=σ.fresh):=by
 have⟨e,he,hn⟩:=B;have d:∀σ1,jS σ1->σ1.nodes=σ.nodes->fk 0 σ1 (fC (some i) σ1) (λ_ σ'=>Ip σ1 σ1.cC (σ1.act++[some i]) σ'):=by
  intro σ1 g C;refine tZ g _ ?_;intro j I;exact⟨e,by grind[N.db],by grind⟩
 have l:σ.de (σ.oM i σ.act.reverse (none,0)).1=true:=by
  rcases BB σ i σ.act.reverse _ with g|g;rw[g];rfl;cases hx:(σ.oM i σ.act.reverse _).1 with
  |none=>rfl
  |some j=>
   have⟨r,hr⟩:=h;grind[eJ.act,N.de]
 unfold GK;dsimp only;split;refine fk.bind (xK h l) (c2:=0) ?_ (by omega);rintro _ σ1 D H _ u;refine fk.dP ((d σ1 D u.nodes).mono (dr _) ?_);rintro _ F _ _ A;exact⟨A.cC.trans u.cC,A.fresh.trans u.fresh⟩;grind[fk.dP,fk.mono,Ip.cC,Ip.fresh]
theorem Bs(h:xs.head?≠some x):(xs.erase x).head?=xs.head?:=by
 cases xs<;>grind
theorem eJ.DC(h:eJ r σ)(d:dW σ i s)(hs:s≠aG):σ.cC.head?≠some (some i):=by
 intro e;have⟨ei,he,hn⟩:=d;apply hs;rw[<-hn,<-(h.JZ e)];show _=σ.nm i;unfold N.nm;rw[he]
theorem BJ(h:jS σ)(d:dW σ i s)(hs:s≠aG):fk 0 σ (fB (some i) σ) (λ_ σ'=>Ip σ (σ.cC.erase (some i)) σ.act σ'):=by
 have⟨r,h⟩:=h;have⟨e,he,_⟩:=id d;unfold fB;rw[dd (by grind[N.de])];have⟨g1,g2⟩:=h.sub List.erase_sublist (Bs (h.DC d hs));exact⟨⟨r,g1⟩,g2,Zl (fj rfl),rfl,rfl,rfl,rfl⟩
theorem CV:∀{ys:gZ},x∈ys->∃j,j<ys.length/\ys.dropWhile (λy=>decide (y≠x))=ys.drop j/\ys[j]?=some x
 |[],h=>by cases h
 |y::ys,h=>by
  by_cases g:y=x;subst g;exact⟨0,by simp,by simp,rfl⟩;have d:x∈ys:=by grind
  have⟨j,h1,h2,h3⟩:=CV d;refine⟨j+1,by grind,?_,by grind⟩;simp_all
theorem WL(d:x∈xs)(g:xs.head?≠some x):∃k,1<=k/\k<xs.length/\li xs x=xs.take k:=by
 have⟨j,h1,h2,h3⟩:=CV (List.mem_reverse.2 d);have e:li xs x=xs.take (xs.length-(j+1)):=by
  unfold li;rw[h2,List.tail_drop,sJ]
 grind[List.head?_eq_getElem?]
theorem Wx(h:jS σ)(d:dW σ i s)(hs:s≠aG)(g:some i∈σ.cC):fk 0 σ (vr (some i) σ) (λ_ σ'=>qU σ σ'):=by
 have⟨r,h⟩:=h;have⟨e,he,_⟩:=id d;unfold vr;rw[dd (by grind[N.de])];have⟨k,k1,k2,k3⟩:=WL g (h.DC d hs);rw[k3];have⟨g1,g2⟩:=h.sub (amp _ _) (Az k1);exact⟨⟨r,g1⟩,g2,Zl (fj rfl),rfl,rfl,rfl,k,rfl⟩
theorem RP(h:j∈dX ks)(l:(dX ks).Nodup):dX (ks.eraseIdx (ks.findIdx (Nd.de j)))=(dX ks).erase j:=by
 induction ks with
 |nil=>cases h
 |cons k r ih=>
  by_cases d:Nd.de j k=true;cases k with
  |el i=>
   grind[dX,Nd.de]
  |tx i=>cases d
  |cm i=>cases d
  |dt i=>cases d
  have g:=by simpa using d
  rw[List.findIdx_cons,g];simp;cases k with
  |el i=>
   grind[dX,Nd.de]
  |tx i=>exact ih h l
  |cm i=>exact ih h l
  |dt i=>exact ih h l
theorem eJ.iC(h:eJ r σ){C:sZ}(I:σ.db j=some C):
  ∃σ',iC j σ=.ok () σ'/\eJ r σ'/\Fx σ σ'/\wt σ'<=wt σ/\σ'.cC=σ.cC/\σ'.act=σ.act/\σ'.fresh=σ.fresh/\σ'.nodes.length=σ.nodes.length/\(∃B,σ'.db j=some B/\B.ff=none/\B.name=C.name):=by
 unfold Go.Proofs.YthnijkkcimlnjaaGreatDoor.iC;rw[I];dsimp only;cases hp:C.ff with
 |none=>grind[Fx.refl]
 |some p=>
  have⟨ep,hep,hm⟩:=h.lY.up j C p I hp;have ae:=h.qK.ff j C p I hp;have R:j≠p:=by rintro rfl;omega
  have⟨q1,q2⟩:=YH hm;dsimp only;rw[hep];dsimp only;rw[dd ⟨R,q1,q2⟩];have a4:=N.dm hep;have aa:=N.dm I;have U:(lO ep.kids (Nd.de j)).toNat=ep.kids.findIdx (Nd.de j):=by
   unfold lO at q2|-;by_cases hf:ep.kids.findIdx (Nd.de j)<ep.kids.length;omega;exfalso;apply hf;exact List.findIdx_lt_length_of_exists ⟨_,uN.1 hm,by simp[Nd.de]⟩
  rw[U]at q2|-;obtain⟨ks,K⟩:∃ks,ks=ep.kids.eraseIdx (ep.kids.findIdx (Nd.de j)):=⟨_,rfl⟩;rw[<-K];have ac:ks.length+1=ep.kids.length:=by rw[K,List.length_eraseIdx_of_lt q2];omega
  have X:dX ks=(dX ep.kids).erase j:=by rw[K];exact RP hm (h.lY.nd p ep hep)
  have a7:∀k∈ks,k∈ep.kids:=λk hk=>by grind[List.eraseIdx_sublist]
  obtain⟨σ',g⟩:∃σ',σ'=(σ.dh p {ep with kids:=ks}).dh j {C with ff:=none}:=⟨_,rfl⟩;rw[<-g];have g1:σ'.db p=some {ep with kids:=ks}:=by rw[g,N.dY (wj R),N.eB a4]
  have g2:σ'.db j=some {C with ff:=none}:=by rw[g,N.eB (by grind[N.dh])]
  have g3:∀i,i≠p->i≠j->σ'.db i=σ.db i:=λi u D=>by grind[N.dY]
  have a9:(σ.db p).isSome=true:=by rw[hep];rfl
  have ab:((σ.dh p {ep with kids:=ks}).db j).isSome=true:=by rw[N.dY R,I];rfl
  have gk:∀k,σ'.eZ k=σ.eZ k:=λk=>by grind[N.jE]
  have ge:∀x,σ'.jw x=σ.jw x:=λx=>by grind[N.Aq]
  have H:∀i e,σ.db i=some e->∃B,σ'.db i=some B/\B.name=e.name/\(i≠p->B.kids=e.kids)/\(i≠j->B.ff=e.ff):=by
   intro i e F;by_cases u:i=p;grind;grind
  have A:∀i B,σ'.db i=some B->(i=p/\B={ep with kids:=ks})\/(i=j/\B={C with ff:=none})\/(i≠p/\i≠j/\σ.db i=some B):=by
   intro i B F;by_cases u:i=p;grind;grind
  have a0:∀i s,dW σ i s->dW σ' i s:=λi s ⟨e,F,hn⟩=>by
   grind[dW]
  have af:∀i e q,σ.db i=some e->i≠j->e.ff=some q->∃eq,σ'.db q=some eq/\i∈dX eq.kids:=by
   intro i e q F a8 hq;have⟨eq,D,S⟩:=h.lY.up _ _ q F hq;have⟨eq',h4,_,h5,_⟩:=H q eq D;refine⟨eq',h4,?_⟩;by_cases ad:q=p;grind;grind
  have a2:∀i e x,σ.db i=some e->x∈dX e.kids->x≠j->∃T,σ'.db x=some T/\T.ff=some i:=by
   intro i e x F hx a5;have⟨T,D,S⟩:=h.lY.dn i e x F hx;have⟨ex',h4,_,_,h5⟩:=H x T D;exact⟨ex',h4,(h5 a5).trans S⟩
  have a6:∀i e,σ.db i=some e->j∈dX e.kids->i=p:=by
   intro i e F a3;have⟨T,D,S⟩:=h.lY.dn i e j F a3;rw[I]at D;cases D;rw[hp]at S;exact(je S).symm
  refine⟨σ',rfl,⟨⟨?_,?_,?_,?_⟩,⟨?_,?_,?_⟩,λx hx=>?_,λi l=>?_,λd hd=>a0 _ _ (h.head d ?_),λd hd=>a0 _ _ (h.form d ?_),λy rest hy=>?_,?_,?_,?_,?_,?_⟩,?_,?_,?_,?_,?_,?_,?_⟩;grind
  .intro i e x l hx;rcases A i e l with⟨u,rfl⟩|⟨u,rfl⟩|⟨S,D,u⟩;rw[u];have a1:x∈(dX ep.kids).erase j:=by rw[<-X];exact hx
   exact a2 p ep x hep (GJ a1) (λe=>by
    subst e;exact(List.Nodup.not_mem_erase (h.lY.nd p ep hep)) a1)
   all_goals grind
  intro i e l;rcases A i e l with⟨u,rfl⟩|⟨u,rfl⟩|⟨_,_,u⟩;show(dX ks).Nodup;rw[X];exact(h.lY.nd p ep hep).erase j;show(dX C.kids).Nodup;exact h.lY.nd _ _ I;exact h.lY.nd _ _ u;grind[Shp.kd,lY];intro i e q l hq;rcases A i e l with⟨u,rfl⟩|⟨u,rfl⟩|⟨_,_,u⟩;rw[u];exact h.qK.ff _ _ q hep hq;cases hq;exact h.qK.ff _ _ q u hq;rw[g];exact h.qK.cC;rw[g];exact h.qK.hd;rw[ge];exact h.cC x (by rwa [g]at hx);have⟨e,F,hf⟩:=h.act i (by rw[g]at l;exact l);grind
  rwa [g]at hd
  rwa [g]at hd
  have⟨z,u,D⟩:=h.Ln y rest (by rwa [g]at hy);grind;rw[g];exact h.vu;rw[g];exact h.xN;rw[g];exact h.MW;rw[g];exact h.QQ;grind[rU];rw[g];exact⟨rfl,rfl,rfl,rfl,rfl,rfl,rfl,rfl,rfl,rfl,rfl,by grind,λ_=>rfl⟩;grind[tt,N.dY];rw[g];rfl;rw[g];rfl;rw[g];rfl
  all_goals grind[N.mQ]
structure wM(σ:N)(d:Nat)(ed:sZ)(ks:List Nd)(σ':N):Prop where
 eq:σ'={σ with nodes:=σ'.nodes}
 len:σ'.nodes.length=σ.nodes.length
 dst:σ'.db d=some {ed with kids:=ed.kids++ks}
 oth:∀i,i≠d->σ'.db i=if i∈dX ks then (σ.db i).map (λe=>{e with ff:=some d})else σ.db i
 Ci:∀k,σ'.eZ k=σ.eZ k
 wt:wt σ'=wt σ+ks.length
theorem H8(ks:List Nd)(k:Nd):ins ks ks.length k=ks++[k]:=by simp[ins]
theorem EG:∀(ks:List Nd){σ:N} {d:Nat} {ed:sZ},σ.db d=some ed->(∀k∈ks,σ.eZ k=true)->d∉dX ks->(dX ks).Nodup->ed.kids.length+ks.length<1000000->∃σ',rB d ks σ=.ok () σ'/\wM σ d ed ks σ'
 |[],σ,d,ed,hd,_,_,_,_=>⟨σ,rfl,rfl,rfl,by simp_all,λi _=>by rfl,λ_=>rfl,rfl⟩
 |k::ks,σ,d,ed,hd,hk,hn,hnd,hl=>by
  simp only[sg]at hl;have C:=N.dm hd;have K:(σ.db d).isSome=true:=by rw[hd];rfl
  have he:eE d σ=.ok (d,ed.kids.length) σ:=by unfold eE;rw[hd]
  unfold rB;rw[M.cH,he];dsimp only;rw[M.cH];have D:=hk k (Oo ..);have B:∀(I:Nd),(∀j,I≠ .el j)->k=I->∃σ1,pQ (d,ed.kids.length) I σ=.ok () σ1/\∃σ',rB d ks σ1=.ok () σ'/\wM σ d ed (k::ks) σ':=by
   intro I a2 U;subst U;have S:pQ (d,ed.kids.length) k σ=.ok () (σ.dh d {ed with kids:=ed.kids++[k]}):=by
    unfold pQ;dsimp only;rw[hd];dsimp only;rw[dd ⟨D,dr _,by omega⟩,H8]
   refine⟨_,S,?_⟩;have u:dX (k::ks)=dX ks:=by
    cases k with
    |el j=>grind
    |tx j=>rfl
    |cm j=>rfl
    |dt j=>rfl
   rw[u]at hn hnd;have⟨σ',H,l⟩:=EG ks (σ:=σ.dh d {ed with kids:=ed.kids++[k]}) (d:=d) (ed:={ed with kids:=ed.kids++[k]}) (N.eB C) (λx hx=>by grind[N.jE]) hn hnd (by grind);refine⟨σ',H,l.eq,by grind[wM.len,N.mQ],by rw[l.dst];simp,?_,λx=>by rw[l.Ci,N.jE K],?_⟩;intro i T;rw[l.oth i T,u,N.dY T];grind[tt,wM.wt]
  cases k with
  |tx j=>
   have⟨σ1,e1,σ',e2,e3⟩:=B (.tx j) (λ_ h=>by cases h) rfl;rw[show xh (d,ed.kids.length) (.tx j) σ=.ok () σ1 from e1];grind
  |cm j=>
   have⟨σ1,e1,σ',e2,e3⟩:=B (.cm j) (λ_ h=>by cases h) rfl;rw[show xh (d,ed.kids.length) (.cm j) σ=.ok () σ1 from e1];grind
  |dt j=>
   have⟨σ1,e1,σ',e2,e3⟩:=B (.dt j) (λ_ h=>by cases h) rfl;rw[show xh (d,ed.kids.length) (.dt j) σ=.ok () σ1 from e1];grind
  |el j=>
   have A:j≠d:=by rintro rfl;exact hn (Oo ..)
   have⟨ej,hej⟩:=Option.isSome_iff_exists.1 (show(σ.db j).isSome=true from D);have a0:=N.dm hej;obtain⟨σ1,g⟩:∃σ1,σ1=(σ.dh d {ed with kids:=ed.kids++[.el j]}).dh j {ej with ff:=some d}:=⟨_,rfl⟩;have S:xh (d,ed.kids.length) (.el j) σ=.ok () σ1:=by
    show fY (d,ed.kids.length) j σ=_;unfold fY;dsimp only;rw[hd,hej];dsimp only;rw[dd ⟨A,dr _,by omega⟩,H8,g]
   rw[S];dsimp only;have a1:((σ.dh d {ed with kids:=ed.kids++[.el j]}).db j).isSome=true:=by rw[N.dY A,hej];rfl
   have gk:∀k,σ1.eZ k=σ.eZ k:=λk=>by grind[N.jE]
   have X:σ1.db d=some {ed with kids:=ed.kids++[.el j]}:=by rw[g,N.dY (wj A),N.eB C]
   have gj:σ1.db j=some {ej with ff:=some d}:=by rw[g,N.eB (by grind[N.dh])]
   have go:∀i,i≠d->i≠j->σ1.db i=σ.db i:=λi H l=>by grind[N.dY]
   have R:d∉dX ks:=λh=>hn (io _ h);have F:=List.nodup_cons.1 (show(j::dX ks).Nodup from hnd);have⟨σ',H,l⟩:=EG ks (σ:=σ1) (d:=d) (ed:={ed with kids:=ed.kids++[.el j]}) X (λx hx=>by grind) R F.2 (by grind);refine⟨σ',H,?_,by grind[wM.len,N.mQ],by rw[l.dst];simp,?_,λx=>by grind[wM.Ci],?_⟩;have:=l.eq;rwa [g]at this;grind[wM.oth,dX];grind[tt,N.dY,wM.wt]
theorem eJ.hand(h:eJ r σ){d:Nat}{g ed:sZ}(B:σ.db b=some g)(hd:σ.db d=some ed)(I:b≠d)(U:ed.kids=[])(a1:ed.ff=none)(hr:∀k∈dX g.kids,r d<r k)(hw:wt σ<999999):
  ∃σ',handOver b d σ=.ok () σ'/\eJ r σ'/\Fx σ σ'/\wt σ'=wt σ/\σ'.cC=σ.cC/\σ'.act=σ.act/\σ'.fresh=σ.fresh/\σ'.nodes.length=σ.nodes.length/\σ'.db b=some {g with kids:=[]}/\σ'.db d=some {ed with kids:=g.kids}:=by
 have ah:=N.dm B;have a7:d∉dX g.kids:=by
  intro X;have⟨e2,h1,h2⟩:=h.lY.dn b g d B X;rw[hd]at h1;cases h1;rw[a1]at h2;cases h2
 have a5:b∉dX g.kids:=by
  intro X;have⟨e2,h1,h2⟩:=h.lY.dn b g b B X;have:=h.qK.ff b e2 b h1 h2;omega
 have ak:=H9 B;have⟨σ1,h1,h2⟩:=EG g.kids hd (h.lY.kd b g B) a7 (h.lY.nd b g B) (by grind);have mq:σ1.db b=some g:=by rw[h2.oth b I,cZ a5];exact B
 have a6:σ1.db d=some {ed with kids:=g.kids}:=by rw[h2.dst,U];simp
 obtain⟨σ',D⟩:∃σ',σ'=σ1.dh b {g with kids:=[]}:=⟨_,rfl⟩;have hq:handOver b d σ=.ok () σ':=by
  unfold handOver;rw[B];dsimp only;rw[cZ I];change M.bind (rB d g.kids) (λ_ σ'=>match σ'.db b with|some eb'=> .ok () (σ'.dh b {eb' with kids:=[]})|none=> .stuck) σ=_
  unfold M.bind;rw[h1];dsimp only;rw[mq,D]
 have af:(σ1.db b).isSome=true:=by rw[mq];rfl
 have gb:σ'.db b=some {g with kids:=[]}:=by rw[D,N.eB (by grind[wM.len])]
 have gd:σ'.db d=some {ed with kids:=g.kids}:=by rw[D,N.dY (wj I)];exact a6
 have go:∀i,i≠d->i≠b->σ'.db i=if i∈dX g.kids then (σ.db i).map (λe=>{e with ff:=some d})else σ.db i:=λi l R=>by grind[N.dY,wM.oth]
 have gk:∀k,σ'.eZ k=σ.eZ k:=λk=>by grind[N.jE,wM.Ci]
 have A:σ'={σ with nodes:=σ'.nodes}:=by
  rw[D];have:=h2.eq;show({σ1 with nodes:=_}:N)=_;rw[this];rfl
 have u:∀i C,σ'.db i=some C->(i=b/\C={g with kids:=[]})\/(i=d/\C={ed with kids:=g.kids})\/(i≠b/\i≠d/\i∈dX g.kids/\∃e,σ.db i=some e/\C={e with ff:=some d})\/(i≠b/\i≠d/\i∉dX g.kids/\σ.db i=some C):=by
  intro i C K;by_cases l:i=b;grind;grind[Option.map_eq_some_iff]
 have ae:∀i e,σ.db i=some e->∃C,σ'.db i=some C/\C.name=e.name:=by
  intro i e K;by_cases l:i=b;grind;grind
 have a0:∀i s,dW σ i s->dW σ' i s:=λi s ⟨e,K,hn⟩=>by
  grind[dW]
 have ab:∀i e p,σ.db i=some e->e.ff=some p->i∉dX g.kids->∃H,σ'.db p=some H/\i∈dX H.kids:=by
  intro i e p K hp ad;have⟨H,h5,h6⟩:=h.lY.up i e p K hp;have a2:p≠b:=by rintro rfl;rw[B]at h5;cases h5;exact ad h6
  have a3:p≠d:=by rintro rfl;rw[hd]at h5;cases h5;rw[U]at h6;cases h6
  rw[go p a3 a2];by_cases S:p∈dX g.kids;grind;grind
 have ag:∀i e p,σ.db i=some e->i≠b->i≠d->p∈dX e.kids->∃H,σ'.db p=some H/\H.ff=some i:=by
  intro i e p K a9 aj X;have⟨H,h5,h6⟩:=h.lY.dn i e p K X;have a3:p≠d:=by rintro rfl;rw[hd]at h5;cases h5;rw[a1]at h6;cases h6
  have al:p∉dX g.kids:=by
   intro ac;have⟨e3,h7,h8⟩:=h.lY.dn b g p B ac;rw[h5]at h7;cases h7;rw[h6]at h8;exact a9 (je h8)
  by_cases a2:p=b;grind;grind
 have ho:σ'.cC=σ.cC:=by rw[A]
 have a4:σ'.act=σ.act:=by rw[A]
 have a8:σ'.head=σ.head:=by rw[A]
 have ai:σ'.form=σ.form:=by rw[A]
 refine⟨σ',hq,⟨⟨?_,?_,?_,?_⟩,⟨?_,?_,?_⟩,?_,?_,?_,?_,?_,?_,?_,?_,?_,?_⟩,?_,?_,ho,a4,by rw[A],?_,gb,gd⟩;grind
 .intro i e j T hj;rcases u i e T with⟨l,rfl⟩|⟨l,rfl⟩|⟨l,R,S,e0,F,rfl⟩|⟨l,R,S,F⟩;cases hj;rw[l];have aa:j∈dX g.kids:=hj;have⟨ej,h5,_⟩:=h.lY.dn b g j B aa;grind
  all_goals grind
 intro i e T;rcases u i e T with⟨l,rfl⟩|⟨l,rfl⟩|⟨l,R,S,e0,F,rfl⟩|⟨l,R,S,F⟩;simp[dX];show(dX g.kids).Nodup;exact h.lY.nd b g B;show(dX e0.kids).Nodup;exact h.lY.nd i e0 F;exact h.lY.nd i e F;grind[Shp.kd,lY];intro i e p T hp;rcases u i e T with⟨l,rfl⟩|⟨l,rfl⟩|⟨l,R,S,e0,F,rfl⟩|⟨l,R,S,F⟩;rw[l];exact h.qK.ff b g p B hp;grind;grind;exact h.qK.ff i e p F hp;rw[ho];exact h.qK.cC;rw[ho,a8];exact h.qK.hd;rw[ho];intro x hx;obtain⟨i,e,rfl,K⟩:=iJ (h.cC x hx);grind[N.jw];grind[act];grind[head];grind[form];grind[Ln];grind[vu];grind[xN];grind[MW];grind[QQ];grind[rU];rw[A]at a0|-;exact⟨rfl,rfl,rfl,rfl,rfl,rfl,rfl,rfl,rfl,rfl,rfl,a0,λ_=>rfl⟩
 all_goals grind[wM.wt,tt,N.mQ,wM.len]
theorem eJ.nodup(h:eJ r σ):σ.cC.Nodup:=h.qK.cC.imp λd e=>by grind
theorem eJ.aeQ(h:eJ r σ)(A:∀x∈ys,σ.jw x=true)(B:ys.Pairwise λx y=>rk r x<rk r y)(g:ys.head?=σ.cC.head?)(C:ys.length<=σ.nB):eJ r {σ with cC:=ys}/\Fx σ {σ with cC:=ys}:=by
 refine⟨⟨⟨h.lY.up,h.lY.dn,h.lY.nd,h.lY.kd⟩,⟨h.qK.ff,B,?_⟩,A,h.act,h.head,h.form,?_,C,h.xN,h.MW,h.QQ,h.rU⟩,⟨rfl,rfl,rfl,rfl,rfl,rfl,rfl,rfl,rfl,rfl,rfl,λ_ _ h=>h,λ_=>g⟩⟩;intro d x D u;exact h.qK.hd d x D (by grind);intro x rest u;have l:ys=x::rest:=u;rw[l]at g;cases ho:σ.cC with
 |nil=>grind
 |cons y r2=>
  rw[ho]at g;have e:=by simpa using g
  subst e;exact h.Ln x r2 ho
theorem TW(h:xs[n]?=some x):xs=xs.take n++x::xs.drop (n+1):=by
 grind[List.drop_eq_getElem_cons,List.take_append_drop]
theorem Wt(h:xs[n]?=some x)(d:xs.Nodup):x∉xs.take n:=by
 have e:=TW h;grind
theorem adb(h:xs[n]?=some x)(d:xs.Nodup):xs.erase x=xs.take n++xs.drop (n+1):=by
 have g:=Wt h d
 conv=>lhs;rw[TW h]
 grind
theorem tG(h:xs[n]?=some x)(d:xs.Nodup):xs.idxOf x=n:=by
 grind
def zx(h:xs[n]?=some x):n<xs.length:=(List.getElem?_eq_some_iff.1 h).1
theorem eJ.uM(h:eJ r σ){x y:Nat}(g:σ.cC[m]?=some (some x))(l:σ.cC[n]?=some (some y))(d:m<n):r x<r y:=by
 have:=List.pairwise_iff_getElem.1 h.qK.cC m n (zx g) (zx l) d
 rwa [(List.getElem?_eq_some_iff.1 g).2,(List.getElem?_eq_some_iff.1 l).2]at this
theorem eJ.S8(h:dW σ i s):σ.nm i=s:=by
 have⟨e,he,hn⟩:=h;grind[N.nm]
theorem Vu(h:σ.db i=some e):dW σ i (σ.nm i):=⟨e,h,by grind[N.nm]⟩
theorem jF(h:dW σ i s):(σ.db i).isSome=true:=by have⟨e,he,_⟩:=h;grind
theorem adq(h:(σ.db i).isSome=true):dW σ i (σ.nm i):=by
 grind[dW,N.nm]
structure RJ(r:Nat->Nat)(σ:N)(f du n pf last mark:Nat):Prop where
 inv:eJ r σ
 lst:(σ.db last).isSome=true
 low:∀m x,m<n->σ.cC[m]?=some (some x)->r x<r last
 fat:σ.cC[pf]?=some (some f)
 pfn:pf<n
 bat:some du∈σ.cC.drop n
 nle:n<=σ.cC.length
 mrk:(σ.db mark).isSome=true
 nt:∀m x,pf<m->σ.cC[m]?=some (some x)->ir (σ.nm x) aV=false
 fact:some f∈σ.act
theorem RJ.isSome(f:Fx σ σ')(h:(σ.db i).isSome=true):(σ'.db i).isSome=true:=jF (f.nm _ _ (adq h))
def Fx.aiM(f:Fx σ σ')(h:(σ.db i).isSome=true):σ'.nm i=σ.nm i:=eJ.S8 (f.nm _ _ (adq h))
def RJ.mO(h:eJ r σ){x:Nat}(d:σ.cC[m]?=some (some x)):(σ.db x).isSome=true:=h.cC _ (qQ d)
def FE(f du pf c:Nat)(σ:N)(d:nh (Nat×Nat)):Prop:=match d with
 | .ok lm σ'=>Fx σ σ'/\wt σ'<=wt σ+c/\σ'.fresh=σ.fresh/\∃r,RJ r σ' f du (pf+1) pf lm.1 lm.2
 | .stop _ _=>False
 | .stuck=>False
theorem FE.pre{f du c':Nat}{d:nh (Nat×Nat)}(h:FE f du pf c σ1 d)(g:Fx σ σ1)(u:wt σ1+c<=wt σ+c')(l:σ1.fresh=σ.fresh):FE f du pf c' σ d:=by
 cases d with
 |ok lm σ'=>
  have⟨h1,h2,h3,h4⟩:=h;exact⟨g.trans h1,by omega,h3.trans l,h4⟩
 |stop e p=>exact h
 |stuck=>exact h
def YN(f du n c last g e:Nat):M (Nat×Nat):=λσ=>if some e∉σ.act then (fB (some e)>>=λ_=>iQ f du n (c+1) last g) σ else (fD e>>=λd=>tU (some e) (some d)>>=λ_=>lE (some e) (some d)>>=λ_=>iC last>>=λ_=>eE d>>=λpl=>fY pl last>>=λ_=>iQ f du n (c+1) d (if last=du then d else g)) σ
def P9(f du n c last d:Nat)(σ:N):iQ f du (n+1) c last d σ=(zM n>>=λe=>if e=f then pure (last,d)else (if 3<c+1 then gv (some e)else pure ())>>=λ_=>YN f du n c last d e) σ:=rfl
def xM(o a:gZ)(n:Nat):Nat:=((o.take n).filter λx=>decide (x∈a)).length
def MJ{b:gZ}(g:n<=m)(d:∀x∈o.take n,x∈b->x∈a):xM o b n<=xM o a m:=by
 unfold xM;have A:((o.take n).filter λx=>decide (x∈b)).length<=((o.take n).filter λx=>decide (x∈a)).length:=by
  rw[<-List.countP_eq_length_filter,<-List.countP_eq_length_filter];refine List.countP_mono_left ?_;intro x u h;simp at h|-;exact d x u h
 have B:((o.take n).filter λx=>decide (x∈a)).length<=((o.take m).filter λx=>decide (x∈a)).length:=by
  have l:(o.take n).Sublist (o.take m):=by
   have e:o.take n=(o.take m).take n:=by rw[Om,UK g]
   rw[e];exact amp _ _
  exact(l.filter _).length_le
 omega
theorem Zz(h:o[n]?=some x)(d:x∈a):xM o a (n+1)=xM o a n+1:=by
 grind[List.take_add_one,xM]
theorem NJ:∀{xs ys:gZ},xs.Nodup->(∀x∈xs,x∈ys)->xs.length<=ys.length
 |[],_,_,_=>yQ _
 |x::xs,ys,hn,hs=>by
  have⟨h1,h2⟩:=List.nodup_cons.1 hn;have g:=NJ (ys:=ys.erase x) h2 (λy d=>(Ot (by grind)).2 (hs y (io _ d)));grind
def afW(d:o.Nodup)(n:Nat):xM o a n<=a.length:=by
 refine NJ ((d.sublist (amp _ _)).sublist (List.filter_sublist)) ?_;simp
theorem BU(f du pf:Nat)(s:O)(hs:s≠aG):∀(n c last B:Nat){r:Nat->Nat} {σ:N} {K:Nat},RJ r σ f du n pf last B->dW σ f s->xM σ.cC σ.act n<=K->wt σ+K<999990->FE f du pf K σ (iQ f du n c last B σ)
 |0,c,last,B,r,σ,K,h,_,_,_=>absurd h.pfn (by omega)
 |n+1,c,last,B,r,σ,K,h,hfn,hK,hw=>by
  have aw:n<σ.cC.length:=by have:=h.nle;omega
  have⟨e,ee,hoe,hel⟩:=h.inv.at aw;have an:zM n σ=.ok e σ:=by
   unfold zM;rw[nY,gG,hoe];rfl
  rw[P9,M.cH,an];dsimp only;by_cases S:e=f;rw[dd S];have U:n=pf:=by
   have h1:=tG hoe h.inv.nodup;have h2:=tG h.fat h.inv.nodup;rw[S]at h1;omega
  subst U;exact⟨Fx.refl _,by omega,rfl,r,h⟩
  .rw[cZ S];have U:n≠pf:=by
    intro U;rw[U,h.fat]at hoe;exact S (je (je hoe)).symm
   have a4:pf<n:=by have:=h.pfn;omega
   have hA:∃σ1,(if 3<c+1 then gv (some e)else pure ()) σ=.ok () σ1/\eJ r σ1/\Fx σ σ1/\Ip σ σ.cC σ1.act σ1/\some f∈σ1.act/\∀x,x∈σ1.act->x∈σ.act:=by
    by_cases hc:3<c+1;rw[dd hc];unfold gv;rw[dd (by grind[N.de])];have⟨g1,g2⟩:=h.inv.BZ (ys:=σ.act.erase (some e)) (λi hi=>h.inv.act i (GJ hi)) (fK (List.length_erase_le) h.inv.xN);exact⟨_,rfl,g1,g2,⟨rfl,rfl,rfl,rfl⟩,(Ot (λe0=>S (je e0).symm)).2 h.fact,λx H=>GJ H⟩;rw[cZ hc];exact⟨σ,rfl,h.inv,Fx.refl _,⟨rfl,rfl,rfl,rfl⟩,h.fact,λ_ h=>h⟩
   have⟨σ1,q1,i1,f1,l1,a1,sub1⟩:=hA;rw[M.cH,q1];dsimp only;unfold YN;have o1:=l1.cC;have aD:∀i,σ1.db i=σ.db i:=λi=>by grind[Ip.nodes,N.db]
   have ak:∀i,σ1.nm i=σ.nm i:=λi=>by grind[N.nm]
   have w1:wt σ1=wt σ:=fj l1.nodes;have R:σ1.cC[n]?=some (some e):=by rw[o1];exact hoe
   have I:=i1.nodup;have ao:σ1.cC.head?≠some (some e):=by
    intro e0;rw[Eb]at e0;have h1:=tG e0 I;have h2:=tG R I;omega
   split
   .
    rename_i ah;rw[M.cH];have hq:fB (some e) σ1=.ok () {σ1 with cC:=σ1.cC.erase (some e)}:=by
     unfold fB;rw[dd (by grind[N.de])]
    rw[hq];dsimp only;have⟨g1,g2⟩:=i1.sub (ys:=σ1.cC.erase (some e)) List.erase_sublist (Bs ao);have he:σ1.cC.erase (some e)=σ1.cC.take n++σ1.cC.drop (n+1):=adb R I;have au:(σ1.cC.take n).length=n:=by rw[List.length_take];rw[o1];omega
    have aH:∀m,m<n->(σ1.cC.erase (some e))[m]?=σ.cC[m]?:=by
     intro m C;rw[he,Ea (by omega),QK,dd C,o1]
    have aq:∀m,n<=m->(σ1.cC.erase (some e))[m]?=σ.cC[m+1]?:=by
     intro m C;rw[he,afu (by omega),au,Ze,o1]
     congr 1;omega
    refine FE.pre (BU f du pf s hs n (c+1) last B (r:=r) (K:=K) ⟨g1,?_,?_,?_,a4,?_,?_,?_,?_,a1⟩ ?_ ?_ ?_) (f1.trans g2) ?_ l1.fresh;grind[RJ.isSome,RJ.lst];intro m x C H;exact h.low m x (by omega) (by grind);grind[RJ.fat];grind[RJ.bat];grind;grind[RJ.isSome,RJ.mrk];intro m x C H;have aj:(σ1.cC.erase (some e))[m]?=some (some x):=H;show ir (σ1.nm x) _=_;rw[ak];rcases dH m n with F|F;grind[RJ.nt];rw[aq m F]at aj;exact h.nt (m+1) x (by omega) aj;grind[Fx.nm];refine fK ?_ hK;show xM (σ1.cC.erase (some e)) σ1.act n<=_;have e9:xM (σ1.cC.erase (some e)) σ1.act n=xM σ.cC σ1.act n:=by
     unfold xM;rw[he,GF (by omega),Ag (by omega),o1]
    rw[e9];exact MJ (afv _) (λx _ H=>sub1 x H)
    all_goals grind[wt]
   rename_i ah;have ad:some e∈σ1.act:=by simpa using ah
   have⟨e1,he1,hfm⟩:=i1.act e ad;rw[M.cH,zk he1 hfm];dsimp only;obtain⟨j,hj⟩:∃j,j=σ1.nodes.length:=⟨_,rfl⟩;have⟨i2,f2⟩:=i1.new e1.name e1.di σ1.fresh (r e);obtain⟨d,l⟩:∃d,d=σ1.ny (.el {name:=e1.name,di:=e1.di,ff:=none,kids:=[]}) σ1.fresh:=⟨_,rfl⟩;rw[<-l]at i2 f2|-;have af:d.db j=some {name:=e1.name,di:=e1.di,ff:=none,kids:=[]}:=by rw[l,hj];exact N.pc
   rw[<-hj]at i2|-;have w2:wt d=wt σ1:=by rw[l];exact D8 _ _ _
   have o2:d.cC=σ1.cC:=by rw[l];rfl
   have a2:d.act=σ1.act:=by rw[l];rfl
   have ai:∀i,(σ1.db i).isSome=true->i≠j:=by
    intro i hi e0;have⟨ei,hei⟩:=Option.isSome_iff_exists.1 hi;have:=N.dm hei;omega
   have aL:∀i,(σ1.db i).isSome=true->vR r j (r e) i=r i:=λi hi=>D0 (ai i hi);have ae:(σ1.db e).isSome=true:=by rw[he1];rfl
   have T:dW d j e1.name:=⟨_,af,rfl⟩;have ar:d.cC.idxOf (some e)=n:=by rw[o2];exact tG R I
   have av:some e∈d.cC:=by rw[o2];exact qQ R
   have aA:kB d.cC (some e) (some j)=d.cC.set n (some j):=by unfold kB;rw[dd av,ar]
   have ax:tU (some e) (some j) d=.ok () {d with cC:=d.cC.set n (some j)}:=by
    unfold tU;rw[dd (by rw[oY];exact⟨RJ.isSome f2 ae,jF T⟩),aA]
   have X:∀m,(d.cC.set n (some j))[m]?=if m=n then some (some j)else σ.cC[m]?:=by
    intro m;rw[List.getElem?_set];by_cases C:n=m;grind;grind
   have aK:1<=n:=by omega
   have⟨i3,f3⟩:=i2.aeQ (ys:=d.cC.set n (some j)) (by
     intro x H;rcases List.mem_or_eq_of_mem_set H with H|rfl;grind[eJ.cC];exact jF T) (by
     rw[List.pairwise_iff_getElem];intro a b ha hb am;have ab:a<σ.cC.length:=by simpa [o2,o1]using ha
     have ac:b<σ.cC.length:=by simpa [o2,o1]using hb
     have D:∀m (C:m<(d.cC.set n (some j)).length) (a3:m<σ.cC.length),rk (vR r j (r e)) ((d.cC.set n (some j))[m])=rk r (σ.cC[m]):=by
      intro m C a3;have h1:=X m;rw[pU C]at h1;by_cases F:m=n;grind[rk,vR];rw[cZ F,pU a3]at h1;rw[je h1];have⟨y,ey,hy,a7⟩:=iJ (h.inv.cC _ (sd a3));grind[rk]
     rw[D a ha ab,D b hb ac];exact List.pairwise_iff_getElem.1 h.inv.qK.cC a b ab ac am) (by
     grind[List.head?_eq_getElem?]) (by
     grind[eJ.vu])
   rw[M.cH,ax];dsimp only;obtain⟨g,u⟩:∃g,g=({d with cC:=d.cC.set n (some j)}:N):=⟨_,rfl⟩;rw[<-u]at i3 f3|-;have ay:lE (some e) (some j) g=.ok () {g with act:=kB g.act (some e) (some j)}:=by
    unfold lE;rw[dd (by rw[oY];exact⟨RJ.isSome f3 (RJ.isSome f2 ae),jF (f3.nm _ _ T)⟩)]
   have⟨i4,f4⟩:=i3.BZ (ys:=kB g.act (some e) (some j)) (λi hi=>by
     grind[DM,eJ.act,N.db]) (by grind[Kn,eJ.xN])
   rw[M.cH,ay];dsimp only;obtain⟨a9,A⟩:∃a9,a9=({g with act:=kB g.act (some e) (some j)}:N):=⟨_,rfl⟩;rw[<-A]at i4 f4|-;have aa:=((f1.trans f2).trans f3).trans f4;have ag:=RJ.isSome aa h.lst;have⟨elast,hlast⟩:=Option.isSome_iff_exists.1 ag;have⟨σ5,q5,i5,f5,w5,o5,a5,r5,n5,e5,he5,hp5,_⟩:=i4.iC hlast;rw[M.cH,q5];dsimp only;have⟨ej5,hj5,hjn5⟩:=f5.nm _ _ (f4.nm _ _ (f3.nm _ _ T));have az:eE j σ5=.ok (j,ej5.kids.length) σ5:=by unfold eE;rw[hj5]
   rw[M.cH,az];dsimp only;have aI:r e<r last:=h.low n e (by omega) hoe;have aB:(σ1.db last).isSome=true:=RJ.isSome f1 h.lst;have aC:wt σ5<=wt σ:=by
    have e4:wt a9=wt g:=by rw[A];rfl
    have e3:wt g=wt d:=by rw[u];rfl
    omega
   have⟨σ6,q6,i6,f6,w6,o6,a6,r6,n6,g6,_⟩:=i5.put (pl:=(j,ej5.kids.length)) ⟨ej5,hj5,dr _⟩ he5 hp5 (by
    grind[vR]) (by omega)
   rw[M.cH,q6];dsimp only;have a0:=(aa.trans f5).trans f6;have a8:σ6.cC=d.cC.set n (some j):=by rw[o6,o5,A];show g.cC=_;rw[u]
   have j6:dW σ6 j e1.name:=f6.nm _ _ ⟨ej5,hj5,hjn5⟩;have al:σ6.act=kB σ1.act (some e) (some j):=by
    rw[a6,a5,A];show kB g.act (some e) (some j)=_;rw[u];show kB d.act (some e) (some j)=_;rw[a2]
   have aF:xM σ.cC σ.act (n+1)=xM σ.cC σ.act n+1:=Zz hoe (sub1 _ ad);have aE:xM σ6.cC σ6.act n<=xM σ.cC σ.act n:=by
    have e9:xM σ6.cC σ6.act n=xM σ.cC σ6.act n:=by
     unfold xM;rw[a8,List.take_set_of_le (dr _),o2,o1]
    rw[e9];refine MJ (dr _) ?_;intro y hy C;rw[al]at C;rcases DM C with C|C;grind;exfalso;have a7:=List.mem_of_mem_take hy;rw[C]at a7;have:=h.inv.EW a7;grind[Ip.nodes]
   refine FE.pre (BU f du pf s hs n (c+1) j (if last=du then j else B) (r:=vR r j (r e)) (K:=K-1) ⟨i6,jF j6,?_,?_,a4,?_,?_,?_,?_,?_⟩ (a0.nm _ _ hfn) (by omega) (by omega)) a0 (by omega) ?_;grind[eJ.uM];grind[RJ.fat];rw[a8];have C:some du∈σ.cC.drop (n+1):=h.bat;have⟨k,hk⟩:=lW C;rw[Ze]at hk;refine qQ (i:=k+1) ?_;grind;grind;grind[RJ.isSome,RJ.mrk];intro m x C H;rw[a8,X m]at H;by_cases F:m=n;rw[dd F]at H;cases H;rw[eJ.S8 j6];have h3:=h.nt n e a4 hoe
   rwa [<-ak,show σ1.nm e=e1.name from eJ.S8 ⟨e1,he1,rfl⟩]at h3
   rw[cZ F]at H;rw[a0.aiM (RJ.mO h.inv H)];grind[RJ.nt];rw[a6,a5,A];show some f∈kB g.act (some e) (some j);have ap:some f∈g.act:=by rw[u];show some f∈d.act;rw[a2];exact a1
   unfold kB;split;have⟨k,hk⟩:=lW ap;refine qQ (i:=k) ?_;grind;omega;rw[r6,r5,A];show g.fresh=_;rw[u];show d.fresh=_;rw[l];exact l1.fresh
theorem eJ.ama(h:eJ r σ):eJ (λi=>2*r i) σ:=by
 refine {h with qK:=⟨λi e p u A=>?_,h.qK.cC.imp_of_mem ?_,λd x l g=>?_⟩};have:=h.qK.ff i e p u A;omega;intro x y g C B;obtain⟨i,_,rfl,_⟩:=iJ (h.cC x g);obtain⟨j,_,rfl,_⟩:=iJ (h.cC y C);grind[rk];have:=h.qK.hd d x l g;omega
theorem U1(h:σ.de x=true):gv x σ=.ok () {σ with act:=σ.act.erase x}:=by
 grind[gv]
theorem J4(h:σ.de x=true):fB x σ=.ok () {σ with cC:=σ.cC.erase x}:=by
 grind[fB]
theorem Mm(xs:gZ)(x y:eG):(eu xs x y).length<=xs.length+1:=by
 grind[eu]
theorem wC(h:z∈eu xs x y):z∈xs\/z=y:=by
 grind[eu]
theorem Me(h:z∈xs):z∈eu xs x y:=by
 grind[List.take_append_drop,eu]
theorem eJ.Rf(h:eJ r σ){f:Nat}(d:σ.cC[pf]?=some (some f))(l:1<=pf):∃a,ahead f σ=.ok a σ/\σ.cC[pf-1]?=some (some a):=by
 have⟨a,ea,ha,_⟩:=h.at (n:=pf-1) (by grind);unfold ahead;have g:posOf σ.cC (some f)=(pf):=by unfold posOf;rw[(tG d h.nodup),dd (zx d)]
 grind[nY]
theorem Mj(h:eJ r σ){f a:Nat}(u:σ.cC[pf]?=some (some f))(F:1<=pf)(d:σ.cC[pf-1]?=some (some a))(A:ir (σ.nm f) aV=false)(H:∀m x,pf<m->σ.cC[m]?=some (some x)->ir (σ.nm x) aV=false):∃pl,placeFor a σ=.ok pl σ/\AB σ pl/\r pl.1<r f:=by
 have l:=h.uM d u (by omega);have⟨a',ea,e1,hea⟩:=iJ (h.cC _ (qQ d));cases e1;unfold placeFor;split;have⟨pl,h1,h2,_,g⟩:=zv h (List.ne_nil_of_mem (qQ d));rcases g with⟨i,B,D,_,C⟩|g;have⟨k,hk⟩:=lW B;grind[eJ.uM];grind[nY,eJ.uM];unfold eE;rw[hea];grind[AB]
def SV(f du:Nat)(σ:N):pi f du σ=(tK f du>>=λg=>iC g.1>>=λ_=>ahead f>>=λa=>placeFor a>>=λpl=>fY pl g.1>>=λ_=>fD f>>=λd=>handOver du d>>=λ_=>eE du>>=λpl=>fY pl d>>=λ_=>jk (some g.2) (some d)>>=λ_=>gv (some f)>>=λ_=>fB (some f)>>=λ_=>kj (some du) (some d)>>=λ_=>(pure ():M Unit)) σ:=rfl
theorem SX(h:jS σ){f du pb:Nat}(hs:pB s=true)(a1:dW σ f s)(aw:some f∈σ.act)(hf:σ.cC[pf]?=some (some f))(hb:σ.cC[pb]?=some (some du))(aB:pf<pb)(nt:∀m x,pf<m->σ.cC[m]?=some (some x)->ir (σ.nm x) aV=false)(hw:wt σ<999900):fk 36 σ (pi f du σ) (λ_ σ'=>σ'.fresh=σ.fresh):=by
 have⟨r,h⟩:=h;have am:s≠aG:=Db hs;have aM:σ.cC.length<=64:=fK h.vu h.MW;have al:=zx hb;have ak:1<=pf:=by
  rcases Fu pf with h0|h0;grind[eJ.DC,List.head?_eq_getElem?];exact h0
 have uI:=RJ.mO h hb;rw[SV,M.cH];have aD:tK f du σ=iQ f du pb 0 du f σ:=by
  unfold tK;have h1:=tG hb h.nodup;have h2:posOf σ.cC (some du)=(pb:Int):=by unfold posOf;rw[h1,dd al]
  rw[h2];rfl
 have H:=BU f du pf s am pb 0 du f (r:=r) (σ:=σ) ⟨h,uI,λm x hm A=>h.uM A hb hm,hf,aB,by
  refine qQ (i:=0) ?_;grind,by omega,jF a1,nt,aw⟩ a1 (K:=32) (fK (afW h.nodup _) (fK h.xN h.QQ)) (by omega)
 rw[aD];revert H;cases iQ f du pb 0 du f σ with
 |stop e p=>simp[FE]
 |stuck=>simp[FE]
 |ok lm σ1=>
  rintro⟨f1,w1,aR,F,aX⟩;dsimp only;have⟨last,mark⟩:=lm;dsimp only at aX|-;have⟨el,hel⟩:=Option.isSome_iff_exists.1 aX.lst;have⟨σ2,q2,i2,f2,w2,o2,a2,r2,n2,e2,he2,hp2,_⟩:=aX.inv.iC hel;rw[M.cH,q2];dsimp only;have ag:σ2.cC[pf]?=some (some f):=by rw[o2];exact aX.fat
  have⟨a,qa,ha⟩:=i2.Rf ag ak;rw[M.cH,qa];dsimp only;have aa:dW σ2 f s:=f2.nm _ _ (f1.nm _ _ a1);have ay:ir (σ2.nm f) aV=false:=by
   rw[eJ.S8 aa];cases A:ir s aV with
   |false=>rfl
   |true=>
    have:=oE A;subst this;simp[pB,da,ir,vN]at hs
  have aH:∀m x,pf<m->σ2.cC[m]?=some (some x)->ir (σ2.nm x) aV=false:=by
   intro m x hm A;rw[o2]at A;rw[f2.aiM (RJ.mO aX.inv A)];exact aX.nt m x hm A
  have⟨pl,q3,p3,k3⟩:=Mj i2 ag ak ha ay aH;rw[M.cH,q3];dsimp only;have aT:F f<F last:=aX.low pf f (by omega) aX.fat;have⟨σ3,q4,i3,f3,w3,o3,a3,r3,n3,_,_⟩:=i2.put p3 he2 hp2 (by omega) (by omega);rw[M.cH,q4];dsimp only;have ab:dW σ3 f s:=f3.nm _ _ aa;have⟨ef,hef,hefn⟩:=id ab;rw[M.cH,zk hef (by grind)];dsimp only;have ar:some du∈σ3.cC:=by
   rw[o3,o2];exact Lh aX.bat
  have⟨blk',eb,e1,heb⟩:=iJ (i3.cC _ ar);cases e1;obtain⟨j,hj⟩:∃j,j=σ3.nodes.length:=⟨_,rfl⟩;have⟨i4,f4⟩:=i3.ama.new ef.name ef.di σ3.fresh (2*F du+1);obtain⟨u,l⟩:∃u,u=σ3.ny (.el {name:=ef.name,di:=ef.di,ff:=none,kids:=[]}) σ3.fresh:=⟨_,rfl⟩;rw[<-l]at i4 f4|-;rw[<-hj]at i4|-;obtain⟨R,hR⟩:∃R,R=vR (λi=>2*F i) j (2*F du+1):=⟨_,rfl⟩;rw[<-hR]at i4;have T:u.db j=some {name:=ef.name,di:=ef.di,ff:=none,kids:=[]}:=by rw[l,hj];exact N.pc
  have ai:∀i,(σ3.db i).isSome=true->i≠j:=by
   intro i hi e0;have⟨ei,af⟩:=Option.isSome_iff_exists.1 hi;have:=N.dm af;omega
  have I:∀i,(σ3.db i).isSome=true->R i=2*F i:=λi hi=>by rw[hR];grind[vR]
  have Rj:R j=2*F du+1:=by rw[hR];exact Ok _ _ _
  have S:(σ3.db du).isSome=true:=by rw[heb];rfl
  have au:du≠j:=ai du S;have ae:u.db du=some eb:=by rw[l];show(σ3.add _).db du=_;rw[N.qo (N.dm heb)];exact heb
  have w4:wt u=wt σ3:=by rw[l];exact D8 _ _ _
  have o4:u.cC=σ3.cC:=by rw[l];rfl
  have a4:u.act=σ3.act:=by rw[l];rfl
  have r4:u.fresh=σ3.fresh:=by rw[l];rfl
  have⟨σ5,q5,i5,f5,w5,o5,a5,r5,n5,b5,d5⟩:=i4.hand ae T au rfl rfl (by
   intro k hk;have⟨ek,h1,h2⟩:=i3.lY.dn du eb k heb hk;have h3:=i3.qK.ff k ek du h1 h2;grind) (by omega)
  rw[M.cH,q5];dsimp only;have q6:eE du σ5=.ok (du,0) σ5:=by unfold eE;rw[b5];rfl
  rw[M.cH,q6];dsimp only;have⟨σ6,q7,i6,f6,w6,o6,a6,r6,n6,_,_⟩:=i5.put (pl:=(du,0)) ⟨_,b5,yQ _⟩ d5 rfl (by
   grind) (by omega)
  rw[M.cH,q7];dsimp only;have F6:=((((f1.trans f2).trans f3).trans f4).trans f5).trans f6;have a7:dW σ6 j ef.name:=f6.nm _ _ (f5.nm _ _ ⟨_,T,rfl⟩);have ac:dW σ6 f s:=f6.nm _ _ (f5.nm _ _ (f4.nm _ _ ab));have aF:(σ6.db mark).isSome=true:=RJ.isSome (((((f2.trans f3).trans f4).trans f5).trans f6)) aX.mrk;have ap:σ6.act=σ1.act:=by rw[a6,a5,a4,a3,a2]
  have a8:σ6.cC=σ1.cC:=by rw[o6,o5,o4,o3,o2]
  have aP:σ6.act.length<=32:=fK i6.xN i6.QQ;have aW:σ6.cC.length<=64:=fK i6.vu i6.MW;have aQ:some f∈σ6.act:=by rw[ap];exact aX.fact
  have q8:jk (some mark) (some j) σ6=.ok () {σ6 with act:=eu σ6.act (some mark) (some j)}:=by
   unfold jk;rw[dd];rw[oY,oY];exact⟨⟨aF,jF a7⟩,by grind⟩
  rw[M.cH,q8];dsimp only;have q9:gv (some f) {σ6 with act:=eu σ6.act (some mark) (some j)}=.ok () {σ6 with act:=(eu σ6.act (some mark) (some j)).erase (some f)}:=U1 (σ:={σ6 with act:=eu σ6.act (some mark) (some j)}) (jF ac);rw[M.cH,q9];dsimp only;have⟨i7,f7⟩:=i6.BZ (ys:=(eu σ6.act (some mark) (some j)).erase (some f)) (λi hi=>by
   rcases wC (GJ hi)with hi|hi;exact i6.act i hi;grind) (by
   grind[Mm,Me,eJ.xN])
  obtain⟨g,C⟩:∃g,g=({σ6 with act:=(eu σ6.act (some mark) (some j)).erase (some f)}:N):=⟨_,rfl⟩;rw[<-C]at i7 f7|-;have o7:g.cC=σ6.cC:=by rw[C]
  have ad:dW g f s:=f7.nm _ _ ac;have aU:dW g j ef.name:=f7.nm _ _ a7;have ah:g.cC[pf]?=some (some f):=by rw[o7,a8];exact aX.fat
  have aj:=i7.DC ad am;have aI:fB (some f) g=.ok () {g with cC:=g.cC.erase (some f)}:=J4 (jF ad);rw[M.cH,aI];dsimp only;have⟨i8,f8⟩:=i7.sub (ys:=g.cC.erase (some f)) List.erase_sublist (Bs aj);obtain⟨d,D⟩:∃d,d=({g with cC:=g.cC.erase (some f)}:N):=⟨_,rfl⟩;rw[<-D]at i8 f8|-;have o8:d.cC=g.cC.erase (some f):=by rw[D]
  have ax:f≠du:=by
   rintro rfl;have h1:=tG hf h.nodup;have h2:=tG hb h.nodup;omega
  have a0:some du∈d.cC:=by
   rw[o8];refine(Ot (λe0=>ax (je e0).symm)).2 ?_;rw[o7,a8];exact Lh aX.bat
  have⟨kb,hkb⟩:=lW a0;have aS:=zx hkb;have az:=tG hkb i8.nodup;have a9:=f7.trans f8;have ao:dW d j ef.name:=a9.nm _ _ a7;have aA:d.cC.length+1=g.cC.length:=by
   rw[o8,List.length_erase_of_mem (qQ ah)];have:=zx ah;omega
  have U:eu d.cC (some du) (some j)=d.cC.take (kb+1)++[some j]++d.cC.drop (kb+1):=by
   unfold eu;rw[dd a0,az]
  have aK:kj (some du) (some j) d=.ok () {d with cC:=eu d.cC (some du) (some j)}:=by
   unfold kj;rw[dd];rw[oY,oY];refine⟨⟨?_,jF ao⟩,?_⟩;exact i8.cC _ a0;grind
  rw[M.cH,aK];dsimp only;have B:∀x∈d.cC,∃i,x=some i/\R i=2*F i:=by
   intro x A;have aE:x∈σ3.cC:=by
    rw[o8]at A;have:=GJ A;rw[o7,a8]at this;rw[o3,o2];exact this
   obtain⟨i,ei,rfl,af⟩:=iJ (i3.cC x aE);exact⟨i,rfl,I i (by grind)⟩
  have aC:=i8.qK.cC;have aL:R du=2*F du:=I du S;have⟨i9,f9⟩:=i8.aeQ (ys:=eu d.cC (some du) (some j)) (by
   intro x A;rcases wC A with A|rfl;grind[eJ.cC];exact jF ao) (by
   rw[U,se];have an:d.cC=d.cC.take (kb+1)++d.cC.drop (kb+1):=(Oq _ _).symm;have X:=aC;rw[an]at X;have⟨p1,p2,p3⟩:=List.pairwise_append.1 X;refine List.pairwise_append.2 ⟨p1,List.pairwise_cons.2 ⟨?_,p2⟩,?_⟩;intro y hy;obtain⟨i,rfl,aq⟩:=B y (Lh hy);have av:some du∈d.cC.take (kb+1):=by
    refine qQ (i:=kb) ?_;rw[QK,dd (by omega)];exact hkb
   have h1:R du<R i:=p3 _ av _ hy;grind[rk]
   .intro x A y hy;rcases List.mem_append.1 hy with hy|hy
    .rw[List.mem_singleton.1 hy];obtain⟨i,rfl,aq⟩:=B x (List.mem_of_mem_take A);show R i<R j;have⟨k,hk⟩:=lW A;rw[QK]at hk;split at hk
     all_goals grind[eJ.uM]
    grind) (by
   rw[U,se];cases ho8:d.cC<;>grind) (by
   grind[eJ.vu])
  have wf:wt ({d with cC:=eu d.cC (some du) (some j)}:N)=wt σ6:=by
   show wt d=_;rw[D];show wt g=_;rw[C];rfl
  refine⟨⟨_,i9⟩,(F6.trans a9).trans f9,by omega,?_⟩;grind
theorem FK(σ:N)(f b:Nat):∀(ys:gZ)(d:eG),σ.ql f ys d=some b->d=some b\/∃k:Nat,ys[k]?=some (some b)/\∀g:Nat,g<=k->ys[g]?≠some (some f)
 |[],d,h=> .inl h
 |x::ys,d,h=>by
  unfold N.ql at h;by_cases A:x=some f;grind;rw[cZ A]at h;rcases FK σ f b ys _ h with u|⟨k,u,B⟩;by_cases C:iG (σ.jg x)=true;refine .inr ⟨0,by grind,λg l=>?_⟩;grind;grind;refine .inr ⟨k+1,u,λg l=>?_⟩;grind
theorem AX(σ:N)(f:Nat):∀(ys:gZ),σ.lf f ys=true->∀(k:Nat)(x:eG),ys[k]?=some x->(∀d:Nat,d<=k->ys[d]?≠some (some f))->dG (σ.jg x)=false
 |[],h,k,x,hx,_=>by grind
 |y::ys,h,k,x,hx,hno=>by
  unfold N.lf at h;rw[cZ (λe=>hno 0 (yQ _) (by grind))]at h;by_cases g:dG (σ.jg y)=true;grind;rw[cZ g]at h;cases k with
  |zero=>
   grind
  |succ k=>exact AX σ f ys h k x hx (λd l=>hno (d+1) (by omega))
theorem wA(σ:N)(s:O):∀{ys:gZ} {f:Nat},σ.oL s ys=some f->some f∈ys/\ir (σ.nm f) s=true
 |[],f,h=>by cases h
 |none::_,f,h=>by cases h
 |some i::ys,f,h=>by
  unfold N.oL at h;by_cases d:ir (σ.nm i) s=true;grind;rw[cZ d]at h;have⟨h1,h2⟩:=wA σ s h;grind
theorem Uo:dG aV=true:=by
 kernel_rfl
theorem wZ{x:O}:da [s] x=ir x s:=by simp[da]
theorem Sb(h:pB s=true):da [s] aG=false:=by
 grind[wZ,oE,Db]
theorem C7(h:jS σ)(hs:s≠aG):fk 0 σ (nT s σ) (λ_ σ'=>qU σ σ'):=by
 refine fk.dP ((vf h _ _ ?_).mono (dr _) (λ_ _ _ _ h=>h.1));grind[wZ,oE]
theorem Lu(h:jS σ)(hs:pB s=true)(hw:wt σ<999900):fk 36 σ (iY s σ) (λ_ σ'=>σ'.fresh=σ.fresh):=by
 unfold iY;cases hl:σ.jH s with
 |none=>
  dsimp only;refine fk.bind ((C7 h (Db hs)).mono (yQ 36) (λ_ _ _ _ h=>h)) (c2:=0) ?_ (by omega);grind[fk.ret,qU.fresh]
 |some f=>
  dsimp only;have⟨K,hn⟩:=wA σ s hl;have A:some f∈σ.act:=List.mem_reverse.1 K;have⟨r,hr⟩:=id h;have⟨ef,hef,_⟩:=hr.act f A;have l:dW σ f s:=by
   have g:=Vu hef
   rwa [oE hn]at g
  have F:(σ.db f).isSome=true:=by rw[hef];rfl
  split;refine fk.bind ((xK h (x:=some f) F).mono (yQ 36) (λ_ _ _ _ h=>h)) (c2:=0) ?_ (by omega);grind[fk.ret,Ip.fresh];rename_i ho;have C:some f∈σ.cC:=by simpa using ho
  split;exact⟨h,Fx.refl _,by omega,rfl⟩;rename_i H;cases hb:σ.jT f with
  |none=>
   dsimp only;refine fk.bind ((Wx h l (Db hs) C).mono (yQ 36) (λ_ _ _ _ h=>h)) (c2:=0) ?_ (by omega);rintro _ σ1 i1 U _ q1;refine fk.bind (xK i1 (x:=some f) (jF (U.nm _ _ l))) (c2:=0) ?_ (by omega);rintro _ a3 i2 _ _ q2;exact fk.ret i2 (q2.fresh.trans q1.fresh)
  |some b=>
   dsimp only;have⟨pf,hpf⟩:=lW C;have R:=zx hpf;have d:∀k,k<σ.cC.length->σ.cC.reverse[k]?=σ.cC[σ.cC.length-1-k]?:=λk B=>List.getElem?_reverse B;have S:∀k,σ.cC.reverse[k]?=some (some f)->k=σ.cC.length-1-pf:=by
    intro k B;have u:k<σ.cC.length:=by simpa using (List.getElem?_eq_some_iff.1 B).1
    rw[d k u]at B;have g:=tG B hr.nodup;have X:=tG hpf hr.nodup;omega
   rcases FK σ f b σ.cC.reverse none hb with g|⟨k,g,X⟩;cases g;have u:k<σ.cC.length:=by simpa using (List.getElem?_eq_some_iff.1 g).1
   have a1:k<σ.cC.length-1-pf:=by
    rcases dH k (σ.cC.length-1-pf)with I|I;exact I;grind
   rw[d k u]at g;refine fk.bind ((SX h hs l A hpf g (by omega) ?_ hw).mono (dr _) (λ_ _ _ _ h=>h)) (c2:=0) ?_ (by omega);intro m x K T;have a2:=zx T;have D:=AX σ f σ.cC.reverse (by simpa [N.kg]using H) (σ.cC.length-1-m) (some x) (by
    rw[d _ (by omega),show σ.cC.length-1-(σ.cC.length-1-m)=m by omega];exact T) (by
    grind)
   cases hq:ir (σ.nm x) aV with
   |false=>rfl
   |true=>
    have e:=oE hq;have a0:dG (σ.nm x)=false:=D;grind[Uo]
   grind[fk.ret]
theorem Iy(hs:pB s=true):∀(k:Nat){σ:N},jS σ->wt σ+36*k<999900->fk (36*k) σ (qj s k σ) (λ_ σ'=>σ'.fresh=σ.fresh)
 |0,σ,h,_=>⟨h,Fx.refl _,dr _,rfl⟩
 |k+1,σ,h,hw=>by
  refine fk.bind (Lu h hs (by omega)) (c2:=36*k) ?_ (by omega);rintro b σ1 d g u l;cases b with
  |true=>
   refine(Iy hs k d (by omega)).mono (dr _) ?_;grind
  |false=>grind[fk.ret]
theorem Ef(h:jS σ)(g:σ.cC≠[])(hs:pB s=true)(A:wt σ<999100):fk 288 σ (rY s σ) (λ_ σ'=>σ'.fresh=σ.fresh):=by
 have⟨r,hr⟩:=id h;have⟨i,e,h1,h2,h3,h4⟩:=PA hr g;unfold rY;rw[h1];dsimp only;split;rename_i l;rw[oY]at l;have d:σ.current (da [s])=true:=by
  unfold N.current;rw[h1];show da [s] _=true;rw[wZ];exact l.1
 refine fk.bind ((xg h (vV h (da [s]) (Sb hs) d)).mono (yQ 288) (λ_ _ _ _ h=>h)) (c2:=0) ?_ (by omega);rintro x σ1 u _ _⟨rfl,_⟩;exact⟨u,Fx.refl _,dr _,rfl⟩;grind[Iy]
theorem Rel.drewN(h:Rel E L σ w)(q:Nat):Rel E L σ (w.drewN q):=h.dB ((Z.refl _ _).drewN q)
theorem Fr.drewN{bs:Nat}(w:J)(q:Nat):Fr bs w (w.drewN q):=.df ((Z.refl _ _).drewN q)
def ic(w:J)(k c p:Nat):Prop:=w.heap[k]?=some (cV #[G c,G p] 81)
abbrev oR(k:Nat):Ending:=.panicked [{v:=.iface 76 (cW k),recovered:=false}]
abbrev Bp(E:Env):cY:=cW E.bB
def Qn(h:Rel E L σ w)(c:Nat):
  Calls prog 264 #[Bp E,G c] w λe w'=>∃k,e=oR k/\ic w' k c σ.dk/\Fr E.bs w w':=by
 have l:=h.Vf;have g:=h.lt;have d:=Fr.df (bs:=E.bs) ((Z.refl [] w).alloc (cV #[G c,G σ.dk] 81));go_enter func264,ntmps264;go_wp2;exact⟨rfl,_,rfl,(aY w (cV #[G c,G σ.dk] 81)),d⟩
def Rel.aaC(h:Rel E L σ w):zF ⟨E.bB,188,none⟩ w=σ.cC.length:=by
 have⟨C,hL,_⟩:=h.x9;rw[hL.zF,Zk]
def uK(xs:gZ)(y:eG):dA (xs++[y]) (((xs++[y]).length:Int)-1)=y:=qp xs y
def adR:dA ([]:gZ) ((([]:gZ).length:Int)-1)=none:=rfl
theorem vA(xs:gZ):xs=[]\/∃ys y,xs=ys++[y]:=by
 rcases afo xs with h|⟨d,y,h⟩
 all_goals grind
theorem Rel.mO(h:Rel E L σ w)(d:x∈σ.cC):∃i e,x=some i/\σ.db i=some e:=by
 have:=h.wf.cC x d;cases x with
 |none=>cases this
 |some i=>
  have⟨e,he⟩:=Option.isSome_iff_exists.1 (this);grind
def Rel.tI(h:Rel E L σ w)(d:σ.db i=some e):w.cell? ⟨L.dk i,0,none⟩=some (Y (σ.nm i)):=by
 have:σ.nm i=e.name:=by unfold N.nm;rw[d]
 rw[this,aN (h.th d).du];rfl
def Ask.fr'{bm bs:Nat}(h:Ask bm v p w)(d:Fr bs w w'):Ask bm v p w':=h.fr (d.n bm)
def xU(h:Rel E L σ w)(v:cY)(p:O->Bool)(B:Ask E.bm v p w):
  Calls prog 214 #[Bp E,v] w λe w'=>e=dw (.bool (σ.current p))/\w'=w:=by
 obtain⟨k,lb,rfl,I,C⟩:=B.call;have g:=Wy h;rcases vA σ.cC with l|⟨ys,y,l⟩
 .have d:σ.current p=false:=by unfold N.current N.last;rw[l];rfl
  rw[d];rw[l,adR]at g;have u:=V g;clear g;go_enter func214,ntmps214;go_wp21;refine u.mono ?_;rintro e w'⟨rfl,rfl⟩;go_wp2;go_ret;simp
 .obtain⟨i,H,rfl,D⟩:=h.mO (x:=y) (by rw[l];simp);have d:σ.current p=p (σ.nm i):=by unfold N.current N.last;rw[l,uK]
  rw[d];rw[l,uK]at g;have F:=h.tI D;have u:=V (show Calls prog 173 #[fR E.bB 188] w (λe w'=>e=dw (cW (L.dk i))/\w'=w)from g);have A:=C w (wm.refl _ _) (σ.nm i);generalize p (σ.nm i)=r at A|-;clear g;go_enter func214,ntmps214;go_wp21;refine u.mono ?_;rintro e w'⟨rfl,rfl⟩;go_wp21;refine A.mono ?_;rintro e w'⟨rfl,rfl⟩;go_wp2;go_ret;simp
theorem aeq(h:Rel E L σ w)(v:cY)(p:O->Bool)(l:Ask E.bm v p w):
  Calls prog 235 #[Bp E,v] w λe w'=>e=nu/\To E L (σ.Gr p) w w':=by
 have d:=xU h v p l;have u:=Tf h;have A:=h.to (Fr.refl w);obtain⟨k,lb,rfl,_,_⟩:=l.call;unfold N.Gr;cases hcur:σ.current p with
 |false=>
  rw[hcur]at d;go_enter func235,ntmps235;go_wp21;refine d.mono ?_;rintro e w'⟨rfl,rfl⟩;go_wp2;go_end0;grind
 |true=>
  rw[hcur]at d;go_enter func235,ntmps235;go_wp21;refine d.mono ?_;rintro e w'⟨rfl,rfl⟩;go_wp21;refine u.mono ?_;rintro e w'⟨rfl,g⟩;go_wp2;go_end0;exact⟨rfl,g⟩
structure Ow(E:Env)(L:Loc)(σ:N)(w:J)(ys:gZ)(wr:J):Prop where
 ex:∃L1,L1.dk=L.dk/\Rel E L1 {σ with cC:=ys} wr/\Fr E.bs w wr
theorem aig(h:Rel E L σ w)(v:cY)(p:O->Bool)(ha:Ask E.bm v p w):
  Calls prog 287 #[Bp E,v] w λe w'=>e=nu/\To E L (σ.yw p) w w':=by
 obtain⟨k,lb,rfl,he,HC⟩:=ha.call;have H0:Hid (Ow E L σ w σ.cC w):=V ⟨L,rfl,h,Fr.refl w⟩;go_enter func287,ntmps287;go_wp2
 go_loopw [] (λwr=>∃ys,σ.xx p ys.reverse=σ.xx p σ.cC.reverse/\Ow E L σ w ys wr) (λwr=>zF ⟨E.bB,188,none⟩ wr)
 case atStart=>exact⟨_,rfl,H0⟩
 case round=>
  have⟨ys,hu,⟨L1,e1,hR,HFR⟩⟩:=hrel;have T:=V e1;clear e1;have U:=V hR.aaC;have A:=aee hR;have D:=Tf hR;rcases vA ys with rfl|⟨g,y,rfl⟩
  .have H:Hid (To E L (σ.yw p) w wr):=by
    refine⟨L1,T,?_,HFR⟩;have:(σ.xx p σ.cC.reverse).reverse=[]:=by rw[<-hu];rfl
    unfold N.yw;rw[this];exact hR
   clear hR hu;go_wp21;refine A.mono ?_;rintro e w'⟨rfl,rfl⟩;go_wp2;go_end0;exact⟨rfl,H⟩
  .obtain⟨i,e0,rfl,K⟩:=hR.mO (x:=y) (by simp);have S:σ.xx p ((g++[some i]).reverse)=if p (σ.nm i)then g.reverse else σ.xx p g.reverse:=by rw[Lb];rfl
   rw[S]at hu;have X:0<(g++[some i]).length:=by simp
   dsimp only at A D;rw[uK]at D;have F:=(show Calls prog 178 #[fR E.bB 188] wr (λe w'=>e=dw (cW (L1.dk i))/\To E L1 {σ with cC:=(g++[some i]).dropLast} wr w')from D);have I:=V hu;have u:(0:Int)<((g++[some i]).length:Int):=by omega
   obtain⟨m,hm⟩:∃m,m=(g++[some i]).length:=⟨_,rfl⟩;have HM:=V (show m=g.length+1 by rw[hm];simp);dsimp only at U;rw[<-hm]at A u U;clear hR hu;go_wp21;refine A.mono ?_;rintro e w'⟨rfl,rfl⟩;go_wp21;refine F.mono ?_;rintro e C⟨rfl,L2,e2,d,l⟩;rw[Zi]at d;have R:N.db {σ with cC:=g} i=some e0:=K;have c0:C.cell? ⟨L1.dk i,0,none⟩=some (Y (σ.nm i)):=by rw[<-e2];exact d.tI R
   have B:=HC C ((HFR.trans l).n _) (σ.nm i);have a0:=V d.aaC;have HP:Hid (Ow E L σ w g C):=⟨L2,e2.trans T,d,HFR.trans l⟩;clear d;cases hq:p (σ.nm i)with
   |true=>
    rw[hq]at B I;have H:Hid (To E L (σ.yw p) w C):=by
     have⟨L3,e3,hR3,hf3⟩:=HP.ex;refine⟨L3,e3,?_,hf3⟩;have:(σ.xx p σ.cC.reverse).reverse=g:=by rw[<-I.out,dd rfl,List.reverse_reverse]
     unfold N.yw;rw[this];exact hR3
    go_wp21;refine B.mono ?_;rintro e w'⟨rfl,rfl⟩;go_wp2
    (try simp only[Exit.inBlock,Exit.then])
    refine nr (GG rfl _ _ _) rfl ?_;exact⟨rfl,H⟩
   |false=>
    rw[hq]at B I;go_wp21;refine B.mono ?_;rintro e w'⟨rfl,rfl⟩;go_wp2;grind[Hid.out]
def adI(bm:Nat)(d:List O)(w:J)(g:d.length<=4096):
  Calls prog 219 #[ky w.heap.size d.length d.length] (w.alloc (cV (d.map Value.string).toArray 9)) λe w'=>∃f a l,e=dw (.func f a l)/\Ask bm (.func f a l) (da d) w'/\Z [] w w':=by
 refine(Wg bm _ _ d _ (aY w _) g).mono ?_;rintro e w'⟨⟨v,rfl,h⟩,u⟩;obtain⟨k,lb,rfl,_,_⟩:=h.call;exact⟨_,_,_,rfl,h,(((Z.refl [] w).alloc _).trans u)⟩
theorem aiS(bm:Nat)(d g:cY)(p q:O->Bool)(w:J)(h:Ask bm d p w)(u:Ask bm g q w):
  Calls prog 239 #[d,g] w λe w'=>∃f a l,e=dw (.func f a l)/\Ask bm (.func f a l) (λs=>p s||q s) w'/\Z [] w w':=by
 refine(akn bm d g p q w h u).mono ?_;grind[Ask.call]
def Ask.k0{bm:Nat}(h:Ask bm v p w)(d:Z [] w w'):Ask bm v p w':=h.fr (.df d)
theorem Vk(h:Rel E L σ w)(f:Fn)(a l:fN)(p:O->Bool)(ha:Ask E.bm (.func f a l) p w):
  Calls prog 216 #[Bp E,.func f a l] w λe w'=>e=nu/\To E L (σ.pY p) w w':=by
 have H:=h;have HA:=ha;have CI:=adI E.bm [aG] w (by decide);go_enter func216,ntmps216;go_wp21;refine CI.mono ?_;rintro e w1⟨f1,a1,l1,rfl,a0,F⟩;have CO:=aiS E.bm _ _ _ _ w1 (HA.k0 F) a0;go_wp21;refine CO.mono ?_;rintro e w2⟨f2,a2,l2,rfl,D,a3⟩;have I:=F.trans a3;have H2:=H.dB I;obtain⟨q,hq⟩:∃q,q=(λs=>p s||da [aG] s):=⟨_,rfl⟩;rw[<-hq]at D;have K:Hid (∀wr,(∃B,B.dk=L.dk/\Rel E B {σ with cC:=(σ.la (λs=>!q s) σ.cC.reverse).reverse} wr/\Fr E.bs w wr)->To E L (σ.pY p) w wr):=by
  rintro wr⟨B,e1,d,S⟩;refine⟨B,e1,?_,S⟩;unfold N.pY
  rwa [hq]at d
 have H0:Hid (Ow E L σ w σ.cC w2):=V ⟨L,rfl,H2,.df I⟩;go_wp2
 go_loopw [] (λwr=>∃ys,σ.la (λs=>!q s) ys.reverse=σ.la (λs=>!q s) σ.cC.reverse/\Fr E.bs w2 wr/\Ow E L σ w ys wr) (λwr=>zF ⟨E.bB,188,none⟩ wr)
 case atStart=>exact⟨_,rfl,Fr.refl _,H0⟩
 case round=>
  have⟨ys,hu,hf2,⟨B,E1,d,S⟩⟩:=hrel;have HZ:=V d.aaC;have C:=aee d;have CC:=xU d _ _ (D.fr' hf2);rcases vA ys with rfl|⟨A,y,rfl⟩
  .have HT:Hid (To E L (σ.pY p) w wr):=by
    refine K wr ⟨B,E1,?_,S⟩;have:(σ.la (λs=>!q s) σ.cC.reverse).reverse=[]:=by rw[<-hu];rfl
    rw[this];exact d
   clear d hu;go_wp21;refine C.mono ?_;rintro e w'⟨rfl,rfl⟩;go_wp2;go_end0;exact⟨rfl,HT⟩
  .obtain⟨i,e0,rfl,hi⟩:=d.mO (x:=y) (by simp);have a4:σ.la (λs=>!q s) ((A++[some i]).reverse)=if (!q (σ.nm i))=true then σ.la (λs=>!q s) A.reverse else some i::A.reverse:=by rw[Lb];rfl
   rw[a4]at hu;have R:N.current {σ with cC:=A++[some i]} q=q (σ.nm i):=by unfold N.current N.last;rw[uK];rfl
   rw[R]at CC;have u:=CC;have HU:=V hu;have X:=S;have U:=hf2;have CP:=Tf d;obtain⟨m,hm⟩:∃m,m=(A++[some i]).length:=⟨_,rfl⟩;have a5:(0:Int)<(m:Int):=by rw[hm];simp
   have HM:=V (show m=A.length+1 by rw[hm];simp);dsimp only at HZ C;rw[<-hm]at C HZ;cases hqq:q (σ.nm i)with
   |true=>
    rw[hqq]at u HU;have HT:Hid (To E L (σ.pY p) w wr):=by
     refine K wr ⟨B,E1,?_,S⟩;have:(σ.la (λs=>!q s) σ.cC.reverse).reverse=A++[some i]:=by rw[<-HU.out];simp
     rw[this];exact d
    clear d hu;go_wp21;refine C.mono ?_;rintro e w'⟨rfl,rfl⟩;go_wp21;refine u.mono ?_;rintro e w'⟨rfl,rfl⟩;go_wp2;go_end0;exact⟨rfl,HT⟩
   |false=>
    rw[hqq]at u HU;clear d hu;go_wp21;refine C.mono ?_;rintro e w'⟨rfl,rfl⟩;go_wp21;refine u.mono ?_;rintro e w'⟨rfl,rfl⟩;go_wp21;refine CP.mono ?_;rintro e w3⟨rfl,L2,e2,g,T⟩
    try dsimp only at g
    rw[Zi]at g;have a7:=V g.aaC;have HP:Hid (Ow E L σ w A w3):=⟨L2,e2.trans E1,g,X.trans T⟩;have a6:=U.trans T;clear g;go_wp2;grind[Hid.out]
def Rel.agJ(h:Rel E L σ w):∃f a l,w.cell? ⟨E.bB,185,none⟩=some (.func f a l)/\Ask E.bm (.func f a l) rI w:=by
 have⟨v,hv,ha⟩:=h.env.aam;obtain⟨k,lb,rfl,_,_⟩:=ha.call;exact⟨_,_,_,h.low (by decide) hv,ha.fr' h.fr⟩
def Rel.Ij(h:Rel E L σ w):∃f a l,w.cell? ⟨E.bB,184,none⟩=some (.func f a l)/\Ask E.bm (.func f a l) iG w:=by
 have⟨v,hv,ha⟩:=h.env.spec;obtain⟨k,lb,rfl,_,_⟩:=ha.call;exact⟨_,_,_,h.low (by decide) hv,ha.fr' h.fr⟩
def Rel.bounds(h:Rel E L σ w):∃f a l,w.cell? ⟨E.bB,186,none⟩=some (.func f a l)/\Ask E.bm (.func f a l) dG w:=by
 have⟨v,hv,ha⟩:=h.env.ZK;obtain⟨k,lb,rfl,_,_⟩:=ha.call;exact⟨_,_,_,h.low (by decide) hv,ha.fr' h.fr⟩
theorem Jz(h:Rel E L σ w):
  Calls prog 282 #[Bp E] w λe w'=>e=nu/\To E L σ.gJ w w':=by
 have H0:Hid (Ow E L σ w σ.cC w):=V ⟨L,rfl,h,Fr.refl w⟩;have C:Hid (∀wr,(∃D,D.dk=L.dk/\Rel E D {σ with cC:=(σ.la rI σ.cC.reverse).reverse} wr/\Fr E.bs w wr)->To E L σ.gJ w wr):=by
  rintro wr⟨D,e1,g,F⟩;exact⟨D,e1,g,F⟩
 generalize hq:rI=q at C;have HQ:=V hq;clear hq;go_enter func282,ntmps282;go_wp2
 go_loopw [] (λwr=>∃ys,σ.la q ys.reverse=σ.la q σ.cC.reverse/\Ow E L σ w ys wr) (λwr=>zF ⟨E.bB,188,none⟩ wr)
 case atStart=>exact⟨_,rfl,H0⟩
 case round=>
  have⟨ys,hu,⟨D,E1,g,F⟩⟩:=hrel;have T:=V g.aaC;have⟨f1,a1,l1,c1,ha1⟩:=g.agJ;rw[HQ.out]at ha1;have B:=xU g _ _ ha1;rcases vA ys with rfl|⟨A,y,rfl⟩
  .have I:Hid (To E L σ.gJ w wr):=by
    refine C wr ⟨D,E1,?_,F⟩;have:(σ.la q σ.cC.reverse).reverse=[]:=by rw[<-hu];rfl
    rw[this];exact g
   have u:N.current {σ with cC:=[]} q=false:=rfl;rw[u]at B;have d:=V B;clear g hu B;go_wp21;refine d.mono ?_;rintro e w'⟨rfl,rfl⟩;go_wp2;go_end0;exact⟨rfl,I⟩
  .obtain⟨i,e0,rfl,hi⟩:=g.mO (x:=y) (by simp);have S:σ.la q ((A++[some i]).reverse)=if q (σ.nm i)=true then σ.la q A.reverse else some i::A.reverse:=by rw[Lb];rfl
   rw[S]at hu;have u:N.current {σ with cC:=A++[some i]} q=q (σ.nm i):=by unfold N.current N.last;rw[uK];rfl
   rw[u]at B;have d:=V B;have K:=V hu;have H:=F;have X:=Tf g;obtain⟨m,U⟩:∃m,m=(A++[some i]).length:=⟨_,rfl⟩;have HM:=V (show m=A.length+1 by rw[U];simp);dsimp only at T;rw[<-U]at T;cases hqq:q (σ.nm i)with
   |false=>
    rw[hqq]at d K;have I:Hid (To E L σ.gJ w wr):=by
     refine C wr ⟨D,E1,?_,F⟩;have:(σ.la q σ.cC.reverse).reverse=A++[some i]:=by rw[<-K.out];simp
     rw[this];exact g
    clear g hu B;go_wp21;refine d.mono ?_;rintro e w'⟨rfl,rfl⟩;go_wp2;go_end0;exact⟨rfl,I⟩
   |true=>
    rw[hqq]at d K;clear g hu B;go_wp21;refine d.mono ?_;rintro e w'⟨rfl,rfl⟩;go_wp21;refine X.mono ?_;rintro e w3⟨rfl,L2,e2,l,R⟩
    try dsimp only at l
    rw[Zi]at l;have a0:=V l.aaC;have HP:Hid (Ow E L σ w A w3):=⟨L2,e2.trans E1,l,H.trans R⟩;clear l;go_wp2;grind[Hid.out]
def RF(E:Env)(f:Nat->Nat)(σ:N)(w:J):Prop:=∃L,L.dk=f/\Rel E L σ w
def UU(n:Nat)(f g:Nat->Nat):Prop:=∀i,i<n->g i=f i
def Leaves{α:Type}(E:Env)(f:Nat->Nat)(n:Nat)(w:J)(r:nh α)(d:(Nat->Nat)->α->cY)(e:Ending)(w':J):Prop:=match r with
 | .ok a σ'=>∃g,UU n f g/\n<=σ'.nodes.length/\e=dw (d g a)/\RF E g σ' w'/\Fr E.bs w w'
 | .stop c p=>∃k,e=oR k/\ic w' k c p/\Fr E.bs w w'
 | .stuck=>False
def eP{α:Type}(E:Env)(k:Nat)(args:(Nat->Nat)->fN)(m:M α)(d:(Nat->Nat)->α->cY):Prop:=
 ∀f σ w,RF E f σ w->m σ≠ .stuck->Calls prog k (args f) w (Leaves E f σ.nodes.length w (m σ) d)
abbrev uV(_:Nat->Nat)(_:Unit):cY:=.tuple #[]
abbrev bV(_:Nat->Nat)(b:Bool):cY:=.bool b
abbrev nV(f:Nat->Nat)(i:Nat):cY:=cW (f i)
abbrev oV(f:Nat->Nat)(x:eG):cY:=ig (eM f x)
abbrev pV(f:Nat->Nat)(pl:Nat×Nat):cY:=.agg #[cW (f pl.1),G pl.2]
structure At(E:Env)(f0:Nat->Nat)(n0:Nat)(w0:J)(f:Nat->Nat)(σ:N)(w:J):Prop where
 rel:RF E f σ w
 ext:UU n0 f0 f
 le:n0<=σ.nodes.length
 fr:Fr E.bs w0 w
 hw:E.w0.heap.size<=w0.heap.size
def At.start(h:RF E f σ w):At E f σ.nodes.length w f σ w:=⟨h,λ_ _=>rfl,dr _,Fr.refl _,by have⟨L,_,hr⟩:=h;exact hr.fr.size⟩
theorem RF.dB(h:RF E f σ w)(d:Z [] w w'):RF E f σ w':=by have⟨L,e,hr⟩:=h;exact⟨L,e,hr.dB d⟩
def Zs:List TypeId:=[139,141,280,235,239,295,179,68,124,164]
theorem Rel.side(h:Rel E L σ w){c:fN}{T:TypeId}{m:Nat×Nat}(I:w.heap[b]?=some (.cells c T m))(H:∀t∈Zs,t≠T)(l:E.w0.heap.size<=b)(j:Nat)(u:cY):Rel E L σ (w.setCell ⟨b,j,none⟩ u):=by
 have g:KT E.bs [T] w (w.setCell ⟨b,j,none⟩ u):=.fS ((Z.refl [b] w).setCell (.inl (by simp)) u) (λk A _=>by grind[bz]);have d:∀t∈Zs,t∉[T]:=λt D=>by grind
 have⟨C,hbl,hC⟩:=h.du;exact {h with
  fr:=by
   have⟨S,A,hS⟩:=h.fr;exact⟨S,A.setCell (.inr l) u,hS⟩
  qH:=λi F B=>(h.qH i F B).kt g (λt D=>d t (by revert t;decide))
  du:=⟨C,g.at hbl (d _ (by decide)),hC⟩
  ng:=g.row h.ng (d _ (by decide))
  oh:=g.row h.oh (d _ (by decide))
  mY:=g.row h.mY (d _ (by decide))
  rd:=g.at h.rd (d _ (by decide))
  tok:=g.row h.tok (d _ (by decide))}
section
variable {α β:Type}{E:Env}{f0:Nat->Nat}{n0:Nat}{w0:J}{f:Nat->Nat}{σ:N}{w:J}
def At.side(h:At E f0 n0 w0 f σ w){b:Nat}{c:fN}{T:TypeId}{m:Nat×Nat}(l:w.heap[b]?=some (.cells c T m))(g:∀t∈Zs,t≠T)(d:w0.heap.size<=b)(j:Nat)(u:cY):At E f0 n0 w0 f σ (w.setCell ⟨b,j,none⟩ u):=by
 have⟨L,e,hr⟩:=h.rel;refine⟨⟨L,e,hr.side l g (fK h.hw d) j u⟩,h.ext,h.le,?_,h.hw⟩;have⟨S,hk,hS⟩:=h.fr;exact⟨S,hk.setCell (.inr d) u,hS⟩
def At.k0(h:At E f0 n0 w0 f σ w){w':J}(d:Z [] w w'):At E f0 n0 w0 f σ w':=⟨h.rel.dB d,h.ext,h.le,h.fr.trans (.df d),h.hw⟩
theorem At.to(h:At E f0 n0 w0 f σ w){σ':N}{w':J}(l:RF E f σ' w')(g:σ.nodes.length<=σ'.nodes.length)(d:Fr E.bs w w'):At E f0 n0 w0 f σ' w':=⟨l,h.ext,fK h.le g,h.fr.trans d,h.hw⟩
theorem At.go(h:At E f0 n0 w0 f σ w){g:Nat->Nat}{σ':N}{w':J}(A:RF E g σ' w')(B:UU σ.nodes.length f g)(u:σ.nodes.length<=σ'.nodes.length)(l:Fr E.bs w w'):At E f0 n0 w0 g σ' w':=
 ⟨A,λi d=>(B i (kL d h.le)).trans (h.ext i d),fK h.le u,h.fr.trans l,h.hw⟩
theorem cE{R:nh α}{a:α}{d:(Nat->Nat)->α->cY}(g:R=.ok a σ)(h:At E f0 n0 w0 f σ w){e:Ending}(l:e=dw (d f a)):Leaves E f0 n0 w0 R d e w:=by
 subst g;exact⟨f,h.ext,h.le,l,h.rel,h.fr⟩
theorem nk{R:nh α}{d:(Nat->Nat)->α->cY}{c p j:Nat}(g:R=.stop c p)(hs:ic w j c p)(h:Fr E.bs w0 w):Leaves E f0 n0 w0 R d (oR j) w:=by
 grind[Leaves]
theorem eP.call{k:Nat}{args:(Nat->Nat)->fN}{m:M α}{d:(Nat->Nat)->α->cY}(D:eP E k args m d)(H:At E f0 n0 w0 f σ w){R:nh β}{K:α->M β}(l:R=(m>>=K) σ)(hs:R≠ .stuck){A:fN}(hA:args f=A){Q:Ending->J->Prop}
  (B:∀c p j w',R=.stop c p->ic w' j c p->Fr E.bs w0 w'->Q (oR j) w')
  (I:∀a g σ' w',At E f0 n0 w0 g σ' w'->UU σ.nodes.length f g->Fr E.bs w w'->R=K a σ'->Q (dw (d g a)) w'):Calls prog k A w Q:=by
 rw[M.cH]at l;have h:=D f σ w H.rel (λe=>hs (by grind));rw[hA]at h;refine h.mono ?_;intro e w' u;cases hr:m σ with
 |ok a σ'=>
  rw[hr]at u l;obtain⟨g,S,C,rfl,T,U⟩:=u;grind[At.go]
 |stop c p=>
  rw[hr]at u l;obtain⟨j,rfl,C,F⟩:=u;exact B c p j w' l C (H.fr.trans F)
 |stuck=>grind
end
def gX{α:Type}(E:Env)(f:Nat->Nat)(n:Nat)(w:J)(r:nh α)(d:(Nat->Nat)->α->cY)(e:Ending)(w':J):Prop:=match r with
 | .ok a σ'=>e=dw (d f a)/\RF E f σ' w'/\Fr E.bs w w'/\n<=σ'.nodes.length
 | .stop c p=>∃j,e=oR j/\ic w' j c p/\Fr E.bs w w'
 | .stuck=>False
def gO{α:Type}(E:Env)(k:Nat)(args:(Nat->Nat)->fN)(m:M α)(d:(Nat->Nat)->α->cY):Prop:=
 ∀f σ w,RF E f σ w->m σ≠ .stuck->Calls prog k (args f) w (gX E f σ.nodes.length w (m σ) d)
section
variable {α β:Type}{E:Env}{f0:Nat->Nat}{n0:Nat}{w0:J}{f:Nat->Nat}{σ:N}{w:J}
theorem gO.call{k:Nat}{args:(Nat->Nat)->fN}{m:M α}{d:(Nat->Nat)->α->cY}(D:gO E k args m d)(H:At E f0 n0 w0 f σ w){R:nh β}{K:α->M β}(g:R=(m>>=K) σ)(hs:R≠ .stuck){A:fN}(hA:args f=A){Q:Ending->J->Prop}
  (u:∀c p j w',R=.stop c p->ic w' j c p->Fr E.bs w0 w'->Q (oR j) w')
  (F:∀a σ' w',At E f0 n0 w0 f σ' w'->Fr E.bs w w'->R=K a σ'->Q (dw (d f a)) w'):Calls prog k A w Q:=by
 rw[M.cH]at g;have h:=D f σ w H.rel (λe=>hs (by grind));rw[hA]at h;refine h.mono ?_;intro e w' l;cases hr:m σ with
 |ok a σ'=>
  rw[hr]at l g;obtain⟨rfl,I,S,T⟩:=l;grind[At.to]
 |stop c p=>
  rw[hr]at l g;obtain⟨j,rfl,B,C⟩:=l;exact u c p j w' g B (H.fr.trans C)
 |stuck=>grind
theorem alO{k:Nat}{m:M α}{d:(Nat->Nat)->α->cY}{A:fN}(C:m σ≠ .stuck->Calls prog k A w (gX E f σ.nodes.length w (m σ) d))(H:At E f0 n0 w0 f σ w){R:nh β}{K:α->M β}(g:R=(m>>=K) σ)(hs:R≠ .stuck){Q:Ending->J->Prop}
  (l:∀c p j w',R=.stop c p->ic w' j c p->Fr E.bs w0 w'->Q (oR j) w')
  (D:∀a σ' w',At E f0 n0 w0 f σ' w'->Fr E.bs w w'->R=K a σ'->Q (dw (d f a)) w'):Calls prog k A w Q:=by
 rw[M.cH]at g;refine(C (λe=>hs (by grind))).mono ?_;intro e w' h;cases hr:m σ with
 |ok a σ'=>
  rw[hr]at h g;obtain⟨rfl,F,I,S⟩:=h;grind[At.to]
 |stop c p=>
  rw[hr]at h g;obtain⟨j,rfl,u,B⟩:=h;exact l c p j w' g u (H.fr.trans B)
 |stuck=>grind
theorem alv{k:Nat}{m:M α}{d:(Nat->Nat)->α->cY}{A:fN}(C:m σ≠ .stuck->Calls prog k A w (Leaves E f σ.nodes.length w (m σ) d))(H:At E f0 n0 w0 f σ w){R:nh β}{K:α->M β}(h:R=(m>>=K) σ)(hs:R≠ .stuck){Q:Ending->J->Prop}
  (u:∀c p j w',R=.stop c p->ic w' j c p->Fr E.bs w0 w'->Q (oR j) w')
  (F:∀a g σ' w',At E f0 n0 w0 g σ' w'->UU σ.nodes.length f g->Fr E.bs w w'->R=K a σ'->Q (dw (d g a)) w'):Calls prog k A w Q:=by
 rw[M.cH]at h;refine(C (λe=>hs (by grind))).mono ?_;intro e w' l;cases hr:m σ with
 |ok a σ'=>
  rw[hr]at l h;obtain⟨g,I,B,rfl,S,T⟩:=l;grind[At.go]
 |stop c p=>
  rw[hr]at l h;obtain⟨j,rfl,B,D⟩:=l;exact u c p j w' h B (H.fr.trans D)
 |stuck=>grind
def gF{R:nh α}{a:α}{d:(Nat->Nat)->α->cY}(g:R=.ok a σ)(h:At E f n0 w0 f σ w){e:Ending}(l:e=dw (d f a)):gX E f n0 w0 R d e w:=by
 subst g;exact⟨l,h.rel,h.fr,h.le⟩
theorem sG{R:nh α}{d:(Nat->Nat)->α->cY}{c p j:Nat}(g:R=.stop c p)(hs:ic w j c p)(h:Fr E.bs w0 w):gX E f n0 w0 R d (oR j) w:=by
 grind[gX]
def dC{k:Nat}{args:(Nat->Nat)->fN}{m:M α}{d:(Nat->Nat)->α->cY}(D:eP E k args m d)(H:Hid (At E f0 n0 w0 f σ w)){R:nh β}{K:α->M β}(F:Hid (R=(m>>=K) σ))(hs:Hid (R≠ .stuck)){A:fN}(hA:args f=A){Q:Ending->J->Prop}
  (l:∀c p j w',Hid (R=.stop c p/\ic w' j c p/\Fr E.bs w0 w')->Q (oR j) w')
  (h:∀a g σ' w',Hid (At E f0 n0 w0 g σ' w')->Hid (UU σ.nodes.length f g)->Hid (Fr E.bs w w')->Hid (R=K a σ')->Q (dw (d g a)) w'):Calls prog k A w Q:=eP.call D H F hs hA (λc p j w' u B C=>l c p j w' ⟨u,B,C⟩) h
def mC{k:Nat}{args:(Nat->Nat)->fN}{m:M α}{d:(Nat->Nat)->α->cY}(D:gO E k args m d)(H:Hid (At E f0 n0 w0 f σ w)){R:nh β}{K:α->M β}(C:Hid (R=(m>>=K) σ))(hs:Hid (R≠ .stuck)){A:fN}(hA:args f=A){Q:Ending->J->Prop}
  (h:∀c p j w',Hid (R=.stop c p/\ic w' j c p/\Fr E.bs w0 w')->Q (oR j) w')
  (g:∀a σ' w',Hid (At E f0 n0 w0 f σ' w')->Hid (Fr E.bs w w')->Hid (R=K a σ')->Q (dw (d f a)) w'):Calls prog k A w Q:=gO.call D H C hs hA (λc p j w' l u B=>h c p j w' ⟨l,u,B⟩) g
def zI{k:Nat}{m:M α}{d:(Nat->Nat)->α->cY}{A:fN}(C:m σ≠ .stuck->Calls prog k A w (gX E f σ.nodes.length w (m σ) d))(H:Hid (At E f0 n0 w0 f σ w)){R:nh β}{K:α->M β}(D:Hid (R=(m>>=K) σ))(hs:Hid (R≠ .stuck)){Q:Ending->J->Prop}
  (h:∀c p j w',Hid (R=.stop c p/\ic w' j c p/\Fr E.bs w0 w')->Q (oR j) w')
  (g:∀a σ' w',Hid (At E f0 n0 w0 f σ' w')->Hid (Fr E.bs w w')->Hid (R=K a σ')->Q (dw (d f a)) w'):Calls prog k A w Q:=alO C H D hs (λc p j w' l u B=>h c p j w' ⟨l,u,B⟩) g
def dcH{k:Nat}{m:M α}{d:(Nat->Nat)->α->cY}{A:fN}(C:m σ≠ .stuck->Calls prog k A w (Leaves E f σ.nodes.length w (m σ) d))(H:Hid (At E f0 n0 w0 f σ w)){R:nh β}{K:α->M β}(F:Hid (R=(m>>=K) σ))(hs:Hid (R≠ .stuck)){Q:Ending->J->Prop}
  (l:∀c p j w',Hid (R=.stop c p/\ic w' j c p/\Fr E.bs w0 w')->Q (oR j) w')
  (h:∀a g σ' w',Hid (At E f0 n0 w0 g σ' w')->Hid (UU σ.nodes.length f g)->Hid (Fr E.bs w w')->Hid (R=K a σ')->Q (dw (d g a)) w'):Calls prog k A w Q:=alv C H F hs (λc p j w' u B D=>l c p j w' ⟨u,B,D⟩) h
def lS{R:nh α}{d:(Nat->Nat)->α->cY}{c p j:Nat}(h:Hid (R=.stop c p/\ic w j c p/\Fr E.bs w0 w)):Leaves E f0 n0 w0 R d (oR j) w:=nk h.1 h.2.1 h.2.2
def mS{R:nh α}{d:(Nat->Nat)->α->cY}{c p j:Nat}(h:Hid (R=.stop c p/\ic w j c p/\Fr E.bs w0 w)):gX E f n0 w0 R d (oR j) w:=sG h.1 h.2.1 h.2.2
def dI{k:Nat}{args:(Nat->Nat)->fN}{m:M α}{d:(Nat->Nat)->α->cY}(h:∀f σ w R,Hid (R=m σ)->Hid (R≠ .stuck)->Hid (At E f σ.nodes.length w f σ w)->Calls prog k (args f) w (Leaves E f σ.nodes.length w R d)):eP E k args m d:=λf σ w g l=>h f σ w _ rfl l (At.start g)
def mI{k:Nat}{args:(Nat->Nat)->fN}{m:M α}{d:(Nat->Nat)->α->cY}(h:∀f σ w R,Hid (R=m σ)->Hid (R≠ .stuck)->Hid (At E f σ.nodes.length w f σ w)->Calls prog k (args f) w (gX E f σ.nodes.length w R d)):gO E k args m d:=λf σ w g l=>h f σ w _ rfl l (At.start g)
end
def lT{α:Type}{β:Sort _}{x:β}{f0:Nat->Nat}{R:nh α}{d:(Nat->Nat)->α->cY}(c p j:Nat)(w:J)(h:Hid (R=.stop c p/\ic w j c p/\Fr E.bs w0 w)):x=x/\Leaves E f0 n0 w0 R d (oR j) w:=⟨rfl,lS h⟩
def mT{α:Type}{β:Sort _}{x:β}{R:nh α}{d:(Nat->Nat)->α->cY}(c p j:Nat)(w:J)(h:Hid (R=.stop c p/\ic w j c p/\Fr E.bs w0 w)):x=x/\gX E f n0 w0 R d (oR j) w:=⟨rfl,mS h⟩
def FW(E:Env)(i:Nat):gO E 93 (λf=>#[nV f i]) (eE i) pV:=by
 intro f σ w ⟨L,e,l⟩ d;subst e;unfold eE at d|-;cases he:σ.db i with
 |none=>rw[he]at d;exact absurd rfl d
 |some e=>
  refine(Uk l he).mono ?_;rintro u w'⟨rfl,g,h⟩;exact⟨rfl,⟨L,rfl,g⟩,.df h,dr _⟩
def DI(E:Env)(pl:Nat×Nat)(j:Nat):gO E 169 (λf=>#[pV f pl,.iface 68 (nV f j)]) (fY pl j) uV:=by
 intro f σ w ⟨L,e,A⟩ d;subst e;unfold fY at d|-;cases h1:σ.db pl.1 with
 |none=>rw[h1]at d;exact absurd rfl d
 |some ei=>
  cases h2:σ.db j with
  |none=>rw[h1,h2]at d;exact absurd rfl d
  |some ej=>
   simp only[h1,h2]at d|-;by_cases g:j≠pl.1/\pl.2<=ei.kids.length/\ei.kids.length<1048576;rw[dd g];refine(ae3 A h1 h2 g.1 g.2.1 g.2.2).mono ?_;rintro B w'⟨rfl,h,e1,l,u⟩;exact⟨rfl,⟨h,e1,l⟩,u,by simp[N.dh]⟩;rw[cZ g]at d;exact absurd rfl d
theorem WT(E:Env)(pl:Nat×Nat)(s:O):eP E 176 (λf=>#[pV f pl,Y s]) (mP pl s) uV:=by
 intro f σ w ⟨L,e,H⟩ d;subst e;unfold mP at d|-;cases h1:σ.db pl.1 with
 |none=>rw[h1]at d;exact absurd rfl d
 |some ei=>
  simp only[h1]at d|-;by_cases B:pl.2<=ei.kids.length/\ei.kids.length<1048576;rw[dd B]at d|-;have g:∀(I:∀m,(C:m<ei.kids.length)->pl.2=m+1->∀t,ei.kids[m]≠ .tx t),Calls prog 176 #[pV L.dk pl,Y s] w (Leaves E L.dk σ.nodes.length w (.ok () ((σ.add (.tx s)).dh pl.1 {ei with kids:=ins ei.kids pl.2 (.tx σ.nodes.length)})) uV):=by
   intro I;refine(KR H h1 B.1 B.2 I).mono ?_;rintro T w'⟨rfl,A,e1,D,F⟩;exact⟨A.dk,e1,by simp[N.dh,N.add],rfl,⟨A,rfl,D⟩,F⟩
  by_cases K:pl.2=0;simp only[dd K]at d|-;exact g λm C e=>by omega
  simp only[cZ K]at d|-;obtain⟨m,C⟩:∃m,pl.2=m+1:=⟨pl.2-1,by omega⟩;have u:m<ei.kids.length:=by omega
  have U:ei.kids[pl.2-1]?=some ei.kids[m]:=by rw[C,Nat.add_sub_cancel];exact pU u
  rw[U]at d|-;cases hk:ei.kids[m]with
  |tx t=>
   simp only[hk]at d|-;cases ht:σ.nodes[t]? with
   |none=>rw[ht]at d;exact absurd rfl d
   |some nd=>
    cases nd with
    |tx old=>
     simp only[ht]at d|-;by_cases h:old.size+s.size<=1048576;rw[dd h];have:=Hg H h1 u hk ht h;rw[<-C]at this;refine this.mono ?_;rintro T w'⟨rfl,A,e1,D,F⟩;exact⟨L.dk,λ_ _=>rfl,by simp[N.jN],rfl,⟨A,e1,D⟩,F⟩;rw[cZ h]at d;exact absurd rfl d
    |el e=>rw[ht]at d;exact absurd rfl d
    |cm e=>rw[ht]at d;exact absurd rfl d
    |dt e=>rw[ht]at d;exact absurd rfl d
  |el t=>exact g λR l e S=>by grind
  |cm t=>exact g λR l e S=>by grind
  |dt t=>exact g λR l e S=>by grind
  rw[cZ B]at d;exact absurd rfl d
def aer(E:Env):gO E 178 (λ_=>#[fR E.bB 188]) (λσ=> .ok σ.last σ.pop) oV:=by
 intro f σ w ⟨L,e,l⟩ A;subst e;refine(Tf l).mono ?_;rintro u w'⟨rfl,d,e1,g,h⟩;exact⟨rfl,⟨d,e1,g⟩,h,dr _⟩
theorem PW(E:Env)(x:eG):gO E 180 (λf=>#[Bp E,oV f x]) (kA x) uV:=by
 intro f σ w ⟨L,e,h⟩ A;subst e;have S:=h.low (j:=0) (by decide) h.Dz.1;have⟨_,_,_,hd,_,_⟩:=h.Dz;have R:=h.vu;have l:=(λq=>aee (h.drewN q));unfold kA at A|-;by_cases u:σ.nB<=σ.cC.length
 .rw[dd u];have g:=(λq=>Qn (h.drewN q) 5);go_enter func180,ntmps180;go_wp21
  go_quiet ((go_at_call 263;exact Lc (l _)))
  go_wp21;refine(g nq).mono ?_;rintro e w'⟨k,rfl,B,I⟩;have C:=(Fr.drewN w nq).trans I;go_wp2;exact⟨rfl,k,rfl,B,C⟩
 .rw[cZ u]at A|-;have d:σ.jw x=true:=by
   by_cases d:σ.jw x=true;exact d;grind
  rw[dd d];have g:=(λq=>akk (h.drewN q) x d (by omega));go_enter func180,ntmps180;go_wp21
  go_quiet ((go_at_call 263;exact Lc (l _)))
  go_wp21;refine(g nq).mono ?_;rintro e w'⟨rfl,H,e1,F,K⟩;have D:=(Fr.drewN w nq).trans K;go_wp2;go_end0;exact⟨rfl,⟨H,e1,F⟩,D,dr _⟩
section
variable {E:Env}{f0:Nat->Nat}{n0:Nat}{w0:J}{f:Nat->Nat}{σ:N}{w:J}
theorem At.lt(h:At E f0 n0 w0 f σ w):E.bB<w.heap.size:=by have⟨L,_,hr⟩:=h.rel;exact hr.lt
def At.free(h:At E f0 n0 w0 f σ w)(j:Nat):w.frozen? ⟨E.bB,j,none⟩=false:=by have⟨L,_,hr⟩:=h.rel;exact hr.free j
def At.ZN(h:At E f0 n0 w0 f σ w):w.cell? ⟨E.bB,190,none⟩=some (oV f σ.head):=by obtain⟨L,rfl,d⟩:=h.rel;exact d.ZN
def At.Vd(h:At E f0 n0 w0 f σ w):w.cell? ⟨E.bB,191,none⟩=some (oV f σ.form):=by obtain⟨L,rfl,d⟩:=h.rel;exact d.Vd
def At.pK(h:At E f0 n0 w0 f σ w):w.cell? ⟨E.bB,192,none⟩=some (G σ.mode):=by obtain⟨L,rfl,d⟩:=h.rel;exact d.pK
def At.Ve(h:At E f0 n0 w0 f σ w):w.cell? ⟨E.bB,193,none⟩=some (G σ.kept):=by obtain⟨L,rfl,d⟩:=h.rel;exact d.Ve
def At.acw(h:At E f0 n0 w0 f σ w):w.cell? ⟨E.bB,195,none⟩=some (.bool σ.dv):=by obtain⟨L,rfl,d⟩:=h.rel;exact d.acw
def At.acx(h:At E f0 n0 w0 f σ w):w.cell? ⟨E.bB,196,none⟩=some (.bool σ.fJ):=by obtain⟨L,rfl,d⟩:=h.rel;exact d.acx
def At.Vf(h:At E f0 n0 w0 f σ w):w.cell? ⟨E.bB,197,none⟩=some (G σ.dk):=by obtain⟨L,rfl,d⟩:=h.rel;exact d.Vf
def At.acy(h:At E f0 n0 w0 f σ w):w.cell? ⟨E.bB,198,none⟩=some (.bool σ.behind):=by obtain⟨L,rfl,d⟩:=h.rel;exact d.acy
def At.LS(h:At E f0 n0 w0 f σ w)(j:Nat)(u:cY):Fr E.bs w (w.setCell ⟨E.bB,j,none⟩ u):=by
 have⟨L,_,hr⟩:=h.rel;have⟨C,hb⟩:=hr.acm;exact .fS ((Z.refl [E.bB] w).setCell (.inl (by simp)) u) (λk d=>by simp at d;subst d;exact⟨⟨_,_,_,hb,by decide⟩,hr.bB⟩)
def At.xk(h:At E f0 n0 w0 f σ w)(x:eG)(l:σ.de x=true):At E f0 n0 w0 f {σ with head:=x} (w.setCell ⟨E.bB,190,none⟩ (oV f x)):=by
 have d:=h.LS 190 (oV f x);obtain⟨L,rfl,g⟩:=h.rel;exact h.to ⟨L,rfl,g.xk x l⟩ (dr _) d
def At.tm(h:At E f0 n0 w0 f σ w)(x:eG)(l:σ.de x=true):At E f0 n0 w0 f {σ with form:=x} (w.setCell ⟨E.bB,191,none⟩ (oV f x)):=by
 have d:=h.LS 191 (oV f x);obtain⟨L,rfl,g⟩:=h.rel;exact h.to ⟨L,rfl,g.tm x l⟩ (dr _) d
def At.eV(h:At E f0 n0 w0 f σ w)(x:Nat):At E f0 n0 w0 f {σ with mode:=x} (w.setCell ⟨E.bB,192,none⟩ (G x)):=by
 obtain⟨L,rfl,d⟩:=h.rel;exact h.to ⟨L,rfl,d.eV x⟩ (dr _) (h.LS 192 _)
def At.xl(h:At E f0 n0 w0 f σ w)(x:Nat):At E f0 n0 w0 f {σ with kept:=x} (w.setCell ⟨E.bB,193,none⟩ (G x)):=by
 obtain⟨L,rfl,d⟩:=h.rel;exact h.to ⟨L,rfl,d.xl x⟩ (dr _) (h.LS 193 _)
def At.xj(h:At E f0 n0 w0 f σ w)(x:Bool):At E f0 n0 w0 f {σ with dv:=x} (w.setCell ⟨E.bB,195,none⟩ (.bool x)):=by
 obtain⟨L,rfl,d⟩:=h.rel;exact h.to ⟨L,rfl,d.xj x⟩ (dr _) (h.LS 195 _)
def At.oQ(h:At E f0 n0 w0 f σ w)(x:Bool):At E f0 n0 w0 f {σ with fJ:=x} (w.setCell ⟨E.bB,196,none⟩ (.bool x)):=by
 obtain⟨L,rfl,d⟩:=h.rel;exact h.to ⟨L,rfl,d.oQ x⟩ (dr _) (h.LS 196 _)
def At.B8(h:At E f0 n0 w0 f σ w)(x:Nat):At E f0 n0 w0 f {σ with dk:=x} (w.setCell ⟨E.bB,197,none⟩ (G x)):=by
 obtain⟨L,rfl,d⟩:=h.rel;exact h.to ⟨L,rfl,d.B8 x⟩ (dr _) (h.LS 197 _)
def At.qw(h:At E f0 n0 w0 f σ w)(x:Bool):At E f0 n0 w0 f {σ with behind:=x} (w.setCell ⟨E.bB,198,none⟩ (.bool x)):=by
 obtain⟨L,rfl,d⟩:=h.rel;exact h.to ⟨L,rfl,d.qw x⟩ (dr _) (h.LS 198 _)
def GV(f:Nat->Nat)(n k:Nat):Nat->Nat:=λi=>if i<n then f i else k+(i-n)
def akW(f:Nat->Nat)(n k:Nat):GV f n k n=k:=by simp[GV]
def Sg(f:Nat->Nat)(n k:Nat):UU n f (GV f n k):=λi d=>dd d
def At.wg(h:At E f0 n0 w0 f σ w)(d:O):At E f0 n0 w0 (GV f σ.nodes.length w.heap.size) (σ.add (.el {name:=d,di:=[],ff:=none,kids:=[]})) (w.alloc (cV #[Y d,gq,.pointer none,gq] 139)):=by
 obtain⟨L,rfl,g⟩:=h.rel;exact h.go ⟨_,rfl,g.wg d⟩ (Sg _ _ _) (by simp[N.add]) (.df ((Z.refl _ _).alloc _))
theorem At.fG(h:At E f0 n0 w0 f σ w)(g:σ.fresh=true)(d:O):At E f0 n0 w0 (GV f σ.nodes.length w.heap.size) (σ.ny (.el {name:=d,di:=E.ta,ff:=none,kids:=[]}) false) (w.alloc (cV #[Y d,E.tv,.pointer none,gq] 139)):=by
 obtain⟨L,rfl,l⟩:=h.rel;exact h.go ⟨_,rfl,l.fG g d⟩ (Sg _ _ _) (by simp[N.ny]) (.df ((Z.refl _ _).alloc _))
end
def dJ(E:Env)(t:cR):cY:=match t.k with
 | .gz s=> .iface 187 (.agg #[G t.a,G t.b,Y s])
 | .start n=> .iface 195 (.agg #[G t.a,G t.b,Y n,E.tv])
 | .stop n=> .iface 196 (.agg #[G t.a,G t.b,Y n,E.tv])
 | .dl s=> .iface 197 (.agg #[G t.a,G t.b,Y s])
 | .dK n q=> .iface 199 (.agg #[G t.a,G t.b,Y n,.bool q])
 | .lost=> .iface 189 (.agg #[G t.a,G t.b])
 | .dD=> .iface 185 (.agg #[G t.a,G t.b])
def eY(E:Env)(t:cR):Prop:=t.nj=true->t.di=E.ta
def oS{X:TypeId}{d:Array Field}(g:prog.underlying X=some (.struct d))(v:cY)(h:TypeId)(w:J):(Instr.typeAssert (.iface X v) h X true).run prog w=.ok (.tuple #[v,.bool true]) w:=by
 simp[Instr.typeAssert,qP g]
def KS{X T:TypeId}{h:Array Field}{z:cY}(l:prog.underlying X=some (.struct h))(g:(prog.info? X).bind (·.zero)=some z)(d:T≠X)(v:cY)(u:TypeId)(w:J):(Instr.typeAssert (.iface T v) u X true).run prog w=.ok (.tuple #[z,.bool false]) w:=by
 have⟨i,hi,g⟩:=Option.bind_eq_some_iff.1 g;simp[Instr.typeAssert,qP l,d,zeroValue,typeInfo,hi,g]
def tH(T:TypeId)(h:T≠187)(v:cY)(d:TypeId)(w:J):(Instr.typeAssert (.iface T v) d 187 true).run prog w=.ok (.tuple #[.agg #[G 0,G 0,Y gU],.bool false]) w:=KS underlying187 (rfl) h v d w
def qG(T:TypeId)(h:T≠197)(v:cY)(d:TypeId)(w:J):(Instr.typeAssert (.iface T v) d 197 true).run prog w=.ok (.tuple #[.agg #[G 0,G 0,Y gU],.bool false]) w:=KS underlying197 (rfl) h v d w
def oN(T:TypeId)(h:T≠195)(v:cY)(d:TypeId)(w:J):(Instr.typeAssert (.iface T v) d 195 true).run prog w=.ok (.tuple #[.agg #[G 0,G 0,Y gU,gq],.bool false]) w:=KS underlying195 (rfl) h v d w
def xa(T:TypeId)(h:T≠196)(v:cY)(d:TypeId)(w:J):(Instr.typeAssert (.iface T v) d 196 true).run prog w=.ok (.tuple #[.agg #[G 0,G 0,Y gU,gq],.bool false]) w:=KS underlying196 (rfl) h v d w
def uO(T:TypeId)(h:T≠199)(v:cY)(d:TypeId)(w:J):(Instr.typeAssert (.iface T v) d 199 true).run prog w=.ok (.tuple #[.agg #[G 0,G 0,Y gU,.bool false],.bool false]) w:=KS underlying199 (rfl) h v d w
def akd(T:TypeId)(h:T≠189)(v:cY)(d:TypeId)(w:J):(Instr.typeAssert (.iface T v) d 189 true).run prog w=.ok (.tuple #[.agg #[G 0,G 0],.bool false]) w:=KS underlying189 (rfl) h v d w
def yv(E:Env)(t:cR):fN:=match t.k with
 | .start n=>#[G t.a,G t.b,Y n,E.tv]
 | .stop n=>#[G t.a,G t.b,Y n,E.tv]
 |_=>#[G 0,G 0,Y gU,gq]
def xQ(E:Env)(t:cR)(w:J):
  Calls prog 88 #[dJ E t] w λe w'=>e=dw (Y t.chars)/\Z [] w w':=by
 obtain⟨a,b,k,cU⟩:=t;have d:=oS underlying187;have g:=tH;cases k
 all_goals
  simp only[dJ,cR.chars];go_enter func88,ntmps88;go_wp2;go_ret;exact⟨rfl,(Z.refl _ _).alloc _⟩
def xr(E:Env)(t:cR)(w:J)(l:∃d n g,E.tv=.slice d n g):
  Calls prog 171 #[dJ E t] w λe w'=>e=dw (.agg (yv E t))/\Z [] w w':=by
 have⟨a,b,k,cU⟩:=t;obtain⟨d,n,g,h⟩:=l;have u:=oS underlying195;have A:=oS underlying196;have B:=oN;have C:=xa;cases k
 all_goals
  simp only[dJ,yv,h];go_enter func171,ntmps171;go_wp2
  first
  |refine nr (v:=.agg #[G 0,G 0,Y gU,gq]) ?_ rfl ⟨rfl,(Z.refl _ _).alloc _⟩
  |refine nr (v:=.agg #[G a,G b,Y _,.slice d n g]) ?_ rfl ⟨rfl,((Z.refl _ _).alloc _).alloc _⟩
  simp[results,results171,asAddr,Result.andThen,go_sem]
theorem JH(E:Env)(t:cR)(w:J):
  Calls prog 183 #[dJ E t] w λe w'=>e=dw (.bool (rD t.chars))/\Z [] w w':=by
 go_enter func183,ntmps183;go_wp21;refine(xQ E t w).mono ?_;rintro e w'⟨rfl,d⟩;go_wp2;go_ret;refine⟨?_,d⟩;show Ending.returned (.bool (t.chars.toList==[0]))=_;grind[ByteArray.toList_mk,rD,ir]
def acp(c:UInt8):decide (0<=Lib.indexByte [32,9,10,12] c)=jn ⟨#[c]⟩:=by
 unfold jn da ir;simp;by_cases d:c=32;subst d;rfl;by_cases g:c=9;subst g;rfl;by_cases h:c=10;subst h;rfl;by_cases l:c=12;subst l;rfl;simp[Lib.indexByte,d,g,h,l,wj]
theorem JD(s:O)(w:J):
  Calls prog 291 #[Y s] w λe w'=>e=dw (.bool (jn s))/\Z [] w w':=by
 by_cases g:s.size=1
 .obtain⟨c,rfl⟩:∃c,s=⟨#[c]⟩:=by
   have⟨d⟩:=s;have C:d.size=1:=g;grind[Array.size_eq_one_iff]
  have l:=(λw=>Tryz.strings_Contains_one kU c w);have u:=V (acp c);go_enter func291,ntmps291;go_wp21;refine(l _).mono ?_;rintro e w'⟨rfl,rfl⟩;go_wp2;go_ret;exact⟨by rw[<-u.out];rfl,Z.refl _ _⟩
 .have B:jn s=false:=by
   unfold jn da;simp;have A:∀c:UInt8,ir s ⟨#[c]⟩=false:=by
    intro c;rw[Bool.eq_false_iff];intro h;rw[rp]at h;subst h;exact g rfl
   simp[A]
  rw[B];go_enter func291,ntmps291;go_wp2;go_ret;exact⟨rfl,Z.refl _ _⟩
attribute [local go_sem] Oper.semAt_some
theorem ya{f:eG->eG}(d:∀x y,f x=f y->x=y):∀{xs ys:gZ},xs.map f=ys.map f->xs=ys
 |[],[],_=>rfl
 |[],_::_,h=>by grind
 |_::_,[],h=>by grind
 |x::xs,y::ys,h=>by
  simp at h;rw[d x y h.1,ya d h.2]
theorem WO{f:eG->eG}(g:∀x y,f x=f y->x=y){d:gZ}(h:d.map f <+:ys.map f):d <+:ys:=by
 have⟨t,ht⟩:=h;have l:d.length<=ys.length:=by have:=oX List.length ht;simp at this;omega
 have e:d.map f=(ys.take d.length).map f:=by
  rw[Zh,<-ht];simp
 grind[ya,List.take_append_drop]
def Ib(o:Oper):Bool:=match o.op with
 | .defer _=>false
 |_=>true
theorem PJ{o:Oper}(h:Ib o=true):∀c,o.op≠ .defer c:=by
 grind[Ib]
section
variable {n:Nat}{P:Program}{ops:Array Oper}{Q:Exit->Act->J->Prop}{md:Region.Mode}
def MG(l:Nat)(D:∀(i:Nat)o,ops[i]?=some o->Ib o=true):∀g d a w,wpAnyIn Fence.wide n P md ops Q g d a w->wpAnyIn (Fence.wide.inRound l) n P md ops Q g d a w:=by
 intro g
 induction g with
 |zero=>exact λd a w h=>h
 |succ g ih=>
  intro d a w h;refine⟨h.1,λi F=>?_⟩;have u:=h.2 i F;unfold wpOpIn at u|-;cases ho:ops[i]? with
  |none=>rw[ho]at u;exact ih _ _ _ u
  |some o=>
   rw[ho]at u;simp only at u|-;split
   .rename_i A;rw[dd A]at u;have B:=Oper.wpIn_mono (λa w h=>ih _ a w h) u;refine⟨B.1,?_⟩;have C:=B.2;have e1:o.semAt (Fence.wide.inRound l).round a.eval=execOp a.eval o:=Fv l a.eval o (PJ (D i o ho));have e2:o.semAt Fence.wide.round a.eval=execOp a.eval o:=rfl;rw[e1]
    rwa [e2]at C
   rename_i A;rw[cZ A]at u;exact⟨u.1,ih _ _ _ u.2⟩
theorem zP{id:Nat}{a:Act}{w:J}{l:List Oper}(L:Nat)(A:P.follows .mixedOrders=true)(u:Region.lexB .any l.toArray=true)(B:l.all Ib=true)
  (h:wpQuietIn Fence.wide n P l.toArray (λw'=>∃n,w'=w.drewN n) (λd=>∀w',(∃n,w'=w.drewN n)->Q .normal d w') l a):(Code.region id l.toArray true).wpIn (Fence.wide.inRound L) n P Q a w:=by
 simp[Region.lexB]at u;refine wpIn_region_any A (MG L ?_ _ _ _ _ (wpAnyIn_of_quiet (Q:=λd=>∀w',(∃n,w'=w.drewN n)->Q .normal d w') rfl (λ_ w' g h=>h w' g) _ _ _ _ ⟨1,rfl⟩ ?_));grind
 .have:=wpAnyQIn_lex (md:=.any) u.1 l.toArray.toList 0 (Array.replicate l.toArray.size false) a (by simp) (by grind) (by simpa using h)
  simpa using this
end
attribute [local go_sem] Oper.semAt_some
def aie(T h:List Nat)(I:gZ->J->Prop)(g:Code->gZ->J->Prop)(d:gZ)(W:J):Exit->Act->J->Prop
 | .normal,_,W'=>Z T W W'/\I d W'
 | .ret,_,W'=>Z h W W'/\g .ret d W'
 | .exit id,_,W'=>Z h W W'/\g (.exit id) d W'
 | .goto t,_,W'=>Z h W W'/\g (.goto t) d W'
 | .panic _,_,_=>False
 | .outgrown,_,_=>False
theorem D7{n:Nat}(hn:3<=n){base b j:Nat}{tB:TypeId}{C:fN}{v:cY}{f:eG->eG}(hf:∀x y,f x=f y->x=y){ys:gZ}{w1:J}(hL:uX base b j tB C v (ys.map f) w1)
  {g:Operand} {p:Tmp} {F a2:Code} {Q:Exit->Act->J->Prop} {a:Act} (hg:a.eval g=tr w1.heap.size)
  (T Tx:List Nat) (hT:∀k∈T,k<w1.heap.size/\k≠b/\v.ownBlock≠some k) (ah:∀k∈Tx,k<w1.heap.size)
  (I:gZ->J->Prop) (Ix:Code->gZ->J->Prop)
  (hI:OwnFrom (w1.heap.size+2) I) (aa:∀c,OwnFrom (w1.heap.size+2) (Ix c)) (h0:I [] (jR b j ys.length w1)) (U:eG->Act)
  (X:∀(l:Nat)(x:eG)(W:J)(K:Act->J->Prop),K (U x) W->
   F.wpIn (Fence.wide.inRound l) (n-1-1) prog (Exit.then K (λ_ _ _=>False)) {tmps:=a.tmps.setIfInBounds p (ig x),defers:=[]} W)
  (a4:∀(l:Nat)(pre:gZ)(y:eG)(W:J),y∈ys->I pre W->a2.wpIn (Fence.wide.inRound l) (n-1-1) prog (aie T Tx I Ix (pre++[y]) W) (U (f y)) W)
  (ae:∀(D:Nat)(W:J),w1.heap.size+2<=D->I ys.reverse W->W.heap[D]?=some (.deferred (some []))->Q .normal {a with defers:={target:=.collected D,args:=#[]}::a.defers} W)
  (a6:∀(D:Nat)(c:Code)(pre:gZ)(W:J),w1.heap.size+2<=D->pre <+:ys.reverse->Ix c pre W->W.heap[D]?=some (.deferred (some []))->c.wpIn Fence.wide n prog Q {a with defers:={target:=.collected D,args:=#[]}::a.defers} W):
  (Code.rangeFunc g #[p] F a2).wpIn Fence.wide n prog Q a (jR b j ys.length w1):=by
 have R:(jR b j ys.length w1).heap.size=w1.heap.size+2:=by simp
 have ad:=eS hL.du;have af:Z [] w1 (jR b j ys.length w1):=((Z.refl _ _).alloc _).alloc _;have ac:uX base b j tB C v (ys.map f) (jR b j ys.length w1):=hL.EP (ib.fS (K:=b::v.ownBlock.toList) af (λk d=>⟨by
  rcases List.mem_cons.1 d with rfl|d;exact ad;exact(hL.row.lt k (by grind)).2,by simp⟩)) (by simp) (λk d=>by simp[d])
 have⟨b0,b1⟩:=(⟨(Below.heap_alloc _ _ _ (by simp)).trans (aY w1 _),by
   grind[aY]⟩:(jR b j ys.length w1).heap[w1.heap.size]?=some (cV #[fR b j] 276)/\(jR b j ys.length w1).heap[w1.heap.size+1]?=some (cV #[G ys.length] 3))
 obtain⟨K,hK⟩:∃K,K=b::w1.heap.size::v.ownBlock.toList:=⟨_,rfl⟩;have a8:∀k∈K,k<w1.heap.size+2:=by
  intro k d;rw[hK]at d;rcases List.mem_cons.1 d with rfl|d;omega;rcases List.mem_cons.1 d with rfl|d;omega;have:=(hL.row.lt k (by grind)).2;omega
 have ab:∀k∈K,k∉T:=by
  intro k d a5;have⟨t1,t2,t3⟩:=hT k a5;rw[hK]at d;rcases List.mem_cons.1 d with rfl|d;omega;grind
 have ag:=UB (n-1) (by omega) base b j tB C v (ys.map f) ys.length w1.heap.size K _ ac (by simp) (by rw[hK];simp) (by rw[hK];simp) (by grind) (by simp) b1 b0;refine wpIn_rangeFunc_ownG rfl (by omega) (gf:=351) hg trivial (Go.Proofs.enters_of func351 (by rfl) rfl) ag ib.trans (λW l o o' hl H h2 h3=>ib.put (w:=jR b j ys.length w1) (by grind) W l o o' hl H h2 h3) (Below.refl _ _) (λ_=>rfl)
  (λpre W=>w1.heap.size+2<=W.heap.size/\∃h,pre.map (·.1)=h.map f/\I h W) (λc pre W=>∃h,pre.map (·.1)=h.map f/\Ix c h W) ?_ ?_ ?_ (λx=>U x.1) ?_ ?_ ?_ ?_
 rintro s A B a7⟨hs,h,H,h2⟩ a1 hr;rw[R]at hr;exact⟨fK hs a1.size,h,H,hI h A B a7 h2 a1 hr⟩;rintro c s A B a7⟨h,H,h2⟩ a1 hr;rw[R]at hr;exact⟨h,H,aa c h A B a7 h2 a1 hr⟩;grind;intro l x W K' a0;have:=X l x.1 W K' a0;have e:(#[p].zip #[ig x.1]).foldl (λt (p,v)=>t.setIfInBounds p v) a.tmps=a.tmps.setIfInBounds p (ig x.1):=by simp
 rw[e];exact this
 .rintro l pre⟨x,hx⟩ W⟨hs,h,H,h2⟩ _;obtain⟨y,hy,rfl⟩:=List.mem_map.1 hx;refine akP (a4 l h y W hy h2) ?_;have a9:∀{W':J},Z T W W'->KeepsFrom (jR b j ys.length w1).heap.size W W':=by
   intro W' d;refine⟨d.size,λk o a3 ho _=>?_⟩;rw[R]at a3;rw[d.block k (Array.getElem?_eq_some_iff.1 ho).1 (λa5=>by grind)];exact ho
  have u:∀{W':J},Z Tx W W'->KeepsFrom (jR b j ys.length w1).heap.size W W':=by
   intro W' d;refine⟨d.size,λk o a3 ho _=>?_⟩;rw[R]at a3;rw[d.block k (Array.getElem?_eq_some_iff.1 ho).1 (λa5=>by grind)];exact ho
  intro e a' W' S;cases e with
  |normal=>exact⟨a9 S.1,ib.fS S.1 (λk d=>⟨kL (a8 k d) hs,ab k d⟩),fK hs S.1.size,_,(by rw[lV,H];simp),S.2⟩
  |ret=>exact⟨u S.1,_,(by rw[lV,H];simp),S.2⟩
  |exit id=>exact⟨u S.1,_,(by rw[lV,H];simp),S.2⟩
  |goto t=>exact⟨u S.1,_,(by rw[lV,H];simp),S.2⟩
  |panic _=>exact S
  |outgrown=>exact S
 rintro D xs W hD hS⟨_,h,H,h2⟩ a0;rw[R]at hD;rw[H,Ag (by simp),<-yR]at hS;grind[ya];rintro D c pre W hD hS⟨h,H,h2⟩ a0;rw[R]at hD;rw[H,Ag (by simp),<-yR]at hS;exact a6 D c h W hD (WO hf hS) h2 a0
def Zd:=λ{n:Nat} (H:3<=n) {h b j I C v} {f:eG->eG} B {ys K} A {g p d l Q a} D T u=>@D7 n H h b j I C v f B ys K A g p d l Q a D T T u (λk F=>(u k F).1)
attribute [local go_sem] Oper.semAt_some
theorem Kz:∀{xs:gZ},(∀y∈xs,p (σ.jg y)=false/\q (σ.jg y)=false)->σ.tL p q xs=false
 |[],_=>rfl
 |x::xs,h=>by
  unfold N.tL;have⟨h1,h2⟩:=h x (by simp);rw[h1,h2];exact Kz λy d=>h y (by grind)
theorem KD{r:Bool}(d:(p (σ.jg y)=true/\r=true)\/(p (σ.jg y)=false/\q (σ.jg y)=true/\r=false)):∀{xs:gZ},(∀y∈xs,p (σ.jg y)=false/\q (σ.jg y)=false)->σ.tL p q (xs++[y]++rest)=r
 |[],_=>by
  grind[N.tL]
 |x::xs,h=>by
  show σ.tL p q (x::(xs++[y]++rest))=r;unfold N.tL;have⟨h1,h2⟩:=h x (by simp);rw[h1,h2];exact KD d λy g=>h y (by grind)
theorem Z.take(h:Z [] w W){D:Nat}(d:w.heap.size<=D)(o:Obj):Z [] w (W.putObj D o):=h.grown (wH W D o) (λk e=>by grind)
theorem iE{A B:J}{d:eG}{o:Obj}(h:A.heap[k]?=some o)(g:A.grownBy B d)(u:∀r,d=some r->n<=r/\∃o:Obj,A.heap[r]?=some o/\o.isCells=false)(l:k<n):B.heap[k]?=some o:=by
 grind[World.grownBy.block]
theorem jG{A B:J}{d:eG}(h:Z [] w A)(g:A.grownBy B d)(u:∀r,d=some r->n<=r/\∃o:Obj,A.heap[r]?=some o/\o.isCells=false)(l:w.heap.size<=n):Z [] w B:=h.grown g (λk e=> .inr (by grind))
theorem uJ(h:RF E f σ w)(p q:O->Bool)(vs vb:cY)(hs:Ask E.bm vs p w)(hb:Ask E.bm vb q w):
  Calls prog 232 #[Bp E,vs,vb] w λe w'=>e=dw (.bool (σ.inScope p q))/\Z [] w w':=by
 obtain⟨L,rfl,H⟩:=h;obtain⟨k1,u,rfl,a8,H1⟩:=hs.call;obtain⟨k2,I,rfl,a9,H2⟩:=hb.call;refine(vF (n:=3)).1 ?_;refine vG func232 rfl trivial ?_ rfl;simp only[ntmps232,vI,sg,tX,Nat.reduceAdd,Nat.reduceSub,vJ,vK,vL,vM,tw,oW];obtain⟨U,R⟩:∃U,U=((w.alloc (cV #[.func (.func k1) #[] u] 88)).alloc (cV #[.func (.func k2) #[] I] 88)).alloc (cV #[.bool false] 4):=⟨_,rfl⟩;have a3:Z [] w U:=by rw[R];exact(((Z.refl _ _).alloc _).alloc _).alloc _
 have⟨b0,b1,b2⟩:=nK w (cV #[.func (.func k1) #[] u] 88) (cV #[.func (.func k2) #[] I] 88) (cV #[.bool false] 4);rw[<-R]at b0 b1 b2;have d:U.heap.size=w.heap.size+1+1+1:=by rw[R];simp
 have a5:=H.dB a3;have⟨C,HL,hC⟩:=a5.x9;have aa:=H.lt;have HU:=aaA E.bs E.bB 188 _ C _ _ U HL;have HO:=(λg (hg:L.ov.ownBlock=some g)=>BV H.ng hg);have HN:=V (λ(W:J) (T:Z [] w W) (i:Nat) (e:sZ) (hi:σ.db i=some e)=>(H.dB T).tI hi);have HS:=(λ(y:eG) (S:y∈σ.cC)=>H.mO S);have HI:=V H.inj;clear H a5 hC hs hb
 gi_wp2_with (refine⟨trivial,?_⟩;gi_at_call 288;rw[<-R];refine(callsIn_wide.2 HU).mono ?_;rintro e w'⟨rfl,rfl⟩)
 rw[<-d,<-R];have HZ:=V d;clear d R;refine Zd (by omega) (f:=eM L.dk) (λx y e=>pP HI.out e) HL rfl [w.heap.size+1+1] ?_
  (λpre W=>Z [] w W/\W.heap[w.heap.size]?=some (cV #[.func (.func k1) #[] u] 88)/\W.heap[w.heap.size+1]?=some (cV #[.func (.func k2) #[] I] 88)/\W.heap[w.heap.size+1+1]?=some (cV #[.bool false] 4)/\∀y∈pre,p (σ.jg y)=false/\q (σ.jg y)=false)
  (λc pre W=>c=.ret/\Z [] w W/\∃F y r,pre=F++[y]/\(∀y∈F,p (σ.jg y)=false/\q (σ.jg y)=false)/\((p (σ.jg y)=true/\r=true)\/(p (σ.jg y)=false/\q (σ.jg y)=true/\r=false))/\W.heap[w.heap.size+1+1]?=some (cV #[.bool r] 4))
  ?_ ?_ ?_ (λx=>{tmps:=#[Bp E,.func (.func k1) #[] u,.func (.func k2) #[] I,undef,cW w.heap.size,cW (w.heap.size+1),cW (w.heap.size+1+1),ig x,Bp E,cW E.bB,fR E.bB 188,tr U.heap.size,ig x,undef,undef,undef,undef,undef,undef,undef,undef,undef,undef,undef,undef,undef,undef],defers:=[]}) ?assign ?body ?done ?stop
 grind;rintro s A B a7⟨h1,h2,h3,h4,h5⟩ hg H;have d:=HZ.out;exact⟨jG h1 hg H (by omega),iE h2 hg H (by omega),iE h3 hg H (by omega),iE h4 hg H (by omega),h5⟩;rintro c s A B a7⟨h0,h1,F,y,r,h2,h3,h4,h5⟩ hg H;have d:=HZ.out;exact⟨h0,jG h1 hg H (by omega),F,y,r,h2,h3,h4,iE h5 hg H (by omega)⟩;have T:Z [] U (jR E.bB 188 (σ.cC.length) U):=((Z.refl _ _).alloc _).alloc _;exact⟨a3.trans T,T.at b0 (by simp),T.at b1 (by simp),T.at b2 (by simp),by simp⟩
 case assign=>
  intro l x W K hK;gi_wp2;exact hK
 case body=>
  rintro l pre y W S⟨X,B2,B3,B4,B5⟩;obtain⟨i,e0,rfl,hi⟩:=HS y S;have c0:=HN.out W X i e0 hi;have c1:=aN B2 0;have c2:=aN B3 0;have c3:=aN B4 0;have f3:=cQ B4 0;dsimp at c1 c2 c3;have HA:=(λW' (T:Z [] w W')=>H1 W' (.df T) (σ.nm i));have HB:=(λW' (T:Z [] w W')=>H2 W' (.df T) (σ.nm i));have HW:=X.drew;have HT:Hid (∀(r:Bool),Z [w.heap.size+1+1] W ((W.drew).setCell ⟨w.heap.size+1+1,0,none⟩ (.bool r))/\Z [] w ((W.drew).setCell ⟨w.heap.size+1+1,0,none⟩ (.bool r))/\((W.drew).setCell ⟨w.heap.size+1+1,0,none⟩ (.bool r)).heap[w.heap.size+1+1]?=some (cV #[.bool r] 4)):=λr=>⟨((Z.refl _ W).drew).setCell (.inl (by simp)) _,X.drew.setCell (.inr (by simp;omega)) _,bJ (show W.drew.heap[w.heap.size+1+1]?=_ from B4) 0 _⟩;have a6:Hid (∀(r:Bool),Z [w.heap.size+1+1] W ((W.drew.drew).setCell ⟨w.heap.size+1+1,0,none⟩ (.bool r))/\Z [] w ((W.drew.drew).setCell ⟨w.heap.size+1+1,0,none⟩ (.bool r))/\((W.drew.drew).setCell ⟨w.heap.size+1+1,0,none⟩ (.bool r)).heap[w.heap.size+1+1]?=some (cV #[.bool r] 4)):=λr=>⟨((Z.refl _ W).drew.drew).setCell (.inl (by simp)) _,X.drew.drew.setCell (.inr (by simp;omega)) _,bJ (show W.drew.drew.heap[w.heap.size+1+1]?=_ from B4) 0 _⟩;have HN:Hid (Z [w.heap.size+1+1] W W.drew.drew):=(Z.refl _ W).drew.drew
  try dsimp only
  rw[show ig (eM L.dk (some i))=cW (L.dk i)from rfl];have ab:prog.follows .mixedOrders=true:=rfl;gi_wp2;refine akP (Q:=λe a' w'=>e=Exit.normal/\a'=({tmps:=#[Bp E,.func (.func k1) #[] u,.func (.func k2) #[] I,undef,cW w.heap.size,cW (w.heap.size+1),cW (w.heap.size+1+1),cW (L.dk i),Bp E,cW E.bB,fR E.bB 188,tr U.heap.size,cW (L.dk i),.bool (p (σ.nm i)),.func (.func k1) #[] u,cW (L.dk i),cW (L.dk i),cW (L.dk i),Y (σ.nm i),.bool (p (σ.nm i)),undef,undef,undef,undef,undef,undef,undef],defers:=[]}:Act)/\w'=W.drew) ?_ ?_
  .gi_region_with_o (refine⟨trivial,?_⟩;refine(vH l (callsIn_wide.2 (HA _ HW))).mono ?_;rintro e w'⟨rfl,rfl⟩)
   all_goals simp
  rintro e a' w'⟨rfl,rfl,rfl⟩;cases hp:p (σ.nm i)with
  |true=>
   gi_wp2;have⟨t1,t2,t3⟩:=HT.out true;exact⟨t1,rfl,t2,pre,some i,true,rfl,B5,.inl ⟨hp,rfl⟩,t3⟩
  |false=>
   have HP:=hp;clear hp;gi_wp2;refine akP (Q:=λe a' w'=>e=Exit.normal/\a'=({tmps:=#[Bp E,.func (.func k1) #[] u,.func (.func k2) #[] I,undef,cW w.heap.size,cW (w.heap.size+1),cW (w.heap.size+1+1),cW (L.dk i),Bp E,cW E.bB,fR E.bB 188,tr U.heap.size,cW (L.dk i),.bool false,.func (.func k1) #[] u,cW (L.dk i),cW (L.dk i),cW (L.dk i),Y (σ.nm i),.bool false,.bool (q (σ.nm i)),.func (.func k2) #[] I,cW (L.dk i),cW (L.dk i),cW (L.dk i),Y (σ.nm i),.bool (q (σ.nm i))],defers:=[]}:Act)/\w'=W.drew.drew) ?_ ?_
   .gi_region_with_o (refine⟨trivial,?_⟩;refine(vH l (callsIn_wide.2 (HB _ HW.drew))).mono ?_;rintro e w'⟨rfl,rfl⟩)
    all_goals simp
   rintro e a' w'⟨rfl,rfl,rfl⟩;cases hq:q (σ.nm i)with
   |true=>
    gi_wp2;have⟨t1,t2,t3⟩:=a6.out false;exact⟨t1,rfl,t2,pre,some i,false,rfl,B5,.inr ⟨HP,hq,rfl⟩,t3⟩
   |false=>
    have HQ:=hq;clear hq;gi_wp2;refine⟨HN.out,X.drew.drew,B2,B3,B4,λy S=>?_⟩;rcases List.mem_append.1 S with S|S;exact B5 y S;rw[List.mem_singleton.1 S];exact⟨HP,HQ⟩
 case done=>
  rintro D W HD⟨X,h2,h3,h4,h5⟩ hK;have d:=HZ.out;have c3:=aN h4 0;have f3:=cQ h4 0;dsimp at c3;have a1:σ.inScope p q=false:=Kz (λy S=>h5 y S);clear h2 h3 d h5;gi_wp2;have a2:=(oT W ⟨w.heap.size+1+1,0,none⟩ (.bool false)).same D _ hK rfl;refine⟨by simp,.inl ⟨_,_,rfl,QD a2,?_⟩⟩;have a0:=cell_kept (World.cell?_setCell_same' W ⟨w.heap.size+1+1,0,none⟩ (.bool false) (by rw[c3];rfl)) (wH _ D (.deferred none)) (λr e=>by cases e;exact⟨_,a2,rfl⟩);refine⟨.bool false,?_,⟨by rw[a1],?_⟩⟩
  .simp[results,results232,go_sem,a0]
  have d:=HZ.out;have hD:=HD;exact(X.setCell (.inr (by simp;omega)) _).take (by omega) _
 case stop=>
  rintro D c pre W HD a4⟨rfl,X,F,y,r,rfl,h3,h4,h5⟩ hK;have⟨rest,hrest⟩:=a4;have a1:σ.inScope p q=r:=by unfold N.inScope;rw[<-hrest];exact KD h4 h3
  have c3:=aN h5 0;dsimp at c3;clear h3 h4 h5 hrest;gi_wp2;refine⟨by simp,.inl ⟨_,_,rfl,QD hK,?_⟩⟩;have a0:=cell_kept c3 (wH _ D (.deferred none)) (λr e=>by cases e;exact⟨_,hK,rfl⟩);refine⟨.bool r,?_,⟨by rw[a1],?_⟩⟩
  .simp[results,results232,go_sem,a0]
  have d:=HZ.out;have hD:=HD;exact X.take (by omega) _
section
attribute [local go_sem] Oper.semAt_some
def oq(f:FuncId):Fence.wide.fn f=True:=rfl
attribute [local go_sem] oq
attribute [local simp] oq
theorem Dp:∀{xs:gZ},(∀y∈xs,y≠some it/\dG (σ.jg y)=false)->σ.lf it xs=false
 |[],_=>rfl
 |x::xs,h=>by
  unfold N.lf;have⟨h1,h2⟩:=h x (by simp);rw[cZ h1,h2];exact Dp λy d=>h y (by grind)
theorem Dr{r:Bool}(d:(y=some it/\r=true)\/(y≠some it/\dG (σ.jg y)=true/\r=false)):∀{xs:gZ},(∀y∈xs,y≠some it/\dG (σ.jg y)=false)->σ.lf it (xs++[y]++rest)=r
 |[],_=>by
  grind[N.lf]
 |x::xs,h=>by
  show σ.lf it (x::(xs++[y]++rest))=r;unfold N.lf;have⟨h1,h2⟩:=h x (by simp);rw[cZ h1,h2];exact Dr d λy g=>h y (by grind)
theorem Gc(h:RF E f σ w)(it:Nat)(aa:σ.de (some it)=true):
  Calls prog 281 #[Bp E,nV f it] w λe w'=>e=dw (.bool (σ.kg it))/\Z [] w w':=by
 obtain⟨L,rfl,F⟩:=h;have⟨fb,ab,lb0,cb,hb⟩:=F.bounds;have⟨kb,lbb,eb,heb,H2⟩:=hb.call;cases eb;refine(vF (n:=3)).1 ?_;refine vG func281 rfl trivial ?_ rfl;simp only[ntmps281,vI,sg,tX,Nat.reduceAdd,Nat.reduceSub,vJ,vK,vL,vM,tw,oW];obtain⟨X,R⟩:∃X,X=((w.alloc (cV #[Bp E] 120)).alloc (cV #[cW (L.dk it)] 68)).alloc (cV #[.bool false] 4):=⟨_,rfl⟩;have a6:Z [] w X:=by rw[R];exact(((Z.refl _ _).alloc _).alloc _).alloc _
 have⟨b0,b1,b2⟩:=nK w (cV #[Bp E] 120) (cV #[cW (L.dk it)] 68) (cV #[.bool false] 4);rw[<-R]at b0 b1 b2;have d:X.heap.size=w.heap.size+1+1+1:=by rw[R];simp
 have ae:=F.dB a6;have⟨C,HL,hC⟩:=ae.x9;have ac:=F.lt;have HU:=aaA E.bs E.bB 188 _ C _ _ X HL;have a8:=(λ(W:J) (I:Z [] w W)=>(I.cell (p:=⟨E.bB,186,none⟩) ac (by simp)).trans cb);have HO:=(λg (T:L.ov.ownBlock=some g)=>BV F.ng T);have HN:=(λ(W:J) (I:Z [] w W) (i:Nat) (e:sZ) (hi:σ.db i=some e)=>(F.dB I).tI hi);have HS:=(λ(y:eG) (S:y∈σ.cC)=>F.mO S);have HI:=F.inj;have HE:=(λ(W:J) (I:Z [] w W) (x:eG) (hx:σ.de x=true)=>(F.dB I).de hx);have HZ:=V d;have HW:=V R;clear d R
 gi_wp2_with fail
 rw[<-HW.out];refine(callsIn_wide.2 HU).mono ?_;rintro e w'⟨rfl,rfl⟩;gi_wp2;refine Zd (by omega) (f:=eM L.dk) (λx y e=>pP HI e) HL rfl [w.heap.size+1+1] ?_
  (λpre W=>Z [] w W/\W.heap[w.heap.size]?=some (cV #[Bp E] 120)/\W.heap[w.heap.size+1]?=some (cV #[cW (L.dk it)] 68)/\W.heap[w.heap.size+1+1]?=some (cV #[.bool false] 4)/\∀y∈pre,y≠some it/\dG (σ.jg y)=false)
  (λc pre W=>c=.ret/\Z [] w W/\∃u y r,pre=u++[y]/\(∀y∈u,y≠some it/\dG (σ.jg y)=false)/\((y=some it/\r=true)\/(y≠some it/\dG (σ.jg y)=true/\r=false))/\W.heap[w.heap.size+1+1]?=some (cV #[.bool r] 4))
  ?_ ?_ ?_ (λx=>{tmps:=#[Bp E,cW (L.dk it),cW w.heap.size,cW (w.heap.size+1),cW (w.heap.size+1+1),ig x,Bp E,cW E.bB,fR E.bB 188,tr X.heap.size,ig x,undef,undef,undef,undef,undef,undef,undef,undef,undef,undef,undef,undef,undef,undef],defers:=[]}) ?assign ?body ?done ?stop
 grind;rintro s A B ag⟨h1,h2,h3,U,h5⟩ T F;have d:=HZ.out;exact⟨jG h1 T F (by omega),iE h2 T F (by omega),iE h3 T F (by omega),iE U T F (by omega),h5⟩;rintro c s A B ag⟨h0,h1,u,y,r,h2,h3,U,h5⟩ T F;have d:=HZ.out;exact⟨h0,jG h1 T F (by omega),u,y,r,h2,h3,U,iE h5 T F (by omega)⟩;have I:Z [] X (jR E.bB 188 (σ.cC.length) X):=((Z.refl _ _).alloc _).alloc _;exact⟨a6.trans I,I.at b0 (by simp),I.at b1 (by simp),I.at b2 (by simp),by simp⟩
 case assign=>
  intro l x W K hK;gi_wp2;exact hK
 case body=>
  rintro l pre y W S⟨H,B2,B3,B4,B5⟩;obtain⟨i,e0,rfl,hi⟩:=HS y S;have c0:=HN W H i e0 hi;have cB:=a8 W H;have c1:=aN B2 0;have c2:=aN B3 0;have c3:=aN B4 0;have f3:=cQ B4 0;dsimp at c1 c2 c3;have HB:=(λW' (I:Z [] w W')=>H2 W' (.df I) (σ.nm i));have HT:Hid (∀(q:Nat)(r:Bool),Z [w.heap.size+1+1] W ((W.drewN q).setCell ⟨w.heap.size+1+1,0,none⟩ (.bool r))/\Z [] w ((W.drewN q).setCell ⟨w.heap.size+1+1,0,none⟩ (.bool r))/\((W.drewN q).setCell ⟨w.heap.size+1+1,0,none⟩ (.bool r)).heap[w.heap.size+1+1]?=some (cV #[.bool r] 4)):=λq r=>⟨((Z.refl _ W).drewN q).setCell (.inl (by simp)) _,(H.drewN q).setCell (.inr (by simp;omega)) _,bJ (show(W.drewN q).heap[w.heap.size+1+1]?=_ from B4) 0 _⟩;have a9:Hid (∀(r:Bool),Z [w.heap.size+1+1] W (W.setCell ⟨w.heap.size+1+1,0,none⟩ (.bool r))/\Z [] w (W.setCell ⟨w.heap.size+1+1,0,none⟩ (.bool r))/\(W.setCell ⟨w.heap.size+1+1,0,none⟩ (.bool r)).heap[w.heap.size+1+1]?=some (cV #[.bool r] 4)):=λr=>⟨(Z.refl _ W).setCell (.inl (by simp)) _,H.setCell (.inr (by simp;omega)) _,bJ B4 0 _⟩;have a1:=Br (HE W H (some i) (by show(σ.db i).isSome=true;rw[hi];rfl)) (HE W H (some it) aa);rw[show ptr (eM L.dk (some i))=some ⟨L.dk i,0,none⟩from rfl,show ptr (eM L.dk (some it))=some ⟨L.dk it,0,none⟩from rfl]at a1
  try dsimp only
  rw[show ig (eM L.dk (some i))=cW (L.dk i)from rfl];by_cases a2:i=it
  .subst a2;rw[tu rfl]at a1;gi_wp2;have⟨t1,t2,t3⟩:=a9.out true;exact⟨t1,rfl,t2,pre,some i,true,rfl,B5,.inl ⟨rfl,rfl⟩,t3⟩
  .have ad:L.dk i≠L.dk it:=λe=>a2 (HI _ _ e);have a4:(some i:eG)≠some it:=λe=>a2 (je e);rw[xz (by simpa using ad)]at a1;gi_wp2;refine zP l (by kernel_rfl) (by kernel_rfl) (by rfl) ?_
   repeat (gi_big_quiet_step ((exact callsIn_wide.2 (Lc (HB _ (H.drewN _))))))
   refine wpQuietIn_nil ?_;intro _ af;have⟨nq,hw''⟩:=af;subst hw'';cases hq:dG (σ.nm i)with
   |true=>
    gi_wp2;have⟨t1,t2,t3⟩:=HT.out nq false;exact⟨t1,rfl,t2,pre,some i,false,rfl,B5,.inr ⟨a4,hq,rfl⟩,t3⟩
   |false=>
    have HQ:=hq;gi_wp2;refine⟨(Z.refl _ W).drewN nq,H.drewN nq,B2,B3,B4,λy S=>?_⟩;rcases List.mem_append.1 S with S|S;exact B5 y S;rw[List.mem_singleton.1 S];exact⟨a4,HQ⟩
 case done=>
  rintro D W HD⟨H,h2,h3,U,h5⟩ hK;have d:=HZ.out;have c3:=aN U 0;have f3:=cQ U 0;dsimp at c3;have a3:σ.kg it=false:=Dp (λy S=>h5 y S);clear d;gi_wp2;have a5:=(oT W ⟨w.heap.size+1+1,0,none⟩ (.bool false)).same D _ hK rfl;refine⟨by simp,.inl ⟨_,_,rfl,QD a5,?_⟩⟩;have a0:=cell_kept (World.cell?_setCell_same' W ⟨w.heap.size+1+1,0,none⟩ (.bool false) (by rw[c3];rfl)) (wH _ D (.deferred none)) (λr e=>by cases e;exact⟨_,a5,rfl⟩);refine⟨.bool false,?_,⟨by rw[a3],?_⟩⟩
  .simp[results,results281,go_sem,a0]
  have d:=HZ.out;have hD:=HD;exact(H.setCell (.inr (by simp;omega)) _).take (by omega) _
 case stop=>
  rintro D c pre W HD a7⟨rfl,H,u,y,r,rfl,h3,U,h5⟩ hK;have⟨rest,hrest⟩:=a7;have a3:σ.kg it=r:=by unfold N.kg;rw[<-hrest];exact Dr U h3
  have c3:=aN h5 0;dsimp at c3;gi_wp2;refine⟨by simp,.inl ⟨_,_,rfl,QD hK,?_⟩⟩;have a0:=cell_kept c3 (wH _ D (.deferred none)) (λr e=>by cases e;exact⟨_,hK,rfl⟩);refine⟨.bool r,?_,⟨by rw[a3],?_⟩⟩
  .simp[results,results281,go_sem,a0]
  have d:=HZ.out;have hD:=HD;exact H.take (by omega) _
end
theorem Mf(s:O)(w:J):Calls prog 289 #[Y s] w λe w'=>e=dw (G (cX s))/\w'=w:=by
 have d:cX s=if (s.toList==[116,100]||s.toList==[116,104])then 13 else if s.toList==[116,114]then 12 else if (s.toList==[116,98,111,100,121]||(s.toList==[116,104,101,97,100]||s.toList==[116,102,111,111,116]))then 11 else if s.toList==[99,97,112,116,105,111,110]then 9 else if s.toList==[99,111,108,103,114,111,117,112]then 10 else if s.toList==[116,97,98,108,101]then 7 else 6:=by
  unfold cX da ir;simp only[List.any_cons,List.any_nil,Bool.or_false,vN]
 rw[d];go_enter func289,ntmps289;go_wp2
 all_goals go_ret
 all_goals refine⟨?_,rfl⟩
 all_goals simp_all
attribute [local go_sem] Oper.semAt_some
theorem Z.both{a:J}(h:Z [] a w){c:fN}{t:TypeId}(B:a.heap[b]?=some (cV c t))(j:Nat)(v:cY):Z [] (a.setCell ⟨b,j,none⟩ v) (w.setCell ⟨b,j,none⟩ v):=by
 have u:=(Z.refl [b] a).setCell (p:=⟨b,j,none⟩) (.inl (by simp)) v;have A:=(Z.refl [b] w).setCell (p:=⟨b,j,none⟩) (.inl (by simp)) v;have g:(a.setCell ⟨b,j,none⟩ v).heap.size=a.heap.size:=by simp
 have l:(w.setCell ⟨b,j,none⟩ v).heap.size=w.heap.size:=by simp
 refine⟨A.os.trans (h.os.trans u.os.symm),A.tape.trans (h.tape.trans u.tape.symm),A.output.trans (h.output.trans u.output.symm),by rw[g,l];exact h.size,λk C _=>?_⟩;by_cases d:k=b;subst d;exact(bJ (h.at B (by simp)) j v).trans (bJ B j v).symm;grind[block]
theorem Kr:∀{xs:gZ},(∀y∈xs,cX (σ.jg y)=6)->nE σ xs=6
 |[],_=>rfl
 |x::xs,h=>by
  unfold nE;rw[dd (h x (by simp))];exact Kr λy d=>h y (by grind)
theorem Ks(d:cX (σ.jg y)≠6):∀{xs:gZ},(∀y∈xs,cX (σ.jg y)=6)->nE σ (xs++[y]++rest)=cX (σ.jg y)
 |[],_=>by
  grind[nE]
 |x::xs,h=>by
  show nE σ (x::(xs++[y]++rest))=_;unfold nE;rw[dd (h x (by simp))];exact Ks d λy g=>h y (by grind)
theorem YP(h:RF E f σ w):
  Calls prog 224 #[Bp E] w (gX E f σ.nodes.length w (wF σ) uV):=by
 obtain⟨L,rfl,F⟩:=h;refine(vF (n:=3)).1 ?_;refine vG func224 rfl trivial ?_ rfl;simp only[ntmps224,vI,sg,tX,Nat.reduceAdd,Nat.reduceSub,vJ,vK,vL,vM,tw,oW];have ag:=F.lt;have cm:=F.pK;have fm:=F.free 192;have ab:=F.eV 6;have aa:Fr E.bs w (w.setCell ⟨E.bB,192,none⟩ (G ((6:Nat)))):=(At.start ⟨L,rfl,F⟩).LS 192 _;obtain⟨H,S⟩:∃H,H=(w.setCell ⟨E.bB,192,none⟩ (G 6)).alloc (cV #[Bp E] 120):=⟨_,rfl⟩;have a4:Z [] (w.setCell ⟨E.bB,192,none⟩ (G 6)) H:=by rw[S];exact(Z.refl _ _).alloc _
 have b0:H.heap[w.heap.size]?=some (cV #[Bp E] 120):=by
  rw[S];have:=aY (w.setCell ⟨E.bB,192,none⟩ (G 6)) (cV #[Bp E] 120)
  simpa using this
 have U:H.heap.size=w.heap.size+1:=by rw[S];simp
 have u:=ab.dB a4;have⟨C,HL,hC⟩:=u.x9;have HU:=aaA E.bs E.bB 188 _ C _ _ H HL;have HO:=(λg (hg:L.ov.ownBlock=some g)=>BV F.ng hg);have HN:=(λ(W:J) (hk:Z [] H W) (i:Nat) (e:sZ) (hi:σ.db i=some e)=>(show W.cell? ⟨L.dk i,0,none⟩=some (Y (σ.nm i))from(u.dB hk).tI (σ:={σ with mode:=6}) hi));have HS:=(λ(y:eG) (hy:y∈σ.cC)=>F.mO hy);have HI:=F.inj;have HM:=(λ(W:J) (hk:Z [] H W)=>(⟨(u.dB hk).pK,(u.dB hk).free 192,(u.dB hk).lt⟩:_/\_/\_));have X:=V u;have a3:=aa.trans (.df a4);have a7:=HL.du;have ae:=F.fr.size;clear u;have HZ:=V U;have HW:=V S;clear U S
 gi_wp2_with fail
 rw[<-HW.out];refine⟨trivial,(callsIn_wide.2 HU).mono ?_⟩;rintro e w'⟨rfl,rfl⟩;gi_wp2;refine D7 (by omega) (f:=eM L.dk) (λx y e=>pP HI e) HL rfl [] [E.bB] (by simp) (by grind)
  (λpre W=>Z [] H W/\∀y∈pre,cX (σ.jg y)=6)
  (λc pre W=>c=.ret/\∃d y,pre=d++[y]/\(∀y∈d,cX (σ.jg y)=6)/\cX (σ.jg y)≠6/\Z [] (H.setCell ⟨E.bB,192,none⟩ (G (cX (σ.jg y)))) W)
  ?_ ?_ ?_ (λx=>{tmps:=#[Bp E,cW w.heap.size,ig x,undef,Bp E,cW E.bB,fR E.bB 192,Bp E,cW E.bB,fR E.bB 188,tr H.heap.size,ig x,undef,undef,undef,undef,undef,undef,undef,undef,undef,undef,undef],defers:=[]}) ?assign ?body ?done ?stop
 rintro s A B ac⟨I,T⟩ hg F;exact⟨jG I hg F (by omega),T⟩;rintro c s A B ac⟨h0,d,y,h2,h3,h4,T⟩ hg F;exact⟨h0,d,y,h2,h3,h4,jG T hg F (by simp)⟩;grind[Z.alloc,Z.refl]
 case assign=>
  intro l x W K hK;gi_wp2;exact hK
 case body=>
  rintro l pre y W hy⟨I,B5⟩;obtain⟨i,e0,rfl,hi⟩:=HS y hy;have c0:=HN W I i e0 hi;have c1:=aN (I.at b0 (by simp)) 0;dsimp at c1;have⟨c2,f2,hl2⟩:=HM W I;have HB:=(λW=>Mf (σ.nm i) W);have HK:=V I;have HT:=(λv=>(Z.refl [E.bB] W).setCell (p:=⟨E.bB,192,none⟩) (.inl (by simp)) v);have af:=(λv=>I.both a7 192 v);clear I
  try dsimp only
  rw[show ig (eM L.dk (some i))=cW (L.dk i)from rfl];obtain⟨mm,a0⟩:∃mm,mm=cX (σ.nm i):=⟨_,rfl⟩;rw[<-a0]at HB;have ad:Hid (cX (σ.jg (some i))=mm):=V a0.symm;clear a0
  gi_wp2_with (first|(refine⟨trivial,?_⟩;refine(vH l (callsIn_wide.2 (HB _))).mono ?_;rintro e W⟨rfl,rfl⟩))
  rename_i a1;have a5:mm≠6:=by intro e;subst e;simp at a1
  refine⟨HT _,rfl,pre,some i,rfl,B5,by grind[Hid.out],?_⟩;grind[Hid.out];rename_i a1;have a5:mm=6:=by
   have:¬((mm:Int)≠6):=by simpa using a1
   omega
  refine⟨Z.refl _ _,HK.out,λy hy=>?_⟩;grind[Hid.out]
 case done=>
  rintro D W HD⟨I,T⟩ hK;have a2:wF σ=.ok () {σ with mode:=6}:=by
   show nh.ok () {σ with mode:=nE σ σ.cC.reverse}=_;rw[Kr T]
  rw[a2];have HK:=V I;clear I T;gi_wp2;refine⟨by simp,.inl ⟨_,_,rfl,QD hK,?_⟩⟩;have U:=HZ.out;have hD:=HD;have R:=HK.out.take (D:=D) (by omega) (.deferred none);exact⟨_,GG rfl _ _ _,rfl,⟨L,rfl,X.out.dB R⟩,a3.trans (.df R),dr _⟩
 case stop=>
  rintro D c pre W HD a6⟨rfl,d,y,rfl,h3,h4,T⟩ hK;have⟨rest,hrest⟩:=a6;have a2:wF σ=.ok () {σ with mode:=cX (σ.jg y)}:=by
   show nh.ok () {σ with mode:=nE σ σ.cC.reverse}=_;rw[<-hrest,Ks h4 h3]
  rw[a2];have a9:=X.out.eV (cX (σ.jg y));have a8:Fr E.bs H (H.setCell ⟨E.bB,192,none⟩ (G (cX (σ.jg y)))):=(At.start ⟨L,rfl,X.out⟩).LS 192 _;have HK:=V T;clear T;gi_wp2;refine⟨by simp,.inl ⟨_,_,rfl,QD hK,?_⟩⟩;have U:=HZ.out;have hD:=HD;have R:=HK.out.take (D:=D) (by simp;omega) (.deferred none);exact⟨_,GG rfl _ _ _,rfl,⟨L,rfl,a9.dB R⟩,(a3.trans a8).trans (.df R),dr _⟩
section
attribute [local go_sem] Oper.semAt_some
attribute [local go_sem] oq
attribute [local simp] oq
def N.du(σ:N)(pre:gZ)(b:eG):eG:=pre.foldl (λb y=>if iG (σ.jg y)then y else b) b
theorem II:∀{xs:gZ} {b:eG},(∀y∈xs,y≠some it)->σ.ql it xs b=σ.du xs b
 |[],_,_=>rfl
 |x::xs,b,h=>by
  unfold N.ql;rw[cZ (h x (by simp))];exact II λy d=>h y (by grind)
theorem IJ:∀{xs:gZ} {b:eG},(∀y∈xs,y≠some it)->σ.ql it (xs++[some it]++rest) b=σ.du xs b
 |[],b,_=>by
  grind[N.ql,N.du]
 |x::xs,b,h=>by
  show σ.ql it (x::(xs++[some it]++rest)) b=_;unfold N.ql;rw[cZ (h x (by simp))];exact IJ λy d=>h y (by grind)
def Rp(σ:N)(pre:gZ)(y b:eG):σ.du (pre++[y]) b=if iG (σ.jg y)then y else σ.du pre b:=by
 simp[N.du]
theorem LB(h:RF E f σ w)(it:Nat)(a5:σ.de (some it)=true):
  Calls prog 347 #[Bp E,nV f it] w λe w'=>e=dw (oV f (σ.jT it))/\Z [] w w':=by
 obtain⟨L,rfl,u⟩:=h;have⟨fb,ab,lb0,cb,hb⟩:=u.Ij;have⟨kb,lbb,eb,heb,H2⟩:=hb.call;cases eb;refine(vF (n:=3)).1 ?_;refine vG func347 rfl trivial ?_ rfl;simp only[ntmps347,vI,sg,tX,Nat.reduceAdd,Nat.reduceSub,vJ,vK,vL,vM,tw,oW];obtain⟨U,S⟩:∃U,U=((w.alloc (cV #[Bp E] 120)).alloc (cV #[cW (L.dk it)] 68)).alloc (cV #[.pointer none] 68):=⟨_,rfl⟩;have a2:Z [] w U:=by rw[S];exact(((Z.refl _ _).alloc _).alloc _).alloc _
 have⟨b0,b1,b2⟩:=nK w (cV #[Bp E] 120) (cV #[cW (L.dk it)] 68) (cV #[.pointer none] 68);rw[<-S]at b0 b1 b2;have F:U.heap.size=w.heap.size+1+1+1:=by rw[S];simp
 have a8:=u.dB a2;have⟨C,HL,hC⟩:=a8.x9;have a6:=u.lt;have HU:=aaA E.bs E.bB 188 _ C _ _ U HL;have a4:=(λ(W:J) (I:Z [] w W)=>(I.cell (p:=⟨E.bB,184,none⟩) a6 (by simp)).trans cb);have HO:=(λg (T:L.ov.ownBlock=some g)=>BV u.ng T);have HN:=(λ(W:J) (I:Z [] w W) (i:Nat) (e:sZ) (hi:σ.db i=some e)=>(u.dB I).tI hi);have HS:=(λ(y:eG) (hy:y∈σ.cC)=>u.mO hy);have HI:=u.inj;have HE:=(λ(W:J) (I:Z [] w W) (x:eG) (hx:σ.de x=true)=>(u.dB I).de hx);have HZ:=V F;have HW:=V S;clear F S
 gi_wp2_with fail
 rw[<-HW.out];refine(callsIn_wide.2 HU).mono ?_;rintro e w'⟨rfl,rfl⟩;gi_wp2;refine D7 (by omega) (f:=eM L.dk) (λx y e=>pP HI e) HL rfl [w.heap.size+1+1] [] ?_ (by simp)
  (λpre W=>Z [] w W/\W.heap[w.heap.size]?=some (cV #[Bp E] 120)/\W.heap[w.heap.size+1]?=some (cV #[cW (L.dk it)] 68)/\W.heap[w.heap.size+1+1]?=some (cV #[oV L.dk (σ.du pre none)] 68)/\∀y∈pre,y≠some it)
  (λc pre W=>c=.exit 0/\Z [] w W/\∃d,pre=d++[some it]/\(∀y∈d,y≠some it)/\W.heap[w.heap.size+1+1]?=some (cV #[oV L.dk (σ.du d none)] 68))
  ?_ ?_ ?_ (λx=>{tmps:=#[Bp E,cW (L.dk it),cW w.heap.size,cW (w.heap.size+1),.pointer none,cW (w.heap.size+1+1),ig x,Bp E,cW E.bB,fR E.bB 188,tr U.heap.size,ig x,undef,undef,undef,undef,undef,undef,undef,undef,undef,undef,undef,undef,undef,undef],defers:=[]}) ?assign ?body ?done ?stop
 grind;rintro s A B aa⟨h1,h2,h3,h4,h5⟩ T u;have F:=HZ.out;exact⟨jG h1 T u (by omega),iE h2 T u (by omega),iE h3 T u (by omega),iE h4 T u (by omega),h5⟩;rintro c s A B aa⟨h0,h1,d,h2,h3,h5⟩ T u;have F:=HZ.out;exact⟨h0,jG h1 T u (by omega),d,h2,h3,iE h5 T u (by omega)⟩;have I:Z [] U (jR E.bB 188 (σ.cC.length) U):=((Z.refl _ _).alloc _).alloc _;exact⟨a2.trans I,I.at b0 (by simp),I.at b1 (by simp),I.at b2 (by simp),by simp⟩
 case assign=>
  intro l x W K hK;gi_wp2;exact hK
 case body=>
  rintro l pre y W hy⟨H,B2,B3,B4,B5⟩;obtain⟨i,e0,rfl,hi⟩:=HS y hy;have c0:=HN W H i e0 hi;have cB:=a4 W H;have c1:=aN B2 0;have c2:=aN B3 0;have c3:=aN B4 0;have f3:=cQ B4 0;dsimp at c1 c2 c3;have HB:=(λW' (I:Z [] w W')=>H2 W' (.df I) (σ.nm i));have HT:Hid (∀(q:Nat)(r:cY),Z [w.heap.size+1+1] W ((W.drewN q).setCell ⟨w.heap.size+1+1,0,none⟩ r)/\Z [] w ((W.drewN q).setCell ⟨w.heap.size+1+1,0,none⟩ r)/\((W.drewN q).setCell ⟨w.heap.size+1+1,0,none⟩ r).heap[w.heap.size+1+1]?=some (cV #[r] 68)/\((W.drewN q).setCell ⟨w.heap.size+1+1,0,none⟩ r).heap[w.heap.size]?=some (cV #[Bp E] 120)/\((W.drewN q).setCell ⟨w.heap.size+1+1,0,none⟩ r).heap[w.heap.size+1]?=some (cV #[cW (L.dk it)] 68)):=λq r=>
   have kk:=((Z.refl [w.heap.size+1+1] W).drewN q).setCell (p:=⟨w.heap.size+1+1,0,none⟩) (.inl (by simp)) r
   ⟨kk,(H.drewN q).setCell (.inr (by simp;omega)) _,bJ (show(W.drewN q).heap[w.heap.size+1+1]?=_ from B4) 0 _,kk.at B2 (by simp;omega),kk.at B3 (by simp)⟩
  have a0:=Br (HE W H (some i) (by show(σ.db i).isSome=true;rw[hi];rfl)) (HE W H (some it) a5);rw[show ptr (eM L.dk (some i))=some ⟨L.dk i,0,none⟩from rfl,show ptr (eM L.dk (some it))=some ⟨L.dk it,0,none⟩from rfl]at a0
  try dsimp only
  rw[show ig (eM L.dk (some i))=cW (L.dk i)from rfl];by_cases a1:i=it
  .subst a1;rw[tu rfl]at a0;gi_wp2;exact⟨Z.refl _ _,rfl,H,pre,rfl,B5,B4⟩
  .have a7:L.dk i≠L.dk it:=λe=>a1 (HI _ _ e);have ac:(some i:eG)≠some it:=λe=>a1 (je e);rw[xz (by simpa using a7)]at a0;gi_wp2;refine zP l (by kernel_rfl) (by kernel_rfl) (by rfl) ?_
   repeat (gi_big_quiet_step ((exact callsIn_wide.2 (Lc (HB _ (H.drewN _))))))
   refine wpQuietIn_nil ?_;intro _ a9;have⟨nq,hw''⟩:=a9;subst hw'';cases hq:iG (σ.nm i)with
   |true=>
    have HQ:=V hq;clear hq;gi_wp2;have⟨t1,t2,t3,t4,t5⟩:=HT.out nq (cW (L.dk i));refine⟨t1,t2,t4,t5,?_,λy hy=>?_⟩;rw[Rp,show σ.jg (some i)=σ.nm i from rfl,HQ.out];exact t3;grind
   |false=>
    have HQ:=V hq;clear hq;gi_wp2;refine⟨(Z.refl _ W).drewN nq,H.drewN nq,B2,B3,?_,λy hy=>?_⟩;rw[Rp,show σ.jg (some i)=σ.nm i from rfl,HQ.out];exact B4;grind
 case done=>
  rintro D W HD⟨H,h2,h3,h4,h5⟩ hK;have c3:=aN h4 0;dsimp at c3;have R:σ.jT it=σ.du σ.cC.reverse none:=II (λy hy=>h5 y hy);have X:=V R;clear R;gi_wp2;refine⟨by simp,.inl ⟨_,_,rfl,QD hK,?_⟩⟩;have F:=HZ.out;have hD:=HD;exact⟨_,results_tmp rfl _ _ _,by rw[X.out];rfl,H.take (by omega) _⟩
 case stop=>
  rintro D c pre W HD a3⟨rfl,H,d,rfl,h3,h5⟩ hK;have⟨rest,hrest⟩:=a3;have R:σ.jT it=σ.du d none:=by unfold N.jT;rw[<-hrest];exact IJ h3
  have X:=V R;have c3:=aN h5 0;dsimp at c3;clear R;gi_wp2;refine⟨by simp,.inl ⟨_,_,rfl,QD hK,?_⟩⟩;have F:=HZ.out;have hD:=HD;exact⟨_,results_tmp rfl _ _ _,by rw[X.out];rfl,H.take (by omega) _⟩
end
def jj(E:Env):Prop:=gO E 261 (λ_=>#[Bp E]) fx pV
def yb(f:Nat->Nat)(n k:Nat):nV (GV f n k) n=cW k:=by simp[GV]
def A9(E:Env)(w:J):Calls prog 215 #[] w λe w'=>∃k lb,e=dw (.func (.func k) #[] lb)/\Ask E.bm (.func (.func k) #[] lb) zU w'/\Z [] w w':=by
 have C:=adI E.bm [aV,cJ,cF,cM,dq] w (by decide);go_enter func215,ntmps215;go_wp21;refine C.mono ?_;rintro e B⟨u,l,A,rfl,d,h⟩;have⟨k,lb,e0,_,_⟩:=d.call;cases e0;have g:=V d;clear d;go_wp2;go_ret;exact⟨_,_,rfl,g,h⟩
def SC(E:Env)(h:gO E 99 (λ_=>#[Bp E]) gp pV)(j:Nat):gO E 262 (λf=>#[Bp E,nV f j]) (fP j) uV:=by
 refine mI λf σ w R d HS H=>?_;go_enter func262,ntmps262;go_wp21;refine mC (h) H d HS rfl mT ?_;rintro(pl) σ w H g d;go_wp21;refine mC (DI E pl j) H d HS rfl mT ?_;rintro(_) σ w H g d;go_wp21;refine mC (PW E (some j)) H d HS rfl mT ?_;rintro(_) σ w H g d;go_wp2;go_end0;exact gF d H rfl
def L9(E:Env)(h:gO E 99 (λ_=>#[Bp E]) gp pV)(s:O):eP E 182 (λ_=>#[Bp E,Y s]) (fF s) uV:=by
 refine dI λf σ w R d HS H=>?_;unfold fF at d;go_enter func182,ntmps182;have g:=H.wg s;replace d:=d;have H:=g;go_wp21;refine mC (SC E h σ.nodes.length) H d HS (by rw[yb]) lT ?_;rintro(_) σ w H l d;go_wp2;go_end0;exact cE d H rfl
abbrev wK(E:Env)(p:O->Bool)(w:J)(e:Ending)(w':J):Prop:=∃k lb,e=dw (.func (.func k) #[] lb)/\Ask E.bm (.func (.func k) #[] lb) p w'/\Z [] w w'
theorem RF.bounds(h:RF E f σ w):∃k lb,w.cell? ⟨E.bB,186,none⟩=some (.func (.func k) #[] lb)/\Ask E.bm (.func (.func k) #[] lb) dG w:=by
 have⟨L,_,hr⟩:=h;have⟨f1,a1,l1,c,ha⟩:=hr.bounds;have⟨k,lb,e,_,_⟩:=ha.call;grind
theorem RF.Ij(h:RF E f σ w):∃k lb,w.cell? ⟨E.bB,184,none⟩=some (.func (.func k) #[] lb)/\Ask E.bm (.func (.func k) #[] lb) iG w:=by
 have⟨L,_,hr⟩:=h;have⟨f1,a1,l1,c,ha⟩:=hr.Ij;have⟨k,lb,e,_,_⟩:=ha.call;grind
theorem RF.lt(h:RF E f σ w):E.bB<w.heap.size:=by have⟨L,_,hr⟩:=h;exact hr.lt
theorem kH(E:Env)(d:List O)(w:J)(g:d.length<=4096):
  Calls prog 219 #[ky w.heap.size d.length d.length] (w.alloc (cV (d.map Value.string).toArray 9)) (wK E (da d) w):=by
 refine(adI E.bm d w g).mono ?_;grind[Ask.call]
theorem WI(E:Env)(d g:cY)(p q:O->Bool)(w:J)(h:Ask E.bm d p w)(l:Ask E.bm g q w):
  Calls prog 239 #[d,g] w (wK E (λs=>p s||q s) w):=by
 refine(aiS E.bm d g p q w h l).mono ?_;grind[Ask.call]
def yG(h:RF E f σ w):Calls prog 280 #[Bp E] w (wK E Hr w):=by
 have⟨kb,lbb,cb,HB⟩:=h.bounds;have F:=h.lt;have I:=cb;have H:=kH E [dN] w.drew (by decide);go_enter func280,ntmps280;go_wp21
 go_region_with (first
  |(go_at_call 219;refine H.mono ?_;rintro e S⟨U,K,rfl,l,d⟩;have T:S.cell? ⟨E.bB,186,none⟩=some (.func (.func kb) #[] lbb):=(d.cell (p:=⟨E.bB,186,none⟩) F (by simp)).trans I;have B:=V l;have g:=V d;clear l d)
  |(go_at_call 239;refine(WI E _ _ _ _ _ (HB.k0 (((Z.refl _ w).drew).trans g)) B).mono ?_;rintro e w2⟨X,R,rfl,u,A⟩;have C:=V u;have D:=V ((((Z.refl _ w).drew).trans g).trans A);clear u A))
 all_goals go_wp2
 all_goals go_ret
 all_goals exact⟨_,_,rfl,C,D⟩
def Md(h:RF E f σ w):Calls prog 279 #[Bp E] w (wK E aiD w):=by
 have⟨kb,lbb,cb,HB⟩:=h.bounds;have F:=h.lt;have I:=cb;have H:=kH E [vO] w.drew (by decide);go_enter func279,ntmps279;go_wp21
 go_region_with (first
  |(go_at_call 219;refine H.mono ?_;rintro e S⟨U,K,rfl,l,d⟩;have T:S.cell? ⟨E.bB,186,none⟩=some (.func (.func kb) #[] lbb):=(d.cell (p:=⟨E.bB,186,none⟩) F (by simp)).trans I;have B:=V l;have g:=V d;clear l d)
  |(go_at_call 239;refine(WI E _ _ _ _ _ (HB.k0 (((Z.refl _ w).drew).trans g)) B).mono ?_;rintro e w2⟨X,R,rfl,u,A⟩;have C:=V u;have D:=V ((((Z.refl _ w).drew).trans g).trans A);clear u A))
 all_goals go_wp2
 all_goals go_ret
 all_goals exact⟨_,_,rfl,C,D⟩
def vC(E:Env)(w:J):Calls prog 223 #[] w (wK E zT w):=by
 have C:=kH E [aG,aV] w (by decide);go_enter func223,ntmps223;go_wp21;refine C.mono ?_;rintro e h⟨k,lb,rfl,d,g⟩;go_wp2;go_ret;exact⟨_,_,rfl,d,g⟩
def Of(E:Env)(w:J):Calls prog 122 #[] w (wK E (da [aV]) w):=by
 have C:=kH E [aV] w (by decide);go_enter func122,ntmps122;go_wp21;refine C.mono ?_;rintro e h⟨k,lb,rfl,d,g⟩;go_wp2;go_ret;exact⟨_,_,rfl,d,g⟩
def KU(E:Env)(w:J):Calls prog 134 #[] w (wK E (da [cJ,cF,cM]) w):=by
 have C:=kH E [cJ,cF,cM] w (by decide);go_enter func134,ntmps134;go_wp21;refine C.mono ?_;rintro e h⟨k,lb,rfl,d,g⟩;go_wp2;go_ret;exact⟨_,_,rfl,d,g⟩
def YQ(E:Env)(w:J):Calls prog 233 #[] w (wK E (da [dq]) w):=by
 have C:=kH E [dq] w (by decide);go_enter func233,ntmps233;go_wp21;refine C.mono ?_;rintro e h⟨k,lb,rfl,d,g⟩;go_wp2;go_ret;exact⟨_,_,rfl,d,g⟩
def ZO(E:Env)(w:J):Calls prog 234 #[] w (wK E (da [dE,dF]) w):=by
 have C:=kH E [dE,dF] w (by decide);go_enter func234,ntmps234;go_wp21;refine C.mono ?_;rintro e h⟨k,lb,rfl,d,g⟩;go_wp2;go_ret;exact⟨_,_,rfl,d,g⟩
def F5(E:Env)(w:J):Calls prog 273 #[] w (wK E (da [px,py]) w):=by
 have C:=kH E [px,py] w (by decide);go_enter func273,ntmps273;go_wp21;refine C.mono ?_;rintro e h⟨k,lb,rfl,d,g⟩;go_wp2;go_ret;exact⟨_,_,rfl,d,g⟩
def sH(E:Env)(w:J):Calls prog 236 #[] w (wK E (da [dj]) w):=by
 have C:=kH E [dj] w (by decide);go_enter func236,ntmps236;go_wp21;refine C.mono ?_;rintro e h⟨k,lb,rfl,d,g⟩;go_wp2;go_ret;exact⟨_,_,rfl,d,g⟩
def pj(E:Env)(w:J):Calls prog 237 #[] w (wK E (da [cD]) w):=by
 go_enter func237,ntmps237;go_wp21;refine(kH E [cD] w (by decide)).mono ?_;rintro e h⟨k,lb,rfl,d,g⟩;go_wp2;go_ret;exact⟨_,_,rfl,d,g⟩
def To.ml{α:Type}{d:(Nat->Nat)->α->cY}{a:α}{e:Ending}(h:To E L σ' w w')(g:e=dw (d L.dk a))(l:σ.nodes.length<=σ'.nodes.length):gX E L.dk σ.nodes.length w (.ok a σ') d e w':=by
 have⟨L',e1,h3,h4⟩:=h;exact⟨g,⟨L',e1,h3⟩,h4,l⟩
def akL(h:RF E f σ w)(d:Ask E.bm v p w):
  Calls prog 287 #[Bp E,v] w (gX E f σ.nodes.length w (.ok () (σ.yw p)) uV):=by
 obtain⟨L,rfl,g⟩:=h;exact(aig g v p d).mono (λe w' h=>h.2.ml h.1 (dr _))
theorem uw(h:RF E f σ w)(d:Ask E.bm v p w):
  Calls prog 235 #[Bp E,v] w (gX E f σ.nodes.length w (ly p σ) uV):=by
 obtain⟨L,rfl,g⟩:=h;exact(aeq g v p d).mono (λe w' h=>h.2.ml h.1 (by grind[N.Gr,N.pop]))
def Er(h:RF E f σ w)(d:Ask E.bm (.func (.func k) #[] lb) p w):
  Calls prog 216 #[Bp E,.func (.func k) #[] lb] w (gX E f σ.nodes.length w (oB p σ) uV):=by
 obtain⟨L,rfl,g⟩:=h;exact(Vk g _ _ _ p d).mono (λe w' h=>h.2.ml h.1 (dr _))
def L0(h:RF E f σ w):
  Calls prog 282 #[Bp E] w (gX E f σ.nodes.length w (rO (λσ=>σ.gJ) σ) uV):=by
 obtain⟨L,rfl,d⟩:=h;exact(Jz d).mono (λe w' h=>h.2.ml h.1 (dr _))
def Al(h:RF E f σ w)(d:Ask E.bm v p w):
  Calls prog 214 #[Bp E,v] w λe w'=>e=dw (.bool (σ.current p))/\w'=w:=by
 obtain⟨L,rfl,g⟩:=h;exact xU g v p d
def xR(h:RF E f σ w){B C:Nat}{g l:fN}(A:Ask E.bm (.func (.func B) #[] g) p w)(R:Ask E.bm (.func (.func C) #[] l) q w):
  Calls prog 222 #[Bp E,.func (.func B) #[] g,.func (.func C) #[] l] w (gX E f σ.nodes.length w (iI p q σ) bV):=by
 have u:=uJ h p q _ _ A R;have H:=At.start h;unfold iI;cases hi:σ.inScope p q with
 |false=>
  rw[hi]at u;rw[cZ (by simp)];go_enter func222,ntmps222;go_wp21;refine u.mono ?_;rintro e S⟨rfl,d⟩;replace H:=H.k0 d;go_wp2;go_ret;exact gF rfl H rfl
 |true=>
  rw[hi]at u;rw[dd (by simp)];go_enter func222,ntmps222;go_wp21;refine u.mono ?_;rintro e S⟨rfl,d⟩;have D:=akL (H.k0 d).rel (A.k0 d);replace H:=H.k0 d;go_wp21;refine D.mono ?_;rintro e T⟨rfl,F,I,K⟩;replace H:=H.to F K I;go_wp2;go_ret;exact gF rfl H rfl
def wT(h:RF E f σ w)(hs:lr σ≠ .stuck):
  Calls prog 272 #[Bp E] w (gX E f σ.nodes.length w (lr σ) uV):=by
 obtain⟨R,l⟩:∃R,R=(lr) σ:=⟨_,rfl⟩;rw[<-l]at hs|-;unfold lr at l;have H:=At.start h;have A:=V l;clear l;go_enter func272,ntmps272;have C:=kH E [nO] w (by decide);go_wp21;refine C.mono ?_;rintro e T⟨K,D,rfl,d,B⟩;replace H:=H.k0 B;go_wp21;refine(yG H.rel).mono ?_;rintro e U⟨S,F,rfl,u,g⟩;replace d:=d.k0 g;replace H:=H.k0 g;go_wp21;refine zI (λ_=>xR H.rel d u) H A hs mT ?_;rintro(_) σ w H I A;go_wp2;go_end0;exact gF A H rfl
abbrev UX:Obj:=cV #[.pointer none,G 0] 231
theorem M.bind_pure{α:Type}(m:M α)(σ:N):(m>>=λa=>(Pure.pure a:M α)) σ=m σ:=by
 rw[M.cH];cases m σ<;>rfl
theorem Ki(E:Env)(hF:jj E)(i:Nat):gO E 172 (λf=>#[Bp E,nV f i]) (placeFor i) pV:=by
 intro f σ w h hs;have HB:=aY w UX;have a9:=h.lt;have H0:=(At.start h).k0 ((Z.refl _ w).alloc UX);have C:w.cell? ⟨E.bB,195,none⟩=some (.bool σ.dv):=(At.start h).acw;obtain⟨R,u⟩:∃R,R=placeFor i σ:=⟨_,rfl⟩;rw[<-u]at hs|-;have HS:=hs;unfold placeFor at u;cases hfo:σ.dv with
 |false=>
  rw[hfo]at u C;rw[cZ (by simp)]at u;have H:=H0;have l:Hid (R=(eE i>>=λpl=>pure pl) σ):=V (u.trans (M.bind_pure (eE i) σ).symm);clear u;go_enter func172,ntmps172;go_wp21
  go_quiet (fail)
  replace H:=V (H.k0 ((Z.refl _ (w.alloc UX)).drewN nq));go_wp21;refine gO.call (FW E i) H l HS rfl ?_ ?_
  .intro c p j ws g X H3;have U:=V g;clear g;go_wp2;exact⟨rfl,sG U X H3⟩
  rintro pl σ1 T g h2 D;have d:=((Fr.df ((Z.refl _ (w.alloc UX)).drewN nq)).trans h2).cell HB (by decide);have c0:=aN d 0;have S:=aN d 1;have f0:=cQ d 0;have f1:=cQ d 1;dsimp at c0 S;replace H:=V (((g.side d (by decide) (dr _) 0 (cW (f pl.1))).side (bJ d 0 _) (by decide) (dr _) 1 (G pl.2)));replace l:=V D;have A:=V (bJ (bJ d 0 (cW (f pl.1))) 1 (G pl.2));clear g D;go_wp2;refine nr (v:=pV f pl) ?_ rfl (gF l H rfl);simp[results,results172,asAddr,Result.andThen,go_sem,aN A.out]
 |true=>
  rw[hfo]at u C;have a6:∃e,σ.db i=some e:=by
   cases he:σ.db i with
   |some e=>simp
   |none=>
    exfalso;have a7:σ.nm i=⟨#[]⟩:=by unfold N.nm;rw[he]
    have B:zU (σ.nm i)=false:=by rw[a7];simp[zU,da,ir,vN]
    rw[B]at u;simp only[Bool.and_false,lZ,rP]at u;apply hs;rw[u];grind[eE]
  have⟨e0,he0⟩:=a6;have HN:∀W,Z [] w W->W.cell? ⟨f i,0,none⟩=some (Y (σ.nm i)):=by
   intro W hk;obtain⟨L,rfl,hr⟩:=h;exact(hr.dB hk).tI he0
  have cN:=HN w (Z.refl _ _);have a8:f i<w.heap.size:=by
   obtain⟨L,rfl,hr⟩:=h;exact hr.IC (N.dm he0)
  have l:=V u;have a5:=At.start h;clear u;go_enter func172,ntmps172;go_wp21
  go_cut [16]from 5 to 15 (λb wc=>b=.bool (zU (σ.nm i))/\Z [] w wc/\wc.heap[w.heap.size]?=some UX)
  case first=>
   go_region_with (first
    |(go_at_call 215;refine(A9 E _).mono ?_;rintro e T⟨k1,aa,rfl,a1,K⟩;have I:Z [] w T:=(((Z.refl _ w).alloc UX).drew).trans K;have S:=HN T I;have⟨k1',lb1',e1,he1,hc1⟩:=a1.call;cases e1;have a3:=V (hc1 T (wm.refl _ _) (σ.nm i));have a4:=V I;have a2:=V (K.at HB (by simp));clear a1 K I hc1)
    |(refine a3.mono ?_;rintro e w2⟨rfl,rfl⟩))
   all_goals (try (go_wp21))
   all_goals (go_meet;exact⟨rfl,a4,a2⟩)
  case rest=>
   obtain⟨rfl,hk,a0⟩:=hcut;have H:Hid (At E f σ.nodes.length w f σ wc):=V (a5.k0 hk);cases B:zU (σ.nm i)with
   |true=>
    have F:Hid (R=(fx>>=λpl=>(Pure.pure pl:M (Nat×Nat))) σ):=by
     refine V ?_;rw[M.bind_pure];have:=l
     rwa [B]at this
    replace l:=F;go_wp21;refine gO.call hF H l HS rfl ?_ ?_
    .intro c p j ws g X H3;have U:=V g;clear g;go_wp2;exact⟨rfl,sG U X H3⟩
    rintro pl σ1 T g h2 D;have d:=h2.cell a0 (by decide);have c0:=aN d 0;have S:=aN d 1;have f0:=cQ d 0;have f1:=cQ d 1;dsimp at c0 S;replace H:=V (((g.side d (by decide) (dr _) 0 (cW (f pl.1))).side (bJ d 0 _) (by decide) (dr _) 1 (G pl.2)));replace l:=V D;have A:=V (bJ (bJ d 0 (cW (f pl.1))) 1 (G pl.2));clear g D;go_wp2;refine nr (v:=pV f pl) ?_ rfl (gF l H rfl);simp[results,results172,asAddr,Result.andThen,go_sem,aN A.out]
   |false=>
    have F:Hid (R=(eE i>>=λpl=>(Pure.pure pl:M (Nat×Nat))) σ):=by
     refine V ?_;rw[M.bind_pure];have:=l
     rwa [B]at this
    replace l:=F;go_wp21;refine gO.call (FW E i) H l HS rfl ?_ ?_
    .intro c p j ws g X H3;have U:=V g;clear g;go_wp2;exact⟨rfl,sG U X H3⟩
    rintro pl σ1 T g h2 D;have d:=h2.cell a0 (by decide);have c0:=aN d 0;have S:=aN d 1;have f0:=cQ d 0;have f1:=cQ d 1;dsimp at c0 S;replace H:=V (((g.side d (by decide) (dr _) 0 (cW (f pl.1))).side (bJ d 0 _) (by decide) (dr _) 1 (G pl.2)));replace l:=V D;have A:=V (bJ (bJ d 0 (cW (f pl.1))) 1 (G pl.2));clear g D;go_wp2;refine nr (v:=pV f pl) ?_ rfl (gF l H rfl);simp[results,results172,asAddr,Result.andThen,go_sem,aN A.out]
theorem Ig(E:Env)(hF:jj E):gO E 99 (λ_=>#[Bp E]) gp pV:=by
 intro f σ w h HS;cases hl:σ.last with
 |none=>exfalso;grind[gp]
 |some i=>
  have U:gp σ=(placeFor i>>=λpl=>pure pl) σ:=by
   unfold gp;rw[hl,M.bind_pure]
  obtain⟨R,l⟩:∃R,R=gp σ:=⟨_,rfl⟩;have C:Hid (Calls prog 173 #[fR E.bB 188] (w.alloc UX) λe w'=>e=dw (cW (f i))/\w'=w.alloc UX):=by
   obtain⟨L,rfl,hr⟩:=h;have:=Wy (hr.dB ((Z.refl _ w).alloc UX))
   rwa [show dA σ.cC ((σ.cC.length:Int)-1)=some i from hl]at this
  rw[<-l]at HS|-;rw[U]at l;have H:=(At.start h).k0 ((Z.refl _ w).alloc UX);have u:=V l;have K:=aY w UX;have a0:=h.lt;clear l;go_enter func99,ntmps99;go_wp21;refine C.mono ?_;rintro e w'⟨rfl,rfl⟩;go_wp21;refine gO.call (Ki E hF i) H u HS rfl ?_ ?_
  .intro c p j ws g F I;have D:=V g;clear g;go_wp2;exact⟨rfl,sG D F I⟩
  rintro pl σ1 w1 g X B;have d:=X.cell K (by decide);have S:=aN d 0;have T:=aN d 1;have f0:=cQ d 0;have f1:=cQ d 1;dsimp at S T;replace H:=((g.side d (by decide) (dr _) 0 (cW (f pl.1))).side (bJ d 0 _) (by decide) (dr _) 1 (G pl.2));replace u:=V B;have A:=V (bJ (bJ d 0 (cW (f pl.1))) 1 (G pl.2));clear g B;go_wp2;refine nr (v:=pV f pl) ?_ rfl (gF u H rfl);simp[results,results99,asAddr,Result.andThen,go_sem,aN A.out]
theorem RF.tv(h:RF E f σ w):∃d n g,E.tv=.slice d n g:=by
 have⟨L,_,hr⟩:=h;have⟨d,cap,e⟩:=cP hr.tok;grind
section
variable (E:Env)(hF:jj E)
include hF
def Dn(j:Nat):gO E 262 (λf=>#[Bp E,nV f j]) (fP j) uV:=SC E (Ig E hF) j
def sU(s:O):eP E 182 (λ_=>#[Bp E,Y s]) (fF s) uV:=L9 E (Ig E hF) s
theorem jb(t:cR)(K:eY E t):eP E 177 (λ_=>#[Bp E,dJ E t]) (dZ t) uV:=by
 intro f σ w h HS;have⟨ao,n,cp,htv⟩:=h.tv;have d:t.nj=true/\σ.fresh=true:=by
  unfold dZ at HS;rw[M.cH]at HS;unfold fG at HS;cases hc:(σ.fresh&&t.nj)with
  |true=>grind
  |false=>grind
 have D:=K d.1;have l:t.fc=E.ta/\yv E t=#[G t.a,G t.b,Y t.name,.slice ao n cp]:=by
  have⟨a,b,k,cU⟩:=t;cases k<;>simp_all[cR.nj,cR.fc,yv,cR.name]
 obtain⟨R,C⟩:∃R,R=(dZ t) σ:=⟨_,rfl⟩;rw[<-C]at HS|-;have u:R=(fP σ.nodes.length>>=λ_=>(Pure.pure ():M Unit)) (σ.ny (.el {name:=t.name,di:=E.ta,ff:=none,kids:=[]}) false):=by
  rw[C];unfold dZ;rw[M.cH];unfold fG;simp only[d.1,d.2,l.1,Bool.and_self,if_true]
 have A:=V u;have g:=xr E t w ⟨ao,n,cp,htv⟩;rw[l.2]at g;have H:=At.start h;have I:=h.lt;have B:=d.2;clear h C u d D l;go_enter func177,ntmps177;go_wp21;refine g.mono ?_;rintro e T⟨rfl,F⟩;replace H:=(H.k0 (F.alloc (cV #[G t.a,G t.b,Y t.name,.slice ao n cp] 193))).fG B t.name;rw[htv]at H;clear F g;go_wp21;refine mC (Dn E hF σ.nodes.length) H A HS (by simp[GV]) lT ?_;clear H A;rintro(_) σ w H S A;go_wp2;go_end0;exact cE A H rfl
def ut(t:cR)(h:eY E t):eP E 104 (λ_=>#[Bp E,dJ E t]) (gM t) uV:=by
 refine dI λf σ w R d HS H=>?_;go_enter func104,ntmps104;go_wp21;refine dC (jb E hF t h) H d HS rfl lT ?_;rintro(_) f σ w H l g d;go_wp21;refine mC (aer E) H d HS rfl lT ?_;rintro(_) σ w H g d;go_wp2;go_end0;exact cE d H rfl
def ur(t:cR):eP E 103 (λ_=>#[Bp E,dJ E t]) (gw t) uV:=by
 refine dI λf σ w R d HS H=>?_;go_enter func103,ntmps103;go_wp21;refine mC (Ig E hF) H d HS rfl lT ?_;rintro(pl) σ w H g d;go_wp21;refine(xQ E t _).mono ?_;rintro e u⟨rfl,h⟩;replace H:=H.k0 h;go_wp21;refine dC (WT E pl t.chars) H d HS rfl lT ?_;rintro(_) f σ w H l g d;go_wp2;go_end0;exact cE d H rfl
def uz(t:cR)(l:eY E t):eP E 187 (λ_=>#[Bp E,dJ E t]) (jJ t) uV:=by
 refine dI λf σ w R d HS H=>?_;go_enter func187,ntmps187;go_wp21;refine zI (λh=>wT H.rel h) H d HS lT ?_;rintro(_) σ w H g d;go_wp21;refine dC (jb E hF t l) H d HS rfl lT ?_;rintro(_) f σ w H u g d;go_wp2;go_end0;exact cE d H rfl
def Xl(t:cR)(g:eY E t):eP E 188 (λ_=>#[Bp E,dJ E t]) (rL t) uV:=by
 refine dI λf σ w R d HS H=>?_;unfold rL at d;go_enter func188,ntmps188;go_wp21;refine dC (uz E hF t g) H d HS rfl lT ?_;rintro(_) f σ w H l h d;have u:=H.acy;have A:=H.free 198;replace H:=H.qw true;go_wp2;go_end0;exact cE d H rfl
end
def zV(a b:Int)(s:O)(d:Option Addr)(n g:Nat)(w:J):(Instr.field 193 (.agg #[G a,G b,Y s,.slice d n g]) 1).run prog w=.ok (Y s) w:=by
 have h:=underlying193;simp[Instr.field,qP h,go_sem,asAgg,Result.andThen]
def xu(a b:Int)(s:O)(d:Option Addr)(n g:Nat)(w:J):(Instr.field 193 (.agg #[G a,G b,Y s,.slice d n g]) 2).run prog w=.ok (.slice d n g) w:=by
 have h:=underlying193;simp[Instr.field,qP h,go_sem,asAgg,Result.andThen]
def At.ZM{f0:Nat->Nat}(h:At E f0 n0 w0 f σ w):w.cell? ⟨E.bB,187,none⟩=some (nV f 0):=by
 obtain⟨L,rfl,d⟩:=h.rel;exact d.low (by decide) d.env.rU
theorem qq(σ σ':N)(h:σ'.nodes=σ.nodes):σ.nodes.length<=σ'.nodes.length:=by grind
def DE(E:Env)(x:eG):gO E 181 (λf=>#[fR E.bB 188,oV f x]) (fB x) uV:=by
 intro f σ w ⟨L,e,l⟩ d;subst e;unfold fB at d|-;by_cases g:σ.de x=true;rw[dd g];exact(aef l x g).mono (λe w' h=>h.2.ml h.1 (qq _ _ rfl));rw[cZ g]at d;exact absurd rfl d
def aed(E:Env)(x:eG):gO E 322 (λf=>#[fR E.bB 188,oV f x]) (vr x) uV:=by
 intro f σ w ⟨L,e,l⟩ d;subst e;unfold vr at d|-;by_cases g:σ.de x=true;rw[dd g];exact(ahf l x g).mono (λe w' h=>h.2.ml h.1 (qq _ _ rfl));rw[cZ g]at d;exact absurd rfl d
def PQ(E:Env)(x y:eG):gO E 370 (λf=>#[fR E.bB 188,oV f x,oV f y]) (kj x y) uV:=by
 intro f σ w ⟨L,e,l⟩ g;subst e;unfold kj at g|-;by_cases d:(σ.de x&&σ.jw y&&decide (σ.cC.length<4096))=true;rw[dd d];simp at d;exact(Tg l x y d.1.1 d.1.2 d.2).mono (λe w' h=>h.2.ml h.1 (qq _ _ rfl));rw[cZ d]at g;exact absurd rfl g
def Cp(E:Env)(x:eG):gO E 181 (λf=>#[fR E.bB 189,oV f x]) (gv x) uV:=by
 intro f σ w ⟨L,e,l⟩ d;subst e;unfold gv at d|-;by_cases g:σ.de x=true;rw[dd g];exact(acb l x g).mono (λe w' h=>h.2.ml h.1 (qq _ _ rfl));rw[cZ g]at d;exact absurd rfl d
def aca(E:Env)(x:eG):gO E 322 (λf=>#[fR E.bB 189,oV f x]) (xL x) uV:=by
 intro f σ w ⟨L,e,l⟩ d;subst e;unfold xL at d|-;by_cases g:σ.de x=true;rw[dd g];exact(afT l x g).mono (λe w' h=>h.2.ml h.1 (qq _ _ rfl));rw[cZ g]at d;exact absurd rfl d
def afQ(E:Env)(x y:eG):gO E 270 (λf=>#[fR E.bB 189,oV f x,oV f y]) (lE x y) uV:=by
 intro f σ w ⟨L,e,l⟩ g;subst e;unfold lE at g|-;by_cases d:(σ.de x&&σ.de y)=true;rw[dd d];simp at d;exact(Zy l x y d.1 d.2).mono (λe w' h=>h.2.ml h.1 (qq _ _ rfl));rw[cZ d]at g;exact absurd rfl g
def OC(E:Env)(x y:eG):gO E 370 (λf=>#[fR E.bB 189,oV f x,oV f y]) (jk x y) uV:=by
 intro f σ w ⟨L,e,l⟩ g;subst e;unfold jk at g|-;by_cases d:(σ.de x&&σ.de y&&decide (σ.act.length<4096))=true;rw[dd d];simp at d;exact(Q6 l x y d.1.1 d.1.2 d.2).mono (λe w' h=>h.2.ml h.1 (qq _ _ rfl));rw[cZ d]at g;exact absurd rfl g
def BP(E:Env):gO E 178 (λ_=>#[fR E.bB 188]) tJ oV:=aer E
theorem abr(E:Env)(j:Nat):gO E 368 (λf=>#[nV f j]) (iC j) uV:=by
 intro f σ w ⟨L,e,l⟩ d;subst e;unfold iC at d|-;cases hj:σ.db j with
 |none=>rw[hj]at d;exact absurd rfl d
 |some ej=>
  simp only[hj]at d|-;cases hp:ej.ff with
  |none=>
   refine(DW l hj hp).mono ?_;rintro e w'⟨rfl,rfl⟩;exact⟨rfl,⟨L,rfl,l⟩,Fr.refl _,dr _⟩
  |some p=>
   simp only[hp]at d|-;cases hep:σ.db p with
   |none=>rw[hep]at d;exact absurd rfl d
   |some ep=>
    simp only[hep]at d|-;by_cases g:j≠p/\0<=lO ep.kids (Nd.de j)/\(lO ep.kids (Nd.de j)).toNat<ep.kids.length;rw[dd g];exact(abp l hj hp hep g.1 g.2.2 (by omega)).mono (λe w' h=>h.2.ml h.1 (by grind[N.dh]));rw[cZ g]at d;exact absurd rfl d
theorem MM(E:Env)(i:Nat):eP E 269 (λf=>#[nV f i]) (fD i) nV:=by
 intro f σ w ⟨L,e,B⟩ d;subst e;unfold fD at d|-;cases hi:σ.db i with
 |none=>rw[hi]at d;exact absurd rfl d
 |some e=>
  simp only[hi]at d|-;by_cases h:kF e.name=true;rw[dd h]at d;exact absurd rfl d;rw[cZ h];refine(abl B hi (by grind)).mono ?_;rintro C w'⟨g,l,rfl,u,A⟩;exact⟨g.dk,l,by simp[N.add],rfl,⟨g,rfl,u⟩,A⟩
def RF.alw(h:RF E f σ w):0<σ.nodes.length:=by
 have⟨L,_,hr⟩:=h;exact N.jy hr.wf.rU
theorem ad2(h:i<n):nV (GV f n k) i=nV f i:=by grind[GV]
section
variable (E:Env)(hF:jj E)(rec:Nat->cR->M Unit)
variable (hA:∀(m:Nat)(t:cR),eY E t->eP E 165 (λ_=>#[Bp E,.int .i64 (m:Int),dJ E t]) (rec m t) uV)
include hA in
def rN(t:cR)(A:eY E t):eP E 89 (λ_=>#[Bp E,dJ E t]) (gh rec t) uV:=by
 intro f σ w h HS;obtain⟨R,l⟩:∃R,R=gh rec t σ:=⟨_,rfl⟩;rw[<-l]at HS|-;have d:R=(rec σ.mode t>>=λ_=>(Pure.pure ():M Unit)) σ:=by
  rw[l,M.bind_pure];rfl
 have g:=V d;have H:=At.start h;have D:=H.pK;have u:=h.lt;clear h l d;go_enter func89,ntmps89;go_wp21;refine dC (hA σ.mode t A) H g HS rfl lT ?_;clear H g;rintro(_) f σ w H C B g;go_wp2;go_end0;exact cE g H rfl
include hA in
def y9(t:cR)(h:eY E t):eP E 95 (λ_=>#[Bp E,dJ E t]) (fV rec t) uV:=by
 refine dI λf σ w R d HS H=>?_;unfold fV at d;go_enter func95,ntmps95;have A:=H.acx;have C:=H.free 196;have B:=H.pK;have D:=H.free 192;have g:=H.lt;replace H:=(H.oQ true).eV 1;go_wp21;refine dC (rN E rec hA t h) H d HS rfl lT ?_;rintro(_) f σ w H u l d;go_wp2;go_end0;exact cE d H rfl
theorem BK(own:Bool):eP E 170 (λ_=>#[Bp E,if own then E.tv else .slice none 0 0]) (nU own (if own then E.ta else [])) uV:=by
 intro f σ w h B;have⟨ao,n,cp,htv⟩:=h.tv;obtain⟨R,g⟩:∃R,R=nU own (if own then E.ta else []) σ:=⟨_,rfl⟩;rw[<-g]at B|-;have HS:=B;have H:=At.start h;have F:=h.lt;have A:=V h.alw;have I:=H.ZM;have K:=H.ZN;have S:=H.free 190;unfold nU at g;cases own with
 |true=>
  rw[M.cH]at g;unfold mL at g;have u:σ.fresh=true:=by
   cases hq:σ.fresh with
   |true=>rfl
   |false=>grind
  simp only[u,if_true]at g;have d:=V g;replace H:=H.fG u aG;rw[htv]at H;rw[dd rfl,htv];clear h g;go_enter func170,ntmps170;go_wp21;refine mC (FW E 0) H d HS (by rw[ad2 A.out]) lT ?_;rintro(pl) σ w H l d;go_wp21;refine mC (DI E pl _) H d HS (by rw[yb]) lT ?_;rintro(_) σ w H l d;go_wp21;refine mC (PW E (some _)) H d HS (by show #[_,nV _ _]=_;rw[yb]) lT ?_;rintro(_) σ w H l d;have C:=H.pK;have D:=H.free 192;replace H:=H.eV 2;go_wp2;go_end0;exact cE d H rfl
 |false=>
  rw[M.cH]at g;unfold mL at g;simp only[lZ,rP]at g;have d:=V g;replace H:=H.wg aG;rw[cZ (by simp)];clear h g;go_enter func170,ntmps170;go_wp21;refine mC (FW E 0) H d HS (by rw[ad2 A.out]) lT ?_;rintro(pl) σ w H l d;go_wp21;refine mC (DI E pl _) H d HS (by rw[yb]) lT ?_;rintro(_) σ w H l d;go_wp21;refine mC (PW E (some _)) H d HS (by show #[_,nV _ _]=_;rw[yb]) lT ?_;rintro(_) σ w H l d;have C:=H.pK;have D:=H.free 192;replace H:=H.eV 2;go_wp2;go_end0;exact cE d H rfl
include hF in
theorem BL(own:Bool):eP E 175 (λ_=>#[Bp E,if own then E.tv else .slice none 0 0]) (nW own (if own then E.ta else [])) uV:=by
 intro f σ w h B;have⟨ao,n,cp,htv⟩:=h.tv;obtain⟨R,d⟩:∃R,R=nW own (if own then E.ta else []) σ:=⟨_,rfl⟩;rw[<-d]at B|-;have HS:=B;have H:=At.start h;have A:=h.lt;have I:=h.alw;have K:=H.ZM;have S:=H.ZN;have T:=H.free 190;unfold nW at d;cases own with
 |true=>
  rw[M.cH]at d;unfold mL at d;have u:σ.fresh=true:=by
   cases hq:σ.fresh with
   |true=>rfl
   |false=>grind
  simp only[u,if_true]at d;have l:=V d;replace H:=H.fG u bZ;rw[htv]at H;rw[dd rfl,htv];clear d;go_enter func175,ntmps175;have g:=H.xk (some σ.nodes.length) (by simp[N.de,N.db,N.ny,N.add]);rw[show oV (GV f σ.nodes.length w.heap.size) (some σ.nodes.length)=cW w.heap.size from yb _ _ _]at g;rw[World.setCell_alloc_past _ _ _ _ A]at g;replace H:=g;go_wp21;refine mC (Dn E hF _) H l HS (by rw[yb]) lT ?_;rintro(_) σ w H C l;have D:=H.pK;have F:=H.free 192;replace H:=H.eV 3;go_wp2;go_end0;exact cE l H rfl
 |false=>
  rw[M.cH]at d;unfold mL at d;simp only[lZ,rP]at d;have l:=V d;replace H:=H.wg bZ;rw[cZ (by simp)];clear d;go_enter func175,ntmps175;have g:=H.xk (some σ.nodes.length) (by simp[N.de,N.db,N.ny,N.add]);rw[show oV (GV f σ.nodes.length w.heap.size) (some σ.nodes.length)=cW w.heap.size from yb _ _ _]at g;rw[World.setCell_alloc_past _ _ _ _ A]at g;replace H:=g;go_wp21;refine mC (Dn E hF _) H l HS (by rw[yb]) lT ?_;rintro(_) σ w H C l;have D:=H.pK;have F:=H.free 192;replace H:=H.eV 3;go_wp2;go_end0;exact cE l H rfl
include hA in
def L6(t:cR)(l:eY E t):eP E 98 (λ_=>#[Bp E,dJ E t]) (lL rec t) uV:=by
 refine dI λf σ w R d HS H=>?_;unfold lL at d;go_enter func98,ntmps98;go_wp21;refine dC (BK E false) H d HS (by simp) lT ?_;rintro(_) f σ w H h g d;go_wp21;refine dC (rN E rec hA t l) H d HS rfl lT ?_;rintro(_) f σ w H h g d;go_wp2;go_end0;exact cE d H rfl
include hF hA in
def L8(t:cR)(l:eY E t):eP E 102 (λ_=>#[Bp E,dJ E t]) (lM rec t) uV:=by
 refine dI λf σ w R d HS H=>?_;unfold lM at d;go_enter func102,ntmps102;go_wp21;refine dC (BL E hF false) H d HS (by simp) lT ?_;rintro(_) f σ w H h g d;go_wp21;refine dC (rN E rec hA t l) H d HS rfl lT ?_;rintro(_) f σ w H h g d;go_wp2;go_end0;exact cE d H rfl
theorem T8(t:cR)(T:eY E t):eP E 97 (λ_=>#[Bp E,dJ E t]) (qM t) uV:=by
 intro f σ w h D;have⟨ao,n,cp,htv⟩:=h.tv;obtain⟨R,g⟩:∃R,R=qM t σ:=⟨_,rfl⟩;rw[<-g]at D|-;have HS:=D;have H:=At.start h;have S:=h.lt;have A:=xr E t w ⟨ao,n,cp,htv⟩;unfold qM at g;cases htg:t.nj with
 |true=>
  have d:t.fc=(if true then E.ta else [])/\yv E t=#[G t.a,G t.b,Y t.name,.slice ao n cp]:=by
   have:=T htg;have⟨a,b,k,cU⟩:=t;cases k<;>simp_all[cR.nj,cR.fc,yv,cR.name]
  rw[htg,d.1]at g;rw[d.2]at A;have l:=V A;have u:=V g;have I:=V htv;have B:=λw=>xu (t.a:Int) (t.b:Int) t.name ao n cp w;clear g A htv;go_enter func97,ntmps97;go_wp21;refine l.mono ?_;rintro e U⟨rfl,C⟩;replace H:=H.k0 C;go_wp21;refine dC (BK E true) H u HS (by grind[Hid.out]) lT ?_;rintro(_) f σ w H K F u;go_wp2;go_end0;exact cE u H rfl
 |false=>
  have d:t.fc=(if false then E.ta else [])/\yv E t=#[G 0,G 0,Y gU,gq]:=by
   have⟨a,b,k,cU⟩:=t;cases k<;>simp_all[cR.nj,cR.fc,yv,cR.name]
  rw[htg,d.1]at g;rw[d.2]at A;have l:=V A;have u:=V g;have B:=λw=>xu 0 0 ⟨#[]⟩ none 0 0 w;clear g A htv;go_enter func97,ntmps97;go_wp21;refine l.mono ?_;rintro e U⟨rfl,C⟩;replace H:=H.k0 C;go_wp21;refine dC (BK E false) H u HS (by simp) lT ?_;rintro(_) f σ w H K F u;go_wp2;go_end0;exact cE u H rfl
include hF in
theorem Ua(t:cR)(T:eY E t):eP E 101 (λ_=>#[Bp E,dJ E t]) (qN t) uV:=by
 intro f σ w h F;have⟨ao,n,cp,htv⟩:=h.tv;obtain⟨R,g⟩:∃R,R=qN t σ:=⟨_,rfl⟩;rw[<-g]at F|-;have HS:=F;have H:=At.start h;have S:=h.lt;have A:=xr E t w ⟨ao,n,cp,htv⟩;unfold qN at g;cases htg:t.nj with
 |true=>
  have d:t.fc=(if true then E.ta else [])/\yv E t=#[G t.a,G t.b,Y t.name,.slice ao n cp]:=by
   have:=T htg;have⟨a,b,k,cU⟩:=t;cases k<;>simp_all[cR.nj,cR.fc,yv,cR.name]
  rw[htg,d.1]at g;rw[d.2]at A;have l:=V A;have u:=V g;have B:=V htv;have C:=λw=>xu (t.a:Int) (t.b:Int) t.name ao n cp w;clear g A htv;go_enter func101,ntmps101;go_wp21;refine l.mono ?_;rintro e U⟨rfl,D⟩;replace H:=H.k0 D;go_wp21;refine dC (BL E hF true) H u HS (by rw[dd rfl,B.out]) lT ?_;rintro(_) f σ w H K I u;go_wp2;go_end0;exact cE u H rfl
 |false=>
  have d:t.fc=(if false then E.ta else [])/\yv E t=#[G 0,G 0,Y gU,gq]:=by
   have⟨a,b,k,cU⟩:=t;cases k<;>simp_all[cR.nj,cR.fc,yv,cR.name]
  rw[htg,d.1]at g;rw[d.2]at A;have l:=V A;have u:=V g;have C:=λw=>xu 0 0 ⟨#[]⟩ none 0 0 w;clear g A htv;go_enter func101,ntmps101;go_wp21;refine l.mono ?_;rintro e U⟨rfl,D⟩;replace H:=H.k0 D;go_wp21;refine dC (BL E hF false) H u HS (by simp) lT ?_;rintro(_) f σ w H K I u;go_wp2;go_end0;exact cE u H rfl
def M6(t:cR):eP E 107 (λ_=>#[Bp E,dJ E t]) (uj) uV:=by
 refine dI λf σ w R d HS H=>?_;unfold uj at d;go_enter func107,ntmps107;go_wp21;refine mC (BP E) H d HS rfl lT ?_;rintro(_) σ w H h d;have l:=H.pK;have u:=H.free 192;have g:=H.lt;replace H:=H.eV 4;go_wp2;go_end0;exact cE d H rfl
include hA in
def Bz(t:cR)(l:eY E t):eP E 108 (λ_=>#[Bp E,dJ E t]) (iw rec t) uV:=by
 refine dI λf σ w R d HS H=>?_;unfold iw at d;go_enter func108,ntmps108;go_wp21;refine dC (M6 E t) H d HS rfl lT ?_;rintro(_) f σ w H h g d;go_wp21;refine dC (rN E rec hA t l) H d HS rfl lT ?_;rintro(_) f σ w H h g d;go_wp2;go_end0;exact cE d H rfl
include hF in
def T0(t:cR)(h:eY E t):eP E 109 (λ_=>#[Bp E,dJ E t]) (oe t) uV:=by
 refine dI λf σ w R d HS H=>?_;unfold oe at d;go_enter func109,ntmps109;go_wp21;refine dC (jb E hF t h) H d HS rfl lT ?_;rintro(_) f σ w H u l d;have A:=H.pK;have B:=H.free 192;have g:=H.lt;replace H:=H.eV 6;go_wp2;go_end0;exact cE d H rfl
include hF hA in
def LZ(t:cR)(u:eY E t):eP E 111 (λ_=>#[Bp E,dJ E t]) (kN rec t) uV:=by
 refine dI λf σ w R d HS H=>?_;unfold kN at d;go_enter func111,ntmps111;go_wp21;refine dC (sU E hF aZ) H d HS rfl lT ?_;rintro(_) f σ w H h g d;have A:=H.pK;have B:=H.free 192;have l:=H.lt;replace H:=H.eV 6;go_wp21;refine dC (rN E rec hA t u) H d HS rfl lT ?_;rintro(_) f σ w H h g d;go_wp2;go_end0;exact cE d H rfl
def M8(t:cR):eP E 113 (λ_=>#[Bp E,dJ E t]) (sQ) uV:=by
 refine dI λf σ w R d HS H=>?_;unfold sQ at d;go_enter func113,ntmps113;go_wp21;refine mC (BP E) H d HS rfl lT ?_;rintro(_) σ w H g d;have h:=H.pK;have u:=H.free 192;have l:=H.Ve;have A:=H.lt;replace H:=H.eV σ.kept;go_wp2;go_end0;exact cE d H rfl
include hA in
def ZX(t:cR)(l:eY E t):eP E 112 (λ_=>#[Bp E,dJ E t]) (vW rec t) uV:=by
 refine dI λf σ w R d HS H=>?_;unfold vW at d;go_enter func112,ntmps112;go_wp21;refine dC (M8 E t) H d HS rfl lT ?_;rintro(_) f σ w H h g d;go_wp21;refine dC (rN E rec hA t l) H d HS rfl lT ?_;rintro(_) f σ w H h g d;go_wp2;go_end0;exact cE d H rfl
def acW(t:cR):eP E 149 (λ_=>#[Bp E,dJ E t]) (zn) uV:=by
 refine dI λf σ w R d HS H=>?_;go_enter func149,ntmps149;have h:=H.pK;have l:=H.free 192;have g:=H.lt;replace H:=H.eV 17;go_wp2;go_end0;exact cE d H rfl
include hA in
def OO(t:cR)(h:eY E t):eP E 241 (λ_=>#[Bp E,dJ E t]) (oz rec t) uV:=by
 refine dI λf σ w R d HS H=>?_;unfold oz at d;go_enter func241,ntmps241;have A:=H.pK;have B:=H.free 192;have g:=H.lt;replace H:=H.eV 6;go_wp21;refine dC (rN E rec hA t h) H d HS rfl lT ?_;rintro(_) f σ w H u l d;go_wp2;go_end0;exact cE d H rfl
end
def RF.SM(h:RF E f σ w):Calls prog 173 #[fR E.bB 188] w λe w'=>e=dw (oV f σ.last)/\w'=w:=by
 obtain⟨L,rfl,d⟩:=h;exact Wy d
def RF.alL(h:RF E f σ w):Calls prog 263 #[fR E.bB 189] w λe w'=>e=dw (G σ.act.length)/\w'=w:=by
 obtain⟨L,rfl,d⟩:=h;exact ait d
def RF.atA(h:RF E f σ w)(n:Int):Calls prog 242 #[fR E.bB 189,G n] w λe w'=>e=dw (oV f (dA σ.act n))/\w'=w:=by
 obtain⟨L,rfl,d⟩:=h;exact amN d n
def RF.atO(h:RF E f σ w)(n:Int):Calls prog 242 #[fR E.bB 188,G n] w λe w'=>e=dw (oV f (dA σ.cC n))/\w'=w:=by
 obtain⟨L,rfl,d⟩:=h;exact alU d n
def RF.alE(h:RF E f σ w)(x:eG)(g:σ.de x=true):Calls prog 316 #[fR E.bB 188,oV f x] w λe w'=>e=dw (.bool (decide (x∈σ.cC)))/\w'=w:=by
 obtain⟨L,rfl,d⟩:=h;exact alV d x g
def RF.alD(h:RF E f σ w)(x:eG)(g:σ.de x=true):Calls prog 316 #[fR E.bB 189,oV f x] w λe w'=>e=dw (.bool (decide (x∈σ.act)))/\w'=w:=by
 obtain⟨L,rfl,d⟩:=h;exact alm d x g
def RF.ajo(h:RF E f σ w)(x:eG)(g:σ.de x=true):Calls prog 240 #[fR E.bB 188,oV f x] w λe w'=>e=dw (oV f (dA σ.cC (posOf σ.cC x-1)))/\w'=w:=by
 obtain⟨L,rfl,d⟩:=h;exact yg d x g
theorem RF.aiu(h:RF E f σ w)(n:Int):σ.de (dA σ.act n)=true:=by
 obtain⟨L,rfl,g⟩:=h;unfold dA;by_cases d:0<=n/\n<σ.act.length;grind[Wf.act,Rel.wf];rw[cZ d];rfl
def agN(h:RF E f σ w)(x:eG)(g:σ.de x=true):
  Calls prog 268 #[Bp E,oV f x] w λe w'=>e=dw (.bool (σ.We x))/\w'=w:=by
 have C:=h.alE x g;unfold N.We;cases x with
 |none=>
  go_enter func268,ntmps268;go_wp2;go_ret;simp
 |some i=>
  have d:oV f (some i)=cW (f i):=rfl;rw[d]at C|-;go_enter func268,ntmps268;go_wp21;refine C.mono ?_;rintro e w'⟨rfl,rfl⟩;go_wp2;go_ret;simp
theorem Bg(E:Env)(x:eG):gO E 284 (λf=>#[Bp E,oV f x]) (fC x) uV:=by
 intro f σ w ⟨L,e,h⟩ A;subst e;have S:=h.low (j:=1) (by decide) h.Dz.2.1;have⟨_,_,_,_,hd,_⟩:=h.Dz;have R:=h.Ep;have l:=(λq=>ait (h.drewN q));unfold fC at A|-;by_cases u:σ.ox<=σ.act.length
 .rw[dd u];have g:=(λq=>Qn (h.drewN q) 6);go_enter func284,ntmps284;go_wp21
  go_quiet ((go_at_call 263;exact Lc (l _)))
  go_wp21;refine(g nq).mono ?_;rintro e w'⟨k,rfl,B,I⟩;have C:=(Fr.drewN w nq).trans I;go_wp2;exact⟨rfl,k,rfl,B,C⟩
 .rw[cZ u]at A|-;have d:σ.de x=true:=by
   by_cases d:σ.de x=true;exact d;grind
  rw[dd d];have g:=(λq=>ajj (h.drewN q) x d (by omega));go_enter func284,ntmps284;go_wp21
  go_quiet ((go_at_call 263;exact Lc (l _)))
  go_wp21;refine(g nq).mono ?_;rintro e w'⟨rfl,H,e1,F,K⟩;have D:=(Fr.drewN w nq).trans K;go_wp2;go_end0;exact⟨rfl,⟨H,e1,F⟩,D,dr _⟩
theorem M.tail{α:Type}{m:M α}{R:nh α}(h:R=m σ):R=(m>>=λa=>(Pure.pure a:M α)) σ:=by grind[bind_pure]
def zi(E:Env):gO E 217 (λ_=>#[Bp E]) (fC none) uV:=by
 refine mI λf σ w R d HS H=>?_;go_enter func217,ntmps217;replace d:=V (M.tail d);go_wp21;refine mC (Bg E none) H d HS rfl mT ?_;rintro(_) σ w H g d;go_wp2;go_end0;exact gF d H rfl
def Uz(E:Env):gO E 283 (λ_=>#[Bp E]) tM uV:=by
 refine mI λf σ w R d HS H=>?_;unfold tM at d;go_enter func283,ntmps283;go_wp21;refine mC (aca E none) H d HS rfl mT ?_;rintro(_) σ w H g d;go_wp2;go_end0;exact gF d H rfl
def aa6:σ.eC ((xs++[x]).reverse)=if σ.We x then xs.length+1 else σ.eC xs.reverse:=by
 simp[N.eC]
attribute [local go_sem] Oper.semAt_some
theorem F1:∀{xs:gZ},(∀y∈xs,(!ir (σ.jg y) aV)=true\/y=dA σ.cC 0)->oo σ xs=none
 |[],_=>rfl
 |x::xs,h=>by
  unfold oo;rw[dd (by grind)];exact F1 λy d=>h y (by grind)
theorem F2(d:¬((!ir (σ.jg y) aV)=true\/y=dA σ.cC 0)):∀{xs:gZ},(∀y∈xs,(!ir (σ.jg y) aV)=true\/y=dA σ.cC 0)->oo σ (xs++[y]++rest)=some y
 |[],_=>by
  grind[oo]
 |x::xs,h=>by
  show oo σ (x::(xs++[y]++rest))=some y;unfold oo;rw[dd (by grind)];exact F2 d λy g=>h y (by grind)
def BN{d:J}{s:Nat}(l:Z [] W d)(A:Z [] w W)(hs:w.heap.size<=s)(u:d.heap[s]?=some (cV #[.pointer none,G 0] 231))(g h:cY):
  Z [s] W ((d.setCell ⟨s,0,none⟩ g).setCell ⟨s,1,none⟩ h)/\Z [] w ((d.setCell ⟨s,0,none⟩ g).setCell ⟨s,1,none⟩ h)/\((d.setCell ⟨s,0,none⟩ g).setCell ⟨s,1,none⟩ h).heap[s]?=some (cV #[g,h] 231):=
 ⟨((l.mono (by simp)).setCell (.inl (by simp)) _).setCell (.inl (by simp)) _,(((A.trans l)).setCell (.inr hs) _).setCell (.inr hs) _,bJ (bJ u 0 g) 1 h⟩
def aaR{d:J}{s:Nat}(u:Z [] W d)(A:Z [] w W)(hs:w.heap.size<=s)(l:d.heap[s]?=some (cV #[.pointer none,G 0] 231))(g h:cY)(o:Obj):
  Z [s] W (((d.setCell ⟨s,0,none⟩ g).setCell ⟨s,1,none⟩ h).alloc o)/\Z [] w (((d.setCell ⟨s,0,none⟩ g).setCell ⟨s,1,none⟩ h).alloc o)/\(((d.setCell ⟨s,0,none⟩ g).setCell ⟨s,1,none⟩ h).alloc o).heap[s]?=some (cV #[g,h] 231):=by
 have⟨h1,h2,h3⟩:=BN u A hs l g h;exact⟨h1.alloc _,h2.alloc _,((Z.refl [] _).alloc o).at h3 (by simp)⟩
theorem dO(E:Env):jj E:=by
 intro f σ w h hs;have aw:∃pl,fx σ=.ok pl σ:=by
  cases u:fx σ with
  |ok pl σ1=>exact⟨pl,by rw[kX u]⟩
  |stop c p=>
   exfalso;unfold fx at u;split at u;split at u;unfold gQ at u;split at u;split at u;grind;split at u;unfold eE at u;grind;grind;grind;cases u;split at u;unfold eE at u;grind;grind;grind
  |stuck=>grind
 have⟨pl0,hpl0⟩:=aw;have a8:σ.tq=true:=by
  cases ht:σ.tq with
  |true=>rfl
  |false=>unfold fx at hpl0;grind
 rw[hpl0];obtain⟨L,rfl,H⟩:=h;refine(vF (n:=3)).1 ?_;refine vG func261 rfl trivial ?_ rfl;simp only[ntmps261,vI,sg,tX,Nat.reduceAdd,Nat.reduceSub,vJ,vK,vL,vM,tw,oW];have aC:=H.lt;obtain⟨R,T⟩:∃R,R=(w.alloc (cV #[Bp E] 120)).alloc (cV #[.pointer none,G 0] 231):=⟨_,rfl⟩;have ak:Z [] w R:=by rw[T];exact((Z.refl _ _).alloc _).alloc _
 have aA:R.heap[w.heap.size]?=some (cV #[Bp E] 120):=by
  have:=(sM w (cV #[Bp E] 120) (cV #[.pointer none,G 0] 231)).1
  rwa [<-T]at this
 obtain⟨w1,a9⟩:∃w1,w1=R.alloc (cV #[oV L.dk (dA σ.cC 0)] 68):=⟨_,rfl⟩;have aq:Z [] w w1:=by rw[a9];exact ak.alloc _
 have⟨b0,b1,b2⟩:=nK w (cV #[Bp E] 120) (cV #[.pointer none,G 0] 231) (cV #[oV L.dk (dA σ.cC 0)] 68);rw[<-T,<-a9]at b0 b1 b2;have ad:R.heap.size=w.heap.size+1+1:=by rw[T];simp
 have U:w1.heap.size=w.heap.size+1+1+1:=by rw[a9];simp[ad]
 have CA:=alU (H.dB ak) 0;have aD:=H.dB aq;have⟨C,HL,hC⟩:=aD.x9;have HU:=aaA E.bs E.bB 188 _ C _ _ w1 HL;have HO:=(λg (hg:L.ov.ownBlock=some g)=>BV H.ng hg);have HN:=(λ(W:J) (F:Z [] w W) (i:Nat) (e:sZ) (hi:σ.db i=some e)=>(H.dB F).tI hi);have HS:=(λ(y:eG) (hy:y∈σ.cC)=>H.mO hy);have HI:=V H.inj;have HE:=(λ(W:J) (F:Z [] w W) (x:eG) (hx:σ.de x=true)=>(H.dB F).de hx);have HZ:=V U;have ag:=V ad;have az:=V T;have HW:=V a9;clear U a9 ad T;have aF:R.cell? ⟨w.heap.size,0,none⟩=some (Bp E):=by rw[aN aA];rfl
 have aI:E.bB<R.heap.size:=kL aC ak.size;have aK:w.heap.size<R.heap.size:=by have:=ag.out;omega
 gi_wp2_with fail
 rw[<-az.out];refine⟨trivial,(callsIn_wide.2 CA).mono ?_⟩;rintro e R⟨rfl,rfl⟩
 gi_wp2_with fail
 rw[<-HW.out];refine⟨trivial,(callsIn_wide.2 HU).mono ?_⟩;rintro e w'⟨rfl,rfl⟩;gi_wp2;refine D7 (by omega) (f:=eM L.dk) (λx y e=>pP HI.out e) HL rfl [] [w.heap.size+1] (by simp) (by grind)
  (λpre W=>Z [] w W/\W.heap[w.heap.size]?=some (cV #[Bp E] 120)/\W.heap[w.heap.size+1]?=some (cV #[.pointer none,G 0] 231)/\W.heap[R.heap.size]?=some (cV #[oV L.dk (dA σ.cC 0)] 68)/\∀y∈pre,(!ir (σ.jg y) aV)=true\/y=dA σ.cC 0)
  (λc pre W=>c=.ret/\Z [] w W/\∃I i pl,pre=I++[some i]/\(∀y∈I,(!ir (σ.jg y) aV)=true\/y=dA σ.cC 0)/\¬((!ir (σ.jg (some i)) aV)=true\/some i=dA σ.cC 0)/\gQ i σ=.ok pl σ/\W.heap[w.heap.size+1]?=some (cV #[cW (L.dk pl.1),G pl.2] 231))
  ?_ ?_ ?_ (λx=>{tmps:=#[Bp E,cW w.heap.size,cW (w.heap.size+1),cW R.heap.size,ig x,undef,undef,Bp E,cW E.bB,fR E.bB 188,oV L.dk (dA σ.cC 0),Bp E,cW E.bB,fR E.bB 188,tr w1.heap.size,ig x,undef,undef,undef,undef,undef,undef,undef,undef,undef,undef,undef,undef,undef,undef,undef,undef,undef,undef,undef,undef,undef,undef,undef,undef,undef],defers:=[]}) ?assign ?body ?done ?stopx
 rintro s A B aE⟨h1,h2,h3,h4,h5⟩ hg hr;have U:=HZ.out;have ad:=ag.out;exact⟨jG h1 hg hr (by omega),iE h2 hg hr (by omega),iE h3 hg hr (by omega),iE h4 hg hr (by omega),h5⟩;rintro c s A B aE⟨h0,h1,I,i,pl,h2,h3,h4,h5,h6⟩ hg hr;have U:=HZ.out;exact⟨h0,jG h1 hg hr (by omega),I,i,pl,h2,h3,h4,h5,iE h6 hg hr (by omega)⟩;have F:Z [] w1 (jR E.bB 188 (σ.cC.length) w1):=((Z.refl _ _).alloc _).alloc _;refine⟨aq.trans F,F.at b0 (by simp),F.at b1 (by simp),?_,by simp⟩;rw[ag.out];exact F.at b2 (by simp)
 case assign=>
  intro l x W K hK;gi_wp2;exact hK
 case body=>
  rintro l pre y W hy⟨S,h2,B3,B4,B5⟩;obtain⟨i,e0,rfl,hi⟩:=HS y hy;have a0:=H.dB S;have c0:=HN W S i e0 hi;have c1:W.cell? ⟨w.heap.size,0,none⟩=some (Bp E):=by rw[aN h2];rfl
  have c2:W.cell? ⟨R.heap.size,0,none⟩=some (oV L.dk (dA σ.cC 0)):=by rw[aN B4];rfl
  have a2:(binOp .eql 68 (cW (L.dk i)) (oV L.dk (dA σ.cC 0))).run prog W=.ok (.bool (decide (some i=dA σ.cC 0))) W:=by
   have aB:σ.de (dA σ.cC 0)=true:=by
    unfold dA;by_cases hn:(0:Int)<=0/\(0:Int)<σ.cC.length;rw[dd hn];have ar:0<σ.cC.length:=by omega
    show σ.de (σ.cC.getD 0 none)=true;rw[gG,pU ar];exact N.uu (a0.wf.cC _ (sd ar));rw[cZ hn];rfl
   have a2:=Br (HE W S (some i) (by show(σ.db i).isSome=true;rw[hi];rfl)) (HE W S _ aB);rw[decide_eq_decide.2 (⟨λe=>pP HI.out e,λe=>by rw[e]⟩:eM L.dk (some i)=eM L.dk (dA σ.cC 0)↔some i=dA σ.cC 0)]at a2;exact a2
  have ac:ir (σ.jg (some i)) aV=((σ.nm i).toList==[116,97,98,108,101]):=by
   show ir (σ.nm i) _=_;unfold ir;rw[vN aV]
  have B2:=V h2;have X:=V hi;clear h2 hi
  try dsimp only
  rw[show ig (eM L.dk (some i))=cW (L.dk i)from rfl];cases htb:((σ.nm i).toList==[116,97,98,108,101])with
  |false=>
   rw[htb]at ac;have HG:Hid ((!ir (σ.jg (some i)) aV)=true\/some i=dA σ.cC 0):=V (.inl (by rw[ac];rfl));have ax:((σ.nm i).toList != [116,97,98,108,101])=true:=by simp[bne,htb]
   gi_wp2;refine⟨Z.refl _ _,S,B2.out,B3,B4,λy hy=>?_⟩;grind
  |true=>
   rw[htb]at ac;have ax:((σ.nm i).toList != [116,97,98,108,101])=false:=by simp[bne,htb]
   by_cases a4:some i=dA σ.cC 0
   .rw[tu a4]at a2;have HG:Hid ((!ir (σ.jg (some i)) aV)=true\/some i=dA σ.cC 0):=V (.inr a4);gi_wp2;refine⟨Z.refl _ _,S,B2.out,B3,B4,λy hy=>?_⟩;grind
   .rw[xz a4]at a2;have HG:Hid (¬((!ir (σ.jg (some i)) aV)=true\/some i=dA σ.cC 0)):=V (by rw[ac];simp[a4]);have ap:(gQ i σ).isOk=true:=by
     have:=List.all_eq_true.1 a8 (some i) hy;simp only[Bool.or_eq_true,afs]at this;rcases this with(h|h)|h;exfalso;have e:ir (σ.jg (some i)) aV=ir (σ.nm i) aV:=rfl;grind;exact absurd h a4;exact h
    cases hp:e0.ff with
    |some p=>
     have a1:∃ep,σ.db p=some ep/\0<=lO ep.kids (Nd.de i)/\gQ i σ=.ok (p,(lO ep.kids (Nd.de i)).toNat) σ:=by
      have F:=ap;unfold gQ at F|-;rw[X.out]at F|-;simp only[hp]at F|-;cases u:σ.db p with
      |none=>rw[u]at F;simp[nh.isOk]at F
      |some ep=>
       simp only[u]at F|-;by_cases av:0<=lO ep.kids (Nd.de i);grind;rw[cZ av]at F;simp[nh.isOk]at F
     have⟨ep,a1,av,hfa⟩:=a1;have CF:=Ul a0 X.out hp a1;obtain⟨q,u⟩:∃q:Nat,lO ep.kids (Nd.de i)=(q:Int):=⟨(lO ep.kids (Nd.de i)).toNat,by omega⟩;rw[u]at CF hfa;have ae:Hid (gQ i σ=.ok (p,q) σ):=V (by rw[hfa];rfl);clear hfa
     gi_wp2_with fail
     refine⟨trivial,(vH l (callsIn_wide.2 CF)).mono ?_⟩;rintro e W2⟨rfl,al,an⟩;have d:=an.at B3 (by simp);have d0:W2.cell? ⟨w.heap.size+1,0,none⟩=some (.pointer none):=by rw[aN d];rfl
     have d1:W2.cell? ⟨w.heap.size+1,1,none⟩=some (G 0):=by rw[aN d];rfl
     have g0:=cQ d 0;have g1:=cQ d 1;have aH:w.heap.size+1<W2.heap.size:=eS d;have aa:=V d;gi_wp2;have⟨t1,t2,t3⟩:=aaR an S (afv _) aa.out (cW (L.dk p)) (G q) (cV #[cW (L.dk p),G q] 231);exact⟨t1,rfl,t2,pre,i,(p,q),rfl,B5,HG.out,ae.out,t3⟩
    |none=>
     have a1:∃q e,dA σ.cC (posOf σ.cC (some i)-1)=some q/\σ.db q=some e/\gQ i σ=.ok (q,e.kids.length) σ:=by
      have F:=ap;unfold gQ at F|-;rw[X.out]at F|-;simp only[hp]at F|-;cases u:dA σ.cC (posOf σ.cC (some i)-1)with
      |none=>rw[u]at F;simp[nh.isOk]at F
      |some q=>
       simp only[u]at F|-;unfold eE at F|-;cases hq2:σ.db q with
       |none=>rw[hq2]at F;simp[nh.isOk]at F
       |some e=>grind
     have⟨q,eq,ai,a3,hfa⟩:=a1;have CF:=Xq a0 X.out hp;have ae:=V hfa;have ay:=(λ(W':J) (F:Z [] W W')=>(show Calls prog 240 #[fR E.bB 188,cW (L.dk i)] W' (λe w'=>e=dw (cW (L.dk q))/\w'=W')from by
      have:=yg (a0.dB F) (some i) (by show(σ.db i).isSome=true;rw[X.out];rfl)
      rwa [ai]at this))
     have CE:=(λ(W':J) (F:Z [] W W')=>Uk (a0.dB F) a3);clear hfa
     gi_wp2_with fail
     refine⟨trivial,(vH l (callsIn_wide.2 CF)).mono ?_⟩;rintro e W2⟨rfl,al,aj⟩;have af:Z [] W (W2.alloc (cV #[.pointer none,G 0] 231)):=aj.alloc _;have e1:W2.cell? ⟨w.heap.size,0,none⟩=some (Bp E):=by rw[aN (aj.at B2.out (by simp))];rfl
     have aL:w.heap.size<W2.heap.size:=eS (aj.at B2.out (by simp))
     gi_wp2_with fail
     refine⟨trivial,(vH l (callsIn_wide.2 (ay _ af))).mono ?_⟩;rintro e W3⟨rfl,rfl⟩
     gi_wp2_with fail
     refine⟨trivial,(vH l (callsIn_wide.2 (CE _ af))).mono ?_⟩;rintro e W4⟨rfl,am,a6⟩;have ab:=af.trans a6;have d:=ab.at B3 (by simp);have d0:W4.cell? ⟨w.heap.size+1,0,none⟩=some (.pointer none):=by rw[aN d];rfl
     have d1:W4.cell? ⟨w.heap.size+1,1,none⟩=some (G 0):=by rw[aN d];rfl
     have g0:=cQ d 0;have g1:=cQ d 1;have aa:=V d;gi_wp2;have⟨t1,t2,t3⟩:=BN ab S (afv _) aa.out (cW (L.dk q)) (G eq.kids.length);exact⟨t1,rfl,t2,pre,i,(q,eq.kids.length),rfl,B5,HG.out,ae.out,t3⟩
 case done=>
  rintro D W HD⟨S,h2,B3,h4,h5⟩ hK;have a5:∃q e,dA σ.cC 0=some q/\σ.db q=some e/\pl0=(q,e.kids.length):=by
   have u:=hpl0;unfold fx at u;rw[dd a8,F1 h5]at u;simp only at u;cases hg:dA σ.cC 0 with
   |none=>grind
   |some q=>
    rw[hg]at u;simp only at u;unfold eE at u;grind
  obtain⟨q,eq,ai,a3,rfl⟩:=a5;have c2:W.cell? ⟨R.heap.size,0,none⟩=some (cW (L.dk q)):=by rw[aN h4,ai];rfl
  have CE:=Uk (H.dB S) a3;clear h2
  gi_wp2_with fail
  refine⟨trivial,(callsIn_wide.2 CE).mono ?_⟩;rintro e W4⟨rfl,am,a6⟩;have d:=a6.at B3 (by simp);have d0:W4.cell? ⟨w.heap.size+1,0,none⟩=some (.pointer none):=by rw[aN d];rfl
  have d1:W4.cell? ⟨w.heap.size+1,1,none⟩=some (G 0):=by rw[aN d];rfl
  have g0:=cQ d 0;have g1:=cQ d 1;have ao:=(a6.block D (Array.getElem?_eq_some_iff.1 hK).1 (by simp)).trans hK;have⟨t1,T2,T3⟩:=BN a6 S (afv _) d (cW (L.dk q)) (G eq.kids.length);have aa:=V d;have ab:=((((Z.refl [w.heap.size+1] W4).setCell (p:=⟨w.heap.size+1,0,none⟩) (.inl (by simp)) (cW (L.dk q))).setCell (p:=⟨w.heap.size+1,1,none⟩) (.inl (by simp)) (G eq.kids.length)).block D (Array.getElem?_eq_some_iff.1 ao).1 (by have:=HZ.out;grind)).trans ao;gi_wp2;refine⟨by simp,.inl ⟨_,_,rfl,QD ab,?_⟩⟩;have U:=HZ.out;have hD:=HD;have ah:(World.putObj _ D (.deferred none)).heap[w.heap.size+1]?=_:=(rR (by omega)).trans T3;have a7:=T2.take (D:=D) (by omega) (.deferred none);refine⟨pV L.dk (q,eq.kids.length),?_,rfl,⟨L,rfl,H.dB a7⟩,.df a7,dr _⟩;simp[results,results261,asAddr,Result.andThen,go_sem,aN ah]
 case stopx=>
  rintro D c pre W HD au⟨rfl,S,I,i,pl,rfl,h3,h4,h5,T3⟩ hK;have a5:pl0=pl:=by
   have⟨rest,hrest⟩:=au;have u:=hpl0;unfold fx at u;rw[dd a8,<-hrest,F2 h4 h3]at u;simp only at u;rw[h5]at u;cases u;rfl
  subst a5;gi_wp2;refine⟨by simp,.inl ⟨_,_,rfl,QD hK,?_⟩⟩;have U:=HZ.out;have hD:=HD;have ah:(World.putObj _ D (.deferred none)).heap[w.heap.size+1]?=_:=(rR (by omega)).trans T3;have a7:=S.take (D:=D) (by omega) (.deferred none);refine⟨pV L.dk pl0,?_,rfl,⟨L,rfl,H.dB a7⟩,.df a7,dr _⟩;simp[results,results261,asAddr,Result.andThen,go_sem,aN ah]
section
variable {α β:Type}{E:Env}{f0:Nat->Nat}{n0:Nat}{w0:J}{f:Nat->Nat}{σ:N}{w:J}
theorem eP.Rw{k:Nat}{args:(Nat->Nat)->fN}{m:M α}{d:(Nat->Nat)->α->cY}(D:eP E k args m d)(H:At E f0 n0 w0 f σ w){R:nh β}{K:α->M β}(l:R=(m>>=K) σ)(hs:R≠ .stuck){A:fN}(hA:args f=A){Q:Ending->J->Prop}
  (B:∀c p j w',R=.stop c p->ic w' j c p->Fr E.bs w0 w'->Q (oR j) w')
  (I:∀a g σ' w',At E f0 n0 w0 g σ' w'->UU σ.nodes.length f g->Fr E.bs w w'->R=K a σ'->m σ=.ok a σ'->Q (dw (d g a)) w'):Calls prog k A w Q:=by
 rw[M.cH]at l;have h:=D f σ w H.rel (λe=>hs (by grind));rw[hA]at h;refine h.mono ?_;intro e w' u;cases hr:m σ with
 |ok a σ'=>
  rw[hr]at u l;obtain⟨g,S,C,rfl,T,U⟩:=u;grind[At.go]
 |stop c p=>
  rw[hr]at u l;obtain⟨j,rfl,C,F⟩:=u;exact B c p j w' l C (H.fr.trans F)
 |stuck=>grind
theorem gO.Rw{k:Nat}{args:(Nat->Nat)->fN}{m:M α}{d:(Nat->Nat)->α->cY}(D:gO E k args m d)(H:At E f0 n0 w0 f σ w){R:nh β}{K:α->M β}(g:R=(m>>=K) σ)(hs:R≠ .stuck){A:fN}(hA:args f=A){Q:Ending->J->Prop}
  (u:∀c p j w',R=.stop c p->ic w' j c p->Fr E.bs w0 w'->Q (oR j) w')
  (F:∀a σ' w',At E f0 n0 w0 f σ' w'->Fr E.bs w w'->R=K a σ'->m σ=.ok a σ'->Q (dw (d f a)) w'):Calls prog k A w Q:=by
 rw[M.cH]at g;have h:=D f σ w H.rel (λe=>hs (by grind));rw[hA]at h;refine h.mono ?_;intro e w' l;cases hr:m σ with
 |ok a σ'=>
  rw[hr]at l g;obtain⟨rfl,I,S,T⟩:=l;grind[At.to]
 |stop c p=>
  rw[hr]at l g;obtain⟨j,rfl,B,C⟩:=l;exact u c p j w' g B (H.fr.trans C)
 |stuck=>grind
def mE{k:Nat}{args:(Nat->Nat)->fN}{m:M α}{d:(Nat->Nat)->α->cY}(D:gO E k args m d)(H:Hid (At E f0 n0 w0 f σ w)){R:nh β}{K:α->M β}(C:Hid (R=(m>>=K) σ))(hs:Hid (R≠ .stuck)){A:fN}(hA:args f=A){Q:Ending->J->Prop}
  (h:∀c p j w',Hid (R=.stop c p/\ic w' j c p/\Fr E.bs w0 w')->Q (oR j) w')
  (g:∀a σ' w',Hid (At E f0 n0 w0 f σ' w')->Hid (Fr E.bs w w')->Hid (R=K a σ')->Hid (m σ=.ok a σ')->Q (dw (d f a)) w'):Calls prog k A w Q:=gO.Rw D H C hs hA (λc p j w' l u B=>h c p j w' ⟨l,u,B⟩) g
end
def afP(h:RF E f σ w)(x y:eG)(hs:lE x y σ≠ .stuck):
  Calls prog 270 #[fR E.bB 189,oV f x,oV f y] w λe w'=>e=nu/\lE x y σ=.ok () {σ with act:=kB σ.act x y}/\RF E f {σ with act:=kB σ.act x y} w'/\Fr E.bs w w':=by
 have:=afQ E x y f σ w h hs;unfold lE at this hs|-;by_cases d:(σ.de x&&σ.de y)=true;rw[dd d]at this|-;exact this.mono (λe w' h=>⟨h.1,rfl,h.2.1,h.2.2.1⟩);rw[cZ d]at hs;exact absurd rfl hs
theorem TN(xs:gZ)(x y:eG):(kB xs x y).length=xs.length:=by
 grind[kB]
theorem SB(h:fP j σ=.ok () σ'):σ'.act=σ.act:=by
 unfold fP at h;rw[M.cH]at h;cases h1:gp σ with
 |stuck=>grind
 |stop c p=>grind
 |ok pl σ1=>
  have e1:σ1=σ:=by
   unfold gp at h1;cases hl:σ.last with
   |none=>grind
   |some i=>
    grind[jC,kX,placeFor]
  rw[e1]at h1;rw[h1]at h;simp only at h;rw[M.cH]at h;cases h2:fY pl j σ with
  |stuck=>grind
  |stop c p=>grind
  |ok u σ2=>
   have e2:σ2.act=σ.act:=by
    unfold fY at h2;split at h2;split at h2;cases h2;rfl;grind;cases h2
   rw[h2]at h;simp only at h;rw[M.cH]at h;cases h3:kA (some j) σ2 with
   |stuck=>grind
   |stop c p=>grind
   |ok u σ3=>
    rw[h3]at h;have d:σ3.act=σ2.act:=by
     unfold kA at h3;split at h3;cases h3;grind
    have:σ3=σ':=by
     cases h;rfl
    grind
theorem pR(E:Env)(hF:jj E):eP E 184 (λ_=>#[Bp E]) iK uV:=by
 intro f σ w I HS;obtain⟨R,hR⟩:∃R,R=iK σ:=⟨_,rfl⟩;rw[<-hR]at HS|-;have H:=At.start I;have a3:R=DK (σ.act.length-σ.ym) σ.ym σ:=hR;have A:=V a3;have C1:=I.alL;have am:=I.lt;have aw:σ.act.length<=4096:=by have⟨L,_,hr⟩:=I;exact hr.Ep
 have an:σ.ym<=σ.act.length:=by
  have:∀xs:gZ,σ.eC xs<=xs.length:=by
   intro xs
   induction xs with
   |nil=>simp[N.eC]
   |cons x xs ih=>
    show(if σ.We x then xs.length+1 else σ.eC xs)<=xs.length+1;split<;>omega
  have:=this σ.act.reverse
  rwa [List.length_reverse]at this
 clear hR a3;go_enter func184,ntmps184;go_wp21;refine C1.mono ?_;rintro e w⟨rfl,rfl⟩;go_wp21;rename_i K S;have a0:∀(u8 u9 a7 a8 a9 aa ab ac ad ae af ag ah ai aj:cY),K {tmps:=#[Bp E,undef,G σ.ym,undef,Bp E,cW E.bB,fR E.bB 189,G σ.act.length,u8,u9,a7,a8,a9,aa,ab,ac,ad,ae,af,ag,ah,ai,aj,undef,undef,undef,undef,undef,undef,undef,undef,undef,undef,undef,undef,undef,undef,undef,undef,undef,undef,undef,undef,undef,undef,undef,undef,undef,undef],defers:=[]} w:=by
  intro u8 u9 a7 a8 a9 aa ab ac ad ae af ag ah ai aj;refine S _ _ ?_;have av:=an;clear S C1;go_wp21
  go_loopw [2,3] (λv v3 wr=>∃(k n:Nat)(g:Nat->Nat)(σ1:N),v=G n/\n+k=σ.act.length/\At E f σ.nodes.length w g σ1 wr/\R=DK k n σ1/\σ1.act.length=σ.act.length) (λv _ _=>σ.act.length-(intOf v).toNat)
  case atStart=>exact⟨σ.act.length-σ.ym,σ.ym,f,σ,rfl,by omega,H,A,rfl⟩
  case round=>
   obtain⟨k,n,g,σ1,rfl,ax,H,a2,a1⟩:=hrel;have A:=V a2;have D:=H.rel.alL;rw[a1]at D;have am:=H.lt;clear a2;cases k with
   |zero=>
    have e0:(n:Int)=(σ.act.length:Int):=by omega
    have T:((n:Int)<(σ.act.length:Int))=False:=by simp;omega
    go_wp21;refine D.mono ?_;rintro e w'⟨rfl,rfl⟩;go_wp2;go_end0;exact cE A H rfl
   |succ k=>
    have T:(n:Int)<(σ.act.length:Int):=by omega
    have l:∃old,dA σ1.act (n:Int)=some old:=by
     cases hg:dA σ1.act (n:Int)with
     |some i=>simp
     |none=>
      exfalso;apply HS;rw[A.out];unfold DK;rw[M.cH];unfold yE;rw[hg]
    have⟨old,l⟩:=l;have u:=H.rel.aiu (n:Int);have h:=H.rel.atA (n:Int);rw[l]at h u;have al:=V (N.jy u);replace A:Hid (R=(fD old>>=λj=>(do
      fP j
      my old
      DK k (n+1):M Unit)) σ1):=by
     refine V (A.trans ?_);show(yE n>>=_) σ1=_;rw[M.cH];unfold yE;rw[l]
    clear l u;go_wp21;refine D.mono ?_;rintro e wr⟨rfl,rfl⟩;go_wp21;refine h.mono ?_;rintro e wr⟨rfl,rfl⟩;rw[show oV g (some old)=cW (g old)from rfl];clear h D;go_wp21;refine eP.Rw (MM E old) H A HS rfl ?_ ?_
    .intro c p j ws H1 H2 H3;go_wp2;exact⟨rfl,nk H1 H2 H3⟩
    rintro j g2 aq w2 U h0 h2 h3 C;have HX:=V h0;have HJ:Hid (aq.act=σ1.act):=by
     unfold fD at C;split at C;split at C;cases C;cases C;rfl;cases C
    clear C;replace H:=U;replace A:=V h3;clear U h0 h2 h3;go_wp21;refine gO.Rw (Dn E hF j) H A HS rfl ?_ ?_
    .intro c p j ws H1 H2 H3;go_wp2;exact⟨rfl,nk H1 H2 H3⟩
    rintro⟨⟩ B w3 U h2 h3 C;have ak:Hid (B.act=σ1.act):=V ((SB C).trans HJ);clear C;replace H:=U;replace A:=V h3;have ar:=U.lt;clear U h2 h3;have a5:lE (some old) B.last B≠ .stuck:=by
     intro ap;apply HS;rw[A.out,M.cH];unfold my;rw[ap]
    have CL:=(H.k0 ((Z.refl _ w3).drew)).rel.SM;have X:=afP (H.k0 ((Z.refl _ w3).drew)).rel (some old) B.last a5;rw[show oV g2 (some old)=cW (g old)from by show cW (g2 old)=_;rw[HX.out old al.out]]at X;clear a5;go_wp21
    go_region_with (first
     |(go_at_call 173;refine CL.mono ?_;rintro e w4⟨rfl,rfl⟩)
     |(go_at_call 270;refine X.mono ?_;rintro e w5⟨rfl,q1,q2,q3⟩;have HZ:=V ((H.k0 ((Z.refl _ w3).drew)).to q2 (qq _ _ rfl) q3);have HQ:=V q1;clear q1 q2 q3))
    all_goals (try (go_wp21))
    all_goals refine⟨⟨k,n+1,g2,_,by simp,by omega,HZ,?_,?_⟩,by simp[intOf];omega⟩
    rw[A.out,M.cH];unfold my;rw[HQ.out];show(kB B.act (some old) B.last).length=σ.act.length;rw[TN,ak.out];exact a1
 clear S H A C1
 go_loopw [2] (λv wr=>∃k:Nat,k<=σ.act.length/\v=G k/\σ.eC (σ.act.take k).reverse=σ.ym/\wr=w) (λv _=>(intOf v).toNat)
 case atStart=>grind[N.ym]
 case round=>
  obtain⟨k,hk,rfl,d,rfl⟩:=hrel;cases k with
  |zero=>
   have hz:σ.ym=0:=by rw[<-d];rfl
   have HZ:=V hz;clear hz d;go_wp2;have:=a0;rw[HZ.out]at this;simp_all
  |succ k=>
   have a4:k<σ.act.length:=by omega
   have e1:σ.act.take (k+1)=σ.act.take k++[σ.act[k]]:=by rw[GH,pU a4];rfl
   rw[e1,aa6]at d;have hg:dA σ.act ((k:Int))=σ.act[k]:=by
    unfold dA;rw[dd (by omega)];simp[List.getD,a4]
   have h:=I.atA (k:Int);have u:=I.aiu (k:Int);rw[hg]at h u;have F:=agN I _ u;have e2:((k+1:Nat):Int)-1=(k:Int):=by omega
   have au:(0:Int)<((k+1:Nat):Int):=by omega
   have a6:(σ.act.take k).length=k:=by simp;omega
   rw[a6]at d;clear e1 hg u a6;generalize hM:σ.We σ.act[k]=b at F d;clear hM;generalize oV f σ.act[k]=vv at h F;cases b with
   |true=>
    go_wp21;refine h.mono ?_;rintro e w⟨rfl,rfl⟩;go_wp21;refine F.mono ?_;rintro e w⟨rfl,rfl⟩;go_wp21;have:=a0;have ao:k+1=σ.ym:=by simpa using d
    rw[<-ao]at this;exact this _ _ _ _ _ _ _ _ _ _ _ _ _ _ _
   |false=>
    go_wp21;refine h.mono ?_;rintro e w⟨rfl,rfl⟩;go_wp21;refine F.mono ?_;rintro e w⟨rfl,rfl⟩;go_wp21;exact⟨⟨k,by omega,rfl,by simpa using d,trivial⟩,by simp[intOf]⟩
theorem sx(p q:O->Bool)(σ:N):iI p q σ=.ok (σ.inScope p q) (σ.close p q):=by
 grind[iI,N.close]
def Cz(h:RF E f σ w){l u:Nat}{d g:fN}(A:Ask E.bm (.func (.func l) #[] d) p w)(B:Ask E.bm (.func (.func u) #[] g) q w):
  Calls prog 222 #[Bp E,.func (.func l) #[] d,.func (.func u) #[] g] w λe w'=>e=dw (.bool (σ.inScope p q))/\RF E f (σ.close p q) w'/\Fr E.bs w w':=by
 have:=xR h A B;rw[sx]at this;exact this.mono (λe w' h=>⟨h.1,h.2.1,h.2.2.1⟩)
theorem wU(σ:N)(p q:O->Bool):σ.nodes.length<=(σ.close p q).nodes.length:=by
 grind[N.close,N.yw]
def DX(E:Env)(t:cR)(h:RF E f σ w):∃a b d n g,∀w,Calls prog 171 #[dJ E t] w λe w'=>e=dw (.agg #[G a,G b,Y t.name,.slice d n g])/\Z [] w w':=by
 have⟨d,n,g,htv⟩:=h.tv;have C:=λw=>xr E t w ⟨d,n,g,htv⟩;have⟨a,b,k,cU⟩:=t;cases k<;>simp[yv,htv]at C|-
 all_goals exact⟨_,_,_,_,_,C⟩
def Pb(E:Env)(t:cR):eP E 206 (λ_=>#[Bp E,dJ E t]) (nD) uV:=by
 refine dI λf σ w R u HS H=>?_;unfold nD at u;go_enter func206,ntmps206;have⟨kb,lbb,cb,HQ⟩:=H.rel.bounds;have C:=H.lt;have B:=cb;have I:=(Z.refl [] w).drew;replace u:Hid (R=.ok () (σ.close (da [px,py]) (dG))):=by
  have:=u;rw[M.cH,sx]at this;exact V this
 go_wp21
 go_region_with (first
   |(go_at_call 273;refine(F5 E _).mono ?_;rintro e T⟨X,S,rfl,h,l⟩;have g:=I.trans l;have U:T.cell? ⟨E.bB,186,none⟩=some (.func (.func kb) #[] lbb):=(g.cell (p:=⟨E.bB,186,none⟩) C (by simp)).trans B;have A:=V h;have d:=V g;clear h l g)
   |(go_at_call 222;refine(Cz (p:=da [px,py]) (q:=dG) (H.k0 d).rel A (HQ.k0 d)).mono ?_;rintro e w2⟨rfl,D,F⟩;have K:=V ((H.k0 d).to D (wU _ _ _) F);clear D F))
 all_goals (try (go_wp21))
 all_goals go_wp2
 all_goals go_end0
 all_goals exact cE u K rfl
def Jd(E:Env)(s:O):eP E 213 (λ_=>#[Bp E,Y s]) (nT s) uV:=by
 refine dI λf σ w R u HS H=>?_;unfold nT at u;go_enter func213,ntmps213;have⟨kb,lbb,cb,HQ⟩:=H.rel.Ij;have C:=H.lt;have B:=cb;have I:=(Z.refl [] w).drew;replace u:Hid (R=.ok () (σ.close (da [s]) (iG))):=by
  have:=u;rw[M.cH,sx]at this;exact V this
 go_wp21
 go_region_with (first
   |(go_at_call 219;refine(kH E [s] w.drew (by simp)).mono ?_;rintro e T⟨X,S,rfl,h,l⟩;have g:=I.trans l;have U:T.cell? ⟨E.bB,184,none⟩=some (.func (.func kb) #[] lbb):=(g.cell (p:=⟨E.bB,184,none⟩) C (by simp)).trans B;have A:=V h;have d:=V g;clear h l g)
   |(go_at_call 222;refine(Cz (p:=da [s]) (q:=iG) (H.k0 d).rel A (HQ.k0 d)).mono ?_;rintro e w2⟨rfl,D,F⟩;have K:=V ((H.k0 d).to D (wU _ _ _) F);clear D F))
 all_goals (try (go_wp21))
 all_goals go_wp2
 all_goals go_end0
 all_goals exact cE u K rfl
def Z4(E:Env)(t:cR):eP E 203 (λ_=>#[Bp E,dJ E t]) (rj) uV:=by
 refine dI λf σ w R g HS H=>?_;unfold rj at g;go_enter func203,ntmps203;have⟨kb,lbb,cb,HQ⟩:=H.rel.bounds;have F:=H.lt;have C:=cb;have I:=(Z.refl [] w).drew;go_wp21
 go_cut [11]from 4 to 10 (λr wc=>r=.bool (σ.inScope (da [aZ]) (dG))/\At E f σ.nodes.length w f (σ) wc)
 case first=>
  go_region_with (first
   |(go_at_call 219;refine(kH E [aZ] w.drew (by simp)).mono ?_;rintro e U⟨k1,T,rfl,l,u⟩;have h:=I.trans u;have X:U.cell? ⟨E.bB,186,none⟩=some (.func (.func kb) #[] lbb):=(h.cell (p:=⟨E.bB,186,none⟩) F (by simp)).trans C;have B:=V l;have d:=V h;clear l u h)
   |(go_at_call 232;refine(uJ (H.k0 d).rel (da [aZ]) (dG) _ _ B (HQ.k0 d)).mono ?_;rintro e w2⟨rfl,A⟩;have K:=V ((H.k0 d).k0 A);clear A))
  all_goals (try (go_wp21))
  all_goals (go_meet;exact⟨rfl,K⟩)
 case rest=>
  obtain⟨rfl,D⟩:=hcut;replace H:=D;cases hc:σ.inScope (da [aZ]) dG with
  |true=>
   replace g:Hid (R=.ok () {σ with mode:=16}):=by
    have:=g;rw[dd hc]at this;exact V this
   have c2:=H.pK;have f2:=H.free 192;have S:=H.lt;replace H:=H.eV 16;go_wp2;go_end0;exact cE g H rfl
  |false=>
   replace g:Hid (R=.ok () σ):=by
    have:=g;rw[cZ (by simp[hc])]at this;exact V this
   go_wp2;go_end0;exact cE g H rfl
def aaa(E:Env)(rec:Nat->cR->M Unit)(hA:∀(m:Nat)(t:cR),eY E t->eP E 165 (λ_=>#[Bp E,G m,dJ E t]) (rec m t) uV)(t:cR)(T:eY E t):eP E 204 (λ_=>#[Bp E,dJ E t]) (rn rec t) uV:=by
 refine dI λf σ w R d HS H=>?_;unfold rn at d;go_enter func204,ntmps204;have⟨kb,lbb,cb,HQ⟩:=H.rel.bounds;have F:=H.lt;have C:=cb;have I:=(Z.refl [] w).drew;go_wp21
 go_cut [11]from 4 to 10 (λr wc=>r=.bool (σ.inScope (da [aZ]) (dG))/\At E f σ.nodes.length w f (σ) wc)
 case first=>
  go_region_with (first
   |(go_at_call 219;refine(kH E [aZ] w.drew (by simp)).mono ?_;rintro e X⟨k1,U,rfl,l,u⟩;have h:=I.trans u;have c1:X.cell? ⟨E.bB,186,none⟩=some (.func (.func kb) #[] lbb):=(h.cell (p:=⟨E.bB,186,none⟩) F (by simp)).trans C;have B:=V l;have g:=V h;clear l u h)
   |(go_at_call 232;refine(uJ (H.k0 g).rel (da [aZ]) (dG) _ _ B (HQ.k0 g)).mono ?_;rintro e w2⟨rfl,A⟩;have K:=V ((H.k0 g).k0 A);clear A))
  all_goals (try (go_wp21))
  all_goals (go_meet;exact⟨rfl,K⟩)
 case rest=>
  obtain⟨rfl,D⟩:=hcut;replace H:=D;cases hc:σ.inScope (da [aZ]) dG with
  |true=>
   replace d:Hid (R=(gh rec t>>=λ_=>(Pure.pure ():M Unit)) {σ with mode:=16}):=by
    have:=d;rw[dd hc]at this;exact V this
   have c2:=H.pK;have f2:=H.free 192;have S:=H.lt;replace H:=H.eV 16;go_wp21;refine dC (rN E rec hA t T) H d HS rfl lT ?_;rintro(_) f σ w H HX HF d;go_wp2;go_end0;exact cE d H rfl
  |false=>
   replace d:Hid (R=.ok () σ):=by
    have:=d;rw[cZ (by simp[hc])]at this;exact V this
   go_wp2;go_end0;exact cE d H rfl
def pt(E:Env)(hF:jj E)(t:cR)(l:eY E t):eP E 116 (λ_=>#[Bp E,dJ E t]) (iX t) uV:=by
 refine dI λf σ w R d HS H=>?_;go_enter func116,ntmps116;go_wp21;refine dC (pR E hF) H d HS rfl lT ?_;rintro(_) f σ w H h g d;go_wp21;refine dC (jb E hF t l) H d HS rfl lT ?_;rintro(_) f σ w H h g d;go_wp2;go_end0;exact cE d H rfl
def Uh(E:Env)(hF:jj E)(t:cR)(l:eY E t):eP E 198 (λ_=>#[Bp E,dJ E t]) (pu t) uV:=by
 refine dI λf σ w R d HS H=>?_;go_enter func198,ntmps198;go_wp21;refine dC (pR E hF) H d HS rfl lT ?_;rintro(_) f σ w H h g d;go_wp21;refine dC (ut E hF t l) H d HS rfl lT ?_;rintro(_) f σ w H h g d;go_wp2;go_end0;exact cE d H rfl
def O0(E:Env)(hF:jj E)(t:cR):eP E 114 (λ_=>#[Bp E,dJ E t]) (iV t) uV:=by
 refine dI λf σ w R d HS H=>?_;unfold iV at d;go_enter func114,ntmps114;have C:=JH E t w;cases hn:rD t.chars with
 |true=>
  rw[hn]at C d;replace d:Hid (R=.ok () σ):=d;go_wp21;refine C.mono ?_;rintro e w⟨rfl,g⟩;replace H:=H.k0 g;go_wp2;go_end0;exact cE d H rfl
 |false=>
  rw[hn]at C d;replace d:=d;go_wp21;refine C.mono ?_;rintro e w⟨rfl,g⟩;replace H:=H.k0 g;go_wp21;refine dC (pR E hF) H d HS rfl lT ?_;rintro(_) f σ w H l h d;go_wp21;refine dC (ur E hF t) H d HS rfl lT ?_;rintro(_) f σ w H l h d;go_wp2;go_end0;exact cE d H rfl
def IR(E:Env)(hF:jj E)(t:cR):eP E 140 (λ_=>#[Bp E,dJ E t]) (jl t) uV:=by
 refine dI λf σ w R d HS H=>?_;unfold jl at d;go_enter func140,ntmps140;have C:=JH E t w;cases hn:rD t.chars with
 |true=>
  rw[hn]at C d;replace d:Hid (R=.ok () σ):=d;go_wp21;refine C.mono ?_;rintro e w⟨rfl,g⟩;replace H:=H.k0 g;go_wp2;go_end0;exact cE d H rfl
 |false=>
  rw[hn]at C d;replace d:Hid (R=(gw t>>=λ_=>(pure ():M Unit)) σ):=d;go_wp21;refine C.mono ?_;rintro e w⟨rfl,g⟩;replace H:=H.k0 g;go_wp21;refine dC (ur E hF t) H d HS rfl lT ?_;rintro(_) f σ w H l h d;go_wp2;go_end0;exact cE d H rfl
def KJ(E:Env)(hF:jj E)(t:cR)(A:eY E t):eP E 189 (λ_=>#[Bp E,dJ E t]) (jQ t) uV:=by
 refine dI λf σ w R d HS H=>?_;unfold jQ at d;go_enter func189,ntmps189;go_wp21;refine zI (λu=>wT H.rel u) H d HS lT ?_;rintro(_) σ w H l d;go_wp21;refine(F5 E _).mono ?_;rintro e w⟨D,B,rfl,g,h⟩;replace H:=H.k0 h;go_wp21;refine zI (λ_=>uw H.rel g) H d HS lT ?_;rintro(_) σ w H l d;go_wp21;refine dC (jb E hF t A) H d HS rfl lT ?_;rintro(_) f σ w H C l d;go_wp2;go_end0;exact cE d H rfl
def abj(E:Env)(hF:jj E)(t:cR)(l:eY E t):eP E 190 (λ_=>#[Bp E,dJ E t]) (sY t) uV:=by
 refine dI λf σ w R d HS H=>?_;unfold sY at d;go_enter func190,ntmps190;go_wp21;refine zI (λh=>wT H.rel h) H d HS lT ?_;rintro(_) σ w H g d;go_wp21;refine dC (ut E hF t l) H d HS rfl lT ?_;rintro(_) f σ w H u g d;go_wp2;go_end0;exact cE d H rfl
def My(E:Env)(hF:jj E)(t:cR)(u:eY E t):eP E 196 (λ_=>#[Bp E,dJ E t]) (jY t) uV:=by
 refine dI λf σ w R d HS H=>?_;unfold jY at d;go_enter func196,ntmps196;go_wp21;refine(kH E [dj] _ (by decide)).mono ?_;rintro e w⟨C,A,rfl,g,h⟩;replace H:=H.k0 h;go_wp21;refine zI (λ_=>uw H.rel g) H d HS lT ?_;rintro(_) σ w H l d;go_wp21;refine dC (pt E hF t u) H d HS rfl lT ?_;rintro(_) f σ w H B l d;go_wp2;go_end0;exact cE d H rfl
def y7(E:Env)(hF:jj E)(t:cR)(u:eY E t):eP E 141 (λ_=>#[Bp E,dJ E t]) (fA t) uV:=by
 refine dI λf σ w R d HS H=>?_;unfold fA at d;go_enter func141,ntmps141;go_wp21;refine(sH E _).mono ?_;rintro e w⟨C,A,rfl,g,h⟩;replace H:=H.k0 h;go_wp21;refine zI (λ_=>uw H.rel g) H d HS lT ?_;rintro(_) σ w H l d;go_wp21;refine dC (jb E hF t u) H d HS rfl lT ?_;rintro(_) f σ w H B l d;go_wp2;go_end0;exact cE d H rfl
def qO(E:Env)(hF:jj E)(t:cR)(B:eY E t):eP E 142 (λ_=>#[Bp E,dJ E t]) (eN t) uV:=by
 refine dI λf σ w R d HS H=>?_;unfold eN at d;go_enter func142,ntmps142;go_wp21;refine(sH E _).mono ?_;rintro e w⟨I,C,rfl,g,l⟩;replace H:=H.k0 l;go_wp21;refine zI (λ_=>uw H.rel g) H d HS lT ?_;rintro(_) σ w H A d;go_wp21;refine(pj E _).mono ?_;rintro e w⟨K,D,rfl,h,u⟩;replace H:=H.k0 u;go_wp21;refine zI (λ_=>uw H.rel h) H d HS lT ?_;rintro(_) σ w H A d;go_wp21;refine dC (jb E hF t B) H d HS rfl lT ?_;rintro(_) f σ w H F A d;go_wp2;go_end0;exact cE d H rfl
def DS(E:Env)(hF:jj E)(t:cR)(h:eY E t):eP E 143 (λ_=>#[Bp E,dJ E t]) (im t) uV:=by
 refine dI λf σ w R d HS H=>?_;unfold im at d;go_enter func143,ntmps143;go_wp21;refine dC (qO E hF t h) H d HS rfl lT ?_;rintro(_) f σ w H l g d;go_wp21;refine mC (BP E) H d HS rfl lT ?_;rintro(_) σ w H g d;go_wp2;go_end0;exact cE d H rfl
def AG(E:Env)(t:cR):eP E 146 (λ_=>#[Bp E,dJ E t]) (gP) uV:=by
 refine dI λf σ w R d HS H=>?_;unfold gP at d;go_enter func146,ntmps146;go_wp21;refine(sH E _).mono ?_;rintro e w⟨A,l,rfl,g,h⟩;replace H:=H.k0 h;go_wp21;refine zI (λ_=>uw H.rel g) H d HS lT ?_;rintro(_) σ w H u d;go_wp2;go_end0;exact cE d H rfl
def Mw(E:Env)(hF:jj E)(t:cR)(h:eY E t):eP E 202 (λ_=>#[Bp E,dJ E t]) (kR t) uV:=by
 refine dI λf σ w R d HS H=>?_;unfold kR at d;go_enter func202,ntmps202;go_wp21;refine dC (pt E hF t h) H d HS rfl lT ?_;rintro(_) f σ w H l g d;go_wp21;refine mC (zi E) H d HS rfl lT ?_;rintro(_) σ w H g d;go_wp2;go_end0;exact cE d H rfl
def KH(E:Env)(hF:jj E)(t:cR)(u:eY E t):eP E 120 (λ_=>#[Bp E,dJ E t]) (kK t) uV:=by
 refine dI λf σ w R d HS H=>?_;unfold kK at d;go_enter func120,ntmps120;go_wp21;refine(Of E _).mono ?_;rintro e w⟨I,A,rfl,g,h⟩;replace H:=H.k0 h;go_wp21;refine zI (λ_=>Er H.rel g) H d HS lT ?_;rintro(_) σ w H l d;go_wp21;refine mC (zi E) H d HS rfl lT ?_;rintro(_) σ w H l d;go_wp21;refine dC (jb E hF t u) H d HS rfl lT ?_;rintro(_) f σ w H B l d;have C:=H.pK;have D:=H.free 192;have F:=H.lt;replace H:=H.eV 9;go_wp2;go_end0;exact cE d H rfl
def aac(E:Env)(t:cR):eP E 207 (λ_=>#[Bp E,dJ E t]) (uk) uV:=by
 refine dI λf σ w R h HS H=>?_;unfold uk at h;go_enter func207,ntmps207;go_wp21;refine(kH E [nN] _ (by decide)).mono ?_;rintro e w⟨D,A,rfl,d,u⟩;replace H:=H.k0 u;go_wp21;refine(Md H.rel).mono ?_;rintro e w⟨F,B,rfl,l,g⟩;replace H:=H.k0 g;replace d:=d.k0 g;go_wp21;refine zI (λ_=>xR H.rel d l) H h HS lT ?_;rintro(_) σ w H C h;go_wp2;go_end0;exact cE h H rfl
def VE(E:Env)(hF:jj E)(t:cR):eP E 209 (λ_=>#[Bp E,dJ E t]) (oC) uV:=by
 refine dI λf σ w R d HS H=>?_;unfold oC at d;go_enter func209,ntmps209;go_wp21;refine dC (pR E hF) H d HS rfl lT ?_;rintro(_) f σ w H h g d;go_wp21;refine dC (sU E hF jM) H d HS rfl lT ?_;rintro(_) f σ w H h g d;go_wp21;refine mC (BP E) H d HS rfl lT ?_;rintro(_) σ w H g d;go_wp2;go_end0;exact cE d H rfl
def VB(E:Env)(t:cR):eP E 205 (λ_=>#[Bp E,dJ E t]) (ri t) uV:=by
 refine dI λf σ w R D HS H=>?_;unfold ri at D;go_enter func205,ntmps205;have⟨kb,lbb,cb,HQ⟩:=H.rel.bounds;have h:=H.lt;have l:=cb;have u:=(Z.refl [] w).drew;have⟨ta,tb,tao,tn,tcp,HTG⟩:=DX E t H.rel;have U:=λw=>zV ta tb t.name tao tn tcp w;replace D:Hid (R=.ok () (σ.close (da [t.name]) (dG))):=by
  have:=D;rw[M.cH,sx]at this;exact V this
 go_wp21
 go_region_with (first
   |(go_at_call 171;refine(HTG _).mono ?_;rintro e I⟨rfl,C⟩;have u:=V (u.trans C);have c3:I.cell? ⟨E.bB,186,none⟩=some (.func (.func kb) #[] lbb):=(u.cell (p:=⟨E.bB,186,none⟩) h (by simp)).trans l;have X:E.bB<I.heap.size:=kL h u.size;clear C)
   |(go_at_call 219;refine(kH E [t.name] I (by simp)).mono ?_;rintro e w1⟨k1,a0,rfl,A,B⟩;have g:=u.trans B;have c1:w1.cell? ⟨E.bB,186,none⟩=some (.func (.func kb) #[] lbb):=(g.cell (p:=⟨E.bB,186,none⟩) h (by simp)).trans l;have F:=V A;have d:=V g;clear A B g)
   |(go_at_call 222;refine(Cz (p:=da [t.name]) (q:=dG) (H.k0 d).rel F (HQ.k0 d)).mono ?_;rintro e w2⟨rfl,K,S⟩;have T:=V ((H.k0 d).to K (wU _ _ _) S);clear K S))
 all_goals (try (go_wp21))
 all_goals go_wp2
 all_goals go_end0
 all_goals exact cE D T rfl
def Dd(E:Env)(rec:Nat->cR->M Unit)(hA:∀(m:Nat)(t:cR),eY E t->eP E 165 (λ_=>#[Bp E,G m,dJ E t]) (rec m t) uV)(t:cR)(l:eY E t):eP E 129 (λ_=>#[Bp E,dJ E t]) (oF rec t) uV:=by
 refine dI λf σ w R d HS H=>?_;unfold oF at d;go_enter func129,ntmps129;have g:=H.acw;have h:=H.free 195;replace H:=H.xj true;go_wp21;refine dC (hA 6 t l) H d HS rfl lT ?_;rintro(_) f σ w H A u d;have g:=H.acw;have h:=H.free 195;have H.lt:=H.lt;replace H:=H.xj false;go_wp2;go_end0;exact cE d H rfl
def LG(E:Env)(rec:Nat->cR->M Unit)(hA:∀(m:Nat)(t:cR),eY E t->eP E 165 (λ_=>#[Bp E,G m,dJ E t]) (rec m t) uV)(t:cR)(l:eY E t):eP E 119 (λ_=>#[Bp E,dJ E t]) (iZ rec t) uV:=by
 refine dI λf σ w R d HS H=>?_;unfold iZ at d;go_enter func119,ntmps119;go_wp21;refine(A9 E _).mono ?_;rintro e w⟨T,B,rfl,g,h⟩;replace H:=H.k0 h;have C:=Al H.rel g;cases hc:σ.current zU with
 |true=>
  rw[hc]at C;replace d:Hid (R=(gh rec t>>=λ_=>(pure ():M Unit)) {σ with kept:=σ.mode,mode:=8}):=by
   have:=d;rw[dd hc]at this;exact V this
  go_wp21;refine C.mono ?_;rintro e w⟨rfl,rfl⟩;have D:=H.pK;have I:=H.free 192;have F:=H.Ve;have K:=H.free 193;have S:=H.lt;replace H:=(H.xl σ.mode).eV 8;go_wp21;refine dC (rN E rec hA t l) H d HS rfl lT ?_;rintro(_) f σ w H A u d;go_wp2;go_end0;exact cE d H rfl
 |false=>
  rw[hc]at C;replace d:Hid (R=(oF rec t>>=λ_=>(pure ():M Unit)) σ):=by
   have:=d;rw[cZ (by simp[hc])]at this;exact V this
  go_wp21;refine C.mono ?_;rintro e w⟨rfl,rfl⟩;go_wp21;refine dC (Dd E rec hA t l) H d HS rfl lT ?_;rintro(_) f σ w H A u d;go_wp2;go_end0;exact cE d H rfl
def Ez(h:RF E f σ w){ks:List O}(m:Nat)(A:Ask E.bm (.func (.func k) #[] lb) (da ks) w)(hs:(ol ks m) σ≠ .stuck):Calls prog 230 #[Bp E,.func (.func k) #[] lb,G m] w (gX E f σ.nodes.length w ((ol ks m) σ) bV):=by
 obtain⟨R,l⟩:∃R,R=(ol ks m) σ:=⟨_,rfl⟩;rw[<-l]at hs|-;unfold ol at l;have H:=At.start h;have d:=V l;clear l;go_enter func230,ntmps230;go_wp21;refine(vC E _).mono ?_;rintro e w⟨K,B,rfl,u,g⟩;replace H:=H.k0 g;replace A:=A.k0 g;go_wp21;refine zI (λ_=>xR H.rel A u) H d hs mT ?_;rintro(b) σ w H C d;cases b with
 |false=>
  go_wp2;go_ret;exact gF d H rfl
 |true=>
  replace d:=d;have D:=H.pK;have F:=H.free 192;have I:=H.lt;replace H:=H.eV m;go_wp2;go_ret;exact gF d H rfl
def yJ(h:RF E f σ w){ks:List O}(m:Nat)(u:Ask E.bm (.func (.func k) #[] lb) (da ks) w)(hs:(gH ks m) σ≠ .stuck):Calls prog 229 #[Bp E,.func (.func k) #[] lb,G m] w (gX E f σ.nodes.length w ((gH ks m) σ) bV):=by
 obtain⟨R,g⟩:∃R,R=(gH ks m) σ:=⟨_,rfl⟩;rw[<-g]at hs|-;have H:=At.start h;have d:=V g;clear g;go_enter func229,ntmps229;go_wp21;refine zI (λA=>Ez H.rel m u A) H d hs mT ?_;rintro(b) σ w H l d;cases b with
 |false=>
  go_wp2;go_ret;exact gF d H rfl
 |true=>
  replace d:=d;go_wp21;refine mC (Uz E) H d hs rfl mT ?_;rintro(_) σ w H l d;go_wp2;go_ret;exact gF d H rfl
def VN(E:Env):gO E 125 (λ_=>#[Bp E]) pN bV:=by
 refine mI λf σ w R d HS H=>?_;unfold pN at d;go_enter func125,ntmps125;go_wp21;refine(Of E _).mono ?_;rintro e w⟨D,B,rfl,h,u⟩;replace H:=H.k0 u;go_wp21;refine(vC E _).mono ?_;rintro e w⟨F,C,rfl,l,g⟩;replace H:=H.k0 g;replace h:=h.k0 g;go_wp21;refine zI (λ_=>xR H.rel h l) H d HS mT ?_;rintro(b) σ w H A d;cases b with
 |false=>
  go_wp2;go_ret;exact gF d H rfl
 |true=>
  replace d:=d;go_wp21;refine zI (λ_=>YP H.rel) H d HS mT ?_;rintro(_) σ w H A d;go_wp2;go_ret;exact gF d H rfl
def O9(E:Env):gO E 132 (λ_=>#[Bp E]) oD bV:=by
 refine mI λf σ w R d HS H=>?_;unfold oD at d;go_enter func132,ntmps132;replace d:=V (M.tail d);go_wp21;refine(kH E [cO] _ (by decide)).mono ?_;rintro e w⟨B,u,rfl,g,h⟩;replace H:=H.k0 h;go_wp21;refine zI (λl=>yJ H.rel 7 g l) H d HS mT ?_;rintro(b) σ w H A d;go_wp2;go_ret;exact gF d H rfl
def Jf(E:Env):gO E 135 (λ_=>#[Bp E]) lH bV:=by
 refine mI λf σ w R d HS H=>?_;go_enter func135,ntmps135;replace d:=V (M.tail d);go_wp21;refine(KU E _).mono ?_;rintro e w⟨B,u,rfl,g,h⟩;replace H:=H.k0 h;go_wp21;refine zI (λl=>Ez H.rel 7 g l) H d HS mT ?_;rintro(b) σ w H A d;go_wp2;go_ret;exact gF d H rfl
def ac2(E:Env):gO E 138 (λ_=>#[Bp E]) zp bV:=by
 refine mI λf σ w R d HS H=>?_;go_enter func138,ntmps138;replace d:=V (M.tail d);go_wp21;refine(YQ E _).mono ?_;rintro e w⟨B,u,rfl,g,h⟩;replace H:=H.k0 h;go_wp21;refine zI (λl=>Ez H.rel 11 g l) H d HS mT ?_;rintro(b) σ w H A d;go_wp2;go_ret;exact gF d H rfl
def Z6(E:Env):gO E 139 (λ_=>#[Bp E]) endCell bV:=by
 refine mI λf σ w R d HS H=>?_;go_enter func139,ntmps139;replace d:=V (M.tail d);go_wp21;refine(ZO E _).mono ?_;rintro e w⟨B,u,rfl,g,h⟩;replace H:=H.k0 h;go_wp21;refine zI (λl=>yJ H.rel 12 g l) H d HS mT ?_;rintro(b) σ w H A d;go_wp2;go_ret;exact gF d H rfl
def Ew(E:Env):gO E 133 (λ_=>#[Bp E]) gE bV:=by
 refine mI λf σ w R d HS H=>?_;unfold gE at d;go_enter func133,ntmps133;go_wp21;refine(kH E [bY] _ (by decide)).mono ?_;rintro e w⟨F,l,rfl,g,h⟩;replace H:=H.k0 h;have C:=Al H.rel g;cases hc:σ.current (da [bY])with
 |true=>
  rw[hc]at C;replace d:=by
   have:=d;rw[dd hc]at this;exact V this
  go_wp21;refine C.mono ?_;rintro e w⟨rfl,rfl⟩;go_wp21;refine mC (BP E) H d HS rfl mT ?_;rintro(_) σ w H u d;have A:=H.pK;have B:=H.free 192;have D:=H.lt;replace H:=H.eV 7;go_wp2;go_ret;exact gF d H rfl
 |false=>
  rw[hc]at C;replace d:Hid (R=.ok false σ):=by
   have:=d;rw[cZ (by simp[hc])]at this;exact V this
  go_wp21;refine C.mono ?_;rintro e w⟨rfl,rfl⟩;go_wp2;go_ret;exact gF d H rfl
end
end Go.Proofs.YthnijkkcimlnjaaGreatDoor
