import Derived.Test.YtlhhgenpcjjajaaGreatDoorRuB
import Derived.Deep.QuietTactic
import Derived.BigQuiet
import Derived.RangeFuncWrites
import Derived.Sort.BigQuietIn
import Derived.RegionIn
import Derived.TacticsIn
set_option linter.unusedSimpArgs false
set_option linter.unusedVariables false
set_option linter.defProp false
set_option maxHeartbeats 0
set_option maxRecDepth 100000
namespace Go.Proofs.YtlhhgenpcjjajaaGreatDoor
open Go.RowKit Tryz
def UV:=@List.map_congr_left
def nk:=@Nat.le_of_eq
def P5:=@Nat.add_sub_cancel
def Mv:=@Calls.quiet_of_same
def Fs:=@beq_eq_false_iff_ne
def C9:=@List.drop_eq_getElem_cons
def ad9:=@Oper.semAt_some
def xO:=@wpIn_mono
def wM:=@grownBy_putObj'
def wV:=@callsIn_wide
def wL:=@callsIn_of_wp_marks
def qy:=@CallsIn.inRound
def Oy:=@KeepsOthers.setCell
def ou:=@run_takeDeferred
def wA:=@if_false
def wC:=@if_true
section
variable {E : Env} {av kv v : gh} {bB bD bm bs g i j k n t : Nat} {e ei ej : Al} {f : Nat->Nat} {nd : Cd} {old s : fN} {p q : fN->Bool} {pl : Nat×Nat} {rs : List Ru} {vs : List gh} {w w' : fO} {x : iM}
def Loc.new (L:Loc) (n k:Nat) (av kv:gh):Loc:={L with gp:=λi=>if i < n then L.gp i else k+(i - n),av:=λi=>if i=n then av else L.av i,kv:=λi=>if i=n then kv else L.kv i}
variable {L L' : Loc}
def Loc.A9 (h:i < n):(L.new n k av kv).gp i=L.gp i:=fU h
def Loc.sX:(L.new n k av kv).gp n=k:=by simp[Loc.new]
def Loc.Fc (h:i < n):(L.new n k av kv).av i=L.av i:=gn (by omega)
def Loc.Oa (h:i < n):(L.new n k av kv).kv i=L.kv i:=gn (by omega)
def Loc.BC:(L.new n k av kv).av n=av:=fU rfl
def Loc.Hg:(L.new n k av kv).kv n=kv:=fU rfl
def GD (n:Nat) (L L':Loc):Prop:=∀i,i < n->L'.gp i=L.gp i
def GD.refl (n:Nat) (L:Loc):GD n L L:=λ_ _=>rfl
def Ab.lF {σ:Ab} (h:σ.gx (some i)=true):i < σ.nodes.length:=by
 have⟨e,he⟩:=Option.isSome_iff_exists.1 h;exact Ab.gL he
def Ab.RL {σ:Ab} {k : Nd} (h:σ.iR k=true):k.gR < σ.nodes.length:=by
 by_cases b:k.gR < σ.nodes.length
 .exact b
 .exfalso;have a:σ.nodes[k.gR]?=none:=List.getElem?_eq_none (by omega);cases k with
  |el i=>simp only[Nd.gR]at a;simp[Ab.iR,Ab.gF,a]at h
  |tx i=>simp only[Nd.gR]at a;simp[Ab.iR,a]at h
  |cm i=>simp only[Nd.gR]at a;simp[Ab.iR,a]at h
  |dt i=>simp only[Nd.gR]at a;simp[Ab.iR,a]at h
def GD.om {σ:Ab} (h:GD σ.nodes.length L L') (a:σ.gx x=true):gX L'.gp x=gX L.gp x:=by
 cases x with
 |none=>rfl
 |some i=>show some _=some _;rw[h i (Ab.lF a)]
def GD.db {σ:Ab} (h:GD σ.nodes.length L L') {k : Nd} (a:σ.iR k=true):Nd.map L'.gp k=Nd.map L.gp k:=by
 have:=h _ (Ab.RL a);cases k<;>(simp only[Nd.map,Nd.gR]at this|-;rw[this])
def GD.list {σ:Ab} (h:GD σ.nodes.length L L') {xs : j5} (b:∀x∈xs,σ.gx x=true):(xs.map λx=>kK (gX L'.gp x))=xs.map λx=>kK (gX L.gp x):=
 UV λx a=>by rw[h.om (b x a)]
def GD.kids {σ:Ab} (h:GD σ.nodes.length L L') {ks : List Nd} (b:∀x∈ks,σ.iR x=true):ks.map (Nd.map L'.gp)=ks.map (Nd.map L.gp):=
 UV λx a=>h.db (b x a)
theorem Ab.vr {σ:Ab} (a:i < σ.nodes.length):(σ.add nd).gF i=σ.gF i:=by
 grind[Ab.gF,Ab.add]
theorem Ab.vE {σ:Ab}:(σ.add nd).gF σ.nodes.length=(match nd with| .el e=>some e|_=>none):=by
 show(match (σ.nodes++[nd])[σ.nodes.length]? with|some (.el e)=>some e|_=>none)=_
 grind
def Ab.Au {σ:Ab} (h:σ.gx x=true):(σ.add nd).gx x=true:=by
 cases x with
 |none=>rfl
 |some i=>show((σ.add nd).gF i).isSome=true;rw[Ab.vr (Ab.lF h)];exact h
def Ab.LJ {σ:Ab} (h:σ.lH x=true):(σ.add nd).lH x=true:=by
 cases x with
 |none=>exact h
 |some i=>show((σ.add nd).gF i).isSome=true;rw[Ab.vr (Ab.lF h)];exact h
theorem Ab.Fk {σ:Ab} {k : Nd} (h:σ.iR k=true):(σ.add nd).iR k=true:=by
 have a:=Ab.RL h;have e:(σ.nodes++[nd])[k.gR]?=σ.nodes[k.gR]?:=Mo a;cases k with
 |el i=>show((σ.add nd).gF i).isSome=true;rw[Ab.vr (i:=i) a];exact h
 |tx i=>grind[Ab.iR,Ab.add]
 |cm i=>grind[Ab.iR,Ab.add]
 |dt i=>grind[Ab.iR,Ab.add]
theorem Ab.J8 {σ:Ab} (h:(σ.add nd).gF i=some e):(i < σ.nodes.length/\σ.gF i=some e)\/(i=σ.nodes.length/\nd= .el e):=by
 have b:=Ab.gL h;have c:i < σ.nodes.length+1:=by simpa [Ab.add]using b
 by_cases a:i < σ.nodes.length
 .exact .inl ⟨a,by rw[<-Ab.vr a];exact h⟩
 .have e1:i=σ.nodes.length:=by omega
  subst e1;rw[Ab.vE]at h
  grind
def kM.ext {σ:Ab} (h:kM bs L w i nd) (a:GD σ.nodes.length L L') (b:i < σ.nodes.length) (c:L'.av i=L.av i) (d:L'.kv i=L.kv i) (l:∀e,nd= .el e->σ.gx e.iJ=true/\∀k∈e.kids,σ.iR k=true):kM bs L' w i nd:=by
 cases nd with
 |el e=>
  have⟨h1,h2⟩:=l e rfl;show El bs w (L'.gp i) e.name (L'.av i) (gX L'.gp e.iJ) (L'.kv i) (e.kids.map (Nd.map L'.gp))/\zD w (L'.av i) e.gy/\e.gy.length<=4096;rw[a i b,c,d,a.om h1,a.kids h2];exact h
 |tx s=>show w.heap[L'.gp i]?=_;rw[a i b];exact h
 |cm s=>show w.heap[L'.gp i]?=_;rw[a i b];exact h
 |dt s=>show w.heap[L'.gp i]?=_;rw[a i b];exact h
theorem Rel.I9 {σ:Ab} (h:Rel E L σ w) (a:i < σ.nodes.length):L.gp i < w.heap.size:=by
 have⟨c,hc⟩:=(h.rP i σ.nodes[i] (pY a)).cx
 grind
def Rel.cn {σ:Ab} (h:Rel E L σ w) (b:σ.nodes[i]?=some nd):∀e,nd= .el e->σ.gx e.iJ=true/\∀k∈e.kids,σ.iR k=true:=by
 rintro e rfl;have a:=Ab.TO b;exact⟨h.wf.iJ i e a,h.wf.kids i e a⟩
def jg.ext {σ σ':Ab} {C : jB} (h:jg E L σ C) (b:GD σ.nodes.length L L') (a:Wf σ) (e1:L'.ov=L.ov) (e2:L'.cv=L.cv) (c:L'.wv=L.wv) (d:σ'.head=σ.head) (l:σ'.form=σ.form) (o:σ'.mode=σ.mode) (r:σ'.kept=σ.kept) (u:σ'.iq=σ.iq) (y:σ'.iP=σ.iP) (z:σ'.gp=σ.gp) (A:σ'.behind=σ.behind):jg E L' σ' C:=
 ⟨h.size,h.low,by rw[e1];exact h.fQ,by rw[e2];exact h.act,by rw[d,b.om a.head];exact h.head,by rw[l,b.om a.form];exact h.form,by rw[o];exact h.mode,by rw[r];exact h.kept,by rw[c];exact h.wait,by rw[u];exact h.xU,by rw[y];exact h.iP,by rw[z];exact h.gp,by rw[A];exact h.behind⟩
theorem Rel.ac1 {σ:Ab} (h:Rel E L σ w) (nd:Cd) (k:Nat) (av kv:gh) (I:Bool) (X:Kept [] w w') (Z:∀i,i < σ.nodes.length->L.gp i < k) (V:E.bs<=k)
  (a0:kM E.bs (L.new σ.nodes.length k av kv) w' σ.nodes.length nd) (Y:kv.ownBlock=none) (T:∀e,nd= .el e->e.iJ=none/\e.kids=[])
  (R:∀i e g,σ.gF i=some e->ng e.name=true->av.ownBlock=some g->(L.av i).ownBlock≠some g)
  (S:∀e g j,nd= .el e->ng e.name=true->j < σ.nodes.length->av.ownBlock=some g->(L.av j).ownBlock≠some g)
  (B:(∀e,nd≠ .el e)->av.ownBlock=none)
  (N:I=true->σ.fresh=true/\∀g,E.tv.ownBlock=some g->av.ownBlock≠some g) (U:∀g,av.ownBlock=some g->E.bs<=g):
  Rel E (L.new σ.nodes.length k av kv) (σ.pi nd I) w':=by
 have d:=h.gJ X;have J:GD σ.nodes.length L (L.new σ.nodes.length k av kv):=λi b=>Loc.A9 b;have y:=Ab.lF (σ:=σ) (i:=0) h.wf.vc;have c:(σ.pi nd I).nodes.length=σ.nodes.length+1:=by simp[Ab.pi]
 have D:∀i,(σ.pi nd I).gF i=(σ.add nd).gF i:=λi=>rfl;have⟨C,hb,hC⟩:=d.gR;refine⟨d.fr,by rw[Loc.A9 y];exact d.env,d.rY,?_,?_,?_,?_,?_,?_,?_,⟨C,hb,hC.ext J h.wf rfl rfl rfl rfl rfl rfl rfl rfl rfl rfl rfl⟩,?_,?_,d.Cg,d.ve,d.Bx,d.nN,d.BK,d.rd,d.BH,d.tok,d.Av,d.bz,d.bB,d.bR,?_,?_,?_,h.tb,h.Ch⟩
 .intro i H b;have a:(σ.nodes++[nd])[i]?=some H:=b
  by_cases K:i < σ.nodes.length
  .rw[Mo K]at a;exact(d.rP i H a).ext J K (Loc.Fc K) (Loc.Oa K) (h.cn a)
  grind
 .intro i j r;have z:(if i < σ.nodes.length then L.gp i else k+(i - σ.nodes.length))=(if j < σ.nodes.length then L.gp j else k+(j - σ.nodes.length)):=r
  by_cases b:i < σ.nodes.length
  .by_cases F:j < σ.nodes.length
   .rw[fU b,fU F]at z;exact h.inj i j z
   grind
  grind
 .intro i j g b F r o;rw[c]at b F
  by_cases a:i < σ.nodes.length
  .rw[Loc.Oa a]at o
   by_cases u:j < σ.nodes.length
   .rw[Loc.Oa u];exact h.xv i j g a u r o
   grind[Loc.new]
  grind[Loc.new]
 .intro i b l;rw[c]at b
  by_cases a:i < σ.nodes.length
  .rw[Loc.Oa a];exact h.Ak i a (by rw[<-Ab.vr a];exact l)
  grind[Loc.new]
 .intro i j e g b O F r o;rw[c]at F;rcases Ab.J8 (nd:=nd) b with⟨a,l⟩|⟨rfl,rfl⟩
  .rw[Loc.Fc a]at o
   by_cases u:j < σ.nodes.length
   .rw[Loc.Fc u];exact h.uq i j e g l O u r o
   grind[Loc.new]
  grind[Loc.new]
 .intro i b l;rw[c]at b
  by_cases a:i < σ.nodes.length
  .rw[Loc.Fc a];exact h.Ad i a (by rw[<-Ab.vr a];exact l)
  .have e1:i=σ.nodes.length:=by omega
   subst e1;rw[Loc.BC];refine B λe G=>?_;rw[D,Ab.vE,G]at l;cases l
 .refine⟨λx A=>Ab.LJ (h.wf.fQ x A),λx A=>Ab.Au (h.wf.act x A),Ab.Au h.wf.head,Ab.Au h.wf.form,?_,?_,?_⟩
  .intro i e b;rcases Ab.J8 (nd:=nd) b with⟨a,l⟩|⟨rfl,hn⟩
   .exact Ab.Au (h.wf.iJ i e l)
   grind[Ab.gx]
  .intro i e b x A;rcases Ab.J8 (nd:=nd) b with⟨a,l⟩|⟨rfl,hn⟩
   .exact Ab.Fk (h.wf.kids i e l x A)
   grind
  .rw[D,Ab.vr y];exact h.wf.vc
 .show w'.ownsRow E.bs _ 1 L.ov σ.fQ.length (σ.fQ.map λx=>kK (gX (L.new σ.nodes.length k av kv).gp x));rw[J.list λx A=>Ab.vL (h.wf.fQ x A)];exact d.nM
 .show w'.ownsRow E.bs _ 1 L.cv σ.act.length (σ.act.map λx=>kK (gX (L.new σ.nodes.length k av kv).gp x));rw[J.list h.wf.act];exact d.oE
 .intro i b;rw[c]at b
  by_cases a:i < σ.nodes.length
  .rw[Loc.A9 a];exact h.bN i a
  grind[Loc.new]
 .intro W i g b o;rw[c]at b;have⟨f1,f2⟩:=N W
  by_cases a:i < σ.nodes.length
  .rw[Loc.Fc a];exact h.yJ f1 i g a o
  grind[Loc.new]
 .intro i g b o;rw[c]at b
  by_cases a:i < σ.nodes.length
  .rw[Loc.Fc a]at o;exact h.ab i g a o
  .have e1:i=σ.nodes.length:=by omega
   subst e1;rw[Loc.BC]at o;grind
def Rel.add {σ:Ab} (h:Rel E L σ w) (nd:Cd) (k:Nat) (av kv:gh) (o:Bool) (B:Kept [] w w') (l:w.heap.size<=k)
  (z:kM E.bs (L.new σ.nodes.length k av kv) w' σ.nodes.length nd) (y:kv.ownBlock=none) (d:∀e,nd= .el e->e.iJ=none/\e.kids=[])
  (b:∀i e g,σ.gF i=some e->ng e.name=true->av.ownBlock=some g->(L.av i).ownBlock≠some g)
  (c:∀e g j,nd= .el e->ng e.name=true->j < σ.nodes.length->av.ownBlock=some g->(L.av j).ownBlock≠some g)
  (a:(∀e,nd≠ .el e)->av.ownBlock=none)
  (u:o=true->σ.fresh=true/\∀g,E.tv.ownBlock=some g->av.ownBlock≠some g) (r:∀g,av.ownBlock=some g->E.bs<=g):
  Rel E (L.new σ.nodes.length k av kv) (σ.pi nd o) w':=
 h.ac1 nd k av kv o B (λ_ A=>lz (h.I9 A) l) (jC h.bw l) z y d b c a u r
theorem Rel.UQ {σ σ':Ab} (h:Rel E L σ w) (a:KT E.bs [140,142,284] w w') (b:GD σ.nodes.length L L') (e1:L'.ov=L.ov) (e2:L'.cv=L.cv) (o:L'.wv=L.wv)
  (A:∀i nd,σ'.nodes[i]?=some nd->kM E.bs L' w' i nd) (u:∀i j,L'.gp i=L'.gp j->i=j)
  (z:∀i j g,i < σ'.nodes.length->j < σ'.nodes.length->i≠j->(L'.kv i).ownBlock=some g->(L'.kv j).ownBlock≠some g)
  (y:∀i,i < σ'.nodes.length->σ'.gF i=none->(L'.kv i).ownBlock=none)
  (Y:∀i j e g,σ'.gF i=some e->ng e.name=true->j < σ'.nodes.length->i≠j->(L'.av i).ownBlock=some g->(L'.av j).ownBlock≠some g)
  (l:∀i,i < σ'.nodes.length->σ'.gF i=none->(L'.av i).ownBlock=none)
  (Z:Wf σ') (r:σ'.fresh=true->∀i g,i < σ'.nodes.length->E.tv.ownBlock=some g->(L'.av i).ownBlock≠some g)
  (B:σ'.nodes.length<=σ.nodes.length:=by first|exact gr _|simp[Ab.gE,Ab.nR])
  (F:σ'.fQ=σ.fQ:=by rfl) (G:σ'.act=σ.act:=by rfl) (N:σ'.head=σ.head:=by rfl) (O:σ'.form=σ.form:=by rfl) (R:σ'.mode=σ.mode:=by rfl) (S:σ'.kept=σ.kept:=by rfl) (T:σ'.iq=σ.iq:=by rfl) (U:σ'.iP=σ.iP:=by rfl) (V:σ'.gp=σ.gp:=by rfl) (W:σ'.behind=σ.behind:=by rfl) (sw:σ'.waiting=σ.waiting:=by rfl) (X:σ'.mV=σ.mV:=by rfl) (sp:σ'.iA=σ.iA:=by rfl) (H:σ'.pS=σ.pS:=by rfl) (I:σ'.rq=σ.rq:=by rfl) (J:σ'.oY=σ.oY:=by rfl) (av:L'.av=L.av:=by rfl):Rel E L' σ' w':=by
 have⟨C,hb,hC⟩:=h.gR;have c:=Ab.lF (σ:=σ) (i:=0) h.wf.vc;exact {
  fr:=h.fr.trans (a.fr (by decide))
  env:=by rw[b 0 c];exact h.env
  rY:=by rw[H,I,J];exact h.rY
  rP:=A,inj:=u,xv:=z,Ak:=y,uq:=Y,Ad:=l,wf:=Z
  gR:=⟨C,a.at hb (by decide),hC.ext b h.wf e1 e2 o N O R S T U V W⟩
  nM:=by rw[F,e1,b.list λx K=>Ab.vL (h.wf.fQ x K)];exact a.row h.nM (by decide)
  oE:=by rw[G,e2,b.list h.wf.act];exact a.row h.oE (by decide)
  Cg:=by rw[e1,e2];exact h.Cg
  ve:=by rw[F];exact h.ve
  Bx:=by rw[G];exact h.Bx
  nN:=by rw[sw,o];exact a.row h.nN (by decide)
  BK:=by rw[sw];exact h.BK
  rd:=by rw[X,sp];exact a.at h.rd (by decide)
  BH:=h.BH
  tok:=a.row h.tok (by decide)
  Av:=h.Av
  bz:=h.bz
  bB:=h.bB
  bR:=h.bR
  bN:=λi d=>by rw[b i (lz d B)];exact h.bN i (lz d B)
  yJ:=r
  ab:=λi g d hg=>h.ab i g (lz d B) (by grind)
  tb:=h.tb
  Ch:=λv D=>⟨o.trans (h.Ch v D).1,sw.trans (h.Ch v D).2⟩}
def Rel.zz {σ:Ab} (h:Rel E L σ w) (b:j < σ.nodes.length) (a:(L.kv j).ownBlock=some g):∃c m,w.heap[g]?=some (.cells c 142 m):=by
 cases he:σ.gF j with
 |none=>rw[h.Ak j b he]at a;cases a
 |some e=>exact pW (h.rP j _ (Ab.iX he)).1.row a
def Rel.NT {σ:Ab} (h:Rel E L σ w) (b:j < σ.nodes.length) (a:(L.av j).ownBlock=some g):∃c m,w.heap[g]?=some (.cells c 299 m):=by
 cases he:σ.gF j with
 |none=>rw[h.Ad j b he]at a;cases a
 |some e=>exact pW (h.rP j _ (Ab.iX he)).2.1 a
def Rel.On {σ:Ab} (h:Rel E L σ w) (a:j < σ.nodes.length):∃c t,w.heap[L.gp j]?=some (fV c t)/\t≠142/\t≠299:=by
 have⟨c,hc⟩:=(h.rP j σ.nodes[j] (pY a)).cx;refine⟨c,_,hc,?_⟩;cases σ.nodes[j]<;>(simp[Cd.cx])
theorem Jj {a : Nat} {c c' : jB} {t b : TypeId} {m d : Nat×Nat} (h:w.heap[a]?=some (.cells c t m)) (l:w.heap[a]?=some (.cells c' b d)):t=b:=by
 grind
theorem Rel.gN {σ:Ab} (h:Rel E L σ w) (J:List Nat) (d:∀j∈J,j < σ.nodes.length) {S : List Nat} (u:∀s∈S,∃j∈J,s=L.gp j\/(L.kv j).ownBlock=some s) (z:Kept S w w') (y:σ.nodes[i]?=some nd) (l:i∉J):kM E.bs L w' i nd:=by
 have a:i < σ.nodes.length:=(List.getElem?_eq_some_iff.1 y).1;refine(h.rP i nd y).kept z ?_ ?_ ?_
 .intro o;obtain⟨j,b,e|e⟩:=u _ o
  .exact l (by rw[h.inj i j e];exact b)
  .have⟨c,m,h1⟩:=h.zz (d j b) e;have⟨c',t,h2,h3,_⟩:=h.On a
   grind
 .intro g r o;obtain⟨j,b,e|e⟩:=u _ o
  .have⟨c,m,h1⟩:=h.zz a r;have⟨c',t,h2,h3,_⟩:=h.On (d j b)
   grind
  .exact h.xv i j g a (d j b) (λA=>l (by grind)) r e
 .intro g r o;have⟨c,m,h1⟩:=h.NT a r;obtain⟨j,b,e|e⟩:=u _ o
  .have⟨c',t,h2,_,h3⟩:=h.On (d j b)
   grind
  .have⟨c',m',h2⟩:=h.zz (d j b) e
   grind
def Rel.cE {σ:Ab} (h:Rel E L σ w) (J:List Nat) (a:∀j∈J,(σ.gF j).isSome=true) {S : List Nat} (d:∀s∈S,∃j∈J,s=L.gp j\/(L.kv j).ownBlock=some s) (l:Kept S w w'):KT E.bs [140,142,284] w w':=by
 refine .jl l λs o _=>?_;obtain⟨j,b,e|e⟩:=d s o
 .have⟨e',he⟩:=Option.isSome_iff_exists.1 (a j b);rw[e];exact⟨⟨_,_,_,(h.rP j _ (Ab.iX he)).1.gR,by simp⟩,h.bN j (Ab.gL he)⟩
 .have⟨e',he⟩:=Option.isSome_iff_exists.1 (a j b);have⟨c,m,h1⟩:=h.zz (Ab.gL he) e;exact⟨⟨_,_,_,h1,by simp⟩,((h.rP j _ (Ab.iX he)).1.row.lt _ e).1⟩
def Ab.nr (σ:Ab) (i:Nat) (e:Al):(σ.gE i e).nodes.length=σ.nodes.length:=by simp[Ab.gE]
theorem Ab.iF {σ:Ab} (a:i < σ.nodes.length):(σ.gE i e).gF i=some e:=by
 grind[Ab.gF,Ab.gE]
theorem Ab.iy {σ:Ab} (a:j≠i):(σ.gE i e).gF j=σ.gF j:=by
 grind[Ab.gF,Ab.gE]
theorem Ab.nS {σ:Ab} (h:(σ.gE i e).nodes[j]?=some nd):(j=i/\nd= .el e)\/(j≠i/\σ.nodes[j]?=some nd):=by
 by_cases a:i=j
 .subst a;have b:i < σ.nodes.length:=by have:=(List.getElem?_eq_some_iff.1 h).1;simpa [Ab.gE]using this
  simp[Ab.gE,b]at h
  grind
 .simp[Ab.gE,a]at h
  grind
theorem Ab.qd {σ:Ab} (a:(σ.gF i).isSome=true) (x:iM):(σ.gE i e).gx x=σ.gx x:=by
 cases x with
 |none=>rfl
 |some j=>
  show((σ.gE i e).gF j).isSome=(σ.gF j).isSome
  grind[Ab.gF,Ab.gE]
def Ab.yc {σ:Ab} (a:(σ.gF i).isSome=true) (x:iM):(σ.gE i e).lH x=σ.lH x:=by
 cases x with
 |none=>rfl
 |some j=>exact Ab.qd a (some j)
theorem Ab.kR {σ:Ab} (a:(σ.gF i).isSome=true) (k:Nd):(σ.gE i e).iR k=σ.iR k:=by
 have b:∀j,j≠i->(σ.gE i e).nodes[j]?=σ.nodes[j]?:=λj h=>by grind[Ab.gE]
 have⟨e0,he0⟩:=Option.isSome_iff_exists.1 a;have c:=Ab.iX he0;have d:(σ.gE i e).nodes[i]?=some (.el e):=by simp[Ab.gE,Ab.gL he0]
 cases k with
 |el j=>exact Ab.qd a (some j)
 |tx j=>grind[Ab.iR]
 |cm j=>grind[Ab.iR]
 |dt j=>grind[Ab.iR]
theorem Wf.gE {σ:Ab} (h:Wf σ) (b:(σ.gF i).isSome=true) (u:σ.gx e.iJ=true) (r:∀k∈e.kids,σ.iR k=true):Wf (σ.gE i e):=by
 refine⟨λx o=>by rw[Ab.yc b];exact h.fQ x o,λx o=>by rw[Ab.qd b];exact h.act x o,by rw[Ab.qd b];exact h.head,by rw[Ab.qd b];exact h.form,?_,?_,?_⟩
 .intro j d c;rw[Ab.qd b]
  by_cases a:j=i
  .subst a;rw[Ab.iF (Ab.lF (σ:=σ) (i:=j) b)]at c;grind
  .rw[Ab.iy a]at c;exact h.iJ j d c
 .intro j d c k l;rw[Ab.kR b]
  by_cases a:j=i
  .subst a;rw[Ab.iF (Ab.lF (σ:=σ) (i:=j) b)]at c;grind
  .rw[Ab.iy a]at c;exact h.kids j d c k l
 .have:=Ab.qd (e:=e) b (some 0);exact this.trans h.vc
theorem Rel.acH {σ σ':Ab} (h:Rel E L σ w) (i:Nat) (l:gh) (F:(σ.gF i).isSome=true) (R:KT E.bs [140,142,284] w w') (J:l.ownBlock=(L.kv i).ownBlock\/∀g,l.ownBlock=some g->w.heap.size<=g)
  (d:σ'.nodes.length=σ.nodes.length) (I:∀j N,σ'.gF j=some N->∃e,σ.gF j=some e/\N.name=e.name) (C:∀j,σ'.gF j=none->σ.gF j=none)
  (K:∀j nd,σ'.nodes[j]?=some nd->kM E.bs {L with kv:=λx=>if x=i then l else L.kv x} w' j nd) (wf:Wf σ')
  (Y:σ'.fQ=σ.fQ:=by rfl) (s9:σ'.act=σ.act:=by rfl) (Z:σ'.head=σ.head:=by rfl) (s2:σ'.form=σ.form:=by rfl) (s3:σ'.mode=σ.mode:=by rfl) (s4:σ'.kept=σ.kept:=by rfl) (s5:σ'.iq=σ.iq:=by rfl) (s6:σ'.iP=σ.iP:=by rfl) (s7:σ'.gp=σ.gp:=by rfl) (s8:σ'.behind=σ.behind:=by rfl) (sw:σ'.waiting=σ.waiting:=by rfl) (so:σ'.mV=σ.mV:=by rfl) (sp:σ'.iA=σ.iA:=by rfl) (sf:σ'.fresh=σ.fresh:=by rfl) (S:σ'.pS=σ.pS:=by rfl) (T:σ'.rq=σ.rq:=by rfl) (U:σ'.oY=σ.oY:=by rfl):To E L σ' w w':=by
 have G:=Ab.lF (σ:=σ) (i:=i) F;have O:∀j g,j < σ.nodes.length->j≠i->l.ownBlock=some g->(L.kv j).ownBlock≠some g:=by
  intro j g o y u A;rcases J with e|e
  .rw[e]at u;exact h.xv i j g G o (xH y) u A
  .have⟨c,m,hc⟩:=h.zz o A
   grind
 refine⟨{L with kv:=λx=>if x=i then l else L.kv x},rfl,h.UQ (L':={L with kv:=λx=>if x=i then l else L.kv x}) R (λ_ _=>rfl) rfl rfl rfl K h.inj ?_ ?_ ?_ ?_ wf ?_ (nk d) Y s9 Z s2 s3 s4 s5 s6 s7 s8 sw so sp S T U,R.fr (by decide)⟩
 .intro a b g D z r u;rw[d]at D z
  by_cases V:a=i
  .grind
  .simp only[gn V]at u
   by_cases W:b=i
   .grind
   .simp only[gn W];exact h.xv a b g D z r u
 .intro j o H;rw[d]at o;have B:=C j H;have y:j≠i:=by rintro rfl;rw[B]at F;cases F
  simp only[gn y];exact h.Ak j o B
 .intro a b e g D X z r u;rw[d]at z;have⟨e0,h0,hnm'⟩:=I a e D;exact h.uq a b e0 g h0 (by grind) z r u
 .intro j o H;rw[d]at o;exact h.Ad j o (C j H)
 .rw[d,sf];exact h.yJ
def Rel.uS {σ:Ab} (h:Rel E L σ w) (a:σ.gF i=some e):El E.bs w (L.gp i) e.name (L.av i) (gX L.gp e.iJ) (L.kv i) (e.kids.map (Nd.map L.gp)):=(h.rP i _ (Ab.iX a)).1
def Rel.wI {σ:Ab} (h:Rel E L σ w) (a:σ.gF i=some e):zD w (L.av i) e.gy:=(h.rP i _ (Ab.iX a)).2.1
def Rel.Ac {σ:Ab} (h:Rel E L σ w) (a:σ.gF i=some e):e.gy.length<=4096:=(h.rP i _ (Ab.iX a)).2.2
theorem Rel.Xs {σ:Ab} (h:Rel E L σ w) {k : Nd} (a:σ.iR k=true):AE w (Nd.map L.gp k):=by
 cases k with
 |el i=>
  have⟨e,he⟩:=Option.isSome_iff_exists.1 (show(σ.gF i).isSome=true from a);exact⟨_,(h.uS he).gR⟩
 |tx i=>
  simp only[Ab.iR]at a;split at a
  .rename_i s b;exact⟨_,h.rP i _ b⟩
  grind
 |cm i=>
  simp only[Ab.iR]at a;split at a
  .rename_i s b;exact⟨_,h.rP i _ b⟩
  grind
 |dt i=>
  simp only[Ab.iR]at a;split at a
  .rename_i s b;exact⟨_,h.rP i _ b⟩
  grind
theorem XE (a:∀i j,f i=f j->i=j) (j:Nat) (k:Nd):(Nd.map f k).gx (f j)=k.gx j:=by
 cases k with
 |el i=>
  grind[Nd.gx,Nd.map]
 |tx i=>rfl
 |cm i=>rfl
 |dt i=>rfl
theorem JG (a:∀i j,f i=f j->i=j) (ks:List Nd) (j:Nat):qc (ks.map (Nd.map f)) (Nd.gx (f j))=qc ks (Nd.gx j):=by
 have:(ks.map (Nd.map f)).findIdx (Nd.gx (f j))=ks.findIdx (Nd.gx j):=by
  rw[List.findIdx_map]
  congr 1
  funext k
  exact XE a j k
 grind[qc]
def Pc {σ:Ab} (h:Rel E L σ w) (c:σ.gF i=some e):
  Calls prog 99 #[fW (L.gp i)] w λa w'=>a=gO (place (L.gp i) e.kids.length)/\Rel E L σ w'/\Kept [] w w':=by
 refine(adN E.bs _ _ _ _ _ _ w (h.uS c)).mono ?_;rintro a w' ⟨rfl,b⟩;exact⟨by simp,h.gJ b,b⟩
def SA {σ:Ab} (h:Rel E L σ w) (d:σ.gF i=some e) (l:e.iJ=none):
  Calls prog 321 #[fW (L.gp i)] w λa w'=>a=gO (.tuple #[.agg #[.pointer none,fK 0],.bool false])/\Rel E L σ w'/\Kept [] w w':=by
 have b:=h.uS d;rw[l]at b;refine(YS E.bs _ _ _ _ _ w b).mono ?_;rintro a w' ⟨rfl,c⟩;exact⟨rfl,h.gJ c,c⟩
def OT {σ:Ab} (h:Rel E L σ w) {p : Nat} {c : Al} (o:σ.gF i=some e) (r:e.iJ=some p) (a:σ.gF p=some c):
  Calls prog 321 #[fW (L.gp i)] w λd w'=>d=gO (.tuple #[.agg #[fW (L.gp p),fK (qc c.kids (Nd.gx i))],.bool true])/\Rel E L σ w'/\Kept [] w w':=by
 have l:=h.uS o;rw[r]at l;refine(VN E.bs _ _ _ _ _ _ _ _ _ _ _ w l (h.uS a) ?_).mono ?_
 .intro x u;obtain⟨k,b,rfl⟩:=List.mem_map.1 u;exact h.Xs (h.wf.kids p c a k b)
 rintro d w' ⟨rfl,b⟩;exact⟨by rw[JG h.inj],h.gJ b,b⟩
theorem VE {σ:Ab} (h:Rel E L σ w) (b:σ.gF i=some e) (A:ng e.name=false):
  Calls prog 275 #[fW (L.gp i)] w λc w'=>∃L',GD σ.nodes.length L L'/\c=gO (fW (L'.gp σ.nodes.length))/\Rel E L' (σ.add (.el {name:=e.name,gy:=e.gy,iJ:=none,kids:=[]})) w'/\Fr E.bs w w':=by
 have B:=h.wI b;have H:=h.Ac b;refine(Ij E.bs _ _ _ _ _ _ w (h.uS b)).mono ?_;rintro c w' ⟨rfl,F,u⟩;have a:=Ab.gL b;refine⟨L.new σ.nodes.length w.heap.size (L.av i) (iQ),λj o=>Loc.A9 o,by simp[Loc.new],?_,.gv u⟩;refine h.add (.el {name:=e.name,gy:=e.gy,iJ:=none,kids:=[]}) w.heap.size (L.av i) (iQ) σ.fresh u (gr _) ?_ rfl (λc G=>by grind) ?_ ?_ (λy=>absurd rfl (y _)) ?_ (λg A=>h.ab i g a A)
 .show El E.bs w' _ _ _ _ _ _/\zD w' _ _/\_;rw[Loc.sX,Loc.BC,Loc.Hg];exact⟨F,u.ownsRow B (by simp),H⟩
 .intro j e2 g o l C D
  by_cases r:j=i
  .grind
  .exact h.uq j i e2 g o l a r D C
 .grind
 .intro z;exact⟨z,λg d=>h.yJ z i g a d⟩
def map_eraseIdx (f:Nd->Nd):∀(a:List Nd) (n:Nat),(a.eraseIdx n).map f=(a.map f).eraseIdx n
 |[],_=>by simp
 |_::_,0=>by simp
 |k::a,n+1=>by simp[map_eraseIdx f a n]
def ins (ks:List Nd) (n:Nat) (k:Nd):List Nd:=ks.take n++[k]++ks.drop n
def Ei (f:Nat->Nat) (ks:List Nd) (n:Nat) (k:Nd):(ins ks n k).map (Nd.map f)=(ks.map (Nd.map f)).take n++[Nd.map f k]++(ks.map (Nd.map f)).drop n:=by
 simp[ins]
theorem DV {ks : List Nd} {k x : Nd} (h:x∈ins ks n k):x∈ks\/x=k:=by
 rcases List.mem_append.1 h with h|h
 all_goals grind
theorem Zp {σ:Ab} (h:Rel E L σ w) (r:σ.gF i=some ei) (z:σ.gF j=some ej) (u:j≠i) (Z:n<=ei.kids.length) (Y:ei.kids.length < 1048576):
  Calls prog 175 #[place (L.gp i) n,(Nd.el (L.gp j)).val] w λe w'=>e=oS/\To E L ((σ.gE i {ei with kids:=ins ei.kids n (.el j)}).gE j {ej with iJ:=some i}) w w':=by
 have o:=Ab.gL r;have F:=Ab.gL z;have d:(σ.gF i).isSome=true:=by rw[r];rfl
 have B:(σ.gF j).isSome=true:=by rw[z];rfl
 have N:=h.wI r;have U:=h.Ac r;have W:=h.wI z;have lJ:=h.Ac z;refine(R6 E.bs _ n _ _ _ _ _ _ _ _ _ _ _ w (h.uS r) (h.uS z) (λe=>u (h.inj _ _ e)) (λg T=>h.xv j i g F o u T) (by grind) (by grind) h.bw).mono ?_;rintro e w' ⟨rfl,⟨y,K,O⟩,V,I⟩;have H:∀s∈L.gp j::L.gp i::(L.kv i).ownBlock.toList,∃x∈[j,i],s=L.gp x\/(L.kv x).ownBlock=some s:=by
  intro s C;rcases List.mem_cons.1 C with rfl|C
  .simp
  rcases List.mem_cons.1 C with rfl|C
  .simp
  .grind
 have J:=h.cE [j,i] (by grind) H I;have D:((σ.gE i {ei with kids:=ins ei.kids n (.el j)}).gF j).isSome=true:=by rw[Ab.iy u];exact B
 have A:∀x e,x < σ.nodes.length->zD w (L.av x) e->zD w' (L.av x) e:=λx e _ S=>J.row S (by decide);refine⟨rfl,h.acH i y d J O (by simp[Ab.gE]) ?_ ?_ ?_ ?_⟩
 .intro x X a
  by_cases c:x=j
  .subst c;rw[Ab.iF (by grind[Ab.gE])]at a;grind
  .rw[Ab.iy c]at a
   by_cases b:x=i
   .subst b;rw[Ab.iF o]at a;grind
   .rw[Ab.iy b]at a;grind
 .intro x a
  by_cases c:x=j
  .subst c;rw[Ab.iF (by grind[Ab.gE])]at a;cases a
  .rw[Ab.iy c]at a
   by_cases b:x=i
   .subst b;rw[Ab.iF o]at a;cases a
   .rwa [Ab.iy b]at a
 .intro x nd a;rcases Ab.nS a with⟨rfl,rfl⟩|⟨c,a⟩
  .grind[kM]
  .rcases Ab.nS a with⟨rfl,rfl⟩|⟨b,a⟩
   .show El E.bs w' _ _ _ _ (if x=x then y else L.kv x) _/\_;rw[fU rfl];refine⟨?_,A x _ o N,U⟩;show El E.bs w' (L.gp x) ei.name (L.av x) (gX L.gp ei.iJ) y ((ins ei.kids n (.el j)).map (Nd.map L.gp));rw[Ei];exact K
   .have R:=h.gN [j,i] (by grind) H I a (by grind);have G:x < σ.nodes.length:=(List.getElem?_eq_some_iff.1 a).1;exact R.ext (σ:=σ) (GD.refl _ _) G rfl (gn b) (h.cn a)
 .refine(h.wf.gE (e:={ei with kids:=ins ei.kids n (.el j)}) d (h.wf.iJ i ei r) ?_).gE D ?_ ?_
  .intro k l;rcases DV l with l|rfl
   .exact h.wf.kids i ei r k l
   .exact B
  .rw[Ab.qd d];exact d
  .intro k l;rw[Ab.kR d];exact h.wf.kids j ej z k l
theorem Qk {σ:Ab} (h:Rel E L σ w) {k : Nd} (c:σ.gF i=some ei) (J:σ.iR k=true) (G:∀j,k≠ .el j) (N:n<=ei.kids.length) (K:ei.kids.length < 1048576):
  Calls prog 175 #[place (L.gp i) n,(Nd.map L.gp k).val] w λe w'=>e=oS/\To E L (σ.gE i {ei with kids:=ins ei.kids n k}) w w':=by
 have o:=Ab.gL c;have l:(σ.gF i).isSome=true:=by rw[c];rfl
 have C:=h.wI c;have H:=h.Ac c;refine(Yn E.bs _ n _ _ _ _ _ (Nd.map L.gp k) w (h.uS c) (by grind) (by grind) h.bw (λj e=>by cases k<;>simp[Nd.map]at e;grind)).mono ?_;rintro e w' ⟨rfl,⟨d,B,D⟩,r⟩;have y:∀s∈L.gp i::(L.kv i).ownBlock.toList,∃x∈[i],s=L.gp x\/(L.kv x).ownBlock=some s:=by
  intro s z;rcases List.mem_cons.1 z with rfl|z
  .simp
  .grind
 have A:=h.cE [i] (by grind) y r;refine⟨rfl,h.acH i d l A D (by simp[Ab.gE]) ?_ ?_ ?_ ?_⟩
 .intro x I a
  by_cases b:x=i
  .subst b;rw[Ab.iF o]at a;grind
  .rw[Ab.iy b]at a;grind
 .intro x a
  by_cases b:x=i
  .subst b;rw[Ab.iF o]at a;cases a
  .rwa [Ab.iy b]at a
 .intro x nd a;rcases Ab.nS a with⟨rfl,rfl⟩|⟨b,a⟩
  .show El E.bs w' _ _ _ _ (if x=x then d else L.kv x) _/\_;rw[fU rfl];refine⟨?_,A.row C (by decide),H⟩;show El E.bs w' (L.gp x) ei.name (L.av x) (gX L.gp ei.iJ) d ((ins ei.kids n k).map (Nd.map L.gp));rw[Ei];exact B
  .have F:=h.gN [i] (by grind) y r a (by grind);have u:x < σ.nodes.length:=(List.getElem?_eq_some_iff.1 a).1;exact F.ext (σ:=σ) (GD.refl _ _) u rfl (gn b) (h.cn a)
 .refine h.wf.gE l (h.wf.iJ i ei c) ?_;intro x a;rcases DV a with a|rfl
  .exact h.wf.kids i ei c x a
  omega
def D8 {σ:Ab} (h:Rel E L σ w) (b:σ.gF j=some ej) (c:ej.iJ=none):
  Calls prog 374 #[fW (L.gp j)] w λe w'=>e=oS/\w'=w:=by
 have a:=h.uS b;rw[c]at a;exact Sc E.bs _ _ _ _ _ w a
theorem VT {σ:Ab} (h:Rel E L σ w) {p : Nat} {b : Al} (A:σ.gF j=some ej) (B:ej.iJ=some p) (r:σ.gF p=some b) (l:j≠p) (hn:n < b.kids.length) (O:qc b.kids (Nd.gx j)=(n:Int)):
  Calls prog 374 #[fW (L.gp j)] w λe w'=>e=oS/\To E L ((σ.gE p {b with kids:=b.kids.eraseIdx n}).gE j {ej with iJ:=none}) w w':=by
 have y:=Ab.gL r;have H:=Ab.gL A;have z:(σ.gF p).isSome=true:=by rw[r];rfl
 have G:(σ.gF j).isSome=true:=by rw[A];rfl
 have K:=h.uS A;rw[B]at K;have U:=h.wI r;have Z:=h.Ac r;have T:=h.wI A;have Y:=h.Ac A;refine(Gz E.bs _ _ n _ _ _ _ _ _ _ _ _ w K (h.uS r) ?_ (λe=>l (h.inj _ _ e)) (λg X=>h.xv j p g H y l X) (by grind) (by rw[JG h.inj];omega)).mono ?_
 .intro x a;obtain⟨k,C,rfl⟩:=List.mem_map.1 a;exact h.Xs (h.wf.kids p b r k C)
 rintro e w' ⟨rfl,⟨o,R,V⟩,S,C⟩;have N:∀s∈L.gp j::L.gp p::(L.kv p).ownBlock.toList,∃x∈[j,p],s=L.gp x\/(L.kv x).ownBlock=some s:=by
  intro s D;rcases List.mem_cons.1 D with rfl|D
  .simp
  rcases List.mem_cons.1 D with rfl|D
  .simp
  .grind
 have J:=h.cE [j,p] (by grind) N C;have F:((σ.gE p {b with kids:=b.kids.eraseIdx n}).gF j).isSome=true:=by rw[Ab.iy l];exact G
 refine⟨rfl,h.acH p o z J (.inl V) (by simp[Ab.gE]) ?_ ?_ ?_ ?_⟩
 .intro x e' a
  by_cases d:x=j
  .subst d;rw[Ab.iF (by grind[Ab.gE])]at a;grind
  .rw[Ab.iy d]at a
   by_cases c:x=p
   .subst c;rw[Ab.iF y]at a;grind
   .rw[Ab.iy c]at a;grind
 .intro x a
  by_cases d:x=j
  .subst d;rw[Ab.iF (by grind[Ab.gE])]at a;cases a
  .rw[Ab.iy d]at a
   by_cases c:x=p
   .subst c;rw[Ab.iF y]at a;cases a
   .rwa [Ab.iy c]at a
 .intro x nd a;rcases Ab.nS a with⟨rfl,rfl⟩|⟨d,a⟩
  .show El E.bs w' _ _ _ _ (if x=p then o else L.kv x) _/\_;rw[gn l];exact⟨S,J.row T (by decide),Y⟩
  .rcases Ab.nS a with⟨rfl,rfl⟩|⟨c,a⟩
   .show El E.bs w' _ _ _ _ (if x=x then o else L.kv x) _/\_;rw[fU rfl];refine⟨?_,J.row U (by decide),Z⟩;show El E.bs w' (L.gp x) b.name (L.av x) (gX L.gp b.iJ) o ((b.kids.eraseIdx n).map (Nd.map L.gp));rw[map_eraseIdx];exact R
   .have W:=h.gN [j,p] (by grind) N C a (by grind);have I:x < σ.nodes.length:=(List.getElem?_eq_some_iff.1 a).1;exact W.ext (σ:=σ) (GD.refl _ _) I rfl (gn c) (h.cn a)
 .refine(h.wf.gE (e:={b with kids:=b.kids.eraseIdx n}) z (h.wf.iJ p b r) ?_).gE F rfl ?_
  .intro k u;exact h.wf.kids p b r k (List.mem_of_mem_eraseIdx u)
  .intro k u;rw[Ab.kR z];exact h.wf.kids j ej A k u
theorem Rel.Gr {σ:Ab} (h:Rel E L σ w) (a:fN):Rel E (L.new σ.nodes.length w.heap.size (iQ) (iQ)) (σ.add (.el {name:=a,gy:=[],iJ:=none,kids:=[]})) (w.alloc (fV #[fR a,iQ,.pointer none,iQ] 140)):=by
 have d:Kept [] w (w.alloc (fV #[fR a,iQ,.pointer none,iQ] 140)):=(Kept.refl _ _).alloc _;refine h.add (.el {name:=a,gy:=[],iJ:=none,kids:=[]}) w.heap.size (iQ) (iQ) σ.fresh d (gr _) ?_ rfl (λe l=>by grind) (λ_ _ _ _ _ b=>by cases b) (λ_ _ _ _ _ _ b=>by cases b) (λ_=>rfl) (λc=>⟨c,λ_ _=>by simp[Value.ownBlock]⟩) (λ_ b=>by cases b);show El E.bs _ _ _ _ _ _ _/\zD _ _ _/\_;rw[Loc.sX,Loc.BC,Loc.Hg];exact⟨⟨fB w _,oD _ _ _ _,by simp,⟨_,_,_,rfl⟩⟩,oD _ _ _ _,by simp⟩
theorem Rel.pD {σ:Ab} (h:Rel E L σ w) (b:σ.fresh=true) (a:fN):Rel E (L.new σ.nodes.length w.heap.size E.tv (iQ)) (σ.pi (.el {name:=a,gy:=E.ta,iJ:=none,kids:=[]}) false) (w.alloc (fV #[fR a,E.tv,.pointer none,iQ] 140)):=by
 have l:Kept [] w (w.alloc (fV #[fR a,E.tv,.pointer none,iQ] 140)):=(Kept.refl _ _).alloc _;refine h.add (.el {name:=a,gy:=E.ta,iJ:=none,kids:=[]}) w.heap.size E.tv (iQ) false l (gr _) ?_ rfl (λe u=>by grind) (λi e g o _ c=>h.yJ b i g (Ab.gL o) c) (λe g j _ _ r c=>h.yJ b j g r c) (λd=>absurd rfl (d _)) (λb=>by cases b) h.tb;show El E.bs _ _ _ _ _ _ _/\zD _ _ _/\_;rw[Loc.sX,Loc.BC,Loc.Hg];have⟨ao,cap,hv⟩:=fS h.tok;exact⟨⟨fB w _,oD _ _ _ _,by simp,⟨_,_,_,hv⟩⟩,l.ownsRow h.tok (by simp),h.Av⟩
def Rel.afK {σ:Ab} (h:Rel E L σ w) (nd:Cd) (s:fN) (b:nd= .tx s\/nd= .cm s\/nd= .dt s):Rel E (L.new σ.nodes.length w.heap.size (iQ) (iQ)) (σ.add nd) (w.alloc (fV #[fR s] nd.cx)):=by
 have o:Kept [] w (w.alloc (fV #[fR s] nd.cx)):=(Kept.refl _ _).alloc _;have c:∀e,nd≠ .el e:=by rintro e rfl;rcases b with h|h|h<;>cases h
 refine h.add nd w.heap.size (iQ) (iQ) σ.fresh o (gr _) ?_ rfl (λe d=>absurd d (c e)) (λ_ _ _ _ _ a=>by cases a) (λ_ _ _ _ _ _ a=>by cases a) (λ_=>rfl) (λl=>⟨l,λ_ _=>by simp[Value.ownBlock]⟩) (λ_ a=>by cases a);rcases b with rfl|rfl|rfl
 .show _=_;rw[Loc.sX];exact fB w _
 .show _=_;rw[Loc.sX];exact fB w _
 .show _=_;rw[Loc.sX];exact fB w _
def ew (E:Env) (L:Loc) (n:Nat) (σ':Ab) (w w':fO):Prop:=∃L',GD n L L'/\Rel E L' σ' w'/\Fr E.bs w w'
def Ab.nR (σ:Ab) (t:Nat) (s:fN):Ab:={σ with nodes:=σ.nodes.set t (.tx s)}
theorem Ab.tl {σ:Ab} (a:σ.nodes[t]?=some (.tx old)) (i:Nat):(σ.nR t s).gF i=σ.gF i:=by
 grind[Ab.gF,Ab.nR]
def Ab.tQ {σ:Ab} (a:σ.nodes[t]?=some (.tx old)) (x:iM):(σ.nR t s).gx x=σ.gx x:=by
 cases x with
 |none=>rfl
 |some i=>show((σ.nR t s).gF i).isSome=(σ.gF i).isSome;rw[Ab.tl a]
def Ab.Qj {σ:Ab} (a:σ.nodes[t]?=some (.tx old)) (x:iM):(σ.nR t s).lH x=σ.lH x:=by
 cases x with
 |none=>rfl
 |some i=>exact Ab.tQ a (some i)
theorem Ab.FK {σ:Ab} (a:σ.nodes[t]?=some (.tx old)) (k:Nd):(σ.nR t s).iR k=σ.iR k:=by
 have b:=(List.getElem?_eq_some_iff.1 a).1;have h:(σ.nR t s).nodes[t]?=some (.tx s):=by simp[Ab.nR,b]
 have d:∀j,j≠t->(σ.nR t s).nodes[j]?=σ.nodes[j]?:=λj c=>by grind[Ab.nR]
 cases k with
 |el j=>exact Ab.tQ a (some j)
 |tx j=>grind[Ab.iR]
 |cm j=>grind[Ab.iR]
 |dt j=>grind[Ab.iR]
theorem GV {σ:Ab} (h:Rel E L σ w) {m : Nat} (y:σ.gF i=some ei) (S:m < ei.kids.length) (u:ei.kids[m]= .tx t) (o:σ.nodes[t]?=some (.tx old)) (I:old.size+s.size<=1048576):
  Calls prog 182 #[place (L.gp i) (m+1),fR s] w λe w'=>e=oS/\To E L (σ.nR t (old++s)) w w':=by
 refine(KZ E.bs _ m (L.gp t) _ old s _ _ _ _ w (h.uS y) (by grind) (by simp[u,Nd.map]) (h.rP t _ o) I).mono ?_;rintro e w' ⟨rfl,O,C⟩;have J:=(List.getElem?_eq_some_iff.1 o).1;have D:=h.rP t _ o;have N:KT E.bs [140,142,284] w w':= .jl C (λx u _=>by simp at u;subst u;exact⟨⟨_,_,_,D,by simp⟩,h.bN t (List.getElem?_eq_some_iff.1 o).1⟩);refine⟨rfl,L,rfl,h.UQ (σ':=σ.nR t (old++s)) N (λ_ _=>rfl) rfl rfl rfl ?_ h.inj ?_ ?_ ?_ ?_ ?_ ?_,N.fr (by decide)⟩
 .intro x nd d
  by_cases z:t=x
  .subst z;simp[Ab.nR,J]at d;rw[<-d];exact O
  .have B:σ.nodes[x]?=some nd:=by simpa [Ab.nR,z]using d
   have l:=(List.getElem?_eq_some_iff.1 B).1;refine(h.rP x nd B).kept C ?_ ?_ ?_
   .simp;exact λe=>z (h.inj _ _ e.symm)
   .intro g A r;simp at r;have⟨c,m',h1⟩:=h.zz l A;rw[r]at h1;exact absurd (Jj D h1) (by decide)
   .intro g A r;simp at r;have⟨c,m',h1⟩:=h.NT l A;rw[r]at h1;exact absurd (Jj D h1) (by decide)
 .simpa [Ab.nR]using h.xv
 .intro x l d;rw[Ab.tl o]at d;exact h.Ak x (by simpa [Ab.nR]using l) d
 .intro a b e g K H G F A;rw[Ab.tl o]at K;exact h.uq a b e g K H (by simpa [Ab.nR]using G) F A
 .intro x l d;rw[Ab.tl o]at d;exact h.Ad x (by simpa [Ab.nR]using l) d
 .refine⟨λx u=>by rw[Ab.Qj o];exact h.wf.fQ x u,λx u=>by rw[Ab.tQ o];exact h.wf.act x u,by rw[Ab.tQ o];exact h.wf.head,by rw[Ab.tQ o];exact h.wf.form,λi e y=>by rw[Ab.tl o]at y;rw[Ab.tQ o];exact h.wf.iJ i e y,λi e y k C=>by rw[Ab.tl o]at y;rw[Ab.FK o];exact h.wf.kids i e y k C,by rw[Ab.tl o];exact h.wf.vc⟩
 .intro R x g l;exact h.yJ R x g (by simpa [Ab.nR]using l)
theorem JL {σ:Ab} (h:Rel E L σ w) (d:σ.gF i=some ei) (G:n<=ei.kids.length) (D:ei.kids.length < 1048576) (J:∀m,(y:m < ei.kids.length)->n=m+1->∀t,ei.kids[m]≠ .tx t):
  Calls prog 182 #[place (L.gp i) n,fR s] w λe w'=>e=oS/\ew E L σ.nodes.length ((σ.add (.tx s)).gE i {ei with kids:=ins ei.kids n (.tx σ.nodes.length)}) w w':=by
 have b:=Ab.gL d;refine OL E.bs _ n _ s _ _ _ _ w (h.uS d) (by grind) _ ?_ ?_
 .intro I u;have A:=(h.gJ u).afK (.tx s) s (.inl rfl);have r:GD σ.nodes.length L (L.new σ.nodes.length I.heap.size (iQ) (iQ)):=λj o=>Loc.A9 o;have l:(σ.add (.tx s)).gF i=some ei:=by rw[Ab.vr b];exact d
  have c:(σ.add (.tx s)).iR (.tx σ.nodes.length)=true:=by simp[Ab.iR,Ab.add]
  have:=Qk A (n:=n) (k:= .tx σ.nodes.length) l c (λj e=>by cases e) G D;rw[r i b]at this;simp only[Nd.map,Loc.sX]at this;refine this.mono ?_;rintro e w' ⟨rfl,z,e2,B,C⟩;exact⟨rfl,z,λj o=>by rw[e2];exact r j o,B,(Fr.gv (u.alloc _)).trans C⟩
 .intro m y H t a;have F:m < ei.kids.length:=by simpa using y
  rw[List.getElem_map]at a;cases hq:ei.kids[m]with
  |tx t'=>grind
  |el _=>rw[hq]at a;cases a
  |cm _=>rw[hq]at a;cases a
  |dt _=>rw[hq]at a;cases a
inductive TK
 |jq (s:fN)
 |start (name:fN)
 |stop (name:fN)
 |gm (s:fN)
 |gP (name:fN) (q:Bool)
 |lost
 |il
structure fZ where
 a:Nat
 b:Nat
 k:TK
 gy:kZ:=[]
def fZ.name (t:fZ):fN:=match t.k with
 | .start n=>n
 | .stop n=>n
 |_=>⟨#[]⟩
def fZ.ja (t:fZ):kZ:=match t.k with
 | .start _=>t.gy
 | .stop _=>t.gy
 |_=>[]
def fZ.chars (t:fZ):fN:=match t.k with
 | .jq s=>s
 |_=>⟨#[]⟩
def sT (s:fN):Bool:=ku s ⟨#[0]⟩
def lr (s:fN):Bool:=gI [⟨#[32]⟩,⟨#[9]⟩,BQ,⟨#[12]⟩] s
namespace Ab
def nm (σ:Ab) (i:Nat):fN:=match σ.gF i with
 |some e=>e.name
 |none=>⟨#[]⟩
def qS (σ:Ab):iM->fN
 |some i=>σ.nm i
 |none=>⟨#[]⟩
def last (σ:Ab):iM:=gU σ.fQ ((σ.fQ.length:Int) - 1)
def current (σ:Ab) (p:fN->Bool):Bool:=match σ.last with
 |none=>false
 |some i=>p (σ.nm i)
def pop (σ:Ab):Ab:={σ with fQ:=σ.fQ.dropLast}
def JS (σ:Ab) (p:fN->Bool):Ab:=if σ.current p then σ.pop else σ
def A5 (σ:Ab) (p:fN->Bool):j5->j5
 |[]=>[]
 |x::r=>if p (σ.qS x)then r else A5 σ p r
def FB (σ:Ab) (p:fN->Bool):Ab:={σ with fQ:=(A5 σ p σ.fQ.reverse).reverse}
def pU (σ:Ab) (p:fN->Bool):j5->j5
 |[]=>[]
 |x::r=>if p (σ.qS x)then pU σ p r else x::r
def xE (σ:Ab) (p:fN->Bool):Ab:={σ with fQ:=(pU σ (λs=>!(p s||gI [fy] s)) σ.fQ.reverse).reverse}
def mB (σ:Ab):Ab:={σ with fQ:=(pU σ uR σ.fQ.reverse).reverse}
def xM (σ:Ab) (p b:fN->Bool):j5->Bool
 |[]=>false
 |x::r=>if p (σ.qS x)then true else if b (σ.qS x)then false else xM σ p b r
def inScope (σ:Ab) (p b:fN->Bool):Bool:=xM σ p b σ.fQ.reverse
def oh (σ:Ab) (a:Nat):j5->Bool
 |[]=>false
 |x::r=>if x=some a then true else if io (σ.qS x)then false else oh σ a r
def oW (σ:Ab) (a:Nat):Bool:=oh σ a σ.fQ.reverse
def close (σ:Ab) (p b:fN->Bool):Ab:=if σ.inScope p b then σ.FB p else σ
end Ab
def DD:fN->Bool:=λs=>io s||gI [gC] s
def ac9:fN->Bool:=λs=>io s||gI [oz] s
def Ba:fN->Bool:=gI [fy,fC]
def A7:fN->Bool:=gI [fC,fE,fF,fG,gq]
def afr (x:iM):M Nat:=λσ=>match x with
 |some i=>if (σ.gF i).isSome then .ok i σ else .stuck
 |none=> .stuck
def jf (i:Nat):M (Nat×Nat):=λσ=>match σ.gF i with
 |some e=> .ok (i,e.kids.length) σ
 |none=> .stuck
def rZ (σ:Ab):j5->Option (iM)
 |[]=>none
 |x::r=>if !ku (σ.qS x) fC||x=gU σ.fQ 0 then rZ σ r else some x
def qI.isOk {α:Type}:qI α->Bool
 | .ok _ _=>true
 |_=>false
def mu (i:Nat):M (Nat×Nat):=λσ=>match σ.gF i with
 |some e=>match e.iJ with
  |some p=>match σ.gF p with
   |some ep=>if 0<=qc ep.kids (Nd.gx i)then .ok (p,(qc ep.kids (Nd.gx i)).toNat) σ else .stuck
   |none=> .stuck
  |none=>match gU σ.fQ (posOf σ.fQ (some i) - 1)with
   |some q=>jf q σ
   |none=> .stuck
 |none=> .stuck
def Ab.AY (σ:Ab):Bool:=σ.fQ.all λx=>match x with
 |some i=>!ku (σ.nm i) fC||decide (some i=gU σ.fQ 0)||(mu i σ).isOk
 |none=>false
def jN:M (Nat×Nat):=λσ=>if σ.AY then (match rZ σ σ.fQ.reverse with
 |some (some i)=>mu i σ
 |some none=> .stuck
 |none=>match gU σ.fQ 0 with
  |some q=>jf q σ
  |none=> .stuck)else .stuck
theorem pn {σ σ1:Ab} (h:jf i σ= .ok pl σ1):σ1=σ:=by
 unfold jf at h
 grind
theorem Cf {σ σ1:Ab} (h:mu i σ= .ok pl σ1):σ1=σ:=by
 unfold mu at h;split at h
 .split at h
  .grind
  .split at h
   .exact pn h
   grind
 grind
theorem oN {σ σ1:Ab} (h:jN σ= .ok pl σ1):σ1=σ:=by
 unfold jN at h;split at h
 .split at h
  .exact Cf h
  .cases h
  .split at h
   .exact pn h
   grind
 grind
def placeFor (i:Nat):M (Nat×Nat):=λσ=>if σ.iq&&A7 (σ.nm i)then jN σ else jf i σ
def lD:M (Nat×Nat):=λσ=>match σ.last with
 |some i=>placeFor i σ
 |none=> .stuck
def nj (pl:Nat×Nat) (j:Nat):M Unit:=λσ=>match σ.gF pl.1,σ.gF j with
 |some ei,some ej=>if j≠pl.1/\pl.2<=ei.kids.length/\ei.kids.length < 1048576 then .ok () ((σ.gE pl.1 {ei with kids:=ins ei.kids pl.2 (.el j)}).gE j {ej with iJ:=some pl.1})else .stuck
 |_,_=> .stuck
def zQ (pl:Nat×Nat) (k:Nd):M Unit:=λσ=>match σ.gF pl.1 with
 |some ei=>if σ.iR k=true/\pl.2<=ei.kids.length/\ei.kids.length < 1048576 then .ok () (σ.gE pl.1 {ei with kids:=ins ei.kids pl.2 k})else .stuck
 |none=> .stuck
def uT (pl:Nat×Nat) (s:fN):M Unit:=λσ=>match σ.gF pl.1 with
 |some ei=>if pl.2<=ei.kids.length/\ei.kids.length < 1048576 then
   match (if pl.2=0 then none else ei.kids[pl.2 - 1]?)with
   |some (.tx t)=>match σ.nodes[t]? with
    |some (.tx old)=>if old.size+s.size<=1048576 then .ok () (σ.nR t (old++s))else .stuck
    |_=> .stuck
   |_=> .ok () ((σ.add (.tx s)).gE pl.1 {ei with kids:=ins ei.kids pl.2 (.tx σ.nodes.length)})
  else .stuck
 |none=> .stuck
def xx (x:iM):M Unit:=λσ=>if σ.pS<=σ.fQ.length then .stop 5 σ.gp else if σ.lH x then .ok () {σ with fQ:=σ.fQ++[x]} else .stuck
def lG (j:Nat):M Unit:=do
 let pl <-lD
 nj pl j
 xx (some j)
 return ()
def Gr (a:fN):M Nat:=λσ=> .ok σ.nodes.length (σ.add (.el {name:=a,gy:=[],iJ:=none,kids:=[]}))
def fZ.oZ (t:fZ):Bool:=match t.k with
 | .start _=>true
 | .stop _=>true
 |_=>false
def pD (t:fZ):M Nat:=λσ=>if σ.fresh&&t.oZ then .ok σ.nodes.length (σ.pi (.el {name:=t.name,gy:=t.ja,iJ:=none,kids:=[]}) false)else .stuck
def jP (a:fN):M Unit:=do
 let j <-Gr a
 lG j
 return ()
def iZ (t:fZ):M Unit:=do
 let j <-pD t
 lG j
 return ()
def yd:M (iM):=λσ=> .ok σ.last σ.pop
def lp (t:fZ):M Unit:=do
 iZ t
 let _ <-yd
 return ()
def jQ (t:fZ):M Unit:=do
 let pl <-lD
 uT pl t.chars
 return ()
def Rel.drewN {σ:Ab} (h:Rel E L σ w) (q:Nat):Rel E L σ (w.drewN q):=h.gJ ((Kept.refl _ _).drewN q)
def Fr.drewN (w:fO) (q:Nat):Fr bs w (w.drewN q):= .gv ((Kept.refl _ _).drewN q)
def kh (w:fO) (k c p:Nat):Prop:=w.heap[k]?=some (fV #[fK c,fK p] 83)
abbrev rE (k:Nat):Ending:= .panicked [{v:= .iface 78 (fW k),recovered:=false}]
abbrev Bp (E:Env):gh:=fW E.bB
def MT {σ:Ab} (h:Rel E L σ w) (c:Nat):
  Calls prog 270 #[Bp E,fK c] w λe w'=>∃k,e=rE k/\kh w' k c σ.gp/\Fr E.bs w w':=by
 have l:=h.SK;have d:=h.lt;have b:=Fr.gv (bs:=E.bs) ((Kept.refl [] w).alloc (fV #[fK c,fK σ.gp] 83));have a:=fB w (fV #[fK c,fK σ.gp] 83);go_enter func270,ntmps270;go_wp2;exact⟨rfl,_,rfl,a,b⟩
def Rel.WI {σ:Ab} (h:Rel E L σ w):Ap ⟨E.bB,188,none⟩ w=σ.fQ.length:=by
 have⟨C,hL,_⟩:=h.zc;rw[hL.Ap,BZ]
def vP (xs:j5) (y:iM):gU (xs++[y]) (((xs++[y]).length:Int) - 1)=y:=JB xs y
def YB:gU ([]:j5) ((([]:j5).length:Int) - 1)=none:=rfl
theorem wK (xs:j5):xs=[]\/∃a y,xs=a++[y]:=by
 rcases Uc xs with h|⟨b,y,h⟩
 all_goals grind
theorem Rel.n4 {σ:Ab} (h:Rel E L σ w) (a:x∈σ.fQ):∃i e,x=some i/\σ.gF i=some e:=by
 have:=h.wf.fQ x a;cases x with
 |none=>cases this
 |some i=>
  have⟨e,he⟩:=Option.isSome_iff_exists.1 (show(σ.gF i).isSome=true from this)
  grind
def Rel.vh {σ:Ab} (h:Rel E L σ w) (a:σ.gF i=some e):w.cell? ⟨L.gp i,0,none⟩=some (fR (σ.nm i)):=by
 have:σ.nm i=e.name:=by unfold Ab.nm;rw[a]
 rw[this,fw (h.uS a).gR];rfl
def Ask.dl (h:Ask bm v p w) (a:Fr bs w w'):Ask bm v p w':=h.fr (a.n bm)
def yQ {σ:Ab} (h:Rel E L σ w) (v:gh) (p:fN->Bool) (o:Ask E.bm v p w):
  Calls prog 220 #[Bp E,v] w λe w'=>e=gO (.bool (σ.current p))/\w'=w:=by
 obtain⟨k,D,rfl,C,u⟩:=o.call;have b:=SD h;rcases wK σ.fQ with c|⟨F,y,c⟩
 .have a:σ.current p=false:=by unfold Ab.current Ab.last;rw[c];rfl
  rw[a];rw[c,YB]at b;have d:=fx b;clear b;go_enter func220,ntmps220
  go_wp21
  refine d.mono ?_;rintro e w' ⟨rfl,rfl⟩;go_wp2;go_ret;simp
 .obtain⟨i,B,rfl,z⟩:=h.n4 (x:=y) (by rw[c];simp);have a:σ.current p=p (σ.nm i):=by unfold Ab.current Ab.last;rw[c,vP]
  rw[a];rw[c,vP]at b;have A:=h.vh z;have d:=fx (show Calls prog 179 #[jp E.bB 188] w (λe w'=>e=gO (fW (L.gp i))/\w'=w)from b);have l:=u w (wS.refl _ _) (σ.nm i);generalize p (σ.nm i)=r at l|-;clear b;go_enter func220,ntmps220
  go_wp21
  refine d.mono ?_;rintro e w' ⟨rfl,rfl⟩
  go_wp21
  refine l.mono ?_;rintro e w' ⟨rfl,rfl⟩;go_wp2;go_ret;simp
def XB {σ:Ab} (h:Rel E L σ w) (v:gh) (p:fN->Bool) (c:Ask E.bm v p w):
  Calls prog 241 #[Bp E,v] w λe w'=>e=oS/\To E L (σ.JS p) w w':=by
 have a:=yQ h v p c;have d:=PE h;have l:=h.to (Fr.refl w);obtain⟨k,o,rfl,_,_⟩:=c.call;unfold Ab.JS;cases hcur:σ.current p with
 |false=>
  rw[hcur]at a;go_enter func241,ntmps241
  go_wp21
  refine a.mono ?_;rintro e w' ⟨rfl,rfl⟩;go_wp2;go_end0;exact⟨rfl,l⟩
 |true=>
  rw[hcur]at a;go_enter func241,ntmps241
  go_wp21
  refine a.mono ?_;rintro e w' ⟨rfl,rfl⟩
  go_wp21
  refine d.mono ?_;rintro e w' ⟨rfl,b⟩;go_wp2;go_end0;exact⟨rfl,b⟩
structure Ok (E:Env) (L:Loc) (σ:Ab) (w:fO) (ys:j5) (wr:fO):Prop where
 ex:∃L1,L1.gp=L.gp/\Rel E L1 {σ with fQ:=ys} wr/\Fr E.bs w wr
def acm {σ:Ab} (h:Rel E L σ w) (v:gh) (p:fN->Bool) (W:Ask E.bm v p w):
  Calls prog 293 #[Bp E,v] w λe w'=>e=oS/\To E L (σ.FB p) w w':=by
 obtain⟨k,Z,rfl,Y,S⟩:=W.call;have R:Hid (Ok E L σ w σ.fQ w):=fx ⟨L,rfl,h,Fr.refl w⟩;go_enter func293,ntmps293;go_wp2
 go_loopw [] (λwr=>∃z,σ.A5 p z.reverse=σ.A5 p σ.fQ.reverse/\Ok E L σ w z wr) (λwr=>Ap ⟨E.bB,188,none⟩ wr)
 case atStart=>exact⟨_,rfl,R⟩
 case round=>
  have⟨z,hu,⟨L1,e1,hR,HFR⟩⟩:=hrel;have J:=fx e1;clear e1;have D:=fx hR.WI;have l:=Z4 hR;have A:=PE hR;rcases wK z with rfl|⟨a,y,rfl⟩
  .have C:Hid (To E L (σ.FB p) w wr):=by
    refine⟨L1,J,?_,HFR⟩;have:(σ.A5 p σ.fQ.reverse).reverse=[]:=by rw[<-hu];rfl
    unfold Ab.FB;rw[this];exact hR
   clear hR hu
   go_wp21
   refine l.mono ?_;rintro e w' ⟨rfl,rfl⟩;go_wp2;go_end0;exact⟨rfl,C⟩
  .obtain⟨i,V,rfl,G⟩:=hR.n4 (x:=y) (by simp);have I:σ.A5 p ((a++[some i]).reverse)=if p (σ.nm i)then a.reverse else σ.A5 p a.reverse:=by rw[MJ];rfl
   rw[I]at hu;have N:0 < (a++[some i]).length:=by simp
   dsimp only at l A;rw[vP]at A;have B:=(show Calls prog 184 #[jp E.bB 188] wr (λe w'=>e=gO (fW (L1.gp i))/\To E L1 {σ with fQ:=(a++[some i]).dropLast} wr w')from A);have r:=fx hu;have d:(0:Int) < ((a++[some i]).length:Int):=by omega
   obtain⟨m,O⟩:∃m,m=(a++[some i]).length:=⟨_,rfl⟩;have T:=fx (show m=a.length+1 by rw[O];simp);dsimp only at D;rw[<-O]at l d D;clear hR hu
   go_wp21
   refine l.mono ?_;rintro e w' ⟨rfl,rfl⟩
   go_wp21
   refine B.mono ?_;rintro e u ⟨rfl,U,e2,b,c⟩;rw[Uw]at b;have H:Ab.gF {σ with fQ:=a} i=some V:=G;have X:u.cell? ⟨L1.gp i,0,none⟩=some (fR (σ.nm i)):=by rw[<-e2];exact b.vh H
   have o:=S u ((HFR.trans c).n _) (σ.nm i);have F:=fx b.WI;have K:Hid (Ok E L σ w a u):=⟨U,e2.trans J,b,HFR.trans c⟩;clear b;cases hq:p (σ.nm i)with
   |true=>
    rw[hq]at o r;have C:Hid (To E L (σ.FB p) w u):=by
     have⟨L3,e3,hR3,hf3⟩:=K.ex;refine⟨L3,e3,?_,hf3⟩;have:(σ.A5 p σ.fQ.reverse).reverse=a:=by rw[<-r.out,fU rfl,List.reverse_reverse]
     unfold Ab.FB;rw[this];exact hR3
    go_wp21
    refine o.mono ?_;rintro e w' ⟨rfl,rfl⟩;go_wp2
    (try simp only[Exit.inBlock,Exit.then])
    refine nK (Gn rfl _ _ _) rfl ?_;exact⟨rfl,C⟩
   |false=>
    rw[hq]at o r
    go_wp21
    refine o.mono ?_;rintro e w' ⟨rfl,rfl⟩;go_wp2;go_roundw
    case rel=>exact⟨a,by rw[<-r.out];rfl,K⟩
    case measure=>rw[F.out,D.out,T.out];simp
def Yf (bm:Nat) (b:List fN) (w:fO) (c:b.length<=4096):
  Calls prog 225 #[mW w.heap.size b.length b.length] (w.alloc (fV (b.map Value.string).toArray 9)) λe w'=>∃f a l,e=gO (.func f a l)/\Ask bm (.func f a l) (gI b) w'/\Kept [] w w':=by
 refine(MP bm w.heap.size b.length b _ (fB w _) c).mono ?_;rintro e w' ⟨⟨v,rfl,d⟩,h⟩;obtain⟨k,o,rfl,_,_⟩:=d.call;exact⟨_,_,_,rfl,d,(((Kept.refl [] w).alloc _).trans h)⟩
theorem adp (bm:Nat) (v1 v2:gh) (p q:fN->Bool) (w:fO) (c:Ask bm v1 p w) (d:Ask bm v2 q w):
  Calls prog 245 #[v1,v2] w λe w'=>∃f a l,e=gO (.func f a l)/\Ask bm (.func f a l) (λs=>p s||q s) w'/\Kept [] w w':=by
 refine(aeu bm v1 v2 p q w c d).mono ?_;rintro e w' ⟨⟨v,rfl,b⟩,h⟩;obtain⟨k,o,rfl,_,_⟩:=b.call
 grind
def Ask.k0 (h:Ask bm v p w) (a:Kept [] w w'):Ask bm v p w':=h.fr (.gv a)
def Su {σ:Ab} (h:Rel E L σ w) (f:Fn) (a l:jB) (p:fN->Bool) (ha:Ask E.bm (.func f a l) p w):
  Calls prog 222 #[Bp E,.func f a l] w λe w'=>e=oS/\To E L (σ.xE p) w w':=by
 have H:=h;have HA:=ha;have CI:=Yf E.bm [fy] w (by decide);go_enter func222,ntmps222
 go_wp21
 refine CI.mono ?_;rintro e w1 ⟨f1,a1,l1,rfl,U,A⟩;have CO:=adp E.bm _ _ _ _ w1 (HA.k0 A) U
 go_wp21
 refine CO.mono ?_;rintro e w2 ⟨f2,a2,l2,rfl,z,V⟩;have B:=A.trans V;have H2:=H.gJ B;obtain⟨q,hq⟩:∃q,q=(λs=>p s||gI [fy] s):=⟨_,rfl⟩;rw[<-hq]at z;have C:Hid (∀wr,(∃r,r.gp=L.gp/\Rel E r {σ with fQ:=(σ.pU (λs=>!q s) σ.fQ.reverse).reverse} wr/\Fr E.bs w wr)->To E L (σ.xE p) w wr):=by
  rintro wr ⟨r,e1,b,F⟩;refine⟨r,e1,?_,F⟩;unfold Ab.xE
  rwa [hq]at b
 have H0:Hid (Ok E L σ w σ.fQ w2):=fx ⟨L,rfl,H2,.gv B⟩;go_wp2
 go_loopw [] (λwr=>∃J,σ.pU (λs=>!q s) J.reverse=σ.pU (λs=>!q s) σ.fQ.reverse/\Fr E.bs w2 wr/\Ok E L σ w J wr) (λwr=>Ap ⟨E.bB,188,none⟩ wr)
 case atStart=>exact⟨_,rfl,Fr.refl _,H0⟩
 case round=>
  have⟨J,hu,hf2,⟨r,E1,b,F⟩⟩:=hrel;have S:=fx b.WI;have u:=Z4 b;have Y:=yQ b _ _ (z.dl hf2);rcases wK J with rfl|⟨o,y,rfl⟩
  .have R:Hid (To E L (σ.xE p) w wr):=by
    refine C wr ⟨r,E1,?_,F⟩;have:(σ.pU (λs=>!q s) σ.fQ.reverse).reverse=[]:=by rw[<-hu];rfl
    rw[this];exact b
   clear b hu
   go_wp21
   refine u.mono ?_;rintro e w' ⟨rfl,rfl⟩;go_wp2;go_end0;exact⟨rfl,R⟩
  .obtain⟨i,e0,rfl,hi⟩:=b.n4 (x:=y) (by simp);have X:σ.pU (λs=>!q s) ((o++[some i]).reverse)=if (!q (σ.nm i))=true then σ.pU (λs=>!q s) o.reverse else some i::o.reverse:=by rw[MJ];rfl
   rw[X]at hu;have D:Ab.current {σ with fQ:=o++[some i]} q=q (σ.nm i):=by unfold Ab.current Ab.last;rw[vP];rfl
   rw[D]at Y;have d:=Y;have I:=fx hu;have O:=F;have K:=hf2;have CP:=PE b;obtain⟨m,W⟩:∃m,m=(o++[some i]).length:=⟨_,rfl⟩;have Z:(0:Int) < (m:Int):=by rw[W];simp
   have HM:=fx (show m=o.length+1 by rw[W];simp);dsimp only at S u;rw[<-W]at u S;cases hqq:q (σ.nm i)with
   |true=>
    rw[hqq]at d I;have R:Hid (To E L (σ.xE p) w wr):=by
     refine C wr ⟨r,E1,?_,F⟩;have:(σ.pU (λs=>!q s) σ.fQ.reverse).reverse=o++[some i]:=by rw[<-I.out];simp
     rw[this];exact b
    clear b hu
    go_wp21
    refine u.mono ?_;rintro e w' ⟨rfl,rfl⟩
    go_wp21
    refine d.mono ?_;rintro e w' ⟨rfl,rfl⟩;go_wp2;go_end0;exact⟨rfl,R⟩
   |false=>
    rw[hqq]at d I;clear b hu
    go_wp21
    refine u.mono ?_;rintro e w' ⟨rfl,rfl⟩
    go_wp21
    refine d.mono ?_;rintro e w' ⟨rfl,rfl⟩
    go_wp21
    refine CP.mono ?_;rintro e w3 ⟨rfl,L2,e2,c,G⟩
    try dsimp only at c
    rw[Uw]at c;have T:=fx c.WI;have HP:Hid (Ok E L σ w o w3):=⟨L2,e2.trans E1,c,O.trans G⟩;have N:=K.trans G;clear c;go_wp2;go_roundw
    case rel=>exact⟨o,by rw[<-I.out];rfl,N,HP⟩
    case measure=>rw[T.out,S.out,HM.out];simp
def Rel.acv {σ:Ab} (h:Rel E L σ w):∃f a l,w.cell? ⟨E.bB,185,none⟩=some (.func f a l)/\Ask E.bm (.func f a l) uR w:=by
 have⟨v,hv,ha⟩:=h.env.Wx;obtain⟨k,b,rfl,_,_⟩:=ha.call;exact⟨_,_,_,h.low (by decide) hv,ha.dl h.fr⟩
def Rel.Hi {σ:Ab} (h:Rel E L σ w):∃f a l,w.cell? ⟨E.bB,184,none⟩=some (.func f a l)/\Ask E.bm (.func f a l) kU w:=by
 have⟨v,hv,ha⟩:=h.env.spec;obtain⟨k,b,rfl,_,_⟩:=ha.call;exact⟨_,_,_,h.low (by decide) hv,ha.dl h.fr⟩
def Rel.bounds {σ:Ab} (h:Rel E L σ w):∃f a l,w.cell? ⟨E.bB,186,none⟩=some (.func f a l)/\Ask E.bm (.func f a l) io w:=by
 have⟨v,hv,ha⟩:=h.env.VV;obtain⟨k,b,rfl,_,_⟩:=ha.call;exact⟨_,_,_,h.low (by decide) hv,ha.dl h.fr⟩
def Jc {σ:Ab} (h:Rel E L σ w):
  Calls prog 288 #[Bp E] w λe w'=>e=oS/\To E L σ.mB w w':=by
 have N:Hid (Ok E L σ w σ.fQ w):=fx ⟨L,rfl,h,Fr.refl w⟩;have r:Hid (∀wr,(∃u,u.gp=L.gp/\Rel E u {σ with fQ:=(σ.pU uR σ.fQ.reverse).reverse} wr/\Fr E.bs w wr)->To E L σ.mB w wr):=by
  rintro wr ⟨u,e1,b,z⟩;exact⟨u,e1,b,z⟩
 generalize hq:uR=q at r;have S:=fx hq;clear hq;go_enter func288,ntmps288;go_wp2
 go_loopw [] (λwr=>∃B,σ.pU q B.reverse=σ.pU q σ.fQ.reverse/\Ok E L σ w B wr) (λwr=>Ap ⟨E.bB,188,none⟩ wr)
 case atStart=>exact⟨_,rfl,N⟩
 case round=>
  have⟨B,hu,⟨u,E1,b,z⟩⟩:=hrel;have F:=fx b.WI;have⟨f1,a1,l1,c1,ha1⟩:=b.acv;rw[S.out]at ha1;have o:=yQ b _ _ ha1;rcases wK B with rfl|⟨l,y,rfl⟩
  .have D:Hid (To E L σ.mB w wr):=by
    refine r wr ⟨u,E1,?_,z⟩;have:(σ.pU q σ.fQ.reverse).reverse=[]:=by rw[<-hu];rfl
    rw[this];exact b
   have d:Ab.current {σ with fQ:=[]} q=false:=rfl;rw[d]at o;have a:=fx o;clear b hu o
   go_wp21
   refine a.mono ?_;rintro e w' ⟨rfl,rfl⟩;go_wp2;go_end0;exact⟨rfl,D⟩
  .obtain⟨i,V,rfl,W⟩:=b.n4 (x:=y) (by simp);have I:σ.pU q ((l++[some i]).reverse)=if q (σ.nm i)=true then σ.pU q l.reverse else some i::l.reverse:=by rw[MJ];rfl
   rw[I]at hu;have d:Ab.current {σ with fQ:=l++[some i]} q=q (σ.nm i):=by unfold Ab.current Ab.last;rw[vP];rfl
   rw[d]at o;have a:=fx o;have A:=fx hu;have C:=z;have K:=PE b;obtain⟨m,J⟩:∃m,m=(l++[some i]).length:=⟨_,rfl⟩;have O:=fx (show m=l.length+1 by rw[J];simp);dsimp only at F;rw[<-J]at F;cases hqq:q (σ.nm i)with
   |false=>
    rw[hqq]at a A;have D:Hid (To E L σ.mB w wr):=by
     refine r wr ⟨u,E1,?_,z⟩;have:(σ.pU q σ.fQ.reverse).reverse=l++[some i]:=by rw[<-A.out];simp
     rw[this];exact b
    clear b hu o
    go_wp21
    refine a.mono ?_;rintro e w' ⟨rfl,rfl⟩;go_wp2;go_end0;exact⟨rfl,D⟩
   |true=>
    rw[hqq]at a A;clear b hu o
    go_wp21
    refine a.mono ?_;rintro e w' ⟨rfl,rfl⟩
    go_wp21
    refine K.mono ?_;rintro e U ⟨rfl,T,e2,c,H⟩
    try dsimp only at c
    rw[Uw]at c;have G:=fx c.WI;have R:Hid (Ok E L σ w l U):=⟨T,e2.trans E1,c,C.trans H⟩;clear c;go_wp2;go_roundw
    case rel=>exact⟨l,by rw[<-A.out];rfl,R⟩
    case measure=>rw[G.out,F.out,O.out];simp
def RF (E:Env) (f:Nat->Nat) (σ:Ab) (w:fO):Prop:=∃L,L.gp=f/\Rel E L σ w
def RS (n:Nat) (f g:Nat->Nat):Prop:=∀i,i < n->g i=f i
def Leaves {α:Type} (E:Env) (f:Nat->Nat) (n:Nat) (w:fO) (r:qI α) (b:(Nat->Nat)->α->gh) (e:Ending) (w':fO):Prop:=match r with
 | .ok a σ'=>∃g,RS n f g/\n<=σ'.nodes.length/\e=gO (b g a)/\RF E g σ' w'/\Fr E.bs w w'
 | .stop c p=>∃k,e=rE k/\kh w' k c p/\Fr E.bs w w'
 | .stuck=>False
def iG {α:Type} (E:Env) (k:Nat) (args:(Nat->Nat)->jB) (m:M α) (a:(Nat->Nat)->α->gh):Prop:=
 ∀f σ w,RF E f σ w->m σ≠ .stuck->Calls prog k (args f) w (Leaves E f σ.nodes.length w (m σ) a)
abbrev uV (_:Nat->Nat) (_:Unit):gh:= .tuple #[]
abbrev bV (_:Nat->Nat) (b:Bool):gh:= .bool b
abbrev nV (f:Nat->Nat) (i:Nat):gh:=fW (f i)
abbrev oV (f:Nat->Nat) (x:iM):gh:=kK (gX f x)
abbrev pV (f:Nat->Nat) (pl:Nat×Nat):gh:= .agg #[fW (f pl.1),fK pl.2]
structure At (E:Env) (f0:Nat->Nat) (n0:Nat) (w0:fO) (f:Nat->Nat) (σ:Ab) (w:fO):Prop where
 rel:RF E f σ w
 ext:RS n0 f0 f
 le:n0<=σ.nodes.length
 fr:Fr E.bs w0 w
 hw:E.w0.heap.size<=w0.heap.size
def At.start {σ:Ab} (h:RF E f σ w):At E f σ.nodes.length w f σ w:=⟨h,λ_ _=>rfl,gr _,Fr.refl _,by have⟨L,_,hr⟩:=h;exact hr.fr.size⟩
def RF.gJ {σ:Ab} (h:RF E f σ w) (a:Kept [] w w'):RF E f σ w':=by have⟨L,e,hr⟩:=h;exact⟨L,e,hr.gJ a⟩
def WT:List TypeId:=[140,142,284,239,243,299,180,72,125,165]
theorem Rel.side {σ:Ab} (h:Rel E L σ w) {b : Nat} {c : jB} {T : TypeId} {m : Nat×Nat} (r:w.heap[b]?=some (.cells c T m)) (A:∀t∈WT,t≠T) (l:E.w0.heap.size<=b) (j:Nat) (u:gh):Rel E L σ (w.setCell ⟨b,j,none⟩ u):=by
 have d:KT E.bs [T] w (w.setCell ⟨b,j,none⟩ u):= .jl ((Kept.refl [b] w).setCell (.inl (by simp)) u) (λk o _=>by simp at o;subst o;exact⟨⟨_,_,_,r,by simp⟩,jC h.bz l⟩);have a:∀t∈WT,t∉[T]:=λt z=>by grind
 have⟨C,hbl,hC⟩:=h.gR;exact {h with
  fr:=by
   have⟨S,o,hS⟩:=h.fr;exact⟨S,o.setCell (.inr l) u,hS⟩
  rP:=λi nd y=>(h.rP i nd y).kt d (λt z=>a t (by revert t;decide))
  gR:=⟨C,d.at hbl (a _ (by decide)),hC⟩
  nM:=d.row h.nM (a _ (by decide))
  oE:=d.row h.oE (a _ (by decide))
  nN:=d.row h.nN (a _ (by decide))
  rd:=d.at h.rd (a _ (by decide))
  tok:=d.row h.tok (a _ (by decide))}
section
variable {α β:Type} {E:Env} {f0:Nat->Nat} {n0:Nat} {w0:fO} {f:Nat->Nat} {σ:Ab} {w:fO}
def At.side (h:At E f0 n0 w0 f σ w) {b:Nat} {c:jB} {T:TypeId} {m:Nat×Nat} (l:w.heap[b]?=some (.cells c T m)) (d:∀t∈WT,t≠T) (a:w0.heap.size<=b) (j:Nat) (u:gh):At E f0 n0 w0 f σ (w.setCell ⟨b,j,none⟩ u):=by
 have⟨L,e,hr⟩:=h.rel;refine⟨⟨L,e,hr.side l d (jC h.hw a) j u⟩,h.ext,h.le,?_,h.hw⟩;have⟨S,hk,hS⟩:=h.fr;exact⟨S,hk.setCell (.inr a) u,hS⟩
def At.k0 (h:At E f0 n0 w0 f σ w) {w':fO} (a:Kept [] w w'):At E f0 n0 w0 f σ w':=⟨h.rel.gJ a,h.ext,h.le,h.fr.trans (.gv a),h.hw⟩
def At.to (h:At E f0 n0 w0 f σ w) {σ':Ab} {w':fO} (c:RF E f σ' w') (b:σ.nodes.length<=σ'.nodes.length) (a:Fr E.bs w w'):At E f0 n0 w0 f σ' w':=⟨c,h.ext,jC h.le b,h.fr.trans a,h.hw⟩
def At.go (h:At E f0 n0 w0 f σ w) {g:Nat->Nat} {σ':Ab} {w':fO} (d:RF E g σ' w') (l:RS σ.nodes.length f g) (c:σ.nodes.length<=σ'.nodes.length) (b:Fr E.bs w w'):At E f0 n0 w0 g σ' w':=
 ⟨d,λi a=>(l i (lz a h.le)).trans (h.ext i a),jC h.le c,h.fr.trans b,h.hw⟩
def fL {R:qI α} {a:α} {b:(Nat->Nat)->α->gh} (c:R= .ok a σ) (h:At E f0 n0 w0 f σ w) {e:Ending} (d:e=gO (b f a)):Leaves E f0 n0 w0 R b e w:=by
 subst c;exact⟨f,h.ext,h.le,d,h.rel,h.fr⟩
theorem pd {R:qI α} {a:(Nat->Nat)->α->gh} {c p j:Nat} (b:R= .stop c p) (h:kh w j c p) (d:Fr E.bs w0 w):Leaves E f0 n0 w0 R a (rE j) w:=by
 grind[Leaves]
theorem iG.call {k:Nat} {args:(Nat->Nat)->jB} {m:M α} {l:(Nat->Nat)->α->gh} (D:iG E k args m l) (H:At E f0 n0 w0 f σ w) {R:qI β} {K:α->M β} (d:R=(m>>=K) σ) (I:R≠ .stuck) {A:jB} (hA:args f=A) {Q:Ending->fO->Prop}
  (y:∀c p j w',R= .stop c p->kh w' j c p->Fr E.bs w0 w'->Q (rE j) w')
  (u:∀a g b w',At E f0 n0 w0 g b w'->RS σ.nodes.length f g->Fr E.bs w w'->R=K a b->Q (gO (l g a)) w'):Calls prog k A w Q:=by
 rw[M.fP]at d;have C:m σ≠ .stuck:=λe=>I (by grind);have h:=D f σ w H.rel C;rw[hA]at h;refine h.mono ?_;intro e w' o;cases hr:m σ with
 |ok a b=>
  rw[hr]at o d;obtain⟨g,z,r,rfl,G,B⟩:=o;exact u a g b w' (H.go G z r B) z B d
 |stop c p=>
  rw[hr]at o d;obtain⟨j,rfl,r,F⟩:=o;exact y c p j w' d r (H.fr.trans F)
 |stuck=>exact absurd hr C
end
def jT {α:Type} (E:Env) (f:Nat->Nat) (n:Nat) (w:fO) (r:qI α) (b:(Nat->Nat)->α->gh) (e:Ending) (w':fO):Prop:=match r with
 | .ok a σ'=>e=gO (b f a)/\RF E f σ' w'/\Fr E.bs w w'/\n<=σ'.nodes.length
 | .stop c p=>∃j,e=rE j/\kh w' j c p/\Fr E.bs w w'
 | .stuck=>False
def jS {α:Type} (E:Env) (k:Nat) (args:(Nat->Nat)->jB) (m:M α) (a:(Nat->Nat)->α->gh):Prop:=
 ∀f σ w,RF E f σ w->m σ≠ .stuck->Calls prog k (args f) w (jT E f σ.nodes.length w (m σ) a)
section
variable {α β:Type} {E:Env} {f0:Nat->Nat} {n0:Nat} {w0:fO} {f:Nat->Nat} {σ:Ab} {w:fO}
theorem jS.call {k:Nat} {args:(Nat->Nat)->jB} {m:M α} {l:(Nat->Nat)->α->gh} (D:jS E k args m l) (H:At E f0 n0 w0 f σ w) {R:qI β} {K:α->M β} (d:R=(m>>=K) σ) (I:R≠ .stuck) {A:jB} (hA:args f=A) {Q:Ending->fO->Prop}
  (u:∀c p j w',R= .stop c p->kh w' j c p->Fr E.bs w0 w'->Q (rE j) w')
  (r:∀a b w',At E f0 n0 w0 f b w'->Fr E.bs w w'->R=K a b->Q (gO (l f a)) w'):Calls prog k A w Q:=by
 rw[M.fP]at d;have z:m σ≠ .stuck:=λe=>I (by grind);have h:=D f σ w H.rel z;rw[hA]at h;refine h.mono ?_;intro e w' o;cases hr:m σ with
 |ok a b=>
  rw[hr]at o d;obtain⟨rfl,F,y,G⟩:=o;exact r a b w' (H.to F G y) y d
 |stop c p=>
  rw[hr]at o d;obtain⟨j,rfl,B,C⟩:=o;exact u c p j w' d B (H.fr.trans C)
 |stuck=>exact absurd hr z
def afu {k:Nat} {m:M α} {h:(Nat->Nat)->α->gh} {A:jB} (C:m σ≠ .stuck->Calls prog k A w (jT E f σ.nodes.length w (m σ) h)) (H:At E f0 n0 w0 f σ w) {R:qI β} {K:α->M β} (d:R=(m>>=K) σ) (G:R≠ .stuck) {Q:Ending->fO->Prop}
  (r:∀c p j w',R= .stop c p->kh w' j c p->Fr E.bs w0 w'->Q (rE j) w')
  (o:∀a b w',At E f0 n0 w0 f b w'->Fr E.bs w w'->R=K a b->Q (gO (h f a)) w'):Calls prog k A w Q:=by
 rw[M.fP]at d;have y:m σ≠ .stuck:=λe=>G (by rw[d,e]);refine(C y).mono ?_;intro e w' l;cases hr:m σ with
 |ok a b=>
  rw[hr]at l d;obtain⟨rfl,D,u,F⟩:=l;exact o a b w' (H.to D F u) u d
 |stop c p=>
  rw[hr]at l d;obtain⟨j,rfl,z,B⟩:=l;exact r c p j w' d z (H.fr.trans B)
 |stuck=>exact absurd hr y
def afm {k:Nat} {m:M α} {h:(Nat->Nat)->α->gh} {A:jB} (C:m σ≠ .stuck->Calls prog k A w (Leaves E f σ.nodes.length w (m σ) h)) (H:At E f0 n0 w0 f σ w) {R:qI β} {K:α->M β} (d:R=(m>>=K) σ) (G:R≠ .stuck) {Q:Ending->fO->Prop}
  (u:∀c p j w',R= .stop c p->kh w' j c p->Fr E.bs w0 w'->Q (rE j) w')
  (r:∀a g b w',At E f0 n0 w0 g b w'->RS σ.nodes.length f g->Fr E.bs w w'->R=K a b->Q (gO (h g a)) w'):Calls prog k A w Q:=by
 rw[M.fP]at d;have B:m σ≠ .stuck:=λe=>G (by rw[d,e]);refine(C B).mono ?_;intro e w' l;cases hr:m σ with
 |ok a b=>
  rw[hr]at l d;obtain⟨g,y,o,rfl,F,z⟩:=l;exact r a g b w' (H.go F y o z) y z d
 |stop c p=>
  rw[hr]at l d;obtain⟨j,rfl,o,D⟩:=l;exact u c p j w' d o (H.fr.trans D)
 |stuck=>exact absurd hr B
def jK {R:qI α} {a:α} {b:(Nat->Nat)->α->gh} (c:R= .ok a σ) (h:At E f n0 w0 f σ w) {e:Ending} (d:e=gO (b f a)):jT E f n0 w0 R b e w:=by
 subst c;exact⟨d,h.rel,h.fr,h.le⟩
theorem ue {R:qI α} {a:(Nat->Nat)->α->gh} {c p j:Nat} (b:R= .stop c p) (h:kh w j c p) (d:Fr E.bs w0 w):jT E f n0 w0 R a (rE j) w:=by
 grind[jT]
def dC {k:Nat} {args:(Nat->Nat)->jB} {m:M α} {b:(Nat->Nat)->α->gh} (D:iG E k args m b) (H:Hid (At E f0 n0 w0 f σ w)) {R:qI β} {K:α->M β} (y:Hid (R=(m>>=K) σ)) (z:Hid (R≠ .stuck)) {A:jB} (hA:args f=A) {Q:Ending->fO->Prop}
  (l:∀c p j w',Hid (R= .stop c p/\kh w' j c p/\Fr E.bs w0 w')->Q (rE j) w')
  (h:∀a g d w',Hid (At E f0 n0 w0 g d w')->Hid (RS σ.nodes.length f g)->Hid (Fr E.bs w w')->Hid (R=K a d)->Q (gO (b g a)) w'):Calls prog k A w Q:=iG.call D H y z hA (λc p j w' o r u=>l c p j w' ⟨o,r,u⟩) h
def mC {k:Nat} {args:(Nat->Nat)->jB} {m:M α} {b:(Nat->Nat)->α->gh} (D:jS E k args m b) (H:Hid (At E f0 n0 w0 f σ w)) {R:qI β} {K:α->M β} (y:Hid (R=(m>>=K) σ)) (z:Hid (R≠ .stuck)) {A:jB} (hA:args f=A) {Q:Ending->fO->Prop}
  (l:∀c p j w',Hid (R= .stop c p/\kh w' j c p/\Fr E.bs w0 w')->Q (rE j) w')
  (h:∀a d w',Hid (At E f0 n0 w0 f d w')->Hid (Fr E.bs w w')->Hid (R=K a d)->Q (gO (b f a)) w'):Calls prog k A w Q:=jS.call D H y z hA (λc p j w' o r u=>l c p j w' ⟨o,r,u⟩) h
def AQ {k:Nat} {m:M α} {b:(Nat->Nat)->α->gh} {A:jB} (C:m σ≠ .stuck->Calls prog k A w (jT E f σ.nodes.length w (m σ) b)) (H:Hid (At E f0 n0 w0 f σ w)) {R:qI β} {K:α->M β} (y:Hid (R=(m>>=K) σ)) (z:Hid (R≠ .stuck)) {Q:Ending->fO->Prop}
  (l:∀c p j w',Hid (R= .stop c p/\kh w' j c p/\Fr E.bs w0 w')->Q (rE j) w')
  (h:∀a d w',Hid (At E f0 n0 w0 f d w')->Hid (Fr E.bs w w')->Hid (R=K a d)->Q (gO (b f a)) w'):Calls prog k A w Q:=afu C H y z (λc p j w' o r u=>l c p j w' ⟨o,r,u⟩) h
def dR {k:Nat} {m:M α} {b:(Nat->Nat)->α->gh} {A:jB} (C:m σ≠ .stuck->Calls prog k A w (Leaves E f σ.nodes.length w (m σ) b)) (H:Hid (At E f0 n0 w0 f σ w)) {R:qI β} {K:α->M β} (y:Hid (R=(m>>=K) σ)) (z:Hid (R≠ .stuck)) {Q:Ending->fO->Prop}
  (l:∀c p j w',Hid (R= .stop c p/\kh w' j c p/\Fr E.bs w0 w')->Q (rE j) w')
  (h:∀a g d w',Hid (At E f0 n0 w0 g d w')->Hid (RS σ.nodes.length f g)->Hid (Fr E.bs w w')->Hid (R=K a d)->Q (gO (b g a)) w'):Calls prog k A w Q:=afm C H y z (λc p j w' o r u=>l c p j w' ⟨o,r,u⟩) h
def lS {R:qI α} {a:(Nat->Nat)->α->gh} {c p j:Nat} (h:Hid (R= .stop c p/\kh w j c p/\Fr E.bs w0 w)):Leaves E f0 n0 w0 R a (rE j) w:=pd h.1 h.2.1 h.2.2
def mS {R:qI α} {a:(Nat->Nat)->α->gh} {c p j:Nat} (h:Hid (R= .stop c p/\kh w j c p/\Fr E.bs w0 w)):jT E f n0 w0 R a (rE j) w:=ue h.1 h.2.1 h.2.2
def dI {k:Nat} {args:(Nat->Nat)->jB} {m:M α} {a:(Nat->Nat)->α->gh} (h:∀f σ w R,Hid (R=m σ)->Hid (R≠ .stuck)->Hid (At E f σ.nodes.length w f σ w)->Calls prog k (args f) w (Leaves E f σ.nodes.length w R a)):iG E k args m a:=λf σ w b c=>h f σ w _ rfl c (At.start b)
def mI {k:Nat} {args:(Nat->Nat)->jB} {m:M α} {a:(Nat->Nat)->α->gh} (h:∀f σ w R,Hid (R=m σ)->Hid (R≠ .stuck)->Hid (At E f σ.nodes.length w f σ w)->Calls prog k (args f) w (jT E f σ.nodes.length w R a)):jS E k args m a:=λf σ w b c=>h f σ w _ rfl c (At.start b)
end
def GG (E:Env) (i:Nat):jS E 99 (λf=>#[nV f i]) (jf i) pV:=by
 intro f σ w ⟨L,e,d⟩ a;subst e;unfold jf at a|-;cases he:σ.gF i with
 |none=>rw[he]at a;exact absurd rfl a
 |some e=>
  refine(Pc d he).mono ?_;rintro h w' ⟨rfl,b,c⟩;exact⟨rfl,⟨L,rfl,b⟩,.gv c,gr _⟩
def Du (E:Env) (pl:Nat×Nat) (j:Nat):jS E 175 (λf=>#[pV f pl,.iface 72 (nV f j)]) (nj pl j) uV:=by
 intro f σ w ⟨L,e,h⟩ a;subst e;unfold nj at a|-;cases h1:σ.gF pl.1 with
 |none=>rw[h1]at a;exact absurd rfl a
 |some ei=>
  cases h2:σ.gF j with
  |none=>rw[h1,h2]at a;exact absurd rfl a
  |some ej=>
   simp only[h1,h2]at a|-
   by_cases b:j≠pl.1/\pl.2<=ei.kids.length/\ei.kids.length < 1048576
   .rw[fU b];refine(Zp h h1 h2 b.1 b.2.1 b.2.2).mono ?_;rintro l w' ⟨rfl,L',e1,c,d⟩;exact⟨rfl,⟨L',e1,c⟩,d,by simp[Ab.gE]⟩
   .rw[gn b]at a;exact absurd rfl a
theorem SV (E:Env) (pl:Nat×Nat) (s:fN):iG E 182 (λf=>#[pV f pl,fR s]) (uT pl s) uV:=by
 intro f σ w ⟨L,e,y⟩ a;subst e;unfold uT at a|-;cases h1:σ.gF pl.1 with
 |none=>rw[h1]at a;exact absurd rfl a
 |some ei=>
  simp only[h1]at a|-
  by_cases l:pl.2<=ei.kids.length/\ei.kids.length < 1048576
  .rw[fU l]at a|-;have b:∀(z:∀m,(o:m < ei.kids.length)->pl.2=m+1->∀t,ei.kids[m]≠ .tx t),Calls prog 182 #[pV L.gp pl,fR s] w (Leaves E L.gp σ.nodes.length w (.ok () ((σ.add (.tx s)).gE pl.1 {ei with kids:=ins ei.kids pl.2 (.tx σ.nodes.length)})) uV):=by
    intro z;refine(JL y h1 l.1 l.2 z).mono ?_;rintro D w' ⟨rfl,L',e1,r,u⟩;exact⟨L'.gp,e1,by simp[Ab.gE,Ab.add],rfl,⟨L',rfl,r⟩,u⟩
   by_cases A:pl.2=0
   .simp only[fU A]at a|-;exact b λm o e=>by omega
   .simp only[gn A]at a|-;obtain⟨m,o⟩:∃m,pl.2=m+1:=⟨pl.2 - 1,by omega⟩;have h:m < ei.kids.length:=by omega
    have F:ei.kids[pl.2 - 1]?=some ei.kids[m]:=by rw[o,P5];exact pY h
    rw[F]at a|-;cases hk:ei.kids[m]with
    |tx t=>
     simp only[hk]at a|-;cases ht:σ.nodes[t]? with
     |none=>rw[ht]at a;exact absurd rfl a
     |some nd=>
      cases nd with
      |tx old=>
       simp only[ht]at a|-
       by_cases c:old.size+s.size<=1048576
       .rw[fU c];have:=GV y h1 h hk ht c;rw[<-o]at this;refine this.mono ?_;rintro D w' ⟨rfl,L',e1,r,u⟩;exact⟨L.gp,λ_ _=>rfl,by simp[Ab.nR],rfl,⟨L',e1,r⟩,u⟩
       .rw[gn c]at a;exact absurd rfl a
      |el e=>rw[ht]at a;exact absurd rfl a
      |cm e=>rw[ht]at a;exact absurd rfl a
      |dt e=>rw[ht]at a;exact absurd rfl a
    |el t=>exact b λB d e C=>by grind
    |cm t=>exact b λB d e C=>by grind
    |dt t=>exact b λB d e C=>by grind
  .rw[gn l]at a;exact absurd rfl a
def Yj (E:Env):jS E 184 (λ_=>#[jp E.bB 188]) (λσ=> .ok σ.last σ.pop) oV:=by
 intro f σ w ⟨L,e,c⟩ h;subst e;refine(PE c).mono ?_;rintro d w' ⟨rfl,L',e1,a,b⟩;exact⟨rfl,⟨L',e1,a⟩,b,gr _⟩
theorem NJ (E:Env) (x:iM):jS E 186 (λf=>#[Bp E,oV f x]) (xx x) uV:=by
 intro f σ w ⟨L,e,h⟩ l;subst e;have C:=h.low (j:=0) (by decide) h.rY.1;have⟨_,_,_,hd,_,_⟩:=h.rY;have B:=h.ve;have c:=(λq=>Z4 (h.drewN q));unfold xx at l|-
 by_cases d:σ.pS<=σ.fQ.length
 .rw[fU d];have b:=(λq=>MT (h.drewN q) 5);go_enter func186,ntmps186
  go_wp21
  go_quiet ((go_at_call 269;exact Mv (c _)))
  go_wp21
  refine(b nq).mono ?_;rintro e w' ⟨k,rfl,o,z⟩;have r:=(Fr.drewN w nq).trans z;go_wp2;exact⟨rfl,k,rfl,o,r⟩
 .rw[gn d]at l|-;have a:σ.lH x=true:=by
   by_cases a:σ.lH x=true
   .exact a
   .grind
  rw[fU a];have b:=(λq=>adB (h.drewN q) x a (by omega));go_enter func186,ntmps186
  go_wp21
  go_quiet ((go_at_call 269;exact Mv (c _)))
  go_wp21
  refine(b nq).mono ?_;rintro e w' ⟨rfl,L',e1,y,A⟩;have u:=(Fr.drewN w nq).trans A;go_wp2;go_end0;exact⟨rfl,⟨L',e1,y⟩,u,gr _⟩
section
variable {E:Env} {f0:Nat->Nat} {n0:Nat} {w0:fO} {f:Nat->Nat} {σ:Ab} {w:fO}
def At.lt (h:At E f0 n0 w0 f σ w):E.bB < w.heap.size:=by have⟨L,_,hr⟩:=h.rel;exact hr.lt
def At.free (h:At E f0 n0 w0 f σ w) (j:Nat):w.frozen? ⟨E.bB,j,none⟩=false:=by have⟨L,_,hr⟩:=h.rel;exact hr.free j
def At.Wr (h:At E f0 n0 w0 f σ w):w.cell? ⟨E.bB,190,none⟩=some (oV f σ.head):=by obtain⟨L,rfl,a⟩:=h.rel;exact a.Wr
def At.R4 (h:At E f0 n0 w0 f σ w):w.cell? ⟨E.bB,191,none⟩=some (oV f σ.form):=by obtain⟨L,rfl,a⟩:=h.rel;exact a.R4
def At.rK (h:At E f0 n0 w0 f σ w):w.cell? ⟨E.bB,192,none⟩=some (fK σ.mode):=by obtain⟨L,rfl,a⟩:=h.rel;exact a.rK
def At.TD (h:At E f0 n0 w0 f σ w):w.cell? ⟨E.bB,193,none⟩=some (fK σ.kept):=by obtain⟨L,rfl,a⟩:=h.rel;exact a.TD
def At.ZW (h:At E f0 n0 w0 f σ w):w.cell? ⟨E.bB,195,none⟩=some (.bool σ.iq):=by obtain⟨L,rfl,a⟩:=h.rel;exact a.ZW
def At.YR (h:At E f0 n0 w0 f σ w):w.cell? ⟨E.bB,196,none⟩=some (.bool σ.iP):=by obtain⟨L,rfl,a⟩:=h.rel;exact a.YR
def At.SK (h:At E f0 n0 w0 f σ w):w.cell? ⟨E.bB,197,none⟩=some (fK σ.gp):=by obtain⟨L,rfl,a⟩:=h.rel;exact a.SK
def At.Yr (h:At E f0 n0 w0 f σ w):w.cell? ⟨E.bB,198,none⟩=some (.bool σ.behind):=by obtain⟨L,rfl,a⟩:=h.rel;exact a.Yr
def At.Ky (h:At E f0 n0 w0 f σ w) (j:Nat) (u:gh):Fr E.bs w (w.setCell ⟨E.bB,j,none⟩ u):=by
 have⟨L,_,hr⟩:=h.rel;have⟨C,hb⟩:=hr.Uq;exact .jl ((Kept.refl [E.bB] w).setCell (.inl (by simp)) u) (λk a=>by simp at a;subst a;exact⟨⟨_,_,_,hb,by decide⟩,hr.bB⟩)
def At.yb (h:At E f0 n0 w0 f σ w) (x:iM) (c:σ.gx x=true):At E f0 n0 w0 f {σ with head:=x} (w.setCell ⟨E.bB,190,none⟩ (oV f x)):=by
 have a:=h.Ky 190 (oV f x);obtain⟨L,rfl,b⟩:=h.rel;exact h.to ⟨L,rfl,b.yb x c⟩ (gr _) a
def At.uW (h:At E f0 n0 w0 f σ w) (x:iM) (c:σ.gx x=true):At E f0 n0 w0 f {σ with form:=x} (w.setCell ⟨E.bB,191,none⟩ (oV f x)):=by
 have a:=h.Ky 191 (oV f x);obtain⟨L,rfl,b⟩:=h.rel;exact h.to ⟨L,rfl,b.uW x c⟩ (gr _) a
def At.iI (h:At E f0 n0 w0 f σ w) (x:Nat):At E f0 n0 w0 f {σ with mode:=x} (w.setCell ⟨E.bB,192,none⟩ (fK x)):=by
 have a:=h.Ky 192 (fK x);obtain⟨L,rfl,b⟩:=h.rel;exact h.to ⟨L,rfl,b.iI x⟩ (gr _) a
def At.yx (h:At E f0 n0 w0 f σ w) (x:Nat):At E f0 n0 w0 f {σ with kept:=x} (w.setCell ⟨E.bB,193,none⟩ (fK x)):=by
 have a:=h.Ky 193 (fK x);obtain⟨L,rfl,b⟩:=h.rel;exact h.to ⟨L,rfl,b.yx x⟩ (gr _) a
def At.yq (h:At E f0 n0 w0 f σ w) (x:Bool):At E f0 n0 w0 f {σ with iq:=x} (w.setCell ⟨E.bB,195,none⟩ (.bool x)):=by
 have a:=h.Ky 195 (.bool x);obtain⟨L,rfl,b⟩:=h.rel;exact h.to ⟨L,rfl,b.yq x⟩ (gr _) a
def At.qs (h:At E f0 n0 w0 f σ w) (x:Bool):At E f0 n0 w0 f {σ with iP:=x} (w.setCell ⟨E.bB,196,none⟩ (.bool x)):=by
 have a:=h.Ky 196 (.bool x);obtain⟨L,rfl,b⟩:=h.rel;exact h.to ⟨L,rfl,b.qs x⟩ (gr _) a
def At.CZ (h:At E f0 n0 w0 f σ w) (x:Nat):At E f0 n0 w0 f {σ with gp:=x} (w.setCell ⟨E.bB,197,none⟩ (fK x)):=by
 have a:=h.Ky 197 (fK x);obtain⟨L,rfl,b⟩:=h.rel;exact h.to ⟨L,rfl,b.CZ x⟩ (gr _) a
def At.su (h:At E f0 n0 w0 f σ w) (x:Bool):At E f0 n0 w0 f {σ with behind:=x} (w.setCell ⟨E.bB,198,none⟩ (.bool x)):=by
 have a:=h.Ky 198 (.bool x);obtain⟨L,rfl,b⟩:=h.rel;exact h.to ⟨L,rfl,b.su x⟩ (gr _) a
def GX (f:Nat->Nat) (n k:Nat):Nat->Nat:=λi=>if i < n then f i else k+(i - n)
def aeX (f:Nat->Nat) (n k:Nat):GX f n k n=k:=by simp[GX]
def QS (f:Nat->Nat) (n k:Nat):RS n f (GX f n k):=λi a=>fU a
def At.Gr (h:At E f0 n0 w0 f σ w) (a:fN):At E f0 n0 w0 (GX f σ.nodes.length w.heap.size) (σ.add (.el {name:=a,gy:=[],iJ:=none,kids:=[]})) (w.alloc (fV #[fR a,iQ,.pointer none,iQ] 140)):=by
 obtain⟨L,rfl,b⟩:=h.rel;exact h.go ⟨_,rfl,b.Gr a⟩ (QS _ _ _) (by simp[Ab.add]) (.gv ((Kept.refl _ _).alloc _))
def At.pD (h:At E f0 n0 w0 f σ w) (b:σ.fresh=true) (a:fN):At E f0 n0 w0 (GX f σ.nodes.length w.heap.size) (σ.pi (.el {name:=a,gy:=E.ta,iJ:=none,kids:=[]}) false) (w.alloc (fV #[fR a,E.tv,.pointer none,iQ] 140)):=by
 obtain⟨L,rfl,c⟩:=h.rel;exact h.go ⟨_,rfl,c.pD b a⟩ (QS _ _ _) (by simp[Ab.pi]) (.gv ((Kept.refl _ _).alloc _))
end
def hH (E:Env) (t:fZ):gh:=match t.k with
 | .jq s=> .iface 188 (.agg #[fK t.a,fK t.b,fR s])
 | .start n=> .iface 196 (.agg #[fK t.a,fK t.b,fR n,E.tv])
 | .stop n=> .iface 197 (.agg #[fK t.a,fK t.b,fR n,E.tv])
 | .gm s=> .iface 198 (.agg #[fK t.a,fK t.b,fR s])
 | .gP n q=> .iface 200 (.agg #[fK t.a,fK t.b,fR n,.bool q])
 | .lost=> .iface 190 (.agg #[fK t.a,fK t.b])
 | .il=> .iface 186 (.agg #[fK t.a,fK t.b])
def iL (E:Env) (t:fZ):Prop:=t.oZ=true->t.gy=E.ta
def qG {X : TypeId} {a:Array Field} (b:prog.underlying X=some (.struct a)) (v:gh) (c:TypeId) (w:fO):(Instr.typeAssert (.iface X v) c X true).run prog w= .ok (.tuple #[v,.bool true]) w:=by
 simp[Instr.typeAssert,pE b]
def FQ {X T : TypeId} {c:Array Field} {z : gh} (d:prog.underlying X=some (.struct c)) (b:(prog.info? X).bind (·.zero)=some z) (a:T≠X) (v:gh) (h:TypeId) (w:fO):(Instr.typeAssert (.iface T v) h X true).run prog w= .ok (.tuple #[z,.bool false]) w:=by
 have⟨i,hi,b⟩:=Option.bind_eq_some_iff.1 b;simp[Instr.typeAssert,pE d,a,zeroValue,typeInfo,hi,b]
def vj (T:TypeId) (h:T≠188) (v:gh) (a:TypeId) (w:fO):(Instr.typeAssert (.iface T v) a 188 true).run prog w= .ok (.tuple #[.agg #[fK 0,fK 0,fR js],.bool false]) w:=FQ underlying188 (by kernel_rfl) h v a w
def sE (T:TypeId) (h:T≠198) (v:gh) (a:TypeId) (w:fO):(Instr.typeAssert (.iface T v) a 198 true).run prog w= .ok (.tuple #[.agg #[fK 0,fK 0,fR js],.bool false]) w:=FQ underlying198 (by kernel_rfl) h v a w
def qg (T:TypeId) (h:T≠196) (v:gh) (a:TypeId) (w:fO):(Instr.typeAssert (.iface T v) a 196 true).run prog w= .ok (.tuple #[.agg #[fK 0,fK 0,fR js,iQ],.bool false]) w:=FQ underlying196 (by kernel_rfl) h v a w
def yj (T:TypeId) (h:T≠197) (v:gh) (a:TypeId) (w:fO):(Instr.typeAssert (.iface T v) a 197 true).run prog w= .ok (.tuple #[.agg #[fK 0,fK 0,fR js,iQ],.bool false]) w:=FQ underlying197 (by kernel_rfl) h v a w
def vQ (T:TypeId) (h:T≠200) (v:gh) (a:TypeId) (w:fO):(Instr.typeAssert (.iface T v) a 200 true).run prog w= .ok (.tuple #[.agg #[fK 0,fK 0,fR js,.bool false],.bool false]) w:=FQ underlying200 (by kernel_rfl) h v a w
def adO (T:TypeId) (h:T≠190) (v:gh) (a:TypeId) (w:fO):(Instr.typeAssert (.iface T v) a 190 true).run prog w= .ok (.tuple #[.agg #[fK 0,fK 0],.bool false]) w:=FQ underlying190 (by kernel_rfl) h v a w
def aeZ (T:TypeId) (h:T≠186) (v:gh) (a:TypeId) (w:fO):(Instr.typeAssert (.iface T v) a 186 true).run prog w= .ok (.tuple #[.agg #[fK 0,fK 0],.bool false]) w:=FQ underlying186 (by kernel_rfl) h v a w
def yK (E:Env) (t:fZ):jB:=match t.k with
 | .start n=>#[fK t.a,fK t.b,fR n,E.tv]
 | .stop n=>#[fK t.a,fK t.b,fR n,E.tv]
 |_=>#[fK 0,fK 0,fR js,iQ]
def zv (E:Env) (t:fZ) (w:fO):
  Calls prog 94 #[hH E t] w λe w'=>e=gO (fR t.chars)/\Kept [] w w':=by
 obtain⟨a,b,k,fX⟩:=t;have c:=qG underlying188;have d:=vj;cases k
 all_goals
  simp only[hH,fZ.chars];go_enter func94,ntmps94;go_wp2;go_ret;exact⟨rfl,(Kept.refl _ _).alloc _⟩
def ym (E:Env) (t:fZ) (w:fO) (l:∃c n d,E.tv= .slice c n d):
  Calls prog 177 #[hH E t] w λe w'=>e=gO (.agg (yK E t))/\Kept [] w w':=by
 have⟨a,b,k,fX⟩:=t;obtain⟨c,n,d,h⟩:=l;have o:=qG underlying196;have r:=qG underlying197;have u:=qg;have y:=yj;cases k
 all_goals
  simp only[hH,yK,h];go_enter func177,ntmps177;go_wp2
  first
  |refine nK (v:= .agg #[fK 0,fK 0,fR js,iQ]) ?_ rfl ⟨rfl,(Kept.refl _ _).alloc _⟩
  |refine nK (v:= .agg #[fK a,fK b,fR _,.slice c n d]) ?_ rfl ⟨rfl,((Kept.refl _ _).alloc _).alloc _⟩
  simp[results,results177,asAddr,Result.andThen,go_sem]
def Ic (E:Env) (t:fZ) (w:fO):
  Calls prog 189 #[hH E t] w λe w'=>e=gO (.bool (sT t.chars))/\Kept [] w w':=by
 have a:=zv E t w;go_enter func189,ntmps189
 go_wp21
 refine a.mono ?_;rintro e w' ⟨rfl,b⟩;go_wp2;go_ret;refine⟨?_,b⟩;show Ending.returned (.bool (t.chars.toList==[0]))=_;unfold sT ku;simp
def Zu (c:UInt8):decide (0<=Lib.indexByte [32,9,10,12] c)=lr ⟨#[c]⟩:=by
 unfold lr gI ku;simp only[sH,List.any_cons,List.any_nil,Bool.or_false]
 by_cases a:c=32
 .subst a;rfl
 by_cases b:c=9
 .subst b;rfl
 by_cases d:c=10
 .subst d;rfl
 by_cases h:c=12
 .subst h;rfl
 simp[Lib.indexByte,a,b,d,h,List.findIdx_cons,xH]
theorem J0 (s:fN) (w:fO):
  Calls prog 297 #[fR s] w λe w'=>e=gO (.bool (lr s))/\Kept [] w w':=by
 by_cases a:s.size=1
 .obtain⟨c,rfl⟩:∃c,s=⟨#[c]⟩:=by
   have⟨d⟩:=s;have o:d.size=1:=a;have⟨c,hc⟩:=Array.size_eq_one_iff.1 o
   grind
  have b:=(λw=>Tryz.strings_Contains_one lZ c w);have l:=fx (Zu c);go_enter func297,ntmps297
  go_wp21
  refine(b _).mono ?_;rintro e w' ⟨rfl,rfl⟩;go_wp2;go_ret;exact⟨by rw[<-l.out];rfl,Kept.refl _ _⟩
 .have u:lr s=false:=by
   unfold lr gI;simp only[List.any_cons,List.any_nil,Bool.or_false];have r:∀c:UInt8,ku s ⟨#[c]⟩=false:=by
    intro c;rw[Bool.eq_false_iff];intro h;rw[xu]at h;subst h;exact a rfl
   simp[r]
  rw[u];have y:((s.size:Int)==1)=false:=by rw[Fs];omega
  go_enter func297,ntmps297;go_wp2;go_ret;exact⟨rfl,Kept.refl _ _⟩
def aeM (v:gh):Prop:=v= .nilFunc\/∃k a l,v= .func k a l
def sC:List gh->gh
 |[]=> .func (.func 97) #[] #[]
 | .nilFunc::r=>sC r
 |v::_=>v
theorem PR (g o:Nat) (vs:List gh) (w:fO) (A:w.heap[g]?=some (fV vs.toArray 168)) (N:∀v∈vs,aeM v) (J:vs.length<=4096):
  Calls prog 316 #[mW g vs.length o] w λe w'=>e=gO (sC vs)/\w'=w:=by
 obtain⟨m,C⟩:∃m,m=sC vs:=⟨_,rfl⟩;rw[<-C];have R:sC (vs.drop 0)=m:=by rw[C];rfl
 have F:=N;have D:=fx A;obtain⟨n,d⟩:∃n,n=vs.length:=⟨_,rfl⟩;rw[<-d]at J|-;have z:=fx d;clear A d;go_enter func316,ntmps316
 go_wp21
 go_loopw [7] (λv wr=>∃k:Nat,v=fK k/\k<=n/\sC (vs.drop k)=m/\wr=w) (λv _=>n - (intOf v).toNat)
 case atStart=>grind
 case round=>
  obtain⟨k,rfl,S,c,rfl⟩:=hrel;have O:=c
  by_cases y:k < n
  .have b:k < vs.length:=by rw[<-z.out];exact y
   have H:=C9 b;have G:wr.cell? ⟨g,k,none⟩=some vs[k]:=by rw[fw D.out];simp[b]
   have B:=F vs[k] (tM b);rw[H]at c;generalize vs[k]=u at c G B;rcases B with rfl|⟨f,a,l,rfl⟩
   .have h:=fx c;clear c
    go_wp21
    rename_i K r;refine r _ _ ?_;simp only[Bool.not_true];go_wp2;go_roundw
    case rel=>exact⟨k+1,by go_num,by omega,h,trivial⟩
    case measure=>simp[intOf];omega
   .have h:=fx c;clear c
    go_wp21
    rename_i K r;refine r _ _ ?_;simp only[Bool.not_false];go_wp2;go_ret;exact⟨by rw[<-h.out];rfl,rfl⟩
  .have I:vs.drop k=[]:=List.drop_eq_nil_of_le (by rw[<-z.out];omega);rw[I]at c;have h:=fx c;clear c;go_wp2;go_ret;exact⟨by rw[<-h.out];rfl,rfl⟩
def jD:List Ru->Ru
 |[]=> .nothing
 | .nil::r=>jD r
 |x::_=>x
def AK:Option (List (List fN×Ru))->fN->Ru
 |none,_=> .nil
 |some R,k=>(oB R k).getD .nil
def jI (sp:lM) (t:fZ):Ru:=match t.k with
 | .jq s=>if lr s then jD [sp.blank,sp.jq,sp.gN]else jD [sp.jq,sp.gN]
 | .gm _=>jD [sp.gm,sp.gN]
 | .gP _ _=>jD [sp.gP,sp.gN]
 | .start n=>jD [AK sp.start n,sp.jj,sp.gN]
 | .stop n=>jD [AK sp.stop n,sp.jG,sp.gN]
 | .lost=>jD [sp.il,sp.gN]
 | .il=>jD [sp.il,sp.gN]
theorem ny.dy {r : Ru} (h:ny bm bB bD r v w):(r= .nil/\v= .nilFunc)\/(r≠ .nil/\∃k a l,v= .func k a l):=by
 cases r with
 |nil=>exact .inl ⟨rfl,h⟩
 |nothing=>exact .inr ⟨by simp,_,_,_,h⟩
 |gz f=>exact .inr ⟨by simp,_,_,_,h⟩
 |nJ m=>have⟨b1,b2,e,_⟩:=h;grind
 |gm pf own=>have⟨b1,e,_⟩:=h;grind
 |ahead f=>have⟨b1,b2,e,_⟩:=h;grind
 |ends f=>have⟨b1,e,_⟩:=h;grind
 |GZ r=>have⟨b1,b2,u,e,_⟩:=h;grind
 |po ks m=>have⟨b1,b2,b3,u,e,_⟩:=h;grind
 |mh ks n m=>have⟨b1,b2,b3,b4,u,e,_⟩:=h;grind
 |item ks=>have⟨b1,b2,b3,u1,u2,e,_⟩:=h;grind
def ny.fv {r : Ru} (h:ny bm bB bD r v w):aeM v:=by
 rcases h.dy with⟨_,e⟩|⟨_,e⟩
 .exact .inl e
 .exact .inr e
inductive wT (bm bB bD:Nat) (w:fO):List Ru->List gh->Prop
 |nil:wT bm bB bD w [] []
 |cons {r:Ru} {v:gh} {rs:List Ru} {vs:List gh} (h:ny bm bB bD r v w) (t:wT bm bB bD w rs vs):wT bm bB bD w (r::rs) (v::vs)
theorem wT.first (h:wT bm bB bD w rs vs):ny bm bB bD (jD rs) (sC vs) w:=by
 induction h with
 |nil=>rfl
 |@cons r v rs vs h t ih=>
  rcases h.dy with⟨rfl,rfl⟩|⟨b,k,a,l,rfl⟩
  all_goals grind[ny,jD,sC]
theorem wT.dy (h:wT bm bB bD w rs vs):∀v∈vs,aeM v:=by
 induction h with
 |nil=>simp
 |cons h t ih=>intro v a;rcases List.mem_cons.1 a with rfl|a;exact h.fv;grind
def uj (h:wT bm bB bD w rs vs) (b:vs.length<=4096) {W : fO} (a:W.heap.size=g):
  Calls prog 316 #[mW g vs.length vs.length] (W.alloc (fV vs.toArray 168)) λe w'=>e=gO (sC vs)/\w'=W.alloc (fV vs.toArray 168):=by
 subst a;exact PR _ _ vs _ (fB _ _) h.dy b
def adF (h:v.oneCell'=true):v.cells=#[v]:=by
 cases v<;>first|rfl|(simp[Value.oneCell']at h)
def vU {v0 v1 v2 v3 v4 v5 v6 v7 v8 v9 : gh} (h:∀v∈[v0,v1,v2,v3,v4,v5,v6,v7,v8,v9],v.oneCell'=true):v0.cells=#[v0]/\v1.cells=#[v1]/\v2.cells=#[v2]/\v3.cells=#[v3]/\v4.cells=#[v4]/\v5.cells=#[v5]/\v6.cells=#[v6]/\v7.cells=#[v7]/\v8.cells=#[v8]/\v9.cells=#[v9]:=by
 refine⟨?_,?_,?_,?_,?_,?_,?_,?_,?_,?_⟩<;>exact adF (h _ (by simp))
def FD (w:fO) (o a:Obj):((w.alloc o).alloc a).heap[w.heap.size]?=some o:=(Below.heap_alloc _ _ _ (by simp)).trans (fB w _)
def abx (E:Env) (bB bD a b:Nat) (s:fN) (fX:kZ) (sp:lM) (v0 v1 v2 v3 v4 v5 v6 v7 v8 v9:gh) (w:fO) (h:kE E.bm bB bD sp v0 v1 v2 v3 v4 v5 v6 v7 v8 v9 w):
  Calls prog 264 #[.agg #[v0,v1,v2,v3,v4,v5,v6,v7,v8,v9],hH E ⟨a,b,.jq s,fX⟩] w λe w'=>∃v,e=gO v/\ny E.bm bB bD (jI sp ⟨a,b,.jq s,fX⟩) v w/\Kept [] w w':=by
 have⟨S,K,k2,k3,k4,k5,k6,k7,k8,N⟩:=vU h.one;have l:=fx h;clear h;have G:=fx (λo=>FD w (fV #[v0,v1,v2,v3,v4,v5,v6,v7,v8,v9] 172) o);have B:=fx (fB w (fV #[v0,v1,v2,v3,v4,v5,v6,v7,v8,v9] 172));have u:=fx (λo=>((Kept.refl [] w).alloc (fV #[v0,v1,v2,v3,v4,v5,v6,v7,v8,v9] 172)).alloc o);have C:=fx ((Kept.refl [] w).alloc (fV #[v0,v1,v2,v3,v4,v5,v6,v7,v8,v9] 172));simp only[hH];have A:=qG underlying188;have F:=fx (λW=>J0 s W);go_enter func264,ntmps264
 go_wp21
 refine(F.out _).mono ?_;rintro e w1 ⟨rfl,r⟩;have z:=r.at (G.out _) (by simp);have H:=fx ((u.out _).trans r);have V:=fw z 0;have X:=fw z 1;have Y:=fw z 9;dsimp at V X Y;clear z r G B u C F;have f0:=l.out.blank.fv;have I:=l.out.jq.fv;have J:=l.out.gN.fv;cases hb:lr s with
 |true=>
  have y:jI sp ⟨a,b,.jq s,fX⟩=jD [sp.blank,sp.jq,sp.gN]:=by simp[jI,hb]
  have c:Hid (wT E.bm bB bD w _ [v0,v1,v9]):=fx (.cons l.out.blank (.cons l.out.jq (.cons l.out.gN (.nil))));have D:=fx y;clear y hb;rcases f0 with rfl|⟨S,a0,l0,rfl⟩
  all_goals rcases I with rfl|⟨K,O,T,rfl⟩
  all_goals rcases J with rfl|⟨N,R,U,rfl⟩
  all_goals go_wp21
  all_goals refine(uj c.out (by simp) (by simp)).mono ?_
  all_goals rintro e Z ⟨rfl,rfl⟩
  all_goals have d:=fx c.out.first
  all_goals simp only[sC]at d|-
  all_goals go_wp2
  all_goals go_ret
  all_goals exact⟨_,rfl,D.out▸d.out,H.out.alloc _⟩
 |false=>
  have y:jI sp ⟨a,b,.jq s,fX⟩=jD [sp.jq,sp.gN]:=by simp[jI,hb]
  have c:Hid (wT E.bm bB bD w _ [v1,v9]):=fx (.cons l.out.jq (.cons l.out.gN (.nil)));have D:=fx y;clear y hb;rcases I with rfl|⟨K,O,T,rfl⟩
  all_goals rcases J with rfl|⟨N,R,U,rfl⟩
  all_goals go_wp21
  all_goals refine(uj c.out (by simp) (by simp)).mono ?_
  all_goals rintro e Z ⟨rfl,rfl⟩
  all_goals have d:=fx c.out.first
  all_goals simp only[sC]at d|-
  all_goals go_wp2
  all_goals go_ret
  all_goals exact⟨_,rfl,D.out▸d.out,H.out.alloc _⟩
def S3 (E:Env) (bB bD a b:Nat) (fX:kZ) (sp:lM) (v0 v1 v2 v3 v4 v5 v6 v7 v8 v9:gh) (w:fO) (h:kE E.bm bB bD sp v0 v1 v2 v3 v4 v5 v6 v7 v8 v9 w):
  Calls prog 264 #[.agg #[v0,v1,v2,v3,v4,v5,v6,v7,v8,v9],hH E ⟨a,b,.il,fX⟩] w λe w'=>∃v,e=gO v/\ny E.bm bB bD (jI sp ⟨a,b,.il,fX⟩) v w/\Kept [] w w':=by
 have⟨k0,k1,k2,k3,I,k5,k6,k7,k8,J⟩:=vU h.one;have A:=fx h;clear h;have F:=fx (λo=>FD w (fV #[v0,v1,v2,v3,v4,v5,v6,v7,v8,v9] 172) o);have l:=fx (fB w (fV #[v0,v1,v2,v3,v4,v5,v6,v7,v8,v9] 172));have C:=fx (λo=>((Kept.refl [] w).alloc (fV #[v0,v1,v2,v3,v4,v5,v6,v7,v8,v9] 172)).alloc o);have D:=fx ((Kept.refl [] w).alloc (fV #[v0,v1,v2,v3,v4,v5,v6,v7,v8,v9] 172));simp only[hH];have B:=vj;have r:=sE;have u:=vQ;have d:=qg;have y:=yj;have K:=fw l.out 4;have N:=fw l.out 9;dsimp at K N;clear F l C;have c:Hid (wT E.bm bB bD w _ [v4,v9]):=fx (.cons A.out.il (.cons A.out.gN (.nil)));have G:=A.out.il.fv;have H:=A.out.gN.fv;go_enter func264,ntmps264;rcases G with rfl|⟨I,O,S,rfl⟩
 all_goals rcases H with rfl|⟨J,R,T,rfl⟩
 all_goals go_wp21
 all_goals refine(uj c.out (by simp) (by simp)).mono ?_
 all_goals rintro e U ⟨rfl,rfl⟩
 all_goals have z:=fx c.out.first
 all_goals simp only[sC]at z|-
 all_goals go_wp2
 all_goals go_ret
 all_goals exact⟨_,rfl,z.out,D.out.alloc _⟩
section
variable {α β:Type} {E:Env} {f0:Nat->Nat} {n0:Nat} {w0:fO} {f:Nat->Nat} {σ:Ab} {w:fO}
theorem iG.QU {k:Nat} {args:(Nat->Nat)->jB} {m:M α} {l:(Nat->Nat)->α->gh} (D:iG E k args m l) (H:At E f0 n0 w0 f σ w) {R:qI β} {K:α->M β} (d:R=(m>>=K) σ) (I:R≠ .stuck) {A:jB} (hA:args f=A) {Q:Ending->fO->Prop}
  (y:∀c p j w',R= .stop c p->kh w' j c p->Fr E.bs w0 w'->Q (rE j) w')
  (u:∀a g b w',At E f0 n0 w0 g b w'->RS σ.nodes.length f g->Fr E.bs w w'->R=K a b->m σ= .ok a b->Q (gO (l g a)) w'):Calls prog k A w Q:=by
 rw[M.fP]at d;have C:m σ≠ .stuck:=λe=>I (by grind);have h:=D f σ w H.rel C;rw[hA]at h;refine h.mono ?_;intro e w' o;cases hr:m σ with
 |ok a b=>
  rw[hr]at o d;obtain⟨g,z,r,rfl,G,B⟩:=o;exact u a g b w' (H.go G z r B) z B d hr
 |stop c p=>
  rw[hr]at o d;obtain⟨j,rfl,r,F⟩:=o;exact y c p j w' d r (H.fr.trans F)
 |stuck=>exact absurd hr C
theorem jS.QU {k:Nat} {args:(Nat->Nat)->jB} {m:M α} {l:(Nat->Nat)->α->gh} (D:jS E k args m l) (H:At E f0 n0 w0 f σ w) {R:qI β} {K:α->M β} (d:R=(m>>=K) σ) (I:R≠ .stuck) {A:jB} (hA:args f=A) {Q:Ending->fO->Prop}
  (u:∀c p j w',R= .stop c p->kh w' j c p->Fr E.bs w0 w'->Q (rE j) w')
  (r:∀a b w',At E f0 n0 w0 f b w'->Fr E.bs w w'->R=K a b->m σ= .ok a b->Q (gO (l f a)) w'):Calls prog k A w Q:=by
 rw[M.fP]at d;have z:m σ≠ .stuck:=λe=>I (by grind);have h:=D f σ w H.rel z;rw[hA]at h;refine h.mono ?_;intro e w' o;cases hr:m σ with
 |ok a b=>
  rw[hr]at o d;obtain⟨rfl,F,y,G⟩:=o;exact r a b w' (H.to F G y) y d hr
 |stop c p=>
  rw[hr]at o d;obtain⟨j,rfl,B,C⟩:=o;exact u c p j w' d B (H.fr.trans C)
 |stuck=>exact absurd hr z
def mE {k:Nat} {args:(Nat->Nat)->jB} {m:M α} {d:(Nat->Nat)->α->gh} (D:jS E k args m d) (H:Hid (At E f0 n0 w0 f σ w)) {R:qI β} {K:α->M β} (y:Hid (R=(m>>=K) σ)) (z:Hid (R≠ .stuck)) {A:jB} (hA:args f=A) {Q:Ending->fO->Prop}
  (l:∀c p j w',Hid (R= .stop c p/\kh w' j c p/\Fr E.bs w0 w')->Q (rE j) w')
  (h:∀a b w',Hid (At E f0 n0 w0 f b w')->Hid (Fr E.bs w w')->Hid (R=K a b)->Hid (m σ= .ok a b)->Q (gO (d f a)) w'):Calls prog k A w Q:=jS.QU D H y z hA (λc p j w' o r u=>l c p j w' ⟨o,r,u⟩) h
end
attribute [local go_sem] Oper.semAt_some
def zm {f : iM->iM} (c:∀x y,f x=f y->x=y):∀{a b:j5},a.map f=b.map f->a=b
 |[],[],_=>rfl
 |[],_::_,h=>by simp at h
 |_::_,[],h=>by simp at h
 |x::a,y::b,h=>by
  simp only[zF,Pq]at h;rw[c x y h.1,zm c h.2]
theorem Tq {f : iM->iM} (b:∀x y,f x=f y->x=y) {a ys : j5} (h:a.map f <+:ys.map f):a <+:ys:=by
 have⟨t,ht⟩:=h;have c:a.length<=ys.length:=by have:=ri List.length ht;simp at this;omega
 refine⟨ys.drop a.length,?_⟩;have e:a.map f=(ys.take a.length).map f:=by
  rw[List.map_take,<-ht];simp
 rw[zm b e]
 simp_all
def Hq (o:Oper):Bool:=match o.op with
 | .defer _=>false
 |_=>true
theorem N5 {o:Oper} (h:Hq o=true):∀c,o.op≠ .defer c:=by
 intro c e;unfold Hq at h
 grind
section
variable {n:Nat} {P:Program} {ops:Array Oper} {Q:Exit->Act->fO->Prop} {md:Region.Mode}
def Lt (l:Nat) (z:∀(i:Nat) o,ops[i]?=some o->Hq o=true):∀c b a w,wpAnyIn Fence.wide n P md ops Q c b a w->wpAnyIn (Fence.wide.inRound l) n P md ops Q c b a w:=by
 intro c
 induction c with
 |zero=>exact λb a w h=>h
 |succ c ih=>
  intro b a w h;refine⟨h.1,λi A=>?_⟩;have d:=h.2 i A;unfold wpOpIn at d|-;cases ho:ops[i]? with
  |none=>rw[ho]at d;exact ih _ _ _ d
  |some o=>
   rw[ho]at d;simp only at d|-;split
   .rename_i r;rw[fU r]at d;have u:=Oper.wpIn_mono (K':=wpAnyIn (Fence.wide.inRound l) n P md ops Q c (b.setIfInBounds i true)) (λa w h=>ih _ a w h) d;refine⟨u.1,?_⟩;have y:=u.2;have e1:o.semAt (Fence.wide.inRound l).round a.eval=execOp a.eval o:=ad9 l a.eval o (N5 (z i o ho));have e2:o.semAt Fence.wide.round a.eval=execOp a.eval o:=by
     show o.semAt none a.eval=_;unfold Oper.semAt;cases o.op<;>rfl
    rw[e1]
    rwa [e2]at y
   .rename_i r;rw[gn r]at d;exact⟨d.1,ih _ _ _ d.2⟩
theorem Aw {id:Nat} {a:Act} {w:fO} {l:List Oper} (L:Nat) (o:P.follows .mixedOrders=true) (c:Region.lexB .any l.toArray=true) (r:l.all Hq=true)
  (h:wpQuietIn Fence.wide n P l.toArray (λw'=>∃n,w'=w.drewN n) (λb=>∀w',(∃n,w'=w.drewN n)->Q .normal b w') l a):(Code.region id l.toArray true).wpIn (Fence.wide.inRound L) n P Q a w:=by
 simp only[Region.lexB,rl]at c;refine wpIn_region_any o (Lt L ?_ _ _ _ _ (wpAnyIn_of_quiet (C:=λw'=>∃n,w'=w.drewN n) (Q:=λb=>∀w',(∃n,w'=w.drewN n)->Q .normal b w') rfl (λ_ w' d h=>h w' d) _ _ _ _ ⟨1,rfl⟩ ?_))
 .grind
 .have:=wpAnyQIn_lex (F:=Fence.wide) (n:=n) (C:=λw'=>∃n,w'=w.drewN n) (md:= .any) c.1 l.toArray.toList 0 (Array.replicate l.toArray.size false) a (by simp) (by simpa using c.2) (by simpa using h)
  simpa using this
end
attribute [local go_sem] Oper.semAt_some
def aaW (T c:List Nat) (I:j5->fO->Prop) (b:Code->j5->fO->Prop) (a:j5) (W:fO):Exit->Act->fO->Prop
 | .normal,_,W'=>Kept T W W'/\I a W'
 | .ret,_,W'=>Kept c W W'/\b .ret a W'
 | .exit id,_,W'=>Kept c W W'/\b (.exit id) a W'
 | .goto t,_,W'=>Kept c W W'/\b (.goto t) a W'
 | .panic _,_,_=>False
 | .outgrown,_,_=>False
theorem DG {n:Nat} (hn:3<=n) {base b j:Nat} {tB:TypeId} {C:jB} {v:gh} {f:iM->iM} (hf:∀x y,f x=f y->x=y) {ys:j5} {w1:fO} (hL:xo base b j tB C v (ys.map f) w1)
  {g:Operand} {p:Tmp} {z Y:Code} {Q:Exit->Act->fO->Prop} {a:Act} (hg:a.eval g=uL w1.heap.size)
  (T Tx:List Nat) (hT:∀k∈T,k < w1.heap.size/\k≠b/\v.ownBlock≠some k) (ad:∀k∈Tx,k < w1.heap.size)
  (I:j5->fO->Prop) (Ix:Code->j5->fO->Prop)
  (hI:OwnFrom (w1.heap.size+2) I) (a5:∀c,OwnFrom (w1.heap.size+2) (Ix c)) (h0:I [] (mc b j ys.length w1)) (O:iM->Act)
  (S:∀(l:Nat) (x:iM) (W:fO) (K:Act->fO->Prop),K (O x) W->
   z.wpIn (Fence.wide.inRound l) (n - 1 - 1) prog (Exit.then K (λ_ _ _=>False)) {tmps:=a.tmps.setIfInBounds p (kK x),defers:=[]} W)
  (a0:∀(l:Nat) (pre:j5) (y:iM) (W:fO),y∈ys->I pre W->Y.wpIn (Fence.wide.inRound l) (n - 1 - 1) prog (aaW T Tx I Ix (pre++[y]) W) (O (f y)) W)
  (a9:∀(D:Nat) (W:fO),w1.heap.size+2<=D->I ys.reverse W->W.heap[D]?=some (.deferred (some []))->Q .normal {a with defers:={target:= .collected D,args:=#[]}::a.defers} W)
  (a2:∀(D:Nat) (c:Code) (pre:j5) (W:fO),w1.heap.size+2<=D->pre <+:ys.reverse->Ix c pre W->W.heap[D]?=some (.deferred (some []))->c.wpIn Fence.wide n prog Q {a with defers:={target:= .collected D,args:=#[]}::a.defers} W):
  (Code.rangeFunc g #[p] z Y).wpIn Fence.wide n prog Q a (mc b j ys.length w1):=by
 have r:(mc b j ys.length w1).heap.size=w1.heap.size+2:=by simp
 have a8:=iB hL.gR;have aa:Kept [] w1 (mc b j ys.length w1):=((Kept.refl _ _).alloc _).alloc _;have a7:xo base b j tB C v (ys.map f) (mc b j ys.length w1):=hL.EP (j7.jl (K:=b::v.ownBlock.toList) aa (λk d=>⟨by
  rcases List.mem_cons.1 d with rfl|d
  .exact a8
  .exact(hL.row.lt k (by simpa using d)).2,by simp⟩)) (by simp) (λk d=>by simp[d])
 have⟨b0,b1⟩:=(⟨(Below.heap_alloc _ _ _ (by simp)).trans (fB w1 _),by
   have:=fB (w1.alloc (fV #[jp b j] 280)) (fV #[fK ys.length] 3)
   simp_all⟩:(mc b j ys.length w1).heap[w1.heap.size]?=some (fV #[jp b j] 280)/\(mc b j ys.length w1).heap[w1.heap.size+1]?=some (fV #[fK ys.length] 3))
 obtain⟨K,hK⟩:∃K,K=b::w1.heap.size::v.ownBlock.toList:=⟨_,rfl⟩;have a3:∀k∈K,k < w1.heap.size+2:=by
  intro k d;rw[hK]at d;rcases List.mem_cons.1 d with rfl|d
  .omega
  .rcases List.mem_cons.1 d with rfl|d
   .omega
   .have:=(hL.row.lt k (by simpa using d)).2;omega
 have a6:∀k∈K,k∉T:=by
  intro k d a1;have⟨t1,t2,t3⟩:=hT k a1;rw[hK]at d;rcases List.mem_cons.1 d with rfl|d
  .omega
  .grind
 have ab:=O5 (n - 1) (by omega) base b j tB C v (ys.map f) ys.length w1.heap.size K _ a7 (by simp) (by rw[hK];simp) (by rw[hK];simp) (by grind) (by simp) b1 b0;have ac:∀{α:Type} {W N:fO} {U:iM} {B:Nat},B<=W.heap.size->W.grownBy N U->B<=N.heap.size:=λG H=>jC G H.size;refine wpIn_rangeFunc_ownG rfl (by omega) (gf:=357) hg trivial (Go.Proofs.enters_of func357 (by rfl) rfl) ab j7.trans (λW l o o' hl G H h3=>j7.put (w:=mc b j ys.length w1) (by rw[r];omega) W l o o' hl G H h3) (Below.refl _ _) (λ_=>rfl)
  (λpre W=>w1.heap.size+2<=W.heap.size/\∃h,pre.map (·.1)=h.map f/\I h W) (λc pre W=>∃h,pre.map (·.1)=h.map f/\Ix c h W) ?_ ?_ ?_ (λx=>O x.1) ?_ ?_ ?_ ?_
 .rintro s A B U ⟨hs,h,G,H⟩ X hr;rw[r]at hr;exact⟨jC hs X.size,h,G,hI h A B U H X hr⟩
 .rintro c s A B U ⟨h,G,H⟩ X hr;rw[r]at hr;exact⟨h,G,a5 c h A B U H X hr⟩
 .grind
 .intro l x W K' V;have:=S l x.1 W K' V;have e:(#[p].zip #[kK x.1]).foldl (λt (p,v)=>t.setIfInBounds p v) a.tmps=a.tmps.setIfInBounds p (kK x.1):=by simp
  rw[e];exact this
 .rintro l pre ⟨x,hx⟩ W ⟨hs,h,G,H⟩ _;obtain⟨y,hy,rfl⟩:=List.mem_map.1 hx;refine xO (a0 l h y W hy H) ?_;have a4:∀{N:fO},Kept T W N->KeepsFrom (mc b j ys.length w1).heap.size W N:=by
   intro N d;refine⟨d.size,λk o Z ho _=>?_⟩;rw[r]at Z;rw[d.block k (Array.getElem?_eq_some_iff.1 ho).1 (λa1=>by grind)];exact ho
  have u:∀{N:fO},Kept Tx W N->KeepsFrom (mc b j ys.length w1).heap.size W N:=by
   intro N d;refine⟨d.size,λk o Z ho _=>?_⟩;rw[r]at Z;rw[d.block k (Array.getElem?_eq_some_iff.1 ho).1 (λa1=>by grind)];exact ho
  have F:(pre++[(⟨f y,hx⟩:{x:iM // x∈ys.map f})]).map (·.1)=(h++[y]).map f:=by rw[rp,G];simp
  intro e a' N J;cases e with
  |normal=>exact⟨a4 J.1,j7.jl J.1 (λk d=>⟨lz (a3 k d) hs,a6 k d⟩),jC hs J.1.size,_,F,J.2⟩
  |ret=>exact⟨u J.1,_,F,J.2⟩
  |exit id=>exact⟨u J.1,_,F,J.2⟩
  |goto t=>exact⟨u J.1,_,F,J.2⟩
  |panic _=>exact J
  |outgrown=>exact J
 .rintro D xs W hD hS ⟨_,h,G,H⟩ V;rw[r]at hD;have R:xs.map (·.1)=((ys.map f).take ys.length).reverse:=hS;rw[G,Bd (by simp),<-T0]at R;rw[zm hf R]at H
  grind
 .rintro D c pre W hD hS ⟨h,G,H⟩ V;rw[r]at hD;have R:pre.map (·.1) <+:((ys.map f).take ys.length).reverse:=hS;rw[G,Bd (by simp),<-T0]at R;exact a2 D c h W hD (Tq hf R) H V
def Ui:=λ{n:Nat} (z:3<=n) {d b j A C v} {f:iM->iM} r {D B} o {g p c h Q a} u T l=>@DG n z d b j A C v f r D B o g p c h Q a u T T l (λk y=>(l k y).1)
attribute [local go_sem] Oper.semAt_some
def J3 {σ:Ab}:∀{a:j5},(∀y∈a,p (σ.qS y)=false/\q (σ.qS y)=false)->σ.xM p q a=false
 |[],_=>rfl
 |x::a,h=>by
  unfold Ab.xM;have⟨h1,h2⟩:=h x (by simp);rw[h1,h2];exact J3 λy b=>h y (by simp[b])
theorem Jf {σ:Ab} {r : Bool} {y : iM} {a : j5} (c:(p (σ.qS y)=true/\r=true)\/(p (σ.qS y)=false/\q (σ.qS y)=true/\r=false)):∀{b:j5},(∀y∈b,p (σ.qS y)=false/\q (σ.qS y)=false)->σ.xM p q (b++[y]++a)=r
 |[],_=>by
  grind[Ab.xM]
 |x::b,h=>by
  show σ.xM p q (x::(b++[y]++a))=r;unfold Ab.xM;have⟨h1,h2⟩:=h x (by simp);rw[h1,h2];exact Jf c λy d=>h y (by simp[d])
theorem Kept.take {W : fO} (h:Kept [] w W) {D : Nat} (a:w.heap.size<=D) (o:Obj):Kept [] w (W.putObj D o):=h.grown (wM W D o) (λk e=>by grind)
theorem km {A B : fO} {a : iM} {o : Obj} (h:A.heap[k]?=some o) (b:A.grownBy B a) (d:∀r,a=some r->n<=r/\∃o:Obj,A.heap[r]?=some o/\o.isCells=false) (c:k < n):B.heap[k]?=some o:=by
 rw[b.block k (Array.getElem?_eq_some_iff.1 h).1 (λe=>by grind)];exact h
theorem lX {A B : fO} {a : iM} (h:Kept [] w A) (b:A.grownBy B a) (d:∀r,a=some r->n<=r/\∃o:Obj,A.heap[r]?=some o/\o.isCells=false) (c:w.heap.size<=n):Kept [] w B:=h.grown b (λk e=> .inr (by grind))
theorem vY {σ:Ab} (h:RF E f σ w) (p q:fN->Bool) (vs vb:gh) (hs:Ask E.bm vs p w) (hb:Ask E.bm vb q w):
  Calls prog 238 #[Bp E,vs,vb] w λe w'=>e=gO (.bool (σ.inScope p q))/\Kept [] w w':=by
 obtain⟨L,rfl,o⟩:=h;obtain⟨S,b,rfl,a6,H1⟩:=hs.call;obtain⟨X,u,rfl,a7,H2⟩:=hb.call;refine(wV (n:=3)).1 ?_;refine wL func238 rfl trivial ?_ rfl;simp only[ntmps238,xC,sV,vZ,Nat.reduceAdd,Nat.reduceSub,xn,xj,xm,xI,rM,vz];obtain⟨H,z⟩:∃H,H=((w.alloc (fV #[.func (.func S) #[] b] 89)).alloc (fV #[.func (.func X) #[] u] 89)).alloc (fV #[.bool false] 4):=⟨_,rfl⟩;have a1:Kept [] w H:=by rw[z];exact(((Kept.refl _ _).alloc _).alloc _).alloc _
 have⟨b0,b1,b2⟩:=nX w (fV #[.func (.func S) #[] b] 89) (fV #[.func (.func X) #[] u] 89) (fV #[.bool false] 4);rw[<-z]at b0 b1 b2;have a:H.heap.size=w.heap.size+1+1+1:=by rw[z];simp
 have a3:=o.gJ a1;have⟨C,HL,hC⟩:=a3.zc;have a8:=o.lt;have HU:=Wy E.bs E.bB 188 _ C _ _ H HL;have HO:=(λg (O:L.ov.ownBlock=some g)=>zr o.nM O);have HN:=fx (λ(W:fO) (G:Kept [] w W) (i:Nat) (e:Al) (hi:σ.gF i=some e)=>(o.gJ G).vh hi);have HS:=(λ(y:iM) (F:y∈σ.fQ)=>o.n4 F);have HI:=fx o.inj;clear o a3 hC hs hb
 gi_wp2_with (refine⟨trivial,?_⟩;gi_at_call 294;rw[<-z];refine(callsIn_wide.2 HU).mono ?_;rintro e w' ⟨rfl,rfl⟩)
 rw[<-a,<-z];have HZ:=fx a;clear a z;refine Ui (by omega) (f:=gX L.gp) (λx y e=>rG HI.out e) HL rfl [w.heap.size+1+1] ?_
  (λpre W=>Kept [] w W/\W.heap[w.heap.size]?=some (fV #[.func (.func S) #[] b] 89)/\W.heap[w.heap.size+1]?=some (fV #[.func (.func X) #[] u] 89)/\W.heap[w.heap.size+1+1]?=some (fV #[.bool false] 4)/\∀y∈pre,p (σ.qS y)=false/\q (σ.qS y)=false)
  (λc pre W=>c= .ret/\Kept [] w W/\∃d y r,pre=d++[y]/\(∀y∈d,p (σ.qS y)=false/\q (σ.qS y)=false)/\((p (σ.qS y)=true/\r=true)\/(p (σ.qS y)=false/\q (σ.qS y)=true/\r=false))/\W.heap[w.heap.size+1+1]?=some (fV #[.bool r] 4))
  ?_ ?_ ?_ (λx=>{tmps:=#[Bp E,.func (.func S) #[] b,.func (.func X) #[] u,undef,fW w.heap.size,fW (w.heap.size+1),fW (w.heap.size+1+1),kK x,Bp E,fW E.bB,jp E.bB 188,uL H.heap.size,kK x,undef,undef,undef,undef,undef,undef,undef,undef,undef,undef,undef,undef,undef,undef],defers:=[]}) ?assign ?body ?done ?stop
 .grind
 .rintro s A B a5 ⟨h1,h2,R,J,N⟩ O o;have a:=HZ.out;exact⟨lX h1 O o (by omega),km h2 O o (by omega),km R O o (by omega),km J O o (by omega),N⟩
 .rintro c s A B a5 ⟨h0,h1,d,y,r,h2,R,J,N⟩ O o;have a:=HZ.out;exact⟨h0,lX h1 O o (by omega),d,y,r,h2,R,J,km N O o (by omega)⟩
 .have G:Kept [] H (mc E.bB 188 (σ.fQ.length) H):=((Kept.refl _ _).alloc _).alloc _;exact⟨a1.trans G,G.at b0 (by simp),G.at b1 (by simp),G.at b2 (by simp),by simp⟩
 case assign=>
  intro l x W K Y;gi_wp2;exact Y
 case body=>
  rintro l pre y W F ⟨I,B2,B3,Z,B5⟩;obtain⟨i,e0,rfl,hi⟩:=HS y F;have c0:=HN.out W I i e0 hi;have c1:=fw B2 0;have c2:=fw B3 0;have T:=fw Z 0;have f3:=fA Z 0;dsimp at c1 c2 T;have HA:=(λW' (G:Kept [] w W')=>H1 W' (.gv G) (σ.nm i));have HB:=(λW' (G:Kept [] w W')=>H2 W' (.gv G) (σ.nm i));have HW:=I.drew;have HT:Hid (∀(r:Bool),Kept [w.heap.size+1+1] W ((W.drew).setCell ⟨w.heap.size+1+1,0,none⟩ (.bool r))/\Kept [] w ((W.drew).setCell ⟨w.heap.size+1+1,0,none⟩ (.bool r))/\((W.drew).setCell ⟨w.heap.size+1+1,0,none⟩ (.bool r)).heap[w.heap.size+1+1]?=some (fV #[.bool r] 4)):=λr=>⟨((Kept.refl _ W).drew).setCell (.inl (by simp)) _,I.drew.setCell (.inr (by simp;omega)) _,fI (show W.drew.heap[w.heap.size+1+1]?=_ from Z) 0 _⟩;have a4:Hid (∀(r:Bool),Kept [w.heap.size+1+1] W ((W.drew.drew).setCell ⟨w.heap.size+1+1,0,none⟩ (.bool r))/\Kept [] w ((W.drew.drew).setCell ⟨w.heap.size+1+1,0,none⟩ (.bool r))/\((W.drew.drew).setCell ⟨w.heap.size+1+1,0,none⟩ (.bool r)).heap[w.heap.size+1+1]?=some (fV #[.bool r] 4)):=λr=>⟨((Kept.refl _ W).drew.drew).setCell (.inl (by simp)) _,I.drew.drew.setCell (.inr (by simp;omega)) _,fI (show W.drew.drew.heap[w.heap.size+1+1]?=_ from Z) 0 _⟩;have HN:Hid (Kept [w.heap.size+1+1] W W.drew.drew):=(Kept.refl _ W).drew.drew
  try dsimp only
  rw[show kK (gX L.gp (some i))=fW (L.gp i)from rfl];have a9:prog.follows .mixedOrders=true:=rfl;gi_wp2;refine xO (Q:=λe a' w'=>e=Exit.normal/\a'=({tmps:=#[Bp E,.func (.func S) #[] b,.func (.func X) #[] u,undef,fW w.heap.size,fW (w.heap.size+1),fW (w.heap.size+1+1),fW (L.gp i),Bp E,fW E.bB,jp E.bB 188,uL H.heap.size,fW (L.gp i),.bool (p (σ.nm i)),.func (.func S) #[] b,fW (L.gp i),fW (L.gp i),fW (L.gp i),fR (σ.nm i),.bool (p (σ.nm i)),undef,undef,undef,undef,undef,undef,undef],defers:=[]}:Act)/\w'=W.drew) ?_ ?_
  .gi_region_with_o (refine⟨trivial,?_⟩;refine(qy l (callsIn_wide.2 (HA _ HW))).mono ?_;rintro e w' ⟨rfl,rfl⟩)
   all_goals simp
  rintro e a' w' ⟨rfl,rfl,rfl⟩;cases hp:p (σ.nm i)with
  |true=>
   gi_wp2;have⟨t1,t2,t3⟩:=HT.out true;exact⟨t1,rfl,t2,pre,some i,true,rfl,B5,.inl ⟨hp,rfl⟩,t3⟩
  |false=>
   have HP:=hp;clear hp;gi_wp2;refine xO (Q:=λe a' w'=>e=Exit.normal/\a'=({tmps:=#[Bp E,.func (.func S) #[] b,.func (.func X) #[] u,undef,fW w.heap.size,fW (w.heap.size+1),fW (w.heap.size+1+1),fW (L.gp i),Bp E,fW E.bB,jp E.bB 188,uL H.heap.size,fW (L.gp i),.bool false,.func (.func S) #[] b,fW (L.gp i),fW (L.gp i),fW (L.gp i),fR (σ.nm i),.bool false,.bool (q (σ.nm i)),.func (.func X) #[] u,fW (L.gp i),fW (L.gp i),fW (L.gp i),fR (σ.nm i),.bool (q (σ.nm i))],defers:=[]}:Act)/\w'=W.drew.drew) ?_ ?_
   .gi_region_with_o (refine⟨trivial,?_⟩;refine(qy l (callsIn_wide.2 (HB _ HW.drew))).mono ?_;rintro e w' ⟨rfl,rfl⟩)
    all_goals simp
   rintro e a' w' ⟨rfl,rfl,rfl⟩;cases hq:q (σ.nm i)with
   |true=>
    gi_wp2;have⟨t1,t2,t3⟩:=a4.out false;exact⟨t1,rfl,t2,pre,some i,false,rfl,B5,.inr ⟨HP,hq,rfl⟩,t3⟩
   |false=>
    have HQ:=hq;clear hq;gi_wp2;refine⟨HN.out,I.drew.drew,B2,B3,Z,λy F=>?_⟩;rcases List.mem_append.1 F with F|F
    .exact B5 y F
    .rw[List.mem_singleton.1 F];exact⟨HP,HQ⟩
 case done=>
  rintro D W HD ⟨I,h2,R,J,N⟩ Y;have a:=HZ.out;have T:=fw J 0;have f3:=fA J 0;dsimp at T;have V:σ.inScope p q=false:=J3 (λy F=>N y F);clear h2 R a N;gi_wp2;have a0:=(Oy W ⟨w.heap.size+1+1,0,none⟩ (.bool false)).same D _ Y rfl;refine⟨by simp,.inl ⟨_,_,rfl,ou a0,?_⟩⟩;have U:=cell_kept (World.cell?_setCell_same' W ⟨w.heap.size+1+1,0,none⟩ (.bool false) (by rw[T];rfl)) (wM _ D (.deferred none)) (λr e=>by cases e;exact⟨_,a0,rfl⟩);refine⟨.bool false,?_,⟨by rw[V],?_⟩⟩
  .simp[results,results238,go_sem,U]
  .have a:=HZ.out;have hD:=HD;exact(I.setCell (.inr (by simp;omega)) _).take (by omega) _
 case stop=>
  rintro D c pre W HD a2 ⟨rfl,I,d,y,r,rfl,R,J,N⟩ Y;have⟨rest,hrest⟩:=a2;have V:σ.inScope p q=r:=by unfold Ab.inScope;rw[<-hrest];exact Jf J R
  have T:=fw N 0;dsimp at T;clear R J N hrest;gi_wp2;refine⟨by simp,.inl ⟨_,_,rfl,ou Y,?_⟩⟩;have U:=cell_kept T (wM _ D (.deferred none)) (λr e=>by cases e;exact⟨_,Y,rfl⟩);refine⟨.bool r,?_,⟨by rw[V],?_⟩⟩
  .simp[results,results238,go_sem,U]
  .have a:=HZ.out;have hD:=HD;exact I.take (by omega) _
def li (E:Env):Prop:=jS E 267 (λ_=>#[Bp E]) jN pV
def zt (f:Nat->Nat) (n k:Nat):nV (GX f n k) n=fW k:=by simp[GX]
def BO (E:Env) (w:fO):Calls prog 221 #[] w λe w'=>∃k b,e=gO (.func (.func k) #[] b)/\Ask E.bm (.func (.func k) #[] b) A7 w'/\Kept [] w w':=by
 have C:=Yf E.bm [fC,fE,fF,fG,gq] w (by decide);go_enter func221,ntmps221
 go_wp21
 refine C.mono ?_;rintro e r ⟨l,h,o,rfl,a,d⟩;have⟨k,b,e0,_,_⟩:=a.call;cases e0;have c:=fx a;clear a;go_wp2;go_ret;exact⟨_,_,rfl,c,d⟩
def Pk (E:Env) (c:jS E 105 (λ_=>#[Bp E]) lD pV) (j:Nat):jS E 268 (λf=>#[Bp E,nV f j]) (lG j) uV:=by
 refine mI λf σ w R a HS H=>?_;unfold lG at a;go_enter func268,ntmps268
 go_wp21
 refine mC (c) H a HS rfl (λ_ _ _ _ h=>And.intro rfl (mS h)) ?_;rintro(pl) σ w H b a
 go_wp21
 refine mC (Du E pl j) H a HS rfl (λ_ _ _ _ h=>And.intro rfl (mS h)) ?_;rintro(_) σ w H b a
 go_wp21
 refine mC (NJ E (some j)) H a HS rfl (λ_ _ _ _ h=>And.intro rfl (mS h)) ?_;rintro(_) σ w H b a;go_wp2;go_end0;exact jK a H rfl
def Lb (E:Env) (c:jS E 105 (λ_=>#[Bp E]) lD pV) (s:fN):iG E 188 (λ_=>#[Bp E,fR s]) (jP s) uV:=by
 refine dI λf σ w R a HS H=>?_;unfold jP at a;go_enter func188,ntmps188;have b:=H.Gr s;replace a:Hid (R=(lG σ.nodes.length>>=λ_=>pure ()) (σ.add (.el {name:=s,gy:=[],iJ:=none,kids:=[]}))):=a;have H:=b
 go_wp21
 refine mC (Pk E c σ.nodes.length) H a HS (by rw[zt]) (λ_ _ _ _ h=>And.intro rfl (lS h)) ?_;rintro(_) σ w H d a;go_wp2;go_end0;exact fL a H rfl
abbrev yG (E:Env) (p:fN->Bool) (w:fO) (e:Ending) (w':fO):Prop:=∃k a,e=gO (.func (.func k) #[] a)/\Ask E.bm (.func (.func k) #[] a) p w'/\Kept [] w w'
theorem RF.bounds {σ:Ab} (h:RF E f σ w):∃k a,w.cell? ⟨E.bB,186,none⟩=some (.func (.func k) #[] a)/\Ask E.bm (.func (.func k) #[] a) io w:=by
 have⟨L,_,hr⟩:=h;have⟨f1,a1,l1,c,ha⟩:=hr.bounds;have⟨k,a,e,_,_⟩:=ha.call
 grind
theorem RF.Hi {σ:Ab} (h:RF E f σ w):∃k a,w.cell? ⟨E.bB,184,none⟩=some (.func (.func k) #[] a)/\Ask E.bm (.func (.func k) #[] a) kU w:=by
 have⟨L,_,hr⟩:=h;have⟨f1,a1,l1,c,ha⟩:=hr.Hi;have⟨k,a,e,_,_⟩:=ha.call
 grind
def RF.lt {σ:Ab} (h:RF E f σ w):E.bB < w.heap.size:=by have⟨L,_,hr⟩:=h;exact hr.lt
theorem nf (E:Env) (a:List fN) (w:fO) (b:a.length<=4096):
  Calls prog 225 #[mW w.heap.size a.length a.length] (w.alloc (fV (a.map Value.string).toArray 9)) (yG E (gI a) w):=by
 refine(Yf E.bm a w b).mono ?_;rintro e w' ⟨h,d,o,rfl,c,l⟩;have⟨k,lb,e,_,_⟩:=c.call
 grind
theorem Ts (E:Env) (v1 v2:gh) (p q:fN->Bool) (w:fO) (b:Ask E.bm v1 p w) (c:Ask E.bm v2 q w):
  Calls prog 245 #[v1,v2] w (yG E (λs=>p s||q s) w):=by
 refine(adp E.bm v1 v2 p q w b c).mono ?_;rintro e w' ⟨h,d,o,rfl,a,l⟩;have⟨k,lb,e,_,_⟩:=a.call
 grind
def zZ {σ:Ab} (h:RF E f σ w):Calls prog 286 #[Bp E] w (yG E DD w):=by
 have⟨kb,lbb,cb,HB⟩:=h.bounds;have y:=h.lt;have A:=cb;have z:=nf E [gC] w.drew (by decide);go_enter func286,ntmps286
 go_wp21
 go_region_with (first
  |(go_at_call 225;refine z.mono ?_;rintro e D ⟨G,B,rfl,c,a⟩;have F:D.cell? ⟨E.bB,186,none⟩=some (.func (.func kb) #[] lbb):=(a.cell (p:=⟨E.bB,186,none⟩) y (by simp)).trans A;have o:=fx c;have b:=fx a;clear c a)
  |(go_at_call 245;refine(Ts E _ _ _ _ _ (HB.k0 (((Kept.refl _ w).drew).trans b)) o).mono ?_;rintro e I ⟨H,C,rfl,d,l⟩;have r:=fx d;have u:=fx ((((Kept.refl _ w).drew).trans b).trans l);clear d l))
 all_goals go_wp2
 all_goals go_ret
 all_goals exact⟨_,_,rfl,r,u⟩
def Lc {σ:Ab} (h:RF E f σ w):Calls prog 285 #[Bp E] w (yG E ac9 w):=by
 have⟨kb,lbb,cb,HB⟩:=h.bounds;have y:=h.lt;have A:=cb;have z:=nf E [oz] w.drew (by decide);go_enter func285,ntmps285
 go_wp21
 go_region_with (first
  |(go_at_call 225;refine z.mono ?_;rintro e D ⟨G,B,rfl,c,a⟩;have F:D.cell? ⟨E.bB,186,none⟩=some (.func (.func kb) #[] lbb):=(a.cell (p:=⟨E.bB,186,none⟩) y (by simp)).trans A;have o:=fx c;have b:=fx a;clear c a)
  |(go_at_call 245;refine(Ts E _ _ _ _ _ (HB.k0 (((Kept.refl _ w).drew).trans b)) o).mono ?_;rintro e I ⟨H,C,rfl,d,l⟩;have r:=fx d;have u:=fx ((((Kept.refl _ w).drew).trans b).trans l);clear d l))
 all_goals go_wp2
 all_goals go_ret
 all_goals exact⟨_,_,rfl,r,u⟩
def wZ (E:Env) (w:fO):Calls prog 229 #[] w (yG E Ba w):=by
 have C:=nf E [fy,fC] w (by decide);go_enter func229,ntmps229
 go_wp21
 refine C.mono ?_;rintro e d ⟨k,c,rfl,a,b⟩;go_wp2;go_ret;exact⟨_,_,rfl,a,b⟩
def Lx (E:Env) (w:fO):Calls prog 128 #[] w (yG E (gI [fC]) w):=by
 have C:=nf E [fC] w (by decide);go_enter func128,ntmps128
 go_wp21
 refine C.mono ?_;rintro e d ⟨k,c,rfl,a,b⟩;go_wp2;go_ret;exact⟨_,_,rfl,a,b⟩
def Ja (E:Env) (w:fO):Calls prog 140 #[] w (yG E (gI [fE,fF,fG]) w):=by
 have C:=nf E [fE,fF,fG] w (by decide);go_enter func140,ntmps140
 go_wp21
 refine C.mono ?_;rintro e d ⟨k,c,rfl,a,b⟩;go_wp2;go_ret;exact⟨_,_,rfl,a,b⟩
def UO (E:Env) (w:fO):Calls prog 239 #[] w (yG E (gI [gq]) w):=by
 have C:=nf E [gq] w (by decide);go_enter func239,ntmps239
 go_wp21
 refine C.mono ?_;rintro e d ⟨k,c,rfl,a,b⟩;go_wp2;go_ret;exact⟨_,_,rfl,a,b⟩
def VG (E:Env) (w:fO):Calls prog 240 #[] w (yG E (gI [gG,gH]) w):=by
 have C:=nf E [gG,gH] w (by decide);go_enter func240,ntmps240
 go_wp21
 refine C.mono ?_;rintro e d ⟨k,c,rfl,a,b⟩;go_wp2;go_ret;exact⟨_,_,rfl,a,b⟩
def FM (E:Env) (w:fO):Calls prog 279 #[] w (yG E (gI [lQ,lW]) w):=by
 have C:=nf E [lQ,lW] w (by decide);go_enter func279,ntmps279
 go_wp21
 refine C.mono ?_;rintro e d ⟨k,c,rfl,a,b⟩;go_wp2;go_ret;exact⟨_,_,rfl,a,b⟩
def ud (E:Env) (w:fO):Calls prog 242 #[] w (yG E (gI [fY]) w):=by
 have C:=nf E [fY] w (by decide);go_enter func242,ntmps242
 go_wp21
 refine C.mono ?_;rintro e d ⟨k,c,rfl,a,b⟩;go_wp2;go_ret;exact⟨_,_,rfl,a,b⟩
def rh (E:Env) (w:fO):Calls prog 243 #[] w (yG E (gI [fJ]) w):=by
 have C:=nf E [fJ] w (by decide);go_enter func243,ntmps243
 go_wp21
 refine C.mono ?_;rintro e d ⟨k,c,rfl,a,b⟩;go_wp2;go_ret;exact⟨_,_,rfl,a,b⟩
def nh (p b:fN->Bool):M Bool:=λσ=>if σ.inScope p b then .ok true (σ.FB p)else .ok false σ
def oF:M Unit:=do
 let _ <-nh (gI [mQ]) DD
 return ()
def pQ (p:fN->Bool):M Unit:=wj λσ=>σ.JS p
def uQ (p:fN->Bool):M Unit:=wj λσ=>σ.xE p
def ju (m:Nat):M Unit:=wj λσ=>{σ with mode:=m}
def jY (x:iM):M Unit:=λσ=>if σ.gx x then .ok () {σ with fQ:=σ.fQ.erase x} else .stuck
def zN (x y:iM):M Unit:=λσ=>if σ.gx x&&σ.lH y then .ok () {σ with fQ:=pI σ.fQ x y} else .stuck
def qp (x y:iM):M Unit:=λσ=>if σ.gx x&&σ.lH y&&decide (σ.fQ.length < 4096)then .ok () {σ with fQ:=iH σ.fQ x y} else .stuck
def A8 (x:iM):M Unit:=λσ=>if σ.gx x then .ok () {σ with fQ:=od σ.fQ x} else .stuck
def kB (x:iM):M Unit:=λσ=>if σ.gx x then .ok () {σ with act:=σ.act.erase x} else .stuck
def rA (x y:iM):M Unit:=λσ=>if σ.gx x&&σ.gx y then .ok () {σ with act:=pI σ.act x y} else .stuck
def qt (x y:iM):M Unit:=λσ=>if σ.gx x&&σ.gx y&&decide (σ.act.length < 4096)then .ok () {σ with act:=iH σ.act x y} else .stuck
def Cs (x:iM):M Unit:=λσ=>if σ.gx x then .ok () {σ with act:=od σ.act x} else .stuck
def zC (fX:kZ) (s:fN):Bool:=fX.any λa=>ku a.1 s
def qe (i:Nat):kZ->M Unit
 |[]=>pure ()
 |a::r=>λσ=>match σ.gF i with
  |none=> .stuck
  |some e=>if zC e.gy a.1 then qe i r σ else if σ.oY<=e.gy.length then .stop 7 σ.gp else qe i r (σ.gE i {e with gy:=e.gy++[a]})
def wX (i:Nat) (t:fZ):M Unit:=λσ=>if σ.fresh&&ng (σ.nm i)then qe i t.ja σ else .stuck
def kH (i:Nat):M Nat:=λσ=>match σ.gF i with
 |some e=>if ng e.name then .stuck else .ok σ.nodes.length (σ.add (.el {name:=e.name,gy:=e.gy,iJ:=none,kids:=[]}))
 |none=> .stuck
def Ab.Sm (σ:Ab) (x:iM):Bool:=decide (x=none)||decide (x∈σ.fQ)
def Ab.tN (σ:Ab):j5->Nat
 |[]=>0
 |x::r=>if σ.Sm x then r.length+1 else σ.tN r
def Ab.AU (σ:Ab):Nat:=σ.tN σ.act.reverse
def F0 (n:Nat):M Nat:=λσ=>match gU σ.act (n:Int)with
 |some i=> .ok i σ
 |none=> .stuck
def qW (old:Nat):M Unit:=λσ=>rA (some old) σ.last σ
def GP:Nat->Nat->M Unit
 |0,_=>pure ()
 |k+1,n=>do
  let old <-F0 n
  let j <-kH old
  lG j
  qW old
  GP k (n+1)
def lA:M Unit:=λσ=>GP (σ.act.length - σ.AU) σ.AU σ
def Ab.qC (σ:Ab) (s:fN):j5->iM
 |[]=>none
 |none::_=>none
 |some i::r=>if ku (σ.nm i) s then some i else σ.qC s r
def Ab.pq (σ:Ab) (s:fN):iM:=σ.qC s σ.act.reverse
def aeQ (a b:Al):Bool:=ku a.name b.name&&(a.gy.length==b.gy.length)&&a.gy.all λx=>b.gy.any λy=>ku x.1 y.1&&ku x.2 y.2
def Ab.Xd (σ:Ab) (i j:Nat):Bool:=match σ.gF i,σ.gF j with
 |some a,some b=>aeQ a b
 |_,_=>false
def Ab.se (σ:Ab) (j:Nat):j5->iM×Nat->iM×Nat
 |[],c=>c
 |none::_,c=>c
 |some i::r,c=>if σ.Xd i j then σ.se j r (some i,c.2+1)else σ.se j r c
def lh (x:iM):M Unit:=λσ=>if σ.rq<=σ.act.length then .stop 6 σ.gp else if σ.gx x then .ok () {σ with act:=σ.act++[x]} else .stuck
def N4 (i:Nat):M Unit:=λσ=>
 let c:=σ.se i σ.act.reverse (none,0)
 if 3<=c.2 then (do
  kB c.1
  lh (some i)
  return ():M Unit) σ else (do
  lh (some i)
  return ():M Unit) σ
def zi:M Unit:=do
 Cs none
 return ()
def IC:M Nat:=λσ=>match σ.last with
 |some i=> .ok i σ
 |none=> .stuck
def ln (t:fZ):M Unit:=do
 lA
 iZ t
 return ()
def sL (t:fZ):M Unit:=do
 lA
 lp t
 return ()
def iE (t:fZ):M Unit:=do
 ln t
 let i <-IC
 N4 i
 return ()
def uU (s:fN):M Unit:=do
 let _ <-nh (gI [s]) kU
 return ()
def Ab.vo (σ:Ab) (f:Nat):j5->iM->iM
 |[],b=>b
 |x::r,b=>if x=some f then b else σ.vo f r (if kU (σ.qS x)then x else b)
def Ab.qf (σ:Ab) (f:Nat):iM:=σ.vo f σ.fQ.reverse none
variable {σ : Ab}
def me (j:Nat):M Unit:=λσ=>match σ.gF j with
 |none=> .stuck
 |some ej=>match ej.iJ with
  |none=> .ok () σ
  |some p=>match σ.gF p with
   |none=> .stuck
   |some ep=>if j≠p/\0<=qc ep.kids (Nd.gx j)/\(qc ep.kids (Nd.gx j)).toNat < ep.kids.length then .ok () ((σ.gE p {ep with kids:=ep.kids.eraseIdx (qc ep.kids (Nd.gx j)).toNat}).gE j {ej with iJ:=none})else .stuck
def FC (pl:Nat×Nat) (k:Nd):M Unit:=match k with
 | .el j=>nj pl j
 |k=>zQ pl k
def yy (dst:Nat):List Nd->M Unit
 |[]=>pure ()
 |k::r=>do
  let pl <-jf dst
  FC pl k
  yy dst r
def handOver (b dst:Nat):M Unit:=λσ=>match σ.gF b with
 |none=> .stuck
 |some eb=>if b=dst then .stuck else (yy dst eb.kids>>=λ_ a=>match a.gF b with
  |some eb'=> .ok () (a.gE b {eb' with kids:=[]})
  |none=> .stuck) σ
def FU (n:Nat):M Nat:=λσ=>match gU σ.fQ (n:Int)with
 |some i=> .ok i σ
 |none=> .stuck
def mn (f b:Nat):Nat->Nat->Nat->Nat->M (Nat×Nat)
 |0,_,last,mark=>pure (last,mark)
 |n+1,c,last,mark=>do
  let e <-FU n
  if e=f then pure (last,mark)else do
   (if 3 < c+1 then kB (some e)else pure ())
   λσ=>if some e∉σ.act then (do
    jY (some e)
    mn f b n (c+1) last mark:M (Nat×Nat)) σ else (do
    let a <-kH e
    zN (some e) (some a)
    rA (some e) (some a)
    me last
    let pl <-jf a
    nj pl last
    mn f b n (c+1) a (if last=b then a else mark):M (Nat×Nat)) σ
def ww (f a:Nat):M (Nat×Nat):=λσ=>mn f a (posOf σ.fQ (some a)).toNat 0 a f σ
def ahead (f:Nat):M Nat:=λσ=>match gU σ.fQ (posOf σ.fQ (some f) - 1)with
 |some i=> .ok i σ
 |none=> .stuck
def tj (f c:Nat):M Unit:=do
 let (last,mark) <-ww f c
 me last
 let a <-ahead f
 let pl <-placeFor a
 nj pl last
 let b <-kH f
 handOver c b
 let pl <-jf c
 nj pl b
 qt (some mark) (some b)
 kB (some f)
 jY (some f)
 qp (some c) (some b)
 return ()
def nw (s:fN):M Bool:=λσ=>match σ.pq s with
 |none=>(do uU s;return false:M Bool) σ
 |some f=>if some f∉σ.fQ then (do kB (some f);return false:M Bool) σ
  else if !σ.oW f then .ok false σ
  else match σ.qf f with
   |none=>(do A8 (some f);kB (some f);return false:M Bool) σ
   |some b=>(do tj f b;return true:M Bool) σ
def sY (s:fN):Nat->M Unit
 |0=>pure ()
 |k+1=>do
  let b <-nw s
  if b then sY s k else pure ()
def xF (s:fN):M Unit:=λσ=>match σ.last with
 |none=> .stuck
 |some i=>if ku (σ.nm i) s&&!decide (some i∈σ.act)then (do let _ <-yd;return ():M Unit) σ else sY s 8 σ
section
variable (rec:Nat->fZ->M Unit) (t:fZ)
def kq:M Unit:=λσ=>rec σ.mode t σ
def oT (pl:Nat×Nat) (nd:Cd) (k:Nat->Nd):M Unit:=λσ=>zQ pl (k σ.nodes.length) (σ.add nd)
def Cv:M (Nat×Nat):=jf 0
def ox:M Unit:=match t.k with
 | .gP n q=>do
  let pl <-Cv
  oT pl (.dt n) .dt
  wj λσ=>{σ with iP:=q||!ku n fy}
  ju 1
  return ()
 |_=>do
  ju 1
  return ()
def ly:M Unit:=do
 wj λσ=>{σ with iP:=true}
 ju 1
 kq rec t
 return ()
def sW (a:fN) (own:Bool) (fX:kZ):M Nat:=λσ=>if own then (if σ.fresh then .ok σ.nodes.length (σ.pi (.el {name:=a,gy:=fX,iJ:=none,kids:=[]}) false)else .stuck)else .ok σ.nodes.length (σ.add (.el {name:=a,gy:=[],iJ:=none,kids:=[]}))
def rF (own:Bool) (fX:kZ):M Unit:=do
 let e <-sW fy own fX
 let pl <-Cv
 nj pl e
 xx (some e)
 ju 2
 return ()
def yw:M Unit:=do
 rF t.oZ t.ja
 return ()
def sG:M Unit:=do
 rF false []
 kq rec t
 return ()
def rJ (own:Bool) (fX:kZ):M Unit:=do
 let e <-sW ga own fX
 wj λσ=>{σ with head:=some e}
 lG e
 ju 3
 return ()
def yF:M Unit:=do
 rJ t.oZ t.ja
 return ()
def sI:M Unit:=do
 rJ false []
 kq rec t
 return ()
def Bn:M Unit:=do
 let _ <-yd
 ju 4
 return ()
def nA:M Unit:=do
 Bn
 kq rec t
 return ()
def tV:M Unit:=do
 iZ t
 ju 6
 return ()
def o9:M Unit:=do
 jP fM
 ju 6
 kq rec t
 return ()
def ph:M Unit:=λσ=>jY σ.head σ
def pushHead:M Unit:=λσ=>xx σ.head σ
def uv:M Unit:=do
 pushHead
 rec 3 t
 ph
 return ()
def Nv (of:fN) (a:Bool):M Unit:=wj λσ=>{σ with mV:=of,iA:=a}
def oe (a:Bool):M Unit:=do
 iZ t
 Nv t.name a
 wj λσ=>{σ with kept:=σ.mode}
 ju 5
 return ()
def us:M Unit:=do
 oe t false
 return ()
def oI:M Unit:=do
 oe t true
 return ()
def zl:M Unit:=do
 let _ <-yd
 wj λσ=>{σ with mode:=σ.kept}
 return ()
def DU:M Unit:=do
 zl
 kq rec t
 return ()
def nG:M Unit:=if sT t.chars then pure ()else do
 lA
 jQ t
 return ()
def oM:M Unit:=λσ=>match gU σ.fQ 0 with
 |some i=>(do wX i t;return ():M Unit) σ
 |none=> .stuck
def qv:M Unit:=λσ=>match gU σ.fQ 1 with
 |some i=>if ku (σ.nm i) fM then (do wX i t;return ():M Unit) σ else .ok () σ
 |none=> .ok () σ
def mL:M Unit:=do
 oF
 iZ t
 return ()
def wJ:M Unit:=do
 mL t
 wj λσ=>{σ with behind:=true}
 return ()
def ob:M Unit:=do
 oF
 pQ (gI [lQ,lW])
 iZ t
 return ()
def xq:M Unit:=do
 oF
 lp t
 return ()
def uc:M Unit:=λσ=>match σ.form with
 |some _=> .ok () σ
 |none=>(do
  mL t
  wj λσ=>{σ with form:=σ.last}
  return ():M Unit) σ
def pc:M Unit:=do
 let _ <-nh (gI [gC]) io
 ln t
 return ()
def yR:M Unit:=λσ=>if σ.iP then .ok () σ else oF σ
def sr:M Unit:=do
 yR
 iZ t
 ju 7
 return ()
def pK:M Unit:=do
 us t
 wj λσ=>{σ with behind:=true}
 return ()
def pa:M Unit:=do
 pQ (gI [fY])
 ln t
 return ()
def qu:M Unit:=do
 ln t
 wj λσ=>{σ with mode:=if σ.mode=7\/σ.mode=9\/σ.mode=11\/σ.mode=12\/σ.mode=13 then 15 else 14}
 return ()
def qQ:M Unit:=λσ=>match σ.pq sS with
 |none=>(do iE t;return ():M Unit) σ
 |some a=>(do
  xF sS
  kB (some a)
  jY (some a)
  iE t
  return ():M Unit) σ
def tY:M Unit:=λσ=>if σ.inScope (gI [ib]) io then (do xF ib;iE t;return ():M Unit) σ else (do iE t;return ():M Unit) σ
def sD:M Unit:=do
 lA
 tY t
def pM:M Unit:=do
 xF t.name
 return ()
def o0:M Unit:=do
 ln t
 lh none
 return ()
def sM:M Unit:=do
 let b <-nh (gI [gw]) io
 if b then zi else pure ()
def zy:M Unit:=λσ=>if σ.inScope (gI [fM]) io then .ok () {σ with mode:=16} else .ok () σ
def zu:M Unit:=λσ=>if σ.inScope (gI [fM]) io then (do
  ju 16
  kq rec t
  return ():M Unit) σ else .ok () σ
def yE:M Unit:=do
 let _ <-nh (gI [t.name]) io
 return ()
def ut:M Unit:=do
 let _ <-nh (gI [lQ,lW]) io
 return ()
def Bm:M Unit:=do
 let _ <-nh (gI [kC]) ac9
 return ()
def RO:M Unit:=λσ=>if σ.inScope (gI [mQ]) DD then (do oF;return ():M Unit) σ else (do
  jP mQ
  oF
  return ():M Unit) σ
def uY:M Unit:=do
 lA
 jP jk
 let _ <-yd
 return ()
def zp:M Unit:=λσ=>match σ.form with
 |none=> .ok () σ
 |some i=>if σ.oW i then (do
   wj λσ=>{σ with form:=none}
   wj λσ=>σ.mB
   jY (some i)
   return ():M Unit) σ else .ok () {σ with form:=none}
def yz:M Unit:=do
 uU t.name
 return ()
def Jw:M Unit:=ju 17
def wY:M Unit:=do
 ju 6
 kq rec t
 return ()
def tZ:M Unit:=do
 wj λσ=>{σ with iq:=true}
 rec 6 t
 wj λσ=>{σ with iq:=false}
 return ()
def qx:M Unit:=λσ=>if σ.current A7 then (do
  wj λσ=>{σ with kept:=σ.mode}
  ju 8
  kq rec t
  return ():M Unit) σ else (do tZ rec t;return ():M Unit) σ
def pz:M Unit:=do
 uQ (gI [fC])
 lh none
 iZ t
 ju 9
 return ()
def lT:M Unit:=λσ=>match σ.form with
 |some _=> .ok () σ
 |none=>(do
  iZ t
  let x <-yd
  wj λσ=>{σ with form:=x}
  return ():M Unit) σ
def SL (s:fN):fN:=⟨s.data.map λb=>if 65<=b.toNat/\b.toNat<=90 then b+32 else b⟩
def uI:kZ->Bool
 |[]=>false
 |a::r=>if ku a.1 nE then ku (SL a.2) lj else uI r
def kF:M Unit:=if uI t.ja then (do lp t;return ())else (do tZ rec t;return ())
def oK:M Unit:=match t.k with
 | .jq s=>if sT s then pure ()else λσ=>if σ.waiting.length < 4096 then .ok () {σ with waiting:=σ.waiting++[(t.a,t.b,s)]} else .stuck
 |_=>stuck
def qh (x:Nat×Nat×fN):fZ:={a:=x.1,b:=x.2.1,k:= .jq x.2.2}
def tP:List (Nat×Nat×fN)->M Unit
 |[]=>pure ()
 |x::r=>do
  jQ (qh x)
  tP r
def uw:List (Nat×Nat×fN)->M Unit
 |[]=>pure ()
 |x::r=>do
  tZ rec (qh x)
  uw r
def qB:M Unit:=λσ=>if σ.waiting.any λx=>!lr x.2.2 then uw rec σ.waiting σ else tP σ.waiting σ
def sd (ks:List fN) (m:Nat):M Bool:=do
 let b <-nh (gI ks) Ba
 if b then (do ju m;return true)else return false
def lc (ks:List fN) (m:Nat):M Bool:=do
 let b <-sd ks m
 if b then (do zi;return true)else return false
def jv (s:fN):Nat:=if gI [gG,gH] s then 13 else if gI [gq] s then 12 else if gI [fE,fG,fF] s then 11 else if gI [fH] s then 9 else if gI [fD] s then 10 else if gI [fC] s then 7 else 6
def ur (σ:Ab):j5->Nat
 |[]=>6
 |x::r=>if jv (σ.qS x)=6 then ur σ r else jv (σ.qS x)
def xX:M Unit:=wj λσ=>{σ with mode:=ur σ σ.fQ.reverse}
def yg:M Bool:=do
 let b <-nh (gI [fC]) Ba
 if b then (do xX;return true)else return false
def tW:M Bool:=lc [fH] 7
def mx:M Bool:=λσ=>if σ.current (gI [fD])then (do
  let _ <-yd
  ju 7
  return true:M Bool) σ else .ok false σ
def ra:M Bool:=sd [fE,fF,fG] 7
def EJ:M Bool:=sd [gq] 11
def endCell:M Bool:=lc [gG,gH] 12
def qY:M Unit:=do
 uQ (gI [gq])
 iZ t
 ju 13
 lh none
 return ()
def pk:M Unit:=if sT t.chars then pure ()else do
 jQ t
 return ()
def jO:M Unit:=do
 pQ (gI [fY])
 iZ t
 return ()
def je:M Unit:=do
 pQ (gI [fY])
 pQ (gI [fJ])
 iZ t
 return ()
def lB:M Unit:=do
 je t
 let _ <-yd
 return ()
def iS:M Unit:=λσ=>if σ.current (gI [fY])then (match gU σ.fQ (posOf σ.fQ σ.last - 1)with
  |none=> .stuck
  |some i=>if ku (σ.nm i) fJ then (do
    let _ <-yd
    pQ (gI [fJ])
    return ():M Unit) σ else (do pQ (gI [fJ]);return ():M Unit) σ)
 else (do pQ (gI [fJ]);return ():M Unit) σ
def mG:M Unit:=do
 pQ (gI [fY])
 return ()
def vX:M Bool:=do
 let b <-nh (gI [ig]) (λs=>!(gI [fY] s||gI [fJ] s))
 if b then (do xX;return true)else return false
end
def To.ml {σ' : Ab} {α:Type} {b:(Nat->Nat)->α->gh} {a:α} {e : Ending} (h:To E L σ' w w') (c:e=gO (b L.gp a)) (d:σ.nodes.length<=σ'.nodes.length):jT E L.gp σ.nodes.length w (.ok a σ') b e w':=by
 have⟨L',e1,h3,h4⟩:=h;exact⟨c,⟨L',e1,h3⟩,h4,d⟩
def aev (h:RF E f σ w) (a:Ask E.bm v p w):
  Calls prog 293 #[Bp E,v] w (jT E f σ.nodes.length w (.ok () (σ.FB p)) uV):=by
 obtain⟨L,rfl,b⟩:=h;exact(acm b v p a).mono (λe w' h=>h.2.ml h.1 (gr _))
theorem vO (h:RF E f σ w) (a:Ask E.bm v p w):
  Calls prog 241 #[Bp E,v] w (jT E f σ.nodes.length w (pQ p σ) uV):=by
 obtain⟨L,rfl,b⟩:=h;exact(XB b v p a).mono (λe w' h=>h.2.ml h.1 (by unfold Ab.JS;grind[Ab.pop]))
def Ff (h:RF E f σ w) {a : jB} (b:Ask E.bm (.func (.func k) #[] a) p w):
  Calls prog 222 #[Bp E,.func (.func k) #[] a] w (jT E f σ.nodes.length w (uQ p σ) uV):=by
 obtain⟨L,rfl,c⟩:=h;exact(Su c _ _ _ p b).mono (λe w' h=>h.2.ml h.1 (gr _))
def Kn (h:RF E f σ w):
  Calls prog 288 #[Bp E] w (jT E f σ.nodes.length w (wj (λσ=>σ.mB) σ) uV):=by
 obtain⟨L,rfl,a⟩:=h;exact(Jc a).mono (λe w' h=>h.2.ml h.1 (gr _))
def Br (h:RF E f σ w) (a:Ask E.bm v p w):
  Calls prog 220 #[Bp E,v] w λe w'=>e=gO (.bool (σ.current p))/\w'=w:=by
 obtain⟨L,rfl,b⟩:=h;exact yQ b v p a
def zo (h:RF E f σ w) {o r : Nat} {b c : jB} (l:Ask E.bm (.func (.func o) #[] b) p w) (C:Ask E.bm (.func (.func r) #[] c) q w):
  Calls prog 228 #[Bp E,.func (.func o) #[] b,.func (.func r) #[] c] w (jT E f σ.nodes.length w (nh p q σ) bV):=by
 have d:=vY h p q _ _ l C;have y:=l;have H:=At.start h;unfold nh;cases hi:σ.inScope p q with
 |false=>
  rw[hi]at d;rw[gn (by simp)];go_enter func228,ntmps228
  go_wp21
  refine d.mono ?_;rintro e D ⟨rfl,a⟩;replace H:=H.k0 a;go_wp2;go_ret;exact jK rfl H rfl
 |true=>
  rw[hi]at d;rw[fU (by simp)];go_enter func228,ntmps228
  go_wp21
  refine d.mono ?_;rintro e D ⟨rfl,a⟩;have u:=aev (H.k0 a).rel (y.k0 a);replace H:=H.k0 a
  go_wp21
  refine u.mono ?_;rintro e F ⟨rfl,z,A,B⟩;replace H:=H.to z B A;go_wp2;go_ret;exact jK rfl H rfl
def yC (h:RF E f σ w) (r:oF σ≠ .stuck):
  Calls prog 278 #[Bp E] w (jT E f σ.nodes.length w (oF σ) uV):=by
 obtain⟨R,c⟩:∃R,R=(oF) σ:=⟨_,rfl⟩;rw[<-c]at r|-;unfold oF at c;have HS:=r;have H:=At.start h;have l:=fx c;clear c;go_enter func278,ntmps278;have u:=nf E [mQ] w (by decide)
 go_wp21
 refine u.mono ?_;rintro e D ⟨B,y,rfl,a,o⟩;replace H:=H.k0 o
 go_wp21
 refine(zZ H.rel).mono ?_;rintro e F ⟨C,z,rfl,d,b⟩;replace a:=a.k0 b;replace H:=H.k0 b
 go_wp21
 refine AQ (λ_=>zo H.rel a d) H l HS (λ_ _ _ _ h=>And.intro rfl (mS h)) ?_;rintro(_) σ w H A l;go_wp2;go_end0;exact jK l H rfl
abbrev RU:Obj:=fV #[.pointer none,fK 0] 235
def M.bind_pure {α:Type} (m:M α) (σ:Ab):(m>>=λa=>(Pure.pure a:M α)) σ=m σ:=by
 rw[M.fP];cases m σ<;>rfl
theorem IV (E:Env) (hF:li E) (i:Nat):jS E 178 (λf=>#[Bp E,nV f i]) (placeFor i) pV:=by
 intro f σ w h hs;have HB:=fB w RU;have a2:=h.lt;have H0:=(At.start h).k0 ((Kept.refl _ w).alloc RU);have y:w.cell? ⟨E.bB,195,none⟩=some (.bool σ.iq):=(At.start h).ZW;obtain⟨R,o⟩:∃R,R=placeFor i σ:=⟨_,rfl⟩;rw[<-o]at hs|-;have HS:=hs;unfold placeFor at o;cases hfo:σ.iq with
 |false=>
  rw[hfo]at o y;rw[gn (by simp)]at o;have H:=H0;have l:Hid (R=(jf i>>=λpl=>pure pl) σ):=fx (o.trans (M.bind_pure (jf i) σ).symm);clear o;go_enter func178,ntmps178
  go_wp21
  go_quiet (fail)
  replace H:=fx (H.k0 ((Kept.refl _ (w.alloc RU)).drewN nq))
  go_wp21
  refine jS.call (GG E i) H l HS rfl ?_ ?_
  .intro c p j ws d I J;have G:=fx d;clear d;go_wp2;exact⟨rfl,ue G I J⟩
  rintro pl T F d O z;have a:=((Fr.gv ((Kept.refl _ (w.alloc RU)).drewN nq)).trans O).cell HB (by decide);have N:=fw a 0;have D:=fw a 1;have f0:=fA a 0;have f1:=fA a 1;dsimp at N D;replace H:=fx (((d.side a (by decide) (gr _) 0 (fW (f pl.1))).side (fI a 0 _) (by decide) (gr _) 1 (fK pl.2)));replace l:=fx z;have r:=fx (fI (fI a 0 (fW (f pl.1))) 1 (fK pl.2));clear d z;go_wp2;refine nK (v:=pV f pl) ?_ rfl (jK l H rfl);simp[results,results178,asAddr,Result.andThen,go_sem,fw r.out]
 |true=>
  rw[hfo]at o y;have Z:∃e,σ.gF i=some e:=by
   cases he:σ.gF i with
   |some e=>simp
   |none=>
    exfalso;have a0:σ.nm i=⟨#[]⟩:=by unfold Ab.nm;rw[he]
    have u:A7 (σ.nm i)=false:=by rw[a0];simp[A7,gI,ku,sH]
    rw[u]at o;simp only[Bool.and_false,rL,wA]at o;apply hs;rw[o]
    grind[jf]
  have⟨e0,he0⟩:=Z;have HN:∀W,Kept [] w W->W.cell? ⟨f i,0,none⟩=some (fR (σ.nm i)):=by
   intro W hk;obtain⟨L,rfl,hr⟩:=h;exact(hr.gJ hk).vh he0
  have cN:=HN w (Kept.refl _ _);have a1:f i < w.heap.size:=by
   obtain⟨L,rfl,hr⟩:=h;exact hr.I9 (Ab.gL he0)
  have l:=fx o;have Y:=At.start h;clear o;go_enter func178,ntmps178
  go_wp21
  go_cut [16]from 5 to 15 (λb wc=>b= .bool (A7 (σ.nm i))/\Kept [] w wc/\wc.heap[w.heap.size]?=some RU)
  case first=>
   go_region_with (first
    |(go_at_call 221;refine(BO E _).mono ?_;rintro e F ⟨k1,a3,rfl,S,C⟩;have B:Kept [] w F:=(((Kept.refl _ w).alloc RU).drew).trans C;have D:=HN F B;have⟨k1',lb1',e1,he1,hc1⟩:=S.call;cases e1;have V:=fx (hc1 F (wS.refl _ _) (σ.nm i));have X:=fx B;have U:=fx (C.at HB (by simp));clear S C B hc1)
    |(refine V.mono ?_;rintro e w2 ⟨rfl,rfl⟩))
   all_goals (try (go_wp21))
   all_goals (go_meet;exact⟨rfl,X,U⟩)
  case rest=>
   obtain⟨rfl,hk,K⟩:=hcut;have H:Hid (At E f σ.nodes.length w f σ wc):=fx (Y.k0 hk);cases u:A7 (σ.nm i)with
   |true=>
    have A:Hid (R=(jN>>=λpl=>(Pure.pure pl:M (Nat×Nat))) σ):=by
     refine fx ?_;rw[M.bind_pure];have:=l
     rwa [u]at this
    replace l:=A
    go_wp21
    refine jS.call hF H l HS rfl ?_ ?_
    .intro c p j ws d I J;have G:=fx d;clear d;go_wp2;exact⟨rfl,ue G I J⟩
    rintro pl T F d O z;have a:=O.cell K (by decide);have N:=fw a 0;have D:=fw a 1;have f0:=fA a 0;have f1:=fA a 1;dsimp at N D;replace H:=fx (((d.side a (by decide) (gr _) 0 (fW (f pl.1))).side (fI a 0 _) (by decide) (gr _) 1 (fK pl.2)));replace l:=fx z;have r:=fx (fI (fI a 0 (fW (f pl.1))) 1 (fK pl.2));clear d z;go_wp2;refine nK (v:=pV f pl) ?_ rfl (jK l H rfl);simp[results,results178,asAddr,Result.andThen,go_sem,fw r.out]
   |false=>
    have A:Hid (R=(jf i>>=λpl=>(Pure.pure pl:M (Nat×Nat))) σ):=by
     refine fx ?_;rw[M.bind_pure];have:=l
     rwa [u]at this
    replace l:=A
    go_wp21
    refine jS.call (GG E i) H l HS rfl ?_ ?_
    .intro c p j ws d I J;have G:=fx d;clear d;go_wp2;exact⟨rfl,ue G I J⟩
    rintro pl T F d O z;have a:=O.cell K (by decide);have N:=fw a 0;have D:=fw a 1;have f0:=fA a 0;have f1:=fA a 1;dsimp at N D;replace H:=fx (((d.side a (by decide) (gr _) 0 (fW (f pl.1))).side (fI a 0 _) (by decide) (gr _) 1 (fK pl.2)));replace l:=fx z;have r:=fx (fI (fI a 0 (fW (f pl.1))) 1 (fK pl.2));clear d z;go_wp2;refine nK (v:=pV f pl) ?_ rfl (jK l H rfl);simp[results,results178,asAddr,Result.andThen,go_sem,fw r.out]
def Hk (E:Env) (hF:li E):jS E 105 (λ_=>#[Bp E]) lD pV:=by
 intro f σ w h HS;cases hl:σ.last with
 |none=>exfalso;apply HS;unfold lD;rw[hl]
 |some i=>
  have F:lD σ=(placeFor i>>=λpl=>pure pl) σ:=by
   unfold lD;rw[hl,M.bind_pure]
  obtain⟨R,d⟩:∃R,R=lD σ:=⟨_,rfl⟩;have u:Hid (Calls prog 179 #[jp E.bB 188] (w.alloc RU) λe w'=>e=gO (fW (f i))/\w'=w.alloc RU):=by
   obtain⟨L,rfl,J⟩:=h;have:=SD (J.gJ ((Kept.refl _ w).alloc RU))
   rwa [show gU σ.fQ ((σ.fQ.length:Int) - 1)=some i from hl]at this
  rw[<-d]at HS|-;rw[F]at d;have H:=(At.start h).k0 ((Kept.refl _ w).alloc RU);have l:=fx d;have B:=fB w RU;have I:=h.lt;clear d;go_enter func105,ntmps105
  go_wp21
  refine u.mono ?_;rintro e w' ⟨rfl,rfl⟩
  go_wp21
  refine jS.call (IV E hF i) H l HS rfl ?_ ?_
  .intro c p j S b z A;have y:=fx b;clear b;go_wp2;exact⟨rfl,ue y z A⟩
  rintro pl K O b G r;have a:=G.cell B (by decide);have C:=fw a 0;have D:=fw a 1;have f0:=fA a 0;have N:=fA a 1;dsimp at C D;replace H:=((b.side a (by decide) (gr _) 0 (fW (f pl.1))).side (fI a 0 _) (by decide) (gr _) 1 (fK pl.2));replace l:=fx r;have o:=fx (fI (fI a 0 (fW (f pl.1))) 1 (fK pl.2));clear b r;go_wp2;refine nK (v:=pV f pl) ?_ rfl (jK l H rfl);simp[results,results105,asAddr,Result.andThen,go_sem,fw o.out]
theorem RF.tv (h:RF E f σ w):∃a n b,E.tv= .slice a n b:=by
 have⟨L,_,hr⟩:=h;have⟨a,cap,e⟩:=fS hr.tok
 grind
section
variable (E:Env) (hF:li E)
include hF
def Ez (j:Nat):jS E 268 (λf=>#[Bp E,nV f j]) (lG j) uV:=Pk E (Hk E hF) j
def uy (s:fN):iG E 188 (λ_=>#[Bp E,fR s]) (jP s) uV:=Lb E (Hk E hF) s
theorem kP (t:fZ) (C:iL E t):iG E 183 (λ_=>#[Bp E,hH E t]) (iZ t) uV:=by
 intro f σ w h HS;have⟨ao,n,cp,htv⟩:=h.tv;have c:t.oZ=true/\σ.fresh=true:=by
  unfold iZ at HS;rw[M.fP]at HS;unfold pD at HS;cases hc:(σ.fresh&&t.oZ)with
  |true=>grind
  |false=>grind
 have z:=C c.1;have l:t.ja=E.ta/\yK E t=#[fK t.a,fK t.b,fR t.name,.slice ao n cp]:=by
  have⟨a,b,k,fX⟩:=t;cases k<;>simp_all[fZ.oZ,fZ.ja,yK,fZ.name]
 obtain⟨R,y⟩:∃R,R=(iZ t) σ:=⟨_,rfl⟩;rw[<-y]at HS|-;have o:R=(lG σ.nodes.length>>=λ_=>(Pure.pure ():M Unit)) (σ.pi (.el {name:=t.name,gy:=E.ta,iJ:=none,kids:=[]}) false):=by
  rw[y];unfold iZ;rw[M.fP];unfold pD;simp only[c.1,c.2,l.1,Bool.and_self,wC]
 have r:=fx o;have d:=ym E t w ⟨ao,n,cp,htv⟩;rw[l.2]at d;have H:=At.start h;have B:=h.lt;have u:=c.2;clear h y o c z l;go_enter func183,ntmps183
 go_wp21
 refine d.mono ?_;rintro e F ⟨rfl,A⟩;replace H:=(H.k0 (A.alloc (fV #[fK t.a,fK t.b,fR t.name,.slice ao n cp] 194))).pD u t.name;rw[htv]at H;clear A d
 go_wp21
 refine mC (Ez E hF σ.nodes.length) H r HS (by simp[GX]) (λ_ _ _ _ h=>And.intro rfl (lS h)) ?_;clear H r;rintro(_) σ w H D r;go_wp2;go_end0;exact fL r H rfl
def vJ (t:fZ) (c:iL E t):iG E 110 (λ_=>#[Bp E,hH E t]) (lp t) uV:=by
 refine dI λf σ w R a HS H=>?_;unfold lp at a;go_enter func110,ntmps110
 go_wp21
 refine dC (kP E hF t c) H a HS rfl (λ_ _ _ _ h=>And.intro rfl (lS h)) ?_;rintro(_) f σ w H d b a
 go_wp21
 refine mC (Yj E) H a HS rfl (λ_ _ _ _ h=>And.intro rfl (lS h)) ?_;rintro(_) σ w H b a;go_wp2;go_end0;exact fL a H rfl
def vF (t:fZ):iG E 109 (λ_=>#[Bp E,hH E t]) (jQ t) uV:=by
 refine dI λf σ w R a HS H=>?_;unfold jQ at a;go_enter func109,ntmps109
 go_wp21
 refine mC (Hk E hF) H a HS rfl (λ_ _ _ _ h=>And.intro rfl (lS h)) ?_;rintro(pl) σ w H b a
 go_wp21
 refine(zv E t _).mono ?_;rintro e l ⟨rfl,c⟩;replace H:=H.k0 c
 go_wp21
 refine dC (SV E pl t.chars) H a HS rfl (λ_ _ _ _ h=>And.intro rfl (lS h)) ?_;rintro(_) f σ w H d b a;go_wp2;go_end0;exact fL a H rfl
def vK (t:fZ) (d:iL E t):iG E 193 (λ_=>#[Bp E,hH E t]) (mL t) uV:=by
 refine dI λf σ w R a HS H=>?_;unfold mL at a;go_enter func193,ntmps193
 go_wp21
 refine AQ (λc=>yC H.rel c) H a HS (λ_ _ _ _ h=>And.intro rfl (lS h)) ?_;rintro(_) σ w H b a
 go_wp21
 refine dC (kP E hF t d) H a HS rfl (λ_ _ _ _ h=>And.intro rfl (lS h)) ?_;rintro(_) f σ w H l b a;go_wp2;go_end0;exact fL a H rfl
def Sw (t:fZ) (b:iL E t):iG E 194 (λ_=>#[Bp E,hH E t]) (wJ t) uV:=by
 refine dI λf σ w R a HS H=>?_;unfold wJ at a;go_enter func194,ntmps194
 go_wp21
 refine dC (vK E hF t b) H a HS rfl (λ_ _ _ _ h=>And.intro rfl (lS h)) ?_;rintro(_) f σ w H d c a;have l:=H.Yr;have o:=H.free 198;replace H:=H.su true;go_wp2;go_end0;exact fL a H rfl
end
def AP (a b:Int) (s:fN) (c:Option Addr) (n d:Nat) (w:fO):(Instr.field 194 (.agg #[fK a,fK b,fR s,.slice c n d]) 1).run prog w= .ok (fR s) w:=by
 have h:=underlying194;simp[Instr.field,pE h,go_sem,asAgg,Result.andThen]
def yk (a b:Int) (s:fN) (c:Option Addr) (n d:Nat) (w:fO):(Instr.field 194 (.agg #[fK a,fK b,fR s,.slice c n d]) 2).run prog w= .ok (.slice c n d) w:=by
 have h:=underlying194;simp[Instr.field,pE h,go_sem,asAgg,Result.andThen]
def At.xL {f0 : Nat->Nat} {n0 : Nat} {w0 : fO} (h:At E f0 n0 w0 f σ w):w.cell? ⟨E.bB,187,none⟩=some (nV f 0):=by
 obtain⟨L,rfl,a⟩:=h.rel;exact a.low (by decide) a.env.vc
theorem si (σ σ':Ab) (h:σ'.nodes=σ.nodes):σ.nodes.length<=σ'.nodes.length:=by grind
def D0 (E:Env) (x:iM):jS E 187 (λf=>#[jp E.bB 188,oV f x]) (jY x) uV:=by
 intro f σ w ⟨L,e,c⟩ a;subst e;unfold jY at a|-
 by_cases b:σ.gx x=true
 .rw[fU b];exact(Zo c x b).mono (λe w' h=>h.2.ml h.1 (si _ _ rfl))
 .rw[gn b]at a;exact absurd rfl a
def Z5 (E:Env) (x:iM):jS E 328 (λf=>#[jp E.bB 188,oV f x]) (A8 x) uV:=by
 intro f σ w ⟨L,e,c⟩ a;subst e;unfold A8 at a|-
 by_cases b:σ.gx x=true
 .rw[fU b];exact(abE c x b).mono (λe w' h=>h.2.ml h.1 (si _ _ rfl))
 .rw[gn b]at a;exact absurd rfl a
def Ol (E:Env) (x y:iM):jS E 376 (λf=>#[jp E.bB 188,oV f x,oV f y]) (qp x y) uV:=by
 intro f σ w ⟨L,e,c⟩ b;subst e;unfold qp at b|-
 by_cases a:(σ.gx x&&σ.lH y&&decide (σ.fQ.length < 4096))=true
 .rw[fU a];simp at a;exact(Rr c x y a.1.1 a.1.2 a.2).mono (λe w' h=>h.2.ml h.1 (si _ _ rfl))
 .rw[gn a]at b;exact absurd rfl b
def Ej (E:Env) (x:iM):jS E 187 (λf=>#[jp E.bB 189,oV f x]) (kB x) uV:=by
 intro f σ w ⟨L,e,c⟩ a;subst e;unfold kB at a|-
 by_cases b:σ.gx x=true
 .rw[fU b];exact(ZR c x b).mono (λe w' h=>h.2.ml h.1 (si _ _ rfl))
 .rw[gn b]at a;exact absurd rfl a
def Z1 (E:Env) (x:iM):jS E 328 (λf=>#[jp E.bB 189,oV f x]) (Cs x) uV:=by
 intro f σ w ⟨L,e,c⟩ a;subst e;unfold Cs at a|-
 by_cases b:σ.gx x=true
 .rw[fU b];exact(aba c x b).mono (λe w' h=>h.2.ml h.1 (si _ _ rfl))
 .rw[gn b]at a;exact absurd rfl a
def acI (E:Env) (x y:iM):jS E 276 (λf=>#[jp E.bB 189,oV f x,oV f y]) (rA x y) uV:=by
 intro f σ w ⟨L,e,c⟩ b;subst e;unfold rA at b|-
 by_cases a:(σ.gx x&&σ.gx y)=true
 .rw[fU a];simp at a;exact(VQ c x y a.1 a.2).mono (λe w' h=>h.2.ml h.1 (si _ _ rfl))
 .rw[gn a]at b;exact absurd rfl b
def Ov (E:Env) (x y:iM):jS E 376 (λf=>#[jp E.bB 189,oV f x,oV f y]) (qt x y) uV:=by
 intro f σ w ⟨L,e,c⟩ b;subst e;unfold qt at b|-
 by_cases a:(σ.gx x&&σ.gx y&&decide (σ.act.length < 4096))=true
 .rw[fU a];simp at a;exact(OS c x y a.1.1 a.1.2 a.2).mono (λe w' h=>h.2.ml h.1 (si _ _ rfl))
 .rw[gn a]at b;exact absurd rfl b
def Df (E:Env):jS E 184 (λ_=>#[jp E.bB 188]) yd oV:=Yj E
def Vs (E:Env) (j:Nat):jS E 374 (λf=>#[nV f j]) (me j) uV:=by
 intro f σ w ⟨L,e,c⟩ a;subst e;unfold me at a|-;cases hj:σ.gF j with
 |none=>rw[hj]at a;exact absurd rfl a
 |some ej=>
  simp only[hj]at a|-;cases hp:ej.iJ with
  |none=>
   simp only[hp]at a|-;refine(D8 c hj hp).mono ?_;rintro e w' ⟨rfl,rfl⟩;exact⟨rfl,⟨L,rfl,c⟩,Fr.refl _,gr _⟩
  |some p=>
   simp only[hp]at a|-;cases hep:σ.gF p with
   |none=>rw[hep]at a;exact absurd rfl a
   |some ep=>
    simp only[hep]at a|-
    by_cases b:j≠p/\0<=qc ep.kids (Nd.gx j)/\(qc ep.kids (Nd.gx j)).toNat < ep.kids.length
    .rw[fU b];exact(VT c hj hp hep b.1 b.2.2 (by omega)).mono (λe w' h=>h.2.ml h.1 (by simp[Ab.gE]))
    .rw[gn b]at a;exact absurd rfl a
theorem LB (E:Env) (i:Nat):iG E 275 (λf=>#[nV f i]) (kH i) nV:=by
 intro f σ w ⟨L,e,l⟩ a;subst e;unfold kH at a|-;cases hi:σ.gF i with
 |none=>rw[hi]at a;exact absurd rfl a
 |some e=>
  simp only[hi]at a|-
  by_cases b:ng e.name=true
  .rw[fU b]at a;exact absurd rfl a
  .rw[gn b];refine(VE l hi (by grind)).mono ?_;rintro o w' ⟨L',c,rfl,d,h⟩;exact⟨L'.gp,c,by simp[Ab.add],rfl,⟨L',rfl,d⟩,h⟩
def RF.afj (h:RF E f σ w):0 < σ.nodes.length:=by
 have⟨L,_,hr⟩:=h;exact Ab.lF (σ:=σ) (i:=0) hr.wf.vc
theorem aad (h:i < n):nV (GX f n k) i=nV f i:=by grind[GX]
section
variable (E:Env) (hF:li E) (rec:Nat->fZ->M Unit)
variable (hA:∀(m:Nat) (t:fZ),iL E t->iG E 171 (λ_=>#[Bp E,.int .i64 (m:Int),hH E t]) (rec m t) uV)
include hA in
def tA (t:fZ) (l:iL E t):iG E 95 (λ_=>#[Bp E,hH E t]) (kq rec t) uV:=by
 intro f σ w h HS;obtain⟨R,c⟩:∃R,R=kq rec t σ:=⟨_,rfl⟩;rw[<-c]at HS|-;have a:R=(rec σ.mode t>>=λ_=>(Pure.pure ():M Unit)) σ:=by
  rw[c,M.bind_pure];rfl
 have b:=fx a;have H:=At.start h;have u:=H.rK;have d:=h.lt;clear h c a;go_enter func95,ntmps95
 go_wp21
 refine dC (hA σ.mode t l) H b HS rfl (λ_ _ _ _ h=>And.intro rfl (lS h)) ?_;clear H b;rintro(_) f σ w H r o b;go_wp2;go_end0;exact fL b H rfl
include hA in
def Ah (t:fZ) (c:iL E t):iG E 101 (λ_=>#[Bp E,hH E t]) (ly rec t) uV:=by
 refine dI λf σ w R a HS H=>?_;unfold ly at a;go_enter func101,ntmps101;have o:=H.YR;have u:=H.free 196;have r:=H.rK;have y:=H.free 192;have b:=H.lt;replace H:=(H.qs true).iI 1
 go_wp21
 refine dC (tA E rec hA t c) H a HS rfl (λ_ _ _ _ h=>And.intro rfl (lS h)) ?_;rintro(_) f σ w H l d a;go_wp2;go_end0;exact fL a H rfl
theorem CV (own:Bool):iG E 176 (λ_=>#[Bp E,if own then E.tv else .slice none 0 0]) (rF own (if own then E.ta else [])) uV:=by
 intro f σ w h o;have⟨ao,n,cp,htv⟩:=h.tv;obtain⟨R,b⟩:∃R,R=rF own (if own then E.ta else []) σ:=⟨_,rfl⟩;rw[<-b]at o|-;have HS:=o;have H:=At.start h;have y:=h.lt;have l:=fx h.afj;have z:=H.xL;have A:=H.Wr;have B:=H.free 190;unfold rF at b;cases own with
 |true=>
  rw[M.fP]at b;unfold sW at b;have d:σ.fresh=true:=by
   cases hq:σ.fresh with
   |true=>rfl
   |false=>grind
  simp only[d,wC]at b;have a:=fx b;replace H:=H.pD d fy;rw[htv]at H;rw[fU rfl,htv];clear h b;go_enter func176,ntmps176
  go_wp21
  refine mC (GG E 0) H a HS (by rw[aad l.out]) (λ_ _ _ _ h=>And.intro rfl (lS h)) ?_;rintro(pl) σ w H c a
  go_wp21
  refine mC (Du E pl _) H a HS (by rw[zt]) (λ_ _ _ _ h=>And.intro rfl (lS h)) ?_;rintro(_) σ w H c a
  go_wp21
  refine mC (NJ E (some _)) H a HS (by show #[_,nV _ _]=_;rw[zt]) (λ_ _ _ _ h=>And.intro rfl (lS h)) ?_;rintro(_) σ w H c a;have r:=H.rK;have u:=H.free 192;replace H:=H.iI 2;go_wp2;go_end0;exact fL a H rfl
 |false=>
  rw[M.fP]at b;unfold sW at b;simp only[rL,wA]at b;have a:=fx b;replace H:=H.Gr fy;rw[gn (by simp)];clear h b;go_enter func176,ntmps176
  go_wp21
  refine mC (GG E 0) H a HS (by rw[aad l.out]) (λ_ _ _ _ h=>And.intro rfl (lS h)) ?_;rintro(pl) σ w H c a
  go_wp21
  refine mC (Du E pl _) H a HS (by rw[zt]) (λ_ _ _ _ h=>And.intro rfl (lS h)) ?_;rintro(_) σ w H c a
  go_wp21
  refine mC (NJ E (some _)) H a HS (by show #[_,nV _ _]=_;rw[zt]) (λ_ _ _ _ h=>And.intro rfl (lS h)) ?_;rintro(_) σ w H c a;have r:=H.rK;have u:=H.free 192;replace H:=H.iI 2;go_wp2;go_end0;exact fL a H rfl
include hF in
theorem Cp (own:Bool):iG E 181 (λ_=>#[Bp E,if own then E.tv else .slice none 0 0]) (rJ own (if own then E.ta else [])) uV:=by
 intro f σ w h o;have⟨ao,n,cp,htv⟩:=h.tv;obtain⟨R,a⟩:∃R,R=rJ own (if own then E.ta else []) σ:=⟨_,rfl⟩;rw[<-a]at o|-;have HS:=o;have H:=At.start h;have l:=h.lt;have z:=h.afj;have A:=H.xL;have B:=H.Wr;have C:=H.free 190;unfold rJ at a;cases own with
 |true=>
  rw[M.fP]at a;unfold sW at a;have d:σ.fresh=true:=by
   cases hq:σ.fresh with
   |true=>rfl
   |false=>grind
  simp only[d,wC]at a;have c:=fx a;replace H:=H.pD d ga;rw[htv]at H;rw[fU rfl,htv];clear a;go_enter func181,ntmps181;have b:=H.yb (some σ.nodes.length) (by simp[Ab.gx,Ab.gF,Ab.pi,Ab.add]);rw[show oV (GX f σ.nodes.length w.heap.size) (some σ.nodes.length)=fW w.heap.size from zt _ _ _]at b;rw[World.setCell_alloc_past _ _ _ _ l]at b;replace H:=b
  go_wp21
  refine mC (Ez E hF _) H c HS (by rw[zt]) (λ_ _ _ _ h=>And.intro rfl (lS h)) ?_;rintro(_) σ w H r c;have u:=H.rK;have y:=H.free 192;replace H:=H.iI 3;go_wp2;go_end0;exact fL c H rfl
 |false=>
  rw[M.fP]at a;unfold sW at a;simp only[rL,wA]at a;have c:=fx a;replace H:=H.Gr ga;rw[gn (by simp)];clear a;go_enter func181,ntmps181;have b:=H.yb (some σ.nodes.length) (by simp[Ab.gx,Ab.gF,Ab.pi,Ab.add]);rw[show oV (GX f σ.nodes.length w.heap.size) (some σ.nodes.length)=fW w.heap.size from zt _ _ _]at b;rw[World.setCell_alloc_past _ _ _ _ l]at b;replace H:=b
  go_wp21
  refine mC (Ez E hF _) H c HS (by rw[zt]) (λ_ _ _ _ h=>And.intro rfl (lS h)) ?_;rintro(_) σ w H r c;have u:=H.rK;have y:=H.free 192;replace H:=H.iI 3;go_wp2;go_end0;exact fL c H rfl
include hA in
def Lg (t:fZ) (d:iL E t):iG E 104 (λ_=>#[Bp E,hH E t]) (sG rec t) uV:=by
 refine dI λf σ w R a HS H=>?_;unfold sG at a;go_enter func104,ntmps104
 go_wp21
 refine dC (CV E false) H a HS (by simp) (λ_ _ _ _ h=>And.intro rfl (lS h)) ?_;rintro(_) f σ w H c b a
 go_wp21
 refine dC (tA E rec hA t d) H a HS rfl (λ_ _ _ _ h=>And.intro rfl (lS h)) ?_;rintro(_) f σ w H c b a;go_wp2;go_end0;exact fL a H rfl
include hF hA in
def KQ (t:fZ) (d:iL E t):iG E 108 (λ_=>#[Bp E,hH E t]) (sI rec t) uV:=by
 refine dI λf σ w R a HS H=>?_;unfold sI at a;go_enter func108,ntmps108
 go_wp21
 refine dC (Cp E hF false) H a HS (by simp) (λ_ _ _ _ h=>And.intro rfl (lS h)) ?_;rintro(_) f σ w H c b a
 go_wp21
 refine dC (tA E rec hA t d) H a HS rfl (λ_ _ _ _ h=>And.intro rfl (lS h)) ?_;rintro(_) f σ w H c b a;go_wp2;go_end0;exact fL a H rfl
theorem Px (t:fZ) (F:iL E t):iG E 103 (λ_=>#[Bp E,hH E t]) (yw t) uV:=by
 intro f σ w h A;have⟨ao,n,cp,htv⟩:=h.tv;obtain⟨R,d⟩:∃R,R=yw t σ:=⟨_,rfl⟩;rw[<-d]at A|-;have HS:=A;have H:=At.start h;have D:=h.lt;have r:=ym E t w ⟨ao,n,cp,htv⟩;unfold yw at d;cases htg:t.oZ with
 |true=>
  have c:t.ja=(if true then E.ta else [])/\yK E t=#[fK t.a,fK t.b,fR t.name,.slice ao n cp]:=by
   have:=F htg;have⟨a,b,k,fX⟩:=t;cases k<;>simp_all[fZ.oZ,fZ.ja,yK,fZ.name]
  rw[htg,c.1]at d;rw[c.2]at r;have l:=fx r;have o:=fx d;have u:=fx htv;have y:=λw=>yk (t.a:Int) (t.b:Int) t.name ao n cp w;clear d r htv;go_enter func103,ntmps103
  go_wp21
  refine l.mono ?_;rintro e G ⟨rfl,z⟩;replace H:=H.k0 z
  go_wp21
  refine dC (CV E true) H o HS (by rw[fU rfl,u.out]) (λ_ _ _ _ h=>And.intro rfl (lS h)) ?_;rintro(_) f σ w H C B o;go_wp2;go_end0;exact fL o H rfl
 |false=>
  have c:t.ja=(if false then E.ta else [])/\yK E t=#[fK 0,fK 0,fR js,iQ]:=by
   have⟨a,b,k,fX⟩:=t;cases k<;>simp_all[fZ.oZ,fZ.ja,yK,fZ.name]
  rw[htg,c.1]at d;rw[c.2]at r;have l:=fx r;have o:=fx d;have y:=λw=>yk 0 0 ⟨#[]⟩ none 0 0 w;clear d r htv;go_enter func103,ntmps103
  go_wp21
  refine l.mono ?_;rintro e G ⟨rfl,z⟩;replace H:=H.k0 z
  go_wp21
  refine dC (CV E false) H o HS (by simp) (λ_ _ _ _ h=>And.intro rfl (lS h)) ?_;rintro(_) f σ w H C B o;go_wp2;go_end0;exact fL o H rfl
include hF in
theorem OQ (t:fZ) (F:iL E t):iG E 107 (λ_=>#[Bp E,hH E t]) (yF t) uV:=by
 intro f σ w h A;have⟨ao,n,cp,htv⟩:=h.tv;obtain⟨R,d⟩:∃R,R=yF t σ:=⟨_,rfl⟩;rw[<-d]at A|-;have HS:=A;have H:=At.start h;have D:=h.lt;have r:=ym E t w ⟨ao,n,cp,htv⟩;unfold yF at d;cases htg:t.oZ with
 |true=>
  have c:t.ja=(if true then E.ta else [])/\yK E t=#[fK t.a,fK t.b,fR t.name,.slice ao n cp]:=by
   have:=F htg;have⟨a,b,k,fX⟩:=t;cases k<;>simp_all[fZ.oZ,fZ.ja,yK,fZ.name]
  rw[htg,c.1]at d;rw[c.2]at r;have l:=fx r;have o:=fx d;have u:=fx htv;have y:=λw=>yk (t.a:Int) (t.b:Int) t.name ao n cp w;clear d r htv;go_enter func107,ntmps107
  go_wp21
  refine l.mono ?_;rintro e G ⟨rfl,z⟩;replace H:=H.k0 z
  go_wp21
  refine dC (Cp E hF true) H o HS (by rw[fU rfl,u.out]) (λ_ _ _ _ h=>And.intro rfl (lS h)) ?_;rintro(_) f σ w H C B o;go_wp2;go_end0;exact fL o H rfl
 |false=>
  have c:t.ja=(if false then E.ta else [])/\yK E t=#[fK 0,fK 0,fR js,iQ]:=by
   have⟨a,b,k,fX⟩:=t;cases k<;>simp_all[fZ.oZ,fZ.ja,yK,fZ.name]
  rw[htg,c.1]at d;rw[c.2]at r;have l:=fx r;have o:=fx d;have y:=λw=>yk 0 0 ⟨#[]⟩ none 0 0 w;clear d r htv;go_enter func107,ntmps107
  go_wp21
  refine l.mono ?_;rintro e G ⟨rfl,z⟩;replace H:=H.k0 z
  go_wp21
  refine dC (Cp E hF false) H o HS (by simp) (λ_ _ _ _ h=>And.intro rfl (lS h)) ?_;rintro(_) f σ w H C B o;go_wp2;go_end0;exact fL o H rfl
def L8 (t:fZ):iG E 113 (λ_=>#[Bp E,hH E t]) (Bn) uV:=by
 refine dI λf σ w R a HS H=>?_;unfold Bn at a;go_enter func113,ntmps113
 go_wp21
 refine mC (Df E) H a HS rfl (λ_ _ _ _ h=>And.intro rfl (lS h)) ?_;rintro(_) σ w H c a;have d:=H.rK;have l:=H.free 192;have b:=H.lt;replace H:=H.iI 4;go_wp2;go_end0;exact fL a H rfl
include hA in
def Cq (t:fZ) (d:iL E t):iG E 114 (λ_=>#[Bp E,hH E t]) (nA rec t) uV:=by
 refine dI λf σ w R a HS H=>?_;unfold nA at a;go_enter func114,ntmps114
 go_wp21
 refine dC (L8 E t) H a HS rfl (λ_ _ _ _ h=>And.intro rfl (lS h)) ?_;rintro(_) f σ w H c b a
 go_wp21
 refine dC (tA E rec hA t d) H a HS rfl (λ_ _ _ _ h=>And.intro rfl (lS h)) ?_;rintro(_) f σ w H c b a;go_wp2;go_end0;exact fL a H rfl
include hF in
def PB (t:fZ) (c:iL E t):iG E 115 (λ_=>#[Bp E,hH E t]) (tV t) uV:=by
 refine dI λf σ w R a HS H=>?_;unfold tV at a;go_enter func115,ntmps115
 go_wp21
 refine dC (kP E hF t c) H a HS rfl (λ_ _ _ _ h=>And.intro rfl (lS h)) ?_;rintro(_) f σ w H l d a;have o:=H.rK;have r:=H.free 192;have b:=H.lt;replace H:=H.iI 6;go_wp2;go_end0;exact fL a H rfl
include hF hA in
def KO (t:fZ) (l:iL E t):iG E 117 (λ_=>#[Bp E,hH E t]) (o9 rec t) uV:=by
 refine dI λf σ w R a HS H=>?_;unfold o9 at a;go_enter func117,ntmps117
 go_wp21
 refine dC (uy E hF fM) H a HS rfl (λ_ _ _ _ h=>And.intro rfl (lS h)) ?_;rintro(_) f σ w H c b a;have o:=H.rK;have r:=H.free 192;have d:=H.lt;replace H:=H.iI 6
 go_wp21
 refine dC (tA E rec hA t l) H a HS rfl (λ_ _ _ _ h=>And.intro rfl (lS h)) ?_;rintro(_) f σ w H c b a;go_wp2;go_end0;exact fL a H rfl
def Mw (t:fZ):iG E 119 (λ_=>#[Bp E,hH E t]) (zl) uV:=by
 refine dI λf σ w R a HS H=>?_;unfold zl at a;go_enter func119,ntmps119
 go_wp21
 refine mC (Df E) H a HS rfl (λ_ _ _ _ h=>And.intro rfl (lS h)) ?_;rintro(_) σ w H b a;have c:=H.rK;have l:=H.free 192;have d:=H.TD;have o:=H.lt;replace H:=H.iI σ.kept;go_wp2;go_end0;exact fL a H rfl
include hA in
def Wc (t:fZ) (d:iL E t):iG E 118 (λ_=>#[Bp E,hH E t]) (DU rec t) uV:=by
 refine dI λf σ w R a HS H=>?_;unfold DU at a;go_enter func118,ntmps118
 go_wp21
 refine dC (Mw E t) H a HS rfl (λ_ _ _ _ h=>And.intro rfl (lS h)) ?_;rintro(_) f σ w H c b a
 go_wp21
 refine dC (tA E rec hA t d) H a HS rfl (λ_ _ _ _ h=>And.intro rfl (lS h)) ?_;rintro(_) f σ w H c b a;go_wp2;go_end0;exact fL a H rfl
def X0 (t:fZ):iG E 155 (λ_=>#[Bp E,hH E t]) (Jw) uV:=by
 refine dI λf σ w R a HS H=>?_;unfold Jw at a;go_enter func155,ntmps155;have c:=H.rK;have d:=H.free 192;have b:=H.lt;replace H:=H.iI 17;go_wp2;go_end0;exact fL a H rfl
include hA in
def NM (t:fZ) (c:iL E t):iG E 247 (λ_=>#[Bp E,hH E t]) (wY rec t) uV:=by
 refine dI λf σ w R a HS H=>?_;unfold wY at a;go_enter func247,ntmps247;have o:=H.rK;have r:=H.free 192;have b:=H.lt;replace H:=H.iI 6
 go_wp21
 refine dC (tA E rec hA t c) H a HS rfl (λ_ _ _ _ h=>And.intro rfl (lS h)) ?_;rintro(_) f σ w H l d a;go_wp2;go_end0;exact fL a H rfl
end
end
end Go.Proofs.YtlhhgenpcjjajaaGreatDoor
