import Derived.Test.YtlhhgenpcjjajaaGreatDoorRuA
import Derived.Deep.QuietTactic
import Derived.BigQuiet
import Derived.RangeFuncWrites
import Derived.Sort.BigQuietIn
import Derived.RegionIn
import Derived.TacticsIn
set_option linter.unusedSimpArgs false
set_option linter.unusedVariables false
set_option linter.defProp false
set_option maxHeartbeats 0
set_option maxRecDepth 100000
namespace Go.Proofs.YtlhhgenpcjjajaaGreatDoor
open Go.RowKit Tryz
def nW:=@Nat.le_of_eq
def SQ:=@Nat.add_sub_cancel
def Nv:=@Calls.quiet_of_same
def Nw:=@beq_eq_false_iff_ne
def DD:=@List.drop_eq_getElem_cons
def afM:=@Oper.semAt_some
def yx:=@wpIn_mono
def xB:=@grownBy_putObj'
def xC:=@callsIn_wide
def xD:=@callsIn_of_wp_marks
def rA:=@CallsIn.inRound
def Pp:=@KeepsOthers.setCell
def oY:=@run_takeDeferred
def Bz:=@if_false
def yy:=@if_true
section
variable {E : Env} {L : Loc} {T : TypeId} {W w w' w0 : gx} {bB bD bm g i j n n0 t : Nat} {e ei ej : Ak} {f : Nat->Nat} {k : Nd} {old s : gz} {p q : gz->Bool} {pl : Nat×Nat} {rs : List Ru} {v : gQ} {vs : List gQ}
def Rel.VX {L' : Loc} {σ σ':Ab} (h:Rel E L σ w) (a:KT E.bs [140,142,284] w w') (b:Ge σ.nodes.length L L') (e1:L'.ov=L.ov) (e2:L'.cv=L.cv) (o:L'.wv=L.wv)
  (A:∀i G,σ'.nodes[i]?=some G->lx E.bs L' w' i G) (u:∀i j,L'.gS i=L'.gS j->i=j)
  (z:∀i j g,i < σ'.nodes.length->j < σ'.nodes.length->i≠j->(L'.kv i).ownBlock=some g->(L'.kv j).ownBlock≠some g)
  (y:∀i,i < σ'.nodes.length->σ'.ij i=none->(L'.kv i).ownBlock=none)
  (uq:∀i j e g,σ'.ij i=some e->nM e.name=true->j < σ'.nodes.length->i≠j->(L'.av i).ownBlock=some g->(L'.av j).ownBlock≠some g)
  (l:∀i,i < σ'.nodes.length->σ'.ij i=none->(L'.av i).ownBlock=none)
  (wf:Wf σ') (r:σ'.fresh=true->∀i g,i < σ'.nodes.length->E.tv.ownBlock=some g->(L'.av i).ownBlock≠some g)
  (B:σ'.nodes.length<=σ.nodes.length:=by first|exact gW _|simp[Ab.ig,Ab.oM])
  (H:σ'.gG=σ.gG:=by rfl) (I:σ'.act=σ.act:=by rfl) (U:σ'.head=σ.head:=by rfl) (V:σ'.form=σ.form:=by rfl) (X:σ'.mode=σ.mode:=by rfl) (Y:σ'.kept=σ.kept:=by rfl) (Z:σ'.iT=σ.iT:=by rfl) (s6:σ'.jV=σ.jV:=by rfl) (s7:σ'.gS=σ.gS:=by rfl) (s8:σ'.behind=σ.behind:=by rfl) (sw:σ'.waiting=σ.waiting:=by rfl) (so:σ'.nJ=σ.nJ:=by rfl) (sp:σ'.iY=σ.iY:=by rfl) (J:σ'.qv=σ.qv:=by rfl) (K:σ'.rZ=σ.rZ:=by rfl) (N:σ'.pG=σ.pG:=by rfl) (av:L'.av=L.av:=by rfl):Rel E L' σ' w':=by
 obtain⟨C,R,O⟩:=h.iC;have c:=Ab.mq (σ:=σ) (i:=0) h.wf.xX;exact {h with
  fr:=h.fr.trans (a.fr (by decide))
  env:=by rw[b 0 c];exact h.env
  vM:=by rw[J,K,N];exact h.vM
  tL:=A,inj:=u,BT:=z,GM:=y,uq:=uq,Fk:=l,wf:=wf
  iC:=⟨C,a.at R (by decide),O.ext b h.wf e1 e2 o U V X Y Z s6 s7 s8⟩
  pF:=by rw[H,e1,b.list λx S=>Ab.wC (h.wf.gG x S)];exact a.row h.pF (by decide)
  qu:=by rw[I,e2,b.list h.wf.act];exact a.row h.qu (by decide)
  GP:=by rw[e1,e2];exact h.GP
  x9:=by rw[H];exact h.x9
  Fp:=by rw[I];exact h.Fp
  pC:=by rw[sw,o];exact a.row h.pC (by decide)
  Mg:=by rw[sw];exact h.Mg
  rd:=by rw[so,sp];exact a.at h.rd (by decide)
  tok:=a.row h.tok (by decide)
  bN:=λi d=>by rw[b i (mi d B)];exact h.bN i (mi d B)
  DH:=r
  ab:=λi g d D=>h.ab i g (mi d B) (by rw[av]at D;exact D)
  Mf:=λv F=>⟨o.trans (h.Mf v F).1,sw.trans (h.Mf v F).2⟩}
def Rel.zF {σ:Ab} (h:Rel E L σ w) (b:j < σ.nodes.length) (a:(L.kv j).ownBlock=some g):∃c m,w.heap[g]?=some (.cells c 142 m):=by
 cases he:σ.ij j with
 |none=>rw[h.GM j b he]at a;cases a
 |some e=>exact sR (h.tL j _ (Ab.jr he)).1.row a
def Rel.NR {σ:Ab} (h:Rel E L σ w) (b:j < σ.nodes.length) (a:(L.av j).ownBlock=some g):∃c m,w.heap[g]?=some (.cells c 299 m):=by
 cases he:σ.ij j with
 |none=>rw[h.Fk j b he]at a;cases a
 |some e=>exact sR (h.tL j _ (Ab.jr he)).2.1 a
def Rel.NQ {σ:Ab} (h:Rel E L σ w) (a:j < σ.nodes.length):∃c t,w.heap[L.gS j]?=some (gL c t)/\t≠142/\t≠299:=by
 have⟨c,hc⟩:=(h.tL j σ.nodes[j] (qB a)).typ;refine⟨c,_,hc,?_⟩;cases σ.nodes[j]<;>(simp[Cf.typ])
theorem KP {a : Nat} {c c' : jN} {t b : TypeId} {m d : Nat×Nat} (h:w.heap[a]?=some (.cells c t m)) (l:w.heap[a]?=some (.cells c' b d)):t=b:=by
 grind
theorem Rel.ir {σ:Ab} (h:Rel E L σ w) (J:List Nat) (d:∀j∈J,j < σ.nodes.length) {S : List Nat} (u:∀s∈S,∃j∈J,s=L.gS j\/(L.kv j).ownBlock=some s) (y:Kept S w w') {nd : Cf} (x:σ.nodes[i]?=some nd) (l:i∉J):lx E.bs L w' i nd:=by
 have a:i < σ.nodes.length:=(List.getElem?_eq_some_iff.1 x).1;refine(h.tL i nd x).kept y ?_ ?_ ?_
 .intro o;obtain⟨j,b,e|e⟩:=u _ o
  .exact l (by rw[h.inj i j e];exact b)
  .have⟨c,m,h1⟩:=h.zF (d j b) e;have⟨c',t,h2,h3,_⟩:=h.NQ a
   grind
 .intro g r o;obtain⟨j,b,e|e⟩:=u _ o
  .have⟨c,m,h1⟩:=h.zF a r;have⟨c',t,h2,h3,_⟩:=h.NQ (d j b)
   grind
  .exact h.BT i j g a (d j b) (λz=>l (by grind)) r e
 .intro g r o;have⟨c,m,h1⟩:=h.NR a r;obtain⟨j,b,e|e⟩:=u _ o
  .have⟨c',t,h2,_,h3⟩:=h.NQ (d j b)
   grind
  .have⟨c',m',h2⟩:=h.zF (d j b) e
   grind
def Rel.ktJ {σ:Ab} (h:Rel E L σ w) (J:List Nat) (a:∀j∈J,(σ.ij j).isSome=true) {S : List Nat} (d:∀s∈S,∃j∈J,s=L.gS j\/(L.kv j).ownBlock=some s) (l:Kept S w w'):KT E.bs [140,142,284] w w':=by
 refine .jQ l λs o _=>?_;obtain⟨j,b,e|e⟩:=d s o
 .have⟨e',he⟩:=Option.isSome_iff_exists.1 (a j b);rw[e];exact⟨⟨_,_,_,(h.tL j _ (Ab.jr he)).1.iC,by simp⟩,h.bN j (Ab.iq he)⟩
 .have⟨e',he⟩:=Option.isSome_iff_exists.1 (a j b);have⟨c,m,h1⟩:=h.zF (Ab.iq he) e;exact⟨⟨_,_,_,h1,by simp⟩,((h.tL j _ (Ab.jr he)).1.row.lt _ e).1⟩
def Ab.oc (σ:Ab) (i:Nat) (e:Ak):(σ.ig i e).nodes.length=σ.nodes.length:=by simp[Ab.ig]
theorem Ab.jd {σ:Ab} (a:i < σ.nodes.length):(σ.ig i e).ij i=some e:=by
 grind[Ab.ij,Ab.ig]
theorem Ab.iU {σ:Ab} (a:j≠i):(σ.ig i e).ij j=σ.ij j:=by
 grind[Ab.ij,Ab.ig]
theorem Ab.oF {σ:Ab} {nd : Cf} (h:(σ.ig i e).nodes[j]?=some nd):(j=i/\nd= .el e)\/(j≠i/\σ.nodes[j]?=some nd):=by
 by_cases a:i=j
 .subst a;have b:i < σ.nodes.length:=by have:=(List.getElem?_eq_some_iff.1 h).1;simpa [Ab.ig]using this
  simp[Ab.ig,b]at h
  grind
 .simp[Ab.ig,a]at h
  grind
theorem Ab.qX {σ:Ab} (a:(σ.ij i).isSome=true) (x:jk):(σ.ig i e).hH x=σ.hH x:=by
 cases x with
 |none=>rfl
 |some j=>
  show((σ.ig i e).ij j).isSome=(σ.ij j).isSome
  grind[Ab.ij,Ab.ig]
def Ab.yS {σ:Ab} (a:(σ.ij i).isSome=true) (x:jk):(σ.ig i e).mw x=σ.mw x:=by
 cases x with
 |none=>rfl
 |some j=>exact Ab.qX a (some j)
theorem Ab.lA {σ:Ab} (a:(σ.ij i).isSome=true) (k:Nd):(σ.ig i e).jo k=σ.jo k:=by
 have b:∀j,j≠i->(σ.ig i e).nodes[j]?=σ.nodes[j]?:=λj h=>by grind[Ab.ig]
 have⟨e0,he0⟩:=Option.isSome_iff_exists.1 a;have c:=Ab.jr he0;have d:(σ.ig i e).nodes[i]?=some (.el e):=by simp[Ab.ig,Ab.iq he0]
 cases k with
 |el j=>exact Ab.qX a (some j)
 |tx j=>grind[Ab.jo]
 |cm j=>grind[Ab.jo]
 |dt j=>grind[Ab.jo]
theorem Wf.ig {σ:Ab} (h:Wf σ) (b:(σ.ij i).isSome=true) (u:σ.hH e.jl=true) (r:∀k∈e.kids,σ.jo k=true):Wf (σ.ig i e):=by
 refine⟨λx o=>by rw[Ab.yS b];exact h.gG x o,λx o=>by rw[Ab.qX b];exact h.act x o,by rw[Ab.qX b];exact h.head,by rw[Ab.qX b];exact h.form,?_,?_,?_⟩
 .intro j d c;rw[Ab.qX b]
  by_cases a:j=i
  .subst a;rw[Ab.jd (Ab.mq (σ:=σ) (i:=j) b)]at c;grind
  .rw[Ab.iU a]at c;exact h.jl j d c
 .intro j d c k l;rw[Ab.lA b]
  by_cases a:j=i
  .subst a;rw[Ab.jd (Ab.mq (σ:=σ) (i:=j) b)]at c;grind
  .rw[Ab.iU a]at c;exact h.kids j d c k l
 .have:=Ab.qX (e:=e) b (some 0);exact this.trans h.xX
theorem Rel.adh {σ σ':Ab} (h:Rel E L σ w) (i:Nat) (l:gQ) (F:(σ.ij i).isSome=true) (R:KT E.bs [140,142,284] w w') (J:l.ownBlock=(L.kv i).ownBlock\/∀g,l.ownBlock=some g->w.heap.size<=g)
  (d:σ'.nodes.length=σ.nodes.length) (I:∀j N,σ'.ij j=some N->∃e,σ.ij j=some e/\N.name=e.name) (C:∀j,σ'.ij j=none->σ.ij j=none)
  (K:∀j S,σ'.nodes[j]?=some S->lx E.bs {L with kv:=λx=>if x=i then l else L.kv x} w' j S) (wf:Wf σ')
  (s0:σ'.gG=σ.gG:=by rfl) (s9:σ'.act=σ.act:=by rfl) (s1:σ'.head=σ.head:=by rfl) (s2:σ'.form=σ.form:=by rfl) (s3:σ'.mode=σ.mode:=by rfl) (s4:σ'.kept=σ.kept:=by rfl) (s5:σ'.iT=σ.iT:=by rfl) (s6:σ'.jV=σ.jV:=by rfl) (s7:σ'.gS=σ.gS:=by rfl) (s8:σ'.behind=σ.behind:=by rfl) (sw:σ'.waiting=σ.waiting:=by rfl) (so:σ'.nJ=σ.nJ:=by rfl) (sp:σ'.iY=σ.iY:=by rfl) (sf:σ'.fresh=σ.fresh:=by rfl) (U:σ'.qv=σ.qv:=by rfl) (V:σ'.rZ=σ.rZ:=by rfl) (X:σ'.pG=σ.pG:=by rfl):To E L σ' w w':=by
 have G:=Ab.mq (σ:=σ) (i:=i) F;have O:∀j g,j < σ.nodes.length->j≠i->l.ownBlock=some g->(L.kv j).ownBlock≠some g:=by
  intro j g o y u A;rcases J with e|e
  .rw[e]at u;exact h.BT i j g G o (ye y) u A
  .have⟨c,m,hc⟩:=h.zF o A
   grind
 refine⟨{L with kv:=λx=>if x=i then l else L.kv x},rfl,h.VX (L':={L with kv:=λx=>if x=i then l else L.kv x}) R (λ_ _=>rfl) rfl rfl rfl K h.inj ?_ ?_ ?_ ?_ wf ?_ (nW d) s0 s9 s1 s2 s3 s4 s5 s6 s7 s8 sw so sp U V X,R.fr (by decide)⟩
 .intro a b g D z r u;rw[d]at D z
  by_cases Y:a=i
  .grind
  .simp only[gV Y]at u
   by_cases Z:b=i
   .grind
   .simp only[gV Z];exact h.BT a b g D z r u
 .intro j o H;rw[d]at o;have B:=C j H;have y:j≠i:=by rintro rfl;rw[B]at F;cases F
  simp only[gV y];exact h.GM j o B
 .intro a b e g D a0 z r u;rw[d]at z;have⟨e0,h0,hnm'⟩:=I a e D;exact h.uq a b e0 g h0 (by grind) z r u
 .intro j o H;rw[d]at o;exact h.Fk j o (C j H)
 .rw[d,sf];exact h.DH
def Rel.vB {σ:Ab} (h:Rel E L σ w) (a:σ.ij i=some e):El E.bs w (L.gS i) e.name (L.av i) (iG L.gS e.jl) (L.kv i) (e.kids.map (Nd.map L.gS)):=(h.tL i _ (Ab.jr a)).1
def Rel.wV {σ:Ab} (h:Rel E L σ w) (a:σ.ij i=some e):zn w (L.av i) e.ib:=(h.tL i _ (Ab.jr a)).2.1
def Rel.AC {σ:Ab} (h:Rel E L σ w) (a:σ.ij i=some e):e.ib.length<=4096:=(h.tL i _ (Ab.jr a)).2.2
theorem Rel.Xq {σ:Ab} (h:Rel E L σ w) (a:σ.jo k=true):AN w (Nd.map L.gS k):=by
 cases k with
 |el i=>
  have⟨e,he⟩:=Option.isSome_iff_exists.1 (show(σ.ij i).isSome=true from a);exact⟨_,(h.vB he).iC⟩
 |tx i=>
  simp only[Ab.jo]at a;split at a
  .rename_i s b;exact⟨_,h.tL i _ b⟩
  grind
 |cm i=>
  simp only[Ab.jo]at a;split at a
  .rename_i s b;exact⟨_,h.tL i _ b⟩
  grind
 |dt i=>
  simp only[Ab.jo]at a;split at a
  .rename_i s b;exact⟨_,h.tL i _ b⟩
  grind
theorem ZY (a:∀i j,f i=f j->i=j) (j:Nat) (k:Nd):(Nd.map f k).hH (f j)=k.hH j:=by
 cases k with
 |el i=>
  grind[Nd.hH,Nd.map]
 |tx i=>rfl
 |cm i=>rfl
 |dt i=>rfl
theorem Kc (a:∀i j,f i=f j->i=j) (ks:List Nd) (j:Nat):qH (ks.map (Nd.map f)) (Nd.hH (f j))=qH ks (Nd.hH j):=by
 have:(ks.map (Nd.map f)).findIdx (Nd.hH (f j))=ks.findIdx (Nd.hH j):=by
  rw[List.findIdx_map]
  congr 1
  funext k
  exact ZY a j k
 grind[qH]
def Sh {σ:Ab} (h:Rel E L σ w) (c:σ.ij i=some e):
  Calls prog 99 #[gN (L.gS i)] w λa w'=>a=iw (place (L.gS i) e.kids.length)/\Rel E L σ w'/\Kept [] w w':=by
 refine(aeY E.bs _ _ _ _ _ _ w (h.vB c)).mono ?_;rintro a w' ⟨rfl,b⟩;exact⟨by simp,h.io b,b⟩
def UD {σ:Ab} (h:Rel E L σ w) (d:σ.ij i=some e) (l:e.jl=none):
  Calls prog 321 #[gN (L.gS i)] w λa w'=>a=iw (.tuple #[.agg #[.pointer none,gh 0],.bool false])/\Rel E L σ w'/\Kept [] w w':=by
 have b:=h.vB d;rw[l]at b;refine(ZH E.bs _ _ _ _ _ w b).mono ?_;rintro a w' ⟨rfl,c⟩;exact⟨rfl,h.io c,c⟩
def Si {σ:Ab} (h:Rel E L σ w) {p : Nat} {c : Ak} (o:σ.ij i=some e) (r:e.jl=some p) (a:σ.ij p=some c):
  Calls prog 321 #[gN (L.gS i)] w λd w'=>d=iw (.tuple #[.agg #[gN (L.gS p),gh (qH c.kids (Nd.hH i))],.bool true])/\Rel E L σ w'/\Kept [] w w':=by
 have l:=h.vB o;rw[r]at l;refine(Xh E.bs _ _ _ _ _ _ _ _ _ _ _ w l (h.vB a) ?_).mono ?_
 .intro x u;obtain⟨k,b,rfl⟩:=List.mem_map.1 u;exact h.Xq (h.wf.kids p c a k b)
 rintro d w' ⟨rfl,b⟩;exact⟨by rw[Kc h.inj],h.io b,b⟩
theorem X4 {σ:Ab} (h:Rel E L σ w) (b:σ.ij i=some e) (A:nM e.name=false):
  Calls prog 275 #[gN (L.gS i)] w λd w'=>∃c,Ge σ.nodes.length L c/\d=iw (gN (c.gS σ.nodes.length))/\Rel E c (σ.add (.el {name:=e.name,ib:=e.ib,jl:=none,kids:=[]})) w'/\Fr E.bs w w':=by
 have B:=h.wV b;have H:=h.AC b;refine(IR E.bs _ _ _ _ _ _ w (h.vB b)).mono ?_;rintro d w' ⟨rfl,F,x⟩;have a:=Ab.iq b;refine⟨L.new σ.nodes.length w.heap.size (L.av i) (jc),λj r=>Loc.Bf r,by simp[Loc.new],?_,.gU x⟩;refine h.add (.el {name:=e.name,ib:=e.ib,jl:=none,kids:=[]}) w.heap.size (L.av i) (jc) σ.fresh x (gW _) ?_ rfl (λd G=>by grind) ?_ ?_ (λy=>absurd rfl (y _)) ?_ (λg A=>h.ab i g a A)
 .show El E.bs w' _ _ _ _ _ _/\zn w' _ _/\_;rw[Loc.tY,Loc.BU,Loc.Is];exact⟨F,x.ownsRow B (by simp),H⟩
 .intro j e2 g r o C D
  by_cases u:j=i
  .grind
  .exact h.uq j i e2 g r o a u D C
 .grind
 .intro z;exact⟨z,λg l=>h.DH z i g a l⟩
def map_eraseIdx (f:Nd->Nd):∀(a:List Nd) (n:Nat),(a.eraseIdx n).map f=(a.map f).eraseIdx n
 |[],_=>by simp
 |_::_,0=>by simp
 |k::a,n+1=>by simp[map_eraseIdx f a n]
def ins (ks:List Nd) (n:Nat) (k:Nd):List Nd:=ks.take n++[k]++ks.drop n
def Eg (f:Nat->Nat) (ks:List Nd) (n:Nat) (k:Nd):(ins ks n k).map (Nd.map f)=(ks.map (Nd.map f)).take n++[Nd.map f k]++(ks.map (Nd.map f)).drop n:=by
 simp[ins]
theorem Eh {ks : List Nd} {x : Nd} (h:x∈ins ks n k):x∈ks\/x=k:=by
 rcases List.mem_append.1 h with h|h
 all_goals grind
theorem aa6 {σ:Ab} (h:Rel E L σ w) (r:σ.ij i=some ei) (z:σ.ij j=some ej) (u:j≠i) (hn:n<=ei.kids.length) (hl:ei.kids.length < 1048576):
  Calls prog 175 #[place (L.gS i) n,(Nd.el (L.gS j)).val] w λe w'=>e=pE/\To E L ((σ.ig i {ei with kids:=ins ei.kids n (.el j)}).ig j {ej with jl:=some i}) w w':=by
 have o:=Ab.iq r;have F:=Ab.iq z;have d:(σ.ij i).isSome=true:=by rw[r];rfl
 have B:(σ.ij j).isSome=true:=by rw[z];rfl
 have N:=h.wV r;have V:=h.AC r;have Y:=h.wV z;have lJ:=h.AC z;refine(Um E.bs _ n _ _ _ _ _ _ _ _ _ _ _ w (h.vB r) (h.vB z) (λe=>u (h.inj _ _ e)) (λg U=>h.BT j i g F o u U) (by grind) (by grind) h.bw).mono ?_;rintro e w' ⟨rfl,⟨y,K,O⟩,X,I⟩;have H:∀s∈L.gS j::L.gS i::(L.kv i).ownBlock.toList,∃x∈[j,i],s=L.gS x\/(L.kv x).ownBlock=some s:=by
  intro s C;rcases List.mem_cons.1 C with rfl|C
  .simp
  rcases List.mem_cons.1 C with rfl|C
  .simp
  .grind
 have J:=h.ktJ [j,i] (by grind) H I;have D:((σ.ig i {ei with kids:=ins ei.kids n (.el j)}).ij j).isSome=true:=by rw[Ab.iU u];exact B
 have A:∀x e,x < σ.nodes.length->zn w (L.av x) e->zn w' (L.av x) e:=λx e _ S=>J.row S (by decide);refine⟨rfl,h.adh i y d J O (by simp[Ab.ig]) ?_ ?_ ?_ ?_⟩
 .intro x Z a
  by_cases c:x=j
  .subst c;rw[Ab.jd (by grind[Ab.ig])]at a;grind
  .rw[Ab.iU c]at a
   by_cases b:x=i
   .subst b;rw[Ab.jd o]at a;grind
   .rw[Ab.iU b]at a;grind
 .intro x a
  by_cases c:x=j
  .subst c;rw[Ab.jd (by grind[Ab.ig])]at a;cases a
  .rw[Ab.iU c]at a
   by_cases b:x=i
   .subst b;rw[Ab.jd o]at a;cases a
   .rwa [Ab.iU b]at a
 .intro x nd a;rcases Ab.oF a with⟨rfl,rfl⟩|⟨c,a⟩
  .grind[lx]
  .rcases Ab.oF a with⟨rfl,rfl⟩|⟨b,a⟩
   .show El E.bs w' _ _ _ _ (if x=x then y else L.kv x) _/\_;rw[gJ rfl];refine⟨?_,A x _ o N,V⟩;show El E.bs w' (L.gS x) ei.name (L.av x) (iG L.gS ei.jl) y ((ins ei.kids n (.el j)).map (Nd.map L.gS));rw[Eg];exact K
   .have R:=h.ir [j,i] (by grind) H I a (by grind);have G:x < σ.nodes.length:=(List.getElem?_eq_some_iff.1 a).1;exact R.ext (σ:=σ) (Ge.refl _ _) G rfl (gV b) (h.wfn a)
 .refine(h.wf.ig (e:={ei with kids:=ins ei.kids n (.el j)}) d (h.wf.jl i ei r) ?_).ig D ?_ ?_
  .intro k l;rcases Eh l with l|rfl
   .exact h.wf.kids i ei r k l
   .exact B
  .rw[Ab.qX d];exact d
  .intro k l;rw[Ab.lA d];exact h.wf.kids j ej z k l
theorem Sj {σ:Ab} (h:Rel E L σ w) (c:σ.ij i=some ei) (J:σ.jo k=true) (G:∀j,k≠ .el j) (N:n<=ei.kids.length) (K:ei.kids.length < 1048576):
  Calls prog 175 #[place (L.gS i) n,(Nd.map L.gS k).val] w λe w'=>e=pE/\To E L (σ.ig i {ei with kids:=ins ei.kids n k}) w w':=by
 have o:=Ab.iq c;have l:(σ.ij i).isSome=true:=by rw[c];rfl
 have C:=h.wV c;have H:=h.AC c;refine(aaB E.bs _ n _ _ _ _ _ (Nd.map L.gS k) w (h.vB c) (by grind) (by grind) h.bw (λj e=>by cases k<;>simp[Nd.map]at e;grind)).mono ?_;rintro e w' ⟨rfl,⟨d,B,D⟩,r⟩;have y:∀s∈L.gS i::(L.kv i).ownBlock.toList,∃x∈[i],s=L.gS x\/(L.kv x).ownBlock=some s:=by
  intro s z;rcases List.mem_cons.1 z with rfl|z
  .simp
  .grind
 have A:=h.ktJ [i] (by grind) y r;refine⟨rfl,h.adh i d l A D (by simp[Ab.ig]) ?_ ?_ ?_ ?_⟩
 .intro x I a
  by_cases b:x=i
  .subst b;rw[Ab.jd o]at a;grind
  .rw[Ab.iU b]at a;grind
 .intro x a
  by_cases b:x=i
  .subst b;rw[Ab.jd o]at a;cases a
  .rwa [Ab.iU b]at a
 .intro x O a;rcases Ab.oF a with⟨rfl,rfl⟩|⟨b,a⟩
  .show El E.bs w' _ _ _ _ (if x=x then d else L.kv x) _/\_;rw[gJ rfl];refine⟨?_,A.row C (by decide),H⟩;show El E.bs w' (L.gS x) ei.name (L.av x) (iG L.gS ei.jl) d ((ins ei.kids n k).map (Nd.map L.gS));rw[Eg];exact B
  .have F:=h.ir [i] (by grind) y r a (by grind);have u:x < σ.nodes.length:=(List.getElem?_eq_some_iff.1 a).1;exact F.ext (σ:=σ) (Ge.refl _ _) u rfl (gV b) (h.wfn a)
 .refine h.wf.ig l (h.wf.jl i ei c) ?_;intro x a;rcases Eh a with a|rfl
  .exact h.wf.kids i ei c x a
  omega
def ER {σ:Ab} (h:Rel E L σ w) (b:σ.ij j=some ej) (c:ej.jl=none):
  Calls prog 374 #[gN (L.gS j)] w λe w'=>e=pE/\w'=w:=by
 have a:=h.vB b;rw[c]at a;exact UF E.bs _ _ _ _ _ w a
theorem Ya {σ:Ab} (h:Rel E L σ w) {p : Nat} {b : Ak} (A:σ.ij j=some ej) (B:ej.jl=some p) (r:σ.ij p=some b) (l:j≠p) (hn:n < b.kids.length) (O:qH b.kids (Nd.hH j)=(n:Int)):
  Calls prog 374 #[gN (L.gS j)] w λe w'=>e=pE/\To E L ((σ.ig p {b with kids:=b.kids.eraseIdx n}).ig j {ej with jl:=none}) w w':=by
 have y:=Ab.iq r;have H:=Ab.iq A;have z:(σ.ij p).isSome=true:=by rw[r];rfl
 have G:(σ.ij j).isSome=true:=by rw[A];rfl
 have K:=h.vB A;rw[B]at K;have V:=h.wV r;have lP:=h.AC r;have U:=h.wV A;have lJ:=h.AC A;refine(Hh E.bs _ _ n _ _ _ _ _ _ _ _ _ w K (h.vB r) ?_ (λe=>l (h.inj _ _ e)) (λg Z=>h.BT j p g H y l Z) (by grind) (by rw[Kc h.inj];omega)).mono ?_
 .intro x a;obtain⟨k,C,rfl⟩:=List.mem_map.1 a;exact h.Xq (h.wf.kids p b r k C)
 rintro e w' ⟨rfl,⟨o,R,X⟩,S,C⟩;have N:∀s∈L.gS j::L.gS p::(L.kv p).ownBlock.toList,∃x∈[j,p],s=L.gS x\/(L.kv x).ownBlock=some s:=by
  intro s D;rcases List.mem_cons.1 D with rfl|D
  .simp
  rcases List.mem_cons.1 D with rfl|D
  .simp
  .grind
 have J:=h.ktJ [j,p] (by grind) N C;have F:((σ.ig p {b with kids:=b.kids.eraseIdx n}).ij j).isSome=true:=by rw[Ab.iU l];exact G
 refine⟨rfl,h.adh p o z J (.inl X) (by simp[Ab.ig]) ?_ ?_ ?_ ?_⟩
 .intro x e' a
  by_cases d:x=j
  .subst d;rw[Ab.jd (by grind[Ab.ig])]at a;grind
  .rw[Ab.iU d]at a
   by_cases c:x=p
   .subst c;rw[Ab.jd y]at a;grind
   .rw[Ab.iU c]at a;grind
 .intro x a
  by_cases d:x=j
  .subst d;rw[Ab.jd (by grind[Ab.ig])]at a;cases a
  .rw[Ab.iU d]at a
   by_cases c:x=p
   .subst c;rw[Ab.jd y]at a;cases a
   .rwa [Ab.iU c]at a
 .intro x nd a;rcases Ab.oF a with⟨rfl,rfl⟩|⟨d,a⟩
  .show El E.bs w' _ _ _ _ (if x=p then o else L.kv x) _/\_;rw[gV l];exact⟨S,J.row U (by decide),lJ⟩
  .rcases Ab.oF a with⟨rfl,rfl⟩|⟨c,a⟩
   .show El E.bs w' _ _ _ _ (if x=x then o else L.kv x) _/\_;rw[gJ rfl];refine⟨?_,J.row V (by decide),lP⟩;show El E.bs w' (L.gS x) b.name (L.av x) (iG L.gS b.jl) o ((b.kids.eraseIdx n).map (Nd.map L.gS));rw[map_eraseIdx];exact R
   .have Y:=h.ir [j,p] (by grind) N C a (by grind);have I:x < σ.nodes.length:=(List.getElem?_eq_some_iff.1 a).1;exact Y.ext (σ:=σ) (Ge.refl _ _) I rfl (gV c) (h.wfn a)
 .refine(h.wf.ig (e:={b with kids:=b.kids.eraseIdx n}) z (h.wf.jl p b r) ?_).ig F rfl ?_
  .intro k u;exact h.wf.kids p b r k (List.mem_of_mem_eraseIdx u)
  .intro k u;rw[Ab.lA z];exact h.wf.kids j ej A k u
theorem Rel.GO {σ:Ab} (h:Rel E L σ w) (a:gz):Rel E (L.new σ.nodes.length w.heap.size (jc) (jc)) (σ.add (.el {name:=a,ib:=[],jl:=none,kids:=[]})) (w.alloc (gL #[gH a,jc,.pointer none,jc] 140)):=by
 have d:Kept [] w (w.alloc (gL #[gH a,jc,.pointer none,jc] 140)):=(Kept.refl _ _).alloc _;refine h.add (.el {name:=a,ib:=[],jl:=none,kids:=[]}) w.heap.size (jc) (jc) σ.fresh d (gW _) ?_ rfl (λe l=>by grind) (λ_ _ _ _ _ b=>by cases b) (λ_ _ _ _ _ _ b=>by cases b) (λ_=>rfl) (λc=>⟨c,λ_ _=>by simp[Value.ownBlock]⟩) (λ_ b=>by cases b);show El E.bs _ _ _ _ _ _ _/\zn _ _ _/\_;rw[Loc.tY,Loc.BU,Loc.Is];exact⟨⟨fX w _,od _ _ _ _,by simp,⟨_,_,_,rfl⟩⟩,od _ _ _ _,by simp⟩
theorem Rel.qh {σ:Ab} (h:Rel E L σ w) (b:σ.fresh=true) (a:gz):Rel E (L.new σ.nodes.length w.heap.size E.tv (jc)) (σ.pN (.el {name:=a,ib:=E.ta,jl:=none,kids:=[]}) false) (w.alloc (gL #[gH a,E.tv,.pointer none,jc] 140)):=by
 have l:Kept [] w (w.alloc (gL #[gH a,E.tv,.pointer none,jc] 140)):=(Kept.refl _ _).alloc _;refine h.add (.el {name:=a,ib:=E.ta,jl:=none,kids:=[]}) w.heap.size E.tv (jc) false l (gW _) ?_ rfl (λe u=>by grind) (λi e g o _ c=>h.DH b i g (Ab.iq o) c) (λe g j _ _ r c=>h.DH b j g r c) (λd=>absurd rfl (d _)) (λb=>by cases b) h.tb;show El E.bs _ _ _ _ _ _ _/\zn _ _ _/\_;rw[Loc.tY,Loc.BU,Loc.Is];have⟨ao,cap,hv⟩:=gF h.tok;exact⟨⟨fX w _,od _ _ _ _,by simp,⟨_,_,_,hv⟩⟩,l.ownsRow h.tok (by simp),h.Md⟩
def Rel.agr {σ:Ab} (h:Rel E L σ w) (nd:Cf) (s:gz) (b:nd= .tx s\/nd= .cm s\/nd= .dt s):Rel E (L.new σ.nodes.length w.heap.size (jc) (jc)) (σ.add nd) (w.alloc (gL #[gH s] nd.typ)):=by
 have o:Kept [] w (w.alloc (gL #[gH s] nd.typ)):=(Kept.refl _ _).alloc _;have c:∀e,nd≠ .el e:=by rintro e rfl;rcases b with h|h|h<;>cases h
 refine h.add nd w.heap.size (jc) (jc) σ.fresh o (gW _) ?_ rfl (λe d=>absurd d (c e)) (λ_ _ _ _ _ a=>by cases a) (λ_ _ _ _ _ _ a=>by cases a) (λ_=>rfl) (λl=>⟨l,λ_ _=>by simp[Value.ownBlock]⟩) (λ_ a=>by cases a);rcases b with rfl|rfl|rfl
 .show _=_;rw[Loc.tY];exact fX w _
 .show _=_;rw[Loc.tY];exact fX w _
 .show _=_;rw[Loc.tY];exact fX w _
def Too (E:Env) (L:Loc) (n:Nat) (σ':Ab) (w w':gx):Prop:=∃a,Ge n L a/\Rel E a σ' w'/\Fr E.bs w w'
def Ab.oM (σ:Ab) (t:Nat) (s:gz):Ab:={σ with nodes:=σ.nodes.set t (.tx s)}
theorem Ab.ue {σ:Ab} (a:σ.nodes[t]?=some (.tx old)) (i:Nat):(σ.oM t s).ij i=σ.ij i:=by
 grind[Ab.ij,Ab.oM]
def Ab.uY {σ:Ab} (a:σ.nodes[t]?=some (.tx old)) (x:jk):(σ.oM t s).hH x=σ.hH x:=by
 cases x with
 |none=>rfl
 |some i=>show((σ.oM t s).ij i).isSome=(σ.ij i).isSome;rw[Ab.ue a]
def Ab.RZ {σ:Ab} (a:σ.nodes[t]?=some (.tx old)) (x:jk):(σ.oM t s).mw x=σ.mw x:=by
 cases x with
 |none=>rfl
 |some i=>exact Ab.uY a (some i)
theorem Ab.Hc {σ:Ab} (a:σ.nodes[t]?=some (.tx old)) (k:Nd):(σ.oM t s).jo k=σ.jo k:=by
 have b:=(List.getElem?_eq_some_iff.1 a).1;have h:(σ.oM t s).nodes[t]?=some (.tx s):=by simp[Ab.oM,b]
 have d:∀j,j≠t->(σ.oM t s).nodes[j]?=σ.nodes[j]?:=λj c=>by grind[Ab.oM]
 cases k with
 |el j=>exact Ab.uY a (some j)
 |tx j=>grind[Ab.jo]
 |cm j=>grind[Ab.jo]
 |dt j=>grind[Ab.jo]
theorem Ie {σ:Ab} (h:Rel E L σ w) {m : Nat} (y:σ.ij i=some ei) (U:m < ei.kids.length) (u:ei.kids[m]= .tx t) (o:σ.nodes[t]?=some (.tx old)) (I:old.size+s.size<=1048576):
  Calls prog 182 #[place (L.gS i) (m+1),gH s] w λe w'=>e=pE/\To E L (σ.oM t (old++s)) w w':=by
 refine(LW E.bs _ m (L.gS t) _ old s _ _ _ _ w (h.vB y) (by grind) (by simp[u,Nd.map]) (h.tL t _ o) I).mono ?_;rintro e w' ⟨rfl,R,C⟩;have J:=(List.getElem?_eq_some_iff.1 o).1;have D:=h.tL t _ o;have N:KT E.bs [140,142,284] w w':= .jQ C (λx u _=>by simp at u;subst u;exact⟨⟨_,_,_,D,by simp⟩,h.bN t (List.getElem?_eq_some_iff.1 o).1⟩);refine⟨rfl,L,rfl,h.VX (σ':=σ.oM t (old++s)) N (λ_ _=>rfl) rfl rfl rfl ?_ h.inj ?_ ?_ ?_ ?_ ?_ ?_,N.fr (by decide)⟩
 .intro x O d
  by_cases z:t=x
  .subst z;simp[Ab.oM,J]at d;rw[<-d];exact R
  .have B:σ.nodes[x]?=some O:=by simpa [Ab.oM,z]using d
   have l:=(List.getElem?_eq_some_iff.1 B).1;refine(h.tL x O B).kept C ?_ ?_ ?_
   .simp;exact λe=>z (h.inj _ _ e.symm)
   .intro g A r;simp at r;have⟨c,m',h1⟩:=h.zF l A;rw[r]at h1;exact absurd (KP D h1) (by decide)
   .intro g A r;simp at r;have⟨c,m',h1⟩:=h.NR l A;rw[r]at h1;exact absurd (KP D h1) (by decide)
 .simpa [Ab.oM]using h.BT
 .intro x l d;rw[Ab.ue o]at d;exact h.GM x (by simpa [Ab.oM]using l) d
 .intro a b e g K H G F A;rw[Ab.ue o]at K;exact h.uq a b e g K H (by simpa [Ab.oM]using G) F A
 .intro x l d;rw[Ab.ue o]at d;exact h.Fk x (by simpa [Ab.oM]using l) d
 .refine⟨λx u=>by rw[Ab.RZ o];exact h.wf.gG x u,λx u=>by rw[Ab.uY o];exact h.wf.act x u,by rw[Ab.uY o];exact h.wf.head,by rw[Ab.uY o];exact h.wf.form,λi e y=>by rw[Ab.ue o]at y;rw[Ab.uY o];exact h.wf.jl i e y,λi e y k C=>by rw[Ab.ue o]at y;rw[Ab.Hc o];exact h.wf.kids i e y k C,by rw[Ab.ue o];exact h.wf.xX⟩
 .intro S x g l;exact h.DH S x g (by simpa [Ab.oM]using l)
theorem KG {σ:Ab} (h:Rel E L σ w) (d:σ.ij i=some ei) (F:n<=ei.kids.length) (C:ei.kids.length < 1048576) (I:∀m,(x:m < ei.kids.length)->n=m+1->∀t,ei.kids[m]≠ .tx t):
  Calls prog 182 #[place (L.gS i) n,gH s] w λe w'=>e=pE/\Too E L σ.nodes.length ((σ.add (.tx s)).ig i {ei with kids:=ins ei.kids n (.tx σ.nodes.length)}) w w':=by
 have b:=Ab.iq d;refine OQ E.bs _ n _ s _ _ _ _ w (h.vB d) (by grind) _ ?_ ?_
 .intro H u;have z:=(h.io u).agr (.tx s) s (.inl rfl);have r:Ge σ.nodes.length L (L.new σ.nodes.length H.heap.size (jc) (jc)):=λj o=>Loc.Bf o;have l:(σ.add (.tx s)).ij i=some ei:=by rw[Ab.vT b];exact d
  have c:(σ.add (.tx s)).jo (.tx σ.nodes.length)=true:=by simp[Ab.jo,Ab.add]
  have:=Sj z (n:=n) (k:= .tx σ.nodes.length) l c (λj e=>by cases e) F C;rw[r i b]at this;simp only[Nd.map,Loc.tY]at this;refine this.mono ?_;rintro e w' ⟨rfl,y,e2,A,B⟩;exact⟨rfl,y,λj o=>by rw[e2];exact r j o,A,(Fr.gU (u.alloc _)).trans B⟩
 .intro m x G t a;have D:m < ei.kids.length:=by simpa using x
  rw[List.getElem_map]at a;cases hq:ei.kids[m]with
  |tx t'=>grind
  |el _=>rw[hq]at a;cases a
  |cm _=>rw[hq]at a;cases a
  |dt _=>rw[hq]at a;cases a
inductive TK
 |jM (s:gz)
 |start (name:gz)
 |stop (name:gz)
 |gR (s:gz)
 |iy (name:gz) (q:Bool)
 |lost
 |iR
structure gO where
 a:Nat
 b:Nat
 k:TK
 ib:lZ:=[]
def gO.name (t:gO):gz:=match t.k with
 | .start n=>n
 | .stop n=>n
 |_=>⟨#[]⟩
def gO.jx (t:gO):lZ:=match t.k with
 | .start _=>t.ib
 | .stop _=>t.ib
 |_=>[]
def gO.chars (t:gO):gz:=match t.k with
 | .jM s=>s
 |_=>⟨#[]⟩
def tU (s:gz):Bool:=la s ⟨#[0]⟩
def lM (s:gz):Bool:=im [⟨#[32]⟩,⟨#[9]⟩,Cz,⟨#[12]⟩] s
namespace Ab
def nm (σ:Ab) (i:Nat):gz:=match σ.ij i with
 |some e=>e.name
 |none=>⟨#[]⟩
def rM (σ:Ab):jk->gz
 |some i=>σ.nm i
 |none=>⟨#[]⟩
def last (σ:Ab):jk:=iE σ.gG ((σ.gG.length:Int) - 1)
def current (σ:Ab) (p:gz->Bool):Bool:=match σ.last with
 |none=>false
 |some i=>p (σ.nm i)
def pop (σ:Ab):Ab:={σ with gG:=σ.gG.dropLast}
def J8 (σ:Ab) (p:gz->Bool):Ab:=if σ.current p then σ.pop else σ
def Bt (σ:Ab) (p:gz->Bool):kV->kV
 |[]=>[]
 |x::r=>if p (σ.rM x)then r else Bt σ p r
def F2 (σ:Ab) (p:gz->Bool):Ab:={σ with gG:=(Bt σ p σ.gG.reverse).reverse}
def qz (σ:Ab) (p:gz->Bool):kV->kV
 |[]=>[]
 |x::r=>if p (σ.rM x)then qz σ p r else x::r
def xU (σ:Ab) (p:gz->Bool):Ab:={σ with gG:=(qz σ (λs=>!(p s||im [fY] s)) σ.gG.reverse).reverse}
def nh (σ:Ab):Ab:={σ with gG:=(qz σ vG σ.gG.reverse).reverse}
def yv (σ:Ab) (p b:gz->Bool):kV->Bool
 |[]=>false
 |x::r=>if p (σ.rM x)then true else if b (σ.rM x)then false else yv σ p b r
def inScope (σ:Ab) (p b:gz->Bool):Bool:=yv σ p b σ.gG.reverse
def oD (σ:Ab) (a:Nat):kV->Bool
 |[]=>false
 |x::r=>if x=some a then true else if iS (σ.rM x)then false else oD σ a r
def pq (σ:Ab) (a:Nat):Bool:=oD σ a σ.gG.reverse
def close (σ:Ab) (p b:gz->Bool):Ab:=if σ.inScope p b then σ.F2 p else σ
end Ab
def DO:gz->Bool:=λs=>iS s||im [ic] s
def aeb:gz->Bool:=λs=>iS s||im [oZ] s
def Bn:gz->Bool:=im [fY,fZ]
def Bo:gz->Bool:=im [fZ,gq,gr,gv,il]
def agb (x:jk):M Nat:=λσ=>match x with
 |some i=>if (σ.ij i).isSome then .ok i σ else .stuck
 |none=> .stuck
def jC (i:Nat):M (Nat×Nat):=λσ=>match σ.ij i with
 |some e=> .ok (i,e.kids.length) σ
 |none=> .stuck
def sP (σ:Ab):kV->Option (jk)
 |[]=>none
 |x::r=>if !la (σ.rM x) fZ||x=iE σ.gG 0 then sP σ r else some x
def qI.isOk {α:Type}:qI α->Bool
 | .ok _ _=>true
 |_=>false
def ng (i:Nat):M (Nat×Nat):=λσ=>match σ.ij i with
 |some e=>match e.jl with
  |some p=>match σ.ij p with
   |some ep=>if 0<=qH ep.kids (Nd.hH i)then .ok (p,(qH ep.kids (Nd.hH i)).toNat) σ else .stuck
   |none=> .stuck
  |none=>match iE σ.gG (posOf σ.gG (some i) - 1)with
   |some q=>jC q σ
   |none=> .stuck
 |none=> .stuck
def Ab.Bq (σ:Ab):Bool:=σ.gG.all λx=>match x with
 |some i=>!la (σ.nm i) fZ||decide (some i=iE σ.gG 0)||(ng i σ).isOk
 |none=>false
def ku:M (Nat×Nat):=λσ=>if σ.Bq then (match sP σ σ.gG.reverse with
 |some (some i)=>ng i σ
 |some none=> .stuck
 |none=>match iE σ.gG 0 with
  |some q=>jC q σ
  |none=> .stuck)else .stuck
theorem pQ {σ σ1:Ab} (h:jC i σ= .ok pl σ1):σ1=σ:=by
 unfold jC at h
 grind
theorem Ci {σ σ1:Ab} (h:ng i σ= .ok pl σ1):σ1=σ:=by
 unfold ng at h;split at h
 .split at h
  .grind
  .split at h
   .exact pQ h
   grind
 grind
theorem pk {σ σ1:Ab} (h:ku σ= .ok pl σ1):σ1=σ:=by
 unfold ku at h;split at h
 .split at h
  .exact Ci h
  .cases h
  .split at h
   .exact pQ h
   grind
 grind
def placeFor (i:Nat):M (Nat×Nat):=λσ=>if σ.iT&&Bo (σ.nm i)then ku σ else jC i σ
def mh:M (Nat×Nat):=λσ=>match σ.last with
 |some i=>placeFor i σ
 |none=> .stuck
def nT (pl:Nat×Nat) (j:Nat):M Unit:=λσ=>match σ.ij pl.1,σ.ij j with
 |some ei,some ej=>if j≠pl.1/\pl.2<=ei.kids.length/\ei.kids.length < 1048576 then .ok () ((σ.ig pl.1 {ei with kids:=ins ei.kids pl.2 (.el j)}).ig j {ej with jl:=some pl.1})else .stuck
 |_,_=> .stuck
def Aw (pl:Nat×Nat) (k:Nd):M Unit:=λσ=>match σ.ij pl.1 with
 |some ei=>if σ.jo k=true/\pl.2<=ei.kids.length/\ei.kids.length < 1048576 then .ok () (σ.ig pl.1 {ei with kids:=ins ei.kids pl.2 k})else .stuck
 |none=> .stuck
def vH (pl:Nat×Nat) (s:gz):M Unit:=λσ=>match σ.ij pl.1 with
 |some ei=>if pl.2<=ei.kids.length/\ei.kids.length < 1048576 then
   match (if pl.2=0 then none else ei.kids[pl.2 - 1]?)with
   |some (.tx t)=>match σ.nodes[t]? with
    |some (.tx old)=>if old.size+s.size<=1048576 then .ok () (σ.oM t (old++s))else .stuck
    |_=> .stuck
   |_=> .ok () ((σ.add (.tx s)).ig pl.1 {ei with kids:=ins ei.kids pl.2 (.tx σ.nodes.length)})
  else .stuck
 |none=> .stuck
def ya (x:jk):M Unit:=λσ=>if σ.qv<=σ.gG.length then .stop 5 σ.gS else if σ.mw x then .ok () {σ with gG:=σ.gG++[x]} else .stuck
def mn (j:Nat):M Unit:=do
 let pl <-mh
 nT pl j
 ya (some j)
 return ()
def GO (a:gz):M Nat:=λσ=> .ok σ.nodes.length (σ.add (.el {name:=a,ib:=[],jl:=none,kids:=[]}))
def gO.pI (t:gO):Bool:=match t.k with
 | .start _=>true
 | .stop _=>true
 |_=>false
def qh (t:gO):M Nat:=λσ=>if σ.fresh&&t.pI then .ok σ.nodes.length (σ.pN (.el {name:=t.name,ib:=t.jx,jl:=none,kids:=[]}) false)else .stuck
def ky (a:gz):M Unit:=do
 let j <-GO a
 mn j
 return ()
def jv (t:gO):M Unit:=do
 let j <-qh t
 mn j
 return ()
def yW:M (jk):=λσ=> .ok σ.last σ.pop
def lL (t:gO):M Unit:=do
 jv t
 let _ <-yW
 return ()
def kC (t:gO):M Unit:=do
 let pl <-mh
 vH pl t.chars
 return ()
def Rel.drewN {σ:Ab} (h:Rel E L σ w) (q:Nat):Rel E L σ (w.drewN q):=h.io ((Kept.refl _ _).drewN q)
def Fr.drewN {bs : Nat} (w:gx) (q:Nat):Fr bs w (w.drewN q):= .gU ((Kept.refl _ _).drewN q)
def kG (w:gx) (k c p:Nat):Prop:=w.heap[k]?=some (gL #[gh c,gh p] 83)
abbrev rq (k:Nat):Ending:= .panicked [{v:= .iface 78 (gN k),recovered:=false}]
abbrev Bp (E:Env):gQ:=gN E.bB
def Pa {σ:Ab} (h:Rel E L σ w) (c:Nat):
  Calls prog 270 #[Bp E,gh c] w λe w'=>∃k,e=rq k/\kG w' k c σ.gS/\Fr E.bs w w':=by
 have l:=h.Te;have d:=h.lt;have b:=Fr.gU (bs:=E.bs) ((Kept.refl [] w).alloc (gL #[gh c,gh σ.gS] 83));have a:=fX w (gL #[gh c,gh σ.gS] 83);go_enter func270,ntmps270;go_wp2;exact⟨rfl,_,rfl,a,b⟩
def Rel.Xw {σ:Ab} (h:Rel E L σ w):Bb ⟨E.bB,188,none⟩ w=σ.gG.length:=by
 have⟨C,hL,_⟩:=h.zI;rw[hL.Bb,Cy]
def wM (xs:kV) (y:jk):iE (xs++[y]) (((xs++[y]).length:Int) - 1)=y:=Jt xs y
def Z9:iE ([]:kV) ((([]:kV).length:Int) - 1)=none:=rfl
theorem xw (xs:kV):xs=[]\/∃a y,xs=a++[y]:=by
 rcases V5 xs with h|⟨b,y,h⟩
 all_goals grind
theorem Rel.oH {σ:Ab} (h:Rel E L σ w) {x : jk} (a:x∈σ.gG):∃i e,x=some i/\σ.ij i=some e:=by
 have:=h.wf.gG x a;cases x with
 |none=>cases this
 |some i=>
  have⟨e,he⟩:=Option.isSome_iff_exists.1 (show(σ.ij i).isSome=true from this)
  grind
def Rel.vW {σ:Ab} (h:Rel E L σ w) (a:σ.ij i=some e):w.cell? ⟨L.gS i,0,none⟩=some (gH (σ.nm i)):=by
 have:σ.nm i=e.name:=by unfold Ab.nm;rw[a]
 rw[this,fW (h.vB a).iC];rfl
def Ask.fr' {bs : Nat} (h:Ask bm v p w) (a:Fr bs w w'):Ask bm v p w':=h.fr (a.n bm)
def zv {σ:Ab} (h:Rel E L σ w) (v:gQ) (p:gz->Bool) (o:Ask E.bm v p w):
  Calls prog 220 #[Bp E,v] w λe w'=>e=iw (.bool (σ.current p))/\w'=w:=by
 obtain⟨k,D,rfl,C,u⟩:=o.call;have b:=T7 h;rcases xw σ.gG with c|⟨F,y,c⟩
 .have a:σ.current p=false:=by unfold Ab.current Ab.last;rw[c];rfl
  rw[a];rw[c,Z9]at b;have d:=fV b;clear b;go_enter func220,ntmps220
  go_wp21
  refine d.mono ?_;rintro e w' ⟨rfl,rfl⟩;go_wp2;go_ret;simp
 .obtain⟨i,B,rfl,z⟩:=h.oH (x:=y) (by rw[c];simp);have a:σ.current p=p (σ.nm i):=by unfold Ab.current Ab.last;rw[c,wM]
  rw[a];rw[c,wM]at b;have A:=h.vW z;have d:=fV (show Calls prog 179 #[jO E.bB 188] w (λe w'=>e=iw (gN (L.gS i))/\w'=w)from b);have l:=u w (wU.refl _ _) (σ.nm i);generalize p (σ.nm i)=r at l|-;clear b;go_enter func220,ntmps220
  go_wp21
  refine d.mono ?_;rintro e w' ⟨rfl,rfl⟩
  go_wp21
  refine l.mono ?_;rintro e w' ⟨rfl,rfl⟩;go_wp2;go_ret;simp
def aav {σ:Ab} (h:Rel E L σ w) (v:gQ) (p:gz->Bool) (c:Ask E.bm v p w):
  Calls prog 241 #[Bp E,v] w λe w'=>e=pE/\To E L (σ.J8 p) w w':=by
 have a:=zv h v p c;have d:=Rk h;have l:=h.to (Fr.refl w);obtain⟨k,o,rfl,_,_⟩:=c.call;unfold Ab.J8;cases hcur:σ.current p with
 |false=>
  rw[hcur]at a;go_enter func241,ntmps241
  go_wp21
  refine a.mono ?_;rintro e w' ⟨rfl,rfl⟩;go_wp2;go_end0;exact⟨rfl,l⟩
 |true=>
  rw[hcur]at a;go_enter func241,ntmps241
  go_wp21
  refine a.mono ?_;rintro e w' ⟨rfl,rfl⟩
  go_wp21
  refine d.mono ?_;rintro e w' ⟨rfl,b⟩;go_wp2;go_end0;exact⟨rfl,b⟩
structure NC (E:Env) (L:Loc) (σ:Ab) (w:gx) (ys:kV) (wr:gx):Prop where
 ex:∃L1,L1.gS=L.gS/\Rel E L1 {σ with gG:=ys} wr/\Fr E.bs w wr
def adK {σ:Ab} (h:Rel E L σ w) (v:gQ) (p:gz->Bool) (Y:Ask E.bm v p w):
  Calls prog 293 #[Bp E,v] w λe w'=>e=pE/\To E L (σ.F2 p) w w':=by
 obtain⟨k,lb,rfl,he,S⟩:=Y.call;have R:Hid (NC E L σ w σ.gG w):=fV ⟨L,rfl,h,Fr.refl w⟩;go_enter func293,ntmps293;go_wp2
 go_loopw [] (λwr=>∃z,σ.Bt p z.reverse=σ.Bt p σ.gG.reverse/\NC E L σ w z wr) (λwr=>Bb ⟨E.bB,188,none⟩ wr)
 case atStart=>exact⟨_,rfl,R⟩
 case round=>
  have⟨z,hu,⟨L1,e1,hR,HFR⟩⟩:=hrel;have J:=fV e1;clear e1;have D:=fV hR.Xw;have l:=aap hR;have A:=Rk hR;rcases xw z with rfl|⟨a,y,rfl⟩
  .have C:Hid (To E L (σ.F2 p) w wr):=by
    refine⟨L1,J,?_,HFR⟩;have:(σ.Bt p σ.gG.reverse).reverse=[]:=by rw[<-hu];rfl
    unfold Ab.F2;rw[this];exact hR
   clear hR hu
   go_wp21
   refine l.mono ?_;rintro e w' ⟨rfl,rfl⟩;go_wp2;go_end0;exact⟨rfl,C⟩
  .obtain⟨i,X,rfl,G⟩:=hR.oH (x:=y) (by simp);have I:σ.Bt p ((a++[some i]).reverse)=if p (σ.nm i)then a.reverse else σ.Bt p a.reverse:=by rw[Ns];rfl
   rw[I]at hu;have N:0 < (a++[some i]).length:=by simp
   dsimp only at l A;rw[wM]at A;have B:=(show Calls prog 184 #[jO E.bB 188] wr (λe w'=>e=iw (gN (L1.gS i))/\To E L1 {σ with gG:=(a++[some i]).dropLast} wr w')from A);have r:=fV hu;have d:(0:Int) < ((a++[some i]).length:Int):=by omega
   obtain⟨m,O⟩:∃m,m=(a++[some i]).length:=⟨_,rfl⟩;have U:=fV (show m=a.length+1 by rw[O];simp);dsimp only at D;rw[<-O]at l d D;clear hR hu
   go_wp21
   refine l.mono ?_;rintro e w' ⟨rfl,rfl⟩
   go_wp21
   refine B.mono ?_;rintro e u ⟨rfl,V,e2,b,c⟩;rw[Wb]at b;have H:Ab.ij {σ with gG:=a} i=some X:=G;have Z:u.cell? ⟨L1.gS i,0,none⟩=some (gH (σ.nm i)):=by rw[<-e2];exact b.vW H
   have o:=S u ((HFR.trans c).n _) (σ.nm i);have F:=fV b.Xw;have K:Hid (NC E L σ w a u):=⟨V,e2.trans J,b,HFR.trans c⟩;clear b;cases hq:p (σ.nm i)with
   |true=>
    rw[hq]at o r;have C:Hid (To E L (σ.F2 p) w u):=by
     have⟨L3,e3,hR3,hf3⟩:=K.ex;refine⟨L3,e3,?_,hf3⟩;have:(σ.Bt p σ.gG.reverse).reverse=a:=by rw[<-r.out,gJ rfl,List.reverse_reverse]
     unfold Ab.F2;rw[this];exact hR3
    go_wp21
    refine o.mono ?_;rintro e w' ⟨rfl,rfl⟩;go_wp2
    (try simp only[Exit.inBlock,Exit.then])
    refine oR (Hl rfl _ _ _) rfl ?_;exact⟨rfl,C⟩
   |false=>
    rw[hq]at o r
    go_wp21
    refine o.mono ?_;rintro e w' ⟨rfl,rfl⟩;go_wp2;go_roundw
    case rel=>exact⟨a,by rw[<-r.out];rfl,K⟩
    case measure=>rw[F.out,D.out,U.out];simp
def Z0 (bm:Nat) (b:List gz) (w:gx) (c:b.length<=4096):
  Calls prog 225 #[oe w.heap.size b.length b.length] (w.alloc (gL (b.map Value.string).toArray 9)) λe w'=>∃f a l,e=iw (.func f a l)/\Ask bm (.func f a l) (im b) w'/\Kept [] w w':=by
 refine(Ov bm w.heap.size b.length b _ (fX w _) c).mono ?_;rintro e w' ⟨⟨v,rfl,d⟩,h⟩;obtain⟨k,o,rfl,_,_⟩:=d.call;exact⟨_,_,_,rfl,d,(((Kept.refl [] w).alloc _).trans h)⟩
theorem aem (bm:Nat) (v1 v2:gQ) (p q:gz->Bool) (w:gx) (c:Ask bm v1 p w) (d:Ask bm v2 q w):
  Calls prog 245 #[v1,v2] w λe w'=>∃f a l,e=iw (.func f a l)/\Ask bm (.func f a l) (λs=>p s||q s) w'/\Kept [] w w':=by
 refine(afv bm v1 v2 p q w c d).mono ?_;rintro e w' ⟨⟨v,rfl,b⟩,h⟩;obtain⟨k,o,rfl,_,_⟩:=b.call
 grind
def Ask.k0 (h:Ask bm v p w) (a:Kept [] w w'):Ask bm v p w':=h.fr (.gU a)
def Tg {σ:Ab} (h:Rel E L σ w) (f:Fn) (a l:jN) (p:gz->Bool) (ha:Ask E.bm (.func f a l) p w):
  Calls prog 222 #[Bp E,.func f a l] w λe w'=>e=pE/\To E L (σ.xU p) w w':=by
 have H:=h;have HA:=ha;have CI:=Z0 E.bm [fY] w (by decide);go_enter func222,ntmps222
 go_wp21
 refine CI.mono ?_;rintro e w1 ⟨f1,a1,l1,rfl,V,A⟩;have CO:=aem E.bm _ _ _ _ w1 (HA.k0 A) V
 go_wp21
 refine CO.mono ?_;rintro e w2 ⟨f2,a2,l2,rfl,z,X⟩;have B:=A.trans X;have H2:=H.io B;obtain⟨q,hq⟩:∃q,q=(λs=>p s||im [fY] s):=⟨_,rfl⟩;rw[<-hq]at z;have C:Hid (∀wr,(∃r,r.gS=L.gS/\Rel E r {σ with gG:=(σ.qz (λs=>!q s) σ.gG.reverse).reverse} wr/\Fr E.bs w wr)->To E L (σ.xU p) w wr):=by
  rintro wr ⟨r,e1,b,F⟩;refine⟨r,e1,?_,F⟩;unfold Ab.xU
  rwa [hq]at b
 have H0:Hid (NC E L σ w σ.gG w2):=fV ⟨L,rfl,H2,.gU B⟩;go_wp2
 go_loopw [] (λwr=>∃J,σ.qz (λs=>!q s) J.reverse=σ.qz (λs=>!q s) σ.gG.reverse/\Fr E.bs w2 wr/\NC E L σ w J wr) (λwr=>Bb ⟨E.bB,188,none⟩ wr)
 case atStart=>exact⟨_,rfl,Fr.refl _,H0⟩
 case round=>
  have⟨J,hu,hf2,⟨r,E1,b,F⟩⟩:=hrel;have S:=fV b.Xw;have u:=aap b;have CC:=zv b _ _ (z.fr' hf2);rcases xw J with rfl|⟨o,y,rfl⟩
  .have R:Hid (To E L (σ.xU p) w wr):=by
    refine C wr ⟨r,E1,?_,F⟩;have:(σ.qz (λs=>!q s) σ.gG.reverse).reverse=[]:=by rw[<-hu];rfl
    rw[this];exact b
   clear b hu
   go_wp21
   refine u.mono ?_;rintro e w' ⟨rfl,rfl⟩;go_wp2;go_end0;exact⟨rfl,R⟩
  .obtain⟨i,e0,rfl,hi⟩:=b.oH (x:=y) (by simp);have Z:σ.qz (λs=>!q s) ((o++[some i]).reverse)=if (!q (σ.nm i))=true then σ.qz (λs=>!q s) o.reverse else some i::o.reverse:=by rw[Ns];rfl
   rw[Z]at hu;have D:Ab.current {σ with gG:=o++[some i]} q=q (σ.nm i):=by unfold Ab.current Ab.last;rw[wM];rfl
   rw[D]at CC;have d:=CC;have I:=fV hu;have O:=F;have K:=hf2;have CP:=Rk b;obtain⟨m,Y⟩:∃m,m=(o++[some i]).length:=⟨_,rfl⟩;have a0:(0:Int) < (m:Int):=by rw[Y];simp
   have HM:=fV (show m=o.length+1 by rw[Y];simp);dsimp only at S u;rw[<-Y]at u S;cases hqq:q (σ.nm i)with
   |true=>
    rw[hqq]at d I;have R:Hid (To E L (σ.xU p) w wr):=by
     refine C wr ⟨r,E1,?_,F⟩;have:(σ.qz (λs=>!q s) σ.gG.reverse).reverse=o++[some i]:=by rw[<-I.out];simp
     rw[this];exact b
    clear b hu
    go_wp21
    refine u.mono ?_;rintro e w' ⟨rfl,rfl⟩
    go_wp21
    refine d.mono ?_;rintro e w' ⟨rfl,rfl⟩;go_wp2;go_end0;exact⟨rfl,R⟩
   |false=>
    rw[hqq]at d I;clear b hu
    go_wp21
    refine u.mono ?_;rintro e w' ⟨rfl,rfl⟩
    go_wp21
    refine d.mono ?_;rintro e w' ⟨rfl,rfl⟩
    go_wp21
    refine CP.mono ?_;rintro e w3 ⟨rfl,L2,e2,c,G⟩
    try dsimp only at c
    rw[Wb]at c;have U:=fV c.Xw;have HP:Hid (NC E L σ w o w3):=⟨L2,e2.trans E1,c,O.trans G⟩;have N:=K.trans G;clear c;go_wp2;go_roundw
    case rel=>exact⟨o,by rw[<-I.out];rfl,N,HP⟩
    case measure=>rw[U.out,S.out,HM.out];simp
def Rel.aco {σ:Ab} (h:Rel E L σ w):∃f a l,w.cell? ⟨E.bB,185,none⟩=some (.func f a l)/\Ask E.bm (.func f a l) vG w:=by
 have⟨v,hv,ha⟩:=h.env.Xj;obtain⟨k,b,rfl,_,_⟩:=ha.call;exact⟨_,_,_,h.low (by decide) hv,ha.fr' h.fr⟩
def Rel.Iz {σ:Ab} (h:Rel E L σ w):∃f a l,w.cell? ⟨E.bB,184,none⟩=some (.func f a l)/\Ask E.bm (.func f a l) lB w:=by
 have⟨v,hv,ha⟩:=h.env.spec;obtain⟨k,b,rfl,_,_⟩:=ha.call;exact⟨_,_,_,h.low (by decide) hv,ha.fr' h.fr⟩
def Rel.bounds {σ:Ab} (h:Rel E L σ w):∃f a l,w.cell? ⟨E.bB,186,none⟩=some (.func f a l)/\Ask E.bm (.func f a l) iS w:=by
 have⟨v,hv,ha⟩:=h.env.WG;obtain⟨k,b,rfl,_,_⟩:=ha.call;exact⟨_,_,_,h.low (by decide) hv,ha.fr' h.fr⟩
def JB {σ:Ab} (h:Rel E L σ w):
  Calls prog 288 #[Bp E] w λe w'=>e=pE/\To E L σ.nh w w':=by
 have N:Hid (NC E L σ w σ.gG w):=fV ⟨L,rfl,h,Fr.refl w⟩;have r:Hid (∀wr,(∃u,u.gS=L.gS/\Rel E u {σ with gG:=(σ.qz vG σ.gG.reverse).reverse} wr/\Fr E.bs w wr)->To E L σ.nh w wr):=by
  rintro wr ⟨u,e1,b,z⟩;exact⟨u,e1,b,z⟩
 generalize hq:vG=q at r;have S:=fV hq;clear hq;go_enter func288,ntmps288;go_wp2
 go_loopw [] (λwr=>∃B,σ.qz q B.reverse=σ.qz q σ.gG.reverse/\NC E L σ w B wr) (λwr=>Bb ⟨E.bB,188,none⟩ wr)
 case atStart=>exact⟨_,rfl,N⟩
 case round=>
  have⟨B,hu,⟨u,E1,b,z⟩⟩:=hrel;have F:=fV b.Xw;have⟨f1,a1,l1,c1,ha1⟩:=b.aco;rw[S.out]at ha1;have o:=zv b _ _ ha1;rcases xw B with rfl|⟨l,y,rfl⟩
  .have D:Hid (To E L σ.nh w wr):=by
    refine r wr ⟨u,E1,?_,z⟩;have:(σ.qz q σ.gG.reverse).reverse=[]:=by rw[<-hu];rfl
    rw[this];exact b
   have d:Ab.current {σ with gG:=[]} q=false:=rfl;rw[d]at o;have a:=fV o;clear b hu o
   go_wp21
   refine a.mono ?_;rintro e w' ⟨rfl,rfl⟩;go_wp2;go_end0;exact⟨rfl,D⟩
  .obtain⟨i,X,rfl,Y⟩:=b.oH (x:=y) (by simp);have I:σ.qz q ((l++[some i]).reverse)=if q (σ.nm i)=true then σ.qz q l.reverse else some i::l.reverse:=by rw[Ns];rfl
   rw[I]at hu;have d:Ab.current {σ with gG:=l++[some i]} q=q (σ.nm i):=by unfold Ab.current Ab.last;rw[wM];rfl
   rw[d]at o;have a:=fV o;have A:=fV hu;have C:=z;have K:=Rk b;obtain⟨m,J⟩:∃m,m=(l++[some i]).length:=⟨_,rfl⟩;have O:=fV (show m=l.length+1 by rw[J];simp);dsimp only at F;rw[<-J]at F;cases hqq:q (σ.nm i)with
   |false=>
    rw[hqq]at a A;have D:Hid (To E L σ.nh w wr):=by
     refine r wr ⟨u,E1,?_,z⟩;have:(σ.qz q σ.gG.reverse).reverse=l++[some i]:=by rw[<-A.out];simp
     rw[this];exact b
    clear b hu o
    go_wp21
    refine a.mono ?_;rintro e w' ⟨rfl,rfl⟩;go_wp2;go_end0;exact⟨rfl,D⟩
   |true=>
    rw[hqq]at a A;clear b hu o
    go_wp21
    refine a.mono ?_;rintro e w' ⟨rfl,rfl⟩
    go_wp21
    refine K.mono ?_;rintro e V ⟨rfl,U,e2,c,H⟩
    try dsimp only at c
    rw[Wb]at c;have G:=fV c.Xw;have R:Hid (NC E L σ w l V):=⟨U,e2.trans E1,c,C.trans H⟩;clear c;go_wp2;go_roundw
    case rel=>exact⟨l,by rw[<-A.out];rfl,R⟩
    case measure=>rw[G.out,F.out,O.out];simp
def RF (E:Env) (f:Nat->Nat) (σ:Ab) (w:gx):Prop:=∃L,L.gS=f/\Rel E L σ w
def SR (n:Nat) (f g:Nat->Nat):Prop:=∀i,i < n->g i=f i
def Leaves {α:Type} (E:Env) (f:Nat->Nat) (n:Nat) (w:gx) (r:qI α) (b:(Nat->Nat)->α->gQ) (e:Ending) (w':gx):Prop:=match r with
 | .ok a σ'=>∃g,SR n f g/\n<=σ'.nodes.length/\e=iw (b g a)/\RF E g σ' w'/\Fr E.bs w w'
 | .stop c p=>∃k,e=rq k/\kG w' k c p/\Fr E.bs w w'
 | .stuck=>False
def je {α:Type} (E:Env) (k:Nat) (args:(Nat->Nat)->jN) (m:M α) (a:(Nat->Nat)->α->gQ):Prop:=
 ∀f σ w,RF E f σ w->m σ≠ .stuck->Calls prog k (args f) w (Leaves E f σ.nodes.length w (m σ) a)
abbrev uV (_:Nat->Nat) (_:Unit):gQ:= .tuple #[]
abbrev bV (_:Nat->Nat) (b:Bool):gQ:= .bool b
abbrev nV (f:Nat->Nat) (i:Nat):gQ:=gN (f i)
abbrev oV (f:Nat->Nat) (x:jk):gQ:=kI (iG f x)
abbrev pV (f:Nat->Nat) (pl:Nat×Nat):gQ:= .agg #[gN (f pl.1),gh pl.2]
structure At (E:Env) (f0:Nat->Nat) (n0:Nat) (w0:gx) (f:Nat->Nat) (σ:Ab) (w:gx):Prop where
 rel:RF E f σ w
 ext:SR n0 f0 f
 le:n0<=σ.nodes.length
 fr:Fr E.bs w0 w
 hw:E.w0.heap.size<=w0.heap.size
def At.start {σ:Ab} (h:RF E f σ w):At E f σ.nodes.length w f σ w:=⟨h,λ_ _=>rfl,gW _,Fr.refl _,by have⟨L,_,hr⟩:=h;exact hr.fr.size⟩
def RF.io {σ:Ab} (h:RF E f σ w) (a:Kept [] w w'):RF E f σ w':=by have⟨L,e,hr⟩:=h;exact⟨L,e,hr.io a⟩
def Wm:List TypeId:=[140,142,284,239,243,299,180,72,125,165]
theorem Rel.side {σ:Ab} (h:Rel E L σ w) {b : Nat} {c : jN} {m : Nat×Nat} (r:w.heap[b]?=some (.cells c T m)) (A:∀t∈Wm,t≠T) (l:E.w0.heap.size<=b) (j:Nat) (u:gQ):Rel E L σ (w.setCell ⟨b,j,none⟩ u):=by
 have d:KT E.bs [T] w (w.setCell ⟨b,j,none⟩ u):= .jQ ((Kept.refl [b] w).setCell (.inl (by simp)) u) (λk o _=>by simp at o;subst o;exact⟨⟨_,_,_,r,by simp⟩,j7 h.bz l⟩);have a:∀t∈Wm,t∉[T]:=λt y=>by grind
 have⟨C,hbl,hC⟩:=h.iC;exact {h with
  fr:=by
   have⟨S,o,hS⟩:=h.fr;exact⟨S,o.setCell (.inr l) u,hS⟩
  tL:=λi z x=>(h.tL i z x).kt d (λt y=>a t (by revert t;decide))
  iC:=⟨C,d.at hbl (a _ (by decide)),hC⟩
  pF:=d.row h.pF (a _ (by decide))
  qu:=d.row h.qu (a _ (by decide))
  pC:=d.row h.pC (a _ (by decide))
  rd:=d.at h.rd (a _ (by decide))
  tok:=d.row h.tok (a _ (by decide))}
section
variable {α β:Type} {E:Env} {f0:Nat->Nat} {n0:Nat} {w0:gx} {f:Nat->Nat} {σ:Ab} {w:gx}
def At.side (h:At E f0 n0 w0 f σ w) {b:Nat} {c:jN} {T:TypeId} {m:Nat×Nat} (l:w.heap[b]?=some (.cells c T m)) (d:∀t∈Wm,t≠T) (a:w0.heap.size<=b) (j:Nat) (u:gQ):At E f0 n0 w0 f σ (w.setCell ⟨b,j,none⟩ u):=by
 have⟨L,e,hr⟩:=h.rel;refine⟨⟨L,e,hr.side l d (j7 h.hw a) j u⟩,h.ext,h.le,?_,h.hw⟩;have⟨S,hk,hS⟩:=h.fr;exact⟨S,hk.setCell (.inr a) u,hS⟩
def At.k0 (h:At E f0 n0 w0 f σ w) {w':gx} (a:Kept [] w w'):At E f0 n0 w0 f σ w':=⟨h.rel.io a,h.ext,h.le,h.fr.trans (.gU a),h.hw⟩
def At.to (h:At E f0 n0 w0 f σ w) {σ':Ab} {w':gx} (c:RF E f σ' w') (b:σ.nodes.length<=σ'.nodes.length) (a:Fr E.bs w w'):At E f0 n0 w0 f σ' w':=⟨c,h.ext,j7 h.le b,h.fr.trans a,h.hw⟩
def At.go (h:At E f0 n0 w0 f σ w) {g:Nat->Nat} {σ':Ab} {w':gx} (d:RF E g σ' w') (l:SR σ.nodes.length f g) (c:σ.nodes.length<=σ'.nodes.length) (b:Fr E.bs w w'):At E f0 n0 w0 g σ' w':=
 ⟨d,λi a=>(l i (mi a h.le)).trans (h.ext i a),j7 h.le c,h.fr.trans b,h.hw⟩
def gw {R:qI α} {a:α} {b:(Nat->Nat)->α->gQ} (c:R= .ok a σ) (h:At E f0 n0 w0 f σ w) {e:Ending} (d:e=iw (b f a)):Leaves E f0 n0 w0 R b e w:=by
 subst c;exact⟨f,h.ext,h.le,d,h.rel,h.fr⟩
theorem pJ {R:qI α} {a:(Nat->Nat)->α->gQ} {c p j:Nat} (b:R= .stop c p) (h:kG w j c p) (d:Fr E.bs w0 w):Leaves E f0 n0 w0 R a (rq j) w:=by
 grind[Leaves]
theorem je.call {k:Nat} {args:(Nat->Nat)->jN} {m:M α} {l:(Nat->Nat)->α->gQ} (D:je E k args m l) (H:At E f0 n0 w0 f σ w) {R:qI β} {K:α->M β} (d:R=(m>>=K) σ) (G:R≠ .stuck) {A:jN} (hA:args f=A) {Q:Ending->gx->Prop}
  (x:∀c p j w',R= .stop c p->kG w' j c p->Fr E.bs w0 w'->Q (rq j) w')
  (u:∀a g b w',At E f0 n0 w0 g b w'->SR σ.nodes.length f g->Fr E.bs w w'->R=K a b->Q (iw (l g a)) w'):Calls prog k A w Q:=by
 rw[M.gE]at d;have B:m σ≠ .stuck:=λe=>G (by grind);have h:=D f σ w H.rel B;rw[hA]at h;refine h.mono ?_;intro e w' o;cases hr:m σ with
 |ok a b=>
  rw[hr]at o d;obtain⟨g,y,r,rfl,F,z⟩:=o;exact u a g b w' (H.go F y r z) y z d
 |stop c p=>
  rw[hr]at o d;obtain⟨j,rfl,r,C⟩:=o;exact x c p j w' d r (H.fr.trans C)
 |stuck=>exact absurd hr B
end
def kE {α:Type} (E:Env) (f:Nat->Nat) (n:Nat) (w:gx) (r:qI α) (b:(Nat->Nat)->α->gQ) (e:Ending) (w':gx):Prop:=match r with
 | .ok a σ'=>e=iw (b f a)/\RF E f σ' w'/\Fr E.bs w w'/\n<=σ'.nodes.length
 | .stop c p=>∃j,e=rq j/\kG w' j c p/\Fr E.bs w w'
 | .stuck=>False
def kF {α:Type} (E:Env) (k:Nat) (args:(Nat->Nat)->jN) (m:M α) (a:(Nat->Nat)->α->gQ):Prop:=
 ∀f σ w,RF E f σ w->m σ≠ .stuck->Calls prog k (args f) w (kE E f σ.nodes.length w (m σ) a)
section
variable {α β:Type} {E:Env} {f0:Nat->Nat} {n0:Nat} {w0:gx} {f:Nat->Nat} {σ:Ab} {w:gx}
theorem kF.call {k:Nat} {args:(Nat->Nat)->jN} {m:M α} {l:(Nat->Nat)->α->gQ} (D:kF E k args m l) (H:At E f0 n0 w0 f σ w) {R:qI β} {K:α->M β} (d:R=(m>>=K) σ) (G:R≠ .stuck) {A:jN} (hA:args f=A) {Q:Ending->gx->Prop}
  (u:∀c p j w',R= .stop c p->kG w' j c p->Fr E.bs w0 w'->Q (rq j) w')
  (r:∀a b w',At E f0 n0 w0 f b w'->Fr E.bs w w'->R=K a b->Q (iw (l f a)) w'):Calls prog k A w Q:=by
 rw[M.gE]at d;have y:m σ≠ .stuck:=λe=>G (by grind);have h:=D f σ w H.rel y;rw[hA]at h;refine h.mono ?_;intro e w' o;cases hr:m σ with
 |ok a b=>
  rw[hr]at o d;obtain⟨rfl,C,x,F⟩:=o;exact r a b w' (H.to C F x) x d
 |stop c p=>
  rw[hr]at o d;obtain⟨j,rfl,z,B⟩:=o;exact u c p j w' d z (H.fr.trans B)
 |stuck=>exact absurd hr y
def agq {k:Nat} {m:M α} {h:(Nat->Nat)->α->gQ} {A:jN} (C:m σ≠ .stuck->Calls prog k A w (kE E f σ.nodes.length w (m σ) h)) (H:At E f0 n0 w0 f σ w) {R:qI β} {K:α->M β} (d:R=(m>>=K) σ) (F:R≠ .stuck) {Q:Ending->gx->Prop}
  (r:∀c p j w',R= .stop c p->kG w' j c p->Fr E.bs w0 w'->Q (rq j) w')
  (o:∀a b w',At E f0 n0 w0 f b w'->Fr E.bs w w'->R=K a b->Q (iw (h f a)) w'):Calls prog k A w Q:=by
 rw[M.gE]at d;have x:m σ≠ .stuck:=λe=>F (by rw[d,e]);refine(C x).mono ?_;intro e w' l;cases hr:m σ with
 |ok a b=>
  rw[hr]at l d;obtain⟨rfl,B,u,D⟩:=l;exact o a b w' (H.to B D u) u d
 |stop c p=>
  rw[hr]at l d;obtain⟨j,rfl,y,z⟩:=l;exact r c p j w' d y (H.fr.trans z)
 |stuck=>exact absurd hr x
def af9 {k:Nat} {m:M α} {h:(Nat->Nat)->α->gQ} {A:jN} (C:m σ≠ .stuck->Calls prog k A w (Leaves E f σ.nodes.length w (m σ) h)) (H:At E f0 n0 w0 f σ w) {R:qI β} {K:α->M β} (d:R=(m>>=K) σ) (F:R≠ .stuck) {Q:Ending->gx->Prop}
  (u:∀c p j w',R= .stop c p->kG w' j c p->Fr E.bs w0 w'->Q (rq j) w')
  (r:∀a g b w',At E f0 n0 w0 g b w'->SR σ.nodes.length f g->Fr E.bs w w'->R=K a b->Q (iw (h g a)) w'):Calls prog k A w Q:=by
 rw[M.gE]at d;have z:m σ≠ .stuck:=λe=>F (by rw[d,e]);refine(C z).mono ?_;intro e w' l;cases hr:m σ with
 |ok a b=>
  rw[hr]at l d;obtain⟨g,x,o,rfl,D,y⟩:=l;exact r a g b w' (H.go D x o y) x y d
 |stop c p=>
  rw[hr]at l d;obtain⟨j,rfl,o,B⟩:=l;exact u c p j w' d o (H.fr.trans B)
 |stuck=>exact absurd hr z
def kh {R:qI α} {a:α} {b:(Nat->Nat)->α->gQ} (c:R= .ok a σ) (h:At E f n0 w0 f σ w) {e:Ending} (d:e=iw (b f a)):kE E f n0 w0 R b e w:=by
 subst c;exact⟨d,h.rel,h.fr,h.le⟩
theorem uQ {R:qI α} {a:(Nat->Nat)->α->gQ} {c p j:Nat} (b:R= .stop c p) (h:kG w j c p) (d:Fr E.bs w0 w):kE E f n0 w0 R a (rq j) w:=by
 grind[kE]
def dC {k:Nat} {args:(Nat->Nat)->jN} {m:M α} {b:(Nat->Nat)->α->gQ} (D:je E k args m b) (H:Hid (At E f0 n0 w0 f σ w)) {R:qI β} {K:α->M β} (x:Hid (R=(m>>=K) σ)) (y:Hid (R≠ .stuck)) {A:jN} (hA:args f=A) {Q:Ending->gx->Prop}
  (l:∀c p j w',Hid (R= .stop c p/\kG w' j c p/\Fr E.bs w0 w')->Q (rq j) w')
  (h:∀a g d w',Hid (At E f0 n0 w0 g d w')->Hid (SR σ.nodes.length f g)->Hid (Fr E.bs w w')->Hid (R=K a d)->Q (iw (b g a)) w'):Calls prog k A w Q:=je.call D H x y hA (λc p j w' o r u=>l c p j w' ⟨o,r,u⟩) h
def mC {k:Nat} {args:(Nat->Nat)->jN} {m:M α} {b:(Nat->Nat)->α->gQ} (D:kF E k args m b) (H:Hid (At E f0 n0 w0 f σ w)) {R:qI β} {K:α->M β} (x:Hid (R=(m>>=K) σ)) (y:Hid (R≠ .stuck)) {A:jN} (hA:args f=A) {Q:Ending->gx->Prop}
  (l:∀c p j w',Hid (R= .stop c p/\kG w' j c p/\Fr E.bs w0 w')->Q (rq j) w')
  (h:∀a d w',Hid (At E f0 n0 w0 f d w')->Hid (Fr E.bs w w')->Hid (R=K a d)->Q (iw (b f a)) w'):Calls prog k A w Q:=kF.call D H x y hA (λc p j w' o r u=>l c p j w' ⟨o,r,u⟩) h
def Be {k:Nat} {m:M α} {b:(Nat->Nat)->α->gQ} {A:jN} (C:m σ≠ .stuck->Calls prog k A w (kE E f σ.nodes.length w (m σ) b)) (H:Hid (At E f0 n0 w0 f σ w)) {R:qI β} {K:α->M β} (x:Hid (R=(m>>=K) σ)) (y:Hid (R≠ .stuck)) {Q:Ending->gx->Prop}
  (l:∀c p j w',Hid (R= .stop c p/\kG w' j c p/\Fr E.bs w0 w')->Q (rq j) w')
  (h:∀a d w',Hid (At E f0 n0 w0 f d w')->Hid (Fr E.bs w w')->Hid (R=K a d)->Q (iw (b f a)) w'):Calls prog k A w Q:=agq C H x y (λc p j w' o r u=>l c p j w' ⟨o,r,u⟩) h
def dcH {k:Nat} {m:M α} {b:(Nat->Nat)->α->gQ} {A:jN} (C:m σ≠ .stuck->Calls prog k A w (Leaves E f σ.nodes.length w (m σ) b)) (H:Hid (At E f0 n0 w0 f σ w)) {R:qI β} {K:α->M β} (x:Hid (R=(m>>=K) σ)) (y:Hid (R≠ .stuck)) {Q:Ending->gx->Prop}
  (l:∀c p j w',Hid (R= .stop c p/\kG w' j c p/\Fr E.bs w0 w')->Q (rq j) w')
  (h:∀a g d w',Hid (At E f0 n0 w0 g d w')->Hid (SR σ.nodes.length f g)->Hid (Fr E.bs w w')->Hid (R=K a d)->Q (iw (b g a)) w'):Calls prog k A w Q:=af9 C H x y (λc p j w' o r u=>l c p j w' ⟨o,r,u⟩) h
def lS {R:qI α} {a:(Nat->Nat)->α->gQ} {c p j:Nat} (h:Hid (R= .stop c p/\kG w j c p/\Fr E.bs w0 w)):Leaves E f0 n0 w0 R a (rq j) w:=pJ h.1 h.2.1 h.2.2
def mS {R:qI α} {a:(Nat->Nat)->α->gQ} {c p j:Nat} (h:Hid (R= .stop c p/\kG w j c p/\Fr E.bs w0 w)):kE E f n0 w0 R a (rq j) w:=uQ h.1 h.2.1 h.2.2
def dI {k:Nat} {args:(Nat->Nat)->jN} {m:M α} {a:(Nat->Nat)->α->gQ} (h:∀f σ w R,Hid (R=m σ)->Hid (R≠ .stuck)->Hid (At E f σ.nodes.length w f σ w)->Calls prog k (args f) w (Leaves E f σ.nodes.length w R a)):je E k args m a:=λf σ w b c=>h f σ w _ rfl c (At.start b)
def mI {k:Nat} {args:(Nat->Nat)->jN} {m:M α} {a:(Nat->Nat)->α->gQ} (h:∀f σ w R,Hid (R=m σ)->Hid (R≠ .stuck)->Hid (At E f σ.nodes.length w f σ w)->Calls prog k (args f) w (kE E f σ.nodes.length w R a)):kF E k args m a:=λf σ w b c=>h f σ w _ rfl c (At.start b)
end
def lT {α:Type} {β:Sort _} {x:β} {f0 : Nat->Nat} {R:qI α} {a:(Nat->Nat)->α->gQ} (c p j:Nat) (w:gx) (h:Hid (R= .stop c p/\kG w j c p/\Fr E.bs w0 w)):x=x/\Leaves E f0 n0 w0 R a (rq j) w:=⟨rfl,lS h⟩
def mT {α:Type} {β:Sort _} {x:β} {R:qI α} {a:(Nat->Nat)->α->gQ} (c p j:Nat) (w:gx) (h:Hid (R= .stop c p/\kG w j c p/\Fr E.bs w0 w)):x=x/\kE E f n0 w0 R a (rq j) w:=⟨rfl,mS h⟩
def Gx (E:Env) (i:Nat):kF E 99 (λf=>#[nV f i]) (jC i) pV:=by
 intro f σ w ⟨L,e,d⟩ a;subst e;unfold jC at a|-;cases he:σ.ij i with
 |none=>rw[he]at a;exact absurd rfl a
 |some e=>
  refine(Sh d he).mono ?_;rintro h w' ⟨rfl,b,c⟩;exact⟨rfl,⟨L,rfl,b⟩,.gU c,gW _⟩
def ED (E:Env) (pl:Nat×Nat) (j:Nat):kF E 175 (λf=>#[pV f pl,.iface 72 (nV f j)]) (nT pl j) uV:=by
 intro f σ w ⟨L,e,l⟩ a;subst e;unfold nT at a|-;cases h1:σ.ij pl.1 with
 |none=>rw[h1]at a;exact absurd rfl a
 |some ei=>
  cases h2:σ.ij j with
  |none=>rw[h1,h2]at a;exact absurd rfl a
  |some ej=>
   simp only[h1,h2]at a|-
   by_cases b:j≠pl.1/\pl.2<=ei.kids.length/\ei.kids.length < 1048576
   .rw[gJ b];refine(aa6 l h1 h2 b.1 b.2.1 b.2.2).mono ?_;rintro o w' ⟨rfl,c,e1,d,h⟩;exact⟨rfl,⟨c,e1,d⟩,h,by simp[Ab.ig]⟩
   .rw[gV b]at a;exact absurd rfl a
theorem Uk (E:Env) (pl:Nat×Nat) (s:gz):je E 182 (λf=>#[pV f pl,gH s]) (vH pl s) uV:=by
 intro f σ w ⟨L,e,y⟩ a;subst e;unfold vH at a|-;cases h1:σ.ij pl.1 with
 |none=>rw[h1]at a;exact absurd rfl a
 |some ei=>
  simp only[h1]at a|-
  by_cases o:pl.2<=ei.kids.length/\ei.kids.length < 1048576
  .rw[gJ o]at a|-;have b:∀(z:∀m,(r:m < ei.kids.length)->pl.2=m+1->∀t,ei.kids[m]≠ .tx t),Calls prog 182 #[pV L.gS pl,gH s] w (Leaves E L.gS σ.nodes.length w (.ok () ((σ.add (.tx s)).ig pl.1 {ei with kids:=ins ei.kids pl.2 (.tx σ.nodes.length)})) uV):=by
    intro z;refine(KG y h1 o.1 o.2 z).mono ?_;rintro D w' ⟨rfl,l,e1,u,x⟩;exact⟨l.gS,e1,by simp[Ab.ig,Ab.add],rfl,⟨l,rfl,u⟩,x⟩
   by_cases A:pl.2=0
   .simp only[gJ A]at a|-;exact b λm r e=>by omega
   .simp only[gV A]at a|-;obtain⟨m,r⟩:∃m,pl.2=m+1:=⟨pl.2 - 1,by omega⟩;have h:m < ei.kids.length:=by omega
    have F:ei.kids[pl.2 - 1]?=some ei.kids[m]:=by rw[r,SQ];exact qB h
    rw[F]at a|-;cases hk:ei.kids[m]with
    |tx t=>
     simp only[hk]at a|-;cases ht:σ.nodes[t]? with
     |none=>rw[ht]at a;exact absurd rfl a
     |some nd=>
      cases nd with
      |tx old=>
       simp only[ht]at a|-
       by_cases c:old.size+s.size<=1048576
       .rw[gJ c];have:=Ie y h1 h hk ht c;rw[<-r]at this;refine this.mono ?_;rintro D w' ⟨rfl,l,e1,u,x⟩;exact⟨L.gS,λ_ _=>rfl,by simp[Ab.oM],rfl,⟨l,e1,u⟩,x⟩
       .rw[gV c]at a;exact absurd rfl a
      |el e=>rw[ht]at a;exact absurd rfl a
      |cm e=>rw[ht]at a;exact absurd rfl a
      |dt e=>rw[ht]at a;exact absurd rfl a
    |el t=>exact b λB d e C=>by grind
    |cm t=>exact b λB d e C=>by grind
    |dt t=>exact b λB d e C=>by grind
  .rw[gV o]at a;exact absurd rfl a
def aaw (E:Env):kF E 184 (λ_=>#[jO E.bB 188]) (λσ=> .ok σ.last σ.pop) oV:=by
 intro f σ w ⟨L,e,d⟩ l;subst e;refine(Rk d).mono ?_;rintro h w' ⟨rfl,a,e1,b,c⟩;exact⟨rfl,⟨a,e1,b⟩,c,gW _⟩
theorem OP (E:Env) (x:jk):kF E 186 (λf=>#[Bp E,oV f x]) (ya x) uV:=by
 intro f σ w ⟨L,e,h⟩ l;subst e;have D:=h.low (j:=0) (by decide) h.vM.1;have⟨_,_,_,hd,_,_⟩:=h.vM;have C:=h.x9;have c:=(λq=>aap (h.drewN q));unfold ya at l|-
 by_cases d:σ.qv<=σ.gG.length
 .rw[gJ d];have b:=(λq=>Pa (h.drewN q) 5);go_enter func186,ntmps186
  go_wp21
  go_quiet ((go_at_call 269;exact Nv (c _)))
  go_wp21
  refine(b nq).mono ?_;rintro e w' ⟨k,rfl,o,A⟩;have r:=(Fr.drewN w nq).trans A;go_wp2;exact⟨rfl,k,rfl,o,r⟩
 .rw[gV d]at l|-;have a:σ.mw x=true:=by
   by_cases a:σ.mw x=true
   .exact a
   .grind
  rw[gJ a];have b:=(λq=>afs (h.drewN q) x a (by omega));go_enter func186,ntmps186
  go_wp21
  go_quiet ((go_at_call 269;exact Nv (c _)))
  go_wp21
  refine(b nq).mono ?_;rintro e w' ⟨rfl,z,e1,y,B⟩;have u:=(Fr.drewN w nq).trans B;go_wp2;go_end0;exact⟨rfl,⟨z,e1,y⟩,u,gW _⟩
section
variable {E:Env} {f0:Nat->Nat} {n0:Nat} {w0:gx} {f:Nat->Nat} {σ:Ab} {w:gx}
def At.lt (h:At E f0 n0 w0 f σ w):E.bB < w.heap.size:=by have⟨L,_,hr⟩:=h.rel;exact hr.lt
def At.free (h:At E f0 n0 w0 f σ w) (j:Nat):w.frozen? ⟨E.bB,j,none⟩=false:=by have⟨L,_,hr⟩:=h.rel;exact hr.free j
def At.WH (h:At E f0 n0 w0 f σ w):w.cell? ⟨E.bB,190,none⟩=some (oV f σ.head):=by obtain⟨L,rfl,a⟩:=h.rel;exact a.WH
def At.Tc (h:At E f0 n0 w0 f σ w):w.cell? ⟨E.bB,191,none⟩=some (oV f σ.form):=by obtain⟨L,rfl,a⟩:=h.rel;exact a.Tc
def At.sB (h:At E f0 n0 w0 f σ w):w.cell? ⟨E.bB,192,none⟩=some (gh σ.mode):=by obtain⟨L,rfl,a⟩:=h.rel;exact a.sB
def At.Td (h:At E f0 n0 w0 f σ w):w.cell? ⟨E.bB,193,none⟩=some (gh σ.kept):=by obtain⟨L,rfl,a⟩:=h.rel;exact a.Td
def At.Y2 (h:At E f0 n0 w0 f σ w):w.cell? ⟨E.bB,195,none⟩=some (.bool σ.iT):=by obtain⟨L,rfl,a⟩:=h.rel;exact a.Y2
def At.Y3 (h:At E f0 n0 w0 f σ w):w.cell? ⟨E.bB,196,none⟩=some (.bool σ.jV):=by obtain⟨L,rfl,a⟩:=h.rel;exact a.Y3
def At.Te (h:At E f0 n0 w0 f σ w):w.cell? ⟨E.bB,197,none⟩=some (gh σ.gS):=by obtain⟨L,rfl,a⟩:=h.rel;exact a.Te
def At.Y4 (h:At E f0 n0 w0 f σ w):w.cell? ⟨E.bB,198,none⟩=some (.bool σ.behind):=by obtain⟨L,rfl,a⟩:=h.rel;exact a.Y4
def At.LA (h:At E f0 n0 w0 f σ w) (j:Nat) (u:gQ):Fr E.bs w (w.setCell ⟨E.bB,j,none⟩ u):=by
 have⟨L,_,hr⟩:=h.rel;have⟨C,hb⟩:=hr.U1;exact .jQ ((Kept.refl [E.bB] w).setCell (.inl (by simp)) u) (λk a=>by simp at a;subst a;exact⟨⟨_,_,_,hb,by decide⟩,hr.bB⟩)
def At.yZ (h:At E f0 n0 w0 f σ w) (x:jk) (c:σ.hH x=true):At E f0 n0 w0 f {σ with head:=x} (w.setCell ⟨E.bB,190,none⟩ (oV f x)):=by
 have a:=h.LA 190 (oV f x);obtain⟨L,rfl,b⟩:=h.rel;exact h.to ⟨L,rfl,b.yZ x c⟩ (gW _) a
def At.vI (h:At E f0 n0 w0 f σ w) (x:jk) (c:σ.hH x=true):At E f0 n0 w0 f {σ with form:=x} (w.setCell ⟨E.bB,191,none⟩ (oV f x)):=by
 have a:=h.LA 191 (oV f x);obtain⟨L,rfl,b⟩:=h.rel;exact h.to ⟨L,rfl,b.vI x c⟩ (gW _) a
def At.jh (h:At E f0 n0 w0 f σ w) (x:Nat):At E f0 n0 w0 f {σ with mode:=x} (w.setCell ⟨E.bB,192,none⟩ (gh x)):=by
 have a:=h.LA 192 (gh x);obtain⟨L,rfl,b⟩:=h.rel;exact h.to ⟨L,rfl,b.jh x⟩ (gW _) a
def At.y7 (h:At E f0 n0 w0 f σ w) (x:Nat):At E f0 n0 w0 f {σ with kept:=x} (w.setCell ⟨E.bB,193,none⟩ (gh x)):=by
 have a:=h.LA 193 (gh x);obtain⟨L,rfl,b⟩:=h.rel;exact h.to ⟨L,rfl,b.y7 x⟩ (gW _) a
def At.yY (h:At E f0 n0 w0 f σ w) (x:Bool):At E f0 n0 w0 f {σ with iT:=x} (w.setCell ⟨E.bB,195,none⟩ (.bool x)):=by
 have a:=h.LA 195 (.bool x);obtain⟨L,rfl,b⟩:=h.rel;exact h.to ⟨L,rfl,b.yY x⟩ (gW _) a
def At.rl (h:At E f0 n0 w0 f σ w) (x:Bool):At E f0 n0 w0 f {σ with jV:=x} (w.setCell ⟨E.bB,196,none⟩ (.bool x)):=by
 have a:=h.LA 196 (.bool x);obtain⟨L,rfl,b⟩:=h.rel;exact h.to ⟨L,rfl,b.rl x⟩ (gW _) a
def At.Dw (h:At E f0 n0 w0 f σ w) (x:Nat):At E f0 n0 w0 f {σ with gS:=x} (w.setCell ⟨E.bB,197,none⟩ (gh x)):=by
 have a:=h.LA 197 (gh x);obtain⟨L,rfl,b⟩:=h.rel;exact h.to ⟨L,rfl,b.Dw x⟩ (gW _) a
def At.th (h:At E f0 n0 w0 f σ w) (x:Bool):At E f0 n0 w0 f {σ with behind:=x} (w.setCell ⟨E.bB,198,none⟩ (.bool x)):=by
 have a:=h.LA 198 (.bool x);obtain⟨L,rfl,b⟩:=h.rel;exact h.to ⟨L,rfl,b.th x⟩ (gW _) a
def Hr (f:Nat->Nat) (n k:Nat):Nat->Nat:=λi=>if i < n then f i else k+(i - n)
def afR (f:Nat->Nat) (n k:Nat):Hr f n k n=k:=by simp[Hr]
def Qz (f:Nat->Nat) (n k:Nat):SR n f (Hr f n k):=λi a=>gJ a
def At.GO (h:At E f0 n0 w0 f σ w) (a:gz):At E f0 n0 w0 (Hr f σ.nodes.length w.heap.size) (σ.add (.el {name:=a,ib:=[],jl:=none,kids:=[]})) (w.alloc (gL #[gH a,jc,.pointer none,jc] 140)):=by
 obtain⟨L,rfl,b⟩:=h.rel;exact h.go ⟨_,rfl,b.GO a⟩ (Qz _ _ _) (by simp[Ab.add]) (.gU ((Kept.refl _ _).alloc _))
def At.qh (h:At E f0 n0 w0 f σ w) (b:σ.fresh=true) (a:gz):At E f0 n0 w0 (Hr f σ.nodes.length w.heap.size) (σ.pN (.el {name:=a,ib:=E.ta,jl:=none,kids:=[]}) false) (w.alloc (gL #[gH a,E.tv,.pointer none,jc] 140)):=by
 obtain⟨L,rfl,c⟩:=h.rel;exact h.go ⟨_,rfl,c.qh b a⟩ (Qz _ _ _) (by simp[Ab.pN]) (.gU ((Kept.refl _ _).alloc _))
end
def iJ (E:Env) (t:gO):gQ:=match t.k with
 | .jM s=> .iface 188 (.agg #[gh t.a,gh t.b,gH s])
 | .start n=> .iface 196 (.agg #[gh t.a,gh t.b,gH n,E.tv])
 | .stop n=> .iface 197 (.agg #[gh t.a,gh t.b,gH n,E.tv])
 | .gR s=> .iface 198 (.agg #[gh t.a,gh t.b,gH s])
 | .iy n q=> .iface 200 (.agg #[gh t.a,gh t.b,gH n,.bool q])
 | .lost=> .iface 190 (.agg #[gh t.a,gh t.b])
 | .iR=> .iface 186 (.agg #[gh t.a,gh t.b])
def ji (E:Env) (t:gO):Prop:=t.pI=true->t.ib=E.ta
def ru {X : TypeId} {a:Array Field} (b:prog.underlying X=some (.struct a)) (v:gQ) (c:TypeId) (w:gx):(Instr.typeAssert (.iface X v) c X true).run prog w= .ok (.tuple #[v,.bool true]) w:=by
 simp[Instr.typeAssert,ql b]
def Hg {X : TypeId} {c:Array Field} {z : gQ} (d:prog.underlying X=some (.struct c)) (b:(prog.info? X).bind (·.zero)=some z) (a:T≠X) (v:gQ) (h:TypeId) (w:gx):(Instr.typeAssert (.iface T v) h X true).run prog w= .ok (.tuple #[z,.bool false]) w:=by
 have⟨i,hi,b⟩:=Option.bind_eq_some_iff.1 b;simp[Instr.typeAssert,ql d,a,zeroValue,typeInfo,hi,b]
def vV (T:TypeId) (h:T≠188) (v:gQ) (a:TypeId) (w:gx):(Instr.typeAssert (.iface T v) a 188 true).run prog w= .ok (.tuple #[.agg #[gh 0,gh 0,gH jz],.bool false]) w:=Hg underlying188 (by kernel_rfl) h v a w
def tC (T:TypeId) (h:T≠198) (v:gQ) (a:TypeId) (w:gx):(Instr.typeAssert (.iface T v) a 198 true).run prog w= .ok (.tuple #[.agg #[gh 0,gh 0,gH jz],.bool false]) w:=Hg underlying198 (by kernel_rfl) h v a w
def rh (T:TypeId) (h:T≠196) (v:gQ) (a:TypeId) (w:gx):(Instr.typeAssert (.iface T v) a 196 true).run prog w= .ok (.tuple #[.agg #[gh 0,gh 0,gH jz,jc],.bool false]) w:=Hg underlying196 (by kernel_rfl) h v a w
def yU (T:TypeId) (h:T≠197) (v:gQ) (a:TypeId) (w:gx):(Instr.typeAssert (.iface T v) a 197 true).run prog w= .ok (.tuple #[.agg #[gh 0,gh 0,gH jz,jc],.bool false]) w:=Hg underlying197 (by kernel_rfl) h v a w
def wO (T:TypeId) (h:T≠200) (v:gQ) (a:TypeId) (w:gx):(Instr.typeAssert (.iface T v) a 200 true).run prog w= .ok (.tuple #[.agg #[gh 0,gh 0,gH jz,.bool false],.bool false]) w:=Hg underlying200 (by kernel_rfl) h v a w
def afn (T:TypeId) (h:T≠190) (v:gQ) (a:TypeId) (w:gx):(Instr.typeAssert (.iface T v) a 190 true).run prog w= .ok (.tuple #[.agg #[gh 0,gh 0],.bool false]) w:=Hg underlying190 (by kernel_rfl) h v a w
def afT (T:TypeId) (h:T≠186) (v:gQ) (a:TypeId) (w:gx):(Instr.typeAssert (.iface T v) a 186 true).run prog w= .ok (.tuple #[.agg #[gh 0,gh 0],.bool false]) w:=Hg underlying186 (by kernel_rfl) h v a w
def zY (E:Env) (t:gO):jN:=match t.k with
 | .start n=>#[gh t.a,gh t.b,gH n,E.tv]
 | .stop n=>#[gh t.a,gh t.b,gH n,E.tv]
 |_=>#[gh 0,gh 0,gH jz,jc]
def zr (E:Env) (t:gO) (w:gx):
  Calls prog 94 #[iJ E t] w λe w'=>e=iw (gH t.chars)/\Kept [] w w':=by
 obtain⟨a,b,k,gM⟩:=t;have c:=ru underlying188;have d:=vV;cases k
 all_goals
  simp only[iJ,gO.chars];go_enter func94,ntmps94;go_wp2;go_ret;exact⟨rfl,(Kept.refl _ _).alloc _⟩
def ze (E:Env) (t:gO) (w:gx) (l:∃c n d,E.tv= .slice c n d):
  Calls prog 177 #[iJ E t] w λe w'=>e=iw (.agg (zY E t))/\Kept [] w w':=by
 have⟨a,b,k,gM⟩:=t;obtain⟨c,n,d,h⟩:=l;have o:=ru underlying196;have r:=ru underlying197;have u:=rh;have x:=yU;cases k
 all_goals
  simp only[iJ,zY,h];go_enter func177,ntmps177;go_wp2
  first
  |refine oR (v:= .agg #[gh 0,gh 0,gH jz,jc]) ?_ rfl ⟨rfl,(Kept.refl _ _).alloc _⟩
  |refine oR (v:= .agg #[gh a,gh b,gH _,.slice c n d]) ?_ rfl ⟨rfl,((Kept.refl _ _).alloc _).alloc _⟩
  simp[results,results177,asAddr,Result.andThen,go_sem]
def JH (E:Env) (t:gO) (w:gx):
  Calls prog 189 #[iJ E t] w λe w'=>e=iw (.bool (tU t.chars))/\Kept [] w w':=by
 have a:=zr E t w;go_enter func189,ntmps189
 go_wp21
 refine a.mono ?_;rintro e w' ⟨rfl,b⟩;go_wp2;go_ret;refine⟨?_,b⟩;show Ending.returned (.bool (t.chars.toList==[0]))=_;unfold tU la;simp
def YV (c:UInt8):decide (0<=Lib.indexByte [32,9,10,12] c)=lM ⟨#[c]⟩:=by
 unfold lM im la;simp only[tJ,List.any_cons,List.any_nil,Bool.or_false]
 by_cases a:c=32
 .subst a;rfl
 by_cases b:c=9
 .subst b;rfl
 by_cases d:c=10
 .subst d;rfl
 by_cases h:c=12
 .subst h;rfl
 simp[Lib.indexByte,a,b,d,h,List.findIdx_cons,ye]
theorem JE (s:gz) (w:gx):
  Calls prog 297 #[gH s] w λe w'=>e=iw (.bool (lM s))/\Kept [] w w':=by
 by_cases a:s.size=1
 .obtain⟨c,rfl⟩:∃c,s=⟨#[c]⟩:=by
   have⟨d⟩:=s;have o:d.size=1:=a;have⟨c,hc⟩:=Array.size_eq_one_iff.1 o
   grind
  have b:=(λw=>Tryz.strings_Contains_one mZ c w);have l:=fV (YV c);go_enter func297,ntmps297
  go_wp21
  refine(b _).mono ?_;rintro e w' ⟨rfl,rfl⟩;go_wp2;go_ret;exact⟨by rw[<-l.out];rfl,Kept.refl _ _⟩
 .have u:lM s=false:=by
   unfold lM im;simp only[List.any_cons,List.any_nil,Bool.or_false];have r:∀c:UInt8,la s ⟨#[c]⟩=false:=by
    intro c;rw[Bool.eq_false_iff];intro h;rw[xZ]at h;subst h;exact a rfl
   simp[r]
  rw[u];have x:((s.size:Int)==1)=false:=by rw[Nw];omega
  go_enter func297,ntmps297;go_wp2;go_ret;exact⟨rfl,Kept.refl _ _⟩
def aff (v:gQ):Prop:=v= .nilFunc\/∃k a l,v= .func k a l
def sY:List gQ->gQ
 |[]=> .func (.func 97) #[] #[]
 | .nilFunc::r=>sY r
 |v::_=>v
theorem Qs (g o:Nat) (vs:List gQ) (w:gx) (z:w.heap[g]?=some (gL vs.toArray 168)) (J:∀v∈vs,aff v) (I:vs.length<=4096):
  Calls prog 316 #[oe g vs.length o] w λe w'=>e=iw (sY vs)/\w'=w:=by
 obtain⟨m,B⟩:∃m,m=sY vs:=⟨_,rfl⟩;rw[<-B];have O:sY (vs.drop 0)=m:=by rw[B];rfl
 have D:=J;have C:=fV z;obtain⟨n,d⟩:∃n,n=vs.length:=⟨_,rfl⟩;rw[<-d]at I|-;have y:=fV d;clear z d;go_enter func316,ntmps316
 go_wp21
 go_loopw [7] (λv wr=>∃k:Nat,v=gh k/\k<=n/\sY (vs.drop k)=m/\wr=w) (λv _=>n - (intOf v).toNat)
 case atStart=>grind
 case round=>
  obtain⟨k,rfl,R,c,rfl⟩:=hrel;have N:=c
  by_cases x:k < n
  .have b:k < vs.length:=by rw[<-y.out];exact x
   have G:=DD b;have F:wr.cell? ⟨g,k,none⟩=some vs[k]:=by rw[fW C.out];simp[b]
   have A:=D vs[k] (uw b);rw[G]at c;generalize vs[k]=u at c F A;rcases A with rfl|⟨f,a,l,rfl⟩
   .have h:=fV c;clear c
    go_wp21
    rename_i K r;refine r _ _ ?_;simp only[Bool.not_true];go_wp2;go_roundw
    case rel=>exact⟨k+1,by go_num,by omega,h,trivial⟩
    case measure=>simp[intOf];omega
   .have h:=fV c;clear c
    go_wp21
    rename_i K r;refine r _ _ ?_;simp only[Bool.not_false];go_wp2;go_ret;exact⟨by rw[<-h.out];rfl,rfl⟩
  .have H:vs.drop k=[]:=List.drop_eq_nil_of_le (by rw[<-y.out];omega);rw[H]at c;have h:=fV c;clear c;go_wp2;go_ret;exact⟨by rw[<-h.out];rfl,rfl⟩
def j5:List Ru->Ru
 |[]=> .nothing
 | .nil::r=>j5 r
 |x::_=>x
def Bd:Option (List (List gz×Ru))->gz->Ru
 |none,_=> .nil
 |some R,k=>(pa R k).getD .nil
def kj (sp:nc) (t:gO):Ru:=match t.k with
 | .jM s=>if lM s then j5 [sp.blank,sp.jM,sp.ir]else j5 [sp.jM,sp.ir]
 | .gR _=>j5 [sp.gR,sp.ir]
 | .iy _ _=>j5 [sp.iy,sp.ir]
 | .start n=>j5 [Bd sp.start n,sp.jG,sp.ir]
 | .stop n=>j5 [Bd sp.stop n,sp.j8,sp.ir]
 | .lost=>j5 [sp.iR,sp.ir]
 | .iR=>j5 [sp.iR,sp.ir]
theorem nY.isF {r : Ru} (h:nY bm bB bD r v w):(r= .nil/\v= .nilFunc)\/(r≠ .nil/\∃k a l,v= .func k a l):=by
 cases r with
 |nil=>exact .inl ⟨rfl,h⟩
 |nothing=>exact .inr ⟨by simp,_,_,_,h⟩
 |ik f=>exact .inr ⟨by simp,_,_,_,h⟩
 |pO m=>have⟨b1,b2,e,_⟩:=h;grind
 |gR pf own=>have⟨b1,e,_⟩:=h;grind
 |ahead f=>have⟨b1,b2,e,_⟩:=h;grind
 |ends f=>have⟨b1,e,_⟩:=h;grind
 |Om r=>have⟨b1,b2,u,e,_⟩:=h;grind
 |sA ks m=>have⟨b1,b2,b3,u,e,_⟩:=h;grind
 |ot ks n m=>have⟨b1,b2,b3,b4,u,e,_⟩:=h;grind
 |item ks=>have⟨b1,b2,b3,u1,u2,e,_⟩:=h;grind
def nY.fv {r : Ru} (h:nY bm bB bD r v w):aff v:=by
 rcases h.isF with⟨_,e⟩|⟨_,e⟩
 .exact .inl e
 .exact .inr e
inductive wT (bm bB bD:Nat) (w:gx):List Ru->List gQ->Prop
 |nil:wT bm bB bD w [] []
 |cons {r:Ru} {v:gQ} {rs:List Ru} {vs:List gQ} (h:nY bm bB bD r v w) (t:wT bm bB bD w rs vs):wT bm bB bD w (r::rs) (v::vs)
theorem wT.first (h:wT bm bB bD w rs vs):nY bm bB bD (j5 rs) (sY vs) w:=by
 induction h with
 |nil=>rfl
 |@cons r v rs vs h t ih=>
  rcases h.isF with⟨rfl,rfl⟩|⟨b,k,a,l,rfl⟩
  all_goals grind[nY,j5,sY]
theorem wT.isF (h:wT bm bB bD w rs vs):∀v∈vs,aff v:=by
 induction h with
 |nil=>simp
 |cons h t ih=>intro v a;rcases List.mem_cons.1 a with rfl|a;exact h.fv;grind
def uJ (h:wT bm bB bD w rs vs) (b:vs.length<=4096) (a:W.heap.size=g):
  Calls prog 316 #[oe g vs.length vs.length] (W.alloc (gL vs.toArray 168)) λe w'=>e=iw (sY vs)/\w'=W.alloc (gL vs.toArray 168):=by
 subst a;exact Qs _ _ vs _ (fX _ _) h.isF b
def aeM (h:v.oneCell'=true):v.cells=#[v]:=by
 cases v<;>first|rfl|(simp[Value.oneCell']at h)
def wR {v0 v1 v2 v3 v4 v5 v6 v7 v8 v9 : gQ} (h:∀v∈[v0,v1,v2,v3,v4,v5,v6,v7,v8,v9],v.oneCell'=true):v0.cells=#[v0]/\v1.cells=#[v1]/\v2.cells=#[v2]/\v3.cells=#[v3]/\v4.cells=#[v4]/\v5.cells=#[v5]/\v6.cells=#[v6]/\v7.cells=#[v7]/\v8.cells=#[v8]/\v9.cells=#[v9]:=by
 refine⟨?_,?_,?_,?_,?_,?_,?_,?_,?_,?_⟩<;>exact aeM (h _ (by simp))
def F1 (w:gx) (o a:Obj):((w.alloc o).alloc a).heap[w.heap.size]?=some o:=(Below.heap_alloc _ _ _ (by simp)).trans (fX w _)
def acM (E:Env) (bB bD a b:Nat) (s:gz) (gM:lZ) (sp:nc) (v0 v1 v2 v3 v4 v5 v6 v7 v8 v9:gQ) (w:gx) (h:li E.bm bB bD sp v0 v1 v2 v3 v4 v5 v6 v7 v8 v9 w):
  Calls prog 264 #[.agg #[v0,v1,v2,v3,v4,v5,v6,v7,v8,v9],iJ E ⟨a,b,.jM s,gM⟩] w λe w'=>∃v,e=iw v/\nY E.bm bB bD (kj sp ⟨a,b,.jM s,gM⟩) v w/\Kept [] w w':=by
 have⟨R,J,k2,k3,k4,k5,k6,k7,k8,K⟩:=wR h.one;have l:=fV h;clear h;have F:=fV (λo=>F1 w (gL #[v0,v1,v2,v3,v4,v5,v6,v7,v8,v9] 172) o);have A:=fV (fX w (gL #[v0,v1,v2,v3,v4,v5,v6,v7,v8,v9] 172));have u:=fV (λo=>((Kept.refl [] w).alloc (gL #[v0,v1,v2,v3,v4,v5,v6,v7,v8,v9] 172)).alloc o);have B:=fV ((Kept.refl [] w).alloc (gL #[v0,v1,v2,v3,v4,v5,v6,v7,v8,v9] 172));simp only[iJ];have z:=ru underlying188;have D:=fV (λW=>JE s W);go_enter func264,ntmps264
 go_wp21
 refine(D.out _).mono ?_;rintro e w1 ⟨rfl,r⟩;have y:=r.at (F.out _) (by simp);have G:=fV ((u.out _).trans r);have V:=fW y 0;have X:=fW y 1;have Y:=fW y 9;dsimp at V X Y;clear y r F A u B D;have f0:=l.out.blank.fv;have H:=l.out.jM.fv;have I:=l.out.ir.fv;cases hb:lM s with
 |true=>
  have x:kj sp ⟨a,b,.jM s,gM⟩=j5 [sp.blank,sp.jM,sp.ir]:=by simp[kj,hb]
  have c:Hid (wT E.bm bB bD w _ [v0,v1,v9]):=fV (.cons l.out.blank (.cons l.out.jM (.cons l.out.ir (.nil))));have C:=fV x;clear x hb;rcases f0 with rfl|⟨R,a0,l0,rfl⟩
  all_goals rcases H with rfl|⟨J,N,S,rfl⟩
  all_goals rcases I with rfl|⟨K,O,U,rfl⟩
  all_goals go_wp21
  all_goals refine(uJ c.out (by simp) (by simp)).mono ?_
  all_goals rintro e Z ⟨rfl,rfl⟩
  all_goals have d:=fV c.out.first
  all_goals simp only[sY]at d|-
  all_goals go_wp2
  all_goals go_ret
  all_goals exact⟨_,rfl,C.out▸d.out,G.out.alloc _⟩
 |false=>
  have x:kj sp ⟨a,b,.jM s,gM⟩=j5 [sp.jM,sp.ir]:=by simp[kj,hb]
  have c:Hid (wT E.bm bB bD w _ [v1,v9]):=fV (.cons l.out.jM (.cons l.out.ir (.nil)));have C:=fV x;clear x hb;rcases H with rfl|⟨J,N,S,rfl⟩
  all_goals rcases I with rfl|⟨K,O,U,rfl⟩
  all_goals go_wp21
  all_goals refine(uJ c.out (by simp) (by simp)).mono ?_
  all_goals rintro e Z ⟨rfl,rfl⟩
  all_goals have d:=fV c.out.first
  all_goals simp only[sY]at d|-
  all_goals go_wp2
  all_goals go_ret
  all_goals exact⟨_,rfl,C.out▸d.out,G.out.alloc _⟩
def Uc (E:Env) (bB bD a b:Nat) (gM:lZ) (sp:nc) (v0 v1 v2 v3 v4 v5 v6 v7 v8 v9:gQ) (w:gx) (h:li E.bm bB bD sp v0 v1 v2 v3 v4 v5 v6 v7 v8 v9 w):
  Calls prog 264 #[.agg #[v0,v1,v2,v3,v4,v5,v6,v7,v8,v9],iJ E ⟨a,b,.iR,gM⟩] w λe w'=>∃v,e=iw v/\nY E.bm bB bD (kj sp ⟨a,b,.iR,gM⟩) v w/\Kept [] w w':=by
 have⟨k0,k1,k2,k3,H,k5,k6,k7,k8,I⟩:=wR h.one;have z:=fV h;clear h;have D:=fV (λo=>F1 w (gL #[v0,v1,v2,v3,v4,v5,v6,v7,v8,v9] 172) o);have l:=fV (fX w (gL #[v0,v1,v2,v3,v4,v5,v6,v7,v8,v9] 172));have B:=fV (λo=>((Kept.refl [] w).alloc (gL #[v0,v1,v2,v3,v4,v5,v6,v7,v8,v9] 172)).alloc o);have C:=fV ((Kept.refl [] w).alloc (gL #[v0,v1,v2,v3,v4,v5,v6,v7,v8,v9] 172));simp only[iJ];have A:=vV;have r:=tC;have u:=wO;have d:=rh;have x:=yU;have J:=fW l.out 4;have K:=fW l.out 9;dsimp at J K;clear D l B;have c:Hid (wT E.bm bB bD w _ [v4,v9]):=fV (.cons z.out.iR (.cons z.out.ir (.nil)));have F:=z.out.iR.fv;have G:=z.out.ir.fv;go_enter func264,ntmps264;rcases F with rfl|⟨H,N,R,rfl⟩
 all_goals rcases G with rfl|⟨I,O,S,rfl⟩
 all_goals go_wp21
 all_goals refine(uJ c.out (by simp) (by simp)).mono ?_
 all_goals rintro e U ⟨rfl,rfl⟩
 all_goals have y:=fV c.out.first
 all_goals simp only[sY]at y|-
 all_goals go_wp2
 all_goals go_ret
 all_goals exact⟨_,rfl,y.out,C.out.alloc _⟩
section
variable {α β:Type} {E:Env} {f0:Nat->Nat} {n0:Nat} {w0:gx} {f:Nat->Nat} {σ:Ab} {w:gx}
theorem je.PX {k:Nat} {args:(Nat->Nat)->jN} {m:M α} {l:(Nat->Nat)->α->gQ} (D:je E k args m l) (H:At E f0 n0 w0 f σ w) {R:qI β} {K:α->M β} (d:R=(m>>=K) σ) (G:R≠ .stuck) {A:jN} (hA:args f=A) {Q:Ending->gx->Prop}
  (x:∀c p j w',R= .stop c p->kG w' j c p->Fr E.bs w0 w'->Q (rq j) w')
  (u:∀a g b w',At E f0 n0 w0 g b w'->SR σ.nodes.length f g->Fr E.bs w w'->R=K a b->m σ= .ok a b->Q (iw (l g a)) w'):Calls prog k A w Q:=by
 rw[M.gE]at d;have B:m σ≠ .stuck:=λe=>G (by grind);have h:=D f σ w H.rel B;rw[hA]at h;refine h.mono ?_;intro e w' o;cases hr:m σ with
 |ok a b=>
  rw[hr]at o d;obtain⟨g,y,r,rfl,F,z⟩:=o;exact u a g b w' (H.go F y r z) y z d hr
 |stop c p=>
  rw[hr]at o d;obtain⟨j,rfl,r,C⟩:=o;exact x c p j w' d r (H.fr.trans C)
 |stuck=>exact absurd hr B
theorem kF.PX {k:Nat} {args:(Nat->Nat)->jN} {m:M α} {l:(Nat->Nat)->α->gQ} (D:kF E k args m l) (H:At E f0 n0 w0 f σ w) {R:qI β} {K:α->M β} (d:R=(m>>=K) σ) (G:R≠ .stuck) {A:jN} (hA:args f=A) {Q:Ending->gx->Prop}
  (u:∀c p j w',R= .stop c p->kG w' j c p->Fr E.bs w0 w'->Q (rq j) w')
  (r:∀a b w',At E f0 n0 w0 f b w'->Fr E.bs w w'->R=K a b->m σ= .ok a b->Q (iw (l f a)) w'):Calls prog k A w Q:=by
 rw[M.gE]at d;have y:m σ≠ .stuck:=λe=>G (by grind);have h:=D f σ w H.rel y;rw[hA]at h;refine h.mono ?_;intro e w' o;cases hr:m σ with
 |ok a b=>
  rw[hr]at o d;obtain⟨rfl,C,x,F⟩:=o;exact r a b w' (H.to C F x) x d hr
 |stop c p=>
  rw[hr]at o d;obtain⟨j,rfl,z,B⟩:=o;exact u c p j w' d z (H.fr.trans B)
 |stuck=>exact absurd hr y
def mE {k:Nat} {args:(Nat->Nat)->jN} {m:M α} {d:(Nat->Nat)->α->gQ} (D:kF E k args m d) (H:Hid (At E f0 n0 w0 f σ w)) {R:qI β} {K:α->M β} (x:Hid (R=(m>>=K) σ)) (y:Hid (R≠ .stuck)) {A:jN} (hA:args f=A) {Q:Ending->gx->Prop}
  (l:∀c p j w',Hid (R= .stop c p/\kG w' j c p/\Fr E.bs w0 w')->Q (rq j) w')
  (h:∀a b w',Hid (At E f0 n0 w0 f b w')->Hid (Fr E.bs w w')->Hid (R=K a b)->Hid (m σ= .ok a b)->Q (iw (d f a)) w'):Calls prog k A w Q:=kF.PX D H x y hA (λc p j w' o r u=>l c p j w' ⟨o,r,u⟩) h
end
attribute [local go_sem] Oper.semAt_some
def zJ {f : jk->jk} (c:∀x y,f x=f y->x=y):∀{a b:kV},a.map f=b.map f->a=b
 |[],[],_=>rfl
 |[],_::_,h=>by simp at h
 |_::_,[],h=>by simp at h
 |x::a,y::b,h=>by
  simp only[Aj,SK]at h;rw[c x y h.1,zJ c h.2]
theorem Ui {f : jk->jk} (b:∀x y,f x=f y->x=y) {a ys : kV} (h:a.map f <+:ys.map f):a <+:ys:=by
 have⟨t,ht⟩:=h;have c:a.length<=ys.length:=by have:=sn List.length ht;simp at this;omega
 refine⟨ys.drop a.length,?_⟩;have e:a.map f=(ys.take a.length).map f:=by
  rw[List.map_take,<-ht];simp
 rw[zJ b e]
 simp_all
def Iu (o:Oper):Bool:=match o.op with
 | .defer _=>false
 |_=>true
theorem OG {o:Oper} (h:Iu o=true):∀c,o.op≠ .defer c:=by
 intro c e;unfold Iu at h
 grind
section
variable {n:Nat} {P:Program} {ops:Array Oper} {Q:Exit->Act->gx->Prop} {md:Region.Mode}
def Mh (l:Nat) (y:∀(i:Nat) o,ops[i]?=some o->Iu o=true):∀c b a w,wpAnyIn Fence.wide n P md ops Q c b a w->wpAnyIn (Fence.wide.inRound l) n P md ops Q c b a w:=by
 intro c
 induction c with
 |zero=>exact λb a w h=>h
 |succ c ih=>
  intro b a w h;refine⟨h.1,λi z=>?_⟩;have d:=h.2 i z;unfold wpOpIn at d|-;cases ho:ops[i]? with
  |none=>rw[ho]at d;exact ih _ _ _ d
  |some o=>
   rw[ho]at d;simp only at d|-;split
   .rename_i r;rw[gJ r]at d;have u:=Oper.wpIn_mono (K':=wpAnyIn (Fence.wide.inRound l) n P md ops Q c (b.setIfInBounds i true)) (λa w h=>ih _ a w h) d;refine⟨u.1,?_⟩;have x:=u.2;have e1:o.semAt (Fence.wide.inRound l).round a.eval=execOp a.eval o:=afM l a.eval o (OG (y i o ho));have e2:o.semAt Fence.wide.round a.eval=execOp a.eval o:=by
     show o.semAt none a.eval=_;unfold Oper.semAt;cases o.op<;>rfl
    rw[e1]
    rwa [e2]at x
   .rename_i r;rw[gV r]at d;exact⟨d.1,ih _ _ _ d.2⟩
theorem Bj {id:Nat} {a:Act} {w:gx} {l:List Oper} (L:Nat) (o:P.follows .mixedOrders=true) (c:Region.lexB .any l.toArray=true) (r:l.all Iu=true)
  (h:wpQuietIn Fence.wide n P l.toArray (λw'=>∃n,w'=w.drewN n) (λb=>∀w',(∃n,w'=w.drewN n)->Q .normal b w') l a):(Code.region id l.toArray true).wpIn (Fence.wide.inRound L) n P Q a w:=by
 simp only[Region.lexB,sq]at c;refine wpIn_region_any o (Mh L ?_ _ _ _ _ (wpAnyIn_of_quiet (C:=λw'=>∃n,w'=w.drewN n) (Q:=λb=>∀w',(∃n,w'=w.drewN n)->Q .normal b w') rfl (λ_ w' d h=>h w' d) _ _ _ _ ⟨1,rfl⟩ ?_))
 .grind
 .have:=wpAnyQIn_lex (F:=Fence.wide) (n:=n) (C:=λw'=>∃n,w'=w.drewN n) (md:= .any) c.1 l.toArray.toList 0 (Array.replicate l.toArray.size false) a (by simp) (by simpa using c.2) (by simpa using h)
  simpa using this
end
attribute [local go_sem] Oper.semAt_some
def adI (T c:List Nat) (I:kV->gx->Prop) (b:Code->kV->gx->Prop) (a:kV) (W:gx):Exit->Act->gx->Prop
 | .normal,_,W'=>Kept T W W'/\I a W'
 | .ret,_,W'=>Kept c W W'/\b .ret a W'
 | .exit id,_,W'=>Kept c W W'/\b (.exit id) a W'
 | .goto t,_,W'=>Kept c W W'/\b (.goto t) a W'
 | .panic _,_,_=>False
 | .outgrown,_,_=>False
theorem Fa {n:Nat} (hn:3<=n) {base b j:Nat} {tB:TypeId} {C:jN} {v:gQ} {f:jk->jk} (hf:∀x y,f x=f y->x=y) {ys:kV} {w1:gx} (hL:xR base b j tB C v (ys.map f) w1)
  {g:Operand} {p:Tmp} {z Y:Code} {Q:Exit->Act->gx->Prop} {a:Act} (hg:a.eval g=vJ w1.heap.size)
  (T Tx:List Nat) (hT:∀k∈T,k < w1.heap.size/\k≠b/\v.ownBlock≠some k) (ad:∀k∈Tx,k < w1.heap.size)
  (I:kV->gx->Prop) (Ix:Code->kV->gx->Prop)
  (hI:OwnFrom (w1.heap.size+2) I) (a5:∀c,OwnFrom (w1.heap.size+2) (Ix c)) (h0:I [] (mX b j ys.length w1)) (O:jk->Act)
  (S:∀(l:Nat) (x:jk) (W:gx) (K:Act->gx->Prop),K (O x) W->
   z.wpIn (Fence.wide.inRound l) (n - 1 - 1) prog (Exit.then K (λ_ _ _=>False)) {tmps:=a.tmps.setIfInBounds p (kI x),defers:=[]} W)
  (a0:∀(l:Nat) (pre:kV) (y:jk) (W:gx),y∈ys->I pre W->Y.wpIn (Fence.wide.inRound l) (n - 1 - 1) prog (adI T Tx I Ix (pre++[y]) W) (O (f y)) W)
  (a9:∀(D:Nat) (W:gx),w1.heap.size+2<=D->I ys.reverse W->W.heap[D]?=some (.deferred (some []))->Q .normal {a with defers:={target:= .collected D,args:=#[]}::a.defers} W)
  (a2:∀(D:Nat) (c:Code) (pre:kV) (W:gx),w1.heap.size+2<=D->pre <+:ys.reverse->Ix c pre W->W.heap[D]?=some (.deferred (some []))->c.wpIn Fence.wide n prog Q {a with defers:={target:= .collected D,args:=#[]}::a.defers} W):
  (Code.rangeFunc g #[p] z Y).wpIn Fence.wide n prog Q a (mX b j ys.length w1):=by
 have r:(mX b j ys.length w1).heap.size=w1.heap.size+2:=by simp
 have a8:=iX hL.iC;have aa:Kept [] w1 (mX b j ys.length w1):=((Kept.refl _ _).alloc _).alloc _;have a7:xR base b j tB C v (ys.map f) (mX b j ys.length w1):=hL.FG (kP.jQ (K:=b::v.ownBlock.toList) aa (λk d=>⟨by
  rcases List.mem_cons.1 d with rfl|d
  .exact a8
  .exact(hL.row.lt k (by simpa using d)).2,by simp⟩)) (by simp) (λk d=>by simp[d])
 have⟨b0,b1⟩:=(⟨(Below.heap_alloc _ _ _ (by simp)).trans (fX w1 _),by
   have:=fX (w1.alloc (gL #[jO b j] 280)) (gL #[gh ys.length] 3)
   simp_all⟩:(mX b j ys.length w1).heap[w1.heap.size]?=some (gL #[jO b j] 280)/\(mX b j ys.length w1).heap[w1.heap.size+1]?=some (gL #[gh ys.length] 3))
 obtain⟨K,hK⟩:∃K,K=b::w1.heap.size::v.ownBlock.toList:=⟨_,rfl⟩;have a3:∀k∈K,k < w1.heap.size+2:=by
  intro k d;rw[hK]at d;rcases List.mem_cons.1 d with rfl|d
  .omega
  .rcases List.mem_cons.1 d with rfl|d
   .omega
   .have:=(hL.row.lt k (by simpa using d)).2;omega
 have a6:∀k∈K,k∉T:=by
  intro k d a1;have⟨t1,t2,t3⟩:=hT k a1;rw[hK]at d;rcases List.mem_cons.1 d with rfl|d
  .omega
  .grind
 have ab:=Sx (n - 1) (by omega) base b j tB C v (ys.map f) ys.length w1.heap.size K _ a7 (by simp) (by rw[hK];simp) (by rw[hK];simp) (by grind) (by simp) b1 b0;have ac:∀{α:Type} {W N:gx} {U:jk} {B:Nat},B<=W.heap.size->W.grownBy N U->B<=N.heap.size:=λG H=>j7 G H.size;refine wpIn_rangeFunc_ownG rfl (by omega) (gf:=357) hg trivial (Go.Proofs.enters_of func357 (by rfl) rfl) ab kP.trans (λW l o o' hl G H h3=>kP.put (w:=mX b j ys.length w1) (by rw[r];omega) W l o o' hl G H h3) (Below.refl _ _) (λ_=>rfl)
  (λpre W=>w1.heap.size+2<=W.heap.size/\∃h,pre.map (·.1)=h.map f/\I h W) (λc pre W=>∃h,pre.map (·.1)=h.map f/\Ix c h W) ?_ ?_ ?_ (λx=>O x.1) ?_ ?_ ?_ ?_
 .rintro s A B U ⟨hs,h,G,H⟩ X hr;rw[r]at hr;exact⟨j7 hs X.size,h,G,hI h A B U H X hr⟩
 .rintro c s A B U ⟨h,G,H⟩ X hr;rw[r]at hr;exact⟨h,G,a5 c h A B U H X hr⟩
 .grind
 .intro l x W K' V;have:=S l x.1 W K' V;have e:(#[p].zip #[kI x.1]).foldl (λt (p,v)=>t.setIfInBounds p v) a.tmps=a.tmps.setIfInBounds p (kI x.1):=by simp
  rw[e];exact this
 .rintro l pre ⟨x,hx⟩ W ⟨hs,h,G,H⟩ _;obtain⟨y,hy,rfl⟩:=List.mem_map.1 hx;refine yx (a0 l h y W hy H) ?_;have a4:∀{N:gx},Kept T W N->KeepsFrom (mX b j ys.length w1).heap.size W N:=by
   intro N d;refine⟨d.size,λk o Z ho _=>?_⟩;rw[r]at Z;rw[d.block k (Array.getElem?_eq_some_iff.1 ho).1 (λa1=>by grind)];exact ho
  have u:∀{N:gx},Kept Tx W N->KeepsFrom (mX b j ys.length w1).heap.size W N:=by
   intro N d;refine⟨d.size,λk o Z ho _=>?_⟩;rw[r]at Z;rw[d.block k (Array.getElem?_eq_some_iff.1 ho).1 (λa1=>by grind)];exact ho
  have F:(pre++[(⟨f y,hx⟩:{x:jk // x∈ys.map f})]).map (·.1)=(h++[y]).map f:=by rw[sj,G];simp
  intro e a' N J;cases e with
  |normal=>exact⟨a4 J.1,kP.jQ J.1 (λk d=>⟨mi (a3 k d) hs,a6 k d⟩),j7 hs J.1.size,_,F,J.2⟩
  |ret=>exact⟨u J.1,_,F,J.2⟩
  |exit id=>exact⟨u J.1,_,F,J.2⟩
  |goto t=>exact⟨u J.1,_,F,J.2⟩
  |panic _=>exact J
  |outgrown=>exact J
 .rintro D xs W hD hS ⟨_,h,G,H⟩ V;rw[r]at hD;have R:xs.map (·.1)=((ys.map f).take ys.length).reverse:=hS;rw[G,BF (by simp),<-Wd]at R;rw[zJ hf R]at H
  grind
 .rintro D c pre W hD hS ⟨h,G,H⟩ V;rw[r]at hD;have R:pre.map (·.1) <+:((ys.map f).take ys.length).reverse:=hS;rw[G,BF (by simp),<-Wd]at R;exact a2 D c h W hD (Ui hf R) H V
def VZ:=λ{n:Nat} (y:3<=n) {d b j z C v} {f:jk->jk} r {B A} o {g p c h Q a} u T l=>@Fa n y d b j z C v f r B A o g p c h Q a u T T l (λk x=>(l k x).1)
attribute [local go_sem] Oper.semAt_some
def Kt {σ:Ab}:∀{a:kV},(∀y∈a,p (σ.rM y)=false/\q (σ.rM y)=false)->σ.yv p q a=false
 |[],_=>rfl
 |x::a,h=>by
  unfold Ab.yv;have⟨h1,h2⟩:=h x (by simp);rw[h1,h2];exact Kt λy b=>h y (by simp[b])
theorem Ku {σ:Ab} {r : Bool} {y : jk} {a : kV} (c:(p (σ.rM y)=true/\r=true)\/(p (σ.rM y)=false/\q (σ.rM y)=true/\r=false)):∀{b:kV},(∀y∈b,p (σ.rM y)=false/\q (σ.rM y)=false)->σ.yv p q (b++[y]++a)=r
 |[],_=>by
  grind[Ab.yv]
 |x::b,h=>by
  show σ.yv p q (x::(b++[y]++a))=r;unfold Ab.yv;have⟨h1,h2⟩:=h x (by simp);rw[h1,h2];exact Ku c λy d=>h y (by simp[d])
theorem Kept.take (h:Kept [] w W) {D : Nat} (a:w.heap.size<=D) (o:Obj):Kept [] w (W.putObj D o):=h.grown (xB W D o) (λk e=>by grind)
theorem kX {A B : gx} {a : jk} {k : Nat} {o : Obj} (h:A.heap[k]?=some o) (b:A.grownBy B a) (d:∀r,a=some r->n<=r/\∃o:Obj,A.heap[r]?=some o/\o.isCells=false) (c:k < n):B.heap[k]?=some o:=by
 rw[b.block k (Array.getElem?_eq_some_iff.1 h).1 (λe=>by grind)];exact h
theorem mB {A B : gx} {a : jk} (h:Kept [] w A) (b:A.grownBy B a) (d:∀r,a=some r->n<=r/\∃o:Obj,A.heap[r]?=some o/\o.isCells=false) (c:w.heap.size<=n):Kept [] w B:=h.grown b (λk e=> .inr (by grind))
theorem wL {σ:Ab} (h:RF E f σ w) (p q:gz->Bool) (vs vb:gQ) (hs:Ask E.bm vs p w) (hb:Ask E.bm vb q w):
  Calls prog 238 #[Bp E,vs,vb] w λe w'=>e=iw (.bool (σ.inScope p q))/\Kept [] w w':=by
 obtain⟨L,rfl,o⟩:=h;obtain⟨S,b,rfl,a6,H1⟩:=hs.call;obtain⟨Y,u,rfl,a7,H2⟩:=hb.call;refine(xC (n:=3)).1 ?_;refine xD func238 rfl trivial ?_ rfl;simp only[ntmps238,yf,uk,xI,Nat.reduceAdd,Nat.reduceSub,yg,yh,yi,yj,sg,wo];obtain⟨H,z⟩:∃H,H=((w.alloc (gL #[.func (.func S) #[] b] 89)).alloc (gL #[.func (.func Y) #[] u] 89)).alloc (gL #[.bool false] 4):=⟨_,rfl⟩;have a1:Kept [] w H:=by rw[z];exact(((Kept.refl _ _).alloc _).alloc _).alloc _
 have⟨b0,b1,b2⟩:=oQ w (gL #[.func (.func S) #[] b] 89) (gL #[.func (.func Y) #[] u] 89) (gL #[.bool false] 4);rw[<-z]at b0 b1 b2;have a:H.heap.size=w.heap.size+1+1+1:=by rw[z];simp
 have a3:=o.io a1;have⟨C,HL,hC⟩:=a3.zI;have a8:=o.lt;have HU:=Xu E.bs E.bB 188 _ C _ _ H HL;have HO:=(λg (O:L.ov.ownBlock=some g)=>Ds o.pF O);have HN:=fV (λ(W:gx) (G:Kept [] w W) (i:Nat) (e:Ak) (hi:σ.ij i=some e)=>(o.io G).vW hi);have HS:=(λ(y:jk) (F:y∈σ.gG)=>o.oH F);have HI:=fV o.inj;clear o a3 hC hs hb
 gi_wp2_with (refine⟨trivial,?_⟩;gi_at_call 294;rw[<-z];refine(callsIn_wide.2 HU).mono ?_;rintro e w' ⟨rfl,rfl⟩)
 rw[<-a,<-z];have HZ:=fV a;clear a z;refine VZ (by omega) (f:=iG L.gS) (λx y e=>sD HI.out e) HL rfl [w.heap.size+1+1] ?_
  (λpre W=>Kept [] w W/\W.heap[w.heap.size]?=some (gL #[.func (.func S) #[] b] 89)/\W.heap[w.heap.size+1]?=some (gL #[.func (.func Y) #[] u] 89)/\W.heap[w.heap.size+1+1]?=some (gL #[.bool false] 4)/\∀y∈pre,p (σ.rM y)=false/\q (σ.rM y)=false)
  (λc pre W=>c= .ret/\Kept [] w W/\∃d y r,pre=d++[y]/\(∀y∈d,p (σ.rM y)=false/\q (σ.rM y)=false)/\((p (σ.rM y)=true/\r=true)\/(p (σ.rM y)=false/\q (σ.rM y)=true/\r=false))/\W.heap[w.heap.size+1+1]?=some (gL #[.bool r] 4))
  ?_ ?_ ?_ (λx=>{tmps:=#[Bp E,.func (.func S) #[] b,.func (.func Y) #[] u,undef,gN w.heap.size,gN (w.heap.size+1),gN (w.heap.size+1+1),kI x,Bp E,gN E.bB,jO E.bB 188,vJ H.heap.size,kI x,undef,undef,undef,undef,undef,undef,undef,undef,undef,undef,undef,undef,undef,undef],defers:=[]}) ?assign ?body ?done ?stop
 .grind
 .rintro s A B a5 ⟨h1,h2,R,J,N⟩ O o;have a:=HZ.out;exact⟨mB h1 O o (by omega),kX h2 O o (by omega),kX R O o (by omega),kX J O o (by omega),N⟩
 .rintro c s A B a5 ⟨h0,h1,d,y,r,h2,R,J,N⟩ O o;have a:=HZ.out;exact⟨h0,mB h1 O o (by omega),d,y,r,h2,R,J,kX N O o (by omega)⟩
 .have G:Kept [] H (mX E.bB 188 (σ.gG.length) H):=((Kept.refl _ _).alloc _).alloc _;exact⟨a1.trans G,G.at b0 (by simp),G.at b1 (by simp),G.at b2 (by simp),by simp⟩
 case assign=>
  intro l x W K Z;gi_wp2;exact Z
 case body=>
  rintro l pre y W F ⟨I,B2,B3,B4,B5⟩;obtain⟨i,e0,rfl,hi⟩:=HS y F;have c0:=HN.out W I i e0 hi;have c1:=fW B2 0;have c2:=fW B3 0;have U:=fW B4 0;have f3:=gu B4 0;dsimp at c1 c2 U;have HA:=(λW' (G:Kept [] w W')=>H1 W' (.gU G) (σ.nm i));have HB:=(λW' (G:Kept [] w W')=>H2 W' (.gU G) (σ.nm i));have HW:=I.drew;have HT:Hid (∀(r:Bool),Kept [w.heap.size+1+1] W ((W.drew).setCell ⟨w.heap.size+1+1,0,none⟩ (.bool r))/\Kept [] w ((W.drew).setCell ⟨w.heap.size+1+1,0,none⟩ (.bool r))/\((W.drew).setCell ⟨w.heap.size+1+1,0,none⟩ (.bool r)).heap[w.heap.size+1+1]?=some (gL #[.bool r] 4)):=λr=>⟨((Kept.refl _ W).drew).setCell (.inl (by simp)) _,I.drew.setCell (.inr (by simp;omega)) _,gm (show W.drew.heap[w.heap.size+1+1]?=_ from B4) 0 _⟩;have a4:Hid (∀(r:Bool),Kept [w.heap.size+1+1] W ((W.drew.drew).setCell ⟨w.heap.size+1+1,0,none⟩ (.bool r))/\Kept [] w ((W.drew.drew).setCell ⟨w.heap.size+1+1,0,none⟩ (.bool r))/\((W.drew.drew).setCell ⟨w.heap.size+1+1,0,none⟩ (.bool r)).heap[w.heap.size+1+1]?=some (gL #[.bool r] 4)):=λr=>⟨((Kept.refl _ W).drew.drew).setCell (.inl (by simp)) _,I.drew.drew.setCell (.inr (by simp;omega)) _,gm (show W.drew.drew.heap[w.heap.size+1+1]?=_ from B4) 0 _⟩;have HN:Hid (Kept [w.heap.size+1+1] W W.drew.drew):=(Kept.refl _ W).drew.drew
  try dsimp only
  rw[show kI (iG L.gS (some i))=gN (L.gS i)from rfl];have a9:prog.follows .mixedOrders=true:=rfl;gi_wp2;refine yx (Q:=λe a' w'=>e=Exit.normal/\a'=({tmps:=#[Bp E,.func (.func S) #[] b,.func (.func Y) #[] u,undef,gN w.heap.size,gN (w.heap.size+1),gN (w.heap.size+1+1),gN (L.gS i),Bp E,gN E.bB,jO E.bB 188,vJ H.heap.size,gN (L.gS i),.bool (p (σ.nm i)),.func (.func S) #[] b,gN (L.gS i),gN (L.gS i),gN (L.gS i),gH (σ.nm i),.bool (p (σ.nm i)),undef,undef,undef,undef,undef,undef,undef],defers:=[]}:Act)/\w'=W.drew) ?_ ?_
  .gi_region_with_o (refine⟨trivial,?_⟩;refine(rA l (callsIn_wide.2 (HA _ HW))).mono ?_;rintro e w' ⟨rfl,rfl⟩)
   all_goals simp
  rintro e a' w' ⟨rfl,rfl,rfl⟩;cases hp:p (σ.nm i)with
  |true=>
   gi_wp2;have⟨t1,t2,t3⟩:=HT.out true;exact⟨t1,rfl,t2,pre,some i,true,rfl,B5,.inl ⟨hp,rfl⟩,t3⟩
  |false=>
   have HP:=hp;clear hp;gi_wp2;refine yx (Q:=λe a' w'=>e=Exit.normal/\a'=({tmps:=#[Bp E,.func (.func S) #[] b,.func (.func Y) #[] u,undef,gN w.heap.size,gN (w.heap.size+1),gN (w.heap.size+1+1),gN (L.gS i),Bp E,gN E.bB,jO E.bB 188,vJ H.heap.size,gN (L.gS i),.bool false,.func (.func S) #[] b,gN (L.gS i),gN (L.gS i),gN (L.gS i),gH (σ.nm i),.bool false,.bool (q (σ.nm i)),.func (.func Y) #[] u,gN (L.gS i),gN (L.gS i),gN (L.gS i),gH (σ.nm i),.bool (q (σ.nm i))],defers:=[]}:Act)/\w'=W.drew.drew) ?_ ?_
   .gi_region_with_o (refine⟨trivial,?_⟩;refine(rA l (callsIn_wide.2 (HB _ HW.drew))).mono ?_;rintro e w' ⟨rfl,rfl⟩)
    all_goals simp
   rintro e a' w' ⟨rfl,rfl,rfl⟩;cases hq:q (σ.nm i)with
   |true=>
    gi_wp2;have⟨t1,t2,t3⟩:=a4.out false;exact⟨t1,rfl,t2,pre,some i,false,rfl,B5,.inr ⟨HP,hq,rfl⟩,t3⟩
   |false=>
    have HQ:=hq;clear hq;gi_wp2;refine⟨HN.out,I.drew.drew,B2,B3,B4,λy F=>?_⟩;rcases List.mem_append.1 F with F|F
    .exact B5 y F
    .rw[List.mem_singleton.1 F];exact⟨HP,HQ⟩
 case done=>
  rintro D W HD ⟨I,h2,R,J,N⟩ Z;have a:=HZ.out;have U:=fW J 0;have f3:=gu J 0;dsimp at U;have X:σ.inScope p q=false:=Kt (λy F=>N y F);clear h2 R a N;gi_wp2;have a0:=(Pp W ⟨w.heap.size+1+1,0,none⟩ (.bool false)).same D _ Z rfl;refine⟨by simp,.inl ⟨_,_,rfl,oY a0,?_⟩⟩;have V:=cell_kept (World.cell?_setCell_same' W ⟨w.heap.size+1+1,0,none⟩ (.bool false) (by rw[U];rfl)) (xB _ D (.deferred none)) (λr e=>by cases e;exact⟨_,a0,rfl⟩);refine⟨.bool false,?_,⟨by rw[X],?_⟩⟩
  .simp[results,results238,go_sem,V]
  .have a:=HZ.out;have hD:=HD;exact(I.setCell (.inr (by simp;omega)) _).take (by omega) _
 case stop=>
  rintro D c pre W HD a2 ⟨rfl,I,d,y,r,rfl,R,J,N⟩ Z;have⟨rest,hrest⟩:=a2;have X:σ.inScope p q=r:=by unfold Ab.inScope;rw[<-hrest];exact Ku J R
  have U:=fW N 0;dsimp at U;clear R J N hrest;gi_wp2;refine⟨by simp,.inl ⟨_,_,rfl,oY Z,?_⟩⟩;have V:=cell_kept U (xB _ D (.deferred none)) (λr e=>by cases e;exact⟨_,Z,rfl⟩);refine⟨.bool r,?_,⟨by rw[X],?_⟩⟩
  .simp[results,results238,go_sem,V]
  .have a:=HZ.out;have hD:=HD;exact I.take (by omega) _
def lH (E:Env):Prop:=kF E 267 (λ_=>#[Bp E]) ku pV
def zL (f:Nat->Nat) (n k:Nat):nV (Hr f n k) n=gN k:=by simp[Hr]
def Cv (E:Env) (w:gx):Calls prog 221 #[] w λe w'=>∃k b,e=iw (.func (.func k) #[] b)/\Ask E.bm (.func (.func k) #[] b) Bo w'/\Kept [] w w':=by
 have C:=Z0 E.bm [fZ,gq,gr,gv,il] w (by decide);go_enter func221,ntmps221
 go_wp21
 refine C.mono ?_;rintro e r ⟨l,h,o,rfl,a,d⟩;have⟨k,b,e0,_,_⟩:=a.call;cases e0;have c:=fV a;clear a;go_wp2;go_ret;exact⟨_,_,rfl,c,d⟩
def QM (E:Env) (c:kF E 105 (λ_=>#[Bp E]) mh pV) (j:Nat):kF E 268 (λf=>#[Bp E,nV f j]) (mn j) uV:=by
 refine mI λf σ w R a HS H=>?_;unfold mn at a;go_enter func268,ntmps268
 go_wp21
 refine mC (c) H a HS rfl mT ?_;rintro(pl) σ w H b a
 go_wp21
 refine mC (ED E pl j) H a HS rfl mT ?_;rintro(_) σ w H b a
 go_wp21
 refine mC (OP E (some j)) H a HS rfl mT ?_;rintro(_) σ w H b a;go_wp2;go_end0;exact kh a H rfl
def LL (E:Env) (c:kF E 105 (λ_=>#[Bp E]) mh pV) (s:gz):je E 188 (λ_=>#[Bp E,gH s]) (ky s) uV:=by
 refine dI λf σ w R a HS H=>?_;unfold ky at a;go_enter func188,ntmps188;have b:=H.GO s;replace a:Hid (R=(mn σ.nodes.length>>=λ_=>pure ()) (σ.add (.el {name:=s,ib:=[],jl:=none,kids:=[]}))):=a;have H:=b
 go_wp21
 refine mC (QM E c σ.nodes.length) H a HS (by rw[zL]) lT ?_;rintro(_) σ w H d a;go_wp2;go_end0;exact gw a H rfl
abbrev yD (E:Env) (p:gz->Bool) (w:gx) (e:Ending) (w':gx):Prop:=∃k a,e=iw (.func (.func k) #[] a)/\Ask E.bm (.func (.func k) #[] a) p w'/\Kept [] w w'
theorem RF.bounds {σ:Ab} (h:RF E f σ w):∃k a,w.cell? ⟨E.bB,186,none⟩=some (.func (.func k) #[] a)/\Ask E.bm (.func (.func k) #[] a) iS w:=by
 have⟨L,_,hr⟩:=h;have⟨f1,a1,l1,c,ha⟩:=hr.bounds;have⟨k,a,e,_,_⟩:=ha.call
 grind
theorem RF.Iz {σ:Ab} (h:RF E f σ w):∃k a,w.cell? ⟨E.bB,184,none⟩=some (.func (.func k) #[] a)/\Ask E.bm (.func (.func k) #[] a) lB w:=by
 have⟨L,_,hr⟩:=h;have⟨f1,a1,l1,c,ha⟩:=hr.Iz;have⟨k,a,e,_,_⟩:=ha.call
 grind
def RF.lt {σ:Ab} (h:RF E f σ w):E.bB < w.heap.size:=by have⟨L,_,hr⟩:=h;exact hr.lt
theorem nN (E:Env) (a:List gz) (w:gx) (b:a.length<=4096):
  Calls prog 225 #[oe w.heap.size a.length a.length] (w.alloc (gL (a.map Value.string).toArray 9)) (yD E (im a) w):=by
 refine(Z0 E.bm a w b).mono ?_;rintro e w' ⟨h,d,o,rfl,c,l⟩;have⟨k,lb,e,_,_⟩:=c.call
 grind
theorem Ue (E:Env) (v1 v2:gQ) (p q:gz->Bool) (w:gx) (b:Ask E.bm v1 p w) (c:Ask E.bm v2 q w):
  Calls prog 245 #[v1,v2] w (yD E (λs=>p s||q s) w):=by
 refine(aem E.bm v1 v2 p q w b c).mono ?_;rintro e w' ⟨h,d,o,rfl,a,l⟩;have⟨k,lb,e,_,_⟩:=a.call
 grind
def Ao {σ:Ab} (h:RF E f σ w):Calls prog 286 #[Bp E] w (yD E DO w):=by
 have⟨kb,lbb,cb,HB⟩:=h.bounds;have x:=h.lt;have z:=cb;have y:=nN E [ic] w.drew (by decide);go_enter func286,ntmps286
 go_wp21
 go_region_with (first
  |(go_at_call 225;refine y.mono ?_;rintro e C ⟨F,A,rfl,c,a⟩;have D:C.cell? ⟨E.bB,186,none⟩=some (.func (.func kb) #[] lbb):=(a.cell (p:=⟨E.bB,186,none⟩) x (by simp)).trans z;have o:=fV c;have b:=fV a;clear c a)
  |(go_at_call 245;refine(Ue E _ _ _ _ _ (HB.k0 (((Kept.refl _ w).drew).trans b)) o).mono ?_;rintro e H ⟨G,B,rfl,d,l⟩;have r:=fV d;have u:=fV ((((Kept.refl _ w).drew).trans b).trans l);clear d l))
 all_goals go_wp2
 all_goals go_ret
 all_goals exact⟨_,_,rfl,r,u⟩
def LM {σ:Ab} (h:RF E f σ w):Calls prog 285 #[Bp E] w (yD E aeb w):=by
 have⟨kb,lbb,cb,HB⟩:=h.bounds;have x:=h.lt;have z:=cb;have y:=nN E [oZ] w.drew (by decide);go_enter func285,ntmps285
 go_wp21
 go_region_with (first
  |(go_at_call 225;refine y.mono ?_;rintro e C ⟨F,A,rfl,c,a⟩;have D:C.cell? ⟨E.bB,186,none⟩=some (.func (.func kb) #[] lbb):=(a.cell (p:=⟨E.bB,186,none⟩) x (by simp)).trans z;have o:=fV c;have b:=fV a;clear c a)
  |(go_at_call 245;refine(Ue E _ _ _ _ _ (HB.k0 (((Kept.refl _ w).drew).trans b)) o).mono ?_;rintro e H ⟨G,B,rfl,d,l⟩;have r:=fV d;have u:=fV ((((Kept.refl _ w).drew).trans b).trans l);clear d l))
 all_goals go_wp2
 all_goals go_ret
 all_goals exact⟨_,_,rfl,r,u⟩
def xz (E:Env) (w:gx):Calls prog 229 #[] w (yD E Bn w):=by
 have C:=nN E [fY,fZ] w (by decide);go_enter func229,ntmps229
 go_wp21
 refine C.mono ?_;rintro e d ⟨k,c,rfl,a,b⟩;go_wp2;go_ret;exact⟨_,_,rfl,a,b⟩
def Nk (E:Env) (w:gx):Calls prog 128 #[] w (yD E (im [fZ]) w):=by
 have C:=nN E [fZ] w (by decide);go_enter func128,ntmps128
 go_wp21
 refine C.mono ?_;rintro e d ⟨k,c,rfl,a,b⟩;go_wp2;go_ret;exact⟨_,_,rfl,a,b⟩
def KH (E:Env) (w:gx):Calls prog 140 #[] w (yD E (im [gq,gr,gv]) w):=by
 have C:=nN E [gq,gr,gv] w (by decide);go_enter func140,ntmps140
 go_wp21
 refine C.mono ?_;rintro e d ⟨k,c,rfl,a,b⟩;go_wp2;go_ret;exact⟨_,_,rfl,a,b⟩
def VF (E:Env) (w:gx):Calls prog 239 #[] w (yD E (im [il]) w):=by
 have C:=nN E [il] w (by decide);go_enter func239,ntmps239
 go_wp21
 refine C.mono ?_;rintro e d ⟨k,c,rfl,a,b⟩;go_wp2;go_ret;exact⟨_,_,rfl,a,b⟩
def WI (E:Env) (w:gx):Calls prog 240 #[] w (yD E (im [iH,iI]) w):=by
 have C:=nN E [iH,iI] w (by decide);go_enter func240,ntmps240
 go_wp21
 refine C.mono ?_;rintro e d ⟨k,c,rfl,a,b⟩;go_wp2;go_ret;exact⟨_,_,rfl,a,b⟩
def GI (E:Env) (w:gx):Calls prog 279 #[] w (yD E (im [mL,mM]) w):=by
 have C:=nN E [mL,mM] w (by decide);go_enter func279,ntmps279
 go_wp21
 refine C.mono ?_;rintro e d ⟨k,c,rfl,a,b⟩;go_wp2;go_ret;exact⟨_,_,rfl,a,b⟩
def uS (E:Env) (w:gx):Calls prog 242 #[] w (yD E (im [gP]) w):=by
 have C:=nN E [gP] w (by decide);go_enter func242,ntmps242
 go_wp21
 refine C.mono ?_;rintro e d ⟨k,c,rfl,a,b⟩;go_wp2;go_ret;exact⟨_,_,rfl,a,b⟩
def rN (E:Env) (w:gx):Calls prog 243 #[] w (yD E (im [gp]) w):=by
 have C:=nN E [gp] w (by decide);go_enter func243,ntmps243
 go_wp21
 refine C.mono ?_;rintro e d ⟨k,c,rfl,a,b⟩;go_wp2;go_ret;exact⟨_,_,rfl,a,b⟩
def nL (p b:gz->Bool):M Bool:=λσ=>if σ.inScope p b then .ok true (σ.F2 p)else .ok false σ
def ph:M Unit:=do
 let _ <-nL (im [nG]) DO
 return ()
def qx (p:gz->Bool):M Unit:=xA λσ=>σ.J8 p
def vA (p:gz->Bool):M Unit:=xA λσ=>σ.xU p
def jS (m:Nat):M Unit:=xA λσ=>{σ with mode:=m}
def kL (x:jk):M Unit:=λσ=>if σ.hH x then .ok () {σ with gG:=σ.gG.erase x} else .stuck
def Av (x y:jk):M Unit:=λσ=>if σ.hH x&&σ.mw y then .ok () {σ with gG:=qi σ.gG x y} else .stuck
def ri (x y:jk):M Unit:=λσ=>if σ.hH x&&σ.mw y&&decide (σ.gG.length < 4096)then .ok () {σ with gG:=jf σ.gG x y} else .stuck
def Bi (x:jk):M Unit:=λσ=>if σ.hH x then .ok () {σ with gG:=oI σ.gG x} else .stuck
def lc (x:jk):M Unit:=λσ=>if σ.hH x then .ok () {σ with act:=σ.act.erase x} else .stuck
def rX (x y:jk):M Unit:=λσ=>if σ.hH x&&σ.hH y then .ok () {σ with act:=qi σ.act x y} else .stuck
def qL (x y:jk):M Unit:=λσ=>if σ.hH x&&σ.hH y&&decide (σ.act.length < 4096)then .ok () {σ with act:=jf σ.act x y} else .stuck
def CQ (x:jk):M Unit:=λσ=>if σ.hH x then .ok () {σ with act:=oI σ.act x} else .stuck
def zD (gM:lZ) (s:gz):Bool:=gM.any λa=>la a.1 s
def qU (i:Nat):lZ->M Unit
 |[]=>pure ()
 |a::r=>λσ=>match σ.ij i with
  |none=> .stuck
  |some e=>if zD e.ib a.1 then qU i r σ else if σ.pG<=e.ib.length then .stop 7 σ.gS else qU i r (σ.ig i {e with ib:=e.ib++[a]})
def xg (i:Nat) (t:gO):M Unit:=λσ=>if σ.fresh&&nM (σ.nm i)then qU i t.jx σ else .stuck
def lp (i:Nat):M Nat:=λσ=>match σ.ij i with
 |some e=>if nM e.name then .stuck else .ok σ.nodes.length (σ.add (.el {name:=e.name,ib:=e.ib,jl:=none,kids:=[]}))
 |none=> .stuck
def Ab.TS (σ:Ab) (x:jk):Bool:=decide (x=none)||decide (x∈σ.gG)
def Ab.uU (σ:Ab):kV->Nat
 |[]=>0
 |x::r=>if σ.TS x then r.length+1 else σ.uU r
def Ab.Bl (σ:Ab):Nat:=σ.uU σ.act.reverse
def Gk (n:Nat):M Nat:=λσ=>match iE σ.act (n:Int)with
 |some i=> .ok i σ
 |none=> .stuck
def rD (old:Nat):M Unit:=λσ=>rX (some old) σ.last σ
def H8:Nat->Nat->M Unit
 |0,_=>pure ()
 |k+1,n=>do
  let old <-Gk n
  let j <-lp old
  mn j
  rD old
  H8 k (n+1)
def me:M Unit:=λσ=>H8 (σ.act.length - σ.Bl) σ.Bl σ
def Ab.ra (σ:Ab) (s:gz):kV->jk
 |[]=>none
 |none::_=>none
 |some i::r=>if la (σ.nm i) s then some i else σ.ra s r
def Ab.pS (σ:Ab) (s:gz):jk:=σ.ra s σ.act.reverse
def afm (a b:Ak):Bool:=la a.name b.name&&(a.ib.length==b.ib.length)&&a.ib.all λx=>b.ib.any λy=>la x.1 y.1&&la x.2 y.2
def Ab.Xy (σ:Ab) (i j:Nat):Bool:=match σ.ij i,σ.ij j with
 |some a,some b=>afm a b
 |_,_=>false
def Ab.td (σ:Ab) (j:Nat):kV->jk×Nat->jk×Nat
 |[],c=>c
 |none::_,c=>c
 |some i::r,c=>if σ.Xy i j then σ.td j r (some i,c.2+1)else σ.td j r c
def lK (x:jk):M Unit:=λσ=>if σ.rZ<=σ.act.length then .stop 6 σ.gS else if σ.hH x then .ok () {σ with act:=σ.act++[x]} else .stuck
def NF (i:Nat):M Unit:=λσ=>
 let c:=σ.td i σ.act.reverse (none,0)
 if 3<=c.2 then (do
  lc c.1
  lK (some i)
  return ():M Unit) σ else (do
  lK (some i)
  return ():M Unit) σ
def Ac:M Unit:=do
 CQ none
 return ()
def JN:M Nat:=λσ=>match σ.last with
 |some i=> .ok i σ
 |none=> .stuck
def lQ (t:gO):M Unit:=do
 me
 jv t
 return ()
def tI (t:gO):M Unit:=do
 me
 lL t
 return ()
def ja (t:gO):M Unit:=do
 lQ t
 let i <-JN
 NF i
 return ()
def vD (s:gz):M Unit:=do
 let _ <-nL (im [s]) lB
 return ()
def Ab.vQ (σ:Ab) (f:Nat):kV->jk->jk
 |[],b=>b
 |x::r,b=>if x=some f then b else σ.vQ f r (if lB (σ.rM x)then x else b)
def Ab.qO (σ:Ab) (f:Nat):jk:=σ.vQ f σ.gG.reverse none
variable {σ : Ab}
def mW (j:Nat):M Unit:=λσ=>match σ.ij j with
 |none=> .stuck
 |some ej=>match ej.jl with
  |none=> .ok () σ
  |some p=>match σ.ij p with
   |none=> .stuck
   |some ep=>if j≠p/\0<=qH ep.kids (Nd.hH j)/\(qH ep.kids (Nd.hH j)).toNat < ep.kids.length then .ok () ((σ.ig p {ep with kids:=ep.kids.eraseIdx (qH ep.kids (Nd.hH j)).toNat}).ig j {ej with jl:=none})else .stuck
def FQ (pl:Nat×Nat) (k:Nd):M Unit:=match k with
 | .el j=>nT pl j
 |k=>Aw pl k
def yQ (dst:Nat):List Nd->M Unit
 |[]=>pure ()
 |k::r=>do
  let pl <-jC dst
  FQ pl k
  yQ dst r
def handOver (b dst:Nat):M Unit:=λσ=>match σ.ij b with
 |none=> .stuck
 |some eb=>if b=dst then .stuck else (yQ dst eb.kids>>=λ_ a=>match a.ij b with
  |some eb'=> .ok () (a.ig b {eb' with kids:=[]})
  |none=> .stuck) σ
def GW (n:Nat):M Nat:=λσ=>match iE σ.gG (n:Int)with
 |some i=> .ok i σ
 |none=> .stuck
def mP (f b:Nat):Nat->Nat->Nat->Nat->M (Nat×Nat)
 |0,_,last,mark=>pure (last,mark)
 |n+1,c,last,mark=>do
  let e <-GW n
  if e=f then pure (last,mark)else do
   (if 3 < c+1 then lc (some e)else pure ())
   λσ=>if some e∉σ.act then (do
    kL (some e)
    mP f b n (c+1) last mark:M (Nat×Nat)) σ else (do
    let a <-lp e
    Av (some e) (some a)
    rX (some e) (some a)
    mW last
    let pl <-jC a
    nT pl last
    mP f b n (c+1) a (if last=b then a else mark):M (Nat×Nat)) σ
def xn (f a:Nat):M (Nat×Nat):=λσ=>mP f a (posOf σ.gG (some a)).toNat 0 a f σ
def ahead (f:Nat):M Nat:=λσ=>match iE σ.gG (posOf σ.gG (some f) - 1)with
 |some i=> .ok i σ
 |none=> .stuck
def tW (f c:Nat):M Unit:=do
 let (last,mark) <-xn f c
 mW last
 let a <-ahead f
 let pl <-placeFor a
 nT pl last
 let b <-lp f
 handOver c b
 let pl <-jC c
 nT pl b
 qL (some mark) (some b)
 lc (some f)
 kL (some f)
 ri (some c) (some b)
 return ()
def nZ (s:gz):M Bool:=λσ=>match σ.pS s with
 |none=>(do vD s;return false:M Bool) σ
 |some f=>if some f∉σ.gG then (do lc (some f);return false:M Bool) σ
  else if !σ.pq f then .ok false σ
  else match σ.qO f with
   |none=>(do Bi (some f);lc (some f);return false:M Bool) σ
   |some b=>(do tW f b;return true:M Bool) σ
def tP (s:gz):Nat->M Unit
 |0=>pure ()
 |k+1=>do
  let b <-nZ s
  if b then tP s k else pure ()
def xS (s:gz):M Unit:=λσ=>match σ.last with
 |none=> .stuck
 |some i=>if la (σ.nm i) s&&!decide (some i∈σ.act)then (do let _ <-yW;return ():M Unit) σ else tP s 8 σ
section
variable (rec:Nat->gO->M Unit) (t:gO)
def kZ:M Unit:=λσ=>rec σ.mode t σ
def pz (pl:Nat×Nat) (nd:Cf) (k:Nat->Nd):M Unit:=λσ=>Aw pl (k σ.nodes.length) (σ.add nd)
def C8:M (Nat×Nat):=jC 0
def oX:M Unit:=match t.k with
 | .iy n q=>do
  let pl <-C8
  pz pl (.dt n) .dt
  xA λσ=>{σ with jV:=q||!la n fY}
  jS 1
  return ()
 |_=>do
  jS 1
  return ()
def mc:M Unit:=do
 xA λσ=>{σ with jV:=true}
 jS 1
 kZ rec t
 return ()
def tX (a:gz) (own:Bool) (gM:lZ):M Nat:=λσ=>if own then (if σ.fresh then .ok σ.nodes.length (σ.pN (.el {name:=a,ib:=gM,jl:=none,kids:=[]}) false)else .stuck)else .ok σ.nodes.length (σ.add (.el {name:=a,ib:=[],jl:=none,kids:=[]}))
def sE (own:Bool) (gM:lZ):M Unit:=do
 let e <-tX fY own gM
 let pl <-C8
 nT pl e
 ya (some e)
 jS 2
 return ()
def y8:M Unit:=do
 sE t.pI t.jx
 return ()
def tz:M Unit:=do
 sE false []
 kZ rec t
 return ()
def sF (own:Bool) (gM:lZ):M Unit:=do
 let e <-tX gZ own gM
 xA λσ=>{σ with head:=some e}
 mn e
 jS 3
 return ()
def y9:M Unit:=do
 sF t.pI t.jx
 return ()
def tA:M Unit:=do
 sF false []
 kZ rec t
 return ()
def BO:M Unit:=do
 let _ <-yW
 jS 4
 return ()
def n4:M Unit:=do
 BO
 kZ rec t
 return ()
def abp:M Unit:=do
 jv t
 jS 6
 return ()
def pH:M Unit:=do
 ky gI
 jS 6
 kZ rec t
 return ()
def pT:M Unit:=λσ=>kL σ.head σ
def pushHead:M Unit:=λσ=>ya σ.head σ
def uC:M Unit:=do
 pushHead
 rec 3 t
 pT
 return ()
def NM (of:gz) (a:Bool):M Unit:=xA λσ=>{σ with nJ:=of,iY:=a}
def oG (a:Bool):M Unit:=do
 jv t
 NM t.name a
 xA λσ=>{σ with kept:=σ.mode}
 jS 5
 return ()
def vc:M Unit:=do
 oG t false
 return ()
def pB:M Unit:=do
 oG t true
 return ()
def zC:M Unit:=do
 let _ <-yW
 xA λσ=>{σ with mode:=σ.kept}
 return ()
def DT:M Unit:=do
 zC
 kZ rec t
 return ()
def oh:M Unit:=if tU t.chars then pure ()else do
 me
 kC t
 return ()
def pn:M Unit:=λσ=>match iE σ.gG 0 with
 |some i=>(do xg i t;return ():M Unit) σ
 |none=> .stuck
def qT:M Unit:=λσ=>match iE σ.gG 1 with
 |some i=>if la (σ.nm i) gI then (do xg i t;return ():M Unit) σ else .ok () σ
 |none=> .ok () σ
def nE:M Unit:=do
 ph
 jv t
 return ()
def xy:M Unit:=do
 nE t
 xA λσ=>{σ with behind:=true}
 return ()
def oP:M Unit:=do
 ph
 qx (im [mL,mM])
 jv t
 return ()
def yc:M Unit:=do
 ph
 lL t
 return ()
def abq:M Unit:=λσ=>match σ.form with
 |some _=> .ok () σ
 |none=>(do
  nE t
  xA λσ=>{σ with form:=σ.last}
  return ():M Unit) σ
def pK:M Unit:=do
 let _ <-nL (im [ic]) iS
 lQ t
 return ()
def zt:M Unit:=λσ=>if σ.jV then .ok () σ else ph σ
def tk:M Unit:=do
 zt
 jv t
 jS 7
 return ()
def qt:M Unit:=do
 vc t
 xA λσ=>{σ with behind:=true}
 return ()
def pM:M Unit:=do
 qx (im [gP])
 lQ t
 return ()
def rp:M Unit:=do
 lQ t
 xA λσ=>{σ with mode:=if σ.mode=7\/σ.mode=9\/σ.mode=11\/σ.mode=12\/σ.mode=13 then 15 else 14}
 return ()
def rT:M Unit:=λσ=>match σ.pS uo with
 |none=>(do ja t;return ():M Unit) σ
 |some a=>(do
  xS uo
  lc (some a)
  kL (some a)
  ja t
  return ():M Unit) σ
def abr:M Unit:=λσ=>if σ.inScope (im [iK]) iS then (do xS iK;ja t;return ():M Unit) σ else (do ja t;return ():M Unit) σ
def tG:M Unit:=do
 me
 abr t
def qo:M Unit:=do
 xS t.name
 return ()
def pL:M Unit:=do
 lQ t
 lK none
 return ()
def tw:M Unit:=do
 let b <-nL (im [gX]) iS
 if b then Ac else pure ()
def zx:M Unit:=λσ=>if σ.inScope (im [gI]) iS then .ok () {σ with mode:=16} else .ok () σ
def zA:M Unit:=λσ=>if σ.inScope (im [gI]) iS then (do
  jS 16
  kZ rec t
  return ():M Unit) σ else .ok () σ
def yK:M Unit:=do
 let _ <-nL (im [t.name]) iS
 return ()
def uH:M Unit:=do
 let _ <-nL (im [mL,mM]) iS
 return ()
def BP:M Unit:=do
 let _ <-nL (im [lh]) aeb
 return ()
def Qn:M Unit:=λσ=>if σ.inScope (im [nG]) DO then (do ph;return ():M Unit) σ else (do
  ky nG
  ph
  return ():M Unit) σ
def vC:M Unit:=do
 me
 ky kq
 let _ <-yW
 return ()
def zz:M Unit:=λσ=>match σ.form with
 |none=> .ok () σ
 |some i=>if σ.pq i then (do
   xA λσ=>{σ with form:=none}
   xA λσ=>σ.nh
   kL (some i)
   return ():M Unit) σ else .ok () {σ with form:=none}
def yM:M Unit:=do
 vD t.name
 return ()
def Jj:M Unit:=jS 17
def wW:M Unit:=do
 jS 6
 kZ rec t
 return ()
def uK:M Unit:=do
 xA λσ=>{σ with iT:=true}
 rec 6 t
 xA λσ=>{σ with iT:=false}
 return ()
def qR:M Unit:=λσ=>if σ.current Bo then (do
  xA λσ=>{σ with kept:=σ.mode}
  jS 8
  kZ rec t
  return ():M Unit) σ else (do uK rec t;return ():M Unit) σ
def pY:M Unit:=do
 vA (im [fZ])
 lK none
 jv t
 jS 9
 return ()
def mH:M Unit:=λσ=>match σ.form with
 |some _=> .ok () σ
 |none=>(do
  jv t
  let x <-yW
  xA λσ=>{σ with form:=x}
  return ():M Unit) σ
def Us (s:gz):gz:=⟨s.data.map λb=>if 65<=b.toNat/\b.toNat<=90 then b+32 else b⟩
def vm:lZ->Bool
 |[]=>false
 |a::r=>if la a.1 oq then la (Us a.2) lX else vm r
def lj:M Unit:=if vm t.jx then (do lL t;return ())else (do uK rec t;return ())
def pr:M Unit:=match t.k with
 | .jM s=>if tU s then pure ()else λσ=>if σ.waiting.length < 4096 then .ok () {σ with waiting:=σ.waiting++[(t.a,t.b,s)]} else .stuck
 |_=>stuck
def qQ (x:Nat×Nat×gz):gO:={a:=x.1,b:=x.2.1,k:= .jM x.2.2}
def uN:List (Nat×Nat×gz)->M Unit
 |[]=>pure ()
 |x::r=>do
  kC (qQ x)
  uN r
def uL:List (Nat×Nat×gz)->M Unit
 |[]=>pure ()
 |x::r=>do
  uK rec (qQ x)
  uL r
def qN:M Unit:=λσ=>if σ.waiting.any λx=>!lM x.2.2 then uL rec σ.waiting σ else uN σ.waiting σ
def sM (ks:List gz) (m:Nat):M Bool:=do
 let b <-nL (im ks) Bn
 if b then (do jS m;return true)else return false
def lG (ks:List gz) (m:Nat):M Bool:=do
 let b <-sM ks m
 if b then (do Ac;return true)else return false
def jU (s:gz):Nat:=if im [iH,iI] s then 13 else if im [il] s then 12 else if im [gq,gv,gr] s then 11 else if im [gy] s then 9 else if im [gn] s then 10 else if im [fZ] s then 7 else 6
def uW (σ:Ab):kV->Nat
 |[]=>6
 |x::r=>if jU (σ.rM x)=6 then uW σ r else jU (σ.rM x)
def yu:M Unit:=xA λσ=>{σ with mode:=uW σ σ.gG.reverse}
def yN:M Bool:=do
 let b <-nL (im [fZ]) Bn
 if b then (do yu;return true)else return false
def uG:M Bool:=lG [gy] 7
def nf:M Bool:=λσ=>if σ.current (im [gn])then (do
  let _ <-yW
  jS 7
  return true:M Bool) σ else .ok false σ
def rJ:M Bool:=sM [gq,gr,gv] 7
def Fw:M Bool:=sM [il] 11
def endCell:M Bool:=lG [iH,iI] 12
def rS:M Unit:=do
 vA (im [il])
 jv t
 jS 13
 lK none
 return ()
def pP:M Unit:=if tU t.chars then pure ()else do
 kC t
 return ()
def kA:M Unit:=do
 qx (im [gP])
 jv t
 return ()
def jB:M Unit:=do
 qx (im [gP])
 qx (im [gp])
 jv t
 return ()
def mf:M Unit:=do
 jB t
 let _ <-yW
 return ()
def jn:M Unit:=λσ=>if σ.current (im [gP])then (match iE σ.gG (posOf σ.gG σ.last - 1)with
  |none=> .stuck
  |some i=>if la (σ.nm i) gp then (do
    let _ <-yW
    qx (im [gp])
    return ():M Unit) σ else (do qx (im [gp]);return ():M Unit) σ)
 else (do qx (im [gp]);return ():M Unit) σ
def nu:M Unit:=do
 qx (im [gP])
 return ()
def wI:M Bool:=do
 let b <-nL (im [jb]) (λs=>!(im [gP] s||im [gp] s))
 if b then (do yu;return true)else return false
end
def To.ml {σ' : Ab} {α:Type} {b:(Nat->Nat)->α->gQ} {a:α} {e : Ending} (h:To E L σ' w w') (c:e=iw (b L.gS a)) (d:σ.nodes.length<=σ'.nodes.length):kE E L.gS σ.nodes.length w (.ok a σ') b e w':=by
 have⟨L',e1,h3,h4⟩:=h;exact⟨c,⟨L',e1,h3⟩,h4,d⟩
def afJ (h:RF E f σ w) (a:Ask E.bm v p w):
  Calls prog 293 #[Bp E,v] w (kE E f σ.nodes.length w (.ok () (σ.F2 p)) uV):=by
 obtain⟨L,rfl,b⟩:=h;exact(adK b v p a).mono (λe w' h=>h.2.ml h.1 (gW _))
theorem wE (h:RF E f σ w) (a:Ask E.bm v p w):
  Calls prog 241 #[Bp E,v] w (kE E f σ.nodes.length w (qx p σ) uV):=by
 obtain⟨L,rfl,b⟩:=h;exact(aav b v p a).mono (λe w' h=>h.2.ml h.1 (by unfold Ab.J8;grind[Ab.pop]))
def Fq (h:RF E f σ w) {k : Nat} {a : jN} (b:Ask E.bm (.func (.func k) #[] a) p w):
  Calls prog 222 #[Bp E,.func (.func k) #[] a] w (kE E f σ.nodes.length w (vA p σ) uV):=by
 obtain⟨L,rfl,c⟩:=h;exact(Tg c _ _ _ p b).mono (λe w' h=>h.2.ml h.1 (gW _))
def LI (h:RF E f σ w):
  Calls prog 288 #[Bp E] w (kE E f σ.nodes.length w (xA (λσ=>σ.nh) σ) uV):=by
 obtain⟨L,rfl,a⟩:=h;exact(JB a).mono (λe w' h=>h.2.ml h.1 (gW _))
def BM (h:RF E f σ w) (a:Ask E.bm v p w):
  Calls prog 220 #[Bp E,v] w λe w'=>e=iw (.bool (σ.current p))/\w'=w:=by
 obtain⟨L,rfl,b⟩:=h;exact zv b v p a
def zu (h:RF E f σ w) {o r : Nat} {b c : jN} (l:Ask E.bm (.func (.func o) #[] b) p w) (B:Ask E.bm (.func (.func r) #[] c) q w):
  Calls prog 228 #[Bp E,.func (.func o) #[] b,.func (.func r) #[] c] w (kE E f σ.nodes.length w (nL p q σ) bV):=by
 have d:=wL h p q _ _ l B;have x:=l;have H:=At.start h;unfold nL;cases hi:σ.inScope p q with
 |false=>
  rw[hi]at d;rw[gV (by simp)];go_enter func228,ntmps228
  go_wp21
  refine d.mono ?_;rintro e C ⟨rfl,a⟩;replace H:=H.k0 a;go_wp2;go_ret;exact kh rfl H rfl
 |true=>
  rw[hi]at d;rw[gJ (by simp)];go_enter func228,ntmps228
  go_wp21
  refine d.mono ?_;rintro e C ⟨rfl,a⟩;have u:=afJ (H.k0 a).rel (x.k0 a);replace H:=H.k0 a
  go_wp21
  refine u.mono ?_;rintro e D ⟨rfl,y,z,A⟩;replace H:=H.to y A z;go_wp2;go_ret;exact kh rfl H rfl
def yI (h:RF E f σ w) (r:ph σ≠ .stuck):
  Calls prog 278 #[Bp E] w (kE E f σ.nodes.length w (ph σ) uV):=by
 obtain⟨R,c⟩:∃R,R=(ph) σ:=⟨_,rfl⟩;rw[<-c]at r|-;unfold ph at c;have HS:=r;have H:=At.start h;have l:=fV c;clear c;go_enter func278,ntmps278;have u:=nN E [nG] w (by decide)
 go_wp21
 refine u.mono ?_;rintro e C ⟨A,x,rfl,a,o⟩;replace H:=H.k0 o
 go_wp21
 refine(Ao H.rel).mono ?_;rintro e D ⟨B,y,rfl,d,b⟩;replace a:=a.k0 b;replace H:=H.k0 b
 go_wp21
 refine Be (λ_=>zu H.rel a d) H l HS mT ?_;rintro(_) σ w H z l;go_wp2;go_end0;exact kh l H rfl
abbrev SV:Obj:=gL #[.pointer none,gh 0] 235
def M.bind_pure {α:Type} (m:M α) (σ:Ab):(m>>=λa=>(Pure.pure a:M α)) σ=m σ:=by
 rw[M.gE];cases m σ<;>rfl
theorem J7 (E:Env) (hF:lH E) (i:Nat):kF E 178 (λf=>#[Bp E,nV f i]) (placeFor i) pV:=by
 intro f σ w h hs;have HB:=fX w SV;have a2:=h.lt;have H0:=(At.start h).k0 ((Kept.refl _ w).alloc SV);have x:w.cell? ⟨E.bB,195,none⟩=some (.bool σ.iT):=(At.start h).Y2;obtain⟨R,o⟩:∃R,R=placeFor i σ:=⟨_,rfl⟩;rw[<-o]at hs|-;have HS:=hs;unfold placeFor at o;cases hfo:σ.iT with
 |false=>
  rw[hfo]at o x;rw[gV (by simp)]at o;have H:=H0;have l:Hid (R=(jC i>>=λpl=>pure pl) σ):=fV (o.trans (M.bind_pure (jC i) σ).symm);clear o;go_enter func178,ntmps178
  go_wp21
  go_quiet (fail)
  replace H:=fV (H.k0 ((Kept.refl _ (w.alloc SV)).drewN nq))
  go_wp21
  refine kF.call (Gx E i) H l HS rfl ?_ ?_
  .intro c p j ws d G I;have F:=fV d;clear d;go_wp2;exact⟨rfl,uQ F G I⟩
  rintro pl S D d N y;have a:=((Fr.gU ((Kept.refl _ (w.alloc SV)).drewN nq)).trans N).cell HB (by decide);have K:=fW a 0;have C:=fW a 1;have f0:=gu a 0;have f1:=gu a 1;dsimp at K C;replace H:=fV (((d.side a (by decide) (gW _) 0 (gN (f pl.1))).side (gm a 0 _) (by decide) (gW _) 1 (gh pl.2)));replace l:=fV y;have r:=fV (gm (gm a 0 (gN (f pl.1))) 1 (gh pl.2));clear d y;go_wp2;refine oR (v:=pV f pl) ?_ rfl (kh l H rfl);simp[results,results178,asAddr,Result.andThen,go_sem,fW r.out]
 |true=>
  rw[hfo]at o x;have Z:∃e,σ.ij i=some e:=by
   cases he:σ.ij i with
   |some e=>simp
   |none=>
    exfalso;have a0:σ.nm i=⟨#[]⟩:=by unfold Ab.nm;rw[he]
    have u:Bo (σ.nm i)=false:=by rw[a0];simp[Bo,im,la,tJ]
    rw[u]at o;simp only[Bool.and_false,uz,Bz]at o;apply hs;rw[o]
    grind[jC]
  have⟨e0,he0⟩:=Z;have HN:∀W,Kept [] w W->W.cell? ⟨f i,0,none⟩=some (gH (σ.nm i)):=by
   intro W hk;obtain⟨L,rfl,hr⟩:=h;exact(hr.io hk).vW he0
  have cN:=HN w (Kept.refl _ _);have a1:f i < w.heap.size:=by
   obtain⟨L,rfl,hr⟩:=h;exact hr.IV (Ab.iq he0)
  have l:=fV o;have Y:=At.start h;clear o;go_enter func178,ntmps178
  go_wp21
  go_cut [16]from 5 to 15 (λb wc=>b= .bool (Bo (σ.nm i))/\Kept [] w wc/\wc.heap[w.heap.size]?=some SV)
  case first=>
   go_region_with (first
    |(go_at_call 221;refine(Cv E _).mono ?_;rintro e D ⟨k1,a3,rfl,O,B⟩;have A:Kept [] w D:=(((Kept.refl _ w).alloc SV).drew).trans B;have C:=HN D A;have⟨k1',lb1',e1,he1,hc1⟩:=O.call;cases e1;have V:=fV (hc1 D (wU.refl _ _) (σ.nm i));have X:=fV A;have U:=fV (B.at HB (by simp));clear O B A hc1)
    |(refine V.mono ?_;rintro e w2 ⟨rfl,rfl⟩))
   all_goals (try (go_wp21))
   all_goals (go_meet;exact⟨rfl,X,U⟩)
  case rest=>
   obtain⟨rfl,hk,J⟩:=hcut;have H:Hid (At E f σ.nodes.length w f σ wc):=fV (Y.k0 hk);cases u:Bo (σ.nm i)with
   |true=>
    have z:Hid (R=(ku>>=λpl=>(Pure.pure pl:M (Nat×Nat))) σ):=by
     refine fV ?_;rw[M.bind_pure];have:=l
     rwa [u]at this
    replace l:=z
    go_wp21
    refine kF.call hF H l HS rfl ?_ ?_
    .intro c p j ws d G I;have F:=fV d;clear d;go_wp2;exact⟨rfl,uQ F G I⟩
    rintro pl S D d N y;have a:=N.cell J (by decide);have K:=fW a 0;have C:=fW a 1;have f0:=gu a 0;have f1:=gu a 1;dsimp at K C;replace H:=fV (((d.side a (by decide) (gW _) 0 (gN (f pl.1))).side (gm a 0 _) (by decide) (gW _) 1 (gh pl.2)));replace l:=fV y;have r:=fV (gm (gm a 0 (gN (f pl.1))) 1 (gh pl.2));clear d y;go_wp2;refine oR (v:=pV f pl) ?_ rfl (kh l H rfl);simp[results,results178,asAddr,Result.andThen,go_sem,fW r.out]
   |false=>
    have z:Hid (R=(jC i>>=λpl=>(Pure.pure pl:M (Nat×Nat))) σ):=by
     refine fV ?_;rw[M.bind_pure];have:=l
     rwa [u]at this
    replace l:=z
    go_wp21
    refine kF.call (Gx E i) H l HS rfl ?_ ?_
    .intro c p j ws d G I;have F:=fV d;clear d;go_wp2;exact⟨rfl,uQ F G I⟩
    rintro pl S D d N y;have a:=N.cell J (by decide);have K:=fW a 0;have C:=fW a 1;have f0:=gu a 0;have f1:=gu a 1;dsimp at K C;replace H:=fV (((d.side a (by decide) (gW _) 0 (gN (f pl.1))).side (gm a 0 _) (by decide) (gW _) 1 (gh pl.2)));replace l:=fV y;have r:=fV (gm (gm a 0 (gN (f pl.1))) 1 (gh pl.2));clear d y;go_wp2;refine oR (v:=pV f pl) ?_ rfl (kh l H rfl);simp[results,results178,asAddr,Result.andThen,go_sem,fW r.out]
def Iv (E:Env) (hF:lH E):kF E 105 (λ_=>#[Bp E]) mh pV:=by
 intro f σ w h HS;cases hl:σ.last with
 |none=>exfalso;apply HS;unfold mh;rw[hl]
 |some i=>
  have D:mh σ=(placeFor i>>=λpl=>pure pl) σ:=by
   unfold mh;rw[hl,M.bind_pure]
  obtain⟨R,d⟩:∃R,R=mh σ:=⟨_,rfl⟩;have u:Hid (Calls prog 179 #[jO E.bB 188] (w.alloc SV) λe w'=>e=iw (gN (f i))/\w'=w.alloc SV):=by
   obtain⟨L,rfl,I⟩:=h;have:=T7 (I.io ((Kept.refl _ w).alloc SV))
   rwa [show iE σ.gG ((σ.gG.length:Int) - 1)=some i from hl]at this
  rw[<-d]at HS|-;rw[D]at d;have H:=(At.start h).k0 ((Kept.refl _ w).alloc SV);have l:=fV d;have A:=fX w SV;have G:=h.lt;clear d;go_enter func105,ntmps105
  go_wp21
  refine u.mono ?_;rintro e w' ⟨rfl,rfl⟩
  go_wp21
  refine kF.call (J7 E hF i) H l HS rfl ?_ ?_
  .intro c p j O b y z;have x:=fV b;clear b;go_wp2;exact⟨rfl,uQ x y z⟩
  rintro pl J N b F r;have a:=F.cell A (by decide);have B:=fW a 0;have C:=fW a 1;have f0:=gu a 0;have K:=gu a 1;dsimp at B C;replace H:=((b.side a (by decide) (gW _) 0 (gN (f pl.1))).side (gm a 0 _) (by decide) (gW _) 1 (gh pl.2));replace l:=fV r;have o:=fV (gm (gm a 0 (gN (f pl.1))) 1 (gh pl.2));clear b r;go_wp2;refine oR (v:=pV f pl) ?_ rfl (kh l H rfl);simp[results,results105,asAddr,Result.andThen,go_sem,fW o.out]
theorem RF.tv (h:RF E f σ w):∃a n b,E.tv= .slice a n b:=by
 have⟨L,_,hr⟩:=h;have⟨a,cap,e⟩:=gF hr.tok
 grind
section
variable (E:Env) (hF:lH E)
include hF
def Ej (j:Nat):kF E 268 (λf=>#[Bp E,nV f j]) (mn j) uV:=QM E (Iv E hF) j
def vo (s:gz):je E 188 (λ_=>#[Bp E,gH s]) (ky s) uV:=LL E (Iv E hF) s
theorem lz (t:gO) (B:ji E t):je E 183 (λ_=>#[Bp E,iJ E t]) (jv t) uV:=by
 intro f σ w h HS;have⟨ao,n,cp,htv⟩:=h.tv;have c:t.pI=true/\σ.fresh=true:=by
  unfold jv at HS;rw[M.gE]at HS;unfold qh at HS;cases hc:(σ.fresh&&t.pI)with
  |true=>grind
  |false=>grind
 have y:=B c.1;have l:t.jx=E.ta/\zY E t=#[gh t.a,gh t.b,gH t.name,.slice ao n cp]:=by
  have⟨a,b,k,gM⟩:=t;cases k<;>simp_all[gO.pI,gO.jx,zY,gO.name]
 obtain⟨R,x⟩:∃R,R=(jv t) σ:=⟨_,rfl⟩;rw[<-x]at HS|-;have o:R=(mn σ.nodes.length>>=λ_=>(Pure.pure ():M Unit)) (σ.pN (.el {name:=t.name,ib:=E.ta,jl:=none,kids:=[]}) false):=by
  rw[x];unfold jv;rw[M.gE];unfold qh;simp only[c.1,c.2,l.1,Bool.and_self,yy]
 have r:=fV o;have d:=ze E t w ⟨ao,n,cp,htv⟩;rw[l.2]at d;have H:=At.start h;have A:=h.lt;have u:=c.2;clear h x o c y l;go_enter func183,ntmps183
 go_wp21
 refine d.mono ?_;rintro e D ⟨rfl,z⟩;replace H:=(H.k0 (z.alloc (gL #[gh t.a,gh t.b,gH t.name,.slice ao n cp] 194))).qh u t.name;rw[htv]at H;clear z d
 go_wp21
 refine mC (Ej E hF σ.nodes.length) H r HS (by simp[Hr]) lT ?_;clear H r;rintro(_) σ w H C r;go_wp2;go_end0;exact gw r H rfl
def wB (t:gO) (c:ji E t):je E 110 (λ_=>#[Bp E,iJ E t]) (lL t) uV:=by
 refine dI λf σ w R a HS H=>?_;unfold lL at a;go_enter func110,ntmps110
 go_wp21
 refine dC (lz E hF t c) H a HS rfl lT ?_;rintro(_) f σ w H d b a
 go_wp21
 refine mC (aaw E) H a HS rfl lT ?_;rintro(_) σ w H b a;go_wp2;go_end0;exact gw a H rfl
def wA (t:gO):je E 109 (λ_=>#[Bp E,iJ E t]) (kC t) uV:=by
 refine dI λf σ w R a HS H=>?_;unfold kC at a;go_enter func109,ntmps109
 go_wp21
 refine mC (Iv E hF) H a HS rfl lT ?_;rintro(pl) σ w H b a
 go_wp21
 refine(zr E t _).mono ?_;rintro e h ⟨rfl,c⟩;replace H:=H.k0 c
 go_wp21
 refine dC (Uk E pl t.chars) H a HS rfl lT ?_;rintro(_) f σ w H d b a;go_wp2;go_end0;exact gw a H rfl
def wF (t:gO) (d:ji E t):je E 193 (λ_=>#[Bp E,iJ E t]) (nE t) uV:=by
 refine dI λf σ w R a HS H=>?_;unfold nE at a;go_enter func193,ntmps193
 go_wp21
 refine Be (λc=>yI H.rel c) H a HS lT ?_;rintro(_) σ w H b a
 go_wp21
 refine dC (lz E hF t d) H a HS rfl lT ?_;rintro(_) f σ w H h b a;go_wp2;go_end0;exact gw a H rfl
def Uy (t:gO) (b:ji E t):je E 194 (λ_=>#[Bp E,iJ E t]) (xy t) uV:=by
 refine dI λf σ w R a HS H=>?_;unfold xy at a;go_enter func194,ntmps194
 go_wp21
 refine dC (wF E hF t b) H a HS rfl lT ?_;rintro(_) f σ w H d c a;have h:=H.Y4;have l:=H.free 198;replace H:=H.th true;go_wp2;go_end0;exact gw a H rfl
end
def Br (a b:Int) (s:gz) (c:Option Addr) (n d:Nat) (w:gx):(Instr.field 194 (.agg #[gh a,gh b,gH s,.slice c n d]) 1).run prog w= .ok (gH s) w:=by
 have h:=underlying194;simp[Instr.field,ql h,go_sem,asAgg,Result.andThen]
def zf (a b:Int) (s:gz) (c:Option Addr) (n d:Nat) (w:gx):(Instr.field 194 (.agg #[gh a,gh b,gH s,.slice c n d]) 2).run prog w= .ok (.slice c n d) w:=by
 have h:=underlying194;simp[Instr.field,ql h,go_sem,asAgg,Result.andThen]
def At.yn {f0 : Nat->Nat} (h:At E f0 n0 w0 f σ w):w.cell? ⟨E.bB,187,none⟩=some (nV f 0):=by
 obtain⟨L,rfl,a⟩:=h.rel;exact a.low (by decide) a.env.xX
theorem sZ (σ σ':Ab) (h:σ'.nodes=σ.nodes):σ.nodes.length<=σ'.nodes.length:=by grind
def EA (E:Env) (x:jk):kF E 187 (λf=>#[jO E.bB 188,oV f x]) (kL x) uV:=by
 intro f σ w ⟨L,e,c⟩ a;subst e;unfold kL at a|-
 by_cases b:σ.hH x=true
 .rw[gJ b];exact(aaq c x b).mono (λe w' h=>h.2.ml h.1 (sZ _ _ rfl))
 .rw[gV b]at a;exact absurd rfl a
def aao (E:Env) (x:jk):kF E 328 (λf=>#[jO E.bB 188,oV f x]) (Bi x) uV:=by
 intro f σ w ⟨L,e,c⟩ a;subst e;unfold Bi at a|-
 by_cases b:σ.hH x=true
 .rw[gJ b];exact(acL c x b).mono (λe w' h=>h.2.ml h.1 (sZ _ _ rfl))
 .rw[gV b]at a;exact absurd rfl a
def OL (E:Env) (x y:jk):kF E 376 (λf=>#[jO E.bB 188,oV f x,oV f y]) (ri x y) uV:=by
 intro f σ w ⟨L,e,c⟩ b;subst e;unfold ri at b|-
 by_cases a:(σ.hH x&&σ.mw y&&decide (σ.gG.length < 4096))=true
 .rw[gJ a];simp at a;exact(Rl c x y a.1.1 a.1.2 a.2).mono (λe w' h=>h.2.ml h.1 (sZ _ _ rfl))
 .rw[gV a]at b;exact absurd rfl b
def DL (E:Env) (x:jk):kF E 187 (λf=>#[jO E.bB 189,oV f x]) (lc x) uV:=by
 intro f σ w ⟨L,e,c⟩ a;subst e;unfold lc at a|-
 by_cases b:σ.hH x=true
 .rw[gJ b];exact(YL c x b).mono (λe w' h=>h.2.ml h.1 (sZ _ _ rfl))
 .rw[gV b]at a;exact absurd rfl a
def YK (E:Env) (x:jk):kF E 328 (λf=>#[jO E.bB 189,oV f x]) (CQ x) uV:=by
 intro f σ w ⟨L,e,c⟩ a;subst e;unfold CQ at a|-
 by_cases b:σ.hH x=true
 .rw[gJ b];exact(abK c x b).mono (λe w' h=>h.2.ml h.1 (sZ _ _ rfl))
 .rw[gV b]at a;exact absurd rfl a
def abI (E:Env) (x y:jk):kF E 276 (λf=>#[jO E.bB 189,oV f x,oV f y]) (rX x y) uV:=by
 intro f σ w ⟨L,e,c⟩ b;subst e;unfold rX at b|-
 by_cases a:(σ.hH x&&σ.hH y)=true
 .rw[gJ a];simp at a;exact(Ws c x y a.1 a.2).mono (λe w' h=>h.2.ml h.1 (sZ _ _ rfl))
 .rw[gV a]at b;exact absurd rfl b
def NE (E:Env) (x y:jk):kF E 376 (λf=>#[jO E.bB 189,oV f x,oV f y]) (qL x y) uV:=by
 intro f σ w ⟨L,e,c⟩ b;subst e;unfold qL at b|-
 by_cases a:(σ.hH x&&σ.hH y&&decide (σ.act.length < 4096))=true
 .rw[gJ a];simp at a;exact(PI c x y a.1.1 a.1.2 a.2).mono (λe w' h=>h.2.ml h.1 (sZ _ _ rfl))
 .rw[gV a]at b;exact absurd rfl b
def Dm (E:Env):kF E 184 (λ_=>#[jO E.bB 188]) yW oV:=aaw E
def Yd (E:Env) (j:Nat):kF E 374 (λf=>#[nV f j]) (mW j) uV:=by
 intro f σ w ⟨L,e,c⟩ a;subst e;unfold mW at a|-;cases hj:σ.ij j with
 |none=>rw[hj]at a;exact absurd rfl a
 |some ej=>
  simp only[hj]at a|-;cases hp:ej.jl with
  |none=>
   simp only[hp]at a|-;refine(ER c hj hp).mono ?_;rintro e w' ⟨rfl,rfl⟩;exact⟨rfl,⟨L,rfl,c⟩,Fr.refl _,gW _⟩
  |some p=>
   simp only[hp]at a|-;cases hep:σ.ij p with
   |none=>rw[hep]at a;exact absurd rfl a
   |some ep=>
    simp only[hep]at a|-
    by_cases b:j≠p/\0<=qH ep.kids (Nd.hH j)/\(qH ep.kids (Nd.hH j)).toNat < ep.kids.length
    .rw[gJ b];exact(Ya c hj hp hep b.1 b.2.2 (by omega)).mono (λe w' h=>h.2.ml h.1 (by simp[Ab.ig]))
    .rw[gV b]at a;exact absurd rfl a
theorem Mn (E:Env) (i:Nat):je E 275 (λf=>#[nV f i]) (lp i) nV:=by
 intro f σ w ⟨L,e,o⟩ a;subst e;unfold lp at a|-;cases hi:σ.ij i with
 |none=>rw[hi]at a;exact absurd rfl a
 |some e=>
  simp only[hi]at a|-
  by_cases c:nM e.name=true
  .rw[gJ c]at a;exact absurd rfl a
  .rw[gV c];refine(X4 o hi (by grind)).mono ?_;rintro r w' ⟨b,d,rfl,h,l⟩;exact⟨b.gS,d,by simp[Ab.add],rfl,⟨b,rfl,h⟩,l⟩
def RF.aga (h:RF E f σ w):0 < σ.nodes.length:=by
 have⟨L,_,hr⟩:=h;exact Ab.mq (σ:=σ) (i:=0) hr.wf.xX
theorem aae {k : Nat} (h:i < n):nV (Hr f n k) i=nV f i:=by grind[Hr]
section
variable (E:Env) (hF:lH E) (rec:Nat->gO->M Unit)
variable (hA:∀(m:Nat) (t:gO),ji E t->je E 171 (λ_=>#[Bp E,.int .i64 (m:Int),iJ E t]) (rec m t) uV)
include hA in
def ui (t:gO) (l:ji E t):je E 95 (λ_=>#[Bp E,iJ E t]) (kZ rec t) uV:=by
 intro f σ w h HS;obtain⟨R,c⟩:∃R,R=kZ rec t σ:=⟨_,rfl⟩;rw[<-c]at HS|-;have a:R=(rec σ.mode t>>=λ_=>(Pure.pure ():M Unit)) σ:=by
  rw[c,M.bind_pure];rfl
 have b:=fV a;have H:=At.start h;have u:=H.sB;have d:=h.lt;clear h c a;go_enter func95,ntmps95
 go_wp21
 refine dC (hA σ.mode t l) H b HS rfl lT ?_;clear H b;rintro(_) f σ w H r o b;go_wp2;go_end0;exact gw b H rfl
include hA in
def AK (t:gO) (c:ji E t):je E 101 (λ_=>#[Bp E,iJ E t]) (mc rec t) uV:=by
 refine dI λf σ w R a HS H=>?_;unfold mc at a;go_enter func101,ntmps101;have l:=H.Y3;have r:=H.free 196;have o:=H.sB;have u:=H.free 192;have b:=H.lt;replace H:=(H.rl true).jh 1
 go_wp21
 refine dC (ui E rec hA t c) H a HS rfl lT ?_;rintro(_) f σ w H h d a;go_wp2;go_end0;exact gw a H rfl
theorem Di (own:Bool):je E 176 (λ_=>#[Bp E,if own then E.tv else .slice none 0 0]) (sE own (if own then E.ta else [])) uV:=by
 intro f σ w h o;have⟨ao,n,cp,htv⟩:=h.tv;obtain⟨R,b⟩:∃R,R=sE own (if own then E.ta else []) σ:=⟨_,rfl⟩;rw[<-b]at o|-;have HS:=o;have H:=At.start h;have x:=h.lt;have l:=fV h.aga;have y:=H.yn;have z:=H.WH;have A:=H.free 190;unfold sE at b;cases own with
 |true=>
  rw[M.gE]at b;unfold tX at b;have d:σ.fresh=true:=by
   cases hq:σ.fresh with
   |true=>rfl
   |false=>grind
  simp only[d,yy]at b;have a:=fV b;replace H:=H.qh d fY;rw[htv]at H;rw[gJ rfl,htv];clear h b;go_enter func176,ntmps176
  go_wp21
  refine mC (Gx E 0) H a HS (by rw[aae l.out]) lT ?_;rintro(pl) σ w H c a
  go_wp21
  refine mC (ED E pl _) H a HS (by rw[zL]) lT ?_;rintro(_) σ w H c a
  go_wp21
  refine mC (OP E (some _)) H a HS (by show #[_,nV _ _]=_;rw[zL]) lT ?_;rintro(_) σ w H c a;have r:=H.sB;have u:=H.free 192;replace H:=H.jh 2;go_wp2;go_end0;exact gw a H rfl
 |false=>
  rw[M.gE]at b;unfold tX at b;simp only[uz,Bz]at b;have a:=fV b;replace H:=H.GO fY;rw[gV (by simp)];clear h b;go_enter func176,ntmps176
  go_wp21
  refine mC (Gx E 0) H a HS (by rw[aae l.out]) lT ?_;rintro(pl) σ w H c a
  go_wp21
  refine mC (ED E pl _) H a HS (by rw[zL]) lT ?_;rintro(_) σ w H c a
  go_wp21
  refine mC (OP E (some _)) H a HS (by show #[_,nV _ _]=_;rw[zL]) lT ?_;rintro(_) σ w H c a;have r:=H.sB;have u:=H.free 192;replace H:=H.jh 2;go_wp2;go_end0;exact gw a H rfl
include hF in
theorem Dj (own:Bool):je E 181 (λ_=>#[Bp E,if own then E.tv else .slice none 0 0]) (sF own (if own then E.ta else [])) uV:=by
 intro f σ w h o;have⟨ao,n,cp,htv⟩:=h.tv;obtain⟨R,a⟩:∃R,R=sF own (if own then E.ta else []) σ:=⟨_,rfl⟩;rw[<-a]at o|-;have HS:=o;have H:=At.start h;have l:=h.lt;have y:=h.aga;have z:=H.yn;have A:=H.WH;have B:=H.free 190;unfold sF at a;cases own with
 |true=>
  rw[M.gE]at a;unfold tX at a;have d:σ.fresh=true:=by
   cases hq:σ.fresh with
   |true=>rfl
   |false=>grind
  simp only[d,yy]at a;have c:=fV a;replace H:=H.qh d gZ;rw[htv]at H;rw[gJ rfl,htv];clear a;go_enter func181,ntmps181;have b:=H.yZ (some σ.nodes.length) (by simp[Ab.hH,Ab.ij,Ab.pN,Ab.add]);rw[show oV (Hr f σ.nodes.length w.heap.size) (some σ.nodes.length)=gN w.heap.size from zL _ _ _]at b;rw[World.setCell_alloc_past _ _ _ _ l]at b;replace H:=b
  go_wp21
  refine mC (Ej E hF _) H c HS (by rw[zL]) lT ?_;rintro(_) σ w H r c;have u:=H.sB;have x:=H.free 192;replace H:=H.jh 3;go_wp2;go_end0;exact gw c H rfl
 |false=>
  rw[M.gE]at a;unfold tX at a;simp only[uz,Bz]at a;have c:=fV a;replace H:=H.GO gZ;rw[gV (by simp)];clear a;go_enter func181,ntmps181;have b:=H.yZ (some σ.nodes.length) (by simp[Ab.hH,Ab.ij,Ab.pN,Ab.add]);rw[show oV (Hr f σ.nodes.length w.heap.size) (some σ.nodes.length)=gN w.heap.size from zL _ _ _]at b;rw[World.setCell_alloc_past _ _ _ _ l]at b;replace H:=b
  go_wp21
  refine mC (Ej E hF _) H c HS (by rw[zL]) lT ?_;rintro(_) σ w H r c;have u:=H.sB;have x:=H.free 192;replace H:=H.jh 3;go_wp2;go_end0;exact gw c H rfl
include hA in
def LJ (t:gO) (d:ji E t):je E 104 (λ_=>#[Bp E,iJ E t]) (tz rec t) uV:=by
 refine dI λf σ w R a HS H=>?_;unfold tz at a;go_enter func104,ntmps104
 go_wp21
 refine dC (Di E false) H a HS (by simp) lT ?_;rintro(_) f σ w H c b a
 go_wp21
 refine dC (ui E rec hA t d) H a HS rfl lT ?_;rintro(_) f σ w H c b a;go_wp2;go_end0;exact gw a H rfl
include hF hA in
def LK (t:gO) (d:ji E t):je E 108 (λ_=>#[Bp E,iJ E t]) (tA rec t) uV:=by
 refine dI λf σ w R a HS H=>?_;unfold tA at a;go_enter func108,ntmps108
 go_wp21
 refine dC (Dj E hF false) H a HS (by simp) lT ?_;rintro(_) f σ w H c b a
 go_wp21
 refine dC (ui E rec hA t d) H a HS rfl lT ?_;rintro(_) f σ w H c b a;go_wp2;go_end0;exact gw a H rfl
theorem R8 (t:gO) (D:ji E t):je E 103 (λ_=>#[Bp E,iJ E t]) (y8 t) uV:=by
 intro f σ w h z;have⟨ao,n,cp,htv⟩:=h.tv;obtain⟨R,d⟩:∃R,R=y8 t σ:=⟨_,rfl⟩;rw[<-d]at z|-;have HS:=z;have H:=At.start h;have C:=h.lt;have r:=ze E t w ⟨ao,n,cp,htv⟩;unfold y8 at d;cases htg:t.pI with
 |true=>
  have c:t.jx=(if true then E.ta else [])/\zY E t=#[gh t.a,gh t.b,gH t.name,.slice ao n cp]:=by
   have:=D htg;have⟨a,b,k,gM⟩:=t;cases k<;>simp_all[gO.pI,gO.jx,zY,gO.name]
  rw[htg,c.1]at d;rw[c.2]at r;have l:=fV r;have o:=fV d;have u:=fV htv;have x:=λw=>zf (t.a:Int) (t.b:Int) t.name ao n cp w;clear d r htv;go_enter func103,ntmps103
  go_wp21
  refine l.mono ?_;rintro e F ⟨rfl,y⟩;replace H:=H.k0 y
  go_wp21
  refine dC (Di E true) H o HS (by rw[gJ rfl,u.out]) lT ?_;rintro(_) f σ w H B A o;go_wp2;go_end0;exact gw o H rfl
 |false=>
  have c:t.jx=(if false then E.ta else [])/\zY E t=#[gh 0,gh 0,gH jz,jc]:=by
   have⟨a,b,k,gM⟩:=t;cases k<;>simp_all[gO.pI,gO.jx,zY,gO.name]
  rw[htg,c.1]at d;rw[c.2]at r;have l:=fV r;have o:=fV d;have x:=λw=>zf 0 0 ⟨#[]⟩ none 0 0 w;clear d r htv;go_enter func103,ntmps103
  go_wp21
  refine l.mono ?_;rintro e F ⟨rfl,y⟩;replace H:=H.k0 y
  go_wp21
  refine dC (Di E false) H o HS (by simp) lT ?_;rintro(_) f σ w H B A o;go_wp2;go_end0;exact gw o H rfl
include hF in
theorem R9 (t:gO) (D:ji E t):je E 107 (λ_=>#[Bp E,iJ E t]) (y9 t) uV:=by
 intro f σ w h z;have⟨ao,n,cp,htv⟩:=h.tv;obtain⟨R,d⟩:∃R,R=y9 t σ:=⟨_,rfl⟩;rw[<-d]at z|-;have HS:=z;have H:=At.start h;have C:=h.lt;have r:=ze E t w ⟨ao,n,cp,htv⟩;unfold y9 at d;cases htg:t.pI with
 |true=>
  have c:t.jx=(if true then E.ta else [])/\zY E t=#[gh t.a,gh t.b,gH t.name,.slice ao n cp]:=by
   have:=D htg;have⟨a,b,k,gM⟩:=t;cases k<;>simp_all[gO.pI,gO.jx,zY,gO.name]
  rw[htg,c.1]at d;rw[c.2]at r;have l:=fV r;have o:=fV d;have u:=fV htv;have x:=λw=>zf (t.a:Int) (t.b:Int) t.name ao n cp w;clear d r htv;go_enter func107,ntmps107
  go_wp21
  refine l.mono ?_;rintro e F ⟨rfl,y⟩;replace H:=H.k0 y
  go_wp21
  refine dC (Dj E hF true) H o HS (by rw[gJ rfl,u.out]) lT ?_;rintro(_) f σ w H B A o;go_wp2;go_end0;exact gw o H rfl
 |false=>
  have c:t.jx=(if false then E.ta else [])/\zY E t=#[gh 0,gh 0,gH jz,jc]:=by
   have⟨a,b,k,gM⟩:=t;cases k<;>simp_all[gO.pI,gO.jx,zY,gO.name]
  rw[htg,c.1]at d;rw[c.2]at r;have l:=fV r;have o:=fV d;have x:=λw=>zf 0 0 ⟨#[]⟩ none 0 0 w;clear d r htv;go_enter func107,ntmps107
  go_wp21
  refine l.mono ?_;rintro e F ⟨rfl,y⟩;replace H:=H.k0 y
  go_wp21
  refine dC (Dj E hF false) H o HS (by simp) lT ?_;rintro(_) f σ w H B A o;go_wp2;go_end0;exact gw o H rfl
def MC (t:gO):je E 113 (λ_=>#[Bp E,iJ E t]) (BO) uV:=by
 refine dI λf σ w R a HS H=>?_;unfold BO at a;go_enter func113,ntmps113
 go_wp21
 refine mC (Dm E) H a HS rfl lT ?_;rintro(_) σ w H c a;have d:=H.sB;have h:=H.free 192;have b:=H.lt;replace H:=H.jh 4;go_wp2;go_end0;exact gw a H rfl
include hA in
def Dd (t:gO) (d:ji E t):je E 114 (λ_=>#[Bp E,iJ E t]) (n4 rec t) uV:=by
 refine dI λf σ w R a HS H=>?_;unfold n4 at a;go_enter func114,ntmps114
 go_wp21
 refine dC (MC E t) H a HS rfl lT ?_;rintro(_) f σ w H c b a
 go_wp21
 refine dC (ui E rec hA t d) H a HS rfl lT ?_;rintro(_) f σ w H c b a;go_wp2;go_end0;exact gw a H rfl
include hF in
def R5 (t:gO) (c:ji E t):je E 115 (λ_=>#[Bp E,iJ E t]) (abp t) uV:=by
 refine dI λf σ w R a HS H=>?_;unfold abp at a;go_enter func115,ntmps115
 go_wp21
 refine dC (lz E hF t c) H a HS rfl lT ?_;rintro(_) f σ w H h d a;have l:=H.sB;have o:=H.free 192;have b:=H.lt;replace H:=H.jh 6;go_wp2;go_end0;exact gw a H rfl
include hF hA in
def LH (t:gO) (h:ji E t):je E 117 (λ_=>#[Bp E,iJ E t]) (pH rec t) uV:=by
 refine dI λf σ w R a HS H=>?_;unfold pH at a;go_enter func117,ntmps117
 go_wp21
 refine dC (vo E hF gI) H a HS rfl lT ?_;rintro(_) f σ w H c b a;have l:=H.sB;have o:=H.free 192;have d:=H.lt;replace H:=H.jh 6
 go_wp21
 refine dC (ui E rec hA t h) H a HS rfl lT ?_;rintro(_) f σ w H c b a;go_wp2;go_end0;exact gw a H rfl
def MD (t:gO):je E 119 (λ_=>#[Bp E,iJ E t]) (zC) uV:=by
 refine dI λf σ w R a HS H=>?_;unfold zC at a;go_enter func119,ntmps119
 go_wp21
 refine mC (Dm E) H a HS rfl lT ?_;rintro(_) σ w H b a;have c:=H.sB;have h:=H.free 192;have d:=H.Td;have l:=H.lt;replace H:=H.jh σ.kept;go_wp2;go_end0;exact gw a H rfl
include hA in
def WS (t:gO) (d:ji E t):je E 118 (λ_=>#[Bp E,iJ E t]) (DT rec t) uV:=by
 refine dI λf σ w R a HS H=>?_;unfold DT at a;go_enter func118,ntmps118
 go_wp21
 refine dC (MD E t) H a HS rfl lT ?_;rintro(_) f σ w H c b a
 go_wp21
 refine dC (ui E rec hA t d) H a HS rfl lT ?_;rintro(_) f σ w H c b a;go_wp2;go_end0;exact gw a H rfl
def Zr (t:gO):je E 155 (λ_=>#[Bp E,iJ E t]) (Jj) uV:=by
 refine dI λf σ w R a HS H=>?_;unfold Jj at a;go_enter func155,ntmps155;have c:=H.sB;have d:=H.free 192;have b:=H.lt;replace H:=H.jh 17;go_wp2;go_end0;exact gw a H rfl
include hA in
def NS (t:gO) (c:ji E t):je E 247 (λ_=>#[Bp E,iJ E t]) (wW rec t) uV:=by
 refine dI λf σ w R a HS H=>?_;unfold wW at a;go_enter func247,ntmps247;have l:=H.sB;have o:=H.free 192;have b:=H.lt;replace H:=H.jh 6
 go_wp21
 refine dC (ui E rec hA t c) H a HS rfl lT ?_;rintro(_) f σ w H h d a;go_wp2;go_end0;exact gw a H rfl
end
def Leaves.k0 {α:Type} {r:qI α} {b:(Nat->Nat)->α->gQ} {e : Ending} (h:Leaves E f n w' r b e W) (d:Kept [] w w'):Leaves E f n w r b e W:=by
 cases r with
 |ok a σ'=>have⟨g,h1,h2,h3,h4,h5⟩:=h;exact⟨g,h1,h2,h3,h4,(Fr.gU d).trans h5⟩
 |stop c p=>have⟨k,h1,h2,h3⟩:=h;exact⟨k,h1,h2,(Fr.gU d).trans h3⟩
 |stuck=>exact h
def adX (E:Env) (t:gO):Prop:=∀(bB bD:Nat) (a:nc) (b c d h l o r u x y:gQ) (w:gx),li E.bm bB bD a b c d h l o r u x y w->
  Calls prog 264 #[.agg #[b,c,d,h,l,o,r,u,x,y],iJ E t] w λe w'=>∃v,e=iw v/\nY E.bm bB bD (kj a t) v w/\Kept [] w w'
def mu (E:Env) (r:Ru) (t:gO) (m:M Unit):Prop:=∀v f σ w,RF E f σ w->nY E.bm E.bB (f 0) r v w->m σ≠ .stuck->
  ∃k b c,v= .func (.func k) b c/\(∀a w,(callFunc k a).run prog w= .ok (.enter k a) w)/\Calls prog k (b++#[iJ E t]++c) w (Leaves E f σ.nodes.length w (m σ) uV)
def asM (a:Ru->gO->M Unit) (m:Nat) (t:gO):M Unit:=match xx[m]? with
 |some sp=>a (kj sp t) t
 |none=>stuck
theorem RF.G1 (h:RF E f σ w) {m : Nat} {sp : nc} (F:xx[m]?=some sp):∃c d l o r u x y z A,li E.bm E.bB (f 0) sp c d l o r u x y z A w/\
  (∀j,j < 10->w.cell? ⟨E.bB,4+m*10+j,none⟩=[c,d,l,o,r,u,x,y,z,A][j]?):=by
 obtain⟨L,rfl,B⟩:=h;have⟨cs,hcs,hlen,hru⟩:=B.env.G1;have⟨c,d,l,o,r,u,x,y,z,A,e,hi⟩:=hru m sp F;have G:m < 18:=(List.getElem?_eq_some_iff.1 F).1;refine⟨c,d,l,o,r,u,x,y,z,A,?_,?_⟩
 .have D:=B.fr;have a:=D.n E.bm;have H:∀{R:Option (List (List gz×Ru))} {v:gQ},su E.bm E.bB (L.gS 0) R v E.w0->su E.bm E.bB (L.gS 0) R v w:=by
   intro R v h;cases R with
   |none=>exact h
   |some R=>have⟨b,hb⟩:=h;exact⟨b,hb.fr a (D.calm (.inl hb.at))⟩
  exact⟨hi.blank.fr a,hi.jM.fr a,hi.gR.fr a,hi.iy.fr a,hi.iR.fr a,H hi.start,H hi.stop,hi.jG.fr a,hi.j8.fr a,hi.ir.fr a⟩
 .intro j I;have⟨C,hb,hC⟩:=B.iC;rw[fW hb,hC.low _ (by omega),show 4+m*10+j=4+(m*10+j) by omega,hcs _ (by omega),<-e]
  grind
def aa7 (E:Env) (x:Ru->gO->M Unit) (t:gO) (K:adX E t) (N:∀r,mu E r t (x r t)) (m:Nat):je E 171 (λ_=>#[Bp E,gh m,iJ E t]) (asM x m t) uV:=by
 intro f σ w h d;unfold asM at d|-;cases hm:xx[m]? with
 |none=>rw[hm]at d;exact absurd rfl d
 |some sp=>
  rw[hm]at d;simp only[]at d|-;have z:m < 18:=(List.getElem?_eq_some_iff.1 hm).1;have⟨v0,v1,v2,v3,v4,v5,v6,v7,v8,v9,hi,hc⟩:=h.G1 hm;have X:w.cell? ⟨E.bB,4+m*10,none⟩=some v0:=hc 0 (by decide);have Y:w.cell? ⟨E.bB,4+m*10+1,none⟩=some v1:=hc 1 (by decide);have q2:w.cell? ⟨E.bB,4+m*10+2,none⟩=some v2:=hc 2 (by decide);have q3:w.cell? ⟨E.bB,4+m*10+3,none⟩=some v3:=hc 3 (by decide);have q4:w.cell? ⟨E.bB,4+m*10+4,none⟩=some v4:=hc 4 (by decide);have q5:w.cell? ⟨E.bB,4+m*10+5,none⟩=some v5:=hc 5 (by decide);have q6:w.cell? ⟨E.bB,4+m*10+6,none⟩=some v6:=hc 6 (by decide);have q7:w.cell? ⟨E.bB,4+m*10+7,none⟩=some v7:=hc 7 (by decide);have q8:w.cell? ⟨E.bB,4+m*10+8,none⟩=some v8:=hc 8 (by decide);have q9:w.cell? ⟨E.bB,4+m*10+9,none⟩=some v9:=hc 9 (by decide);have R:=h.lt;have A:=K _ _ _ _ _ _ _ _ _ _ _ _ _ w hi;have y:=(λv w' (l:Kept [] w w') (u:nY E.bm E.bB (f 0) (kj sp t) v w)=>N (kj sp t) v f σ w' (h.io l) (u.fr (.gU l)) d);generalize hZ:x (kj sp t) t σ=Z at y|-;generalize iJ E t=tv at *;go_enter func171,ntmps171
  go_wp21
  refine A.mono ?_;rintro e S ⟨v,rfl,u,l⟩;obtain⟨k,U,V,rfl,O,b⟩:=y v S l u;have D:=b.mono (λe W o=>o.k0 l)
  go_wp21
  refine D.mono ?_;intro e W o;cases Z with
  |ok a σ'=>
   obtain⟨g,G,H,rfl,I,J⟩:=o;have F:Hid (Leaves E f σ.nodes.length w (.ok a σ') uV (iw (uV g a)) W):=fV ⟨g,G,H,rfl,I,J⟩;go_wp2;go_end0;exact F
  |stop c p=>
   obtain⟨j,rfl,B,C⟩:=o;go_wp2;exact⟨rfl,pJ rfl B C⟩
  |stuck=>exact o.elim
def qJ (rec:Nat->gO->M Unit) (t:gO):M Unit:=match t.k with
 | .lost=>Pure.pure ()
 |_=>λσ=>if σ.behind&&la t.chars Cz then .ok () {σ with behind:=false,gS:=t.a} else kZ rec t {σ with behind:=false,gS:=t.a}
def Zz (s:gz):la s Cz=(s.toList==[10]):=by
 simp[la]
def PW (a b:Int) (w:gx):Calls prog 436 #[.agg #[gh a,gh b]] w λe w'=>e=iw (.tuple #[gh a,gh b])/\Kept [] w w':=by
 go_enter func436,ntmps436
 go_wp21
 go_region
 all_goals (try go_wp2)
 all_goals (try go_ret2)
 all_goals exact⟨rfl,((Kept.refl [] w).alloc _).drew⟩
theorem yF (E:Env) (rec:Nat->gO->M Unit) (hA:∀(m:Nat) (t:gO),ji E t->je E 171 (λ_=>#[Bp E,gh m,iJ E t]) (rec m t) uV) (t:gO) (O:ji E t) (Y:t.k≠ .lost) (r:iJ E t= .iface T v) (N:T≠190)
  (B:∀w,(Go.method 500 T v "Bytes").run prog w= .ok (436,.agg #[gh t.a,gh t.b]) w):je E 57 (λ_=>#[Bp E,iJ E t]) (qJ rec t) uV:=by
 have y:=fV (ui E rec hA t O);intro f σ w h D;obtain⟨R,b⟩:∃R,R=qJ rec t σ:=⟨_,rfl⟩;rw[<-b]at D|-;replace b:=b.trans (show qJ rec t σ=if σ.behind&&la t.chars Cz then .ok () {σ with behind:=false,gS:=t.a} else kZ rec t {σ with behind:=false,gS:=t.a} by
  grind[qJ])
 have HS:=fV D;have H:=fV (At.start h);have I:=H.out.Y4;have Z:=h.lt;have f1:=H.out.free 198;have f2:=H.out.free 197;have c2:=H.out.Te;have A:=λw=>zr E t w;simp only[r]at A y|-;have u:=λ(v:gQ) (xT:TypeId) (w:gx)=>Hg (z:= .agg #[gh 0,gh 0]) underlying190 rfl N v xT w;have F:=fV A;clear h D A r O Y N;have G:Hid (∀o,Kept [] w (w.alloc o)):=fV (λo=>(Kept.refl [] w).alloc o);have x:=fV (λw=>PW (t.a:Int) (t.b:Int) w);replace H:=fV ((H.out.th false).k0 ((Kept.refl [] _).alloc (gL #[gh 0,gh 0] 190)));cases hb:σ.behind with
 |false=>
  have d:R=(kZ rec t>>=λ_=>(Pure.pure ():M Unit)) {σ with behind:=false,gS:=t.a}:=by rw[b,hb,M.bind_pure];rfl
  have c:=fV d;rw[hb]at I;clear b d hb G;go_enter func57,ntmps57
  go_wp21
  refine(x.out _).mono ?_;rintro e U ⟨rfl,a⟩;replace H:=fV (H.out.k0 a);clear a;have J:=H.out.Te;have K:=H.out.free 197;have S:=H.out.lt;replace H:=fV (H.out.Dw t.a)
  go_wp21
  refine dC (y.out) H c HS rfl lT ?_;clear H c;rintro(_) f σ w H X V c;go_wp2;go_end0;exact gw c.out H.out rfl
 |true=>
  rw[hb]at I b;simp only[Bool.true_and]at b;clear hb G;cases hn:la (gO.chars t) Cz with
  |false=>
   rw[hn]at b;have d:R=(kZ rec t>>=λ_=>(Pure.pure ():M Unit)) {σ with behind:=false,gS:=t.a}:=by rw[b,M.bind_pure];rfl
   have c:=fV d;have C:=(Zz (gO.chars t)).symm.trans hn;clear b d hn;go_enter func57,ntmps57
   go_wp21
   refine(x.out _).mono ?_;rintro e U ⟨rfl,a⟩;replace H:=fV (H.out.k0 a);clear a;have J:=H.out.Te;have K:=H.out.free 197;have S:=H.out.lt;replace H:=fV (H.out.Dw t.a)
   go_wp21
   refine(F.out _).mono ?_;rintro e w2 ⟨rfl,l⟩;replace H:=fV (H.out.k0 l);clear l
   go_wp21
   refine dC (y.out) H c HS rfl lT ?_;clear H c;rintro(_) f σ w H X V c;go_wp2;go_end0;exact gw c.out H.out rfl
  |true=>
   rw[hn]at b;simp only[]at b;have c:=fV b;have C:=(Zz (gO.chars t)).symm.trans hn;clear b hn;go_enter func57,ntmps57
   go_wp21
   refine(x.out _).mono ?_;rintro e U ⟨rfl,a⟩;replace H:=fV (H.out.k0 a);clear a;have J:=H.out.Te;have K:=H.out.free 197;have S:=H.out.lt;replace H:=fV (H.out.Dw t.a)
   go_wp21
   refine(F.out _).mono ?_;rintro e w2 ⟨rfl,l⟩;replace H:=fV (H.out.k0 l);clear l;go_wp2;go_end0;exact gw c.out H.out rfl
end
end Go.Proofs.YtlhhgenpcjjajaaGreatDoor
