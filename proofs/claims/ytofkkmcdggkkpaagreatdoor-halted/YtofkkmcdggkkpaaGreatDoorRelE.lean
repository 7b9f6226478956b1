import Derived.Test.YtofkkmcdggkkpaaGreatDoorRuA
import Derived.Deep.QuietTactic
import Derived.BigQuiet
set_option linter.unusedSimpArgs false
set_option linter.unusedVariables false
set_option linter.defProp false
set_option maxHeartbeats 0
set_option maxRecDepth 100000
namespace Go.Proofs.YtofkkmcdggkkpaaGreatDoor
open Go.RowKit Tryz
def ni:=@Nat.le_of_eq
def Kv:=@ByteArray.ext
def Gy:=@List.take_append_drop
def xI:=@Eq.trans
def C6:=@List.head?_eq_getElem?
def Fu:=@List.take_sublist
def qD:=@List.mem_cons
def qE:=@List.not_mem_nil
def rH:=@or_false
def C7:=@List.drop_eq_getElem_cons
def TL:=@List.mem_erase_of_ne
def lf:=@Nat.le_succ
def Fv:=@List.getElem?_of_mem
def C8:=@Nat.eq_zero_or_pos
section
variable {E : Env} {L : Loc} {a o xs ys : kQ} {c f i j m n p pf t : Nat} {e ei ej : zu} {k : Nd} {ks : List Nd} {old s : gy} {pl : Nat×Nat} {r : Nat->Nat} {w w' : gv} {x y z : jg}
def Rel.UY {L' : Loc} {σ σ':Ab} (h:Rel E L σ w) (b:KT E.bs [142,183,260] w w') (d:FC σ.nodes.length L L') (e1:L'.ov=L.ov) (e2:L'.cv=L.cv) (A:L'.wv=L.wv)
  (H:∀i N,σ'.nodes[i]?=some N->kX E.bs L' w' i N) (D:∀i j,L'.gP i=L'.gP j->i=j)
  (G:∀i j g,i < σ'.nodes.length->j < σ'.nodes.length->i≠j->(L'.kv i).ownBlock=some g->(L'.kv j).ownBlock≠some g)
  (F:∀i,i < σ'.nodes.length->σ'.hU i=none->(L'.kv i).ownBlock=none)
  (uq:∀i j e g,σ'.hU i=some e->nk e.name=true->j < σ'.nodes.length->i≠j->(L'.av i).ownBlock=some g->(L'.av j).ownBlock≠some g)
  (u:∀i,i < σ'.nodes.length->σ'.hU i=none->(L'.av i).ownBlock=none)
  (wf:Wf σ') (B:σ'.fresh=true->∀i g,i < σ'.nodes.length->E.tv.ownBlock=some g->(L'.av i).ownBlock≠some g)
  (I:σ'.nodes.length<=σ.nodes.length:=by first|exact ig _|simp[Ab.ib,Ab.oj])
  (O:σ'.gz=σ.gz:=by rfl) (P:σ'.act=σ.act:=by rfl) (X:σ'.head=σ.head:=by rfl) (Y:σ'.form=σ.form:=by rfl) (Z:σ'.mode=σ.mode:=by rfl) (s4:σ'.kept=σ.kept:=by rfl) (s5:σ'.iR=σ.iR:=by rfl) (s6:σ'.jN=σ.jN:=by rfl) (s7:σ'.gP=σ.gP:=by rfl) (s8:σ'.behind=σ.behind:=by rfl) (sw:σ'.waiting=σ.waiting:=by rfl) (so:σ'.nD=σ.nD:=by rfl) (sp:σ'.iZ=σ.iZ:=by rfl) (R:σ'.pQ=σ.pQ:=by rfl) (S:σ'.qQ=σ.qQ:=by rfl) (T:σ'.oZ=σ.oZ:=by rfl) (Q:L'.av=L.av:=by rfl):Rel E L' σ' w':=by
 obtain⟨C,V,U⟩:=h.ir;have l:=Ab.lO (σ:=σ) (i:=0) h.wf.xf;exact {h with
  fr:=h.fr.trans (b.fr (by decide))
  env:=by rw[d 0 l];exact h.env
  DU:=by rw[R,S,T];exact h.DU
  sN:=H,inj:=D,A8:=G,Ga:=F,uq:=uq,Eu:=u,wf:=wf
  ir:=⟨C,b.at V (by decide),U.ext d h.wf e1 e2 A X Y Z s4 s5 s6 s7 s8⟩
  o0:=by rw[O,e1,d.list λx W=>Ab.vA (h.wf.gz x W)];exact b.row h.o0 (by decide)
  pX:=by rw[P,e2,d.list h.wf.act];exact b.row h.pX (by decide)
  Gd:=by rw[e1,e2];exact h.Gd
  wV:=by rw[O];exact h.wV
  Ey:=by rw[P];exact h.Ey
  oS:=by rw[sw,A];exact b.row h.oS (by decide)
  LB:=by rw[sw];exact h.LB
  rd:=by rw[so,sp];exact b.at h.rd (by decide)
  tok:=b.row h.tok (by decide)
  bN:=λi q=>by rw[d i (lV q I)];exact h.bN i (lV q I)
  De:=B
  ab:=λi g q J=>h.ab i g (lV q I) (by rw[Q]at J;exact J)
  LA:=λv K=>⟨A.trans (h.LA v K).1,sw.trans (h.LA v K).2⟩}
def Rel.yW {σ:Ab} (h:Rel E L σ w) {g : Nat} (d:j < σ.nodes.length) (b:(L.kv j).ownBlock=some g):∃c m,w.heap[g]?=some (.cells c 183 m):=by
 cases he:σ.hU j with
 |none=>rw[h.Ga j d he]at b;cases b
 |some e=>exact rY (h.sN j _ (Ab.jo he)).1.row b
def Rel.M1 {σ:Ab} (h:Rel E L σ w) {g : Nat} (d:j < σ.nodes.length) (b:(L.av j).ownBlock=some g):∃c m,w.heap[g]?=some (.cells c 275 m):=by
 cases he:σ.hU j with
 |none=>rw[h.Eu j d he]at b;cases b
 |some e=>exact rY (h.sN j _ (Ab.jo he)).2.1 b
def Rel.M0 {σ:Ab} (h:Rel E L σ w) (b:j < σ.nodes.length):∃c t,w.heap[L.gP j]?=some (gI c t)/\t≠183/\t≠275:=by
 have⟨c,hc⟩:=(h.sN j σ.nodes[j] (ry b)).typ;refine⟨c,_,hc,?_⟩;cases σ.nodes[j]<;>(simp[AQ.typ])
theorem Kd {a : Nat} {c c' : jM} {t b : TypeId} {m d : Nat×Nat} (h:w.heap[a]?=some (.cells c t m)) (g:w.heap[a]?=some (.cells c' b d)):t=b:=by
 grind
theorem Rel.iE {σ:Ab} (h:Rel E L σ w) (J:List Nat) (l:∀j∈J,j < σ.nodes.length) {S : List Nat} (A:∀s∈S,∃j∈J,s=L.gP j\/(L.kv j).ownBlock=some s) (C:Kept S w w') {nd : AQ} (B:σ.nodes[i]?=some nd) (q:i∉J):kX E.bs L w' i nd:=by
 have b:i < σ.nodes.length:=(List.getElem?_eq_some_iff.1 B).1;refine(h.sN i nd B).kept C ?_ ?_ ?_
 .intro u;obtain⟨j,d,e|e⟩:=A _ u
  .exact q (by rw[h.inj i j e];exact d)
  .have⟨c,m,h1⟩:=h.yW (l j d) e;have⟨c',t,h2,h3,_⟩:=h.M0 b
   grind
 .intro g v u;obtain⟨j,d,e|e⟩:=A _ u
  .have⟨c,m,h1⟩:=h.yW b v;have⟨c',t,h2,h3,_⟩:=h.M0 (l j d)
   grind
  .exact h.A8 i j g b (l j d) (λD=>q (by grind)) v e
 .intro g v u;have⟨c,m,h1⟩:=h.M1 b v;obtain⟨j,d,e|e⟩:=A _ u
  .have⟨c',t,h2,_,h3⟩:=h.M0 (l j d)
   grind
  .have⟨c',m',h2⟩:=h.yW (l j d) e
   grind
def Rel.ktJ {σ:Ab} (h:Rel E L σ w) (J:List Nat) (b:∀j∈J,(σ.hU j).isSome=true) {S : List Nat} (g:∀s∈S,∃j∈J,s=L.gP j\/(L.kv j).ownBlock=some s) (l:Kept S w w'):KT E.bs [142,183,260] w w':=by
 refine .jU l λs q _=>?_;obtain⟨j,d,e|e⟩:=g s q
 .have⟨e',he⟩:=Option.isSome_iff_exists.1 (b j d);rw[e];exact⟨⟨_,_,_,(h.sN j _ (Ab.jo he)).1.ir,by simp⟩,h.bN j (Ab.ik he)⟩
 .have⟨e',he⟩:=Option.isSome_iff_exists.1 (b j d);have⟨c,m,h1⟩:=h.yW (Ab.ik he) e;exact⟨⟨_,_,_,h1,by simp⟩,((h.sN j _ (Ab.jo he)).1.row.lt _ e).1⟩
def Ab.nE (σ:Ab) (i:Nat) (e:zu):(σ.ib i e).nodes.length=σ.nodes.length:=by simp[Ab.ib]
theorem Ab.iW {σ:Ab} (b:i < σ.nodes.length):(σ.ib i e).hU i=some e:=by
 grind[Ab.hU,Ab.ib]
theorem Ab.iS {σ:Ab} (b:j≠i):(σ.ib i e).hU j=σ.hU j:=by
 grind[Ab.hU,Ab.ib]
theorem Ab.nZ {σ:Ab} {nd : AQ} (h:(σ.ib i e).nodes[j]?=some nd):(j=i/\nd= .el e)\/(j≠i/\σ.nodes[j]?=some nd):=by
 by_cases b:i=j
 .subst b;have d:i < σ.nodes.length:=by have:=(List.getElem?_eq_some_iff.1 h).1;simpa [Ab.ib]using this
  simp[Ab.ib,d]at h
  grind
 .simp[Ab.ib,b]at h
  grind
theorem Ab.qt {σ:Ab} (b:(σ.hU i).isSome=true) (x:jg):(σ.ib i e).gW x=σ.gW x:=by
 cases x with
 |none=>rfl
 |some j=>
  show((σ.ib i e).hU j).isSome=(σ.hU j).isSome
  grind[Ab.hU,Ab.ib]
def Ab.yg {σ:Ab} (b:(σ.hU i).isSome=true) (x:jg):(σ.ib i e).mG x=σ.mG x:=by
 cases x with
 |none=>rfl
 |some j=>exact Ab.qt b (some j)
theorem Ab.la {σ:Ab} (b:(σ.hU i).isSome=true) (k:Nd):(σ.ib i e).ji k=σ.ji k:=by
 have d:∀j,j≠i->(σ.ib i e).nodes[j]?=σ.nodes[j]?:=λj l=>by grind[Ab.ib]
 have⟨e0,he0⟩:=Option.isSome_iff_exists.1 b;have g:=Ab.jo he0;have h:(σ.ib i e).nodes[i]?=some (.el e):=by simp[Ab.ib,Ab.ik he0]
 cases k with
 |el j=>exact Ab.qt b (some j)
 |tx j=>grind[Ab.ji]
 |cm j=>grind[Ab.ji]
 |dt j=>grind[Ab.ji]
theorem Wf.ib {σ:Ab} (h:Wf σ) (d:(σ.hU i).isSome=true) (A:σ.gW e.je=true) (v:∀k∈e.kids,σ.ji k=true):Wf (σ.ib i e):=by
 refine⟨λx u=>by rw[Ab.yg d];exact h.gz x u,λx u=>by rw[Ab.qt d];exact h.act x u,by rw[Ab.qt d];exact h.head,by rw[Ab.qt d];exact h.form,?_,?_,?_⟩
 .intro j l g;rw[Ab.qt d]
  by_cases b:j=i
  .subst b;rw[Ab.iW (Ab.lO (σ:=σ) (i:=j) d)]at g;grind
  .rw[Ab.iS b]at g;exact h.je j l g
 .intro j l g k q;rw[Ab.la d]
  by_cases b:j=i
  .subst b;rw[Ab.iW (Ab.lO (σ:=σ) (i:=j) d)]at g;grind
  .rw[Ab.iS b]at g;exact h.kids j l g k q
 .have:=Ab.qt (e:=e) d (some 0);exact this.trans h.xf
theorem Rel.abV {σ σ':Ab} (h:Rel E L σ w) (i:Nat) (l:gO) (H:(σ.hU i).isSome=true) (R:KT E.bs [142,183,260] w w') (N:l.ownBlock=(L.kv i).ownBlock\/∀g,l.ownBlock=some g->w.heap.size<=g)
  (d:σ'.nodes.length=σ.nodes.length) (K:∀j P,σ'.hU j=some P->∃e,σ.hU j=some e/\P.name=e.name) (F:∀j,σ'.hU j=none->σ.hU j=none)
  (O:∀j S,σ'.nodes[j]?=some S->kX E.bs {L with kv:=λx=>if x=i then l else L.kv x} w' j S) (wf:Wf σ')
  (Z:σ'.gz=σ.gz:=by rfl) (s9:σ'.act=σ.act:=by rfl) (s1:σ'.head=σ.head:=by rfl) (s2:σ'.form=σ.form:=by rfl) (s3:σ'.mode=σ.mode:=by rfl) (s4:σ'.kept=σ.kept:=by rfl) (s5:σ'.iR=σ.iR:=by rfl) (s6:σ'.jN=σ.jN:=by rfl) (s7:σ'.gP=σ.gP:=by rfl) (s8:σ'.behind=σ.behind:=by rfl) (sw:σ'.waiting=σ.waiting:=by rfl) (so:σ'.nD=σ.nD:=by rfl) (sp:σ'.iZ=σ.iZ:=by rfl) (sf:σ'.fresh=σ.fresh:=by rfl) (T:σ'.pQ=σ.pQ:=by rfl) (U:σ'.qQ=σ.qQ:=by rfl) (V:σ'.oZ=σ.oZ:=by rfl):To E L σ' w w':=by
 have I:=Ab.lO (σ:=σ) (i:=i) H;have Q:∀j g,j < σ.nodes.length->j≠i->l.ownBlock=some g->(L.kv j).ownBlock≠some g:=by
  intro j g q A v C;rcases N with e|e
  .rw[e]at v;exact h.A8 i j g I q (xu A) v C
  .have⟨c,m,hc⟩:=h.yW q C
   grind
 refine⟨{L with kv:=λx=>if x=i then l else L.kv x},rfl,h.UY (L':={L with kv:=λx=>if x=i then l else L.kv x}) R (λ_ _=>rfl) rfl rfl rfl O h.inj ?_ ?_ ?_ ?_ wf ?_ (ni d) Z s9 s1 s2 s3 s4 s5 s6 s7 s8 sw so sp T U V,R.fr (by decide)⟩
 .intro a b g G B u v;rw[d]at G B
  by_cases W:a=i
  .grind
  .simp only[gQ W]at v
   by_cases X:b=i
   .grind
   .simp only[gQ X];exact h.A8 a b g G B u v
 .intro j q J;rw[d]at q;have D:=F j J;have A:j≠i:=by rintro rfl;rw[D]at H;cases H
  simp only[gQ A];exact h.Ga j q D
 .intro a b e g G Y B u v;rw[d]at B;have⟨e0,h0,hnm'⟩:=K a e G;exact h.uq a b e0 g h0 (by grind) B u v
 .intro j q J;rw[d]at q;exact h.Eu j q (F j J)
 .rw[d,sf];exact h.De
def Rel.uH {σ:Ab} (h:Rel E L σ w) (b:σ.hU i=some e):El E.bs w (L.gP i) e.name (L.av i) (iD L.gP e.je) (L.kv i) (e.kids.map (Nd.map L.gP)):=(h.sN i _ (Ab.jo b)).1
def Rel.vU {σ:Ab} (h:Rel E L σ w) (b:σ.hU i=some e):yF w (L.av i) e.gU:=(h.sN i _ (Ab.jo b)).2.1
def Rel.zM {σ:Ab} (h:Rel E L σ w) (b:σ.hU i=some e):e.gU.length<=4096:=(h.sN i _ (Ab.jo b)).2.2
theorem Rel.Wc {σ:Ab} (h:Rel E L σ w) (b:σ.ji k=true):zU w (Nd.map L.gP k):=by
 cases k with
 |el i=>
  have⟨e,he⟩:=Option.isSome_iff_exists.1 (show(σ.hU i).isSome=true from b);exact⟨_,(h.uH he).ir⟩
 |tx i=>
  simp only[Ab.ji]at b;split at b
  .rename_i s d;exact⟨_,h.sN i _ d⟩
  grind
 |cm i=>
  simp only[Ab.ji]at b;split at b
  .rename_i s d;exact⟨_,h.sN i _ d⟩
  grind
 |dt i=>
  simp only[Ab.ji]at b;split at b
  .rename_i s d;exact⟨_,h.sN i _ d⟩
  grind
theorem YQ {f : Nat->Nat} (b:∀i j,f i=f j->i=j) (j:Nat) (k:Nd):(Nd.map f k).gW (f j)=k.gW j:=by
 cases k with
 |el i=>
  grind[Nd.gW,Nd.map]
 |tx i=>rfl
 |cm i=>rfl
 |dt i=>rfl
theorem Jz {f : Nat->Nat} (b:∀i j,f i=f j->i=j) (ks:List Nd) (j:Nat):qh (ks.map (Nd.map f)) (Nd.gW (f j))=qh ks (Nd.gW j):=by
 have:(ks.map (Nd.map f)).findIdx (Nd.gW (f j))=ks.findIdx (Nd.gW j):=by
  rw[List.findIdx_map]
  congr 1
  funext k
  exact YQ b j k
 grind[qh]
def Rf {σ:Ab} (h:Rel E L σ w) (g:σ.hU i=some e):
  Calls prog 81 #[gJ (L.gP i)] w λb w'=>b=iq (place (L.gP i) e.kids.length)/\Rel E L σ w'/\Kept [] w w':=by
 refine(adt E.bs _ _ _ _ _ _ w (h.uH g)).mono ?_;rintro b w' ⟨rfl,d⟩;exact⟨by simp,h.il d,d⟩
def TA {σ:Ab} (h:Rel E L σ w) (l:σ.hU i=some e) (q:e.je=none):
  Calls prog 302 #[gJ (L.gP i)] w λb w'=>b=iq (.tuple #[.agg #[.pointer none,gn 0],.bool false])/\Rel E L σ w'/\Kept [] w w':=by
 have d:=h.uH l;rw[q]at d;refine(Yz E.bs _ _ _ _ _ w d).mono ?_;rintro b w' ⟨rfl,g⟩;exact⟨rfl,h.il g,g⟩
def Rg {σ:Ab} (h:Rel E L σ w) {g : zu} (u:σ.hU i=some e) (v:e.je=some p) (b:σ.hU p=some g):
  Calls prog 302 #[gJ (L.gP i)] w λl w'=>l=iq (.tuple #[.agg #[gJ (L.gP p),gn (qh g.kids (Nd.gW i))],.bool true])/\Rel E L σ w'/\Kept [] w w':=by
 have q:=h.uH u;rw[v]at q;refine(V0 E.bs _ _ _ _ _ _ _ _ _ _ _ w q (h.uH b) ?_).mono ?_
 .intro x A;obtain⟨k,d,rfl⟩:=List.mem_map.1 A;exact h.Wc (h.wf.kids p g b k d)
 rintro l w' ⟨rfl,d⟩;exact⟨by rw[Jz h.inj],h.il d,d⟩
theorem WX {σ:Ab} (h:Rel E L σ w) (d:σ.hU i=some e) (G:nk e.name=false):
  Calls prog 257 #[gJ (L.gP i)] w λq w'=>∃l,FC σ.nodes.length L l/\q=iq (gJ (l.gP σ.nodes.length))/\Rel E l (σ.add (.el {name:=e.name,gU:=e.gU,je:=none,kids:=[]})) w'/\Fr E.bs w w':=by
 have H:=h.vU d;have O:=h.zM d;refine(Hs E.bs _ _ _ _ _ _ w (h.uH d)).mono ?_;rintro q w' ⟨rfl,K,C⟩;have b:=Ab.ik d;refine⟨L.new σ.nodes.length w.heap.size (L.av i) (jX),λj A=>Loc.Ar A,by simp[Loc.new],?_,.gX C⟩;refine h.add (.el {name:=e.name,gU:=e.gU,je:=none,kids:=[]}) w.heap.size (L.av i) (jX) σ.fresh C (ig _) ?_ rfl (λq N=>by grind) ?_ ?_ (λD=>absurd rfl (D _)) ?_ (λg G=>h.ab i g b G)
 .show El E.bs w' _ _ _ _ _ _/\yF w' _ _/\_;rw[Loc.sZ,Loc.A9,Loc.G1];exact⟨K,C.ownsRow H (by simp),O⟩
 .intro j e2 g A v I J
  by_cases B:j=i
  .grind
  .exact h.uq j i e2 g A v b B J I
 .grind
 .intro F;exact⟨F,λg u=>h.De F i g b u⟩
def map_eraseIdx (f:Nd->Nd):∀(ks:List Nd) (n:Nat),(ks.eraseIdx n).map f=(ks.map f).eraseIdx n
 |[],_=>by simp
 |_::_,0=>by simp
 |k::ks,n+1=>by simp[map_eraseIdx f ks n]
def ins (ks:List Nd) (n:Nat) (k:Nd):List Nd:=ks.take n++[k]++ks.drop n
def DH (f:Nat->Nat) (ks:List Nd) (n:Nat) (k:Nd):(ins ks n k).map (Nd.map f)=(ks.map (Nd.map f)).take n++[Nd.map f k]++(ks.map (Nd.map f)).drop n:=by
 simp[ins]
theorem DI {x : Nd} (h:x∈ins ks n k):x∈ks\/x=k:=by
 rcases List.mem_append.1 h with h|h
 all_goals grind
theorem ZP {σ:Ab} (h:Rel E L σ w) (A:σ.hU i=some ei) (D:σ.hU j=some ej) (B:j≠i) (hn:n<=ei.kids.length) (hl:ei.kids.length < 1048576):
  Calls prog 156 #[place (L.gP i) n,(Nd.el (L.gP j)).val] w λe w'=>e=p8/\To E L ((σ.ib i {ei with kids:=ins ei.kids n (.el j)}).ib j {ej with je:=some i}) w w':=by
 have v:=Ab.ik A;have J:=Ab.ik D;have q:(σ.hU i).isSome=true:=by rw[A];rfl
 have G:(σ.hU j).isSome=true:=by rw[D];rfl
 have R:=h.vU A;have W:=h.zM A;have Y:=h.vU D;have lJ:=h.zM D;refine(Th E.bs _ n _ _ _ _ _ _ _ _ _ _ _ w (h.uH A) (h.uH D) (λe=>B (h.inj _ _ e)) (λg V=>h.A8 j i g J v B V) (by grind) (by grind) h.bw).mono ?_;rintro e w' ⟨rfl,⟨C,Q,S⟩,X,O⟩;have N:∀s∈L.gP j::L.gP i::(L.kv i).ownBlock.toList,∃x∈[j,i],s=L.gP x\/(L.kv x).ownBlock=some s:=by
  intro s H;rcases List.mem_cons.1 H with rfl|H
  .simp
  rcases List.mem_cons.1 H with rfl|H
  .simp
  .grind
 have P:=h.ktJ [j,i] (by grind) N O;have I:((σ.ib i {ei with kids:=ins ei.kids n (.el j)}).hU j).isSome=true:=by rw[Ab.iS B];exact G
 have F:∀x e,x < σ.nodes.length->yF w (L.av x) e->yF w' (L.av x) e:=λx e _ U=>P.row U (by decide);refine⟨rfl,h.abV i C q P S (by simp[Ab.ib]) ?_ ?_ ?_ ?_⟩
 .intro x Z b
  by_cases l:x=j
  .subst l;rw[Ab.iW (by grind[Ab.ib])]at b;grind
  .rw[Ab.iS l]at b
   by_cases d:x=i
   .subst d;rw[Ab.iW v]at b;grind
   .rw[Ab.iS d]at b;grind
 .intro x b
  by_cases l:x=j
  .subst l;rw[Ab.iW (by grind[Ab.ib])]at b;cases b
  .rw[Ab.iS l]at b
   by_cases d:x=i
   .subst d;rw[Ab.iW v]at b;cases b
   .rwa [Ab.iS d]at b
 .intro x nd b;rcases Ab.nZ b with⟨rfl,rfl⟩|⟨l,b⟩
  .grind[kX]
  .rcases Ab.nZ b with⟨rfl,rfl⟩|⟨d,b⟩
   .show El E.bs w' _ _ _ _ (if x=x then C else L.kv x) _/\_;rw[gF rfl];refine⟨?_,F x _ v R,W⟩;show El E.bs w' (L.gP x) ei.name (L.av x) (iD L.gP ei.je) C ((ins ei.kids n (.el j)).map (Nd.map L.gP));rw[DH];exact Q
   .have T:=h.iE [j,i] (by grind) N O b (by grind);have K:x < σ.nodes.length:=(List.getElem?_eq_some_iff.1 b).1;exact T.ext (σ:=σ) (FC.refl _ _) K rfl (gQ d) (h.wfn b)
 .refine(h.wf.ib (e:={ei with kids:=ins ei.kids n (.el j)}) q (h.wf.je i ei A) ?_).ib I ?_ ?_
  .intro k u;rcases DI u with u|rfl
   .exact h.wf.kids i ei A k u
   .exact G
  .rw[Ab.qt q];exact q
  .intro k u;rw[Ab.la q];exact h.wf.kids j ej D k u
theorem Rh {σ:Ab} (h:Rel E L σ w) (g:σ.hU i=some ei) (O:σ.ji k=true) (J:∀j,k≠ .el j) (Q:n<=ei.kids.length) (P:ei.kids.length < 1048576):
  Calls prog 156 #[place (L.gP i) n,(Nd.map L.gP k).val] w λe w'=>e=p8/\To E L (σ.ib i {ei with kids:=ins ei.kids n k}) w w':=by
 have u:=Ab.ik g;have q:(σ.hU i).isSome=true:=by rw[g];rfl
 have G:=h.vU g;have K:=h.zM g;refine(Zs E.bs _ n _ _ _ _ _ (Nd.map L.gP k) w (h.uH g) (by grind) (by grind) h.bw (λj e=>by cases k<;>simp[Nd.map]at e;grind)).mono ?_;rintro e w' ⟨rfl,⟨l,F,H⟩,v⟩;have B:∀s∈L.gP i::(L.kv i).ownBlock.toList,∃x∈[i],s=L.gP x\/(L.kv x).ownBlock=some s:=by
  intro s C;rcases List.mem_cons.1 C with rfl|C
  .simp
  .grind
 have D:=h.ktJ [i] (by grind) B v;refine⟨rfl,h.abV i l q D H (by simp[Ab.ib]) ?_ ?_ ?_ ?_⟩
 .intro x N b
  by_cases d:x=i
  .subst d;rw[Ab.iW u]at b;grind
  .rw[Ab.iS d]at b;grind
 .intro x b
  by_cases d:x=i
  .subst d;rw[Ab.iW u]at b;cases b
  .rwa [Ab.iS d]at b
 .intro x R b;rcases Ab.nZ b with⟨rfl,rfl⟩|⟨d,b⟩
  .show El E.bs w' _ _ _ _ (if x=x then l else L.kv x) _/\_;rw[gF rfl];refine⟨?_,D.row G (by decide),K⟩;show El E.bs w' (L.gP x) ei.name (L.av x) (iD L.gP ei.je) l ((ins ei.kids n k).map (Nd.map L.gP));rw[DH];exact F
  .have I:=h.iE [i] (by grind) B v b (by grind);have A:x < σ.nodes.length:=(List.getElem?_eq_some_iff.1 b).1;exact I.ext (σ:=σ) (FC.refl _ _) A rfl (gQ d) (h.wfn b)
 .refine h.wf.ib q (h.wf.je i ei g) ?_;intro x b;rcases DI b with b|rfl
  .exact h.wf.kids i ei g x b
  omega
def Ef {σ:Ab} (h:Rel E L σ w) (d:σ.hU j=some ej) (g:ej.je=none):
  Calls prog 358 #[gJ (L.gP j)] w λe w'=>e=p8/\w'=w:=by
 have b:=h.uH d;rw[g]at b;exact TC E.bs _ _ _ _ _ w b
theorem Xb {σ:Ab} (h:Rel E L σ w) {d : zu} (F:σ.hU j=some ej) (G:ej.je=some p) (A:σ.hU p=some d) (u:j≠p) (hn:n < d.kids.length) (S:qh d.kids (Nd.gW j)=(n:Int)):
  Calls prog 358 #[gJ (L.gP j)] w λe w'=>e=p8/\To E L ((σ.ib p {d with kids:=d.kids.eraseIdx n}).ib j {ej with je:=none}) w w':=by
 have C:=Ab.ik A;have N:=Ab.ik F;have D:(σ.hU p).isSome=true:=by rw[A];rfl
 have K:(σ.hU j).isSome=true:=by rw[F];rfl
 have Q:=h.uH F;rw[G]at Q;have W:=h.vU A;have lP:=h.zM A;have V:=h.vU F;have lJ:=h.zM F;refine(Gt E.bs _ _ n _ _ _ _ _ _ _ _ _ w Q (h.uH A) ?_ (λe=>u (h.inj _ _ e)) (λg Z=>h.A8 j p g N C u Z) (by grind) (by rw[Jz h.inj];omega)).mono ?_
 .intro x b;obtain⟨k,H,rfl⟩:=List.mem_map.1 b;exact h.Wc (h.wf.kids p d A k H)
 rintro e w' ⟨rfl,⟨v,T,X⟩,U,H⟩;have R:∀s∈L.gP j::L.gP p::(L.kv p).ownBlock.toList,∃x∈[j,p],s=L.gP x\/(L.kv x).ownBlock=some s:=by
  intro s I;rcases List.mem_cons.1 I with rfl|I
  .simp
  rcases List.mem_cons.1 I with rfl|I
  .simp
  .grind
 have P:=h.ktJ [j,p] (by grind) R H;have J:((σ.ib p {d with kids:=d.kids.eraseIdx n}).hU j).isSome=true:=by rw[Ab.iS u];exact K
 refine⟨rfl,h.abV p v D P (.inl X) (by simp[Ab.ib]) ?_ ?_ ?_ ?_⟩
 .intro x e' b
  by_cases q:x=j
  .subst q;rw[Ab.iW (by grind[Ab.ib])]at b;grind
  .rw[Ab.iS q]at b
   by_cases l:x=p
   .subst l;rw[Ab.iW C]at b;grind
   .rw[Ab.iS l]at b;grind
 .intro x b
  by_cases q:x=j
  .subst q;rw[Ab.iW (by grind[Ab.ib])]at b;cases b
  .rw[Ab.iS q]at b
   by_cases l:x=p
   .subst l;rw[Ab.iW C]at b;cases b
   .rwa [Ab.iS l]at b
 .intro x nd b;rcases Ab.nZ b with⟨rfl,rfl⟩|⟨q,b⟩
  .show El E.bs w' _ _ _ _ (if x=p then v else L.kv x) _/\_;rw[gQ u];exact⟨U,P.row V (by decide),lJ⟩
  .rcases Ab.nZ b with⟨rfl,rfl⟩|⟨l,b⟩
   .show El E.bs w' _ _ _ _ (if x=x then v else L.kv x) _/\_;rw[gF rfl];refine⟨?_,P.row W (by decide),lP⟩;show El E.bs w' (L.gP x) d.name (L.av x) (iD L.gP d.je) v ((d.kids.eraseIdx n).map (Nd.map L.gP));rw[map_eraseIdx];exact T
   .have Y:=h.iE [j,p] (by grind) R H b (by grind);have O:x < σ.nodes.length:=(List.getElem?_eq_some_iff.1 b).1;exact Y.ext (σ:=σ) (FC.refl _ _) O rfl (gQ l) (h.wfn b)
 .refine(h.wf.ib (e:={d with kids:=d.kids.eraseIdx n}) D (h.wf.je p d A) ?_).ib J rfl ?_
  .intro k B;exact h.wf.kids p d A k (List.mem_of_mem_eraseIdx B)
  .intro k B;rw[Ab.la D];exact h.wf.kids j ej F k B
theorem Rel.Gc {σ:Ab} (h:Rel E L σ w) (b:gy):Rel E (L.new σ.nodes.length w.heap.size (jX) (jX)) (σ.add (.el {name:=b,gU:=[],je:=none,kids:=[]})) (w.alloc (gI #[gH b,jX,.pointer none,jX] 142)):=by
 have l:Kept [] w (w.alloc (gI #[gH b,jX,.pointer none,jX] 142)):=(Kept.refl _ _).alloc _;refine h.add (.el {name:=b,gU:=[],je:=none,kids:=[]}) w.heap.size (jX) (jX) σ.fresh l (ig _) ?_ rfl (λe q=>by grind) (λ_ _ _ _ _ d=>by cases d) (λ_ _ _ _ _ _ d=>by cases d) (λ_=>rfl) (λg=>⟨g,λ_ _=>by simp[Value.ownBlock]⟩) (λ_ d=>by cases d);show El E.bs _ _ _ _ _ _ _/\yF _ _ _/\_;rw[Loc.sZ,Loc.A9,Loc.G1];exact⟨⟨fY w _,oX _ _ _ _,by simp,⟨_,_,_,rfl⟩⟩,oX _ _ _ _,by simp⟩
theorem Rel.pL {σ:Ab} (h:Rel E L σ w) (d:σ.fresh=true) (b:gy):Rel E (L.new σ.nodes.length w.heap.size E.tv (jX)) (σ.pn (.el {name:=b,gU:=E.ta,je:=none,kids:=[]}) false) (w.alloc (gI #[gH b,E.tv,.pointer none,jX] 142)):=by
 have u:Kept [] w (w.alloc (gI #[gH b,E.tv,.pointer none,jX] 142)):=(Kept.refl _ _).alloc _;refine h.add (.el {name:=b,gU:=E.ta,je:=none,kids:=[]}) w.heap.size E.tv (jX) false u (ig _) ?_ rfl (λe B=>by grind) (λi e g v _ l=>h.De d i g (Ab.ik v) l) (λe g j _ _ A l=>h.De d j g A l) (λq=>absurd rfl (q _)) (λd=>by cases d) h.tb;show El E.bs _ _ _ _ _ _ _/\yF _ _ _/\_;rw[Loc.sZ,Loc.A9,Loc.G1];have⟨ao,cap,hv⟩:=gG h.tok;exact⟨⟨fY w _,oX _ _ _ _,by simp,⟨_,_,_,hv⟩⟩,u.ownsRow h.tok (by simp),h.Ly⟩
def Rel.aeX {σ:Ab} (h:Rel E L σ w) (nd:AQ) (s:gy) (d:nd= .tx s\/nd= .cm s\/nd= .dt s):Rel E (L.new σ.nodes.length w.heap.size (jX) (jX)) (σ.add nd) (w.alloc (gI #[gH s] nd.typ)):=by
 have u:Kept [] w (w.alloc (gI #[gH s] nd.typ)):=(Kept.refl _ _).alloc _;have g:∀e,nd≠ .el e:=by rintro e rfl;rcases d with h|h|h<;>cases h
 refine h.add nd w.heap.size (jX) (jX) σ.fresh u (ig _) ?_ rfl (λe l=>absurd l (g e)) (λ_ _ _ _ _ b=>by cases b) (λ_ _ _ _ _ _ b=>by cases b) (λ_=>rfl) (λq=>⟨q,λ_ _=>by simp[Value.ownBlock]⟩) (λ_ b=>by cases b);rcases d with rfl|rfl|rfl
 .show _=_;rw[Loc.sZ];exact fY w _
 .show _=_;rw[Loc.sZ];exact fY w _
 .show _=_;rw[Loc.sZ];exact fY w _
def Too (E:Env) (L:Loc) (n:Nat) (σ':Ab) (w w':gv):Prop:=∃b,FC n L b/\Rel E b σ' w'/\Fr E.bs w w'
def Ab.oj (σ:Ab) (t:Nat) (s:gy):Ab:={σ with nodes:=σ.nodes.set t (.tx s)}
theorem Ab.tf {σ:Ab} (b:σ.nodes[t]?=some (.tx old)) (i:Nat):(σ.oj t s).hU i=σ.hU i:=by
 grind[Ab.hU,Ab.oj]
def Ab.ud {σ:Ab} (b:σ.nodes[t]?=some (.tx old)) (x:jg):(σ.oj t s).gW x=σ.gW x:=by
 cases x with
 |none=>rfl
 |some i=>show((σ.oj t s).hU i).isSome=(σ.hU i).isSome;rw[Ab.tf b]
def Ab.QW {σ:Ab} (b:σ.nodes[t]?=some (.tx old)) (x:jg):(σ.oj t s).mG x=σ.mG x:=by
 cases x with
 |none=>rfl
 |some i=>exact Ab.ud b (some i)
theorem Ab.Gq {σ:Ab} (b:σ.nodes[t]?=some (.tx old)) (k:Nd):(σ.oj t s).ji k=σ.ji k:=by
 have d:=(List.getElem?_eq_some_iff.1 b).1;have l:(σ.oj t s).nodes[t]?=some (.tx s):=by simp[Ab.oj,d]
 have h:∀j,j≠t->(σ.oj t s).nodes[j]?=σ.nodes[j]?:=λj g=>by grind[Ab.oj]
 cases k with
 |el j=>exact Ab.ud b (some j)
 |tx j=>grind[Ab.ji]
 |cm j=>grind[Ab.ji]
 |dt j=>grind[Ab.ji]
theorem GM {σ:Ab} (h:Rel E L σ w) (A:σ.hU i=some ei) (T:m < ei.kids.length) (v:ei.kids[m]= .tx t) (q:σ.nodes[t]?=some (.tx old)) (K:old.size+s.size<=1048576):
  Calls prog 163 #[place (L.gP i) (m+1),gH s] w λe w'=>e=p8/\To E L (σ.oj t (old++s)) w w':=by
 refine(Ll E.bs _ m (L.gP t) _ old s _ _ _ _ w (h.uH A) (by grind) (by simp[v,Nd.map]) (h.sN t _ q) K).mono ?_;rintro e w' ⟨rfl,R,F⟩;have N:=(List.getElem?_eq_some_iff.1 q).1;have G:=h.sN t _ q;have P:KT E.bs [142,183,260] w w':= .jU F (λx v _=>by simp at v;subst v;exact⟨⟨_,_,_,G,by simp⟩,h.bN t (List.getElem?_eq_some_iff.1 q).1⟩);refine⟨rfl,L,rfl,h.UY (σ':=σ.oj t (old++s)) P (λ_ _=>rfl) rfl rfl rfl ?_ h.inj ?_ ?_ ?_ ?_ ?_ ?_,P.fr (by decide)⟩
 .intro x Q d
  by_cases B:t=x
  .subst B;simp[Ab.oj,N]at d;rw[<-d];exact R
  .have D:σ.nodes[x]?=some Q:=by simpa [Ab.oj,B]using d
   have l:=(List.getElem?_eq_some_iff.1 D).1;refine(h.sN x Q D).kept F ?_ ?_ ?_
   .simp;exact λe=>B (h.inj _ _ e.symm)
   .intro g C u;simp at u;have⟨c,m',h1⟩:=h.yW l C;rw[u]at h1;exact absurd (Kd G h1) (by decide)
   .intro g C u;simp at u;have⟨c,m',h1⟩:=h.M1 l C;rw[u]at h1;exact absurd (Kd G h1) (by decide)
 .simpa [Ab.oj]using h.A8
 .intro x l d;rw[Ab.tf q]at d;exact h.Ga x (by simpa [Ab.oj]using l) d
 .intro a b e g O J I H C;rw[Ab.tf q]at O;exact h.uq a b e g O J (by simpa [Ab.oj]using I) H C
 .intro x l d;rw[Ab.tf q]at d;exact h.Eu x (by simpa [Ab.oj]using l) d
 .refine⟨λx v=>by rw[Ab.QW q];exact h.wf.gz x v,λx v=>by rw[Ab.ud q];exact h.wf.act x v,by rw[Ab.ud q];exact h.wf.head,by rw[Ab.ud q];exact h.wf.form,λi e A=>by rw[Ab.tf q]at A;rw[Ab.ud q];exact h.wf.je i e A,λi e A k F=>by rw[Ab.tf q]at A;rw[Ab.Gq q];exact h.wf.kids i e A k F,by rw[Ab.tf q];exact h.wf.xf⟩
 .intro S x g l;exact h.De S x g (by simpa [Ab.oj]using l)
theorem J3 {σ:Ab} (h:Rel E L σ w) (l:σ.hU i=some ei) (J:n<=ei.kids.length) (H:ei.kids.length < 1048576) (O:∀m,(B:m < ei.kids.length)->n=m+1->∀t,ei.kids[m]≠ .tx t):
  Calls prog 163 #[place (L.gP i) n,gH s] w λe w'=>e=p8/\Too E L σ.nodes.length ((σ.add (.tx s)).ib i {ei with kids:=ins ei.kids n (.tx σ.nodes.length)}) w w':=by
 have d:=Ab.ik l;refine N6 E.bs _ n _ s _ _ _ _ w (h.uH l) (by grind) _ ?_ ?_
 .intro N A;have D:=(h.il A).aeX (.tx s) s (.inl rfl);have v:FC σ.nodes.length L (L.new σ.nodes.length N.heap.size (jX) (jX)):=λj u=>Loc.Ar u;have q:(σ.add (.tx s)).hU i=some ei:=by rw[Ab.tI d];exact l
  have g:(σ.add (.tx s)).ji (.tx σ.nodes.length)=true:=by simp[Ab.ji,Ab.add]
  have:=Rh D (n:=n) (k:= .tx σ.nodes.length) q g (λj e=>by cases e) J H;rw[v i d]at this;simp only[Nd.map,Loc.sZ]at this;refine this.mono ?_;rintro e w' ⟨rfl,C,e2,F,G⟩;exact⟨rfl,C,λj u=>by rw[e2];exact v j u,F,(Fr.gX (A.alloc _)).trans G⟩
 .intro m B K t b;have I:m < ei.kids.length:=by simpa using B
  rw[List.getElem_map]at b;cases hq:ei.kids[m]with
  |tx t'=>grind
  |el _=>rw[hq]at b;cases b
  |cm _=>rw[hq]at b;cases b
  |dt _=>rw[hq]at b;cases b
inductive TK
 |ke (s:gy)
 |start (name:gy)
 |stop (name:gy)
 |gR (s:gy)
 |iM (name:gy) (q:Bool)
 |lost
 |im
structure gM where
 a:Nat
 b:Nat
 k:TK
 gU:lh:=[]
def gM.name (t:gM):gy:=match t.k with
 | .start n=>n
 | .stop n=>n
 |_=>⟨#[]⟩
def gM.js (t:gM):lh:=match t.k with
 | .start _=>t.gU
 | .stop _=>t.gU
 |_=>[]
def gM.chars (t:gM):gy:=match t.k with
 | .ke s=>s
 |_=>⟨#[]⟩
def sW (s:gy):Bool:=kC s ⟨#[0]⟩
def lU (s:gy):Bool:=ij [⟨#[32]⟩,⟨#[9]⟩,yD,⟨#[12]⟩] s
namespace Ab
def nm (σ:Ab) (i:Nat):gy:=match σ.hU i with
 |some e=>e.name
 |none=>⟨#[]⟩
def qU (σ:Ab):jg->gy
 |some i=>σ.nm i
 |none=>⟨#[]⟩
def last (σ:Ab):jg:=iB σ.gz ((σ.gz.length:Int) - 1)
def current (σ:Ab) (p:gy->Bool):Bool:=match σ.last with
 |none=>false
 |some i=>p (σ.nm i)
def pop (σ:Ab):Ab:={σ with gz:=σ.gz.dropLast}
def Jy (σ:Ab) (p:gy->Bool):Ab:=if σ.current p then σ.pop else σ
def AJ (σ:Ab) (p:gy->Bool):kQ->kQ
 |[]=>[]
 |x::r=>if p (σ.qU x)then r else AJ σ p r
def Fq (σ:Ab) (p:gy->Bool):Ab:={σ with gz:=(AJ σ p σ.gz.reverse).reverse}
def qc (σ:Ab) (p:gy->Bool):kQ->kQ
 |[]=>[]
 |x::r=>if p (σ.qU x)then qc σ p r else x::r
def xa (σ:Ab) (p:gy->Bool):Ab:={σ with gz:=(qc σ (λs=>!(p s||ij [fX] s)) σ.gz.reverse).reverse}
def mF (σ:Ab):Ab:={σ with gz:=(qc σ uM σ.gz.reverse).reverse}
def xG (σ:Ab) (p b:gy->Bool):kQ->Bool
 |[]=>false
 |x::r=>if p (σ.qU x)then true else if b (σ.qU x)then false else xG σ p b r
def inScope (σ:Ab) (p b:gy->Bool):Bool:=xG σ p b σ.gz.reverse
def nX (σ:Ab) (b:Nat):kQ->Bool
 |[]=>false
 |x::r=>if x=some b then true else if iP (σ.qU x)then false else nX σ b r
def oI (σ:Ab) (b:Nat):Bool:=nX σ b σ.gz.reverse
def close (σ:Ab) (p b:gy->Bool):Ab:=if σ.inScope p b then σ.Fq p else σ
end Ab
def Do:gy->Bool:=λs=>iP s||ij [hH] s
def acH:gy->Bool:=λs=>iP s||ij [oy] s
def AD:gy->Bool:=ij [fX,fZ]
def AE:gy->Bool:=ij [fZ,gp,gq,gr,ic]
def aeI (x:jg):M Nat:=λσ=>match x with
 |some i=>if (σ.hU i).isSome then .ok i σ else .stuck
 |none=> .stuck
def jy (i:Nat):M (Nat×Nat):=λσ=>match σ.hU i with
 |some e=> .ok (i,e.kids.length) σ
 |none=> .stuck
def rV (σ:Ab):kQ->Option (jg)
 |[]=>none
 |x::r=>if !kC (σ.qU x) fZ||x=iB σ.gz 0 then rV σ r else some x
def pG.isOk {α:Type}:pG α->Bool
 | .ok _ _=>true
 |_=>false
def mD (i:Nat):M (Nat×Nat):=λσ=>match σ.hU i with
 |some e=>match e.je with
  |some p=>match σ.hU p with
   |some ep=>if 0<=qh ep.kids (Nd.gW i)then .ok (p,(qh ep.kids (Nd.gW i)).toNat) σ else .stuck
   |none=> .stuck
  |none=>match iB σ.gz (posOf σ.gz (some i) - 1)with
   |some q=>jy q σ
   |none=> .stuck
 |none=> .stuck
def Ab.AF (σ:Ab):Bool:=σ.gz.all λx=>match x with
 |some i=>!kC (σ.nm i) fZ||decide (some i=iB σ.gz 0)||(mD i σ).isOk
 |none=>false
def j4:M (Nat×Nat):=λσ=>if σ.AF then (match rV σ σ.gz.reverse with
 |some (some i)=>mD i σ
 |some none=> .stuck
 |none=>match iB σ.gz 0 with
  |some q=>jy q σ
  |none=> .stuck)else .stuck
theorem pt {σ σ1:Ab} (h:jy i σ= .ok pl σ1):σ1=σ:=by
 unfold jy at h
 grind
theorem Bu {σ σ1:Ab} (h:mD i σ= .ok pl σ1):σ1=σ:=by
 unfold mD at h;split at h
 .split at h
  .grind
  .split at h
   .exact pt h
   grind
 grind
theorem oF {σ σ1:Ab} (h:j4 σ= .ok pl σ1):σ1=σ:=by
 unfold j4 at h;split at h
 .split at h
  .exact Bu h
  .cases h
  .split at h
   .exact pt h
   grind
 grind
def placeFor (i:Nat):M (Nat×Nat):=λσ=>if σ.iR&&AE (σ.nm i)then j4 σ else jy i σ
def mW:M (Nat×Nat):=λσ=>match σ.last with
 |some i=>placeFor i σ
 |none=> .stuck
def mO (pl:Nat×Nat) (j:Nat):M Unit:=λσ=>match σ.hU pl.1,σ.hU j with
 |some ei,some ej=>if j≠pl.1/\pl.2<=ei.kids.length/\ei.kids.length < 1048576 then .ok () ((σ.ib pl.1 {ei with kids:=ins ei.kids pl.2 (.el j)}).ib j {ej with je:=some pl.1})else .stuck
 |_,_=> .stuck
def zF (pl:Nat×Nat) (k:Nd):M Unit:=λσ=>match σ.hU pl.1 with
 |some ei=>if σ.ji k=true/\pl.2<=ei.kids.length/\ei.kids.length < 1048576 then .ok () (σ.ib pl.1 {ei with kids:=ins ei.kids pl.2 k})else .stuck
 |none=> .stuck
def uN (pl:Nat×Nat) (s:gy):M Unit:=λσ=>match σ.hU pl.1 with
 |some ei=>if pl.2<=ei.kids.length/\ei.kids.length < 1048576 then
   match (if pl.2=0 then none else ei.kids[pl.2 - 1]?)with
   |some (.tx t)=>match σ.nodes[t]? with
    |some (.tx old)=>if old.size+s.size<=1048576 then .ok () (σ.oj t (old++s))else .stuck
    |_=> .stuck
   |_=> .ok () ((σ.add (.tx s)).ib pl.1 {ei with kids:=ins ei.kids pl.2 (.tx σ.nodes.length)})
  else .stuck
 |none=> .stuck
def xk (x:jg):M Unit:=λσ=>if σ.pQ<=σ.gz.length then .stop 5 σ.gP else if σ.mG x then .ok () {σ with gz:=σ.gz++[x]} else .stuck
def mj (j:Nat):M Unit:=do
 let pl <-mW
 mO pl j
 xk (some j)
 return ()
def Gc (b:gy):M Nat:=λσ=> .ok σ.nodes.length (σ.add (.el {name:=b,gU:=[],je:=none,kids:=[]}))
def gM.rL (t:gM):Bool:=match t.k with
 | .start _=>true
 | .stop _=>true
 |_=>false
def pL (t:gM):M Nat:=λσ=>if σ.fresh&&t.rL then .ok σ.nodes.length (σ.pn (.el {name:=t.name,gU:=t.js,je:=none,kids:=[]}) false)else .stuck
def kq (b:gy):M Unit:=do
 let j <-Gc b
 mj j
 return ()
def jt (t:gM):M Unit:=do
 let j <-pL t
 mj j
 return ()
def yl:M (jg):=λσ=> .ok σ.last σ.pop
def lx (t:gM):M Unit:=do
 jt t
 let _ <-yl
 return ()
def j7 (t:gM):M Unit:=do
 let pl <-mW
 uN pl t.chars
 return ()
def nj (p b:gy->Bool):M Bool:=λσ=>if σ.inScope p b then .ok true (σ.Fq p)else .ok false σ
def oC:M Unit:=do
 let _ <-nj (ij [nc]) Do
 return ()
def pZ (p:gy->Bool):M Unit:=wH λσ=>σ.Jy p
def uG (p:gy->Bool):M Unit:=wH λσ=>σ.xa p
def jO (m:Nat):M Unit:=wH λσ=>{σ with mode:=m}
def ku (x:jg):M Unit:=λσ=>if σ.gW x then .ok () {σ with gz:=σ.gz.erase x} else .stuck
def zE (x y:jg):M Unit:=λσ=>if σ.gW x&&σ.mG y then .ok () {σ with gz:=pM σ.gz x y} else .stuck
def qx (x y:jg):M Unit:=λσ=>if σ.gW x&&σ.mG y&&decide (σ.gz.length < 4096)then .ok () {σ with gz:=jb σ.gz x y} else .stuck
def Av (x:jg):M Unit:=λσ=>if σ.gW x then .ok () {σ with gz:=oe σ.gz x} else .stuck
def kK (x:jg):M Unit:=λσ=>if σ.gW x then .ok () {σ with act:=σ.act.erase x} else .stuck
def rj (x y:jg):M Unit:=λσ=>if σ.gW x&&σ.gW y then .ok () {σ with act:=pM σ.act x y} else .stuck
def qj (x y:jg):M Unit:=λσ=>if σ.gW x&&σ.gW y&&decide (σ.act.length < 4096)then .ok () {σ with act:=jb σ.act x y} else .stuck
def BT (x:jg):M Unit:=λσ=>if σ.gW x then .ok () {σ with act:=oe σ.act x} else .stuck
def yU (gL:lh) (s:gy):Bool:=gL.any λa=>kC a.1 s
def qo (i:Nat):lh->M Unit
 |[]=>pure ()
 |a::r=>λσ=>match σ.hU i with
  |none=> .stuck
  |some e=>if yU e.gU a.1 then qo i r σ else if σ.oZ<=e.gU.length then .stop 7 σ.gP else qo i r (σ.ib i {e with gU:=e.gU++[a]})
def wj (i:Nat) (t:gM):M Unit:=λσ=>if σ.fresh&&nk (σ.nm i)then qo i t.js σ else .stuck
def kR (i:Nat):M Nat:=λσ=>match σ.hU i with
 |some e=>if nk e.name then .stuck else .ok σ.nodes.length (σ.add (.el {name:=e.name,gU:=e.gU,je:=none,kids:=[]}))
 |none=> .stuck
def Ab.SK (σ:Ab) (x:jg):Bool:=decide (x=none)||decide (x∈σ.gz)
def Ab.tY (σ:Ab):kQ->Nat
 |[]=>0
 |x::r=>if σ.SK x then r.length+1 else σ.tY r
def Ab.Ay (σ:Ab):Nat:=σ.tY σ.act.reverse
def FH (n:Nat):M Nat:=λσ=>match iB σ.act (n:Int)with
 |some i=> .ok i σ
 |none=> .stuck
def qK (old:Nat):M Unit:=λσ=>rj (some old) σ.last σ
def JC:Nat->Nat->M Unit
 |0,_=>pure ()
 |k+1,n=>do
  let old <-FH n
  let j <-kR old
  mj j
  qK old
  JC k (n+1)
def lK:M Unit:=λσ=>JC (σ.act.length - σ.Ay) σ.Ay σ
def Ab.qv (σ:Ab) (s:gy):kQ->jg
 |[]=>none
 |none::_=>none
 |some i::r=>if kC (σ.nm i) s then some i else σ.qv s r
def Ab.pw (σ:Ab) (s:gy):jg:=σ.qv s σ.act.reverse
def adQ (a b:zu):Bool:=kC a.name b.name&&(a.gU.length==b.gU.length)&&a.gU.all λx=>b.gU.any λy=>kC x.1 y.1&&kC x.2 y.2
def Ab.Wn (σ:Ab) (i j:Nat):Bool:=match σ.hU i,σ.hU j with
 |some a,some b=>adQ a b
 |_,_=>false
def Ab.sj (σ:Ab) (j:Nat):kQ->jg×Nat->jg×Nat
 |[],c=>c
 |none::_,c=>c
 |some i::r,c=>if σ.Wn i j then σ.sj j r (some i,c.2+1)else σ.sj j r c
def lw (x:jg):M Unit:=λσ=>if σ.qQ<=σ.act.length then .stop 6 σ.gP else if σ.gW x then .ok () {σ with act:=σ.act++[x]} else .stuck
def MP (i:Nat):M Unit:=λσ=>
 let c:=σ.sj i σ.act.reverse (none,0)
 if 3<=c.2 then (do
  kK c.1
  lw (some i)
  return ():M Unit) σ else (do
  lw (some i)
  return ():M Unit) σ
def zo:M Unit:=do
 BT none
 return ()
def Jd:M Nat:=λσ=>match σ.last with
 |some i=> .ok i σ
 |none=> .stuck
def lz (t:gM):M Unit:=do
 lK
 jt t
 return ()
def sI (t:gM):M Unit:=do
 lK
 lx t
 return ()
def iV (t:gM):M Unit:=do
 lz t
 let i <-Jd
 MP i
 return ()
def uJ (s:gy):M Unit:=do
 let _ <-nj (ij [s]) lc
 return ()
def Ab.uZ (σ:Ab) (f:Nat):kQ->jg->jg
 |[],b=>b
 |x::r,b=>if x=some f then b else σ.uZ f r (if lc (σ.qU x)then x else b)
def Ab.ql (σ:Ab) (f:Nat):jg:=σ.uZ f σ.gz.reverse none
variable {σ σ' : Ab}
def mr (j:Nat):M Unit:=λσ=>match σ.hU j with
 |none=> .stuck
 |some ej=>match ej.je with
  |none=> .ok () σ
  |some p=>match σ.hU p with
   |none=> .stuck
   |some ep=>if j≠p/\0<=qh ep.kids (Nd.gW j)/\(qh ep.kids (Nd.gW j)).toNat < ep.kids.length then .ok () ((σ.ib p {ep with kids:=ep.kids.eraseIdx (qh ep.kids (Nd.gW j)).toNat}).ib j {ej with je:=none})else .stuck
def Fb (pl:Nat×Nat) (k:Nd):M Unit:=match k with
 | .el j=>mO pl j
 |k=>zF pl k
def ye (dst:Nat):List Nd->M Unit
 |[]=>pure ()
 |k::r=>do
  let pl <-jy dst
  Fb pl k
  ye dst r
def handOver (b dst:Nat):M Unit:=λσ=>match σ.hU b with
 |none=> .stuck
 |some eb=>if b=dst then .stuck else (ye dst eb.kids>>=λ_ σ'=>match σ'.hU b with
  |some eb'=> .ok () (σ'.ib b {eb' with kids:=[]})
  |none=> .stuck) σ
def Gk (n:Nat):M Nat:=λσ=>match iB σ.gz (n:Int)with
 |some i=> .ok i σ
 |none=> .stuck
def mn (f d:Nat):Nat->Nat->Nat->Nat->M (Nat×Nat)
 |0,_,last,mark=>pure (last,mark)
 |n+1,c,last,mark=>do
  let e <-Gk n
  if e=f then pure (last,mark)else do
   (if 3 < c+1 then kK (some e)else pure ())
   λσ=>if some e∉σ.act then (do
    ku (some e)
    mn f d n (c+1) last mark:M (Nat×Nat)) σ else (do
    let b <-kR e
    zE (some e) (some b)
    rj (some e) (some b)
    mr last
    let pl <-jy b
    mO pl last
    mn f d n (c+1) b (if last=d then b else mark):M (Nat×Nat)) σ
def xE (f b:Nat):M (Nat×Nat):=λσ=>mn f b (posOf σ.gz (some b)).toNat 0 b f σ
def ahead (f:Nat):M Nat:=λσ=>match iB σ.gz (posOf σ.gz (some f) - 1)with
 |some i=> .ok i σ
 |none=> .stuck
def ux (f d:Nat):M Unit:=do
 let (last,mark) <-xE f d
 mr last
 let a <-ahead f
 let pl <-placeFor a
 mO pl last
 let b <-kR f
 handOver d b
 let pl <-jy d
 mO pl b
 qj (some mark) (some b)
 kK (some f)
 ku (some f)
 qx (some d) (some b)
 return ()
def nB (s:gy):M Bool:=λσ=>match σ.pw s with
 |none=>(do uJ s;return false:M Bool) σ
 |some f=>if some f∉σ.gz then (do kK (some f);return false:M Bool) σ
  else if !σ.oI f then .ok false σ
  else match σ.ql f with
   |none=>(do Av (some f);kK (some f);return false:M Bool) σ
   |some b=>(do ux f b;return true:M Bool) σ
def sR (s:gy):Nat->M Unit
 |0=>pure ()
 |k+1=>do
  let b <-nB s
  if b then sR s k else pure ()
def wZ (s:gy):M Unit:=λσ=>match σ.last with
 |none=> .stuck
 |some i=>if kC (σ.nm i) s&&!decide (some i∈σ.act)then (do let _ <-yl;return ():M Unit) σ else sR s 8 σ
section
variable (rec:Nat->gM->M Unit) (t:gM)
def j1:M Unit:=λσ=>rec σ.mode t σ
def oO (pl:Nat×Nat) (nd:AQ) (k:Nat->Nd):M Unit:=λσ=>zF pl (k σ.nodes.length) (σ.add nd)
def Ca:M (Nat×Nat):=jy 0
def ox:M Unit:=match t.k with
 | .iM n q=>do
  let pl <-Ca
  oO pl (.dt n) .dt
  wH λσ=>{σ with jN:=q||!kC n fX}
  jO 1
  return ()
 |_=>do
  jO 1
  return ()
def lG:M Unit:=do
 wH λσ=>{σ with jN:=true}
 jO 1
 j1 rec t
 return ()
def sY (b:gy) (own:Bool) (gL:lh):M Nat:=λσ=>if own then (if σ.fresh then .ok σ.nodes.length (σ.pn (.el {name:=b,gU:=gL,je:=none,kids:=[]}) false)else .stuck)else .ok σ.nodes.length (σ.add (.el {name:=b,gU:=[],je:=none,kids:=[]}))
def rN (own:Bool) (gL:lh):M Unit:=do
 let e <-sY fX own gL
 let pl <-Ca
 mO pl e
 xk (some e)
 jO 2
 return ()
def yt:M Unit:=do
 rN t.rL t.js
 return ()
def pa:M Unit:=do
 rN false []
 j1 rec t
 return ()
def rO (own:Bool) (gL:lh):M Unit:=do
 let e <-sY gS own gL
 wH λσ=>{σ with head:=some e}
 mj e
 jO 3
 return ()
def yu:M Unit:=do
 rO t.rL t.js
 return ()
def pc:M Unit:=do
 rO false []
 j1 rec t
 return ()
def AZ:M Unit:=do
 let _ <-yl
 jO 4
 return ()
def nC:M Unit:=do
 AZ
 j1 rec t
 return ()
def ue:M Unit:=do
 jt t
 jO 6
 return ()
def nw:M Unit:=do
 kq gA
 jO 6
 j1 rec t
 return ()
def px:M Unit:=λσ=>ku σ.head σ
def pushHead:M Unit:=λσ=>xk σ.head σ
def tF:M Unit:=do
 pushHead
 rec 3 t
 px
 return ()
def MX (of:gy) (b:Bool):M Unit:=wH λσ=>{σ with nD:=of,iZ:=b}
def oc (b:Bool):M Unit:=do
 jt t
 MX t.name b
 wH λσ=>{σ with kept:=σ.mode}
 jO 5
 return ()
def ui:M Unit:=do
 oc t false
 return ()
def oR:M Unit:=do
 oc t true
 return ()
def yT:M Unit:=do
 let _ <-yl
 wH λσ=>{σ with mode:=σ.kept}
 return ()
def Ds:M Unit:=do
 yT
 j1 rec t
 return ()
def nG:M Unit:=if sW t.chars then pure ()else do
 lK
 j7 t
 return ()
def oG:M Unit:=λσ=>match iB σ.gz 0 with
 |some i=>(do wj i t;return ():M Unit) σ
 |none=> .stuck
def qm:M Unit:=λσ=>match iB σ.gz 1 with
 |some i=>if kC (σ.nm i) gA then (do wj i t;return ():M Unit) σ else .ok () σ
 |none=> .ok () σ
def mX:M Unit:=do
 oC
 jt t
 return ()
def wF:M Unit:=do
 mX t
 wH λσ=>{σ with behind:=true}
 return ()
def oo:M Unit:=do
 oC
 pZ (ij [mf,mg])
 jt t
 return ()
def xn:M Unit:=do
 oC
 lx t
 return ()
def ug:M Unit:=λσ=>match σ.form with
 |some _=> .ok () σ
 |none=>(do
  mX t
  wH λσ=>{σ with form:=σ.last}
  return ():M Unit) σ
def ph:M Unit:=do
 let _ <-nj (ij [hH]) iP
 lz t
 return ()
def yJ:M Unit:=λσ=>if σ.jN then .ok () σ else oC σ
def sx:M Unit:=do
 yJ
 jt t
 jO 7
 return ()
def pW:M Unit:=do
 ui t
 wH λσ=>{σ with behind:=true}
 return ()
def pj:M Unit:=do
 pZ (ij [gN])
 lz t
 return ()
def qA:M Unit:=do
 lz t
 wH λσ=>{σ with mode:=if σ.mode=7\/σ.mode=9\/σ.mode=11\/σ.mode=12\/σ.mode=13 then 15 else 14}
 return ()
def re:M Unit:=λσ=>match σ.pw tq with
 |none=>(do iV t;return ():M Unit) σ
 |some a=>(do
  wZ tq
  kK (some a)
  ku (some a)
  iV t
  return ():M Unit) σ
def uh:M Unit:=λσ=>if σ.inScope (ij [iG]) iP then (do wZ iG;iV t;return ():M Unit) σ else (do iV t;return ():M Unit) σ
def sG:M Unit:=do
 lK
 uh t
def pR:M Unit:=do
 wZ t.name
 return ()
def pi:M Unit:=do
 lz t
 lw none
 return ()
def sC:M Unit:=do
 let b <-nj (ij [gV]) iP
 if b then zo else pure ()
def yP:M Unit:=λσ=>if σ.inScope (ij [gA]) iP then .ok () {σ with mode:=16} else .ok () σ
def yR:M Unit:=λσ=>if σ.inScope (ij [gA]) iP then (do
  jO 16
  j1 rec t
  return ():M Unit) σ else .ok () σ
def x9:M Unit:=do
 let _ <-nj (ij [t.name]) iP
 return ()
def tK:M Unit:=do
 let _ <-nj (ij [mf,mg]) iP
 return ()
def A0:M Unit:=do
 let _ <-nj (ij [kM]) acH
 return ()
def Pq:M Unit:=λσ=>if σ.inScope (ij [nc]) Do then (do oC;return ():M Unit) σ else (do
  kq nc
  oC
  return ():M Unit) σ
def uI:M Unit:=do
 lK
 kq j3
 let _ <-yl
 return ()
def yQ:M Unit:=λσ=>match σ.form with
 |none=> .ok () σ
 |some i=>if σ.oI i then (do
   wH λσ=>{σ with form:=none}
   wH λσ=>σ.mF
   ku (some i)
   return ():M Unit) σ else .ok () {σ with form:=none}
def yb:M Unit:=do
 uJ t.name
 return ()
def IA:M Unit:=jO 17
def vV:M Unit:=do
 jO 6
 j1 rec t
 return ()
def sV:M Unit:=do
 wH λσ=>{σ with iR:=true}
 rec 6 t
 wH λσ=>{σ with iR:=false}
 return ()
def o9:M Unit:=λσ=>if σ.current AE then (do
  wH λσ=>{σ with kept:=σ.mode}
  jO 8
  j1 rec t
  return ():M Unit) σ else (do sV rec t;return ():M Unit) σ
def pB:M Unit:=do
 uG (ij [fZ])
 lw none
 jt t
 jO 9
 return ()
def me:M Unit:=λσ=>match σ.form with
 |some _=> .ok () σ
 |none=>(do
  jt t
  let x <-yl
  wH λσ=>{σ with form:=x}
  return ():M Unit) σ
def Tq (s:gy):gy:=⟨s.data.map λb=>if 65<=b.toNat/\b.toNat<=90 then b+32 else b⟩
def us:lh->Bool
 |[]=>false
 |a::r=>if kC a.1 nI then kC (Tq a.2) lD else us r
def kO:M Unit:=if us t.js then (do lx t;return ())else (do sV rec t;return ())
def oJ:M Unit:=match t.k with
 | .ke s=>if sW s then pure ()else λσ=>if σ.waiting.length < 4096 then .ok () {σ with waiting:=σ.waiting++[(t.a,t.b,s)]} else .stuck
 |_=>stuck
def rl (x:Nat×Nat×gy):gM:={a:=x.1,b:=x.2.1,k:= .ke x.2.2}
def tQ:List (Nat×Nat×gy)->M Unit
 |[]=>pure ()
 |x::r=>do
  j7 (rl x)
  tQ r
def tN:List (Nat×Nat×gy)->M Unit
 |[]=>pure ()
 |x::r=>do
  sV rec (rl x)
  tN r
def po:M Unit:=λσ=>if σ.waiting.any λx=>!lU x.2.2 then tN rec σ.waiting σ else tQ σ.waiting σ
def rU (ks:List gy) (m:Nat):M Bool:=do
 let b <-nj (ij ks) AD
 if b then (do jO m;return true)else return false
def lj (ks:List gy) (m:Nat):M Bool:=do
 let b <-rU ks m
 if b then (do zo;return true)else return false
def jR (s:gy):Nat:=if ij [iy,iA] s then 13 else if ij [ic] s then 12 else if ij [gp,gr,gq] s then 11 else if ij [gw] s then 9 else if ij [gh] s then 10 else if ij [fZ] s then 7 else 6
def tZ (σ:Ab):kQ->Nat
 |[]=>6
 |x::r=>if jR (σ.qU x)=6 then tZ σ r else jR (σ.qU x)
def xF:M Unit:=wH λσ=>{σ with mode:=tZ σ σ.gz.reverse}
def yc:M Bool:=do
 let b <-nj (ij [fZ]) AD
 if b then (do xF;return true)else return false
def tJ:M Bool:=lj [gw] 7
def mB:M Bool:=λσ=>if σ.current (ij [gh])then (do
  let _ <-yl
  jO 7
  return true:M Bool) σ else .ok false σ
def qP:M Bool:=rU [gp,gq,gr] 7
def EH:M Bool:=rU [ic] 11
def endCell:M Bool:=lj [iy,iA] 12
def ra:M Unit:=do
 uG (ij [ic])
 jt t
 jO 13
 lw none
 return ()
def pr:M Unit:=if sW t.chars then pure ()else do
 j7 t
 return ()
def j5:M Unit:=do
 pZ (ij [gN])
 jt t
 return ()
def jv:M Unit:=do
 pZ (ij [gN])
 pZ (ij [gm])
 jt t
 return ()
def lL:M Unit:=do
 jv t
 let _ <-yl
 return ()
def jl:M Unit:=λσ=>if σ.current (ij [gN])then (match iB σ.gz (posOf σ.gz σ.last - 1)with
  |none=> .stuck
  |some i=>if kC (σ.nm i) gm then (do
    let _ <-yl
    pZ (ij [gm])
    return ():M Unit) σ else (do pZ (ij [gm]);return ():M Unit) σ)
 else (do pZ (ij [gm]);return ():M Unit) σ
def mN:M Unit:=do
 pZ (ij [gN])
 return ()
def vG:M Bool:=do
 let b <-nj (ij [iX]) (λs=>!(ij [gN] s||ij [gm] s))
 if b then (do xF;return true)else return false
end
theorem tL {a b : gy} (h:kC a b=true):a=b:=by
 unfold kC at h;have d:a.toList=b.toList:=by simpa using h
 rw[sJ,sJ]at d;apply Kv
 simp_all
def iJ:List Nd->List Nat
 |[]=>[]
 | .el j::r=>j::iJ r
 | .tx _::r=>iJ r
 | .cm _::r=>iJ r
 | .dt _::r=>iJ r
def qN (a b:List Nd):iJ (a++b)=iJ a++iJ b:=by
 induction a with
 |nil=>rfl
 |cons k r ih=>cases k<;>simp[iJ,ih]
def vN:∀{ks:List Nd},j∈iJ ks↔Nd.el j∈ks
 |[]=>by simp[iJ]
 |k::r=>by cases k<;>simp[iJ,vN (ks:=r)]
def AY (ks:List Nd) (n:Nat) (j:Nat):(iJ (ins ks n (.el j))).Perm (j::iJ ks):=by
 unfold ins;have h:iJ ks=iJ (ks.take n)++iJ (ks.drop n):=by rw[<-qN,Gy]
 rw[qN,qN,h];simp[iJ]
theorem Sk (ks:List Nd) (n:Nat) (k:Nd) (b:∀j,k≠ .el j):iJ (ins ks n k)=iJ ks:=by
 unfold ins;have h:iJ ks=iJ (ks.take n)++iJ (ks.drop n):=by rw[<-qN,Gy]
 rw[qN,qN,h];cases k with
 |el j=>grind
 |tx j=>simp[iJ]
 |cm j=>simp[iJ]
 |dt j=>simp[iJ]
theorem Um (ks:List Nd) (n:Nat) (k:Nd) (b:n<=ks.length):(ins ks n k).length=ks.length+1:=by
 unfold ins;grind
theorem Uv {x : Nd}:x∈ins ks n k↔x=k\/x∈ks:=by
 unfold ins;have h:x∈ks↔x∈ks.take n\/x∈ks.drop n:=by rw[<-List.mem_append,Gy]
 grind
def Uw:AQ->Nat
 | .el e=>e.kids.length
 | .tx s=>s.size
 | .cm _=>0
 | .dt _=>0
def wt (σ:Ab):Nat:=(σ.nodes.map Uw).sum
theorem Oq:∀(l:List Nat) (i x y:Nat),l[i]?=some x->(l.set i y).sum+x=l.sum+y
 |[],i,x,y,h=>by simp at h
 |a::l,0,x,y,h=>by grind
 |a::l,i+1,x,y,h=>by
  simp at h;have:=Oq l i x y h
  grind
def ZZ {n m : AQ} (h:σ.nodes[i]?=some n):((σ.nodes.set i m).map Uw).sum+Uw n=wt σ+Uw m:=by
 unfold wt;rw[List.map_set];exact Oq _ _ _ _ (by simp[h])
def rR {e' : zu} (h:σ.hU i=some e):wt (σ.ib i e')+e.kids.length=wt σ+e'.kids.length:=ZZ (m:= .el e') (Ab.jo h)
def ZX (σ:Ab) (nd:AQ):wt (σ.add nd)=wt σ+Uw nd:=by simp[wt,Ab.add]
def Ek (σ:Ab) (nd:AQ) (b:Bool):wt (σ.pn nd b)=wt σ+Uw nd:=by simp[wt,Ab.pn]
theorem ZN:∀(l:List Nat) (i x:Nat),l[i]?=some x->x<=l.sum
 |[],i,x,h=>by simp at h
 |a::l,0,x,h=>by grind
 |a::l,i+1,x,h=>by
  simp at h;have:=ZN l i x h
  grind
def ZY {n : AQ} (h:σ.nodes[i]?=some n):Uw n<=wt σ:=ZN _ i _ (by simp[h])
def GZ (h:σ.hU i=some e):e.kids.length<=wt σ:=ZY (Ab.jo h)
structure Shp (σ:Ab):Prop where
 up:∀i e p,σ.hU i=some e->e.je=some p->∃ep,σ.hU p=some ep/\i∈iJ ep.kids
 dn:∀i e j,σ.hU i=some e->j∈iJ e.kids->∃ej,σ.hU j=some ej/\ej.je=some i
 nd:∀i e,σ.hU i=some e->(iJ e.kids).Nodup
 kd:∀i e,σ.hU i=some e->∀k∈e.kids,σ.ji k=true
def rk (r:Nat->Nat):jg->Nat
 |some i=>r i
 |none=>0
structure aak (r:Nat->Nat) (σ:Ab):Prop where
 je:∀i e p,σ.hU i=some e->e.je=some p->r p < r i
 gz:σ.gz.Pairwise λx y=>rk r x < rk r y
 hd:∀d h,σ.head=some d->σ.gz.head?=some (some h)->r h < r d
def rn (s:gy):Bool:=ij [tq,Gz,AP,iG] s
def iU (σ:Ab) (i:Nat) (s:gy):Prop:=∃e,σ.hU i=some e/\e.name=s
structure jx (r:Nat->Nat) (σ:Ab):Prop where
 nL:Shp σ
 tc:aak r σ
 gz:∀x∈σ.gz,σ.mG x=true
 act:∀i,some i∈σ.act->∃e,σ.hU i=some e/\rn e.name=true
 head:∀d,σ.head=some d->iU σ d gS
 form:∀d,σ.form=some d->iU σ d iL
 KH:∀x rest,σ.gz=x::rest->∃h,x=some h/\iU σ h fX
 wV:σ.gz.length<=σ.pQ
 zM:σ.act.length<=σ.qQ
 OI:σ.pQ<=64
 RS:σ.qQ<=32
 xf:(σ.hU 0).isSome=true
def mM (σ:Ab):Prop:=∃r,jx r σ
structure Fx (σ σ':Ab):Prop where
 mode:σ'.mode=σ.mode
 kept:σ'.kept=σ.kept
 head:σ'.head=σ.head
 form:σ'.form=σ.form
 waiting:σ'.waiting=σ.waiting
 IL:σ'.iR=σ.iR
 jN:σ'.jN=σ.jN
 gP:σ'.gP=σ.gP
 pQ:σ'.pQ=σ.pQ
 qQ:σ'.qQ=σ.qQ
 oZ:σ'.oZ=σ.oZ
 nm:∀i s,iU σ i s->iU σ' i s
 KH:σ.gz≠[]->σ'.gz.head?=σ.gz.head?
def Fx.refl (σ:Ab):Fx σ σ:=⟨rfl,rfl,rfl,rfl,rfl,rfl,rfl,rfl,rfl,rfl,rfl,λ_ _ h=>h,λ_=>rfl⟩
theorem Fx.ne (h:Fx σ σ') (b:σ.gz≠[]):σ'.gz≠[]:=by
 intro e;have:=h.KH b;rw[e]at this;cases ho:σ.gz with
 |nil=>grind
 |cons x r=>grind
def Fx.trans {a b c : Ab} (h:Fx a b) (k:Fx b c):Fx a c:=
 ⟨k.mode.trans h.mode,k.kept.trans h.kept,k.head.trans h.head,k.form.trans h.form,k.waiting.trans h.waiting,k.IL.trans h.IL,k.jN.trans h.jN,k.gP.trans h.gP,k.pQ.trans h.pQ,k.qQ.trans h.qQ,k.oZ.trans h.oZ,λi s g=>k.nm i s (h.nm i s g),λd=>(k.KH (h.ne d)).trans (h.KH d)⟩
def jH {α:Type} (c:Nat) (σ:Ab) (r:pG α) (Q:α->Ab->Prop):Prop:=match r with
 | .ok a σ'=>mM σ'/\Fx σ σ'/\wt σ'<=wt σ+c/\Q a σ'
 | .stop _ p=>p=σ.gP
 | .stuck=>False
theorem jH.mono {α:Type} {c' : Nat} {r:pG α} {Q b:α->Ab->Prop} (h:jH c σ r Q) (g:c<=c') (d:∀a σ',mM σ'->Fx σ σ'->Q a σ'->b a σ'):jH c' σ r b:=by
 cases r with
 |ok a σ'=>grind[jH]
 |stop e p=>exact h
 |stuck=>exact h
theorem jH.bind {α l:Type} {c1 c2 : Nat} {m:M α} {k:α->M l} {Q:α->Ab->Prop} {g:l->Ab->Prop} (h:jH c1 σ (m σ) Q) (q:∀a σ',mM σ'->Fx σ σ'->wt σ'<=wt σ+c1->Q a σ'->jH c2 σ' (k a σ') g) (u:c1+c2<=c):jH c σ ((m>>=k) σ) g:=by
 rw[M.gx];cases hm:m σ with
 |ok a σ'=>
  rw[hm]at h;have⟨h1,h2,h3,h4⟩:=h;have d:=q a σ' h1 h2 h3 h4;cases hk2:k a σ' with
  |ok b σ2=>
   rw[hk2]at d;dsimp only;rw[hk2];exact⟨d.1,h2.trans d.2.1,by have:=d.2.2.1;omega,d.2.2.2⟩
  |stop e p=>
   rw[hk2]at d;dsimp only;rw[hk2];exact xI d h2.gP
  |stuck=>grind[jH]
 |stop e p=>rwa [hm]at h
 |stuck=>grind[jH]
def jH.ret {α:Type} (b:mM σ) {Q:α->Ab->Prop} {a:α} (d:Q a σ) (c:Nat:=0):jH c σ ((Pure.pure a:M α) σ) Q:=⟨b,Fx.refl _,by omega,d⟩
def mM.xf (h:mM σ):(σ.hU 0).isSome=true:=by have⟨r,h⟩:=h;exact h.xf
def iU.lt (h:iU σ i s):i < σ.nodes.length:=by have⟨e,he,_⟩:=h;exact Ab.ik he
theorem kL (h:σ.mG x=true):∃i e,x=some i/\σ.hU i=some e:=by
 cases x with
 |none=>cases h
 |some i=>have⟨e,he⟩:=Option.isSome_iff_exists.1 h;grind
theorem jx.sub (h:jx r σ) (q:ys.Sublist σ.gz) (g:ys.head?=σ.gz.head?):jx r {σ with gz:=ys}/\Fx σ {σ with gz:=ys}:=by
 refine⟨⟨⟨h.nL.up,h.nL.dn,h.nL.nd,h.nL.kd⟩,⟨h.tc.je,h.tc.gz.sublist q,?_⟩,λx l=>h.gz x (q.subset l),h.act,h.head,h.form,?_,jP q.length_le h.wV,h.zM,h.OI,h.RS,h.xf⟩,⟨rfl,rfl,rfl,rfl,rfl,rfl,rfl,rfl,rfl,rfl,rfl,λ_ _ h=>h,λ_=>g⟩⟩
 .intro d x v l;exact h.tc.hd d x v (by grind)
 .intro x b l;have u:ys=x::b:=l;rw[u]at g;cases ho:σ.gz with
  |nil=>grind
  |cons y r2=>
   rw[ho]at g;have e:x=y:=by simpa using g
   subst e;exact h.KH x r2 ho
def wW (r:Nat->Nat) (n x:Nat):Nat->Nat:=λi=>if i=n then x else r i
def yz (r:Nat->Nat) (n x:Nat):wW r n x n=x:=by simp[wW]
def zq {x : Nat} (h:i≠n):wW r n x i=r i:=by simp[wW,h]
def Shp.ad1 (h:Shp σ) (b:σ.hU i=some e) (d:e.je=some p):p < σ.nodes.length:=by
 have⟨ep,h1,_⟩:=h.up i e p b d;exact Ab.ik h1
def jx.EW (h:jx r σ) (b:some i∈σ.gz):i < σ.nodes.length:=by
 have⟨j,e,hj,he⟩:=kL (h.gz _ b);cases hj;exact Ab.ik he
theorem aak.congr {b : Nat->Nat} (h:aak r σ) (q:∀i e p,σ.hU i=some e->e.je=some p->b p < b i) (l:∀i,some i∈σ.gz->b i=r i) (g:∀d h,σ.head=some d->σ.gz.head?=some (some h)->b h < b d):aak b σ:=by
 refine⟨q,?_,g⟩;refine h.gz.imp_of_mem ?_;intro x y B C u;have A:∀z∈σ.gz,rk b z=rk r z:=by
  intro z v;cases z with
  |none=>rfl
  |some i=>exact l i v
 grind
theorem jx.new (h:jx r σ) (q:gy) (gL:lh) (b:Bool) (x:Nat):jx (wW r σ.nodes.length x) (σ.pn (.el {name:=q,gU:=gL,je:=none,kids:=[]}) b)/\Fx σ (σ.pn (.el {name:=q,gU:=gL,je:=none,kids:=[]}) b):=by
 obtain⟨A,N⟩:∃A:AQ,A= .el {name:=q,gU:=gL,je:=none,kids:=[]}:=⟨_,rfl⟩;rw[<-N];have Q:∀i,(σ.pn A b).hU i=(σ.add A).hU i:=λ_=>rfl;have G:∀i e,σ.hU i=some e->(σ.pn A b).hU i=some e:=λi e F=>by grind[Ab.hU,Ab.pn]
 have g:∀i e,(σ.pn A b).hU i=some e->σ.hU i=some e\/(i=σ.nodes.length/\e={name:=q,gU:=gL,je:=none,kids:=[]}):=by
  intro i e F;rcases Ab.Iu (nd:=A) F with⟨_,l⟩|⟨l,J⟩
  .grind
  .grind
 have B:∀i s,iU σ i s->iU (σ.pn A b) i s:=λi s ⟨e,F,S⟩=>⟨e,G i e F,S⟩;have v:∀i,i < σ.nodes.length->wW r σ.nodes.length x i=r i:=λi u=>zq (by omega);refine⟨⟨⟨?_,?_,?_,?_⟩,⟨?_,?_,?_⟩,λy C=>Ab.Ma (h.gz y C),λi u=>?_,λd D=>B _ _ (h.head d D),λd D=>B _ _ (h.form d D),λy H C=>?_,h.wV,h.zM,h.OI,h.RS,?_⟩,⟨rfl,rfl,rfl,rfl,rfl,rfl,rfl,rfl,rfl,rfl,rfl,B,λ_=>rfl⟩⟩
 .intro i e p u I;rcases g i e u with l|⟨_,l⟩
  .have⟨ep,J,h3⟩:=h.nL.up i e p l I
   grind
  grind
 .intro i e j u K;rcases g i e u with l|⟨_,l⟩
  .have⟨ej,J,h3⟩:=h.nL.dn i e j l K
   grind
  .rw[l]at K;simp[iJ]at K
 .intro i e u;rcases g i e u with l|⟨_,l⟩
  .exact h.nL.nd i e l
  grind[iJ]
 .intro i e u k R;rcases g i e u with l|⟨_,l⟩
  .exact Ab.EP (h.nL.kd i e l k R)
  grind
 .intro i e p u I;rcases g i e u with l|⟨_,l⟩
  .rw[v p (h.nL.ad1 l I),v i (Ab.ik l)];exact h.tc.je i e p l I
  grind
 .refine h.tc.gz.imp_of_mem ?_;intro y z C P T;have U:∀z∈σ.gz,rk (wW r σ.nodes.length x) z=rk r z:=by
   intro z P;cases z with
   |none=>rfl
   |some i=>exact v i (h.EW P)
  grind
 .intro d y D C;have O:some y∈σ.gz:=List.mem_of_mem_head? C;rw[v y (h.EW O),v d (h.head d D).lt];exact h.tc.hd d y D C
 .have⟨e,F,hf⟩:=h.act i u
  grind
 .have⟨z,l,J⟩:=h.KH y H C
  grind
 .have⟨e,F⟩:=Option.isSome_iff_exists.1 h.xf
  grind
theorem Ac (r:Nat->Nat):∀n,∃B,∀i,i < n->r i<=B
 |0=>⟨0,λi b=>by omega⟩
 |n+1=>by
  have⟨B,hB⟩:=Ac r n;refine⟨B+r n,λi b=>?_⟩
  grind
theorem jx.raise (h:jx r σ) (B:σ.hU j=some e) (C:iJ e.kids=[]) (D:some j∉σ.gz) {x : Nat} (F:r j<=x):jx (wW r j x) σ:=by
 refine {h with tc:=h.tc.congr ?_ ?_ ?_}
 .intro i ei p q u;have b:p≠j:=by
   rintro rfl;have⟨ep,h1,h2⟩:=h.nL.up i ei p q u;rw[B]at h1;cases h1;rw[C]at h2;cases h2
  rw[zq b];have:=h.tc.je i ei p q u
  grind[wW]
 .grind[wW]
 .intro d y A v;have g:some y∈σ.gz:=List.mem_of_mem_head? v;have l:y≠j:=by rintro rfl;exact D g
  rw[zq l];have:=h.tc.hd d y A v
  grind[wW]
def Bi (σ:Ab) (pl:Nat×Nat):Prop:=∃e,σ.hU pl.1=some e/\pl.2<=e.kids.length
theorem jx.put (h:jx r σ) (D:Bi σ pl) (C:σ.hU j=some ej) (F:ej.je=none) (hr:r pl.1 < r j) (hw:wt σ < 1000000):
  ∃σ',mO pl j σ= .ok () σ'/\jx r σ'/\Fx σ σ'/\wt σ'=wt σ+1/\σ'.gz=σ.gz/\σ'.act=σ.act/\σ'.fresh=σ.fresh/\σ'.nodes.length=σ.nodes.length/\(∀i e,σ.hU i=some e->∃q,σ'.hU i=some q/\q.name=e.name/\q.gU=e.gU/\(i≠pl.1->q.kids=e.kids)/\(i≠j->q.je=e.je))/\(∀q,σ'.hU j=some q->q.je=some pl.1):=by
 have⟨ei,hi,X⟩:=D;have A:j≠pl.1:=by rintro rfl;omega
 have hl:=GZ hi;have U:=Ab.ik hi;have a0:=Ab.ik C;obtain⟨σ',b⟩:∃σ',σ'=(σ.ib pl.1 {ei with kids:=ins ei.kids pl.2 (.el j)}).ib j {ej with je:=some pl.1}:=⟨_,rfl⟩;have hq:mO pl j σ= .ok () σ':=by
  unfold mO;rw[hi,C];dsimp only;rw[gF ⟨A,X,by omega⟩,b]
 have g1:σ'.hU pl.1=some {ei with kids:=ins ei.kids pl.2 (.el j)}:=by rw[b,Ab.iS (xu A),Ab.iW U]
 have g2:σ'.hU j=some {ej with je:=some pl.1}:=by rw[b,Ab.iW (by grind[Ab.ib])]
 have g3:∀i,i≠pl.1->i≠j->σ'.hU i=σ.hU i:=λi g v=>by rw[b,Ab.iS v,Ab.iS g]
 have H:(σ.hU pl.1).isSome=true:=by rw[hi];rfl
 have I:((σ.ib pl.1 {ei with kids:=ins ei.kids pl.2 (.el j)}).hU j).isSome=true:=by rw[Ab.iS A,C];rfl
 have gk:∀k,σ'.ji k=σ.ji k:=λk=>by rw[b,Ab.la I,Ab.la H]
 have ge:∀x,σ'.mG x=σ.mG x:=λx=>by rw[b,Ab.yg I,Ab.yg H]
 have B:∀i e,σ.hU i=some e->∃q,σ'.hU i=some q/\q.name=e.name/\q.gU=e.gU/\(i≠pl.1->q.kids=e.kids)/\(i≠j->q.je=e.je):=by
  intro i e G
  by_cases g:i=pl.1
  .grind
  .grind
 have l:∀i q,σ'.hU i=some q->(i=pl.1/\q={ei with kids:=ins ei.kids pl.2 (.el j)})\/(i=j/\q={ej with je:=some pl.1})\/(i≠pl.1/\i≠j/\σ.hU i=some q):=by
  intro i q G
  by_cases g:i=pl.1
  .grind
  .grind
 have K:∀i s,iU σ i s->iU σ' i s:=λi s ⟨e,G,X⟩=>by
  grind[iU]
 have V:j∉iJ ei.kids:=by
  intro hm;have⟨ej2,g,v⟩:=h.nL.dn _ _ _ hi hm;rw[C]at g;cases g;rw[F]at v;cases v
 have W:∀i e,σ.hU i=some e->∀q,σ'.hU i=some q->∀x,x∈iJ e.kids->x∈iJ q.kids:=by
  intro i e G q S x N;rcases l i q S with⟨g,rfl⟩|⟨g,rfl⟩|⟨_,_,g⟩
  .subst g;rw[hi]at G;cases G;exact(AY ei.kids pl.2 j).mem_iff.2 (oW _ N)
  .grind
  .grind
 refine⟨σ',hq,⟨⟨?_,?_,?_,?_⟩,⟨?_,?_,?_⟩,λx N=>?_,λi u=>?_,λd R=>K _ _ (h.head d ?_),λd R=>K _ _ (h.form d ?_),λy O hy=>?_,?_,?_,?_,?_,?_⟩,?_,?_,?_,?_,?_,?_,B,?_⟩
 .intro i e p u D;rcases l i e u with⟨g,rfl⟩|⟨g,rfl⟩|⟨_,_,g⟩
  .rw[g]at *;have⟨ep,v,h3⟩:=h.nL.up _ _ p hi D
   grind
  .cases D;exact⟨_,g1,by rw[g];exact(AY ei.kids pl.2 j).mem_iff.2 (pP ..)⟩
  .have⟨ep,v,h3⟩:=h.nL.up _ _ p g D
   grind
 .intro i e x u N;have old:∀P,σ.hU i=some P->x∈iJ P.kids->∃Q,σ'.hU x=some Q/\Q.je=some i:=by
   intro P T Y;have⟨Q,v,h3⟩:=h.nL.dn i P x T Y;have Z:x≠j:=by rintro rfl;rw[C]at v;cases v;rw[F]at h3;cases h3
   have⟨ex',h4,_,_,_,h5⟩:=B x Q v;exact⟨ex',h4,(h5 Z).trans h3⟩
  rcases l i e u with⟨g,rfl⟩|⟨g,rfl⟩|⟨_,_,g⟩
  .rw[g]at old|-;rcases List.mem_cons.1 ((AY ei.kids pl.2 j).mem_iff.1 N)with v|v
   all_goals grind
  .grind
  grind
 .intro i e u;rcases l i e u with⟨g,rfl⟩|⟨g,rfl⟩|⟨_,_,g⟩
  .exact(AY ei.kids pl.2 j).nodup_iff.2 (List.nodup_cons.2 ⟨V,h.nL.nd _ _ hi⟩)
  .show(iJ ej.kids).Nodup;exact h.nL.nd _ _ C
  .exact h.nL.nd _ _ g
 .intro i e u k J;rw[gk];rcases l i e u with⟨g,rfl⟩|⟨g,rfl⟩|⟨_,_,g⟩
  .rcases Uv.1 J with rfl|J
   .grind[Ab.ji]
   .exact h.nL.kd _ _ hi k J
  .exact h.nL.kd _ _ C k J
  .exact h.nL.kd _ _ g k J
 .intro i e p u D;rcases l i e u with⟨g,rfl⟩|⟨g,rfl⟩|⟨_,_,g⟩
  .rw[g];exact h.tc.je _ _ p hi D
  .grind
  .exact h.tc.je _ _ p g D
 .rw[b];exact h.tc.gz
 .rw[b];exact h.tc.hd
 .rw[ge];exact h.gz x (by rwa [b]at N)
 .have⟨e,G,hf⟩:=h.act i (by rw[b]at u;exact u)
  grind
 .rwa [b]at R
 .rwa [b]at R
 .have⟨z,g,v⟩:=h.KH y O (by rwa [b]at hy)
  grind
 .rw[b];exact h.wV
 .rw[b];exact h.zM
 .rw[b];exact h.OI
 .rw[b];exact h.RS
 .have⟨e,G⟩:=Option.isSome_iff_exists.1 h.xf
  grind
 .rw[b];exact⟨rfl,rfl,rfl,rfl,rfl,rfl,rfl,rfl,rfl,rfl,rfl,by grind,λ_=>rfl⟩
 .have w1:=rR (e':={ei with kids:=ins ei.kids pl.2 (.el j)}) hi;have w2:=rR (σ:=σ.ib pl.1 {ei with kids:=ins ei.kids pl.2 (.el j)}) (e':={ej with je:=some pl.1}) (by rw[Ab.iS A];exact C);have w3:=Um ei.kids pl.2 (.el j) X
  grind
 .rw[b];rfl
 .rw[b];rfl
 .rw[b];rfl
 .rw[b,Ab.nE,Ab.nE]
 grind
theorem jx.alike (h:jx r σ) (U:∀i e,σ.hU i=some e->∃b,σ'.hU i=some b/\b.name=e.name/\b.je=e.je/\iJ b.kids=iJ e.kids) (T:∀i b,σ'.hU i=some b->∃e,σ.hU i=some e) (V:∀i b,σ'.hU i=some b->∀k∈b.kids,σ'.ji k=true)
  (A:σ'.gz=σ.gz:=by rfl) (J:σ'.act=σ.act:=by rfl) (u:σ'.head=σ.head:=by rfl) (D:σ'.form=σ.form:=by rfl) (F:σ'.pQ=σ.pQ:=by rfl) (G:σ'.qQ=σ.qQ:=by rfl) (K:σ'.mode=σ.mode:=by rfl) (N:σ'.kept=σ.kept:=by rfl) (O:σ'.waiting=σ.waiting:=by rfl) (P:σ'.iR=σ.iR:=by rfl) (Q:σ'.jN=σ.jN:=by rfl) (R:σ'.gP=σ.gP:=by rfl) (S:σ'.oZ=σ.oZ:=by rfl):jx r σ'/\Fx σ σ':=by
 have q:∀i s,iU σ i s->iU σ' i s:=λi s ⟨e,v,W⟩=>by
  grind[iU]
 have g:∀i b,σ'.hU i=some b->∃e,σ.hU i=some e/\b.name=e.name/\b.je=e.je/\iJ b.kids=iJ e.kids:=by
  intro i b B;have⟨e,v⟩:=T i b B;have⟨e2,u,D⟩:=U i e v;rw[B]at u;cases u;exact⟨e,v,D⟩
 refine⟨⟨⟨?_,?_,?_,V⟩,⟨?_,?_,?_⟩,?_,?_,?_,?_,?_,?_,?_,?_,?_,?_⟩,⟨K,N,u,D,O,P,Q,R,F,G,S,q,λ_=>by rw[A]⟩⟩
 .intro i e p l X;have⟨e0,g1,_,g3,_⟩:=g i e l;have⟨ep,g4,g5⟩:=h.nL.up i e0 p g1 (by grind)
  grind
 .intro i e j l Y;have⟨e0,g1,_,_,g4⟩:=g i e l;have⟨ej,g5,g6⟩:=h.nL.dn i e0 j g1 (by grind)
  grind
 .intro i e l;have⟨e0,g1,_,_,g4⟩:=g i e l;rw[g4];exact h.nL.nd i e0 g1
 .intro i e p l X;have⟨e0,g1,_,g3,_⟩:=g i e l;exact h.tc.je i e0 p g1 (by grind)
 .rw[A];exact h.tc.gz
 .rw[u,A];exact h.tc.hd
 .rw[A];intro x I;obtain⟨i,e,rfl,v⟩:=kL (h.gz x I)
  grind[Ab.mG]
 .rw[J];intro i l;have⟨e,v,W⟩:=h.act i l
  grind
 .rw[u];exact λd H=>q _ _ (h.head d H)
 .rw[D];exact λd H=>q _ _ (h.form d H)
 .rw[A];intro x C I;have⟨z,g1,g2⟩:=h.KH x C I
  grind
 .rw[A,F];exact h.wV
 .rw[J,G];exact h.zM
 .rw[F];exact h.OI
 .rw[G];exact h.RS
 .have⟨e,v⟩:=Option.isSome_iff_exists.1 h.xf
  grind
theorem jx.uX (h:jx r σ) (nd:AQ) (q:∀e,nd≠ .el e):jx r (σ.add nd)/\Fx σ (σ.add nd):=by
 refine h.alike (λi e u=>⟨e,by grind[Ab.hU,Ab.add],rfl,rfl,rfl⟩) ?_ ?_
 .grind[Ab.hU,Ab.add]
 .intro i g b k l;rcases Ab.Iu (nd:=nd) b with⟨_,d⟩|⟨_,d⟩
  .exact Ab.EP (h.nL.kd i g d k l)
  grind
theorem jx.aeQ (h:jx r σ) (l:σ.hU i=some ei) (C:∀j,k≠ .el j) (F:σ.ji k=true) (D:n<=ei.kids.length):jx r (σ.ib i {ei with kids:=ins ei.kids n k})/\Fx σ (σ.ib i {ei with kids:=ins ei.kids n k})/\wt (σ.ib i {ei with kids:=ins ei.kids n k})=wt σ+1:=by
 have B:(σ.hU i).isSome=true:=by rw[l];rfl
 have g:∀j d,(σ.ib i {ei with kids:=ins ei.kids n k}).hU j=some d->(j=i/\d={ei with kids:=ins ei.kids n k})\/(j≠i/\σ.hU j=some d):=by
  intro j d b
  by_cases q:j=i
  .subst q;rw[Ab.iW (Ab.ik l)]at b;grind
  .rw[Ab.iS q]at b;grind
 have u:=h.alike (σ':=σ.ib i {ei with kids:=ins ei.kids n k}) (λj e A=>by
  by_cases q:j=i
  .subst q;rw[l]at A;cases A;exact⟨_,Ab.iW (Ab.ik l),rfl,rfl,Sk _ _ _ C⟩
  .exact⟨e,by rw[Ab.iS q];exact A,rfl,rfl,rfl⟩) (λj d b=>by
  grind) (λj d b x v=>by
  rw[Ab.la B];rcases g j d b with⟨_,rfl⟩|⟨_,u⟩
  .rcases Uv.1 v with rfl|v
   .exact F
   .exact h.nL.kd _ _ l x v
  .exact h.nL.kd _ _ u x v)
 refine⟨u.1,u.2,?_⟩;have G:=rR (e':={ei with kids:=ins ei.kids n k}) l;have H:=Um ei.kids n k D
 grind
theorem jx.oj (h:jx r σ) (d:σ.nodes[t]?=some (.tx old)):jx r (σ.oj t s)/\Fx σ (σ.oj t s)/\wt (σ.oj t s)+old.size=wt σ+s.size:=by
 have l:=h.alike (σ':=σ.oj t s) (λi e u=>⟨e,by grind[Ab.hU,Ab.oj],rfl,rfl,rfl⟩) (λi g b=>⟨g,by rw[Ab.tf d]at b;exact b⟩) (λi g b k q=>by
  rw[Ab.Gq d];rw[Ab.tf d]at b;exact h.nL.kd i g b k q)
 exact⟨l.1,l.2,ZZ (m:= .tx s) d⟩
structure Rest (σ σ':Ab):Prop where
 gz:σ'.gz=σ.gz
 act:σ'.act=σ.act
 fresh:σ'.fresh=σ.fresh
 behind:σ'.behind=σ.behind
 nD:σ'.nD=σ.nD
 iZ:σ'.iZ=σ.iZ
theorem Qw (h:mM σ) (v:Bi σ pl) (s:gy) (H:wt σ+s.size+1<=1000000):jH (s.size+1) σ (uN pl s σ) (λ_ σ'=>Rest σ σ'):=by
 have⟨r,h⟩:=h;have⟨ei,hi,hn⟩:=v;have F:=GZ hi;unfold uN;rw[hi];dsimp only;rw[gF ⟨hn,by omega⟩];have A:jH (s.size+1) σ (.ok () ((σ.add (.tx s)).ib pl.1 {ei with kids:=ins ei.kids pl.2 (.tx σ.nodes.length)}):pG Unit) (λ_ σ'=>Rest σ σ'):=by
  have⟨a1,a2⟩:=h.uX (.tx s) (λe l=>by cases l);have g:(σ.add (.tx s)).hU pl.1=some ei:=by rw[Ab.tI (Ab.ik hi)];exact hi
  have d:(σ.add (.tx s)).ji (.tx σ.nodes.length)=true:=by simp[Ab.ji,Ab.add]
  have⟨b1,b2,b3⟩:=a1.aeQ (n:=pl.2) g (λj q=>by cases q) d hn;have I:=ZX σ (.tx s);have J:Uw (.tx s)=s.size:=rfl;exact⟨⟨r,b1⟩,a2.trans b2,by omega,⟨rfl,rfl,rfl,rfl,rfl,rfl⟩⟩
 split
 .rename_i t G;have u:Nd.tx t∈ei.kids:=by
   by_cases B:pl.2=0
   .grind
   .grind
  have b:=h.nL.kd _ _ hi _ u;unfold Ab.ji at b;dsimp only at b;cases hx:σ.nodes[t]? with
  |none=>grind
  |some nd=>
   rw[hx]at b;cases nd with
   |tx old=>
    have C:Uw (.tx old)<=wt σ:=ZY hx;have D:Uw (.tx old)=old.size:=rfl;dsimp only;rw[gF (by omega)];have⟨b1,b2,b3⟩:=h.oj (s:=old++s) hx;have:(old++s).size=old.size+s.size:=ByteArray.size_append;exact⟨⟨r,b1⟩,b2,by omega,⟨rfl,rfl,rfl,rfl,rfl,rfl⟩⟩
   |el e=>cases b
   |cm s=>cases b
   |dt s=>cases b
 omega
def Fc (h:mM σ) (u:Bi σ pl) (nd:AQ) (k:Nat->Nd) (b:(∃s,nd= .cm s/\k= .cm)\/(∃s,nd= .dt s/\k= .dt)) (B:wt σ+1<=1000000):jH 1 σ (oO pl nd k σ) (λ_ σ'=>Rest σ σ'):=by
 have⟨r,h⟩:=h;have⟨ei,hi,hn⟩:=u;have A:=GZ hi;have q:∀e,nd≠ .el e:=by rintro e rfl;rcases b with⟨s,h,_⟩|⟨s,h,_⟩<;>cases h
 have l:∀i j,k i≠ .el j:=by rintro i j;rcases b with⟨s,_,h⟩|⟨s,_,h⟩<;>(rw[h];simp)
 have v:Uw nd=0:=by rcases b with⟨s,h,_⟩|⟨s,h,_⟩<;>(rw[h];rfl)
 have⟨a1,a2⟩:=h.uX nd q;have g:(σ.add nd).hU pl.1=some ei:=by rw[Ab.tI (Ab.ik hi)];exact hi
 have d:(σ.add nd).ji (k σ.nodes.length)=true:=by
  rcases b with⟨s,rfl,rfl⟩|⟨s,rfl,rfl⟩<;>simp[Ab.ji,Ab.add]
 have⟨b1,b2,b3⟩:=a1.aeQ (n:=pl.2) g (l _) d hn;have C:=ZX σ nd;unfold oO zF;rw[g];dsimp only;rw[gF ⟨d,hn,by omega⟩];exact⟨⟨r,b1⟩,a2.trans b2,by omega,⟨rfl,rfl,rfl,rfl,rfl,rfl⟩⟩
theorem UA (h:i∈iJ ks):0<=qh ks (Nd.gW i)/\(qh ks (Nd.gW i)).toNat < ks.length:=by
 have b:ks.findIdx (Nd.gW i) < ks.length:=Z4 ⟨_,vN.1 h,by simp[Nd.gW]⟩
 grind[qh]
theorem qR (xs:kQ) (n:Nat):iB xs (n:Int)=xs.getD n none:=by
 grind[iB]
theorem jx.at (h:jx r σ) (b:n < σ.gz.length):∃i e,σ.gz[n]?=some (some i)/\σ.hU i=some e:=by
 have⟨i,e,h1,h2⟩:=kL (h.gz _ (uR b))
 grind
def FZ (h:jx r σ) (A:some i∈σ.gz) (D:some i≠iB σ.gz 0):∃pl,mD i σ= .ok pl σ/\Bi σ pl/\r pl.1 < r i/\(some pl.1∈σ.gz\/∃e c,σ.hU pl.1=some e/\c∈iJ e.kids):=by
 have⟨i',e,e1,he⟩:=kL (h.gz _ A);cases e1;unfold mD;rw[he];dsimp only;cases hp:e.je with
 |some p=>
  have⟨ep,b,g⟩:=h.nL.up i e p he hp;have⟨u,v⟩:=UA g;dsimp only;rw[b];dsimp only;rw[gF u];exact⟨_,rfl,⟨ep,b,by omega⟩,h.tc.je i e p he hp,.inr ⟨ep,i,b,g⟩⟩
 |none=>
  dsimp only;have b:σ.gz.idxOf (some i) < σ.gz.length:=List.idxOf_lt_length_of_mem A;have g:posOf σ.gz (some i)=(σ.gz.idxOf (some i):Int):=by unfold posOf;rw[gF b]
  have u:σ.gz.idxOf (some i)≠0:=by
   intro B;apply D;have:=List.getElem_idxOf b;rw[show(0:Int)=((0:Nat):Int)from rfl,qR];simp only[B]at this;rw[xv,ry (by omega),<-this];rfl
  have⟨q,eq,hq,he2⟩:=h.at (n:=σ.gz.idxOf (some i) - 1) (by omega);have v:iB σ.gz (posOf σ.gz (some i) - 1)=some q:=by
   rw[g,show(σ.gz.idxOf (some i):Int) - 1=((σ.gz.idxOf (some i) - 1:Nat):Int) by omega,qR,xv,hq];rfl
  rw[v];dsimp only;unfold jy;rw[he2];refine⟨_,rfl,⟨eq,he2,ig _⟩,?_,.inl (tA hq)⟩;have d:=List.pairwise_iff_getElem.1 h.tc.gz (σ.gz.idxOf (some i) - 1) (σ.gz.idxOf (some i)) (by omega) b (by omega);rw[List.getElem_idxOf b]at d;have C:σ.gz[σ.gz.idxOf (some i) - 1]'(by omega)=some q:=by
   have:=ry (l:=σ.gz) (i:=σ.gz.idxOf (some i) - 1) (by omega);rw[hq]at this;exact(jL this).symm
  rwa [C]at d
theorem F0:∀{xs:kQ} {x:jg},rV σ xs=some x->x∈xs/\x≠iB σ.gz 0/\kC (σ.qU x) fZ=true
 |[],x,h=>by cases h
 |y::xs,x,h=>by
  unfold rV at h;split at h
  .have⟨h1,h2⟩:=F0 h
   grind
  grind
theorem jx.first (h:jx r σ) (d:σ.gz≠[]):∃q e b,σ.gz=some q::b/\iB σ.gz 0=some q/\σ.hU q=some e/\e.name=fX:=by
 cases ho:σ.gz with
 |nil=>grind
 |cons x b=>
  obtain⟨q,rfl,e,g,l⟩:=h.KH x b ho
  grind[iB]
theorem Rk (h:jx r σ):σ.AF=true:=by
 unfold Ab.AF;rw[RP];intro x b;obtain⟨i,e,rfl,g⟩:=kL (h.gz x b);dsimp only
 by_cases d:some i=iB σ.gz 0
 .grind
 .have⟨pl,h1,_⟩:=FZ h b d;rw[h1];simp[pG.isOk]
theorem Ai (h:jx r σ) (d:σ.gz≠[]):∃pl,j4 σ= .ok pl σ/\Bi σ pl/\(some pl.1∈σ.gz\/∃e c,σ.hU pl.1=some e/\c∈iJ e.kids)/\((∃i,some i∈σ.gz/\kC (σ.nm i) fZ=true/\rV σ σ.gz.reverse=some (some i)/\r pl.1 < r i)\/iB σ.gz 0=some pl.1):=by
 unfold j4;rw[gF (Rk h)];have⟨q,eq,rest,ho,hq,g,_⟩:=h.first d;cases hf:rV σ σ.gz.reverse with
 |none=>
  dsimp only;rw[hq];dsimp only;unfold jy;rw[g]
  grind[Bi]
 |some x=>
  have⟨h1,h2,h3⟩:=F0 hf;have b:x∈σ.gz:=List.mem_reverse.1 h1;obtain⟨i,e,rfl,g⟩:=kL (h.gz x b);dsimp only;have⟨pl,p1,p2,p3,p4⟩:=FZ h b h2;exact⟨pl,p1,p2,p4,.inl ⟨i,b,h3,rfl,p3⟩⟩
theorem Qs (h:jx r σ) (b:some i∈σ.gz):∃pl,placeFor i σ= .ok pl σ/\Bi σ pl/\(some pl.1∈σ.gz\/∃e c,σ.hU pl.1=some e/\c∈iJ e.kids):=by
 have⟨i',e,e1,he⟩:=kL (h.gz _ b);cases e1;unfold placeFor;split
 .have⟨pl,h1,h2,h3,_⟩:=Ai h (List.ne_nil_of_mem b)
  grind
 .unfold jy;rw[he]
  grind[Bi]
theorem NI (h:jx r σ) (b:σ.gz≠[]):∃i e,σ.last=some i/\some i∈σ.gz/\σ.gz.getLast?=some (some i)/\σ.hU i=some e:=by
 have d:0 < σ.gz.length:=List.length_pos_iff.2 b;have⟨i,e,h1,h2⟩:=h.at (n:=σ.gz.length - 1) (by omega);refine⟨i,e,?_,tA h1,by grind,h2⟩;unfold Ab.last;rw[show(σ.gz.length:Int) - 1=((σ.gz.length - 1:Nat):Int) by omega,qR,xv,h1];rfl
theorem EX (h:jx r σ) (b:σ.gz≠[]):∃pl,mW σ= .ok pl σ/\Bi σ pl/\(some pl.1∈σ.gz\/∃e c,σ.hU pl.1=some e/\c∈iJ e.kids):=by
 have⟨i,e,h1,h2,_⟩:=NI h b;have⟨pl,h3,h4⟩:=Qs h h2
 grind[mW]
theorem jx.push (h:jx r σ) (A:σ.hU j=some e) (D:∀x∈σ.gz,rk r x < r j) (C:σ.gz.length < σ.pQ) (q:σ.gz≠[]\/(e.name=fX/\σ.head=none)):jx r {σ with gz:=σ.gz++[some j]}/\Fx σ {σ with gz:=σ.gz++[some j]}:=by
 have v:σ.gz≠[]->(σ.gz++[some j]).head?=σ.gz.head?:=by
  intro B;cases ho:σ.gz with
  |nil=>grind
  |cons x l=>rfl
 refine⟨⟨⟨h.nL.up,h.nL.dn,h.nL.nd,h.nL.kd⟩,⟨h.tc.je,?_,?_⟩,?_,h.act,h.head,h.form,?_,?_,h.zM,h.OI,h.RS,h.xf⟩,⟨rfl,rfl,rfl,rfl,rfl,rfl,rfl,rfl,rfl,rfl,rfl,λ_ _ h=>h,v⟩⟩
 .refine List.pairwise_append.2 ⟨h.tc.gz,by simp,λx b y F=>?_⟩
  grind[rk]
 .intro d x u b;rcases q with q|⟨_,q⟩
  .exact h.tc.hd d x u (by grind)
  grind
 .intro x b;rcases List.mem_append.1 b with b|b
  .exact h.gz x b
  .rw[List.mem_singleton.1 b];show(σ.hU j).isSome=true;grind
 .intro x l b;have g:σ.gz++[some j]=x::l:=b;cases ho:σ.gz with
  |nil=>
   rw[ho]at g;injection g with h1 h2;rcases q with q|⟨q,_⟩
   .grind
   .exact⟨j,h1.symm,e,A,q⟩
  |cons y r2=>
   rw[ho]at g;injection g with h1 h2;have⟨z,h3,h4⟩:=h.KH y r2 ho;exact⟨z,h1▸h3,h4⟩
 grind
def Nc (h:e.kids=[]):iJ e.kids=[]:=by rw[h];rfl
structure afr (σ:Ab) (j:Nat) (σ':Ab):Prop where
 gz:σ'.gz=σ.gz++[some j]
 act:σ'.act=σ.act
 fresh:σ'.fresh=σ.fresh
 len:σ'.nodes.length=σ.nodes.length
theorem L9 (h:mM σ) (b:σ.hU j=some e) (d:e.je=none) (C:e.kids=[]) (F:some j∉σ.gz) (u:σ.gz≠[]) (N:wt σ < 999999):jH 1 σ (mj j σ) (λ_ σ'=>afr σ j σ'):=by
 have⟨r,h⟩:=h;have⟨pl,p1,p2,G⟩:=EX h u;have I:pl.1≠j:=by
  rintro rfl;rcases G with G|⟨e2,c,g,A⟩
  .grind
  .rw[b]at g;cases g;rw[C]at A;cases A
 have⟨B,hB⟩:=Ac r σ.nodes.length;have K:=h.raise b (Nc C) F (x:=B+1) (by have:=hB j (Ab.ik b);omega);have J:pl.1 < σ.nodes.length:=by have⟨e2,g,_⟩:=p2;exact Ab.ik g
 have⟨σ',q1,q2,q3,q4,q5,q6,q7,q8,q9,q10⟩:=K.put p2 b d (by grind[wW]) (by omega);unfold mj;rw[M.gx,p1];dsimp only;rw[M.gx,q1];dsimp only;rw[M.gx];unfold xk;have⟨e',e1,e2,_⟩:=q9 j e b
 by_cases D:σ'.pQ<=σ'.gz.length
 .rw[gF D];exact q3.gP
 .rw[gQ D];have l:σ'.mG (some j)=true:=by show(σ'.hU j).isSome=true;rw[e1];rfl
  rw[gF l];dsimp only;have⟨g1,g2⟩:=q2.push e1 (by
   intro x v;rw[q5]at v;rw[yz];obtain⟨i,ei,rfl,H⟩:=kL (h.gz x v);show wW r j (B+1) i < _;have q:i≠j:=by rintro rfl;exact F v
   rw[zq q];have:=hB i (Ab.ik H);omega) (by omega) (.inl (by grind))
  exact⟨⟨_,g1⟩,q3.trans g2,by grind[wt],⟨by grind,q6,q7,q8⟩⟩
def ub (xs:kQ) (k:Nat):(xs.reverse.drop k).reverse=xs.take (xs.length - k):=by
 rw[List.reverse_drop];simp
theorem Kg (σ:Ab) (p:gy->Bool):∀ys:kQ,(∃x∈ys,p (σ.qU x)=true)->∃k,1<=k/\k<=ys.length/\Ab.AJ σ p ys=ys.drop k/\∃x,ys[k - 1]?=some x/\p (σ.qU x)=true
 |[],h=>by grind
 |y::ys,h=>by
  unfold Ab.AJ
  by_cases b:p (σ.qU y)=true
  .rw[gF b];exact⟨1,ig _,by simp,rfl,y,rfl,b⟩
  .rw[gQ b];have⟨x,d,hpx⟩:=h;have g:x∈ys:=by
    rcases List.mem_cons.1 d with rfl|d
    .grind
    .exact d
   have⟨k,h1,h2,h3,x2,h4,h5⟩:=Kg σ p ys ⟨x,g,hpx⟩;refine⟨k+1,by omega,by grind,by grind,x2,?_,h5⟩
   grind
theorem JP (σ:Ab) (p b:gy->Bool):∀{ys:kQ},Ab.xG σ p b ys=true->∃x∈ys,p (σ.qU x)=true
 |[],h=>by cases h
 |y::ys,h=>by
  unfold Ab.xG at h
  by_cases d:p (σ.qU y)=true
  .grind
  .rw[gQ d]at h;split at h
   .cases h
   .have⟨x,hx,h2⟩:=JP σ p b h
    grind
def Bf {k : Nat} (h:1<=k):(xs.take k).head?=xs.head?:=by
 cases xs with
 |nil=>simp
 |cons x r=>cases k with
  |zero=>omega
  |succ k=>rfl
theorem jx.Jm (h:jx r σ) (b:σ.gz.head?=some x):σ.qU x=fX:=by
 cases ho:σ.gz with
 |nil=>grind
 |cons y rest=>
  rw[ho]at b;cases b;obtain⟨q,rfl,e,d,g⟩:=h.KH _ rest ho;show σ.nm q=_
  grind[Ab.nm]
theorem ZU (h:jx r σ) (p:gy->Bool) (v:p fX=false) (A:∃x∈σ.gz,p (σ.qU x)=true):jx r (σ.Fq p)/\Fx σ (σ.Fq p)/\∃k,1<=k/\k < σ.gz.length/\(σ.Fq p).gz=σ.gz.take k:=by
 have⟨k,h1,h2,h3,x,h4,h5⟩:=Kg σ p σ.gz.reverse (by grind);have q:k<=σ.gz.length:=by simpa using h2
 have e:(Ab.AJ σ p σ.gz.reverse).reverse=σ.gz.take (σ.gz.length - k):=by rw[h3,ub]
 have g:1<=σ.gz.length - k:=by
  rcases rC k σ.gz.length with u|d
  .omega
  .exfalso;have l:k=σ.gz.length:=by omega
   have b:σ.gz.head?=some x:=by
    rw[RK (by omega)]at h4;rw[C6]
    rwa [show σ.gz.length - 1 - (k - 1)=0 by omega]at h4
   rw[h.Jm b,v]at h5;cases h5
 have⟨g1,g2⟩:=h.sub (ys:=σ.gz.take (σ.gz.length - k)) (Fu _ _) (Bf g)
 grind[Ab.Fq]
structure uF (σ σ':Ab):Prop where
 nodes:σ'.nodes=σ.nodes
 act:σ'.act=σ.act
 fresh:σ'.fresh=σ.fresh
 gz:∃k,σ'.gz=σ.gz.take k
def uF.refl (σ:Ab):uF σ σ:=⟨rfl,rfl,rfl,σ.gz.length,by simp⟩
def jm (h:σ'.nodes=σ.nodes):wt σ'=wt σ:=by unfold wt;rw[h]
theorem vY (h:mM σ) (p b:gy->Bool) (d:p fX=false):jH 0 σ (nj p b σ) (λx σ'=>uF σ σ'/\(x=true->σ'.gz.length < σ.gz.length)/\(x=false->σ'=σ)):=by
 have⟨r,h⟩:=h;unfold nj;split
 .rename_i g;have⟨x,h1,h2⟩:=JP σ p b g;have⟨g1,g2,k,g3,g4,g5⟩:=ZU h p d ⟨x,List.mem_reverse.1 h1,h2⟩;exact⟨⟨r,g1⟩,g2,ni (jm rfl),⟨rfl,rfl,rfl,k,g5⟩,λ_=>by grind,λh=>by cases h⟩
 .exact⟨⟨r,h⟩,Fx.refl _,ig _,uF.refl _,(λh=>by cases h),λ_=>rfl⟩
theorem Ip (σ:Ab) (p:gy->Bool):∀ys:kQ,∃k,k<=ys.length/\Ab.qc σ p ys=ys.drop k/\∀j,j < k->∃x,ys[j]?=some x/\p (σ.qU x)=true
 |[]=>⟨0,ig _,rfl,λj b=>by omega⟩
 |y::ys=>by
  unfold Ab.qc
  by_cases d:p (σ.qU y)=true
  .rw[gF d];have⟨k,h1,h2,h3⟩:=Ip σ p ys;refine⟨k+1,by grind,by grind,λj b=>?_⟩;cases j with
   |zero=>grind
   |succ j=>grind
  .rw[gQ d];exact⟨0,iO _,rfl,λj b=>by omega⟩
def aaM (h:jx r σ) (p:gy->Bool) (u:p fX=false):∃k,(Ab.qc σ p σ.gz.reverse).reverse=σ.gz.take k/\(σ.gz≠[]->1<=k):=by
 have⟨k,h1,h2,h3⟩:=Ip σ p σ.gz.reverse;have l:k<=σ.gz.length:=by simpa using h1
 refine⟨σ.gz.length - k,by rw[h2,ub],λb=>?_⟩;rcases rC k σ.gz.length with q|g
 .omega
 .exfalso;have v:0 < σ.gz.length:=List.length_pos_iff.2 b;have⟨x,h4,h5⟩:=h3 (σ.gz.length - 1) (by omega);have d:σ.gz.head?=some x:=by
   rw[RK (by omega)]at h4;rw[C6]
   rwa [show σ.gz.length - 1 - (σ.gz.length - 1)=0 by omega]at h4
  rw[h.Jm d,u]at h5;cases h5
theorem Iq (h:mM σ) (p:gy->Bool) (b:p fX=false):mM {σ with gz:=(Ab.qc σ p σ.gz.reverse).reverse}/\Fx σ {σ with gz:=(Ab.qc σ p σ.gz.reverse).reverse}/\uF σ {σ with gz:=(Ab.qc σ p σ.gz.reverse).reverse}:=by
 have⟨r,h⟩:=h;have⟨k,h1,h2⟩:=aaM h p b;rw[h1];cases ho:σ.gz with
 |nil=>
  have:([]:kQ).take k=σ.gz:=by rw[ho];simp
  rw[this];exact⟨⟨r,h⟩,Fx.refl _,uF.refl _⟩
 |cons x rest=>
  rw[<-ho];have⟨g1,g2⟩:=h.sub (ys:=σ.gz.take k) (Fu _ _) (Bf (h2 (by grind)));exact⟨⟨r,g1⟩,g2,rfl,rfl,rfl,k,rfl⟩
def xb (h:mM σ) (p:gy->Bool):jH 0 σ (uG p σ) (λ_ σ'=>uF σ σ'):=by
 have⟨g1,g2,g3⟩:=Iq h (λs=>!(p s||ij [fX] s)) (by simp[ij,kC]);exact⟨g1,g2,ni (jm rfl),g3⟩
theorem EY (h:mM σ) (b:2<=σ.gz.length):mM σ.pop/\Fx σ σ.pop:=by
 have⟨r,h⟩:=h;have e:σ.gz.dropLast=σ.gz.take (σ.gz.length - 1):=Z2;have⟨g1,g2⟩:=h.sub (ys:=σ.gz.take (σ.gz.length - 1)) (Fu _ _) (Bf (by omega))
 grind[mM,Ab.pop]
def uF.pop (σ:Ab):uF σ σ.pop:=⟨rfl,rfl,rfl,σ.gz.length - 1,Z2⟩
theorem xe (h:mM σ) (p:gy->Bool) (u:p fX=false) (b:σ.current p=true):2<=σ.gz.length:=by
 have⟨r,h⟩:=h;unfold Ab.current at b;cases ho:σ.gz with
 |nil=>
  have:σ.last=none:=by unfold Ab.last;rw[ho];rfl
  grind
 |cons x rest=>
  cases rest with
  |cons y r2=>simp
  |nil=>
   exfalso;obtain⟨q,rfl,e,d,g⟩:=h.KH x [] ho;have:σ.last=some q:=by unfold Ab.last;rw[ho];rfl
   rw[this]at b;have l:σ.nm q=fX:=by unfold Ab.nm;rw[d];exact g
   grind
def tX (h:mM σ) (p:gy->Bool) (d:p fX=false):jH 0 σ (pZ p σ) (λ_ σ'=>uF σ σ'):=by
 show jH 0 σ (.ok () (σ.Jy p)) _;unfold Ab.Jy;split
 .rename_i b;have⟨g1,g2⟩:=EY h (xe h p d b);exact⟨g1,g2,ni (jm rfl),uF.pop σ⟩
 .exact⟨h,Fx.refl _,ig _,uF.refl _⟩
def jx.Cx (h:jx r σ) (d:∀i,some i∈ys->∃e,σ.hU i=some e/\rn e.name=true) (b:ys.length<=σ.qQ):jx r {σ with act:=ys}/\Fx σ {σ with act:=ys}:=
 ⟨⟨⟨h.nL.up,h.nL.dn,h.nL.nd,h.nL.kd⟩,⟨h.tc.je,h.tc.gz,h.tc.hd⟩,h.gz,d,h.head,h.form,h.KH,h.wV,b,h.OI,h.RS,h.xf⟩,⟨rfl,rfl,rfl,rfl,rfl,rfl,rfl,rfl,rfl,rfl,rfl,λ_ _ h=>h,λ_=>rfl⟩⟩
structure FD (σ:Ab) (s:gy) (j:Nat) (σ':Ab):Prop where
 gz:σ'.gz=σ.gz++[some j]
 act:σ'.act=σ.act
 nm:iU σ' j s
 new:σ.nodes.length<=j
def NS (h:mM σ) (u:σ.gz≠[]) (F:wt σ < 999999) (d:gy) (gL:lh) (b:Bool):jH 1 σ (mj σ.nodes.length (σ.pn (.el {name:=d,gU:=gL,je:=none,kids:=[]}) b)) (λ_ σ'=>∃j,FD σ d j σ'/\σ'.fresh=b):=by
 have⟨r,h⟩:=h;have⟨g1,g2⟩:=h.new d gL b 0;have g:(σ.pn (.el {name:=d,gU:=gL,je:=none,kids:=[]}) b).hU σ.nodes.length=some {name:=d,gU:=gL,je:=none,kids:=[]}:=Ab.um;have v:some σ.nodes.length∉(σ.pn (.el {name:=d,gU:=gL,je:=none,kids:=[]}) b).gz:=by
  intro B;have:=h.EW (i:=σ.nodes.length) B;omega
 have C:wt (σ.pn (.el {name:=d,gU:=gL,je:=none,kids:=[]}) b)=wt σ:=Ek _ _ _;have l:=L9 ⟨_,g1⟩ g rfl rfl v u (by omega);revert l;cases mj σ.nodes.length (σ.pn (.el {name:=d,gU:=gL,je:=none,kids:=[]}) b)with
 |ok a σ'=>
  rintro⟨l,A,D,q⟩;refine⟨l,g2.trans A,by omega,σ.nodes.length,⟨q.gz,q.act,A.nm _ _ ⟨_,g,rfl⟩,ig _⟩,q.fresh⟩
 |stop e p=>exact λh=>h
 |stuck=>simp[jH]
def jH.iH {α:Type} {m:M α} {Q : Unit->Ab->Prop} (h:jH c σ (m σ) (λ_ σ'=>Q () σ')):jH c σ ((m>>=λ_=>(Pure.pure ():M Unit)) σ) Q:=by
 refine jH.bind h (c2:=0) (λa σ' b _ _ d=>jH.ret b d) (by omega)
def jH.tail_at {α:Type} {σ1 : Ab} {m:M α} {Q : Unit->Ab->Prop} (h:jH c σ (m σ1) (λ_ σ'=>Q () σ')):jH c σ ((m>>=λ_=>(Pure.pure ():M Unit)) σ1) Q:=by
 rw[M.gx];revert h;cases m σ1<;>exact λh=>h
def rW (h:mM σ) (d:σ.gz≠[]) (g:wt σ < 999999) (b:gy):jH 1 σ (kq b σ) (λ_ σ'=>∃j,FD σ b j σ'/\σ'.fresh=σ.fresh):=
 jH.iH (m:=λσ=>mj σ.nodes.length (σ.add (.el {name:=b,gU:=[],je:=none,kids:=[]}))) (NS h d g b [] σ.fresh)
theorem jT (h:mM σ) (b:σ.gz≠[]) (d:wt σ < 999999) (t:gM) (l:t.rL=true) (g:σ.fresh=true):jH 1 σ (jt t σ) (λ_ σ'=>∃j,FD σ t.name j σ'):=by
 unfold jt;rw[M.gx];unfold pL;rw[gF (by grind)];dsimp only;refine jH.tail_at ?_;refine(NS h b d t.name t.js false).mono (ig _) ?_
 grind
def abz (h:FD σ s j σ'):σ'.pop.gz=σ.gz:=by
 show σ'.gz.dropLast=_;rw[h.gz];simp
theorem DT (h:FD σ s j σ') (b:σ.gz≠[]):2<=σ'.gz.length:=by
 have:0 < σ.gz.length:=List.length_pos_iff.2 b;rw[h.gz];grind
def DS (h:FD σ s j σ'):σ'.last=some j:=by
 unfold Ab.last;rw[h.gz];have e:((σ.gz++[some j]).length:Int) - 1=((σ.gz.length:Nat):Int):=by simp
 rw[e,qR];simp
def ym (h:mM σ) (b:2<=σ.gz.length):jH 0 σ (yl σ) (λx σ'=>σ'=σ.pop/\x=σ.last):=by
 have⟨g1,g2⟩:=EY h b;exact⟨g1,g2,ni (jm rfl),rfl,rfl⟩
def qs (h:mM σ) (b:σ.gz≠[]) (u:wt σ < 999999) (t:gM) (q:t.rL=true) (l:σ.fresh=true):jH 1 σ (lx t σ) (λ_ σ'=>σ'.gz=σ.gz/\σ'.act=σ.act):=by
 unfold lx;refine jH.bind (jT h b u t q l) (c2:=0) ?_ (by omega);rintro _ v g B _ ⟨j,d⟩;refine jH.iH ((ym g (DT d b)).mono (ig _) ?_);rintro x A _ _ ⟨rfl,_⟩;exact⟨abz d,d.act⟩
def oH (h:mM σ) (b:σ.gz≠[]) (t:gM) (d:wt σ+t.chars.size+1<=1000000):jH (t.chars.size+1) σ (j7 t σ) (λ_ σ'=>Rest σ σ'):=by
 have⟨r,hr⟩:=h;have⟨pl,p1,p2,_⟩:=EX hr b;unfold j7;rw[M.gx,p1];dsimp only;exact jH.iH (m:=uN pl t.chars) (Qw ⟨r,hr⟩ p2 t.chars d)
def Px (h:rn s=true):nk s=false:=by
 unfold rn ij at h;rw[List.any_eq_true]at h;have⟨x,hx,he⟩:=h;have e:=tL he;simp only[qD,qE,rH]at hx;rcases hx with rfl|rfl|rfl|rfl<;>(rw[e];simp[nk,kC,acT,acS,sJ])
def DC (h:rn s=true):s≠fX:=by
 rintro rfl;simp[rn,ij,kC,sJ]at h
theorem ZB (h:(pM xs x (some j))[m]?=some y):xs[m]?=some y\/y=some j:=by
 unfold pM at h
 grind
theorem JD (xs:kQ) (x y:jg):(pM xs x y).length=xs.length:=by
 grind[pM]
theorem JG (h:z∈pM xs x y):z∈xs\/z=y:=by
 unfold pM at h
 grind
theorem Vl (h:mM σ) {old : Nat} (g:(σ.hU old).isSome=true) (d:iU σ j s) (l:rn s=true):jH 0 σ (rj (some old) (some j) σ) (λ_ σ'=>σ'.gz=σ.gz/\σ'.act=pM σ.act (some old) (some j)/\σ'.fresh=σ.fresh):=by
 have⟨r,h⟩:=h;have⟨ej,hej,hn⟩:=d;unfold rj;rw[gF (by grind[Ab.gW])];have⟨g1,g2⟩:=h.Cx (ys:=pM σ.act (some old) (some j)) (λi b=>by
  rcases JG b with b|b
  .exact h.act i b
  grind) (by rw[JD];exact h.zM)
 exact⟨⟨r,g1⟩,g2,ni (jm rfl),rfl,rfl,rfl⟩
def zZ (d:σ.hU i=some e) (b:rn e.name=true):kR i σ= .ok σ.nodes.length (σ.pn (.el {name:=e.name,gU:=e.gU,je:=none,kids:=[]}) σ.fresh):=by
 unfold kR;rw[d];dsimp only;rw[Px b];rfl
theorem QM:∀(k n:Nat) {σ:Ab},mM σ->σ.gz≠[]->wt σ+k < 999999->n+k<=σ.act.length->(∀m,n<=m->m < n+k->∃i,σ.act[m]?=some (some i))->jH k σ (JC k n σ) (λ_ σ'=>σ.gz <+:σ'.gz/\σ'.act.length=σ.act.length/\σ'.fresh=σ.fresh)
 |0,n,σ,h,_,_,_,_=>jH.ret h ⟨List.prefix_refl _,rfl,rfl⟩
 |k+1,n,σ,h,hne,hw,hl,ha=>by
  have⟨old,ho⟩:=ha n (ig _) (by omega);have⟨r,hr⟩:=h;have⟨eo,heo,hfo⟩:=hr.act old (tA ho);have A:FH n σ= .ok old σ:=by
   unfold FH;rw[qR,xv,ho];rfl
  unfold JC;rw[M.gx,A];dsimp only;rw[M.gx,zZ heo hfo];dsimp only;rw[M.gx];have F:=NS ⟨r,hr⟩ hne (by omega) eo.name eo.gU σ.fresh;revert F;cases hq:mj σ.nodes.length (σ.pn (.el {name:=eo.name,gU:=eo.gU,je:=none,kids:=[]}) σ.fresh)with
  |stop e p=>simp[jH]
  |stuck=>simp[jH]
  |ok u σ1=>
   rintro⟨N,q,U,j,g,v⟩;dsimp only;have B:qK old σ1=rj (some old) (some j) σ1:=by unfold qK;rw[DS g]
   have⟨eo1,heo1,_⟩:=q.nm old eo.name ⟨eo,heo,rfl⟩;have G:jH (k+0) σ1 ((qK old>>=λ_=>JC k (n+1)) σ1) (λ_ σ'=>σ.gz <+:σ'.gz/\σ'.act.length=σ.act.length/\σ'.fresh=σ.fresh):=by
    refine jH.bind (c1:=0) (by rw[B];exact Vl N (by grind) g.nm hfo) (c2:=k) ?_ (by omega);rintro _ b O K V ⟨P,l,R⟩;have d:b.act.length=σ.act.length:=by rw[l,JD,g.act]
    refine(QM k (n+1) O (K.ne (q.ne hne)) (by omega) (by omega) ?_).mono (ig _) ?_
    .intro m F G;have⟨i,hi⟩:=ha m (by omega) (by omega);have T:m < b.act.length:=by omega
     cases hx:b.act[m]? with
     |none=>grind
     |some y=>
      rw[l]at hx;rcases ZB hx with H|H
      .rw[g.act,hi]at H;grind
      grind
    .rintro _ C _ _ ⟨Q,D,S⟩;refine⟨?_,D.trans d,S.trans (R.trans v)⟩;refine List.IsPrefix.trans ?_ Q;rw[P,g.gz];simp
   revert G;cases((qK old>>=λ_=>JC k (n+1)) σ1)with
   |ok a C=>rintro⟨I,l,D,J⟩;exact⟨I,q.trans l,by omega,J⟩
   |stop e p=>exact λh=>xI h q.gP
   |stuck=>simp[jH]
theorem Mu (σ:Ab):∀ys:kQ,σ.tY ys<=ys.length/\∀m,m < ys.length - σ.tY ys->∃i,ys[m]?=some (some i)
 |[]=>⟨ig _,λm d=>by grind⟩
 |x::ys=>by
  unfold Ab.tY
  by_cases b:σ.SK x=true
  .grind
  .rw[gQ b];have⟨h1,h2⟩:=Mu σ ys;refine⟨by grind,λm d=>?_⟩;cases m with
   |zero=>
    cases x with
    |none=>exact absurd (by rfl) b
    |some i=>simp
   |succ m=>exact h2 m (by grind)
theorem nP (h:mM σ) (b:σ.gz≠[]) (u:wt σ+32 < 999999):jH 32 σ (lK σ) (λ_ σ'=>σ.gz <+:σ'.gz/\σ'.act.length=σ.act.length/\σ'.fresh=σ.fresh):=by
 unfold lK;have⟨h1,h2⟩:=Mu σ σ.act.reverse;have g:σ.Ay<=σ.act.length:=by simpa [Ab.Ay]using h1
 have d:σ.act.length<=32:=by have⟨r,hr⟩:=h;exact jP hr.zM hr.RS
 refine(QM (σ.act.length - σ.Ay) σ.Ay h b (by omega) (by omega) ?_).mono (by omega) (λ_ _ _ _ h=>h);intro m l q;have⟨i,hi⟩:=h2 (σ.act.length - 1 - m) (by
  have e:σ.tY σ.act.reverse=σ.Ay:=rfl
  grind)
 grind
structure Vg (σ:Ab) (o a:kQ) (σ':Ab):Prop where
 nodes:σ'.nodes=σ.nodes
 gz:σ'.gz=o
 act:σ'.act=a
 fresh:σ'.fresh=σ.fresh
def yG (h:mM σ) (d:σ.gW x=true):jH 0 σ (kK x σ) (λ_ σ'=>Vg σ σ.gz (σ.act.erase x) σ'):=by
 have⟨r,h⟩:=h;unfold kK;rw[gF d];have⟨g1,g2⟩:=h.Cx (ys:=σ.act.erase x) (λi b=>h.act i (AO b)) (jP (List.length_erase_le) h.zM);exact⟨⟨r,g1⟩,g2,ni (jm rfl),rfl,rfl,rfl,rfl⟩
def RY (h:z∈oe xs x):z∈xs:=by
 unfold oe at h;rw[List.mem_reverse]at h;exact List.mem_reverse.1 ((Z6 _).subset ((List.tail_sublist _).subset h))
theorem WB (xs:kQ) (x:jg):(oe xs x).length<=xs.length:=by
 unfold oe;rw[List.length_reverse,List.length_tail];have:=(Z6 (p:=λy=>decide (y≠x)) (l:=xs.reverse)).length_le
 grind
def Ke (h:mM σ):jH 0 σ (zo σ) (λ_ σ'=>Vg σ σ.gz (oe σ.act none) σ'):=by
 refine jH.iH (m:=BT none) ?_;have⟨r,h⟩:=h;unfold BT;rw[gF (show σ.gW none=true from rfl)];have⟨g1,g2⟩:=h.Cx (ys:=oe σ.act none) (λi b=>h.act i (RY b)) (jP (WB _ _) h.zM);exact⟨⟨r,g1⟩,g2,ni (jm rfl),rfl,rfl,rfl,rfl⟩
theorem vw (h:mM σ) (x:jg) (l:∀i,x=some i->∃e,σ.hU i=some e/\rn e.name=true):jH 0 σ (lw x σ) (λ_ σ'=>Vg σ σ.gz (σ.act++[x]) σ'):=by
 have⟨r,h⟩:=h;unfold lw;split
 .rfl
 .rename_i g;have d:σ.gW x=true:=by
   cases x with
   |none=>rfl
   |some i=>grind[Ab.gW]
  rw[gF d];have⟨g1,g2⟩:=h.Cx (ys:=σ.act++[x]) (λi b=>by
   rcases List.mem_append.1 b with b|b
   .exact h.act i b
   grind) (by grind)
  exact⟨⟨r,g1⟩,g2,ni (jm rfl),rfl,rfl,rfl,rfl⟩
theorem Cg (σ:Ab) (j:Nat):∀(ys:kQ) (c:jg×Nat),(σ.sj j ys c).1=c.1\/(σ.sj j ys c).1∈ys
 |[],c=> .inl rfl
 |none::_,c=> .inl rfl
 |some i::ys,c=>by
  unfold Ab.sj;split
  .rcases Cg σ j ys (some i,c.2+1)with h|h
   all_goals grind
  .rcases Cg σ j ys c with h|h
   all_goals grind
theorem XJ (h:mM σ) (A:iU σ i s) (G:rn s=true):jH 0 σ (MP i σ) (λ_ σ'=>σ'.gz=σ.gz/\σ'.fresh=σ.fresh):=by
 have⟨e,he,hn⟩:=A;have d:∀b,mM b->b.nodes=σ.nodes->jH 0 b (lw (some i) b) (λ_ σ'=>Vg b b.gz (b.act++[some i]) σ'):=by
  intro b g C;refine vw g (some i) ?_;intro j B;cases B;exact⟨e,by grind[Ab.hU],by grind⟩
 have q:σ.gW (σ.sj i σ.act.reverse (none,0)).1=true:=by
  rcases Cg σ i σ.act.reverse (none,0)with g|g
  .rw[g];rfl
  .cases hx:(σ.sj i σ.act.reverse (none,0)).1 with
   |none=>rfl
   |some j=>
    rw[hx]at g;have⟨r,hr⟩:=h;have⟨ej,hej,_⟩:=hr.act j (List.mem_reverse.1 g)
    grind[Ab.gW]
 unfold MP;dsimp only;split
 .refine jH.bind (yG h q) (c2:=0) ?_ (by omega);rintro _ b D F _ u;refine jH.iH ((d b D u.nodes).mono (ig _) ?_);rintro _ v _ _ l;exact⟨l.gz.trans u.gz,l.fresh.trans u.fresh⟩
 .refine jH.iH ((d σ h rfl).mono (ig _) ?_);rintro _ v _ _ l;exact⟨l.gz,l.fresh⟩
theorem Cd (h:xs.head?≠some x):(xs.erase x).head?=xs.head?:=by
 cases xs with
 |nil=>rfl
 |cons y r=>
  grind
def jx.DY (h:jx r σ) (d:iU σ i s) (g:s≠fX):σ.gz.head?≠some (some i):=by
 intro e;have b:=h.Jm e;have⟨ei,he,hn⟩:=d;apply g;rw[<-hn,<-b];show _=σ.nm i;unfold Ab.nm;rw[he]
theorem Ci (h:mM σ) (b:iU σ i s) (d:s≠fX):jH 0 σ (ku (some i) σ) (λ_ σ'=>Vg σ (σ.gz.erase (some i)) σ.act σ'):=by
 have⟨r,h⟩:=h;have⟨e,he,_⟩:=id b;unfold ku;rw[gF (by grind[Ab.gW])];have⟨g1,g2⟩:=h.sub (ys:=σ.gz.erase (some i)) List.erase_sublist (Cd (h.DY b d));exact⟨⟨r,g1⟩,g2,ni (jm rfl),rfl,rfl,rfl,rfl⟩
theorem Du:∀{ys:kQ},x∈ys->∃j,j < ys.length/\ys.dropWhile (λy=>decide (y≠x))=ys.drop j/\ys[j]?=some x
 |[],h=>by cases h
 |y::ys,h=>by
  by_cases d:y=x
  .subst d;exact⟨0,by simp,by simp,rfl⟩
  .have b:x∈ys:=by
    rcases List.mem_cons.1 h with h|h
    .grind
    .exact h
   have⟨j,h1,h2,h3⟩:=Du b;refine⟨j+1,by grind,?_,by grind⟩
   simp_all
theorem Ta (g:x∈xs) (b:xs.head?≠some x):∃k,1<=k/\k < xs.length/\oe xs x=xs.take k:=by
 have⟨j,h1,h2,h3⟩:=Du (List.mem_reverse.2 g);have d:j < xs.length:=by simpa using h1
 have e:oe xs x=xs.take (xs.length - (j+1)):=by
  unfold oe;rw[h2,List.tail_drop,ub]
 refine⟨_,?_,by omega,e⟩;rcases rC (j+1) xs.length with h|h
 .omega
 .exfalso;apply b;rw[RK d]at h3;rw[C6]
  grind
theorem SU (h:mM σ) (b:iU σ i s) (g:s≠fX) (d:some i∈σ.gz):jH 0 σ (Av (some i) σ) (λ_ σ'=>uF σ σ'):=by
 have⟨r,h⟩:=h;have⟨e,he,_⟩:=id b;unfold Av;rw[gF (by grind[Ab.gW])];have⟨k,k1,k2,k3⟩:=Ta d (h.DY b g);rw[k3];have⟨g1,g2⟩:=h.sub (ys:=σ.gz.take k) (Fu _ _) (Bf k1);exact⟨⟨r,g1⟩,g2,ni (jm rfl),rfl,rfl,rfl,k,rfl⟩
theorem Pf (h:j∈iJ ks) (g:(iJ ks).Nodup):iJ (ks.eraseIdx (ks.findIdx (Nd.gW j)))=(iJ ks).erase j:=by
 induction ks with
 |nil=>cases h
 |cons k r ih=>
  by_cases b:Nd.gW j k=true
  .cases k with
   |el i=>
    grind[iJ,Nd.gW]
   |tx i=>cases b
   |cm i=>cases b
   |dt i=>cases b
  .have d:Nd.gW j k=false:=by simpa using b
   rw[List.findIdx_cons,d];simp only[cond_false,List.eraseIdx_cons_succ];cases k with
   |el i=>
    grind[iJ,Nd.gW]
   |tx i=>exact ih h g
   |cm i=>exact ih h g
   |dt i=>exact ih h g
theorem jx.mr (h:jx r σ) (C:σ.hU j=some ej):
  ∃σ',mr j σ= .ok () σ'/\jx r σ'/\Fx σ σ'/\wt σ'<=wt σ/\σ'.gz=σ.gz/\σ'.act=σ.act/\σ'.fresh=σ.fresh/\σ'.nodes.length=σ.nodes.length/\(∃v,σ'.hU j=some v/\v.je=none/\v.name=ej.name):=by
 unfold Go.Proofs.YtofkkmcdggkkpaaGreatDoor.mr;rw[C];dsimp only;cases hp:ej.je with
 |none=>exact⟨σ,rfl,h,Fx.refl _,ig _,rfl,rfl,rfl,rfl,ej,C,hp,rfl⟩
 |some p=>
  have⟨ep,hep,hm⟩:=h.nL.up j ej p C hp;have a7:=h.tc.je j ej p C hp;have F:j≠p:=by rintro rfl;omega
  have⟨q1,q2⟩:=UA hm;dsimp only;rw[hep];dsimp only;rw[gF ⟨F,q1,q2⟩];have a0:=Ab.ik hep;have a4:=Ab.ik C;have K:(qh ep.kids (Nd.gW j)).toNat=ep.kids.findIdx (Nd.gW j):=by
   unfold qh at q2|-
   by_cases hf:ep.kids.findIdx (Nd.gW j) < ep.kids.length
   .omega
   .exfalso;apply hf;exact Z4 ⟨_,vN.1 hm,by simp[Nd.gW]⟩
  rw[K]at q2|-;obtain⟨ks,D⟩:∃ks,ks=ep.kids.eraseIdx (ep.kids.findIdx (Nd.gW j)):=⟨_,rfl⟩;rw[<-D];have a5:ks.length+1=ep.kids.length:=by rw[D,Z5 q2];omega
  have P:iJ ks=(iJ ep.kids).erase j:=by rw[D];exact Pf hm (h.nL.nd p ep hep)
  have Q:∀k∈ks,k∈ep.kids:=λk I=>by rw[D]at I;exact(List.eraseIdx_sublist _ _).subset I
  obtain⟨σ',b⟩:∃σ',σ'=(σ.ib p {ep with kids:=ks}).ib j {ej with je:=none}:=⟨_,rfl⟩;rw[<-b];have g1:σ'.hU p=some {ep with kids:=ks}:=by rw[b,Ab.iS (xu F),Ab.iW a0]
  have g2:σ'.hU j=some {ej with je:=none}:=by rw[b,Ab.iW (by grind[Ab.ib])]
  have g3:∀i,i≠p->i≠j->σ'.hU i=σ.hU i:=λi g A=>by rw[b,Ab.iS A,Ab.iS g]
  have N:(σ.hU p).isSome=true:=by rw[hep];rfl
  have O:((σ.ib p {ep with kids:=ks}).hU j).isSome=true:=by rw[Ab.iS F,C];rfl
  have gk:∀k,σ'.ji k=σ.ji k:=λk=>by rw[b,Ab.la O,Ab.la N]
  have ge:∀x,σ'.mG x=σ.mG x:=λx=>by rw[b,Ab.yg O,Ab.yg N]
  have G:∀i e,σ.hU i=some e->∃v,σ'.hU i=some v/\v.name=e.name/\(i≠p->v.kids=e.kids)/\(i≠j->v.je=e.je):=by
   intro i e B
   by_cases g:i=p
   .grind
   .grind
  have u:∀i v,σ'.hU i=some v->(i=p/\v={ep with kids:=ks})\/(i=j/\v={ej with je:=none})\/(i≠p/\i≠j/\σ.hU i=some v):=by
   intro i v B
   by_cases g:i=p
   .grind
   .grind
  have R:∀i s,iU σ i s->iU σ' i s:=λi s ⟨e,B,hn⟩=>by
   grind[iU]
  have a8:∀i e q,σ.hU i=some e->i≠j->e.je=some q->∃W,σ'.hU q=some W/\i∈iJ W.kids:=by
   intro i e q B a3 S;have⟨W,A,H⟩:=h.nL.up _ _ q B S;have⟨eq',h4,_,h5,_⟩:=G q W A;refine⟨eq',h4,?_⟩
   by_cases a6:q=p
   .grind
   .grind
  have Y:∀i e x,σ.hU i=some e->x∈iJ e.kids->x≠j->∃J,σ'.hU x=some J/\J.je=some i:=by
   intro i e x B T a1;have⟨J,A,H⟩:=h.nL.dn i e x B T;have⟨ex',h4,_,_,h5⟩:=G x J A;exact⟨ex',h4,(h5 a1).trans H⟩
  have a2:∀i e,σ.hU i=some e->j∈iJ e.kids->i=p:=by
   intro i e B Z;have⟨J,A,H⟩:=h.nL.dn i e j B Z;rw[C]at A;cases A;rw[hp]at H;exact(jL H).symm
  refine⟨σ',rfl,⟨⟨?_,?_,?_,?_⟩,⟨?_,?_,?_⟩,λx T=>?_,λi l=>?_,λd X=>R _ _ (h.head d ?_),λd X=>R _ _ (h.form d ?_),λy V hy=>?_,?_,?_,?_,?_,?_⟩,?_,?_,?_,?_,?_,?_,?_⟩
  .grind
  .intro i e x l T;rcases u i e l with⟨g,rfl⟩|⟨g,rfl⟩|⟨H,A,g⟩
   .rw[g];have U:x∈(iJ ep.kids).erase j:=by rw[<-P];exact T
    exact Y p ep x hep (AO U) (λe=>by
     subst e;exact(List.Nodup.not_mem_erase (h.nL.nd p ep hep)) U)
   all_goals grind
  .intro i e l;rcases u i e l with⟨g,rfl⟩|⟨g,rfl⟩|⟨_,_,g⟩
   .show(iJ ks).Nodup;rw[P];exact(h.nL.nd p ep hep).erase j
   .show(iJ ej.kids).Nodup;exact h.nL.nd _ _ C
   .exact h.nL.nd _ _ g
  .intro i e l k I;rw[gk];rcases u i e l with⟨g,rfl⟩|⟨g,rfl⟩|⟨_,_,g⟩
   .exact h.nL.kd _ _ hep k (Q k I)
   .exact h.nL.kd _ _ C k I
   .exact h.nL.kd _ _ g k I
  .intro i e q l S;rcases u i e l with⟨g,rfl⟩|⟨g,rfl⟩|⟨_,_,g⟩
   .rw[g];exact h.tc.je _ _ q hep S
   .cases S
   .exact h.tc.je _ _ q g S
  .rw[b];exact h.tc.gz
  .rw[b];exact h.tc.hd
  .rw[ge];exact h.gz x (by rwa [b]at T)
  .have⟨e,B,hf⟩:=h.act i (by rw[b]at l;exact l)
   grind
  .rwa [b]at X
  .rwa [b]at X
  .have⟨z,g,A⟩:=h.KH y V (by rwa [b]at hy)
   grind
  .rw[b];exact h.wV
  .rw[b];exact h.zM
  .rw[b];exact h.OI
  .rw[b];exact h.RS
  .have⟨e,B⟩:=Option.isSome_iff_exists.1 h.xf
   grind
  .rw[b];exact⟨rfl,rfl,rfl,rfl,rfl,rfl,rfl,rfl,rfl,rfl,rfl,by grind,λ_=>rfl⟩
  .have w1:=rR (e':={ep with kids:=ks}) hep;have w2:=rR (σ:=σ.ib p {ep with kids:=ks}) (e':={ej with je:=none}) (by rw[Ab.iS F];exact C)
   grind
  .rw[b];rfl
  .rw[b];rfl
  .rw[b];rfl
  .rw[b,Ab.nE,Ab.nE]
  grind
structure acl (σ:Ab) (d:Nat) (ed:zu) (ks:List Nd) (σ':Ab):Prop where
 eq:σ'={σ with nodes:=σ'.nodes}
 len:σ'.nodes.length=σ.nodes.length
 dst:σ'.hU d=some {ed with kids:=ed.kids++ks}
 oth:∀i,i≠d->σ'.hU i=if i∈iJ ks then (σ.hU i).map (λe=>{e with je:=some d})else σ.hU i
 kid:∀k,σ'.ji k=σ.ji k
 wt:wt σ'=wt σ+ks.length
def Ul (ks:List Nd) (k:Nd):ins ks ks.length k=ks++[k]:=by simp[ins]
theorem EK:∀(ks:List Nd) {σ:Ab} {d:Nat} {ed:zu},σ.hU d=some ed->(∀k∈ks,σ.ji k=true)->d∉iJ ks->(iJ ks).Nodup->ed.kids.length+ks.length < 1000000->∃σ',ye d ks σ= .ok () σ'/\acl σ d ed ks σ'
 |[],σ,d,ed,hd,_,_,_,_=>⟨σ,rfl,rfl,rfl,by simp_all,λi _=>by rfl,λ_=>rfl,rfl⟩
 |k::ks,σ,d,ed,hd,hk,hn,hnd,hl=>by
  simp only[qe]at hl;have C:=Ab.ik hd;have v:(σ.hU d).isSome=true:=by rw[hd];rfl
  have Q:jy d σ= .ok (d,ed.kids.length) σ:=by unfold jy;rw[hd]
  unfold ye;rw[M.gx,Q];dsimp only;rw[M.gx];have D:=hk k (pP ..);have A:∀(H:Nd),(∀j,H≠ .el j)->k=H->∃b,zF (d,ed.kids.length) H σ= .ok () b/\∃σ',ye d ks b= .ok () σ'/\acl σ d ed (k::ks) σ':=by
   intro H S N;subst N;have K:zF (d,ed.kids.length) k σ= .ok () (σ.ib d {ed with kids:=ed.kids++[k]}):=by
    unfold zF;dsimp only;rw[hd];dsimp only;rw[gF ⟨D,ig _,by omega⟩,Ul]
   refine⟨_,K,?_⟩;have u:iJ (k::ks)=iJ ks:=by
    cases k with
    |el j=>grind
    |tx j=>rfl
    |cm j=>rfl
    |dt j=>rfl
   rw[u]at hn hnd;have⟨σ',B,l⟩:=EK ks (σ:=σ.ib d {ed with kids:=ed.kids++[k]}) (d:=d) (ed:={ed with kids:=ed.kids++[k]}) (Ab.iW C) (λx T=>by rw[Ab.la v];grind) hn hnd (by grind);refine⟨σ',B,l.eq,by rw[l.len,Ab.nE],by rw[l.dst];simp,?_,λx=>by rw[l.kid,Ab.la v],?_⟩
   .intro i G;rw[l.oth i G,u,Ab.iS G]
   .have U:=rR (e':={ed with kids:=ed.kids++[k]}) hd;have V:=l.wt
    grind
  cases k with
  |tx j=>
   have⟨b,e1,σ',e2,e3⟩:=A (.tx j) (λ_ h=>by cases h) rfl;rw[show Fb (d,ed.kids.length) (.tx j) σ= .ok () b from e1]
   grind
  |cm j=>
   have⟨b,e1,σ',e2,e3⟩:=A (.cm j) (λ_ h=>by cases h) rfl;rw[show Fb (d,ed.kids.length) (.cm j) σ= .ok () b from e1]
   grind
  |dt j=>
   have⟨b,e1,σ',e2,e3⟩:=A (.dt j) (λ_ h=>by cases h) rfl;rw[show Fb (d,ed.kids.length) (.dt j) σ= .ok () b from e1]
   grind
  |el j=>
   have q:j≠d:=by rintro rfl;exact hn (pP ..)
   have⟨ej,hej⟩:=Option.isSome_iff_exists.1 (show(σ.hU j).isSome=true from D);have R:=Ab.ik hej;obtain⟨b,g⟩:∃b,b=(σ.ib d {ed with kids:=ed.kids++[.el j]}).ib j {ej with je:=some d}:=⟨_,rfl⟩;have K:Fb (d,ed.kids.length) (.el j) σ= .ok () b:=by
    show mO (d,ed.kids.length) j σ=_;unfold mO;dsimp only;rw[hd,hej];dsimp only;rw[gF ⟨q,ig _,by omega⟩,Ul,g]
   rw[K];dsimp only;have I:((σ.ib d {ed with kids:=ed.kids++[.el j]}).hU j).isSome=true:=by rw[Ab.iS q,hej];rfl
   have P:∀k,b.ji k=σ.ji k:=λk=>by rw[g,Ab.la I,Ab.la v]
   have O:b.hU d=some {ed with kids:=ed.kids++[.el j]}:=by rw[g,Ab.iS (xu q),Ab.iW C]
   have W:b.hU j=some {ej with je:=some d}:=by rw[g,Ab.iW (by grind[Ab.ib])]
   have go:∀i,i≠d->i≠j->b.hU i=σ.hU i:=λi B l=>by rw[g,Ab.iS l,Ab.iS B]
   have J:d∉iJ ks:=λh=>hn (oW _ h);have F:=List.nodup_cons.1 (show(j::iJ ks).Nodup from hnd);have⟨σ',B,l⟩:=EK ks (σ:=b) (d:=d) (ed:={ed with kids:=ed.kids++[.el j]}) O (λx T=>by grind) J F.2 (by grind);refine⟨σ',B,?_,by rw[l.len,g,Ab.nE,Ab.nE],by rw[l.dst];simp,?_,λx=>by rw[l.kid,P],?_⟩
   .have:=l.eq;rwa [g]at this
   .intro i G;rw[l.oth i G]
    grind[iJ]
   .have U:=rR (e':={ed with kids:=ed.kids++[.el j]}) hd;have V:=rR (σ:=σ.ib d {ed with kids:=ed.kids++[.el j]}) (e':={ej with je:=some d}) (by rw[Ab.iS q];exact hej);have X:=l.wt
    grind
theorem jx.hand (h:jx r σ) {b d : Nat} {g ed : zu} (A:σ.hU b=some g) (hd:σ.hU d=some ed) (N:b≠d) (T:ed.kids=[]) (W:ed.je=none) (hr:∀k∈iJ g.kids,r d < r k) (hw:wt σ < 999999):
  ∃σ',handOver b d σ= .ok () σ'/\jx r σ'/\Fx σ σ'/\wt σ'=wt σ/\σ'.gz=σ.gz/\σ'.act=σ.act/\σ'.fresh=σ.fresh/\σ'.nodes.length=σ.nodes.length/\σ'.hU b=some {g with kids:=[]}/\σ'.hU d=some {ed with kids:=g.kids}:=by
 have a0:=Ab.ik A;have a3:d∉iJ g.kids:=by
  intro U;have⟨e2,h1,h2⟩:=h.nL.dn b g d A U;rw[hd]at h1;cases h1;rw[W]at h2;cases h2
 have a1:b∉iJ g.kids:=by
  intro U;have⟨e2,h1,h2⟩:=h.nL.dn b g b A U;have:=h.tc.je b e2 b h1 h2;omega
 have ad:=GZ A;have⟨σ1,h1,h2⟩:=EK g.kids hd (h.nL.kd b g A) a3 (h.nL.nd b g A) (by grind);have K:σ1.hU b=some g:=by rw[h2.oth b N,gQ a1];exact A
 have a2:σ1.hU d=some {ed with kids:=g.kids}:=by rw[h2.dst,T];simp
 obtain⟨σ',v⟩:∃σ',σ'=σ1.ib b {g with kids:=[]}:=⟨_,rfl⟩;have hq:handOver b d σ= .ok () σ':=by
  unfold handOver;rw[A];dsimp only;rw[gQ N];change M.bind (ye d g.kids) (λ_ σ'=>match σ'.hU b with|some eb'=> .ok () (σ'.ib b {eb' with kids:=[]})|none=> .stuck) σ=_
  unfold M.bind;rw[h1];dsimp only;rw[K,v]
 have R:(σ1.hU b).isSome=true:=by rw[K];rfl
 have gb:σ'.hU b=some {g with kids:=[]}:=by rw[v,Ab.iW (by rw[h2.len];exact a0)]
 have gd:σ'.hU d=some {ed with kids:=g.kids}:=by rw[v,Ab.iS (xu N)];exact a2
 have go:∀i,i≠d->i≠b->σ'.hU i=if i∈iJ g.kids then (σ.hU i).map (λe=>{e with je:=some d})else σ.hU i:=λi l B=>by rw[v,Ab.iS B,h2.oth i l]
 have gk:∀k,σ'.ji k=σ.ji k:=λk=>by rw[v,Ab.la R,h2.kid]
 have q:σ'={σ with nodes:=σ'.nodes}:=by
  rw[v];have:=h2.eq;show({σ1 with nodes:=_}:Ab)=_;rw[this];rfl
 have u:∀i G,σ'.hU i=some G->(i=b/\G={g with kids:=[]})\/(i=d/\G={ed with kids:=g.kids})\/(i≠b/\i≠d/\i∈iJ g.kids/\∃e,σ.hU i=some e/\G={e with je:=some d})\/(i≠b/\i≠d/\i∉iJ g.kids/\σ.hU i=some G):=by
  intro i G D
  by_cases l:i=b
  .grind
  .by_cases B:i=d
   .grind
   .rw[go i B l]at D
    by_cases F:i∈iJ g.kids
    .rw[gF F]at D;have⟨e,h5,h6⟩:=Option.map_eq_some_iff.1 D
     grind
    grind
 have aa:∀i e,σ.hU i=some e->∃G,σ'.hU i=some G/\G.name=e.name:=by
  intro i e D
  by_cases l:i=b
  .grind
  .grind
 have I:∀i s,iU σ i s->iU σ' i s:=λi s ⟨e,D,hn⟩=>by
  grind[iU]
 have a7:∀i e p,σ.hU i=some e->e.je=some p->i∉iJ g.kids->∃J,σ'.hU p=some J/\i∈iJ J.kids:=by
  intro i e p D hp a9;have⟨J,h5,h6⟩:=h.nL.up i e p D hp;have X:p≠b:=by rintro rfl;rw[A]at h5;cases h5;exact a9 h6
  have Y:p≠d:=by rintro rfl;rw[hd]at h5;cases h5;rw[T]at h6;cases h6
  rw[go p Y X]
  by_cases F:p∈iJ g.kids
  .grind
  .grind
 have ab:∀i e p,σ.hU i=some e->i≠b->i≠d->p∈iJ e.kids->∃J,σ'.hU p=some J/\J.je=some i:=by
  intro i e p D a5 ac U;have⟨J,h5,h6⟩:=h.nL.dn i e p D U;have Y:p≠d:=by rintro rfl;rw[hd]at h5;cases h5;rw[W]at h6;cases h6
  have ae:p∉iJ g.kids:=by
   intro a8;have⟨e3,h7,h8⟩:=h.nL.dn b g p A a8;rw[h5]at h7;cases h7;rw[h6]at h8;exact a5 (jL h8)
  by_cases X:p=b
  .grind
  .grind
 have V:σ'.gz=σ.gz:=by rw[q]
 have Q:σ'.act=σ.act:=by rw[q]
 have S:σ'.head=σ.head:=by rw[q]
 have a4:σ'.form=σ.form:=by rw[q]
 refine⟨σ',hq,⟨⟨?_,?_,?_,?_⟩,⟨?_,?_,?_⟩,?_,?_,?_,?_,?_,?_,?_,?_,?_,?_⟩,?_,?_,V,Q,by rw[q],?_,gb,gd⟩
 .grind
 .intro i e j H hj;rcases u i e H with⟨l,rfl⟩|⟨l,rfl⟩|⟨l,B,F,P,C,rfl⟩|⟨l,B,F,C⟩
  .cases hj
  .rw[l];have a6:j∈iJ g.kids:=hj;have⟨ej,h5,_⟩:=h.nL.dn b g j A a6
   grind
  all_goals grind
 .intro i e H;rcases u i e H with⟨l,rfl⟩|⟨l,rfl⟩|⟨l,B,F,P,C,rfl⟩|⟨l,B,F,C⟩
  .simp[iJ]
  .show(iJ g.kids).Nodup;exact h.nL.nd b g A
  .show(iJ P.kids).Nodup;exact h.nL.nd i P C
  .exact h.nL.nd i e C
 .intro i e H k hk;rw[gk];rcases u i e H with⟨l,rfl⟩|⟨l,rfl⟩|⟨l,B,F,P,C,rfl⟩|⟨l,B,F,C⟩
  .cases hk
  .exact h.nL.kd b g A k hk
  .exact h.nL.kd i P C k hk
  .exact h.nL.kd i e C k hk
 .intro i e p H hp;rcases u i e H with⟨l,rfl⟩|⟨l,rfl⟩|⟨l,B,F,P,C,rfl⟩|⟨l,B,F,C⟩
  .rw[l];exact h.tc.je b g p A hp
  .grind
  .grind
  .exact h.tc.je i e p C hp
 .rw[V];exact h.tc.gz
 .rw[V,S];exact h.tc.hd
 .rw[V];intro x O;obtain⟨i,e,rfl,D⟩:=kL (h.gz x O)
  grind[Ab.mG]
 .rw[Q];intro i H;have⟨e,D,hf⟩:=h.act i H
  grind
 .rw[S];exact λx O=>I _ _ (h.head x O)
 .rw[a4];exact λx O=>I _ _ (h.form x O)
 .rw[V];intro x Z O;have⟨z,l,B⟩:=h.KH x Z O
  grind
 .rw[q];exact h.wV
 .rw[q];exact h.zM
 .rw[q];exact h.OI
 .rw[q];exact h.RS
 .have⟨e,D⟩:=Option.isSome_iff_exists.1 h.xf
  grind
 .rw[q]at I|-;exact⟨rfl,rfl,rfl,rfl,rfl,rfl,rfl,rfl,rfl,rfl,rfl,I,λ_=>rfl⟩
 .have w1:=h2.wt;have w2:=rR (e':={g with kids:=[]}) K
  grind
 .rw[v,Ab.nE];exact h2.len
theorem jx.nodup (h:jx r σ):σ.gz.Nodup:=h.tc.gz.imp λb e=>by grind
theorem jx.ZE (h:jx r σ) (u:∀x∈ys,σ.mG x=true) (v:ys.Pairwise λx y=>rk r x < rk r y) (g:ys.head?=σ.gz.head?) (A:ys.length<=σ.pQ):jx r {σ with gz:=ys}/\Fx σ {σ with gz:=ys}:=by
 refine⟨⟨⟨h.nL.up,h.nL.dn,h.nL.nd,h.nL.kd⟩,⟨h.tc.je,v,?_⟩,u,h.act,h.head,h.form,?_,A,h.zM,h.OI,h.RS,h.xf⟩,⟨rfl,rfl,rfl,rfl,rfl,rfl,rfl,rfl,rfl,rfl,rfl,λ_ _ h=>h,λ_=>g⟩⟩
 .intro d x B q;exact h.tc.hd d x B (by grind)
 .intro x b q;have l:ys=x::b:=q;rw[l]at g;cases ho:σ.gz with
  |nil=>grind
  |cons y r2=>
   rw[ho]at g;have e:x=y:=by simpa using g
   subst e;exact h.KH x r2 ho
def QX (h:xs[n]?=some x):xs=xs.take n++x::xs.drop (n+1):=by
 have d:=(List.getElem?_eq_some_iff.1 h).1;have b:=(List.getElem?_eq_some_iff.1 h).2;rw[<-b,<-C7 d,Gy]
theorem SR (h:xs[n]?=some x) (b:xs.Nodup):x∉xs.take n:=by
 have e:=QX h
 grind
theorem Yu (h:xs[n]?=some x) (b:xs.Nodup):xs.erase x=xs.take n++xs.drop (n+1):=by
 have d:=SR h b
 conv=>lhs;rw[QX h]
 grind
theorem vg (h:xs[n]?=some x) (b:xs.Nodup):xs.idxOf x=n:=by
 grind
def Aj (h:xs[n]?=some x):n < xs.length:=(List.getElem?_eq_some_iff.1 h).1
def jx.vM (h:jx r σ) {x y : Nat} (d:σ.gz[m]?=some (some x)) (g:σ.gz[n]?=some (some y)) (b:m < n):r x < r y:=by
 have:=List.pairwise_iff_getElem.1 h.tc.gz m n (Aj d) (Aj g) b
 rwa [(List.getElem?_eq_some_iff.1 d).2,(List.getElem?_eq_some_iff.1 g).2]at this
theorem jx.Qj (h:iU σ i s):σ.nm i=s:=by
 have⟨e,he,hn⟩:=h
 grind[Ab.nm]
def Sh (h:σ.hU i=some e):iU σ i (σ.nm i):=⟨e,h,by unfold Ab.nm;rw[h]⟩
theorem lW (h:iU σ i s):(σ.hU i).isSome=true:=by have⟨e,he,_⟩:=h;grind
theorem YE (h:(σ.hU i).isSome=true):iU σ i (σ.nm i):=by
 grind[iU,Ab.nm]
structure RJ (r:Nat->Nat) (σ:Ab) (f ir n pf last mark:Nat):Prop where
 inv:jx r σ
 lst:(σ.hU last).isSome=true
 low:∀m x,m < n->σ.gz[m]?=some (some x)->r x < r last
 fat:σ.gz[pf]?=some (some f)
 pfn:pf < n
 bat:some ir∈σ.gz.drop n
 nle:n<=σ.gz.length
 mrk:(σ.hU mark).isSome=true
 nt:∀m x,pf < m->σ.gz[m]?=some (some x)->kC (σ.nm x) fZ=false
 fact:some f∈σ.act
def RJ.isSome (f:Fx σ σ') (h:(σ.hU i).isSome=true):(σ'.hU i).isSome=true:=lW (f.nm _ _ (YE h))
def Fx.acN (f:Fx σ σ') (h:(σ.hU i).isSome=true):σ'.nm i=σ.nm i:=jx.Qj (f.nm _ _ (YE h))
def RJ.od (h:jx r σ) {x : Nat} (b:σ.gz[m]?=some (some x)):(σ.hU x).isSome=true:=h.gz _ (tA b)
def FF (f b pf c:Nat) (σ:Ab) (d:pG (Nat×Nat)):Prop:=match d with
 | .ok lm σ'=>Fx σ σ'/\wt σ'<=wt σ+c/\σ'.fresh=σ.fresh/\∃r,RJ r σ' f b (pf+1) pf lm.1 lm.2
 | .stop _ _=>False
 | .stuck=>False
def FF.pre {d c' : Nat} {σ1 : Ab} {b : pG (Nat×Nat)} (h:FF f d pf c σ1 b) (g:Fx σ σ1) (q:wt σ1+c<=wt σ+c') (l:σ1.fresh=σ.fresh):FF f d pf c' σ b:=by
 cases b with
 |ok lm σ'=>
  have⟨h1,h2,h3,h4⟩:=h;exact⟨g.trans h1,by omega,h3.trans l,h4⟩
 |stop e p=>exact h
 |stuck=>exact h
def UE (f g n c last d e:Nat):M (Nat×Nat):=λσ=>if some e∉σ.act then (ku (some e)>>=λ_=>mn f g n (c+1) last d) σ else (kR e>>=λb=>zE (some e) (some b)>>=λ_=>rj (some e) (some b)>>=λ_=>mr last>>=λ_=>jy b>>=λpl=>mO pl last>>=λ_=>mn f g n (c+1) b (if last=g then b else d)) σ
def Ob (f d n c last b:Nat) (σ:Ab):mn f d (n+1) c last b σ=(Gk n>>=λe=>if e=f then pure (last,b)else (if 3 < c+1 then kK (some e)else pure ())>>=λ_=>UE f d n c last b e) σ:=rfl
def xU (o a:kQ) (n:Nat):Nat:=((o.take n).filter λx=>decide (x∈a)).length
def LG {b : kQ} (g:n<=m) (d:∀x∈o.take n,x∈b->x∈a):xU o b n<=xU o a m:=by
 unfold xU;have u:((o.take n).filter λx=>decide (x∈b)).length<=((o.take n).filter λx=>decide (x∈a)).length:=by
  rw[<-List.countP_eq_length_filter,<-List.countP_eq_length_filter];refine List.countP_mono_left ?_;intro x q h;simp at h|-;exact d x q h
 have v:((o.take n).filter λx=>decide (x∈a)).length<=((o.take m).filter λx=>decide (x∈a)).length:=by
  have l:(o.take n).Sublist (o.take m):=by
   have e:o.take n=(o.take m).take n:=by rw[MG,RE g]
   rw[e];exact Fu _ _
  exact(l.filter _).length_le
 omega
theorem Vp (h:o[n]?=some x) (b:x∈a):xU o a (n+1)=xU o a n+1:=by
 unfold xU;have e:o.take (n+1)=o.take n++[x]:=by rw[Ks,h];rfl
 grind
theorem Me:∀{xs ys:kQ},xs.Nodup->(∀x∈xs,x∈ys)->xs.length<=ys.length
 |[],_,_,_=>iO _
 |x::xs,ys,hn,hs=>by
  have g:=hs x (pP ..);have⟨h1,h2⟩:=List.nodup_cons.1 hn;have d:=Me (xs:=xs) (ys:=ys.erase x) h2 (λy b=>(TL (by grind)).2 (hs y (oW _ b)))
  grind
def aar (b:o.Nodup) (n:Nat):xU o a n<=a.length:=by
 unfold xU;refine Me ((b.sublist (Fu _ _)).sublist (List.filter_sublist)) ?_;simp
theorem Ct (f D pf:Nat) (s:gy) (hs:s≠fX):∀(n c last C:Nat) {r:Nat->Nat} {σ:Ab} {K:Nat},RJ r σ f D n pf last C->iU σ f s->xU σ.gz σ.act n<=K->wt σ+K < 999990->FF f D pf K σ (mn f D n c last C σ)
 |0,c,last,C,r,σ,K,h,_,_,_=>absurd h.pfn (by omega)
 |n+1,c,last,C,r,σ,K,h,hfn,hK,hw=>by
  have aq:n < σ.gz.length:=by have:=h.nle;omega
  have⟨e,ee,hoe,hel⟩:=h.inv.at aq;have ai:Gk n σ= .ok e σ:=by
   unfold Gk;rw[qR,xv,hoe];rfl
  rw[Ob,M.gx,ai];dsimp only
  by_cases N:e=f
  .rw[gF N];have U:n=pf:=by
    have X:=vg hoe h.inv.nodup;have h2:=vg h.fat h.inv.nodup;rw[N]at X;omega
   subst U;exact⟨Fx.refl _,by omega,rfl,r,h⟩
  .rw[gQ N];have U:n≠pf:=by
    intro U;rw[U,h.fat]at hoe;exact N (jL (jL hoe)).symm
   have V:pf < n:=by have:=h.pfn;omega
   have hA:∃d,(if 3 < c+1 then kK (some e)else pure ()) σ= .ok () d/\jx r d/\Fx σ d/\Vg σ σ.gz d.act d/\some f∈d.act/\∀x,x∈d.act->x∈σ.act:=by
    by_cases hc:3 < c+1
    .rw[gF hc];unfold kK;rw[gF (by grind[Ab.gW])];have⟨g1,g2⟩:=h.inv.Cx (ys:=σ.act.erase (some e)) (λi P=>h.inv.act i (AO P)) (jP (List.length_erase_le) h.inv.zM);exact⟨_,rfl,g1,g2,⟨rfl,rfl,rfl,rfl⟩,(TL (λe0=>N (jL e0).symm)).2 h.fact,λx u=>AO u⟩
    .rw[gQ hc];exact⟨σ,rfl,h.inv,Fx.refl _,⟨rfl,rfl,rfl,rfl⟩,h.fact,λ_ h=>h⟩
   have⟨d,q1,i1,f1,l1,a1,sub1⟩:=hA;rw[M.gx,q1];dsimp only;unfold UE;have Q:=l1.gz;have a0:∀i,d.hU i=σ.hU i:=λi=>by unfold Ab.hU;rw[l1.nodes]
   have af:∀i,d.nm i=σ.nm i:=λi=>by unfold Ab.nm;rw[a0]
   have w1:wt d=wt σ:=jm l1.nodes;have J:d.gz[n]?=some (some e):=by rw[Q];exact hoe
   have I:=i1.nodup;have aj:d.gz.head?≠some (some e):=by
    intro e0;rw[C6]at e0;have X:=vg e0 I;have h2:=vg J I;omega
   split
   .
    rename_i ad;rw[M.gx];have hq:ku (some e) d= .ok () {d with gz:=d.gz.erase (some e)}:=by
     unfold ku;rw[gF (by grind[Ab.gW])]
    rw[hq];dsimp only;have⟨g1,g2⟩:=i1.sub (ys:=d.gz.erase (some e)) List.erase_sublist (Cd aj);have he:d.gz.erase (some e)=d.gz.take n++d.gz.drop (n+1):=Yu J I;have ao:(d.gz.take n).length=n:=by rw[List.length_take];rw[Q];omega
    have ab:∀m,m < n->(d.gz.erase (some e))[m]?=σ.gz[m]?:=by
     intro m q;rw[he,U8 (by omega),BN,gF q,Q]
    have al:∀m,n<=m->(d.gz.erase (some e))[m]?=σ.gz[m+1]?:=by
     intro m q;rw[he,List.getElem?_append_right (by omega),ao,U1,Q]
     congr 1;omega
    refine FF.pre (Ct f D pf s hs n (c+1) last C (r:=r) (K:=K) ⟨g1,?_,?_,?_,V,?_,?_,?_,?_,a1⟩ ?_ ?_ ?_) (f1.trans g2) ?_ l1.fresh
    .exact RJ.isSome (f1.trans g2) h.lst
    .intro m x q u;exact h.low m x (by omega) (by grind)
    .show(d.gz.erase (some e))[pf]?=_;rw[ab pf V];exact h.fat
    .show some D∈(d.gz.erase (some e)).drop n;rw[he,List.drop_append_of_le_length (by omega),Gw (by omega),ru,Q];exact h.bat
    .grind
    .exact RJ.isSome (f1.trans g2) h.mrk
    .intro m x q u;have W:(d.gz.erase (some e))[m]?=some (some x):=u;show kC (d.nm x) _=_;rw[af];rcases rC m n with F|F
     .rw[ab m F]at W;exact h.nt m x q W
     .rw[al m F]at W;exact h.nt (m+1) x (by omega) W
    .exact(f1.trans g2).nm _ _ hfn
    .refine jP ?_ hK;show xU (d.gz.erase (some e)) d.act n<=_;have e9:xU (d.gz.erase (some e)) d.act n=xU σ.gz d.act n:=by
      unfold xU;rw[he,Kq (by omega),AN (by omega),Q]
     rw[e9];exact LG (lf _) (λx _ u=>sub1 x u)
    all_goals grind[wt]
   .
    rename_i ad;have a8:some e∈d.act:=by simpa using ad
    have⟨e1,he1,hfm⟩:=i1.act e a8;rw[M.gx,zZ he1 hfm];dsimp only;obtain⟨j,hj⟩:∃j,j=d.nodes.length:=⟨_,rfl⟩;have⟨i2,f2⟩:=i1.new e1.name e1.gU d.fresh (r e);obtain⟨g,v⟩:∃g,g=d.pn (.el {name:=e1.name,gU:=e1.gU,je:=none,kids:=[]}) d.fresh:=⟨_,rfl⟩;rw[<-v]at i2 f2|-;have aa:g.hU j=some {name:=e1.name,gU:=e1.gU,je:=none,kids:=[]}:=by rw[v,hj];exact Ab.um
    rw[<-hj]at i2|-;have w2:wt g=wt d:=by rw[v];exact Ek _ _ _
    have o2:g.gz=d.gz:=by rw[v];rfl
    have a2:g.act=d.act:=by rw[v];rfl
    have ae:∀i,(d.hU i).isSome=true->i≠j:=by
     intro i P e0;have⟨ei,hei⟩:=Option.isSome_iff_exists.1 P;have:=Ab.ik hei;omega
    have aw:∀i,(d.hU i).isSome=true->wW r j (r e) i=r i:=λi P=>zq (ae i P);have a9:(d.hU e).isSome=true:=by rw[he1];rfl
    have S:iU g j e1.name:=⟨_,aa,rfl⟩;have am:g.gz.idxOf (some e)=n:=by rw[o2];exact vg J I
    have ap:some e∈g.gz:=by rw[o2];exact tA J
    have ax:pM g.gz (some e) (some j)=g.gz.set n (some j):=by unfold pM;rw[gF ap,am]
    have ar:zE (some e) (some j) g= .ok () {g with gz:=g.gz.set n (some j)}:=by
     unfold zE;rw[gF (by rw[rS];exact⟨RJ.isSome f2 a9,lW S⟩),ax]
    have G:∀m,(g.gz.set n (some j))[m]?=if m=n then some (some j)else σ.gz[m]?:=by
     intro m;rw[List.getElem?_set]
     by_cases q:n=m
     .grind
     .grind
    have aE:1<=n:=by omega
    have⟨i3,f3⟩:=i2.ZE (ys:=g.gz.set n (some j)) (by
      intro x u;rcases List.mem_or_eq_of_mem_set u with u|rfl
      .exact i2.gz x u
      .exact lW S) (by
      rw[List.pairwise_iff_getElem];intro a b ha hb ah;have a4:a < σ.gz.length:=by simpa [o2,Q]using ha
      have a7:b < σ.gz.length:=by simpa [o2,Q]using hb
      have H:∀m (q:m < (g.gz.set n (some j)).length) (T:m < σ.gz.length),rk (wW r j (r e)) ((g.gz.set n (some j))[m])=rk r (σ.gz[m]):=by
       intro m q T;have X:=G m;rw[ry q]at X
       by_cases F:m=n
       .subst F;rw[gF rfl]at X;rw[jL X];have h2:σ.gz[m]=some e:=by rw[ry T]at hoe;exact jL hoe
        rw[h2]
        grind[rk,wW]
       .rw[gQ F,ry T]at X;rw[jL X];have⟨y,ey,hy,Y⟩:=kL (h.inv.gz _ (uR T))
        grind[rk]
      rw[H a ha a4,H b hb a7];exact List.pairwise_iff_getElem.1 h.inv.tc.gz a b a4 a7 ah) (by
      rw[C6,C6,G 0,gQ (by omega),o2,Q]) (by
      rw[List.length_set];exact i2.wV)
    rw[M.gx,ar];dsimp only;obtain⟨l,A⟩:∃l,l=({g with gz:=g.gz.set n (some j)}:Ab):=⟨_,rfl⟩;rw[<-A]at i3 f3|-;have au:rj (some e) (some j) l= .ok () {l with act:=pM l.act (some e) (some j)}:=by
     unfold rj;rw[gF (by rw[rS];exact⟨RJ.isSome f3 (RJ.isSome f2 a9),lW (f3.nm _ _ S)⟩)]
    have⟨i4,f4⟩:=i3.Cx (ys:=pM l.act (some e) (some j)) (λi P=>by
      rcases JG P with P|P
      .exact i3.act i P
      grind[Ab.hU]) (by rw[JD];exact i3.zM)
    rw[M.gx,au];dsimp only;obtain⟨Z,B⟩:∃Z,Z=({l with act:=pM l.act (some e) (some j)}:Ab):=⟨_,rfl⟩;rw[<-B]at i4 f4|-;have a3:=((f1.trans f2).trans f3).trans f4;have ac:=RJ.isSome a3 h.lst;have⟨elast,hlast⟩:=Option.isSome_iff_exists.1 ac;have⟨σ5,q5,i5,f5,w5,o5,a5,r5,n5,e5,he5,hp5,_⟩:=i4.mr hlast;rw[M.gx,q5];dsimp only;have⟨ej5,hj5,hjn5⟩:=f5.nm _ _ (f4.nm _ _ (f3.nm _ _ S));have av:jy j σ5= .ok (j,ej5.kids.length) σ5:=by unfold jy;rw[hj5]
    rw[M.gx,av];dsimp only;have aD:r e < r last:=h.low n e (by omega) hoe;have ay:(d.hU last).isSome=true:=RJ.isSome f1 h.lst;have az:wt σ5<=wt σ:=by
     have e4:wt Z=wt l:=by rw[B];rfl
     have e3:wt l=wt g:=by rw[A];rfl
     omega
    have⟨σ6,q6,i6,f6,w6,o6,a6,r6,n6,g6,_⟩:=i5.put (pl:=(j,ej5.kids.length)) ⟨ej5,hj5,ig _⟩ he5 hp5 (by
     grind[wW]) (by omega)
    rw[M.gx,q6];dsimp only;have R:=(a3.trans f5).trans f6;have O:σ6.gz=g.gz.set n (some j):=by rw[o6,o5,B];show l.gz=_;rw[A]
    have j6:iU σ6 j e1.name:=f6.nm _ _ ⟨ej5,hj5,hjn5⟩;have ag:σ6.act=pM d.act (some e) (some j):=by
     rw[a6,a5,B];show pM l.act (some e) (some j)=_;rw[A];show pM g.act (some e) (some j)=_;rw[a2]
    have aC:xU σ.gz σ.act (n+1)=xU σ.gz σ.act n+1:=Vp hoe (sub1 _ a8);have aB:xU σ6.gz σ6.act n<=xU σ.gz σ.act n:=by
     have e9:xU σ6.gz σ6.act n=xU σ.gz σ6.act n:=by
      unfold xU;rw[O,List.take_set_of_le (ig _),o2,Q]
     rw[e9];refine LG (ig _) ?_;intro y hy q;rw[ag]at q;rcases JG q with q|q
     .grind
     .exfalso;have Y:=List.mem_of_mem_take hy;rw[q]at Y;have:=h.inv.EW Y;have aA:d.nodes.length=σ.nodes.length:=by rw[l1.nodes]
      omega
    refine FF.pre (Ct f D pf s hs n (c+1) j (if last=D then j else C) (r:=wW r j (r e)) (K:=K - 1) ⟨i6,lW j6,?_,?_,V,?_,?_,?_,?_,?_⟩ (R.nm _ _ hfn) (by omega) (by omega)) R (by omega) ?_
    .intro m x q u;rw[O,G m,gQ (by omega)]at u;rw[yz,aw x (by rw[a0];exact RJ.od h.inv u)];exact h.inv.vM u hoe q
    .rw[O,G pf,gQ (by omega)];exact h.fat
    .rw[O];have q:some D∈σ.gz.drop (n+1):=h.bat;have⟨k,hk⟩:=Fv q;rw[U1]at hk;refine tA (i:=k+1) ?_
     grind
    .grind
    .by_cases an:last=D
     .grind
     .rw[gQ an];exact RJ.isSome R h.mrk
    .intro m x q u;rw[O,G m]at u
     by_cases F:m=n
     .rw[gF F]at u;cases u;rw[jx.Qj j6];have h3:=h.nt n e V hoe
      rwa [<-af,show d.nm e=e1.name from jx.Qj ⟨e1,he1,rfl⟩]at h3
     .rw[gQ F]at u;rw[R.acN (RJ.od h.inv u)];exact h.nt m x q u
    .rw[a6,a5,B];show some f∈pM l.act (some e) (some j);have ak:some f∈l.act:=by rw[A];show some f∈g.act;rw[a2];exact a1
     unfold pM;split
     .have⟨k,hk⟩:=Fv ak;refine tA (i:=k) ?_
      grind
     omega
    .rw[r6,r5,B];show l.fresh=_;rw[A];show g.fresh=_;rw[v];exact l1.fresh
theorem jx.ae6 (h:jx r σ):jx (λi=>2*r i) σ:=by
 refine {h with tc:=⟨λi e p l q=>?_,h.tc.gz.imp_of_mem ?_,λd x g b=>?_⟩}
 .have:=h.tc.je i e p l q;omega
 .intro x y b v u;obtain⟨i,_,rfl,_⟩:=kL (h.gz x b);obtain⟨j,_,rfl,_⟩:=kL (h.gz y v)
  grind[rk]
 .have:=h.tc.hd d x g b;omega
theorem RX (h:σ.gW x=true):kK x σ= .ok () {σ with act:=σ.act.erase x}:=by
 grind[kK]
theorem Jo (h:σ.gW x=true):ku x σ= .ok () {σ with gz:=σ.gz.erase x}:=by
 grind[ku]
theorem BE (xs:kQ) (x y:jg):(jb xs x y).length<=xs.length+1:=by
 grind[jb]
theorem BG (h:z∈jb xs x y):z∈xs\/z=y:=by
 unfold jb at h
 grind
theorem Lc (h:z∈xs):z∈jb xs x y:=by
 unfold jb;split
 .have b:z∈xs.take (xs.idxOf x+1)++xs.drop (xs.idxOf x+1):=by rw[Gy];exact h
  grind
 omega
theorem jx.OW (h:jx r σ) (b:σ.gz[pf]?=some (some f)) (l:1<=pf):∃a,ahead f σ= .ok a σ/\σ.gz[pf - 1]?=some (some a):=by
 have⟨a,ea,ha,_⟩:=h.at (n:=pf - 1) (by grind);refine⟨a,?_,ha⟩;unfold ahead;have d:=vg b h.nodup;have g:posOf σ.gz (some f)=(pf:Int):=by unfold posOf;rw[d,gF (Aj b)]
 rw[g,show(pf:Int) - 1=((pf - 1:Nat):Int) by omega,qR,xv,ha];rfl
theorem Lh (h:jx r σ) {a : Nat} (l:σ.gz[pf]?=some (some f)) (G:1<=pf) (u:σ.gz[pf - 1]?=some (some a)) (B:kC (σ.nm f) fZ=false) (H:∀m x,pf < m->σ.gz[m]?=some (some x)->kC (σ.nm x) fZ=false):∃pl,placeFor a σ= .ok pl σ/\Bi σ pl/\r pl.1 < r f:=by
 have b:some a∈σ.gz:=tA u;have A:r a < r f:=h.vM u l (by omega);have⟨a',ea,e1,hea⟩:=kL (h.gz _ b);cases e1;unfold placeFor;split
 .have⟨pl,h1,h2,_,d⟩:=Ai h (List.ne_nil_of_mem b);refine⟨pl,h1,h2,?_⟩;rcases d with⟨i,C,F,_,D⟩|d
  .have⟨k,hk⟩:=Fv C;have q:k < pf:=by
    rcases Nat.lt_trichotomy k pf with g|g|g
    .exact g
    .grind
    .grind
   have:=h.vM hk l q;omega
  .have v:σ.gz[0]?=some (some pl.1):=by
    rw[show(0:Int)=((0:Nat):Int)from rfl,qR,xv]at d;cases hx:σ.gz[0]? with
    |none=>grind
    |some y=>grind
   exact h.vM v l (by omega)
 .unfold jy;rw[hea]
  grind[Bi]
def Qe (f d:Nat) (σ:Ab):ux f d σ=(xE f d>>=λg=>mr g.1>>=λ_=>ahead f>>=λa=>placeFor a>>=λpl=>mO pl g.1>>=λ_=>kR f>>=λb=>handOver d b>>=λ_=>jy d>>=λpl=>mO pl b>>=λ_=>qj (some g.2) (some b)>>=λ_=>kK (some f)>>=λ_=>ku (some f)>>=λ_=>qx (some d) (some b)>>=λ_=>(pure ():M Unit)) σ:=rfl
theorem Qf (h:mM σ) {b Y : Nat} (hs:rn s=true) (D:iU σ f s) (aq:some f∈σ.act) (hf:σ.gz[pf]?=some (some f)) (hb:σ.gz[Y]?=some (some b)) (ax:pf < Y) (nt:∀m x,pf < m->σ.gz[m]?=some (some x)->kC (σ.nm x) fZ=false) (hw:wt σ < 999900):jH 36 σ (ux f b σ) (λ_ σ'=>σ'.fresh=σ.fresh):=by
 have⟨r,h⟩:=h;have T:s≠fX:=DC hs;have aG:σ.gz.length<=64:=jP h.wV h.OI;have ag:=Aj hb;have af:1<=pf:=by
  rcases C8 pf with h0|h0
  .exfalso;apply h.DY D T;rw[C6,<-h0];exact hf
  .exact h0
 have ao:=RJ.od h hb;rw[Qe,M.gx];have az:xE f b σ=mn f b Y 0 b f σ:=by
  unfold xE;have C:=vg hb h.nodup;have X:posOf σ.gz (some b)=(Y:Int):=by unfold posOf;rw[C,gF ag]
  rw[X];rfl
 have H:=Ct f b pf s T Y 0 b f (r:=r) (σ:=σ) ⟨h,ao,λm x hm q=>h.vM q hb hm,hf,ax,by
  refine tA (i:=0) ?_
  grind,by omega,lW D,nt,aq⟩ D (K:=32) (jP (aar h.nodup _) (jP h.zM h.RS)) (by omega)
 rw[az];revert H;cases mn f b Y 0 b f σ with
 |stop e p=>simp[FF]
 |stuck=>simp[FF]
 |ok lm σ1=>
  rintro⟨f1,w1,aI,F,J⟩;dsimp only;have⟨last,mark⟩:=lm;dsimp only at J|-;have⟨el,hel⟩:=Option.isSome_iff_exists.1 J.lst;have⟨σ2,q2,i2,f2,w2,o2,a2,r2,n2,e2,he2,hp2,_⟩:=J.inv.mr hel;rw[M.gx,q2];dsimp only;have ab:σ2.gz[pf]?=some (some f):=by rw[o2];exact J.fat
  have⟨a,qa,ha⟩:=i2.OW ab af;rw[M.gx,qa];dsimp only;have a0:iU σ2 f s:=f2.nm _ _ (f1.nm _ _ D);have au:kC (σ2.nm f) fZ=false:=by
   rw[jx.Qj a0];cases q:kC s fZ with
   |false=>rfl
   |true=>
    have:=tL q;subst this;simp[rn,ij,kC,sJ]at hs
  have aC:∀m x,pf < m->σ2.gz[m]?=some (some x)->kC (σ2.nm x) fZ=false:=by
   intro m x hm q;rw[o2]at q;rw[f2.acN (RJ.od J.inv q)];exact J.nt m x hm q
  have⟨pl,q3,p3,k3⟩:=Lh i2 ab af ha au aC;rw[M.gx,q3];dsimp only;have aL:F f < F last:=J.low pf f (by omega) J.fat;have⟨σ3,q4,i3,f3,w3,o3,a3,r3,n3,_,_⟩:=i2.put p3 he2 hp2 (by omega) (by omega);rw[M.gx,q4];dsimp only;have a1:iU σ3 f s:=f3.nm _ _ a0;have⟨ef,hef,hefn⟩:=id a1;rw[M.gx,zZ hef (by grind)];dsimp only;have am:some b∈σ3.gz:=by
   rw[o3,o2];exact Ko J.bat
  have⟨blk',eb,e1,heb⟩:=kL (i3.gz _ am);cases e1;obtain⟨j,hj⟩:∃j,j=σ3.nodes.length:=⟨_,rfl⟩;have⟨i4,f4⟩:=i3.ae6.new ef.name ef.gU σ3.fresh (2*F b+1);obtain⟨u,l⟩:∃u,u=σ3.pn (.el {name:=ef.name,gU:=ef.gU,je:=none,kids:=[]}) σ3.fresh:=⟨_,rfl⟩;rw[<-l]at i4 f4|-;rw[<-hj]at i4|-;obtain⟨R,hR⟩:∃R,R=wW (λi=>2*F i) j (2*F b+1):=⟨_,rfl⟩;rw[<-hR]at i4;have N:u.hU j=some {name:=ef.name,gU:=ef.gU,je:=none,kids:=[]}:=by rw[l,hj];exact Ab.um
  have ad:∀i,(σ3.hU i).isSome=true->i≠j:=by
   intro i S e0;have⟨ei,aa⟩:=Option.isSome_iff_exists.1 S;have:=Ab.ik aa;omega
  have G:∀i,(σ3.hU i).isSome=true->R i=2*F i:=λi S=>by rw[hR];grind[wW]
  have Rj:R j=2*F b+1:=by rw[hR];exact yz _ _ _
  have I:(σ3.hU b).isSome=true:=by rw[heb];rfl
  have an:b≠j:=ad b I;have a9:u.hU b=some eb:=by rw[l];show(σ3.add _).hU b=_;rw[Ab.tI (Ab.ik heb)];exact heb
  have w4:wt u=wt σ3:=by rw[l];exact Ek _ _ _
  have o4:u.gz=σ3.gz:=by rw[l];rfl
  have a4:u.act=σ3.act:=by rw[l];rfl
  have r4:u.fresh=σ3.fresh:=by rw[l];rfl
  have⟨σ5,q5,i5,f5,w5,o5,a5,r5,n5,b5,d5⟩:=i4.hand a9 N an rfl rfl (by
   intro k hk;have⟨ek,C,X⟩:=i3.nL.dn b eb k heb hk;have h3:=i3.tc.je k ek b C X
   grind) (by omega)
  rw[M.gx,q5];dsimp only;have q6:jy b σ5= .ok (b,0) σ5:=by unfold jy;rw[b5];rfl
  rw[M.gx,q6];dsimp only;have⟨σ6,q7,i6,f6,w6,o6,a6,r6,n6,_,_⟩:=i5.put (pl:=(b,0)) ⟨_,b5,iO _⟩ d5 rfl (by
   grind) (by omega)
  rw[M.gx,q7];dsimp only;have F6:=((((f1.trans f2).trans f3).trans f4).trans f5).trans f6;have V:iU σ6 j ef.name:=f6.nm _ _ (f5.nm _ _ ⟨_,N,rfl⟩);have a7:iU σ6 f s:=f6.nm _ _ (f5.nm _ _ (f4.nm _ _ a1));have aB:(σ6.hU mark).isSome=true:=RJ.isSome (((((f2.trans f3).trans f4).trans f5).trans f6)) J.mrk;have aj:σ6.act=σ1.act:=by rw[a6,a5,a4,a3,a2]
  have W:σ6.gz=σ1.gz:=by rw[o6,o5,o4,o3,o2]
  have aH:σ6.act.length<=32:=jP i6.zM i6.RS;have aN:σ6.gz.length<=64:=jP i6.wV i6.OI;have ak:some f∈σ6.act:=by rw[aj];exact J.fact
  have q8:qj (some mark) (some j) σ6= .ok () {σ6 with act:=jb σ6.act (some mark) (some j)}:=by
   unfold qj;rw[gF];rw[rS,rS];exact⟨⟨aB,lW V⟩,by grind⟩
  rw[M.gx,q8];dsimp only;have q9:kK (some f) {σ6 with act:=jb σ6.act (some mark) (some j)}= .ok () {σ6 with act:=(jb σ6.act (some mark) (some j)).erase (some f)}:=RX (σ:={σ6 with act:=jb σ6.act (some mark) (some j)}) (lW a7);rw[M.gx,q9];dsimp only;have⟨i7,f7⟩:=i6.Cx (ys:=(jb σ6.act (some mark) (some j)).erase (some f)) (λi S=>by
   rcases BG (AO S)with S|S
   .exact i6.act i S
   grind) (by
   have C:=BE σ6.act (some mark) (some j);have X:=List.length_erase_of_mem (Lc (x:=some mark) (y:=some j) ak);have h3:=i6.zM;omega)
  obtain⟨g,A⟩:∃g,g=({σ6 with act:=(jb σ6.act (some mark) (some j)).erase (some f)}:Ab):=⟨_,rfl⟩;rw[<-A]at i7 f7|-;have o7:g.gz=σ6.gz:=by rw[A]
  have a8:iU g f s:=f7.nm _ _ a7;have aM:iU g j ef.name:=f7.nm _ _ V;have ac:g.gz[pf]?=some (some f):=by rw[o7,W];exact J.fat
  have ae:=i7.DY a8 T;have aD:ku (some f) g= .ok () {g with gz:=g.gz.erase (some f)}:=Jo (lW a8);rw[M.gx,aD];dsimp only;have⟨i8,f8⟩:=i7.sub (ys:=g.gz.erase (some f)) List.erase_sublist (Cd ae);obtain⟨d,B⟩:∃d,d=({g with gz:=g.gz.erase (some f)}:Ab):=⟨_,rfl⟩;rw[<-B]at i8 f8|-;have o8:d.gz=g.gz.erase (some f):=by rw[B]
  have ar:f≠b:=by
   rintro rfl;have C:=vg hf h.nodup;have X:=vg hb h.nodup;omega
  have Q:some b∈d.gz:=by
   rw[o8];refine(TL (λe0=>ar (jL e0).symm)).2 ?_;rw[o7,W];exact Ko J.bat
  have⟨kb,hkb⟩:=Fv Q;have aK:=Aj hkb;have av:=vg hkb i8.nodup;have Z:=f7.trans f8;have ai:iU d j ef.name:=Z.nm _ _ V;have aw:d.gz.length+1=g.gz.length:=by
   rw[o8,List.length_erase_of_mem (tA ac)];have:=Aj ac;omega
  have O:jb d.gz (some b) (some j)=d.gz.take (kb+1)++[some j]++d.gz.drop (kb+1):=by
   unfold jb;rw[gF Q,av]
  have aE:qx (some b) (some j) d= .ok () {d with gz:=jb d.gz (some b) (some j)}:=by
   unfold qx;rw[gF];rw[rS,rS];refine⟨⟨?_,lW ai⟩,?_⟩
   .exact i8.gz _ Q
   .grind
  rw[M.gx,aE];dsimp only;have v:∀x∈d.gz,∃i,x=some i/\R i=2*F i:=by
   intro x q;have aA:x∈σ3.gz:=by
    rw[o8]at q;have:=AO q;rw[o7,W]at this;rw[o3,o2];exact this
   obtain⟨i,ei,rfl,aa⟩:=kL (i3.gz x aA);exact⟨i,rfl,G i (by grind)⟩
  have ay:=i8.tc.gz;have aF:R b=2*F b:=G b I;have⟨i9,f9⟩:=i8.ZE (ys:=jb d.gz (some b) (some j)) (by
   intro x q;rcases BG q with q|rfl
   .exact i8.gz x q
   .exact lW ai) (by
   rw[O,xq];have ah:d.gz=d.gz.take (kb+1)++d.gz.drop (kb+1):=(Gy _ _).symm;have P:=ay;rw[ah]at P;have⟨p1,p2,p3⟩:=List.pairwise_append.1 P;refine List.pairwise_append.2 ⟨p1,List.pairwise_cons.2 ⟨?_,p2⟩,?_⟩
   .
    intro y U;obtain⟨i,rfl,al⟩:=v y (Ko U);have ap:some b∈d.gz.take (kb+1):=by
     refine tA (i:=kb) ?_;rw[BN,gF (by omega)];exact hkb
    have C:R b < R i:=p3 _ ap _ U
    grind[rk]
   .intro x q y U;rcases List.mem_append.1 U with U|U
    .rw[List.mem_singleton.1 U];obtain⟨i,rfl,al⟩:=v x (List.mem_of_mem_take q);show R i < R j;have⟨k,hk⟩:=Fv q;rw[BN]at hk;split at hk
     .rename_i aJ;rcases rC k kb with C|C
      .have:=i8.vM hk hkb C;omega
      grind
     grind
    grind) (by
   rw[O,xq];cases ho8:d.gz with
   |nil=>grind
   |cons x0 xr=>rfl) (by
   have C:=BE d.gz (some b) (some j);have X:=i7.wV
   grind)
  have wf:wt ({d with gz:=jb d.gz (some b) (some j)}:Ab)=wt σ6:=by
   show wt d=_;rw[B];show wt g=_;rw[A];rfl
  refine⟨⟨_,i9⟩,(F6.trans Z).trans f9,by omega,?_⟩
  grind
theorem FL (σ:Ab) (f b:Nat):∀(ys:kQ) (d:jg),σ.uZ f ys d=some b->d=some b\/∃k:Nat,ys[k]?=some (some b)/\∀g:Nat,g<=k->ys[g]?≠some (some f)
 |[],d,h=> .inl h
 |x::ys,d,h=>by
  unfold Ab.uZ at h
  by_cases v:x=some f
  .grind
  .rw[gQ v]at h;rcases FL σ f b ys _ h with l|⟨k,l,A⟩
   .by_cases u:lc (σ.qU x)=true
    .rw[gF u]at l;refine .inr ⟨0,by grind,λg q=>?_⟩
     grind
    grind
   .refine .inr ⟨k+1,l,λg q=>?_⟩
    grind
theorem Bz (σ:Ab) (f:Nat):∀(ys:kQ),σ.nX f ys=true->∀(k:Nat) (x:jg),ys[k]?=some x->(∀b:Nat,b<=k->ys[b]?≠some (some f))->iP (σ.qU x)=false
 |[],h,k,x,hx,_=>by cases hx
 |y::ys,h,k,x,hx,hno=>by
  unfold Ab.nX at h;have l:y≠some f:=λe=>hno 0 (iO _) (by grind);rw[gQ l]at h
  by_cases d:iP (σ.qU y)=true
  .grind
  .rw[gQ d]at h;cases k with
   |zero=>
    grind
   |succ k=>exact Bz σ f ys h k x hx (λb g=>hno (b+1) (by omega))
theorem xC (σ:Ab) (s:gy):∀{ys:kQ} {f:Nat},σ.qv s ys=some f->some f∈ys/\kC (σ.nm f) s=true
 |[],f,h=>by cases h
 |none::_,f,h=>by cases h
 |some i::ys,f,h=>by
  unfold Ab.qv at h
  by_cases b:kC (σ.nm i) s=true
  .grind
  .rw[gQ b]at h;have⟨h1,h2⟩:=xC σ s h
   grind
def Ri:iP fZ=true:=by
 kernel_rfl
def yf {x : gy}:ij [s] x=kC x s:=by simp[ij]
def Py (h:rn s=true):ij [s] fX=false:=by
 rw[yf];cases hx:kC fX s with
 |false=>rfl
 |true=>exact absurd (tL hx).symm (DC h)
def Dz (h:mM σ) (b:s≠fX):jH 0 σ (uJ s σ) (λ_ σ'=>uF σ σ'):=by
 refine jH.iH ((vY h (ij [s]) lc ?_).mono (ig _) (λ_ _ _ _ h=>h.1));rw[yf];cases hx:kC fX s with
 |false=>rfl
 |true=>exact absurd (tL hx).symm b
theorem Ky (h:mM σ) (J:rn s=true) (Y:wt σ < 999900):jH 36 σ (nB s σ) (λ_ σ'=>σ'.fresh=σ.fresh):=by
 unfold nB;cases hl:σ.pw s with
 |none=>
  dsimp only;refine jH.bind ((Dz h (DC J)).mono (iO 36) (λ_ _ _ _ h=>h)) (c2:=0) ?_ (by omega);rintro _ A v _ _ q;exact jH.ret v q.fresh
 |some f=>
  dsimp only;have⟨O,hn⟩:=xC σ s hl;have C:some f∈σ.act:=List.mem_reverse.1 O;have⟨r,hr⟩:=id h;have⟨ef,hef,_⟩:=hr.act f C;have l:iU σ f s:=by
   have g:=Sh hef
   rwa [tL hn]at g
  have I:(σ.hU f).isSome=true:=by rw[hef];rfl
  split
  .refine jH.bind ((yG h (x:=some f) I).mono (iO 36) (λ_ _ _ _ h=>h)) (c2:=0) ?_ (by omega);rintro _ A v _ _ q;exact jH.ret v q.fresh
  .rename_i X;have F:some f∈σ.gz:=by simpa using X
   split
   .exact⟨h,Fx.refl _,by omega,rfl⟩
   .rename_i K;have G:σ.nX f σ.gz.reverse=true:=by simpa [Ab.oI]using K
    cases hb:σ.ql f with
    |none=>
     dsimp only;refine jH.bind ((SU h l (DC J) F).mono (iO 36) (λ_ _ _ _ h=>h)) (c2:=0) ?_ (by omega);rintro _ A v S _ q1;refine jH.bind (yG v (x:=some f) (lW (S.nm _ _ l))) (c2:=0) ?_ (by omega);rintro _ a0 Z _ _ q2;exact jH.ret Z (q2.fresh.trans q1.fresh)
    |some b=>
     dsimp only;have⟨pf,hpf⟩:=Fv F;have P:=Aj hpf;have d:∀k,k < σ.gz.length->σ.gz.reverse[k]?=σ.gz[σ.gz.length - 1 - k]?:=λk D=>RK D;have Q:∀k,σ.gz.reverse[k]?=some (some f)->k=σ.gz.length - 1 - pf:=by
      intro k D;have u:k < σ.gz.length:=by simpa using (List.getElem?_eq_some_iff.1 D).1
      rw[d k u]at D;have g:=vg D hr.nodup;have T:=vg hpf hr.nodup;omega
     have U:σ.gz.reverse[σ.gz.length - 1 - pf]?=some (some f):=by
      rw[d _ (by omega),show σ.gz.length - 1 - (σ.gz.length - 1 - pf)=pf by omega];exact hpf
     rcases FL σ f b σ.gz.reverse none hb with g|⟨k,g,T⟩
     .cases g
     .have u:k < σ.gz.length:=by simpa using (List.getElem?_eq_some_iff.1 g).1
      have V:k < σ.gz.length - 1 - pf:=by
       rcases rC k (σ.gz.length - 1 - pf)with N|N
       .exact N
       .grind
      rw[d k u]at g;refine jH.bind ((Qf h J l C hpf g (by omega) ?_ Y).mono (ig _) (λ_ _ _ _ h=>h)) (c2:=0) ?_ (by omega)
      .intro m x O R;have W:=Aj R;have H:=Bz σ f σ.gz.reverse G (σ.gz.length - 1 - m) (some x) (by
        rw[d _ (by omega),show σ.gz.length - 1 - (σ.gz.length - 1 - m)=m by omega];exact R) (by
        grind)
       cases hq:kC (σ.nm x) fZ with
       |false=>rfl
       |true=>
        have e:=tL hq;have B:iP (σ.nm x)=false:=H;rw[e,Ri]at B;cases B
      .rintro _ A v _ _ q;exact jH.ret v q
theorem Hr (d:rn s=true):∀(k:Nat) {σ:Ab},mM σ->wt σ+36*k < 999900->jH (36*k) σ (sR s k σ) (λ_ σ'=>σ'.fresh=σ.fresh)
 |0,σ,h,_=>⟨h,Fx.refl _,ig _,rfl⟩
 |k+1,σ,h,hw=>by
  unfold sR;refine jH.bind (Ky h d (by omega)) (c2:=36*k) ?_ (by omega);rintro b q g u v l;cases b with
  |true=>
   refine(Hr d k g (by omega)).mono (ig _) ?_
   grind
  |false=>exact jH.ret g l _
def Et (h:mM σ) (d:σ.gz≠[]) (l:rn s=true) (A:wt σ < 999100):jH 288 σ (wZ s σ) (λ_ σ'=>σ'.fresh=σ.fresh):=by
 have⟨r,hr⟩:=id h;have⟨i,e,h1,h2,h3,h4⟩:=NI hr d;unfold wZ;rw[h1];dsimp only;split
 .rename_i g;rw[rS]at g;have b:σ.current (ij [s])=true:=by
   unfold Ab.current;rw[h1];show ij [s] (σ.nm i)=true;rw[yf];exact g.1
  have q:=xe h (ij [s]) (Py l) b;refine jH.bind ((ym h q).mono (iO 288) (λ_ _ _ _ h=>h)) (c2:=0) ?_ (by omega);rintro x v u _ _ ⟨rfl,_⟩;exact⟨u,Fx.refl _,ig _,rfl⟩
 .exact(Hr l 8 h (by omega)).mono (by omega) (λ_ _ _ _ h=>h)
def Rel.drewN (h:Rel E L σ w) (q:Nat):Rel E L σ (w.drewN q):=h.il ((Kept.refl _ _).drewN q)
def Fr.drewN {bs : Nat} (w:gv) (q:Nat):Fr bs w (w.drewN q):= .gX ((Kept.refl _ _).drewN q)
def kJ (w:gv) (k c p:Nat):Prop:=w.heap[k]?=some (gI #[gn c,gn p] 67)
abbrev qB (k:Nat):Ending:= .panicked [{v:= .iface 62 (gJ k),recovered:=false}]
abbrev Bp (E:Env):gO:=gJ E.bB
def On (h:Rel E L σ w) (c:Nat):
  Calls prog 252 #[Bp E,gn c] w λe w'=>∃k,e=qB k/\kJ w' k c σ.gP/\Fr E.bs w w':=by
 have l:=h.R7;have g:=h.lt;have d:=Fr.gX (bs:=E.bs) ((Kept.refl [] w).alloc (gI #[gn c,gn σ.gP] 67));have b:=fY w (gI #[gn c,gn σ.gP] 67);go_enter func252,ntmps252;go_wp2;exact⟨rfl,_,rfl,b,d⟩
def Rel.Wl (h:Rel E L σ w):An ⟨E.bB,188,none⟩ w=σ.gz.length:=by
 have⟨C,hL,_⟩:=h.yZ;rw[hL.An,BP]
def vK (xs:kQ) (y:jg):iB (xs++[y]) (((xs++[y]).length:Int) - 1)=y:=IM xs y
def Y2:iB ([]:kQ) ((([]:kQ).length:Int) - 1)=none:=rfl
theorem wE (xs:kQ):xs=[]\/∃ys y,xs=ys++[y]:=by
 rcases Z3 xs with h|⟨b,y,h⟩
 all_goals grind
theorem Rel.od (h:Rel E L σ w) (b:x∈σ.gz):∃i e,x=some i/\σ.hU i=some e:=by
 have:=h.wf.gz x b;cases x with
 |none=>cases this
 |some i=>
  have⟨e,he⟩:=Option.isSome_iff_exists.1 (show(σ.hU i).isSome=true from this)
  grind
def Rel.vi (h:Rel E L σ w) (b:σ.hU i=some e):w.cell? ⟨L.gP i,0,none⟩=some (gH (σ.nm i)):=by
 have:σ.nm i=e.name:=by unfold Ab.nm;rw[b]
 rw[this,fW (h.uH b).ir];rfl
def Ask.fr' {bm bs : Nat} {v : gO} {p : gy->Bool} (h:Ask bm v p w) (b:Fr bs w w'):Ask bm v p w':=h.fr (b.n bm)
def yM (h:Rel E L σ w) (v:gO) (p:gy->Bool) (u:Ask E.bm v p w):
  Calls prog 201 #[Bp E,v] w λe w'=>e=iq (.bool (σ.current p))/\w'=w:=by
 obtain⟨k,G,rfl,F,A⟩:=u.call;have d:=SV h;rcases wE σ.gz with g|⟨ys,y,g⟩
 .have b:σ.current p=false:=by unfold Ab.current Ab.last;rw[g];rfl
  rw[b];rw[g,Y2]at d;have l:=fU d;clear d;go_enter func201,ntmps201
  go_wp21
  refine l.mono ?_;rintro e w' ⟨rfl,rfl⟩;go_wp2;go_ret;simp
 .obtain⟨i,D,rfl,B⟩:=h.od (x:=y) (by rw[g];simp);have b:σ.current p=p (σ.nm i):=by unfold Ab.current Ab.last;rw[g,vK]
  rw[b];rw[g,vK]at d;have C:=h.vi B;have l:=fU (show Calls prog 160 #[jG E.bB 188] w (λe w'=>e=iq (gJ (L.gP i))/\w'=w)from d);have q:=A w (vT.refl _ _) (σ.nm i);generalize p (σ.nm i)=r at q|-;clear d;go_enter func201,ntmps201
  go_wp21
  refine l.mono ?_;rintro e w' ⟨rfl,rfl⟩
  go_wp21
  refine q.mono ?_;rintro e w' ⟨rfl,rfl⟩;go_wp2;go_ret;simp
def Zm (h:Rel E L σ w) (v:gO) (p:gy->Bool) (g:Ask E.bm v p w):
  Calls prog 222 #[Bp E,v] w λe w'=>e=p8/\To E L (σ.Jy p) w w':=by
 have b:=yM h v p g;have l:=Qn h;have q:=h.to (Fr.refl w);obtain⟨k,u,rfl,_,_⟩:=g.call;unfold Ab.Jy;cases hcur:σ.current p with
 |false=>
  rw[hcur]at b;go_enter func222,ntmps222
  go_wp21
  refine b.mono ?_;rintro e w' ⟨rfl,rfl⟩;go_wp2;go_end0;exact⟨rfl,q⟩
 |true=>
  rw[hcur]at b;go_enter func222,ntmps222
  go_wp21
  refine b.mono ?_;rintro e w' ⟨rfl,rfl⟩
  go_wp21
  refine l.mono ?_;rintro e w' ⟨rfl,d⟩;go_wp2;go_end0;exact⟨rfl,d⟩
structure ML (E:Env) (L:Loc) (σ:Ab) (w:gv) (ys:kQ) (wr:gv):Prop where
 ex:∃L1,L1.gP=L.gP/\Rel E L1 {σ with gz:=ys} wr/\Fr E.bs w wr
def ach (h:Rel E L σ w) (v:gO) (p:gy->Bool) (W:Ask E.bm v p w):
  Calls prog 275 #[Bp E,v] w λe w'=>e=p8/\To E L (σ.Fq p) w w':=by
 obtain⟨k,Z,rfl,Y,S⟩:=W.call;have R:Hid (ML E L σ w σ.gz w):=fU ⟨L,rfl,h,Fr.refl w⟩;go_enter func275,ntmps275;go_wp2
 go_loopw [] (λwr=>∃ys,σ.AJ p ys.reverse=σ.AJ p σ.gz.reverse/\ML E L σ w ys wr) (λwr=>An ⟨E.bB,188,none⟩ wr)
 case atStart=>exact⟨_,rfl,R⟩
 case round=>
  have⟨ys,hu,⟨L1,e1,hR,HFR⟩⟩:=hrel;have N:=fU e1;clear e1;have G:=fU hR.Wl;have q:=Zh hR;have C:=Qn hR;rcases wE ys with rfl|⟨b,y,rfl⟩
  .have F:Hid (To E L (σ.Fq p) w wr):=by
    refine⟨L1,N,?_,HFR⟩;have:(σ.AJ p σ.gz.reverse).reverse=[]:=by rw[<-hu];rfl
    unfold Ab.Fq;rw[this];exact hR
   clear hR hu
   go_wp21
   refine q.mono ?_;rintro e w' ⟨rfl,rfl⟩;go_wp2;go_end0;exact⟨rfl,F⟩
  .obtain⟨i,V,rfl,I⟩:=hR.od (x:=y) (by simp);have K:σ.AJ p ((b++[some i]).reverse)=if p (σ.nm i)then b.reverse else σ.AJ p b.reverse:=by rw[U4];rfl
   rw[K]at hu;have P:0 < (b++[some i]).length:=by simp
   dsimp only at q C;rw[vK]at C;have D:=(show Calls prog 165 #[jG E.bB 188] wr (λe w'=>e=iq (gJ (L1.gP i))/\To E L1 {σ with gz:=(b++[some i]).dropLast} wr w')from C);have A:=fU hu;have l:(0:Int) < ((b++[some i]).length:Int):=by omega
   obtain⟨m,Q⟩:∃m,m=(b++[some i]).length:=⟨_,rfl⟩;have T:=fU (show m=b.length+1 by rw[Q];simp);dsimp only at G;rw[<-Q]at q l G;clear hR hu
   go_wp21
   refine q.mono ?_;rintro e w' ⟨rfl,rfl⟩
   go_wp21
   refine D.mono ?_;rintro e B ⟨rfl,U,e2,d,g⟩;rw[RH]at d;have J:Ab.hU {σ with gz:=b} i=some V:=I;have X:B.cell? ⟨L1.gP i,0,none⟩=some (gH (σ.nm i)):=by rw[<-e2];exact d.vi J
   have u:=S B ((HFR.trans g).n _) (σ.nm i);have H:=fU d.Wl;have O:Hid (ML E L σ w b B):=⟨U,e2.trans N,d,HFR.trans g⟩;clear d;cases hq:p (σ.nm i)with
   |true=>
    rw[hq]at u A;have F:Hid (To E L (σ.Fq p) w B):=by
     have⟨L3,e3,hR3,hf3⟩:=O.ex;refine⟨L3,e3,?_,hf3⟩;have:(σ.AJ p σ.gz.reverse).reverse=b:=by rw[<-A.out,gF rfl,List.reverse_reverse]
     unfold Ab.Fq;rw[this];exact hR3
    go_wp21
    refine u.mono ?_;rintro e w' ⟨rfl,rfl⟩;go_wp2
    (try simp only[Exit.inBlock,Exit.then])
    refine qf (Kr rfl _ _ _) rfl ?_;exact⟨rfl,F⟩
   |false=>
    rw[hq]at u A
    go_wp21
    refine u.mono ?_;rintro e w' ⟨rfl,rfl⟩;go_wp2;go_roundw
    case rel=>exact⟨b,by rw[<-A.out];rfl,O⟩
    case measure=>rw[H.out,G.out,T.out];simp
def YS (bm:Nat) (b:List gy) (w:gv) (d:b.length<=4096):
  Calls prog 206 #[oY w.heap.size b.length b.length] (w.alloc (gI (b.map Value.string).toArray 9)) λe w'=>∃f a l,e=iq (.func f a l)/\Ask bm (.func f a l) (ij b) w'/\Kept [] w w':=by
 refine(NF bm w.heap.size b.length b _ (fY w _) d).mono ?_;rintro e w' ⟨⟨v,rfl,g⟩,h⟩;obtain⟨k,q,rfl,_,_⟩:=g.call;exact⟨_,_,_,rfl,g,(((Kept.refl [] w).alloc _).trans h)⟩
theorem acR (bm:Nat) (v1 v2:gO) (p q:gy->Bool) (w:gv) (d:Ask bm v1 p w) (g:Ask bm v2 q w):
  Calls prog 226 #[v1,v2] w λe w'=>∃f a l,e=iq (.func f a l)/\Ask bm (.func f a l) (λs=>p s||q s) w'/\Kept [] w w':=by
 refine(adY bm v1 v2 p q w d g).mono ?_;rintro e w' ⟨⟨v,rfl,b⟩,h⟩;obtain⟨k,u,rfl,_,_⟩:=b.call
 grind
def Ask.k0 {bm : Nat} {v : gO} {p : gy->Bool} (h:Ask bm v p w) (b:Kept [] w w'):Ask bm v p w':=h.fr (.gX b)
def R8 (h:Rel E L σ w) (f:Fn) (a l:jM) (p:gy->Bool) (ha:Ask E.bm (.func f a l) p w):
  Calls prog 203 #[Bp E,.func f a l] w λe w'=>e=p8/\To E L (σ.xa p) w w':=by
 have H:=h;have HA:=ha;have CI:=YS E.bm [fX] w (by decide);go_enter func203,ntmps203
 go_wp21
 refine CI.mono ?_;rintro e w1 ⟨f1,a1,l1,rfl,T,C⟩;have CO:=acR E.bm _ _ _ _ w1 (HA.k0 C) T
 go_wp21
 refine CO.mono ?_;rintro e w2 ⟨f2,a2,l2,rfl,B,U⟩;have D:=C.trans U;have H2:=H.il D;obtain⟨q,Z⟩:∃q,q=(λs=>p s||ij [fX] s):=⟨_,rfl⟩;rw[<-Z]at B;have F:Hid (∀wr,(∃v,v.gP=L.gP/\Rel E v {σ with gz:=(σ.qc (λs=>!q s) σ.gz.reverse).reverse} wr/\Fr E.bs w wr)->To E L (σ.xa p) w wr):=by
  rintro wr ⟨v,e1,b,I⟩;refine⟨v,e1,?_,I⟩;unfold Ab.xa
  rwa [Z]at b
 have H0:Hid (ML E L σ w σ.gz w2):=fU ⟨L,rfl,H2,.gX D⟩;go_wp2
 go_loopw [] (λwr=>∃ys,σ.qc (λs=>!q s) ys.reverse=σ.qc (λs=>!q s) σ.gz.reverse/\Fr E.bs w2 wr/\ML E L σ w ys wr) (λwr=>An ⟨E.bB,188,none⟩ wr)
 case atStart=>exact⟨_,rfl,Fr.refl _,H0⟩
 case round=>
  have⟨ys,hu,hf2,⟨v,E1,b,I⟩⟩:=hrel;have R:=fU b.Wl;have A:=Zh b;have X:=yM b _ _ (B.fr' hf2);rcases wE ys with rfl|⟨u,y,rfl⟩
  .have Q:Hid (To E L (σ.xa p) w wr):=by
    refine F wr ⟨v,E1,?_,I⟩;have:(σ.qc (λs=>!q s) σ.gz.reverse).reverse=[]:=by rw[<-hu];rfl
    rw[this];exact b
   clear b hu
   go_wp21
   refine A.mono ?_;rintro e w' ⟨rfl,rfl⟩;go_wp2;go_end0;exact⟨rfl,Q⟩
  .obtain⟨i,e0,rfl,hi⟩:=b.od (x:=y) (by simp);have W:σ.qc (λs=>!q s) ((u++[some i]).reverse)=if (!q (σ.nm i))=true then σ.qc (λs=>!q s) u.reverse else some i::u.reverse:=by rw[U4];rfl
   rw[W]at hu;have G:Ab.current {σ with gz:=u++[some i]} q=q (σ.nm i):=by unfold Ab.current Ab.last;rw[vK];rfl
   rw[G]at X;have g:=X;have K:=fU hu;have P:=I;have N:=hf2;have CP:=Qn b;obtain⟨m,V⟩:∃m,m=(u++[some i]).length:=⟨_,rfl⟩;have Y:(0:Int) < (m:Int):=by rw[V];simp
   have HM:=fU (show m=u.length+1 by rw[V];simp);dsimp only at R A;rw[<-V]at A R;cases hqq:q (σ.nm i)with
   |true=>
    rw[hqq]at g K;have Q:Hid (To E L (σ.xa p) w wr):=by
     refine F wr ⟨v,E1,?_,I⟩;have:(σ.qc (λs=>!q s) σ.gz.reverse).reverse=u++[some i]:=by rw[<-K.out];simp
     rw[this];exact b
    clear b hu
    go_wp21
    refine A.mono ?_;rintro e w' ⟨rfl,rfl⟩
    go_wp21
    refine g.mono ?_;rintro e w' ⟨rfl,rfl⟩;go_wp2;go_end0;exact⟨rfl,Q⟩
   |false=>
    rw[hqq]at g K;clear b hu
    go_wp21
    refine A.mono ?_;rintro e w' ⟨rfl,rfl⟩
    go_wp21
    refine g.mono ?_;rintro e w' ⟨rfl,rfl⟩
    go_wp21
    refine CP.mono ?_;rintro e w3 ⟨rfl,L2,e2,d,J⟩
    try dsimp only at d
    rw[RH]at d;have S:=fU d.Wl;have HP:Hid (ML E L σ w u w3):=⟨L2,e2.trans E1,d,P.trans J⟩;have O:=N.trans J;clear d;go_wp2;go_roundw
    case rel=>exact⟨u,by rw[<-K.out];rfl,O,HP⟩
    case measure=>rw[S.out,R.out,HM.out];simp
def Rel.aa3 (h:Rel E L σ w):∃f a l,w.cell? ⟨E.bB,185,none⟩=some (.func f a l)/\Ask E.bm (.func f a l) uM w:=by
 have⟨v,hv,ha⟩:=h.env.V5;obtain⟨k,b,rfl,_,_⟩:=ha.call;exact⟨_,_,_,h.low (by decide) hv,ha.fr' h.fr⟩
def Rel.Hg (h:Rel E L σ w):∃f a l,w.cell? ⟨E.bB,184,none⟩=some (.func f a l)/\Ask E.bm (.func f a l) lc w:=by
 have⟨v,hv,ha⟩:=h.env.spec;obtain⟨k,b,rfl,_,_⟩:=ha.call;exact⟨_,_,_,h.low (by decide) hv,ha.fr' h.fr⟩
def Rel.bounds (h:Rel E L σ w):∃f a l,w.cell? ⟨E.bB,186,none⟩=some (.func f a l)/\Ask E.bm (.func f a l) iP w:=by
 have⟨v,hv,ha⟩:=h.env.VA;obtain⟨k,b,rfl,_,_⟩:=ha.call;exact⟨_,_,_,h.low (by decide) hv,ha.fr' h.fr⟩
def IZ (h:Rel E L σ w):
  Calls prog 270 #[Bp E] w λe w'=>e=p8/\To E L σ.mF w w':=by
 have P:Hid (ML E L σ w σ.gz w):=fU ⟨L,rfl,h,Fr.refl w⟩;have A:Hid (∀wr,(∃B,B.gP=L.gP/\Rel E B {σ with gz:=(σ.qc uM σ.gz.reverse).reverse} wr/\Fr E.bs w wr)->To E L σ.mF w wr):=by
  rintro wr ⟨B,e1,d,C⟩;exact⟨B,e1,d,C⟩
 generalize hq:uM=q at A;have S:=fU hq;clear hq;go_enter func270,ntmps270;go_wp2
 go_loopw [] (λwr=>∃ys,σ.qc q ys.reverse=σ.qc q σ.gz.reverse/\ML E L σ w ys wr) (λwr=>An ⟨E.bB,188,none⟩ wr)
 case atStart=>exact⟨_,rfl,P⟩
 case round=>
  have⟨ys,hu,⟨B,E1,d,C⟩⟩:=hrel;have H:=fU d.Wl;have⟨f1,a1,l1,c1,ha1⟩:=d.aa3;rw[S.out]at ha1;have v:=yM d _ _ ha1;rcases wE ys with rfl|⟨u,y,rfl⟩
  .have G:Hid (To E L σ.mF w wr):=by
    refine A wr ⟨B,E1,?_,C⟩;have:(σ.qc q σ.gz.reverse).reverse=[]:=by rw[<-hu];rfl
    rw[this];exact d
   have l:Ab.current {σ with gz:=[]} q=false:=rfl;rw[l]at v;have b:=fU v;clear d hu v
   go_wp21
   refine b.mono ?_;rintro e w' ⟨rfl,rfl⟩;go_wp2;go_end0;exact⟨rfl,G⟩
  .obtain⟨i,V,rfl,W⟩:=d.od (x:=y) (by simp);have K:σ.qc q ((u++[some i]).reverse)=if q (σ.nm i)=true then σ.qc q u.reverse else some i::u.reverse:=by rw[U4];rfl
   rw[K]at hu;have l:Ab.current {σ with gz:=u++[some i]} q=q (σ.nm i):=by unfold Ab.current Ab.last;rw[vK];rfl
   rw[l]at v;have b:=fU v;have D:=fU hu;have F:=C;have O:=Qn d;obtain⟨m,N⟩:∃m,m=(u++[some i]).length:=⟨_,rfl⟩;have Q:=fU (show m=u.length+1 by rw[N];simp);dsimp only at H;rw[<-N]at H;cases hqq:q (σ.nm i)with
   |false=>
    rw[hqq]at b D;have G:Hid (To E L σ.mF w wr):=by
     refine A wr ⟨B,E1,?_,C⟩;have:(σ.qc q σ.gz.reverse).reverse=u++[some i]:=by rw[<-D.out];simp
     rw[this];exact d
    clear d hu v
    go_wp21
    refine b.mono ?_;rintro e w' ⟨rfl,rfl⟩;go_wp2;go_end0;exact⟨rfl,G⟩
   |true=>
    rw[hqq]at b D;clear d hu v
    go_wp21
    refine b.mono ?_;rintro e w' ⟨rfl,rfl⟩
    go_wp21
    refine O.mono ?_;rintro e U ⟨rfl,T,e2,g,J⟩
    try dsimp only at g
    rw[RH]at g;have I:=fU g.Wl;have R:Hid (ML E L σ w u U):=⟨T,e2.trans E1,g,F.trans J⟩;clear g;go_wp2;go_roundw
    case rel=>exact⟨u,by rw[<-D.out];rfl,R⟩
    case measure=>rw[I.out,H.out,Q.out];simp
end
end Go.Proofs.YtofkkmcdggkkpaaGreatDoor
