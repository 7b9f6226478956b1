import Derived.Test.YtofkkmcdggkkpaaGreatDoorRuC
import Derived.Deep.QuietTactic
import Derived.BigQuiet
set_option linter.unusedSimpArgs false
set_option linter.unusedVariables false
set_option linter.defProp false
set_option maxHeartbeats 0
set_option maxRecDepth 100000
namespace Go.Proofs.YtofkkmcdggkkpaaGreatDoor
open Go.RowKit Tryz
def Ko:=@ByteArray.ext
def Gt:=@List.take_append_drop
def BL:=@Eq.trans
def Kq:=@List.head?_eq_getElem?
def MD:=@List.take_sublist
def uS:=@List.mem_cons
def qC:=@List.not_mem_nil
def rF:=@or_false
def CV:=@List.drop_eq_getElem_cons
def Tz:=@List.mem_erase_of_ne
def Fp:=@List.drop_of_length_le
def lf:=@Nat.le_succ
def Fq:=@List.getElem?_of_mem
def CZ:=@Nat.eq_zero_or_pos
section
variable {E : Env} {L : Loc} {a o xs ys : kO} {c f i j m n p pf t : Nat} {e ei ej : zp} {k : Nd} {ks : List Nd} {old s : gz} {pl : Nat×Nat} {r : Nat->Nat} {w : gw} {x y z : jg}
def Rel.uF {σ:Ab} (h:Rel E L σ w) (b:σ.ib i=some e):El E.bs w (L.gQ i) e.name (L.av i) (iD L.gQ e.je) (L.kv i) (e.kids.map (Nd.map L.gQ)):=(h.sL i _ (Ab.jo b)).1
def Rel.vT {σ:Ab} (h:Rel E L σ w) (b:σ.ib i=some e):yB w (L.av i) e.gV:=(h.sL i _ (Ab.jo b)).2.1
def Rel.zH {σ:Ab} (h:Rel E L σ w) (b:σ.ib i=some e):e.gV.length<=4096:=(h.sL i _ (Ab.jo b)).2.2
theorem Rel.VW {σ:Ab} (h:Rel E L σ w) (b:σ.ji k=true):zQ w (Nd.map L.gQ k):=by
 cases k with
 |el i=>
  have⟨e,he⟩:=Option.isSome_iff_exists.1 (show(σ.ib i).isSome=true from b);exact⟨_,(h.uF he).iw⟩
 |tx i=>
  simp only[Ab.ji]at b;split at b
  .rename_i s d;exact⟨_,h.sL i _ d⟩
  grind
 |cm i=>
  simp only[Ab.ji]at b;split at b
  .rename_i s d;exact⟨_,h.sL i _ d⟩
  grind
 |dt i=>
  simp only[Ab.ji]at b;split at b
  .rename_i s d;exact⟨_,h.sL i _ d⟩
  grind
theorem YB {f : Nat->Nat} (b:∀i j,f i=f j->i=j) (j:Nat) (k:Nd):(Nd.map f k).gX (f j)=k.gX j:=by
 cases k with
 |el i=>
  grind[Nd.gX,Nd.map]
 |tx i=>rfl
 |cm i=>rfl
 |dt i=>rfl
theorem Js {f : Nat->Nat} (b:∀i j,f i=f j->i=j) (ks:List Nd) (j:Nat):qg (ks.map (Nd.map f)) (Nd.gX (f j))=qg ks (Nd.gX j):=by
 have:(ks.map (Nd.map f)).findIdx (Nd.gX (f j))=ks.findIdx (Nd.gX j):=by
  rw[List.findIdx_map]
  congr 1
  funext k
  exact YB b j k
 grind[qg]
def Q6 {σ:Ab} (h:Rel E L σ w) (l:σ.ib i=some e):
  Calls prog 81 #[gL (L.gQ i)] w λd b=>d=ir (place (L.gQ i) e.kids.length)/\Rel E L σ b/\Kept [] w b:=by
 refine(ade E.bs _ _ _ _ _ _ w (h.uF l)).mono ?_;rintro d b ⟨rfl,g⟩;exact⟨by simp,h.im g,g⟩
def Tp {σ:Ab} (h:Rel E L σ w) (q:σ.ib i=some e) (u:e.je=none):
  Calls prog 302 #[gL (L.gQ i)] w λd b=>d=ir (.tuple #[.agg #[.pointer none,gp 0],.bool false])/\Rel E L σ b/\Kept [] w b:=by
 have g:=h.uF q;rw[u]at g;refine(Yl E.bs _ _ _ _ _ w g).mono ?_;rintro d b ⟨rfl,l⟩;exact⟨rfl,h.im l,l⟩
def Q7 {σ:Ab} (h:Rel E L σ w) {g : zp} (v:σ.ib i=some e) (A:e.je=some p) (b:σ.ib p=some g):
  Calls prog 302 #[gL (L.gQ i)] w λq l=>q=ir (.tuple #[.agg #[gL (L.gQ p),gp (qg g.kids (Nd.gX i))],.bool true])/\Rel E L σ l/\Kept [] w l:=by
 have u:=h.uF v;rw[A]at u;refine(VP E.bs _ _ _ _ _ _ _ _ _ _ _ w u (h.uF b) ?_).mono ?_
 .intro x B;obtain⟨k,d,rfl⟩:=List.mem_map.1 B;exact h.VW (h.wf.kids p g b k d)
 rintro q l ⟨rfl,d⟩;exact⟨by rw[Js h.inj],h.im d,d⟩
theorem WJ {σ:Ab} (h:Rel E L σ w) (l:σ.ib i=some e) (H:nj e.name=false):
  Calls prog 257 #[gL (L.gQ i)] w λu d=>∃q,Fy σ.nodes.length L q/\u=ir (gL (q.gQ σ.nodes.length))/\Rel E q (σ.add (.el {name:=e.name,gV:=e.gV,je:=none,kids:=[]})) d/\Fr E.bs w d:=by
 have I:=h.vT l;have P:=h.zH l;refine(Hn E.bs _ _ _ _ _ _ w (h.uF l)).mono ?_;rintro u d ⟨rfl,N,D⟩;have b:=Ab.il l;refine⟨L.new σ.nodes.length w.heap.size (L.av i) (jX),λj B=>Loc.An B,by simp[Loc.new],?_,.gZ D⟩;refine h.add (.el {name:=e.name,gV:=e.gV,je:=none,kids:=[]}) w.heap.size (L.av i) (jX) σ.fresh D (ij _) ?_ rfl (λu O=>by grind) ?_ ?_ (λF=>absurd rfl (F _)) ?_ (λg H=>h.ab i g b H)
 .show El E.bs d _ _ _ _ _ _/\yB d _ _/\_;rw[Loc.sX,Loc.A4,Loc.GV];exact⟨N,D.ownsRow I (by simp),P⟩
 .intro j e2 g B A J K
  by_cases C:j=i
  .grind
  .exact h.uq j i e2 g B A b C K J
 .grind
 .intro G;exact⟨G,λg v=>h.Da G i g b v⟩
def map_eraseIdx (f:Nd->Nd):∀(ks:List Nd) (n:Nat),(ks.eraseIdx n).map f=(ks.map f).eraseIdx n
 |[],_=>by simp
 |_::_,0=>by simp
 |k::ks,n+1=>by simp[map_eraseIdx f ks n]
def ins (ks:List Nd) (n:Nat) (k:Nd):List Nd:=ks.take n++[k]++ks.drop n
def DD (f:Nat->Nat) (ks:List Nd) (n:Nat) (k:Nd):(ins ks n k).map (Nd.map f)=(ks.map (Nd.map f)).take n++[Nd.map f k]++(ks.map (Nd.map f)).drop n:=by
 simp[ins]
theorem DE {x : Nd} (h:x∈ins ks n k):x∈ks\/x=k:=by
 rcases List.mem_append.1 h with h|h
 all_goals grind
theorem ZA {σ:Ab} (h:Rel E L σ w) (A:σ.ib i=some ei) (D:σ.ib j=some ej) (B:j≠i) (hn:n<=ei.kids.length) (hl:ei.kids.length < 1048576):
  Calls prog 156 #[place (L.gQ i) n,(Nd.el (L.gQ j)).val] w λe H=>e=p8/\To E L ((σ.ic i {ei with kids:=ins ei.kids n (.el j)}).ic j {ej with je:=some i}) w H:=by
 have v:=Ab.il A;have K:=Ab.il D;have q:(σ.ib i).isSome=true:=by rw[A];rfl
 have G:(σ.ib j).isSome=true:=by rw[D];rfl
 have S:=h.vT A;have X:=h.zH A;have Z:=h.vT D;have lJ:=h.zH D;refine(S4 E.bs _ n _ _ _ _ _ _ _ _ _ _ _ w (h.uF A) (h.uF D) (λe=>B (h.inj _ _ e)) (λg W=>h.A0 j i g K v B W) (by grind) (by grind) h.bw).mono ?_;rintro e H ⟨rfl,⟨C,R,T⟩,Y,P⟩;have O:∀s∈L.gQ j::L.gQ i::(L.kv i).ownBlock.toList,∃x∈[j,i],s=L.gQ x\/(L.kv x).ownBlock=some s:=by
  intro s I;rcases List.mem_cons.1 I with rfl|I
  .simp
  rcases List.mem_cons.1 I with rfl|I
  .simp
  .grind
 have Q:=h.ktJ [j,i] (by grind) O P;have J:((σ.ic i {ei with kids:=ins ei.kids n (.el j)}).ib j).isSome=true:=by rw[Ab.iT B];exact G
 have F:∀x e,x < σ.nodes.length->yB w (L.av x) e->yB H (L.av x) e:=λx e _ V=>Q.row V (by decide);refine⟨rfl,h.abH i C q Q T (by simp[Ab.ic]) ?_ ?_ ?_ ?_⟩
 .intro x e' b
  by_cases l:x=j
  .subst l;rw[Ab.iX (by grind[Ab.ic])]at b;grind
  .rw[Ab.iT l]at b
   by_cases d:x=i
   .subst d;rw[Ab.iX v]at b;grind
   .rw[Ab.iT d]at b;grind
 .intro x b
  by_cases l:x=j
  .subst l;rw[Ab.iX (by grind[Ab.ic])]at b;cases b
  .rw[Ab.iT l]at b
   by_cases d:x=i
   .subst d;rw[Ab.iX v]at b;cases b
   .rwa [Ab.iT d]at b
 .intro x nd b;rcases Ab.oc b with⟨rfl,rfl⟩|⟨l,b⟩
  .grind[kV]
  .rcases Ab.oc b with⟨rfl,rfl⟩|⟨d,b⟩
   .show El E.bs H _ _ _ _ (if x=x then C else L.kv x) _/\_;rw[gF rfl];refine⟨?_,F x _ v S,X⟩;show El E.bs H (L.gQ x) ei.name (L.av x) (iD L.gQ ei.je) C ((ins ei.kids n (.el j)).map (Nd.map L.gQ));rw[DD];exact R
   .have U:=h.iE [j,i] (by grind) O P b (by grind);have N:x < σ.nodes.length:=(List.getElem?_eq_some_iff.1 b).1;exact U.ext (σ:=σ) (Fy.refl _ _) N rfl (gR d) (h.wfn b)
 .refine(h.wf.ic (e:={ei with kids:=ins ei.kids n (.el j)}) q (h.wf.je i ei A) ?_).ic J ?_ ?_
  .intro k u;rcases DE u with u|rfl
   .exact h.wf.kids i ei A k u
   .exact G
  .rw[Ab.qs q];exact q
  .intro k u;rw[Ab.la q];exact h.wf.kids j ej D k u
theorem Q8 {σ:Ab} (h:Rel E L σ w) (g:σ.ib i=some ei) (P:σ.ji k=true) (K:∀j,k≠ .el j) (R:n<=ei.kids.length) (Q:ei.kids.length < 1048576):
  Calls prog 156 #[place (L.gQ i) n,(Nd.map L.gQ k).val] w λe A=>e=p8/\To E L (σ.ic i {ei with kids:=ins ei.kids n k}) w A:=by
 have u:=Ab.il g;have q:(σ.ib i).isSome=true:=by rw[g];rfl
 have H:=h.vT g;have N:=h.zH g;refine(Zd E.bs _ n _ _ _ _ _ (Nd.map L.gQ k) w (h.uF g) (by grind) (by grind) h.bw (λj e=>by cases k<;>simp[Nd.map]at e;grind)).mono ?_;rintro e A ⟨rfl,⟨l,G,I⟩,v⟩;have C:∀s∈L.gQ i::(L.kv i).ownBlock.toList,∃x∈[i],s=L.gQ x\/(L.kv x).ownBlock=some s:=by
  intro s D;rcases List.mem_cons.1 D with rfl|D
  .simp
  .grind
 have F:=h.ktJ [i] (by grind) C v;refine⟨rfl,h.abH i l q F I (by simp[Ab.ic]) ?_ ?_ ?_ ?_⟩
 .intro x O b
  by_cases d:x=i
  .subst d;rw[Ab.iX u]at b;grind
  .rw[Ab.iT d]at b;grind
 .intro x b
  by_cases d:x=i
  .subst d;rw[Ab.iX u]at b;cases b
  .rwa [Ab.iT d]at b
 .intro x S b;rcases Ab.oc b with⟨rfl,rfl⟩|⟨d,b⟩
  .show El E.bs A _ _ _ _ (if x=x then l else L.kv x) _/\_;rw[gF rfl];refine⟨?_,F.row H (by decide),N⟩;show El E.bs A (L.gQ x) ei.name (L.av x) (iD L.gQ ei.je) l ((ins ei.kids n k).map (Nd.map L.gQ));rw[DD];exact G
  .have J:=h.iE [i] (by grind) C v b (by grind);have B:x < σ.nodes.length:=(List.getElem?_eq_some_iff.1 b).1;exact J.ext (σ:=σ) (Fy.refl _ _) B rfl (gR d) (h.wfn b)
 .refine h.wf.ic q (h.wf.je i ei g) ?_;intro x b;rcases DE b with b|rfl
  .exact h.wf.kids i ei g x b
  omega
def Eb {σ:Ab} (h:Rel E L σ w) (d:σ.ib j=some ej) (g:ej.je=none):
  Calls prog 358 #[gL (L.gQ j)] w λe l=>e=p8/\l=w:=by
 have b:=h.uF d;rw[g]at b;exact Tr E.bs _ _ _ _ _ w b
theorem WN {σ:Ab} (h:Rel E L σ w) {d : zp} (F:σ.ib j=some ej) (G:ej.je=some p) (A:σ.ib p=some d) (u:j≠p) (hn:n < d.kids.length) (T:qg d.kids (Nd.gX j)=(n:Int)):
  Calls prog 358 #[gL (L.gQ j)] w λe H=>e=p8/\To E L ((σ.ic p {d with kids:=d.kids.eraseIdx n}).ic j {ej with je:=none}) w H:=by
 have C:=Ab.il A;have O:=Ab.il F;have D:(σ.ib p).isSome=true:=by rw[A];rfl
 have N:(σ.ib j).isSome=true:=by rw[F];rfl
 have R:=h.uF F;rw[G]at R;have X:=h.vT A;have lP:=h.zH A;have W:=h.vT F;have lJ:=h.zH F;refine(Gp E.bs _ _ n _ _ _ _ _ _ _ _ _ w R (h.uF A) ?_ (λe=>u (h.inj _ _ e)) (λg hg=>h.A0 j p g O C u hg) (by grind) (by rw[Js h.inj];omega)).mono ?_
 .intro x b;obtain⟨k,I,rfl⟩:=List.mem_map.1 b;exact h.VW (h.wf.kids p d A k I)
 rintro e H ⟨rfl,⟨v,U,Y⟩,V,I⟩;have S:∀s∈L.gQ j::L.gQ p::(L.kv p).ownBlock.toList,∃x∈[j,p],s=L.gQ x\/(L.kv x).ownBlock=some s:=by
  intro s J;rcases List.mem_cons.1 J with rfl|J
  .simp
  rcases List.mem_cons.1 J with rfl|J
  .simp
  .grind
 have Q:=h.ktJ [j,p] (by grind) S I;have K:((σ.ic p {d with kids:=d.kids.eraseIdx n}).ib j).isSome=true:=by rw[Ab.iT u];exact N
 refine⟨rfl,h.abH p v D Q (.inl Y) (by simp[Ab.ic]) ?_ ?_ ?_ ?_⟩
 .intro x e' b
  by_cases q:x=j
  .subst q;rw[Ab.iX (by grind[Ab.ic])]at b;grind
  .rw[Ab.iT q]at b
   by_cases l:x=p
   .subst l;rw[Ab.iX C]at b;grind
   .rw[Ab.iT l]at b;grind
 .intro x b
  by_cases q:x=j
  .subst q;rw[Ab.iX (by grind[Ab.ic])]at b;cases b
  .rw[Ab.iT q]at b
   by_cases l:x=p
   .subst l;rw[Ab.iX C]at b;cases b
   .rwa [Ab.iT l]at b
 .intro x nd b;rcases Ab.oc b with⟨rfl,rfl⟩|⟨q,b⟩
  .show El E.bs H _ _ _ _ (if x=p then v else L.kv x) _/\_;rw[gR u];exact⟨V,Q.row W (by decide),lJ⟩
  .rcases Ab.oc b with⟨rfl,rfl⟩|⟨l,b⟩
   .show El E.bs H _ _ _ _ (if x=x then v else L.kv x) _/\_;rw[gF rfl];refine⟨?_,Q.row X (by decide),lP⟩;show El E.bs H (L.gQ x) d.name (L.av x) (iD L.gQ d.je) v ((d.kids.eraseIdx n).map (Nd.map L.gQ));rw[map_eraseIdx];exact U
   .have Z:=h.iE [j,p] (by grind) S I b (by grind);have P:x < σ.nodes.length:=(List.getElem?_eq_some_iff.1 b).1;exact Z.ext (σ:=σ) (Fy.refl _ _) P rfl (gR l) (h.wfn b)
 .refine(h.wf.ic (e:={d with kids:=d.kids.eraseIdx n}) D (h.wf.je p d A) ?_).ic K rfl ?_
  .intro k B;exact h.wf.kids p d A k (List.mem_of_mem_eraseIdx B)
  .intro k B;rw[Ab.la D];exact h.wf.kids j ej F k B
theorem Rel.F8 {σ:Ab} (h:Rel E L σ w) (b:gz):Rel E (L.new σ.nodes.length w.heap.size (jX) (jX)) (σ.add (.el {name:=b,gV:=[],je:=none,kids:=[]})) (w.alloc (gJ #[gI b,jX,.pointer none,jX] 142)):=by
 have l:Kept [] w (w.alloc (gJ #[gI b,jX,.pointer none,jX] 142)):=(Kept.refl _ _).alloc _;refine h.add (.el {name:=b,gV:=[],je:=none,kids:=[]}) w.heap.size (jX) (jX) σ.fresh l (ij _) ?_ rfl (λe q=>by grind) (λ_ _ _ _ _ d=>by cases d) (λ_ _ _ _ _ _ d=>by cases d) (λ_=>rfl) (λg=>⟨g,λ_ _=>by simp[Value.ownBlock]⟩) (λ_ d=>by cases d);show El E.bs _ _ _ _ _ _ _/\yB _ _ _/\_;rw[Loc.sX,Loc.A4,Loc.GV];exact⟨⟨fZ w _,oY _ _ _ _,by simp,⟨_,_,_,rfl⟩⟩,oY _ _ _ _,by simp⟩
theorem Rel.pL {σ:Ab} (h:Rel E L σ w) (d:σ.fresh=true) (b:gz):Rel E (L.new σ.nodes.length w.heap.size E.tv (jX)) (σ.pn (.el {name:=b,gV:=E.ta,je:=none,kids:=[]}) false) (w.alloc (gJ #[gI b,E.tv,.pointer none,jX] 142)):=by
 have u:Kept [] w (w.alloc (gJ #[gI b,E.tv,.pointer none,jX] 142)):=(Kept.refl _ _).alloc _;refine h.add (.el {name:=b,gV:=E.ta,je:=none,kids:=[]}) w.heap.size E.tv (jX) false u (ij _) ?_ rfl (λe B=>by grind) (λi e g v _ l=>h.Da d i g (Ab.il v) l) (λe g j _ _ A l=>h.Da d j g A l) (λq=>absurd rfl (q _)) (λd=>by cases d) h.tb;show El E.bs _ _ _ _ _ _ _/\yB _ _ _/\_;rw[Loc.sX,Loc.A4,Loc.GV];have⟨ao,cap,hv⟩:=gH h.tok;exact⟨⟨fZ w _,oY _ _ _ _,by simp,⟨_,_,_,hv⟩⟩,u.ownsRow h.tok (by simp),h.Lt⟩
def Rel.aeI {σ:Ab} (h:Rel E L σ w) (nd:Bj) (s:gz) (d:nd= .tx s\/nd= .cm s\/nd= .dt s):Rel E (L.new σ.nodes.length w.heap.size (jX) (jX)) (σ.add nd) (w.alloc (gJ #[gI s] nd.typ)):=by
 have u:Kept [] w (w.alloc (gJ #[gI s] nd.typ)):=(Kept.refl _ _).alloc _;have g:∀e,nd≠ .el e:=by rintro e rfl;rcases d with h|h|h<;>cases h
 refine h.add nd w.heap.size (jX) (jX) σ.fresh u (ij _) ?_ rfl (λe l=>absurd l (g e)) (λ_ _ _ _ _ b=>by cases b) (λ_ _ _ _ _ _ b=>by cases b) (λ_=>rfl) (λq=>⟨q,λ_ _=>by simp[Value.ownBlock]⟩) (λ_ b=>by cases b);rcases d with rfl|rfl|rfl
 .show _=_;rw[Loc.sX];exact fZ w _
 .show _=_;rw[Loc.sX];exact fZ w _
 .show _=_;rw[Loc.sX];exact fZ w _
def Too (E:Env) (L:Loc) (n:Nat) (σ':Ab) (w w':gw):Prop:=∃b,Fy n L b/\Rel E b σ' w'/\Fr E.bs w w'
def Ab.ol (σ:Ab) (t:Nat) (s:gz):Ab:={σ with nodes:=σ.nodes.set t (.tx s)}
theorem Ab.tc {σ:Ab} (b:σ.nodes[t]?=some (.tx old)) (i:Nat):(σ.ol t s).ib i=σ.ib i:=by
 grind[Ab.ib,Ab.ol]
def Ab.tY {σ:Ab} (b:σ.nodes[t]?=some (.tx old)) (x:jg):(σ.ol t s).gX x=σ.gX x:=by
 cases x with
 |none=>rfl
 |some i=>show((σ.ol t s).ib i).isSome=(σ.ib i).isSome;rw[Ab.tc b]
def Ab.QN {σ:Ab} (b:σ.nodes[t]?=some (.tx old)) (x:jg):(σ.ol t s).mF x=σ.mF x:=by
 cases x with
 |none=>rfl
 |some i=>exact Ab.tY b (some i)
theorem Ab.Gk {σ:Ab} (b:σ.nodes[t]?=some (.tx old)) (k:Nd):(σ.ol t s).ji k=σ.ji k:=by
 have d:=(List.getElem?_eq_some_iff.1 b).1;have l:(σ.ol t s).nodes[t]?=some (.tx s):=by simp[Ab.ol,d]
 have h:∀j,j≠t->(σ.ol t s).nodes[j]?=σ.nodes[j]?:=λj g=>by grind[Ab.ol]
 cases k with
 |el j=>exact Ab.tY b (some j)
 |tx j=>grind[Ab.ji]
 |cm j=>grind[Ab.ji]
 |dt j=>grind[Ab.ji]
theorem GH {σ:Ab} (h:Rel E L σ w) (A:σ.ib i=some ei) (U:m < ei.kids.length) (v:ei.kids[m]= .tx t) (q:σ.nodes[t]?=some (.tx old)) (K:old.size+s.size<=1048576):
  Calls prog 163 #[place (L.gQ i) (m+1),gI s] w λe O=>e=p8/\To E L (σ.ol t (old++s)) w O:=by
 refine(Lf E.bs _ m (L.gQ t) _ old s _ _ _ _ w (h.uF A) (by grind) (by simp[v,Nd.map]) (h.sL t _ q) K).mono ?_;rintro e O ⟨rfl,S,F⟩;have N:=(List.getElem?_eq_some_iff.1 q).1;have G:=h.sL t _ q;have Q:KT E.bs [142,183,260] w O:= .jT F (λx v _=>by simp at v;subst v;exact⟨⟨_,_,_,G,by simp⟩,h.bN t (List.getElem?_eq_some_iff.1 q).1⟩);refine⟨rfl,L,rfl,h.UO (σ':=σ.ol t (old++s)) Q (λ_ _=>rfl) rfl rfl rfl ?_ h.inj ?_ ?_ ?_ ?_ ?_ ?_,Q.fr (by decide)⟩
 .intro x R d
  by_cases B:t=x
  .subst B;simp[Ab.ol,N]at d;rw[<-d];exact S
  .have D:σ.nodes[x]?=some R:=by simpa [Ab.ol,B]using d
   have l:=(List.getElem?_eq_some_iff.1 D).1;refine(h.sL x R D).kept F ?_ ?_ ?_
   .simp;exact λe=>B (h.inj _ _ e.symm)
   .intro g C u;simp at u;have⟨c,m',h1⟩:=h.yS l C;rw[u]at h1;exact absurd (J5 G h1) (by decide)
   .intro g C u;simp at u;have⟨c,m',h1⟩:=h.MW l C;rw[u]at h1;exact absurd (J5 G h1) (by decide)
 .simpa [Ab.ol]using h.A0
 .intro x l d;rw[Ab.tc q]at d;exact h.F5 x (by simpa [Ab.ol]using l) d
 .intro a b e g P J I H C;rw[Ab.tc q]at P;exact h.uq a b e g P J (by simpa [Ab.ol]using I) H C
 .intro x l d;rw[Ab.tc q]at d;exact h.Ep x (by simpa [Ab.ol]using l) d
 .refine⟨λx v=>by rw[Ab.QN q];exact h.wf.gA x v,λx v=>by rw[Ab.tY q];exact h.wf.act x v,by rw[Ab.tY q];exact h.wf.head,by rw[Ab.tY q];exact h.wf.form,λi e A=>by rw[Ab.tc q]at A;rw[Ab.tY q];exact h.wf.je i e A,λi e A k F=>by rw[Ab.tc q]at A;rw[Ab.Gk q];exact h.wf.kids i e A k F,by rw[Ab.tc q];exact h.wf.xb⟩
 .intro T x g l;exact h.Da T x g (by simpa [Ab.ol]using l)
theorem JU {σ:Ab} (h:Rel E L σ w) (l:σ.ib i=some ei) (K:n<=ei.kids.length) (I:ei.kids.length < 1048576) (P:∀m,(B:m < ei.kids.length)->n=m+1->∀t,ei.kids[m]≠ .tx t):
  Calls prog 163 #[place (L.gQ i) n,gI s] w λe C=>e=p8/\Too E L σ.nodes.length ((σ.add (.tx s)).ic i {ei with kids:=ins ei.kids n (.tx σ.nodes.length)}) w C:=by
 have d:=Ab.il l;refine N1 E.bs _ n _ s _ _ _ _ w (h.uF l) (by grind) _ ?_ ?_
 .intro O A;have F:=(h.im A).aeI (.tx s) s (.inl rfl);have v:Fy σ.nodes.length L (L.new σ.nodes.length O.heap.size (jX) (jX)):=λj u=>Loc.An u;have q:(σ.add (.tx s)).ib i=some ei:=by rw[Ab.tF d];exact l
  have g:(σ.add (.tx s)).ji (.tx σ.nodes.length)=true:=by simp[Ab.ji,Ab.add]
  have:=Q8 F (n:=n) (k:= .tx σ.nodes.length) q g (λj e=>by cases e) K I;rw[v i d]at this;simp only[Nd.map,Loc.sX]at this;refine this.mono ?_;rintro e C ⟨rfl,D,e2,G,H⟩;exact⟨rfl,D,λj u=>by rw[e2];exact v j u,G,(Fr.gZ (A.alloc _)).trans H⟩
 .intro m B N t b;have J:m < ei.kids.length:=by simpa using B
  rw[List.getElem_map]at b;cases hq:ei.kids[m]with
  |tx t'=>grind
  |el _=>rw[hq]at b;cases b
  |cm _=>rw[hq]at b;cases b
  |dt _=>rw[hq]at b;cases b
inductive TK
 |ke (s:gz)
 |start (name:gz)
 |stop (name:gz)
 |gS (s:gz)
 |iN (name:gz) (q:Bool)
 |lost
 |io
structure gN where
 a:Nat
 b:Nat
 k:TK
 gV:kY:=[]
def gN.name (t:gN):gz:=match t.k with
 | .start n=>n
 | .stop n=>n
 |_=>⟨#[]⟩
def gN.js (t:gN):kY:=match t.k with
 | .start _=>t.gV
 | .stop _=>t.gV
 |_=>[]
def gN.chars (t:gN):gz:=match t.k with
 | .ke s=>s
 |_=>⟨#[]⟩
def sU (s:gz):Bool:=kA s ⟨#[0]⟩
def lR (s:gz):Bool:=ik [⟨#[32]⟩,⟨#[9]⟩,yz,⟨#[12]⟩] s
namespace Ab
def nm (σ:Ab) (i:Nat):gz:=match σ.ib i with
 |some e=>e.name
 |none=>⟨#[]⟩
def qS (σ:Ab):jg->gz
 |some i=>σ.nm i
 |none=>⟨#[]⟩
def last (σ:Ab):jg:=iB σ.gA ((σ.gA.length:Int) - 1)
def current (σ:Ab) (p:gz->Bool):Bool:=match σ.last with
 |none=>false
 |some i=>p (σ.nm i)
def pop (σ:Ab):Ab:={σ with gA:=σ.gA.dropLast}
def Jr (σ:Ab) (p:gz->Bool):Ab:=if σ.current p then σ.pop else σ
def AE (σ:Ab) (p:gz->Bool):kO->kO
 |[]=>[]
 |x::r=>if p (σ.qS x)then r else AE σ p r
def Fl (σ:Ab) (p:gz->Bool):Ab:={σ with gA:=(AE σ p σ.gA.reverse).reverse}
def qc (σ:Ab) (p:gz->Bool):kO->kO
 |[]=>[]
 |x::r=>if p (σ.qS x)then qc σ p r else x::r
def wY (σ:Ab) (p:gz->Bool):Ab:={σ with gA:=(qc σ (λs=>!(p s||ik [fY] s)) σ.gA.reverse).reverse}
def mD (σ:Ab):Ab:={σ with gA:=(qc σ uK σ.gA.reverse).reverse}
def xD (σ:Ab) (p b:gz->Bool):kO->Bool
 |[]=>false
 |x::r=>if p (σ.qS x)then true else if b (σ.qS x)then false else xD σ p b r
def inScope (σ:Ab) (p b:gz->Bool):Bool:=xD σ p b σ.gA.reverse
def nY (σ:Ab) (b:Nat):kO->Bool
 |[]=>false
 |x::r=>if x=some b then true else if iQ (σ.qS x)then false else nY σ b r
def oJ (σ:Ab) (b:Nat):Bool:=nY σ b σ.gA.reverse
def close (σ:Ab) (p b:gz->Bool):Ab:=if σ.inScope p b then σ.Fl p else σ
end Ab
def Dk:gz->Bool:=λs=>iQ s||ik [hU] s
def acr:gz->Bool:=λs=>iQ s||ik [oz] s
def Az:gz->Bool:=ik [fY,gg]
def AA:gz->Bool:=ik [gg,gq,gr,gu,ie]
def aet (x:jg):M Nat:=λσ=>match x with
 |some i=>if (σ.ib i).isSome then .ok i σ else .stuck
 |none=> .stuck
def jx (i:Nat):M (Nat×Nat):=λσ=>match σ.ib i with
 |some e=> .ok (i,e.kids.length) σ
 |none=> .stuck
def rU (σ:Ab):kO->Option (jg)
 |[]=>none
 |x::r=>if !kA (σ.qS x) gg||x=iB σ.gA 0 then rU σ r else some x
def pG.isOk {α:Type}:pG α->Bool
 | .ok _ _=>true
 |_=>false
def mB (i:Nat):M (Nat×Nat):=λσ=>match σ.ib i with
 |some e=>match e.je with
  |some p=>match σ.ib p with
   |some ep=>if 0<=qg ep.kids (Nd.gX i)then .ok (p,(qg ep.kids (Nd.gX i)).toNat) σ else .stuck
   |none=> .stuck
  |none=>match iB σ.gA (posOf σ.gA (some i) - 1)with
   |some q=>jx q σ
   |none=> .stuck
 |none=> .stuck
def Ab.AB (σ:Ab):Bool:=σ.gA.all λx=>match x with
 |some i=>!kA (σ.nm i) gg||decide (some i=iB σ.gA 0)||(mB i σ).isOk
 |none=>false
def j4:M (Nat×Nat):=λσ=>if σ.AB then (match rU σ σ.gA.reverse with
 |some (some i)=>mB i σ
 |some none=> .stuck
 |none=>match iB σ.gA 0 with
  |some q=>jx q σ
  |none=> .stuck)else .stuck
theorem pt {σ σ1:Ab} (h:jx i σ= .ok pl σ1):σ1=σ:=by
 unfold jx at h
 grind
theorem Bq {σ σ1:Ab} (h:mB i σ= .ok pl σ1):σ1=σ:=by
 unfold mB at h;split at h
 .split at h
  .grind
  .split at h
   .exact pt h
   grind
 grind
theorem oG {σ σ1:Ab} (h:j4 σ= .ok pl σ1):σ1=σ:=by
 unfold j4 at h;split at h
 .split at h
  .exact Bq h
  .cases h
  .split at h
   .exact pt h
   grind
 grind
def placeFor (i:Nat):M (Nat×Nat):=λσ=>if σ.iS&&AA (σ.nm i)then j4 σ else jx i σ
def mV:M (Nat×Nat):=λσ=>match σ.last with
 |some i=>placeFor i σ
 |none=> .stuck
def mN (pl:Nat×Nat) (j:Nat):M Unit:=λσ=>match σ.ib pl.1,σ.ib j with
 |some ei,some ej=>if j≠pl.1/\pl.2<=ei.kids.length/\ei.kids.length < 1048576 then .ok () ((σ.ic pl.1 {ei with kids:=ins ei.kids pl.2 (.el j)}).ic j {ej with je:=some pl.1})else .stuck
 |_,_=> .stuck
def zB (pl:Nat×Nat) (k:Nd):M Unit:=λσ=>match σ.ib pl.1 with
 |some ei=>if σ.ji k=true/\pl.2<=ei.kids.length/\ei.kids.length < 1048576 then .ok () (σ.ic pl.1 {ei with kids:=ins ei.kids pl.2 k})else .stuck
 |none=> .stuck
def uL (pl:Nat×Nat) (s:gz):M Unit:=λσ=>match σ.ib pl.1 with
 |some ei=>if pl.2<=ei.kids.length/\ei.kids.length < 1048576 then
   match (if pl.2=0 then none else ei.kids[pl.2 - 1]?)with
   |some (.tx t)=>match σ.nodes[t]? with
    |some (.tx old)=>if old.size+s.size<=1048576 then .ok () (σ.ol t (old++s))else .stuck
    |_=> .stuck
   |_=> .ok () ((σ.add (.tx s)).ic pl.1 {ei with kids:=ins ei.kids pl.2 (.tx σ.nodes.length)})
  else .stuck
 |none=> .stuck
def xi (x:jg):M Unit:=λσ=>if σ.pQ<=σ.gA.length then .stop 5 σ.gQ else if σ.mF x then .ok () {σ with gA:=σ.gA++[x]} else .stuck
def mi (j:Nat):M Unit:=do
 let pl <-mV
 mN pl j
 xi (some j)
 return ()
def F8 (b:gz):M Nat:=λσ=> .ok σ.nodes.length (σ.add (.el {name:=b,gV:=[],je:=none,kids:=[]}))
def gN.rJ (t:gN):Bool:=match t.k with
 | .start _=>true
 | .stop _=>true
 |_=>false
def pL (t:gN):M Nat:=λσ=>if σ.fresh&&t.rJ then .ok σ.nodes.length (σ.pn (.el {name:=t.name,gV:=t.js,je:=none,kids:=[]}) false)else .stuck
def km (b:gz):M Unit:=do
 let j <-F8 b
 mi j
 return ()
def jt (t:gN):M Unit:=do
 let j <-pL t
 mi j
 return ()
def yh:M (jg):=λσ=> .ok σ.last σ.pop
def lw (t:gN):M Unit:=do
 jt t
 let _ <-yh
 return ()
def j7 (t:gN):M Unit:=do
 let pl <-mV
 uL pl t.chars
 return ()
def ni (p b:gz->Bool):M Bool:=λσ=>if σ.inScope p b then .ok true (σ.Fl p)else .ok false σ
def oD:M Unit:=do
 let _ <-ni (ik [mZ]) Dk
 return ()
def pZ (p:gz->Bool):M Unit:=wG λσ=>σ.Jr p
def uE (p:gz->Bool):M Unit:=wG λσ=>σ.wY p
def jM (m:Nat):M Unit:=wG λσ=>{σ with mode:=m}
def kq (x:jg):M Unit:=λσ=>if σ.gX x then .ok () {σ with gA:=σ.gA.erase x} else .stuck
def zA (x y:jg):M Unit:=λσ=>if σ.gX x&&σ.mF y then .ok () {σ with gA:=pM σ.gA x y} else .stuck
def qw (x y:jg):M Unit:=λσ=>if σ.gX x&&σ.mF y&&decide (σ.gA.length < 4096)then .ok () {σ with gA:=jb σ.gA x y} else .stuck
def Aq (x:jg):M Unit:=λσ=>if σ.gX x then .ok () {σ with gA:=og σ.gA x} else .stuck
def kH (x:jg):M Unit:=λσ=>if σ.gX x then .ok () {σ with act:=σ.act.erase x} else .stuck
def ri (x y:jg):M Unit:=λσ=>if σ.gX x&&σ.gX y then .ok () {σ with act:=pM σ.act x y} else .stuck
def qi (x y:jg):M Unit:=λσ=>if σ.gX x&&σ.gX y&&decide (σ.act.length < 4096)then .ok () {σ with act:=jb σ.act x y} else .stuck
def BP (x:jg):M Unit:=λσ=>if σ.gX x then .ok () {σ with act:=og σ.act x} else .stuck
def yQ (gM:kY) (s:gz):Bool:=gM.any λa=>kA a.1 s
def qm (i:Nat):kY->M Unit
 |[]=>pure ()
 |a::r=>λσ=>match σ.ib i with
  |none=> .stuck
  |some e=>if yQ e.gV a.1 then qm i r σ else if σ.oZ<=e.gV.length then .stop 7 σ.gQ else qm i r (σ.ic i {e with gV:=e.gV++[a]})
def wh (i:Nat) (t:gN):M Unit:=λσ=>if σ.fresh&&nj (σ.nm i)then qm i t.js σ else .stuck
def kP (i:Nat):M Nat:=λσ=>match σ.ib i with
 |some e=>if nj e.name then .stuck else .ok σ.nodes.length (σ.add (.el {name:=e.name,gV:=e.gV,je:=none,kids:=[]}))
 |none=> .stuck
def Ab.Sz (σ:Ab) (x:jg):Bool:=decide (x=none)||decide (x∈σ.gA)
def Ab.tV (σ:Ab):kO->Nat
 |[]=>0
 |x::r=>if σ.Sz x then r.length+1 else σ.tV r
def Ab.Au (σ:Ab):Nat:=σ.tV σ.act.reverse
def FD (n:Nat):M Nat:=λσ=>match iB σ.act (n:Int)with
 |some i=> .ok i σ
 |none=> .stuck
def qI (old:Nat):M Unit:=λσ=>ri (some old) σ.last σ
def Jv:Nat->Nat->M Unit
 |0,_=>pure ()
 |k+1,n=>do
  let old <-FD n
  let j <-kP old
  mi j
  qI old
  Jv k (n+1)
def lH:M Unit:=λσ=>Jv (σ.act.length - σ.Au) σ.Au σ
def Ab.qu (σ:Ab) (s:gz):kO->jg
 |[]=>none
 |none::_=>none
 |some i::r=>if kA (σ.nm i) s then some i else σ.qu s r
def Ab.pw (σ:Ab) (s:gz):jg:=σ.qu s σ.act.reverse
def adB (a b:zp):Bool:=kA a.name b.name&&(a.gV.length==b.gV.length)&&a.gV.all λx=>b.gV.any λy=>kA x.1 y.1&&kA x.2 y.2
def Ab.V7 (σ:Ab) (i j:Nat):Bool:=match σ.ib i,σ.ib j with
 |some a,some b=>adB a b
 |_,_=>false
def Ab.sg (σ:Ab) (j:Nat):kO->jg×Nat->jg×Nat
 |[],c=>c
 |none::_,c=>c
 |some i::r,c=>if σ.V7 i j then σ.sg j r (some i,c.2+1)else σ.sg j r c
def lu (x:jg):M Unit:=λσ=>if σ.qO<=σ.act.length then .stop 6 σ.gQ else if σ.gX x then .ok () {σ with act:=σ.act++[x]} else .stuck
def MK (i:Nat):M Unit:=λσ=>
 let c:=σ.sg i σ.act.reverse (none,0)
 if 3<=c.2 then (do
  kH c.1
  lu (some i)
  return ():M Unit) σ else (do
  lu (some i)
  return ():M Unit) σ
def zk:M Unit:=do
 BP none
 return ()
def I7:M Nat:=λσ=>match σ.last with
 |some i=> .ok i σ
 |none=> .stuck
def ly (t:gN):M Unit:=do
 lH
 jt t
 return ()
def sG (t:gN):M Unit:=do
 lH
 lw t
 return ()
def iW (t:gN):M Unit:=do
 ly t
 let i <-I7
 MK i
 return ()
def uH (s:gz):M Unit:=do
 let _ <-ni (ik [s]) lc
 return ()
def Ab.uY (σ:Ab) (f:Nat):kO->jg->jg
 |[],b=>b
 |x::r,b=>if x=some f then b else σ.uY f r (if lc (σ.qS x)then x else b)
def Ab.qj (σ:Ab) (f:Nat):jg:=σ.uY f σ.gA.reverse none
variable {σ σ' : Ab}
def mq (j:Nat):M Unit:=λσ=>match σ.ib j with
 |none=> .stuck
 |some ej=>match ej.je with
  |none=> .ok () σ
  |some p=>match σ.ib p with
   |none=> .stuck
   |some ep=>if j≠p/\0<=qg ep.kids (Nd.gX j)/\(qg ep.kids (Nd.gX j)).toNat < ep.kids.length then .ok () ((σ.ic p {ep with kids:=ep.kids.eraseIdx (qg ep.kids (Nd.gX j)).toNat}).ic j {ej with je:=none})else .stuck
def EX (pl:Nat×Nat) (k:Nd):M Unit:=match k with
 | .el j=>mN pl j
 |k=>zB pl k
def ya (dst:Nat):List Nd->M Unit
 |[]=>pure ()
 |k::r=>do
  let pl <-jx dst
  EX pl k
  ya dst r
def handOver (b dst:Nat):M Unit:=λσ=>match σ.ib b with
 |none=> .stuck
 |some eb=>if b=dst then .stuck else (ya dst eb.kids>>=λ_ σ'=>match σ'.ib b with
  |some eb'=> .ok () (σ'.ic b {eb' with kids:=[]})
  |none=> .stuck) σ
def Gf (n:Nat):M Nat:=λσ=>match iB σ.gA (n:Int)with
 |some i=> .ok i σ
 |none=> .stuck
def mj (f d:Nat):Nat->Nat->Nat->Nat->M (Nat×Nat)
 |0,_,last,mark=>pure (last,mark)
 |n+1,c,last,mark=>do
  let e <-Gf n
  if e=f then pure (last,mark)else do
   (if 3 < c+1 then kH (some e)else pure ())
   λσ=>if some e∉σ.act then (do
    kq (some e)
    mj f d n (c+1) last mark:M (Nat×Nat)) σ else (do
    let b <-kP e
    zA (some e) (some b)
    ri (some e) (some b)
    mq last
    let pl <-jx b
    mN pl last
    mj f d n (c+1) b (if last=d then b else mark):M (Nat×Nat)) σ
def xB (f b:Nat):M (Nat×Nat):=λσ=>mj f b (posOf σ.gA (some b)).toNat 0 b f σ
def ahead (f:Nat):M Nat:=λσ=>match iB σ.gA (posOf σ.gA (some f) - 1)with
 |some i=> .ok i σ
 |none=> .stuck
def uu (f d:Nat):M Unit:=do
 let (last,mark) <-xB f d
 mq last
 let a <-ahead f
 let pl <-placeFor a
 mN pl last
 let b <-kP f
 handOver d b
 let pl <-jx d
 mN pl b
 qi (some mark) (some b)
 kH (some f)
 kq (some f)
 qw (some d) (some b)
 return ()
def nA (s:gz):M Bool:=λσ=>match σ.pw s with
 |none=>(do uH s;return false:M Bool) σ
 |some f=>if some f∉σ.gA then (do kH (some f);return false:M Bool) σ
  else if !σ.oJ f then .ok false σ
  else match σ.qj f with
   |none=>(do Aq (some f);kH (some f);return false:M Bool) σ
   |some b=>(do uu f b;return true:M Bool) σ
def sP (s:gz):Nat->M Unit
 |0=>pure ()
 |k+1=>do
  let b <-nA s
  if b then sP s k else pure ()
def wX (s:gz):M Unit:=λσ=>match σ.last with
 |none=> .stuck
 |some i=>if kA (σ.nm i) s&&!decide (some i∈σ.act)then (do let _ <-yh;return ():M Unit) σ else sP s 8 σ
section
variable (rec:Nat->gN->M Unit) (t:gN)
def j1:M Unit:=λσ=>rec σ.mode t σ
def oP (pl:Nat×Nat) (nd:Bj) (k:Nat->Nd):M Unit:=λσ=>zB pl (k σ.nodes.length) (σ.add nd)
def BZ:M (Nat×Nat):=jx 0
def oy:M Unit:=match t.k with
 | .iN n q=>do
  let pl <-BZ
  oP pl (.dt n) .dt
  wG λσ=>{σ with jL:=q||!kA n fY}
  jM 1
  return ()
 |_=>do
  jM 1
  return ()
def lF:M Unit:=do
 wG λσ=>{σ with jL:=true}
 jM 1
 j1 rec t
 return ()
def sW (b:gz) (own:Bool) (gM:kY):M Nat:=λσ=>if own then (if σ.fresh then .ok σ.nodes.length (σ.pn (.el {name:=b,gV:=gM,je:=none,kids:=[]}) false)else .stuck)else .ok σ.nodes.length (σ.add (.el {name:=b,gV:=[],je:=none,kids:=[]}))
def rL (own:Bool) (gM:kY):M Unit:=do
 let e <-sW fY own gM
 let pl <-BZ
 mN pl e
 xi (some e)
 jM 2
 return ()
def yo:M Unit:=do
 rL t.rJ t.js
 return ()
def pa:M Unit:=do
 rL false []
 j1 rec t
 return ()
def rM (own:Bool) (gM:kY):M Unit:=do
 let e <-sW gU own gM
 wG λσ=>{σ with head:=some e}
 mi e
 jM 3
 return ()
def yp:M Unit:=do
 rM t.rJ t.js
 return ()
def pc:M Unit:=do
 rM false []
 j1 rec t
 return ()
def AU:M Unit:=do
 let _ <-yh
 jM 4
 return ()
def nB:M Unit:=do
 AU
 j1 rec t
 return ()
def tZ:M Unit:=do
 jt t
 jM 6
 return ()
def nr:M Unit:=do
 km gE
 jM 6
 j1 rec t
 return ()
def px:M Unit:=λσ=>kq σ.head σ
def pushHead:M Unit:=λσ=>xi σ.head σ
def tA:M Unit:=do
 pushHead
 rec 3 t
 px
 return ()
def MR (of:gz) (b:Bool):M Unit:=wG λσ=>{σ with nC:=of,iZ:=b}
def od (b:Bool):M Unit:=do
 jt t
 MR t.name b
 wG λσ=>{σ with kept:=σ.mode}
 jM 5
 return ()
def ue:M Unit:=do
 od t false
 return ()
def oS:M Unit:=do
 od t true
 return ()
def yP:M Unit:=do
 let _ <-yh
 wG λσ=>{σ with mode:=σ.kept}
 return ()
def Do:M Unit:=do
 yP
 j1 rec t
 return ()
def nG:M Unit:=if sU t.chars then pure ()else do
 lH
 j7 t
 return ()
def oH:M Unit:=λσ=>match iB σ.gA 0 with
 |some i=>(do wh i t;return ():M Unit) σ
 |none=> .stuck
def ql:M Unit:=λσ=>match iB σ.gA 1 with
 |some i=>if kA (σ.nm i) gE then (do wh i t;return ():M Unit) σ else .ok () σ
 |none=> .ok () σ
def mW:M Unit:=do
 oD
 jt t
 return ()
def wE:M Unit:=do
 mW t
 wG λσ=>{σ with behind:=true}
 return ()
def oq:M Unit:=do
 oD
 pZ (ik [me,mf])
 jt t
 return ()
def xl:M Unit:=do
 oD
 lw t
 return ()
def ub:M Unit:=λσ=>match σ.form with
 |some _=> .ok () σ
 |none=>(do
  mW t
  wG λσ=>{σ with form:=σ.last}
  return ():M Unit) σ
def ph:M Unit:=do
 let _ <-ni (ik [hU]) iQ
 ly t
 return ()
def yF:M Unit:=λσ=>if σ.jL then .ok () σ else oD σ
def su:M Unit:=do
 yF
 jt t
 jM 7
 return ()
def pW:M Unit:=do
 ue t
 wG λσ=>{σ with behind:=true}
 return ()
def pj:M Unit:=do
 pZ (ik [gO])
 ly t
 return ()
def qz:M Unit:=do
 ly t
 wG λσ=>{σ with mode:=if σ.mode=7\/σ.mode=9\/σ.mode=11\/σ.mode=12\/σ.mode=13 then 15 else 14}
 return ()
def qZ:M Unit:=λσ=>match σ.pw tl with
 |none=>(do iW t;return ():M Unit) σ
 |some a=>(do
  wX tl
  kH (some a)
  kq (some a)
  iW t
  return ():M Unit) σ
def ud:M Unit:=λσ=>if σ.inScope (ik [iG]) iQ then (do wX iG;iW t;return ():M Unit) σ else (do iW t;return ():M Unit) σ
def sE:M Unit:=do
 lH
 ud t
def pR:M Unit:=do
 wX t.name
 return ()
def pi:M Unit:=do
 ly t
 lu none
 return ()
def sA:M Unit:=do
 let b <-ni (ik [gW]) iQ
 if b then zk else pure ()
def yL:M Unit:=λσ=>if σ.inScope (ik [gE]) iQ then .ok () {σ with mode:=16} else .ok () σ
def yN:M Unit:=λσ=>if σ.inScope (ik [gE]) iQ then (do
  jM 16
  j1 rec t
  return ():M Unit) σ else .ok () σ
def xY:M Unit:=do
 let _ <-ni (ik [t.name]) iQ
 return ()
def tH:M Unit:=do
 let _ <-ni (ik [me,mf]) iQ
 return ()
def AV:M Unit:=do
 let _ <-ni (ik [kK]) acr
 return ()
def Pk:M Unit:=λσ=>if σ.inScope (ik [mZ]) Dk then (do oD;return ():M Unit) σ else (do
  km mZ
  oD
  return ():M Unit) σ
def uG:M Unit:=do
 lH
 km j3
 let _ <-yh
 return ()
def yM:M Unit:=λσ=>match σ.form with
 |none=> .ok () σ
 |some i=>if σ.oJ i then (do
   wG λσ=>{σ with form:=none}
   wG λσ=>σ.mD
   kq (some i)
   return ():M Unit) σ else .ok () {σ with form:=none}
def x7:M Unit:=do
 uH t.name
 return ()
def Iu:M Unit:=jM 17
def vU:M Unit:=do
 jM 6
 j1 rec t
 return ()
def sT:M Unit:=do
 wG λσ=>{σ with iS:=true}
 rec 6 t
 wG λσ=>{σ with iS:=false}
 return ()
def o9:M Unit:=λσ=>if σ.current AA then (do
  wG λσ=>{σ with kept:=σ.mode}
  jM 8
  j1 rec t
  return ():M Unit) σ else (do sT rec t;return ():M Unit) σ
def pB:M Unit:=do
 uE (ik [gg])
 lu none
 jt t
 jM 9
 return ()
def mc:M Unit:=λσ=>match σ.form with
 |some _=> .ok () σ
 |none=>(do
  jt t
  let x <-yh
  wG λσ=>{σ with form:=x}
  return ():M Unit) σ
def Te (s:gz):gz:=⟨s.data.map λb=>if 65<=b.toNat/\b.toNat<=90 then b+32 else b⟩
def uk:kY->Bool
 |[]=>false
 |a::r=>if kA a.1 nJ then kA (Te a.2) lC else uk r
def kM:M Unit:=if uk t.js then (do lw t;return ())else (do sT rec t;return ())
def oK:M Unit:=match t.k with
 | .ke s=>if sU s then pure ()else λσ=>if σ.waiting.length < 4096 then .ok () {σ with waiting:=σ.waiting++[(t.a,t.b,s)]} else .stuck
 |_=>stuck
def rj (x:Nat×Nat×gz):gN:={a:=x.1,b:=x.2.1,k:= .ke x.2.2}
def tM:List (Nat×Nat×gz)->M Unit
 |[]=>pure ()
 |x::r=>do
  j7 (rj x)
  tM r
def tK:List (Nat×Nat×gz)->M Unit
 |[]=>pure ()
 |x::r=>do
  sT rec (rj x)
  tK r
def po:M Unit:=λσ=>if σ.waiting.any λx=>!lR x.2.2 then tK rec σ.waiting σ else tM σ.waiting σ
def rT (ks:List gz) (m:Nat):M Bool:=do
 let b <-ni (ik ks) Az
 if b then (do jM m;return true)else return false
def li (ks:List gz) (m:Nat):M Bool:=do
 let b <-rT ks m
 if b then (do zk;return true)else return false
def jQ (s:gz):Nat:=if ik [iy,iA] s then 13 else if ik [ie] s then 12 else if ik [gq,gu,gr] s then 11 else if ik [gx] s then 9 else if ik [gm] s then 10 else if ik [gg] s then 7 else 6
def tW (σ:Ab):kO->Nat
 |[]=>6
 |x::r=>if jQ (σ.qS x)=6 then tW σ r else jQ (σ.qS x)
def xC:M Unit:=wG λσ=>{σ with mode:=tW σ σ.gA.reverse}
def x8:M Bool:=do
 let b <-ni (ik [gg]) Az
 if b then (do xC;return true)else return false
def tG:M Bool:=li [gx] 7
def my:M Bool:=λσ=>if σ.current (ik [gm])then (do
  let _ <-yh
  jM 7
  return true:M Bool) σ else .ok false σ
def qN:M Bool:=rT [gq,gr,gu] 7
def EA:M Bool:=rT [ie] 11
def endCell:M Bool:=li [iy,iA] 12
def qY:M Unit:=do
 uE (ik [ie])
 jt t
 jM 13
 lu none
 return ()
def pr:M Unit:=if sU t.chars then pure ()else do
 j7 t
 return ()
def j5:M Unit:=do
 pZ (ik [gO])
 jt t
 return ()
def ju:M Unit:=do
 pZ (ik [gO])
 pZ (ik [gn])
 jt t
 return ()
def lK:M Unit:=do
 ju t
 let _ <-yh
 return ()
def jk:M Unit:=λσ=>if σ.current (ik [gO])then (match iB σ.gA (posOf σ.gA σ.last - 1)with
  |none=> .stuck
  |some i=>if kA (σ.nm i) gn then (do
    let _ <-yh
    pZ (ik [gn])
    return ():M Unit) σ else (do pZ (ik [gn]);return ():M Unit) σ)
 else (do pZ (ik [gn]);return ():M Unit) σ
def mM:M Unit:=do
 pZ (ik [gO])
 return ()
def vF:M Bool:=do
 let b <-ni (ik [iY]) (λs=>!(ik [gO] s||ik [gn] s))
 if b then (do xC;return true)else return false
end
theorem tI {a b : gz} (h:kA a b=true):a=b:=by
 unfold kA at h;have d:a.toList=b.toList:=by simpa using h
 rw[sH,sH]at d;apply Ko
 simp_all
def iJ:List Nd->List Nat
 |[]=>[]
 | .el j::r=>j::iJ r
 | .tx _::r=>iJ r
 | .cm _::r=>iJ r
 | .dt _::r=>iJ r
def qL (a b:List Nd):iJ (a++b)=iJ a++iJ b:=by
 induction a with
 |nil=>rfl
 |cons k r ih=>cases k<;>simp[iJ,ih]
def vM:∀{ks:List Nd},j∈iJ ks↔Nd.el j∈ks
 |[]=>by simp[iJ]
 |k::r=>by cases k<;>simp[iJ,vM (ks:=r)]
def AR (ks:List Nd) (n:Nat) (j:Nat):(iJ (ins ks n (.el j))).Perm (j::iJ ks):=by
 unfold ins;have h:iJ ks=iJ (ks.take n)++iJ (ks.drop n):=by rw[<-qL,Gt]
 rw[qL,qL,h];simp[iJ]
theorem Sb (ks:List Nd) (n:Nat) (k:Nd) (b:∀j,k≠ .el j):iJ (ins ks n k)=iJ ks:=by
 unfold ins;have h:iJ ks=iJ (ks.take n)++iJ (ks.drop n):=by rw[<-qL,Gt]
 rw[qL,qL,h];cases k with
 |el j=>grind
 |tx j=>simp[iJ]
 |cm j=>simp[iJ]
 |dt j=>simp[iJ]
theorem Uc (ks:List Nd) (n:Nat) (k:Nd) (b:n<=ks.length):(ins ks n k).length=ks.length+1:=by
 unfold ins;grind
theorem Ul {x : Nd}:x∈ins ks n k↔x=k\/x∈ks:=by
 unfold ins;have h:x∈ks↔x∈ks.take n\/x∈ks.drop n:=by rw[<-List.mem_append,Gt]
 grind
def Um:Bj->Nat
 | .el e=>e.kids.length
 | .tx s=>s.size
 | .cm _=>0
 | .dt _=>0
def wt (σ:Ab):Nat:=(σ.nodes.map Um).sum
theorem Ok:∀(l:List Nat) (i x y:Nat),l[i]?=some x->(l.set i y).sum+x=l.sum+y
 |[],i,x,y,h=>by simp at h
 |a::l,0,x,y,h=>by grind
 |a::l,i+1,x,y,h=>by
  simp at h;have:=Ok l i x y h
  grind
def ZK {n m : Bj} (h:σ.nodes[i]?=some n):((σ.nodes.set i m).map Um).sum+Um n=wt σ+Um m:=by
 unfold wt;rw[List.map_set];exact Ok _ _ _ _ (by simp[h])
def rP {e' : zp} (h:σ.ib i=some e):wt (σ.ic i e')+e.kids.length=wt σ+e'.kids.length:=ZK (m:= .el e') (Ab.jo h)
def ZI (σ:Ab) (nd:Bj):wt (σ.add nd)=wt σ+Um nd:=by simp[wt,Ab.add]
def Eg (σ:Ab) (nd:Bj) (b:Bool):wt (σ.pn nd b)=wt σ+Um nd:=by simp[wt,Ab.pn]
theorem Zy:∀(l:List Nat) (i x:Nat),l[i]?=some x->x<=l.sum
 |[],i,x,h=>by simp at h
 |a::l,0,x,h=>by grind
 |a::l,i+1,x,h=>by
  simp at h;have:=Zy l i x h
  grind
def ZJ {n : Bj} (h:σ.nodes[i]?=some n):Um n<=wt σ:=Zy _ i _ (by simp[h])
def GU (h:σ.ib i=some e):e.kids.length<=wt σ:=ZJ (Ab.jo h)
structure Shp (σ:Ab):Prop where
 up:∀i e p,σ.ib i=some e->e.je=some p->∃ep,σ.ib p=some ep/\i∈iJ ep.kids
 dn:∀i e j,σ.ib i=some e->j∈iJ e.kids->∃ej,σ.ib j=some ej/\ej.je=some i
 nd:∀i e,σ.ib i=some e->(iJ e.kids).Nodup
 kd:∀i e,σ.ib i=some e->∀k∈e.kids,σ.ji k=true
def rk (r:Nat->Nat):jg->Nat
 |some i=>r i
 |none=>0
structure Z6 (r:Nat->Nat) (σ:Ab):Prop where
 je:∀i e p,σ.ib i=some e->e.je=some p->r p < r i
 gA:σ.gA.Pairwise λx y=>rk r x < rk r y
 hd:∀d h,σ.head=some d->σ.gA.head?=some (some h)->r h < r d
def rl (s:gz):Bool:=ik [tl,Gu,AL,iG] s
def iV (σ:Ab) (i:Nat) (s:gz):Prop:=∃e,σ.ib i=some e/\e.name=s
structure jw (r:Nat->Nat) (σ:Ab):Prop where
 nM:Shp σ
 sY:Z6 r σ
 gA:∀x∈σ.gA,σ.mF x=true
 act:∀i,some i∈σ.act->∃e,σ.ib i=some e/\rl e.name=true
 head:∀d,σ.head=some d->iV σ d gU
 form:∀d,σ.form=some d->iV σ d iM
 KB:∀x rest,σ.gA=x::rest->∃h,x=some h/\iV σ h fY
 wT:σ.gA.length<=σ.pQ
 zH:σ.act.length<=σ.qO
 OB:σ.pQ<=64
 RK:σ.qO<=32
 xb:(σ.ib 0).isSome=true
def mL (σ:Ab):Prop:=∃r,jw r σ
structure Fx (σ σ':Ab):Prop where
 mode:σ'.mode=σ.mode
 kept:σ'.kept=σ.kept
 head:σ'.head=σ.head
 form:σ'.form=σ.form
 waiting:σ'.waiting=σ.waiting
 ID:σ'.iS=σ.iS
 jL:σ'.jL=σ.jL
 gQ:σ'.gQ=σ.gQ
 pQ:σ'.pQ=σ.pQ
 qO:σ'.qO=σ.qO
 oZ:σ'.oZ=σ.oZ
 nm:∀i s,iV σ i s->iV σ' i s
 KB:σ.gA≠[]->σ'.gA.head?=σ.gA.head?
def Fx.refl (σ:Ab):Fx σ σ:=⟨rfl,rfl,rfl,rfl,rfl,rfl,rfl,rfl,rfl,rfl,rfl,λ_ _ h=>h,λ_=>rfl⟩
theorem Fx.ne (h:Fx σ σ') (b:σ.gA≠[]):σ'.gA≠[]:=by
 intro e;have:=h.KB b;rw[e]at this;cases ho:σ.gA with
 |nil=>grind
 |cons x r=>grind
def Fx.trans {a b c : Ab} (h:Fx a b) (k:Fx b c):Fx a c:=
 ⟨k.mode.trans h.mode,k.kept.trans h.kept,k.head.trans h.head,k.form.trans h.form,k.waiting.trans h.waiting,k.ID.trans h.ID,k.jL.trans h.jL,k.gQ.trans h.gQ,k.pQ.trans h.pQ,k.qO.trans h.qO,k.oZ.trans h.oZ,λi s g=>k.nm i s (h.nm i s g),λd=>(k.KB (h.ne d)).trans (h.KB d)⟩
def jG {α:Type} (c:Nat) (σ:Ab) (r:pG α) (Q:α->Ab->Prop):Prop:=match r with
 | .ok a σ'=>mL σ'/\Fx σ σ'/\wt σ'<=wt σ+c/\Q a σ'
 | .stop _ p=>p=σ.gQ
 | .stuck=>False
theorem jG.mono {α:Type} {c' : Nat} {r:pG α} {Q b:α->Ab->Prop} (h:jG c σ r Q) (g:c<=c') (d:∀a σ',mL σ'->Fx σ σ'->Q a σ'->b a σ'):jG c' σ r b:=by
 cases r with
 |ok a σ'=>grind[jG]
 |stop e p=>exact h
 |stuck=>exact h
theorem jG.bind {α l:Type} {c1 c2 : Nat} {m:M α} {k:α->M l} {Q:α->Ab->Prop} {g:l->Ab->Prop} (h:jG c1 σ (m σ) Q) (q:∀a σ',mL σ'->Fx σ σ'->wt σ'<=wt σ+c1->Q a σ'->jG c2 σ' (k a σ') g) (u:c1+c2<=c):jG c σ ((m>>=k) σ) g:=by
 rw[M.gy];cases hm:m σ with
 |ok a σ'=>
  rw[hm]at h;have⟨h1,h2,h3,h4⟩:=h;have d:=q a σ' h1 h2 h3 h4;cases hk2:k a σ' with
  |ok b σ2=>
   rw[hk2]at d;dsimp only;rw[hk2];exact⟨d.1,h2.trans d.2.1,by have:=d.2.2.1;omega,d.2.2.2⟩
  |stop e p=>
   rw[hk2]at d;dsimp only;rw[hk2];exact BL d h2.gQ
  |stuck=>grind[jG]
 |stop e p=>rwa [hm]at h
 |stuck=>grind[jG]
def jG.ret {α:Type} (b:mL σ) {Q:α->Ab->Prop} {a:α} (d:Q a σ) (c:Nat:=0):jG c σ ((Pure.pure a:M α) σ) Q:=⟨b,Fx.refl _,by omega,d⟩
def mL.xb (h:mL σ):(σ.ib 0).isSome=true:=by have⟨r,h⟩:=h;exact h.xb
def iV.lt (h:iV σ i s):i < σ.nodes.length:=by have⟨e,he,_⟩:=h;exact Ab.il he
theorem kI (h:σ.mF x=true):∃i e,x=some i/\σ.ib i=some e:=by
 cases x with
 |none=>cases h
 |some i=>have⟨e,he⟩:=Option.isSome_iff_exists.1 h;grind
theorem jw.sub (h:jw r σ) (q:ys.Sublist σ.gA) (g:ys.head?=σ.gA.head?):jw r {σ with gA:=ys}/\Fx σ {σ with gA:=ys}:=by
 refine⟨⟨⟨h.nM.up,h.nM.dn,h.nM.nd,h.nM.kd⟩,⟨h.sY.je,h.sY.gA.sublist q,?_⟩,λx l=>h.gA x (q.subset l),h.act,h.head,h.form,?_,jN q.length_le h.wT,h.zH,h.OB,h.RK,h.xb⟩,⟨rfl,rfl,rfl,rfl,rfl,rfl,rfl,rfl,rfl,rfl,rfl,λ_ _ h=>h,λ_=>g⟩⟩
 .intro d x v l;exact h.sY.hd d x v (by grind)
 .intro x b l;have u:ys=x::b:=l;rw[u]at g;cases ho:σ.gA with
  |nil=>grind
  |cons y r2=>
   rw[ho]at g;have e:x=y:=by simpa using g
   subst e;exact h.KB x r2 ho
def wU (r:Nat->Nat) (n x:Nat):Nat->Nat:=λi=>if i=n then x else r i
def yv (r:Nat->Nat) (n x:Nat):wU r n x n=x:=by simp[wU]
def zm {x : Nat} (h:i≠n):wU r n x i=r i:=by simp[wU,h]
def Shp.adM (h:Shp σ) (b:σ.ib i=some e) (d:e.je=some p):p < σ.nodes.length:=by
 have⟨ep,h1,_⟩:=h.up i e p b d;exact Ab.il h1
def jw.ER (h:jw r σ) (b:some i∈σ.gA):i < σ.nodes.length:=by
 have⟨j,e,hj,he⟩:=kI (h.gA _ b);cases hj;exact Ab.il he
theorem Z6.congr {b : Nat->Nat} (h:Z6 r σ) (q:∀i e p,σ.ib i=some e->e.je=some p->b p < b i) (l:∀i,some i∈σ.gA->b i=r i) (g:∀d h,σ.head=some d->σ.gA.head?=some (some h)->b h < b d):Z6 b σ:=by
 refine⟨q,?_,g⟩;refine h.gA.imp_of_mem ?_;intro x y B C u;have A:∀z∈σ.gA,rk b z=rk r z:=by
  intro z v;cases z with
  |none=>rfl
  |some i=>exact l i v
 grind
theorem jw.new (h:jw r σ) (q:gz) (gM:kY) (b:Bool) (x:Nat):jw (wU r σ.nodes.length x) (σ.pn (.el {name:=q,gV:=gM,je:=none,kids:=[]}) b)/\Fx σ (σ.pn (.el {name:=q,gV:=gM,je:=none,kids:=[]}) b):=by
 obtain⟨A,N⟩:∃A:Bj,A= .el {name:=q,gV:=gM,je:=none,kids:=[]}:=⟨_,rfl⟩;rw[<-N];have Q:∀i,(σ.pn A b).ib i=(σ.add A).ib i:=λ_=>rfl;have G:∀i e,σ.ib i=some e->(σ.pn A b).ib i=some e:=λi e F=>by grind[Ab.ib,Ab.pn]
 have g:∀i e,(σ.pn A b).ib i=some e->σ.ib i=some e\/(i=σ.nodes.length/\e={name:=q,gV:=gM,je:=none,kids:=[]}):=by
  intro i e F;rcases Ab.Io (nd:=A) F with⟨_,l⟩|⟨l,J⟩
  .grind
  .grind
 have B:∀i s,iV σ i s->iV (σ.pn A b) i s:=λi s ⟨e,F,S⟩=>⟨e,G i e F,S⟩;have v:∀i,i < σ.nodes.length->wU r σ.nodes.length x i=r i:=λi u=>zm (by omega);refine⟨⟨⟨?_,?_,?_,?_⟩,⟨?_,?_,?_⟩,λy C=>Ab.L5 (h.gA y C),λi u=>?_,λd D=>B _ _ (h.head d D),λd D=>B _ _ (h.form d D),λy H C=>?_,h.wT,h.zH,h.OB,h.RK,?_⟩,⟨rfl,rfl,rfl,rfl,rfl,rfl,rfl,rfl,rfl,rfl,rfl,B,λ_=>rfl⟩⟩
 .intro i e p u I;rcases g i e u with l|⟨_,l⟩
  .have⟨ep,J,h3⟩:=h.nM.up i e p l I
   grind
  grind
 .intro i e j u K;rcases g i e u with l|⟨_,l⟩
  .have⟨ej,J,h3⟩:=h.nM.dn i e j l K
   grind
  .rw[l]at K;simp[iJ]at K
 .intro i e u;rcases g i e u with l|⟨_,l⟩
  .exact h.nM.nd i e l
  grind[iJ]
 .intro i e u k R;rcases g i e u with l|⟨_,l⟩
  .exact Ab.EJ (h.nM.kd i e l k R)
  grind
 .intro i e p u I;rcases g i e u with l|⟨_,l⟩
  .rw[v p (h.nM.adM l I),v i (Ab.il l)];exact h.sY.je i e p l I
  grind
 .refine h.sY.gA.imp_of_mem ?_;intro y z C P T;have U:∀z∈σ.gA,rk (wU r σ.nodes.length x) z=rk r z:=by
   intro z P;cases z with
   |none=>rfl
   |some i=>exact v i (h.ER P)
  grind
 .intro d y D C;have O:some y∈σ.gA:=List.mem_of_mem_head? C;rw[v y (h.ER O),v d (h.head d D).lt];exact h.sY.hd d y D C
 .have⟨e,F,hf⟩:=h.act i u
  grind
 .have⟨z,l,J⟩:=h.KB y H C
  grind
 .have⟨e,F⟩:=Option.isSome_iff_exists.1 h.xb
  grind
theorem zX (r:Nat->Nat):∀n,∃B,∀i,i < n->r i<=B
 |0=>⟨0,λi b=>by omega⟩
 |n+1=>by
  have⟨B,hB⟩:=zX r n;refine⟨B+r n,λi b=>?_⟩
  grind
theorem jw.raise (h:jw r σ) (B:σ.ib j=some e) (C:iJ e.kids=[]) (D:some j∉σ.gA) {x : Nat} (F:r j<=x):jw (wU r j x) σ:=by
 refine {h with sY:=h.sY.congr ?_ ?_ ?_}
 .intro i ei p q u;have b:p≠j:=by
   rintro rfl;have⟨ep,h1,h2⟩:=h.nM.up i ei p q u;rw[B]at h1;cases h1;rw[C]at h2;cases h2
  rw[zm b];have:=h.sY.je i ei p q u
  grind[wU]
 .grind[wU]
 .intro d y A v;have g:some y∈σ.gA:=List.mem_of_mem_head? v;have l:y≠j:=by rintro rfl;exact D g
  rw[zm l];have:=h.sY.hd d y A v
  grind[wU]
def Bd (σ:Ab) (pl:Nat×Nat):Prop:=∃e,σ.ib pl.1=some e/\pl.2<=e.kids.length
theorem jw.put (h:jw r σ) (D:Bd σ pl) (C:σ.ib j=some ej) (F:ej.je=none) (hr:r pl.1 < r j) (hw:wt σ < 1000000):
  ∃σ',mN pl j σ= .ok () σ'/\jw r σ'/\Fx σ σ'/\wt σ'=wt σ+1/\σ'.gA=σ.gA/\σ'.act=σ.act/\σ'.fresh=σ.fresh/\σ'.nodes.length=σ.nodes.length/\(∀i e,σ.ib i=some e->∃q,σ'.ib i=some q/\q.name=e.name/\q.gV=e.gV/\(i≠pl.1->q.kids=e.kids)/\(i≠j->q.je=e.je))/\(∀q,σ'.ib j=some q->q.je=some pl.1):=by
 have⟨ei,hi,X⟩:=D;have A:j≠pl.1:=by rintro rfl;omega
 have hl:=GU hi;have U:=Ab.il hi;have a0:=Ab.il C;obtain⟨σ',b⟩:∃σ',σ'=(σ.ic pl.1 {ei with kids:=ins ei.kids pl.2 (.el j)}).ic j {ej with je:=some pl.1}:=⟨_,rfl⟩;have hq:mN pl j σ= .ok () σ':=by
  unfold mN;rw[hi,C];dsimp only;rw[gF ⟨A,X,by omega⟩,b]
 have g1:σ'.ib pl.1=some {ei with kids:=ins ei.kids pl.2 (.el j)}:=by rw[b,Ab.iT (xn A),Ab.iX U]
 have g2:σ'.ib j=some {ej with je:=some pl.1}:=by rw[b,Ab.iX (by grind[Ab.ic])]
 have g3:∀i,i≠pl.1->i≠j->σ'.ib i=σ.ib i:=λi g v=>by rw[b,Ab.iT v,Ab.iT g]
 have H:(σ.ib pl.1).isSome=true:=by rw[hi];rfl
 have I:((σ.ic pl.1 {ei with kids:=ins ei.kids pl.2 (.el j)}).ib j).isSome=true:=by rw[Ab.iT A,C];rfl
 have gk:∀k,σ'.ji k=σ.ji k:=λk=>by rw[b,Ab.la I,Ab.la H]
 have ge:∀x,σ'.mF x=σ.mF x:=λx=>by rw[b,Ab.yc I,Ab.yc H]
 have B:∀i e,σ.ib i=some e->∃q,σ'.ib i=some q/\q.name=e.name/\q.gV=e.gV/\(i≠pl.1->q.kids=e.kids)/\(i≠j->q.je=e.je):=by
  intro i e G
  by_cases g:i=pl.1
  .grind
  .grind
 have l:∀i q,σ'.ib i=some q->(i=pl.1/\q={ei with kids:=ins ei.kids pl.2 (.el j)})\/(i=j/\q={ej with je:=some pl.1})\/(i≠pl.1/\i≠j/\σ.ib i=some q):=by
  intro i q G
  by_cases g:i=pl.1
  .grind
  .grind
 have K:∀i s,iV σ i s->iV σ' i s:=λi s ⟨e,G,X⟩=>by
  grind[iV]
 have V:j∉iJ ei.kids:=by
  intro hm;have⟨ej2,g,v⟩:=h.nM.dn _ _ _ hi hm;rw[C]at g;cases g;rw[F]at v;cases v
 have W:∀i e,σ.ib i=some e->∀q,σ'.ib i=some q->∀x,x∈iJ e.kids->x∈iJ q.kids:=by
  intro i e G q S x N;rcases l i q S with⟨g,rfl⟩|⟨g,rfl⟩|⟨_,_,g⟩
  .subst g;rw[hi]at G;cases G;exact(AR ei.kids pl.2 j).mem_iff.2 (oX _ N)
  .grind
  .grind
 refine⟨σ',hq,⟨⟨?_,?_,?_,?_⟩,⟨?_,?_,?_⟩,λx N=>?_,λi u=>?_,λd R=>K _ _ (h.head d ?_),λd R=>K _ _ (h.form d ?_),λy O hy=>?_,?_,?_,?_,?_,?_⟩,?_,?_,?_,?_,?_,?_,B,?_⟩
 .intro i e p u D;rcases l i e u with⟨g,rfl⟩|⟨g,rfl⟩|⟨_,_,g⟩
  .rw[g]at *;have⟨ep,v,h3⟩:=h.nM.up _ _ p hi D
   grind
  .cases D;exact⟨_,g1,by rw[g];exact(AR ei.kids pl.2 j).mem_iff.2 (pP ..)⟩
  .have⟨ep,v,h3⟩:=h.nM.up _ _ p g D
   grind
 .intro i e x u N;have old:∀P,σ.ib i=some P->x∈iJ P.kids->∃Q,σ'.ib x=some Q/\Q.je=some i:=by
   intro P T Y;have⟨Q,v,h3⟩:=h.nM.dn i P x T Y;have Z:x≠j:=by rintro rfl;rw[C]at v;cases v;rw[F]at h3;cases h3
   have⟨ex',h4,_,_,_,h5⟩:=B x Q v;exact⟨ex',h4,(h5 Z).trans h3⟩
  rcases l i e u with⟨g,rfl⟩|⟨g,rfl⟩|⟨_,_,g⟩
  .rw[g]at old|-;rcases List.mem_cons.1 ((AR ei.kids pl.2 j).mem_iff.1 N)with v|v
   all_goals grind
  .grind
  grind
 .intro i e u;rcases l i e u with⟨g,rfl⟩|⟨g,rfl⟩|⟨_,_,g⟩
  .exact(AR ei.kids pl.2 j).nodup_iff.2 (List.nodup_cons.2 ⟨V,h.nM.nd _ _ hi⟩)
  .show(iJ ej.kids).Nodup;exact h.nM.nd _ _ C
  .exact h.nM.nd _ _ g
 .intro i e u k J;rw[gk];rcases l i e u with⟨g,rfl⟩|⟨g,rfl⟩|⟨_,_,g⟩
  .rcases Ul.1 J with rfl|J
   .grind[Ab.ji]
   .exact h.nM.kd _ _ hi k J
  .exact h.nM.kd _ _ C k J
  .exact h.nM.kd _ _ g k J
 .intro i e p u D;rcases l i e u with⟨g,rfl⟩|⟨g,rfl⟩|⟨_,_,g⟩
  .rw[g];exact h.sY.je _ _ p hi D
  .grind
  .exact h.sY.je _ _ p g D
 .rw[b];exact h.sY.gA
 .rw[b];exact h.sY.hd
 .rw[ge];exact h.gA x (by rwa [b]at N)
 .have⟨e,G,hf⟩:=h.act i (by rw[b]at u;exact u)
  grind
 .rwa [b]at R
 .rwa [b]at R
 .have⟨z,g,v⟩:=h.KB y O (by rwa [b]at hy)
  grind
 .rw[b];exact h.wT
 .rw[b];exact h.zH
 .rw[b];exact h.OB
 .rw[b];exact h.RK
 .have⟨e,G⟩:=Option.isSome_iff_exists.1 h.xb
  grind
 .rw[b];exact⟨rfl,rfl,rfl,rfl,rfl,rfl,rfl,rfl,rfl,rfl,rfl,by grind,λ_=>rfl⟩
 .have w1:=rP (e':={ei with kids:=ins ei.kids pl.2 (.el j)}) hi;have w2:=rP (σ:=σ.ic pl.1 {ei with kids:=ins ei.kids pl.2 (.el j)}) (e':={ej with je:=some pl.1}) (by rw[Ab.iT A];exact C);have w3:=Uc ei.kids pl.2 (.el j) X
  grind
 .rw[b];rfl
 .rw[b];rfl
 .rw[b];rfl
 .rw[b,Ab.nD,Ab.nD]
 grind
theorem jw.alike (h:jw r σ) (U:∀i e,σ.ib i=some e->∃b,σ'.ib i=some b/\b.name=e.name/\b.je=e.je/\iJ b.kids=iJ e.kids) (T:∀i b,σ'.ib i=some b->∃e,σ.ib i=some e) (V:∀i b,σ'.ib i=some b->∀k∈b.kids,σ'.ji k=true)
  (A:σ'.gA=σ.gA:=by rfl) (J:σ'.act=σ.act:=by rfl) (u:σ'.head=σ.head:=by rfl) (D:σ'.form=σ.form:=by rfl) (F:σ'.pQ=σ.pQ:=by rfl) (G:σ'.qO=σ.qO:=by rfl) (K:σ'.mode=σ.mode:=by rfl) (N:σ'.kept=σ.kept:=by rfl) (O:σ'.waiting=σ.waiting:=by rfl) (P:σ'.iS=σ.iS:=by rfl) (Q:σ'.jL=σ.jL:=by rfl) (R:σ'.gQ=σ.gQ:=by rfl) (S:σ'.oZ=σ.oZ:=by rfl):jw r σ'/\Fx σ σ':=by
 have q:∀i s,iV σ i s->iV σ' i s:=λi s ⟨e,v,W⟩=>by
  grind[iV]
 have g:∀i b,σ'.ib i=some b->∃e,σ.ib i=some e/\b.name=e.name/\b.je=e.je/\iJ b.kids=iJ e.kids:=by
  intro i b B;have⟨e,v⟩:=T i b B;have⟨e2,u,D⟩:=U i e v;rw[B]at u;cases u;exact⟨e,v,D⟩
 refine⟨⟨⟨?_,?_,?_,V⟩,⟨?_,?_,?_⟩,?_,?_,?_,?_,?_,?_,?_,?_,?_,?_⟩,⟨K,N,u,D,O,P,Q,R,F,G,S,q,λ_=>by rw[A]⟩⟩
 .intro i e p l X;have⟨e0,g1,_,g3,_⟩:=g i e l;have⟨ep,g4,g5⟩:=h.nM.up i e0 p g1 (by grind)
  grind
 .intro i e j l Y;have⟨e0,g1,_,_,g4⟩:=g i e l;have⟨ej,g5,g6⟩:=h.nM.dn i e0 j g1 (by grind)
  grind
 .intro i e l;have⟨e0,g1,_,_,g4⟩:=g i e l;rw[g4];exact h.nM.nd i e0 g1
 .intro i e p l X;have⟨e0,g1,_,g3,_⟩:=g i e l;exact h.sY.je i e0 p g1 (by grind)
 .rw[A];exact h.sY.gA
 .rw[u,A];exact h.sY.hd
 .rw[A];intro x I;obtain⟨i,e,rfl,v⟩:=kI (h.gA x I)
  grind[Ab.mF]
 .rw[J];intro i l;have⟨e,v,W⟩:=h.act i l
  grind
 .rw[u];exact λd H=>q _ _ (h.head d H)
 .rw[D];exact λd H=>q _ _ (h.form d H)
 .rw[A];intro x C I;have⟨z,g1,g2⟩:=h.KB x C I
  grind
 .rw[A,F];exact h.wT
 .rw[J,G];exact h.zH
 .rw[F];exact h.OB
 .rw[G];exact h.RK
 .have⟨e,v⟩:=Option.isSome_iff_exists.1 h.xb
  grind
theorem jw.uW (h:jw r σ) (nd:Bj) (q:∀e,nd≠ .el e):jw r (σ.add nd)/\Fx σ (σ.add nd):=by
 refine h.alike (λi e u=>⟨e,by grind[Ab.ib,Ab.add],rfl,rfl,rfl⟩) ?_ ?_
 .grind[Ab.ib,Ab.add]
 .intro i g b k l;rcases Ab.Io (nd:=nd) b with⟨_,d⟩|⟨_,d⟩
  .exact Ab.EJ (h.nM.kd i g d k l)
  grind
theorem jw.aeB (h:jw r σ) (l:σ.ib i=some ei) (C:∀j,k≠ .el j) (F:σ.ji k=true) (D:n<=ei.kids.length):jw r (σ.ic i {ei with kids:=ins ei.kids n k})/\Fx σ (σ.ic i {ei with kids:=ins ei.kids n k})/\wt (σ.ic i {ei with kids:=ins ei.kids n k})=wt σ+1:=by
 have B:(σ.ib i).isSome=true:=by rw[l];rfl
 have g:∀j d,(σ.ic i {ei with kids:=ins ei.kids n k}).ib j=some d->(j=i/\d={ei with kids:=ins ei.kids n k})\/(j≠i/\σ.ib j=some d):=by
  intro j d b
  by_cases q:j=i
  .subst q;rw[Ab.iX (Ab.il l)]at b;grind
  .rw[Ab.iT q]at b;grind
 have u:=h.alike (σ':=σ.ic i {ei with kids:=ins ei.kids n k}) (λj e A=>by
  by_cases q:j=i
  .subst q;rw[l]at A;cases A;exact⟨_,Ab.iX (Ab.il l),rfl,rfl,Sb _ _ _ C⟩
  .exact⟨e,by rw[Ab.iT q];exact A,rfl,rfl,rfl⟩) (λj d b=>by
  grind) (λj d b x v=>by
  rw[Ab.la B];rcases g j d b with⟨_,rfl⟩|⟨_,u⟩
  .rcases Ul.1 v with rfl|v
   .exact F
   .exact h.nM.kd _ _ l x v
  .exact h.nM.kd _ _ u x v)
 refine⟨u.1,u.2,?_⟩;have G:=rP (e':={ei with kids:=ins ei.kids n k}) l;have H:=Uc ei.kids n k D
 grind
theorem jw.ol (h:jw r σ) (d:σ.nodes[t]?=some (.tx old)):jw r (σ.ol t s)/\Fx σ (σ.ol t s)/\wt (σ.ol t s)+old.size=wt σ+s.size:=by
 have l:=h.alike (σ':=σ.ol t s) (λi e u=>⟨e,by grind[Ab.ib,Ab.ol],rfl,rfl,rfl⟩) (λi g b=>⟨g,by rw[Ab.tc d]at b;exact b⟩) (λi g b k q=>by
  rw[Ab.Gk d];rw[Ab.tc d]at b;exact h.nM.kd i g b k q)
 exact⟨l.1,l.2,ZK (m:= .tx s) d⟩
structure Rest (σ σ':Ab):Prop where
 gA:σ'.gA=σ.gA
 act:σ'.act=σ.act
 fresh:σ'.fresh=σ.fresh
 behind:σ'.behind=σ.behind
 nC:σ'.nC=σ.nC
 iZ:σ'.iZ=σ.iZ
theorem Qo (h:mL σ) (v:Bd σ pl) (s:gz) (H:wt σ+s.size+1<=1000000):jG (s.size+1) σ (uL pl s σ) (λ_ σ'=>Rest σ σ'):=by
 have⟨r,h⟩:=h;have⟨ei,hi,hn⟩:=v;have F:=GU hi;unfold uL;rw[hi];dsimp only;rw[gF ⟨hn,by omega⟩];have A:jG (s.size+1) σ (.ok () ((σ.add (.tx s)).ic pl.1 {ei with kids:=ins ei.kids pl.2 (.tx σ.nodes.length)}):pG Unit) (λ_ σ'=>Rest σ σ'):=by
  have⟨a1,a2⟩:=h.uW (.tx s) (λe l=>by cases l);have g:(σ.add (.tx s)).ib pl.1=some ei:=by rw[Ab.tF (Ab.il hi)];exact hi
  have d:(σ.add (.tx s)).ji (.tx σ.nodes.length)=true:=by simp[Ab.ji,Ab.add]
  have⟨b1,b2,b3⟩:=a1.aeB (n:=pl.2) g (λj q=>by cases q) d hn;have I:=ZI σ (.tx s);have J:Um (.tx s)=s.size:=rfl;exact⟨⟨r,b1⟩,a2.trans b2,by omega,⟨rfl,rfl,rfl,rfl,rfl,rfl⟩⟩
 split
 .rename_i t G;have u:Nd.tx t∈ei.kids:=by
   by_cases B:pl.2=0
   .grind
   .grind
  have b:=h.nM.kd _ _ hi _ u;unfold Ab.ji at b;dsimp only at b;cases hx:σ.nodes[t]? with
  |none=>grind
  |some nd=>
   rw[hx]at b;cases nd with
   |tx old=>
    have C:Um (.tx old)<=wt σ:=ZJ hx;have D:Um (.tx old)=old.size:=rfl;dsimp only;rw[gF (by omega)];have⟨b1,b2,b3⟩:=h.ol (s:=old++s) hx;have:(old++s).size=old.size+s.size:=ByteArray.size_append;exact⟨⟨r,b1⟩,b2,by omega,⟨rfl,rfl,rfl,rfl,rfl,rfl⟩⟩
   |el e=>cases b
   |cm s=>cases b
   |dt s=>cases b
 omega
def EY (h:mL σ) (u:Bd σ pl) (nd:Bj) (k:Nat->Nd) (b:(∃s,nd= .cm s/\k= .cm)\/(∃s,nd= .dt s/\k= .dt)) (B:wt σ+1<=1000000):jG 1 σ (oP pl nd k σ) (λ_ σ'=>Rest σ σ'):=by
 have⟨r,h⟩:=h;have⟨ei,hi,hn⟩:=u;have A:=GU hi;have q:∀e,nd≠ .el e:=by rintro e rfl;rcases b with⟨s,h,_⟩|⟨s,h,_⟩<;>cases h
 have l:∀i j,k i≠ .el j:=by rintro i j;rcases b with⟨s,_,h⟩|⟨s,_,h⟩<;>(rw[h];simp)
 have v:Um nd=0:=by rcases b with⟨s,h,_⟩|⟨s,h,_⟩<;>(rw[h];rfl)
 have⟨a1,a2⟩:=h.uW nd q;have g:(σ.add nd).ib pl.1=some ei:=by rw[Ab.tF (Ab.il hi)];exact hi
 have d:(σ.add nd).ji (k σ.nodes.length)=true:=by
  rcases b with⟨s,rfl,rfl⟩|⟨s,rfl,rfl⟩<;>simp[Ab.ji,Ab.add]
 have⟨b1,b2,b3⟩:=a1.aeB (n:=pl.2) g (l _) d hn;have C:=ZI σ nd;unfold oP zB;rw[g];dsimp only;rw[gF ⟨d,hn,by omega⟩];exact⟨⟨r,b1⟩,a2.trans b2,by omega,⟨rfl,rfl,rfl,rfl,rfl,rfl⟩⟩
theorem Uq (h:i∈iJ ks):0<=qg ks (Nd.gX i)/\(qg ks (Nd.gX i)).toNat < ks.length:=by
 have b:ks.findIdx (Nd.gX i) < ks.length:=ZQ ⟨_,vM.1 h,by simp[Nd.gX]⟩
 grind[qg]
theorem qP (xs:kO) (n:Nat):iB xs (n:Int)=xs.getD n none:=by
 grind[iB]
theorem jw.at (h:jw r σ) (b:n < σ.gA.length):∃i e,σ.gA[n]?=some (some i)/\σ.ib i=some e:=by
 have⟨i,e,h1,h2⟩:=kI (h.gA _ (uP b))
 grind
def FV (h:jw r σ) (A:some i∈σ.gA) (D:some i≠iB σ.gA 0):∃pl,mB i σ= .ok pl σ/\Bd σ pl/\r pl.1 < r i/\(some pl.1∈σ.gA\/∃e c,σ.ib pl.1=some e/\c∈iJ e.kids):=by
 have⟨i',e,e1,he⟩:=kI (h.gA _ A);cases e1;unfold mB;rw[he];dsimp only;cases hp:e.je with
 |some p=>
  have⟨ep,b,g⟩:=h.nM.up i e p he hp;have⟨u,v⟩:=Uq g;dsimp only;rw[b];dsimp only;rw[gF u];exact⟨_,rfl,⟨ep,b,by omega⟩,h.sY.je i e p he hp,.inr ⟨ep,i,b,g⟩⟩
 |none=>
  dsimp only;have b:σ.gA.idxOf (some i) < σ.gA.length:=List.idxOf_lt_length_of_mem A;have g:posOf σ.gA (some i)=(σ.gA.idxOf (some i):Int):=by unfold posOf;rw[gF b]
  have u:σ.gA.idxOf (some i)≠0:=by
   intro B;apply D;have:=List.getElem_idxOf b;rw[show(0:Int)=((0:Nat):Int)from rfl,qP];simp only[B]at this;rw[xo,rq (by omega),<-this];rfl
  have⟨q,eq,hq,he2⟩:=h.at (n:=σ.gA.idxOf (some i) - 1) (by omega);have v:iB σ.gA (posOf σ.gA (some i) - 1)=some q:=by
   rw[g,show(σ.gA.idxOf (some i):Int) - 1=((σ.gA.idxOf (some i) - 1:Nat):Int) by omega,qP,xo,hq];rfl
  rw[v];dsimp only;unfold jx;rw[he2];refine⟨_,rfl,⟨eq,he2,ij _⟩,?_,.inl (tu hq)⟩;have d:=List.pairwise_iff_getElem.1 h.sY.gA (σ.gA.idxOf (some i) - 1) (σ.gA.idxOf (some i)) (by omega) b (by omega);rw[List.getElem_idxOf b]at d;have C:σ.gA[σ.gA.idxOf (some i) - 1]'(by omega)=some q:=by
   have:=rq (l:=σ.gA) (i:=σ.gA.idxOf (some i) - 1) (by omega);rw[hq]at this;exact(jK this).symm
  rwa [C]at d
theorem FW:∀{xs:kO} {x:jg},rU σ xs=some x->x∈xs/\x≠iB σ.gA 0/\kA (σ.qS x) gg=true
 |[],x,h=>by cases h
 |y::xs,x,h=>by
  unfold rU at h;split at h
  .have⟨h1,h2⟩:=FW h
   grind
  grind
theorem jw.first (h:jw r σ) (d:σ.gA≠[]):∃q e b,σ.gA=some q::b/\iB σ.gA 0=some q/\σ.ib q=some e/\e.name=fY:=by
 cases ho:σ.gA with
 |nil=>grind
 |cons x b=>
  obtain⟨q,rfl,e,g,l⟩:=h.KB x b ho
  grind[iB]
theorem Ra (h:jw r σ):σ.AB=true:=by
 unfold Ab.AB;rw[RD];intro x b;obtain⟨i,e,rfl,g⟩:=kI (h.gA x b);dsimp only
 by_cases d:some i=iB σ.gA 0
 .grind
 .have⟨pl,h1,_⟩:=FV h b d;rw[h1];simp[pG.isOk]
theorem Ad (h:jw r σ) (d:σ.gA≠[]):∃pl,j4 σ= .ok pl σ/\Bd σ pl/\(some pl.1∈σ.gA\/∃e c,σ.ib pl.1=some e/\c∈iJ e.kids)/\((∃i,some i∈σ.gA/\kA (σ.nm i) gg=true/\rU σ σ.gA.reverse=some (some i)/\r pl.1 < r i)\/iB σ.gA 0=some pl.1):=by
 unfold j4;rw[gF (Ra h)];have⟨q,eq,rest,ho,hq,g,_⟩:=h.first d;cases hf:rU σ σ.gA.reverse with
 |none=>
  dsimp only;rw[hq];dsimp only;unfold jx;rw[g]
  grind[Bd]
 |some x=>
  have⟨h1,h2,h3⟩:=FW hf;have b:x∈σ.gA:=List.mem_reverse.1 h1;obtain⟨i,e,rfl,g⟩:=kI (h.gA x b);dsimp only;have⟨pl,p1,p2,p3,p4⟩:=FV h b h2;exact⟨pl,p1,p2,p4,.inl ⟨i,b,h3,rfl,p3⟩⟩
theorem Qk (h:jw r σ) (b:some i∈σ.gA):∃pl,placeFor i σ= .ok pl σ/\Bd σ pl/\(some pl.1∈σ.gA\/∃e c,σ.ib pl.1=some e/\c∈iJ e.kids):=by
 have⟨i',e,e1,he⟩:=kI (h.gA _ b);cases e1;unfold placeFor;split
 .have⟨pl,h1,h2,h3,_⟩:=Ad h (List.ne_nil_of_mem b)
  grind
 .unfold jx;rw[he]
  grind[Bd]
theorem NC (h:jw r σ) (b:σ.gA≠[]):∃i e,σ.last=some i/\some i∈σ.gA/\σ.gA.getLast?=some (some i)/\σ.ib i=some e:=by
 have d:0 < σ.gA.length:=List.length_pos_iff.2 b;have⟨i,e,h1,h2⟩:=h.at (n:=σ.gA.length - 1) (by omega);refine⟨i,e,?_,tu h1,by grind,h2⟩;unfold Ab.last;rw[show(σ.gA.length:Int) - 1=((σ.gA.length - 1:Nat):Int) by omega,qP,xo,h1];rfl
theorem ES (h:jw r σ) (b:σ.gA≠[]):∃pl,mV σ= .ok pl σ/\Bd σ pl/\(some pl.1∈σ.gA\/∃e c,σ.ib pl.1=some e/\c∈iJ e.kids):=by
 have⟨i,e,h1,h2,_⟩:=NC h b;have⟨pl,h3,h4⟩:=Qk h h2
 grind[mV]
theorem jw.push (h:jw r σ) (A:σ.ib j=some e) (D:∀x∈σ.gA,rk r x < r j) (C:σ.gA.length < σ.pQ) (q:σ.gA≠[]\/(e.name=fY/\σ.head=none)):jw r {σ with gA:=σ.gA++[some j]}/\Fx σ {σ with gA:=σ.gA++[some j]}:=by
 have v:σ.gA≠[]->(σ.gA++[some j]).head?=σ.gA.head?:=by
  intro B;cases ho:σ.gA with
  |nil=>grind
  |cons x l=>rfl
 refine⟨⟨⟨h.nM.up,h.nM.dn,h.nM.nd,h.nM.kd⟩,⟨h.sY.je,?_,?_⟩,?_,h.act,h.head,h.form,?_,?_,h.zH,h.OB,h.RK,h.xb⟩,⟨rfl,rfl,rfl,rfl,rfl,rfl,rfl,rfl,rfl,rfl,rfl,λ_ _ h=>h,v⟩⟩
 .refine List.pairwise_append.2 ⟨h.sY.gA,by simp,λx b y F=>?_⟩
  grind[rk]
 .intro d x u b;rcases q with q|⟨_,q⟩
  .exact h.sY.hd d x u (by grind)
  grind
 .intro x b;rcases List.mem_append.1 b with b|b
  .exact h.gA x b
  .rw[List.mem_singleton.1 b];show(σ.ib j).isSome=true;grind
 .intro x l b;have g:σ.gA++[some j]=x::l:=b;cases ho:σ.gA with
  |nil=>
   rw[ho]at g;injection g with h1 h2;rcases q with q|⟨q,_⟩
   .grind
   .exact⟨j,h1.symm,e,A,q⟩
  |cons y r2=>
   rw[ho]at g;injection g with h1 h2;have⟨z,h3,h4⟩:=h.KB y r2 ho;exact⟨z,h1▸h3,h4⟩
 grind
def M7 (h:e.kids=[]):iJ e.kids=[]:=by rw[h];rfl
structure afc (σ:Ab) (j:Nat) (σ':Ab):Prop where
 gA:σ'.gA=σ.gA++[some j]
 act:σ'.act=σ.act
 fresh:σ'.fresh=σ.fresh
 len:σ'.nodes.length=σ.nodes.length
theorem L0 (h:mL σ) (b:σ.ib j=some e) (d:e.je=none) (C:e.kids=[]) (F:some j∉σ.gA) (u:σ.gA≠[]) (N:wt σ < 999999):jG 1 σ (mi j σ) (λ_ σ'=>afc σ j σ'):=by
 have⟨r,h⟩:=h;have⟨pl,p1,p2,G⟩:=ES h u;have I:pl.1≠j:=by
  rintro rfl;rcases G with G|⟨e2,c,g,A⟩
  .grind
  .rw[b]at g;cases g;rw[C]at A;cases A
 have⟨B,hB⟩:=zX r σ.nodes.length;have K:=h.raise b (M7 C) F (x:=B+1) (by have:=hB j (Ab.il b);omega);have J:pl.1 < σ.nodes.length:=by have⟨e2,g,_⟩:=p2;exact Ab.il g
 have⟨σ',q1,q2,q3,q4,q5,q6,q7,q8,q9,q10⟩:=K.put p2 b d (by grind[wU]) (by omega);unfold mi;rw[M.gy,p1];dsimp only;rw[M.gy,q1];dsimp only;rw[M.gy];unfold xi;have⟨e',e1,e2,_⟩:=q9 j e b
 by_cases D:σ'.pQ<=σ'.gA.length
 .rw[gF D];exact q3.gQ
 .rw[gR D];have l:σ'.mF (some j)=true:=by show(σ'.ib j).isSome=true;rw[e1];rfl
  rw[gF l];dsimp only;have⟨g1,g2⟩:=q2.push e1 (by
   intro x v;rw[q5]at v;rw[yv];obtain⟨i,ei,rfl,H⟩:=kI (h.gA x v);show wU r j (B+1) i < _;have q:i≠j:=by rintro rfl;exact F v
   rw[zm q];have:=hB i (Ab.il H);omega) (by omega) (.inl (by grind))
  exact⟨⟨_,g1⟩,q3.trans g2,by grind[wt],⟨by grind,q6,q7,q8⟩⟩
def tX (xs:kO) (k:Nat):(xs.reverse.drop k).reverse=xs.take (xs.length - k):=by
 rw[List.reverse_drop];simp
theorem J8 (σ:Ab) (p:gz->Bool):∀ys:kO,(∃x∈ys,p (σ.qS x)=true)->∃k,1<=k/\k<=ys.length/\Ab.AE σ p ys=ys.drop k/\∃x,ys[k - 1]?=some x/\p (σ.qS x)=true
 |[],h=>by grind
 |y::ys,h=>by
  unfold Ab.AE
  by_cases b:p (σ.qS y)=true
  .rw[gF b];exact⟨1,ij _,by simp,rfl,y,rfl,b⟩
  .rw[gR b];have⟨x,d,hpx⟩:=h;have g:x∈ys:=by
    rcases List.mem_cons.1 d with rfl|d
    .grind
    .exact d
   have⟨k,h1,h2,h3,x2,h4,h5⟩:=J8 σ p ys ⟨x,g,hpx⟩;refine⟨k+1,by omega,by grind,by grind,x2,?_,h5⟩
   grind
theorem JI (σ:Ab) (p b:gz->Bool):∀{ys:kO},Ab.xD σ p b ys=true->∃x∈ys,p (σ.qS x)=true
 |[],h=>by cases h
 |y::ys,h=>by
  unfold Ab.xD at h
  by_cases d:p (σ.qS y)=true
  .grind
  .rw[gR d]at h;split at h
   .cases h
   .have⟨x,hx,h2⟩:=JI σ p b h
    grind
def Ba {k : Nat} (h:1<=k):(xs.take k).head?=xs.head?:=by
 cases xs with
 |nil=>simp
 |cons x r=>cases k with
  |zero=>omega
  |succ k=>rfl
theorem jw.Jg (h:jw r σ) (b:σ.gA.head?=some x):σ.qS x=fY:=by
 cases ho:σ.gA with
 |nil=>grind
 |cons y rest=>
  rw[ho]at b;cases b;obtain⟨q,rfl,e,d,g⟩:=h.KB _ rest ho;show σ.nm q=_
  grind[Ab.nm]
theorem ZF (h:jw r σ) (p:gz->Bool) (v:p fY=false) (A:∃x∈σ.gA,p (σ.qS x)=true):jw r (σ.Fl p)/\Fx σ (σ.Fl p)/\∃k,1<=k/\k < σ.gA.length/\(σ.Fl p).gA=σ.gA.take k:=by
 have⟨k,h1,h2,h3,x,h4,h5⟩:=J8 σ p σ.gA.reverse (by grind);have q:k<=σ.gA.length:=by simpa using h2
 have e:(Ab.AE σ p σ.gA.reverse).reverse=σ.gA.take (σ.gA.length - k):=by rw[h3,tX]
 have g:1<=σ.gA.length - k:=by
  rcases rA k σ.gA.length with u|d
  .omega
  .exfalso;have l:k=σ.gA.length:=by omega
   have b:σ.gA.head?=some x:=by
    rw[Rw (by omega)]at h4;rw[Kq]
    rwa [show σ.gA.length - 1 - (k - 1)=0 by omega]at h4
   rw[h.Jg b,v]at h5;cases h5
 have⟨g1,g2⟩:=h.sub (ys:=σ.gA.take (σ.gA.length - k)) (MD _ _) (Ba g)
 grind[Ab.Fl]
structure uC (σ σ':Ab):Prop where
 nodes:σ'.nodes=σ.nodes
 act:σ'.act=σ.act
 fresh:σ'.fresh=σ.fresh
 gA:∃k,σ'.gA=σ.gA.take k
def uC.refl (σ:Ab):uC σ σ:=⟨rfl,rfl,rfl,σ.gA.length,by simp⟩
def jl (h:σ'.nodes=σ.nodes):wt σ'=wt σ:=by unfold wt;rw[h]
theorem vX (h:mL σ) (p b:gz->Bool) (d:p fY=false):jG 0 σ (ni p b σ) (λx σ'=>uC σ σ'/\(x=true->σ'.gA.length < σ.gA.length)/\(x=false->σ'=σ)):=by
 have⟨r,h⟩:=h;unfold ni;split
 .rename_i g;have⟨x,h1,h2⟩:=JI σ p b g;have⟨g1,g2,k,g3,g4,g5⟩:=ZF h p d ⟨x,List.mem_reverse.1 h1,h2⟩;exact⟨⟨r,g1⟩,g2,nh (jl rfl),⟨rfl,rfl,rfl,k,g5⟩,λ_=>by grind,λh=>by cases h⟩
 .exact⟨⟨r,h⟩,Fx.refl _,ij _,uC.refl _,(λh=>by cases h),λ_=>rfl⟩
theorem Ij (σ:Ab) (p:gz->Bool):∀ys:kO,∃k,k<=ys.length/\Ab.qc σ p ys=ys.drop k/\∀j,j < k->∃x,ys[j]?=some x/\p (σ.qS x)=true
 |[]=>⟨0,ij _,rfl,λj b=>by omega⟩
 |y::ys=>by
  unfold Ab.qc
  by_cases d:p (σ.qS y)=true
  .rw[gF d];have⟨k,h1,h2,h3⟩:=Ij σ p ys;refine⟨k+1,by grind,by grind,λj b=>?_⟩;cases j with
   |zero=>grind
   |succ j=>grind
  .rw[gR d];exact⟨0,iP _,rfl,λj b=>by omega⟩
def aay (h:jw r σ) (p:gz->Bool) (u:p fY=false):∃k,(Ab.qc σ p σ.gA.reverse).reverse=σ.gA.take k/\(σ.gA≠[]->1<=k):=by
 have⟨k,h1,h2,h3⟩:=Ij σ p σ.gA.reverse;have l:k<=σ.gA.length:=by simpa using h1
 refine⟨σ.gA.length - k,by rw[h2,tX],λb=>?_⟩;rcases rA k σ.gA.length with q|g
 .omega
 .exfalso;have v:0 < σ.gA.length:=List.length_pos_iff.2 b;have⟨x,h4,h5⟩:=h3 (σ.gA.length - 1) (by omega);have d:σ.gA.head?=some x:=by
   rw[Rw (by omega)]at h4;rw[Kq]
   rwa [show σ.gA.length - 1 - (σ.gA.length - 1)=0 by omega]at h4
  rw[h.Jg d,u]at h5;cases h5
theorem Ik (h:mL σ) (p:gz->Bool) (b:p fY=false):mL {σ with gA:=(Ab.qc σ p σ.gA.reverse).reverse}/\Fx σ {σ with gA:=(Ab.qc σ p σ.gA.reverse).reverse}/\uC σ {σ with gA:=(Ab.qc σ p σ.gA.reverse).reverse}:=by
 have⟨r,h⟩:=h;have⟨k,h1,h2⟩:=aay h p b;rw[h1];cases ho:σ.gA with
 |nil=>
  have:([]:kO).take k=σ.gA:=by rw[ho];simp
  rw[this];exact⟨⟨r,h⟩,Fx.refl _,uC.refl _⟩
 |cons x rest=>
  rw[<-ho];have⟨g1,g2⟩:=h.sub (ys:=σ.gA.take k) (MD _ _) (Ba (h2 (by grind)));exact⟨⟨r,g1⟩,g2,rfl,rfl,rfl,k,rfl⟩
def wZ (h:mL σ) (p:gz->Bool):jG 0 σ (uE p σ) (λ_ σ'=>uC σ σ'):=by
 have⟨g1,g2,g3⟩:=Ik h (λs=>!(p s||ik [fY] s)) (by simp[ik,kA]);exact⟨g1,g2,nh (jl rfl),g3⟩
theorem EU (h:mL σ) (b:2<=σ.gA.length):mL σ.pop/\Fx σ σ.pop:=by
 have⟨r,h⟩:=h;have e:σ.gA.dropLast=σ.gA.take (σ.gA.length - 1):=ZO;have⟨g1,g2⟩:=h.sub (ys:=σ.gA.take (σ.gA.length - 1)) (MD _ _) (Ba (by omega))
 grind[mL,Ab.pop]
def uC.pop (σ:Ab):uC σ σ.pop:=⟨rfl,rfl,rfl,σ.gA.length - 1,ZO⟩
theorem xa (h:mL σ) (p:gz->Bool) (u:p fY=false) (b:σ.current p=true):2<=σ.gA.length:=by
 have⟨r,h⟩:=h;unfold Ab.current at b;cases ho:σ.gA with
 |nil=>
  have:σ.last=none:=by unfold Ab.last;rw[ho];rfl
  grind
 |cons x rest=>
  cases rest with
  |cons y r2=>simp
  |nil=>
   exfalso;obtain⟨q,rfl,e,d,g⟩:=h.KB x [] ho;have:σ.last=some q:=by unfold Ab.last;rw[ho];rfl
   rw[this]at b;have l:σ.nm q=fY:=by unfold Ab.nm;rw[d];exact g
   grind
def tU (h:mL σ) (p:gz->Bool) (d:p fY=false):jG 0 σ (pZ p σ) (λ_ σ'=>uC σ σ'):=by
 show jG 0 σ (.ok () (σ.Jr p)) _;unfold Ab.Jr;split
 .rename_i b;have⟨g1,g2⟩:=EU h (xa h p d b);exact⟨g1,g2,nh (jl rfl),uC.pop σ⟩
 .exact⟨h,Fx.refl _,ij _,uC.refl _⟩
def jw.Cu (h:jw r σ) (d:∀i,some i∈ys->∃e,σ.ib i=some e/\rl e.name=true) (b:ys.length<=σ.qO):jw r {σ with act:=ys}/\Fx σ {σ with act:=ys}:=
 ⟨⟨⟨h.nM.up,h.nM.dn,h.nM.nd,h.nM.kd⟩,⟨h.sY.je,h.sY.gA,h.sY.hd⟩,h.gA,d,h.head,h.form,h.KB,h.wT,b,h.OB,h.RK,h.xb⟩,⟨rfl,rfl,rfl,rfl,rfl,rfl,rfl,rfl,rfl,rfl,rfl,λ_ _ h=>h,λ_=>rfl⟩⟩
structure Fz (σ:Ab) (s:gz) (j:Nat) (σ':Ab):Prop where
 gA:σ'.gA=σ.gA++[some j]
 act:σ'.act=σ.act
 nm:iV σ' j s
 new:σ.nodes.length<=j
def NM (h:mL σ) (u:σ.gA≠[]) (F:wt σ < 999999) (d:gz) (gM:kY) (b:Bool):jG 1 σ (mi σ.nodes.length (σ.pn (.el {name:=d,gV:=gM,je:=none,kids:=[]}) b)) (λ_ σ'=>∃j,Fz σ d j σ'/\σ'.fresh=b):=by
 have⟨r,h⟩:=h;have⟨g1,g2⟩:=h.new d gM b 0;have g:(σ.pn (.el {name:=d,gV:=gM,je:=none,kids:=[]}) b).ib σ.nodes.length=some {name:=d,gV:=gM,je:=none,kids:=[]}:=Ab.ui;have v:some σ.nodes.length∉(σ.pn (.el {name:=d,gV:=gM,je:=none,kids:=[]}) b).gA:=by
  intro B;have:=h.ER (i:=σ.nodes.length) B;omega
 have C:wt (σ.pn (.el {name:=d,gV:=gM,je:=none,kids:=[]}) b)=wt σ:=Eg _ _ _;have l:=L0 ⟨_,g1⟩ g rfl rfl v u (by omega);revert l;cases mi σ.nodes.length (σ.pn (.el {name:=d,gV:=gM,je:=none,kids:=[]}) b)with
 |ok a σ'=>
  rintro⟨l,A,D,q⟩;refine⟨l,g2.trans A,by omega,σ.nodes.length,⟨q.gA,q.act,A.nm _ _ ⟨_,g,rfl⟩,ij _⟩,q.fresh⟩
 |stop e p=>exact λh=>h
 |stuck=>simp[jG]
def jG.iH {α:Type} {m:M α} {Q : Unit->Ab->Prop} (h:jG c σ (m σ) (λ_ σ'=>Q () σ')):jG c σ ((m>>=λ_=>(Pure.pure ():M Unit)) σ) Q:=by
 refine jG.bind h (c2:=0) (λa σ' b _ _ d=>jG.ret b d) (by omega)
def jG.tail_at {α:Type} {σ1 : Ab} {m:M α} {Q : Unit->Ab->Prop} (h:jG c σ (m σ1) (λ_ σ'=>Q () σ')):jG c σ ((m>>=λ_=>(Pure.pure ():M Unit)) σ1) Q:=by
 rw[M.gy];revert h;cases m σ1<;>exact λh=>h
def rV (h:mL σ) (d:σ.gA≠[]) (g:wt σ < 999999) (b:gz):jG 1 σ (km b σ) (λ_ σ'=>∃j,Fz σ b j σ'/\σ'.fresh=σ.fresh):=
 jG.iH (m:=λσ=>mi σ.nodes.length (σ.add (.el {name:=b,gV:=[],je:=none,kids:=[]}))) (NM h d g b [] σ.fresh)
theorem jS (h:mL σ) (b:σ.gA≠[]) (d:wt σ < 999999) (t:gN) (l:t.rJ=true) (g:σ.fresh=true):jG 1 σ (jt t σ) (λ_ σ'=>∃j,Fz σ t.name j σ'):=by
 unfold jt;rw[M.gy];unfold pL;rw[gF (by grind)];dsimp only;refine jG.tail_at ?_;refine(NM h b d t.name t.js false).mono (ij _) ?_
 grind
def abk (h:Fz σ s j σ'):σ'.pop.gA=σ.gA:=by
 show σ'.gA.dropLast=_;rw[h.gA];simp
theorem DP (h:Fz σ s j σ') (b:σ.gA≠[]):2<=σ'.gA.length:=by
 have:0 < σ.gA.length:=List.length_pos_iff.2 b;rw[h.gA];grind
def DO (h:Fz σ s j σ'):σ'.last=some j:=by
 unfold Ab.last;rw[h.gA];have e:((σ.gA++[some j]).length:Int) - 1=((σ.gA.length:Nat):Int):=by simp
 rw[e,qP];simp
def yi (h:mL σ) (b:2<=σ.gA.length):jG 0 σ (yh σ) (λx σ'=>σ'=σ.pop/\x=σ.last):=by
 have⟨g1,g2⟩:=EU h b;exact⟨g1,g2,nh (jl rfl),rfl,rfl⟩
def qq (h:mL σ) (b:σ.gA≠[]) (u:wt σ < 999999) (t:gN) (q:t.rJ=true) (l:σ.fresh=true):jG 1 σ (lw t σ) (λ_ σ'=>σ'.gA=σ.gA/\σ'.act=σ.act):=by
 unfold lw;refine jG.bind (jS h b u t q l) (c2:=0) ?_ (by omega);rintro _ v g B _ ⟨j,d⟩;refine jG.iH ((yi g (DP d b)).mono (ij _) ?_);rintro x A _ _ ⟨rfl,_⟩;exact⟨abk d,d.act⟩
def oI (h:mL σ) (b:σ.gA≠[]) (t:gN) (d:wt σ+t.chars.size+1<=1000000):jG (t.chars.size+1) σ (j7 t σ) (λ_ σ'=>Rest σ σ'):=by
 have⟨r,hr⟩:=h;have⟨pl,p1,p2,_⟩:=ES hr b;unfold j7;rw[M.gy,p1];dsimp only;exact jG.iH (m:=uL pl t.chars) (Qo ⟨r,hr⟩ p2 t.chars d)
def Pr (h:rl s=true):nj s=false:=by
 unfold rl ik at h;rw[List.any_eq_true]at h;have⟨x,hx,he⟩:=h;have e:=tI he;simp only[uS,qC,rF]at hx;rcases hx with rfl|rfl|rfl|rfl<;>(rw[e];simp[nj,kA,acE,acD,sH])
def Dy (h:rl s=true):s≠fY:=by
 rintro rfl;simp[rl,ik,kA,sH]at h
theorem Zm (h:(pM xs x (some j))[m]?=some y):xs[m]?=some y\/y=some j:=by
 unfold pM at h
 grind
theorem Jw (xs:kO) (x y:jg):(pM xs x y).length=xs.length:=by
 grind[pM]
theorem Jz (h:z∈pM xs x y):z∈xs\/z=y:=by
 unfold pM at h
 grind
theorem Va (h:mL σ) {old : Nat} (g:(σ.ib old).isSome=true) (d:iV σ j s) (l:rl s=true):jG 0 σ (ri (some old) (some j) σ) (λ_ σ'=>σ'.gA=σ.gA/\σ'.act=pM σ.act (some old) (some j)/\σ'.fresh=σ.fresh):=by
 have⟨r,h⟩:=h;have⟨ej,hej,hn⟩:=d;unfold ri;rw[gF (by grind[Ab.gX])];have⟨g1,g2⟩:=h.Cu (ys:=pM σ.act (some old) (some j)) (λi b=>by
  rcases Jz b with b|b
  .exact h.act i b
  grind) (by rw[Jw];exact h.zH)
 exact⟨⟨r,g1⟩,g2,nh (jl rfl),rfl,rfl,rfl⟩
def zU (d:σ.ib i=some e) (b:rl e.name=true):kP i σ= .ok σ.nodes.length (σ.pn (.el {name:=e.name,gV:=e.gV,je:=none,kids:=[]}) σ.fresh):=by
 unfold kP;rw[d];dsimp only;rw[Pr b];rfl
theorem QE:∀(k n:Nat) {σ:Ab},mL σ->σ.gA≠[]->wt σ+k < 999999->n+k<=σ.act.length->(∀m,n<=m->m < n+k->∃i,σ.act[m]?=some (some i))->jG k σ (Jv k n σ) (λ_ σ'=>σ.gA <+:σ'.gA/\σ'.act.length=σ.act.length/\σ'.fresh=σ.fresh)
 |0,n,σ,h,_,_,_,_=>jG.ret h ⟨List.prefix_refl _,rfl,rfl⟩
 |k+1,n,σ,h,hne,hw,hl,ha=>by
  have⟨old,ho⟩:=ha n (ij _) (by omega);have⟨r,hr⟩:=h;have⟨eo,heo,hfo⟩:=hr.act old (tu ho);have A:FD n σ= .ok old σ:=by
   unfold FD;rw[qP,xo,ho];rfl
  unfold Jv;rw[M.gy,A];dsimp only;rw[M.gy,zU heo hfo];dsimp only;rw[M.gy];have F:=NM ⟨r,hr⟩ hne (by omega) eo.name eo.gV σ.fresh;revert F;cases hq:mi σ.nodes.length (σ.pn (.el {name:=eo.name,gV:=eo.gV,je:=none,kids:=[]}) σ.fresh)with
  |stop e p=>simp[jG]
  |stuck=>simp[jG]
  |ok u σ1=>
   rintro⟨N,q,U,j,g,v⟩;dsimp only;have B:qI old σ1=ri (some old) (some j) σ1:=by unfold qI;rw[DO g]
   have⟨eo1,heo1,_⟩:=q.nm old eo.name ⟨eo,heo,rfl⟩;have G:jG (k+0) σ1 ((qI old>>=λ_=>Jv k (n+1)) σ1) (λ_ σ'=>σ.gA <+:σ'.gA/\σ'.act.length=σ.act.length/\σ'.fresh=σ.fresh):=by
    refine jG.bind (c1:=0) (by rw[B];exact Va N (by grind) g.nm hfo) (c2:=k) ?_ (by omega);rintro _ b O K V ⟨P,l,R⟩;have d:b.act.length=σ.act.length:=by rw[l,Jw,g.act]
    refine(QE k (n+1) O (K.ne (q.ne hne)) (by omega) (by omega) ?_).mono (ij _) ?_
    .intro m F G;have⟨i,hi⟩:=ha m (by omega) (by omega);have T:m < b.act.length:=by omega
     cases hx:b.act[m]? with
     |none=>grind
     |some y=>
      rw[l]at hx;rcases Zm hx with H|H
      .rw[g.act,hi]at H;grind
      grind
    .rintro _ C _ _ ⟨Q,D,S⟩;refine⟨?_,D.trans d,S.trans (R.trans v)⟩;refine List.IsPrefix.trans ?_ Q;rw[P,g.gA];simp
   revert G;cases((qI old>>=λ_=>Jv k (n+1)) σ1)with
   |ok a C=>rintro⟨I,l,D,J⟩;exact⟨I,q.trans l,by omega,J⟩
   |stop e p=>exact λh=>BL h q.gQ
   |stuck=>simp[jG]
theorem Mo (σ:Ab):∀ys:kO,σ.tV ys<=ys.length/\∀m,m < ys.length - σ.tV ys->∃i,ys[m]?=some (some i)
 |[]=>⟨ij _,λm d=>by grind⟩
 |x::ys=>by
  unfold Ab.tV
  by_cases b:σ.Sz x=true
  .grind
  .rw[gR b];have⟨h1,h2⟩:=Mo σ ys;refine⟨by grind,λm d=>?_⟩;cases m with
   |zero=>
    cases x with
    |none=>exact absurd (by rfl) b
    |some i=>simp
   |succ m=>exact h2 m (by grind)
theorem nQ (h:mL σ) (b:σ.gA≠[]) (u:wt σ+32 < 999999):jG 32 σ (lH σ) (λ_ σ'=>σ.gA <+:σ'.gA/\σ'.act.length=σ.act.length/\σ'.fresh=σ.fresh):=by
 unfold lH;have⟨h1,h2⟩:=Mo σ σ.act.reverse;have g:σ.Au<=σ.act.length:=by simpa [Ab.Au]using h1
 have d:σ.act.length<=32:=by have⟨r,hr⟩:=h;exact jN hr.zH hr.RK
 refine(QE (σ.act.length - σ.Au) σ.Au h b (by omega) (by omega) ?_).mono (by omega) (λ_ _ _ _ h=>h);intro m l q;have⟨i,hi⟩:=h2 (σ.act.length - 1 - m) (by
  have e:σ.tV σ.act.reverse=σ.Au:=rfl
  grind)
 grind
structure U5 (σ:Ab) (o a:kO) (σ':Ab):Prop where
 nodes:σ'.nodes=σ.nodes
 gA:σ'.gA=o
 act:σ'.act=a
 fresh:σ'.fresh=σ.fresh
def yC (h:mL σ) (d:σ.gX x=true):jG 0 σ (kH x σ) (λ_ σ'=>U5 σ σ.gA (σ.act.erase x) σ'):=by
 have⟨r,h⟩:=h;unfold kH;rw[gF d];have⟨g1,g2⟩:=h.Cu (ys:=σ.act.erase x) (λi b=>h.act i (AK b)) (jN (List.length_erase_le) h.zH);exact⟨⟨r,g1⟩,g2,nh (jl rfl),rfl,rfl,rfl,rfl⟩
def RP (h:z∈og xs x):z∈xs:=by
 unfold og at h;rw[List.mem_reverse]at h;exact List.mem_reverse.1 ((ZS _).subset ((List.tail_sublist _).subset h))
theorem Wn (xs:kO) (x:jg):(og xs x).length<=xs.length:=by
 unfold og;rw[List.length_reverse,List.length_tail];have:=(ZS (p:=λy=>decide (y≠x)) (l:=xs.reverse)).length_le
 grind
def J6 (h:mL σ):jG 0 σ (zk σ) (λ_ σ'=>U5 σ σ.gA (og σ.act none) σ'):=by
 refine jG.iH (m:=BP none) ?_;have⟨r,h⟩:=h;unfold BP;rw[gF (show σ.gX none=true from rfl)];have⟨g1,g2⟩:=h.Cu (ys:=og σ.act none) (λi b=>h.act i (RP b)) (jN (Wn _ _) h.zH);exact⟨⟨r,g1⟩,g2,nh (jl rfl),rfl,rfl,rfl,rfl⟩
theorem vu (h:mL σ) (x:jg) (l:∀i,x=some i->∃e,σ.ib i=some e/\rl e.name=true):jG 0 σ (lu x σ) (λ_ σ'=>U5 σ σ.gA (σ.act++[x]) σ'):=by
 have⟨r,h⟩:=h;unfold lu;split
 .rfl
 .rename_i g;have d:σ.gX x=true:=by
   cases x with
   |none=>rfl
   |some i=>grind[Ab.gX]
  rw[gF d];have⟨g1,g2⟩:=h.Cu (ys:=σ.act++[x]) (λi b=>by
   rcases List.mem_append.1 b with b|b
   .exact h.act i b
   grind) (by grind)
  exact⟨⟨r,g1⟩,g2,nh (jl rfl),rfl,rfl,rfl,rfl⟩
theorem Cd (σ:Ab) (j:Nat):∀(ys:kO) (c:jg×Nat),(σ.sg j ys c).1=c.1\/(σ.sg j ys c).1∈ys
 |[],c=> .inl rfl
 |none::_,c=> .inl rfl
 |some i::ys,c=>by
  unfold Ab.sg;split
  .rcases Cd σ j ys (some i,c.2+1)with h|h
   all_goals grind
  .rcases Cd σ j ys c with h|h
   all_goals grind
theorem Xv (h:mL σ) (A:iV σ i s) (G:rl s=true):jG 0 σ (MK i σ) (λ_ σ'=>σ'.gA=σ.gA/\σ'.fresh=σ.fresh):=by
 have⟨e,he,hn⟩:=A;have d:∀b,mL b->b.nodes=σ.nodes->jG 0 b (lu (some i) b) (λ_ σ'=>U5 b b.gA (b.act++[some i]) σ'):=by
  intro b g C;refine vu g (some i) ?_;intro j B;cases B;exact⟨e,by grind[Ab.ib],by grind⟩
 have q:σ.gX (σ.sg i σ.act.reverse (none,0)).1=true:=by
  rcases Cd σ i σ.act.reverse (none,0)with g|g
  .rw[g];rfl
  .cases hx:(σ.sg i σ.act.reverse (none,0)).1 with
   |none=>rfl
   |some j=>
    rw[hx]at g;have⟨r,hr⟩:=h;have⟨ej,hej,_⟩:=hr.act j (List.mem_reverse.1 g)
    grind[Ab.gX]
 unfold MK;dsimp only;split
 .refine jG.bind (yC h q) (c2:=0) ?_ (by omega);rintro _ b D F _ u;refine jG.iH ((d b D u.nodes).mono (ij _) ?_);rintro _ v _ _ l;exact⟨l.gA.trans u.gA,l.fresh.trans u.fresh⟩
 .refine jG.iH ((d σ h rfl).mono (ij _) ?_);rintro _ v _ _ l;exact⟨l.gA,l.fresh⟩
theorem Ca (h:xs.head?≠some x):(xs.erase x).head?=xs.head?:=by
 cases xs with
 |nil=>rfl
 |cons y r=>
  grind
def jw.DU (h:jw r σ) (d:iV σ i s) (g:s≠fY):σ.gA.head?≠some (some i):=by
 intro e;have b:=h.Jg e;have⟨ei,he,hn⟩:=d;apply g;rw[<-hn,<-b];show _=σ.nm i;unfold Ab.nm;rw[he]
theorem Cf (h:mL σ) (b:iV σ i s) (d:s≠fY):jG 0 σ (kq (some i) σ) (λ_ σ'=>U5 σ (σ.gA.erase (some i)) σ.act σ'):=by
 have⟨r,h⟩:=h;have⟨e,he,_⟩:=id b;unfold kq;rw[gF (by grind[Ab.gX])];have⟨g1,g2⟩:=h.sub (ys:=σ.gA.erase (some i)) List.erase_sublist (Ca (h.DU b d));exact⟨⟨r,g1⟩,g2,nh (jl rfl),rfl,rfl,rfl,rfl⟩
theorem Dq:∀{ys:kO},x∈ys->∃j,j < ys.length/\ys.dropWhile (λy=>decide (y≠x))=ys.drop j/\ys[j]?=some x
 |[],h=>by cases h
 |y::ys,h=>by
  by_cases d:y=x
  .subst d;exact⟨0,by simp,by simp,rfl⟩
  .have b:x∈ys:=by
    rcases List.mem_cons.1 h with h|h
    .grind
    .exact h
   have⟨j,h1,h2,h3⟩:=Dq b;refine⟨j+1,by grind,?_,by grind⟩
   simp_all
theorem SU (g:x∈xs) (b:xs.head?≠some x):∃k,1<=k/\k < xs.length/\og xs x=xs.take k:=by
 have⟨j,h1,h2,h3⟩:=Dq (List.mem_reverse.2 g);have d:j < xs.length:=by simpa using h1
 have e:og xs x=xs.take (xs.length - (j+1)):=by
  unfold og;rw[h2,List.tail_drop,tX]
 refine⟨_,?_,by omega,e⟩;rcases rA (j+1) xs.length with h|h
 .omega
 .exfalso;apply b;rw[Rw d]at h3;rw[Kq]
  grind
theorem SJ (h:mL σ) (b:iV σ i s) (g:s≠fY) (d:some i∈σ.gA):jG 0 σ (Aq (some i) σ) (λ_ σ'=>uC σ σ'):=by
 have⟨r,h⟩:=h;have⟨e,he,_⟩:=id b;unfold Aq;rw[gF (by grind[Ab.gX])];have⟨k,k1,k2,k3⟩:=SU d (h.DU b g);rw[k3];have⟨g1,g2⟩:=h.sub (ys:=σ.gA.take k) (MD _ _) (Ba k1);exact⟨⟨r,g1⟩,g2,nh (jl rfl),rfl,rfl,rfl,k,rfl⟩
theorem O9 (h:j∈iJ ks) (g:(iJ ks).Nodup):iJ (ks.eraseIdx (ks.findIdx (Nd.gX j)))=(iJ ks).erase j:=by
 induction ks with
 |nil=>cases h
 |cons k r ih=>
  by_cases b:Nd.gX j k=true
  .cases k with
   |el i=>
    grind[iJ,Nd.gX]
   |tx i=>cases b
   |cm i=>cases b
   |dt i=>cases b
  .have d:Nd.gX j k=false:=by simpa using b
   rw[List.findIdx_cons,d];simp only[cond_false,List.eraseIdx_cons_succ];cases k with
   |el i=>
    grind[iJ,Nd.gX]
   |tx i=>exact ih h g
   |cm i=>exact ih h g
   |dt i=>exact ih h g
theorem jw.mq (h:jw r σ) (C:σ.ib j=some ej):
  ∃σ',mq j σ= .ok () σ'/\jw r σ'/\Fx σ σ'/\wt σ'<=wt σ/\σ'.gA=σ.gA/\σ'.act=σ.act/\σ'.fresh=σ.fresh/\σ'.nodes.length=σ.nodes.length/\(∃v,σ'.ib j=some v/\v.je=none/\v.name=ej.name):=by
 unfold Go.Proofs.YtofkkmcdggkkpaaGreatDoor.mq;rw[C];dsimp only;cases hp:ej.je with
 |none=>exact⟨σ,rfl,h,Fx.refl _,ij _,rfl,rfl,rfl,rfl,ej,C,hp,rfl⟩
 |some p=>
  have⟨ep,hep,hm⟩:=h.nM.up j ej p C hp;have a7:=h.sY.je j ej p C hp;have F:j≠p:=by rintro rfl;omega
  have⟨q1,q2⟩:=Uq hm;dsimp only;rw[hep];dsimp only;rw[gF ⟨F,q1,q2⟩];have a0:=Ab.il hep;have a4:=Ab.il C;have K:(qg ep.kids (Nd.gX j)).toNat=ep.kids.findIdx (Nd.gX j):=by
   unfold qg at q2|-
   by_cases hf:ep.kids.findIdx (Nd.gX j) < ep.kids.length
   .omega
   .exfalso;apply hf;exact ZQ ⟨_,vM.1 hm,by simp[Nd.gX]⟩
  rw[K]at q2|-;obtain⟨ks,D⟩:∃ks,ks=ep.kids.eraseIdx (ep.kids.findIdx (Nd.gX j)):=⟨_,rfl⟩;rw[<-D];have a5:ks.length+1=ep.kids.length:=by rw[D,ZR q2];omega
  have P:iJ ks=(iJ ep.kids).erase j:=by rw[D];exact O9 hm (h.nM.nd p ep hep)
  have Q:∀k∈ks,k∈ep.kids:=λk I=>by rw[D]at I;exact(List.eraseIdx_sublist _ _).subset I
  obtain⟨σ',b⟩:∃σ',σ'=(σ.ic p {ep with kids:=ks}).ic j {ej with je:=none}:=⟨_,rfl⟩;rw[<-b];have g1:σ'.ib p=some {ep with kids:=ks}:=by rw[b,Ab.iT (xn F),Ab.iX a0]
  have g2:σ'.ib j=some {ej with je:=none}:=by rw[b,Ab.iX (by grind[Ab.ic])]
  have g3:∀i,i≠p->i≠j->σ'.ib i=σ.ib i:=λi g A=>by rw[b,Ab.iT A,Ab.iT g]
  have N:(σ.ib p).isSome=true:=by rw[hep];rfl
  have O:((σ.ic p {ep with kids:=ks}).ib j).isSome=true:=by rw[Ab.iT F,C];rfl
  have gk:∀k,σ'.ji k=σ.ji k:=λk=>by rw[b,Ab.la O,Ab.la N]
  have ge:∀x,σ'.mF x=σ.mF x:=λx=>by rw[b,Ab.yc O,Ab.yc N]
  have G:∀i e,σ.ib i=some e->∃v,σ'.ib i=some v/\v.name=e.name/\(i≠p->v.kids=e.kids)/\(i≠j->v.je=e.je):=by
   intro i e B
   by_cases g:i=p
   .grind
   .grind
  have u:∀i v,σ'.ib i=some v->(i=p/\v={ep with kids:=ks})\/(i=j/\v={ej with je:=none})\/(i≠p/\i≠j/\σ.ib i=some v):=by
   intro i v B
   by_cases g:i=p
   .grind
   .grind
  have R:∀i s,iV σ i s->iV σ' i s:=λi s ⟨e,B,hn⟩=>by
   grind[iV]
  have a8:∀i e q,σ.ib i=some e->i≠j->e.je=some q->∃W,σ'.ib q=some W/\i∈iJ W.kids:=by
   intro i e q B a3 S;have⟨W,A,H⟩:=h.nM.up _ _ q B S;have⟨eq',h4,_,h5,_⟩:=G q W A;refine⟨eq',h4,?_⟩
   by_cases a6:q=p
   .grind
   .grind
  have Y:∀i e x,σ.ib i=some e->x∈iJ e.kids->x≠j->∃J,σ'.ib x=some J/\J.je=some i:=by
   intro i e x B T a1;have⟨J,A,H⟩:=h.nM.dn i e x B T;have⟨ex',h4,_,_,h5⟩:=G x J A;exact⟨ex',h4,(h5 a1).trans H⟩
  have a2:∀i e,σ.ib i=some e->j∈iJ e.kids->i=p:=by
   intro i e B Z;have⟨J,A,H⟩:=h.nM.dn i e j B Z;rw[C]at A;cases A;rw[hp]at H;exact(jK H).symm
  refine⟨σ',rfl,⟨⟨?_,?_,?_,?_⟩,⟨?_,?_,?_⟩,λx T=>?_,λi l=>?_,λd X=>R _ _ (h.head d ?_),λd X=>R _ _ (h.form d ?_),λy V hy=>?_,?_,?_,?_,?_,?_⟩,?_,?_,?_,?_,?_,?_,?_⟩
  .grind
  .intro i e x l T;rcases u i e l with⟨g,rfl⟩|⟨g,rfl⟩|⟨H,A,g⟩
   .rw[g];have U:x∈(iJ ep.kids).erase j:=by rw[<-P];exact T
    exact Y p ep x hep (AK U) (λe=>by
     subst e;exact(List.Nodup.not_mem_erase (h.nM.nd p ep hep)) U)
   all_goals grind
  .intro i e l;rcases u i e l with⟨g,rfl⟩|⟨g,rfl⟩|⟨_,_,g⟩
   .show(iJ ks).Nodup;rw[P];exact(h.nM.nd p ep hep).erase j
   .show(iJ ej.kids).Nodup;exact h.nM.nd _ _ C
   .exact h.nM.nd _ _ g
  .intro i e l k I;rw[gk];rcases u i e l with⟨g,rfl⟩|⟨g,rfl⟩|⟨_,_,g⟩
   .exact h.nM.kd _ _ hep k (Q k I)
   .exact h.nM.kd _ _ C k I
   .exact h.nM.kd _ _ g k I
  .intro i e q l S;rcases u i e l with⟨g,rfl⟩|⟨g,rfl⟩|⟨_,_,g⟩
   .rw[g];exact h.sY.je _ _ q hep S
   .cases S
   .exact h.sY.je _ _ q g S
  .rw[b];exact h.sY.gA
  .rw[b];exact h.sY.hd
  .rw[ge];exact h.gA x (by rwa [b]at T)
  .have⟨e,B,hf⟩:=h.act i (by rw[b]at l;exact l)
   grind
  .rwa [b]at X
  .rwa [b]at X
  .have⟨z,g,A⟩:=h.KB y V (by rwa [b]at hy)
   grind
  .rw[b];exact h.wT
  .rw[b];exact h.zH
  .rw[b];exact h.OB
  .rw[b];exact h.RK
  .have⟨e,B⟩:=Option.isSome_iff_exists.1 h.xb
   grind
  .rw[b];exact⟨rfl,rfl,rfl,rfl,rfl,rfl,rfl,rfl,rfl,rfl,rfl,by grind,λ_=>rfl⟩
  .have w1:=rP (e':={ep with kids:=ks}) hep;have w2:=rP (σ:=σ.ic p {ep with kids:=ks}) (e':={ej with je:=none}) (by rw[Ab.iT F];exact C)
   grind
  .rw[b];rfl
  .rw[b];rfl
  .rw[b];rfl
  .rw[b,Ab.nD,Ab.nD]
  grind
structure ab6 (σ:Ab) (d:Nat) (ed:zp) (ks:List Nd) (σ':Ab):Prop where
 eq:σ'={σ with nodes:=σ'.nodes}
 len:σ'.nodes.length=σ.nodes.length
 dst:σ'.ib d=some {ed with kids:=ed.kids++ks}
 oth:∀i,i≠d->σ'.ib i=if i∈iJ ks then (σ.ib i).map (λe=>{e with je:=some d})else σ.ib i
 kid:∀k,σ'.ji k=σ.ji k
 wt:wt σ'=wt σ+ks.length
def Ub (ks:List Nd) (k:Nd):ins ks ks.length k=ks++[k]:=by simp[ins]
theorem EG:∀(ks:List Nd) {σ:Ab} {d:Nat} {ed:zp},σ.ib d=some ed->(∀k∈ks,σ.ji k=true)->d∉iJ ks->(iJ ks).Nodup->ed.kids.length+ks.length < 1000000->∃σ',ya d ks σ= .ok () σ'/\ab6 σ d ed ks σ'
 |[],σ,d,ed,hd,_,_,_,_=>⟨σ,rfl,rfl,rfl,by simp_all,λi _=>by rfl,λ_=>rfl,rfl⟩
 |k::ks,σ,d,ed,hd,hk,hn,hnd,hl=>by
  simp only[qd]at hl;have C:=Ab.il hd;have v:(σ.ib d).isSome=true:=by rw[hd];rfl
  have Q:jx d σ= .ok (d,ed.kids.length) σ:=by unfold jx;rw[hd]
  unfold ya;rw[M.gy,Q];dsimp only;rw[M.gy];have D:=hk k (pP ..);have A:∀(H:Nd),(∀j,H≠ .el j)->k=H->∃b,zB (d,ed.kids.length) H σ= .ok () b/\∃σ',ya d ks b= .ok () σ'/\ab6 σ d ed (k::ks) σ':=by
   intro H S N;subst N;have K:zB (d,ed.kids.length) k σ= .ok () (σ.ic d {ed with kids:=ed.kids++[k]}):=by
    unfold zB;dsimp only;rw[hd];dsimp only;rw[gF ⟨D,ij _,by omega⟩,Ub]
   refine⟨_,K,?_⟩;have u:iJ (k::ks)=iJ ks:=by
    cases k with
    |el j=>grind
    |tx j=>rfl
    |cm j=>rfl
    |dt j=>rfl
   rw[u]at hn hnd;have⟨σ',B,l⟩:=EG ks (σ:=σ.ic d {ed with kids:=ed.kids++[k]}) (d:=d) (ed:={ed with kids:=ed.kids++[k]}) (Ab.iX C) (λx T=>by rw[Ab.la v];grind) hn hnd (by grind);refine⟨σ',B,l.eq,by rw[l.len,Ab.nD],by rw[l.dst];simp,?_,λx=>by rw[l.kid,Ab.la v],?_⟩
   .intro i G;rw[l.oth i G,u,Ab.iT G]
   .have U:=rP (e':={ed with kids:=ed.kids++[k]}) hd;have V:=l.wt
    grind
  cases k with
  |tx j=>
   have⟨b,e1,σ',e2,e3⟩:=A (.tx j) (λ_ h=>by cases h) rfl;rw[show EX (d,ed.kids.length) (.tx j) σ= .ok () b from e1]
   grind
  |cm j=>
   have⟨b,e1,σ',e2,e3⟩:=A (.cm j) (λ_ h=>by cases h) rfl;rw[show EX (d,ed.kids.length) (.cm j) σ= .ok () b from e1]
   grind
  |dt j=>
   have⟨b,e1,σ',e2,e3⟩:=A (.dt j) (λ_ h=>by cases h) rfl;rw[show EX (d,ed.kids.length) (.dt j) σ= .ok () b from e1]
   grind
  |el j=>
   have q:j≠d:=by rintro rfl;exact hn (pP ..)
   have⟨ej,hej⟩:=Option.isSome_iff_exists.1 (show(σ.ib j).isSome=true from D);have R:=Ab.il hej;obtain⟨b,g⟩:∃b,b=(σ.ic d {ed with kids:=ed.kids++[.el j]}).ic j {ej with je:=some d}:=⟨_,rfl⟩;have K:EX (d,ed.kids.length) (.el j) σ= .ok () b:=by
    show mN (d,ed.kids.length) j σ=_;unfold mN;dsimp only;rw[hd,hej];dsimp only;rw[gF ⟨q,ij _,by omega⟩,Ub,g]
   rw[K];dsimp only;have I:((σ.ic d {ed with kids:=ed.kids++[.el j]}).ib j).isSome=true:=by rw[Ab.iT q,hej];rfl
   have P:∀k,b.ji k=σ.ji k:=λk=>by rw[g,Ab.la I,Ab.la v]
   have O:b.ib d=some {ed with kids:=ed.kids++[.el j]}:=by rw[g,Ab.iT (xn q),Ab.iX C]
   have W:b.ib j=some {ej with je:=some d}:=by rw[g,Ab.iX (by grind[Ab.ic])]
   have go:∀i,i≠d->i≠j->b.ib i=σ.ib i:=λi B l=>by rw[g,Ab.iT l,Ab.iT B]
   have J:d∉iJ ks:=λh=>hn (oX _ h);have F:=List.nodup_cons.1 (show(j::iJ ks).Nodup from hnd);have⟨σ',B,l⟩:=EG ks (σ:=b) (d:=d) (ed:={ed with kids:=ed.kids++[.el j]}) O (λx T=>by grind) J F.2 (by grind);refine⟨σ',B,?_,by rw[l.len,g,Ab.nD,Ab.nD],by rw[l.dst];simp,?_,λx=>by rw[l.kid,P],?_⟩
   .have:=l.eq;rwa [g]at this
   .intro i G;rw[l.oth i G]
    grind[iJ]
   .have U:=rP (e':={ed with kids:=ed.kids++[.el j]}) hd;have V:=rP (σ:=σ.ic d {ed with kids:=ed.kids++[.el j]}) (e':={ej with je:=some d}) (by rw[Ab.iT q];exact hej);have X:=l.wt
    grind
theorem jw.hand (h:jw r σ) {b d : Nat} {g ed : zp} (A:σ.ib b=some g) (hd:σ.ib d=some ed) (N:b≠d) (T:ed.kids=[]) (W:ed.je=none) (hr:∀k∈iJ g.kids,r d < r k) (hw:wt σ < 999999):
  ∃σ',handOver b d σ= .ok () σ'/\jw r σ'/\Fx σ σ'/\wt σ'=wt σ/\σ'.gA=σ.gA/\σ'.act=σ.act/\σ'.fresh=σ.fresh/\σ'.nodes.length=σ.nodes.length/\σ'.ib b=some {g with kids:=[]}/\σ'.ib d=some {ed with kids:=g.kids}:=by
 have a0:=Ab.il A;have a3:d∉iJ g.kids:=by
  intro U;have⟨e2,h1,h2⟩:=h.nM.dn b g d A U;rw[hd]at h1;cases h1;rw[W]at h2;cases h2
 have a1:b∉iJ g.kids:=by
  intro U;have⟨e2,h1,h2⟩:=h.nM.dn b g b A U;have:=h.sY.je b e2 b h1 h2;omega
 have ad:=GU A;have⟨σ1,h1,h2⟩:=EG g.kids hd (h.nM.kd b g A) a3 (h.nM.nd b g A) (by grind);have K:σ1.ib b=some g:=by rw[h2.oth b N,gR a1];exact A
 have a2:σ1.ib d=some {ed with kids:=g.kids}:=by rw[h2.dst,T];simp
 obtain⟨σ',v⟩:∃σ',σ'=σ1.ic b {g with kids:=[]}:=⟨_,rfl⟩;have hq:handOver b d σ= .ok () σ':=by
  unfold handOver;rw[A];dsimp only;rw[gR N];change M.bind (ya d g.kids) (λ_ σ'=>match σ'.ib b with|some eb'=> .ok () (σ'.ic b {eb' with kids:=[]})|none=> .stuck) σ=_
  unfold M.bind;rw[h1];dsimp only;rw[K,v]
 have R:(σ1.ib b).isSome=true:=by rw[K];rfl
 have gb:σ'.ib b=some {g with kids:=[]}:=by rw[v,Ab.iX (by rw[h2.len];exact a0)]
 have gd:σ'.ib d=some {ed with kids:=g.kids}:=by rw[v,Ab.iT (xn N)];exact a2
 have go:∀i,i≠d->i≠b->σ'.ib i=if i∈iJ g.kids then (σ.ib i).map (λe=>{e with je:=some d})else σ.ib i:=λi l B=>by rw[v,Ab.iT B,h2.oth i l]
 have gk:∀k,σ'.ji k=σ.ji k:=λk=>by rw[v,Ab.la R,h2.kid]
 have q:σ'={σ with nodes:=σ'.nodes}:=by
  rw[v];have:=h2.eq;show({σ1 with nodes:=_}:Ab)=_;rw[this];rfl
 have u:∀i G,σ'.ib i=some G->(i=b/\G={g with kids:=[]})\/(i=d/\G={ed with kids:=g.kids})\/(i≠b/\i≠d/\i∈iJ g.kids/\∃e,σ.ib i=some e/\G={e with je:=some d})\/(i≠b/\i≠d/\i∉iJ g.kids/\σ.ib i=some G):=by
  intro i G D
  by_cases l:i=b
  .grind
  .by_cases B:i=d
   .grind
   .rw[go i B l]at D
    by_cases F:i∈iJ g.kids
    .rw[gF F]at D;have⟨e,h5,h6⟩:=Option.map_eq_some_iff.1 D
     grind
    grind
 have aa:∀i e,σ.ib i=some e->∃G,σ'.ib i=some G/\G.name=e.name:=by
  intro i e D
  by_cases l:i=b
  .grind
  .grind
 have I:∀i s,iV σ i s->iV σ' i s:=λi s ⟨e,D,hn⟩=>by
  grind[iV]
 have a7:∀i e p,σ.ib i=some e->e.je=some p->i∉iJ g.kids->∃J,σ'.ib p=some J/\i∈iJ J.kids:=by
  intro i e p D hp a9;have⟨J,h5,h6⟩:=h.nM.up i e p D hp;have X:p≠b:=by rintro rfl;rw[A]at h5;cases h5;exact a9 h6
  have Y:p≠d:=by rintro rfl;rw[hd]at h5;cases h5;rw[T]at h6;cases h6
  rw[go p Y X]
  by_cases F:p∈iJ g.kids
  .grind
  .grind
 have ab:∀i e p,σ.ib i=some e->i≠b->i≠d->p∈iJ e.kids->∃J,σ'.ib p=some J/\J.je=some i:=by
  intro i e p D a5 ac U;have⟨J,h5,h6⟩:=h.nM.dn i e p D U;have Y:p≠d:=by rintro rfl;rw[hd]at h5;cases h5;rw[W]at h6;cases h6
  have ae:p∉iJ g.kids:=by
   intro a8;have⟨e3,h7,h8⟩:=h.nM.dn b g p A a8;rw[h5]at h7;cases h7;rw[h6]at h8;exact a5 (jK h8)
  by_cases X:p=b
  .grind
  .grind
 have V:σ'.gA=σ.gA:=by rw[q]
 have Q:σ'.act=σ.act:=by rw[q]
 have S:σ'.head=σ.head:=by rw[q]
 have a4:σ'.form=σ.form:=by rw[q]
 refine⟨σ',hq,⟨⟨?_,?_,?_,?_⟩,⟨?_,?_,?_⟩,?_,?_,?_,?_,?_,?_,?_,?_,?_,?_⟩,?_,?_,V,Q,by rw[q],?_,gb,gd⟩
 .grind
 .intro i e j H hj;rcases u i e H with⟨l,rfl⟩|⟨l,rfl⟩|⟨l,B,F,P,C,rfl⟩|⟨l,B,F,C⟩
  .cases hj
  .rw[l];have a6:j∈iJ g.kids:=hj;have⟨ej,h5,_⟩:=h.nM.dn b g j A a6
   grind
  all_goals grind
 .intro i e H;rcases u i e H with⟨l,rfl⟩|⟨l,rfl⟩|⟨l,B,F,P,C,rfl⟩|⟨l,B,F,C⟩
  .simp[iJ]
  .show(iJ g.kids).Nodup;exact h.nM.nd b g A
  .show(iJ P.kids).Nodup;exact h.nM.nd i P C
  .exact h.nM.nd i e C
 .intro i e H k hk;rw[gk];rcases u i e H with⟨l,rfl⟩|⟨l,rfl⟩|⟨l,B,F,P,C,rfl⟩|⟨l,B,F,C⟩
  .cases hk
  .exact h.nM.kd b g A k hk
  .exact h.nM.kd i P C k hk
  .exact h.nM.kd i e C k hk
 .intro i e p H hp;rcases u i e H with⟨l,rfl⟩|⟨l,rfl⟩|⟨l,B,F,P,C,rfl⟩|⟨l,B,F,C⟩
  .rw[l];exact h.sY.je b g p A hp
  .grind
  .grind
  .exact h.sY.je i e p C hp
 .rw[V];exact h.sY.gA
 .rw[V,S];exact h.sY.hd
 .rw[V];intro x O;obtain⟨i,e,rfl,D⟩:=kI (h.gA x O)
  grind[Ab.mF]
 .rw[Q];intro i H;have⟨e,D,hf⟩:=h.act i H
  grind
 .rw[S];exact λx O=>I _ _ (h.head x O)
 .rw[a4];exact λx O=>I _ _ (h.form x O)
 .rw[V];intro x Z O;have⟨z,l,B⟩:=h.KB x Z O
  grind
 .rw[q];exact h.wT
 .rw[q];exact h.zH
 .rw[q];exact h.OB
 .rw[q];exact h.RK
 .have⟨e,D⟩:=Option.isSome_iff_exists.1 h.xb
  grind
 .rw[q]at I|-;exact⟨rfl,rfl,rfl,rfl,rfl,rfl,rfl,rfl,rfl,rfl,rfl,I,λ_=>rfl⟩
 .have w1:=h2.wt;have w2:=rP (e':={g with kids:=[]}) K
  grind
 .rw[v,Ab.nD];exact h2.len
theorem jw.nodup (h:jw r σ):σ.gA.Nodup:=h.sY.gA.imp λb e=>by grind
theorem jw.Zp (h:jw r σ) (u:∀x∈ys,σ.mF x=true) (v:ys.Pairwise λx y=>rk r x < rk r y) (g:ys.head?=σ.gA.head?) (A:ys.length<=σ.pQ):jw r {σ with gA:=ys}/\Fx σ {σ with gA:=ys}:=by
 refine⟨⟨⟨h.nM.up,h.nM.dn,h.nM.nd,h.nM.kd⟩,⟨h.sY.je,v,?_⟩,u,h.act,h.head,h.form,?_,A,h.zH,h.OB,h.RK,h.xb⟩,⟨rfl,rfl,rfl,rfl,rfl,rfl,rfl,rfl,rfl,rfl,rfl,λ_ _ h=>h,λ_=>g⟩⟩
 .intro d x B q;exact h.sY.hd d x B (by grind)
 .intro x b q;have l:ys=x::b:=q;rw[l]at g;cases ho:σ.gA with
  |nil=>grind
  |cons y r2=>
   rw[ho]at g;have e:x=y:=by simpa using g
   subst e;exact h.KB x r2 ho
def QO (h:xs[n]?=some x):xs=xs.take n++x::xs.drop (n+1):=by
 have d:=(List.getElem?_eq_some_iff.1 h).1;have b:=(List.getElem?_eq_some_iff.1 h).2;rw[<-b,<-CV d,Gt]
theorem SH (h:xs[n]?=some x) (b:xs.Nodup):x∉xs.take n:=by
 have e:=QO h
 grind
theorem Yg (h:xs[n]?=some x) (b:xs.Nodup):xs.erase x=xs.take n++xs.drop (n+1):=by
 have d:=SH h b
 conv=>lhs;rw[QO h]
 grind
theorem vf (h:xs[n]?=some x) (b:xs.Nodup):xs.idxOf x=n:=by
 grind
def Ae (h:xs[n]?=some x):n < xs.length:=(List.getElem?_eq_some_iff.1 h).1
def jw.vL (h:jw r σ) {x y : Nat} (d:σ.gA[m]?=some (some x)) (g:σ.gA[n]?=some (some y)) (b:m < n):r x < r y:=by
 have:=List.pairwise_iff_getElem.1 h.sY.gA m n (Ae d) (Ae g) b
 rwa [(List.getElem?_eq_some_iff.1 d).2,(List.getElem?_eq_some_iff.1 g).2]at this
theorem jw.Qb (h:iV σ i s):σ.nm i=s:=by
 have⟨e,he,hn⟩:=h
 grind[Ab.nm]
def R8 (h:σ.ib i=some e):iV σ i (σ.nm i):=⟨e,h,by unfold Ab.nm;rw[h]⟩
theorem lV (h:iV σ i s):(σ.ib i).isSome=true:=by have⟨e,he,_⟩:=h;grind
theorem Yq (h:(σ.ib i).isSome=true):iV σ i (σ.nm i):=by
 grind[iV,Ab.nm]
structure RJ (r:Nat->Nat) (σ:Ab) (f iw n pf last mark:Nat):Prop where
 inv:jw r σ
 lst:(σ.ib last).isSome=true
 low:∀m x,m < n->σ.gA[m]?=some (some x)->r x < r last
 fat:σ.gA[pf]?=some (some f)
 pfn:pf < n
 bat:some iw∈σ.gA.drop n
 nle:n<=σ.gA.length
 mrk:(σ.ib mark).isSome=true
 nt:∀m x,pf < m->σ.gA[m]?=some (some x)->kA (σ.nm x) gg=false
 fact:some f∈σ.act
def RJ.isSome (f:Fx σ σ') (h:(σ.ib i).isSome=true):(σ'.ib i).isSome=true:=lV (f.nm _ _ (Yq h))
def Fx.acy (f:Fx σ σ') (h:(σ.ib i).isSome=true):σ'.nm i=σ.nm i:=jw.Qb (f.nm _ _ (Yq h))
def RJ.oe (h:jw r σ) {x : Nat} (b:σ.gA[m]?=some (some x)):(σ.ib x).isSome=true:=h.gA _ (tu b)
def FB (f b pf c:Nat) (σ:Ab) (d:pG (Nat×Nat)):Prop:=match d with
 | .ok lm σ'=>Fx σ σ'/\wt σ'<=wt σ+c/\σ'.fresh=σ.fresh/\∃r,RJ r σ' f b (pf+1) pf lm.1 lm.2
 | .stop _ _=>False
 | .stuck=>False
def FB.pre {d c' : Nat} {σ1 : Ab} {b : pG (Nat×Nat)} (h:FB f d pf c σ1 b) (g:Fx σ σ1) (q:wt σ1+c<=wt σ+c') (l:σ1.fresh=σ.fresh):FB f d pf c' σ b:=by
 cases b with
 |ok lm σ'=>
  have⟨h1,h2,h3,h4⟩:=h;exact⟨g.trans h1,by omega,h3.trans l,h4⟩
 |stop e p=>exact h
 |stuck=>exact h
def Uu (f g n c last d e:Nat):M (Nat×Nat):=λσ=>if some e∉σ.act then (kq (some e)>>=λ_=>mj f g n (c+1) last d) σ else (kP e>>=λb=>zA (some e) (some b)>>=λ_=>ri (some e) (some b)>>=λ_=>mq last>>=λ_=>jx b>>=λpl=>mN pl last>>=λ_=>mj f g n (c+1) b (if last=g then b else d)) σ
def N6 (f d n c last b:Nat) (σ:Ab):mj f d (n+1) c last b σ=(Gf n>>=λe=>if e=f then pure (last,b)else (if 3 < c+1 then kH (some e)else pure ())>>=λ_=>Uu f d n c last b e) σ:=rfl
def xP (o a:kO) (n:Nat):Nat:=((o.take n).filter λx=>decide (x∈a)).length
def LA {b : kO} (g:n<=m) (d:∀x∈o.take n,x∈b->x∈a):xP o b n<=xP o a m:=by
 unfold xP;have u:((o.take n).filter λx=>decide (x∈b)).length<=((o.take n).filter λx=>decide (x∈a)).length:=by
  rw[<-List.countP_eq_length_filter,<-List.countP_eq_length_filter];refine List.countP_mono_left ?_;intro x q h;simp at h|-;exact d x q h
 have v:((o.take n).filter λx=>decide (x∈a)).length<=((o.take m).filter λx=>decide (x∈a)).length:=by
  have l:(o.take n).Sublist (o.take m):=by
   have e:o.take n=(o.take m).take n:=by rw[US,Nat.min_eq_left g]
   rw[e];exact MD _ _
  exact(l.filter _).length_le
 omega
theorem Ve (h:o[n]?=some x) (b:x∈a):xP o a (n+1)=xP o a n+1:=by
 unfold xP;have e:o.take (n+1)=o.take n++[x]:=by rw[Kk,h];rfl
 grind
theorem L9:∀{xs ys:kO},xs.Nodup->(∀x∈xs,x∈ys)->xs.length<=ys.length
 |[],_,_,_=>iP _
 |x::xs,ys,hn,hs=>by
  have g:=hs x (pP ..);have⟨h1,h2⟩:=List.nodup_cons.1 hn;have d:=L9 (xs:=xs) (ys:=ys.erase x) h2 (λy b=>(Tz (by grind)).2 (hs y (oX _ b)))
  grind
def aad (b:o.Nodup) (n:Nat):xP o a n<=a.length:=by
 unfold xP;refine L9 ((b.sublist (MD _ _)).sublist (List.filter_sublist)) ?_;simp
theorem Cq (f D pf:Nat) (s:gz) (hs:s≠fY):∀(n c last C:Nat) {r:Nat->Nat} {σ:Ab} {K:Nat},RJ r σ f D n pf last C->iV σ f s->xP σ.gA σ.act n<=K->wt σ+K < 999990->FB f D pf K σ (mj f D n c last C σ)
 |0,c,last,C,r,σ,K,h,_,_,_=>absurd h.pfn (by omega)
 |n+1,c,last,C,r,σ,K,h,hfn,hK,hw=>by
  have aq:n < σ.gA.length:=by have:=h.nle;omega
  have⟨e,ee,hoe,hel⟩:=h.inv.at aq;have ai:Gf n σ= .ok e σ:=by
   unfold Gf;rw[qP,xo,hoe];rfl
  rw[N6,M.gy,ai];dsimp only
  by_cases N:e=f
  .rw[gF N];have U:n=pf:=by
    have X:=vf hoe h.inv.nodup;have h2:=vf h.fat h.inv.nodup;rw[N]at X;omega
   subst U;exact⟨Fx.refl _,by omega,rfl,r,h⟩
  .rw[gR N];have U:n≠pf:=by
    intro U;rw[U,h.fat]at hoe;exact N (jK (jK hoe)).symm
   have V:pf < n:=by have:=h.pfn;omega
   have hA:∃d,(if 3 < c+1 then kH (some e)else pure ()) σ= .ok () d/\jw r d/\Fx σ d/\U5 σ σ.gA d.act d/\some f∈d.act/\∀x,x∈d.act->x∈σ.act:=by
    by_cases hc:3 < c+1
    .rw[gF hc];unfold kH;rw[gF (by grind[Ab.gX])];have⟨g1,g2⟩:=h.inv.Cu (ys:=σ.act.erase (some e)) (λi P=>h.inv.act i (AK P)) (jN (List.length_erase_le) h.inv.zH);exact⟨_,rfl,g1,g2,⟨rfl,rfl,rfl,rfl⟩,(Tz (λe0=>N (jK e0).symm)).2 h.fact,λx u=>AK u⟩
    .rw[gR hc];exact⟨σ,rfl,h.inv,Fx.refl _,⟨rfl,rfl,rfl,rfl⟩,h.fact,λ_ h=>h⟩
   have⟨d,q1,i1,f1,l1,a1,sub1⟩:=hA;rw[M.gy,q1];dsimp only;unfold Uu;have Q:=l1.gA;have a0:∀i,d.ib i=σ.ib i:=λi=>by unfold Ab.ib;rw[l1.nodes]
   have af:∀i,d.nm i=σ.nm i:=λi=>by unfold Ab.nm;rw[a0]
   have w1:wt d=wt σ:=jl l1.nodes;have J:d.gA[n]?=some (some e):=by rw[Q];exact hoe
   have I:=i1.nodup;have aj:d.gA.head?≠some (some e):=by
    intro e0;rw[Kq]at e0;have X:=vf e0 I;have h2:=vf J I;omega
   split
   .
    rename_i ad;rw[M.gy];have hq:kq (some e) d= .ok () {d with gA:=d.gA.erase (some e)}:=by
     unfold kq;rw[gF (by grind[Ab.gX])]
    rw[hq];dsimp only;have⟨g1,g2⟩:=i1.sub (ys:=d.gA.erase (some e)) List.erase_sublist (Ca aj);have he:d.gA.erase (some e)=d.gA.take n++d.gA.drop (n+1):=Yg J I;have ao:(d.gA.take n).length=n:=by rw[List.length_take];rw[Q];omega
    have ab:∀m,m < n->(d.gA.erase (some e))[m]?=σ.gA[m]?:=by
     intro m q;rw[he,UX (by omega),Eh,gF q,Q]
    have al:∀m,n<=m->(d.gA.erase (some e))[m]?=σ.gA[m+1]?:=by
     intro m q;rw[he,List.getElem?_append_right (by omega),ao,UR,Q]
     congr 1;omega
    refine FB.pre (Cq f D pf s hs n (c+1) last C (r:=r) (K:=K) ⟨g1,?_,?_,?_,V,?_,?_,?_,?_,a1⟩ ?_ ?_ ?_) (f1.trans g2) ?_ l1.fresh
    .exact RJ.isSome (f1.trans g2) h.lst
    .intro m x q u;exact h.low m x (by omega) (by grind)
    .show(d.gA.erase (some e))[pf]?=_;rw[ab pf V];exact h.fat
    .show some D∈(d.gA.erase (some e)).drop n;rw[he,List.drop_append_of_le_length (by omega),Fp (by omega),rQ,Q];exact h.bat
    .grind
    .exact RJ.isSome (f1.trans g2) h.mrk
    .intro m x q u;have W:(d.gA.erase (some e))[m]?=some (some x):=u;show kA (d.nm x) _=_;rw[af];rcases rA m n with F|F
     .rw[ab m F]at W;exact h.nt m x q W
     .rw[al m F]at W;exact h.nt (m+1) x (by omega) W
    .exact(f1.trans g2).nm _ _ hfn
    .refine jN ?_ hK;show xP (d.gA.erase (some e)) d.act n<=_;have e9:xP (d.gA.erase (some e)) d.act n=xP σ.gA d.act n:=by
      unfold xP;rw[he,ZM (by omega),Kl (by omega),Q]
     rw[e9];exact LA (lf _) (λx _ u=>sub1 x u)
    all_goals grind[wt]
   .
    rename_i ad;have a8:some e∈d.act:=by simpa using ad
    have⟨e1,he1,hfm⟩:=i1.act e a8;rw[M.gy,zU he1 hfm];dsimp only;obtain⟨j,hj⟩:∃j,j=d.nodes.length:=⟨_,rfl⟩;have⟨i2,f2⟩:=i1.new e1.name e1.gV d.fresh (r e);obtain⟨g,v⟩:∃g,g=d.pn (.el {name:=e1.name,gV:=e1.gV,je:=none,kids:=[]}) d.fresh:=⟨_,rfl⟩;rw[<-v]at i2 f2|-;have aa:g.ib j=some {name:=e1.name,gV:=e1.gV,je:=none,kids:=[]}:=by rw[v,hj];exact Ab.ui
    rw[<-hj]at i2|-;have w2:wt g=wt d:=by rw[v];exact Eg _ _ _
    have o2:g.gA=d.gA:=by rw[v];rfl
    have a2:g.act=d.act:=by rw[v];rfl
    have ae:∀i,(d.ib i).isSome=true->i≠j:=by
     intro i P e0;have⟨ei,hei⟩:=Option.isSome_iff_exists.1 P;have:=Ab.il hei;omega
    have aw:∀i,(d.ib i).isSome=true->wU r j (r e) i=r i:=λi P=>zm (ae i P);have a9:(d.ib e).isSome=true:=by rw[he1];rfl
    have S:iV g j e1.name:=⟨_,aa,rfl⟩;have am:g.gA.idxOf (some e)=n:=by rw[o2];exact vf J I
    have ap:some e∈g.gA:=by rw[o2];exact tu J
    have ax:pM g.gA (some e) (some j)=g.gA.set n (some j):=by unfold pM;rw[gF ap,am]
    have ar:zA (some e) (some j) g= .ok () {g with gA:=g.gA.set n (some j)}:=by
     unfold zA;rw[gF (by rw[rR];exact⟨RJ.isSome f2 a9,lV S⟩),ax]
    have G:∀m,(g.gA.set n (some j))[m]?=if m=n then some (some j)else σ.gA[m]?:=by
     intro m;rw[List.getElem?_set]
     by_cases q:n=m
     .grind
     .grind
    have aE:1<=n:=by omega
    have⟨i3,f3⟩:=i2.Zp (ys:=g.gA.set n (some j)) (by
      intro x u;rcases List.mem_or_eq_of_mem_set u with u|rfl
      .exact i2.gA x u
      .exact lV S) (by
      rw[List.pairwise_iff_getElem];intro a b ha hb ah;have a4:a < σ.gA.length:=by simpa [o2,Q]using ha
      have a7:b < σ.gA.length:=by simpa [o2,Q]using hb
      have H:∀m (q:m < (g.gA.set n (some j)).length) (T:m < σ.gA.length),rk (wU r j (r e)) ((g.gA.set n (some j))[m])=rk r (σ.gA[m]):=by
       intro m q T;have X:=G m;rw[rq q]at X
       by_cases F:m=n
       .subst F;rw[gF rfl]at X;rw[jK X];have h2:σ.gA[m]=some e:=by rw[rq T]at hoe;exact jK hoe
        rw[h2]
        grind[rk,wU]
       .rw[gR F,rq T]at X;rw[jK X];have⟨y,ey,hy,Y⟩:=kI (h.inv.gA _ (uP T))
        grind[rk]
      rw[H a ha a4,H b hb a7];exact List.pairwise_iff_getElem.1 h.inv.sY.gA a b a4 a7 ah) (by
      rw[Kq,Kq,G 0,gR (by omega),o2,Q]) (by
      rw[List.length_set];exact i2.wT)
    rw[M.gy,ar];dsimp only;obtain⟨l,A⟩:∃l,l=({g with gA:=g.gA.set n (some j)}:Ab):=⟨_,rfl⟩;rw[<-A]at i3 f3|-;have au:ri (some e) (some j) l= .ok () {l with act:=pM l.act (some e) (some j)}:=by
     unfold ri;rw[gF (by rw[rR];exact⟨RJ.isSome f3 (RJ.isSome f2 a9),lV (f3.nm _ _ S)⟩)]
    have⟨i4,f4⟩:=i3.Cu (ys:=pM l.act (some e) (some j)) (λi P=>by
      rcases Jz P with P|P
      .exact i3.act i P
      grind[Ab.ib]) (by rw[Jw];exact i3.zH)
    rw[M.gy,au];dsimp only;obtain⟨Z,B⟩:∃Z,Z=({l with act:=pM l.act (some e) (some j)}:Ab):=⟨_,rfl⟩;rw[<-B]at i4 f4|-;have a3:=((f1.trans f2).trans f3).trans f4;have ac:=RJ.isSome a3 h.lst;have⟨elast,hlast⟩:=Option.isSome_iff_exists.1 ac;have⟨σ5,q5,i5,f5,w5,o5,a5,r5,n5,e5,he5,hp5,_⟩:=i4.mq hlast;rw[M.gy,q5];dsimp only;have⟨ej5,hj5,hjn5⟩:=f5.nm _ _ (f4.nm _ _ (f3.nm _ _ S));have av:jx j σ5= .ok (j,ej5.kids.length) σ5:=by unfold jx;rw[hj5]
    rw[M.gy,av];dsimp only;have aD:r e < r last:=h.low n e (by omega) hoe;have ay:(d.ib last).isSome=true:=RJ.isSome f1 h.lst;have az:wt σ5<=wt σ:=by
     have e4:wt Z=wt l:=by rw[B];rfl
     have e3:wt l=wt g:=by rw[A];rfl
     omega
    have⟨σ6,q6,i6,f6,w6,o6,a6,r6,n6,g6,_⟩:=i5.put (pl:=(j,ej5.kids.length)) ⟨ej5,hj5,ij _⟩ he5 hp5 (by
     grind[wU]) (by omega)
    rw[M.gy,q6];dsimp only;have R:=(a3.trans f5).trans f6;have O:σ6.gA=g.gA.set n (some j):=by rw[o6,o5,B];show l.gA=_;rw[A]
    have j6:iV σ6 j e1.name:=f6.nm _ _ ⟨ej5,hj5,hjn5⟩;have ag:σ6.act=pM d.act (some e) (some j):=by
     rw[a6,a5,B];show pM l.act (some e) (some j)=_;rw[A];show pM g.act (some e) (some j)=_;rw[a2]
    have aC:xP σ.gA σ.act (n+1)=xP σ.gA σ.act n+1:=Ve hoe (sub1 _ a8);have aB:xP σ6.gA σ6.act n<=xP σ.gA σ.act n:=by
     have e9:xP σ6.gA σ6.act n=xP σ.gA σ6.act n:=by
      unfold xP;rw[O,List.take_set_of_le (ij _),o2,Q]
     rw[e9];refine LA (ij _) ?_;intro y hy q;rw[ag]at q;rcases Jz q with q|q
     .grind
     .exfalso;have Y:=List.mem_of_mem_take hy;rw[q]at Y;have:=h.inv.ER Y;have aA:d.nodes.length=σ.nodes.length:=by rw[l1.nodes]
      omega
    refine FB.pre (Cq f D pf s hs n (c+1) j (if last=D then j else C) (r:=wU r j (r e)) (K:=K - 1) ⟨i6,lV j6,?_,?_,V,?_,?_,?_,?_,?_⟩ (R.nm _ _ hfn) (by omega) (by omega)) R (by omega) ?_
    .intro m x q u;rw[O,G m,gR (by omega)]at u;rw[yv,aw x (by rw[a0];exact RJ.oe h.inv u)];exact h.inv.vL u hoe q
    .rw[O,G pf,gR (by omega)];exact h.fat
    .rw[O];have q:some D∈σ.gA.drop (n+1):=h.bat;have⟨k,hk⟩:=Fq q;rw[UR]at hk;refine tu (i:=k+1) ?_
     grind
    .grind
    .by_cases an:last=D
     .grind
     .rw[gR an];exact RJ.isSome R h.mrk
    .intro m x q u;rw[O,G m]at u
     by_cases F:m=n
     .rw[gF F]at u;cases u;rw[jw.Qb j6];have h3:=h.nt n e V hoe
      rwa [<-af,show d.nm e=e1.name from jw.Qb ⟨e1,he1,rfl⟩]at h3
     .rw[gR F]at u;rw[R.acy (RJ.oe h.inv u)];exact h.nt m x q u
    .rw[a6,a5,B];show some f∈pM l.act (some e) (some j);have ak:some f∈l.act:=by rw[A];show some f∈g.act;rw[a2];exact a1
     unfold pM;split
     .have⟨k,hk⟩:=Fq ak;refine tu (i:=k) ?_
      grind
     omega
    .rw[r6,r5,B];show l.fresh=_;rw[A];show g.fresh=_;rw[v];exact l1.fresh
theorem jw.aeR (h:jw r σ):jw (λi=>2*r i) σ:=by
 refine {h with sY:=⟨λi e p l q=>?_,h.sY.gA.imp_of_mem ?_,λd x g b=>?_⟩}
 .have:=h.sY.je i e p l q;omega
 .intro x y b v u;obtain⟨i,_,rfl,_⟩:=kI (h.gA x b);obtain⟨j,_,rfl,_⟩:=kI (h.gA y v)
  grind[rk]
 .have:=h.sY.hd d x g b;omega
theorem RO (h:σ.gX x=true):kH x σ= .ok () {σ with act:=σ.act.erase x}:=by
 grind[kH]
theorem Ji (h:σ.gX x=true):kq x σ= .ok () {σ with gA:=σ.gA.erase x}:=by
 grind[kq]
theorem Bz (xs:kO) (x y:jg):(jb xs x y).length<=xs.length+1:=by
 grind[jb]
theorem BB (h:z∈jb xs x y):z∈xs\/z=y:=by
 unfold jb at h
 grind
theorem K7 (h:z∈xs):z∈jb xs x y:=by
 unfold jb;split
 .have b:z∈xs.take (xs.idxOf x+1)++xs.drop (xs.idxOf x+1):=by rw[Gt];exact h
  grind
 omega
theorem jw.OQ (h:jw r σ) (b:σ.gA[pf]?=some (some f)) (l:1<=pf):∃a,ahead f σ= .ok a σ/\σ.gA[pf - 1]?=some (some a):=by
 have⟨a,ea,ha,_⟩:=h.at (n:=pf - 1) (by grind);refine⟨a,?_,ha⟩;unfold ahead;have d:=vf b h.nodup;have g:posOf σ.gA (some f)=(pf:Int):=by unfold posOf;rw[d,gF (Ae b)]
 rw[g,show(pf:Int) - 1=((pf - 1:Nat):Int) by omega,qP,xo,ha];rfl
theorem Lc (h:jw r σ) {a : Nat} (l:σ.gA[pf]?=some (some f)) (G:1<=pf) (u:σ.gA[pf - 1]?=some (some a)) (B:kA (σ.nm f) gg=false) (H:∀m x,pf < m->σ.gA[m]?=some (some x)->kA (σ.nm x) gg=false):∃pl,placeFor a σ= .ok pl σ/\Bd σ pl/\r pl.1 < r f:=by
 have b:some a∈σ.gA:=tu u;have A:r a < r f:=h.vL u l (by omega);have⟨a',ea,e1,hea⟩:=kI (h.gA _ b);cases e1;unfold placeFor;split
 .have⟨pl,h1,h2,_,d⟩:=Ad h (List.ne_nil_of_mem b);refine⟨pl,h1,h2,?_⟩;rcases d with⟨i,C,F,_,D⟩|d
  .have⟨k,hk⟩:=Fq C;have q:k < pf:=by
    rcases Nat.lt_trichotomy k pf with g|g|g
    .exact g
    .grind
    .grind
   have:=h.vL hk l q;omega
  .have v:σ.gA[0]?=some (some pl.1):=by
    rw[show(0:Int)=((0:Nat):Int)from rfl,qP,xo]at d;cases hx:σ.gA[0]? with
    |none=>grind
    |some y=>grind
   exact h.vL v l (by omega)
 .unfold jx;rw[hea]
  grind[Bd]
def P5 (f d:Nat) (σ:Ab):uu f d σ=(xB f d>>=λg=>mq g.1>>=λ_=>ahead f>>=λa=>placeFor a>>=λpl=>mN pl g.1>>=λ_=>kP f>>=λb=>handOver d b>>=λ_=>jx d>>=λpl=>mN pl b>>=λ_=>qi (some g.2) (some b)>>=λ_=>kH (some f)>>=λ_=>kq (some f)>>=λ_=>qw (some d) (some b)>>=λ_=>(pure ():M Unit)) σ:=rfl
theorem P6 (h:mL σ) {b Y : Nat} (hs:rl s=true) (D:iV σ f s) (aq:some f∈σ.act) (hf:σ.gA[pf]?=some (some f)) (hb:σ.gA[Y]?=some (some b)) (ax:pf < Y) (nt:∀m x,pf < m->σ.gA[m]?=some (some x)->kA (σ.nm x) gg=false) (hw:wt σ < 999900):jG 36 σ (uu f b σ) (λ_ σ'=>σ'.fresh=σ.fresh):=by
 have⟨r,h⟩:=h;have T:s≠fY:=Dy hs;have aG:σ.gA.length<=64:=jN h.wT h.OB;have ag:=Ae hb;have af:1<=pf:=by
  rcases CZ pf with h0|h0
  .exfalso;apply h.DU D T;rw[Kq,<-h0];exact hf
  .exact h0
 have ao:=RJ.oe h hb;rw[P5,M.gy];have az:xB f b σ=mj f b Y 0 b f σ:=by
  unfold xB;have C:=vf hb h.nodup;have X:posOf σ.gA (some b)=(Y:Int):=by unfold posOf;rw[C,gF ag]
  rw[X];rfl
 have H:=Cq f b pf s T Y 0 b f (r:=r) (σ:=σ) ⟨h,ao,λm x hm q=>h.vL q hb hm,hf,ax,by
  refine tu (i:=0) ?_
  grind,by omega,lV D,nt,aq⟩ D (K:=32) (jN (aad h.nodup _) (jN h.zH h.RK)) (by omega)
 rw[az];revert H;cases mj f b Y 0 b f σ with
 |stop e p=>simp[FB]
 |stuck=>simp[FB]
 |ok lm σ1=>
  rintro⟨f1,w1,aI,F,J⟩;dsimp only;have⟨last,mark⟩:=lm;dsimp only at J|-;have⟨el,hel⟩:=Option.isSome_iff_exists.1 J.lst;have⟨σ2,q2,i2,f2,w2,o2,a2,r2,n2,e2,he2,hp2,_⟩:=J.inv.mq hel;rw[M.gy,q2];dsimp only;have ab:σ2.gA[pf]?=some (some f):=by rw[o2];exact J.fat
  have⟨a,qa,ha⟩:=i2.OQ ab af;rw[M.gy,qa];dsimp only;have a0:iV σ2 f s:=f2.nm _ _ (f1.nm _ _ D);have au:kA (σ2.nm f) gg=false:=by
   rw[jw.Qb a0];cases q:kA s gg with
   |false=>rfl
   |true=>
    have:=tI q;subst this;simp[rl,ik,kA,sH]at hs
  have aC:∀m x,pf < m->σ2.gA[m]?=some (some x)->kA (σ2.nm x) gg=false:=by
   intro m x hm q;rw[o2]at q;rw[f2.acy (RJ.oe J.inv q)];exact J.nt m x hm q
  have⟨pl,q3,p3,k3⟩:=Lc i2 ab af ha au aC;rw[M.gy,q3];dsimp only;have aL:F f < F last:=J.low pf f (by omega) J.fat;have⟨σ3,q4,i3,f3,w3,o3,a3,r3,n3,_,_⟩:=i2.put p3 he2 hp2 (by omega) (by omega);rw[M.gy,q4];dsimp only;have a1:iV σ3 f s:=f3.nm _ _ a0;have⟨ef,hef,hefn⟩:=id a1;rw[M.gy,zU hef (by grind)];dsimp only;have am:some b∈σ3.gA:=by
   rw[o3,o2];exact Rt J.bat
  have⟨blk',eb,e1,heb⟩:=kI (i3.gA _ am);cases e1;obtain⟨j,hj⟩:∃j,j=σ3.nodes.length:=⟨_,rfl⟩;have⟨i4,f4⟩:=i3.aeR.new ef.name ef.gV σ3.fresh (2*F b+1);obtain⟨u,l⟩:∃u,u=σ3.pn (.el {name:=ef.name,gV:=ef.gV,je:=none,kids:=[]}) σ3.fresh:=⟨_,rfl⟩;rw[<-l]at i4 f4|-;rw[<-hj]at i4|-;obtain⟨R,hR⟩:∃R,R=wU (λi=>2*F i) j (2*F b+1):=⟨_,rfl⟩;rw[<-hR]at i4;have N:u.ib j=some {name:=ef.name,gV:=ef.gV,je:=none,kids:=[]}:=by rw[l,hj];exact Ab.ui
  have ad:∀i,(σ3.ib i).isSome=true->i≠j:=by
   intro i S e0;have⟨ei,aa⟩:=Option.isSome_iff_exists.1 S;have:=Ab.il aa;omega
  have G:∀i,(σ3.ib i).isSome=true->R i=2*F i:=λi S=>by rw[hR];grind[wU]
  have Rj:R j=2*F b+1:=by rw[hR];exact yv _ _ _
  have I:(σ3.ib b).isSome=true:=by rw[heb];rfl
  have an:b≠j:=ad b I;have a9:u.ib b=some eb:=by rw[l];show(σ3.add _).ib b=_;rw[Ab.tF (Ab.il heb)];exact heb
  have w4:wt u=wt σ3:=by rw[l];exact Eg _ _ _
  have o4:u.gA=σ3.gA:=by rw[l];rfl
  have a4:u.act=σ3.act:=by rw[l];rfl
  have r4:u.fresh=σ3.fresh:=by rw[l];rfl
  have⟨σ5,q5,i5,f5,w5,o5,a5,r5,n5,b5,d5⟩:=i4.hand a9 N an rfl rfl (by
   intro k hk;have⟨ek,C,X⟩:=i3.nM.dn b eb k heb hk;have h3:=i3.sY.je k ek b C X
   grind) (by omega)
  rw[M.gy,q5];dsimp only;have q6:jx b σ5= .ok (b,0) σ5:=by unfold jx;rw[b5];rfl
  rw[M.gy,q6];dsimp only;have⟨σ6,q7,i6,f6,w6,o6,a6,r6,n6,_,_⟩:=i5.put (pl:=(b,0)) ⟨_,b5,iP _⟩ d5 rfl (by
   grind) (by omega)
  rw[M.gy,q7];dsimp only;have F6:=((((f1.trans f2).trans f3).trans f4).trans f5).trans f6;have V:iV σ6 j ef.name:=f6.nm _ _ (f5.nm _ _ ⟨_,N,rfl⟩);have a7:iV σ6 f s:=f6.nm _ _ (f5.nm _ _ (f4.nm _ _ a1));have aB:(σ6.ib mark).isSome=true:=RJ.isSome (((((f2.trans f3).trans f4).trans f5).trans f6)) J.mrk;have aj:σ6.act=σ1.act:=by rw[a6,a5,a4,a3,a2]
  have W:σ6.gA=σ1.gA:=by rw[o6,o5,o4,o3,o2]
  have aH:σ6.act.length<=32:=jN i6.zH i6.RK;have aN:σ6.gA.length<=64:=jN i6.wT i6.OB;have ak:some f∈σ6.act:=by rw[aj];exact J.fact
  have q8:qi (some mark) (some j) σ6= .ok () {σ6 with act:=jb σ6.act (some mark) (some j)}:=by
   unfold qi;rw[gF];rw[rR,rR];exact⟨⟨aB,lV V⟩,by grind⟩
  rw[M.gy,q8];dsimp only;have q9:kH (some f) {σ6 with act:=jb σ6.act (some mark) (some j)}= .ok () {σ6 with act:=(jb σ6.act (some mark) (some j)).erase (some f)}:=RO (σ:={σ6 with act:=jb σ6.act (some mark) (some j)}) (lV a7);rw[M.gy,q9];dsimp only;have⟨i7,f7⟩:=i6.Cu (ys:=(jb σ6.act (some mark) (some j)).erase (some f)) (λi S=>by
   rcases BB (AK S)with S|S
   .exact i6.act i S
   grind) (by
   have C:=Bz σ6.act (some mark) (some j);have X:=List.length_erase_of_mem (K7 (x:=some mark) (y:=some j) ak);have h3:=i6.zH;omega)
  obtain⟨g,A⟩:∃g,g=({σ6 with act:=(jb σ6.act (some mark) (some j)).erase (some f)}:Ab):=⟨_,rfl⟩;rw[<-A]at i7 f7|-;have o7:g.gA=σ6.gA:=by rw[A]
  have a8:iV g f s:=f7.nm _ _ a7;have aM:iV g j ef.name:=f7.nm _ _ V;have ac:g.gA[pf]?=some (some f):=by rw[o7,W];exact J.fat
  have ae:=i7.DU a8 T;have aD:kq (some f) g= .ok () {g with gA:=g.gA.erase (some f)}:=Ji (lV a8);rw[M.gy,aD];dsimp only;have⟨i8,f8⟩:=i7.sub (ys:=g.gA.erase (some f)) List.erase_sublist (Ca ae);obtain⟨d,B⟩:∃d,d=({g with gA:=g.gA.erase (some f)}:Ab):=⟨_,rfl⟩;rw[<-B]at i8 f8|-;have o8:d.gA=g.gA.erase (some f):=by rw[B]
  have ar:f≠b:=by
   rintro rfl;have C:=vf hf h.nodup;have X:=vf hb h.nodup;omega
  have Q:some b∈d.gA:=by
   rw[o8];refine(Tz (λe0=>ar (jK e0).symm)).2 ?_;rw[o7,W];exact Rt J.bat
  have⟨kb,hkb⟩:=Fq Q;have aK:=Ae hkb;have av:=vf hkb i8.nodup;have Z:=f7.trans f8;have ai:iV d j ef.name:=Z.nm _ _ V;have aw:d.gA.length+1=g.gA.length:=by
   rw[o8,List.length_erase_of_mem (tu ac)];have:=Ae ac;omega
  have O:jb d.gA (some b) (some j)=d.gA.take (kb+1)++[some j]++d.gA.drop (kb+1):=by
   unfold jb;rw[gF Q,av]
  have aE:qw (some b) (some j) d= .ok () {d with gA:=jb d.gA (some b) (some j)}:=by
   unfold qw;rw[gF];rw[rR,rR];refine⟨⟨?_,lV ai⟩,?_⟩
   .exact i8.gA _ Q
   .grind
  rw[M.gy,aE];dsimp only;have v:∀x∈d.gA,∃i,x=some i/\R i=2*F i:=by
   intro x q;have aA:x∈σ3.gA:=by
    rw[o8]at q;have:=AK q;rw[o7,W]at this;rw[o3,o2];exact this
   obtain⟨i,ei,rfl,aa⟩:=kI (i3.gA x aA);exact⟨i,rfl,G i (by grind)⟩
  have ay:=i8.sY.gA;have aF:R b=2*F b:=G b I;have⟨i9,f9⟩:=i8.Zp (ys:=jb d.gA (some b) (some j)) (by
   intro x q;rcases BB q with q|rfl
   .exact i8.gA x q
   .exact lV ai) (by
   rw[O,BI];have ah:d.gA=d.gA.take (kb+1)++d.gA.drop (kb+1):=(Gt _ _).symm;have P:=ay;rw[ah]at P;have⟨p1,p2,p3⟩:=List.pairwise_append.1 P;refine List.pairwise_append.2 ⟨p1,List.pairwise_cons.2 ⟨?_,p2⟩,?_⟩
   .
    intro y U;obtain⟨i,rfl,al⟩:=v y (Rt U);have ap:some b∈d.gA.take (kb+1):=by
     refine tu (i:=kb) ?_;rw[Eh,gF (by omega)];exact hkb
    have C:R b < R i:=p3 _ ap _ U
    grind[rk]
   .intro x q y U;rcases List.mem_append.1 U with U|U
    .rw[List.mem_singleton.1 U];obtain⟨i,rfl,al⟩:=v x (List.mem_of_mem_take q);show R i < R j;have⟨k,hk⟩:=Fq q;rw[Eh]at hk;split at hk
     .rename_i aJ;rcases rA k kb with C|C
      .have:=i8.vL hk hkb C;omega
      grind
     grind
    grind) (by
   rw[O,BI];cases ho8:d.gA with
   |nil=>grind
   |cons x0 xr=>rfl) (by
   have C:=Bz d.gA (some b) (some j);have X:=i7.wT
   grind)
  have wf:wt ({d with gA:=jb d.gA (some b) (some j)}:Ab)=wt σ6:=by
   show wt d=_;rw[B];show wt g=_;rw[A];rfl
  refine⟨⟨_,i9⟩,(F6.trans Z).trans f9,by omega,?_⟩
  grind
theorem FH (σ:Ab) (f b:Nat):∀(ys:kO) (d:jg),σ.uY f ys d=some b->d=some b\/∃k:Nat,ys[k]?=some (some b)/\∀g:Nat,g<=k->ys[g]?≠some (some f)
 |[],d,h=> .inl h
 |x::ys,d,h=>by
  unfold Ab.uY at h
  by_cases v:x=some f
  .grind
  .rw[gR v]at h;rcases FH σ f b ys _ h with l|⟨k,l,A⟩
   .by_cases u:lc (σ.qS x)=true
    .rw[gF u]at l;refine .inr ⟨0,by grind,λg q=>?_⟩
     grind
    grind
   .refine .inr ⟨k+1,l,λg q=>?_⟩
    grind
theorem Bu (σ:Ab) (f:Nat):∀(ys:kO),σ.nY f ys=true->∀(k:Nat) (x:jg),ys[k]?=some x->(∀b:Nat,b<=k->ys[b]?≠some (some f))->iQ (σ.qS x)=false
 |[],h,k,x,hx,_=>by cases hx
 |y::ys,h,k,x,hx,hno=>by
  unfold Ab.nY at h;have l:y≠some f:=λe=>hno 0 (iP _) (by grind);rw[gR l]at h
  by_cases d:iQ (σ.qS y)=true
  .grind
  .rw[gR d]at h;cases k with
   |zero=>
    grind
   |succ k=>exact Bu σ f ys h k x hx (λb g=>hno (b+1) (by omega))
theorem xz (σ:Ab) (s:gz):∀{ys:kO} {f:Nat},σ.qu s ys=some f->some f∈ys/\kA (σ.nm f) s=true
 |[],f,h=>by cases h
 |none::_,f,h=>by cases h
 |some i::ys,f,h=>by
  unfold Ab.qu at h
  by_cases b:kA (σ.nm i) s=true
  .grind
  .rw[gR b]at h;have⟨h1,h2⟩:=xz σ s h
   grind
def Q9:iQ gg=true:=by
 kernel_rfl
def yb {x : gz}:ik [s] x=kA x s:=by simp[ik]
def Ps (h:rl s=true):ik [s] fY=false:=by
 rw[yb];cases hx:kA fY s with
 |false=>rfl
 |true=>exact absurd (tI hx).symm (Dy h)
def Dv (h:mL σ) (b:s≠fY):jG 0 σ (uH s σ) (λ_ σ'=>uC σ σ'):=by
 refine jG.iH ((vX h (ik [s]) lc ?_).mono (ij _) (λ_ _ _ _ h=>h.1));rw[yb];cases hx:kA fY s with
 |false=>rfl
 |true=>exact absurd (tI hx).symm b
theorem Ks (h:mL σ) (J:rl s=true) (Y:wt σ < 999900):jG 36 σ (nA s σ) (λ_ σ'=>σ'.fresh=σ.fresh):=by
 unfold nA;cases hl:σ.pw s with
 |none=>
  dsimp only;refine jG.bind ((Dv h (Dy J)).mono (iP 36) (λ_ _ _ _ h=>h)) (c2:=0) ?_ (by omega);rintro _ A v _ _ q;exact jG.ret v q.fresh
 |some f=>
  dsimp only;have⟨O,hn⟩:=xz σ s hl;have C:some f∈σ.act:=List.mem_reverse.1 O;have⟨r,hr⟩:=id h;have⟨ef,hef,_⟩:=hr.act f C;have l:iV σ f s:=by
   have g:=R8 hef
   rwa [tI hn]at g
  have I:(σ.ib f).isSome=true:=by rw[hef];rfl
  split
  .refine jG.bind ((yC h (x:=some f) I).mono (iP 36) (λ_ _ _ _ h=>h)) (c2:=0) ?_ (by omega);rintro _ A v _ _ q;exact jG.ret v q.fresh
  .rename_i X;have F:some f∈σ.gA:=by simpa using X
   split
   .exact⟨h,Fx.refl _,by omega,rfl⟩
   .rename_i K;have G:σ.nY f σ.gA.reverse=true:=by simpa [Ab.oJ]using K
    cases hb:σ.qj f with
    |none=>
     dsimp only;refine jG.bind ((SJ h l (Dy J) F).mono (iP 36) (λ_ _ _ _ h=>h)) (c2:=0) ?_ (by omega);rintro _ A v S _ q1;refine jG.bind (yC v (x:=some f) (lV (S.nm _ _ l))) (c2:=0) ?_ (by omega);rintro _ a0 Z _ _ q2;exact jG.ret Z (q2.fresh.trans q1.fresh)
    |some b=>
     dsimp only;have⟨pf,hpf⟩:=Fq F;have P:=Ae hpf;have d:∀k,k < σ.gA.length->σ.gA.reverse[k]?=σ.gA[σ.gA.length - 1 - k]?:=λk D=>Rw D;have Q:∀k,σ.gA.reverse[k]?=some (some f)->k=σ.gA.length - 1 - pf:=by
      intro k D;have u:k < σ.gA.length:=by simpa using (List.getElem?_eq_some_iff.1 D).1
      rw[d k u]at D;have g:=vf D hr.nodup;have T:=vf hpf hr.nodup;omega
     have U:σ.gA.reverse[σ.gA.length - 1 - pf]?=some (some f):=by
      rw[d _ (by omega),show σ.gA.length - 1 - (σ.gA.length - 1 - pf)=pf by omega];exact hpf
     rcases FH σ f b σ.gA.reverse none hb with g|⟨k,g,T⟩
     .cases g
     .have u:k < σ.gA.length:=by simpa using (List.getElem?_eq_some_iff.1 g).1
      have V:k < σ.gA.length - 1 - pf:=by
       rcases rA k (σ.gA.length - 1 - pf)with N|N
       .exact N
       .grind
      rw[d k u]at g;refine jG.bind ((P6 h J l C hpf g (by omega) ?_ Y).mono (ij _) (λ_ _ _ _ h=>h)) (c2:=0) ?_ (by omega)
      .intro m x O R;have W:=Ae R;have H:=Bu σ f σ.gA.reverse G (σ.gA.length - 1 - m) (some x) (by
        rw[d _ (by omega),show σ.gA.length - 1 - (σ.gA.length - 1 - m)=m by omega];exact R) (by
        grind)
       cases hq:kA (σ.nm x) gg with
       |false=>rfl
       |true=>
        have e:=tI hq;have B:iQ (σ.nm x)=false:=H;rw[e,Q9]at B;cases B
      .rintro _ A v _ _ q;exact jG.ret v q
theorem Hl (d:rl s=true):∀(k:Nat) {σ:Ab},mL σ->wt σ+36*k < 999900->jG (36*k) σ (sP s k σ) (λ_ σ'=>σ'.fresh=σ.fresh)
 |0,σ,h,_=>⟨h,Fx.refl _,ij _,rfl⟩
 |k+1,σ,h,hw=>by
  unfold sP;refine jG.bind (Ks h d (by omega)) (c2:=36*k) ?_ (by omega);rintro b q g u v l;cases b with
  |true=>
   refine(Hl d k g (by omega)).mono (ij _) ?_
   grind
  |false=>exact jG.ret g l _
def Eo (h:mL σ) (d:σ.gA≠[]) (l:rl s=true) (A:wt σ < 999100):jG 288 σ (wX s σ) (λ_ σ'=>σ'.fresh=σ.fresh):=by
 have⟨r,hr⟩:=id h;have⟨i,e,h1,h2,h3,h4⟩:=NC hr d;unfold wX;rw[h1];dsimp only;split
 .rename_i g;rw[rR]at g;have b:σ.current (ik [s])=true:=by
   unfold Ab.current;rw[h1];show ik [s] (σ.nm i)=true;rw[yb];exact g.1
  have q:=xa h (ik [s]) (Ps l) b;refine jG.bind ((yi h q).mono (iP 288) (λ_ _ _ _ h=>h)) (c2:=0) ?_ (by omega);rintro x v u _ _ ⟨rfl,_⟩;exact⟨u,Fx.refl _,ij _,rfl⟩
 .exact(Hl l 8 h (by omega)).mono (by omega) (λ_ _ _ _ h=>h)
def Rel.drewN (h:Rel E L σ w) (q:Nat):Rel E L σ (w.drewN q):=h.im ((Kept.refl _ _).drewN q)
def Fr.drewN {bs : Nat} (w:gw) (q:Nat):Fr bs w (w.drewN q):= .gZ ((Kept.refl _ _).drewN q)
def kG (w:gw) (k c p:Nat):Prop:=w.heap[k]?=some (gJ #[gp c,gp p] 67)
abbrev qA (k:Nat):Ending:= .panicked [{v:= .iface 62 (gL k),recovered:=false}]
abbrev Bp (E:Env):gP:=gL E.bB
def Oi (h:Rel E L σ w) (c:Nat):
  Calls prog 252 #[Bp E,gp c] w λe b=>∃k,e=qA k/\kG b k c σ.gQ/\Fr E.bs w b:=by
 have q:=h.RY;have l:=h.lt;have g:=Fr.gZ (bs:=E.bs) ((Kept.refl [] w).alloc (gJ #[gp c,gp σ.gQ] 67));have d:=fZ w (gJ #[gp c,gp σ.gQ] 67);go_enter func252,ntmps252;go_wp2;exact⟨rfl,_,rfl,d,g⟩
def Rel.V5 (h:Rel E L σ w):Aj ⟨E.bB,188,none⟩ w=σ.gA.length:=by
 have⟨C,hL,_⟩:=h.yV;rw[hL.Aj,BK]
def vJ (xs:kO) (y:jg):iB (xs++[y]) (((xs++[y]).length:Int) - 1)=y:=IF xs y
def YN:iB ([]:kO) ((([]:kO).length:Int) - 1)=none:=rfl
theorem wD (xs:kO):xs=[]\/∃ys y,xs=ys++[y]:=by
 rcases ZP xs with h|⟨b,y,h⟩
 all_goals grind
theorem Rel.oe (h:Rel E L σ w) (b:x∈σ.gA):∃i e,x=some i/\σ.ib i=some e:=by
 have:=h.wf.gA x b;cases x with
 |none=>cases this
 |some i=>
  have⟨e,he⟩:=Option.isSome_iff_exists.1 (show(σ.ib i).isSome=true from this)
  grind
def Rel.vh (h:Rel E L σ w) (b:σ.ib i=some e):w.cell? ⟨L.gQ i,0,none⟩=some (gI (σ.nm i)):=by
 have:σ.nm i=e.name:=by unfold Ab.nm;rw[b]
 rw[this,fX (h.uF b).iw];rfl
def Ask.fr' {bm bs : Nat} {v : gP} {p : gz->Bool} {w' : gw} (h:Ask bm v p w) (b:Fr bs w w'):Ask bm v p w':=h.fr (b.n bm)
def yI (h:Rel E L σ w) (v:gP) (p:gz->Bool) (A:Ask E.bm v p w):
  Calls prog 201 #[Bp E,v] w λe l=>e=ir (.bool (σ.current p))/\l=w:=by
 obtain⟨k,H,rfl,G,B⟩:=A.call;have d:=SK h;rcases wD σ.gA with g|⟨ys,y,g⟩
 .have b:σ.current p=false:=by unfold Ab.current Ab.last;rw[g];rfl
  rw[b];rw[g,YN]at d;have q:=fW d;clear d;go_enter func201,ntmps201
  go_wp21
  refine q.mono ?_;rintro e l ⟨rfl,rfl⟩;go_wp2;go_ret;simp
 .obtain⟨i,F,rfl,C⟩:=h.oe (x:=y) (by rw[g];simp);have b:σ.current p=p (σ.nm i):=by unfold Ab.current Ab.last;rw[g,vJ]
  rw[b];rw[g,vJ]at d;have D:=h.vh C;have q:=fW (show Calls prog 160 #[jF E.bB 188] w (λe l=>e=ir (gL (L.gQ i))/\l=w)from d);have u:=B w (vS.refl _ _) (σ.nm i);generalize p (σ.nm i)=r at u|-;clear d;go_enter func201,ntmps201
  go_wp21
  refine q.mono ?_;rintro e l ⟨rfl,rfl⟩
  go_wp21
  refine u.mono ?_;rintro e l ⟨rfl,rfl⟩;go_wp2;go_ret;simp
def Y7 (h:Rel E L σ w) (v:gP) (p:gz->Bool) (l:Ask E.bm v p w):
  Calls prog 222 #[Bp E,v] w λe d=>e=p8/\To E L (σ.Jr p) w d:=by
 have b:=yI h v p l;have q:=Qf h;have u:=h.to (Fr.refl w);obtain⟨k,A,rfl,_,_⟩:=l.call;unfold Ab.Jr;cases hcur:σ.current p with
 |false=>
  rw[hcur]at b;go_enter func222,ntmps222
  go_wp21
  refine b.mono ?_;rintro e d ⟨rfl,rfl⟩;go_wp2;go_end0;exact⟨rfl,u⟩
 |true=>
  rw[hcur]at b;go_enter func222,ntmps222
  go_wp21
  refine b.mono ?_;rintro e d ⟨rfl,rfl⟩
  go_wp21
  refine q.mono ?_;rintro e d ⟨rfl,g⟩;go_wp2;go_end0;exact⟨rfl,g⟩
structure MG (E:Env) (L:Loc) (σ:Ab) (w:gw) (ys:kO) (wr:gw):Prop where
 ex:∃L1,L1.gQ=L.gQ/\Rel E L1 {σ with gA:=ys} wr/\Fr E.bs w wr
def ab2 (h:Rel E L σ w) (v:gP) (p:gz->Bool) (X:Ask E.bm v p w):
  Calls prog 275 #[Bp E,v] w λe g=>e=p8/\To E L (σ.Fl p) w g:=by
 obtain⟨k,lb,rfl,Z,T⟩:=X.call;have S:Hid (MG E L σ w σ.gA w):=fW ⟨L,rfl,h,Fr.refl w⟩;go_enter func275,ntmps275;go_wp2
 go_loopw [] (λwr=>∃ys,σ.AE p ys.reverse=σ.AE p σ.gA.reverse/\MG E L σ w ys wr) (λwr=>Aj ⟨E.bB,188,none⟩ wr)
 case atStart=>exact⟨_,rfl,S⟩
 case round=>
  have⟨ys,hu,⟨L1,e1,hR,HFR⟩⟩:=hrel;have O:=fW e1;clear e1;have H:=fW hR.V5;have u:=Y2 hR;have D:=Qf hR;rcases wD ys with rfl|⟨b,y,rfl⟩
  .have G:Hid (To E L (σ.Fl p) w wr):=by
    refine⟨L1,O,?_,HFR⟩;have:(σ.AE p σ.gA.reverse).reverse=[]:=by rw[<-hu];rfl
    unfold Ab.Fl;rw[this];exact hR
   clear hR hu
   go_wp21
   refine u.mono ?_;rintro e g ⟨rfl,rfl⟩;go_wp2;go_end0;exact⟨rfl,G⟩
  .obtain⟨i,W,rfl,J⟩:=hR.oe (x:=y) (by simp);have N:σ.AE p ((b++[some i]).reverse)=if p (σ.nm i)then b.reverse else σ.AE p b.reverse:=by rw[UT];rfl
   rw[N]at hu;have Q:0 < (b++[some i]).length:=by simp
   dsimp only at u D;rw[vJ]at D;have F:=(show Calls prog 165 #[jF E.bB 188] wr (λe g=>e=ir (gL (L1.gQ i))/\To E L1 {σ with gA:=(b++[some i]).dropLast} wr g)from D);have B:=fW hu;have q:(0:Int) < ((b++[some i]).length:Int):=by omega
   obtain⟨m,R⟩:∃m,m=(b++[some i]).length:=⟨_,rfl⟩;have U:=fW (show m=b.length+1 by rw[R];simp);dsimp only at H;rw[<-R]at u q H;clear hR hu
   go_wp21
   refine u.mono ?_;rintro e g ⟨rfl,rfl⟩
   go_wp21
   refine F.mono ?_;rintro e C ⟨rfl,V,e2,d,l⟩;rw[Rv]at d;have K:Ab.ib {σ with gA:=b} i=some W:=J;have Y:C.cell? ⟨L1.gQ i,0,none⟩=some (gI (σ.nm i)):=by rw[<-e2];exact d.vh K
   have A:=T C ((HFR.trans l).n _) (σ.nm i);have I:=fW d.V5;have P:Hid (MG E L σ w b C):=⟨V,e2.trans O,d,HFR.trans l⟩;clear d;cases hq:p (σ.nm i)with
   |true=>
    rw[hq]at A B;have G:Hid (To E L (σ.Fl p) w C):=by
     have⟨L3,e3,hR3,hf3⟩:=P.ex;refine⟨L3,e3,?_,hf3⟩;have:(σ.AE p σ.gA.reverse).reverse=b:=by rw[<-B.out,gF rfl,List.reverse_reverse]
     unfold Ab.Fl;rw[this];exact hR3
    go_wp21
    refine A.mono ?_;rintro e g ⟨rfl,rfl⟩;go_wp2
    (try simp only[Exit.inBlock,Exit.then])
    refine qe (Ki rfl _ _ _) rfl ?_;exact⟨rfl,G⟩
   |false=>
    rw[hq]at A B
    go_wp21
    refine A.mono ?_;rintro e g ⟨rfl,rfl⟩;go_wp2;go_roundw
    case rel=>exact⟨b,by rw[<-B.out];rfl,P⟩
    case measure=>rw[I.out,H.out,U.out];simp
def YD (bm:Nat) (b:List gz) (w:gw) (d:b.length<=4096):
  Calls prog 206 #[rh w.heap.size b.length b.length] (w.alloc (gJ (b.map Value.string).toArray 9)) λe g=>∃f a l,e=ir (.func f a l)/\Ask bm (.func f a l) (ik b) g/\Kept [] w g:=by
 refine(NA bm w.heap.size b.length b _ (fZ w _) d).mono ?_;rintro e g ⟨⟨v,rfl,h⟩,q⟩;obtain⟨k,u,rfl,_,_⟩:=h.call;exact⟨_,_,_,rfl,h,(((Kept.refl [] w).alloc _).trans q)⟩
theorem acC (bm:Nat) (v1 v2:gP) (p q:gz->Bool) (w:gw) (g:Ask bm v1 p w) (h:Ask bm v2 q w):
  Calls prog 226 #[v1,v2] w λe b=>∃f a l,e=ir (.func f a l)/\Ask bm (.func f a l) (λs=>p s||q s) b/\Kept [] w b:=by
 refine(adJ bm v1 v2 p q w g h).mono ?_;rintro e b ⟨⟨v,rfl,d⟩,u⟩;obtain⟨k,A,rfl,_,_⟩:=d.call
 grind
def Ask.k0 {bm : Nat} {v : gP} {p : gz->Bool} {w' : gw} (h:Ask bm v p w) (b:Kept [] w w'):Ask bm v p w':=h.fr (.gZ b)
def RZ (h:Rel E L σ w) (f:Fn) (a l:jO) (p:gz->Bool) (ha:Ask E.bm (.func f a l) p w):
  Calls prog 203 #[Bp E,.func f a l] w λe A=>e=p8/\To E L (σ.wY p) w A:=by
 have H:=h;have HA:=ha;have CI:=YD E.bm [fY] w (by decide);go_enter func203,ntmps203
 go_wp21
 refine CI.mono ?_;rintro e w1 ⟨f1,a1,l1,rfl,U,D⟩;have CO:=acC E.bm _ _ _ _ w1 (HA.k0 D) U
 go_wp21
 refine CO.mono ?_;rintro e w2 ⟨f2,a2,l2,rfl,C,V⟩;have F:=D.trans V;have H2:=H.im F;obtain⟨q,hq⟩:∃q,q=(λs=>p s||ik [fY] s):=⟨_,rfl⟩;rw[<-hq]at C;have G:Hid (∀wr,(∃v,v.gQ=L.gQ/\Rel E v {σ with gA:=(σ.qc (λs=>!q s) σ.gA.reverse).reverse} wr/\Fr E.bs w wr)->To E L (σ.wY p) w wr):=by
  rintro wr ⟨v,e1,b,J⟩;refine⟨v,e1,?_,J⟩;unfold Ab.wY
  rwa [hq]at b
 have H0:Hid (MG E L σ w σ.gA w2):=fW ⟨L,rfl,H2,.gZ F⟩;go_wp2
 go_loopw [] (λwr=>∃ys,σ.qc (λs=>!q s) ys.reverse=σ.qc (λs=>!q s) σ.gA.reverse/\Fr E.bs w2 wr/\MG E L σ w ys wr) (λwr=>Aj ⟨E.bB,188,none⟩ wr)
 case atStart=>exact⟨_,rfl,Fr.refl _,H0⟩
 case round=>
  have⟨ys,hu,hf2,⟨v,E1,b,J⟩⟩:=hrel;have S:=fW b.V5;have B:=Y2 b;have Y:=yI b _ _ (C.fr' hf2);rcases wD ys with rfl|⟨u,y,rfl⟩
  .have R:Hid (To E L (σ.wY p) w wr):=by
    refine G wr ⟨v,E1,?_,J⟩;have:(σ.qc (λs=>!q s) σ.gA.reverse).reverse=[]:=by rw[<-hu];rfl
    rw[this];exact b
   clear b hu
   go_wp21
   refine B.mono ?_;rintro e A ⟨rfl,rfl⟩;go_wp2;go_end0;exact⟨rfl,R⟩
  .obtain⟨i,e0,rfl,hi⟩:=b.oe (x:=y) (by simp);have X:σ.qc (λs=>!q s) ((u++[some i]).reverse)=if (!q (σ.nm i))=true then σ.qc (λs=>!q s) u.reverse else some i::u.reverse:=by rw[UT];rfl
   rw[X]at hu;have I:Ab.current {σ with gA:=u++[some i]} q=q (σ.nm i):=by unfold Ab.current Ab.last;rw[vJ];rfl
   rw[I]at Y;have g:=Y;have N:=fW hu;have Q:=J;have O:=hf2;have CP:=Qf b;obtain⟨m,W⟩:∃m,m=(u++[some i]).length:=⟨_,rfl⟩;have Z:(0:Int) < (m:Int):=by rw[W];simp
   have HM:=fW (show m=u.length+1 by rw[W];simp);dsimp only at S B;rw[<-W]at B S;cases hqq:q (σ.nm i)with
   |true=>
    rw[hqq]at g N;have R:Hid (To E L (σ.wY p) w wr):=by
     refine G wr ⟨v,E1,?_,J⟩;have:(σ.qc (λs=>!q s) σ.gA.reverse).reverse=u++[some i]:=by rw[<-N.out];simp
     rw[this];exact b
    clear b hu
    go_wp21
    refine B.mono ?_;rintro e A ⟨rfl,rfl⟩
    go_wp21
    refine g.mono ?_;rintro e A ⟨rfl,rfl⟩;go_wp2;go_end0;exact⟨rfl,R⟩
   |false=>
    rw[hqq]at g N;clear b hu
    go_wp21
    refine B.mono ?_;rintro e A ⟨rfl,rfl⟩
    go_wp21
    refine g.mono ?_;rintro e A ⟨rfl,rfl⟩
    go_wp21
    refine CP.mono ?_;rintro e w3 ⟨rfl,L2,e2,d,K⟩
    try dsimp only at d
    rw[Rv]at d;have T:=fW d.V5;have HP:Hid (MG E L σ w u w3):=⟨L2,e2.trans E1,d,Q.trans K⟩;have P:=O.trans K;clear d;go_wp2;go_roundw
    case rel=>exact⟨u,by rw[<-N.out];rfl,P,HP⟩
    case measure=>rw[T.out,S.out,HM.out];simp
def Rel.aaP (h:Rel E L σ w):∃f a l,w.cell? ⟨E.bB,185,none⟩=some (.func f a l)/\Ask E.bm (.func f a l) uK w:=by
 have⟨v,hv,ha⟩:=h.env.VS;obtain⟨k,b,rfl,_,_⟩:=ha.call;exact⟨_,_,_,h.low (by decide) hv,ha.fr' h.fr⟩
def Rel.G1 (h:Rel E L σ w):∃f a l,w.cell? ⟨E.bB,184,none⟩=some (.func f a l)/\Ask E.bm (.func f a l) lc w:=by
 have⟨v,hv,ha⟩:=h.env.spec;obtain⟨k,b,rfl,_,_⟩:=ha.call;exact⟨_,_,_,h.low (by decide) hv,ha.fr' h.fr⟩
def Rel.bounds (h:Rel E L σ w):∃f a l,w.cell? ⟨E.bB,186,none⟩=some (.func f a l)/\Ask E.bm (.func f a l) iQ w:=by
 have⟨v,hv,ha⟩:=h.env.Vp;obtain⟨k,b,rfl,_,_⟩:=ha.call;exact⟨_,_,_,h.low (by decide) hv,ha.fr' h.fr⟩
def IR (h:Rel E L σ w):
  Calls prog 270 #[Bp E] w λe F=>e=p8/\To E L σ.mD w F:=by
 have Q:Hid (MG E L σ w σ.gA w):=fW ⟨L,rfl,h,Fr.refl w⟩;have A:Hid (∀wr,(∃B,B.gQ=L.gQ/\Rel E B {σ with gA:=(σ.qc uK σ.gA.reverse).reverse} wr/\Fr E.bs w wr)->To E L σ.mD w wr):=by
  rintro wr ⟨B,e1,d,C⟩;exact⟨B,e1,d,C⟩
 generalize hq:uK=q at A;have T:=fW hq;clear hq;go_enter func270,ntmps270;go_wp2
 go_loopw [] (λwr=>∃ys,σ.qc q ys.reverse=σ.qc q σ.gA.reverse/\MG E L σ w ys wr) (λwr=>Aj ⟨E.bB,188,none⟩ wr)
 case atStart=>exact⟨_,rfl,Q⟩
 case round=>
  have⟨ys,hu,⟨B,E1,d,C⟩⟩:=hrel;have I:=fW d.V5;have⟨f1,a1,l1,c1,ha1⟩:=d.aaP;rw[T.out]at ha1;have v:=yI d _ _ ha1;rcases wD ys with rfl|⟨u,y,rfl⟩
  .have H:Hid (To E L σ.mD w wr):=by
    refine A wr ⟨B,E1,?_,C⟩;have:(σ.qc q σ.gA.reverse).reverse=[]:=by rw[<-hu];rfl
    rw[this];exact d
   have l:Ab.current {σ with gA:=[]} q=false:=rfl;rw[l]at v;have b:=fW v;clear d hu v
   go_wp21
   refine b.mono ?_;rintro e F ⟨rfl,rfl⟩;go_wp2;go_end0;exact⟨rfl,H⟩
  .obtain⟨i,W,rfl,X⟩:=d.oe (x:=y) (by simp);have N:σ.qc q ((u++[some i]).reverse)=if q (σ.nm i)=true then σ.qc q u.reverse else some i::u.reverse:=by rw[UT];rfl
   rw[N]at hu;have l:Ab.current {σ with gA:=u++[some i]} q=q (σ.nm i):=by unfold Ab.current Ab.last;rw[vJ];rfl
   rw[l]at v;have b:=fW v;have D:=fW hu;have G:=C;have P:=Qf d;obtain⟨m,O⟩:∃m,m=(u++[some i]).length:=⟨_,rfl⟩;have R:=fW (show m=u.length+1 by rw[O];simp);dsimp only at I;rw[<-O]at I;cases hqq:q (σ.nm i)with
   |false=>
    rw[hqq]at b D;have H:Hid (To E L σ.mD w wr):=by
     refine A wr ⟨B,E1,?_,C⟩;have:(σ.qc q σ.gA.reverse).reverse=u++[some i]:=by rw[<-D.out];simp
     rw[this];exact d
    clear d hu v
    go_wp21
    refine b.mono ?_;rintro e F ⟨rfl,rfl⟩;go_wp2;go_end0;exact⟨rfl,H⟩
   |true=>
    rw[hqq]at b D;clear d hu v
    go_wp21
    refine b.mono ?_;rintro e F ⟨rfl,rfl⟩
    go_wp21
    refine P.mono ?_;rintro e V ⟨rfl,U,e2,g,K⟩
    try dsimp only at g
    rw[Rv]at g;have J:=fW g.V5;have S:Hid (MG E L σ w u V):=⟨U,e2.trans E1,g,G.trans K⟩;clear g;go_wp2;go_roundw
    case rel=>exact⟨u,by rw[<-D.out];rfl,S⟩
    case measure=>rw[J.out,I.out,R.out];simp
end
end Go.Proofs.YtofkkmcdggkkpaaGreatDoor
