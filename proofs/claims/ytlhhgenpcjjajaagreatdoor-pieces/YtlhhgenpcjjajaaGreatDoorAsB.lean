import Derived.Test.YtlhhgenpcjjajaaGreatDoorBdJ
import Derived.Lib.Builder
import Derived.Lib.UnsafeStr
import Derived.Maps.AppendAt
set_option linter.unusedSimpArgs false
set_option linter.unusedVariables false
set_option linter.defProp false
set_option maxHeartbeats 0
set_option maxRecDepth 100000
namespace Go.Proofs.YtlhhgenpcjjajaaGreatDoor
open Go.RowKit Go.PlainAid Tryz
def Pq:=@List.getElem?_append_right
def BA:=@Nat.zero_add
def KZ:=@Lib.run_eql_slice_nil
def Af:=@List.take_append_drop
def K4:=@List.flatMap_append
def Pr:=@wpIn_rangeFunc
def BB:=@World.alloc_heap_new
def Ps:=@run_enterLoop_outer
def F7:=@World.putObj_heap_same
def F8:=@run_endLoop
def Pt:=@Array.getElem?_setIfInBounds_self_of_lt
section
variable {A B C W W' w w' w0 : gx} {L : Loc} {T : List Nat} {a : Act} {assign body : Code} {gM : lZ} {b base bm l n n0 size : Nat} {c lb : jN} {e : TypeId} {f f0 : Nat->Nat} {o : Obj} {s : gz} {v x : gQ} {vd : gz->Bool} {xs : List gQ} {σ : Ab}
theorem Rn {d g j : Nat} (h:w.ownsRow base e size (oe g n d) n xs) (u:gQ):(w.setCell ⟨g,j,none⟩ u).ownsRow base e size (oe g n d) n (xs.set j u):=by
 have⟨h1,k⟩:=h;refine⟨by grind,?_⟩;rcases k with⟨k,_⟩|⟨D,m,i,p,y,z,q,r,F,t⟩
 .cases k
 .simp only[Value.slice.injEq,Option.some.injEq,Addr.mk.injEq,and_true,true_and]at p;obtain⟨rfl,rfl⟩:=p;refine .inr ⟨g,d,i.setIfInBounds j u,rfl,y,gm z j u,q,r,by grind,?_⟩;rw[Array.toList_setIfInBounds,List.take_set,t]
def kD (L:List Sp):List gQ:=L.flatMap λp=>[gh p.k,gh p.a,gh p.b]
def qs (L M:List Sp):kD (L++M)=kD L++kD M:=by simp[kD]
theorem sI (L:List Sp):(kD L).length=L.length*3:=by
 induction L with
 |nil=>rfl
 |cons p L ih=>show(Value.int .i64 p.k:: gh p.a:: gh p.b::kD L).length=_;grind
def FW (M:List Sp) (l:Sp) (i:Nat) (d:i < 3):(kD (M++[l]))[M.length*3+i]?=[Value.int .i64 l.k,gh l.a,gh l.b][i]?:=by
 rw[qs,Pq (by rw[sI];omega),sI,show M.length*3+i - M.length*3=i by omega];rfl
def Uq (M:List Sp) (l:Sp) (b:Int):(kD (M++[l])).set (M.length*3+2) (gh b)=kD (M++[⟨l.k,l.a,b⟩]):=by
 rw[qs,qs,List.set_append_right _ _ (by rw[sI];omega),sI,show M.length*3+2 - M.length*3=2 by omega];rfl
def qM (L:List Sp) (s:Sp):List Sp:=match L.getLast? with
 |some l=>if s.k=1/\l.k=1 then L.dropLast++[⟨l.k,l.a,s.b⟩]else L++[s]
 |none=>L++[s]
def Wx (s:Sp):qM [] s=[s]:=rfl
def Mm (M:List Sp) (l s:Sp) (h:s.k=1/\l.k=1):qM (M++[l]) s=M++[⟨l.k,l.a,s.b⟩]:=by unfold qM;simp[h]
def YN (M:List Sp) (l s:Sp) (h:¬(s.k=1/\l.k=1)):qM (M++[l]) s=M++[l]++[s]:=by unfold qM;simp[h]
theorem Ww (L:List Sp) (s:Sp):(qM L s).length<=L.length+1:=by
 grind[qM]
def FD:(prog.info? 53).map (λi=>(i.zero,i.size,i.bytes))=some (some (.agg #[gh 0,gh 0,gh 0]),3,24):=by kernel_rfl
def xQ (base:Nat) (w:gx) (v:gQ) (L:List Sp) (s:Sp) (e:Ending) (w':gx):Prop:=
 ∃d,e=iw d/\w'.ownsRow base 53 3 d (qM L s).length (kD (qM L s))/\Kept v.ownBlock.toList w w'
theorem PK (base:Nat) (v:gQ) (s:Sp) (w:gx) (k:w.ownsRow base 53 3 v 0 (kD [])) (h:base<=w.heap.size):
  Calls prog 60 #[v,.agg #[gh s.k,gh s.a,gh s.b]] w λe w'=>xQ base w v [] s e w':=by
 obtain⟨K,H,p,q,r⟩:=ux FD;have⟨ao,cp,hv⟩:=gF k;subst hv;have⟨sk,sa,sb⟩:=s;have d:qM [] ⟨sk,sa,sb⟩=[]++[⟨sk,sa,sb⟩]:=Wx _;simp only;have P:=k;have D:=fV d;have N:Kept [] w (w.alloc (.cells #[gh sk,gh sa,gh sb] 53)):=(Kept.refl _ _).alloc _;have g:=N.ownsRow k (λ_ _=>by simp);clear d;have t:w.heap.size < w.heap.size+1:=by omega
 go_enter func60,ntmps60;go_wp2_with (at_builtin;refine iA _ rfl _ _ 26 rfl base 53 K (.agg #[gh 0,gh 0,gh 0]) 3 24 underlying26 H p q r rfl (by decide) _ _ _ rfl (g.alloc _) ⟨w.heap.size+1,0,none⟩ 1 1 [gh sk,gh sa,gh sb] rfl ?c1 ?c2 ?c3 ?c4 ?c5 ?c6 ?_)
 case c1=>rfl
 case c2=>
  intro j u Q;have h:=fX (w.alloc (.cells #[gh sk,gh sa,gh sb] 53)) (.cells #[gh sk,gh sa,gh sb] 53);simp only[xJ]at h;rw[jg,fW h]
  grind
 case c3=>intro u y;simp at y;rcases y with rfl|rfl|rfl<;>rfl
 case c4=>unfold maxLen;omega
 case c5=>omega
 case c6=>simp;omega
 intro z O m i G;have F:Hid (xQ base w (.slice ao 0 cp) [] ⟨sk,sa,sb⟩ (iw z) O):=by
  refine⟨z,rfl,?_,?_⟩
  .rw[D.out,qs,mJ];exact m
  .exact((Kept.refl _ _).alloc _|>.alloc _).grown i (λx I=> .inl (by simp[I]))
 go_wp2;go_ret;exact F
theorem NI (base:Nat) (v:gQ) (M:List Sp) (l s:Sp) (w:gx) (r:w.ownsRow base 53 3 v (M.length+1) (kD (M++[l]))) (t:base<=w.heap.size) (hM:M.length<=4096) (m:¬(s.k=1/\l.k=1)):
  Calls prog 60 #[v,.agg #[gh s.k,gh s.a,gh s.b]] w λe w'=>xQ base w v (M++[l]) s e w':=by
 obtain⟨X,U,D,F,G⟩:=ux FD;obtain⟨g,I,O⟩:∃g I,v=oe g (M.length+1) I:=by
  rcases r.2 with⟨_,h0⟩|⟨g,Z,a0,h,_⟩
  all_goals grind
 have hg:g < w.heap.size:=by subst O;exact(r.lt g rfl).2
 have c0:w.cell? ⟨g,M.length*3,none⟩=some (gh l.k):=by
  subst O;have:=r.cells (g:=g) rfl (M.length*3) _ (by have:=FW M l 0 (by omega);simpa using this)
  rwa [jg]at this
 obtain⟨S,a1⟩:∃S:Option Addr,S=some ⟨g,0,none⟩:=⟨_,rfl⟩;have⟨sk,sa,sb⟩:=s;simp only at m|-;have d:qM (M++[l]) ⟨sk,sa,sb⟩=(M++[l])++[⟨sk,sa,sb⟩]:=YN M l _ m;subst O
 by_cases V:sk=1
 .have hl:¬l.k=1:=λh=>m ⟨V,h⟩;subst V;clear m;have Y:=r;have K:=fV d;have Q:Kept [] w (w.alloc (.cells #[gh 1,gh sa,gh sb] 53)):=(Kept.refl _ _).alloc _;have p:=Q.ownsRow r (λ_ _=>by simp);clear d;have y:w.heap.size < w.heap.size+1:=by omega
  go_enter func60,ntmps60;go_wp2_with (at_builtin;refine iA _ rfl _ _ 26 rfl base 53 X (.agg #[gh 0,gh 0,gh 0]) 3 24 underlying26 U D F G rfl (by decide) _ _ _ rfl (p.alloc _) ⟨w.heap.size+1,0,none⟩ 1 1 [gh 1,gh sa,gh sb] rfl ?c1 ?c2 ?c3 ?c4 ?c5 ?c6 ?_)
  case c1=>rfl
  case c2=>
   intro j u hj;have t:=fX (w.alloc (.cells #[gh 1,gh sa,gh sb] 53)) (.cells #[gh 1,gh sa,gh sb] 53);simp only[xJ]at t;rw[jg,fW t]
   grind
  case c3=>intro u z;simp at z;rcases z with rfl|rfl|rfl<;>rfl
  case c4=>unfold maxLen;omega
  case c5=>omega
  case c6=>simp;omega
  intro H R k i q;have N:Hid (xQ base w (oe g (M.length+1) I) (M++[l]) ⟨1,sa,sb⟩ (iw H) R):=by
   refine⟨H,rfl,?_,?_⟩
   .rw[K.out,qs,mJ];rw[show(M++[l]).length+[(⟨1,sa,sb⟩:Sp)].length=M.length+1+1 from by simp];exact k
   .exact((Kept.refl _ _).alloc _|>.alloc _).grown i (λx P=> .inl (by simp[P]))
  clear k i q;go_wp2;go_ret;exact N
 .skip
  have Y:=r;have K:=fV d;have Q:Kept [] w (w.alloc (.cells #[gh sk,gh sa,gh sb] 53)):=(Kept.refl _ _).alloc _;have p:=Q.ownsRow r (λ_ _=>by simp);clear d;have y:w.heap.size < w.heap.size+1:=by omega
  go_enter func60,ntmps60;go_wp2_with (at_builtin;refine iA _ rfl _ _ 26 rfl base 53 X (.agg #[gh 0,gh 0,gh 0]) 3 24 underlying26 U D F G rfl (by decide) _ _ _ rfl (p.alloc _) ⟨w.heap.size+1,0,none⟩ 1 1 [gh sk,gh sa,gh sb] rfl ?c1 ?c2 ?c3 ?c4 ?c5 ?c6 ?_)
  case c1=>rfl
  case c2=>
   intro j u hj;have t:=fX (w.alloc (.cells #[gh sk,gh sa,gh sb] 53)) (.cells #[gh sk,gh sa,gh sb] 53);simp only[xJ]at t;rw[jg,fW t]
   grind
  case c3=>intro u z;simp at z;rcases z with rfl|rfl|rfl<;>rfl
  case c4=>unfold maxLen;omega
  case c5=>omega
  case c6=>simp;omega
  intro H R k i q;have N:Hid (xQ base w (oe g (M.length+1) I) (M++[l]) ⟨sk,sa,sb⟩ (iw H) R):=by
   refine⟨H,rfl,?_,?_⟩
   .rw[K.out,qs,mJ];rw[show(M++[l]).length+[(⟨sk,sa,sb⟩:Sp)].length=M.length+1+1 from by simp];exact k
   .exact((Kept.refl _ _).alloc _|>.alloc _).grown i (λx P=> .inl (by simp[P]))
  clear k i q;go_wp2;go_ret;exact N
theorem NH (base:Nat) (v:gQ) (M:List Sp) (l s:Sp) (w:gx) (d:w.ownsRow base 53 3 v (M.length+1) (kD (M++[l]))) (K:M.length<=4096) (q:s.k=1) (r:l.k=1):
  Calls prog 60 #[v,.agg #[gh s.k,gh s.a,gh s.b]] w λe w'=>xQ base w v (M++[l]) s e w':=by
 have⟨sk,sa,sb⟩:=s;simp only at q|-;subst q;obtain⟨g,i,z⟩:∃g i,v=oe g (M.length+1) i:=by
  rcases d.2 with⟨_,I⟩|⟨g,u,k,h,_⟩
  all_goals grind
 subst z;have N:g < w.heap.size:=(d.lt g rfl).2;have D:w.cell? ⟨g,M.length*3,none⟩=some (gh 1):=by
  have:=d.cells (g:=g) rfl (M.length*3) _ (by have:=FW M l 0 (by omega);simpa using this)
  rwa [jg,r]at this
 have F:w.cell? ⟨g,M.length*3+2,none⟩=some (gh l.b):=by
  have:=d.cells (g:=g) rfl (M.length*3+2) _ (by have:=FW M l 2 (by omega);simpa using this)
  rwa [jg]at this
 have G:w.frozen? ⟨g,M.length*3+2,none⟩=false:=by
  rcases d.2 with⟨h,_⟩|⟨H,m,k,h,_,y,_⟩
  .cases h
  .simp only[Value.slice.injEq,Option.some.injEq,Addr.mk.injEq,and_true,true_and]at h;obtain⟨rfl,rfl⟩:=h;exact gu y _
 have t:Hid (xQ base w (oe g (M.length+1) i) (M++[l]) ⟨1,sa,sb⟩ (iw (oe g (M.length+1) i)) ((w.setCell ⟨g,M.length*3+2,none⟩ (gh sb)).alloc (.cells #[gh 1,gh sa,gh sb] 53))):=by
  refine⟨_,rfl,?_,?_⟩
  .rw[Mm M l _ ⟨rfl,r⟩];have p:=Rn (j:=M.length*3+2) d (gh sb);rw[Uq]at p
   simpa using p.alloc _
  .exact((Kept.refl [g] w).setCell (.inl (by simp)) _).alloc _
 go_enter func60,ntmps60;go_wp2;go_ret;exact t
def PJ (base:Nat) (v:gQ) (L:List Sp) (s:Sp) (w:gx) (d:w.ownsRow base 53 3 v L.length (kD L)) (i:base<=w.heap.size) (g:L.length<=4096):
  Calls prog 60 #[v,.agg #[gh s.k,gh s.a,gh s.b]] w λe w'=>xQ base w v L s e w':=by
 rcases V5 L with rfl|⟨M,l,rfl⟩
 .exact PK base v s w d i
 .rw[List.concat_eq_append]at d g|-;simp only[mJ,uk,xI,BA]at d g
  by_cases h:s.k=1/\l.k=1
  .exact NH base v M l s w d (by omega) h.1 h.2
  .exact NI base v M l s w d i (by omega) h
theorem RE (p q:Addr) (w:gx):
  CallsD prog 51 #[.pointer (some p),.pointer (some q)] .returning w λe h w'=>e=pE/\h= .returning/\w'=w:=by
 refine callsD_of_wpS func51 rfl λd i g=>?_;apply wpS_seq;apply wpS_region;simp[wpOpsS,go_sem,recoverD,g,ntmps51,Exit.thenS];apply wpS_seq;apply wpS_region;simp[wpOpsS,go_sem,Exit.thenS];refine wpS_cond (t:=false) (by simp[Act.eval,Array.replicate]) ?_;simp only[uz,Bz];refine wpS_of_wp (wp_skip ?_);cases d
 simp_all[bodyPostS,results,results51]
def Xr (E:Env) (a b:Nat) (s:gz) (w:gx):Calls prog 58 #[iJ E ⟨a,b,.jM s,[]⟩] w λe w'=>e=iw (gh 1)/\w'=w:=by
 simp only[iJ];have d:=ru underlying188;go_enter func58,ntmps58;go_wp2;go_ret;simp
def Z3 (E:Env) (a b:Nat) (w:gx):Calls prog 58 #[iJ E ⟨a,b,.iR,[]⟩] w λe w'=>e=iw (gh 0)/\w'=w:=by
 simp only[iJ];have j:=vV;have g:=tC;have h:=wO;have d:=rh;have i:=yU;have k:=afn;go_enter func58,ntmps58;go_wp2;go_ret;simp
def Qe (E:Env) (f:Nat->Nat) (σ:Ab) (w:gx) (h:RF E f σ w):Calls prog 59 #[Bp E] w λe w'=>e=iw (nV f 0)/\w'=w:=by
 have c:=(At.start h).yn;have d:=h.lt;go_enter func59,ntmps59;go_wp2;go_ret;simp
inductive Tn
 |el (name:gz) (gM:lZ) (kids:List Tn)
 |tx (s:gz)
 |cm (s:gz)
 |dt (s:gz)
inductive Ev
 |dt (s:gz)
 |cm (s:gz)
 |tx (s:gz)
 |enter (name:gz) (gM:lZ)
 |wh (name:gz)
variable {J : List Ev->gx->Prop} {tot : List Ev}
mutual
def Iq (vd:gz->Bool):Tn->List Ev
 | .el name gM ks=> .enter name gM::(if vd name then []else vj vd ks++[.wh name])
 | .tx s=>[.tx s]
 | .cm s=>[.cm s]
 | .dt s=>[.dt s]
def vj (vd:gz->Bool):List Tn->List Ev
 |[]=>[]
 |t::ts=>Iq vd t++vj vd ts
end
abbrev D9 (gM:lZ):List gQ:=gM.flatMap λa=>[gH a.1,gH a.2]
abbrev AL (w:gx) (v:gQ) (gM:lZ):Prop:=w.ownsRow 0 299 2 v gM.length (D9 gM)
mutual
def jL (w:gx):Tn->Nd->Prop
 | .el name gM ks,.el k=>∃g d kv h,El 0 w k name g d kv h/\AL w g gM/\gM.length<=4096/\rC w ks h
 | .tx s,.tx k=>w.heap[k]?=some (gL #[gH s] 284)
 | .cm s,.cm k=>w.heap[k]?=some (gL #[gH s] 239)
 | .dt s,.dt k=>w.heap[k]?=some (gL #[gH s] 243)
 |_,_=>False
def rC (w:gx):List Tn->List Nd->Prop
 |[],[]=>True
 |t::ts,n::ns=>jL w t n/\rC w ts ns
 |_,_=>False
end
theorem rC.len:∀{g:List Tn} {d:List Nd},rC w g d->g.length=d.length
 |[],[],_=>rfl
 |_::_,_::_,h=>by unfold rC at h;simp[rC.len h.2]
 |[],_::_,h=>by unfold rC at h;grind
 |_::_,[],h=>by unfold rC at h;grind
theorem rC.get:∀{g:List Tn} {d:List Nd} (_:rC w g d) (k:Nat) (i:k < g.length) (j:k < d.length),jL w g[k] d[k]
 |[],_,_,_,i,_=>by grind
 |_::_,[],h,_,_,_=>by grind
 |_::_,_::_,h,0,_,_=>by unfold rC at h;exact h.1
 |_::_,_::_,h,k+1,i,j=>by
  unfold rC at h;exact rC.get h.2 k (by grind) (by grind)
def Dc (vd:gz->Bool):∀(a b:List Tn),vj vd (a++b)=vj vd a++vj vd b
 |[],b=>by rfl
 |t::a,b=>by simp[vj,Dc vd a b]
def acf (vd:gz->Bool) (t:Tn):vj vd [t]=Iq vd t:=by simp[vj]
def UV (T:TypeId) (x:gQ) (m:String) (args:jN) (w0:gx) (tot:List Ev) (J:List Ev->gx->Prop) (d:Ev) (r:gQ):Prop:=
 ∃f y,(∀w,(Go.method 500 T x m).run prog w= .ok (f,y) w)/\(∀w,(nilAhead 500 T x m).run prog w= .ok (some false) w)/\(∀args w,(callFunc f args).run prog w= .ok (.enter f args) w)/\
  ∀pre W,Kept [] w0 W->J pre W->pre++[d] <+:tot->Calls prog f (#[y]++args) W λe W'=>e=iw r/\J (pre++[d]) W'/\Kept [] w0 W'
structure Vis (T:TypeId) (x:gQ) (vd:gz->Bool) (tot:List Ev) (w0:gx) (J:List Ev->gx->Prop):Prop where
 mono:∀pre W W',J pre W->Kept [] W W'->J pre W'
 dt:∀s,UV T x "Doctype" #[gH s] w0 tot J (.dt s) (.tuple #[])
 cm:∀s,UV T x "Comment" #[gH s] w0 tot J (.cm s) (.tuple #[])
 tx:∀s,UV T x "Text" #[gH s] w0 tot J (.tx s) (.tuple #[])
 wh:∀s,UV T x "Leave" #[gH s] w0 tot J (.wh s) (.tuple #[])
 enter:∃f y,(∀w,(Go.method 500 T x "Enter").run prog w= .ok (f,y) w)/\(∀w,(nilAhead 500 T x "Enter").run prog w= .ok (some false) w)/\(∀args w,(callFunc f args).run prog w= .ok (.enter f args) w)/\
  ∀pre W s av gM,Kept [] w0 W->J pre W->pre++[.enter s gM] <+:tot->AL W av gM->gM.length<=4096->Calls prog f #[y,gH s,av] W λe W'=>e=iw (.bool (!vd s))/\J (pre++[.enter s gM]) W'/\Kept [] w0 W'
theorem agI {T : TypeId} (V:Vis T x vd tot w0 J) (k:Nat) (s:gz) (pre:List Ev) (W:gx) (j:Kept [] w0 W) (i:J pre W) (r:pre++[.tx s] <+:tot) (m:W.heap[k]?=some (gL #[gH s] 284)):
  Calls prog 445 #[gN k,.iface T x] W λe W'=>e=pE/\J (pre++[.tx s]) W'/\Kept [] w0 W':=by
 have p:∀(g:Fn) (first d:jN) (w:gx),(Instr.makeFunc g first d).run prog w= .ok (.func g first d) w:=λ_ _ _ _=>rfl;have⟨f,y,hm,hna,hcf,hc⟩:=V.tx s;have C:=(λq=>hc pre (W.drewN q) (j.drewN q) (V.mono _ _ _ i ((Kept.refl _ _).drewN q)) r);have h:=fW m 0;dsimp at h;generalize hJJ:J (pre++[.tx s])=t at C|-;go_enter func445,ntmps445
 go_wp21
 go_region_with (refine(C _).mono ?_;rintro e u ⟨rfl,z,D⟩)
 all_goals (try go_wp2)
 all_goals (go_end0;grind)
theorem Y9 {T : TypeId} (V:Vis T x vd tot w0 J) (k:Nat) (s:gz) (pre:List Ev) (W:gx) (j:Kept [] w0 W) (i:J pre W) (r:pre++[.cm s] <+:tot) (m:W.heap[k]?=some (gL #[gH s] 239)):
  Calls prog 443 #[gN k,.iface T x] W λe W'=>e=pE/\J (pre++[.cm s]) W'/\Kept [] w0 W':=by
 have p:∀(g:Fn) (first d:jN) (w:gx),(Instr.makeFunc g first d).run prog w= .ok (.func g first d) w:=λ_ _ _ _=>rfl;have⟨f,y,hm,hna,hcf,hc⟩:=V.cm s;have C:=(λq=>hc pre (W.drewN q) (j.drewN q) (V.mono _ _ _ i ((Kept.refl _ _).drewN q)) r);have h:=fW m 0;dsimp at h;generalize hJJ:J (pre++[.cm s])=t at C|-;go_enter func443,ntmps443
 go_wp21
 go_region_with (refine(C _).mono ?_;rintro e u ⟨rfl,z,D⟩)
 all_goals (try go_wp2)
 all_goals (go_end0;grind)
theorem Zk {T : TypeId} (V:Vis T x vd tot w0 J) (k:Nat) (s:gz) (pre:List Ev) (W:gx) (j:Kept [] w0 W) (i:J pre W) (r:pre++[.dt s] <+:tot) (m:W.heap[k]?=some (gL #[gH s] 243)):
  Calls prog 444 #[gN k,.iface T x] W λe W'=>e=pE/\J (pre++[.dt s]) W'/\Kept [] w0 W':=by
 have p:∀(g:Fn) (first d:jN) (w:gx),(Instr.makeFunc g first d).run prog w= .ok (.func g first d) w:=λ_ _ _ _=>rfl;have⟨f,y,hm,hna,hcf,hc⟩:=V.dt s;have C:=(λq=>hc pre (W.drewN q) (j.drewN q) (V.mono _ _ _ i ((Kept.refl _ _).drewN q)) r);have h:=fW m 0;dsimp at h;generalize hJJ:J (pre++[.dt s])=t at C|-;go_enter func444,ntmps444
 go_wp21
 go_region_with (refine(C _).mono ?_;rintro e u ⟨rfl,z,D⟩)
 all_goals (try go_wp2)
 all_goals (go_end0;grind)
def ZS:(prog.info? 299).map (λi=>(i.zero,i.size,i.bytes))=some (some (.agg #[gH jz,gH jz]),2,32):=by kernel_rfl
theorem Oe (L:lZ):(D9 L).length=L.length*2:=by
 induction L with
 |nil=>rfl
 |cons a L ih=>grind
theorem aeP (v:gQ) (L:lZ) (w:gx) (k:AL w v L) (hL:L.length<=4096):
  Calls prog 413 #[v] w λe w'=>∃i,e=iw i/\AL w' i L/\Kept [] w w':=by
 obtain⟨i0,hi,D,F,G⟩:=ux ZS;rcases k.2 with⟨rfl,V⟩|⟨g,d,U,rfl,X,Z,_⟩
 .have hn:=λw=>KZ (P:=prog) w 137 299 none 0 0 0 0 underlying137;have:L=[]:=UM V;subst this;clear k;go_enter func413,ntmps413;go_wp2;go_ret;exact⟨_,rfl,od _ _ _ _,Kept.refl _ _⟩
 .have hn:=λw=>KZ (P:=prog) w 137 299 (some ⟨g,0,none⟩) L.length d 0 0 underlying137;have S:=fV k;have t:=iX Z;have I:(w.alloc (.cells #[] 299)).ownsRow w.heap.size 299 2 (oe w.heap.size 0 0) 0 []:=
   ⟨rfl,.inr ⟨w.heap.size,0,#[],rfl,gW _,fX w _,gW _,iN _,rfl,rfl⟩⟩
  clear k;go_enter func413,ntmps413;go_wp2_with (at_builtin;refine iA _ rfl _ _ 137 rfl w.heap.size 299 i0 (.agg #[gH jz,gH jz]) 2 32 underlying137 hi D F G rfl (by decide) _ _ _ rfl I ⟨g,0,none⟩ L.length d (D9 L) rfl ?c1 ?c2 ?c3 ?c4 ?c5 ?c6 ?_)
  case c1=>exact Oe L
  case c2=>
   intro j u hj;have:=S.cells (g:=g) rfl j u hj;rw[jg]at this|-;rw[<-this];exact qy _ _ _ t
  case c3=>
   intro u z;unfold D9 at z;simp at z;obtain⟨p,q,_,h|h⟩:=z<;>(subst h;rfl)
  case c4=>omega
  case c5=>omega
  case c6=>simp
  intro i H y m Y;have O:H.ownsRow w.heap.size 299 2 i L.length (D9 L):=by simpa using y
  have Q:AL H i L:=by
   refine⟨O.1,?_⟩;rcases O.2 with e|⟨g1,K,N,e,_,r⟩
   .exact .inl e
   .grind
  have R:Hid (Kept [] w H):=((Kept.refl [] w).alloc _).grown m (λx hx=> .inr (I.lt x hx).1);go_wp2;go_ret;exact⟨_,rfl,Q,R⟩
theorem AL.kept (h:AL w v gM) (m:Kept [] w w'):AL w' v gM:=by
 refine⟨h.1,?_⟩;rcases h.2 with e|⟨g,d,i,e,j,k,r⟩
 .grind
 .exact .inr ⟨g,d,i,e,j,m.at k (by simp),r⟩
theorem El.io {k : Nat} {d : gz} {av : gQ} {i : jk} {kv : gQ} {ns:List Nd} (h:El 0 w k d av i kv ns) (p:Kept [] w w'):El 0 w' k d av i kv ns:=by
 refine⟨p.at h.iC (by simp),⟨h.row.1,?_⟩,h.le,h.U0⟩;rcases h.row.2 with e|⟨g,j,m,e,q,t,r⟩
 .grind
 .exact .inr ⟨g,j,m,e,q,p.at t (by simp),r⟩
mutual
theorem jL.kept (d:Kept [] w w'):∀{t:Tn} {n:Nd},jL w t n->jL w' t n
 | .el name gM ks,.el k,h=>by
  unfold jL at h|-;have⟨av,jl,kv,ns,h1,h2,h3,h4⟩:=h;exact⟨av,jl,kv,ns,h1.io d,h2.kept d,h3,rC.kept d h4⟩
 | .tx _,.tx _,h=>by unfold jL at h|-;exact d.at h (by simp)
 | .cm _,.cm _,h=>by unfold jL at h|-;exact d.at h (by simp)
 | .dt _,.dt _,h=>by unfold jL at h|-;exact d.at h (by simp)
 | .el _ _ _,.tx _,h=>by grind[jL]
 | .el _ _ _,.cm _,h=>by grind[jL]
 | .el _ _ _,.dt _,h=>by grind[jL]
 | .tx _,.el _,h=>by grind[jL]
 | .tx _,.cm _,h=>by grind[jL]
 | .tx _,.dt _,h=>by grind[jL]
 | .cm _,.el _,h=>by grind[jL]
 | .cm _,.tx _,h=>by grind[jL]
 | .cm _,.dt _,h=>by grind[jL]
 | .dt _,.el _,h=>by grind[jL]
 | .dt _,.tx _,h=>by grind[jL]
 | .dt _,.cm _,h=>by grind[jL]
theorem rC.kept (i:Kept [] w w'):∀{g:List Tn} {d:List Nd},rC w g d->rC w' g d
 |[],[],_=>by simp[rC]
 |t::g,n::d,h=>by
  unfold rC at h|-;exact⟨jL.kept i h.1,rC.kept i h.2⟩
 |[],_::_,h=>by grind[rC]
 |_::_,[],h=>by grind[rC]
end
section
variable {T:TypeId} {x:gQ} {vd:gz->Bool} {tot:List Ev} {w0:gx} {J:List Ev->gx->Prop}
def Ae:Nd->Nat
 | .el _=>412
 | .tx _=>445
 | .cm _=>443
 | .dt _=>444
def Nd.bk:Nd->Nat
 | .el k=>k
 | .tx k=>k
 | .cm k=>k
 | .dt k=>k
def Ik (T:TypeId) (x:gQ) (vd:gz->Bool) (tot:List Ev) (w0:gx) (J:List Ev->gx->Prop) (t:Tn) (n:Nd):Prop:=
 ∀pre W,Kept [] w0 W->J pre W->pre++Iq vd t <+:tot->
  Calls prog (Ae n) #[gN n.bk,.iface T x] W λe W'=>e=pE/\J (pre++Iq vd t) W'/\Kept [] w0 W'
def MT (n:Nd) (w:gx):∃t y,n.val= .iface t y/\y=gN n.bk/\(∀w,(Go.method 500 t y "Visit").run prog w= .ok (Ae n,y) w):=by
 cases n with
 |el k=>exact⟨_,_,rfl,rfl,λw=>by kernel_rfl⟩
 |tx k=>exact⟨_,_,rfl,rfl,λw=>by kernel_rfl⟩
 |cm k=>exact⟨_,_,rfl,rfl,λw=>by kernel_rfl⟩
 |dt k=>exact⟨_,_,rfl,rfl,λw=>by kernel_rfl⟩
def XA (n:Nd):∀d w,(callFunc (Ae n) d).run prog w= .ok (.enter (Ae n) d) w:=by
 cases n with
 |el k=>simp[Ae]
 |tx k=>simp[Ae]
 |cm k=>simp[Ae]
 |dt k=>simp[Ae]
theorem Uh {a b c:List Ev} (h:a++(b++c) <+:tot):a++b <+:tot:=by
 have⟨r,hr⟩:=h
 grind
theorem Gt (V:Vis T x vd tot w0 J) (k:Nat) (r:gz) (av:gQ) (K:jk) (kv:gQ) (d:List Tn) (ns:List Nd) (U:d.length=ns.length)
  (q:El 0 w0 k r av K kv ns) (hv:∀i (D:i < d.length) (u:i < ns.length),Ik T x vd tot w0 J d[i] ns[i]) (pre:List Ev) (W:gx) (S:Kept [] w0 W) (hJ:J pre W) (hp:pre++vj vd d <+:tot):
  Calls prog 42 #[gN k,.iface T x] W λe W'=>e=pE/\J (pre++vj vd d) W'/\Kept [] w0 W':=by
 have Q:=fW ((q.io S).iC) 3;dsimp at Q;have G:=q.le;have⟨ao,cap,hkv⟩:=gF q.row;have N:=fV q;have HV:=hv;have Y:=hp;have HJ:=hJ;have HK:=S;have O:=fV U;obtain⟨n,I⟩:∃n,n=ns.length:=⟨_,rfl⟩;have P:=fV I;subst hkv;rw[<-I]at Q G;clear q U I;go_enter func42,ntmps42
 go_wp21
 go_loopw [11] (λv wr=>∃i:Nat,v=gh i/\i<=n/\J (pre++vj vd (d.take i)) wr/\Kept [] w0 wr) (λv _=>n - (intOf v).toNat)
 case atStart=>grind[vj]
 case round=>
  obtain⟨i,rfl,hi,m,h⟩:=hrel
  by_cases H:i < n
  .have u:i < ns.length:=by rw[<-P.out];exact H
   have D:i < d.length:=by rw[O.out];exact u
   have⟨t,y,hval,hy,hm⟩:=MT ns[i] wr;have a1:=XA ns[i];obtain⟨g,F⟩:∃g,ao=some ⟨g,0,none⟩:=by
    rcases N.row.2 with⟨e,h0⟩|⟨g,R,a0,e,_⟩
    all_goals grind
   subst F;have hc:wr.cell? ⟨g,i,none⟩=some (.iface t y):=by
    have:=(N.io h).row.cells (g:=g) rfl i ns[i].val (by simp[u]);rw[jg]at this;rw[<-hval]
    simpa using this
   have j:vj vd (d.take (i+1))=vj vd (d.take i)++Iq vd d[i]:=by
    rw[Ff,qB D,Dc];simp[acf]
   have X:pre++vj vd (d.take (i+1)) <+:tot:=by
    refine Uh (c:=vj vd (d.drop (i+1))) ?_;rw[<-Dc,Af];exact Y
   have C:=HV i D u _ wr h m (by grind);rw[wm,<-j]at C;rw[hy]at hc hm;generalize Ae ns[i]=fv at *;generalize ns[i].bk=kb at *;generalize hZ:J (pre++vj vd (d.take (i+1)))=Z at C;have HZ:=fV hZ;clear hZ
   go_wp21
   refine C.mono ?_;rintro e W2 ⟨rfl,z,p⟩;go_wp2;go_roundw
   case rel=>exact⟨i+1,by go_num,by omega,by rw[HZ.out];exact z,p⟩
   case measure=>simp[intOf];omega
  .have he:d.take i=d:=BF (by rw[O.out,<-P.out];omega);rw[he]at m;have p:=h;go_wp2;go_end0
   grind
theorem Zm (V:Vis T x vd tot w0 J) (k:Nat) (d:gz) (gM:lZ) (av:gQ) (U:jk) (kv:gQ) (j:List Tn) (ns:List Nd) (hl:j.length=ns.length)
  (O:El 0 w0 k d av U kv ns) (hA:AL w0 av gM) (z:gM.length<=4096) (hv:∀i (h1:i < j.length) (h2:i < ns.length),Ik T x vd tot w0 J j[i] ns[i]):Ik T x vd tot w0 J (.el d gM j) (.el k):=by
 intro pre W m hJ Y;show Calls prog 412 #[gN k,.iface T x] W _;have a5:∀(fn:Fn) (first N:jN) (w:gx),(Instr.makeFunc fn first N).run prog w= .ok (.func fn first N) w:=λ_ _ _ _=>rfl;have X:=fW ((O.io m).iC) 0;have c1:=fW ((O.io m).iC) 1;dsimp at X c1;have Q:pre++[.enter d gM] <+:tot:=by
  unfold Iq at Y;exact Uh (b:=[.enter d gM]) (by simpa using Y)
 have⟨f,y,hm,hna,hcf,hc⟩:=V.enter;have C1:=fV (λq=>aeP av gM (W.drewN q) ((hA.kept m).kept ((Kept.refl _ _).drewN q)) z);have C2:=fV (λq H v1 (D:Kept [] (W.drewN q) H) (ha:AL H v1 gM)=>hc pre H d v1 gM ((m.drewN q).trans D) (V.mono _ _ _ hJ (((Kept.refl _ _).drewN q).trans D)) Q ha z);have⟨ao,n,cp,hav⟩:=O.U0;subst hav;have HV:=fV V;have HE:=fV O;have HW:=fV hv;have HP:=fV Y;have HL:=fV hl;have a2:=fV m;clear hc V m hJ Y Q hA z O hv hl;go_enter func412,ntmps412
 go_wp21
 go_cut [17]from 4 to 16 (λr wc=>r= .bool (!vd d)/\J (pre++[.enter d gM]) wc/\Kept [] w0 wc)
 case first=>
  go_region_with (first
   |(go_at_call 413;refine(C1.out _).mono ?_;rintro e H ⟨v1,rfl,u,F⟩;have⟨ao1,cp1,hv1⟩:=gF u;subst hv1;have a0:=fV u;have a1:=fV F;have c2:H.cell? ⟨k,0,none⟩=some (gH d):=(by rw[fW (HE.out.io ((a2.out.drewN _).trans F)).iC];rfl);clear u F)
   |(refine(C2.out _ _ _ a1.out a0.out).mono ?_;rintro e I ⟨rfl,h,g⟩;have p:=fV h;have t:=fV g;clear h g))
  all_goals (try (go_wp21))
  all_goals (go_meet;exact⟨rfl,p.out,t.out⟩)
 case rest=>
  obtain⟨rfl,P,D⟩:=hcut;clear C1 C2 hm hna hcf X c1;cases hvd:vd d with
  |true=>
   have G:pre++Iq vd (.el d gM j)=pre++[.enter d gM]:=by simp[Iq,hvd]
   rw[<-G]at P;have HJ:=fV P;have HK:=fV D;clear P D G;rename_i K m;refine m _ _ ?_;clear m;simp only[Bool.not_true];go_wp2;go_end0;exact⟨rfl,HJ.out,HK.out⟩
  |false=>
   have G:Iq vd (.el d gM j)= .enter d gM::(vj vd j++[.wh d]):=by simp[Iq,hvd]
   have R:(pre++[.enter d gM])++vj vd j <+:tot:=Uh (c:=[.wh d]) (by have:=HP.out;grind);have S:(pre++[.enter d gM]++vj vd j)++[.wh d] <+:tot:=by have:=HP.out;rw[G]at this;simpa using this
   have e3:pre++Iq vd (.el d gM j)=(pre++[.enter d gM]++vj vd j)++[.wh d]:=by rw[G];simp
   have C3:=fV (Gt HV.out k d _ U kv j ns HL.out HE.out HW.out _ wc D P R);have⟨f,y,hm,hna,hcf,hc⟩:=HV.out.wh d;have Z:=fV (λq I (g:Kept [] w0 I) (h:J (pre++[.enter d gM]++vj vd j) I)=>hc _ (I.drewN q) (g.drewN q) (HV.out.mono _ _ _ h ((Kept.refl _ _).drewN q)) S);rw[<-e3]at Z;clear R S G e3 P D hc;generalize hJJ:J (pre++[.enter d gM]++vj vd j)=J1 at C3 Z;clear hJJ;rename_i K m;refine m _ _ ?_;clear m;simp only[Bool.not_false]
   go_wp21
   refine C3.out.mono ?_;rintro e I ⟨rfl,h,g⟩;have X:=fW ((HE.out.io g).iC) 0;dsimp at X;have p:=fV h;have t:=fV g;clear h g
   go_wp21
   go_region_with (refine(Z.out _ _ t.out p.out).mono ?_;rintro e W3 ⟨rfl,a3,a4⟩)
   all_goals (try go_wp2)
   all_goals (go_end0;grind)
end
section
variable {T:TypeId} {x:gQ} {vd:gz->Bool} {tot:List Ev} {w0:gx} {J:List Ev->gx->Prop}
theorem Sz (V:Vis T x vd tot w0 J):∀(t:Tn) (n:Nd),jL w0 t n->Ik T x vd tot w0 J t n
 | .el name gM ks,.el k,h=>by
  unfold jL at h;have⟨av,jl,kv,ns,h1,h2,h3,h4⟩:=h;exact Zm V k name gM av jl kv ks ns h4.len h1 h2 h3 (λi m p=>Sz V ks[i] ns[i] (h4.get i m p))
 | .tx s,.tx k,h=>by
  unfold jL at h;intro pre W d j g;unfold Iq at g|-;exact agI V k s pre W d j g (d.at h (by simp))
 | .cm s,.cm k,h=>by
  unfold jL at h;intro pre W d j g;unfold Iq at g|-;exact Y9 V k s pre W d j g (d.at h (by simp))
 | .dt s,.dt k,h=>by
  unfold jL at h;intro pre W d j g;unfold Iq at g|-;exact Zk V k s pre W d j g (d.at h (by simp))
 | .el _ _ _,.tx _,h=>by unfold jL at h;grind
 | .el _ _ _,.cm _,h=>by unfold jL at h;grind
 | .el _ _ _,.dt _,h=>by unfold jL at h;grind
 | .tx _,.el _,h=>by unfold jL at h;grind
 | .tx _,.cm _,h=>by unfold jL at h;grind
 | .tx _,.dt _,h=>by unfold jL at h;grind
 | .cm _,.el _,h=>by unfold jL at h;grind
 | .cm _,.tx _,h=>by unfold jL at h;grind
 | .cm _,.dt _,h=>by unfold jL at h;grind
 | .dt _,.el _,h=>by unfold jL at h;grind
 | .dt _,.tx _,h=>by unfold jL at h;grind
 | .dt _,.cm _,h=>by unfold jL at h;grind
  termination_by t=>SizeOf.sizeOf t
  decreasing_by
 have:=List.sizeOf_lt_of_mem (uw m)
 grind
theorem zh (V:Vis T x vd tot w0 J) (k:Nat) (d:gz) (gM:lZ) (g:List Tn) (h:jL w0 (.el d gM g) (.el k)) (p:vj vd g=tot) (W:gx) (m:Kept [] w0 W) (j:J [] W):
  Calls prog 42 #[gN k,.iface T x] W λe W'=>e=pE/\J tot W'/\Kept [] w0 W':=by
 unfold jL at h;have⟨av,jl,kv,ns,h1,h2,h3,h4⟩:=h;have:=Gt V k d av jl kv g ns h4.len h1 (λi q r=>Sz V g[i] ns[i] (h4.get i q r)) [] W m j (by grind)
 rwa [sg,p]at this
end
def ZW:(prog.info? 5).map (λi=>(i.zero,i.size,i.bytes))=some (some (.int .u8 0),1,1):=by kernel_rfl
theorem NW:(∃j,prog.info? 98=some j/\j.size≠0):=by
 have h:((prog.info? 98).map λi=>i.size)=some 2:=by kernel_rfl
 have⟨j,hj,h2⟩:=Option.map_eq_some_iff.1 h
 grind
def SD:liesAt prog prog.depth 100 (4 / prog.cellsOf 100) 0 98 1=true:=by kernel_rfl
def KB (W W':gx):Prop:=∀(k:Nat) (c:jN) (t:TypeId),W.heap[k]?=some (gL c t)->t∉[100,5]->W'.heap[k]?=some (gL c t)
def KB.trans (h:KB A B) (k:KB B C):KB A C:=λi c t g d=>k i c t (h i c t g d) d
def KB.jQ (h:Kept [] A B):KB A B:=λi c t d _=>h.at d (by simp)
theorem KB.Ub {d : jN} (h:Kept [b] A B) (j:A.heap[b]?=some (gL d 100)):KB A B:=λi c t g k=>h.at g (by
 grind)
theorem KB.aar (k:A.grownBy B v.ownBlock) (m:A.ownsRow base 5 1 v n xs):KB A B:=λi c t h r=>(k.block i (iX h) (by
 intro e;rcases m.2 with⟨e2,_⟩|⟨g,d,j,e2,_,q,_⟩
 .rw[e2]at e;cases e
 .rw[e2]at e;have p:=jy e
  grind)).trans h
def Lo (l:List UInt8) (s:gz):Lib.byteCells (l++s.data.toList)=Lib.byteCells l++Lib.strCells s:=by
 unfold Lib.byteCells Lib.strCells;simp
def kY (xs:List gz):List UInt8:=xs.flatMap λs=>s.data.toList
def Eo (xs ys:List gz):kY (xs++ys)=kY xs++kY ys:=K4 ..
def OY (s g d:gz):gz:=⟨(Lib.replaceAll s.data.toList g.data.toList d.data.toList).toArray⟩
def Ij (w:gx):Prop:=(∃m,w.cell? ⟨3,0,none⟩=some (gh m))/\3 < w.heap.size
def Ij.kept (h:Ij w) (d:Kept [] w w'):Ij w':=by
 have⟨⟨m,hm⟩,hl⟩:=h;exact⟨⟨m,(d.cell (p:=⟨3,0,none⟩) hl (by simp)).trans hm⟩,mi hl d.size⟩
def JK (h:Below w.heap.size w w'):Kept [] w w':=⟨h.os,h.tape,h.output,h.size,λk d _=>h.block k d⟩
def AE (s:gz):gz:=OY (OY s uA kB) tm ny
def Hq (s:gz):gz:=OY (OY (AE s) qG lC) iW rW
attribute [local go_sem] Oper.semAt_some
structure It where
 k:Int
 s:gz
 t:gz
abbrev It.val (x:It):gQ:= .agg #[gh x.k,gH x.s,gH x.t]
def vq:Ev->List It
 | .dt s=>[⟨1,s,⟨#[]⟩⟩]
 | .cm s=>[⟨2,s,⟨#[]⟩⟩]
 | .tx s=>[⟨3,s,⟨#[]⟩⟩]
 | .enter s gM=>⟨4,s,⟨#[]⟩⟩::gM.map λa=>⟨5,a.1,a.2⟩
 | .wh s=>[⟨6,s,⟨#[]⟩⟩]
def lE (d:List Ev):List It:=d.flatMap vq
def Wk (w:gx) (b l:Nat):Prop:=w.heap[b]?=some (gL #[.func (.yield l) #[] #[],.bool false] 203)
theorem nQ {t : TypeId} {m : Nat×Nat} (h:w.heap[b]?=some (.cells c t m)) (j:Nat) (v:gQ) (g:c[j]?=some v):w.setCell ⟨b,j,none⟩ v=w:=by
 have⟨hlt,hb⟩:=Array.getElem?_eq_some_iff.1 h;have i:c.setIfInBounds j v=c:=by
  apply Array.ext
  .simp
  .grind
 have e:∀f:Obj->Obj,f (.cells c t m)= .cells c t m->w.heap.modify b f=w.heap:=by
  intro f d;apply Array.ext
  .simp
  .grind
 unfold World.setCell
 simp_all
def KW (W W':gx):Prop:=∀(k:Nat) (c:jN) (t:TypeId),W.heap[k]?=some (gL c t)->t∉[25,57]->W'.heap[k]?=some (gL c t)
def KW.wk (h:KW W W') (d:Wk W b l):Wk W' b l:=h b _ _ d (by decide)
theorem KW.atr (h:KW W W') (j:AL W v gM):AL W' v gM:=by
 refine⟨j.1,?_⟩;rcases j.2 with e|⟨g,d,i,e,k,m,r⟩
 .grind
 .exact .inr ⟨g,d,i,e,k,h g _ _ m (by decide),r⟩
def Rnd (l:Nat) (tot:List It) (w0:gx) (J:List It->gx->Prop):Prop:=∀pre x W,Kept [] w0 W->J pre W->pre++[x] <+:tot->YieldAt Fence.wide 3 prog l #[It.val x] W λe W'=>e=iw (.bool true)/\J (pre++[x]) W'/\Kept [] w0 W'/\KW W W'
theorem B9 (l b:Nat) (tot:List It) (w0:gx) (J:List It->gx->Prop) (z:Rnd l tot w0 J) (pre:List It) (x:It) (W:gx) (y:Kept [] w0 W) (u:J pre W) (h:Wk W b l) (F:pre++[x] <+:tot):
  Calls prog 442 #[gN b,gh x.k,gH x.s,gH x.t] W λe W'=>e=pE/\((J (pre++[x]) W'/\Wk W' b l)/\Kept [] w0 W')/\KW W W':=by
 refine(xC (n:=4)).1 ?_;have p:=fW h 0;have q:=fW h 1;dsimp at p q;have⟨fn,tmps,assign,body,hy,HR⟩:=z pre x W y u F;dsimp only[It.val]at hy;have D:=iX h;have m:=h;have⟨k,s,t⟩:=x;refine callsIn_of_wp func442 rfl trivial ?_ rfl;simp only[ntmps442,yf,uk,xI,Nat.reduceAdd,Nat.reduceSub,yg,yh,yi,yj,sg,wo];gi_wp2;refine HR.mono ?_;rintro e H ⟨rfl,i,j,g⟩;have d:=g.wk m;have r:=fW d 1;have I:=gu d 1;dsimp at r;have HS:=fV (nQ d 1 (.bool false) rfl);have G:=And.intro (And.intro (And.intro i d) j) g;gi_wp2;go_end0;rw[HS.out]
 grind
def wdt (l b:Nat) (tot:List It) (w0:gx) (J:List It->gx->Prop) (j:Rnd l tot w0 J) (s:gz) (pre:List It) (W:gx) (h:Kept [] w0 W) (g:J pre W) (i:Wk W b l) (k:pre++[⟨1,s,⟨#[]⟩⟩] <+:tot):
  Calls prog 438 #[gN b,gH s] W λe W'=>e=pE/\(J (pre++[⟨1,s,⟨#[]⟩⟩]) W'/\Wk W' b l)/\Kept [] w0 W':=by
 have C:=B9 l b tot w0 J j pre ⟨1,s,⟨#[]⟩⟩ W h g i k;generalize J (pre++[⟨1,s,⟨#[]⟩⟩])=m at C|-;go_enter func438,ntmps438
 go_wp21
 refine C.mono ?_;rintro e p ⟨rfl,d,_⟩;go_wp2;go_end0;exact⟨rfl,d⟩
def wcm (l b:Nat) (tot:List It) (w0:gx) (J:List It->gx->Prop) (j:Rnd l tot w0 J) (s:gz) (pre:List It) (W:gx) (h:Kept [] w0 W) (g:J pre W) (i:Wk W b l) (k:pre++[⟨2,s,⟨#[]⟩⟩] <+:tot):
  Calls prog 437 #[gN b,gH s] W λe W'=>e=pE/\(J (pre++[⟨2,s,⟨#[]⟩⟩]) W'/\Wk W' b l)/\Kept [] w0 W':=by
 have C:=B9 l b tot w0 J j pre ⟨2,s,⟨#[]⟩⟩ W h g i k;generalize J (pre++[⟨2,s,⟨#[]⟩⟩])=m at C|-;go_enter func437,ntmps437
 go_wp21
 refine C.mono ?_;rintro e p ⟨rfl,d,_⟩;go_wp2;go_end0;exact⟨rfl,d⟩
def wtx (l b:Nat) (tot:List It) (w0:gx) (J:List It->gx->Prop) (j:Rnd l tot w0 J) (s:gz) (pre:List It) (W:gx) (h:Kept [] w0 W) (g:J pre W) (i:Wk W b l) (k:pre++[⟨3,s,⟨#[]⟩⟩] <+:tot):
  Calls prog 441 #[gN b,gH s] W λe W'=>e=pE/\(J (pre++[⟨3,s,⟨#[]⟩⟩]) W'/\Wk W' b l)/\Kept [] w0 W':=by
 have C:=B9 l b tot w0 J j pre ⟨3,s,⟨#[]⟩⟩ W h g i k;generalize J (pre++[⟨3,s,⟨#[]⟩⟩])=m at C|-;go_enter func441,ntmps441
 go_wp21
 refine C.mono ?_;rintro e p ⟨rfl,d,_⟩;go_wp2;go_end0;exact⟨rfl,d⟩
def wlv (l b:Nat) (tot:List It) (w0:gx) (J:List It->gx->Prop) (j:Rnd l tot w0 J) (s:gz) (pre:List It) (W:gx) (h:Kept [] w0 W) (g:J pre W) (i:Wk W b l) (k:pre++[⟨6,s,⟨#[]⟩⟩] <+:tot):
  Calls prog 440 #[gN b,gH s] W λe W'=>e=pE/\(J (pre++[⟨6,s,⟨#[]⟩⟩]) W'/\Wk W' b l)/\Kept [] w0 W':=by
 have C:=B9 l b tot w0 J j pre ⟨6,s,⟨#[]⟩⟩ W h g i k;generalize J (pre++[⟨6,s,⟨#[]⟩⟩])=m at C|-;go_enter func440,ntmps440
 go_wp21
 refine C.mono ?_;rintro e p ⟨rfl,d,_⟩;go_wp2;go_end0;exact⟨rfl,d⟩
def abx (a b:List Ev):lE (a++b)=lE a++lE b:=K4 ..
def xh {a b : List Ev} (h:a <+:b):lE a <+:lE b:=by
 obtain⟨r,rfl⟩:=h;simp[lE]
theorem MG (L:lZ) (i:Nat) (h:i < L.length):(D9 L)[i*2]?=some (gH L[i].1)/\(D9 L)[i*2+1]?=some (gH L[i].2):=by
 induction L generalizing i with
 |nil=>simp at h
 |cons a L ih=>
  cases i with
  |zero=>simp
  |succ i=>
   grind
theorem wen (l b:Nat) (tot:List It) (w0:gx) (J:List It->gx->Prop) (U:Rnd l tot w0 J) (hm:∀pre W W',J pre W->Kept [] W W'->J pre W') (s:gz) (av:gQ) (gM:lZ) (pre:List It) (W:gx) (hK:Kept [] w0 W) (hJ:J pre W) (hW:Wk W b l) (K:pre++vq (.enter s gM) <+:tot) (z:AL W av gM) (D:gM.length<=4096):
  Calls prog 439 #[gN b,gH s,av] W λe W'=>e=iw (.bool true)/\(J (pre++vq (.enter s gM)) W'/\Wk W' b l)/\Kept [] w0 W':=by
 have N:pre++[(⟨4,s,⟨#[]⟩⟩:It)] <+:tot:=by
  have⟨r,hr⟩:=K;exact⟨_,by rw[<-hr];simp[vq];rfl⟩
 have C:=B9 l b tot w0 J U pre ⟨4,s,⟨#[]⟩⟩ W hK hJ hW N;have⟨ao,cap,hav⟩:=gF z;have X:=fV z;have HP:=fV K;have HY:=U;have HM:=hm;obtain⟨n,I⟩:∃n,n=gM.length:=⟨_,rfl⟩;rw[<-I]at D hav;have R:=fV I;subst hav;clear K z I;go_enter func439,ntmps439
 go_wp21
 refine C.mono ?_;rintro e W2 ⟨rfl,⟨⟨a0,a2⟩,a1⟩,P⟩;have Y:=P.atr X
 go_wp21
 go_loopw [14] (λv wr=>∃i:Nat,v=gh i/\i<=n/\J (pre++(⟨4,s,⟨#[]⟩⟩::(gM.take i).map λa=>(⟨5,a.1,a.2⟩:It))) wr/\Wk wr b l/\Kept [] w0 wr/\AL wr (.slice ao n cap) gM) (λv _=>n - (intOf v).toNat)
 case atStart=>grind
 case round=>
  obtain⟨i,rfl,hi,G,q,V,p⟩:=hrel
  by_cases H:i < n
  .have y:i < gM.length:=by rw[<-R.out];exact H
   obtain⟨g,F⟩:∃g,ao=some ⟨g,0,none⟩:=by
    rcases p.2 with⟨e,h0⟩|⟨g,S,a3,e,_⟩
    all_goals grind
   subst F;have a5:wr.cell? ⟨g,i*2,none⟩=some (gH gM[i].1):=by
    have:=p.cells (g:=g) rfl (i*2) _ (MG gM i y).1;rw[jg]at this
    simpa using this
   have a6:wr.cell? ⟨g,i*2+1,none⟩=some (gH gM[i].2):=by
    have:=p.cells (g:=g) rfl (i*2+1) _ (MG gM i y).2;rw[jg]at this
    simpa using this
   have d:(pre++(⟨4,s,⟨#[]⟩⟩::(gM.take i).map λa=>(⟨5,a.1,a.2⟩:It)))++[⟨5,gM[i].1,gM[i].2⟩]=pre++(⟨4,s,⟨#[]⟩⟩::(gM.take (i+1)).map λa=>(⟨5,a.1,a.2⟩:It)):=by
    have:(gM.take (i+1))=gM.take i++[gM[i]]:=by rw[Ff,qB y];rfl
    rw[this,sj];simp only[wm,wo,Aj,List.map_nil]
   have m:(pre++(⟨4,s,⟨#[]⟩⟩::(gM.take i).map λa=>(⟨5,a.1,a.2⟩:It)))++[⟨5,gM[i].1,gM[i].2⟩] <+:tot:=by
    rw[d];have⟨r,hr⟩:=HP;refine⟨((gM.drop (i+1)).map λa=>(⟨5,a.1,a.2⟩:It))++r,?_⟩;rw[<-hr];have e:=sn (List.map λa:gz×gz=>(⟨5,a.1,a.2⟩:It)) (Af (i+1) gM);rw[sj]at e;show _=pre++(⟨4,s,⟨#[]⟩⟩::gM.map λa=>(⟨5,a.1,a.2⟩:It))++r;rw[<-e];simp only[wm,wo]
   have t:∀o,Kept [] wr (wr.alloc o):=λo=>(Kept.refl [] wr).alloc o;have Q:=(λo=>B9 l b tot w0 J HY _ ⟨5,gM[i].1,gM[i].2⟩ (wr.alloc o) (V.trans (t o)) (HM _ _ _ G (t o)) ((t o).at q (by simp)) m);have u:=(λo=>p.kept (t o));simp only[d]at Q;generalize gM[i].1=u1 at *;generalize gM[i].2=u2 at *
   go_wp21
   refine(Q _).mono ?_;rintro e W3 ⟨rfl,⟨⟨h,k⟩,j⟩,P⟩;have Z:=P.atr (u _);go_wp2;go_roundw
   case rel=>grind
   case measure=>simp[intOf];omega
  .have he:gM.take i=gM:=BF (by rw[<-R.out];omega);rw[he]at G;have O:=fW q 1;dsimp at O;have a4:=iX q;have h:=G;have k:=q;have j:=V;go_wp2;go_ret;exact⟨rfl,⟨h,k⟩,j⟩
def UH (l b:Nat) (tot:List Ev) (w0:gx) (J:List It->gx->Prop) (m:Rnd l (lE tot) w0 J) (t:∀pre W W',J pre W->Kept [] W W'->J pre W'):
  Vis 201 (gN b) (λ_=>false) tot w0 (λpre W=>J (lE pre) W/\Wk W b l):=by
 have g:∀pre p,lE (pre++[p])=lE pre++vq p:=λpre p=>by simp[lE]
 refine {mono:=λpre W W' h r=>⟨t _ _ _ h.1 r,r.at h.2 (by simp)⟩,dt:=λs=>?_,cm:=λs=>?_,tx:=λs=>?_,wh:=λs=>?_,enter:=?_}
 .refine⟨438,gN b,λw=>by kernel_rfl,λw=>by kernel_rfl,enters_of func438 (by rfl) rfl,λpre W j i k=>?_⟩;have d:=xh k;rw[g]at d
  try simp only[]
  rw[g];exact wdt l b _ w0 J m s _ W j i.1 i.2 d
 .refine⟨437,gN b,λw=>by kernel_rfl,λw=>by kernel_rfl,enters_of func437 (by rfl) rfl,λpre W j i k=>?_⟩;have d:=xh k;rw[g]at d
  try simp only[]
  rw[g];exact wcm l b _ w0 J m s _ W j i.1 i.2 d
 .refine⟨441,gN b,λw=>by kernel_rfl,λw=>by kernel_rfl,enters_of func441 (by rfl) rfl,λpre W j i k=>?_⟩;have d:=xh k;rw[g]at d
  try simp only[]
  rw[g];exact wtx l b _ w0 J m s _ W j i.1 i.2 d
 .refine⟨440,gN b,λw=>by kernel_rfl,λw=>by kernel_rfl,enters_of func440 (by rfl) rfl,λpre W j i k=>?_⟩;have d:=xh k;rw[g]at d
  try simp only[]
  rw[g];exact wlv l b _ w0 J m s _ W j i.1 i.2 d
 .refine⟨439,gN b,λw=>by kernel_rfl,λw=>by kernel_rfl,enters_of func439 (by rfl) rfl,λpre W s u gM j i k y q=>?_⟩;have d:=xh k;rw[g]at d
  try simp only[]
  rw[g];exact wen l b _ w0 J m t s u gM _ W j i.1 i.2 d y q
def aev (w0:gx) (g:gQ) (q:gz->Bool):Prop:=∃k lb,g= .func (.func k) #[] lb/\(∀d w,(callFunc k d).run prog w= .ok (.enter k d) w)/\∀W,Kept [] w0 W->∀s,Calls prog k (#[gH s]++lb) W λe W'=>e=iw (.bool (q s))/\W'=W
theorem KB.row (h:KB w w') (i:w.ownsRow base e size v n xs) (m:e∉[100,5]):w'.ownsRow base e size v n xs:=by
 refine⟨i.1,?_⟩;rcases i.2 with e2|⟨q,d,g,e2,j,k,p⟩
 .grind
 .exact .inr ⟨q,d,g,e2,j,h _ _ _ k m,p⟩
theorem TF (L:lZ) (i:Nat) (h:i < L.length):(D9 L)[i*2]?=some (gH (L[i]).1)/\(D9 L)[i*2+1]?=some (gH (L[i]).2):=by
 induction L generalizing i with
 |nil=>simp at h
 |cons a L ih=>
  cases i with
  |zero=>simp
  |succ i=>
   grind
def Jq (s:gz):gz:=OY (AE s) pD o0
structure WeI (ba b:Nat) (nm vl:gz) (G:gx->Prop) (W0:gx) (b0 b1 b2 b3 b4 b5 b6 b7 b8:Bool) (s19 s20 s21 s22 s23 s24 s25 s26 s27:gQ) (W:gx):Prop where
 f0:b0=true->s19=gN b
 f1:b1=true->s20=gN ba
 f2:b2=true->s21=gH nm
 f3:b3=true->s22=jO ba 1
 f4:b4=true->s23=gH vl
 f5:b5=true->s24=gH (AE vl)
 f6:b6=true->s25=gH (Jq vl)
 f7:b7=true->∃g',s26=oe g' 5 5/\(b8=false->W.heap[g']?=some (gL #[gH ⟨#[32]⟩,gH nm,gH zm,gH (Jq vl),gH pD] 9))
 f8:b8=true->s27= .tuple #[]
 d:(b8=true->b7=true)/\(b7=true->b2=true/\b6=true)/\(b6=true->b5=true)/\(b5=true->b4=true)
 wi:if b8 then G W else Kept [] W0 W
def pI:Ev->Bool
 | .tx _=>false
 |_=>true
attribute [local go_sem] Oper.semAt_some
def SZ (w:gx) (d:Nat) (c:jN) (k:Nat):Prop:=w.heap[d]?=some (gL c 76)/\c[8]?=some (gN k)
def SZ.kept {d k : Nat} (h:SZ w d c k) (g:Kept [] w w'):SZ w' d c k:=⟨g.at h.1 (by simp),h.2⟩
def SZ.xX {d k : Nat} (h:SZ w d c k):w.cell? ⟨d,8,none⟩=some (gN k):=by rw[fW h.1,h.2]
def GH (w:gx) (d k:Nat) (c:jN) (h:SZ w d c k):
  Calls prog 31 #[gN d] w λe w'=>e=iw (.bool true)/\w'=w:=by
 have i:=h.xX;have g:=iX h.1;go_enter func31,ntmps31;go_wp2;go_ret;simp
def MO (w:gx) (g:Nat):
  Calls prog 30 #[gN g] w λe w'=>e=iw (.func (.func 39) #[gN g] #[])/\w'=w:=by
 have i:∀(h:Fn) (first d:jN) (w:gx),(Instr.makeFunc h first d).run prog w= .ok (.func h first d) w:=λ_ _ _ _=>rfl;go_enter func30,ntmps30;go_wp2;go_ret;simp
theorem acv (l k:Nat) (d:gz) (gM:lZ) (g:List Tn) (w0:gx) (h:jL w0 (.el d gM g) (.el k)) (J:List It->gx->Prop) (q:Rnd l (lE (vj (λ_=>false) g)) w0 J) (i:∀pre W W',J pre W->Kept [] W W'->J pre W') (W:gx) (p:Kept [] w0 W) (m:J [] W):
  Calls prog 61 #[gN k,.func (.yield l) #[] #[]] W λe W'=>e=pE/\J (lE (vj (λ_=>false) g)) W'/\Kept [] w0 W':=by
 have j:=(Kept.refl [] W).alloc (gL #[.func (.yield l) #[] #[],.bool false] 203);have r:=fX W (gL #[.func (.yield l) #[] #[],.bool false] 203);have C:=zh (UH l W.heap.size _ w0 J q i) k d gM g h rfl _ (p.trans j) ⟨i _ _ _ m j,r⟩;generalize J (lE (vj (λ_=>false) g))=y at C|-;go_enter func61,ntmps61
 go_wp21
 refine C.mono ?_;rintro e z ⟨rfl,⟨t,_⟩,u⟩;go_wp2;go_end0
 grind
theorem adP (l j k:Nat) (c:jN) (d:gz) (gM:lZ) (g:List Tn) (w0:gx) (m:SZ w0 j c k) (h:jL w0 (.el d gM g) (.el k)) (J:List It->gx->Prop) (t:Rnd l (lE (vj (λ_=>false) g)) w0 J) (y:∀pre W W',J pre W->Kept [] W W'->J pre W') (W:gx) (i:Kept [] w0 W) (r:J [] W):
  Calls prog 39 #[gN j,.func (.yield l) #[] #[]] W λe W'=>e=pE/\J (lE (vj (λ_=>false) g)) W'/\Kept [] w0 W':=by
 have q:=GH W j k c (m.kept i);have p:=acv l k d gM g w0 h J t y W i r;have I:=(m.kept i).xX;have u:=iX (m.kept i).1;generalize J (lE (vj (λ_=>false) g))=F at p|-;go_enter func39,ntmps39
 go_wp21
 refine q.mono ?_;rintro e G ⟨rfl,rfl⟩
 go_wp21
 refine p.mono ?_;rintro e H ⟨rfl,z,D⟩;go_wp2;go_end0
 grind
def Ask.toW {q : gz->Bool} (h:Ask bm v q w):aev w v q:=by
 have⟨k,lb,hv,he,ha⟩:=h.call;exact⟨k,lb,hv,he,λW d s=>ha W (.gU d) s⟩
attribute [local go_sem] Oper.semAt_some
def pR (L:List It):List gQ:=L.flatMap λx=>[gh x.k,gH x.s,gH x.t]
def LF (L M:List It):pR (L++M)=pR L++pR M:=K4 ..
def Xl:(prog.info? 57).map (λi=>(i.zero,i.size,i.bytes))=some (some (.agg #[gh 0,gH jz,gH jz]),3,40):=by kernel_rfl
def KW.put (g:W.heap[l]?=some o) (h:o.isCells=false) (i:Obj):KW W (W.putObj l i):=by
 intro k c t d _;refine(qC ?_).trans d;rintro rfl;rw[g]at d;cases d;cases h
def KW.trans (h:KW A B) (k:KW B C):KW A C:=λi c t g d=>k i c t (h i c t g d) d
def KW.jQ (h:Kept [] A B):KW A B:=λi c t d _=>h.at d (by simp)
def KX (h1:1<=n) {g:Operand} {p:Tmp} {Q:Exit->Act->gx->Prop} {gf : Nat} {recv : gQ} (hg:a.eval g= .func (.func gf) #[recv] #[]) (eg:∀R w,(callFunc gf R).run prog w= .ok (.enter gf R) w)
  (tot:List It) (w0:gx)
  (V:∀l J W,Rnd l tot w0 J->(∀pre W W',J pre W->Kept [] W W'->J pre W')->J [] W->Kept [] w0 W->Calls prog gf #[recv,.func (.yield l) #[] #[]] W λe W'=>e=pE/\J tot W'/\Kept [] w0 W')
  (I:List It->gx->Prop) (a0:∀pre W,I pre W->Kept [] w0 W) (G:∀pre W W',I pre W->Kept [] W W'->I pre W') (S:∀pre W k r o',w.heap.size<=k->W.heap[k]?=some (.loop r)->I pre W->I pre (W.putObj k (.loop o')))
  (h0:I [] w) (A:It->Act->gx->Prop) (a9:∀x m W k r o',w.heap.size<=k->W.heap[k]?=some (.loop r)->A x m W->A x m (W.putObj k (.loop o')))
  (t:∀(l:Nat) (pre:List It) (x:It) (W:gx) (K:Act->gx->Prop),I pre W->(∀m W',Kept [] W W'->A x m W'->K m W')->
   assign.wpIn (Fence.wide.inRound l) 3 prog (Exit.then K (λ_ _ _=>False)) {tmps:=a.tmps.setIfInBounds p x.val,defers:=[]} W)
  (U:∀(l:Nat) (pre:List It) (x:It) (m:Act) (W:gx),I pre W->A x m W->pre++[x] <+:tot->body.wpIn (Fence.wide.inRound l) 3 prog (λe _ W'=>e= .normal/\I (pre++[x]) W'/\KW W W'/\KeepsOthers W W') m W)
  (Y:∀(D:Nat) (W:gx),w.heap.size<=D->I tot W->W.heap[D]?=some (.deferred (some []))->Q .normal {a with defers:={target:= .collected D,args:=#[]}::a.defers} W):
  (Code.rangeFunc g #[p] assign body).wpIn Fence.wide n prog Q a w:=by
 refine Pr ?_;intro fn af;obtain⟨j,h⟩:∃j:Loop,j={state:= .ready,pending:=none,fn:=fn,tmps:=a.tmps,params:=#[p],assign:=assign,body:=body,defers:=w.heap.size}:=⟨_,rfl⟩;obtain⟨z,H⟩:∃z,z=(w.alloc (.deferred (some []))).alloc (.loop j):=⟨_,rfl⟩;have a7:Kept [] w z:=by rw[H];exact((Kept.refl _ _).alloc _).alloc _
 have aa:z.heap[w.heap.size]?=some (.deferred (some [])):=by rw[H];exact(Below.heap_alloc _ _ _ (by simp)).trans (BB w _)
 have ab:z.heap[w.heap.size+1]?=some (.loop j):=by
  have:=BB (w.alloc (.deferred (some []))) (.loop j);rw[H];rwa [xJ]at this
 refine⟨w.heap.size+1,[{target:= .collected w.heap.size,args:=#[]}],z,{target:= .fn (.func gf) #[],args:=#[recv,.func (.yield (w.heap.size+1)) #[] #[]]},z,gf,#[recv,.func (.yield (w.heap.size+1)) #[] #[]],z,?_,?_,?_,?_,λ_=>h1,?_⟩
 .rw[H,h];exact Ps _ _ _ _ _
 .simp only[resolve,hg];simp[go_sem]
 .intro f' _;trivial
 .simp[invoke,go_sem,eg]
 .refine(callsIn_wide.2 (V (w.heap.size+1) (λpre W=>I pre W/\W.heap[w.heap.size+1]?=some (.loop j)/\W.heap[w.heap.size]?=some (.deferred (some []))) z ?_ ?_ ⟨G _ _ _ h0 a7,ab,aa⟩ (a0 _ _ (G _ _ _ h0 a7)))).mono ?_
  .rintro pre x W hK ⟨Z,y,X⟩ a6;have aj:w.heap.size+1 < W.heap.size:=(Array.getElem?_eq_some_iff.1 y).1;have hy:(Instr.yield (w.heap.size+1) #[x.val]).run prog W= .ok (.round (w.heap.size+1) fn (a.tmps.setIfInBounds p x.val) assign body) W:=by
    have:=run_yield (P:=prog) (args:=#[x.val]) y (by rw[h];rfl);rw[h]at this
    simpa using this
   refine⟨fn,_,assign,body,hy,roundIn_of_wpIn af (t _ pre x W _ Z ?_)⟩;intro m Wa N hA;have u:Wa.heap[w.heap.size+1]?=some (.loop j):=(N.block _ (Array.getElem?_eq_some_iff.1 y).1 (by simp)).trans y;have ae:Wa.heap[w.heap.size]?=some (.deferred (some [])):=(N.block _ (Array.getElem?_eq_some_iff.1 X).1 (by simp)).trans X;refine⟨_,run_beginRound u (by rw[h]),?_⟩;obtain⟨F,i⟩:∃F,F=Wa.putObj (w.heap.size+1) (.loop {j with state:= .busy}):=⟨_,rfl⟩;rw[<-i];have ag:I pre F:=by rw[i];exact S _ _ _ _ _ (by omega) u (G _ _ _ Z N)
   have a8:A x m F:=by rw[i];exact a9 _ _ _ _ _ _ (by omega) u hA
   have ai:F.heap[w.heap.size+1]?=some (.loop {j with state:= .busy}):=by rw[i];exact F7 (Array.getElem?_eq_some_iff.1 u).1
   have ac:F.heap[w.heap.size]?=some (.deferred (some [])):=by rw[i];exact(qC (by omega)).trans ae
   have a4:KW W F:=by rw[i];exact(KW.jQ N).trans (KW.put u rfl _)
   refine yx (U _ pre x m F ag a8 a6) ?_;rintro e a3 W3 ⟨rfl,ah,a5,a2⟩;have O:=a2.same _ _ ai rfl;have ad:=a2.same _ _ ac rfl;have d:=run_endRound (P:=prog) none O;have er:({({j with state:= .busy}:Loop)with state:=if (none:Option Code).isNone then .ready else .done,pending:=none}:Loop)=j:=by rw[h];rfl
   rw[er]at d;obtain⟨W4,q⟩:∃W4,W4=W3.putObj (w.heap.size+1) (.loop j):=⟨_,rfl⟩;rw[<-q]at d;have a1:I (pre++[x]) W4:=by rw[q];exact S _ _ _ _ _ (by omega) O ah
   refine⟨_,_,d,rfl,⟨a1,?_,?_⟩,a0 _ _ a1,?_⟩
   .rw[q];exact F7 (Array.getElem?_eq_some_iff.1 O).1
   .rw[q];exact(qC (by omega)).trans ad
   .rw[q];exact(a4.trans a5).trans (KW.put O rfl _)
  .rintro pre W W' ⟨Z,y,X⟩ hk;exact⟨G _ _ _ Z hk,(hk.block _ (Array.getElem?_eq_some_iff.1 y).1 (by simp)).trans y,(hk.block _ (Array.getElem?_eq_some_iff.1 X).1 (by simp)).trans X⟩
  .rintro e F ⟨rfl,⟨Z,y,X⟩,_⟩;have d:=F8 (P:=prog) y (by rw[h];simp);have ep:j.pending=none:=by rw[h]
   rw[ep]at d;exact⟨none,_,d,Y _ _ (gW _) (S _ _ _ _ _ (by omega) y Z) ((qC (by omega)).trans X)⟩
theorem Vx {k : Nat} (h:W.ownsRow base e k v n xs) (p:W.heap[l]?=some o) (q:o.isCells=false) (t:Obj):(W.putObj l t).ownsRow base e k v n xs:=by
 refine⟨h.1,?_⟩;rcases h.2 with e|⟨g,d,i,e,m,j,r⟩
 .grind
 .refine .inr ⟨g,d,i,e,m,(qC ?_).trans j,r⟩;rintro rfl;rw[p]at j;cases j;cases q
theorem QT (h:Kept [] w W) (j:w.heap.size<=l) (i:Obj):Kept [] w (W.putObj l i):=by
 have g:=xB W l i;exact⟨g.os.trans h.os,g.tape.trans h.tape,g.output.trans h.output,j7 h.size g.size,λk d _=>(g.block k (mi d h.size) (by grind)).trans (h.block k d (by simp))⟩
def KN (w w':gx):Prop:=∀(k:Nat) (c:jN) (t:TypeId),w.heap[k]?=some (gL c t)->t∈UP->w'.heap[k]?=some (gL c t)
def KN.jQ {S : List Nat} (h:Kept S w w') (g:∀k∈S,∀c t,w.heap[k]?=some (gL c t)->t∉UP):KN w w':=λk c t d j=>h.at d (λi=>g k i c t d j)
theorem KN.row (h:KN w w') (j:w.ownsRow base e size v n xs) (p:e∈UP):w'.ownsRow base e size v n xs:=by
 refine⟨j.1,?_⟩;rcases j.2 with e1|⟨g,d,i,e1,k,m,r⟩
 .grind
 .exact .inr ⟨g,d,i,e1,k,h g _ _ m p,r⟩
mutual
theorem jL.kn (d:KN w w'):∀{t:Tn} {n:Nd},jL w t n->jL w' t n
 | .el name gM ks,.el k,h=>by
  unfold jL at h|-;have⟨av,jl,kv,ns,h1,h2,h3,h4⟩:=h;exact⟨av,jl,kv,ns,⟨d _ _ _ h1.iC (by decide),d.row h1.row (by decide),h1.le,h1.U0⟩,d.row h2 (by decide),h3,rC.kn d h4⟩
 | .tx _,.tx _,h=>by unfold jL at h|-;exact d _ _ _ h (by decide)
 | .cm _,.cm _,h=>by unfold jL at h|-;exact d _ _ _ h (by decide)
 | .dt _,.dt _,h=>by unfold jL at h|-;exact d _ _ _ h (by decide)
 | .el _ _ _,.tx _,h=>by grind[jL]
 | .el _ _ _,.cm _,h=>by grind[jL]
 | .el _ _ _,.dt _,h=>by grind[jL]
 | .tx _,.el _,h=>by grind[jL]
 | .tx _,.cm _,h=>by grind[jL]
 | .tx _,.dt _,h=>by grind[jL]
 | .cm _,.el _,h=>by grind[jL]
 | .cm _,.tx _,h=>by grind[jL]
 | .cm _,.dt _,h=>by grind[jL]
 | .dt _,.el _,h=>by grind[jL]
 | .dt _,.tx _,h=>by grind[jL]
 | .dt _,.cm _,h=>by grind[jL]
theorem rC.kn (i:KN w w'):∀{g:List Tn} {d:List Nd},rC w g d->rC w' g d
 |[],[],_=>by simp[rC]
 |t::g,n::d,h=>by
  unfold rC at h|-;exact⟨jL.kn i h.1,rC.kn i h.2⟩
 |[],_::_,h=>by grind[rC]
 |_::_,[],h=>by grind[rC]
end
def Nx (w:gx):(zeroValue 168).run prog w= .ok .nilFunc w:=by simp
theorem Q5 {g i : Nat} {R : Option (List (List gz×Ru))} (h:su bm g i R v w) (n:gz):
  ∃u,(∀w',Kept [] w w'->(Instr.lookup 170 v (gH n) false).run prog w'= .ok u w')/\nY bm g i (Bd R n) u w:=by
 cases R with
 |none=>
  obtain rfl:v= .map none:=h;refine⟨.nilFunc,λw' _=>?_,rfl⟩;have p:(underlying 9).run prog w'= .ok .string w':=ql underlying9 _;have k:∀x,(Instr.checkKey x 10000 9 (gH n)).run prog w'= .ok () w':=λx=>by
   unfold Instr.checkKey;simp
  simp[Instr.lookup,ql (show prog.underlying 170=some (.map 9 168) by simp),k,Instr.findKey,Instr.findNow,p,Nx,Result.andThen]
 |some R=>
  obtain⟨b,L,rfl,j,q⟩:=h;have d:=j.lt;refine⟨(AF L n).getD .nilFunc,λw' m=>FV (by simp) Nx (j.keeps (m.block b d (by simp))) n,?_⟩
  grind[nY,Bd,AF]
def aas (E:Env) (K N a b:Nat) (n:gz) (gM:lZ) (sp:nc) (v0 v1 v2 v3 v4 v5 v6 v7 v8 v9:gQ) (w:gx) (h:li E.bm K N sp v0 v1 v2 v3 v4 v5 v6 v7 v8 v9 w) (d:∃x m c,E.tv= .slice x m c):
  Calls prog 264 #[.agg #[v0,v1,v2,v3,v4,v5,v6,v7,v8,v9],iJ E ⟨a,b,.start n,gM⟩] w λe w'=>∃v,e=iw v/\nY E.bm K N (kj sp ⟨a,b,.start n,gM⟩) v w/\Kept [] w w':=by
 have⟨k0,k1,k2,k3,k4,Z,k6,k7,k8,k9⟩:=wR h.one;have y:=fV h;clear h;have P:=fV (λo=>F1 w (gL #[v0,v1,v2,v3,v4,v5,v6,v7,v8,v9] 172) o);have G:=fV (fX w (gL #[v0,v1,v2,v3,v4,v5,v6,v7,v8,v9] 172));have j:=fV (λo=>((Kept.refl [] w).alloc (gL #[v0,v1,v2,v3,v4,v5,v6,v7,v8,v9] 172)).alloc o);have H:=fV ((Kept.refl [] w).alloc (gL #[v0,v1,v2,v3,v4,v5,v6,v7,v8,v9] 172));simp only[iJ];have⟨x0,m0,c0,d⟩:=d;rw[d];clear d;have F:=vV;have q:=tC;have r:=wO;have i:=ru underlying196;have⟨u,hlk,hu⟩:=Q5 y.out.start n;have I:=fV hlk;have p:=hlk ((w.alloc (gL #[v0,v1,v2,v3,v4,v5,v6,v7,v8,v9] 172)).alloc (gL #[gh a,gh b,gH n,.slice x0 m0 c0] 196)) (j.out _);have D:=P.out (gL #[gh a,gh b,gH n,.slice x0 m0 c0] 196);have O:=fX (w.alloc (gL #[v0,v1,v2,v3,v4,v5,v6,v7,v8,v9] 172)) (gL #[gh a,gh b,gH n,.slice x0 m0 c0] 196);have z:=fV (j.out (gL #[gh a,gh b,gH n,.slice x0 m0 c0] 196));obtain⟨W,k⟩:∃W,W=((w.alloc (gL #[v0,v1,v2,v3,v4,v5,v6,v7,v8,v9] 172)).alloc (gL #[gh a,gh b,gH n,.slice x0 m0 c0] 196)):=⟨_,rfl⟩;have R:(w.alloc (gL #[v0,v1,v2,v3,v4,v5,v6,v7,v8,v9] 172)).heap.size=w.heap.size+1:=by simp
 rw[R]at O;have q5:W.cell? ⟨w.heap.size,5,none⟩=some v5:=by rw[k,fW D];rfl
 have q7:W.cell? ⟨w.heap.size,7,none⟩=some v7:=by rw[k,fW D];rfl
 have q9:W.cell? ⟨w.heap.size,9,none⟩=some v9:=by rw[k,fW D];rfl
 have qn:W.cell? ⟨w.heap.size+1,2,none⟩=some (gH n):=by rw[k,fW O];rfl
 rw[<-k]at z p;have U:=fV k.symm;clear D O P G j H hlk k R I;have Q:kj sp ⟨a,b,.start n,gM⟩=j5 [Bd sp.start n,sp.jG,sp.ir]:=rfl;have g:Hid (wT E.bm K N w _ [u,v7,v9]):=fV (.cons hu (.cons y.out.jG (.cons y.out.ir (.nil))));have S:=fV Q;clear Q;have V:=hu.fv;have X:=y.out.jG.fv;have Y:=y.out.ir.fv;clear hu;go_enter func264,ntmps264
 go_wp21
 rw[U.out]
 go_wp21
 rw[p];clear p;rcases V with rfl|⟨Z,a5,l5,rfl⟩
 all_goals rcases X with rfl|⟨k7,a7,l7,rfl⟩
 all_goals rcases Y with rfl|⟨k9,a9,l9,rfl⟩
 all_goals go_wp2_with fail
 all_goals refine(uJ g.out (by simp) (by simp)).mono ?_
 all_goals rintro e w3 ⟨rfl,rfl⟩
 all_goals have t:=fV g.out.first
 all_goals simp only[sY]at t|-
 all_goals go_wp2
 all_goals go_ret
 all_goals exact⟨_,rfl,S.out▸t.out,z.out.alloc _⟩
def acN (E:Env) (N O a b:Nat) (n:gz) (gM:lZ) (sp:nc) (v0 v1 v2 v3 v4 v5 v6 v7 v8 v9:gQ) (w:gx) (h:li E.bm N O sp v0 v1 v2 v3 v4 v5 v6 v7 v8 v9 w) (d:∃x m c,E.tv= .slice x m c):
  Calls prog 264 #[.agg #[v0,v1,v2,v3,v4,v5,v6,v7,v8,v9],iJ E ⟨a,b,.stop n,gM⟩] w λe w'=>∃v,e=iw v/\nY E.bm N O (kj sp ⟨a,b,.stop n,gM⟩) v w/\Kept [] w w':=by
 have⟨k0,k1,k2,k3,k4,k5,k6,k7,k8,k9⟩:=wR h.one;have z:=fV h;clear h;have Q:=fV (λo=>F1 w (gL #[v0,v1,v2,v3,v4,v5,v6,v7,v8,v9] 172) o);have H:=fV (fX w (gL #[v0,v1,v2,v3,v4,v5,v6,v7,v8,v9] 172));have j:=fV (λo=>((Kept.refl [] w).alloc (gL #[v0,v1,v2,v3,v4,v5,v6,v7,v8,v9] 172)).alloc o);have I:=fV ((Kept.refl [] w).alloc (gL #[v0,v1,v2,v3,v4,v5,v6,v7,v8,v9] 172));simp only[iJ];have⟨x0,m0,c0,d⟩:=d;rw[d];clear d;have G:=vV;have q:=tC;have r:=wO;have i:=rh;have t:=ru underlying197;have⟨u,hlk,hu⟩:=Q5 z.out.stop n;have K:=fV hlk;have p:=hlk ((w.alloc (gL #[v0,v1,v2,v3,v4,v5,v6,v7,v8,v9] 172)).alloc (gL #[gh a,gh b,gH n,.slice x0 m0 c0] 197)) (j.out _);have F:=Q.out (gL #[gh a,gh b,gH n,.slice x0 m0 c0] 197);have P:=fX (w.alloc (gL #[v0,v1,v2,v3,v4,v5,v6,v7,v8,v9] 172)) (gL #[gh a,gh b,gH n,.slice x0 m0 c0] 197);have D:=fV (j.out (gL #[gh a,gh b,gH n,.slice x0 m0 c0] 197));obtain⟨W,k⟩:∃W,W=((w.alloc (gL #[v0,v1,v2,v3,v4,v5,v6,v7,v8,v9] 172)).alloc (gL #[gh a,gh b,gH n,.slice x0 m0 c0] 197)):=⟨_,rfl⟩;have S:(w.alloc (gL #[v0,v1,v2,v3,v4,v5,v6,v7,v8,v9] 172)).heap.size=w.heap.size+1:=by simp
 rw[S]at P;have q6:W.cell? ⟨w.heap.size,6,none⟩=some v6:=by rw[k,fW F];rfl
 have q8:W.cell? ⟨w.heap.size,8,none⟩=some v8:=by rw[k,fW F];rfl
 have q9:W.cell? ⟨w.heap.size,9,none⟩=some v9:=by rw[k,fW F];rfl
 have qn:W.cell? ⟨w.heap.size+1,2,none⟩=some (gH n):=by rw[k,fW P];rfl
 rw[<-k]at D p;have V:=fV k.symm;clear F P Q H j I hlk k S K;have R:kj sp ⟨a,b,.stop n,gM⟩=j5 [Bd sp.stop n,sp.j8,sp.ir]:=rfl;have g:Hid (wT E.bm N O w _ [u,v8,v9]):=fV (.cons hu (.cons z.out.j8 (.cons z.out.ir (.nil))));have U:=fV R;clear R;have X:=hu.fv;have Y:=z.out.j8.fv;have Z:=z.out.ir.fv;clear hu;go_enter func264,ntmps264
 go_wp21
 rw[V.out]
 go_wp21
 rw[p];clear p;rcases X with rfl|⟨k5,a5,l5,rfl⟩
 all_goals rcases Y with rfl|⟨k8,a8,l8,rfl⟩
 all_goals rcases Z with rfl|⟨k9,a9,l9,rfl⟩
 all_goals go_wp2_with fail
 all_goals refine(uJ g.out (by simp) (by simp)).mono ?_
 all_goals rintro e w3 ⟨rfl,rfl⟩
 all_goals have y:=fV g.out.first
 all_goals simp only[sY]at y|-
 all_goals go_wp2
 all_goals go_ret
 all_goals exact⟨_,rfl,U.out▸y.out,D.out.alloc _⟩
def T9 (E:Env) (t u a b:Nat) (s:gz) (gM:lZ) (sp:nc) (v0 v1 v2 v3 v4 v5 v6 v7 v8 v9:gQ) (w:gx) (h:li E.bm t u sp v0 v1 v2 v3 v4 v5 v6 v7 v8 v9 w):
  Calls prog 264 #[.agg #[v0,v1,v2,v3,v4,v5,v6,v7,v8,v9],iJ E ⟨a,b,.gR s,gM⟩] w λe w'=>∃v,e=iw v/\nY E.bm t u (kj sp ⟨a,b,.gR s,gM⟩) v w/\Kept [] w w':=by
 have⟨k0,k1,G,k3,k4,k5,k6,k7,k8,H⟩:=wR h.one;have k:=fV h;clear h;have z:=fV (λo=>F1 w (gL #[v0,v1,v2,v3,v4,v5,v6,v7,v8,v9] 172) o);have p:=fV (fX w (gL #[v0,v1,v2,v3,v4,v5,v6,v7,v8,v9] 172));have j:=fV (λo=>((Kept.refl [] w).alloc (gL #[v0,v1,v2,v3,v4,v5,v6,v7,v8,v9] 172)).alloc o);have q:=fV ((Kept.refl [] w).alloc (gL #[v0,v1,v2,v3,v4,v5,v6,v7,v8,v9] 172));simp only[iJ];have m:=vV;have g:=ru underlying198;have y:=z.out (gL #[gh a,gh b,gH s] 198);have r:=fV (j.out (gL #[gh a,gh b,gH s] 198));have I:=fW y 2;have K:=fW y 9;dsimp at I K;clear y z p j q;have d:Hid (wT E.bm t u w _ [v2,v9]):=fV (.cons k.out.gR (.cons k.out.ir (.nil)));have D:=k.out.gR.fv;have F:=k.out.ir.fv;go_enter func264,ntmps264;rcases D with rfl|⟨G,N,P,rfl⟩
 all_goals rcases F with rfl|⟨H,O,Q,rfl⟩
 all_goals go_wp21
 all_goals refine(uJ d.out (by simp) (by simp)).mono ?_
 all_goals rintro e R ⟨rfl,rfl⟩
 all_goals have i:=fV d.out.first
 all_goals simp only[sY]at i|-
 all_goals go_wp2
 all_goals go_ret
 all_goals exact⟨_,rfl,i.out,r.out.alloc _⟩
def Ua (E:Env) (y z a b:Nat) (n:gz) (q:Bool) (gM:lZ) (sp:nc) (v0 v1 v2 v3 v4 v5 v6 v7 v8 v9:gQ) (w:gx) (h:li E.bm y z sp v0 v1 v2 v3 v4 v5 v6 v7 v8 v9 w):
  Calls prog 264 #[.agg #[v0,v1,v2,v3,v4,v5,v6,v7,v8,v9],iJ E ⟨a,b,.iy n q,gM⟩] w λe w'=>∃v,e=iw v/\nY E.bm y z (kj sp ⟨a,b,.iy n q,gM⟩) v w/\Kept [] w w':=by
 have⟨k0,k1,k2,I,k4,k5,k6,k7,k8,K⟩:=wR h.one;have m:=fV h;clear h;have F:=fV (λo=>F1 w (gL #[v0,v1,v2,v3,v4,v5,v6,v7,v8,v9] 172) o);have r:=fV (fX w (gL #[v0,v1,v2,v3,v4,v5,v6,v7,v8,v9] 172));have k:=fV (λo=>((Kept.refl [] w).alloc (gL #[v0,v1,v2,v3,v4,v5,v6,v7,v8,v9] 172)).alloc o);have t:=fV ((Kept.refl [] w).alloc (gL #[v0,v1,v2,v3,v4,v5,v6,v7,v8,v9] 172));simp only[iJ];have p:=vV;have g:=tC;have i:=ru underlying200;have D:=F.out (gL #[gh a,gh b,gH n,.bool q] 200);have u:=fV (k.out (gL #[gh a,gh b,gH n,.bool q] 200));have N:=fW D 3;have O:=fW D 9;dsimp at N O;clear D F r k t;have d:Hid (wT E.bm y z w _ [v3,v9]):=fV (.cons m.out.iy (.cons m.out.ir (.nil)));have G:=m.out.iy.fv;have H:=m.out.ir.fv;go_enter func264,ntmps264;rcases G with rfl|⟨I,P,R,rfl⟩
 all_goals rcases H with rfl|⟨K,Q,S,rfl⟩
 all_goals go_wp21
 all_goals refine(uJ d.out (by simp) (by simp)).mono ?_
 all_goals rintro e U ⟨rfl,rfl⟩
 all_goals have j:=fV d.out.first
 all_goals simp only[sY]at j|-
 all_goals go_wp2
 all_goals go_ret
 all_goals exact⟨_,rfl,j.out,u.out.alloc _⟩
def Tw (E:Env) (t:gO):je E 211 (λ_=>#[Bp E,iJ E t]) (yK t) uV:=by
 refine dI λf σ w R u HS H=>?_;unfold yK at u;go_enter func211,ntmps211;have⟨kb,lbb,cb,HQ⟩:=H.rel.bounds;have h:=H.lt;have i:=cb;have j:=(Kept.refl [] w).drew;have⟨ta,tb,tao,tn,tcp,HTG⟩:=EU E t H.rel;have I:=λw=>Br ta tb t.name tao tn tcp w;replace u:Hid (R= .ok () (σ.close (im [t.name]) (iS))):=by
  have:=u;rw[M.gE,uD]at this;exact fV this
 go_wp21
 go_region_with (first
   |(go_at_call 177;refine(HTG _).mono ?_;rintro e z ⟨rfl,r⟩;have j:=fV (j.trans r);have Q:z.cell? ⟨E.bB,186,none⟩=some (.func (.func kb) #[] lbb):=(j.cell (p:=⟨E.bB,186,none⟩) h (by simp)).trans i;have K:E.bB < z.heap.size:=mi h j.size;clear r)
   |(go_at_call 225;refine(nN E [t.name] z (by simp)).mono ?_;rintro e O ⟨S,N,rfl,k,m⟩;have g:=j.trans m;have P:O.cell? ⟨E.bB,186,none⟩=some (.func (.func kb) #[] lbb):=(g.cell (p:=⟨E.bB,186,none⟩) h (by simp)).trans i;have y:=fV k;have d:=fV g;clear k m g)
   |(go_at_call 228;refine(DR (p:=im [t.name]) (q:=iS) (H.k0 d).rel y (HQ.k0 d)).mono ?_;rintro e U ⟨rfl,D,F⟩;have G:=fV ((H.k0 d).to D (yJ _ _ _) F);clear D F))
 all_goals (try (go_wp21))
 all_goals go_wp2
 all_goals go_end0
 all_goals exact gw u G rfl
def Ec (E:Env) (rec:Nat->gO->M Unit) (i:∀(m:Nat) (t:gO),ji E t->je E 171 (λ_=>#[Bp E,gh m,iJ E t]) (rec m t) uV) (t:gO) (k:ji E t):je E 135 (λ_=>#[Bp E,iJ E t]) (uK rec t) uV:=by
 refine dI λf σ w R d HS H=>?_;unfold uK at d;go_enter func135,ntmps135;have g:=H.Y2;have h:=H.free 195;have j:=H.lt;replace H:=H.yY true
 go_wp21
 refine dC (i 6 t k) H d HS rfl lT ?_;rintro(_) f σ w H q p d;have g:=H.Y2;have h:=H.free 195;have j:=H.lt;replace H:=H.yY false;go_wp2;go_end0;exact gw d H rfl
def Lq (E:Env) (rec:Nat->gO->M Unit) (i:∀(m:Nat) (t:gO),ji E t->je E 171 (λ_=>#[Bp E,gh m,iJ E t]) (rec m t) uV) (t:gO) (j:ji E t):je E 125 (λ_=>#[Bp E,iJ E t]) (qR rec t) uV:=by
 refine dI λf σ w R d HS H=>?_;unfold qR at d;go_enter func125,ntmps125
 go_wp21
 refine(Cv E _).mono ?_;rintro e w ⟨F,q,rfl,g,h⟩;replace H:=H.k0 h;have C:=BM H.rel g;cases hc:σ.current Bo with
 |true=>
  rw[hc]at C;replace d:Hid (R=(kZ rec t>>=λ_=>(pure ():M Unit)) {σ with kept:=σ.mode,mode:=8}):=by
   have:=d;rw[gJ hc]at this;exact fV this
  go_wp21
  refine C.mono ?_;rintro e w ⟨rfl,rfl⟩;have r:=H.sB;have y:=H.free 192;have u:=H.Td;have z:=H.free 193;have D:=H.lt;replace H:=(H.y7 σ.mode).jh 8
  go_wp21
  refine dC (ui E rec i t j) H d HS rfl lT ?_;rintro(_) f σ w H p k d;go_wp2;go_end0;exact gw d H rfl
 |false=>
  rw[hc]at C;replace d:Hid (R=(uK rec t>>=λ_=>(pure ():M Unit)) σ):=by
   have:=d;rw[gV (by simp[hc])]at this;exact fV this
  go_wp21
  refine C.mono ?_;rintro e w ⟨rfl,rfl⟩
  go_wp21
  refine dC (Ec E rec i t j) H d HS rfl lT ?_;rintro(_) f σ w H p k d;go_wp2;go_end0;exact gw d H rfl
def Fv {E:Env} (h:RF E f σ w) {k : Nat} {ks : List gz} (m:Nat) (r:Ask E.bm (.func (.func k) #[] lb) (im ks) w) (q:(sM ks m) σ≠ .stuck):Calls prog 236 #[Bp E,.func (.func k) #[] lb,gh m] w (kE E f σ.nodes.length w ((sM ks m) σ) bV):=by
 have j:=r;obtain⟨R,i⟩:∃R,R=(sM ks m) σ:=⟨_,rfl⟩;rw[<-i]at q|-;unfold sM at i;have HS:=q;have H:=At.start h;have d:=fV i;clear i;go_enter func236,ntmps236
 go_wp21
 refine(xz E _).mono ?_;rintro e w ⟨F,t,rfl,p,g⟩;replace H:=H.k0 g;replace j:=j.k0 g
 go_wp21
 refine Be (λ_=>zu H.rel j p) H d HS mT ?_;rintro(b) σ w H u d;cases b with
 |false=>
  replace d:Hid (R= .ok false σ):=d;go_wp2;go_ret;exact kh d H rfl
 |true=>
  replace d:Hid (R= .ok true {σ with mode:=m}):=d;have y:=H.sB;have z:=H.free 192;have D:=H.lt;replace H:=H.jh m;go_wp2;go_ret;exact kh d H rfl
def Ar {E:Env} (h:RF E f σ w) {k : Nat} {ks : List gz} (m:Nat) (q:Ask E.bm (.func (.func k) #[] lb) (im ks) w) (i:(lG ks m) σ≠ .stuck):Calls prog 235 #[Bp E,.func (.func k) #[] lb,gh m] w (kE E f σ.nodes.length w ((lG ks m) σ) bV):=by
 have j:=q;obtain⟨R,g⟩:∃R,R=(lG ks m) σ:=⟨_,rfl⟩;rw[<-g]at i|-;unfold lG at g;have HS:=i;have H:=At.start h;have d:=fV g;clear g;go_enter func235,ntmps235
 go_wp21
 refine Be (λr=>Fv H.rel m j r) H d HS mT ?_;rintro(b) σ w H p d;cases b with
 |false=>
  replace d:Hid (R= .ok false σ):=d;go_wp2;go_ret;exact kh d H rfl
 |true=>
  replace d:Hid (R=(Ac>>=λ_=>(pure true:M Bool)) σ):=d
  go_wp21
  refine mC (Sv E) H d HS rfl mT ?_;rintro(_) σ w H p d;go_wp2;go_ret;exact kh d H rfl
def TE (E:Env):kF E 131 (λ_=>#[Bp E]) yN bV:=by
 refine mI λf σ w R d HS H=>?_;unfold yN at d;go_enter func131,ntmps131
 go_wp21
 refine(Nk E _).mono ?_;rintro e w ⟨q,m,rfl,h,j⟩;replace H:=H.k0 j
 go_wp21
 refine(xz E _).mono ?_;rintro e w ⟨r,p,rfl,i,g⟩;replace H:=H.k0 g;replace h:=h.k0 g
 go_wp21
 refine Be (λ_=>zu H.rel h i) H d HS mT ?_;rintro(b) σ w H k d;cases b with
 |false=>
  replace d:Hid (R= .ok false σ):=d;go_wp2;go_ret;exact kh d H rfl
 |true=>
  replace d:Hid (R=(yu>>=λ_=>(pure true:M Bool)) σ):=d
  go_wp21
  refine Be (λ_=>VE H.rel) H d HS mT ?_;rintro(_) σ w H k d;go_wp2;go_ret;exact kh d H rfl
def N6 (E:Env):kF E 138 (λ_=>#[Bp E]) uG bV:=by
 refine mI λf σ w R d HS H=>?_;unfold uG at d;go_enter func138,ntmps138;replace d:=fV (M.tail d)
 go_wp21
 refine(nN E [gy] _ (by decide)).mono ?_;rintro e w ⟨m,j,rfl,g,h⟩;replace H:=H.k0 h
 go_wp21
 refine Be (λi=>Ar H.rel 7 g i) H d HS mT ?_;rintro(b) σ w H k d;go_wp2;go_ret;exact kh d H rfl
def Jl (E:Env):kF E 141 (λ_=>#[Bp E]) rJ bV:=by
 refine mI λf σ w R d HS H=>?_;unfold rJ at d;go_enter func141,ntmps141;replace d:=fV (M.tail d)
 go_wp21
 refine(KH E _).mono ?_;rintro e w ⟨m,j,rfl,g,h⟩;replace H:=H.k0 h
 go_wp21
 refine Be (λi=>Fv H.rel 7 g i) H d HS mT ?_;rintro(b) σ w H k d;go_wp2;go_ret;exact kh d H rfl
def Zu (E:Env):kF E 144 (λ_=>#[Bp E]) Fw bV:=by
 refine mI λf σ w R d HS H=>?_;unfold Fw at d;go_enter func144,ntmps144;replace d:=fV (M.tail d)
 go_wp21
 refine(VF E _).mono ?_;rintro e w ⟨m,j,rfl,g,h⟩;replace H:=H.k0 h
 go_wp21
 refine Be (λi=>Fv H.rel 11 g i) H d HS mT ?_;rintro(b) σ w H k d;go_wp2;go_ret;exact kh d H rfl
def WZ (E:Env):kF E 145 (λ_=>#[Bp E]) endCell bV:=by
 refine mI λf σ w R d HS H=>?_;unfold endCell at d;go_enter func145,ntmps145;replace d:=fV (M.tail d)
 go_wp21
 refine(WI E _).mono ?_;rintro e w ⟨m,j,rfl,g,h⟩;replace H:=H.k0 h
 go_wp21
 refine Be (λi=>Ar H.rel 12 g i) H d HS mT ?_;rintro(b) σ w H k d;go_wp2;go_ret;exact kh d H rfl
def Ft (E:Env):kF E 139 (λ_=>#[Bp E]) nf bV:=by
 refine mI λf σ w R d HS H=>?_;unfold nf at d;go_enter func139,ntmps139
 go_wp21
 refine(nN E [gn] _ (by decide)).mono ?_;rintro e w ⟨q,i,rfl,g,h⟩;replace H:=H.k0 h;have C:=BM H.rel g;cases hc:σ.current (im [gn])with
 |true=>
  rw[hc]at C;replace d:Hid (R=(yW>>=λ_=>(do jS 7;return true:M Bool)) σ):=by
   have:=d;rw[gJ hc]at this;exact fV this
  go_wp21
  refine C.mono ?_;rintro e w ⟨rfl,rfl⟩
  go_wp21
  refine mC (Dm E) H d HS rfl mT ?_;rintro(_) σ w H j d;have k:=H.sB;have m:=H.free 192;have p:=H.lt;replace H:=H.jh 7;go_wp2;go_ret;exact kh d H rfl
 |false=>
  rw[hc]at C;replace d:Hid (R= .ok false σ):=by
   have:=d;rw[gV (by simp[hc])]at this;exact fV this
  go_wp21
  refine C.mono ?_;rintro e w ⟨rfl,rfl⟩;go_wp2;go_ret;exact kh d H rfl
def RF.ae3 {E:Env} (h:RF E f σ w):σ.hH σ.form=true:=by have⟨L,_,hr⟩:=h;exact hr.wf.form
theorem RF.JM {E:Env} (h:RF E f σ w):σ.hH σ.last=true:=by
 have⟨L,_,hr⟩:=h;unfold Ab.last;rcases xw σ.gG with d|⟨g,y,d⟩
 .rw[d];rfl
 .rw[d,wM];exact Ab.wC (hr.wf.gG y (by grind))
theorem acI (E:Env) (v1:gQ) (p:gz->Bool) (w:gx) (g:Ask E.bm v1 p w):
  Calls prog 244 #[v1] w (yD E (λs=>!p s) w):=by
 refine(acG E.bm v1 p w g).mono ?_;rintro e w' ⟨⟨v,rfl,d⟩,h⟩;have⟨k,lb,e,_,_⟩:=d.call
 grind
def R7 (E:Env) (t:gO) (m:ji E t):je E 197 (λ_=>#[Bp E,iJ E t]) (abq t) uV:=by
 refine dI λf σ w R d HS H=>?_;unfold abq at d;go_enter func197,ntmps197;have g:=H.Tc;have y:=H.lt;cases hf:σ.form with
 |some i=>
  rw[hf]at g d;replace d:Hid (R= .ok () σ):=d;rw[show oV f (some i)=gN (f i)from rfl]at g;go_wp2;go_end0;exact gw d H rfl
 |none=>
  rw[hf]at g d;replace d:Hid (R=(nE t>>=λ_=>(do xA λσ=>{σ with form:=σ.last};return ():M Unit)) σ):=d;rw[show oV f none= .pointer none from rfl]at g
  go_wp21
  refine dC (wF E (iO E) t m) H d HS rfl lT ?_;rintro(_) f σ w H q p d;have h:=H.rel.JM;have C:=H.rel.QY;have r:=H.Tc;have u:=H.free 191;have k:=H.lt;have j:=H.vI σ.last h
  go_wp21
  refine C.mono ?_;rintro e w ⟨rfl,rfl⟩;replace H:=j;go_wp2;go_end0;exact gw d H rfl
def Dx (E:Env) (t:gO) (F:ji E t):je E 132 (λ_=>#[Bp E,iJ E t]) (mH t) uV:=by
 refine dI λf σ w R d HS H=>?_;unfold mH at d;go_enter func132,ntmps132;have h:=H.Tc;have Q:=H.lt;cases hf:σ.form with
 |some i=>
  rw[hf]at h d;replace d:Hid (R= .ok () σ):=d;rw[show oV f (some i)=gN (f i)from rfl]at h;go_wp2;go_end0;exact gw d H rfl
 |none=>
  rw[hf]at h d;replace d:Hid (R=(jv t>>=λ_=>(do let x <-yW;xA λσ=>{σ with form:=x};return ():M Unit)) σ):=d;rw[show oV f none= .pointer none from rfl]at h
  go_wp21
  refine dC (lz E (iO E) t F) H d HS rfl lT ?_;rintro(_) f σ w H K I d;have k:=H.rel.JM
  go_wp21
  refine kF.PX (Dm E) H d HS rfl ?_ ?_
  .intro c p j S g u y;have r:=fV g;clear g;go_wp2;exact⟨rfl,pJ r u y⟩
  rintro x m w g P z q;have G:m.hH x=true:=by
   unfold yW at q;cases q;exact k
  have N:=g.Tc;have O:=g.free 191;have D:=g.lt;replace H:=g.vI x G;replace d:=z;clear g;go_wp2;go_end0;exact gw d H rfl
def O7 (E:Env) (t:gO) (j:ji E t):je E 200 (λ_=>#[Bp E,iJ E t]) (tk t) uV:=by
 refine dI λf σ w R d HS H=>?_;unfold tk at d;go_enter func200,ntmps200;have h:=H.Y3;have i:=H.lt;cases hq:σ.jV with
 |true=>
  rw[hq]at h;replace d:Hid (R=(jv t>>=λ_=>(do jS 7;return ():M Unit)) σ):=by
   have:=d;rw[M.gE]at this;unfold zt at this;rw[hq]at this;exact fV this
  go_wp21
  refine dC (lz E (iO E) t j) H d HS rfl lT ?_;rintro(_) f σ w H k g d;have m:=H.sB;have p:=H.free 192;have i:=H.lt;replace H:=H.jh 7;go_wp2;go_end0;exact gw d H rfl
 |false=>
  rw[hq]at h;replace d:Hid (R=(ph>>=λ_=>(do jv t;jS 7;return ():M Unit)) σ):=by
   have:=d;rw[M.gE]at this;unfold zt at this;rw[hq]at this;exact fV this
  go_wp21
  refine Be (λq=>yI H.rel q) H d HS lT ?_;rintro(_) σ w H g d
  go_wp21
  refine dC (lz E (iO E) t j) H d HS rfl lT ?_;rintro(_) f σ w H k g d;have m:=H.sB;have p:=H.free 192;have i:=H.lt;replace H:=H.jh 7;go_wp2;go_end0;exact gw d H rfl
def Mb (E:Env) (t:gO) (q:ji E t):je E 203 (λ_=>#[Bp E,iJ E t]) (rp t) uV:=by
 refine dI λf σ w R d HS H=>?_;unfold rp at d;go_enter func203,ntmps203
 go_wp21
 refine dC (rU E (iO E) t q) H d HS rfl lT ?_;rintro(_) f σ w H D z d;have p:=H.sB;have F:=H.free 192;have G:=H.lt;have k:=H.jh 15;have m:=H.jh 14;replace d:Hid (R= .ok () {σ with mode:=if σ.mode=7\/σ.mode=9\/σ.mode=11\/σ.mode=12\/σ.mode=13 then 15 else 14}):=d;generalize h:σ.mode=g at p d;have j:=h;have i:=d
 by_cases h:g=7\/g=9\/g=11\/g=12\/g=13
 .rw[gJ h]at i;replace d:=i;rcases h with rfl|rfl|rfl|rfl|rfl
  all_goals go_wp2
  all_goals go_end0
  all_goals exact gw d k rfl
 .rw[gV h]at i;replace d:=i;have I:((g:Int)==7)=false:=by rw[Nw];omega
  have K:((g:Int)==9)=false:=by rw[Nw];omega
  have r:((g:Int)==11)=false:=by rw[Nw];omega
  have u:((g:Int)==12)=false:=by rw[Nw];omega
  have y:((g:Int)==13)=false:=by rw[Nw];omega
  go_wp2;go_end0;exact gw d m rfl
def aeX (E:Env) (t:gO):je E 214 (λ_=>#[Bp E,iJ E t]) Qn uV:=by
 refine dI λf σ w R d HS H=>?_;unfold Qn at d;go_enter func214,ntmps214
 go_wp21
 refine(nN E [nG] _ (by decide)).mono ?_;rintro e w ⟨y,q,rfl,h,k⟩;replace H:=H.k0 k
 go_wp21
 refine(Ao H.rel).mono ?_;rintro e w ⟨z,r,rfl,i,g⟩;replace H:=H.k0 g;have C:=wL H.rel _ _ _ _ (h.k0 g) i;cases hc:σ.inScope (im [nG]) DO with
 |true=>
  rw[hc]at C;replace d:Hid (R=(ph>>=λ_=>(pure ():M Unit)) σ):=by
   have:=d;rw[gJ hc]at this;exact fV this
  go_wp21
  refine C.mono ?_;rintro e w ⟨rfl,j⟩;replace H:=H.k0 j
  go_wp21
  refine Be (λm=>yI H.rel m) H d HS lT ?_;rintro(_) σ w H p d;go_wp2;go_end0;exact gw d H rfl
 |false=>
  rw[hc]at C;replace d:Hid (R=(ky nG>>=λ_=>(do ph;return ():M Unit)) σ):=by
   have:=d;rw[gV (by simp[hc])]at this;exact fV this
  go_wp21
  refine C.mono ?_;rintro e w ⟨rfl,j⟩;replace H:=H.k0 j
  go_wp21
  refine dC (vo E (iO E) nG) H d HS rfl lT ?_;rintro(_) f σ w H u p d
  go_wp21
  refine Be (λm=>yI H.rel m) H d HS lT ?_;rintro(_) σ w H p d;go_wp2;go_end0;exact gw d H rfl
def Qo (E:Env):kF E 150 (λ_=>#[Bp E]) wI bV:=by
 refine mI λf σ w R d HS H=>?_;unfold wI at d;go_enter func150,ntmps150
 go_wp21
 refine(nN E [jb] _ (by decide)).mono ?_;rintro e w ⟨I,y,rfl,g,t⟩;replace H:=H.k0 t
 go_wp21
 refine(uS E _).mono ?_;rintro e w ⟨K,z,rfl,h,j⟩;replace H:=H.k0 j;replace g:=g.k0 j
 go_wp21
 refine(rN E _).mono ?_;rintro e w ⟨N,D,rfl,p,i⟩;replace H:=H.k0 i;replace g:=g.k0 i;replace h:=h.k0 i
 go_wp21
 refine(Ue E _ _ _ _ _ h p).mono ?_;rintro e w ⟨O,F,rfl,q,k⟩;replace H:=H.k0 k;replace g:=g.k0 k
 go_wp21
 refine(acI E _ _ _ q).mono ?_;rintro e w ⟨P,G,rfl,r,m⟩;replace H:=H.k0 m;replace g:=g.k0 m
 go_wp21
 refine Be (λ_=>zu H.rel g r) H d HS mT ?_;rintro(b) σ w H u d;cases b with
 |false=>
  replace d:Hid (R= .ok false σ):=d;go_wp2;go_ret;exact kh d H rfl
 |true=>
  replace d:Hid (R=(yu>>=λ_=>(pure true:M Bool)) σ):=d
  go_wp21
  refine Be (λ_=>VE H.rel) H d HS mT ?_;rintro(_) σ w H u d;go_wp2;go_ret;exact kh d H rfl
def UI:gz->Bool:=λs=>lB s&&!im [jW,nG] s
def vy (ks:List gz) (m:Nat) (t:gO):M Unit:=do
 vA (im ks)
 jv t
 jS m
 return ()
def tS (rec:Nat->gO->M Unit) (ks:List gz) (d:gz) (m:Nat) (t:gO):M Unit:=do
 vA (im ks)
 ky d
 jS m
 kZ rec t
 return ()
def GL (ks:List gz) (t:gO):M Unit:=do
 let _ <-nL (im ks) UI
 nE t
 return ()
def ym (rec:Nat->gO->M Unit) (b:M Bool) (t:gO):M Unit:=do
 let x <-b
 if x then (do kZ rec t;return ())else return ()
def D5 (b:M Bool):M Unit:=do
 let _ <-b
 return ()
def Ask.frA {bs : Nat} {p : gz->Bool} (h:Ask bm v p w) (d:Fr bs w w'):Ask bm v p w':=h.fr (d.n bm)
def abP (E:Env) (rec:Nat->gO->M Unit) (D:∀(m:Nat) (t:gO),ji E t->je E 171 (λ_=>#[Bp E,gh m,iJ E t]) (rec m t) uV) (t:gO) (F:ji E t) (m r u:Nat) (h:RF E f σ w) (q:rec m t σ≠ .stuck) (d:box w r (iF E.bB) 121) (g:box w u (gh m) 177):
  Calls prog 180 #[iJ E t,iF r,iF u] w (Leaves E f σ.nodes.length w (rec m t σ) uV):=by
 have j:=fV d;have k:=fV g;clear d g;obtain⟨R,p⟩:∃R,R=rec m t σ:=⟨_,rfl⟩;rw[<-p]at q|-;have HS:=q;have H:=fV (At.start h);have i:=fV (M.tail p);clear h q p;have y:=fW (box.fr j.out (H.out.fr.n E.bm) (by decide)) 0;have z:=fW (box.fr k.out (H.out.fr.n E.bm) (by decide)) 0;dsimp at y z;go_enter func180,ntmps180
 go_wp21
 refine dC (D m t F) H i HS rfl lT ?_;clear H i;rintro(_) f σ w H I G i;go_wp2;go_end0;exact gw i H rfl
def Hf (E:Env) (t:gO) (Q:ji E t) (ks:List gz) (m z D F:Nat) (k:Nat) (lb:jN) (h:RF E f σ w) (G:(vy ks m t) σ≠ .stuck) (j:box w z (iF E.bB) 121) (p:box w D (.func (.func k) #[] lb) 89) (P:Ask E.bm (.func (.func k) #[] lb) (im ks) w) (q:box w F (gh m) 177):
  Calls prog 224 #[iJ E t,iF z,iF D,iF F] w (Leaves E f σ.nodes.length w ((vy ks m t) σ) uV):=by
 have d:=fV j;clear j;have u:=fV p;clear p;have y:=fV q;clear q;have K:=P;obtain⟨R,r⟩:∃R,R=(vy ks m t) σ:=⟨_,rfl⟩;rw[<-r]at G|-;unfold vy at r;have HS:=G;have H:=fV (At.start h);have g:=fV r;clear r;have i:=fW (box.fr d.out (H.out.fr.n E.bm) (by decide)) 0;have N:=fW (box.fr u.out (H.out.fr.n E.bm) (by decide)) 0;dsimp at i N;go_enter func224,ntmps224
 go_wp21
 refine Be (λ_=>Fq H.rel (K.frA H.fr)) H g HS lT ?_;rintro(_) σ w H I g;have i:=fW (box.fr d.out (H.out.fr.n E.bm) (by decide)) 0;dsimp at i
 go_wp21
 refine dC (lz E (iO E) t Q) H g HS rfl lT ?_;rintro(_) f σ w H S I g;have i:=fW (box.fr d.out (H.out.fr.n E.bm) (by decide)) 0;have O:=fW (box.fr y.out (H.out.fr.n E.bm) (by decide)) 0;dsimp at i O;have U:=H.sB;have V:=H.free 192;have X:=H.lt;replace H:=fV (H.jh m);go_wp2;go_end0;exact gw g H rfl
def Ef (E:Env) (rec:Nat->gO->M Unit) (Z:∀(m:Nat) (t:gO),ji E t->je E 171 (λ_=>#[Bp E,gh m,iJ E t]) (rec m t) uV) (t:gO) (ht:ji E t) (ks:List gz) (d:gz) (m y K N O:Nat) (k:Nat) (lb:jN) (h:RF E f σ w) (Q:(tS rec ks d m t) σ≠ .stuck) (p:box w y (iF E.bB) 121) (q:box w K (.func (.func k) #[] lb) 89) (ha:Ask E.bm (.func (.func k) #[] lb) (im ks) w) (r:box w N (gH d) 9) (u:box w O (gh m) 177):
  Calls prog 226 #[iJ E t,iF y,iF K,iF N,iF O] w (Leaves E f σ.nodes.length w ((tS rec ks d m t) σ) uV):=by
 have g:=fV p;clear p;have D:=fV q;clear q;have F:=fV r;clear r;have G:=fV u;clear u;have U:=ha;obtain⟨R,z⟩:∃R,R=(tS rec ks d m t) σ:=⟨_,rfl⟩;rw[<-z]at Q|-;unfold tS at z;have HS:=Q;have H:=fV (At.start h);have i:=fV z;clear z;have j:=fW (box.fr g.out (H.out.fr.n E.bm) (by decide)) 0;have V:=fW (box.fr D.out (H.out.fr.n E.bm) (by decide)) 0;dsimp at j V;go_enter func226,ntmps226
 go_wp21
 refine Be (λ_=>Fq H.rel (U.frA H.fr)) H i HS lT ?_;rintro(_) σ w H I i;have j:=fW (box.fr g.out (H.out.fr.n E.bm) (by decide)) 0;have X:=fW (box.fr F.out (H.out.fr.n E.bm) (by decide)) 0;dsimp at j X
 go_wp21
 refine dC (vo E (iO E) d) H i HS rfl lT ?_;rintro(_) f σ w H S I i;have j:=fW (box.fr g.out (H.out.fr.n E.bm) (by decide)) 0;have Y:=fW (box.fr G.out (H.out.fr.n E.bm) (by decide)) 0;dsimp at j Y;have c4:=H.sB;have f4:=H.free 192;have hl:=H.lt;have a0:y≠E.bB:=by
  intro e;have P:w.heap[y]?=_:=box.fr g (H.fr.n E.bm) (by decide);have⟨L,_,hr⟩:=H.rel;have⟨C,hb⟩:=hr.U1;rw[e,hb]at P;simp at P
 replace H:=fV (H.jh m)
 go_wp21
 refine dC (ui E rec Z t ht) H i HS rfl lT ?_;rintro(_) f σ w H S I i;go_wp2;go_end0;exact gw i H rfl
def O4 (E:Env) (t:gO) (X:ji E t) (ks:List gz) (I K N:Nat) (P Q:Nat) (m p:jN) (h:RF E f σ w) (O:(GL ks t) σ≠ .stuck) (i:box w I (iF E.bB) 121) (j:box w K (.func (.func P) #[] m) 89) (F:Ask E.bm (.func (.func P) #[] m) (im ks) w) (k:box w N (.func (.func Q) #[] p) 89) (G:Ask E.bm (.func (.func Q) #[] p) UI w):
  Calls prog 281 #[iJ E t,iF I,iF K,iF N] w (Leaves E f σ.nodes.length w ((GL ks t) σ) uV):=by
 have g:=fV i;clear i;have y:=fV j;clear j;have z:=fV k;clear k;have r:=F;have u:=G;obtain⟨R,q⟩:∃R,R=(GL ks t) σ:=⟨_,rfl⟩;rw[<-q]at O|-;unfold GL at q;have HS:=O;have H:=fV (At.start h);have d:=fV q;clear q;have D:=fW (box.fr g.out (H.out.fr.n E.bm) (by decide)) 0;have U:=fW (box.fr y.out (H.out.fr.n E.bm) (by decide)) 0;have V:=fW (box.fr z.out (H.out.fr.n E.bm) (by decide)) 0;dsimp at D U V;go_enter func281,ntmps281
 go_wp21
 refine Be (λ_=>zu H.rel (r.frA H.fr) (u.frA H.fr)) H d HS lT ?_;rintro(_) σ w H S d;have D:=fW (box.fr g.out (H.out.fr.n E.bm) (by decide)) 0;dsimp at D
 go_wp21
 refine dC (wF E (iO E) t X) H d HS rfl lT ?_;rintro(_) f σ w H Y S d;go_wp2;go_end0;exact gw d H rfl
def acd (E:Env) (t:gO) (b:M Bool) (k:Nat) (y:kF E k (λ_=>#[Bp E]) b bV) (u:∀d w,(callFunc k d).run prog w= .ok (.enter k d) w) (p:Nat) (h:RF E f σ w) (q:(D5 b) σ≠ .stuck) (g:box w p (.func (.func k) #[iF E.bB] #[]) 69):
  Calls prog 232 #[iJ E t,iF p] w (Leaves E f σ.nodes.length w ((D5 b) σ) uV):=by
 have m:=fV g;clear g;obtain⟨R,i⟩:∃R,R=(D5 b) σ:=⟨_,rfl⟩;rw[<-i]at q|-;unfold D5 at i;have HS:=q;have H:=fV (At.start h);have j:=fV i;clear i;have r:=fW (box.fr m.out (H.out.fr.n E.bm) (by decide)) 0;dsimp at r;go_enter func232,ntmps232
 go_wp21
 refine mC (y) H j HS rfl lT ?_;rintro(_) σ w H z j;go_wp2;go_end0;exact gw j H rfl
def Oa (E:Env) (rec:Nat->gO->M Unit) (K:∀(m:Nat) (t:gO),ji E t->je E 171 (λ_=>#[Bp E,gh m,iJ E t]) (rec m t) uV) (t:gO) (P:ji E t) (b:M Bool) (k:Nat) (O:kF E k (λ_=>#[Bp E]) b bV) (N:∀g w,(callFunc k g).run prog w= .ok (.enter k g) w) (u y:Nat) (h:RF E f σ w) (z:(ym rec b t) σ≠ .stuck) (i:box w u (iF E.bB) 121) (j:box w y (.func (.func k) #[iF E.bB] #[]) 69):
  Calls prog 227 #[iJ E t,iF y,iF u] w (Leaves E f σ.nodes.length w ((ym rec b t) σ) uV):=by
 have q:=fV i;clear i;have r:=fV j;clear j;obtain⟨R,p⟩:∃R,R=(ym rec b t) σ:=⟨_,rfl⟩;rw[<-p]at z|-;unfold ym at p;have HS:=z;have H:=fV (At.start h);have d:=fV p;clear p;have G:=fW (box.fr r.out (H.out.fr.n E.bm) (by decide)) 0;dsimp at G;go_enter func227,ntmps227
 go_wp21
 refine mC (O) H d HS rfl lT ?_;rintro(F) σ w H D d;have I:=fW (box.fr q.out (H.out.fr.n E.bm) (by decide)) 0;dsimp at I;cases F with
 |true=>
  replace d:Hid (R=(kZ rec t>>=λ_=>(pure ():M Unit)) σ):=d
  go_wp21
  refine dC (ui E rec K t P) H d HS rfl lT ?_;rintro(_) f σ w H Q D d;go_wp2;go_end0;exact gw d H rfl
 |false=>
  replace d:Hid (R= .ok () σ):=d;go_wp2;go_end0;exact gw d H rfl
def Rel.aeK {E:Env} (h:Rel E L σ w) (s:gz) (p:Bool):Rel E L {σ with nJ:=s,iY:=p} ((w.setCell ⟨E.bR,E.FB,none⟩ (gH s)).setCell ⟨E.bR,E.FB+1,none⟩ (.bool p)):=by
 have q:Kept [E.bR] w ((w.setCell ⟨E.bR,E.FB,none⟩ (gH s)).setCell ⟨E.bR,E.FB+1,none⟩ (.bool p)):=((Kept.refl _ w).setCell (.inl (by simp)) _).setCell (.inl (by simp)) _;have g:KT E.bs [165] w ((w.setCell ⟨E.bR,E.FB,none⟩ (gH s)).setCell ⟨E.bR,E.FB+1,none⟩ (.bool p)):= .jQ q (λk q _=>by simp at q;subst q;exact⟨⟨_,_,_,h.rd,by simp⟩,h.bR⟩);obtain⟨C,t,d⟩:=h.iC;have r:=gm (gm h.rd E.FB (gH s)) (E.FB+1) (.bool p);have y:=h.RU;exact {h with
  fr:=h.fr.trans (g.fr (by decide))
  tL:=λi z u=>(h.tL i z u).kt g (by decide)
  inj:=h.inj,BT:=h.BT,GM:=h.GM,uq:=h.uq,Fk:=h.Fk
  wf:=⟨h.wf.gG,h.wf.act,h.wf.head,h.wf.form,h.wf.jl,h.wf.kids,h.wf.xX⟩
  iC:=⟨C,g.at t (by decide),⟨d.size,d.low,d.gG,d.act,d.head,d.form,d.mode,d.kept,d.wait,d.Js,d.jV,d.gS,d.behind⟩⟩
  pF:=g.row h.pF (by decide)
  qu:=g.row h.qu (by decide)
  GP:=h.GP,x9:=h.x9,Fp:=h.Fp
  pC:=g.row h.pC (by decide)
  bz:=h.bz,bB:=h.bB,bR:=h.bR,bN:=h.bN
  rd:=by
   rw[r]
   congr 2
   apply Array.ext_getElem?;intro i
   by_cases j:E.FB+1=i
   .subst j;rw[Pt (by simp;omega),Pt (by simp;omega)]
   .rw[Cx j,Cx j]
    by_cases m:E.FB=i
    .subst m;rw[Pt (by simp;omega),Pt (by omega)]
    .rw[Cx m,Cx j,Cx m,Cx m]
  tok:=g.row h.tok (by decide)
  Md:=h.Md,DH:=h.DH,ab:=h.ab,tb:=h.tb,Mf:=h.Mf}
theorem Rel.xm {E:Env} (h:Rel E L σ w):w.cell? ⟨E.bR,E.FB,none⟩=some (gH σ.nJ)/\w.cell? ⟨E.bR,E.FB+1,none⟩=some (.bool σ.iY)/\(∀j,w.frozen? ⟨E.bR,j,none⟩=false)/\E.bR < w.heap.size:=by
 have d:=h.RU;refine⟨?_,?_,λj=>gu h.rd j,iX h.rd⟩
 .rw[fW h.rd,Cx (by omega)]
  grind
 .rw[fW h.rd]
  grind
theorem WB (E:Env) (m:E.FB=7) (h:RF E f σ w) (s:gz) (p:Bool):
  Calls prog 55 #[gN E.bR,gH s,.bool p] w λe w'=>e=pE/\RF E f {σ with nJ:=s,iY:=p} w'/\Fr E.bs w w':=by
 obtain⟨L,rfl,d⟩:=h;have⟨c1,c2,fz,hl⟩:=d.xm;have j:=d.aeK s p;have i:Fr E.bs w ((w.setCell ⟨E.bR,E.FB,none⟩ (gH s)).setCell ⟨E.bR,E.FB+1,none⟩ (.bool p)):= .jQ (((Kept.refl [E.bR] w).setCell (.inl (by simp)) _).setCell (.inl (by simp)) _) (λk g=>by simp at g;subst g;exact⟨⟨_,_,_,d.rd,by decide⟩,d.bR⟩);rw[m]at c1 c2 j i;have q:=fz 7;have r:=fz 8;go_enter func55,ntmps55;go_wp2;go_end0
 grind[RF]
def At.c3 {E:Env} (h:At E f0 n0 w0 f σ w):w.cell? ⟨E.bB,3,none⟩=some (.func (.func 55) #[gN E.bR] #[]):=by
 obtain⟨L,rfl,d⟩:=h.rel;exact d.low (by decide) d.env.txt
def J3 (E:Env) (y:E.FB=7) (t:gO) (F:ji E t) (d:Bool):je E 185 (λ_=>#[Bp E,iJ E t,.bool d]) (oG t d) uV:=by
 refine dI λf σ w R j HS H=>?_;unfold oG at j;go_enter func185,ntmps185
 go_wp21
 refine dC (lz E (iO E) t F) H j HS rfl lT ?_;rintro(_) f σ w H K I j;have⟨ta,tb,tao,tn,tcp,HTG⟩:=EU E t H.rel;have u:=λw=>Br ta tb t.name tao tn tcp w;have r:=H.c3;have z:=H.lt;have k:=r
 go_wp21
 go_region_with (first
  |(go_at_call 177;refine(HTG _).mono ?_;rintro e G ⟨rfl,i⟩;have h:=fV (((Kept.refl [] w).drew).trans i);have P:G.cell? ⟨E.bB,3,none⟩=_:=(h.cell (p:=⟨E.bB,3,none⟩) z (by simp)).trans k;clear i)
  |(go_at_call 55;refine(WB E y (H.k0 h).rel t.name d).mono ?_;rintro e U ⟨rfl,m,q⟩;have g:=fV ((H.k0 h).to m (sZ _ _ rfl) q);clear m q))
 all_goals
  have N:=g.sB;have Q:=g.free 192;have O:=g.Td;have S:=g.free 193;have D:=g.lt;replace g:=(g.y7 σ.mode).jh 5;go_wp2;go_end0;exact gw j g rfl
def Hd (E:Env) (g:E.FB=7) (t:gO) (h:ji E t):je E 111 (λ_=>#[Bp E,iJ E t]) (vc t) uV:=by
 refine dI λf σ w R d HS H=>?_;unfold vc at d;go_enter func111,ntmps111
 go_wp21
 refine dC (J3 E g t h false) H d HS rfl lT ?_;rintro(_) f σ w H j i d;go_wp2;go_end0;exact gw d H rfl
def FY (E:Env) (g:E.FB=7) (t:gO) (h:ji E t):je E 112 (λ_=>#[Bp E,iJ E t]) (pB t) uV:=by
 refine dI λf σ w R d HS H=>?_;unfold pB at d;go_enter func112,ntmps112
 go_wp21
 refine dC (J3 E g t h true) H d HS rfl lT ?_;rintro(_) f σ w H j i d;go_wp2;go_end0;exact gw d H rfl
def Ic (E:Env) (g:E.FB=7) (t:gO) (h:ji E t):je E 201 (λ_=>#[Bp E,iJ E t]) (qt t) uV:=by
 refine dI λf σ w R d HS H=>?_;unfold qt at d;go_enter func201,ntmps201
 go_wp21
 refine dC (Hd E g t h) H d HS rfl lT ?_;rintro(_) f σ w H j i d;have k:=H.Y4;have m:=H.free 198;have p:=H.lt;replace H:=H.th true;go_wp2;go_end0;exact gw d H rfl
def aam {E:Env} (h:RF E f σ w) (x:jk) (d:kL x σ≠ .stuck):
  Calls prog 187 #[jO E.bB 188,oV f x] w λe w'=>e=pE/\kL x σ= .ok () {σ with gG:=σ.gG.erase x}/\RF E f {σ with gG:=σ.gG.erase x} w'/\Fr E.bs w w':=by
 have:=EA E x f σ w h d;unfold kL at this d|-
 by_cases g:σ.hH x=true
 .rw[gJ g]at this|-;exact this.mono (λe w' h=>⟨h.1,rfl,h.2.1,h.2.2.1⟩)
 .rw[gV g]at d;exact absurd rfl d
def NT (E:Env) (rec:Nat->gO->M Unit) (z:∀(m:Nat) (t:gO),ji E t->je E 171 (λ_=>#[Bp E,gh m,iJ E t]) (rec m t) uV) (t:gO) (G:ji E t):je E 116 (λ_=>#[Bp E,iJ E t]) (uC rec t) uV:=by
 refine dI λf σ w R d HS H=>?_;unfold uC at d;go_enter func116,ntmps116;have y:=H.WH;have D:=H.lt
 go_wp21
 refine Be (λF=>(show Calls prog 186 #[Bp E,oV f σ.head] w (kE E f σ.nodes.length w (pushHead σ) uV)from OP E σ.head f σ w H.rel F)) H d HS lT ?_;rintro(_) σ w H q d
 go_wp21
 refine dC (z 3 t G) H d HS rfl lT ?_;rintro(_) f σ w H I q d;have y:=H.WH;have D:=H.lt;have h:kL σ.head σ≠ .stuck:=by
  intro i;apply HS;rw[d.out,M.gE];unfold pT;rw[i]
 have g:=aam (H.k0 ((Kept.refl _ w).drew)).rel σ.head h
 go_wp21
 go_region_with (go_at_call 187;refine g.mono ?_;rintro e K ⟨rfl,j,k,p⟩;have u:=fV ((H.k0 ((Kept.refl _ w).drew)).to k (sZ _ _ rfl) p);have r:=fV j;clear j k p)
 all_goals
  go_wp2;go_end0;refine gw (σ:={σ with gG:=σ.gG.erase σ.head}) (a:=()) ?_ u rfl;rw[d.out,M.gE];unfold pT;rw[r.out];rfl
def Ql (E:Env) (i:Nat) (h:RF E f σ w) (z:iE σ.gG 0=some i) (y:jC i σ≠ .stuck):Calls prog 154 #[Bp E] w (kE E f σ.nodes.length w (jC i σ) pV):=by
 obtain⟨R,t⟩:∃R,R=jC i σ:=⟨_,rfl⟩;have m:=(h.io ((Kept.refl _ w).alloc SV)).atO 0;rw[z]at m;have q:=(show Calls prog 248 #[jO E.bB 188,gh 0] (w.alloc SV) (λe w'=>e=iw (gN (f i))/\w'=w.alloc SV)from m);rw[<-t]at y|-;have HS:=y;have H:=(At.start h).k0 ((Kept.refl _ w).alloc SV);have r:=fV (M.tail t);have N:=fX w SV;have Q:=h.lt;clear h y t z m;go_enter func154,ntmps154
 go_wp21
 refine q.mono ?_;rintro e w' ⟨rfl,rfl⟩
 go_wp21
 refine kF.call (Gx E i) H r HS rfl ?_ ?_
 .intro c p j X g I K;have G:=fV g;clear g;go_wp2;exact⟨rfl,uQ G I K⟩
 rintro k S V g D F;have d:=D.cell N (by decide);have O:=fW d 0;have P:=fW d 1;have f0:=gu d 0;have U:=gu d 1;dsimp at O P;replace H:=((g.side d (by decide) (gW _) 0 (gN (f k.1))).side (gm d 0 _) (by decide) (gW _) 1 (gh k.2));replace r:=fV F;have u:=fV (gm (gm d 0 (gN (f k.1))) 1 (gh k.2));clear g D F;go_wp2;refine oR (v:=pV f k) ?_ rfl (kh r H rfl);simp[results,results154,asAddr,Result.andThen,go_sem,fW u.out]
def O2 (t:gO) (σ:Ab):rS t σ=(vy [il] 13 t>>=λ_=>(do lK none;return ():M Unit)) σ:=by
 unfold rS vy;rw[M.gE,M.gE,M.gE];cases vA (im [il]) σ with
 |ok a σ1=>
  simp only;rw[M.gE,M.gE];cases jv t σ1 with
  |ok a σ2=>rfl
  |stop c p=>rfl
  |stuck=>rfl
 |stop c p=>rfl
 |stuck=>rfl
def R6 (E:Env) (t:gO) (O:ji E t):je E 143 (λ_=>#[Bp E,iJ E t]) (rS t) uV:=by
 intro f σ w h HS;obtain⟨R,g⟩:∃R,R=rS t σ:=⟨_,rfl⟩;rw[<-g]at HS|-;rw[O2]at g;have H:=At.start h;have d:=fV g;have I:=Go.Proofs.enters_of func224 (by rfl) rfl;clear g;go_enter func143,ntmps143
 go_wp21
 refine(VF E _).mono ?_;rintro e w ⟨U,Q,rfl,i,p⟩;replace H:=H.k0 p
 go_wp21
 refine(BW E.bm E.bB 0 [il] 13 _ _ i).mono ?_;rintro e w ⟨⟨v,rfl,D,F,G,u,rfl,j,k,r,m⟩,K⟩;obtain⟨P,q,rfl,_,_⟩:=r.call;replace H:=H.k0 K;have y:=(λN=>Hf E t O [il] 13 D F G P q H.rel N j k r m)
 go_wp21
 refine dcH (y) H d HS lT ?_;rintro(_) f σ w H S z d
 go_wp21
 refine mC (AQ E) H d HS rfl lT ?_;rintro(_) σ w H z d;go_wp2;go_end0;exact gw d H rfl
def ae9:(prog.info? 125).map (λi=>(i.zero,i.size,i.bytes))=some (some .nilIface,1,16):=by kernel_rfl
theorem Rel.agF {E:Env} (h:Rel E L σ w) {C : jN} (p:jD E L σ C) (v':gQ) (k:List (Nat×Nat×gz)) (g:w'.heap[E.bB]?=some (gL (C.setIfInBounds 194 v') 180)) (d:KT E.bs [180,125] w w') (j:w'.ownsRow E.bs 125 1 v' k.length (k.map NZ)) (m:k.length<=4096) (r:E.wv=none):Rel E {L with wv:=v'} {σ with waiting:=k} w':=
 {fr:=h.fr.trans (d.fr (by decide))
  env:=h.env
  vM:=h.vM
  tL:=λi t q=>((h.tL i t q).kt d (by decide)).loc rfl rfl rfl
  inj:=h.inj,BT:=h.BT,GM:=h.GM,uq:=h.uq,Fk:=h.Fk
  wf:=⟨h.wf.gG,h.wf.act,h.wf.head,h.wf.form,h.wf.jl,h.wf.kids,h.wf.xX⟩
  iC:=⟨_,g,p.aaW v' k⟩
  pF:=d.row h.pF (by decide)
  qu:=d.row h.qu (by decide)
  GP:=h.GP,x9:=h.x9,Fp:=h.Fp
  pC:=j
  Mg:=m
  rd:=d.at h.rd (by decide)
  RU:=h.RU
  tok:=d.row h.tok (by decide)
  Md:=h.Md,bz:=h.bz,bB:=h.bB,bR:=h.bR,bN:=h.bN,DH:=h.DH,ab:=h.ab,tb:=h.tb,Mf:=λv u=>by grind}
theorem TV (E:Env) (X:E.wv=none) (t:gO):je E 136 (λ_=>#[Bp E,iJ E t]) (pr t) uV:=by
 intro f σ w h z;have⟨a,b,k,gM⟩:=t;cases k with
 |jM s=>
  have F:=JH E ⟨a,b,.jM s,gM⟩ w;cases hn:tU s with
  |true=>
   have V:pr ⟨a,b,.jM s,gM⟩ σ= .ok () σ:=by unfold pr;simp only;rw[hn];rfl
   rw[V];have j:tU (gO.chars ⟨a,b,.jM s,gM⟩)=true:=hn;rw[j]at F;have H:=At.start h;clear j;go_enter func136,ntmps136
   go_wp21
   refine F.mono ?_;rintro e w ⟨rfl,g⟩;replace H:=H.k0 g;go_wp2;go_end0;exact gw rfl H rfl
  |false=>
   have O:σ.waiting.length < 4096:=by
    by_cases hl:σ.waiting.length < 4096
    .exact hl
    .exfalso;apply z;unfold pr;simp_all
   have V:pr ⟨a,b,.jM s,gM⟩ σ= .ok () {σ with waiting:=σ.waiting++[(a,b,s)]}:=by unfold pr;simp only;rw[hn];simp[O]
   rw[V];have j:tU (gO.chars ⟨a,b,.jM s,gM⟩)=false:=hn;rw[j]at F;obtain⟨L,rfl,HR⟩:=h;clear j;rw[show iJ E ⟨a,b,.jM s,gM⟩= .iface 188 (.agg #[gh a,gh b,gH s])from rfl]at F|-;go_enter func136,ntmps136
   go_wp21
   refine F.mono ?_;rintro e w0 ⟨rfl,g⟩;have p:=HR.io g;have HF:=Fr.gU (bs:=E.bs) g;have c1:=p.abU;have a3:=p.lt;have⟨C,HBB,j⟩:=p.iC;obtain⟨i0,hi,Y,Z,a0⟩:=ux ae9;have⟨ao,cap,hwv⟩:=gF p.pC;rw[hwv]at c1;have I:Kept [] w0 (w0.alloc (gL #[NZ (a,b,s)] 125)):=(Kept.refl _ _).alloc _;have HO:=I.ownsRow p.pC (λ_ _=>by simp);rw[hwv]at HO;have r:(Value.slice ao σ.waiting.length cap).ownBlock≠some E.bB:=by rw[<-hwv];exact Dt p.pC HBB (by decide)
   have U:=fV (fX w0 (gL #[NZ (a,b,s)] 125));have i:=fV p;have G:=fV j;have K:=fV hwv;clear p j hwv;go_wp2_with (at_builtin;refine iA _ rfl _ _ 178 rfl E.bs 125 i0 .nilIface 1 16 underlying178 hi Y Z a0 rfl (by decide) (.slice ao σ.waiting.length cap) σ.waiting.length (σ.waiting.map NZ) rfl HO ⟨w0.heap.size,0,none⟩ 1 1 [NZ (a,b,s)] rfl rfl (λk u R=>by rw[jg,fW U.out,<-R];simp) (λu R=>by simp at R;subst R;rfl) (by unfold maxLen;omega) (by omega) (by have h7:=i.bz;have h8:=i.fr.size;simp;omega) ?_);intro v' Q d y a1;have K2:Kept (Value.slice ao σ.waiting.length cap).ownBlock.toList w0 Q:=(I.mono (by simp)).grown y (λk g=> .inl (by rw[g];simp));have N:Q.heap[E.bB]?=some (gL C 180):=K2.at HBB (by simpa using r);have⟨ao',cap',hv⟩:=gF d;subst hv;have d1:Q.cell? ⟨E.bB,194,none⟩=some (.slice ao σ.waiting.length cap):=by rw[fW N,G.out.wait,K.out]
   have d2:=gu N 194;have a2:=iX N;have h3:=gm N 194 (.slice ao' (σ.waiting.length+1) cap');have P:(Value.slice ao' (σ.waiting.length+1) cap').ownBlock≠some E.bB:=Dt d N (by decide);have h4:=zk (a:=⟨E.bB,194,none⟩) d P (.slice ao' (σ.waiting.length+1) cap');have h5:Kept (E.bB::(Value.slice ao σ.waiting.length cap).ownBlock.toList) w0 (Q.setCell ⟨E.bB,194,none⟩ (.slice ao' (σ.waiting.length+1) cap')):=(K2.mono (λk g _=>si _ g)).setCell (.inl (by simp)) _;have kt:KT E.bs [180,125] w0 (Q.setCell ⟨E.bB,194,none⟩ (.slice ao' (σ.waiting.length+1) cap')):= .jQ h5 (λk g _=>by
    rcases List.mem_cons.1 g with rfl|g
    .exact⟨⟨_,_,_,HBB,by simp⟩,i.bB⟩
    .have D:=i.pC;rw[K.out]at D;obtain⟨c,m,hc⟩:=sR D (by simpa using g);exact⟨⟨_,_,_,hc,by simp⟩,(D.lt k (by simpa using g)).1⟩)
   have HZ:=i.agF G (.slice ao' (σ.waiting.length+1) cap') (σ.waiting++[(a,b,s)]) h3 kt (by simpa using h4) (by simp;omega) X;have S:=HF.trans (kt.fr (by decide));go_wp2;go_end0;exact⟨L.gS,λ_ _=>rfl,gW _,rfl,⟨{L with wv:= .slice ao' (σ.waiting.length+1) cap'},rfl,HZ⟩,S⟩
 |start s=>exact absurd rfl z
 |stop s=>exact absurd rfl z
 |gR s=>exact absurd rfl z
 |iy s q=>exact absurd rfl z
 |lost=>exact absurd rfl z
 |iR=>exact absurd rfl z
def Mk {α:Type} (n:Nat) (P:Program) (g:Nat) (lb:jN) (h:α->jN) (Kp:gx->gx->Prop) (S Sp:List α->Prop) (N:Nat) (w:gx):Prop:=
 ∀(l:Nat) (J i:List α->gx->Prop) (W:gx),Below w.heap.size w W->OwnFrom W.heap.size J->OwnFrom W.heap.size i->
  (∀pre x d,J pre d->pre.length < N->YieldAt Fence.wide (n - 1) P l (h x) d λe W'=>(e=iw (.bool true)/\J (pre++[x]) W'/\Kp d W'/\KeepsFrom W.heap.size d W')\/(e=iw (.bool false)/\i (pre++[x]) W'/\KeepsFrom W.heap.size d W'))->
  J [] W->CallsIn Fence.wide n P g (#[.func (.yield l) #[] #[]]++lb) W λe W'=>(∃v,e=iw v)/\((∃xs,S xs/\J xs W')\/(∃pre,Sp pre/\i pre W'))
theorem J4 {d : jk} {vM k : Nat} (g:A.grownBy B d) (j:∀r,d=some r->vM<=r/\∃o:Obj,A.heap[r]?=some o/\o.isCells=false) (h:A.heap[k]?=some o) (i:k < vM):B.heap[k]?=some o:=
 (g.block k (Array.getElem?_eq_some_iff.1 h).1 (λe=>by grind)).trans h
theorem vr {d : gx} {j : Obj} (p:l < b) (h:KeepsFrom (l - 1) (W.putObj l o) d):KeepsFrom b W (d.putObj l j):=by
 refine⟨?_,λk q m i g=>?_⟩
 .have:=h.size
  simp_all
 .rw[qC (by omega)];exact h.same k q (by omega) ((qC (by omega)).trans i) g
theorem SC {α:Type} {P:Program} {g:Operand} {ps:Array Tmp} {Q:Exit->Act->gx->Prop}
  (h1:1<=n) {gf : Nat} (hg:a.eval g= .func (.func gf) #[] lb) (eg:∀X w,(callFunc gf X).run P w= .ok (.enter gf X) w)
  {q:α->jN} {Kp : gx->gx->Prop} {S Sp:List α->Prop} {N : Nat} (a7:Mk (n - 1) P gf lb q Kp S Sp N w0)
  (a4:∀{A B C:gx},Kp A B->Kp B C->Kp A C) (a2:∀(W:gx) (l:Nat) (o o':Obj),w.heap.size<=l->W.heap[l]?=some o->o.isCells=false->o.isWalk=false->Kp W (W.putObj l o')) (a5:Below w0.heap.size w0 w) (aj:∀x,(q x).size=ps.size)
  (I:List α->gx->Prop) (Ix:Code->List α->gx->Prop) (hI:OwnFrom w.heap.size I) (O:∀c,OwnFrom w.heap.size (Ix c)) (h0:I [] w) (Y:α->Act)
  (R:∀(l:Nat) (x:α) (W:gx) (K:Act->gx->Prop),K (Y x) W->assign.wpIn (Fence.wide.inRound l) (n - 1 - 1) P (Exit.then K (λ_ _ _=>False)) {tmps:=(ps.zip (q x)).foldl (λt (p,v)=>t.setIfInBounds p v) a.tmps,defers:=[]} W)
  (Z:∀(l:Nat) (pre:List α) (x:α) (W:gx),I pre W->pre.length < N->body.wpIn (Fence.wide.inRound l) (n - 1 - 1) P (ownPostG w.heap.size Kp I Ix (pre++[x]) W) (Y x) W)
  (a0:∀(D:Nat) (xs:List α) (W:gx),w.heap.size<=D->S xs->I xs W->W.heap[D]?=some (.deferred (some []))->Q .normal {a with defers:={target:= .collected D,args:=#[]}::a.defers} W)
  (a1:∀(D:Nat) (c:Code) (pre:List α) (W:gx),w.heap.size<=D->Sp pre->Ix c pre W->W.heap[D]?=some (.deferred (some []))->c.wpIn Fence.wide n P Q {a with defers:={target:= .collected D,args:=#[]}::a.defers} W):
  (Code.rangeFunc g ps assign body).wpIn Fence.wide n P Q a w:=by
 refine Pr ?_;intro fn ad;obtain⟨h,i⟩:∃h:LoopState->Option Code->Loop,h=λst pe=>{state:=st,pending:=pe,fn,tmps:=a.tmps,params:=ps,assign,body,defers:=w.heap.size}:=⟨_,rfl⟩;obtain⟨F,u⟩:∃F,(w.alloc (.deferred (some []))).alloc (.loop (h .ready none))=F:=⟨_,rfl⟩;have ak:F.heap.size=w.heap.size+2:=by rw[<-u];simp
 have aa:F.heap[w.heap.size+1]?=some (.loop (h .ready none)):=by
  rw[<-u];have:=BB (w.alloc (.deferred (some []))) (.loop (h .ready none));rwa [xJ]at this
 have a9:F.heap[w.heap.size]?=some (.deferred (some [])):=by
  rw[<-u];exact(Below.heap_alloc _ _ _ (by simp)).trans (BB w _)
 have a8:I [] F:=by rw[<-u];exact hI.alloc _ (hI.alloc _ h0)
 have ac:Below w0.heap.size w0 F:=by
  rw[<-u];exact a5.trans ((((Below.refl _ w).alloc (gW _) _).alloc (by simp) _).mono a5.size)
 refine⟨w.heap.size+1,[{target:= .collected w.heap.size,args:=#[]}],F,{target:= .fn (.func gf) lb,args:=#[.func (.yield (w.heap.size+1)) #[] #[]]},F,gf,
  #[.func (.yield (w.heap.size+1)) #[] #[]]++lb,F,?_,?_,?_,?_,λ_=>h1,?_⟩
 .rw[<-u,i];exact Ps _ _ _ _ _
 .simp only[resolve,hg];simp[go_sem]
 .intro f' ai;trivial
 .simp[invoke,go_sem,eg]
 have lo:∀{A B:gx} {z:jk},(∀r,z=some r->F.heap.size<=r/\∃o:Obj,A.heap[r]?=some o/\o.isCells=false)->(∀r,z=some r->w.heap.size<=r/\∃o:Obj,A.heap[r]?=some o/\o.isCells=false):=
  λk r e=>⟨by grind,(k r e).2⟩
 refine(a7 (w.heap.size+1)
  (λpre W=>I pre W/\W.heap[w.heap.size+1]?=some (.loop (h .ready none))/\W.heap[w.heap.size]?=some (.deferred (some [])))
  (λpre W=>∃c,Ix c pre W/\W.heap[w.heap.size+1]?=some (.loop (h .done (some c)))/\W.heap[w.heap.size]?=some (.deferred (some [])))
  F ac
  (λs A B z hs m k=>⟨hI s A B z hs.1 m (lo (B:=B) k),J4 m k hs.2.1 (by omega),J4 m k hs.2.2 (by omega)⟩)
  (λs A B z hs m k=>by
   have⟨c,hc,y,hk⟩:=hs;exact⟨c,O c s A B z hc m (lo (B:=B) k),J4 m k y (by omega),J4 m k hk (by omega)⟩)
  ?_ ⟨a8,aa,a9⟩).mono ?_
 .rintro pre x W ⟨hi,y,hk⟩ a6;have ag:w.heap.size+1 < W.heap.size:=(Array.getElem?_eq_some_iff.1 y).1;have hy:=run_yield (P:=P) (args:=q x) y (by grind);rw[i]at hy;refine⟨fn,_,assign,body,hy,roundIn_of_wpIn ad (R _ x W _ ?_)⟩;refine⟨_,run_beginRound y (by rw[i]),?_⟩;have af:(W.putObj (w.heap.size+1) (.loop {h .ready none with state:= .busy})).heap[w.heap.size+1]?=some (.loop {h .ready none with state:= .busy}):=F7 ag;have ae:(W.putObj (w.heap.size+1) (.loop {h .ready none with state:= .busy})).heap[w.heap.size]?=some (.deferred (some [])):=(qC (by omega)).trans hk;have ah:Kp W (W.putObj (w.heap.size+1) (.loop {h .ready none with state:= .busy})):=a2 _ _ _ _ (by omega) y rfl rfl;refine yx (Z _ pre x _ (hI.putObj _ hi (by omega) y rfl) a6) ?_;have V:∀(d:Option Code) (G:gx),KeepsFrom w.heap.size (W.putObj (w.heap.size+1) (.loop {h .ready none with state:= .busy})) G->
    (Instr.endRound (w.heap.size+1) d).run P G= .ok (.bool d.isNone) (G.putObj (w.heap.size+1) (.loop (h (if d.isNone then .ready else .done) d)))/\
    G.heap[w.heap.size+1]?=some (.loop {h .ready none with state:= .busy})/\
    (G.putObj (w.heap.size+1) (.loop (h (if d.isNone then .ready else .done) d))).heap[w.heap.size+1]?=some (.loop (h (if d.isNone then .ready else .done) d))/\
    (G.putObj (w.heap.size+1) (.loop (h (if d.isNone then .ready else .done) d))).heap[w.heap.size]?=some (.deferred (some [])):=λd G U=>by
   have j:=U.same _ _ (by omega) af rfl;have:=run_endRound (P:=P) d j;rw[i]at this|-;exact⟨this,by grind,F7 (Array.getElem?_eq_some_iff.1 j).1,(qC (by omega)).trans (U.same _ _ (gW _) ae rfl)⟩
  rintro e a3 G H;cases e with
  |normal=>
   have⟨U,hkp3,hi3⟩:=H;have⟨k,j,hl4,hk4⟩:=V none G U;exact⟨_,_,k,.inl ⟨rfl,⟨hI.putObj _ hi3 (by omega) j rfl,hl4,hk4⟩,a4 (a4 ah hkp3) (a2 _ _ _ _ (by omega) j rfl rfl),vr (by omega) U⟩⟩
  |ret=>
   have⟨k,j,hl4,hk4⟩:=V (some .ret) G H.1;exact⟨_,_,k,.inr ⟨rfl,⟨.ret,(O _).putObj _ H.2 (by omega) j rfl,hl4,hk4⟩,vr (by omega) H.1⟩⟩
  |exit id=>
   have⟨k,j,hl4,hk4⟩:=V (some (.exit id)) G H.1;exact⟨_,_,k,.inr ⟨rfl,⟨.exit id,(O _).putObj _ H.2 (by omega) j rfl,hl4,hk4⟩,vr (by omega) H.1⟩⟩
  |goto t=>
   have⟨k,j,hl4,hk4⟩:=V (some (.goto t)) G H.1;exact⟨_,_,k,.inr ⟨rfl,⟨.goto t,(O _).putObj _ H.2 (by omega) j rfl,hl4,hk4⟩,vr (by omega) H.1⟩⟩
  |panic ch=>exact H.elim
  |outgrown=>exact H.elim
 .rintro e W2 ⟨⟨v,rfl⟩,(⟨xs,hS,hi,y,hk⟩|⟨pre,ab,c,hi,y,hk⟩)⟩
  .exact⟨none,_,by have:=F8 (P:=P) y (by rw[i];simp);rw[i]at this;exact this,a0 _ xs _ (gW _) hS (hI.putObj _ hi (by omega) y rfl) ((qC (by omega)).trans hk)⟩
  .exact⟨some c,_,by have:=F8 (P:=P) y (by rw[i];simp);rw[i]at this;exact this,a1 _ c pre _ (gW _) ab ((O c).putObj _ hi (by omega) y rfl) ((qC (by omega)).trans hk)⟩
section
attribute [local go_sem] Oper.semAt_some
attribute [local go_sem] qA
attribute [local simp] qA
def AU:kV->List Nat
 |[]=>[]
 |none::_=>[]
 |some i::r=>i::AU r
def KC (T:List Nat) (W W':gx):Prop:=W.heap.size<=W'.heap.size/\∀(k:Nat) (c:jN) (t:TypeId) (m:Nat×Nat),k∉T->W.heap[k]?=some (.cells c t m)->W'.heap[k]?=some (.cells c t m)
def KC.trans (h:KC T A B) (k:KC T B C):KC T A C:=⟨j7 h.1 k.1,λi c t m d g=>k.2 i c t m d (h.2 i c t m d g)⟩
def KC.put (W:gx) (l:Nat) (o i:Obj) (d:W.heap[l]?=some o) (h:o.isCells=false):KC T W (W.putObj l i):=
 ⟨by simp,λk c t m _ g=>(qC (λe=>by subst e;rw[g]at d;cases d;cases h)).trans g⟩
def XU {m k j : Nat} {P:Program} {f:FuncId} {g : jN} {R : Ending->gx->Prop} (h:RoundIn Fence.wide m P l f g assign body w R):RoundIn (Fence.wide.inRound j) k P l f g assign body w R:=⟨h.1,λc i _=>h.2 c i (λd h=>by cases h)⟩
def U6 {ys : kV}:∀{d:List Nat},d.map some <+:ys->d <+:AU ys
 |[],_=>List.nil_prefix
 |p::d,h=>by
  have⟨r,hr⟩:=h;subst hr;show p::d <+:p::AU (d.map some++r);exact(List.prefix_cons_inj p).2 (U6 ⟨r,rfl⟩)
def U3:∀{d:List Nat},AU (d.map some)=d
 |[]=>rfl
 |p::d=>by show p::AU (d.map some)=_;rw[U3]
def PU {r : kV}:∀{d:List Nat},AU (d.map some++none::r)=d
 |[]=>rfl
 |p::d=>by show p::AU (d.map some++none::r)=_;rw[PU]
theorem YW (m:Nat) (hm:5<=m) (base y:Nat) (tB:TypeId) (C:jN) (v:gQ) (xs:kV) (s:Nat) (T:List Nat) (w:gx) (h:xR base y 189 tB C v xs w)
  (hs:w.heap[s]?=some (gL #[gN y] 121)) (hT:∀k∈T,k≠y/\v.ownBlock≠some k/\k < w.heap.size):
  Mk m prog 352 #[gN s] (λx:{x:Nat // some x∈xs}=>#[kI (some x.1)]) (KC T) (λys=>ys.map (·.1)=AU xs.reverse) (λpre=>pre.map (·.1) <+:AU xs.reverse) xs.length w:=by
 intro l J Jx W hB HJ a3 HY H0;have a7:=iX h.iC;have L1:xR base y 189 tB C v xs W:=by
  refine h.FG (K:=y::v.ownBlock.toList) (λk d=>hB.block k ?_) (by simp) (λk d=>by simp[d]);rcases List.mem_cons.1 d with rfl|d
  .exact a7
  .exact(h.row.lt k (by grind)).2
 have al:=iX hs;have aa:=(hB.block s al).trans hs;have a9:w.heap.size<=W.heap.size:=hB.size;have aj:y < W.heap.size:=mi a7 a9;obtain⟨q,H⟩:∃q,q=W.alloc (gL #[.func (.yield l) #[] #[]] 289):=⟨_,rfl⟩;have a4:Kept [] W q:=by rw[H];exact(Kept.refl [] W).alloc _
 have ad:q.heap[W.heap.size]?=some (gL #[.func (.yield l) #[] #[]] 289):=by rw[H];exact fX W _
 have z1:q.heap.size=W.heap.size+1:=by rw[H];simp
 have HL:xR base y 189 tB C v xs q:=L1.FG (kP.jQ (K:=y::v.ownBlock.toList) a4 (λk d=>⟨by
  rcases List.mem_cons.1 d with rfl|d
  .exact aj
  .exact(L1.row.lt k (by grind)).2,by simp⟩)) (by simp) (λk d=>by simp[d])
 have c1:(W.alloc (gL #[.func (.yield l) #[] #[]] 289)).cell? ⟨s,0,none⟩=some (gN y):=by rw[<-H,fW (a4.at aa (by simp))];rfl
 have HU:=Xu base y 189 tB C v xs q HL;refine xD func352 rfl trivial ?_ rfl;simp only[ntmps352,yf,uk,xI,Nat.reduceAdd,Nat.reduceSub,yg,yh,yi,yj,sg,wo];have HW:=fV H.symm;have HZ:=fV z1;have HT:=hT;clear H z1 L1 aa h hB hs
 gi_wp2_with fail
 rw[HW.out];refine⟨λ_=>by omega,(callsIn_wide.2 HU).mono ?_⟩;rintro e w' ⟨rfl,rfl⟩;gi_wp2;have ag:=HL;obtain⟨z,U⟩:∃z,z=mX y 189 (xs.length:Int) q:=⟨_,rfl⟩;have k2:Kept [] q z:=by rw[U];exact((Kept.refl _ _).alloc _).alloc _
 have am:z.heap.size=q.heap.size+2:=by rw[U];simp
 have R:xR base y 189 tB C v xs z:=HL.FG (kP.jQ (K:=y::v.ownBlock.toList) k2 (λk d=>⟨by
  rcases List.mem_cons.1 d with rfl|d
  .grind
  .exact(HL.row.lt k (by simpa using d)).2,by simp⟩)) (by simp) (λk d=>by simp[d])
 have⟨b0,b1⟩:=(⟨(Below.heap_alloc _ _ _ (by simp)).trans (fX q _),by
   have:=fX (q.alloc (gL #[jO y 189] 280)) (gL #[gh xs.length] 3)
   simp_all⟩:(mX y 189 (xs.length:Int) q).heap[q.heap.size]?=some (gL #[jO y 189] 280)/\(mX y 189 (xs.length:Int) q).heap[q.heap.size+1]?=some (gL #[gh xs.length] 3))
 rw[<-U]at b0 b1|-;have ap:=HZ.out;have gY:=k2.at ad (by simp);obtain⟨K,Q⟩:∃K,K=y::q.heap.size::v.ownBlock.toList:=⟨_,rfl⟩;have a6:∀k∈K,k < z.heap.size/\k∉T/\∃c t m,z.heap[k]?=some (.cells c t m):=by
  intro k d;rw[Q]at d;rcases List.mem_cons.1 d with rfl|d
  .exact⟨iX R.iC,λe=>(HT _ e).1 rfl,_,_,_,R.iC⟩
  .rcases List.mem_cons.1 d with rfl|d
   .grind
   .have ak:v.ownBlock=some k:=by simpa using d
    have⟨c,m',hc⟩:=sR R.row ak
    grind
 have an:=Sx (m - 1) (by omega) base y 189 tB C v xs xs.length q.heap.size K z R (gW _) (by rw[Q];simp) (by rw[Q];simp) (by grind) (by omega) b1 b0;have au:∀k∈T,k < W.heap.size:=λk d=>mi (HT k d).2.2 a9;have X:=fV a6;have a1:=(show z.heap.size=W.heap.size+1+2 by omega);have ar:J [] z:=by
  have O:J [] q:=HJ [] W q none H0 (by rw[<-HW.out];exact World.grownBy_alloc W _ none) (λr e=>by cases e);rw[U];refine HJ [] (q.alloc _) _ none ?_ (World.grownBy_alloc _ _ none) (λr e=>by cases e);exact HJ [] q _ none O (World.grownBy_alloc _ _ none) (λr e=>by cases e)
 clear Q b0 b1 HU HL ag R k2 U a6 c1 am ap;obtain⟨I,hI⟩:∃I:List {x:jk // x∈xs}->gx->Prop,I=(λzs W'=>z.heap.size<=W'.heap.size/\kP K z W'/\W'.heap[W.heap.size]?=some (gL #[.func (.yield l) #[] #[]] 289)/\∃g:List {x:Nat // some x∈xs},zs.map (·.1)=g.map (λp=>some p.1)/\J g W'):=⟨_,rfl⟩;obtain⟨Ix,a5⟩:∃Ix:Code->List {x:jk // x∈xs}->gx->Prop,Ix=(λc zs W'=>c= .ret/\((∃g:List {x:Nat // some x∈xs},zs.map (·.1)=g.map (λp=>some p.1)++[none]/\J g W')\/(∃g:List {x:Nat // some x∈xs},zs.map (·.1)=g.map (λp=>some p.1)/\Jx g W'))):=⟨_,rfl⟩;have HI:=fV hI;have V:=fV a5;clear hI a5;refine wpIn_rangeFunc_ownG rfl (by omega) (gf:=357) rfl trivial (Go.Proofs.enters_of func357 (by rfl) rfl) an kP.trans (λW l o o' hl O P h3=>kP.put (w:=z) (λk d=>(X.out k d).1) W l o o' hl O P h3) (Below.refl _ _) (λ_=>rfl)
  I Ix
  ?_ ?_ ?_ (λx=>{tmps:=#[.func (.yield l) #[] #[],gN s,gN W.heap.size,kI x.1,gN y,gN y,jO y 189,vJ q.heap.size,kI x.1,undef,undef,undef,undef,undef,undef,undef,undef],defers:=[]}) ?assign ?body ?done ?stop
 .rw[HI.out];rintro zs A B Y ⟨O,P,h3,g,h4,h5⟩ hg hr;have hz:=a1;refine⟨j7 O hg.size,λk d=>?_,J4 hg hr h3 (by omega),g,h4,HJ g A B Y h5 hg (λr e=>⟨by grind,(hr r e).2⟩)⟩;rw[hg.block k (mi (X.out k d).1 O) (λe=>by have:=(hr k e.symm).1;have:=(X.out k d).1;omega)];exact P k d
 .rw[V.out];rintro c zs A B Y ⟨O,P⟩ hg hr;have hz:=a1;refine⟨O,P.imp (λ⟨g,h4,h5⟩=>⟨g,h4,HJ g A B Y h5 hg (λr e=>⟨by grind,(hr r e).2⟩)⟩) (λ⟨g,h4,h5⟩=>⟨g,h4,a3 g A B Y h5 hg (λr e=>⟨by grind,(hr r e).2⟩)⟩)⟩
 .rw[HI.out]
  grind[kP]
 case assign=>
  intro l2 x W' KK ai;gi_wp2;exact ai
 case body=>
  rintro l2 pre ⟨x,hx⟩ W' u aq;rw[HI.out]at u;have⟨hz,hkb,hbx,g,j,Z⟩:=u;have cy:=fW hbx 0;dsimp at cy;cases x with
  |none=>
   have HP:=fV j;have af:=fV Z;clear j Z hz hkb hbx;gi_wp2;refine⟨KeepsFrom.refl _ _,?_⟩;rw[V.out];exact⟨rfl,.inl ⟨g,by rw[sj,HP.out];rfl,af.out⟩⟩
  |some i=>
   have ao:=HY g ⟨i,hx⟩ W' Z (by have:=sn List.length j;grind);have a2:Hid (∀G,KC T W' G->kP K z G/\G.heap[W.heap.size]?=some (gL #[.func (.yield l) #[] #[]] 289)/\z.heap.size<=G.heap.size/\kP K W' G):=fV (by
    intro G N;have ac:∀k∈K,G.heap[k]?=z.heap[k]?:=by
     intro k d;have⟨_,P,c,t,mm,h3⟩:=X.out k d;have h4:=(hkb k d).trans h3;rw[N.2 k c t mm P h4,h3]
    exact⟨ac,N.2 _ _ _ _ (λe=>by grind) hbx,j7 hz N.1,λk d=>(ac k d).trans (hkb k d).symm⟩)
   have⟨fn,tmps,assign,body,hyy,HRR⟩:=ao;have HP:=fV j;clear j Z hz hkb hbx
   gi_wp2_with fail
   refine⟨λ_=>by omega,(XU HRR).mono ?_⟩;rintro e G (⟨rfl,a8,N,F⟩|⟨rfl,ab,F⟩)
   .have⟨p1,p2,p3,P4⟩:=a2.out G N;have ae:Hid (I (pre++[⟨some i,hx⟩]) G):=fV (by rw[HI.out];exact⟨p3,p1,p2,g++[⟨i,hx⟩],by rw[sj,sj,HP.out];rfl,a8⟩);have a0:=(show KeepsFrom z.heap.size W' G from⟨F.size,λk o d O P=>F.same k o (by omega) O P⟩);clear a8 N F p1 p2 p3 HRR a2;gi_wp2;exact⟨a0,P4,ae.out⟩
   .have ah:Hid (Ix .ret (pre++[⟨some i,hx⟩]) G):=fV (by rw[V.out];exact⟨rfl,.inr ⟨g++[⟨i,hx⟩],by rw[sj,sj,HP.out];rfl,ab⟩⟩);have a0:=(show KeepsFrom z.heap.size W' G from⟨F.size,λk o d O P=>F.same k o (by omega) O P⟩);clear ab F HRR a2;gi_wp2;exact⟨a0,ah.out⟩
 case done=>
  rintro D zs W' HD hS u Q;rw[HI.out]at u;have⟨_,_,_,g,j,HJ3⟩:=u;have HE:Hid (g.map (·.1)=AU xs.reverse):=fV (by
   rw[List.take_length]at hS;rw[<-hS,j,show(g.map λp=>some p.1)=(g.map (·.1)).map some by simp,U3])
  clear j hS;gi_wp2;refine⟨by simp,.inl ⟨_,_,rfl,oY Q,?_⟩⟩;refine⟨.tuple #[],by simp[results,results352,go_sem],⟨_,rfl⟩,.inl ⟨g,HE.out,?_⟩⟩;exact HJ g W' _ (some D) HJ3 (xB _ D (.deferred none)) (λr e=>by cases e;exact⟨by omega,_,Q,rfl⟩)
 case stop=>
  rintro D c zs W' HD S u Q;rw[V.out]at u;obtain⟨rfl,u⟩:=u;have HE:Hid ((∃ys:List {x:Nat // some x∈xs},ys.map (·.1)=AU xs.reverse/\J ys W')\/(∃pre:List {x:Nat // some x∈xs},pre.map (·.1) <+:AU xs.reverse/\Jx pre W')):=fV (by
   rw[List.take_length]at S;rcases u with⟨g,j,Z⟩|⟨g,j,Z⟩
   .refine .inl ⟨g,?_,Z⟩;have⟨r,hr⟩:=S;rw[<-hr,j,show(g.map λp=>some p.1)=(g.map (·.1)).map some by simp,wm];exact PU.symm
   .refine .inr ⟨g,?_,Z⟩;rw[j,show(g.map λp=>some p.1)=(g.map (·.1)).map some by simp]at S;exact U6 S)
  clear u S;gi_wp2;refine⟨by simp,.inl ⟨_,_,rfl,oY Q,?_⟩⟩;refine⟨.tuple #[],by simp[results,results352,go_sem],⟨_,rfl⟩,?_⟩;have hb:D>=W.heap.size:=by have:=HD;have:=a1;omega
  rcases HE.out with⟨ys,e1,e2⟩|⟨pre,e1,e2⟩
  .exact .inl ⟨ys,e1,HJ ys W' _ (some D) e2 (xB _ D (.deferred none)) (λr e=>by cases e;exact⟨hb,_,Q,rfl⟩)⟩
  .exact .inr ⟨pre,e1,a3 pre W' _ (some D) e2 (xB _ D (.deferred none)) (λr e=>by cases e;exact⟨hb,_,Q,rfl⟩)⟩
end
section
attribute [local go_sem] Oper.semAt_some
attribute [local go_sem] qA
attribute [local simp] qA
def Mq (s:Nat):gQ:= .func (.func 352) #[] #[gN s]
def IX (g:Nat) (w:gx):
  Calls prog 325 #[gN g] w λe w'=>e=iw (Mq w.heap.size)/\w'=w.alloc (gL #[gN g] 121):=by
 have i:∀(h:Fn) (first d:jN) (w:gx),(Instr.makeFunc h first d).run prog w= .ok (.func h first d) w:=λ_ _ _ _=>rfl;go_enter func325,ntmps325;go_wp2;go_ret;simp[Mq]
def U5:∀(xs:kV),AU (xs.map (Option.map f))=(AU xs).map f
 |[]=>rfl
 |none::_=>rfl
 |some i::r=>by show f i::AU (r.map (Option.map f))=f i::(AU r).map f;rw[U5]
def aeL (T:List Nat) (I:List Nat->gx->Prop) (g:Code->List Nat->gx->Prop) (d:List Nat) (W:gx):Exit->Act->gx->Prop
 | .normal,_,W'=>Kept T W W'/\I d W'
 | .ret,_,W'=>Kept T W W'/\g .ret d W'
 | .exit id,_,W'=>Kept T W W'/\g (.exit id) d W'
 | .goto t,_,W'=>Kept T W W'/\g (.goto t) d W'
 | .panic _,_,_=>False
 | .outgrown,_,_=>False
def Kept.kc (h:Kept T W W'):KC T W W':=⟨h.size,λk c t m g d=>(h.block k (Array.getElem?_eq_some_iff.1 d).1 g).trans d⟩
theorem Kept.kf {B : Nat} (h:Kept T W W') (g:∀k∈T,k < B):KeepsFrom B W W':=⟨h.size,λk o i d _=>(h.block k (Array.getElem?_eq_some_iff.1 d).1 (λe=>by grind)).trans d⟩
def FP (g:∀i j,f i=f j->i=j):∀{k d:List Nat},k.map f=d.map f->k=d
 |[],[],_=>rfl
 |[],_::_,h=>by simp at h
 |_::_,[],h=>by simp at h
 |x::xs,y::d,h=>by
  simp only[Aj,SK]at h;rw[g x y h.1,FP g h.2]
def acV (g:∀i j,f i=f j->i=j) {d ys : List Nat} (h:d.map f <+:ys.map f):d <+:ys:=by
 have⟨t,ht⟩:=h;refine⟨ys.drop d.length,?_⟩;have k:d.length<=ys.length:=by have:=sn List.length ht;simp at this;omega
 have e:d.map f=(ys.take d.length).map f:=by rw[List.map_take,<-ht];simp
 have e2:=FP g e
 conv=>lhs;lhs;rw[e2]
 simp
theorem VY (hn:7<=n) {E:Env} {w1 : gx} (hr:Rel E L σ w1)
  {g:Operand} {p:Tmp} {Q:Exit->Act->gx->Prop} (hg:a.eval g=Mq w1.heap.size)
  (T:List Nat) (hT:∀k∈T,k≠E.bB/\L.cv.ownBlock≠some k/\k < w1.heap.size)
  (I:List Nat->gx->Prop) (U:Code->List Nat->gx->Prop)
  (hI:OwnFrom (w1.heap.size+1) I) (Y:∀c,OwnFrom (w1.heap.size+1) (U c)) (h0:I [] (w1.alloc (gL #[Bp E] 121))) (h:Nat->Act)
  (m:∀(l:Nat) (x:Nat) (W:gx) (K:Act->gx->Prop),K (h x) W->assign.wpIn (Fence.wide.inRound l) (n - 1 - 1) prog (Exit.then K (λ_ _ _=>False)) {tmps:=a.tmps.setIfInBounds p (kI (some x)),defers:=[]} W)
  (H:∀(l:Nat) (pre:List Nat) (i:Nat) (W:gx),some i∈σ.act->I pre W->pre.length < σ.act.length->body.wpIn (Fence.wide.inRound l) (n - 1 - 1) prog (aeL T I U (pre++[i]) W) (h (L.gS i)) W)
  (Z:∀(D:Nat) (W:gx),w1.heap.size+1<=D->I (AU σ.act.reverse) W->W.heap[D]?=some (.deferred (some []))->Q .normal {a with defers:={target:= .collected D,args:=#[]}::a.defers} W)
  (O:∀(D:Nat) (c:Code) (pre:List Nat) (W:gx),w1.heap.size+1<=D->pre <+:AU σ.act.reverse->U c pre W->W.heap[D]?=some (.deferred (some []))->c.wpIn Fence.wide n prog Q {a with defers:={target:= .collected D,args:=#[]}::a.defers} W):
  (Code.rangeFunc g #[p] assign body).wpIn Fence.wide n prog Q a (w1.alloc (gL #[Bp E] 121)):=by
 have k1:Kept [] w1 (w1.alloc (gL #[Bp E] 121)):=(Kept.refl _ _).alloc _;have a0:=hr.io k1;have⟨C,hL,hC⟩:=a0.Hs;have G:(w1.alloc (gL #[Bp E] 121)).heap.size=w1.heap.size+1:=by simp
 have S:∀i j,L.gS i=L.gS j->i=j:=hr.inj;have a1:=YW (n - 1) (by omega) E.bs E.bB _ C L.cv _ w1.heap.size T _ hL (fX w1 _) (λk hk=>⟨(hT k hk).1,(hT k hk).2.1,by grind⟩);have R:∀x:{x:Nat // some x∈σ.act.map (iG L.gS)},∃i,some i∈σ.act/\L.gS i=x.1:=by
  rintro⟨x,hx⟩;have⟨y,hy,e⟩:=List.mem_map.1 hx;cases y with
  |none=>cases e
  |some i=>grind
 have a4:AU (σ.act.map (iG L.gS)).reverse=(AU σ.act.reverse).map L.gS:=by
  rw[<-Wd];exact U5 _
 refine SC (by omega) (gf:=352) hg (Go.Proofs.enters_of func352 (by rfl) rfl) a1 KC.trans (λW l o o' _ u z _=>KC.put W l o o' u z) (Below.refl _ _) (λ_=>rfl)
  (λpre W=>∃d,pre.map (·.1)=d.map L.gS/\I d W) (λc pre W=>∃d,pre.map (·.1)=d.map L.gS/\U c d W) ?_ ?_ ?_ (λx=>h x.1) ?_ ?_ ?_ ?_
 .rintro s A B P ⟨d,u,z⟩ N r;rw[G]at r;exact⟨d,u,hI d A B P z N r⟩
 .rintro c s A B P ⟨d,u,z⟩ N r;rw[G]at r;exact⟨d,u,Y c d A B P z N r⟩
 .grind
 .intro l x W K X
  simpa using m l x.1 W K X
 .rintro l pre x W ⟨d,u,z⟩ a2;have⟨i,hi,ei⟩:=R x;have hb:=H l d i W hi z (by have:=sn List.length u;grind);rw[ei]at hb;have F:∀k∈T,k < (w1.alloc (gL #[Bp E] 121)).heap.size:=λk hk=>by grind
  have e2:(pre++[x]).map (·.1)=(d++[i]).map L.gS:=by rw[sj,sj,u,List.map_singleton,List.map_singleton,ei]
  refine yx hb ?_;rintro e a3 W3 q;cases e with
  |normal=>exact⟨q.1.kf F,q.1.kc,_,e2,q.2⟩
  |ret=>exact⟨q.1.kf F,_,e2,q.2⟩
  |exit id=>exact⟨q.1.kf F,_,e2,q.2⟩
  |goto t=>exact⟨q.1.kf F,_,e2,q.2⟩
  |panic ch=>exact q.elim
  |outgrown=>exact q.elim
 .rintro D ys W V hS ⟨d,u,z⟩ X;rw[G]at V;have:d=AU σ.act.reverse:=FP S (by grind)
  grind
 .rintro D c pre W V a5 ⟨d,u,z⟩ X;rw[G]at V;exact O D c d W V (acV S (by grind)) z X
end
section
attribute [local go_sem] Oper.semAt_some
attribute [local go_sem] qA
attribute [local simp] qA
def Er:∀{xs:kV},(∀i∈AU xs,la (σ.nm i) s=false)->σ.ra s xs=none
 |[],_=>rfl
 |none::_,_=>rfl
 |some i::r,h=>by
  show(if la (σ.nm i) s then some i else σ.ra s r)=none;rw[h i (by simp[AU])];simp only[uz,↓reduceIte];exact Er λj d=>h j (by simp[AU,d])
theorem Es {i : Nat} (d:la (σ.nm i) s=true):∀{xs:kV} {pre:List Nat},pre++[i] <+:AU xs->(∀j∈pre,la (σ.nm j) s=false)->σ.ra s xs=some i
 |[],pre,h,_=>by have⟨r,hr⟩:=h;simp[AU]at hr
 |none::_,pre,h,_=>by have⟨r,hr⟩:=h;simp[AU]at hr
 |some k::r,[],h,_=>by
  have⟨t,ht⟩:=h;have e:i=k:=by simp[AU]at ht;exact ht.1
  grind[Ab.ra]
 |some k::r,p::pre,h,hp=>by
  have⟨t,ht⟩:=h;have e:p=k/\pre++[i]++t=AU r:=by simpa [AU]using ht
  obtain⟨rfl,e2⟩:=e;show(if la (σ.nm p) s then some p else σ.ra s r)=_;rw[hp p (by simp)];simp only[uz,↓reduceIte];exact Es d ⟨t,e2⟩ (λj g=>hp j (by simp[g]))
def zq (W:gx) {D : Nat} (h:b≠D):(W.putObj D o).cell? ⟨b,0,none⟩=W.cell? ⟨b,0,none⟩:=abk (qC h)
theorem Et {E:Env} (h:RF E f σ w) (s:gz):
  Calls prog 282 #[Bp E,gH s] w λe w'=>e=iw (oV f (σ.pS s))/\Kept [] w w':=by
 obtain⟨L,rfl,p⟩:=h;refine(xC (n:=9)).1 ?_;refine xD func282 rfl trivial ?_ rfl;simp only[ntmps282,yf,uk,xI,Nat.reduceAdd,Nat.reduceSub,yg,yh,yi,yj,sg,wo];obtain⟨r,k⟩:∃r,r=(w.alloc (gL #[gH s] 9)).alloc (gL #[.pointer none] 72):=⟨_,rfl⟩;have N:Kept [] w r:=by rw[k];exact((Kept.refl _ _).alloc _).alloc _
 have B0:r.heap[w.heap.size]?=some (gL #[gH s] 9):=by rw[k];exact(Below.heap_alloc _ _ _ (by simp)).trans (fX w _)
 have B1:r.heap[w.heap.size+1]?=some (gL #[.pointer none] 72):=by rw[k];have:=fX (w.alloc (gL #[gH s] 9)) (gL #[.pointer none] 72);rwa [xJ]at this
 have m:r.heap.size=w.heap.size+1+1:=by rw[k];simp
 have Y:=p.io N;have a4:=p.lt;have HB:=IX E.bB r;have HN:=(λ(W:gx) (Q:Kept [] w W) (i:Nat) (e:Ak) (P:σ.ij i=some e)=>(p.io Q).vW P);have HA:=(λ(i:Nat) (P:some i∈σ.act)=>p.wf.act (some i) P);have HO:=(λg (u:L.cv.ownBlock=some g)=>(p.qu.lt g u).2);have U:=fV m;have HW:=fV k;clear m k
 gi_wp2_with fail
 rw[<-HW.out];refine(callsIn_wide.2 HB).mono ?_;rintro e w' ⟨rfl,rfl⟩;gi_wp2;refine VY (by omega) Y rfl [w.heap.size+1] ?_
  (λpre W=>Kept [] w W/\W.heap[w.heap.size]?=some (gL #[gH s] 9)/\W.heap[w.heap.size+1]?=some (gL #[.pointer none] 72)/\∀i∈pre,la (σ.nm i) s=false)
  (λc pre W=>c= .ret/\Kept [] w W/\∃d i,pre=d++[i]/\(∀j∈d,la (σ.nm j) s=false)/\la (σ.nm i) s=true/\W.heap[w.heap.size+1]?=some (gL #[gN (L.gS i)] 72))
  ?_ ?_ ?_ (λx=>{tmps:=#[Bp E,gH s,undef,gN w.heap.size,gN (w.heap.size+1),kI (some x),Bp E,Mq r.heap.size,kI (some x),undef,undef,undef,undef,undef,undef,undef],defers:=[]}) ?assign ?body ?done ?stop
 .grind
 .rintro pre A B a3 ⟨h1,V,t,H⟩ u p;have m:=U.out;exact⟨mB h1 u p (by omega),kX V u p (by omega),kX t u p (by omega),H⟩
 .rintro c pre A B a3 ⟨h0,h1,d,i,V,t,H,h5⟩ u p;have m:=U.out;exact⟨h0,mB h1 u p (by omega),d,i,V,t,H,kX h5 u p (by omega)⟩
 .have Q:Kept [] r (r.alloc (gL #[Bp E] 121)):=(Kept.refl _ _).alloc _;exact⟨N.trans Q,Q.at B0 (by simp),Q.at B1 (by simp),by simp⟩
 case assign=>
  intro l x W K O;gi_wp2;exact O
 case body=>
  rintro l pre i W P ⟨z,B2,S,B4⟩ _;have a1:=HA i P;obtain⟨e0,a0⟩:∃e0,σ.ij i=some e0:=Option.isSome_iff_exists.1 a1;have c0:=HN W z i e0 a0;have c1:=fW B2 0;have G:=fW S 0;have f3:=gu S 0;dsimp at c1 G;rw[show kI (some (L.gS i))=gN (L.gS i)from rfl];gi_wp2;refine Bj l (by kernel_rfl) (by kernel_rfl) (by rfl) ?_
  repeat (gi_big_quiet_step (fail))
  refine wpQuietIn_nil ?_;intro _ a2;have⟨nq,hw''⟩:=a2;subst hw'';cases hq:la (σ.nm i) s with
  |true=>
   have HQ:=hq;have I:((σ.nm i).toList==s.toList)=true:=hq;rw[I];gi_wp2;refine⟨((Kept.refl [w.heap.size+1] W).drewN nq).setCell (.inl (by simp)) _,rfl,(z.drewN nq).setCell (.inr (by simp)) _,pre,i,rfl,B4,HQ,?_⟩;exact gm (show(W.drewN nq).heap[w.heap.size+1]?=_ from S) 0 _
  |false=>
   have HQ:=hq;have I:((σ.nm i).toList==s.toList)=false:=hq;rw[I];gi_wp2;refine⟨(Kept.refl _ W).drewN nq,z.drewN nq,B2,S,λy hy=>?_⟩
   grind
 case done=>
  rintro D W X ⟨z,V,t,H⟩ O;have G:=fW t 0;have f3:=gu t 0;dsimp at G;have q:σ.pS s=none:=Er H;have F:=fV q;have HS:=fV (nQ t 0 (.pointer none) rfl);clear q;gi_wp2;rw[HS.out];refine⟨by simp,.inl ⟨_,_,rfl,oY O,?_⟩⟩;have m:=U.out;have hD:=X;have Z:(W.putObj D (.deferred none)).cell? ⟨w.heap.size+1,0,none⟩=some (.pointer none):=by rw[<-G];exact zq W (by omega)
  exact⟨.pointer none,by simp[results,results282,asAddr,Result.andThen,go_sem,Z],by rw[F.out];rfl,z.take (by omega) _⟩
 case stop=>
  rintro D c pre W X R ⟨rfl,z,d,i,rfl,t,H,h5⟩ O;have q:σ.pS s=some i:=Es H R t;have F:=fV q;have G:=fW h5 0;dsimp at G;clear q;gi_wp2;refine⟨by simp,.inl ⟨_,_,rfl,oY O,?_⟩⟩;have m:=U.out;have hD:=X;have Z:(W.putObj D (.deferred none)).cell? ⟨w.heap.size+1,0,none⟩=some (gN (L.gS i)):=by rw[<-G];exact zq W (by omega)
  exact⟨gN (L.gS i),by simp[results,results282,asAddr,Result.andThen,go_sem,Z],by rw[F.out];rfl,z.take (by omega) _⟩
end
theorem Xg (L:lZ) (i:Nat) (h:i < L.length):(flat L)[i*2]?=some (gH (L[i]).1)/\(flat L)[i*2+1]?=some (gH (L[i]).2):=by
 induction L generalizing i with
 |nil=>simp at h
 |cons a L ih=>
  cases i with
  |zero=>simp[flat]
  |succ i=>
   grind[flat]
theorem zn.at2 {d : Option Addr} {j : Nat} (h:zn w (.slice d gM.length j) gM) {k : Nat} (r:k < gM.length):∃g,d=some ⟨g,0,none⟩/\w.cell? ⟨g,k*2,none⟩=some (gH gM[k].1)/\w.cell? ⟨g,k*2+1,none⟩=some (gH gM[k].2):=by
 obtain⟨g,p⟩:∃g,d=some ⟨g,0,none⟩:=by
  rcases h.2 with⟨e,t⟩|⟨q,i,m,e,_⟩
  all_goals grind
 subst p;have⟨f0,f1⟩:=Xg gM k r;exact⟨g,rfl,by rw[h.cellAt (k*2) (by omega)];exact f0,by rw[h.cellAt (k*2+1) (by omega)];exact f1⟩
def afX (w:gx) (k:Nat) (g:jN) (q:gz×gz->Bool) (gM:lZ):Prop:=
 (∀d w,(callFunc k d).run prog w= .ok (.enter k d) w)/\∀W,Kept [] w W->∀a∈gM,Calls prog k (#[.agg #[gH a.1,gH a.2]]++g) W λe W'=>e=iw (.bool (q a))/\Kept [] W W'
theorem NP (k:Nat) (j:jN) (q:gz×gz->Bool) (av:gQ) (gM:lZ) (w:gx) (H:zn w av gM) (Z:gM.length<=4096) (R:afX w k j q gM):
  Calls prog 372 #[av,.func (.func k) #[] j] w λe w'=>∃n:Int,e=iw (gh n)/\decide (0<=n)=gM.any q/\Kept [] w w':=by
 have⟨ao,cp,hav⟩:=gF H;subst hav;have⟨hcf,HC⟩:=R;have K:=fV H;clear H;go_enter func372,ntmps372
 go_wp21
 go_loopw [8] (λv wr=>∃d:Nat,v=gh d/\d<=gM.length/\(∀a∈gM.take d,q a=false)/\Kept [] w wr) (λv _=>gM.length - (intOf v).toNat)
 case atStart=>exact⟨0,rfl,iN _,by simp,Kept.refl _ _⟩
 case round=>
  obtain⟨d,rfl,Q,p,r⟩:=hrel
  by_cases i:d < gM.length
  .obtain⟨g,rfl,X,Y⟩:=zn.at2 (r.ownsRow K (λ_ _=>by simp)) i;have D:=HC wr r gM[d] (uw i);have O:=fV p;have z:=fV r;have u:gM.take (d+1)=gM.take d++[gM[d]]:=by rw[Ff,qB i];rfl
   have G:=fV u;have m:∀b,q gM[d]=b->(b=true->gM.any q=true):=λb P h=>List.any_eq_true.2 ⟨gM[d],uw i,by rw[P,h]⟩;generalize hqq:q gM[d]=b at D m;have S:=hqq;have U:=fV (m b rfl);clear p r u;generalize gM[d].1=x at *;generalize gM[d].2=y at *
   go_wp21
   refine D.mono ?_;rintro e V ⟨rfl,I⟩;have F:=z.trans I;cases b with
   |true=>
    go_wp2;go_ret
    simp_all
   |false=>
    go_wp2;go_roundw
    case rel=>
     refine⟨d+1,by go_num,by omega,λa t=>?_,F⟩;rw[G.out]at t;rcases List.mem_append.1 t with t|t
     .exact O a t
     grind
    case measure=>simp[intOf];omega
  .have N:Hid (gM.any q=false):=fV (by
    grind)
   have z:=fV r;clear r p;go_wp2;go_ret;exact⟨-1,rfl,by rw[N.out];rfl,z⟩
def An (k:Nat) (d:jN) (q:gz×gz->Bool) (av:gQ) (gM:lZ) (w:gx) (j:zn w av gM) (m:gM.length<=4096) (p:afX w k d q gM):
  Calls prog 350 #[av,.func (.func k) #[] d] w λe w'=>e=iw (.bool (gM.any q))/\Kept [] w w':=by
 have C:=NP k d q av gM w j m p;go_enter func350,ntmps350
 go_wp21
 refine C.mono ?_;rintro e r ⟨n,rfl,g,i⟩;have h:=fV g;clear g;go_wp2
 all_goals go_ret
 all_goals exact⟨by rw[<-h.out];rfl,i⟩
def aci (b:Nat) (s:gz) (a:gz×gz) (w:gx) (h:w.cell? ⟨b,0,none⟩=some (gH s)) (d:b < w.heap.size):
  Calls prog 351 #[.agg #[gH a.1,gH a.2],gN b] w λe w'=>e=iw (.bool (la a.1 s))/\Kept [] w w':=by
 have g:=(Kept.refl [] w).alloc (gL #[gH a.1,gH a.2] 299);have i:=(g.cell (p:=⟨b,0,none⟩) d (by simp)).trans h;generalize a.1=x at *;generalize a.2=y at *;go_enter func351,ntmps351;go_wp2;go_ret;exact⟨rfl,g⟩
def ae7 (k:Nat) (i:gz) (av:gQ) (H kv:gQ) (gM:lZ) (s:gz) (w:gx) (t:w.heap[k]?=some (gL #[gH i,av,H,kv] 140)) (r:zn w av gM) (G:gM.length<=4096):
  Calls prog 323 #[gN k,gH s] w λe w'=>e=iw (.bool (zD gM s))/\Kept [] w w':=by
 have F:∀(q:Fn) (first h:jN) (w:gx),(Instr.makeFunc q first h).run prog w= .ok (.func q first h) w:=λ_ _ _ _=>rfl;obtain⟨j,d⟩:∃j,j=w.alloc (gL #[gH s] 9):=⟨_,rfl⟩;have g:Kept [] w j:=by rw[d];exact(Kept.refl _ _).alloc _
 have p:j.heap[w.heap.size]?=some (gL #[gH s] 9):=by rw[d];exact fX w _
 have I:(w.alloc (gL #[gH s] 9)).cell? ⟨k,1,none⟩=some av:=by rw[<-d,fW (g.at t (by simp))];rfl
 have C:=An 351 #[gN w.heap.size] (λa=>la a.1 s) av gM j (g.ownsRow r (λ_ _=>by simp)) G ⟨enters_of func351 (by rfl) rfl,λW u a _=>aci w.heap.size s a W (by rw[fW (u.at p (by simp))];rfl) (iX (u.at p (by simp)))⟩;have D:=iX t;have⟨ao,cp,hav⟩:=gF r;subst hav;have z:=fV d.symm;clear d;go_enter func323,ntmps323
 go_wp21
 rw[z.out];refine C.mono ?_;rintro e K ⟨rfl,m⟩;have y:=g.trans m;go_wp2;go_ret;exact⟨rfl,y⟩
def sy (a b:gz×gz):Bool:=la a.1 b.1&&la a.2 b.2
theorem YR (x:gz×gz) (av:gQ) (gM:lZ) (w:gx) (Q:zn w av gM) (hn:gM.length<=4096):
  Calls prog 377 #[av,.agg #[gH x.1,gH x.2]] w λe w'=>∃n:Int,e=iw (gh n)/\decide (0<=n)=gM.any (λy=>sy x y)/\Kept [] w w':=by
 have⟨ao,cp,hav⟩:=gF Q;subst hav;obtain⟨G,j⟩:∃G,G=w.alloc (gL #[gH x.1,gH x.2] 299):=⟨_,rfl⟩;have m:Kept [] w G:=by rw[j];exact(Kept.refl _ _).alloc _
 have P:G.heap[w.heap.size]?=some (gL #[gH x.1,gH x.2] 299):=by rw[j];exact fX w _
 have R:=m.ownsRow Q (λ_ _=>by simp);have U:=fV j.symm;have t:=fV P;clear j P;go_enter func377,ntmps377
 go_wp21
 rw[U.out]
 go_loopw [8] (λv wr=>∃d:Nat,v=gh d/\d<=gM.length/\(∀a∈gM.take d,sy x a=false)/\Kept [] G wr) (λv _=>gM.length - (intOf v).toNat)
 case atStart=>exact⟨0,rfl,iN _,by simp,Kept.refl _ _⟩
 case round=>
  obtain⟨d,rfl,Z,r,p⟩:=hrel
  by_cases q:d < gM.length
  .obtain⟨g,rfl,c0,c1⟩:=zn.at2 (p.ownsRow R (λ_ _=>by simp)) q;have X:=fW (p.at t.out (by simp)) 0;have Y:=fW (p.at t.out (by simp)) 1;dsimp at X Y;have O:=fV r;have z:=fV p;have F:gM.take (d+1)=gM.take d++[gM[d]]:=by rw[Ff,qB q];rfl
   have D:=fV F;have V:=fV (λ(h:sy x gM[d]=true)=>List.any_eq_true.2 ⟨gM[d],uw q,h⟩);have HP:=(show sy x gM[d]=(la x.1 gM[d].1&&la x.2 gM[d].2)from rfl);clear r p F;generalize gM[d]=y at *;have⟨y0,y1⟩:=y;obtain⟨K,N⟩:=x;simp only[]at *;have k:∀(H:Bool),(la K y0&&la N y1)=H->sy (K,N) (y0,y1)=H:=λH h=>h
   by_cases I:K.toList=y0.toList
   .by_cases e1:N.toList=y1.toList
    .have u:=fV (k true (by unfold la;rw[I,e1];simp));go_wp2_with fail;go_region
     all_goals (try go_wp2)
     all_goals (try go_ret)
     all_goals exact⟨(d:Int),rfl,by rw[V.out u.out];simp,m.trans z.drew⟩
    .have u:=fV (k false (by unfold la;rw[I];simp[e1]))
     go_wp21
     go_region
     all_goals (try go_wp2)
     all_goals (try go_roundw)
     all_goals first
      |(case rel=>
        refine⟨d+1,by go_num,by omega,λa i=>?_,z.drew⟩;rw[D.out]at i;rcases List.mem_append.1 i with i|i
        .exact O a i
        .rw[List.mem_singleton.1 i];exact u)
      |(case measure=>simp[intOf];omega)
      |skip
   .have u:=fV (k false (by unfold la;simp[I]))
    go_wp21
    go_region
    all_goals (try go_wp2)
    all_goals (try go_roundw)
    all_goals first
     |(case rel=>
       refine⟨d+1,by go_num,by omega,λa i=>?_,z.drew⟩;rw[D.out]at i;rcases List.mem_append.1 i with i|i
       .exact O a i
       .rw[List.mem_singleton.1 i];exact u)
     |(case measure=>simp[intOf];omega)
     |skip
  .have S:Hid (gM.any (λy=>sy x y)=false):=fV (by
    grind)
   have z:=fV p;clear p r;go_wp2;go_ret;exact⟨-1,rfl,by rw[S.out];rfl,m.trans z⟩
def PR (x:gz×gz) (av:gQ) (gM:lZ) (w:gx) (h:zn w av gM) (m:gM.length<=4096):
  Calls prog 356 #[av,.agg #[gH x.1,gH x.2]] w λe w'=>e=iw (.bool (gM.any λy=>sy x y))/\Kept [] w w':=by
 have d:=(Kept.refl [] w).alloc (gL #[gH x.1,gH x.2] 299);have C:=YR x av gM _ (d.ownsRow h (λ_ _=>by simp)) m;have⟨ao,cp,hav⟩:=gF h;subst hav;go_enter func356,ntmps356
 go_wp21
 refine C.mono ?_;rintro e p ⟨n,rfl,g,k⟩;have i:=fV g;have j:=d.trans k;clear g;go_wp2
 all_goals go_ret
 all_goals exact⟨by rw[<-i.out];rfl,j⟩
def aaa (b k:Nat) (j:gz) (av N kv:gQ) (gM:lZ) (a:gz×gz) (w:gx) (H:w.heap[b]?=some (gL #[gN k] 72)) (r:w.heap[k]?=some (gL #[gH j,av,N,kv] 140)) (p:zn w av gM) (K:gM.length<=4096):
  Calls prog 355 #[.agg #[gH a.1,gH a.2],gN b] w λe w'=>e=iw (.bool (!(gM.any λy=>sy a y)))/\Kept [] w w':=by
 obtain⟨h,g⟩:∃h,h=w.alloc (gL #[gH a.1,gH a.2] 299):=⟨_,rfl⟩;have d:Kept [] w h:=by rw[g];exact(Kept.refl _ _).alloc _
 have m:h.heap[w.heap.size]?=some (gL #[gH a.1,gH a.2] 299):=by rw[g];exact fX w _
 have z:=fW m 0;have D:=fW m 1;have F:=fW (d.at H (by simp)) 0;have G:=fW (d.at r (by simp)) 1;dsimp at z D F G;have I:k < h.heap.size:=iX (d.at r (by simp));have C:=(λq=>PR a av gM (h.drewN q) ((d.drewN q).ownsRow p (λ_ _=>by simp)) K);have⟨ao,cp,hav⟩:=gF p;subst hav;have u:=fV g.symm;clear g;go_enter func355,ntmps355
 go_wp21
 rw[u.out]
 go_region_with (go_at_call 356;refine(C 1).mono ?_;rintro e O ⟨rfl,i⟩;have t:=fV ((d.drewN 1).trans i);clear i)
 all_goals (try go_wp2)
 all_goals (try go_ret)
 all_goals exact⟨rfl,t⟩
def abY (E:Env) (x:Nat×Nat×gz):iJ E (qQ x)=NZ x:=rfl
def Rg (E:Env) (x:Nat×Nat×gz) (w:gx):Calls prog 234 #[NZ x] w λe w'=>e=iw (.bool (!lM x.2.2))/\Kept [] w w':=by
 have d:=zr E (qQ x) w;rw[abY]at d;have j:=(λW=>JE x.2.2 W);have k:(qQ x).chars=x.2.2:=rfl;rw[k]at d;generalize NZ x=v at *;generalize x.2.2=s at *;go_enter func234,ntmps234
 go_wp21
 refine d.mono ?_;rintro e m ⟨rfl,g⟩
 go_wp21
 refine(j m).mono ?_;rintro e p ⟨rfl,i⟩;have h:=g.trans i;go_wp2;go_ret;exact⟨rfl,h⟩
theorem aeE.at {d : Option Addr} {j : Nat} {xs : List (Nat×Nat×gz)} (h:w.ownsRow base 125 1 (.slice d xs.length j) xs.length (xs.map NZ)) {k : Nat} (r:k < xs.length):∃g,d=some ⟨g,0,none⟩/\w.cell? ⟨g,k,none⟩=some (NZ xs[k]):=by
 obtain⟨g,p⟩:∃g,d=some ⟨g,0,none⟩:=by
  rcases h.2 with⟨e,t⟩|⟨q,i,m,e,_⟩
  all_goals grind
 subst p;exact⟨g,rfl,by rw[h.cellAt k (by omega)];simp[r]⟩
theorem Pf (E:Env) (base:Nat) (z:gQ) (xs:List (Nat×Nat×gz)) (w:gx) (u:w.ownsRow base 125 1 z xs.length (xs.map NZ)) (U:xs.length<=4096):
  Calls prog 296 #[z,.func (.func 234) #[] #[]] w λe w'=>∃n:Int,e=iw (gh n)/\decide (0<=n)=(xs.any λx=>!lM x.2.2)/\Kept [] w w':=by
 have⟨ao,cp,hav⟩:=gF u;subst hav;have O:=enters_of func234 (by rfl) rfl;have G:=(λW x=>Rg E x W);have F:=fV u;clear u;go_enter func296,ntmps296
 go_wp21
 go_loopw [8] (λv wr=>∃d:Nat,v=gh d/\d<=xs.length/\(∀a∈xs.take d,(!lM a.2.2)=false)/\Kept [] w wr) (λv _=>xs.length - (intOf v).toNat)
 case atStart=>exact⟨0,rfl,iN _,by simp,Kept.refl _ _⟩
 case round=>
  obtain⟨d,rfl,P,j,m⟩:=hrel
  by_cases p:d < xs.length
  .obtain⟨g,rfl,K⟩:=aeE.at (m.ownsRow F (λ_ _=>by simp)) p;have D:=G wr xs[d];have I:=fV j;have q:=fV m;have t:=fV (show xs.take (d+1)=xs.take d++[xs[d]] by simp);have i:∀b,(!lM xs[d].2.2)=b->(b=true->(xs.any λx=>!lM x.2.2)=true):=λb N h=>List.any_eq_true.2 ⟨xs[d],uw p,by rw[N,h]⟩;generalize hqq:(!lM xs[d].2.2)=b at D i;have Q:=hqq;have R:=fV (i b rfl);clear j m;rw[show NZ xs[d]= .iface 188 (.agg #[gh (xs[d].1),gh (xs[d].2.1),gH xs[d].2.2])from rfl]at K D
   go_wp21
   refine D.mono ?_;rintro e S ⟨rfl,y⟩;have r:=q.trans y;cases b with
   |true=>
    go_wp2;go_ret
    simp_all
   |false=>
    go_wp2;go_roundw
    case rel=>
     refine⟨d+1,by go_num,by omega,λa k=>?_,r⟩;rw[t.out]at k;rcases List.mem_append.1 k with k|k
     .exact I a k
     grind
    case measure=>simp[intOf];omega
  .have H:Hid ((xs.any λx=>!lM x.2.2)=false):=fV (by
    grind)
   have q:=fV m;clear m j;go_wp2;go_ret;exact⟨-1,rfl,by rw[H.out];rfl,q⟩
def Ig (E:Env) (base:Nat) (d:gQ) (xs:List (Nat×Nat×gz)) (w:gx) (j:w.ownsRow base 125 1 d xs.length (xs.map NZ)) (k:xs.length<=4096):
  Calls prog 233 #[d,.func (.func 234) #[] #[]] w λe w'=>e=iw (.bool (xs.any λx=>!lM x.2.2))/\Kept [] w w':=by
 have C:=Pf E base d xs w j k;go_enter func233,ntmps233
 go_wp21
 refine C.mono ?_;rintro e m ⟨n,rfl,g,i⟩;have h:=fV g;clear g;go_wp2
 all_goals go_ret
 all_goals exact⟨by rw[<-h.out];rfl,i⟩
attribute [local go_sem] Oper.semAt_some
def oU (d rec:Nat->gO->M Unit) (t:gO):M Unit:=do
 qN d
 xA λσ=>{σ with waiting:=[],mode:=σ.kept}
 kZ rec t
 return ()
def Env.lock (E:Env) (v:gQ) (d:List (Nat×Nat×gz)):Env:={E with wv:=some (v,d)}
variable {E : Env}
def Rel.lock (h:Rel E L σ w):Rel (E.lock L.wv σ.waiting) L σ w:=by
 have⟨C,hb,hC⟩:=h.iC;exact
  {fr:=h.fr,env:=⟨h.env.G1,h.env.txt,h.env.spec,h.env.Xj,h.env.WG,h.env.xX⟩,vM:=h.vM,tL:=h.tL,inj:=h.inj,BT:=h.BT,GM:=h.GM,uq:=h.uq,Fk:=h.Fk,wf:=h.wf
   iC:=⟨C,hb,⟨hC.size,hC.low,hC.gG,hC.act,hC.head,hC.form,hC.mode,hC.kept,hC.wait,hC.Js,hC.jV,hC.gS,hC.behind⟩⟩
   pF:=h.pF,qu:=h.qu,GP:=h.GP,x9:=h.x9,Fp:=h.Fp,pC:=h.pC,Mg:=h.Mg,rd:=h.rd,RU:=h.RU,tok:=h.tok,Md:=h.Md,bz:=h.bz,bB:=h.bB,bR:=h.bR,bN:=h.bN,DH:=h.DH,ab:=h.ab,tb:=h.tb
   Mf:=λp d=>by cases d;simp}
theorem Rel.unlock {g : List (Nat×Nat×gz)} (h:Rel (E.lock v g) L σ w) (d:E.wv=none):Rel E L σ w:=by
 have⟨C,hb,hC⟩:=h.iC;exact
  {fr:=h.fr,env:=⟨h.env.G1,h.env.txt,h.env.spec,h.env.Xj,h.env.WG,h.env.xX⟩,vM:=h.vM,tL:=h.tL,inj:=h.inj,BT:=h.BT,GM:=h.GM,uq:=h.uq,Fk:=h.Fk,wf:=h.wf
   iC:=⟨C,hb,⟨hC.size,hC.low,hC.gG,hC.act,hC.head,hC.form,hC.mode,hC.kept,hC.wait,hC.Js,hC.jV,hC.gS,hC.behind⟩⟩
   pF:=h.pF,qu:=h.qu,GP:=h.GP,x9:=h.x9,Fp:=h.Fp,pC:=h.pC,Mg:=h.Mg,rd:=h.rd,RU:=h.RU,tok:=h.tok,Md:=h.Md,bz:=h.bz,bB:=h.bB,bR:=h.bR,bN:=h.bN,DH:=h.DH,ab:=h.ab,tb:=h.tb
   Mf:=λp i=>by grind}
def At.unlock {g : List (Nat×Nat×gz)} (h:At (E.lock v g) f0 n0 w0 f σ w) (d:E.wv=none):At E f0 n0 w0 f σ w:=by
 have⟨L,e,hr⟩:=h.rel;exact⟨⟨L,e,hr.unlock d⟩,h.ext,h.le,h.fr,h.hw⟩
def M.Mo {α d h:Type} (m:M α) (k:α->M d) (g:d->M h) (σ:Ab):((m>>=k)>>=g) σ=(m>>=λa=>k a>>=g) σ:=by
 rw[M.gE,M.gE,M.gE];cases m σ with
 |ok a σ'=>rfl
 |stop e p=>rfl
 |stuck=>rfl
def Rel.OH (h:Rel E L σ w) (g:E.wv=none):Rel E {L with wv:=jc} {σ with waiting:=[]} (w.setCell ⟨E.bB,194,none⟩ (jc)):=by
 have⟨C,hb,hC⟩:=h.iC;have d:Kept [E.bB] w (w.setCell ⟨E.bB,194,none⟩ (jc)):=(Kept.refl _ w).setCell (.inl (by simp)) _;have i:KT E.bs [180,125] w (w.setCell ⟨E.bB,194,none⟩ (jc)):= .jQ d (λk d _=>by simp at d;subst d;exact⟨⟨_,_,_,hb,by simp⟩,h.bB⟩);exact h.agF hC (jc) [] (gm hb 194 _) i (od _ _ _ _) (by simp) g
def At.OH (h:At E f0 n0 w0 f σ w) (g:E.wv=none):At E f0 n0 w0 f {σ with waiting:=[]} (w.setCell ⟨E.bB,194,none⟩ (jc)):=by
 have⟨L,e,hr⟩:=h.rel;refine h.to ⟨{L with wv:=jc},e,hr.OH g⟩ (gW _) ?_;have⟨C,hb,hC⟩:=hr.iC;have d:Kept [E.bB] w (w.setCell ⟨E.bB,194,none⟩ (jc)):=(Kept.refl _ w).setCell (.inl (by simp)) _;exact .jQ d (λk d=>by simp at d;subst d;exact⟨⟨_,_,_,hb,by decide⟩,hr.bB⟩)
def Je (d:Nat->gO->M Unit) (g:Bool) (x:Nat×Nat×gz):M Unit:=if g then uK d (qQ x)else kC (qQ x)
def rF (d:Nat->gO->M Unit) (g:Bool):List (Nat×Nat×gz)->M Unit
 |[]=>pure ()
 |x::r=>do
  Je d g x
  rF d g r
def DW (d:Nat->gO->M Unit) (g:Bool) (x:Nat×Nat×gz) (r:List (Nat×Nat×gz)):rF d g (x::r)=(Je d g x>>=λ_=>rF d g r):=rfl
def Mv (d:Nat->gO->M Unit):∀xs,rF d true xs=uL d xs
 |[]=>rfl
 |x::r=>by unfold rF uL;rw[Mv d r];rfl
def Mu (d:Nat->gO->M Unit):∀xs,rF d false xs=uN xs
 |[]=>rfl
 |x::r=>by unfold rF uN;rw[Mu d r];rfl
def Jm (E:Env) (X:E.wv=none) (d rec:Nat->gO->M Unit) (a4:∀v ws (m:Nat) (t:gO),ji E t->je (E.lock v ws) 171 (λ_=>#[Bp E,gh m,iJ E t]) (d m t) uV) (hA:∀(m:Nat) (t:gO),ji E t->je E 171 (λ_=>#[Bp E,gh m,iJ E t]) (rec m t) uV) (t:gO) (ht:ji E t):je E 137 (λ_=>#[Bp E,iJ E t]) (oU d rec t) uV:=by
 intro f σ w h HS;have⟨L,hL,hr⟩:=h;obtain⟨R,F⟩:∃R,R=oU d rec t σ:=⟨_,rfl⟩;rw[<-F]at HS|-;obtain⟨V,Z⟩:∃V,V=σ.waiting.any λx=>!lM x.2.2:=⟨_,rfl⟩;obtain⟨xs,S⟩:∃xs,xs=σ.waiting:=⟨_,rfl⟩;obtain⟨U,Q⟩:∃U,U=L.wv:=⟨_,rfl⟩;have a5:R=(rF d V xs>>=λ_=>(do
   xA λσ=>{σ with waiting:=[],mode:=σ.kept}
   kZ rec t
   return ():M Unit)) σ:=by
  rw[F];unfold oU;rw[M.gE,M.gE];have e1:qN d σ=rF d V xs σ:=by
   unfold qN;rw[<-Z,S];cases V
   .rw[Mu];rfl
   .rw[Mv];rfl
  rw[e1]
 have a0:=hr.lock;rw[<-Q,<-S]at a0;have H:=At.start (E:=E.lock U xs) ⟨L,hL,a0⟩;have C1:=Ig E E.bs L.wv σ.waiting w hr.pC hr.Mg;rw[<-Z,<-Q]at C1;have a1:=hr.pC;rw[<-Q,<-S]at a1;have⟨ao,cp,hsh⟩:=gF a1;have ac:xs.length<=4096:=by rw[S];exact hr.Mg
 have c0:=hr.abU;rw[<-Q,hsh]at c0;rw[hsh]at C1;have I:=hr.lt;have ab:∀(fn:Fn) (first a3:jN) (w:gx),(Instr.makeFunc fn first a3).run prog w= .ok (.func fn first a3) w:=λ_ _ _ _=>rfl;have aa:=enters_of func109 (by rfl) rfl;have a9:=enters_of func135 (by rfl) rfl;have q:=fV a5;have a2:=fV hsh;have HE:∀x:Nat×Nat×gz,je (E.lock U xs) (if V then 135 else 109) (λ_=>#[Bp E,NZ x]) (Je d V x) uV:=by
  intro x;cases V with
  |true=>exact Ec (E.lock U xs) d (λm t ht=>a4 U xs m t ht) (qQ x) (λh=>by cases h)
  |false=>exact wA (E.lock U xs) (iO _) (qQ x)
 have HA:=hA;clear F a5 a0 a1 hsh hr hL hA a4 Z S Q;cases V with
 |true=>
  have Y:Hid (∀x:Nat×Nat×gz,je (E.lock U xs) 135 (λ_=>#[Bp E,NZ x]) (Je d true x) uV):=HE;clear HE;go_enter func137,ntmps137
  go_wp21
  refine C1.mono ?_;rintro e w1 ⟨rfl,D⟩;have c1:=(D.cell (p:=⟨E.bB,194,none⟩) I (by simp)).trans c0;have O:E.bB < w1.heap.size:=mi I D.size;replace H:=H.k0 D;clear D C1
  go_wp21
  go_loopw [21] (λv wr=>∃(k:Nat) (g:Nat->Nat) (j:Ab),v=gh k/\k<=xs.length/\R=(rF d true (xs.drop k)>>=λ_=>(do
   xA λσ=>{σ with waiting:=[],mode:=σ.kept}
   kZ rec t
   return ():M Unit)) j/\At (E.lock U xs) f σ.nodes.length w g j wr) (λv _=>xs.length - (intOf v).toNat)
  case atStart=>exact⟨0,f,σ,rfl,iN _,q,H⟩
  case round=>
   clear H q c0 c1 I O;obtain⟨k,g,j,rfl,a6,F,r⟩:=hrel
   by_cases P:k < xs.length
   .have⟨L',hL',hr'⟩:=r.rel;have⟨e1,e2⟩:=hr'.Mf _ rfl;have i:=hr'.pC;rw[e1,e2]at i;dsimp only at i;rw[a2.out]at i;obtain⟨gb,rfl,c5⟩:=aeE.at i P;rw[DD P]at F;have u:R=(Je d true xs[k]>>=λ_=>rF d true (xs.drop (k+1))>>=λ_=>(do
      xA λσ=>{σ with waiting:=[],mode:=σ.kept}
      kZ rec t
      return ():M Unit)) j:=by
     rw[F,DW,M.Mo]
    replace H:=r;have q:=fV u;have N:=Y xs[k];clear F u r i e1 e2 hr' hL';rw[show NZ xs[k]= .iface 188 (.agg #[gh (xs[k].1),gh (xs[k].2.1),gH xs[k].2.2])from rfl]at c5 N
    go_wp21
    refine dC (N) H q HS rfl (λ_ _ _ _ h=>And.intro rfl (lS h)) ?_;clear H q;rintro(_) f σ w H HX HF q;go_wp2;go_roundw
    case rel=>exact⟨k+1,f,σ,by go_num,by omega,q,H⟩
    case measure=>simp[intOf];omega
   .have u:R=(kZ rec t>>=λ_=>(Pure.pure ():M Unit)) {j with waiting:=[],mode:=j.kept}:=by
     rw[F,Hk (by omega)];rfl
    have K:=(r.unlock X);obtain⟨y,z,c4⟩:∃y z,wr.cell? ⟨E.bB,194,none⟩=some (.slice y j.waiting.length z):=by
     have⟨L4,_,hr4⟩:=K.rel;have⟨y,z,e4⟩:=gF hr4.pC;exact⟨y,z,by rw[<-e4];exact hr4.abU⟩
    have f4:=K.free 194;have a7:=K.lt;have G:=K.OH X;have c5:=G.Td;have c6:=G.sB;have f6:=G.free 192;have a8:=G.lt;have H:=G.jh j.kept;have q:=fV u;clear F u r K G
    go_wp21
    refine dC (ui E rec HA t ht) H q HS rfl (λ_ _ _ _ h=>And.intro rfl (lS h)) ?_;clear H q;rintro(_) f σ w H HX HF q;go_wp2;go_end0;exact gw q H rfl
 |false=>
  have Y:Hid (∀x:Nat×Nat×gz,je (E.lock U xs) 109 (λ_=>#[Bp E,NZ x]) (Je d false x) uV):=HE;clear HE;go_enter func137,ntmps137
  go_wp21
  refine C1.mono ?_;rintro e w1 ⟨rfl,D⟩;have c1:=(D.cell (p:=⟨E.bB,194,none⟩) I (by simp)).trans c0;have O:E.bB < w1.heap.size:=mi I D.size;replace H:=H.k0 D;clear D C1
  go_wp21
  go_loopw [21] (λv wr=>∃(k:Nat) (g:Nat->Nat) (j:Ab),v=gh k/\k<=xs.length/\R=(rF d false (xs.drop k)>>=λ_=>(do
   xA λσ=>{σ with waiting:=[],mode:=σ.kept}
   kZ rec t
   return ():M Unit)) j/\At (E.lock U xs) f σ.nodes.length w g j wr) (λv _=>xs.length - (intOf v).toNat)
  case atStart=>exact⟨0,f,σ,rfl,iN _,q,H⟩
  case round=>
   clear H q c0 c1 I O;obtain⟨k,g,j,rfl,a6,F,r⟩:=hrel
   by_cases P:k < xs.length
   .have⟨L',hL',hr'⟩:=r.rel;have⟨e1,e2⟩:=hr'.Mf _ rfl;have i:=hr'.pC;rw[e1,e2]at i;dsimp only at i;rw[a2.out]at i;obtain⟨gb,rfl,c5⟩:=aeE.at i P;rw[DD P]at F;have u:R=(Je d false xs[k]>>=λ_=>rF d false (xs.drop (k+1))>>=λ_=>(do
      xA λσ=>{σ with waiting:=[],mode:=σ.kept}
      kZ rec t
      return ():M Unit)) j:=by
     rw[F,DW,M.Mo]
    replace H:=r;have q:=fV u;have N:=Y xs[k];clear F u r i e1 e2 hr' hL';rw[show NZ xs[k]= .iface 188 (.agg #[gh (xs[k].1),gh (xs[k].2.1),gH xs[k].2.2])from rfl]at c5 N
    go_wp21
    refine dC (N) H q HS rfl (λ_ _ _ _ h=>And.intro rfl (lS h)) ?_;clear H q;rintro(_) f σ w H HX HF q;go_wp2;go_roundw
    case rel=>exact⟨k+1,f,σ,by go_num,by omega,q,H⟩
    case measure=>simp[intOf];omega
   .have u:R=(kZ rec t>>=λ_=>(Pure.pure ():M Unit)) {j with waiting:=[],mode:=j.kept}:=by
     rw[F,Hk (by omega)];rfl
    have K:=(r.unlock X);obtain⟨y,z,c4⟩:∃y z,wr.cell? ⟨E.bB,194,none⟩=some (.slice y j.waiting.length z):=by
     have⟨L4,_,hr4⟩:=K.rel;have⟨y,z,e4⟩:=gF hr4.pC;exact⟨y,z,by rw[<-e4];exact hr4.abU⟩
    have f4:=K.free 194;have a7:=K.lt;have G:=K.OH X;have c5:=G.Td;have c6:=G.sB;have f6:=G.free 192;have a8:=G.lt;have H:=G.jh j.kept;have q:=fV u;clear F u r K G
    go_wp21
    refine dC (ui E rec HA t ht) H q HS rfl (λ_ _ _ _ h=>And.intro rfl (lS h)) ?_;clear H q;rintro(_) f σ w H HX HF q;go_wp2;go_end0;exact gw q H rfl
attribute [local go_sem] Oper.semAt_some
def LG (d:M Unit) (t:gO):M Unit:=λσ=>if σ.inScope (im [t.name]) Bn then d σ else .ok () σ
def Pz (E:Env) (v:gQ) (p:gz->Bool) (W:gx):Prop:=∃k lb,v= .func (.func k) #[] lb/\Ask E.bm v p W
def Pz.k {p : gz->Bool} (h:Pz E v p W) (d:Kept [] W W'):Pz E v p W':=by
 have⟨k,lb,e,ha⟩:=h;exact⟨k,lb,e,ha.k0 d⟩
def SlS (s:gz) (v:gQ) (W:gx):Prop:=∃g,v=oe g 1 1/\W.heap[g]?=some (gL #[gH s] 9)
def SlS.k (h:SlS s v W) (d:Kept [] W W'):SlS s v W':=by
 have⟨g,e,hb⟩:=h;exact⟨g,e,d.at hb (by simp)⟩
structure IfI (E:Env) (t:gO) (σ:Ab) (ta tb:Int) (tao:Option Addr) (tn tcp:Nat) (W0:gx) (z0 z1 z2 z3 z4 z5 z6 z7:Bool) (s4 s5 s6 s7 s8 s9 s10 s11:gQ) (W:gx):Prop where
 f0:z0=true->s4=iF E.bB
 f1:z1=true->s5=iJ E t
 f2:z2=true->s6= .agg #[gh ta,gh tb,gH t.name,.slice tao tn tcp]
 f3:z3=true->s7=gH t.name
 f4:z4=true->SlS t.name s8 W
 f5:z5=true->Pz E s9 (im [t.name]) W
 f6:z6=true->Pz E s10 Bn W
 f7:z7=true->s11= .bool (σ.inScope (im [t.name]) Bn)
 d2:z2=true->z1=true
 d3:z3=true->z2=true
 d4:z4=true->z3=true
 d5:z5=true->z4=true
 d7:z7=true->z0=true/\z5=true/\z6=true
 wi:Kept [] W0 W
theorem Ol (E:Env) (t:gO) (r:Ru) (P:M Unit) (z:mu E r t P) (b1 b2:Nat) (u:gQ) (h:RF E f σ w) (hs:LG P t σ≠ .stuck) (S:box w b1 (iF E.bB) 121) (O:box w b2 u 168) (hu:nY E.bm E.bB (f 0) r u w):
  Calls prog 237 #[iJ E t,iF b1,iF b2] w (Leaves E f σ.nodes.length w (LG P t σ) uV):=by
 obtain⟨R,hR⟩:∃R,R=LG P t σ:=⟨_,rfl⟩;rw[<-hR]at hs|-;have⟨ta,tb,tao,tn,tcp,HTG⟩:=EU E t h;have a2:=(λw=>Br ta tb t.name tao tn tcp w);have Q:=fV h;have HS:=hs;have HR:=fV hR;have a0:=fV O;have HU:=hu;have a7:=z;have a1:=(λW (hk:Kept [] w W)=>(by rw[fW (hk.at S (by simp))];rfl:W.cell? ⟨b1,0,none⟩=some (iF E.bB)));clear h hR O;go_enter func237,ntmps237
 go_wp21
 refine vL (by rfl) ?_
 try (change wpAny _ _ _ _ _ _ _ (World.drew _))
 refine zi (I:=λq ac W=>∃X Y Z z3 z4 z5 z6 z7 s4 s5 s6 s7 s8 s9 D F,q=#[X,Y,Z,z3,z4,z5,z6,z7]/\ac=⟨#[iJ E t,iF b1,iF b2,undef,s4,s5,s6,s7,s8,s9,D,F,undef,undef,undef],[]⟩/\IfI E t σ ta tb tao tn tcp w X Y Z z3 z4 z5 z6 z7 s4 s5 s6 s7 s8 s9 D F W) ?_ ?_ _ _ _ _ ?_ ?_
 .rintro q a W k ⟨X,Y,Z,z3,z4,z5,z6,z7,s4,s5,s6,s7,s8,s9,D,F,rfl,rfl,d⟩ hi;simp only[Region.ready,K9,Fg]at hi;have⟨V,hc⟩:=hi;have V:k < 8:=V;obtain rfl|rfl|rfl|rfl|rfl|rfl|rfl|rfl:k=0\/k=1\/k=2\/k=3\/k=4\/k=5\/k=6\/k=7:=by omega
  all_goals simp[Region.binds]at hc
  .refine j9 rfl ?_;intro K m;have ab:X=false:=by simp[hc]
   have cc:=a1 W d.wi;go_simp;refine m _ _ ⟨_,_,_,_,_,_,_,_,_,_,_,_,_,_,_,_,rfl,rfl,?_⟩;exact {d with f0:=(λ_=>rfl),d7:=(λU=>by have h2:=(d.d7 U).1;grind)}
  .refine j9 rfl ?_;intro K m;have S:Y=false:=by simp[hc]
   go_simp;refine m _ _ ⟨_,_,_,_,_,_,_,_,_,_,_,_,_,_,_,_,rfl,rfl,?_⟩;exact {d with f1:=(λ_=>rfl),d2:=(λ_=>rfl)}
  .refine j9 rfl ?_;intro K m;have O:Z=false:=by simp[hc]
   have e1:=d.f1 (by simp[hc]);subst e1;go_simp;refine(HTG W).mono ?_;rintro e W2 ⟨rfl,i⟩;refine m _ _ ⟨_,_,_,_,_,_,_,_,_,_,_,_,_,_,_,_,rfl,rfl,?_⟩;exact {d with f2:=(λ_=>rfl),f4:=(λh=>(d.f4 h).k i),f5:=(λh=>(d.f5 h).k i),f6:=(λh=>(d.f6 h).k i),d2:=(λ_=>by simp[hc]),d3:=(λ_=>rfl),wi:=(d.wi.trans i)}
  .refine j9 rfl ?_;intro K m;have ad:z3=false:=by simp[hc]
   have e2:=d.f2 (by simp[hc]);subst e2;have ai:=a2;go_simp;refine m _ _ ⟨_,_,_,_,_,_,_,_,_,_,_,_,_,_,_,_,rfl,rfl,?_⟩;exact {d with f3:=(λ_=>rfl),d3:=(λ_=>by simp[hc]),d4:=(λ_=>rfl)}
  .refine j9 rfl ?_;intro K m;have ae:z4=false:=by simp[hc]
   have e3:=d.f3 (by simp[hc]);subst e3;go_simp;have ka:Kept [] W (W.alloc (gL #[gH t.name] 9)):=(Kept.refl _ _).alloc _;refine m _ _ ⟨_,_,_,_,_,_,_,_,_,_,_,_,_,_,_,_,rfl,rfl,?_⟩;exact {d with f4:=(λ_=>⟨_,rfl,fX W _⟩),f5:=(λh=>(d.f5 h).k ka),f6:=(λh=>(d.f6 h).k ka),d4:=(λ_=>by simp[hc]),d5:=(λ_=>rfl),wi:=(d.wi.trans ka)}
  .refine j9 rfl ?_;intro K m;have af:z5=false:=by simp[hc]
   have e4:=d.f4 (by simp[hc]);have⟨g,e4,hg⟩:=d.f4 (by simp[hc]);subst e4;go_simp;refine(Ov E.bm g 1 [t.name] W hg (by simp)).mono ?_;rintro e W2 ⟨⟨v,rfl,ha⟩,i⟩;refine m _ _ ⟨_,_,_,_,_,_,_,_,_,_,_,_,_,_,_,_,rfl,rfl,?_⟩;exact {d with f4:=(λ_=>⟨g,rfl,i.at hg (by simp)⟩),f5:=(λ_=>(by have⟨k,lb,e,_,_⟩:=ha.call;exact⟨k,lb,e,ha⟩)),f6:=(λh=>(d.f6 h).k i),d5:=(λ_=>by simp[hc]),d7:=(λU=>by have h2:=(d.d7 U).2.1;grind),wi:=(d.wi.trans i)}
  .refine j9 rfl ?_;intro K m;have ag:z6=false:=by simp[hc]
   go_simp;refine(xz E W).mono ?_;rintro e W2 ⟨k,lb,rfl,ha,i⟩;refine m _ _ ⟨_,_,_,_,_,_,_,_,_,_,_,_,_,_,_,_,rfl,rfl,?_⟩;exact {d with f4:=(λh=>(d.f4 h).k i),f5:=(λh=>(d.f5 h).k i),f6:=(λ_=>⟨k,lb,rfl,ha⟩),d7:=(λU=>by have h2:=(d.d7 U).2.2;grind),wi:=(d.wi.trans i)}
  .refine j9 rfl ?_;intro K m;have ah:z7=false:=by simp[hc]
   have e0:=d.f0 (by simp[hc]);subst e0;have a5:=d.f5 (by simp[hc]);have a6:=d.f6 (by simp[hc]);go_simp;refine(wL (Q.io d.wi) (im [t.name]) Bn _ _ a5.choose_spec.choose_spec.2 a6.choose_spec.choose_spec.2).mono ?_;rintro e W2 ⟨rfl,i⟩;refine m _ _ ⟨_,_,_,_,_,_,_,_,_,_,_,_,_,_,_,_,rfl,rfl,?_⟩;exact {d with f4:=(λh=>(d.f4 h).k i),f5:=(λh=>(d.f5 h).k i),f6:=(λh=>(d.f6 h).k i),f7:=(λ_=>rfl),d7:=(λ_=>by simp[hc]),wi:=(d.wi.trans i)}
 .rintro q a W ⟨X,Y,Z,z3,z4,z5,z6,z7,s4,s5,s6,s7,s8,s9,D,F,rfl,rfl,d⟩ z;simp only[Region.ready,SM,Fg]at z;have q0:=z 0 (by decide);simp[Region.binds]at q0;subst q0;have q1:=z 1 (by decide);simp[Region.binds]at q1;subst q1;have q2:=z 2 (by decide);simp[Region.binds]at q2;subst q2;have q3:=z 3 (by decide);simp[Region.binds]at q3;subst q3;have q4:=z 4 (by decide);simp[Region.binds]at q4;subst q4;have q5:=z 5 (by decide);simp[Region.binds]at q5;subst q5;have q6:=z 6 (by decide);simp[Region.binds]at q6;subst q6;have q7:=z 7 (by decide);simp[Region.binds]at q7;subst q7;have e7:=d.f7 rfl;subst e7;have H:=(At.start Q).k0 d.wi;have G:=fV d.wi;clear d;cases hq:σ.inScope (im [t.name]) Bn with
  |false=>
   have a4:=(show R= .ok () σ by rw[HR.out];unfold LG;rw[hq];rfl);go_wp2;go_end0;exact gw a4 H rfl
  |true=>
   have N:R=P σ:=by rw[HR.out];unfold LG;rw[hq];rfl
   have a9:P σ≠ .stuck:=by rw[<-N];exact HS
   have aa:=nY.fr HU (Fr.n (bs:=E.bs) (.gU G) E.bm);have⟨k,bs,cs,hv,eg,HC⟩:=a7 u f σ W H.rel aa a9;subst hv;have c2:=fW (G.out.at a0.out (by simp)) 0;dsimp at c2;have a8:=fV N;clear N
   go_wp21
   refine HC.mono ?_;intro e W2 hL;have HL:=fV hL;have a3:=Fr.gU (bs:=E.bs) G;clear hL;have y:=fV a8;cases hrr:P σ with
   |ok a σ2=>
    rw[hrr]at HL y;obtain⟨g,g1,g2,rfl,g4,g5⟩:=HL;have HG:=H.go g4 g1 g2 g5;go_wp2;go_end0;exact gw y HG rfl
   |stop c p=>
    rw[hrr]at HL y;obtain⟨j,rfl,G2,g3⟩:=HL;have G3:=a3.trans g3;go_wp2;exact⟨rfl,pJ y G2 G3⟩
   |stuck=>grind
 .decide
 .exact⟨_,_,_,_,_,_,_,_,_,_,_,_,_,_,_,_,rfl,rfl,⟨(by simp),(by simp),(by simp),(by simp),(by simp),(by simp),(by simp),(by simp),(by simp),(by simp),(by simp),(by simp),(by simp),((Kept.refl _ _).drew)⟩⟩
end
end Go.Proofs.YtlhhgenpcjjajaaGreatDoor
