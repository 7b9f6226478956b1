import Derived.Test.YtlhhgenpcjjajaaGreatDoorOfC
import Derived.Laws.StructEq
import Derived.Lib.Builder
import Derived.Lib.UnsafeStr
import Derived.Maps.AppendAt
set_option linter.unusedSimpArgs false
set_option linter.unusedVariables false
set_option linter.defProp false
set_option maxHeartbeats 0
set_option maxRecDepth 100000
namespace Go.Proofs.YtlhhgenpcjjajaaGreatDoor
open Go.RowKit Go.PlainAid Tryz
def N7:=@List.getElem?_append_right
def Di:=@Lib.run_eql_slice_nil
def IU:=@List.take_append_drop
def yL:=@List.flatMap_append
def Hw:=@wpIn_rangeFunc
def MZ:=@World.alloc_heap_new
def AH:=@run_enterLoop_outer
def N2:=@World.putObj_heap_same
def Ft:=@run_endLoop
section
variable {A B C W W' w w' w0 : fO} {L : Loc} {T : List Nat} {a : Act} {assign body : Code} {fX : kZ} {b base bm l n n0 size : Nat} {c lb : jB} {e : TypeId} {f f0 : Nat->Nat} {o : Obj} {s : fN} {v x : gh} {vd : fN->Bool} {xs : List gh} {σ : Ab}
structure Sp where
 k:Int
 a:Int
 b:Int
structure En (w:fO) (g off n:Nat) (A:Nat->Sp):Prop where
 c0:∀i,i < n->w.cell? ⟨g,off+i*3,none⟩=some (fK (A i).k)
 c1:∀i,i < n->w.cell? ⟨g,off+i*3+1,none⟩=some (fK (A i).a)
 c2:∀i,i < n->w.cell? ⟨g,off+i*3+2,none⟩=some (fK (A i).b)
theorem O6 {d g j : Nat} (h:w.ownsRow base e size (mW g n d) n xs) (u:gh):(w.setCell ⟨g,j,none⟩ u).ownsRow base e size (mW g n d) n (xs.set j u):=by
 have⟨h1,k⟩:=h;refine⟨by grind,?_⟩;rcases k with⟨k,_⟩|⟨D,m,i,p,y,z,q,r,F,t⟩
 .cases k
 .simp only[Value.slice.injEq,Option.some.injEq,Addr.mk.injEq,and_true,true_and]at p;obtain⟨rfl,rfl⟩:=p;refine .inr ⟨g,d,i.setIfInBounds j u,rfl,y,fI z j u,q,r,by grind,?_⟩;rw[Array.toList_setIfInBounds,List.take_set,t]
def j8 (L:List Sp):List gh:=L.flatMap λp=>[fK p.k,fK p.a,fK p.b]
def pO (L M:List Sp):j8 (L++M)=j8 L++j8 M:=by simp[j8]
theorem rQ (L:List Sp):(j8 L).length=L.length*3:=by
 induction L with
 |nil=>rfl
 |cons p L ih=>show(Value.int .i64 p.k:: fK p.a:: fK p.b::j8 L).length=_;grind
def EY (M:List Sp) (l:Sp) (i:Nat) (d:i < 3):(j8 (M++[l]))[M.length*3+i]?=[Value.int .i64 l.k,fK l.a,fK l.b][i]?:=by
 rw[pO,N7 (by rw[rQ];omega),rQ,show M.length*3+i - M.length*3=i by omega];rfl
def SH (M:List Sp) (l:Sp) (b:Int):(j8 (M++[l])).set (M.length*3+2) (fK b)=j8 (M++[⟨l.k,l.a,b⟩]):=by
 rw[pO,pO,List.set_append_right _ _ (by rw[rQ];omega),rQ,show M.length*3+2 - M.length*3=2 by omega];rfl
def qA (L:List Sp) (s:Sp):List Sp:=match L.getLast? with
 |some l=>if s.k=1/\l.k=1 then L.dropLast++[⟨l.k,l.a,s.b⟩]else L++[s]
 |none=>L++[s]
def Vz (s:Sp):qA [] s=[s]:=rfl
def Mk (M:List Sp) (l s:Sp) (h:s.k=1/\l.k=1):qA (M++[l]) s=M++[⟨l.k,l.a,s.b⟩]:=by unfold qA;simp[h]
def Z9 (M:List Sp) (l s:Sp) (h:¬(s.k=1/\l.k=1)):qA (M++[l]) s=M++[l]++[s]:=by unfold qA;simp[h]
theorem Xq (L:List Sp) (s:Sp):(qA L s).length<=L.length+1:=by
 grind[qA]
def FE:(prog.info? 53).map (λi=>(i.zero,i.size,i.bytes))=some (some (.agg #[fK 0,fK 0,fK 0]),3,24):=by kernel_rfl
def xB (base:Nat) (w:fO) (v:gh) (L:List Sp) (s:Sp) (e:Ending) (w':fO):Prop:=
 ∃d,e=gO d/\w'.ownsRow base 53 3 d (qA L s).length (j8 (qA L s))/\Kept v.ownBlock.toList w w'
theorem Rg (base:Nat) (v:gh) (s:Sp) (w:fO) (k:w.ownsRow base 53 3 v 0 (j8 [])) (h:base<=w.heap.size):
  Calls prog 60 #[v,.agg #[fK s.k,fK s.a,fK s.b]] w λe w'=>xB base w v [] s e w':=by
 obtain⟨K,H,p,q,r⟩:=tL FE;have⟨ao,cp,hv⟩:=fS k;subst hv;have⟨sk,sa,sb⟩:=s;have d:qA [] ⟨sk,sa,sb⟩=[]++[⟨sk,sa,sb⟩]:=Vz _;simp only;have P:=k;have D:=fx d;have N:Kept [] w (w.alloc (.cells #[fK sk,fK sa,fK sb] 53)):=(Kept.refl _ _).alloc _;have g:=N.ownsRow k (λ_ _=>by simp);clear d;have t:w.heap.size < w.heap.size+1:=by omega
 go_enter func60,ntmps60;go_wp2_with (at_builtin;refine gQ _ rfl _ _ 26 rfl base 53 K (.agg #[fK 0,fK 0,fK 0]) 3 24 underlying26 H p q r rfl (by decide) _ _ _ rfl (g.alloc _) ⟨w.heap.size+1,0,none⟩ 1 1 [fK sk,fK sa,fK sb] rfl ?c1 ?c2 ?c3 ?c4 ?c5 ?c6 ?_)
 case c1=>rfl
 case c2=>
  intro j u Q;have h:=fB (w.alloc (.cells #[fK sk,fK sa,fK sb] 53)) (.cells #[fK sk,fK sa,fK sb] 53);simp only[xa]at h;rw[iT,fw h]
  grind
 case c3=>intro u y;simp at y;rcases y with rfl|rfl|rfl<;>rfl
 case c4=>unfold maxLen;omega
 case c5=>omega
 case c6=>simp;omega
 intro z O m i G;have F:Hid (xB base w (.slice ao 0 cp) [] ⟨sk,sa,sb⟩ (gO z) O):=by
  refine⟨z,rfl,?_,?_⟩
  .rw[D.out,pO,lY];exact m
  .exact((Kept.refl _ _).alloc _|>.alloc _).grown i (λx I=> .inl (by simp[I]))
 go_wp2;go_ret;exact F
theorem MR (base:Nat) (v:gh) (M:List Sp) (l s:Sp) (w:fO) (r:w.ownsRow base 53 3 v (M.length+1) (j8 (M++[l]))) (t:base<=w.heap.size) (hM:M.length<=4096) (m:¬(s.k=1/\l.k=1)):
  Calls prog 60 #[v,.agg #[fK s.k,fK s.a,fK s.b]] w λe w'=>xB base w v (M++[l]) s e w':=by
 obtain⟨X,U,D,F,G⟩:=tL FE;obtain⟨g,I,O⟩:∃g I,v=mW g (M.length+1) I:=by
  rcases r.2 with⟨_,h0⟩|⟨g,Z,a0,h,_⟩
  all_goals grind
 have hg:g < w.heap.size:=by subst O;exact(r.lt g rfl).2
 have c0:w.cell? ⟨g,M.length*3,none⟩=some (fK l.k):=by
  subst O;have:=r.cells (g:=g) rfl (M.length*3) _ (by have:=EY M l 0 (by omega);simpa using this)
  rwa [iT]at this
 obtain⟨S,a1⟩:∃S:Option Addr,S=some ⟨g,0,none⟩:=⟨_,rfl⟩;have⟨sk,sa,sb⟩:=s;simp only at m|-;have d:qA (M++[l]) ⟨sk,sa,sb⟩=(M++[l])++[⟨sk,sa,sb⟩]:=Z9 M l _ m;subst O
 by_cases V:sk=1
 .have hl:¬l.k=1:=λh=>m ⟨V,h⟩;subst V;clear m;have Y:=r;have K:=fx d;have Q:Kept [] w (w.alloc (.cells #[fK 1,fK sa,fK sb] 53)):=(Kept.refl _ _).alloc _;have p:=Q.ownsRow r (λ_ _=>by simp);clear d;have y:w.heap.size < w.heap.size+1:=by omega
  go_enter func60,ntmps60;go_wp2_with (at_builtin;refine gQ _ rfl _ _ 26 rfl base 53 X (.agg #[fK 0,fK 0,fK 0]) 3 24 underlying26 U D F G rfl (by decide) _ _ _ rfl (p.alloc _) ⟨w.heap.size+1,0,none⟩ 1 1 [fK 1,fK sa,fK sb] rfl ?c1 ?c2 ?c3 ?c4 ?c5 ?c6 ?_)
  case c1=>rfl
  case c2=>
   intro j u hj;have t:=fB (w.alloc (.cells #[fK 1,fK sa,fK sb] 53)) (.cells #[fK 1,fK sa,fK sb] 53);simp only[xa]at t;rw[iT,fw t]
   grind
  case c3=>intro u z;simp at z;rcases z with rfl|rfl|rfl<;>rfl
  case c4=>unfold maxLen;omega
  case c5=>omega
  case c6=>simp;omega
  intro H R k i q;have N:Hid (xB base w (mW g (M.length+1) I) (M++[l]) ⟨1,sa,sb⟩ (gO H) R):=by
   refine⟨H,rfl,?_,?_⟩
   .rw[K.out,pO,lY];rw[show(M++[l]).length+[(⟨1,sa,sb⟩:Sp)].length=M.length+1+1 from by simp];exact k
   .exact((Kept.refl _ _).alloc _|>.alloc _).grown i (λx P=> .inl (by simp[P]))
  clear k i q;go_wp2;go_ret;exact N
 .skip
  have Y:=r;have K:=fx d;have Q:Kept [] w (w.alloc (.cells #[fK sk,fK sa,fK sb] 53)):=(Kept.refl _ _).alloc _;have p:=Q.ownsRow r (λ_ _=>by simp);clear d;have y:w.heap.size < w.heap.size+1:=by omega
  go_enter func60,ntmps60;go_wp2_with (at_builtin;refine gQ _ rfl _ _ 26 rfl base 53 X (.agg #[fK 0,fK 0,fK 0]) 3 24 underlying26 U D F G rfl (by decide) _ _ _ rfl (p.alloc _) ⟨w.heap.size+1,0,none⟩ 1 1 [fK sk,fK sa,fK sb] rfl ?c1 ?c2 ?c3 ?c4 ?c5 ?c6 ?_)
  case c1=>rfl
  case c2=>
   intro j u hj;have t:=fB (w.alloc (.cells #[fK sk,fK sa,fK sb] 53)) (.cells #[fK sk,fK sa,fK sb] 53);simp only[xa]at t;rw[iT,fw t]
   grind
  case c3=>intro u z;simp at z;rcases z with rfl|rfl|rfl<;>rfl
  case c4=>unfold maxLen;omega
  case c5=>omega
  case c6=>simp;omega
  intro H R k i q;have N:Hid (xB base w (mW g (M.length+1) I) (M++[l]) ⟨sk,sa,sb⟩ (gO H) R):=by
   refine⟨H,rfl,?_,?_⟩
   .rw[K.out,pO,lY];rw[show(M++[l]).length+[(⟨sk,sa,sb⟩:Sp)].length=M.length+1+1 from by simp];exact k
   .exact((Kept.refl _ _).alloc _|>.alloc _).grown i (λx P=> .inl (by simp[P]))
  clear k i q;go_wp2;go_ret;exact N
theorem OG (base:Nat) (v:gh) (M:List Sp) (l s:Sp) (w:fO) (d:w.ownsRow base 53 3 v (M.length+1) (j8 (M++[l]))) (K:M.length<=4096) (q:s.k=1) (r:l.k=1):
  Calls prog 60 #[v,.agg #[fK s.k,fK s.a,fK s.b]] w λe w'=>xB base w v (M++[l]) s e w':=by
 have⟨sk,sa,sb⟩:=s;simp only at q|-;subst q;obtain⟨g,i,z⟩:∃g i,v=mW g (M.length+1) i:=by
  rcases d.2 with⟨_,I⟩|⟨g,u,k,h,_⟩
  all_goals grind
 subst z;have N:g < w.heap.size:=(d.lt g rfl).2;have D:w.cell? ⟨g,M.length*3,none⟩=some (fK 1):=by
  have:=d.cells (g:=g) rfl (M.length*3) _ (by have:=EY M l 0 (by omega);simpa using this)
  rwa [iT,r]at this
 have F:w.cell? ⟨g,M.length*3+2,none⟩=some (fK l.b):=by
  have:=d.cells (g:=g) rfl (M.length*3+2) _ (by have:=EY M l 2 (by omega);simpa using this)
  rwa [iT]at this
 have G:w.frozen? ⟨g,M.length*3+2,none⟩=false:=by
  rcases d.2 with⟨h,_⟩|⟨H,m,k,h,_,y,_⟩
  .cases h
  .simp only[Value.slice.injEq,Option.some.injEq,Addr.mk.injEq,and_true,true_and]at h;obtain⟨rfl,rfl⟩:=h;exact fA y _
 have t:Hid (xB base w (mW g (M.length+1) i) (M++[l]) ⟨1,sa,sb⟩ (gO (mW g (M.length+1) i)) ((w.setCell ⟨g,M.length*3+2,none⟩ (fK sb)).alloc (.cells #[fK 1,fK sa,fK sb] 53))):=by
  refine⟨_,rfl,?_,?_⟩
  .rw[Mk M l _ ⟨rfl,r⟩];have p:=O6 (j:=M.length*3+2) d (fK sb);rw[SH]at p
   simpa using p.alloc _
  .exact((Kept.refl [g] w).setCell (.inl (by simp)) _).alloc _
 go_enter func60,ntmps60;go_wp2;go_ret;exact t
def PA (base:Nat) (v:gh) (L:List Sp) (s:Sp) (w:fO) (d:w.ownsRow base 53 3 v L.length (j8 L)) (i:base<=w.heap.size) (g:L.length<=4096):
  Calls prog 60 #[v,.agg #[fK s.k,fK s.a,fK s.b]] w λe w'=>xB base w v L s e w':=by
 rcases Uc L with rfl|⟨M,l,rfl⟩
 .exact Rg base v s w d i
 .rw[List.concat_eq_append]at d g|-;simp only[lY,sV,vZ,Nat.zero_add]at d g
  by_cases h:s.k=1/\l.k=1
  .exact OG base v M l s w d (by omega) h.1 h.2
  .exact MR base v M l s w d i (by omega) h
theorem Pl (p q:Addr) (w:fO):
  CallsD prog 51 #[.pointer (some p),.pointer (some q)] .returning w λe h w'=>e=oS/\h= .returning/\w'=w:=by
 refine callsD_of_wpS func51 rfl λd i g=>?_;apply wpS_seq;apply wpS_region;simp[wpOpsS,go_sem,recoverD,g,ntmps51,Exit.thenS];apply wpS_seq;apply wpS_region;simp[wpOpsS,go_sem,Exit.thenS];refine wpS_cond (t:=false) (by simp[Act.eval,Array.replicate]) ?_;simp only[rL,wA];refine wpS_of_wp (wp_skip ?_);cases d
 simp_all[bodyPostS,results,results51]
def Xg (E:Env) (a b:Nat) (s:fN) (w:fO):Calls prog 58 #[hH E ⟨a,b,.jq s,[]⟩] w λe w'=>e=gO (fK 1)/\w'=w:=by
 simp only[hH];have d:=qG underlying188;go_enter func58,ntmps58;go_wp2;go_ret;simp
def Y3 (E:Env) (a b:Nat) (w:fO):Calls prog 58 #[hH E ⟨a,b,.il,[]⟩] w λe w'=>e=gO (fK 0)/\w'=w:=by
 simp only[hH];have j:=vj;have g:=sE;have h:=vQ;have d:=qg;have i:=yj;have k:=adO;go_enter func58,ntmps58;go_wp2;go_ret;simp
def PW (E:Env) (f:Nat->Nat) (σ:Ab) (w:fO) (h:RF E f σ w):Calls prog 59 #[Bp E] w λe w'=>e=gO (nV f 0)/\w'=w:=by
 have c:=(At.start h).xL;have d:=h.lt;go_enter func59,ntmps59;go_wp2;go_ret;simp
inductive Tn
 |el (name:fN) (fX:kZ) (kids:List Tn)
 |tx (s:fN)
 |cm (s:fN)
 |dt (s:fN)
inductive Ev
 |dt (s:fN)
 |cm (s:fN)
 |tx (s:fN)
 |enter (name:fN) (fX:kZ)
 |vA (name:fN)
variable {J : List Ev->fO->Prop} {tot : List Ev}
mutual
def Hf (vd:fN->Bool):Tn->List Ev
 | .el name fX ks=> .enter name fX::(if vd name then []else uZ vd ks++[.vA name])
 | .tx s=>[.tx s]
 | .cm s=>[.cm s]
 | .dt s=>[.dt s]
def uZ (vd:fN->Bool):List Tn->List Ev
 |[]=>[]
 |t::ts=>Hf vd t++uZ vd ts
end
abbrev Do (fX:kZ):List gh:=fX.flatMap λa=>[fR a.1,fR a.2]
abbrev AN (w:fO) (v:gh) (fX:kZ):Prop:=w.ownsRow 0 299 2 v fX.length (Do fX)
mutual
def jo (w:fO):Tn->Nd->Prop
 | .el name fX ks,.el k=>∃g d kv h,El 0 w k name g d kv h/\AN w g fX/\fX.length<=4096/\qO w ks h
 | .tx s,.tx k=>w.heap[k]?=some (fV #[fR s] 284)
 | .cm s,.cm k=>w.heap[k]?=some (fV #[fR s] 239)
 | .dt s,.dt k=>w.heap[k]?=some (fV #[fR s] 243)
 |_,_=>False
def qO (w:fO):List Tn->List Nd->Prop
 |[],[]=>True
 |t::ts,n::ns=>jo w t n/\qO w ts ns
 |_,_=>False
end
theorem qO.len:∀{g:List Tn} {d:List Nd},qO w g d->g.length=d.length
 |[],[],_=>rfl
 |_::_,_::_,h=>by unfold qO at h;simp[qO.len h.2]
 |[],_::_,h=>by unfold qO at h;grind
 |_::_,[],h=>by unfold qO at h;grind
theorem qO.get:∀{g:List Tn} {d:List Nd} (_:qO w g d) (k:Nat) (i:k < g.length) (j:k < d.length),jo w g[k] d[k]
 |[],_,_,_,i,_=>by grind
 |_::_,[],h,_,_,_=>by grind
 |_::_,_::_,h,0,_,_=>by unfold qO at h;exact h.1
 |_::_,_::_,h,k+1,i,j=>by
  unfold qO at h;exact qO.get h.2 k (by grind) (by grind)
def Ck (vd:fN->Bool):∀(a b:List Tn),uZ vd (a++b)=uZ vd a++uZ vd b
 |[],b=>by rfl
 |t::a,b=>by simp[uZ,Ck vd a b]
def acM (vd:fN->Bool) (t:Tn):uZ vd [t]=Hf vd t:=by simp[uZ]
def UN (T:TypeId) (x:gh) (m:String) (args:jB) (w0:fO) (tot:List Ev) (J:List Ev->fO->Prop) (d:Ev) (r:gh):Prop:=
 ∃f y,(∀w,(Go.method 500 T x m).run prog w= .ok (f,y) w)/\(∀w,(nilAhead 500 T x m).run prog w= .ok (some false) w)/\(∀args w,(callFunc f args).run prog w= .ok (.enter f args) w)/\
  ∀pre W,Kept [] w0 W->J pre W->pre++[d] <+:tot->Calls prog f (#[y]++args) W λe W'=>e=gO r/\J (pre++[d]) W'/\Kept [] w0 W'
structure cq (T:TypeId) (x:gh) (vd:fN->Bool) (tot:List Ev) (w0:fO) (J:List Ev->fO->Prop):Prop where
 mono:∀pre W W',J pre W->Kept [] W W'->J pre W'
 dt:∀s,UN T x "Doctype" #[fR s] w0 tot J (.dt s) (.tuple #[])
 cm:∀s,UN T x "Comment" #[fR s] w0 tot J (.cm s) (.tuple #[])
 tx:∀s,UN T x "Text" #[fR s] w0 tot J (.tx s) (.tuple #[])
 vA:∀s,UN T x "Leave" #[fR s] w0 tot J (.vA s) (.tuple #[])
 enter:∃f y,(∀w,(Go.method 500 T x "Enter").run prog w= .ok (f,y) w)/\(∀w,(nilAhead 500 T x "Enter").run prog w= .ok (some false) w)/\(∀args w,(callFunc f args).run prog w= .ok (.enter f args) w)/\
  ∀pre W s av fX,Kept [] w0 W->J pre W->pre++[.enter s fX] <+:tot->AN W av fX->fX.length<=4096->Calls prog f #[y,fR s,av] W λe W'=>e=gO (.bool (!vd s))/\J (pre++[.enter s fX]) W'/\Kept [] w0 W'
theorem ae9 {T : TypeId} (V:cq T x vd tot w0 J) (k:Nat) (s:fN) (pre:List Ev) (W:fO) (j:Kept [] w0 W) (i:J pre W) (r:pre++[.tx s] <+:tot) (m:W.heap[k]?=some (fV #[fR s] 284)):
  Calls prog 445 #[fW k,.iface T x] W λe W'=>e=oS/\J (pre++[.tx s]) W'/\Kept [] w0 W':=by
 have p:∀(g:Fn) (first d:jB) (w:fO),(Instr.makeFunc g first d).run prog w= .ok (.func g first d) w:=λ_ _ _ _=>rfl;have⟨f,y,hm,hna,hcf,hc⟩:=V.tx s;have C:=(λq=>hc pre (W.drewN q) (j.drewN q) (V.mono _ _ _ i ((Kept.refl _ _).drewN q)) r);have h:=fw m 0;dsimp at h;generalize hJJ:J (pre++[.tx s])=t at C|-;go_enter func445,ntmps445
 go_wp21
 go_region_with (refine(C _).mono ?_;rintro e u ⟨rfl,z,D⟩)
 all_goals (try go_wp2)
 all_goals (go_end0;grind)
theorem XK {T : TypeId} (V:cq T x vd tot w0 J) (k:Nat) (s:fN) (pre:List Ev) (W:fO) (j:Kept [] w0 W) (i:J pre W) (r:pre++[.cm s] <+:tot) (m:W.heap[k]?=some (fV #[fR s] 239)):
  Calls prog 443 #[fW k,.iface T x] W λe W'=>e=oS/\J (pre++[.cm s]) W'/\Kept [] w0 W':=by
 have p:∀(g:Fn) (first d:jB) (w:fO),(Instr.makeFunc g first d).run prog w= .ok (.func g first d) w:=λ_ _ _ _=>rfl;have⟨f,y,hm,hna,hcf,hc⟩:=V.cm s;have C:=(λq=>hc pre (W.drewN q) (j.drewN q) (V.mono _ _ _ i ((Kept.refl _ _).drewN q)) r);have h:=fw m 0;dsimp at h;generalize hJJ:J (pre++[.cm s])=t at C|-;go_enter func443,ntmps443
 go_wp21
 go_region_with (refine(C _).mono ?_;rintro e u ⟨rfl,z,D⟩)
 all_goals (try go_wp2)
 all_goals (go_end0;grind)
theorem Yw {T : TypeId} (V:cq T x vd tot w0 J) (k:Nat) (s:fN) (pre:List Ev) (W:fO) (j:Kept [] w0 W) (i:J pre W) (r:pre++[.dt s] <+:tot) (m:W.heap[k]?=some (fV #[fR s] 243)):
  Calls prog 444 #[fW k,.iface T x] W λe W'=>e=oS/\J (pre++[.dt s]) W'/\Kept [] w0 W':=by
 have p:∀(g:Fn) (first d:jB) (w:fO),(Instr.makeFunc g first d).run prog w= .ok (.func g first d) w:=λ_ _ _ _=>rfl;have⟨f,y,hm,hna,hcf,hc⟩:=V.dt s;have C:=(λq=>hc pre (W.drewN q) (j.drewN q) (V.mono _ _ _ i ((Kept.refl _ _).drewN q)) r);have h:=fw m 0;dsimp at h;generalize hJJ:J (pre++[.dt s])=t at C|-;go_enter func444,ntmps444
 go_wp21
 go_region_with (refine(C _).mono ?_;rintro e u ⟨rfl,z,D⟩)
 all_goals (try go_wp2)
 all_goals (go_end0;grind)
def Y8:(prog.info? 299).map (λi=>(i.zero,i.size,i.bytes))=some (some (.agg #[fR js,fR js]),2,32):=by kernel_rfl
theorem Nr (L:kZ):(Do L).length=L.length*2:=by
 induction L with
 |nil=>rfl
 |cons a L ih=>grind
theorem ad7 (v:gh) (L:kZ) (w:fO) (k:AN w v L) (hL:L.length<=4096):
  Calls prog 413 #[v] w λe w'=>∃i,e=gO i/\AN w' i L/\Kept [] w w':=by
 obtain⟨i0,hi,D,F,G⟩:=tL Y8;rcases k.2 with⟨rfl,V⟩|⟨g,d,U,rfl,X,Z,_⟩
 .have hn:=λw=>Di (P:=prog) w 137 299 none 0 0 0 0 underlying137;have:L=[]:=R3 V;subst this;clear k;go_enter func413,ntmps413;go_wp2;go_ret;exact⟨_,rfl,oD _ _ _ _,Kept.refl _ _⟩
 .have hn:=λw=>Di (P:=prog) w 137 299 (some ⟨g,0,none⟩) L.length d 0 0 underlying137;have S:=fx k;have t:=iB Z;have I:(w.alloc (.cells #[] 299)).ownsRow w.heap.size 299 2 (mW w.heap.size 0 0) 0 []:=
   ⟨rfl,.inr ⟨w.heap.size,0,#[],rfl,gr _,fB w _,gr _,im _,rfl,rfl⟩⟩
  clear k;go_enter func413,ntmps413;go_wp2_with (at_builtin;refine gQ _ rfl _ _ 137 rfl w.heap.size 299 i0 (.agg #[fR js,fR js]) 2 32 underlying137 hi D F G rfl (by decide) _ _ _ rfl I ⟨g,0,none⟩ L.length d (Do L) rfl ?c1 ?c2 ?c3 ?c4 ?c5 ?c6 ?_)
  case c1=>exact Nr L
  case c2=>
   intro j u hj;have:=S.cells (g:=g) rfl j u hj;rw[iT]at this|-;rw[<-this];exact pR _ _ _ t
  case c3=>
   intro u z;unfold Do at z;simp at z;obtain⟨p,q,_,h|h⟩:=z<;>(subst h;rfl)
  case c4=>omega
  case c5=>omega
  case c6=>simp
  intro i H y m Y;have O:H.ownsRow w.heap.size 299 2 i L.length (Do L):=by simpa using y
  have Q:AN H i L:=by
   refine⟨O.1,?_⟩;rcases O.2 with e|⟨g1,K,N,e,_,r⟩
   .exact .inl e
   .grind
  have R:Hid (Kept [] w H):=((Kept.refl [] w).alloc _).grown m (λx hx=> .inr (I.lt x hx).1);go_wp2;go_ret;exact⟨_,rfl,Q,R⟩
theorem AN.kept (h:AN w v fX) (m:Kept [] w w'):AN w' v fX:=by
 refine⟨h.1,?_⟩;rcases h.2 with e|⟨g,d,i,e,j,k,r⟩
 .grind
 .exact .inr ⟨g,d,i,e,j,m.at k (by simp),r⟩
theorem El.gJ {k : Nat} {d : fN} {av : gh} {i : iM} {kv : gh} {ns:List Nd} (h:El 0 w k d av i kv ns) (p:Kept [] w w'):El 0 w' k d av i kv ns:=by
 refine⟨p.at h.gR (by simp),⟨h.row.1,?_⟩,h.le,h.UG⟩;rcases h.row.2 with e|⟨g,j,m,e,q,t,r⟩
 .grind
 .exact .inr ⟨g,j,m,e,q,p.at t (by simp),r⟩
mutual
theorem jo.kept (d:Kept [] w w'):∀{t:Tn} {n:Nd},jo w t n->jo w' t n
 | .el name fX ks,.el k,h=>by
  unfold jo at h|-;have⟨av,iJ,kv,ns,h1,h2,h3,h4⟩:=h;exact⟨av,iJ,kv,ns,h1.gJ d,h2.kept d,h3,qO.kept d h4⟩
 | .tx _,.tx _,h=>by unfold jo at h|-;exact d.at h (by simp)
 | .cm _,.cm _,h=>by unfold jo at h|-;exact d.at h (by simp)
 | .dt _,.dt _,h=>by unfold jo at h|-;exact d.at h (by simp)
 | .el _ _ _,.tx _,h=>by grind[jo]
 | .el _ _ _,.cm _,h=>by grind[jo]
 | .el _ _ _,.dt _,h=>by grind[jo]
 | .tx _,.el _,h=>by grind[jo]
 | .tx _,.cm _,h=>by grind[jo]
 | .tx _,.dt _,h=>by grind[jo]
 | .cm _,.el _,h=>by grind[jo]
 | .cm _,.tx _,h=>by grind[jo]
 | .cm _,.dt _,h=>by grind[jo]
 | .dt _,.el _,h=>by grind[jo]
 | .dt _,.tx _,h=>by grind[jo]
 | .dt _,.cm _,h=>by grind[jo]
theorem qO.kept (i:Kept [] w w'):∀{g:List Tn} {d:List Nd},qO w g d->qO w' g d
 |[],[],_=>by simp[qO]
 |t::g,n::d,h=>by
  unfold qO at h|-;exact⟨jo.kept i h.1,qO.kept i h.2⟩
 |[],_::_,h=>by grind[qO]
 |_::_,[],h=>by grind[qO]
end
section
variable {T:TypeId} {x:gh} {vd:fN->Bool} {tot:List Ev} {w0:fO} {J:List Ev->fO->Prop}
def ze:Nd->Nat
 | .el _=>412
 | .tx _=>445
 | .cm _=>443
 | .dt _=>444
def Nd.bk:Nd->Nat
 | .el k=>k
 | .tx k=>k
 | .cm k=>k
 | .dt k=>k
def G1 (T:TypeId) (x:gh) (vd:fN->Bool) (tot:List Ev) (w0:fO) (J:List Ev->fO->Prop) (t:Tn) (n:Nd):Prop:=
 ∀pre W,Kept [] w0 W->J pre W->pre++Hf vd t <+:tot->
  Calls prog (ze n) #[fW n.bk,.iface T x] W λe W'=>e=oS/\J (pre++Hf vd t) W'/\Kept [] w0 W'
def MB (n:Nd) (w:fO):∃t y,n.val= .iface t y/\y=fW n.bk/\(∀w,(Go.method 500 t y "Visit").run prog w= .ok (ze n,y) w):=by
 cases n with
 |el k=>exact⟨_,_,rfl,rfl,λw=>by kernel_rfl⟩
 |tx k=>exact⟨_,_,rfl,rfl,λw=>by kernel_rfl⟩
 |cm k=>exact⟨_,_,rfl,rfl,λw=>by kernel_rfl⟩
 |dt k=>exact⟨_,_,rfl,rfl,λw=>by kernel_rfl⟩
def Wp (n:Nd):∀d w,(callFunc (ze n) d).run prog w= .ok (.enter (ze n) d) w:=by
 cases n with
 |el k=>simp[ze]
 |tx k=>simp[ze]
 |cm k=>simp[ze]
 |dt k=>simp[ze]
theorem SU {a b c:List Ev} (h:a++(b++c) <+:tot):a++b <+:tot:=by
 have⟨r,hr⟩:=h
 grind
theorem Gb (V:cq T x vd tot w0 J) (k:Nat) (r:fN) (av:gh) (K:iM) (kv:gh) (d:List Tn) (ns:List Nd) (U:d.length=ns.length)
  (q:El 0 w0 k r av K kv ns) (hv:∀i (D:i < d.length) (u:i < ns.length),G1 T x vd tot w0 J d[i] ns[i]) (pre:List Ev) (W:fO) (S:Kept [] w0 W) (hJ:J pre W) (hp:pre++uZ vd d <+:tot):
  Calls prog 42 #[fW k,.iface T x] W λe W'=>e=oS/\J (pre++uZ vd d) W'/\Kept [] w0 W':=by
 have Q:=fw ((q.gJ S).gR) 3;dsimp at Q;have G:=q.le;have⟨ao,cap,hkv⟩:=fS q.row;have N:=fx q;have HV:=hv;have Y:=hp;have HJ:=hJ;have HK:=S;have O:=fx U;obtain⟨n,I⟩:∃n,n=ns.length:=⟨_,rfl⟩;have P:=fx I;subst hkv;rw[<-I]at Q G;clear q U I;go_enter func42,ntmps42
 go_wp21
 go_loopw [11] (λv wr=>∃i:Nat,v=fK i/\i<=n/\J (pre++uZ vd (d.take i)) wr/\Kept [] w0 wr) (λv _=>n - (intOf v).toNat)
 case atStart=>grind[uZ]
 case round=>
  obtain⟨i,rfl,hi,m,h⟩:=hrel
  by_cases H:i < n
  .have u:i < ns.length:=by rw[<-P.out];exact H
   have D:i < d.length:=by rw[O.out];exact u
   have⟨t,y,hval,hy,hm⟩:=MB ns[i] wr;have a1:=Wp ns[i];obtain⟨g,F⟩:∃g,ao=some ⟨g,0,none⟩:=by
    rcases N.row.2 with⟨e,h0⟩|⟨g,R,a0,e,_⟩
    all_goals grind
   subst F;have hc:wr.cell? ⟨g,i,none⟩=some (.iface t y):=by
    have:=(N.gJ h).row.cells (g:=g) rfl i ns[i].val (by simp[u]);rw[iT]at this;rw[<-hval]
    simpa using this
   have j:uZ vd (d.take (i+1))=uZ vd (d.take i)++Hf vd d[i]:=by
    rw[IW,pY D,Ck];simp[acM]
   have X:pre++uZ vd (d.take (i+1)) <+:tot:=by
    refine SU (c:=uZ vd (d.drop (i+1))) ?_;rw[<-Ck,IU];exact Y
   have C:=HV i D u _ wr h m (by grind);rw[vw,<-j]at C;rw[hy]at hc hm;generalize ze ns[i]=fv at *;generalize ns[i].bk=kb at *;generalize hZ:J (pre++uZ vd (d.take (i+1)))=Z at C;have HZ:=fx hZ;clear hZ
   go_wp21
   refine C.mono ?_;rintro e W2 ⟨rfl,z,p⟩;go_wp2;go_roundw
   case rel=>exact⟨i+1,by go_num,by omega,by rw[HZ.out];exact z,p⟩
   case measure=>simp[intOf];omega
  .have he:d.take i=d:=Bd (by rw[O.out,<-P.out];omega);rw[he]at m;have p:=h;go_wp2;go_end0
   grind
theorem Zq (V:cq T x vd tot w0 J) (k:Nat) (d:fN) (fX:kZ) (av:gh) (U:iM) (kv:gh) (j:List Tn) (ns:List Nd) (hl:j.length=ns.length)
  (O:El 0 w0 k d av U kv ns) (hA:AN w0 av fX) (z:fX.length<=4096) (hv:∀i (h1:i < j.length) (h2:i < ns.length),G1 T x vd tot w0 J j[i] ns[i]):G1 T x vd tot w0 J (.el d fX j) (.el k):=by
 intro pre W m hJ Y;show Calls prog 412 #[fW k,.iface T x] W _;have a5:∀(fn:Fn) (first N:jB) (w:fO),(Instr.makeFunc fn first N).run prog w= .ok (.func fn first N) w:=λ_ _ _ _=>rfl;have X:=fw ((O.gJ m).gR) 0;have c1:=fw ((O.gJ m).gR) 1;dsimp at X c1;have Q:pre++[.enter d fX] <+:tot:=by
  unfold Hf at Y;exact SU (b:=[.enter d fX]) (by simpa using Y)
 have⟨f,y,hm,hna,hcf,hc⟩:=V.enter;have C1:=fx (λq=>ad7 av fX (W.drewN q) ((hA.kept m).kept ((Kept.refl _ _).drewN q)) z);have C2:=fx (λq H v1 (D:Kept [] (W.drewN q) H) (ha:AN H v1 fX)=>hc pre H d v1 fX ((m.drewN q).trans D) (V.mono _ _ _ hJ (((Kept.refl _ _).drewN q).trans D)) Q ha z);have⟨ao,n,cp,hav⟩:=O.UG;subst hav;have HV:=fx V;have HE:=fx O;have HW:=fx hv;have HP:=fx Y;have HL:=fx hl;have a2:=fx m;clear hc V m hJ Y Q hA z O hv hl;go_enter func412,ntmps412
 go_wp21
 go_cut [17]from 4 to 16 (λr wc=>r= .bool (!vd d)/\J (pre++[.enter d fX]) wc/\Kept [] w0 wc)
 case first=>
  go_region_with (first
   |(go_at_call 413;refine(C1.out _).mono ?_;rintro e H ⟨v1,rfl,u,F⟩;have⟨ao1,cp1,hv1⟩:=fS u;subst hv1;have a0:=fx u;have a1:=fx F;have c2:H.cell? ⟨k,0,none⟩=some (fR d):=(by rw[fw (HE.out.gJ ((a2.out.drewN _).trans F)).gR];rfl);clear u F)
   |(refine(C2.out _ _ _ a1.out a0.out).mono ?_;rintro e I ⟨rfl,h,g⟩;have p:=fx h;have t:=fx g;clear h g))
  all_goals (try (go_wp21))
  all_goals (go_meet;exact⟨rfl,p.out,t.out⟩)
 case rest=>
  obtain⟨rfl,P,D⟩:=hcut;clear C1 C2 hm hna hcf X c1;cases hvd:vd d with
  |true=>
   have G:pre++Hf vd (.el d fX j)=pre++[.enter d fX]:=by simp[Hf,hvd]
   rw[<-G]at P;have HJ:=fx P;have HK:=fx D;clear P D G;rename_i K m;refine m _ _ ?_;clear m;simp only[Bool.not_true];go_wp2;go_end0;exact⟨rfl,HJ.out,HK.out⟩
  |false=>
   have G:Hf vd (.el d fX j)= .enter d fX::(uZ vd j++[.vA d]):=by simp[Hf,hvd]
   have R:(pre++[.enter d fX])++uZ vd j <+:tot:=SU (c:=[.vA d]) (by have:=HP.out;grind);have S:(pre++[.enter d fX]++uZ vd j)++[.vA d] <+:tot:=by have:=HP.out;rw[G]at this;simpa using this
   have e3:pre++Hf vd (.el d fX j)=(pre++[.enter d fX]++uZ vd j)++[.vA d]:=by rw[G];simp
   have C3:=fx (Gb HV.out k d _ U kv j ns HL.out HE.out HW.out _ wc D P R);have⟨f,y,hm,hna,hcf,hc⟩:=HV.out.vA d;have Z:=fx (λq I (g:Kept [] w0 I) (h:J (pre++[.enter d fX]++uZ vd j) I)=>hc _ (I.drewN q) (g.drewN q) (HV.out.mono _ _ _ h ((Kept.refl _ _).drewN q)) S);rw[<-e3]at Z;clear R S G e3 P D hc;generalize hJJ:J (pre++[.enter d fX]++uZ vd j)=J1 at C3 Z;clear hJJ;rename_i K m;refine m _ _ ?_;clear m;simp only[Bool.not_false]
   go_wp21
   refine C3.out.mono ?_;rintro e I ⟨rfl,h,g⟩;have X:=fw ((HE.out.gJ g).gR) 0;dsimp at X;have p:=fx h;have t:=fx g;clear h g
   go_wp21
   go_region_with (refine(Z.out _ _ t.out p.out).mono ?_;rintro e W3 ⟨rfl,a3,a4⟩)
   all_goals (try go_wp2)
   all_goals (go_end0;grind)
end
section
variable {T:TypeId} {x:gh} {vd:fN->Bool} {tot:List Ev} {w0:fO} {J:List Ev->fO->Prop}
theorem PV (V:cq T x vd tot w0 J):∀(t:Tn) (n:Nd),jo w0 t n->G1 T x vd tot w0 J t n
 | .el name fX ks,.el k,h=>by
  unfold jo at h;have⟨av,iJ,kv,ns,h1,h2,h3,h4⟩:=h;exact Zq V k name fX av iJ kv ks ns h4.len h1 h2 h3 (λi m p=>PV V ks[i] ns[i] (h4.get i m p))
 | .tx s,.tx k,h=>by
  unfold jo at h;intro pre W d j g;unfold Hf at g|-;exact ae9 V k s pre W d j g (d.at h (by simp))
 | .cm s,.cm k,h=>by
  unfold jo at h;intro pre W d j g;unfold Hf at g|-;exact XK V k s pre W d j g (d.at h (by simp))
 | .dt s,.dt k,h=>by
  unfold jo at h;intro pre W d j g;unfold Hf at g|-;exact Yw V k s pre W d j g (d.at h (by simp))
 | .el _ _ _,.tx _,h=>by unfold jo at h;grind
 | .el _ _ _,.cm _,h=>by unfold jo at h;grind
 | .el _ _ _,.dt _,h=>by unfold jo at h;grind
 | .tx _,.el _,h=>by unfold jo at h;grind
 | .tx _,.cm _,h=>by unfold jo at h;grind
 | .tx _,.dt _,h=>by unfold jo at h;grind
 | .cm _,.el _,h=>by unfold jo at h;grind
 | .cm _,.tx _,h=>by unfold jo at h;grind
 | .cm _,.dt _,h=>by unfold jo at h;grind
 | .dt _,.el _,h=>by unfold jo at h;grind
 | .dt _,.tx _,h=>by unfold jo at h;grind
 | .dt _,.cm _,h=>by unfold jo at h;grind
  termination_by t=>SizeOf.sizeOf t
  decreasing_by
 have:=List.sizeOf_lt_of_mem (tM m)
 grind
theorem yo (V:cq T x vd tot w0 J) (k:Nat) (d:fN) (fX:kZ) (g:List Tn) (h:jo w0 (.el d fX g) (.el k)) (p:uZ vd g=tot) (W:fO) (m:Kept [] w0 W) (j:J [] W):
  Calls prog 42 #[fW k,.iface T x] W λe W'=>e=oS/\J tot W'/\Kept [] w0 W':=by
 unfold jo at h;have⟨av,iJ,kv,ns,h1,h2,h3,h4⟩:=h;have:=Gb V k d av iJ kv g ns h4.len h1 (λi q r=>PV V g[i] ns[i] (h4.get i q r)) [] W m j (by grind)
 rwa [rM,p]at this
end
def YO:(prog.info? 5).map (λi=>(i.zero,i.size,i.bytes))=some (some (.int .u8 0),1,1):=by kernel_rfl
theorem Nq:(∃j,prog.info? 98=some j/\j.size≠0):=by
 have h:((prog.info? 98).map λi=>i.size)=some 2:=by kernel_rfl
 have⟨j,hj,h2⟩:=Option.map_eq_some_iff.1 h
 grind
def PH:liesAt prog prog.depth 100 (4 / prog.cellsOf 100) 0 98 1=true:=by kernel_rfl
def KB (W W':fO):Prop:=∀(k:Nat) (c:jB) (t:TypeId),W.heap[k]?=some (fV c t)->t∉[100,5]->W'.heap[k]?=some (fV c t)
def KB.trans (h:KB A B) (k:KB B C):KB A C:=λi c t g d=>k i c t (h i c t g d) d
def KB.jl (h:Kept [] A B):KB A B:=λi c t d _=>h.at d (by simp)
theorem KB.SE {d : jB} (h:Kept [b] A B) (j:A.heap[b]?=some (fV d 100)):KB A B:=λi c t g k=>h.at g (by
 grind)
theorem KB.Yu (k:A.grownBy B v.ownBlock) (m:A.ownsRow base 5 1 v n xs):KB A B:=λi c t h r=>(k.block i (iB h) (by
 intro e;rcases m.2 with⟨e2,_⟩|⟨g,d,j,e2,_,q,_⟩
 .rw[e2]at e;cases e
 .rw[e2]at e;have p:=jr e
  grind)).trans h
def KH (l:List UInt8) (s:fN):Lib.byteCells (l++s.data.toList)=Lib.byteCells l++Lib.strCells s:=by
 unfold Lib.byteCells Lib.strCells;simp
def ko (xs:List fN):List UInt8:=xs.flatMap λs=>s.data.toList
def Ed (xs ys:List fN):ko (xs++ys)=ko xs++ko ys:=yL ..
def M6 (s g d:fN):fN:=⟨(Lib.replaceAll s.data.toList g.data.toList d.data.toList).toArray⟩
def K5 (w:fO):Prop:=(∃m,w.cell? ⟨3,0,none⟩=some (fK m))/\3 < w.heap.size
def K5.kept (h:K5 w) (d:Kept [] w w'):K5 w':=by
 have⟨⟨m,hm⟩,hl⟩:=h;exact⟨⟨m,(d.cell (p:=⟨3,0,none⟩) hl (by simp)).trans hm⟩,lz hl d.size⟩
def I1 (h:Below w.heap.size w w'):Kept [] w w':=⟨h.os,h.tape,h.output,h.size,λk d _=>h.block k d⟩
def Ae (s:fN):fN:=M6 (M6 s tH jM) sq mH
def GS (s:fN):fN:=M6 (M6 (Ae s) pT kV) ir qT
attribute [local go_sem] Oper.semAt_some
structure It where
 k:Int
 s:fN
 t:fN
abbrev It.val (x:It):gh:= .agg #[fK x.k,fR x.s,fR x.t]
def uH:Ev->List It
 | .dt s=>[⟨1,s,⟨#[]⟩⟩]
 | .cm s=>[⟨2,s,⟨#[]⟩⟩]
 | .tx s=>[⟨3,s,⟨#[]⟩⟩]
 | .enter s fX=>⟨4,s,⟨#[]⟩⟩::fX.map λa=>⟨5,a.1,a.2⟩
 | .vA s=>[⟨6,s,⟨#[]⟩⟩]
def kX (d:List Ev):List It:=d.flatMap uH
def Wk (w:fO) (b l:Nat):Prop:=w.heap[b]?=some (fV #[.func (.yield l) #[] #[],.bool false] 203)
theorem nU {t : TypeId} {m : Nat×Nat} (h:w.heap[b]?=some (.cells c t m)) (j:Nat) (v:gh) (g:c[j]?=some v):w.setCell ⟨b,j,none⟩ v=w:=by
 have⟨hlt,hb⟩:=Array.getElem?_eq_some_iff.1 h;have i:c.setIfInBounds j v=c:=by
  apply Array.ext
  .simp
  .grind
 have e:∀f:Obj->Obj,f (.cells c t m)= .cells c t m->w.heap.modify b f=w.heap:=by
  intro f d;apply Array.ext
  .simp
  .grind
 unfold World.setCell
 simp_all
def KW (W W':fO):Prop:=∀(k:Nat) (c:jB) (t:TypeId),W.heap[k]?=some (fV c t)->t∉[25,57]->W'.heap[k]?=some (fV c t)
def KW.wk (h:KW W W') (d:Wk W b l):Wk W' b l:=h b _ _ d (by decide)
theorem KW.dL (h:KW W W') (j:AN W v fX):AN W' v fX:=by
 refine⟨j.1,?_⟩;rcases j.2 with e|⟨g,d,i,e,k,m,r⟩
 .grind
 .exact .inr ⟨g,d,i,e,k,h g _ _ m (by decide),r⟩
def fu (l:Nat) (tot:List It) (w0:fO) (J:List It->fO->Prop):Prop:=∀pre x W,Kept [] w0 W->J pre W->pre++[x] <+:tot->YieldAt Fence.wide 3 prog l #[It.val x] W λe W'=>e=gO (.bool true)/\J (pre++[x]) W'/\Kept [] w0 W'/\KW W W'
theorem Bo (l b:Nat) (tot:List It) (w0:fO) (J:List It->fO->Prop) (z:fu l tot w0 J) (pre:List It) (x:It) (W:fO) (y:Kept [] w0 W) (u:J pre W) (h:Wk W b l) (F:pre++[x] <+:tot):
  Calls prog 442 #[fW b,fK x.k,fR x.s,fR x.t] W λe W'=>e=oS/\((J (pre++[x]) W'/\Wk W' b l)/\Kept [] w0 W')/\KW W W':=by
 refine(wV (n:=4)).1 ?_;have p:=fw h 0;have q:=fw h 1;dsimp at p q;have⟨fn,tmps,assign,body,hy,HR⟩:=z pre x W y u F;dsimp only[It.val]at hy;have D:=iB h;have m:=h;have⟨k,s,t⟩:=x;refine callsIn_of_wp func442 rfl trivial ?_ rfl;simp only[ntmps442,xC,sV,vZ,Nat.reduceAdd,Nat.reduceSub,xn,xj,xm,xI,rM,vz];gi_wp2;refine HR.mono ?_;rintro e H ⟨rfl,i,j,g⟩;have d:=g.wk m;have r:=fw d 1;have I:=fA d 1;dsimp at r;have HS:=fx (nU d 1 (.bool false) rfl);have G:=And.intro (And.intro (And.intro i d) j) g;gi_wp2;go_end0;rw[HS.out]
 grind
def eC (l b:Nat) (tot:List It) (w0:fO) (J:List It->fO->Prop) (j:fu l tot w0 J) (s:fN) (pre:List It) (W:fO) (h:Kept [] w0 W) (g:J pre W) (i:Wk W b l) (k:pre++[⟨1,s,⟨#[]⟩⟩] <+:tot):
  Calls prog 438 #[fW b,fR s] W λe W'=>e=oS/\(J (pre++[⟨1,s,⟨#[]⟩⟩]) W'/\Wk W' b l)/\Kept [] w0 W':=by
 have C:=Bo l b tot w0 J j pre ⟨1,s,⟨#[]⟩⟩ W h g i k;generalize J (pre++[⟨1,s,⟨#[]⟩⟩])=m at C|-;go_enter func438,ntmps438
 go_wp21
 refine C.mono ?_;rintro e p ⟨rfl,d,_⟩;go_wp2;go_end0;exact⟨rfl,d⟩
def eE (l b:Nat) (tot:List It) (w0:fO) (J:List It->fO->Prop) (j:fu l tot w0 J) (s:fN) (pre:List It) (W:fO) (h:Kept [] w0 W) (g:J pre W) (i:Wk W b l) (k:pre++[⟨2,s,⟨#[]⟩⟩] <+:tot):
  Calls prog 437 #[fW b,fR s] W λe W'=>e=oS/\(J (pre++[⟨2,s,⟨#[]⟩⟩]) W'/\Wk W' b l)/\Kept [] w0 W':=by
 have C:=Bo l b tot w0 J j pre ⟨2,s,⟨#[]⟩⟩ W h g i k;generalize J (pre++[⟨2,s,⟨#[]⟩⟩])=m at C|-;go_enter func437,ntmps437
 go_wp21
 refine C.mono ?_;rintro e p ⟨rfl,d,_⟩;go_wp2;go_end0;exact⟨rfl,d⟩
def dY (l b:Nat) (tot:List It) (w0:fO) (J:List It->fO->Prop) (j:fu l tot w0 J) (s:fN) (pre:List It) (W:fO) (h:Kept [] w0 W) (g:J pre W) (i:Wk W b l) (k:pre++[⟨3,s,⟨#[]⟩⟩] <+:tot):
  Calls prog 441 #[fW b,fR s] W λe W'=>e=oS/\(J (pre++[⟨3,s,⟨#[]⟩⟩]) W'/\Wk W' b l)/\Kept [] w0 W':=by
 have C:=Bo l b tot w0 J j pre ⟨3,s,⟨#[]⟩⟩ W h g i k;generalize J (pre++[⟨3,s,⟨#[]⟩⟩])=m at C|-;go_enter func441,ntmps441
 go_wp21
 refine C.mono ?_;rintro e p ⟨rfl,d,_⟩;go_wp2;go_end0;exact⟨rfl,d⟩
def dU (l b:Nat) (tot:List It) (w0:fO) (J:List It->fO->Prop) (j:fu l tot w0 J) (s:fN) (pre:List It) (W:fO) (h:Kept [] w0 W) (g:J pre W) (i:Wk W b l) (k:pre++[⟨6,s,⟨#[]⟩⟩] <+:tot):
  Calls prog 440 #[fW b,fR s] W λe W'=>e=oS/\(J (pre++[⟨6,s,⟨#[]⟩⟩]) W'/\Wk W' b l)/\Kept [] w0 W':=by
 have C:=Bo l b tot w0 J j pre ⟨6,s,⟨#[]⟩⟩ W h g i k;generalize J (pre++[⟨6,s,⟨#[]⟩⟩])=m at C|-;go_enter func440,ntmps440
 go_wp21
 refine C.mono ?_;rintro e p ⟨rfl,d,_⟩;go_wp2;go_end0;exact⟨rfl,d⟩
def aav (a b:List Ev):kX (a++b)=kX a++kX b:=yL ..
def wy {a b : List Ev} (h:a <+:b):kX a <+:kX b:=by
 obtain⟨r,rfl⟩:=h;simp[kX]
theorem Mt (L:kZ) (i:Nat) (h:i < L.length):(Do L)[i*2]?=some (fR L[i].1)/\(Do L)[i*2+1]?=some (fR L[i].2):=by
 induction L generalizing i with
 |nil=>simp at h
 |cons a L ih=>
  cases i with
  |zero=>simp
  |succ i=>
   grind
theorem eF (l b:Nat) (tot:List It) (w0:fO) (J:List It->fO->Prop) (U:fu l tot w0 J) (hm:∀pre W W',J pre W->Kept [] W W'->J pre W') (s:fN) (av:gh) (fX:kZ) (pre:List It) (W:fO) (hK:Kept [] w0 W) (hJ:J pre W) (hW:Wk W b l) (K:pre++uH (.enter s fX) <+:tot) (z:AN W av fX) (D:fX.length<=4096):
  Calls prog 439 #[fW b,fR s,av] W λe W'=>e=gO (.bool true)/\(J (pre++uH (.enter s fX)) W'/\Wk W' b l)/\Kept [] w0 W':=by
 have N:pre++[(⟨4,s,⟨#[]⟩⟩:It)] <+:tot:=by
  have⟨r,hr⟩:=K;exact⟨_,by rw[<-hr];simp[uH];rfl⟩
 have C:=Bo l b tot w0 J U pre ⟨4,s,⟨#[]⟩⟩ W hK hJ hW N;have⟨ao,cap,hav⟩:=fS z;have X:=fx z;have HP:=fx K;have HY:=U;have HM:=hm;obtain⟨n,I⟩:∃n,n=fX.length:=⟨_,rfl⟩;rw[<-I]at D hav;have R:=fx I;subst hav;clear K z I;go_enter func439,ntmps439
 go_wp21
 refine C.mono ?_;rintro e W2 ⟨rfl,⟨⟨a0,a2⟩,a1⟩,P⟩;have Y:=P.dL X
 go_wp21
 go_loopw [14] (λv wr=>∃i:Nat,v=fK i/\i<=n/\J (pre++(⟨4,s,⟨#[]⟩⟩::(fX.take i).map λa=>(⟨5,a.1,a.2⟩:It))) wr/\Wk wr b l/\Kept [] w0 wr/\AN wr (.slice ao n cap) fX) (λv _=>n - (intOf v).toNat)
 case atStart=>grind
 case round=>
  obtain⟨i,rfl,hi,G,q,V,p⟩:=hrel
  by_cases H:i < n
  .have y:i < fX.length:=by rw[<-R.out];exact H
   obtain⟨g,F⟩:∃g,ao=some ⟨g,0,none⟩:=by
    rcases p.2 with⟨e,h0⟩|⟨g,S,a3,e,_⟩
    all_goals grind
   subst F;have a5:wr.cell? ⟨g,i*2,none⟩=some (fR fX[i].1):=by
    have:=p.cells (g:=g) rfl (i*2) _ (Mt fX i y).1;rw[iT]at this
    simpa using this
   have a6:wr.cell? ⟨g,i*2+1,none⟩=some (fR fX[i].2):=by
    have:=p.cells (g:=g) rfl (i*2+1) _ (Mt fX i y).2;rw[iT]at this
    simpa using this
   have d:(pre++(⟨4,s,⟨#[]⟩⟩::(fX.take i).map λa=>(⟨5,a.1,a.2⟩:It)))++[⟨5,fX[i].1,fX[i].2⟩]=pre++(⟨4,s,⟨#[]⟩⟩::(fX.take (i+1)).map λa=>(⟨5,a.1,a.2⟩:It)):=by
    have:(fX.take (i+1))=fX.take i++[fX[i]]:=by rw[IW,pY y];rfl
    rw[this,rp];simp only[vw,vz,zF,List.map_nil]
   have m:(pre++(⟨4,s,⟨#[]⟩⟩::(fX.take i).map λa=>(⟨5,a.1,a.2⟩:It)))++[⟨5,fX[i].1,fX[i].2⟩] <+:tot:=by
    rw[d];have⟨r,hr⟩:=HP;refine⟨((fX.drop (i+1)).map λa=>(⟨5,a.1,a.2⟩:It))++r,?_⟩;rw[<-hr];have e:=ri (List.map λa:fN×fN=>(⟨5,a.1,a.2⟩:It)) (IU (i+1) fX);rw[rp]at e;show _=pre++(⟨4,s,⟨#[]⟩⟩::fX.map λa=>(⟨5,a.1,a.2⟩:It))++r;rw[<-e];simp only[vw,vz]
   have t:∀o,Kept [] wr (wr.alloc o):=λo=>(Kept.refl [] wr).alloc o;have Q:=(λo=>Bo l b tot w0 J HY _ ⟨5,fX[i].1,fX[i].2⟩ (wr.alloc o) (V.trans (t o)) (HM _ _ _ G (t o)) ((t o).at q (by simp)) m);have u:=(λo=>p.kept (t o));simp only[d]at Q;generalize fX[i].1=u1 at *;generalize fX[i].2=u2 at *
   go_wp21
   refine(Q _).mono ?_;rintro e W3 ⟨rfl,⟨⟨h,k⟩,j⟩,P⟩;have Z:=P.dL (u _);go_wp2;go_roundw
   case rel=>grind
   case measure=>simp[intOf];omega
  .have he:fX.take i=fX:=Bd (by rw[<-R.out];omega);rw[he]at G;have O:=fw q 1;dsimp at O;have a4:=iB q;have h:=G;have k:=q;have j:=V;go_wp2;go_ret;exact⟨rfl,⟨h,k⟩,j⟩
def SJ (l b:Nat) (tot:List Ev) (w0:fO) (J:List It->fO->Prop) (m:fu l (kX tot) w0 J) (t:∀pre W W',J pre W->Kept [] W W'->J pre W'):
  cq 201 (fW b) (λ_=>false) tot w0 (λpre W=>J (kX pre) W/\Wk W b l):=by
 have g:∀pre p,kX (pre++[p])=kX pre++uH p:=λpre p=>by simp[kX]
 refine {mono:=λpre W W' h r=>⟨t _ _ _ h.1 r,r.at h.2 (by simp)⟩,dt:=λs=>?_,cm:=λs=>?_,tx:=λs=>?_,vA:=λs=>?_,enter:=?_}
 .refine⟨438,fW b,λw=>by kernel_rfl,λw=>by kernel_rfl,enters_of func438 (by rfl) rfl,λpre W j i k=>?_⟩;have d:=wy k;rw[g]at d
  try simp only[]
  rw[g];exact eC l b _ w0 J m s _ W j i.1 i.2 d
 .refine⟨437,fW b,λw=>by kernel_rfl,λw=>by kernel_rfl,enters_of func437 (by rfl) rfl,λpre W j i k=>?_⟩;have d:=wy k;rw[g]at d
  try simp only[]
  rw[g];exact eE l b _ w0 J m s _ W j i.1 i.2 d
 .refine⟨441,fW b,λw=>by kernel_rfl,λw=>by kernel_rfl,enters_of func441 (by rfl) rfl,λpre W j i k=>?_⟩;have d:=wy k;rw[g]at d
  try simp only[]
  rw[g];exact dY l b _ w0 J m s _ W j i.1 i.2 d
 .refine⟨440,fW b,λw=>by kernel_rfl,λw=>by kernel_rfl,enters_of func440 (by rfl) rfl,λpre W j i k=>?_⟩;have d:=wy k;rw[g]at d
  try simp only[]
  rw[g];exact dU l b _ w0 J m s _ W j i.1 i.2 d
 .refine⟨439,fW b,λw=>by kernel_rfl,λw=>by kernel_rfl,enters_of func439 (by rfl) rfl,λpre W s u fX j i k y q=>?_⟩;have d:=wy k;rw[g]at d
  try simp only[]
  rw[g];exact eF l b _ w0 J m t s u fX _ W j i.1 i.2 d y q
def aeK (w0:fO) (g:gh) (q:fN->Bool):Prop:=∃k lb,g= .func (.func k) #[] lb/\(∀d w,(callFunc k d).run prog w= .ok (.enter k d) w)/\∀W,Kept [] w0 W->∀s,Calls prog k (#[fR s]++lb) W λe W'=>e=gO (.bool (q s))/\W'=W
theorem KB.row (h:KB w w') (i:w.ownsRow base e size v n xs) (m:e∉[100,5]):w'.ownsRow base e size v n xs:=by
 refine⟨i.1,?_⟩;rcases i.2 with e2|⟨q,d,g,e2,j,k,p⟩
 .grind
 .exact .inr ⟨q,d,g,e2,j,h _ _ _ k m,p⟩
theorem SG (L:kZ) (i:Nat) (h:i < L.length):(Do L)[i*2]?=some (fR (L[i]).1)/\(Do L)[i*2+1]?=some (fR (L[i]).2):=by
 induction L generalizing i with
 |nil=>simp at h
 |cons a L ih=>
  cases i with
  |zero=>simp
  |succ i=>
   grind
def Iu (s:fN):fN:=M6 (Ae s) oU oy
structure dV (ba b:Nat) (nm vl:fN) (G:fO->Prop) (W0:fO) (b0 b1 b2 b3 b4 b5 b6 b7 b8:Bool) (s19 s20 s21 s22 s23 s24 s25 s26 s27:gh) (W:fO):Prop where
 f0:b0=true->s19=fW b
 f1:b1=true->s20=fW ba
 f2:b2=true->s21=fR nm
 f3:b3=true->s22=jp ba 1
 f4:b4=true->s23=fR vl
 f5:b5=true->s24=fR (Ae vl)
 f6:b6=true->s25=fR (Iu vl)
 f7:b7=true->∃g',s26=mW g' 5 5/\(b8=false->W.heap[g']?=some (fV #[fR ⟨#[32]⟩,fR nm,fR yn,fR (Iu vl),fR oU] 9))
 f8:b8=true->s27= .tuple #[]
 d:(b8=true->b7=true)/\(b7=true->b2=true/\b6=true)/\(b6=true->b5=true)/\(b5=true->b4=true)
 wi:if b8 then G W else Kept [] W0 W
def oZ:Ev->Bool
 | .tx _=>false
 |_=>true
attribute [local go_sem] Oper.semAt_some
def VH (w:fO) (d:Nat) (c:jB) (k:Nat):Prop:=w.heap[d]?=some (fV c 76)/\c[8]?=some (fW k)
def VH.kept {d k : Nat} (h:VH w d c k) (g:Kept [] w w'):VH w' d c k:=⟨g.at h.1 (by simp),h.2⟩
def VH.vc {d k : Nat} (h:VH w d c k):w.cell? ⟨d,8,none⟩=some (fW k):=by rw[fw h.1,h.2]
def Gm (w:fO) (d k:Nat) (c:jB) (h:VH w d c k):
  Calls prog 31 #[fW d] w λe w'=>e=gO (.bool true)/\w'=w:=by
 have i:=h.vc;have g:=iB h.1;go_enter func31,ntmps31;go_wp2;go_ret;simp
def MC (w:fO) (g:Nat):
  Calls prog 30 #[fW g] w λe w'=>e=gO (.func (.func 39) #[fW g] #[])/\w'=w:=by
 have i:∀(h:Fn) (first d:jB) (w:fO),(Instr.makeFunc h first d).run prog w= .ok (.func h first d) w:=λ_ _ _ _=>rfl;go_enter func30,ntmps30;go_wp2;go_ret;simp
theorem aaR (l k:Nat) (d:fN) (fX:kZ) (g:List Tn) (w0:fO) (h:jo w0 (.el d fX g) (.el k)) (J:List It->fO->Prop) (q:fu l (kX (uZ (λ_=>false) g)) w0 J) (i:∀pre W W',J pre W->Kept [] W W'->J pre W') (W:fO) (p:Kept [] w0 W) (m:J [] W):
  Calls prog 61 #[fW k,.func (.yield l) #[] #[]] W λe W'=>e=oS/\J (kX (uZ (λ_=>false) g)) W'/\Kept [] w0 W':=by
 have j:=(Kept.refl [] W).alloc (fV #[.func (.yield l) #[] #[],.bool false] 203);have r:=fB W (fV #[.func (.yield l) #[] #[],.bool false] 203);have C:=yo (SJ l W.heap.size _ w0 J q i) k d fX g h rfl _ (p.trans j) ⟨i _ _ _ m j,r⟩;generalize J (kX (uZ (λ_=>false) g))=y at C|-;go_enter func61,ntmps61
 go_wp21
 refine C.mono ?_;rintro e z ⟨rfl,⟨t,_⟩,u⟩;go_wp2;go_end0
 grind
theorem aaV (l j k:Nat) (c:jB) (d:fN) (fX:kZ) (g:List Tn) (w0:fO) (m:VH w0 j c k) (h:jo w0 (.el d fX g) (.el k)) (J:List It->fO->Prop) (t:fu l (kX (uZ (λ_=>false) g)) w0 J) (y:∀pre W W',J pre W->Kept [] W W'->J pre W') (W:fO) (i:Kept [] w0 W) (r:J [] W):
  Calls prog 39 #[fW j,.func (.yield l) #[] #[]] W λe W'=>e=oS/\J (kX (uZ (λ_=>false) g)) W'/\Kept [] w0 W':=by
 have q:=Gm W j k c (m.kept i);have p:=aaR l k d fX g w0 h J t y W i r;have I:=(m.kept i).vc;have u:=iB (m.kept i).1;generalize J (kX (uZ (λ_=>false) g))=F at p|-;go_enter func39,ntmps39
 go_wp21
 refine q.mono ?_;rintro e G ⟨rfl,rfl⟩
 go_wp21
 refine p.mono ?_;rintro e H ⟨rfl,z,D⟩;go_wp2;go_end0
 grind
def Ask.eG {q : fN->Bool} (h:Ask bm v q w):aeK w v q:=by
 have⟨k,lb,hv,he,ha⟩:=h.call;exact⟨k,lb,hv,he,λW d s=>ha W (.gv d) s⟩
attribute [local go_sem] Oper.semAt_some
def wG (L:List It):List gh:=L.flatMap λx=>[fK x.k,fR x.s,fR x.t]
def Lh (L M:List It):wG (L++M)=wG L++wG M:=yL ..
def WY:(prog.info? 57).map (λi=>(i.zero,i.size,i.bytes))=some (some (.agg #[fK 0,fR js,fR js]),3,40):=by kernel_rfl
def KW.put (g:W.heap[l]?=some o) (h:o.isCells=false) (i:Obj):KW W (W.putObj l i):=by
 intro k c t d _;refine(p5 ?_).trans d;rintro rfl;rw[g]at d;cases d;cases h
def KW.trans (h:KW A B) (k:KW B C):KW A C:=λi c t g d=>k i c t (h i c t g d) d
def KW.jl (h:Kept [] A B):KW A B:=λi c t d _=>h.at d (by simp)
def JK (h1:1<=n) {g:Operand} {p:Tmp} {Q:Exit->Act->fO->Prop} {gf : Nat} {recv : gh} (hg:a.eval g= .func (.func gf) #[recv] #[]) (eg:∀R w,(callFunc gf R).run prog w= .ok (.enter gf R) w)
  (tot:List It) (w0:fO)
  (V:∀l J W,fu l tot w0 J->(∀pre W W',J pre W->Kept [] W W'->J pre W')->J [] W->Kept [] w0 W->Calls prog gf #[recv,.func (.yield l) #[] #[]] W λe W'=>e=oS/\J tot W'/\Kept [] w0 W')
  (I:List It->fO->Prop) (a0:∀pre W,I pre W->Kept [] w0 W) (G:∀pre W W',I pre W->Kept [] W W'->I pre W') (S:∀pre W k r o',w.heap.size<=k->W.heap[k]?=some (.loop r)->I pre W->I pre (W.putObj k (.loop o')))
  (h0:I [] w) (A:It->Act->fO->Prop) (a9:∀x m W k r o',w.heap.size<=k->W.heap[k]?=some (.loop r)->A x m W->A x m (W.putObj k (.loop o')))
  (t:∀(l:Nat) (pre:List It) (x:It) (W:fO) (K:Act->fO->Prop),I pre W->(∀m W',Kept [] W W'->A x m W'->K m W')->
   assign.wpIn (Fence.wide.inRound l) 3 prog (Exit.then K (λ_ _ _=>False)) {tmps:=a.tmps.setIfInBounds p x.val,defers:=[]} W)
  (U:∀(l:Nat) (pre:List It) (x:It) (m:Act) (W:fO),I pre W->A x m W->pre++[x] <+:tot->body.wpIn (Fence.wide.inRound l) 3 prog (λe _ W'=>e= .normal/\I (pre++[x]) W'/\KW W W'/\KeepsOthers W W') m W)
  (Y:∀(D:Nat) (W:fO),w.heap.size<=D->I tot W->W.heap[D]?=some (.deferred (some []))->Q .normal {a with defers:={target:= .collected D,args:=#[]}::a.defers} W):
  (Code.rangeFunc g #[p] assign body).wpIn Fence.wide n prog Q a w:=by
 refine Hw ?_;intro fn af;obtain⟨j,h⟩:∃j:Loop,j={state:= .ready,pending:=none,fn:=fn,tmps:=a.tmps,params:=#[p],assign:=assign,body:=body,defers:=w.heap.size}:=⟨_,rfl⟩;obtain⟨z,H⟩:∃z,z=(w.alloc (.deferred (some []))).alloc (.loop j):=⟨_,rfl⟩;have a7:Kept [] w z:=by rw[H];exact((Kept.refl _ _).alloc _).alloc _
 have aa:z.heap[w.heap.size]?=some (.deferred (some [])):=by rw[H];exact(Below.heap_alloc _ _ _ (by simp)).trans (MZ w _)
 have ab:z.heap[w.heap.size+1]?=some (.loop j):=by
  have:=MZ (w.alloc (.deferred (some []))) (.loop j);rw[H];rwa [xa]at this
 refine⟨w.heap.size+1,[{target:= .collected w.heap.size,args:=#[]}],z,{target:= .fn (.func gf) #[],args:=#[recv,.func (.yield (w.heap.size+1)) #[] #[]]},z,gf,#[recv,.func (.yield (w.heap.size+1)) #[] #[]],z,?_,?_,?_,?_,λ_=>h1,?_⟩
 .rw[H,h];exact AH _ _ _ _ _
 .simp only[resolve,hg];simp[go_sem]
 .intro f' _;trivial
 .simp[invoke,go_sem,eg]
 .refine(callsIn_wide.2 (V (w.heap.size+1) (λpre W=>I pre W/\W.heap[w.heap.size+1]?=some (.loop j)/\W.heap[w.heap.size]?=some (.deferred (some []))) z ?_ ?_ ⟨G _ _ _ h0 a7,ab,aa⟩ (a0 _ _ (G _ _ _ h0 a7)))).mono ?_
  .rintro pre x W hK ⟨Z,y,X⟩ a6;have aj:w.heap.size+1 < W.heap.size:=(Array.getElem?_eq_some_iff.1 y).1;have hy:(Instr.yield (w.heap.size+1) #[x.val]).run prog W= .ok (.round (w.heap.size+1) fn (a.tmps.setIfInBounds p x.val) assign body) W:=by
    have:=run_yield (P:=prog) (args:=#[x.val]) y (by rw[h];rfl);rw[h]at this
    simpa using this
   refine⟨fn,_,assign,body,hy,roundIn_of_wpIn af (t _ pre x W _ Z ?_)⟩;intro m Wa N hA;have u:Wa.heap[w.heap.size+1]?=some (.loop j):=(N.block _ (Array.getElem?_eq_some_iff.1 y).1 (by simp)).trans y;have ae:Wa.heap[w.heap.size]?=some (.deferred (some [])):=(N.block _ (Array.getElem?_eq_some_iff.1 X).1 (by simp)).trans X;refine⟨_,run_beginRound u (by rw[h]),?_⟩;obtain⟨F,i⟩:∃F,F=Wa.putObj (w.heap.size+1) (.loop {j with state:= .busy}):=⟨_,rfl⟩;rw[<-i];have ag:I pre F:=by rw[i];exact S _ _ _ _ _ (by omega) u (G _ _ _ Z N)
   have a8:A x m F:=by rw[i];exact a9 _ _ _ _ _ _ (by omega) u hA
   have ai:F.heap[w.heap.size+1]?=some (.loop {j with state:= .busy}):=by rw[i];exact N2 (Array.getElem?_eq_some_iff.1 u).1
   have ac:F.heap[w.heap.size]?=some (.deferred (some [])):=by rw[i];exact(p5 (by omega)).trans ae
   have a4:KW W F:=by rw[i];exact(KW.jl N).trans (KW.put u rfl _)
   refine xO (U _ pre x m F ag a8 a6) ?_;rintro e a3 W3 ⟨rfl,ah,a5,a2⟩;have O:=a2.same _ _ ai rfl;have ad:=a2.same _ _ ac rfl;have d:=run_endRound (P:=prog) none O;have er:({({j with state:= .busy}:Loop)with state:=if (none:Option Code).isNone then .ready else .done,pending:=none}:Loop)=j:=by rw[h];rfl
   rw[er]at d;obtain⟨W4,q⟩:∃W4,W4=W3.putObj (w.heap.size+1) (.loop j):=⟨_,rfl⟩;rw[<-q]at d;have a1:I (pre++[x]) W4:=by rw[q];exact S _ _ _ _ _ (by omega) O ah
   refine⟨_,_,d,rfl,⟨a1,?_,?_⟩,a0 _ _ a1,?_⟩
   .rw[q];exact N2 (Array.getElem?_eq_some_iff.1 O).1
   .rw[q];exact(p5 (by omega)).trans ad
   .rw[q];exact(a4.trans a5).trans (KW.put O rfl _)
  .rintro pre W W' ⟨Z,y,X⟩ hk;exact⟨G _ _ _ Z hk,(hk.block _ (Array.getElem?_eq_some_iff.1 y).1 (by simp)).trans y,(hk.block _ (Array.getElem?_eq_some_iff.1 X).1 (by simp)).trans X⟩
  .rintro e F ⟨rfl,⟨Z,y,X⟩,_⟩;have d:=Ft (P:=prog) y (by rw[h];simp);have ep:j.pending=none:=by rw[h]
   rw[ep]at d;exact⟨none,_,d,Y _ _ (gr _) (S _ _ _ _ _ (by omega) y Z) ((p5 (by omega)).trans X)⟩
theorem UR {k : Nat} (h:W.ownsRow base e k v n xs) (p:W.heap[l]?=some o) (q:o.isCells=false) (t:Obj):(W.putObj l t).ownsRow base e k v n xs:=by
 refine⟨h.1,?_⟩;rcases h.2 with e|⟨g,d,i,e,m,j,r⟩
 .grind
 .refine .inr ⟨g,d,i,e,m,(p5 ?_).trans j,r⟩;rintro rfl;rw[p]at j;cases j;cases q
theorem QZ (h:Kept [] w W) (j:w.heap.size<=l) (i:Obj):Kept [] w (W.putObj l i):=by
 have g:=wM W l i;exact⟨g.os.trans h.os,g.tape.trans h.tape,g.output.trans h.output,jC h.size g.size,λk d _=>(g.block k (lz d h.size) (by grind)).trans (h.block k d (by simp))⟩
def KN (w w':fO):Prop:=∀(k:Nat) (c:jB) (t:TypeId),w.heap[k]?=some (fV c t)->t∈Ux->w'.heap[k]?=some (fV c t)
def KN.jl {S : List Nat} (h:Kept S w w') (g:∀k∈S,∀c t,w.heap[k]?=some (fV c t)->t∉Ux):KN w w':=λk c t d j=>h.at d (λi=>g k i c t d j)
theorem KN.row (h:KN w w') (j:w.ownsRow base e size v n xs) (p:e∈Ux):w'.ownsRow base e size v n xs:=by
 refine⟨j.1,?_⟩;rcases j.2 with e1|⟨g,d,i,e1,k,m,r⟩
 .grind
 .exact .inr ⟨g,d,i,e1,k,h g _ _ m p,r⟩
mutual
theorem jo.kn (d:KN w w'):∀{t:Tn} {n:Nd},jo w t n->jo w' t n
 | .el name fX ks,.el k,h=>by
  unfold jo at h|-;have⟨av,iJ,kv,ns,h1,h2,h3,h4⟩:=h;exact⟨av,iJ,kv,ns,⟨d _ _ _ h1.gR (by decide),d.row h1.row (by decide),h1.le,h1.UG⟩,d.row h2 (by decide),h3,qO.kn d h4⟩
 | .tx _,.tx _,h=>by unfold jo at h|-;exact d _ _ _ h (by decide)
 | .cm _,.cm _,h=>by unfold jo at h|-;exact d _ _ _ h (by decide)
 | .dt _,.dt _,h=>by unfold jo at h|-;exact d _ _ _ h (by decide)
 | .el _ _ _,.tx _,h=>by grind[jo]
 | .el _ _ _,.cm _,h=>by grind[jo]
 | .el _ _ _,.dt _,h=>by grind[jo]
 | .tx _,.el _,h=>by grind[jo]
 | .tx _,.cm _,h=>by grind[jo]
 | .tx _,.dt _,h=>by grind[jo]
 | .cm _,.el _,h=>by grind[jo]
 | .cm _,.tx _,h=>by grind[jo]
 | .cm _,.dt _,h=>by grind[jo]
 | .dt _,.el _,h=>by grind[jo]
 | .dt _,.tx _,h=>by grind[jo]
 | .dt _,.cm _,h=>by grind[jo]
theorem qO.kn (i:KN w w'):∀{g:List Tn} {d:List Nd},qO w g d->qO w' g d
 |[],[],_=>by simp[qO]
 |t::g,n::d,h=>by
  unfold qO at h|-;exact⟨jo.kn i h.1,qO.kn i h.2⟩
 |[],_::_,h=>by grind[qO]
 |_::_,[],h=>by grind[qO]
end
def LU (w:fO):(zeroValue 168).run prog w= .ok .nilFunc w:=by simp
theorem O1 {g i : Nat} {R : Option (List (List fN×Ru))} (h:rB bm g i R v w) (n:fN):
  ∃u,(∀w',Kept [] w w'->(Instr.lookup 170 v (fR n) false).run prog w'= .ok u w')/\ny bm g i (AK R n) u w:=by
 cases R with
 |none=>
  obtain rfl:v= .map none:=h;refine⟨.nilFunc,λw' _=>?_,rfl⟩;have p:(underlying 9).run prog w'= .ok .string w':=pE underlying9 _;have k:∀x,(Instr.checkKey x 10000 9 (fR n)).run prog w'= .ok () w':=λx=>by
   unfold Instr.checkKey;simp
  simp[Instr.lookup,pE (show prog.underlying 170=some (.map 9 168) by simp),k,Instr.findKey,Instr.findNow,p,LU,Result.andThen]
 |some R=>
  obtain⟨b,L,rfl,j,q⟩:=h;have d:=j.lt;refine⟨(Aj L n).getD .nilFunc,λw' m=>Fb (by simp) LU (j.keeps (m.block b d (by simp))) n,?_⟩
  grind[ny,AK,Aj]
def ZP (E:Env) (K N a b:Nat) (n:fN) (fX:kZ) (sp:lM) (v0 v1 v2 v3 v4 v5 v6 v7 v8 v9:gh) (w:fO) (h:kE E.bm K N sp v0 v1 v2 v3 v4 v5 v6 v7 v8 v9 w) (d:∃x m c,E.tv= .slice x m c):
  Calls prog 264 #[.agg #[v0,v1,v2,v3,v4,v5,v6,v7,v8,v9],hH E ⟨a,b,.start n,fX⟩] w λe w'=>∃v,e=gO v/\ny E.bm K N (jI sp ⟨a,b,.start n,fX⟩) v w/\Kept [] w w':=by
 have⟨k0,k1,k2,k3,k4,Z,k6,k7,k8,k9⟩:=vU h.one;have y:=fx h;clear h;have P:=fx (λo=>FD w (fV #[v0,v1,v2,v3,v4,v5,v6,v7,v8,v9] 172) o);have G:=fx (fB w (fV #[v0,v1,v2,v3,v4,v5,v6,v7,v8,v9] 172));have j:=fx (λo=>((Kept.refl [] w).alloc (fV #[v0,v1,v2,v3,v4,v5,v6,v7,v8,v9] 172)).alloc o);have H:=fx ((Kept.refl [] w).alloc (fV #[v0,v1,v2,v3,v4,v5,v6,v7,v8,v9] 172));simp only[hH];have⟨x0,m0,c0,d⟩:=d;rw[d];clear d;have F:=vj;have q:=sE;have r:=vQ;have i:=qG underlying196;have⟨u,hlk,hu⟩:=O1 y.out.start n;have I:=fx hlk;have p:=hlk ((w.alloc (fV #[v0,v1,v2,v3,v4,v5,v6,v7,v8,v9] 172)).alloc (fV #[fK a,fK b,fR n,.slice x0 m0 c0] 196)) (j.out _);have D:=P.out (fV #[fK a,fK b,fR n,.slice x0 m0 c0] 196);have O:=fB (w.alloc (fV #[v0,v1,v2,v3,v4,v5,v6,v7,v8,v9] 172)) (fV #[fK a,fK b,fR n,.slice x0 m0 c0] 196);have z:=fx (j.out (fV #[fK a,fK b,fR n,.slice x0 m0 c0] 196));obtain⟨W,k⟩:∃W,W=((w.alloc (fV #[v0,v1,v2,v3,v4,v5,v6,v7,v8,v9] 172)).alloc (fV #[fK a,fK b,fR n,.slice x0 m0 c0] 196)):=⟨_,rfl⟩;have R:(w.alloc (fV #[v0,v1,v2,v3,v4,v5,v6,v7,v8,v9] 172)).heap.size=w.heap.size+1:=by simp
 rw[R]at O;have q5:W.cell? ⟨w.heap.size,5,none⟩=some v5:=by rw[k,fw D];rfl
 have q7:W.cell? ⟨w.heap.size,7,none⟩=some v7:=by rw[k,fw D];rfl
 have q9:W.cell? ⟨w.heap.size,9,none⟩=some v9:=by rw[k,fw D];rfl
 have qn:W.cell? ⟨w.heap.size+1,2,none⟩=some (fR n):=by rw[k,fw O];rfl
 rw[<-k]at z p;have U:=fx k.symm;clear D O P G j H hlk k R I;have Q:jI sp ⟨a,b,.start n,fX⟩=jD [AK sp.start n,sp.jj,sp.gN]:=rfl;have g:Hid (wT E.bm K N w _ [u,v7,v9]):=fx (.cons hu (.cons y.out.jj (.cons y.out.gN (.nil))));have S:=fx Q;clear Q;have V:=hu.fv;have X:=y.out.jj.fv;have Y:=y.out.gN.fv;clear hu;go_enter func264,ntmps264
 go_wp21
 rw[U.out]
 go_wp21
 rw[p];clear p;rcases V with rfl|⟨Z,a5,l5,rfl⟩
 all_goals rcases X with rfl|⟨k7,a7,l7,rfl⟩
 all_goals rcases Y with rfl|⟨k9,a9,l9,rfl⟩
 all_goals go_wp2_with fail
 all_goals refine(uj g.out (by simp) (by simp)).mono ?_
 all_goals rintro e w3 ⟨rfl,rfl⟩
 all_goals have t:=fx g.out.first
 all_goals simp only[sC]at t|-
 all_goals go_wp2
 all_goals go_ret
 all_goals exact⟨_,rfl,S.out▸t.out,z.out.alloc _⟩
def abC (E:Env) (N O a b:Nat) (n:fN) (fX:kZ) (sp:lM) (v0 v1 v2 v3 v4 v5 v6 v7 v8 v9:gh) (w:fO) (h:kE E.bm N O sp v0 v1 v2 v3 v4 v5 v6 v7 v8 v9 w) (d:∃x m c,E.tv= .slice x m c):
  Calls prog 264 #[.agg #[v0,v1,v2,v3,v4,v5,v6,v7,v8,v9],hH E ⟨a,b,.stop n,fX⟩] w λe w'=>∃v,e=gO v/\ny E.bm N O (jI sp ⟨a,b,.stop n,fX⟩) v w/\Kept [] w w':=by
 have⟨k0,k1,k2,k3,k4,k5,k6,k7,k8,k9⟩:=vU h.one;have z:=fx h;clear h;have Q:=fx (λo=>FD w (fV #[v0,v1,v2,v3,v4,v5,v6,v7,v8,v9] 172) o);have H:=fx (fB w (fV #[v0,v1,v2,v3,v4,v5,v6,v7,v8,v9] 172));have j:=fx (λo=>((Kept.refl [] w).alloc (fV #[v0,v1,v2,v3,v4,v5,v6,v7,v8,v9] 172)).alloc o);have I:=fx ((Kept.refl [] w).alloc (fV #[v0,v1,v2,v3,v4,v5,v6,v7,v8,v9] 172));simp only[hH];have⟨x0,m0,c0,d⟩:=d;rw[d];clear d;have G:=vj;have q:=sE;have r:=vQ;have i:=qg;have t:=qG underlying197;have⟨u,hlk,hu⟩:=O1 z.out.stop n;have K:=fx hlk;have p:=hlk ((w.alloc (fV #[v0,v1,v2,v3,v4,v5,v6,v7,v8,v9] 172)).alloc (fV #[fK a,fK b,fR n,.slice x0 m0 c0] 197)) (j.out _);have F:=Q.out (fV #[fK a,fK b,fR n,.slice x0 m0 c0] 197);have P:=fB (w.alloc (fV #[v0,v1,v2,v3,v4,v5,v6,v7,v8,v9] 172)) (fV #[fK a,fK b,fR n,.slice x0 m0 c0] 197);have D:=fx (j.out (fV #[fK a,fK b,fR n,.slice x0 m0 c0] 197));obtain⟨W,k⟩:∃W,W=((w.alloc (fV #[v0,v1,v2,v3,v4,v5,v6,v7,v8,v9] 172)).alloc (fV #[fK a,fK b,fR n,.slice x0 m0 c0] 197)):=⟨_,rfl⟩;have S:(w.alloc (fV #[v0,v1,v2,v3,v4,v5,v6,v7,v8,v9] 172)).heap.size=w.heap.size+1:=by simp
 rw[S]at P;have q6:W.cell? ⟨w.heap.size,6,none⟩=some v6:=by rw[k,fw F];rfl
 have q8:W.cell? ⟨w.heap.size,8,none⟩=some v8:=by rw[k,fw F];rfl
 have q9:W.cell? ⟨w.heap.size,9,none⟩=some v9:=by rw[k,fw F];rfl
 have qn:W.cell? ⟨w.heap.size+1,2,none⟩=some (fR n):=by rw[k,fw P];rfl
 rw[<-k]at D p;have V:=fx k.symm;clear F P Q H j I hlk k S K;have R:jI sp ⟨a,b,.stop n,fX⟩=jD [AK sp.stop n,sp.jG,sp.gN]:=rfl;have g:Hid (wT E.bm N O w _ [u,v8,v9]):=fx (.cons hu (.cons z.out.jG (.cons z.out.gN (.nil))));have U:=fx R;clear R;have X:=hu.fv;have Y:=z.out.jG.fv;have Z:=z.out.gN.fv;clear hu;go_enter func264,ntmps264
 go_wp21
 rw[V.out]
 go_wp21
 rw[p];clear p;rcases X with rfl|⟨k5,a5,l5,rfl⟩
 all_goals rcases Y with rfl|⟨k8,a8,l8,rfl⟩
 all_goals rcases Z with rfl|⟨k9,a9,l9,rfl⟩
 all_goals go_wp2_with fail
 all_goals refine(uj g.out (by simp) (by simp)).mono ?_
 all_goals rintro e w3 ⟨rfl,rfl⟩
 all_goals have y:=fx g.out.first
 all_goals simp only[sC]at y|-
 all_goals go_wp2
 all_goals go_ret
 all_goals exact⟨_,rfl,U.out▸y.out,D.out.alloc _⟩
def Tg (E:Env) (t u a b:Nat) (s:fN) (fX:kZ) (sp:lM) (v0 v1 v2 v3 v4 v5 v6 v7 v8 v9:gh) (w:fO) (h:kE E.bm t u sp v0 v1 v2 v3 v4 v5 v6 v7 v8 v9 w):
  Calls prog 264 #[.agg #[v0,v1,v2,v3,v4,v5,v6,v7,v8,v9],hH E ⟨a,b,.gm s,fX⟩] w λe w'=>∃v,e=gO v/\ny E.bm t u (jI sp ⟨a,b,.gm s,fX⟩) v w/\Kept [] w w':=by
 have⟨k0,k1,G,k3,k4,k5,k6,k7,k8,H⟩:=vU h.one;have k:=fx h;clear h;have z:=fx (λo=>FD w (fV #[v0,v1,v2,v3,v4,v5,v6,v7,v8,v9] 172) o);have p:=fx (fB w (fV #[v0,v1,v2,v3,v4,v5,v6,v7,v8,v9] 172));have j:=fx (λo=>((Kept.refl [] w).alloc (fV #[v0,v1,v2,v3,v4,v5,v6,v7,v8,v9] 172)).alloc o);have q:=fx ((Kept.refl [] w).alloc (fV #[v0,v1,v2,v3,v4,v5,v6,v7,v8,v9] 172));simp only[hH];have m:=vj;have g:=qG underlying198;have y:=z.out (fV #[fK a,fK b,fR s] 198);have r:=fx (j.out (fV #[fK a,fK b,fR s] 198));have I:=fw y 2;have K:=fw y 9;dsimp at I K;clear y z p j q;have d:Hid (wT E.bm t u w _ [v2,v9]):=fx (.cons k.out.gm (.cons k.out.gN (.nil)));have D:=k.out.gm.fv;have F:=k.out.gN.fv;go_enter func264,ntmps264;rcases D with rfl|⟨G,N,P,rfl⟩
 all_goals rcases F with rfl|⟨H,O,Q,rfl⟩
 all_goals go_wp21
 all_goals refine(uj d.out (by simp) (by simp)).mono ?_
 all_goals rintro e R ⟨rfl,rfl⟩
 all_goals have i:=fx d.out.first
 all_goals simp only[sC]at i|-
 all_goals go_wp2
 all_goals go_ret
 all_goals exact⟨_,rfl,i.out,r.out.alloc _⟩
def Sr (E:Env) (y z a b:Nat) (n:fN) (q:Bool) (fX:kZ) (sp:lM) (v0 v1 v2 v3 v4 v5 v6 v7 v8 v9:gh) (w:fO) (h:kE E.bm y z sp v0 v1 v2 v3 v4 v5 v6 v7 v8 v9 w):
  Calls prog 264 #[.agg #[v0,v1,v2,v3,v4,v5,v6,v7,v8,v9],hH E ⟨a,b,.gP n q,fX⟩] w λe w'=>∃v,e=gO v/\ny E.bm y z (jI sp ⟨a,b,.gP n q,fX⟩) v w/\Kept [] w w':=by
 have⟨k0,k1,k2,I,k4,k5,k6,k7,k8,K⟩:=vU h.one;have m:=fx h;clear h;have F:=fx (λo=>FD w (fV #[v0,v1,v2,v3,v4,v5,v6,v7,v8,v9] 172) o);have r:=fx (fB w (fV #[v0,v1,v2,v3,v4,v5,v6,v7,v8,v9] 172));have k:=fx (λo=>((Kept.refl [] w).alloc (fV #[v0,v1,v2,v3,v4,v5,v6,v7,v8,v9] 172)).alloc o);have t:=fx ((Kept.refl [] w).alloc (fV #[v0,v1,v2,v3,v4,v5,v6,v7,v8,v9] 172));simp only[hH];have p:=vj;have g:=sE;have i:=qG underlying200;have D:=F.out (fV #[fK a,fK b,fR n,.bool q] 200);have u:=fx (k.out (fV #[fK a,fK b,fR n,.bool q] 200));have N:=fw D 3;have O:=fw D 9;dsimp at N O;clear D F r k t;have d:Hid (wT E.bm y z w _ [v3,v9]):=fx (.cons m.out.gP (.cons m.out.gN (.nil)));have G:=m.out.gP.fv;have H:=m.out.gN.fv;go_enter func264,ntmps264;rcases G with rfl|⟨I,P,R,rfl⟩
 all_goals rcases H with rfl|⟨K,Q,S,rfl⟩
 all_goals go_wp21
 all_goals refine(uj d.out (by simp) (by simp)).mono ?_
 all_goals rintro e U ⟨rfl,rfl⟩
 all_goals have j:=fx d.out.first
 all_goals simp only[sC]at j|-
 all_goals go_wp2
 all_goals go_ret
 all_goals exact⟨_,rfl,j.out,u.out.alloc _⟩
def TN (E:Env) (t:fZ):iG E 211 (λ_=>#[Bp E,hH E t]) (yE t) uV:=by
 refine dI λf σ w R u HS H=>?_;unfold yE at u;go_enter func211,ntmps211;have⟨kb,lbb,cb,HQ⟩:=H.rel.bounds;have h:=H.lt;have i:=cb;have j:=(Kept.refl [] w).drew;have⟨ta,tb,tao,tn,tcp,HTG⟩:=D7 E t H.rel;have I:=λw=>AP ta tb t.name tao tn tcp w;replace u:Hid (R= .ok () (σ.close (gI [t.name]) (io))):=by
  have:=u;rw[M.fP,ub]at this;exact fx this
 go_wp21
 go_region_with (first
   |(go_at_call 177;refine(HTG _).mono ?_;rintro e z ⟨rfl,r⟩;have j:=fx (j.trans r);have Q:z.cell? ⟨E.bB,186,none⟩=some (.func (.func kb) #[] lbb):=(j.cell (p:=⟨E.bB,186,none⟩) h (by simp)).trans i;have K:E.bB < z.heap.size:=lz h j.size;clear r)
   |(go_at_call 225;refine(nf E [t.name] z (by simp)).mono ?_;rintro e O ⟨S,N,rfl,k,m⟩;have g:=j.trans m;have P:O.cell? ⟨E.bB,186,none⟩=some (.func (.func kb) #[] lbb):=(g.cell (p:=⟨E.bB,186,none⟩) h (by simp)).trans i;have y:=fx k;have d:=fx g;clear k m g)
   |(go_at_call 228;refine(Er (p:=gI [t.name]) (q:=io) (H.k0 d).rel y (HQ.k0 d)).mono ?_;rintro e U ⟨rfl,D,F⟩;have G:=fx ((H.k0 d).to D (yr _ _ _) F);clear D F))
 all_goals (try (go_wp21))
 all_goals go_wp2
 all_goals go_end0
 all_goals exact fL u G rfl
def Dv (E:Env) (d:Nat->fZ->M Unit) (k:∀(m:Nat) (t:fZ),iL E t->iG E 171 (λ_=>#[Bp E,fK m,hH E t]) (d m t) uV) (t:fZ) (q:iL E t):iG E 135 (λ_=>#[Bp E,hH E t]) (tZ d t) uV:=by
 refine dI λf σ w R g HS H=>?_;unfold tZ at g;go_enter func135,ntmps135;have i:=H.ZW;have j:=H.free 195;have p:=H.lt;replace H:=H.yq true
 go_wp21
 refine dC (k 6 t q) H g HS rfl (λ_ _ _ _ h=>And.intro rfl (lS h)) ?_;rintro(_) f σ w H u r g;have i:=H.ZW;have j:=H.free 195;have p:=H.lt;replace H:=H.yq false;go_wp2;go_end0;exact fL g H rfl
def Lj (E:Env) (d:Nat->fZ->M Unit) (k:∀(m:Nat) (t:fZ),iL E t->iG E 171 (λ_=>#[Bp E,fK m,hH E t]) (d m t) uV) (t:fZ) (p:iL E t):iG E 125 (λ_=>#[Bp E,hH E t]) (qx d t) uV:=by
 refine dI λf σ w R g HS H=>?_;unfold qx at g;go_enter func125,ntmps125
 go_wp21
 refine(BO E _).mono ?_;rintro e w ⟨I,u,rfl,i,j⟩;replace H:=H.k0 j;have C:=Br H.rel i;cases hc:σ.current A7 with
 |true=>
  rw[hc]at C;replace g:Hid (R=(kq d t>>=λ_=>(pure ():M Unit)) {σ with kept:=σ.mode,mode:=8}):=by
   have:=g;rw[fU hc]at this;exact fx this
  go_wp21
  refine C.mono ?_;rintro e w ⟨rfl,rfl⟩;have y:=H.rK;have D:=H.free 192;have z:=H.TD;have F:=H.free 193;have G:=H.lt;replace H:=(H.yx σ.mode).iI 8
  go_wp21
  refine dC (tA E d k t p) H g HS rfl (λ_ _ _ _ h=>And.intro rfl (lS h)) ?_;rintro(_) f σ w H r q g;go_wp2;go_end0;exact fL g H rfl
 |false=>
  rw[hc]at C;replace g:Hid (R=(tZ d t>>=λ_=>(pure ():M Unit)) σ):=by
   have:=g;rw[gn (by simp[hc])]at this;exact fx this
  go_wp21
  refine C.mono ?_;rintro e w ⟨rfl,rfl⟩
  go_wp21
  refine dC (Dv E d k t p) H g HS rfl (λ_ _ _ _ h=>And.intro rfl (lS h)) ?_;rintro(_) f σ w H r q g;go_wp2;go_end0;exact fL g H rfl
def Fy {E:Env} (h:RF E f σ w) {k : Nat} {ks : List fN} (m:Nat) (r:Ask E.bm (.func (.func k) #[] lb) (gI ks) w) (q:(sd ks m) σ≠ .stuck):Calls prog 236 #[Bp E,.func (.func k) #[] lb,fK m] w (jT E f σ.nodes.length w ((sd ks m) σ) bV):=by
 have j:=r;obtain⟨R,i⟩:∃R,R=(sd ks m) σ:=⟨_,rfl⟩;rw[<-i]at q|-;unfold sd at i;have HS:=q;have H:=At.start h;have d:=fx i;clear i;go_enter func236,ntmps236
 go_wp21
 refine(wZ E _).mono ?_;rintro e w ⟨F,t,rfl,p,g⟩;replace H:=H.k0 g;replace j:=j.k0 g
 go_wp21
 refine AQ (λ_=>zo H.rel j p) H d HS (λ_ _ _ _ h=>And.intro rfl (mS h)) ?_;rintro(b) σ w H u d;cases b with
 |false=>
  replace d:Hid (R= .ok false σ):=d;go_wp2;go_ret;exact jK d H rfl
 |true=>
  replace d:Hid (R= .ok true {σ with mode:=m}):=d;have y:=H.rK;have z:=H.free 192;have D:=H.lt;replace H:=H.iI m;go_wp2;go_ret;exact jK d H rfl
def zV {E:Env} (h:RF E f σ w) {k : Nat} {ks : List fN} (m:Nat) (q:Ask E.bm (.func (.func k) #[] lb) (gI ks) w) (i:(lc ks m) σ≠ .stuck):Calls prog 235 #[Bp E,.func (.func k) #[] lb,fK m] w (jT E f σ.nodes.length w ((lc ks m) σ) bV):=by
 have j:=q;obtain⟨R,g⟩:∃R,R=(lc ks m) σ:=⟨_,rfl⟩;rw[<-g]at i|-;unfold lc at g;have HS:=i;have H:=At.start h;have d:=fx g;clear g;go_enter func235,ntmps235
 go_wp21
 refine AQ (λr=>Fy H.rel m j r) H d HS (λ_ _ _ _ h=>And.intro rfl (mS h)) ?_;rintro(b) σ w H p d;cases b with
 |false=>
  replace d:Hid (R= .ok false σ):=d;go_wp2;go_ret;exact jK d H rfl
 |true=>
  replace d:Hid (R=(zi>>=λ_=>(pure true:M Bool)) σ):=d
  go_wp21
  refine mC (Ro E) H d HS rfl (λ_ _ _ _ h=>And.intro rfl (mS h)) ?_;rintro(_) σ w H p d;go_wp2;go_ret;exact jK d H rfl
def S9 (E:Env):jS E 131 (λ_=>#[Bp E]) yg bV:=by
 refine mI λf σ w R d HS H=>?_;unfold yg at d;go_enter func131,ntmps131
 go_wp21
 refine(Lx E _).mono ?_;rintro e w ⟨r,p,rfl,i,k⟩;replace H:=H.k0 k
 go_wp21
 refine(wZ E _).mono ?_;rintro e w ⟨t,q,rfl,j,g⟩;replace H:=H.k0 g;replace i:=i.k0 g
 go_wp21
 refine AQ (λ_=>zo H.rel i j) H d HS (λ_ _ _ _ h=>And.intro rfl (mS h)) ?_;rintro(b) σ w H m d;cases b with
 |false=>
  replace d:Hid (R= .ok false σ):=d;go_wp2;go_ret;exact jK d H rfl
 |true=>
  replace d:Hid (R=(xX>>=λ_=>(pure true:M Bool)) σ):=d
  go_wp21
  refine AQ (λ_=>Un H.rel) H d HS (λ_ _ _ _ h=>And.intro rfl (mS h)) ?_;rintro(_) σ w H m d;go_wp2;go_ret;exact jK d H rfl
def NZ (E:Env):jS E 138 (λ_=>#[Bp E]) tW bV:=by
 refine mI λf σ w R d HS H=>?_;unfold tW at d;go_enter func138,ntmps138;replace d:=fx (M.tail d)
 go_wp21
 refine(nf E [fH] _ (by decide)).mono ?_;rintro e w ⟨p,k,rfl,g,i⟩;replace H:=H.k0 i
 go_wp21
 refine AQ (λj=>zV H.rel 7 g j) H d HS (λ_ _ _ _ h=>And.intro rfl (mS h)) ?_;rintro(b) σ w H m d;go_wp2;go_ret;exact jK d H rfl
def IM (E:Env):jS E 141 (λ_=>#[Bp E]) ra bV:=by
 refine mI λf σ w R d HS H=>?_;unfold ra at d;go_enter func141,ntmps141;replace d:=fx (M.tail d)
 go_wp21
 refine(Ja E _).mono ?_;rintro e w ⟨p,k,rfl,g,i⟩;replace H:=H.k0 i
 go_wp21
 refine AQ (λj=>Fy H.rel 7 g j) H d HS (λ_ _ _ _ h=>And.intro rfl (mS h)) ?_;rintro(b) σ w H m d;go_wp2;go_ret;exact jK d H rfl
def XT (E:Env):jS E 144 (λ_=>#[Bp E]) EJ bV:=by
 refine mI λf σ w R d HS H=>?_;unfold EJ at d;go_enter func144,ntmps144;replace d:=fx (M.tail d)
 go_wp21
 refine(UO E _).mono ?_;rintro e w ⟨p,k,rfl,g,i⟩;replace H:=H.k0 i
 go_wp21
 refine AQ (λj=>Fy H.rel 11 g j) H d HS (λ_ _ _ _ h=>And.intro rfl (mS h)) ?_;rintro(b) σ w H m d;go_wp2;go_ret;exact jK d H rfl
def Xi (E:Env):jS E 145 (λ_=>#[Bp E]) endCell bV:=by
 refine mI λf σ w R d HS H=>?_;unfold endCell at d;go_enter func145,ntmps145;replace d:=fx (M.tail d)
 go_wp21
 refine(VG E _).mono ?_;rintro e w ⟨p,k,rfl,g,i⟩;replace H:=H.k0 i
 go_wp21
 refine AQ (λj=>zV H.rel 12 g j) H d HS (λ_ _ _ _ h=>And.intro rfl (mS h)) ?_;rintro(b) σ w H m d;go_wp2;go_ret;exact jK d H rfl
def Fq (E:Env):jS E 139 (λ_=>#[Bp E]) mx bV:=by
 refine mI λf σ w R d HS H=>?_;unfold mx at d;go_enter func139,ntmps139
 go_wp21
 refine(nf E [fD] _ (by decide)).mono ?_;rintro e w ⟨r,j,rfl,g,i⟩;replace H:=H.k0 i;have C:=Br H.rel g;cases hc:σ.current (gI [fD])with
 |true=>
  rw[hc]at C;replace d:Hid (R=(yd>>=λ_=>(do ju 7;return true:M Bool)) σ):=by
   have:=d;rw[fU hc]at this;exact fx this
  go_wp21
  refine C.mono ?_;rintro e w ⟨rfl,rfl⟩
  go_wp21
  refine mC (Df E) H d HS rfl (λ_ _ _ _ h=>And.intro rfl (mS h)) ?_;rintro(_) σ w H k d;have m:=H.rK;have p:=H.free 192;have q:=H.lt;replace H:=H.iI 7;go_wp2;go_ret;exact jK d H rfl
 |false=>
  rw[hc]at C;replace d:Hid (R= .ok false σ):=by
   have:=d;rw[gn (by simp[hc])]at this;exact fx this
  go_wp21
  refine C.mono ?_;rintro e w ⟨rfl,rfl⟩;go_wp2;go_ret;exact jK d H rfl
def RF.aeb {E:Env} (h:RF E f σ w):σ.gx σ.form=true:=by have⟨L,_,hr⟩:=h;exact hr.wf.form
theorem RF.JX {E:Env} (h:RF E f σ w):σ.gx σ.last=true:=by
 have⟨L,_,hr⟩:=h;unfold Ab.last;rcases wK σ.fQ with d|⟨g,y,d⟩
 .rw[d];rfl
 .rw[d,vP];exact Ab.vL (hr.wf.fQ y (by grind))
theorem abm (E:Env) (v1:gh) (p:fN->Bool) (w:fO) (g:Ask E.bm v1 p w):
  Calls prog 244 #[v1] w (yG E (λs=>!p s) w):=by
 refine(acG E.bm v1 p w g).mono ?_;rintro e w' ⟨⟨v,rfl,d⟩,h⟩;have⟨k,lb,e,_,_⟩:=d.call
 grind
def Pr (E:Env) (t:fZ) (p:iL E t):iG E 197 (λ_=>#[Bp E,hH E t]) (uc t) uV:=by
 refine dI λf σ w R d HS H=>?_;unfold uc at d;go_enter func197,ntmps197;have g:=H.R4;have z:=H.lt;cases hf:σ.form with
 |some i=>
  rw[hf]at g d;replace d:Hid (R= .ok () σ):=d;rw[show oV f (some i)=fW (f i)from rfl]at g;go_wp2;go_end0;exact fL d H rfl
 |none=>
  rw[hf]at g d;replace d:Hid (R=(mL t>>=λ_=>(do wj λσ=>{σ with form:=σ.last};return ():M Unit)) σ):=d;rw[show oV f none= .pointer none from rfl]at g
  go_wp21
  refine dC (vK E (ij E) t p) H d HS rfl (λ_ _ _ _ h=>And.intro rfl (lS h)) ?_;rintro(_) f σ w H r q d;have j:=H.rel.JX;have C:=H.rel.RH;have u:=H.R4;have y:=H.free 191;have m:=H.lt;have k:=H.uW σ.last j
  go_wp21
  refine C.mono ?_;rintro e w ⟨rfl,rfl⟩;replace H:=k;go_wp2;go_end0;exact fL d H rfl
def Dl (E:Env) (t:fZ) (G:iL E t):iG E 132 (λ_=>#[Bp E,hH E t]) (lT t) uV:=by
 refine dI λf σ w R d HS H=>?_;unfold lT at d;go_enter func132,ntmps132;have k:=H.R4;have S:=H.lt;cases hf:σ.form with
 |some i=>
  rw[hf]at k d;replace d:Hid (R= .ok () σ):=d;rw[show oV f (some i)=fW (f i)from rfl]at k;go_wp2;go_end0;exact fL d H rfl
 |none=>
  rw[hf]at k d;replace d:Hid (R=(iZ t>>=λ_=>(do let x <-yd;wj λσ=>{σ with form:=x};return ():M Unit)) σ):=d;rw[show oV f none= .pointer none from rfl]at k
  go_wp21
  refine dC (kP E (ij E) t G) H d HS rfl (λ_ _ _ _ h=>And.intro rfl (lS h)) ?_;rintro(_) f σ w H N K d;have m:=H.rel.JX
  go_wp21
  refine jS.QU (Df E) H d HS rfl ?_ ?_
  .intro c p j U g y z;have u:=fx g;clear g;go_wp2;exact⟨rfl,pd u y z⟩
  rintro x q w g Q D r;have I:q.gx x=true:=by
   unfold yd at r;cases r;exact m
  have O:=g.R4;have P:=g.free 191;have F:=g.lt;replace H:=g.uW x I;replace d:=D;clear g;go_wp2;go_end0;exact fL d H rfl
def NL (E:Env) (t:fZ) (k:iL E t):iG E 200 (λ_=>#[Bp E,hH E t]) (sr t) uV:=by
 refine dI λf σ w R d HS H=>?_;unfold sr at d;go_enter func200,ntmps200;have i:=H.YR;have j:=H.lt;cases hq:σ.iP with
 |true=>
  rw[hq]at i;replace d:Hid (R=(iZ t>>=λ_=>(do ju 7;return ():M Unit)) σ):=by
   have:=d;rw[M.fP]at this;unfold yR at this;rw[hq]at this;exact fx this
  go_wp21
  refine dC (kP E (ij E) t k) H d HS rfl (λ_ _ _ _ h=>And.intro rfl (lS h)) ?_;rintro(_) f σ w H m g d;have p:=H.rK;have q:=H.free 192;have j:=H.lt;replace H:=H.iI 7;go_wp2;go_end0;exact fL d H rfl
 |false=>
  rw[hq]at i;replace d:Hid (R=(oF>>=λ_=>(do iZ t;ju 7;return ():M Unit)) σ):=by
   have:=d;rw[M.fP]at this;unfold yR at this;rw[hq]at this;exact fx this
  go_wp21
  refine AQ (λr=>yC H.rel r) H d HS (λ_ _ _ _ h=>And.intro rfl (lS h)) ?_;rintro(_) σ w H g d
  go_wp21
  refine dC (kP E (ij E) t k) H d HS rfl (λ_ _ _ _ h=>And.intro rfl (lS h)) ?_;rintro(_) f σ w H m g d;have p:=H.rK;have q:=H.free 192;have j:=H.lt;replace H:=H.iI 7;go_wp2;go_end0;exact fL d H rfl
def Kr (E:Env) (t:fZ) (r:iL E t):iG E 203 (λ_=>#[Bp E,hH E t]) (qu t) uV:=by
 refine dI λf σ w R d HS H=>?_;unfold qu at d;go_enter func203,ntmps203
 go_wp21
 refine dC (qN E (ij E) t r) H d HS rfl (λ_ _ _ _ h=>And.intro rfl (lS h)) ?_;rintro(_) f σ w H F D d;have q:=H.rK;have G:=H.free 192;have I:=H.lt;have m:=H.iI 15;have p:=H.iI 14;replace d:Hid (R= .ok () {σ with mode:=if σ.mode=7\/σ.mode=9\/σ.mode=11\/σ.mode=12\/σ.mode=13 then 15 else 14}):=d;generalize i:σ.mode=g at q d;have k:=i;have j:=d
 by_cases i:g=7\/g=9\/g=11\/g=12\/g=13
 .rw[fU i]at j;replace d:=j;rcases i with rfl|rfl|rfl|rfl|rfl
  all_goals go_wp2
  all_goals go_end0
  all_goals exact fL d m rfl
 .rw[gn i]at j;replace d:=j;have K:((g:Int)==7)=false:=by rw[Fs];omega
  have N:((g:Int)==9)=false:=by rw[Fs];omega
  have u:((g:Int)==11)=false:=by rw[Fs];omega
  have y:((g:Int)==12)=false:=by rw[Fs];omega
  have z:((g:Int)==13)=false:=by rw[Fs];omega
  go_wp2;go_end0;exact fL d p rfl
def adJ (E:Env) (t:fZ):iG E 214 (λ_=>#[Bp E,hH E t]) RO uV:=by
 refine dI λf σ w R d HS H=>?_;unfold RO at d;go_enter func214,ntmps214
 go_wp21
 refine(nf E [mQ] _ (by decide)).mono ?_;rintro e w ⟨z,r,rfl,i,m⟩;replace H:=H.k0 m
 go_wp21
 refine(zZ H.rel).mono ?_;rintro e w ⟨D,u,rfl,j,g⟩;replace H:=H.k0 g;have C:=vY H.rel _ _ _ _ (i.k0 g) j;cases hc:σ.inScope (gI [mQ]) DD with
 |true=>
  rw[hc]at C;replace d:Hid (R=(oF>>=λ_=>(pure ():M Unit)) σ):=by
   have:=d;rw[fU hc]at this;exact fx this
  go_wp21
  refine C.mono ?_;rintro e w ⟨rfl,k⟩;replace H:=H.k0 k
  go_wp21
  refine AQ (λp=>yC H.rel p) H d HS (λ_ _ _ _ h=>And.intro rfl (lS h)) ?_;rintro(_) σ w H q d;go_wp2;go_end0;exact fL d H rfl
 |false=>
  rw[hc]at C;replace d:Hid (R=(jP mQ>>=λ_=>(do oF;return ():M Unit)) σ):=by
   have:=d;rw[gn (by simp[hc])]at this;exact fx this
  go_wp21
  refine C.mono ?_;rintro e w ⟨rfl,k⟩;replace H:=H.k0 k
  go_wp21
  refine dC (uy E (ij E) mQ) H d HS rfl (λ_ _ _ _ h=>And.intro rfl (lS h)) ?_;rintro(_) f σ w H y q d
  go_wp21
  refine AQ (λp=>yC H.rel p) H d HS (λ_ _ _ _ h=>And.intro rfl (lS h)) ?_;rintro(_) σ w H q d;go_wp2;go_end0;exact fL d H rfl
def Rb (E:Env):jS E 150 (λ_=>#[Bp E]) vX bV:=by
 refine mI λf σ w R d HS H=>?_;unfold vX at d;go_enter func150,ntmps150
 go_wp21
 refine(nf E [ig] _ (by decide)).mono ?_;rintro e w ⟨K,z,rfl,g,u⟩;replace H:=H.k0 u
 go_wp21
 refine(ud E _).mono ?_;rintro e w ⟨N,D,rfl,i,k⟩;replace H:=H.k0 k;replace g:=g.k0 k
 go_wp21
 refine(rh E _).mono ?_;rintro e w ⟨O,F,rfl,q,j⟩;replace H:=H.k0 j;replace g:=g.k0 j;replace i:=i.k0 j
 go_wp21
 refine(Ts E _ _ _ _ _ i q).mono ?_;rintro e w ⟨P,G,rfl,r,m⟩;replace H:=H.k0 m;replace g:=g.k0 m
 go_wp21
 refine(abm E _ _ _ r).mono ?_;rintro e w ⟨Q,I,rfl,t,p⟩;replace H:=H.k0 p;replace g:=g.k0 p
 go_wp21
 refine AQ (λ_=>zo H.rel g t) H d HS (λ_ _ _ _ h=>And.intro rfl (mS h)) ?_;rintro(b) σ w H y d;cases b with
 |false=>
  replace d:Hid (R= .ok false σ):=d;go_wp2;go_ret;exact jK d H rfl
 |true=>
  replace d:Hid (R=(xX>>=λ_=>(pure true:M Bool)) σ):=d
  go_wp21
  refine AQ (λ_=>Un H.rel) H d HS (λ_ _ _ _ h=>And.intro rfl (mS h)) ?_;rintro(_) σ w H y d;go_wp2;go_ret;exact jK d H rfl
def Ti:fN->Bool:=λs=>kU s&&!gI [jx,mQ] s
def uC (ks:List fN) (m:Nat) (t:fZ):M Unit:=do
 uQ (gI ks)
 iZ t
 ju m
 return ()
def tm (g:Nat->fZ->M Unit) (ks:List fN) (d:fN) (m:Nat) (t:fZ):M Unit:=do
 uQ (gI ks)
 jP d
 ju m
 kq g t
 return ()
def GB (ks:List fN) (t:fZ):M Unit:=do
 let _ <-nh (gI ks) Ti
 mL t
 return ()
def x9 (d:Nat->fZ->M Unit) (b:M Bool) (t:fZ):M Unit:=do
 let x <-b
 if x then (do kq d t;return ())else return ()
def Ef (b:M Bool):M Unit:=do
 let _ <-b
 return ()
def Ask.du {bs : Nat} {p : fN->Bool} (h:Ask bm v p w) (d:Fr bs w w'):Ask bm v p w':=h.fr (d.n bm)
def abk (E:Env) (d:Nat->fZ->M Unit) (F:∀(m:Nat) (t:fZ),iL E t->iG E 171 (λ_=>#[Bp E,fK m,hH E t]) (d m t) uV) (t:fZ) (G:iL E t) (m u y:Nat) (h:RF E f σ w) (r:d m t σ≠ .stuck) (g:box w u (gV E.bB) 121) (i:box w y (fK m) 177):
  Calls prog 180 #[hH E t,gV u,gV y] w (Leaves E f σ.nodes.length w (d m t σ) uV):=by
 have k:=fx g;have p:=fx i;clear g i;obtain⟨R,q⟩:∃R,R=d m t σ:=⟨_,rfl⟩;rw[<-q]at r|-;have HS:=r;have H:=fx (At.start h);have j:=fx (M.tail q);clear h r q;have z:=fw (box.fr k.out (H.out.fr.n E.bm) (by decide)) 0;have D:=fw (box.fr p.out (H.out.fr.n E.bm) (by decide)) 0;dsimp at z D;go_enter func180,ntmps180
 go_wp21
 refine dC (F m t G) H j HS rfl (λ_ _ _ _ h=>And.intro rfl (lS h)) ?_;clear H j;rintro(_) f σ w H K I j;go_wp2;go_end0;exact fL j H rfl
def F8 (E:Env) (t:fZ) (Q:iL E t) (ks:List fN) (m z D F:Nat) (k:Nat) (lb:jB) (h:RF E f σ w) (G:(uC ks m t) σ≠ .stuck) (j:box w z (gV E.bB) 121) (p:box w D (.func (.func k) #[] lb) 89) (P:Ask E.bm (.func (.func k) #[] lb) (gI ks) w) (q:box w F (fK m) 177):
  Calls prog 224 #[hH E t,gV z,gV D,gV F] w (Leaves E f σ.nodes.length w ((uC ks m t) σ) uV):=by
 have d:=fx j;clear j;have u:=fx p;clear p;have y:=fx q;clear q;have K:=P;obtain⟨R,r⟩:∃R,R=(uC ks m t) σ:=⟨_,rfl⟩;rw[<-r]at G|-;unfold uC at r;have HS:=G;have H:=fx (At.start h);have g:=fx r;clear r;have i:=fw (box.fr d.out (H.out.fr.n E.bm) (by decide)) 0;have N:=fw (box.fr u.out (H.out.fr.n E.bm) (by decide)) 0;dsimp at i N;go_enter func224,ntmps224
 go_wp21
 refine AQ (λ_=>Ff H.rel (K.du H.fr)) H g HS (λ_ _ _ _ h=>And.intro rfl (lS h)) ?_;rintro(_) σ w H I g;have i:=fw (box.fr d.out (H.out.fr.n E.bm) (by decide)) 0;dsimp at i
 go_wp21
 refine dC (kP E (ij E) t Q) H g HS rfl (λ_ _ _ _ h=>And.intro rfl (lS h)) ?_;rintro(_) f σ w H S I g;have i:=fw (box.fr d.out (H.out.fr.n E.bm) (by decide)) 0;have O:=fw (box.fr y.out (H.out.fr.n E.bm) (by decide)) 0;dsimp at i O;have U:=H.rK;have V:=H.free 192;have X:=H.lt;replace H:=fx (H.iI m);go_wp2;go_end0;exact fL g H rfl
def DP (E:Env) (g:Nat->fZ->M Unit) (hA:∀(m:Nat) (t:fZ),iL E t->iG E 171 (λ_=>#[Bp E,fK m,hH E t]) (g m t) uV) (t:fZ) (ht:iL E t) (ks:List fN) (d:fN) (m z N O P:Nat) (k:Nat) (lb:jB) (h:RF E f σ w) (S:(tm g ks d m t) σ≠ .stuck) (q:box w z (gV E.bB) 121) (r:box w N (.func (.func k) #[] lb) 89) (ha:Ask E.bm (.func (.func k) #[] lb) (gI ks) w) (u:box w O (fR d) 9) (y:box w P (fK m) 177):
  Calls prog 226 #[hH E t,gV z,gV N,gV O,gV P] w (Leaves E f σ.nodes.length w ((tm g ks d m t) σ) uV):=by
 have i:=fx q;clear q;have F:=fx r;clear r;have G:=fx u;clear u;have I:=fx y;clear y;have V:=ha;obtain⟨R,D⟩:∃R,R=(tm g ks d m t) σ:=⟨_,rfl⟩;rw[<-D]at S|-;unfold tm at D;have HS:=S;have H:=fx (At.start h);have j:=fx D;clear D;have p:=fw (box.fr i.out (H.out.fr.n E.bm) (by decide)) 0;have X:=fw (box.fr F.out (H.out.fr.n E.bm) (by decide)) 0;dsimp at p X;go_enter func226,ntmps226
 go_wp21
 refine AQ (λ_=>Ff H.rel (V.du H.fr)) H j HS (λ_ _ _ _ h=>And.intro rfl (lS h)) ?_;rintro(_) σ w H K j;have p:=fw (box.fr i.out (H.out.fr.n E.bm) (by decide)) 0;have Y:=fw (box.fr G.out (H.out.fr.n E.bm) (by decide)) 0;dsimp at p Y
 go_wp21
 refine dC (uy E (ij E) d) H j HS rfl (λ_ _ _ _ h=>And.intro rfl (lS h)) ?_;rintro(_) f σ w H U K j;have p:=fw (box.fr i.out (H.out.fr.n E.bm) (by decide)) 0;have Z:=fw (box.fr I.out (H.out.fr.n E.bm) (by decide)) 0;dsimp at p Z;have c4:=H.rK;have f4:=H.free 192;have hl:=H.lt;have a0:z≠E.bB:=by
  intro e;have Q:w.heap[z]?=_:=box.fr i (H.fr.n E.bm) (by decide);have⟨L,_,hr⟩:=H.rel;have⟨C,hb⟩:=hr.Uq;rw[e,hb]at Q;simp at Q
 replace H:=fx (H.iI m)
 go_wp21
 refine dC (tA E g hA t ht) H j HS rfl (λ_ _ _ _ h=>And.intro rfl (lS h)) ?_;rintro(_) f σ w H U K j;go_wp2;go_end0;exact fL j H rfl
def M2 (E:Env) (t:fZ) (X:iL E t) (ks:List fN) (I K N:Nat) (P Q:Nat) (m p:jB) (h:RF E f σ w) (O:(GB ks t) σ≠ .stuck) (i:box w I (gV E.bB) 121) (j:box w K (.func (.func P) #[] m) 89) (F:Ask E.bm (.func (.func P) #[] m) (gI ks) w) (k:box w N (.func (.func Q) #[] p) 89) (G:Ask E.bm (.func (.func Q) #[] p) Ti w):
  Calls prog 281 #[hH E t,gV I,gV K,gV N] w (Leaves E f σ.nodes.length w ((GB ks t) σ) uV):=by
 have g:=fx i;clear i;have y:=fx j;clear j;have z:=fx k;clear k;have r:=F;have u:=G;obtain⟨R,q⟩:∃R,R=(GB ks t) σ:=⟨_,rfl⟩;rw[<-q]at O|-;unfold GB at q;have HS:=O;have H:=fx (At.start h);have d:=fx q;clear q;have D:=fw (box.fr g.out (H.out.fr.n E.bm) (by decide)) 0;have U:=fw (box.fr y.out (H.out.fr.n E.bm) (by decide)) 0;have V:=fw (box.fr z.out (H.out.fr.n E.bm) (by decide)) 0;dsimp at D U V;go_enter func281,ntmps281
 go_wp21
 refine AQ (λ_=>zo H.rel (r.du H.fr) (u.du H.fr)) H d HS (λ_ _ _ _ h=>And.intro rfl (lS h)) ?_;rintro(_) σ w H S d;have D:=fw (box.fr g.out (H.out.fr.n E.bm) (by decide)) 0;dsimp at D
 go_wp21
 refine dC (vK E (ij E) t X) H d HS rfl (λ_ _ _ _ h=>And.intro rfl (lS h)) ?_;rintro(_) f σ w H Y S d;go_wp2;go_end0;exact fL d H rfl
def acx (E:Env) (t:fZ) (b:M Bool) (k:Nat) (y:jS E k (λ_=>#[Bp E]) b bV) (u:∀d w,(callFunc k d).run prog w= .ok (.enter k d) w) (p:Nat) (h:RF E f σ w) (q:(Ef b) σ≠ .stuck) (g:box w p (.func (.func k) #[gV E.bB] #[]) 69):
  Calls prog 232 #[hH E t,gV p] w (Leaves E f σ.nodes.length w ((Ef b) σ) uV):=by
 have m:=fx g;clear g;obtain⟨R,i⟩:∃R,R=(Ef b) σ:=⟨_,rfl⟩;rw[<-i]at q|-;unfold Ef at i;have HS:=q;have H:=fx (At.start h);have j:=fx i;clear i;have r:=fw (box.fr m.out (H.out.fr.n E.bm) (by decide)) 0;dsimp at r;go_enter func232,ntmps232
 go_wp21
 refine mC (y) H j HS rfl (λ_ _ _ _ h=>And.intro rfl (lS h)) ?_;rintro(_) σ w H z j;go_wp2;go_end0;exact fL j H rfl
def Ot (E:Env) (d:Nat->fZ->M Unit) (N:∀(m:Nat) (t:fZ),iL E t->iG E 171 (λ_=>#[Bp E,fK m,hH E t]) (d m t) uV) (t:fZ) (Q:iL E t) (b:M Bool) (k:Nat) (P:jS E k (λ_=>#[Bp E]) b bV) (O:∀i w,(callFunc k i).run prog w= .ok (.enter k i) w) (y z:Nat) (h:RF E f σ w) (D:(x9 d b t) σ≠ .stuck) (j:box w y (gV E.bB) 121) (p:box w z (.func (.func k) #[gV E.bB] #[]) 69):
  Calls prog 227 #[hH E t,gV z,gV y] w (Leaves E f σ.nodes.length w ((x9 d b t) σ) uV):=by
 have r:=fx j;clear j;have u:=fx p;clear p;obtain⟨R,q⟩:∃R,R=(x9 d b t) σ:=⟨_,rfl⟩;rw[<-q]at D|-;unfold x9 at q;have HS:=D;have H:=fx (At.start h);have g:=fx q;clear q;have I:=fw (box.fr u.out (H.out.fr.n E.bm) (by decide)) 0;dsimp at I;go_enter func227,ntmps227
 go_wp21
 refine mC (P) H g HS rfl (λ_ _ _ _ h=>And.intro rfl (lS h)) ?_;rintro(G) σ w H F g;have K:=fw (box.fr r.out (H.out.fr.n E.bm) (by decide)) 0;dsimp at K;cases G with
 |true=>
  replace g:Hid (R=(kq d t>>=λ_=>(pure ():M Unit)) σ):=g
  go_wp21
  refine dC (tA E d N t Q) H g HS rfl (λ_ _ _ _ h=>And.intro rfl (lS h)) ?_;rintro(_) f σ w H S F g;go_wp2;go_end0;exact fL g H rfl
 |false=>
  replace g:Hid (R= .ok () σ):=g;go_wp2;go_end0;exact fL g H rfl
theorem Rel.adC {E:Env} (h:Rel E L σ w) (s:fN) (p:Bool):Rel E L {σ with mV:=s,iA:=p} ((w.setCell ⟨E.bR,E.Gv,none⟩ (fR s)).setCell ⟨E.bR,E.Gv+1,none⟩ (.bool p)):=by
 have g:Kept [E.bR] w ((w.setCell ⟨E.bR,E.Gv,none⟩ (fR s)).setCell ⟨E.bR,E.Gv+1,none⟩ (.bool p)):=((Kept.refl _ w).setCell (.inl (by simp)) _).setCell (.inl (by simp)) _;have d:KT E.bs [165] w ((w.setCell ⟨E.bR,E.Gv,none⟩ (fR s)).setCell ⟨E.bR,E.Gv+1,none⟩ (.bool p)):= .jl g (λk g _=>by simp at g;subst g;exact⟨⟨_,_,_,h.rd,by simp⟩,h.bR⟩);have⟨C,hb,hC⟩:=h.gR;have j:=fI (fI h.rd E.Gv (fR s)) (E.Gv+1) (.bool p);have r:=h.BH;exact {
  fr:=h.fr.trans (d.fr (by decide))
  env:=h.env
  rY:=h.rY
  rP:=λi t q=>(h.rP i t q).kt d (by decide)
  inj:=h.inj,xv:=h.xv,Ak:=h.Ak,uq:=h.uq,Ad:=h.Ad
  wf:=⟨h.wf.fQ,h.wf.act,h.wf.head,h.wf.form,h.wf.iJ,h.wf.kids,h.wf.vc⟩
  gR:=⟨C,d.at hb (by decide),⟨hC.size,hC.low,hC.fQ,hC.act,hC.head,hC.form,hC.mode,hC.kept,hC.wait,hC.xU,hC.iP,hC.gp,hC.behind⟩⟩
  nM:=d.row h.nM (by decide)
  oE:=d.row h.oE (by decide)
  Cg:=h.Cg,ve:=h.ve,Bx:=h.Bx
  nN:=d.row h.nN (by decide)
  BK:=h.BK
  bz:=h.bz,bB:=h.bB,bR:=h.bR,bN:=h.bN
  rd:=by
   rw[j]
   congr 2
   apply Array.ext_getElem?;intro i
   by_cases m:E.Gv+1=i
   .grind
   .rw[uM m,uM m]
    grind
  BH:=h.BH
  tok:=d.row h.tok (by decide)
  Av:=h.Av,yJ:=h.yJ,ab:=h.ab,tb:=h.tb,Ch:=h.Ch}
theorem Rel.wx {E:Env} (h:Rel E L σ w):w.cell? ⟨E.bR,E.Gv,none⟩=some (fR σ.mV)/\w.cell? ⟨E.bR,E.Gv+1,none⟩=some (.bool σ.iA)/\(∀j,w.frozen? ⟨E.bR,j,none⟩=false)/\E.bR < w.heap.size:=by
 have d:=h.BH;refine⟨?_,?_,λj=>fA h.rd j,iB h.rd⟩
 .rw[fw h.rd,uM (by omega)]
  grind
 .rw[fw h.rd]
  grind
theorem VU (E:Env) (m:E.Gv=7) (h:RF E f σ w) (s:fN) (p:Bool):
  Calls prog 55 #[fW E.bR,fR s,.bool p] w λe w'=>e=oS/\RF E f {σ with mV:=s,iA:=p} w'/\Fr E.bs w w':=by
 obtain⟨L,rfl,d⟩:=h;have⟨c1,c2,fz,hl⟩:=d.wx;have j:=d.adC s p;have i:Fr E.bs w ((w.setCell ⟨E.bR,E.Gv,none⟩ (fR s)).setCell ⟨E.bR,E.Gv+1,none⟩ (.bool p)):= .jl (((Kept.refl [E.bR] w).setCell (.inl (by simp)) _).setCell (.inl (by simp)) _) (λk g=>by simp at g;subst g;exact⟨⟨_,_,_,d.rd,by decide⟩,d.bR⟩);rw[m]at c1 c2 j i;have q:=fz 7;have r:=fz 8;go_enter func55,ntmps55;go_wp2;go_end0
 grind[RF]
def At.c3 {E:Env} (h:At E f0 n0 w0 f σ w):w.cell? ⟨E.bB,3,none⟩=some (.func (.func 55) #[fW E.bR] #[]):=by
 obtain⟨L,rfl,d⟩:=h.rel;exact d.low (by decide) d.env.fq
def H9 (E:Env) (z:E.Gv=7) (t:fZ) (G:iL E t) (d:Bool):iG E 185 (λ_=>#[Bp E,hH E t,.bool d]) (oe t d) uV:=by
 refine dI λf σ w R k HS H=>?_;unfold oe at k;go_enter func185,ntmps185
 go_wp21
 refine dC (kP E (ij E) t G) H k HS rfl (λ_ _ _ _ h=>And.intro rfl (lS h)) ?_;rintro(_) f σ w H N K k;have⟨ta,tb,tao,tn,tcp,HTG⟩:=D7 E t H.rel;have y:=λw=>AP ta tb t.name tao tn tcp w;have u:=H.c3;have D:=H.lt;have m:=u
 go_wp21
 go_region_with (first
  |(go_at_call 177;refine(HTG _).mono ?_;rintro e I ⟨rfl,j⟩;have i:=fx (((Kept.refl [] w).drew).trans j);have Q:I.cell? ⟨E.bB,3,none⟩=_:=(i.cell (p:=⟨E.bB,3,none⟩) D (by simp)).trans m;clear j)
  |(go_at_call 55;refine(VU E z (H.k0 i).rel t.name d).mono ?_;rintro e V ⟨rfl,q,r⟩;have g:=fx ((H.k0 i).to q (si _ _ rfl) r);clear q r))
 all_goals
  have O:=g.rK;have S:=g.free 192;have P:=g.TD;have U:=g.free 193;have F:=g.lt;replace g:=(g.yx σ.mode).iI 5;go_wp2;go_end0;exact fL k g rfl
def Gs (E:Env) (g:E.Gv=7) (t:fZ) (i:iL E t):iG E 111 (λ_=>#[Bp E,hH E t]) (us t) uV:=by
 refine dI λf σ w R d HS H=>?_;unfold us at d;go_enter func111,ntmps111
 go_wp21
 refine dC (H9 E g t i false) H d HS rfl (λ_ _ _ _ h=>And.intro rfl (lS h)) ?_;rintro(_) f σ w H k j d;go_wp2;go_end0;exact fL d H rfl
def FH (E:Env) (g:E.Gv=7) (t:fZ) (i:iL E t):iG E 112 (λ_=>#[Bp E,hH E t]) (oI t) uV:=by
 refine dI λf σ w R d HS H=>?_;unfold oI at d;go_enter func112,ntmps112
 go_wp21
 refine dC (H9 E g t i true) H d HS rfl (λ_ _ _ _ h=>And.intro rfl (lS h)) ?_;rintro(_) f σ w H k j d;go_wp2;go_end0;exact fL d H rfl
def GU (E:Env) (g:E.Gv=7) (t:fZ) (i:iL E t):iG E 201 (λ_=>#[Bp E,hH E t]) (pK t) uV:=by
 refine dI λf σ w R d HS H=>?_;unfold pK at d;go_enter func201,ntmps201
 go_wp21
 refine dC (Gs E g t i) H d HS rfl (λ_ _ _ _ h=>And.intro rfl (lS h)) ?_;rintro(_) f σ w H k j d;have m:=H.Yr;have p:=H.free 198;have q:=H.lt;replace H:=H.su true;go_wp2;go_end0;exact fL d H rfl
def ZK {E:Env} (h:RF E f σ w) (x:iM) (d:jY x σ≠ .stuck):
  Calls prog 187 #[jp E.bB 188,oV f x] w λe w'=>e=oS/\jY x σ= .ok () {σ with fQ:=σ.fQ.erase x}/\RF E f {σ with fQ:=σ.fQ.erase x} w'/\Fr E.bs w w':=by
 have:=D0 E x f σ w h d;unfold jY at this d|-
 by_cases g:σ.gx x=true
 .rw[fU g]at this|-;exact this.mono (λe w' h=>⟨h.1,rfl,h.2.1,h.2.2.1⟩)
 .rw[gn g]at d;exact absurd rfl d
def M9 (E:Env) (g:Nat->fZ->M Unit) (F:∀(m:Nat) (t:fZ),iL E t->iG E 171 (λ_=>#[Bp E,fK m,hH E t]) (g m t) uV) (t:fZ) (K:iL E t):iG E 116 (λ_=>#[Bp E,hH E t]) (uv g t) uV:=by
 refine dI λf σ w R d HS H=>?_;unfold uv at d;go_enter func116,ntmps116;have D:=H.Wr;have G:=H.lt
 go_wp21
 refine AQ (λI=>(show Calls prog 186 #[Bp E,oV f σ.head] w (jT E f σ.nodes.length w (pushHead σ) uV)from NJ E σ.head f σ w H.rel I)) H d HS (λ_ _ _ _ h=>And.intro rfl (lS h)) ?_;rintro(_) σ w H u d
 go_wp21
 refine dC (F 3 t K) H d HS rfl (λ_ _ _ _ h=>And.intro rfl (lS h)) ?_;rintro(_) f σ w H N u d;have D:=H.Wr;have G:=H.lt;have j:jY σ.head σ≠ .stuck:=by
  intro k;apply HS;rw[d.out,M.fP];unfold ph;rw[k]
 have i:=ZK (H.k0 ((Kept.refl _ w).drew)).rel σ.head j
 go_wp21
 go_region_with (go_at_call 187;refine i.mono ?_;rintro e O ⟨rfl,p,q,r⟩;have z:=fx ((H.k0 ((Kept.refl _ w).drew)).to q (si _ _ rfl) r);have y:=fx p;clear p q r)
 all_goals
  go_wp2;go_end0;refine fL (σ:={σ with fQ:=σ.fQ.erase σ.head}) (a:=()) ?_ z rfl;rw[d.out,M.fP];unfold ph;rw[y.out];rfl
def Qb (E:Env) (i:Nat) (h:RF E f σ w) (z:gU σ.fQ 0=some i) (y:jf i σ≠ .stuck):Calls prog 154 #[Bp E] w (jT E f σ.nodes.length w (jf i σ) pV):=by
 obtain⟨R,t⟩:∃R,R=jf i σ:=⟨_,rfl⟩;have m:=(h.gJ ((Kept.refl _ w).alloc RU)).dz 0;rw[z]at m;have q:=(show Calls prog 248 #[jp E.bB 188,fK 0] (w.alloc RU) (λe w'=>e=gO (fW (f i))/\w'=w.alloc RU)from m);rw[<-t]at y|-;have HS:=y;have H:=(At.start h).k0 ((Kept.refl _ w).alloc RU);have r:=fx (M.tail t);have N:=fB w RU;have Q:=h.lt;clear h y t z m;go_enter func154,ntmps154
 go_wp21
 refine q.mono ?_;rintro e w' ⟨rfl,rfl⟩
 go_wp21
 refine jS.call (GG E i) H r HS rfl ?_ ?_
 .intro c p j X g I K;have G:=fx g;clear g;go_wp2;exact⟨rfl,ue G I K⟩
 rintro k S V g D F;have d:=D.cell N (by decide);have O:=fw d 0;have P:=fw d 1;have f0:=fA d 0;have U:=fA d 1;dsimp at O P;replace H:=((g.side d (by decide) (gr _) 0 (fW (f k.1))).side (fI d 0 _) (by decide) (gr _) 1 (fK k.2));replace r:=fx F;have u:=fx (fI (fI d 0 (fW (f k.1))) 1 (fK k.2));clear g D F;go_wp2;refine nK (v:=pV f k) ?_ rfl (jK r H rfl);simp[results,results154,asAddr,Result.andThen,go_sem,fw u.out]
def NU (t:fZ) (σ:Ab):qY t σ=(uC [gq] 13 t>>=λ_=>(do lh none;return ():M Unit)) σ:=by
 unfold qY uC;rw[M.fP,M.fP,M.fP];cases uQ (gI [gq]) σ with
 |ok a σ1=>
  simp only;rw[M.fP,M.fP];cases iZ t σ1 with
  |ok a σ2=>rfl
  |stop c p=>rfl
  |stuck=>rfl
 |stop c p=>rfl
 |stuck=>rfl
def Qg (E:Env) (t:fZ) (O:iL E t):iG E 143 (λ_=>#[Bp E,hH E t]) (qY t) uV:=by
 intro f σ w h HS;obtain⟨R,g⟩:∃R,R=qY t σ:=⟨_,rfl⟩;rw[<-g]at HS|-;rw[NU]at g;have H:=At.start h;have d:=fx g;have I:=Go.Proofs.enters_of func224 (by rfl) rfl;clear g;go_enter func143,ntmps143
 go_wp21
 refine(UO E _).mono ?_;rintro e w ⟨U,Q,rfl,i,p⟩;replace H:=H.k0 p
 go_wp21
 refine(Bk E.bm E.bB 0 [gq] 13 _ _ i).mono ?_;rintro e w ⟨⟨v,rfl,D,F,G,u,rfl,j,k,r,m⟩,K⟩;obtain⟨P,q,rfl,_,_⟩:=r.call;replace H:=H.k0 K;have y:=(λN=>F8 E t O [gq] 13 D F G P q H.rel N j k r m)
 go_wp21
 refine dR (y) H d HS (λ_ _ _ _ h=>And.intro rfl (lS h)) ?_;rintro(_) f σ w H S z d
 go_wp21
 refine mC (AJ E) H d HS rfl (λ_ _ _ _ h=>And.intro rfl (lS h)) ?_;rintro(_) σ w H z d;go_wp2;go_end0;exact fL d H rfl
def aeN:(prog.info? 125).map (λi=>(i.zero,i.size,i.bytes))=some (some .nilIface,1,16):=by kernel_rfl
theorem Rel.afx {E:Env} (h:Rel E L σ w) {C : jB} (p:jg E L σ C) (v':gh) (k:List (Nat×Nat×fN)) (g:w'.heap[E.bB]?=some (fV (C.setIfInBounds 194 v') 180)) (d:KT E.bs [180,125] w w') (j:w'.ownsRow E.bs 125 1 v' k.length (k.map OJ)) (m:k.length<=4096) (r:E.wv=none):Rel E {L with wv:=v'} {σ with waiting:=k} w':=
 {fr:=h.fr.trans (d.fr (by decide))
  env:=h.env
  rY:=h.rY
  rP:=λi t q=>((h.rP i t q).kt d (by decide)).loc rfl rfl rfl
  inj:=h.inj,xv:=h.xv,Ak:=h.Ak,uq:=h.uq,Ad:=h.Ad
  wf:=⟨h.wf.fQ,h.wf.act,h.wf.head,h.wf.form,h.wf.iJ,h.wf.kids,h.wf.vc⟩
  gR:=⟨_,g,p.Zx v' k⟩
  nM:=d.row h.nM (by decide)
  oE:=d.row h.oE (by decide)
  Cg:=h.Cg,ve:=h.ve,Bx:=h.Bx
  nN:=j
  BK:=m
  rd:=d.at h.rd (by decide)
  BH:=h.BH
  tok:=d.row h.tok (by decide)
  Av:=h.Av,bz:=h.bz,bB:=h.bB,bR:=h.bR,bN:=h.bN,yJ:=h.yJ,ab:=h.ab,tb:=h.tb,Ch:=λv u=>by grind}
theorem TF (E:Env) (X:E.wv=none) (t:fZ):iG E 136 (λ_=>#[Bp E,hH E t]) (oK t) uV:=by
 intro f σ w h z;have⟨a,b,k,fX⟩:=t;cases k with
 |jq s=>
  have F:=Ic E ⟨a,b,.jq s,fX⟩ w;cases hn:sT s with
  |true=>
   have V:oK ⟨a,b,.jq s,fX⟩ σ= .ok () σ:=by unfold oK;simp only;rw[hn];rfl
   rw[V];have j:sT (fZ.chars ⟨a,b,.jq s,fX⟩)=true:=hn;rw[j]at F;have H:=At.start h;clear j;go_enter func136,ntmps136
   go_wp21
   refine F.mono ?_;rintro e w ⟨rfl,g⟩;replace H:=H.k0 g;go_wp2;go_end0;exact fL rfl H rfl
  |false=>
   have O:σ.waiting.length < 4096:=by
    by_cases hl:σ.waiting.length < 4096
    .exact hl
    .exfalso;apply z;unfold oK;simp_all
   have V:oK ⟨a,b,.jq s,fX⟩ σ= .ok () {σ with waiting:=σ.waiting++[(a,b,s)]}:=by unfold oK;simp only;rw[hn];simp[O]
   rw[V];have j:sT (fZ.chars ⟨a,b,.jq s,fX⟩)=false:=hn;rw[j]at F;obtain⟨L,rfl,HR⟩:=h;clear j;rw[show hH E ⟨a,b,.jq s,fX⟩= .iface 188 (.agg #[fK a,fK b,fR s])from rfl]at F|-;go_enter func136,ntmps136
   go_wp21
   refine F.mono ?_;rintro e w0 ⟨rfl,g⟩;have p:=HR.gJ g;have HF:=Fr.gv (bs:=E.bs) g;have c1:=p.acJ;have a3:=p.lt;have⟨C,HBB,j⟩:=p.gR;obtain⟨i0,hi,Y,Z,a0⟩:=tL aeN;have⟨ao,cap,hwv⟩:=fS p.nN;rw[hwv]at c1;have I:Kept [] w0 (w0.alloc (fV #[OJ (a,b,s)] 125)):=(Kept.refl _ _).alloc _;have HO:=I.ownsRow p.nN (λ_ _=>by simp);rw[hwv]at HO;have r:(Value.slice ao σ.waiting.length cap).ownBlock≠some E.bB:=by rw[<-hwv];exact zn p.nN HBB (by decide)
   have U:=fx (fB w0 (fV #[OJ (a,b,s)] 125));have i:=fx p;have G:=fx j;have K:=fx hwv;clear p j hwv;go_wp2_with (at_builtin;refine gQ _ rfl _ _ 178 rfl E.bs 125 i0 .nilIface 1 16 underlying178 hi Y Z a0 rfl (by decide) (.slice ao σ.waiting.length cap) σ.waiting.length (σ.waiting.map OJ) rfl HO ⟨w0.heap.size,0,none⟩ 1 1 [OJ (a,b,s)] rfl rfl (λk u R=>by rw[iT,fw U.out,<-R];simp) (λu R=>by simp at R;subst R;rfl) (by unfold maxLen;omega) (by omega) (by have h7:=i.bz;have h8:=i.fr.size;simp;omega) ?_);intro v' Q d y a1;have K2:Kept (Value.slice ao σ.waiting.length cap).ownBlock.toList w0 Q:=(I.mono (by simp)).grown y (λk g=> .inl (by rw[g];simp));have N:Q.heap[E.bB]?=some (fV C 180):=K2.at HBB (by simpa using r);have⟨ao',cap',hv⟩:=fS d;subst hv;have d1:Q.cell? ⟨E.bB,194,none⟩=some (.slice ao σ.waiting.length cap):=by rw[fw N,G.out.wait,K.out]
   have d2:=fA N 194;have a2:=iB N;have h3:=fI N 194 (.slice ao' (σ.waiting.length+1) cap');have P:(Value.slice ao' (σ.waiting.length+1) cap').ownBlock≠some E.bB:=zn d N (by decide);have h4:=tG (a:=⟨E.bB,194,none⟩) d P (.slice ao' (σ.waiting.length+1) cap');have h5:Kept (E.bB::(Value.slice ao σ.waiting.length cap).ownBlock.toList) w0 (Q.setCell ⟨E.bB,194,none⟩ (.slice ao' (σ.waiting.length+1) cap')):=(K2.mono (λk g _=>rj _ g)).setCell (.inl (by simp)) _;have kt:KT E.bs [180,125] w0 (Q.setCell ⟨E.bB,194,none⟩ (.slice ao' (σ.waiting.length+1) cap')):= .jl h5 (λk g _=>by
    rcases List.mem_cons.1 g with rfl|g
    .exact⟨⟨_,_,_,HBB,by simp⟩,i.bB⟩
    .have D:=i.nN;rw[K.out]at D;obtain⟨c,m,hc⟩:=pW D (by simpa using g);exact⟨⟨_,_,_,hc,by simp⟩,(D.lt k (by simpa using g)).1⟩)
   have HZ:=i.afx G (.slice ao' (σ.waiting.length+1) cap') (σ.waiting++[(a,b,s)]) h3 kt (by simpa using h4) (by simp;omega) X;have S:=HF.trans (kt.fr (by decide));go_wp2;go_end0;exact⟨L.gp,λ_ _=>rfl,gr _,rfl,⟨{L with wv:= .slice ao' (σ.waiting.length+1) cap'},rfl,HZ⟩,S⟩
 |start s=>exact absurd rfl z
 |stop s=>exact absurd rfl z
 |gm s=>exact absurd rfl z
 |gP s q=>exact absurd rfl z
 |lost=>exact absurd rfl z
 |il=>exact absurd rfl z
def LK {α:Type} (n:Nat) (P:Program) (g:Nat) (lb:jB) (h:α->jB) (Kp:fO->fO->Prop) (S Sp:List α->Prop) (N:Nat) (w:fO):Prop:=
 ∀(l:Nat) (J i:List α->fO->Prop) (W:fO),Below w.heap.size w W->OwnFrom W.heap.size J->OwnFrom W.heap.size i->
  (∀pre x d,J pre d->pre.length < N->YieldAt Fence.wide (n - 1) P l (h x) d λe W'=>(e=gO (.bool true)/\J (pre++[x]) W'/\Kp d W'/\KeepsFrom W.heap.size d W')\/(e=gO (.bool false)/\i (pre++[x]) W'/\KeepsFrom W.heap.size d W'))->
  J [] W->CallsIn Fence.wide n P g (#[.func (.yield l) #[] #[]]++lb) W λe W'=>(∃v,e=gO v)/\((∃xs,S xs/\J xs W')\/(∃pre,Sp pre/\i pre W'))
theorem Io {d : iM} {rY k : Nat} (g:A.grownBy B d) (j:∀r,d=some r->rY<=r/\∃o:Obj,A.heap[r]?=some o/\o.isCells=false) (h:A.heap[k]?=some o) (i:k < rY):B.heap[k]?=some o:=
 (g.block k (Array.getElem?_eq_some_iff.1 h).1 (λe=>by grind)).trans h
theorem uF {d : fO} {j : Obj} (p:l < b) (h:KeepsFrom (l - 1) (W.putObj l o) d):KeepsFrom b W (d.putObj l j):=by
 refine⟨?_,λk q m i g=>?_⟩
 .have:=h.size
  simp_all
 .rw[p5 (by omega)];exact h.same k q (by omega) ((p5 (by omega)).trans i) g
theorem O2 {α:Type} {P:Program} {g:Operand} {ps:Array Tmp} {Q:Exit->Act->fO->Prop}
  (h1:1<=n) {gf : Nat} (hg:a.eval g= .func (.func gf) #[] lb) (eg:∀X w,(callFunc gf X).run P w= .ok (.enter gf X) w)
  {q:α->jB} {Kp : fO->fO->Prop} {S Sp:List α->Prop} {N : Nat} (a7:LK (n - 1) P gf lb q Kp S Sp N w0)
  (a4:∀{A B C:fO},Kp A B->Kp B C->Kp A C) (a2:∀(W:fO) (l:Nat) (o o':Obj),w.heap.size<=l->W.heap[l]?=some o->o.isCells=false->o.isWalk=false->Kp W (W.putObj l o')) (a5:Below w0.heap.size w0 w) (aj:∀x,(q x).size=ps.size)
  (I:List α->fO->Prop) (Ix:Code->List α->fO->Prop) (hI:OwnFrom w.heap.size I) (O:∀c,OwnFrom w.heap.size (Ix c)) (h0:I [] w) (Y:α->Act)
  (R:∀(l:Nat) (x:α) (W:fO) (K:Act->fO->Prop),K (Y x) W->assign.wpIn (Fence.wide.inRound l) (n - 1 - 1) P (Exit.then K (λ_ _ _=>False)) {tmps:=(ps.zip (q x)).foldl (λt (p,v)=>t.setIfInBounds p v) a.tmps,defers:=[]} W)
  (Z:∀(l:Nat) (pre:List α) (x:α) (W:fO),I pre W->pre.length < N->body.wpIn (Fence.wide.inRound l) (n - 1 - 1) P (ownPostG w.heap.size Kp I Ix (pre++[x]) W) (Y x) W)
  (a0:∀(D:Nat) (xs:List α) (W:fO),w.heap.size<=D->S xs->I xs W->W.heap[D]?=some (.deferred (some []))->Q .normal {a with defers:={target:= .collected D,args:=#[]}::a.defers} W)
  (a1:∀(D:Nat) (c:Code) (pre:List α) (W:fO),w.heap.size<=D->Sp pre->Ix c pre W->W.heap[D]?=some (.deferred (some []))->c.wpIn Fence.wide n P Q {a with defers:={target:= .collected D,args:=#[]}::a.defers} W):
  (Code.rangeFunc g ps assign body).wpIn Fence.wide n P Q a w:=by
 refine Hw ?_;intro fn ad;obtain⟨h,i⟩:∃h:LoopState->Option Code->Loop,h=λst pe=>{state:=st,pending:=pe,fn,tmps:=a.tmps,params:=ps,assign,body,defers:=w.heap.size}:=⟨_,rfl⟩;obtain⟨F,u⟩:∃F,(w.alloc (.deferred (some []))).alloc (.loop (h .ready none))=F:=⟨_,rfl⟩;have ak:F.heap.size=w.heap.size+2:=by rw[<-u];simp
 have aa:F.heap[w.heap.size+1]?=some (.loop (h .ready none)):=by
  rw[<-u];have:=MZ (w.alloc (.deferred (some []))) (.loop (h .ready none));rwa [xa]at this
 have a9:F.heap[w.heap.size]?=some (.deferred (some [])):=by
  rw[<-u];exact(Below.heap_alloc _ _ _ (by simp)).trans (MZ w _)
 have a8:I [] F:=by rw[<-u];exact hI.alloc _ (hI.alloc _ h0)
 have ac:Below w0.heap.size w0 F:=by
  rw[<-u];exact a5.trans ((((Below.refl _ w).alloc (gr _) _).alloc (by simp) _).mono a5.size)
 refine⟨w.heap.size+1,[{target:= .collected w.heap.size,args:=#[]}],F,{target:= .fn (.func gf) lb,args:=#[.func (.yield (w.heap.size+1)) #[] #[]]},F,gf,
  #[.func (.yield (w.heap.size+1)) #[] #[]]++lb,F,?_,?_,?_,?_,λ_=>h1,?_⟩
 .rw[<-u,i];exact AH _ _ _ _ _
 .simp only[resolve,hg];simp[go_sem]
 .intro f' ai;trivial
 .simp[invoke,go_sem,eg]
 have lo:∀{A B:fO} {z:iM},(∀r,z=some r->F.heap.size<=r/\∃o:Obj,A.heap[r]?=some o/\o.isCells=false)->(∀r,z=some r->w.heap.size<=r/\∃o:Obj,A.heap[r]?=some o/\o.isCells=false):=
  λk r e=>⟨by grind,(k r e).2⟩
 refine(a7 (w.heap.size+1)
  (λpre W=>I pre W/\W.heap[w.heap.size+1]?=some (.loop (h .ready none))/\W.heap[w.heap.size]?=some (.deferred (some [])))
  (λpre W=>∃c,Ix c pre W/\W.heap[w.heap.size+1]?=some (.loop (h .done (some c)))/\W.heap[w.heap.size]?=some (.deferred (some [])))
  F ac
  (λs A B z hs m k=>⟨hI s A B z hs.1 m (lo (B:=B) k),Io m k hs.2.1 (by omega),Io m k hs.2.2 (by omega)⟩)
  (λs A B z hs m k=>by
   have⟨c,hc,y,hk⟩:=hs;exact⟨c,O c s A B z hc m (lo (B:=B) k),Io m k y (by omega),Io m k hk (by omega)⟩)
  ?_ ⟨a8,aa,a9⟩).mono ?_
 .rintro pre x W ⟨hi,y,hk⟩ a6;have ag:w.heap.size+1 < W.heap.size:=(Array.getElem?_eq_some_iff.1 y).1;have hy:=run_yield (P:=P) (args:=q x) y (by grind);rw[i]at hy;refine⟨fn,_,assign,body,hy,roundIn_of_wpIn ad (R _ x W _ ?_)⟩;refine⟨_,run_beginRound y (by rw[i]),?_⟩;have af:(W.putObj (w.heap.size+1) (.loop {h .ready none with state:= .busy})).heap[w.heap.size+1]?=some (.loop {h .ready none with state:= .busy}):=N2 ag;have ae:(W.putObj (w.heap.size+1) (.loop {h .ready none with state:= .busy})).heap[w.heap.size]?=some (.deferred (some [])):=(p5 (by omega)).trans hk;have ah:Kp W (W.putObj (w.heap.size+1) (.loop {h .ready none with state:= .busy})):=a2 _ _ _ _ (by omega) y rfl rfl;refine xO (Z _ pre x _ (hI.putObj _ hi (by omega) y rfl) a6) ?_;have V:∀(d:Option Code) (G:fO),KeepsFrom w.heap.size (W.putObj (w.heap.size+1) (.loop {h .ready none with state:= .busy})) G->
    (Instr.endRound (w.heap.size+1) d).run P G= .ok (.bool d.isNone) (G.putObj (w.heap.size+1) (.loop (h (if d.isNone then .ready else .done) d)))/\
    G.heap[w.heap.size+1]?=some (.loop {h .ready none with state:= .busy})/\
    (G.putObj (w.heap.size+1) (.loop (h (if d.isNone then .ready else .done) d))).heap[w.heap.size+1]?=some (.loop (h (if d.isNone then .ready else .done) d))/\
    (G.putObj (w.heap.size+1) (.loop (h (if d.isNone then .ready else .done) d))).heap[w.heap.size]?=some (.deferred (some [])):=λd G U=>by
   have j:=U.same _ _ (by omega) af rfl;have:=run_endRound (P:=P) d j;rw[i]at this|-;exact⟨this,by grind,N2 (Array.getElem?_eq_some_iff.1 j).1,(p5 (by omega)).trans (U.same _ _ (gr _) ae rfl)⟩
  rintro e a3 G H;cases e with
  |normal=>
   have⟨U,hkp3,hi3⟩:=H;have⟨k,j,hl4,hk4⟩:=V none G U;exact⟨_,_,k,.inl ⟨rfl,⟨hI.putObj _ hi3 (by omega) j rfl,hl4,hk4⟩,a4 (a4 ah hkp3) (a2 _ _ _ _ (by omega) j rfl rfl),uF (by omega) U⟩⟩
  |ret=>
   have⟨k,j,hl4,hk4⟩:=V (some .ret) G H.1;exact⟨_,_,k,.inr ⟨rfl,⟨.ret,(O _).putObj _ H.2 (by omega) j rfl,hl4,hk4⟩,uF (by omega) H.1⟩⟩
  |exit id=>
   have⟨k,j,hl4,hk4⟩:=V (some (.exit id)) G H.1;exact⟨_,_,k,.inr ⟨rfl,⟨.exit id,(O _).putObj _ H.2 (by omega) j rfl,hl4,hk4⟩,uF (by omega) H.1⟩⟩
  |goto t=>
   have⟨k,j,hl4,hk4⟩:=V (some (.goto t)) G H.1;exact⟨_,_,k,.inr ⟨rfl,⟨.goto t,(O _).putObj _ H.2 (by omega) j rfl,hl4,hk4⟩,uF (by omega) H.1⟩⟩
  |panic ch=>exact H.elim
  |outgrown=>exact H.elim
 .rintro e W2 ⟨⟨v,rfl⟩,(⟨xs,hS,hi,y,hk⟩|⟨pre,ab,c,hi,y,hk⟩)⟩
  .exact⟨none,_,by have:=Ft (P:=P) y (by rw[i];simp);rw[i]at this;exact this,a0 _ xs _ (gr _) hS (hI.putObj _ hi (by omega) y rfl) ((p5 (by omega)).trans hk)⟩
  .exact⟨some c,_,by have:=Ft (P:=P) y (by rw[i];simp);rw[i]at this;exact this,a1 _ c pre _ (gr _) ab ((O c).putObj _ hi (by omega) y rfl) ((p5 (by omega)).trans hk)⟩
section
attribute [local go_sem] Oper.semAt_some
attribute [local go_sem] p6
attribute [local simp] p6
def Bg:j5->List Nat
 |[]=>[]
 |none::_=>[]
 |some i::r=>i::Bg r
def KC (T:List Nat) (W W':fO):Prop:=W.heap.size<=W'.heap.size/\∀(k:Nat) (c:jB) (t:TypeId) (m:Nat×Nat),k∉T->W.heap[k]?=some (.cells c t m)->W'.heap[k]?=some (.cells c t m)
def KC.trans (h:KC T A B) (k:KC T B C):KC T A C:=⟨jC h.1 k.1,λi c t m d g=>k.2 i c t m d (h.2 i c t m d g)⟩
def KC.put (W:fO) (l:Nat) (o i:Obj) (d:W.heap[l]?=some o) (h:o.isCells=false):KC T W (W.putObj l i):=
 ⟨by simp,λk c t m _ g=>(p5 (λe=>by subst e;rw[g]at d;cases d;cases h)).trans g⟩
def Vc {m k j : Nat} {P:Program} {f:FuncId} {g : jB} {R : Ending->fO->Prop} (h:RoundIn Fence.wide m P l f g assign body w R):RoundIn (Fence.wide.inRound j) k P l f g assign body w R:=⟨h.1,λc i _=>h.2 c i (λd h=>by cases h)⟩
def T5 {ys : j5}:∀{d:List Nat},d.map some <+:ys->d <+:Bg ys
 |[],_=>List.nil_prefix
 |p::d,h=>by
  have⟨r,hr⟩:=h;subst hr;show p::d <+:p::Bg (d.map some++r);exact(List.prefix_cons_inj p).2 (T5 ⟨r,rfl⟩)
def US:∀{d:List Nat},Bg (d.map some)=d
 |[]=>rfl
 |p::d=>by show p::Bg (d.map some)=_;rw[US]
def RM {r : j5}:∀{d:List Nat},Bg (d.map some++none::r)=d
 |[]=>rfl
 |p::d=>by show p::Bg (d.map some++none::r)=_;rw[RM]
theorem YJ (m:Nat) (hm:5<=m) (base y:Nat) (tB:TypeId) (C:jB) (v:gh) (xs:j5) (s:Nat) (T:List Nat) (w:fO) (h:xo base y 189 tB C v xs w)
  (hs:w.heap[s]?=some (fV #[fW y] 121)) (hT:∀k∈T,k≠y/\v.ownBlock≠some k/\k < w.heap.size):
  LK m prog 352 #[fW s] (λx:{x:Nat // some x∈xs}=>#[kK (some x.1)]) (KC T) (λys=>ys.map (·.1)=Bg xs.reverse) (λpre=>pre.map (·.1) <+:Bg xs.reverse) xs.length w:=by
 intro l J Jx W hB HJ a3 HY H0;have a7:=iB h.gR;have L1:xo base y 189 tB C v xs W:=by
  refine h.EP (K:=y::v.ownBlock.toList) (λk d=>hB.block k ?_) (by simp) (λk d=>by simp[d]);rcases List.mem_cons.1 d with rfl|d
  .exact a7
  .exact(h.row.lt k (by grind)).2
 have al:=iB hs;have aa:=(hB.block s al).trans hs;have a9:w.heap.size<=W.heap.size:=hB.size;have aj:y < W.heap.size:=lz a7 a9;obtain⟨q,H⟩:∃q,q=W.alloc (fV #[.func (.yield l) #[] #[]] 289):=⟨_,rfl⟩;have a4:Kept [] W q:=by rw[H];exact(Kept.refl [] W).alloc _
 have ad:q.heap[W.heap.size]?=some (fV #[.func (.yield l) #[] #[]] 289):=by rw[H];exact fB W _
 have z1:q.heap.size=W.heap.size+1:=by rw[H];simp
 have HL:xo base y 189 tB C v xs q:=L1.EP (j7.jl (K:=y::v.ownBlock.toList) a4 (λk d=>⟨by
  rcases List.mem_cons.1 d with rfl|d
  .exact aj
  .exact(L1.row.lt k (by grind)).2,by simp⟩)) (by simp) (λk d=>by simp[d])
 have c1:(W.alloc (fV #[.func (.yield l) #[] #[]] 289)).cell? ⟨s,0,none⟩=some (fW y):=by rw[<-H,fw (a4.at aa (by simp))];rfl
 have HU:=Wy base y 189 tB C v xs q HL;refine wL func352 rfl trivial ?_ rfl;simp only[ntmps352,xC,sV,vZ,Nat.reduceAdd,Nat.reduceSub,xn,xj,xm,xI,rM,vz];have HW:=fx H.symm;have HZ:=fx z1;have HT:=hT;clear H z1 L1 aa h hB hs
 gi_wp2_with fail
 rw[HW.out];refine⟨λ_=>by omega,(callsIn_wide.2 HU).mono ?_⟩;rintro e w' ⟨rfl,rfl⟩;gi_wp2;have ag:=HL;obtain⟨z,U⟩:∃z,z=mc y 189 (xs.length:Int) q:=⟨_,rfl⟩;have k2:Kept [] q z:=by rw[U];exact((Kept.refl _ _).alloc _).alloc _
 have am:z.heap.size=q.heap.size+2:=by rw[U];simp
 have R:xo base y 189 tB C v xs z:=HL.EP (j7.jl (K:=y::v.ownBlock.toList) k2 (λk d=>⟨by
  rcases List.mem_cons.1 d with rfl|d
  .grind
  .exact(HL.row.lt k (by simpa using d)).2,by simp⟩)) (by simp) (λk d=>by simp[d])
 have⟨b0,b1⟩:=(⟨(Below.heap_alloc _ _ _ (by simp)).trans (fB q _),by
   have:=fB (q.alloc (fV #[jp y 189] 280)) (fV #[fK xs.length] 3)
   simp_all⟩:(mc y 189 (xs.length:Int) q).heap[q.heap.size]?=some (fV #[jp y 189] 280)/\(mc y 189 (xs.length:Int) q).heap[q.heap.size+1]?=some (fV #[fK xs.length] 3))
 rw[<-U]at b0 b1|-;have ap:=HZ.out;have gY:=k2.at ad (by simp);obtain⟨K,Q⟩:∃K,K=y::q.heap.size::v.ownBlock.toList:=⟨_,rfl⟩;have a6:∀k∈K,k < z.heap.size/\k∉T/\∃c t m,z.heap[k]?=some (.cells c t m):=by
  intro k d;rw[Q]at d;rcases List.mem_cons.1 d with rfl|d
  .exact⟨iB R.gR,λe=>(HT _ e).1 rfl,_,_,_,R.gR⟩
  .rcases List.mem_cons.1 d with rfl|d
   .grind
   .have ak:v.ownBlock=some k:=by simpa using d
    have⟨c,m',hc⟩:=pW R.row ak
    grind
 have an:=O5 (m - 1) (by omega) base y 189 tB C v xs xs.length q.heap.size K z R (gr _) (by rw[Q];simp) (by rw[Q];simp) (by grind) (by omega) b1 b0;have au:∀k∈T,k < W.heap.size:=λk d=>lz (HT k d).2.2 a9;have X:=fx a6;have a1:=(show z.heap.size=W.heap.size+1+2 by omega);have ar:J [] z:=by
  have O:J [] q:=HJ [] W q none H0 (by rw[<-HW.out];exact World.grownBy_alloc W _ none) (λr e=>by cases e);rw[U];refine HJ [] (q.alloc _) _ none ?_ (World.grownBy_alloc _ _ none) (λr e=>by cases e);exact HJ [] q _ none O (World.grownBy_alloc _ _ none) (λr e=>by cases e)
 clear Q b0 b1 HU HL ag R k2 U a6 c1 am ap;obtain⟨I,hI⟩:∃I:List {x:iM // x∈xs}->fO->Prop,I=(λzs W'=>z.heap.size<=W'.heap.size/\j7 K z W'/\W'.heap[W.heap.size]?=some (fV #[.func (.yield l) #[] #[]] 289)/\∃g:List {x:Nat // some x∈xs},zs.map (·.1)=g.map (λp=>some p.1)/\J g W'):=⟨_,rfl⟩;obtain⟨Ix,a5⟩:∃Ix:Code->List {x:iM // x∈xs}->fO->Prop,Ix=(λc zs W'=>c= .ret/\((∃g:List {x:Nat // some x∈xs},zs.map (·.1)=g.map (λp=>some p.1)++[none]/\J g W')\/(∃g:List {x:Nat // some x∈xs},zs.map (·.1)=g.map (λp=>some p.1)/\Jx g W'))):=⟨_,rfl⟩;have HI:=fx hI;have V:=fx a5;clear hI a5;refine wpIn_rangeFunc_ownG rfl (by omega) (gf:=357) rfl trivial (Go.Proofs.enters_of func357 (by rfl) rfl) an j7.trans (λW l o o' hl O P h3=>j7.put (w:=z) (λk d=>(X.out k d).1) W l o o' hl O P h3) (Below.refl _ _) (λ_=>rfl)
  I Ix
  ?_ ?_ ?_ (λx=>{tmps:=#[.func (.yield l) #[] #[],fW s,fW W.heap.size,kK x.1,fW y,fW y,jp y 189,uL q.heap.size,kK x.1,undef,undef,undef,undef,undef,undef,undef,undef],defers:=[]}) ?assign ?body ?done ?stop
 .rw[HI.out];rintro zs A B Y ⟨O,P,h3,g,h4,h5⟩ hg hr;have hz:=a1;refine⟨jC O hg.size,λk d=>?_,Io hg hr h3 (by omega),g,h4,HJ g A B Y h5 hg (λr e=>⟨by grind,(hr r e).2⟩)⟩;rw[hg.block k (lz (X.out k d).1 O) (λe=>by have:=(hr k e.symm).1;have:=(X.out k d).1;omega)];exact P k d
 .rw[V.out];rintro c zs A B Y ⟨O,P⟩ hg hr;have hz:=a1;refine⟨O,P.imp (λ⟨g,h4,h5⟩=>⟨g,h4,HJ g A B Y h5 hg (λr e=>⟨by grind,(hr r e).2⟩)⟩) (λ⟨g,h4,h5⟩=>⟨g,h4,a3 g A B Y h5 hg (λr e=>⟨by grind,(hr r e).2⟩)⟩)⟩
 .rw[HI.out]
  grind[j7]
 case assign=>
  intro l2 x W' KK ai;gi_wp2;exact ai
 case body=>
  rintro l2 pre ⟨x,hx⟩ W' u aq;rw[HI.out]at u;have⟨hz,hkb,hbx,g,j,Z⟩:=u;have cy:=fw hbx 0;dsimp at cy;cases x with
  |none=>
   have HP:=fx j;have af:=fx Z;clear j Z hz hkb hbx;gi_wp2;refine⟨KeepsFrom.refl _ _,?_⟩;rw[V.out];exact⟨rfl,.inl ⟨g,by rw[rp,HP.out];rfl,af.out⟩⟩
  |some i=>
   have ao:=HY g ⟨i,hx⟩ W' Z (by have:=ri List.length j;grind);have a2:Hid (∀G,KC T W' G->j7 K z G/\G.heap[W.heap.size]?=some (fV #[.func (.yield l) #[] #[]] 289)/\z.heap.size<=G.heap.size/\j7 K W' G):=fx (by
    intro G N;have ac:∀k∈K,G.heap[k]?=z.heap[k]?:=by
     intro k d;have⟨_,P,c,t,mm,h3⟩:=X.out k d;have h4:=(hkb k d).trans h3;rw[N.2 k c t mm P h4,h3]
    exact⟨ac,N.2 _ _ _ _ (λe=>by grind) hbx,jC hz N.1,λk d=>(ac k d).trans (hkb k d).symm⟩)
   have⟨fn,tmps,assign,body,hyy,HRR⟩:=ao;have HP:=fx j;clear j Z hz hkb hbx
   gi_wp2_with fail
   refine⟨λ_=>by omega,(Vc HRR).mono ?_⟩;rintro e G (⟨rfl,a8,N,F⟩|⟨rfl,ab,F⟩)
   .have⟨p1,p2,p3,P4⟩:=a2.out G N;have ae:Hid (I (pre++[⟨some i,hx⟩]) G):=fx (by rw[HI.out];exact⟨p3,p1,p2,g++[⟨i,hx⟩],by rw[rp,rp,HP.out];rfl,a8⟩);have a0:=(show KeepsFrom z.heap.size W' G from⟨F.size,λk o d O P=>F.same k o (by omega) O P⟩);clear a8 N F p1 p2 p3 HRR a2;gi_wp2;exact⟨a0,P4,ae.out⟩
   .have ah:Hid (Ix .ret (pre++[⟨some i,hx⟩]) G):=fx (by rw[V.out];exact⟨rfl,.inr ⟨g++[⟨i,hx⟩],by rw[rp,rp,HP.out];rfl,ab⟩⟩);have a0:=(show KeepsFrom z.heap.size W' G from⟨F.size,λk o d O P=>F.same k o (by omega) O P⟩);clear ab F HRR a2;gi_wp2;exact⟨a0,ah.out⟩
 case done=>
  rintro D zs W' HD hS u Q;rw[HI.out]at u;have⟨_,_,_,g,j,HJ3⟩:=u;have HE:Hid (g.map (·.1)=Bg xs.reverse):=fx (by
   rw[List.take_length]at hS;rw[<-hS,j,show(g.map λp=>some p.1)=(g.map (·.1)).map some by simp,US])
  clear j hS;gi_wp2;refine⟨by simp,.inl ⟨_,_,rfl,ou Q,?_⟩⟩;refine⟨.tuple #[],by simp[results,results352,go_sem],⟨_,rfl⟩,.inl ⟨g,HE.out,?_⟩⟩;exact HJ g W' _ (some D) HJ3 (wM _ D (.deferred none)) (λr e=>by cases e;exact⟨by omega,_,Q,rfl⟩)
 case stop=>
  rintro D c zs W' HD S u Q;rw[V.out]at u;obtain⟨rfl,u⟩:=u;have HE:Hid ((∃ys:List {x:Nat // some x∈xs},ys.map (·.1)=Bg xs.reverse/\J ys W')\/(∃pre:List {x:Nat // some x∈xs},pre.map (·.1) <+:Bg xs.reverse/\Jx pre W')):=fx (by
   rw[List.take_length]at S;rcases u with⟨g,j,Z⟩|⟨g,j,Z⟩
   .refine .inl ⟨g,?_,Z⟩;have⟨r,hr⟩:=S;rw[<-hr,j,show(g.map λp=>some p.1)=(g.map (·.1)).map some by simp,vw];exact RM.symm
   .refine .inr ⟨g,?_,Z⟩;rw[j,show(g.map λp=>some p.1)=(g.map (·.1)).map some by simp]at S;exact T5 S)
  clear u S;gi_wp2;refine⟨by simp,.inl ⟨_,_,rfl,ou Q,?_⟩⟩;refine⟨.tuple #[],by simp[results,results352,go_sem],⟨_,rfl⟩,?_⟩;have hb:D>=W.heap.size:=by have:=HD;have:=a1;omega
  rcases HE.out with⟨ys,e1,e2⟩|⟨pre,e1,e2⟩
  .exact .inl ⟨ys,e1,HJ ys W' _ (some D) e2 (wM _ D (.deferred none)) (λr e=>by cases e;exact⟨hb,_,Q,rfl⟩)⟩
  .exact .inr ⟨pre,e1,a3 pre W' _ (some D) e2 (wM _ D (.deferred none)) (λr e=>by cases e;exact⟨hb,_,Q,rfl⟩)⟩
end
section
attribute [local go_sem] Oper.semAt_some
attribute [local go_sem] p6
attribute [local simp] p6
def LS (s:Nat):gh:= .func (.func 352) #[] #[fW s]
def Ia (g:Nat) (w:fO):
  Calls prog 325 #[fW g] w λe w'=>e=gO (LS w.heap.size)/\w'=w.alloc (fV #[fW g] 121):=by
 have i:∀(h:Fn) (first d:jB) (w:fO),(Instr.makeFunc h first d).run prog w= .ok (.func h first d) w:=λ_ _ _ _=>rfl;go_enter func325,ntmps325;go_wp2;go_ret;simp[LS]
def T7:∀(xs:j5),Bg (xs.map (Option.map f))=(Bg xs).map f
 |[]=>rfl
 |none::_=>rfl
 |some i::r=>by show f i::Bg (r.map (Option.map f))=f i::(Bg r).map f;rw[T7]
def aer (T:List Nat) (I:List Nat->fO->Prop) (g:Code->List Nat->fO->Prop) (d:List Nat) (W:fO):Exit->Act->fO->Prop
 | .normal,_,W'=>Kept T W W'/\I d W'
 | .ret,_,W'=>Kept T W W'/\g .ret d W'
 | .exit id,_,W'=>Kept T W W'/\g (.exit id) d W'
 | .goto t,_,W'=>Kept T W W'/\g (.goto t) d W'
 | .panic _,_,_=>False
 | .outgrown,_,_=>False
def Kept.kc (h:Kept T W W'):KC T W W':=⟨h.size,λk c t m g d=>(h.block k (Array.getElem?_eq_some_iff.1 d).1 g).trans d⟩
theorem Kept.kf {B : Nat} (h:Kept T W W') (g:∀k∈T,k < B):KeepsFrom B W W':=⟨h.size,λk o i d _=>(h.block k (Array.getElem?_eq_some_iff.1 d).1 (λe=>by grind)).trans d⟩
def Fg (g:∀i j,f i=f j->i=j):∀{k d:List Nat},k.map f=d.map f->k=d
 |[],[],_=>rfl
 |[],_::_,h=>by simp at h
 |_::_,[],h=>by simp at h
 |x::xs,y::d,h=>by
  simp only[zF,Pq]at h;rw[g x y h.1,Fg g h.2]
def abB (g:∀i j,f i=f j->i=j) {d ys : List Nat} (h:d.map f <+:ys.map f):d <+:ys:=by
 have⟨t,ht⟩:=h;refine⟨ys.drop d.length,?_⟩;have k:d.length<=ys.length:=by have:=ri List.length ht;simp at this;omega
 have e:d.map f=(ys.take d.length).map f:=by rw[List.map_take,<-ht];simp
 have e2:=Fg g e
 conv=>lhs;lhs;rw[e2]
 simp
theorem Uk (hn:7<=n) {E:Env} {w1 : fO} (hr:Rel E L σ w1)
  {g:Operand} {p:Tmp} {Q:Exit->Act->fO->Prop} (hg:a.eval g=LS w1.heap.size)
  (T:List Nat) (hT:∀k∈T,k≠E.bB/\L.cv.ownBlock≠some k/\k < w1.heap.size)
  (I:List Nat->fO->Prop) (U:Code->List Nat->fO->Prop)
  (hI:OwnFrom (w1.heap.size+1) I) (Y:∀c,OwnFrom (w1.heap.size+1) (U c)) (h0:I [] (w1.alloc (fV #[Bp E] 121))) (h:Nat->Act)
  (m:∀(l:Nat) (x:Nat) (W:fO) (K:Act->fO->Prop),K (h x) W->assign.wpIn (Fence.wide.inRound l) (n - 1 - 1) prog (Exit.then K (λ_ _ _=>False)) {tmps:=a.tmps.setIfInBounds p (kK (some x)),defers:=[]} W)
  (H:∀(l:Nat) (pre:List Nat) (i:Nat) (W:fO),some i∈σ.act->I pre W->pre.length < σ.act.length->body.wpIn (Fence.wide.inRound l) (n - 1 - 1) prog (aer T I U (pre++[i]) W) (h (L.gp i)) W)
  (Z:∀(D:Nat) (W:fO),w1.heap.size+1<=D->I (Bg σ.act.reverse) W->W.heap[D]?=some (.deferred (some []))->Q .normal {a with defers:={target:= .collected D,args:=#[]}::a.defers} W)
  (O:∀(D:Nat) (c:Code) (pre:List Nat) (W:fO),w1.heap.size+1<=D->pre <+:Bg σ.act.reverse->U c pre W->W.heap[D]?=some (.deferred (some []))->c.wpIn Fence.wide n prog Q {a with defers:={target:= .collected D,args:=#[]}::a.defers} W):
  (Code.rangeFunc g #[p] assign body).wpIn Fence.wide n prog Q a (w1.alloc (fV #[Bp E] 121)):=by
 have k1:Kept [] w1 (w1.alloc (fV #[Bp E] 121)):=(Kept.refl _ _).alloc _;have a0:=hr.gJ k1;have⟨C,hL,hC⟩:=a0.GK;have G:(w1.alloc (fV #[Bp E] 121)).heap.size=w1.heap.size+1:=by simp
 have S:∀i j,L.gp i=L.gp j->i=j:=hr.inj;have a1:=YJ (n - 1) (by omega) E.bs E.bB _ C L.cv _ w1.heap.size T _ hL (fB w1 _) (λk hk=>⟨(hT k hk).1,(hT k hk).2.1,by grind⟩);have R:∀x:{x:Nat // some x∈σ.act.map (gX L.gp)},∃i,some i∈σ.act/\L.gp i=x.1:=by
  rintro⟨x,hx⟩;have⟨y,hy,e⟩:=List.mem_map.1 hx;cases y with
  |none=>cases e
  |some i=>grind
 have a4:Bg (σ.act.map (gX L.gp)).reverse=(Bg σ.act.reverse).map L.gp:=by
  rw[<-T0];exact T7 _
 refine O2 (by omega) (gf:=352) hg (Go.Proofs.enters_of func352 (by rfl) rfl) a1 KC.trans (λW l o o' _ u z _=>KC.put W l o o' u z) (Below.refl _ _) (λ_=>rfl)
  (λpre W=>∃d,pre.map (·.1)=d.map L.gp/\I d W) (λc pre W=>∃d,pre.map (·.1)=d.map L.gp/\U c d W) ?_ ?_ ?_ (λx=>h x.1) ?_ ?_ ?_ ?_
 .rintro s A B P ⟨d,u,z⟩ N r;rw[G]at r;exact⟨d,u,hI d A B P z N r⟩
 .rintro c s A B P ⟨d,u,z⟩ N r;rw[G]at r;exact⟨d,u,Y c d A B P z N r⟩
 .grind
 .intro l x W K X
  simpa using m l x.1 W K X
 .rintro l pre x W ⟨d,u,z⟩ a2;have⟨i,hi,ei⟩:=R x;have hb:=H l d i W hi z (by have:=ri List.length u;grind);rw[ei]at hb;have F:∀k∈T,k < (w1.alloc (fV #[Bp E] 121)).heap.size:=λk hk=>by grind
  have e2:(pre++[x]).map (·.1)=(d++[i]).map L.gp:=by rw[rp,rp,u,List.map_singleton,List.map_singleton,ei]
  refine xO hb ?_;rintro e a3 W3 q;cases e with
  |normal=>exact⟨q.1.kf F,q.1.kc,_,e2,q.2⟩
  |ret=>exact⟨q.1.kf F,_,e2,q.2⟩
  |exit id=>exact⟨q.1.kf F,_,e2,q.2⟩
  |goto t=>exact⟨q.1.kf F,_,e2,q.2⟩
  |panic ch=>exact q.elim
  |outgrown=>exact q.elim
 .rintro D ys W V hS ⟨d,u,z⟩ X;rw[G]at V;have:d=Bg σ.act.reverse:=Fg S (by grind)
  grind
 .rintro D c pre W V a5 ⟨d,u,z⟩ X;rw[G]at V;exact O D c d W V (abB S (by grind)) z X
end
section
attribute [local go_sem] Oper.semAt_some
attribute [local go_sem] p6
attribute [local simp] p6
def Dr:∀{xs:j5},(∀i∈Bg xs,ku (σ.nm i) s=false)->σ.qC s xs=none
 |[],_=>rfl
 |none::_,_=>rfl
 |some i::r,h=>by
  show(if ku (σ.nm i) s then some i else σ.qC s r)=none;rw[h i (by simp[Bg])];simp only[rL,↓reduceIte];exact Dr λj d=>h j (by simp[Bg,d])
theorem EA {i : Nat} (d:ku (σ.nm i) s=true):∀{xs:j5} {pre:List Nat},pre++[i] <+:Bg xs->(∀j∈pre,ku (σ.nm j) s=false)->σ.qC s xs=some i
 |[],pre,h,_=>by have⟨r,hr⟩:=h;simp[Bg]at hr
 |none::_,pre,h,_=>by have⟨r,hr⟩:=h;simp[Bg]at hr
 |some k::r,[],h,_=>by
  have⟨t,ht⟩:=h;have e:i=k:=by simp[Bg]at ht;exact ht.1
  grind[Ab.qC]
 |some k::r,p::pre,h,hp=>by
  have⟨t,ht⟩:=h;have e:p=k/\pre++[i]++t=Bg r:=by simpa [Bg]using ht
  obtain⟨rfl,e2⟩:=e;show(if ku (σ.nm p) s then some p else σ.qC s r)=_;rw[hp p (by simp)];simp only[rL,↓reduceIte];exact EA d ⟨t,e2⟩ (λj g=>hp j (by simp[g]))
def yM (W:fO) {D : Nat} (h:b≠D):(W.putObj D o).cell? ⟨b,0,none⟩=W.cell? ⟨b,0,none⟩:=YZ (p5 h)
theorem DJ {E:Env} (h:RF E f σ w) (s:fN):
  Calls prog 282 #[Bp E,fR s] w λe w'=>e=gO (oV f (σ.pq s))/\Kept [] w w':=by
 obtain⟨L,rfl,p⟩:=h;refine(wV (n:=9)).1 ?_;refine wL func282 rfl trivial ?_ rfl;simp only[ntmps282,xC,sV,vZ,Nat.reduceAdd,Nat.reduceSub,xn,xj,xm,xI,rM,vz];obtain⟨r,k⟩:∃r,r=(w.alloc (fV #[fR s] 9)).alloc (fV #[.pointer none] 72):=⟨_,rfl⟩;have N:Kept [] w r:=by rw[k];exact((Kept.refl _ _).alloc _).alloc _
 have B0:r.heap[w.heap.size]?=some (fV #[fR s] 9):=by rw[k];exact(Below.heap_alloc _ _ _ (by simp)).trans (fB w _)
 have B1:r.heap[w.heap.size+1]?=some (fV #[.pointer none] 72):=by rw[k];have:=fB (w.alloc (fV #[fR s] 9)) (fV #[.pointer none] 72);rwa [xa]at this
 have m:r.heap.size=w.heap.size+1+1:=by rw[k];simp
 have Y:=p.gJ N;have a4:=p.lt;have HB:=Ia E.bB r;have HN:=(λ(W:fO) (Q:Kept [] w W) (i:Nat) (e:Al) (P:σ.gF i=some e)=>(p.gJ Q).vh P);have HA:=(λ(i:Nat) (P:some i∈σ.act)=>p.wf.act (some i) P);have HO:=(λg (u:L.cv.ownBlock=some g)=>(p.oE.lt g u).2);have U:=fx m;have HW:=fx k;clear m k
 gi_wp2_with fail
 rw[<-HW.out];refine(callsIn_wide.2 HB).mono ?_;rintro e w' ⟨rfl,rfl⟩;gi_wp2;refine Uk (by omega) Y rfl [w.heap.size+1] ?_
  (λpre W=>Kept [] w W/\W.heap[w.heap.size]?=some (fV #[fR s] 9)/\W.heap[w.heap.size+1]?=some (fV #[.pointer none] 72)/\∀i∈pre,ku (σ.nm i) s=false)
  (λc pre W=>c= .ret/\Kept [] w W/\∃d i,pre=d++[i]/\(∀j∈d,ku (σ.nm j) s=false)/\ku (σ.nm i) s=true/\W.heap[w.heap.size+1]?=some (fV #[fW (L.gp i)] 72))
  ?_ ?_ ?_ (λx=>{tmps:=#[Bp E,fR s,undef,fW w.heap.size,fW (w.heap.size+1),kK (some x),Bp E,LS r.heap.size,kK (some x),undef,undef,undef,undef,undef,undef,undef],defers:=[]}) ?assign ?body ?done ?stop
 .grind
 .rintro pre A B a3 ⟨h1,V,t,H⟩ u p;have m:=U.out;exact⟨lX h1 u p (by omega),km V u p (by omega),km t u p (by omega),H⟩
 .rintro c pre A B a3 ⟨h0,h1,d,i,V,t,H,h5⟩ u p;have m:=U.out;exact⟨h0,lX h1 u p (by omega),d,i,V,t,H,km h5 u p (by omega)⟩
 .have Q:Kept [] r (r.alloc (fV #[Bp E] 121)):=(Kept.refl _ _).alloc _;exact⟨N.trans Q,Q.at B0 (by simp),Q.at B1 (by simp),by simp⟩
 case assign=>
  intro l x W K O;gi_wp2;exact O
 case body=>
  rintro l pre i W P ⟨z,B2,S,B4⟩ _;have a1:=HA i P;obtain⟨e0,a0⟩:∃e0,σ.gF i=some e0:=Option.isSome_iff_exists.1 a1;have c0:=HN W z i e0 a0;have c1:=fw B2 0;have G:=fw S 0;have f3:=fA S 0;dsimp at c1 G;rw[show kK (some (L.gp i))=fW (L.gp i)from rfl];gi_wp2;refine Aw l (by kernel_rfl) (by kernel_rfl) (by rfl) ?_
  repeat (gi_big_quiet_step (fail))
  refine wpQuietIn_nil ?_;intro _ a2;have⟨nq,hw''⟩:=a2;subst hw'';cases hq:ku (σ.nm i) s with
  |true=>
   have HQ:=hq;have I:((σ.nm i).toList==s.toList)=true:=hq;rw[I];gi_wp2;refine⟨((Kept.refl [w.heap.size+1] W).drewN nq).setCell (.inl (by simp)) _,rfl,(z.drewN nq).setCell (.inr (by simp)) _,pre,i,rfl,B4,HQ,?_⟩;exact fI (show(W.drewN nq).heap[w.heap.size+1]?=_ from S) 0 _
  |false=>
   have HQ:=hq;have I:((σ.nm i).toList==s.toList)=false:=hq;rw[I];gi_wp2;refine⟨(Kept.refl _ W).drewN nq,z.drewN nq,B2,S,λy hy=>?_⟩
   grind
 case done=>
  rintro D W X ⟨z,V,t,H⟩ O;have G:=fw t 0;have f3:=fA t 0;dsimp at G;have q:σ.pq s=none:=Dr H;have F:=fx q;have HS:=fx (nU t 0 (.pointer none) rfl);clear q;gi_wp2;rw[HS.out];refine⟨by simp,.inl ⟨_,_,rfl,ou O,?_⟩⟩;have m:=U.out;have hD:=X;have Z:(W.putObj D (.deferred none)).cell? ⟨w.heap.size+1,0,none⟩=some (.pointer none):=by rw[<-G];exact yM W (by omega)
  exact⟨.pointer none,by simp[results,results282,asAddr,Result.andThen,go_sem,Z],by rw[F.out];rfl,z.take (by omega) _⟩
 case stop=>
  rintro D c pre W X R ⟨rfl,z,d,i,rfl,t,H,h5⟩ O;have q:σ.pq s=some i:=EA H R t;have F:=fx q;have G:=fw h5 0;dsimp at G;clear q;gi_wp2;refine⟨by simp,.inl ⟨_,_,rfl,ou O,?_⟩⟩;have m:=U.out;have hD:=X;have Z:(W.putObj D (.deferred none)).cell? ⟨w.heap.size+1,0,none⟩=some (fW (L.gp i)):=by rw[<-G];exact yM W (by omega)
  exact⟨fW (L.gp i),by simp[results,results282,asAddr,Result.andThen,go_sem,Z],by rw[F.out];rfl,z.take (by omega) _⟩
end
theorem WJ (L:kZ) (i:Nat) (h:i < L.length):(flat L)[i*2]?=some (fR (L[i]).1)/\(flat L)[i*2+1]?=some (fR (L[i]).2):=by
 induction L generalizing i with
 |nil=>simp at h
 |cons a L ih=>
  cases i with
  |zero=>simp[flat]
  |succ i=>
   grind[flat]
theorem zD.dp {d : Option Addr} {j : Nat} (h:zD w (.slice d fX.length j) fX) {k : Nat} (r:k < fX.length):∃g,d=some ⟨g,0,none⟩/\w.cell? ⟨g,k*2,none⟩=some (fR fX[k].1)/\w.cell? ⟨g,k*2+1,none⟩=some (fR fX[k].2):=by
 obtain⟨g,p⟩:∃g,d=some ⟨g,0,none⟩:=by
  rcases h.2 with⟨e,t⟩|⟨q,i,m,e,_⟩
  all_goals grind
 subst p;have⟨f0,f1⟩:=WJ fX k r;exact⟨g,rfl,by rw[h.cellAt (k*2) (by omega)];exact f0,by rw[h.cellAt (k*2+1) (by omega)];exact f1⟩
def afP (w:fO) (k:Nat) (g:jB) (q:fN×fN->Bool) (fX:kZ):Prop:=
 (∀d w,(callFunc k d).run prog w= .ok (.enter k d) w)/\∀W,Kept [] w W->∀a∈fX,Calls prog k (#[.agg #[fR a.1,fR a.2]]++g) W λe W'=>e=gO (.bool (q a))/\Kept [] W W'
theorem Om (k:Nat) (j:jB) (q:fN×fN->Bool) (av:gh) (fX:kZ) (w:fO) (H:zD w av fX) (Z:fX.length<=4096) (R:afP w k j q fX):
  Calls prog 372 #[av,.func (.func k) #[] j] w λe w'=>∃n:Int,e=gO (fK n)/\decide (0<=n)=fX.any q/\Kept [] w w':=by
 have⟨ao,cp,hav⟩:=fS H;subst hav;have⟨hcf,HC⟩:=R;have K:=fx H;clear H;go_enter func372,ntmps372
 go_wp21
 go_loopw [8] (λv wr=>∃d:Nat,v=fK d/\d<=fX.length/\(∀a∈fX.take d,q a=false)/\Kept [] w wr) (λv _=>fX.length - (intOf v).toNat)
 case atStart=>exact⟨0,rfl,im _,by simp,Kept.refl _ _⟩
 case round=>
  obtain⟨d,rfl,Q,p,r⟩:=hrel
  by_cases i:d < fX.length
  .obtain⟨g,rfl,X,Y⟩:=zD.dp (r.ownsRow K (λ_ _=>by simp)) i;have D:=HC wr r fX[d] (tM i);have O:=fx p;have z:=fx r;have u:fX.take (d+1)=fX.take d++[fX[d]]:=by rw[IW,pY i];rfl
   have G:=fx u;have m:∀b,q fX[d]=b->(b=true->fX.any q=true):=λb P h=>List.any_eq_true.2 ⟨fX[d],tM i,by rw[P,h]⟩;generalize hqq:q fX[d]=b at D m;have S:=hqq;have U:=fx (m b rfl);clear p r u;generalize fX[d].1=x at *;generalize fX[d].2=y at *
   go_wp21
   refine D.mono ?_;rintro e V ⟨rfl,I⟩;have F:=z.trans I;cases b with
   |true=>
    go_wp2;go_ret
    simp_all
   |false=>
    go_wp2;go_roundw
    case rel=>
     refine⟨d+1,by go_num,by omega,λa t=>?_,F⟩;rw[G.out]at t;rcases List.mem_append.1 t with t|t
     .exact O a t
     grind
    case measure=>simp[intOf];omega
  .have N:Hid (fX.any q=false):=fx (by
    grind)
   have z:=fx r;clear r p;go_wp2;go_ret;exact⟨-1,rfl,by rw[N.out];rfl,z⟩
def zP (k:Nat) (d:jB) (q:fN×fN->Bool) (av:gh) (fX:kZ) (w:fO) (j:zD w av fX) (m:fX.length<=4096) (p:afP w k d q fX):
  Calls prog 350 #[av,.func (.func k) #[] d] w λe w'=>e=gO (.bool (fX.any q))/\Kept [] w w':=by
 have C:=Om k d q av fX w j m p;go_enter func350,ntmps350
 go_wp21
 refine C.mono ?_;rintro e r ⟨n,rfl,g,i⟩;have h:=fx g;clear g;go_wp2
 all_goals go_ret
 all_goals exact⟨by rw[<-h.out];rfl,i⟩
def acg (b:Nat) (s:fN) (a:fN×fN) (w:fO) (h:w.cell? ⟨b,0,none⟩=some (fR s)) (d:b < w.heap.size):
  Calls prog 351 #[.agg #[fR a.1,fR a.2],fW b] w λe w'=>e=gO (.bool (ku a.1 s))/\Kept [] w w':=by
 have g:=(Kept.refl [] w).alloc (fV #[fR a.1,fR a.2] 299);have i:=(g.cell (p:=⟨b,0,none⟩) d (by simp)).trans h;generalize a.1=x at *;generalize a.2=y at *;go_enter func351,ntmps351;go_wp2;go_ret;exact⟨rfl,g⟩
def aek (k:Nat) (i:fN) (av:gh) (H kv:gh) (fX:kZ) (s:fN) (w:fO) (t:w.heap[k]?=some (fV #[fR i,av,H,kv] 140)) (r:zD w av fX) (G:fX.length<=4096):
  Calls prog 323 #[fW k,fR s] w λe w'=>e=gO (.bool (zC fX s))/\Kept [] w w':=by
 have F:∀(q:Fn) (first h:jB) (w:fO),(Instr.makeFunc q first h).run prog w= .ok (.func q first h) w:=λ_ _ _ _=>rfl;obtain⟨j,d⟩:∃j,j=w.alloc (fV #[fR s] 9):=⟨_,rfl⟩;have g:Kept [] w j:=by rw[d];exact(Kept.refl _ _).alloc _
 have p:j.heap[w.heap.size]?=some (fV #[fR s] 9):=by rw[d];exact fB w _
 have I:(w.alloc (fV #[fR s] 9)).cell? ⟨k,1,none⟩=some av:=by rw[<-d,fw (g.at t (by simp))];rfl
 have C:=zP 351 #[fW w.heap.size] (λa=>ku a.1 s) av fX j (g.ownsRow r (λ_ _=>by simp)) G ⟨enters_of func351 (by rfl) rfl,λW u a _=>acg w.heap.size s a W (by rw[fw (u.at p (by simp))];rfl) (iB (u.at p (by simp)))⟩;have D:=iB t;have⟨ao,cp,hav⟩:=fS r;subst hav;have z:=fx d.symm;clear d;go_enter func323,ntmps323
 go_wp21
 rw[z.out];refine C.mono ?_;rintro e K ⟨rfl,m⟩;have y:=g.trans m;go_wp2;go_ret;exact⟨rfl,y⟩
def rC (a b:fN×fN):Bool:=ku a.1 b.1&&ku a.2 b.2
theorem Zv (x:fN×fN) (av:gh) (fX:kZ) (w:fO) (Q:zD w av fX) (hn:fX.length<=4096):
  Calls prog 377 #[av,.agg #[fR x.1,fR x.2]] w λe w'=>∃n:Int,e=gO (fK n)/\decide (0<=n)=fX.any (λy=>rC x y)/\Kept [] w w':=by
 have⟨ao,cp,hav⟩:=fS Q;subst hav;obtain⟨G,j⟩:∃G,G=w.alloc (fV #[fR x.1,fR x.2] 299):=⟨_,rfl⟩;have m:Kept [] w G:=by rw[j];exact(Kept.refl _ _).alloc _
 have P:G.heap[w.heap.size]?=some (fV #[fR x.1,fR x.2] 299):=by rw[j];exact fB w _
 have R:=m.ownsRow Q (λ_ _=>by simp);have U:=fx j.symm;have t:=fx P;clear j P;go_enter func377,ntmps377
 go_wp21
 rw[U.out]
 go_loopw [8] (λv wr=>∃d:Nat,v=fK d/\d<=fX.length/\(∀a∈fX.take d,rC x a=false)/\Kept [] G wr) (λv _=>fX.length - (intOf v).toNat)
 case atStart=>exact⟨0,rfl,im _,by simp,Kept.refl _ _⟩
 case round=>
  obtain⟨d,rfl,Z,r,p⟩:=hrel
  by_cases q:d < fX.length
  .obtain⟨g,rfl,c0,c1⟩:=zD.dp (p.ownsRow R (λ_ _=>by simp)) q;have X:=fw (p.at t.out (by simp)) 0;have Y:=fw (p.at t.out (by simp)) 1;dsimp at X Y;have O:=fx r;have z:=fx p;have F:fX.take (d+1)=fX.take d++[fX[d]]:=by rw[IW,pY q];rfl
   have D:=fx F;have V:=fx (λ(h:rC x fX[d]=true)=>List.any_eq_true.2 ⟨fX[d],tM q,h⟩);have HP:=(show rC x fX[d]=(ku x.1 fX[d].1&&ku x.2 fX[d].2)from rfl);clear r p F;generalize fX[d]=y at *;have⟨y0,y1⟩:=y;obtain⟨K,N⟩:=x;simp only[]at *;have k:∀(H:Bool),(ku K y0&&ku N y1)=H->rC (K,N) (y0,y1)=H:=λH h=>h
   by_cases I:K.toList=y0.toList
   .by_cases e1:N.toList=y1.toList
    .have u:=fx (k true (by unfold ku;rw[I,e1];simp));go_wp2_with fail;go_region
     all_goals (try go_wp2)
     all_goals (try go_ret)
     all_goals exact⟨(d:Int),rfl,by rw[V.out u.out];simp,m.trans z.drew⟩
    .have u:=fx (k false (by unfold ku;rw[I];simp[e1]))
     go_wp21
     go_region
     all_goals (try go_wp2)
     all_goals (try go_roundw)
     all_goals first
      |(case rel=>
        refine⟨d+1,by go_num,by omega,λa i=>?_,z.drew⟩;rw[D.out]at i;rcases List.mem_append.1 i with i|i
        .exact O a i
        .rw[List.mem_singleton.1 i];exact u)
      |(case measure=>simp[intOf];omega)
      |skip
   .have u:=fx (k false (by unfold ku;simp[I]))
    go_wp21
    go_region
    all_goals (try go_wp2)
    all_goals (try go_roundw)
    all_goals first
     |(case rel=>
       refine⟨d+1,by go_num,by omega,λa i=>?_,z.drew⟩;rw[D.out]at i;rcases List.mem_append.1 i with i|i
       .exact O a i
       .rw[List.mem_singleton.1 i];exact u)
     |(case measure=>simp[intOf];omega)
     |skip
  .have S:Hid (fX.any (λy=>rC x y)=false):=fx (by
    grind)
   have z:=fx p;clear p r;go_wp2;go_ret;exact⟨-1,rfl,by rw[S.out];rfl,m.trans z⟩
def Pw (x:fN×fN) (av:gh) (fX:kZ) (w:fO) (h:zD w av fX) (m:fX.length<=4096):
  Calls prog 356 #[av,.agg #[fR x.1,fR x.2]] w λe w'=>e=gO (.bool (fX.any λy=>rC x y))/\Kept [] w w':=by
 have d:=(Kept.refl [] w).alloc (fV #[fR x.1,fR x.2] 299);have C:=Zv x av fX _ (d.ownsRow h (λ_ _=>by simp)) m;have⟨ao,cp,hav⟩:=fS h;subst hav;go_enter func356,ntmps356
 go_wp21
 refine C.mono ?_;rintro e p ⟨n,rfl,g,k⟩;have i:=fx g;have j:=d.trans k;clear g;go_wp2
 all_goals go_ret
 all_goals exact⟨by rw[<-i.out];rfl,j⟩
def Y6 (b k:Nat) (j:fN) (av N kv:gh) (fX:kZ) (a:fN×fN) (w:fO) (H:w.heap[b]?=some (fV #[fW k] 72)) (r:w.heap[k]?=some (fV #[fR j,av,N,kv] 140)) (p:zD w av fX) (K:fX.length<=4096):
  Calls prog 355 #[.agg #[fR a.1,fR a.2],fW b] w λe w'=>e=gO (.bool (!(fX.any λy=>rC a y)))/\Kept [] w w':=by
 obtain⟨h,g⟩:∃h,h=w.alloc (fV #[fR a.1,fR a.2] 299):=⟨_,rfl⟩;have d:Kept [] w h:=by rw[g];exact(Kept.refl _ _).alloc _
 have m:h.heap[w.heap.size]?=some (fV #[fR a.1,fR a.2] 299):=by rw[g];exact fB w _
 have z:=fw m 0;have D:=fw m 1;have F:=fw (d.at H (by simp)) 0;have G:=fw (d.at r (by simp)) 1;dsimp at z D F G;have I:k < h.heap.size:=iB (d.at r (by simp));have C:=(λq=>Pw a av fX (h.drewN q) ((d.drewN q).ownsRow p (λ_ _=>by simp)) K);have⟨ao,cp,hav⟩:=fS p;subst hav;have u:=fx g.symm;clear g;go_enter func355,ntmps355
 go_wp21
 rw[u.out]
 go_region_with (go_at_call 356;refine(C 1).mono ?_;rintro e O ⟨rfl,i⟩;have t:=fx ((d.drewN 1).trans i);clear i)
 all_goals (try go_wp2)
 all_goals (try go_ret)
 all_goals exact⟨rfl,t⟩
def ab9 (E:Env) (x:Nat×Nat×fN):hH E (qh x)=OJ x:=rfl
def P9 (E:Env) (x:Nat×Nat×fN) (w:fO):Calls prog 234 #[OJ x] w λe w'=>e=gO (.bool (!lr x.2.2))/\Kept [] w w':=by
 have d:=zv E (qh x) w;rw[ab9]at d;have j:=(λW=>J0 x.2.2 W);have k:(qh x).chars=x.2.2:=rfl;rw[k]at d;generalize OJ x=v at *;generalize x.2.2=s at *;go_enter func234,ntmps234
 go_wp21
 refine d.mono ?_;rintro e m ⟨rfl,g⟩
 go_wp21
 refine(j m).mono ?_;rintro e p ⟨rfl,i⟩;have h:=g.trans i;go_wp2;go_ret;exact⟨rfl,h⟩
theorem aeD.at {d : Option Addr} {j : Nat} {xs : List (Nat×Nat×fN)} (h:w.ownsRow base 125 1 (.slice d xs.length j) xs.length (xs.map OJ)) {k : Nat} (r:k < xs.length):∃g,d=some ⟨g,0,none⟩/\w.cell? ⟨g,k,none⟩=some (OJ xs[k]):=by
 obtain⟨g,p⟩:∃g,d=some ⟨g,0,none⟩:=by
  rcases h.2 with⟨e,t⟩|⟨q,i,m,e,_⟩
  all_goals grind
 subst p;exact⟨g,rfl,by rw[h.cellAt k (by omega)];simp[r]⟩
theorem Oh (E:Env) (base:Nat) (z:gh) (xs:List (Nat×Nat×fN)) (w:fO) (u:w.ownsRow base 125 1 z xs.length (xs.map OJ)) (U:xs.length<=4096):
  Calls prog 296 #[z,.func (.func 234) #[] #[]] w λe w'=>∃n:Int,e=gO (fK n)/\decide (0<=n)=(xs.any λx=>!lr x.2.2)/\Kept [] w w':=by
 have⟨ao,cp,hav⟩:=fS u;subst hav;have O:=enters_of func234 (by rfl) rfl;have G:=(λW x=>P9 E x W);have F:=fx u;clear u;go_enter func296,ntmps296
 go_wp21
 go_loopw [8] (λv wr=>∃d:Nat,v=fK d/\d<=xs.length/\(∀a∈xs.take d,(!lr a.2.2)=false)/\Kept [] w wr) (λv _=>xs.length - (intOf v).toNat)
 case atStart=>exact⟨0,rfl,im _,by simp,Kept.refl _ _⟩
 case round=>
  obtain⟨d,rfl,P,j,m⟩:=hrel
  by_cases p:d < xs.length
  .obtain⟨g,rfl,K⟩:=aeD.at (m.ownsRow F (λ_ _=>by simp)) p;have D:=G wr xs[d];have I:=fx j;have q:=fx m;have t:=fx (show xs.take (d+1)=xs.take d++[xs[d]] by simp);have i:∀b,(!lr xs[d].2.2)=b->(b=true->(xs.any λx=>!lr x.2.2)=true):=λb N h=>List.any_eq_true.2 ⟨xs[d],tM p,by rw[N,h]⟩;generalize hqq:(!lr xs[d].2.2)=b at D i;have Q:=hqq;have R:=fx (i b rfl);clear j m;rw[show OJ xs[d]= .iface 188 (.agg #[fK (xs[d].1),fK (xs[d].2.1),fR xs[d].2.2])from rfl]at K D
   go_wp21
   refine D.mono ?_;rintro e S ⟨rfl,y⟩;have r:=q.trans y;cases b with
   |true=>
    go_wp2;go_ret
    simp_all
   |false=>
    go_wp2;go_roundw
    case rel=>
     refine⟨d+1,by go_num,by omega,λa k=>?_,r⟩;rw[t.out]at k;rcases List.mem_append.1 k with k|k
     .exact I a k
     grind
    case measure=>simp[intOf];omega
  .have H:Hid ((xs.any λx=>!lr x.2.2)=false):=fx (by
    grind)
   have q:=fx m;clear m j;go_wp2;go_ret;exact⟨-1,rfl,by rw[H.out];rfl,q⟩
def GW (E:Env) (base:Nat) (d:gh) (xs:List (Nat×Nat×fN)) (w:fO) (j:w.ownsRow base 125 1 d xs.length (xs.map OJ)) (k:xs.length<=4096):
  Calls prog 233 #[d,.func (.func 234) #[] #[]] w λe w'=>e=gO (.bool (xs.any λx=>!lr x.2.2))/\Kept [] w w':=by
 have C:=Oh E base d xs w j k;go_enter func233,ntmps233
 go_wp21
 refine C.mono ?_;rintro e m ⟨n,rfl,g,i⟩;have h:=fx g;clear g;go_wp2
 all_goals go_ret
 all_goals exact⟨by rw[<-h.out];rfl,i⟩
attribute [local go_sem] Oper.semAt_some
def ot (d g:Nat->fZ->M Unit) (t:fZ):M Unit:=do
 qB d
 wj λσ=>{σ with waiting:=[],mode:=σ.kept}
 kq g t
 return ()
def Env.lock (E:Env) (v:gh) (d:List (Nat×Nat×fN)):Env:={E with wv:=some (v,d)}
variable {E : Env}
def Rel.lock (h:Rel E L σ w):Rel (E.lock L.wv σ.waiting) L σ w:=by
 have⟨C,hb,hC⟩:=h.gR;exact
  {fr:=h.fr,env:=⟨h.env.Gp,h.env.fq,h.env.spec,h.env.Wx,h.env.VV,h.env.vc⟩,rY:=h.rY,rP:=h.rP,inj:=h.inj,xv:=h.xv,Ak:=h.Ak,uq:=h.uq,Ad:=h.Ad,wf:=h.wf
   gR:=⟨C,hb,⟨hC.size,hC.low,hC.fQ,hC.act,hC.head,hC.form,hC.mode,hC.kept,hC.wait,hC.xU,hC.iP,hC.gp,hC.behind⟩⟩
   nM:=h.nM,oE:=h.oE,Cg:=h.Cg,ve:=h.ve,Bx:=h.Bx,nN:=h.nN,BK:=h.BK,rd:=h.rd,BH:=h.BH,tok:=h.tok,Av:=h.Av,bz:=h.bz,bB:=h.bB,bR:=h.bR,bN:=h.bN,yJ:=h.yJ,ab:=h.ab,tb:=h.tb
   Ch:=λp d=>by cases d;simp}
theorem Rel.unlock {g : List (Nat×Nat×fN)} (h:Rel (E.lock v g) L σ w) (d:E.wv=none):Rel E L σ w:=by
 have⟨C,hb,hC⟩:=h.gR;exact
  {fr:=h.fr,env:=⟨h.env.Gp,h.env.fq,h.env.spec,h.env.Wx,h.env.VV,h.env.vc⟩,rY:=h.rY,rP:=h.rP,inj:=h.inj,xv:=h.xv,Ak:=h.Ak,uq:=h.uq,Ad:=h.Ad,wf:=h.wf
   gR:=⟨C,hb,⟨hC.size,hC.low,hC.fQ,hC.act,hC.head,hC.form,hC.mode,hC.kept,hC.wait,hC.xU,hC.iP,hC.gp,hC.behind⟩⟩
   nM:=h.nM,oE:=h.oE,Cg:=h.Cg,ve:=h.ve,Bx:=h.Bx,nN:=h.nN,BK:=h.BK,rd:=h.rd,BH:=h.BH,tok:=h.tok,Av:=h.Av,bz:=h.bz,bB:=h.bB,bR:=h.bR,bN:=h.bN,yJ:=h.yJ,ab:=h.ab,tb:=h.tb
   Ch:=λp i=>by grind}
def At.unlock {g : List (Nat×Nat×fN)} (h:At (E.lock v g) f0 n0 w0 f σ w) (d:E.wv=none):At E f0 n0 w0 f σ w:=by
 have⟨L,e,hr⟩:=h.rel;exact⟨⟨L,e,hr.unlock d⟩,h.ext,h.le,h.fr,h.hw⟩
def M.Mg {α d h:Type} (m:M α) (k:α->M d) (g:d->M h) (σ:Ab):((m>>=k)>>=g) σ=(m>>=λa=>k a>>=g) σ:=by
 rw[M.fP,M.fP,M.fP];cases m σ with
 |ok a σ'=>rfl
 |stop e p=>rfl
 |stuck=>rfl
def Rel.NC (h:Rel E L σ w) (g:E.wv=none):Rel E {L with wv:=iQ} {σ with waiting:=[]} (w.setCell ⟨E.bB,194,none⟩ (iQ)):=by
 have⟨C,hb,hC⟩:=h.gR;have d:Kept [E.bB] w (w.setCell ⟨E.bB,194,none⟩ (iQ)):=(Kept.refl _ w).setCell (.inl (by simp)) _;have i:KT E.bs [180,125] w (w.setCell ⟨E.bB,194,none⟩ (iQ)):= .jl d (λk d _=>by simp at d;subst d;exact⟨⟨_,_,_,hb,by simp⟩,h.bB⟩);exact h.afx hC (iQ) [] (fI hb 194 _) i (oD _ _ _ _) (by simp) g
def At.NC (h:At E f0 n0 w0 f σ w) (g:E.wv=none):At E f0 n0 w0 f {σ with waiting:=[]} (w.setCell ⟨E.bB,194,none⟩ (iQ)):=by
 have⟨L,e,hr⟩:=h.rel;refine h.to ⟨{L with wv:=iQ},e,hr.NC g⟩ (gr _) ?_;have⟨C,hb,hC⟩:=hr.gR;have d:Kept [E.bB] w (w.setCell ⟨E.bB,194,none⟩ (iQ)):=(Kept.refl _ w).setCell (.inl (by simp)) _;exact .jl d (λk d=>by simp at d;subst d;exact⟨⟨_,_,_,hb,by decide⟩,hr.bB⟩)
def Jd (d:Nat->fZ->M Unit) (g:Bool) (x:Nat×Nat×fN):M Unit:=if g then tZ d (qh x)else jQ (qh x)
def qV (d:Nat->fZ->M Unit) (g:Bool):List (Nat×Nat×fN)->M Unit
 |[]=>pure ()
 |x::r=>do
  Jd d g x
  qV d g r
def Ey (d:Nat->fZ->M Unit) (g:Bool) (x:Nat×Nat×fN) (r:List (Nat×Nat×fN)):qV d g (x::r)=(Jd d g x>>=λ_=>qV d g r):=rfl
def Mu (d:Nat->fZ->M Unit):∀xs,qV d true xs=uw d xs
 |[]=>rfl
 |x::r=>by unfold qV uw;rw[Mu d r];rfl
def L9 (d:Nat->fZ->M Unit):∀xs,qV d false xs=tP xs
 |[]=>rfl
 |x::r=>by unfold qV tP;rw[L9 d r];rfl
def IQ (E:Env) (Y:E.wv=none) (d q:Nat->fZ->M Unit) (a5:∀v ws (m:Nat) (t:fZ),iL E t->iG (E.lock v ws) 171 (λ_=>#[Bp E,fK m,hH E t]) (d m t) uV) (hA:∀(m:Nat) (t:fZ),iL E t->iG E 171 (λ_=>#[Bp E,fK m,hH E t]) (q m t) uV) (t:fZ) (ht:iL E t):iG E 137 (λ_=>#[Bp E,hH E t]) (ot d q t) uV:=by
 intro f σ w h HS;have⟨L,hL,hr⟩:=h;obtain⟨R,G⟩:∃R,R=ot d q t σ:=⟨_,rfl⟩;rw[<-G]at HS|-;obtain⟨X,a0⟩:∃X,X=σ.waiting.any λx=>!lr x.2.2:=⟨_,rfl⟩;obtain⟨xs,U⟩:∃xs,xs=σ.waiting:=⟨_,rfl⟩;obtain⟨V,S⟩:∃V,V=L.wv:=⟨_,rfl⟩;have a6:R=(qV d X xs>>=λ_=>(do
   wj λσ=>{σ with waiting:=[],mode:=σ.kept}
   kq q t
   return ():M Unit)) σ:=by
  rw[G];unfold ot;rw[M.fP,M.fP];have e1:qB d σ=qV d X xs σ:=by
   unfold qB;rw[<-a0,U];cases X
   .rw[L9];rfl
   .rw[Mu];rfl
  rw[e1]
 have a1:=hr.lock;rw[<-S,<-U]at a1;have H:=At.start (E:=E.lock V xs) ⟨L,hL,a1⟩;have C1:=GW E E.bs L.wv σ.waiting w hr.nN hr.BK;rw[<-a0,<-S]at C1;have a2:=hr.nN;rw[<-S,<-U]at a2;have⟨ao,cp,hsh⟩:=fS a2;have ad:xs.length<=4096:=by rw[U];exact hr.BK
 have c0:=hr.acJ;rw[<-S,hsh]at c0;rw[hsh]at C1;have K:=hr.lt;have ac:∀(fn:Fn) (first a4:jB) (w:fO),(Instr.makeFunc fn first a4).run prog w= .ok (.func fn first a4) w:=λ_ _ _ _=>rfl;have ab:=enters_of func109 (by rfl) rfl;have aa:=enters_of func135 (by rfl) rfl;have r:=fx a6;have a3:=fx hsh;have HE:∀x:Nat×Nat×fN,iG (E.lock V xs) (if X then 135 else 109) (λ_=>#[Bp E,OJ x]) (Jd d X x) uV:=by
  intro x;cases X with
  |true=>exact Dv (E.lock V xs) d (λm t ht=>a5 V xs m t ht) (qh x) (λh=>by cases h)
  |false=>exact vF (E.lock V xs) (ij _) (qh x)
 have HA:=hA;clear G a6 a1 a2 hsh hr hL hA a5 a0 U S;cases X with
 |true=>
  have Z:Hid (∀x:Nat×Nat×fN,iG (E.lock V xs) 135 (λ_=>#[Bp E,OJ x]) (Jd d true x) uV):=HE;clear HE;go_enter func137,ntmps137
  go_wp21
  refine C1.mono ?_;rintro e w1 ⟨rfl,F⟩;have c1:=(F.cell (p:=⟨E.bB,194,none⟩) K (by simp)).trans c0;have P:E.bB < w1.heap.size:=lz K F.size;replace H:=H.k0 F;clear F C1
  go_wp21
  go_loopw [21] (λv wr=>∃(k:Nat) (g:Nat->Nat) (j:Ab),v=fK k/\k<=xs.length/\R=(qV d true (xs.drop k)>>=λ_=>(do
   wj λσ=>{σ with waiting:=[],mode:=σ.kept}
   kq q t
   return ():M Unit)) j/\At (E.lock V xs) f σ.nodes.length w g j wr) (λv _=>xs.length - (intOf v).toNat)
  case atStart=>exact⟨0,f,σ,rfl,im _,r,H⟩
  case round=>
   clear H r c0 c1 K P;obtain⟨k,g,j,rfl,a7,G,u⟩:=hrel
   by_cases Q:k < xs.length
   .have⟨L',hL',hr'⟩:=u.rel;have⟨e1,e2⟩:=hr'.Ch _ rfl;have i:=hr'.nN;rw[e1,e2]at i;dsimp only at i;rw[a3.out]at i;obtain⟨gb,rfl,c5⟩:=aeD.at i Q;rw[C9 Q]at G;have y:R=(Jd d true xs[k]>>=λ_=>qV d true (xs.drop (k+1))>>=λ_=>(do
      wj λσ=>{σ with waiting:=[],mode:=σ.kept}
      kq q t
      return ():M Unit)) j:=by
     rw[G,Ey,M.Mg]
    replace H:=u;have r:=fx y;have O:=Z xs[k];clear G y u i e1 e2 hr' hL';rw[show OJ xs[k]= .iface 188 (.agg #[fK (xs[k].1),fK (xs[k].2.1),fR xs[k].2.2])from rfl]at c5 O
    go_wp21
    refine dC (O) H r HS rfl (λ_ _ _ _ h=>And.intro rfl (lS h)) ?_;clear H r;rintro(_) f σ w H HX HF r;go_wp2;go_roundw
    case rel=>exact⟨k+1,f,σ,by go_num,by omega,r,H⟩
    case measure=>simp[intOf];omega
   .have y:R=(kq q t>>=λ_=>(Pure.pure ():M Unit)) {j with waiting:=[],mode:=j.kept}:=by
     rw[G,FT (by omega)];rfl
    have N:=(u.unlock Y);obtain⟨z,D,c4⟩:∃z D,wr.cell? ⟨E.bB,194,none⟩=some (.slice z j.waiting.length D):=by
     have⟨L4,_,hr4⟩:=N.rel;have⟨z,D,e4⟩:=fS hr4.nN;exact⟨z,D,by rw[<-e4];exact hr4.acJ⟩
    have f4:=N.free 194;have a8:=N.lt;have I:=N.NC Y;have c5:=I.TD;have c6:=I.rK;have f6:=I.free 192;have a9:=I.lt;have H:=I.iI j.kept;have r:=fx y;clear G y u N I
    go_wp21
    refine dC (tA E q HA t ht) H r HS rfl (λ_ _ _ _ h=>And.intro rfl (lS h)) ?_;clear H r;rintro(_) f σ w H HX HF r;go_wp2;go_end0;exact fL r H rfl
 |false=>
  have Z:Hid (∀x:Nat×Nat×fN,iG (E.lock V xs) 109 (λ_=>#[Bp E,OJ x]) (Jd d false x) uV):=HE;clear HE;go_enter func137,ntmps137
  go_wp21
  refine C1.mono ?_;rintro e w1 ⟨rfl,F⟩;have c1:=(F.cell (p:=⟨E.bB,194,none⟩) K (by simp)).trans c0;have P:E.bB < w1.heap.size:=lz K F.size;replace H:=H.k0 F;clear F C1
  go_wp21
  go_loopw [21] (λv wr=>∃(k:Nat) (g:Nat->Nat) (j:Ab),v=fK k/\k<=xs.length/\R=(qV d false (xs.drop k)>>=λ_=>(do
   wj λσ=>{σ with waiting:=[],mode:=σ.kept}
   kq q t
   return ():M Unit)) j/\At (E.lock V xs) f σ.nodes.length w g j wr) (λv _=>xs.length - (intOf v).toNat)
  case atStart=>exact⟨0,f,σ,rfl,im _,r,H⟩
  case round=>
   clear H r c0 c1 K P;obtain⟨k,g,j,rfl,a7,G,u⟩:=hrel
   by_cases Q:k < xs.length
   .have⟨L',hL',hr'⟩:=u.rel;have⟨e1,e2⟩:=hr'.Ch _ rfl;have i:=hr'.nN;rw[e1,e2]at i;dsimp only at i;rw[a3.out]at i;obtain⟨gb,rfl,c5⟩:=aeD.at i Q;rw[C9 Q]at G;have y:R=(Jd d false xs[k]>>=λ_=>qV d false (xs.drop (k+1))>>=λ_=>(do
      wj λσ=>{σ with waiting:=[],mode:=σ.kept}
      kq q t
      return ():M Unit)) j:=by
     rw[G,Ey,M.Mg]
    replace H:=u;have r:=fx y;have O:=Z xs[k];clear G y u i e1 e2 hr' hL';rw[show OJ xs[k]= .iface 188 (.agg #[fK (xs[k].1),fK (xs[k].2.1),fR xs[k].2.2])from rfl]at c5 O
    go_wp21
    refine dC (O) H r HS rfl (λ_ _ _ _ h=>And.intro rfl (lS h)) ?_;clear H r;rintro(_) f σ w H HX HF r;go_wp2;go_roundw
    case rel=>exact⟨k+1,f,σ,by go_num,by omega,r,H⟩
    case measure=>simp[intOf];omega
   .have y:R=(kq q t>>=λ_=>(Pure.pure ():M Unit)) {j with waiting:=[],mode:=j.kept}:=by
     rw[G,FT (by omega)];rfl
    have N:=(u.unlock Y);obtain⟨z,D,c4⟩:∃z D,wr.cell? ⟨E.bB,194,none⟩=some (.slice z j.waiting.length D):=by
     have⟨L4,_,hr4⟩:=N.rel;have⟨z,D,e4⟩:=fS hr4.nN;exact⟨z,D,by rw[<-e4];exact hr4.acJ⟩
    have f4:=N.free 194;have a8:=N.lt;have I:=N.NC Y;have c5:=I.TD;have c6:=I.rK;have f6:=I.free 192;have a9:=I.lt;have H:=I.iI j.kept;have r:=fx y;clear G y u N I
    go_wp21
    refine dC (tA E q HA t ht) H r HS rfl (λ_ _ _ _ h=>And.intro rfl (lS h)) ?_;clear H r;rintro(_) f σ w H HX HF r;go_wp2;go_end0;exact fL r H rfl
attribute [local go_sem] Oper.semAt_some
def KJ (d:M Unit) (t:fZ):M Unit:=λσ=>if σ.inScope (gI [t.name]) Ba then d σ else .ok () σ
def Rw (E:Env) (v:gh) (p:fN->Bool) (W:fO):Prop:=∃k lb,v= .func (.func k) #[] lb/\Ask E.bm v p W
def Rw.k {p : fN->Bool} (h:Rw E v p W) (d:Kept [] W W'):Rw E v p W':=by
 have⟨k,lb,e,ha⟩:=h;exact⟨k,lb,e,ha.k0 d⟩
def dv (s:fN) (v:gh) (W:fO):Prop:=∃g,v=mW g 1 1/\W.heap[g]?=some (fV #[fR s] 9)
def dv.k (h:dv s v W) (d:Kept [] W W'):dv s v W':=by
 have⟨g,e,hb⟩:=h;exact⟨g,e,d.at hb (by simp)⟩
structure eh (E:Env) (t:fZ) (σ:Ab) (ta tb:Int) (tao:Option Addr) (tn tcp:Nat) (W0:fO) (z0 z1 z2 z3 z4 z5 z6 z7:Bool) (s4 s5 s6 s7 s8 s9 s10 s11:gh) (W:fO):Prop where
 f0:z0=true->s4=gV E.bB
 f1:z1=true->s5=hH E t
 f2:z2=true->s6= .agg #[fK ta,fK tb,fR t.name,.slice tao tn tcp]
 f3:z3=true->s7=fR t.name
 f4:z4=true->dv t.name s8 W
 f5:z5=true->Rw E s9 (gI [t.name]) W
 f6:z6=true->Rw E s10 Ba W
 f7:z7=true->s11= .bool (σ.inScope (gI [t.name]) Ba)
 d2:z2=true->z1=true
 d3:z3=true->z2=true
 d4:z4=true->z3=true
 d5:z5=true->z4=true
 d7:z7=true->z0=true/\z5=true/\z6=true
 wi:Kept [] W0 W
theorem OB (E:Env) (t:fZ) (r:Ru) (P:M Unit) (z:lN E r t P) (b1 b2:Nat) (u:gh) (h:RF E f σ w) (hs:KJ P t σ≠ .stuck) (S:box w b1 (gV E.bB) 121) (O:box w b2 u 168) (hu:ny E.bm E.bB (f 0) r u w):
  Calls prog 237 #[hH E t,gV b1,gV b2] w (Leaves E f σ.nodes.length w (KJ P t σ) uV):=by
 obtain⟨R,hR⟩:∃R,R=KJ P t σ:=⟨_,rfl⟩;rw[<-hR]at hs|-;have⟨ta,tb,tao,tn,tcp,HTG⟩:=D7 E t h;have a2:=(λw=>AP ta tb t.name tao tn tcp w);have Q:=fx h;have HS:=hs;have HR:=fx hR;have a0:=fx O;have HU:=hu;have a7:=z;have a1:=(λW (hk:Kept [] w W)=>(by rw[fw (hk.at S (by simp))];rfl:W.cell? ⟨b1,0,none⟩=some (gV E.bB)));clear h hR O;go_enter func237,ntmps237
 go_wp21
 refine uN (by rfl) ?_
 try (change wpAny _ _ _ _ _ _ _ (World.drew _))
 refine yi (I:=λq ac W=>∃X Y Z z3 z4 z5 z6 z7 s4 s5 s6 s7 s8 s9 D F,q=#[X,Y,Z,z3,z4,z5,z6,z7]/\ac=⟨#[hH E t,gV b1,gV b2,undef,s4,s5,s6,s7,s8,s9,D,F,undef,undef,undef],[]⟩/\eh E t σ ta tb tao tn tcp w X Y Z z3 z4 z5 z6 z7 s4 s5 s6 s7 s8 s9 D F W) ?_ ?_ _ _ _ _ ?_ ?_
 .rintro q a W k ⟨X,Y,Z,z3,z4,z5,z6,z7,s4,s5,s6,s7,s8,s9,D,F,rfl,rfl,d⟩ hi;simp only[Region.ready,IA,DI]at hi;have⟨V,hc⟩:=hi;have V:k < 8:=V;obtain rfl|rfl|rfl|rfl|rfl|rfl|rfl|rfl:k=0\/k=1\/k=2\/k=3\/k=4\/k=5\/k=6\/k=7:=by omega
  all_goals simp[Region.binds]at hc
  .refine jE rfl ?_;intro K m;have ab:X=false:=by simp[hc]
   have cc:=a1 W d.wi;go_simp;refine m _ _ ⟨_,_,_,_,_,_,_,_,_,_,_,_,_,_,_,_,rfl,rfl,?_⟩;exact {d with f0:=(λ_=>rfl),d7:=(λU=>by have h2:=(d.d7 U).1;grind)}
  .refine jE rfl ?_;intro K m;have S:Y=false:=by simp[hc]
   go_simp;refine m _ _ ⟨_,_,_,_,_,_,_,_,_,_,_,_,_,_,_,_,rfl,rfl,?_⟩;exact {d with f1:=(λ_=>rfl),d2:=(λ_=>rfl)}
  .refine jE rfl ?_;intro K m;have O:Z=false:=by simp[hc]
   have e1:=d.f1 (by simp[hc]);subst e1;go_simp;refine(HTG W).mono ?_;rintro e W2 ⟨rfl,i⟩;refine m _ _ ⟨_,_,_,_,_,_,_,_,_,_,_,_,_,_,_,_,rfl,rfl,?_⟩;exact {d with f2:=(λ_=>rfl),f4:=(λh=>(d.f4 h).k i),f5:=(λh=>(d.f5 h).k i),f6:=(λh=>(d.f6 h).k i),d2:=(λ_=>by simp[hc]),d3:=(λ_=>rfl),wi:=(d.wi.trans i)}
  .refine jE rfl ?_;intro K m;have ad:z3=false:=by simp[hc]
   have e2:=d.f2 (by simp[hc]);subst e2;have ai:=a2;go_simp;refine m _ _ ⟨_,_,_,_,_,_,_,_,_,_,_,_,_,_,_,_,rfl,rfl,?_⟩;exact {d with f3:=(λ_=>rfl),d3:=(λ_=>by simp[hc]),d4:=(λ_=>rfl)}
  .refine jE rfl ?_;intro K m;have ae:z4=false:=by simp[hc]
   have e3:=d.f3 (by simp[hc]);subst e3;go_simp;have ka:Kept [] W (W.alloc (fV #[fR t.name] 9)):=(Kept.refl _ _).alloc _;refine m _ _ ⟨_,_,_,_,_,_,_,_,_,_,_,_,_,_,_,_,rfl,rfl,?_⟩;exact {d with f4:=(λ_=>⟨_,rfl,fB W _⟩),f5:=(λh=>(d.f5 h).k ka),f6:=(λh=>(d.f6 h).k ka),d4:=(λ_=>by simp[hc]),d5:=(λ_=>rfl),wi:=(d.wi.trans ka)}
  .refine jE rfl ?_;intro K m;have af:z5=false:=by simp[hc]
   have e4:=d.f4 (by simp[hc]);have⟨g,e4,hg⟩:=d.f4 (by simp[hc]);subst e4;go_simp;refine(MP E.bm g 1 [t.name] W hg (by simp)).mono ?_;rintro e W2 ⟨⟨v,rfl,ha⟩,i⟩;refine m _ _ ⟨_,_,_,_,_,_,_,_,_,_,_,_,_,_,_,_,rfl,rfl,?_⟩;exact {d with f4:=(λ_=>⟨g,rfl,i.at hg (by simp)⟩),f5:=(λ_=>(by have⟨k,lb,e,_,_⟩:=ha.call;exact⟨k,lb,e,ha⟩)),f6:=(λh=>(d.f6 h).k i),d5:=(λ_=>by simp[hc]),d7:=(λU=>by have h2:=(d.d7 U).2.1;grind),wi:=(d.wi.trans i)}
  .refine jE rfl ?_;intro K m;have ag:z6=false:=by simp[hc]
   go_simp;refine(wZ E W).mono ?_;rintro e W2 ⟨k,lb,rfl,ha,i⟩;refine m _ _ ⟨_,_,_,_,_,_,_,_,_,_,_,_,_,_,_,_,rfl,rfl,?_⟩;exact {d with f4:=(λh=>(d.f4 h).k i),f5:=(λh=>(d.f5 h).k i),f6:=(λ_=>⟨k,lb,rfl,ha⟩),d7:=(λU=>by have h2:=(d.d7 U).2.2;grind),wi:=(d.wi.trans i)}
  .refine jE rfl ?_;intro K m;have ah:z7=false:=by simp[hc]
   have e0:=d.f0 (by simp[hc]);subst e0;have a5:=d.f5 (by simp[hc]);have a6:=d.f6 (by simp[hc]);go_simp;refine(vY (Q.gJ d.wi) (gI [t.name]) Ba _ _ a5.choose_spec.choose_spec.2 a6.choose_spec.choose_spec.2).mono ?_;rintro e W2 ⟨rfl,i⟩;refine m _ _ ⟨_,_,_,_,_,_,_,_,_,_,_,_,_,_,_,_,rfl,rfl,?_⟩;exact {d with f4:=(λh=>(d.f4 h).k i),f5:=(λh=>(d.f5 h).k i),f6:=(λh=>(d.f6 h).k i),f7:=(λ_=>rfl),d7:=(λ_=>by simp[hc]),wi:=(d.wi.trans i)}
 .rintro q a W ⟨X,Y,Z,z3,z4,z5,z6,z7,s4,s5,s6,s7,s8,s9,D,F,rfl,rfl,d⟩ z;simp only[Region.ready,QY,DI]at z;have q0:=z 0 (by decide);simp[Region.binds]at q0;subst q0;have q1:=z 1 (by decide);simp[Region.binds]at q1;subst q1;have q2:=z 2 (by decide);simp[Region.binds]at q2;subst q2;have q3:=z 3 (by decide);simp[Region.binds]at q3;subst q3;have q4:=z 4 (by decide);simp[Region.binds]at q4;subst q4;have q5:=z 5 (by decide);simp[Region.binds]at q5;subst q5;have q6:=z 6 (by decide);simp[Region.binds]at q6;subst q6;have q7:=z 7 (by decide);simp[Region.binds]at q7;subst q7;have e7:=d.f7 rfl;subst e7;have H:=(At.start Q).k0 d.wi;have G:=fx d.wi;clear d;cases hq:σ.inScope (gI [t.name]) Ba with
  |false=>
   have a4:=(show R= .ok () σ by rw[HR.out];unfold KJ;rw[hq];rfl);go_wp2;go_end0;exact fL a4 H rfl
  |true=>
   have N:R=P σ:=by rw[HR.out];unfold KJ;rw[hq];rfl
   have a9:P σ≠ .stuck:=by rw[<-N];exact HS
   have aa:=ny.fr HU (Fr.n (bs:=E.bs) (.gv G) E.bm);have⟨k,bs,cs,hv,eg,HC⟩:=a7 u f σ W H.rel aa a9;subst hv;have c2:=fw (G.out.at a0.out (by simp)) 0;dsimp at c2;have a8:=fx N;clear N
   go_wp21
   refine HC.mono ?_;intro e W2 hL;have HL:=fx hL;have a3:=Fr.gv (bs:=E.bs) G;clear hL;have y:=fx a8;cases hrr:P σ with
   |ok a σ2=>
    rw[hrr]at HL y;obtain⟨g,g1,g2,rfl,g4,g5⟩:=HL;have HG:=H.go g4 g1 g2 g5;go_wp2;go_end0;exact fL y HG rfl
   |stop c p=>
    rw[hrr]at HL y;obtain⟨j,rfl,G2,g3⟩:=HL;have G3:=a3.trans g3;go_wp2;exact⟨rfl,pd y G2 G3⟩
   |stuck=>grind
 .decide
 .exact⟨_,_,_,_,_,_,_,_,_,_,_,_,_,_,_,_,rfl,rfl,⟨(by simp),(by simp),(by simp),(by simp),(by simp),(by simp),(by simp),(by simp),(by simp),(by simp),(by simp),(by simp),(by simp),((Kept.refl _ _).drew)⟩⟩
end
end Go.Proofs.YtlhhgenpcjjajaaGreatDoor
