import Derived.Test.YthcohfdidcdchaaGreatDoorRuB
set_option linter.unusedSimpArgs false
set_option linter.unusedVariables false
set_option linter.defProp false
set_option maxHeartbeats 0
set_option maxRecDepth 100000
namespace Go.Proofs.YthcohfdidcdchaaGreatDoor
open Go.RowKit Tryz
def D0:=@List.mem_erase_of_ne
def GJ:=@List.getElem?_append_right
def sy:=@Nat.le_succ
def tF:=@List.getElem?_of_mem
def Ws:=@Nat.eq_zero_or_pos
def Wt:=@Nat.add_sub_cancel
def lD:=@Calls.quiet_of_same
def GK:=@Oper.semAt_some
def LO:=@CallsIn.inRound
def LP:=@Array.getElem?_setIfInBounds_self_of_lt
section
variable {E : Env} {L : Loc} {T : TypeId} {W w w' w0 : gm} {a o rest xs : kG} {bB bD bm bs c i it k m n n0 pf : Nat} {f f0 r : Nat->Nat} {lb : jA} {p q : fY->Bool} {rs : List Ru} {s : fY} {t : gy} {v : gG} {vs : List gG} {x y : iY}
theorem jx.nodup {σ:Ab} (h:jx r σ):σ.gq.Nodup:=h.ur.gq.imp λb e=>by grind
theorem jx.acZ {σ:Ab} (h:jx r σ) {ys : kG} (l:∀x∈ys,σ.mW x=true) (u:ys.Pairwise λx y=>rk r x < rk r y) (b:ys.head?=σ.gq.head?) (z:ys.length<=σ.qu):jx r {σ with gq:=ys}/\Fx σ {σ with gq:=ys}:=by
 refine⟨⟨⟨h.oA.up,h.oA.dn,h.oA.nd,h.oA.kd⟩,⟨h.ur.je,u,?_⟩,l,h.act,h.head,h.form,?_,z,h.AB,h.QE,h.Ui,h.ye⟩,⟨rfl,rfl,rfl,rfl,rfl,rfl,rfl,rfl,rfl,rfl,rfl,λ_ _ h=>h,λ_=>b⟩⟩
 .intro d x A j;exact h.ur.hd d x A (by grind)
 .intro x rest j;have g:ys=x::rest:=j;rw[g]at b;cases ho:σ.gq with
  |nil=>grind
  |cons y r2=>
   rw[ho]at b;have e:x=y:=by simpa using b
   subst e;exact h.Mc x r2 ho
def Ts (h:xs[n]?=some x):xs=xs.take n++x::xs.drop (n+1):=by
 have d:=(List.getElem?_eq_some_iff.1 h).1;have b:=(List.getElem?_eq_some_iff.1 h).2;rw[<-b,<-Dc d,FT]
theorem Vo (h:xs[n]?=some x) (b:xs.Nodup):x∉xs.take n:=by
 have e:=Ts h;grind
theorem aby (h:xs[n]?=some x) (b:xs.Nodup):xs.erase x=xs.take n++xs.drop (n+1):=by
 have d:=Vo h b
 conv=>lhs;rw[Ts h]
 grind
theorem vY (h:xs[n]?=some x) (b:xs.Nodup):xs.idxOf x=n:=by
 grind
def A6 (h:xs[n]?=some x):n < xs.length:=(List.getElem?_eq_some_iff.1 h).1
def jx.xa {σ:Ab} (h:jx r σ) {x y : Nat} (d:σ.gq[m]?=some (some x)) (e:σ.gq[n]?=some (some y)) (b:m < n):r x < r y:=by
 have:=List.pairwise_iff_getElem.1 h.ur.gq m n (A6 d) (A6 e) b
 rwa [(List.getElem?_eq_some_iff.1 d).2,(List.getElem?_eq_some_iff.1 e).2]at this
theorem jx.Sy {σ:Ab} (h:iV σ i s):σ.nm i=s:=by
 have⟨e,he,hn⟩:=h;grind[Ab.nm]
def UK {σ:Ab} {e : yp} (h:σ.gV i=some e):iV σ i (σ.nm i):=⟨e,h,by unfold Ab.nm;rw[h]⟩
theorem mw {σ:Ab} (h:iV σ i s):(σ.gV i).isSome=true:=by have⟨e,he,_⟩:=h;grind
theorem abJ {σ:Ab} (h:(σ.gV i).isSome=true):iV σ i (σ.nm i):=by
 grind[iV,Ab.nm]
structure RJ (r:Nat->Nat) (σ:Ab) (f iw n pf last mark:Nat):Prop where
 inv:jx r σ
 lst:(σ.gV last).isSome=true
 low:∀m x,m < n->σ.gq[m]?=some (some x)->r x < r last
 fat:σ.gq[pf]?=some (some f)
 pfn:pf < n
 bat:some iw∈σ.gq.drop n
 nle:n<=σ.gq.length
 mrk:(σ.gV mark).isSome=true
 nt:∀m x,pf < m->σ.gq[m]?=some (some x)->kJ (σ.nm x) fQ=false
 fact:some f∈σ.act
def RJ.isSome {σ σ':Ab} (f:Fx σ σ') (h:(σ.gV i).isSome=true):(σ'.gV i).isSome=true:=mw (f.nm _ _ (abJ h))
def Fx.agH {σ σ':Ab} (f:Fx σ σ') (h:(σ.gV i).isSome=true):σ'.nm i=σ.nm i:=jx.Sy (f.nm _ _ (abJ h))
def RJ.oM {σ:Ab} (h:jx r σ) {x : Nat} (b:σ.gq[m]?=some (some x)):(σ.gV x).isSome=true:=h.gq _ (tR b)
def GQ (f b pf c:Nat) (σ:Ab) (d:pM (Nat×Nat)):Prop:=match d with
 | .ok lm σ'=>Fx σ σ'/\wt σ'<=wt σ+c/\σ'.fresh=σ.fresh/\∃r,RJ r σ' f b (pf+1) pf lm.1 lm.2
 | .stop _ _=>False
 | .stuck=>False
def GQ.pre {f d c' : Nat} {σ σ1:Ab} {b : pM (Nat×Nat)} (h:GQ f d pf c σ1 b) (g:Fx σ σ1) (hw:wt σ1+c<=wt σ+c') (j:σ1.fresh=σ.fresh):GQ f d pf c' σ b:=by
 cases b with
 |ok lm σ'=>
  have⟨h1,h2,h3,h4⟩:=h;exact⟨g.trans h1,by omega,h3.trans j,h4⟩
 |stop e p=>exact h
 |stuck=>exact h
def XH (f g n c last d e:Nat):M (Nat×Nat):=λσ=>if some e∉σ.act then (kq (some e)>>=λ_=>lB f g n (c+1) last d) σ else (kB e>>=λb=>yk (some e) (some b)>>=λ_=>qg (some e) (some b)>>=λ_=>lQ last>>=λ_=>jr b>>=λj=>mL j last>>=λ_=>lB f g n (c+1) b (if last=g then b else d)) σ
def PU (f d n c last b:Nat) (σ:Ab):lB f d (n+1) c last b σ=(CV n>>=λe=>if e=f then pure (last,b)else (if 3 < c+1 then kM (some e)else pure ())>>=λ_=>XH f d n c last b e) σ:=rfl
def yM (o a:kG) (n:Nat):Nat:=((o.take n).filter λx=>decide (x∈a)).length
def M7 {b : kG} (g:n<=m) (d:∀x∈o.take n,x∈b->x∈a):yM o b n<=yM o a m:=by
 unfold yM;have z:((o.take n).filter λx=>decide (x∈b)).length<=((o.take n).filter λx=>decide (x∈a)).length:=by
  rw[<-List.countP_eq_length_filter,<-List.countP_eq_length_filter];refine List.countP_mono_left ?_;intro x u j;simp at j|-;exact d x u j
 have A:((o.take n).filter λx=>decide (x∈a)).length<=((o.take m).filter λx=>decide (x∈a)).length:=by
  have l:(o.take n).Sublist (o.take m):=by
   have e:o.take n=(o.take m).take n:=by rw[Om,T8 g]
   rw[e];exact Qy _ _
  exact(l.filter _).length_le
 omega
theorem Yw (h:o[n]?=some x) (b:x∈a):yM o a (n+1)=yM o a n+1:=by
 unfold yM;have e:o.take (n+1)=o.take n++[x]:=by rw[FP,h];rfl
 grind
theorem NQ:∀{xs ys:kG},xs.Nodup->(∀x∈xs,x∈ys)->xs.length<=ys.length
 |[],_,_,_=>iM _
 |x::xs,ys,hn,hs=>by
  have e:=hs x (kK ..);have⟨h1,h2⟩:=List.nodup_cons.1 hn;have d:=NQ (xs:=xs) (ys:=ys.erase x) h2 (λy b=>(D0 (by grind)).2 (hs y (nc _ b)));grind
def adZ (b:o.Nodup) (n:Nat):yM o a n<=a.length:=by
 unfold yM;refine NQ ((b.sublist (Qy _ _)).sublist (List.filter_sublist)) ?_;simp
theorem DK (f F pf:Nat) (s:fY) (hs:s≠fO):∀(n c last D:Nat) {r:Nat->Nat} {σ:Ab} {K:Nat},RJ r σ f F n pf last D->iV σ f s->yM σ.gq σ.act n<=K->wt σ+K < 999990->GQ f F pf K σ (lB f F n c last D σ)
 |0,c,last,D,r,σ,K,h,_,_,_=>absurd h.pfn (by omega)
 |n+1,c,last,D,r,σ,K,h,hfn,hK,hw=>by
  have ax:n < σ.gq.length:=by have:=h.nle;omega
  have⟨e,ee,hoe,hel⟩:=h.inv.at ax;have an:CV n σ= .ok e σ:=by
   unfold CV;rw[rI,xX,hoe];rfl
  rw[PU,M.gn,an];dsimp only;by_cases O:e=f
  .rw[gv O];have Z:n=pf:=by
    have h1:=vY hoe h.inv.nodup;have h2:=vY h.fat h.inv.nodup;rw[O]at h1;omega
   subst Z;exact⟨Fx.refl _,by omega,rfl,r,h⟩
  .rw[gH O];have Z:n≠pf:=by
    intro Z;rw[Z,h.fat]at hoe;exact O (jv (jv hoe)).symm
   have a0:pf < n:=by have:=h.pfn;omega
   have hA:∃d,(if 3 < c+1 then kM (some e)else pure ()) σ= .ok () d/\jx r d/\Fx σ d/\Yl σ σ.gq d.act d/\some f∈d.act/\∀x,x∈d.act->x∈σ.act:=by
    by_cases hc:3 < c+1
    .rw[gv hc];unfold kM;rw[gv (by grind[Ab.gR])];have⟨g1,g2⟩:=h.inv.DO (ys:=σ.act.erase (some e)) (λi S=>h.inv.act i (Qw S)) (jH (List.length_erase_le) h.inv.AB);exact⟨_,rfl,g1,g2,⟨rfl,rfl,rfl,rfl⟩,(D0 (λe0=>O (jv e0).symm)).2 h.fact,λx z=>Qw z⟩
    .rw[gH hc];exact⟨σ,rfl,h.inv,Fx.refl _,⟨rfl,rfl,rfl,rfl⟩,h.fact,λ_ h=>h⟩
   have⟨d,q1,i1,f1,l1,a1,sub1⟩:=hA;rw[M.gn,q1];dsimp only;unfold XH;have U:=l1.gq;have a8:∀i,d.gV i=σ.gV i:=λi=>by unfold Ab.gV;rw[l1.nodes]
   have aj:∀i,d.nm i=σ.nm i:=λi=>by unfold Ab.nm;rw[a8]
   have w1:wt d=wt σ:=jl l1.nodes;have N:d.gq[n]?=some (some e):=by rw[U];exact hoe
   have J:=i1.nodup;have ao:d.gq.head?≠some (some e):=by
    intro e0;rw[Wr]at e0;have h1:=vY e0 J;have h2:=vY N J;omega
   split
   .
    rename_i ah;rw[M.gn];have hq:kq (some e) d= .ok () {d with gq:=d.gq.erase (some e)}:=by
     unfold kq;rw[gv (by grind[Ab.gR])]
    rw[hq];dsimp only;have⟨g1,g2⟩:=i1.sub (ys:=d.gq.erase (some e)) List.erase_sublist (Dt ao);have he:d.gq.erase (some e)=d.gq.take n++d.gq.drop (n+1):=aby N J;have av:(d.gq.take n).length=n:=by rw[List.length_take];rw[U];omega
    have af:∀m,m < n->(d.gq.erase (some e))[m]?=σ.gq[m]?:=by
     intro m u;rw[he,Ye (by omega),FL,gv u,U]
    have aq:∀m,n<=m->(d.gq.erase (some e))[m]?=σ.gq[m+1]?:=by
     intro m u;rw[he,GJ (by omega),av,X9,U]
     congr 1;omega
    refine GQ.pre (DK f F pf s hs n (c+1) last D (r:=r) (K:=K) ⟨g1,?_,?_,?_,a0,?_,?_,?_,?_,a1⟩ ?_ ?_ ?_) (f1.trans g2) ?_ l1.fresh
    .exact RJ.isSome (f1.trans g2) h.lst
    .intro m x u z;exact h.low m x (by omega) (by grind)
    .show(d.gq.erase (some e))[pf]?=_;rw[af pf a0];exact h.fat
    .show some F∈(d.gq.erase (some e)).drop n;rw[he,List.drop_append_of_le_length (by omega),Iu (by omega),rp,U];exact h.bat
    .grind
    .exact RJ.isSome (f1.trans g2) h.mrk
    .intro m x u z;have a3:(d.gq.erase (some e))[m]?=some (some x):=z;show kJ (d.nm x) _=_;rw[aj];rcases pJ m n with G|G
     .rw[af m G]at a3;exact h.nt m x u a3
     .rw[aq m G]at a3;exact h.nt (m+1) x (by omega) a3
    .exact(f1.trans g2).nm _ _ hfn
    .refine jH ?_ hK;show yM (d.gq.erase (some e)) d.act n<=_;have e9:yM (d.gq.erase (some e)) d.act n=yM σ.gq d.act n:=by
      unfold yM;rw[he,LQ (by omega),BG (by omega),U]
     rw[e9];exact M7 (sy _) (λx _ z=>sub1 x z)
    all_goals grind[wt]
   .
    rename_i ah;have ac:some e∈d.act:=by simpa using ah
    have⟨e1,he1,hfm⟩:=i1.act e ac;rw[M.gn,AQ he1 hfm];dsimp only;obtain⟨j,hj⟩:∃j,j=d.nodes.length:=⟨_,rfl⟩;have⟨i2,f2⟩:=i1.new e1.name e1.gO d.fresh (r e);obtain⟨g,A⟩:∃g,g=d.pN (.el {name:=e1.name,gO:=e1.gO,je:=none,kids:=[]}) d.fresh:=⟨_,rfl⟩;rw[<-A]at i2 f2|-;have ae:g.gV j=some {name:=e1.name,gO:=e1.gO,je:=none,kids:=[]}:=by rw[A,hj];exact Ab.sN
    rw[<-hj]at i2|-;have w2:wt g=wt d:=by rw[A];exact FK _ _ _
    have o2:g.gq=d.gq:=by rw[A];rfl
    have a2:g.act=d.act:=by rw[A];rfl
    have ai:∀i,(d.gV i).isSome=true->i≠j:=by
     intro i S e0;have⟨ei,hei⟩:=Option.isSome_iff_exists.1 S;have:=Ab.gW hei;omega
    have aB:∀i,(d.gV i).isSome=true->x9 r j (r e) i=r i:=λi S=>Aj (ai i S);have ad:(d.gV e).isSome=true:=by rw[he1];rfl
    have X:iV g j e1.name:=⟨_,ae,rfl⟩;have ar:g.gq.idxOf (some e)=n:=by rw[o2];exact vY N J
    have aw:some e∈g.gq:=by rw[o2];exact tR N
    have aC:qo g.gq (some e) (some j)=g.gq.set n (some j):=by unfold qo;rw[gv aw,ar]
    have ay:yk (some e) (some j) g= .ok () {g with gq:=g.gq.set n (some j)}:=by
     unfold yk;rw[gv (by rw[pW];exact⟨RJ.isSome f2 ad,mw X⟩),aC]
    have H:∀m,(g.gq.set n (some j))[m]?=if m=n then some (some j)else σ.gq[m]?:=by
     intro m;rw[List.getElem?_set];by_cases u:n=m
     .grind
     .grind
    have aJ:1<=n:=by omega
    have⟨i3,f3⟩:=i2.acZ (ys:=g.gq.set n (some j)) (by
      intro x z;rcases List.mem_or_eq_of_mem_set z with z|rfl
      .exact i2.gq x z
      .exact mw X) (by
      rw[List.pairwise_iff_getElem];intro a b ha hb al;have aa:a < σ.gq.length:=by simpa [o2,U]using ha
      have ab:b < σ.gq.length:=by simpa [o2,U]using hb
      have I:∀m (u:m < (g.gq.set n (some j)).length) (Y:m < σ.gq.length),rk (x9 r j (r e)) ((g.gq.set n (some j))[m])=rk r (σ.gq[m]):=by
       intro m u Y;have h1:=H m;rw[qs u]at h1;by_cases G:m=n
       .subst G;rw[gv rfl]at h1;rw[jv h1];have h2:σ.gq[m]=some e:=by rw[qs Y]at hoe;exact jv hoe
        rw[h2];grind[rk,x9]
       .rw[gH G,qs Y]at h1;rw[jv h1];have⟨y,ey,hy,a4⟩:=kT (h.inv.gq _ (uG Y));grind[rk]
      rw[I a ha aa,I b hb ab];exact List.pairwise_iff_getElem.1 h.inv.ur.gq a b aa ab al) (by
      rw[Wr,Wr,H 0,gH (by omega),o2,U]) (by
      rw[List.length_set];exact i2.x7)
    rw[M.gn,ay];dsimp only;obtain⟨l,B⟩:∃l,l=({g with gq:=g.gq.set n (some j)}:Ab):=⟨_,rfl⟩;rw[<-B]at i3 f3|-;have az:qg (some e) (some j) l= .ok () {l with act:=qo l.act (some e) (some j)}:=by
     unfold qg;rw[gv (by rw[pW];exact⟨RJ.isSome f3 (RJ.isSome f2 ad),mw (f3.nm _ _ X)⟩)]
    have⟨i4,f4⟩:=i3.DO (ys:=qo l.act (some e) (some j)) (λi S=>by
      rcases y9 S with S|S
      .exact i3.act i S
      grind[Ab.gV]) (by rw[Lf];exact i3.AB)
    rw[M.gn,az];dsimp only;obtain⟨a7,C⟩:∃a7,a7=({l with act:=qo l.act (some e) (some j)}:Ab):=⟨_,rfl⟩;rw[<-C]at i4 f4|-;have a9:=((f1.trans f2).trans f3).trans f4;have ag:=RJ.isSome a9 h.lst;have⟨elast,hlast⟩:=Option.isSome_iff_exists.1 ag;have⟨σ5,q5,i5,f5,w5,o5,a5,r5,n5,e5,he5,hp5,_⟩:=i4.lQ hlast;rw[M.gn,q5];dsimp only;have⟨ej5,hj5,hjn5⟩:=f5.nm _ _ (f4.nm _ _ (f3.nm _ _ X));have aA:jr j σ5= .ok (j,ej5.kids.length) σ5:=by unfold jr;rw[hj5]
    rw[M.gn,aA];dsimp only;have aI:r e < r last:=h.low n e (by omega) hoe;have aD:(d.gV last).isSome=true:=RJ.isSome f1 h.lst;have aE:wt σ5<=wt σ:=by
     have e4:wt a7=wt l:=by rw[C];rfl
     have e3:wt l=wt g:=by rw[B];rfl
     omega
    have⟨σ6,q6,i6,f6,w6,o6,a6,r6,n6,g6,_⟩:=i5.put (pl:=(j,ej5.kids.length)) ⟨ej5,hj5,gL _⟩ he5 hp5 (by
     grind[x9]) (by omega)
    rw[M.gn,q6];dsimp only;have V:=(a9.trans f5).trans f6;have R:σ6.gq=g.gq.set n (some j):=by rw[o6,o5,C];show l.gq=_;rw[B]
    have j6:iV σ6 j e1.name:=f6.nm _ _ ⟨ej5,hj5,hjn5⟩;have ak:σ6.act=qo d.act (some e) (some j):=by
     rw[a6,a5,C];show qo l.act (some e) (some j)=_;rw[B];show qo g.act (some e) (some j)=_;rw[a2]
    have aH:yM σ.gq σ.act (n+1)=yM σ.gq σ.act n+1:=Yw hoe (sub1 _ ac);have aG:yM σ6.gq σ6.act n<=yM σ.gq σ.act n:=by
     have e9:yM σ6.gq σ6.act n=yM σ.gq σ6.act n:=by
      unfold yM;rw[R,List.take_set_of_le (gL _),o2,U]
     rw[e9];refine M7 (gL _) ?_;intro y hy u;rw[ak]at u;rcases y9 u with u|u
     .grind
     .exfalso;have a4:=List.mem_of_mem_take hy;rw[u]at a4;have:=h.inv.Gm a4;have aF:d.nodes.length=σ.nodes.length:=by rw[l1.nodes]
      omega
    refine GQ.pre (DK f F pf s hs n (c+1) j (if last=F then j else D) (r:=x9 r j (r e)) (K:=K - 1) ⟨i6,mw j6,?_,?_,a0,?_,?_,?_,?_,?_⟩ (V.nm _ _ hfn) (by omega) (by omega)) V (by omega) ?_
    .intro m x u z;rw[R,H m,gH (by omega)]at z;rw[zm,aB x (by rw[a8];exact RJ.oM h.inv z)];exact h.inv.xa z hoe u
    .rw[R,H pf,gH (by omega)];exact h.fat
    .rw[R];have u:some F∈σ.gq.drop (n+1):=h.bat;have⟨k,hk⟩:=tF u;rw[X9]at hk;refine tR (i:=k+1) ?_;grind
    .grind
    .by_cases au:last=F
     .grind
     .rw[gH au];exact RJ.isSome V h.mrk
    .intro m x u z;rw[R,H m]at z;by_cases G:m=n
     .rw[gv G]at z;cases z;rw[jx.Sy j6];have h3:=h.nt n e a0 hoe
      rwa [<-aj,show d.nm e=e1.name from jx.Sy ⟨e1,he1,rfl⟩]at h3
     .rw[gH G]at z;rw[V.agH (RJ.oM h.inv z)];exact h.nt m x u z
    .rw[a6,a5,C];show some f∈qo l.act (some e) (some j);have ap:some f∈l.act:=by rw[B];show some f∈g.act;rw[a2];exact a1
     unfold qo;split
     .have⟨k,hk⟩:=tF ap;refine tR (i:=k) ?_;grind
     omega
    .rw[r6,r5,C];show l.fresh=_;rw[B];show g.fresh=_;rw[A];exact l1.fresh
theorem jx.ajt {σ:Ab} (h:jx r σ):jx (λi=>2*r i) σ:=by
 refine {h with ur:=⟨λi e p l u=>?_,h.ur.gq.imp_of_mem ?_,λd x g b=>?_⟩}
 .have:=h.ur.je i e p l u;omega
 .intro x y b A z;obtain⟨i,_,rfl,_⟩:=kT (h.gq x b);obtain⟨j,_,rfl,_⟩:=kT (h.gq y A);grind[rk]
 .have:=h.ur.hd d x g b;omega
theorem Uo {σ:Ab} (h:σ.gR x=true):kM x σ= .ok () {σ with act:=σ.act.erase x}:=by
 grind[kM]
theorem KY {σ:Ab} (h:σ.gR x=true):kq x σ= .ok () {σ with gq:=σ.gq.erase x}:=by
 grind[kq]
theorem CZ (xs:kG) (x y:iY):(ja xs x y).length<=xs.length+1:=by
 grind[ja]
theorem vC {z : iY} (h:z∈ja xs x y):z∈xs\/z=y:=by
 unfold ja at h;grind
theorem MD {z : iY} (h:z∈xs):z∈ja xs x y:=by
 unfold ja;split
 .have b:z∈xs.take (xs.idxOf x+1)++xs.drop (xs.idxOf x+1):=by rw[FT];exact h
  grind
 omega
theorem jx.QX {σ:Ab} (h:jx r σ) {f : Nat} (b:σ.gq[pf]?=some (some f)) (g:1<=pf):∃a,ahead f σ= .ok a σ/\σ.gq[pf - 1]?=some (some a):=by
 have⟨a,ea,ha,_⟩:=h.at (n:=pf - 1) (by grind);refine⟨a,?_,ha⟩;unfold ahead;have d:=vY b h.nodup;have e:posOf σ.gq (some f)=(pf:Int):=by unfold posOf;rw[d,gv (A6 b)]
 rw[e,show(pf:Int) - 1=((pf - 1:Nat):Int) by omega,rI,xX,ha];rfl
theorem MH {σ:Ab} (h:jx r σ) {f a : Nat} (j:σ.gq[pf]?=some (some f)) (G:1<=pf) (u:σ.gq[pf - 1]?=some (some a)) (B:kJ (σ.nm f) fQ=false) (H:∀m x,pf < m->σ.gq[m]?=some (some x)->kJ (σ.nm x) fQ=false):∃b,placeFor a σ= .ok b σ/\Ch σ b/\r b.1 < r f:=by
 have d:some a∈σ.gq:=tR u;have A:r a < r f:=h.xa u j (by omega);have⟨a',ea,e1,hea⟩:=kT (h.gq _ d);cases e1;unfold placeFor;split
 .have⟨b,h1,h2,_,e⟩:=A5 h (List.ne_nil_of_mem d);refine⟨b,h1,h2,?_⟩;rcases e with⟨i,C,F,_,D⟩|e
  .have⟨k,hk⟩:=tF C;have l:k < pf:=by
    rcases Nat.lt_trichotomy k pf with g|g|g
    .exact g
    .grind
    .grind
   have:=h.xa hk j l;omega
  .have z:σ.gq[0]?=some (some b.1):=by
    rw[show(0:Int)=((0:Nat):Int)from rfl,rI,xX]at e;cases hx:σ.gq[0]? with
    |none=>grind
    |some y=>grind
   exact h.xa z j (by omega)
 .unfold jr;rw[hea];grind[Ch]
def Sr (f d:Nat) (σ:Ab):sR f d σ=(yy f d>>=λe=>lQ e.1>>=λ_=>ahead f>>=λa=>placeFor a>>=λg=>mL g e.1>>=λ_=>kB f>>=λb=>handOver d b>>=λ_=>jr d>>=λg=>mL g b>>=λ_=>oU (some e.2) (some b)>>=λ_=>kM (some f)>>=λ_=>kq (some f)>>=λ_=>oZ (some d) (some b)>>=λ_=>(pure ():M Unit)) σ:=rfl
theorem Ss {σ:Ab} (h:ni σ) {f b pb : Nat} (hs:rY s=true) (F:iV σ f s) (aw:some f∈σ.act) (hf:σ.gq[pf]?=some (some f)) (hb:σ.gq[pb]?=some (some b)) (aB:pf < pb) (nt:∀m x,pf < m->σ.gq[m]?=some (some x)->kJ (σ.nm x) fQ=false) (hw:wt σ < 999900):jE 36 σ (sR f b σ) (λ_ aJ=>aJ.fresh=σ.fresh):=by
 have⟨r,h⟩:=h;have Y:s≠fO:=Ez hs;have aL:σ.gq.length<=64:=jH h.x7 h.QE;have aj:=A6 hb;have ai:1<=pf:=by
  rcases Ws pf with h0|h0
  .exfalso;apply h.Ff F Y;rw[Wr,<-h0];exact hf
  .exact h0
 have au:=RJ.oM h hb;rw[Sr,M.gn];have aD:yy f b σ=lB f b pb 0 b f σ:=by
  unfold yy;have D:=vY hb h.nodup;have h2:posOf σ.gq (some b)=(pb:Int):=by unfold posOf;rw[D,gv aj]
  rw[h2];rfl
 have H:=DK f b pf s Y pb 0 b f (r:=r) (σ:=σ) ⟨h,au,λm x hm u=>h.xa u hb hm,hf,aB,by
  refine tR (i:=0) ?_;grind,by omega,mw F,nt,aw⟩ F (K:=32) (jH (adZ h.nodup _) (jH h.AB h.Ui)) (by omega)
 rw[aD];revert H;cases lB f b pb 0 b f σ with
 |stop e p=>simp[GQ]
 |stuck=>simp[GQ]
 |ok lm σ1=>
  rintro⟨f1,w1,aN,G,J⟩;dsimp only;have⟨last,mark⟩:=lm;dsimp only at J|-;have⟨el,hel⟩:=Option.isSome_iff_exists.1 J.lst;have⟨σ2,q2,i2,f2,w2,o2,a2,r2,n2,e2,he2,hp2,_⟩:=J.inv.lQ hel;rw[M.gn,q2];dsimp only;have ae:σ2.gq[pf]?=some (some f):=by rw[o2];exact J.fat
  have⟨a,qa,ha⟩:=i2.QX ae ai;rw[M.gn,qa];dsimp only;have a8:iV σ2 f s:=f2.nm _ _ (f1.nm _ _ F);have ay:kJ (σ2.nm f) fQ=false:=by
   rw[jx.Sy a8];cases u:kJ s fQ with
   |false=>rfl
   |true=>
    have:=su u;subst this;simp[rY,gZ,kJ,sK]at hs
  have aG:∀m x,pf < m->σ2.gq[m]?=some (some x)->kJ (σ2.nm x) fQ=false:=by
   intro m x hm u;rw[o2]at u;rw[f2.agH (RJ.oM J.inv u)];exact J.nt m x hm u
  have⟨pl,q3,p3,k3⟩:=MH i2 ae ai ha ay aG;rw[M.gn,q3];dsimp only;have aQ:G f < G last:=J.low pf f (by omega) J.fat;have⟨σ3,q4,i3,f3,w3,o3,a3,r3,n3,_,_⟩:=i2.put p3 he2 hp2 (by omega) (by omega);rw[M.gn,q4];dsimp only;have a9:iV σ3 f s:=f3.nm _ _ a8;have⟨ef,hef,hefn⟩:=id a9;rw[M.gn,AQ hef (by grind)];dsimp only;have aq:some b∈σ3.gq:=by
   rw[o3,o2];exact Is J.bat
  have⟨blk',eb,e1,heb⟩:=kT (i3.gq _ aq);cases e1;obtain⟨j,hj⟩:∃j,j=σ3.nodes.length:=⟨_,rfl⟩;have⟨i4,f4⟩:=i3.ajt.new ef.name ef.gO σ3.fresh (2*G b+1);obtain⟨z,l⟩:∃z,z=σ3.pN (.el {name:=ef.name,gO:=ef.gO,je:=none,kids:=[]}) σ3.fresh:=⟨_,rfl⟩;rw[<-l]at i4 f4|-;rw[<-hj]at i4|-;obtain⟨R,hR⟩:∃R,R=x9 (λi=>2*G i) j (2*G b+1):=⟨_,rfl⟩;rw[<-hR]at i4;have O:z.gV j=some {name:=ef.name,gO:=ef.gO,je:=none,kids:=[]}:=by rw[l,hj];exact Ab.sN
  have ag:∀i,(σ3.gV i).isSome=true->i≠j:=by
   intro i X e0;have⟨ei,ad⟩:=Option.isSome_iff_exists.1 X;have:=Ab.gW ad;omega
  have I:∀i,(σ3.gV i).isSome=true->R i=2*G i:=λi X=>by rw[hR];grind[x9]
  have Rj:R j=2*G b+1:=by rw[hR];exact zm _ _ _
  have N:(σ3.gV b).isSome=true:=by rw[heb];rfl
  have ar:b≠j:=ag b N;have ac:z.gV b=some eb:=by rw[l];show(σ3.add _).gV b=_;rw[Ab.sr (Ab.gW heb)];exact heb
  have w4:wt z=wt σ3:=by rw[l];exact FK _ _ _
  have o4:z.gq=σ3.gq:=by rw[l];rfl
  have a4:z.act=σ3.act:=by rw[l];rfl
  have r4:z.fresh=σ3.fresh:=by rw[l];rfl
  have⟨σ5,q5,i5,f5,w5,o5,a5,r5,n5,b5,d5⟩:=i4.hand ac O ar rfl rfl (by
   intro k hk;have⟨ek,D,h2⟩:=i3.oA.dn b eb k heb hk;have h3:=i3.ur.je k ek b D h2;grind) (by omega)
  rw[M.gn,q5];dsimp only;have q6:jr b σ5= .ok (b,0) σ5:=by unfold jr;rw[b5];rfl
  rw[M.gn,q6];dsimp only;have⟨σ6,q7,i6,f6,w6,o6,a6,r6,n6,_,_⟩:=i5.put (pl:=(b,0)) ⟨_,b5,iM _⟩ d5 rfl (by
   grind) (by omega)
  rw[M.gn,q7];dsimp only;have F6:=((((f1.trans f2).trans f3).trans f4).trans f5).trans f6;have a0:iV σ6 j ef.name:=f6.nm _ _ (f5.nm _ _ ⟨_,O,rfl⟩);have aa:iV σ6 f s:=f6.nm _ _ (f5.nm _ _ (f4.nm _ _ a9));have aF:(σ6.gV mark).isSome=true:=RJ.isSome (((((f2.trans f3).trans f4).trans f5).trans f6)) J.mrk;have an:σ6.act=σ1.act:=by rw[a6,a5,a4,a3,a2]
  have a1:σ6.gq=σ1.gq:=by rw[o6,o5,o4,o3,o2]
  have aM:σ6.act.length<=32:=jH i6.AB i6.Ui;have aS:σ6.gq.length<=64:=jH i6.x7 i6.QE;have ao:some f∈σ6.act:=by rw[an];exact J.fact
  have q8:oU (some mark) (some j) σ6= .ok () {σ6 with act:=ja σ6.act (some mark) (some j)}:=by
   unfold oU;rw[gv];rw[pW,pW];exact⟨⟨aF,mw a0⟩,by grind⟩
  rw[M.gn,q8];dsimp only;have q9:kM (some f) {σ6 with act:=ja σ6.act (some mark) (some j)}= .ok () {σ6 with act:=(ja σ6.act (some mark) (some j)).erase (some f)}:=Uo (σ:={σ6 with act:=ja σ6.act (some mark) (some j)}) (mw aa);rw[M.gn,q9];dsimp only;have⟨i7,f7⟩:=i6.DO (ys:=(ja σ6.act (some mark) (some j)).erase (some f)) (λi X=>by
   rcases vC (Qw X)with X|X
   .exact i6.act i X
   grind) (by
   have D:=CZ σ6.act (some mark) (some j);have h2:=List.length_erase_of_mem (MD (x:=some mark) (y:=some j) ao);have h3:=i6.AB;omega)
  obtain⟨g,B⟩:∃g,g=({σ6 with act:=(ja σ6.act (some mark) (some j)).erase (some f)}:Ab):=⟨_,rfl⟩;rw[<-B]at i7 f7|-;have o7:g.gq=σ6.gq:=by rw[B]
  have ab:iV g f s:=f7.nm _ _ aa;have aR:iV g j ef.name:=f7.nm _ _ a0;have af:g.gq[pf]?=some (some f):=by rw[o7,a1];exact J.fat
  have ah:=i7.Ff ab Y;have aH:kq (some f) g= .ok () {g with gq:=g.gq.erase (some f)}:=KY (mw ab);rw[M.gn,aH];dsimp only;have⟨i8,f8⟩:=i7.sub (ys:=g.gq.erase (some f)) List.erase_sublist (Dt ah);obtain⟨d,C⟩:∃d,d=({g with gq:=g.gq.erase (some f)}:Ab):=⟨_,rfl⟩;rw[<-C]at i8 f8|-;have o8:d.gq=g.gq.erase (some f):=by rw[C]
  have ax:f≠b:=by
   rintro rfl;have D:=vY hf h.nodup;have h2:=vY hb h.nodup;omega
  have V:some b∈d.gq:=by
   rw[o8];refine(D0 (λe0=>ax (jv e0).symm)).2 ?_;rw[o7,a1];exact Is J.bat
  have⟨kb,hkb⟩:=tF V;have aP:=A6 hkb;have az:=vY hkb i8.nodup;have a7:=f7.trans f8;have al:iV d j ef.name:=a7.nm _ _ a0;have aA:d.gq.length+1=g.gq.length:=by
   rw[o8,List.length_erase_of_mem (tR af)];have:=A6 af;omega
  have S:ja d.gq (some b) (some j)=d.gq.take (kb+1)++[some j]++d.gq.drop (kb+1):=by
   unfold ja;rw[gv V,az]
  have aI:oZ (some b) (some j) d= .ok () {d with gq:=ja d.gq (some b) (some j)}:=by
   unfold oZ;rw[gv];rw[pW,pW];refine⟨⟨?_,mw al⟩,?_⟩
   .exact i8.gq _ V
   .grind
  rw[M.gn,aI];dsimp only;have A:∀x∈d.gq,∃i,x=some i/\R i=2*G i:=by
   intro x u;have aE:x∈σ3.gq:=by
    rw[o8]at u;have:=Qw u;rw[o7,a1]at this;rw[o3,o2];exact this
   obtain⟨i,ei,rfl,ad⟩:=kT (i3.gq x aE);exact⟨i,rfl,I i (by grind)⟩
  have aC:=i8.ur.gq;have aK:R b=2*G b:=I b N;have⟨i9,f9⟩:=i8.acZ (ys:=ja d.gq (some b) (some j)) (by
   intro x u;rcases vC u with u|rfl
   .exact i8.gq x u
   .exact mw al) (by
   rw[S,wA];have ak:d.gq=d.gq.take (kb+1)++d.gq.drop (kb+1):=(FT _ _).symm;have U:=aC;rw[ak]at U;have⟨p1,p2,p3⟩:=List.pairwise_append.1 U;refine List.pairwise_append.2 ⟨p1,List.pairwise_cons.2 ⟨?_,p2⟩,?_⟩
   .
    intro y Z;obtain⟨i,rfl,ap⟩:=A y (Is Z);have av:some b∈d.gq.take (kb+1):=by
     refine tR (i:=kb) ?_;rw[FL,gv (by omega)];exact hkb
    have D:R b < R i:=p3 _ av _ Z;grind[rk]
   .intro x u y Z;rcases List.mem_append.1 Z with Z|Z
    .rw[List.mem_singleton.1 Z];obtain⟨i,rfl,ap⟩:=A x (List.mem_of_mem_take u);show R i < R j;have⟨k,hk⟩:=tF u;rw[FL]at hk;split at hk
     .rename_i aO;rcases pJ k kb with D|D
      .have:=i8.xa hk hkb D;omega
      grind
     grind
    grind) (by
   rw[S,wA];cases ho8:d.gq with
   |nil=>grind
   |cons x0 xr=>rfl) (by
   have D:=CZ d.gq (some b) (some j);have h2:=i7.x7;grind)
  have wf:wt ({d with gq:=ja d.gq (some b) (some j)}:Ab)=wt σ6:=by
   show wt d=_;rw[C];show wt g=_;rw[B];rfl
  refine⟨⟨_,i9⟩,(F6.trans a7).trans f9,by omega,?_⟩;grind
theorem GW (σ:Ab) (f b:Nat):∀(d:kG) (e:iY),σ.vV f d e=some b->e=some b\/∃k:Nat,d[k]?=some (some b)/\∀g:Nat,g<=k->d[g]?≠some (some f)
 |[],e,h=> .inl h
 |x::d,e,h=>by
  unfold Ab.vV at h;by_cases z:x=some f
  .grind
  .rw[gH z]at h;rcases GW σ f b d _ h with j|⟨k,j,A⟩
   .by_cases u:ly (σ.rL x)=true
    .rw[gv u]at j;refine .inr ⟨0,by grind,λg l=>?_⟩;grind
    grind
   .refine .inr ⟨k+1,j,λg l=>?_⟩;grind
theorem Cw (σ:Ab) (f:Nat):∀(b:kG),σ.oJ f b=true->∀(k:Nat) (x:iY),b[k]?=some x->(∀d:Nat,d<=k->b[d]?≠some (some f))->iJ (σ.rL x)=false
 |[],h,k,x,hx,_=>by cases hx
 |y::b,h,k,x,hx,hno=>by
  unfold Ab.oJ at h;have l:y≠some f:=λe=>hno 0 (iM _) (by grind);rw[gH l]at h;by_cases g:iJ (σ.rL y)=true
  .grind
  .rw[gH g]at h;cases k with
   |zero=>
    grind
   |succ k=>exact Cw σ f b h k x hx (λd j=>hno (d+1) (by omega))
theorem yw (σ:Ab) (s:fY):∀{b:kG} {f:Nat},σ.qU s b=some f->some f∈b/\kJ (σ.nm f) s=true
 |[],f,h=>by cases h
 |none::_,f,h=>by cases h
 |some i::b,f,h=>by
  unfold Ab.qU at h;by_cases d:kJ (σ.nm i) s=true
  .grind
  .rw[gH d]at h;have⟨h1,h2⟩:=yw σ s h;grind
def TJ:iJ fQ=true:=by
 kernel_rfl
def yV {x : fY}:gZ [s] x=kJ x s:=by simp[gZ]
def RL (h:rY s=true):gZ [s] fO=false:=by
 rw[yV];cases hx:kJ fO s with
 |false=>rfl
 |true=>exact absurd (su hx).symm (Ez h)
def Eu {σ:Ab} (h:ni σ) (d:s≠fO):jE 0 σ (ud s σ) (λ_ b=>vF σ b):=by
 refine jE.iB ((xq h (gZ [s]) ly ?_).mono (gL _) (λ_ _ _ _ h=>h.1));rw[yV];cases hx:kJ fO s with
 |false=>rfl
 |true=>exact absurd (su hx).symm d
theorem L5 {σ:Ab} (h:ni σ) (I:rY s=true) (hw:wt σ < 999900):jE 36 σ (mr s σ) (λ_ K=>K.fresh=σ.fresh):=by
 unfold mr;cases hl:σ.pY s with
 |none=>
  dsimp only;refine jE.bind ((Eu h (Ez I)).mono (iM 36) (λ_ _ _ _ h=>h)) (c2:=0) ?_ (by omega);rintro _ z u _ _ q;exact jE.ret u q.fresh
 |some f=>
  dsimp only;have⟨O,hn⟩:=yw σ s hl;have B:some f∈σ.act:=List.mem_reverse.1 O;have⟨r,hr⟩:=id h;have⟨ef,hef,_⟩:=hr.act f B;have j:iV σ f s:=by
   have g:=UK hef
   rwa [su hn]at g
  have H:(σ.gV f).isSome=true:=by rw[hef];rfl
  split
  .refine jE.bind ((zt h (x:=some f) H).mono (iM 36) (λ_ _ _ _ h=>h)) (c2:=0) ?_ (by omega);rintro _ z u _ _ q;exact jE.ret u q.fresh
  .rename_i ho;have D:some f∈σ.gq:=by simpa using ho
   split
   .exact⟨h,Fx.refl _,by omega,rfl⟩
   .rename_i J;have F:σ.oJ f σ.gq.reverse=true:=by simpa [Ab.pz]using J
    cases hb:σ.qL f with
    |none=>
     dsimp only;refine jE.bind ((Vr h j (Ez I) D).mono (iM 36) (λ_ _ _ _ h=>h)) (c2:=0) ?_ (by omega);rintro _ z u V _ q1;refine jE.bind (zt u (x:=some f) (mw (V.nm _ _ j))) (c2:=0) ?_ (by omega);rintro _ a1 i2 _ _ q2;exact jE.ret i2 (q2.fresh.trans q1.fresh)
    |some b=>
     dsimp only;have⟨pf,hpf⟩:=tF D;have R:=A6 hpf;have d:∀k,k < σ.gq.length->σ.gq.reverse[k]?=σ.gq[σ.gq.length - 1 - k]?:=λk C=>Ua C;have S:∀k,σ.gq.reverse[k]?=some (some f)->k=σ.gq.length - 1 - pf:=by
      intro k C;have l:k < σ.gq.length:=by simpa using (List.getElem?_eq_some_iff.1 C).1
      rw[d k l]at C;have g:=vY C hr.nodup;have X:=vY hpf hr.nodup;omega
     have Y:σ.gq.reverse[σ.gq.length - 1 - pf]?=some (some f):=by
      rw[d _ (by omega),show σ.gq.length - 1 - (σ.gq.length - 1 - pf)=pf by omega];exact hpf
     rcases GW σ f b σ.gq.reverse none hb with g|⟨k,g,X⟩
     .cases g
     .have l:k < σ.gq.length:=by simpa using (List.getElem?_eq_some_iff.1 g).1
      have Z:k < σ.gq.length - 1 - pf:=by
       rcases pJ k (σ.gq.length - 1 - pf)with N|N
       .exact N
       .grind
      rw[d k l]at g;refine jE.bind ((Ss h I j B hpf g (by omega) ?_ hw).mono (gL _) (λ_ _ _ _ h=>h)) (c2:=0) ?_ (by omega)
      .intro m x O U;have a0:=A6 U;have G:=Cw σ f σ.gq.reverse F (σ.gq.length - 1 - m) (some x) (by
        rw[d _ (by omega),show σ.gq.length - 1 - (σ.gq.length - 1 - m)=m by omega];exact U) (by
        grind)
       cases hq:kJ (σ.nm x) fQ with
       |false=>rfl
       |true=>
        have e:=su hq;have A:iJ (σ.nm x)=false:=G;rw[e,TJ]at A;cases A
      .rintro _ z u _ _ q;exact jE.ret u q
theorem Jw (e:rY s=true):∀(k:Nat) {σ:Ab},ni σ->wt σ+36*k < 999900->jE (36*k) σ (sY s k σ) (λ_ d=>d.fresh=σ.fresh)
 |0,σ,h,_=>⟨h,Fx.refl _,gL _,rfl⟩
 |k+1,σ,h,hw=>by
  unfold sY;refine jE.bind (L5 h e (by omega)) (c2:=36*k) ?_ (by omega);rintro b l g u z j;cases b with
  |true=>
   refine(Jw e k g (by omega)).mono (gL _) ?_;grind
  |false=>exact jE.ret g j _
def FW {σ:Ab} (h:ni σ) (d:σ.gq≠[]) (l:rY s=true) (hw:wt σ < 999100):jE 288 σ (ww s σ) (λ_ g=>g.fresh=σ.fresh):=by
 have⟨r,hr⟩:=id h;have⟨i,e,h1,h2,h3,h4⟩:=Po hr d;unfold ww;rw[h1];dsimp only;split
 .rename_i j;rw[pW]at j;have b:σ.current (gZ [s])=true:=by
   unfold Ab.current;rw[h1];show gZ [s] (σ.nm i)=true;rw[yV];exact j.1
  have u:=yd h (gZ [s]) (RL l) b;refine jE.bind ((y8 h u).mono (iM 288) (λ_ _ _ _ h=>h)) (c2:=0) ?_ (by omega);rintro x A z _ _ ⟨rfl,_⟩;exact⟨z,Fx.refl _,gL _,rfl⟩
 .exact(Jw l 8 h (by omega)).mono (by omega) (λ_ _ _ _ h=>h)
def Rel.drewN {σ:Ab} (h:Rel E L σ w) (q:Nat):Rel E L σ (w.drewN q):=h.ib ((Kept.refl _ _).drewN q)
def Fr.drewN (w:gm) (q:Nat):Fr bs w (w.drewN q):= .gN ((Kept.refl _ _).drewN q)
def km (w:gm) (k c p:Nat):Prop:=w.heap[k]?=some (gz #[fV c,fV p] 78)
abbrev rh (k:Nat):Ending:= .panicked [{v:= .iface 73 (gE k),recovered:=false}]
abbrev Bp (E:Env):gG:=gE E.bB
def Qe {σ:Ab} (h:Rel E L σ w) (c:Nat):
  Calls prog 261 #[Bp E,fV c] w λe w'=>∃k,e=rh k/\km w' k c σ.gI/\Fr E.bs w w':=by
 have j:=h.Uy;have g:=h.lt;have d:=Fr.gN (bs:=E.bs) ((Kept.refl [] w).alloc (gz #[fV c,fV σ.gI] 78));have b:=fP w (gz #[fV c,fV σ.gI] 78);go_enter func261,ntmps261;go_wp2;exact⟨rfl,_,rfl,b,d⟩
def Rel.Zp {σ:Ab} (h:Rel E L σ w):Bc ⟨E.bB,188,none⟩ w=σ.gq.length:=by
 have⟨C,hL,_⟩:=h.zJ;rw[hL.Bc,wm]
def wY (xs:kG) (y:iY):io (xs++[y]) (((xs++[y]).length:Int) - 1)=y:=Ki xs y
def ace:io ([]:kG) ((([]:kG).length:Int) - 1)=none:=rfl
theorem xK (xs:kG):xs=[]\/∃b y,xs=b++[y]:=by
 rcases adx xs with h|⟨d,y,h⟩
 all_goals grind
theorem Rel.oM {σ:Ab} (h:Rel E L σ w) (b:x∈σ.gq):∃i e,x=some i/\σ.gV i=some e:=by
 have:=h.wf.gq x b;cases x with
 |none=>cases this
 |some i=>
  have⟨e,he⟩:=Option.isSome_iff_exists.1 (show(σ.gV i).isSome=true from this);grind
def Rel.we {σ:Ab} (h:Rel E L σ w) {e : yp} (b:σ.gV i=some e):w.cell? ⟨L.gI i,0,none⟩=some (gu (σ.nm i)):=by
 have:σ.nm i=e.name:=by unfold Ab.nm;rw[b]
 rw[this,fN (h.vG b).iw];rfl
def Ask.fr' (h:Ask bm v p w) (b:Fr bs w w'):Ask bm v p w':=h.fr (b.n bm)
def zy {σ:Ab} (h:Rel E L σ w) (v:gG) (p:fY->Bool) (u:Ask E.bm v p w):
  Calls prog 211 #[Bp E,v] w λe w'=>e=ig (.bool (σ.current p))/\w'=w:=by
 obtain⟨k,lb,rfl,D,z⟩:=u.call;have d:=Vs h;rcases xK σ.gq with g|⟨F,y,g⟩
 .have b:σ.current p=false:=by unfold Ab.current Ab.last;rw[g];rfl
  rw[b];rw[g,ace]at d;have j:=fM d;clear d;go_enter func211,ntmps211;go_wp21;refine j.mono ?_;rintro e w' ⟨rfl,rfl⟩;go_wp2;go_ret;simp
 .obtain⟨i,C,rfl,A⟩:=h.oM (x:=y) (by rw[g];simp);have b:σ.current p=p (σ.nm i):=by unfold Ab.current Ab.last;rw[g,wY]
  rw[b];rw[g,wY]at d;have B:=h.we A;have j:=fM (show Calls prog 170 #[jG E.bB 188] w (λe w'=>e=ig (gE (L.gI i))/\w'=w)from d);have l:=z w (xk.refl _ _) (σ.nm i);generalize p (σ.nm i)=r at l|-;clear d;go_enter func211,ntmps211;go_wp21;refine j.mono ?_;rintro e w' ⟨rfl,rfl⟩;go_wp21;refine l.mono ?_;rintro e w' ⟨rfl,rfl⟩;go_wp2;go_ret;simp
def acD {σ:Ab} (h:Rel E L σ w) (v:gG) (p:fY->Bool) (g:Ask E.bm v p w):
  Calls prog 232 #[Bp E,v] w λe w'=>e=pL/\To E L (σ.Fi p) w w':=by
 have b:=zy h v p g;have j:=SC h;have l:=h.to (Fr.refl w);obtain⟨k,lb,rfl,_,_⟩:=g.call;unfold Ab.Fi;cases hcur:σ.current p with
 |false=>
  rw[hcur]at b;go_enter func232,ntmps232;go_wp21;refine b.mono ?_;rintro e w' ⟨rfl,rfl⟩;go_wp2;go_end0;exact⟨rfl,l⟩
 |true=>
  rw[hcur]at b;go_enter func232,ntmps232;go_wp21;refine b.mono ?_;rintro e w' ⟨rfl,rfl⟩;go_wp21;refine j.mono ?_;rintro e w' ⟨rfl,d⟩;go_wp2;go_end0;exact⟨rfl,d⟩
structure Ou (E:Env) (L:Loc) (σ:Ab) (w:gm) (ys:kG) (wr:gm):Prop where
 ex:∃L1,L1.gI=L.gI/\Rel E L1 {σ with gq:=ys} wr/\Fr E.bs w wr
def af8 {σ:Ab} (h:Rel E L σ w) (v:gG) (p:fY->Bool) (ha:Ask E.bm v p w):
  Calls prog 284 #[Bp E,v] w λe w'=>e=pL/\To E L (σ.FG p) w w':=by
 obtain⟨k,lb,rfl,he,V⟩:=ha.call;have U:Hid (Ou E L σ w σ.gq w):=fM ⟨L,rfl,h,Fr.refl w⟩;go_enter func284,ntmps284;go_wp2
 go_loopw [] (λwr=>∃B,σ.zl p B.reverse=σ.zl p σ.gq.reverse/\Ou E L σ w B wr) (λwr=>Bc ⟨E.bB,188,none⟩ wr)
 case atStart=>exact⟨_,rfl,U⟩
 case round=>
  have⟨B,hu,⟨L1,e1,hR,HFR⟩⟩:=hrel;have N:=fM e1;clear e1;have G:=fM hR.Zp;have l:=acx hR;have C:=SC hR;rcases xK B with rfl|⟨b,y,rfl⟩
  .have F:Hid (To E L (σ.FG p) w wr):=by
    refine⟨L1,N,?_,HFR⟩;have:(σ.zl p σ.gq.reverse).reverse=[]:=by rw[<-hu];rfl
    unfold Ab.FG;rw[this];exact hR
   clear hR hu;go_wp21;refine l.mono ?_;rintro e w' ⟨rfl,rfl⟩;go_wp2;go_end0;exact⟨rfl,F⟩
  .obtain⟨i,Z,rfl,I⟩:=hR.oM (x:=y) (by simp);have K:σ.zl p ((b++[some i]).reverse)=if p (σ.nm i)then b.reverse else σ.zl p b.reverse:=by rw[Yc];rfl
   rw[K]at hu;have R:0 < (b++[some i]).length:=by simp
   dsimp only at l C;rw[wY]at C;have D:=(show Calls prog 175 #[jG E.bB 188] wr (λe w'=>e=ig (gE (L1.gI i))/\To E L1 {σ with gq:=(b++[some i]).dropLast} wr w')from C);have z:=fM hu;have j:(0:Int) < ((b++[some i]).length:Int):=by omega
   obtain⟨m,S⟩:∃m,m=(b++[some i]).length:=⟨_,rfl⟩;have X:=fM (show m=b.length+1 by rw[S];simp);dsimp only at G;rw[<-S]at l j G;clear hR hu;go_wp21;refine l.mono ?_;rintro e w' ⟨rfl,rfl⟩;go_wp21;refine D.mono ?_;rintro e A ⟨rfl,Y,e2,d,g⟩;rw[T9]at d;have J:Ab.gV {σ with gq:=b} i=some Z:=I;have c0:A.cell? ⟨L1.gI i,0,none⟩=some (gu (σ.nm i)):=by rw[<-e2];exact d.we J
   have u:=V A ((HFR.trans g).n _) (σ.nm i);have H:=fM d.Zp;have O:Hid (Ou E L σ w b A):=⟨Y,e2.trans N,d,HFR.trans g⟩;clear d;cases hq:p (σ.nm i)with
   |true=>
    rw[hq]at u z;have F:Hid (To E L (σ.FG p) w A):=by
     have⟨L3,e3,hR3,hf3⟩:=O.ex;refine⟨L3,e3,?_,hf3⟩;have:(σ.zl p σ.gq.reverse).reverse=b:=by rw[<-z.out,gv rfl,List.reverse_reverse]
     unfold Ab.FG;rw[this];exact hR3
    go_wp21;refine u.mono ?_;rintro e w' ⟨rfl,rfl⟩;go_wp2
    (try simp only[Exit.inBlock,Exit.then])
    refine ou (Iv rfl _ _ _) rfl ?_;exact⟨rfl,F⟩
   |false=>
    rw[hq]at u z;go_wp21;refine u.mono ?_;rintro e w' ⟨rfl,rfl⟩;go_wp2;go_roundw
    case rel=>exact⟨b,by rw[<-z.out];rfl,O⟩
    case measure=>rw[H.out,G.out,X.out];simp
def abZ (bm:Nat) (b:List fY) (w:gm) (d:b.length<=4096):
  Calls prog 216 #[oo w.heap.size b.length b.length] (w.alloc (gz (b.map Value.string).toArray 9)) λe w'=>∃f a l,e=ig (.func f a l)/\Ask bm (.func f a l) (gZ b) w'/\Kept [] w w':=by
 refine(Pm bm w.heap.size b.length b _ (fP w _) d).mono ?_;rintro e w' ⟨⟨v,rfl,g⟩,j⟩;obtain⟨k,lb,rfl,_,_⟩:=g.call;exact⟨_,_,_,rfl,g,(((Kept.refl [] w).alloc _).trans j)⟩
theorem agL (bm:Nat) (v1 v2:gG) (p q:fY->Bool) (w:gm) (d:Ask bm v1 p w) (g:Ask bm v2 q w):
  Calls prog 236 #[v1,v2] w λe w'=>∃f a l,e=ig (.func f a l)/\Ask bm (.func f a l) (λs=>p s||q s) w'/\Kept [] w w':=by
 refine(ah8 bm v1 v2 p q w d g).mono ?_;rintro e w' ⟨⟨v,rfl,b⟩,j⟩;obtain⟨k,lb,rfl,_,_⟩:=b.call;grind
def Ask.k0 (h:Ask bm v p w) (b:Kept [] w w'):Ask bm v p w':=h.fr (.gN b)
def UB {σ:Ab} (h:Rel E L σ w) (f:Fn) (a l:jA) (p:fY->Bool) (ha:Ask E.bm (.func f a l) p w):
  Calls prog 213 #[Bp E,.func f a l] w λe w'=>e=pL/\To E L (σ.wF p) w w':=by
 have H:=h;have HA:=ha;have CI:=abZ E.bm [fO] w (by decide);go_enter func213,ntmps213;go_wp21;refine CI.mono ?_;rintro e w1 ⟨f1,a1,l1,rfl,X,B⟩;have CO:=agL E.bm _ _ _ _ w1 (HA.k0 B) X;go_wp21;refine CO.mono ?_;rintro e w2 ⟨f2,a2,l2,rfl,A,Y⟩;have C:=B.trans Y;have H2:=H.ib C;obtain⟨q,hq⟩:∃q,q=(λs=>p s||gZ [fO] s):=⟨_,rfl⟩;rw[<-hq]at A;have D:Hid (∀wr,(∃u,u.gI=L.gI/\Rel E u {σ with gq:=(σ.pS (λs=>!q s) σ.gq.reverse).reverse} wr/\Fr E.bs w wr)->To E L (σ.wF p) w wr):=by
  rintro wr ⟨u,e1,b,G⟩;refine⟨u,e1,?_,G⟩;unfold Ab.wF
  rwa [hq]at b
 have H0:Hid (Ou E L σ w σ.gq w2):=fM ⟨L,rfl,H2,.gN C⟩;go_wp2
 go_loopw [] (λwr=>∃K,σ.pS (λs=>!q s) K.reverse=σ.pS (λs=>!q s) σ.gq.reverse/\Fr E.bs w2 wr/\Ou E L σ w K wr) (λwr=>Bc ⟨E.bB,188,none⟩ wr)
 case atStart=>exact⟨_,rfl,Fr.refl _,H0⟩
 case round=>
  have⟨K,hu,hf2,⟨u,E1,b,G⟩⟩:=hrel;have U:=fM b.Zp;have z:=acx b;have CC:=zy b _ _ (A.fr' hf2);rcases xK K with rfl|⟨j,y,rfl⟩
  .have S:Hid (To E L (σ.wF p) w wr):=by
    refine D wr ⟨u,E1,?_,G⟩;have:(σ.pS (λs=>!q s) σ.gq.reverse).reverse=[]:=by rw[<-hu];rfl
    rw[this];exact b
   clear b hu;go_wp21;refine z.mono ?_;rintro e w' ⟨rfl,rfl⟩;go_wp2;go_end0;exact⟨rfl,S⟩
  .obtain⟨i,e0,rfl,hi⟩:=b.oM (x:=y) (by simp);have a0:σ.pS (λs=>!q s) ((j++[some i]).reverse)=if (!q (σ.nm i))=true then σ.pS (λs=>!q s) j.reverse else some i::j.reverse:=by rw[Yc];rfl
   rw[a0]at hu;have F:Ab.current {σ with gq:=j++[some i]} q=q (σ.nm i):=by unfold Ab.current Ab.last;rw[wY];rfl
   rw[F]at CC;have g:=CC;have J:=fM hu;have R:=G;have N:=hf2;have CP:=SC b;obtain⟨m,Z⟩:∃m,m=(j++[some i]).length:=⟨_,rfl⟩;have a3:(0:Int) < (m:Int):=by rw[Z];simp
   have HM:=fM (show m=j.length+1 by rw[Z];simp);dsimp only at U z;rw[<-Z]at z U;cases hqq:q (σ.nm i)with
   |true=>
    rw[hqq]at g J;have S:Hid (To E L (σ.wF p) w wr):=by
     refine D wr ⟨u,E1,?_,G⟩;have:(σ.pS (λs=>!q s) σ.gq.reverse).reverse=j++[some i]:=by rw[<-J.out];simp
     rw[this];exact b
    clear b hu;go_wp21;refine z.mono ?_;rintro e w' ⟨rfl,rfl⟩;go_wp21;refine g.mono ?_;rintro e w' ⟨rfl,rfl⟩;go_wp2;go_end0;exact⟨rfl,S⟩
   |false=>
    rw[hqq]at g J;clear b hu;go_wp21;refine z.mono ?_;rintro e w' ⟨rfl,rfl⟩;go_wp21;refine g.mono ?_;rintro e w' ⟨rfl,rfl⟩;go_wp21;refine CP.mono ?_;rintro e w3 ⟨rfl,L2,e2,d,I⟩
    try dsimp only at d
    rw[T9]at d;have V:=fM d.Zp;have HP:Hid (Ou E L σ w j w3):=⟨L2,e2.trans E1,d,R.trans I⟩;have O:=N.trans I;clear d;go_wp2;go_roundw
    case rel=>exact⟨j,by rw[<-J.out];rfl,O,HP⟩
    case measure=>rw[V.out,U.out,HM.out];simp
def Rel.aeH {σ:Ab} (h:Rel E L σ w):∃f a l,w.cell? ⟨E.bB,185,none⟩=some (.func f a l)/\Ask E.bm (.func f a l) vM w:=by
 have⟨v,hv,ha⟩:=h.env.Zd;obtain⟨k,lb,rfl,_,_⟩:=ha.call;exact⟨_,_,_,h.low (by decide) hv,ha.fr' h.fr⟩
def Rel.Jj {σ:Ab} (h:Rel E L σ w):∃f a l,w.cell? ⟨E.bB,184,none⟩=some (.func f a l)/\Ask E.bm (.func f a l) ly w:=by
 have⟨v,hv,ha⟩:=h.env.spec;obtain⟨k,lb,rfl,_,_⟩:=ha.call;exact⟨_,_,_,h.low (by decide) hv,ha.fr' h.fr⟩
def Rel.bounds {σ:Ab} (h:Rel E L σ w):∃f a l,w.cell? ⟨E.bB,186,none⟩=some (.func f a l)/\Ask E.bm (.func f a l) iJ w:=by
 have⟨v,hv,ha⟩:=h.env.YI;obtain⟨k,lb,rfl,_,_⟩:=ha.call;exact⟨_,_,_,h.low (by decide) hv,ha.fr' h.fr⟩
def Ks {σ:Ab} (h:Rel E L σ w):
  Calls prog 279 #[Bp E] w λe w'=>e=pL/\To E L σ.me w w':=by
 have R:Hid (Ou E L σ w σ.gq w):=fM ⟨L,rfl,h,Fr.refl w⟩;have z:Hid (∀wr,(∃A,A.gI=L.gI/\Rel E A {σ with gq:=(σ.pS vM σ.gq.reverse).reverse} wr/\Fr E.bs w wr)->To E L σ.me w wr):=by
  rintro wr ⟨A,e1,d,B⟩;exact⟨A,e1,d,B⟩
 generalize hq:vM=q at z;have V:=fM hq;clear hq;go_enter func279,ntmps279;go_wp2
 go_loopw [] (λwr=>∃D,σ.pS q D.reverse=σ.pS q σ.gq.reverse/\Ou E L σ w D wr) (λwr=>Bc ⟨E.bB,188,none⟩ wr)
 case atStart=>exact⟨_,rfl,R⟩
 case round=>
  have⟨D,hu,⟨A,E1,d,B⟩⟩:=hrel;have H:=fM d.Zp;have⟨f1,a1,l1,c1,ha1⟩:=d.aeH;rw[V.out]at ha1;have u:=zy d _ _ ha1;rcases xK D with rfl|⟨l,y,rfl⟩
  .have G:Hid (To E L σ.me w wr):=by
    refine z wr ⟨A,E1,?_,B⟩;have:(σ.pS q σ.gq.reverse).reverse=[]:=by rw[<-hu];rfl
    rw[this];exact d
   have j:Ab.current {σ with gq:=[]} q=false:=rfl;rw[j]at u;have b:=fM u;clear d hu u;go_wp21;refine b.mono ?_;rintro e w' ⟨rfl,rfl⟩;go_wp2;go_end0;exact⟨rfl,G⟩
  .obtain⟨i,Z,rfl,hi⟩:=d.oM (x:=y) (by simp);have K:σ.pS q ((l++[some i]).reverse)=if q (σ.nm i)=true then σ.pS q l.reverse else some i::l.reverse:=by rw[Yc];rfl
   rw[K]at hu;have j:Ab.current {σ with gq:=l++[some i]} q=q (σ.nm i):=by unfold Ab.current Ab.last;rw[wY];rfl
   rw[j]at u;have b:=fM u;have C:=fM hu;have F:=B;have O:=SC d;obtain⟨m,N⟩:∃m,m=(l++[some i]).length:=⟨_,rfl⟩;have S:=fM (show m=l.length+1 by rw[N];simp);dsimp only at H;rw[<-N]at H;cases hqq:q (σ.nm i)with
   |false=>
    rw[hqq]at b C;have G:Hid (To E L σ.me w wr):=by
     refine z wr ⟨A,E1,?_,B⟩;have:(σ.pS q σ.gq.reverse).reverse=l++[some i]:=by rw[<-C.out];simp
     rw[this];exact d
    clear d hu u;go_wp21;refine b.mono ?_;rintro e w' ⟨rfl,rfl⟩;go_wp2;go_end0;exact⟨rfl,G⟩
   |true=>
    rw[hqq]at b C;clear d hu u;go_wp21;refine b.mono ?_;rintro e w' ⟨rfl,rfl⟩;go_wp21;refine O.mono ?_;rintro e Y ⟨rfl,X,e2,g,J⟩
    try dsimp only at g
    rw[T9]at g;have I:=fM g.Zp;have U:Hid (Ou E L σ w l Y):=⟨X,e2.trans E1,g,F.trans J⟩;clear g;go_wp2;go_roundw
    case rel=>exact⟨l,by rw[<-C.out];rfl,U⟩
    case measure=>rw[I.out,H.out,S.out];simp
def RF (E:Env) (f:Nat->Nat) (σ:Ab) (w:gm):Prop:=∃L,L.gI=f/\Rel E L σ w
def Uh (n:Nat) (f g:Nat->Nat):Prop:=∀i,i < n->g i=f i
def Leaves {α:Type} (E:Env) (f:Nat->Nat) (n:Nat) (w:gm) (r:pM α) (b:(Nat->Nat)->α->gG) (e:Ending) (w':gm):Prop:=match r with
 | .ok a σ'=>∃g,Uh n f g/\n<=σ'.nodes.length/\e=ig (b g a)/\RF E g σ' w'/\Fr E.bs w w'
 | .stop c p=>∃k,e=rh k/\km w' k c p/\Fr E.bs w w'
 | .stuck=>False
def iZ {α:Type} (E:Env) (k:Nat) (args:(Nat->Nat)->jA) (m:M α) (b:(Nat->Nat)->α->gG):Prop:=
 ∀f σ w,RF E f σ w->m σ≠ .stuck->Calls prog k (args f) w (Leaves E f σ.nodes.length w (m σ) b)
abbrev uV (_:Nat->Nat) (_:Unit):gG:= .tuple #[]
abbrev bV (_:Nat->Nat) (b:Bool):gG:= .bool b
abbrev nV (f:Nat->Nat) (i:Nat):gG:=gE (f i)
abbrev oV (f:Nat->Nat) (x:iY):gG:=ku (ir f x)
abbrev pV (f:Nat->Nat) (pl:Nat×Nat):gG:= .agg #[gE (f pl.1),fV pl.2]
structure At (E:Env) (f0:Nat->Nat) (n0:Nat) (w0:gm) (f:Nat->Nat) (σ:Ab) (w:gm):Prop where
 rel:RF E f σ w
 ext:Uh n0 f0 f
 le:n0<=σ.nodes.length
 fr:Fr E.bs w0 w
 hw:E.w0.heap.size<=w0.heap.size
def At.start {σ:Ab} (h:RF E f σ w):At E f σ.nodes.length w f σ w:=⟨h,λ_ _=>rfl,gL _,Fr.refl _,by have⟨L,_,hr⟩:=h;exact hr.fr.size⟩
def RF.ib {σ:Ab} (h:RF E f σ w) (b:Kept [] w w'):RF E f σ w':=by have⟨L,e,hr⟩:=h;exact⟨L,e,hr.ib b⟩
def Yo:List TypeId:=[135,137,278,233,237,293,175,65,120,160]
theorem Rel.side {σ:Ab} (h:Rel E L σ w) {b : Nat} {c : jA} {m : Nat×Nat} (z:w.heap[b]?=some (.cells c T m)) (F:∀t∈Yo,t≠T) (g:E.w0.heap.size<=b) (j:Nat) (u:gG):Rel E L σ (w.setCell ⟨b,j,none⟩ u):=by
 have e:KT E.bs [T] w (w.setCell ⟨b,j,none⟩ u):= .jL ((Kept.refl [b] w).setCell (.inl (by simp)) u) (λk l _=>by simp at l;subst l;exact⟨⟨_,_,_,z,by simp⟩,jH h.bz g⟩);have d:∀t∈Yo,t∉[T]:=λt B=>by grind
 have⟨C,hbl,hC⟩:=h.iw;exact {h with
  fr:=by
   have⟨S,l,hS⟩:=h.fr;exact⟨S,l.setCell (.inr g) u,hS⟩
  tX:=λi D A=>(h.tX i D A).kt e (λt B=>d t (by revert t;decide))
  iw:=⟨C,e.at hbl (d _ (by decide)),hC⟩
  pR:=e.row h.pR (d _ (by decide))
  qB:=e.row h.qB (d _ (by decide))
  pI:=e.row h.pI (d _ (by decide))
  rd:=e.at h.rd (d _ (by decide))
  tok:=e.row h.tok (d _ (by decide))}
section
variable {α β:Type} {E:Env} {f0:Nat->Nat} {n0:Nat} {w0:gm} {f:Nat->Nat} {σ:Ab} {w:gm}
def At.side (h:At E f0 n0 w0 f σ w) {b:Nat} {c:jA} {T:TypeId} {m:Nat×Nat} (l:w.heap[b]?=some (.cells c T m)) (g:∀t∈Yo,t≠T) (d:w0.heap.size<=b) (j:Nat) (u:gG):At E f0 n0 w0 f σ (w.setCell ⟨b,j,none⟩ u):=by
 have⟨L,e,hr⟩:=h.rel;refine⟨⟨L,e,hr.side l g (jH h.hw d) j u⟩,h.ext,h.le,?_,h.hw⟩;have⟨S,hk,hS⟩:=h.fr;exact⟨S,hk.setCell (.inr d) u,hS⟩
def At.k0 (h:At E f0 n0 w0 f σ w) {w':gm} (b:Kept [] w w'):At E f0 n0 w0 f σ w':=⟨h.rel.ib b,h.ext,h.le,h.fr.trans (.gN b),h.hw⟩
def At.to (h:At E f0 n0 w0 f σ w) {σ':Ab} {w':gm} (e:RF E f σ' w') (d:σ.nodes.length<=σ'.nodes.length) (b:Fr E.bs w w'):At E f0 n0 w0 f σ' w':=⟨e,h.ext,jH h.le d,h.fr.trans b,h.hw⟩
def At.go (h:At E f0 n0 w0 f σ w) {g:Nat->Nat} {σ':Ab} {w':gm} (j:RF E g σ' w') (l:Uh σ.nodes.length f g) (e:σ.nodes.length<=σ'.nodes.length) (d:Fr E.bs w w'):At E f0 n0 w0 g σ' w':=
 ⟨j,λi b=>(l i (lU b h.le)).trans (h.ext i b),jH h.le e,h.fr.trans d,h.hw⟩
def ga {R:pM α} {a:α} {b:(Nat->Nat)->α->gG} (d:R= .ok a σ) (h:At E f0 n0 w0 f σ w) {e:Ending} (g:e=ig (b f a)):Leaves E f0 n0 w0 R b e w:=by
 subst d;exact⟨f,h.ext,h.le,g,h.rel,h.fr⟩
theorem pU {R:pM α} {b:(Nat->Nat)->α->gG} {c p j:Nat} (d:R= .stop c p) (g:km w j c p) (e:Fr E.bs w0 w):Leaves E f0 n0 w0 R b (rh j) w:=by
 grind[Leaves]
theorem iZ.call {k:Nat} {args:(Nat->Nat)->jA} {m:M α} {l:(Nat->Nat)->α->gG} (D:iZ E k args m l) (H:At E f0 n0 w0 f σ w) {R:pM β} {K:α->M β} (d:R=(m>>=K) σ) (O:R≠ .stuck) {A:jA} (hA:args f=A) {Q:Ending->gm->Prop}
  (C:∀c p j w',R= .stop c p->km w' j c p->Fr E.bs w0 w'->Q (rh j) w')
  (B:∀a g b w',At E f0 n0 w0 g b w'->Uh σ.nodes.length f g->Fr E.bs w w'->R=K a b->Q (ig (l g a)) w'):Calls prog k A w Q:=by
 rw[M.gn]at d;have I:m σ≠ .stuck:=λe=>O (by grind);have h:=D f σ w H.rel I;rw[hA]at h;refine h.mono ?_;intro e w' u;cases hr:m σ with
 |ok a b=>
  rw[hr]at u d;obtain⟨g,F,z,rfl,N,G⟩:=u;exact B a g b w' (H.go N F z G) F G d
 |stop c p=>
  rw[hr]at u d;obtain⟨j,rfl,z,J⟩:=u;exact C c p j w' d z (H.fr.trans J)
 |stuck=>exact absurd hr I
end
def kh {α:Type} (E:Env) (f:Nat->Nat) (n:Nat) (w:gm) (r:pM α) (b:(Nat->Nat)->α->gG) (e:Ending) (w':gm):Prop:=match r with
 | .ok a σ'=>e=ig (b f a)/\RF E f σ' w'/\Fr E.bs w w'/\n<=σ'.nodes.length
 | .stop c p=>∃j,e=rh j/\km w' j c p/\Fr E.bs w w'
 | .stuck=>False
def kj {α:Type} (E:Env) (k:Nat) (args:(Nat->Nat)->jA) (m:M α) (b:(Nat->Nat)->α->gG):Prop:=
 ∀f σ w,RF E f σ w->m σ≠ .stuck->Calls prog k (args f) w (kh E f σ.nodes.length w (m σ) b)
section
variable {α β:Type} {E:Env} {f0:Nat->Nat} {n0:Nat} {w0:gm} {f:Nat->Nat} {σ:Ab} {w:gm}
theorem kj.call {k:Nat} {args:(Nat->Nat)->jA} {m:M α} {g:(Nat->Nat)->α->gG} (D:kj E k args m g) (H:At E f0 n0 w0 f σ w) {R:pM β} {K:α->M β} (d:R=(m>>=K) σ) (N:R≠ .stuck) {A:jA} (hA:args f=A) {Q:Ending->gm->Prop}
  (z:∀c p j w',R= .stop c p->km w' j c p->Fr E.bs w0 w'->Q (rh j) w')
  (u:∀a b w',At E f0 n0 w0 f b w'->Fr E.bs w w'->R=K a b->Q (ig (g f a)) w'):Calls prog k A w Q:=by
 rw[M.gn]at d;have C:m σ≠ .stuck:=λe=>N (by grind);have h:=D f σ w H.rel C;rw[hA]at h;refine h.mono ?_;intro e w' l;cases hr:m σ with
 |ok a b=>
  rw[hr]at l d;obtain⟨rfl,I,B,J⟩:=l;exact u a b w' (H.to I J B) B d
 |stop c p=>
  rw[hr]at l d;obtain⟨j,rfl,F,G⟩:=l;exact z c p j w' d F (H.fr.trans G)
 |stuck=>exact absurd hr C
def ajf {k:Nat} {m:M α} {g:(Nat->Nat)->α->gG} {A:jA} (C:m σ≠ .stuck->Calls prog k A w (kh E f σ.nodes.length w (m σ) g)) (H:At E f0 n0 w0 f σ w) {R:pM β} {K:α->M β} (d:R=(m>>=K) σ) (N:R≠ .stuck) {Q:Ending->gm->Prop}
  (z:∀c p j w',R= .stop c p->km w' j c p->Fr E.bs w0 w'->Q (rh j) w')
  (u:∀a b w',At E f0 n0 w0 f b w'->Fr E.bs w w'->R=K a b->Q (ig (g f a)) w'):Calls prog k A w Q:=by
 rw[M.gn]at d;have D:m σ≠ .stuck:=λe=>N (by rw[d,e]);refine(C D).mono ?_;intro e w' l;cases hr:m σ with
 |ok a b=>
  rw[hr]at l d;obtain⟨rfl,I,B,J⟩:=l;exact u a b w' (H.to I J B) B d
 |stop c p=>
  rw[hr]at l d;obtain⟨j,rfl,F,G⟩:=l;exact z c p j w' d F (H.fr.trans G)
 |stuck=>exact absurd hr D
def aiW {k:Nat} {m:M α} {l:(Nat->Nat)->α->gG} {A:jA} (C:m σ≠ .stuck->Calls prog k A w (Leaves E f σ.nodes.length w (m σ) l)) (H:At E f0 n0 w0 f σ w) {R:pM β} {K:α->M β} (d:R=(m>>=K) σ) (O:R≠ .stuck) {Q:Ending->gm->Prop}
  (D:∀c p j w',R= .stop c p->km w' j c p->Fr E.bs w0 w'->Q (rh j) w')
  (B:∀a g b w',At E f0 n0 w0 g b w'->Uh σ.nodes.length f g->Fr E.bs w w'->R=K a b->Q (ig (l g a)) w'):Calls prog k A w Q:=by
 rw[M.gn]at d;have I:m σ≠ .stuck:=λe=>O (by rw[d,e]);refine(C I).mono ?_;intro e w' u;cases hr:m σ with
 |ok a b=>
  rw[hr]at u d;obtain⟨g,F,z,rfl,N,G⟩:=u;exact B a g b w' (H.go N F z G) F G d
 |stop c p=>
  rw[hr]at u d;obtain⟨j,rfl,z,J⟩:=u;exact D c p j w' d z (H.fr.trans J)
 |stuck=>exact absurd hr I
def j7 {R:pM α} {a:α} {b:(Nat->Nat)->α->gG} (d:R= .ok a σ) (h:At E f n0 w0 f σ w) {e:Ending} (g:e=ig (b f a)):kh E f n0 w0 R b e w:=by
 subst d;exact⟨g,h.rel,h.fr,h.le⟩
theorem uU {R:pM α} {b:(Nat->Nat)->α->gG} {c p j:Nat} (d:R= .stop c p) (g:km w j c p) (e:Fr E.bs w0 w):kh E f n0 w0 R b (rh j) w:=by
 grind[kh]
def dC {k:Nat} {args:(Nat->Nat)->jA} {m:M α} {b:(Nat->Nat)->α->gG} (D:iZ E k args m b) (H:Hid (At E f0 n0 w0 f σ w)) {R:pM β} {K:α->M β} (C:Hid (R=(m>>=K) σ)) (F:Hid (R≠ .stuck)) {A:jA} (hA:args f=A) {Q:Ending->gm->Prop}
  (l:∀c p j w',Hid (R= .stop c p/\km w' j c p/\Fr E.bs w0 w')->Q (rh j) w')
  (e:∀a g d w',Hid (At E f0 n0 w0 g d w')->Hid (Uh σ.nodes.length f g)->Hid (Fr E.bs w w')->Hid (R=K a d)->Q (ig (b g a)) w'):Calls prog k A w Q:=iZ.call D H C F hA (λc p j w' u z B=>l c p j w' ⟨u,z,B⟩) e
def mC {k:Nat} {args:(Nat->Nat)->jA} {m:M α} {b:(Nat->Nat)->α->gG} (D:kj E k args m b) (H:Hid (At E f0 n0 w0 f σ w)) {R:pM β} {K:α->M β} (B:Hid (R=(m>>=K) σ)) (C:Hid (R≠ .stuck)) {A:jA} (hA:args f=A) {Q:Ending->gm->Prop}
  (g:∀c p j w',Hid (R= .stop c p/\km w' j c p/\Fr E.bs w0 w')->Q (rh j) w')
  (e:∀a d w',Hid (At E f0 n0 w0 f d w')->Hid (Fr E.bs w w')->Hid (R=K a d)->Q (ig (b f a)) w'):Calls prog k A w Q:=kj.call D H B C hA (λc p j w' l u z=>g c p j w' ⟨l,u,z⟩) e
def Bf {k:Nat} {m:M α} {b:(Nat->Nat)->α->gG} {A:jA} (C:m σ≠ .stuck->Calls prog k A w (kh E f σ.nodes.length w (m σ) b)) (H:Hid (At E f0 n0 w0 f σ w)) {R:pM β} {K:α->M β} (B:Hid (R=(m>>=K) σ)) (D:Hid (R≠ .stuck)) {Q:Ending->gm->Prop}
  (g:∀c p j w',Hid (R= .stop c p/\km w' j c p/\Fr E.bs w0 w')->Q (rh j) w')
  (e:∀a d w',Hid (At E f0 n0 w0 f d w')->Hid (Fr E.bs w w')->Hid (R=K a d)->Q (ig (b f a)) w'):Calls prog k A w Q:=ajf C H B D (λc p j w' l u z=>g c p j w' ⟨l,u,z⟩) e
def dcH {k:Nat} {m:M α} {b:(Nat->Nat)->α->gG} {A:jA} (C:m σ≠ .stuck->Calls prog k A w (Leaves E f σ.nodes.length w (m σ) b)) (H:Hid (At E f0 n0 w0 f σ w)) {R:pM β} {K:α->M β} (D:Hid (R=(m>>=K) σ)) (F:Hid (R≠ .stuck)) {Q:Ending->gm->Prop}
  (l:∀c p j w',Hid (R= .stop c p/\km w' j c p/\Fr E.bs w0 w')->Q (rh j) w')
  (e:∀a g d w',Hid (At E f0 n0 w0 g d w')->Hid (Uh σ.nodes.length f g)->Hid (Fr E.bs w w')->Hid (R=K a d)->Q (ig (b g a)) w'):Calls prog k A w Q:=aiW C H D F (λc p j w' u z B=>l c p j w' ⟨u,z,B⟩) e
def lS {R:pM α} {b:(Nat->Nat)->α->gG} {c p j:Nat} (h:Hid (R= .stop c p/\km w j c p/\Fr E.bs w0 w)):Leaves E f0 n0 w0 R b (rh j) w:=pU h.1 h.2.1 h.2.2
def mS {R:pM α} {b:(Nat->Nat)->α->gG} {c p j:Nat} (h:Hid (R= .stop c p/\km w j c p/\Fr E.bs w0 w)):kh E f n0 w0 R b (rh j) w:=uU h.1 h.2.1 h.2.2
def dI {k:Nat} {args:(Nat->Nat)->jA} {m:M α} {b:(Nat->Nat)->α->gG} (h:∀f σ w R,Hid (R=m σ)->Hid (R≠ .stuck)->Hid (At E f σ.nodes.length w f σ w)->Calls prog k (args f) w (Leaves E f σ.nodes.length w R b)):iZ E k args m b:=λf σ w d e=>h f σ w _ rfl e (At.start d)
def mI {k:Nat} {args:(Nat->Nat)->jA} {m:M α} {b:(Nat->Nat)->α->gG} (h:∀f σ w R,Hid (R=m σ)->Hid (R≠ .stuck)->Hid (At E f σ.nodes.length w f σ w)->Calls prog k (args f) w (kh E f σ.nodes.length w R b)):kj E k args m b:=λf σ w d e=>h f σ w _ rfl e (At.start d)
end
def lT {α:Type} {β:Sort _} {x:β} {R:pM α} {b:(Nat->Nat)->α->gG} (c p j:Nat) (w:gm) (h:Hid (R= .stop c p/\km w j c p/\Fr E.bs w0 w)):x=x/\Leaves E f0 n0 w0 R b (rh j) w:=⟨rfl,lS h⟩
def mT {α:Type} {β:Sort _} {x:β} {R:pM α} {b:(Nat->Nat)->α->gG} (c p j:Nat) (w:gm) (h:Hid (R= .stop c p/\km w j c p/\Fr E.bs w0 w)):x=x/\kh E f n0 w0 R b (rh j) w:=⟨rfl,mS h⟩
def Hf (E:Env) (i:Nat):kj E 90 (λf=>#[nV f i]) (jr i) pV:=by
 intro f σ w ⟨L,e,j⟩ b;subst e;unfold jr at b|-;cases he:σ.gV i with
 |none=>rw[he]at b;exact absurd rfl b
 |some e=>
  refine(TF j he).mono ?_;rintro l w' ⟨rfl,d,g⟩;exact⟨rfl,⟨L,rfl,d⟩,.gN g,gL _⟩
def Fk (E:Env) (pl:Nat×Nat) (j:Nat):kj E 166 (λf=>#[pV f pl,.iface 65 (nV f j)]) (mL pl j) uV:=by
 intro f σ w ⟨L,e,z⟩ b;subst e;unfold mL at b|-;cases h1:σ.gV pl.1 with
 |none=>rw[h1]at b;exact absurd rfl b
 |some ei=>
  cases h2:σ.gV j with
  |none=>rw[h1,h2]at b;exact absurd rfl b
  |some ej=>
   simp only[h1,h2]at b|-;by_cases d:j≠pl.1/\pl.2<=ei.kids.length/\ei.kids.length < 1048576
   .rw[gv d];refine(adf z h1 h2 d.1 d.2.1 d.2.2).mono ?_;rintro A w' ⟨rfl,g,e1,l,u⟩;exact⟨rfl,⟨g,e1,l⟩,u,by simp[Ab.gS]⟩
   .rw[gH d]at b;exact absurd rfl b
theorem VJ (E:Env) (pl:Nat×Nat) (s:fY):iZ E 173 (λf=>#[pV f pl,gu s]) (sF pl s) uV:=by
 intro f σ w ⟨L,e,D⟩ b;subst e;unfold sF at b|-;cases h1:σ.gV pl.1 with
 |none=>rw[h1]at b;exact absurd rfl b
 |some ei=>
  simp only[h1]at b|-;by_cases z:pl.2<=ei.kids.length/\ei.kids.length < 1048576
  .rw[gv z]at b|-;have d:∀(F:∀m,(A:m < ei.kids.length)->pl.2=m+1->∀t,ei.kids[m]≠ .tx t),Calls prog 173 #[pV L.gI pl,gu s] w (Leaves E L.gI σ.nodes.length w (.ok () ((σ.add (.tx s)).gS pl.1 {ei with kids:=ins ei.kids pl.2 (.tx σ.nodes.length)})) uV):=by
    intro F;refine(Lz D h1 z.1 z.2 F).mono ?_;rintro J w' ⟨rfl,u,e1,B,C⟩;exact⟨u.gI,e1,by simp[Ab.gS,Ab.add],rfl,⟨u,rfl,B⟩,C⟩
   by_cases G:pl.2=0
   .simp only[gv G]at b|-;exact d λm A e=>by omega
   .simp only[gH G]at b|-;obtain⟨m,A⟩:∃m,pl.2=m+1:=⟨pl.2 - 1,by omega⟩;have l:m < ei.kids.length:=by omega
    have K:ei.kids[pl.2 - 1]?=some ei.kids[m]:=by rw[A,Wt];exact qs l
    rw[K]at b|-;cases hk:ei.kids[m]with
    |tx t=>
     simp only[hk]at b|-;cases ht:σ.nodes[t]? with
     |none=>rw[ht]at b;exact absurd rfl b
     |some nd=>
      cases nd with
      |tx old=>
       simp only[ht]at b|-;by_cases g:old.size+s.size<=1048576
       .rw[gv g];have:=IW D h1 l hk ht g;rw[<-A]at this;refine this.mono ?_;rintro J w' ⟨rfl,u,e1,B,C⟩;exact⟨L.gI,λ_ _=>rfl,by simp[Ab.ot],rfl,⟨u,e1,B⟩,C⟩
       .rw[gH g]at b;exact absurd rfl b
      |el e=>rw[ht]at b;exact absurd rfl b
      |cm e=>rw[ht]at b;exact absurd rfl b
      |dt e=>rw[ht]at b;exact absurd rfl b
    |el t=>exact d λH j e I=>by grind
    |cm t=>exact d λH j e I=>by grind
    |dt t=>exact d λH j e I=>by grind
  .rw[gH z]at b;exact absurd rfl b
def acE (E:Env):kj E 175 (λ_=>#[jG E.bB 188]) (λσ=> .ok σ.last σ.pop) oV:=by
 intro f σ w ⟨L,e,j⟩ u;subst e;refine(SC j).mono ?_;rintro l w' ⟨rfl,b,e1,d,g⟩;exact⟨rfl,⟨b,e1,d⟩,g,gL _⟩
theorem PM (E:Env) (x:iY):kj E 177 (λf=>#[Bp E,oV f x]) (uo x) uV:=by
 intro f σ w ⟨L,e,h⟩ u;subst e;have I:=h.low (j:=0) (by decide) h.Fb.1;have⟨_,_,_,hd,_,_⟩:=h.Fb;have H:=h.x7;have g:=(λq=>acx (h.drewN q));unfold uo at u|-;by_cases l:σ.qu<=σ.gq.length
 .rw[gv l];have d:=(λq=>Qe (h.drewN q) 5);go_enter func177,ntmps177;go_wp21
  go_quiet ((go_at_call 260;exact lD (g _)))
  go_wp21;refine(d nq).mono ?_;rintro e w' ⟨k,rfl,z,F⟩;have A:=(Fr.drewN w nq).trans F;go_wp2;exact⟨rfl,k,rfl,z,A⟩
 .rw[gH l]at u|-;have b:σ.mW x=true:=by
   by_cases b:σ.mW x=true
   .exact b
   .grind
  rw[gv b];have d:=(λq=>ah3 (h.drewN q) x b (by omega));go_enter func177,ntmps177;go_wp21
  go_quiet ((go_at_call 260;exact lD (g _)))
  go_wp21;refine(d nq).mono ?_;rintro e w' ⟨rfl,D,e1,C,G⟩;have B:=(Fr.drewN w nq).trans G;go_wp2;go_end0;exact⟨rfl,⟨D,e1,C⟩,B,gL _⟩
section
variable {E:Env} {f0:Nat->Nat} {n0:Nat} {w0:gm} {f:Nat->Nat} {σ:Ab} {w:gm}
def At.lt (h:At E f0 n0 w0 f σ w):E.bB < w.heap.size:=by have⟨L,_,hr⟩:=h.rel;exact hr.lt
def At.free (h:At E f0 n0 w0 f σ w) (j:Nat):w.frozen? ⟨E.bB,j,none⟩=false:=by have⟨L,_,hr⟩:=h.rel;exact hr.free j
def At.YJ (h:At E f0 n0 w0 f σ w):w.cell? ⟨E.bB,190,none⟩=some (oV f σ.head):=by obtain⟨L,rfl,b⟩:=h.rel;exact b.YJ
def At.Uw (h:At E f0 n0 w0 f σ w):w.cell? ⟨E.bB,191,none⟩=some (oV f σ.form):=by obtain⟨L,rfl,b⟩:=h.rel;exact b.Uw
def At.sC (h:At E f0 n0 w0 f σ w):w.cell? ⟨E.bB,192,none⟩=some (fV σ.mode):=by obtain⟨L,rfl,b⟩:=h.rel;exact b.sC
def At.Ux (h:At E f0 n0 w0 f σ w):w.cell? ⟨E.bB,193,none⟩=some (fV σ.kept):=by obtain⟨L,rfl,b⟩:=h.rel;exact b.Ux
def At.aaZ (h:At E f0 n0 w0 f σ w):w.cell? ⟨E.bB,195,none⟩=some (.bool σ.iL):=by obtain⟨L,rfl,b⟩:=h.rel;exact b.aaZ
def At.aa0 (h:At E f0 n0 w0 f σ w):w.cell? ⟨E.bB,196,none⟩=some (.bool σ.jJ):=by obtain⟨L,rfl,b⟩:=h.rel;exact b.aa0
def At.Uy (h:At E f0 n0 w0 f σ w):w.cell? ⟨E.bB,197,none⟩=some (fV σ.gI):=by obtain⟨L,rfl,b⟩:=h.rel;exact b.Uy
def At.aa1 (h:At E f0 n0 w0 f σ w):w.cell? ⟨E.bB,198,none⟩=some (.bool σ.behind):=by obtain⟨L,rfl,b⟩:=h.rel;exact b.aa1
def At.Mr (h:At E f0 n0 w0 f σ w) (j:Nat) (u:gG):Fr E.bs w (w.setCell ⟨E.bB,j,none⟩ u):=by
 have⟨L,_,hr⟩:=h.rel;have⟨C,hb⟩:=hr.WK;exact .jL ((Kept.refl [E.bB] w).setCell (.inl (by simp)) u) (λk b=>by simp at b;subst b;exact⟨⟨_,_,_,hb,by decide⟩,hr.bB⟩)
def At.zd (h:At E f0 n0 w0 f σ w) (x:iY) (e:σ.gR x=true):At E f0 n0 w0 f {σ with head:=x} (w.setCell ⟨E.bB,190,none⟩ (oV f x)):=by
 have b:=h.Mr 190 (oV f x);obtain⟨L,rfl,d⟩:=h.rel;exact h.to ⟨L,rfl,d.zd x e⟩ (gL _) b
def At.vN (h:At E f0 n0 w0 f σ w) (x:iY) (e:σ.gR x=true):At E f0 n0 w0 f {σ with form:=x} (w.setCell ⟨E.bB,191,none⟩ (oV f x)):=by
 have b:=h.Mr 191 (oV f x);obtain⟨L,rfl,d⟩:=h.rel;exact h.to ⟨L,rfl,d.vN x e⟩ (gL _) b
def At.jb (h:At E f0 n0 w0 f σ w) (x:Nat):At E f0 n0 w0 f {σ with mode:=x} (w.setCell ⟨E.bB,192,none⟩ (fV x)):=by
 have b:=h.Mr 192 (fV x);obtain⟨L,rfl,d⟩:=h.rel;exact h.to ⟨L,rfl,d.jb x⟩ (gL _) b
def At.ze (h:At E f0 n0 w0 f σ w) (x:Nat):At E f0 n0 w0 f {σ with kept:=x} (w.setCell ⟨E.bB,193,none⟩ (fV x)):=by
 have b:=h.Mr 193 (fV x);obtain⟨L,rfl,d⟩:=h.rel;exact h.to ⟨L,rfl,d.ze x⟩ (gL _) b
def At.zc (h:At E f0 n0 w0 f σ w) (x:Bool):At E f0 n0 w0 f {σ with iL:=x} (w.setCell ⟨E.bB,195,none⟩ (.bool x)):=by
 have b:=h.Mr 195 (.bool x);obtain⟨L,rfl,d⟩:=h.rel;exact h.to ⟨L,rfl,d.zc x⟩ (gL _) b
def At.qZ (h:At E f0 n0 w0 f σ w) (x:Bool):At E f0 n0 w0 f {σ with jJ:=x} (w.setCell ⟨E.bB,196,none⟩ (.bool x)):=by
 have b:=h.Mr 196 (.bool x);obtain⟨L,rfl,d⟩:=h.rel;exact h.to ⟨L,rfl,d.qZ x⟩ (gL _) b
def At.DP (h:At E f0 n0 w0 f σ w) (x:Nat):At E f0 n0 w0 f {σ with gI:=x} (w.setCell ⟨E.bB,197,none⟩ (fV x)):=by
 have b:=h.Mr 197 (fV x);obtain⟨L,rfl,d⟩:=h.rel;exact h.to ⟨L,rfl,d.DP x⟩ (gL _) b
def At.tu (h:At E f0 n0 w0 f σ w) (x:Bool):At E f0 n0 w0 f {σ with behind:=x} (w.setCell ⟨E.bB,198,none⟩ (.bool x)):=by
 have b:=h.Mr 198 (.bool x);obtain⟨L,rfl,d⟩:=h.rel;exact h.to ⟨L,rfl,d.tu x⟩ (gL _) b
def IF (f:Nat->Nat) (n k:Nat):Nat->Nat:=λi=>if i < n then f i else k+(i - n)
def aiB (f:Nat->Nat) (n k:Nat):IF f n k n=k:=by simp[IF]
def RP (f:Nat->Nat) (n k:Nat):Uh n f (IF f n k):=λi b=>gv b
def At.CJ (h:At E f0 n0 w0 f σ w) (b:fY):At E f0 n0 w0 (IF f σ.nodes.length w.heap.size) (σ.add (.el {name:=b,gO:=[],je:=none,kids:=[]})) (w.alloc (gz #[gu b,ji,.pointer none,ji] 135)):=by
 obtain⟨L,rfl,d⟩:=h.rel;exact h.go ⟨_,rfl,d.CJ b⟩ (RP _ _ _) (by simp[Ab.add]) (.gN ((Kept.refl _ _).alloc _))
def At.nC (h:At E f0 n0 w0 f σ w) (d:σ.fresh=true) (b:fY):At E f0 n0 w0 (IF f σ.nodes.length w.heap.size) (σ.pN (.el {name:=b,gO:=E.ta,je:=none,kids:=[]}) false) (w.alloc (gz #[gu b,E.tv,.pointer none,ji] 135)):=by
 obtain⟨L,rfl,e⟩:=h.rel;exact h.go ⟨_,rfl,e.nC d b⟩ (RP _ _ _) (by simp[Ab.pN]) (.gN ((Kept.refl _ _).alloc _))
end
def iy (E:Env) (t:gy):gG:=match t.k with
 | .kg s=> .iface 183 (.agg #[fV t.a,fV t.b,gu s])
 | .start n=> .iface 191 (.agg #[fV t.a,fV t.b,gu n,E.tv])
 | .stop n=> .iface 192 (.agg #[fV t.a,fV t.b,gu n,E.tv])
 | .gM s=> .iface 193 (.agg #[fV t.a,fV t.b,gu s])
 | .iE n q=> .iface 195 (.agg #[fV t.a,fV t.b,gu n,.bool q])
 | .lost=> .iface 185 (.agg #[fV t.a,fV t.b])
 | .ie=> .iface 181 (.agg #[fV t.a,fV t.b])
def jd (E:Env) (t:gy):Prop:=t.pT=true->t.gO=E.ta
def ri {X : TypeId} {b:Array Field} (d:prog.underlying X=some (.struct b)) (v:gG) (e:TypeId) (w:gm):(Instr.typeAssert (.iface X v) e X true).run prog w= .ok (.tuple #[v,.bool true]) w:=by
 simp[Instr.typeAssert,qq d]
def LA {X : TypeId} {e:Array Field} {z : gG} (g:prog.underlying X=some (.struct e)) (d:(prog.info? X).bind (·.zero)=some z) (b:T≠X) (v:gG) (j:TypeId) (w:gm):(Instr.typeAssert (.iface T v) j X true).run prog w= .ok (.tuple #[z,.bool false]) w:=by
 have⟨i,hi,d⟩:=Option.bind_eq_some_iff.1 d;simp[Instr.typeAssert,qq g,b,zeroValue,typeInfo,hi,d]
def vZ (T:TypeId) (h:T≠183) (v:gG) (b:TypeId) (w:gm):(Instr.typeAssert (.iface T v) b 183 true).run prog w= .ok (.tuple #[.agg #[fV 0,fV 0,gu jB],.bool false]) w:=LA underlying183 (by kernel_rfl) h v b w
def tM (T:TypeId) (h:T≠193) (v:gG) (b:TypeId) (w:gm):(Instr.typeAssert (.iface T v) b 193 true).run prog w= .ok (.tuple #[.agg #[fV 0,fV 0,gu jB],.bool false]) w:=LA underlying193 (by kernel_rfl) h v b w
def qV (T:TypeId) (h:T≠191) (v:gG) (b:TypeId) (w:gm):(Instr.typeAssert (.iface T v) b 191 true).run prog w= .ok (.tuple #[.agg #[fV 0,fV 0,gu jB,ji],.bool false]) w:=LA underlying191 (by kernel_rfl) h v b w
def yZ (T:TypeId) (h:T≠192) (v:gG) (b:TypeId) (w:gm):(Instr.typeAssert (.iface T v) b 192 true).run prog w= .ok (.tuple #[.agg #[fV 0,fV 0,gu jB,ji],.bool false]) w:=LA underlying192 (by kernel_rfl) h v b w
def xe (T:TypeId) (h:T≠195) (v:gG) (b:TypeId) (w:gm):(Instr.typeAssert (.iface T v) b 195 true).run prog w= .ok (.tuple #[.agg #[fV 0,fV 0,gu jB,.bool false],.bool false]) w:=LA underlying195 (by kernel_rfl) h v b w
def ahX (T:TypeId) (h:T≠185) (v:gG) (b:TypeId) (w:gm):(Instr.typeAssert (.iface T v) b 185 true).run prog w= .ok (.tuple #[.agg #[fV 0,fV 0],.bool false]) w:=LA underlying185 (by kernel_rfl) h v b w
def Ae (E:Env) (t:gy):jA:=match t.k with
 | .start n=>#[fV t.a,fV t.b,gu n,E.tv]
 | .stop n=>#[fV t.a,fV t.b,gu n,E.tv]
 |_=>#[fV 0,fV 0,gu jB,ji]
def zv (E:Env) (t:gy) (w:gm):
  Calls prog 85 #[iy E t] w λe w'=>e=ig (gu t.chars)/\Kept [] w w':=by
 obtain⟨a,b,k,gx⟩:=t;have d:=ri underlying183;have g:=vZ;cases k
 all_goals
  simp only[iy,gy.chars];go_enter func85,ntmps85;go_wp2;go_ret;exact⟨rfl,(Kept.refl _ _).alloc _⟩
def zh (E:Env) (t:gy) (w:gm) (l:∃d n g,E.tv= .slice d n g):
  Calls prog 168 #[iy E t] w λe w'=>e=ig (.agg (Ae E t))/\Kept [] w w':=by
 have⟨a,b,k,gx⟩:=t;obtain⟨d,n,g,j⟩:=l;have u:=ri underlying191;have z:=ri underlying192;have A:=qV;have B:=yZ;cases k
 all_goals
  simp only[iy,Ae,j];go_enter func168,ntmps168;go_wp2
  first
  |refine ou (v:= .agg #[fV 0,fV 0,gu jB,ji]) ?_ rfl ⟨rfl,(Kept.refl _ _).alloc _⟩
  |refine ou (v:= .agg #[fV a,fV b,gu _,.slice d n g]) ?_ rfl ⟨rfl,((Kept.refl _ _).alloc _).alloc _⟩
  simp[results,results168,asAddr,Result.andThen,go_sem]
def Kz (E:Env) (t:gy) (w:gm):
  Calls prog 180 #[iy E t] w λe w'=>e=ig (.bool (uh t.chars))/\Kept [] w w':=by
 have b:=zv E t w;go_enter func180,ntmps180;go_wp21;refine b.mono ?_;rintro e w' ⟨rfl,d⟩;go_wp2;go_ret;refine⟨?_,d⟩;show Ending.returned (.bool (t.chars.toList==[0]))=_;unfold uh kJ;simp
def aaT (c:UInt8):decide (0<=Lib.indexByte [32,9,10,12] c)=mq ⟨#[c]⟩:=by
 unfold mq gZ kJ;simp only[sK,List.any_cons,List.any_nil,Bool.or_false];by_cases b:c=32
 .subst b;rfl
 by_cases d:c=9
 .subst d;rfl
 by_cases e:c=10
 .subst e;rfl
 by_cases g:c=12
 .subst g;rfl
 simp[Lib.indexByte,b,d,e,g,List.findIdx_cons,wB]
theorem Kv (s:fY) (w:gm):
  Calls prog 288 #[gu s] w λe w'=>e=ig (.bool (mq s))/\Kept [] w w':=by
 by_cases b:s.size=1
 .obtain⟨c,rfl⟩:∃c,s=⟨#[c]⟩:=by
   have⟨d⟩:=s;have l:d.size=1:=b;have⟨c,hc⟩:=Array.size_eq_one_iff.1 l;grind
  have g:=(λw=>Tryz.strings_Contains_one mU c w);have j:=fM (aaT c);go_enter func288,ntmps288;go_wp21;refine(g _).mono ?_;rintro e w' ⟨rfl,rfl⟩;go_wp2;go_ret;exact⟨by rw[<-j.out];rfl,Kept.refl _ _⟩
 .have z:mq s=false:=by
   unfold mq gZ;simp only[List.any_cons,List.any_nil,Bool.or_false];have u:∀c:UInt8,kJ s ⟨#[c]⟩=false:=by
    intro c;rw[Bool.eq_false_iff];intro h;rw[yh]at h;subst h;exact b rfl
   simp[u]
  rw[z];have A:((s.size:Int)==1)=false:=by rw[vk];omega
  go_enter func288,ntmps288;go_wp2;go_ret;exact⟨rfl,Kept.refl _ _⟩
attribute [local go_sem] Oper.semAt_some
def zL {f : iY->iY} (d:∀x y,f x=f y->x=y):∀{xs b:kG},xs.map f=b.map f->xs=b
 |[],[],_=>rfl
 |[],_::_,h=>by simp at h
 |_::_,[],h=>by simp at h
 |x::xs,y::b,h=>by
  simp only[yH,Ub]at h;rw[d x y h.1,zL d h.2]
theorem VE {f : iY->iY} (d:∀x y,f x=f y->x=y) {b ys : kG} (h:b.map f <+:ys.map f):b <+:ys:=by
 have⟨t,ht⟩:=h;have g:b.length<=ys.length:=by have:=si List.length ht;simp at this;omega
 refine⟨ys.drop b.length,?_⟩;have e:b.map f=(ys.take b.length).map f:=by
  rw[List.map_take,<-ht];simp
 rw[zL d e];simp_all
def Jf (o:Oper):Bool:=match o.op with
 | .defer _=>false
 |_=>true
theorem Pz {o:Oper} (h:Jf o=true):∀c,o.op≠ .defer c:=by
 intro c e;unfold Jf at h;grind
section
variable {n:Nat} {P:Program} {ops:Array Oper} {Q:Exit->Act->gm->Prop} {md:Region.Mode}
def M2 (l:Nat) (u:∀(i:Nat) o,ops[i]?=some o->Jf o=true):∀d b a w,wpAnyIn Fence.wide n P md ops Q d b a w->wpAnyIn (Fence.wide.inRound l) n P md ops Q d b a w:=by
 intro d
 induction d with
 |zero=>exact λb a w h=>h
 |succ d ih=>
  intro b a w h;refine⟨h.1,λi z=>?_⟩;have e:=h.2 i z;unfold wpOpIn at e|-;cases ho:ops[i]? with
  |none=>rw[ho]at e;exact ih _ _ _ e
  |some o=>
   rw[ho]at e;simp only at e|-;split
   .rename_i hw;rw[gv hw]at e;have g:=Oper.wpIn_mono (K':=wpAnyIn (Fence.wide.inRound l) n P md ops Q d (b.setIfInBounds i true)) (λa w h=>ih _ a w h) e;refine⟨g.1,?_⟩;have j:=g.2;have e1:o.semAt (Fence.wide.inRound l).round a.eval=execOp a.eval o:=GK l a.eval o (Pz (u i o ho));have e2:o.semAt Fence.wide.round a.eval=execOp a.eval o:=by
     show o.semAt none a.eval=_;unfold Oper.semAt;cases o.op<;>rfl
    rw[e1]
    rwa [e2]at j
   .rename_i hw;rw[gH hw]at e;exact⟨e.1,ih _ _ _ e.2⟩
theorem Bk {id:Nat} {a:Act} {w:gm} {l:List Oper} (L:Nat) (g:P.follows .mixedOrders=true) (d:Region.lexB .any l.toArray=true) (j:l.all Jf=true)
  (h:wpQuietIn Fence.wide n P l.toArray (λw'=>∃n,w'=w.drewN n) (λb=>∀w',(∃n,w'=w.drewN n)->Q .normal b w') l a):(Code.region id l.toArray true).wpIn (Fence.wide.inRound L) n P Q a w:=by
 simp only[Region.lexB,pW]at d;refine wpIn_region_any g (M2 L ?_ _ _ _ _ (wpAnyIn_of_quiet (C:=λw'=>∃n,w'=w.drewN n) (Q:=λb=>∀w',(∃n,w'=w.drewN n)->Q .normal b w') rfl (λ_ w' e h=>h w' e) _ _ _ _ ⟨1,rfl⟩ ?_))
 .grind
 .have:=wpAnyQIn_lex (F:=Fence.wide) (n:=n) (C:=λw'=>∃n,w'=w.drewN n) (md:= .any) d.1 l.toArray.toList 0 (Array.replicate l.toArray.size false) a (by simp) (by simpa using d.2) (by simpa using h)
  simpa using this
end
attribute [local go_sem] Oper.semAt_some
def af6 (T e:List Nat) (I:kG->gm->Prop) (d:Code->kG->gm->Prop) (b:kG) (W:gm):Exit->Act->gm->Prop
 | .normal,_,W'=>Kept T W W'/\I b W'
 | .ret,_,W'=>Kept e W W'/\d .ret b W'
 | .exit id,_,W'=>Kept e W W'/\d (.exit id) b W'
 | .goto t,_,W'=>Kept e W W'/\d (.goto t) b W'
 | .panic _,_,_=>False
 | .outgrown,_,_=>False
theorem FJ {n:Nat} (hn:3<=n) {base b j:Nat} {tB:TypeId} {C:jA} {v:gG} {f:iY->iY} (hf:∀x y,f x=f y->x=y) {ys:kG} {w1:gm} (hL:yb base b j tB C v (ys.map f) w1)
  {g:Operand} {p:Tmp} {G a0:Code} {Q:Exit->Act->gm->Prop} {a:Act} (hg:a.eval g=vO w1.heap.size)
  (T Tx:List Nat) (hT:∀k∈T,k < w1.heap.size/\k≠b/\v.ownBlock≠some k) (af:∀k∈Tx,k < w1.heap.size)
  (I:kG->gm->Prop) (Ix:Code->kG->gm->Prop)
  (hI:OwnFrom (w1.heap.size+2) I) (a7:∀c,OwnFrom (w1.heap.size+2) (Ix c)) (h0:I [] (mP b j ys.length w1)) (S:iY->Act)
  (V:∀(l:Nat) (x:iY) (W:gm) (K:Act->gm->Prop),K (S x) W->
   G.wpIn (Fence.wide.inRound l) (n - 1 - 1) prog (Exit.then K (λ_ _ _=>False)) {tmps:=a.tmps.setIfInBounds p (ku x),defers:=[]} W)
  (a2:∀(l:Nat) (pre:kG) (y:iY) (W:gm),y∈ys->I pre W->a0.wpIn (Fence.wide.inRound l) (n - 1 - 1) prog (af6 T Tx I Ix (pre++[y]) W) (S (f y)) W)
  (ab:∀(D:Nat) (W:gm),w1.heap.size+2<=D->I ys.reverse W->W.heap[D]?=some (.deferred (some []))->Q .normal {a with defers:={target:= .collected D,args:=#[]}::a.defers} W)
  (a4:∀(D:Nat) (c:Code) (pre:kG) (W:gm),w1.heap.size+2<=D->pre <+:ys.reverse->Ix c pre W->W.heap[D]?=some (.deferred (some []))->c.wpIn Fence.wide n prog Q {a with defers:={target:= .collected D,args:=#[]}::a.defers} W):
  (Code.rangeFunc g #[p] G a0).wpIn Fence.wide n prog Q a (mP b j ys.length w1):=by
 have z:(mP b j ys.length w1).heap.size=w1.heap.size+2:=by simp
 have aa:=iQ hL.iw;have ac:Kept [] w1 (mP b j ys.length w1):=((Kept.refl _ _).alloc _).alloc _;have a9:yb base b j tB C v (ys.map f) (mP b j ys.length w1):=hL.Gi (kL.jL (K:=b::v.ownBlock.toList) ac (λk d=>⟨by
  rcases List.mem_cons.1 d with rfl|d
  .exact aa
  .exact(hL.row.lt k (by simpa using d)).2,by simp⟩)) (by simp) (λk d=>by simp[d])
 have⟨b0,b1⟩:=(⟨(Below.heap_alloc _ _ _ (by simp)).trans (fP w1 _),by
   have:=fP (w1.alloc (gz #[jG b j] 274)) (gz #[fV ys.length] 3);simp_all⟩:(mP b j ys.length w1).heap[w1.heap.size]?=some (gz #[jG b j] 274)/\(mP b j ys.length w1).heap[w1.heap.size+1]?=some (gz #[fV ys.length] 3))
 obtain⟨K,hK⟩:∃K,K=b::w1.heap.size::v.ownBlock.toList:=⟨_,rfl⟩;have a5:∀k∈K,k < w1.heap.size+2:=by
  intro k d;rw[hK]at d;rcases List.mem_cons.1 d with rfl|d
  .omega
  .rcases List.mem_cons.1 d with rfl|d
   .omega
   .have:=(hL.row.lt k (by simpa using d)).2;omega
 have a8:∀k∈K,k∉T:=by
  intro k d a3;have⟨t1,t2,t3⟩:=hT k a3;rw[hK]at d;rcases List.mem_cons.1 d with rfl|d
  .omega
  .grind
 have ad:=TU (n - 1) (by omega) base b j tB C v (ys.map f) ys.length w1.heap.size K _ a9 (by simp) (by rw[hK];simp) (by rw[hK];simp) (by grind) (by simp) b1 b0;have ae:∀{α:Type} {W R:gm} {X:iY} {B:Nat},B<=W.heap.size->W.grownBy R X->B<=R.heap.size:=λJ N=>jH J N.size;refine wpIn_rangeFunc_ownG rfl (by omega) (gf:=348) hg trivial (Go.Proofs.enters_of func348 (by rfl) rfl) ad kL.trans (λW l o o' hl J N h3=>kL.put (w:=mP b j ys.length w1) (by rw[z];omega) W l o o' hl J N h3) (Below.refl _ _) (λ_=>rfl)
  (λpre W=>w1.heap.size+2<=W.heap.size/\∃u,pre.map (·.1)=u.map f/\I u W) (λc pre W=>∃u,pre.map (·.1)=u.map f/\Ix c u W) ?_ ?_ ?_ (λx=>S x.1) ?_ ?_ ?_ ?_
 .rintro s A B X ⟨hs,u,J,N⟩ Z hr;rw[z]at hr;exact⟨jH hs Z.size,u,J,hI u A B X N Z hr⟩
 .rintro c s A B X ⟨u,J,N⟩ Z hr;rw[z]at hr;exact⟨u,J,a7 c u A B X N Z hr⟩
 .grind
 .intro l x W K' Y;have:=V l x.1 W K' Y;have e:(#[p].zip #[ku x.1]).foldl (λt (p,v)=>t.setIfInBounds p v) a.tmps=a.tmps.setIfInBounds p (ku x.1):=by simp
  rw[e];exact this
 .rintro l pre ⟨x,hx⟩ W ⟨hs,u,J,N⟩ _;obtain⟨y,hy,rfl⟩:=List.mem_map.1 hx;refine Db (a2 l u y W hy N) ?_;have a6:∀{R:gm},Kept T W R->KeepsFrom (mP b j ys.length w1).heap.size W R:=by
   intro R d;refine⟨d.size,λk o a1 ho _=>?_⟩;rw[z]at a1;rw[d.block k (Array.getElem?_eq_some_iff.1 ho).1 (λa3=>by grind)];exact ho
  have F:∀{R:gm},Kept Tx W R->KeepsFrom (mP b j ys.length w1).heap.size W R:=by
   intro R d;refine⟨d.size,λk o a1 ho _=>?_⟩;rw[z]at a1;rw[d.block k (Array.getElem?_eq_some_iff.1 ho).1 (λa3=>by grind)];exact ho
  have H:(pre++[(⟨f y,hx⟩:{x:iY // x∈ys.map f})]).map (·.1)=(u++[y]).map f:=by rw[se,J];simp
  intro e a' R O;cases e with
  |normal=>exact⟨a6 O.1,kL.jL O.1 (λk d=>⟨lU (a5 k d) hs,a8 k d⟩),jH hs O.1.size,_,H,O.2⟩
  |ret=>exact⟨F O.1,_,H,O.2⟩
  |exit id=>exact⟨F O.1,_,H,O.2⟩
  |goto t=>exact⟨F O.1,_,H,O.2⟩
  |panic _=>exact O
  |outgrown=>exact O
 .rintro D xs W hD hS ⟨_,u,J,N⟩ Y;rw[z]at hD;have U:xs.map (·.1)=((ys.map f).take ys.length).reverse:=hS;rw[J,BG (by simp),<-nL]at U;rw[zL hf U]at N;grind
 .rintro D c pre W hD hS ⟨u,J,N⟩ Y;rw[z]at hD;have U:pre.map (·.1) <+:((ys.map f).take ys.length).reverse:=hS;rw[J,BG (by simp),<-nL]at U;exact a4 D c u W hD (VE hf U) N Y
def X8:=λ{n:Nat} (F:3<=n) {e b j G C v} {f:iY->iY} A {I H} z {g p d l Q a} B T u=>@FJ n F e b j G C v f A I H z g p d l Q a B T T u (λk D=>(u k D).1)
attribute [local go_sem] Oper.semAt_some
def Lq {σ:Ab}:∀{xs:kG},(∀y∈xs,p (σ.rL y)=false/\q (σ.rL y)=false)->σ.yz p q xs=false
 |[],_=>rfl
 |x::xs,h=>by
  unfold Ab.yz;have⟨h1,h2⟩:=h x (by simp);rw[h1,h2];exact Lq λy b=>h y (by simp[b])
theorem Lr {σ:Ab} {r : Bool} (b:(p (σ.rL y)=true/\r=true)\/(p (σ.rL y)=false/\q (σ.rL y)=true/\r=false)):∀{xs:kG},(∀y∈xs,p (σ.rL y)=false/\q (σ.rL y)=false)->σ.yz p q (xs++[y]++rest)=r
 |[],_=>by
  grind[Ab.yz]
 |x::xs,h=>by
  show σ.yz p q (x::(xs++[y]++rest))=r;unfold Ab.yz;have⟨h1,h2⟩:=h x (by simp);rw[h1,h2];exact Lr b λy d=>h y (by simp[d])
theorem Kept.take (h:Kept [] w W) {D : Nat} (b:w.heap.size<=D) (o:Obj):Kept [] w (W.putObj D o):=h.grown (BJ W D o) (λk e=>by grind)
theorem kQ {A B : gm} {b : iY} {o : Obj} (h:A.heap[k]?=some o) (d:A.grownBy B b) (j:∀r,b=some r->n<=r/\∃o:Obj,A.heap[r]?=some o/\o.isCells=false) (g:k < n):B.heap[k]?=some o:=by
 rw[d.block k (Array.getElem?_eq_some_iff.1 h).1 (λe=>by grind)];exact h
theorem mx {A B : gm} {b : iY} (h:Kept [] w A) (d:A.grownBy B b) (j:∀r,b=some r->n<=r/\∃o:Obj,A.heap[r]?=some o/\o.isCells=false) (g:w.heap.size<=n):Kept [] w B:=h.grown d (λk e=> .inr (by grind))
theorem wX {σ:Ab} (h:RF E f σ w) (p q:fY->Bool) (vs vb:gG) (hs:Ask E.bm vs p w) (hb:Ask E.bm vb q w):
  Calls prog 229 #[Bp E,vs,vb] w λe w'=>e=ig (.bool (σ.inScope p q))/\Kept [] w w':=by
 obtain⟨L,rfl,u⟩:=h;obtain⟨U,d,rfl,a6,H1⟩:=hs.call;obtain⟨Z,z,rfl,a7,H2⟩:=hb.call;refine(BI (n:=3)).1 ?_;refine BK func229 rfl trivial ?_ rfl;simp only[ntmps229,xQ,rn,uI,Nat.reduceAdd,Nat.reduceSub,xR,xS,xU,xV,rp,tU];obtain⟨I,F⟩:∃I,I=((w.alloc (gz #[.func (.func U) #[] d] 84)).alloc (gz #[.func (.func Z) #[] z] 84)).alloc (gz #[.bool false] 4):=⟨_,rfl⟩;have a1:Kept [] w I:=by rw[F];exact(((Kept.refl _ _).alloc _).alloc _).alloc _
 have⟨b0,b1,b2⟩:=oS w (gz #[.func (.func U) #[] d] 84) (gz #[.func (.func Z) #[] z] 84) (gz #[.bool false] 4);rw[<-F]at b0 b1 b2;have b:I.heap.size=w.heap.size+1+1+1:=by rw[F];simp
 have a3:=u.ib a1;have⟨C,HL,hC⟩:=a3.zJ;have a8:=u.lt;have HU:=Zn E.bs E.bB 188 _ C _ _ I HL;have HO:=(λg (R:L.ov.ownBlock=some g)=>DL u.pR R);have HN:=fM (λ(W:gm) (H:Kept [] w W) (i:Nat) (e:yp) (hi:σ.gV i=some e)=>(u.ib H).we hi);have HS:=(λ(y:iY) (G:y∈σ.gq)=>u.oM G);have HI:=fM u.inj;clear u a3 hC hs hb
 gi_wp2_with (refine⟨trivial,?_⟩;gi_at_call 285;rw[<-F];refine(callsIn_wide.2 HU).mono ?_;rintro e w' ⟨rfl,rfl⟩)
 rw[<-b,<-F];have HZ:=fM b;clear b F;refine X8 (by omega) (f:=ir L.gI) (λx y e=>sE HI.out e) HL rfl [w.heap.size+1+1] ?_
  (λpre W=>Kept [] w W/\W.heap[w.heap.size]?=some (gz #[.func (.func U) #[] d] 84)/\W.heap[w.heap.size+1]?=some (gz #[.func (.func Z) #[] z] 84)/\W.heap[w.heap.size+1+1]?=some (gz #[.bool false] 4)/\∀y∈pre,p (σ.rL y)=false/\q (σ.rL y)=false)
  (λc pre W=>c= .ret/\Kept [] w W/\∃j y r,pre=j++[y]/\(∀y∈j,p (σ.rL y)=false/\q (σ.rL y)=false)/\((p (σ.rL y)=true/\r=true)\/(p (σ.rL y)=false/\q (σ.rL y)=true/\r=false))/\W.heap[w.heap.size+1+1]?=some (gz #[.bool r] 4))
  ?_ ?_ ?_ (λx=>{tmps:=#[Bp E,.func (.func U) #[] d,.func (.func Z) #[] z,undef,gE w.heap.size,gE (w.heap.size+1),gE (w.heap.size+1+1),ku x,Bp E,gE E.bB,jG E.bB 188,vO I.heap.size,ku x,undef,undef,undef,undef,undef,undef,undef,undef,undef,undef,undef,undef,undef,undef],defers:=[]}) ?assign ?body ?done ?stop
 .grind
 .rintro s A B a5 ⟨h1,h2,S,N,O⟩ R u;have b:=HZ.out;exact⟨mx h1 R u (by omega),kQ h2 R u (by omega),kQ S R u (by omega),kQ N R u (by omega),O⟩
 .rintro c s A B a5 ⟨h0,h1,j,y,r,h2,S,N,O⟩ R u;have b:=HZ.out;exact⟨h0,mx h1 R u (by omega),j,y,r,h2,S,N,kQ O R u (by omega)⟩
 .have H:Kept [] I (mP E.bB 188 (σ.gq.length) I):=((Kept.refl _ _).alloc _).alloc _;exact⟨a1.trans H,H.at b0 (by simp),H.at b1 (by simp),H.at b2 (by simp),by simp⟩
 case assign=>
  intro l x W K hK;gi_wp2;exact hK
 case body=>
  rintro l pre y W G ⟨J,B2,B3,B4,B5⟩;obtain⟨i,e0,rfl,hi⟩:=HS y G;have c0:=HN.out W J i e0 hi;have c1:=fN B2 0;have c2:=fN B3 0;have V:=fN B4 0;have f3:=gh B4 0;dsimp at c1 c2 V;have HA:=(λW' (H:Kept [] w W')=>H1 W' (.gN H) (σ.nm i));have HB:=(λW' (H:Kept [] w W')=>H2 W' (.gN H) (σ.nm i));have HW:=J.drew;have HT:Hid (∀(r:Bool),Kept [w.heap.size+1+1] W ((W.drew).setCell ⟨w.heap.size+1+1,0,none⟩ (.bool r))/\Kept [] w ((W.drew).setCell ⟨w.heap.size+1+1,0,none⟩ (.bool r))/\((W.drew).setCell ⟨w.heap.size+1+1,0,none⟩ (.bool r)).heap[w.heap.size+1+1]?=some (gz #[.bool r] 4)):=λr=>⟨((Kept.refl _ W).drew).setCell (.inl (by simp)) _,J.drew.setCell (.inr (by simp;omega)) _,fR (show W.drew.heap[w.heap.size+1+1]?=_ from B4) 0 _⟩;have a4:Hid (∀(r:Bool),Kept [w.heap.size+1+1] W ((W.drew.drew).setCell ⟨w.heap.size+1+1,0,none⟩ (.bool r))/\Kept [] w ((W.drew.drew).setCell ⟨w.heap.size+1+1,0,none⟩ (.bool r))/\((W.drew.drew).setCell ⟨w.heap.size+1+1,0,none⟩ (.bool r)).heap[w.heap.size+1+1]?=some (gz #[.bool r] 4)):=λr=>⟨((Kept.refl _ W).drew.drew).setCell (.inl (by simp)) _,J.drew.drew.setCell (.inr (by simp;omega)) _,fR (show W.drew.drew.heap[w.heap.size+1+1]?=_ from B4) 0 _⟩;have HN:Hid (Kept [w.heap.size+1+1] W W.drew.drew):=(Kept.refl _ W).drew.drew
  try dsimp only
  rw[show ku (ir L.gI (some i))=gE (L.gI i)from rfl];have a9:prog.follows .mixedOrders=true:=rfl;gi_wp2;refine Db (Q:=λe a' w'=>e=Exit.normal/\a'=({tmps:=#[Bp E,.func (.func U) #[] d,.func (.func Z) #[] z,undef,gE w.heap.size,gE (w.heap.size+1),gE (w.heap.size+1+1),gE (L.gI i),Bp E,gE E.bB,jG E.bB 188,vO I.heap.size,gE (L.gI i),.bool (p (σ.nm i)),.func (.func U) #[] d,gE (L.gI i),gE (L.gI i),gE (L.gI i),gu (σ.nm i),.bool (p (σ.nm i)),undef,undef,undef,undef,undef,undef,undef],defers:=[]}:Act)/\w'=W.drew) ?_ ?_
  .gi_region_with_o (refine⟨trivial,?_⟩;refine(LO l (callsIn_wide.2 (HA _ HW))).mono ?_;rintro e w' ⟨rfl,rfl⟩)
   all_goals simp
  rintro e a' w' ⟨rfl,rfl,rfl⟩;cases hp:p (σ.nm i)with
  |true=>
   gi_wp2;have⟨t1,t2,t3⟩:=HT.out true;exact⟨t1,rfl,t2,pre,some i,true,rfl,B5,.inl ⟨hp,rfl⟩,t3⟩
  |false=>
   have HP:=hp;clear hp;gi_wp2;refine Db (Q:=λe a' w'=>e=Exit.normal/\a'=({tmps:=#[Bp E,.func (.func U) #[] d,.func (.func Z) #[] z,undef,gE w.heap.size,gE (w.heap.size+1),gE (w.heap.size+1+1),gE (L.gI i),Bp E,gE E.bB,jG E.bB 188,vO I.heap.size,gE (L.gI i),.bool false,.func (.func U) #[] d,gE (L.gI i),gE (L.gI i),gE (L.gI i),gu (σ.nm i),.bool false,.bool (q (σ.nm i)),.func (.func Z) #[] z,gE (L.gI i),gE (L.gI i),gE (L.gI i),gu (σ.nm i),.bool (q (σ.nm i))],defers:=[]}:Act)/\w'=W.drew.drew) ?_ ?_
   .gi_region_with_o (refine⟨trivial,?_⟩;refine(LO l (callsIn_wide.2 (HB _ HW.drew))).mono ?_;rintro e w' ⟨rfl,rfl⟩)
    all_goals simp
   rintro e a' w' ⟨rfl,rfl,rfl⟩;cases hq:q (σ.nm i)with
   |true=>
    gi_wp2;have⟨t1,t2,t3⟩:=a4.out false;exact⟨t1,rfl,t2,pre,some i,false,rfl,B5,.inr ⟨HP,hq,rfl⟩,t3⟩
   |false=>
    have HQ:=hq;clear hq;gi_wp2;refine⟨HN.out,J.drew.drew,B2,B3,B4,λy G=>?_⟩;rcases List.mem_append.1 G with G|G
    .exact B5 y G
    .rw[List.mem_singleton.1 G];exact⟨HP,HQ⟩
 case done=>
  rintro D W HD ⟨J,h2,S,N,O⟩ hK;have b:=HZ.out;have V:=fN N 0;have f3:=gh N 0;dsimp at V;have Y:σ.inScope p q=false:=Lq (λy G=>O y G);clear h2 S b O;gi_wp2;have a0:=(Yg W ⟨w.heap.size+1+1,0,none⟩ (.bool false)).same D _ hK rfl;refine⟨by simp,.inl ⟨_,_,rfl,sL a0,?_⟩⟩;have X:=cell_kept (World.cell?_setCell_same' W ⟨w.heap.size+1+1,0,none⟩ (.bool false) (by rw[V];rfl)) (BJ _ D (.deferred none)) (λr e=>by cases e;exact⟨_,a0,rfl⟩);refine⟨.bool false,?_,⟨by rw[Y],?_⟩⟩
  .simp[results,results229,go_sem,X]
  .have b:=HZ.out;have hD:=HD;exact(J.setCell (.inr (by simp;omega)) _).take (by omega) _
 case stop=>
  rintro D c pre W HD a2 ⟨rfl,J,j,y,r,rfl,S,N,O⟩ hK;have⟨rest,hrest⟩:=a2;have Y:σ.inScope p q=r:=by unfold Ab.inScope;rw[<-hrest];exact Lr N S
  have V:=fN O 0;dsimp at V;clear S N O hrest;gi_wp2;refine⟨by simp,.inl ⟨_,_,rfl,sL hK,?_⟩⟩;have X:=cell_kept V (BJ _ D (.deferred none)) (λr e=>by cases e;exact⟨_,hK,rfl⟩);refine⟨.bool r,?_,⟨by rw[Y],?_⟩⟩
  .simp[results,results229,go_sem,X]
  .have b:=HZ.out;have hD:=HD;exact J.take (by omega) _
section
attribute [local go_sem] Oper.semAt_some
def qI (f:FuncId):Fence.wide.fn f=True:=rfl
attribute [local go_sem] qI
attribute [local simp] qI
def EM {σ:Ab}:∀{xs:kG},(∀y∈xs,y≠some it/\iJ (σ.rL y)=false)->σ.oJ it xs=false
 |[],_=>rfl
 |x::xs,h=>by
  unfold Ab.oJ;have⟨h1,h2⟩:=h x (by simp);rw[gH h1,h2];exact EM λy b=>h y (by simp[b])
theorem EP {σ:Ab} {r : Bool} (b:(y=some it/\r=true)\/(y≠some it/\iJ (σ.rL y)=true/\r=false)):∀{xs:kG},(∀y∈xs,y≠some it/\iJ (σ.rL y)=false)->σ.oJ it (xs++[y]++rest)=r
 |[],_=>by
  grind[Ab.oJ]
 |x::xs,h=>by
  show σ.oJ it (x::(xs++[y]++rest))=r;unfold Ab.oJ;have⟨h1,h2⟩:=h x (by simp);rw[gH h1,h2];exact EP b λy d=>h y (by simp[d])
theorem Hs {σ:Ab} (h:RF E f σ w) (it:Nat) (a6:σ.gR (some it)=true):
  Calls prog 278 #[Bp E,nV f it] w λe w'=>e=ig (.bool (σ.pz it))/\Kept [] w w':=by
 obtain⟨L,rfl,j⟩:=h;have⟨fb,ab,lb0,cb,hb⟩:=j.bounds;have⟨kb,lbb,eb,heb,H2⟩:=hb.call;cases eb;refine(BI (n:=3)).1 ?_;refine BK func278 rfl trivial ?_ rfl;simp only[ntmps278,xQ,rn,uI,Nat.reduceAdd,Nat.reduceSub,xR,xS,xU,xV,rp,tU];obtain⟨J,F⟩:∃J,J=((w.alloc (gz #[Bp E] 116)).alloc (gz #[gE (L.gI it)] 65)).alloc (gz #[.bool false] 4):=⟨_,rfl⟩;have a2:Kept [] w J:=by rw[F];exact(((Kept.refl _ _).alloc _).alloc _).alloc _
 have⟨b0,b1,b2⟩:=oS w (gz #[Bp E] 116) (gz #[gE (L.gI it)] 65) (gz #[.bool false] 4);rw[<-F]at b0 b1 b2;have b:J.heap.size=w.heap.size+1+1+1:=by rw[F];simp
 have a9:=j.ib a2;have⟨C,HL,hC⟩:=a9.zJ;have a7:=j.lt;have HU:=Zn E.bs E.bB 188 _ C _ _ J HL;have a4:=(λ(W:gm) (z:Kept [] w W)=>(z.cell (p:=⟨E.bB,186,none⟩) a7 (by simp)).trans cb);have HO:=(λg (H:L.ov.ownBlock=some g)=>DL j.pR H);have HN:=(λ(W:gm) (z:Kept [] w W) (i:Nat) (e:yp) (hi:σ.gV i=some e)=>(j.ib z).we hi);have HS:=(λ(y:iY) (G:y∈σ.gq)=>j.oM G);have HI:=j.inj;have HE:=(λ(W:gm) (z:Kept [] w W) (x:iY) (hx:σ.gR x=true)=>(j.ib z).gR hx);have HZ:=fM b;have HW:=fM F;clear b F
 gi_wp2_with fail
 rw[<-HW.out];refine(callsIn_wide.2 HU).mono ?_;rintro e w' ⟨rfl,rfl⟩;gi_wp2;refine X8 (by omega) (f:=ir L.gI) (λx y e=>sE HI e) HL rfl [w.heap.size+1+1] ?_
  (λpre W=>Kept [] w W/\W.heap[w.heap.size]?=some (gz #[Bp E] 116)/\W.heap[w.heap.size+1]?=some (gz #[gE (L.gI it)] 65)/\W.heap[w.heap.size+1+1]?=some (gz #[.bool false] 4)/\∀y∈pre,y≠some it/\iJ (σ.rL y)=false)
  (λc pre W=>c= .ret/\Kept [] w W/\∃d y r,pre=d++[y]/\(∀y∈d,y≠some it/\iJ (σ.rL y)=false)/\((y=some it/\r=true)\/(y≠some it/\iJ (σ.rL y)=true/\r=false))/\W.heap[w.heap.size+1+1]?=some (gz #[.bool r] 4))
  ?_ ?_ ?_ (λx=>{tmps:=#[Bp E,gE (L.gI it),gE w.heap.size,gE (w.heap.size+1),gE (w.heap.size+1+1),ku x,Bp E,gE E.bB,jG E.bB 188,vO J.heap.size,ku x,undef,undef,undef,undef,undef,undef,undef,undef,undef,undef,undef,undef,undef,undef],defers:=[]}) ?assign ?body ?done ?stop
 .grind
 .rintro s A B ac ⟨h1,h2,X,I,O⟩ H j;have b:=HZ.out;exact⟨mx h1 H j (by omega),kQ h2 H j (by omega),kQ X H j (by omega),kQ I H j (by omega),O⟩
 .rintro c s A B ac ⟨h0,h1,d,y,r,h2,X,I,O⟩ H j;have b:=HZ.out;exact⟨h0,mx h1 H j (by omega),d,y,r,h2,X,I,kQ O H j (by omega)⟩
 .have z:Kept [] J (mP E.bB 188 (σ.gq.length) J):=((Kept.refl _ _).alloc _).alloc _;exact⟨a2.trans z,z.at b0 (by simp),z.at b1 (by simp),z.at b2 (by simp),by simp⟩
 case assign=>
  intro l x W K Y;gi_wp2;exact Y
 case body=>
  rintro l pre y W G ⟨u,B2,B3,Z,B5⟩;obtain⟨i,e0,rfl,hi⟩:=HS y G;have c0:=HN W u i e0 hi;have cB:=a4 W u;have c1:=fN B2 0;have c2:=fN B3 0;have N:=fN Z 0;have f3:=gh Z 0;dsimp at c1 c2 N;have HB:=(λW' (z:Kept [] w W')=>H2 W' (.gN z) (σ.nm i));have HT:Hid (∀(q:Nat) (r:Bool),Kept [w.heap.size+1+1] W ((W.drewN q).setCell ⟨w.heap.size+1+1,0,none⟩ (.bool r))/\Kept [] w ((W.drewN q).setCell ⟨w.heap.size+1+1,0,none⟩ (.bool r))/\((W.drewN q).setCell ⟨w.heap.size+1+1,0,none⟩ (.bool r)).heap[w.heap.size+1+1]?=some (gz #[.bool r] 4)):=λq r=>⟨((Kept.refl _ W).drewN q).setCell (.inl (by simp)) _,(u.drewN q).setCell (.inr (by simp;omega)) _,fR (show(W.drewN q).heap[w.heap.size+1+1]?=_ from Z) 0 _⟩;have a5:Hid (∀(r:Bool),Kept [w.heap.size+1+1] W (W.setCell ⟨w.heap.size+1+1,0,none⟩ (.bool r))/\Kept [] w (W.setCell ⟨w.heap.size+1+1,0,none⟩ (.bool r))/\(W.setCell ⟨w.heap.size+1+1,0,none⟩ (.bool r)).heap[w.heap.size+1+1]?=some (gz #[.bool r] 4)):=λr=>⟨(Kept.refl _ W).setCell (.inl (by simp)) _,u.setCell (.inr (by simp;omega)) _,fR Z 0 _⟩;have S:=Ds (HE W u (some i) (by show(σ.gV i).isSome=true;rw[hi];rfl)) (HE W u (some it) a6);rw[show ptr (ir L.gI (some i))=some ⟨L.gI i,0,none⟩from rfl,show ptr (ir L.gI (some it))=some ⟨L.gI it,0,none⟩from rfl]at S
  try dsimp only
  rw[show ku (ir L.gI (some i))=gE (L.gI i)from rfl];by_cases U:i=it
  .subst U;rw[vQ rfl]at S;gi_wp2;have⟨t1,t2,t3⟩:=a5.out true;exact⟨t1,rfl,t2,pre,some i,true,rfl,B5,.inl ⟨rfl,rfl⟩,t3⟩
  .have a8:L.gI i≠L.gI it:=λe=>U (HI _ _ e);have a0:(some i:iY)≠some it:=λe=>U (jv e);rw[wy (by simpa using a8)]at S;gi_wp2;refine Bk l (by kernel_rfl) (by kernel_rfl) (by rfl) ?_
   repeat (gi_big_quiet_step ((exact callsIn_wide.2 (lD (HB _ (u.drewN _))))))
   refine wpQuietIn_nil ?_;intro _ aa;have⟨nq,hw''⟩:=aa;subst hw'';cases hq:iJ (σ.nm i)with
   |true=>
    gi_wp2;have⟨t1,t2,t3⟩:=HT.out nq false;exact⟨t1,rfl,t2,pre,some i,false,rfl,B5,.inr ⟨a0,hq,rfl⟩,t3⟩
   |false=>
    have HQ:=hq;gi_wp2;refine⟨(Kept.refl _ W).drewN nq,u.drewN nq,B2,B3,Z,λy G=>?_⟩;rcases List.mem_append.1 G with G|G
    .exact B5 y G
    .rw[List.mem_singleton.1 G];exact⟨a0,HQ⟩
 case done=>
  rintro D W HD ⟨u,h2,X,I,O⟩ Y;have b:=HZ.out;have N:=fN I 0;have f3:=gh I 0;dsimp at N;have V:σ.pz it=false:=EM (λy G=>O y G);clear b;gi_wp2;have a1:=(Yg W ⟨w.heap.size+1+1,0,none⟩ (.bool false)).same D _ Y rfl;refine⟨by simp,.inl ⟨_,_,rfl,sL a1,?_⟩⟩;have R:=cell_kept (World.cell?_setCell_same' W ⟨w.heap.size+1+1,0,none⟩ (.bool false) (by rw[N];rfl)) (BJ _ D (.deferred none)) (λr e=>by cases e;exact⟨_,a1,rfl⟩);refine⟨.bool false,?_,⟨by rw[V],?_⟩⟩
  .simp[results,results278,go_sem,R]
  .have b:=HZ.out;have hD:=HD;exact(u.setCell (.inr (by simp;omega)) _).take (by omega) _
 case stop=>
  rintro D c pre W HD a3 ⟨rfl,u,d,y,r,rfl,X,I,O⟩ Y;have⟨rest,hrest⟩:=a3;have V:σ.pz it=r:=by unfold Ab.pz;rw[<-hrest];exact EP I X
  have N:=fN O 0;dsimp at N;gi_wp2;refine⟨by simp,.inl ⟨_,_,rfl,sL Y,?_⟩⟩;have R:=cell_kept N (BJ _ D (.deferred none)) (λr e=>by cases e;exact⟨_,Y,rfl⟩);refine⟨.bool r,?_,⟨by rw[V],?_⟩⟩
  .simp[results,results278,go_sem,R]
  .have b:=HZ.out;have hD:=HD;exact u.take (by omega) _
end
theorem ME (s:fY) (w:gm):Calls prog 286 #[gu s] w λe w'=>e=ig (fV (jO s))/\w'=w:=by
 have b:jO s=if (s.toList==[116,100]||s.toList==[116,104])then 13 else if s.toList==[116,114]then 12 else if (s.toList==[116,98,111,100,121]||(s.toList==[116,104,101,97,100]||s.toList==[116,102,111,111,116]))then 11 else if s.toList==[99,97,112,116,105,111,110]then 9 else if s.toList==[99,111,108,103,114,111,117,112]then 10 else if s.toList==[116,97,98,108,101]then 7 else 6:=by
  unfold jO gZ kJ;simp only[List.any_cons,List.any_nil,Bool.or_false,sK]
 rw[b];go_enter func286,ntmps286;go_wp2
 all_goals go_ret
 all_goals refine⟨?_,rfl⟩
 all_goals simp_all
attribute [local go_sem] Oper.semAt_some
theorem Kept.both {a : gm} (h:Kept [] a w) {b : Nat} {c : jA} {t : TypeId} (A:a.heap[b]?=some (gz c t)) (j:Nat) (v:gG):Kept [] (a.setCell ⟨b,j,none⟩ v) (w.setCell ⟨b,j,none⟩ v):=by
 have g:=(Kept.refl [b] a).setCell (p:=⟨b,j,none⟩) (.inl (by simp)) v;have l:=(Kept.refl [b] w).setCell (p:=⟨b,j,none⟩) (.inl (by simp)) v;have d:(a.setCell ⟨b,j,none⟩ v).heap.size=a.heap.size:=by simp
 have z:(w.setCell ⟨b,j,none⟩ v).heap.size=w.heap.size:=by simp
 refine⟨l.os.trans (h.os.trans g.os.symm),l.tape.trans (h.tape.trans g.tape.symm),l.output.trans (h.output.trans g.output.symm),by rw[d,z];exact h.size,λk e _=>?_⟩;rw[d]at e;by_cases u:k=b
 .subst u;exact(fR (h.at A (by simp)) j v).trans (fR A j v).symm
 .rw[l.block k (lU e h.size) (by grind),g.block k e (by grind),h.block k e (by simp)]
def Li {σ:Ab}:∀{xs:kG},(∀y∈xs,jO (σ.rL y)=6)->ve σ xs=6
 |[],_=>rfl
 |x::xs,h=>by
  unfold ve;rw[gv (h x (by simp))];exact Li λy b=>h y (by simp[b])
theorem Lj {σ:Ab} (b:jO (σ.rL y)≠6):∀{xs:kG},(∀y∈xs,jO (σ.rL y)=6)->ve σ (xs++[y]++rest)=jO (σ.rL y)
 |[],_=>by
  grind[ve]
 |x::xs,h=>by
  show ve σ (x::(xs++[y]++rest))=_;unfold ve;rw[gv (h x (by simp))];exact Lj b λy d=>h y (by simp[d])
theorem XI {σ:Ab} (h:RF E f σ w):
  Calls prog 221 #[Bp E] w (kh E f σ.nodes.length w (xF σ) uV):=by
 obtain⟨L,rfl,j⟩:=h;refine(BI (n:=3)).1 ?_;refine BK func221 rfl trivial ?_ rfl;simp only[ntmps221,xQ,rn,uI,Nat.reduceAdd,Nat.reduceSub,xR,xS,xU,xV,rp,tU];have ab:=j.lt;have cm:=j.sC;have fm:=j.free 192;have a8:=j.jb 6;have a7:Fr E.bs w (w.setCell ⟨E.bB,192,none⟩ (fV ((6:Nat)))):=(At.start ⟨L,rfl,j⟩).Mr 192 _;obtain⟨u,G⟩:∃u,u=(w.setCell ⟨E.bB,192,none⟩ (fV 6)).alloc (gz #[Bp E] 116):=⟨_,rfl⟩;have a0:Kept [] (w.setCell ⟨E.bB,192,none⟩ (fV 6)) u:=by rw[G];exact(Kept.refl _ _).alloc _
 have b0:u.heap[w.heap.size]?=some (gz #[Bp E] 116):=by
  rw[G];have:=fP (w.setCell ⟨E.bB,192,none⟩ (fV 6)) (gz #[Bp E] 116)
  simpa using this
 have J:u.heap.size=w.heap.size+1:=by rw[G];simp
 have d:=a8.ib a0;have⟨C,HL,hC⟩:=d.zJ;have HU:=Zn E.bs E.bB 188 _ C _ _ u HL;have HO:=(λg (hg:L.ov.ownBlock=some g)=>DL j.pR hg);have HN:=(λ(W:gm) (hk:Kept [] u W) (i:Nat) (e:yp) (hi:σ.gV i=some e)=>(show W.cell? ⟨L.gI i,0,none⟩=some (gu (σ.nm i))from(d.ib hk).we (σ:={σ with mode:=6}) hi));have HS:=(λ(y:iY) (I:y∈σ.gq)=>j.oM I);have HI:=j.inj;have HM:=(λ(W:gm) (hk:Kept [] u W)=>(⟨(d.ib hk).sC,(d.ib hk).free 192,(d.ib hk).lt⟩:_/\_/\_));have O:=fM d;have X:=a7.trans (.gN a0);have a3:=HL.iw;have aa:=j.fr.size;clear d;have HZ:=fM J;have HW:=fM G;clear J G
 gi_wp2_with fail
 rw[<-HW.out];refine⟨trivial,(callsIn_wide.2 HU).mono ?_⟩;rintro e w' ⟨rfl,rfl⟩;gi_wp2;refine FJ (by omega) (f:=ir L.gI) (λx y e=>sE HI e) HL rfl [] [E.bB] (by simp) (by grind)
  (λpre W=>Kept [] u W/\∀y∈pre,jO (σ.rL y)=6)
  (λc pre W=>c= .ret/\∃b y,pre=b++[y]/\(∀y∈b,jO (σ.rL y)=6)/\jO (σ.rL y)≠6/\Kept [] (u.setCell ⟨E.bB,192,none⟩ (fV (jO (σ.rL y)))) W)
  ?_ ?_ ?_ (λx=>{tmps:=#[Bp E,gE w.heap.size,ku x,undef,Bp E,gE E.bB,jG E.bB 192,Bp E,gE E.bB,jG E.bB 188,vO u.heap.size,ku x,undef,undef,undef,undef,undef,undef,undef,undef,undef,undef,undef],defers:=[]}) ?assign ?body ?done ?stop
 .rintro s A B a9 ⟨z,H⟩ hg j;exact⟨mx z hg j (by omega),H⟩
 .rintro c s A B a9 ⟨h0,b,y,h2,h3,h4,H⟩ hg j;exact⟨h0,b,y,h2,h3,h4,mx H hg j (by simp)⟩
 .exact⟨((Kept.refl _ _).alloc _).alloc _,by simp⟩
 case assign=>
  intro l x W K Z;gi_wp2;exact Z
 case body=>
  rintro l pre y W I ⟨z,B5⟩;obtain⟨i,e0,rfl,hi⟩:=HS y I;have c0:=HN W z i e0 hi;have c1:=fN (z.at b0 (by simp)) 0;dsimp at c1;have⟨c2,f2,hl2⟩:=HM W z;have HB:=(λW=>ME (σ.nm i) W);have Y:=fM z;have HT:=(λv=>(Kept.refl [E.bB] W).setCell (p:=⟨E.bB,192,none⟩) (.inl (by simp)) v);have a6:=(λv=>z.both a3 192 v);clear z
  try dsimp only
  rw[show ku (ir L.gI (some i))=gE (L.gI i)from rfl];obtain⟨V,R⟩:∃V,V=jO (σ.nm i):=⟨_,rfl⟩;rw[<-R]at HB;have N:Hid (jO (σ.rL (some i))=V):=fM R.symm;clear R
  gi_wp2_with (first|(refine⟨trivial,?_⟩;refine(LO l (callsIn_wide.2 (HB _))).mono ?_;rintro e W ⟨rfl,rfl⟩))
  .rename_i S;have a1:V≠6:=by intro e;subst e;simp at S
   refine⟨HT _,rfl,pre,some i,rfl,B5,by rw[N.out];omega,?_⟩;rw[N.out];exact a6 _
  .rename_i S;have a1:V=6:=by
    have:¬((V:Int)≠6):=by simpa using S
    omega
   refine⟨Kept.refl _ _,Y.out,λy I=>?_⟩;rcases List.mem_append.1 I with I|I
   .exact B5 y I
   .rw[List.mem_singleton.1 I,N.out];omega
 case done=>
  rintro D W HD ⟨z,H⟩ Z;have U:xF σ= .ok () {σ with mode:=6}:=by
   show pM.ok () {σ with mode:=ve σ σ.gq.reverse}=_;rw[Li H]
  rw[U];have Y:=fM z;clear z H;gi_wp2;refine⟨by simp,.inl ⟨_,_,rfl,sL Z,?_⟩⟩;have J:=HZ.out;have hD:=HD;have F:=Y.out.take (D:=D) (by omega) (.deferred none);exact⟨_,Iv rfl _ _ _,rfl,⟨L,rfl,O.out.ib F⟩,X.trans (.gN F),gL _⟩
 case stop=>
  rintro D c pre W HD a2 ⟨rfl,b,y,rfl,h3,h4,H⟩ Z;have⟨rest,hrest⟩:=a2;have U:xF σ= .ok () {σ with mode:=jO (σ.rL y)}:=by
   show pM.ok () {σ with mode:=ve σ σ.gq.reverse}=_;rw[<-hrest,Lj h4 h3]
  rw[U];have a5:=O.out.jb (jO (σ.rL y));have a4:Fr E.bs u (u.setCell ⟨E.bB,192,none⟩ (fV (jO (σ.rL y)))):=(At.start ⟨L,rfl,O.out⟩).Mr 192 _;have Y:=fM H;clear H;gi_wp2;refine⟨by simp,.inl ⟨_,_,rfl,sL Z,?_⟩⟩;have J:=HZ.out;have hD:=HD;have F:=Y.out.take (D:=D) (by simp;omega) (.deferred none);exact⟨_,Iv rfl _ _ _,rfl,⟨L,rfl,a5.ib F⟩,(X.trans a4).trans (.gN F),gL _⟩
section
attribute [local go_sem] Oper.semAt_some
attribute [local go_sem] qI
attribute [local simp] qI
def Ab.iw (σ:Ab) (pre:kG) (b:iY):iY:=pre.foldl (λb y=>if ly (σ.rL y)then y else b) b
def JD {σ:Ab}:∀{xs:kG} {b:iY},(∀y∈xs,y≠some it)->σ.vV it xs b=σ.iw xs b
 |[],_,_=>rfl
 |x::xs,b,h=>by
  unfold Ab.vV;rw[gH (h x (by simp))];exact JD λy d=>h y (by simp[d])
theorem JF {σ:Ab}:∀{xs:kG} {b:iY},(∀y∈xs,y≠some it)->σ.vV it (xs++[some it]++rest) b=σ.iw xs b
 |[],b,_=>by
  grind[Ab.vV,Ab.iw]
 |x::xs,b,h=>by
  show σ.vV it (x::(xs++[some it]++rest)) b=_;unfold Ab.vV;rw[gH (h x (by simp))];exact JF λy d=>h y (by simp[d])
def Q6 (σ:Ab) (pre:kG) (y b:iY):σ.iw (pre++[y]) b=if ly (σ.rL y)then y else σ.iw pre b:=by
 simp[Ab.iw]
theorem Mb {σ:Ab} (h:RF E f σ w) (it:Nat) (a2:σ.gR (some it)=true):
  Calls prog 344 #[Bp E,nV f it] w λe w'=>e=ig (oV f (σ.qL it))/\Kept [] w w':=by
 obtain⟨L,rfl,d⟩:=h;have⟨fb,ab,lb0,cb,hb⟩:=d.Jj;have⟨kb,lbb,eb,heb,H2⟩:=hb.call;cases eb;refine(BI (n:=3)).1 ?_;refine BK func344 rfl trivial ?_ rfl;simp only[ntmps344,xQ,rn,uI,Nat.reduceAdd,Nat.reduceSub,xR,xS,xU,xV,rp,tU];obtain⟨I,G⟩:∃I,I=((w.alloc (gz #[Bp E] 116)).alloc (gz #[gE (L.gI it)] 65)).alloc (gz #[.pointer none] 65):=⟨_,rfl⟩;have Z:Kept [] w I:=by rw[G];exact(((Kept.refl _ _).alloc _).alloc _).alloc _
 have⟨b0,b1,b2⟩:=oS w (gz #[Bp E] 116) (gz #[gE (L.gI it)] 65) (gz #[.pointer none] 65);rw[<-G]at b0 b1 b2;have j:I.heap.size=w.heap.size+1+1+1:=by rw[G];simp
 have a5:=d.ib Z;have⟨C,HL,hC⟩:=a5.zJ;have a3:=d.lt;have HU:=Zn E.bs E.bB 188 _ C _ _ I HL;have a1:=(λ(W:gm) (z:Kept [] w W)=>(z.cell (p:=⟨E.bB,184,none⟩) a3 (by simp)).trans cb);have HO:=(λg (H:L.ov.ownBlock=some g)=>DL d.pR H);have HN:=(λ(W:gm) (z:Kept [] w W) (i:Nat) (e:yp) (hi:σ.gV i=some e)=>(d.ib z).we hi);have HS:=(λ(y:iY) (S:y∈σ.gq)=>d.oM S);have HI:=d.inj;have HE:=(λ(W:gm) (z:Kept [] w W) (x:iY) (hx:σ.gR x=true)=>(d.ib z).gR hx);have HZ:=fM j;have HW:=fM G;clear j G
 gi_wp2_with fail
 rw[<-HW.out];refine(callsIn_wide.2 HU).mono ?_;rintro e w' ⟨rfl,rfl⟩;gi_wp2;refine FJ (by omega) (f:=ir L.gI) (λx y e=>sE HI e) HL rfl [w.heap.size+1+1] [] ?_ (by simp)
  (λpre W=>Kept [] w W/\W.heap[w.heap.size]?=some (gz #[Bp E] 116)/\W.heap[w.heap.size+1]?=some (gz #[gE (L.gI it)] 65)/\W.heap[w.heap.size+1+1]?=some (gz #[oV L.gI (σ.iw pre none)] 65)/\∀y∈pre,y≠some it)
  (λc pre W=>c= .exit 0/\Kept [] w W/\∃b,pre=b++[some it]/\(∀y∈b,y≠some it)/\W.heap[w.heap.size+1+1]?=some (gz #[oV L.gI (σ.iw b none)] 65))
  ?_ ?_ ?_ (λx=>{tmps:=#[Bp E,gE (L.gI it),gE w.heap.size,gE (w.heap.size+1),.pointer none,gE (w.heap.size+1+1),ku x,Bp E,gE E.bB,jG E.bB 188,vO I.heap.size,ku x,undef,undef,undef,undef,undef,undef,undef,undef,undef,undef,undef,undef,undef,undef],defers:=[]}) ?assign ?body ?done ?stop
 .grind
 .rintro s A B a7 ⟨h1,h2,U,h4,N⟩ H d;have j:=HZ.out;exact⟨mx h1 H d (by omega),kQ h2 H d (by omega),kQ U H d (by omega),kQ h4 H d (by omega),N⟩
 .rintro c s A B a7 ⟨h0,h1,b,h2,U,N⟩ H d;have j:=HZ.out;exact⟨h0,mx h1 H d (by omega),b,h2,U,kQ N H d (by omega)⟩
 .have z:Kept [] I (mP E.bB 188 (σ.gq.length) I):=((Kept.refl _ _).alloc _).alloc _;exact⟨Z.trans z,z.at b0 (by simp),z.at b1 (by simp),z.at b2 (by simp),by simp⟩
 case assign=>
  intro l x W K Y;gi_wp2;exact Y
 case body=>
  rintro l pre y W S ⟨u,B2,B3,V,B5⟩;obtain⟨i,e0,rfl,hi⟩:=HS y S;have c0:=HN W u i e0 hi;have cB:=a1 W u;have c1:=fN B2 0;have c2:=fN B3 0;have X:=fN V 0;have f3:=gh V 0;dsimp at c1 c2 X;have HB:=(λW' (z:Kept [] w W')=>H2 W' (.gN z) (σ.nm i));have HT:Hid (∀(q:Nat) (r:gG),Kept [w.heap.size+1+1] W ((W.drewN q).setCell ⟨w.heap.size+1+1,0,none⟩ r)/\Kept [] w ((W.drewN q).setCell ⟨w.heap.size+1+1,0,none⟩ r)/\((W.drewN q).setCell ⟨w.heap.size+1+1,0,none⟩ r).heap[w.heap.size+1+1]?=some (gz #[r] 65)/\((W.drewN q).setCell ⟨w.heap.size+1+1,0,none⟩ r).heap[w.heap.size]?=some (gz #[Bp E] 116)/\((W.drewN q).setCell ⟨w.heap.size+1+1,0,none⟩ r).heap[w.heap.size+1]?=some (gz #[gE (L.gI it)] 65)):=λq r=>
   have kk:=((Kept.refl [w.heap.size+1+1] W).drewN q).setCell (p:=⟨w.heap.size+1+1,0,none⟩) (.inl (by simp)) r
   ⟨kk,(u.drewN q).setCell (.inr (by simp;omega)) _,fR (show(W.drewN q).heap[w.heap.size+1+1]?=_ from V) 0 _,kk.at B2 (by simp;omega),kk.at B3 (by simp)⟩
  have O:=Ds (HE W u (some i) (by show(σ.gV i).isSome=true;rw[hi];rfl)) (HE W u (some it) a2);rw[show ptr (ir L.gI (some i))=some ⟨L.gI i,0,none⟩from rfl,show ptr (ir L.gI (some it))=some ⟨L.gI it,0,none⟩from rfl]at O
  try dsimp only
  rw[show ku (ir L.gI (some i))=gE (L.gI i)from rfl];by_cases R:i=it
  .subst R;rw[vQ rfl]at O;gi_wp2;exact⟨Kept.refl _ _,rfl,u,pre,rfl,B5,V⟩
  .have a4:L.gI i≠L.gI it:=λe=>R (HI _ _ e);have a8:(some i:iY)≠some it:=λe=>R (jv e);rw[wy (by simpa using a4)]at O;gi_wp2;refine Bk l (by kernel_rfl) (by kernel_rfl) (by rfl) ?_
   repeat (gi_big_quiet_step ((exact callsIn_wide.2 (lD (HB _ (u.drewN _))))))
   refine wpQuietIn_nil ?_;intro _ a6;have⟨nq,hw''⟩:=a6;subst hw'';cases hq:ly (σ.nm i)with
   |true=>
    have HQ:=fM hq;clear hq;gi_wp2;have⟨t1,t2,t3,t4,t5⟩:=HT.out nq (gE (L.gI i));refine⟨t1,t2,t4,t5,?_,λy S=>?_⟩
    .rw[Q6,show σ.rL (some i)=σ.nm i from rfl,HQ.out];exact t3
    grind
   |false=>
    have HQ:=fM hq;clear hq;gi_wp2;refine⟨(Kept.refl _ W).drewN nq,u.drewN nq,B2,B3,?_,λy S=>?_⟩
    .rw[Q6,show σ.rL (some i)=σ.nm i from rfl,HQ.out];exact V
    grind
 case done=>
  rintro D W HD ⟨u,h2,U,h4,N⟩ Y;have X:=fN h4 0;dsimp at X;have F:σ.qL it=σ.iw σ.gq.reverse none:=JD (λy S=>N y S);have J:=fM F;clear F;gi_wp2;refine⟨by simp,.inl ⟨_,_,rfl,sL Y,?_⟩⟩;have j:=HZ.out;have hD:=HD;exact⟨_,results_tmp rfl _ _ _,by rw[J.out];rfl,u.take (by omega) _⟩
 case stop=>
  rintro D c pre W HD a0 ⟨rfl,u,b,rfl,U,N⟩ Y;have⟨rest,hrest⟩:=a0;have F:σ.qL it=σ.iw b none:=by unfold Ab.qL;rw[<-hrest];exact JF U
  have J:=fM F;have X:=fN N 0;dsimp at X;clear F;gi_wp2;refine⟨by simp,.inl ⟨_,_,rfl,sL Y,?_⟩⟩;have j:=HZ.out;have hD:=HD;exact⟨_,results_tmp rfl _ _ _,by rw[J.out];rfl,u.take (by omega) _⟩
end
def lL (E:Env):Prop:=kj E 258 (λ_=>#[Bp E]) jK pV
def zM (f:Nat->Nat) (n k:Nat):nV (IF f n k) n=gE k:=by simp[IF]
def Da (E:Env) (w:gm):Calls prog 212 #[] w λe w'=>∃k lb,e=ig (.func (.func k) #[] lb)/\Ask E.bm (.func (.func k) #[] lb) Bs w'/\Kept [] w w':=by
 have C:=abZ E.bm [fQ,fW,fX,fZ,gX] w (by decide);go_enter func212,ntmps212;go_wp21;refine C.mono ?_;rintro e z ⟨l,j,u,rfl,b,g⟩;have⟨k,lb,e0,_,_⟩:=b.call;cases e0;have d:=fM b;clear b;go_wp2;go_ret;exact⟨_,_,rfl,d,g⟩
def Sa (E:Env) (e:kj E 96 (λ_=>#[Bp E]) mD pV) (j:Nat):kj E 259 (λf=>#[Bp E,nV f j]) (lN j) uV:=by
 refine mI λf σ w R b HS H=>?_;unfold lN at b;go_enter func259,ntmps259;go_wp21;refine mC (e) H b HS rfl mT ?_;rintro(g) σ w H d b;go_wp21;refine mC (Fk E g j) H b HS rfl mT ?_;rintro(_) σ w H d b;go_wp21;refine mC (PM E (some j)) H b HS rfl mT ?_;rintro(_) σ w H d b;go_wp2;go_end0;exact j7 b H rfl
def Mz (E:Env) (e:kj E 96 (λ_=>#[Bp E]) mD pV) (s:fY):iZ E 179 (λ_=>#[Bp E,gu s]) (jW s) uV:=by
 refine dI λf σ w R b HS H=>?_;unfold jW at b;go_enter func179,ntmps179;have d:=H.CJ s;replace b:Hid (R=(lN σ.nodes.length>>=λ_=>pure ()) (σ.add (.el {name:=s,gO:=[],je:=none,kids:=[]}))):=b;have H:=d;go_wp21;refine mC (Sa E e σ.nodes.length) H b HS (by rw[zM]) lT ?_;rintro(_) σ w H g b;go_wp2;go_end0;exact ga b H rfl
abbrev yI (E:Env) (p:fY->Bool) (w:gm) (e:Ending) (w':gm):Prop:=∃k lb,e=ig (.func (.func k) #[] lb)/\Ask E.bm (.func (.func k) #[] lb) p w'/\Kept [] w w'
theorem RF.bounds {σ:Ab} (h:RF E f σ w):∃k lb,w.cell? ⟨E.bB,186,none⟩=some (.func (.func k) #[] lb)/\Ask E.bm (.func (.func k) #[] lb) iJ w:=by
 have⟨L,_,hr⟩:=h;have⟨f1,a1,l1,c,ha⟩:=hr.bounds;have⟨k,lb,e,_,_⟩:=ha.call;grind
theorem RF.Jj {σ:Ab} (h:RF E f σ w):∃k lb,w.cell? ⟨E.bB,184,none⟩=some (.func (.func k) #[] lb)/\Ask E.bm (.func (.func k) #[] lb) ly w:=by
 have⟨L,_,hr⟩:=h;have⟨f1,a1,l1,c,ha⟩:=hr.Jj;have⟨k,lb,e,_,_⟩:=ha.call;grind
def RF.lt {σ:Ab} (h:RF E f σ w):E.bB < w.heap.size:=by have⟨L,_,hr⟩:=h;exact hr.lt
theorem nH (E:Env) (b:List fY) (w:gm) (d:b.length<=4096):
  Calls prog 216 #[oo w.heap.size b.length b.length] (w.alloc (gz (b.map Value.string).toArray 9)) (yI E (gZ b) w):=by
 refine(abZ E.bm b w d).mono ?_;rintro e w' ⟨l,j,z,rfl,g,u⟩;have⟨k,lb,e,_,_⟩:=g.call;grind
theorem VA (E:Env) (v1 v2:gG) (p q:fY->Bool) (w:gm) (d:Ask E.bm v1 p w) (g:Ask E.bm v2 q w):
  Calls prog 236 #[v1,v2] w (yI E (λs=>p s||q s) w):=by
 refine(agL E.bm v1 v2 p q w d g).mono ?_;rintro e w' ⟨l,j,z,rfl,b,u⟩;have⟨k,lb,e,_,_⟩:=b.call;grind
def Aq {σ:Ab} (h:RF E f σ w):Calls prog 277 #[Bp E] w (yI E Ei w):=by
 have⟨kb,lbb,cb,HB⟩:=h.bounds;have B:=h.lt;have D:=cb;have C:=nH E [gU] w.drew (by decide);go_enter func277,ntmps277;go_wp21
 go_region_with (first
  |(go_at_call 216;refine C.mono ?_;rintro e H ⟨J,F,rfl,g,b⟩;have I:H.cell? ⟨E.bB,186,none⟩=some (.func (.func kb) #[] lbb):=(b.cell (p:=⟨E.bB,186,none⟩) B (by simp)).trans D;have u:=fM g;have d:=fM b;clear g b)
  |(go_at_call 236;refine(VA E _ _ _ _ _ (HB.k0 (((Kept.refl _ w).drew).trans d)) u).mono ?_;rintro e N ⟨K,G,rfl,j,l⟩;have z:=fM j;have A:=fM ((((Kept.refl _ w).drew).trans d).trans l);clear j l))
 all_goals go_wp2
 all_goals go_ret
 all_goals exact⟨_,_,rfl,z,A⟩
def MB {σ:Ab} (h:RF E f σ w):Calls prog 276 #[Bp E] w (yI E agB w):=by
 have⟨kb,lbb,cb,HB⟩:=h.bounds;have B:=h.lt;have D:=cb;have C:=nH E [pc] w.drew (by decide);go_enter func276,ntmps276;go_wp21
 go_region_with (first
  |(go_at_call 216;refine C.mono ?_;rintro e H ⟨J,F,rfl,g,b⟩;have I:H.cell? ⟨E.bB,186,none⟩=some (.func (.func kb) #[] lbb):=(b.cell (p:=⟨E.bB,186,none⟩) B (by simp)).trans D;have u:=fM g;have d:=fM b;clear g b)
  |(go_at_call 236;refine(VA E _ _ _ _ _ (HB.k0 (((Kept.refl _ w).drew).trans d)) u).mono ?_;rintro e N ⟨K,G,rfl,j,l⟩;have z:=fM j;have A:=fM ((((Kept.refl _ w).drew).trans d).trans l);clear j l))
 all_goals go_wp2
 all_goals go_ret
 all_goals exact⟨_,_,rfl,z,A⟩
def xL (E:Env) (w:gm):Calls prog 220 #[] w (yI E Br w):=by
 have C:=nH E [fO,fQ] w (by decide);go_enter func220,ntmps220;go_wp21;refine C.mono ?_;rintro e g ⟨k,lb,rfl,b,d⟩;go_wp2;go_ret;exact⟨_,_,rfl,b,d⟩
def Of (E:Env) (w:gm):Calls prog 119 #[] w (yI E (gZ [fQ]) w):=by
 have C:=nH E [fQ] w (by decide);go_enter func119,ntmps119;go_wp21;refine C.mono ?_;rintro e g ⟨k,lb,rfl,b,d⟩;go_wp2;go_ret;exact⟨_,_,rfl,b,d⟩
def LB (E:Env) (w:gm):Calls prog 131 #[] w (yI E (gZ [fW,fX,fZ]) w):=by
 have C:=nH E [fW,fX,fZ] w (by decide);go_enter func131,ntmps131;go_wp21;refine C.mono ?_;rintro e g ⟨k,lb,rfl,b,d⟩;go_wp2;go_ret;exact⟨_,_,rfl,b,d⟩
def XJ (E:Env) (w:gm):Calls prog 230 #[] w (yI E (gZ [gX]) w):=by
 have C:=nH E [gX] w (by decide);go_enter func230,ntmps230;go_wp21;refine C.mono ?_;rintro e g ⟨k,lb,rfl,b,d⟩;go_wp2;go_ret;exact⟨_,_,rfl,b,d⟩
def YK (E:Env) (w:gm):Calls prog 231 #[] w (yI E (gZ [il,im]) w):=by
 have C:=nH E [il,im] w (by decide);go_enter func231,ntmps231;go_wp21;refine C.mono ?_;rintro e g ⟨k,lb,rfl,b,d⟩;go_wp2;go_ret;exact⟨_,_,rfl,b,d⟩
def Hp (E:Env) (w:gm):Calls prog 270 #[] w (yI E (gZ [mG,mH]) w):=by
 have C:=nH E [mG,mH] w (by decide);go_enter func270,ntmps270;go_wp21;refine C.mono ?_;rintro e g ⟨k,lb,rfl,b,d⟩;go_wp2;go_ret;exact⟨_,_,rfl,b,d⟩
def uX (E:Env) (w:gm):Calls prog 233 #[] w (yI E (gZ [gF]) w):=by
 have C:=nH E [gF] w (by decide);go_enter func233,ntmps233;go_wp21;refine C.mono ?_;rintro e g ⟨k,lb,rfl,b,d⟩;go_wp2;go_ret;exact⟨_,_,rfl,b,d⟩
def rM (E:Env) (w:gm):Calls prog 234 #[] w (yI E (gZ [fU]) w):=by
 have C:=nH E [fU] w (by decide);go_enter func234,ntmps234;go_wp21;refine C.mono ?_;rintro e g ⟨k,lb,rfl,b,d⟩;go_wp2;go_ret;exact⟨_,_,rfl,b,d⟩
def To.ml {σ σ':Ab} {α:Type} {b:(Nat->Nat)->α->gG} {a:α} {e : Ending} (h:To E L σ' w w') (d:e=ig (b L.gI a)) (g:σ.nodes.length<=σ'.nodes.length):kh E L.gI σ.nodes.length w (.ok a σ') b e w':=by
 have⟨L',e1,h3,h4⟩:=h;exact⟨d,⟨L',e1,h3⟩,h4,g⟩
def aiq {σ:Ab} (h:RF E f σ w) (b:Ask E.bm v p w):
  Calls prog 284 #[Bp E,v] w (kh E f σ.nodes.length w (.ok () (σ.FG p)) uV):=by
 obtain⟨L,rfl,d⟩:=h;exact(af8 d v p b).mono (λe w' h=>h.2.ml h.1 (gL _))
theorem wR {σ:Ab} (h:RF E f σ w) (b:Ask E.bm v p w):
  Calls prog 232 #[Bp E,v] w (kh E f σ.nodes.length w (pZ p σ) uV):=by
 obtain⟨L,rfl,d⟩:=h;exact(acD d v p b).mono (λe w' h=>h.2.ml h.1 (by unfold Ab.Fi;grind[Ab.pop]))
def F1 {σ:Ab} (h:RF E f σ w) (b:Ask E.bm (.func (.func k) #[] lb) p w):
  Calls prog 213 #[Bp E,.func (.func k) #[] lb] w (kh E f σ.nodes.length w (ub p σ) uV):=by
 obtain⟨L,rfl,d⟩:=h;exact(UB d _ _ _ p b).mono (λe w' h=>h.2.ml h.1 (gL _))
def Mw {σ:Ab} (h:RF E f σ w):
  Calls prog 279 #[Bp E] w (kh E f σ.nodes.length w (wU (λσ=>σ.me) σ) uV):=by
 obtain⟨L,rfl,b⟩:=h;exact(Ks b).mono (λe w' h=>h.2.ml h.1 (gL _))
def BR {σ:Ab} (h:RF E f σ w) (b:Ask E.bm v p w):
  Calls prog 211 #[Bp E,v] w λe w'=>e=ig (.bool (σ.current p))/\w'=w:=by
 obtain⟨L,rfl,d⟩:=h;exact zy d v p b
def zw {σ:Ab} (h:RF E f σ w) {u z : Nat} {d g : jA} (l:Ask E.bm (.func (.func u) #[] d) p w) (G:Ask E.bm (.func (.func z) #[] g) q w):
  Calls prog 219 #[Bp E,.func (.func u) #[] d,.func (.func z) #[] g] w (kh E f σ.nodes.length w (mV p q σ) bV):=by
 have j:=wX h p q _ _ l G;have B:=l;have H:=At.start h;unfold mV;cases hi:σ.inScope p q with
 |false=>
  rw[hi]at j;rw[gH (by simp)];go_enter func219,ntmps219;go_wp21;refine j.mono ?_;rintro e I ⟨rfl,b⟩;replace H:=H.k0 b;go_wp2;go_ret;exact j7 rfl H rfl
 |true=>
  rw[hi]at j;rw[gv (by simp)];go_enter func219,ntmps219;go_wp21;refine j.mono ?_;rintro e I ⟨rfl,b⟩;have A:=aiq (H.k0 b).rel (B.k0 b);replace H:=H.k0 b;go_wp21;refine A.mono ?_;rintro e J ⟨rfl,C,D,F⟩;replace H:=H.to C F D;go_wp2;go_ret;exact j7 rfl H rfl
def yO {σ:Ab} (h:RF E f σ w) (z:oE σ≠ .stuck):
  Calls prog 269 #[Bp E] w (kh E f σ.nodes.length w (oE σ) uV):=by
 obtain⟨R,g⟩:∃R,R=(oE) σ:=⟨_,rfl⟩;rw[<-g]at z|-;unfold oE at g;have HS:=z;have H:=At.start h;have l:=fM g;clear g;go_enter func269,ntmps269;have A:=nH E [nf] w (by decide);go_wp21;refine A.mono ?_;rintro e I ⟨F,B,rfl,b,u⟩;replace H:=H.k0 u;go_wp21;refine(Aq H.rel).mono ?_;rintro e J ⟨G,C,rfl,j,d⟩;replace b:=b.k0 d;replace H:=H.k0 d;go_wp21;refine Bf (λ_=>zw H.rel b j) H l HS mT ?_;rintro(_) σ w H D l;go_wp2;go_end0;exact j7 l H rfl
abbrev Uk:Obj:=gz #[.pointer none,fV 0] 229
def M.bind_pure {α:Type} (m:M α) (σ:Ab):(m>>=λa=>(Pure.pure a:M α)) σ=m σ:=by
 rw[M.gn];cases m σ<;>rfl
theorem Lb (E:Env) (hF:lL E) (i:Nat):kj E 169 (λf=>#[Bp E,nV f i]) (placeFor i) pV:=by
 intro f σ w h hs;have HB:=fP w Uk;have a7:=h.lt;have H0:=(At.start h).k0 ((Kept.refl _ w).alloc Uk);have C:w.cell? ⟨E.bB,195,none⟩=some (.bool σ.iL):=(At.start h).aaZ;obtain⟨R,z⟩:∃R,R=placeFor i σ:=⟨_,rfl⟩;rw[<-z]at hs|-;have HS:=hs;unfold placeFor at z;cases hfo:σ.iL with
 |false=>
  rw[hfo]at z C;rw[gH (by simp)]at z;have H:=H0;have u:Hid (R=(jr i>>=λg=>pure g) σ):=fM (z.trans (M.bind_pure (jr i) σ).symm);clear z;go_enter func169,ntmps169;go_wp21
  go_quiet (fail)
  replace H:=fM (H.k0 ((Kept.refl _ (w.alloc Uk)).drewN nq));go_wp21;refine kj.call (Hf E i) H u HS rfl ?_ ?_
  .intro c p j ws l O S;have N:=fM l;clear l;go_wp2;exact⟨rfl,uU N O S⟩
  rintro g Z K l X D;have d:=((Fr.gN ((Kept.refl _ (w.alloc Uk)).drewN nq)).trans X).cell HB (by decide);have V:=fN d 0;have J:=fN d 1;have f0:=gh d 0;have f1:=gh d 1;dsimp at V J;replace H:=fM (((l.side d (by decide) (gL _) 0 (gE (f g.1))).side (fR d 0 _) (by decide) (gL _) 1 (fV g.2)));replace u:=fM D;have A:=fM (fR (fR d 0 (gE (f g.1))) 1 (fV g.2));clear l D;go_wp2;refine ou (v:=pV f g) ?_ rfl (j7 u H rfl);simp[results,results169,asAddr,Result.andThen,go_sem,fN A.out]
 |true=>
  rw[hfo]at z C;have a4:∃e,σ.gV i=some e:=by
   cases he:σ.gV i with
   |some e=>simp
   |none=>
    exfalso;have a5:σ.nm i=⟨#[]⟩:=by unfold Ab.nm;rw[he]
    have B:Bs (σ.nm i)=false:=by rw[a5];simp[Bs,gZ,kJ,sK]
    rw[B]at z;simp only[Bool.and_false,ru,rj]at z;apply hs;rw[z];grind[jr]
  have⟨e0,he0⟩:=a4;have HN:∀W,Kept [] w W->W.cell? ⟨f i,0,none⟩=some (gu (σ.nm i)):=by
   intro W hk;obtain⟨L,rfl,hr⟩:=h;exact(hr.ib hk).we he0
  have cN:=HN w (Kept.refl _ _);have a6:f i < w.heap.size:=by
   obtain⟨L,rfl,hr⟩:=h;exact hr.JA (Ab.gW he0)
  have u:=fM z;have a3:=At.start h;clear z;go_enter func169,ntmps169;go_wp21
  go_cut [16]from 5 to 15 (λb wc=>b= .bool (Bs (σ.nm i))/\Kept [] w wc/\wc.heap[w.heap.size]?=some Uk)
  case first=>
   go_region_with (first
    |(go_at_call 212;refine(Da E _).mono ?_;rintro e K ⟨k1,a8,rfl,Y,I⟩;have G:Kept [] w K:=(((Kept.refl _ w).alloc Uk).drew).trans I;have J:=HN K G;have⟨k1',lb1',e1,he1,hc1⟩:=Y.call;cases e1;have a1:=fM (hc1 K (xk.refl _ _) (σ.nm i));have a2:=fM G;have a0:=fM (I.at HB (by simp));clear Y I G hc1)
    |(refine a1.mono ?_;rintro e w2 ⟨rfl,rfl⟩))
   all_goals (try (go_wp21))
   all_goals (go_meet;exact⟨rfl,a2,a0⟩)
  case rest=>
   obtain⟨rfl,hk,U⟩:=hcut;have H:Hid (At E f σ.nodes.length w f σ wc):=fM (a3.k0 hk);cases B:Bs (σ.nm i)with
   |true=>
    have F:Hid (R=(jK>>=λg=>(Pure.pure g:M (Nat×Nat))) σ):=by
     refine fM ?_;rw[M.bind_pure];have:=u
     rwa [B]at this
    replace u:=F;go_wp21;refine kj.call hF H u HS rfl ?_ ?_
    .intro c p j ws l O S;have N:=fM l;clear l;go_wp2;exact⟨rfl,uU N O S⟩
    rintro g Z K l X D;have d:=X.cell U (by decide);have V:=fN d 0;have J:=fN d 1;have f0:=gh d 0;have f1:=gh d 1;dsimp at V J;replace H:=fM (((l.side d (by decide) (gL _) 0 (gE (f g.1))).side (fR d 0 _) (by decide) (gL _) 1 (fV g.2)));replace u:=fM D;have A:=fM (fR (fR d 0 (gE (f g.1))) 1 (fV g.2));clear l D;go_wp2;refine ou (v:=pV f g) ?_ rfl (j7 u H rfl);simp[results,results169,asAddr,Result.andThen,go_sem,fN A.out]
   |false=>
    have F:Hid (R=(jr i>>=λg=>(Pure.pure g:M (Nat×Nat))) σ):=by
     refine fM ?_;rw[M.bind_pure];have:=u
     rwa [B]at this
    replace u:=F;go_wp21;refine kj.call (Hf E i) H u HS rfl ?_ ?_
    .intro c p j ws l O S;have N:=fM l;clear l;go_wp2;exact⟨rfl,uU N O S⟩
    rintro g Z K l X D;have d:=X.cell U (by decide);have V:=fN d 0;have J:=fN d 1;have f0:=gh d 0;have f1:=gh d 1;dsimp at V J;replace H:=fM (((l.side d (by decide) (gL _) 0 (gE (f g.1))).side (fR d 0 _) (by decide) (gL _) 1 (fV g.2)));replace u:=fM D;have A:=fM (fR (fR d 0 (gE (f g.1))) 1 (fV g.2));clear l D;go_wp2;refine ou (v:=pV f g) ?_ rfl (j7 u H rfl);simp[results,results169,asAddr,Result.andThen,go_sem,fN A.out]
def Jg (E:Env) (hF:lL E):kj E 96 (λ_=>#[Bp E]) mD pV:=by
 intro f σ w h HS;cases hl:σ.last with
 |none=>exfalso;apply HS;unfold mD;rw[hl]
 |some i=>
  have K:mD σ=(placeFor i>>=λd=>pure d) σ:=by
   unfold mD;rw[hl,M.bind_pure]
  obtain⟨R,l⟩:∃R,R=mD σ:=⟨_,rfl⟩;have B:Hid (Calls prog 170 #[jG E.bB 188] (w.alloc Uk) λe w'=>e=ig (gE (f i))/\w'=w.alloc Uk):=by
   obtain⟨L,rfl,S⟩:=h;have:=Vs (S.ib ((Kept.refl _ w).alloc Uk))
   rwa [show io σ.gq ((σ.gq.length:Int) - 1)=some i from hl]at this
  rw[<-l]at HS|-;rw[K]at l;have H:=(At.start h).k0 ((Kept.refl _ w).alloc Uk);have u:=fM l;have G:=fP w Uk;have O:=h.lt;clear l;go_enter func96,ntmps96;go_wp21;refine B.mono ?_;rintro e w' ⟨rfl,rfl⟩;go_wp21;refine kj.call (Lb E hF i) H u HS rfl ?_ ?_
  .intro c p j Y g D F;have C:=fM g;clear g;go_wp2;exact⟨rfl,uU C D F⟩
  rintro d U X g N A;have b:=N.cell G (by decide);have I:=fN b 0;have J:=fN b 1;have f0:=gh b 0;have V:=gh b 1;dsimp at I J;replace H:=((g.side b (by decide) (gL _) 0 (gE (f d.1))).side (fR b 0 _) (by decide) (gL _) 1 (fV d.2));replace u:=fM A;have z:=fM (fR (fR b 0 (gE (f d.1))) 1 (fV d.2));clear g A;go_wp2;refine ou (v:=pV f d) ?_ rfl (j7 u H rfl);simp[results,results96,asAddr,Result.andThen,go_sem,fN z.out]
theorem RF.tv {σ:Ab} (h:RF E f σ w):∃b n d,E.tv= .slice b n d:=by
 have⟨L,_,hr⟩:=h;have⟨b,cap,e⟩:=gw hr.tok;grind
section
variable (E:Env) (hF:lL E)
include hF
def EK (j:Nat):kj E 259 (λf=>#[Bp E,nV f j]) (lN j) uV:=Sa E (Jg E hF) j
def vw (s:fY):iZ E 179 (λ_=>#[Bp E,gu s]) (jW s) uV:=Mz E (Jg E hF) s
theorem lw (t:gy) (F:jd E t):iZ E 174 (λ_=>#[Bp E,iy E t]) (jg t) uV:=by
 intro f σ w h HS;have⟨ao,n,cp,htv⟩:=h.tv;have d:t.pT=true/\σ.fresh=true:=by
  unfold jg at HS;rw[M.gn]at HS;unfold nC at HS;cases hc:(σ.fresh&&t.pT)with
  |true=>grind
  |false=>grind
 have B:=F d.1;have j:t.jh=E.ta/\Ae E t=#[fV t.a,fV t.b,gu t.name,.slice ao n cp]:=by
  have⟨a,b,k,gx⟩:=t;cases k<;>simp_all[gy.pT,gy.jh,Ae,gy.name]
 obtain⟨R,A⟩:∃R,R=(jg t) σ:=⟨_,rfl⟩;rw[<-A]at HS|-;have l:R=(lN σ.nodes.length>>=λ_=>(Pure.pure ():M Unit)) (σ.pN (.el {name:=t.name,gO:=E.ta,je:=none,kids:=[]}) false):=by
  rw[A];unfold jg;rw[M.gn];unfold nC;simp only[d.1,d.2,j.1,Bool.and_self,vo]
 have u:=fM l;have g:=zh E t w ⟨ao,n,cp,htv⟩;rw[j.2]at g;have H:=At.start h;have D:=h.lt;have z:=d.2;clear h A l d B j;go_enter func174,ntmps174;go_wp21;refine g.mono ?_;rintro e I ⟨rfl,C⟩;replace H:=(H.k0 (C.alloc (gz #[fV t.a,fV t.b,gu t.name,.slice ao n cp] 189))).nC z t.name;rw[htv]at H;clear C g;go_wp21;refine mC (EK E hF σ.nodes.length) H u HS (by simp[IF]) lT ?_;clear H u;rintro(_) σ w H G u;go_wp2;go_end0;exact ga u H rfl
def wN (t:gy) (e:jd E t):iZ E 101 (λ_=>#[Bp E,iy E t]) (ln t) uV:=by
 refine dI λf σ w R b HS H=>?_;unfold ln at b;go_enter func101,ntmps101;go_wp21;refine dC (lw E hF t e) H b HS rfl lT ?_;rintro(_) f σ w H g d b;go_wp21;refine mC (acE E) H b HS rfl lT ?_;rintro(_) σ w H d b;go_wp2;go_end0;exact ga b H rfl
def wM (t:gy):iZ E 100 (λ_=>#[Bp E,iy E t]) (jZ t) uV:=by
 refine dI λf σ w R b HS H=>?_;unfold jZ at b;go_enter func100,ntmps100;go_wp21;refine mC (Jg E hF) H b HS rfl lT ?_;rintro(j) σ w H d b;go_wp21;refine(zv E t _).mono ?_;rintro e u ⟨rfl,g⟩;replace H:=H.k0 g;go_wp21;refine dC (VJ E j t.chars) H b HS rfl lT ?_;rintro(_) f σ w H l d b;go_wp2;go_end0;exact ga b H rfl
def wT (t:gy) (g:jd E t):iZ E 184 (λ_=>#[Bp E,iy E t]) (mF t) uV:=by
 refine dI λf σ w R b HS H=>?_;unfold mF at b;go_enter func184,ntmps184;go_wp21;refine Bf (λe=>yO H.rel e) H b HS lT ?_;rintro(_) σ w H d b;go_wp21;refine dC (lw E hF t g) H b HS rfl lT ?_;rintro(_) f σ w H j d b;go_wp2;go_end0;exact ga b H rfl
def V2 (t:gy) (d:jd E t):iZ E 185 (λ_=>#[Bp E,iy E t]) (uv t) uV:=by
 refine dI λf σ w R b HS H=>?_;unfold uv at b;go_enter func185,ntmps185;go_wp21;refine dC (wT E hF t d) H b HS rfl lT ?_;rintro(_) f σ w H g e b;have j:=H.aa1;have l:=H.free 198;replace H:=H.tu true;go_wp2;go_end0;exact ga b H rfl
end
def Bu (a b:Int) (s:fY) (d:Option Addr) (n e:Nat) (w:gm):(Instr.field 189 (.agg #[fV a,fV b,gu s,.slice d n e]) 1).run prog w= .ok (gu s) w:=by
 have g:=underlying189;simp[Instr.field,qq g,go_sem,asAgg,Result.andThen]
def zi (a b:Int) (s:fY) (d:Option Addr) (n e:Nat) (w:gm):(Instr.field 189 (.agg #[fV a,fV b,gu s,.slice d n e]) 2).run prog w= .ok (.slice d n e) w:=by
 have g:=underlying189;simp[Instr.field,qq g,go_sem,asAgg,Result.andThen]
def At.yr {σ:Ab} (h:At E f0 n0 w0 f σ w):w.cell? ⟨E.bB,187,none⟩=some (nV f 0):=by
 obtain⟨L,rfl,b⟩:=h.rel;exact b.low (by decide) b.env.ye
theorem tk (σ σ':Ab) (h:σ'.nodes=σ.nodes):σ.nodes.length<=σ'.nodes.length:=by grind
def Fg (E:Env) (x:iY):kj E 178 (λf=>#[jG E.bB 188,oV f x]) (kq x) uV:=by
 intro f σ w ⟨L,e,g⟩ b;subst e;unfold kq at b|-;by_cases d:σ.gR x=true
 .rw[gv d];exact(acy g x d).mono (λe w' h=>h.2.ml h.1 (tk _ _ rfl))
 .rw[gH d]at b;exact absurd rfl b
def acv (E:Env) (x:iY):kj E 319 (λf=>#[jG E.bB 188,oV f x]) (zP x) uV:=by
 intro f σ w ⟨L,e,g⟩ b;subst e;unfold zP at b|-;by_cases d:σ.gR x=true
 .rw[gv d];exact(afa g x d).mono (λe w' h=>h.2.ml h.1 (tk _ _ rfl))
 .rw[gH d]at b;exact absurd rfl b
def PF (E:Env) (x y:iY):kj E 367 (λf=>#[jG E.bB 188,oV f x,oV f y]) (oZ x y) uV:=by
 intro f σ w ⟨L,e,g⟩ d;subst e;unfold oZ at d|-;by_cases b:(σ.gR x&&σ.mW y&&decide (σ.gq.length < 4096))=true
 .rw[gv b];simp at b;exact(SD g x y b.1.1 b.1.2 b.2).mono (λe w' h=>h.2.ml h.1 (tk _ _ rfl))
 .rw[gH b]at d;exact absurd rfl d
def Ed (E:Env) (x:iY):kj E 178 (λf=>#[jG E.bB 189,oV f x]) (kM x) uV:=by
 intro f σ w ⟨L,e,g⟩ b;subst e;unfold kM at b|-;by_cases d:σ.gR x=true
 .rw[gv d];exact(aaI g x d).mono (λe w' h=>h.2.ml h.1 (tk _ _ rfl))
 .rw[gH d]at b;exact absurd rfl b
def aaH (E:Env) (x:iY):kj E 319 (λf=>#[jG E.bB 189,oV f x]) (AO x) uV:=by
 intro f σ w ⟨L,e,g⟩ b;subst e;unfold AO at b|-;by_cases d:σ.gR x=true
 .rw[gv d];exact(adW g x d).mono (λe w' h=>h.2.ml h.1 (tk _ _ rfl))
 .rw[gH d]at b;exact absurd rfl b
def adU (E:Env) (x y:iY):kj E 267 (λf=>#[jG E.bB 189,oV f x,oV f y]) (qg x y) uV:=by
 intro f σ w ⟨L,e,g⟩ d;subst e;unfold qg at d|-;by_cases b:(σ.gR x&&σ.gR y)=true
 .rw[gv b];simp at b;exact(Yv g x y b.1 b.2).mono (λe w' h=>h.2.ml h.1 (tk _ _ rfl))
 .rw[gH b]at d;exact absurd rfl d
def Ox (E:Env) (x y:iY):kj E 367 (λf=>#[jG E.bB 189,oV f x,oV f y]) (oU x y) uV:=by
 intro f σ w ⟨L,e,g⟩ d;subst e;unfold oU at d|-;by_cases b:(σ.gR x&&σ.gR y&&decide (σ.act.length < 4096))=true
 .rw[gv b];simp at b;exact(QQ g x y b.1.1 b.1.2 b.2).mono (λe w' h=>h.2.ml h.1 (tk _ _ rfl))
 .rw[gH b]at d;exact absurd rfl d
def DF (E:Env):kj E 175 (λ_=>#[jG E.bB 188]) x8 oV:=acE E
def Z4 (E:Env) (j:Nat):kj E 365 (λf=>#[nV f j]) (lQ j) uV:=by
 intro f σ w ⟨L,e,g⟩ b;subst e;unfold lQ at b|-;cases hj:σ.gV j with
 |none=>rw[hj]at b;exact absurd rfl b
 |some ej=>
  simp only[hj]at b|-;cases hp:ej.je with
  |none=>
   simp only[hp]at b|-;refine(FB g hj hp).mono ?_;rintro e w' ⟨rfl,rfl⟩;exact⟨rfl,⟨L,rfl,g⟩,Fr.refl _,gL _⟩
  |some p=>
   simp only[hp]at b|-;cases hep:σ.gV p with
   |none=>rw[hep]at b;exact absurd rfl b
   |some ep=>
    simp only[hep]at b|-;by_cases d:j≠p/\0<=qE ep.kids (Nd.gR j)/\(qE ep.kids (Nd.gR j)).toNat < ep.kids.length
    .rw[gv d];exact(Z2 g hj hp hep d.1 d.2.2 (by omega)).mono (λe w' h=>h.2.ml h.1 (by simp[Ab.gS]))
    .rw[gH d]at b;exact absurd rfl b
theorem M8 (E:Env) (i:Nat):iZ E 266 (λf=>#[nV f i]) (kB i) nV:=by
 intro f σ w ⟨L,e,z⟩ b;subst e;unfold kB at b|-;cases hi:σ.gV i with
 |none=>rw[hi]at b;exact absurd rfl b
 |some e=>
  simp only[hi]at b|-;by_cases g:nG e.name=true
  .rw[gv g]at b;exact absurd rfl b
  .rw[gH g];refine(ZY z hi (by grind)).mono ?_;rintro A w' ⟨d,j,rfl,l,u⟩;exact⟨d.gI,j,by simp[Ab.add],rfl,⟨d,rfl,l⟩,u⟩
def RF.aiX {σ:Ab} (h:RF E f σ w):0 < σ.nodes.length:=by
 have⟨L,_,hr⟩:=h;exact Ab.mi (σ:=σ) (i:=0) hr.wf.ye
theorem ack (h:i < n):nV (IF f n k) i=nV f i:=by grind[IF]
section
variable (E:Env) (hF:lL E) (rec:Nat->gy->M Unit)
variable (hA:∀(m:Nat) (t:gy),jd E t->iZ E 162 (λ_=>#[Bp E,.int .i64 (m:Int),iy E t]) (rec m t) uV)
include hA in
def ux (t:gy) (j:jd E t):iZ E 86 (λ_=>#[Bp E,iy E t]) (jX rec t) uV:=by
 intro f σ w h HS;obtain⟨R,e⟩:∃R,R=jX rec t σ:=⟨_,rfl⟩;rw[<-e]at HS|-;have b:R=(rec σ.mode t>>=λ_=>(Pure.pure ():M Unit)) σ:=by
  rw[e,M.bind_pure];rfl
 have d:=fM b;have H:=At.start h;have z:=H.sC;have g:=h.lt;clear h e b;go_enter func86,ntmps86;go_wp21;refine dC (hA σ.mode t j) H d HS rfl lT ?_;clear H d;rintro(_) f σ w H u l d;go_wp2;go_end0;exact ga d H rfl
include hA in
def AH (t:gy) (e:jd E t):iZ E 92 (λ_=>#[Bp E,iy E t]) (j9 rec t) uV:=by
 refine dI λf σ w R b HS H=>?_;unfold j9 at b;go_enter func92,ntmps92;have l:=H.aa0;have z:=H.free 196;have u:=H.sC;have A:=H.free 192;have d:=H.lt;replace H:=(H.qZ true).jb 1;go_wp21;refine dC (ux E rec hA t e) H b HS rfl lT ?_;rintro(_) f σ w H j g b;go_wp2;go_end0;exact ga b H rfl
theorem DB (own:Bool):iZ E 167 (λ_=>#[Bp E,if own then E.tv else .slice none 0 0]) (qW own (if own then E.ta else [])) uV:=by
 intro f σ w h u;have⟨ao,n,cp,htv⟩:=h.tv;obtain⟨R,d⟩:∃R,R=qW own (if own then E.ta else []) σ:=⟨_,rfl⟩;rw[<-d]at u|-;have HS:=u;have H:=At.start h;have B:=h.lt;have l:=fM h.aiX;have C:=H.yr;have D:=H.YJ;have F:=H.free 190;unfold qW at d;cases own with
 |true=>
  rw[M.gn]at d;unfold sv at d;have g:σ.fresh=true:=by
   cases hq:σ.fresh with
   |true=>rfl
   |false=>grind
  simp only[g,vo]at d;have b:=fM d;replace H:=H.nC g fO;rw[htv]at H;rw[gv rfl,htv];clear h d;go_enter func167,ntmps167;go_wp21;refine mC (Hf E 0) H b HS (by rw[ack l.out]) lT ?_;rintro(j) σ w H e b;go_wp21;refine mC (Fk E j _) H b HS (by rw[zM]) lT ?_;rintro(_) σ w H e b;go_wp21;refine mC (PM E (some _)) H b HS (by show #[_,nV _ _]=_;rw[zM]) lT ?_;rintro(_) σ w H e b;have z:=H.sC;have A:=H.free 192;replace H:=H.jb 2;go_wp2;go_end0;exact ga b H rfl
 |false=>
  rw[M.gn]at d;unfold sv at d;simp only[ru,rj]at d;have b:=fM d;replace H:=H.CJ fO;rw[gH (by simp)];clear h d;go_enter func167,ntmps167;go_wp21;refine mC (Hf E 0) H b HS (by rw[ack l.out]) lT ?_;rintro(j) σ w H e b;go_wp21;refine mC (Fk E j _) H b HS (by rw[zM]) lT ?_;rintro(_) σ w H e b;go_wp21;refine mC (PM E (some _)) H b HS (by show #[_,nV _ _]=_;rw[zM]) lT ?_;rintro(_) σ w H e b;have z:=H.sC;have A:=H.free 192;replace H:=H.jb 2;go_wp2;go_end0;exact ga b H rfl
include hF in
theorem DC (own:Bool):iZ E 172 (λ_=>#[Bp E,if own then E.tv else .slice none 0 0]) (qX own (if own then E.ta else [])) uV:=by
 intro f σ w h l;have⟨ao,n,cp,htv⟩:=h.tv;obtain⟨R,b⟩:∃R,R=qX own (if own then E.ta else []) σ:=⟨_,rfl⟩;rw[<-b]at l|-;have HS:=l;have H:=At.start h;have j:=h.lt;have B:=h.aiX;have C:=H.yr;have D:=H.YJ;have F:=H.free 190;unfold qX at b;cases own with
 |true=>
  rw[M.gn]at b;unfold sv at b;have g:σ.fresh=true:=by
   cases hq:σ.fresh with
   |true=>rfl
   |false=>grind
  simp only[g,vo]at b;have e:=fM b;replace H:=H.nC g gJ;rw[htv]at H;rw[gv rfl,htv];clear b;go_enter func172,ntmps172;have d:=H.zd (some σ.nodes.length) (by simp[Ab.gR,Ab.gV,Ab.pN,Ab.add]);rw[show oV (IF f σ.nodes.length w.heap.size) (some σ.nodes.length)=gE w.heap.size from zM _ _ _]at d;rw[World.setCell_alloc_past _ _ _ _ j]at d;replace H:=d;go_wp21;refine mC (EK E hF _) H e HS (by rw[zM]) lT ?_;rintro(_) σ w H u e;have z:=H.sC;have A:=H.free 192;replace H:=H.jb 3;go_wp2;go_end0;exact ga e H rfl
 |false=>
  rw[M.gn]at b;unfold sv at b;simp only[ru,rj]at b;have e:=fM b;replace H:=H.CJ gJ;rw[gH (by simp)];clear b;go_enter func172,ntmps172;have d:=H.zd (some σ.nodes.length) (by simp[Ab.gR,Ab.gV,Ab.pN,Ab.add]);rw[show oV (IF f σ.nodes.length w.heap.size) (some σ.nodes.length)=gE w.heap.size from zM _ _ _]at d;rw[World.setCell_alloc_past _ _ _ _ j]at d;replace H:=d;go_wp21;refine mC (EK E hF _) H e HS (by rw[zM]) lT ?_;rintro(_) σ w H u e;have z:=H.sC;have A:=H.free 192;replace H:=H.jb 3;go_wp2;go_end0;exact ga e H rfl
include hA in
def Mx (t:gy) (g:jd E t):iZ E 95 (λ_=>#[Bp E,iy E t]) (nQ rec t) uV:=by
 refine dI λf σ w R b HS H=>?_;unfold nQ at b;go_enter func95,ntmps95;go_wp21;refine dC (DB E false) H b HS (by simp) lT ?_;rintro(_) f σ w H e d b;go_wp21;refine dC (ux E rec hA t g) H b HS rfl lT ?_;rintro(_) f σ w H e d b;go_wp2;go_end0;exact ga b H rfl
include hF hA in
def My (t:gy) (g:jd E t):iZ E 99 (λ_=>#[Bp E,iy E t]) (nR rec t) uV:=by
 refine dI λf σ w R b HS H=>?_;unfold nR at b;go_enter func99,ntmps99;go_wp21;refine dC (DC E hF false) H b HS (by simp) lT ?_;rintro(_) f σ w H e d b;go_wp21;refine dC (ux E rec hA t g) H b HS rfl lT ?_;rintro(_) f σ w H e d b;go_wp2;go_end0;exact ga b H rfl
theorem Tw (t:gy) (I:jd E t):iZ E 94 (λ_=>#[Bp E,iy E t]) (vh t) uV:=by
 intro f σ w h C;have⟨ao,n,cp,htv⟩:=h.tv;obtain⟨R,g⟩:∃R,R=vh t σ:=⟨_,rfl⟩;rw[<-g]at C|-;have HS:=C;have H:=At.start h;have G:=h.lt;have u:=zh E t w ⟨ao,n,cp,htv⟩;unfold vh at g;cases htg:t.pT with
 |true=>
  have d:t.jh=(if true then E.ta else [])/\Ae E t=#[fV t.a,fV t.b,gu t.name,.slice ao n cp]:=by
   have:=I htg;have⟨a,b,k,gx⟩:=t;cases k<;>simp_all[gy.pT,gy.jh,Ae,gy.name]
  rw[htg,d.1]at g;rw[d.2]at u;have j:=fM u;have l:=fM g;have z:=fM htv;have A:=λw=>zi (t.a:Int) (t.b:Int) t.name ao n cp w;clear g u htv;go_enter func94,ntmps94;go_wp21;refine j.mono ?_;rintro e J ⟨rfl,B⟩;replace H:=H.k0 B;go_wp21;refine dC (DB E true) H l HS (by rw[gv rfl,z.out]) lT ?_;rintro(_) f σ w H F D l;go_wp2;go_end0;exact ga l H rfl
 |false=>
  have d:t.jh=(if false then E.ta else [])/\Ae E t=#[fV 0,fV 0,gu jB,ji]:=by
   have⟨a,b,k,gx⟩:=t;cases k<;>simp_all[gy.pT,gy.jh,Ae,gy.name]
  rw[htg,d.1]at g;rw[d.2]at u;have j:=fM u;have l:=fM g;have A:=λw=>zi 0 0 ⟨#[]⟩ none 0 0 w;clear g u htv;go_enter func94,ntmps94;go_wp21;refine j.mono ?_;rintro e J ⟨rfl,B⟩;replace H:=H.k0 B;go_wp21;refine dC (DB E false) H l HS (by simp) lT ?_;rintro(_) f σ w H F D l;go_wp2;go_end0;exact ga l H rfl
include hF in
theorem Ty (t:gy) (I:jd E t):iZ E 98 (λ_=>#[Bp E,iy E t]) (vi t) uV:=by
 intro f σ w h C;have⟨ao,n,cp,htv⟩:=h.tv;obtain⟨R,g⟩:∃R,R=vi t σ:=⟨_,rfl⟩;rw[<-g]at C|-;have HS:=C;have H:=At.start h;have G:=h.lt;have u:=zh E t w ⟨ao,n,cp,htv⟩;unfold vi at g;cases htg:t.pT with
 |true=>
  have d:t.jh=(if true then E.ta else [])/\Ae E t=#[fV t.a,fV t.b,gu t.name,.slice ao n cp]:=by
   have:=I htg;have⟨a,b,k,gx⟩:=t;cases k<;>simp_all[gy.pT,gy.jh,Ae,gy.name]
  rw[htg,d.1]at g;rw[d.2]at u;have j:=fM u;have l:=fM g;have z:=fM htv;have A:=λw=>zi (t.a:Int) (t.b:Int) t.name ao n cp w;clear g u htv;go_enter func98,ntmps98;go_wp21;refine j.mono ?_;rintro e J ⟨rfl,B⟩;replace H:=H.k0 B;go_wp21;refine dC (DC E hF true) H l HS (by rw[gv rfl,z.out]) lT ?_;rintro(_) f σ w H F D l;go_wp2;go_end0;exact ga l H rfl
 |false=>
  have d:t.jh=(if false then E.ta else [])/\Ae E t=#[fV 0,fV 0,gu jB,ji]:=by
   have⟨a,b,k,gx⟩:=t;cases k<;>simp_all[gy.pT,gy.jh,Ae,gy.name]
  rw[htg,d.1]at g;rw[d.2]at u;have j:=fM u;have l:=fM g;have A:=λw=>zi 0 0 ⟨#[]⟩ none 0 0 w;clear g u htv;go_enter func98,ntmps98;go_wp21;refine j.mono ?_;rintro e J ⟨rfl,B⟩;replace H:=H.k0 B;go_wp21;refine dC (DC E hF false) H l HS (by simp) lT ?_;rintro(_) f σ w H F D l;go_wp2;go_end0;exact ga l H rfl
def Nq (t:gy):iZ E 104 (λ_=>#[Bp E,iy E t]) (yf) uV:=by
 refine dI λf σ w R b HS H=>?_;unfold yf at b;go_enter func104,ntmps104;go_wp21;refine mC (DF E) H b HS rfl lT ?_;rintro(_) σ w H e b;have g:=H.sC;have j:=H.free 192;have d:=H.lt;replace H:=H.jb 4;go_wp2;go_end0;exact ga b H rfl
include hA in
def Dw (t:gy) (g:jd E t):iZ E 105 (λ_=>#[Bp E,iy E t]) (lu rec t) uV:=by
 refine dI λf σ w R b HS H=>?_;unfold lu at b;go_enter func105,ntmps105;go_wp21;refine dC (Nq E t) H b HS rfl lT ?_;rintro(_) f σ w H e d b;go_wp21;refine dC (ux E rec hA t g) H b HS rfl lT ?_;rintro(_) f σ w H e d b;go_wp2;go_end0;exact ga b H rfl
include hF in
def Tt (t:gy) (e:jd E t):iZ E 106 (λ_=>#[Bp E,iy E t]) (rR t) uV:=by
 refine dI λf σ w R b HS H=>?_;unfold rR at b;go_enter func106,ntmps106;go_wp21;refine dC (lw E hF t e) H b HS rfl lT ?_;rintro(_) f σ w H j g b;have l:=H.sC;have u:=H.free 192;have d:=H.lt;replace H:=H.jb 6;go_wp2;go_end0;exact ga b H rfl
include hF hA in
def Mv (t:gy) (j:jd E t):iZ E 108 (λ_=>#[Bp E,iy E t]) (mc rec t) uV:=by
 refine dI λf σ w R b HS H=>?_;unfold mc at b;go_enter func108,ntmps108;go_wp21;refine dC (vw E hF gr) H b HS rfl lT ?_;rintro(_) f σ w H e d b;have l:=H.sC;have u:=H.free 192;have g:=H.lt;replace H:=H.jb 6;go_wp21;refine dC (ux E rec hA t j) H b HS rfl lT ?_;rintro(_) f σ w H e d b;go_wp2;go_end0;exact ga b H rfl
def Nr (t:gy):iZ E 110 (λ_=>#[Bp E,iy E t]) (wK) uV:=by
 refine dI λf σ w R b HS H=>?_;unfold wK at b;go_enter func110,ntmps110;go_wp21;refine mC (DF E) H b HS rfl lT ?_;rintro(_) σ w H d b;have e:=H.sC;have j:=H.free 192;have g:=H.Ux;have l:=H.lt;replace H:=H.jb σ.kept;go_wp2;go_end0;exact ga b H rfl
include hA in
def YS (t:gy) (g:jd E t):iZ E 109 (λ_=>#[Bp E,iy E t]) (zz rec t) uV:=by
 refine dI λf σ w R b HS H=>?_;unfold zz at b;go_enter func109,ntmps109;go_wp21;refine dC (Nr E t) H b HS rfl lT ?_;rintro(_) f σ w H e d b;go_wp21;refine dC (ux E rec hA t g) H b HS rfl lT ?_;rintro(_) f σ w H e d b;go_wp2;go_end0;exact ga b H rfl
def abl (t:gy):iZ E 146 (λ_=>#[Bp E,iy E t]) (Dq) uV:=by
 refine dI λf σ w R b HS H=>?_;unfold Dq at b;go_enter func146,ntmps146;have e:=H.sC;have g:=H.free 192;have d:=H.lt;replace H:=H.jb 17;go_wp2;go_end0;exact ga b H rfl
include hA in
def OL (t:gy) (e:jd E t):iZ E 238 (λ_=>#[Bp E,iy E t]) (sZ rec t) uV:=by
 refine dI λf σ w R b HS H=>?_;unfold sZ at b;go_enter func238,ntmps238;have l:=H.sC;have u:=H.free 192;have d:=H.lt;replace H:=H.jb 6;go_wp21;refine dC (ux E rec hA t e) H b HS rfl lT ?_;rintro(_) f σ w H j g b;go_wp2;go_end0;exact ga b H rfl
end
def RF.Si {σ:Ab} (h:RF E f σ w):Calls prog 170 #[jG E.bB 188] w λe w'=>e=ig (oV f σ.last)/\w'=w:=by
 obtain⟨L,rfl,b⟩:=h;exact Vs b
def RF.ajc {σ:Ab} (h:RF E f σ w):Calls prog 260 #[jG E.bB 189] w λe w'=>e=ig (fV σ.act.length)/\w'=w:=by
 obtain⟨L,rfl,b⟩:=h;exact agp b
def RF.atA {σ:Ab} (h:RF E f σ w) (n:Int):Calls prog 239 #[jG E.bB 189,fV n] w λe w'=>e=ig (oV f (io σ.act n))/\w'=w:=by
 obtain⟨L,rfl,b⟩:=h;exact ajW b n
def RF.atO {σ:Ab} (h:RF E f σ w) (n:Int):Calls prog 239 #[jG E.bB 188,fV n] w λe w'=>e=ig (oV f (io σ.gq n))/\w'=w:=by
 obtain⟨L,rfl,b⟩:=h;exact ajl b n
def RF.ai7 {σ:Ab} (h:RF E f σ w) (x:iY) (d:σ.gR x=true):Calls prog 313 #[jG E.bB 188,oV f x] w λe w'=>e=ig (.bool (decide (x∈σ.gq)))/\w'=w:=by
 obtain⟨L,rfl,b⟩:=h;exact ajm b x d
def RF.ai6 {σ:Ab} (h:RF E f σ w) (x:iY) (d:σ.gR x=true):Calls prog 313 #[jG E.bB 189,oV f x] w λe w'=>e=ig (.bool (decide (x∈σ.act)))/\w'=w:=by
 obtain⟨L,rfl,b⟩:=h;exact aiR b x d
def RF.ahb {σ:Ab} (h:RF E f σ w) (x:iY) (d:σ.gR x=true):Calls prog 237 #[jG E.bB 188,oV f x] w λe w'=>e=ig (oV f (io σ.gq (posOf σ.gq x - 1)))/\w'=w:=by
 obtain⟨L,rfl,b⟩:=h;exact zQ b x d
def RF.agq {σ:Ab} (h:RF E f σ w) (n:Int):σ.gR (io σ.act n)=true:=by
 obtain⟨L,rfl,g⟩:=h;unfold io;by_cases d:0<=n/\n < σ.act.length
 .rw[gv d];have b:n.toNat < σ.act.length:=by omega
  have e:σ.act.getD n.toNat none=σ.act[n.toNat]:=by simp[List.getD,b]
  rw[e];exact g.wf.act _ (uG b)
 .rw[gH d];rfl
def aeL {σ:Ab} (h:RF E f σ w) (x:iY) (d:σ.gR x=true):
  Calls prog 265 #[Bp E,oV f x] w λe w'=>e=ig (.bool (σ.Vd x))/\w'=w:=by
 have C:=h.ai7 x d;unfold Ab.Vd;cases x with
 |none=>
  go_enter func265,ntmps265;go_wp2;go_ret;simp
 |some i=>
  have b:oV f (some i)=gE (f i):=rfl;rw[b]at C|-;go_enter func265,ntmps265;go_wp21;refine C.mono ?_;rintro e w' ⟨rfl,rfl⟩;go_wp2;go_ret;simp
theorem Dg (E:Env) (x:iY):kj E 281 (λf=>#[Bp E,oV f x]) (kA x) uV:=by
 intro f σ w ⟨L,e,h⟩ u;subst e;have I:=h.low (j:=1) (by decide) h.Fb.2.1;have⟨_,_,_,_,hd,_⟩:=h.Fb;have H:=h.F0;have g:=(λq=>agp (h.drewN q));unfold kA at u|-;by_cases l:σ.rH<=σ.act.length
 .rw[gv l];have d:=(λq=>Qe (h.drewN q) 6);go_enter func281,ntmps281;go_wp21
  go_quiet ((go_at_call 260;exact lD (g _)))
  go_wp21;refine(d nq).mono ?_;rintro e w' ⟨k,rfl,z,F⟩;have A:=(Fr.drewN w nq).trans F;go_wp2;exact⟨rfl,k,rfl,z,A⟩
 .rw[gH l]at u|-;have b:σ.gR x=true:=by
   by_cases b:σ.gR x=true
   .exact b
   .grind
  rw[gv b];have d:=(λq=>ag8 (h.drewN q) x b (by omega));go_enter func281,ntmps281;go_wp21
  go_quiet ((go_at_call 260;exact lD (g _)))
  go_wp21;refine(d nq).mono ?_;rintro e w' ⟨rfl,D,e1,C,G⟩;have B:=(Fr.drewN w nq).trans G;go_wp2;go_end0;exact⟨rfl,⟨D,e1,C⟩,B,gL _⟩
def M.tail {α:Type} {m:M α} {σ:Ab} {R:pM α} (h:R=m σ):R=(m>>=λa=>(Pure.pure a:M α)) σ:=by rw[M.bind_pure];exact h
def AP (E:Env):kj E 214 (λ_=>#[Bp E]) (kA none) uV:=by
 refine mI λf σ w R b HS H=>?_;go_enter func214,ntmps214;replace b:=fM (M.tail b);go_wp21;refine mC (Dg E none) H b HS rfl mT ?_;rintro(_) σ w H d b;go_wp2;go_end0;exact j7 b H rfl
def TS (E:Env):kj E 280 (λ_=>#[Bp E]) xM uV:=by
 refine mI λf σ w R b HS H=>?_;unfold xM at b;go_enter func280,ntmps280;go_wp21;refine mC (aaH E none) H b HS rfl mT ?_;rintro(_) σ w H d b;go_wp2;go_end0;exact j7 b H rfl
def ZO {σ:Ab}:σ.vc ((xs++[x]).reverse)=if σ.Vd x then xs.length+1 else σ.vc xs.reverse:=by
 simp[Ab.vc]
attribute [local go_sem] Oper.semAt_some
theorem Hk {σ:Ab}:∀{xs:kG},(∀y∈xs,(!kJ (σ.rL y) fQ)=true\/y=io σ.gq 0)->sP σ xs=none
 |[],_=>rfl
 |x::xs,h=>by
  unfold sP;rw[gv (by grind)];exact Hk λy b=>h y (by simp[b])
theorem Hl {σ:Ab} (b:¬((!kJ (σ.rL y) fQ)=true\/y=io σ.gq 0)):∀{xs:kG},(∀y∈xs,(!kJ (σ.rL y) fQ)=true\/y=io σ.gq 0)->sP σ (xs++[y]++rest)=some y
 |[],_=>by
  grind[sP]
 |x::xs,h=>by
  show sP σ (x::(xs++[y]++rest))=some y;unfold sP;rw[gv (by grind)];exact Hl b λy d=>h y (by simp[d])
def DE {b : gm} {s : Nat} (d:Kept [] W b) (hw:Kept [] w W) (e:w.heap.size<=s) (g:b.heap[s]?=some (gz #[.pointer none,fV 0] 229)) (v0 v1:gG):
  Kept [s] W ((b.setCell ⟨s,0,none⟩ v0).setCell ⟨s,1,none⟩ v1)/\Kept [] w ((b.setCell ⟨s,0,none⟩ v0).setCell ⟨s,1,none⟩ v1)/\((b.setCell ⟨s,0,none⟩ v0).setCell ⟨s,1,none⟩ v1).heap[s]?=some (gz #[v0,v1] 229):=
 ⟨((d.mono (by simp)).setCell (.inl (by simp)) _).setCell (.inl (by simp)) _,(((hw.trans d)).setCell (.inr e) _).setCell (.inr e) _,fR (fR g 0 v0) 1 v1⟩
def ZC {b : gm} {s : Nat} (e:Kept [] W b) (hw:Kept [] w W) (g:w.heap.size<=s) (d:b.heap[s]?=some (gz #[.pointer none,fV 0] 229)) (v0 v1:gG) (o:Obj):
  Kept [s] W (((b.setCell ⟨s,0,none⟩ v0).setCell ⟨s,1,none⟩ v1).alloc o)/\Kept [] w (((b.setCell ⟨s,0,none⟩ v0).setCell ⟨s,1,none⟩ v1).alloc o)/\(((b.setCell ⟨s,0,none⟩ v0).setCell ⟨s,1,none⟩ v1).alloc o).heap[s]?=some (gz #[v0,v1] 229):=by
 have⟨h1,h2,h3⟩:=DE e hw g d v0 v1;exact⟨h1.alloc _,h2.alloc _,((Kept.refl [] _).alloc o).at h3 (by simp)⟩
theorem iF (E:Env):lL E:=by
 intro f σ w h hs;have an:∃pl,jK σ= .ok pl σ:=by
  cases d:jK σ with
  |ok pl σ1=>exact⟨pl,by rw[pt d]⟩
  |stop c p=>
   exfalso;unfold jK at d;split at d
   .split at d
    .unfold lM at d;split at d
     .split at d
      .grind
      .split at d
       .unfold jr at d;grind
       grind
     grind
    .cases d
    .split at d
     .unfold jr at d;grind
     grind
   grind
  |stuck=>grind
 have⟨pl0,hpl0⟩:=an;have a0:σ.Bt=true:=by
  cases ht:σ.Bt with
  |true=>rfl
  |false=>unfold jK at hpl0;grind
 rw[hpl0];obtain⟨L,rfl,u⟩:=h;refine(BI (n:=3)).1 ?_;refine BK func258 rfl trivial ?_ rfl;simp only[ntmps258,xQ,rn,uI,Nat.reduceAdd,Nat.reduceSub,xR,xS,xU,xV,rp,tU];have av:=u.lt;obtain⟨F,H⟩:∃F,F=(w.alloc (gz #[Bp E] 116)).alloc (gz #[.pointer none,fV 0] 229):=⟨_,rfl⟩;have ac:Kept [] w F:=by rw[H];exact((Kept.refl _ _).alloc _).alloc _
 have ar:F.heap[w.heap.size]?=some (gz #[Bp E] 116):=by
  have:=(tD w (gz #[Bp E] 116) (gz #[.pointer none,fV 0] 229)).1
  rwa [<-H]at this
 obtain⟨w1,a1⟩:∃w1,w1=F.alloc (gz #[oV L.gI (io σ.gq 0)] 65):=⟨_,rfl⟩;have ai:Kept [] w w1:=by rw[a1];exact ac.alloc _
 have⟨b0,b1,b2⟩:=oS w (gz #[Bp E] 116) (gz #[.pointer none,fV 0] 229) (gz #[oV L.gI (io σ.gq 0)] 65);rw[<-H,<-a1]at b0 b1 b2;have a5:F.heap.size=w.heap.size+1+1:=by rw[H];simp
 have I:w1.heap.size=w.heap.size+1+1+1:=by rw[a1];simp[a5]
 have CA:=ajl (u.ib ac) 0;have aw:=u.ib ai;have⟨C,HL,hC⟩:=aw.zJ;have HU:=Zn E.bs E.bB 188 _ C _ _ w1 HL;have HO:=(λg (X:L.ov.ownBlock=some g)=>DL u.pR X);have HN:=(λ(W:gm) (j:Kept [] w W) (i:Nat) (e:yp) (hi:σ.gV i=some e)=>(u.ib j).we hi);have HS:=(λ(y:iY) (hy:y∈σ.gq)=>u.oM hy);have HI:=fM u.inj;have HE:=(λ(W:gm) (j:Kept [] w W) (x:iY) (hx:σ.gR x=true)=>(u.ib j).gR hx);have HZ:=fM I;have a8:=fM a5;have aq:=fM H;have HW:=fM a1;clear I a1 a5 H;have ay:F.cell? ⟨w.heap.size,0,none⟩=some (Bp E):=by rw[fN ar];rfl
 have aA:E.bB < F.heap.size:=lU av ac.size;have aB:w.heap.size < F.heap.size:=by have:=a8.out;omega
 gi_wp2_with fail
 rw[<-aq.out];refine⟨trivial,(callsIn_wide.2 CA).mono ?_⟩;rintro e F ⟨rfl,rfl⟩
 gi_wp2_with fail
 rw[<-HW.out];refine⟨trivial,(callsIn_wide.2 HU).mono ?_⟩;rintro e w' ⟨rfl,rfl⟩;gi_wp2;refine FJ (by omega) (f:=ir L.gI) (λx y e=>sE HI.out e) HL rfl [] [w.heap.size+1] (by simp) (by grind)
  (λpre W=>Kept [] w W/\W.heap[w.heap.size]?=some (gz #[Bp E] 116)/\W.heap[w.heap.size+1]?=some (gz #[.pointer none,fV 0] 229)/\W.heap[F.heap.size]?=some (gz #[oV L.gI (io σ.gq 0)] 65)/\∀y∈pre,(!kJ (σ.rL y) fQ)=true\/y=io σ.gq 0)
  (λc pre W=>c= .ret/\Kept [] w W/\∃z i pl,pre=z++[some i]/\(∀y∈z,(!kJ (σ.rL y) fQ)=true\/y=io σ.gq 0)/\¬((!kJ (σ.rL (some i)) fQ)=true\/some i=io σ.gq 0)/\lM i σ= .ok pl σ/\W.heap[w.heap.size+1]?=some (gz #[gE (L.gI pl.1),fV pl.2] 229))
  ?_ ?_ ?_ (λx=>{tmps:=#[Bp E,gE w.heap.size,gE (w.heap.size+1),gE F.heap.size,ku x,undef,undef,Bp E,gE E.bB,jG E.bB 188,oV L.gI (io σ.gq 0),Bp E,gE E.bB,jG E.bB 188,vO w1.heap.size,ku x,undef,undef,undef,undef,undef,undef,undef,undef,undef,undef,undef,undef,undef,undef,undef,undef,undef,undef,undef,undef,undef,undef,undef,undef,undef],defers:=[]}) ?assign ?body ?done ?stopx
 .rintro s A B ax ⟨h1,h2,h3,h4,h5⟩ X hr;have I:=HZ.out;have a5:=a8.out;exact⟨mx h1 X hr (by omega),kQ h2 X hr (by omega),kQ h3 X hr (by omega),kQ h4 X hr (by omega),h5⟩
 .rintro c s A B ax ⟨h0,h1,z,i,pl,h2,h3,h4,h5,h6⟩ X hr;have I:=HZ.out;exact⟨h0,mx h1 X hr (by omega),z,i,pl,h2,h3,h4,h5,kQ h6 X hr (by omega)⟩
 .have j:Kept [] w1 (mP E.bB 188 (σ.gq.length) w1):=((Kept.refl _ _).alloc _).alloc _;refine⟨ai.trans j,j.at b0 (by simp),j.at b1 (by simp),?_,by simp⟩;rw[a8.out];exact j.at b2 (by simp)
 case assign=>
  intro l x W K hK;gi_wp2;exact hK
 case body=>
  rintro l pre y W hy ⟨G,h2,B3,B4,B5⟩;obtain⟨i,e0,rfl,hi⟩:=HS y hy;have N:=u.ib G;have c0:=HN W G i e0 hi;have c1:W.cell? ⟨w.heap.size,0,none⟩=some (Bp E):=by rw[fN h2];rfl
  have c2:W.cell? ⟨F.heap.size,0,none⟩=some (oV L.gI (io σ.gq 0)):=by rw[fN B4];rfl
  have R:(binOp .eql 65 (gE (L.gI i)) (oV L.gI (io σ.gq 0))).run prog W= .ok (.bool (decide (some i=io σ.gq 0))) W:=by
   have au:σ.gR (io σ.gq 0)=true:=by
    unfold io;by_cases hn:(0:Int)<=0/\(0:Int) < σ.gq.length
    .rw[gv hn];have aj:0 < σ.gq.length:=by omega
     show σ.gR (σ.gq.getD 0 none)=true;rw[xX,qs aj];exact Ab.wO (N.wf.gq _ (uG aj))
    .rw[gH hn];rfl
   have R:=Ds (HE W G (some i) (by show(σ.gV i).isSome=true;rw[hi];rfl)) (HE W G _ au);rw[decide_eq_decide.2 (⟨λe=>sE HI.out e,λe=>by rw[e]⟩:ir L.gI (some i)=ir L.gI (io σ.gq 0)↔some i=io σ.gq 0)]at R;exact R
  have a4:kJ (σ.rL (some i)) fQ=((σ.nm i).toList==[116,97,98,108,101]):=by
   show kJ (σ.nm i) _=_;unfold kJ;rw[sK fQ]
  have B2:=fM h2;have J:=fM hi;clear h2 hi
  try dsimp only
  rw[show ku (ir L.gI (some i))=gE (L.gI i)from rfl];cases htb:((σ.nm i).toList==[116,97,98,108,101])with
  |false=>
   rw[htb]at a4;have HG:Hid ((!kJ (σ.rL (some i)) fQ)=true\/some i=io σ.gq 0):=fM (.inl (by rw[a4];rfl));have ao:((σ.nm i).toList != [116,97,98,108,101])=true:=by simp[bne,htb]
   gi_wp2;refine⟨Kept.refl _ _,G,B2.out,B3,B4,λy hy=>?_⟩;grind
  |true=>
   rw[htb]at a4;have ao:((σ.nm i).toList != [116,97,98,108,101])=false:=by simp[bne,htb]
   by_cases U:some i=io σ.gq 0
   .rw[vQ U]at R;have HG:Hid ((!kJ (σ.rL (some i)) fQ)=true\/some i=io σ.gq 0):=fM (.inr U);gi_wp2;refine⟨Kept.refl _ _,G,B2.out,B3,B4,λy hy=>?_⟩;grind
   .rw[wy U]at R;have HG:Hid (¬((!kJ (σ.rL (some i)) fQ)=true\/some i=io σ.gq 0)):=fM (by rw[a4];simp[U]);have ah:(lM i σ).isOk=true:=by
     have:=List.all_eq_true.1 a0 (some i) hy;simp only[Bool.or_eq_true,BC]at this;rcases this with(h|h)|h
     .exfalso;have e:kJ (σ.rL (some i)) fQ=kJ (σ.nm i) fQ:=rfl;grind
     .exact absurd h U
     .exact h
    cases hp:e0.je with
    |some p=>
     have O:∃ep,σ.gV p=some ep/\0<=qE ep.kids (Nd.gR i)/\lM i σ= .ok (p,(qE ep.kids (Nd.gR i)).toNat) σ:=by
      have j:=ah;unfold lM at j|-;rw[J.out]at j|-;simp only[hp]at j|-;cases d:σ.gV p with
      |none=>rw[d]at j;simp[pM.isOk]at j
      |some ep=>
       simp only[d]at j|-;by_cases al:0<=qE ep.kids (Nd.gR i)
       .grind
       .rw[gH al]at j;simp[pM.isOk]at j
     have⟨ep,O,al,hfa⟩:=O;have CF:=TH N J.out hp O;obtain⟨q,d⟩:∃q:Nat,qE ep.kids (Nd.gR i)=(q:Int):=⟨(qE ep.kids (Nd.gR i)).toNat,by omega⟩;rw[d]at CF hfa;have a6:Hid (lM i σ= .ok (p,q) σ):=fM (by rw[hfa];rfl);clear hfa
     gi_wp2_with fail
     refine⟨trivial,(LO l (callsIn_wide.2 CF)).mono ?_⟩;rintro e W2 ⟨rfl,ad,af⟩;have b:=af.at B3 (by simp);have d0:W2.cell? ⟨w.heap.size+1,0,none⟩=some (.pointer none):=by rw[fN b];rfl
     have d1:W2.cell? ⟨w.heap.size+1,1,none⟩=some (fV 0):=by rw[fN b];rfl
     have g0:=gh b 0;have g1:=gh b 1;have az:w.heap.size+1 < W2.heap.size:=iQ b;have a2:=fM b;gi_wp2;have⟨t1,t2,t3⟩:=ZC af G (sy _) a2.out (gE (L.gI p)) (fV q) (gz #[gE (L.gI p),fV q] 229);exact⟨t1,rfl,t2,pre,i,(p,q),rfl,B5,HG.out,a6.out,t3⟩
    |none=>
     have O:∃q e,io σ.gq (posOf σ.gq (some i) - 1)=some q/\σ.gV q=some e/\lM i σ= .ok (q,e.kids.length) σ:=by
      have j:=ah;unfold lM at j|-;rw[J.out]at j|-;simp only[hp]at j|-;cases d:io σ.gq (posOf σ.gq (some i) - 1)with
      |none=>rw[d]at j;simp[pM.isOk]at j
      |some q=>
       simp only[d]at j|-;unfold jr at j|-;cases hq2:σ.gV q with
       |none=>rw[hq2]at j;simp[pM.isOk]at j
       |some e=>grind
     have⟨q,eq,aa,S,hfa⟩:=O;have CF:=We N J.out hp;have a6:=fM hfa;have ap:=(λ(W':gm) (j:Kept [] W W')=>(show Calls prog 237 #[jG E.bB 188,gE (L.gI i)] W' (λe w'=>e=ig (gE (L.gI q))/\w'=W')from by
      have:=zQ (N.ib j) (some i) (by show(σ.gV i).isSome=true;rw[J.out];rfl)
      rwa [aa]at this))
     have CE:=(λ(W':gm) (j:Kept [] W W')=>TF (N.ib j) S);clear hfa
     gi_wp2_with fail
     refine⟨trivial,(LO l (callsIn_wide.2 CF)).mono ?_⟩;rintro e W2 ⟨rfl,ad,ab⟩;have a7:Kept [] W (W2.alloc (gz #[.pointer none,fV 0] 229)):=ab.alloc _;have e1:W2.cell? ⟨w.heap.size,0,none⟩=some (Bp E):=by rw[fN (ab.at B2.out (by simp))];rfl
     have aC:w.heap.size < W2.heap.size:=iQ (ab.at B2.out (by simp))
     gi_wp2_with fail
     refine⟨trivial,(LO l (callsIn_wide.2 (ap _ a7))).mono ?_⟩;rintro e W3 ⟨rfl,rfl⟩
     gi_wp2_with fail
     refine⟨trivial,(LO l (callsIn_wide.2 (CE _ a7))).mono ?_⟩;rintro e W4 ⟨rfl,ae,Y⟩;have a3:=a7.trans Y;have b:=a3.at B3 (by simp);have d0:W4.cell? ⟨w.heap.size+1,0,none⟩=some (.pointer none):=by rw[fN b];rfl
     have d1:W4.cell? ⟨w.heap.size+1,1,none⟩=some (fV 0):=by rw[fN b];rfl
     have g0:=gh b 0;have g1:=gh b 1;have a2:=fM b;gi_wp2;have⟨t1,t2,t3⟩:=DE a3 G (sy _) a2.out (gE (L.gI q)) (fV eq.kids.length);exact⟨t1,rfl,t2,pre,i,(q,eq.kids.length),rfl,B5,HG.out,a6.out,t3⟩
 case done=>
  rintro D W HD ⟨G,h2,B3,h4,h5⟩ hK;have V:∃q e,io σ.gq 0=some q/\σ.gV q=some e/\pl0=(q,e.kids.length):=by
   have d:=hpl0;unfold jK at d;rw[gv a0,Hk h5]at d;simp only at d;cases X:io σ.gq 0 with
   |none=>grind
   |some q=>
    rw[X]at d;simp only at d;unfold jr at d;grind
  obtain⟨q,eq,aa,S,rfl⟩:=V;have c2:W.cell? ⟨F.heap.size,0,none⟩=some (gE (L.gI q)):=by rw[fN h4,aa];rfl
  have CE:=TF (u.ib G) S;clear h2
  gi_wp2_with fail
  refine⟨trivial,(callsIn_wide.2 CE).mono ?_⟩;rintro e W4 ⟨rfl,ae,Y⟩;have b:=Y.at B3 (by simp);have d0:W4.cell? ⟨w.heap.size+1,0,none⟩=some (.pointer none):=by rw[fN b];rfl
  have d1:W4.cell? ⟨w.heap.size+1,1,none⟩=some (fV 0):=by rw[fN b];rfl
  have g0:=gh b 0;have g1:=gh b 1;have ag:=(Y.block D (Array.getElem?_eq_some_iff.1 hK).1 (by simp)).trans hK;have⟨t1,T2,T3⟩:=DE Y G (sy _) b (gE (L.gI q)) (fV eq.kids.length);have a2:=fM b;have a3:=((((Kept.refl [w.heap.size+1] W4).setCell (p:=⟨w.heap.size+1,0,none⟩) (.inl (by simp)) (gE (L.gI q))).setCell (p:=⟨w.heap.size+1,1,none⟩) (.inl (by simp)) (fV eq.kids.length)).block D (Array.getElem?_eq_some_iff.1 ag).1 (by have:=HZ.out;grind)).trans ag;gi_wp2;refine⟨by simp,.inl ⟨_,_,rfl,sL a3,?_⟩⟩;have I:=HZ.out;have hD:=HD;have a9:(World.putObj _ D (.deferred none)).heap[w.heap.size+1]?=_:=(sg (by omega)).trans T3;have Z:=T2.take (D:=D) (by omega) (.deferred none);refine⟨pV L.gI (q,eq.kids.length),?_,rfl,⟨L,rfl,u.ib Z⟩,.gN Z,gL _⟩;simp[results,results258,asAddr,Result.andThen,go_sem,fN a9]
 case stopx=>
  rintro D c pre W HD ak ⟨rfl,G,z,i,pl,rfl,h3,h4,h5,T3⟩ hK;have V:pl0=pl:=by
   have⟨rest,hrest⟩:=ak;have d:=hpl0;unfold jK at d;rw[gv a0,<-hrest,Hl h4 h3]at d;simp only at d;rw[h5]at d;cases d;rfl
  subst V;gi_wp2;refine⟨by simp,.inl ⟨_,_,rfl,sL hK,?_⟩⟩;have I:=HZ.out;have hD:=HD;have a9:(World.putObj _ D (.deferred none)).heap[w.heap.size+1]?=_:=(sg (by omega)).trans T3;have Z:=G.take (D:=D) (by omega) (.deferred none);refine⟨pV L.gI pl0,?_,rfl,⟨L,rfl,u.ib Z⟩,.gN Z,gL _⟩;simp[results,results258,asAddr,Result.andThen,go_sem,fN a9]
section
variable {α β:Type} {E:Env} {f0:Nat->Nat} {n0:Nat} {w0:gm} {f:Nat->Nat} {σ:Ab} {w:gm}
theorem iZ.Ra {k:Nat} {args:(Nat->Nat)->jA} {m:M α} {l:(Nat->Nat)->α->gG} (D:iZ E k args m l) (H:At E f0 n0 w0 f σ w) {R:pM β} {K:α->M β} (d:R=(m>>=K) σ) (O:R≠ .stuck) {A:jA} (hA:args f=A) {Q:Ending->gm->Prop}
  (C:∀c p j w',R= .stop c p->km w' j c p->Fr E.bs w0 w'->Q (rh j) w')
  (B:∀a g b w',At E f0 n0 w0 g b w'->Uh σ.nodes.length f g->Fr E.bs w w'->R=K a b->m σ= .ok a b->Q (ig (l g a)) w'):Calls prog k A w Q:=by
 rw[M.gn]at d;have I:m σ≠ .stuck:=λe=>O (by grind);have h:=D f σ w H.rel I;rw[hA]at h;refine h.mono ?_;intro e w' u;cases hr:m σ with
 |ok a b=>
  rw[hr]at u d;obtain⟨g,F,z,rfl,N,G⟩:=u;exact B a g b w' (H.go N F z G) F G d hr
 |stop c p=>
  rw[hr]at u d;obtain⟨j,rfl,z,J⟩:=u;exact C c p j w' d z (H.fr.trans J)
 |stuck=>exact absurd hr I
theorem kj.Ra {k:Nat} {args:(Nat->Nat)->jA} {m:M α} {g:(Nat->Nat)->α->gG} (D:kj E k args m g) (H:At E f0 n0 w0 f σ w) {R:pM β} {K:α->M β} (d:R=(m>>=K) σ) (N:R≠ .stuck) {A:jA} (hA:args f=A) {Q:Ending->gm->Prop}
  (z:∀c p j w',R= .stop c p->km w' j c p->Fr E.bs w0 w'->Q (rh j) w')
  (u:∀a b w',At E f0 n0 w0 f b w'->Fr E.bs w w'->R=K a b->m σ= .ok a b->Q (ig (g f a)) w'):Calls prog k A w Q:=by
 rw[M.gn]at d;have C:m σ≠ .stuck:=λe=>N (by grind);have h:=D f σ w H.rel C;rw[hA]at h;refine h.mono ?_;intro e w' l;cases hr:m σ with
 |ok a b=>
  rw[hr]at l d;obtain⟨rfl,I,B,J⟩:=l;exact u a b w' (H.to I J B) B d hr
 |stop c p=>
  rw[hr]at l d;obtain⟨j,rfl,F,G⟩:=l;exact z c p j w' d F (H.fr.trans G)
 |stuck=>exact absurd hr C
def mE {k:Nat} {args:(Nat->Nat)->jA} {m:M α} {d:(Nat->Nat)->α->gG} (D:kj E k args m d) (H:Hid (At E f0 n0 w0 f σ w)) {R:pM β} {K:α->M β} (B:Hid (R=(m>>=K) σ)) (C:Hid (R≠ .stuck)) {A:jA} (hA:args f=A) {Q:Ending->gm->Prop}
  (g:∀c p j w',Hid (R= .stop c p/\km w' j c p/\Fr E.bs w0 w')->Q (rh j) w')
  (e:∀a b w',Hid (At E f0 n0 w0 f b w')->Hid (Fr E.bs w w')->Hid (R=K a b)->Hid (m σ= .ok a b)->Q (ig (d f a)) w'):Calls prog k A w Q:=kj.Ra D H B C hA (λc p j w' l u z=>g c p j w' ⟨l,u,z⟩) e
end
def adT {σ:Ab} (h:RF E f σ w) (x y:iY) (b:qg x y σ≠ .stuck):
  Calls prog 267 #[jG E.bB 189,oV f x,oV f y] w λe w'=>e=pL/\qg x y σ= .ok () {σ with act:=qo σ.act x y}/\RF E f {σ with act:=qo σ.act x y} w'/\Fr E.bs w w':=by
 have:=adU E x y f σ w h b;unfold qg at this b|-;by_cases d:(σ.gR x&&σ.gR y)=true
 .rw[gv d]at this|-;exact this.mono (λe w' h=>⟨h.1,rfl,h.2.1,h.2.2.1⟩)
 .rw[gH d]at b;exact absurd rfl b
theorem Tg (xs:kG) (x y:iY):(qo xs x y).length=xs.length:=by
 grind[qo]
theorem R8 {j : Nat} {σ σ':Ab} (h:lN j σ= .ok () σ'):σ'.act=σ.act:=by
 unfold lN at h;rw[M.gn]at h;cases b:mD σ with
 |stuck=>grind
 |stop c p=>grind
 |ok pl σ1=>
  have e1:σ1=σ:=by
   unfold mD at b;cases hl:σ.last with
   |none=>grind
   |some i=>
    rw[hl]at b;have b:placeFor i σ= .ok pl σ1:=b;unfold placeFor at b;split at b
    .exact pt b
    .exact pX b
  rw[e1]at b;rw[b]at h;simp only at h;rw[M.gn]at h;cases h2:mL pl j σ with
  |stuck=>grind
  |stop c p=>grind
  |ok u σ2=>
   have e2:σ2.act=σ.act:=by
    unfold mL at h2;split at h2
    .split at h2
     .cases h2;rfl
     grind
    .cases h2
   rw[h2]at h;simp only at h;rw[M.gn]at h;cases h3:uo (some j) σ2 with
   |stuck=>grind
   |stop c p=>grind
   |ok u σ3=>
    rw[h3]at h;have e:σ3.act=σ2.act:=by
     unfold uo at h3;split at h3
     .cases h3
     .grind
    have:σ3=σ':=by
     have d:(pM.ok () σ3:pM Unit)= .ok () σ':=h;cases d;rfl
    grind
theorem sG (E:Env) (hF:lL E):iZ E 181 (λ_=>#[Bp E]) lz uV:=by
 intro f σ w J HS;obtain⟨R,hR⟩:∃R,R=lz σ:=⟨_,rfl⟩;rw[<-hR]at HS|-;have H:=At.start J;have a0:R=IM (σ.act.length - σ.Bm) σ.Bm σ:=hR;have C:=fM a0;have C1:=J.ajc;have aj:=J.lt;have au:σ.act.length<=4096:=by have⟨L,_,hr⟩:=J;exact hr.F0
 have ak:σ.Bm<=σ.act.length:=by
  have:∀xs:kG,σ.vc xs<=xs.length:=by
   intro xs
   induction xs with
   |nil=>simp[Ab.vc]
   |cons x xs ih=>
    show(if σ.Vd x then xs.length+1 else σ.vc xs)<=xs.length+1;split<;>omega
  have:=this σ.act.reverse
  rwa [List.length_reverse]at this
 clear hR a0;go_enter func181,ntmps181;go_wp21;refine C1.mono ?_;rintro e w ⟨rfl,rfl⟩;go_wp21;rename_i K N;have V:∀(u8 u9 a4 a5 a6 a7 a8 a9 aa ab ac ad ae af ag:gG),K {tmps:=#[Bp E,undef,fV σ.Bm,undef,Bp E,gE E.bB,jG E.bB 189,fV σ.act.length,u8,u9,a4,a5,a6,a7,a8,a9,aa,ab,ac,ad,ae,af,ag,undef,undef,undef,undef,undef,undef,undef,undef,undef,undef,undef,undef,undef,undef,undef,undef,undef,undef,undef,undef,undef,undef,undef,undef,undef,undef],defers:=[]} w:=by
  intro u8 u9 a4 a5 a6 a7 a8 a9 aa ab ac ad ae af ag;refine N _ _ ?_;have ar:=ak;clear N C1;go_wp21
  go_loopw [2,3] (λv v3 wr=>∃(k n:Nat) (g:Nat->Nat) (u:Ab),v=fV n/\n+k=σ.act.length/\At E f σ.nodes.length w g u wr/\R=IM k n u/\u.act.length=σ.act.length) (λv _ _=>σ.act.length - (intOf v).toNat)
  case atStart=>exact⟨σ.act.length - σ.Bm,σ.Bm,f,σ,rfl,by omega,H,C,rfl⟩
  case round=>
   obtain⟨k,n,g,u,rfl,av,H,Z,X⟩:=hrel;have C:=fM Z;have G:=H.rel.ajc;rw[X]at G;have aj:=H.lt;clear Z;cases k with
   |zero=>
    have e0:(n:Int)=(σ.act.length:Int):=by omega
    have O:((n:Int) < (σ.act.length:Int))=False:=by simp;omega
    go_wp21;refine G.mono ?_;rintro e w' ⟨rfl,rfl⟩;go_wp2;go_end0;exact ga C H rfl
   |succ k=>
    have O:(n:Int) < (σ.act.length:Int):=by omega
    have A:∃d,io u.act (n:Int)=some d:=by
     cases hg:io u.act (n:Int)with
     |some i=>simp
     |none=>
      exfalso;apply HS;rw[C.out];unfold IM;rw[M.gn];unfold Cn;rw[hg]
    have⟨d,A⟩:=A;have B:=H.rel.agq (n:Int);have z:=H.rel.atA (n:Int);rw[A]at z B;have ai:=fM (Ab.mi B);replace C:Hid (R=(kB d>>=λj=>(do
      lN j
      po d
      IM k (n+1):M Unit)) u):=by
     refine fM (C.trans ?_);show(Cn n>>=_) u=_;rw[M.gn];unfold Cn;rw[A]
    clear A B;go_wp21;refine G.mono ?_;rintro e wr ⟨rfl,rfl⟩;go_wp21;refine z.mono ?_;rintro e wr ⟨rfl,rfl⟩;rw[show oV g (some d)=gE (g d)from rfl];clear z G;go_wp21;refine iZ.Ra (M8 E d) H C HS rfl ?_ ?_
    .intro c p j ws H1 H2 H3;go_wp2;exact⟨rfl,pU H1 H2 H3⟩
    rintro j g2 ao w2 S h0 h2 Y F;have HX:=fM h0;have HJ:Hid (ao.act=u.act):=by
     unfold kB at F;split at F
     .split at F
      .cases F
      .cases F;rfl
     .cases F
    clear F;replace H:=S;replace C:=fM Y;clear S h0 h2 Y;go_wp21;refine kj.Ra (EK E hF j) H C HS rfl ?_ ?_
    .intro c p j ws H1 H2 H3;go_wp2;exact⟨rfl,pU H1 H2 H3⟩
    rintro⟨⟩ D w3 S h2 Y F;have ah:Hid (D.act=u.act):=fM ((R8 F).trans HJ);clear F;replace H:=S;replace C:=fM Y;have ap:=S.lt;clear S h2 Y;have a2:qg (some d) D.last D≠ .stuck:=by
     intro an;apply HS;rw[C.out,M.gn];unfold po;rw[an]
    have CL:=(H.k0 ((Kept.refl _ w3).drew)).rel.Si;have U:=adT (H.k0 ((Kept.refl _ w3).drew)).rel (some d) D.last a2;rw[show oV g2 (some d)=gE (g d)from by show gE (g2 d)=_;rw[HX.out d ai.out]]at U;clear a2;go_wp21
    go_region_with (first
     |(go_at_call 170;refine CL.mono ?_;rintro e w4 ⟨rfl,rfl⟩)
     |(go_at_call 267;refine U.mono ?_;rintro e w5 ⟨rfl,q1,q2,q3⟩;have HZ:=fM ((H.k0 ((Kept.refl _ w3).drew)).to q2 (tk _ _ rfl) q3);have HQ:=fM q1;clear q1 q2 q3))
    all_goals (try (go_wp21))
    all_goals refine⟨⟨k,n+1,g2,_,by simp,by omega,HZ,?_,?_⟩,by simp[intOf];omega⟩
    .rw[C.out,M.gn];unfold po;rw[HQ.out]
    .show(qo D.act (some d) D.last).length=σ.act.length;rw[Tg,ah.out];exact X
 clear N H C C1
 go_loopw [2] (λv wr=>∃k:Nat,k<=σ.act.length/\v=fV k/\σ.vc (σ.act.take k).reverse=σ.Bm/\wr=w) (λv _=>(intOf v).toNat)
 case atStart=>grind[Ab.Bm]
 case round=>
  obtain⟨k,hk,rfl,l,rfl⟩:=hrel;cases k with
  |zero=>
   have hz:σ.Bm=0:=by rw[<-l];rfl
   have HZ:=fM hz;clear hz l;go_wp2;have:=V;rw[HZ.out]at this;simp_all
  |succ k=>
   have a1:k < σ.act.length:=by omega
   have e1:σ.act.take (k+1)=σ.act.take k++[σ.act[k]]:=by rw[FP,qs a1];rfl
   rw[e1,ZO]at l;have hg:io σ.act ((k:Int))=σ.act[k]:=by
    unfold io;rw[gv (by omega)];simp[List.getD,a1]
   have z:=J.atA (k:Int);have B:=J.agq (k:Int);rw[hg]at z B;have I:=aeL J _ B;have e2:((k+1:Nat):Int) - 1=(k:Int):=by omega
   have aq:(0:Int) < ((k+1:Nat):Int):=by omega
   have a3:(σ.act.take k).length=k:=by simp;omega
   rw[a3]at l;clear e1 hg B a3;generalize hM:σ.Vd σ.act[k]=b at I l;clear hM;generalize oV f σ.act[k]=vv at z I;cases b with
   |true=>
    go_wp21;refine z.mono ?_;rintro e w ⟨rfl,rfl⟩;go_wp21;refine I.mono ?_;rintro e w ⟨rfl,rfl⟩;go_wp21;have:=V;have al:k+1=σ.Bm:=by simpa using l
    rw[<-al]at this;exact this _ _ _ _ _ _ _ _ _ _ _ _ _ _ _
   |false=>
    go_wp21;refine z.mono ?_;rintro e w ⟨rfl,rfl⟩;go_wp21;refine I.mono ?_;rintro e w ⟨rfl,rfl⟩;go_wp21;exact⟨⟨k,by omega,rfl,by simpa using l,trivial⟩,by simp[intOf]⟩
theorem uM (p q:fY->Bool) (σ:Ab):mV p q σ= .ok (σ.inScope p q) (σ.close p q):=by
 grind[mV,Ab.inScope,Ab.close]
def Em {σ:Ab} (h:RF E f σ w) {g j : Nat} {b d : jA} (l:Ask E.bm (.func (.func g) #[] b) p w) (u:Ask E.bm (.func (.func j) #[] d) q w):
  Calls prog 219 #[Bp E,.func (.func g) #[] b,.func (.func j) #[] d] w λe w'=>e=ig (.bool (σ.inScope p q))/\RF E f (σ.close p q) w'/\Fr E.bs w w':=by
 have:=zw h l u;rw[uM]at this;exact this.mono (λe w' h=>⟨h.1,h.2.1,h.2.2.1⟩)
theorem yP (σ:Ab) (p q:fY->Bool):σ.nodes.length<=(σ.close p q).nodes.length:=by
 unfold Ab.close;grind[Ab.FG]
def FC (E:Env) (t:gy) {σ:Ab} (h:RF E f σ w):∃a b d n g,∀w,Calls prog 168 #[iy E t] w λe w'=>e=ig (.agg #[fV a,fV b,gu t.name,.slice d n g])/\Kept [] w w':=by
 have⟨d,n,g,htv⟩:=h.tv;have C:=λw=>zh E t w ⟨d,n,g,htv⟩;have⟨a,b,k,gx⟩:=t;cases k<;>simp only[Ae,gy.name,htv]at C|-
 case start s=>exact⟨_,_,_,_,_,C⟩
 case stop s=>exact⟨_,_,_,_,_,C⟩
 all_goals exact⟨_,_,_,_,_,C⟩
def O0 (E:Env) (t:gy):iZ E 203 (λ_=>#[Bp E,iy E t]) (qP) uV:=by
 refine dI λf σ w R l HS H=>?_;unfold qP at l;go_enter func203,ntmps203;have⟨kb,lbb,cb,HQ⟩:=H.rel.bounds;have A:=H.lt;have z:=cb;have D:=(Kept.refl [] w).drew;replace l:Hid (R= .ok () (σ.close (gZ [mG,mH]) (iJ))):=by
  have:=l;rw[M.gn,uM]at this;exact fM this
 go_wp21
 go_region_with (first
   |(go_at_call 270;refine(Hp E _).mono ?_;rintro e I ⟨K,G,rfl,g,j⟩;have d:=D.trans j;have J:I.cell? ⟨E.bB,186,none⟩=some (.func (.func kb) #[] lbb):=(d.cell (p:=⟨E.bB,186,none⟩) A (by simp)).trans z;have u:=fM g;have b:=fM d;clear g j d)
   |(go_at_call 219;refine(Em (p:=gZ [mG,mH]) (q:=iJ) (H.k0 b).rel u (HQ.k0 b)).mono ?_;rintro e N ⟨rfl,B,C⟩;have F:=fM ((H.k0 b).to B (yP _ _ _) C);clear B C))
 all_goals (try (go_wp21))
 all_goals go_wp2
 all_goals go_end0
 all_goals exact ga l F rfl
def J5 (E:Env) (s:fY):iZ E 210 (λ_=>#[Bp E,gu s]) (ud s) uV:=by
 refine dI λf σ w R l HS H=>?_;unfold ud at l;go_enter func210,ntmps210;have⟨kb,lbb,cb,HQ⟩:=H.rel.Jj;have A:=H.lt;have z:=cb;have D:=(Kept.refl [] w).drew;replace l:Hid (R= .ok () (σ.close (gZ [s]) (ly))):=by
  have:=l;rw[M.gn,uM]at this;exact fM this
 go_wp21
 go_region_with (first
   |(go_at_call 216;refine(nH E [s] w.drew (by simp)).mono ?_;rintro e I ⟨K,G,rfl,g,j⟩;have d:=D.trans j;have J:I.cell? ⟨E.bB,184,none⟩=some (.func (.func kb) #[] lbb):=(d.cell (p:=⟨E.bB,184,none⟩) A (by simp)).trans z;have u:=fM g;have b:=fM d;clear g j d)
   |(go_at_call 219;refine(Em (p:=gZ [s]) (q:=ly) (H.k0 b).rel u (HQ.k0 b)).mono ?_;rintro e N ⟨rfl,B,C⟩;have F:=fM ((H.k0 b).to B (yP _ _ _) C);clear B C))
 all_goals (try (go_wp21))
 all_goals go_wp2
 all_goals go_end0
 all_goals exact ga l F rfl
def YY (E:Env) (t:gy):iZ E 200 (λ_=>#[Bp E,iy E t]) (wH) uV:=by
 refine dI λf σ w R d HS H=>?_;unfold wH at d;go_enter func200,ntmps200;have⟨kb,lbb,cb,HQ⟩:=H.rel.bounds;have C:=H.lt;have A:=cb;have D:=(Kept.refl [] w).drew;go_wp21
 go_cut [11]from 4 to 10 (λr wc=>r= .bool (σ.inScope (gZ [gr]) (iJ))/\At E f σ.nodes.length w f (σ) wc)
 case first=>
  go_region_with (first
   |(go_at_call 216;refine(nH E [gr] w.drew (by simp)).mono ?_;rintro e J ⟨S,I,rfl,j,l⟩;have g:=D.trans l;have K:J.cell? ⟨E.bB,186,none⟩=some (.func (.func kb) #[] lbb):=(g.cell (p:=⟨E.bB,186,none⟩) C (by simp)).trans A;have z:=fM j;have b:=fM g;clear j l g)
   |(go_at_call 229;refine(wX (H.k0 b).rel (gZ [gr]) (iJ) _ _ z (HQ.k0 b)).mono ?_;rintro e U ⟨rfl,u⟩;have F:=fM ((H.k0 b).k0 u);clear u))
  all_goals (try (go_wp21))
  all_goals (go_meet;exact⟨rfl,F⟩)
 case rest=>
  obtain⟨rfl,B⟩:=hcut;replace H:=B;cases hc:σ.inScope (gZ [gr]) iJ with
  |true=>
   replace d:Hid (R= .ok () {σ with mode:=16}):=by
    have:=d;rw[gv hc]at this;exact fM this
   have N:=H.sC;have O:=H.free 192;have G:=H.lt;replace H:=H.jb 16;go_wp2;go_end0;exact ga d H rfl
  |false=>
   replace d:Hid (R= .ok () σ):=by
    have:=d;rw[gH (by simp[hc])]at this;exact fM this
   go_wp2;go_end0;exact ga d H rfl
def Y2 (E:Env) (rec:Nat->gy->M Unit) (hA:∀(m:Nat) (t:gy),jd E t->iZ E 162 (λ_=>#[Bp E,fV m,iy E t]) (rec m t) uV) (t:gy) (I:jd E t):iZ E 201 (λ_=>#[Bp E,iy E t]) (wJ rec t) uV:=by
 refine dI λf σ w R b HS H=>?_;unfold wJ at b;go_enter func201,ntmps201;have⟨kb,lbb,cb,HQ⟩:=H.rel.bounds;have C:=H.lt;have A:=cb;have D:=(Kept.refl [] w).drew;go_wp21
 go_cut [11]from 4 to 10 (λr wc=>r= .bool (σ.inScope (gZ [gr]) (iJ))/\At E f σ.nodes.length w f (σ) wc)
 case first=>
  go_region_with (first
   |(go_at_call 216;refine(nH E [gr] w.drew (by simp)).mono ?_;rintro e K ⟨X,J,rfl,j,l⟩;have g:=D.trans l;have S:K.cell? ⟨E.bB,186,none⟩=some (.func (.func kb) #[] lbb):=(g.cell (p:=⟨E.bB,186,none⟩) C (by simp)).trans A;have z:=fM j;have d:=fM g;clear j l g)
   |(go_at_call 229;refine(wX (H.k0 d).rel (gZ [gr]) (iJ) _ _ z (HQ.k0 d)).mono ?_;rintro e Y ⟨rfl,u⟩;have F:=fM ((H.k0 d).k0 u);clear u))
  all_goals (try (go_wp21))
  all_goals (go_meet;exact⟨rfl,F⟩)
 case rest=>
  obtain⟨rfl,B⟩:=hcut;replace H:=B;cases hc:σ.inScope (gZ [gr]) iJ with
  |true=>
   replace b:Hid (R=(jX rec t>>=λ_=>(Pure.pure ():M Unit)) {σ with mode:=16}):=by
    have:=b;rw[gv hc]at this;exact fM this
   have U:=H.sC;have V:=H.free 192;have G:=H.lt;replace H:=H.jb 16;go_wp21;refine dC (ux E rec hA t I) H b HS rfl lT ?_;rintro(_) f σ w H O N b;go_wp2;go_end0;exact ga b H rfl
  |false=>
   replace b:Hid (R= .ok () σ):=by
    have:=b;rw[gH (by simp[hc])]at this;exact fM this
   go_wp2;go_end0;exact ga b H rfl
def rT (E:Env) (hF:lL E) (t:gy) (g:jd E t):iZ E 113 (λ_=>#[Bp E,iy E t]) (lr t) uV:=by
 refine dI λf σ w R b HS H=>?_;unfold lr at b;go_enter func113,ntmps113;go_wp21;refine dC (sG E hF) H b HS rfl lT ?_;rintro(_) f σ w H e d b;go_wp21;refine dC (lw E hF t g) H b HS rfl lT ?_;rintro(_) f σ w H e d b;go_wp2;go_end0;exact ga b H rfl
def TC (E:Env) (hF:lL E) (t:gy) (g:jd E t):iZ E 195 (λ_=>#[Bp E,iy E t]) (qA t) uV:=by
 refine dI λf σ w R b HS H=>?_;unfold qA at b;go_enter func195,ntmps195;go_wp21;refine dC (sG E hF) H b HS rfl lT ?_;rintro(_) f σ w H e d b;go_wp21;refine dC (wN E hF t g) H b HS rfl lT ?_;rintro(_) f σ w H e d b;go_wp2;go_end0;exact ga b H rfl
def OR (E:Env) (hF:lL E) (t:gy):iZ E 111 (λ_=>#[Bp E,iy E t]) (mu t) uV:=by
 refine dI λf σ w R b HS H=>?_;unfold mu at b;go_enter func111,ntmps111;have C:=Kz E t w;cases hn:uh t.chars with
 |true=>
  rw[hn]at C b;replace b:Hid (R= .ok () σ):=b;go_wp21;refine C.mono ?_;rintro e w ⟨rfl,d⟩;replace H:=H.k0 d;go_wp2;go_end0;exact ga b H rfl
 |false=>
  rw[hn]at C b;replace b:Hid (R=(lz>>=λ_=>(do jZ t;return ():M Unit)) σ):=b;go_wp21;refine C.mono ?_;rintro e w ⟨rfl,d⟩;replace H:=H.k0 d;go_wp21;refine dC (sG E hF) H b HS rfl lT ?_;rintro(_) f σ w H j g b;go_wp21;refine dC (wM E hF t) H b HS rfl lT ?_;rintro(_) f σ w H j g b;go_wp2;go_end0;exact ga b H rfl
def JK (E:Env) (hF:lL E) (t:gy):iZ E 137 (λ_=>#[Bp E,iy E t]) (nF t) uV:=by
 refine dI λf σ w R b HS H=>?_;unfold nF at b;go_enter func137,ntmps137;have C:=Kz E t w;cases hn:uh t.chars with
 |true=>
  rw[hn]at C b;replace b:Hid (R= .ok () σ):=b;go_wp21;refine C.mono ?_;rintro e w ⟨rfl,d⟩;replace H:=H.k0 d;go_wp2;go_end0;exact ga b H rfl
 |false=>
  rw[hn]at C b;replace b:Hid (R=(jZ t>>=λ_=>(pure ():M Unit)) σ):=b;go_wp21;refine C.mono ?_;rintro e w ⟨rfl,d⟩;replace H:=H.k0 d;go_wp21;refine dC (wM E hF t) H b HS rfl lT ?_;rintro(_) f σ w H j g b;go_wp2;go_end0;exact ga b H rfl
def Lu (E:Env) (hF:lL E) (t:gy) (u:jd E t):iZ E 186 (λ_=>#[Bp E,iy E t]) (mO t) uV:=by
 refine dI λf σ w R b HS H=>?_;unfold mO at b;go_enter func186,ntmps186;go_wp21;refine Bf (λl=>yO H.rel l) H b HS lT ?_;rintro(_) σ w H j b;go_wp21;refine(Hp E _).mono ?_;rintro e w ⟨B,z,rfl,d,g⟩;replace H:=H.k0 g;go_wp21;refine Bf (λ_=>wR H.rel d) H b HS lT ?_;rintro(_) σ w H j b;go_wp21;refine dC (lw E hF t u) H b HS rfl lT ?_;rintro(_) f σ w H A j b;go_wp2;go_end0;exact ga b H rfl
def ZW (E:Env) (hF:lL E) (t:gy) (g:jd E t):iZ E 187 (λ_=>#[Bp E,iy E t]) (vD t) uV:=by
 refine dI λf σ w R b HS H=>?_;unfold vD at b;go_enter func187,ntmps187;go_wp21;refine Bf (λe=>yO H.rel e) H b HS lT ?_;rintro(_) σ w H d b;go_wp21;refine dC (wN E hF t g) H b HS rfl lT ?_;rintro(_) f σ w H j d b;go_wp2;go_end0;exact ga b H rfl
def MU (E:Env) (hF:lL E) (t:gy) (l:jd E t):iZ E 193 (λ_=>#[Bp E,iy E t]) (nY t) uV:=by
 refine dI λf σ w R b HS H=>?_;unfold nY at b;go_enter func193,ntmps193;go_wp21;refine(nH E [gF] _ (by decide)).mono ?_;rintro e w ⟨A,u,rfl,d,g⟩;replace H:=H.k0 g;go_wp21;refine Bf (λ_=>wR H.rel d) H b HS lT ?_;rintro(_) σ w H j b;go_wp21;refine dC (rT E hF t l) H b HS rfl lT ?_;rintro(_) f σ w H z j b;go_wp2;go_end0;exact ga b H rfl
def AG (E:Env) (hF:lL E) (t:gy) (l:jd E t):iZ E 138 (λ_=>#[Bp E,iy E t]) (ju t) uV:=by
 refine dI λf σ w R b HS H=>?_;unfold ju at b;go_enter func138,ntmps138;go_wp21;refine(uX E _).mono ?_;rintro e w ⟨A,u,rfl,d,g⟩;replace H:=H.k0 g;go_wp21;refine Bf (λ_=>wR H.rel d) H b HS lT ?_;rintro(_) σ w H j b;go_wp21;refine dC (lw E hF t l) H b HS rfl lT ?_;rintro(_) f σ w H z j b;go_wp2;go_end0;exact ga b H rfl
def tQ (E:Env) (hF:lL E) (t:gy) (z:jd E t):iZ E 139 (λ_=>#[Bp E,iy E t]) (iX t) uV:=by
 refine dI λf σ w R b HS H=>?_;unfold iX at b;go_enter func139,ntmps139;go_wp21;refine(uX E _).mono ?_;rintro e w ⟨D,A,rfl,d,j⟩;replace H:=H.k0 j;go_wp21;refine Bf (λ_=>wR H.rel d) H b HS lT ?_;rintro(_) σ w H u b;go_wp21;refine(rM E _).mono ?_;rintro e w ⟨F,B,rfl,g,l⟩;replace H:=H.k0 l;go_wp21;refine Bf (λ_=>wR H.rel g) H b HS lT ?_;rintro(_) σ w H u b;go_wp21;refine dC (lw E hF t z) H b HS rfl lT ?_;rintro(_) f σ w H C u b;go_wp2;go_end0;exact ga b H rfl
def Fy (E:Env) (hF:lL E) (t:gy) (e:jd E t):iZ E 140 (λ_=>#[Bp E,iy E t]) (lh t) uV:=by
 refine dI λf σ w R b HS H=>?_;unfold lh at b;go_enter func140,ntmps140;go_wp21;refine dC (tQ E hF t e) H b HS rfl lT ?_;rintro(_) f σ w H g d b;go_wp21;refine mC (DF E) H b HS rfl lT ?_;rintro(_) σ w H d b;go_wp2;go_end0;exact ga b H rfl
def Ci (E:Env) (t:gy):iZ E 143 (λ_=>#[Bp E,iy E t]) (kY) uV:=by
 refine dI λf σ w R b HS H=>?_;unfold kY at b;go_enter func143,ntmps143;go_wp21;refine(uX E _).mono ?_;rintro e w ⟨u,j,rfl,d,g⟩;replace H:=H.k0 g;go_wp21;refine Bf (λ_=>wR H.rel d) H b HS lT ?_;rintro(_) σ w H l b;go_wp2;go_end0;exact ga b H rfl
def MT (E:Env) (hF:lL E) (t:gy) (e:jd E t):iZ E 199 (λ_=>#[Bp E,iy E t]) (nX t) uV:=by
 refine dI λf σ w R b HS H=>?_;unfold nX at b;go_enter func199,ntmps199;go_wp21;refine dC (rT E hF t e) H b HS rfl lT ?_;rintro(_) f σ w H g d b;go_wp21;refine mC (AP E) H b HS rfl lT ?_;rintro(_) σ w H d b;go_wp2;go_end0;exact ga b H rfl
def Lt (E:Env) (hF:lL E) (t:gy) (l:jd E t):iZ E 117 (λ_=>#[Bp E,iy E t]) (nK t) uV:=by
 refine dI λf σ w R b HS H=>?_;unfold nK at b;go_enter func117,ntmps117;go_wp21;refine(Of E _).mono ?_;rintro e w ⟨D,u,rfl,d,g⟩;replace H:=H.k0 g;go_wp21;refine Bf (λ_=>F1 H.rel d) H b HS lT ?_;rintro(_) σ w H j b;go_wp21;refine mC (AP E) H b HS rfl lT ?_;rintro(_) σ w H j b;go_wp21;refine dC (lw E hF t l) H b HS rfl lT ?_;rintro(_) f σ w H z j b;have A:=H.sC;have B:=H.free 192;have C:=H.lt;replace H:=H.jb 9;go_wp2;go_end0;exact ga b H rfl
def Y3 (E:Env) (t:gy):iZ E 204 (λ_=>#[Bp E,iy E t]) (yg) uV:=by
 refine dI λf σ w R g HS H=>?_;unfold yg at g;go_enter func204,ntmps204;go_wp21;refine(nH E [kV] _ (by decide)).mono ?_;rintro e w ⟨B,u,rfl,b,l⟩;replace H:=H.k0 l;go_wp21;refine(MB H.rel).mono ?_;rintro e w ⟨C,z,rfl,j,d⟩;replace H:=H.k0 d;replace b:=b.k0 d;go_wp21;refine Bf (λ_=>zw H.rel b j) H g HS lT ?_;rintro(_) σ w H A g;go_wp2;go_end0;exact ga g H rfl
def UR (E:Env) (hF:lL E) (t:gy):iZ E 206 (λ_=>#[Bp E,iy E t]) (uc) uV:=by
 refine dI λf σ w R b HS H=>?_;unfold uc at b;go_enter func206,ntmps206;go_wp21;refine dC (sG E hF) H b HS rfl lT ?_;rintro(_) f σ w H e d b;go_wp21;refine dC (vw E hF jS) H b HS rfl lT ?_;rintro(_) f σ w H e d b;go_wp21;refine mC (DF E) H b HS rfl lT ?_;rintro(_) σ w H d b;go_wp2;go_end0;exact ga b H rfl
def UP (E:Env) (t:gy):iZ E 202 (λ_=>#[Bp E,iy E t]) (vH t) uV:=by
 refine dI λf σ w R B HS H=>?_;unfold vH at B;go_enter func202,ntmps202;have⟨kb,lbb,cb,HQ⟩:=H.rel.bounds;have g:=H.lt;have j:=cb;have l:=(Kept.refl [] w).drew;have⟨ta,tb,tao,tn,tcp,HTG⟩:=FC E t H.rel;have J:=λw=>Bu ta tb t.name tao tn tcp w;replace B:Hid (R= .ok () (σ.close (gZ [t.name]) (iJ))):=by
  have:=B;rw[M.gn,uM]at this;exact fM this
 go_wp21
 go_region_with (first
   |(go_at_call 168;refine(HTG _).mono ?_;rintro e D ⟨rfl,A⟩;have l:=fM (l.trans A);have U:D.cell? ⟨E.bB,186,none⟩=some (.func (.func kb) #[] lbb):=(l.cell (p:=⟨E.bB,186,none⟩) g (by simp)).trans j;have K:E.bB < D.heap.size:=lU g l.size;clear A)
   |(go_at_call 216;refine(nH E [t.name] D (by simp)).mono ?_;rintro e O ⟨V,N,rfl,u,z⟩;have d:=l.trans z;have S:O.cell? ⟨E.bB,186,none⟩=some (.func (.func kb) #[] lbb):=(d.cell (p:=⟨E.bB,186,none⟩) g (by simp)).trans j;have C:=fM u;have b:=fM d;clear u z d)
   |(go_at_call 219;refine(Em (p:=gZ [t.name]) (q:=iJ) (H.k0 b).rel C (HQ.k0 b)).mono ?_;rintro e X ⟨rfl,F,G⟩;have I:=fM ((H.k0 b).to F (yP _ _ _) G);clear F G))
 all_goals (try (go_wp21))
 all_goals go_wp2
 all_goals go_end0
 all_goals exact ga B I rfl
def ED (E:Env) (rec:Nat->gy->M Unit) (hA:∀(m:Nat) (t:gy),jd E t->iZ E 162 (λ_=>#[Bp E,fV m,iy E t]) (rec m t) uV) (t:gy) (j:jd E t):iZ E 126 (λ_=>#[Bp E,iy E t]) (th rec t) uV:=by
 refine dI λf σ w R b HS H=>?_;unfold th at b;go_enter func126,ntmps126;have d:=H.aaZ;have e:=H.free 195;have g:=H.lt;replace H:=H.zc true;go_wp21;refine dC (hA 6 t j) H b HS rfl lT ?_;rintro(_) f σ w H u l b;have d:=H.aaZ;have e:=H.free 195;have g:=H.lt;replace H:=H.zc false;go_wp2;go_end0;exact ga b H rfl
def Mf (E:Env) (rec:Nat->gy->M Unit) (hA:∀(m:Nat) (t:gy),jd E t->iZ E 162 (λ_=>#[Bp E,fV m,iy E t]) (rec m t) uV) (t:gy) (j:jd E t):iZ E 116 (λ_=>#[Bp E,iy E t]) (nO rec t) uV:=by
 refine dI λf σ w R b HS H=>?_;unfold nO at b;go_enter func116,ntmps116;go_wp21;refine(Da E _).mono ?_;rintro e w ⟨I,z,rfl,d,g⟩;replace H:=H.k0 g;have C:=BR H.rel d;cases hc:σ.current Bs with
 |true=>
  rw[hc]at C;replace b:Hid (R=(jX rec t>>=λ_=>(pure ():M Unit)) {σ with kept:=σ.mode,mode:=8}):=by
   have:=b;rw[gv hc]at this;exact fM this
  go_wp21;refine C.mono ?_;rintro e w ⟨rfl,rfl⟩;have A:=H.sC;have D:=H.free 192;have B:=H.Ux;have F:=H.free 193;have G:=H.lt;replace H:=(H.ze σ.mode).jb 8;go_wp21;refine dC (ux E rec hA t j) H b HS rfl lT ?_;rintro(_) f σ w H u l b;go_wp2;go_end0;exact ga b H rfl
 |false=>
  rw[hc]at C;replace b:Hid (R=(th rec t>>=λ_=>(pure ():M Unit)) σ):=by
   have:=b;rw[gH (by simp[hc])]at this;exact fM this
  go_wp21;refine C.mono ?_;rintro e w ⟨rfl,rfl⟩;go_wp21;refine dC (ED E rec hA t j) H b HS rfl lT ?_;rintro(_) f σ w H u l b;go_wp2;go_end0;exact ga b H rfl
def F9 {σ:Ab} (h:RF E f σ w) {ks : List fY} (m:Nat) (A:Ask E.bm (.func (.func k) #[] lb) (gZ ks) w) (z:(qH ks m) σ≠ .stuck):Calls prog 227 #[Bp E,.func (.func k) #[] lb,fV m] w (kh E f σ.nodes.length w ((qH ks m) σ) bV):=by
 have l:=A;obtain⟨R,j⟩:∃R,R=(qH ks m) σ:=⟨_,rfl⟩;rw[<-j]at z|-;unfold qH at j;have HS:=z;have H:=At.start h;have d:=fM j;clear j;go_enter func227,ntmps227;go_wp21;refine(xL E _).mono ?_;rintro e w ⟨I,B,rfl,u,g⟩;replace H:=H.k0 g;replace l:=l.k0 g;go_wp21;refine Bf (λ_=>zw H.rel l u) H d HS mT ?_;rintro(b) σ w H C d;cases b with
 |false=>
  replace d:Hid (R= .ok false σ):=d;go_wp2;go_ret;exact j7 d H rfl
 |true=>
  replace d:Hid (R= .ok true {σ with mode:=m}):=d;have D:=H.sC;have F:=H.free 192;have G:=H.lt;replace H:=H.jb m;go_wp2;go_ret;exact j7 d H rfl
def As {σ:Ab} (h:RF E f σ w) {ks : List fY} (m:Nat) (u:Ask E.bm (.func (.func k) #[] lb) (gZ ks) w) (g:(kI ks m) σ≠ .stuck):Calls prog 226 #[Bp E,.func (.func k) #[] lb,fV m] w (kh E f σ.nodes.length w ((kI ks m) σ) bV):=by
 have j:=u;obtain⟨R,e⟩:∃R,R=(kI ks m) σ:=⟨_,rfl⟩;rw[<-e]at g|-;unfold kI at e;have HS:=g;have H:=At.start h;have d:=fM e;clear e;go_enter func226,ntmps226;go_wp21;refine Bf (λz=>F9 H.rel m j z) H d HS mT ?_;rintro(b) σ w H l d;cases b with
 |false=>
  replace d:Hid (R= .ok false σ):=d;go_wp2;go_ret;exact j7 d H rfl
 |true=>
  replace d:Hid (R=(xM>>=λ_=>(pure true:M Bool)) σ):=d;go_wp21;refine mC (TS E) H d HS rfl mT ?_;rintro(_) σ w H l d;go_wp2;go_ret;exact j7 d H rfl
def UZ (E:Env):kj E 122 (λ_=>#[Bp E]) vJ bV:=by
 refine mI λf σ w R d HS H=>?_;unfold vJ at d;go_enter func122,ntmps122;go_wp21;refine(Of E _).mono ?_;rintro e w ⟨C,A,rfl,j,u⟩;replace H:=H.k0 u;go_wp21;refine(xL E _).mono ?_;rintro e w ⟨D,B,rfl,l,g⟩;replace H:=H.k0 g;replace j:=j.k0 g;go_wp21;refine Bf (λ_=>zw H.rel j l) H d HS mT ?_;rintro(b) σ w H z d;cases b with
 |false=>
  replace d:Hid (R= .ok false σ):=d;go_wp2;go_ret;exact j7 d H rfl
 |true=>
  replace d:Hid (R=(xF>>=λ_=>(pure true:M Bool)) σ):=d;go_wp21;refine Bf (λ_=>XI H.rel) H d HS mT ?_;rintro(_) σ w H z d;go_wp2;go_ret;exact j7 d H rfl
def OZ (E:Env):kj E 129 (λ_=>#[Bp E]) qN bV:=by
 refine mI λf σ w R d HS H=>?_;unfold qN at d;go_enter func129,ntmps129;replace d:=fM (M.tail d);go_wp21;refine(nH E [gp] _ (by decide)).mono ?_;rintro e w ⟨A,u,rfl,g,j⟩;replace H:=H.k0 j;go_wp21;refine Bf (λl=>As H.rel 7 g l) H d HS mT ?_;rintro(b) σ w H z d;go_wp2;go_ret;exact j7 d H rfl
def J7 (E:Env):kj E 132 (λ_=>#[Bp E]) oH bV:=by
 refine mI λf σ w R d HS H=>?_;unfold oH at d;go_enter func132,ntmps132;replace d:=fM (M.tail d);go_wp21;refine(LB E _).mono ?_;rintro e w ⟨A,u,rfl,g,j⟩;replace H:=H.k0 j;go_wp21;refine Bf (λl=>F9 H.rel 7 g l) H d HS mT ?_;rintro(b) σ w H z d;go_wp2;go_ret;exact j7 d H rfl
def abq (E:Env):kj E 135 (λ_=>#[Bp E]) AZ bV:=by
 refine mI λf σ w R d HS H=>?_;unfold AZ at d;go_enter func135,ntmps135;replace d:=fM (M.tail d);go_wp21;refine(XJ E _).mono ?_;rintro e w ⟨A,u,rfl,g,j⟩;replace H:=H.k0 j;go_wp21;refine Bf (λl=>F9 H.rel 11 g l) H d HS mT ?_;rintro(b) σ w H z d;go_wp2;go_ret;exact j7 d H rfl
def Y0 (E:Env):kj E 136 (λ_=>#[Bp E]) endCell bV:=by
 refine mI λf σ w R d HS H=>?_;unfold endCell at d;go_enter func136,ntmps136;replace d:=fM (M.tail d);go_wp21;refine(YK E _).mono ?_;rintro e w ⟨A,u,rfl,g,j⟩;replace H:=H.k0 j;go_wp21;refine Bf (λl=>As H.rel 12 g l) H d HS mT ?_;rintro(b) σ w H z d;go_wp2;go_ret;exact j7 d H rfl
def F7 (E:Env):kj E 130 (λ_=>#[Bp E]) lc bV:=by
 refine mI λf σ w R b HS H=>?_;unfold lc at b;go_enter func130,ntmps130;go_wp21;refine(nH E [fS] _ (by decide)).mono ?_;rintro e w ⟨B,j,rfl,d,g⟩;replace H:=H.k0 g;have C:=BR H.rel d;cases hc:σ.current (gZ [fS])with
 |true=>
  rw[hc]at C;replace b:Hid (R=(x8>>=λ_=>(do jF 7;return true:M Bool)) σ):=by
   have:=b;rw[gv hc]at this;exact fM this
  go_wp21;refine C.mono ?_;rintro e w ⟨rfl,rfl⟩;go_wp21;refine mC (DF E) H b HS rfl mT ?_;rintro(_) σ w H l b;have u:=H.sC;have z:=H.free 192;have A:=H.lt;replace H:=H.jb 7;go_wp2;go_ret;exact j7 b H rfl
 |false=>
  rw[hc]at C;replace b:Hid (R= .ok false σ):=by
   have:=b;rw[gH (by simp[hc])]at this;exact fM this
  go_wp21;refine C.mono ?_;rintro e w ⟨rfl,rfl⟩;go_wp2;go_ret;exact j7 b H rfl
def RF.ahC {σ:Ab} (h:RF E f σ w):σ.gR σ.form=true:=by have⟨L,_,hr⟩:=h;exact hr.wf.form
theorem RF.KG {σ:Ab} (h:RF E f σ w):σ.gR σ.last=true:=by
 have⟨L,_,hr⟩:=h;unfold Ab.last;rcases xK σ.gq with b|⟨d,y,b⟩
 .rw[b];rfl
 .rw[b,wY];exact Ab.wO (hr.wf.gq y (by grind))
theorem ae6 (E:Env) (v1:gG) (p:fY->Bool) (w:gm) (d:Ask E.bm v1 p w):
  Calls prog 235 #[v1] w (yI E (λs=>!p s) w):=by
 refine(ae4 E.bm v1 p w d).mono ?_;rintro e w' ⟨⟨v,rfl,b⟩,g⟩;have⟨k,lb,e,_,_⟩:=b.call;grind
def Tv (E:Env) (t:gy) (u:jd E t):iZ E 188 (λ_=>#[Bp E,iy E t]) (rS t) uV:=by
 refine dI λf σ w R b HS H=>?_;unfold rS at b;go_enter func188,ntmps188;have d:=H.Uw;have F:=H.lt;cases hf:σ.form with
 |some i=>
  rw[hf]at d b;replace b:Hid (R= .ok () σ):=b;rw[show oV f (some i)=gE (f i)from rfl]at d;go_wp2;go_end0;exact ga b H rfl
 |none=>
  rw[hf]at d b;replace b:Hid (R=(mF t>>=λ_=>(do wU λσ=>{σ with form:=σ.last};return ():M Unit)) σ):=b;rw[show oV f none= .pointer none from rfl]at d;go_wp21;refine dC (wT E (iF E) t u) H b HS rfl lT ?_;rintro(_) f σ w H A z b;have g:=H.rel.KG;have C:=H.rel.Si;have B:=H.Uw;have D:=H.free 191;have l:=H.lt;have j:=H.vN σ.last g;go_wp21;refine C.mono ?_;rintro e w ⟨rfl,rfl⟩;replace H:=j;go_wp2;go_end0;exact ga b H rfl
def DR (E:Env) (t:gy) (F:jd E t):iZ E 123 (λ_=>#[Bp E,iy E t]) (kP t) uV:=by
 refine dI λf σ w R b HS H=>?_;unfold kP at b;go_enter func123,ntmps123;have e:=H.Uw;have S:=H.lt;cases hf:σ.form with
 |some i=>
  rw[hf]at e b;replace b:Hid (R= .ok () σ):=b;rw[show oV f (some i)=gE (f i)from rfl]at e;go_wp2;go_end0;exact ga b H rfl
 |none=>
  rw[hf]at e b;replace b:Hid (R=(jg t>>=λ_=>(do let x <-x8;wU λσ=>{σ with form:=x};return ():M Unit)) σ):=b;rw[show oV f none= .pointer none from rfl]at e;go_wp21;refine dC (lw E (iF E) t F) H b HS rfl lT ?_;rintro(_) f σ w H J I b;have g:=H.rel.KG;go_wp21;refine kj.Ra (DF E) H b HS rfl ?_ ?_
  .intro c p j U d A B;have z:=fM d;clear d;go_wp2;exact⟨rfl,pU z A B⟩
  rintro x l w d O C u;have G:l.gR x=true:=by
   unfold x8 at u;cases u;exact g
  have K:=d.Uw;have N:=d.free 191;have D:=d.lt;replace H:=d.vN x G;replace b:=C;clear d;go_wp2;go_end0;exact ga b H rfl
def Qb (E:Env) (t:gy) (j:jd E t):iZ E 191 (λ_=>#[Bp E,iy E t]) (p9 t) uV:=by
 refine dI λf σ w R b HS H=>?_;unfold p9 at b;go_enter func191,ntmps191;have e:=H.aa0;have g:=H.lt;cases hq:σ.jJ with
 |true=>
  rw[hq]at e;replace b:Hid (R=(jg t>>=λ_=>(do jF 7;return ():M Unit)) σ):=by
   have:=b;rw[M.gn]at this;unfold wG at this;rw[hq]at this;exact fM this
  go_wp21;refine dC (lw E (iF E) t j) H b HS rfl lT ?_;rintro(_) f σ w H l d b;have u:=H.sC;have z:=H.free 192;have g:=H.lt;replace H:=H.jb 7;go_wp2;go_end0;exact ga b H rfl
 |false=>
  rw[hq]at e;replace b:Hid (R=(oE>>=λ_=>(do jg t;jF 7;return ():M Unit)) σ):=by
   have:=b;rw[M.gn]at this;unfold wG at this;rw[hq]at this;exact fM this
  go_wp21;refine Bf (λA=>yO H.rel A) H b HS lT ?_;rintro(_) σ w H d b;go_wp21;refine dC (lw E (iF E) t j) H b HS rfl lT ?_;rintro(_) f σ w H l d b;have u:=H.sC;have z:=H.free 192;have g:=H.lt;replace H:=H.jb 7;go_wp2;go_end0;exact ga b H rfl
def MW (E:Env) (t:gy) (A:jd E t):iZ E 194 (λ_=>#[Bp E,iy E t]) (oR t) uV:=by
 refine dI λf σ w R b HS H=>?_;unfold oR at b;go_enter func194,ntmps194;go_wp21;refine dC (rT E (iF E) t A) H b HS rfl lT ?_;rintro(_) f σ w H G F b;have z:=H.sC;have I:=H.free 192;have J:=H.lt;have l:=H.jb 15;have u:=H.jb 14;replace b:Hid (R= .ok () {σ with mode:=if σ.mode=7\/σ.mode=9\/σ.mode=11\/σ.mode=12\/σ.mode=13 then 15 else 14}):=b;generalize e:σ.mode=d at z b;have j:=e;have g:=b;by_cases e:d=7\/d=9\/d=11\/d=12\/d=13
 .rw[gv e]at g;replace b:=g;rcases e with rfl|rfl|rfl|rfl|rfl
  all_goals go_wp2
  all_goals go_end0
  all_goals exact ga b l rfl
 .rw[gH e]at g;replace b:=g;have K:((d:Int)==7)=false:=by rw[vk];omega
  have N:((d:Int)==9)=false:=by rw[vk];omega
  have B:((d:Int)==11)=false:=by rw[vk];omega
  have C:((d:Int)==12)=false:=by rw[vk];omega
  have D:((d:Int)==13)=false:=by rw[vk];omega
  go_wp2;go_end0;exact ga b u rfl
def ahx (E:Env) (t:gy):iZ E 205 (λ_=>#[Bp E,iy E t]) Mo uV:=by
 refine dI λf σ w R b HS H=>?_;unfold Mo at b;go_enter func205,ntmps205;go_wp21;refine(nH E [nf] _ (by decide)).mono ?_;rintro e w ⟨G,B,rfl,g,u⟩;replace H:=H.k0 u;go_wp21;refine(Aq H.rel).mono ?_;rintro e w ⟨I,D,rfl,j,d⟩;replace H:=H.k0 d;have C:=wX H.rel _ _ _ _ (g.k0 d) j;cases hc:σ.inScope (gZ [nf]) Ei with
 |true=>
  rw[hc]at C;replace b:Hid (R=(oE>>=λ_=>(pure ():M Unit)) σ):=by
   have:=b;rw[gv hc]at this;exact fM this
  go_wp21;refine C.mono ?_;rintro e w ⟨rfl,l⟩;replace H:=H.k0 l;go_wp21;refine Bf (λz=>yO H.rel z) H b HS lT ?_;rintro(_) σ w H A b;go_wp2;go_end0;exact ga b H rfl
 |false=>
  rw[hc]at C;replace b:Hid (R=(jW nf>>=λ_=>(do oE;return ():M Unit)) σ):=by
   have:=b;rw[gH (by simp[hc])]at this;exact fM this
  go_wp21;refine C.mono ?_;rintro e w ⟨rfl,l⟩;replace H:=H.k0 l;go_wp21;refine dC (vw E (iF E) nf) H b HS rfl lT ?_;rintro(_) f σ w H F A b;go_wp21;refine Bf (λz=>yO H.rel z) H b HS lT ?_;rintro(_) σ w H A b;go_wp2;go_end0;exact ga b H rfl
def Ry (E:Env):kj E 141 (λ_=>#[Bp E]) tJ bV:=by
 refine mI λf σ w R d HS H=>?_;unfold tJ at d;go_enter func141,ntmps141;go_wp21;refine(nH E [iW] _ (by decide)).mono ?_;rintro e w ⟨S,I,rfl,g,F⟩;replace H:=H.k0 F;go_wp21;refine(uX E _).mono ?_;rintro e w ⟨U,J,rfl,j,u⟩;replace H:=H.k0 u;replace g:=g.k0 u;go_wp21;refine(rM E _).mono ?_;rintro e w ⟨V,K,rfl,B,l⟩;replace H:=H.k0 l;replace g:=g.k0 l;replace j:=j.k0 l;go_wp21;refine(VA E _ _ _ _ _ j B).mono ?_;rintro e w ⟨X,N,rfl,C,z⟩;replace H:=H.k0 z;replace g:=g.k0 z;go_wp21;refine(ae6 E _ _ _ C).mono ?_;rintro e w ⟨Y,O,rfl,D,A⟩;replace H:=H.k0 A;replace g:=g.k0 A;go_wp21;refine Bf (λ_=>zw H.rel g D) H d HS mT ?_;rintro(b) σ w H G d;cases b with
 |false=>
  replace d:Hid (R= .ok false σ):=d;go_wp2;go_ret;exact j7 d H rfl
 |true=>
  replace d:Hid (R=(xF>>=λ_=>(pure true:M Bool)) σ):=d;go_wp21;refine Bf (λ_=>XI H.rel) H d HS mT ?_;rintro(_) σ w H G d;go_wp2;go_ret;exact j7 d H rfl
def Wm:fY->Bool:=λs=>ly s&&!gZ [jR,nf] s
def vE (ks:List fY) (m:Nat) (t:gy):M Unit:=do
 ub (gZ ks)
 jg t
 jF m
 return ()
def ql (rec:Nat->gy->M Unit) (ks:List fY) (b:fY) (m:Nat) (t:gy):M Unit:=do
 ub (gZ ks)
 jW b
 jF m
 jX rec t
 return ()
def Hu (ks:List fY) (t:gy):M Unit:=do
 let _ <-mV (gZ ks) Wm
 mF t
 return ()
def xl (rec:Nat->gy->M Unit) (b:M Bool) (t:gy):M Unit:=do
 let x <-b
 if x then (do jX rec t;return ())else return ()
def Cs (b:M Bool):M Unit:=do
 let _ <-b
 return ()
def Ask.frA (h:Ask bm v p w) (b:Fr bs w w'):Ask bm v p w':=h.fr (b.n bm)
def ad5 (E:Env) (rec:Nat->gy->M Unit) (hA:∀(m:Nat) (t:gy),jd E t->iZ E 162 (λ_=>#[Bp E,fV m,iy E t]) (rec m t) uV) (t:gy) (D:jd E t) (m z A:Nat) {σ:Ab} (h:RF E f σ w) (u:rec m t σ≠ .stuck) (b:box w z (iq E.bB) 116) (d:box w A (fV m) 172):
  Calls prog 171 #[iy E t,iq z,iq A] w (Leaves E f σ.nodes.length w (rec m t σ) uV):=by
 have g:=fM b;have j:=fM d;clear b d;obtain⟨R,l⟩:∃R,R=rec m t σ:=⟨_,rfl⟩;rw[<-l]at u|-;have HS:=u;have H:=fM (At.start h);have e:=fM (M.tail l);clear h u l;have B:=fN (box.fr g.out (H.out.fr.n E.bm) (by decide)) 0;have C:=fN (box.fr j.out (H.out.fr.n E.bm) (by decide)) 0;dsimp at B C;go_enter func171,ntmps171;go_wp21;refine dC (hA m t D) H e HS rfl lT ?_;clear H e;rintro(_) f σ w H G F e;go_wp2;go_end0;exact ga e H rfl
def Io (E:Env) (t:gy) (O:jd E t) (ks:List fY) (m B C D:Nat) (k:Nat) (lb:jA) {σ:Ab} (h:RF E f σ w) (F:(vE ks m t) σ≠ .stuck) (g:box w B (iq E.bB) 116) (j:box w C (.func (.func k) #[] lb) 84) (N:Ask E.bm (.func (.func k) #[] lb) (gZ ks) w) (l:box w D (fV m) 172):
  Calls prog 215 #[iy E t,iq B,iq C,iq D] w (Leaves E f σ.nodes.length w ((vE ks m t) σ) uV):=by
 have b:=fM g;clear g;have z:=fM j;clear j;have A:=fM l;clear l;have I:=N;obtain⟨R,u⟩:∃R,R=(vE ks m t) σ:=⟨_,rfl⟩;rw[<-u]at F|-;unfold vE at u;have HS:=F;have H:=fM (At.start h);have d:=fM u;clear u;have e:=fN (box.fr b.out (H.out.fr.n E.bm) (by decide)) 0;have J:=fN (box.fr z.out (H.out.fr.n E.bm) (by decide)) 0;dsimp at e J;go_enter func215,ntmps215;go_wp21;refine Bf (λ_=>F1 H.rel (I.frA H.fr)) H d HS lT ?_;rintro(_) σ w H G d;have e:=fN (box.fr b.out (H.out.fr.n E.bm) (by decide)) 0;dsimp at e;go_wp21;refine dC (lw E (iF E) t O) H d HS rfl lT ?_;rintro(_) f σ w H S G d;have e:=fN (box.fr b.out (H.out.fr.n E.bm) (by decide)) 0;have K:=fN (box.fr A.out (H.out.fr.n E.bm) (by decide)) 0;dsimp at e K;have U:=H.sC;have V:=H.free 192;have X:=H.lt;replace H:=fM (H.jb m);go_wp2;go_end0;exact ga d H rfl
def EG (E:Env) (rec:Nat->gy->M Unit) (hA:∀(m:Nat) (t:gy),jd E t->iZ E 162 (λ_=>#[Bp E,fV m,iy E t]) (rec m t) uV) (t:gy) (ht:jd E t) (ks:List fY) (b:fY) (m B K N O:Nat) (k:Nat) (lb:jA) {σ:Ab} (h:RF E f σ w) (U:(ql rec ks b m t) σ≠ .stuck) (l:box w B (iq E.bB) 116) (u:box w K (.func (.func k) #[] lb) 84) (ha:Ask E.bm (.func (.func k) #[] lb) (gZ ks) w) (z:box w N (gu b) 9) (A:box w O (fV m) 172):
  Calls prog 217 #[iy E t,iq B,iq K,iq N,iq O] w (Leaves E f σ.nodes.length w ((ql rec ks b m t) σ) uV):=by
 have d:=fM l;clear l;have F:=fM u;clear u;have G:=fM z;clear z;have I:=fM A;clear A;have X:=ha;obtain⟨R,D⟩:∃R,R=(ql rec ks b m t) σ:=⟨_,rfl⟩;rw[<-D]at U|-;unfold ql at D;have HS:=U;have H:=fM (At.start h);have g:=fM D;clear D;have j:=fN (box.fr d.out (H.out.fr.n E.bm) (by decide)) 0;have Y:=fN (box.fr F.out (H.out.fr.n E.bm) (by decide)) 0;dsimp at j Y;go_enter func217,ntmps217;go_wp21;refine Bf (λ_=>F1 H.rel (X.frA H.fr)) H g HS lT ?_;rintro(_) σ w H J g;have j:=fN (box.fr d.out (H.out.fr.n E.bm) (by decide)) 0;have Z:=fN (box.fr G.out (H.out.fr.n E.bm) (by decide)) 0;dsimp at j Z;go_wp21;refine dC (vw E (iF E) b) H g HS rfl lT ?_;rintro(_) f σ w H V J g;have j:=fN (box.fr d.out (H.out.fr.n E.bm) (by decide)) 0;have c5:=fN (box.fr I.out (H.out.fr.n E.bm) (by decide)) 0;dsimp at j c5;have c4:=H.sC;have f4:=H.free 192;have hl:=H.lt;have a0:B≠E.bB:=by
  intro e;have S:w.heap[B]?=_:=box.fr d (H.fr.n E.bm) (by decide);have⟨L,_,hr⟩:=H.rel;have⟨C,hb⟩:=hr.WK;rw[e,hb]at S;simp at S
 replace H:=fM (H.jb m);go_wp21;refine dC (ux E rec hA t ht) H g HS rfl lT ?_;rintro(_) f σ w H V J g;go_wp2;go_end0;exact ga g H rfl
def P6 (E:Env) (t:gy) (Z:jd E t) (ks:List fY) (J K N:Nat) (S U:Nat) (l u:jA) {σ:Ab} (h:RF E f σ w) (O:(Hu ks t) σ≠ .stuck) (e:box w J (iq E.bB) 116) (g:box w K (.func (.func S) #[] l) 84) (G:Ask E.bm (.func (.func S) #[] l) (gZ ks) w) (j:box w N (.func (.func U) #[] u) 84) (I:Ask E.bm (.func (.func U) #[] u) Wm w):
  Calls prog 272 #[iy E t,iq J,iq K,iq N] w (Leaves E f σ.nodes.length w ((Hu ks t) σ) uV):=by
 have d:=fM e;clear e;have C:=fM g;clear g;have D:=fM j;clear j;have A:=G;have B:=I;obtain⟨R,z⟩:∃R,R=(Hu ks t) σ:=⟨_,rfl⟩;rw[<-z]at O|-;unfold Hu at z;have HS:=O;have H:=fM (At.start h);have b:=fM z;clear z;have F:=fN (box.fr d.out (H.out.fr.n E.bm) (by decide)) 0;have X:=fN (box.fr C.out (H.out.fr.n E.bm) (by decide)) 0;have Y:=fN (box.fr D.out (H.out.fr.n E.bm) (by decide)) 0;dsimp at F X Y;go_enter func272,ntmps272;go_wp21;refine Bf (λ_=>zw H.rel (A.frA H.fr) (B.frA H.fr)) H b HS lT ?_;rintro(_) σ w H V b;have F:=fN (box.fr d.out (H.out.fr.n E.bm) (by decide)) 0;dsimp at F;go_wp21;refine dC (wT E (iF E) t Z) H b HS rfl lT ?_;rintro(_) f σ w H HX V b;go_wp2;go_end0;exact ga b H rfl
def aev (E:Env) (t:gy) (b:M Bool) (k:Nat) (C:kj E k (λ_=>#[Bp E]) b bV) (B:∀d w,(callFunc k d).run prog w= .ok (.enter k d) w) (u:Nat) {σ:Ab} (h:RF E f σ w) (z:(Cs b) σ≠ .stuck) (e:box w u (.func (.func k) #[iq E.bB] #[]) 62):
  Calls prog 223 #[iy E t,iq u] w (Leaves E f σ.nodes.length w ((Cs b) σ) uV):=by
 have l:=fM e;clear e;obtain⟨R,g⟩:∃R,R=(Cs b) σ:=⟨_,rfl⟩;rw[<-g]at z|-;unfold Cs at g;have HS:=z;have H:=fM (At.start h);have j:=fM g;clear g;have A:=fN (box.fr l.out (H.out.fr.n E.bm) (by decide)) 0;dsimp at A;go_enter func223,ntmps223;go_wp21;refine mC (C) H j HS rfl lT ?_;rintro(_) σ w H D j;go_wp2;go_end0;exact ga j H rfl
def O3 (E:Env) (rec:Nat->gy->M Unit) (hA:∀(m:Nat) (t:gy),jd E t->iZ E 162 (λ_=>#[Bp E,fV m,iy E t]) (rec m t) uV) (t:gy) (N:jd E t) (b:M Bool) (k:Nat) (K:kj E k (λ_=>#[Bp E]) b bV) (J:∀e w,(callFunc k e).run prog w= .ok (.enter k e) w) (A B:Nat) {σ:Ab} (h:RF E f σ w) (C:(xl rec b t) σ≠ .stuck) (g:box w A (iq E.bB) 116) (j:box w B (.func (.func k) #[iq E.bB] #[]) 62):
  Calls prog 218 #[iy E t,iq B,iq A] w (Leaves E f σ.nodes.length w ((xl rec b t) σ) uV):=by
 have u:=fM g;clear g;have z:=fM j;clear j;obtain⟨R,l⟩:∃R,R=(xl rec b t) σ:=⟨_,rfl⟩;rw[<-l]at C|-;unfold xl at l;have HS:=C;have H:=fM (At.start h);have d:=fM l;clear l;have G:=fN (box.fr z.out (H.out.fr.n E.bm) (by decide)) 0;dsimp at G;go_enter func218,ntmps218;go_wp21;refine mC (K) H d HS rfl lT ?_;rintro(F) σ w H D d;have I:=fN (box.fr u.out (H.out.fr.n E.bm) (by decide)) 0;dsimp at I;cases F with
 |true=>
  replace d:Hid (R=(jX rec t>>=λ_=>(pure ():M Unit)) σ):=d;go_wp21;refine dC (ux E rec hA t N) H d HS rfl lT ?_;rintro(_) f σ w H O D d;go_wp2;go_end0;exact ga d H rfl
 |false=>
  replace d:Hid (R= .ok () σ):=d;go_wp2;go_end0;exact ga d H rfl
theorem ni.mg {σ σ':Ab} (h:ni σ) (O:σ'.nodes=σ.nodes) (u:σ'.gq=σ.gq) (H:σ'.act=σ.act) (I:σ'.head=σ.head) (R:σ'.form=σ.form) (J:σ'.qu=σ.qu) (K:σ'.rH=σ.rH):ni σ':=by
 have⟨r,h⟩:=h;have g:∀i,σ'.gV i=σ.gV i:=λi=>by unfold Ab.gV;rw[O]
 have U:∀k,σ'.jk k=σ.jk k:=λk=>by
  cases k with
  |el i=>grind[Ab.jk]
  |tx i=>grind[Ab.jk]
  |cm i=>grind[Ab.jk]
  |dt i=>grind[Ab.jk]
 have C:∀x,σ'.mW x=σ.mW x:=λx=>by
  cases x with
  |none=>rfl
  |some i=>grind[Ab.mW]
 have N:∀i s,iV σ i s->iV σ' i s:=λi s ⟨e,A,l⟩=>⟨e,by grind,l⟩;refine⟨r,⟨⟨?_,?_,?_,?_⟩,⟨?_,?_,?_⟩,?_,?_,?_,?_,?_,?_,?_,?_,?_,?_⟩⟩
 .intro i e p b F;rw[g]at b;have⟨ep,A,l⟩:=h.oA.up i e p b F;grind
 .intro i e j b S;rw[g]at b;have⟨ep,A,l⟩:=h.oA.dn i e j b S;grind
 .intro i e b;rw[g]at b;exact h.oA.nd i e b
 .intro i e b k D;rw[g]at b;rw[U];exact h.oA.kd i e b k D
 .intro i e p b F;rw[g]at b;exact h.ur.je i e p b F
 .rw[u];exact h.ur.gq
 .rw[u,I];exact h.ur.hd
 .rw[u];intro x G;rw[C];exact h.gq x G
 .rw[H];intro i b;have⟨e,A,l⟩:=h.act i b;grind
 .rw[I];exact λd B=>N _ _ (h.head d B)
 .rw[R];exact λd B=>N _ _ (h.form d B)
 .rw[u];intro x rest G;have⟨z,A,l⟩:=h.Mc x rest G;grind
 .rw[u,J];exact h.x7
 .rw[H,K];exact h.AB
 .rw[J];exact h.QE
 .rw[K];exact h.Ui
 .rw[g];exact h.ye
def ni.PW {σ:Ab} (h:ni σ) (x:iY) (b:∀d,x=some d->iV σ d iH):ni {σ with form:=x}:=by
 have⟨r,h⟩:=h;exact⟨r,⟨⟨h.oA.up,h.oA.dn,h.oA.nd,h.oA.kd⟩,⟨h.ur.je,h.ur.gq,h.ur.hd⟩,h.gq,h.act,h.head,b,h.Mc,h.x7,h.AB,h.QE,h.Ui,h.ye⟩⟩
def qG (m:Nat):Bool:=decide (m=6)||decide (m=7)||(decide (9<=m)&&decide (m<=17))
structure BMs (σ:Ab):Prop where
 ne:σ.gq≠[]
 sh:qG σ.mode=true\/(σ.mode=5/\qG σ.kept=true/\2<=σ.gq.length)\/(σ.mode=8/\(σ.kept=7\/σ.kept=11\/σ.kept=12))
def iV.nodes {σ σ':Ab} (h:iV σ i s) (e:σ'.nodes=σ.nodes):iV σ' i s:=by
 unfold iV Ab.gV at h|-;rw[e];exact h
structure Lm (σ σ':Ab):Prop where
 gI:σ'.gI=σ.gI
 qu:σ'.qu=σ.qu
 rH:σ'.rH=σ.rH
 pP:σ'.pP=σ.pP
 wt:σ'.waiting.length<=σ.waiting.length+1
 wz:∀x∈σ'.waiting,x∈σ.waiting\/x.2.2.size<=100
 nm:∀i s,iV σ i s->iV σ' i s
def Fx.lm {σ σ':Ab} (h:Fx σ σ'):Lm σ σ':=⟨h.gI,h.qu,h.rH,h.pP,by rw[h.waiting];omega,by rw[h.waiting];exact λ_ h=> .inl h,h.nm⟩
def RB (c:Nat) (σ:Ab) (r:pM Unit):Prop:=match r with
 | .ok _ σ'=>ni σ'/\BMs σ'/\Lm σ σ'/\wt σ'<=wt σ+c
 | .stop _ p=>p=σ.gI
 | .stuck=>False
theorem RB.mono {c' : Nat} {σ:Ab} {r : pM Unit} (h:RB c σ r) (b:c<=c'):RB c' σ r:=by
 cases r with
 |ok a σ'=>grind[RB]
 |stop e p=>exact h
 |stuck=>exact h
def jE.rb {σ:Ab} {r : pM Unit} {Q:Unit->Ab->Prop} (h:jE c σ r Q) (b:σ.gq≠[]) (d:qG σ.mode=true):RB c σ r:=by
 cases r with
 |ok a σ'=>
  have⟨h1,h2,h3,_⟩:=h;exact⟨h1,⟨h2.ne b,.inl (by rw[h2.mode];exact d)⟩,h2.lm,h3⟩
 |stop e p=>exact h
 |stuck=>exact h
def RB.bind {α:Type} {c1 c2 : Nat} {σ:Ab} {x:M α} {k:α->M Unit} {Q:α->Ab->Prop} (h:jE c1 σ (x σ) Q) (D:∀a d,ni d->Fx σ d->wt d<=wt σ+c1->Q a d->RB c2 d (k a d)) (G:c1+c2<=c):RB c σ ((x>>=k) σ):=by
 rw[M.gn];cases hm:x σ with
 |ok a d=>
  rw[hm]at h;obtain⟨A,g,B,C⟩:=h;have l:=D a d A g B C;dsimp only;cases hk2:k a d with
  |ok b σ2=>
   rw[hk2]at l;obtain⟨u,z,j,F⟩:=l;exact⟨u,z,⟨j.gI.trans g.gI,j.qu.trans g.qu,j.rH.trans g.rH,j.pP.trans g.pP,by have:=j.wt;rw[g.waiting]at this;exact this,by have:=j.wz;rw[g.waiting]at this;exact this,λi s q=>j.nm i s (g.nm i s q)⟩,by omega⟩
  |stop e p=>
   rw[hk2]at l;exact wo l g.gI
  |stuck=>rw[hk2]at l;exact l
 |stop e p=>rw[hm]at h;exact h
 |stuck=>rw[hm]at h;exact h
def PS {σ:Ab} (h:ni σ) (b:σ.gq≠[]) (m:Nat) (d:qG m=true):RB 0 σ ((jF m>>=λ_=>(Pure.pure ():M Unit)) σ):=
 ⟨h.mg rfl rfl rfl rfl rfl rfl rfl,⟨b,.inl d⟩,⟨rfl,rfl,rfl,rfl,sy _,λ_ h=> .inl h,λ_ _ h=>h⟩,LN (jl rfl)⟩
def sS {σ:Ab} (h:ni σ) (b:BMs σ):RB 0 σ ((Pure.pure ():M Unit) σ):=⟨h,b,⟨rfl,rfl,rfl,rfl,sy _,λ_ h=> .inl h,λ_ _ h=>h⟩,gL _⟩
structure sB (σ:Ab):Prop where
 iv:ni σ
 ne:σ.gq≠[]
 md:qG σ.mode=true
def sB.next {σ σ':Ab} (h:sB σ) (i:ni σ') (f:Fx σ σ'):sB σ':=⟨i,f.ne h.ne,by rw[f.mode];exact h.md⟩
def sB.bms {σ:Ab} (h:sB σ):BMs σ:=⟨h.ne,.inl h.md⟩
structure oD (σ:Ab) (t:gy):Prop where
 tag:t.pT=true
 fr:σ.fresh=true
def uN {σ:Ab} (h:ni σ):jE 0 σ (oE σ) (λ_ b=>vF σ b):=
 jE.iB ((xq h (gZ [nf]) Ei (by kernel_rfl)).mono (gL _) (λ_ _ _ _ h=>h.1))
theorem pH {σ:Ab} (h:ni σ) (d:σ.gq≠[]) (g:oD σ t) (hw:wt σ < 999900):jE 33 σ (lr t σ) (λ_ e=>∃b j,GO b t.name j e/\σ.gq <+:b.gq/\b.act.length=σ.act.length):=by
 unfold lr;refine jE.bind (oz h d (by omega)) (c2:=1) ?_ (by omega);rintro _ b u l C ⟨A,B,z⟩;refine jE.iB ((jT u (l.ne d) (by omega) t g.tag (z.trans g.fr)).mono (gL _) ?_);grind
theorem uu {σ:Ab} (h:ni σ) (d:σ.gq≠[]) (g:oD σ t) (hw:wt σ < 999000):jE 1 σ (mF t σ) (λ_ e=>∃b j,GO b t.name j e):=by
 unfold mF;refine jE.bind (uN h) (c2:=1) ?_ (by omega);rintro _ b u l A z;refine jE.iB ((jT u (l.ne d) (by omega) t g.tag (z.fresh.trans g.fr)).mono (gL _) ?_);grind
section
variable {σ:Ab} {t:gy} (h:sB σ) (hw:wt σ < 999000)
include h hw
def MV (b:oD σ t):RB 33 σ (lr t σ):=(pH h.iv h.ne b (by omega)).rb h.ne h.md
def MQ (b:oD σ t):RB 1 σ (mF t σ):=(uu h.iv h.ne b hw).rb h.ne h.md
def TB (g:oD σ t):RB 1 σ (uv t σ):=by
 unfold uv;refine RB.bind (uu h.iv h.ne g hw) (c2:=0) ?_ (by omega);rintro _ j d e _ _;have b:=h.next d e;exact⟨d.mg rfl rfl rfl rfl rfl rfl rfl,⟨b.ne,.inl b.md⟩,⟨rfl,rfl,rfl,rfl,sy _,λ_ h=> .inl h,λ_ _ h=>h⟩,LN (jl rfl)⟩
def IU (b:oD σ t):RB 1 σ (mO t σ):=by
 have:jE 1 σ (mO t σ) (λ_ _=>True):=by
  unfold mO;refine jE.bind (uN h.iv) (c2:=1) ?_ (by omega);rintro _ z g d B l;refine jE.bind (uY g (gZ [mG,mH]) (by kernel_rfl)) (c2:=1) ?_ (by omega);rintro _ A j e C u;exact jE.iB ((jT j (e.ne (d.ne h.ne)) (by omega) t b.tag (u.fresh.trans (l.fresh.trans b.fr))).mono (gL _) (λ_ _ _ _ _=>trivial))
 exact this.rb h.ne h.md
def V1 (b:oD σ t):RB 1 σ (vD t σ):=by
 have:jE 1 σ (vD t σ) (λ_ _=>True):=by
  unfold vD;refine jE.bind (uN h.iv) (c2:=1) ?_ (by omega);rintro _ j e d l g;exact jE.iB ((qR e (d.ne h.ne) (by omega) t b.tag (g.fresh.trans b.fr)).mono (gL _) (λ_ _ _ _ _=>trivial))
 exact this.rb h.ne h.md
def P5 (A:oD σ t) (z:t.name=iH):RB 1 σ (rS t σ):=by
 unfold rS;cases hf:σ.form with
 |some d=>exact(sS h.iv h.bms).mono (by omega)
 |none=>
  dsimp only;refine RB.bind (uu h.iv h.ne A hw) (c2:=0) ?_ (by omega);rintro _ b l u _ ⟨B,j,q⟩;have e:=h.next l u;refine⟨l.PW b.last ?_,⟨e.ne,.inl e.md⟩,⟨rfl,rfl,rfl,rfl,sy _,λ_ h=> .inl h,λ_ _ h=>h⟩,LN (jl rfl)⟩;intro d g;rw[EY q]at g;cases g;rw[<-z];exact q.nm
def Ls (b:oD σ t):RB 33 σ (nW t σ):=by
 have:jE 33 σ (nW t σ) (λ_ _=>True):=by
  unfold nW;refine jE.bind (xq h.iv (gZ [gU]) iJ (by kernel_rfl)) (c2:=33) ?_ (by omega);rintro _ j e d l ⟨g,_⟩;exact jE.iB ((pH e (d.ne h.ne) ⟨b.tag,g.fresh.trans b.fr⟩ (by omega)).mono (gL _) (λ_ _ _ _ _=>trivial))
 exact this.rb h.ne h.md
def MX (e:oD σ t):RB 1 σ (p9 t σ):=by
 unfold p9;have j:jE 0 σ (wG σ) (λ_ b=>vF σ b):=by
  unfold wG;split
  .exact⟨h.iv,Fx.refl _,gL _,vF.refl _⟩
  .exact uN h.iv
 refine RB.bind j (c2:=1) ?_ (by omega);rintro _ A l d C z;refine RB.bind (jT l (d.ne h.ne) (by omega) t e.tag (z.fresh.trans e.fr)) (c2:=0) ?_ (by omega);rintro _ B u g D _;exact PS u (g.ne (d.ne h.ne)) 7 rfl
def Ie (g:oD σ t) (b:Bool):RB 1 σ (nD t b σ):=by
 unfold nD;refine RB.bind (jT h.iv h.ne (by omega) t g.tag g.fr) (c2:=0) ?_ (by omega);rintro _ d l e _ ⟨j,q⟩;refine⟨l.mg rfl rfl rfl rfl rfl rfl rfl,⟨e.ne h.ne,.inr (.inl ⟨rfl,?_,?_⟩)⟩,⟨rfl,rfl,rfl,rfl,sy _,λ_ h=> .inl h,λ_ _ h=>h⟩,LN (jl rfl)⟩
 .show qG d.mode=true;rw[e.mode];exact h.md
 .have:=Fa q h.ne;exact this
def Lw (b:oD σ t):RB 33 σ (nY t σ):=by
 have:jE 33 σ (nY t σ) (λ_ _=>True):=by
  unfold nY;refine jE.bind (uY h.iv (gZ [gF]) (by kernel_rfl)) (c2:=33) ?_ (by omega);rintro _ j e d l g;exact jE.iB ((pH e (d.ne h.ne) ⟨b.tag,g.fresh.trans b.fr⟩ (by omega)).mono (gL _) (λ_ _ _ _ _=>trivial))
 exact this.rb h.ne h.md
def Lx (d:oD σ t):RB 33 σ (oR t σ):=by
 unfold oR;refine RB.bind (pH h.iv h.ne d (by omega)) (c2:=0) ?_ (by omega);rintro _ g e b _ _;refine⟨e.mg rfl rfl rfl rfl rfl rfl rfl,⟨b.ne h.ne,.inl ?_⟩,⟨rfl,rfl,rfl,rfl,sy _,λ_ h=> .inl h,λ_ _ h=>h⟩,LN (jl rfl)⟩;show qG (if _ then 15 else 14)=true;split<;>rfl
def Qc (b:oD σ t):RB 33 σ (qA t σ):=by
 have:jE 33 σ (qA t σ) (λ_ _=>True):=by
  unfold qA;refine jE.bind (oz h.iv h.ne (by omega)) (c2:=1) ?_ (by omega);rintro _ j e d z ⟨l,u,g⟩;exact jE.iB ((qR e (d.ne h.ne) (by omega) t b.tag (g.trans b.fr)).mono (gL _) (λ_ _ _ _ _=>trivial))
 exact this.rb h.ne h.md
omit h hw in
def nE (e:ni σ) (d:σ.gq≠[]) (u:oD σ t) (l:rY t.name=true) (hw:wt σ < 999900):jE 33 σ (iP t σ) (λ_ _=>True):=by
 unfold iP;refine jE.bind (pH e d u hw) (c2:=0) ?_ (by omega);rintro _ b z B C ⟨A,j,q,_⟩;have g:EX b= .ok j b:=by unfold EX;rw[EY q]
 rw[M.gn,g];dsimp only;exact jE.iB ((aaJ z q.nm l).mono (gL _) (λ_ _ _ _ _=>trivial))
def DS (d:oD σ t) (b:rY t.name=true):RB 33 σ (iP t σ):=(nE h.iv h.ne d b (by omega)).rb h.ne h.md
theorem P7 (l:oD σ t) (A:t.name=uz):RB 330 σ (pG t σ):=by
 have b:rY t.name=true:=by rw[A];kernel_rfl
 unfold pG;cases hl:σ.pY uz with
 |none=>
  dsimp only;exact RB.mono (c:=33) ((jE.iB (Q:=λ_ _=>True) (nE h.iv h.ne l b (by omega))).rb h.ne h.md) (by omega)
 |some a=>
  dsimp only;have⟨hm,hnm⟩:=yw σ uz hl;have⟨r,hr⟩:=id h.iv;have⟨ea,hea,hfa⟩:=hr.act a (List.mem_reverse.1 hm);have d:=UK hea;have g:σ.nm a≠fO:=by rw[su hnm];intro e;cases e
  have:jE 330 σ ((ww uz>>=λ_=>kM (some a)>>=λ_=>kq (some a)>>=λ_=>iP t>>=λ_=>(Pure.pure ():M Unit)) σ) (λ_ _=>True):=by
   refine jE.bind (FW h.iv h.ne (s:=uz) (by grind) (by omega)) (c2:=33) ?_ (by omega);rintro _ I B j N F;refine jE.bind (zt B (x:=some a) (mw (j.nm _ _ d))) (c2:=33) ?_ (by omega);rintro _ J C u O G;refine jE.bind (DA C (u.nm _ _ (j.nm _ _ d)) g) (c2:=33) ?_ (by omega);rintro _ K D z R H;exact jE.iB (nE D (z.ne (u.ne (j.ne h.ne))) ⟨l.tag,by rw[H.fresh,G.fresh,F];exact l.fr⟩ b (by omega))
  exact this.rb h.ne h.md
end
def Rel.ahg {σ:Ab} (h:Rel E L σ w) (s:fY) (p:Bool):Rel E L {σ with nT:=s,iU:=p} ((w.setCell ⟨E.bR,E.Gd,none⟩ (gu s)).setCell ⟨E.bR,E.Gd+1,none⟩ (.bool p)):=by
 have j:Kept [E.bR] w ((w.setCell ⟨E.bR,E.Gd,none⟩ (gu s)).setCell ⟨E.bR,E.Gd+1,none⟩ (.bool p)):=((Kept.refl _ w).setCell (.inl (by simp)) _).setCell (.inl (by simp)) _;have d:KT E.bs [160] w ((w.setCell ⟨E.bR,E.Gd,none⟩ (gu s)).setCell ⟨E.bR,E.Gd+1,none⟩ (.bool p)):= .jL j (λk j _=>by simp at j;subst j;exact⟨⟨_,_,_,h.rd,by simp⟩,h.bR⟩);obtain⟨C,u,b⟩:=h.iw;have l:=fR (fR h.rd E.Gd (gu s)) (E.Gd+1) (.bool p);have A:=h.Tk;exact {h with
  fr:=h.fr.trans (d.fr (by decide))
  tX:=λi B z=>(h.tX i B z).kt d (by decide)
  inj:=h.inj,BZ:=h.BZ,Hw:=h.Hw,uq:=h.uq,FX:=h.FX
  wf:=⟨h.wf.gq,h.wf.act,h.wf.head,h.wf.form,h.wf.je,h.wf.kids,h.wf.ye⟩
  iw:=⟨C,d.at u (by decide),⟨b.size,b.low,b.gq,b.act,b.head,b.form,b.mode,b.kept,b.wait,b.Kg,b.jJ,b.gI,b.behind⟩⟩
  pR:=d.row h.pR (by decide)
  qB:=d.row h.qB (by decide)
  H9:=h.H9,x7:=h.x7,F0:=h.F0
  pI:=d.row h.pI (by decide)
  bz:=h.bz,bB:=h.bB,bR:=h.bR,bN:=h.bN
  rd:=by
   rw[l]
   congr 2
   apply Array.ext_getElem?;intro i;by_cases e:E.Gd+1=i
   .subst e;rw[LP (by simp;omega),LP (by simp;omega)]
   .rw[FQ e,FQ e];by_cases g:E.Gd=i
    .subst g;rw[LP (by simp;omega),LP (by omega)]
    .rw[FQ g,FQ e,FQ g,FQ g]
  tok:=d.row h.tok (by decide)
  MY:=h.MY,BU:=h.BU,ab:=h.ab,tb:=h.tb,M0:=h.M0}
theorem Rel.xE {σ:Ab} (h:Rel E L σ w):w.cell? ⟨E.bR,E.Gd,none⟩=some (gu σ.nT)/\w.cell? ⟨E.bR,E.Gd+1,none⟩=some (.bool σ.iU)/\(∀j,w.frozen? ⟨E.bR,j,none⟩=false)/\E.bR < w.heap.size:=by
 have b:=h.Tk;refine⟨?_,?_,λj=>gh h.rd j,iQ h.rd⟩
 .rw[fN h.rd,FQ (by omega)];grind
 .rw[fN h.rd];grind
theorem YD (E:Env) (l:E.Gd=7) {σ:Ab} (h:RF E f σ w) (s:fY) (p:Bool):
  Calls prog 46 #[gE E.bR,gu s,.bool p] w λe w'=>e=pL/\RF E f {σ with nT:=s,iU:=p} w'/\Fr E.bs w w':=by
 obtain⟨L,rfl,b⟩:=h;have⟨c1,c2,fz,hl⟩:=b.xE;have j:=b.ahg s p;have g:Fr E.bs w ((w.setCell ⟨E.bR,E.Gd,none⟩ (gu s)).setCell ⟨E.bR,E.Gd+1,none⟩ (.bool p)):= .jL (((Kept.refl [E.bR] w).setCell (.inl (by simp)) _).setCell (.inl (by simp)) _) (λk d=>by simp at d;subst d;exact⟨⟨_,_,_,b.rd,by decide⟩,b.bR⟩);rw[l]at c1 c2 j g;have u:=fz 7;have z:=fz 8;go_enter func46,ntmps46;go_wp2;go_end0;grind[RF]
def At.c3 {σ:Ab} (h:At E f0 n0 w0 f σ w):w.cell? ⟨E.bB,3,none⟩=some (.func (.func 46) #[gE E.bR] #[]):=by
 obtain⟨L,rfl,b⟩:=h.rel;exact b.low (by decide) b.env.X1
def K8 (E:Env) (D:E.Gd=7) (t:gy) (I:jd E t) (b:Bool):iZ E 176 (λ_=>#[Bp E,iy E t,.bool b]) (nD t b) uV:=by
 refine dI λf σ w R l HS H=>?_;unfold nD at l;go_enter func176,ntmps176;go_wp21;refine dC (lw E (iF E) t I) H l HS rfl lT ?_;rintro(_) f σ w H N K l;have⟨ta,tb,tao,tn,tcp,HTG⟩:=FC E t H.rel;have C:=λw=>Bu ta tb t.name tao tn tcp w;have B:=H.c3;have F:=H.lt;have u:=B;go_wp21
 go_region_with (first
  |(go_at_call 168;refine(HTG _).mono ?_;rintro e J ⟨rfl,j⟩;have g:=fM (((Kept.refl [] w).drew).trans j);have U:J.cell? ⟨E.bB,3,none⟩=_:=(g.cell (p:=⟨E.bB,3,none⟩) F (by simp)).trans u;clear j)
  |(go_at_call 46;refine(YD E D (H.k0 g).rel t.name b).mono ?_;rintro e Y ⟨rfl,z,A⟩;have d:=fM ((H.k0 g).to z (tk _ _ rfl) A);clear z A))
 all_goals
  have O:=d.sC;have V:=d.free 192;have S:=d.Ux;have X:=d.free 193;have G:=d.lt;replace d:=(d.ze σ.mode).jb 5;go_wp2;go_end0;exact ga l d rfl
def Im (E:Env) (d:E.Gd=7) (t:gy) (e:jd E t):iZ E 102 (λ_=>#[Bp E,iy E t]) (rU t) uV:=by
 refine dI λf σ w R b HS H=>?_;unfold rU at b;go_enter func102,ntmps102;go_wp21;refine dC (K8 E d t e false) H b HS rfl lT ?_;rintro(_) f σ w H j g b;go_wp2;go_end0;exact ga b H rfl
def GD (E:Env) (d:E.Gd=7) (t:gy) (e:jd E t):iZ E 103 (λ_=>#[Bp E,iy E t]) (mZ t) uV:=by
 refine dI λf σ w R b HS H=>?_;unfold mZ at b;go_enter func103,ntmps103;go_wp21;refine dC (K8 E d t e true) H b HS rfl lT ?_;rintro(_) f σ w H j g b;go_wp2;go_end0;exact ga b H rfl
def IV (E:Env) (d:E.Gd=7) (t:gy) (e:jd E t):iZ E 192 (λ_=>#[Bp E,iy E t]) (pa t) uV:=by
 refine dI λf σ w R b HS H=>?_;unfold pa at b;go_enter func192,ntmps192;go_wp21;refine dC (Im E d t e) H b HS rfl lT ?_;rintro(_) f σ w H j g b;have l:=H.aa1;have u:=H.free 198;have z:=H.lt;replace H:=H.tu true;go_wp2;go_end0;exact ga b H rfl
def acs {σ:Ab} (h:RF E f σ w) (x:iY) (b:kq x σ≠ .stuck):
  Calls prog 178 #[jG E.bB 188,oV f x] w λe w'=>e=pL/\kq x σ= .ok () {σ with gq:=σ.gq.erase x}/\RF E f {σ with gq:=σ.gq.erase x} w'/\Fr E.bs w w':=by
 have:=Fg E x f σ w h b;unfold kq at this b|-;by_cases d:σ.gR x=true
 .rw[gv d]at this|-;exact this.mono (λe w' h=>⟨h.1,rfl,h.2.1,h.2.2.1⟩)
 .rw[gH d]at b;exact absurd rfl b
def OM (E:Env) (rec:Nat->gy->M Unit) (hA:∀(m:Nat) (t:gy),jd E t->iZ E 162 (λ_=>#[Bp E,fV m,iy E t]) (rec m t) uV) (t:gy) (I:jd E t):iZ E 107 (λ_=>#[Bp E,iy E t]) (td rec t) uV:=by
 refine dI λf σ w R b HS H=>?_;unfold td at b;go_enter func107,ntmps107;have D:=H.YJ;have F:=H.lt;go_wp21;refine Bf (λG=>(show Calls prog 177 #[Bp E,oV f σ.head] w (kh E f σ.nodes.length w (pushHead σ) uV)from PM E σ.head f σ w H.rel G)) H b HS lT ?_;rintro(_) σ w H A b;go_wp21;refine dC (hA 3 t I) H b HS rfl lT ?_;rintro(_) f σ w H J A b;have D:=H.YJ;have F:=H.lt;have g:kq σ.head σ≠ .stuck:=by
  intro j;apply HS;rw[b.out,M.gn];unfold oY;rw[j]
 have d:=acs (H.k0 ((Kept.refl _ w).drew)).rel σ.head g;go_wp21
 go_region_with (go_at_call 178;refine d.mono ?_;rintro e K ⟨rfl,l,u,z⟩;have C:=fM ((H.k0 ((Kept.refl _ w).drew)).to u (tk _ _ rfl) z);have B:=fM l;clear l u z)
 all_goals
  go_wp2;go_end0;refine ga (σ:={σ with gq:=σ.gq.erase σ.head}) (a:=()) ?_ C rfl;rw[b.out,M.gn];unfold oY;rw[B.out];rfl
def Rv (E:Env) (i:Nat) {σ:Ab} (h:RF E f σ w) (D:io σ.gq 0=some i) (C:jr i σ≠ .stuck):Calls prog 145 #[Bp E] w (kh E f σ.nodes.length w (jr i σ) pV):=by
 obtain⟨R,A⟩:∃R,R=jr i σ:=⟨_,rfl⟩;have l:=(h.ib ((Kept.refl _ w).alloc Uk)).atO 0;rw[D]at l;have u:=(show Calls prog 239 #[jG E.bB 188,fV 0] (w.alloc Uk) (λe w'=>e=ig (gE (f i))/\w'=w.alloc Uk)from l);rw[<-A]at C|-;have HS:=C;have H:=(At.start h).k0 ((Kept.refl _ w).alloc Uk);have z:=fM (M.tail A);have N:=fP w Uk;have U:=h.lt;clear h C A D l;go_enter func145,ntmps145;go_wp21;refine u.mono ?_;rintro e w' ⟨rfl,rfl⟩;go_wp21;refine kj.call (Hf E i) H z HS rfl ?_ ?_
 .intro c p j Z d J K;have I:=fM d;clear d;go_wp2;exact⟨rfl,uU I J K⟩
 rintro g V Y d F G;have b:=F.cell N (by decide);have O:=fN b 0;have S:=fN b 1;have f0:=gh b 0;have X:=gh b 1;dsimp at O S;replace H:=((d.side b (by decide) (gL _) 0 (gE (f g.1))).side (fR b 0 _) (by decide) (gL _) 1 (fV g.2));replace z:=fM G;have B:=fM (fR (fR b 0 (gE (f g.1))) 1 (fV g.2));clear d F G;go_wp2;refine ou (v:=pV f g) ?_ rfl (j7 z H rfl);simp[results,results145,asAddr,Result.andThen,go_sem,fN B.out]
attribute [local go_sem] Oper.semAt_some
theorem XF (E:Env) {σ σ':Ab} (h:RF E f σ W) (s:fY) (c:Bool) (k:Nat) (Z:W.heap[k]?=some (gz #[gu s] (if c then 233 else 237))) (K:∀i,i < σ.nodes.length->f i < k) (G:E.bs<=k) (pl:Nat×Nat) (d:o0 pl (if c then .cm s else .dt s) (if c then Nd.cm else Nd.dt) σ= .ok () σ'):
  Calls prog 166 #[pV f pl,((if c then Nd.cm else Nd.dt) k).val] W λe F=>e=pL/\∃g,Uh σ.nodes.length f g/\σ.nodes.length<=σ'.nodes.length/\RF E g σ' F/\Fr E.bs W F:=by
 obtain⟨L,rfl,X⟩:=h;obtain⟨z,u⟩:∃z:AJ,z=if c then .cm s else .dt s:=⟨_,rfl⟩
 obtain⟨B,b⟩:∃B:Nat->Nd,B=if c then Nd.cm else Nd.dt:=⟨_,rfl⟩
 rw[<-u,<-b]at d;rw[<-b];have N:∀e,z≠ .el e:=by intro e;rw[u];cases c<;>simp
 have J:∀i j,B i≠ .el j:=by intro i j;rw[b];cases c<;>simp
 have O:Rel E (L.new σ.nodes.length k (ji) (ji)) (σ.add z) W:=by
  refine X.agr z k (ji) (ji) σ.fresh (Kept.refl _ _) K G ?_ rfl (λe U=>absurd U (N e)) (λ_ _ _ _ _ A=>by cases A) (λ_ _ _ _ _ _ A=>by cases A) (λ_=>rfl) (λV=>⟨V,λ_ _=>by simp[Value.ownBlock]⟩) (λ_ A=>by cases A);rw[u];cases c with
  |true=>show _=_;grind[Loc.new]
  |false=>show _=_;grind[Loc.new]
 unfold o0 ym at d;cases l:(σ.add z).gV pl.1 with
 |none=>rw[l]at d;cases d
 |some ei=>
  rw[l]at d;dsimp only at d;split at d
  .rename_i H;cases d;have I:pl.1 < σ.nodes.length:=by
    have A:=Ab.gW l;have Y:(σ.add z).nodes.length=σ.nodes.length+1:=by simp[Ab.add]
    rcases pJ pl.1 σ.nodes.length with h|h
    .exact h
    .have e1:pl.1=σ.nodes.length:=by omega
     rw[e1,Ab.sN]at l;grind
   have C:=TI O l H.1 (J _) H.2.1 H.2.2;have e1:place ((L.new σ.nodes.length k (ji) (ji)).gI pl.1) pl.2=pV L.gI pl:=by rw[Loc.Bg I]
   have e2:(Nd.map (L.new σ.nodes.length k (ji) (ji)).gI (B σ.nodes.length))=B k:=by
    have D:(L.new σ.nodes.length k (ji) (ji)).gI σ.nodes.length=k:=Loc.um;rw[b];cases c
    .show Nd.dt _=Nd.dt k;rw[D]
    .show Nd.cm _=Nd.cm k;rw[D]
   rw[e1,e2]at C;refine C.mono ?_;rintro e F ⟨rfl,R,D,S,hF⟩;refine⟨rfl,R.gI,λi l=>?_,?_,⟨R,rfl,S⟩,hF⟩
   .rw[D];exact Loc.Bg l
   .rw[Ab.oa];simp[Ab.add]
  .cases d
structure D9 (E:Env) (pf:Nat) (own:Bool) (pm:M (Nat×Nat)):Prop where
 ent:∀args w,(callFunc pf args).run prog w= .ok (.enter pf args) w
 same:∀σ pl σ1,pm σ= .ok pl σ1->σ1=σ
 PB:∀σ c p,pm σ≠ .stop c p
 aen:∀f σ w,RF E f σ w->pm σ≠ .stuck->Calls prog pf #[iq (if own then E.bB else f 0)] w (kh E f σ.nodes.length w (pm σ) pV)
def nB (d:M (Nat×Nat)) (t:gy):M Unit:=match t.k with
 | .gM s=>do
  let b <-d
  o0 b (.cm s) .cm
  return ()
 |_=>return ()
def CmK (E:Env) (f:Nat->Nat) (σ:Ab) (T:TypeId) (s:fY) (v:gG) (W:gm):Prop:=∃k,v=gE k/\W.heap[k]?=some (gz #[gu s] T)/\(∀i,i < σ.nodes.length->f i < k)/\E.bs<=k
def CmK.fr {σ:Ab} {b : gm} (h:CmK E f σ 233 s v W) (d:Fr E.bs W b):CmK E f σ 233 s v b:=by
 have⟨k,e,h1,h2⟩:=h;exact⟨k,e,d.Ar h1 (by decide),h2⟩
def CmK.frD {σ:Ab} {b : gm} (h:CmK E f σ 237 s v W) (d:Fr E.bs W b):CmK E f σ 237 s v b:=by
 have⟨k,e,h1,h2⟩:=h;exact⟨k,e,d.Ar h1 (by decide),h2⟩
def CmK.new {σ:Ab} (h:RF E f σ W) (s:fY):CmK E f σ T s (gE W.heap.size) (W.alloc (gz #[gu s] T)):=by
 obtain⟨L,rfl,b⟩:=h;exact⟨_,rfl,fP W _,λi d=>b.JA d,b.bw⟩
theorem UG (E:Env) (pf:Nat) (own:Bool) (F:M (Nat×Nat)) (N:D9 E pf own F) (t:gy) (U:Nat) {σ:Ab} (h:RF E f σ w) (hs:nB F t σ≠ .stuck) (G:box w U (.func (.func pf) #[iq (if own then E.bB else f 0)] #[]) 206):
  Calls prog 165 #[iy E t,iq U] w (Leaves E f σ.nodes.length w (nB F t σ) uV):=by
 have K:=fM (At.start h);have⟨a,b,k,gx⟩:=t;cases k with
 |gM s=>
  have hx:∃l j,F σ= .ok l σ/\o0 l (.cm s) .cm σ= .ok () j/\nB F ⟨a,b,.gM s,gx⟩ σ= .ok () j:=by
   have V:nB F ⟨a,b,.gM s,gx⟩ σ=(F>>=λl=>o0 l (.cm s) .cm>>=λ_=>(Pure.pure ():M Unit)) σ:=rfl;rw[M.gn]at V;cases hq:F σ with
   |ok l σ1=>
    obtain rfl:=N.same _ _ _ hq;rw[hq]at V;cases hq2:o0 l (.cm s) .cm σ1 with
    |ok u j=>exact⟨l,j,rfl,hq2,by rw[V];dsimp only;rw[M.gn,hq2];rfl⟩
    |stop c p=>
     exfalso;unfold o0 ym at hq2;grind
    |stuck=>exact absurd (by rw[V];dsimp only;rw[M.gn,hq2]) hs
   |stop c p=>exact absurd hq (N.PB _ _ _)
   |stuck=>grind
  have⟨l,j,hq1,hq2,hq3⟩:=hx;rw[hq3];have I:=λW (hW:RF E f σ W)=>N.aen f σ W hW (by grind);rw[hq1]at I;have eg:=N.ent;simp only[iy];have d:=ri underlying193;obtain⟨C,B⟩:∃C,C=w.alloc (gz #[fV a,fV b,gu s] 193):=⟨_,rfl⟩;have J:Kept [] w C:=by rw[B];exact(Kept.refl _ _).alloc _
  have R:C.heap[w.heap.size]?=some (gz #[fV a,fV b,gu s] 193):=by rw[B];exact fP w _
  have D:=J.at G (by simp);have HC:=fM (λW (hF:Fr E.bs C W)=>(⟨by rw[fN (hF.Ar D (by decide))];rfl,by rw[fN (hF.Ar R (by decide))];rfl⟩:W.cell? ⟨U,0,none⟩=some (.func (.func pf) #[iq (if own then E.bB else f 0)] #[])/\W.cell? ⟨w.heap.size,2,none⟩=some (gu s)));have HW:=fM B.symm;have HA:=fM (K.out.k0 J);have a1:=fM I;have a0:=fM eg;have a2:=fM hq2;have HN:=fM (λi (hi:i < σ.nodes.length)=>(show f i < C.heap.size by
   have⟨L,e,hr⟩:=(K.out.k0 J).rel;rw[<-e];exact hr.JA hi))
  have a4:=fM (show E.bs<=C.heap.size by
   have⟨L,e,hr⟩:=(K.out.k0 J).rel;exact hr.bw)
  clear h hs G N hq1 hq2 hq3 I eg R D J B K;go_enter func165,ntmps165;go_wp21;rw[HW.out];refine vR (by rfl) ?_;refine qp (λ(g:gG) z=>⟨#[.iface 193 (.agg #[fV a,fV b,gu s]),iq U,undef,gE w.heap.size,.bool true,.tuple #[.agg #[fV a,fV b,gu s],.bool true],.iface 193 (.agg #[fV a,fV b,gu s]),.tuple #[.agg #[fV a,fV b,gu s],.bool true],.agg #[fV a,fV b,gu s],.bool true,.bool true,cd z 0 (.func (.func pf) #[iq (if own then E.bB else f 0)] #[]),cd z 1 (pV f l),cd z 2 (jG w.heap.size 2),cd z 3 (gu s),cd z 4 (.agg #[gu s]),cd z 5 (g),cd z 6 (.iface 231 g),cd z 7 (.tuple #[])],[]⟩) (λg z W=>if dn z 7=true then (∃X,Uh σ.nodes.length f X/\σ.nodes.length<=j.nodes.length/\RF E X j W/\Fr E.bs C W)else (RF E f σ W/\Fr E.bs C W/\(dn z 5=true->CmK E f σ 233 s g W))) 8 [[],[0],[],[2],[3],[4],[5],[0,1,2,3,4,5,6]] (undef) rfl (by rfl) (⟨HA.out.rel.ib (Kept.refl _ _).drew,Fr.gN (Kept.refl _ _).drew,λh=>by cases h⟩) ?_ ?_
  .repeat' first|exact nu|refine nr ?_ ?_
   all_goals
    rintro g z W hI O hn;simp[Dh]at O;refine jY rfl ?_;intro K' A;simp only[lC,O];have hb:dn z 7=false:=by simp[O,hn]
    have q:=(gH (by simp[hb])).mp hI;have⟨cc,c2⟩:=HC.out W q.2.1;have eg:=a0.out;go_simp
    first
    |refine A _ _ ⟨g,?_,(gH (by simp[pr,hb])).mpr ⟨q.1,q.2.1,qC q.2.2 (by decide)⟩⟩
    |refine(a1.out W q.1).mono ?_;rintro e W2 ⟨rfl,a3,S,_⟩;refine A _ _ ⟨g,?_,(gH (by simp[pr,hb])).mpr ⟨a3,q.2.1.trans S,qC (λh=>(q.2.2 h).fr S) (by decide)⟩⟩
    |have ka:Kept [] W (W.alloc (gz #[gu s] 233)):=(Kept.refl _ _).alloc _;refine A _ _ ⟨_,?_,(gH (by simp[pr,hb])).mpr ⟨q.1.ib ka,q.2.1.trans (.gN ka),λ_=>CmK.new q.1 s⟩⟩;have h9:dn z 6=false:=(by simp[hn]);simp[pn,wx,lC,ags,O,h9]
    |obtain⟨k,rfl,J,k2,k3⟩:=q.2.2 (by simp[O]);refine(XF E q.1 s true k J k2 k3 l a2.out).mono ?_;rintro e W2 ⟨rfl,X,g1,g2,Y,Z⟩;refine A _ _ ⟨gE k,?_,(gv sM).mpr ⟨X,g1,g2,Y,q.2.1.trans Z⟩⟩
    all_goals simp[pn,wx,lC,O]
  .rintro g W hI;have⟨f2,g1,g2,Y,Z⟩:=(gv yt).mp hI;simp only[vW];have G3:=fM Y;have G4:=fM (HA.out.fr.trans Z);clear hI Y Z;go_wp2
   all_goals go_end0
   all_goals exact⟨f2,g1,g2,rfl,G3.out,G4.out⟩
 |_=>
  change Calls _ _ _ _ (Leaves E f _ w (.ok () σ) uV);simp only[iy];have d:=tM;have H:=fM (K.out.k0 ((Kept.refl [] w).alloc (gz #[fV 0,fV 0,gu jB] 193)));clear h hs G N K;go_enter func165,ntmps165;go_wp2;go_end0;exact ga rfl H.out rfl
def RB.tail {σ:Ab} {m:M Unit} (h:RB c σ (m σ)):RB c σ ((m>>=λ_=>(Pure.pure ():M Unit)) σ):=by
 rw[M.gn];revert h;cases m σ<;>exact λh=>h
def RB.then {σ:Ab} {m:M Unit} (h:RB c σ (m σ)) (g:Ab->Ab) (N:∀σ,(g σ).nodes=σ.nodes/\(g σ).gq=σ.gq/\(g σ).act=σ.act/\(g σ).head=σ.head/\(g σ).form=σ.form/\(g σ).qu=σ.qu/\(g σ).rH=σ.rH/\(g σ).mode=σ.mode/\(g σ).kept=σ.kept/\(g σ).gI=σ.gI/\(g σ).pP=σ.pP/\(g σ).waiting=σ.waiting):RB c σ ((m>>=λ_=>wU g>>=λ_=>(Pure.pure ():M Unit)) σ):=by
 rw[M.gn];revert h;cases m σ with
 |ok a σ1=>
  rintro⟨J,C,b,K⟩;obtain⟨j,z,D,F,G,A,B,H,I,l,u,d⟩:=N σ1;refine⟨J.mg j z D F G A B,⟨by rw[z];exact C.ne,?_⟩,⟨l.trans b.gI,A.trans b.qu,B.trans b.rH,u.trans b.pP,by rw[d];exact b.wt,by rw[d];exact b.wz,λi s q=>(b.nm i s q).nodes j⟩,by rw[jl j];exact K⟩;rw[H,I,z];exact C.sh
 |stop e p=>exact λh=>h
 |stuck=>exact λh=>h
def aji {a b : fY} (h:kJ a b=false):a≠b:=by
 rintro rfl;unfold kJ at h;simp at h
def NC (i:Nat) (a:fY×fY) (r:la) (σ:Ab):qj i (a::r) σ=(match σ.gV i with
  |none=> .stuck
  |some e=>if zE e.gO a.1 then qj i r σ else if σ.pP<=e.gO.length then .stop 7 σ.gI else qj i r (σ.gS i {e with gO:=e.gO++[a]})):=rfl
theorem Gb:∀(gx:la) {σ:Ab},ni σ->(σ.gV i).isSome=true->jE 0 σ (qj i gx σ) (λ_ _=>True)
 |[],σ,h,_=>⟨h,Fx.refl _,gL _,trivial⟩
 |a::r,σ,h,hi=>by
  have⟨e,he⟩:=Option.isSome_iff_exists.1 hi;have B:qj i (a::r) σ=(if zE e.gO a.1 then qj i r σ else if σ.pP<=e.gO.length then .stop 7 σ.gI else qj i r (σ.gS i {e with gO:=e.gO++[a]})):=by
   rw[NC,he]
  rw[B];split
  .exact Gb r h hi
  .split
   .rfl
   .have⟨rr,hr⟩:=h;have g:=Ab.gW he;have H:(σ.gV i).isSome=true:=hi;have z:=hr.alike (σ':=σ.gS i {e with gO:=e.gO++[a]}) (λj l d=>by
     by_cases b:j=i
     .subst b;rw[he]at d;cases d;exact⟨_,Ab.iR g,rfl,rfl,rfl⟩
     .exact⟨l,by rw[Ab.iG b];exact d,rfl,rfl,rfl⟩) (λj l d=>by
     by_cases b:j=i
     .grind
     .rw[Ab.iG b]at d;grind) (λj l d k A=>by
     rw[Ab.lx H];by_cases b:j=i
     .subst b;rw[Ab.iR g]at d;cases d;exact hr.oA.kd _ _ he k A
     .rw[Ab.iG b]at d;exact hr.oA.kd _ _ d k A)
    have hw:wt (σ.gS i {e with gO:=e.gO++[a]})=wt σ:=by
     have:=sJ (e':={e with gO:=e.gO++[a]}) he;dsimp only at this;omega
    have G:=Gb r (σ:=σ.gS i {e with gO:=e.gO++[a]}) ⟨rr,z.1⟩ (by rw[Ab.iR g];rfl);revert G;cases qj i r (σ.gS i {e with gO:=e.gO++[a]})with
    |ok u σ2=>rintro⟨C,D,I,F⟩;exact⟨C,z.2.trans D,by omega,F⟩
    |stop c p=>exact λh=>h
    |stuck=>simp[jE]
def RZ {σ:Ab} (h:ni σ) (b:iV σ i s) (e:nG s=true) (t:gy) (d:σ.fresh=true):jE 0 σ (vK i t σ) (λ_ _=>True):=by
 unfold vK;rw[gv (by rw[pW];exact⟨d,by rw[jx.Sy b];exact e⟩)];exact Gb t.jh h (mw b)
def EE {σ:Ab} (h:ni σ) (b:σ.gq≠[]) (t:gy) (d:σ.fresh=true):jE 0 σ (oe t σ) (λ_ _=>True):=by
 have⟨r,hr⟩:=id h;have⟨q,e,rest,h1,h2,h3,h4⟩:=hr.first b;unfold oe;rw[h2];dsimp only;exact jE.iB (Q:=λ_ _=>True) (RZ h ⟨e,h3,h4⟩ (by kernel_rfl) t d)
theorem O8 {σ:Ab} (h:ni σ) (t:gy) (g:σ.fresh=true):jE 0 σ (pw t σ) (λ_ _=>True):=by
 unfold pw;cases hq:io σ.gq 1 with
 |none=>exact⟨h,Fx.refl _,gL _,trivial⟩
 |some i=>
  dsimp only;split
  .rename_i d;have⟨r,hr⟩:=id h;have l:some i∈σ.gq:=by
    rw[show(1:Int)=((1:Nat):Int)from rfl,rI,xX]at hq;cases hx:σ.gq[1]? with
    |none=>grind
    |some y=>grind
   have⟨j,e,e1,he⟩:=kT (hr.gq _ l);cases e1;have b:=UK he;rw[su d]at b;exact jE.iB (Q:=λ_ _=>True) (RZ h b (by kernel_rfl) t g)
  .exact⟨h,Fx.refl _,gL _,trivial⟩
section
variable {σ:Ab} {t:gy} (h:sB σ) (hw:wt σ < 999000)
include h hw
theorem P9 (d:oD σ t) (u:t.name=iA):RB 360 σ (qz t σ):=by
 have b:rY t.name=true:=by rw[u];kernel_rfl
 have:jE 360 σ (qz t σ) (λ_ _=>True):=by
  unfold qz;refine jE.bind (oz h.iv h.ne (by omega)) (c2:=325) ?_ (by omega);rintro _ B g e G ⟨D,F,j⟩;unfold ra;split
  .refine jE.bind (c1:=288) (FW g (e.ne h.ne) (s:=iA) (by grind) (by omega)) (c2:=33) ?_ (by omega);rintro _ C z l H A;exact jE.iB (Q:=λ_ _=>True) (nE z (l.ne (e.ne h.ne)) ⟨d.tag,by rw[A,j];exact d.fr⟩ b (by omega))
  .exact jE.mono (c:=33) (jE.iB (Q:=λ_ _=>True) (nE g (e.ne h.ne) ⟨d.tag,by rw[j];exact d.fr⟩ b (by omega))) (by omega) (λ_ _ _ _ h=>h)
 exact this.rb h.ne h.md
def Lv (b:oD σ t):RB 33 σ (nX t σ):=by
 have:jE 33 σ (nX t σ) (λ_ _=>True):=by
  unfold nX;refine jE.bind (pH h.iv h.ne b (by omega)) (c2:=0) ?_ (by omega);rintro _ e d g j _;exact jE.iB ((wD d none (λ_ h=>by cases h)).mono (gL _) (λ_ _ _ _ _=>trivial))
 exact this.rb h.ne h.md
def aeN (b:oD σ t) (ks:List fY) (e:gZ ks fO=false):RB 1 σ (Hu ks t σ):=by
 have:jE 1 σ (Hu ks t σ) (λ_ _=>True):=by
  unfold Hu;refine jE.bind (xq h.iv (gZ ks) Wm e) (c2:=1) ?_ (by omega);rintro _ l g d u ⟨j,_⟩;exact jE.iB ((uu g (d.ne h.ne) ⟨b.tag,j.fresh.trans b.fr⟩ (by omega)).mono (gL _) (λ_ _ _ _ _=>trivial))
 exact this.rb h.ne h.md
def FA (b:oD σ t):RB 1 σ (rU t σ):=RB.tail (Ie h hw b false)
def Fz (b:oD σ t):RB 1 σ (mZ t σ):=RB.tail (Ie h hw b true)
def GF (b:oD σ t):RB 1 σ (pa t σ):=RB.then (FA h hw b) _ (λ_=>⟨rfl,rfl,rfl,rfl,rfl,rfl,rfl,rfl,rfl,rfl,rfl,rfl⟩)
omit hw in
def RY (b:σ.fresh=true):RB 0 σ (oe t σ):=(EE h.iv h.ne t b).rb h.ne h.md
omit hw in
def RX (b:σ.fresh=true):RB 0 σ (pw t σ):=(O8 h.iv t b).rb h.ne h.md
omit hw in
def UQ:RB 0 σ (wH σ):=by
 unfold wH;split
 .exact⟨h.iv.mg rfl rfl rfl rfl rfl rfl rfl,⟨h.ne,.inl rfl⟩,⟨rfl,rfl,rfl,rfl,sy _,λ_ h=> .inl h,λ_ _ h=>h⟩,LN (jl rfl)⟩
 .exact sS h.iv h.bms
omit hw in
def JP (p b:fY->Bool) (d:p fO=false):RB 0 σ ((mV p b>>=λ_=>(Pure.pure ():M Unit)) σ):=
 (jE.iB (Q:=λ_ _=>True) ((xq h.iv p b d).mono (gL _) (λ_ _ _ _ _=>trivial))).rb h.ne h.md
omit hw in
def Rr (b:t.name≠fO):RB 0 σ (vH t σ):=JP h _ _ (by
 rw[yV];cases hx:kJ fO t.name with
 |false=>rfl
 |true=>exact absurd (su hx).symm b)
omit hw in
def Mn:RB 0 σ (qP σ):=JP h _ _ (by kernel_rfl)
omit hw in
def UV:RB 0 σ (yg σ):=JP h _ _ (by kernel_rfl)
omit hw in
def Rw (b:t.name≠fO):RB 0 σ (vI t σ):=(jE.iB (Q:=λ_ _=>True) ((Eu h.iv b).mono (gL _) (λ_ _ _ _ _=>trivial))).rb h.ne h.md
def aeu:RB 1 σ (Mo σ):=by
 have:jE 1 σ (Mo σ) (λ_ _=>True):=by
  unfold Mo;split
  .exact jE.mono (c:=0) (jE.iB (Q:=λ_ _=>True) ((uN h.iv).mono (gL _) (λ_ _ _ _ _=>trivial))) (by omega) (λ_ _ _ _ h=>h)
  .refine jE.bind (sQ h.iv h.ne (by omega) nf) (c2:=0) ?_ (by omega);rintro _ d b e g _;exact jE.iB ((uN b).mono (gL _) (λ_ _ _ _ _=>trivial))
 exact this.rb h.ne h.md
def Rs:RB 33 σ (uc σ):=by
 have:jE 33 σ (uc σ) (λ_ _=>True):=by
  unfold uc;refine jE.bind (oz h.iv h.ne (by omega)) (c2:=1) ?_ (by omega);rintro _ g d b z _;refine jE.bind (sQ d (b.ne h.ne) (by omega) jS) (c2:=0) ?_ (by omega);rintro _ l e u A ⟨j,q,_⟩;exact jE.iB ((y8 e (Fa q (b.ne h.ne))).mono (gL _) (λ_ _ _ _ _=>trivial))
 exact this.rb h.ne h.md
omit hw in
def US:RB 0 σ (wI σ):=by
 unfold wI;cases hf:σ.form with
 |none=>exact sS h.iv h.bms
 |some i=>
  dsimp only;have z:iV σ i iH:=by obtain⟨r,A⟩:=h.iv;exact A.form i hf
  have d:ni {σ with form:=none}:=h.iv.PW none (λ_ h=>by cases h);split
  .obtain⟨j,b,G⟩:=JV d vM (by kernel_rfl);have l:=DA j (i:=i) (s:=iH) (b.nm _ _ z) (by intro e;cases e);show RB 0 σ ((kq (some i)>>=λ_=>(Pure.pure ():M Unit)) (({σ with form:=none}:Ab).me));rw[M.gn];revert l;have g:({σ with form:=none}:Ab).me={({σ with form:=none}:Ab)with gq:=(Ab.pS {σ with form:=none} vM ({σ with form:=none}:Ab).gq.reverse).reverse}:=rfl;rw[g];cases kq (some i) _ with
   |ok u σ2=>
    rintro⟨B,C,H,D⟩;have F:=b.trans C;refine⟨B,⟨F.ne h.ne,.inl ?_⟩,⟨F.gI,F.qu,F.rH,F.pP,?_,by rw[F.waiting];exact λ_ h=> .inl h,F.nm⟩,?_⟩
    .rw[F.mode];exact h.md
    .rw[F.waiting];show σ.waiting.length<=_;omega
    .rw[jl D.nodes];exact LN (jl rfl)
   |stop c p=>exact λh=>h
   |stuck=>exact λh=>h
  .exact⟨d,⟨h.ne,.inl h.md⟩,⟨rfl,rfl,rfl,rfl,sy _,λ_ h=> .inl h,λ_ _ h=>h⟩,LN (jl rfl)⟩
def F8 (b:rY t.name=true):RB 288 σ (nP t σ):=(jE.iB (Q:=λ_ _=>True) ((FW h.iv h.ne b (by omega)).mono (gL _) (λ_ _ _ _ _=>trivial))).rb h.ne h.md
omit hw in
def O1:RB 0 σ (qv σ):=by
 have:jE 0 σ (qv σ) (λ_ _=>True):=by
  unfold qv;refine jE.bind (xq h.iv (gZ [gP]) iJ (by kernel_rfl)) (c2:=0) ?_ (by omega);rintro b e d g j _;cases b with
  |true=>exact(LH d).mono (gL _) (λ_ _ _ _ _=>trivial)
  |false=>exact⟨d,Fx.refl _,gL _,trivial⟩
 exact this.rb h.ne h.md
def Cu (b:t.chars.size<=100):RB 101 σ (jZ t σ):=((py h.iv h.ne t (by omega)).mono (c':=101) (by omega) (λ_ _ _ _ h=>h)).rb h.ne h.md
def Me (g:t.chars.size<=100):RB 200 σ (mu t σ):=by
 unfold mu;split
 .exact(sS h.iv h.bms).mono (by omega)
 .have:jE 200 σ ((lz>>=λ_=>jZ t>>=λ_=>(Pure.pure ():M Unit)) σ) (λ_ _=>True):=by
   refine jE.bind (oz h.iv h.ne (by omega)) (c2:=101) ?_ (by omega);rintro _ e d b j _;exact jE.iB (Q:=λ_ _=>True) ((py d (b.ne h.ne) t (by omega)).mono (by omega) (λ_ _ _ _ _=>trivial))
  exact this.rb h.ne h.md
def IA (b:t.chars.size<=100):RB 101 σ (nF t σ):=by
 unfold nF;split
 .exact(sS h.iv h.bms).mono (by omega)
 .exact RB.tail (Cu h hw b)
end
def G9 {σ:Ab} (h:ni σ) (g:M (Nat×Nat)) (e:∃d,g σ= .ok d σ/\Ch σ d) (t:gy) (hw:wt σ < 999000):jE 1 σ (nB g t σ) (λ_ _=>True):=by
 have⟨a,b,k,gx⟩:=t;cases k with
 |gM s=>
  have⟨d,h1,h2⟩:=e;show jE 1 σ ((g>>=λd=>o0 d (.cm s) .cm>>=λ_=>(Pure.pure ():M Unit)) σ) _;rw[M.gn,h1];dsimp only;exact jE.iB (m:=o0 d (.cm s) .cm) (Q:=λ_ _=>True) ((Gt h h2 (.cm s) .cm (.inl ⟨s,rfl,rfl⟩) (by omega)).mono (gL _) (λ_ _ _ _ _=>trivial))
 |kg s=>exact⟨h,Fx.refl _,sy _,trivial⟩
 |start s=>exact⟨h,Fx.refl _,sy _,trivial⟩
 |stop s=>exact⟨h,Fx.refl _,sy _,trivial⟩
 |iE s q=>exact⟨h,Fx.refl _,sy _,trivial⟩
 |lost=>exact⟨h,Fx.refl _,sy _,trivial⟩
 |ie=>exact⟨h,Fx.refl _,sy _,trivial⟩
theorem Bj {σ:Ab} (h:ni σ) (b:σ.gq≠[]):∃d,mD σ= .ok d σ/\Ch σ d:=by
 have⟨r,h⟩:=h;have⟨d,h1,h2,_⟩:=Gp h b;grind
def OV {σ:Ab} (h:ni σ):∃b,jr 0 σ= .ok b σ/\Ch σ b:=by
 have⟨e,he⟩:=Option.isSome_iff_exists.1 h.ye;exact⟨_,by unfold jr;rw[he],e,he,gL _⟩
def EB (σ:Ab) (r:pM Bool):Prop:=match r with
 | .ok x σ'=>ni σ'/\σ'.gq≠[]/\qG σ'.mode=true/\(Lm σ σ'/\σ'.waiting=σ.waiting)/\wt σ'<=wt σ/\σ'.fresh=σ.fresh/\(x=true->σ'.gq.length < σ.gq.length)/\(x=false->σ'=σ)
 | .stop _ _=>False
 | .stuck=>False
def lm0 (σ:Ab):Lm σ σ:=⟨rfl,rfl,rfl,rfl,sy _,λ_ h=> .inl h,λ_ _ h=>h⟩
def EB.no {σ:Ab} (h:sB σ):EB σ (.ok false σ):=⟨h.iv,h.ne,h.md,⟨lm0 σ,rfl⟩,gL _,rfl,(λh=>by cases h),λ_=>rfl⟩
def EB.SE {σ:Ab} (h:sB σ) (p b:fY->Bool) (K:p fO=false) {k:Bool->M Bool} (J:k false=Pure.pure false) (N:∀d,ni d->d.gq≠[]->∃g,k true d= .ok true g/\ni g/\g.gq=d.gq/\qG g.mode=true/\g.gI=d.gI/\g.qu=d.qu/\g.rH=d.rH/\g.pP=d.pP/\g.waiting=d.waiting/\g.nodes=d.nodes/\g.fresh=d.fresh):EB σ ((mV p b>>=k) σ):=by
 have I:=xq h.iv p b K;rw[M.gn];revert I;cases hq:mV p b σ with
 |ok x d=>
  rintro⟨O,j,V,R,S,U⟩;dsimp only;cases x with
  |false=>
   rw[J];have e:=U rfl;subst e;exact EB.no h
  |true=>
   obtain⟨g,e,B,z,C,D,F,G,H,u,A,l⟩:=N d O (j.ne h.ne);rw[e];refine⟨B,by rw[z];exact j.ne h.ne,C,⟨⟨D.trans j.gI,F.trans j.qu,G.trans j.rH,H.trans j.pP,?_,by rw[u,j.waiting];exact λ_ h=> .inl h,λi s q=>(j.nm i s q).nodes A⟩,u.trans j.waiting⟩,?_,l.trans R.fresh,?_,λh=>by cases h⟩
   .rw[u,j.waiting];omega
   .rw[jl A];exact V
   .intro _;rw[z];exact S rfl
 |stop c p=>unfold mV at hq;split at hq<;>cases hq
 |stuck=>exact λh=>h.elim
def Dr {σ:Ab} (h:sB σ) (ks:List fY) (m:Nat) (e:gZ ks fO=false) (g:qG m=true):EB σ (qH ks m σ):=by
 unfold qH;refine EB.SE h _ _ e (k:=λb=>if b then (do jF m;return true)else return false) rfl ?_;intro d l j;exact⟨{d with mode:=m},rfl,l.mg rfl rfl rfl rfl rfl rfl rfl,rfl,g,rfl,rfl,rfl,rfl,rfl,rfl,rfl⟩
def yR {σ:Ab} (h:sB σ) (ks:List fY) (m:Nat) (D:gZ ks fO=false) (F:qG m=true):EB σ (kI ks m σ):=by
 have C:=Dr h ks m D F;unfold kI;rw[M.gn];revert C;cases qH ks m σ with
 |ok x σ1=>
  rintro⟨e,j,g,⟨b,z⟩,u,l,d,A⟩;dsimp only;cases x with
  |false=>exact⟨e,j,g,⟨b,z⟩,u,l,d,A⟩
  |true=>
   obtain⟨B,G,H,I⟩:=LH e;exact⟨B,j,g,⟨⟨b.gI,b.qu,b.rH,b.pP,b.wt,b.wz,b.nm⟩,z⟩,u,l,d,λh=>by cases h⟩
 |stop c p=>exact λh=>h
 |stuck=>exact λh=>h
theorem T0 (s:fY):qG (jO s)=true:=by
 grind[qG,jO]
def Ii (σ:Ab):∀b:kG,qG (ve σ b)=true
 |[]=>rfl
 |x::b=>by
  unfold ve;split
  .exact Ii σ b
  .exact T0 _
def Tj {σ:Ab} (h:sB σ) (p b:fY->Bool) (g:p fO=false):EB σ ((mV p b>>=λb=>if b then (do xF;return true)else return false) σ):=by
 refine EB.SE h p b g (k:=λb=>if b then (do xF;return true)else return false) rfl ?_;intro d j e;exact⟨{d with mode:=ve d d.gq.reverse},rfl,j.mg rfl rfl rfl rfl rfl rfl rfl,rfl,Ii _ _,rfl,rfl,rfl,rfl,rfl,rfl,rfl⟩
def Et {σ:Ab} (h:sB σ):EB σ (lc σ):=by
 unfold lc;split
 .rename_i e;have g:=yd h.iv _ (by kernel_rfl) e;obtain⟨b,d⟩:=Gq h.iv g;show EB σ (.ok true {σ.pop with mode:=7});refine⟨b.mg rfl rfl rfl rfl rfl rfl rfl,d.ne h.ne,rfl,⟨⟨rfl,rfl,rfl,rfl,sy _,λ_ h=> .inl h,λ_ _ h=>h⟩,rfl⟩,LN (jl rfl),rfl,λ_=>?_,λh=>by cases h⟩;show σ.gq.dropLast.length < _;simp;omega
 .exact EB.no h
structure xj (b:M Bool):Prop where
 ok:∀σ,sB σ->EB σ (b σ)
def OY:xj qN:=⟨λ_ h=>yR h _ _ (by kernel_rfl) rfl⟩
def YZ:xj endCell:=⟨λ_ h=>yR h _ _ (by kernel_rfl) rfl⟩
def abp:xj AZ:=⟨λ_ h=>Dr h _ _ (by kernel_rfl) rfl⟩
def J6:xj oH:=⟨λ_ h=>Dr h _ _ (by kernel_rfl) rfl⟩
def UY:xj vJ:=⟨λ_ h=>Tj h _ _ (by kernel_rfl)⟩
def Rx:xj tJ:=⟨λ_ h=>Tj h _ _ (by kernel_rfl)⟩
def F5:xj lc:=⟨λ_ h=>Et h⟩
def aew {b:M Bool} (e:xj b) {σ:Ab} (h:sB σ):RB 0 σ (Cs b σ):=by
 have d:=e.ok σ h;unfold Cs;rw[M.gn];revert d;cases b σ with
 |ok x σ1=>rintro⟨g,u,l,⟨j,D⟩,z,C,A,B⟩;exact⟨g,⟨u,.inl l⟩,j,z⟩
 |stop c p=>simp[EB]
 |stuck=>simp[EB]
def Lm.trans {a b c:Ab} (h:Lm a b) (hw:b.waiting=a.waiting) (k:Lm b c):Lm a c:=⟨k.gI.trans h.gI,k.qu.trans h.qu,k.rH.trans h.rH,k.pP.trans h.pP,by have:=k.wt;rw[hw]at this;exact this,by have:=k.wz;rw[hw]at this;exact this,λi s q=>k.nm i s (h.nm i s q)⟩
def aaM {b:M Bool} (I:xj b) {σ:Ab} (h:sB σ) {rec:Nat->gy->M Unit} (J:∀d,sB d->d.gq.length < σ.gq.length->wt d<=wt σ->d.fresh=σ.fresh->d.waiting=σ.waiting->d.qu=σ.qu->RB c d (rec d.mode t d)):RB c σ (xl rec b t σ):=by
 have F:=I.ok σ h;unfold xl;rw[M.gn];revert F;cases b σ with
 |ok x σ1=>
  rintro⟨g,l,j,⟨e,z⟩,N,K,A,O⟩;dsimp only;cases x with
  |false=>exact⟨g,⟨l,.inl j⟩,e,by omega⟩
  |true=>
   have G:=J σ1 ⟨g,l,j⟩ (A rfl) N K z e.qu;have H:RB c σ1 ((jX rec t>>=λ_=>(Pure.pure ():M Unit)) σ1):=RB.tail G;show RB c σ ((jX rec t>>=λ_=>(Pure.pure ():M Unit)) σ1);revert H;cases(jX rec t>>=λ_=>(Pure.pure ():M Unit)) σ1 with
   |ok u σ2=>rintro⟨B,C,D,R⟩;exact⟨B,C,e.trans z D,by omega⟩
   |stop c p=>exact λh=>wo h e.gI
   |stuck=>simp[RB]
 |stop c p=>simp[EB]
 |stuck=>simp[EB]
section
variable {σ:Ab} {t:gy} (h:sB σ) (hw:wt σ < 999000)
include h hw
def Od (d:oD σ t) (ks:List fY) (m:Nat) (g:qG m=true):RB 1 σ (vE ks m t σ):=by
 unfold vE;refine RB.bind (yc h.iv (gZ ks)) (c2:=1) ?_ (by omega);rintro _ z j b B u;refine RB.bind (jT j (b.ne h.ne) (by omega) t d.tag (u.fresh.trans d.fr)) (c2:=0) ?_ (by omega);rintro _ A l e C _;exact PS l (e.ne (b.ne h.ne)) m g
def IQ (e:oD σ t):RB 1 σ (nK t σ):=by
 unfold nK;refine RB.bind (yc h.iv (gZ [fQ])) (c2:=1) ?_ (by omega);rintro _ B j b F z;refine RB.bind (wD j none (λ_ h=>by cases h)) (c2:=1) ?_ (by omega);rintro _ C l d G A;refine RB.bind (jT l (d.ne (b.ne h.ne)) (by omega) t e.tag (A.fresh.trans (z.fresh.trans e.fr))) (c2:=0) ?_ (by omega);rintro _ D u g H _;exact PS u (g.ne (d.ne (b.ne h.ne))) 9 rfl
def Aa (g:oD σ t):RB 1 σ (pF t σ):=by
 unfold pF;refine RB.bind (yc h.iv (gZ [gX])) (c2:=1) ?_ (by omega);rintro _ I C e J H;refine RB.bind (jT C (e.ne h.ne) (by omega) t g.tag (H.fresh.trans g.fr)) (c2:=0) ?_ (by omega);rintro _ b D j K _;have G:=j.ne (e.ne h.ne);have F:ni {b with mode:=13}:=D.mg rfl rfl rfl rfl rfl rfl rfl;have B:=(jE.iB (Q:=λ_ _=>True) ((wD F none (λ_ h=>by cases h)).mono (gL _) (λ_ _ _ _ _=>trivial))).rb G rfl;show RB 0 b ((kA none>>=λ_=>(Pure.pure ():M Unit)) {b with mode:=13});revert B;cases(kA none>>=λ_=>(Pure.pure ():M Unit)) {b with mode:=13} with
 |ok u σ4=>rintro⟨l,z,d,A⟩;exact⟨l,z,⟨d.gI,d.qu,d.rH,d.pP,d.wt,d.wz,d.nm⟩,A⟩
 |stop c p=>exact λh=>h
 |stuck=>exact λh=>h
def Ck (u:oD σ t) (z:t.name=iH):RB 1 σ (kP t σ):=by
 unfold kP;cases hf:σ.form with
 |some d=>exact(sS h.iv h.bms).mono (by omega)
 |none=>
  dsimp only;refine RB.bind (jT h.iv h.ne (by omega) t u.tag u.fr) (c2:=0) ?_ (by omega);rintro _ b A e D ⟨j,q⟩;refine RB.bind (y8 A (Fa q h.ne)) (c2:=0) ?_ (by omega);rintro x C B g F ⟨rfl,rfl⟩;refine⟨B.PW b.last ?_,⟨g.ne (e.ne h.ne),.inl ?_⟩,⟨rfl,rfl,rfl,rfl,sy _,λ_ h=> .inl h,λ_ _ h=>h⟩,LN (jl rfl)⟩
  .intro d l;rw[EY q]at l;cases l;rw[<-z];exact g.nm _ _ q.nm
  .show qG b.mode=true;rw[e.mode];exact h.md
def vy (b:oD σ t):RB 1 σ (ln t σ):=(qR h.iv h.ne (by omega) t b.tag b.fr).rb h.ne h.md
def Ac (b:oD σ t):RB 1 σ (ju t σ):=by
 have:jE 1 σ (ju t σ) (λ_ _=>True):=by
  unfold ju;refine jE.bind (uY h.iv (gZ [gF]) (by kernel_rfl)) (c2:=1) ?_ (by omega);rintro _ j e d l g;exact jE.iB ((jT e (d.ne h.ne) (by omega) t b.tag (g.fresh.trans b.fr)).mono (gL _) (λ_ _ _ _ _=>trivial))
 exact this.rb h.ne h.md
def sd (g:oD σ t):jE 1 σ (iX t σ) (λ_ b=>2<=b.gq.length):=by
 unfold iX;refine jE.bind (uY h.iv (gZ [gF]) (by kernel_rfl)) (c2:=1) ?_ (by omega);rintro _ B l d F z;refine jE.bind (uY l (gZ [fU]) (by kernel_rfl)) (c2:=1) ?_ (by omega);rintro _ C u e G A;refine jE.iB ((jT u (e.ne (d.ne h.ne)) (by omega) t g.tag (A.fresh.trans (z.fresh.trans g.fr))).mono (gL _) ?_);rintro _ D _ _ ⟨j,q⟩;exact Fa q (e.ne (d.ne h.ne))
def yA (b:oD σ t):RB 1 σ (iX t σ):=(sd h hw b).rb h.ne h.md
def DT (b:oD σ t):RB 1 σ (lh t σ):=by
 have:jE 1 σ (lh t σ) (λ_ _=>True):=by
  unfold lh;refine jE.bind (sd h hw b) (c2:=0) ?_ (by omega);rintro _ g d j l e;exact jE.iB ((y8 d e).mono (gL _) (λ_ _ _ _ _=>trivial))
 exact this.rb h.ne h.md
omit hw in
def AY:RB 0 σ (kY σ):=(jE.iB (Q:=λ_ _=>True) ((uY h.iv (gZ [gF]) (by kernel_rfl)).mono (gL _) (λ_ _ _ _ _=>trivial))).rb h.ne h.md
omit hw in
theorem zC:RB 0 σ (iT σ):=by
 have d:∀b,ni b->jE 0 b ((pZ (gZ [fU])>>=λ_=>(Pure.pure ():M Unit)) b) (λ_ _=>True):=λb u=>
  jE.iB (Q:=λ_ _=>True) ((uY u (gZ [fU]) (by kernel_rfl)).mono (gL _) (λ_ _ _ _ _=>trivial))
 have:jE 0 σ (iT σ) (λ_ _=>True):=by
  unfold iT;split
  .rename_i g;have l:=yd h.iv _ (by kernel_rfl) g;have⟨r,hr⟩:=id h.iv;have⟨i,e,h1,h2,h3,h4⟩:=Po hr h.ne;rw[List.getLast?_eq_getElem?]at h3;have⟨a,ha1,ha2⟩:=hr.QX h3 (by omega);have j:io σ.gq (posOf σ.gq σ.last - 1)=some a:=by
    rw[h1];unfold ahead at ha1;split at ha1
    .grind
    .cases ha1
   rw[j];dsimp only;split
   .refine jE.bind (y8 h.iv l) (c2:=0) ?_ (by omega);grind
   .exact d σ h.iv
  .exact d σ h.iv
 exact this.rb h.ne h.md
end
def ahO (v:gG):Prop:=v= .nilFunc\/∃k a l,v= .func k a l
def tf:List gG->gG
 |[]=> .func (.func 88) #[] #[]
 | .nilFunc::r=>tf r
 |v::_=>v
theorem RE (g A:Nat) (vs:List gG) (w:gm) (F:w.heap[g]?=some (gz vs.toArray 163)) (U:∀v∈vs,ahO v) (S:vs.length<=4096):
  Calls prog 307 #[oo g vs.length A] w λe w'=>e=ig (tf vs)/\w'=w:=by
 obtain⟨m,H⟩:∃m,m=tf vs:=⟨_,rfl⟩;rw[<-H];have X:tf (vs.drop 0)=m:=by rw[H];rfl
 have J:=U;have I:=fM F;obtain⟨n,j⟩:∃n,n=vs.length:=⟨_,rfl⟩;rw[<-j]at S|-;have D:=fM j;clear F j;go_enter func307,ntmps307;go_wp21
 go_loopw [7] (λv wr=>∃k:Nat,v=fV k/\k<=n/\tf (vs.drop k)=m/\wr=w) (λv _=>n - (intOf v).toNat)
 case atStart=>grind
 case round=>
  obtain⟨k,rfl,Y,d,rfl⟩:=hrel;have V:=d;by_cases C:k < n
  .have b:k < vs.length:=by rw[<-D.out];exact C
   have O:=Dc b;have N:wr.cell? ⟨g,k,none⟩=some vs[k]:=by rw[fN I.out];simp[b]
   have G:=J vs[k] (uG b);rw[O]at d;generalize vs[k]=u at d N G;rcases G with rfl|⟨f,a,l,rfl⟩
   .have z:=fM d;clear d;go_wp21;rename_i K B;refine B _ _ ?_;simp only[Bool.not_true];go_wp2;go_roundw
    case rel=>exact⟨k+1,by go_num,by omega,z,trivial⟩
    case measure=>simp[intOf];omega
   .have z:=fM d;clear d;go_wp21;rename_i K B;refine B _ _ ?_;simp only[Bool.not_false];go_wp2;go_ret;exact⟨by rw[<-z.out];rfl,rfl⟩
  .have R:vs.drop k=[]:=List.drop_eq_nil_of_le (by rw[<-D.out];omega);rw[R]at d;have z:=fM d;clear d;go_wp2;go_ret;exact⟨by rw[<-z.out];rfl,rfl⟩
def kD:List Ru->Ru
 |[]=> .nothing
 | .nil::r=>kD r
 |x::_=>x
def Cy:Option (List (List fY×Ru))->fY->Ru
 |none,_=> .nil
 |some R,k=>(oq R k).getD .nil
def jQ (sp:lE) (t:gy):Ru:=match t.k with
 | .kg s=>if mq s then kD [sp.blank,sp.kg,sp.ik]else kD [sp.kg,sp.ik]
 | .gM _=>kD [sp.gM,sp.ik]
 | .iE _ _=>kD [sp.iE,sp.ik]
 | .start n=>kD [Cy sp.start n,sp.jP,sp.ik]
 | .stop n=>kD [Cy sp.stop n,sp.j8,sp.ik]
 | .lost=>kD [sp.ie,sp.ik]
 | .ie=>kD [sp.ie,sp.ik]
theorem n4.isF {r : Ru} (h:n4 bm bB bD r v w):(r= .nil/\v= .nilFunc)\/(r≠ .nil/\∃k a l,v= .func k a l):=by
 cases r with
 |nil=>exact .inl ⟨rfl,h⟩
 |nothing=>exact .inr ⟨by simp,_,_,_,h⟩
 |hH f=>exact .inr ⟨by simp,_,_,_,h⟩
 |pO m=>have⟨b1,b2,e,_⟩:=h;grind
 |gM pf own=>have⟨b1,e,_⟩:=h;grind
 |ahead f=>have⟨b1,b2,e,_⟩:=h;grind
 |ends f=>have⟨b1,e,_⟩:=h;grind
 |LZ r=>have⟨b1,b2,u,e,_⟩:=h;grind
 |qF ks m=>have⟨b1,b2,b3,u,e,_⟩:=h;grind
 |nj ks n m=>have⟨b1,b2,b3,b4,u,e,_⟩:=h;grind
 |item ks=>have⟨b1,b2,b3,u1,u2,e,_⟩:=h;grind
def n4.fv {r : Ru} (h:n4 bm bB bD r v w):ahO v:=by
 rcases h.isF with⟨_,e⟩|⟨_,e⟩
 .exact .inl e
 .exact .inr e
inductive xi (bm bB bD:Nat) (w:gm):List Ru->List gG->Prop
 |nil:xi bm bB bD w [] []
 |cons {r:Ru} {v:gG} {rs:List Ru} {vs:List gG} (h:n4 bm bB bD r v w) (t:xi bm bB bD w rs vs):xi bm bB bD w (r::rs) (v::vs)
theorem xi.first (h:xi bm bB bD w rs vs):n4 bm bB bD (kD rs) (tf vs) w:=by
 induction h with
 |nil=>rfl
 |@cons r v rs vs h t ih=>
  rcases h.isF with⟨rfl,rfl⟩|⟨b,k,a,l,rfl⟩
  all_goals grind[n4,kD,tf]
theorem xi.isF (h:xi bm bB bD w rs vs):∀v∈vs,ahO v:=by
 induction h with
 |nil=>simp
 |cons h t ih=>intro v b;rcases List.mem_cons.1 b with rfl|b;exact h.fv;grind
def uP (h:xi bm bB bD w rs vs) (d:vs.length<=4096) {g : Nat} (b:W.heap.size=g):
  Calls prog 307 #[oo g vs.length vs.length] (W.alloc (gz vs.toArray 163)) λe w'=>e=ig (tf vs)/\w'=W.alloc (gz vs.toArray 163):=by
 subst b;exact RE _ _ vs _ (fP _ _) h.isF d
def ahj (h:v.oneCell'=true):v.cells=#[v]:=by
 cases v<;>first|rfl|(simp[Value.oneCell']at h)
def xg {v0 v1 v2 v3 v4 v5 v6 v7 v8 v9 : gG} (h:∀v∈[v0,v1,v2,v3,v4,v5,v6,v7,v8,v9],v.oneCell'=true):v0.cells=#[v0]/\v1.cells=#[v1]/\v2.cells=#[v2]/\v3.cells=#[v3]/\v4.cells=#[v4]/\v5.cells=#[v5]/\v6.cells=#[v6]/\v7.cells=#[v7]/\v8.cells=#[v8]/\v9.cells=#[v9]:=by
 refine⟨?_,?_,?_,?_,?_,?_,?_,?_,?_,?_⟩<;>exact ahj (h _ (by simp))
def GH (w:gm) (o b:Obj):((w.alloc o).alloc b).heap[w.heap.size]?=some o:=(Below.heap_alloc _ _ _ (by simp)).trans (fP w _)
def afb (E:Env) (bB bD a b:Nat) (s:fY) (gx:la) (sp:lE) (v0 v1 v2 v3 v4 v5 v6 v7 v8 v9:gG) (w:gm) (h:kX E.bm bB bD sp v0 v1 v2 v3 v4 v5 v6 v7 v8 v9 w):
  Calls prog 255 #[.agg #[v0,v1,v2,v3,v4,v5,v6,v7,v8,v9],iy E ⟨a,b,.kg s,gx⟩] w λe w'=>∃v,e=ig v/\n4 E.bm bB bD (jQ sp ⟨a,b,.kg s,gx⟩) v w/\Kept [] w w':=by
 have⟨U,N,k2,k3,k4,k5,k6,k7,k8,O⟩:=xg h.one;have j:=fM h;clear h;have H:=fM (λo=>GH w (gz #[v0,v1,v2,v3,v4,v5,v6,v7,v8,v9] 167) o);have C:=fM (fP w (gz #[v0,v1,v2,v3,v4,v5,v6,v7,v8,v9] 167));have u:=fM (λo=>((Kept.refl [] w).alloc (gz #[v0,v1,v2,v3,v4,v5,v6,v7,v8,v9] 167)).alloc o);have D:=fM ((Kept.refl [] w).alloc (gz #[v0,v1,v2,v3,v4,v5,v6,v7,v8,v9] 167));simp only[iy];have B:=ri underlying183;have G:=fM (λW=>Kv s W);go_enter func255,ntmps255;go_wp21;refine(G.out _).mono ?_;rintro e w1 ⟨rfl,l⟩;have A:=l.at (H.out _) (by simp);have I:=fM ((u.out _).trans l);have Y:=fN A 0;have Z:=fN A 1;have q9:=fN A 9;dsimp at Y Z q9;clear A l H C u D G;have f0:=j.out.blank.fv;have J:=j.out.kg.fv;have K:=j.out.ik.fv;cases hb:mq s with
 |true=>
  have z:jQ sp ⟨a,b,.kg s,gx⟩=kD [sp.blank,sp.kg,sp.ik]:=by simp[jQ,hb]
  have d:Hid (xi E.bm bB bD w _ [v0,v1,v9]):=fM (.cons j.out.blank (.cons j.out.kg (.cons j.out.ik (.nil))));have F:=fM z;clear z hb;rcases f0 with rfl|⟨U,a0,l0,rfl⟩
  all_goals rcases J with rfl|⟨N,R,V,rfl⟩
  all_goals rcases K with rfl|⟨O,S,X,rfl⟩
  all_goals go_wp21
  all_goals refine(uP d.out (by simp) (by simp)).mono ?_
  all_goals rintro e w3 ⟨rfl,rfl⟩
  all_goals have g:=fM d.out.first
  all_goals simp only[tf]at g|-
  all_goals go_wp2
  all_goals go_ret
  all_goals exact⟨_,rfl,F.out▸g.out,I.out.alloc _⟩
 |false=>
  have z:jQ sp ⟨a,b,.kg s,gx⟩=kD [sp.kg,sp.ik]:=by simp[jQ,hb]
  have d:Hid (xi E.bm bB bD w _ [v1,v9]):=fM (.cons j.out.kg (.cons j.out.ik (.nil)));have F:=fM z;clear z hb;rcases J with rfl|⟨N,R,V,rfl⟩
  all_goals rcases K with rfl|⟨O,S,X,rfl⟩
  all_goals go_wp21
  all_goals refine(uP d.out (by simp) (by simp)).mono ?_
  all_goals rintro e w3 ⟨rfl,rfl⟩
  all_goals have g:=fM d.out.first
  all_goals simp only[tf]at g|-
  all_goals go_wp2
  all_goals go_ret
  all_goals exact⟨_,rfl,F.out▸g.out,I.out.alloc _⟩
def Vx (E:Env) (bB bD a b:Nat) (gx:la) (sp:lE) (v0 v1 v2 v3 v4 v5 v6 v7 v8 v9:gG) (w:gm) (h:kX E.bm bB bD sp v0 v1 v2 v3 v4 v5 v6 v7 v8 v9 w):
  Calls prog 255 #[.agg #[v0,v1,v2,v3,v4,v5,v6,v7,v8,v9],iy E ⟨a,b,.ie,gx⟩] w λe w'=>∃v,e=ig v/\n4 E.bm bB bD (jQ sp ⟨a,b,.ie,gx⟩) v w/\Kept [] w w':=by
 have⟨k0,k1,k2,k3,J,k5,k6,k7,k8,K⟩:=xg h.one;have B:=fM h;clear h;have G:=fM (λo=>GH w (gz #[v0,v1,v2,v3,v4,v5,v6,v7,v8,v9] 167) o);have j:=fM (fP w (gz #[v0,v1,v2,v3,v4,v5,v6,v7,v8,v9] 167));have D:=fM (λo=>((Kept.refl [] w).alloc (gz #[v0,v1,v2,v3,v4,v5,v6,v7,v8,v9] 167)).alloc o);have F:=fM ((Kept.refl [] w).alloc (gz #[v0,v1,v2,v3,v4,v5,v6,v7,v8,v9] 167));simp only[iy];have C:=vZ;have l:=tM;have u:=xe;have g:=qV;have z:=yZ;have N:=fN j.out 4;have O:=fN j.out 9;dsimp at N O;clear G j D;have d:Hid (xi E.bm bB bD w _ [v4,v9]):=fM (.cons B.out.ie (.cons B.out.ik (.nil)));have H:=B.out.ie.fv;have I:=B.out.ik.fv;go_enter func255,ntmps255;rcases H with rfl|⟨J,R,U,rfl⟩
 all_goals rcases I with rfl|⟨K,S,V,rfl⟩
 all_goals go_wp21
 all_goals refine(uP d.out (by simp) (by simp)).mono ?_
 all_goals rintro e X ⟨rfl,rfl⟩
 all_goals have A:=fM d.out.first
 all_goals simp only[tf]at A|-
 all_goals go_wp2
 all_goals go_ret
 all_goals exact⟨_,rfl,A.out,F.out.alloc _⟩
def Oo (w:gm):(zeroValue 163).run prog w= .ok .nilFunc w:=by simp
theorem Sl {R : Option (List (List fY×Ru))} (h:sn bm bB bD R v w) (n:fY):
  ∃u,(∀w',Kept [] w w'->(Instr.lookup 165 v (gu n) false).run prog w'= .ok u w')/\n4 bm bB bD (Cy R n) u w:=by
 cases R with
 |none=>
  obtain rfl:v= .map none:=h;refine⟨.nilFunc,λw' _=>?_,rfl⟩;have l:(underlying 9).run prog w'= .ok .string w':=qq underlying9 _;have g:∀x,(Instr.checkKey x 10000 9 (gu n)).run prog w'= .ok () w':=λx=>by
   unfold Instr.checkKey;simp
  simp[Instr.lookup,qq (show prog.underlying 165=some (.map 9 163) by simp),g,Instr.findKey,Instr.findNow,l,Oo,Result.andThen]
 |some R=>
  obtain⟨b,L,rfl,e,z⟩:=h;have d:=e.lt;refine⟨(AD L n).getD .nilFunc,λw' j=>Gy (by simp) Oo (e.keeps (j.block b d (by simp))) n,?_⟩;grind[n4,Cy,AD]
def acA (E:Env) (bB bD a b:Nat) (n:fY) (gx:la) (sp:lE) (v0 v1 v2 v3 v4 v5 v6 v7 v8 v9:gG) (w:gm) (h:kX E.bm bB bD sp v0 v1 v2 v3 v4 v5 v6 v7 v8 v9 w) (d:∃x m c,E.tv= .slice x m c):
  Calls prog 255 #[.agg #[v0,v1,v2,v3,v4,v5,v6,v7,v8,v9],iy E ⟨a,b,.start n,gx⟩] w λe w'=>∃v,e=ig v/\n4 E.bm bB bD (jQ sp ⟨a,b,.start n,gx⟩) v w/\Kept [] w w':=by
 have⟨k0,k1,k2,k3,k4,k5,k6,k7,k8,k9⟩:=xg h.one;have F:=fM h;clear h;have R:=fM (λo=>GH w (gz #[v0,v1,v2,v3,v4,v5,v6,v7,v8,v9] 167) o);have J:=fM (fP w (gz #[v0,v1,v2,v3,v4,v5,v6,v7,v8,v9] 167));have l:=fM (λo=>((Kept.refl [] w).alloc (gz #[v0,v1,v2,v3,v4,v5,v6,v7,v8,v9] 167)).alloc o);have K:=fM ((Kept.refl [] w).alloc (gz #[v0,v1,v2,v3,v4,v5,v6,v7,v8,v9] 167));simp only[iy];have⟨x0,m0,c0,d⟩:=d;rw[d];clear d;have I:=vZ;have B:=tM;have C:=xe;have j:=ri underlying191;have⟨u,hlk,hu⟩:=Sl F.out.start n;have N:=fM hlk;have A:=hlk ((w.alloc (gz #[v0,v1,v2,v3,v4,v5,v6,v7,v8,v9] 167)).alloc (gz #[fV a,fV b,gu n,.slice x0 m0 c0] 191)) (l.out _);have H:=R.out (gz #[fV a,fV b,gu n,.slice x0 m0 c0] 191);have O:=fP (w.alloc (gz #[v0,v1,v2,v3,v4,v5,v6,v7,v8,v9] 167)) (gz #[fV a,fV b,gu n,.slice x0 m0 c0] 191);have G:=fM (l.out (gz #[fV a,fV b,gu n,.slice x0 m0 c0] 191));obtain⟨W,z⟩:∃W,W=((w.alloc (gz #[v0,v1,v2,v3,v4,v5,v6,v7,v8,v9] 167)).alloc (gz #[fV a,fV b,gu n,.slice x0 m0 c0] 191)):=⟨_,rfl⟩;have U:(w.alloc (gz #[v0,v1,v2,v3,v4,v5,v6,v7,v8,v9] 167)).heap.size=w.heap.size+1:=by simp
 rw[U]at O;have q5:W.cell? ⟨w.heap.size,5,none⟩=some v5:=by rw[z,fN H];rfl
 have q7:W.cell? ⟨w.heap.size,7,none⟩=some v7:=by rw[z,fN H];rfl
 have q9:W.cell? ⟨w.heap.size,9,none⟩=some v9:=by rw[z,fN H];rfl
 have qn:W.cell? ⟨w.heap.size+1,2,none⟩=some (gu n):=by rw[z,fN O];rfl
 rw[<-z]at G A;have X:=fM z.symm;clear H O R J l K hlk z U N;have S:jQ sp ⟨a,b,.start n,gx⟩=kD [Cy sp.start n,sp.jP,sp.ik]:=rfl;have g:Hid (xi E.bm bB bD w _ [u,v7,v9]):=fM (.cons hu (.cons F.out.jP (.cons F.out.ik (.nil))));have V:=fM S;clear S;have Y:=hu.fv;have Z:=F.out.jP.fv;have f9:=F.out.ik.fv;clear hu;go_enter func255,ntmps255;go_wp21;rw[X.out];go_wp21;rw[A];clear A;rcases Y with rfl|⟨k5,a5,l5,rfl⟩
 all_goals rcases Z with rfl|⟨k7,a7,l7,rfl⟩
 all_goals rcases f9 with rfl|⟨k9,a9,l9,rfl⟩
 all_goals go_wp2_with fail
 all_goals refine(uP g.out (by simp) (by simp)).mono ?_
 all_goals rintro e w3 ⟨rfl,rfl⟩
 all_goals have D:=fM g.out.first
 all_goals simp only[tf]at D|-
 all_goals go_wp2
 all_goals go_ret
 all_goals exact⟨_,rfl,V.out▸D.out,G.out.alloc _⟩
end
end Go.Proofs.YthcohfdidcdchaaGreatDoor
