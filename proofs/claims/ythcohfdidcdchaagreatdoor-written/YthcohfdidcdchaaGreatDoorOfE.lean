import Derived.Test.YthcohfdidcdchaaGreatDoorIvH
import Derived.Stop.Asserts
import Derived.Handy
set_option linter.unusedSimpArgs false
set_option linter.unusedVariables false
set_option linter.defProp false
set_option maxHeartbeats 0
set_option maxRecDepth 100000
namespace Go.Proofs.YthcohfdidcdchaaGreatDoor
open Go.RowKit Go.Extern.Stop Go.Stop Go.Extern Go.PlainAid Tryz
def GL:=@ownsRow_putObj
def aiu:=@run_convert_bytes_back
def rl:=@Calls.quiet_of
section
variable {A c : jA} {D b base iw bs cp fi g i j n n0 r : Nat} {L : Loc} {Q : Ending->gm->Prop} {S : List (Nat×gG)} {T t : TypeId} {W W' w w' w0 w2 : gm} {a : Act} {ao : Option Addr} {assign body : Code} {e ei ej : yp} {f f0 : Nat->Nat} {m : Nat×Nat} {o o' : Obj} {p s : fY} {q : Int->Bool} {v v' : gG}
def afc (E:Env) (Y Z a b:Nat) (n:fY) (gx:la) (sp:lE) (v0 v1 v2 v3 v4 v5 v6 v7 v8 v9:gG) (w:gm) (h:kX E.bm Y Z sp v0 v1 v2 v3 v4 v5 v6 v7 v8 v9 w) (d:∃x m c,E.tv= .slice x m c):
  Calls prog 255 #[.agg #[v0,v1,v2,v3,v4,v5,v6,v7,v8,v9],iy E ⟨a,b,.stop n,gx⟩] w λe w'=>∃v,e=ig v/\n4 E.bm Y Z (jQ sp ⟨a,b,.stop n,gx⟩) v w/\Kept [] w w':=by
 have⟨k0,k1,k2,k3,k4,k5,k6,k7,k8,k9⟩:=xg h.one;have J:=fM h;clear h;have HG:=fM (λo=>GH w (gz #[v0,v1,v2,v3,v4,v5,v6,v7,v8,v9] 167) o);have U:=fM (fP w (gz #[v0,v1,v2,v3,v4,v5,v6,v7,v8,v9] 167));have y:=fM (λo=>((Kept.refl [] w).alloc (gz #[v0,v1,v2,v3,v4,v5,v6,v7,v8,v9] 167)).alloc o);have V:=fM ((Kept.refl [] w).alloc (gz #[v0,v1,v2,v3,v4,v5,v6,v7,v8,v9] 167));simp only[iy];have⟨x0,m0,c0,d⟩:=d;rw[d];clear d;have O:=vZ;have F:=tM;have G:=xe;have l:=qV;have H:=ri underlying192;have⟨u,hlk,hu⟩:=Sl J.out.stop n;have X:=fM hlk;have C:=hlk ((w.alloc (gz #[v0,v1,v2,v3,v4,v5,v6,v7,v8,v9] 167)).alloc (gz #[fV a,fV b,gu n,.slice x0 m0 c0] 192)) (y.out _);have N:=HG.out (gz #[fV a,fV b,gu n,.slice x0 m0 c0] 192);have gT:=fP (w.alloc (gz #[v0,v1,v2,v3,v4,v5,v6,v7,v8,v9] 167)) (gz #[fV a,fV b,gu n,.slice x0 m0 c0] 192);have K:=fM (y.out (gz #[fV a,fV b,gu n,.slice x0 m0 c0] 192));obtain⟨W,z⟩:∃W,W=((w.alloc (gz #[v0,v1,v2,v3,v4,v5,v6,v7,v8,v9] 167)).alloc (gz #[fV a,fV b,gu n,.slice x0 m0 c0] 192)):=⟨_,rfl⟩;have hz:(w.alloc (gz #[v0,v1,v2,v3,v4,v5,v6,v7,v8,v9] 167)).heap.size=w.heap.size+1:=by simp
 rw[hz]at gT;have q6:W.cell? ⟨w.heap.size,6,none⟩=some v6:=by rw[z,fN N];rfl
 have q8:W.cell? ⟨w.heap.size,8,none⟩=some v8:=by rw[z,fN N];rfl
 have q9:W.cell? ⟨w.heap.size,9,none⟩=some v9:=by rw[z,fN N];rfl
 have qn:W.cell? ⟨w.heap.size+1,2,none⟩=some (gu n):=by rw[z,fN gT];rfl
 rw[<-z]at K C;have HW:=fM z.symm;clear N gT HG U y V hlk z hz X;have hr:jQ sp ⟨a,b,.stop n,gx⟩=kD [Cy sp.stop n,sp.j8,sp.ik]:=rfl;have k:Hid (xi E.bm Y Z w _ [u,v8,v9]):=fM (.cons hu (.cons J.out.j8 (.cons J.out.ik (.nil))));have HR:=fM hr;clear hr;have f5:=hu.fv;have f8:=J.out.j8.fv;have f9:=J.out.ik.fv;clear hu;go_enter func255,ntmps255;go_wp21;rw[HW.out];go_wp21;rw[C];clear C;rcases f5 with rfl|⟨k5,a5,l5,rfl⟩
 all_goals rcases f8 with rfl|⟨k8,a8,l8,rfl⟩
 all_goals rcases f9 with rfl|⟨k9,a9,l9,rfl⟩
 all_goals go_wp2_with fail
 all_goals refine(uP k.out (by simp) (by simp)).mono ?_
 all_goals rintro e w3 ⟨rfl,rfl⟩
 all_goals have I:=fM k.out.first
 all_goals simp only[tf]at I|-
 all_goals go_wp2
 all_goals go_ret
 all_goals exact⟨_,rfl,HR.out▸I.out,K.out.alloc _⟩
def Vu (E:Env) (G H a b:Nat) (s:fY) (gx:la) (sp:lE) (v0 v1 v2 v3 v4 v5 v6 v7 v8 v9:gG) (w:gm) (h:kX E.bm G H sp v0 v1 v2 v3 v4 v5 v6 v7 v8 v9 w):
  Calls prog 255 #[.agg #[v0,v1,v2,v3,v4,v5,v6,v7,v8,v9],iy E ⟨a,b,.gM s,gx⟩] w λe w'=>∃v,e=ig v/\n4 E.bm G H (jQ sp ⟨a,b,.gM s,gx⟩) v w/\Kept [] w w':=by
 have⟨k0,k1,O,k3,k4,k5,k6,k7,k8,U⟩:=xg h.one;have x:=fM h;clear h;have J:=fM (λo=>GH w (gz #[v0,v1,v2,v3,v4,v5,v6,v7,v8,v9] 167) o);have z:=fM (fP w (gz #[v0,v1,v2,v3,v4,v5,v6,v7,v8,v9] 167));have u:=fM (λo=>((Kept.refl [] w).alloc (gz #[v0,v1,v2,v3,v4,v5,v6,v7,v8,v9] 167)).alloc o);have C:=fM ((Kept.refl [] w).alloc (gz #[v0,v1,v2,v3,v4,v5,v6,v7,v8,v9] 167));simp only[iy];have y:=vZ;have k:=ri underlying193;have I:=J.out (gz #[fV a,fV b,gu s] 193);have F:=fM (u.out (gz #[fV a,fV b,gu s] 193));have V:=fN I 2;have X:=fN I 9;dsimp at V X;clear I J z u C;have d:Hid (xi E.bm G H w _ [v2,v9]):=fM (.cons x.out.gM (.cons x.out.ik (.nil)));have K:=x.out.gM.fv;have N:=x.out.ik.fv;go_enter func255,ntmps255;rcases K with rfl|⟨O,Y,l2,rfl⟩
 all_goals rcases N with rfl|⟨U,Z,l9,rfl⟩
 all_goals go_wp21
 all_goals refine(uP d.out (by simp) (by simp)).mono ?_
 all_goals rintro e w3 ⟨rfl,rfl⟩
 all_goals have l:=fM d.out.first
 all_goals simp only[tf]at l|-
 all_goals go_wp2
 all_goals go_ret
 all_goals exact⟨_,rfl,l.out,F.out.alloc _⟩
def Vv (E:Env) (H I a b:Nat) (n:fY) (q:Bool) (gx:la) (sp:lE) (v0 v1 v2 v3 v4 v5 v6 v7 v8 v9:gG) (w:gm) (h:kX E.bm H I sp v0 v1 v2 v3 v4 v5 v6 v7 v8 v9 w):
  Calls prog 255 #[.agg #[v0,v1,v2,v3,v4,v5,v6,v7,v8,v9],iy E ⟨a,b,.iE n q,gx⟩] w λe w'=>∃v,e=ig v/\n4 E.bm H I (jQ sp ⟨a,b,.iE n q,gx⟩) v w/\Kept [] w w':=by
 have⟨k0,k1,k2,U,k4,k5,k6,k7,k8,V⟩:=xg h.one;have y:=fM h;clear h;have K:=fM (λo=>GH w (gz #[v0,v1,v2,v3,v4,v5,v6,v7,v8,v9] 167) o);have C:=fM (fP w (gz #[v0,v1,v2,v3,v4,v5,v6,v7,v8,v9] 167));have x:=fM (λo=>((Kept.refl [] w).alloc (gz #[v0,v1,v2,v3,v4,v5,v6,v7,v8,v9] 167)).alloc o);have F:=fM ((Kept.refl [] w).alloc (gz #[v0,v1,v2,v3,v4,v5,v6,v7,v8,v9] 167));simp only[iy];have z:=vZ;have k:=tM;have l:=ri underlying195;have J:=K.out (gz #[fV a,fV b,gu n,.bool q] 195);have G:=fM (x.out (gz #[fV a,fV b,gu n,.bool q] 195));have X:=fN J 3;have Y:=fN J 9;dsimp at X Y;clear J K C x F;have d:Hid (xi E.bm H I w _ [v3,v9]):=fM (.cons y.out.iE (.cons y.out.ik (.nil)));have N:=y.out.iE.fv;have O:=y.out.ik.fv;go_enter func255,ntmps255;rcases N with rfl|⟨U,Z,l3,rfl⟩
 all_goals rcases O with rfl|⟨V,a9,l9,rfl⟩
 all_goals go_wp21
 all_goals refine(uP d.out (by simp) (by simp)).mono ?_
 all_goals rintro e w3 ⟨rfl,rfl⟩
 all_goals have u:=fM d.out.first
 all_goals simp only[tf]at u|-
 all_goals go_wp2
 all_goals go_ret
 all_goals exact⟨_,rfl,u.out,G.out.alloc _⟩
def Leaves.k0 {α:Type} {E:Env} {r:pM α} {d:(Nat->Nat)->α->gG} {e : Ending} (h:Leaves E f n w' r d e W) (l:Kept [] w w'):Leaves E f n w r d e W:=by
 cases r with
 |ok a σ'=>have⟨g,h1,h2,h3,h4,h5⟩:=h;exact⟨g,h1,h2,h3,h4,(Fr.gN l).trans h5⟩
 |stop c p=>have⟨k,h1,h2,h3⟩:=h;exact⟨k,h1,h2,(Fr.gN l).trans h3⟩
 |stuck=>exact h
def agk (E:Env) (t:gy):Prop:=∀(d h:Nat) (k:lE) (l u x y z C F G H I:gG) (w:gm),kX E.bm d h k l u x y z C F G H I w->
  Calls prog 255 #[.agg #[l,u,x,y,z,C,F,G,H,I],iy E t] w λe w'=>∃v,e=ig v/\n4 E.bm d h (jQ k t) v w/\Kept [] w w'
def mn (E:Env) (r:Ru) (t:gy) (m:M Unit):Prop:=∀v f h w,RF E f h w->n4 E.bm E.bB (f 0) r v w->m h≠ .stuck->
  ∃k bs l,v= .func (.func k) bs l/\(∀d w,(callFunc k d).run prog w= .ok (.enter k d) w)/\Calls prog k (bs++#[iy E t]++l) w (Leaves E f h.nodes.length w (m h) uV)
def asM (d:Ru->gy->M Unit) (m:Nat) (t:gy):M Unit:=match ut[m]? with
 |some sp=>d (jQ sp t) t
 |none=>stuck
theorem RF.Ij {E:Env} {σ:Ab} (h:RF E f σ w) {m : Nat} {sp : lE} (K:ut[m]?=some sp):∃k l u x y z F G H I,kX E.bm E.bB (f 0) sp k l u x y z F G H I w/\
  (∀j,j < 10->w.cell? ⟨E.bB,4+m*10+j,none⟩=[k,l,u,x,y,z,F,G,H,I][j]?):=by
 obtain⟨L,rfl,hr⟩:=h;have⟨cs,hcs,hlen,hru⟩:=hr.env.Ij;have⟨k,l,u,x,y,z,F,G,H,I,e,hi⟩:=hru m sp K;have N:m < 18:=(List.getElem?_eq_some_iff.1 K).1;refine⟨k,l,u,x,y,z,F,G,H,I,?_,?_⟩
 .have J:=hr.fr;have d:=J.n E.bm;have O:∀{R:Option (List (List fY×Ru))} {v:gG},sn E.bm E.bB (L.gI 0) R v E.w0->sn E.bm E.bB (L.gI 0) R v w:=by
   intro R v h;cases R with
   |none=>exact h
   |some R=>have⟨b,hb⟩:=h;exact⟨b,hb.fr d (J.calm (.inl hb.at))⟩
  exact⟨hi.blank.fr d,hi.kg.fr d,hi.gM.fr d,hi.iE.fr d,hi.ie.fr d,O hi.start,O hi.stop,hi.jP.fr d,hi.j8.fr d,hi.ik.fr d⟩
 .intro j U;have⟨C,hb,hC⟩:=hr.iw;rw[fN hb,hC.low _ (by omega),show 4+m*10+j=4+(m*10+j) by omega,hcs _ (by omega),<-e];grind
def adg (E:Env) (z:Ru->gy->M Unit) (t:gy) (Y:agk E t) (hR:∀r,mn E r t (z r t)) (m:Nat):iZ E 162 (λ_=>#[Bp E,fV m,iy E t]) (asM z m t) uV:=by
 intro f C w h l;unfold asM at l|-;cases hm:ut[m]? with
 |none=>rw[hm]at l;exact absurd rfl l
 |some sp=>
  rw[hm]at l;simp only[]at l|-;have G:m < 18:=(List.getElem?_eq_some_iff.1 hm).1;have⟨v0,v1,v2,v3,v4,v5,v6,v7,v8,v9,hi,hc⟩:=h.Ij hm;have q0:w.cell? ⟨E.bB,4+m*10,none⟩=some v0:=hc 0 (by decide);have q1:w.cell? ⟨E.bB,4+m*10+1,none⟩=some v1:=hc 1 (by decide);have q2:w.cell? ⟨E.bB,4+m*10+2,none⟩=some v2:=hc 2 (by decide);have q3:w.cell? ⟨E.bB,4+m*10+3,none⟩=some v3:=hc 3 (by decide);have q4:w.cell? ⟨E.bB,4+m*10+4,none⟩=some v4:=hc 4 (by decide);have q5:w.cell? ⟨E.bB,4+m*10+5,none⟩=some v5:=hc 5 (by decide);have q6:w.cell? ⟨E.bB,4+m*10+6,none⟩=some v6:=hc 6 (by decide);have q7:w.cell? ⟨E.bB,4+m*10+7,none⟩=some v7:=hc 7 (by decide);have q8:w.cell? ⟨E.bB,4+m*10+8,none⟩=some v8:=hc 8 (by decide);have q9:w.cell? ⟨E.bB,4+m*10+9,none⟩=some v9:=hc 9 (by decide);have a1:=h.lt;have H:=Y _ _ _ _ _ _ _ _ _ _ _ _ _ w hi;have F:=(λv w' (u:Kept [] w w') (y:n4 E.bm E.bB (f 0) (jQ sp t) v w)=>hR (jQ sp t) v f C w' (h.ib u) (y.fr (.gN u)) l);generalize hZ:z (jQ sp t) t C=Z at F|-;generalize iy E t=tv at *;go_enter func162,ntmps162;go_wp21;refine H.mono ?_;rintro e w1 ⟨v,rfl,y,u⟩;obtain⟨k,bs,cs,rfl,a0,d⟩:=F v w1 u y;have K:=d.mono (λe W x=>x.k0 u);go_wp21;refine K.mono ?_;intro e W x;cases Z with
  |ok a σ'=>
   obtain⟨g,O,U,rfl,V,X⟩:=x;have N:Hid (Leaves E f C.nodes.length w (.ok a σ') uV (ig (uV g a)) W):=fM ⟨g,O,U,rfl,V,X⟩;go_wp2;go_end0;exact N
  |stop c p=>
   obtain⟨j,rfl,I,J⟩:=x;go_wp2;exact⟨rfl,pU rfl I J⟩
  |stuck=>exact x.elim
def uE (rec:Nat->gy->M Unit) (t:gy):M Unit:=match t.k with
 | .lost=>Pure.pure ()
 |_=>λd=>if d.behind&&kJ t.chars yo then .ok () {d with behind:=false,gI:=t.a} else jX rec t {d with behind:=false,gI:=t.a}
def abw (s:fY):kJ s yo=(s.toList==[10]):=by
 simp[kJ]
def Q9 (a b:Int) (w:gm):Calls prog 427 #[.agg #[fV a,fV b]] w λe w'=>e=ig (.tuple #[fV a,fV b])/\Kept [] w w':=by
 go_enter func427,ntmps427;go_wp21;go_region
 all_goals (try go_wp2)
 all_goals (try go_ret2)
 all_goals exact⟨rfl,((Kept.refl [] w).alloc _).drew⟩
theorem yL (E:Env) (rec:Nat->gy->M Unit) (hA:∀(m:Nat) (t:gy),jd E t->iZ E 162 (λ_=>#[Bp E,fV m,iy E t]) (rec m t) uV) (t:gy) (ht:jd E t) (hk:t.k≠ .lost) (C:iy E t= .iface T v) (hT:T≠185)
  (K:∀w,(Go.method 494 T v "Bytes").run prog w= .ok (427,.agg #[fV t.a,fV t.b]) w):iZ E 48 (λ_=>#[Bp E,iy E t]) (uE rec t) uV:=by
 have I:=fM (ux E rec hA t ht);intro f y w h O;obtain⟨R,k⟩:∃R,R=uE rec t y:=⟨_,rfl⟩;rw[<-k]at O|-;replace k:=k.trans (show uE rec t y=if y.behind&&kJ t.chars yo then .ok () {y with behind:=false,gI:=t.a} else jX rec t {y with behind:=false,gI:=t.a} by
  grind[uE])
 have HS:=fM O;have H:=fM (At.start h);have X:=H.out.aa1;have a0:=h.lt;have f1:=H.out.free 198;have f2:=H.out.free 197;have c2:=H.out.Uy;have J:=λw=>zv E t w;simp only[C]at J I|-;have F:=λ(v:gG) (xT:TypeId) (w:gm)=>LA (z:= .agg #[fV 0,fV 0]) underlying185 rfl hT v xT w;have U:=fM J;clear h O J C ht hk hT;have V:Hid (∀o,Kept [] w (w.alloc o)):=fM (λo=>(Kept.refl [] w).alloc o);have G:=fM (λw=>Q9 (t.a:Int) (t.b:Int) w);replace H:=fM ((H.out.tu false).k0 ((Kept.refl [] _).alloc (gz #[fV 0,fV 0] 185)));cases hb:y.behind with
 |false=>
  have u:R=(jX rec t>>=λ_=>(Pure.pure ():M Unit)) {y with behind:=false,gI:=t.a}:=by rw[k,hb,M.bind_pure];rfl
  have l:=fM u;rw[hb]at X;clear k u hb V;go_enter func48,ntmps48;go_wp21;refine(G.out _).mono ?_;rintro e w1 ⟨rfl,d⟩;replace H:=fM (H.out.k0 d);clear d;have Y:=H.out.Uy;have Z:=H.out.free 197;have l3:=H.out.lt;replace H:=fM (H.out.DP t.a);go_wp21;refine dC (I.out) H l HS rfl lT ?_;clear H l;rintro(_) f y w H HX HF l;go_wp2;go_end0;exact ga l.out H.out rfl
 |true=>
  rw[hb]at X k;simp only[Bool.true_and]at k;clear hb V;cases hn:kJ (gy.chars t) yo with
  |false=>
   rw[hn]at k;have u:R=(jX rec t>>=λ_=>(Pure.pure ():M Unit)) {y with behind:=false,gI:=t.a}:=by rw[k,M.bind_pure];rfl
   have l:=fM u;have N:=(abw (gy.chars t)).symm.trans hn;clear k u hn;go_enter func48,ntmps48;go_wp21;refine(G.out _).mono ?_;rintro e w1 ⟨rfl,d⟩;replace H:=fM (H.out.k0 d);clear d;have Y:=H.out.Uy;have Z:=H.out.free 197;have l3:=H.out.lt;replace H:=fM (H.out.DP t.a);go_wp21;refine(U.out _).mono ?_;rintro e w2 ⟨rfl,x⟩;replace H:=fM (H.out.k0 x);clear x;go_wp21;refine dC (I.out) H l HS rfl lT ?_;clear H l;rintro(_) f y w H HX HF l;go_wp2;go_end0;exact ga l.out H.out rfl
  |true=>
   rw[hn]at k;simp only[]at k;have l:=fM k;have N:=(abw (gy.chars t)).symm.trans hn;clear k hn;go_enter func48,ntmps48;go_wp21;refine(G.out _).mono ?_;rintro e w1 ⟨rfl,d⟩;replace H:=fM (H.out.k0 d);clear d;have Y:=H.out.Uy;have Z:=H.out.free 197;have l3:=H.out.lt;replace H:=fM (H.out.DP t.a);go_wp21;refine(U.out _).mono ?_;rintro e w2 ⟨rfl,x⟩;replace H:=fM (H.out.k0 x);clear x;go_wp2;go_end0;exact ga l.out H.out rfl
def PZ (t:gy) (σ:Ab):pF t σ=(vE [gX] 13 t>>=λ_=>(do kA none;return ():M Unit)) σ:=by
 unfold pF vE;rw[M.gn,M.gn,M.gn];cases ub (gZ [gX]) σ with
 |ok a σ1=>
  simp only;rw[M.gn,M.gn];cases jg t σ1 with
  |ok a σ2=>rfl
  |stop c p=>rfl
  |stuck=>rfl
 |stop c p=>rfl
 |stuck=>rfl
def Tu (E:Env) (t:gy) (Z:jd E t):iZ E 134 (λ_=>#[Bp E,iy E t]) (pF t) uV:=by
 intro f G w h HS;obtain⟨R,k⟩:∃R,R=pF t G:=⟨_,rfl⟩;rw[<-k]at HS|-;rw[PZ]at k;have H:=At.start h;have d:=fM k;have V:=Go.Proofs.enters_of func215 (by rfl) rfl;clear k;go_enter func134,ntmps134;go_wp21;refine(XJ E _).mono ?_;rintro e w ⟨k1,a0,rfl,l,C⟩;replace H:=H.k0 C;go_wp21;refine(Cb E.bm E.bB 0 [gX] 13 _ _ l).mono ?_;rintro e w ⟨⟨v,rfl,N,O,U,u,rfl,x,y,I,z⟩,X⟩;obtain⟨k2,F,rfl,_,_⟩:=I.call;replace H:=H.k0 X;have J:=(λY=>Io E t Z [gX] 13 N O U k2 F H.rel Y x y I z);go_wp21;refine dcH (J) H d HS lT ?_;rintro(_) f G w H HX K d;go_wp21;refine mC (AP E) H d HS rfl lT ?_;rintro(_) G w H K d;go_wp2;go_end0;exact ga d H rfl
def ahH:(prog.info? 120).map (λi=>(i.zero,i.size,i.bytes))=some (some .nilIface,1,16):=by kernel_rfl
theorem Rel.ajx {E:Env} {σ:Ab} (h:Rel E L σ w) {C : jA} (y:jt E L σ C) (v':gG) (u:List (Nat×Nat×fY)) (k:w'.heap[E.bB]?=some (gz (C.setIfInBounds 194 v') 175)) (d:KT E.bs [175,120] w w') (l:w'.ownsRow E.bs 120 1 v' u.length (u.map OS)) (x:u.length<=4096) (F:E.wv=none):Rel E {L with wv:=v'} {σ with waiting:=u} w':=
 {fr:=h.fr.trans (d.fr (by decide))
  env:=h.env
  Fb:=h.Fb
  tX:=λi G z=>((h.tX i G z).kt d (by decide)).loc rfl rfl rfl
  inj:=h.inj,BZ:=h.BZ,Hw:=h.Hw,uq:=h.uq,FX:=h.FX
  wf:=⟨h.wf.gq,h.wf.act,h.wf.head,h.wf.form,h.wf.je,h.wf.kids,h.wf.ye⟩
  iw:=⟨_,k,y.ac2 v' u⟩
  pR:=d.row h.pR (by decide)
  qB:=d.row h.qB (by decide)
  H9:=h.H9,x7:=h.x7,F0:=h.F0
  pI:=l
  M1:=x
  rd:=d.at h.rd (by decide)
  Tk:=h.Tk
  tok:=d.row h.tok (by decide)
  MY:=h.MY,bz:=h.bz,bB:=h.bB,bR:=h.bR,bN:=h.bN,BU:=h.BU,ab:=h.ab,tb:=h.tb,M0:=λv H=>by grind}
theorem Ve (E:Env) (a2:E.wv=none) (t:gy):iZ E 127 (λ_=>#[Bp E,iy E t]) (og t) uV:=by
 intro f d w h I;have⟨a,b,k,gx⟩:=t;cases k with
 |kg s=>
  have K:=Kz E ⟨a,b,.kg s,gx⟩ w;cases hn:uh s with
  |true=>
   have hm:og ⟨a,b,.kg s,gx⟩ d= .ok () d:=by unfold og;simp only;rw[hn];rfl
   rw[hm];have z:uh (gy.chars ⟨a,b,.kg s,gx⟩)=true:=hn;rw[z]at K;have H:=At.start h;clear z;go_enter func127,ntmps127;go_wp21;refine K.mono ?_;rintro e w ⟨rfl,x⟩;replace H:=H.k0 x;go_wp2;go_end0;exact ga rfl H rfl
  |false=>
   have X:d.waiting.length < 4096:=by
    by_cases hl:d.waiting.length < 4096
    .exact hl
    .exfalso;apply I;unfold og;simp_all
   have hm:og ⟨a,b,.kg s,gx⟩ d= .ok () {d with waiting:=d.waiting++[(a,b,s)]}:=by unfold og;simp only;rw[hn];simp[X]
   rw[hm];have z:uh (gy.chars ⟨a,b,.kg s,gx⟩)=false:=hn;rw[z]at K;obtain⟨L,rfl,HR⟩:=h;clear z;rw[show iy E ⟨a,b,.kg s,gx⟩= .iface 183 (.agg #[fV a,fV b,gu s])from rfl]at K|-;go_enter func127,ntmps127;go_wp21;refine K.mono ?_;rintro e w0 ⟨rfl,x⟩;have hr:=HR.ib x;have HF:=Fr.gN (bs:=E.bs) x;have c1:=hr.aeb;have a8:=hr.lt;have⟨C,HBB,z⟩:=hr.iw;obtain⟨i0,hi,a3,a4,a5⟩:=uH ahH;have⟨ao,cap,hwv⟩:=gw hr.pI;rw[hwv]at c1;have O:Kept [] w0 (w0.alloc (gz #[OS (a,b,s)] 120)):=(Kept.refl _ _).alloc _;have HO:=O.ownsRow hr.pI (λ_ _=>by simp);rw[hwv]at HO;have F:(Value.slice ao d.waiting.length cap).ownBlock≠some E.bB:=by rw[<-hwv];exact DM hr.pI HBB (by decide)
   have a1:=fM (fP w0 (gz #[OS (a,b,s)] 120));have y:=fM hr;have N:=fM z;have U:=fM hwv;clear hr z hwv;go_wp2_with (at_builtin;refine ij _ rfl _ _ 173 rfl E.bs 120 i0 .nilIface 1 16 underlying173 hi a3 a4 a5 rfl (by decide) (.slice ao d.waiting.length cap) d.waiting.length (d.waiting.map OS) rfl HO ⟨w0.heap.size,0,none⟩ 1 1 [OS (a,b,s)] rfl rfl (λk u Z=>by rw[jj,fN a1.out,<-Z];simp) (λu Z=>by simp at Z;subst Z;rfl) (by unfold maxLen;omega) (by omega) (by have h7:=y.bz;have h8:=y.fr.size;simp;omega) ?_);intro v' w2 l G a6;have K2:Kept (Value.slice ao d.waiting.length cap).ownBlock.toList w0 w2:=(O.mono (by simp)).grown G (λk x=> .inl (by rw[x];simp));have V:w2.heap[E.bB]?=some (gz C 175):=K2.at HBB (by simpa using F);have⟨ao',cap',hv⟩:=gw l;subst hv;have d1:w2.cell? ⟨E.bB,194,none⟩=some (.slice ao d.waiting.length cap):=by rw[fN V,N.out.wait,U.out]
   have d2:=gh V 194;have a7:=iQ V;have h3:=fR V 194 (.slice ao' (d.waiting.length+1) cap');have Y:(Value.slice ao' (d.waiting.length+1) cap').ownBlock≠some E.bB:=DM l V (by decide);have h4:=rq (a:=⟨E.bB,194,none⟩) l Y (.slice ao' (d.waiting.length+1) cap');have h5:Kept (E.bB::(Value.slice ao d.waiting.length cap).ownBlock.toList) w0 (w2.setCell ⟨E.bB,194,none⟩ (.slice ao' (d.waiting.length+1) cap')):=(K2.mono (λk x _=>nc _ x)).setCell (.inl (by simp)) _;have kt:KT E.bs [175,120] w0 (w2.setCell ⟨E.bB,194,none⟩ (.slice ao' (d.waiting.length+1) cap')):= .jL h5 (λk x _=>by
    rcases List.mem_cons.1 x with rfl|x
    .exact⟨⟨_,_,_,HBB,by simp⟩,y.bB⟩
    .have J:=y.pI;rw[U.out]at J;obtain⟨c,m,hc⟩:=sT J (by simpa using x);exact⟨⟨_,_,_,hc,by simp⟩,(J.lt k (by simpa using x)).1⟩)
   have HZ:=y.ajx N (.slice ao' (d.waiting.length+1) cap') (d.waiting++[(a,b,s)]) h3 kt (by simpa using h4) (by simp;omega) a2;have a0:=HF.trans (kt.fr (by decide));go_wp2;go_end0;exact⟨L.gI,λ_ _=>rfl,gL _,rfl,⟨{L with wv:= .slice ao' (d.waiting.length+1) cap'},rfl,HZ⟩,a0⟩
 |start s=>exact absurd rfl I
 |stop s=>exact absurd rfl I
 |gM s=>exact absurd rfl I
 |iE s q=>exact absurd rfl I
 |lost=>exact absurd rfl I
 |ie=>exact absurd rfl I
def M6 {α:Type} (n:Nat) (P:Program) (g:Nat) (y:jA) (h:α->jA) (Kp:gm->gm->Prop) (S Sp:List α->Prop) (N:Nat) (w:gm):Prop:=
 ∀(l:Nat) (J k:List α->gm->Prop) (W:gm),Below w.heap.size w W->OwnFrom W.heap.size J->OwnFrom W.heap.size k->
  (∀pre x d,J pre d->pre.length < N->YieldAt Fence.wide (n - 1) P l (h x) d λe W'=>(e=ig (.bool true)/\J (pre++[x]) W'/\Kp d W'/\KeepsFrom W.heap.size d W')\/(e=ig (.bool false)/\k (pre++[x]) W'/\KeepsFrom W.heap.size d W'))->
  J [] W->CallsIn Fence.wide n P g (#[.func (.yield l) #[] #[]]++y) W λe W'=>(∃v,e=ig v)/\((∃u,S u/\J u W')\/(∃pre,Sp pre/\k pre W'))
theorem K9 {A B : gm} {row : iY} {d k : Nat} (hg:A.grownBy B row) (hr:∀r,row=some r->d<=r/\∃o:Obj,A.heap[r]?=some o/\o.isCells=false) (h:A.heap[k]?=some o) (l:k < d):B.heap[k]?=some o:=
 (hg.block k (Array.getElem?_eq_some_iff.1 h).1 (λe=>by grind)).trans h
theorem vz {l : Nat} {d : gm} (z:l < b) (h:KeepsFrom (l - 1) (W.putObj l o) d):KeepsFrom b W (d.putObj l o'):=by
 refine⟨?_,λk q y x u=>?_⟩
 .have:=h.size;simp_all
 .rw[sg (by omega)];exact h.same k q (by omega) ((sg (by omega)).trans x) u
theorem T1 {α:Type} {P:Program} {g:Operand} {ps:Array Tmp} {Q:Exit->Act->gm->Prop}
  (h1:1<=n) {gf : Nat} {lb : jA} (hg:a.eval g= .func (.func gf) #[] lb) (eg:∀Z w,(callFunc gf Z).run P w= .ok (.enter gf Z) w)
  {z:α->jA} {Kp : gm->gm->Prop} {S Sp:List α->Prop} {N : Nat} (a9:M6 (n - 1) P gf lb z Kp S Sp N w0)
  (a6:∀{A B C:gm},Kp A B->Kp B C->Kp A C) (a5:∀(W:gm) (l:Nat) (o o':Obj),w.heap.size<=l->W.heap[l]?=some o->o.isCells=false->o.isWalk=false->Kp W (W.putObj l o')) (a7:Below w0.heap.size w0 w) (al:∀x,(z x).size=ps.size)
  (I:List α->gm->Prop) (Ix:Code->List α->gm->Prop) (hI:OwnFrom w.heap.size I) (U:∀c,OwnFrom w.heap.size (Ix c)) (h0:I [] w) (a0:α->Act)
  (V:∀(l:Nat) (x:α) (W:gm) (K:Act->gm->Prop),K (a0 x) W->assign.wpIn (Fence.wide.inRound l) (n - 1 - 1) P (Exit.then K (λ_ _ _=>False)) {tmps:=(ps.zip (z x)).foldl (λt (p,v)=>t.setIfInBounds p v) a.tmps,defers:=[]} W)
  (a1:∀(l:Nat) (pre:List α) (x:α) (W:gm),I pre W->pre.length < N->body.wpIn (Fence.wide.inRound l) (n - 1 - 1) P (ownPostG w.heap.size Kp I Ix (pre++[x]) W) (a0 x) W)
  (a2:∀(D:Nat) (xs:List α) (W:gm),w.heap.size<=D->S xs->I xs W->W.heap[D]?=some (.deferred (some []))->Q .normal {a with defers:={target:= .collected D,args:=#[]}::a.defers} W)
  (a4:∀(D:Nat) (c:Code) (pre:List α) (W:gm),w.heap.size<=D->Sp pre->Ix c pre W->W.heap[D]?=some (.deferred (some []))->c.wpIn Fence.wide n P Q {a with defers:={target:= .collected D,args:=#[]}::a.defers} W):
  (Code.rangeFunc g ps assign body).wpIn Fence.wide n P Q a w:=by
 refine Yf ?_;intro fn af;obtain⟨h,k⟩:∃h:LoopState->Option Code->Loop,h=λst pe=>{state:=st,pending:=pe,fn,tmps:=a.tmps,params:=ps,assign,body,defers:=w.heap.size}:=⟨_,rfl⟩;obtain⟨H,F⟩:∃H,(w.alloc (.deferred (some []))).alloc (.loop (h .ready none))=H:=⟨_,rfl⟩;have an:H.heap.size=w.heap.size+2:=by rw[<-F];simp
 have ac:H.heap[w.heap.size+1]?=some (.loop (h .ready none)):=by
  rw[<-F];have:=Iw (w.alloc (.deferred (some []))) (.loop (h .ready none));rwa [xW]at this
 have ab:H.heap[w.heap.size]?=some (.deferred (some [])):=by
  rw[<-F];exact(Below.heap_alloc _ _ _ (by simp)).trans (Iw w _)
 have aa:I [] H:=by rw[<-F];exact hI.alloc _ (hI.alloc _ h0)
 have ae:Below w0.heap.size w0 H:=by
  rw[<-F];exact a7.trans ((((Below.refl _ w).alloc (gL _) _).alloc (by simp) _).mono a7.size)
 refine⟨w.heap.size+1,[{target:= .collected w.heap.size,args:=#[]}],H,{target:= .fn (.func gf) lb,args:=#[.func (.yield (w.heap.size+1)) #[] #[]]},H,gf,
  #[.func (.yield (w.heap.size+1)) #[] #[]]++lb,H,?_,?_,?_,?_,λ_=>h1,?_⟩
 .rw[<-F,k];exact Yh _ _ _ _ _
 .simp only[resolve,hg];simp[go_sem]
 .intro f' ak;trivial
 .simp[invoke,go_sem,eg]
 have lo:∀{A B:gm} {row:iY},(∀r,row=some r->H.heap.size<=r/\∃o:Obj,A.heap[r]?=some o/\o.isCells=false)->(∀r,row=some r->w.heap.size<=r/\∃o:Obj,A.heap[r]?=some o/\o.isCells=false):=
  λhr r e=>⟨by grind,(hr r e).2⟩
 refine(a9 (w.heap.size+1)
  (λpre W=>I pre W/\W.heap[w.heap.size+1]?=some (.loop (h .ready none))/\W.heap[w.heap.size]?=some (.deferred (some [])))
  (λpre W=>∃c,Ix c pre W/\W.heap[w.heap.size+1]?=some (.loop (h .done (some c)))/\W.heap[w.heap.size]?=some (.deferred (some [])))
  H ae
  (λs A B row hs y hr=>⟨hI s A B row hs.1 y (lo (B:=B) hr),K9 y hr hs.2.1 (by omega),K9 y hr hs.2.2 (by omega)⟩)
  (λs A B row hs y hr=>by
   have⟨c,hc,G,hk⟩:=hs;exact⟨c,U c s A B row hc y (lo (B:=B) hr),K9 y hr G (by omega),K9 y hr hk (by omega)⟩)
  ?_ ⟨aa,ac,ab⟩).mono ?_
 .rintro pre x W ⟨hi,G,hk⟩ a8;have ai:w.heap.size+1 < W.heap.size:=(Array.getElem?_eq_some_iff.1 G).1;have hy:=run_yield (P:=P) (args:=z x) G (by grind);rw[k]at hy;refine⟨fn,_,assign,body,hy,roundIn_of_wpIn af (V _ x W _ ?_)⟩;refine⟨_,run_beginRound G (by rw[k]),?_⟩;have ah:(W.putObj (w.heap.size+1) (.loop {h .ready none with state:= .busy})).heap[w.heap.size+1]?=some (.loop {h .ready none with state:= .busy}):=LX ai;have ag:(W.putObj (w.heap.size+1) (.loop {h .ready none with state:= .busy})).heap[w.heap.size]?=some (.deferred (some [])):=(sg (by omega)).trans hk;have aj:Kp W (W.putObj (w.heap.size+1) (.loop {h .ready none with state:= .busy})):=a5 _ _ _ _ (by omega) G rfl rfl;refine Db (a1 _ pre x _ (hI.putObj _ hi (by omega) G rfl) a8) ?_;have Y:∀(d:Option Code) (J:gm),KeepsFrom w.heap.size (W.putObj (w.heap.size+1) (.loop {h .ready none with state:= .busy})) J->
    (Instr.endRound (w.heap.size+1) d).run P J= .ok (.bool d.isNone) (J.putObj (w.heap.size+1) (.loop (h (if d.isNone then .ready else .done) d)))/\
    J.heap[w.heap.size+1]?=some (.loop {h .ready none with state:= .busy})/\
    (J.putObj (w.heap.size+1) (.loop (h (if d.isNone then .ready else .done) d))).heap[w.heap.size+1]?=some (.loop (h (if d.isNone then .ready else .done) d))/\
    (J.putObj (w.heap.size+1) (.loop (h (if d.isNone then .ready else .done) d))).heap[w.heap.size]?=some (.deferred (some [])):=λd J X=>by
   have u:=X.same _ _ (by omega) ah rfl;have:=run_endRound (P:=P) d u;rw[k]at this|-;exact⟨this,by grind,LX (Array.getElem?_eq_some_iff.1 u).1,(sg (by omega)).trans (X.same _ _ (gL _) ag rfl)⟩
  rintro e a3 J O;cases e with
  |normal=>
   have⟨X,hkp3,hi3⟩:=O;have⟨hr,u,hl4,hk4⟩:=Y none J X;exact⟨_,_,hr,.inl ⟨rfl,⟨hI.putObj _ hi3 (by omega) u rfl,hl4,hk4⟩,a6 (a6 aj hkp3) (a5 _ _ _ _ (by omega) u rfl rfl),vz (by omega) X⟩⟩
  |ret=>
   have⟨hr,u,hl4,hk4⟩:=Y (some .ret) J O.1;exact⟨_,_,hr,.inr ⟨rfl,⟨.ret,(U _).putObj _ O.2 (by omega) u rfl,hl4,hk4⟩,vz (by omega) O.1⟩⟩
  |exit id=>
   have⟨hr,u,hl4,hk4⟩:=Y (some (.exit id)) J O.1;exact⟨_,_,hr,.inr ⟨rfl,⟨.exit id,(U _).putObj _ O.2 (by omega) u rfl,hl4,hk4⟩,vz (by omega) O.1⟩⟩
  |goto t=>
   have⟨hr,u,hl4,hk4⟩:=Y (some (.goto t)) J O.1;exact⟨_,_,hr,.inr ⟨rfl,⟨.goto t,(U _).putObj _ O.2 (by omega) u rfl,hl4,hk4⟩,vz (by omega) O.1⟩⟩
  |panic ch=>exact O.elim
  |outgrown=>exact O.elim
 .rintro e W2 ⟨⟨v,rfl⟩,(⟨xs,hS,hi,G,hk⟩|⟨pre,ad,c,hi,G,hk⟩)⟩
  .exact⟨none,_,by have:=LW (P:=P) G (by rw[k];simp);rw[k]at this;exact this,a2 _ xs _ (gL _) hS (hI.putObj _ hi (by omega) G rfl) ((sg (by omega)).trans hk)⟩
  .exact⟨some c,_,by have:=LW (P:=P) G (by rw[k];simp);rw[k]at this;exact this,a4 _ c pre _ (gL _) ad ((U c).putObj _ hi (by omega) G rfl) ((sg (by omega)).trans hk)⟩
section
attribute [local go_sem] Oper.semAt_some
attribute [local go_sem] qI
attribute [local simp] qI
def AR:kG->List Nat
 |[]=>[]
 |none::_=>[]
 |some i::r=>i::AR r
def KC (T:List Nat) (W W':gm):Prop:=W.heap.size<=W'.heap.size/\∀(k:Nat) (c:jA) (t:TypeId) (m:Nat×Nat),k∉T->W.heap[k]?=some (.cells c t m)->W'.heap[k]?=some (.cells c t m)
def KC.trans {T : List Nat} {A B C : gm} (h:KC T A B) (k:KC T B C):KC T A C:=⟨jH h.1 k.1,λi c t m d l=>k.2 i c t m d (h.2 i c t m d l)⟩
def KC.put {T : List Nat} (W:gm) (l:Nat) (o o':Obj) (d:W.heap[l]?=some o) (u:o.isCells=false):KC T W (W.putObj l o'):=
 ⟨by simp,λk c t m _ h=>(sg (λe=>by subst e;rw[h]at d;cases d;cases u)).trans h⟩
def ZP {m y x : Nat} {P:Program} {l : Nat} {f:FuncId} {k : jA} {R : Ending->gm->Prop} (h:RoundIn Fence.wide m P l f k assign body w R):RoundIn (Fence.wide.inRound x) y P l f k assign body w R:=⟨h.1,λc u _=>h.2 c u (λd h=>by cases h)⟩
def WQ {ys : kG}:∀{d:List Nat},d.map some <+:ys->d <+:AR ys
 |[],_=>List.nil_prefix
 |p::d,h=>by
  have⟨r,hr⟩:=h;subst hr;show p::d <+:p::AR (d.map some++r);exact(List.prefix_cons_inj p).2 (WQ ⟨r,rfl⟩)
def WM:∀{d:List Nat},AR (d.map some)=d
 |[]=>rfl
 |p::d=>by show p::AR (d.map some)=_;rw[WM]
def Q7 {r : kG}:∀{d:List Nat},AR (d.map some++none::r)=d
 |[]=>rfl
 |p::d=>by show p::AR (d.map some++none::r)=_;rw[Q7]
theorem aaU (m:Nat) (hm:5<=m) (base G:Nat) (tB:TypeId) (C:jA) (v:gG) (xs:kG) (s:Nat) (T:List Nat) (w:gm) (h:yb base G 189 tB C v xs w)
  (hs:w.heap[s]?=some (gz #[gE G] 116)) (hT:∀k∈T,k≠G/\v.ownBlock≠some k/\k < w.heap.size):
  M6 m prog 343 #[gE s] (λx:{x:Nat // some x∈xs}=>#[ku (some x.1)]) (KC T) (λys=>ys.map (·.1)=AR xs.reverse) (λpre=>pre.map (·.1) <+:AR xs.reverse) xs.length w:=by
 intro l J Jx W hB HJ a8 HY H0;have ac:=iQ h.iw;have L1:yb base G 189 tB C v xs W:=by
  refine h.Gi (K:=G::v.ownBlock.toList) (λk d=>hB.block k ?_) (by simp) (λk d=>by simp[d]);rcases List.mem_cons.1 d with rfl|d
  .exact ac
  .exact(h.row.lt k (by grind)).2
 have au:=iQ hs;have af:=(hB.block s au).trans hs;have ae:w.heap.size<=W.heap.size:=hB.size;have aq:G < W.heap.size:=lU ac ae;obtain⟨z,U⟩:∃z,z=W.alloc (gz #[.func (.yield l) #[] #[]] 283):=⟨_,rfl⟩;have a9:Kept [] W z:=by rw[U];exact(Kept.refl [] W).alloc _
 have ai:z.heap[W.heap.size]?=some (gz #[.func (.yield l) #[] #[]] 283):=by rw[U];exact fP W _
 have z1:z.heap.size=W.heap.size+1:=by rw[U];simp
 have HL:yb base G 189 tB C v xs z:=L1.Gi (kL.jL (K:=G::v.ownBlock.toList) a9 (λk d=>⟨by
  rcases List.mem_cons.1 d with rfl|d
  .exact aq
  .exact(L1.row.lt k (by grind)).2,by simp⟩)) (by simp) (λk d=>by simp[d])
 have c1:(W.alloc (gz #[.func (.yield l) #[] #[]] 283)).cell? ⟨s,0,none⟩=some (gE G):=by rw[<-U,fN (a9.at af (by simp))];rfl
 have HU:=Zn base G 189 tB C v xs z HL;refine BK func343 rfl trivial ?_ rfl;simp only[ntmps343,xQ,rn,uI,Nat.reduceAdd,Nat.reduceSub,xR,xS,xU,xV,rp,tU];have HW:=fM U.symm;have HZ:=fM z1;have HT:=hT;clear U z1 L1 af h hB hs
 gi_wp2_with fail
 rw[HW.out];refine⟨λ_=>by omega,(callsIn_wide.2 HU).mono ?_⟩;rintro e w' ⟨rfl,rfl⟩;gi_wp2;have al:=HL;obtain⟨H,a2⟩:∃H,H=mP G 189 (xs.length:Int) z:=⟨_,rfl⟩;have k2:Kept [] z H:=by rw[a2];exact((Kept.refl _ _).alloc _).alloc _
 have av:H.heap.size=z.heap.size+2:=by rw[a2];simp
 have a0:yb base G 189 tB C v xs H:=HL.Gi (kL.jL (K:=G::v.ownBlock.toList) k2 (λk d=>⟨by
  rcases List.mem_cons.1 d with rfl|d
  .grind
  .exact(HL.row.lt k (by simpa using d)).2,by simp⟩)) (by simp) (λk d=>by simp[d])
 have⟨b0,b1⟩:=(⟨(Below.heap_alloc _ _ _ (by simp)).trans (fP z _),by
   have:=fP (z.alloc (gz #[jG G 189] 274)) (gz #[fV xs.length] 3);simp_all⟩:(mP G 189 (xs.length:Int) z).heap[z.heap.size]?=some (gz #[jG G 189] 274)/\(mP G 189 (xs.length:Int) z).heap[z.heap.size+1]?=some (gz #[fV xs.length] 3))
 rw[<-a2]at b0 b1|-;have ay:=HZ.out;have gY:=k2.at ai (by simp);obtain⟨K,Z⟩:∃K,K=G::z.heap.size::v.ownBlock.toList:=⟨_,rfl⟩;have ab:∀k∈K,k < H.heap.size/\k∉T/\∃c t m,H.heap[k]?=some (.cells c t m):=by
  intro k d;rw[Z]at d;rcases List.mem_cons.1 d with rfl|d
  .exact⟨iQ a0.iw,λe=>(HT _ e).1 rfl,_,_,_,a0.iw⟩
  .rcases List.mem_cons.1 d with rfl|d
   .grind
   .have ar:v.ownBlock=some k:=by simpa using d
    have⟨c,m',hc⟩:=sT a0.row ar;grind
 have aw:=TU (m - 1) (by omega) base G 189 tB C v xs xs.length z.heap.size K H a0 (gL _) (by rw[Z];simp) (by rw[Z];simp) (by grind) (by omega) b1 b0;have aB:∀k∈T,k < W.heap.size:=λk d=>lU (HT k d).2.2 ae;have a4:=fM ab;have a6:=(show H.heap.size=W.heap.size+1+2 by omega);have aA:J [] H:=by
  have X:J [] z:=HJ [] W z none H0 (by rw[<-HW.out];exact World.grownBy_alloc W _ none) (λr e=>by cases e);rw[a2];refine HJ [] (z.alloc _) _ none ?_ (World.grownBy_alloc _ _ none) (λr e=>by cases e);exact HJ [] z _ none X (World.grownBy_alloc _ _ none) (λr e=>by cases e)
 clear Z b0 b1 HU HL al a0 k2 a2 ab c1 av ay;obtain⟨I,hI⟩:∃I:List {x:iY // x∈xs}->gm->Prop,I=(λzs W'=>H.heap.size<=W'.heap.size/\kL K H W'/\W'.heap[W.heap.size]?=some (gz #[.func (.yield l) #[] #[]] 283)/\∃u:List {x:Nat // some x∈xs},zs.map (·.1)=u.map (λp=>some p.1)/\J u W'):=⟨_,rfl⟩;obtain⟨Ix,aa⟩:∃Ix:Code->List {x:iY // x∈xs}->gm->Prop,Ix=(λc zs W'=>c= .ret/\((∃u:List {x:Nat // some x∈xs},zs.map (·.1)=u.map (λp=>some p.1)++[none]/\J u W')\/(∃u:List {x:Nat // some x∈xs},zs.map (·.1)=u.map (λp=>some p.1)/\Jx u W'))):=⟨_,rfl⟩;have HI:=fM hI;have a3:=fM aa;clear hI aa;refine wpIn_rangeFunc_ownG rfl (by omega) (gf:=348) rfl trivial (Go.Proofs.enters_of func348 (by rfl) rfl) aw kL.trans (λW l o o' hl X Y h3=>kL.put (w:=H) (λk d=>(a4.out k d).1) W l o o' hl X Y h3) (Below.refl _ _) (λ_=>rfl)
  I Ix
  ?_ ?_ ?_ (λx=>{tmps:=#[.func (.yield l) #[] #[],gE s,gE W.heap.size,ku x.1,gE G,gE G,jG G 189,vO z.heap.size,ku x.1,undef,undef,undef,undef,undef,undef,undef,undef],defers:=[]}) ?assign ?body ?done ?stop
 .rw[HI.out];rintro zs A B row ⟨X,Y,h3,u,h4,h5⟩ hg hr;have hz:=a6;refine⟨jH X hg.size,λk d=>?_,K9 hg hr h3 (by omega),u,h4,HJ u A B row h5 hg (λr e=>⟨by grind,(hr r e).2⟩)⟩;rw[hg.block k (lU (a4.out k d).1 X) (λe=>by have:=(hr k e.symm).1;have:=(a4.out k d).1;omega)];exact Y k d
 .rw[a3.out];rintro c zs A B row ⟨X,Y⟩ hg hr;have hz:=a6;refine⟨X,Y.imp (λ⟨u,h4,h5⟩=>⟨u,h4,HJ u A B row h5 hg (λr e=>⟨by grind,(hr r e).2⟩)⟩) (λ⟨u,h4,h5⟩=>⟨u,h4,a8 u A B row h5 hg (λr e=>⟨by grind,(hr r e).2⟩)⟩)⟩
 .rw[HI.out];grind[kL]
 case assign=>
  intro l2 x W' KK ap;gi_wp2;exact ap
 case body=>
  rintro l2 pre ⟨x,hx⟩ W' F az;rw[HI.out]at F;have⟨hz,hkb,hbx,u,y,hj⟩:=F;have cy:=fN hbx 0;dsimp at cy;cases x with
  |none=>
   have HP:=fM y;have ak:=fM hj;clear y hj hz hkb hbx;gi_wp2;refine⟨KeepsFrom.refl _ _,?_⟩;rw[a3.out];exact⟨rfl,.inl ⟨u,by rw[se,HP.out];rfl,ak.out⟩⟩
  |some i=>
   have ax:=HY u ⟨i,hx⟩ W' hj (by have:=si List.length y;grind);have a7:Hid (∀O,KC T W' O->kL K H O/\O.heap[W.heap.size]?=some (gz #[.func (.yield l) #[] #[]] 283)/\H.heap.size<=O.heap.size/\kL K W' O):=fM (by
    intro O V;have ah:∀k∈K,O.heap[k]?=H.heap[k]?:=by
     intro k d;have⟨_,Y,c,t,mm,h3⟩:=a4.out k d;have h4:=(hkb k d).trans h3;rw[V.2 k c t mm Y h4,h3]
    exact⟨ah,V.2 _ _ _ _ (λe=>by grind) hbx,jH hz V.1,λk d=>(ah k d).trans (hkb k d).symm⟩)
   have⟨fn,tmps,assign,body,hyy,HRR⟩:=ax;have HP:=fM y;clear y hj hz hkb hbx
   gi_wp2_with fail
   refine⟨λ_=>by omega,(ZP HRR).mono ?_⟩;rintro e O (⟨rfl,ad,V,N⟩|⟨rfl,ag,N⟩)
   .have⟨p1,p2,p3,P4⟩:=a7.out O V;have aj:Hid (I (pre++[⟨some i,hx⟩]) O):=fM (by rw[HI.out];exact⟨p3,p1,p2,u++[⟨i,hx⟩],by rw[se,se,HP.out];rfl,ad⟩);have a5:=(show KeepsFrom H.heap.size W' O from⟨N.size,λk o d X Y=>N.same k o (by omega) X Y⟩);clear ad V N p1 p2 p3 HRR a7;gi_wp2;exact⟨a5,P4,aj.out⟩
   .have an:Hid (Ix .ret (pre++[⟨some i,hx⟩]) O):=fM (by rw[a3.out];exact⟨rfl,.inr ⟨u++[⟨i,hx⟩],by rw[se,se,HP.out];rfl,ag⟩⟩);have a5:=(show KeepsFrom H.heap.size W' O from⟨N.size,λk o d X Y=>N.same k o (by omega) X Y⟩);clear ag N HRR a7;gi_wp2;exact⟨a5,an.out⟩
 case done=>
  rintro D zs W' HD hS F Z;rw[HI.out]at F;have⟨_,_,_,u,y,HJ3⟩:=F;have HE:Hid (u.map (·.1)=AR xs.reverse):=fM (by
   rw[List.take_length]at hS;rw[<-hS,y,show(u.map λp=>some p.1)=(u.map (·.1)).map some by simp,WM])
  clear y hS;gi_wp2;refine⟨by simp,.inl ⟨_,_,rfl,sL Z,?_⟩⟩;refine⟨.tuple #[],by simp[results,results343,go_sem],⟨_,rfl⟩,.inl ⟨u,HE.out,?_⟩⟩;exact HJ u W' _ (some D) HJ3 (BJ _ D (.deferred none)) (λr e=>by cases e;exact⟨by omega,_,Z,rfl⟩)
 case stop=>
  rintro D c zs W' HD a1 F Z;rw[a3.out]at F;obtain⟨rfl,F⟩:=F;have HE:Hid ((∃ys:List {x:Nat // some x∈xs},ys.map (·.1)=AR xs.reverse/\J ys W')\/(∃pre:List {x:Nat // some x∈xs},pre.map (·.1) <+:AR xs.reverse/\Jx pre W')):=fM (by
   rw[List.take_length]at a1;rcases F with⟨u,y,hj⟩|⟨u,y,hj⟩
   .refine .inl ⟨u,?_,hj⟩;have⟨r,hr⟩:=a1;rw[<-hr,y,show(u.map λp=>some p.1)=(u.map (·.1)).map some by simp,wA];exact Q7.symm
   .refine .inr ⟨u,?_,hj⟩;rw[y,show(u.map λp=>some p.1)=(u.map (·.1)).map some by simp]at a1;exact WQ a1)
  clear F a1;gi_wp2;refine⟨by simp,.inl ⟨_,_,rfl,sL Z,?_⟩⟩;refine⟨.tuple #[],by simp[results,results343,go_sem],⟨_,rfl⟩,?_⟩;have hb:D>=W.heap.size:=by have:=HD;have:=a6;omega
  rcases HE.out with⟨ys,e1,e2⟩|⟨pre,e1,e2⟩
  .exact .inl ⟨ys,e1,HJ ys W' _ (some D) e2 (BJ _ D (.deferred none)) (λr e=>by cases e;exact⟨hb,_,Z,rfl⟩)⟩
  .exact .inr ⟨pre,e1,a8 pre W' _ (some D) e2 (BJ _ D (.deferred none)) (λr e=>by cases e;exact⟨hb,_,Z,rfl⟩)⟩
end
section
attribute [local go_sem] Oper.semAt_some
attribute [local go_sem] qI
attribute [local simp] qI
def Na (s:Nat):gG:= .func (.func 343) #[] #[gE s]
def JB (h:Nat) (w:gm):
  Calls prog 316 #[gE h] w λe w'=>e=ig (Na w.heap.size)/\w'=w.alloc (gz #[gE h] 116):=by
 have l:∀(k:Fn) (first d:jA) (w:gm),(Instr.makeFunc k first d).run prog w= .ok (.func k first d) w:=λ_ _ _ _=>rfl;go_enter func316,ntmps316;go_wp2;go_ret;simp[Na]
def WO:∀(d:kG),AR (d.map (Option.map f))=(AR d).map f
 |[]=>rfl
 |none::_=>rfl
 |some i::r=>by show f i::AR (r.map (Option.map f))=f i::(AR r).map f;rw[WO]
def ahi (T:List Nat) (I:List Nat->gm->Prop) (h:Code->List Nat->gm->Prop) (d:List Nat) (W:gm):Exit->Act->gm->Prop
 | .normal,_,W'=>Kept T W W'/\I d W'
 | .ret,_,W'=>Kept T W W'/\h .ret d W'
 | .exit id,_,W'=>Kept T W W'/\h (.exit id) d W'
 | .goto t,_,W'=>Kept T W W'/\h (.goto t) d W'
 | .panic _,_,_=>False
 | .outgrown,_,_=>False
def Kept.kc {T : List Nat} (h:Kept T W W'):KC T W W':=⟨h.size,λk c t m l d=>(h.block k (Array.getElem?_eq_some_iff.1 d).1 l).trans d⟩
theorem Kept.kf {T : List Nat} {B : Nat} (h:Kept T W W') (l:∀k∈T,k < B):KeepsFrom B W W':=⟨h.size,λk o u d _=>(h.block k (Array.getElem?_eq_some_iff.1 d).1 (λe=>by grind)).trans d⟩
def Gs (k:∀i j,f i=f j->i=j):∀{l d:List Nat},l.map f=d.map f->l=d
 |[],[],_=>rfl
 |[],_::_,h=>by simp at h
 |_::_,[],h=>by simp at h
 |x::xs,y::d,h=>by
  simp only[yH,Ub]at h;rw[k x y h.1,Gs k h.2]
def afn (k:∀i j,f i=f j->i=j) {d ys : List Nat} (h:d.map f <+:ys.map f):d <+:ys:=by
 have⟨t,ht⟩:=h;refine⟨ys.drop d.length,?_⟩;have l:d.length<=ys.length:=by have:=si List.length ht;simp at this;omega
 have e:d.map f=(ys.take d.length).map f:=by rw[List.map_take,<-ht];simp
 have e2:=Gs k e
 conv=>lhs;lhs;rw[e2]
 simp
theorem X7 (hn:7<=n) {E:Env} {σ:Ab} {w1 : gm} (hr:Rel E L σ w1)
  {g:Operand} {p:Tmp} {Q:Exit->Act->gm->Prop} (hg:a.eval g=Na w1.heap.size)
  (T:List Nat) (hT:∀k∈T,k≠E.bB/\L.cv.ownBlock≠some k/\k < w1.heap.size)
  (I:List Nat->gm->Prop) (Z:Code->List Nat->gm->Prop)
  (hI:OwnFrom (w1.heap.size+1) I) (a0:∀c,OwnFrom (w1.heap.size+1) (Z c)) (h0:I [] (w1.alloc (gz #[Bp E] 116))) (h:Nat->Act)
  (u:∀(l:Nat) (x:Nat) (W:gm) (K:Act->gm->Prop),K (h x) W->assign.wpIn (Fence.wide.inRound l) (n - 1 - 1) prog (Exit.then K (λ_ _ _=>False)) {tmps:=a.tmps.setIfInBounds p (ku (some x)),defers:=[]} W)
  (O:∀(l:Nat) (pre:List Nat) (i:Nat) (W:gm),some i∈σ.act->I pre W->pre.length < σ.act.length->body.wpIn (Fence.wide.inRound l) (n - 1 - 1) prog (ahi T I Z (pre++[i]) W) (h (L.gI i)) W)
  (a1:∀(D:Nat) (W:gm),w1.heap.size+1<=D->I (AR σ.act.reverse) W->W.heap[D]?=some (.deferred (some []))->Q .normal {a with defers:={target:= .collected D,args:=#[]}::a.defers} W)
  (V:∀(D:Nat) (c:Code) (pre:List Nat) (W:gm),w1.heap.size+1<=D->pre <+:AR σ.act.reverse->Z c pre W->W.heap[D]?=some (.deferred (some []))->c.wpIn Fence.wide n prog Q {a with defers:={target:= .collected D,args:=#[]}::a.defers} W):
  (Code.rangeFunc g #[p] assign body).wpIn Fence.wide n prog Q a (w1.alloc (gz #[Bp E] 116)):=by
 have k1:Kept [] w1 (w1.alloc (gz #[Bp E] 116)):=(Kept.refl _ _).alloc _;have a2:=hr.ib k1;have⟨C,hL,hC⟩:=a2.II;have N:(w1.alloc (gz #[Bp E] 116)).heap.size=w1.heap.size+1:=by simp
 have Y:∀i j,L.gI i=L.gI j->i=j:=hr.inj;have a4:=aaU (n - 1) (by omega) E.bs E.bB _ C L.cv _ w1.heap.size T _ hL (fP w1 _) (λk hk=>⟨(hT k hk).1,(hT k hk).2.1,by grind⟩);have X:∀x:{x:Nat // some x∈σ.act.map (ir L.gI)},∃i,some i∈σ.act/\L.gI i=x.1:=by
  rintro⟨x,hx⟩;have⟨y,hy,e⟩:=List.mem_map.1 hx;cases y with
  |none=>cases e
  |some i=>grind
 have a6:AR (σ.act.map (ir L.gI)).reverse=(AR σ.act.reverse).map L.gI:=by
  rw[<-nL];exact WO _
 refine T1 (by omega) (gf:=343) hg (Go.Proofs.enters_of func343 (by rfl) rfl) a4 KC.trans (λW l o o' _ G H _=>KC.put W l o o' G H) (Below.refl _ _) (λ_=>rfl)
  (λpre W=>∃d,pre.map (·.1)=d.map L.gI/\I d W) (λc pre W=>∃d,pre.map (·.1)=d.map L.gI/\Z c d W) ?_ ?_ ?_ (λx=>h x.1) ?_ ?_ ?_ ?_
 .rintro s A B row ⟨d,G,H⟩ U F;rw[N]at F;exact⟨d,G,hI d A B row H U F⟩
 .rintro c s A B row ⟨d,G,H⟩ U F;rw[N]at F;exact⟨d,G,a0 c d A B row H U F⟩
 .grind
 .intro l x W K hK
  simpa using u l x.1 W K hK
 .rintro l pre x W ⟨d,G,H⟩ a5;have⟨i,hi,ei⟩:=X x;have hb:=O l d i W hi H (by have:=si List.length G;grind);rw[ei]at hb;have J:∀k∈T,k < (w1.alloc (gz #[Bp E] 116)).heap.size:=λk hk=>by grind
  have e2:(pre++[x]).map (·.1)=(d++[i]).map L.gI:=by rw[se,se,G,List.map_singleton,List.map_singleton,ei]
  refine Db hb ?_;rintro e a3 W3 z;cases e with
  |normal=>exact⟨z.1.kf J,z.1.kc,_,e2,z.2⟩
  |ret=>exact⟨z.1.kf J,_,e2,z.2⟩
  |exit id=>exact⟨z.1.kf J,_,e2,z.2⟩
  |goto t=>exact⟨z.1.kf J,_,e2,z.2⟩
  |panic ch=>exact z.elim
  |outgrown=>exact z.elim
 .rintro D ys W hD hS ⟨d,G,H⟩ hK;rw[N]at hD;have:d=AR σ.act.reverse:=Gs Y (by grind);grind
 .rintro D c pre W hD a7 ⟨d,G,H⟩ hK;rw[N]at hD;exact V D c d W hD (afn Y (by grind)) H hK
end
section
attribute [local go_sem] Oper.semAt_some
attribute [local go_sem] qI
attribute [local simp] qI
def EU {σ:Ab}:∀{d:kG},(∀i∈AR d,kJ (σ.nm i) s=false)->σ.qU s d=none
 |[],_=>rfl
 |none::_,_=>rfl
 |some i::r,h=>by
  show(if kJ (σ.nm i) s then some i else σ.qU s r)=none;rw[h i (by simp[AR])];simp only[ru,↓reduceIte];exact EU λj k=>h j (by simp[AR,k])
theorem EV {σ:Ab} (l:kJ (σ.nm i) s=true):∀{d:kG} {pre:List Nat},pre++[i] <+:AR d->(∀j∈pre,kJ (σ.nm j) s=false)->σ.qU s d=some i
 |[],pre,h,_=>by have⟨r,hr⟩:=h;simp[AR]at hr
 |none::_,pre,h,_=>by have⟨r,hr⟩:=h;simp[AR]at hr
 |some k::r,[],h,_=>by
  have⟨t,ht⟩:=h;have e:i=k:=by simp[AR]at ht;exact ht.1
  grind[Ab.qU]
 |some k::r,p::pre,h,hp=>by
  have⟨t,ht⟩:=h;have e:p=k/\pre++[i]++t=AR r:=by simpa [AR]using ht
  obtain⟨rfl,e2⟩:=e;show(if kJ (σ.nm p) s then some p else σ.qU s r)=_;rw[hp p (by simp)];simp only[ru,↓reduceIte];exact EV l ⟨t,e2⟩ (λj u=>hp j (by simp[u]))
def zu (W:gm) (h:b≠D):(W.putObj D o).cell? ⟨b,0,none⟩=W.cell? ⟨b,0,none⟩:=adv (sg h)
theorem EW {E:Env} {σ:Ab} (h:RF E f σ w) (s:fY):
  Calls prog 273 #[Bp E,gu s] w λe w'=>e=ig (oV f (σ.pY s))/\Kept [] w w':=by
 obtain⟨L,rfl,hr⟩:=h;refine(BI (n:=9)).1 ?_;refine BK func273 rfl trivial ?_ rfl;simp only[ntmps273,xQ,rn,uI,Nat.reduceAdd,Nat.reduceSub,xR,xS,xU,xV,rp,tU];obtain⟨C,k⟩:∃C,C=(w.alloc (gz #[gu s] 9)).alloc (gz #[.pointer none] 65):=⟨_,rfl⟩;have O:Kept [] w C:=by rw[k];exact((Kept.refl _ _).alloc _).alloc _
 have B0:C.heap[w.heap.size]?=some (gz #[gu s] 9):=by rw[k];exact(Below.heap_alloc _ _ _ (by simp)).trans (fP w _)
 have B1:C.heap[w.heap.size+1]?=some (gz #[.pointer none] 65):=by rw[k];have:=fP (w.alloc (gz #[gu s] 9)) (gz #[.pointer none] 65);rwa [xW]at this
 have u:C.heap.size=w.heap.size+1+1:=by rw[k];simp
 have a0:=hr.ib O;have a4:=hr.lt;have HB:=JB E.bB C;have HN:=(λ(W:gm) (X:Kept [] w W) (i:Nat) (e:yp) (V:σ.gV i=some e)=>(hr.ib X).we V);have HA:=(λ(i:Nat) (V:some i∈σ.act)=>hr.wf.act (some i) V);have HO:=(λg (hg:L.cv.ownBlock=some g)=>(hr.qB.lt g hg).2);have Z:=fM u;have HW:=fM k;clear u k
 gi_wp2_with fail
 rw[<-HW.out];refine(callsIn_wide.2 HB).mono ?_;rintro e w' ⟨rfl,rfl⟩;gi_wp2;refine X7 (by omega) a0 rfl [w.heap.size+1] ?_
  (λpre W=>Kept [] w W/\W.heap[w.heap.size]?=some (gz #[gu s] 9)/\W.heap[w.heap.size+1]?=some (gz #[.pointer none] 65)/\∀i∈pre,kJ (σ.nm i) s=false)
  (λc pre W=>c= .ret/\Kept [] w W/\∃d i,pre=d++[i]/\(∀j∈d,kJ (σ.nm j) s=false)/\kJ (σ.nm i) s=true/\W.heap[w.heap.size+1]?=some (gz #[gE (L.gI i)] 65))
  ?_ ?_ ?_ (λx=>{tmps:=#[Bp E,gu s,undef,gE w.heap.size,gE (w.heap.size+1),ku (some x),Bp E,Na C.heap.size,ku (some x),undef,undef,undef,undef,undef,undef,undef],defers:=[]}) ?assign ?body ?done ?stop
 .grind
 .rintro pre A B row ⟨h1,h2,F,J⟩ hg hr;have u:=Z.out;exact⟨mx h1 hg hr (by omega),kQ h2 hg hr (by omega),kQ F hg hr (by omega),J⟩
 .rintro c pre A B row ⟨h0,h1,d,i,h2,F,J,h5⟩ hg hr;have u:=Z.out;exact⟨h0,mx h1 hg hr (by omega),d,i,h2,F,J,kQ h5 hg hr (by omega)⟩
 .have X:Kept [] C (C.alloc (gz #[Bp E] 116)):=(Kept.refl _ _).alloc _;exact⟨O.trans X,X.at B0 (by simp),X.at B1 (by simp),by simp⟩
 case assign=>
  intro l x W K U;gi_wp2;exact U
 case body=>
  rintro l pre i W V ⟨G,B2,B3,B4⟩ _;have a2:=HA i V;obtain⟨e0,a1⟩:∃e0,σ.gV i=some e0:=Option.isSome_iff_exists.1 a2;have c0:=HN W G i e0 a1;have c1:=fN B2 0;have I:=fN B3 0;have f3:=gh B3 0;dsimp at c1 I;rw[show ku (some (L.gI i))=gE (L.gI i)from rfl];gi_wp2;refine Bk l (by kernel_rfl) (by kernel_rfl) (by rfl) ?_
  repeat (gi_big_quiet_step (fail))
  refine wpQuietIn_nil ?_;intro _ a3;have⟨nq,hw''⟩:=a3;subst hw'';cases hq:kJ (σ.nm i) s with
  |true=>
   have HQ:=hq;have N:((σ.nm i).toList==s.toList)=true:=hq;rw[N];gi_wp2;refine⟨((Kept.refl [w.heap.size+1] W).drewN nq).setCell (.inl (by simp)) _,rfl,(G.drewN nq).setCell (.inr (by simp)) _,pre,i,rfl,B4,HQ,?_⟩;exact fR (show(W.drewN nq).heap[w.heap.size+1]?=_ from B3) 0 _
  |false=>
   have HQ:=hq;have N:((σ.nm i).toList==s.toList)=false:=hq;rw[N];gi_wp2;refine⟨(Kept.refl _ W).drewN nq,G.drewN nq,B2,B3,λy hy=>?_⟩;grind
 case done=>
  rintro D W HD ⟨G,h2,F,J⟩ U;have I:=fN F 0;have f3:=gh F 0;dsimp at I;have z:σ.pY s=none:=EU J;have H:=fM z;have HS:=fM (oP F 0 (.pointer none) rfl);clear z;gi_wp2;rw[HS.out];refine⟨by simp,.inl ⟨_,_,rfl,sL U,?_⟩⟩;have u:=Z.out;have hD:=HD;have c4:(W.putObj D (.deferred none)).cell? ⟨w.heap.size+1,0,none⟩=some (.pointer none):=by rw[<-I];exact zu W (by omega)
  exact⟨.pointer none,by simp[results,results273,asAddr,Result.andThen,go_sem,c4],by rw[H.out];rfl,G.take (by omega) _⟩
 case stop=>
  rintro D c pre W HD Y ⟨rfl,G,d,i,rfl,F,J,h5⟩ U;have z:σ.pY s=some i:=EV J Y F;have H:=fM z;have I:=fN h5 0;dsimp at I;clear z;gi_wp2;refine⟨by simp,.inl ⟨_,_,rfl,sL U,?_⟩⟩;have u:=Z.out;have hD:=HD;have c4:(W.putObj D (.deferred none)).cell? ⟨w.heap.size+1,0,none⟩=some (gE (L.gI i)):=by rw[<-I];exact zu W (by omega)
  exact⟨gE (L.gI i),by simp[results,results273,asAddr,Result.andThen,go_sem,c4],by rw[H.out];rfl,G.take (by omega) _⟩
end
theorem Za (L:la) (i:Nat) (h:i < L.length):(flat L)[i*2]?=some (gu (L[i]).1)/\(flat L)[i*2+1]?=some (gu (L[i]).2):=by
 induction L generalizing i with
 |nil=>simp at h
 |cons a L ih=>
  cases i with
  |zero=>simp[flat]
  |succ i=>
   grind[flat]
theorem zr.at2 {gx : la} (h:zr w (.slice ao gx.length cp) gx) {k : Nat} (u:k < gx.length):∃g,ao=some ⟨g,0,none⟩/\w.cell? ⟨g,k*2,none⟩=some (gu gx[k].1)/\w.cell? ⟨g,k*2+1,none⟩=some (gu gx[k].2):=by
 obtain⟨g,hg⟩:∃g,ao=some ⟨g,0,none⟩:=by
  rcases h.2 with⟨e,x⟩|⟨q,d,l,e,_⟩
  all_goals grind
 subst hg;have⟨f0,f1⟩:=Za gx k u;exact⟨g,rfl,by rw[h.cellAt (k*2) (by omega)];exact f0,by rw[h.cellAt (k*2+1) (by omega)];exact f1⟩
def aiH (w:gm) (k:Nat) (h:jA) (q:fY×fY->Bool) (gx:la):Prop:=
 (∀d w,(callFunc k d).run prog w= .ok (.enter k d) w)/\∀W,Kept [] w W->∀a∈gx,Calls prog k (#[.agg #[gu a.1,gu a.2]]++h) W λe W'=>e=ig (.bool (q a))/\Kept [] W W'
theorem OH (k:Nat) (u:jA) (q:fY×fY->Bool) (U:gG) (gx:la) (w:gm) (N:zr w U gx) (hn:gx.length<=4096) (hq:aiH w k u q gx):
  Calls prog 363 #[U,.func (.func k) #[] u] w λe w'=>∃n:Int,e=ig (fV n)/\decide (0<=n)=gx.any q/\Kept [] w w':=by
 have⟨ao,cp,hav⟩:=gw N;subst hav;have⟨hcf,HC⟩:=hq;have V:=fM N;clear N;go_enter func363,ntmps363;go_wp21
 go_loopw [8] (λv wr=>∃d:Nat,v=fV d/\d<=gx.length/\(∀a∈gx.take d,q a=false)/\Kept [] w wr) (λv _=>gx.length - (intOf v).toNat)
 case atStart=>exact⟨0,rfl,iM _,by simp,Kept.refl _ _⟩
 case round=>
  obtain⟨d,rfl,a0,C,F⟩:=hrel;by_cases l:d < gx.length
  .obtain⟨g,rfl,c0,c1⟩:=zr.at2 (F.ownsRow V (λ_ _=>by simp)) l;have D:=HC wr F gx[d] (uG l);have Y:=fM C;have I:=fM F;have H:gx.take (d+1)=gx.take d++[gx[d]]:=by rw[FP,qs l];rfl
   have K:=fM H;have z:∀b,q gx[d]=b->(b=true->gx.any q=true):=λb Z h=>List.any_eq_true.2 ⟨gx[d],uG l,by rw[Z,h]⟩;generalize hqq:q gx[d]=b at D z;have HQ:=hqq;have HY:=fM (z b rfl);clear C F H;generalize gx[d].1=x at *;generalize gx[d].2=y at *;go_wp21;refine D.mono ?_;rintro e W3 ⟨rfl,O⟩;have J:=I.trans O;cases b with
   |true=>
    go_wp2;go_ret;simp_all
   |false=>
    go_wp2;go_roundw
    case rel=>
     refine⟨d+1,by go_num,by omega,λa G=>?_,J⟩;rw[K.out]at G;rcases List.mem_append.1 G with G|G
     .exact Y a G
     grind
    case measure=>simp[intOf];omega
  .have X:Hid (gx.any q=false):=fM (by
    grind)
   have I:=fM F;clear F C;go_wp2;go_ret;exact⟨-1,rfl,by rw[X.out];rfl,I⟩
def Ap (k:Nat) (d:jA) (q:fY×fY->Bool) (h:gG) (gx:la) (w:gm) (y:zr w h gx) (z:gx.length<=4096) (F:aiH w k d q gx):
  Calls prog 341 #[h,.func (.func k) #[] d] w λe w'=>e=ig (.bool (gx.any q))/\Kept [] w w':=by
 have C:=OH k d q h gx w y z F;go_enter func341,ntmps341;go_wp21;refine C.mono ?_;rintro e G ⟨n,rfl,l,x⟩;have u:=fM l;clear l;go_wp2
 all_goals go_ret
 all_goals exact⟨by rw[<-u.out];rfl,x⟩
def aeB (b:Nat) (s:fY) (a:fY×fY) (w:gm) (k:w.cell? ⟨b,0,none⟩=some (gu s)) (d:b < w.heap.size):
  Calls prog 342 #[.agg #[gu a.1,gu a.2],gE b] w λe w'=>e=ig (.bool (kJ a.1 s))/\Kept [] w w':=by
 have h:=(Kept.refl [] w).alloc (gz #[gu a.1,gu a.2] 293);have l:=(h.cell (p:=⟨b,0,none⟩) d (by simp)).trans k;generalize a.1=x at *;generalize a.2=y at *;go_enter func342,ntmps342;go_wp2;go_ret;exact⟨rfl,h⟩
def ahF (k:Nat) (u:fY) (y:gG) (X kv:gG) (gx:la) (s:fY) (w:gm) (I:w.heap[k]?=some (gz #[gu u,y,X,kv] 135)) (H:zr w y gx) (V:gx.length<=4096):
  Calls prog 314 #[gE k,gu s] w λe w'=>e=ig (.bool (zE gx s))/\Kept [] w w':=by
 have U:∀(G:Fn) (first l:jA) (w:gm),(Instr.makeFunc G first l).run prog w= .ok (.func G first l) w:=λ_ _ _ _=>rfl;obtain⟨x,d⟩:∃x,x=w.alloc (gz #[gu s] 9):=⟨_,rfl⟩;have h:Kept [] w x:=by rw[d];exact(Kept.refl _ _).alloc _
 have F:x.heap[w.heap.size]?=some (gz #[gu s] 9):=by rw[d];exact fP w _
 have Y:(w.alloc (gz #[gu s] 9)).cell? ⟨k,1,none⟩=some y:=by rw[<-d,fN (h.at I (by simp))];rfl
 have C:=Ap 342 #[gE w.heap.size] (λa=>kJ a.1 s) y gx x (h.ownsRow H (λ_ _=>by simp)) V ⟨enters_of func342 (by rfl) rfl,λW J a _=>aeB w.heap.size s a W (by rw[fN (J.at F (by simp))];rfl) (iQ (J.at F (by simp)))⟩;have O:=iQ I;have⟨ao,cp,hav⟩:=gw H;subst hav;have N:=fM d.symm;clear d;go_enter func314,ntmps314;go_wp21;rw[N.out];refine C.mono ?_;rintro e w2 ⟨rfl,z⟩;have K:=h.trans z;go_wp2;go_ret;exact⟨rfl,K⟩
def sx (a b:fY×fY):Bool:=kJ a.1 b.1&&kJ a.2 b.2
theorem aaP (x:fY×fY) (av:gG) (gx:la) (w:gm) (hA:zr w av gx) (hn:gx.length<=4096):
  Calls prog 368 #[av,.agg #[gu x.1,gu x.2]] w λe w'=>∃n:Int,e=ig (fV n)/\decide (0<=n)=gx.any (λy=>sx x y)/\Kept [] w w':=by
 have⟨ao,cp,hav⟩:=gw hA;subst hav;obtain⟨O,l⟩:∃O,O=w.alloc (gz #[gu x.1,gu x.2] 293):=⟨_,rfl⟩;have z:Kept [] w O:=by rw[l];exact(Kept.refl _ _).alloc _
 have b1:O.heap[w.heap.size]?=some (gz #[gu x.1,gu x.2] 293):=by rw[l];exact fP w _
 have HA:=z.ownsRow hA (λ_ _=>by simp);have HW:=fM l.symm;have H:=fM b1;clear l b1;go_enter func368,ntmps368;go_wp21;rw[HW.out]
 go_loopw [8] (λv wr=>∃d:Nat,v=fV d/\d<=gx.length/\(∀a∈gx.take d,sx x a=false)/\Kept [] O wr) (λv _=>gx.length - (intOf v).toNat)
 case atStart=>exact⟨0,rfl,iM _,by simp,Kept.refl _ _⟩
 case round=>
  obtain⟨d,rfl,a0,G,C⟩:=hrel;by_cases F:d < gx.length
  .obtain⟨g,rfl,c0,c1⟩:=zr.at2 (C.ownsRow HA (λ_ _=>by simp)) F;have d0:=fN (C.at H.out (by simp)) 0;have d1:=fN (C.at H.out (by simp)) 1;dsimp at d0 d1;have Z:=fM G;have J:=fM C;have N:gx.take (d+1)=gx.take d++[gx[d]]:=by rw[FP,qs F];rfl
   have K:=fM N;have HY:=fM (λ(h:sx x gx[d]=true)=>List.any_eq_true.2 ⟨gx[d],uG F,h⟩);have HP:=(show sx x gx[d]=(kJ x.1 gx[d].1&&kJ x.2 gx[d].2)from rfl);clear G C N;generalize gx[d]=y at *;have⟨y0,y1⟩:=y;obtain⟨X,Y⟩:=x;simp only[]at *;have u:∀(U:Bool),(kJ X y0&&kJ Y y1)=U->sx (X,Y) (y0,y1)=U:=λU h=>h;by_cases V:X.toList=y0.toList
   .by_cases e1:Y.toList=y1.toList
    .have I:=fM (u true (by unfold kJ;rw[V,e1];simp));go_wp2_with fail;go_region
     all_goals (try go_wp2)
     all_goals (try go_ret)
     all_goals exact⟨(d:Int),rfl,by rw[HY.out I.out];simp,z.trans J.drew⟩
    .have I:=fM (u false (by unfold kJ;rw[V];simp[e1]));go_wp21;go_region
     all_goals (try go_wp2)
     all_goals (try go_roundw)
     all_goals first
      |(case rel=>
        refine⟨d+1,by go_num,by omega,λa k=>?_,J.drew⟩;rw[K.out]at k;rcases List.mem_append.1 k with k|k
        .exact Z a k
        .rw[List.mem_singleton.1 k];exact I)
      |(case measure=>simp[intOf];omega)
      |skip
   .have I:=fM (u false (by unfold kJ;simp[V]));go_wp21;go_region
    all_goals (try go_wp2)
    all_goals (try go_roundw)
    all_goals first
     |(case rel=>
       refine⟨d+1,by go_num,by omega,λa k=>?_,J.drew⟩;rw[K.out]at k;rcases List.mem_append.1 k with k|k
       .exact Z a k
       .rw[List.mem_singleton.1 k];exact I)
     |(case measure=>simp[intOf];omega)
     |skip
  .have HF:Hid (gx.any (λy=>sx x y)=false):=fM (by
    grind)
   have J:=fM C;clear C G;go_wp2;go_ret;exact⟨-1,rfl,by rw[HF.out];rfl,z.trans J⟩
def Q4 (x:fY×fY) (h:gG) (gx:la) (w:gm) (l:zr w h gx) (G:gx.length<=4096):
  Calls prog 347 #[h,.agg #[gu x.1,gu x.2]] w λe w'=>e=ig (.bool (gx.any λy=>sx x y))/\Kept [] w w':=by
 have d:=(Kept.refl [] w).alloc (gz #[gu x.1,gu x.2] 293);have C:=aaP x h gx _ (d.ownsRow l (λ_ _=>by simp)) G;have⟨ao,cp,hav⟩:=gw l;subst hav;go_enter func347,ntmps347;go_wp21;refine C.mono ?_;rintro e H ⟨n,rfl,k,F⟩;have u:=fM k;have z:=d.trans F;clear k;go_wp2
 all_goals go_ret
 all_goals exact⟨by rw[<-u.out];rfl,z⟩
def acf (b k:Nat) (x:fY) (z Z kv:gG) (gx:la) (a:fY×fY) (w:gm) (V:w.heap[b]?=some (gz #[gE k] 65)) (H:w.heap[k]?=some (gz #[gu x,z,Z,kv] 135)) (G:zr w z gx) (Y:gx.length<=4096):
  Calls prog 346 #[.agg #[gu a.1,gu a.2],gE b] w λe w'=>e=ig (.bool (!(gx.any λy=>sx a y)))/\Kept [] w w':=by
 obtain⟨l,h⟩:∃l,l=w.alloc (gz #[gu a.1,gu a.2] 293):=⟨_,rfl⟩;have d:Kept [] w l:=by rw[h];exact(Kept.refl _ _).alloc _
 have F:l.heap[w.heap.size]?=some (gz #[gu a.1,gu a.2] 293):=by rw[h];exact fP w _
 have K:=fN F 0;have N:=fN F 1;have O:=fN (d.at V (by simp)) 0;have U:=fN (d.at H (by simp)) 1;dsimp at K N O U;have X:k < l.heap.size:=iQ (d.at H (by simp));have C:=(λq=>Q4 a z gx (l.drewN q) ((d.drewN q).ownsRow G (λ_ _=>by simp)) Y);have⟨ao,cp,hav⟩:=gw G;subst hav;have J:=fM h.symm;clear h;go_enter func346,ntmps346;go_wp21;rw[J.out]
 go_region_with (go_at_call 347;refine(C 1).mono ?_;rintro e w2 ⟨rfl,u⟩;have I:=fM ((d.drewN 1).trans u);clear u)
 all_goals (try go_wp2)
 all_goals (try go_ret)
 all_goals exact⟨rfl,I⟩
def aef (E:Env) (x:Nat×Nat×fY):iy E (rX x)=OS x:=rfl
def SA (E:Env) (x:Nat×Nat×fY) (w:gm):Calls prog 225 #[OS x] w λe w'=>e=ig (.bool (!mq x.2.2))/\Kept [] w w':=by
 have d:=zv E (rX x) w;rw[aef]at d;have u:=(λW=>Kv x.2.2 W);have y:(rX x).chars=x.2.2:=rfl;rw[y]at d;generalize OS x=v at *;generalize x.2.2=s at *;go_enter func225,ntmps225;go_wp21;refine d.mono ?_;rintro e z ⟨rfl,h⟩;go_wp21;refine(u z).mono ?_;rintro e w2 ⟨rfl,l⟩;have k:=h.trans l;go_wp2;go_ret;exact⟨rfl,k⟩
theorem ag7.at {xs : List (Nat×Nat×fY)} (h:w.ownsRow base 120 1 (.slice ao xs.length cp) xs.length (xs.map OS)) {k : Nat} (u:k < xs.length):∃g,ao=some ⟨g,0,none⟩/\w.cell? ⟨g,k,none⟩=some (OS xs[k]):=by
 obtain⟨g,hg⟩:∃g,ao=some ⟨g,0,none⟩:=by
  rcases h.2 with⟨e,x⟩|⟨q,d,l,e,_⟩
  all_goals grind
 subst hg;exact⟨g,rfl,by rw[h.cellAt k (by omega)];simp[u]⟩
theorem Qk (E:Env) (base:Nat) (J:gG) (xs:List (Nat×Nat×fY)) (w:gm) (H:w.ownsRow base 120 1 J xs.length (xs.map OS)) (hn:xs.length<=4096):
  Calls prog 287 #[J,.func (.func 225) #[] #[]] w λe w'=>∃n:Int,e=ig (fV n)/\decide (0<=n)=(xs.any λx=>!mq x.2.2)/\Kept [] w w':=by
 have⟨ao,cp,hav⟩:=gw H;subst hav;have Y:=enters_of func225 (by rfl) rfl;have N:=(λW x=>SA E x W);have K:=fM H;clear H;go_enter func287,ntmps287;go_wp21
 go_loopw [8] (λv wr=>∃d:Nat,v=fV d/\d<=xs.length/\(∀a∈xs.take d,(!mq a.2.2)=false)/\Kept [] w wr) (λv _=>xs.length - (intOf v).toNat)
 case atStart=>exact⟨0,rfl,iM _,by simp,Kept.refl _ _⟩
 case round=>
  obtain⟨d,rfl,Z,l,y⟩:=hrel;by_cases z:d < xs.length
  .obtain⟨g,rfl,V⟩:=ag7.at (y.ownsRow K (λ_ _=>by simp)) z;have D:=N wr xs[d];have U:=fM l;have C:=fM y;have G:=fM (show xs.take (d+1)=xs.take d++[xs[d]] by simp);have k:∀b,(!mq xs[d].2.2)=b->(b=true->(xs.any λx=>!mq x.2.2)=true):=λb X h=>List.any_eq_true.2 ⟨xs[d],uG z,by rw[X,h]⟩;generalize hqq:(!mq xs[d].2.2)=b at D k;have HQ:=hqq;have HY:=fM (k b rfl);clear l y;rw[show OS xs[d]= .iface 183 (.agg #[fV (xs[d].1),fV (xs[d].2.1),gu xs[d].2.2])from rfl]at V D;go_wp21;refine D.mono ?_;rintro e W3 ⟨rfl,I⟩;have F:=C.trans I;cases b with
   |true=>
    go_wp2;go_ret;simp_all
   |false=>
    go_wp2;go_roundw
    case rel=>
     refine⟨d+1,by go_num,by omega,λa u=>?_,F⟩;rw[G.out]at u;rcases List.mem_append.1 u with u|u
     .exact U a u
     grind
    case measure=>simp[intOf];omega
  .have O:Hid ((xs.any λx=>!mq x.2.2)=false):=fM (by
    grind)
   have C:=fM y;clear y l;go_wp2;go_ret;exact⟨-1,rfl,by rw[O.out];rfl,C⟩
def IX (E:Env) (base:Nat) (d:gG) (xs:List (Nat×Nat×fY)) (w:gm) (u:w.ownsRow base 120 1 d xs.length (xs.map OS)) (y:xs.length<=4096):
  Calls prog 224 #[d,.func (.func 225) #[] #[]] w λe w'=>e=ig (.bool (xs.any λx=>!mq x.2.2))/\Kept [] w w':=by
 have C:=Qk E base d xs w u y;go_enter func224,ntmps224;go_wp21;refine C.mono ?_;rintro e z ⟨n,rfl,h,l⟩;have k:=fM h;clear h;go_wp2
 all_goals go_ret
 all_goals exact⟨by rw[<-k.out];rfl,l⟩
attribute [local go_sem] Oper.semAt_some
def lG (d rec:Nat->gy->M Unit) (t:gy):M Unit:=do
 oc d
 wU λh=>{h with waiting:=[],mode:=h.kept}
 jX rec t
 return ()
def Env.lock (E:Env) (v:gG) (d:List (Nat×Nat×fY)):Env:={E with wv:=some (v,d)}
variable {E : Env}
def Rel.lock {σ:Ab} (h:Rel E L σ w):Rel (E.lock L.wv σ.waiting) L σ w:=by
 have⟨C,hb,hC⟩:=h.iw;exact
  {fr:=h.fr,env:=⟨h.env.Ij,h.env.X1,h.env.spec,h.env.Zd,h.env.YI,h.env.ye⟩,Fb:=h.Fb,tX:=h.tX,inj:=h.inj,BZ:=h.BZ,Hw:=h.Hw,uq:=h.uq,FX:=h.FX,wf:=h.wf
   iw:=⟨C,hb,⟨hC.size,hC.low,hC.gq,hC.act,hC.head,hC.form,hC.mode,hC.kept,hC.wait,hC.Kg,hC.jJ,hC.gI,hC.behind⟩⟩
   pR:=h.pR,qB:=h.qB,H9:=h.H9,x7:=h.x7,F0:=h.F0,pI:=h.pI,M1:=h.M1,rd:=h.rd,Tk:=h.Tk,tok:=h.tok,MY:=h.MY,bz:=h.bz,bB:=h.bB,bR:=h.bR,bN:=h.bN,BU:=h.BU,ab:=h.ab,tb:=h.tb
   M0:=λp d=>by cases d;simp}
theorem Rel.unlock {k : List (Nat×Nat×fY)} {σ:Ab} (h:Rel (E.lock v k) L σ w) (d:E.wv=none):Rel E L σ w:=by
 have⟨C,hb,hC⟩:=h.iw;exact
  {fr:=h.fr,env:=⟨h.env.Ij,h.env.X1,h.env.spec,h.env.Zd,h.env.YI,h.env.ye⟩,Fb:=h.Fb,tX:=h.tX,inj:=h.inj,BZ:=h.BZ,Hw:=h.Hw,uq:=h.uq,FX:=h.FX,wf:=h.wf
   iw:=⟨C,hb,⟨hC.size,hC.low,hC.gq,hC.act,hC.head,hC.form,hC.mode,hC.kept,hC.wait,hC.Kg,hC.jJ,hC.gI,hC.behind⟩⟩
   pR:=h.pR,qB:=h.qB,H9:=h.H9,x7:=h.x7,F0:=h.F0,pI:=h.pI,M1:=h.M1,rd:=h.rd,Tk:=h.Tk,tok:=h.tok,MY:=h.MY,bz:=h.bz,bB:=h.bB,bR:=h.bR,bN:=h.bN,BU:=h.BU,ab:=h.ab,tb:=h.tb
   M0:=λp l=>by grind}
def At.unlock {k : List (Nat×Nat×fY)} {σ:Ab} (h:At (E.lock v k) f0 n0 w0 f σ w) (d:E.wv=none):At E f0 n0 w0 f σ w:=by
 have⟨L,e,hr⟩:=h.rel;exact⟨⟨L,e,hr.unlock d⟩,h.ext,h.le,h.fr,h.hw⟩
def M.M9 {α d h:Type} (m:M α) (k:α->M d) (g:d->M h) (σ:Ab):((m>>=k)>>=g) σ=(m>>=λa=>k a>>=g) σ:=by
 rw[M.gn,M.gn,M.gn];cases m σ with
 |ok a σ'=>rfl
 |stop e p=>rfl
 |stuck=>rfl
def Rel.PA {σ:Ab} (h:Rel E L σ w) (l:E.wv=none):Rel E {L with wv:=ji} {σ with waiting:=[]} (w.setCell ⟨E.bB,194,none⟩ (ji)):=by
 have⟨C,hb,hC⟩:=h.iw;have d:Kept [E.bB] w (w.setCell ⟨E.bB,194,none⟩ (ji)):=(Kept.refl _ w).setCell (.inl (by simp)) _;have u:KT E.bs [175,120] w (w.setCell ⟨E.bB,194,none⟩ (ji)):= .jL d (λk d _=>by simp at d;subst d;exact⟨⟨_,_,_,hb,by simp⟩,h.bB⟩);exact h.ajx hC (ji) [] (fR hb 194 _) u (pk _ _ _ _) (by simp) l
def At.PA {σ:Ab} (h:At E f0 n0 w0 f σ w) (l:E.wv=none):At E f0 n0 w0 f {σ with waiting:=[]} (w.setCell ⟨E.bB,194,none⟩ (ji)):=by
 have⟨L,e,hr⟩:=h.rel;refine h.to ⟨{L with wv:=ji},e,hr.PA l⟩ (gL _) ?_;have⟨C,hb,hC⟩:=hr.iw;have d:Kept [E.bB] w (w.setCell ⟨E.bB,194,none⟩ (ji)):=(Kept.refl _ w).setCell (.inl (by simp)) _;exact .jL d (λk d=>by simp at d;subst d;exact⟨⟨_,_,_,hb,by decide⟩,hr.bB⟩)
def JY (d:Nat->gy->M Unit) (h:Bool) (x:Nat×Nat×fY):M Unit:=if h then th d (rX x)else jZ (rX x)
def rE (d:Nat->gy->M Unit) (h:Bool):List (Nat×Nat×fY)->M Unit
 |[]=>pure ()
 |x::r=>do
  JY d h x
  rE d h r
def Er (d:Nat->gy->M Unit) (h:Bool) (x:Nat×Nat×fY) (r:List (Nat×Nat×fY)):rE d h (x::r)=(JY d h x>>=λ_=>rE d h r):=rfl
def Nh (d:Nat->gy->M Unit):∀h,rE d true h=tK d h
 |[]=>rfl
 |x::r=>by unfold rE tK;rw[Nh d r];rfl
def Ng (d:Nat->gy->M Unit):∀h,rE d false h=tL h
 |[]=>rfl
 |x::r=>by unfold rE tL;rw[Ng d r];rfl
def J8 (E:Env) (a2:E.wv=none) (d rec:Nat->gy->M Unit) (a9:∀v ws (m:Nat) (t:gy),jd E t->iZ (E.lock v ws) 162 (λ_=>#[Bp E,fV m,iy E t]) (d m t) uV) (hA:∀(m:Nat) (t:gy),jd E t->iZ E 162 (λ_=>#[Bp E,fV m,iy E t]) (rec m t) uV) (t:gy) (ht:jd E t):iZ E 128 (λ_=>#[Bp E,iy E t]) (lG d rec t) uV:=by
 intro f y w h HS;have⟨L,hL,hr⟩:=h;obtain⟨R,N⟩:∃R,R=lG d rec t y:=⟨_,rfl⟩;rw[<-N]at HS|-;obtain⟨fo,a4⟩:∃fo,fo=y.waiting.any λx=>!mq x.2.2:=⟨_,rfl⟩;obtain⟨k,a1⟩:∃k,k=y.waiting:=⟨_,rfl⟩;obtain⟨v0,a0⟩:∃v0,v0=L.wv:=⟨_,rfl⟩;have aa:R=(rE d fo k>>=λ_=>(do
   wU λy=>{y with waiting:=[],mode:=y.kept}
   jX rec t
   return ():M Unit)) y:=by
  rw[N];unfold lG;rw[M.gn,M.gn];have e1:oc d y=rE d fo k y:=by
   unfold oc;rw[<-a4,a1];cases fo
   .rw[Ng];rfl
   .rw[Nh];rfl
  rw[e1]
 have a5:=hr.lock;rw[<-a0,<-a1]at a5;have H:=At.start (E:=E.lock v0 k) ⟨L,hL,a5⟩;have C1:=IX E E.bs L.wv y.waiting w hr.pI hr.M1;rw[<-a4,<-a0]at C1;have a6:=hr.pI;rw[<-a0,<-a1]at a6;have⟨ao,cp,hsh⟩:=gw a6;have ah:k.length<=4096:=by rw[a1];exact hr.M1
 have c0:=hr.aeb;rw[<-a0,hsh]at c0;rw[hsh]at C1;have U:=hr.lt;have ag:∀(fn:Fn) (first a8:jA) (w:gm),(Instr.makeFunc fn first a8).run prog w= .ok (.func fn first a8) w:=λ_ _ _ _=>rfl;have af:=enters_of func100 (by rfl) rfl;have ae:=enters_of func126 (by rfl) rfl;have C:=fM aa;have a7:=fM hsh;have HE:∀x:Nat×Nat×fY,iZ (E.lock v0 k) (if fo then 126 else 100) (λ_=>#[Bp E,OS x]) (JY d fo x) uV:=by
  intro x;cases fo with
  |true=>exact ED (E.lock v0 k) d (λm t ht=>a9 v0 k m t ht) (rX x) (λh=>by cases h)
  |false=>exact wM (E.lock v0 k) (iF _) (rX x)
 have HA:=hA;clear N aa a5 a6 hsh hr hL hA a9 a4 a1 a0;cases fo with
 |true=>
  have a3:Hid (∀x:Nat×Nat×fY,iZ (E.lock v0 k) 126 (λ_=>#[Bp E,OS x]) (JY d true x) uV):=HE;clear HE;go_enter func128,ntmps128;go_wp21;refine C1.mono ?_;rintro e w1 ⟨rfl,K⟩;have c1:=(K.cell (p:=⟨E.bB,194,none⟩) U (by simp)).trans c0;have Y:E.bB < w1.heap.size:=lU U K.size;replace H:=H.k0 K;clear K C1;go_wp21
  go_loopw [21] (λv wr=>∃(z:Nat) (g:Nat->Nat) (u:Ab),v=fV z/\z<=k.length/\R=(rE d true (k.drop z)>>=λ_=>(do
   wU λy=>{y with waiting:=[],mode:=y.kept}
   jX rec t
   return ():M Unit)) u/\At (E.lock v0 k) f y.nodes.length w g u wr) (λv _=>k.length - (intOf v).toNat)
  case atStart=>exact⟨0,f,y,rfl,iM _,C,H⟩
  case round=>
   clear H C c0 c1 U Y;obtain⟨z,g,u,rfl,ab,N,F⟩:=hrel;by_cases Z:z < k.length
   .have⟨L',hL',hr'⟩:=F.rel;have⟨e1,e2⟩:=hr'.M0 _ rfl;have l:=hr'.pI;rw[e1,e2]at l;dsimp only at l;rw[a7.out]at l;obtain⟨gb,rfl,c5⟩:=ag7.at l Z;rw[Dc Z]at N;have G:R=(JY d true k[z]>>=λ_=>rE d true (k.drop (z+1))>>=λ_=>(do
      wU λy=>{y with waiting:=[],mode:=y.kept}
      jX rec t
      return ():M Unit)) u:=by
     rw[N,Er,M.M9]
    replace H:=F;have C:=fM G;have X:=a3 k[z];clear N G F l e1 e2 hr' hL';rw[show OS k[z]= .iface 183 (.agg #[fV (k[z].1),fV (k[z].2.1),gu k[z].2.2])from rfl]at c5 X;go_wp21;refine dC (X) H C HS rfl (λ_ _ _ _ h=>And.intro rfl (lS h)) ?_;clear H C;rintro(_) f y w H HX HF C;go_wp2;go_roundw
    case rel=>exact⟨z+1,f,y,by go_num,by omega,C,H⟩
    case measure=>simp[intOf];omega
   .have G:R=(jX rec t>>=λ_=>(Pure.pure ():M Unit)) {u with waiting:=[],mode:=u.kept}:=by
     rw[N,Iu (by omega)];rfl
    have V:=(F.unlock a2);obtain⟨I,J,c4⟩:∃I J,wr.cell? ⟨E.bB,194,none⟩=some (.slice I u.waiting.length J):=by
     have⟨L4,_,hr4⟩:=V.rel;have⟨I,J,e4⟩:=gw hr4.pI;exact⟨I,J,by rw[<-e4];exact hr4.aeb⟩
    have f4:=V.free 194;have ac:=V.lt;have O:=V.PA a2;have c5:=O.Ux;have c6:=O.sC;have f6:=O.free 192;have ad:=O.lt;have H:=O.jb u.kept;have C:=fM G;clear N G F V O;go_wp21;refine dC (ux E rec HA t ht) H C HS rfl (λ_ _ _ _ h=>And.intro rfl (lS h)) ?_;clear H C;rintro(_) f y w H HX HF C;go_wp2;go_end0;exact ga C H rfl
 |false=>
  have a3:Hid (∀x:Nat×Nat×fY,iZ (E.lock v0 k) 100 (λ_=>#[Bp E,OS x]) (JY d false x) uV):=HE;clear HE;go_enter func128,ntmps128;go_wp21;refine C1.mono ?_;rintro e w1 ⟨rfl,K⟩;have c1:=(K.cell (p:=⟨E.bB,194,none⟩) U (by simp)).trans c0;have Y:E.bB < w1.heap.size:=lU U K.size;replace H:=H.k0 K;clear K C1;go_wp21
  go_loopw [21] (λv wr=>∃(z:Nat) (g:Nat->Nat) (u:Ab),v=fV z/\z<=k.length/\R=(rE d false (k.drop z)>>=λ_=>(do
   wU λy=>{y with waiting:=[],mode:=y.kept}
   jX rec t
   return ():M Unit)) u/\At (E.lock v0 k) f y.nodes.length w g u wr) (λv _=>k.length - (intOf v).toNat)
  case atStart=>exact⟨0,f,y,rfl,iM _,C,H⟩
  case round=>
   clear H C c0 c1 U Y;obtain⟨z,g,u,rfl,ab,N,F⟩:=hrel;by_cases Z:z < k.length
   .have⟨L',hL',hr'⟩:=F.rel;have⟨e1,e2⟩:=hr'.M0 _ rfl;have l:=hr'.pI;rw[e1,e2]at l;dsimp only at l;rw[a7.out]at l;obtain⟨gb,rfl,c5⟩:=ag7.at l Z;rw[Dc Z]at N;have G:R=(JY d false k[z]>>=λ_=>rE d false (k.drop (z+1))>>=λ_=>(do
      wU λy=>{y with waiting:=[],mode:=y.kept}
      jX rec t
      return ():M Unit)) u:=by
     rw[N,Er,M.M9]
    replace H:=F;have C:=fM G;have X:=a3 k[z];clear N G F l e1 e2 hr' hL';rw[show OS k[z]= .iface 183 (.agg #[fV (k[z].1),fV (k[z].2.1),gu k[z].2.2])from rfl]at c5 X;go_wp21;refine dC (X) H C HS rfl (λ_ _ _ _ h=>And.intro rfl (lS h)) ?_;clear H C;rintro(_) f y w H HX HF C;go_wp2;go_roundw
    case rel=>exact⟨z+1,f,y,by go_num,by omega,C,H⟩
    case measure=>simp[intOf];omega
   .have G:R=(jX rec t>>=λ_=>(Pure.pure ():M Unit)) {u with waiting:=[],mode:=u.kept}:=by
     rw[N,Iu (by omega)];rfl
    have V:=(F.unlock a2);obtain⟨I,J,c4⟩:∃I J,wr.cell? ⟨E.bB,194,none⟩=some (.slice I u.waiting.length J):=by
     have⟨L4,_,hr4⟩:=V.rel;have⟨I,J,e4⟩:=gw hr4.pI;exact⟨I,J,by rw[<-e4];exact hr4.aeb⟩
    have f4:=V.free 194;have ac:=V.lt;have O:=V.PA a2;have c5:=O.Ux;have c6:=O.sC;have f6:=O.free 192;have ad:=O.lt;have H:=O.jb u.kept;have C:=fM G;clear N G F V O;go_wp21;refine dC (ux E rec HA t ht) H C HS rfl (λ_ _ _ _ h=>And.intro rfl (lS h)) ?_;clear H C;rintro(_) f y w H HX HF C;go_wp2;go_end0;exact ga C H rfl
attribute [local go_sem] Oper.semAt_some
def IG (h:M Unit) (t:gy):M Unit:=λd=>if d.inScope (gZ [t.name]) Br then h d else .ok () d
def QF (E:Env) (v:gG) (p:fY->Bool) (W:gm):Prop:=∃k d,v= .func (.func k) #[] d/\Ask E.bm v p W
def QF.k {E:Env} {v:gG} {p:fY->Bool} {W W':gm} (h:QF E v p W) (d:Kept [] W W'):QF E v p W':=by
 have⟨k,lb,e,ha⟩:=h;exact⟨k,lb,e,ha.k0 d⟩
def SlS (s:fY) (v:gG) (W:gm):Prop:=∃g,v=oo g 1 1/\W.heap[g]?=some (gz #[gu s] 9)
def SlS.k {s:fY} {v:gG} {W W':gm} (h:SlS s v W) (d:Kept [] W W'):SlS s v W':=by
 have⟨g,e,hb⟩:=h;exact⟨g,e,d.at hb (by simp)⟩
structure IfI (E:Env) (t:gy) (σ:Ab) (ta tb:Int) (tao:Option Addr) (tn tcp:Nat) (W0:gm) (z0 z1 z2 z3 z4 z5 z6 z7:Bool) (s4 s5 s6 s7 s8 s9 s10 s11:gG) (W:gm):Prop where
 f0:z0=true->s4=iq E.bB
 f1:z1=true->s5=iy E t
 f2:z2=true->s6= .agg #[fV ta,fV tb,gu t.name,.slice tao tn tcp]
 f3:z3=true->s7=gu t.name
 f4:z4=true->SlS t.name s8 W
 f5:z5=true->QF E s9 (gZ [t.name]) W
 f6:z6=true->QF E s10 Br W
 f7:z7=true->s11= .bool (σ.inScope (gZ [t.name]) Br)
 d2:z2=true->z1=true
 d3:z3=true->z2=true
 d4:z4=true->z3=true
 d5:z5=true->z4=true
 d7:z7=true->z0=true/\z5=true/\z6=true
 wi:Kept [] W0 W
theorem Pe (E:Env) (t:gy) (r:Ru) (O:M Unit) (hr:mn E r t O) (b1 b2:Nat) (u:gG) {σ:Ab} (h:RF E f σ w) (hs:IG O t σ≠ .stuck) (V:box w b1 (iq E.bB) 116) (N:box w b2 u 163) (hu:n4 E.bm E.bB (f 0) r u w):
  Calls prog 228 #[iy E t,iq b1,iq b2] w (Leaves E f σ.nodes.length w (IG O t σ) uV):=by
 obtain⟨R,hR⟩:∃R,R=IG O t σ:=⟨_,rfl⟩;rw[<-hR]at hs|-;have⟨ta,tb,tao,tn,tcp,HTG⟩:=FC E t h;have a2:=(λw=>Bu ta tb t.name tao tn tcp w);have U:=fM h;have HS:=hs;have HR:=fM hR;have a0:=fM N;have HU:=hu;have a7:=hr;have a1:=(λW (hk:Kept [] w W)=>(by rw[fN (hk.at V (by simp))];rfl:W.cell? ⟨b1,0,none⟩=some (iq E.bB)));clear h hR N;go_enter func228,ntmps228;go_wp21;refine vR (by rfl) ?_
 try (change wpAny _ _ _ _ _ _ _ (World.drew _))
 refine zp (I:=λy ac W=>∃Z z1 z2 z3 z4 z5 z6 z7 s4 s5 s6 s7 s8 s9 C F,y=#[Z,z1,z2,z3,z4,z5,z6,z7]/\ac=⟨#[iy E t,iq b1,iq b2,undef,s4,s5,s6,s7,s8,s9,C,F,undef,undef,undef],[]⟩/\IfI E t σ ta tb tao tn tcp w Z z1 z2 z3 z4 z5 z6 z7 s4 s5 s6 s7 s8 s9 C F W) ?_ ?_ _ _ _ _ ?_ ?_
 .rintro y a W k ⟨Z,z1,z2,z3,z4,z5,z6,z7,s4,s5,s6,s7,s8,s9,C,F,rfl,rfl,d⟩ hi;simp only[Region.ready,LS,FR]at hi;have⟨Y,hc⟩:=hi;have Y:k < 8:=Y;obtain rfl|rfl|rfl|rfl|rfl|rfl|rfl|rfl:k=0\/k=1\/k=2\/k=3\/k=4\/k=5\/k=6\/k=7:=by omega
  all_goals simp[Region.binds]at hc
  .refine jY rfl ?_;intro J x;have ab:Z=false:=by simp[hc]
   have cc:=a1 W d.wi;go_simp;refine x _ _ ⟨_,_,_,_,_,_,_,_,_,_,_,_,_,_,_,_,rfl,rfl,?_⟩;exact {d with f0:=(λ_=>rfl),d7:=(λX=>by have h2:=(d.d7 X).1;grind)}
  .refine jY rfl ?_;intro J x;have V:z1=false:=by simp[hc]
   go_simp;refine x _ _ ⟨_,_,_,_,_,_,_,_,_,_,_,_,_,_,_,_,rfl,rfl,?_⟩;exact {d with f1:=(λ_=>rfl),d2:=(λ_=>rfl)}
  .refine jY rfl ?_;intro J x;have N:z2=false:=by simp[hc]
   have e1:=d.f1 (by simp[hc]);subst e1;go_simp;refine(HTG W).mono ?_;rintro e W2 ⟨rfl,l⟩;refine x _ _ ⟨_,_,_,_,_,_,_,_,_,_,_,_,_,_,_,_,rfl,rfl,?_⟩;exact {d with f2:=(λ_=>rfl),f4:=(λh=>(d.f4 h).k l),f5:=(λh=>(d.f5 h).k l),f6:=(λh=>(d.f6 h).k l),d2:=(λ_=>by simp[hc]),d3:=(λ_=>rfl),wi:=(d.wi.trans l)}
  .refine jY rfl ?_;intro J x;have ad:z3=false:=by simp[hc]
   have e2:=d.f2 (by simp[hc]);subst e2;have ai:=a2;go_simp;refine x _ _ ⟨_,_,_,_,_,_,_,_,_,_,_,_,_,_,_,_,rfl,rfl,?_⟩;exact {d with f3:=(λ_=>rfl),d3:=(λ_=>by simp[hc]),d4:=(λ_=>rfl)}
  .refine jY rfl ?_;intro J x;have ae:z4=false:=by simp[hc]
   have e3:=d.f3 (by simp[hc]);subst e3;go_simp;have ka:Kept [] W (W.alloc (gz #[gu t.name] 9)):=(Kept.refl _ _).alloc _;refine x _ _ ⟨_,_,_,_,_,_,_,_,_,_,_,_,_,_,_,_,rfl,rfl,?_⟩;exact {d with f4:=(λ_=>⟨_,rfl,fP W _⟩),f5:=(λh=>(d.f5 h).k ka),f6:=(λh=>(d.f6 h).k ka),d4:=(λ_=>by simp[hc]),d5:=(λ_=>rfl),wi:=(d.wi.trans ka)}
  .refine jY rfl ?_;intro J x;have af:z5=false:=by simp[hc]
   have e4:=d.f4 (by simp[hc]);have⟨g,e4,hg⟩:=d.f4 (by simp[hc]);subst e4;go_simp;refine(Pm E.bm g 1 [t.name] W hg (by simp)).mono ?_;rintro e W2 ⟨⟨v,rfl,ha⟩,l⟩;refine x _ _ ⟨_,_,_,_,_,_,_,_,_,_,_,_,_,_,_,_,rfl,rfl,?_⟩;exact {d with f4:=(λ_=>⟨g,rfl,l.at hg (by simp)⟩),f5:=(λ_=>(by have⟨k,lb,e,_,_⟩:=ha.call;exact⟨k,lb,e,ha⟩)),f6:=(λh=>(d.f6 h).k l),d5:=(λ_=>by simp[hc]),d7:=(λX=>by have h2:=(d.d7 X).2.1;grind),wi:=(d.wi.trans l)}
  .refine jY rfl ?_;intro J x;have ag:z6=false:=by simp[hc]
   go_simp;refine(xL E W).mono ?_;rintro e W2 ⟨k,lb,rfl,ha,l⟩;refine x _ _ ⟨_,_,_,_,_,_,_,_,_,_,_,_,_,_,_,_,rfl,rfl,?_⟩;exact {d with f4:=(λh=>(d.f4 h).k l),f5:=(λh=>(d.f5 h).k l),f6:=(λ_=>⟨k,lb,rfl,ha⟩),d7:=(λX=>by have h2:=(d.d7 X).2.2;grind),wi:=(d.wi.trans l)}
  .refine jY rfl ?_;intro J x;have ah:z7=false:=by simp[hc]
   have e0:=d.f0 (by simp[hc]);subst e0;have a5:=d.f5 (by simp[hc]);have a6:=d.f6 (by simp[hc]);go_simp;refine(wX (U.ib d.wi) (gZ [t.name]) Br _ _ a5.choose_spec.choose_spec.2 a6.choose_spec.choose_spec.2).mono ?_;rintro e W2 ⟨rfl,l⟩;refine x _ _ ⟨_,_,_,_,_,_,_,_,_,_,_,_,_,_,_,_,rfl,rfl,?_⟩;exact {d with f4:=(λh=>(d.f4 h).k l),f5:=(λh=>(d.f5 h).k l),f6:=(λh=>(d.f6 h).k l),f7:=(λ_=>rfl),d7:=(λ_=>by simp[hc]),wi:=(d.wi.trans l)}
 .rintro y a W ⟨Z,z1,z2,z3,z4,z5,z6,z7,s4,s5,s6,s7,s8,s9,C,F,rfl,rfl,d⟩ hr;simp only[Region.ready,Ud,FR]at hr;have q0:=hr 0 (by decide);simp[Region.binds]at q0;subst q0;have q1:=hr 1 (by decide);simp[Region.binds]at q1;subst q1;have q2:=hr 2 (by decide);simp[Region.binds]at q2;subst q2;have q3:=hr 3 (by decide);simp[Region.binds]at q3;subst q3;have q4:=hr 4 (by decide);simp[Region.binds]at q4;subst q4;have q5:=hr 5 (by decide);simp[Region.binds]at q5;subst q5;have q6:=hr 6 (by decide);simp[Region.binds]at q6;subst q6;have q7:=hr 7 (by decide);simp[Region.binds]at q7;subst q7;have e7:=d.f7 rfl;subst e7;have H:=(At.start U).k0 d.wi;have G:=fM d.wi;clear d;cases hq:σ.inScope (gZ [t.name]) Br with
  |false=>
   have a4:=(show R= .ok () σ by rw[HR.out];unfold IG;rw[hq];rfl);go_wp2;go_end0;exact ga a4 H rfl
  |true=>
   have K:R=O σ:=by rw[HR.out];unfold IG;rw[hq];rfl
   have a9:O σ≠ .stuck:=by rw[<-K];exact HS
   have aa:=n4.fr HU (Fr.n (bs:=E.bs) (.gN G) E.bm);have⟨k,bs,cs,hv,eg,HC⟩:=a7 u f σ W H.rel aa a9;subst hv;have c2:=fN (G.out.at a0.out (by simp)) 0;dsimp at c2;have a8:=fM K;clear K;go_wp21;refine HC.mono ?_;intro e W2 hL;have HL:=fM hL;have a3:=Fr.gN (bs:=E.bs) G;clear hL;have z:=fM a8;cases hrr:O σ with
   |ok a σ2=>
    rw[hrr]at HL z;obtain⟨g,g1,g2,rfl,g4,g5⟩:=HL;have HG:=H.go g4 g1 g2 g5;go_wp2;go_end0;exact ga z HG rfl
   |stop c p=>
    rw[hrr]at HL z;obtain⟨j,rfl,G2,g3⟩:=HL;have G3:=a3.trans g3;go_wp2;exact⟨rfl,pU z G2 G3⟩
   |stuck=>grind
 .decide
 .exact⟨_,_,_,_,_,_,_,_,_,_,_,_,_,_,_,_,rfl,rfl,⟨(by simp),(by simp),(by simp),(by simp),(by simp),(by simp),(by simp),(by simp),(by simp),(by simp),(by simp),(by simp),(by simp),((Kept.refl _ _).drew)⟩⟩
def KJ {n : fY} {a p k : gG} (h:w.heap[i]?=some (gz #[gu n,a,p,k] 135)):w.cell? ⟨i,0,none⟩=some (gu n)/\w.cell? ⟨i,1,none⟩=some a/\i < w.heap.size:=⟨by rw[fN h];rfl,by rw[fN h];rfl,iQ h⟩
def Zi (i j:Nat) (Y X:fY) (a1 p1 k1 a2 p2 k2:gG) (d h:la) (w:gm) (hi:w.heap[i]?=some (gz #[gu Y,a1,p1,k1] 135)) (hj:w.heap[j]?=some (gz #[gu X,a2,p2,k2] 135)) (K:zr w a1 d) (N:zr w a2 h) (ad:d.length<=4096) (ae:h.length<=4096):
  Calls prog 318 #[gE i,gE j] w λe w'=>e=ig (.bool (kJ Y X&&(d.length==h.length)&&d.all λx=>h.any λy=>sx x y))/\Kept [] w w':=by
 have U:∀(fn:Fn) (first a0:jA) (w:gm),(Instr.makeFunc fn first a0).run prog w= .ok (.func fn first a0) w:=λ_ _ _ _=>rfl;obtain⟨H,G⟩:∃H,H=w.alloc (gz #[gE j] 65):=⟨_,rfl⟩;have V:Kept [] w H:=by rw[G];exact(Kept.refl _ _).alloc _
 have b1:H.heap[w.heap.size]?=some (gz #[gE j] 65):=by rw[G];exact fP w _
 have⟨c0,c1,l1⟩:=KJ (V.at hi (by simp));have⟨d0,d1,l2⟩:=KJ (V.at hj (by simp));have e0:H.cell? ⟨w.heap.size,0,none⟩=some (gE j):=by rw[fN b1];rfl
 have C:=fM (λW (l:Kept [] H W)=>Ap 346 #[gE w.heap.size] (λa=>!(h.any λy=>sx a y)) a1 d W ((V.trans l).ownsRow K (λ_ _=>by simp)) ad ⟨enters_of func346 (by rfl) rfl,λW2 k a _=>acf w.heap.size j X a2 p2 k2 h a W2 ((l.trans k).at b1 (by simp)) (((V.trans l).trans k).at hj (by simp)) (((V.trans l).trans k).ownsRow N (λ_ _=>by simp)) ae⟩);have Z:=fM (iQ b1);have I:(!(d.any λa=>!(h.any λy=>sx a y)))=d.all λx=>h.any λy=>sx x y:=by
  rw[List.not_any_eq_all_not];simp
 have⟨ao1,cp1,hav1⟩:=gw K;have⟨ao2,cp2,hav2⟩:=gw N;subst hav1 hav2;have HW:=fM G.symm;have J:=fM V;have a6:=fM I;clear hi hj K N G V b1 I;cases hq:kJ Y X with
 |false=>
  have F:(Y.toList==X.toList)=false:=hq;clear hq;go_enter func318,ntmps318;go_wp21;rw[HW.out]
  go_quiet (fail)
  go_wp2;go_ret;exact⟨rfl,J.out.drewN _⟩
 |true=>
  have F:(Y.toList==X.toList)=true:=hq;clear hq;by_cases hl:d.length=h.length
  .have u:((d.length:Int)==(h.length:Int))=true:=by rw[hl];simp
   have a9:=fM (show(d.length==h.length)=true by rw[hl];simp);clear hl;go_enter func318,ntmps318;go_wp21;rw[HW.out];obtain⟨bx,a5⟩:∃bx,bx=w.heap.size:=⟨_,rfl⟩;rw[<-a5]at e0 C Z|-;clear a5;have HC:=fM (λ(W:gm) (l:Kept [] H W)=>(⟨(l.cell (p:=⟨i,0,none⟩) l1 (by simp)).trans c0,(l.cell (p:=⟨i,1,none⟩) l1 (by simp)).trans c1,(l.cell (p:=⟨j,0,none⟩) l2 (by simp)).trans d0,(l.cell (p:=⟨j,1,none⟩) l2 (by simp)).trans d1,(l.cell (p:=⟨bx,0,none⟩) Z.out (by simp)).trans e0⟩:_/\_/\_/\_/\_));have ab:=fM F;have a8:=fM u;have aa:=fM U;clear c0 c1 d0 d1 e0 F u U;refine vR (by rfl) ?_;refine qp (λ(g:Unit) z=>⟨#[gE i,gE j,undef,gE bx,ce z 31 (.bool false) (.bool (!(d.any λa=>!(h.any λy=>sx a y)))),cd z 0 (gE i),cd z 1 (gE i),cd z 2 (gE i),cd z 3 (gu Y),cd z 4 (gE j),cd z 5 (gE j),cd z 6 (gE j),cd z 7 (gu X),cd z 8 (.bool true),cd z 9 (.bool true),cd z 10 (gE i),cd z 11 (gE i),cd z 12 (jG i 1),cd z 13 (.slice ao1 d.length cp1),cd z 14 (fV d.length),cd z 15 (gE j),cd z 16 (gE j),cd z 17 (jG j 1),cd z 18 (.slice ao2 h.length cp2),cd z 19 (fV h.length),cd z 20 (.bool true),cd z 21 (.bool true),cd z 22 (.bool true),cd z 23 (gE i),cd z 24 (gE i),cd z 25 (jG i 1),cd z 26 (.slice ao1 d.length cp1),cd z 27 (.func (.func 346) #[] #[gE bx]),cd z 28 (.bool (d.any λa=>!(h.any λy=>sx a y))),cd z 29 (.bool (!(d.any λa=>!(h.any λy=>sx a y)))),cd z 30 (.bool (!(d.any λa=>!(h.any λy=>sx a y))))],[]⟩) (λg z W=>Kept [] H W) 32 [[],[0],[1],[2],[],[4],[5],[6],[3,7],[8],[9],[9,10],[9,11],[9,12],[9,13],[9],[9,15],[9,16],[9,17],[9,18],[9,14,19],[9,20],[21],[22],[22,23],[22,24],[22,25],[22],[22,26,27],[22,28],[22,29],[30]] (()) rfl rfl ((Kept.refl [] H).drew) ?_ ?_
   .repeat' first|exact nu|refine nr ?_ ?_
    all_goals
     rintro g z W O hc _;simp[Dh]at hc;refine jY rfl ?_;intro K' a3;simp only[lC,hc];have⟨c0,c1,d0,d1,e0⟩:=HC.out W O;have F:=ab.out;have u:=a8.out;have U:=aa.out;have C1:=fM (C.out W O);go_simp
     first
     |refine a3 _ _ ⟨g,?_,O⟩
     |refine C1.out.mono ?_;rintro e W2 ⟨rfl,k⟩;refine a3 _ _ ⟨g,?_,O.trans k⟩
     simp[pn,wx,lC,WR,agt,hc]
   .rintro g W O;simp only[vW,aa2];have a7:=fM O;clear O;rename_i KK a4;refine a4 _ _ ?_;clear a4 KK;go_wp2;go_ret;exact⟨by rw[a9.out,<-a6.out];rfl,J.out.trans a7.out⟩
  .have u:((d.length:Int)==(h.length:Int))=false:=beq_eq_false_iff_ne.2 (by omega);have ac:(d.length==h.length)=false:=beq_eq_false_iff_ne.2 hl;go_enter func318,ntmps318;go_wp21;rw[HW.out]
   go_quiet (fail)
   go_wp2;go_ret;exact⟨by rw[ac];rfl,J.out.drewN _⟩
section
attribute [local go_sem] Oper.semAt_some
attribute [local go_sem] qI
attribute [local simp] qI
def Ab.uF (σ:Ab) (j:Nat) (c:iY×Nat) (i:Nat):iY×Nat:=if σ.Zr i j then (some i,c.2+1)else c
def Bd (σ:Ab) (j:Nat):∀(d:kG) (c:iY×Nat),σ.tm j d c=(AR d).foldl (σ.uF j) c
 |[],_=>rfl
 |none::_,_=>rfl
 |some i::r,c=>by
  show(if σ.Zr i j then σ.tm j r (some i,c.2+1)else σ.tm j r c)=(AR r).foldl (σ.uF j) (σ.uF j c i);unfold Ab.uF;split<;>exact Bd σ j r _
theorem KL (σ:Ab) (j:Nat):∀(d:List Nat) (c:iY×Nat),(d.foldl (σ.uF j) c).2<=c.2+d.length
 |[],c=>by simp
 |x::d,c=>by
  have h:=KL σ j d (σ.uF j c x);grind[Ab.uF]
theorem WN:∀(d:kG),(AR d).length<=d.length
 |[]=>gL _
 |none::_=>iM _
 |some _::r=>by have:=WN r;grind[AR]
def Rel.aje {σ:Ab} (h:Rel E L σ w) {a b : yp} (d:σ.gV i=some a) (k:σ.gV j=some b):
  Calls prog 318 #[gE (L.gI i),gE (L.gI j)] w λe w'=>e=ig (.bool (σ.Zr i j))/\Kept [] w w':=by
 have⟨h1,h2,h3⟩:=h.tX i _ (Ab.jn d);have⟨g1,g2,g3⟩:=h.tX j _ (Ab.jn k);refine(Zi _ _ _ _ _ _ _ _ _ _ _ _ w h1.iw g1.iw h2 g2 h3 g3).mono ?_;rintro e w' ⟨rfl,l⟩;refine⟨?_,l⟩;unfold Ab.Zr;rw[d,k];rfl
def DH {k : Nat} (d:w.heap[D]?=some o) (l:o.isCells=false) (h:w.heap[k]?=some (.cells c t m)):(w.putObj D o').heap[k]?=some (.cells c t m):=
 (sg (λe=>by subst e;rw[d]at h;cases h;cases l)).trans h
def li.afs {nd : AJ} (h:li bs L w i nd) (d:w.heap[D]?=some o) (k:o.isCells=false):li bs L (w.putObj D o') i nd:=by
 cases nd with
 |el e=>exact⟨⟨DH d k h.1.iw,GL h.1.row o' d k,h.1.le,h.1.WJ⟩,GL h.2.1 o' d k,h.2.2⟩
 |tx s=>exact DH d k h
 |cm s=>exact DH d k h
 |dt s=>exact DH d k h
theorem Fr.take (h:Fr bs w W) (d:w.heap.size<=D) (o:Obj):Fr bs w (W.putObj D o):=by
 have⟨S,hk,hS⟩:=h;exact⟨S,hk.grown (BJ W D o) (λk e=>by grind),hS⟩
def Rel.afs {σ:Ab} (h:Rel E L σ w) (d:w.heap[D]?=some o) (k:o.isCells=false) (l:E.w0.heap.size<=D):Rel E L σ (w.putObj D o'):=by
 have⟨C,hb,hC⟩:=h.iw;exact
  {fr:=h.fr.take l o'
   env:=h.env
   Fb:=h.Fb
   tX:=λi x u=>(h.tX i x u).afs d k
   inj:=h.inj,BZ:=h.BZ,Hw:=h.Hw,uq:=h.uq,FX:=h.FX,wf:=h.wf
   iw:=⟨C,DH d k hb,hC⟩
   pR:=GL h.pR o' d k
   qB:=GL h.qB o' d k
   H9:=h.H9,x7:=h.x7,F0:=h.F0
   pI:=GL h.pI o' d k
   M1:=h.M1
   rd:=DH d k h.rd
   Tk:=h.Tk
   tok:=GL h.tok o' d k
   MY:=h.MY,bz:=h.bz,bB:=h.bB,bR:=h.bR,bN:=h.bN,BU:=h.BU,ab:=h.ab,tb:=h.tb,M0:=h.M0}
def Fr.other (h:Fr bs w W) (k:w.heap[D]?=some o) (u:o.isCells=false):W.heap[D]?=some o:=by
 have⟨S,hk,hS⟩:=h;have d:D < w.heap.size:=(Array.getElem?_eq_some_iff.1 k).1;refine(hk.block D d λl=>?_).trans k;have⟨⟨c,t,m,h3,_⟩,_⟩:=hS D l d;rw[k]at h3;cases h3;cases u
def acj {α I:Type} {σ:Ab} {k : Nat} {m:M α} {l:(Nat->Nat)->α->gG} (C:m σ≠ .stuck->Calls prog k A w (kh E f σ.nodes.length w (m σ) l)) (H:At E f0 n0 w0 f σ w) {R:pM I} {K:α->M I} (h:R=(m>>=K) σ) (U:R≠ .stuck)
  (y:∀c p j w',R= .stop c p->km w' j c p->Fr E.bs w0 w'->Fr E.bs w w'->Q (rh j) w')
  (x:∀a d w',At E f0 n0 w0 f d w'->Fr E.bs w w'->R=K a d->Q (ig (l f a)) w'):Calls prog k A w Q:=by
 rw[M.gn]at h;have G:m σ≠ .stuck:=λe=>U (by rw[h,e]);refine(C G).mono ?_;intro e w' u;cases hr:m σ with
 |ok a d=>
  rw[hr]at u h;obtain⟨rfl,N,F,O⟩:=u;exact x a d w' (H.to N O F) F h
 |stop c p=>
  rw[hr]at u h;obtain⟨j,rfl,J,z⟩:=u;exact y c p j w' h J (H.fr.trans z) z
 |stuck=>exact absurd hr G
def Sm {d:Ab} {r : pM Unit} (H:At E f n w f d w2) (k:w2.heap[D]?=some (.deferred (some []))) (h:w.heap.size<=D) (hr:r= .ok () d):kh E f n w r uV (pL) (w2.putObj D (.deferred none)):=by
 subst hr;have⟨L,e,hr⟩:=H.rel;exact⟨rfl,⟨L,e,hr.afs k rfl (jH H.hw h)⟩,H.fr.take h _,H.le⟩
def KP {c p k : Nat} {r : pM Unit} (u:km w2 k c p) (l:Fr E.bs w w2) (h:w2.heap[D]?=some (.deferred (some []))) (d:w.heap.size<=D) (hr:r= .stop c p):kh E f n w r uV (rh k) (w2.putObj D (.deferred none)):=by
 subst hr;exact⟨k,rfl,DH h rfl u,l.take d _⟩
def Yt {σ:Ab} (h:Rel E L σ w) (x:iY) (F:σ.gR x=true):
  Calls prog 178 #[jG E.bB 189,oV L.gI x] w λe w'=>e=pL/\RF E L.gI {σ with act:=σ.act.erase x} w'/\Fr E.bs w w'/\Kept (E.bB::L.cv.ownBlock.toList) w w':=by
 have⟨C,hL,hC⟩:=h.II;refine(Bb E.bs E.bB 189 _ C _ _ (ir L.gI x) w hL h.elA (h.gR F)).mono ?_;rintro e w' ⟨rfl,d⟩;have⟨_,_,hk,_⟩:=id d;obtain⟨k,l,u,z⟩:=h.Bv hL hC (by rw[<-wV h.inj];exact d) λy G=>h.wf.act y (Qw G);exact⟨rfl,⟨k,l,u⟩,z,hk⟩
theorem aiS {σ:Ab} (h:RF E f σ w) (j:Nat) (an:σ.gV j=some ej) (hs:Jv j σ≠ .stuck):Calls prog 275 #[Bp E,nV f j] w (kh E f σ.nodes.length w (Jv j σ) uV):=by
 have H:=At.start h;obtain⟨L,rfl,hr⟩:=h;refine(BI (n:=9)).1 ?_;refine BK func275 rfl trivial ?_ rfl;simp only[ntmps275,xQ,rn,uI,Nat.reduceAdd,Nat.reduceSub,xR,xS,xU,xV,rp,tU];obtain⟨X,N⟩:∃X,X=((w.alloc (gz #[nV L.gI j] 65)).alloc (gz #[.pointer none] 65)).alloc (gz #[fV 0] 3):=⟨_,rfl⟩;have a5:Kept [] w X:=by rw[N];exact(((Kept.refl _ _).alloc _).alloc _).alloc _
 have⟨B0,B1,B2⟩:=oS w (gz #[nV L.gI j] 65) (gz #[.pointer none] 65) (gz #[fV 0] 3);rw[<-N]at B0 B1 B2;have u:X.heap.size=w.heap.size+1+1+1:=by rw[N];simp
 have ad:=hr.ib a5;have aw:=hr.lt;have av:=hr.F0;have HB:=JB E.bB X;have ac:=(λ(W:gm) (Z:Kept [] w W) (i:Nat) (e:yp) (hi:σ.gV i=some e)=>(hr.ib Z).aje hi an);have af:=(λ(W:gm) (Z:Kept [] w W)=>hr.ib Z);have HA:=(λ(i:Nat) (hi:some i∈σ.act)=>hr.wf.act (some i) hi);have HO:=(λg (hg:L.cv.ownBlock=some g)=>(hr.qB.lt g hg).2);have HZ:=fM u;have HW:=fM N;have HS:=hs;clear u N
 gi_wp2_with fail
 rw[<-HW.out];refine(callsIn_wide.2 HB).mono ?_;rintro e w' ⟨rfl,rfl⟩;gi_wp2;refine X7 (by omega) ad rfl [w.heap.size+1,w.heap.size+1+1] ?_
  (λpre W=>Kept [] w W/\W.heap[w.heap.size]?=some (gz #[nV L.gI j] 65)/\W.heap[w.heap.size+1]?=some (gz #[oV L.gI (pre.foldl (σ.uF j) (none,0)).1] 65)/\W.heap[w.heap.size+1+1]?=some (gz #[fV ((pre.foldl (σ.uF j) (none,0)).2)] 3))
  (λ_ _ _=>False)
  ?_ ?_ ?_ (λx=>{tmps:=#[Bp E,nV L.gI j,undef,gE w.heap.size,gE (w.heap.size+1),gE (w.heap.size+1+1),ku (some x),Bp E,Na X.heap.size,ku (some x),undef,undef,undef,undef,undef,undef,undef,undef,undef,undef,undef,undef,undef,undef,undef,undef],defers:=[]}) ?assign ?body ?done ?stop
 .grind
 .rintro pre A B row ⟨h1,U,I,Y⟩ hg hr;have u:=HZ.out;exact⟨mx h1 hg hr (by omega),kQ U hg hr (by omega),kQ I hg hr (by omega),kQ Y hg hr (by omega)⟩
 .rintro c pre A B row h _ _;exact h
 .have Z:Kept [] X (X.alloc (gz #[Bp E] 116)):=(Kept.refl _ _).alloc _;exact⟨a5.trans Z,Z.at B0 (by simp),Z.at B1 (by simp),Z.at B2 (by simp)⟩
 case assign=>
  intro l x W K hK;gi_wp2;exact hK
 case body=>
  rintro l pre i W hi ⟨HK,B3,B4,B5⟩ aq;have au:(pre.foldl (σ.uF j) (none,0)).2<=4096:=by have:=KL σ j pre (none,0);simp at this;omega
  have V:=HA i hi;obtain⟨e0,al⟩:∃e0,σ.gV i=some e0:=Option.isSome_iff_exists.1 V;have C:=ac W HK i e0 al;have c1:=fN B3 0;dsimp at c1;have O:=fM (show(pre++[i]).foldl (σ.uF j) (none,0)=σ.uF j (pre.foldl (σ.uF j) (none,0)) i by simp);rw[show ku (some (L.gI i))=gE (L.gI i)from rfl];generalize pre.foldl (σ.uF j) (none,0)=c at *
  gi_wp2_with fail
  refine(LO l (callsIn_wide.2 C)).mono ?_;rintro e W3 ⟨rfl,J⟩;have G3:=J.at B3 (by simp);have G4:=J.at B4 (by simp);have G5:=J.at B5 (by simp);have d4:=fN G4 0;have d5:=fN G5 0;have f4:=gh G4 0;have f5:=gh G5 0;dsimp at d4 d5;have a6:=HK.trans J;have a7:=J.mono (S':=[w.heap.size+1,w.heap.size+1+1]) (by simp);cases hq:σ.Zr i j with
  |true=>
   have HQ:=fM (show σ.uF j c i=(some i,c.2+1) by unfold Ab.uF;rw[hq];rfl);gi_wp2;have k6:Kept [w.heap.size+1,w.heap.size+1+1] W3 ((W3.setCell ⟨w.heap.size+1,0,none⟩ (gE (L.gI i))).setCell ⟨w.heap.size+1+1,0,none⟩ (fV ((c.2:Int)+1))):=((Kept.refl _ W3).setCell (.inl (by simp)) _).setCell (.inl (by simp)) _;refine⟨a7.trans k6,((a6.setCell (.inr (by simp)) _).setCell (.inr (by simp;omega)) _),k6.at G3 (by simp;omega),?_,?_⟩
   .rw[O.out,HQ.out];exact(Below.heap_setCell _ _ _ _ (by simp)).trans (fR G4 0 _)
   .rw[O.out,HQ.out];exact fR ((Below.heap_setCell _ _ _ _ (by simp)).trans G5) 0 _
  |false=>
   have HQ:=fM (show σ.uF j c i=c by unfold Ab.uF;rw[hq];rfl);gi_wp2;exact⟨a7,a6,G3,by rw[O.out,HQ.out];exact G4,by rw[O.out,HQ.out];exact G5⟩
 case done=>
  rintro D W HD ⟨a8,a4,I,Y⟩ y;rw[<-Bd]at I Y;have ay:(σ.tm j σ.act.reverse (none,0)).2<=4096:=by
   rw[Bd];have a1:=KL σ j (AR σ.act.reverse) (none,0);have a2:=WN σ.act.reverse;simp at a1 a2;omega
  obtain⟨R,z⟩:∃R,R=Jv j σ:=⟨_,rfl⟩;have hs:=HS;rw[<-z]at hs;have F:R=if 3<=(σ.tm j σ.act.reverse (none,0)).2 then (kM (σ.tm j σ.act.reverse (none,0)).1>>=λ_=>(kA (some j)>>=λ_=>(Pure.pure ():M Unit))) σ else (kA (some j)>>=λ_=>(Pure.pure ():M Unit)) σ:=z
  generalize σ.tm j σ.act.reverse (none,0)=c at *;have c1:=fN a4 0;have c2:=fN I 0;have c3:=fN Y 0;dsimp at c1 c2 c3;replace H:=H.k0 a8;replace HS:=hs;by_cases I:3<=c.2
  .rw[gv I]at F;have HR:=fM F;clear F;have V:σ.gR c.1=true:=by
    cases hq:σ.gR c.1 with
    |true=>rfl
    |false=>
     refine absurd ?_ HS;rw[HR.out,M.gn];unfold kM;rw[hq];rfl
   have ae:Hid (R=(kA (some j)>>=λ_=>(Pure.pure ():M Unit)) {σ with act:=σ.act.erase c.1}):=by
    refine fM ?_;rw[HR.out,M.gn];unfold kM;rw[V];rfl
   have a9:=Yt (af _ a8.drew) c.1 V;have ax:=H.lt
   gi_wp2_with fail
   refine wpIn_wide.2 ?_;rename_i K ak _;refine wp_mono (Q:=Exit.then (λa W'=>∃d e b,a={tmps:=#[Bp E,nV L.gI j,undef,gE w.heap.size,gE (w.heap.size+1),gE (w.heap.size+1+1),undef,Bp E,Na X.heap.size,undef,undef,undef,undef,undef,undef,undef,fV c.2,b,Bp E,d,jG E.bB 189,oV L.gI c.1,e,undef,undef,undef],defers:=[{target:=Target.collected D,args:=#[]}]}/\At E L.gI σ.nodes.length w L.gI {σ with act:=σ.act.erase c.1} W'/\Fr E.bs W W'/\Kept (E.bB::L.cv.ownBlock.toList) W W') (λ_ _ _=>False)) ?_ ?_
   .go_region_with (go_at_call 178;refine a9.mono ?_;rintro e w5 ⟨rfl,q2,q3,q4⟩;have ag:=fM ((H.k0 ((Kept.refl _ W).drew)).to q2 (tk _ _ rfl) q3);have aa:=fM q3;have ab:=fM (((Kept.refl _ W).drew).trans q4);clear q2 q3 q4)
    all_goals exact⟨_,_,_,rfl,ag.out,(Fr.gN ((Kept.refl _ W).drew)).trans aa.out,ab.out⟩
   .intro e a W' hq;cases e with
    |normal=>
     obtain⟨d,e,b,rfl,ah,ai,aj⟩:=hq;have b2:W'.heap[w.heap.size]?=some (gz #[nV L.gI j] 65):=by
      refine aj.at a4 λhm=>?_;rcases List.mem_cons.1 hm with hm|hm
      .omega
      .grind
     have c1:=fN b2 0;dsimp at c1;have k:=Fr.other (o:= .deferred (some [])) ai y rfl;replace H:=ah;replace y:=k;replace HR:=ae;refine ak _ _ ?_
     gi_wp2_with fail
     refine callsIn_wide.2 ?_;refine acj (λhs=>Dg E (some j) _ _ _ H.rel hs) H HR.out HS ?_ ?_
     .intro c p q ws h1 U I Y;have k:=Fr.other (o:= .deferred (some [])) Y y rfl;refine⟨by simp,.inl ⟨_,_,rfl,sL k,?_⟩⟩;have u:=HZ.out;have hD:=HD;exact KP U I k (by omega) (z.symm.trans h1)
     .rintro a ap w2 a0 U a3;have k:=Fr.other (o:= .deferred (some [])) U y rfl;have G:=k;gi_wp2;refine⟨by simp,.inl ⟨_,_,rfl,sL G,?_⟩⟩;have u:=HZ.out;have hD:=HD;refine⟨.tuple #[],?_,Sm a0 G (by omega) (z.symm.trans a3)⟩;simp[results,results275,go_sem]
    |_=>exact hq.elim
  .rw[gH I]at F;have HR:=fM F;clear F
   gi_wp2_with fail
   refine callsIn_wide.2 ?_;refine acj (λhs=>Dg E (some j) _ _ _ H.rel hs) H HR.out HS ?_ ?_
   .intro c p q ws h1 U I Y;have k:=Fr.other (o:= .deferred (some [])) Y y rfl;refine⟨by simp,.inl ⟨_,_,rfl,sL k,?_⟩⟩;have u:=HZ.out;have hD:=HD;exact KP U I k (by omega) (z.symm.trans h1)
   .rintro a ap w2 a0 U a3;have k:=Fr.other (o:= .deferred (some [])) U y rfl;have G:=k;gi_wp2;refine⟨by simp,.inl ⟨_,_,rfl,sL G,?_⟩⟩;have u:=HZ.out;have hD:=HD;refine⟨.tuple #[],?_,Sm a0 G (by omega) (z.symm.trans a3)⟩;simp[results,results275,go_sem]
 case stop=>rintro D c pre W hD ar h;exact h.elim
end
def EN (σ:Ab) (x:iY) (d:Nat):∀h:kG,({σ with form:=x}:Ab).oJ d h=σ.oJ d h
 |[]=>rfl
 |y::r=>by
  unfold Ab.oJ;rw[EN σ x d r];rfl
def MR (E:Env) (t:gy) (N:jd E t):iZ E 190 (λ_=>#[Bp E,iy E t]) (nW t) uV:=by
 refine dI λf x w R k HS H=>?_;unfold nW at k;go_enter func190,ntmps190;have⟨kb,lbb,cb,HQ⟩:=H.rel.bounds;have F:=H.lt;have z:=cb;have J:=(Kept.refl [] w).drew;go_wp21
 go_cut [11]from 4 to 10 (λr wc=>r= .bool (x.inScope (gZ [gU]) (iJ))/\At E f x.nodes.length w f (x.close (gZ [gU]) (iJ)) wc)
 case first=>
  go_region_with (first
   |(go_at_call 216;refine(nH E [gU] w.drew (by simp)).mono ?_;rintro e U ⟨Z,O,rfl,l,u⟩;have h:=J.trans u;have Y:U.cell? ⟨E.bB,186,none⟩=some (.func (.func kb) #[] lbb):=(h.cell (p:=⟨E.bB,186,none⟩) F (by simp)).trans z;have y:=fM l;have d:=fM h;clear l u h)
   |(go_at_call 219;refine(Em (p:=gZ [gU]) (q:=iJ) (H.k0 d).rel y (HQ.k0 d)).mono ?_;rintro e w2 ⟨rfl,G,I⟩;have K:=fM ((H.k0 d).to G (yP _ _ _) I);clear G I))
  all_goals (try (go_wp21))
  all_goals (go_meet;exact⟨rfl,K⟩)
 case rest=>
  obtain⟨rfl,C⟩:=hcut;replace H:=C;replace k:Hid (R=(lr t>>=λ_=>(pure ():M Unit)) (x.close (gZ [gU]) iJ)):=by
   have:=k;rw[M.gn,uM]at this;exact fM this
  go_wp21;refine dC (rT E (iF E) t N) H k HS rfl lT ?_;rintro(_) f x w H X V k;go_wp2;go_end0;exact ga k H rfl
def Rt (E:Env) (t:gy):iZ E 209 (λ_=>#[Bp E,iy E t]) (qv) uV:=by
 refine dI λf k w R d HS H=>?_;unfold qv at d;go_enter func209,ntmps209;have⟨kb,lbb,cb,HQ⟩:=H.rel.bounds;have F:=H.lt;have x:=cb;have I:=(Kept.refl [] w).drew;go_wp21
 go_cut [11]from 4 to 10 (λr wc=>r= .bool (k.inScope (gZ [gP]) (iJ))/\At E f k.nodes.length w f (k.close (gZ [gP]) (iJ)) wc)
 case first=>
  go_region_with (first
   |(go_at_call 216;refine(nH E [gP] w.drew (by simp)).mono ?_;rintro e U ⟨Y,O,rfl,y,C⟩;have u:=I.trans C;have X:U.cell? ⟨E.bB,186,none⟩=some (.func (.func kb) #[] lbb):=(u.cell (p:=⟨E.bB,186,none⟩) F (by simp)).trans x;have G:=fM y;have l:=fM u;clear y C u)
   |(go_at_call 219;refine(Em (p:=gZ [gP]) (q:=iJ) (H.k0 l.out).rel G.out (HQ.k0 l.out)).mono ?_;rintro e w2 ⟨rfl,J,K⟩;have N:=fM ((H.k0 l.out).to J (yP _ _ _) K);clear J K))
  all_goals (try (go_wp21))
  all_goals (go_meet;exact⟨rfl,N.out⟩)
 case rest=>
  obtain⟨rfl,z⟩:=hcut;replace H:=z;clear z HQ x I cb F;have h:=d.out;rw[M.gn,uM]at h;simp only at h;cases hc:k.inScope (gZ [gP]) iJ with
  |true=>
   rw[hc]at h;replace d:Hid (R=(xM>>=λa=>(pure a:M Unit)) (k.close (gZ [gP]) iJ)):=fM (M.tail (by simpa using h));clear hc h;go_wp21;refine mC (TS E) H d HS rfl lT ?_;clear H d;rintro(_) k w H V d;go_wp2;go_end0;exact ga d.out H rfl
  |false=>
   rw[hc]at h;replace d:Hid (R= .ok () (k.close (gZ [gP]) iJ)):=fM (show R=(pure ():M Unit) (k.close (gZ [gP]) iJ)from by simpa using h);clear hc h;go_wp2;go_end0;exact ga d.out H rfl
def Y1 (E:Env) (t:gy):iZ E 207 (λ_=>#[Bp E,iy E t]) wI uV:=by
 refine dI λf h w R d HS H=>?_;unfold wI at d;go_enter func207,ntmps207;have u:=H.Uw;have I:=H.free 191;have J:=H.lt;cases hf:h.form with
 |none=>
  rw[hf]at u d;replace d:Hid (R= .ok () h):=d;rw[show oV f none= .pointer none from rfl]at u;have z:=H.vN none rfl;rw[show({h with form:=none}:Ab)=h from by rw[<-hf]]at z;replace H:=z;go_wp2;go_end0;exact ga d H rfl
 |some i=>
  have F:=H.rel.ahC;rw[hf]at u d F;rw[show oV f (some i)=gE (f i)from rfl]at u;replace H:=H.vN none rfl;have C:=Hs H.rel i F;have l:({h with form:=none}:Ab).pz i=h.pz i:=EN h none i _;rw[l]at C;cases hc:h.pz i with
  |true=>
   rw[hc]at C;have x:=fM C;have k:=d;simp only[hc,vo]at k;replace d:Hid (R=(wU (λh=>h.me)>>=λ_=>(do kq (some i);return ():M Unit)) {h with form:=none}):=fM k;clear C k;go_wp21;refine x.mono ?_;rintro e w ⟨rfl,y⟩;replace H:=H.k0 y;go_wp21;refine Bf (λ_=>Mw H.rel) H d HS lT ?_;rintro(_) h w H G d;go_wp21;refine mC (Fg E (some i)) H d HS rfl lT ?_;rintro(_) h w H G d;go_wp2;go_end0;exact ga d H rfl
  |false=>
   rw[hc]at C;have x:=fM C;have k:=d;simp only[hc,ru,rj]at k;replace d:Hid (R= .ok () {h with form:=none}):=fM k;clear C k;go_wp21;refine x.mono ?_;rintro e w ⟨rfl,y⟩;replace H:=H.k0 y;go_wp2;go_end0;exact ga d H rfl
attribute [local go_sem] Oper.semAt_some
def RF.wf {σ:Ab} (h:RF E f σ w):Wf σ:=by have⟨L,_,hr⟩:=h;exact hr.wf
theorem pu {xs : kG} {n : Int} (h:io xs n=some i):some i∈xs:=by
 unfold io at h;grind
def Wf.KG {σ:Ab} (h:Wf σ) (d:σ.last=some i):∃e,σ.gV i=some e:=by
 have k:some i∈σ.gq:=pu d;exact Option.isSome_iff_exists.1 (h.gq _ k)
theorem Zo {h:Type} {σ:Ab} {R:pM h} {K:Nat->M h} (d:R=(EX>>=K) σ) (k:R≠ .stuck):∃i,σ.last=some i/\R=K i σ:=by
 rw[M.gn]at d;unfold EX at d;grind
def oQ (E:Env) (t:gy) (y:jd E t):iZ E 197 (λ_=>#[Bp E,iy E t]) (iP t) uV:=by
 refine dI λf h w R d HS H=>?_;unfold iP at d;go_enter func197,ntmps197;go_wp21;refine dC (rT E (iF E) t y) H d HS rfl lT ?_;rintro(_) f h w H z u d;have C:=H.lt;have⟨i,hi,hR2⟩:=Zo d HS;have⟨e,he⟩:=H.rel.wf.KG hi;have l:=H.rel.Si;replace d:=fM hR2;clear hR2;go_wp21;refine l.mono ?_;rintro e k ⟨rfl,rfl⟩;rw[hi];go_wp21;refine Bf (λx=>(show Calls prog 275 #[Bp E,nV f i] k (kh E f h.nodes.length k (Jv i h) uV)from aiS H.rel i he x)) H d HS lT ?_;rintro(_) h w H u d;go_wp2;go_end0;exact ga d H rfl
attribute [local go_sem] Oper.semAt_some
def RF.aig {σ:Ab} (h:RF E f σ w) (x:iY) (d:σ.gR x=true):Calls prog 237 #[jG E.bB 188,oV f x] w λe w'=>e=ig (oV f (io σ.gq (posOf σ.gq x - 1)))/\w'=w:=by
 obtain⟨L,rfl,hr⟩:=h;exact zQ hr x d
theorem AC (E:Env) (t:gy):iZ E 142 (λ_=>#[Bp E,iy E t]) iT uV:=by
 intro f l w h hs;obtain⟨R,hR⟩:∃R,R=iT l:=⟨_,rfl⟩;rw[<-hR]at hs|-;have HS:=fM hs;have G:=fM h;have a0:=fM (λW (hk:Kept [] w W)=>lU h.lt hk.size);cases hcu:l.current (gZ [gF])with
 |false=>
  have x:=fM (show R=(pZ (gZ [fU])>>=λ_=>(Pure.pure ():M Unit)) l by rw[hR];grind[iT]);have V:=fM hcu;clear h hs hR hcu;go_enter func142,ntmps142;go_wp21;refine vR (by rfl) ?_;refine qp (λ(g:gG) z=>⟨#[Bp E,iy E t,undef,undef,cd z 0 (Bp E),cd z 1 (g),cd z 2 (.bool false),cd z 3 (.bool false),undef,undef,undef,undef,undef,undef,undef,undef,undef,undef,undef,undef,undef,cd z 17 (.bool false),undef,undef,undef,undef,undef,undef,undef],[]⟩) (λg z W=>Kept [] w W/\(dn z 1=true->QF E g (gZ [gF]) W)) 18 [[],[],[0,1],[2],[3],[3],[3],[3],[3],[3],[3],[3],[3],[3],[3],[3],[3],[3]] (undef) rfl (by rfl) (⟨(Kept.refl _ _).drew,λh=>by cases h⟩) ?_ ?_
  .repeat' first|exact nu|refine nr ?_ ?_
   all_goals
    rintro g z W d J hn;simp[Dh]at J;refine jY rfl ?_;intro K' u;simp only[lC,J];have a8:=a0.out W d.1;go_simp
    first
    |refine u _ _ ⟨g,?_,d.1,qC d.2 (by decide)⟩
    |refine(uX E W).mono ?_;rintro e X ⟨k,U,rfl,O,F⟩;refine u _ _ ⟨_,?_,d.1.trans F,λ_=>⟨k,U,rfl,O⟩⟩
    |refine(BR (G.out.ib d.1) (d.2 J.2.1).choose_spec.choose_spec.2).mono ?_;rintro e X ⟨rfl,rfl⟩;rw[V.out];refine u _ _ ⟨g,?_,d.1,qC d.2 (by decide)⟩
    simp[pn,wx,lC,J]
  .rintro g W d;simp only[vW];have H:=fM ((At.start G.out).k0 d.1);clear d;go_wp21;refine(rM E _).mono ?_;rintro e w1 ⟨k1,a3,rfl,y,C⟩;replace H:=fM (H.out.k0 C);have I:=fM y;clear y C;go_wp21;refine Bf (λ_=>wR H.out.rel I.out) H x HS lT ?_;clear H x;rintro(_) l w H HF x;go_wp2;go_end0;exact ga x.out H.out rfl
 |true=>
  obtain⟨i,Z⟩:∃i,io l.gq (posOf l.gq l.last - 1)=some i:=by
   cases hq:io l.gq (posOf l.gq l.last - 1)with
   |some i=>simp
   |none=>unfold iT at hR;grind
  have a1:=fM (show R=(if kJ (l.nm i) fU then (do
    let _ <-x8
    pZ (gZ [fU])
    return ():M Unit) l else (do pZ (gZ [fU]);return ():M Unit) l) by rw[hR];grind[iT])
  have a2:some i∈l.gq:=pu Z;obtain⟨ei,Y⟩:∃e,l.gV i=some e:=Option.isSome_iff_exists.1 (h.wf.gq _ a2);have K:l.gR l.last=true:=by
   cases hl:l.last with
   |none=>rfl
   |some j=>exact Ab.wO (h.wf.gq _ (pu hl))
  have a5:=fM K;have a4:=fM Z;have a7:=fM (λW (hk:Kept [] w W)=>(by
   have⟨L,e,hr⟩:=h.ib hk;rw[<-e];exact hr.we Y:W.cell? ⟨f i,0,none⟩=some (gu (l.nm i))))
  have a6:=fM (λW (hk:Kept [] w W)=>(by
   have⟨L,e,hr⟩:=h.ib hk;rw[<-e];exact hr.JA (Ab.gW Y):f i < W.heap.size))
  have V:=fM hcu;clear h hs hR hcu Z a2 Y K;go_enter func142,ntmps142;go_wp21;refine vR (by rfl) ?_;refine qp (λ(g:gG×gG) z=>⟨#[Bp E,iy E t,undef,undef,cd z 0 (Bp E),cd z 1 (g.1),cd z 2 (.bool true),cd z 3 (.bool true),cd z 4 (g.2),cd z 5 (Bp E),cd z 6 (gE E.bB),cd z 7 (jG E.bB 188),cd z 8 (Bp E),cd z 9 (gE E.bB),cd z 10 (jG E.bB 188),cd z 11 (oV f l.last),cd z 12 (nV f i),cd z 13 (gE (f i)),cd z 14 (gE (f i)),cd z 15 (gu (l.nm i)),cd z 16 (.bool (gZ [fU] (l.nm i))),cd z 17 (.bool (gZ [fU] (l.nm i))),undef,undef,undef,undef,undef,undef,undef],[]⟩) (λg z W=>Kept [] w W/\(dn z 1=true->QF E g.1 (gZ [gF]) W)/\(dn z 4=true->QF E g.2 (gZ [fU]) W)) 18 [[],[],[0,1],[2],[3],[3],[3,5],[3,6],[3],[3,8],[3,9],[3,10],[3,7,11],[3,12],[3,13],[3,14],[3,4,15],[3,16]] ((undef,undef)) rfl (by rfl) (⟨(Kept.refl _ _).drew,λh=>(by cases h),λh=>(by cases h)⟩) ?_ ?_
  .repeat' first|exact nu|refine nr ?_ ?_
   all_goals
    rintro g z W d J hn;simp[Dh]at J;refine jY rfl ?_;intro K' u;simp only[lC,J];have a8:=a0.out W d.1;have a9:=a6.out W d.1;have cc:=a7.out W d.1;go_simp
    first
    |refine u _ _ ⟨g,?_,d.1,qC d.2.1 (by decide),qC d.2.2 (by decide)⟩
    |refine(uX E W).mono ?_;rintro e X ⟨k,U,rfl,O,F⟩;refine u _ _ ⟨(.func (.func k) #[] U,g.2),?_,d.1.trans F,λ_=>⟨k,U,rfl,O⟩,qC (λh=>(d.2.2 h).k F) (by decide)⟩
    |refine(rM E W).mono ?_;rintro e X ⟨k,U,rfl,O,F⟩;refine u _ _ ⟨(g.1,.func (.func k) #[] U),?_,d.1.trans F,qC (λh=>(d.2.1 h).k F) (by decide),λ_=>⟨k,U,rfl,O⟩⟩
    |refine(BR (G.out.ib d.1) (d.2.1 J.2.1).choose_spec.choose_spec.2).mono ?_;rintro e X ⟨rfl,rfl⟩;rw[V.out];refine u _ _ ⟨g,?_,d.1,qC d.2.1 (by decide),qC d.2.2 (by decide)⟩
    |refine(G.out.ib d.1).Si.mono ?_;rintro e X ⟨rfl,rfl⟩;refine u _ _ ⟨g,?_,d.1,qC d.2.1 (by decide),qC d.2.2 (by decide)⟩
    |refine((G.out.ib d.1).aig l.last a5.out).mono ?_;rintro e X ⟨rfl,rfl⟩;rw[a4.out,show oV f (some i)=nV f i from rfl];refine u _ _ ⟨g,?_,d.1,qC d.2.1 (by decide),qC d.2.2 (by decide)⟩
    |have⟨k,U,e4,O⟩:=d.2.2 (by simp[J]);rw[e4]at O;have⟨k2,lb2,e5,eg,hcl⟩:=O.call;cases e5;simp only[e4];go_simp;refine(hcl W (xk.refl _ _) _).mono ?_;rintro e X ⟨rfl,rfl⟩;refine u _ _ ⟨g,?_,d.1,qC d.2.1 (by decide),qC d.2.2 (by decide)⟩;simp[wx,pn,lC,J,e4]
    all_goals simp[pn,wx,lC,J]
  .rintro g W d;simp only[vW];have H:=fM ((At.start G.out).k0 d.1);clear d;cases hq:gZ [fU] (l.nm i)with
   |false=>
    have N:kJ (l.nm i) fU=false:=by simpa [gZ]using hq
    replace x:=fM (show R=(pZ (gZ [fU])>>=λ_=>(Pure.pure ():M Unit)) l by rw[a1.out,N];rfl);clear hq N;go_wp21;refine(rM E _).mono ?_;rintro e w1 ⟨k1,a3,rfl,y,C⟩;replace H:=fM (H.out.k0 C);have I:=fM y;clear y C;go_wp21;refine Bf (λ_=>wR H.out.rel I.out) H x HS lT ?_;clear H x;rintro(_) l w H HF x;go_wp2;go_end0;exact ga x.out H.out rfl
   |true=>
    have N:kJ (l.nm i) fU=true:=by simpa [gZ]using hq
    replace x:=fM (show R=(x8>>=λ_=>pZ (gZ [fU])>>=λ_=>(Pure.pure ():M Unit)) l by rw[a1.out,N];rfl);clear hq N;have aa:=H.out.lt;go_wp21;refine mC (acE E) H x HS rfl lT ?_;clear H x;rintro(_) l w H HF x;go_wp21;refine(rM E _).mono ?_;rintro e w1 ⟨k1,a3,rfl,y,C⟩;replace H:=fM (H.out.k0 C);have I:=fM y;clear y C;go_wp21;refine Bf (λ_=>wR H.out.rel I.out) H x HS lT ?_;clear H x;rintro(_) l w H HF x;go_wp2;go_end0;exact ga x.out H.out rfl
attribute [local go_sem] Oper.semAt_some
theorem IR (E:Env) (t:gy):iZ E 91 (λ_=>#[Bp E,iy E t]) (mN t) uV:=by
 intro f l w h hs;have U:=fM (At.start h);have⟨a,b,k,gx⟩:=t;cases k with
 |iE n q=>
  have hx:∃F C,jr 0 l= .ok F l/\o0 F (.dt n) .dt l= .ok () C/\mN ⟨a,b,.iE n q,gx⟩ l= .ok () {C with jJ:=q||!kJ n fO,mode:=1}:=by
   have e0:mN ⟨a,b,.iE n q,gx⟩ l=(jr 0>>=λF=>o0 F (.dt n) .dt>>=λ_=>(do wU λl=>{l with jJ:=q||!kJ n fO};jF 1;return ():M Unit)) l:=rfl;rw[M.gn]at e0;cases hq:jr 0 l with
   |ok F σ1=>
    obtain rfl:=pX hq;rw[hq]at e0;cases d:o0 F (.dt n) .dt σ1 with
    |ok u C=>exact⟨F,C,rfl,d,by rw[e0];dsimp only;rw[M.gn,d];rfl⟩
    |stop c p=>
     exfalso;unfold o0 ym at d;grind
    |stuck=>exact absurd (by rw[e0];dsimp only;rw[M.gn,d]) hs
   |stop c p=>
    exfalso;unfold jr at hq;grind
   |stuck=>grind
  have⟨F,C,hq1,d,hq3⟩:=hx;obtain⟨R,hR⟩:∃R,R=mN ⟨a,b,.iE n q,gx⟩ l:=⟨_,rfl⟩;rw[<-hR];have x:=fM (hR.trans hq3);have N:=λW (hW:RF E f l W)=>Hf E 0 f l W hW (by grind);rw[hq1]at N;simp only[iy];have y:=ri underlying195;obtain⟨J,I⟩:∃J,J=w.alloc (gz #[fV a,fV b,gu n,.bool q] 195):=⟨_,rfl⟩;have k1:Kept [] w J:=by rw[I];exact(Kept.refl _ _).alloc _
  have K:J.heap[w.heap.size]?=some (gz #[fV a,fV b,gu n,.bool q] 195):=by rw[I];exact fP w _
  have a1:=fM K;have HC:=fM (λW (hF:Fr E.bs J W)=>(by rw[fN (hF.Ar K (by decide))];rfl:W.cell? ⟨w.heap.size,2,none⟩=some (gu n)));have V:=fM (λW (hW:RF E f l W)=>(show W.cell? ⟨E.bB,187,none⟩=some (nV f 0) by have h1:=(At.start hW).yr;exact h1));have a2:=fM (λW (hF:Fr E.bs J W)=>(lU (U.out.k0 k1).lt hF.size:E.bB < W.heap.size));have HW:=fM I.symm;have HA:=fM (U.out.k0 k1);have a3:=fM N;have a4:=fM d;clear h hs hq1 d hq3 N K k1 I U hR;go_enter func91,ntmps91;go_wp21;rw[HW.out];refine vR (by rfl) ?_;refine qp (λ(g:gG) z=>⟨#[Bp E,.iface 195 (.agg #[fV a,fV b,gu n,.bool q]),undef,undef,gE w.heap.size,.bool true,.tuple #[.agg #[fV a,fV b,gu n,.bool q],.bool true],.iface 195 (.agg #[fV a,fV b,gu n,.bool q]),.tuple #[.agg #[fV a,fV b,gu n,.bool q],.bool true],.agg #[fV a,fV b,gu n,.bool q],.bool true,.bool true,cd z 0 (Bp E),cd z 1 (gE E.bB),cd z 2 (jG E.bB 187),cd z 3 (nV f 0),cd z 4 (pV f F),cd z 5 (jG w.heap.size 2),cd z 6 (gu n),cd z 7 (.agg #[gu n]),cd z 8 (g),cd z 9 (.iface 235 g),cd z 10 (.tuple #[]),undef,undef,undef,undef,undef,undef,undef,undef,undef,undef,undef,undef,undef],[]⟩) (λg z W=>if dn z 10=true then (∃f',Uh l.nodes.length f f'/\l.nodes.length<=C.nodes.length/\RF E f' C W/\Fr E.bs J W)else (RF E f l W/\Fr E.bs J W/\(dn z 8=true->CmK E f l 237 n g W))) 11 [[],[0],[1],[2],[3],[],[5],[6],[7],[8],[0,1,2,3,4,5,6,7,8,9]] (undef) rfl rfl (⟨HA.out.rel.ib (Kept.refl _ _).drew,Fr.gN (Kept.refl _ _).drew,λh=>by cases h⟩) ?_ ?_
  .repeat' first|exact nu|refine nr ?_ ?_
   all_goals
    rintro g z W hI O hn;simp[Dh]at O;refine jY rfl ?_;intro K' G;simp only[lC,O];have hb:dn z 10=false:=by simp[O,hn]
    have q:=(gH (by simp[hb])).mp hI;have a7:=a2.out W q.2.1;have cc:=V.out W q.1;have c2:=HC.out W q.2.1;go_simp
    first
    |refine G _ _ ⟨g,?_,(gH (by simp[pr,hb])).mpr ⟨q.1,q.2.1,qC q.2.2 (by decide)⟩⟩
    |refine(a3.out W q.1).mono ?_;rintro e W2 ⟨rfl,a6,a0,_⟩;refine G _ _ ⟨g,?_,(gH (by simp[pr,hb])).mpr ⟨a6,q.2.1.trans a0,qC (λh=>(q.2.2 h).frD a0) (by decide)⟩⟩
    |have ka:Kept [] W (W.alloc (gz #[gu n] 237)):=(Kept.refl _ _).alloc _;refine G _ _ ⟨_,?_,(gH (by simp[pr,hb])).mpr ⟨q.1.ib ka,q.2.1.trans (.gN ka),λ_=>CmK.new q.1 n⟩⟩;have h9:dn z 9=false:=(by simp[hn]);simp[pn,wx,lC,ags,O,h9]
    |obtain⟨k,rfl,k1,k2,k3⟩:=q.2.2 (by simp[O]);refine(XF E q.1 n false k k1 k2 k3 F a4.out).mono ?_;rintro e W2 ⟨rfl,f',g1,g2,g3,Z⟩;refine G _ _ ⟨gE k,?_,(gv sM).mpr ⟨f',g1,g2,g3,q.2.1.trans Z⟩⟩
    all_goals simp[pn,wx,lC,O]
  .rintro g W hI;have⟨f2,g1,g2,g3,Z⟩:=(gv yt).mp hI;simp only[vW];have H:=fM (HA.out.go g3 g1 g2 Z);have X:=fM (Z.Ar a1.out (by decide));clear hI g3 Z HC V;have c0:W.cell? ⟨w.heap.size,2,none⟩=some (gu n):=by rw[fN X.out];rfl
   have c4:W.cell? ⟨w.heap.size,3,none⟩=some (.bool q):=by rw[fN X.out];rfl
   have c1:=H.out.aa0;have f1:=H.out.free 196;have c2:=H.out.sC;have f2:=H.out.free 192;have a5:=H.out.lt;cases q with
   |true=>
    have Y:=fM ((H.out.qZ true).jb 1);clear H;go_wp2;go_end0;exact ga x.out Y.out rfl
   |false=>
    cases hq:kJ n fO with
    |true=>
     have d:(n.toList==[104,116,109,108])=true:=by
      have e4:(fO:fY).toList=[104,116,109,108]:=by first|rfl|decide|simp
      rw[<-e4];exact hq
     have Y:=fM ((H.out.qZ false).jb 1);rw[hq]at x;clear H hq;go_wp2;go_end0;exact ga x.out Y.out rfl
    |false=>
     have d:(n.toList==[104,116,109,108])=false:=by
      have e4:(fO:fY).toList=[104,116,109,108]:=by first|rfl|decide|simp
      rw[<-e4];exact hq
     have Y:=fM ((H.out.qZ true).jb 1);rw[hq]at x;clear H hq;go_wp2;go_end0;exact ga x.out Y.out rfl
 |_=>
  change Calls _ _ _ _ (Leaves E f _ w (.ok () {l with mode:=1}) uV);simp only[iy];have y:=xe;have H:=fM (U.out.k0 ((Kept.refl [] w).alloc (gz #[fV 0,fV 0,gu jB,.bool false] 195)));have c2:=H.out.sC;have f2:=H.out.free 192;have a5:=H.out.lt;replace H:=fM (H.out.jb 1);clear h hs U;go_enter func91,ntmps91;go_wp2;go_end0;exact ga rfl H.out rfl
def Zz {σ:Ab} (h:Rel E L σ w) (x:iY) (k:σ.gR x=true):
  Calls prog 178 #[jG E.bB 188,ku (ir L.gI x)] w λe w'=>e=pL/\ToS E L {σ with gq:=σ.gq.erase x} w w':=by
 have⟨C,hL,hC⟩:=h.zJ;refine(Bb E.bs E.bB 188 _ C _ _ (ir L.gI x) w hL h.elO (h.gR k)).mono ?_;rintro e w' ⟨rfl,d⟩;exact⟨rfl,h.Qn hL hC (by rw[<-wV h.inj];exact d) λy l=>h.wf.gq y (Qw l)⟩
def Vt {σ:Ab} (h:Rel E L σ w) (x y:iY) (l:σ.gR x=true) (u:σ.mW y=true):
  Calls prog 267 #[jG E.bB 188,ku (ir L.gI x),ku (ir L.gI y)] w λe w'=>e=pL/\ToS E L {σ with gq:=qo σ.gq x y} w w':=by
 have⟨C,hL,hC⟩:=h.zJ;refine(Gj E.bs E.bB 188 _ C _ _ (ir L.gI x) (ir L.gI y) w hL h.elO (h.gR l)).mono ?_;rintro e w' ⟨rfl,k⟩;exact⟨rfl,h.Qn hL hC (by rw[<-Lg h.inj];exact k) λz d=>by rcases Lh d with d|rfl;exact h.wf.gq z d;exact u⟩
def Yu {σ:Ab} (h:Rel E L σ w) (x:iY) (k:σ.gR x=true):
  Calls prog 178 #[jG E.bB 189,ku (ir L.gI x)] w λe w'=>e=pL/\ToS E L {σ with act:=σ.act.erase x} w w':=by
 have⟨C,hL,hC⟩:=h.II;refine(Bb E.bs E.bB 189 _ C _ _ (ir L.gI x) w hL h.elA (h.gR k)).mono ?_;rintro e w' ⟨rfl,d⟩;exact⟨rfl,h.Qm hL hC (by rw[<-wV h.inj];exact d) λy l=>h.wf.act y (Qw l)⟩
def Uq {σ:Ab} (h:Rel E L σ w) (x y:iY) (l:σ.gR x=true) (u:σ.gR y=true):
  Calls prog 267 #[jG E.bB 189,ku (ir L.gI x),ku (ir L.gI y)] w λe w'=>e=pL/\ToS E L {σ with act:=qo σ.act x y} w w':=by
 have⟨C,hL,hC⟩:=h.II;refine(Gj E.bs E.bB 189 _ C _ _ (ir L.gI x) (ir L.gI y) w hL h.elA (h.gR l)).mono ?_;rintro e w' ⟨rfl,k⟩;exact⟨rfl,h.Qm hL hC (by rw[<-Lg h.inj];exact k) λz d=>by rcases Lh d with d|rfl;exact h.wf.act z d;exact u⟩
theorem Rel.agP {σ σ':Ab} (h:Rel E L σ w) (i:Nat) (l:gG) (J:(σ.gV i).isSome=true) (V:KT E.bs [135,137,278] w w') (U:l.ownBlock=(L.kv i).ownBlock\/∀g,l.ownBlock=some g->w.heap.size<=g)
  (d:σ'.nodes.length=σ.nodes.length) (O:∀j Y,σ'.gV j=some Y->∃e,σ.gV j=some e/\Y.name=e.name) (H:∀j,σ'.gV j=none->σ.gV j=none)
  (X:∀j nd,σ'.nodes[j]?=some nd->li E.bs {L with kv:=λx=>if x=i then l else L.kv x} w' j nd) (wf:Wf σ')
  (s0:σ'.gq=σ.gq:=by rfl) (s9:σ'.act=σ.act:=by rfl) (s1:σ'.head=σ.head:=by rfl) (s2:σ'.form=σ.form:=by rfl) (s3:σ'.mode=σ.mode:=by rfl) (s4:σ'.kept=σ.kept:=by rfl) (s5:σ'.iL=σ.iL:=by rfl) (s6:σ'.jJ=σ.jJ:=by rfl) (s7:σ'.gI=σ.gI:=by rfl) (s8:σ'.behind=σ.behind:=by rfl) (sw:σ'.waiting=σ.waiting:=by rfl) (so:σ'.nT=σ.nT:=by rfl) (sp:σ'.iU=σ.iU:=by rfl) (sf:σ'.fresh=σ.fresh:=by rfl) (d1:σ'.qu=σ.qu:=by rfl) (d2:σ'.rH=σ.rH:=by rfl) (d3:σ'.pP=σ.pP:=by rfl):ToS E L σ' w w':=by
 have K:=Ab.mi (σ:=σ) (i:=i) J;have Z:∀j g,j < σ.nodes.length->j≠i->l.ownBlock=some g->(L.kv j).ownBlock≠some g:=by
  intro j g u z hg F;rcases U with e|e
  .rw[e]at hg;exact h.BZ i j g K u (wB z) hg F
  .have⟨c,m,hc⟩:=h.zG u F;grind
 refine⟨{L with kv:=λx=>if x=i then l else L.kv x},rfl,h.X4 (L':={L with kv:=λx=>if x=i then l else L.kv x}) V (λ_ _=>rfl) rfl rfl rfl X h.inj ?_ ?_ ?_ ?_ wf ?_ (LN d) s0 s9 s1 s2 s3 s4 s5 s6 s7 s8 sw so sp d1 d2 d3,V.fr (by decide),λk v hs=>⟨V.at hs.1 (by decide),hs.2⟩⟩
 .intro a b g I C y hg;rw[d]at I C;by_cases h1:a=i
  .grind
  .simp only[gH h1]at hg;by_cases h2:b=i
   .grind
   .simp only[gH h2];exact h.BZ a b g I C y hg
 .intro j u N;rw[d]at u;have G:=H j N;have z:j≠i:=by rintro rfl;rw[G]at J;cases J
  simp only[gH z];exact h.Hw j u G
 .intro a b e g I a0 C y hg;rw[d]at C;have⟨e0,h0,hnm'⟩:=O a e I;exact h.uq a b e0 g h0 (by grind) C y hg
 .intro j u N;rw[d]at u;exact h.FX j u (H j N)
 .rw[d,sf];exact h.BU
theorem Z0 {σ:Ab} (h:Rel E L σ w) (F:σ.gV i=some ei) (I:σ.gV j=some ej) (G:j≠i) (hn:n<=ei.kids.length) (hl:ei.kids.length < 1048576):
  Calls prog 166 #[place (L.gI i) n,(Nd.el (L.gI j)).val] w λe w'=>e=pL/\ToS E L ((σ.gS i {ei with kids:=ins ei.kids n (.el j)}).gS j {ej with je:=some i}) w w':=by
 have C:=Ab.gW F;have U:=Ab.gW I;have y:(σ.gV i).isSome=true:=by rw[F];rfl
 have K:(σ.gV j).isSome=true:=by rw[I];rfl
 have aI:=h.xm F;have lI:=h.AB F;have aJ:=h.xm I;have lJ:=h.AB I;refine(VM E.bs _ n _ _ _ _ _ _ _ _ _ _ _ w (h.vG F) (h.vG I) (λe=>G (h.inj _ _ e)) (λg hg=>h.BZ j i g U C G hg) (by grind) (by grind) h.bw).mono ?_;rintro e w' ⟨rfl,⟨H,E1,f1⟩,E2,Y⟩;have X:∀s∈L.gI j::L.gI i::(L.kv i).ownBlock.toList,∃x∈[j,i],s=L.gI x\/(L.kv x).ownBlock=some s:=by
  intro s N;rcases List.mem_cons.1 N with rfl|N
  .simp
  rcases List.mem_cons.1 N with rfl|N
  .simp
  .grind
 have Z:=h.ktJ [j,i] (by grind) X Y;have O:((σ.gS i {ei with kids:=ins ei.kids n (.el j)}).gV j).isSome=true:=by rw[Ab.iG G];exact K
 have J:∀x e,x < σ.nodes.length->zr w (L.av x) e->zr w' (L.av x) e:=λx e _ ha=>Z.row ha (by decide);refine⟨rfl,h.agP i H y Z f1 (by simp[Ab.gS]) ?_ ?_ ?_ ?_⟩
 .intro x e' d;by_cases u:x=j
  .subst u;rw[Ab.iR (by grind[Ab.gS])]at d;grind
  .rw[Ab.iG u]at d;by_cases l:x=i
   .subst l;rw[Ab.iR C]at d;grind
   .rw[Ab.iG l]at d;grind
 .intro x d;by_cases u:x=j
  .subst u;rw[Ab.iR (by grind[Ab.gS])]at d;cases d
  .rw[Ab.iG u]at d;by_cases l:x=i
   .subst l;rw[Ab.iR C]at d;cases d
   .rwa [Ab.iG l]at d
 .intro x nd d;rcases Ab.oL d with⟨rfl,rfl⟩|⟨u,d⟩
  .grind[li]
  .rcases Ab.oL d with⟨rfl,rfl⟩|⟨l,d⟩
   .show El E.bs w' _ _ _ _ (if x=x then H else L.kv x) _/\_;rw[gv rfl];refine⟨?_,J x _ C aI,lI⟩;show El E.bs w' (L.gI x) ei.name (L.av x) (ir L.gI ei.je) H ((ins ei.kids n (.el j)).map (Nd.map L.gI));rw[EH];exact E1
   .have hN:=h.ik [j,i] (by grind) X Y d (by grind);have V:x < σ.nodes.length:=(List.getElem?_eq_some_iff.1 d).1;exact hN.ext (σ:=σ) (GN.refl _ _) V rfl (gH l) (h.wfn d)
 .refine(h.wf.gS (e:={ei with kids:=ins ei.kids n (.el j)}) y (h.wf.je i ei F) ?_).gS O ?_ ?_
  .intro k z;rcases EI z with z|rfl
   .exact h.wf.kids i ei F k z
   .exact K
  .rw[Ab.qS y];exact y
  .intro k z;rw[Ab.lx y];exact h.wf.kids j ej I k z
theorem Wg {σ:Ab} (h:Rel E L σ w) {p : Nat} {l : yp} (J:σ.gV j=some ej) (K:ej.je=some p) (F:σ.gV p=some l) (z:j≠p) (hn:n < l.kids.length) (a0:qE l.kids (Nd.gR j)=(n:Int)):
  Calls prog 365 #[gE (L.gI j)] w λe w'=>e=pL/\ToS E L ((σ.gS p {l with kids:=l.kids.eraseIdx n}).gS j {ej with je:=none}) w w':=by
 have H:=Ab.gW F;have X:=Ab.gW J;have I:(σ.gV p).isSome=true:=by rw[F];rfl
 have V:(σ.gV j).isSome=true:=by rw[J];rfl
 have hE:=h.vG J;rw[K]at hE;have aP:=h.xm F;have lP:=h.AB F;have aJ:=h.xm J;have lJ:=h.AB J;refine(Ip E.bs _ _ n _ _ _ _ _ _ _ _ _ w hE (h.vG F) ?_ (λe=>z (h.inj _ _ e)) (λg hg=>h.BZ j p g X H z hg) (by grind) (by rw[Lc h.inj];omega)).mono ?_
 .intro x d;obtain⟨k,N,rfl⟩:=List.mem_map.1 d;exact h.Zj (h.wf.kids p l F k N)
 rintro e w' ⟨rfl,⟨C,E1,f1⟩,E2,N⟩;have hS:∀s∈L.gI j::L.gI p::(L.kv p).ownBlock.toList,∃x∈[j,p],s=L.gI x\/(L.kv x).ownBlock=some s:=by
  intro s O;rcases List.mem_cons.1 O with rfl|O
  .simp
  rcases List.mem_cons.1 O with rfl|O
  .simp
  .grind
 have Z:=h.ktJ [j,p] (by grind) hS N;have U:((σ.gS p {l with kids:=l.kids.eraseIdx n}).gV j).isSome=true:=by rw[Ab.iG z];exact V
 refine⟨rfl,h.agP p C I Z (.inl f1) (by simp[Ab.gS]) ?_ ?_ ?_ ?_⟩
 .intro x e' d;by_cases y:x=j
  .subst y;rw[Ab.iR (by grind[Ab.gS])]at d;grind
  .rw[Ab.iG y]at d;by_cases u:x=p
   .subst u;rw[Ab.iR H]at d;grind
   .rw[Ab.iG u]at d;grind
 .intro x d;by_cases y:x=j
  .subst y;rw[Ab.iR (by grind[Ab.gS])]at d;cases d
  .rw[Ab.iG y]at d;by_cases u:x=p
   .subst u;rw[Ab.iR H]at d;cases d
   .rwa [Ab.iG u]at d
 .intro x nd d;rcases Ab.oL d with⟨rfl,rfl⟩|⟨y,d⟩
  .show El E.bs w' _ _ _ _ (if x=p then C else L.kv x) _/\_;rw[gH z];exact⟨E2,Z.row aJ (by decide),lJ⟩
  .rcases Ab.oL d with⟨rfl,rfl⟩|⟨u,d⟩
   .show El E.bs w' _ _ _ _ (if x=x then C else L.kv x) _/\_;rw[gv rfl];refine⟨?_,Z.row aP (by decide),lP⟩;show El E.bs w' (L.gI x) l.name (L.av x) (ir L.gI l.je) C ((l.kids.eraseIdx n).map (Nd.map L.gI));rw[map_eraseIdx];exact E1
   .have hN:=h.ik [j,p] (by grind) hS N d (by grind);have Y:x < σ.nodes.length:=(List.getElem?_eq_some_iff.1 d).1;exact hN.ext (σ:=σ) (GN.refl _ _) Y rfl (gH u) (h.wfn d)
 .refine(h.wf.gS (e:={l with kids:=l.kids.eraseIdx n}) I (h.wf.je p l F) ?_).gS U rfl ?_
  .intro k G;exact h.wf.kids p l F k (List.mem_of_mem_eraseIdx G)
  .intro k G;rw[Ab.lx I];exact h.wf.kids j ej J k G
theorem Wd {σ:Ab} (h:Rel E L σ w) (u:σ.gV i=some e) (hg:nG e.name=false):
  Calls prog 266 #[gE (L.gI i)] w λy w'=>∃l,GN σ.nodes.length L l/\y=ig (gE (l.gI σ.nodes.length))/\Rel E l (σ.add (.el {name:=e.name,gO:=e.gO,je:=none,kids:=[]})) w'/\Fr E.bs w w'/\∀k v,Sd L w k v->Sd l w' k v:=by
 have K:=h.xm u;have X:=h.AB u;refine(Jy E.bs _ _ _ _ _ _ w (h.vG u)).mono ?_;rintro y w' ⟨rfl,U,x⟩;have d:=Ab.gW u;refine⟨L.new σ.nodes.length w.heap.size (L.av i) (ji),λj F=>Loc.Bg F,by simp[Loc.new],?_,.gN x,λk v J=>⟨x.at J.1 (by simp),J.2⟩⟩;refine h.add (.el {name:=e.name,gO:=e.gO,je:=none,kids:=[]}) w.heap.size (L.av i) (ji) σ.fresh x (gL _) ?_ rfl (λy V=>by grind) ?_ ?_ (λH=>absurd rfl (H _)) ?_ (λg hg=>h.ab i g d hg)
 .show El E.bs w' _ _ _ _ _ _/\zr w' _ _/\_;rw[Loc.um,Loc.B8,Loc.Je];exact⟨U,x.ownsRow K (by simp),X⟩
 .intro j e2 g F C N O;by_cases G:j=i
  .grind
  .exact h.uq j i e2 g F C d G O N
 .grind
 .intro I;exact⟨I,λg z=>h.BU I i g d z⟩
def Rel.aj8 {σ:Ab} (h:Rel E L σ w) {k : Nat} (l:Sd L w k v) (J:E.bs<=k) (K:E.w0.heap.size<=k) (u:gG):Rel E L σ (w.setCell ⟨k,0,none⟩ u)/\Sd L (w.setCell ⟨k,0,none⟩ u) k u/\(∀j x,j≠k->Sd L w j x->Sd L (w.setCell ⟨k,0,none⟩ u) j x)/\Fr E.bs w (w.setCell ⟨k,0,none⟩ u):=by
 have y:Kept [k] w (w.setCell ⟨k,0,none⟩ u):=(Kept.refl _ w).setCell (.inl (by simp)) _;have d:KT E.bs [65] w (w.setCell ⟨k,0,none⟩ u):= .jL y (λj F _=>by
  rw[List.mem_singleton.1 F];exact⟨⟨_,_,_,l.1,by simp⟩,J⟩)
 obtain⟨C,I,z⟩:=h.iw;refine⟨?_,⟨fR l.1 0 u,l.2⟩,λj x F H=>⟨y.at H.1 (by simpa using F),H.2⟩,d.fr (by decide)⟩;exact {h with
  fr:=h.fr.trans (d.fr (by decide))
  tX:=λi O N=>((h.tX i O N).kt d (by decide)).loc rfl rfl rfl
  iw:=⟨C,d.at I (by decide),z⟩
  pR:=y.ownsRow h.pR (λg hg G=>l.2.1 (by rw[<-List.mem_singleton.1 G];exact hg))
  qB:=y.ownsRow h.qB (λg hg G=>l.2.2 (by rw[<-List.mem_singleton.1 G];exact hg))
  pI:=d.row h.pI (by decide)
  rd:=d.at h.rd (by decide)
  tok:=d.row h.tok (by decide)}
def SF (E:Env) (f:Nat->Nat) (σ:Ab) (w:gm) (S:List (Nat×gG)):Prop:=∃L,L.gI=f/\Rel E L σ w/\∀p∈S,Sd L w p.1 p.2
def SF.rf {σ:Ab} (h:SF E f σ w S):RF E f σ w:=by have⟨L,e,hr,_⟩:=h;exact⟨L,e,hr⟩
def SF.at {σ:Ab} (h:SF E f σ w S) {k : Nat} (d:(k,v)∈S):w.heap[k]?=some (gz #[v] 65):=by
 have⟨L,e,hr,hs⟩:=h;exact(hs _ d).1
def SF.ib {σ:Ab} (h:SF E f σ w S) (d:Kept [] w w'):SF E f σ w' S:=by
 have⟨L,e,hr,hs⟩:=h;exact⟨L,e,hr.ib d,λp k=>⟨d.at (hs p k).1 (by simp),(hs p k).2⟩⟩
def Ww {α:Type} (E:Env) (f:Nat->Nat) (n:Nat) (S:List (Nat×gG)) (w:gm) (r:pM α) (d:(Nat->Nat)->α->gG) (e:Ending) (w':gm):Prop:=match r with
 | .ok a σ'=>∃g,Uh n f g/\n<=σ'.nodes.length/\e=ig (d g a)/\SF E g σ' w' S/\Fr E.bs w w'
 |_=>False
def agf {α:Type} (E:Env) (k:Nat) (args:(Nat->Nat)->jA) (m:M α) (h:(Nat->Nat)->α->gG):Prop:=
 ∀f d w S,SF E f d w S->m d≠ .stuck->Calls prog k (args f) w (Ww E f d.nodes.length S w (m d) h)
theorem aju {α l:Type} {k : Nat} {args : (Nat->Nat)->jA} {m:M α} {h:(Nat->Nat)->α->gG} (D:agf E k args m h) {σ:Ab} (H:SF E f σ w S) {R:pM l} {K:α->M l} (x:R=(m>>=K) σ) (C:R≠ .stuck) (u:A=args f)
  (z:∀a g d w',Uh σ.nodes.length f g->σ.nodes.length<=d.nodes.length->SF E g d w' S->Fr E.bs w w'->R=K a d->m σ= .ok a d->Q (ig (h g a)) w'):Calls prog k A w Q:=by
 subst u;rw[M.gn]at x;have y:m σ≠ .stuck:=λe=>C (by grind);refine(D f σ w S H y).mono ?_;grind[Ww]
def Ot {α:Type} (E:Env) (f:Nat->Nat) (n:Nat) (S:List (Nat×gG)) (w:gm) (r:pM α) (d:(Nat->Nat)->α->gG) (e:Ending) (w':gm):Prop:=match r with
 | .ok a σ'=>n<=σ'.nodes.length/\e=ig (d f a)/\SF E f σ' w' S/\Fr E.bs w w'
 |_=>False
def AL {α:Type} (E:Env) (k:Nat) (args:(Nat->Nat)->jA) (m:M α) (h:(Nat->Nat)->α->gG):Prop:=
 ∀f d w S,SF E f d w S->m d≠ .stuck->Calls prog k (args f) w (Ot E f d.nodes.length S w (m d) h)
theorem Dz {α l:Type} {k : Nat} {args : (Nat->Nat)->jA} {m:M α} {h:(Nat->Nat)->α->gG} (D:AL E k args m h) {σ:Ab} (H:SF E f σ w S) {R:pM l} {K:α->M l} (x:R=(m>>=K) σ) (C:R≠ .stuck) (u:A=args f)
  (z:∀a d w',σ.nodes.length<=d.nodes.length->SF E f d w' S->Fr E.bs w w'->R=K a d->m σ= .ok a d->Q (ig (h f a)) w'):Calls prog k A w Q:=by
 subst u;rw[M.gn]at x;have y:m σ≠ .stuck:=λe=>C (by grind);refine(D f σ w S H y).mono ?_;grind[Ot]
def ToS.ls {σ':Ab} (h:ToS E L σ' w w') (u:∀p∈S,Sd L w p.1 p.2) (k:n<=σ'.nodes.length) {e : Ending} (d:e=pL):Ot E L.gI n S w (.ok () σ') uV e w':=by
 have⟨L',h1,h2,h3,h4⟩:=h;exact⟨k,d,⟨L',h1,h2,λp l=>h4 _ _ (u p l)⟩,h3⟩
def acu (E:Env) (x:iY):AL E 178 (λf=>#[jG E.bB 188,oV f x]) (kq x) uV:=by
 rintro f u w S ⟨L,rfl,hr,l⟩ d;unfold kq at d|-;by_cases k:u.gR x=true
 .rw[gv k];exact(Zz hr x k).mono (λe w' h=>h.2.ls l (tk _ _ rfl) h.1)
 .rw[gH k]at d;exact absurd rfl d
def aaG (E:Env) (x:iY):AL E 178 (λf=>#[jG E.bB 189,oV f x]) (kM x) uV:=by
 rintro f u w S ⟨L,rfl,hr,l⟩ d;unfold kM at d|-;by_cases k:u.gR x=true
 .rw[gv k];exact(Yu hr x k).mono (λe w' h=>h.2.ls l (tk _ _ rfl) h.1)
 .rw[gH k]at d;exact absurd rfl d
def ae8 (E:Env) (x y:iY):AL E 267 (λf=>#[jG E.bB 188,oV f x,oV f y]) (yk x y) uV:=by
 rintro f l w S ⟨L,rfl,hr,u⟩ k;unfold yk at k|-;by_cases d:(l.gR x&&l.mW y)=true
 .rw[gv d];simp at d;exact(Vt hr x y d.1 d.2).mono (λe w' h=>h.2.ls u (tk _ _ rfl) h.1)
 .rw[gH d]at k;exact absurd rfl k
def adV (E:Env) (x y:iY):AL E 267 (λf=>#[jG E.bB 189,oV f x,oV f y]) (qg x y) uV:=by
 rintro f l w S ⟨L,rfl,hr,u⟩ k;unfold qg at k|-;by_cases d:(l.gR x&&l.gR y)=true
 .rw[gv d];simp at d;exact(Uq hr x y d.1 d.2).mono (λe w' h=>h.2.ls u (tk _ _ rfl) h.1)
 .rw[gH d]at k;exact absurd rfl k
def Z5 (E:Env) (j:Nat):AL E 365 (λf=>#[nV f j]) (lQ j) uV:=by
 rintro f u w S ⟨L,rfl,hr,l⟩ d;unfold lQ at d|-;cases hj:u.gV j with
 |none=>rw[hj]at d;exact absurd rfl d
 |some ej=>
  simp only[hj]at d|-;cases hp:ej.je with
  |none=>
   simp only[hp]at d|-;refine(FB hr hj hp).mono ?_;rintro e w' ⟨rfl,rfl⟩;exact⟨gL _,rfl,⟨L,rfl,hr,l⟩,Fr.refl _⟩
  |some p=>
   simp only[hp]at d|-;cases hep:u.gV p with
   |none=>rw[hep]at d;exact absurd rfl d
   |some ep=>
    simp only[hep]at d|-;by_cases k:j≠p/\0<=qE ep.kids (Nd.gR j)/\(qE ep.kids (Nd.gR j)).toNat < ep.kids.length
    .rw[gv k];exact(Wg hr hj hp hep k.1 k.2.2 (by omega)).mono (λe w' h=>h.2.ls l (by simp[Ab.gS]) h.1)
    .rw[gH k]at d;exact absurd rfl d
theorem YC (E:Env) (i:Nat):agf E 266 (λf=>#[nV f i]) (kB i) nV:=by
 rintro f C w S ⟨L,rfl,hr,y⟩ d;unfold kB at d|-;cases hi:C.gV i with
 |none=>rw[hi]at d;exact absurd rfl d
 |some e=>
  simp only[hi]at d|-;by_cases hg:nG e.name=true
  .rw[gv hg]at d;exact absurd rfl d
  .rw[gH hg];refine(Wd hr hi (by grind)).mono ?_;rintro F w' ⟨h,k,rfl,l,u,x⟩;exact⟨h.gI,k,by simp[Ab.add],rfl,⟨h,rfl,l,λp z=>x _ _ (y p z)⟩,u⟩
def aet (E:Env) (i:Nat):AL E 90 (λf=>#[nV f i]) (jr i) pV:=by
 rintro f l w S ⟨L,rfl,hr,k⟩ d;unfold jr at d|-;cases he:l.gV i with
 |none=>rw[he]at d;exact absurd rfl d
 |some e=>
  refine(TF hr he).mono ?_;rintro u w' ⟨rfl,x,h⟩;exact⟨gL _,rfl,SF.ib ⟨L,rfl,hr,k⟩ h,.gN h⟩
def afq (E:Env) (pl:Nat×Nat) (j:Nat):AL E 166 (λf=>#[pV f pl,.iface 65 (nV f j)]) (mL pl j) uV:=by
 rintro f l w S ⟨L,rfl,hr,u⟩ d;unfold mL at d|-;cases h1:l.gV pl.1 with
 |none=>rw[h1]at d;exact absurd rfl d
 |some ei=>
  cases h2:l.gV j with
  |none=>rw[h1,h2]at d;exact absurd rfl d
  |some ej=>
   simp only[h1,h2]at d|-;by_cases k:j≠pl.1/\pl.2<=ei.kids.length/\ei.kids.length < 1048576
   .rw[gv k];exact(Z0 hr h1 h2 k.1 k.2.1 k.2.2).mono (λe w' h=>h.2.ls u (by simp[Ab.gS]) h.1)
   .rw[gH k]at d;exact absurd rfl d
def ElK {α:Type} (m:M α):Prop:=∀h a d,m h= .ok a d->∀i,h.gR (some i)=true->d.gR (some i)=true
theorem UM (x:iY):ElK (kq x):=by
 intro l a k h i d;unfold kq at h;split at h
 .cases h;exact d
 grind
theorem J4 (x:iY):ElK (kM x):=by
 intro l a k h i d;unfold kM at h;split at h
 .cases h;exact d
 grind
theorem Nk (x y:iY):ElK (yk x y):=by
 intro l a k h i d;unfold yk at h;split at h
 .cases h;exact d
 grind
theorem Ni (x y:iY):ElK (qg x y):=by
 intro l a k h i d;unfold qg at h;split at h
 .cases h;exact d
 grind
theorem Nj (j:Nat):ElK (jr j):=by
 grind[ElK,jr]
theorem Ro (j:Nat):ElK (kB j):=by
 intro l a k h i d;unfold kB at h;split at h
 .split at h
  .cases h
  .cases h;exact Ab.A9 d
 grind
theorem Ja {σ:Ab} (h:σ.gV j=some ej) (d:σ.gR (some i)=true):(σ.gS j e).gR (some i)=true:=by
 rw[Ab.qS (by grind)];exact d
theorem Nl (pl:Nat×Nat) (j:Nat):ElK (mL pl j):=by
 intro y a x h i u;unfold mL at h;split at h
 .rename_i ei ej d k;split at h
  .rename_i l;cases h;exact Ja (ej:=ej) (by rw[Ab.iG l.1];exact k) (Ja d u)
  grind
 grind
theorem Hd (j:Nat):ElK (lQ j):=by
 intro z a x h i u;unfold lQ at h;split at h
 .cases h
 .rename_i ej d;split at h
  .grind
  .split at h
   .cases h
   .rename_i p y k;split at h
    .rename_i l;cases h;exact Ja (ej:=ej) (by rw[Ab.iG l.1];exact d) (Ja k u)
    grind
theorem SF.set {E:Env} {f:Nat->Nat} {σ:Ab} {w:gm} {S:List (Nat×gG)} (h:SF E f σ w S) {k:Nat} {v:gG} (x:(k,v)∈S) (l:E.bs<=k) (d:E.w0.heap.size<=k) (u:gG) (S':List (Nat×gG)) (y:∀p∈S',p=(k,u)\/(p.1≠k/\p∈S)):SF E f σ (w.setCell ⟨k,0,none⟩ u) S'/\Fr E.bs w (w.setCell ⟨k,0,none⟩ u):=by
 have⟨L,e,hr,hs⟩:=h;have⟨h1,h2,h3,h4⟩:=hr.aj8 (hs _ x) l d u;grind[SF]
section
variable {W W':gm} {row:iY} (hg:W.grownBy W' row) {B:Nat} (hr:∀r,row=some r->B<=r/\∃o:Obj,W.heap[r]?=some o/\o.isCells=false)
include hg hr
def qQ {k:Nat} {c:jA} {t:TypeId} {m:Nat×Nat} (h:W.heap[k]?=some (.cells c t m)):W'.heap[k]?=some (.cells c t m):=by
 refine(hg.block k (Array.getElem?_eq_some_iff.1 h).1 (λe=>?_)).trans h;have⟨_,o,ho,hc⟩:=hr k e.symm;rw[h]at ho;cases ho;cases hc
def wW {base:Nat} {e:TypeId} {d:Nat} {v:gG} {k:Nat} {xs:List gG} (h:W.ownsRow base e d v k xs):W'.ownsRow base e d v k xs:=by
 refine h.kept hg ?_;rcases h.2 with⟨rfl,_⟩|⟨g,u,x,rfl,_,l,_⟩
 .exact .inl rfl
 .refine .inr λy=>?_;have⟨_,o,ho,hc⟩:=hr g (by simpa [Value.ownBlock]using y.symm);rw[l]at ho;cases ho;cases hc
def Fr.grown {bs:Nat} {w:gm} (h:Fr bs w W) (d:w.heap.size<=B):Fr bs w W':=by
 have⟨S,hk,hS⟩:=h;exact⟨S,hk.grown hg (λk e=> .inr (jH d (hr k e).1)),hS⟩
def Rel.grown {E:Env} {L:Loc} {σ:Ab} (h:Rel E L σ W) (l:E.w0.heap.size<=B):Rel E L σ W':=by
 have⟨C,hb,hC⟩:=h.iw;exact
  {fr:=Fr.grown hg hr h.fr l
   env:=h.env
   Fb:=h.Fb
   tX:=λi k u=>by
    have d:=h.tX i k u;cases k with
    |el e=>exact⟨⟨qQ hg hr d.1.iw,wW hg hr d.1.row,d.1.le,d.1.WJ⟩,wW hg hr d.2.1,d.2.2⟩
    |tx s=>exact qQ hg hr d
    |cm s=>exact qQ hg hr d
    |dt s=>exact qQ hg hr d
   inj:=h.inj,BZ:=h.BZ,Hw:=h.Hw,uq:=h.uq,FX:=h.FX,wf:=h.wf
   iw:=⟨C,qQ hg hr hb,hC⟩
   pR:=wW hg hr h.pR
   qB:=wW hg hr h.qB
   H9:=h.H9,x7:=h.x7,F0:=h.F0
   pI:=wW hg hr h.pI
   M1:=h.M1
   rd:=qQ hg hr h.rd
   Tk:=h.Tk
   tok:=wW hg hr h.tok
   MY:=h.MY,bz:=h.bz,bB:=h.bB,bR:=h.bR,bN:=h.bN,BU:=h.BU,ab:=h.ab,tb:=h.tb,M0:=h.M0}
def SF.grown {E:Env} {f:Nat->Nat} {σ:Ab} {S:List (Nat×gG)} (h:SF E f σ W S) (k:E.w0.heap.size<=B):SF E f σ W' S:=by
 have⟨L,e,h1,h2⟩:=h;exact⟨L,e,h1.grown hg hr k,λp d=>⟨qQ hg hr (h2 p d).1,(h2 p d).2⟩⟩
end
def Fr.pA (h:Fr bs w W) (B:Nat):KeepsFrom B w W:=⟨h.size,λ_ _ _ d k=>h.other d k⟩
theorem Fr.at (h:Fr bs w W) {k : Nat} (l:w.heap[k]?=some (.cells c t m)) (x:t∉Ym):W.heap[k]?=some (.cells c t m):=by
 have⟨S,hkk,hS⟩:=h;have d:k < w.heap.size:=(Array.getElem?_eq_some_iff.1 l).1;refine(hkk.block k d λu=>?_).trans l;grind
attribute [local go_sem] Oper.semAt_some
theorem aip {y:Type} (m:Nat) (a1:1<=m) (b j n Y X l:Nat) (a0:n<=4096) (nx:y->iY) (d:y->Nat) (J V:y->gm->Prop)
  (Z:∀s W,J s W->W.cell? ⟨Y,0,none⟩=some (fV n)) (hL:∀s W,J s W->W.cell? ⟨X,0,none⟩=some (jG b j))
  (H:∀s W q,J s W->d s < n->q=n - 1 - d s->Calls prog 239 #[jG b j,fV q] W λe w'=>e=ig (ku (nx s))/\w'=W)
  (hY:∀s W,J s W->d s < n->YieldAt Fence.wide (m - 1) prog l #[ku (nx s)] W λe W'=>
   (e=ig (.bool true)/\∃h,d h=d s+1/\J h W')\/(e=ig (.bool false)/\∃h,V h W'))
  (W:gm) (U:y) (a3:d U=0) (h0:J U W):
  CallsIn Fence.wide m prog 348 #[.func (.yield l) #[] #[],gE Y,gE X] W λe W'=>(∃r,e=ig r)/\
   ((∃s,d s=n/\J s W')\/(∃s,V s W')):=by
 refine callsIn_of_wp func348 rfl trivial ?_ rfl;simp only[ntmps348,xQ,rn,uI,Nat.reduceAdd,Nat.reduceSub,xR,xS,xU,xV,rp,tU];have cN:=Z U W h0;have HY:=hY;have HN:=Z;have HL:=hL;have C:=H;gi_wp2
 gi_loopw [4] (λi wr=>∃s:y,d s<=n/\i=fV ((n:Int) - 1 - d s)/\J s wr)
  (λi _=>((intOf i)+1).toNat)
 case atStart=>grind
 case round=>
  obtain⟨s,hk,rfl,z⟩:=hrel;have cL:=HL s wr z;by_cases u:d s < n
  .obtain⟨q,N⟩:∃q:Nat,q=n - 1 - d s:=⟨_,rfl⟩;have O:(n:Int) - 1 - d s=(q:Int):=by omega
   rw[O];have HA:=C s wr q z u N;have⟨fn,tmps,assign,body,hy,HR⟩:=HY s wr z u;have HQ:=fM N;have a2:q < 4096:=by omega
   clear N
   gi_wp2_with (refine⟨trivial,?_⟩;gi_at_call 239;refine(callsIn_wide.2 HA).mono ?_;rintro e w' ⟨rfl,rfl⟩)
   refine HR.mono ?_;rintro e W3 (⟨rfl,h,K,I⟩|⟨rfl,h,k⟩)
   .have F:=K;gi_wp2;go_roundw
    case rel=>exact⟨h,by omega,by have:=HQ;have:=F;congr 1;omega,I⟩
    case measure=>simp[intOf]
   .gi_wp2;refine ou (Iv rfl _ _ _) rfl ?_;exact⟨⟨_,rfl⟩,.inr ⟨h,k⟩⟩
  .have G:d s=n:=by omega
   have x:(n:Int) - 1 - d s= -1:=by omega
   rw[x];gi_wp2;go_end0;exact⟨⟨_,rfl⟩,.inl ⟨s,G,z⟩⟩
def af7 {k:Type} (B:Nat) (I:k->gm->Prop) (l:Code->k->gm->Prop) (h:k->Nat) (s:k) (W:gm):Exit->Act->gm->Prop
 | .normal,_,W'=>KeepsFrom B W W'/\∃d,h d=h s+1/\I d W'
 | .ret,_,W'=>KeepsFrom B W W'/\∃d,l .ret d W'
 | .exit id,_,W'=>KeepsFrom B W W'/\∃d,l (.exit id) d W'
 | .goto t,_,W'=>KeepsFrom B W W'/\∃d,l (.goto t) d W'
 | .panic _,_,_=>False
 | .outgrown,_,_=>False
theorem adq {Y:Type} {m : Nat} {g:Operand} {p:Tmp} {Q:Exit->Act->gm->Prop} (h1:2<=m) (ab:n<=4096) (hg:a.eval g=vO bs)
  (nx:Y->iY) (F:Y->Nat) (I:Y->gm->Prop) (Ix:Code->Y->gm->Prop) (hI:OwnFrom w.heap.size I) (V:∀c,OwnFrom w.heap.size (Ix c))
  (hN:∀s W,I s W->W.cell? ⟨bs+1,0,none⟩=some (fV n)) (hL:∀s W,I s W->W.cell? ⟨bs,0,none⟩=some (jG b j))
  (a4:∀s W q,I s W->F s < n->q=n - 1 - F s->Calls prog 239 #[jG b j,fV q] W λe w'=>e=ig (ku (nx s))/\w'=W)
  (s0:Y) (ad:F s0=0) (h0:I s0 w) (X:iY->Act)
  (J:∀(l:Nat) (x:iY) (W:gm) (K:Act->gm->Prop),K (X x) W->assign.wpIn (Fence.wide.inRound l) (m - 1 - 1) prog (Exit.then K (λ_ _ _=>False)) {tmps:=a.tmps.setIfInBounds p (ku x),defers:=[]} W)
  (Z:∀(l:Nat) (s:Y) (W:gm),I s W->F s < n->body.wpIn (Fence.wide.inRound l) (m - 1 - 1) prog (af7 w.heap.size I Ix F s W) (X (nx s)) W)
  (a0:∀(D:Nat) (s:Y) (W:gm),w.heap.size<=D->F s=n->I s W->W.heap[D]?=some (.deferred (some []))->Q .normal {a with defers:={target:= .collected D,args:=#[]}::a.defers} W)
  (a1:∀(D:Nat) (c:Code) (s:Y) (W:gm),w.heap.size<=D->Ix c s W->W.heap[D]?=some (.deferred (some []))->c.wpIn Fence.wide m prog Q {a with defers:={target:= .collected D,args:=#[]}::a.defers} W):
  (Code.rangeFunc g #[p] assign body).wpIn Fence.wide m prog Q a w:=by
 refine Yf ?_;intro fn a8;obtain⟨k,u⟩:∃k:LoopState->Option Code->Loop,k=λst pe=>{state:=st,pending:=pe,fn,tmps:=a.tmps,params:=#[p],assign,body,defers:=w.heap.size}:=⟨_,rfl⟩;obtain⟨N,H⟩:∃N,(w.alloc (.deferred (some []))).alloc (.loop (k .ready none))=N:=⟨_,rfl⟩;have af:N.heap.size=w.heap.size+2:=by rw[<-H];simp
 have a7:N.heap[w.heap.size+1]?=some (.loop (k .ready none)):=by
  rw[<-H];have:=Iw (w.alloc (.deferred (some []))) (.loop (k .ready none));rwa [xW]at this
 have a6:N.heap[w.heap.size]?=some (.deferred (some [])):=by
  rw[<-H];exact(Below.heap_alloc _ _ _ (by simp)).trans (Iw w _)
 have a5:I s0 N:=by rw[<-H];exact hI.alloc _ (hI.alloc _ h0)
 refine⟨w.heap.size+1,[{target:= .collected w.heap.size,args:=#[]}],N,{target:= .fn (.func 348) #[gE (bs+1),gE bs],args:=#[.func (.yield (w.heap.size+1)) #[] #[]]},N,348,
  #[.func (.yield (w.heap.size+1)) #[] #[],gE (bs+1),gE bs],N,?_,?_,?_,?_,λ_=>by omega,?_⟩
 .rw[<-H,u];exact Yh _ _ _ _ _
 .simp only[resolve,hg];simp[go_sem]
 .intro f' ae;trivial
 .exact enters_of func348 (by rfl) rfl _ _
 refine(aip (m - 1) (by omega) b j n (bs+1) bs (w.heap.size+1) ab nx F
  (λs W=>I s W/\W.heap[w.heap.size+1]?=some (.loop (k .ready none))/\W.heap[w.heap.size]?=some (.deferred (some [])))
  (λs W=>∃c,Ix c s W/\W.heap[w.heap.size+1]?=some (.loop (k .done (some c)))/\W.heap[w.heap.size]?=some (.deferred (some [])))
  (λs W h=>hN s W h.1) (λs W h=>hL s W h.1) (λs W q h=>a4 s W q h.1) ?_ N s0 ad ⟨a5,a7,a6⟩).mono ?_
 .rintro s W ⟨hi,O,hk⟩ a2;have ac:w.heap.size+1 < W.heap.size:=(Array.getElem?_eq_some_iff.1 O).1;have hy:=run_yield (P:=prog) (args:=#[ku (nx s)]) O (by rw[u];rfl);rw[u]at hy;have hz:(#[p].zip #[ku (nx s)]).foldl (λt (p,v)=>t.setIfInBounds p v) a.tmps=a.tmps.setIfInBounds p (ku (nx s)):=by simp
  refine⟨fn,_,assign,body,hy,roundIn_of_wpIn a8 ((si (λz=>assign.wpIn (Fence.wide.inRound (w.heap.size+1)) (m - 1 - 1) prog (Exit.then _ (λ_ _ _=>False)) {tmps:=z,defers:=[]} W) hz).mpr (J _ (nx s) W _ ?_))⟩;refine⟨_,run_beginRound O (by rw[u]),?_⟩;have aa:(W.putObj (w.heap.size+1) (.loop {k .ready none with state:= .busy})).heap[w.heap.size+1]?=some (.loop {k .ready none with state:= .busy}):=LX ac;have a9:(W.putObj (w.heap.size+1) (.loop {k .ready none with state:= .busy})).heap[w.heap.size]?=some (.deferred (some [])):=(sg (by omega)).trans hk;refine Db (Z _ s _ (hI.putObj _ hi (by omega) O rfl) a2) ?_;have U:∀(d:Option Code) (G:gm),KeepsFrom w.heap.size (W.putObj (w.heap.size+1) (.loop {k .ready none with state:= .busy})) G->
    (Instr.endRound (w.heap.size+1) d).run prog G= .ok (.bool d.isNone) (G.putObj (w.heap.size+1) (.loop (k (if d.isNone then .ready else .done) d)))/\
    G.heap[w.heap.size+1]?=some (.loop {k .ready none with state:= .busy})/\
    (G.putObj (w.heap.size+1) (.loop (k (if d.isNone then .ready else .done) d))).heap[w.heap.size+1]?=some (.loop (k (if d.isNone then .ready else .done) d))/\
    (G.putObj (w.heap.size+1) (.loop (k (if d.isNone then .ready else .done) d))).heap[w.heap.size]?=some (.deferred (some [])):=λd G y=>by
   have C:=y.same _ _ (by omega) aa rfl;have:=run_endRound (P:=prog) d C;rw[u]at this|-;exact⟨this,by grind,LX (Array.getElem?_eq_some_iff.1 C).1,(sg (by omega)).trans (y.same _ _ (gL _) a9 rfl)⟩
  rintro e a3 G hp;cases e with
  |normal=>
   have⟨y,s',hc',hi3⟩:=hp;have⟨hr,C,hl4,hk4⟩:=U none G y;exact⟨_,_,hr,.inl ⟨rfl,s',hc',hI.putObj _ hi3 (by omega) C rfl,hl4,hk4⟩⟩
  |ret=>
   have⟨y,s',hi3⟩:=hp;have⟨hr,C,hl4,hk4⟩:=U (some .ret) G y;exact⟨_,_,hr,.inr ⟨rfl,s',.ret,(V _).putObj _ hi3 (by omega) C rfl,hl4,hk4⟩⟩
  |exit id=>
   have⟨y,s',hi3⟩:=hp;have⟨hr,C,hl4,hk4⟩:=U (some (.exit id)) G y;exact⟨_,_,hr,.inr ⟨rfl,s',.exit id,(V _).putObj _ hi3 (by omega) C rfl,hl4,hk4⟩⟩
  |goto t=>
   have⟨y,s',hi3⟩:=hp;have⟨hr,C,hl4,hk4⟩:=U (some (.goto t)) G y;exact⟨_,_,hr,.inr ⟨rfl,s',.goto t,(V _).putObj _ hi3 (by omega) C rfl,hl4,hk4⟩⟩
  |panic ch=>exact hp.elim
  |outgrown=>exact hp.elim
 .rintro e W2 ⟨⟨v,rfl⟩,(⟨s,hS,hi,O,hk⟩|⟨s,c,hi,O,hk⟩)⟩
  .exact⟨none,_,by have:=LW (P:=prog) O (by rw[u];simp);rw[u]at this;exact this,a0 _ s _ (gL _) hS (hI.putObj _ hi (by omega) O rfl) ((sg (by omega)).trans hk)⟩
  .exact⟨some c,_,by have:=LW (P:=prog) O (by rw[u];simp);rw[u]at this;exact this,a1 _ c s _ (gL _) ((V c).putObj _ hi (by omega) O rfl) ((sg (by omega)).trans hk)⟩
section
attribute [local go_sem] Oper.semAt_some
attribute [local go_sem] qI
attribute [local simp] qI
def RF.ahc {σ:Ab} (h:RF E f σ w) (x:iY) (d:σ.gR x=true):Calls prog 376 #[jG E.bB 188,oV f x] w λe w'=>e=ig (vO w.heap.size)/\w'=mP E.bB 188 (posOf σ.gq x) w:=by
 obtain⟨L,rfl,hr⟩:=h;have⟨C,hL,hC⟩:=hr.zJ;have:=aeR E.bs E.bB 188 _ C _ _ (ir L.gI x) w hL hr.elO (hr.gR d)
 rwa [NW hr.inj]at this
theorem RH (w:gm) (d h k l u:Obj):(((((w.alloc d).alloc h).alloc k).alloc l).alloc u).heap[w.heap.size]?=some d/\(((((w.alloc d).alloc h).alloc k).alloc l).alloc u).heap[w.heap.size+1]?=some h/\(((((w.alloc d).alloc h).alloc k).alloc l).alloc u).heap[w.heap.size+1+1]?=some k/\(((((w.alloc d).alloc h).alloc k).alloc l).alloc u).heap[w.heap.size+1+1+1]?=some l/\(((((w.alloc d).alloc h).alloc k).alloc l).alloc u).heap[w.heap.size+1+1+1+1]?=some u:=by
 have⟨h1,h2,h3,h4⟩:=Hn w d h k l;refine⟨(Below.heap_alloc _ _ _ (by grind)).trans h1,(Below.heap_alloc _ _ _ (by simp)).trans h2,(Below.heap_alloc _ _ _ (by simp)).trans h3,(Below.heap_alloc _ _ _ (by simp)).trans h4,?_⟩;have:=fP ((((w.alloc d).alloc h).alloc k).alloc l) u;simp_all
theorem RF.sf {σ:Ab} (h:RF E f σ w) (k:Kept [] w W) (d:∀p∈S,w.heap.size<=p.1/\W.heap[p.1]?=some (gz #[p.2] 65)):SF E f σ W S:=by
 have⟨L,e,hr⟩:=h;refine⟨L,e,hr.ib k,λp l=>⟨(d p l).2,λq=>?_,λq=>?_⟩⟩
 .have:=(hr.pR.lt _ q).2;grind
 .have:=(hr.qB.lt _ q).2;grind
theorem U2 {xs : kG} {n : Int} (h:io xs n=some i):some i∈xs:=by
 unfold io at h;grind
def aiL (R:pM (Nat×Nat)):Prop:=∀r d,R= .ok r d->r.1 < d.nodes.length/\r.2 < d.nodes.length
structure Gh where
 g:Nat->Nat
 σ:Ab
 c:Nat
 last:Nat
 mark:Nat
structure RI (E:Env) (f:Nat->Nat) (σ:Ab) (w:gm) (n fi iw:Nat) (s:Gh) (W:gm):Prop where
 le:s.c<=n
 ex:Uh σ.nodes.length f s.g
 nl:σ.nodes.length<=s.σ.nodes.length
 ll:s.last < s.σ.nodes.length
 ml:s.mark < s.σ.nodes.length
 fe:s.σ.gR (some fi)=true
 be:s.σ.gR (some iw)=true
 te:s.σ.gR (some s.last)=true
 sf:SF E s.g s.σ W [(w.heap.size+1,nV f fi),(w.heap.size+1+1,nV f iw),(w.heap.size+1+1+1,nV s.g s.last),(w.heap.size+1+1+1+1,nV s.g s.mark)]
 b3:W.heap[w.heap.size]?=some (gz #[Bp E] 116)
 b8:W.heap[w.heap.size+1+1+1+1+1]?=some (gz #[fV s.c] 3)
 bl:W.heap[w.heap.size+1+1+1+1+1+1]?=some (gz #[jG E.bB 188] 274)
 bn:W.heap[w.heap.size+1+1+1+1+1+1+1]?=some (gz #[fV n] 3)
 fr:Fr E.bs w W
def RI.grown {σ:Ab} {s:Gh} {row : iY} {B : Nat} (h:RI E f σ w n fi iw s W) (hg:W.grownBy W' row) (hr:∀r,row=some r->B<=r/\∃o:Obj,W.heap[r]?=some o/\o.isCells=false) (d:E.w0.heap.size<=B) (k:w.heap.size<=B):RI E f σ w n fi iw s W':=
 ⟨h.le,h.ex,h.nl,h.ll,h.ml,h.fe,h.be,h.te,h.sf.grown hg hr d,qQ hg hr h.b3,qQ hg hr h.b8,qQ hg hr h.bl,qQ hg hr h.bn,h.fr.grown hg hr k⟩
def SF.side {σ:Ab} (h:SF E f σ w S) (y:w.heap[b]?=some (.cells c T m)) (x:∀t∈Yo,t≠T) (d:E.w0.heap.size<=b) (j:Nat) (u:gG):SF E f σ (w.setCell ⟨b,j,none⟩ u) S:=by
 have⟨L,e,hr,hs⟩:=h;refine⟨L,e,hr.side y x d j u,λp k=>⟨?_,(hs p k).2⟩⟩;have z:Kept [b] w (w.setCell ⟨b,j,none⟩ u):=(Kept.refl _ w).setCell (.inl (by simp)) _;refine z.at (hs p k).1 λC=>?_;have l:=List.mem_singleton.1 C;have:=(hs p k).1;rw[l,y]at this;injection this with this;injection this with _ e2;exact x 65 (by decide) e2.symm
def Fr.aii (h:Fr bs w W) {k : Nat} (d:w.heap.size<=k) (j:Nat) (u:gG):Fr bs w (W.setCell ⟨k,j,none⟩ u):=by
 have⟨S,h1,h2⟩:=h;exact⟨S,h1.setCell (.inr d) _,h2⟩
theorem RI.next {σ:Ab} {s:Gh} (h:RI E f σ w n fi iw s W) (k:s.c < n) (x:E.w0.heap.size<=w.heap.size) (u:gG) (l:u=fV ((s.c+1:Nat))):RI E f σ w n fi iw ⟨s.g,s.σ,s.c+1,s.last,s.mark⟩ (W.setCell ⟨w.heap.size+1+1+1+1+1,0,none⟩ u):=by
 subst l;have d:Kept [w.heap.size+1+1+1+1+1] W (W.setCell ⟨w.heap.size+1+1+1+1+1,0,none⟩ (fV ((s.c+1:Nat)))):=(Kept.refl _ W).setCell (.inl (by simp)) _;exact
  {le:=k,ex:=h.ex,nl:=h.nl,ll:=h.ll,ml:=h.ml,fe:=h.fe,be:=h.be,te:=h.te
   sf:=h.sf.side h.b8 (by decide) (by omega) 0 _
   b3:=d.at h.b3 (by grind)
   b8:=fR h.b8 0 _
   bl:=d.at h.bl (by simp)
   bn:=d.at h.bn (by grind)
   fr:=h.fr.aii (by omega) 0 _}
def RI.step {σ:Ab} {s:Gh} (h:RI E f σ w n fi iw s W) {k : Nat->Nat} {σ':Ab} (x:Uh s.σ.nodes.length s.g k) (u:s.σ.nodes.length<=σ'.nodes.length) (l:Fr E.bs W W') (d:∀i,s.σ.gR (some i)=true->σ'.gR (some i)=true)
  (z:SF E k σ' W' [(w.heap.size+1,nV f fi),(w.heap.size+1+1,nV f iw),(w.heap.size+1+1+1,nV s.g s.last),(w.heap.size+1+1+1+1,nV s.g s.mark)]):RI E f σ w n fi iw ⟨k,σ',s.c,s.last,s.mark⟩ W':=by
 have e1:nV s.g s.last=nV k s.last:=by unfold nV;rw[x _ h.ll]
 have e2:nV s.g s.mark=nV k s.mark:=by unfold nV;rw[x _ h.ml]
 rw[e1,e2]at z;exact
  {le:=h.le,ex:=λi y=>(x i (lU y h.nl)).trans (h.ex i y),nl:=jH h.nl u,ll:=lU h.ll u,ml:=lU h.ml u,fe:=d _ h.fe,be:=d _ h.be,te:=d _ h.te
   sf:=z
   b3:=l.at h.b3 (by decide),b8:=l.at h.b8 (by decide),bl:=l.at h.bl (by decide),bn:=l.at h.bn (by decide)
   fr:=h.fr.trans l}
def RI.afH {σ:Ab} {s:Gh} (h:RI E f σ w n fi iw s W) (x:Nat) (d:s.σ.gR (some x)=true) (u:E.w0.heap.size<=w.heap.size) (l:E.bs<=w.heap.size):RI E f σ w n fi iw ⟨s.g,s.σ,s.c,x,s.mark⟩ (W.setCell ⟨w.heap.size+1+1+1,0,none⟩ (nV s.g x))/\Fr E.bs W (W.setCell ⟨w.heap.size+1+1+1,0,none⟩ (nV s.g x)):=by
 have⟨q1,q2⟩:=h.sf.set (k:=w.heap.size+1+1+1) (v:=nV s.g s.last) (by simp) (by omega) (by omega) (nV s.g x) [(w.heap.size+1,nV f fi),(w.heap.size+1+1,nV f iw),(w.heap.size+1+1+1,nV s.g x),(w.heap.size+1+1+1+1,nV s.g s.mark)] (by
  simp)
 exact⟨{le:=h.le,ex:=h.ex,nl:=h.nl,ll:=Ab.mi (σ:=s.σ) (i:=x) d,ml:=h.ml,fe:=h.fe,be:=h.be,te:=d,sf:=q1,b3:=q2.at h.b3 (by decide),b8:=q2.at h.b8 (by decide),bl:=q2.at h.bl (by decide),bn:=q2.at h.bn (by decide),fr:=h.fr.trans q2},q2⟩
def RI.afI {σ:Ab} {s:Gh} (h:RI E f σ w n fi iw s W) (x:Nat) (u:s.σ.gR (some x)=true) (l:E.w0.heap.size<=w.heap.size) (d:E.bs<=w.heap.size):RI E f σ w n fi iw ⟨s.g,s.σ,s.c,s.last,x⟩ (W.setCell ⟨w.heap.size+1+1+1+1,0,none⟩ (nV s.g x))/\Fr E.bs W (W.setCell ⟨w.heap.size+1+1+1+1,0,none⟩ (nV s.g x)):=by
 have⟨q1,q2⟩:=h.sf.set (k:=w.heap.size+1+1+1+1) (v:=nV s.g s.mark) (by simp) (by omega) (by omega) (nV s.g x) [(w.heap.size+1,nV f fi),(w.heap.size+1+1,nV f iw),(w.heap.size+1+1+1,nV s.g s.last),(w.heap.size+1+1+1+1,nV s.g x)] (by
  simp)
 exact⟨{le:=h.le,ex:=h.ex,nl:=h.nl,ll:=h.ll,ml:=Ab.mi (σ:=s.σ) (i:=x) u,fe:=h.fe,be:=h.be,te:=h.te,sf:=q1,b3:=q2.at h.b3 (by decide),b8:=q2.at h.b8 (by decide),bl:=q2.at h.bl (by decide),bn:=q2.at h.bn (by decide),fr:=h.fr.trans q2},q2⟩
theorem Ur {d : Nat} {σ σ':Ab} (h:kB j σ= .ok d σ'):σ'.gR (some d)=true:=by
 unfold kB at h;split at h
 .split at h
  .cases h
  .cases h;show((σ.add _).gV σ.nodes.length).isSome=true;rw[Ab.sN];rfl
 grind
def RI.k0 {σ:Ab} {s:Gh} (h:RI E f σ w n fi iw s W) (d:Kept [] W W'):RI E f σ w n fi iw s W':=
 ⟨h.le,h.ex,h.nl,h.ll,h.ml,h.fe,h.be,h.te,h.sf.ib d,d.at h.b3 (by simp),d.at h.b8 (by simp),d.at h.bl (by simp),d.at h.bn (by simp),h.fr.trans (.gN d)⟩
def VP (f iw k c last h e:Nat):M (Nat×Nat):=λl=>if some e∉l.act then (kq (some e)>>=λ_=>lB f iw k (c+1) last h) l else
 (kB e>>=λd=>yk (some e) (some d)>>=λ_=>qg (some e) (some d)>>=λ_=>lQ last>>=λ_=>jr d>>=λu=>mL u last>>=λ_=>lB f iw k (c+1) d (if last=iw then d else h)) l
theorem Tf {f k c last d : Nat} {σ:Ab} {R : pM (Nat×Nat)} (u:R=lB f iw (k+1) c last d σ) (x:R≠ .stuck):∃e,io σ.gq (k:Int)=some e/\((e=f/\R= .ok (last,d) σ)\/(e≠f/\R=((if 3 < c+1 then kM (some e)else pure ())>>=λ_=>VP f iw k c last d e) σ)):=by
 have h:R=(CV k>>=λe=>if e=f then pure (last,d)else ((if 3 < c+1 then kM (some e)else pure ())>>=λ_=>VP f iw k c last d e)) σ:=u;rw[M.gn]at h;unfold CV at h;cases hq:io σ.gq (k:Int)with
 |none=>grind
 |some e=>
  rw[hq]at h;dsimp only at h;refine⟨e,rfl,?_⟩;by_cases l:e=f
  .rw[gv l]at h;exact .inl ⟨l,h⟩
  grind
def RF.eql {g : Nat->Nat} {σ:Ab} (h:RF E g σ W) (d:σ.gR (some i)=true) (k:σ.gR (some j)=true):(binOp .eql 65 (nV g i) (nV g j)).run prog W= .ok (.bool (decide (i=j))) W:=by
 obtain⟨L,rfl,hr⟩:=h;have:=Ds (hr.gR d) (hr.gR k);rw[show decide (ir L.gI (some i)=ir L.gI (some j))=decide (i=j)from decide_eq_decide.2 ⟨λe=>hr.inj _ _ (jv e),λe=>by rw[e]⟩]at this;exact this
theorem acT {σ:Ab} (h:RF E f σ w) (fi iw:Nat) (aV:(σ.gV fi).isSome=true) (bp:some iw∈σ.gq) (hs:yy fi iw σ≠ .stuck):
  Calls prog 364 #[Bp E,nV f fi,nV f iw] w (λe w'=>Leaves E f σ.nodes.length w (yy fi iw σ) (λg r=> .tuple #[nV g r.1,nV g r.2]) e w'/\aiL (yy fi iw σ)):=by
 obtain⟨R,hR⟩:∃R,R=yy fi iw σ:=⟨_,rfl⟩;rw[<-hR]at hs|-;obtain⟨n,hn⟩:∃n,n=(posOf σ.gq (some iw)).toNat:=⟨_,rfl⟩;have bo:R=lB fi iw n 0 iw fi σ:=by rw[hR,hn];rfl
 have bx:posOf σ.gq (some iw)=(n:Int):=by
  rw[hn];rcases tN σ.gq (some iw)with⟨bQ,_⟩|⟨m,hp,_⟩
  .grind
  .omega
 have bA:Wf σ:=by have⟨L,_,hr⟩:=h;exact hr.wf
 have X:(σ.gV iw).isSome=true:=bA.gq _ bp;have bq:σ.gR (some iw)=true:=Ab.wO (bA.gq _ bp);have bW:σ.gq.length<=4096:=by have⟨L,_,hr⟩:=h;exact hr.x7
 have bP:n<=4096:=by
  rcases tN σ.gq (some iw)with⟨bQ,_⟩|⟨m,hp,hm,_⟩
  .omega
  .omega
 have c2:=h.lt;have aW:E.w0.heap.size<=w.heap.size:=by have⟨L,_,hr⟩:=h;exact hr.fr.size
 have br:E.bs<=w.heap.size:=by have⟨L,_,hr⟩:=h;have:=hr.bB;omega
 have HF:=fM h;have HR:=fM bo;have HS:=fM hs;have bE:=fM bq;have HP:=fM bx;clear h hR bo hs;refine(BI (n:=9)).1 ?_;refine BK func364 rfl trivial ?_ rfl;simp only[ntmps364,xQ,rn,uI,Nat.reduceAdd,Nat.reduceSub,xR,xS,xU,xV,rp,tU];obtain⟨w5,ap⟩:∃w5,w5=((((w.alloc (gz #[Bp E] 116)).alloc (gz #[nV f fi] 65)).alloc (gz #[nV f iw] 65)).alloc (gz #[.pointer none] 65)).alloc (gz #[.pointer none] 65):=⟨_,rfl⟩;have bu:Kept [] w w5:=by rw[ap];exact(((((Kept.refl _ _).alloc _).alloc _).alloc _).alloc _).alloc _
 have bB:w5.heap.size=w.heap.size+1+1+1+1+1:=by rw[ap];simp
 have⟨b3,b4,b5,b6,b7⟩:=RH w (gz #[Bp E] 116) (gz #[nV f fi] 65) (gz #[nV f iw] 65) (gz #[.pointer none] 65) (gz #[.pointer none] 65);rw[<-ap]at b3 b4 b5 b6 b7;have c4:=fN b4 0;have c5:=fN b5 0;have c6:=fN b6 0;have c7:=fN b7 0;have f6:=gh b6 0;have f7:=gh b7 0;dsimp at c4 c5 c6 c7;have av:=fM ap;have b0:=fM bu;have bc:=fM bB;have B3:=fM b3;have B4:=fM b4;have B5:=fM b5;have B6:=fM b6;have B7:=fM b7;clear ap bu bB b3 b4 b5 b6 b7
 gi_wp2_with fail
 rw[<-av.out];rename_i K1 bh;refine Db (Q:=Exit.then (λa W'=>a={tmps:=#[Bp E,nV f fi,nV f iw,gE w.heap.size,gE (w.heap.size+1),gE (w.heap.size+1+1),gE (w.heap.size+1+1+1),gE (w.heap.size+1+1+1+1),undef,undef,undef,nV f iw,nV f fi,undef,undef,undef,undef,undef,undef,undef,undef,undef,undef,undef,undef,undef,undef,undef,undef,undef,undef,undef,undef,undef,undef,undef,undef,undef,undef,undef,undef,undef,undef,undef,undef,undef,undef,undef,undef,undef,undef,undef,undef,undef,undef,undef,undef,undef,undef,undef,undef,undef,undef,undef,undef,undef,undef,undef,undef,undef],defers:=[]}/\W'.heap.size=w5.heap.size/\Kept [] w W'/\Kept [w.heap.size+1+1+1,w.heap.size+1+1+1+1] w5 W'/\W'.heap[w.heap.size+1+1+1]?=some (gz #[nV f iw] 65)/\W'.heap[w.heap.size+1+1+1+1]?=some (gz #[nV f fi] 65)) (λ_ _ _=>False)) ?_ ?_
 .refine wpIn_wide.2 ?_;go_region;refine⟨rfl,by simp,((b0.out.setCell (.inr (by simp;omega)) _).setCell (.inr (by simp;omega)) _).drew,(((Kept.refl _ w5).setCell (.inl (by simp)) _).setCell (.inl (by simp)) _).drew,?_,?_⟩
  .exact(Below.heap_setCell _ _ _ _ (by simp)).trans (fR B6.out 0 _)
  .exact fR ((Below.heap_setCell _ _ _ _ (by simp)).trans B7.out) 0 _
 .intro e a W' hq;cases e with
  |normal=>
   obtain⟨rfl,aX,bv,aF,g6,g7⟩:=hq;show K1 _ W';dsimp only;refine bh _ _ ?_;have g3:=aF.at B3.out (by simp;omega);have g4:=aF.at B4.out (by simp);have g5:=aF.at B5.out (by simp);rw[bc.out]at aX;have ax:=fM aX;have b1:=fM bv;have G3:=fM g3;have G4:=fM g4;have G5:=fM g5;have G6:=fM g6;have G7:=fM g7;clear aX bv aF g3 g4 g5 g6 g7 c4 c5 c6 c7 f6 f7 B3 B4 B5 B6 B7 b0 bc av w5 bh
   gi_wp2_with fail
   rw[ax.out];have a2:Kept [] W' (W'.alloc (gz #[fV 0] 3)):=(Kept.refl _ _).alloc _;have g8:(W'.alloc (gz #[fV 0] 3)).heap[w.heap.size+1+1+1+1+1]?=some (gz #[fV 0] 3):=by rw[<-ax.out];exact fP W' _
   have bC:(W'.alloc (gz #[fV 0] 3)).heap.size=w.heap.size+1+1+1+1+1+1:=by rw[xW,ax.out]
   have ae:=fM (b1.out.trans a2);replace G3:=fM (a2.at G3.out (by simp));replace G4:=fM (a2.at G4.out (by simp));replace G5:=fM (a2.at G5.out (by simp));replace G6:=fM (a2.at G6.out (by simp));replace G7:=fM (a2.at G7.out (by simp));have G8:=fM g8;have ah:=fM bC;clear a2 g8 bC b1 ax;generalize W'.alloc (gz #[fV 0] 3)=W8 at *;have c3:=fN G3.out 0;have c5:=fN G5.out 0;dsimp at c3 c5;have bN:=(HF.out.ib ae.out).lt;have aK:=fM ((HF.out.ib ae.out.drew).ahc (some iw) bE.out);rw[HP.out]at aK;rename_i Kb c0 Ka bj;obtain⟨P3,bm⟩:∃P3:Act->gm->Prop,P3=(λa G=>∃ay az aA aB,a={tmps:=#[Bp E,nV f fi,nV f iw,gE w.heap.size,gE (w.heap.size+1),gE (w.heap.size+1+1),gE (w.heap.size+1+1+1),gE (w.heap.size+1+1+1+1),gE (w.heap.size+1+1+1+1+1),undef,undef,nV f iw,nV f fi,ay,az,aA,aB,vO (w.heap.size+1+1+1+1+1+1),undef,undef,undef,undef,undef,undef,undef,undef,undef,undef,undef,undef,undef,undef,undef,undef,undef,undef,undef,undef,undef,undef,undef,undef,undef,undef,undef,undef,undef,undef,undef,undef,undef,undef,undef,undef,undef,undef,undef,undef,undef,undef,undef,undef,undef,undef,undef,undef,undef,undef,undef,undef],defers:=[]}/\Kept [] W8 G/\G.heap[w.heap.size+1+1+1+1+1+1]?=some (gz #[jG E.bB 188] 274)/\G.heap[w.heap.size+1+1+1+1+1+1+1]?=some (gz #[fV n] 3)):=⟨_,rfl⟩;have aM:=fM bm;clear bm;refine Db (Q:=Exit.then P3 (λ_ _ _=>False)) ?_ ?_
   .refine wpIn_wide.2 ?_
    go_region_with (go_at_call 376;refine aK.out.mono ?_;rintro e w9 ⟨rfl,bz⟩;have aO:=fM bz;clear bz)
    all_goals
     show P3 _ w9;rw[aM.out,ah.out];refine⟨_,_,_,_,rfl,?_,?_,?_⟩
     .rw[aO.out];exact(((Kept.refl [] W8).drew).alloc _).alloc _
     .rw[aO.out,<-ah.out];exact(tD W8.drew _ _).1
     .rw[aO.out,<-ah.out];exact(tD W8.drew _ _).2
   .intro e a G hq;cases e with
    |normal=>
     replace hq:P3 a G:=hq;rw[aM.out]at hq;obtain⟨ay,az,aA,aB,rfl,I,g9,bg⟩:=hq;show Ka _ G;dsimp only;refine bj _ _ ?_;have ca:w.heap.size+1+1+1+1+1+1<=G.heap.size:=by have:=ah.out;have:=I.size;omega
     have bt:RI E f σ w n fi iw ⟨f,σ,0,iw,fi⟩ G:=
      {le:=iM _,ex:=λ_ _=>rfl,nl:=gL _,ll:=Ab.mi (σ:=σ) (i:=iw) X,ml:=Ab.mi (σ:=σ) (i:=fi) aV,fe:=aV,be:=X,te:=X
       sf:=HF.out.sf (ae.out.trans I) (by
        intro p hp;simp only[kU,Al,yC]at hp;rcases hp with rfl|rfl|rfl|rfl
        .exact⟨by simp,I.at G4.out (by simp)⟩
        .exact⟨by omega,I.at G5.out (by simp)⟩
        .exact⟨by omega,I.at G6.out (by simp)⟩
        .exact⟨by omega,I.at G7.out (by simp)⟩)
       b3:=I.at G3.out (by simp),b8:=I.at G8.out (by simp),bl:=g9,bn:=bg
       fr:= .gN (ae.out.trans I)}
     have bF:=fM bt;clear bt I g9 bg G3 G4 G5 G6 G7 G8 ae ah aK aM c3 c5 bN bj Ka P3 W8
     gi_wp2_with fail
     refine adq (b:=E.bB) (j:=188) (bs:=w.heap.size+1+1+1+1+1+1) (by omega) bP rfl (λs:Gh=>ir s.g (io s.σ.gq ((n - 1 - s.c:Nat):Int))) Gh.c
      (λs W=>RI E f σ w n fi iw s W/\R=lB fi iw (n - s.c) s.c s.last s.mark s.σ)
      (λc s W=>c= .exit 0/\RI E f σ w n fi iw s W/\R= .ok (s.last,s.mark) s.σ)
      ?_ ?_ ?_ ?_ ?_ ⟨f,σ,0,iw,fi⟩ rfl ⟨bF.out,HR.out⟩ (λx=>{tmps:=#[Bp E,nV f fi,nV f iw,gE w.heap.size,gE (w.heap.size+1),gE (w.heap.size+1+1),gE (w.heap.size+1+1+1),gE (w.heap.size+1+1+1+1),gE (w.heap.size+1+1+1+1+1),ku x,undef,nV f iw,nV f fi,ay,az,aA,aB,vO (w.heap.size+1+1+1+1+1+1),ku x,undef,undef,undef,undef,undef,undef,undef,undef,undef,undef,undef,undef,undef,undef,undef,undef,undef,undef,undef,undef,undef,undef,undef,undef,undef,undef,undef,undef,undef,undef,undef,undef,undef,undef,undef,undef,undef,undef,undef,undef,undef,undef,undef,undef,undef,undef,undef,undef,undef,undef,undef],defers:=[]}) ?assign ?body ?done ?stop
     .rintro s A B row ⟨u,Z⟩ hg hr;exact⟨u.grown hg hr (by omega) (by omega),Z⟩
     .rintro c s A B row ⟨h0,u,Z⟩ hg hr;exact⟨h0,u.grown hg hr (by omega) (by omega),Z⟩
     .rintro s W ⟨u,_⟩;rw[fN u.bn];rfl
     .rintro s W ⟨u,_⟩;rw[fN u.bl];rfl
     .rintro s W q ⟨u,_⟩ bw rfl;exact u.sf.rf.atO _
     case assign=>
      intro l x W K hK;dsimp only;gi_wp2;exact hK
     case body=>
      rintro l s W ⟨u,Z⟩ bw;dsimp only;obtain⟨k,hk⟩:∃k,k=n - 1 - s.c:=⟨_,rfl⟩;have bM:n - s.c=k+1:=by omega
      rw[bM]at Z;have⟨e,hge,hcase⟩:=Tf Z HS.out;rw[<-hk,hge];rw[show ku (ir s.g (some e))=nV s.g e from rfl];have a7:s.σ.gR (some e)=true:=by
       have⟨L,_,hr,_⟩:=u.sf;exact hr.wf.gq _ (U2 hge)
      have c3:=fN u.b3 0;dsimp at c3;have c4:W.cell? ⟨w.heap.size+1,0,none⟩=some (nV s.g fi):=by
       rw[fN (u.sf.at (v:=nV f fi) (by simp)),show nV s.g fi=nV f fi by unfold nV;rw[u.ex fi (Ab.mi (σ:=σ) (i:=fi) aV)]];rfl
      have c8:=fN u.b8 0;have f8:=gh u.b8 0;dsimp at c8;have aU:=u.sf.rf.eql a7 u.fe;have c1:s.c < 4096:=by omega
      rcases hcase with⟨rfl,aj⟩|⟨bO,aj⟩
      .rw[vQ rfl]at aU;have H1:=fM u;have H3:=fM aj;clear u Z aj hge a7;unfold nV at *;gi_wp2;exact⟨KeepsFrom.refl _ _,s,rfl,H1.out,H3.out⟩
      .rw[wy bO]at aU;have aQ:=u.next bw aW (fV ((s.c:Int)+1)) (by simp);obtain⟨W6,aD⟩:∃W6,W6=W.setCell ⟨w.heap.size+1+1+1+1+1,0,none⟩ (fV ((s.c:Int)+1)):=⟨_,rfl⟩;have aH:KeepsFrom G.heap.size W W6:=by rw[aD];exact(Yg _ _ _).from _
       rw[<-aD]at aQ;have ac:=fM aQ;have a5:=fM aH;have aw:=fM aD;have a1:=fM aj;have aq:=fM a7;clear u Z aj hge aQ aH aD a7;unfold nV at *;by_cases h3:3 < s.c+1;have ag:Hid (R=(kM (some e)>>=λ_=>VP fi iw k s.c s.last s.mark e) s.σ):=by
        refine fM ?_;have:=a1.out
        rwa [gv h3]at this
       gi_wp2_with fail
       rw[<-aw.out];refine LO l (callsIn_wide.2 (Dz (aaG E (some e)) ac.out.sf ag.out HS.out rfl ?_));rintro a U WA J N z O C;have hA:=ac.out.step (λ_ _=>rfl) J z (J4 _ _ _ _ C) N;have Y:=J4 _ _ _ _ C e aq.out;have aR:=a5.out.trans (z.pA G.heap.size);have aS:=O;clear J N z O C ac ag a1 a5 aq aw c3 c4 c8 f8 aU
       rotate_left
       have ag:Hid (R=VP fi iw k s.c s.last s.mark e s.σ):=by
        refine fM ?_;have:=a1.out
        rwa [gH h3]at this
       obtain⟨U,a9⟩:∃U,U=s.σ:=⟨_,rfl⟩;obtain⟨WA,aE⟩:∃WA,WA=W6:=⟨_,rfl⟩;have hA:RI E f σ w n fi iw ⟨s.g,U,s.c+1,s.last,s.mark⟩ WA:=by rw[a9,aE];exact ac.out
       have Y:U.gR (some e)=true:=by rw[a9];exact aq.out
       have aR:KeepsFrom G.heap.size W WA:=by rw[aE];exact a5.out
       have aS:R=VP fi iw k s.c s.last s.mark e U:=by rw[a9];exact ag.out
       have bK:=fM (aE.trans aw.out);clear ac a1 a5 aq ag a9 aE aw
       all_goals
        have c3:=fN hA.b3 0;dsimp at c3;have aJ:=fM (hA.sf.rf.ai6 (some e) Y);have HA:=fM hA;have au:=fM aS;have F:=fM aR;clear hA aS aR
        gi_wp2_with fail
        try rw[<-bK.out]
        refine(LO l (callsIn_wide.2 aJ.out)).mono ?_;rintro e' w_ ⟨rfl,bS⟩;subst bS;by_cases V:some e∈U.act
        .have ak:R=(kB e>>=λd=>yk (some e) (some d)>>=λ_=>qg (some e) (some d)>>=λ_=>lQ s.last>>=λ_=>jr d>>=λpl=>mL pl s.last>>=λ_=>lB fi iw k (s.c+1) d (if s.last=iw then d else s.mark)) U:=by
          rw[au.out];unfold VP;rw[gH (by simpa using V)]
         have af:=fM ak;rw[vQ V];clear ak V au aJ
         gi_wp2_with fail
         refine LO l (callsIn_wide.2 (aju (YC E e) HA.out.sf af.out HS.out rfl ?_));rintro d y bT W2 x1 J N z O C;have Z:=HA.out.step x1 J z (Ro _ _ _ _ C) N;have bU:y e=s.g e:=x1 e (Ab.mi (σ:=U) (i:=e) Y);have a0:=fM (Ur C);have ad:=fM Z;have bb:=fM O;replace F:=fM (F.out.trans (z.pA G.heap.size));have c3:=fN Z.b3 0;dsimp at c3;clear Z x1 J N z O C HA af Y
         gi_wp2_with fail
         refine LO l (callsIn_wide.2 (Dz (ae8 E (some e) (some d)) ad.out.sf bb.out HS.out (by show _=#[_,nV y e,nV y d];simp) ?_));rintro a3 cc W3 J N z O C;have aP:=ad.out.step (λ_ _=>rfl) J z (Nk _ _ _ _ _ C) N;replace a0:=fM (Nk _ _ _ _ _ C d a0.out);have aL:=fM aP;have a1:=fM O;replace F:=fM (F.out.trans (z.pA G.heap.size));have c3:=fN aP.b3 0;dsimp at c3;clear aP J N z O C ad bb
         gi_wp2_with fail
         refine LO l (callsIn_wide.2 (Dz (adV E (some e) (some d)) aL.out.sf a1.out HS.out (by show _=#[_,nV y e,nV y d];simp) ?_));rintro a4 bD W4 J N z O C;have h4:=aL.out.step (λ_ _=>rfl) J z (Ni _ _ _ _ _ C) N;replace a0:=fM (Ni _ _ _ _ _ C d a0.out);have ar:=fM h4;have al:=O;replace F:=fM (F.out.trans (z.pA G.heap.size));have c5:W4.cell? ⟨w.heap.size+1+1,0,none⟩=some (nV y iw):=by
          have c9:y iw=f iw:=h4.ex iw (Ab.mi (σ:=σ) (i:=iw) X);rw[fN (h4.sf.at (k:=w.heap.size+1+1) (v:=nV f iw) (by simp)),show nV y iw=nV f iw by simp];rfl
         have c6:=fN (h4.sf.at (k:=w.heap.size+1+1+1) (v:=nV y s.last) (by simp)) 0;have c7:=fN (h4.sf.at (k:=w.heap.size+1+1+1+1) (v:=nV y s.mark) (by simp)) 0;have f7:=gh (h4.sf.at (k:=w.heap.size+1+1+1+1) (v:=nV y s.mark) (by simp)) 0;dsimp at c6 c7;have an:(binOp .eql 65 (nV y s.last) (nV y iw)).run prog W4= .ok (.bool (decide (s.last=iw))) W4:=h4.sf.rf.eql h4.te h4.be;clear h4 J N z O C aL a1;unfold nV at c5 c6 c7 an;generalize hmk:(if s.last=iw then d else s.mark)=mk at al;by_cases aa:s.last=iw;rw[vQ aa]at an;have⟨q1,q2⟩:=ar.out.afI d a0.out aW br;obtain⟨W5,aC⟩:∃W5,W5=W4.setCell ⟨w.heap.size+1+1+1+1,0,none⟩ (gE (y d)):=⟨_,rfl⟩;have q3:RI E f σ w n fi iw ⟨y,bD,s.c+1,s.last,mk⟩ W5:=by rw[aC,<-hmk,gv aa];exact q1
         have q4:KeepsFrom G.heap.size W4 W5:=by rw[aC];exact q2.pA G.heap.size
         have H5:=fM q3;replace F:=fM (F.out.trans q4);have av:=fM aC;have aN:=fM al;clear q1 q2 q3 q4 aC ar al aa hmk
         gi_wp2_with fail
         rw[<-av.out]
         rotate_left
         rw[wy aa]at an;have H5:=fM (show RI E f σ w n fi iw ⟨y,bD,s.c+1,s.last,mk⟩ W4 by rw[<-hmk,gH aa];exact ar.out);have aN:=fM al;clear ar al aa hmk
         gi_wp2_with fail
         all_goals
          refine LO l (callsIn_wide.2 (Dz (Z5 E s.last) H5.out.sf aN.out HS.out rfl ?_));rintro a6 cf W7 J N z O C;have h6:=H5.out.step (λ_ _=>rfl) J z (Hd _ _ _ _ C) N;have h7:=h6.k0 ((Kept.refl _ W7).drew);have c6:=fN (h6.sf.at (k:=w.heap.size+1+1+1) (v:=nV y s.last) (by simp)) 0;dsimp at c6;replace a0:=fM (Hd _ _ _ _ C d a0.out);have H7:=fM h7;have bI:=fM O;replace F:=fM ((F.out.trans (z.pA G.heap.size)).trans ((Fr.gN (bs:=E.bs) ((Kept.refl _ W7).drew)).pA G.heap.size));clear h6 h7 J N z O C H5 aN;unfold nV at c6
          gi_wp2_with fail
          have aY:Hid (Calls prog 90 #[nV y d] W7.drew λe WE=>∃pl H,e=ig (pV y pl)/\RI E f σ w n fi iw ⟨y,H,s.c+1,s.last,mk⟩ WE/\KeepsFrom G.heap.size W WE/\R=(mL pl s.last>>=λ_=>lB fi iw k (s.c+1) d mk) H/\H.gR (some d)=true):=by
           refine fM ?_;refine Dz (aet E d) H7.out.sf bI.out HS.out rfl ?_;rintro pl H WE J N z O C;exact⟨pl,H,rfl,H7.out.step (λ_ _=>rfl) J z (Nj _ _ _ _ C) N,F.out.trans (z.pA G.heap.size),O,Nj _ _ _ _ C d a0.out⟩
          have aZ:Hid (∀pl H WE,RI E f σ w n fi iw ⟨y,H,s.c+1,s.last,mk⟩ WE->KeepsFrom G.heap.size W WE->R=(mL pl s.last>>=λ_=>lB fi iw k (s.c+1) d mk) H->H.gR (some d)=true->Calls prog 166 #[pV y pl,.iface 65 (nV y s.last)] WE λe WP=>e=pL/\∃ab,RI E f σ w n fi iw ⟨y,ab,s.c+1,s.last,mk⟩ WP/\KeepsFrom G.heap.size W WP/\R=lB fi iw k (s.c+1) d mk ab/\ab.gR (some d)=true):=by
           refine fM ?_;intro pl H WE y1 y2 y3 y4;refine Dz (afq E pl s.last) y1.sf y3 HS.out rfl ?_;rintro a8 ab WP J N z O C;exact⟨rfl,ab,y1.step (λ_ _=>rfl) J z (Nl _ _ _ _ _ C) N,y2.trans (z.pA G.heap.size),O,Nl _ _ _ _ _ C d y4⟩
          unfold nV at aY aZ
          gi_region_with (first
           |(refine(LO l (callsIn_wide.2 aY.out)).mono ?_;rintro e' WE ⟨pl,H,rfl,y1,y2,y3,y4⟩;have bX:WE.cell? ⟨w.heap.size+1+1+1,0,none⟩=some (gE (y s.last)):=by {rw[fN (y1.sf.at (k:=w.heap.size+1+1+1) (v:=nV y s.last) (by simp))];rfl};have CP:=fM (aZ.out pl H WE y1 y2 y3 y4);clear y1 y2 y3 y4)
           |(refine(LO l (callsIn_wide.2 CP.out)).mono ?_;rintro e' WP ⟨rfl,ab,y1,y2,y3,y4⟩;have bY:WP.cell? ⟨w.heap.size+1+1+1,0,none⟩=some (gE (y s.last)):=by {rw[fN (y1.sf.at (k:=w.heap.size+1+1+1) (v:=nV y s.last) (by simp))];rfl};have bZ:=gh (y1.sf.at (k:=w.heap.size+1+1+1) (v:=nV y s.last) (by simp)) 0;have b9:=fM (y1.afH d y4 aW br);have ba:=fM y3;have bH:=fM y2;clear y1 y2 y3 y4))
          all_goals
           gi_wp2;exact⟨bH.out.trans (b9.out.2.pA G.heap.size),_,rfl,b9.out.1,by rw[show n - (s.c+1)=k by omega];exact ba.out⟩
        .have ak:R=(kq (some e)>>=λ_=>lB fi iw k (s.c+1) s.last s.mark) U:=by
          rw[au.out];unfold VP;rw[gv V]
         have af:=fM ak;rw[wy V];clear ak V au aJ
         gi_wp2_with fail
         refine LO l (callsIn_wide.2 (Dz (acu E (some e)) HA.out.sf af.out HS.out rfl ?_));rintro a bT W2 J N z O C;have Z:=HA.out.step (λ_ _=>rfl) J z (UM _ _ _ _ C) N;have ad:=fM Z;have bL:=fM O;have b2:=fM (F.out.trans (z.pA G.heap.size));clear Z J N z O C HA af F c3;gi_wp2;exact⟨b2.out,_,rfl,ad.out,by rw[show n - (s.c+1)=k by omega];exact bL.out⟩
     rintro D s W hD hc ⟨u,Z⟩ hK;have aT:R= .ok (s.last,s.mark) s.σ:=by
      rw[Z,show n - s.c=0 by omega];rfl
     clear Z hc
     rotate_left
     rintro D c s W hD ⟨rfl,u,aT⟩ hK
     all_goals
      have c6:=fN (u.sf.at (k:=w.heap.size+1+1+1) (v:=nV s.g s.last) (by simp)) 0;have c7:=fN (u.sf.at (k:=w.heap.size+1+1+1+1) (v:=nV s.g s.mark) (by simp)) 0;have f6:=gh (u.sf.at (k:=w.heap.size+1+1+1) (v:=nV s.g s.last) (by simp)) 0;have f7:=gh (u.sf.at (k:=w.heap.size+1+1+1+1) (v:=nV s.g s.mark) (by simp)) 0;dsimp at c6 c7;have s6:=oP (u.sf.at (k:=w.heap.size+1+1+1) (v:=nV s.g s.last) (by simp)) 0 (nV s.g s.last) rfl;have s7:=oP (u.sf.at (k:=w.heap.size+1+1+1+1) (v:=nV s.g s.mark) (by simp)) 0 (nV s.g s.mark) rfl;have S6:=fM s6;have S7:=fM s7;have H1:=fM u;have bJ:=fM aT;have HD:=fM hD;have bG:=fM hK;clear u aT hD hK s6 s7
      gi_wp2_with fail
      rename_i Kx bk;obtain⟨ai,aI⟩:∃ai:Act->gm->Prop,ai=(λa W'=>∃bd bf,a={tmps:=#[Bp E,nV f fi,nV f iw,gE w.heap.size,gE (w.heap.size+1),gE (w.heap.size+1+1),gE (w.heap.size+1+1+1),gE (w.heap.size+1+1+1+1),gE (w.heap.size+1+1+1+1+1),undef,undef,nV f iw,nV f fi,ay,az,aA,aB,vO (w.heap.size+1+1+1+1+1+1),undef,undef,undef,undef,undef,undef,undef,undef,undef,undef,undef,undef,undef,undef,undef,undef,undef,undef,undef,undef,undef,undef,undef,undef,undef,undef,undef,undef,undef,undef,undef,undef,undef,undef,undef,undef,undef,undef,undef,undef,undef,undef,undef,undef,undef,undef,undef,undef,undef,undef,bd,bf],defers:=[{target:=Target.collected D,args:=#[]}]}/\W'=W.drew):=⟨_,rfl⟩;have aG:=fM aI;clear aI;refine Db (Q:=Exit.then ai (λ_ _ _=>False)) ?_ ?_
      .refine wpIn_wide.2 ?_;go_region
       all_goals
        show ai _ _;rw[aG.out];refine⟨_,_,rfl,?_⟩;show((W.setCell ⟨w.heap.size+1+1+1,0,none⟩ (nV s.g s.last)).setCell ⟨w.heap.size+1+1+1+1,0,none⟩ (nV s.g s.mark)).drew=W.drew;rw[S6.out,S7.out]
      .intro e a W' hq;cases e with
       |normal=>
        replace hq:ai a W':=hq;rw[aG.out]at hq;obtain⟨bd,bf,rfl,rfl⟩:=hq;show Kx _ _;dsimp only;refine bk _ _ ?_;clear bk;have c6:W.drew.cell? ⟨w.heap.size+1+1+1,0,none⟩=some (nV s.g s.last):=c6;gi_wp2;have bi:W.drew.heap[D]?=some (.deferred (some [])):=bG.out;refine⟨by simp,.inl ⟨_,_,rfl,sL bi,?_⟩⟩;have hD:=HD.out;have h7:=H1.out.k0 ((Kept.refl _ W).drew);have d6:(W.drew.putObj D (.deferred none)).cell? ⟨w.heap.size+1+1+1,0,none⟩=some (nV s.g s.last):=(zu W.drew (by omega)).trans c6;have d7:(W.drew.putObj D (.deferred none)).cell? ⟨w.heap.size+1+1+1+1,0,none⟩=some (nV s.g s.mark):=(zu W.drew (by omega)).trans c7;refine⟨.tuple #[nV s.g s.last,nV s.g s.mark],by simp[results,results364,asAddr,Result.andThen,go_sem,d6,d7],?_⟩;rw[bJ.out];have⟨L,hLe,hr,_⟩:=h7.sf;exact⟨⟨s.g,h7.ex,h7.nl,rfl,⟨L,hLe,hr.afs bi rfl (by omega)⟩,h7.fr.take (by omega) _⟩,λr cb bR=>by cases bR;exact⟨h7.ll,h7.ml⟩⟩
       |_=>exact hq.elim
    |_=>exact hq.elim
  |_=>exact hq.elim
end
def ToK (E:Env) (L:Loc) (i:Nat) (σ':Ab) (w w':gm):Prop:=∃d,d.gI=L.gI/\(∀x,x≠i->d.kv x=L.kv x)/\Rel E d σ' w'/\Fr E.bs w w'
theorem Rel.agO {σ σ':Ab} (h:Rel E L σ w) (i:Nat) (k:gG) (I:(σ.gV i).isSome=true) (Y:KT E.bs [135,137,278] w w') (O:k.ownBlock=(L.kv i).ownBlock\/∀g,k.ownBlock=some g->w.heap.size<=g)
  (d:σ'.nodes.length=σ.nodes.length) (N:∀j V,σ'.gV j=some V->∃e,σ.gV j=some e/\V.name=e.name) (G:∀j,σ'.gV j=none->σ.gV j=none)
  (U:∀j Z,σ'.nodes[j]?=some Z->li E.bs {L with kv:=λx=>if x=i then k else L.kv x} w' j Z) (wf:Wf σ')
  (s0:σ'.gq=σ.gq:=by rfl) (s9:σ'.act=σ.act:=by rfl) (s1:σ'.head=σ.head:=by rfl) (s2:σ'.form=σ.form:=by rfl) (s3:σ'.mode=σ.mode:=by rfl) (s4:σ'.kept=σ.kept:=by rfl) (s5:σ'.iL=σ.iL:=by rfl) (s6:σ'.jJ=σ.jJ:=by rfl) (s7:σ'.gI=σ.gI:=by rfl) (s8:σ'.behind=σ.behind:=by rfl) (sw:σ'.waiting=σ.waiting:=by rfl) (so:σ'.nT=σ.nT:=by rfl) (sp:σ'.iU=σ.iU:=by rfl) (sf:σ'.fresh=σ.fresh:=by rfl) (d1:σ'.qu=σ.qu:=by rfl) (d2:σ'.rH=σ.rH:=by rfl) (d3:σ'.pP=σ.pP:=by rfl):ToK E L i σ' w w':=by
 have J:=Ab.mi (σ:=σ) (i:=i) I;have X:∀j g,j < σ.nodes.length->j≠i->k.ownBlock=some g->(L.kv j).ownBlock≠some g:=by
  intro j g l y hg C;rcases O with e|e
  .rw[e]at hg;exact h.BZ i j g J l (wB y) hg C
  .have⟨c,m,hc⟩:=h.zG l C;grind
 refine⟨{L with kv:=λx=>if x=i then k else L.kv x},rfl,λx hx=>gH hx,h.X4 (L':={L with kv:=λx=>if x=i then k else L.kv x}) Y (λ_ _=>rfl) rfl rfl rfl U h.inj ?_ ?_ ?_ ?_ wf ?_ (LN d) s0 s9 s1 s2 s3 s4 s5 s6 s7 s8 sw so sp d1 d2 d3,Y.fr (by decide)⟩
 .intro a b g H z u hg;rw[d]at H z;by_cases h1:a=i
  .grind
  .simp only[gH h1]at hg;by_cases h2:b=i
   .grind
   .simp only[gH h2];exact h.BZ a b g H z u hg
 .intro j l K;rw[d]at l;have F:=G j K;have y:j≠i:=by rintro rfl;rw[F]at I;cases I
  simp only[gH y];exact h.Hw j l F
 .intro a b e g H a0 z u hg;rw[d]at z;have⟨e0,h0,hnm'⟩:=N a e H;exact h.uq a b e0 g h0 (by grind) z u hg
 .intro j l K;rw[d]at l;exact h.FX j l (G j K)
 .rw[d,sf];exact h.BU
theorem ZZ {σ:Ab} (h:Rel E L σ w) (F:σ.gV i=some ei) (I:σ.gV j=some ej) (G:j≠i) (hn:n<=ei.kids.length) (hl:ei.kids.length < 1048576):
  Calls prog 166 #[place (L.gI i) n,(Nd.el (L.gI j)).val] w λe w'=>e=pL/\ToK E L i ((σ.gS i {ei with kids:=ins ei.kids n (.el j)}).gS j {ej with je:=some i}) w w':=by
 have C:=Ab.gW F;have U:=Ab.gW I;have y:(σ.gV i).isSome=true:=by rw[F];rfl
 have K:(σ.gV j).isSome=true:=by rw[I];rfl
 have aI:=h.xm F;have lI:=h.AB F;have aJ:=h.xm I;have lJ:=h.AB I;refine(VM E.bs _ n _ _ _ _ _ _ _ _ _ _ _ w (h.vG F) (h.vG I) (λe=>G (h.inj _ _ e)) (λg hg=>h.BZ j i g U C G hg) (by grind) (by grind) h.bw).mono ?_;rintro e w' ⟨rfl,⟨H,E1,f1⟩,E2,Y⟩;have X:∀s∈L.gI j::L.gI i::(L.kv i).ownBlock.toList,∃x∈[j,i],s=L.gI x\/(L.kv x).ownBlock=some s:=by
  intro s N;rcases List.mem_cons.1 N with rfl|N
  .simp
  rcases List.mem_cons.1 N with rfl|N
  .simp
  .grind
 have Z:=h.ktJ [j,i] (by grind) X Y;have O:((σ.gS i {ei with kids:=ins ei.kids n (.el j)}).gV j).isSome=true:=by rw[Ab.iG G];exact K
 have J:∀x e,x < σ.nodes.length->zr w (L.av x) e->zr w' (L.av x) e:=λx e _ ha=>Z.row ha (by decide);refine⟨rfl,h.agO i H y Z f1 (by simp[Ab.gS]) ?_ ?_ ?_ ?_⟩
 .intro x e' d;by_cases u:x=j
  .subst u;rw[Ab.iR (by grind[Ab.gS])]at d;grind
  .rw[Ab.iG u]at d;by_cases l:x=i
   .subst l;rw[Ab.iR C]at d;grind
   .rw[Ab.iG l]at d;grind
 .intro x d;by_cases u:x=j
  .subst u;rw[Ab.iR (by grind[Ab.gS])]at d;cases d
  .rw[Ab.iG u]at d;by_cases l:x=i
   .subst l;rw[Ab.iR C]at d;cases d
   .rwa [Ab.iG l]at d
 .intro x nd d;rcases Ab.oL d with⟨rfl,rfl⟩|⟨u,d⟩
  .grind[li]
  .rcases Ab.oL d with⟨rfl,rfl⟩|⟨l,d⟩
   .show El E.bs w' _ _ _ _ (if x=x then H else L.kv x) _/\_;rw[gv rfl];refine⟨?_,J x _ C aI,lI⟩;show El E.bs w' (L.gI x) ei.name (L.av x) (ir L.gI ei.je) H ((ins ei.kids n (.el j)).map (Nd.map L.gI));rw[EH];exact E1
   .have hN:=h.ik [j,i] (by grind) X Y d (by grind);have V:x < σ.nodes.length:=(List.getElem?_eq_some_iff.1 d).1;exact hN.ext (σ:=σ) (GN.refl _ _) V rfl (gH l) (h.wfn d)
 .refine(h.wf.gS (e:={ei with kids:=ins ei.kids n (.el j)}) y (h.wf.je i ei F) ?_).gS O ?_ ?_
  .intro k z;rcases EI z with z|rfl
   .exact h.wf.kids i ei F k z
   .exact K
  .rw[Ab.qS y];exact y
  .intro k z;rw[Ab.lx y];exact h.wf.kids j ej I k z
theorem Z1 {σ:Ab} (h:Rel E L σ w) {k : Nd} (u:σ.gV i=some ei) (Z:σ.jk k=true) (V:∀j,k≠ .el j) (hn:n<=ei.kids.length) (hl:ei.kids.length < 1048576):
  Calls prog 166 #[place (L.gI i) n,(Nd.map L.gI k).val] w λe w'=>e=pL/\ToK E L i (σ.gS i {ei with kids:=ins ei.kids n k}) w w':=by
 have C:=Ab.gW u;have z:(σ.gV i).isSome=true:=by rw[u];rfl
 have N:=h.xm u;have X:=h.AB u;refine(acJ E.bs _ n _ _ _ _ _ (Nd.map L.gI k) w (h.vG u) (by grind) (by grind) h.bw (λj e=>by cases k<;>simp[Nd.map]at e;grind)).mono ?_;rintro e w' ⟨rfl,⟨y,K,O⟩,F⟩;have H:∀s∈L.gI i::(L.kv i).ownBlock.toList,∃x∈[i],s=L.gI x\/(L.kv x).ownBlock=some s:=by
  intro s I;rcases List.mem_cons.1 I with rfl|I
  .simp
  .grind
 have J:=h.ktJ [i] (by grind) H F;refine⟨rfl,h.agO i y z J O (by simp[Ab.gS]) ?_ ?_ ?_ ?_⟩
 .intro x Y d;by_cases l:x=i
  .subst l;rw[Ab.iR C]at d;grind
  .rw[Ab.iG l]at d;grind
 .intro x d;by_cases l:x=i
  .subst l;rw[Ab.iR C]at d;cases d
  .rwa [Ab.iG l]at d
 .intro x nd d;rcases Ab.oL d with⟨rfl,rfl⟩|⟨l,d⟩
  .show El E.bs w' _ _ _ _ (if x=x then y else L.kv x) _/\_;rw[gv rfl];refine⟨?_,J.row N (by decide),X⟩;show El E.bs w' (L.gI x) ei.name (L.av x) (ir L.gI ei.je) y ((ins ei.kids n k).map (Nd.map L.gI));rw[EH];exact K
  .have U:=h.ik [i] (by grind) H F d (by grind);have G:x < σ.nodes.length:=(List.getElem?_eq_some_iff.1 d).1;exact U.ext (σ:=σ) (GN.refl _ _) G rfl (gH l) (h.wfn d)
 .refine h.wf.gS z (h.wf.je i ei u) ?_;intro x d;rcases EI d with d|rfl
  .exact h.wf.kids i ei u x d
  omega
attribute [local go_sem] Oper.semAt_some
def U7 (dst:Nat) (k:Nd) (r:List Nd):yi dst (k::r)=(jr dst>>=λd=>(Fl d k>>=λ_=>yi dst r)):=rfl
theorem Zc (E:Env) {σ:Ab} {dst : Nat} (z:b≠dst) {G : yp} (J:σ.gV b=some G) {k : Nd} {r : List Nd} {I:Type} {K:Unit->M I} {R:pM I} (d:R=(yi dst (k::r)>>=K) σ) (F:R≠ .stuck) (H:σ.jk k=true):
  ∃l x,σ.gV dst=some l/\R=(yi dst r>>=K) x/\(∃y,x.gV b=some y/\y.kids=G.kids)/\x.nodes.length=σ.nodes.length/\
   ∀(L:Loc) (w:gm),Rel E L σ w->Calls prog 166 #[place (L.gI dst) l.kids.length,(Nd.map L.gI k).val] w (λe w'=>e=pL/\ToK E L dst x w w'):=by
 rw[U7,M.gn,M.gn]at d;unfold jr at d;cases hd:σ.gV dst with
 |none=>rw[hd]at d;exact absurd d F
 |some l=>
  rw[hd]at d;dsimp only at d;rw[M.gn]at d;cases k with
  |el j=>
   unfold Fl mL at d;dsimp only at d;cases hj:σ.gV j with
   |none=>rw[hd,hj]at d;exact absurd d F
   |some ej=>
    rw[hd,hj]at d;dsimp only at d;by_cases u:j≠dst/\l.kids.length<=l.kids.length/\l.kids.length < 1048576
    .rw[gv u]at d;refine⟨l,_,rfl,?_,?_,?_,λL w h=>ZZ h hd hj u.1 u.2.1 u.2.2⟩
     .rw[d,M.gn]
     .by_cases C:b=j
      .subst C;rw[Ab.iR (by rw[Ab.oa];exact Ab.gW hj)];grind
      .rw[Ab.iG C,Ab.iG z];grind
     simp[Ab.gS]
    .rw[gH u]at d;exact absurd d F
  |_=>
   unfold Fl ym at d;dsimp only at d;rw[hd]at d;dsimp only at d;by_cases u:l.kids.length < 1048576
   .rw[gv ⟨H,gL _,u⟩]at d;refine⟨l,_,rfl,?_,?_,?_,λL w h=>Z1 h hd H (by simp) (gL _) u⟩
    .rw[d,M.gn]
    .rw[Ab.iG z];grind
    simp[Ab.gS]
   .rw[gH (λq=>u q.2.2)]at d;exact absurd d F
theorem Rel.ahl {σ:Ab} (h:Rel E L σ w) (l:σ.gV i=some ei):To E L (σ.gS i {ei with kids:=[]}) w (w.setCell ⟨L.gI i,3,none⟩ (ji)):=by
 have y:=Ab.gW l;have u:(σ.gV i).isSome=true:=by rw[l];rfl
 have I:=h.xm l;have N:=h.AB l;have C:=h.vG l;have G:Kept [L.gI i] w (w.setCell ⟨L.gI i,3,none⟩ (ji)):=(Kept.refl _ w).setCell (.inl (by simp)) _;have F:∀s∈[L.gI i],∃x∈[i],s=L.gI x\/(L.kv x).ownBlock=some s:=by
  intro s K;exact⟨i,by simp,.inl (List.mem_singleton.1 K)⟩
 have H:=h.ktJ [i] (by grind) F G;refine h.afG i (ji) u H (.inr (by intro g hg;cases hg)) (by simp[Ab.gS]) ?_ ?_ ?_ ?_
 .intro x O k;by_cases d:x=i
  .subst d;rw[Ab.iR y]at k;grind
  .rw[Ab.iG d]at k;grind
 .intro x k;by_cases d:x=i
  .subst d;rw[Ab.iR y]at k;cases k
  .rwa [Ab.iG d]at k
 .intro x U k;rcases Ab.oL k with⟨rfl,rfl⟩|⟨d,k⟩
  .show El E.bs _ _ _ _ _ (if x=x then (ji)else L.kv x) _/\_;rw[gv rfl];refine⟨⟨fR C.iw 3 _,?_,by simp,C.WJ⟩,H.row I (by decide),N⟩;exact⟨rfl,.inl ⟨rfl,rfl⟩⟩
  .have J:=h.ik [i] (by grind) F G k (by grind);have z:x < σ.nodes.length:=(List.getElem?_eq_some_iff.1 k).1;exact J.ext (σ:=σ) (GN.refl _ _) z rfl (gH d) (h.wfn k)
 .refine h.wf.gS u (h.wf.je i ei l) ?_;simp
def aeA (b:Nat):Unit->M Unit:=λ_ d=>match d.gV b with
 |some eb'=> .ok () (d.gS b {eb' with kids:=[]})
 |none=> .stuck
theorem U8 {σ:Ab} (h:RF E f σ w) (b dst:Nat) (hs:handOver b dst σ≠ .stuck):Calls prog 366 #[nV f b,nV f dst] w (kh E f σ.nodes.length w (handOver b dst σ) uV):=by
 obtain⟨R,x⟩:∃R,R=handOver b dst σ:=⟨_,rfl⟩;rw[<-x]at hs|-;obtain⟨L,rfl,K⟩:=h;obtain⟨d,HB⟩:∃d,σ.gV b=some d:=by
  cases hq:σ.gV b with
  |some d=>simp
  |none=>unfold handOver at x;grind
 have N:b≠dst:=by
  intro e;unfold handOver at x;rw[HB]at x;dsimp only at x;rw[gv e]at x;exact absurd x hs
 have HR:R=(yi dst d.kids>>=aeA b) σ:=by
  unfold handOver at x;rw[HB]at x;dsimp only at x
  rwa [gH N]at x
 have U:=K.vG HB;have c3:=fN U.iw 3;dsimp at c3;have a1:=U.le;rw[wm]at a1;have⟨ao,cap,hkv⟩:=gw U.row;rw[wm]at hkv;rw[hkv]at c3;obtain⟨n,hn⟩:∃n,n=d.kids.length:=⟨_,rfl⟩;have HN:=fM hn;rw[<-hn]at c3 a1;have J:=fM hkv;have HS:=hs;have HE:=fM U;have ai:=K.fr.size;have ae:=iQ U.iw;clear hn hkv U;go_enter func366,ntmps366;go_wp21
 go_loopw [11] (λv wr=>∃(i:Nat) (O:Loc) (l:Ab) (u:yp),v=fV i/\i<=n/\O.gI=L.gI/\O.kv b=L.kv b/\Rel E O l wr/\l.gV b=some u/\u.kids=d.kids/\l.nodes.length=σ.nodes.length/\Fr E.bs w wr/\R=(yi dst (d.kids.drop i)>>=aeA b) l) (λv _=>n - (intOf v).toNat)
 case atStart=>exact⟨0,L,σ,d,rfl,iM _,rfl,rfl,K,HB,rfl,rfl,Fr.refl _,HR⟩
 case round=>
  obtain⟨i,O,l,u,rfl,hi,k,I,C,z,Z,a0,H,G⟩:=hrel;have F:=C.vG z;rw[I,Z]at F;by_cases ac:i < n
  .have h2:i < d.kids.length:=by rw[<-HN.out];exact ac
   have aa:d.kids.drop i=d.kids[i]::d.kids.drop (i+1):=Dc h2;rw[aa]at G;have Y:l.jk d.kids[i]=true:=C.wf.kids b u z _ (by grind);have⟨ed,σ2,hd,HR3,⟨eb2,HB2,hkk2⟩,hl2,hput⟩:=Zc E N z G HS Y;obtain⟨g,a9⟩:∃g,ao=some ⟨g,0,none⟩:=by
    rcases HE.row.2 with⟨e,h0⟩|⟨g,ad,aj,e,_⟩
    .grind
    .rw[J.out]at e;grind
   subst a9;have hc:wr.cell? ⟨g,i,none⟩=some (Nd.map L.gI d.kids[i]).val:=by
    have:=F.row.cells (g:=g) (by rw[J.out];rfl) i (Nd.map O.gI d.kids[i]).val (by simp[h2]);rw[jj]at this;rw[<-k]
    simpa using this
   obtain⟨ty,y,a2, -, -⟩:=NN (Nd.map L.gI d.kids[i]) wr;have C1:=TF C hd;have C2:=(λ(W:gm) (hk:Kept [] wr W)=>hput O W (C.ib hk));rw[k]at C1 C2;rw[a2]at hc C2;have ag:=hkk2.trans Z;have ah:=hl2.trans a0;have a4:=fM H;have a3:=fM k;have a5:=fM I;clear H I k;generalize ed.kids.length=m at *;go_wp21;refine C1.mono ?_;rintro e W2 ⟨rfl, -,V⟩;have C3:=C2 W2 V;go_wp21;refine C3.mono ?_;rintro e W3 ⟨rfl,L2,q1,q2,Q3,q4⟩;have af:=(a4.trans (Fr.gN V)).trans q4;have Q1:=q1.trans a3;have Q2:=(q2 b N).trans a5;go_wp2;go_roundw
   case rel=>grind
   case measure=>simp[intOf];omega
  .have he:d.kids.drop i=[]:=Iu (by rw[<-HN.out];omega);rw[he]at G;have X:R= .ok () (l.gS b {u with kids:=[]}):=by
    rw[G,M.gn];show aeA b () l=_;unfold aeA;rw[z]
   have⟨L3,HP1,HP2,p3⟩:=C.ahl z;rw[k]at HP1 HP2 p3;have c4:wr.cell? ⟨L.gI b,3,none⟩=some (.slice ao n cap):=by rw[<-k,fN F.iw,J.out,<-HN.out];rfl
   have ab:=gh F.iw 3;rw[k]at ab;have a7:=H.trans p3;have a8:=fM X;have a6:=fM a0;clear I k X H;go_wp2;go_end0;rw[a8.out];exact⟨rfl,⟨L3,HP1,HP2⟩,a7,by rw[Ab.oa,a6.out];simp⟩
attribute [local go_sem] Oper.semAt_some
theorem YB {k:Type} {σ:Ab} {R:pM k} {K:Nat->M k} (d:R=(ahead fi>>=K) σ) (z:R≠ .stuck):∃i,io σ.gq (posOf σ.gq (some fi) - 1)=some i/\R=K i σ/\some fi∈σ.gq:=by
 rw[M.gn]at d;unfold ahead at d;cases hq:io σ.gq (posOf σ.gq (some fi) - 1)with
 |none=>grind
 |some i=>
  rw[hq]at d;refine⟨i,rfl,d,?_⟩;rcases tN σ.gq (some fi)with⟨u,h⟩|⟨m,h,l,y,x⟩
  .rw[h]at hq;cases hq
  grind
theorem TP {σ σ':Ab} {a : Unit} (h:lQ j σ= .ok a σ'):σ'.nodes.length=σ.nodes.length:=by
 unfold lQ at h;split at h
 .cases h
 .split at h
  .grind
  .split at h
   .cases h
   .split at h
    .cases h;simp[Ab.gS]
    grind
theorem ZG {pl : Nat×Nat} {σ σ':Ab} {a : Unit} (h:mL pl j σ= .ok a σ'):σ'.nodes.length=σ.nodes.length:=by
 unfold mL at h;split at h
 .split at h
  .cases h;simp[Ab.gS]
  grind
 grind
def PH {σ σ':Ab} {a : Nat×Nat} (h:placeFor i σ= .ok a σ'):σ'.nodes.length=σ.nodes.length:=by
 unfold placeFor at h;split at h
 .rw[pt h]
 .rw[pX h]
def At.nv {σ:Ab} (h:At E f0 n0 w0 f σ w) (d:i < n0):nV f i=nV f0 i:=by unfold nV;rw[h.ext i d]
def Zt {k:Ab} (h:RF E f0 k w0) (fi iw:Nat) (N:(k.gV fi).isSome=true) (K:some iw∈k.gq) (Z:sR fi iw k≠ .stuck):
  Calls prog 345 #[Bp E,nV f0 fi,nV f0 iw] w0 (Leaves E f0 k.nodes.length w0 (sR fi iw k) uV):=by
 have G:fi < k.nodes.length:=Ab.mi (σ:=k) (i:=fi) N;have C:iw < k.nodes.length:=Ab.mi (σ:=k) (i:=iw) (h.wf.gq _ K);obtain⟨R,V⟩:∃R,R=sR fi iw k:=⟨_,rfl⟩;rw[<-V]at Z|-;unfold sR at V;have HS:=Z;have H:=fM (At.start h);have d:=fM V;have Y:=(λJ=>acT h fi iw N K J);clear h Z V N K;go_enter func345,ntmps345;go_wp21;have J:yy fi iw k≠ .stuck:=λe=>HS (by rw[d.out,M.gn,e]);refine(Y J).mono ?_;rintro e w1 ⟨I,O⟩;have y:=d;rw[M.gn]at y;cases hr:yy fi iw k with
 |stuck=>exact absurd hr J
 |stop c p=>
  rw[hr]at I y;obtain⟨j,rfl,H2,H3⟩:=I;have H1:=fM y;clear y hr J O Y d;go_wp2;exact⟨rfl,pU H1 H2 H3⟩
 |ok r x=>
  have⟨last,mark⟩:=r;have⟨hll,u⟩:=O _ _ hr;rw[hr]at I y;obtain⟨f,h1,h2,rfl,h4,h5⟩:=I;replace H:=fM (show At E f0 k.nodes.length w0 f x w1 from⟨h4,h1,h2,h5,H.hw⟩);replace d:=fM y;obtain⟨w,hw⟩:∃w,w=w1:=⟨_,rfl⟩;rw[<-hw]at H|-;clear h1 h2 h4 h5 y hr J O Y hw;dsimp only at hll u d;have U:=H.lt;go_wp21;refine mE (Z4 E last) H d HS rfl lT ?_;clear H d;rintro(_) x w H F d z;replace z:=z;replace u:mark < x.nodes.length:=by rw[TP z];exact u
  clear z;have U:=H.lt;have⟨ia,ha,hR2,hin⟩:=YB d HS;have X:=H.rel.ahb (some fi) (Ab.wO (H.rel.wf.gq _ hin));rw[ha,show oV f (some fi)=nV f0 fi from H.out.nv G]at X;replace d:=fM hR2;clear hR2 ha hin;go_wp21;refine X.mono ?_;rintro e w_ ⟨rfl,rfl⟩;clear X;go_wp21;refine mE (Lb E (iF E) ia) H d HS rfl lT ?_;clear H d;rintro(pl) x w H F d z;replace z:=z;replace u:mark < x.nodes.length:=by rw[PH z];exact u
  clear z;go_wp21;refine mE (Fk E pl last) H d HS rfl lT ?_;clear H d;rintro(_) x w H F d z;replace z:=z;replace u:mark < x.nodes.length:=by rw[ZG z];exact u
  clear z;go_wp21;refine dC (M8 E fi) H d HS ((by show #[nV f fi]=_;rw[H.out.nv G])) lT ?_;clear H d;rintro(l) f x w H HX F d;have a1:=HX mark u;go_wp21;refine Bf (λJ=>(show Calls prog 366 #[nV f0 iw,nV f l] w (kh E f x.nodes.length w (handOver iw l x) uV)from by rw[<-H.out.nv C];exact U8 H.rel iw l J)) H d HS lT ?_;clear H d;rintro(_) x w H F d;have U:=H.lt;go_wp21;refine mC (Hf E iw) H d HS ((by show #[nV f iw]=_;rw[H.out.nv C])) lT ?_;clear H d;rintro(a0) x w H F d;go_wp21;refine mC (Fk E a0 l) H d HS rfl lT ?_;clear H d;rintro(_) x w H F d;have U:=H.lt;go_wp21;refine mC (Ox E (some mark) (some l)) H d HS ((by show #[_,nV f mark,nV f l]=_;simp)) lT ?_;clear H d;rintro(_) x w H F d;have U:=H.lt;go_wp21;refine mC (Ed E (some fi)) H d HS ((by show #[_,nV f fi]=_;rw[H.out.nv G])) lT ?_;clear H d;rintro(_) x w H F d;have U:=H.lt;go_wp21;refine mC (Fg E (some fi)) H d HS ((by show #[_,nV f fi]=_;rw[H.out.nv G])) lT ?_;clear H d;rintro(_) x w H F d;have U:=H.lt;go_wp21;refine mC (PF E (some iw) (some l)) H d HS ((by show #[_,nV f iw,nV f l]=_;rw[H.out.nv C])) lT ?_;clear H d;rintro(_) x w H F d;go_wp2;go_end0;exact ga d H rfl
attribute [local go_sem] Oper.semAt_some
def RF.abx {g : Nat->Nat} {σ:Ab} (h:RF E g σ W) (d:σ.gR (some i)=true):(binOp .eql 65 (nV g i) (.pointer none)).run prog W= .ok (.bool false) W:=by
 obtain⟨L,rfl,hr⟩:=h;have:=Ds (hr.gR d) (hr.gR (x:=none) rfl);rw[wy (by simp)]at this;exact this
theorem zH {σ:Ab}:∀{d:kG},σ.qU s d=some i->some i∈d
 |[],h=>by cases h
 |none::_,h=>by cases h
 |some k::r,h=>by
  unfold Ab.qU at h;split at h
  .grind
  .exact nc _ (zH h)
theorem Dm {σ:Ab} {f : Nat}:∀{d:kG} {b:iY},σ.vV f d b=some i->some i∈d\/b=some i
 |[],b,h=> .inr h
 |x::r,b,h=>by
  unfold Ab.vV at h;split at h
  .grind
  .rcases Dm h with h|h
   all_goals grind
def GU (E:Env) (s:fY):iZ E 317 (λ_=>#[Bp E,gu s]) (mr s) bV:=by
 intro f z w h Z;obtain⟨R,U⟩:∃R,R=mr s z:=⟨_,rfl⟩;rw[<-U]at Z|-;have K:=EW h s;have H:=At.start h;have HS:=Z;have hl:=h.lt;cases hla:z.pY s with
 |none=>
  have l:R=(ud s>>=λ_=>(Pure.pure false:M Bool)) z:=by rw[U];unfold mr;rw[hla]
  have u:=fM l;rw[hla]at K;clear h Z U l hla;go_enter func317,ntmps317;go_wp21;refine K.mono ?_;rintro e N ⟨rfl,k⟩;replace H:=H.k0 k;clear k K;go_wp21;refine dC (J5 E s) H u HS rfl lT ?_;clear H u;rintro(_) f z w H HX HF u;go_wp2;go_ret;exact ga u H rfl
 |some i=>
  have G:some i∈z.act:=by have:=zH hla;simpa using this
  have C:z.gR (some i)=true:=h.wf.act _ G;rw[hla]at K;have x:=(λ(W:gm) (k:Kept [] w W)=>(h.ib k).ai7 (some i) C);have O:=(λ(W:gm) (k:Kept [] w W)=>(h.ib k).abx C);by_cases X:some i∈z.gq
  .rw[vQ X]at x;have F:=(λ(W:gm) (k:Kept [] w W)=>Hs (h.ib k) i C);have I:=(λ(W:gm) (k:Kept [] w W)=>Mb (h.ib k) i C);cases hsc:z.pz i with
   |false=>
    have l:R= .ok false z:=by rw[U];unfold mr;rw[hla];dsimp only;rw[gH (by simpa using X),hsc];rfl
    have u:=fM l;rw[hsc]at F;clear h Z U l hla G C X hsc I;go_enter func317,ntmps317;go_wp21;refine K.mono ?_;rintro e N ⟨rfl,d⟩;replace H:=H.k0 d;have V:=x N d;have y:=O N d;clear K x;unfold nV at y;go_wp21;refine V.mono ?_;rintro e w_ ⟨rfl,J⟩;subst J;clear V;go_wp21;refine(F _ d).mono ?_;rintro e w2 ⟨rfl,k⟩;replace H:=H.k0 k;replace d:=d.trans k;clear k F y;go_wp2;go_ret;exact ga u H rfl
   |true=>
    rw[hsc]at F;cases hbb:z.qL i with
    |none=>
     have l:R=(zP (some i)>>=λ_=>kM (some i)>>=λ_=>(Pure.pure false:M Bool)) z:=by rw[U];unfold mr;rw[hla];dsimp only;rw[gH (by simpa using X),hsc,hbb];rfl
     have u:=fM l;rw[hbb]at I;clear h Z U l hla G C X hsc hbb;go_enter func317,ntmps317;go_wp21;refine K.mono ?_;rintro e N ⟨rfl,d⟩;replace H:=H.k0 d;have V:=x N d;have y:=O N d;clear K x;unfold nV at y;go_wp21;refine V.mono ?_;rintro e w_ ⟨rfl,J⟩;subst J;clear V;go_wp21;refine(F _ d).mono ?_;rintro e w2 ⟨rfl,k⟩;replace H:=H.k0 k;replace d:=d.trans k;clear k F y;go_wp21;refine(I _ d).mono ?_;rintro e w3 ⟨rfl,k⟩;replace H:=H.k0 k;replace d:=d.trans k;clear k I;have hl:=H.lt;go_wp21;refine mC (acv E (some i)) H u HS rfl lT ?_;clear H u;rintro(_) z w H HF u;have hl:=H.lt;go_wp21;refine mC (Ed E (some i)) H u HS rfl lT ?_;clear H u;rintro(_) z w H HF u;go_wp2;go_ret;exact ga u H rfl
    |some b=>
     have Y:some b∈z.gq:=by
      rcases Dm (b:=none) hbb with h|h
      .simpa using h
      .cases h
     have a1:z.gR (some b)=true:=Ab.wO (h.wf.gq _ Y);have a0:=(λ(W:gm) (k:Kept [] w W)=>(h.ib k).abx a1);have l:R=(sR i b>>=λ_=>(Pure.pure true:M Bool)) z:=by rw[U];unfold mr;rw[hla];dsimp only;rw[gH (by simpa using X),hsc,hbb];rfl
     have u:=fM l;have a3:=(λ(W:gm) (k:Kept [] w W) (hm:sR i b z≠ .stuck)=>Zt (h.ib k) i b C Y hm);rw[hbb]at I;clear h Z U l hla G C X hsc hbb Y a1;go_enter func317,ntmps317;go_wp21;refine K.mono ?_;rintro e N ⟨rfl,d⟩;replace H:=H.k0 d;have V:=x N d;have y:=O N d;clear K x;unfold nV at y;go_wp21;refine V.mono ?_;rintro e w_ ⟨rfl,J⟩;subst J;clear V;go_wp21;refine(F _ d).mono ?_;rintro e w2 ⟨rfl,k⟩;replace H:=H.k0 k;replace d:=d.trans k;clear k F y;go_wp21;refine(I _ d).mono ?_;rintro e w3 ⟨rfl,k⟩;replace H:=H.k0 k;replace d:=d.trans k;clear k I;have a2:=a0 _ d;unfold nV at a2;go_wp21;refine dcH (λhm=>a3 _ d hm) H u HS lT ?_;clear H u;rintro(_) f z w H HX HF u;go_wp2;go_ret;exact ga u H rfl
  .rw[wy X]at x;have l:R=(kM (some i)>>=λ_=>(Pure.pure false:M Bool)) z:=by rw[U];unfold mr;rw[hla];dsimp only;rw[gv X]
   have u:=fM l;clear h Z U l hla G C X;go_enter func317,ntmps317;go_wp21;refine K.mono ?_;rintro e N ⟨rfl,k⟩;replace H:=H.k0 k;have V:=x N k;have y:=O N k;clear k K x O;unfold nV at y;go_wp21;refine V.mono ?_;rintro e w_ ⟨rfl,J⟩;subst J;have hl:=H.lt;go_wp21;refine mC (Ed E (some i)) H u HS rfl lT ?_;clear H u;rintro(_) z w H HF u;go_wp2;go_ret;exact ga u H rfl
attribute [local go_sem] Oper.semAt_some
def GS {k : Nat} {σ:Ab} {R : pM Unit} (h:R=sY s (k+1) σ):R=(mr s>>=λb=>if b then sY s k else (Pure.pure ():M Unit)) σ:=h
theorem OB (E:Env) (s:fY):iZ E 274 (λ_=>#[Bp E,gu s]) (ww s) uV:=by
 intro f0 d w0 h HS;obtain⟨R,X⟩:∃R,R=ww s d:=⟨_,rfl⟩;rw[<-X]at HS|-;obtain⟨i,Y⟩:∃i,d.last=some i:=by
  cases hq:d.last with
  |some i=>simp
  |none=>unfold ww at X;grind
 have⟨ei,hei⟩:=h.wf.KG Y;have V:d.gR (some i)=true:=by show(d.gV i).isSome=true;rw[hei];rfl
 have N:=h.Si;rw[Y]at N;have c0:w0.cell? ⟨f0 i,0,none⟩=some (gu (d.nm i)):=by
  obtain⟨L,rfl,hr⟩:=h;exact hr.we hei
 have I:=h.ai6 (some i) V;have H:=At.start h;have hl:=h.lt;have a3:f0 i < w0.heap.size:=by
  obtain⟨L,rfl,hr⟩:=h;exact hr.JA (Ab.gW hei)
 have y:R=if kJ (d.nm i) s&&!decide (some i∈d.act)then (x8>>=λ_=>(Pure.pure ():M Unit)) d else sY s 8 d:=by
  rw[X];unfold ww;rw[Y]
 clear h X Y hei V;cases hq:kJ (d.nm i) s with
 |false=>
  rw[hq]at y;have l:=fM (show R=sY s 8 d from y);have a2:((d.nm i).toList==s.toList)=false:=hq;clear y hq I;go_enter func274,ntmps274;go_wp21;refine N.mono ?_;rintro e Z ⟨rfl,C⟩;have z:=C.symm;subst z;clear N;rw[show oV f0 (some i)=gE (f0 i)from rfl];go_wp21
  go_loopw [27] (λv wr=>∃(k:Nat) (g:Nat->Nat) (K:Ab),v=fV k/\k<=8/\At E f0 d.nodes.length w0 g K wr/\R=sY s (8 - k) K) (λv _=>8 - (intOf v).toNat)
  case atStart=>exact⟨0,f0,d,rfl,by omega,H,l⟩
  case round=>
   obtain⟨k,f,F,rfl,a0,u,G⟩:=hrel;have a1:d.nodes.length<=F.nodes.length:=u.le;by_cases hk:k < 8
   .have J:=GS (R:=R) (σ:=F) (s:=s) (k:=7 - k) (by grind);replace H:=u;replace l:=fM J;clear u G J;obtain⟨w,U⟩:∃w,w=wr:=⟨_,rfl⟩;rw[<-U]at H|-;clear U;go_wp21;refine dC (GU E s) H l HS rfl lT ?_;clear H l;rintro(b) f F w H HX HF l;cases b with
    |false=>
     replace l:Hid (R=(Pure.pure ():M Unit) F):=l;go_wp2;go_end0;exact ga l H rfl
    |true=>
     have O:Hid (R=sY s (7 - k) F):=l;go_wp2;go_roundw
     case rel=>exact⟨k+1,f,F,by go_num,by omega,H,by rw[show 8 - (k+1)=7 - k by omega];exact O⟩
     case measure=>simp[intOf];omega
   .have e8:k=8:=by omega
    subst e8;replace H:=u;replace l:=fM (show R=(Pure.pure ():M Unit) F from G);clear u G;go_wp2;go_end0;exact ga l H rfl
 |true=>
  have a2:((d.nm i).toList==s.toList)=true:=hq;by_cases x:some i∈d.act
  .rw[hq,vQ x]at y;have l:=fM (show R=sY s 8 d from y);rw[vQ x]at I;clear y hq x;go_enter func274,ntmps274;go_wp21;refine N.mono ?_;rintro e Z ⟨rfl,C⟩;have z:=C.symm;subst z;clear N;rw[show oV f0 (some i)=gE (f0 i)from rfl];go_wp21;refine I.mono ?_;rintro e Z ⟨rfl,C⟩;have z:=C.symm;subst z;go_wp21
   go_loopw [27] (λv wr=>∃(k:Nat) (g:Nat->Nat) (K:Ab),v=fV k/\k<=8/\At E f0 d.nodes.length w0 g K wr/\R=sY s (8 - k) K) (λv _=>8 - (intOf v).toNat)
   case atStart=>exact⟨0,f0,d,rfl,by omega,H,l⟩
   case round=>
    obtain⟨k,f,F,rfl,a0,u,G⟩:=hrel;have a1:d.nodes.length<=F.nodes.length:=u.le;by_cases hk:k < 8
    .have J:=GS (R:=R) (σ:=F) (s:=s) (k:=7 - k) (by grind);replace H:=u;replace l:=fM J;clear u G J;obtain⟨w,U⟩:∃w,w=wr:=⟨_,rfl⟩;rw[<-U]at H|-;clear U;go_wp21;refine dC (GU E s) H l HS rfl lT ?_;clear H l;rintro(b) f F w H HX HF l;cases b with
     |false=>
      replace l:Hid (R=(Pure.pure ():M Unit) F):=l;go_wp2;go_end0;exact ga l H rfl
     |true=>
      have O:Hid (R=sY s (7 - k) F):=l;go_wp2;go_roundw
      case rel=>exact⟨k+1,f,F,by go_num,by omega,H,by rw[show 8 - (k+1)=7 - k by omega];exact O⟩
      case measure=>simp[intOf];omega
    .have e8:k=8:=by omega
     subst e8;replace H:=u;replace l:=fM (show R=(Pure.pure ():M Unit) F from G);clear u G;go_wp2;go_end0;exact ga l H rfl
  .rw[hq,wy x]at y;have l:=fM (show R=(x8>>=λ_=>(Pure.pure ():M Unit)) d from y);rw[wy x]at I;clear y hq x;go_enter func274,ntmps274;go_wp21;refine N.mono ?_;rintro e Z ⟨rfl,C⟩;have z:=C.symm;subst z;clear N;rw[show oV f0 (some i)=gE (f0 i)from rfl];go_wp21;refine I.mono ?_;rintro e Z ⟨rfl,C⟩;have z:=C.symm;subst z;go_wp21;obtain⟨w,U⟩:∃w,w=w0:=⟨_,rfl⟩;refine mC (DF E) H l HS rfl lT ?_;clear H l;rintro(_) F w H HF l;go_wp2;go_end0;exact ga l H rfl
attribute [local go_sem] Oper.semAt_some
def acl (g:Nat->Nat) (i:Nat) (W:gm):(binOp .neq 65 (nV g i) (.pointer none)).run prog W= .ok (.bool true) W:=run_neq_pointer_nil (P:=prog) W 65 (some ⟨g i,0,none⟩) J3
def Tz (E:Env) (t:gy) (U:jd E t):iZ E 196 (λ_=>#[Bp E,iy E t]) (pG t) uV:=by
 intro f0 k w0 h I;obtain⟨R,y⟩:∃R,R=pG t k:=⟨_,rfl⟩;rw[<-y]at I|-;have x:=EW h uz;have H:=fM (At.start h);have HS:=I;have O:=h.lt;cases hla:k.pY uz with
 |none=>
  have l:R=(iP t>>=λ_=>(Pure.pure ():M Unit)) k:=by rw[y];unfold pG;rw[hla]
  have d:=fM l;rw[hla]at x;clear h I y l hla;go_enter func196,ntmps196;go_wp21;refine x.mono ?_;rintro e w ⟨rfl,F⟩;replace H:=fM (H.k0 F);clear F x;go_wp21;refine dC (oQ E t U) H d HS rfl lT ?_;clear H d;rintro(_) f J w H N G d;go_wp2;go_end0;exact ga d H rfl
 |some i=>
  have u:some i∈k.act:=by have:=zH hla;simpa using this
  have z:k.gR (some i)=true:=h.wf.act _ u;have C:i < k.nodes.length:=Ab.mi (σ:=k) (i:=i) z;have l:R=(ww uz>>=λ_=>kM (some i)>>=λ_=>kq (some i)>>=λ_=>iP t>>=λ_=>(Pure.pure ():M Unit)) k:=by rw[y];unfold pG;rw[hla]
  have d:=fM l;rw[hla]at x;clear h I y l hla u z;go_enter func196,ntmps196;go_wp21;refine x.mono ?_;rintro e w ⟨rfl,F⟩;replace H:=fM (H.k0 F);have K:=acl f0 i w;clear F x;unfold nV at K;rw[show oV f0 (some i)=gE (f0 i)from rfl];go_wp21;refine dC (OB E uz) H d HS rfl lT ?_;clear H d;rintro(_) f J w H N G d;have O:=H.lt;go_wp21;refine mC (Ed E (some i)) H d HS ((by show #[_,nV f i]=_;rw[H.out.nv C])) lT ?_;clear H d;rintro(_) J w H G d;have O:=H.lt;go_wp21;refine mC (Fg E (some i)) H d HS ((by show #[_,nV f i]=_;rw[H.out.nv C])) lT ?_;clear H d;rintro(_) J w H G d;go_wp21;refine dC (oQ E t U) H d HS rfl lT ?_;clear H d;rintro(_) f J w H N G d;go_wp2;go_end0;exact ga d H rfl
def ID (E:Env) (t:gy):iZ E 208 (λ_=>#[Bp E,iy E t]) (nP t) uV:=by
 refine dI λf l w R d HS H=>?_;unfold nP at d;go_enter func208,ntmps208;have⟨ta,tb,tao,tn,tcp,HTG⟩:=FC E t H.rel;have h:=λw=>Bu ta tb t.name tao tn tcp w;go_wp21;refine(HTG _).mono ?_;rintro e y ⟨rfl,k⟩;replace H:=H.k0 k;go_wp21;refine dC (OB E t.name) H d HS rfl lT ?_;rintro(_) f l w H x u d;go_wp2;go_end0;exact ga d H rfl
attribute [local go_sem] Oper.semAt_some
section
variable (E:Env) (t:gy) (hG:∀i,iZ E 268 (λf=>#[Bp E,nV f i,iy E t]) (vK i t) uV)
include hG
theorem U4:iZ E 182 (λ_=>#[Bp E,iy E t]) (oe t) uV:=by
 intro f k w h HS;obtain⟨R,u⟩:∃R,R=oe t k:=⟨_,rfl⟩;rw[<-u]at HS|-;obtain⟨i,y⟩:∃i,io k.gq 0=some i:=by
  cases hq:io k.gq 0 with
  |some i=>simp
  |none=>unfold oe at u;grind
 have d:R=(vK i t>>=λ_=>(Pure.pure ():M Unit)) k:=by rw[u];unfold oe;rw[y]
 have x:=h.atO 0;rw[y]at x;have H:=At.start h;have l:=fM d;have J:=h.lt;have F:=hG;clear h u d y hG;go_enter func182,ntmps182;go_wp21;refine x.mono ?_;rintro e K ⟨rfl,C⟩;have z:=C.symm;subst z;clear x;go_wp21;refine dC (F i) H l HS rfl lT ?_;clear H l;rintro(_) f k w H I G l;go_wp2;go_end0;exact ga l H rfl
def U3:iZ E 183 (λ_=>#[Bp E,iy E t]) (pw t) uV:=by
 intro f u w h G;obtain⟨R,C⟩:∃R,R=pw t u:=⟨_,rfl⟩;rw[<-C]at G|-;have y:=h.atO 1;have H:=At.start h;have HS:=G;have Y:=h.lt;have I:=hG;cases hi:io u.gq 1 with
 |none=>
  have d:R= .ok () u:=by rw[C];unfold pw;rw[hi]
  rw[hi]at y;have z:=fM d;clear h G C d hi hG I;go_enter func183,ntmps183;go_wp21;refine y.mono ?_;rintro e O ⟨rfl,l⟩;have k:=l.symm;subst k;clear y;go_wp2;go_end0;exact ga z H rfl
 |some i=>
  obtain⟨ei,x⟩:∃e,u.gV i=some e:=Option.isSome_iff_exists.1 (h.wf.gq _ (pu hi));have X:w.cell? ⟨f i,0,none⟩=some (gu (u.nm i)):=by
   obtain⟨L,rfl,hr⟩:=h;exact hr.we x
  have N:f i < w.heap.size:=by
   obtain⟨L,rfl,hr⟩:=h;exact hr.JA (Ab.gW x)
  have F:=acl f i w;rw[hi]at y;cases hq:kJ (u.nm i) gr with
  |true=>
   have d:R=(vK i t>>=λ_=>(Pure.pure ():M Unit)) u:=by rw[C];unfold pw;rw[hi];dsimp only;rw[hq];rfl
   have z:=fM d;have K:((u.nm i).toList==[98,111,100,121])=true:=by
    have J:(gr:fY).toList=[98,111,100,121]:=by first|rfl|decide|simp
    rw[<-J];exact hq
   clear h G C d hi hG hq x;unfold nV at F;go_enter func183,ntmps183;go_wp21;refine y.mono ?_;rintro e O ⟨rfl,l⟩;have k:=l.symm;subst k;clear y;rw[show oV f (some i)=gE (f i)from rfl];go_wp21;refine dC (I i) H z HS rfl lT ?_;clear H z;rintro(_) f u w H V U z;go_wp2;go_end0;exact ga z H rfl
  |false=>
   have d:R= .ok () u:=by rw[C];unfold pw;rw[hi];dsimp only;rw[hq];rfl
   have z:=fM d;have K:((u.nm i).toList==[98,111,100,121])=false:=by
    have J:(gr:fY).toList=[98,111,100,121]:=by first|rfl|decide|simp
    rw[<-J];exact hq
   clear h G C d hi hG hq x I;unfold nV at F;go_enter func183,ntmps183;go_wp21;refine y.mono ?_;rintro e O ⟨rfl,l⟩;have k:=l.symm;subst k;clear y;rw[show oV f (some i)=gE (f i)from rfl];go_wp2;go_end0;exact ga z H rfl
end
def agx (L M:la):flat (L++M)=flat L++flat M:=On ..
structure aiG (w:gm) (v:gG) (gx:la) (v':gG) (w':gm):Prop where
 row:zr w' v' gx
 kp:Kept v.ownBlock.toList w w'
 new:v'.ownBlock=v.ownBlock\/∀k,v'.ownBlock=some k->w.heap.size<=k
theorem Rel.ai4 {σ:Ab} {w1 : gm} (h:Rel E L σ w) (I:σ.gV i=some e) (hg:nG e.name=true) (hf:σ.fresh=true) (a:fY×fY) (a9:e.gO.length < 4096) (X:aiG w (L.av i) (e.gO++[a]) v' w1):
  Rel E {L with av:=λx=>if x=i then v' else L.av x} (σ.gS i {e with gO:=e.gO++[a]}) (w1.setCell ⟨L.gI i,1,none⟩ v')/\Fr E.bs w (w1.setCell ⟨L.gI i,1,none⟩ v'):=by
 have J:=Ab.gW I;have a6:(σ.gV i).isSome=true:=by rw[I];rfl
 have⟨hEl,hAt,hAl⟩:=h.tX i _ (Ab.jn I);have U:∀g,(L.av i).ownBlock=some g->∃c m,w.heap[g]?=some (.cells c 293 m):=λg hg=>sT hAt hg;have a2:L.gI i∉(L.av i).ownBlock.toList:=by
  intro F;have a7:(L.av i).ownBlock=some (L.gI i):=by simpa using F
  exact DM hAt hEl.iw (by decide) a7
 have b1:=X.kp.at hEl.iw a2;obtain⟨w',O⟩:∃w',w'=w1.setCell ⟨L.gI i,1,none⟩ v':=⟨_,rfl⟩;rw[<-O];have b2:w'.heap[L.gI i]?=some (gz #[gu e.name,v',ku (ir L.gI e.je),L.kv i] 135):=by rw[O];exact fR b1 1 v'
 have N:Kept (L.gI i::(L.av i).ownBlock.toList) w w':=by rw[O];exact(X.kp.mono (λk N _=>nc _ N)).setCell (.inl (by simp)) _
 have r2:zr w' v' (e.gO++[a]):=by rw[O];exact rq (a:=⟨L.gI i,1,none⟩) X.row (DM X.row b1 (by decide)) v'
 have V:KT E.bs [135,293] w w':= .jL N (λk N _=>by
  rcases List.mem_cons.1 N with rfl|N
  .exact⟨⟨_,_,_,hEl.iw,by simp⟩,h.bN i J⟩
  .have a1:(L.av i).ownBlock=some k:=by simpa using N
   have⟨c,m,G⟩:=U k a1;exact⟨⟨_,_,_,G,by simp⟩,h.ab i k J a1⟩)
 have z:(σ.gS i {e with gO:=e.gO++[a]}).nodes.length=σ.nodes.length:=Ab.oa _ _ _;have a0:∀j,((σ.gS i {e with gO:=e.gO++[a]}).gV j=none↔σ.gV j=none):=by
  intro j;by_cases u:j=i
  .subst u;rw[Ab.iR J,I];simp
  .rw[Ab.iG u]
 have a3:∀j g,j < σ.nodes.length->j≠i->v'.ownBlock=some g->(L.av j).ownBlock≠some g:=by
  intro j g u l d H;rcases X.new with e1|e1
  .rw[e1]at d;exact h.uq i j e g I hg u (wB l) d H
  .have:=e1 g d;have⟨c,m,G⟩:=h.OK u H;grind
 have⟨C,hbl,hC⟩:=h.iw;refine⟨?_,V.fr (by decide)⟩;exact
  {fr:=h.fr.trans (V.fr (by decide))
   env:=h.env
   Fb:=h.Fb
   tX:=by
    intro j nd u;rcases Ab.oL u with⟨rfl,rfl⟩|⟨l,u⟩
    .refine⟨⟨?_,?_,hEl.le,?_⟩,?_,?_⟩
     .grind
     .exact V.row hEl.row (by decide)
     .simp only[vo];have⟨ao,cp,hv⟩:=gw r2;grind
     all_goals grind
    .have K:=(List.getElem?_eq_some_iff.1 u).1;have hN:li E.bs L w' j nd:=by
      refine(h.tX j nd u).kept N ?_ ?_ ?_
      .intro F;rcases List.mem_cons.1 F with e1|F
       .exact l (h.inj _ _ e1)
       .obtain⟨c,m,G⟩:=U _ (by simpa using F);obtain⟨c',t,H,_,h3⟩:=h.OI K;grind
      .intro g d F;have⟨c,m,G⟩:=h.zG K d;rcases List.mem_cons.1 F with e1|F
       .rw[e1]at G;exact absurd (LG hEl.iw G) (by decide)
       grind
      .intro g d F;rcases List.mem_cons.1 F with e1|F
       .have⟨c,m,G⟩:=h.OK K d;rw[e1]at G;exact absurd (LG hEl.iw G) (by decide)
       .exact h.uq i j e g I hg K (wB l) (by grind) d
     cases nd with
     |el e'=>grind[li]
     |tx s=>exact hN
     |cm s=>exact hN
     |dt s=>exact hN
   inj:=h.inj
   BZ:=by rw[z];exact h.BZ
   Hw:=λj u hn=>h.Hw j (by omega) ((a0 j).1 hn)
   uq:=by
    intro x y ex g hx a5 hy a8 h1;rw[z]at hy;by_cases Z:x=i
    .grind
    .simp only[gH Z]at h1;rw[Ab.iG Z]at hx;by_cases a4:y=i
     .subst a4;simp only[vo];exact λH=>a3 x g (Ab.gW hx) Z H h1
     .simp only[gH a4];exact h.uq x y ex g hx a5 hy a8 h1
   FX:=by
    intro j u hn;have Y:=(a0 j).1 hn;have l:j≠i:=by rintro rfl;rw[I]at Y;cases Y
    simp only[gH l];exact h.FX j (by omega) Y
   wf:=h.wf.gS a6 (h.wf.je i e I) (h.wf.kids i e I)
   iw:=⟨C,V.at hbl (by decide),⟨hC.size,hC.low,hC.gq,hC.act,hC.head,hC.form,hC.mode,hC.kept,hC.wait,hC.Kg,hC.jJ,hC.gI,hC.behind⟩⟩
   pR:=V.row h.pR (by decide)
   qB:=V.row h.qB (by decide)
   H9:=h.H9,x7:=h.x7,F0:=h.F0
   pI:=V.row h.pI (by decide)
   M1:=h.M1
   rd:=V.at h.rd (by decide)
   Tk:=h.Tk
   tok:=N.ownsRow h.tok (λg d F=>by
    rcases List.mem_cons.1 F with e1|F
    .have⟨c,m,G⟩:=sT h.tok d;rw[e1]at G;exact absurd (LG hEl.iw G) (by decide)
    .exact h.BU hf i g J d (by grind))
   MY:=h.MY,bz:=h.bz,bB:=h.bB,bR:=h.bR
   bN:=by rw[z];exact h.bN
   BU:=by
    intro _ j g u d;rw[z]at u;by_cases l:j=i
    .subst l;simp only[vo];intro H;rcases X.new with e1|e1
     .rw[e1]at H;exact h.BU hf j g u d H
     .have:=e1 g H;have⟨c,m,G⟩:=sT h.tok d;grind
    .simp only[gH l];exact h.BU hf j g u d
   ab:=by
    intro j g u d;rw[z]at u;by_cases l:j=i
    .subst l;simp only[vo]at d;rcases X.new with e1|e1
     .rw[e1]at d;exact h.ab j g u d
     .exact jH h.bw (e1 g d)
    .simp only[gH l]at d;exact h.ab j g u d
   tb:=h.tb
   M0:=h.M0}
attribute [local go_sem] Oper.semAt_some
def abQ:(prog.info? 293).map (λi=>(i.zero,i.size,i.bytes))=some (some (.agg #[gu jB,gu jB]),2,32):=by kernel_rfl
def Kl (i:Nat) (a:fY×fY) (r:la) (σ:Ab):qj i (a::r) σ=(match σ.gV i with
  |none=> .stuck
  |some e=>if zE e.gO a.1 then qj i r σ else if σ.pP<=e.gO.length then .stop 7 σ.gI else qj i r (σ.gS i {e with gO:=e.gO++[a]})):=rfl
def af2 (E:Env) (t:gy) (l:jd E t) {σ:Ab} (h:RF E f σ w):∃x y nm ao cp,Ae E t=#[.int .i64 x,.int .i64 y,.string nm,.slice ao t.jh.length cp]/\t.jh.length<=4096/\∀f σ w,RF E f σ w->zr w (.slice ao t.jh.length cp) t.jh:=by
 have⟨L,e,hr⟩:=h;have⟨ao,cp,htv⟩:=gw hr.tok;have d:=hr.MY;have⟨a,b,k,gx⟩:=t;cases k with
 |start n=>
  have e:gx=E.ta:=l rfl;subst e;exact⟨a,b,n,ao,cp,by simp only[Ae,gy.jh];rw[htv],d,λf σ w ⟨L,_,h⟩=>by show zr w (.slice ao E.ta.length cp) E.ta;rw[<-htv];exact h.tok⟩
 |stop n=>
  have e:gx=E.ta:=l rfl;subst e;exact⟨a,b,n,ao,cp,by simp only[Ae,gy.jh];rw[htv],d,λf σ w ⟨L,_,h⟩=>by show zr w (.slice ao E.ta.length cp) E.ta;rw[<-htv];exact h.tok⟩
 |kg s=>exact⟨0,0,_,none,0,rfl,iM _,λ_ _ _ _=>pk _ _ _ _⟩
 |gM s=>exact⟨0,0,_,none,0,rfl,iM _,λ_ _ _ _=>pk _ _ _ _⟩
 |iE n q=>exact⟨0,0,_,none,0,rfl,iM _,λ_ _ _ _=>pk _ _ _ _⟩
 |lost=>exact⟨0,0,_,none,0,rfl,iM _,λ_ _ _ _=>pk _ _ _ _⟩
 |ie=>exact⟨0,0,_,none,0,rfl,iM _,λ_ _ _ _=>pk _ _ _ _⟩
def ZB {o:Oper} {ys : Nat->Option Bool} {K' : Act->gm->Prop} {Q:Exit->Act->gm->Prop} {d : Prop} (s x:Operand) (t:TypeId) (l:o.op= .call {callee:= .builtin .append,args:=#[s,x],argTypes:=#[t,t]}) (z:o.guard=none) (v u:gG) (y:a.eval s=v) (C:a.eval x=u) (hr:(Builtin.append_ #[t,t] o.type #[v,u]).run prog w= .ok v' w') (h:K' (a.put o.dst v') w'):if Region.wanted o ys=true then Oper.wp prog o a w K' Q else d:=by
 have k:Region.wanted o ys=true:=by unfold Region.wanted;rw[z]
 rw[gv k];unfold Oper.wp execOp;simp only[l,resolve,invoke,builtin,Ue,Sem.run_pure,Result.andThen_ok,List.map_toArray,yH,List.map_nil,y,C,hr];exact h
structure Jo (w:gm) (v:gG) (n:Nat) (gx:la) (v':gG) (W:gm):Prop where
 app:aiG w v gx v' W
 shape:∃ao cp,v'= .slice ao (n+1) cp
def Jo.lt2 {gx : la} (h:Jo w v n gx v' W) {k : Nat} (d:k < w.heap.size):k < W.heap.size:=lU d h.app.kp.size
theorem Jo.at {gx : la} (h:Jo w v n gx v' W) {k : Nat} (d:w.heap[k]?=some (gz c T)) (l:v.ownBlock≠some k):W.heap[k]?=some (gz c T):=h.app.kp.at d (by grind)
def Jo.cell {gx : la} (h:Jo w v n gx v' W) {k : Nat} {u x y : gG} (l:w.heap[k]?=some (gz #[u,v,x,y] T)) (d:v.ownBlock≠some k):W.cell? ⟨k,1,none⟩=some v:=by rw[fN (h.at l d)];rfl
def Jo.free {gx : la} (h:Jo w v n gx v' W) {k : Nat} (l:w.heap[k]?=some (gz c T)) (d:v.ownBlock≠some k):W.frozen? ⟨k,1,none⟩=false:=gh (h.at l d) 1
theorem QZ {gx : la} (w W:gm) (d:Kept [] w W) (G:zr w (.slice ao gx.length cp) gx) (k:Nat) (a b:fY) (C:W.heap[k]?=some (gz #[gu a,gu b] 293)) (J:gx.length<=4096):
  ∃v' w',(Builtin.append_ #[132,132] 132 #[.slice ao gx.length cp,oo k 1 1]).run prog W= .ok v' w'/\Jo w (.slice ao gx.length cp) gx.length (gx++[(a,b)]) v' w':=by
 obtain⟨H,F,x,y,z⟩:=uH abQ;have I:=d.ownsRow G (λ_ _=>by simp);have⟨v',w',h1,h2,h3,h4⟩:=Aw (P:=prog) W 0 132 132 293 H (.agg #[gu jB,gu jB]) 2 32 underlying132 F x y z rfl (by decide) (.slice ao gx.length cp) gx.length (flat gx) I ⟨k,0,none⟩ 1 1 [gu a,gu b] rfl (λj u h=>by
  rw[jj,fN C,<-h];simp) (λu h=>by simp at h;rcases h with rfl|rfl<;>rfl) (by unfold maxLen;omega) (by omega) (iM _)
 refine⟨v',w',h1,⟨?_,?_,?_⟩,?_⟩
 .show w'.ownsRow 0 _ 2 v' (gx++[(a,b)]).length (flat (gx++[(a,b)]));grind[flat]
 .exact(d.mono (by simp)).grown h3 (λk d=> .inl (by grind))
 .rcases h4 with e|e
  .grind
  .exact .inr λk l=>jH d.size (e k l)
 .have⟨ao',cp',e⟩:=gw h2;grind
def GvJ (w2:gm) (a b:fY) (l:gG) (n:Nat) (gx:la) (fi:Nat) (g:Nat×gG) (u k d:Bool) (W:gm):Prop:=(k=false->Kept [] w2 W/\(u=true->W.heap[g.1]?=some (gz #[gu a,gu b] 293)))/\(k=true->d=false->Jo w2 l n gx g.2 W)/\(d=true->∃h,Jo w2 l n gx g.2 h/\W=h.setCell ⟨fi,1,none⟩ g.2)
def GvJ.ab2 {a b : fY} {l : gG} {gx : la} {g : Nat×gG} {z : Array Bool} (h:GvJ w2 a b l n gx fi g (dn z 6) (dn z 7) (dn z 10) W) {k : Nat} (u:k≠6) (x:k≠7) (d:k≠10):GvJ w2 a b l n gx fi g (dn (z.setIfInBounds k true) 6) (dn (z.setIfInBounds k true) 7) (dn (z.setIfInBounds k true) 10) W:=by rw[pr u,pr x,pr d];exact h
theorem abG (E:Env) (t:gy) (ht:jd E t) (i:Nat):iZ E 268 (λf=>#[Bp E,nV f i,iy E t]) (vK i t) uV:=by
 intro f σ w h hs;obtain⟨R,X⟩:∃R,R=vK i t σ:=⟨_,rfl⟩;rw[<-X]at hs|-;have F:(σ.fresh&&nG (σ.nm i))=true:=by
  cases hq:(σ.fresh&&nG (σ.nm i))with
  |true=>rfl
  |false=>unfold vK at X;grind
 have U:R=qj i t.jh σ:=by rw[X];unfold vK;rw[F];rfl
 rw[pW]at F;have⟨Z,V⟩:=F;have⟨x,y,nm,ao,cp,hTV,hn,hrow⟩:=af2 E t ht h;have ai:∃ao n cp,E.tv= .slice ao n cp:=by
  have⟨L,_,hr⟩:=h;have⟨ao,cp,e⟩:=gw hr.tok;exact⟨ao,_,cp,e⟩
 have C1:=λW=>zh E t W ai;rw[hTV]at C1;generalize t.jh=gx at *;have aa:=fM C1;have ad:=fM hrow;have HS:=fM hs;have H:=fM (At.start h);have I:=fM Z;have J:=fM V;have HR:=fM U;clear C1 hrow hs h Z V X U hTV ai ht;go_enter func268,ntmps268;go_wp21;refine(aa.out _).mono ?_;rintro e w1 ⟨rfl,ae⟩;replace H:=fM (H.out.k0 ae);clear ae aa;have au:=λ(w:gm)=>zi x y nm ao gx.length cp w;go_wp21;clear au
 go_loopw [12] (λv wr=>∃(u:Nat) (d:Ab),v= .int .i64 u/\u<=gx.length/\R=qj i (gx.drop u) d/\At E f σ.nodes.length w f d wr/\d.fresh=true/\nG (d.nm i)=true) (λv _=>gx.length - (intOf v).toNat)
 case atStart=>exact⟨0,σ,rfl,iM _,HR.out,H.out,I.out,J.out⟩
 case round=>
  clear H I J HR;obtain⟨u,d,rfl,ay,X,N,Z,V⟩:=hrel;by_cases ag:u < gx.length
  .obtain⟨g0,rfl,c0,c1⟩:=zr.at2 (ad.out _ _ _ N.rel) ag;rw[Dc ag]at X;obtain⟨e,he⟩:∃e,d.gV i=some e:=by
    cases hq:d.gV i with
    |some e=>simp
    |none=>rw[Kl,hq]at X;exact absurd X HS.out
   have U:R=(if zE e.gO gx[u].1 then qj i (gx.drop (u+1)) d else if d.pP<=e.gO.length then .stop 7 d.gI else qj i (gx.drop (u+1)) (d.gS i {e with gO:=e.gO++[gx[u]]})):=by rw[X,Kl,he]
   have ah:d.nm i=e.name:=by unfold Ab.nm;rw[he]
   rw[ah]at V;have aj:gx[u]=(gx[u].1,gx[u].2):=rfl;generalize gx[u].1=a at *;generalize gx[u].2=b at *;rw[aj]at U;have hK:Kept [] wr (wr.alloc (.cells #[.string a,.string b] 293 (0,0))):=(Kept.refl _ _).alloc _;have hB:=fP wr (.cells #[.string a,.string b] 293 (0,0));have⟨L,hL,hr⟩:=(N.k0 hK).rel;have⟨G,l,hAl⟩:=hr.tX i _ (Ab.jn he);have C2:=fM (ahF (L.gI i) e.name (L.av i) _ _ e.gO a _ G.iw l hAl);rw[hL]at C2;have HE:=fM he;have K:=fM U;have HA:=fM (N.k0 hK);have HB:=fM hB;have ax:=fM (iQ hB);have I:=fM Z;have J:=fM V;clear X U he N hK hB hr G l hAl Z V ah aj hL;go_wp21;refine C2.out.mono ?_;rintro e2 w2 ⟨rfl,a9⟩;replace HA:=fM (HA.out.k0 a9);replace HB:=fM (a9.at HB.out (by simp));clear a9 C2 L;cases hq:zE e.gO a with
   |true=>
    have Y:=fM (show R=qj i (gx.drop (u+1)) d by rw[K.out,hq];rfl);clear hq K;go_wp2;go_roundw
    case rel=>exact⟨u+1,d,by go_num,by omega,Y.out,HA.out,I.out,by unfold Ab.nm;rw[HE.out];exact J.out⟩
    case measure=>simp[intOf];omega
   |false=>
    have⟨L,hL,hr⟩:=HA.out.rel;have G:=(hr.tX i _ (Ab.jn HE.out)).1;have l:=(hr.tX i _ (Ab.jn HE.out)).2.1;have⟨ao2,cp2,hav⟩:=gw l;have d0:w2.cell? ⟨f i,1,none⟩=some (.slice ao2 e.gO.length cp2):=by rw[<-hL,fN G.iw,<-hav];rfl
    have d1:w2.cell? ⟨E.bB,2,none⟩=some (.int .i64 (d.pP:Int)):=hr.low (by decide) hr.Fb.2.2.1;have aw:=hr.Fb.2.2.2.2.2;have af:f i < w2.heap.size:=by rw[<-hL];exact iQ G.iw
    have az:=hr.lt;by_cases a3:d.pP<=e.gO.length
    .have Y:=fM (show R= .stop 7 d.gI by rw[K.out,hq];simp[a3]);have C3:=fM (λq=>Qe (hr.drewN q) 7);clear hq K hr G l hav;go_wp21
     go_quiet (fail)
     go_wp21;refine(C3.out nq).mono ?_;rintro e3 w3 ⟨k,rfl,h1,h2⟩;have H1:=fM h1;have H2:=fM ((HA.out.fr.trans (Fr.drewN w2 nq)).trans h2);clear h1 h2 C3;go_wp2;exact⟨rfl,pU Y.out H1.out H2.out⟩
    .have Y:=fM (show R=qj i (gx.drop (u+1)) (d.gS i {e with gO:=e.gO++[(a,b)]}) by rw[K.out,hq];simp[a3]);have a0:=fM hr;have a6:=fM hL;have a4:=fM hav;have aq:=fM d0;have a7:=fM af;clear hq K hr G l hav hL;have a5:=fM (show w2.heap[f i]?=some (.cells #[.string e.name,.slice ao2 e.gO.length cp2,ku (ir L.gI e.je),L.kv i] 135 (0,0)) by
      have:=(a0.out.tX i _ (Ab.jn HE.out)).1.iw;rw[a6.out,a4.out]at this;rw[a6.out];omega)
     have a2:=fM (show zr w2 (.slice ao2 e.gO.length cp2) e.gO by rw[<-a4.out];exact(a0.out.tX i _ (Ab.jn HE.out)).2.1);have ap:=fM (a0.out.tX i _ (Ab.jn HE.out)).2.2;have ac:=fM (DM a2.out a5.out (by decide));have an:=fM (λW (hk:Kept [] w2 W)=>lU a7.out hk.size);have ab:=fM a7.out;have al:=fM (λW (hk:Kept [] w2 W)=>(hk.cell (p:=⟨f i,1,none⟩) a7.out (by simp)).trans aq.out);have ak:=fM (λW (hk:Kept [] w2 W)=>(⟨by rw[fN (hk.at HB.out (by simp))];rfl,by rw[fN (hk.at HB.out (by simp))];rfl⟩:W.cell? ⟨wr.heap.size,0,none⟩=some (.string a)/\W.cell? ⟨wr.heap.size,1,none⟩=some (.string b)));have av:=fM (show e.gO.length < 16 by omega);go_wp21
     go_quiet (fail)
     clear d0 af;go_wp21;refine vR (by rfl) ?_;refine qp (λ(g:Nat×gG) z=>⟨#[Bp E,nV f i,iy E t,undef,undef,undef,undef,.pointer (some ⟨wr.heap.size,0,none⟩),iy E t,.agg #[.int .i64 x,.int .i64 y,.string nm,.slice (some ⟨g0,0,none⟩) gx.length cp],.slice (some ⟨g0,0,none⟩) gx.length cp,.int .i64 (gx.length:Int),.int .i64 (u:Int),.bool true,.pointer (some ⟨g0,u*2,none⟩),.agg #[.string a,.string b],nV f i,.pointer (some ⟨wr.heap.size,0,none⟩),.string a,.bool false,nV f i,.pointer (some ⟨f i,0,none⟩),.pointer (some ⟨f i,1,none⟩),.slice ao2 e.gO.length cp2,.int .i64 (e.gO.length:Int),Bp E,.pointer (some ⟨E.bB,0,none⟩),.pointer (some ⟨E.bB,0,none⟩),.pointer (some ⟨E.bB,2,none⟩),.int .i64 (d.pP:Int),.bool false,u31,u32,ce z 0 u33 (nV f i),ce z 1 u34 (nV f i),ce z 2 u35 (.pointer (some ⟨f i,0,none⟩)),ce z 3 u36 (.pointer (some ⟨f i,1,none⟩)),ce z 4 u37 (.slice ao2 e.gO.length cp2),ce z 5 u38 (.agg #[.string a,.string b]),ce z 6 u39 (.slice (some ⟨g.1,0,none⟩) 1 1),ce z 7 u40 g.2,ce z 8 u41 (.pointer (some ⟨f i,0,none⟩)),ce z 9 u42 (.pointer (some ⟨f i,1,none⟩)),u43],[]⟩) (λg z W=>GvJ w2 a b (.slice ao2 e.gO.length cp2) e.gO.length (e.gO++[(a,b)]) (f i) g (dn z 6) (dn z 7) (dn z 10) W) 11 [[],[],[1],[1,2],[1,2,3],[],[5],[1,2,3,4,5,6],[0,1,2,3,4,5,6,7],[0,1,2,3,4,5,6,7,8],[0,1,2,3,4,5,6,7,8,9]] (0,undef) rfl rfl ⟨λ_=>⟨((Kept.refl _ _).drewN nq).drew,λh=>by cases h⟩,λh=>(by cases h),λh=>(by cases h)⟩ ?_ ?_
     .repeat' first|exact nu|refine nr ?_ ?_
      all_goals
       rintro g z W hI F hn;simp[Dh]at F;refine jY rfl ?_;intro K' O;simp only[aa3,F]
       first
       |have k7:=(hI.1 (hn 7 (by decide))).1;have ar:=an.out W k7;have cc:=al.out W k7;have⟨c2,c3⟩:=ak.out W k7;go_simp;refine O _ _ ⟨g,?_,hI.ab2 (by decide) (by decide) (by decide)⟩;simp[WR,agt,aa3,F]
       |have k7:=(hI.1 (hn 7 (by decide))).1;go_simp;refine O _ _ ⟨(W.heap.size,g.2),?_,λ_=>⟨k7.alloc _,λ_=>fP W _⟩,λh=>(by rw[pr (by decide),hn 7 (by decide)]at h;cases h),λh=>(by rw[pr (by decide),hn 10 (by decide)]at h;cases h)⟩;simp[WR,agt,aa3,F,hn 7 (by decide)]
       |go_simp;refine O _ _ ⟨g,?_,hI.ab2 (by decide) (by decide) (by decide)⟩;simp[WR,agt,aa3,F]
       |skip
      .have⟨k7,h6⟩:=hI.1 (by simp[F]);have⟨v',w',hap,C⟩:=QZ w2 W k7 a2.out g.1 a b (h6 (by simp[F])) ap.out;refine ZB (.tmp 37) (.tmp 39) 132 rfl rfl (.slice ao2 e.gO.length cp2) (.slice (some ⟨g.1,0,none⟩) 1 1) rfl rfl (v':=v') (w':=w') hap ?_;refine O _ _ ⟨(g.1,v'),?_,λh=>(by rw[sM]at h;cases h),λ_ _=>C,λh=>(by rw[pr (by decide),hn 10 (by decide)]at h;cases h)⟩;simp[Act.put,WR,agt,aa3,F]
      all_goals have C:=hI.2.1 (by simp[F]) (by first|exact hn 10 (by decide)|simp[F])
      all_goals first
       |have ar:=C.lt2 ab.out;go_simp;refine O _ _ ⟨g,?_,hI.ab2 (by decide) (by decide) (by decide)⟩;simp[WR,agt,aa3,F]
       |skip
      have⟨g1,g2⟩:=g;have⟨ao9,cp9,e9⟩:=C.shape;dsimp only at e9;subst e9;have c9:=C.cell a5.out ac.out;have f9:=C.free a5.out ac.out;go_simp;refine O _ _ ⟨(g1,_),?_,λh=>(by rw[pr (by decide)]at h;simp[F]at h),λ_ h=>(by rw[sM]at h;cases h),λ_=>⟨W,C,rfl⟩⟩;simp[WR,agt,aa3,F]
     .rintro g W hI;simp only[aa2];have⟨W1,C,hW⟩:=hI.2.2 yt;subst hW;have a8:=a0.out.ai4 HE.out J.out I.out (a,b) (by omega) (v':=g.2) (w1:=W1) (by rw[a4.out];exact C.app);rw[a6.out]at a8;have a1:=fM a8;clear hI a8;go_wp2;go_roundw
      case rel=>exact⟨u+1,_,by go_num,by omega,Y.out,HA.out.to ⟨_,rfl,a1.out.1⟩ (LN (Ab.oa _ _ _).symm) a1.out.2,I.out,by unfold Ab.nm;rw[Ab.iR (Ab.gW HE.out)];exact J.out⟩
      case measure=>simp[intOf];omega
  .have HD:=fM (show R= .ok () d by rw[X,Iu (by omega)];rfl);have HA:=fM N;clear X N;go_wp2;go_end0;exact ga HD.out HA.out rfl
attribute [local go_sem] Oper.semAt_some
def TA (E:Env) (t:gy) (J:jd E t):iZ E 198 (λ_=>#[Bp E,iy E t]) (qz t) uV:=by
 refine dI λf h w R d HS H=>?_;unfold qz at d;go_enter func198,ntmps198;obtain⟨f0,O⟩:∃f0,f0=f:=⟨_,rfl⟩;obtain⟨n0,V⟩:∃n0,n0=h.nodes.length:=⟨_,rfl⟩;obtain⟨w0,X⟩:∃w0,w0=w:=⟨_,rfl⟩;go_wp21;refine dC (sG E (iF E)) H d HS rfl lT ?_;rintro(_) f h w H F C d;have⟨kb,lbb,cb,HQ⟩:=H.rel.bounds;have G:=H.lt;have z:=cb;have K:=(Kept.refl [] w).drew;go_wp21
 go_cut [13]from 6 to 12 (λr wc=>r= .bool (h.inScope (gZ [iA]) (iJ))/\Kept [] w wc)
 case first=>
  go_region_with (first
   |(go_at_call 216;refine(nH E [iA] w.drew (by simp)).mono ?_;rintro e Z ⟨k1,Y,rfl,u,x⟩;have l:=K.trans x;have c1:Z.cell? ⟨E.bB,186,none⟩=some (.func (.func kb) #[] lbb):=(l.cell (p:=⟨E.bB,186,none⟩) G (by simp)).trans z;have y:=fM u;have k:=fM l;clear u x l)
   |(go_at_call 229;refine(wX (H.k0 k).rel (gZ [iA]) iJ _ _ y (HQ.k0 k)).mono ?_;rintro e w2 ⟨rfl,I⟩;have N:=fM (k.trans I);clear I))
  all_goals (try (go_wp21))
  all_goals (go_meet;exact⟨rfl,N⟩)
 case rest=>
  obtain⟨rfl,U⟩:=hcut;replace H:=H.k0 U;cases hsc:h.inScope (gZ [iA]) iJ with
  |true=>
   replace d:Hid (R=(ww iA>>=λ_=>iP t>>=λ_=>(Pure.pure ():M Unit)) h):=by
    refine fM ?_;rw[d.out];unfold ra;rw[hsc];rfl
   go_wp21;refine dC (OB E iA) H d HS rfl lT ?_;rintro(_) f h w H F C d;go_wp21;refine dC (oQ E t J) H d HS rfl lT ?_;rintro(_) f h w H F C d;go_wp2;go_end0;exact ga d H rfl
  |false=>
   replace d:Hid (R=(iP t>>=λ_=>(Pure.pure ():M Unit)) h):=by
    refine fM ?_;rw[d.out];unfold ra;rw[hsc];rfl
   go_wp21;refine dC (oQ E t J) H d HS rfl lT ?_;rintro(_) f h w H F C d;go_wp2;go_end0;exact ga d H rfl
def UO (t:Addr) (w:gm):(ReflectliteValue.unpack (.iface 80 (.pointer (some t)))).run prog w
  = .ok (.agg #[jG 7 80,gE w.heap.size,.int .u64 150]) (w.alloc (.cells #[.pointer (some t)] 80)):=by kernel_rfl
def VY (t:Addr) (w:gm):(ReflectliteValue.unpack (.iface 75 (.pointer (some t)))).run prog w
  = .ok (.agg #[jG 7 75,gE w.heap.size,.int .u64 150]) (w.alloc (.cells #[.pointer (some t)] 75)):=by kernel_rfl
def aes (a:Addr) (w:gm):(ReflectliteValue.methodAny (ReflectliteValue.valueError "reflectlite.Value.Type" 0) (λt _ _ _=>ReflectliteType.toType t) #[.agg #[jG 7 80,.pointer (some a),.int .u64 150]]).run prog w
  = .ok (.iface 140 (.agg #[jG 7 80])) w:=rfl
def afU (a:Addr) (w:gm):(ReflectliteValue.methodAny (ReflectliteValue.valueError "reflectlite.Value.Type" 0) (λt _ _ _=>ReflectliteType.toType t) #[.agg #[jG 7 75,.pointer (some a),.int .u64 150]]).run prog w
  = .ok (.iface 140 (.agg #[jG 7 75])) w:=rfl
def XM (h:gG) (w:gm):(Go.method 494 140 (.agg #[h]) "Kind").run prog w= .ok (398,h) w:=by kernel_rfl
def XK (h:gG) (w:gm):(Go.method 494 140 (.agg #[h]) "Elem").run prog w= .ok (419,.agg #[h]) w:=by kernel_rfl
def C9 (h:gG) (w:gm):(Go.method 494 140 (.agg #[h]) "Implements").run prog w= .ok (420,.agg #[h]) w:=by kernel_rfl
def C8 (h:gG) (w:gm):(Go.method 494 140 (.agg #[h]) "AssignableTo").run prog w= .ok (417,.agg #[h]) w:=by kernel_rfl
def MN (v:gG) (w:gm):(Go.method 494 140 v "Comparable").run prog w= .ok (418,v) w:=by kernel_rfl
def abj (w:gm):((ReflectliteType.abiMethod λt=>(λa:Nat=>Value.int IntKind.u8 (a:Int)) <$> Rtype.kind t) #[jG 7 80]).run prog w= .ok (.int .u8 22) w:=by kernel_rfl
def aer (w:gm):((ReflectliteType.abiMethod λt=>(λa:Nat=>Value.int IntKind.u8 (a:Int)) <$> Rtype.kind t) #[jG 7 22]).run prog w= .ok (.int .u8 2) w:=by kernel_rfl
def ac9 (w:gm):((ReflectliteType.abiMethod λt=>(λa:Nat=>Value.int IntKind.u8 (a:Int)) <$> Rtype.kind t) #[jG 7 75]).run prog w= .ok (.int .u8 22) w:=by kernel_rfl
def afT (w:gm):((ReflectliteType.abiMethod λt=>(λa:Nat=>Value.int IntKind.u8 (a:Int)) <$> Rtype.kind t) #[jG 7 73]).run prog w= .ok (.int .u8 22) w:=by kernel_rfl
def rlm (z:Sem gG) (f:TypeId->Addr->Nat->Nat->Sem gG) (v:gG):
  ReflectliteValue.method z f #[v]=(do match <-ReflectliteValue.parts v with|none=>z|some (t,a,fl)=>f t a fl (fl%32)):=rfl
def Nn (a:Addr) (w:gm):(ReflectliteValue.parts (.agg #[jG 7 80,.pointer (some a),.int .u64 150])).run prog w= .ok (some (80,a,150)) w:=rfl
def Oc (a:Addr) (w:gm):(ReflectliteValue.parts (.agg #[jG 7 75,.pointer (some a),.int .u64 150])).run prog w= .ok (some (75,a,150)) w:=rfl
def abh (a p:Addr) (W:gm) (d:W.cell? a=some (.pointer (some p))):
  (ReflectliteValue.method (ReflectliteValue.valueError "reflectlite.Value.IsNil" 0) ReflectliteValue.isNil #[.agg #[jG 7 80,.pointer (some a),.int .u64 150]]).run prog W= .ok (.bool false) W:=by
 rw[rlm];simp only[Ue,Nn,Result.andThen];simp[ReflectliteValue.isNil,loadVar,isAgg,underlying,underlying80,d,Result.andThen]
def ac8 (a p:Addr) (W:gm) (d:W.cell? a=some (.pointer (some p))):
  (ReflectliteValue.method (ReflectliteValue.valueError "reflectlite.Value.IsNil" 0) ReflectliteValue.isNil #[.agg #[jG 7 75,.pointer (some a),.int .u64 150]]).run prog W= .ok (.bool false) W:=by
 rw[rlm];simp only[Ue,Oc,Result.andThen];simp[ReflectliteValue.isNil,loadVar,isAgg,underlying,underlying75,d,Result.andThen]
def aeq (w:gm):(ReflectliteType.method ReflectliteType.elem #[.agg #[jG 7 80]]).run prog w= .ok (.iface 140 (.agg #[jG 7 22])) w:=by kernel_rfl
def afS (w:gm):(ReflectliteType.method ReflectliteType.elem #[.agg #[jG 7 75]]).run prog w= .ok (.iface 140 (.agg #[jG 7 73])) w:=by kernel_rfl
def Mm (w:gm):(ReflectliteType.relation "Implements" ReflectliteType.implements_ #[.agg #[jG 7 22],.iface 140 (.agg #[jG 7 51])]).run prog w= .ok (.bool true) w:=by kernel_rfl
def MP (w:gm):(ReflectliteType.relation "Implements" ReflectliteType.implements_ #[.agg #[jG 7 73],.iface 140 (.agg #[jG 7 51])]).run prog w= .ok (.bool true) w:=by kernel_rfl
def Np (v:gG) (w:gm):(ReflectliteType.typeOf #[.iface 22 v]).run prog w= .ok (.iface 140 (.agg #[jG 7 22])) w:=rfl
def Ml (w:gm):(ReflectliteType.relation "AssignableTo" ReflectliteType.assignableTo #[.agg #[jG 7 22],.iface 140 (.agg #[jG 7 22])]).run prog w= .ok (.bool true) w:=by kernel_rfl
def Rq (n:Int) (w:gm):(ReflectliteValue.unpack (.iface 22 (fV n))).run prog w
  = .ok (.agg #[jG 7 22,gE w.heap.size,.int .u64 130]) (w.alloc (.cells #[fV n] 22)):=by kernel_rfl
def YW (w:gm):(Rtype.elem? 80).run prog w= .ok (some 22) w:=by kernel_rfl
def aiZ (p:Addr) (w:gm):(ReflectliteValue.mk 22 p ReflectliteValue.flagAddr).run prog w= .ok (.agg #[jG 7 22,.pointer (some p),.int .u64 386]) w:=by kernel_rfl
def abg (a p:Addr) (W:gm) (d:W.cell? a=some (.pointer (some p))):
  (ReflectliteValue.method (ReflectliteValue.valueError "reflectlite.Value.Elem" 0) ReflectliteValue.elem #[.agg #[jG 7 80,.pointer (some a),.int .u64 150]]).run prog W
   = .ok (.agg #[jG 7 22,.pointer (some p),.int .u64 386]) W:=by
 rw[rlm];simp only[Ue,Nn,Result.andThen];simp[ReflectliteValue.elem,loadVar,isAgg,underlying,underlying80,d,Result.andThen,YW,aiZ]
def rls (v x:gG):ReflectliteValue.set #[v,x]=(do
  let (some (dst,a,fl),some (src,b,_)):=(<-ReflectliteValue.parts v,<-ReflectliteValue.parts x)
   |unsupported (.noEntry "extern/(internal/reflectlite.Value).Set.zeroValue")
  if fl / ReflectliteValue.flagAddr%2==0 then unsupported (.noEntry "extern/(internal/reflectlite.Value).Set.unaddressable")
  let d <-loadVar src b
  if <-Rtype.directlyAssignable dst src then storeVar dst a d
  else if <-Rtype.implements dst src then
   if (<-Rtype.kind src)==20 then
    match d with
    | .nilIface=>unsupported (.noEntry "extern/reflectlite: a nil value of one interface type handed on as a value of another")
    |_=>storeVar dst a d
   else storeVar dst a (.iface src d)
  else panicString ("reflectlite.Set: value of type "++(<-Rtype.spelt src)++ " is not assignable to type "++(<-Rtype.spelt dst))
  pure (.tuple #[])):=rfl
def YX (a:Addr) (w:gm):(ReflectliteValue.parts (.agg #[jG 7 22,.pointer (some a),.int .u64 386])).run prog w= .ok (some (22,a,386)) w:=rfl
def abk (a:Addr) (w:gm):(ReflectliteValue.parts (.agg #[jG 7 22,.pointer (some a),.int .u64 130])).run prog w= .ok (some (22,a,130)) w:=rfl
def YV (w:gm):(Rtype.directlyAssignable 22 22).run prog w= .ok true w:=by rfl
theorem ahv (d b:Addr) (n:Int) (h:gG) (W:gm) (k:W.cell? b=some (fV n)) (u:W.cell? d=some h) (l:W.frozen? d=false):
  (ReflectliteValue.set #[.agg #[jG 7 22,.pointer (some d),.int .u64 386],.agg #[jG 7 22,.pointer (some b),.int .u64 130]]).run prog W
   = .ok (.tuple #[]) (W.setCell d (fV n)):=by
 rw[rls];simp only[Ue,YX,abk,Result.andThen];simp[ReflectliteValue.flagAddr,loadVar,isAgg,underlying,underlying22,k,Result.andThen,YV,storeVar,Value.cells,storeCells,Addr.add];rw[run_store prog W d _ _ rfl];grind
abbrev rv (T:Nat) (b:Nat):jA:=#[jG 7 T,gE b,.int .u64 150]
def AF {P:Program} (w:gm) (d:Nat) {x u : TypeId} {C:Array (String×TypeId)} {i:TypeInfo} {k:IntKind} (a b:Int)
  (y:P.underlying x=some (.interface C)) (z:P.underlying u=some (.int k)) (l:P.info? u=some i) (h:i.comparable=true):
  (Op.equalIn (d+2) x (.iface u (.int k a)) (.iface u (.int k b))).run P w= .ok (a==b) w:=by
 simp[Op.equalIn,qq y,qq z,typeInfo,l,h]
def Ft {P:Program} (w:gm) {u l : TypeId} {z:Array (String×TypeId)} {i:TypeInfo} {k:IntKind} (a b:Int)
  (x:P.underlying u=some (.interface z)) (y:P.underlying l=some (.int k)) (h:P.info? l=some i) (d:i.comparable=true):
  (binOp .eql u (.iface l (.int k a)) (.iface l (.int k b))).run P w= .ok (.bool (a==b)) w:=by
 simp only[binOp];simp[Op.equal,Op.maxDepth,AF w 9998 a b x y h d]
def Re:jA->Sem gG:=Extern.ReflectliteType.method λt=>do Rtype.noPackHeld "Comparable" t;pure (.bool (<-typeInfo t).comparable)
def IC (w:gm):(Re #[.agg #[jG 7 22]]).run prog w= .ok (.bool true) w:=by kernel_rfl
def aep:(prog.info? 22).map (·.comparable)=some true:=by kernel_rfl
def errorType (w:gm):Prop:=w.cell? ⟨0,0,none⟩=some (.iface 140 (.agg #[jG 7 51]))
theorem Uz (p q:Addr) (w:gm):
  CallsD prog 57 #[.pointer (some p),.pointer (some q)] .returning w λe k w'=>e=pL/\k= .returning/\w'=w:=by
 refine callsD_of_wpS func57 rfl λd l h=>?_;apply wpS_seq;apply wpS_region;simp[wpOpsS,go_sem,recoverD,h,ntmps57,Exit.thenS];refine wpS_cond (t:=false) (by rfl) ?_;simp only[ru,rj];refine wpS_of_wp (wp_skip ?_);cases d;simp_all[bodyPostS,results,results57]
def sO (h:errorType w) (o:Obj):errorType (w.alloc o):=by
 have:0 < w.heap.size:=by
  rcases Ws w.heap.size with k|d
  .simp[errorType,World.cell?,k]at h
  .exact d
 show(w.alloc o).cell? _=_;rw[uJ _ _ _ this];exact h
section
variable {P:Program} {ops:Array Oper} {Q:Exit->Act->gm->Prop} {md:Region.Mode}
end
def FF (w:gm):
  Calls prog 17 #[.nilIface] w λe w'=>e=ig (.tuple #[fV 0,fV 0])/\Kept [] w w':=by
 go_enter func17,ntmps17;go_wp2;go_ret2;exact⟨rfl,((Kept.refl _ _).alloc _).alloc _⟩
def Kc {S : List Nat} (h:errorType w) (l:Kept S w w') (u:0∉S):errorType w':=by
 have:0 < w.heap.size:=by
  rcases Ws w.heap.size with k|d
  .simp[errorType,World.cell?,k]at h
  .exact d
 show w'.cell? _=_;rw[l.cell (p:=⟨0,0,none⟩) this u];exact h
def J9 (h:errorType w):errorType w.drew:=h
def uy (a:Int×Int×Int) (d:gG):jA:=#[fV a.1,fV a.2.1,fV a.2.2,d,.bool false,fV 0,.nilIface,ji,.pointer none]
def acg (d f a:Int):Prop:=4<=d/\d<=64/\1<=f/\f<=32/\1<=a/\a<=16
def aeD (d f a:Int) (w:gm) (h:acg d f a):
  Calls prog 16 #[fV d,fV f,fV a] w λe w'=>e=ig (.tuple #[gE w.heap.size,.nilIface])/\w'=w.alloc (.cells (uy (d,f,a) (ji)) 69):=by
 have⟨h1,h2,h3,h4,h5,h6⟩:=h;go_enter func16,ntmps16;go_wp2;go_ret2;exact⟨rfl,rfl⟩
theorem XB (d f a:Int) (w:gm) (h:acg d f a):
  Calls prog 9 #[fV d,fV f,fV a] w λe w'=>e=ig (.tuple #[gE w.heap.size,fV 0])/\w'.heap[w.heap.size]?=some (gz (uy (d,f,a) (ji)) 69)/\Kept [] w w':=by
 go_enter func9,ntmps9;go_wp21;refine(aeD d f a _ h).mono ?_;rintro e y ⟨rfl,rfl⟩;go_wp21;refine(FF _).mono ?_;rintro e w2 ⟨rfl,k⟩;have x:Kept [] w w2:=((Kept.refl _ _).alloc _).next k (by simp)
 have l:=k.at (fP w _) (by simp);have u:Hid _:=l;go_wp2;go_ret2;simp_all
def Pf:(prog.info? 5).map (λi=>(i.zero,i.size,i.bytes))=some (some (.int .u8 0),1,1):=by kernel_rfl
def A8 (d:Nat) (a:Int×Int×Int) (k:gG) (w:gm) (h:w.heap[d]?=some (gz (uy a k) 69)):
  Calls prog 28 #[gE d] w λe w'=>e=ig (.bool false)/\w'=w:=by
 have l:w.cell? ⟨d,4,none⟩=some (.bool false):=by rw[fN h];rfl
 go_enter func28,ntmps28;go_wp2;go_ret;simp
theorem aai (y g c:Nat) (a:Int×Int×Int) (G:gG) (s t:fY) (base:Nat) (w:gm) (hx:w.heap[y]?=some (gz (uy a G) 69))
  (ho:w.ownsRow base 5 1 G s.size (kR s)) (ht:∀j u,(kR t)[j]?=some u->w.cell? ⟨g,j,none⟩=some u) (hl:s.size+t.size<=1024) (hb:base<=w.heap.size):
  Calls prog 18 #[gE y,oo g t.size c] w λe w'=>e=ig (.tuple #[fV t.size,.nilIface])/\
   ∃C,w'.heap[y]?=some (gz (uy a C) 69)/\w'.ownsRow base 5 1 C (s++t).size (kR (s++t))/\Kept (y::G.ownBlock.toList) w w'/\(C.ownBlock=G.ownBlock\/∀k,C.ownBlock=some k->w.heap.size<=k):=by
 obtain⟨i0,hi,V,X,Y⟩:=uH Pf;have c1:w.cell? ⟨y,3,none⟩=some G:=by rw[fN hx];rfl
 have O:∃ao l,G= .slice ao s.size l:=by
  rcases ho.2 with⟨rfl,h0⟩|⟨g,l,H,rfl,_⟩
  .grind
  .simp
 obtain⟨ao,l,rfl⟩:=O;have I:Hid _:=hx;have Z:Hid _:=ho;have HT:Hid _:=ht;go_enter func18,ntmps18;go_wp21;refine(A8 y a _ _ I).mono ?_;rintro e w1 ⟨rfl,rfl⟩;go_wp2_with (at_builtin;refine ij _ rfl _ _ 55 rfl base 5 i0 (.int .u8 0) 1 1 underlying55 hi V X Y rfl (by decide) _ _ _ rfl Z ⟨g,0,none⟩ t.size c (kR t) rfl ?c1 ?c2 ?c3 ?c4 ?c5 hb ?_)
 case c1=>simp[kR]
 case c2=>exact λj u h=>by rw[jj];exact HT j u h
 case c3=>exact Uu t
 case c4=>unfold maxLen;omega
 case c5=>omega
 intro v' w2 x z K;have⟨ao',d,hv⟩:=gw x;subst hv;have N:∀k,(Value.slice ao s.size l).ownBlock=some k->k≠y:=by
  intro k F;rcases Z.2 with⟨h,_⟩|⟨g',d,H,h,_,hc,_⟩
  .rw[h]at F;cases F
  .rw[h]at F;obtain rfl:=jv F;grind
 have J:w2.heap[y]?=some (gz (uy a (.slice ao s.size l)) 69):=by
  rw[z.block y (iQ I.out) (λh=>N y h.symm rfl)];exact I
 have d1:w2.cell? ⟨y,3,none⟩=some (.slice ao s.size l):=by rw[fN J];rfl
 have d2:=gh J 3;have h3:=fR J 3 (.slice ao' (s.size+t.size) d);have h4:(w2.setCell ⟨y,3,none⟩ (.slice ao' (s.size+t.size) d)).ownsRow base 5 1 (.slice ao' (s.size+t.size) d) (s++t).size (kR (s++t)):=by
  have U:(s++t).size=s.size+t.size:=ByteArray.size_append;rw[U,L9];refine rq x ?_ _;intro F;rcases x.2 with⟨h,_⟩|⟨g',d,H,h,_,hc,_⟩
  .grind
  .grind
 have h5:Kept (y::(Value.slice ao s.size l).ownBlock.toList) w1 (w2.setCell ⟨y,3,none⟩ (.slice ao' (s.size+t.size) d)):=
  ((Kept.refl _ _).grown z (λk F=> .inl (by simp[F]))).setCell (.inl (by simp)) _
 have H3:Hid _:=h3;have H4:Hid _:=h4;have HF:Hid _:=K;go_wp2;go_ret2;exact⟨rfl,_,H3,H4,h5,HF⟩
theorem YG (t:fY) (j:Nat) (u:gG) (h:(kR t)[j]?=some u):∃d:j < t.data.size,u= .int .u8 (t.data[j].toNat:Int):=by
 unfold kR at h;grind
def JG (t:fY) (d j:Nat) (u:gG) (h:(kR t)[j]?=some u):(bytesRow t d)[j]?=some u:=by
 obtain⟨k,rfl⟩:=YG t j u h;exact bytesRow_at t d j k
def Cq (t:fY) (d:Nat):t.size<=(bytesRow t d).size:=by
 have:t.data.size=t.size:=rfl;simp[bytesRow,this]
def BQ (h:w.heap[b]?=some (.cells c t m)) (j:Nat):w.cell? ⟨b,j,none⟩=c[j]?:=by simp[World.cell?,h]
def Ny (h:w.heap[b]?=some (.cells c t (n,n+1))) (j:Nat) (d:j < n):w.frozen? ⟨b,j,none⟩=false:=by
 simp[World.frozen?,h];omega
theorem Fe (h:w.heap[b]?=some (.cells c t m)) (j:Nat) (u:gG):(w.setCell ⟨b,j,none⟩ u).heap[b]?=some (.cells (c.setIfInBounds j u) t m):=by
 have d:=iQ h;have k:w.heap[b]= .cells c t m:=by simpa [xP d]using h
 show(w.heap.modify b _)[b]?=_;grind
def Df (g d h:Nat) (l:jA) (base n:Nat) (k:gG) (xs:List gG) (S:List Nat) (w wr:gm):Prop:=
 (∃C:jA,wr.heap[g]?=some (.cells C 5 (d,d+1))/\C.size=d)/\wr.heap[h]?=some (gz l 69)/\wr.ownsRow base 5 1 k n xs/\Kept S w wr
theorem Df.store {l d : Nat} {x : jA} {k : gG} {xs : List gG} {S : List Nat} {wr : gm} (h:Df g l d x base n k xs S w wr) (hg:w.heap.size<=g) (y:d≠g) (z:k.ownBlock≠some g) (j:Nat) (u:gG):
  Df g l d x base n k xs S w (wr.setCell ⟨g,j,none⟩ u):=by
 have⟨⟨C,hC,hs⟩,hx,ho,hk⟩:=h;refine⟨⟨_,Fe hC j u,by grind⟩,?_,rq ho z u,hk.setCell (.inr hg) u⟩;rw[Below.heap_setCell wr ⟨g,j,none⟩ u d y];exact hx
def Df.cell {d k : Nat} {x : jA} {u : gG} {xs : List gG} {S : List Nat} {wr : gm} (h:Df g d k x base n u xs S w wr) (j:Nat) (l:j < d):(∃v,wr.cell? ⟨g,j,none⟩=some v)/\wr.frozen? ⟨g,j,none⟩=false:=by
 have⟨⟨C,hC,hs⟩,_⟩:=h;refine⟨⟨C[j]'(by omega),?_⟩,Ny hC j l⟩;rw[BQ hC];simp
theorem NX (z:Nat) (a:Int×Int×Int) (F:gG) (s t:fY) (base:Nat) (w:gm) (hx:w.heap[z]?=some (gz (uy a F) 69))
  (ho:w.ownsRow base 5 1 F s.size (kR s)) (hl:s.size+t.size<=1024) (hb:base<=w.heap.size):
  Calls prog 10 #[gE z,gu t] w λe w'=>e=ig (.tuple #[fV t.size,fV 0,.bool true])/\
   ∃d,w'.heap[z]?=some (gz (uy a d) 69)/\w'.ownsRow base 5 1 d (s++t).size (kR (s++t))/\Kept (z::F.ownBlock.toList) w w'/\(d.ownBlock=F.ownBlock\/∀k,d.ownBlock=some k->w.heap.size<=k):=by
 have C:=run_bytes_of_string (P:=prog) w 9 55 5 t underlying9 underlying55 underlying5;obtain⟨cp,O⟩:∃cp,cp=grownCap w t.size 0 5:=⟨_,rfl⟩;rw[<-O]at C;clear O;have Z:=Cq t cp;have HR:=JG t cp;generalize bytesRow t cp=R at C Z HR;obtain⟨G,x⟩:∃G,G=w.drew.alloc (.cells R 5 (R.size,R.size+1)):=⟨_,rfl⟩;rw[<-x]at C;have HB:G.heap[w.heap.size]?=some (.cells R 5 (R.size,R.size+1)):=by rw[x];exact fP w.drew _
 have Y:Kept [] w G:=by rw[x];exact(Kept.refl [] w).drew.alloc _
 have z1:G.heap.size=w.heap.size+1:=by rw[x];show(w.heap.push _).size=_;simp
 clear x;have a0:=iQ hx;have HX:=ho.lt;have x1:=Y.at hx (by simp);have o1:=Y.ownsRow ho (λ_ _=>by simp);have N:=aai z w.heap.size cp a F s t base G x1 o1 (λj u h=>by rw[BQ HB];grind) hl (by omega);have HZ:Hid (G.heap.size=w.heap.size+1):=z1;clear z1 x1 o1 hx ho;go_enter func10,ntmps10;go_wp21;refine N.mono ?_;rintro e w2 ⟨rfl,d,V,U,K,J⟩;clear C N;go_wp21;refine(FF _).mono ?_;rintro e X ⟨rfl,y⟩;have hS:w.heap.size∉z::F.ownBlock.toList:=by
  simp only[kU,Option.mem_toList,not_or];exact⟨by omega,λh=>by grind⟩
 have H:X.heap[w.heap.size]?=some (.cells R 5 (R.size,R.size+1)):=y.at (K.at HB hS) (by simp);have HT:Df w.heap.size R.size z (uy a d) base (s++t).size d (kR (s++t)) (z::F.ownBlock.toList) w X:=
  ⟨⟨R,H,rfl⟩,y.at V (by simp),y.ownsRow U (λ_ _=>by simp),((Y.mono (by simp)).trans K).trans (y.mono (by simp))⟩
 have HN:d.ownBlock≠some w.heap.size:=by
  rcases J with h|h
  .grind
  .grind
 have HF:d.ownBlock=F.ownBlock\/∀k,d.ownBlock=some k->w.heap.size<=k:=by
  rcases J with h|h
  .exact .inl h
  .grind
 have I:(convert 55 9 (oo w.heap.size t.size cp)).run prog X= .ok (gu t) X:=by
  have:=aiu (P:=prog) X 55 9 5 ⟨w.heap.size,0,none⟩ cp t.data.toList underlying55 underlying5 underlying9 (λj hj=>by
   rw[jj,BQ H];exact HR j _ (by unfold kR;grind))
  simpa using this
 clear J K y V U H hS Y;go_wp21;clear I
 go_loopw [33] (λi wr=>∃k:Nat,k<=t.size/\i=fV k/\Df w.heap.size R.size z (uy a d) base (s++t).size d (kR (s++t)) (z::F.ownBlock.toList) w wr) (λi _=>t.size - (intOf i).toNat)
 case atStart=>grind
 case round=>
  obtain⟨k,hk,rfl,l⟩:=hrel;by_cases a1:k < t.size
  .have⟨⟨v,hv⟩,hfz⟩:=l.cell k (by omega);have HS:=l.store (gL _) (by omega) HN k (.int .u8 33);go_wp2;go_roundw
   case rel=>exact⟨k+1,by omega,by go_num,HS⟩
   case measure=>simp[intOf];omega
  .go_wp2;go_ret3;exact⟨rfl,d,l.2.1,l.2.2.1,l.2.2.2,HF⟩
structure RC where
 cs:fY
 av:gG
 at_:Int
 mv:gG
 lg:Int
 nT:fY:=⟨#[]⟩
 plT:Bool:=false
variable {R : RC}
def xE (R:RC) (d ps:Nat):jA:=#[gu R.cs,R.av,fV d,fV ps,fV R.at_,R.mv,fV R.lg,gu R.nT,.bool R.plT]
def Rd (w:gm) (r:Nat) (R:RC) (d ps:Nat):Prop:=w.heap[r]?=some (gz (xE R d ps) 160)
def Rd.text {d ps : Nat} (h:Rd w r R d ps):w.cell? ⟨r,0,none⟩=some (gu R.cs):=by rw[fN h];rfl
def Rd.gx {d ps : Nat} (h:Rd w r R d ps):w.cell? ⟨r,1,none⟩=some R.av:=by rw[fN h];rfl
def Rd.bg {d ps : Nat} (h:Rd w r R d ps):w.cell? ⟨r,2,none⟩=some (fV d):=by rw[fN h];rfl
def Rd.ps {d ps : Nat} (h:Rd w r R d ps):w.cell? ⟨r,3,none⟩=some (fV ps):=by rw[fN h];rfl
def Rd.mv {d ps : Nat} (h:Rd w r R d ps):w.cell? ⟨r,5,none⟩=some R.mv:=by rw[fN h];rfl
def Rd.lg {d ps : Nat} (h:Rd w r R d ps):w.cell? ⟨r,6,none⟩=some (fV R.lg):=by rw[fN h];rfl
def Rd.nT {d ps : Nat} (h:Rd w r R d ps):w.cell? ⟨r,7,none⟩=some (gu R.nT):=by rw[fN h];rfl
def Rd.plT {d ps : Nat} (h:Rd w r R d ps):w.cell? ⟨r,8,none⟩=some (.bool R.plT):=by rw[fN h];rfl
def Rd.free {d ps : Nat} (h:Rd w r R d ps) (j:Nat):w.frozen? ⟨r,j,none⟩=false:=by unfold Rd at h;simp[World.frozen?,h]
def Rd.Oa {k ps : Nat} (h:Rd w r R k ps) (d:Nat):Rd (w.setCell ⟨r,3,none⟩ (fV d)) r R k d:=fR h 3 _
def Rd.ajv {k ps : Nat} (h:Rd w r R k ps) (d:Nat):Rd (w.setCell ⟨r,2,none⟩ (fV d)) r R d ps:=fR h 2 _
def Rd.kept {d ps : Nat} {S : List Nat} (h:Rd w r R d ps) (k:Kept S w w') (l:r∉S):Rd w' r R d ps:=k.at h l
def pq (r:Nat) (R:RC) (d ps:Nat) (w:gm) (h:Rd w r R d ps):
  Calls prog 78 #[gE r] w λe w'=>e=ig (.bool (decide (ps=R.cs.size)))/\∃q,w'=w.drewN q:=by
 have t:=h.text;have p:=h.ps;generalize R.cs=s at t;by_cases e:ps=s.size
 .subst e;go_enter func78,ntmps78;go_wp21
  go_quiet (fail)
  go_wp2;go_ret;exact⟨by simp,⟨_,rfl⟩⟩
 .have k:((ps:Int)==(s.size:Int))=false:=beq_eq_false_iff_ne.2 (by omega);go_enter func78,ntmps78;go_wp21
  go_quiet (fail)
  go_wp2;go_ret;exact⟨by simp[e],⟨_,rfl⟩⟩
def xG (r:Nat) (R:RC) (d ps:Nat) (w:gm) (h:Rd w r R d ps) (k:ps<=R.cs.size) (_hs:R.cs.size<=1024):
  Calls prog 151 #[gE r] w λe w'=>e=ig (gu (R.cs.extract ps R.cs.size))/\∃q,w'=w.drewN q:=by
 have t:=h.text;have p:=h.ps;generalize R.cs=s at *;go_enter func151,ntmps151;go_wp21
 go_quiet (fail)
 go_wp2;go_ret;exact⟨rfl,⟨_,rfl⟩⟩
def KI (c:Int) (w:gm) (u:0<=c) (x:c<=255):
  Calls prog 153 #[.int .u8 c] w λe w'=>e=ig (.bool (decide (97<=c/\c<=122\/65<=c/\c<=90)))/\w'=w:=by
 by_cases d:97<=c<;>by_cases h:c<=122<;>by_cases k:65<=c<;>by_cases l:c<=90
 all_goals first|(exfalso;omega)|skip
 all_goals (go_enter func153,ntmps153;go_wp2;go_ret;exact⟨by first|(simp;done)|(simp;omega),rfl⟩)
def pre (s p:fY):Bool:=decide (p.size<=s.size)&&((s.extract 0 p.size).toList==p.toList)
def KM (s p:fY) (w:gm) (k:s.size<=1048576) (d:p.size<=1048576):
  Calls prog 243 #[gu s,gu p] w λe w'=>e=ig (.bool (pre s p))/\w'=w:=by
 by_cases h:p.size<=s.size
 .go_enter func243,ntmps243;go_wp2;go_ret;exact⟨by simp[pre,h],rfl⟩
 .go_enter func243,ntmps243;go_wp2;go_ret;exact⟨by simp[pre,h],rfl⟩
def vq (s p:fY) (w:gm) (h:s.size<=1048576) (d:p.size<=1048576):
  Calls prog 150 #[gu s,gu p] w λe w'=>e=ig (.bool (pre s p))/\w'=w:=by
 go_enter func150,ntmps150;go_wp21;refine(KM s p w h d).mono ?_;rintro e w' ⟨rfl,rfl⟩;go_wp2;go_ret;simp
theorem Gr (h:pre s p=true):p.size<=s.size:=by
 unfold pre at h;grind
def lO {ps : Nat} (h:pre (s.extract ps s.size) p=true) (d:ps<=s.size):ps+p.size<=s.size:=by
 have:=Gr h;simp at this;omega
def taken (R:RC) (p:fY) (ps:Nat):Nat:=if pre (R.cs.extract ps R.cs.size) p=true then ps+p.size else ps
def TR {ps : Nat} (h:ps<=R.cs.size):taken R p ps<=R.cs.size:=by
 unfold taken;split
 .rename_i d;exact lO d h
 omega
theorem TQ {ps : Nat}:ps<=taken R p ps:=by grind[taken]
def lR (r:Nat) (R:RC) (k ps:Nat) (s:fY) (w:gm) (h:Rd w r R k ps) (l:ps<=R.cs.size) (x:R.cs.size<=1024) (F:s.size<=1024):
  Calls prog 82 #[gE r,gu s] w λe w'=>e=ig (.bool (pre (R.cs.extract ps R.cs.size) s))/\Kept [r] w w'/\Rd w' r R k (taken R s ps):=by
 have H:=h;by_cases e:pre (R.cs.extract ps R.cs.size) s=true
 .have C:=lO e l;have d:taken R s ps=ps+s.size:=by unfold taken;rw[gv e]
  rw[d];go_enter func82,ntmps82;go_wp21;refine(xG r R k ps w H l x).mono ?_;rintro e w' ⟨rfl,q,rfl⟩;go_wp21;refine(vq _ s _ (by simp;omega) (by omega)).mono ?_;rintro e w' ⟨rfl,rfl⟩;have p:(w.drewN q).cell? ⟨r,3,none⟩=some (fV ps):=H.ps;have G:=H.free 3;have y:Hid (Kept [r] w ((w.drewN q).setCell ⟨r,3,none⟩ (fV ((ps+s.size:Nat))))):=((Kept.refl [r] w).drewN q).setCell (.inl (by simp)) _;have z:Hid (Rd ((w.drewN q).setCell ⟨r,3,none⟩ (fV ((ps+s.size:Nat)))) r R k (ps+s.size)):=Rd.Oa (w:=w.drewN q) H _;rw[e];go_wp2;go_ret;exact⟨by rw[e];rfl,y,z⟩
 .have d:taken R s ps=ps:=by unfold taken;rw[gH e]
  rw[d];have u:pre (R.cs.extract ps R.cs.size) s=false:=by simpa using e
  go_enter func82,ntmps82;go_wp21;refine(xG r R k ps w H l x).mono ?_;rintro e w' ⟨rfl,q,rfl⟩;go_wp21;refine(vq _ s _ (by simp;omega) (by omega)).mono ?_;rintro e w' ⟨rfl,rfl⟩;rw[u];go_wp2;go_ret;exact⟨by rw[u];rfl,(Kept.refl [r] w).drewN q,H⟩
def scan (q:Int->Bool) (s:fY) (i:Nat):Nat:=if h:i < s.size then (if q (bt s i)then i else scan q s (i+1))else i
  termination_by s.size - i
theorem Fu (h:s.size<=i):scan q s i=i:=by grind[scan]
theorem Lo (h:q (bt s i)=true):scan q s i=i:=by grind[scan]
theorem PV (d:i < s.size) (h:q (bt s i)=false):scan q s i=scan q s (i+1):=by grind[scan]
def us:i<=scan q s i:=by
 fun_induction scan q s i with
 |case1=>omega
 |case2=>omega
 |case3=>omega
def p6 (h:i<=s.size):scan q s i<=s.size:=by
 fun_induction scan q s i with
 |case1=>omega
 |case2 _ _ _ ih=>omega
 |case3=>omega
theorem afB:scan q s i < s.size->q (bt s (scan q s i))=true:=by
 fun_induction scan q s i with
 |case1 _ _ h=>grind
 |case2 _ _ _ ih=>exact ih
 |case3 _ h=>omega
structure Yi (w:gm) (S:List Nat) (k:Nat) (caps:jA) (q:Int->Bool):Prop where
 ent:∀(args:jA) (w:gm),(callFunc k args).run prog w= .ok (.enter k args) w
 ask:∀(c:Int) (w':gm),0<=c->c<=255->Kept S w w'->Calls prog k (#[.int .u8 c]++caps) w' λe w''=>e=ig (.bool (q c))/\∃n,w''=w'.drewN n
theorem TT (r:Nat) (R:RC) (l ps:Nat) (k:Nat) (d:jA) (q:Int->Bool) (w:gm) (h:Rd w r R l ps) (U:ps<=R.cs.size) (hs:R.cs.size<=1024) (V:Yi w [r] k d q):
  Calls prog 249 #[gE r,.func (.func k) #[] d] w λe w'=>e=ig (gu (R.cs.extract ps (scan q R.cs ps)))/\Kept [r] w w'/\Rd w' r R l (scan q R.cs ps):=by
 have z:=V;have p0:=h.ps;have H:=h;have I:=get_bt R.cs;have N:=z.ent;go_enter func249,ntmps249;go_wp21
 go_loopw [] (λwr=>∃i:Nat,ps<=i/\i<=R.cs.size/\scan q R.cs i=scan q R.cs ps/\Rd wr r R l i/\Kept [r] w wr) (λwr=>R.cs.size - (match wr.cell? ⟨r,3,none⟩with|some v=>(intOf v).toNat|none=>0))
 case atStart=>exact⟨ps,gL _,U,rfl,H,Kept.refl _ _⟩
 case round=>
  have⟨i,hi0,hi1,hsc,HR,HKW⟩:=hrel;have t:=HR.text;have p:=HR.ps;have Y:=HR.free 3;by_cases e:i=R.cs.size
  .have C:=(λw' (h:Rd w' r R l i)=>pq r R l i w' h);have e2:scan q R.cs ps=i:=by rw[<-hsc];exact Fu (by omega)
   have G:decide (i=R.cs.size)=true:=by simp[e]
   rw[e2];rw[G]at C;go_wp21
   go_quiet ((go_at_call 78;refine rl (C _ ?_);exact HR))
   go_wp21
   go_quiet (fail)
   go_wp2;go_ret;exact⟨by rw[e2,e];rfl,((HKW.drewN _).drewN _),by rw[e2];exact HR⟩
  .have x:i < R.cs.size:=by omega
   have C:=(λw' (h:Rd w' r R l i)=>pq r R l i w' h);have G:decide (i=R.cs.size)=false:=by simp[e]
   rw[G]at C;have Z:=I i x;have J:=bt_nonneg R.cs i;have K:=bt_le R.cs i;by_cases u:q (bt R.cs i)=true
   .have e2:scan q R.cs ps=i:=by rw[<-hsc];exact Lo u
    rw[e2];have D:=(λw' h=>z.ask (bt R.cs i) w' J K h);rw[u]at D;go_wp21
    go_quiet (first|(go_at_call 78;refine rl (C _ ?_);exact HR)|(refine rl (D _ ?_);exact HKW.drewN _))
    go_wp21
    go_quiet (fail)
    go_wp2;go_ret;exact⟨by rw[e2];rfl,((HKW.drewN _).drewN _),by rw[e2];exact HR⟩
   .have y:q (bt R.cs i)=false:=by simpa using u
    have HS:scan q R.cs (i+1)=scan q R.cs ps:=by rw[<-hsc,PV x y]
    have D:=(λw' h=>z.ask (bt R.cs i) w' J K h);rw[y]at D;go_wp21
    go_quiet (first|(go_at_call 78;refine rl (C _ ?_);exact HR)|(refine rl (D _ ?_);exact HKW.drewN _))
    have F:=Rd.Oa (w:=wr.drewN nq) HR (i+1);have O:=(HKW.drewN nq).setCell (p:=⟨r,3,none⟩) (.inl (by simp)) (fV ((i+1:Nat)));go_wp2;go_roundw
    case rel=>grind
    case measure=>
     have X:=F.ps;rw[show((i:Int)+1)=((i+1:Nat):Int)from by omega,X,p];simp[intOf];omega
def jq (s:fY) (c:Int):Bool:=decide (0<=Lib.indexByte s.data.toList c.toNat.toUInt8)
def abM (s:fY) (c:Int):jq s c=s.data.toList.contains c.toNat.toUInt8:=by rw[Lib.contains_iff_indexByte];rfl
def akc {c : Int} (d:0<=c) (k:c<=255) {x:UInt8} (h:c.toNat.toUInt8=x):c=(x.toNat:Int):=by
 have:=si UInt8.toNat h;simp at this;omega
def abN {c : Int} (d:0<=c) (k:c<=255) (h:jq iO c=true):c=62:=by
 rw[abM]at h;simp at h;exact akc d k h
def K4 (b:Nat) (s:fY) (c:Int) (w:gm) (h:w.cell? ⟨b,0,none⟩=some (gu s)):
  Calls prog 251 #[.int .u8 c,gE b] w λe w'=>e=ig (.bool (jq s c))/\w'=w:=by
 have C:=Tryz.strings_IndexByte s c w;go_enter func251,ntmps251;go_wp21;refine C.mono ?_;rintro e w' ⟨rfl,rfl⟩;generalize hx:Lib.indexByte s.data.toList c.toNat.toUInt8=x;have k:jq s c=decide (0<=x):=by unfold jq;rw[hx]
 have d:=fM k;clear k;by_cases e:0<=x
 .go_wp2;go_ret;exact⟨by rw[d.out];simp[e],rfl⟩
 .go_wp2;go_ret;exact⟨by rw[d.out];simp[e],rfl⟩
def Dk (w:gm) (S:List Nat) (b:Nat) (s:fY) (h:w.cell? ⟨b,0,none⟩=some (gu s)) (u:b < w.heap.size) (l:b∉S):Yi w S 251 #[gE b] (jq s) where
 ent:=enters_of func251 (by rfl) rfl
 ask c w' _ _ hk:=(K4 b s c w' ((hk.cell (p:=⟨b,0,none⟩) u l).trans h)).mono λe x ⟨d,k⟩=>⟨d,0,k⟩
def pD (s:fY) (w:gm):
  Calls prog 159 #[gu s] w λe w'=>e=ig (.func (.func 251) #[] #[gE w.heap.size])/\w'=w.alloc (.cells #[gu s] 9):=by
 have k:∀(h:Fn) (first d:jA) (w:gm),(Instr.makeFunc h first d).run prog w= .ok (.func h first d) w:=λ_ _ _ _=>rfl;go_enter func159,ntmps159;go_wp2;go_ret;simp
def Sj (w:gm) (S:List Nat):Yi w S 153 #[] (λc=>decide (97<=c/\c<=122\/65<=c/\c<=90)) where
 ent:=enters_of func153 (by rfl) rfl
 ask c w' h0 d _:=(KI c w' h0 d).mono λe k ⟨d,h⟩=>⟨d,0,h⟩
def aco (b d:Nat) (s:fY) (c:Int) (w:gm) (h:w.cell? ⟨b,0,none⟩=some (gu s)) (k:w.cell? ⟨d,0,none⟩=some (.func (.func 251) #[] #[gE b])):
  Calls prog 332 #[.int .u8 c,gE d] w λe w'=>e=ig (.bool (!jq s c))/\w'=w:=by
 have C:=K4 b s c w h;generalize jq s c=x at C|-;go_enter func332,ntmps332;go_wp21;refine C.mono ?_;rintro e w' ⟨rfl,rfl⟩;cases x
 .go_wp2;go_ret;simp
 .go_wp2;go_ret;simp
def aaO (w:gm) (S:List Nat) (b d:Nat) (s:fY) (h:w.cell? ⟨b,0,none⟩=some (gu s)) (k:w.cell? ⟨d,0,none⟩=some (.func (.func 251) #[] #[gE b])) (z:b < w.heap.size) (y:b∉S) (u:d < w.heap.size) (l:d∉S):Yi w S 332 #[gE d] (λc=>!jq s c) where
 ent:=enters_of func332 (by rfl) rfl
 ask c w' _ _ hk:=(aco b d s c w' ((hk.cell (p:=⟨b,0,none⟩) z y).trans h) ((hk.cell (p:=⟨d,0,none⟩) u l).trans k)).mono λe C ⟨x,k⟩=>⟨x,0,k⟩
def ae5 (f:Fn) (x y:jA) (w:gm):
  Calls prog 295 #[.func f x y] w λe w'=>e=ig (.func (.func 332) #[] #[gE w.heap.size])/\w'=w.alloc (.cells #[.func f x y] 218):=by
 have k:∀(h:Fn) (first d:jA) (w:gm),(Instr.makeFunc h first d).run prog w= .ok (.func h first d) w:=λ_ _ _ _=>rfl;go_enter func295,ntmps295;go_wp2;go_ret;simp
theorem wQ (r:Nat) (R:RC) (z ps:Nat) (s:fY) (w:gm) (h:Rd w r R z ps) (Z:ps<=R.cs.size) (hs:R.cs.size<=1024):
  Calls prog 247 #[gE r,gu s] w λe w'=>e=pL/\Kept [r] w w'/\Rd w' r R z (scan (λc=>!jq s c) R.cs ps):=by
 have hr:=iQ h;have H:=h;clear h;obtain⟨l,d⟩:∃l,l=w.alloc (.cells #[gu s] 9):=⟨_,rfl⟩;obtain⟨w2,k⟩:∃w2,w2=l.alloc (.cells #[.func (.func 251) #[] #[gE w.heap.size]] 218):=⟨_,rfl⟩;have O:l.heap.size=w.heap.size+1:=by rw[d];simp
 have z2:w2.heap.size=w.heap.size+2:=by rw[k];simp[O]
 have J:l.heap[w.heap.size]?=some (gz #[gu s] 9):=by rw[d];exact fP w _
 have N:Kept [r] w l:=by rw[d];exact(Kept.refl _ _).alloc _
 have u:Kept [] l w2:=by rw[k];exact(Kept.refl _ _).alloc _
 have Y:w2.heap[l.heap.size]?=some (gz #[.func (.func 251) #[] #[gE w.heap.size]] 218):=by rw[k];exact fP l _
 have I:=u.at J (by simp);have x:Rd w2 r R z ps:=by rw[k,d];exact(((Kept.refl [] w).alloc _).alloc _).at H (by simp)
 have U:Kept [r] w w2:=N.trans (u.mono (by simp));have K:Yi w2 [r] 332 #[gE l.heap.size] (λc=>!jq s c):=
  aaO w2 [r] w.heap.size l.heap.size s (by simp_all) (by simp_all) (by omega) (by grind) (by omega) (by grind)
 have C:=TT r R z ps _ _ _ w2 x Z hs K;have F:=fM d;have G:=fM k;clear K x I Y u N J O z2 d k;go_enter func247,ntmps247;go_wp21;refine(pD s w).mono ?_;rintro e w' ⟨rfl,rfl⟩;rw[<-F.out];go_wp21;refine(ae5 _ _ _ l).mono ?_;rintro e w' ⟨rfl,rfl⟩;rw[<-G.out];go_wp21;refine C.mono ?_;rintro e w3 ⟨rfl,y,X⟩;have V:=U.trans y;clear y;go_wp2;go_end0;grind
structure M5 (w:gm) (r:Nat) (R:RC) (g cap:Nat) (cut:Nat->Nat):Prop where
 av:R.av=oo g (R.cs.size+1) cap
 ne:g≠r
 lt:g < w.heap.size
 at_:∀i,i<=R.cs.size->w.cell? ⟨g,i,none⟩=some (fV (cut i))
def M5.kept {d : Nat} {k : Nat->Nat} (h:M5 w r R g d k) (l:Kept [r] w w'):M5 w' r R g d k:=
 ⟨h.av,h.ne,lU h.lt l.size,λi u=>(l.cell (p:=⟨g,i,none⟩) h.lt (by simp[h.ne])).trans (h.at_ i u)⟩
def qw (r:Nat) (R:RC) (k ps g u:Nat) (d:Nat->Nat) (w:gm) (h:Rd w r R k ps) (l:M5 w r R g u d) (z:k<=R.cs.size) (C:ps<=R.cs.size) (H:R.cs.size<=1024):
  Calls prog 79 #[gE r] w λe w'=>e=ig (.agg #[fV (d k),fV (d ps)])/\Kept [] w w':=by
 have a:=h.gx;rw[l.av]at a;have p:=h.ps;have b:=h.bg;have F:=l.at_ k z;have G:=l.at_ ps C;have hr:=iQ h;have hg:=l.lt;generalize R.cs.size=n at *;generalize d k=x at *;generalize d ps=y at *;go_enter func79,ntmps79;go_wp21;go_region
 all_goals (try go_wp2)
 refine ou (v:= .agg #[fV x,fV y]) ?_ rfl ⟨rfl,((Kept.refl [] w).alloc _).drew⟩;simp[results,results79,asAddr,Result.andThen,go_sem]
end
end Go.Proofs.YthcohfdidcdchaaGreatDoor
