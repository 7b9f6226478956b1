import Derived.Test.YtlhhgenpcjjajaaGreatDoorRelD
import Derived.Stop.Asserts
import Derived.RowKitTokens
import Derived.Defers
import Derived.Recover
import Derived.Laws.Pointers
import Derived.Outline
import Derived.Deep.RegionWith
import Derived.Handy
import Derived.PlainAid
import Derived.Lib.IndexAny
import Derived.BigRegion
import Derived.Laws.BytesArg
import Derived.Deep.AppendLies
set_option linter.unusedSimpArgs false
set_option linter.unusedVariables false
set_option linter.defProp false
set_option maxHeartbeats 0
set_option maxRecDepth 100000
namespace Go.Proofs.YtlhhgenpcjjajaaGreatDoor
open Go.RowKit Go.Extern.Stop Go.Stop Go.Extern Go.PlainAid Tryz
def lx:=@Nat.le_succ
def EN:=@Nat.eq_zero_or_pos
def pR:=@World.cell?_alloc_lt
def kA:=@List.mem_cons
def Tu:=@run_convert_bytes_back
def xS:=@Calls.quiet_of
def wQ:=@dif_pos
def lY:=@List.length_append
section
variable {E : Env} {L : kZ} {S : List Nat} {W w w' : fO} {b base clock g i it j n r : Nat} {c : jB} {f : Nat->Nat} {p s : fN} {q : Int->Bool} {rest : j5} {t : TypeId} {y : iM}
def Leaves.k0 {α:Type} {r:qI α} {d:(Nat->Nat)->α->gh} {e : Ending} (h:Leaves E f n w' r d e W) (l:Kept [] w w'):Leaves E f n w r d e W:=by
 cases r with
 |ok a σ'=>have⟨g,h1,h2,h3,h4,h5⟩:=h;exact⟨g,h1,h2,h3,h4,(Fr.gv l).trans h5⟩
 |stop c p=>have⟨k,h1,h2,h3⟩:=h;exact⟨k,h1,h2,(Fr.gv l).trans h3⟩
 |stuck=>exact h
def ac7 (E:Env) (t:fZ):Prop:=∀(a d:Nat) (h:lM) (k l m o u x z A B C:gh) (w:fO),kE E.bm a d h k l m o u x z A B C w->
  Calls prog 264 #[.agg #[k,l,m,o,u,x,z,A,B,C],hH E t] w λe w'=>∃v,e=gO v/\ny E.bm a d (jI h t) v w/\Kept [] w w'
def lN (E:Env) (r:Ru) (t:fZ) (m:M Unit):Prop:=∀v f d w,RF E f d w->ny E.bm E.bB (f 0) r v w->m d≠ .stuck->
  ∃k e h,v= .func (.func k) e h/\(∀a w,(callFunc k a).run prog w= .ok (.enter k a) w)/\Calls prog k (e++#[hH E t]++h) w (Leaves E f d.nodes.length w (m d) uV)
def cY (a:Ru->fZ->M Unit) (m:Nat) (t:fZ):M Unit:=match wo[m]? with
 |some sp=>a (jI sp t) t
 |none=>stuck
theorem RF.Gp {σ:Ab} (h:RF E f σ w) {m : Nat} {sp : lM} (H:wo[m]?=some sp):∃d k l o u x z A B D,kE E.bm E.bB (f 0) sp d k l o u x z A B D w/\
  (∀j,j < 10->w.cell? ⟨E.bB,4+m*10+j,none⟩=[d,k,l,o,u,x,z,A,B,D][j]?):=by
 obtain⟨L,rfl,F⟩:=h;have⟨cs,hcs,hlen,hru⟩:=F.env.Gp;have⟨d,k,l,o,u,x,z,A,B,D,e,hi⟩:=hru m sp H;have I:m < 18:=(List.getElem?_eq_some_iff.1 H).1;refine⟨d,k,l,o,u,x,z,A,B,D,?_,?_⟩
 .have G:=F.fr;have a:=G.n E.bm;have J:∀{R:Option (List (List fN×Ru))} {v:gh},rB E.bm E.bB (L.gp 0) R v E.w0->rB E.bm E.bB (L.gp 0) R v w:=by
   intro R v h;cases R with
   |none=>exact h
   |some R=>have⟨b,hb⟩:=h;exact⟨b,hb.fr a (G.calm (.inl hb.at))⟩
  exact⟨hi.blank.fr a,hi.jq.fr a,hi.gm.fr a,hi.gP.fr a,hi.il.fr a,J hi.start,J hi.stop,hi.jj.fr a,hi.jG.fr a,hi.gN.fr a⟩
 .intro j K;have⟨C,hb,hC⟩:=F.gR;rw[fw hb,hC.low _ (by omega),show 4+m*10+j=4+(m*10+j) by omega,hcs _ (by omega),<-e]
  grind
def Zd (E:Env) (z:Ru->fZ->M Unit) (t:fZ) (T:ac7 E t) (U:∀r,lN E r t (z r t)) (m:Nat):iG E 171 (λ_=>#[Bp E,fK m,hH E t]) (cY z m t) uV:=by
 intro f A w h l;unfold cY at l|-;cases hm:wo[m]? with
 |none=>rw[hm]at l;exact absurd rfl l
 |some sp=>
  rw[hm]at l;simp only[]at l|-;have C:m < 18:=(List.getElem?_eq_some_iff.1 hm).1;have⟨v0,v1,v2,v3,v4,v5,v6,v7,v8,v9,hi,hc⟩:=h.Gp hm;have q0:w.cell? ⟨E.bB,4+m*10,none⟩=some v0:=hc 0 (by decide);have q1:w.cell? ⟨E.bB,4+m*10+1,none⟩=some v1:=hc 1 (by decide);have q2:w.cell? ⟨E.bB,4+m*10+2,none⟩=some v2:=hc 2 (by decide);have q3:w.cell? ⟨E.bB,4+m*10+3,none⟩=some v3:=hc 3 (by decide);have q4:w.cell? ⟨E.bB,4+m*10+4,none⟩=some v4:=hc 4 (by decide);have q5:w.cell? ⟨E.bB,4+m*10+5,none⟩=some v5:=hc 5 (by decide);have q6:w.cell? ⟨E.bB,4+m*10+6,none⟩=some v6:=hc 6 (by decide);have q7:w.cell? ⟨E.bB,4+m*10+7,none⟩=some v7:=hc 7 (by decide);have q8:w.cell? ⟨E.bB,4+m*10+8,none⟩=some v8:=hc 8 (by decide);have q9:w.cell? ⟨E.bB,4+m*10+9,none⟩=some v9:=hc 9 (by decide);have X:=h.lt;have D:=T _ _ _ _ _ _ _ _ _ _ _ _ _ w hi;have B:=(λv w' (o:Kept [] w w') (x:ny E.bm E.bB (f 0) (jI sp t) v w)=>U (jI sp t) v f A w' (h.gJ o) (x.fr (.gv o)) l);generalize hZ:z (jI sp t) t A=Z at B|-;generalize hH E t=tv at *;go_enter func171,ntmps171
  go_wp21
  refine D.mono ?_;rintro e Y ⟨v,rfl,x,o⟩;obtain⟨k,bs,cs,rfl,V,d⟩:=B v Y o x;have H:=d.mono (λe W u=>u.k0 o)
  go_wp21
  refine H.mono ?_;intro e W u;cases Z with
  |ok a σ'=>
   obtain⟨g,J,K,rfl,N,O⟩:=u;have I:Hid (Leaves E f A.nodes.length w (.ok a σ') uV (gO (uV g a)) W):=fx ⟨g,J,K,rfl,N,O⟩;go_wp2;go_end0;exact I
  |stop c p=>
   obtain⟨j,rfl,F,G⟩:=u;go_wp2;exact⟨rfl,pd rfl F G⟩
  |stuck=>exact u.elim
def ql (a:Nat->fZ->M Unit) (t:fZ):M Unit:=match t.k with
 | .lost=>Pure.pure ()
 |_=>λd=>if d.behind&&ku t.chars BQ then .ok () {d with behind:=false,gp:=t.a} else kq a t {d with behind:=false,gp:=t.a}
def Zi (s:fN):ku s BQ=(s.toList==[10]):=by
 simp[ku]
def OY (a b:Int) (w:fO):Calls prog 436 #[.agg #[fK a,fK b]] w λe w'=>e=gO (.tuple #[fK a,fK b])/\Kept [] w w':=by
 go_enter func436,ntmps436
 go_wp21
 go_region
 all_goals (try go_wp2)
 all_goals (try go_ret2)
 all_goals exact⟨rfl,((Kept.refl [] w).alloc _).drew⟩
theorem yB (E:Env) (d:Nat->fZ->M Unit) (hA:∀(m:Nat) (t:fZ),iL E t->iG E 171 (λ_=>#[Bp E,fK m,hH E t]) (d m t) uV) (t:fZ) (Z:iL E t) (hk:t.k≠ .lost) {T : TypeId} {v : gh} (B:hH E t= .iface T v) (Y:T≠190)
  (I:∀w,(Go.method 500 T v "Bytes").run prog w= .ok (436,.agg #[fK t.a,fK t.b]) w):iG E 57 (λ_=>#[Bp E,hH E t]) (ql d t) uV:=by
 have F:=fx (tA E d hA t Z);intro f A w h K;obtain⟨R,k⟩:∃R,R=ql d t A:=⟨_,rfl⟩;rw[<-k]at K|-;replace k:=k.trans (show ql d t A=if A.behind&&ku t.chars BQ then .ok () {A with behind:=false,gp:=t.a} else kq d t {A with behind:=false,gp:=t.a} by
  grind[ql])
 have HS:=fx K;have H:=fx (At.start h);have U:=H.out.Yr;have a0:=h.lt;have f1:=H.out.free 198;have f2:=H.out.free 197;have c2:=H.out.SK;have G:=λw=>zv E t w;simp only[B]at G F|-;have C:=λ(v:gh) (xT:TypeId) (w:fO)=>FQ (z:= .agg #[fK 0,fK 0]) underlying190 rfl Y v xT w;have N:=fx G;clear h K G B Z hk Y;have O:Hid (∀o,Kept [] w (w.alloc o)):=fx (λo=>(Kept.refl [] w).alloc o);have D:=fx (λw=>OY (t.a:Int) (t.b:Int) w);replace H:=fx ((H.out.su false).k0 ((Kept.refl [] _).alloc (fV #[fK 0,fK 0] 190)));cases hb:A.behind with
 |false=>
  have u:R=(kq d t>>=λ_=>(Pure.pure ():M Unit)) {A with behind:=false,gp:=t.a}:=by rw[k,hb,M.bind_pure];rfl
  have l:=fx u;rw[hb]at U;clear k u hb O;go_enter func57,ntmps57
  go_wp21
  refine(D.out _).mono ?_;rintro e w1 ⟨rfl,a⟩;replace H:=fx (H.out.k0 a);clear a;have V:=H.out.SK;have X:=H.out.free 197;have l3:=H.out.lt;replace H:=fx (H.out.CZ t.a)
  go_wp21
  refine dC (F.out) H l HS rfl (λ_ _ _ _ h=>And.intro rfl (lS h)) ?_;clear H l;rintro(_) f A w H HX HF l;go_wp2;go_end0;exact fL l.out H.out rfl
 |true=>
  rw[hb]at U k;simp only[Bool.true_and]at k;clear hb O;cases hn:ku (fZ.chars t) BQ with
  |false=>
   rw[hn]at k;have u:R=(kq d t>>=λ_=>(Pure.pure ():M Unit)) {A with behind:=false,gp:=t.a}:=by rw[k,M.bind_pure];rfl
   have l:=fx u;have J:=(Zi (fZ.chars t)).symm.trans hn;clear k u hn;go_enter func57,ntmps57
   go_wp21
   refine(D.out _).mono ?_;rintro e w1 ⟨rfl,a⟩;replace H:=fx (H.out.k0 a);clear a;have V:=H.out.SK;have X:=H.out.free 197;have l3:=H.out.lt;replace H:=fx (H.out.CZ t.a)
   go_wp21
   refine(N.out _).mono ?_;rintro e w2 ⟨rfl,x⟩;replace H:=fx (H.out.k0 x);clear x
   go_wp21
   refine dC (F.out) H l HS rfl (λ_ _ _ _ h=>And.intro rfl (lS h)) ?_;clear H l;rintro(_) f A w H HX HF l;go_wp2;go_end0;exact fL l.out H.out rfl
  |true=>
   rw[hn]at k;simp only[]at k;have l:=fx k;have J:=(Zi (fZ.chars t)).symm.trans hn;clear k hn;go_enter func57,ntmps57
   go_wp21
   refine(D.out _).mono ?_;rintro e w1 ⟨rfl,a⟩;replace H:=fx (H.out.k0 a);clear a;have V:=H.out.SK;have X:=H.out.free 197;have l3:=H.out.lt;replace H:=fx (H.out.CZ t.a)
   go_wp21
   refine(N.out _).mono ?_;rintro e w2 ⟨rfl,x⟩;replace H:=fx (H.out.k0 x);clear x;go_wp2;go_end0;exact fL l.out H.out rfl
def RF.RH {σ:Ab} (h:RF E f σ w):Calls prog 179 #[jp E.bB 188] w λe w'=>e=gO (oV f σ.last)/\w'=w:=by
 obtain⟨L,rfl,a⟩:=h;exact SD a
def RF.ae4 {σ:Ab} (h:RF E f σ w):Calls prog 269 #[jp E.bB 189] w λe w'=>e=gO (fK σ.act.length)/\w'=w:=by
 obtain⟨L,rfl,a⟩:=h;exact ada a
def RF.dO {σ:Ab} (h:RF E f σ w) (n:Int):Calls prog 248 #[jp E.bB 189,fK n] w λe w'=>e=gO (oV f (gU σ.act n))/\w'=w:=by
 obtain⟨L,rfl,a⟩:=h;exact agq a n
def RF.dz {σ:Ab} (h:RF E f σ w) (n:Int):Calls prog 248 #[jp E.bB 188,fK n] w λe w'=>e=gO (oV f (gU σ.fQ n))/\w'=w:=by
 obtain⟨L,rfl,a⟩:=h;exact afC a n
def RF.afa {σ:Ab} (h:RF E f σ w) (x:iM) (d:σ.gx x=true):Calls prog 322 #[jp E.bB 188,oV f x] w λe w'=>e=gO (.bool (decide (x∈σ.fQ)))/\w'=w:=by
 obtain⟨L,rfl,a⟩:=h;exact afg a x d
def RF.aff {σ:Ab} (h:RF E f σ w) (x:iM) (d:σ.gx x=true):Calls prog 322 #[jp E.bB 189,oV f x] w λe w'=>e=gO (.bool (decide (x∈σ.act)))/\w'=w:=by
 obtain⟨L,rfl,a⟩:=h;exact afo a x d
def RF.adx {σ:Ab} (h:RF E f σ w) (x:iM) (d:σ.gx x=true):Calls prog 246 #[jp E.bB 188,oV f x] w λe w'=>e=gO (oV f (gU σ.fQ (posOf σ.fQ x - 1)))/\w'=w:=by
 obtain⟨L,rfl,a⟩:=h;exact y8 a x d
def RF.adg {σ:Ab} (h:RF E f σ w) (n:Int):σ.gx (gU σ.act n)=true:=by
 obtain⟨L,rfl,k⟩:=h;unfold gU
 by_cases d:0<=n/\n < σ.act.length
 .rw[fU d];have a:n.toNat < σ.act.length:=by omega
  have e:σ.act.getD n.toNat none=σ.act[n.toNat]:=by simp[List.getD,a]
  rw[e];exact k.wf.act _ (tM a)
 .rw[gn d];rfl
def abV {σ:Ab} (h:RF E f σ w) (x:iM) (d:σ.gx x=true):
  Calls prog 274 #[Bp E,oV f x] w λe w'=>e=gO (.bool (σ.Sm x))/\w'=w:=by
 have C:=h.afa x d;unfold Ab.Sm;cases x with
 |none=>
  go_enter func274,ntmps274;go_wp2;go_ret;simp
 |some i=>
  have a:oV f (some i)=fW (f i):=rfl;rw[a]at C|-;go_enter func274,ntmps274
  go_wp21
  refine C.mono ?_;rintro e w' ⟨rfl,rfl⟩;go_wp2;go_ret;simp
theorem De (E:Env) (x:iM):jS E 290 (λf=>#[Bp E,oV f x]) (lh x) uV:=by
 intro f d w ⟨L,e,h⟩ u;subst e;have H:=h.low (j:=1) (by decide) h.rY.2.1;have⟨_,_,_,_,hd,_⟩:=h.rY;have G:=h.Bx;have m:=(λq=>ada (h.drewN q));unfold lh at u|-
 by_cases o:d.rq<=d.act.length
 .rw[fU o];have l:=(λq=>MT (h.drewN q) 6);go_enter func290,ntmps290
  go_wp21
  go_quiet ((go_at_call 269;exact Mv (m _)))
  go_wp21
  refine(l nq).mono ?_;rintro e w' ⟨k,rfl,v,D⟩;have z:=(Fr.drewN w nq).trans D;go_wp2;exact⟨rfl,k,rfl,v,z⟩
 .rw[gn o]at u|-;have a:d.gx x=true:=by
   by_cases a:d.gx x=true
   .exact a
   .grind
  rw[fU a];have l:=(λq=>aeH (h.drewN q) x a (by omega));go_enter func290,ntmps290
  go_wp21
  go_quiet ((go_at_call 269;exact Mv (m _)))
  go_wp21
  refine(l nq).mono ?_;rintro e w' ⟨rfl,C,e1,B,F⟩;have A:=(Fr.drewN w nq).trans F;go_wp2;go_end0;exact⟨rfl,⟨C,e1,B⟩,A,gr _⟩
def M.tail {α:Type} {m:M α} {σ:Ab} {R:qI α} (h:R=m σ):R=(m>>=λa=>(Pure.pure a:M α)) σ:=by rw[M.bind_pure];exact h
def AJ (E:Env):jS E 223 (λ_=>#[Bp E]) (lh none) uV:=by
 refine mI λf d w R a HS H=>?_;go_enter func223,ntmps223;replace a:=fx (M.tail a)
 go_wp21
 refine mC (De E none) H a HS rfl (λ_ _ _ _ h=>And.intro rfl (mS h)) ?_;rintro(_) d w H e a;go_wp2;go_end0;exact jK a H rfl
def Ro (E:Env):jS E 289 (λ_=>#[Bp E]) zi uV:=by
 refine mI λf d w R a HS H=>?_;unfold zi at a;go_enter func289,ntmps289
 go_wp21
 refine mC (Z1 E none) H a HS rfl (λ_ _ _ _ h=>And.intro rfl (mS h)) ?_;rintro(_) d w H e a;go_wp2;go_end0;exact jK a H rfl
def Vj {σ:Ab} {xs : j5} {x : iM}:σ.tN ((xs++[x]).reverse)=if σ.Sm x then xs.length+1 else σ.tN xs.reverse:=by
 simp[Ab.tN]
def ab8 {σ:Ab} (h:RF E f σ w) (x y:iM) (a:rA x y σ≠ .stuck):
  Calls prog 276 #[jp E.bB 189,oV f x,oV f y] w λe w'=>e=oS/\rA x y σ= .ok () {σ with act:=pI σ.act x y}/\RF E f {σ with act:=pI σ.act x y} w'/\Fr E.bs w w':=by
 have:=acI E x y f σ w h a;unfold rA at this a|-
 by_cases d:(σ.gx x&&σ.gx y)=true
 .rw[fU d]at this|-;exact this.mono (λe w' h=>⟨h.1,rfl,h.2.1,h.2.2.1⟩)
 .rw[gn d]at a;exact absurd rfl a
theorem QG (xs:j5) (x y:iM):(pI xs x y).length=xs.length:=by
 grind[pI]
theorem RK {σ σ':Ab} (h:lG j σ= .ok () σ'):σ'.act=σ.act:=by
 unfold lG at h;rw[M.fP]at h;cases a:lD σ with
 |stuck=>grind
 |stop c p=>grind
 |ok pl σ1=>
  have e1:σ1=σ:=by
   unfold lD at a;cases hl:σ.last with
   |none=>grind
   |some i=>
    rw[hl]at a;have a:placeFor i σ= .ok pl σ1:=a;unfold placeFor at a;split at a
    .exact oN a
    .exact pn a
  rw[e1]at a;rw[a]at h;simp only at h;rw[M.fP]at h;cases h2:nj pl j σ with
  |stuck=>grind
  |stop c p=>grind
  |ok u σ2=>
   have e2:σ2.act=σ.act:=by
    unfold nj at h2;split at h2
    .split at h2
     .cases h2;rfl
     grind
    .cases h2
   rw[h2]at h;simp only at h;rw[M.fP]at h;cases h3:xx (some j) σ2 with
   |stuck=>grind
   |stop c p=>grind
   |ok u σ3=>
    rw[h3]at h;have e:σ3.act=σ2.act:=by
     unfold xx at h3;split at h3
     .cases h3
     .grind
    have:σ3=σ':=by
     have d:(qI.ok () σ3:qI Unit)= .ok () σ':=h;cases d;rfl
    grind
theorem rH (E:Env) (hF:li E):iG E 190 (λ_=>#[Bp E]) lA uV:=by
 intro f a w G HS;obtain⟨R,hR⟩:∃R,R=lA a:=⟨_,rfl⟩;rw[<-hR]at HS|-;have H:=At.start G;have Y:R=GP (a.act.length - a.AU) a.AU a:=hR;have z:=fx Y;have C1:=G.ae4;have ah:=G.lt;have ap:a.act.length<=4096:=by have⟨L,_,hr⟩:=G;exact hr.Bx
 have ai:a.AU<=a.act.length:=by
  have:∀F:j5,a.tN F<=F.length:=by
   intro F
   induction F with
   |nil=>simp[Ab.tN]
   |cons x F ih=>
    show(if a.Sm x then F.length+1 else a.tN F)<=F.length+1;split<;>omega
  have:=this a.act.reverse
  rwa [List.length_reverse]at this
 clear hR Y;go_enter func190,ntmps190
 go_wp21
 refine C1.mono ?_;rintro e w ⟨rfl,rfl⟩
 go_wp21
 rename_i K I;have T:∀(u8 u9 a2 a3 a4 a5 a6 a7 a8 a9 aa ab ac ad ae:gh),K {tmps:=#[Bp E,undef,fK a.AU,undef,Bp E,fW E.bB,jp E.bB 189,fK a.act.length,u8,u9,a2,a3,a4,a5,a6,a7,a8,a9,aa,ab,ac,ad,ae,undef,undef,undef,undef,undef,undef,undef,undef,undef,undef,undef,undef,undef,undef,undef,undef,undef,undef,undef,undef,undef,undef,undef,undef,undef,undef],defers:=[]} w:=by
  intro u8 u9 a2 a3 a4 a5 a6 a7 a8 a9 aa ab ac ad ae;refine I _ _ ?_;have ao:=ai;clear I C1
  go_wp21
  go_loopw [2,3] (λv v3 wr=>∃(k n:Nat) (g:Nat->Nat) (l:Ab),v=fK n/\n+k=a.act.length/\At E f a.nodes.length w g l wr/\R=GP k n l/\l.act.length=a.act.length) (λv _ _=>a.act.length - (intOf v).toNat)
  case atStart=>exact⟨a.act.length - a.AU,a.AU,f,a,rfl,by omega,H,z,rfl⟩
  case round=>
   obtain⟨k,n,g,l,rfl,aq,H,X,U⟩:=hrel;have z:=fx X;have C:=H.rel.ae4;rw[U]at C;have ah:=H.lt;clear X;cases k with
   |zero=>
    have e0:(n:Int)=(a.act.length:Int):=by omega
    have J:((n:Int) < (a.act.length:Int))=False:=by simp;omega
    go_wp21
    refine C.mono ?_;rintro e w' ⟨rfl,rfl⟩;go_wp2;go_end0;exact fL z H rfl
   |succ k=>
    have J:(n:Int) < (a.act.length:Int):=by omega
    have o:∃d,gU l.act (n:Int)=some d:=by
     cases hg:gU l.act (n:Int)with
     |some i=>simp
     |none=>
      exfalso;apply HS;rw[z.out];unfold GP;rw[M.fP];unfold F0;rw[hg]
    have⟨d,o⟩:=o;have u:=H.rel.adg (n:Int);have m:=H.rel.dO (n:Int);rw[o]at m u;have ag:=fx (Ab.lF u);replace z:Hid (R=(kH d>>=λj=>(do
      lG j
      qW d
      GP k (n+1):M Unit)) l):=by
     refine fx (z.trans ?_);show(F0 n>>=_) l=_;rw[M.fP];unfold F0;rw[o]
    clear o u
    go_wp21
    refine C.mono ?_;rintro e wr ⟨rfl,rfl⟩
    go_wp21
    refine m.mono ?_;rintro e wr ⟨rfl,rfl⟩;rw[show oV g (some d)=fW (g d)from rfl];clear m C
    go_wp21
    refine iG.QU (LB E d) H z HS rfl ?_ ?_
    .intro c p j ws H1 H2 H3;go_wp2;exact⟨rfl,pd H1 H2 H3⟩
    rintro j g2 al w2 N h0 h2 V B;have HX:=fx h0;have HJ:Hid (al.act=l.act):=by
     unfold kH at B;split at B
     .split at B
      .cases B
      .cases B;rfl
     .cases B
    clear B;replace H:=N;replace z:=fx V;clear N h0 h2 V
    go_wp21
    refine jS.QU (Ez E hF j) H z HS rfl ?_ ?_
    .intro c p j ws H1 H2 H3;go_wp2;exact⟨rfl,pd H1 H2 H3⟩
    rintro⟨⟩ A w3 N h2 V B;have af:Hid (A.act=l.act):=fx ((RK B).trans HJ);clear B;replace H:=N;replace z:=fx V;have am:=N.lt;clear N h2 V;have a0:rA (some d) A.last A≠ .stuck:=by
     intro ak;apply HS;rw[z.out,M.fP];unfold qW;rw[ak]
    have CL:=(H.k0 ((Kept.refl _ w3).drew)).rel.RH;have O:=ab8 (H.k0 ((Kept.refl _ w3).drew)).rel (some d) A.last a0;rw[show oV g2 (some d)=fW (g d)from by show fW (g2 d)=_;rw[HX.out d ag.out]]at O;clear a0
    go_wp21
    go_region_with (first
     |(go_at_call 179;refine CL.mono ?_;rintro e w4 ⟨rfl,rfl⟩)
     |(go_at_call 276;refine O.mono ?_;rintro e w5 ⟨rfl,q1,q2,q3⟩;have HZ:=fx ((H.k0 ((Kept.refl _ w3).drew)).to q2 (si _ _ rfl) q3);have HQ:=fx q1;clear q1 q2 q3))
    all_goals (try (go_wp21))
    all_goals refine⟨⟨k,n+1,g2,_,by simp,by omega,HZ,?_,?_⟩,by simp[intOf];omega⟩
    .rw[z.out,M.fP];unfold qW;rw[HQ.out]
    .show(pI A.act (some d) A.last).length=a.act.length;rw[QG,af.out];exact U
 clear I H z C1
 go_loopw [2] (λv wr=>∃k:Nat,k<=a.act.length/\v=fK k/\a.tN (a.act.take k).reverse=a.AU/\wr=w) (λv _=>(intOf v).toNat)
 case atStart=>grind[Ab.AU]
 case round=>
  obtain⟨k,hk,rfl,h,rfl⟩:=hrel;cases k with
  |zero=>
   have hz:a.AU=0:=by rw[<-h];rfl
   have HZ:=fx hz;clear hz h;go_wp2;have:=T;rw[HZ.out]at this
   simp_all
  |succ k=>
   have Z:k < a.act.length:=by omega
   have e1:a.act.take (k+1)=a.act.take k++[a.act[k]]:=by rw[IW,pY Z];rfl
   rw[e1,Vj]at h;have hg:gU a.act ((k:Int))=a.act[k]:=by
    unfold gU;rw[fU (by omega)];simp[List.getD,Z]
   have m:=G.dO (k:Int);have u:=G.adg (k:Int);rw[hg]at m u;have D:=abV G _ u;have e2:((k+1:Nat):Int) - 1=(k:Int):=by omega
   have an:(0:Int) < ((k+1:Nat):Int):=by omega
   have a1:(a.act.take k).length=k:=by simp;omega
   rw[a1]at h;clear e1 hg u a1;generalize hM:a.Sm a.act[k]=b at D h;clear hM;generalize oV f a.act[k]=vv at m D;cases b with
   |true=>
    go_wp21
    refine m.mono ?_;rintro e w ⟨rfl,rfl⟩
    go_wp21
    refine D.mono ?_;rintro e w ⟨rfl,rfl⟩
    go_wp21
    have:=T;have aj:k+1=a.AU:=by simpa using h
    rw[<-aj]at this;exact this _ _ _ _ _ _ _ _ _ _ _ _ _ _ _
   |false=>
    go_wp21
    refine m.mono ?_;rintro e w ⟨rfl,rfl⟩
    go_wp21
    refine D.mono ?_;rintro e w ⟨rfl,rfl⟩
    go_wp21
    exact⟨⟨k,by omega,rfl,by simpa using h,trivial⟩,by simp[intOf]⟩
theorem ub (p q:fN->Bool) (σ:Ab):nh p q σ= .ok (σ.inScope p q) (σ.close p q):=by
 grind[nh,Ab.inScope,Ab.close]
def Er {σ:Ab} (h:RF E f σ w) {k l : Nat} {a d : jB} {p q : fN->Bool} (m:Ask E.bm (.func (.func k) #[] a) p w) (o:Ask E.bm (.func (.func l) #[] d) q w):
  Calls prog 228 #[Bp E,.func (.func k) #[] a,.func (.func l) #[] d] w λe w'=>e=gO (.bool (σ.inScope p q))/\RF E f (σ.close p q) w'/\Fr E.bs w w':=by
 have:=zo h m o;rw[ub]at this;exact this.mono (λe w' h=>⟨h.1,h.2.1,h.2.2.1⟩)
theorem yr (σ:Ab) (p q:fN->Bool):σ.nodes.length<=(σ.close p q).nodes.length:=by
 unfold Ab.close;grind[Ab.FB]
def D7 (E:Env) (t:fZ) {σ:Ab} (h:RF E f σ w):∃a b d n l,∀w,Calls prog 177 #[hH E t] w λe w'=>e=gO (.agg #[fK a,fK b,fR t.name,.slice d n l])/\Kept [] w w':=by
 have⟨d,n,l,htv⟩:=h.tv;have C:=λw=>ym E t w ⟨d,n,l,htv⟩;have⟨a,b,k,fX⟩:=t;cases k<;>simp only[yK,fZ.name,htv]at C|-
 case start s=>exact⟨_,_,_,_,_,C⟩
 case stop s=>exact⟨_,_,_,_,_,C⟩
 all_goals exact⟨_,_,_,_,_,C⟩
def NF (E:Env) (t:fZ):iG E 212 (λ_=>#[Bp E,hH E t]) (ut) uV:=by
 refine dI λf D w R l HS H=>?_;unfold ut at l;go_enter func212,ntmps212;have⟨kb,lbb,cb,HQ⟩:=H.rel.bounds;have u:=H.lt;have o:=cb;have z:=(Kept.refl [] w).drew;replace l:Hid (R= .ok () (D.close (gI [lQ,lW]) (io))):=by
  have:=l;rw[M.fP,ub]at this;exact fx this
 go_wp21
 go_region_with (first
   |(go_at_call 279;refine(FM E _).mono ?_;rintro e C ⟨G,B,rfl,h,k⟩;have d:=z.trans k;have F:C.cell? ⟨E.bB,186,none⟩=some (.func (.func kb) #[] lbb):=(d.cell (p:=⟨E.bB,186,none⟩) u (by simp)).trans o;have m:=fx h;have a:=fx d;clear h k d)
   |(go_at_call 228;refine(Er (p:=gI [lQ,lW]) (q:=io) (H.k0 a).rel m (HQ.k0 a)).mono ?_;rintro e I ⟨rfl,v,x⟩;have A:=fx ((H.k0 a).to v (yr _ _ _) x);clear v x))
 all_goals (try (go_wp21))
 all_goals go_wp2
 all_goals go_end0
 all_goals exact fL l A rfl
def Jo (E:Env) (s:fN):iG E 219 (λ_=>#[Bp E,fR s]) (uU s) uV:=by
 refine dI λf D w R l HS H=>?_;unfold uU at l;go_enter func219,ntmps219;have⟨kb,lbb,cb,HQ⟩:=H.rel.Hi;have u:=H.lt;have o:=cb;have z:=(Kept.refl [] w).drew;replace l:Hid (R= .ok () (D.close (gI [s]) (kU))):=by
  have:=l;rw[M.fP,ub]at this;exact fx this
 go_wp21
 go_region_with (first
   |(go_at_call 225;refine(nf E [s] w.drew (by simp)).mono ?_;rintro e C ⟨G,B,rfl,h,k⟩;have d:=z.trans k;have F:C.cell? ⟨E.bB,184,none⟩=some (.func (.func kb) #[] lbb):=(d.cell (p:=⟨E.bB,184,none⟩) u (by simp)).trans o;have m:=fx h;have a:=fx d;clear h k d)
   |(go_at_call 228;refine(Er (p:=gI [s]) (q:=kU) (H.k0 a).rel m (HQ.k0 a)).mono ?_;rintro e I ⟨rfl,v,x⟩;have A:=fx ((H.k0 a).to v (yr _ _ _) x);clear v x))
 all_goals (try (go_wp21))
 all_goals go_wp2
 all_goals go_end0
 all_goals exact fL l A rfl
def Xb (E:Env) (t:fZ):iG E 209 (λ_=>#[Bp E,hH E t]) (zy) uV:=by
 refine dI λf k w R d HS H=>?_;unfold zy at d;go_enter func209,ntmps209;have⟨kb,lbb,cb,HQ⟩:=H.rel.bounds;have z:=H.lt;have v:=cb;have A:=(Kept.refl [] w).drew
 go_wp21
 go_cut [11]from 4 to 10 (λr wc=>r= .bool (k.inScope (gI [fM]) (io))/\At E f k.nodes.length w f (k) wc)
 case first=>
  go_region_with (first
   |(go_at_call 225;refine(nf E [fM] w.drew (by simp)).mono ?_;rintro e F ⟨K,D,rfl,l,m⟩;have h:=A.trans m;have G:F.cell? ⟨E.bB,186,none⟩=some (.func (.func kb) #[] lbb):=(h.cell (p:=⟨E.bB,186,none⟩) z (by simp)).trans v;have u:=fx l;have a:=fx h;clear l m h)
   |(go_at_call 238;refine(vY (H.k0 a).rel (gI [fM]) (io) _ _ u (HQ.k0 a)).mono ?_;rintro e N ⟨rfl,o⟩;have B:=fx ((H.k0 a).k0 o);clear o))
  all_goals (try (go_wp21))
  all_goals (go_meet;exact⟨rfl,B⟩)
 case rest=>
  obtain⟨rfl,x⟩:=hcut;replace H:=x;cases hc:k.inScope (gI [fM]) io with
  |true=>
   replace d:Hid (R= .ok () {k with mode:=16}):=by
    have:=d;rw[fU hc]at this;exact fx this
   have I:=H.rK;have J:=H.free 192;have C:=H.lt;replace H:=H.iI 16;go_wp2;go_end0;exact fL d H rfl
  |false=>
   replace d:Hid (R= .ok () k):=by
    have:=d;rw[gn (by simp[hc])]at this;exact fx this
   go_wp2;go_end0;exact fL d H rfl
def V1 (E:Env) (d:Nat->fZ->M Unit) (G:∀(m:Nat) (t:fZ),iL E t->iG E 171 (λ_=>#[Bp E,fK m,hH E t]) (d m t) uV) (t:fZ) (J:iL E t):iG E 210 (λ_=>#[Bp E,hH E t]) (zu d t) uV:=by
 refine dI λf o w R a HS H=>?_;unfold zu at a;go_enter func210,ntmps210;have⟨kb,lbb,cb,HQ⟩:=H.rel.bounds;have C:=H.lt;have A:=cb;have D:=(Kept.refl [] w).drew
 go_wp21
 go_cut [11]from 4 to 10 (λr wc=>r= .bool (o.inScope (gI [fM]) (io))/\At E f o.nodes.length w f (o) wc)
 case first=>
  go_region_with (first
   |(go_at_call 225;refine(nf E [fM] w.drew (by simp)).mono ?_;rintro e N ⟨Y,K,rfl,u,v⟩;have l:=D.trans v;have U:N.cell? ⟨E.bB,186,none⟩=some (.func (.func kb) #[] lbb):=(l.cell (p:=⟨E.bB,186,none⟩) C (by simp)).trans A;have z:=fx u;have k:=fx l;clear u v l)
   |(go_at_call 238;refine(vY (H.k0 k).rel (gI [fM]) (io) _ _ z (HQ.k0 k)).mono ?_;rintro e Z ⟨rfl,x⟩;have F:=fx ((H.k0 k).k0 x);clear x))
  all_goals (try (go_wp21))
  all_goals (go_meet;exact⟨rfl,F⟩)
 case rest=>
  obtain⟨rfl,B⟩:=hcut;replace H:=B;cases hc:o.inScope (gI [fM]) io with
  |true=>
   replace a:Hid (R=(kq d t>>=λ_=>(Pure.pure ():M Unit)) {o with mode:=16}):=by
    have:=a;rw[fU hc]at this;exact fx this
   have V:=H.rK;have X:=H.free 192;have I:=H.lt;replace H:=H.iI 16
   go_wp21
   refine dC (tA E d G t J) H a HS rfl (λ_ _ _ _ h=>And.intro rfl (lS h)) ?_;rintro(_) f o w H T O a;go_wp2;go_end0;exact fL a H rfl
  |false=>
   replace a:Hid (R= .ok () o):=by
    have:=a;rw[gn (by simp[hc])]at this;exact fx this
   go_wp2;go_end0;exact fL a H rfl
def qN (E:Env) (d:li E) (t:fZ) (m:iL E t):iG E 122 (λ_=>#[Bp E,hH E t]) (ln t) uV:=by
 refine dI λf e w R a HS H=>?_;unfold ln at a;go_enter func122,ntmps122
 go_wp21
 refine dC (rH E d) H a HS rfl (λ_ _ _ _ h=>And.intro rfl (lS h)) ?_;rintro(_) f e w H l k a
 go_wp21
 refine dC (kP E d t m) H a HS rfl (λ_ _ _ _ h=>And.intro rfl (lS h)) ?_;rintro(_) f e w H l k a;go_wp2;go_end0;exact fL a H rfl
def PK (E:Env) (d:li E) (t:fZ) (m:iL E t):iG E 204 (λ_=>#[Bp E,hH E t]) (sL t) uV:=by
 refine dI λf e w R a HS H=>?_;unfold sL at a;go_enter func204,ntmps204
 go_wp21
 refine dC (rH E d) H a HS rfl (λ_ _ _ _ h=>And.intro rfl (lS h)) ?_;rintro(_) f e w H l k a
 go_wp21
 refine dC (vJ E d t m) H a HS rfl (λ_ _ _ _ h=>And.intro rfl (lS h)) ?_;rintro(_) f e w H l k a;go_wp2;go_end0;exact fL a H rfl
def OE (E:Env) (l:li E) (t:fZ):iG E 120 (λ_=>#[Bp E,hH E t]) (nG t) uV:=by
 refine dI λf d w R a HS H=>?_;unfold nG at a;go_enter func120,ntmps120;have C:=Ic E t w;cases hn:sT t.chars with
 |true=>
  rw[hn]at C a;replace a:Hid (R= .ok () d):=a
  go_wp21
  refine C.mono ?_;rintro e w ⟨rfl,k⟩;replace H:=H.k0 k;go_wp2;go_end0;exact fL a H rfl
 |false=>
  rw[hn]at C a;replace a:Hid (R=(lA>>=λ_=>(do jQ t;return ():M Unit)) d):=a
  go_wp21
  refine C.mono ?_;rintro e w ⟨rfl,k⟩;replace H:=H.k0 k
  go_wp21
  refine dC (rH E l) H a HS rfl (λ_ _ _ _ h=>And.intro rfl (lS h)) ?_;rintro(_) f d w H o m a
  go_wp21
  refine dC (vF E l t) H a HS rfl (λ_ _ _ _ h=>And.intro rfl (lS h)) ?_;rintro(_) f d w H o m a;go_wp2;go_end0;exact fL a H rfl
def Iv (E:Env) (l:li E) (t:fZ):iG E 146 (λ_=>#[Bp E,hH E t]) (pk t) uV:=by
 refine dI λf k w R a HS H=>?_;unfold pk at a;go_enter func146,ntmps146;have C:=Ic E t w;cases hn:sT t.chars with
 |true=>
  rw[hn]at C a;replace a:Hid (R= .ok () k):=a
  go_wp21
  refine C.mono ?_;rintro e w ⟨rfl,d⟩;replace H:=H.k0 d;go_wp2;go_end0;exact fL a H rfl
 |false=>
  rw[hn]at C a;replace a:Hid (R=(jQ t>>=λ_=>(pure ():M Unit)) k):=a
  go_wp21
  refine C.mono ?_;rintro e w ⟨rfl,d⟩;replace H:=H.k0 d
  go_wp21
  refine dC (vF E l t) H a HS rfl (λ_ _ _ _ h=>And.intro rfl (lS h)) ?_;rintro(_) f k w H o m a;go_wp2;go_end0;exact fL a H rfl
def Is (E:Env) (o:li E) (t:fZ) (v:iL E t):iG E 195 (λ_=>#[Bp E,hH E t]) (ob t) uV:=by
 refine dI λf l w R a HS H=>?_;unfold ob at a;go_enter func195,ntmps195
 go_wp21
 refine AQ (λu=>yC H.rel u) H a HS (λ_ _ _ _ h=>And.intro rfl (lS h)) ?_;rintro(_) l w H m a
 go_wp21
 refine(FM E _).mono ?_;rintro e w ⟨A,x,rfl,d,k⟩;replace H:=H.k0 k
 go_wp21
 refine AQ (λ_=>vO H.rel d) H a HS (λ_ _ _ _ h=>And.intro rfl (lS h)) ?_;rintro(_) l w H m a
 go_wp21
 refine dC (kP E o t v) H a HS rfl (λ_ _ _ _ h=>And.intro rfl (lS h)) ?_;rintro(_) f l w H z m a;go_wp2;go_end0;exact fL a H rfl
def Wg (E:Env) (k:li E) (t:fZ) (m:iL E t):iG E 196 (λ_=>#[Bp E,hH E t]) (xq t) uV:=by
 refine dI λf d w R a HS H=>?_;unfold xq at a;go_enter func196,ntmps196
 go_wp21
 refine AQ (λl=>yC H.rel l) H a HS (λ_ _ _ _ h=>And.intro rfl (lS h)) ?_;rintro(_) d w H e a
 go_wp21
 refine dC (vJ E k t m) H a HS rfl (λ_ _ _ _ h=>And.intro rfl (lS h)) ?_;rintro(_) f d w H o e a;go_wp2;go_end0;exact fL a H rfl
def Lr (E:Env) (o:li E) (t:fZ) (u:iL E t):iG E 202 (λ_=>#[Bp E,hH E t]) (pa t) uV:=by
 refine dI λf l w R a HS H=>?_;unfold pa at a;go_enter func202,ntmps202
 go_wp21
 refine(nf E [fY] _ (by decide)).mono ?_;rintro e w ⟨z,v,rfl,d,k⟩;replace H:=H.k0 k
 go_wp21
 refine AQ (λ_=>vO H.rel d) H a HS (λ_ _ _ _ h=>And.intro rfl (lS h)) ?_;rintro(_) l w H m a
 go_wp21
 refine dC (qN E o t u) H a HS rfl (λ_ _ _ _ h=>And.intro rfl (lS h)) ?_;rintro(_) f l w H x m a;go_wp2;go_end0;exact fL a H rfl
def Af (E:Env) (o:li E) (t:fZ) (u:iL E t):iG E 147 (λ_=>#[Bp E,hH E t]) (jO t) uV:=by
 refine dI λf l w R a HS H=>?_;unfold jO at a;go_enter func147,ntmps147
 go_wp21
 refine(ud E _).mono ?_;rintro e w ⟨z,v,rfl,d,k⟩;replace H:=H.k0 k
 go_wp21
 refine AQ (λ_=>vO H.rel d) H a HS (λ_ _ _ _ h=>And.intro rfl (lS h)) ?_;rintro(_) l w H m a
 go_wp21
 refine dC (kP E o t u) H a HS rfl (λ_ _ _ _ h=>And.intro rfl (lS h)) ?_;rintro(_) f l w H x m a;go_wp2;go_end0;exact fL a H rfl
def sQ (E:Env) (v:li E) (t:fZ) (x:iL E t):iG E 148 (λ_=>#[Bp E,hH E t]) (je t) uV:=by
 refine dI λf o w R a HS H=>?_;unfold je at a;go_enter func148,ntmps148
 go_wp21
 refine(ud E _).mono ?_;rintro e w ⟨C,z,rfl,d,l⟩;replace H:=H.k0 l
 go_wp21
 refine AQ (λ_=>vO H.rel d) H a HS (λ_ _ _ _ h=>And.intro rfl (lS h)) ?_;rintro(_) o w H u a
 go_wp21
 refine(rh E _).mono ?_;rintro e w ⟨D,A,rfl,k,m⟩;replace H:=H.k0 m
 go_wp21
 refine AQ (λ_=>vO H.rel k) H a HS (λ_ _ _ _ h=>And.intro rfl (lS h)) ?_;rintro(_) o w H u a
 go_wp21
 refine dC (kP E v t x) H a HS rfl (λ_ _ _ _ h=>And.intro rfl (lS h)) ?_;rintro(_) f o w H B u a;go_wp2;go_end0;exact fL a H rfl
def DY (E:Env) (k:li E) (t:fZ) (l:iL E t):iG E 149 (λ_=>#[Bp E,hH E t]) (lB t) uV:=by
 refine dI λf d w R a HS H=>?_;unfold lB at a;go_enter func149,ntmps149
 go_wp21
 refine dC (sQ E k t l) H a HS rfl (λ_ _ _ _ h=>And.intro rfl (lS h)) ?_;rintro(_) f d w H m e a
 go_wp21
 refine mC (Df E) H a HS rfl (λ_ _ _ _ h=>And.intro rfl (lS h)) ?_;rintro(_) d w H e a;go_wp2;go_end0;exact fL a H rfl
def BI (E:Env) (t:fZ):iG E 152 (λ_=>#[Bp E,hH E t]) (mG) uV:=by
 refine dI λf m w R a HS H=>?_;unfold mG at a;go_enter func152,ntmps152
 go_wp21
 refine(ud E _).mono ?_;rintro e w ⟨u,l,rfl,d,k⟩;replace H:=H.k0 k
 go_wp21
 refine AQ (λ_=>vO H.rel d) H a HS (λ_ _ _ _ h=>And.intro rfl (lS h)) ?_;rintro(_) m w H o a;go_wp2;go_end0;exact fL a H rfl
def KI (E:Env) (k:li E) (t:fZ) (l:iL E t):iG E 208 (λ_=>#[Bp E,hH E t]) (o0 t) uV:=by
 refine dI λf d w R a HS H=>?_;unfold o0 at a;go_enter func208,ntmps208
 go_wp21
 refine dC (qN E k t l) H a HS rfl (λ_ _ _ _ h=>And.intro rfl (lS h)) ?_;rintro(_) f d w H m e a
 go_wp21
 refine mC (AJ E) H a HS rfl (λ_ _ _ _ h=>And.intro rfl (lS h)) ?_;rintro(_) d w H e a;go_wp2;go_end0;exact fL a H rfl
def Jr (E:Env) (o:li E) (t:fZ) (u:iL E t):iG E 126 (λ_=>#[Bp E,hH E t]) (pz t) uV:=by
 refine dI λf l w R a HS H=>?_;unfold pz at a;go_enter func126,ntmps126
 go_wp21
 refine(Lx E _).mono ?_;rintro e w ⟨C,v,rfl,d,k⟩;replace H:=H.k0 k
 go_wp21
 refine AQ (λ_=>Ff H.rel d) H a HS (λ_ _ _ _ h=>And.intro rfl (lS h)) ?_;rintro(_) l w H m a
 go_wp21
 refine mC (AJ E) H a HS rfl (λ_ _ _ _ h=>And.intro rfl (lS h)) ?_;rintro(_) l w H m a
 go_wp21
 refine dC (kP E o t u) H a HS rfl (λ_ _ _ _ h=>And.intro rfl (lS h)) ?_;rintro(_) f l w H x m a;have z:=H.rK;have A:=H.free 192;have B:=H.lt;replace H:=H.iI 9;go_wp2;go_end0;exact fL a H rfl
def VM (E:Env) (t:fZ):iG E 213 (λ_=>#[Bp E,hH E t]) (Bm) uV:=by
 refine dI λf v w R k HS H=>?_;unfold Bm at k;go_enter func213,ntmps213
 go_wp21
 refine(nf E [kC] _ (by decide)).mono ?_;rintro e w ⟨z,o,rfl,a,m⟩;replace H:=H.k0 m
 go_wp21
 refine(Lc H.rel).mono ?_;rintro e w ⟨A,u,rfl,l,d⟩;replace H:=H.k0 d;replace a:=a.k0 d
 go_wp21
 refine AQ (λ_=>zo H.rel a l) H k HS (λ_ _ _ _ h=>And.intro rfl (lS h)) ?_;rintro(_) v w H x k;go_wp2;go_end0;exact fL k H rfl
def Sy (E:Env) (k:li E) (t:fZ):iG E 215 (λ_=>#[Bp E,hH E t]) (uY) uV:=by
 refine dI λf d w R a HS H=>?_;unfold uY at a;go_enter func215,ntmps215
 go_wp21
 refine dC (rH E k) H a HS rfl (λ_ _ _ _ h=>And.intro rfl (lS h)) ?_;rintro(_) f d w H l e a
 go_wp21
 refine dC (uy E k jk) H a HS rfl (λ_ _ _ _ h=>And.intro rfl (lS h)) ?_;rintro(_) f d w H l e a
 go_wp21
 refine mC (Df E) H a HS rfl (λ_ _ _ _ h=>And.intro rfl (lS h)) ?_;rintro(_) d w H e a;go_wp2;go_end0;exact fL a H rfl
section
attribute [local go_sem] Oper.semAt_some
def p6 (f:FuncId):Fence.wide.fn f=True:=rfl
attribute [local go_sem] p6
attribute [local simp] p6
def Em {σ:Ab}:∀{a:j5},(∀y∈a,y≠some it/\io (σ.qS y)=false)->σ.oh it a=false
 |[],_=>rfl
 |x::a,h=>by
  unfold Ab.oh;have⟨h1,h2⟩:=h x (by simp);rw[gn h1,h2];exact Em λy d=>h y (by simp[d])
theorem Et {σ:Ab} {r : Bool} (d:(y=some it/\r=true)\/(y≠some it/\io (σ.qS y)=true/\r=false)):∀{a:j5},(∀y∈a,y≠some it/\io (σ.qS y)=false)->σ.oh it (a++[y]++rest)=r
 |[],_=>by
  grind[Ab.oh]
 |x::a,h=>by
  show σ.oh it (x::(a++[y]++rest))=r;unfold Ab.oh;have⟨h1,h2⟩:=h x (by simp);rw[gn h1,h2];exact Et d λy e=>h y (by simp[e])
theorem Gx {σ:Ab} (h:RF E f σ w) (it:Nat) (a5:σ.gx (some it)=true):
  Calls prog 287 #[Bp E,nV f it] w λe w'=>e=gO (.bool (σ.oW it))/\Kept [] w w':=by
 obtain⟨L,rfl,k⟩:=h;have⟨fb,ab,lb0,cb,hb⟩:=k.bounds;have⟨kb,lbb,eb,heb,H2⟩:=hb.call;cases eb;refine(wV (n:=3)).1 ?_;refine wL func287 rfl trivial ?_ rfl;simp only[ntmps287,xC,sV,vZ,Nat.reduceAdd,Nat.reduceSub,xn,xj,xm,xI,rM,vz];obtain⟨G,u⟩:∃G,G=((w.alloc (fV #[Bp E] 121)).alloc (fV #[fW (L.gp it)] 72)).alloc (fV #[.bool false] 4):=⟨_,rfl⟩;have a1:Kept [] w G:=by rw[u];exact(((Kept.refl _ _).alloc _).alloc _).alloc _
 have⟨b0,b1,b2⟩:=nX w (fV #[Bp E] 121) (fV #[fW (L.gp it)] 72) (fV #[.bool false] 4);rw[<-u]at b0 b1 b2;have a:G.heap.size=w.heap.size+1+1+1:=by rw[u];simp
 have a8:=k.gJ a1;have⟨C,HL,hC⟩:=a8.zc;have a6:=k.lt;have HU:=Wy E.bs E.bB 188 _ C _ _ G HL;have a3:=(λ(W:fO) (o:Kept [] w W)=>(o.cell (p:=⟨E.bB,186,none⟩) a6 (by simp)).trans cb);have HO:=(λg (z:L.ov.ownBlock=some g)=>zr k.nM z);have HN:=(λ(W:fO) (o:Kept [] w W) (i:Nat) (e:Al) (hi:σ.gF i=some e)=>(k.gJ o).vh hi);have HS:=(λ(y:iM) (v:y∈σ.fQ)=>k.n4 v);have HI:=k.inj;have HE:=(λ(W:fO) (o:Kept [] w W) (x:iM) (hx:σ.gx x=true)=>(k.gJ o).gx hx);have Z:=fx a;have HW:=fx u;clear a u
 gi_wp2_with fail
 rw[<-HW.out];refine(callsIn_wide.2 HU).mono ?_;rintro e w' ⟨rfl,rfl⟩;gi_wp2;refine Ui (by omega) (f:=gX L.gp) (λx y e=>rG HI e) HL rfl [w.heap.size+1+1] ?_
  (λpre W=>Kept [] w W/\W.heap[w.heap.size]?=some (fV #[Bp E] 121)/\W.heap[w.heap.size+1]?=some (fV #[fW (L.gp it)] 72)/\W.heap[w.heap.size+1+1]?=some (fV #[.bool false] 4)/\∀y∈pre,y≠some it/\io (σ.qS y)=false)
  (λc pre W=>c= .ret/\Kept [] w W/\∃d y r,pre=d++[y]/\(∀y∈d,y≠some it/\io (σ.qS y)=false)/\((y=some it/\r=true)\/(y≠some it/\io (σ.qS y)=true/\r=false))/\W.heap[w.heap.size+1+1]?=some (fV #[.bool r] 4))
  ?_ ?_ ?_ (λx=>{tmps:=#[Bp E,fW (L.gp it),fW w.heap.size,fW (w.heap.size+1),fW (w.heap.size+1+1),kK x,Bp E,fW E.bB,jp E.bB 188,uL G.heap.size,kK x,undef,undef,undef,undef,undef,undef,undef,undef,undef,undef,undef,undef,undef,undef],defers:=[]}) ?assign ?body ?done ?stop
 .grind
 .rintro s A B aa ⟨h1,h2,U,F,I⟩ z k;have a:=Z.out;exact⟨lX h1 z k (by omega),km h2 z k (by omega),km U z k (by omega),km F z k (by omega),I⟩
 .rintro c s A B aa ⟨h0,h1,d,y,r,h2,U,F,I⟩ z k;have a:=Z.out;exact⟨h0,lX h1 z k (by omega),d,y,r,h2,U,F,km I z k (by omega)⟩
 .have o:Kept [] G (mc E.bB 188 (σ.fQ.length) G):=((Kept.refl _ _).alloc _).alloc _;exact⟨a1.trans o,o.at b0 (by simp),o.at b1 (by simp),o.at b2 (by simp),by simp⟩
 case assign=>
  intro l x W K V;gi_wp2;exact V
 case body=>
  rintro l pre y W v ⟨m,B2,B3,X,B5⟩;obtain⟨i,e0,rfl,hi⟩:=HS y v;have c0:=HN W m i e0 hi;have cB:=a3 W m;have c1:=fw B2 0;have c2:=fw B3 0;have H:=fw X 0;have f3:=fA X 0;dsimp at c1 c2 H;have HB:=(λW' (o:Kept [] w W')=>H2 W' (.gv o) (σ.nm i));have HT:Hid (∀(q:Nat) (r:Bool),Kept [w.heap.size+1+1] W ((W.drewN q).setCell ⟨w.heap.size+1+1,0,none⟩ (.bool r))/\Kept [] w ((W.drewN q).setCell ⟨w.heap.size+1+1,0,none⟩ (.bool r))/\((W.drewN q).setCell ⟨w.heap.size+1+1,0,none⟩ (.bool r)).heap[w.heap.size+1+1]?=some (fV #[.bool r] 4)):=λq r=>⟨((Kept.refl _ W).drewN q).setCell (.inl (by simp)) _,(m.drewN q).setCell (.inr (by simp;omega)) _,fI (show(W.drewN q).heap[w.heap.size+1+1]?=_ from X) 0 _⟩;have a4:Hid (∀(r:Bool),Kept [w.heap.size+1+1] W (W.setCell ⟨w.heap.size+1+1,0,none⟩ (.bool r))/\Kept [] w (W.setCell ⟨w.heap.size+1+1,0,none⟩ (.bool r))/\(W.setCell ⟨w.heap.size+1+1,0,none⟩ (.bool r)).heap[w.heap.size+1+1]?=some (fV #[.bool r] 4)):=λr=>⟨(Kept.refl _ W).setCell (.inl (by simp)) _,m.setCell (.inr (by simp;omega)) _,fI X 0 _⟩;have N:=C7 (HE W m (some i) (by show(σ.gF i).isSome=true;rw[hi];rfl)) (HE W m (some it) a5);rw[show ptr (gX L.gp (some i))=some ⟨L.gp i,0,none⟩from rfl,show ptr (gX L.gp (some it))=some ⟨L.gp it,0,none⟩from rfl]at N
  try dsimp only
  rw[show kK (gX L.gp (some i))=fW (L.gp i)from rfl]
  by_cases O:i=it
  .subst O;rw[uJ rfl]at N;gi_wp2;have⟨t1,t2,t3⟩:=a4.out true;exact⟨t1,rfl,t2,pre,some i,true,rfl,B5,.inl ⟨rfl,rfl⟩,t3⟩
  .have a7:L.gp i≠L.gp it:=λe=>O (HI _ _ e);have Y:(some i:iM)≠some it:=λe=>O (jr e);rw[vD (by simpa using a7)]at N;gi_wp2;refine Aw l (by kernel_rfl) (by kernel_rfl) (by rfl) ?_
   repeat (gi_big_quiet_step ((exact callsIn_wide.2 (Mv (HB _ (m.drewN _))))))
   refine wpQuietIn_nil ?_;intro _ a9;have⟨nq,hw''⟩:=a9;subst hw'';cases hq:io (σ.nm i)with
   |true=>
    gi_wp2;have⟨t1,t2,t3⟩:=HT.out nq false;exact⟨t1,rfl,t2,pre,some i,false,rfl,B5,.inr ⟨Y,hq,rfl⟩,t3⟩
   |false=>
    have HQ:=hq;gi_wp2;refine⟨(Kept.refl _ W).drewN nq,m.drewN nq,B2,B3,X,λy v=>?_⟩;rcases List.mem_append.1 v with v|v
    .exact B5 y v
    .rw[List.mem_singleton.1 v];exact⟨Y,HQ⟩
 case done=>
  rintro D W HD ⟨m,h2,U,F,I⟩ V;have a:=Z.out;have H:=fw F 0;have f3:=fA F 0;dsimp at H;have T:σ.oW it=false:=Em (λy v=>I y v);clear a;gi_wp2;have a0:=(Oy W ⟨w.heap.size+1+1,0,none⟩ (.bool false)).same D _ V rfl;refine⟨by simp,.inl ⟨_,_,rfl,ou a0,?_⟩⟩;have J:=cell_kept (World.cell?_setCell_same' W ⟨w.heap.size+1+1,0,none⟩ (.bool false) (by rw[H];rfl)) (wM _ D (.deferred none)) (λr e=>by cases e;exact⟨_,a0,rfl⟩);refine⟨.bool false,?_,⟨by rw[T],?_⟩⟩
  .simp[results,results287,go_sem,J]
  .have a:=Z.out;have hD:=HD;exact(m.setCell (.inr (by simp;omega)) _).take (by omega) _
 case stop=>
  rintro D c pre W HD a2 ⟨rfl,m,d,y,r,rfl,U,F,I⟩ V;have⟨rest,hrest⟩:=a2;have T:σ.oW it=r:=by unfold Ab.oW;rw[<-hrest];exact Et F U
  have H:=fw I 0;dsimp at H;gi_wp2;refine⟨by simp,.inl ⟨_,_,rfl,ou V,?_⟩⟩;have J:=cell_kept H (wM _ D (.deferred none)) (λr e=>by cases e;exact⟨_,V,rfl⟩);refine⟨.bool r,?_,⟨by rw[T],?_⟩⟩
  .simp[results,results287,go_sem,J]
  .have a:=Z.out;have hD:=HD;exact m.take (by omega) _
end
theorem K7 (s:fN) (w:fO):Calls prog 295 #[fR s] w λe w'=>e=gO (fK (jv s))/\w'=w:=by
 have a:jv s=if (s.toList==[116,100]||s.toList==[116,104])then 13 else if s.toList==[116,114]then 12 else if (s.toList==[116,98,111,100,121]||(s.toList==[116,104,101,97,100]||s.toList==[116,102,111,111,116]))then 11 else if s.toList==[99,97,112,116,105,111,110]then 9 else if s.toList==[99,111,108,103,114,111,117,112]then 10 else if s.toList==[116,97,98,108,101]then 7 else 6:=by
  unfold jv gI ku;simp only[List.any_cons,List.any_nil,Bool.or_false,sH]
 rw[a];go_enter func295,ntmps295;go_wp2
 all_goals go_ret
 all_goals refine⟨?_,rfl⟩
 all_goals simp_all
attribute [local go_sem] Oper.semAt_some
theorem Kept.both {a : fO} (h:Kept [] a w) (x:a.heap[b]?=some (fV c t)) (j:Nat) (v:gh):Kept [] (a.setCell ⟨b,j,none⟩ v) (w.setCell ⟨b,j,none⟩ v):=by
 have l:=(Kept.refl [b] a).setCell (p:=⟨b,j,none⟩) (.inl (by simp)) v;have m:=(Kept.refl [b] w).setCell (p:=⟨b,j,none⟩) (.inl (by simp)) v;have d:(a.setCell ⟨b,j,none⟩ v).heap.size=a.heap.size:=by simp
 have u:(w.setCell ⟨b,j,none⟩ v).heap.size=w.heap.size:=by simp
 refine⟨m.os.trans (h.os.trans l.os.symm),m.tape.trans (h.tape.trans l.tape.symm),m.output.trans (h.output.trans l.output.symm),by rw[d,u];exact h.size,λk e _=>?_⟩;rw[d]at e
 by_cases o:k=b
 .subst o;exact(fI (h.at x (by simp)) j v).trans (fI x j v).symm
 .rw[m.block k (lz e h.size) (by grind),l.block k e (by grind),h.block k e (by simp)]
def IY {σ:Ab}:∀{a:j5},(∀y∈a,jv (σ.qS y)=6)->ur σ a=6
 |[],_=>rfl
 |x::a,h=>by
  unfold ur;rw[fU (h x (by simp))];exact IY λy d=>h y (by simp[d])
theorem Ki {σ:Ab} (d:jv (σ.qS y)≠6):∀{a:j5},(∀y∈a,jv (σ.qS y)=6)->ur σ (a++[y]++rest)=jv (σ.qS y)
 |[],_=>by
  grind[ur]
 |x::a,h=>by
  show ur σ (x::(a++[y]++rest))=_;unfold ur;rw[fU (h x (by simp))];exact Ki d λy e=>h y (by simp[e])
theorem Un {σ:Ab} (h:RF E f σ w):
  Calls prog 230 #[Bp E] w (jT E f σ.nodes.length w (xX σ) uV):=by
 obtain⟨L,rfl,k⟩:=h;refine(wV (n:=3)).1 ?_;refine wL func230 rfl trivial ?_ rfl;simp only[ntmps230,xC,sV,vZ,Nat.reduceAdd,Nat.reduceSub,xn,xj,xm,xI,rM,vz];have ab:=k.lt;have cm:=k.rK;have fm:=k.free 192;have a8:=k.iI 6;have a7:Fr E.bs w (w.setCell ⟨E.bB,192,none⟩ (fK ((6:Nat)))):=(At.start ⟨L,rfl,k⟩).Ky 192 _;obtain⟨m,z⟩:∃m,m=(w.setCell ⟨E.bB,192,none⟩ (fK 6)).alloc (fV #[Bp E] 121):=⟨_,rfl⟩;have a0:Kept [] (w.setCell ⟨E.bB,192,none⟩ (fK 6)) m:=by rw[z];exact(Kept.refl _ _).alloc _
 have b0:m.heap[w.heap.size]?=some (fV #[Bp E] 121):=by
  rw[z];have:=fB (w.setCell ⟨E.bB,192,none⟩ (fK 6)) (fV #[Bp E] 121)
  simpa using this
 have H:m.heap.size=w.heap.size+1:=by rw[z];simp
 have d:=a8.gJ a0;have⟨C,HL,hC⟩:=d.zc;have HU:=Wy E.bs E.bB 188 _ C _ _ m HL;have HO:=(λg (Z:L.ov.ownBlock=some g)=>zr k.nM Z);have HN:=(λ(W:fO) (hk:Kept [] m W) (i:Nat) (e:Al) (hi:σ.gF i=some e)=>(show W.cell? ⟨L.gp i,0,none⟩=some (fR (σ.nm i))from(d.gJ hk).vh (σ:={σ with mode:=6}) hi));have HS:=(λ(y:iM) (G:y∈σ.fQ)=>k.n4 G);have HI:=k.inj;have HM:=(λ(W:fO) (hk:Kept [] m W)=>(⟨(d.gJ hk).rK,(d.gJ hk).free 192,(d.gJ hk).lt⟩:_/\_/\_));have J:=fx d;have V:=a7.trans (.gv a0);have a3:=HL.gR;have aa:=k.fr.size;clear d;have HZ:=fx H;have HW:=fx z;clear H z
 gi_wp2_with fail
 rw[<-HW.out];refine⟨trivial,(callsIn_wide.2 HU).mono ?_⟩;rintro e w' ⟨rfl,rfl⟩;gi_wp2;refine DG (by omega) (f:=gX L.gp) (λx y e=>rG HI e) HL rfl [] [E.bB] (by simp) (by grind)
  (λpre W=>Kept [] m W/\∀y∈pre,jv (σ.qS y)=6)
  (λc pre W=>c= .ret/\∃a y,pre=a++[y]/\(∀y∈a,jv (σ.qS y)=6)/\jv (σ.qS y)≠6/\Kept [] (m.setCell ⟨E.bB,192,none⟩ (fK (jv (σ.qS y)))) W)
  ?_ ?_ ?_ (λx=>{tmps:=#[Bp E,fW w.heap.size,kK x,undef,Bp E,fW E.bB,jp E.bB 192,Bp E,fW E.bB,jp E.bB 188,uL m.heap.size,kK x,undef,undef,undef,undef,undef,undef,undef,undef,undef,undef,undef],defers:=[]}) ?assign ?body ?done ?stop
 .rintro s A B a9 ⟨o,F⟩ Z k;exact⟨lX o Z k (by omega),F⟩
 .rintro c s A B a9 ⟨h0,a,y,h2,h3,h4,F⟩ Z k;exact⟨h0,a,y,h2,h3,h4,lX F Z k (by simp)⟩
 .exact⟨((Kept.refl _ _).alloc _).alloc _,by simp⟩
 case assign=>
  intro l x W K Y;gi_wp2;exact Y
 case body=>
  rintro l pre y W G ⟨o,B5⟩;obtain⟨i,e0,rfl,hi⟩:=HS y G;have c0:=HN W o i e0 hi;have c1:=fw (o.at b0 (by simp)) 0;dsimp at c1;have⟨c2,f2,hl2⟩:=HM W o;have HB:=(λW=>K7 (σ.nm i) W);have X:=fx o;have HT:=(λv=>(Kept.refl [E.bB] W).setCell (p:=⟨E.bB,192,none⟩) (.inl (by simp)) v);have a6:=(λv=>o.both a3 192 v);clear o
  try dsimp only
  rw[show kK (gX L.gp (some i))=fW (L.gp i)from rfl];obtain⟨U,N⟩:∃U,U=jv (σ.nm i):=⟨_,rfl⟩;rw[<-N]at HB;have I:Hid (jv (σ.qS (some i))=U):=fx N.symm;clear N
  gi_wp2_with (first|(refine⟨trivial,?_⟩;refine(qy l (callsIn_wide.2 (HB _))).mono ?_;rintro e W ⟨rfl,rfl⟩))
  .rename_i O;have a1:U≠6:=by intro e;subst e;simp at O
   refine⟨HT _,rfl,pre,some i,rfl,B5,by rw[I.out];omega,?_⟩;rw[I.out];exact a6 _
  .rename_i O;have a1:U=6:=by
    have:¬((U:Int)≠6):=by simpa using O
    omega
   refine⟨Kept.refl _ _,X.out,λy G=>?_⟩;rcases List.mem_append.1 G with G|G
   .exact B5 y G
   .rw[List.mem_singleton.1 G,I.out];omega
 case done=>
  rintro D W HD ⟨o,F⟩ Y;have T:xX σ= .ok () {σ with mode:=6}:=by
   show qI.ok () {σ with mode:=ur σ σ.fQ.reverse}=_;rw[IY F]
  rw[T];have X:=fx o;clear o F;gi_wp2;refine⟨by simp,.inl ⟨_,_,rfl,ou Y,?_⟩⟩;have H:=HZ.out;have hD:=HD;have u:=X.out.take (D:=D) (by omega) (.deferred none);exact⟨_,Gn rfl _ _ _,rfl,⟨L,rfl,J.out.gJ u⟩,V.trans (.gv u),gr _⟩
 case stop=>
  rintro D c pre W HD a2 ⟨rfl,a,y,rfl,h3,h4,F⟩ Y;have⟨rest,hrest⟩:=a2;have T:xX σ= .ok () {σ with mode:=jv (σ.qS y)}:=by
   show qI.ok () {σ with mode:=ur σ σ.fQ.reverse}=_;rw[<-hrest,Ki h4 h3]
  rw[T];have a5:=J.out.iI (jv (σ.qS y));have a4:Fr E.bs m (m.setCell ⟨E.bB,192,none⟩ (fK (jv (σ.qS y)))):=(At.start ⟨L,rfl,J.out⟩).Ky 192 _;have X:=fx F;clear F;gi_wp2;refine⟨by simp,.inl ⟨_,_,rfl,ou Y,?_⟩⟩;have H:=HZ.out;have hD:=HD;have u:=X.out.take (D:=D) (by simp;omega) (.deferred none);exact⟨_,Gn rfl _ _ _,rfl,⟨L,rfl,a5.gJ u⟩,(V.trans a4).trans (.gv u),gr _⟩
section
attribute [local go_sem] Oper.semAt_some
attribute [local go_sem] p6
attribute [local simp] p6
def Ab.gR (σ:Ab) (pre:j5) (b:iM):iM:=pre.foldl (λb y=>if kU (σ.qS y)then y else b) b
def I5 {σ:Ab}:∀{a:j5} {b:iM},(∀y∈a,y≠some it)->σ.vo it a b=σ.gR a b
 |[],_,_=>rfl
 |x::a,b,h=>by
  unfold Ab.vo;rw[gn (h x (by simp))];exact I5 λy d=>h y (by simp[d])
theorem H6 {σ:Ab}:∀{a:j5} {b:iM},(∀y∈a,y≠some it)->σ.vo it (a++[some it]++rest) b=σ.gR a b
 |[],b,_=>by
  grind[Ab.vo,Ab.gR]
 |x::a,b,h=>by
  show σ.vo it (x::(a++[some it]++rest)) b=_;unfold Ab.vo;rw[gn (h x (by simp))];exact H6 λy d=>h y (by simp[d])
def QW (σ:Ab) (pre:j5) (y b:iM):σ.gR (pre++[y]) b=if kU (σ.qS y)then y else σ.gR pre b:=by
 simp[Ab.gR]
theorem KD {σ:Ab} (h:RF E f σ w) (it:Nat) (a1:σ.gx (some it)=true):
  Calls prog 353 #[Bp E,nV f it] w λe w'=>e=gO (oV f (σ.qf it))/\Kept [] w w':=by
 obtain⟨L,rfl,d⟩:=h;have⟨fb,ab,lb0,cb,hb⟩:=d.Hi;have⟨kb,lbb,eb,heb,H2⟩:=hb.call;cases eb;refine(wV (n:=3)).1 ?_;refine wL func353 rfl trivial ?_ rfl;simp only[ntmps353,xC,sV,vZ,Nat.reduceAdd,Nat.reduceSub,xn,xj,xm,xI,rM,vz];obtain⟨F,v⟩:∃F,F=((w.alloc (fV #[Bp E] 121)).alloc (fV #[fW (L.gp it)] 72)).alloc (fV #[.pointer none] 72):=⟨_,rfl⟩;have X:Kept [] w F:=by rw[v];exact(((Kept.refl _ _).alloc _).alloc _).alloc _
 have⟨b0,b1,b2⟩:=nX w (fV #[Bp E] 121) (fV #[fW (L.gp it)] 72) (fV #[.pointer none] 72);rw[<-v]at b0 b1 b2;have k:F.heap.size=w.heap.size+1+1+1:=by rw[v];simp
 have a4:=d.gJ X;have⟨C,HL,hC⟩:=a4.zc;have a2:=d.lt;have HU:=Wy E.bs E.bB 188 _ C _ _ F HL;have a0:=(λ(W:fO) (o:Kept [] w W)=>(o.cell (p:=⟨E.bB,184,none⟩) a2 (by simp)).trans cb);have HO:=(λg (z:L.ov.ownBlock=some g)=>zr d.nM z);have HN:=(λ(W:fO) (o:Kept [] w W) (i:Nat) (e:Al) (hi:σ.gF i=some e)=>(d.gJ o).vh hi);have HS:=(λ(y:iM) (N:y∈σ.fQ)=>d.n4 N);have HI:=d.inj;have HE:=(λ(W:fO) (o:Kept [] w W) (x:iM) (hx:σ.gx x=true)=>(d.gJ o).gx hx);have Z:=fx k;have HW:=fx v;clear k v
 gi_wp2_with fail
 rw[<-HW.out];refine(callsIn_wide.2 HU).mono ?_;rintro e w' ⟨rfl,rfl⟩;gi_wp2;refine DG (by omega) (f:=gX L.gp) (λx y e=>rG HI e) HL rfl [w.heap.size+1+1] [] ?_ (by simp)
  (λpre W=>Kept [] w W/\W.heap[w.heap.size]?=some (fV #[Bp E] 121)/\W.heap[w.heap.size+1]?=some (fV #[fW (L.gp it)] 72)/\W.heap[w.heap.size+1+1]?=some (fV #[oV L.gp (σ.gR pre none)] 72)/\∀y∈pre,y≠some it)
  (λc pre W=>c= .exit 0/\Kept [] w W/\∃a,pre=a++[some it]/\(∀y∈a,y≠some it)/\W.heap[w.heap.size+1+1]?=some (fV #[oV L.gp (σ.gR a none)] 72))
  ?_ ?_ ?_ (λx=>{tmps:=#[Bp E,fW (L.gp it),fW w.heap.size,fW (w.heap.size+1),.pointer none,fW (w.heap.size+1+1),kK x,Bp E,fW E.bB,jp E.bB 188,uL F.heap.size,kK x,undef,undef,undef,undef,undef,undef,undef,undef,undef,undef,undef,undef,undef,undef],defers:=[]}) ?assign ?body ?done ?stop
 .grind
 .rintro s A B a6 ⟨h1,h2,O,h4,H⟩ z d;have k:=Z.out;exact⟨lX h1 z d (by omega),km h2 z d (by omega),km O z d (by omega),km h4 z d (by omega),H⟩
 .rintro c s A B a6 ⟨h0,h1,a,h2,O,H⟩ z d;have k:=Z.out;exact⟨h0,lX h1 z d (by omega),a,h2,O,km H z d (by omega)⟩
 .have o:Kept [] F (mc E.bB 188 (σ.fQ.length) F):=((Kept.refl _ _).alloc _).alloc _;exact⟨X.trans o,o.at b0 (by simp),o.at b1 (by simp),o.at b2 (by simp),by simp⟩
 case assign=>
  intro l x W K V;gi_wp2;exact V
 case body=>
  rintro l pre y W N ⟨m,B2,B3,T,B5⟩;obtain⟨i,e0,rfl,hi⟩:=HS y N;have c0:=HN W m i e0 hi;have cB:=a0 W m;have c1:=fw B2 0;have c2:=fw B3 0;have U:=fw T 0;have f3:=fA T 0;dsimp at c1 c2 U;have HB:=(λW' (o:Kept [] w W')=>H2 W' (.gv o) (σ.nm i));have HT:Hid (∀(q:Nat) (r:gh),Kept [w.heap.size+1+1] W ((W.drewN q).setCell ⟨w.heap.size+1+1,0,none⟩ r)/\Kept [] w ((W.drewN q).setCell ⟨w.heap.size+1+1,0,none⟩ r)/\((W.drewN q).setCell ⟨w.heap.size+1+1,0,none⟩ r).heap[w.heap.size+1+1]?=some (fV #[r] 72)/\((W.drewN q).setCell ⟨w.heap.size+1+1,0,none⟩ r).heap[w.heap.size]?=some (fV #[Bp E] 121)/\((W.drewN q).setCell ⟨w.heap.size+1+1,0,none⟩ r).heap[w.heap.size+1]?=some (fV #[fW (L.gp it)] 72)):=λq r=>
   have kk:=((Kept.refl [w.heap.size+1+1] W).drewN q).setCell (p:=⟨w.heap.size+1+1,0,none⟩) (.inl (by simp)) r
   ⟨kk,(m.drewN q).setCell (.inr (by simp;omega)) _,fI (show(W.drewN q).heap[w.heap.size+1+1]?=_ from T) 0 _,kk.at B2 (by simp;omega),kk.at B3 (by simp)⟩
  have I:=C7 (HE W m (some i) (by show(σ.gF i).isSome=true;rw[hi];rfl)) (HE W m (some it) a1);rw[show ptr (gX L.gp (some i))=some ⟨L.gp i,0,none⟩from rfl,show ptr (gX L.gp (some it))=some ⟨L.gp it,0,none⟩from rfl]at I
  try dsimp only
  rw[show kK (gX L.gp (some i))=fW (L.gp i)from rfl]
  by_cases J:i=it
  .subst J;rw[uJ rfl]at I;gi_wp2;exact⟨Kept.refl _ _,rfl,m,pre,rfl,B5,T⟩
  .have a3:L.gp i≠L.gp it:=λe=>J (HI _ _ e);have a7:(some i:iM)≠some it:=λe=>J (jr e);rw[vD (by simpa using a3)]at I;gi_wp2;refine Aw l (by kernel_rfl) (by kernel_rfl) (by rfl) ?_
   repeat (gi_big_quiet_step ((exact callsIn_wide.2 (Mv (HB _ (m.drewN _))))))
   refine wpQuietIn_nil ?_;intro _ a5;have⟨nq,hw''⟩:=a5;subst hw'';cases hq:kU (σ.nm i)with
   |true=>
    have HQ:=fx hq;clear hq;gi_wp2;have⟨t1,t2,t3,t4,t5⟩:=HT.out nq (fW (L.gp i));refine⟨t1,t2,t4,t5,?_,λy N=>?_⟩
    .rw[QW,show σ.qS (some i)=σ.nm i from rfl,HQ.out];exact t3
    grind
   |false=>
    have HQ:=fx hq;clear hq;gi_wp2;refine⟨(Kept.refl _ W).drewN nq,m.drewN nq,B2,B3,?_,λy N=>?_⟩
    .rw[QW,show σ.qS (some i)=σ.nm i from rfl,HQ.out];exact T
    grind
 case done=>
  rintro D W HD ⟨m,h2,O,h4,H⟩ V;have U:=fw h4 0;dsimp at U;have u:σ.qf it=σ.gR σ.fQ.reverse none:=I5 (λy N=>H y N);have G:=fx u;clear u;gi_wp2;refine⟨by simp,.inl ⟨_,_,rfl,ou V,?_⟩⟩;have k:=Z.out;have hD:=HD;exact⟨_,results_tmp rfl _ _ _,by rw[G.out];rfl,m.take (by omega) _⟩
 case stop=>
  rintro D c pre W HD Y ⟨rfl,m,a,rfl,O,H⟩ V;have⟨rest,hrest⟩:=Y;have u:σ.qf it=σ.gR a none:=by unfold Ab.qf;rw[<-hrest];exact H6 O
  have G:=fx u;have U:=fw H 0;dsimp at U;clear u;gi_wp2;refine⟨by simp,.inl ⟨_,_,rfl,ou V,?_⟩⟩;have k:=Z.out;have hD:=HD;exact⟨_,results_tmp rfl _ _ _,by rw[G.out];rfl,m.take (by omega) _⟩
end
attribute [local go_sem] Oper.semAt_some
theorem Gw {σ:Ab}:∀{a:j5},(∀y∈a,(!ku (σ.qS y) fC)=true\/y=gU σ.fQ 0)->rZ σ a=none
 |[],_=>rfl
 |x::a,h=>by
  unfold rZ;rw[fU (by grind)];exact Gw λy d=>h y (by simp[d])
theorem FR {σ:Ab} (d:¬((!ku (σ.qS y) fC)=true\/y=gU σ.fQ 0)):∀{a:j5},(∀y∈a,(!ku (σ.qS y) fC)=true\/y=gU σ.fQ 0)->rZ σ (a++[y]++rest)=some y
 |[],_=>by
  grind[rZ]
 |x::a,h=>by
  show rZ σ (x::(a++[y]++rest))=some y;unfold rZ;rw[fU (by grind)];exact FR d λy e=>h y (by simp[e])
def Dk {a : fO} {s : Nat} (d:Kept [] W a) (k:Kept [] w W) (e:w.heap.size<=s) (h:a.heap[s]?=some (fV #[.pointer none,fK 0] 235)) (v0 v1:gh):
  Kept [s] W ((a.setCell ⟨s,0,none⟩ v0).setCell ⟨s,1,none⟩ v1)/\Kept [] w ((a.setCell ⟨s,0,none⟩ v0).setCell ⟨s,1,none⟩ v1)/\((a.setCell ⟨s,0,none⟩ v0).setCell ⟨s,1,none⟩ v1).heap[s]?=some (fV #[v0,v1] 235):=
 ⟨((d.mono (by simp)).setCell (.inl (by simp)) _).setCell (.inl (by simp)) _,(((k.trans d)).setCell (.inr e) _).setCell (.inr e) _,fI (fI h 0 v0) 1 v1⟩
def Xh {a : fO} {s : Nat} (e:Kept [] W a) (k:Kept [] w W) (h:w.heap.size<=s) (d:a.heap[s]?=some (fV #[.pointer none,fK 0] 235)) (v0 v1:gh) (o:Obj):
  Kept [s] W (((a.setCell ⟨s,0,none⟩ v0).setCell ⟨s,1,none⟩ v1).alloc o)/\Kept [] w (((a.setCell ⟨s,0,none⟩ v0).setCell ⟨s,1,none⟩ v1).alloc o)/\(((a.setCell ⟨s,0,none⟩ v0).setCell ⟨s,1,none⟩ v1).alloc o).heap[s]?=some (fV #[v0,v1] 235):=by
 have⟨h1,h2,h3⟩:=Dk e k h d v0 v1;exact⟨h1.alloc _,h2.alloc _,((Kept.refl [] _).alloc o).at h3 (by simp)⟩
theorem ij (E:Env):li E:=by
 intro f a w h hs;have al:∃pl,jN a= .ok pl a:=by
  cases k:jN a with
  |ok pl σ1=>exact⟨pl,by rw[oN k]⟩
  |stop c p=>
   exfalso;unfold jN at k;split at k
   .split at k
    .unfold mu at k;split at k
     .split at k
      .grind
      .split at k
       .unfold jf at k;grind
       grind
     grind
    .cases k
    .split at k
     .unfold jf at k;grind
     grind
   grind
  |stuck=>grind
 have⟨pl0,hpl0⟩:=al;have Z:a.AY=true:=by
  cases ht:a.AY with
  |true=>rfl
  |false=>unfold jN at hpl0;grind
 rw[hpl0];obtain⟨L,rfl,o⟩:=h;refine(wV (n:=3)).1 ?_;refine wL func267 rfl trivial ?_ rfl;simp only[ntmps267,xC,sV,vZ,Nat.reduceAdd,Nat.reduceSub,xn,xj,xm,xI,rM,vz];have ar:=o.lt;obtain⟨v,F⟩:∃v,v=(w.alloc (fV #[Bp E] 121)).alloc (fV #[.pointer none,fK 0] 235):=⟨_,rfl⟩;have ab:Kept [] w v:=by rw[F];exact((Kept.refl _ _).alloc _).alloc _
 have ap:v.heap[w.heap.size]?=some (fV #[Bp E] 121):=by
  have:=(sj w (fV #[Bp E] 121) (fV #[.pointer none,fK 0] 235)).1
  rwa [<-F]at this
 obtain⟨w1,a0⟩:∃w1,w1=v.alloc (fV #[oV L.gp (gU a.fQ 0)] 72):=⟨_,rfl⟩;have ah:Kept [] w w1:=by rw[a0];exact ab.alloc _
 have⟨b0,b1,b2⟩:=nX w (fV #[Bp E] 121) (fV #[.pointer none,fK 0] 235) (fV #[oV L.gp (gU a.fQ 0)] 72);rw[<-F,<-a0]at b0 b1 b2;have a4:v.heap.size=w.heap.size+1+1:=by rw[F];simp
 have G:w1.heap.size=w.heap.size+1+1+1:=by rw[a0];simp[a4]
 have CA:=afC (o.gJ ab) 0;have au:=o.gJ ah;have⟨C,HL,hC⟩:=au.zc;have HU:=Wy E.bs E.bB 188 _ C _ _ w1 HL;have HO:=(λg (V:L.ov.ownBlock=some g)=>zr o.nM V);have HN:=(λ(W:fO) (m:Kept [] w W) (i:Nat) (e:Al) (hi:a.gF i=some e)=>(o.gJ m).vh hi);have HS:=(λ(y:iM) (hy:y∈a.fQ)=>o.n4 hy);have HI:=fx o.inj;have HE:=(λ(W:fO) (m:Kept [] w W) (x:iM) (hx:a.gx x=true)=>(o.gJ m).gx hx);have HZ:=fx G;have a7:=fx a4;have ao:=fx F;have HW:=fx a0;clear G a0 a4 F;have aw:v.cell? ⟨w.heap.size,0,none⟩=some (Bp E):=by rw[fw ap];rfl
 have ay:E.bB < v.heap.size:=lz ar ab.size;have az:w.heap.size < v.heap.size:=by have:=a7.out;omega
 gi_wp2_with fail
 rw[<-ao.out];refine⟨trivial,(callsIn_wide.2 CA).mono ?_⟩;rintro e v ⟨rfl,rfl⟩
 gi_wp2_with fail
 rw[<-HW.out];refine⟨trivial,(callsIn_wide.2 HU).mono ?_⟩;rintro e w' ⟨rfl,rfl⟩;gi_wp2;refine DG (by omega) (f:=gX L.gp) (λx y e=>rG HI.out e) HL rfl [] [w.heap.size+1] (by simp) (by grind)
  (λpre W=>Kept [] w W/\W.heap[w.heap.size]?=some (fV #[Bp E] 121)/\W.heap[w.heap.size+1]?=some (fV #[.pointer none,fK 0] 235)/\W.heap[v.heap.size]?=some (fV #[oV L.gp (gU a.fQ 0)] 72)/\∀y∈pre,(!ku (a.qS y) fC)=true\/y=gU a.fQ 0)
  (λc pre W=>c= .ret/\Kept [] w W/\∃u i pl,pre=u++[some i]/\(∀y∈u,(!ku (a.qS y) fC)=true\/y=gU a.fQ 0)/\¬((!ku (a.qS (some i)) fC)=true\/some i=gU a.fQ 0)/\mu i a= .ok pl a/\W.heap[w.heap.size+1]?=some (fV #[fW (L.gp pl.1),fK pl.2] 235))
  ?_ ?_ ?_ (λx=>{tmps:=#[Bp E,fW w.heap.size,fW (w.heap.size+1),fW v.heap.size,kK x,undef,undef,Bp E,fW E.bB,jp E.bB 188,oV L.gp (gU a.fQ 0),Bp E,fW E.bB,jp E.bB 188,uL w1.heap.size,kK x,undef,undef,undef,undef,undef,undef,undef,undef,undef,undef,undef,undef,undef,undef,undef,undef,undef,undef,undef,undef,undef,undef,undef,undef,undef],defers:=[]}) ?assign ?body ?done ?stopx
 .rintro s A B av ⟨h1,h2,h3,h4,h5⟩ V hr;have G:=HZ.out;have a4:=a7.out;exact⟨lX h1 V hr (by omega),km h2 V hr (by omega),km h3 V hr (by omega),km h4 V hr (by omega),h5⟩
 .rintro c s A B av ⟨h0,h1,u,i,pl,h2,h3,h4,h5,h6⟩ V hr;have G:=HZ.out;exact⟨h0,lX h1 V hr (by omega),u,i,pl,h2,h3,h4,h5,km h6 V hr (by omega)⟩
 .have m:Kept [] w1 (mc E.bB 188 (a.fQ.length) w1):=((Kept.refl _ _).alloc _).alloc _;refine⟨ah.trans m,m.at b0 (by simp),m.at b1 (by simp),?_,by simp⟩;rw[a7.out];exact m.at b2 (by simp)
 case assign=>
  intro l x W K hK;gi_wp2;exact hK
 case body=>
  rintro l pre y W hy ⟨z,h2,B3,B4,B5⟩;obtain⟨i,e0,rfl,hi⟩:=HS y hy;have I:=o.gJ z;have c0:=HN W z i e0 hi;have c1:W.cell? ⟨w.heap.size,0,none⟩=some (Bp E):=by rw[fw h2];rfl
  have c2:W.cell? ⟨v.heap.size,0,none⟩=some (oV L.gp (gU a.fQ 0)):=by rw[fw B4];rfl
  have N:(binOp .eql 72 (fW (L.gp i)) (oV L.gp (gU a.fQ 0))).run prog W= .ok (.bool (decide (some i=gU a.fQ 0))) W:=by
   have aq:a.gx (gU a.fQ 0)=true:=by
    unfold gU
    by_cases hn:(0:Int)<=0/\(0:Int) < a.fQ.length
    .rw[fU hn];have ai:0 < a.fQ.length:=by omega
     show a.gx (a.fQ.getD 0 none)=true;rw[uX,pY ai];exact Ab.vL (I.wf.fQ _ (tM ai))
    .rw[gn hn];rfl
   have N:=C7 (HE W z (some i) (by show(a.gF i).isSome=true;rw[hi];rfl)) (HE W z _ aq);rw[decide_eq_decide.2 (⟨λe=>rG HI.out e,λe=>by rw[e]⟩:gX L.gp (some i)=gX L.gp (gU a.fQ 0)↔some i=gU a.fQ 0)]at N;exact N
  have a3:ku (a.qS (some i)) fC=((a.nm i).toList==[116,97,98,108,101]):=by
   show ku (a.nm i) _=_;unfold ku;rw[sH fC]
  have B2:=fx h2;have H:=fx hi;clear h2 hi
  try dsimp only
  rw[show kK (gX L.gp (some i))=fW (L.gp i)from rfl];cases htb:((a.nm i).toList==[116,97,98,108,101])with
  |false=>
   rw[htb]at a3;have HG:Hid ((!ku (a.qS (some i)) fC)=true\/some i=gU a.fQ 0):=fx (.inl (by rw[a3];rfl));have am:((a.nm i).toList != [116,97,98,108,101])=true:=by simp[bne,htb]
   gi_wp2;refine⟨Kept.refl _ _,z,B2.out,B3,B4,λy hy=>?_⟩
   grind
  |true=>
   rw[htb]at a3;have am:((a.nm i).toList != [116,97,98,108,101])=false:=by simp[bne,htb]
   by_cases T:some i=gU a.fQ 0
   .rw[uJ T]at N;have HG:Hid ((!ku (a.qS (some i)) fC)=true\/some i=gU a.fQ 0):=fx (.inr T);gi_wp2;refine⟨Kept.refl _ _,z,B2.out,B3,B4,λy hy=>?_⟩
    grind
   .rw[vD T]at N;have HG:Hid (¬((!ku (a.qS (some i)) fC)=true\/some i=gU a.fQ 0)):=fx (by rw[a3];simp[T]);have ag:(mu i a).isOk=true:=by
     have:=List.all_eq_true.1 Z (some i) hy;simp only[Bool.or_eq_true,Bh]at this;rcases this with(h|h)|h
     .exfalso;have e:ku (a.qS (some i)) fC=ku (a.nm i) fC:=rfl;grind
     .exact absurd h T
     .exact h
    cases hp:e0.iJ with
    |some p=>
     have J:∃ep,a.gF p=some ep/\0<=qc ep.kids (Nd.gx i)/\mu i a= .ok (p,(qc ep.kids (Nd.gx i)).toNat) a:=by
      have m:=ag;unfold mu at m|-;rw[H.out]at m|-;simp only[hp]at m|-;cases k:a.gF p with
      |none=>rw[k]at m;simp[qI.isOk]at m
      |some ep=>
       simp only[k]at m|-
       by_cases ak:0<=qc ep.kids (Nd.gx i)
       .grind
       .rw[gn ak]at m;simp[qI.isOk]at m
     have⟨ep,J,ak,hfa⟩:=J;have CF:=OT I H.out hp J;obtain⟨q,k⟩:∃q:Nat,qc ep.kids (Nd.gx i)=(q:Int):=⟨(qc ep.kids (Nd.gx i)).toNat,by omega⟩;rw[k]at CF hfa;have a5:Hid (mu i a= .ok (p,q) a):=fx (by rw[hfa];rfl);clear hfa
     gi_wp2_with fail
     refine⟨trivial,(qy l (callsIn_wide.2 CF)).mono ?_⟩;rintro e W2 ⟨rfl,ac,ae⟩;have d:=ae.at B3 (by simp);have d0:W2.cell? ⟨w.heap.size+1,0,none⟩=some (.pointer none):=by rw[fw d];rfl
     have d1:W2.cell? ⟨w.heap.size+1,1,none⟩=some (fK 0):=by rw[fw d];rfl
     have g0:=fA d 0;have g1:=fA d 1;have ax:w.heap.size+1 < W2.heap.size:=iB d;have a1:=fx d;gi_wp2;have⟨t1,t2,t3⟩:=Xh ae z (lx _) a1.out (fW (L.gp p)) (fK q) (fV #[fW (L.gp p),fK q] 235);exact⟨t1,rfl,t2,pre,i,(p,q),rfl,B5,HG.out,a5.out,t3⟩
    |none=>
     have J:∃q e,gU a.fQ (posOf a.fQ (some i) - 1)=some q/\a.gF q=some e/\mu i a= .ok (q,e.kids.length) a:=by
      have m:=ag;unfold mu at m|-;rw[H.out]at m|-;simp only[hp]at m|-;cases k:gU a.fQ (posOf a.fQ (some i) - 1)with
      |none=>rw[k]at m;simp[qI.isOk]at m
      |some q=>
       simp only[k]at m|-;unfold jf at m|-;cases hq2:a.gF q with
       |none=>rw[hq2]at m;simp[qI.isOk]at m
       |some e=>grind
     have⟨q,eq,a9,O,hfa⟩:=J;have CF:=SA I H.out hp;have a5:=fx hfa;have an:=(λ(W':fO) (m:Kept [] W W')=>(show Calls prog 246 #[jp E.bB 188,fW (L.gp i)] W' (λe w'=>e=gO (fW (L.gp q))/\w'=W')from by
      have:=y8 (I.gJ m) (some i) (by show(a.gF i).isSome=true;rw[H.out];rfl)
      rwa [a9]at this))
     have CE:=(λ(W':fO) (m:Kept [] W W')=>Pc (I.gJ m) O);clear hfa
     gi_wp2_with fail
     refine⟨trivial,(qy l (callsIn_wide.2 CF)).mono ?_⟩;rintro e W2 ⟨rfl,ac,aa⟩;have a6:Kept [] W (W2.alloc (fV #[.pointer none,fK 0] 235)):=aa.alloc _;have e1:W2.cell? ⟨w.heap.size,0,none⟩=some (Bp E):=by rw[fw (aa.at B2.out (by simp))];rfl
     have aA:w.heap.size < W2.heap.size:=iB (aa.at B2.out (by simp))
     gi_wp2_with fail
     refine⟨trivial,(qy l (callsIn_wide.2 (an _ a6))).mono ?_⟩;rintro e W3 ⟨rfl,rfl⟩
     gi_wp2_with fail
     refine⟨trivial,(qy l (callsIn_wide.2 (CE _ a6))).mono ?_⟩;rintro e W4 ⟨rfl,ad,X⟩;have a2:=a6.trans X;have d:=a2.at B3 (by simp);have d0:W4.cell? ⟨w.heap.size+1,0,none⟩=some (.pointer none):=by rw[fw d];rfl
     have d1:W4.cell? ⟨w.heap.size+1,1,none⟩=some (fK 0):=by rw[fw d];rfl
     have g0:=fA d 0;have g1:=fA d 1;have a1:=fx d;gi_wp2;have⟨t1,t2,t3⟩:=Dk a2 z (lx _) a1.out (fW (L.gp q)) (fK eq.kids.length);exact⟨t1,rfl,t2,pre,i,(q,eq.kids.length),rfl,B5,HG.out,a5.out,t3⟩
 case done=>
  rintro D W HD ⟨z,h2,B3,h4,h5⟩ hK;have U:∃q e,gU a.fQ 0=some q/\a.gF q=some e/\pl0=(q,e.kids.length):=by
   have k:=hpl0;unfold jN at k;rw[fU Z,Gw h5]at k;simp only at k;cases V:gU a.fQ 0 with
   |none=>grind
   |some q=>
    rw[V]at k;simp only at k;unfold jf at k
    grind
  obtain⟨q,eq,a9,O,rfl⟩:=U;have c2:W.cell? ⟨v.heap.size,0,none⟩=some (fW (L.gp q)):=by rw[fw h4,a9];rfl
  have CE:=Pc (o.gJ z) O;clear h2
  gi_wp2_with fail
  refine⟨trivial,(callsIn_wide.2 CE).mono ?_⟩;rintro e W4 ⟨rfl,ad,X⟩;have d:=X.at B3 (by simp);have d0:W4.cell? ⟨w.heap.size+1,0,none⟩=some (.pointer none):=by rw[fw d];rfl
  have d1:W4.cell? ⟨w.heap.size+1,1,none⟩=some (fK 0):=by rw[fw d];rfl
  have g0:=fA d 0;have g1:=fA d 1;have af:=(X.block D (Array.getElem?_eq_some_iff.1 hK).1 (by simp)).trans hK;have⟨t1,T2,T3⟩:=Dk X z (lx _) d (fW (L.gp q)) (fK eq.kids.length);have a1:=fx d;have a2:=((((Kept.refl [w.heap.size+1] W4).setCell (p:=⟨w.heap.size+1,0,none⟩) (.inl (by simp)) (fW (L.gp q))).setCell (p:=⟨w.heap.size+1,1,none⟩) (.inl (by simp)) (fK eq.kids.length)).block D (Array.getElem?_eq_some_iff.1 af).1 (by have:=HZ.out;grind)).trans af;gi_wp2;refine⟨by simp,.inl ⟨_,_,rfl,ou a2,?_⟩⟩;have G:=HZ.out;have hD:=HD;have a8:(World.putObj _ D (.deferred none)).heap[w.heap.size+1]?=_:=(p5 (by omega)).trans T3;have Y:=T2.take (D:=D) (by omega) (.deferred none);refine⟨pV L.gp (q,eq.kids.length),?_,rfl,⟨L,rfl,o.gJ Y⟩,.gv Y,gr _⟩;simp[results,results267,asAddr,Result.andThen,go_sem,fw a8]
 case stopx=>
  rintro D c pre W HD aj ⟨rfl,z,u,i,pl,rfl,h3,h4,h5,T3⟩ hK;have U:pl0=pl:=by
   have⟨rest,hrest⟩:=aj;have k:=hpl0;unfold jN at k;rw[fU Z,<-hrest,FR h4 h3]at k;simp only at k;rw[h5]at k;cases k;rfl
  subst U;gi_wp2;refine⟨by simp,.inl ⟨_,_,rfl,ou hK,?_⟩⟩;have G:=HZ.out;have hD:=HD;have a8:(World.putObj _ D (.deferred none)).heap[w.heap.size+1]?=_:=(p5 (by omega)).trans T3;have Y:=z.take (D:=D) (by omega) (.deferred none);refine⟨pV L.gp pl0,?_,rfl,⟨L,rfl,o.gJ Y⟩,.gv Y,gr _⟩;simp[results,results267,asAddr,Result.andThen,go_sem,fw a8]
def VR (E:Env) (t:fZ):lN E .nothing t (Pure.pure ()):=by
 intro v f k w h a d;refine⟨97,#[],#[],a,enters_of func97 (by rfl) rfl,?_⟩;have H:=At.start h;show Calls prog 97 #[hH E t] w _;generalize hH E t=e;go_enter func97,ntmps97;go_wp2;go_end0;exact fL rfl H rfl
def iw (E:Env) (t:fZ) (k:Nat) (m:M Unit) (d:∀a w,(callFunc k a).run prog w= .ok (.enter k a) w) (h:iG E k (λ_=>#[Bp E,hH E t]) m uV):lN E (.gz k) t m:=by
 intro v f u w e o l;exact⟨k,#[gV E.bB],#[],o,d,h f u w e l⟩
def y9 (E:Env) (r:Ru) (t:fZ):lN E r t stuck:=λ_ _ _ _ _ _ a=>absurd rfl a
def S0 (d f l a:Nat):Ab:={nodes:=[.el ⟨⟨#[]⟩,[],none,[]⟩],fQ:=[],act:=[],head:=none,form:=none,mode:=0,kept:=0,waiting:=[],iq:=false,iP:=false,gp:=a,behind:=false,mV:=⟨#[]⟩,iA:=false,fresh:=false,pS:=d,rq:=f,oY:=l}
def Tt (t:Addr) (w:fO):(ReflectliteValue.unpack (.iface 85 (.pointer (some t)))).run prog w
  = .ok (.agg #[jp 7 85,fW w.heap.size,.int .u64 150]) (w.alloc (.cells #[.pointer (some t)] 85)):=by kernel_rfl
def Tc (t:Addr) (w:fO):(ReflectliteValue.unpack (.iface 80 (.pointer (some t)))).run prog w
  = .ok (.agg #[jp 7 80,fW w.heap.size,.int .u64 150]) (w.alloc (.cells #[.pointer (some t)] 80)):=by kernel_rfl
def aco (a:Addr) (w:fO):(ReflectliteValue.methodAny (ReflectliteValue.valueError "reflectlite.Value.Type" 0) (λt _ _ _=>ReflectliteType.toType t) #[.agg #[jp 7 85,.pointer (some a),.int .u64 150]]).run prog w
  = .ok (.iface 145 (.agg #[jp 7 85])) w:=rfl
def abe (a:Addr) (w:fO):(ReflectliteValue.methodAny (ReflectliteValue.valueError "reflectlite.Value.Type" 0) (λt _ _ _=>ReflectliteType.toType t) #[.agg #[jp 7 80,.pointer (some a),.int .u64 150]]).run prog w
  = .ok (.iface 145 (.agg #[jp 7 80])) w:=rfl
def T9 (h:gh) (w:fO):(Go.method 500 145 (.agg #[h]) "Kind").run prog w= .ok (407,h) w:=by kernel_rfl
def UB (h:gh) (w:fO):(Go.method 500 145 (.agg #[h]) "Elem").run prog w= .ok (428,.agg #[h]) w:=by kernel_rfl
def BM (h:gh) (w:fO):(Go.method 500 145 (.agg #[h]) "Implements").run prog w= .ok (429,.agg #[h]) w:=by kernel_rfl
def Cb (h:gh) (w:fO):(Go.method 500 145 (.agg #[h]) "AssignableTo").run prog w= .ok (426,.agg #[h]) w:=by kernel_rfl
def Ko (v:gh) (w:fO):(Go.method 500 145 v "Comparable").run prog w= .ok (427,v) w:=by kernel_rfl
def ZG (w:fO):((ReflectliteType.abiMethod λt=>(λa:Nat=>Value.int IntKind.u8 (a:Int)) <$> Rtype.kind t) #[jp 7 85]).run prog w= .ok (.int .u8 22) w:=by kernel_rfl
def acN (w:fO):((ReflectliteType.abiMethod λt=>(λa:Nat=>Value.int IntKind.u8 (a:Int)) <$> Rtype.kind t) #[jp 7 24]).run prog w= .ok (.int .u8 2) w:=by kernel_rfl
def XO (w:fO):((ReflectliteType.abiMethod λt=>(λa:Nat=>Value.int IntKind.u8 (a:Int)) <$> Rtype.kind t) #[jp 7 80]).run prog w= .ok (.int .u8 22) w:=by kernel_rfl
def acy (w:fO):((ReflectliteType.abiMethod λt=>(λa:Nat=>Value.int IntKind.u8 (a:Int)) <$> Rtype.kind t) #[jp 7 78]).run prog w= .ok (.int .u8 22) w:=by kernel_rfl
def dr (z:Sem gh) (f:TypeId->Addr->Nat->Nat->Sem gh) (v:gh):
  ReflectliteValue.method z f #[v]=(do match <-ReflectliteValue.parts v with|none=>z|some (t,a,fl)=>f t a fl (fl%32)):=rfl
def MD (a:Addr) (w:fO):(ReflectliteValue.parts (.agg #[jp 7 85,.pointer (some a),.int .u64 150])).run prog w= .ok (some (85,a,150)) w:=rfl
def MH (a:Addr) (w:fO):(ReflectliteValue.parts (.agg #[jp 7 80,.pointer (some a),.int .u64 150])).run prog w= .ok (some (80,a,150)) w:=rfl
def aah (a p:Addr) (W:fO) (d:W.cell? a=some (.pointer (some p))):
  (ReflectliteValue.method (ReflectliteValue.valueError "reflectlite.Value.IsNil" 0) ReflectliteValue.isNil #[.agg #[jp 7 85,.pointer (some a),.int .u64 150]]).run prog W= .ok (.bool false) W:=by
 rw[dr];simp only[QX,MD,Result.andThen];simp[ReflectliteValue.isNil,loadVar,isAgg,underlying,underlying85,d,Result.andThen]
def aal (a p:Addr) (W:fO) (d:W.cell? a=some (.pointer (some p))):
  (ReflectliteValue.method (ReflectliteValue.valueError "reflectlite.Value.IsNil" 0) ReflectliteValue.isNil #[.agg #[jp 7 80,.pointer (some a),.int .u64 150]]).run prog W= .ok (.bool false) W:=by
 rw[dr];simp only[QX,MH,Result.andThen];simp[ReflectliteValue.isNil,loadVar,isAgg,underlying,underlying80,d,Result.andThen]
def aaZ (w:fO):(ReflectliteType.method ReflectliteType.elem #[.agg #[jp 7 85]]).run prog w= .ok (.iface 145 (.agg #[jp 7 24])) w:=by kernel_rfl
def acl (w:fO):(ReflectliteType.method ReflectliteType.elem #[.agg #[jp 7 80]]).run prog w= .ok (.iface 145 (.agg #[jp 7 78])) w:=by kernel_rfl
def Ll (w:fO):(ReflectliteType.relation "Implements" ReflectliteType.implements_ #[.agg #[jp 7 24],.iface 145 (.agg #[jp 7 59])]).run prog w= .ok (.bool true) w:=by kernel_rfl
def KL (w:fO):(ReflectliteType.relation "Implements" ReflectliteType.implements_ #[.agg #[jp 7 78],.iface 145 (.agg #[jp 7 59])]).run prog w= .ok (.bool true) w:=by kernel_rfl
def LG (v:gh) (w:fO):(ReflectliteType.typeOf #[.iface 24 v]).run prog w= .ok (.iface 145 (.agg #[jp 7 24])) w:=rfl
def KM (w:fO):(ReflectliteType.relation "AssignableTo" ReflectliteType.assignableTo #[.agg #[jp 7 24],.iface 145 (.agg #[jp 7 24])]).run prog w= .ok (.bool true) w:=by kernel_rfl
def QP (n:Int) (w:fO):(ReflectliteValue.unpack (.iface 24 (fK n))).run prog w
  = .ok (.agg #[jp 7 24,fW w.heap.size,.int .u64 130]) (w.alloc (.cells #[fK n] 24)):=by kernel_rfl
def Wn (w:fO):(Rtype.elem? 85).run prog w= .ok (some 24) w:=by kernel_rfl
def afA (p:Addr) (w:fO):(ReflectliteValue.mk 24 p ReflectliteValue.flagAddr).run prog w= .ok (.agg #[jp 7 24,.pointer (some p),.int .u64 386]) w:=by kernel_rfl
def Yk (a p:Addr) (W:fO) (d:W.cell? a=some (.pointer (some p))):
  (ReflectliteValue.method (ReflectliteValue.valueError "reflectlite.Value.Elem" 0) ReflectliteValue.elem #[.agg #[jp 7 85,.pointer (some a),.int .u64 150]]).run prog W
   = .ok (.agg #[jp 7 24,.pointer (some p),.int .u64 386]) W:=by
 rw[dr];simp only[QX,MD,Result.andThen];simp[ReflectliteValue.elem,loadVar,isAgg,underlying,underlying85,d,Result.andThen,Wn,afA]
def dS (v x:gh):ReflectliteValue.set #[v,x]=(do
  let (some (dst,a,fl),some (src,b,_)):=(<-ReflectliteValue.parts v,<-ReflectliteValue.parts x)
   |unsupported (.noEntry "extern/(internal/reflectlite.Value).Set.zeroValue")
  if fl / ReflectliteValue.flagAddr%2==0 then unsupported (.noEntry "extern/(internal/reflectlite.Value).Set.unaddressable")
  let d <-loadVar src b
  if <-Rtype.directlyAssignable dst src then storeVar dst a d
  else if <-Rtype.implements dst src then
   if (<-Rtype.kind src)==20 then
    match d with
    | .nilIface=>unsupported (.noEntry "extern/reflectlite: a nil value of one interface type handed on as a value of another")
    |_=>storeVar dst a d
   else storeVar dst a (.iface src d)
  else panicString ("reflectlite.Set: value of type "++(<-Rtype.spelt src)++ " is not assignable to type "++(<-Rtype.spelt dst))
  pure (.tuple #[])):=rfl
def WW (a:Addr) (w:fO):(ReflectliteValue.parts (.agg #[jp 7 24,.pointer (some a),.int .u64 386])).run prog w= .ok (some (24,a,386)) w:=rfl
def YQ (a:Addr) (w:fO):(ReflectliteValue.parts (.agg #[jp 7 24,.pointer (some a),.int .u64 130])).run prog w= .ok (some (24,a,130)) w:=rfl
def WU (w:fO):(Rtype.directlyAssignable 24 24).run prog w= .ok true w:=by rfl
theorem adI (a b:Addr) (n:Int) (d:gh) (W:fO) (e:W.cell? b=some (fK n)) (k:W.cell? a=some d) (h:W.frozen? a=false):
  (ReflectliteValue.set #[.agg #[jp 7 24,.pointer (some a),.int .u64 386],.agg #[jp 7 24,.pointer (some b),.int .u64 130]]).run prog W
   = .ok (.tuple #[]) (W.setCell a (fK n)):=by
 rw[dS];simp only[QX,WW,YQ,Result.andThen];simp[ReflectliteValue.flagAddr,loadVar,isAgg,underlying,underlying24,e,Result.andThen,WU,storeVar,Value.cells,storeCells,Addr.add];rw[run_store prog W a _ _ rfl]
 grind
abbrev rv (T:Nat) (b:Nat):jB:=#[jp 7 T,fW b,.int .u64 150]
def Ag {P:Program} (w:fO) (d:Nat) {m l : TypeId} {v:Array (String×TypeId)} {i:TypeInfo} {k:IntKind} (a b:Int)
  (o:P.underlying m=some (.interface v)) (u:P.underlying l=some (.int k)) (h:P.info? l=some i) (e:i.comparable=true):
  (Op.equalIn (d+2) m (.iface l (.int k a)) (.iface l (.int k b))).run P w= .ok (a==b) w:=by
 simp[Op.equalIn,pE o,pE u,typeInfo,h,e]
def DC {P:Program} (w:fO) {l h : TypeId} {u:Array (String×TypeId)} {i:TypeInfo} {k:IntKind} (a b:Int)
  (m:P.underlying l=some (.interface u)) (o:P.underlying h=some (.int k)) (e:P.info? h=some i) (d:i.comparable=true):
  (binOp .eql l (.iface h (.int k a)) (.iface h (.int k b))).run P w= .ok (.bool (a==b)) w:=by
 simp only[binOp];simp[Op.equal,Op.maxDepth,Ag w 9998 a b m o e d]
def PZ:jB->Sem gh:=Extern.ReflectliteType.method λt=>do Rtype.noPackHeld "Comparable" t;pure (.bool (<-typeInfo t).comparable)
def GN (w:fO):(PZ #[.agg #[jp 7 24]]).run prog w= .ok (.bool true) w:=by kernel_rfl
def abw:(prog.info? 24).map (·.comparable)=some true:=by kernel_rfl
def errorType (w:fO):Prop:=w.cell? ⟨0,0,none⟩=some (.iface 145 (.agg #[jp 7 59]))
theorem Te (p q:Addr) (w:fO):
  CallsD prog 66 #[.pointer (some p),.pointer (some q)] .returning w λe h w'=>e=oS/\h= .returning/\w'=w:=by
 refine callsD_of_wpS func66 rfl λa k d=>?_;apply wpS_seq;apply wpS_region;simp[wpOpsS,go_sem,recoverD,d,ntmps66,Exit.thenS];refine wpS_cond (t:=false) (by rfl) ?_;simp only[rL,wA];refine wpS_of_wp (wp_skip ?_);cases a
 simp_all[bodyPostS,results,results66]
def rR (h:errorType w) (o:Obj):errorType (w.alloc o):=by
 have:0 < w.heap.size:=by
  rcases EN w.heap.size with d|a
  .simp[errorType,World.cell?,d]at h
  .exact a
 show(w.alloc o).cell? _=_;rw[pR _ _ _ this];exact h
section
variable {P:Program} {ops:Array Oper} {Q:Exit->Act->fO->Prop} {md:Region.Mode}
def jZ {i:Nat} {l:Oper} {k:Nat} {e:Array Bool} {a:Act} {w:fO} (d:Option Tmp) (v:gh) (x:ops[i]?=some l) (o:l.dst=d)
  (A:Region.noSelect ops=true) (u:Region.free md ops e i=true) (z:(Region.ready md ops e).contains i=true)
  (m:∀c a w,Q (.panic c) (a.put d v) w->Q (.panic c) a w) (C:Region.wanted l (yielded ops a.tmps)=true) (B:∀w,(execOp a.eval l).run P w= .ok (.value v) w)
  (h:wpAny P md ops Q k (e.setIfInBounds i true) (a.put d v) w):wpAny P md ops Q (k+1) e a w:=by
 subst o;exact wpAny_take x A u z m (Or.inl ⟨C,B⟩) h
end
def DX (w:fO):
  Calls prog 26 #[.nilIface] w λe w'=>e=gO (.tuple #[fK 0,fK 0])/\Kept [] w w':=by
 go_enter func26,ntmps26;go_wp2;go_ret2;exact⟨rfl,((Kept.refl _ _).alloc _).alloc _⟩
def Je (h:errorType w) (e:Kept S w w') (k:0∉S):errorType w':=by
 have:0 < w.heap.size:=by
  rcases EN w.heap.size with d|a
  .simp[errorType,World.cell?,d]at h
  .exact a
 show w'.cell? _=_;rw[e.cell (p:=⟨0,0,none⟩) this k];exact h
def JF (h:errorType w):errorType w.drew:=h
def tC (a:Int×Int×Int) (d:gh):jB:=#[fK a.1,fK a.2.1,fK a.2.2,d,.bool false,fK 0,.nilIface,iQ,.pointer none]
def XU (d f a:Int):Prop:=4<=d/\d<=64/\1<=f/\f<=32/\1<=a/\a<=16
def ab6 (d f a:Int) (w:fO) (h:XU d f a):
  Calls prog 25 #[fK d,fK f,fK a] w λe w'=>e=gO (.tuple #[fW w.heap.size,.nilIface])/\w'=w.alloc (.cells (tC (d,f,a) (iQ)) 76):=by
 have⟨h1,h2,h3,h4,h5,h6⟩:=h;go_enter func25,ntmps25;go_wp2;go_ret2;exact⟨rfl,rfl⟩
theorem Vb (d f a:Int) (w:fO) (h:XU d f a):
  Calls prog 14 #[fK d,fK f,fK a] w λe w'=>e=gO (.tuple #[fW w.heap.size,fK 0])/\w'.heap[w.heap.size]?=some (fV (tC (d,f,a) (iQ)) 76)/\Kept [] w w':=by
 go_enter func14,ntmps14
 go_wp21
 refine(ab6 d f a _ h).mono ?_;rintro e v ⟨rfl,rfl⟩
 go_wp21
 refine(DX _).mono ?_;rintro e m ⟨rfl,k⟩;have u:Kept [] w m:=((Kept.refl _ _).alloc _).next k (by simp)
 have l:=k.at (fB w _) (by simp);have o:Hid _:=l;go_wp2;go_ret2
 simp_all
def Nk:(prog.info? 5).map (λi=>(i.zero,i.size,i.bytes))=some (some (.int .u8 0),1,1):=by kernel_rfl
def Az (d:Nat) (a:Int×Int×Int) (k:gh) (w:fO) (h:w.heap[d]?=some (fV (tC a k) 76)):
  Calls prog 37 #[fW d] w λe w'=>e=gO (.bool false)/\w'=w:=by
 have l:w.cell? ⟨d,4,none⟩=some (.bool false):=by rw[fw h];rfl
 go_enter func37,ntmps37;go_wp2;go_ret;simp
theorem Wi (o g c:Nat) (a:Int×Int×Int) (B:gh) (s t:fN) (base:Nat) (w:fO) (Y:w.heap[o]?=some (fV (tC a B) 76))
  (X:w.ownsRow base 5 1 B s.size (kD s)) (ht:∀j u,(kD t)[j]?=some u->w.cell? ⟨g,j,none⟩=some u) (hl:s.size+t.size<=1024) (hb:base<=w.heap.size):
  Calls prog 27 #[fW o,mW g t.size c] w λe w'=>e=gO (.tuple #[fK t.size,.nilIface])/\
   ∃x,w'.heap[o]?=some (fV (tC a x) 76)/\w'.ownsRow base 5 1 x (s++t).size (kD (s++t))/\Kept (o::B.ownBlock.toList) w w'/\(x.ownBlock=B.ownBlock\/∀k,x.ownBlock=some k->w.heap.size<=k):=by
 obtain⟨i0,hi,N,O,T⟩:=tL Nk;have V:w.cell? ⟨o,3,none⟩=some B:=by rw[fw Y];rfl
 have J:∃A l,B= .slice A s.size l:=by
  rcases X.2 with⟨rfl,h0⟩|⟨g,l,C,rfl,_⟩
  .grind
  .simp
 obtain⟨A,l,rfl⟩:=J;have F:Hid _:=Y;have U:Hid _:=X;have HT:Hid _:=ht;go_enter func27,ntmps27
 go_wp21
 refine(Az o a _ _ F).mono ?_;rintro e w1 ⟨rfl,rfl⟩;go_wp2_with (at_builtin;refine gQ _ rfl _ _ 55 rfl base 5 i0 (.int .u8 0) 1 1 underlying55 hi N O T rfl (by decide) _ _ _ rfl U ⟨g,0,none⟩ t.size c (kD t) rfl ?V ?c2 ?c3 ?c4 ?c5 hb ?_)
 case V=>simp[kD]
 case c2=>exact λj u h=>by rw[iT];exact HT j u h
 case c3=>exact Tl t
 case c4=>unfold maxLen;omega
 case c5=>omega
 intro v' D m v H;have⟨ao',d,hv⟩:=fS m;subst hv;have I:∀k,(Value.slice A s.size l).ownBlock=some k->k≠o:=by
  intro k z;rcases U.2 with⟨h,_⟩|⟨g',d,C,h,_,hc,_⟩
  .rw[h]at z;cases z
  .rw[h]at z;obtain rfl:=jr z
   grind
 have G:D.heap[o]?=some (fV (tC a (.slice A s.size l)) 76):=by
  rw[v.block o (iB F.out) (λh=>I o h.symm rfl)];exact F
 have d1:D.cell? ⟨o,3,none⟩=some (.slice A s.size l):=by rw[fw G];rfl
 have d2:=fA G 3;have h3:=fI G 3 (.slice ao' (s.size+t.size) d);have h4:(D.setCell ⟨o,3,none⟩ (.slice ao' (s.size+t.size) d)).ownsRow base 5 1 (.slice ao' (s.size+t.size) d) (s++t).size (kD (s++t)):=by
  have K:(s++t).size=s.size+t.size:=ByteArray.size_append;rw[K,KG];refine tG m ?_ _;intro z;rcases m.2 with⟨h,_⟩|⟨g',d,C,h,_,hc,_⟩
  .grind
  .grind
 have h5:Kept (o::(Value.slice A s.size l).ownBlock.toList) w1 (D.setCell ⟨o,3,none⟩ (.slice ao' (s.size+t.size) d)):=
  ((Kept.refl _ _).grown v (λk z=> .inl (by simp[z]))).setCell (.inl (by simp)) _
 have Z:Hid _:=h3;have H4:Hid _:=h4;have HF:Hid _:=H;go_wp2;go_ret2;exact⟨rfl,_,Z,H4,h5,HF⟩
theorem V0 (t:fN) (j:Nat) (u:gh) (h:(kD t)[j]?=some u):∃a:j < t.data.size,u= .int .u8 (t.data[j].toNat:Int):=by
 unfold kD at h
 grind
def Jt (t:fN) (a j:Nat) (u:gh) (h:(kD t)[j]?=some u):(bytesRow t a)[j]?=some u:=by
 obtain⟨d,rfl⟩:=V0 t j u h;exact bytesRow_at t a j d
def BV (t:fN) (a:Nat):t.size<=(bytesRow t a).size:=by
 have:t.data.size=t.size:=rfl;simp[bytesRow,this]
def Bt {m : Nat×Nat} (h:w.heap[b]?=some (.cells c t m)) (j:Nat):w.cell? ⟨b,j,none⟩=c[j]?:=by simp[World.cell?,h]
def LH (h:w.heap[b]?=some (.cells c t (n,n+1))) (j:Nat) (a:j < n):w.frozen? ⟨b,j,none⟩=false:=by
 simp[World.frozen?,h];omega
theorem Dq {m : Nat×Nat} (h:w.heap[b]?=some (.cells c t m)) (j:Nat) (u:gh):(w.setCell ⟨b,j,none⟩ u).heap[b]?=some (.cells (c.setIfInBounds j u) t m):=by
 have a:=iB h;have d:w.heap[b]= .cells c t m:=by simpa [xD a]using h
 show(w.heap.modify b _)[b]?=_
 grind
def Cn (g a d:Nat) (h:jB) (base n:Nat) (e:gh) (xs:List gh) (S:List Nat) (w wr:fO):Prop:=
 (∃C:jB,wr.heap[g]?=some (.cells C 5 (a,a+1))/\C.size=a)/\wr.heap[d]?=some (fV h 76)/\wr.ownsRow base 5 1 e n xs/\Kept S w wr
theorem Cn.store {e a : Nat} {k : jB} {d : gh} {xs : List gh} {wr : fO} (h:Cn g e a k base n d xs S w wr) (m:w.heap.size<=g) (l:a≠g) (o:d.ownBlock≠some g) (j:Nat) (u:gh):
  Cn g e a k base n d xs S w (wr.setCell ⟨g,j,none⟩ u):=by
 have⟨⟨C,hC,hs⟩,hx,ho,hk⟩:=h;refine⟨⟨_,Dq hC j u,by grind⟩,?_,tG ho o u,hk.setCell (.inr m) u⟩;rw[Below.heap_setCell wr ⟨g,j,none⟩ u a l];exact hx
def Cn.cell {a d : Nat} {l : jB} {k : gh} {xs : List gh} {wr : fO} (h:Cn g a d l base n k xs S w wr) (j:Nat) (e:j < a):(∃v,wr.cell? ⟨g,j,none⟩=some v)/\wr.frozen? ⟨g,j,none⟩=false:=by
 have⟨⟨C,hC,hs⟩,_⟩:=h;refine⟨⟨C[j]'(by omega),?_⟩,LH hC j e⟩;rw[Bt hC];simp
theorem Mr (x:Nat) (a:Int×Int×Int) (A:gh) (s t:fN) (base:Nat) (w:fO) (X:w.heap[x]?=some (fV (tC a A) 76))
  (V:w.ownsRow base 5 1 A s.size (kD s)) (hl:s.size+t.size<=1024) (hb:base<=w.heap.size):
  Calls prog 15 #[fW x,fR t] w λe w'=>e=gO (.tuple #[fK t.size,fK 0,.bool true])/\
   ∃d,w'.heap[x]?=some (fV (tC a d) 76)/\w'.ownsRow base 5 1 d (s++t).size (kD (s++t))/\Kept (x::A.ownBlock.toList) w w'/\(d.ownBlock=A.ownBlock\/∀k,d.ownBlock=some k->w.heap.size<=k):=by
 have z:=run_bytes_of_string (P:=prog) w 9 55 5 t underlying9 underlying55 underlying5;obtain⟨B,J⟩:∃B,B=grownCap w t.size 0 5:=⟨_,rfl⟩;rw[<-J]at z;clear J;have U:=BV t B;have Z:=Jt t B;generalize bytesRow t B=R at z U Z;obtain⟨C,m⟩:∃C,C=w.drew.alloc (.cells R 5 (R.size,R.size+1)):=⟨_,rfl⟩;rw[<-m]at z;have Y:C.heap[w.heap.size]?=some (.cells R 5 (R.size,R.size+1)):=by rw[m];exact fB w.drew _
 have T:Kept [] w C:=by rw[m];exact(Kept.refl [] w).drew.alloc _
 have z1:C.heap.size=w.heap.size+1:=by rw[m];show(w.heap.push _).size=_;simp
 clear m;have a0:=iB X;have HX:=V.lt;have x1:=T.at X (by simp);have o1:=T.ownsRow V (λ_ _=>by simp);have I:=Wi x w.heap.size B a A s t base C x1 o1 (λj u h=>by rw[Bt Y];grind) hl (by omega);have HZ:Hid (C.heap.size=w.heap.size+1):=z1;clear z1 x1 o1 X V;go_enter func15,ntmps15
 go_wp21
 refine I.mono ?_;rintro e w2 ⟨rfl,d,N,K,H,G⟩;clear z I
 go_wp21
 refine(DX _).mono ?_;rintro e O ⟨rfl,o⟩;have hS:w.heap.size∉x::A.ownBlock.toList:=by
  simp only[kA,Option.mem_toList,not_or];exact⟨by omega,λh=>by grind⟩
 have D:O.heap[w.heap.size]?=some (.cells R 5 (R.size,R.size+1)):=o.at (H.at Y hS) (by simp);have HT:Cn w.heap.size R.size x (tC a d) base (s++t).size d (kD (s++t)) (x::A.ownBlock.toList) w O:=
  ⟨⟨R,D,rfl⟩,o.at N (by simp),o.ownsRow K (λ_ _=>by simp),((T.mono (by simp)).trans H).trans (o.mono (by simp))⟩
 have HN:d.ownBlock≠some w.heap.size:=by
  rcases G with h|h
  .grind
  .grind
 have HF:d.ownBlock=A.ownBlock\/∀k,d.ownBlock=some k->w.heap.size<=k:=by
  rcases G with h|h
  .exact .inl h
  .grind
 have F:(convert 55 9 (mW w.heap.size t.size B)).run prog O= .ok (fR t) O:=by
  have:=Tu (P:=prog) O 55 9 5 ⟨w.heap.size,0,none⟩ B t.data.toList underlying55 underlying5 underlying9 (λj hj=>by
   rw[iT,Bt D];exact Z j _ (by unfold kD;grind))
  simpa using this
 clear G H o N K D hS T
 go_wp21
 clear F
 go_loopw [33] (λi wr=>∃k:Nat,k<=t.size/\i=fK k/\Cn w.heap.size R.size x (tC a d) base (s++t).size d (kD (s++t)) (x::A.ownBlock.toList) w wr) (λi _=>t.size - (intOf i).toNat)
 case atStart=>grind
 case round=>
  obtain⟨k,hk,rfl,l⟩:=hrel
  by_cases a1:k < t.size
  .have⟨⟨v,hv⟩,hfz⟩:=l.cell k (by omega);have HS:=l.store (gr _) (by omega) HN k (.int .u8 33);go_wp2;go_roundw
   case rel=>exact⟨k+1,by omega,by go_num,HS⟩
   case measure=>simp[intOf];omega
  .go_wp2;go_ret3;exact⟨rfl,d,l.2.1,l.2.2.1,l.2.2.2,HF⟩
structure RC where
 cs:fN
 av:gh
 at_:Int
 mv:gh
 lg:Int
 mV:fN:=⟨#[]⟩
 Zy:Bool:=false
variable {R : RC}
def wx (R:RC) (a ps:Nat):jB:=#[fR R.cs,R.av,fK a,fK ps,fK R.at_,R.mv,fK R.lg,fR R.mV,.bool R.Zy]
def Rd (w:fO) (r:Nat) (R:RC) (a ps:Nat):Prop:=w.heap[r]?=some (fV (wx R a ps) 165)
def Rd.text {a ps : Nat} (h:Rd w r R a ps):w.cell? ⟨r,0,none⟩=some (fR R.cs):=by rw[fw h];rfl
def Rd.fX {a ps : Nat} (h:Rd w r R a ps):w.cell? ⟨r,1,none⟩=some R.av:=by rw[fw h];rfl
def Rd.bg {a ps : Nat} (h:Rd w r R a ps):w.cell? ⟨r,2,none⟩=some (fK a):=by rw[fw h];rfl
def Rd.ps {a ps : Nat} (h:Rd w r R a ps):w.cell? ⟨r,3,none⟩=some (fK ps):=by rw[fw h];rfl
def Rd.mv {a ps : Nat} (h:Rd w r R a ps):w.cell? ⟨r,5,none⟩=some R.mv:=by rw[fw h];rfl
def Rd.lg {a ps : Nat} (h:Rd w r R a ps):w.cell? ⟨r,6,none⟩=some (fK R.lg):=by rw[fw h];rfl
def Rd.mV {a ps : Nat} (h:Rd w r R a ps):w.cell? ⟨r,7,none⟩=some (fR R.mV):=by rw[fw h];rfl
def Rd.Zy {a ps : Nat} (h:Rd w r R a ps):w.cell? ⟨r,8,none⟩=some (.bool R.Zy):=by rw[fw h];rfl
def Rd.free {a ps : Nat} (h:Rd w r R a ps) (j:Nat):w.frozen? ⟨r,j,none⟩=false:=by unfold Rd at h;simp[World.frozen?,h]
def Rd.Mi {d ps : Nat} (h:Rd w r R d ps) (a:Nat):Rd (w.setCell ⟨r,3,none⟩ (fK a)) r R d a:=fI h 3 _
def Rd.afp {d ps : Nat} (h:Rd w r R d ps) (a:Nat):Rd (w.setCell ⟨r,2,none⟩ (fK a)) r R a ps:=fI h 2 _
def Rd.kept {a ps : Nat} (h:Rd w r R a ps) (d:Kept S w w') (e:r∉S):Rd w' r R a ps:=d.at h e
def oQ (r:Nat) (R:RC) (a ps:Nat) (w:fO) (h:Rd w r R a ps):
  Calls prog 87 #[fW r] w λe w'=>e=gO (.bool (decide (ps=R.cs.size)))/\∃q,w'=w.drewN q:=by
 have t:=h.text;have p:=h.ps;generalize R.cs=s at t
 by_cases e:ps=s.size
 .subst e;go_enter func87,ntmps87
  go_wp21
  go_quiet (fail)
  go_wp2;go_ret;exact⟨by simp,⟨_,rfl⟩⟩
 .have d:((ps:Int)==(s.size:Int))=false:=beq_eq_false_iff_ne.2 (by omega);go_enter func87,ntmps87
  go_wp21
  go_quiet (fail)
  go_wp2;go_ret;exact⟨by simp[e],⟨_,rfl⟩⟩
def wm (r:Nat) (R:RC) (a ps:Nat) (w:fO) (h:Rd w r R a ps) (d:ps<=R.cs.size) (_hs:R.cs.size<=1024):
  Calls prog 160 #[fW r] w λe w'=>e=gO (fR (R.cs.extract ps R.cs.size))/\∃q,w'=w.drewN q:=by
 have t:=h.text;have p:=h.ps;generalize R.cs=s at *;go_enter func160,ntmps160
 go_wp21
 go_quiet (fail)
 go_wp2;go_ret;exact⟨rfl,⟨_,rfl⟩⟩
def JH (c:Int) (w:fO) (l:0<=c) (m:c<=255):
  Calls prog 162 #[.int .u8 c] w λe w'=>e=gO (.bool (decide (97<=c/\c<=122\/65<=c/\c<=90)))/\w'=w:=by
 by_cases a:97<=c<;>by_cases d:c<=122<;>by_cases h:65<=c<;>by_cases k:c<=90
 all_goals first|(exfalso;omega)|skip
 all_goals (go_enter func162,ntmps162;go_wp2;go_ret;exact⟨by first|(simp;done)|(simp;omega),rfl⟩)
def pre (s p:fN):Bool:=decide (p.size<=s.size)&&((s.extract 0 p.size).toList==p.toList)
def JI (s p:fN) (w:fO) (d:s.size<=1048576) (a:p.size<=1048576):
  Calls prog 252 #[fR s,fR p] w λe w'=>e=gO (.bool (pre s p))/\w'=w:=by
 by_cases h:p.size<=s.size
 .go_enter func252,ntmps252;go_wp2;go_ret;exact⟨by simp[pre,h],rfl⟩
 .go_enter func252,ntmps252;go_wp2;go_ret;exact⟨by simp[pre,h],rfl⟩
def uA (s p:fN) (w:fO) (d:s.size<=1048576) (a:p.size<=1048576):
  Calls prog 159 #[fR s,fR p] w λe w'=>e=gO (.bool (pre s p))/\w'=w:=by
 go_enter func159,ntmps159
 go_wp21
 refine(JI s p w d a).mono ?_;rintro e w' ⟨rfl,rfl⟩;go_wp2;go_ret;simp
theorem Fa (h:pre s p=true):p.size<=s.size:=by
 unfold pre at h;grind
def kQ {ps : Nat} (h:pre (s.extract ps s.size) p=true) (a:ps<=s.size):ps+p.size<=s.size:=by
 have:=Fa h;simp at this;omega
def taken (R:RC) (p:fN) (ps:Nat):Nat:=if pre (R.cs.extract ps R.cs.size) p=true then ps+p.size else ps
def Qn {ps : Nat} (h:ps<=R.cs.size):taken R p ps<=R.cs.size:=by
 unfold taken;split
 .rename_i a;exact kQ a h
 omega
theorem OW {ps : Nat}:ps<=taken R p ps:=by grind[taken]
def jb (r:Nat) (R:RC) (d ps:Nat) (s:fN) (w:fO) (h:Rd w r R d ps) (k:ps<=R.cs.size) (m:R.cs.size<=1024) (x:s.size<=1024):
  Calls prog 91 #[fW r,fR s] w λe w'=>e=gO (.bool (pre (R.cs.extract ps R.cs.size) s))/\Kept [r] w w'/\Rd w' r R d (taken R s ps):=by
 have H:=h
 by_cases e:pre (R.cs.extract ps R.cs.size) s=true
 .have v:=kQ e k;have a:taken R s ps=ps+s.size:=by unfold taken;rw[fU e]
  rw[a];go_enter func91,ntmps91
  go_wp21
  refine(wm r R d ps w H k m).mono ?_;rintro e w' ⟨rfl,q,rfl⟩
  go_wp21
  refine(uA _ s _ (by simp;omega) (by omega)).mono ?_;rintro e w' ⟨rfl,rfl⟩;have p:(w.drewN q).cell? ⟨r,3,none⟩=some (fK ps):=H.ps;have z:=H.free 3;have o:Hid (Kept [r] w ((w.drewN q).setCell ⟨r,3,none⟩ (fK ((ps+s.size:Nat))))):=((Kept.refl [r] w).drewN q).setCell (.inl (by simp)) _;have u:Hid (Rd ((w.drewN q).setCell ⟨r,3,none⟩ (fK ((ps+s.size:Nat)))) r R d (ps+s.size)):=Rd.Mi (w:=w.drewN q) H _;rw[e];go_wp2;go_ret;exact⟨by rw[e];rfl,o,u⟩
 .have a:taken R s ps=ps:=by unfold taken;rw[gn e]
  rw[a];have l:pre (R.cs.extract ps R.cs.size) s=false:=by simpa using e
  go_enter func91,ntmps91
  go_wp21
  refine(wm r R d ps w H k m).mono ?_;rintro e w' ⟨rfl,q,rfl⟩
  go_wp21
  refine(uA _ s _ (by simp;omega) (by omega)).mono ?_;rintro e w' ⟨rfl,rfl⟩;rw[l];go_wp2;go_ret;exact⟨by rw[l];rfl,(Kept.refl [r] w).drewN q,H⟩
def scan (q:Int->Bool) (s:fN) (i:Nat):Nat:=if h:i < s.size then (if q (bt s i)then i else scan q s (i+1))else i
  termination_by s.size - i
theorem Ex (h:s.size<=i):scan q s i=i:=by grind[scan]
theorem JD (h:q (bt s i)=true):scan q s i=i:=by grind[scan]
theorem NI (a:i < s.size) (h:q (bt s i)=false):scan q s i=scan q s (i+1):=by grind[scan]
def sZ:i<=scan q s i:=by
 fun_induction scan q s i with
 |case1=>omega
 |case2=>omega
 |case3=>omega
def pt (h:i<=s.size):scan q s i<=s.size:=by
 fun_induction scan q s i with
 |case1=>omega
 |case2 _ _ _ ih=>omega
 |case3=>omega
theorem aaC:scan q s i < s.size->q (bt s (scan q s i))=true:=by
 fun_induction scan q s i with
 |case1 _ _ h=>grind
 |case2 _ _ _ ih=>exact ih
 |case3 _ h=>omega
structure Vm (w:fO) (S:List Nat) (k:Nat) (caps:jB) (q:Int->Bool):Prop where
 fp:∀(args:jB) (w:fO),(callFunc k args).run prog w= .ok (.enter k args) w
 ask:∀(c:Int) (w':fO),0<=c->c<=255->Kept S w w'->Calls prog k (#[.int .u8 c]++caps) w' λe w''=>e=gO (.bool (q c))/\∃n,w''=w'.drewN n
theorem Qp (r:Nat) (R:RC) (d ps:Nat) (k:Nat) (a:jB) (q:Int->Bool) (w:fO) (h:Rd w r R d ps) (J:ps<=R.cs.size) (U:R.cs.size<=1024) (K:Vm w [r] k a q):
  Calls prog 258 #[fW r,.func (.func k) #[] a] w λe w'=>e=gO (fR (R.cs.extract ps (scan q R.cs ps)))/\Kept [r] w w'/\Rd w' r R d (scan q R.cs ps):=by
 have u:=K;have V:=h.ps;have H:=h;have A:=get_bt R.cs;have G:=u.fp;go_enter func258,ntmps258
 go_wp21
 go_loopw [] (λwr=>∃i:Nat,ps<=i/\i<=R.cs.size/\scan q R.cs i=scan q R.cs ps/\Rd wr r R d i/\Kept [r] w wr) (λwr=>R.cs.size - (match wr.cell? ⟨r,3,none⟩with|some v=>(intOf v).toNat|none=>0))
 case atStart=>exact⟨ps,gr _,J,rfl,H,Kept.refl _ _⟩
 case round=>
  have⟨i,hi0,hi1,hsc,HR,HKW⟩:=hrel;have t:=HR.text;have p:=HR.ps;have O:=HR.free 3
  by_cases e:i=R.cs.size
  .have C:=(λw' (h:Rd w' r R d i)=>oQ r R d i w' h);have e2:scan q R.cs ps=i:=by rw[<-hsc];exact Ex (by omega)
   have z:decide (i=R.cs.size)=true:=by simp[e]
   rw[e2];rw[z]at C
   go_wp21
   go_quiet ((go_at_call 87;refine xS (C _ ?_);exact HR))
   go_wp21
   go_quiet (fail)
   go_wp2;go_ret;exact⟨by rw[e2,e];rfl,((HKW.drewN _).drewN _),by rw[e2];exact HR⟩
  .have m:i < R.cs.size:=by omega
   have C:=(λw' (h:Rd w' r R d i)=>oQ r R d i w' h);have z:decide (i=R.cs.size)=false:=by simp[e]
   rw[z]at C;have T:=A i m;have B:=bt_nonneg R.cs i;have F:=bt_le R.cs i
   by_cases l:q (bt R.cs i)=true
   .have e2:scan q R.cs ps=i:=by rw[<-hsc];exact JD l
    rw[e2];have D:=(λw' h=>u.ask (bt R.cs i) w' B F h);rw[l]at D
    go_wp21
    go_quiet (first|(go_at_call 87;refine xS (C _ ?_);exact HR)|(refine xS (D _ ?_);exact HKW.drewN _))
    go_wp21
    go_quiet (fail)
    go_wp2;go_ret;exact⟨by rw[e2];rfl,((HKW.drewN _).drewN _),by rw[e2];exact HR⟩
   .have o:q (bt R.cs i)=false:=by simpa using l
    have HS:scan q R.cs (i+1)=scan q R.cs ps:=by rw[<-hsc,NI m o]
    have D:=(λw' h=>u.ask (bt R.cs i) w' B F h);rw[o]at D
    go_wp21
    go_quiet (first|(go_at_call 87;refine xS (C _ ?_);exact HR)|(refine xS (D _ ?_);exact HKW.drewN _))
    have x:=Rd.Mi (w:=wr.drewN nq) HR (i+1);have I:=(HKW.drewN nq).setCell (p:=⟨r,3,none⟩) (.inl (by simp)) (fK ((i+1:Nat)));go_wp2;go_roundw
    case rel=>grind
    case measure=>
     have N:=x.ps;rw[show((i:Int)+1)=((i+1:Nat):Int)from by omega,N,p];simp[intOf];omega
def iV (s:fN) (c:Int):Bool:=decide (0<=Lib.indexByte s.data.toList c.toNat.toUInt8)
def Yh (s:fN) (c:Int):iV s c=s.data.toList.contains c.toNat.toUInt8:=by rw[Lib.contains_iff_indexByte];rfl
def af5 {c : Int} (a:0<=c) (d:c<=255) {x:UInt8} (h:c.toNat.toUInt8=x):c=(x.toNat:Int):=by
 have:=ri UInt8.toNat h;simp at this;omega
def ZU {c : Int} (a:0<=c) (d:c<=255) (h:iV ir c=true):c=62:=by
 rw[Yh]at h;simp at h;exact af5 a d h
def Jy (b:Nat) (s:fN) (c:Int) (w:fO) (h:w.cell? ⟨b,0,none⟩=some (fR s)):
  Calls prog 260 #[.int .u8 c,fW b] w λe w'=>e=gO (.bool (iV s c))/\w'=w:=by
 have C:=Tryz.strings_IndexByte s c w;go_enter func260,ntmps260
 go_wp21
 refine C.mono ?_;rintro e w' ⟨rfl,rfl⟩;generalize hx:Lib.indexByte s.data.toList c.toNat.toUInt8=x;have d:iV s c=decide (0<=x):=by unfold iV;rw[hx]
 have a:=fx d;clear d
 by_cases e:0<=x
 .go_wp2;go_ret;exact⟨by rw[a.out];simp[e],rfl⟩
 .go_wp2;go_ret;exact⟨by rw[a.out];simp[e],rfl⟩
def Dm (w:fO) (S:List Nat) (b:Nat) (s:fN) (h:w.cell? ⟨b,0,none⟩=some (fR s)) (l:b < w.heap.size) (k:b∉S):Vm w S 260 #[fW b] (iV s) where
 fp:=enters_of func260 (by rfl) rfl
 ask c w' _ _ hk:=(Jy b s c w' ((hk.cell (p:=⟨b,0,none⟩) l k).trans h)).mono λe m ⟨a,d⟩=>⟨a,0,d⟩
def nQ (s:fN) (w:fO):
  Calls prog 168 #[fR s] w λe w'=>e=gO (.func (.func 260) #[] #[fW w.heap.size])/\w'=w.alloc (.cells #[fR s] 9):=by
 have h:∀(d:Fn) (first a:jB) (w:fO),(Instr.makeFunc d first a).run prog w= .ok (.func d first a) w:=λ_ _ _ _=>rfl;go_enter func168,ntmps168;go_wp2;go_ret;simp
def Ri (w:fO) (S:List Nat):Vm w S 162 #[] (λc=>decide (97<=c/\c<=122\/65<=c/\c<=90)) where
 fp:=enters_of func162 (by rfl) rfl
 ask c w' h0 a _:=(JH c w' h0 a).mono λe h ⟨a,d⟩=>⟨a,0,d⟩
def XL (b a:Nat) (s:fN) (c:Int) (w:fO) (h:w.cell? ⟨b,0,none⟩=some (fR s)) (d:w.cell? ⟨a,0,none⟩=some (.func (.func 260) #[] #[fW b])):
  Calls prog 341 #[.int .u8 c,fW a] w λe w'=>e=gO (.bool (!iV s c))/\w'=w:=by
 have C:=Jy b s c w h;generalize iV s c=x at C|-;go_enter func341,ntmps341
 go_wp21
 refine C.mono ?_;rintro e w' ⟨rfl,rfl⟩;cases x
 .go_wp2;go_ret;simp
 .go_wp2;go_ret;simp
def X2 (w:fO) (S:List Nat) (b a:Nat) (s:fN) (h:w.cell? ⟨b,0,none⟩=some (fR s)) (d:w.cell? ⟨a,0,none⟩=some (.func (.func 260) #[] #[fW b])) (u:b < w.heap.size) (o:b∉S) (l:a < w.heap.size) (k:a∉S):Vm w S 341 #[fW a] (λc=>!iV s c) where
 fp:=enters_of func341 (by rfl) rfl
 ask c w' _ _ hk:=(XL b a s c w' ((hk.cell (p:=⟨b,0,none⟩) u o).trans h) ((hk.cell (p:=⟨a,0,none⟩) l k).trans d)).mono λe v ⟨m,d⟩=>⟨m,0,d⟩
def abG (f:Fn) (x y:jB) (w:fO):
  Calls prog 304 #[.func f x y] w λe w'=>e=gO (.func (.func 341) #[] #[fW w.heap.size])/\w'=w.alloc (.cells #[.func f x y] 224):=by
 have h:∀(d:Fn) (first a:jB) (w:fO),(Instr.makeFunc d first a).run prog w= .ok (.func d first a) w:=λ_ _ _ _=>rfl;go_enter func304,ntmps304;go_wp2;go_ret;simp
theorem vG (r:Nat) (R:RC) (v ps:Nat) (s:fN) (w:fO) (h:Rd w r R v ps) (O:ps<=R.cs.size) (T:R.cs.size<=1024):
  Calls prog 256 #[fW r,fR s] w λe w'=>e=oS/\Kept [r] w w'/\Rd w' r R v (scan (λc=>!iV s c) R.cs ps):=by
 have V:=iB h;have H:=h;clear h;obtain⟨k,a⟩:∃k,k=w.alloc (.cells #[fR s] 9):=⟨_,rfl⟩;obtain⟨l,d⟩:∃l,l=k.alloc (.cells #[.func (.func 260) #[] #[fW w.heap.size]] 224):=⟨_,rfl⟩;have G:k.heap.size=w.heap.size+1:=by rw[a];simp
 have U:l.heap.size=w.heap.size+2:=by rw[d];simp[G]
 have B:k.heap[w.heap.size]?=some (fV #[fR s] 9):=by rw[a];exact fB w _
 have F:Kept [r] w k:=by rw[a];exact(Kept.refl _ _).alloc _
 have m:Kept [] k l:=by rw[d];exact(Kept.refl _ _).alloc _
 have N:l.heap[k.heap.size]?=some (fV #[.func (.func 260) #[] #[fW w.heap.size]] 224):=by rw[d];exact fB k _
 have A:=m.at B (by simp);have o:Rd l r R v ps:=by rw[d,a];exact(((Kept.refl [] w).alloc _).alloc _).at H (by simp)
 have I:Kept [r] w l:=F.trans (m.mono (by simp));have D:Vm l [r] 341 #[fW k.heap.size] (λc=>!iV s c):=
  X2 l [r] w.heap.size k.heap.size s (by simp_all) (by simp_all) (by omega) (by grind) (by omega) (by grind)
 have C:=Qp r R v ps _ _ _ l o O T D;have x:=fx a;have z:=fx d;clear D o A N m F B G U a d;go_enter func256,ntmps256
 go_wp21
 refine(nQ s w).mono ?_;rintro e w' ⟨rfl,rfl⟩;rw[<-x.out]
 go_wp21
 refine(abG _ _ _ k).mono ?_;rintro e w' ⟨rfl,rfl⟩;rw[<-z.out]
 go_wp21
 refine C.mono ?_;rintro e X ⟨rfl,u,K⟩;have J:=I.trans u;clear u;go_wp2;go_end0
 grind
structure Lz (w:fO) (r:Nat) (R:RC) (g cap:Nat) (cut:Nat->Nat):Prop where
 av:R.av=mW g (R.cs.size+1) cap
 ne:g≠r
 lt:g < w.heap.size
 at_:∀i,i<=R.cs.size->w.cell? ⟨g,i,none⟩=some (fK (cut i))
def Lz.kept {a : Nat} {d : Nat->Nat} (h:Lz w r R g a d) (e:Kept [r] w w'):Lz w' r R g a d:=
 ⟨h.av,h.ne,lz h.lt e.size,λi k=>(e.cell (p:=⟨g,i,none⟩) h.lt (by simp[h.ne])).trans (h.at_ i k)⟩
def pN (r:Nat) (R:RC) (k ps g m:Nat) (d:Nat->Nat) (w:fO) (h:Rd w r R k ps) (l:Lz w r R g m d) (o:k<=R.cs.size) (u:ps<=R.cs.size) (D:R.cs.size<=1024):
  Calls prog 88 #[fW r] w λe w'=>e=gO (.agg #[fK (d k),fK (d ps)])/\Kept [] w w':=by
 have a:=h.fX;rw[l.av]at a;have p:=h.ps;have b:=h.bg;have z:=l.at_ k o;have A:=l.at_ ps u;have C:=iB h;have B:=l.lt;generalize R.cs.size=n at *;generalize d k=x at *;generalize d ps=y at *;go_enter func88,ntmps88
 go_wp21
 go_region
 all_goals (try go_wp2)
 refine nK (v:= .agg #[fK x,fK y]) ?_ rfl ⟨rfl,((Kept.refl [] w).alloc _).drew⟩;simp[results,results88,asAddr,Result.andThen,go_sem]
theorem aar {d : Nat} {a b : Int} {e : fO} (h:Kept [r] w e) (k:Rd e r R d (d+1)) (q:Kept [] e W) (g:W.heap[w.heap.size]?=some (fV #[fK 0,fK 0,fR js] 188)) (m:r≠w.heap.size):
  Kept [r] w (((W.setCell ⟨w.heap.size,0,none⟩ (fK a)).setCell ⟨w.heap.size,1,none⟩ (fK b)).setCell ⟨w.heap.size,2,none⟩ (fR s))/\Rd (((W.setCell ⟨w.heap.size,0,none⟩ (fK a)).setCell ⟨w.heap.size,1,none⟩ (fK b)).setCell ⟨w.heap.size,2,none⟩ (fR s)) r R d (d+1)/\(((W.setCell ⟨w.heap.size,0,none⟩ (fK a)).setCell ⟨w.heap.size,1,none⟩ (fK b)).setCell ⟨w.heap.size,2,none⟩ (fR s)).heap[w.heap.size]?=some (fV #[fK a,fK b,fR s] 188):=by
 have l:Kept [w.heap.size] W (((W.setCell ⟨w.heap.size,0,none⟩ (fK a)).setCell ⟨w.heap.size,1,none⟩ (fK b)).setCell ⟨w.heap.size,2,none⟩ (fR s)):=(((Kept.refl [w.heap.size] W).setCell (.inl (by simp)) _).setCell (.inl (by simp)) _).setCell (.inl (by simp)) _;refine⟨?_,(k.kept q (by simp)).kept l (by grind),fI (fI (fI g 0 _) 1 _) 2 _⟩;exact((((h.trans (q.mono (by simp))).setCell (.inr (gr _)) _).setCell (.inr (gr _)) _).setCell (.inr (gr _)) _)
def Es (r:Nat) (R:RC) (a ps g A:Nat) (d:Nat->Nat) (w:fO) (h:Rd w r R a ps) (O:Lz w r R g A d) (F:a < R.cs.size) (hs:R.cs.size<=1024):
  Calls prog 157 #[fW r] w λe w'=>e=gO (.agg #[fK (d a),fK (d (a+1)),fR (R.cs.extract a (a+1))])/\Kept [r] w w'/\Rd w' r R a (a+1):=by
 have b:=h.bg;have p:=h.ps;have fz:=h.free 3;have hr:=iB h;obtain⟨z,U⟩:∃z,z=Obj.cells #[fK 0,fK 0,fR js] 188 (0,0):=⟨_,rfl⟩;obtain⟨l,k⟩:∃l,l=(w.setCell ⟨r,3,none⟩ (fK ((a+1:Nat)))).alloc z:=⟨_,rfl⟩;have K:Kept [r] w l:=by rw[k];exact((Kept.refl [r] w).setCell (.inl (by simp)) _).alloc _
 have N:Rd l r R a (a+1):=by rw[k];exact((Kept.refl [] _).alloc z).at (h.Mi (a+1)) (by simp)
 have V:l.heap[w.heap.size]?=some z:=by rw[k];have:=fB (w.setCell ⟨r,3,none⟩ (fK ((a+1:Nat)))) z;rwa [World.size_setCell]at this
 have C:=fx (λW (X:Kept [] l W)=>pN r R a (a+1) g A d W (N.kept X (by simp)) ((O.kept K).kept (X.mono (by simp))) (by omega) (by omega) hs);have HA:=fx O;have H:=fx K;have m:=fx N;have G:=fx V;have HZ:=fx U;have J:=fx (show(w.setCell ⟨r,3,none⟩ (fK ((a:Int)+1))).alloc (fV #[fK 0,fK 0,fR js] 188)=l from by rw[k,U];congr 1);clear h O K N V k U;go_enter func157,ntmps157
 go_wp21
 rw[J.out];have I:=fx (show r≠w.heap.size by omega);clear b p fz hr;refine uN (by rfl) ?_;refine pJ (λ(g:Unit) z=>⟨#[fW r,undef,fW w.heap.size,fW r,fW r,fW r,jp r 2,fK a,fK ((a:Int)+1),fW r,jp r 3,cd z 0 (fW r),cd z 1 (.agg #[fK (d a),fK (d (a+1))]),cd z 2 (fW r),cd z 3 (fW r),cd z 4 (fW r),cd z 5 (fR R.cs),cd z 6 (fW r),cd z 7 (fW r),cd z 8 (jp r 2),cd z 9 (fK a),cd z 10 (fW r),cd z 11 (fW r),cd z 12 (jp r 3),cd z 13 (fK ((a:Int)+1)),cd z 14 (fR (R.cs.extract a (a+1))),cd z 15 (.agg #[fK (d a),fK (d (a+1)),fR (R.cs.extract a (a+1))])],[]⟩) (λg z W=>if dn z 16=true then (Kept [r] w W/\Rd W r R a (a+1)/\W.heap[w.heap.size]?=some (fV #[fK (d a),fK (d (a+1)),fR (R.cs.extract a (a+1))] 188))else Kept [] l W) 17 [[],[0],[],[2],[3],[4],[],[6],[7],[8],[],[10],[11],[12],[5,9,13],[1,14],[0,1,2,3,4,5,6,7,8,9,10,11,12,13,14,15]] (()) rfl rfl ((Kept.refl [] l).drew) ?_ ?_
 .repeat' first|exact mO|refine mJ ?_ ?_
  all_goals
   rintro g z W D x hn;simp[Dd]at x;refine jE rfl ?_;intro K' u;simp only[kY,x];have F:dn z 16=false:=by simp[x,hn]
   have q:Kept [] l W:=by simpa [F]using D
   have c0:=(m.out.kept q (by simp)).text;have c2:=(m.out.kept q (by simp)).bg;have c3:=(m.out.kept q (by simp)).ps;have Y:=fx (C.out W q);have o:=q.at (G.out.trans (ri some HZ.out)) (by simp);have q0:W.cell? ⟨w.heap.size,0,none⟩=some (fK 0):=by rw[fw o];rfl
   have q1:W.cell? ⟨w.heap.size,1,none⟩=some (fK 0):=by rw[fw o];rfl
   have q2:W.cell? ⟨w.heap.size,2,none⟩=some (fR js):=by rw[fw o];rfl
   have z0:=fA o 0;have z1:=fA o 1;have z2:=fA o 2;go_simp
   try (rw[fU (by omega),fU (by omega)];go_simp)
   first
   |refine u _ _ ⟨g,?_,by simpa [oH,F]using q⟩
   |refine Y.out.mono ?_;rintro e W2 ⟨rfl,T⟩;refine u _ _ ⟨g,?_,by simpa [oH,F]using q.trans T⟩
   |refine u _ _ ⟨g,?_,(fU rS).mpr (aar H.out m.out q o I.out)⟩
   simp[oG,vC,kY,x]
 .rintro g W D;simp only[vn];rw[fU xZ]at D;have⟨h1,h2,h3⟩:=D;have Z:=fx h1;have H2:=fx h2;have H3:=fx h3;clear h1 h2 h3;rename_i KK B;refine B _ _ ?_;clear B KK;go_wp2;refine nK (v:= .agg #[fK (d a),fK (d (a+1)),fR (R.cs.extract a (a+1))]) ?_ rfl ⟨rfl,Z.out,H2.out⟩;have x:=fw H3.out;simp[results,results157,asAddr,Result.andThen,go_sem,x]
def WG (r:Nat) (R:RC) (a ps:Nat) (w:fO) (h:Rd w r R a ps) (d:R.mV=⟨#[]⟩):
  Calls prog 89 #[fW r] w λe w'=>e=gO (.bool false)/\Kept [] w w':=by
 have o:=h.mV;rw[d]at o;have k:=iB h;go_enter func89,ntmps89;go_wp2;go_ret;exact⟨rfl,Kept.refl _ _⟩
theorem OX (c:jB) (o i:Nat) (a:List gh) (h:o+a.length<=c.size) (d:i < o\/o+a.length<=i):(iY c o a)[i]?=c[i]?:=by
 rw[<-Uf,jX _ _ _ h,<-Uf]
 grind
theorem SP (c:jB) (o k:Nat) (a:List gh) (h:o+a.length<=c.size) (d:k < a.length):(iY c o a)[o+k]?=a[k]?:=by
 rw[<-Uf,jX _ _ _ h]
 grind
def agf:Tryz.zeroCells180[188]?=some (iQ):=by kernel_rfl
def agd:Tryz.zeroCells180[189]?=some (iQ):=by kernel_rfl
def aga:Tryz.zeroCells180[190]?=some (.pointer none):=by kernel_rfl
def af8:Tryz.zeroCells180[191]?=some (.pointer none):=by kernel_rfl
def agb:Tryz.zeroCells180[192]?=some (fK 0):=by kernel_rfl
def z193:Tryz.zeroCells180[193]?=some (fK 0):=by kernel_rfl
def z194:Tryz.zeroCells180[194]?=some (iQ):=by kernel_rfl
def agj:Tryz.zeroCells180[195]?=some (.bool false):=by kernel_rfl
def z196:Tryz.zeroCells180[196]?=some (.bool false):=by kernel_rfl
def ago:Tryz.zeroCells180[197]?=some (fK 0):=by kernel_rfl
def z198:Tryz.zeroCells180[198]?=some (.bool false):=by kernel_rfl
def TP (bs bm a r:Nat) (C:jB) (R:RC) (d ps:Nat) (e:fO):Env:={bm:=bm,bB:=a,bR:=r,C0:=C,R0:=wx R d ps,Gv:=7,w0:=e,tv:=iQ,ta:=[],bs:=bs}
def PM (R:RC) (a ps:Nat) (s:fN) (b:Bool) (e:s=R.mV) (d:b=R.Zy):((wx R a ps).setIfInBounds 7 (fR s)).setIfInBounds 8 (.bool b)=wx R a ps:=by
 subst e d;rfl
theorem XG {d f a x : Nat} {e : Al} (h:(S0 d f a x).gF i=some e):e=⟨⟨#[]⟩,[],none,[]⟩:=by
 have:=Ab.iX h
 match i,this with
 |0,this=>
  have k:some (Cd.el ⟨⟨#[]⟩,[],none,[]⟩)=some (.el e):=this
  grind
 |i+1,this=>simp[S0]at this
def afM (d f a x:Nat):Wf (S0 d f a x) where
 fQ:=λx l=>by cases l
 act:=λx l=>by cases l
 head:=rfl
 form:=rfl
 iJ:=λi e h=>by rw[XG h];rfl
 kids:=λi e h k m=>by rw[XG h]at m;cases m
 vc:=rfl
def aeF (bs bm O u r:Nat) (d f a:Nat) (w W:fO) (R:RC) (A:ad6 bm O u d f a (.func (.func 55) #[fW r] #[]) w W) (hR:Rd W r R 0 0) (ho:R.mV=⟨#[]⟩) (hp:R.Zy=false) (hd:d<=64) (hf:f<=32) (ha:a<=16) (x:bs<=w.heap.size) (K:bs<=r):
  ∃C T,T 0=u/\RF (TP bs bm O r C R 0 0 W) T (S0 d f a 0) W:=by
 have⟨c6,cs,v1,v2,v3,hb,hc6,hru,U,V,X⟩:=A.gR;have I:=hru.1;have J:c6.size=199:=by rw[hc6];simp[BX,rV]
 have H:4+cs.length<=c6.size:=by rw[I,J];decide
 have l:∀i,i < 4\/184<=i->(iY c6 4 cs)[i]?=c6[i]?:=λi m=>OX c6 4 i cs H (by omega);have o:∀i,188<=i->(iY c6 4 cs)[i]?=Tryz.zeroCells180[i]?:=λi m=>by
  rw[l i (.inr (by omega)),hc6];simp only[zR];rw[gn (by omega),gn (by omega),gn (by omega),xA _ _ _ _ _ _ _ (by omega) (by omega)]
 have a0:u < W.heap.size:=iB A.vc;refine⟨iY c6 4 cs,λi=>if i=0 then u else W.heap.size+i,rfl,⟨⟨_,λ_=> .slice none 0 0,λ_=> .slice none 0 0,iQ,iQ,iQ⟩,rfl,?_⟩⟩;have low:∀i v,i < 4->c6[i]?=some v->(iY c6 4 cs)[i]?=some v:=λi v m h=>(l i (.inl m)).trans h;have c0:c6[0]?=some (fK d):=by
  rw[hc6];simp[my,zR,rV]
 have c1:c6[1]?=some (fK f):=by
  rw[hc6];simp[my,zR,rV]
 have c2:c6[2]?=some (fK a):=by
  rw[hc6];simp[my,zR,rV]
 have c3:c6[3]?=some (.func (.func 55) #[fW r] #[]):=by
  rw[hc6];simp[my,zR,rV]
 have B:(iY c6 4 cs)[184]?=some v1:=by
  rw[l _ (.inr (by omega)),hc6];simp[my,zR,rV]
 have D:(iY c6 4 cs)[185]?=some v2:=by
  rw[l _ (.inr (by omega)),hc6];simp[my,zR,rV]
 have F:(iY c6 4 cs)[186]?=some v3:=by
  rw[l _ (.inr (by omega)),hc6];simp[my,zR,rV]
 have G:(iY c6 4 cs)[187]?=some (gV u):=by
  rw[l _ (.inr (by omega)),hc6];simp[my,zR,rV]
 exact
  {fr:=Fr.refl _
   env:={Gp:=⟨cs,λk hk=>SP c6 4 k cs H (by omega),hru⟩,fq:=low 3 _ (by decide) c3,spec:=⟨v1,B,U⟩,Wx:=⟨v2,D,V⟩,VV:=⟨v3,F,X⟩,vc:=G}
   rY:=⟨low 0 _ (by decide) c0,low 1 _ (by decide) c1,low 2 _ (by decide) c2,hd,hf,ha⟩
   rP:=λi Z m=>by
    match i,m with
    |0,m=>
     have e:Z= .el ⟨⟨#[]⟩,[],none,[]⟩:=by
      have:some (Cd.el ⟨⟨#[]⟩,[],none,[]⟩)=some Z:=m;exact(jr this).symm
     subst e;exact⟨⟨A.vc,oD _ _ _ _,im _,⟨_,_,_,rfl⟩⟩,oD _ _ _ _,im _⟩
    |i+1,m=>simp[S0]at m
   inj:=λi j h=>by
    have h':(if i=0 then u else W.heap.size+i)=(if j=0 then u else W.heap.size+j):=h
    by_cases m:i=0<;>by_cases Y:j=0<;>simp only[m,Y,↓reduceIte]at h'|- <;>omega
   xv:=λi j g m Y a2 z=>by simp[Value.ownBlock]at z
   Ak:=λi m he=>rfl
   uq:=λi j e g U V X h4 h5=>by simp[Value.ownBlock]at h5
   Ad:=λi m he=>rfl
   wf:=afM d f a 0
   gR:=⟨_,hb,{size:=by rw[jd];exact J,low:=λi m=>rfl,fQ:=(o 188 (by omega)).trans agf,act:=(o 189 (by omega)).trans agd,head:=(o 190 (by omega)).trans aga,form:=(o 191 (by omega)).trans af8,mode:=(o 192 (by omega)).trans agb,kept:=(o 193 (by omega)).trans z193,wait:=(o 194 (by omega)).trans z194,xU:=(o 195 (by omega)).trans agj,iP:=(o 196 (by omega)).trans z196,gp:=(o 197 (by omega)).trans ago,behind:=(o 198 (by omega)).trans z198}⟩
   nM:=oD _ _ _ _
   oE:=oD _ _ _ _
   Cg:=λg z=>by simp[Value.ownBlock]at z
   ve:=im _
   Bx:=im _
   nN:=oD _ _ _ _
   BK:=im _
   rd:=by
    show W.heap[r]?=some (.cells (((wx R 0 0).setIfInBounds 7 (fR js)).setIfInBounds 8 (.bool false)) _ _);rw[PM R 0 0 _ _ ho.symm hp.symm];exact hR
   BH:=by show 7+1 < 9;decide
   tok:=oD _ _ _ _
   Av:=im _
   bz:=jC x A.k.size
   bB:=jC x A.new
   bR:=K
   bN:=λi m=>by
    have a1:i < 1:=m;have:i=0:=by omega
    subst this;exact jC x A.agk
   yJ:=λh=>by simp[S0]at h
   ab:=λi g m z=>by simp[Value.ownBlock]at z
   tb:=λg z=>by
    have N:(iQ).ownBlock=some g:=z;simp[Value.ownBlock]at N
   Ch:=λv hv=>by cases hv}
def QV.move {d : Nat} (h:QV E d) (o:Fr E.bs E.w0 w) (z:wS E.bm w w') (x:∀(b:Nat) (l:Array MapEntry) (k:Nat),w.heap[b]?=some (Obj.map l k)->w'.heap[b]?=some (Obj.map l k)):QV {E with w0:=w'} d:=by
 have a:wS E.bm E.w0 w':=(o.n E.bm).trans z;have u:∀{R:Option (List (List fN×Ru))} {v:gh},rB E.bm E.bB d R v E.w0->rB E.bm E.bB d R v w':=by
  intro R v h;cases R with
  |none=>exact h
  |some R=>
   have⟨b,hb⟩:=h;have⟨l,k,hat⟩:=hb.at;have e1:=(o.calm (.inl hb.at)).trans hat;exact⟨b,hb.fr a ((x b l k e1).trans hat.symm)⟩
 have⟨cs,h1,h2,h3⟩:=h.Gp;have⟨v1,a1,b1⟩:=h.spec;have⟨v2,a2,b2⟩:=h.Wx;have⟨v3,a3,b3⟩:=h.VV;exact⟨⟨cs,h1,h2,λm B A=>by
  have⟨v0,v1,v2,v3,v4,v5,v6,v7,v8,v9,e,hi⟩:=h3 m B A;exact⟨v0,v1,v2,v3,v4,v5,v6,v7,v8,v9,e,⟨hi.blank.fr a,hi.jq.fr a,hi.gm.fr a,hi.gP.fr a,hi.il.fr a,u hi.start,u hi.stop,hi.jj.fr a,hi.jG.fr a,hi.gN.fr a⟩⟩⟩,h.fq,⟨v1,a1,b1.fr a⟩,⟨v2,a2,b2.fr a⟩,⟨v3,a3,b3.fr a⟩,h.vc⟩
structure Lk (w:fO) (b:Nat) (look:fN->Option fN):Prop where
 lt:b < w.heap.size
 short:∀key t,look key=some t->t.size<=16
 run:∀(key:fN) (w':fO),w'.heap[b]?=w.heap[b]?->(Instr.lookup 160 (.map (some b)) (fR key) true).run prog w'= .ok (.tuple #[.agg #[fR ((look key).getD ⟨#[]⟩)],.bool (look key).isSome]) w'
def Lk.kept {look : fN->Option fN} (h:Lk w b look) (k:Kept S w w') (l:b∉S):Lk w' b look:=
 ⟨lz h.lt k.size,h.short,λa d e=>h.run a d (e.trans (k.block b h.lt l))⟩
open Go.ChangeMaps (setBlock)
def RP (e:MapEntry):gh×gh:=(e.key,e.val)
def kv (p:fN×fN):gh×gh:=(fR p.1,.agg #[fR p.2])
structure Mp (w:fO) (b:Nat) (L:kZ) (es:Array MapEntry) (clock:Nat):Prop where
 at_:w.heap[b]?=some (.map es clock)
 cP:es.toList.map RP=L.map kv
 de:(es.toList.map (·.born)).Nodup
 old:∀x∈es.toList,x.born < clock
def Mp.kept {a:Array MapEntry} (h:Mp w b L a clock) (e:Kept S w w') (d:b∉S):Mp w' b L a clock:=⟨e.at h.at_ d,h.cP,h.de,h.old⟩
def NR (k:fN):∀(a:List MapEntry) (L:kZ) (i:Nat),a.map RP=L.map kv->L.all (λp=>!(k==p.1))=true->Instr.findNow .string (fR k) a i=some none
 |[],_,_,_,_=>rfl
 |e::a,[],_,h,_=>by simp at h
 |e::a,p::L,i,h,hn=>by
  simp only[zF,Pq]at h;simp only[List.all_cons,rl]at hn;have l:e.key=fR p.1:=ri Prod.fst h.1;have d:(k==p.1)=false:=by simpa using hn.1
  unfold Instr.findNow;simp only[l,Instr.sameNow,d];exact NR k a L (i+1) h.2 hn.2
theorem Qz (k:fN):∀(a:List MapEntry) (L:kZ) (i:Nat) (p:fN×fN),a.map RP=L.map kv->L.find? (λp=>k==p.1)=some p->∃j,Instr.findNow .string (fR k) a i=some (some (j,.agg #[fR p.2]))
 |[],[],_,_,_,h=>by simp at h
 |[],_::_,_,_,h,_=>by simp at h
 |e::a,[],_,_,h,_=>by simp at h
 |e::a,q::L,i,p,h,hp=>by
  simp only[zF,Pq]at h;have d:e.key=fR q.1:=ri Prod.fst h.1;have l:e.val= .agg #[fR q.2]:=ri Prod.snd h.1;unfold Instr.findNow;cases hf:(k==q.1)
  .simp only[d,Instr.sameNow,hf];rw[List.find?_cons,hf]at hp;exact Qz k a L (i+1) p h.2 hp
  .simp only[d,Instr.sameNow,hf]
   simp_all
theorem BR {a : fO} (h:Kept S a w) (l:b∈S\/a.heap.size<=b) (o:Obj):Kept S a (setBlock w b o):=
 ⟨h.os,h.tape,h.output,by show a.heap.size<=(w.heap.setIfInBounds b o).size;rw[Qf];exact h.size,λk d e=>by
  show(w.heap.setIfInBounds b o)[k]?=_;rw[uM (by grind)];exact h.block k d e⟩
theorem Gg (h:b < w.heap.size) (o:Obj):(setBlock w b o).heap[b]?=some o:=by
 show(w.heap.setIfInBounds b o)[b]?=_
 grind
theorem rT {l:Array MapEntry} (h:Mp w b L l clock) (k t:fN) (B:L.all (λp=>!(k==p.1))=true):
  ∃w' m a,(Instr.mapUpdate 160 (.map (some b)) (fR k) (.agg #[fR t])).run prog w= .ok () w'/\Mp w' b (L++[(k,t)]) m a/\Kept [b] w w'/\w'.heap.size=w.heap.size:=by
 have A:=iB h.at_;refine⟨setBlock w b (.map (l.push {key:=fR k,val:= .agg #[fR t],born:=clock}) (clock+1)),_,_,?_,⟨Gg A _,?_,?_,?_⟩,BR (Kept.refl _ _) (.inl (by simp)) _,?_⟩
 .have v:=NR k l.toList L 0 h.cP B;have o:(underlying 9).run prog w= .ok .string w:=pE underlying9 _;have u:(Instr.checkKey false 10000 9 (fR k)).run prog w= .ok () w:=by
   unfold Instr.checkKey;simp[o]
  simp[Instr.mapUpdate,pE underlying160,JR h.at_,u,Instr.findKey,o,v,setObj,Sem.run,h.at_,setBlock,Result.andThen]
 .simp[h.cP,RP,kv]
 .simp only[Array.toList_push,rp,zF,List.map_nil];rw[List.nodup_append];refine⟨h.de,by simp,?_⟩;intro x d y D e;obtain⟨z,C,rfl⟩:=List.mem_map.1 d;have:=h.old z C
  grind
 .intro x d;simp only[Array.toList_push,List.mem_append,List.mem_singleton]at d;rcases d with d|rfl
  .have:=h.old x d;omega
  simp
 .show(w.heap.setIfInBounds b _).size=_;simp
def pA (L:kZ) (k:fN):Option fN:=(L.find? (λp=>k==p.1)).map (·.2)
def NA (w:fO):(zeroValue 207).run prog w= .ok (.agg #[fR js]) w:=by
 simp
theorem Mp.lk {a:Array MapEntry} (h:Mp w b L a clock) (A:L.all (λp=>decide (p.2.size<=16))=true):Lk w b (pA L) where
 lt:=iB h.at_
 short k t ht:=by
  unfold pA at ht;obtain⟨p,u,rfl⟩:=Option.map_eq_some_iff.1 ht
  grind
 run k w' e:=by
  have m:w'.heap[b]?=some (.map a clock):=e.trans h.at_;have v:(underlying 9).run prog w'= .ok .string w':=pE underlying9 _;have o:∀x,(Instr.checkKey x 10000 9 (fR k)).run prog w'= .ok () w':=λx=>by
   unfold Instr.checkKey;simp
  cases hf:L.find? (λp=>k==p.1)with
  |none=>
   have z:L.all (λp=>!(k==p.1))=true:=by
    rw[LR];intro p u;have:=List.find?_eq_none.1 hf p u
    simpa using this
   have d:=NR k a.toList L 0 h.cP z;have l:pA L k=none:=by unfold pA;rw[hf];rfl
   rw[l];simp[Instr.lookup,pE underlying160,JR m,o,Instr.findKey,v,d,NA,Result.andThen]
  |some p=>
   have⟨j,d⟩:=Qz k a.toList L 0 p h.cP hf;have l:pA L k=some p.2:=by unfold pA;rw[hf];rfl
   rw[l];simp[Instr.lookup,pE underlying160,JR m,o,Instr.findKey,v,d,Result.andThen]
open Go.ChangeMaps (setBlock)
def dP:kZ:=[(⟨#[97,112,111,115,59]⟩,sJ),(mN,⟨#[226,132,151]⟩),(nL,⟨#[226,136,137]⟩),(nO,⟨#[226,136,140]⟩),(mT,pw),(⟨#[112,97,114,59]⟩,⟨#[226,136,165]⟩),(mP,⟨#[226,138,160]⟩),(⟨#[98,110,101,59]⟩,⟨#[61,226,131,165]⟩),(⟨#[84,97,98,59]⟩,⟨#[9]⟩),(lC,BQ)]
def ads:kZ:=[(⟨#[65,77,80]⟩,tH),(⟨#[97,109,112]⟩,tH),(⟨#[108,116]⟩,pT),(⟨#[103,116]⟩,ir),(⟨#[113,117,111,116]⟩,oU),(⟨#[110,98,115,112]⟩,sq),(⟨#[99,111,112,121]⟩,⟨#[194,169]⟩),(⟨#[110,111,116]⟩,⟨#[194,172]⟩),(⟨#[112,97,114,97]⟩,⟨#[194,182]⟩),(pj,⟨#[195,151]⟩)]
def cD (j:Nat):kZ:=dP++(ads.take j).flatMap λp=>[(p.1,p.2),(p.1++⟨#[59]⟩,p.2)]
def Aa (j:Nat):fN×fN:=ads.getD j (⟨#[]⟩,⟨#[]⟩)
def wD:jB:=#[fR ⟨#[65,77,80]⟩,fR tH,fR ⟨#[97,109,112]⟩,fR tH,fR ⟨#[108,116]⟩,fR pT,fR ⟨#[103,116]⟩,fR ir,fR ⟨#[113,117,111,116]⟩,fR oU,fR ⟨#[110,98,115,112]⟩,fR sq,fR ⟨#[99,111,112,121]⟩,fR ⟨#[194,169]⟩,fR ⟨#[110,111,116]⟩,fR ⟨#[194,172]⟩,fR ⟨#[112,97,114,97]⟩,fR ⟨#[194,182]⟩,fR pj,fR ⟨#[195,151]⟩]
def aaJ:Bool:=(List.range 10).all λj=>(cD j).all (λp=>!((Aa j).1==p.1))&&(cD j++[Aa j]).all (λp=>!(((Aa j).1++⟨#[59]⟩)==p.1))&&decide ((Aa j).1.size<=8)
def X7:aaJ=true:=rfl
theorem aaO (h:j < 10):(cD j).all (λp=>!((Aa j).1==p.1))=true/\(cD j++[Aa j]).all (λp=>!(((Aa j).1++⟨#[59]⟩)==p.1))=true/\(Aa j).1.size<=8:=by
 have:=List.all_eq_true.1 X7 j (List.mem_range.2 h)
 grind
def Vw (h:j < 10):wD[j*2]?=some (fR (Aa j).1)/\wD[j*2+1]?=some (fR (Aa j).2):=by
 rcases(by omega:j=0\/j=1\/j=2\/j=3\/j=4\/j=5\/j=6\/j=7\/j=8\/j=9)with rfl|rfl|rfl|rfl|rfl|rfl|rfl|rfl|rfl|rfl<;>exact⟨rfl,rfl⟩
def Zw (h:j < 10):cD (j+1)=cD j++[Aa j]++[((Aa j).1++⟨#[59]⟩,(Aa j).2)]:=by
 rcases(by omega:j=0\/j=1\/j=2\/j=3\/j=4\/j=5\/j=6\/j=7\/j=8\/j=9)with rfl|rfl|rfl|rfl|rfl|rfl|rfl|rfl|rfl|rfl<;>rfl
def KV:kZ:=cD 10
def OO:KV.all (λp=>decide (p.2.size<=16))=true:=by rfl
def aaF:KV.all (λp=>decide (p.1.size<=8))=true:=by rfl
def YN:KV.any (λp=>decide (p.1.size=8))=true:=by rfl
def aa6 (d:fO) (b:Nat) (A:Mp d b [] #[] 0):∃e h k l m o u v x a:fO,(Instr.mapUpdate 160 (.map (some b)) (fR ⟨#[97,112,111,115,59]⟩) (.agg #[fR sJ])).run prog d= .ok () e/\(Instr.mapUpdate 160 (.map (some b)) (fR mN) (.agg #[fR ⟨#[226,132,151]⟩])).run prog e= .ok () h/\(Instr.mapUpdate 160 (.map (some b)) (fR nL) (.agg #[fR ⟨#[226,136,137]⟩])).run prog h= .ok () k/\(Instr.mapUpdate 160 (.map (some b)) (fR nO) (.agg #[fR ⟨#[226,136,140]⟩])).run prog k= .ok () l/\(Instr.mapUpdate 160 (.map (some b)) (fR mT) (.agg #[fR pw])).run prog l= .ok () m/\(Instr.mapUpdate 160 (.map (some b)) (fR ⟨#[112,97,114,59]⟩) (.agg #[fR ⟨#[226,136,165]⟩])).run prog m= .ok () o/\(Instr.mapUpdate 160 (.map (some b)) (fR mP) (.agg #[fR ⟨#[226,138,160]⟩])).run prog o= .ok () u/\(Instr.mapUpdate 160 (.map (some b)) (fR ⟨#[98,110,101,59]⟩) (.agg #[fR ⟨#[61,226,131,165]⟩])).run prog u= .ok () v/\(Instr.mapUpdate 160 (.map (some b)) (fR ⟨#[84,97,98,59]⟩) (.agg #[fR ⟨#[9]⟩])).run prog v= .ok () x/\(Instr.mapUpdate 160 (.map (some b)) (fR lC) (.agg #[fR BQ])).run prog x= .ok () a/\(∃z clock,Mp a b dP z clock)/\Kept [b] d a/\a.heap.size=d.heap.size:=by
 have⟨e,es1,c1,r1,m1,k1,z1⟩:=rT (w:=d) A ⟨#[97,112,111,115,59]⟩ sJ (by rfl);have⟨h,es2,c2,r2,m2,k2,z2⟩:=rT (w:=e) m1 mN ⟨#[226,132,151]⟩ (by rfl);have⟨k,es3,c3,r3,m3,k3,z3⟩:=rT (w:=h) m2 nL ⟨#[226,136,137]⟩ (by rfl);have⟨l,es4,c4,r4,m4,k4,z4⟩:=rT (w:=k) m3 nO ⟨#[226,136,140]⟩ (by rfl);have⟨m,es5,c5,r5,m5,k5,z5⟩:=rT (w:=l) m4 mT pw (by rfl);have⟨o,es6,c6,r6,m6,k6,z6⟩:=rT (w:=m) m5 ⟨#[112,97,114,59]⟩ ⟨#[226,136,165]⟩ (by rfl);have⟨u,es7,c7,r7,m7,k7,z7⟩:=rT (w:=o) m6 mP ⟨#[226,138,160]⟩ (by rfl);have⟨v,es8,c8,r8,m8,k8,z8⟩:=rT (w:=u) m7 ⟨#[98,110,101,59]⟩ ⟨#[61,226,131,165]⟩ rfl;have⟨x,es9,c9,r9,m9,k9,z9⟩:=rT (w:=v) m8 ⟨#[84,97,98,59]⟩ ⟨#[9]⟩ rfl;have⟨a,es10,c10,r10,m10,k10,z10⟩:=rT (w:=x) m9 lC BQ rfl;exact⟨e,h,k,l,m,o,u,v,x,a,r1,r2,r3,r4,r5,r6,r7,r8,r9,r10,⟨_,_,m10⟩,(((((((((k1).trans k2).trans k3).trans k4).trans k5).trans k6).trans k7).trans k8).trans k9).trans k10,by omega⟩
def adw (w:fO) (a bm j:Nat) (wr:fO):Prop:=
 (∃e d,Mp wr bm (cD j) e d)/\wr.heap[a]?=some (fV #[.map (some bm),fK 0] 162)/\wr.heap[a+1]?=some (fV wD 208)/\wr.heap[w.heap.size]?=some (fV #[.map none,fK 0] 162)/\Kept [] w wr
def ace:gh->Nat
 | .string k=>k.size
 |_=>0
structure adE (w:fO) (nb bm it:Nat) (es:Array MapEntry) (ck:Nat) (wr:fO) (seen:Array Nat) (c0 M:Nat):Prop where
 iter:wr.heap[it]?=some (.mapIter (some bm) ck seen c0)
 late:ck<=c0
 mp:Mp wr bm KV es ck
 dJ:wr.heap[nb]?=some (fV #[.map (some bm),fK M] 162)
 cX:wr.heap[w.heap.size]?=some (fV #[.map none,fK 0] 162)
 le:M<=8
 TI:∀e∈es.toList,seen.contains e.born=true->ace e.key<=M
 kept:Kept [] w wr
 size:it < wr.heap.size
def aeE {a:Array MapEntry} (h:a.toList.map RP=L.map kv) {e:MapEntry} (d:e∈a.toList):∃p∈L,e.key=fR p.1:=by
 have:RP e∈L.map kv:=by rw[<-h];exact List.mem_map.2 ⟨e,d,rfl⟩
 have⟨p,hp,e1⟩:=List.mem_map.1 this;exact⟨p,hp,(ri Prod.fst e1).symm⟩
def ZT {a:Array MapEntry} (h:a.toList.map RP=L.map kv) {p : fN×fN} (d:p∈L):∃e∈a.toList,e.key=fR p.1:=by
 have:kv p∈a.toList.map RP:=by rw[h];exact List.mem_map.2 ⟨p,d,rfl⟩
 have⟨e,he,e1⟩:=List.mem_map.1 this;exact⟨e,he,ri Prod.fst e1⟩
theorem Qh (w:fO):
  Calls prog 67 #[] w λe w'=>∃b,e=gO (.agg #[.map (some b),fK 8])/\w.heap.size<=b/\Lk w' b (pA KV)/\Kept [] w w':=by
 obtain⟨a,z⟩:∃a,a=w.alloc (.cells #[.map none,fK 0] 162):=⟨_,rfl⟩;have za:a.heap.size=w.heap.size+1:=by rw[z];simp
 obtain⟨X,u⟩:∃X,X=a.alloc (.map #[] 0):=⟨_,rfl⟩;have ka:Kept [] w a:=by rw[z];exact(Kept.refl _ _).alloc _
 have kb:Kept [] a X:=by rw[u];exact(Kept.refl _ _).alloc _
 have hA:a.heap[w.heap.size]?=some (fV #[.map none,fK 0] 162):=by rw[z];exact fB w _
 have a6:Mp X a.heap.size [] #[] 0:=⟨by rw[u];exact fB a _,rfl,by simp,by simp⟩;have zb:X.heap.size=a.heap.size+1:=by rw[u];simp
 have⟨w1,w2,w3,w4,w5,w6,w7,w8,w9,w10,r1,r2,r3,r4,r5,r6,r7,r8,r9,r10,⟨es,ck,HM⟩,k10,z10⟩:=aa6 X a.heap.size a6;have a9:(Instr.makeMap 160 none).run prog a= .ok (.map (some a.heap.size)) X:=by rw[u];rfl
 have a5:=fx z.symm;have ae:=u.symm;have HK:=(show Kept [] w w10 from((ka.trans kb).next k10 (by grind)));have HA:=(show w10.heap[w.heap.size]?=_ from k10.at (kb.at hA (by simp)) (by grind));have Hz:=fx (show w10.heap.size=w.heap.size+2 by omega);have B:=fx za;clear z u ka kb hA a6 zb k10 za z10;go_enter func67,ntmps67
 go_wp21
 rw[a5.out,a9];clear a9 a5 ae;go_wp2_with fail;obtain⟨W,Z⟩:∃W,W=(w10.alloc (.cells #[.map (some a.heap.size),fK 0] 162)).alloc (.cells wD 208):=⟨_,rfl⟩;have kW:Kept [] w10 W:=by rw[Z];exact((Kept.refl _ _).alloc _).alloc _
 have l:W.heap[w10.heap.size]?=some (fV #[.map (some a.heap.size),fK 0] 162):=by
  rw[Z,Below.heap_alloc _ _ _ (by simp)];exact fB w10 _
 have x:W.heap[w10.heap.size+1]?=some (fV wD 208):=by
  have:=fB (w10.alloc (.cells #[.map (some a.heap.size),fK 0] 162)) (.cells wD 208);rw[Z];simpa using this
 have HS:Hid (adw w w10.heap.size a.heap.size 0 W):=⟨⟨es,ck,HM.kept kW (by simp)⟩,l,x,kW.at HA (by simp),HK.trans kW⟩;have ac:wD=#[fR ⟨#[65,77,80]⟩,fR tH,fR ⟨#[97,109,112]⟩,fR tH,fR ⟨#[108,116]⟩,fR pT,fR ⟨#[103,116]⟩,fR ir,fR ⟨#[113,117,111,116]⟩,fR oU,fR ⟨#[110,98,115,112]⟩,fR sq,fR ⟨#[99,111,112,121]⟩,fR ⟨#[194,169]⟩,fR ⟨#[110,111,116]⟩,fR ⟨#[194,172]⟩,fR ⟨#[112,97,114,97]⟩,fR ⟨#[194,182]⟩,fR pj,fR ⟨#[195,151]⟩]:=rfl;rw[ac]at Z;rw[<-Z];clear Z kW l x ac HM HK HA r1 r2 r3 r4 r5 r6 r7 r8 r9 r10
 go_loopw [30] (λv wr=>∃j:Nat,v=fK j/\j<=10/\adw w w10.heap.size a.heap.size j wr) (λv _=>10 - (intOf v).toNat)
 case atStart=>exact⟨0,rfl,by omega,HS.out⟩
 case round=>
  obtain⟨j,rfl,hj,h1⟩:=hrel
  by_cases U:j < 10
  .have⟨⟨es1,ck1,mp1⟩,l,x,hR,hk⟩:=h1;have rc:=Vw U;have x0:wr.cell? ⟨w10.heap.size+1,j*2,none⟩=some (fR (Aa j).1):=by rw[fw x];exact rc.1
   have x1:wr.cell? ⟨w10.heap.size+1,j*2+1,none⟩=some (fR (Aa j).2):=by rw[fw x];exact rc.2
   have⟨n1,n2,n3⟩:=aaO U;have A:=Zw U;generalize hn:(Aa j).1=nm at *;generalize ht:(Aa j).2=tx at *;have aa:Aa j=(nm,tx):=by rw[<-hn,<-ht]
   rw[aa]at n2 A;clear hn ht aa;obtain⟨W1,D⟩:∃W1,W1=wr.alloc (.cells #[fR nm,fR tx] 208):=⟨_,rfl⟩;have kk:Kept [] wr W1:=by rw[D];exact(Kept.refl _ _).alloc _
   have hX:W1.heap[wr.heap.size]?=some (fV #[fR nm,fR tx] 208):=by rw[D];exact fB wr _
   have⟨W2,es2,ck2,ru2,mp2,k2,s2⟩:=rT (mp1.kept kk (by simp)) nm tx n1;have⟨W3,es3,ck3,ru3,mp3,k3,s3⟩:=rT mp2 (nm++⟨#[59]⟩) tx n2;have ag:=iB mp1.at_;have an:=iB l;have bN:a.heap.size≠w10.heap.size:=λe=>by rw[<-e,mp1.at_]at l;simp at l
   have bG:a.heap.size≠w10.heap.size+1:=λe=>by rw[<-e,mp1.at_]at x;simp at x
   have H:a.heap.size≠w.heap.size:=λe=>by rw[<-e,mp1.at_]at hR;simp at hR
   have K:=kk.at l (by simp);have N:=k2.at K (by grind);have O:=k2.at hX (by simp;omega);have a0:=fw l 0;have a1:=fw K 0;have a2:=fw N 0;have y0:=fw hX 0;have y1:=fw hX 1;have z0:=fw O 0;have z1:=fw O 1;dsimp at a0 a1 a2 y0 y1 z0 z1;have HE:Hid (adw w w10.heap.size a.heap.size (j+1) W3):=by
    refine⟨⟨es3,ck3,by rw[A];exact mp3⟩,k3.at N (by grind),k3.at (k2.at (kk.at x (by simp)) (by grind)) (by grind),k3.at (k2.at (kk.at hR (by simp)) (by grind)) (by grind),?_⟩;have aq:=B.out;exact((hk.trans kk).next k2 (by simp;omega)).next k3 (by simp;omega)
   rw[D]at ru2;clear a1 y0 y1 mp1 l x hR hk rc n1 n2 A kk hX mp2 k2 s2 mp3 k3 s3 K N O bN bG H ag;clear D;go_wp2;go_roundw
   case rel=>exact⟨j+1,by go_num,by omega,HE.out⟩
   case measure=>simp[intOf];omega
  .have af:j=10:=by omega
   subst af;have⟨⟨es1,ck1,mp1⟩,l,x,hR,hk⟩:=h1;have a0:=fw l 0;dsimp at a0;have ai:=run_range_map (P:=prog) wr 160 9 207 a.heap.size es1 ck1 underlying160 mp1.at_;have ki:Kept [] wr (wr.alloc (.mapIter (some a.heap.size) ck1 #[] ck1)):=(Kept.refl _ _).alloc _;have a4:Hid (adE w w10.heap.size a.heap.size wr.heap.size es1 ck1 (wr.alloc (.mapIter (some a.heap.size) ck1 #[] ck1)) #[] ck1 0):=
    ⟨fB wr _,gr _,mp1.kept ki (by simp),ki.at l (by simp),ki.at hR (by simp),by omega,by simp,hk.trans ki,by simp⟩
   have J:w10.heap.size≠wr.heap.size:=by have:=iB l;omega
   have H:w.heap.size≠wr.heap.size:=by have:=iB hR;omega
   have Y:a.heap.size≠wr.heap.size:=by have:=iB mp1.at_;omega
   have o:w.heap.size≠w10.heap.size:=by have:=Hz.out;omega
   have m:w10.heap.size≠a.heap.size:=by have:=Hz.out;have:=B.out;omega
   have a3:=(show w.heap.size<=wr.heap.size from hk.size);have Hb:=And.intro J (And.intro H (And.intro Y (And.intro o m)));clear mp1 l x hR hk ki J H Y o m
   go_wp21
   clear ai a0;obtain⟨it,a8⟩:∃it,it=wr.heap.size:=⟨_,rfl⟩;rw[<-a8]at a4 Hb a3|-;clear a8
   go_loopw [] (λwq=>∃d c0 M,adE w w10.heap.size a.heap.size it es1 ck1 wq d c0 M) (λwq=>(leftOf es1 (wq.iterSeen it)).size)
   case atStart=>exact⟨_,_,_,a4.out⟩
   case round=>
    have⟨d,c0,M,h2⟩:=hrel;have⟨J,H,Y,o,m⟩:=Hb;have V:wr.iterSeen it=d:=by unfold World.iterSeen;rw[h2.iter]
    rcases run_next_at (P:=prog) wr 0 it a.heap.size ck1 c0 d es1 ck1 h2.iter h2.mp.at_ h2.mp.old h2.late with⟨h0,I⟩|⟨C,T,wv,aj,I⟩
    .have hM:M=8:=by
      have h8:=YN;rw[List.any_eq_true]at h8;have⟨p,hp,ab⟩:=h8;have⟨e,he,hk⟩:=ZT h2.mp.cP hp;have h9:=h2.TI e he (all_seen es1 d h0 e he);rw[hk]at h9;have al:p.1.size=8:=by simpa using ab
      have am:p.1.size<=M:=h9;have:=h2.le;omega
     subst hM;have n0:=fw h2.dJ 0;have n1:=fw h2.dJ 1;have d0:=fw h2.cX 0;have d1:=fw h2.cX 1;have f0:=fA h2.cX 0;have f1:=fA h2.cX 1;dsimp at n0 n1 d0 d1;have HK:Kept [] w ((wr.setCell ⟨w.heap.size,0,none⟩ (.map (some a.heap.size))).setCell ⟨w.heap.size,1,none⟩ (fK 8)):=(h2.kept.setCell (.inr (gr _)) _).setCell (.inr (gr _)) _;have kr:Kept [w.heap.size] wr ((wr.setCell ⟨w.heap.size,0,none⟩ (.map (some a.heap.size))).setCell ⟨w.heap.size,1,none⟩ (fK 8)):=((Kept.refl _ _).setCell (.inl (by simp)) _).setCell (.inl (by simp)) _;have HL:=((h2.mp.kept kr (by simp;have:=B.out;omega)).lk OO);have ah:w.heap.size<=a.heap.size:=by have:=B.out;omega
     clear h2 V h0 kr J H Y o m;go_wp2;refine nK (v:= .agg #[.map (some a.heap.size),fK 8]) ?_ rfl ⟨_,rfl,ah,HL,HK⟩;simp[results,results67,asAddr,Result.andThen,go_sem,d0,d1]
    .have⟨he1,he2⟩:=mem_left T;have⟨p,hp,hkey⟩:=aeE h2.mp.cP he1;have ab:p.1.size<=8:=by
      have:=List.all_eq_true.1 aaF p hp
      simpa using this
     have ak:=left_shrinks es1 d C T;obtain⟨G,F⟩:∃G,G=setBlock wv it (.mapIter (some a.heap.size) ck1 (d.push C.born) ck1):=⟨_,rfl⟩;rw[<-F,hkey]at I;have k:Kept [] wr wv:=by rcases aj with rfl|rfl;exact Kept.refl _ _;exact(Kept.refl _ _).drew
     have kz:Kept [it] wv G:=by rw[F];exact BR (Kept.refl _ _) (.inl (by simp)) _
     have iz:G.heap[it]?=some (.mapIter (some a.heap.size) ck1 (d.push C.born) ck1):=by rw[F];exact Gg (lz h2.size k.size) _
     have mz:=(h2.mp.kept k (by simp)).kept kz (by simpa using Y);have nz:=kz.at (k.at h2.dJ (by simp)) (by simpa using J);have rz:=kz.at (k.at h2.cX (by simp)) (by simpa using H);have a7:=run_entry_at (P:=prog) G it a.heap.size ck1 d es1 ck1 C iz mz.at_ he1 mz.de;rw[hkey]at a7;have n1:=fw nz 1;have f1:=fA nz 1;dsimp at n1;have ao:max (M:Int) (p.1.size:Int)=((max M p.1.size:Nat):Int):=by omega
     have A:Kept [w10.heap.size] G (G.setCell ⟨w10.heap.size,1,none⟩ (fK ((max M p.1.size:Nat)))):=(Kept.refl _ _).setCell (.inl (by simp)) _;have ad:=fI nz 1 (fK ((max M p.1.size:Nat)));have HE:Hid (adE w w10.heap.size a.heap.size it es1 ck1 (G.setCell ⟨w10.heap.size,1,none⟩ (fK ((max M p.1.size:Nat)))) (d.push C.born) ck1 (max M p.1.size)):=by
      refine⟨A.at iz (by simpa using λe=>J e.symm),gr _,mz.kept A (by simpa using λe=>m e.symm),ad,A.at rz (by simpa using o),by have:=h2.le;omega,?_,?_,?_⟩
      .intro e he hc;rw[contains_push]at hc;rcases Bool.or_eq_true_iff.1 hc with h|h
       .have:=h2.TI e he h;omega
       .have e1:e.born=C.born:=by simpa using h
        have e2:e=C:=by
         have q1:=find_born e es1.toList h2.mp.de he;have q2:=find_born C es1.toList h2.mp.de he1;rw[e1,q2]at q1;exact(jr q1).symm
        rw[e2,hkey];show p.1.size<=_;omega
      .have ar:=Hz.out;have au:=iB h2.cX;exact((h2.kept.trans k).next kz (by simp;exact a3)).next A (by simp;omega)
      .exact lz h2.size (jC k.size (jC kz.size A.size))
     have ap:(G.setCell ⟨w10.heap.size,1,none⟩ (fK ((max M p.1.size:Nat)))).iterSeen it=d.push C.born:=by unfold World.iterSeen;rw[HE.out.iter]
     clear h2 mz nz rz iz k kz A ad F he1 he2 T hp hkey J H Y o m;generalize p.1=av at *;go_wp2;go_roundw
     case rel=>exact⟨_,_,_,HE.out⟩
     simp_all
def qw (s:fN) (i:Nat):Bool:=!(decide (bt s i=10)&&decide (0 < i)&&decide (bt s (i - 1)=13))
def fX (s:fN) (n:Nat):List Nat:=(List.range n).filter (qw s)
def Pb (s:fN) (k:Nat):Int:=if bt s k=13 then 10 else bt s k
def cS (s:fN) (k:Nat):UInt8:=(Pb s k).toNat.toUInt8
def oC (s:fN):fN:=⟨((fX s s.size).map (cS s)).toArray⟩
def vN (h:qw s n=true):fX s (n+1)=fX s n++[n]:=by unfold fX;rw[List.range_succ,List.filter_append];simp[h]
def Jb (h:qw s n=false):fX s (n+1)=fX s n:=by unfold fX;rw[List.range_succ,List.filter_append];simp[h]
theorem Hj (s:fN) (n:Nat):(fX s n).length<=n:=by
 grind[fX]
def uk (s:fN):(oC s).size=(fX s s.size).length:=by show(((fX s s.size).map (cS s)).toArray).size=_;simp
theorem VO (s:fN) (k:Nat):0<=Pb s k/\Pb s k<=255:=by
 have a:=bt_nonneg s k;have d:=bt_le s k
 grind[Pb]
def L6 (s:fN) (k:Nat):((cS s k).toNat:Int)=Pb s k:=by
 have:=VO s k;unfold cS;simp;omega
def vk (s:fN) (n:Nat):List gh:=(fX s n).map λk=> .int .u8 (Pb s k)
def qm (s:fN) (n:Nat):List gh:=(fX s n).map λk:Nat=> fK k
theorem mZ {l m : Nat} {e1 e2 : TypeId} {C D : Nat} {v1 v2 : gh} {A B : Nat} {F G : List gh} (o:w.ownsRow l e1 C v1 A F) (u:w.ownsRow m e2 D v2 B G) (z:e1≠e2) (k:Nat) (d:v1.ownBlock=some k):v2.ownBlock≠some k:=by
 intro a;rcases o.2 with⟨h,_⟩|⟨J,H,N,h,_,v,_⟩
 .rw[h]at d;cases d
 rcases u.2 with⟨e,_⟩|⟨K,I,O,e,_,x,_⟩
 .rw[e]at a;cases a
 rw[h]at d;rw[e]at a;obtain rfl:=jr d;obtain rfl:=jr a
 grind
def Yi:(prog.info? 3).map (λi=>(i.zero,i.size,i.bytes))=some (some (fK 0),1,8):=by kernel_rfl
theorem JN {v : gh} {l:List UInt8} (e:w.ownsRow base 5 1 v n (l.map λb=> .int .u8 (b.toNat:Int))) (B:l.length=n) (o:∀k,v.ownBlock=some k->w'.heap[k]?=w.heap[k]?):
  (convert 55 9 v).run prog w'= .ok (fR ⟨l.toArray⟩) w':=by
 rcases e.2 with⟨rfl,u⟩|⟨g,d,m,rfl,x,z,C⟩
 .have:l=[]:=R3 (by omega);subst this;have:=run_convert_bytes_nil (P:=prog) (w:=w') 55 5 underlying55 underlying5 0 0;exact this 9 underlying9
 .have h:=Tu (P:=prog) w' 55 9 5 ⟨g,0,none⟩ d l underlying55 underlying5 underlying9 (λj A=>by
   rw[YZ (w:=w) (a:=(⟨g,0,none⟩:Addr).add j) (by rw[iT];exact o g rfl)];exact e.cells (g:=g) rfl j _ (by grind))
  grind
structure Sa (s:fN) (w:fO) (k:Nat) (vb va:gh) (wr:fO):Prop where
 b:wr.ownsRow w.heap.size 5 1 vb (fX s k).length (vk s k)
 a:wr.ownsRow w.heap.size 3 1 va (fX s k).length (qm s k)
 kept:Kept [] w wr
theorem Yx (s:fN) (tv:gh) (base:Nat) (w:fO) (ho:w.ownsRow base 5 1 tv s.size (kD s)) (hs:s.size<=1024):
  Calls prog 68 #[tv] w λe w'=>∃av,e=gO (.tuple #[fR (oC s),av])/\w'.ownsRow w.heap.size 3 1 av ((fX s s.size).length+1) (qm s s.size++[fK s.size])/\Kept [] w w':=by
 have⟨iu,hiu,hu0,hu1,hu2⟩:=tL Nk;obtain⟨ii,a3,a0,a1,a2⟩:=tL Yi;have⟨ao,cp,htv⟩:=fS ho;subst htv;have HC:∀(wr:fO),Kept [] w wr->∀j,j < s.size->∃g,ao=some ⟨g,0,none⟩/\wr.cell? ⟨g,j,none⟩=some (.int .u8 (bt s j)):=by
  intro wr hk j l;rcases ho.2 with⟨h,h0⟩|⟨g,am,aC,h,_,hc,_⟩
  .omega
  .have a6:ao=some ⟨g,0,none⟩:=by simpa using ri (λv=>match v with| .slice a _ _=>a|_=>none) h
   refine⟨g,a6,?_⟩;rw[hk.cell (p:=⟨g,j,none⟩) (iB hc) (by simp)];have h1:=ho.cells (g:=g) (by rw[h];rfl) j (.int .u8 (bt s j)) (by
    unfold kD;rw[List.getElem?_map,pY (by simp_all)];simp only[Option.map_some];rw[show((s.data.toList[j]'(by simp_all)).toNat:Int)=bt s j from by unfold bt;rw[wQ l];rfl])
   rwa [iT]at h1
 have H0:Hid (Sa s w 0 (iQ) (iQ) w):=⟨oD _ _ _ _,oD _ _ _ _,Kept.refl _ _⟩;clear ho;go_enter func68,ntmps68
 go_wp21
 go_loopw [4,5,10] (λvb va v wr=>∃k:Nat,v=fK k/\k<=s.size/\Sa s w k vb va wr) (λ_ _ v _=>s.size - (intOf v).toNat)
 case atStart=>exact⟨0,rfl,im _,H0⟩
 case round=>
  obtain⟨k,rfl,hk,hh⟩:=hrel
  by_cases az:k < s.size
  .have⟨g,a6,c1⟩:=HC wr hh.kept k az;subst a6;have z:=hh;have⟨bo,bc,hvb⟩:=fS hh.b;have⟨ax,ac,hva⟩:=fS hh.a;subst hvb hva;have h0:=bt_nonneg s k;have h1:=bt_le s k;have ap:=Hj s k
   by_cases T:bt s k=10
   .by_cases aw:k=0
    .subst aw;have K:qw s 0=true:=by unfold qw;simp
     have F:Pb s 0=10:=by unfold Pb;rw[T];rfl
     rw[T]at c1;have hy:=vN K;have HY:=fx hy;have V:=fx F;clear hy F;go_wp2_with (at_builtin;refine gQ _ rfl _ _ 55 rfl w.heap.size 5 iu (.int .u8 0) 1 1 underlying55 hiu hu0 hu1 hu2 rfl (by decide) _ _ _ rfl (z.b.alloc _) ⟨wr.heap.size,0,none⟩ 1 1 [.int .u8 10] rfl ?c1 ?N ?c3 ?c4 ?c5 ?c6 ?_)
     case c1=>rfl
     case N=>
      intro j u l
      match j,l with
      |0,l=>simp at l;subst l;simp[Addr.add]
     case c3=>intro u B;simp at B;subst B;rfl
     case c4=>unfold maxLen;omega
     case c5=>omega
     case c6=>have:=z.kept.size;simp;omega
     intro aa J A G a7;have⟨bo',bc',hvb⟩:=fS A;subst hvb;have C:Kept [] w J:=(z.kept.alloc _).grown G (λx d=> .inr (z.b.lt x d).1);have o:J.ownsRow w.heap.size 3 1 (.slice ax (fX s 0).length ac) (fX s 0).length (qm s 0):=by
      have X:Kept (Value.slice bo (fX s 0).length bc).ownBlock.toList (wr.alloc (.cells #[.int .u8 10] 5)) J:=(Kept.refl _ _).grown G (λx d=> .inl (by simp[d]));exact X.ownsRow (z.a.alloc _) (λx d=>by simp;exact λY=>mZ z.b z.a (by decide) x Y d)
     have D:=fx A;clear A;go_wp2_with (at_builtin;refine gQ _ rfl _ _ 23 rfl w.heap.size 3 ii (fK 0) 1 8 underlying23 a3 a0 a1 a2 rfl (by decide) _ _ _ rfl (o.alloc _) ⟨J.heap.size,0,none⟩ 1 1 [fK ((0:Nat))] rfl ?c1 ?N ?c3 ?c4 ?c5 ?c6 ?_)
     case c1=>rfl
     case N=>
      intro j u l
      match j,l with
      |0,l=>simp at l;subst l;simp[Addr.add]
     case c3=>intro u B;simp at B;subst B;rfl
     case c4=>unfold maxLen;omega
     case c5=>omega
     case c6=>have:=C.size;simp;omega
     intro a9 w3 I H a8;have⟨ao',ac',hva⟩:=fS I;subst hva;have HE:Hid (Sa s w (0+1) (.slice bo' ((fX s 0).length+1) bc') (.slice ao' ((fX s 0).length+1) ac') w3):=by
      have X:Kept (Value.slice ax (fX s 0).length ac).ownBlock.toList (J.alloc (.cells #[fK ((0:Nat))] 3)) w3:=(Kept.refl _ _).grown H (λx d=> .inl (by simp[d]));refine⟨?_,?_,(C.alloc _).grown H (λx d=> .inr (o.lt x d).1)⟩
      .unfold vk;rw[HY.out,rp,lY];have:=X.ownsRow (D.alloc _) (λx d=>by simp;exact λY=>mZ o D (by decide) x Y d)
       simpa [vk,V.out]using this
      .unfold qm;rw[HY.out,rp,lY]
       simpa [qm]using I
     generalize (fX s 0).length=a5 at *;go_wp2;go_roundw
     case rel=>exact⟨0+1,by go_num,by omega,HE⟩
     case measure=>simp[intOf];omega
    .have N:wr.cell? ⟨g,k - 1,none⟩=some (.int .u8 (bt s (k - 1))):=by
      have⟨g',O,N⟩:=HC wr z.kept (k - 1) (by omega);obtain rfl:g=g':=by simpa using O
      exact N
     obtain⟨m,rfl⟩:∃m,k=m+1:=⟨k - 1,by omega⟩;simp only[P5]at N
     by_cases U:bt s m=13
     .have K:qw s (m+1)=false:=by unfold qw;simp[T,U]
      have HE:Hid (Sa s w (m+1+1) (.slice bo (fX s (m+1)).length bc) (.slice ax (fX s (m+1)).length ac) wr):=by
       have:=z;refine⟨?_,?_,this.kept⟩
       .have h:=this.b;unfold vk at h|-;rw[Jb K];exact h
       .have h:=this.a;unfold qm at h|-;rw[Jb K];exact h
      rw[T]at c1;rw[U]at N;generalize (fX s (m+1)).length=a5 at *;go_wp2;go_roundw
      case rel=>exact⟨m+1+1,by go_num,by omega,HE⟩
      case measure=>simp[intOf];omega
     .have K:qw s (m+1)=true:=by unfold qw;simp[U]
      have F:Pb s (m+1)=10:=by unfold Pb;rw[T];rfl
      have aB:¬bt s m=13:=U;rw[T]at c1;have m0:=bt_nonneg s m;have m1:=bt_le s m;have hy:=vN K;have HY:=fx hy;have V:=fx F;clear hy F;go_wp2_with (at_builtin;refine gQ _ rfl _ _ 55 rfl w.heap.size 5 iu (.int .u8 0) 1 1 underlying55 hiu hu0 hu1 hu2 rfl (by decide) _ _ _ rfl (z.b.alloc _) ⟨wr.heap.size,0,none⟩ 1 1 [.int .u8 10] rfl ?c1 ?N ?c3 ?c4 ?c5 ?c6 ?_)
      case c1=>rfl
      case N=>
       intro j u l
       match j,l with
       |0,l=>simp at l;subst l;simp[Addr.add]
      case c3=>intro u B;simp at B;subst B;rfl
      case c4=>unfold maxLen;omega
      case c5=>omega
      case c6=>have:=z.kept.size;simp;omega
      intro aa J A G a7;have⟨bo',bc',hvb⟩:=fS A;subst hvb;have C:Kept [] w J:=(z.kept.alloc _).grown G (λx d=> .inr (z.b.lt x d).1);have o:J.ownsRow w.heap.size 3 1 (.slice ax (fX s (m+1)).length ac) (fX s (m+1)).length (qm s (m+1)):=by
       have X:Kept (Value.slice bo (fX s (m+1)).length bc).ownBlock.toList (wr.alloc (.cells #[.int .u8 10] 5)) J:=(Kept.refl _ _).grown G (λx d=> .inl (by simp[d]));exact X.ownsRow (z.a.alloc _) (λx d=>by simp;exact λY=>mZ z.b z.a (by decide) x Y d)
      have D:=fx A;clear A;go_wp2_with (at_builtin;refine gQ _ rfl _ _ 23 rfl w.heap.size 3 ii (fK 0) 1 8 underlying23 a3 a0 a1 a2 rfl (by decide) _ _ _ rfl (o.alloc _) ⟨J.heap.size,0,none⟩ 1 1 [fK (((m+1):Nat):Int)] rfl ?c1 ?N ?c3 ?c4 ?c5 ?c6 ?_)
      case c1=>rfl
      case N=>
       intro j u l
       match j,l with
       |0,l=>simp at l;subst l;simp[Addr.add]
      case c3=>intro u B;simp at B;subst B;rfl
      case c4=>unfold maxLen;omega
      case c5=>omega
      case c6=>have:=C.size;simp;omega
      intro a9 w3 I H a8;have⟨ao',ac',hva⟩:=fS I;subst hva;have HE:Hid (Sa s w ((m+1)+1) (.slice bo' ((fX s (m+1)).length+1) bc') (.slice ao' ((fX s (m+1)).length+1) ac') w3):=by
       have X:Kept (Value.slice ax (fX s (m+1)).length ac).ownBlock.toList (J.alloc (.cells #[fK (((m+1):Nat):Int)] 3)) w3:=(Kept.refl _ _).grown H (λx d=> .inl (by simp[d]));refine⟨?_,?_,(C.alloc _).grown H (λx d=> .inr (o.lt x d).1)⟩
       .unfold vk;rw[HY.out,rp,lY];have:=X.ownsRow (D.alloc _) (λx d=>by simp;exact λY=>mZ o D (by decide) x Y d)
        simpa [vk,V.out]using this
       .unfold qm;rw[HY.out,rp,lY]
        simpa [qm]using I
      generalize (fX s (m+1)).length=a5 at *;go_wp2;go_roundw
      case rel=>exact⟨(m+1)+1,by go_num,by omega,HE⟩
      case measure=>simp[intOf];omega
   .by_cases U:bt s k=13
    .have K:qw s k=true:=by unfold qw;simp[T]
     have F:Pb s k=10:=by unfold Pb;rw[U];rfl
     rw[U]at c1;have hy:=vN K;have HY:=fx hy;have V:=fx F;clear hy F;go_wp2_with (at_builtin;refine gQ _ rfl _ _ 55 rfl w.heap.size 5 iu (.int .u8 0) 1 1 underlying55 hiu hu0 hu1 hu2 rfl (by decide) _ _ _ rfl (z.b.alloc _) ⟨wr.heap.size,0,none⟩ 1 1 [.int .u8 10] rfl ?c1 ?N ?c3 ?c4 ?c5 ?c6 ?_)
     case c1=>rfl
     case N=>
      intro j u l
      match j,l with
      |0,l=>simp at l;subst l;simp[Addr.add]
     case c3=>intro u B;simp at B;subst B;rfl
     case c4=>unfold maxLen;omega
     case c5=>omega
     case c6=>have:=z.kept.size;simp;omega
     intro aa J A G a7;have⟨bo',bc',hvb⟩:=fS A;subst hvb;have C:Kept [] w J:=(z.kept.alloc _).grown G (λx d=> .inr (z.b.lt x d).1);have o:J.ownsRow w.heap.size 3 1 (.slice ax (fX s k).length ac) (fX s k).length (qm s k):=by
      have X:Kept (Value.slice bo (fX s k).length bc).ownBlock.toList (wr.alloc (.cells #[.int .u8 10] 5)) J:=(Kept.refl _ _).grown G (λx d=> .inl (by simp[d]));exact X.ownsRow (z.a.alloc _) (λx d=>by simp;exact λY=>mZ z.b z.a (by decide) x Y d)
     have D:=fx A;clear A;go_wp2_with (at_builtin;refine gQ _ rfl _ _ 23 rfl w.heap.size 3 ii (fK 0) 1 8 underlying23 a3 a0 a1 a2 rfl (by decide) _ _ _ rfl (o.alloc _) ⟨J.heap.size,0,none⟩ 1 1 [fK ((k:Nat))] rfl ?c1 ?N ?c3 ?c4 ?c5 ?c6 ?_)
     case c1=>rfl
     case N=>
      intro j u l
      match j,l with
      |0,l=>simp at l;subst l;simp[Addr.add]
     case c3=>intro u B;simp at B;subst B;rfl
     case c4=>unfold maxLen;omega
     case c5=>omega
     case c6=>have:=C.size;simp;omega
     intro a9 w3 I H a8;have⟨ao',ac',hva⟩:=fS I;subst hva;have HE:Hid (Sa s w (k+1) (.slice bo' ((fX s k).length+1) bc') (.slice ao' ((fX s k).length+1) ac') w3):=by
      have X:Kept (Value.slice ax (fX s k).length ac).ownBlock.toList (J.alloc (.cells #[fK ((k:Nat))] 3)) w3:=(Kept.refl _ _).grown H (λx d=> .inl (by simp[d]));refine⟨?_,?_,(C.alloc _).grown H (λx d=> .inr (o.lt x d).1)⟩
      .unfold vk;rw[HY.out,rp,lY];have:=X.ownsRow (D.alloc _) (λx d=>by simp;exact λY=>mZ o D (by decide) x Y d)
       simpa [vk,V.out]using this
      .unfold qm;rw[HY.out,rp,lY]
       simpa [qm]using I
     generalize (fX s k).length=a5 at *;go_wp2;go_roundw
     case rel=>exact⟨k+1,by go_num,by omega,HE⟩
     case measure=>simp[intOf];omega
    .have K:qw s k=true:=by unfold qw;simp[T]
     have F:Pb s k=bt s k:=by unfold Pb;rw[gn U]
     have hy:=vN K;have HY:=fx hy;have V:=fx F;clear hy F;go_wp2_with (at_builtin;refine gQ _ rfl _ _ 55 rfl w.heap.size 5 iu (.int .u8 0) 1 1 underlying55 hiu hu0 hu1 hu2 rfl (by decide) _ _ _ rfl (z.b.alloc _) ⟨wr.heap.size,0,none⟩ 1 1 [.int .u8 (bt s k)] rfl ?c1 ?N ?c3 ?c4 ?c5 ?c6 ?_)
     case c1=>rfl
     case N=>
      intro j u l
      match j,l with
      |0,l=>simp at l;subst l;simp[Addr.add]
     case c3=>intro u B;simp at B;subst B;rfl
     case c4=>unfold maxLen;omega
     case c5=>omega
     case c6=>have:=z.kept.size;simp;omega
     intro aa J A G a7;have⟨bo',bc',hvb⟩:=fS A;subst hvb;have C:Kept [] w J:=(z.kept.alloc _).grown G (λx d=> .inr (z.b.lt x d).1);have o:J.ownsRow w.heap.size 3 1 (.slice ax (fX s k).length ac) (fX s k).length (qm s k):=by
      have X:Kept (Value.slice bo (fX s k).length bc).ownBlock.toList (wr.alloc (.cells #[.int .u8 (bt s k)] 5)) J:=(Kept.refl _ _).grown G (λx d=> .inl (by simp[d]));exact X.ownsRow (z.a.alloc _) (λx d=>by simp;exact λY=>mZ z.b z.a (by decide) x Y d)
     have D:=fx A;clear A;go_wp2_with (at_builtin;refine gQ _ rfl _ _ 23 rfl w.heap.size 3 ii (fK 0) 1 8 underlying23 a3 a0 a1 a2 rfl (by decide) _ _ _ rfl (o.alloc _) ⟨J.heap.size,0,none⟩ 1 1 [fK ((k:Nat))] rfl ?c1 ?N ?c3 ?c4 ?c5 ?c6 ?_)
     case c1=>rfl
     case N=>
      intro j u l
      match j,l with
      |0,l=>simp at l;subst l;simp[Addr.add]
     case c3=>intro u B;simp at B;subst B;rfl
     case c4=>unfold maxLen;omega
     case c5=>omega
     case c6=>have:=C.size;simp;omega
     intro a9 w3 I H a8;have⟨ao',ac',hva⟩:=fS I;subst hva;have HE:Hid (Sa s w (k+1) (.slice bo' ((fX s k).length+1) bc') (.slice ao' ((fX s k).length+1) ac') w3):=by
      have X:Kept (Value.slice ax (fX s k).length ac).ownBlock.toList (J.alloc (.cells #[fK ((k:Nat))] 3)) w3:=(Kept.refl _ _).grown H (λx d=> .inl (by simp[d]));refine⟨?_,?_,(C.alloc _).grown H (λx d=> .inr (o.lt x d).1)⟩
      .unfold vk;rw[HY.out,rp,lY];have:=X.ownsRow (D.alloc _) (λx d=>by simp;exact λY=>mZ o D (by decide) x Y d)
       simpa [vk,V.out]using this
      .unfold qm;rw[HY.out,rp,lY]
       simpa [qm]using I
     generalize (fX s k).length=a5 at *;go_wp2;go_roundw
     case rel=>exact⟨k+1,by go_num,by omega,HE⟩
     case measure=>simp[intOf];omega
  .have ay:k=s.size:=by omega
   subst ay;have z:=hh;have⟨bo,bc,hvb⟩:=fS hh.b;have⟨ax,ac,hva⟩:=fS hh.a;subst hvb hva;have ap:=Hj s s.size;have ar:vk s s.size=((fX s s.size).map (cS s)).map λb=> .int .u8 (b.toNat:Int):=by
    unfold vk;rw[JU];refine UV λk _=>?_;simp only[Function.comp];rw[L6]
   have Z:=hh.b;rw[ar]at Z;obtain⟨wa,a4⟩:∃wa,wa=(wr.alloc (.cells #[fK s.size] 3)).drew:=⟨_,rfl⟩;have ka:Kept [] wr wa:=by rw[a4];exact((Kept.refl [] wr).alloc _).drew
   have ag:=ka.ownsRow hh.a (λ_ _=>by simp);have za:wa.heap.size=wr.heap.size+1:=by rw[a4];simp
   have aE:=hh.kept.size;have af:Hid (∀(j:Nat) (u:gh),[Value.int .i64 (s.size:Int)][j]?=some u->wa.cell? ((⟨wr.heap.size,0,none⟩:Addr).add j)=some u):=by
    intro j u l
    match j,l with
    |0,l=>
     simp at l;subst l;have:=fB wr (.cells #[fK s.size] 3);rw[iT,a4];simp
   have aA:∀k,(Value.slice bo (fX s s.size).length bc).ownBlock=some k->some k≠(Value.slice ax (fX s s.size).length ac).ownBlock:=λk hk h=>mZ hh.b hh.a (by decide) k hk h.symm;have an:=JN (w':=wr.drew) Z (by simp) (λ_ _=>rfl);have ah:=JN (w':=wa) Z (by simp) (λk hk=>ka.block k (Z.lt k hk).2 (by simp));have ad:Hid (∀wz:fO,wa.grownBy wz (Value.slice ax (fX s s.size).length ac).ownBlock->(convert 55 9 (.slice bo (fX s s.size).length bc)).run prog wz= .ok (fR (oC s)) wz):=λwz O=>
    JN (w':=wz) Z (by simp) (λk hk=>(O.block k (by have:=(Z.lt k hk).2;omega) (aA k hk)).trans (ka.block k (Z.lt k hk).2 (by simp)))
   have ae:Hid (∀wz:fO,wa.grownBy wz (Value.slice ax (fX s s.size).length ac).ownBlock->Kept [] w wz):=λwz O=>(hh.kept.trans ka).grown O (λx d=> .inr (hh.a.lt x d).1);have ab:=(show w.heap.size<=wa.heap.size by omega);rw[a4]at ah ad ae ag af ab;have au:(⟨((fX s s.size).map (cS s)).toArray⟩:fN)=oC s:=rfl;rw[au]at an ah
   go_wp21
   go_region_law (refine step_append_lies _ rfl (.tmp 42) (.tmp 45) 23 rfl w.heap.size 3 ii (fK 0) 1 8 underlying23 a3 a0 a1 a2 rfl (by decide) _ _ _ (by rfl) ag ⟨wr.heap.size,0,none⟩ 1 1 [fK s.size] (by rfl) rfl af (by intro u B;simp at B;subst B;rfl) (by decide) (by unfold maxLen;omega) (by omega) ab (wr.heap.size+1) (by simp) ?_;intro g am wz aj O aq ai;have aD:=ad wz O;have ak:=fx (ae wz O);have al:=fx aj;clear aj O aq ai)
   all_goals (try go_wp2)
   all_goals (try go_ret2)
   all_goals exact⟨_,rfl,al,ak⟩
def iW (s:fN) (i:Nat):Nat:=(fX s s.size++[s.size]).getD i 0
theorem WX (s:fN) (i:Nat) (h:i<=(oC s).size):(qm s s.size++[fK s.size])[i]?=some (fK (iW s i)):=by
 rw[uk]at h
 grind[qm,iW]
def rI (s:fN) (rY:Int) (av:gh) (b:Nat):RC:={cs:=oC s,av:=av,at_:=rY,mv:= .map (some b),lg:=8}
def KP (s:fN) (T:gh) (base:Nat) (rY:Int) (w:fO) (I:w.ownsRow base 5 1 T s.size (kD s)) (hs:s.size<=1024):
  Calls prog 53 #[T,fK rY] w λe w'=>∃r b x g a,e=gO (fW r)/\w.heap.size<=r/\w.heap.size<=b/\w.heap.size<=g/\Rd w' r (rI s rY x b) 0 0/\Lz w' r (rI s rY x b) g a (iW s)/\Lk w' b (pA KV)/\b≠r/\(∃A,w'.heap[g]?=some (fV A 3))/\Kept [] w w':=by
 have⟨ao,cp,htv⟩:=fS I;subst htv;have X:=fx I;clear I;go_enter func53,ntmps53
 go_wp21
 refine(Qh w).mono ?_;rintro e k ⟨b,rfl,Z,N,o⟩;have O:Kept [] k (k.alloc (.cells #[fR js,iQ,fK 0,fK 0,fK rY,.map (some b),fK 8,fR js,.bool false] 165)):=(Kept.refl _ _).alloc _;have Y:=fB k (.cells #[fR js,iQ,fK 0,fK 0,fK rY,.map (some b),fK 8,fR js,.bool false] 165);have V:=Yx s (.slice ao s.size cp) base _ ((o.trans O).ownsRow X (λ_ _=>by simp)) hs;have C:=o.trans O;have z:=o.size
 go_wp21
 refine V.mono ?_;rintro e U ⟨x,rfl,m,u⟩;have l:=u.at Y (by simp);have c0:=fw l 0;have c1:=fw l 1;have f0:=fA l 0;have f1:=fA l 1;dsimp at c0 c1;have⟨ax,ac,hv⟩:=fS m;subst hv;obtain⟨d,v⟩:∃d,d=(U.setCell ⟨k.heap.size,0,none⟩ (fR (oC s))).setCell ⟨k.heap.size,1,none⟩ (.slice ax ((fX s s.size).length+1) ac):=⟨_,rfl⟩;have B:Kept [k.heap.size] U d:=by rw[v];exact((Kept.refl _ _).setCell (.inl (by simp)) _).setCell (.inl (by simp)) _
 have rz:Rd d k.heap.size (rI s rY (.slice ax ((fX s s.size).length+1) ac) b) 0 0:=by
  rw[v];exact fI (fI l 0 _) 1 _
 have a1:b < k.heap.size:=N.lt;have F:Lk d b (pA KV):=((N.kept ((Kept.refl [] k).alloc _) (by simp)).kept u (by simp)).kept B (by simp;omega);have D:∃g a,(w.heap.size<=g/\∃A,d.heap[g]?=some (fV A 3))/\Lz d k.heap.size (rI s rY (.slice ax ((fX s s.size).length+1) ac) b) g a (iW s):=by
  rcases m.2 with⟨_,h0⟩|⟨g,a,a0,h,G,H,_⟩
  .omega
  .have a2:k.heap.size < g:=by simp at G;omega
   refine⟨g,a,⟨by omega,⟨_,B.at H (by simp;omega)⟩⟩,?_,by omega,lz (iB H) B.size,λi hi=>?_⟩
   .show Value.slice ax _ ac=_;rw[h];show Value.slice _ _ _=Value.slice _ ((oC s).size+1) _;rw[uk]
   .rw[B.cell (p:=⟨g,i,none⟩) (iB H) (by simp;omega)];have:=m.cells (g:=g) (by rw[h];rfl) i _ (WX s i hi);rw[iT]at this;omega
 have⟨g,a,⟨hgl,hgt⟩,hA⟩:=D;have J:Kept [] w d:=(C.trans u).next B (by simp;exact z)
 have K:Hid (∃r b x g a,gO (fW k.heap.size)=gO (fW r)/\w.heap.size<=r/\w.heap.size<=b/\w.heap.size<=g/\Rd d r (rI s rY x b) 0 0/\Lz d r (rI s rY x b) g a (iW s)/\Lk d b (pA KV)/\b≠r/\(∃A,d.heap[g]?=some (fV A 3))/\Kept [] w d):=by
  exact⟨_,b,_,g,a,rfl,z,Z,hgl,rz,hA,F,by omega,hgt,J⟩
 rw[v]at K;go_wp2;go_ret;exact K
end
end Go.Proofs.YtlhhgenpcjjajaaGreatDoor
