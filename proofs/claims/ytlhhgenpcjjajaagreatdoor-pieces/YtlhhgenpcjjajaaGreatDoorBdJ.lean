import Derived.Test.YtlhhgenpcjjajaaGreatDoorRelE
import Derived.Stop.Asserts
import Derived.RowKitTokens
import Derived.Defers
import Derived.Recover
import Derived.Laws.Pointers
import Derived.Outline
import Derived.Deep.RegionWith
import Derived.Handy
import Derived.PlainAid
import Derived.Lib.IndexAny
import Derived.BigRegion
import Derived.Laws.BytesArg
import Derived.Deep.AppendLies
import Derived.Laws.StructEq
set_option linter.unusedSimpArgs false
set_option linter.unusedVariables false
set_option linter.defProp false
set_option maxHeartbeats 0
set_option maxRecDepth 100000
namespace Go.Proofs.YtlhhgenpcjjajaaGreatDoor
open Go.RowKit Go.Extern.Stop Go.Stop Go.Extern Go.PlainAid Tryz
def lU:=@Nat.le_succ
def xE:=@Nat.eq_zero_or_pos
def qy:=@World.cell?_alloc_lt
def lf:=@List.mem_cons
def UK:=@run_convert_bytes_back
def yz:=@Calls.quiet_of
def xF:=@dif_pos
def mJ:=@List.length_append
section
variable {E : Env} {L : lZ} {S : List Nat} {W w w' : gx} {b base clock g i it j n r : Nat} {c : jN} {f : Nat->Nat} {p s : gz} {q : Int->Bool} {rest : kV} {t : TypeId} {y : jk}
def RF.QY {σ:Ab} (h:RF E f σ w):Calls prog 179 #[jO E.bB 188] w λe w'=>e=iw (oV f σ.last)/\w'=w:=by
 obtain⟨L,rfl,a⟩:=h;exact T7 a
def RF.agn {σ:Ab} (h:RF E f σ w):Calls prog 269 #[jO E.bB 189] w λe w'=>e=iw (gh σ.act.length)/\w'=w:=by
 obtain⟨L,rfl,a⟩:=h;exact ad0 a
def RF.atA {σ:Ab} (h:RF E f σ w) (n:Int):Calls prog 248 #[jO E.bB 189,gh n] w λe w'=>e=iw (oV f (iE σ.act n))/\w'=w:=by
 obtain⟨L,rfl,a⟩:=h;exact ag1 a n
def RF.atO {σ:Ab} (h:RF E f σ w) (n:Int):Calls prog 248 #[jO E.bB 188,gh n] w λe w'=>e=iw (oV f (iE σ.gG n))/\w'=w:=by
 obtain⟨L,rfl,a⟩:=h;exact agu a n
def RF.agj {σ:Ab} (h:RF E f σ w) (x:jk) (d:σ.hH x=true):Calls prog 322 #[jO E.bB 188,oV f x] w λe w'=>e=iw (.bool (decide (x∈σ.gG)))/\w'=w:=by
 obtain⟨L,rfl,a⟩:=h;exact agv a x d
def RF.agi {σ:Ab} (h:RF E f σ w) (x:jk) (d:σ.hH x=true):Calls prog 322 #[jO E.bB 189,oV f x] w λe w'=>e=iw (.bool (decide (x∈σ.act)))/\w'=w:=by
 obtain⟨L,rfl,a⟩:=h;exact af4 a x d
def RF.aeH {σ:Ab} (h:RF E f σ w) (x:jk) (d:σ.hH x=true):Calls prog 246 #[jO E.bB 188,oV f x] w λe w'=>e=iw (oV f (iE σ.gG (posOf σ.gG x - 1)))/\w'=w:=by
 obtain⟨L,rfl,a⟩:=h;exact zO a x d
def RF.ad1 {σ:Ab} (h:RF E f σ w) (n:Int):σ.hH (iE σ.act n)=true:=by
 obtain⟨L,rfl,k⟩:=h;unfold iE
 by_cases d:0<=n/\n < σ.act.length
 .rw[gJ d];have a:n.toNat < σ.act.length:=by omega
  have e:σ.act.getD n.toNat none=σ.act[n.toNat]:=by simp[List.getD,a]
  rw[e];exact k.wf.act _ (uw a)
 .rw[gV d];rfl
def acr {σ:Ab} (h:RF E f σ w) (x:jk) (d:σ.hH x=true):
  Calls prog 274 #[Bp E,oV f x] w λe w'=>e=iw (.bool (σ.TS x))/\w'=w:=by
 have C:=h.agj x d;unfold Ab.TS;cases x with
 |none=>
  go_enter func274,ntmps274;go_wp2;go_ret;simp
 |some i=>
  have a:oV f (some i)=gN (f i):=rfl;rw[a]at C|-;go_enter func274,ntmps274
  go_wp21
  refine C.mono ?_;rintro e w' ⟨rfl,rfl⟩;go_wp2;go_ret;simp
theorem CV (E:Env) (x:jk):kF E 290 (λf=>#[Bp E,oV f x]) (lK x) uV:=by
 intro f d w ⟨L,e,h⟩ u;subst e;have H:=h.low (j:=1) (by decide) h.vM.2.1;have⟨_,_,_,_,hd,_⟩:=h.vM;have G:=h.Fp;have m:=(λq=>ad0 (h.drewN q));unfold lK at u|-
 by_cases o:d.rZ<=d.act.length
 .rw[gJ o];have l:=(λq=>Pa (h.drewN q) 6);go_enter func290,ntmps290
  go_wp21
  go_quiet ((go_at_call 269;exact Nv (m _)))
  go_wp21
  refine(l nq).mono ?_;rintro e w' ⟨k,rfl,v,D⟩;have z:=(Fr.drewN w nq).trans D;go_wp2;exact⟨rfl,k,rfl,v,z⟩
 .rw[gV o]at u|-;have a:d.hH x=true:=by
   by_cases a:d.hH x=true
   .exact a
   .grind
  rw[gJ a];have l:=(λq=>aeF (h.drewN q) x a (by omega));go_enter func290,ntmps290
  go_wp21
  go_quiet ((go_at_call 269;exact Nv (m _)))
  go_wp21
  refine(l nq).mono ?_;rintro e w' ⟨rfl,C,e1,B,F⟩;have A:=(Fr.drewN w nq).trans F;go_wp2;go_end0;exact⟨rfl,⟨C,e1,B⟩,A,gW _⟩
def M.tail {α:Type} {m:M α} {σ:Ab} {R:qI α} (h:R=m σ):R=(m>>=λa=>(Pure.pure a:M α)) σ:=by rw[M.bind_pure];exact h
def AQ (E:Env):kF E 223 (λ_=>#[Bp E]) (lK none) uV:=by
 refine mI λf d w R a HS H=>?_;go_enter func223,ntmps223;replace a:=fV (M.tail a)
 go_wp21
 refine mC (CV E none) H a HS rfl mT ?_;rintro(_) d w H e a;go_wp2;go_end0;exact kh a H rfl
def Sv (E:Env):kF E 289 (λ_=>#[Bp E]) Ac uV:=by
 refine mI λf d w R a HS H=>?_;unfold Ac at a;go_enter func289,ntmps289
 go_wp21
 refine mC (YK E none) H a HS rfl mT ?_;rintro(_) d w H e a;go_wp2;go_end0;exact kh a H rfl
def XT {σ:Ab} {xs : kV} {x : jk}:σ.uU ((xs++[x]).reverse)=if σ.TS x then xs.length+1 else σ.uU xs.reverse:=by
 simp[Ab.uU]
def abH {σ:Ab} (h:RF E f σ w) (x y:jk) (a:rX x y σ≠ .stuck):
  Calls prog 276 #[jO E.bB 189,oV f x,oV f y] w λe w'=>e=pE/\rX x y σ= .ok () {σ with act:=qi σ.act x y}/\RF E f {σ with act:=qi σ.act x y} w'/\Fr E.bs w w':=by
 have:=abI E x y f σ w h a;unfold rX at this a|-
 by_cases d:(σ.hH x&&σ.hH y)=true
 .rw[gJ d]at this|-;exact this.mono (λe w' h=>⟨h.1,rfl,h.2.1,h.2.2.1⟩)
 .rw[gV d]at a;exact absurd rfl a
theorem RR (xs:kV) (x y:jk):(qi xs x y).length=xs.length:=by
 grind[qi]
theorem QK {σ σ':Ab} (h:mn j σ= .ok () σ'):σ'.act=σ.act:=by
 unfold mn at h;rw[M.gE]at h;cases a:mh σ with
 |stuck=>grind
 |stop c p=>grind
 |ok pl σ1=>
  have e1:σ1=σ:=by
   unfold mh at a;cases hl:σ.last with
   |none=>grind
   |some i=>
    rw[hl]at a;have a:placeFor i σ= .ok pl σ1:=a;unfold placeFor at a;split at a
    .exact pk a
    .exact pQ a
  rw[e1]at a;rw[a]at h;simp only at h;rw[M.gE]at h;cases h2:nT pl j σ with
  |stuck=>grind
  |stop c p=>grind
  |ok u σ2=>
   have e2:σ2.act=σ.act:=by
    unfold nT at h2;split at h2
    .split at h2
     .cases h2;rfl
     grind
    .cases h2
   rw[h2]at h;simp only at h;rw[M.gE]at h;cases h3:ya (some j) σ2 with
   |stuck=>grind
   |stop c p=>grind
   |ok u σ3=>
    rw[h3]at h;have e:σ3.act=σ2.act:=by
     unfold ya at h3;split at h3
     .cases h3
     .grind
    have:σ3=σ':=by
     have d:(qI.ok () σ3:qI Unit)= .ok () σ':=h;cases d;rfl
    grind
theorem sH (E:Env) (hF:lH E):je E 190 (λ_=>#[Bp E]) me uV:=by
 intro f a w G HS;obtain⟨R,hR⟩:∃R,R=me a:=⟨_,rfl⟩;rw[<-hR]at HS|-;have H:=At.start G;have Y:R=H8 (a.act.length - a.Bl) a.Bl a:=hR;have z:=fV Y;have C1:=G.agn;have ah:=G.lt;have ap:a.act.length<=4096:=by have⟨L,_,hr⟩:=G;exact hr.Fp
 have ai:a.Bl<=a.act.length:=by
  have:∀F:kV,a.uU F<=F.length:=by
   intro F
   induction F with
   |nil=>simp[Ab.uU]
   |cons x F ih=>
    show(if a.TS x then F.length+1 else a.uU F)<=F.length+1;split<;>omega
  have:=this a.act.reverse
  rwa [List.length_reverse]at this
 clear hR Y;go_enter func190,ntmps190
 go_wp21
 refine C1.mono ?_;rintro e w ⟨rfl,rfl⟩
 go_wp21
 rename_i K I;have T:∀(u8 u9 a2 a3 a4 a5 a6 a7 a8 a9 aa ab ac ad ae:gQ),K {tmps:=#[Bp E,undef,gh a.Bl,undef,Bp E,gN E.bB,jO E.bB 189,gh a.act.length,u8,u9,a2,a3,a4,a5,a6,a7,a8,a9,aa,ab,ac,ad,ae,undef,undef,undef,undef,undef,undef,undef,undef,undef,undef,undef,undef,undef,undef,undef,undef,undef,undef,undef,undef,undef,undef,undef,undef,undef,undef],defers:=[]} w:=by
  intro u8 u9 a2 a3 a4 a5 a6 a7 a8 a9 aa ab ac ad ae;refine I _ _ ?_;have ao:=ai;clear I C1
  go_wp21
  go_loopw [2,3] (λv v3 wr=>∃(k n:Nat) (g:Nat->Nat) (l:Ab),v=gh n/\n+k=a.act.length/\At E f a.nodes.length w g l wr/\R=H8 k n l/\l.act.length=a.act.length) (λv _ _=>a.act.length - (intOf v).toNat)
  case atStart=>exact⟨a.act.length - a.Bl,a.Bl,f,a,rfl,by omega,H,z,rfl⟩
  case round=>
   obtain⟨k,n,g,l,rfl,aq,H,X,U⟩:=hrel;have z:=fV X;have C:=H.rel.agn;rw[U]at C;have ah:=H.lt;clear X;cases k with
   |zero=>
    have e0:(n:Int)=(a.act.length:Int):=by omega
    have J:((n:Int) < (a.act.length:Int))=False:=by simp;omega
    go_wp21
    refine C.mono ?_;rintro e w' ⟨rfl,rfl⟩;go_wp2;go_end0;exact gw z H rfl
   |succ k=>
    have J:(n:Int) < (a.act.length:Int):=by omega
    have o:∃d,iE l.act (n:Int)=some d:=by
     cases hg:iE l.act (n:Int)with
     |some i=>simp
     |none=>
      exfalso;apply HS;rw[z.out];unfold H8;rw[M.gE];unfold Gk;rw[hg]
    have⟨d,o⟩:=o;have u:=H.rel.ad1 (n:Int);have m:=H.rel.atA (n:Int);rw[o]at m u;have ag:=fV (Ab.mq u);replace z:Hid (R=(lp d>>=λj=>(do
      mn j
      rD d
      H8 k (n+1):M Unit)) l):=by
     refine fV (z.trans ?_);show(Gk n>>=_) l=_;rw[M.gE];unfold Gk;rw[o]
    clear o u
    go_wp21
    refine C.mono ?_;rintro e wr ⟨rfl,rfl⟩
    go_wp21
    refine m.mono ?_;rintro e wr ⟨rfl,rfl⟩;rw[show oV g (some d)=gN (g d)from rfl];clear m C
    go_wp21
    refine je.PX (Mn E d) H z HS rfl ?_ ?_
    .intro c p j ws H1 H2 H3;go_wp2;exact⟨rfl,pJ H1 H2 H3⟩
    rintro j g2 al w2 N h0 h2 V B;have HX:=fV h0;have HJ:Hid (al.act=l.act):=by
     unfold lp at B;split at B
     .split at B
      .cases B
      .cases B;rfl
     .cases B
    clear B;replace H:=N;replace z:=fV V;clear N h0 h2 V
    go_wp21
    refine kF.PX (Ej E hF j) H z HS rfl ?_ ?_
    .intro c p j ws H1 H2 H3;go_wp2;exact⟨rfl,pJ H1 H2 H3⟩
    rintro⟨⟩ A w3 N h2 V B;have af:Hid (A.act=l.act):=fV ((QK B).trans HJ);clear B;replace H:=N;replace z:=fV V;have am:=N.lt;clear N h2 V;have a0:rX (some d) A.last A≠ .stuck:=by
     intro ak;apply HS;rw[z.out,M.gE];unfold rD;rw[ak]
    have CL:=(H.k0 ((Kept.refl _ w3).drew)).rel.QY;have O:=abH (H.k0 ((Kept.refl _ w3).drew)).rel (some d) A.last a0;rw[show oV g2 (some d)=gN (g d)from by show gN (g2 d)=_;rw[HX.out d ag.out]]at O;clear a0
    go_wp21
    go_region_with (first
     |(go_at_call 179;refine CL.mono ?_;rintro e w4 ⟨rfl,rfl⟩)
     |(go_at_call 276;refine O.mono ?_;rintro e w5 ⟨rfl,q1,q2,q3⟩;have HZ:=fV ((H.k0 ((Kept.refl _ w3).drew)).to q2 (sZ _ _ rfl) q3);have HQ:=fV q1;clear q1 q2 q3))
    all_goals (try (go_wp21))
    all_goals refine⟨⟨k,n+1,g2,_,by simp,by omega,HZ,?_,?_⟩,by simp[intOf];omega⟩
    .rw[z.out,M.gE];unfold rD;rw[HQ.out]
    .show(qi A.act (some d) A.last).length=a.act.length;rw[RR,af.out];exact U
 clear I H z C1
 go_loopw [2] (λv wr=>∃k:Nat,k<=a.act.length/\v=gh k/\a.uU (a.act.take k).reverse=a.Bl/\wr=w) (λv _=>(intOf v).toNat)
 case atStart=>grind[Ab.Bl]
 case round=>
  obtain⟨k,hk,rfl,h,rfl⟩:=hrel;cases k with
  |zero=>
   have hz:a.Bl=0:=by rw[<-h];rfl
   have HZ:=fV hz;clear hz h;go_wp2;have:=T;rw[HZ.out]at this
   simp_all
  |succ k=>
   have Z:k < a.act.length:=by omega
   have e1:a.act.take (k+1)=a.act.take k++[a.act[k]]:=by rw[Ff,qB Z];rfl
   rw[e1,XT]at h;have hg:iE a.act ((k:Int))=a.act[k]:=by
    unfold iE;rw[gJ (by omega)];simp[List.getD,Z]
   have m:=G.atA (k:Int);have u:=G.ad1 (k:Int);rw[hg]at m u;have D:=acr G _ u;have e2:((k+1:Nat):Int) - 1=(k:Int):=by omega
   have an:(0:Int) < ((k+1:Nat):Int):=by omega
   have a1:(a.act.take k).length=k:=by simp;omega
   rw[a1]at h;clear e1 hg u a1;generalize hM:a.TS a.act[k]=b at D h;clear hM;generalize oV f a.act[k]=vv at m D;cases b with
   |true=>
    go_wp21
    refine m.mono ?_;rintro e w ⟨rfl,rfl⟩
    go_wp21
    refine D.mono ?_;rintro e w ⟨rfl,rfl⟩
    go_wp21
    have:=T;have aj:k+1=a.Bl:=by simpa using h
    rw[<-aj]at this;exact this _ _ _ _ _ _ _ _ _ _ _ _ _ _ _
   |false=>
    go_wp21
    refine m.mono ?_;rintro e w ⟨rfl,rfl⟩
    go_wp21
    refine D.mono ?_;rintro e w ⟨rfl,rfl⟩
    go_wp21
    exact⟨⟨k,by omega,rfl,by simpa using h,trivial⟩,by simp[intOf]⟩
theorem uD (p q:gz->Bool) (σ:Ab):nL p q σ= .ok (σ.inScope p q) (σ.close p q):=by
 grind[nL,Ab.inScope,Ab.close]
def DR {σ:Ab} (h:RF E f σ w) {k l : Nat} {a d : jN} {p q : gz->Bool} (m:Ask E.bm (.func (.func k) #[] a) p w) (o:Ask E.bm (.func (.func l) #[] d) q w):
  Calls prog 228 #[Bp E,.func (.func k) #[] a,.func (.func l) #[] d] w λe w'=>e=iw (.bool (σ.inScope p q))/\RF E f (σ.close p q) w'/\Fr E.bs w w':=by
 have:=zu h m o;rw[uD]at this;exact this.mono (λe w' h=>⟨h.1,h.2.1,h.2.2.1⟩)
theorem yJ (σ:Ab) (p q:gz->Bool):σ.nodes.length<=(σ.close p q).nodes.length:=by
 unfold Ab.close;grind[Ab.F2]
def EU (E:Env) (t:gO) {σ:Ab} (h:RF E f σ w):∃a b d n l,∀w,Calls prog 177 #[iJ E t] w λe w'=>e=iw (.agg #[gh a,gh b,gH t.name,.slice d n l])/\Kept [] w w':=by
 have⟨d,n,l,htv⟩:=h.tv;have C:=λw=>ze E t w ⟨d,n,l,htv⟩;have⟨a,b,k,gM⟩:=t;cases k<;>simp only[zY,gO.name,htv]at C|-
 case start s=>exact⟨_,_,_,_,_,C⟩
 case stop s=>exact⟨_,_,_,_,_,C⟩
 all_goals exact⟨_,_,_,_,_,C⟩
def N7 (E:Env) (t:gO):je E 212 (λ_=>#[Bp E,iJ E t]) (uH) uV:=by
 refine dI λf D w R l HS H=>?_;unfold uH at l;go_enter func212,ntmps212;have⟨kb,lbb,cb,HQ⟩:=H.rel.bounds;have u:=H.lt;have o:=cb;have z:=(Kept.refl [] w).drew;replace l:Hid (R= .ok () (D.close (im [mL,mM]) (iS))):=by
  have:=l;rw[M.gE,uD]at this;exact fV this
 go_wp21
 go_region_with (first
   |(go_at_call 279;refine(GI E _).mono ?_;rintro e C ⟨G,B,rfl,h,k⟩;have d:=z.trans k;have F:C.cell? ⟨E.bB,186,none⟩=some (.func (.func kb) #[] lbb):=(d.cell (p:=⟨E.bB,186,none⟩) u (by simp)).trans o;have m:=fV h;have a:=fV d;clear h k d)
   |(go_at_call 228;refine(DR (p:=im [mL,mM]) (q:=iS) (H.k0 a).rel m (HQ.k0 a)).mono ?_;rintro e I ⟨rfl,v,x⟩;have A:=fV ((H.k0 a).to v (yJ _ _ _) x);clear v x))
 all_goals (try (go_wp21))
 all_goals go_wp2
 all_goals go_end0
 all_goals exact gw l A rfl
def Jk (E:Env) (s:gz):je E 219 (λ_=>#[Bp E,gH s]) (vD s) uV:=by
 refine dI λf D w R l HS H=>?_;unfold vD at l;go_enter func219,ntmps219;have⟨kb,lbb,cb,HQ⟩:=H.rel.Iz;have u:=H.lt;have o:=cb;have z:=(Kept.refl [] w).drew;replace l:Hid (R= .ok () (D.close (im [s]) (lB))):=by
  have:=l;rw[M.gE,uD]at this;exact fV this
 go_wp21
 go_region_with (first
   |(go_at_call 225;refine(nN E [s] w.drew (by simp)).mono ?_;rintro e C ⟨G,B,rfl,h,k⟩;have d:=z.trans k;have F:C.cell? ⟨E.bB,184,none⟩=some (.func (.func kb) #[] lbb):=(d.cell (p:=⟨E.bB,184,none⟩) u (by simp)).trans o;have m:=fV h;have a:=fV d;clear h k d)
   |(go_at_call 228;refine(DR (p:=im [s]) (q:=lB) (H.k0 a).rel m (HQ.k0 a)).mono ?_;rintro e I ⟨rfl,v,x⟩;have A:=fV ((H.k0 a).to v (yJ _ _ _) x);clear v x))
 all_goals (try (go_wp21))
 all_goals go_wp2
 all_goals go_end0
 all_goals exact gw l A rfl
def WY (E:Env) (t:gO):je E 209 (λ_=>#[Bp E,iJ E t]) (zx) uV:=by
 refine dI λf k w R d HS H=>?_;unfold zx at d;go_enter func209,ntmps209;have⟨kb,lbb,cb,HQ⟩:=H.rel.bounds;have z:=H.lt;have v:=cb;have A:=(Kept.refl [] w).drew
 go_wp21
 go_cut [11]from 4 to 10 (λr wc=>r= .bool (k.inScope (im [gI]) (iS))/\At E f k.nodes.length w f (k) wc)
 case first=>
  go_region_with (first
   |(go_at_call 225;refine(nN E [gI] w.drew (by simp)).mono ?_;rintro e F ⟨K,D,rfl,l,m⟩;have h:=A.trans m;have G:F.cell? ⟨E.bB,186,none⟩=some (.func (.func kb) #[] lbb):=(h.cell (p:=⟨E.bB,186,none⟩) z (by simp)).trans v;have u:=fV l;have a:=fV h;clear l m h)
   |(go_at_call 238;refine(wL (H.k0 a).rel (im [gI]) (iS) _ _ u (HQ.k0 a)).mono ?_;rintro e N ⟨rfl,o⟩;have B:=fV ((H.k0 a).k0 o);clear o))
  all_goals (try (go_wp21))
  all_goals (go_meet;exact⟨rfl,B⟩)
 case rest=>
  obtain⟨rfl,x⟩:=hcut;replace H:=x;cases hc:k.inScope (im [gI]) iS with
  |true=>
   replace d:Hid (R= .ok () {k with mode:=16}):=by
    have:=d;rw[gJ hc]at this;exact fV this
   have I:=H.sB;have J:=H.free 192;have C:=H.lt;replace H:=H.jh 16;go_wp2;go_end0;exact gw d H rfl
  |false=>
   replace d:Hid (R= .ok () k):=by
    have:=d;rw[gV (by simp[hc])]at this;exact fV this
   go_wp2;go_end0;exact gw d H rfl
def Xb (E:Env) (rec:Nat->gO->M Unit) (D:∀(m:Nat) (t:gO),ji E t->je E 171 (λ_=>#[Bp E,gh m,iJ E t]) (rec m t) uV) (t:gO) (G:ji E t):je E 210 (λ_=>#[Bp E,iJ E t]) (zA rec t) uV:=by
 refine dI λf k w R a HS H=>?_;unfold zA at a;go_enter func210,ntmps210;have⟨kb,lbb,cb,HQ⟩:=H.rel.bounds;have A:=H.lt;have x:=cb;have B:=(Kept.refl [] w).drew
 go_wp21
 go_cut [11]from 4 to 10 (λr wc=>r= .bool (k.inScope (im [gI]) (iS))/\At E f k.nodes.length w f (k) wc)
 case first=>
  go_region_with (first
   |(go_at_call 225;refine(nN E [gI] w.drew (by simp)).mono ?_;rintro e J ⟨V,I,rfl,l,o⟩;have h:=B.trans o;have O:J.cell? ⟨E.bB,186,none⟩=some (.func (.func kb) #[] lbb):=(h.cell (p:=⟨E.bB,186,none⟩) A (by simp)).trans x;have v:=fV l;have d:=fV h;clear l o h)
   |(go_at_call 238;refine(wL (H.k0 d).rel (im [gI]) (iS) _ _ v (HQ.k0 d)).mono ?_;rintro e X ⟨rfl,u⟩;have C:=fV ((H.k0 d).k0 u);clear u))
  all_goals (try (go_wp21))
  all_goals (go_meet;exact⟨rfl,C⟩)
 case rest=>
  obtain⟨rfl,z⟩:=hcut;replace H:=z;cases hc:k.inScope (im [gI]) iS with
  |true=>
   replace a:Hid (R=(kZ rec t>>=λ_=>(Pure.pure ():M Unit)) {k with mode:=16}):=by
    have:=a;rw[gJ hc]at this;exact fV this
   have T:=H.sB;have U:=H.free 192;have F:=H.lt;replace H:=H.jh 16
   go_wp21
   refine dC (ui E rec D t G) H a HS rfl lT ?_;rintro(_) f k w H N K a;go_wp2;go_end0;exact gw a H rfl
  |false=>
   replace a:Hid (R= .ok () k):=by
    have:=a;rw[gV (by simp[hc])]at this;exact fV this
   go_wp2;go_end0;exact gw a H rfl
def rU (E:Env) (d:lH E) (t:gO) (l:ji E t):je E 122 (λ_=>#[Bp E,iJ E t]) (lQ t) uV:=by
 refine dI λf e w R a HS H=>?_;unfold lQ at a;go_enter func122,ntmps122
 go_wp21
 refine dC (sH E d) H a HS rfl lT ?_;rintro(_) f e w H k h a
 go_wp21
 refine dC (lz E d t l) H a HS rfl lT ?_;rintro(_) f e w H k h a;go_wp2;go_end0;exact gw a H rfl
def Se (E:Env) (d:lH E) (t:gO) (l:ji E t):je E 204 (λ_=>#[Bp E,iJ E t]) (tI t) uV:=by
 refine dI λf e w R a HS H=>?_;unfold tI at a;go_enter func204,ntmps204
 go_wp21
 refine dC (sH E d) H a HS rfl lT ?_;rintro(_) f e w H k h a
 go_wp21
 refine dC (wB E d t l) H a HS rfl lT ?_;rintro(_) f e w H k h a;go_wp2;go_end0;exact gw a H rfl
def NY (E:Env) (k:lH E) (t:gO):je E 120 (λ_=>#[Bp E,iJ E t]) (oh t) uV:=by
 refine dI λf d w R a HS H=>?_;unfold oh at a;go_enter func120,ntmps120;have C:=JH E t w;cases hn:tU t.chars with
 |true=>
  rw[hn]at C a;replace a:Hid (R= .ok () d):=a
  go_wp21
  refine C.mono ?_;rintro e w ⟨rfl,h⟩;replace H:=H.k0 h;go_wp2;go_end0;exact gw a H rfl
 |false=>
  rw[hn]at C a;replace a:Hid (R=(me>>=λ_=>(do kC t;return ():M Unit)) d):=a
  go_wp21
  refine C.mono ?_;rintro e w ⟨rfl,h⟩;replace H:=H.k0 h
  go_wp21
  refine dC (sH E k) H a HS rfl lT ?_;rintro(_) f d w H m l a
  go_wp21
  refine dC (wA E k t) H a HS rfl lT ?_;rintro(_) f d w H m l a;go_wp2;go_end0;exact gw a H rfl
def I5 (E:Env) (k:lH E) (t:gO):je E 146 (λ_=>#[Bp E,iJ E t]) (pP t) uV:=by
 refine dI λf h w R a HS H=>?_;unfold pP at a;go_enter func146,ntmps146;have C:=JH E t w;cases hn:tU t.chars with
 |true=>
  rw[hn]at C a;replace a:Hid (R= .ok () h):=a
  go_wp21
  refine C.mono ?_;rintro e w ⟨rfl,d⟩;replace H:=H.k0 d;go_wp2;go_end0;exact gw a H rfl
 |false=>
  rw[hn]at C a;replace a:Hid (R=(kC t>>=λ_=>(pure ():M Unit)) h):=a
  go_wp21
  refine C.mono ?_;rintro e w ⟨rfl,d⟩;replace H:=H.k0 d
  go_wp21
  refine dC (wA E k t) H a HS rfl lT ?_;rintro(_) f h w H m l a;go_wp2;go_end0;exact gw a H rfl
def Ky (E:Env) (m:lH E) (t:gO) (u:ji E t):je E 195 (λ_=>#[Bp E,iJ E t]) (oP t) uV:=by
 refine dI λf k w R a HS H=>?_;unfold oP at a;go_enter func195,ntmps195
 go_wp21
 refine Be (λo=>yI H.rel o) H a HS lT ?_;rintro(_) k w H l a
 go_wp21
 refine(GI E _).mono ?_;rintro e w ⟨z,v,rfl,d,h⟩;replace H:=H.k0 h
 go_wp21
 refine Be (λ_=>wE H.rel d) H a HS lT ?_;rintro(_) k w H l a
 go_wp21
 refine dC (lz E m t u) H a HS rfl lT ?_;rintro(_) f k w H x l a;go_wp2;go_end0;exact gw a H rfl
def X2 (E:Env) (h:lH E) (t:gO) (l:ji E t):je E 196 (λ_=>#[Bp E,iJ E t]) (yc t) uV:=by
 refine dI λf d w R a HS H=>?_;unfold yc at a;go_enter func196,ntmps196
 go_wp21
 refine Be (λk=>yI H.rel k) H a HS lT ?_;rintro(_) d w H e a
 go_wp21
 refine dC (wB E h t l) H a HS rfl lT ?_;rintro(_) f d w H m e a;go_wp2;go_end0;exact gw a H rfl
def L9 (E:Env) (m:lH E) (t:gO) (o:ji E t):je E 202 (λ_=>#[Bp E,iJ E t]) (pM t) uV:=by
 refine dI λf k w R a HS H=>?_;unfold pM at a;go_enter func202,ntmps202
 go_wp21
 refine(nN E [gP] _ (by decide)).mono ?_;rintro e w ⟨x,u,rfl,d,h⟩;replace H:=H.k0 h
 go_wp21
 refine Be (λ_=>wE H.rel d) H a HS lT ?_;rintro(_) k w H l a
 go_wp21
 refine dC (rU E m t o) H a HS rfl lT ?_;rintro(_) f k w H v l a;go_wp2;go_end0;exact gw a H rfl
def AJ (E:Env) (m:lH E) (t:gO) (o:ji E t):je E 147 (λ_=>#[Bp E,iJ E t]) (kA t) uV:=by
 refine dI λf k w R a HS H=>?_;unfold kA at a;go_enter func147,ntmps147
 go_wp21
 refine(uS E _).mono ?_;rintro e w ⟨x,u,rfl,d,h⟩;replace H:=H.k0 h
 go_wp21
 refine Be (λ_=>wE H.rel d) H a HS lT ?_;rintro(_) k w H l a
 go_wp21
 refine dC (lz E m t o) H a HS rfl lT ?_;rintro(_) f k w H v l a;go_wp2;go_end0;exact gw a H rfl
def tH (E:Env) (u:lH E) (t:gO) (v:ji E t):je E 148 (λ_=>#[Bp E,iJ E t]) (jB t) uV:=by
 refine dI λf m w R a HS H=>?_;unfold jB at a;go_enter func148,ntmps148
 go_wp21
 refine(uS E _).mono ?_;rintro e w ⟨B,x,rfl,d,k⟩;replace H:=H.k0 k
 go_wp21
 refine Be (λ_=>wE H.rel d) H a HS lT ?_;rintro(_) m w H o a
 go_wp21
 refine(rN E _).mono ?_;rintro e w ⟨C,z,rfl,h,l⟩;replace H:=H.k0 l
 go_wp21
 refine Be (λ_=>wE H.rel h) H a HS lT ?_;rintro(_) m w H o a
 go_wp21
 refine dC (lz E u t v) H a HS rfl lT ?_;rintro(_) f m w H A o a;go_wp2;go_end0;exact gw a H rfl
def EN (E:Env) (h:lH E) (t:gO) (k:ji E t):je E 149 (λ_=>#[Bp E,iJ E t]) (mf t) uV:=by
 refine dI λf d w R a HS H=>?_;unfold mf at a;go_enter func149,ntmps149
 go_wp21
 refine dC (tH E h t k) H a HS rfl lT ?_;rintro(_) f d w H l e a
 go_wp21
 refine mC (Dm E) H a HS rfl lT ?_;rintro(_) d w H e a;go_wp2;go_end0;exact gw a H rfl
def Cb (E:Env) (t:gO):je E 152 (λ_=>#[Bp E,iJ E t]) (nu) uV:=by
 refine dI λf l w R a HS H=>?_;unfold nu at a;go_enter func152,ntmps152
 go_wp21
 refine(uS E _).mono ?_;rintro e w ⟨o,k,rfl,d,h⟩;replace H:=H.k0 h
 go_wp21
 refine Be (λ_=>wE H.rel d) H a HS lT ?_;rintro(_) l w H m a;go_wp2;go_end0;exact gw a H rfl
def L8 (E:Env) (h:lH E) (t:gO) (k:ji E t):je E 208 (λ_=>#[Bp E,iJ E t]) (pL t) uV:=by
 refine dI λf d w R a HS H=>?_;unfold pL at a;go_enter func208,ntmps208
 go_wp21
 refine dC (rU E h t k) H a HS rfl lT ?_;rintro(_) f d w H l e a
 go_wp21
 refine mC (AQ E) H a HS rfl lT ?_;rintro(_) d w H e a;go_wp2;go_end0;exact gw a H rfl
def Kw (E:Env) (m:lH E) (t:gO) (o:ji E t):je E 126 (λ_=>#[Bp E,iJ E t]) (pY t) uV:=by
 refine dI λf k w R a HS H=>?_;unfold pY at a;go_enter func126,ntmps126
 go_wp21
 refine(Nk E _).mono ?_;rintro e w ⟨B,u,rfl,d,h⟩;replace H:=H.k0 h
 go_wp21
 refine Be (λ_=>Fq H.rel d) H a HS lT ?_;rintro(_) k w H l a
 go_wp21
 refine mC (AQ E) H a HS rfl lT ?_;rintro(_) k w H l a
 go_wp21
 refine dC (lz E m t o) H a HS rfl lT ?_;rintro(_) f k w H v l a;have x:=H.sB;have z:=H.free 192;have A:=H.lt;replace H:=H.jh 9;go_wp2;go_end0;exact gw a H rfl
def Xc (E:Env) (t:gO):je E 213 (λ_=>#[Bp E,iJ E t]) (BP) uV:=by
 refine dI λf u w R h HS H=>?_;unfold BP at h;go_enter func213,ntmps213
 go_wp21
 refine(nN E [lh] _ (by decide)).mono ?_;rintro e w ⟨x,m,rfl,a,l⟩;replace H:=H.k0 l
 go_wp21
 refine(LM H.rel).mono ?_;rintro e w ⟨z,o,rfl,k,d⟩;replace H:=H.k0 d;replace a:=a.k0 d
 go_wp21
 refine Be (λ_=>zu H.rel a k) H h HS lT ?_;rintro(_) u w H v h;go_wp2;go_end0;exact gw h H rfl
def Tz (E:Env) (h:lH E) (t:gO):je E 215 (λ_=>#[Bp E,iJ E t]) (vC) uV:=by
 refine dI λf d w R a HS H=>?_;unfold vC at a;go_enter func215,ntmps215
 go_wp21
 refine dC (sH E h) H a HS rfl lT ?_;rintro(_) f d w H k e a
 go_wp21
 refine dC (vo E h kq) H a HS rfl lT ?_;rintro(_) f d w H k e a
 go_wp21
 refine mC (Dm E) H a HS rfl lT ?_;rintro(_) d w H e a;go_wp2;go_end0;exact gw a H rfl
section
attribute [local go_sem] Oper.semAt_some
def qA (f:FuncId):Fence.wide.fn f=True:=rfl
attribute [local go_sem] qA
attribute [local simp] qA
def Ek {σ:Ab}:∀{a:kV},(∀y∈a,y≠some it/\iS (σ.rM y)=false)->σ.oD it a=false
 |[],_=>rfl
 |x::a,h=>by
  unfold Ab.oD;have⟨h1,h2⟩:=h x (by simp);rw[gV h1,h2];exact Ek λy d=>h y (by simp[d])
theorem En {σ:Ab} {r : Bool} (d:(y=some it/\r=true)\/(y≠some it/\iS (σ.rM y)=true/\r=false)):∀{a:kV},(∀y∈a,y≠some it/\iS (σ.rM y)=false)->σ.oD it (a++[y]++rest)=r
 |[],_=>by
  grind[Ab.oD]
 |x::a,h=>by
  show σ.oD it (x::(a++[y]++rest))=r;unfold Ab.oD;have⟨h1,h2⟩:=h x (by simp);rw[gV h1,h2];exact En d λy e=>h y (by simp[e])
theorem GK {σ:Ab} (h:RF E f σ w) (it:Nat) (a5:σ.hH (some it)=true):
  Calls prog 287 #[Bp E,nV f it] w λe w'=>e=iw (.bool (σ.pq it))/\Kept [] w w':=by
 obtain⟨L,rfl,k⟩:=h;have⟨fb,ab,lb0,cb,hb⟩:=k.bounds;have⟨kb,lbb,eb,heb,H2⟩:=hb.call;cases eb;refine(xC (n:=3)).1 ?_;refine xD func287 rfl trivial ?_ rfl;simp only[ntmps287,yf,uk,xI,Nat.reduceAdd,Nat.reduceSub,yg,yh,yi,yj,sg,wo];obtain⟨G,u⟩:∃G,G=((w.alloc (gL #[Bp E] 121)).alloc (gL #[gN (L.gS it)] 72)).alloc (gL #[.bool false] 4):=⟨_,rfl⟩;have a1:Kept [] w G:=by rw[u];exact(((Kept.refl _ _).alloc _).alloc _).alloc _
 have⟨b0,b1,b2⟩:=oQ w (gL #[Bp E] 121) (gL #[gN (L.gS it)] 72) (gL #[.bool false] 4);rw[<-u]at b0 b1 b2;have a:G.heap.size=w.heap.size+1+1+1:=by rw[u];simp
 have a8:=k.io a1;have⟨C,HL,hC⟩:=a8.zI;have a6:=k.lt;have HU:=Xu E.bs E.bB 188 _ C _ _ G HL;have a3:=(λ(W:gx) (o:Kept [] w W)=>(o.cell (p:=⟨E.bB,186,none⟩) a6 (by simp)).trans cb);have HO:=(λg (z:L.ov.ownBlock=some g)=>Ds k.pF z);have HN:=(λ(W:gx) (o:Kept [] w W) (i:Nat) (e:Ak) (hi:σ.ij i=some e)=>(k.io o).vW hi);have HS:=(λ(y:jk) (v:y∈σ.gG)=>k.oH v);have HI:=k.inj;have HE:=(λ(W:gx) (o:Kept [] w W) (x:jk) (hx:σ.hH x=true)=>(k.io o).hH hx);have Z:=fV a;have HW:=fV u;clear a u
 gi_wp2_with fail
 rw[<-HW.out];refine(callsIn_wide.2 HU).mono ?_;rintro e w' ⟨rfl,rfl⟩;gi_wp2;refine VZ (by omega) (f:=iG L.gS) (λx y e=>sD HI e) HL rfl [w.heap.size+1+1] ?_
  (λpre W=>Kept [] w W/\W.heap[w.heap.size]?=some (gL #[Bp E] 121)/\W.heap[w.heap.size+1]?=some (gL #[gN (L.gS it)] 72)/\W.heap[w.heap.size+1+1]?=some (gL #[.bool false] 4)/\∀y∈pre,y≠some it/\iS (σ.rM y)=false)
  (λc pre W=>c= .ret/\Kept [] w W/\∃d y r,pre=d++[y]/\(∀y∈d,y≠some it/\iS (σ.rM y)=false)/\((y=some it/\r=true)\/(y≠some it/\iS (σ.rM y)=true/\r=false))/\W.heap[w.heap.size+1+1]?=some (gL #[.bool r] 4))
  ?_ ?_ ?_ (λx=>{tmps:=#[Bp E,gN (L.gS it),gN w.heap.size,gN (w.heap.size+1),gN (w.heap.size+1+1),kI x,Bp E,gN E.bB,jO E.bB 188,vJ G.heap.size,kI x,undef,undef,undef,undef,undef,undef,undef,undef,undef,undef,undef,undef,undef,undef],defers:=[]}) ?assign ?body ?done ?stop
 .grind
 .rintro s A B aa ⟨h1,h2,U,F,I⟩ z k;have a:=Z.out;exact⟨mB h1 z k (by omega),kX h2 z k (by omega),kX U z k (by omega),kX F z k (by omega),I⟩
 .rintro c s A B aa ⟨h0,h1,d,y,r,h2,U,F,I⟩ z k;have a:=Z.out;exact⟨h0,mB h1 z k (by omega),d,y,r,h2,U,F,kX I z k (by omega)⟩
 .have o:Kept [] G (mX E.bB 188 (σ.gG.length) G):=((Kept.refl _ _).alloc _).alloc _;exact⟨a1.trans o,o.at b0 (by simp),o.at b1 (by simp),o.at b2 (by simp),by simp⟩
 case assign=>
  intro l x W K V;gi_wp2;exact V
 case body=>
  rintro l pre y W v ⟨m,B2,B3,X,B5⟩;obtain⟨i,e0,rfl,hi⟩:=HS y v;have c0:=HN W m i e0 hi;have cB:=a3 W m;have c1:=fW B2 0;have c2:=fW B3 0;have H:=fW X 0;have f3:=gu X 0;dsimp at c1 c2 H;have HB:=(λW' (o:Kept [] w W')=>H2 W' (.gU o) (σ.nm i));have HT:Hid (∀(q:Nat) (r:Bool),Kept [w.heap.size+1+1] W ((W.drewN q).setCell ⟨w.heap.size+1+1,0,none⟩ (.bool r))/\Kept [] w ((W.drewN q).setCell ⟨w.heap.size+1+1,0,none⟩ (.bool r))/\((W.drewN q).setCell ⟨w.heap.size+1+1,0,none⟩ (.bool r)).heap[w.heap.size+1+1]?=some (gL #[.bool r] 4)):=λq r=>⟨((Kept.refl _ W).drewN q).setCell (.inl (by simp)) _,(m.drewN q).setCell (.inr (by simp;omega)) _,gm (show(W.drewN q).heap[w.heap.size+1+1]?=_ from X) 0 _⟩;have a4:Hid (∀(r:Bool),Kept [w.heap.size+1+1] W (W.setCell ⟨w.heap.size+1+1,0,none⟩ (.bool r))/\Kept [] w (W.setCell ⟨w.heap.size+1+1,0,none⟩ (.bool r))/\(W.setCell ⟨w.heap.size+1+1,0,none⟩ (.bool r)).heap[w.heap.size+1+1]?=some (gL #[.bool r] 4)):=λr=>⟨(Kept.refl _ W).setCell (.inl (by simp)) _,m.setCell (.inr (by simp;omega)) _,gm X 0 _⟩;have N:=Da (HE W m (some i) (by show(σ.ij i).isSome=true;rw[hi];rfl)) (HE W m (some it) a5);rw[show ptr (iG L.gS (some i))=some ⟨L.gS i,0,none⟩from rfl,show ptr (iG L.gS (some it))=some ⟨L.gS it,0,none⟩from rfl]at N
  try dsimp only
  rw[show kI (iG L.gS (some i))=gN (L.gS i)from rfl]
  by_cases O:i=it
  .subst O;rw[wj rfl]at N;gi_wp2;have⟨t1,t2,t3⟩:=a4.out true;exact⟨t1,rfl,t2,pre,some i,true,rfl,B5,.inl ⟨rfl,rfl⟩,t3⟩
  .have a7:L.gS i≠L.gS it:=λe=>O (HI _ _ e);have Y:(some i:jk)≠some it:=λe=>O (jy e);rw[yd (by simpa using a7)]at N;gi_wp2;refine Bj l (by kernel_rfl) (by kernel_rfl) (by rfl) ?_
   repeat (gi_big_quiet_step ((exact callsIn_wide.2 (Nv (HB _ (m.drewN _))))))
   refine wpQuietIn_nil ?_;intro _ a9;have⟨nq,hw''⟩:=a9;subst hw'';cases hq:iS (σ.nm i)with
   |true=>
    gi_wp2;have⟨t1,t2,t3⟩:=HT.out nq false;exact⟨t1,rfl,t2,pre,some i,false,rfl,B5,.inr ⟨Y,hq,rfl⟩,t3⟩
   |false=>
    have HQ:=hq;gi_wp2;refine⟨(Kept.refl _ W).drewN nq,m.drewN nq,B2,B3,X,λy v=>?_⟩;rcases List.mem_append.1 v with v|v
    .exact B5 y v
    .rw[List.mem_singleton.1 v];exact⟨Y,HQ⟩
 case done=>
  rintro D W HD ⟨m,h2,U,F,I⟩ V;have a:=Z.out;have H:=fW F 0;have f3:=gu F 0;dsimp at H;have T:σ.pq it=false:=Ek (λy v=>I y v);clear a;gi_wp2;have a0:=(Pp W ⟨w.heap.size+1+1,0,none⟩ (.bool false)).same D _ V rfl;refine⟨by simp,.inl ⟨_,_,rfl,oY a0,?_⟩⟩;have J:=cell_kept (World.cell?_setCell_same' W ⟨w.heap.size+1+1,0,none⟩ (.bool false) (by rw[H];rfl)) (xB _ D (.deferred none)) (λr e=>by cases e;exact⟨_,a0,rfl⟩);refine⟨.bool false,?_,⟨by rw[T],?_⟩⟩
  .simp[results,results287,go_sem,J]
  .have a:=Z.out;have hD:=HD;exact(m.setCell (.inr (by simp;omega)) _).take (by omega) _
 case stop=>
  rintro D c pre W HD a2 ⟨rfl,m,d,y,r,rfl,U,F,I⟩ V;have⟨rest,hrest⟩:=a2;have T:σ.pq it=r:=by unfold Ab.pq;rw[<-hrest];exact En F U
  have H:=fW I 0;dsimp at H;gi_wp2;refine⟨by simp,.inl ⟨_,_,rfl,oY V,?_⟩⟩;have J:=cell_kept H (xB _ D (.deferred none)) (λr e=>by cases e;exact⟨_,V,rfl⟩);refine⟨.bool r,?_,⟨by rw[T],?_⟩⟩
  .simp[results,results287,go_sem,J]
  .have a:=Z.out;have hD:=HD;exact m.take (by omega) _
end
theorem LO (s:gz) (w:gx):Calls prog 295 #[gH s] w λe w'=>e=iw (gh (jU s))/\w'=w:=by
 have a:jU s=if (s.toList==[116,100]||s.toList==[116,104])then 13 else if s.toList==[116,114]then 12 else if (s.toList==[116,98,111,100,121]||(s.toList==[116,104,101,97,100]||s.toList==[116,102,111,111,116]))then 11 else if s.toList==[99,97,112,116,105,111,110]then 9 else if s.toList==[99,111,108,103,114,111,117,112]then 10 else if s.toList==[116,97,98,108,101]then 7 else 6:=by
  unfold jU im la;simp only[List.any_cons,List.any_nil,Bool.or_false,tJ]
 rw[a];go_enter func295,ntmps295;go_wp2
 all_goals go_ret
 all_goals refine⟨?_,rfl⟩
 all_goals simp_all
attribute [local go_sem] Oper.semAt_some
theorem Kept.both {a : gx} (h:Kept [] a w) (x:a.heap[b]?=some (gL c t)) (j:Nat) (v:gQ):Kept [] (a.setCell ⟨b,j,none⟩ v) (w.setCell ⟨b,j,none⟩ v):=by
 have l:=(Kept.refl [b] a).setCell (p:=⟨b,j,none⟩) (.inl (by simp)) v;have m:=(Kept.refl [b] w).setCell (p:=⟨b,j,none⟩) (.inl (by simp)) v;have d:(a.setCell ⟨b,j,none⟩ v).heap.size=a.heap.size:=by simp
 have u:(w.setCell ⟨b,j,none⟩ v).heap.size=w.heap.size:=by simp
 refine⟨m.os.trans (h.os.trans l.os.symm),m.tape.trans (h.tape.trans l.tape.symm),m.output.trans (h.output.trans l.output.symm),by rw[d,u];exact h.size,λk e _=>?_⟩;rw[d]at e
 by_cases o:k=b
 .subst o;exact(gm (h.at x (by simp)) j v).trans (gm x j v).symm
 .rw[m.block k (mi e h.size) (by grind),l.block k e (by grind),h.block k e (by simp)]
def Kk {σ:Ab}:∀{a:kV},(∀y∈a,jU (σ.rM y)=6)->uW σ a=6
 |[],_=>rfl
 |x::a,h=>by
  unfold uW;rw[gJ (h x (by simp))];exact Kk λy d=>h y (by simp[d])
theorem Kl {σ:Ab} (d:jU (σ.rM y)≠6):∀{a:kV},(∀y∈a,jU (σ.rM y)=6)->uW σ (a++[y]++rest)=jU (σ.rM y)
 |[],_=>by
  grind[uW]
 |x::a,h=>by
  show uW σ (x::(a++[y]++rest))=_;unfold uW;rw[gJ (h x (by simp))];exact Kl d λy e=>h y (by simp[e])
theorem VE {σ:Ab} (h:RF E f σ w):
  Calls prog 230 #[Bp E] w (kE E f σ.nodes.length w (yu σ) uV):=by
 obtain⟨L,rfl,k⟩:=h;refine(xC (n:=3)).1 ?_;refine xD func230 rfl trivial ?_ rfl;simp only[ntmps230,yf,uk,xI,Nat.reduceAdd,Nat.reduceSub,yg,yh,yi,yj,sg,wo];have ab:=k.lt;have cm:=k.sB;have fm:=k.free 192;have a8:=k.jh 6;have a7:Fr E.bs w (w.setCell ⟨E.bB,192,none⟩ (gh ((6:Nat)))):=(At.start ⟨L,rfl,k⟩).LA 192 _;obtain⟨m,z⟩:∃m,m=(w.setCell ⟨E.bB,192,none⟩ (gh 6)).alloc (gL #[Bp E] 121):=⟨_,rfl⟩;have a0:Kept [] (w.setCell ⟨E.bB,192,none⟩ (gh 6)) m:=by rw[z];exact(Kept.refl _ _).alloc _
 have b0:m.heap[w.heap.size]?=some (gL #[Bp E] 121):=by
  rw[z];have:=fX (w.setCell ⟨E.bB,192,none⟩ (gh 6)) (gL #[Bp E] 121)
  simpa using this
 have H:m.heap.size=w.heap.size+1:=by rw[z];simp
 have d:=a8.io a0;have⟨C,HL,hC⟩:=d.zI;have HU:=Xu E.bs E.bB 188 _ C _ _ m HL;have HO:=(λg (Z:L.ov.ownBlock=some g)=>Ds k.pF Z);have HN:=(λ(W:gx) (hk:Kept [] m W) (i:Nat) (e:Ak) (hi:σ.ij i=some e)=>(show W.cell? ⟨L.gS i,0,none⟩=some (gH (σ.nm i))from(d.io hk).vW (σ:={σ with mode:=6}) hi));have HS:=(λ(y:jk) (G:y∈σ.gG)=>k.oH G);have HI:=k.inj;have HM:=(λ(W:gx) (hk:Kept [] m W)=>(⟨(d.io hk).sB,(d.io hk).free 192,(d.io hk).lt⟩:_/\_/\_));have J:=fV d;have V:=a7.trans (.gU a0);have a3:=HL.iC;have aa:=k.fr.size;clear d;have HZ:=fV H;have HW:=fV z;clear H z
 gi_wp2_with fail
 rw[<-HW.out];refine⟨trivial,(callsIn_wide.2 HU).mono ?_⟩;rintro e w' ⟨rfl,rfl⟩;gi_wp2;refine Fa (by omega) (f:=iG L.gS) (λx y e=>sD HI e) HL rfl [] [E.bB] (by simp) (by grind)
  (λpre W=>Kept [] m W/\∀y∈pre,jU (σ.rM y)=6)
  (λc pre W=>c= .ret/\∃a y,pre=a++[y]/\(∀y∈a,jU (σ.rM y)=6)/\jU (σ.rM y)≠6/\Kept [] (m.setCell ⟨E.bB,192,none⟩ (gh (jU (σ.rM y)))) W)
  ?_ ?_ ?_ (λx=>{tmps:=#[Bp E,gN w.heap.size,kI x,undef,Bp E,gN E.bB,jO E.bB 192,Bp E,gN E.bB,jO E.bB 188,vJ m.heap.size,kI x,undef,undef,undef,undef,undef,undef,undef,undef,undef,undef,undef],defers:=[]}) ?assign ?body ?done ?stop
 .rintro s A B a9 ⟨o,F⟩ Z k;exact⟨mB o Z k (by omega),F⟩
 .rintro c s A B a9 ⟨h0,a,y,h2,h3,h4,F⟩ Z k;exact⟨h0,a,y,h2,h3,h4,mB F Z k (by simp)⟩
 .exact⟨((Kept.refl _ _).alloc _).alloc _,by simp⟩
 case assign=>
  intro l x W K Y;gi_wp2;exact Y
 case body=>
  rintro l pre y W G ⟨o,B5⟩;obtain⟨i,e0,rfl,hi⟩:=HS y G;have c0:=HN W o i e0 hi;have c1:=fW (o.at b0 (by simp)) 0;dsimp at c1;have⟨c2,f2,hl2⟩:=HM W o;have HB:=(λW=>LO (σ.nm i) W);have X:=fV o;have HT:=(λv=>(Kept.refl [E.bB] W).setCell (p:=⟨E.bB,192,none⟩) (.inl (by simp)) v);have a6:=(λv=>o.both a3 192 v);clear o
  try dsimp only
  rw[show kI (iG L.gS (some i))=gN (L.gS i)from rfl];obtain⟨U,N⟩:∃U,U=jU (σ.nm i):=⟨_,rfl⟩;rw[<-N]at HB;have I:Hid (jU (σ.rM (some i))=U):=fV N.symm;clear N
  gi_wp2_with (first|(refine⟨trivial,?_⟩;refine(rA l (callsIn_wide.2 (HB _))).mono ?_;rintro e W ⟨rfl,rfl⟩))
  .rename_i O;have a1:U≠6:=by intro e;subst e;simp at O
   refine⟨HT _,rfl,pre,some i,rfl,B5,by rw[I.out];omega,?_⟩;rw[I.out];exact a6 _
  .rename_i O;have a1:U=6:=by
    have:¬((U:Int)≠6):=by simpa using O
    omega
   refine⟨Kept.refl _ _,X.out,λy G=>?_⟩;rcases List.mem_append.1 G with G|G
   .exact B5 y G
   .rw[List.mem_singleton.1 G,I.out];omega
 case done=>
  rintro D W HD ⟨o,F⟩ Y;have T:yu σ= .ok () {σ with mode:=6}:=by
   show qI.ok () {σ with mode:=uW σ σ.gG.reverse}=_;rw[Kk F]
  rw[T];have X:=fV o;clear o F;gi_wp2;refine⟨by simp,.inl ⟨_,_,rfl,oY Y,?_⟩⟩;have H:=HZ.out;have hD:=HD;have u:=X.out.take (D:=D) (by omega) (.deferred none);exact⟨_,Hl rfl _ _ _,rfl,⟨L,rfl,J.out.io u⟩,V.trans (.gU u),gW _⟩
 case stop=>
  rintro D c pre W HD a2 ⟨rfl,a,y,rfl,h3,h4,F⟩ Y;have⟨rest,hrest⟩:=a2;have T:yu σ= .ok () {σ with mode:=jU (σ.rM y)}:=by
   show qI.ok () {σ with mode:=uW σ σ.gG.reverse}=_;rw[<-hrest,Kl h4 h3]
  rw[T];have a5:=J.out.jh (jU (σ.rM y));have a4:Fr E.bs m (m.setCell ⟨E.bB,192,none⟩ (gh (jU (σ.rM y)))):=(At.start ⟨L,rfl,J.out⟩).LA 192 _;have X:=fV F;clear F;gi_wp2;refine⟨by simp,.inl ⟨_,_,rfl,oY Y,?_⟩⟩;have H:=HZ.out;have hD:=HD;have u:=X.out.take (D:=D) (by simp;omega) (.deferred none);exact⟨_,Hl rfl _ _ _,rfl,⟨L,rfl,a5.io u⟩,(V.trans a4).trans (.gU u),gW _⟩
section
attribute [local go_sem] Oper.semAt_some
attribute [local go_sem] qA
attribute [local simp] qA
def Ab.iC (σ:Ab) (pre:kV) (b:jk):jk:=pre.foldl (λb y=>if lB (σ.rM y)then y else b) b
def I0 {σ:Ab}:∀{a:kV} {b:jk},(∀y∈a,y≠some it)->σ.vQ it a b=σ.iC a b
 |[],_,_=>rfl
 |x::a,b,h=>by
  unfold Ab.vQ;rw[gV (h x (by simp))];exact I0 λy d=>h y (by simp[d])
theorem I1 {σ:Ab}:∀{a:kV} {b:jk},(∀y∈a,y≠some it)->σ.vQ it (a++[some it]++rest) b=σ.iC a b
 |[],b,_=>by
  grind[Ab.vQ,Ab.iC]
 |x::a,b,h=>by
  show σ.vQ it (x::(a++[some it]++rest)) b=_;unfold Ab.vQ;rw[gV (h x (by simp))];exact I1 λy d=>h y (by simp[d])
def PT (σ:Ab) (pre:kV) (y b:jk):σ.iC (pre++[y]) b=if lB (σ.rM y)then y else σ.iC pre b:=by
 simp[Ab.iC]
theorem Ln {σ:Ab} (h:RF E f σ w) (it:Nat) (a1:σ.hH (some it)=true):
  Calls prog 353 #[Bp E,nV f it] w λe w'=>e=iw (oV f (σ.qO it))/\Kept [] w w':=by
 obtain⟨L,rfl,d⟩:=h;have⟨fb,ab,lb0,cb,hb⟩:=d.Iz;have⟨kb,lbb,eb,heb,H2⟩:=hb.call;cases eb;refine(xC (n:=3)).1 ?_;refine xD func353 rfl trivial ?_ rfl;simp only[ntmps353,yf,uk,xI,Nat.reduceAdd,Nat.reduceSub,yg,yh,yi,yj,sg,wo];obtain⟨F,v⟩:∃F,F=((w.alloc (gL #[Bp E] 121)).alloc (gL #[gN (L.gS it)] 72)).alloc (gL #[.pointer none] 72):=⟨_,rfl⟩;have X:Kept [] w F:=by rw[v];exact(((Kept.refl _ _).alloc _).alloc _).alloc _
 have⟨b0,b1,b2⟩:=oQ w (gL #[Bp E] 121) (gL #[gN (L.gS it)] 72) (gL #[.pointer none] 72);rw[<-v]at b0 b1 b2;have k:F.heap.size=w.heap.size+1+1+1:=by rw[v];simp
 have a4:=d.io X;have⟨C,HL,hC⟩:=a4.zI;have a2:=d.lt;have HU:=Xu E.bs E.bB 188 _ C _ _ F HL;have a0:=(λ(W:gx) (o:Kept [] w W)=>(o.cell (p:=⟨E.bB,184,none⟩) a2 (by simp)).trans cb);have HO:=(λg (z:L.ov.ownBlock=some g)=>Ds d.pF z);have HN:=(λ(W:gx) (o:Kept [] w W) (i:Nat) (e:Ak) (hi:σ.ij i=some e)=>(d.io o).vW hi);have HS:=(λ(y:jk) (N:y∈σ.gG)=>d.oH N);have HI:=d.inj;have HE:=(λ(W:gx) (o:Kept [] w W) (x:jk) (hx:σ.hH x=true)=>(d.io o).hH hx);have Z:=fV k;have HW:=fV v;clear k v
 gi_wp2_with fail
 rw[<-HW.out];refine(callsIn_wide.2 HU).mono ?_;rintro e w' ⟨rfl,rfl⟩;gi_wp2;refine Fa (by omega) (f:=iG L.gS) (λx y e=>sD HI e) HL rfl [w.heap.size+1+1] [] ?_ (by simp)
  (λpre W=>Kept [] w W/\W.heap[w.heap.size]?=some (gL #[Bp E] 121)/\W.heap[w.heap.size+1]?=some (gL #[gN (L.gS it)] 72)/\W.heap[w.heap.size+1+1]?=some (gL #[oV L.gS (σ.iC pre none)] 72)/\∀y∈pre,y≠some it)
  (λc pre W=>c= .exit 0/\Kept [] w W/\∃a,pre=a++[some it]/\(∀y∈a,y≠some it)/\W.heap[w.heap.size+1+1]?=some (gL #[oV L.gS (σ.iC a none)] 72))
  ?_ ?_ ?_ (λx=>{tmps:=#[Bp E,gN (L.gS it),gN w.heap.size,gN (w.heap.size+1),.pointer none,gN (w.heap.size+1+1),kI x,Bp E,gN E.bB,jO E.bB 188,vJ F.heap.size,kI x,undef,undef,undef,undef,undef,undef,undef,undef,undef,undef,undef,undef,undef,undef],defers:=[]}) ?assign ?body ?done ?stop
 .grind
 .rintro s A B a6 ⟨h1,h2,O,h4,H⟩ z d;have k:=Z.out;exact⟨mB h1 z d (by omega),kX h2 z d (by omega),kX O z d (by omega),kX h4 z d (by omega),H⟩
 .rintro c s A B a6 ⟨h0,h1,a,h2,O,H⟩ z d;have k:=Z.out;exact⟨h0,mB h1 z d (by omega),a,h2,O,kX H z d (by omega)⟩
 .have o:Kept [] F (mX E.bB 188 (σ.gG.length) F):=((Kept.refl _ _).alloc _).alloc _;exact⟨X.trans o,o.at b0 (by simp),o.at b1 (by simp),o.at b2 (by simp),by simp⟩
 case assign=>
  intro l x W K V;gi_wp2;exact V
 case body=>
  rintro l pre y W N ⟨m,B2,B3,T,B5⟩;obtain⟨i,e0,rfl,hi⟩:=HS y N;have c0:=HN W m i e0 hi;have cB:=a0 W m;have c1:=fW B2 0;have c2:=fW B3 0;have U:=fW T 0;have f3:=gu T 0;dsimp at c1 c2 U;have HB:=(λW' (o:Kept [] w W')=>H2 W' (.gU o) (σ.nm i));have HT:Hid (∀(q:Nat) (r:gQ),Kept [w.heap.size+1+1] W ((W.drewN q).setCell ⟨w.heap.size+1+1,0,none⟩ r)/\Kept [] w ((W.drewN q).setCell ⟨w.heap.size+1+1,0,none⟩ r)/\((W.drewN q).setCell ⟨w.heap.size+1+1,0,none⟩ r).heap[w.heap.size+1+1]?=some (gL #[r] 72)/\((W.drewN q).setCell ⟨w.heap.size+1+1,0,none⟩ r).heap[w.heap.size]?=some (gL #[Bp E] 121)/\((W.drewN q).setCell ⟨w.heap.size+1+1,0,none⟩ r).heap[w.heap.size+1]?=some (gL #[gN (L.gS it)] 72)):=λq r=>
   have kk:=((Kept.refl [w.heap.size+1+1] W).drewN q).setCell (p:=⟨w.heap.size+1+1,0,none⟩) (.inl (by simp)) r
   ⟨kk,(m.drewN q).setCell (.inr (by simp;omega)) _,gm (show(W.drewN q).heap[w.heap.size+1+1]?=_ from T) 0 _,kk.at B2 (by simp;omega),kk.at B3 (by simp)⟩
  have I:=Da (HE W m (some i) (by show(σ.ij i).isSome=true;rw[hi];rfl)) (HE W m (some it) a1);rw[show ptr (iG L.gS (some i))=some ⟨L.gS i,0,none⟩from rfl,show ptr (iG L.gS (some it))=some ⟨L.gS it,0,none⟩from rfl]at I
  try dsimp only
  rw[show kI (iG L.gS (some i))=gN (L.gS i)from rfl]
  by_cases J:i=it
  .subst J;rw[wj rfl]at I;gi_wp2;exact⟨Kept.refl _ _,rfl,m,pre,rfl,B5,T⟩
  .have a3:L.gS i≠L.gS it:=λe=>J (HI _ _ e);have a7:(some i:jk)≠some it:=λe=>J (jy e);rw[yd (by simpa using a3)]at I;gi_wp2;refine Bj l (by kernel_rfl) (by kernel_rfl) (by rfl) ?_
   repeat (gi_big_quiet_step ((exact callsIn_wide.2 (Nv (HB _ (m.drewN _))))))
   refine wpQuietIn_nil ?_;intro _ a5;have⟨nq,hw''⟩:=a5;subst hw'';cases hq:lB (σ.nm i)with
   |true=>
    have HQ:=fV hq;clear hq;gi_wp2;have⟨t1,t2,t3,t4,t5⟩:=HT.out nq (gN (L.gS i));refine⟨t1,t2,t4,t5,?_,λy N=>?_⟩
    .rw[PT,show σ.rM (some i)=σ.nm i from rfl,HQ.out];exact t3
    grind
   |false=>
    have HQ:=fV hq;clear hq;gi_wp2;refine⟨(Kept.refl _ W).drewN nq,m.drewN nq,B2,B3,?_,λy N=>?_⟩
    .rw[PT,show σ.rM (some i)=σ.nm i from rfl,HQ.out];exact T
    grind
 case done=>
  rintro D W HD ⟨m,h2,O,h4,H⟩ V;have U:=fW h4 0;dsimp at U;have u:σ.qO it=σ.iC σ.gG.reverse none:=I0 (λy N=>H y N);have G:=fV u;clear u;gi_wp2;refine⟨by simp,.inl ⟨_,_,rfl,oY V,?_⟩⟩;have k:=Z.out;have hD:=HD;exact⟨_,results_tmp rfl _ _ _,by rw[G.out];rfl,m.take (by omega) _⟩
 case stop=>
  rintro D c pre W HD Y ⟨rfl,m,a,rfl,O,H⟩ V;have⟨rest,hrest⟩:=Y;have u:σ.qO it=σ.iC a none:=by unfold Ab.qO;rw[<-hrest];exact I1 O
  have G:=fV u;have U:=fW H 0;dsimp at U;clear u;gi_wp2;refine⟨by simp,.inl ⟨_,_,rfl,oY V,?_⟩⟩;have k:=Z.out;have hD:=HD;exact⟨_,results_tmp rfl _ _ _,by rw[G.out];rfl,m.take (by omega) _⟩
end
attribute [local go_sem] Oper.semAt_some
theorem GD {σ:Ab}:∀{a:kV},(∀y∈a,(!la (σ.rM y) fZ)=true\/y=iE σ.gG 0)->sP σ a=none
 |[],_=>rfl
 |x::a,h=>by
  unfold sP;rw[gJ (by grind)];exact GD λy d=>h y (by simp[d])
theorem GF {σ:Ab} (d:¬((!la (σ.rM y) fZ)=true\/y=iE σ.gG 0)):∀{a:kV},(∀y∈a,(!la (σ.rM y) fZ)=true\/y=iE σ.gG 0)->sP σ (a++[y]++rest)=some y
 |[],_=>by
  grind[sP]
 |x::a,h=>by
  show sP σ (x::(a++[y]++rest))=some y;unfold sP;rw[gJ (by grind)];exact GF d λy e=>h y (by simp[e])
def Dl {a : gx} {s : Nat} (d:Kept [] W a) (k:Kept [] w W) (e:w.heap.size<=s) (h:a.heap[s]?=some (gL #[.pointer none,gh 0] 235)) (v0 v1:gQ):
  Kept [s] W ((a.setCell ⟨s,0,none⟩ v0).setCell ⟨s,1,none⟩ v1)/\Kept [] w ((a.setCell ⟨s,0,none⟩ v0).setCell ⟨s,1,none⟩ v1)/\((a.setCell ⟨s,0,none⟩ v0).setCell ⟨s,1,none⟩ v1).heap[s]?=some (gL #[v0,v1] 235):=
 ⟨((d.mono (by simp)).setCell (.inl (by simp)) _).setCell (.inl (by simp)) _,(((k.trans d)).setCell (.inr e) _).setCell (.inr e) _,gm (gm h 0 v0) 1 v1⟩
def XI {a : gx} {s : Nat} (e:Kept [] W a) (k:Kept [] w W) (h:w.heap.size<=s) (d:a.heap[s]?=some (gL #[.pointer none,gh 0] 235)) (v0 v1:gQ) (o:Obj):
  Kept [s] W (((a.setCell ⟨s,0,none⟩ v0).setCell ⟨s,1,none⟩ v1).alloc o)/\Kept [] w (((a.setCell ⟨s,0,none⟩ v0).setCell ⟨s,1,none⟩ v1).alloc o)/\(((a.setCell ⟨s,0,none⟩ v0).setCell ⟨s,1,none⟩ v1).alloc o).heap[s]?=some (gL #[v0,v1] 235):=by
 have⟨h1,h2,h3⟩:=Dl e k h d v0 v1;exact⟨h1.alloc _,h2.alloc _,((Kept.refl [] _).alloc o).at h3 (by simp)⟩
theorem iO (E:Env):lH E:=by
 intro f a w h hs;have al:∃pl,ku a= .ok pl a:=by
  cases k:ku a with
  |ok pl σ1=>exact⟨pl,by rw[pk k]⟩
  |stop c p=>
   exfalso;unfold ku at k;split at k
   .split at k
    .unfold ng at k;split at k
     .split at k
      .grind
      .split at k
       .unfold jC at k;grind
       grind
     grind
    .cases k
    .split at k
     .unfold jC at k;grind
     grind
   grind
  |stuck=>grind
 have⟨pl0,hpl0⟩:=al;have Z:a.Bq=true:=by
  cases ht:a.Bq with
  |true=>rfl
  |false=>unfold ku at hpl0;grind
 rw[hpl0];obtain⟨L,rfl,o⟩:=h;refine(xC (n:=3)).1 ?_;refine xD func267 rfl trivial ?_ rfl;simp only[ntmps267,yf,uk,xI,Nat.reduceAdd,Nat.reduceSub,yg,yh,yi,yj,sg,wo];have ar:=o.lt;obtain⟨v,F⟩:∃v,v=(w.alloc (gL #[Bp E] 121)).alloc (gL #[.pointer none,gh 0] 235):=⟨_,rfl⟩;have ab:Kept [] w v:=by rw[F];exact((Kept.refl _ _).alloc _).alloc _
 have ap:v.heap[w.heap.size]?=some (gL #[Bp E] 121):=by
  have:=(tl w (gL #[Bp E] 121) (gL #[.pointer none,gh 0] 235)).1
  rwa [<-F]at this
 obtain⟨w1,a0⟩:∃w1,w1=v.alloc (gL #[oV L.gS (iE a.gG 0)] 72):=⟨_,rfl⟩;have ah:Kept [] w w1:=by rw[a0];exact ab.alloc _
 have⟨b0,b1,b2⟩:=oQ w (gL #[Bp E] 121) (gL #[.pointer none,gh 0] 235) (gL #[oV L.gS (iE a.gG 0)] 72);rw[<-F,<-a0]at b0 b1 b2;have a4:v.heap.size=w.heap.size+1+1:=by rw[F];simp
 have G:w1.heap.size=w.heap.size+1+1+1:=by rw[a0];simp[a4]
 have CA:=agu (o.io ab) 0;have au:=o.io ah;have⟨C,HL,hC⟩:=au.zI;have HU:=Xu E.bs E.bB 188 _ C _ _ w1 HL;have HO:=(λg (V:L.ov.ownBlock=some g)=>Ds o.pF V);have HN:=(λ(W:gx) (m:Kept [] w W) (i:Nat) (e:Ak) (hi:a.ij i=some e)=>(o.io m).vW hi);have HS:=(λ(y:jk) (hy:y∈a.gG)=>o.oH hy);have HI:=fV o.inj;have HE:=(λ(W:gx) (m:Kept [] w W) (x:jk) (hx:a.hH x=true)=>(o.io m).hH hx);have HZ:=fV G;have a7:=fV a4;have ao:=fV F;have HW:=fV a0;clear G a0 a4 F;have aw:v.cell? ⟨w.heap.size,0,none⟩=some (Bp E):=by rw[fW ap];rfl
 have ay:E.bB < v.heap.size:=mi ar ab.size;have az:w.heap.size < v.heap.size:=by have:=a7.out;omega
 gi_wp2_with fail
 rw[<-ao.out];refine⟨trivial,(callsIn_wide.2 CA).mono ?_⟩;rintro e v ⟨rfl,rfl⟩
 gi_wp2_with fail
 rw[<-HW.out];refine⟨trivial,(callsIn_wide.2 HU).mono ?_⟩;rintro e w' ⟨rfl,rfl⟩;gi_wp2;refine Fa (by omega) (f:=iG L.gS) (λx y e=>sD HI.out e) HL rfl [] [w.heap.size+1] (by simp) (by grind)
  (λpre W=>Kept [] w W/\W.heap[w.heap.size]?=some (gL #[Bp E] 121)/\W.heap[w.heap.size+1]?=some (gL #[.pointer none,gh 0] 235)/\W.heap[v.heap.size]?=some (gL #[oV L.gS (iE a.gG 0)] 72)/\∀y∈pre,(!la (a.rM y) fZ)=true\/y=iE a.gG 0)
  (λc pre W=>c= .ret/\Kept [] w W/\∃u i pl,pre=u++[some i]/\(∀y∈u,(!la (a.rM y) fZ)=true\/y=iE a.gG 0)/\¬((!la (a.rM (some i)) fZ)=true\/some i=iE a.gG 0)/\ng i a= .ok pl a/\W.heap[w.heap.size+1]?=some (gL #[gN (L.gS pl.1),gh pl.2] 235))
  ?_ ?_ ?_ (λx=>{tmps:=#[Bp E,gN w.heap.size,gN (w.heap.size+1),gN v.heap.size,kI x,undef,undef,Bp E,gN E.bB,jO E.bB 188,oV L.gS (iE a.gG 0),Bp E,gN E.bB,jO E.bB 188,vJ w1.heap.size,kI x,undef,undef,undef,undef,undef,undef,undef,undef,undef,undef,undef,undef,undef,undef,undef,undef,undef,undef,undef,undef,undef,undef,undef,undef,undef],defers:=[]}) ?assign ?body ?done ?stopx
 .rintro s A B av ⟨h1,h2,h3,h4,h5⟩ V hr;have G:=HZ.out;have a4:=a7.out;exact⟨mB h1 V hr (by omega),kX h2 V hr (by omega),kX h3 V hr (by omega),kX h4 V hr (by omega),h5⟩
 .rintro c s A B av ⟨h0,h1,u,i,pl,h2,h3,h4,h5,h6⟩ V hr;have G:=HZ.out;exact⟨h0,mB h1 V hr (by omega),u,i,pl,h2,h3,h4,h5,kX h6 V hr (by omega)⟩
 .have m:Kept [] w1 (mX E.bB 188 (a.gG.length) w1):=((Kept.refl _ _).alloc _).alloc _;refine⟨ah.trans m,m.at b0 (by simp),m.at b1 (by simp),?_,by simp⟩;rw[a7.out];exact m.at b2 (by simp)
 case assign=>
  intro l x W K hK;gi_wp2;exact hK
 case body=>
  rintro l pre y W hy ⟨z,h2,B3,B4,B5⟩;obtain⟨i,e0,rfl,hi⟩:=HS y hy;have I:=o.io z;have c0:=HN W z i e0 hi;have c1:W.cell? ⟨w.heap.size,0,none⟩=some (Bp E):=by rw[fW h2];rfl
  have c2:W.cell? ⟨v.heap.size,0,none⟩=some (oV L.gS (iE a.gG 0)):=by rw[fW B4];rfl
  have N:(binOp .eql 72 (gN (L.gS i)) (oV L.gS (iE a.gG 0))).run prog W= .ok (.bool (decide (some i=iE a.gG 0))) W:=by
   have aq:a.hH (iE a.gG 0)=true:=by
    unfold iE
    by_cases hn:(0:Int)<=0/\(0:Int) < a.gG.length
    .rw[gJ hn];have ai:0 < a.gG.length:=by omega
     show a.hH (a.gG.getD 0 none)=true;rw[vK,qB ai];exact Ab.wC (I.wf.gG _ (uw ai))
    .rw[gV hn];rfl
   have N:=Da (HE W z (some i) (by show(a.ij i).isSome=true;rw[hi];rfl)) (HE W z _ aq);rw[decide_eq_decide.2 (⟨λe=>sD HI.out e,λe=>by rw[e]⟩:iG L.gS (some i)=iG L.gS (iE a.gG 0)↔some i=iE a.gG 0)]at N;exact N
  have a3:la (a.rM (some i)) fZ=((a.nm i).toList==[116,97,98,108,101]):=by
   show la (a.nm i) _=_;unfold la;rw[tJ fZ]
  have B2:=fV h2;have H:=fV hi;clear h2 hi
  try dsimp only
  rw[show kI (iG L.gS (some i))=gN (L.gS i)from rfl];cases htb:((a.nm i).toList==[116,97,98,108,101])with
  |false=>
   rw[htb]at a3;have HG:Hid ((!la (a.rM (some i)) fZ)=true\/some i=iE a.gG 0):=fV (.inl (by rw[a3];rfl));have am:((a.nm i).toList != [116,97,98,108,101])=true:=by simp[bne,htb]
   gi_wp2;refine⟨Kept.refl _ _,z,B2.out,B3,B4,λy hy=>?_⟩
   grind
  |true=>
   rw[htb]at a3;have am:((a.nm i).toList != [116,97,98,108,101])=false:=by simp[bne,htb]
   by_cases T:some i=iE a.gG 0
   .rw[wj T]at N;have HG:Hid ((!la (a.rM (some i)) fZ)=true\/some i=iE a.gG 0):=fV (.inr T);gi_wp2;refine⟨Kept.refl _ _,z,B2.out,B3,B4,λy hy=>?_⟩
    grind
   .rw[yd T]at N;have HG:Hid (¬((!la (a.rM (some i)) fZ)=true\/some i=iE a.gG 0)):=fV (by rw[a3];simp[T]);have ag:(ng i a).isOk=true:=by
     have:=List.all_eq_true.1 Z (some i) hy;simp only[Bool.or_eq_true,BG]at this;rcases this with(h|h)|h
     .exfalso;have e:la (a.rM (some i)) fZ=la (a.nm i) fZ:=rfl;grind
     .exact absurd h T
     .exact h
    cases hp:e0.jl with
    |some p=>
     have J:∃ep,a.ij p=some ep/\0<=qH ep.kids (Nd.hH i)/\ng i a= .ok (p,(qH ep.kids (Nd.hH i)).toNat) a:=by
      have m:=ag;unfold ng at m|-;rw[H.out]at m|-;simp only[hp]at m|-;cases k:a.ij p with
      |none=>rw[k]at m;simp[qI.isOk]at m
      |some ep=>
       simp only[k]at m|-
       by_cases ak:0<=qH ep.kids (Nd.hH i)
       .grind
       .rw[gV ak]at m;simp[qI.isOk]at m
     have⟨ep,J,ak,hfa⟩:=J;have CF:=Si I H.out hp J;obtain⟨q,k⟩:∃q:Nat,qH ep.kids (Nd.hH i)=(q:Int):=⟨(qH ep.kids (Nd.hH i)).toNat,by omega⟩;rw[k]at CF hfa;have a5:Hid (ng i a= .ok (p,q) a):=fV (by rw[hfa];rfl);clear hfa
     gi_wp2_with fail
     refine⟨trivial,(rA l (callsIn_wide.2 CF)).mono ?_⟩;rintro e W2 ⟨rfl,ac,ae⟩;have d:=ae.at B3 (by simp);have d0:W2.cell? ⟨w.heap.size+1,0,none⟩=some (.pointer none):=by rw[fW d];rfl
     have d1:W2.cell? ⟨w.heap.size+1,1,none⟩=some (gh 0):=by rw[fW d];rfl
     have g0:=gu d 0;have g1:=gu d 1;have ax:w.heap.size+1 < W2.heap.size:=iX d;have a1:=fV d;gi_wp2;have⟨t1,t2,t3⟩:=XI ae z (lU _) a1.out (gN (L.gS p)) (gh q) (gL #[gN (L.gS p),gh q] 235);exact⟨t1,rfl,t2,pre,i,(p,q),rfl,B5,HG.out,a5.out,t3⟩
    |none=>
     have J:∃q e,iE a.gG (posOf a.gG (some i) - 1)=some q/\a.ij q=some e/\ng i a= .ok (q,e.kids.length) a:=by
      have m:=ag;unfold ng at m|-;rw[H.out]at m|-;simp only[hp]at m|-;cases k:iE a.gG (posOf a.gG (some i) - 1)with
      |none=>rw[k]at m;simp[qI.isOk]at m
      |some q=>
       simp only[k]at m|-;unfold jC at m|-;cases hq2:a.ij q with
       |none=>rw[hq2]at m;simp[qI.isOk]at m
       |some e=>grind
     have⟨q,eq,a9,O,hfa⟩:=J;have CF:=UD I H.out hp;have a5:=fV hfa;have an:=(λ(W':gx) (m:Kept [] W W')=>(show Calls prog 246 #[jO E.bB 188,gN (L.gS i)] W' (λe w'=>e=iw (gN (L.gS q))/\w'=W')from by
      have:=zO (I.io m) (some i) (by show(a.ij i).isSome=true;rw[H.out];rfl)
      rwa [a9]at this))
     have CE:=(λ(W':gx) (m:Kept [] W W')=>Sh (I.io m) O);clear hfa
     gi_wp2_with fail
     refine⟨trivial,(rA l (callsIn_wide.2 CF)).mono ?_⟩;rintro e W2 ⟨rfl,ac,aa⟩;have a6:Kept [] W (W2.alloc (gL #[.pointer none,gh 0] 235)):=aa.alloc _;have e1:W2.cell? ⟨w.heap.size,0,none⟩=some (Bp E):=by rw[fW (aa.at B2.out (by simp))];rfl
     have aA:w.heap.size < W2.heap.size:=iX (aa.at B2.out (by simp))
     gi_wp2_with fail
     refine⟨trivial,(rA l (callsIn_wide.2 (an _ a6))).mono ?_⟩;rintro e W3 ⟨rfl,rfl⟩
     gi_wp2_with fail
     refine⟨trivial,(rA l (callsIn_wide.2 (CE _ a6))).mono ?_⟩;rintro e W4 ⟨rfl,ad,X⟩;have a2:=a6.trans X;have d:=a2.at B3 (by simp);have d0:W4.cell? ⟨w.heap.size+1,0,none⟩=some (.pointer none):=by rw[fW d];rfl
     have d1:W4.cell? ⟨w.heap.size+1,1,none⟩=some (gh 0):=by rw[fW d];rfl
     have g0:=gu d 0;have g1:=gu d 1;have a1:=fV d;gi_wp2;have⟨t1,t2,t3⟩:=Dl a2 z (lU _) a1.out (gN (L.gS q)) (gh eq.kids.length);exact⟨t1,rfl,t2,pre,i,(q,eq.kids.length),rfl,B5,HG.out,a5.out,t3⟩
 case done=>
  rintro D W HD ⟨z,h2,B3,h4,h5⟩ hK;have U:∃q e,iE a.gG 0=some q/\a.ij q=some e/\pl0=(q,e.kids.length):=by
   have k:=hpl0;unfold ku at k;rw[gJ Z,GD h5]at k;simp only at k;cases V:iE a.gG 0 with
   |none=>grind
   |some q=>
    rw[V]at k;simp only at k;unfold jC at k
    grind
  obtain⟨q,eq,a9,O,rfl⟩:=U;have c2:W.cell? ⟨v.heap.size,0,none⟩=some (gN (L.gS q)):=by rw[fW h4,a9];rfl
  have CE:=Sh (o.io z) O;clear h2
  gi_wp2_with fail
  refine⟨trivial,(callsIn_wide.2 CE).mono ?_⟩;rintro e W4 ⟨rfl,ad,X⟩;have d:=X.at B3 (by simp);have d0:W4.cell? ⟨w.heap.size+1,0,none⟩=some (.pointer none):=by rw[fW d];rfl
  have d1:W4.cell? ⟨w.heap.size+1,1,none⟩=some (gh 0):=by rw[fW d];rfl
  have g0:=gu d 0;have g1:=gu d 1;have af:=(X.block D (Array.getElem?_eq_some_iff.1 hK).1 (by simp)).trans hK;have⟨t1,T2,T3⟩:=Dl X z (lU _) d (gN (L.gS q)) (gh eq.kids.length);have a1:=fV d;have a2:=((((Kept.refl [w.heap.size+1] W4).setCell (p:=⟨w.heap.size+1,0,none⟩) (.inl (by simp)) (gN (L.gS q))).setCell (p:=⟨w.heap.size+1,1,none⟩) (.inl (by simp)) (gh eq.kids.length)).block D (Array.getElem?_eq_some_iff.1 af).1 (by have:=HZ.out;grind)).trans af;gi_wp2;refine⟨by simp,.inl ⟨_,_,rfl,oY a2,?_⟩⟩;have G:=HZ.out;have hD:=HD;have a8:(World.putObj _ D (.deferred none)).heap[w.heap.size+1]?=_:=(qC (by omega)).trans T3;have Y:=T2.take (D:=D) (by omega) (.deferred none);refine⟨pV L.gS (q,eq.kids.length),?_,rfl,⟨L,rfl,o.io Y⟩,.gU Y,gW _⟩;simp[results,results267,asAddr,Result.andThen,go_sem,fW a8]
 case stopx=>
  rintro D c pre W HD aj ⟨rfl,z,u,i,pl,rfl,h3,h4,h5,T3⟩ hK;have U:pl0=pl:=by
   have⟨rest,hrest⟩:=aj;have k:=hpl0;unfold ku at k;rw[gJ Z,<-hrest,GF h4 h3]at k;simp only at k;rw[h5]at k;cases k;rfl
  subst U;gi_wp2;refine⟨by simp,.inl ⟨_,_,rfl,oY hK,?_⟩⟩;have G:=HZ.out;have hD:=HD;have a8:(World.putObj _ D (.deferred none)).heap[w.heap.size+1]?=_:=(qC (by omega)).trans T3;have Y:=z.take (D:=D) (by omega) (.deferred none);refine⟨pV L.gS pl0,?_,rfl,⟨L,rfl,o.io Y⟩,.gU Y,gW _⟩;simp[results,results267,asAddr,Result.andThen,go_sem,fW a8]
def XD (E:Env) (t:gO):mu E .nothing t (Pure.pure ()):=by
 intro v f k w h a d;refine⟨97,#[],#[],a,enters_of func97 (by rfl) rfl,?_⟩;have H:=At.start h;show Calls prog 97 #[iJ E t] w _;generalize iJ E t=e;go_enter func97,ntmps97;go_wp2;go_end0;exact gw rfl H rfl
def iV (E:Env) (t:gO) (k:Nat) (m:M Unit) (d:∀a w,(callFunc k a).run prog w= .ok (.enter k a) w) (h:je E k (λ_=>#[Bp E,iJ E t]) m uV):mu E (.ik k) t m:=by
 intro v f u w e o l;exact⟨k,#[iF E.bB],#[],o,d,h f u w e l⟩
def zX (E:Env) (r:Ru) (t:gO):mu E r t stuck:=λ_ _ _ _ _ _ a=>absurd rfl a
def S0 (d f l a:Nat):Ab:={nodes:=[.el ⟨⟨#[]⟩,[],none,[]⟩],gG:=[],act:=[],head:=none,form:=none,mode:=0,kept:=0,waiting:=[],iT:=false,jV:=false,gS:=a,behind:=false,nJ:=⟨#[]⟩,iY:=false,fresh:=false,qv:=d,rZ:=f,pG:=l}
def Tv (t:Addr) (w:gx):(ReflectliteValue.unpack (.iface 85 (.pointer (some t)))).run prog w
  = .ok (.agg #[jO 7 85,gN w.heap.size,.int .u64 150]) (w.alloc (.cells #[.pointer (some t)] 85)):=by kernel_rfl
def Uv (t:Addr) (w:gx):(ReflectliteValue.unpack (.iface 80 (.pointer (some t)))).run prog w
  = .ok (.agg #[jO 7 80,gN w.heap.size,.int .u64 150]) (w.alloc (.cells #[.pointer (some t)] 80)):=by kernel_rfl
def ab9 (a:Addr) (w:gx):(ReflectliteValue.methodAny (ReflectliteValue.valueError "reflectlite.Value.Type" 0) (λt _ _ _=>ReflectliteType.toType t) #[.agg #[jO 7 85,.pointer (some a),.int .u64 150]]).run prog w
  = .ok (.iface 145 (.agg #[jO 7 85])) w:=rfl
def adu (a:Addr) (w:gx):(ReflectliteValue.methodAny (ReflectliteValue.valueError "reflectlite.Value.Type" 0) (λt _ _ _=>ReflectliteType.toType t) #[.agg #[jO 7 80,.pointer (some a),.int .u64 150]]).run prog w
  = .ok (.iface 145 (.agg #[jO 7 80])) w:=rfl
def VH (h:gQ) (w:gx):(Go.method 500 145 (.agg #[h]) "Kind").run prog w= .ok (407,h) w:=by kernel_rfl
def VG (h:gQ) (w:gx):(Go.method 500 145 (.agg #[h]) "Elem").run prog w= .ok (428,.agg #[h]) w:=by kernel_rfl
def Cu (h:gQ) (w:gx):(Go.method 500 145 (.agg #[h]) "Implements").run prog w= .ok (429,.agg #[h]) w:=by kernel_rfl
def Ct (h:gQ) (w:gx):(Go.method 500 145 (.agg #[h]) "AssignableTo").run prog w= .ok (426,.agg #[h]) w:=by kernel_rfl
def LZ (v:gQ) (w:gx):(Go.method 500 145 v "Comparable").run prog w= .ok (427,v) w:=by kernel_rfl
def Zp (w:gx):((ReflectliteType.abiMethod λt=>(λa:Nat=>Value.int IntKind.u8 (a:Int)) <$> Rtype.kind t) #[jO 7 85]).run prog w= .ok (.int .u8 22) w:=by kernel_rfl
def ab8 (w:gx):((ReflectliteType.abiMethod λt=>(λa:Nat=>Value.int IntKind.u8 (a:Int)) <$> Rtype.kind t) #[jO 7 24]).run prog w= .ok (.int .u8 2) w:=by kernel_rfl
def aa2 (w:gx):((ReflectliteType.abiMethod λt=>(λa:Nat=>Value.int IntKind.u8 (a:Int)) <$> Rtype.kind t) #[jO 7 80]).run prog w= .ok (.int .u8 22) w:=by kernel_rfl
def adt (w:gx):((ReflectliteType.abiMethod λt=>(λa:Nat=>Value.int IntKind.u8 (a:Int)) <$> Rtype.kind t) #[jO 7 78]).run prog w= .ok (.int .u8 22) w:=by kernel_rfl
def rlm (z:Sem gQ) (f:TypeId->Addr->Nat->Nat->Sem gQ) (v:gQ):
  ReflectliteValue.method z f #[v]=(do match <-ReflectliteValue.parts v with|none=>z|some (t,a,fl)=>f t a fl (fl%32)):=rfl
def MA (a:Addr) (w:gx):(ReflectliteValue.parts (.agg #[jO 7 85,.pointer (some a),.int .u64 150])).run prog w= .ok (some (85,a,150)) w:=rfl
def Ni (a:Addr) (w:gx):(ReflectliteValue.parts (.agg #[jO 7 80,.pointer (some a),.int .u64 150])).run prog w= .ok (some (80,a,150)) w:=rfl
def Zo (a p:Addr) (W:gx) (d:W.cell? a=some (.pointer (some p))):
  (ReflectliteValue.method (ReflectliteValue.valueError "reflectlite.Value.IsNil" 0) ReflectliteValue.isNil #[.agg #[jO 7 85,.pointer (some a),.int .u64 150]]).run prog W= .ok (.bool false) W:=by
 rw[rlm];simp only[SN,MA,Result.andThen];simp[ReflectliteValue.isNil,loadVar,isAgg,underlying,underlying85,d,Result.andThen]
def aa1 (a p:Addr) (W:gx) (d:W.cell? a=some (.pointer (some p))):
  (ReflectliteValue.method (ReflectliteValue.valueError "reflectlite.Value.IsNil" 0) ReflectliteValue.isNil #[.agg #[jO 7 80,.pointer (some a),.int .u64 150]]).run prog W= .ok (.bool false) W:=by
 rw[rlm];simp only[SN,Ni,Result.andThen];simp[ReflectliteValue.isNil,loadVar,isAgg,underlying,underlying80,d,Result.andThen]
def ab7 (w:gx):(ReflectliteType.method ReflectliteType.elem #[.agg #[jO 7 85]]).run prog w= .ok (.iface 145 (.agg #[jO 7 24])) w:=by kernel_rfl
def ads (w:gx):(ReflectliteType.method ReflectliteType.elem #[.agg #[jO 7 80]]).run prog w= .ok (.iface 145 (.agg #[jO 7 78])) w:=by kernel_rfl
def Lx (w:gx):(ReflectliteType.relation "Implements" ReflectliteType.implements_ #[.agg #[jO 7 24],.iface 145 (.agg #[jO 7 59])]).run prog w= .ok (.bool true) w:=by kernel_rfl
def L5 (w:gx):(ReflectliteType.relation "Implements" ReflectliteType.implements_ #[.agg #[jO 7 78],.iface 145 (.agg #[jO 7 59])]).run prog w= .ok (.bool true) w:=by kernel_rfl
def MB (v:gQ) (w:gx):(ReflectliteType.typeOf #[.iface 24 v]).run prog w= .ok (.iface 145 (.agg #[jO 7 24])) w:=rfl
def Lw (w:gx):(ReflectliteType.relation "AssignableTo" ReflectliteType.assignableTo #[.agg #[jO 7 24],.iface 145 (.agg #[jO 7 24])]).run prog w= .ok (.bool true) w:=by kernel_rfl
def Qh (n:Int) (w:gx):(ReflectliteValue.unpack (.iface 24 (gh n))).run prog w
  = .ok (.agg #[jO 7 24,gN w.heap.size,.int .u64 130]) (w.alloc (.cells #[gh n] 24)):=by kernel_rfl
def WW (w:gx):(Rtype.elem? 85).run prog w= .ok (some 24) w:=by kernel_rfl
def agc (p:Addr) (w:gx):(ReflectliteValue.mk 24 p ReflectliteValue.flagAddr).run prog w= .ok (.agg #[jO 7 24,.pointer (some p),.int .u64 386]) w:=by kernel_rfl
def Zn (a p:Addr) (W:gx) (d:W.cell? a=some (.pointer (some p))):
  (ReflectliteValue.method (ReflectliteValue.valueError "reflectlite.Value.Elem" 0) ReflectliteValue.elem #[.agg #[jO 7 85,.pointer (some a),.int .u64 150]]).run prog W
   = .ok (.agg #[jO 7 24,.pointer (some p),.int .u64 386]) W:=by
 rw[rlm];simp only[SN,MA,Result.andThen];simp[ReflectliteValue.elem,loadVar,isAgg,underlying,underlying85,d,Result.andThen,WW,agc]
def rls (v x:gQ):ReflectliteValue.set #[v,x]=(do
  let (some (dst,a,fl),some (src,b,_)):=(<-ReflectliteValue.parts v,<-ReflectliteValue.parts x)
   |unsupported (.noEntry "extern/(internal/reflectlite.Value).Set.zeroValue")
  if fl / ReflectliteValue.flagAddr%2==0 then unsupported (.noEntry "extern/(internal/reflectlite.Value).Set.unaddressable")
  let d <-loadVar src b
  if <-Rtype.directlyAssignable dst src then storeVar dst a d
  else if <-Rtype.implements dst src then
   if (<-Rtype.kind src)==20 then
    match d with
    | .nilIface=>unsupported (.noEntry "extern/reflectlite: a nil value of one interface type handed on as a value of another")
    |_=>storeVar dst a d
   else storeVar dst a (.iface src d)
  else panicString ("reflectlite.Set: value of type "++(<-Rtype.spelt src)++ " is not assignable to type "++(<-Rtype.spelt dst))
  pure (.tuple #[])):=rfl
def WX (a:Addr) (w:gx):(ReflectliteValue.parts (.agg #[jO 7 24,.pointer (some a),.int .u64 386])).run prog w= .ok (some (24,a,386)) w:=rfl
def Zq (a:Addr) (w:gx):(ReflectliteValue.parts (.agg #[jO 7 24,.pointer (some a),.int .u64 130])).run prog w= .ok (some (24,a,130)) w:=rfl
def WV (w:gx):(Rtype.directlyAssignable 24 24).run prog w= .ok true w:=by rfl
theorem aeW (a b:Addr) (n:Int) (d:gQ) (W:gx) (e:W.cell? b=some (gh n)) (k:W.cell? a=some d) (h:W.frozen? a=false):
  (ReflectliteValue.set #[.agg #[jO 7 24,.pointer (some a),.int .u64 386],.agg #[jO 7 24,.pointer (some b),.int .u64 130]]).run prog W
   = .ok (.tuple #[]) (W.setCell a (gh n)):=by
 rw[rls];simp only[SN,WX,Zq,Result.andThen];simp[ReflectliteValue.flagAddr,loadVar,isAgg,underlying,underlying24,e,Result.andThen,WV,storeVar,Value.cells,storeCells,Addr.add];rw[run_store prog W a _ _ rfl]
 grind
abbrev rv (T:Nat) (b:Nat):jN:=#[jO 7 T,gN b,.int .u64 150]
def AH {P:Program} (w:gx) (d:Nat) {m l : TypeId} {v:Array (String×TypeId)} {i:TypeInfo} {k:IntKind} (a b:Int)
  (o:P.underlying m=some (.interface v)) (u:P.underlying l=some (.int k)) (h:P.info? l=some i) (e:i.comparable=true):
  (Op.equalIn (d+2) m (.iface l (.int k a)) (.iface l (.int k b))).run P w= .ok (a==b) w:=by
 simp[Op.equalIn,ql o,ql u,typeInfo,h,e]
def EI {P:Program} (w:gx) {l h : TypeId} {u:Array (String×TypeId)} {i:TypeInfo} {k:IntKind} (a b:Int)
  (m:P.underlying l=some (.interface u)) (o:P.underlying h=some (.int k)) (e:P.info? h=some i) (d:i.comparable=true):
  (binOp .eql l (.iface h (.int k a)) (.iface h (.int k b))).run P w= .ok (.bool (a==b)) w:=by
 simp only[binOp];simp[Op.equal,Op.maxDepth,AH w 9998 a b m o e d]
def P6:jN->Sem gQ:=Extern.ReflectliteType.method λt=>do Rtype.noPackHeld "Comparable" t;pure (.bool (<-typeInfo t).comparable)
def Ho (w:gx):(P6 #[.agg #[jO 7 24]]).run prog w= .ok (.bool true) w:=by kernel_rfl
def ab6:(prog.info? 24).map (·.comparable)=some true:=by kernel_rfl
def errorType (w:gx):Prop:=w.cell? ⟨0,0,none⟩=some (.iface 145 (.agg #[jO 7 59]))
theorem Tf (p q:Addr) (w:gx):
  CallsD prog 66 #[.pointer (some p),.pointer (some q)] .returning w λe h w'=>e=pE/\h= .returning/\w'=w:=by
 refine callsD_of_wpS func66 rfl λa k d=>?_;apply wpS_seq;apply wpS_region;simp[wpOpsS,go_sem,recoverD,d,ntmps66,Exit.thenS];refine wpS_cond (t:=false) (by rfl) ?_;simp only[uz,Bz];refine wpS_of_wp (wp_skip ?_);cases a
 simp_all[bodyPostS,results,results66]
def sO (h:errorType w) (o:Obj):errorType (w.alloc o):=by
 have:0 < w.heap.size:=by
  rcases xE w.heap.size with d|a
  .simp[errorType,World.cell?,d]at h
  .exact a
 show(w.alloc o).cell? _=_;rw[qy _ _ _ this];exact h
section
variable {P:Program} {ops:Array Oper} {Q:Exit->Act->gx->Prop} {md:Region.Mode}
def kN {i:Nat} {l:Oper} {k:Nat} {e:Array Bool} {a:Act} {w:gx} (d:Option Tmp) (v:gQ) (x:ops[i]?=some l) (o:l.dst=d)
  (A:Region.noSelect ops=true) (u:Region.free md ops e i=true) (z:(Region.ready md ops e).contains i=true)
  (m:∀c a w,Q (.panic c) (a.put d v) w->Q (.panic c) a w) (C:Region.wanted l (yielded ops a.tmps)=true) (B:∀w,(execOp a.eval l).run P w= .ok (.value v) w)
  (h:wpAny P md ops Q k (e.setIfInBounds i true) (a.put d v) w):wpAny P md ops Q (k+1) e a w:=by
 subst o;exact wpAny_take x A u z m (Or.inl ⟨C,B⟩) h
end
def EV (w:gx):
  Calls prog 26 #[.nilIface] w λe w'=>e=iw (.tuple #[gh 0,gh 0])/\Kept [] w w':=by
 go_enter func26,ntmps26;go_wp2;go_ret2;exact⟨rfl,((Kept.refl _ _).alloc _).alloc _⟩
def Jp (h:errorType w) (e:Kept S w w') (k:0∉S):errorType w':=by
 have:0 < w.heap.size:=by
  rcases xE w.heap.size with d|a
  .simp[errorType,World.cell?,d]at h
  .exact a
 show w'.cell? _=_;rw[e.cell (p:=⟨0,0,none⟩) this k];exact h
def Jo (h:errorType w):errorType w.drew:=h
def ry (a:Int×Int×Int) (d:gQ):jN:=#[gh a.1,gh a.2.1,gh a.2.2,d,.bool false,gh 0,.nilIface,jc,.pointer none]
def aab (d f a:Int):Prop:=4<=d/\d<=64/\1<=f/\f<=32/\1<=a/\a<=16
def ack (d f a:Int) (w:gx) (h:aab d f a):
  Calls prog 25 #[gh d,gh f,gh a] w λe w'=>e=iw (.tuple #[gN w.heap.size,.nilIface])/\w'=w.alloc (.cells (ry (d,f,a) (jc)) 76):=by
 have⟨h1,h2,h3,h4,h5,h6⟩:=h;go_enter func25,ntmps25;go_wp2;go_ret2;exact⟨rfl,rfl⟩
theorem Iw (d f a:Int) (w:gx) (h:aab d f a):
  Calls prog 14 #[gh d,gh f,gh a] w λe w'=>e=iw (.tuple #[gN w.heap.size,gh 0])/\w'.heap[w.heap.size]?=some (gL (ry (d,f,a) (jc)) 76)/\Kept [] w w':=by
 go_enter func14,ntmps14
 go_wp21
 refine(ack d f a _ h).mono ?_;rintro e v ⟨rfl,rfl⟩
 go_wp21
 refine(EV _).mono ?_;rintro e m ⟨rfl,k⟩;have u:Kept [] w m:=((Kept.refl _ _).alloc _).next k (by simp)
 have l:=k.at (fX w _) (by simp);have o:Hid _:=l;go_wp2;go_ret2
 simp_all
def On:(prog.info? 5).map (λi=>(i.zero,i.size,i.bytes))=some (some (.int .u8 0),1,1):=by kernel_rfl
def A7 (d:Nat) (a:Int×Int×Int) (k:gQ) (w:gx) (h:w.heap[d]?=some (gL (ry a k) 76)):
  Calls prog 37 #[gN d] w λe w'=>e=iw (.bool false)/\w'=w:=by
 have l:w.cell? ⟨d,4,none⟩=some (.bool false):=by rw[fW h];rfl
 go_enter func37,ntmps37;go_wp2;go_ret;simp
theorem Yq (o g c:Nat) (a:Int×Int×Int) (B:gQ) (s t:gz) (base:Nat) (w:gx) (Y:w.heap[o]?=some (gL (ry a B) 76))
  (X:w.ownsRow base 5 1 B s.size (kH s)) (ht:∀j u,(kH t)[j]?=some u->w.cell? ⟨g,j,none⟩=some u) (hl:s.size+t.size<=1024) (hb:base<=w.heap.size):
  Calls prog 27 #[gN o,oe g t.size c] w λe w'=>e=iw (.tuple #[gh t.size,.nilIface])/\
   ∃x,w'.heap[o]?=some (gL (ry a x) 76)/\w'.ownsRow base 5 1 x (s++t).size (kH (s++t))/\Kept (o::B.ownBlock.toList) w w'/\(x.ownBlock=B.ownBlock\/∀k,x.ownBlock=some k->w.heap.size<=k):=by
 obtain⟨i0,hi,N,O,T⟩:=ux On;have V:w.cell? ⟨o,3,none⟩=some B:=by rw[fW Y];rfl
 have J:∃A l,B= .slice A s.size l:=by
  rcases X.2 with⟨rfl,h0⟩|⟨g,l,C,rfl,_⟩
  .grind
  .simp
 obtain⟨A,l,rfl⟩:=J;have F:Hid _:=Y;have U:Hid _:=X;have HT:Hid _:=ht;go_enter func27,ntmps27
 go_wp21
 refine(A7 o a _ _ F).mono ?_;rintro e w1 ⟨rfl,rfl⟩;go_wp2_with (at_builtin;refine iA _ rfl _ _ 55 rfl base 5 i0 (.int .u8 0) 1 1 underlying55 hi N O T rfl (by decide) _ _ _ rfl U ⟨g,0,none⟩ t.size c (kH t) rfl ?V ?c2 ?c3 ?c4 ?c5 hb ?_)
 case V=>simp[kH]
 case c2=>exact λj u h=>by rw[jg];exact HT j u h
 case c3=>exact Ta t
 case c4=>unfold maxLen;omega
 case c5=>omega
 intro v' D m v H;have⟨ao',d,hv⟩:=gF m;subst hv;have I:∀k,(Value.slice A s.size l).ownBlock=some k->k≠o:=by
  intro k z;rcases U.2 with⟨h,_⟩|⟨g',d,C,h,_,hc,_⟩
  .rw[h]at z;cases z
  .rw[h]at z;obtain rfl:=jy z
   grind
 have G:D.heap[o]?=some (gL (ry a (.slice A s.size l)) 76):=by
  rw[v.block o (iX F.out) (λh=>I o h.symm rfl)];exact F
 have d1:D.cell? ⟨o,3,none⟩=some (.slice A s.size l):=by rw[fW G];rfl
 have d2:=gu G 3;have h3:=gm G 3 (.slice ao' (s.size+t.size) d);have h4:(D.setCell ⟨o,3,none⟩ (.slice ao' (s.size+t.size) d)).ownsRow base 5 1 (.slice ao' (s.size+t.size) d) (s++t).size (kH (s++t)):=by
  have K:(s++t).size=s.size+t.size:=ByteArray.size_append;rw[K,Lj];refine zk m ?_ _;intro z;rcases m.2 with⟨h,_⟩|⟨g',d,C,h,_,hc,_⟩
  .grind
  .grind
 have h5:Kept (o::(Value.slice A s.size l).ownBlock.toList) w1 (D.setCell ⟨o,3,none⟩ (.slice ao' (s.size+t.size) d)):=
  ((Kept.refl _ _).grown v (λk z=> .inl (by simp[z]))).setCell (.inl (by simp)) _
 have Z:Hid _:=h3;have H4:Hid _:=h4;have HF:Hid _:=H;go_wp2;go_ret2;exact⟨rfl,_,Z,H4,h5,HF⟩
theorem WF (t:gz) (j:Nat) (u:gQ) (h:(kH t)[j]?=some u):∃a:j < t.data.size,u= .int .u8 (t.data[j].toNat:Int):=by
 unfold kH at h
 grind
def I2 (t:gz) (a j:Nat) (u:gQ) (h:(kH t)[j]?=some u):(bytesRow t a)[j]?=some u:=by
 obtain⟨d,rfl⟩:=WF t j u h;exact bytesRow_at t a j d
def Ch (t:gz) (a:Nat):t.size<=(bytesRow t a).size:=by
 have:t.data.size=t.size:=rfl;simp[bytesRow,this]
def BL {m : Nat×Nat} (h:w.heap[b]?=some (.cells c t m)) (j:Nat):w.cell? ⟨b,j,none⟩=c[j]?:=by simp[World.cell?,h]
def MH (h:w.heap[b]?=some (.cells c t (n,n+1))) (j:Nat) (a:j < n):w.frozen? ⟨b,j,none⟩=false:=by
 simp[World.frozen?,h];omega
theorem Ey {m : Nat×Nat} (h:w.heap[b]?=some (.cells c t m)) (j:Nat) (u:gQ):(w.setCell ⟨b,j,none⟩ u).heap[b]?=some (.cells (c.setIfInBounds j u) t m):=by
 have a:=iX h;have d:w.heap[b]= .cells c t m:=by simpa [xH a]using h
 show(w.heap.modify b _)[b]?=_
 grind
def CJ (g a d:Nat) (h:jN) (base n:Nat) (e:gQ) (xs:List gQ) (S:List Nat) (w wr:gx):Prop:=
 (∃C:jN,wr.heap[g]?=some (.cells C 5 (a,a+1))/\C.size=a)/\wr.heap[d]?=some (gL h 76)/\wr.ownsRow base 5 1 e n xs/\Kept S w wr
theorem CJ.store {e a : Nat} {k : jN} {d : gQ} {xs : List gQ} {wr : gx} (h:CJ g e a k base n d xs S w wr) (m:w.heap.size<=g) (l:a≠g) (o:d.ownBlock≠some g) (j:Nat) (u:gQ):
  CJ g e a k base n d xs S w (wr.setCell ⟨g,j,none⟩ u):=by
 have⟨⟨C,hC,hs⟩,hx,ho,hk⟩:=h;refine⟨⟨_,Ey hC j u,by grind⟩,?_,zk ho o u,hk.setCell (.inr m) u⟩;rw[Below.heap_setCell wr ⟨g,j,none⟩ u a l];exact hx
def CJ.cell {a d : Nat} {l : jN} {k : gQ} {xs : List gQ} {wr : gx} (h:CJ g a d l base n k xs S w wr) (j:Nat) (e:j < a):(∃v,wr.cell? ⟨g,j,none⟩=some v)/\wr.frozen? ⟨g,j,none⟩=false:=by
 have⟨⟨C,hC,hs⟩,_⟩:=h;refine⟨⟨C[j]'(by omega),?_⟩,MH hC j e⟩;rw[BL hC];simp
theorem wP (x:Nat) (a:Int×Int×Int) (A:gQ) (s t:gz) (base:Nat) (w:gx) (X:w.heap[x]?=some (gL (ry a A) 76))
  (V:w.ownsRow base 5 1 A s.size (kH s)) (hl:s.size+t.size<=1024) (hb:base<=w.heap.size):
  Calls prog 15 #[gN x,gH t] w λe w'=>e=iw (.tuple #[gh t.size,gh 0,.bool true])/\
   ∃d,w'.heap[x]?=some (gL (ry a d) 76)/\w'.ownsRow base 5 1 d (s++t).size (kH (s++t))/\Kept (x::A.ownBlock.toList) w w'/\(d.ownBlock=A.ownBlock\/∀k,d.ownBlock=some k->w.heap.size<=k):=by
 have z:=run_bytes_of_string (P:=prog) w 9 55 5 t underlying9 underlying55 underlying5;obtain⟨B,J⟩:∃B,B=grownCap w t.size 0 5:=⟨_,rfl⟩;rw[<-J]at z;clear J;have U:=Ch t B;have Z:=I2 t B;generalize bytesRow t B=R at z U Z;obtain⟨C,m⟩:∃C,C=w.drew.alloc (.cells R 5 (R.size,R.size+1)):=⟨_,rfl⟩;rw[<-m]at z;have Y:C.heap[w.heap.size]?=some (.cells R 5 (R.size,R.size+1)):=by rw[m];exact fX w.drew _
 have T:Kept [] w C:=by rw[m];exact(Kept.refl [] w).drew.alloc _
 have z1:C.heap.size=w.heap.size+1:=by rw[m];show(w.heap.push _).size=_;simp
 clear m;have a0:=iX X;have HX:=V.lt;have x1:=T.at X (by simp);have o1:=T.ownsRow V (λ_ _=>by simp);have I:=Yq x w.heap.size B a A s t base C x1 o1 (λj u h=>by rw[BL Y];grind) hl (by omega);have HZ:Hid (C.heap.size=w.heap.size+1):=z1;clear z1 x1 o1 X V;go_enter func15,ntmps15
 go_wp21
 refine I.mono ?_;rintro e w2 ⟨rfl,d,N,K,H,G⟩;clear z I
 go_wp21
 refine(EV _).mono ?_;rintro e O ⟨rfl,o⟩;have hS:w.heap.size∉x::A.ownBlock.toList:=by
  simp only[lf,Option.mem_toList,not_or];exact⟨by omega,λh=>by grind⟩
 have D:O.heap[w.heap.size]?=some (.cells R 5 (R.size,R.size+1)):=o.at (H.at Y hS) (by simp);have HT:CJ w.heap.size R.size x (ry a d) base (s++t).size d (kH (s++t)) (x::A.ownBlock.toList) w O:=
  ⟨⟨R,D,rfl⟩,o.at N (by simp),o.ownsRow K (λ_ _=>by simp),((T.mono (by simp)).trans H).trans (o.mono (by simp))⟩
 have HN:d.ownBlock≠some w.heap.size:=by
  rcases G with h|h
  .grind
  .grind
 have HF:d.ownBlock=A.ownBlock\/∀k,d.ownBlock=some k->w.heap.size<=k:=by
  rcases G with h|h
  .exact .inl h
  .grind
 have F:(convert 55 9 (oe w.heap.size t.size B)).run prog O= .ok (gH t) O:=by
  have:=UK (P:=prog) O 55 9 5 ⟨w.heap.size,0,none⟩ B t.data.toList underlying55 underlying5 underlying9 (λj hj=>by
   rw[jg,BL D];exact Z j _ (by unfold kH;grind))
  simpa using this
 clear G H o N K D hS T
 go_wp21
 clear F
 go_loopw [33] (λi wr=>∃k:Nat,k<=t.size/\i=gh k/\CJ w.heap.size R.size x (ry a d) base (s++t).size d (kH (s++t)) (x::A.ownBlock.toList) w wr) (λi _=>t.size - (intOf i).toNat)
 case atStart=>grind
 case round=>
  obtain⟨k,hk,rfl,l⟩:=hrel
  by_cases a1:k < t.size
  .have⟨⟨v,hv⟩,hfz⟩:=l.cell k (by omega);have HS:=l.store (gW _) (by omega) HN k (.int .u8 33);go_wp2;go_roundw
   case rel=>exact⟨k+1,by omega,by go_num,HS⟩
   case measure=>simp[intOf];omega
  .go_wp2;go_ret3;exact⟨rfl,d,l.2.1,l.2.2.1,l.2.2.2,HF⟩
structure RC where
 cs:gz
 av:gQ
 at_:Int
 mv:gQ
 lg:Int
 nJ:gz:=⟨#[]⟩
 fU:Bool:=false
variable {R : RC}
def xm (R:RC) (a ps:Nat):jN:=#[gH R.cs,R.av,gh a,gh ps,gh R.at_,R.mv,gh R.lg,gH R.nJ,.bool R.fU]
def Rd (w:gx) (r:Nat) (R:RC) (a ps:Nat):Prop:=w.heap[r]?=some (gL (xm R a ps) 165)
def Rd.text {a ps : Nat} (h:Rd w r R a ps):w.cell? ⟨r,0,none⟩=some (gH R.cs):=by rw[fW h];rfl
def Rd.gM {a ps : Nat} (h:Rd w r R a ps):w.cell? ⟨r,1,none⟩=some R.av:=by rw[fW h];rfl
def Rd.bg {a ps : Nat} (h:Rd w r R a ps):w.cell? ⟨r,2,none⟩=some (gh a):=by rw[fW h];rfl
def Rd.ps {a ps : Nat} (h:Rd w r R a ps):w.cell? ⟨r,3,none⟩=some (gh ps):=by rw[fW h];rfl
def Rd.mv {a ps : Nat} (h:Rd w r R a ps):w.cell? ⟨r,5,none⟩=some R.mv:=by rw[fW h];rfl
def Rd.lg {a ps : Nat} (h:Rd w r R a ps):w.cell? ⟨r,6,none⟩=some (gh R.lg):=by rw[fW h];rfl
def Rd.nJ {a ps : Nat} (h:Rd w r R a ps):w.cell? ⟨r,7,none⟩=some (gH R.nJ):=by rw[fW h];rfl
def Rd.fU {a ps : Nat} (h:Rd w r R a ps):w.cell? ⟨r,8,none⟩=some (.bool R.fU):=by rw[fW h];rfl
def Rd.free {a ps : Nat} (h:Rd w r R a ps) (j:Nat):w.frozen? ⟨r,j,none⟩=false:=by unfold Rd at h;simp[World.frozen?,h]
def Rd.Ng {d ps : Nat} (h:Rd w r R d ps) (a:Nat):Rd (w.setCell ⟨r,3,none⟩ (gh a)) r R d a:=gm h 3 _
def Rd.agD {d ps : Nat} (h:Rd w r R d ps) (a:Nat):Rd (w.setCell ⟨r,2,none⟩ (gh a)) r R a ps:=gm h 2 _
def Rd.kept {a ps : Nat} (h:Rd w r R a ps) (d:Kept S w w') (e:r∉S):Rd w' r R a ps:=d.at h e
def pi (r:Nat) (R:RC) (a ps:Nat) (w:gx) (h:Rd w r R a ps):
  Calls prog 87 #[gN r] w λe w'=>e=iw (.bool (decide (ps=R.cs.size)))/\∃q,w'=w.drewN q:=by
 have t:=h.text;have p:=h.ps;generalize R.cs=s at t
 by_cases e:ps=s.size
 .subst e;go_enter func87,ntmps87
  go_wp21
  go_quiet (fail)
  go_wp2;go_ret;exact⟨by simp,⟨_,rfl⟩⟩
 .have d:((ps:Int)==(s.size:Int))=false:=beq_eq_false_iff_ne.2 (by omega);go_enter func87,ntmps87
  go_wp21
  go_quiet (fail)
  go_wp2;go_ret;exact⟨by simp[e],⟨_,rfl⟩⟩
def xo (r:Nat) (R:RC) (a ps:Nat) (w:gx) (h:Rd w r R a ps) (d:ps<=R.cs.size) (_hs:R.cs.size<=1024):
  Calls prog 160 #[gN r] w λe w'=>e=iw (gH (R.cs.extract ps R.cs.size))/\∃q,w'=w.drewN q:=by
 have t:=h.text;have p:=h.ps;generalize R.cs=s at *;go_enter func160,ntmps160
 go_wp21
 go_quiet (fail)
 go_wp2;go_ret;exact⟨rfl,⟨_,rfl⟩⟩
def JO (c:Int) (w:gx) (l:0<=c) (m:c<=255):
  Calls prog 162 #[.int .u8 c] w λe w'=>e=iw (.bool (decide (97<=c/\c<=122\/65<=c/\c<=90)))/\w'=w:=by
 by_cases a:97<=c<;>by_cases d:c<=122<;>by_cases h:65<=c<;>by_cases k:c<=90
 all_goals first|(exfalso;omega)|skip
 all_goals (go_enter func162,ntmps162;go_wp2;go_ret;exact⟨by first|(simp;done)|(simp;omega),rfl⟩)
def pre (s p:gz):Bool:=decide (p.size<=s.size)&&((s.extract 0 p.size).toList==p.toList)
def JR (s p:gz) (w:gx) (d:s.size<=1048576) (a:p.size<=1048576):
  Calls prog 252 #[gH s,gH p] w λe w'=>e=iw (.bool (pre s p))/\w'=w:=by
 by_cases h:p.size<=s.size
 .go_enter func252,ntmps252;go_wp2;go_ret;exact⟨by simp[pre,h],rfl⟩
 .go_enter func252,ntmps252;go_wp2;go_ret;exact⟨by simp[pre,h],rfl⟩
def vk (s p:gz) (w:gx) (d:s.size<=1048576) (a:p.size<=1048576):
  Calls prog 159 #[gH s,gH p] w λe w'=>e=iw (.bool (pre s p))/\w'=w:=by
 go_enter func159,ntmps159
 go_wp21
 refine(JR s p w d a).mono ?_;rintro e w' ⟨rfl,rfl⟩;go_wp2;go_ret;simp
theorem FO (h:pre s p=true):p.size<=s.size:=by
 unfold pre at h;grind
def lN {ps : Nat} (h:pre (s.extract ps s.size) p=true) (a:ps<=s.size):ps+p.size<=s.size:=by
 have:=FO h;simp at this;omega
def taken (R:RC) (p:gz) (ps:Nat):Nat:=if pre (R.cs.extract ps R.cs.size) p=true then ps+p.size else ps
def Ss {ps : Nat} (h:ps<=R.cs.size):taken R p ps<=R.cs.size:=by
 unfold taken;split
 .rename_i a;exact lN a h
 omega
theorem Sr {ps : Nat}:ps<=taken R p ps:=by grind[taken]
def lR (r:Nat) (R:RC) (d ps:Nat) (s:gz) (w:gx) (h:Rd w r R d ps) (k:ps<=R.cs.size) (m:R.cs.size<=1024) (x:s.size<=1024):
  Calls prog 91 #[gN r,gH s] w λe w'=>e=iw (.bool (pre (R.cs.extract ps R.cs.size) s))/\Kept [r] w w'/\Rd w' r R d (taken R s ps):=by
 have H:=h
 by_cases e:pre (R.cs.extract ps R.cs.size) s=true
 .have v:=lN e k;have a:taken R s ps=ps+s.size:=by unfold taken;rw[gJ e]
  rw[a];go_enter func91,ntmps91
  go_wp21
  refine(xo r R d ps w H k m).mono ?_;rintro e w' ⟨rfl,q,rfl⟩
  go_wp21
  refine(vk _ s _ (by simp;omega) (by omega)).mono ?_;rintro e w' ⟨rfl,rfl⟩;have p:(w.drewN q).cell? ⟨r,3,none⟩=some (gh ps):=H.ps;have z:=H.free 3;have o:Hid (Kept [r] w ((w.drewN q).setCell ⟨r,3,none⟩ (gh ((ps+s.size:Nat))))):=((Kept.refl [r] w).drewN q).setCell (.inl (by simp)) _;have u:Hid (Rd ((w.drewN q).setCell ⟨r,3,none⟩ (gh ((ps+s.size:Nat)))) r R d (ps+s.size)):=Rd.Ng (w:=w.drewN q) H _;rw[e];go_wp2;go_ret;exact⟨by rw[e];rfl,o,u⟩
 .have a:taken R s ps=ps:=by unfold taken;rw[gV e]
  rw[a];have l:pre (R.cs.extract ps R.cs.size) s=false:=by simpa using e
  go_enter func91,ntmps91
  go_wp21
  refine(xo r R d ps w H k m).mono ?_;rintro e w' ⟨rfl,q,rfl⟩
  go_wp21
  refine(vk _ s _ (by simp;omega) (by omega)).mono ?_;rintro e w' ⟨rfl,rfl⟩;rw[l];go_wp2;go_ret;exact⟨by rw[l];rfl,(Kept.refl [r] w).drewN q,H⟩
def scan (q:Int->Bool) (s:gz) (i:Nat):Nat:=if h:i < s.size then (if q (bt s i)then i else scan q s (i+1))else i
  termination_by s.size - i
theorem EJ (h:s.size<=i):scan q s i=i:=by grind[scan]
theorem Kr (h:q (bt s i)=true):scan q s i=i:=by grind[scan]
theorem OZ (a:i < s.size) (h:q (bt s i)=false):scan q s i=scan q s (i+1):=by grind[scan]
def tZ:i<=scan q s i:=by
 fun_induction scan q s i with
 |case1=>omega
 |case2=>omega
 |case3=>omega
def pW (h:i<=s.size):scan q s i<=s.size:=by
 fun_induction scan q s i with
 |case1=>omega
 |case2 _ _ _ ih=>omega
 |case3=>omega
theorem ac9:scan q s i < s.size->q (bt s (scan q s i))=true:=by
 fun_induction scan q s i with
 |case1 _ _ h=>grind
 |case2 _ _ _ ih=>exact ih
 |case3 _ h=>omega
structure Wh (w:gx) (S:List Nat) (k:Nat) (caps:jN) (q:Int->Bool):Prop where
 Zw:∀(args:jN) (w:gx),(callFunc k args).run prog w= .ok (.enter k args) w
 ask:∀(c:Int) (w':gx),0<=c->c<=255->Kept S w w'->Calls prog k (#[.int .u8 c]++caps) w' λe w''=>e=iw (.bool (q c))/\∃n,w''=w'.drewN n
theorem Sw (r:Nat) (R:RC) (d ps:Nat) (k:Nat) (a:jN) (q:Int->Bool) (w:gx) (h:Rd w r R d ps) (J:ps<=R.cs.size) (U:R.cs.size<=1024) (K:Wh w [r] k a q):
  Calls prog 258 #[gN r,.func (.func k) #[] a] w λe w'=>e=iw (gH (R.cs.extract ps (scan q R.cs ps)))/\Kept [r] w w'/\Rd w' r R d (scan q R.cs ps):=by
 have u:=K;have V:=h.ps;have H:=h;have A:=get_bt R.cs;have G:=u.Zw;go_enter func258,ntmps258
 go_wp21
 go_loopw [] (λwr=>∃i:Nat,ps<=i/\i<=R.cs.size/\scan q R.cs i=scan q R.cs ps/\Rd wr r R d i/\Kept [r] w wr) (λwr=>R.cs.size - (match wr.cell? ⟨r,3,none⟩with|some v=>(intOf v).toNat|none=>0))
 case atStart=>exact⟨ps,gW _,J,rfl,H,Kept.refl _ _⟩
 case round=>
  have⟨i,hi0,hi1,hsc,HR,HKW⟩:=hrel;have t:=HR.text;have p:=HR.ps;have O:=HR.free 3
  by_cases e:i=R.cs.size
  .have C:=(λw' (h:Rd w' r R d i)=>pi r R d i w' h);have e2:scan q R.cs ps=i:=by rw[<-hsc];exact EJ (by omega)
   have z:decide (i=R.cs.size)=true:=by simp[e]
   rw[e2];rw[z]at C
   go_wp21
   go_quiet ((go_at_call 87;refine yz (C _ ?_);exact HR))
   go_wp21
   go_quiet (fail)
   go_wp2;go_ret;exact⟨by rw[e2,e];rfl,((HKW.drewN _).drewN _),by rw[e2];exact HR⟩
  .have m:i < R.cs.size:=by omega
   have C:=(λw' (h:Rd w' r R d i)=>pi r R d i w' h);have z:decide (i=R.cs.size)=false:=by simp[e]
   rw[z]at C;have T:=A i m;have B:=bt_nonneg R.cs i;have F:=bt_le R.cs i
   by_cases l:q (bt R.cs i)=true
   .have e2:scan q R.cs ps=i:=by rw[<-hsc];exact Kr l
    rw[e2];have D:=(λw' h=>u.ask (bt R.cs i) w' B F h);rw[l]at D
    go_wp21
    go_quiet (first|(go_at_call 87;refine yz (C _ ?_);exact HR)|(refine yz (D _ ?_);exact HKW.drewN _))
    go_wp21
    go_quiet (fail)
    go_wp2;go_ret;exact⟨by rw[e2];rfl,((HKW.drewN _).drewN _),by rw[e2];exact HR⟩
   .have o:q (bt R.cs i)=false:=by simpa using l
    have HS:scan q R.cs (i+1)=scan q R.cs ps:=by rw[<-hsc,OZ m o]
    have D:=(λw' h=>u.ask (bt R.cs i) w' B F h);rw[o]at D
    go_wp21
    go_quiet (first|(go_at_call 87;refine yz (C _ ?_);exact HR)|(refine yz (D _ ?_);exact HKW.drewN _))
    have x:=Rd.Ng (w:=wr.drewN nq) HR (i+1);have I:=(HKW.drewN nq).setCell (p:=⟨r,3,none⟩) (.inl (by simp)) (gh ((i+1:Nat)));go_wp2;go_roundw
    case rel=>grind
    case measure=>
     have N:=x.ps;rw[show((i:Int)+1)=((i+1:Nat):Int)from by omega,N,p];simp[intOf];omega
def ju (s:gz) (c:Int):Bool:=decide (0<=Lib.indexByte s.data.toList c.toNat.toUInt8)
def ZN (s:gz) (c:Int):ju s c=s.data.toList.contains c.toNat.toUInt8:=by rw[Lib.contains_iff_indexByte];rfl
def ahg {c : Int} (a:0<=c) (d:c<=255) {x:UInt8} (h:c.toNat.toUInt8=x):c=(x.toNat:Int):=by
 have:=sn UInt8.toNat h;simp at this;omega
def ZO {c : Int} (a:0<=c) (d:c<=255) (h:ju iW c=true):c=62:=by
 rw[ZN]at h;simp at h;exact ahg a d h
def JY (b:Nat) (s:gz) (c:Int) (w:gx) (h:w.cell? ⟨b,0,none⟩=some (gH s)):
  Calls prog 260 #[.int .u8 c,gN b] w λe w'=>e=iw (.bool (ju s c))/\w'=w:=by
 have C:=Tryz.strings_IndexByte s c w;go_enter func260,ntmps260
 go_wp21
 refine C.mono ?_;rintro e w' ⟨rfl,rfl⟩;generalize hx:Lib.indexByte s.data.toList c.toNat.toUInt8=x;have d:ju s c=decide (0<=x):=by unfold ju;rw[hx]
 have a:=fV d;clear d
 by_cases e:0<=x
 .go_wp2;go_ret;exact⟨by rw[a.out];simp[e],rfl⟩
 .go_wp2;go_ret;exact⟨by rw[a.out];simp[e],rfl⟩
def C5 (w:gx) (S:List Nat) (b:Nat) (s:gz) (h:w.cell? ⟨b,0,none⟩=some (gH s)) (l:b < w.heap.size) (k:b∉S):Wh w S 260 #[gN b] (ju s) where
 Zw:=enters_of func260 (by rfl) rfl
 ask c w' _ _ hk:=(JY b s c w' ((hk.cell (p:=⟨b,0,none⟩) l k).trans h)).mono λe m ⟨a,d⟩=>⟨a,0,d⟩
def py (s:gz) (w:gx):
  Calls prog 168 #[gH s] w λe w'=>e=iw (.func (.func 260) #[] #[gN w.heap.size])/\w'=w.alloc (.cells #[gH s] 9):=by
 have h:∀(d:Fn) (first a:jN) (w:gx),(Instr.makeFunc d first a).run prog w= .ok (.func d first a) w:=λ_ _ _ _=>rfl;go_enter func168,ntmps168;go_wp2;go_ret;simp
def QZ (w:gx) (S:List Nat):Wh w S 162 #[] (λc=>decide (97<=c/\c<=122\/65<=c/\c<=90)) where
 Zw:=enters_of func162 (by rfl) rfl
 ask c w' h0 a _:=(JO c w' h0 a).mono λe h ⟨a,d⟩=>⟨a,0,d⟩
def aai (b a:Nat) (s:gz) (c:Int) (w:gx) (h:w.cell? ⟨b,0,none⟩=some (gH s)) (d:w.cell? ⟨a,0,none⟩=some (.func (.func 260) #[] #[gN b])):
  Calls prog 341 #[.int .u8 c,gN a] w λe w'=>e=iw (.bool (!ju s c))/\w'=w:=by
 have C:=JY b s c w h;generalize ju s c=x at C|-;go_enter func341,ntmps341
 go_wp21
 refine C.mono ?_;rintro e w' ⟨rfl,rfl⟩;cases x
 .go_wp2;go_ret;simp
 .go_wp2;go_ret;simp
def YQ (w:gx) (S:List Nat) (b a:Nat) (s:gz) (h:w.cell? ⟨b,0,none⟩=some (gH s)) (d:w.cell? ⟨a,0,none⟩=some (.func (.func 260) #[] #[gN b])) (u:b < w.heap.size) (o:b∉S) (l:a < w.heap.size) (k:a∉S):Wh w S 341 #[gN a] (λc=>!ju s c) where
 Zw:=enters_of func341 (by rfl) rfl
 ask c w' _ _ hk:=(aai b a s c w' ((hk.cell (p:=⟨b,0,none⟩) u o).trans h) ((hk.cell (p:=⟨a,0,none⟩) l k).trans d)).mono λe v ⟨m,d⟩=>⟨m,0,d⟩
def acH (f:Fn) (x y:jN) (w:gx):
  Calls prog 304 #[.func f x y] w λe w'=>e=iw (.func (.func 341) #[] #[gN w.heap.size])/\w'=w.alloc (.cells #[.func f x y] 224):=by
 have h:∀(d:Fn) (first a:jN) (w:gx),(Instr.makeFunc d first a).run prog w= .ok (.func d first a) w:=λ_ _ _ _=>rfl;go_enter func304,ntmps304;go_wp2;go_ret;simp
theorem wD (r:Nat) (R:RC) (v ps:Nat) (s:gz) (w:gx) (h:Rd w r R v ps) (O:ps<=R.cs.size) (T:R.cs.size<=1024):
  Calls prog 256 #[gN r,gH s] w λe w'=>e=pE/\Kept [r] w w'/\Rd w' r R v (scan (λc=>!ju s c) R.cs ps):=by
 have V:=iX h;have H:=h;clear h;obtain⟨k,a⟩:∃k,k=w.alloc (.cells #[gH s] 9):=⟨_,rfl⟩;obtain⟨l,d⟩:∃l,l=k.alloc (.cells #[.func (.func 260) #[] #[gN w.heap.size]] 224):=⟨_,rfl⟩;have G:k.heap.size=w.heap.size+1:=by rw[a];simp
 have U:l.heap.size=w.heap.size+2:=by rw[d];simp[G]
 have B:k.heap[w.heap.size]?=some (gL #[gH s] 9):=by rw[a];exact fX w _
 have F:Kept [r] w k:=by rw[a];exact(Kept.refl _ _).alloc _
 have m:Kept [] k l:=by rw[d];exact(Kept.refl _ _).alloc _
 have N:l.heap[k.heap.size]?=some (gL #[.func (.func 260) #[] #[gN w.heap.size]] 224):=by rw[d];exact fX k _
 have A:=m.at B (by simp);have o:Rd l r R v ps:=by rw[d,a];exact(((Kept.refl [] w).alloc _).alloc _).at H (by simp)
 have I:Kept [r] w l:=F.trans (m.mono (by simp));have D:Wh l [r] 341 #[gN k.heap.size] (λc=>!ju s c):=
  YQ l [r] w.heap.size k.heap.size s (by simp_all) (by simp_all) (by omega) (by grind) (by omega) (by grind)
 have C:=Sw r R v ps _ _ _ l o O T D;have x:=fV a;have z:=fV d;clear D o A N m F B G U a d;go_enter func256,ntmps256
 go_wp21
 refine(py s w).mono ?_;rintro e w' ⟨rfl,rfl⟩;rw[<-x.out]
 go_wp21
 refine(acH _ _ _ k).mono ?_;rintro e w' ⟨rfl,rfl⟩;rw[<-z.out]
 go_wp21
 refine C.mono ?_;rintro e X ⟨rfl,u,K⟩;have J:=I.trans u;clear u;go_wp2;go_end0
 grind
structure Mi (w:gx) (r:Nat) (R:RC) (g cap:Nat) (cut:Nat->Nat):Prop where
 av:R.av=oe g (R.cs.size+1) cap
 ne:g≠r
 lt:g < w.heap.size
 at_:∀i,i<=R.cs.size->w.cell? ⟨g,i,none⟩=some (gh (cut i))
def Mi.kept {a : Nat} {d : Nat->Nat} (h:Mi w r R g a d) (e:Kept [r] w w'):Mi w' r R g a d:=
 ⟨h.av,h.ne,mi h.lt e.size,λi k=>(e.cell (p:=⟨g,i,none⟩) h.lt (by simp[h.ne])).trans (h.at_ i k)⟩
def qp (r:Nat) (R:RC) (k ps g m:Nat) (d:Nat->Nat) (w:gx) (h:Rd w r R k ps) (l:Mi w r R g m d) (o:k<=R.cs.size) (u:ps<=R.cs.size) (D:R.cs.size<=1024):
  Calls prog 88 #[gN r] w λe w'=>e=iw (.agg #[gh (d k),gh (d ps)])/\Kept [] w w':=by
 have a:=h.gM;rw[l.av]at a;have p:=h.ps;have b:=h.bg;have z:=l.at_ k o;have A:=l.at_ ps u;have C:=iX h;have B:=l.lt;generalize R.cs.size=n at *;generalize d k=x at *;generalize d ps=y at *;go_enter func88,ntmps88
 go_wp21
 go_region
 all_goals (try go_wp2)
 refine oR (v:= .agg #[gh x,gh y]) ?_ rfl ⟨rfl,((Kept.refl [] w).alloc _).drew⟩;simp[results,results88,asAddr,Result.andThen,go_sem]
theorem YT {d : Nat} {a b : Int} {e : gx} (h:Kept [r] w e) (k:Rd e r R d (d+1)) (q:Kept [] e W) (g:W.heap[w.heap.size]?=some (gL #[gh 0,gh 0,gH jz] 188)) (m:r≠w.heap.size):
  Kept [r] w (((W.setCell ⟨w.heap.size,0,none⟩ (gh a)).setCell ⟨w.heap.size,1,none⟩ (gh b)).setCell ⟨w.heap.size,2,none⟩ (gH s))/\Rd (((W.setCell ⟨w.heap.size,0,none⟩ (gh a)).setCell ⟨w.heap.size,1,none⟩ (gh b)).setCell ⟨w.heap.size,2,none⟩ (gH s)) r R d (d+1)/\(((W.setCell ⟨w.heap.size,0,none⟩ (gh a)).setCell ⟨w.heap.size,1,none⟩ (gh b)).setCell ⟨w.heap.size,2,none⟩ (gH s)).heap[w.heap.size]?=some (gL #[gh a,gh b,gH s] 188):=by
 have l:Kept [w.heap.size] W (((W.setCell ⟨w.heap.size,0,none⟩ (gh a)).setCell ⟨w.heap.size,1,none⟩ (gh b)).setCell ⟨w.heap.size,2,none⟩ (gH s)):=(((Kept.refl [w.heap.size] W).setCell (.inl (by simp)) _).setCell (.inl (by simp)) _).setCell (.inl (by simp)) _;refine⟨?_,(k.kept q (by simp)).kept l (by grind),gm (gm (gm g 0 _) 1 _) 2 _⟩;exact((((h.trans (q.mono (by simp))).setCell (.inr (gW _)) _).setCell (.inr (gW _)) _).setCell (.inr (gW _)) _)
def DN (r:Nat) (R:RC) (a ps g A:Nat) (d:Nat->Nat) (w:gx) (h:Rd w r R a ps) (O:Mi w r R g A d) (F:a < R.cs.size) (hs:R.cs.size<=1024):
  Calls prog 157 #[gN r] w λe w'=>e=iw (.agg #[gh (d a),gh (d (a+1)),gH (R.cs.extract a (a+1))])/\Kept [r] w w'/\Rd w' r R a (a+1):=by
 have b:=h.bg;have p:=h.ps;have fz:=h.free 3;have hr:=iX h;obtain⟨z,U⟩:∃z,z=Obj.cells #[gh 0,gh 0,gH jz] 188 (0,0):=⟨_,rfl⟩;obtain⟨l,k⟩:∃l,l=(w.setCell ⟨r,3,none⟩ (gh ((a+1:Nat)))).alloc z:=⟨_,rfl⟩;have K:Kept [r] w l:=by rw[k];exact((Kept.refl [r] w).setCell (.inl (by simp)) _).alloc _
 have N:Rd l r R a (a+1):=by rw[k];exact((Kept.refl [] _).alloc z).at (h.Ng (a+1)) (by simp)
 have V:l.heap[w.heap.size]?=some z:=by rw[k];have:=fX (w.setCell ⟨r,3,none⟩ (gh ((a+1:Nat)))) z;rwa [World.size_setCell]at this
 have C:=fV (λW (X:Kept [] l W)=>qp r R a (a+1) g A d W (N.kept X (by simp)) ((O.kept K).kept (X.mono (by simp))) (by omega) (by omega) hs);have HA:=fV O;have H:=fV K;have m:=fV N;have G:=fV V;have HZ:=fV U;have J:=fV (show(w.setCell ⟨r,3,none⟩ (gh ((a:Int)+1))).alloc (gL #[gh 0,gh 0,gH jz] 188)=l from by rw[k,U];congr 1);clear h O K N V k U;go_enter func157,ntmps157
 go_wp21
 rw[J.out];have I:=fV (show r≠w.heap.size by omega);clear b p fz hr;refine vL (by rfl) ?_;refine qj (λ(g:Unit) z=>⟨#[gN r,undef,gN w.heap.size,gN r,gN r,gN r,jO r 2,gh a,gh ((a:Int)+1),gN r,jO r 3,cd z 0 (gN r),cd z 1 (.agg #[gh (d a),gh (d (a+1))]),cd z 2 (gN r),cd z 3 (gN r),cd z 4 (gN r),cd z 5 (gH R.cs),cd z 6 (gN r),cd z 7 (gN r),cd z 8 (jO r 2),cd z 9 (gh a),cd z 10 (gN r),cd z 11 (gN r),cd z 12 (jO r 3),cd z 13 (gh ((a:Int)+1)),cd z 14 (gH (R.cs.extract a (a+1))),cd z 15 (.agg #[gh (d a),gh (d (a+1)),gH (R.cs.extract a (a+1))])],[]⟩) (λg z W=>if dn z 16=true then (Kept [r] w W/\Rd W r R a (a+1)/\W.heap[w.heap.size]?=some (gL #[gh (d a),gh (d (a+1)),gH (R.cs.extract a (a+1))] 188))else Kept [] l W) 17 [[],[0],[],[2],[3],[4],[],[6],[7],[8],[],[10],[11],[12],[5,9,13],[1,14],[0,1,2,3,4,5,6,7,8,9,10,11,12,13,14,15]] (()) rfl rfl ((Kept.refl [] l).drew) ?_ ?_
 .repeat' first|exact nC|refine nA ?_ ?_
  all_goals
   rintro g z W D x hn;simp[CZ]at x;refine j9 rfl ?_;intro K' u;simp only[lD,x];have F:dn z 16=false:=by simp[x,hn]
   have q:Kept [] l W:=by simpa [F]using D
   have c0:=(m.out.kept q (by simp)).text;have c2:=(m.out.kept q (by simp)).bg;have c3:=(m.out.kept q (by simp)).ps;have Y:=fV (C.out W q);have o:=q.at (G.out.trans (sn some HZ.out)) (by simp);have q0:W.cell? ⟨w.heap.size,0,none⟩=some (gh 0):=by rw[fW o];rfl
   have q1:W.cell? ⟨w.heap.size,1,none⟩=some (gh 0):=by rw[fW o];rfl
   have q2:W.cell? ⟨w.heap.size,2,none⟩=some (gH jz):=by rw[fW o];rfl
   have z0:=gu o 0;have z1:=gu o 1;have z2:=gu o 2;go_simp
   try (rw[gJ (by omega),gJ (by omega)];go_simp)
   first
   |refine u _ _ ⟨g,?_,by simpa [pj,F]using q⟩
   |refine Y.out.mono ?_;rintro e W2 ⟨rfl,T⟩;refine u _ _ ⟨g,?_,by simpa [pj,F]using q.trans T⟩
   |refine u _ _ ⟨g,?_,(gJ sL).mpr (YT H.out m.out q o I.out)⟩
   simp[pg,wg,lD,x]
 .rintro g W D;simp only[vR];rw[gJ yo]at D;have⟨h1,h2,h3⟩:=D;have Z:=fV h1;have H2:=fV h2;have H3:=fV h3;clear h1 h2 h3;rename_i KK B;refine B _ _ ?_;clear B KK;go_wp2;refine oR (v:= .agg #[gh (d a),gh (d (a+1)),gH (R.cs.extract a (a+1))]) ?_ rfl ⟨rfl,Z.out,H2.out⟩;have x:=fW H3.out;simp[results,results157,asAddr,Result.andThen,go_sem,x]
def Xk (r:Nat) (R:RC) (a ps:Nat) (w:gx) (h:Rd w r R a ps) (d:R.nJ=⟨#[]⟩):
  Calls prog 89 #[gN r] w λe w'=>e=iw (.bool false)/\Kept [] w w':=by
 have o:=h.nJ;rw[d]at o;have k:=iX h;go_enter func89,ntmps89;go_wp2;go_ret;exact⟨rfl,Kept.refl _ _⟩
theorem Rt (c:jN) (o i:Nat) (a:List gQ) (h:o+a.length<=c.size) (d:i < o\/o+a.length<=i):(js c o a)[i]?=c[i]?:=by
 rw[<-Wc,kM _ _ _ h,<-Wc]
 grind
theorem Ul (c:jN) (o k:Nat) (a:List gQ) (h:o+a.length<=c.size) (d:k < a.length):(js c o a)[o+k]?=a[k]?:=by
 rw[<-Wc,kM _ _ _ h]
 grind
def ahi:Tryz.zeroCells180[188]?=some (jc):=by kernel_rfl
def ahj:Tryz.zeroCells180[189]?=some (jc):=by kernel_rfl
def ahk:Tryz.zeroCells180[190]?=some (.pointer none):=by kernel_rfl
def ahl:Tryz.zeroCells180[191]?=some (.pointer none):=by kernel_rfl
def ahm:Tryz.zeroCells180[192]?=some (gh 0):=by kernel_rfl
def z193:Tryz.zeroCells180[193]?=some (gh 0):=by kernel_rfl
def z194:Tryz.zeroCells180[194]?=some (jc):=by kernel_rfl
def ahn:Tryz.zeroCells180[195]?=some (.bool false):=by kernel_rfl
def z196:Tryz.zeroCells180[196]?=some (.bool false):=by kernel_rfl
def aho:Tryz.zeroCells180[197]?=some (gh 0):=by kernel_rfl
def z198:Tryz.zeroCells180[198]?=some (.bool false):=by kernel_rfl
def Vc (bs bm a r:Nat) (C:jN) (R:RC) (d ps:Nat) (e:gx):Env:={bm:=bm,bB:=a,bR:=r,C0:=C,R0:=xm R d ps,FB:=7,w0:=e,tv:=jc,ta:=[],bs:=bs}
def RH (R:RC) (a ps:Nat) (s:gz) (b:Bool) (e:s=R.nJ) (d:b=R.fU):((xm R a ps).setIfInBounds 7 (gH s)).setIfInBounds 8 (.bool b)=xm R a ps:=by
 subst e d;rfl
theorem YD {d f a x : Nat} {e : Ak} (h:(S0 d f a x).ij i=some e):e=⟨⟨#[]⟩,[],none,[]⟩:=by
 have:=Ab.jr h
 match i,this with
 |0,this=>
  have k:some (Cf.el ⟨⟨#[]⟩,[],none,[]⟩)=some (.el e):=this
  grind
 |i+1,this=>simp[S0]at this
def af2 (d f a x:Nat):Wf (S0 d f a x) where
 gG:=λx l=>by cases l
 act:=λx l=>by cases l
 head:=rfl
 form:=rfl
 jl:=λi e h=>by rw[YD h];rfl
 kids:=λi e h k m=>by rw[YD h]at m;cases m
 xX:=rfl
def afq (bs bm O u r:Nat) (d f a:Nat) (w W:gx) (R:RC) (A:aeB bm O u d f a (.func (.func 55) #[gN r] #[]) w W) (hR:Rd W r R 0 0) (ho:R.nJ=⟨#[]⟩) (hp:R.fU=false) (hd:d<=64) (hf:f<=32) (ha:a<=16) (x:bs<=w.heap.size) (K:bs<=r):
  ∃C T,T 0=u/\RF (Vc bs bm O r C R 0 0 W) T (S0 d f a 0) W:=by
 have⟨c6,cs,v1,v2,v3,hb,hc6,hru,U,V,X⟩:=A.iC;have I:=hru.1;have J:c6.size=199:=by rw[hc6];simp[Cn,sV]
 have H:4+cs.length<=c6.size:=by rw[I,J];decide
 have l:∀i,i < 4\/184<=i->(js c6 4 cs)[i]?=c6[i]?:=λi m=>Rt c6 4 i cs H (by omega);have o:∀i,188<=i->(js c6 4 cs)[i]?=Tryz.zeroCells180[i]?:=λi m=>by
  rw[l i (.inr (by omega)),hc6];simp only[AB];rw[gV (by omega),gV (by omega),gV (by omega),x8 _ _ _ _ _ _ _ (by omega) (by omega)]
 have a0:u < W.heap.size:=iX A.xX;refine⟨js c6 4 cs,λi=>if i=0 then u else W.heap.size+i,rfl,⟨⟨_,λ_=> .slice none 0 0,λ_=> .slice none 0 0,jc,jc,jc⟩,rfl,?_⟩⟩;have low:∀i v,i < 4->c6[i]?=some v->(js c6 4 cs)[i]?=some v:=λi v m h=>(l i (.inl m)).trans h;have c0:c6[0]?=some (gh d):=by
  rw[hc6];simp[ni,AB,sV]
 have c1:c6[1]?=some (gh f):=by
  rw[hc6];simp[ni,AB,sV]
 have c2:c6[2]?=some (gh a):=by
  rw[hc6];simp[ni,AB,sV]
 have c3:c6[3]?=some (.func (.func 55) #[gN r] #[]):=by
  rw[hc6];simp[ni,AB,sV]
 have B:(js c6 4 cs)[184]?=some v1:=by
  rw[l _ (.inr (by omega)),hc6];simp[ni,AB,sV]
 have D:(js c6 4 cs)[185]?=some v2:=by
  rw[l _ (.inr (by omega)),hc6];simp[ni,AB,sV]
 have F:(js c6 4 cs)[186]?=some v3:=by
  rw[l _ (.inr (by omega)),hc6];simp[ni,AB,sV]
 have G:(js c6 4 cs)[187]?=some (iF u):=by
  rw[l _ (.inr (by omega)),hc6];simp[ni,AB,sV]
 exact
  {fr:=Fr.refl _
   env:={G1:=⟨cs,λk hk=>Ul c6 4 k cs H (by omega),hru⟩,txt:=low 3 _ (by decide) c3,spec:=⟨v1,B,U⟩,Xj:=⟨v2,D,V⟩,WG:=⟨v3,F,X⟩,xX:=G}
   vM:=⟨low 0 _ (by decide) c0,low 1 _ (by decide) c1,low 2 _ (by decide) c2,hd,hf,ha⟩
   tL:=λi Z m=>by
    match i,m with
    |0,m=>
     have e:Z= .el ⟨⟨#[]⟩,[],none,[]⟩:=by
      have:some (Cf.el ⟨⟨#[]⟩,[],none,[]⟩)=some Z:=m;exact(jy this).symm
     subst e;exact⟨⟨A.xX,od _ _ _ _,iN _,⟨_,_,_,rfl⟩⟩,od _ _ _ _,iN _⟩
    |i+1,m=>simp[S0]at m
   inj:=λi j h=>by
    have h':(if i=0 then u else W.heap.size+i)=(if j=0 then u else W.heap.size+j):=h
    by_cases m:i=0<;>by_cases Y:j=0<;>simp only[m,Y,↓reduceIte]at h'|- <;>omega
   BT:=λi j g m Y a2 z=>by simp[Value.ownBlock]at z
   GM:=λi m he=>rfl
   uq:=λi j e g U V X h4 h5=>by simp[Value.ownBlock]at h5
   Fk:=λi m he=>rfl
   wf:=af2 d f a 0
   iC:=⟨_,hb,{size:=by rw[jA];exact J,low:=λi m=>rfl,gG:=(o 188 (by omega)).trans ahi,act:=(o 189 (by omega)).trans ahj,head:=(o 190 (by omega)).trans ahk,form:=(o 191 (by omega)).trans ahl,mode:=(o 192 (by omega)).trans ahm,kept:=(o 193 (by omega)).trans z193,wait:=(o 194 (by omega)).trans z194,Js:=(o 195 (by omega)).trans ahn,jV:=(o 196 (by omega)).trans z196,gS:=(o 197 (by omega)).trans aho,behind:=(o 198 (by omega)).trans z198}⟩
   pF:=od _ _ _ _
   qu:=od _ _ _ _
   GP:=λg z=>by simp[Value.ownBlock]at z
   x9:=iN _
   Fp:=iN _
   pC:=od _ _ _ _
   Mg:=iN _
   rd:=by
    show W.heap[r]?=some (.cells (((xm R 0 0).setIfInBounds 7 (gH jz)).setIfInBounds 8 (.bool false)) _ _);rw[RH R 0 0 _ _ ho.symm hp.symm];exact hR
   RU:=by show 7+1 < 9;decide
   tok:=od _ _ _ _
   Md:=iN _
   bz:=j7 x A.k.size
   bB:=j7 x A.new
   bR:=K
   bN:=λi m=>by
    have a1:i < 1:=m;have:i=0:=by omega
    subst this;exact j7 x A.ahd
   DH:=λh=>by simp[S0]at h
   ab:=λi g m z=>by simp[Value.ownBlock]at z
   tb:=λg z=>by
    have N:(jc).ownBlock=some g:=z;simp[Value.ownBlock]at N
   Mf:=λv hv=>by cases hv}
def PA.move {d : Nat} (h:PA E d) (o:Fr E.bs E.w0 w) (z:wU E.bm w w') (x:∀(b:Nat) (l:Array MapEntry) (k:Nat),w.heap[b]?=some (Obj.map l k)->w'.heap[b]?=some (Obj.map l k)):PA {E with w0:=w'} d:=by
 have a:wU E.bm E.w0 w':=(o.n E.bm).trans z;have u:∀{R:Option (List (List gz×Ru))} {v:gQ},su E.bm E.bB d R v E.w0->su E.bm E.bB d R v w':=by
  intro R v h;cases R with
  |none=>exact h
  |some R=>
   have⟨b,hb⟩:=h;have⟨l,k,hat⟩:=hb.at;have e1:=(o.calm (.inl hb.at)).trans hat;exact⟨b,hb.fr a ((x b l k e1).trans hat.symm)⟩
 have⟨cs,h1,h2,h3⟩:=h.G1;have⟨v1,a1,b1⟩:=h.spec;have⟨v2,a2,b2⟩:=h.Xj;have⟨v3,a3,b3⟩:=h.WG;exact⟨⟨cs,h1,h2,λm B A=>by
  have⟨v0,v1,v2,v3,v4,v5,v6,v7,v8,v9,e,hi⟩:=h3 m B A;exact⟨v0,v1,v2,v3,v4,v5,v6,v7,v8,v9,e,⟨hi.blank.fr a,hi.jM.fr a,hi.gR.fr a,hi.iy.fr a,hi.iR.fr a,u hi.start,u hi.stop,hi.jG.fr a,hi.j8.fr a,hi.ir.fr a⟩⟩⟩,h.txt,⟨v1,a1,b1.fr a⟩,⟨v2,a2,b2.fr a⟩,⟨v3,a3,b3.fr a⟩,h.xX⟩
structure Lk (w:gx) (b:Nat) (look:gz->Option gz):Prop where
 lt:b < w.heap.size
 short:∀key t,look key=some t->t.size<=16
 run:∀(key:gz) (w':gx),w'.heap[b]?=w.heap[b]?->(Instr.lookup 160 (.map (some b)) (gH key) true).run prog w'= .ok (.tuple #[.agg #[gH ((look key).getD ⟨#[]⟩)],.bool (look key).isSome]) w'
def Lk.kept {look : gz->Option gz} (h:Lk w b look) (k:Kept S w w') (l:b∉S):Lk w' b look:=
 ⟨mi h.lt k.size,h.short,λa d e=>h.run a d (e.trans (k.block b h.lt l))⟩
open Go.ChangeMaps (setBlock)
def QX (e:MapEntry):gQ×gQ:=(e.key,e.val)
def kv (p:gz×gz):gQ×gQ:=(gH p.1,.agg #[gH p.2])
structure Mp (w:gx) (b:Nat) (L:lZ) (es:Array MapEntry) (clock:Nat):Prop where
 at_:w.heap[b]?=some (.map es clock)
 kvs:es.toList.map QX=L.map kv
 nod:(es.toList.map (·.born)).Nodup
 old:∀x∈es.toList,x.born < clock
def Mp.kept {a:Array MapEntry} (h:Mp w b L a clock) (e:Kept S w w') (d:b∉S):Mp w' b L a clock:=⟨e.at h.at_ d,h.kvs,h.nod,h.old⟩
def Oc (k:gz):∀(a:List MapEntry) (L:lZ) (i:Nat),a.map QX=L.map kv->L.all (λp=>!(k==p.1))=true->Instr.findNow .string (gH k) a i=some none
 |[],_,_,_,_=>rfl
 |e::a,[],_,h,_=>by simp at h
 |e::a,p::L,i,h,hn=>by
  simp only[Aj,SK]at h;simp only[List.all_cons,sq]at hn;have l:e.key=gH p.1:=sn Prod.fst h.1;have d:(k==p.1)=false:=by simpa using hn.1
  unfold Instr.findNow;simp only[l,Instr.sameNow,d];exact Oc k a L (i+1) h.2 hn.2
theorem Qr (k:gz):∀(a:List MapEntry) (L:lZ) (i:Nat) (p:gz×gz),a.map QX=L.map kv->L.find? (λp=>k==p.1)=some p->∃j,Instr.findNow .string (gH k) a i=some (some (j,.agg #[gH p.2]))
 |[],[],_,_,_,h=>by simp at h
 |[],_::_,_,_,h,_=>by simp at h
 |e::a,[],_,_,h,_=>by simp at h
 |e::a,q::L,i,p,h,hp=>by
  simp only[Aj,SK]at h;have d:e.key=gH q.1:=sn Prod.fst h.1;have l:e.val= .agg #[gH q.2]:=sn Prod.snd h.1;unfold Instr.findNow;cases hf:(k==q.1)
  .simp only[d,Instr.sameNow,hf];rw[List.find?_cons,hf]at hp;exact Qr k a L (i+1) p h.2 hp
  .simp only[d,Instr.sameNow,hf]
   simp_all
theorem Cm {a : gx} (h:Kept S a w) (l:b∈S\/a.heap.size<=b) (o:Obj):Kept S a (setBlock w b o):=
 ⟨h.os,h.tape,h.output,by show a.heap.size<=(w.heap.setIfInBounds b o).size;rw[SL];exact h.size,λk d e=>by
  show(w.heap.setIfInBounds b o)[k]?=_;rw[Cx (by grind)];exact h.block k d e⟩
theorem G9 (h:b < w.heap.size) (o:Obj):(setBlock w b o).heap[b]?=some o:=by
 show(w.heap.setIfInBounds b o)[b]?=_
 grind
theorem sS {l:Array MapEntry} (h:Mp w b L l clock) (k t:gz) (B:L.all (λp=>!(k==p.1))=true):
  ∃w' m a,(Instr.mapUpdate 160 (.map (some b)) (gH k) (.agg #[gH t])).run prog w= .ok () w'/\Mp w' b (L++[(k,t)]) m a/\Kept [b] w w'/\w'.heap.size=w.heap.size:=by
 have A:=iX h.at_;refine⟨setBlock w b (.map (l.push {key:=gH k,val:= .agg #[gH t],born:=clock}) (clock+1)),_,_,?_,⟨G9 A _,?_,?_,?_⟩,Cm (Kept.refl _ _) (.inl (by simp)) _,?_⟩
 .have v:=Oc k l.toList L 0 h.kvs B;have o:(underlying 9).run prog w= .ok .string w:=ql underlying9 _;have u:(Instr.checkKey false 10000 9 (gH k)).run prog w= .ok () w:=by
   unfold Instr.checkKey;simp[o]
  simp[Instr.mapUpdate,ql underlying160,K8 h.at_,u,Instr.findKey,o,v,setObj,Sem.run,h.at_,setBlock,Result.andThen]
 .simp[h.kvs,QX,kv]
 .simp only[Array.toList_push,sj,Aj,List.map_nil];rw[List.nodup_append];refine⟨h.nod,by simp,?_⟩;intro x d y D e;obtain⟨z,C,rfl⟩:=List.mem_map.1 d;have:=h.old z C
  grind
 .intro x d;simp only[Array.toList_push,List.mem_append,List.mem_singleton]at d;rcases d with d|rfl
  .have:=h.old x d;omega
  simp
 .show(w.heap.setIfInBounds b _).size=_;simp
def qg (L:lZ) (k:gz):Option gz:=(L.find? (λp=>k==p.1)).map (·.2)
def Pw (w:gx):(zeroValue 207).run prog w= .ok (.agg #[gH jz]) w:=by
 simp
theorem Mp.lk {a:Array MapEntry} (h:Mp w b L a clock) (A:L.all (λp=>decide (p.2.size<=16))=true):Lk w b (qg L) where
 lt:=iX h.at_
 short k t ht:=by
  unfold qg at ht;obtain⟨p,u,rfl⟩:=Option.map_eq_some_iff.1 ht
  grind
 run k w' e:=by
  have m:w'.heap[b]?=some (.map a clock):=e.trans h.at_;have v:(underlying 9).run prog w'= .ok .string w':=ql underlying9 _;have o:∀x,(Instr.checkKey x 10000 9 (gH k)).run prog w'= .ok () w':=λx=>by
   unfold Instr.checkKey;simp
  cases hf:L.find? (λp=>k==p.1)with
  |none=>
   have z:L.all (λp=>!(k==p.1))=true:=by
    rw[Nu];intro p u;have:=List.find?_eq_none.1 hf p u
    simpa using this
   have d:=Oc k a.toList L 0 h.kvs z;have l:qg L k=none:=by unfold qg;rw[hf];rfl
   rw[l];simp[Instr.lookup,ql underlying160,K8 m,o,Instr.findKey,v,d,Pw,Result.andThen]
  |some p=>
   have⟨j,d⟩:=Qr k a.toList L 0 p h.kvs hf;have l:qg L k=some p.2:=by unfold qg;rw[hf];rfl
   rw[l];simp[Instr.lookup,ql underlying160,K8 m,o,Instr.findKey,v,d,Result.andThen]
open Go.ChangeMaps (setBlock)
def kv0:lZ:=[(⟨#[97,112,111,115,59]⟩,tK),(nI,⟨#[226,132,151]⟩),(ow,⟨#[226,136,137]⟩),(ox,⟨#[226,136,140]⟩),(nF,p6),(⟨#[112,97,114,59]⟩,⟨#[226,136,165]⟩),(nH,⟨#[226,138,160]⟩),(⟨#[98,110,101,59]⟩,⟨#[61,226,131,165]⟩),(⟨#[84,97,98,59]⟩,⟨#[9]⟩),(mj,Cz)]
def aei:lZ:=[(⟨#[65,77,80]⟩,uA),(⟨#[97,109,112]⟩,uA),(⟨#[108,116]⟩,qG),(⟨#[103,116]⟩,iW),(⟨#[113,117,111,116]⟩,pD),(⟨#[110,98,115,112]⟩,tm),(⟨#[99,111,112,121]⟩,⟨#[194,169]⟩),(⟨#[110,111,116]⟩,⟨#[194,172]⟩),(⟨#[112,97,114,97]⟩,⟨#[194,182]⟩),(p5,⟨#[195,151]⟩)]
def kvj (j:Nat):lZ:=kv0++(aei.take j).flatMap λp=>[(p.1,p.2),(p.1++⟨#[59]⟩,p.2)]
def AG (j:Nat):gz×gz:=aei.getD j (⟨#[]⟩,⟨#[]⟩)
def xq:jN:=#[gH ⟨#[65,77,80]⟩,gH uA,gH ⟨#[97,109,112]⟩,gH uA,gH ⟨#[108,116]⟩,gH qG,gH ⟨#[103,116]⟩,gH iW,gH ⟨#[113,117,111,116]⟩,gH pD,gH ⟨#[110,98,115,112]⟩,gH tm,gH ⟨#[99,111,112,121]⟩,gH ⟨#[194,169]⟩,gH ⟨#[110,111,116]⟩,gH ⟨#[194,172]⟩,gH ⟨#[112,97,114,97]⟩,gH ⟨#[194,182]⟩,gH p5,gH ⟨#[195,151]⟩]
def ac7:Bool:=(List.range 10).all λj=>(kvj j).all (λp=>!((AG j).1==p.1))&&(kvj j++[AG j]).all (λp=>!(((AG j).1++⟨#[59]⟩)==p.1))&&decide ((AG j).1.size<=8)
def aaK:ac7=true:=rfl
theorem ac5 (h:j < 10):(kvj j).all (λp=>!((AG j).1==p.1))=true/\(kvj j++[AG j]).all (λp=>!(((AG j).1++⟨#[59]⟩)==p.1))=true/\(AG j).1.size<=8:=by
 have:=List.all_eq_true.1 aaK j (List.mem_range.2 h)
 grind
def XV (h:j < 10):xq[j*2]?=some (gH (AG j).1)/\xq[j*2+1]?=some (gH (AG j).2):=by
 rcases(by omega:j=0\/j=1\/j=2\/j=3\/j=4\/j=5\/j=6\/j=7\/j=8\/j=9)with rfl|rfl|rfl|rfl|rfl|rfl|rfl|rfl|rfl|rfl<;>exact⟨rfl,rfl⟩
def Z4 (h:j < 10):kvj (j+1)=kvj j++[AG j]++[((AG j).1++⟨#[59]⟩,(AG j).2)]:=by
 rcases(by omega:j=0\/j=1\/j=2\/j=3\/j=4\/j=5\/j=6\/j=7\/j=8\/j=9)with rfl|rfl|rfl|rfl|rfl|rfl|rfl|rfl|rfl|rfl<;>rfl
def KV:lZ:=kvj 10
def PC:KV.all (λp=>decide (p.2.size<=16))=true:=by rfl
def abB:KV.all (λp=>decide (p.1.size<=8))=true:=by rfl
def YA:KV.any (λp=>decide (p.1.size=8))=true:=by rfl
def adE (d:gx) (b:Nat) (A:Mp d b [] #[] 0):∃e h k l m o u v x a:gx,(Instr.mapUpdate 160 (.map (some b)) (gH ⟨#[97,112,111,115,59]⟩) (.agg #[gH tK])).run prog d= .ok () e/\(Instr.mapUpdate 160 (.map (some b)) (gH nI) (.agg #[gH ⟨#[226,132,151]⟩])).run prog e= .ok () h/\(Instr.mapUpdate 160 (.map (some b)) (gH ow) (.agg #[gH ⟨#[226,136,137]⟩])).run prog h= .ok () k/\(Instr.mapUpdate 160 (.map (some b)) (gH ox) (.agg #[gH ⟨#[226,136,140]⟩])).run prog k= .ok () l/\(Instr.mapUpdate 160 (.map (some b)) (gH nF) (.agg #[gH p6])).run prog l= .ok () m/\(Instr.mapUpdate 160 (.map (some b)) (gH ⟨#[112,97,114,59]⟩) (.agg #[gH ⟨#[226,136,165]⟩])).run prog m= .ok () o/\(Instr.mapUpdate 160 (.map (some b)) (gH nH) (.agg #[gH ⟨#[226,138,160]⟩])).run prog o= .ok () u/\(Instr.mapUpdate 160 (.map (some b)) (gH ⟨#[98,110,101,59]⟩) (.agg #[gH ⟨#[61,226,131,165]⟩])).run prog u= .ok () v/\(Instr.mapUpdate 160 (.map (some b)) (gH ⟨#[84,97,98,59]⟩) (.agg #[gH ⟨#[9]⟩])).run prog v= .ok () x/\(Instr.mapUpdate 160 (.map (some b)) (gH mj) (.agg #[gH Cz])).run prog x= .ok () a/\(∃z clock,Mp a b kv0 z clock)/\Kept [b] d a/\a.heap.size=d.heap.size:=by
 have⟨e,es1,c1,r1,m1,k1,z1⟩:=sS (w:=d) A ⟨#[97,112,111,115,59]⟩ tK (by rfl);have⟨h,es2,c2,r2,m2,k2,z2⟩:=sS (w:=e) m1 nI ⟨#[226,132,151]⟩ (by rfl);have⟨k,es3,c3,r3,m3,k3,z3⟩:=sS (w:=h) m2 ow ⟨#[226,136,137]⟩ (by rfl);have⟨l,es4,c4,r4,m4,k4,z4⟩:=sS (w:=k) m3 ox ⟨#[226,136,140]⟩ (by rfl);have⟨m,es5,c5,r5,m5,k5,z5⟩:=sS (w:=l) m4 nF p6 (by rfl);have⟨o,es6,c6,r6,m6,k6,z6⟩:=sS (w:=m) m5 ⟨#[112,97,114,59]⟩ ⟨#[226,136,165]⟩ (by rfl);have⟨u,es7,c7,r7,m7,k7,z7⟩:=sS (w:=o) m6 nH ⟨#[226,138,160]⟩ (by rfl);have⟨v,es8,c8,r8,m8,k8,z8⟩:=sS (w:=u) m7 ⟨#[98,110,101,59]⟩ ⟨#[61,226,131,165]⟩ rfl;have⟨x,es9,c9,r9,m9,k9,z9⟩:=sS (w:=v) m8 ⟨#[84,97,98,59]⟩ ⟨#[9]⟩ rfl;have⟨a,es10,c10,r10,m10,k10,z10⟩:=sS (w:=x) m9 mj Cz rfl;exact⟨e,h,k,l,m,o,u,v,x,a,r1,r2,r3,r4,r5,r6,r7,r8,r9,r10,⟨_,_,m10⟩,(((((((((k1).trans k2).trans k3).trans k4).trans k5).trans k6).trans k7).trans k8).trans k9).trans k10,by omega⟩
def aez (w:gx) (a bm j:Nat) (wr:gx):Prop:=
 (∃e d,Mp wr bm (kvj j) e d)/\wr.heap[a]?=some (gL #[.map (some bm),gh 0] 162)/\wr.heap[a+1]?=some (gL xq 208)/\wr.heap[w.heap.size]?=some (gL #[.map none,gh 0] 162)/\Kept [] w wr
def acx:gQ->Nat
 | .string k=>k.size
 |_=>0
structure aeA (w:gx) (nb bm it:Nat) (es:Array MapEntry) (ck:Nat) (wr:gx) (seen:Array Nat) (c0 M:Nat):Prop where
 iter:wr.heap[it]?=some (.mapIter (some bm) ck seen c0)
 late:ck<=c0
 mp:Mp wr bm KV es ck
 nam:wr.heap[nb]?=some (gL #[.map (some bm),gh M] 162)
 res:wr.heap[w.heap.size]?=some (gL #[.map none,gh 0] 162)
 le:M<=8
 SS:∀e∈es.toList,seen.contains e.born=true->acx e.key<=M
 kept:Kept [] w wr
 size:it < wr.heap.size
def afh {a:Array MapEntry} (h:a.toList.map QX=L.map kv) {e:MapEntry} (d:e∈a.toList):∃p∈L,e.key=gH p.1:=by
 have:QX e∈L.map kv:=by rw[<-h];exact List.mem_map.2 ⟨e,d,rfl⟩
 have⟨p,hp,e1⟩:=List.mem_map.1 this;exact⟨p,hp,(sn Prod.fst e1).symm⟩
def Zx {a:Array MapEntry} (h:a.toList.map QX=L.map kv) {p : gz×gz} (d:p∈L):∃e∈a.toList,e.key=gH p.1:=by
 have:kv p∈a.toList.map QX:=by rw[h];exact List.mem_map.2 ⟨p,d,rfl⟩
 have⟨e,he,e1⟩:=List.mem_map.1 this;exact⟨e,he,sn Prod.fst e1⟩
theorem RP (w:gx):
  Calls prog 67 #[] w λe w'=>∃b,e=iw (.agg #[.map (some b),gh 8])/\w.heap.size<=b/\Lk w' b (qg KV)/\Kept [] w w':=by
 obtain⟨a,z⟩:∃a,a=w.alloc (.cells #[.map none,gh 0] 162):=⟨_,rfl⟩;have za:a.heap.size=w.heap.size+1:=by rw[z];simp
 obtain⟨X,u⟩:∃X,X=a.alloc (.map #[] 0):=⟨_,rfl⟩;have ka:Kept [] w a:=by rw[z];exact(Kept.refl _ _).alloc _
 have kb:Kept [] a X:=by rw[u];exact(Kept.refl _ _).alloc _
 have hA:a.heap[w.heap.size]?=some (gL #[.map none,gh 0] 162):=by rw[z];exact fX w _
 have a6:Mp X a.heap.size [] #[] 0:=⟨by rw[u];exact fX a _,rfl,by simp,by simp⟩;have zb:X.heap.size=a.heap.size+1:=by rw[u];simp
 have⟨w1,w2,w3,w4,w5,w6,w7,w8,w9,w10,r1,r2,r3,r4,r5,r6,r7,r8,r9,r10,⟨es,ck,HM⟩,k10,z10⟩:=adE X a.heap.size a6;have a9:(Instr.makeMap 160 none).run prog a= .ok (.map (some a.heap.size)) X:=by rw[u];rfl
 have a5:=fV z.symm;have ae:=u.symm;have HK:=(show Kept [] w w10 from((ka.trans kb).next k10 (by grind)));have HA:=(show w10.heap[w.heap.size]?=_ from k10.at (kb.at hA (by simp)) (by grind));have Hz:=fV (show w10.heap.size=w.heap.size+2 by omega);have B:=fV za;clear z u ka kb hA a6 zb k10 za z10;go_enter func67,ntmps67
 go_wp21
 rw[a5.out,a9];clear a9 a5 ae;go_wp2_with fail;obtain⟨W,Z⟩:∃W,W=(w10.alloc (.cells #[.map (some a.heap.size),gh 0] 162)).alloc (.cells xq 208):=⟨_,rfl⟩;have kW:Kept [] w10 W:=by rw[Z];exact((Kept.refl _ _).alloc _).alloc _
 have l:W.heap[w10.heap.size]?=some (gL #[.map (some a.heap.size),gh 0] 162):=by
  rw[Z,Below.heap_alloc _ _ _ (by simp)];exact fX w10 _
 have x:W.heap[w10.heap.size+1]?=some (gL xq 208):=by
  have:=fX (w10.alloc (.cells #[.map (some a.heap.size),gh 0] 162)) (.cells xq 208);rw[Z];simpa using this
 have HS:Hid (aez w w10.heap.size a.heap.size 0 W):=⟨⟨es,ck,HM.kept kW (by simp)⟩,l,x,kW.at HA (by simp),HK.trans kW⟩;have ac:xq=#[gH ⟨#[65,77,80]⟩,gH uA,gH ⟨#[97,109,112]⟩,gH uA,gH ⟨#[108,116]⟩,gH qG,gH ⟨#[103,116]⟩,gH iW,gH ⟨#[113,117,111,116]⟩,gH pD,gH ⟨#[110,98,115,112]⟩,gH tm,gH ⟨#[99,111,112,121]⟩,gH ⟨#[194,169]⟩,gH ⟨#[110,111,116]⟩,gH ⟨#[194,172]⟩,gH ⟨#[112,97,114,97]⟩,gH ⟨#[194,182]⟩,gH p5,gH ⟨#[195,151]⟩]:=rfl;rw[ac]at Z;rw[<-Z];clear Z kW l x ac HM HK HA r1 r2 r3 r4 r5 r6 r7 r8 r9 r10
 go_loopw [30] (λv wr=>∃j:Nat,v=gh j/\j<=10/\aez w w10.heap.size a.heap.size j wr) (λv _=>10 - (intOf v).toNat)
 case atStart=>exact⟨0,rfl,by omega,HS.out⟩
 case round=>
  obtain⟨j,rfl,hj,h1⟩:=hrel
  by_cases U:j < 10
  .have⟨⟨es1,ck1,mp1⟩,l,x,hR,hk⟩:=h1;have rc:=XV U;have x0:wr.cell? ⟨w10.heap.size+1,j*2,none⟩=some (gH (AG j).1):=by rw[fW x];exact rc.1
   have x1:wr.cell? ⟨w10.heap.size+1,j*2+1,none⟩=some (gH (AG j).2):=by rw[fW x];exact rc.2
   have⟨n1,n2,n3⟩:=ac5 U;have A:=Z4 U;generalize hn:(AG j).1=nm at *;generalize ht:(AG j).2=tx at *;have aa:AG j=(nm,tx):=by rw[<-hn,<-ht]
   rw[aa]at n2 A;clear hn ht aa;obtain⟨W1,D⟩:∃W1,W1=wr.alloc (.cells #[gH nm,gH tx] 208):=⟨_,rfl⟩;have kk:Kept [] wr W1:=by rw[D];exact(Kept.refl _ _).alloc _
   have hX:W1.heap[wr.heap.size]?=some (gL #[gH nm,gH tx] 208):=by rw[D];exact fX wr _
   have⟨W2,es2,ck2,ru2,mp2,k2,s2⟩:=sS (mp1.kept kk (by simp)) nm tx n1;have⟨W3,es3,ck3,ru3,mp3,k3,s3⟩:=sS mp2 (nm++⟨#[59]⟩) tx n2;have ag:=iX mp1.at_;have an:=iX l;have bN:a.heap.size≠w10.heap.size:=λe=>by rw[<-e,mp1.at_]at l;simp at l
   have bG:a.heap.size≠w10.heap.size+1:=λe=>by rw[<-e,mp1.at_]at x;simp at x
   have H:a.heap.size≠w.heap.size:=λe=>by rw[<-e,mp1.at_]at hR;simp at hR
   have K:=kk.at l (by simp);have N:=k2.at K (by grind);have O:=k2.at hX (by simp;omega);have a0:=fW l 0;have a1:=fW K 0;have a2:=fW N 0;have y0:=fW hX 0;have y1:=fW hX 1;have z0:=fW O 0;have z1:=fW O 1;dsimp at a0 a1 a2 y0 y1 z0 z1;have HE:Hid (aez w w10.heap.size a.heap.size (j+1) W3):=by
    refine⟨⟨es3,ck3,by rw[A];exact mp3⟩,k3.at N (by grind),k3.at (k2.at (kk.at x (by simp)) (by grind)) (by grind),k3.at (k2.at (kk.at hR (by simp)) (by grind)) (by grind),?_⟩;have aq:=B.out;exact((hk.trans kk).next k2 (by simp;omega)).next k3 (by simp;omega)
   rw[D]at ru2;clear a1 y0 y1 mp1 l x hR hk rc n1 n2 A kk hX mp2 k2 s2 mp3 k3 s3 K N O bN bG H ag;clear D;go_wp2;go_roundw
   case rel=>exact⟨j+1,by go_num,by omega,HE.out⟩
   case measure=>simp[intOf];omega
  .have af:j=10:=by omega
   subst af;have⟨⟨es1,ck1,mp1⟩,l,x,hR,hk⟩:=h1;have a0:=fW l 0;dsimp at a0;have ai:=run_range_map (P:=prog) wr 160 9 207 a.heap.size es1 ck1 underlying160 mp1.at_;have ki:Kept [] wr (wr.alloc (.mapIter (some a.heap.size) ck1 #[] ck1)):=(Kept.refl _ _).alloc _;have a4:Hid (aeA w w10.heap.size a.heap.size wr.heap.size es1 ck1 (wr.alloc (.mapIter (some a.heap.size) ck1 #[] ck1)) #[] ck1 0):=
    ⟨fX wr _,gW _,mp1.kept ki (by simp),ki.at l (by simp),ki.at hR (by simp),by omega,by simp,hk.trans ki,by simp⟩
   have J:w10.heap.size≠wr.heap.size:=by have:=iX l;omega
   have H:w.heap.size≠wr.heap.size:=by have:=iX hR;omega
   have Y:a.heap.size≠wr.heap.size:=by have:=iX mp1.at_;omega
   have o:w.heap.size≠w10.heap.size:=by have:=Hz.out;omega
   have m:w10.heap.size≠a.heap.size:=by have:=Hz.out;have:=B.out;omega
   have a3:=(show w.heap.size<=wr.heap.size from hk.size);have Hb:=And.intro J (And.intro H (And.intro Y (And.intro o m)));clear mp1 l x hR hk ki J H Y o m
   go_wp21
   clear ai a0;obtain⟨it,a8⟩:∃it,it=wr.heap.size:=⟨_,rfl⟩;rw[<-a8]at a4 Hb a3|-;clear a8
   go_loopw [] (λwq=>∃d c0 M,aeA w w10.heap.size a.heap.size it es1 ck1 wq d c0 M) (λwq=>(leftOf es1 (wq.iterSeen it)).size)
   case atStart=>exact⟨_,_,_,a4.out⟩
   case round=>
    have⟨d,c0,M,h2⟩:=hrel;have⟨J,H,Y,o,m⟩:=Hb;have V:wr.iterSeen it=d:=by unfold World.iterSeen;rw[h2.iter]
    rcases run_next_at (P:=prog) wr 0 it a.heap.size ck1 c0 d es1 ck1 h2.iter h2.mp.at_ h2.mp.old h2.late with⟨h0,I⟩|⟨C,T,wv,aj,I⟩
    .have hM:M=8:=by
      have h8:=YA;rw[List.any_eq_true]at h8;have⟨p,hp,ab⟩:=h8;have⟨e,he,hk⟩:=Zx h2.mp.kvs hp;have h9:=h2.SS e he (all_seen es1 d h0 e he);rw[hk]at h9;have al:p.1.size=8:=by simpa using ab
      have am:p.1.size<=M:=h9;have:=h2.le;omega
     subst hM;have n0:=fW h2.nam 0;have n1:=fW h2.nam 1;have d0:=fW h2.res 0;have d1:=fW h2.res 1;have f0:=gu h2.res 0;have f1:=gu h2.res 1;dsimp at n0 n1 d0 d1;have HK:Kept [] w ((wr.setCell ⟨w.heap.size,0,none⟩ (.map (some a.heap.size))).setCell ⟨w.heap.size,1,none⟩ (gh 8)):=(h2.kept.setCell (.inr (gW _)) _).setCell (.inr (gW _)) _;have kr:Kept [w.heap.size] wr ((wr.setCell ⟨w.heap.size,0,none⟩ (.map (some a.heap.size))).setCell ⟨w.heap.size,1,none⟩ (gh 8)):=((Kept.refl _ _).setCell (.inl (by simp)) _).setCell (.inl (by simp)) _;have HL:=((h2.mp.kept kr (by simp;have:=B.out;omega)).lk PC);have ah:w.heap.size<=a.heap.size:=by have:=B.out;omega
     clear h2 V h0 kr J H Y o m;go_wp2;refine oR (v:= .agg #[.map (some a.heap.size),gh 8]) ?_ rfl ⟨_,rfl,ah,HL,HK⟩;simp[results,results67,asAddr,Result.andThen,go_sem,d0,d1]
    .have⟨he1,he2⟩:=mem_left T;have⟨p,hp,hkey⟩:=afh h2.mp.kvs he1;have ab:p.1.size<=8:=by
      have:=List.all_eq_true.1 abB p hp
      simpa using this
     have ak:=left_shrinks es1 d C T;obtain⟨G,F⟩:∃G,G=setBlock wv it (.mapIter (some a.heap.size) ck1 (d.push C.born) ck1):=⟨_,rfl⟩;rw[<-F,hkey]at I;have k:Kept [] wr wv:=by rcases aj with rfl|rfl;exact Kept.refl _ _;exact(Kept.refl _ _).drew
     have kz:Kept [it] wv G:=by rw[F];exact Cm (Kept.refl _ _) (.inl (by simp)) _
     have iz:G.heap[it]?=some (.mapIter (some a.heap.size) ck1 (d.push C.born) ck1):=by rw[F];exact G9 (mi h2.size k.size) _
     have mz:=(h2.mp.kept k (by simp)).kept kz (by simpa using Y);have nz:=kz.at (k.at h2.nam (by simp)) (by simpa using J);have rz:=kz.at (k.at h2.res (by simp)) (by simpa using H);have a7:=run_entry_at (P:=prog) G it a.heap.size ck1 d es1 ck1 C iz mz.at_ he1 mz.nod;rw[hkey]at a7;have n1:=fW nz 1;have f1:=gu nz 1;dsimp at n1;have ao:max (M:Int) (p.1.size:Int)=((max M p.1.size:Nat):Int):=by omega
     have A:Kept [w10.heap.size] G (G.setCell ⟨w10.heap.size,1,none⟩ (gh ((max M p.1.size:Nat)))):=(Kept.refl _ _).setCell (.inl (by simp)) _;have ad:=gm nz 1 (gh ((max M p.1.size:Nat)));have HE:Hid (aeA w w10.heap.size a.heap.size it es1 ck1 (G.setCell ⟨w10.heap.size,1,none⟩ (gh ((max M p.1.size:Nat)))) (d.push C.born) ck1 (max M p.1.size)):=by
      refine⟨A.at iz (by simpa using λe=>J e.symm),gW _,mz.kept A (by simpa using λe=>m e.symm),ad,A.at rz (by simpa using o),by have:=h2.le;omega,?_,?_,?_⟩
      .intro e he hc;rw[contains_push]at hc;rcases Bool.or_eq_true_iff.1 hc with h|h
       .have:=h2.SS e he h;omega
       .have e1:e.born=C.born:=by simpa using h
        have e2:e=C:=by
         have q1:=find_born e es1.toList h2.mp.nod he;have q2:=find_born C es1.toList h2.mp.nod he1;rw[e1,q2]at q1;exact(jy q1).symm
        rw[e2,hkey];show p.1.size<=_;omega
      .have ar:=Hz.out;have au:=iX h2.res;exact((h2.kept.trans k).next kz (by simp;exact a3)).next A (by simp;omega)
      .exact mi h2.size (j7 k.size (j7 kz.size A.size))
     have ap:(G.setCell ⟨w10.heap.size,1,none⟩ (gh ((max M p.1.size:Nat)))).iterSeen it=d.push C.born:=by unfold World.iterSeen;rw[HE.out.iter]
     clear h2 mz nz rz iz k kz A ad F he1 he2 T hp hkey J H Y o m;generalize p.1=av at *;go_wp2;go_roundw
     case rel=>exact⟨_,_,_,HE.out⟩
     simp_all
def qZ (s:gz) (i:Nat):Bool:=!(decide (bt s i=10)&&decide (0 < i)&&decide (bt s (i - 1)=13))
def gM (s:gz) (n:Nat):List Nat:=(List.range n).filter (qZ s)
def PY (s:gz) (k:Nat):Int:=if bt s k=13 then 10 else bt s k
def chB (s:gz) (k:Nat):UInt8:=(PY s k).toNat.toUInt8
def pd (s:gz):gz:=⟨((gM s s.size).map (chB s)).toArray⟩
def ww (h:qZ s n=true):gM s (n+1)=gM s n++[n]:=by unfold gM;rw[List.range_succ,List.filter_append];simp[h]
def IW (h:qZ s n=false):gM s (n+1)=gM s n:=by unfold gM;rw[List.range_succ,List.filter_append];simp[h]
theorem Im (s:gz) (n:Nat):(gM s n).length<=n:=by
 grind[gM]
def uF (s:gz):(pd s).size=(gM s s.size).length:=by show(((gM s s.size).map (chB s)).toArray).size=_;simp
theorem WK (s:gz) (k:Nat):0<=PY s k/\PY s k<=255:=by
 have a:=bt_nonneg s k;have d:=bt_le s k
 grind[PY]
def Ms (s:gz) (k:Nat):((chB s k).toNat:Int)=PY s k:=by
 have:=WK s k;unfold chB;simp;omega
def vP (s:gz) (n:Nat):List gQ:=(gM s n).map λk=> .int .u8 (PY s k)
def qK (s:gz) (n:Nat):List gQ:=(gM s n).map λk:Nat=> gh k
theorem nO {l m : Nat} {e1 e2 : TypeId} {C D : Nat} {v1 v2 : gQ} {A B : Nat} {F G : List gQ} (o:w.ownsRow l e1 C v1 A F) (u:w.ownsRow m e2 D v2 B G) (z:e1≠e2) (k:Nat) (d:v1.ownBlock=some k):v2.ownBlock≠some k:=by
 intro a;rcases o.2 with⟨h,_⟩|⟨J,H,N,h,_,v,_⟩
 .rw[h]at d;cases d
 rcases u.2 with⟨e,_⟩|⟨K,I,O,e,_,x,_⟩
 .rw[e]at a;cases a
 rw[h]at d;rw[e]at a;obtain rfl:=jy d;obtain rfl:=jy a
 grind
def ZU:(prog.info? 3).map (λi=>(i.zero,i.size,i.bytes))=some (some (gh 0),1,8):=by kernel_rfl
theorem Kn {v : gQ} {l:List UInt8} (e:w.ownsRow base 5 1 v n (l.map λb=> .int .u8 (b.toNat:Int))) (B:l.length=n) (o:∀k,v.ownBlock=some k->w'.heap[k]?=w.heap[k]?):
  (convert 55 9 v).run prog w'= .ok (gH ⟨l.toArray⟩) w':=by
 rcases e.2 with⟨rfl,u⟩|⟨g,d,m,rfl,x,z,C⟩
 .have:l=[]:=UM (by omega);subst this;have:=run_convert_bytes_nil (P:=prog) (w:=w') 55 5 underlying55 underlying5 0 0;exact this 9 underlying9
 .have h:=UK (P:=prog) w' 55 9 5 ⟨g,0,none⟩ d l underlying55 underlying5 underlying9 (λj A=>by
   rw[abk (w:=w) (a:=(⟨g,0,none⟩:Addr).add j) (by rw[jg];exact o g rfl)];exact e.cells (g:=g) rfl j _ (by grind))
  grind
structure SY (s:gz) (w:gx) (k:Nat) (vb va:gQ) (wr:gx):Prop where
 b:wr.ownsRow w.heap.size 5 1 vb (gM s k).length (vP s k)
 a:wr.ownsRow w.heap.size 3 1 va (gM s k).length (qK s k)
 kept:Kept [] w wr
theorem ZG (s:gz) (tv:gQ) (base:Nat) (w:gx) (ho:w.ownsRow base 5 1 tv s.size (kH s)) (hs:s.size<=1024):
  Calls prog 68 #[tv] w λe w'=>∃av,e=iw (.tuple #[gH (pd s),av])/\w'.ownsRow w.heap.size 3 1 av ((gM s s.size).length+1) (qK s s.size++[gh s.size])/\Kept [] w w':=by
 have⟨iu,hiu,hu0,hu1,hu2⟩:=ux On;obtain⟨ii,a3,a0,a1,a2⟩:=ux ZU;have⟨ao,cp,htv⟩:=gF ho;subst htv;have HC:∀(wr:gx),Kept [] w wr->∀j,j < s.size->∃g,ao=some ⟨g,0,none⟩/\wr.cell? ⟨g,j,none⟩=some (.int .u8 (bt s j)):=by
  intro wr hk j l;rcases ho.2 with⟨h,h0⟩|⟨g,am,aC,h,_,hc,_⟩
  .omega
  .have a6:ao=some ⟨g,0,none⟩:=by simpa using sn (λv=>match v with| .slice a _ _=>a|_=>none) h
   refine⟨g,a6,?_⟩;rw[hk.cell (p:=⟨g,j,none⟩) (iX hc) (by simp)];have h1:=ho.cells (g:=g) (by rw[h];rfl) j (.int .u8 (bt s j)) (by
    unfold kH;rw[List.getElem?_map,qB (by simp_all)];simp only[Option.map_some];rw[show((s.data.toList[j]'(by simp_all)).toNat:Int)=bt s j from by unfold bt;rw[xF l];rfl])
   rwa [jg]at h1
 have H0:Hid (SY s w 0 (jc) (jc) w):=⟨od _ _ _ _,od _ _ _ _,Kept.refl _ _⟩;clear ho;go_enter func68,ntmps68
 go_wp21
 go_loopw [4,5,10] (λvb va v wr=>∃k:Nat,v=gh k/\k<=s.size/\SY s w k vb va wr) (λ_ _ v _=>s.size - (intOf v).toNat)
 case atStart=>exact⟨0,rfl,iN _,H0⟩
 case round=>
  obtain⟨k,rfl,hk,hh⟩:=hrel
  by_cases az:k < s.size
  .have⟨g,a6,c1⟩:=HC wr hh.kept k az;subst a6;have z:=hh;have⟨bo,bc,hvb⟩:=gF hh.b;have⟨ax,ac,hva⟩:=gF hh.a;subst hvb hva;have h0:=bt_nonneg s k;have h1:=bt_le s k;have ap:=Im s k
   by_cases T:bt s k=10
   .by_cases aw:k=0
    .subst aw;have K:qZ s 0=true:=by unfold qZ;simp
     have F:PY s 0=10:=by unfold PY;rw[T];rfl
     rw[T]at c1;have hy:=ww K;have HY:=fV hy;have V:=fV F;clear hy F;go_wp2_with (at_builtin;refine iA _ rfl _ _ 55 rfl w.heap.size 5 iu (.int .u8 0) 1 1 underlying55 hiu hu0 hu1 hu2 rfl (by decide) _ _ _ rfl (z.b.alloc _) ⟨wr.heap.size,0,none⟩ 1 1 [.int .u8 10] rfl ?c1 ?N ?c3 ?c4 ?c5 ?c6 ?_)
     case c1=>rfl
     case N=>
      intro j u l
      match j,l with
      |0,l=>simp at l;subst l;simp[Addr.add]
     case c3=>intro u B;simp at B;subst B;rfl
     case c4=>unfold maxLen;omega
     case c5=>omega
     case c6=>have:=z.kept.size;simp;omega
     intro aa J A G a7;have⟨bo',bc',hvb⟩:=gF A;subst hvb;have C:Kept [] w J:=(z.kept.alloc _).grown G (λx d=> .inr (z.b.lt x d).1);have o:J.ownsRow w.heap.size 3 1 (.slice ax (gM s 0).length ac) (gM s 0).length (qK s 0):=by
      have X:Kept (Value.slice bo (gM s 0).length bc).ownBlock.toList (wr.alloc (.cells #[.int .u8 10] 5)) J:=(Kept.refl _ _).grown G (λx d=> .inl (by simp[d]));exact X.ownsRow (z.a.alloc _) (λx d=>by simp;exact λY=>nO z.b z.a (by decide) x Y d)
     have D:=fV A;clear A;go_wp2_with (at_builtin;refine iA _ rfl _ _ 23 rfl w.heap.size 3 ii (gh 0) 1 8 underlying23 a3 a0 a1 a2 rfl (by decide) _ _ _ rfl (o.alloc _) ⟨J.heap.size,0,none⟩ 1 1 [gh ((0:Nat))] rfl ?c1 ?N ?c3 ?c4 ?c5 ?c6 ?_)
     case c1=>rfl
     case N=>
      intro j u l
      match j,l with
      |0,l=>simp at l;subst l;simp[Addr.add]
     case c3=>intro u B;simp at B;subst B;rfl
     case c4=>unfold maxLen;omega
     case c5=>omega
     case c6=>have:=C.size;simp;omega
     intro a9 w3 I H a8;have⟨ao',ac',hva⟩:=gF I;subst hva;have HE:Hid (SY s w (0+1) (.slice bo' ((gM s 0).length+1) bc') (.slice ao' ((gM s 0).length+1) ac') w3):=by
      have X:Kept (Value.slice ax (gM s 0).length ac).ownBlock.toList (J.alloc (.cells #[gh ((0:Nat))] 3)) w3:=(Kept.refl _ _).grown H (λx d=> .inl (by simp[d]));refine⟨?_,?_,(C.alloc _).grown H (λx d=> .inr (o.lt x d).1)⟩
      .unfold vP;rw[HY.out,sj,mJ];have:=X.ownsRow (D.alloc _) (λx d=>by simp;exact λY=>nO o D (by decide) x Y d)
       simpa [vP,V.out]using this
      .unfold qK;rw[HY.out,sj,mJ]
       simpa [qK]using I
     generalize (gM s 0).length=a5 at *;go_wp2;go_roundw
     case rel=>exact⟨0+1,by go_num,by omega,HE⟩
     case measure=>simp[intOf];omega
    .have N:wr.cell? ⟨g,k - 1,none⟩=some (.int .u8 (bt s (k - 1))):=by
      have⟨g',O,N⟩:=HC wr z.kept (k - 1) (by omega);obtain rfl:g=g':=by simpa using O
      exact N
     obtain⟨m,rfl⟩:∃m,k=m+1:=⟨k - 1,by omega⟩;simp only[SQ]at N
     by_cases U:bt s m=13
     .have K:qZ s (m+1)=false:=by unfold qZ;simp[T,U]
      have HE:Hid (SY s w (m+1+1) (.slice bo (gM s (m+1)).length bc) (.slice ax (gM s (m+1)).length ac) wr):=by
       have:=z;refine⟨?_,?_,this.kept⟩
       .have h:=this.b;unfold vP at h|-;rw[IW K];exact h
       .have h:=this.a;unfold qK at h|-;rw[IW K];exact h
      rw[T]at c1;rw[U]at N;generalize (gM s (m+1)).length=a5 at *;go_wp2;go_roundw
      case rel=>exact⟨m+1+1,by go_num,by omega,HE⟩
      case measure=>simp[intOf];omega
     .have K:qZ s (m+1)=true:=by unfold qZ;simp[U]
      have F:PY s (m+1)=10:=by unfold PY;rw[T];rfl
      have aB:¬bt s m=13:=U;rw[T]at c1;have m0:=bt_nonneg s m;have m1:=bt_le s m;have hy:=ww K;have HY:=fV hy;have V:=fV F;clear hy F;go_wp2_with (at_builtin;refine iA _ rfl _ _ 55 rfl w.heap.size 5 iu (.int .u8 0) 1 1 underlying55 hiu hu0 hu1 hu2 rfl (by decide) _ _ _ rfl (z.b.alloc _) ⟨wr.heap.size,0,none⟩ 1 1 [.int .u8 10] rfl ?c1 ?N ?c3 ?c4 ?c5 ?c6 ?_)
      case c1=>rfl
      case N=>
       intro j u l
       match j,l with
       |0,l=>simp at l;subst l;simp[Addr.add]
      case c3=>intro u B;simp at B;subst B;rfl
      case c4=>unfold maxLen;omega
      case c5=>omega
      case c6=>have:=z.kept.size;simp;omega
      intro aa J A G a7;have⟨bo',bc',hvb⟩:=gF A;subst hvb;have C:Kept [] w J:=(z.kept.alloc _).grown G (λx d=> .inr (z.b.lt x d).1);have o:J.ownsRow w.heap.size 3 1 (.slice ax (gM s (m+1)).length ac) (gM s (m+1)).length (qK s (m+1)):=by
       have X:Kept (Value.slice bo (gM s (m+1)).length bc).ownBlock.toList (wr.alloc (.cells #[.int .u8 10] 5)) J:=(Kept.refl _ _).grown G (λx d=> .inl (by simp[d]));exact X.ownsRow (z.a.alloc _) (λx d=>by simp;exact λY=>nO z.b z.a (by decide) x Y d)
      have D:=fV A;clear A;go_wp2_with (at_builtin;refine iA _ rfl _ _ 23 rfl w.heap.size 3 ii (gh 0) 1 8 underlying23 a3 a0 a1 a2 rfl (by decide) _ _ _ rfl (o.alloc _) ⟨J.heap.size,0,none⟩ 1 1 [gh (((m+1):Nat):Int)] rfl ?c1 ?N ?c3 ?c4 ?c5 ?c6 ?_)
      case c1=>rfl
      case N=>
       intro j u l
       match j,l with
       |0,l=>simp at l;subst l;simp[Addr.add]
      case c3=>intro u B;simp at B;subst B;rfl
      case c4=>unfold maxLen;omega
      case c5=>omega
      case c6=>have:=C.size;simp;omega
      intro a9 w3 I H a8;have⟨ao',ac',hva⟩:=gF I;subst hva;have HE:Hid (SY s w ((m+1)+1) (.slice bo' ((gM s (m+1)).length+1) bc') (.slice ao' ((gM s (m+1)).length+1) ac') w3):=by
       have X:Kept (Value.slice ax (gM s (m+1)).length ac).ownBlock.toList (J.alloc (.cells #[gh (((m+1):Nat):Int)] 3)) w3:=(Kept.refl _ _).grown H (λx d=> .inl (by simp[d]));refine⟨?_,?_,(C.alloc _).grown H (λx d=> .inr (o.lt x d).1)⟩
       .unfold vP;rw[HY.out,sj,mJ];have:=X.ownsRow (D.alloc _) (λx d=>by simp;exact λY=>nO o D (by decide) x Y d)
        simpa [vP,V.out]using this
       .unfold qK;rw[HY.out,sj,mJ]
        simpa [qK]using I
      generalize (gM s (m+1)).length=a5 at *;go_wp2;go_roundw
      case rel=>exact⟨(m+1)+1,by go_num,by omega,HE⟩
      case measure=>simp[intOf];omega
   .by_cases U:bt s k=13
    .have K:qZ s k=true:=by unfold qZ;simp[T]
     have F:PY s k=10:=by unfold PY;rw[U];rfl
     rw[U]at c1;have hy:=ww K;have HY:=fV hy;have V:=fV F;clear hy F;go_wp2_with (at_builtin;refine iA _ rfl _ _ 55 rfl w.heap.size 5 iu (.int .u8 0) 1 1 underlying55 hiu hu0 hu1 hu2 rfl (by decide) _ _ _ rfl (z.b.alloc _) ⟨wr.heap.size,0,none⟩ 1 1 [.int .u8 10] rfl ?c1 ?N ?c3 ?c4 ?c5 ?c6 ?_)
     case c1=>rfl
     case N=>
      intro j u l
      match j,l with
      |0,l=>simp at l;subst l;simp[Addr.add]
     case c3=>intro u B;simp at B;subst B;rfl
     case c4=>unfold maxLen;omega
     case c5=>omega
     case c6=>have:=z.kept.size;simp;omega
     intro aa J A G a7;have⟨bo',bc',hvb⟩:=gF A;subst hvb;have C:Kept [] w J:=(z.kept.alloc _).grown G (λx d=> .inr (z.b.lt x d).1);have o:J.ownsRow w.heap.size 3 1 (.slice ax (gM s k).length ac) (gM s k).length (qK s k):=by
      have X:Kept (Value.slice bo (gM s k).length bc).ownBlock.toList (wr.alloc (.cells #[.int .u8 10] 5)) J:=(Kept.refl _ _).grown G (λx d=> .inl (by simp[d]));exact X.ownsRow (z.a.alloc _) (λx d=>by simp;exact λY=>nO z.b z.a (by decide) x Y d)
     have D:=fV A;clear A;go_wp2_with (at_builtin;refine iA _ rfl _ _ 23 rfl w.heap.size 3 ii (gh 0) 1 8 underlying23 a3 a0 a1 a2 rfl (by decide) _ _ _ rfl (o.alloc _) ⟨J.heap.size,0,none⟩ 1 1 [gh ((k:Nat))] rfl ?c1 ?N ?c3 ?c4 ?c5 ?c6 ?_)
     case c1=>rfl
     case N=>
      intro j u l
      match j,l with
      |0,l=>simp at l;subst l;simp[Addr.add]
     case c3=>intro u B;simp at B;subst B;rfl
     case c4=>unfold maxLen;omega
     case c5=>omega
     case c6=>have:=C.size;simp;omega
     intro a9 w3 I H a8;have⟨ao',ac',hva⟩:=gF I;subst hva;have HE:Hid (SY s w (k+1) (.slice bo' ((gM s k).length+1) bc') (.slice ao' ((gM s k).length+1) ac') w3):=by
      have X:Kept (Value.slice ax (gM s k).length ac).ownBlock.toList (J.alloc (.cells #[gh ((k:Nat))] 3)) w3:=(Kept.refl _ _).grown H (λx d=> .inl (by simp[d]));refine⟨?_,?_,(C.alloc _).grown H (λx d=> .inr (o.lt x d).1)⟩
      .unfold vP;rw[HY.out,sj,mJ];have:=X.ownsRow (D.alloc _) (λx d=>by simp;exact λY=>nO o D (by decide) x Y d)
       simpa [vP,V.out]using this
      .unfold qK;rw[HY.out,sj,mJ]
       simpa [qK]using I
     generalize (gM s k).length=a5 at *;go_wp2;go_roundw
     case rel=>exact⟨k+1,by go_num,by omega,HE⟩
     case measure=>simp[intOf];omega
    .have K:qZ s k=true:=by unfold qZ;simp[T]
     have F:PY s k=bt s k:=by unfold PY;rw[gV U]
     have hy:=ww K;have HY:=fV hy;have V:=fV F;clear hy F;go_wp2_with (at_builtin;refine iA _ rfl _ _ 55 rfl w.heap.size 5 iu (.int .u8 0) 1 1 underlying55 hiu hu0 hu1 hu2 rfl (by decide) _ _ _ rfl (z.b.alloc _) ⟨wr.heap.size,0,none⟩ 1 1 [.int .u8 (bt s k)] rfl ?c1 ?N ?c3 ?c4 ?c5 ?c6 ?_)
     case c1=>rfl
     case N=>
      intro j u l
      match j,l with
      |0,l=>simp at l;subst l;simp[Addr.add]
     case c3=>intro u B;simp at B;subst B;rfl
     case c4=>unfold maxLen;omega
     case c5=>omega
     case c6=>have:=z.kept.size;simp;omega
     intro aa J A G a7;have⟨bo',bc',hvb⟩:=gF A;subst hvb;have C:Kept [] w J:=(z.kept.alloc _).grown G (λx d=> .inr (z.b.lt x d).1);have o:J.ownsRow w.heap.size 3 1 (.slice ax (gM s k).length ac) (gM s k).length (qK s k):=by
      have X:Kept (Value.slice bo (gM s k).length bc).ownBlock.toList (wr.alloc (.cells #[.int .u8 (bt s k)] 5)) J:=(Kept.refl _ _).grown G (λx d=> .inl (by simp[d]));exact X.ownsRow (z.a.alloc _) (λx d=>by simp;exact λY=>nO z.b z.a (by decide) x Y d)
     have D:=fV A;clear A;go_wp2_with (at_builtin;refine iA _ rfl _ _ 23 rfl w.heap.size 3 ii (gh 0) 1 8 underlying23 a3 a0 a1 a2 rfl (by decide) _ _ _ rfl (o.alloc _) ⟨J.heap.size,0,none⟩ 1 1 [gh ((k:Nat))] rfl ?c1 ?N ?c3 ?c4 ?c5 ?c6 ?_)
     case c1=>rfl
     case N=>
      intro j u l
      match j,l with
      |0,l=>simp at l;subst l;simp[Addr.add]
     case c3=>intro u B;simp at B;subst B;rfl
     case c4=>unfold maxLen;omega
     case c5=>omega
     case c6=>have:=C.size;simp;omega
     intro a9 w3 I H a8;have⟨ao',ac',hva⟩:=gF I;subst hva;have HE:Hid (SY s w (k+1) (.slice bo' ((gM s k).length+1) bc') (.slice ao' ((gM s k).length+1) ac') w3):=by
      have X:Kept (Value.slice ax (gM s k).length ac).ownBlock.toList (J.alloc (.cells #[gh ((k:Nat))] 3)) w3:=(Kept.refl _ _).grown H (λx d=> .inl (by simp[d]));refine⟨?_,?_,(C.alloc _).grown H (λx d=> .inr (o.lt x d).1)⟩
      .unfold vP;rw[HY.out,sj,mJ];have:=X.ownsRow (D.alloc _) (λx d=>by simp;exact λY=>nO o D (by decide) x Y d)
       simpa [vP,V.out]using this
      .unfold qK;rw[HY.out,sj,mJ]
       simpa [qK]using I
     generalize (gM s k).length=a5 at *;go_wp2;go_roundw
     case rel=>exact⟨k+1,by go_num,by omega,HE⟩
     case measure=>simp[intOf];omega
  .have ay:k=s.size:=by omega
   subst ay;have z:=hh;have⟨bo,bc,hvb⟩:=gF hh.b;have⟨ax,ac,hva⟩:=gF hh.a;subst hvb hva;have ap:=Im s s.size;have ar:vP s s.size=((gM s s.size).map (chB s)).map λb=> .int .u8 (b.toNat:Int):=by
    unfold vP;rw[SP];refine Wg λk _=>?_;simp only[Function.comp];rw[Ms]
   have Z:=hh.b;rw[ar]at Z;obtain⟨wa,a4⟩:∃wa,wa=(wr.alloc (.cells #[gh s.size] 3)).drew:=⟨_,rfl⟩;have ka:Kept [] wr wa:=by rw[a4];exact((Kept.refl [] wr).alloc _).drew
   have ag:=ka.ownsRow hh.a (λ_ _=>by simp);have za:wa.heap.size=wr.heap.size+1:=by rw[a4];simp
   have aE:=hh.kept.size;have af:Hid (∀(j:Nat) (u:gQ),[Value.int .i64 (s.size:Int)][j]?=some u->wa.cell? ((⟨wr.heap.size,0,none⟩:Addr).add j)=some u):=by
    intro j u l
    match j,l with
    |0,l=>
     simp at l;subst l;have:=fX wr (.cells #[gh s.size] 3);rw[jg,a4];simp
   have aA:∀k,(Value.slice bo (gM s s.size).length bc).ownBlock=some k->some k≠(Value.slice ax (gM s s.size).length ac).ownBlock:=λk hk h=>nO hh.b hh.a (by decide) k hk h.symm;have an:=Kn (w':=wr.drew) Z (by simp) (λ_ _=>rfl);have ah:=Kn (w':=wa) Z (by simp) (λk hk=>ka.block k (Z.lt k hk).2 (by simp));have ad:Hid (∀wz:gx,wa.grownBy wz (Value.slice ax (gM s s.size).length ac).ownBlock->(convert 55 9 (.slice bo (gM s s.size).length bc)).run prog wz= .ok (gH (pd s)) wz):=λwz O=>
    Kn (w':=wz) Z (by simp) (λk hk=>(O.block k (by have:=(Z.lt k hk).2;omega) (aA k hk)).trans (ka.block k (Z.lt k hk).2 (by simp)))
   have ae:Hid (∀wz:gx,wa.grownBy wz (Value.slice ax (gM s s.size).length ac).ownBlock->Kept [] w wz):=λwz O=>(hh.kept.trans ka).grown O (λx d=> .inr (hh.a.lt x d).1);have ab:=(show w.heap.size<=wa.heap.size by omega);rw[a4]at ah ad ae ag af ab;have au:(⟨((gM s s.size).map (chB s)).toArray⟩:gz)=pd s:=rfl;rw[au]at an ah
   go_wp21
   go_region_law (refine step_append_lies _ rfl (.tmp 42) (.tmp 45) 23 rfl w.heap.size 3 ii (gh 0) 1 8 underlying23 a3 a0 a1 a2 rfl (by decide) _ _ _ (by rfl) ag ⟨wr.heap.size,0,none⟩ 1 1 [gh s.size] (by rfl) rfl af (by intro u B;simp at B;subst B;rfl) (by decide) (by unfold maxLen;omega) (by omega) ab (wr.heap.size+1) (by simp) ?_;intro g am wz aj O aq ai;have aD:=ad wz O;have ak:=fV (ae wz O);have al:=fV aj;clear aj O aq ai)
   all_goals (try go_wp2)
   all_goals (try go_ret2)
   all_goals exact⟨_,rfl,al,ak⟩
def jq (s:gz) (i:Nat):Nat:=(gM s s.size++[s.size]).getD i 0
theorem Wo (s:gz) (i:Nat) (h:i<=(pd s).size):(qK s s.size++[gh s.size])[i]?=some (gh (jq s i)):=by
 rw[uF]at h
 grind[qK,jq]
def sG (s:gz) (vM:Int) (av:gQ) (b:Nat):RC:={cs:=pd s,av:=av,at_:=vM,mv:= .map (some b),lg:=8}
def LP (s:gz) (T:gQ) (base:Nat) (vM:Int) (w:gx) (I:w.ownsRow base 5 1 T s.size (kH s)) (hs:s.size<=1024):
  Calls prog 53 #[T,gh vM] w λe w'=>∃r b x g a,e=iw (gN r)/\w.heap.size<=r/\w.heap.size<=b/\w.heap.size<=g/\Rd w' r (sG s vM x b) 0 0/\Mi w' r (sG s vM x b) g a (jq s)/\Lk w' b (qg KV)/\b≠r/\(∃A,w'.heap[g]?=some (gL A 3))/\Kept [] w w':=by
 have⟨ao,cp,htv⟩:=gF I;subst htv;have X:=fV I;clear I;go_enter func53,ntmps53
 go_wp21
 refine(RP w).mono ?_;rintro e k ⟨b,rfl,Z,N,o⟩;have O:Kept [] k (k.alloc (.cells #[gH jz,jc,gh 0,gh 0,gh vM,.map (some b),gh 8,gH jz,.bool false] 165)):=(Kept.refl _ _).alloc _;have Y:=fX k (.cells #[gH jz,jc,gh 0,gh 0,gh vM,.map (some b),gh 8,gH jz,.bool false] 165);have V:=ZG s (.slice ao s.size cp) base _ ((o.trans O).ownsRow X (λ_ _=>by simp)) hs;have C:=o.trans O;have z:=o.size
 go_wp21
 refine V.mono ?_;rintro e U ⟨x,rfl,m,u⟩;have l:=u.at Y (by simp);have c0:=fW l 0;have c1:=fW l 1;have f0:=gu l 0;have f1:=gu l 1;dsimp at c0 c1;have⟨ax,ac,hv⟩:=gF m;subst hv;obtain⟨d,v⟩:∃d,d=(U.setCell ⟨k.heap.size,0,none⟩ (gH (pd s))).setCell ⟨k.heap.size,1,none⟩ (.slice ax ((gM s s.size).length+1) ac):=⟨_,rfl⟩;have B:Kept [k.heap.size] U d:=by rw[v];exact((Kept.refl _ _).setCell (.inl (by simp)) _).setCell (.inl (by simp)) _
 have rz:Rd d k.heap.size (sG s vM (.slice ax ((gM s s.size).length+1) ac) b) 0 0:=by
  rw[v];exact gm (gm l 0 _) 1 _
 have a1:b < k.heap.size:=N.lt;have F:Lk d b (qg KV):=((N.kept ((Kept.refl [] k).alloc _) (by simp)).kept u (by simp)).kept B (by simp;omega);have D:∃g a,(w.heap.size<=g/\∃A,d.heap[g]?=some (gL A 3))/\Mi d k.heap.size (sG s vM (.slice ax ((gM s s.size).length+1) ac) b) g a (jq s):=by
  rcases m.2 with⟨_,h0⟩|⟨g,a,a0,h,G,H,_⟩
  .omega
  .have a2:k.heap.size < g:=by simp at G;omega
   refine⟨g,a,⟨by omega,⟨_,B.at H (by simp;omega)⟩⟩,?_,by omega,mi (iX H) B.size,λi hi=>?_⟩
   .show Value.slice ax _ ac=_;rw[h];show Value.slice _ _ _=Value.slice _ ((pd s).size+1) _;rw[uF]
   .rw[B.cell (p:=⟨g,i,none⟩) (iX H) (by simp;omega)];have:=m.cells (g:=g) (by rw[h];rfl) i _ (Wo s i hi);rw[jg]at this;omega
 have⟨g,a,⟨hgl,hgt⟩,hA⟩:=D;have J:Kept [] w d:=(C.trans u).next B (by simp;exact z)
 have K:Hid (∃r b x g a,iw (gN k.heap.size)=iw (gN r)/\w.heap.size<=r/\w.heap.size<=b/\w.heap.size<=g/\Rd d r (sG s vM x b) 0 0/\Mi d r (sG s vM x b) g a (jq s)/\Lk d b (qg KV)/\b≠r/\(∃A,d.heap[g]?=some (gL A 3))/\Kept [] w d):=by
  exact⟨_,b,_,g,a,rfl,z,Z,hgl,rz,hA,F,by omega,hgt,J⟩
 rw[v]at K;go_wp2;go_ret;exact K
structure Sp where
 k:Int
 a:Int
 b:Int
structure ND (w:gx) (g off n:Nat) (A:Nat->Sp):Prop where
 c0:∀i,i < n->w.cell? ⟨g,off+i*3,none⟩=some (gh (A i).k)
 c1:∀i,i < n->w.cell? ⟨g,off+i*3+1,none⟩=some (gh (A i).a)
 c2:∀i,i < n->w.cell? ⟨g,off+i*3+2,none⟩=some (gh (A i).b)
def sT (w:gx) (q:Nat) (a:Addr):(w.drewN q).cell? a=w.cell? a:=rfl
def Kq (h o U l u V n:Nat) (A B:Nat->Sp) (w:gx) (I:ND w h o n A) (J:ND w l u n B) (Y:n<=140737488351232) (m:∀i,i < n->A i=B i):
  Calls prog 22 #[.slice (some ⟨h,o,none⟩) n U,.slice (some ⟨l,u,none⟩) n V] w λe w'=>e=iw (.bool true)/\∃q,w'=w.drewN q:=by
 have v:=fV I;have D:=fV J;have C:=fV m;clear I J m;go_enter func22,ntmps22;go_wp2
 go_loopw [5] (λi wr=>∃k:Nat,k<=n/\i=gh k/\∃q,wr=w.drewN q) (λi _=>n - (intOf i).toNat)
 case atStart=>exact⟨0,iN _,rfl,0,rfl⟩
 case round=>
  obtain⟨k,X,rfl,K⟩:=hrel;have d:=fV K;clear K
  by_cases a:k < n
  .have N:wr.cell? ⟨h,o+k*3,none⟩=some (gh (A k).k):=by obtain⟨q,rfl⟩:=d.out;rw[sT];exact v.out.c0 k a
   have O:wr.cell? ⟨h,o+k*3+1,none⟩=some (gh (A k).a):=by obtain⟨q,rfl⟩:=d.out;rw[sT];exact v.out.c1 k a
   have T:wr.cell? ⟨h,o+k*3+2,none⟩=some (gh (A k).b):=by obtain⟨q,rfl⟩:=d.out;rw[sT];exact v.out.c2 k a
   have F:wr.cell? ⟨l,u+k*3,none⟩=some (gh (B k).k):=by obtain⟨q,rfl⟩:=d.out;rw[sT];exact D.out.c0 k a
   have G:wr.cell? ⟨l,u+k*3+1,none⟩=some (gh (B k).a):=by obtain⟨q,rfl⟩:=d.out;rw[sT];exact D.out.c1 k a
   have H:wr.cell? ⟨l,u+k*3+2,none⟩=some (gh (B k).b):=by obtain⟨q,rfl⟩:=d.out;rw[sT];exact D.out.c2 k a
   rw[<-C.out k a]at F G H;generalize (A k).k=x at N F;generalize (A k).a=y at O G;generalize (A k).b=z at T H;go_wp2_with fail
   go_quiet (fail)
   go_wp2;go_roundw
   case rel=>exact⟨k+1,by omega,by go_num,by obtain⟨q,rfl⟩:=d.out;exact⟨_,World.drewN_drewN _ _ _⟩⟩
   case measure=>simp[intOf];omega
  .go_wp2;go_ret;exact⟨rfl,d.out⟩
end
end Go.Proofs.YtlhhgenpcjjajaaGreatDoor
