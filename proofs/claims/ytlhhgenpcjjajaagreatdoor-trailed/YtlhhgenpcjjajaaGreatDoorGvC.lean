import Derived.Test.YtlhhgenpcjjajaaGreatDoorAtB
import Derived.Ground.NamesProg
import Derived.Shelf.Lay
import Derived.Shelf.Strings.SlTrimAscii
import Derived.RegionDies
set_option linter.unusedSimpArgs false
set_option linter.unusedVariables false
set_option linter.defProp false
set_option maxHeartbeats 0
set_option maxRecDepth 100000
namespace Go.Proofs.YtlhhgenpcjjajaaGreatDoor
open Go.RowKit Go.PlainAid Tryz
def kI:=@ByteArray.ext
def AL:=@eq_of_beq
def zk:=@Array.length_toList
def xV:=@Array.eq_empty_of_size_eq_zero
def MN:=@Lib.run_neq_ptr_same
section
variable {R : RC} {T : TypeId} {W w w' wr : fO} {a b bg f g i k lg n ps r sz : Nat} {fX : kZ} {c : jB} {inV : Bool} {look : fN->Option fN} {s : fN} {v v' : gh}
attribute [local go_sem] Oper.semAt_some
def Ys:(prog.info? 299).map (λi=>(i.zero,i.size,i.bytes))=some (some (.agg #[fR js,fR js]),2,32):=by kernel_rfl
def Im (i:Nat) (a:fN×fN) (r:kZ) (σ:Ab):qe i (a::r) σ=(match σ.gF i with
  |none=> .stuck
  |some e=>if zC e.gy a.1 then qe i r σ else if σ.oY<=e.gy.length then .stop 7 σ.gp else qe i r (σ.gE i {e with gy:=e.gy++[a]})):=rfl
def aaM (E:Env) (t:fZ) (o:iL E t) {f : Nat->Nat} {σ : Ab} (h:RF E f σ w):∃x y nm d j,yK E t=#[.int .i64 x,.int .i64 y,.string nm,.slice d t.ja.length j]/\t.ja.length<=4096/\∀f σ w,RF E f σ w->zD w (.slice d t.ja.length j) t.ja:=by
 have⟨L,e,hr⟩:=h;have⟨d,j,htv⟩:=fS hr.tok;have l:=hr.Av;have⟨a,b,k,fX⟩:=t;cases k with
 |start n=>
  have e:fX=E.ta:=o rfl;subst e;exact⟨a,b,n,d,j,by simp only[yK,fZ.ja];rw[htv],l,λf σ w ⟨L,_,h⟩=>by show zD w (.slice d E.ta.length j) E.ta;rw[<-htv];exact h.tok⟩
 |stop n=>
  have e:fX=E.ta:=o rfl;subst e;exact⟨a,b,n,d,j,by simp only[yK,fZ.ja];rw[htv],l,λf σ w ⟨L,_,h⟩=>by show zD w (.slice d E.ta.length j) E.ta;rw[<-htv];exact h.tok⟩
 |jq s=>exact⟨0,0,_,none,0,rfl,im _,λ_ _ _ _=>oD _ _ _ _⟩
 |gm s=>exact⟨0,0,_,none,0,rfl,im _,λ_ _ _ _=>oD _ _ _ _⟩
 |gP n q=>exact⟨0,0,_,none,0,rfl,im _,λ_ _ _ _=>oD _ _ _ _⟩
 |lost=>exact⟨0,0,_,none,0,rfl,im _,λ_ _ _ _=>oD _ _ _ _⟩
 |il=>exact⟨0,0,_,none,0,rfl,im _,λ_ _ _ _=>oD _ _ _ _⟩
def WC {o:Oper} {ys : Nat->Option Bool} {a : Act} {K' : Act->fO->Prop} {Q:Exit->Act->fO->Prop} {d : Prop} (s x:Operand) (t:TypeId) (j:o.op= .call {callee:= .builtin .append,args:=#[s,x],argTypes:=#[t,t]}) (q:o.guard=none) (v u:gh) (p:a.eval s=v) (y:a.eval x=u) (l:(Builtin.append_ #[t,t] o.type #[v,u]).run prog w= .ok v' w') (h:K' (a.put o.dst v') w'):if Region.wanted o ys=true then Oper.wp prog o a w K' Q else d:=by
 have e:Region.wanted o ys=true:=by unfold Region.wanted;rw[q]
 rw[fU e];unfold Oper.wp execOp;simp only[j,resolve,invoke,builtin,QX,Sem.run_pure,Result.andThen_ok,List.map_toArray,zF,List.map_nil,p,y,l];exact h
def dZ (a b:fN) (v:gh) (W:fO):Prop:=∃k,v=mW k 1 1/\W.heap[k]?=some (fV #[fR a,fR b] 299)
structure Js (w:fO) (v:gh) (n:Nat) (fX:kZ) (v':gh) (W:fO):Prop where
 dK:afH w v fX v' W
 shape:∃ao cp,v'= .slice ao (n+1) cp
def Js.dT (h:Js w v n fX v' W) (d:k < w.heap.size):k < W.heap.size:=lz d h.dK.kp.size
theorem Js.at (h:Js w v n fX v' W) (d:w.heap[k]?=some (fV c T)) (e:v.ownBlock≠some k):W.heap[k]?=some (fV c T):=h.dK.kp.at d (by grind)
def Js.cell (h:Js w v n fX v' W) {j l o : gh} (e:w.heap[k]?=some (fV #[j,v,l,o] T)) (d:v.ownBlock≠some k):W.cell? ⟨k,1,none⟩=some v:=by rw[fw (h.at e d)];rfl
def Js.free (h:Js w v n fX v' W) (e:w.heap[k]?=some (fV c T)) (d:v.ownBlock≠some k):W.frozen? ⟨k,1,none⟩=false:=fA (h.at e d) 1
theorem Ry {d : Option Addr} {h : Nat} (w W:fO) (l:Kept [] w W) (A:zD w (.slice d fX.length h) fX) (k:Nat) (a b:fN) (z:W.heap[k]?=some (fV #[fR a,fR b] 299)) (D:fX.length<=4096):
  ∃v' w',(Builtin.append_ #[137,137] 137 #[.slice d fX.length h,mW k 1 1]).run prog W= .ok v' w'/\Js w (.slice d fX.length h) fX.length (fX++[(a,b)]) v' w':=by
 obtain⟨B,hi,q,x,y⟩:=tL Ys;have C:=l.ownsRow A (λ_ _=>by simp);have⟨v',w',h1,h2,h3,h4⟩:=zX (P:=prog) W 0 137 137 299 B (.agg #[fR js,fR js]) 2 32 underlying137 hi q x y rfl (by decide) (.slice d fX.length h) fX.length (flat fX) C ⟨k,0,none⟩ 1 1 [fR a,fR b] rfl (λj u o=>by
  rw[iT,fw z,<-o];simp) (λu o=>by simp at o;rcases o with rfl|rfl<;>rfl) (by unfold maxLen;omega) (by omega) (im _)
 refine⟨v',w',h1,⟨?_,?_,?_⟩,?_⟩
 .show w'.ownsRow 0 _ 2 v' (fX++[(a,b)]).length (flat (fX++[(a,b)]))
  grind[flat]
 .exact(l.mono (by simp)).grown h3 (λk l=> .inl (by grind))
 .rcases h4 with e|e
  .grind
  .exact .inr λk p=>jC l.size (e k p)
 .have⟨ao',cp',e⟩:=fS h2
  grind
structure eu (E:Env) (f:Nat->Nat) (i:Nat) (a b:fN) (ao2:Option Addr) (n2 cp2:Nat) (ats2:kZ) (W0:fO) (z0 z1 z2 z3 z4 z5 z6 z7 z8 z9 z10:Bool) (s33 s34 s35 s36 s37 s38 s39 s40 s41 s42:gh) (W:fO):Prop where
 f0:z0=true->s33=nV f i
 f1:z1=true->s34=nV f i
 f2:z2=true->s35=fW (f i)
 f3:z3=true->s36=jp (f i) 1
 f4:z4=true->s37= .slice ao2 n2 cp2
 f5:z5=true->s38= .agg #[fR a,fR b]
 f6:z6=true->z7=false->dZ a b s39 W
 f7:z7=true->z10=false->Js W0 (.slice ao2 n2 cp2) n2 ats2 s40 W
 f8:z8=true->s41=fW (f i)
 f9:z9=true->s42=jp (f i) 1
 d2:z2=true->z1=true
 d3:z3=true->z2=true
 d4:z4=true->z3=true
 d6:z6=true->z5=true
 d7:z7=true->z4=true/\z6=true
 d8:z8=true->z0=true/\z1=true/\z2=true/\z3=true/\z4=true/\z5=true/\z6=true/\z7=true
 d9:z9=true->z8=true
 d10:z10=true->z9=true/\z7=true
 wi:z7=false->Kept [] W0 W
 fin:z10=true->∃v1 W1,Js W0 (.slice ao2 n2 cp2) n2 ats2 v1 W1/\W=W1.setCell ⟨f i,1,none⟩ v1
theorem aag (E:Env) (t:fZ) (ht:iL E t) (i:Nat):iG E 277 (λf=>#[Bp E,nV f i,hH E t]) (wX i t) uV:=by
 intro f σ w h HS;obtain⟨R,hR⟩:∃R,R=wX i t σ:=⟨_,rfl⟩;rw[<-hR]at HS|-;have z:(σ.fresh&&ng (σ.nm i))=true:=by
  cases hq:(σ.fresh&&ng (σ.nm i))with
  |true=>rfl
  |false=>unfold wX at hR;grind
 have HR:R=qe i t.ja σ:=by rw[hR];unfold wX;rw[z];rfl
 rw[rl]at z;have⟨P,Q⟩:=z;have⟨x,y,nm,ao,cp,hTV,hn,HROW⟩:=aaM E t ht h;have aH:∃ao n cp,E.tv= .slice ao n cp:=by
  have⟨L,_,J⟩:=h;have⟨ao,cp,e⟩:=fS J.tok;exact⟨ao,_,cp,e⟩
 have am:=λW=>ym E t W aH;rw[hTV]at am;generalize t.ja=fX at *;have H:=At.start h;go_enter func277,ntmps277
 go_wp21
 refine(am _).mono ?_;rintro e w1 ⟨rfl,aD⟩;replace H:=H.k0 aD;have aO:=λ(w:fO)=>yk x y nm ao fX.length cp w
 go_wp21
 go_loopw [12] (λv wr=>∃(C:Nat) (u:Ab),v= .int .i64 C/\C<=fX.length/\R=qe i (fX.drop C) u/\At E f σ.nodes.length w f u wr/\u.fresh=true/\ng (u.nm i)=true) (λv _=>fX.length - (intOf v).toNat)
 case atStart=>exact⟨0,σ,rfl,im _,HR,H,P,Q⟩
 case round=>
  obtain⟨C,u,rfl,aM,hR,a0,P,Q⟩:=hrel
  by_cases Y:C < fX.length
  .obtain⟨g,rfl,c0,c1⟩:=zD.dp (HROW _ _ _ a0.rel) Y;rw[C9 Y]at hR;obtain⟨e,he⟩:∃e,u.gF i=some e:=by
    cases hq:u.gF i with
    |some e=>simp
    |none=>rw[Im,hq]at hR;exact absurd hR HS
   have ak:R=(if zC e.gy fX[C].1 then qe i (fX.drop (C+1)) u else if u.oY<=e.gy.length then .stop 7 u.gp else qe i (fX.drop (C+1)) (u.gE i {e with gy:=e.gy++[fX[C]]})):=by rw[hR,Im,he]
   have aG:u.nm i=e.name:=by unfold Ab.nm;rw[he]
   rw[aG]at Q;have aI:fX[C]=(fX[C].1,fX[C].2):=rfl;generalize fX[C].1=a at *;generalize fX[C].2=b at *;rw[aI]at ak;have hK:Kept [] wr (wr.alloc (.cells #[.string a,.string b] 299 (0,0))):=(Kept.refl _ _).alloc _;have hB:=fB wr (.cells #[.string a,.string b] 299 (0,0));have⟨L,hL,J⟩:=(a0.k0 hK).rel;have⟨a1,U,hAl⟩:=J.rP i _ (Ab.iX he);have C2:=aek (L.gp i) e.name (L.av i) _ _ e.gy a _ a1.gR U hAl;rw[hL]at C2;have HE:=fx he;have ai:=fx ak;have HA:=a0.k0 hK;have HB:=fx hB;have aL:=iB hB;clear ak he hB hL
   go_wp21
   refine C2.mono ?_;rintro e2 Z ⟨rfl,au⟩;replace HA:=HA.k0 au;replace HB:=fx (au.at HB (by simp));cases hq:zC e.gy a with
   |true=>
    have S:=(show R=qe i (fX.drop (C+1)) u by rw[ai.out,hq];rfl);go_wp2;go_roundw
    case rel=>exact⟨C+1,u,by go_num,by omega,S,HA,P,by simp_all⟩
    case measure=>simp[intOf];omega
   |false=>
    have⟨L,hL,HRL⟩:=HA.rel;have a1:=(HRL.rP i _ (Ab.iX HE)).1;have U:=(HRL.rP i _ (Ab.iX HE)).2.1;have⟨ao2,cp2,hav⟩:=fS U;have d0:Z.cell? ⟨f i,1,none⟩=some (.slice ao2 e.gy.length cp2):=by rw[<-hL,fw a1.gR,<-hav];rfl
    have d1:Z.cell? ⟨E.bB,2,none⟩=some (.int .i64 (u.oY:Int)):=HRL.low (by decide) HRL.rY.2.2.1;have aK:=HRL.rY.2.2.2.2.2;have aE:f i < Z.heap.size:=by rw[<-hL];exact iB a1.gR
    have aN:=HRL.lt
    by_cases ae:u.oY<=e.gy.length
    .have S:=(show R= .stop 7 u.gp by rw[ai.out,hq];simp[ae]);have C3:=(λq=>MT (HRL.drewN q) 7);clear hav
     go_wp21
     go_quiet (fail)
     go_wp21
     refine(C3 nq).mono ?_;rintro e3 w3 ⟨k,rfl,H1,d⟩;have H2:=(HA.fr.trans (Fr.drewN Z nq)).trans d;go_wp2;exact⟨rfl,pd S H1 H2⟩
    .have S:=(show R=qe i (fX.drop (C+1)) (u.gE i {e with gy:=e.gy++[(a,b)]}) by rw[ai.out,hq];simp[ae]);have ah:=fx hL;have af:=fx hav;have aA:=d0;have aj:=aE;clear hav hL;have ag:=(show Z.heap[f i]?=some (.cells #[.string e.name,.slice ao2 e.gy.length cp2,kK (gX L.gp e.iJ),L.kv i] 140 (0,0)) by
      have:=(HRL.rP i _ (Ab.iX HE)).1.gR;rw[ah.out,af.out]at this;rw[ah.out];omega)
     have ad:=(show zD Z (.slice ao2 e.gy.length cp2) e.gy by rw[<-af.out];omega);have az:=(HRL.rP i _ (Ab.iX HE)).2.2;have ap:=zn ad ag (by decide);have ay:=(λW (hk:Kept [] Z W)=>lz aj hk.size);have an:=aj;have ax:=(λW (hk:Kept [] Z W)=>(hk.cell (p:=⟨f i,1,none⟩) aj (by simp)).trans aA);have aw:=(λW (hk:Kept [] Z W)=>(⟨by rw[fw (hk.at HB.out (by simp))];rfl,by rw[fw (hk.at HB.out (by simp))];rfl⟩:W.cell? ⟨wr.heap.size,0,none⟩=some (.string a)/\W.cell? ⟨wr.heap.size,1,none⟩=some (.string b)));have aJ:=(show e.gy.length < 16 by omega)
     go_wp21
     go_quiet (fail)
     go_wp21
     refine uN (by rfl) ?_
     try (change wpAny _ _ _ _ _ _ _ (World.drew _))
     refine yi (I:=λD ac W=>∃z0 z1 z2 z3 z4 z5 z6 z7 z8 z9 G a2 a3 a4 a5 a6 a7 a8 a9 aa ab,D=#[z0,z1,z2,z3,z4,z5,z6,z7,z8,z9,G]/\ac=⟨#[Bp E,nV f i,hH E t,undef,undef,undef,undef,.pointer (some ⟨wr.heap.size,0,none⟩),hH E t,.agg #[.int .i64 x,.int .i64 y,.string nm,.slice (some ⟨g,0,none⟩) fX.length cp],.slice (some ⟨g,0,none⟩) fX.length cp,.int .i64 (fX.length:Int),.int .i64 (C:Int),.bool true,.pointer (some ⟨g,C*2,none⟩),.agg #[.string a,.string b],nV f i,.pointer (some ⟨wr.heap.size,0,none⟩),.string a,.bool false,nV f i,.pointer (some ⟨f i,0,none⟩),.pointer (some ⟨f i,1,none⟩),.slice ao2 e.gy.length cp2,.int .i64 (e.gy.length:Int),Bp E,.pointer (some ⟨E.bB,0,none⟩),.pointer (some ⟨E.bB,0,none⟩),.pointer (some ⟨E.bB,2,none⟩),.int .i64 (u.oY:Int),.bool false,u31,u32,a2,a3,a4,a5,a6,a7,a8,a9,aa,ab,u43],[]⟩/\eu E f i a b ao2 e.gy.length cp2 (e.gy++[(a,b)]) Z z0 z1 z2 z3 z4 z5 z6 z7 z8 z9 G a2 a3 a4 a5 a6 a7 a8 a9 aa ab W) ?_ ?_ _ _ _ _ ?_ ?_
     .rintro D a W k ⟨z0,z1,z2,z3,z4,z5,z6,z7,z8,z9,G,a2,a3,a4,a5,a6,a7,a8,a9,aa,ab,rfl,rfl,j⟩ hi;simp only[Region.ready,IA,DI]at hi;have⟨Y,z⟩:=hi;have Y:k < 11:=Y;obtain rfl|rfl|rfl|rfl|rfl|rfl|rfl|rfl|rfl|rfl|rfl:k=0\/k=1\/k=2\/k=3\/k=4\/k=5\/k=6\/k=7\/k=8\/k=9\/k=10:=by omega
      all_goals simp[Region.binds]at z
      .refine jE rfl ?_;intro K' o;have aB:z0=false:=by simp[z]
       go_simp;refine o _ _ ?_
       iterate 21 apply Exists.intro
       refine⟨rfl,rfl,?_⟩;exact {j with f0:=(λ_=>rfl),d8:=(λl=>by have d:=(j.d8 l).1;rw[aB]at d;cases d)}
      .refine jE rfl ?_;intro K' o;have aC:z1=false:=by simp[z]
       go_simp;refine o _ _ ?_
       iterate 21 apply Exists.intro
       refine⟨rfl,rfl,?_⟩;exact {j with f1:=(λ_=>rfl),d2:=(λ_=>rfl),d8:=(λl=>by have d:=(j.d8 l).2.1;rw[aC]at d;cases d)}
      .refine jE rfl ?_;intro K' o;have aq:z2=false:=by simp[z]
       have al:z3=false:=Bool.eq_false_iff.2 λl=>by have d:=(j.d3 l);rw[aq]at d;cases d
       have V:z4=false:=Bool.eq_false_iff.2 λl=>by have d:=(j.d4 l);rw[al]at d;cases d
       have A:z7=false:=Bool.eq_false_iff.2 λl=>by have d:=(j.d7 l).1;rw[V]at d;cases d
       have e1:=j.f1 (by simp[z]);subst e1;have aF:=ay W (j.wi A);go_simp;refine o _ _ ?_
       iterate 21 apply Exists.intro
       refine⟨rfl,rfl,?_⟩;exact {j with f2:=(λ_=>rfl),d2:=(λ_=>by simp[z]),d3:=(λ_=>rfl),d8:=(λl=>by have d:=(j.d8 l).2.2.1;rw[aq]at d;cases d)}
      .refine jE rfl ?_;intro K' o;have al:z3=false:=by simp[z]
       have e2:=j.f2 (by simp[z]);subst e2;go_simp;refine o _ _ ?_
       iterate 21 apply Exists.intro
       refine⟨rfl,rfl,?_⟩;exact {j with f3:=(λ_=>rfl),d3:=(λ_=>by simp[z]),d4:=(λ_=>rfl),d8:=(λl=>by have d:=(j.d8 l).2.2.2.1;rw[al]at d;cases d)}
      .refine jE rfl ?_;intro K' o;have V:z4=false:=by simp[z]
       have A:z7=false:=Bool.eq_false_iff.2 λl=>by have d:=(j.d7 l).1;rw[V]at d;cases d
       have e3:=j.f3 (by simp[z]);subst e3;have cc:=ax W (j.wi A);go_simp;refine o _ _ ?_
       iterate 21 apply Exists.intro
       refine⟨rfl,rfl,?_⟩;exact {j with f4:=(λ_=>rfl),d4:=(λ_=>by simp[z]),d7:=(λl=>by have d:=(j.d7 l).1;rw[V]at d;cases d),d8:=(λl=>by have d:=(j.d8 l).2.2.2.2.1;rw[V]at d;cases d)}
      .refine jE rfl ?_;intro K' o;have ar:z5=false:=by simp[z]
       have N:z6=false:=Bool.eq_false_iff.2 λl=>by have d:=(j.d6 l);rw[ar]at d;cases d
       have A:z7=false:=Bool.eq_false_iff.2 λl=>by have d:=(j.d7 l).2;rw[N]at d;cases d
       have cc:=aw W (j.wi A);have c2:=cc.1;have c3:=cc.2;go_simp;refine o _ _ ?_
       iterate 21 apply Exists.intro
       refine⟨rfl,rfl,?_⟩;exact {j with f5:=(λ_=>rfl),d6:=(λ_=>rfl),d8:=(λl=>by have d:=(j.d8 l).2.2.2.2.2.1;rw[ar]at d;cases d)}
      .refine jE rfl ?_;intro K' o;have N:z6=false:=by simp[z]
       have A:z7=false:=Bool.eq_false_iff.2 λl=>by have d:=(j.d7 l).2;rw[N]at d;cases d
       have X:z8=false:=Bool.eq_false_iff.2 λl=>by have d:=(j.d8 l).2.2.2.2.2.2.1;rw[N]at d;cases d
       have K:z9=false:=Bool.eq_false_iff.2 λl=>by have d:=(j.d9 l);rw[X]at d;cases d
       have B:G=false:=Bool.eq_false_iff.2 λl=>by have d:=(j.d10 l).1;rw[K]at d;cases d
       have e5:=j.f5 (by simp[z]);subst e5;go_simp;have ka:Kept [] W (W.alloc (.cells #[.string a,.string b] 299 (0,0))):=(Kept.refl _ _).alloc _;refine o _ _ ?_
       iterate 21 apply Exists.intro
       refine⟨rfl,rfl,?_⟩;exact {j with f6:=(λ_ _=>⟨W.heap.size,rfl,fB W _⟩),f7:=(λh=>by rw[A]at h;cases h),d6:=(λ_=>by simp[z]),d7:=(λl=>by have d:=(j.d7 l).2;rw[N]at d;cases d),d8:=(λl=>by have d:=(j.d8 l).2.2.2.2.2.2.1;rw[N]at d;cases d),wi:=(λ_=>(j.wi A).trans ka),fin:=(λh=>by rw[B]at h;cases h)}
      .refine jE rfl ?_;intro K' o;have A:z7=false:=by simp[z]
       have X:z8=false:=Bool.eq_false_iff.2 λl=>by have d:=(j.d8 l).2.2.2.2.2.2.2;rw[A]at d;cases d
       have K:z9=false:=Bool.eq_false_iff.2 λl=>by have d:=(j.d9 l);rw[X]at d;cases d
       have B:G=false:=Bool.eq_false_iff.2 λl=>by have d:=(j.d10 l).1;rw[K]at d;cases d
       have e4:=j.f4 (by simp[z]);subst e4;have⟨k,e6,hk6⟩:=j.f6 (by simp[z]) A;subst e6;have⟨v',w',hap,F⟩:=Ry Z W (j.wi A) ad k a b hk6 az;refine WC (.tmp 37) (.tmp 39) 137 rfl rfl (.slice ao2 e.gy.length cp2) (.slice (some ⟨k,0,none⟩) 1 1) rfl rfl (v':=v') (w':=w') (by exact hap) ?_;refine o _ _ ?_
       iterate 21 apply Exists.intro
       refine⟨rfl,rfl,?_⟩;exact {j with f6:=(λ_ h=>by cases h),f7:=(λ_ _=>F),d7:=(λ_=>by simp[z]),d8:=(λl=>by have d:=(j.d8 l).2.2.2.2.2.2.2;rw[A]at d;cases d),d10:=(λl=>by have d:=(j.d10 l).2;rw[A]at d;cases d),wi:=(λh=>by cases h),fin:=(λh=>by rw[B]at h;cases h)}
      .refine jE rfl ?_;intro K' o;have X:z8=false:=by simp[z]
       have K:z9=false:=Bool.eq_false_iff.2 λl=>by have d:=(j.d9 l);rw[X]at d;cases d
       have B:G=false:=Bool.eq_false_iff.2 λl=>by have d:=(j.d10 l).1;rw[K]at d;cases d
       have e0:=j.f0 (by simp[z]);subst e0;have aF:=(j.f7 (by simp[z]) B).dT an;go_simp;refine o _ _ ?_
       iterate 21 apply Exists.intro
       refine⟨rfl,rfl,?_⟩;exact {j with f8:=(λ_=>rfl),d8:=(λ_=>by simp[z]),d9:=(λ_=>rfl)}
      .refine jE rfl ?_;intro K' o;have K:z9=false:=by simp[z]
       have e8:=j.f8 (by simp[z]);subst e8;go_simp;refine o _ _ ?_
       iterate 21 apply Exists.intro
       refine⟨rfl,rfl,?_⟩;exact {j with f9:=(λ_=>rfl),d9:=(λ_=>by simp[z]),d10:=(λl=>by have d:=(j.d10 l).1;rw[K]at d;cases d)}
      .refine jE rfl ?_;intro K' o;have B:G=false:=by simp[z]
       have e9:=j.f9 (by simp[z]);subst e9;have F:=j.f7 (by simp[z]) B;have⟨ao9,cp9,e9⟩:=F.shape;subst e9;have c9:=F.cell ag ap;have f9:=F.free ag ap;go_simp;refine o _ _ ?_
       iterate 21 apply Exists.intro
       refine⟨rfl,rfl,?_⟩;exact {j with f6:=(λ_ h=>by simp[z]at h),f7:=(λ_ h=>by cases h),d10:=(λ_=>by simp[z]),wi:=(λh=>by simp_all),fin:=(λ_=>⟨_,_,F,rfl⟩)}
     .rintro D a W ⟨z0,z1,z2,z3,z4,z5,z6,z7,z8,z9,G,a2,a3,a4,a5,a6,a7,a8,a9,aa,ab,rfl,rfl,j⟩ J;simp only[Region.ready,QY,DI]at J;have q0:=J 0 (by decide);simp[Region.binds]at q0;subst q0;have q1:=J 1 (by decide);simp[Region.binds]at q1;subst q1;have q2:=J 2 (by decide);simp[Region.binds]at q2;subst q2;have q3:=J 3 (by decide);simp[Region.binds]at q3;subst q3;have q4:=J 4 (by decide);simp[Region.binds]at q4;subst q4;have q5:=J 5 (by decide);simp[Region.binds]at q5;subst q5;have q6:=J 6 (by decide);simp[Region.binds]at q6;subst q6;have q7:=J 7 (by decide);simp[Region.binds]at q7;subst q7;have q8:=J 8 (by decide);simp[Region.binds]at q8;subst q8;have q9:=J 9 (by decide);simp[Region.binds]at q9;subst q9;have av:=J 10 (by decide);simp[Region.binds]at av;subst av;have⟨v1,W1,F,hW⟩:=j.fin rfl;subst hW;have O:=HRL.afN HE Q P (a,b) (by omega) (v':=v1) (w1:=W1) (by rw[af.out];exact F.dK);rw[ah.out]at O;go_wp2;go_roundw
      case rel=>exact⟨C+1,_,by go_num,by omega,S,HA.to ⟨_,rfl,O.1⟩ (nk (Ab.nr _ _ _).symm) O.2,P,by unfold Ab.nm;rw[Ab.iF (Ab.gL HE.out)];exact Q⟩
      case measure=>simp[intOf];omega
     .decide
     .exact⟨_,_,_,_,_,_,_,_,_,_,_,_,_,_,_,_,_,_,_,_,_,rfl,rfl,⟨(by simp),(by simp),(by simp),(by simp),(by simp),(by simp),(by simp),(by simp),(by simp),(by simp),(by simp),(by simp),(by simp),(by simp),(by simp),(by simp),(by simp),(by simp),(λ_=>((Kept.refl _ _).drewN nq).drew),(λh=>by cases h)⟩⟩
  .have HD:=(show R= .ok () u by rw[hR,FT (by omega)];rfl);have HA:=a0;go_wp2;go_end0;exact fL HD HA rfl
attribute [local go_sem] Oper.semAt_some
def Qs (E:Env) (t:fZ) (F:iL E t):iG E 207 (λ_=>#[Bp E,hH E t]) (sD t) uV:=by
 refine dI λf j w R d HS H=>?_;unfold sD at d;go_enter func207,ntmps207;obtain⟨C,L⟩:∃C,C=f:=⟨_,rfl⟩;obtain⟨G,O⟩:∃G,G=j.nodes.length:=⟨_,rfl⟩;obtain⟨I,P⟩:∃I,I=w:=⟨_,rfl⟩
 go_wp21
 refine dC (rH E (ij E)) H d HS rfl (λ_ _ _ _ h=>And.intro rfl (lS h)) ?_;rintro(_) f j w H A z d;have⟨kb,lbb,cb,HQ⟩:=H.rel.bounds;have B:=H.lt;have y:=cb;have J:=(Kept.refl [] w).drew
 go_wp21
 go_cut [13]from 6 to 12 (λr wc=>r= .bool (j.inScope (gI [ib]) (io))/\Kept [] w wc)
 case first=>
  go_region_with (first
   |(go_at_call 225;refine(nf E [ib] w.drew (by simp)).mono ?_;rintro e S ⟨V,Q,rfl,q,u⟩;have o:=J.trans u;have U:S.cell? ⟨E.bB,186,none⟩=some (.func (.func kb) #[] lbb):=(o.cell (p:=⟨E.bB,186,none⟩) B (by simp)).trans y;have x:=fx q;have l:=fx o;clear q u o)
   |(go_at_call 238;refine(vY (H.k0 l).rel (gI [ib]) io _ _ x (HQ.k0 l)).mono ?_;rintro e X ⟨rfl,D⟩;have K:=fx (l.trans D);clear D))
  all_goals (try (go_wp21))
  all_goals (go_meet;exact⟨rfl,K⟩)
 case rest=>
  obtain⟨rfl,N⟩:=hcut;replace H:=H.k0 N;cases hsc:j.inScope (gI [ib]) io with
  |true=>
   replace d:Hid (R=(xF ib>>=λ_=>iE t>>=λ_=>(Pure.pure ():M Unit)) j):=by
    refine fx ?_;rw[d.out];unfold tY;rw[hsc];rfl
   go_wp21
   refine dC (M3 E ib) H d HS rfl (λ_ _ _ _ h=>And.intro rfl (lS h)) ?_;rintro(_) f j w H A z d
   go_wp21
   refine dC (nW E t F) H d HS rfl (λ_ _ _ _ h=>And.intro rfl (lS h)) ?_;rintro(_) f j w H A z d;go_wp2;go_end0;exact fL d H rfl
  |false=>
   replace d:Hid (R=(iE t>>=λ_=>(Pure.pure ():M Unit)) j):=by
    refine fx ?_;rw[d.out];unfold tY;rw[hsc];rfl
   go_wp21
   refine dC (nW E t F) H d HS rfl (λ_ _ _ _ h=>And.intro rfl (lS h)) ?_;rintro(_) f j w H A z d;go_wp2;go_end0;exact fL d H rfl
def Kept.Bv (h:Below w.heap.size w w'):Kept [] w w':=⟨h.os,h.tape,h.output,h.size,λk d _=>h.block k d⟩
def Gl (w:fO) (r:Nat):Prop:=(∃m,w.cell? ⟨3,0,none⟩=some (fK m))/\3 < w.heap.size/\r≠3
theorem Gl.kept (h:Gl w r) (d:Kept [r] w w'):Gl w' r:=by
 have⟨⟨m,hm⟩,hl,hn⟩:=h;exact⟨⟨m,(d.cell (p:=⟨3,0,none⟩) hl (by grind)).trans hm⟩,lz hl d.size,hn⟩
def nF (s:fN):fN:=⟨(Lib.replaceAll s.data.toList (ByteArray.mk #[0]).data.toList (ByteArray.mk #[239,191,189]).data.toList).toArray⟩
theorem yH (r:Nat) (s:fN) (w:fO) (l:s.size<=1048576) (h:Gl w r):
  Calls prog 158 #[fR s] w λe w'=>e=gO (fR (nF s))/\Kept [] w w':=by
 have⟨⟨m,hm⟩,_,_⟩:=h;have j:=Lib.countB_le ⟨#[0]⟩ (by decide) s.size s (gr _);have C:=Tryz.strings_ReplaceAll s ⟨#[0]⟩ ⟨#[239,191,189]⟩ m w (by omega) hm (by decide) (by have:(ByteArray.mk #[239,191,189]).size=3:=rfl;grind);go_enter func158,ntmps158
 go_wp21
 refine C.mono ?_;rintro e w' ⟨rfl,d⟩;go_wp2;go_ret;exact⟨rfl,Kept.Bv d⟩
def low (c:Int):Int:=if 65<=c/\c<=90 then c+32 else c
def small (s:fN):fN:=⟨s.data.map λb=>if 65<=b.toNat/\b.toNat<=90 then b+32 else b⟩
def sB (s:fN):(small s).size=s.size:=Array.size_map ..
theorem ZC (s:fN) (j:Nat) (h:j < s.size):bt (small s) j=low (bt s j):=by
 have o:j < s.data.size:=h;have d:j < (small s).size:=by rw[sB];exact h
 unfold bt low;rw[wQ h,wQ d];show(((small s).data[j]'d).toNat:Int)=_;have e:(small s).data[j]'d=(if 65<=(s.data[j]).toNat/\(s.data[j]).toNat<=90 then s.data[j]+32 else s.data[j]):=by simp[small]
 rw[e];show _=(if 65<=((s.data[j]).toNat:Int)/\((s.data[j]).toNat:Int)<=90 then ((s.data[j]).toNat:Int)+32 else ((s.data[j]).toNat:Int))
 by_cases l:65<=(s.data[j]).toNat/\(s.data[j]).toNat<=90
 .rw[fU l,fU (by omega),UInt8.toNat_add]
  grind
 grind
def tf (g sz:Nat) (s:fN) (k:Nat) (w wr:fO):Prop:=
 (∃C:jB,wr.heap[g]?=some (.cells C 5 (sz,sz+1))/\C.size=sz/\∀j,j < s.size->C[j]?=some (.int .u8 (if j < k then low (bt s j)else bt s j)))/\Kept [] w wr
theorem tf.cell (h:tf g sz s k w wr) (e:s.size<=sz) (j:Nat) (d:j < s.size):wr.cell? ⟨g,j,none⟩=some (.int .u8 (if j < k then low (bt s j)else bt s j))/\wr.frozen? ⟨g,j,none⟩=false:=by
 have⟨⟨C,hC,_,h⟩,_⟩:=h;exact⟨by rw[Bt hC];grind,LH hC j (by omega)⟩
theorem tf.YH (h:tf g sz s k w wr) (hl:low (bt s k)=bt s k):tf g sz s (k+1) w wr:=by
 grind[tf]
theorem tf.store (h:tf g sz s k w wr) (d:w.heap.size<=g) (l:k < sz):tf g sz s (k+1) w (wr.setCell ⟨g,k,none⟩ (.int .u8 (low (bt s k)))):=by
 have⟨⟨C,hC,hs,h⟩,hk⟩:=h;refine⟨⟨_,Dq hC k _,by grind,λj e=>?_⟩,hk.setCell (.inr d) _⟩
 grind
theorem vS (s:fN) (w:fO) (N:s.size<=1048576):
  Calls prog 250 #[fR s] w λe w'=>e=gO (fR (small s))/\Kept [] w w':=by
 have l:=run_bytes_of_string (P:=prog) w 9 55 5 s underlying9 underlying55 underlying5;obtain⟨o,x⟩:∃o,o=grownCap w s.size 0 5:=⟨_,rfl⟩;rw[<-x]at l;clear x;have B:=BV s o;have z:∀j,j < s.size->(bytesRow s o)[j]?=some (.int .u8 (bt s j)):=λj y=>by rw[bytesRow_at s o j y,<-get_bt s j y];rfl
 generalize bytesRow s o=R at l B z;obtain⟨u,h⟩:∃u,u=w.drew.alloc (.cells R 5 (R.size,R.size+1)):=⟨_,rfl⟩;rw[<-h]at l;have G:u.heap[w.heap.size]?=some (.cells R 5 (R.size,R.size+1)):=by rw[h];exact fB w.drew _
 have F:Kept [] w u:=by rw[h];exact(Kept.refl [] w).drew.alloc _
 clear h;have I:Hid (tf w.heap.size R.size s 0 w u):=⟨⟨R,G,rfl,λj y=>by grind⟩,F⟩;clear G F z;generalize R.size=sz at *;go_enter func250,ntmps250
 go_wp21
 clear l
 go_loopw [10] (λi wr=>∃k:Nat,k<=s.size/\i=fK k/\tf w.heap.size sz s k w wr) (λi _=>s.size - (intOf i).toNat)
 case atStart=>exact⟨0,im _,rfl,I⟩
 case round=>
  obtain⟨k,L,rfl,d⟩:=hrel
  by_cases D:k < s.size
  .have⟨c1,f1⟩:=d.cell B k D;rw[gn (by omega)]at c1;have J:=bt_nonneg s k;have K:=bt_le s k
   by_cases a:65<=bt s k
   .by_cases b:bt s k<=90
    have A:=d.store (gr _) (by omega);have p:low (bt s k)=bt s k - 65+97:=by unfold low;rw[fU ⟨a,b⟩];omega
    rw[p]at A;clear p
    rotate_left
    have A:=d.YH (by unfold low;omega)
    all_goals
     generalize bt s k=c at *;go_wp2;go_roundw
     case rel=>grind
     case measure=>simp[intOf];omega
   .have A:=d.YH (by unfold low;omega);generalize bt s k=c at *;go_wp2;go_roundw
    case rel=>grind
    case measure=>simp[intOf];omega
  .have e:k=s.size:=by omega
   subst e;have C:(convert 55 9 (mW w.heap.size s.size o)).run prog wr= .ok (fR (small s)) wr:=by
    have:=Tu (P:=prog) wr 55 9 5 ⟨w.heap.size,0,none⟩ o (small s).data.toList underlying55 underlying5 underlying9 (λj y=>by
     have q:j < s.size:=by have:=sB s;simp at y;have e:(small s).data.size=(small s).size:=rfl;omega
     rw[iT];have:=(d.cell B j q).1;rw[fU q]at this;rw[this,<-ZC s j q,<-get_bt (small s) j (by simp_all)];rfl)
    have e2:(small s).data.toList.length=s.size:=by simp;exact sB s
    rw[e2]at this
    simpa using this
   have H:=d.2;go_wp2;go_ret;exact⟨rfl,H⟩
def qj (x y:Int) (nm:fN) (av:gh) (fX:kZ) (w:fO) (hA:zD w av fX) (U:fX.length<=4096) (J:∀a∈fX,a.2.size<=1048576):
  Calls prog 231 #[.agg #[fK x,fK y,fR nm,av]] w λe w'=>e=gO (.bool (uI fX))/\Kept [] w w':=by
 have⟨ao,cp,hav⟩:=fS hA;subst hav;obtain⟨A,o⟩:∃A,A=w.alloc (fV #[fK x,fK y,fR nm,.slice ao fX.length cp] 194):=⟨_,rfl⟩;have h:Kept [] w A:=by rw[o];exact(Kept.refl _ _).alloc _
 have K:=h.ownsRow hA (λ_ _=>by simp);have L:=fx o.symm;have N:=J;clear o;obtain⟨R,G⟩:∃R,R=uI fX:=⟨_,rfl⟩;rw[<-G];have F:Hid (R=uI (fX.drop 0)):=fx G;clear G;go_enter func231,ntmps231
 go_wp21
 rw[L.out]
 go_loopw [8] (λv wr=>∃d:Nat,v=fK d/\d<=fX.length/\R=uI (fX.drop d)/\Kept [] A wr) (λv _=>fX.length - (intOf v).toNat)
 case atStart=>exact⟨0,rfl,im _,F,Kept.refl _ _⟩
 case round=>
  obtain⟨d,rfl,O,q,u⟩:=hrel
  by_cases l:d < fX.length
  .obtain⟨g,rfl,Q,S⟩:=zD.dp (u.ownsRow K (λ_ _=>by simp)) l;have J:=N fX[d] (tM l);rw[C9 l]at q;have z:Hid (R=if ku fX[d].1 nE then ku (SL fX[d].2) lj else uI (fX.drop (d+1))):=fx q;have B:=fx u;clear u q;generalize fX[d].1=a at *;generalize fX[d].2=b at *;have C:=(λW=>vS b W J);have p:=B.alloc (fV #[fR a,fR b] 299);cases hq:ku a nE with
   |true=>
    have I:(a.toList==[116,121,112,101])=true:=by rw[<-hq];unfold ku;rw[sH (nE)]
    have j:=fx (show R=ku (SL b) lj by rw[z.out,hq];rfl)
    go_wp21
    refine(C _).mono ?_;rintro e P ⟨rfl,H⟩;have D:=p.trans H;go_wp2;go_ret;refine⟨?_,h.trans D⟩;rw[j.out];unfold ku;rw[sH (lj)];rfl
   |false=>
    have I:(a.toList==[116,121,112,101])=false:=by rw[<-hq];unfold ku;rw[sH (nE)]
    have j:=fx (show R=uI (fX.drop (d+1)) by rw[z.out,hq];rfl);go_wp2;go_roundw
    case rel=>exact⟨d+1,by go_num,by omega,j,p⟩
    case measure=>simp[intOf];omega
  .have z:Hid (R=false):=fx (by rw[q,FT (by omega)];rfl);have B:=fx u;clear u q;go_wp2;go_ret;exact⟨by rw[z.out];rfl,h.trans B⟩
def BE (E:Env) (rec:Nat->fZ->M Unit) (hA:∀(m:Nat) (t:fZ),iL E t->iG E 171 (λ_=>#[Bp E,fK m,hH E t]) (rec m t) uV) (t:fZ) (x:iL E t) (F:∀a∈t.ja,a.2.size<=1048576):iG E 133 (λ_=>#[Bp E,hH E t]) (kF rec t) uV:=by
 intro f p w h HS;have B:∃z n A,E.tv= .slice z n A:=by
  have⟨L,_,hr⟩:=h;have⟨z,A,e⟩:=fS hr.tok;exact⟨z,_,A,e⟩
 have D:=(λW=>ym E t W B);have u:Hid (∀W,Kept [] w W->Calls prog 231 #[.agg (yK E t)] W λe J=>e=gO (.bool (uI t.ja))/\Kept [] W J):=fx (by
  intro W K;have⟨L,_,hr⟩:=h.gJ K;have⟨a,b,k,fX⟩:=t;cases k with
  |start n=>
   have e:fX=E.ta:=x rfl;subst e;exact qj a b n E.tv E.ta W hr.tok hr.Av F
  |stop n=>
   have e:fX=E.ta:=x rfl;subst e;exact qj a b n E.tv E.ta W hr.tok hr.Av F
  |jq s=>exact qj 0 0 _ _ [] W (oD _ _ _ _) (by simp) (by simp)
  |gm s=>exact qj 0 0 _ _ [] W (oD _ _ _ _) (by simp) (by simp)
  |gP n q=>exact qj 0 0 _ _ [] W (oD _ _ _ _) (by simp) (by simp)
  |lost=>exact qj 0 0 _ _ [] W (oD _ _ _ _) (by simp) (by simp)
  |il=>exact qj 0 0 _ _ [] W (oD _ _ _ _) (by simp) (by simp))
 obtain⟨R,j⟩:∃R,R=(kF rec t) p:=⟨_,rfl⟩;rw[<-j]at HS|-;unfold kF at j;have H:=At.start h;cases hq:uI t.ja with
 |true=>
  rw[hq]at u j;have l:Hid (R=(lp t>>=λ_=>(Pure.pure ():M Unit)) p):=fx j;clear j;generalize hav:yK E t=N at *;go_enter func133,ntmps133
  go_wp21
  refine(D _).mono ?_;rintro e C ⟨rfl,d⟩;have y:=u C d;replace H:=H.k0 d
  go_wp21
  refine y.mono ?_;rintro e O ⟨rfl,o⟩;replace H:=H.k0 o
  go_wp21
  refine dC (vJ E (ij E) t x) H l HS rfl (λ_ _ _ _ h=>And.intro rfl (lS h)) ?_;rintro(_) f p w H I G l;go_wp2;go_end0;exact fL l H rfl
 |false=>
  rw[hq]at u j;have l:Hid (R=(tZ rec t>>=λ_=>(Pure.pure ():M Unit)) p):=fx j;clear j;generalize hav:yK E t=N at *;go_enter func133,ntmps133
  go_wp21
  refine(D _).mono ?_;rintro e C ⟨rfl,d⟩;have y:=u C d;replace H:=H.k0 d
  go_wp21
  refine y.mono ?_;rintro e O ⟨rfl,o⟩;replace H:=H.k0 o
  go_wp21
  refine dC (Dv E rec hA t x) H l HS rfl (λ_ _ _ _ h=>And.intro rfl (lS h)) ?_;rintro(_) f p w H I G l;go_wp2;go_end0;exact fL l H rfl
def R8 (E:Env) (t:fZ):iG E 124 (λ_=>#[Bp E,hH E t]) (yz t) uV:=by
 refine dI λf o w R d HS H=>?_;unfold yz at d;go_enter func124,ntmps124;have⟨ta,tb,tao,tn,tcp,HTG⟩:=D7 E t H.rel;have j:=λw=>AP ta tb t.name tao tn tcp w
 go_wp21
 refine(HTG _).mono ?_;rintro e u ⟨rfl,l⟩;replace H:=H.k0 l
 go_wp21
 refine dC (Jo E t.name) H d HS rfl (λ_ _ _ _ h=>And.intro rfl (lS h)) ?_;rintro(_) f o w H q p d;go_wp2;go_end0;exact fL d H rfl
def wF (t:fZ):Bool:=t.ja.all λa=>decide (a.2.size<=1048576)
def DZ (f:Nat):Option (M Bool):=
 if f=138 then some tW else
 if f=145 then some endCell else
 if f=139 then some mx else
 if f=144 then some EJ else
 if f=150 then some vX else
 if f=141 then some ra else
 if f=131 then some yg else
 none
def XY (E:Env) {b:M Bool} (h:DZ f=some b):jS E f (λ_=>#[Bp E]) b bV/\∀d w,(callFunc f d).run prog w= .ok (.enter f d) w:=by
 unfold DZ at h;split at h
 .rename_i e;subst e;cases h;exact⟨NZ E,enters_of func138 (by rfl) rfl⟩
 split at h
 .rename_i e;subst e;cases h;exact⟨Xi E,enters_of func145 (by rfl) rfl⟩
 split at h
 .rename_i e;subst e;cases h;exact⟨Fq E,enters_of func139 (by rfl) rfl⟩
 split at h
 .rename_i e;subst e;cases h;exact⟨XT E,enters_of func144 (by rfl) rfl⟩
 split at h
 .rename_i e;subst e;cases h;exact⟨Rb E,enters_of func150 (by rfl) rfl⟩
 split at h
 .rename_i e;subst e;cases h;exact⟨IM E,enters_of func141 (by rfl) rfl⟩
 split at h
 .rename_i e;subst e;cases h;exact⟨S9 E,enters_of func131 (by rfl) rfl⟩
 cases h
def RA (lk:Bool) (tN rec:Nat->fZ->M Unit) (t:fZ) (f:Nat):M Unit:=
 if f=113 then Bn else
 if f=119 then zl else
 if f=209 then zy else
 if f=212 then ut else
 if f=213 then Bm else
 if f=214 then RO else
 if f=215 then uY else
 if f=216 then zp else
 if f=218 then sM else
 if f=155 then Jw else
 if f=152 then mG else
 if f=151 then iS else
 if f=100 then ox t else
 if f=103 then yw t else
 if f=107 then yF t else
 if f=115 then tV t else
 if f=109 then jQ t else
 if f=110 then lp t else
 if f=120 then nG t else
 if f=122 then ln t else
 if f=204 then sL t else
 if f=193 then mL t else
 if f=194 then wJ t else
 if f=195 then ob t else
 if f=196 then xq t else
 if f=197 then uc t else
 if f=199 then pc t else
 if f=200 then sr t else
 if f=202 then pa t else
 if f=203 then qu t else
 if f=205 then qQ t else
 if f=206 then iE t else
 if f=207 then sD t else
 if f=208 then o0 t else
 if f=211 then yE t else
 if f=124 then yz t else
 if f=217 then pM t else
 if f=126 then pz t else
 if f=143 then qY t else
 if f=132 then lT t else
 if f=146 then pk t else
 if f=147 then jO t else
 if f=148 then je t else
 if f=149 then lB t else
 if f=111 then us t else
 if f=112 then oI t else
 if f=201 then pK t else
 if f=191 then oM t else
 if f=192 then qv t else
 if f=101 then ly rec t else
 if f=104 then sG rec t else
 if f=108 then sI rec t else
 if f=114 then nA rec t else
 if f=117 then o9 rec t else
 if f=116 then uv rec t else
 if f=118 then DU rec t else
 if f=210 then zu rec t else
 if f=247 then wY rec t else
 if f=135 then tZ rec t else
 if f=125 then qx rec t else
 if f=133 then (if wF t then kF rec t else stuck)else
 if f=136 then (if lk then stuck else oK t)else
 if f=137 then (if lk then stuck else ot tN rec t)else
 stuck
theorem la {E : Env} {t : fZ} {a b:M Unit} (d:lN E (.gz k) t a) (e:lN E (.gz f) t b):lN E (.gz f) t (if f=k then a else b):=by
 grind
section
variable (E:Env) (lk:Bool) (hl:lk=false->E.wv=none) (hi:E.Gv=7) (tN rec:Nat->fZ->M Unit)
variable (hAL:∀v ws (m:Nat) (t:fZ),iL E t->iG (E.lock v ws) 171 (λ_=>#[Bp E,.int .i64 (m:Int),hH E t]) (tN m t) uV)
variable (hA:∀(m:Nat) (t:fZ),iL E t->iG E 171 (λ_=>#[Bp E,.int .i64 (m:Int),hH E t]) (rec m t) uV)
include hl hi hAL hA
theorem ab2 (f:Nat) (t:fZ) (d:iL E t):lN E (.gz f) t (RA lk tN rec t f):=by
 unfold RA;refine la (iw E t _ _ (enters_of func113 (by rfl) rfl) (L8 E t)) ?_;refine la (iw E t _ _ (enters_of func119 (by rfl) rfl) (Mw E t)) ?_;refine la (iw E t _ _ (enters_of func209 (by rfl) rfl) (Xb E t)) ?_;refine la (iw E t _ _ (enters_of func212 (by rfl) rfl) (NF E t)) ?_;refine la (iw E t _ _ (enters_of func213 (by rfl) rfl) (VM E t)) ?_;refine la (iw E t _ _ (enters_of func214 (by rfl) rfl) (adJ E t)) ?_;refine la (iw E t _ _ (enters_of func215 (by rfl) rfl) (Sy E (ij E) t)) ?_;refine la (iw E t _ _ (enters_of func216 (by rfl) rfl) (Xm E t)) ?_;refine la (iw E t _ _ (enters_of func218 (by rfl) rfl) (PO E t)) ?_;refine la (iw E t _ _ (enters_of func155 (by rfl) rfl) (X0 E t)) ?_;refine la (iw E t _ _ (enters_of func152 (by rfl) rfl) (BI E t)) ?_;refine la (iw E t _ _ (enters_of func151 (by rfl) rfl) (Ai E t)) ?_;refine la (iw E t _ _ (enters_of func100 (by rfl) rfl) (GH E t)) ?_;refine la (iw E t _ _ (enters_of func103 (by rfl) rfl) (Px E t d)) ?_;refine la (iw E t _ _ (enters_of func107 (by rfl) rfl) (OQ E (ij E) t d)) ?_;refine la (iw E t _ _ (enters_of func115 (by rfl) rfl) (PB E (ij E) t d)) ?_;refine la (iw E t _ _ (enters_of func109 (by rfl) rfl) (vF E (ij E) t)) ?_;refine la (iw E t _ _ (enters_of func110 (by rfl) rfl) (vJ E (ij E) t d)) ?_;refine la (iw E t _ _ (enters_of func120 (by rfl) rfl) (OE E (ij E) t)) ?_;refine la (iw E t _ _ (enters_of func122 (by rfl) rfl) (qN E (ij E) t d)) ?_;refine la (iw E t _ _ (enters_of func204 (by rfl) rfl) (PK E (ij E) t d)) ?_;refine la (iw E t _ _ (enters_of func193 (by rfl) rfl) (vK E (ij E) t d)) ?_;refine la (iw E t _ _ (enters_of func194 (by rfl) rfl) (Sw E (ij E) t d)) ?_;refine la (iw E t _ _ (enters_of func195 (by rfl) rfl) (Is E (ij E) t d)) ?_;refine la (iw E t _ _ (enters_of func196 (by rfl) rfl) (Wg E (ij E) t d)) ?_;refine la (iw E t _ _ (enters_of func197 (by rfl) rfl) (Pr E t d)) ?_;refine la (iw E t _ _ (enters_of func199 (by rfl) rfl) (K8 E t d)) ?_;refine la (iw E t _ _ (enters_of func200 (by rfl) rfl) (NL E t d)) ?_;refine la (iw E t _ _ (enters_of func202 (by rfl) rfl) (Lr E (ij E) t d)) ?_;refine la (iw E t _ _ (enters_of func203 (by rfl) rfl) (Kr E t d)) ?_;refine la (iw E t _ _ (enters_of func205 (by rfl) rfl) (PD E t d)) ?_;refine la (iw E t _ _ (enters_of func206 (by rfl) rfl) (nW E t d)) ?_;refine la (iw E t _ _ (enters_of func207 (by rfl) rfl) (Qs E t d)) ?_;refine la (iw E t _ _ (enters_of func208 (by rfl) rfl) (KI E (ij E) t d)) ?_;refine la (iw E t _ _ (enters_of func211 (by rfl) rfl) (TN E t)) ?_;refine la (iw E t _ _ (enters_of func124 (by rfl) rfl) (R8 E t)) ?_;refine la (iw E t _ _ (enters_of func217 (by rfl) rfl) (GQ E t)) ?_;refine la (iw E t _ _ (enters_of func126 (by rfl) rfl) (Jr E (ij E) t d)) ?_;refine la (iw E t _ _ (enters_of func143 (by rfl) rfl) (Qg E t d)) ?_;refine la (iw E t _ _ (enters_of func132 (by rfl) rfl) (Dl E t d)) ?_;refine la (iw E t _ _ (enters_of func146 (by rfl) rfl) (Iv E (ij E) t)) ?_;refine la (iw E t _ _ (enters_of func147 (by rfl) rfl) (Af E (ij E) t d)) ?_;refine la (iw E t _ _ (enters_of func148 (by rfl) rfl) (sQ E (ij E) t d)) ?_;refine la (iw E t _ _ (enters_of func149 (by rfl) rfl) (DY E (ij E) t d)) ?_;refine la (iw E t _ _ (enters_of func111 (by rfl) rfl) (by exact Gs E hi t d)) ?_;refine la (iw E t _ _ (enters_of func112 (by rfl) rfl) (by exact FH E hi t d)) ?_;refine la (iw E t _ _ (enters_of func201 (by rfl) rfl) (by exact GU E hi t d)) ?_;refine la (iw E t _ _ (enters_of func191 (by rfl) rfl) (by exact TA E t (λi=>aag E t d i))) ?_;refine la (iw E t _ _ (enters_of func192 (by rfl) rfl) (by exact Tj E t (λi=>aag E t d i))) ?_;refine la (iw E t _ _ (enters_of func101 (by rfl) rfl) (Ah E rec hA t d)) ?_;refine la (iw E t _ _ (enters_of func104 (by rfl) rfl) (Lg E rec hA t d)) ?_;refine la (iw E t _ _ (enters_of func108 (by rfl) rfl) (KQ E (ij E) rec hA t d)) ?_;refine la (iw E t _ _ (enters_of func114 (by rfl) rfl) (Cq E rec hA t d)) ?_;refine la (iw E t _ _ (enters_of func117 (by rfl) rfl) (KO E (ij E) rec hA t d)) ?_;refine la (iw E t _ _ (enters_of func116 (by rfl) rfl) (M9 E rec hA t d)) ?_;refine la (iw E t _ _ (enters_of func118 (by rfl) rfl) (Wc E rec hA t d)) ?_;refine la (iw E t _ _ (enters_of func210 (by rfl) rfl) (V1 E rec hA t d)) ?_;refine la (iw E t _ _ (enters_of func247 (by rfl) rfl) (NM E rec hA t d)) ?_;refine la (iw E t _ _ (enters_of func135 (by rfl) rfl) (Dv E rec hA t d)) ?_;refine la (iw E t _ _ (enters_of func125 (by rfl) rfl) (Lj E rec hA t d)) ?_
 by_cases e:f=133
 .rw[fU e];subst e;refine iw E t _ _ (enters_of func133 (by rfl) rfl) ?_
  by_cases j:wF t=true
  .rw[fU j];exact BE E rec hA t d (λa l=>by unfold wF at j;grind)
  .rw[gn j];exact λ_ _ _ _ h=>absurd rfl h
 rw[gn e];clear e
 by_cases e:f=136
 .rw[fU e];subst e;refine iw E t _ _ (enters_of func136 (by rfl) rfl) ?_
  (cases lk with
   |true=>exact λ_ _ _ _ h=>absurd rfl h
   |false=>exact TF E (hl rfl) t)
 rw[gn e];clear e
 by_cases e:f=137
 .rw[fU e];subst e;refine iw E t _ _ (enters_of func137 (by rfl) rfl) ?_
  (cases lk with
   |true=>exact λ_ _ _ _ h=>absurd rfl h
   |false=>exact IQ E (hl rfl) tN rec hAL hA t d)
 rw[gn e]
 grind[lN,stuck]
end
def qo:M (Nat×Nat):=λd=>match gU d.fQ 0 with
 |some i=>jf i d
 |none=> .stuck
def tw (d:Nat) (own:Bool) (t:fZ):M Unit:=
 if d=105/\own=true then nH lD t else
 if d=154/\own=true then nH qo t else
 if d=99/\own=false then nH (jf 0) t else
 stuck
def Lw {σ σ1 : Ab} {pl : Nat×Nat} (h:placeFor i σ= .ok pl σ1):σ1=σ:=by
 unfold placeFor at h;split at h
 .exact oN h
 .exact pn h
theorem qL (i:Nat) (σ:Ab) (c p:Nat):jf i σ≠ .stop c p:=by
 grind[jf]
theorem zY (i:Nat) (σ:Ab) (c p:Nat):mu i σ≠ .stop c p:=by
 intro h;unfold mu at h;split at h
 .split at h
  .grind
  .split at h
   .exact qL _ _ _ _ h
   grind
 grind
theorem wH (σ:Ab) (c p:Nat):jN σ≠ .stop c p:=by
 intro h;unfold jN at h;split at h
 .split at h
  .exact zY _ _ _ _ h
  .cases h
  .split at h
   .exact qL _ _ _ _ h
   grind
 grind
theorem Lf (E:Env):DO E 105 true lD where
 fp:=enters_of func105 (by rfl) rfl
 same:=by
  intro d l j h;unfold lD at h;split at h
  .exact Lw h
  grind
 M0:=by
  intro d c p h;unfold lD at h;split at h
  .unfold placeFor at h;split at h
   .exact wH _ _ _ h
   .exact qL _ _ _ _ h
  grind
 abI:=λf d w h e=>Hk E (ij E) f d w h e
def O4 (E:Env):DO E 99 false (jf 0) where
 fp:=enters_of func99 (by rfl) rfl
 same:=λ_ _ _ h=>pn h
 M0:=λd c p=>qL 0 d c p
 abI:=λf d w h e=>GG E 0 f d w h e
theorem Nx (E:Env):DO E 154 true qo where
 fp:=enters_of func154 (by rfl) rfl
 same:=by
  intro e l j h;unfold qo at h;split at h
  .exact pn h
  grind
 M0:=by
  intro e c p h;unfold qo at h;split at h
  .exact qL _ _ _ _ h
  grind
 abI:=by
  intro f e w h d;unfold qo at d|-;cases hq:gU e.fQ 0 with
  |none=>rw[hq]at d;exact absurd rfl d
  |some i=>
   rw[hq]at d;exact Qb E i h hq d
def aby (E:Env) (j:Nat) (own:Bool) (t:fZ):lN E (.gm j own) t (tw j own t):=by
 have d:∀l,DO E j own l->lN E (.gm j own) t (nH l t):=by
  intro l o v f u w h q p;have⟨b1,e,hb⟩:=q;exact⟨_,_,_,e,enters_of func174 (by rfl) rfl,R5 E j own l o t b1 h p hb⟩
 unfold tw;split
 .rename_i e;have⟨e1,e2⟩:=e;subst e1;subst e2;exact d _ (Lf E)
 split
 .rename_i e;have⟨e1,e2⟩:=e;subst e1;subst e2;exact d _ (Nx E)
 split
 .rename_i e;have⟨e1,e2⟩:=e;subst e1;subst e2;exact d _ (O4 E)
 exact y9 E _ t
def nD (lk:Bool) (tN rec:Nat->fZ->M Unit):Ru->fZ->M Unit
 | .nil,_=>stuck
 | .nothing,_=>Pure.pure ()
 | .gz f,t=>RA lk tN rec t f
 | .nJ m,t=>if 0<=m then rec m.toNat t else stuck
 | .gm pf own,t=>tw pf own t
 | .ahead f,t=>match DZ f with
  |some b=>x9 rec b t
  |none=>stuck
 | .ends f,_=>match DZ f with
  |some b=>Ef b
  |none=>stuck
 | .GZ r,t=>KJ (nD lk tN rec r t) t
 | .po ks m,t=>if 0<=m then uC ks m.toNat t else stuck
 | .mh ks name m,t=>if 0<=m then tm rec ks name m.toNat t else stuck
 | .item ks,t=>GB ks t
section
variable (E:Env) (lk:Bool) (hl:lk=false->E.wv=none) (hi:E.Gv=7) (tN rec:Nat->fZ->M Unit)
variable (hAL:∀v ws (m:Nat) (t:fZ),iL E t->iG (E.lock v ws) 171 (λ_=>#[Bp E,.int .i64 (m:Int),hH E t]) (tN m t) uV)
variable (hA:∀(m:Nat) (t:fZ),iL E t->iG E 171 (λ_=>#[Bp E,.int .i64 (m:Int),hH E t]) (rec m t) uV)
include hl hi hAL hA
def QN (t:fZ) (l:iL E t):∀r,lN E r t (nD lk tN rec r t)
 | .nil=>y9 E _ t
 | .nothing=>VR E t
 | .gz f=>ab2 E lk hl hi tN rec hAL hA f t l
 | .nJ m=>by
  show lN E (.nJ m) t (if 0<=m then rec m.toNat t else stuck);split
  .rename_i o;intro v f p w h j d;have⟨b1,b2,e,hb1,hb2⟩:=j;have q:m=((m.toNat:Nat):Int):=by omega
   rw[q]at hb2;exact⟨_,_,_,e,enters_of func180 (by rfl) rfl,abk E rec hA t l m.toNat b1 b2 h d hb1 hb2⟩
  .exact y9 E _ t
 | .gm pf own=>aby E pf own t
 | .ahead k=>by
  show lN E (.ahead k) t (match DZ k with|some b=>x9 rec b t|none=>stuck)
  cases hb:DZ k with
  |none=>exact y9 E _ t
  |some b=>
   intro v f p w h j d;have⟨b1,b2,e,hb1,hb2⟩:=j;have⟨o,he⟩:=XY E hb;exact⟨_,_,_,e,enters_of func227 (by rfl) rfl,Ot E rec hA t l b k o he b1 b2 h d hb1 hb2⟩
 | .ends k=>by
  show lN E (.ends k) t (match DZ k with|some b=>Ef b|none=>stuck)
  cases hb:DZ k with
  |none=>exact y9 E _ t
  |some b=>
   intro v f p w h j d;have⟨b1,e,hb1⟩:=j;have⟨o,he⟩:=XY E hb;exact⟨_,_,_,e,enters_of func232 (by rfl) rfl,acx E t b k o he b1 h d hb1⟩
 | .GZ r=>by
  intro v f p w h j d;have⟨b1,b2,u,e,hb1,hb2,hu⟩:=j;exact⟨_,_,_,e,enters_of func237 (by rfl) rfl,OB E t r _ (QN t l r) b1 b2 u h d hb1 hb2 hu⟩
 | .po ks m=>by
  show lN E (.po ks m) t (if 0<=m then uC ks m.toNat t else stuck);split
  .rename_i o;intro v f p w h j d;have⟨b1,b2,b3,u,e,hb1,hb2,ha,hb3⟩:=j;have q:m=((m.toNat:Nat):Int):=by omega
   rw[q]at hb3;obtain⟨k,x,rfl,_,_⟩:=ha.call;exact⟨_,_,_,e,enters_of func224 (by rfl) rfl,F8 E t l ks m.toNat b1 b2 b3 k x h d hb1 hb2 ha hb3⟩
  .exact y9 E _ t
 | .mh ks name m=>by
  show lN E (.mh ks name m) t (if 0<=m then tm rec ks name m.toNat t else stuck);split
  .rename_i o;intro v f p w h j d;have⟨b1,b2,b3,b4,u,e,hb1,hb2,ha,hb3,hb4⟩:=j;have q:m=((m.toNat:Nat):Int):=by omega
   rw[q]at hb4;obtain⟨k,x,rfl,_,_⟩:=ha.call;exact⟨_,_,_,e,enters_of func226 (by rfl) rfl,by first|exact DP E rec hA t l ks name m.toNat b1 b2 b3 b4 k x h d hb1 hb2 ha hb3 hb4|exact DP E rec hA t l ks name m.toNat b1 b2 b3 b4 k x h d hb1 hb2 hb3 hb4 ha⟩
  .exact y9 E _ t
 | .item ks=>by
  intro v f p w h j d;have⟨b1,b2,b3,u1,u2,e,hb1,hb2,ha1,hb3,ha2⟩:=j;obtain⟨A,y,rfl,_,_⟩:=ha1.call;obtain⟨B,z,rfl,_,_⟩:=ha2.call;exact⟨_,_,_,e,enters_of func281 (by rfl) rfl,M2 E t l ks b1 b2 b3 A B y z h d hb1 hb2 ha1 hb3 ha2⟩
end
def gD:Bool->Nat->Nat->fZ->M Unit
 |_,0,_,_=>stuck
 |lk,n+1,m,t=>match t.k with
  | .lost=>stuck
  |_=>cY (nD lk (gD true n) (gD lk n)) m t
theorem aef (E:Env) (G:∃x m c,E.tv= .slice x m c) (t:fZ) (h:t.k≠ .lost):ac7 E t:=by
 have⟨a,b,k,fX⟩:=t;cases k with
 |jq s=>exact λd e l o p u y z A B C D F w j=>abx E d e a b s fX l o p u y z A B C D F w j
 |il=>exact λd e l o p u y z A B C D F w j=>S3 E d e a b fX l o p u y z A B C D F w j
 |start n=>exact λd e l o p u y z A B C D F w j=>ZP E d e a b n fX l o p u y z A B C D F w j G
 |stop n=>exact λd e l o p u y z A B C D F w j=>abC E d e a b n fX l o p u y z A B C D F w j G
 |gm s=>exact λd e l o p u y z A B C D F w j=>Tg E d e a b s fX l o p u y z A B C D F w j
 |gP n q=>exact λd e l o p u y z A B C D F w j=>Sr E d e a b n q fX l o p u y z A B C D F w j
 |lost=>grind
def I8 (lk:Bool) (n m:Nat) (t:fZ) (h:t.k≠ .lost):gD lk (n+1) m t=cY (nD lk (gD true n) (gD lk n)) m t:=by
 simp[gD]
def Og:∀(n:Nat) (lk:Bool) (E:Env),(lk=false->E.wv=none)->E.Gv=7->(∃x m c,E.tv= .slice x m c)->∀(m:Nat) (t:fZ),iL E t->iG E 171 (λ_=>#[Bp E,fK m,hH E t]) (gD lk n m t) uV
 |0,_,_,_,_,_,_,_,_=>λ_ _ _ _ j=>absurd rfl j
 |n+1,lk,E,hl,hi,htv,m,t,l=>by
  by_cases d:t.k= .lost
  .have e:gD lk (n+1) m t=stuck:=by
    have⟨a,b,k,fX⟩:=t;cases d;rfl
   rw[e];exact λ_ _ _ _ j=>absurd rfl j
  .rw[I8 lk n m t d];exact Zd E _ t (aef E htv t d) (λr=>QN E lk hl hi (gD true n) (gD lk n) (λv ws m t l=>Og n true (E.lock v ws) (λh=>by cases h) hi htv m t l) (Og n lk E hl hi htv) t l r) m
def VP (E:Env) (rec:Nat->fZ->M Unit) (a b:Nat) (fX:kZ):iG E 57 (λ_=>#[Bp E,hH E ⟨a,b,.lost,fX⟩]) (ql rec ⟨a,b,.lost,fX⟩) uV:=by
 intro f j w h l;have e:ql rec ⟨a,b,.lost,fX⟩ j= .ok () j:=rfl;rw[e];simp only[hH];have d:=qG underlying190;have H:=fx ((At.start h).k0 ((Kept.refl [] w).alloc (fV #[fK a,fK b] 190)));clear h l e;go_enter func57,ntmps57;go_wp2;go_end0;exact fL rfl H.out rfl
section
variable (lk:Bool) (tN rec:Nat->fZ->M Unit) (t:fZ)
end
def Zb (E:Env) (hl:E.wv=none) (hi:E.Gv=7) (e:∃x m c,E.tv= .slice x m c) (n:Nat) (t:fZ) (d:iL E t):iG E 57 (λ_=>#[Bp E,hH E t]) (ql (gD false n) t) uV:=by
 have hA:=Og n false E (λ_=>hl) hi e;have⟨a,b,k,fX⟩:=t;cases k with
 |jq s=>exact yB E _ hA _ d nofun rfl (by decide) λw=>by kernel_rfl
 |start s=>exact yB E _ hA _ d nofun rfl (by decide) λw=>by generalize E.tv=x;kernel_rfl
 |stop s=>exact yB E _ hA _ d nofun rfl (by decide) λw=>by generalize E.tv=x;kernel_rfl
 |gm s=>exact yB E _ hA _ d nofun rfl (by decide) λw=>by kernel_rfl
 |gP s q=>exact yB E _ hA _ d nofun rfl (by decide) λw=>by kernel_rfl
 |lost=>exact VP E _ a b fX
 |il=>exact yB E _ hA _ d nofun rfl (by decide) λw=>by kernel_rfl
def zg (r:Nat) (s:fN) (w:fO) (l:s.size<=1048576) (p:Gl w r):
  Calls prog 257 #[fR s] w λe w'=>e=gO (fR (nF (small s)))/\Kept [] w w':=by
 have o:=p;go_enter func257,ntmps257
 go_wp21
 refine(vS s w l).mono ?_;rintro e q ⟨rfl,j⟩;have C:=yH r (small s) q (by rw[sB];exact l) (o.kept (j.mono (by simp)))
 go_wp21
 refine C.mono ?_;rintro e u ⟨rfl,h⟩;have d:=j.trans h;go_wp2;go_ret;exact⟨rfl,d⟩
theorem y7 (r:Nat) (R:RC) (bg ps:Nat) (s:fN) (w:fO) (h:Rd w r R bg ps) (o:ps<=R.cs.size) (p:R.cs.size<=1024):
  Calls prog 258 #[fW r,.func (.func 260) #[] #[fW w.heap.size]] (w.alloc (.cells #[fR s] 9))
   λe w'=>e=gO (fR (R.cs.extract ps (scan (iV s) R.cs ps)))/\Kept [r] w w'/\Rd w' r R bg (scan (iV s) R.cs ps):=by
 have q:=iB h;have k:Kept [] w (w.alloc (.cells #[fR s] 9)):=(Kept.refl _ _).alloc _;have b:=fB w (.cells #[fR s] 9);refine(Qp r R bg ps _ _ _ _ (k.at h (by simp)) o p (Dm _ [r] w.heap.size s (by simp) (by simp) (by grind))).mono ?_;rintro e w' ⟨d,j,l⟩;exact⟨d,(k.mono (by simp)).trans j,l⟩
def Hs (r:Nat) (R:RC) (bg ps:Nat) (k:Nat) (d:jB) (q:Int->Bool) (w:fO) (h:Rd w r R bg ps) (I:ps<=R.cs.size) (J:R.cs.size<=1024) (F:Vm w [r] k d q):
  Calls prog 161 #[fW r,.func (.func k) #[] d] w λe w'=>e=gO (.bool (decide (ps < R.cs.size)&&q (bt R.cs ps)))/\∃n,w'=w.drewN n:=by
 have u:=F;have t:=h.text;have p:=h.ps;have H:=h;have o:=get_bt R.cs;have x:=u.fp;have C:=(λw' (h:Rd w' r R bg ps)=>oQ r R bg ps w' h)
 by_cases e:ps=R.cs.size
 .have l:decide (ps=R.cs.size)=true:=by simp[e]
  rw[l]at C;go_enter func161,ntmps161
  go_wp21
  go_quiet ((go_at_call 87;refine xS (C _ ?_);exact H))
  go_wp2;go_ret;exact⟨by simp[e],⟨_,rfl⟩⟩
 .have j:ps < R.cs.size:=by omega
  have l:decide (ps=R.cs.size)=false:=by simp[e]
  rw[l]at C;have G:=o ps j;have A:=bt_nonneg R.cs ps;have B:=bt_le R.cs ps;have D:=(λw' h=>u.ask (bt R.cs ps) w' A B h);have z:(decide (ps < R.cs.size)&&q (bt R.cs ps))=q (bt R.cs ps):=by simp[j]
  rw[z];have y:Hid (∀n,Kept [r] w (w.drewN n)):=λn=>(Kept.refl _ _).drewN n;cases hqv:q (bt R.cs ps)
  all_goals
   rw[hqv]at D;go_enter func161,ntmps161
   go_wp21
   go_quiet (first|(go_at_call 87;refine xS (C _ ?_);exact H)|(refine xS (D _ ?_);exact y _))
   go_wp2;go_ret;exact⟨rfl,⟨_,rfl⟩⟩
def vy (R:RC) (s:fN) (ps:Nat):Bool:=decide (s.size<=R.cs.size - ps)&&((small ((R.cs.extract ps R.cs.size).extract 0 s.size)).toList==s.toList)
theorem Yt (t:fN) (n:Nat) (h:n<=t.size):pre t (t.extract 0 n)=true:=by
 have e:(t.extract 0 n).size=n:=by simp;omega
 grind[pre]
def xi (r:Nat) (R:RC) (bg ps:Nat) (s:fN) (w:fO) (h:Rd w r R bg ps) (G:ps<=R.cs.size) (I:R.cs.size<=1024) (L:s.size<=1024):
  Calls prog 166 #[fW r,fR s] w λe w'=>e=gO (.bool (vy R s ps))/\Kept [r] w w'/\Rd w' r R bg (if vy R s ps=true then ps+s.size else ps):=by
 have H:=h;obtain⟨t,x⟩:∃t,t=R.cs.extract ps R.cs.size:=⟨_,rfl⟩;have o:t.size=R.cs.size - ps:=by rw[x];simp
 have j:=wm r R bg ps w H G I;rw[<-x]at j;have p:=fx x;clear x
 by_cases e1:s.size<=t.size
 .have K:(t.extract 0 s.size).size=s.size:=by simp;omega
  cases e2:((small (t.extract 0 s.size)).toList==s.toList)
  .have B:vy R s ps=false:=by unfold vy;rw[<-p.out,e2];simp
   rw[B];go_enter func166,ntmps166
   go_wp21
   refine j.mono ?_;rintro e J ⟨rfl,q,rfl⟩
   go_wp21
   refine(vS _ _ (by omega)).mono ?_;rintro e F ⟨rfl,d⟩;generalize small (t.extract 0 s.size)=u at *;go_wp2;go_ret;exact⟨rfl,((Kept.refl [r] w).drewN q).trans (d.mono (by simp)),d.at (show Rd (w.drewN q) r R bg ps from H) (by simp)⟩
  .have B:vy R s ps=true:=by unfold vy;rw[<-p.out,e2,<-o];simp[e1]
   rw[B];go_enter func166,ntmps166
   go_wp21
   refine j.mono ?_;rintro e J ⟨rfl,q,rfl⟩
   go_wp21
   refine(vS _ _ (by omega)).mono ?_;rintro e F ⟨rfl,d⟩;have C:Rd F r R bg ps:=d.at (show Rd (w.drewN q) r R bg ps from H) (by simp);have A:=jb r R bg ps (t.extract 0 s.size) F C G I (by omega);have l:=Yt t s.size e1;rw[<-p.out,l]at A;have D:taken R (t.extract 0 s.size) ps=ps+s.size:=by unfold taken;rw[<-p.out,fU l,K]
   rw[D]at A;generalize small (t.extract 0 s.size)=u at *
   go_wp21
   refine A.mono ?_;rintro e O ⟨rfl,y,z⟩;go_wp2;go_ret;exact⟨rfl,(((Kept.refl [r] w).drewN q).trans (d.mono (by simp))).trans y,z⟩
 .have N:vy R s ps=false:=by unfold vy;rw[<-o];simp[e1]
  rw[N];go_enter func166,ntmps166
  go_wp21
  refine j.mono ?_;rintro e J ⟨rfl,q,rfl⟩;go_wp2;go_ret;exact⟨rfl,((Kept.refl [r] w).drewN q),H⟩
def jU (R:RC) (ps:Nat):Nat:=scan (iV pu) R.cs (ps+1)
def DN (r:Nat) (R:RC) (bg ps:Nat) (w:fO) (h:Rd w r R bg ps) (O:ps < R.cs.size) (N:R.cs.size<=1024) (G:Gl w r):
  Calls prog 337 #[fW r] w λe w'=>e=gO (fR (nF (small (R.cs.extract ps (jU R ps)))))/\Kept [r] w w'/\Rd w' r R bg (jU R ps):=by
 have p:=h.ps;have J:=h.free 3;have H:=G;have x:=h.Mi (ps+1);have o:=(Kept.refl [r] w).setCell (p:=⟨r,3,none⟩) (.inl (by simp)) (fK ((ps+1:Nat)));clear h G;obtain⟨A,l⟩:∃A,A=w.setCell ⟨r,3,none⟩ (fK ((ps+1:Nat))):=⟨_,rfl⟩;rw[<-l]at x o;have d:w.setCell ⟨r,3,none⟩ (fK ((ps:Int)+1))=A:=by rw[l];congr 1
 have F:=fx d;clear l d;have C:=y7 r R bg (ps+1) pu A x (by omega) N;rw[show scan (iV pu) R.cs (ps+1)=jU R ps from rfl]at C;have L:jU R ps<=R.cs.size:=pt (by omega);have K:ps+1<=jU R ps:=sZ;generalize jU R ps=n at *;go_enter func337,ntmps337
 go_wp21
 rw[F.out];clear p J;refine(nQ _ A).mono ?_;rintro e w' ⟨rfl,rfl⟩
 go_wp21
 refine C.mono ?_;rintro e B ⟨rfl,y,j⟩;have Q:=j.text;have P:=j.ps;have u:=o.trans y;have D:=(λq=>zg r (R.cs.extract ps n) (B.drewN q) (by simp;omega) (show Gl (B.drewN q) r from H.kept (u.drewN q)));clear y C;generalize hm:nF (small (R.cs.extract ps n))=m at D|-;have I:=fx hm;clear hm
 go_wp21
 go_region_with (refine(D _).mono ?_;rintro e S ⟨rfl,z⟩)
 all_goals (try go_wp2)
 all_goals
  (go_ret
   exact⟨by rw[I.out];rfl,u.trans (((Kept.refl [r] B).drewN 1).trans (z.mono (by simp))),z.at (show Rd (B.drewN 1) r R bg n from j) (by simp)⟩)
def toList_eq {a b : fN} (h:a.toList=b.toList):a=b:=by
 rw[sH,sH]at h;exact kI (Array.toList_inj.1 h)
def Nt {j : Nat} (h:a+j < b) (e:b<=s.size):bt (s.extract a b) j=bt s (a+j):=by
 have d:j < (s.extract a b).size:=by simp;omega
 unfold bt;rw[wQ d,wQ (by omega)];rw[ByteArray.getElem_extract]
def Fw {p : fN} {j : Nat} (h:pre (s.extract ps s.size) p=true) (o:j < p.size):bt s (ps+j)=bt p j:=by
 have d:=Fa h;unfold pre at h;simp only[rl,Bh,beq_iff_eq]at h;have e:=toList_eq h.2;have q:ps+j < s.size:=by simp at d;omega
 have l:=Nt (s:=s.extract ps s.size) (a:=0) (b:=p.size) (j:=j) (by omega) d;rw[e,Nat.zero_add,Nt (by omega) (gr _)]at l;omega
def pF (R:RC) (ps:Nat):Nat:=taken R ir (scan (iV ir) R.cs ps)
def Ip (h:ps<=R.cs.size):pF R ps<=R.cs.size:=Qn (pt h)
def Yc:ps<=pF R ps:=jC sZ OW
def uu (r:Nat) (R:RC) (bg ps g p:Nat) (d:Nat->Nat) (w:fO) (h:Rd w r R bg ps) (hA:Lz w r R g p d) (Q:Gl w r) (S:bg<=R.cs.size) (J:ps<=R.cs.size) (K:R.cs.size<=1024):
  Calls prog 169 #[fW r] w λe w'=>e=gO (.iface 198 (.agg #[fK (d bg),fK (d (pF R ps)),fR (nF (R.cs.extract ps (scan (iV ir) R.cs ps)))]))/\Kept [r] w w'/\Rd w' r R bg (pF R ps):=by
 have C:=y7 r R bg ps ir w h J K;have O:=hA;have P:=Q;have I:scan (iV ir) R.cs ps<=R.cs.size:=pt J;have D:=(λ(L:fO) (U:Rd L r R bg (scan (iV ir) R.cs ps))=>jb r R bg _ ir L U I K (by decide));rw[show taken R ir (scan (iV ir) R.cs ps)=pF R ps from rfl]at D;have x:pF R ps<=R.cs.size:=Ip J;generalize pF R ps=m at *;generalize scan (iV ir) R.cs ps=n at *;go_enter func169,ntmps169
 go_wp21
 refine(nQ _ w).mono ?_;rintro e w' ⟨rfl,rfl⟩
 go_wp21
 refine C.mono ?_;rintro e L ⟨rfl,y,A⟩
 go_wp21
 refine(D _ A).mono ?_;rintro e V ⟨rfl,H,o⟩;have j:=y.trans H;have E:=pN r R bg m g p d V o (O.kept j) S x K
 go_wp21
 refine E.mono ?_;rintro e N ⟨rfl,q⟩;have l:=j.trans (q.mono (by simp));have B:Hid (Rd N r R bg m):=o.kept q (by simp);have F:=yH r (R.cs.extract ps n) N (by simp;omega) (P.kept l)
 go_wp21
 refine F.mono ?_;rintro e X ⟨rfl,u⟩;have z:=l.trans (u.mono (by simp));have G:Hid (Rd X r R bg m):=B.kept u (by simp);go_wp2;go_ret;exact⟨rfl,z,G⟩
def zq (s:fN):fN:=
 if Lib.hasSuffix s.data.toList [45,45,33]then ⟨(Lib.trimSuffix s.data.toList [45,45,33]).toArray⟩
 else if Lib.hasSuffix s.data.toList [45,45]then ⟨(Lib.trimSuffix s.data.toList [45,45]).toArray⟩
 else if Lib.hasSuffix s.data.toList [45]then ⟨(Lib.trimSuffix s.data.toList [45]).toArray⟩else s
def SM (s:fN) (w:fO) (u:s.size<=1048576):
  Calls prog 303 #[fR s] w λe w'=>e=gO (fR (zq s))/\Kept [] w w':=by
 have d:=(λw=>Tryz.strings_CutSuffix s ⟨#[45,45,33]⟩ w (by omega));have h:=(λw=>Tryz.strings_CutSuffix s ⟨#[45,45]⟩ w (by omega));have j:=(λw=>Tryz.strings_CutSuffix s ⟨#[45]⟩ w (by omega));have l:Hid (Kept [] w (w.alloc (.cells #[fR ⟨#[45,45,33]⟩,fR ⟨#[45,45]⟩,fR ⟨#[45]⟩] 9))):=(Kept.refl _ _).alloc _;unfold zq;simp only at d h j;cases h1:Lib.hasSuffix s.data.toList [45,45,33]
 .rw[h1]at d;cases h2:Lib.hasSuffix s.data.toList [45,45]
  .rw[h2]at h;cases h3:Lib.hasSuffix s.data.toList [45]
   .rw[h3]at j;simp only[rL,↓reduceIte];generalize Lib.trimSuffix s.data.toList [45,45,33]=o at *;generalize Lib.trimSuffix s.data.toList [45,45]=p at *;generalize Lib.trimSuffix s.data.toList [45]=q at *;go_enter func303,ntmps303
    go_wp21
    refine vB 4 ?_;rw[oj]
    go_wp21
    refine(d _).mono ?_;rintro e w' ⟨rfl,rfl⟩
    go_wp21
    rw[oj]
    go_wp21
    refine(h _).mono ?_;rintro e w' ⟨rfl,rfl⟩
    go_wp21
    rw[oj]
    go_wp21
    refine(j _).mono ?_;rintro e w' ⟨rfl,rfl⟩
    go_wp21
    rw[oj];go_wp2;go_ret;exact⟨rfl,l⟩
   .rw[h3]at j;simp only[rL,↓reduceIte];generalize Lib.trimSuffix s.data.toList [45,45,33]=o at *;generalize Lib.trimSuffix s.data.toList [45,45]=p at *;generalize Lib.trimSuffix s.data.toList [45]=q at *;go_enter func303,ntmps303
    go_wp21
    refine vB 4 ?_;rw[oj]
    go_wp21
    refine(d _).mono ?_;rintro e w' ⟨rfl,rfl⟩
    go_wp21
    rw[oj]
    go_wp21
    refine(h _).mono ?_;rintro e w' ⟨rfl,rfl⟩
    go_wp21
    rw[oj]
    go_wp21
    refine(j _).mono ?_;rintro e w' ⟨rfl,rfl⟩;go_wp2;go_ret;exact⟨rfl,l⟩
  .rw[h2]at h;simp only[rL,↓reduceIte];generalize Lib.trimSuffix s.data.toList [45,45,33]=o at *;generalize Lib.trimSuffix s.data.toList [45,45]=p at *;go_enter func303,ntmps303
   go_wp21
   refine vB 4 ?_;rw[oj]
   go_wp21
   refine(d _).mono ?_;rintro e w' ⟨rfl,rfl⟩
   go_wp21
   rw[oj]
   go_wp21
   refine(h _).mono ?_;rintro e w' ⟨rfl,rfl⟩;go_wp2;go_ret;exact⟨rfl,l⟩
 .rw[h1]at d;simp only[↓reduceIte];generalize Lib.trimSuffix s.data.toList [45,45,33]=o at *;go_enter func303,ntmps303
  go_wp21
  refine vB 4 ?_;rw[oj]
  go_wp21
  refine(d _).mono ?_;rintro e w' ⟨rfl,rfl⟩;go_wp2;go_ret;exact⟨rfl,l⟩
def e1:fN:=nT
def e2:fN:=⟨#[45,45,33,62]⟩
def tF (R:RC) (i:Nat):Nat:=
 if i < R.cs.size then (if pre (R.cs.extract i R.cs.size) e1=true then i+3 else if pre (R.cs.extract i R.cs.size) e2=true then i+4 else tF R (i+1))else i
  termination_by R.cs.size - i
def pG (R:RC) (a i:Nat):fN:=
 if i < R.cs.size then (if pre (R.cs.extract i R.cs.size) e1=true then R.cs.extract a i else if pre (R.cs.extract i R.cs.size) e2=true then R.cs.extract a i else pG R a (i+1))else zq (R.cs.extract a R.cs.size)
  termination_by R.cs.size - i
def acs:i<=tF R i:=by
 fun_induction tF R i<;>omega
def abM (h:i<=R.cs.size):tF R i<=R.cs.size:=by
 fun_induction tF R i with
 |case1 i h1 h2=>exact kQ (p:=e1) h2 h
 |case2 i h1 h2 h3=>exact kQ (p:=e2) h3 h
 |case3 i h1 h2 h3 ih=>omega
 |case4=>exact h
def VC (h:i<=R.cs.size):tF R i=R.cs.size\/(i < tF R i/\bt R.cs (tF R i - 1)=62):=by
 fun_induction tF R i with
 |case1 i h1 h2=>right;exact⟨by omega,Fw (p:=e1) (j:=2) h2 (by decide)⟩
 |case2 i h1 h2 h3=>right;exact⟨by omega,Fw (p:=e2) (j:=3) h3 (by decide)⟩
 |case3 i h1 h2 h3 ih=>omega
 |case4 i h1=>omega
theorem afi (h:i < R.cs.size) (d:pre (R.cs.extract i R.cs.size) e1=true):tF R i=i+3:=by grind[tF]
theorem afO (h:i < R.cs.size) (d:pre (R.cs.extract i R.cs.size) e1=false) (e:pre (R.cs.extract i R.cs.size) e2=true):tF R i=i+4:=by grind[tF]
theorem afb (h:i < R.cs.size) (d:pre (R.cs.extract i R.cs.size) e1=false) (e:pre (R.cs.extract i R.cs.size) e2=false):tF R i=tF R (i+1):=by grind[tF]
theorem adV (h:i < R.cs.size) (d:pre (R.cs.extract i R.cs.size) e1=true):pG R a i=R.cs.extract a i:=by grind[pG]
theorem ad8 (h:i < R.cs.size) (d:pre (R.cs.extract i R.cs.size) e1=false) (e:pre (R.cs.extract i R.cs.size) e2=true):pG R a i=R.cs.extract a i:=by grind[pG]
theorem aei (h:i < R.cs.size) (d:pre (R.cs.extract i R.cs.size) e1=false) (e:pre (R.cs.extract i R.cs.size) e2=false):pG R a i=pG R a (i+1):=by grind[pG]
def CQ (r:Nat) (R:RC) (bg ps:Nat) (w:fO) (h:Rd w r R bg ps) (hp:ps<=R.cs.size) (X:R.cs.size<=1024):
  Calls prog 255 #[fW r] w λe w'=>e=gO (fR (pG R ps ps))/\Kept [r] w w'/\Rd w' r R bg (tF R ps):=by
 have p0:=h.ps;have H:=h;obtain⟨ce,S⟩:∃x,x=tF R ps:=⟨_,rfl⟩;obtain⟨V,U⟩:∃x,x=pG R ps ps:=⟨_,rfl⟩;rw[<-S,<-U];go_enter func255,ntmps255
 go_wp21
 go_loopw [] (λwr=>∃i:Nat,ps<=i/\i<=R.cs.size/\tF R i=ce/\pG R ps i=V/\Rd wr r R bg i/\Kept [r] w wr) (λwr=>R.cs.size - (match wr.cell? ⟨r,3,none⟩with|some v=>(intOf v).toNat|none=>0))
 case atStart=>exact⟨ps,gr _,hp,S.symm,U.symm,H,Kept.refl _ _⟩
 case round=>
  have⟨i,hi0,hi1,hcc,hcx,HR,HKW⟩:=hrel;have F:=fx hcc;have G:=fx hcx;have t:=HR.text;have p:=HR.ps;have fz:=HR.free 3;clear hcc hcx
  by_cases e:i=R.cs.size
  .have J:decide (i=R.cs.size)=true:=by simp[e]
   have C:=oQ r R bg i wr HR;rw[J]at C;have Y:V=zq (R.cs.extract ps R.cs.size):=by rw[<-G.out,pG,gn (by omega)]
   have Z:ce=i:=by rw[<-F.out,tF,gn (by omega)]
   have Hx:=fx Y;have Hy:=fx Z;clear Y Z;have a0:=e;have D:=(λw'=>SM (R.cs.extract ps R.cs.size) w' (by simp;omega))
   go_wp21
   refine C.mono ?_;rintro e P ⟨rfl,q,rfl⟩
   go_wp21
   refine(D _).mono ?_;rintro e Q ⟨rfl,j⟩;go_wp2;go_ret;exact⟨by rw[Hx.out];rfl,(HKW.drewN q).trans (j.mono (by simp)),by rw[Hy.out];exact j.at (show Rd (wr.drewN q) r R bg i from HR) (by simp)⟩
  .have l:i < R.cs.size:=by omega
   have J:decide (i=R.cs.size)=false:=by simp[e]
   have C:=oQ r R bg i wr HR;rw[J]at C;have y:=(λw' (h:Rd w' r R bg i)=>jb r R bg i e1 w' h hi1 X (by decide));have A:=(λw' (h:Rd w' r R bg i)=>jb r R bg i e2 w' h hi1 X (by decide));cases h1:pre (R.cs.extract i R.cs.size) e1
   .have N:taken R e1 i=i:=by unfold taken;rw[gn (by simp[h1])]
    rw[h1,N]at y;cases h2:pre (R.cs.extract i R.cs.size) e2
    .have O:taken R e2 i=i:=by unfold taken;rw[gn (by simp[h2])]
     rw[h2,O]at A;have HS:=fx (afb l h1 h2);have u:=fx (aei (a:=ps) l h1 h2);unfold e1 at y;unfold e2 at A
     go_wp21
     refine C.mono ?_;rintro e P ⟨rfl,q,rfl⟩
     go_wp21
     go_quiet (fail)
     go_wp21
     refine(y _ ?_).mono ?_
     .exact HR
     rintro e Q ⟨rfl,j,z⟩
     go_wp21
     refine(A _ z).mono ?_;rintro e w3 ⟨rfl,I,d⟩;have p3:=d.ps;have f3:=d.free 3;have B:=Rd.Mi d (i+1);have o:=((HKW.drewN (q+nq)).trans (j.trans I)).setCell (p:=⟨r,3,none⟩) (.inl (by simp)) (fK ((i+1:Nat)));go_wp2;go_roundw
     case rel=>exact⟨i+1,by omega,by omega,by rw[<-HS.out,F.out],by rw[<-u.out,G.out],B,o⟩
     case measure=>
      have m1:=B.ps;rw[show((i:Int)+1)=((i+1:Nat):Int)from by omega,m1,p];simp[intOf];omega
    .have O:taken R e2 i=i+4:=by unfold taken;rw[fU h2];rfl
     rw[h2,O]at A;have HS:=fx (afO l h1 h2);have u:=fx (ad8 (a:=ps) l h1 h2);unfold e1 at y;unfold e2 at A
     go_wp21
     refine C.mono ?_;rintro e P ⟨rfl,q,rfl⟩
     go_wp21
     go_quiet (fail)
     go_wp21
     refine(y _ ?_).mono ?_
     .exact HR
     rintro e Q ⟨rfl,j,z⟩
     go_wp21
     refine(A _ z).mono ?_;rintro e w3 ⟨rfl,L,d⟩;have o:=((HKW.drewN (q+nq)).trans (j.trans L));go_wp2;go_ret;exact⟨by rw[<-G.out,u.out];rfl,o,by rw[<-F.out,HS.out];exact d⟩
   .have N:taken R e1 i=i+3:=by unfold taken;rw[fU h1];rfl
    rw[h1,N]at y;have HS:=fx (afi l h1);have u:=fx (adV (a:=ps) l h1);unfold e1 at y
    go_wp21
    refine C.mono ?_;rintro e P ⟨rfl,q,rfl⟩
    go_wp21
    go_quiet (fail)
    go_wp21
    refine(y _ ?_).mono ?_
    .exact HR
    rintro e Q ⟨rfl,K,d⟩;have o:=((HKW.drewN (q+nq)).trans K);go_wp2;go_ret;exact⟨by rw[<-G.out,u.out];rfl,o,by rw[<-F.out,HS.out];exact d⟩
def mY (R:RC) (ps:Nat):Nat:=if pre (R.cs.extract ps R.cs.size) ir=true then ps+1 else if pre (R.cs.extract ps R.cs.size) yf=true then ps+2 else tF R ps
def nI (R:RC) (ps:Nat):fN:=if pre (R.cs.extract ps R.cs.size) ir=true then ⟨#[]⟩else if pre (R.cs.extract ps R.cs.size) yf=true then ⟨#[]⟩else pG R ps ps
def Md (h:ps<=R.cs.size):mY R ps<=R.cs.size:=by
 unfold mY;split
 .rename_i d;exact kQ d h
 .split
  .rename_i d;exact kQ d h
  .exact abM h
def Wj:ps<=mY R ps:=by
 unfold mY;split
 .omega
 .split
  .omega
  .exact acs
def Pv (h:ps<=R.cs.size):mY R ps=R.cs.size\/(ps < mY R ps/\bt R.cs (mY R ps - 1)=62):=by
 unfold mY;split
 .rename_i d;exact .inr ⟨by omega,Fw (j:=0) d (by decide)⟩
 .split
  .rename_i d;exact .inr ⟨by omega,Fw (j:=1) d (by decide)⟩
  .exact VC h
theorem Rt (s:fN):(zq s).size<=s.size:=by
 have h:∀p,(ByteArray.mk (Lib.trimSuffix s.data.toList p).toArray).size<=s.size:=by
  intro p;show(Lib.trimSuffix s.data.toList p).toArray.size<=s.data.size;unfold Lib.trimSuffix;split
  .simp
  .simp
 grind[zq]
def Tm:(pG R a i).size<=R.cs.size:=by
 fun_induction pG R a i with
 |case1=>simp;omega
 |case2=>simp;omega
 |case3=>omega
 |case4=>exact jC (Rt _) (by simp)
def Ny:(nI R ps).size<=R.cs.size:=by
 unfold nI;split
 .exact im _
 .split
  .exact im _
  .exact Tm
def Ld (r:Nat) (R:RC) (bg m g j:Nat) (d:Nat->Nat) (w p:fO) (hA:Lz w r R g j d) (B:Gl w r) (C:bg<=R.cs.size) (D:m<=R.cs.size) (F:R.cs.size<=1024) (y:Kept [r] w p) (q:Rd p r R bg m) (t:fN) (G:t.size<=1048576):
  (Calls prog 88 #[fW r] p λe o=>e=gO (.agg #[fK (d bg),fK (d m)])/\Kept [r] w o/\Rd o r R bg m/\
   Calls prog 158 #[fR t] o λe x=>e=gO (fR (nF t))/\Kept [r] w x/\Rd x r R bg m):=by
 refine(pN r R bg m g j d p q (hA.kept y) C D F).mono ?_;rintro e o ⟨z,h⟩;have u:=y.trans (h.mono (by simp));refine⟨z,u,q.kept h (by simp),?_⟩;refine(yH r t o G (B.kept u)).mono ?_;rintro e x ⟨A,l⟩;exact⟨A,u.trans (l.mono (by simp)),(q.kept h (by simp)).kept l (by simp)⟩
theorem PQ (r:Nat) (R:RC) (bg ps g G:Nat) (l:Nat->Nat) (w:fO) (h:Rd w r R bg ps) (hA:Lz w r R g G l) (U:Gl w r) (V:bg<=R.cs.size) (L:ps<=R.cs.size) (N:R.cs.size<=1024):
  Calls prog 165 #[fW r] w λe w'=>e=gO (.iface 198 (.agg #[fK (l bg),fK (l (mY R ps)),fR (nF (nI R ps))]))/\Kept [r] w w'/\Rd w' r R bg (mY R ps):=by
 have C:=jb r R bg ps ir w h L N (by decide);have D:=(λw' (h:Rd w' r R bg ps)=>jb r R bg ps yf w' h L N (by decide));have J:=(λw' (h:Rd w' r R bg ps)=>CQ r R bg ps w' h L N);have F:=(λo (X:Kept [r] w o) (Y:Rd o r R bg (mY R ps))=>Ld r R bg (mY R ps) g G l w o hA U V (Md L) N X Y (nI R ps) (jC Ny (by omega)));clear h hA U;cases h1:pre (R.cs.extract ps R.cs.size) ir
 .have B:taken R ir ps=ps:=by unfold taken;rw[gn (by simp[h1])]
  rw[h1,B]at C;cases h2:pre (R.cs.extract ps R.cs.size) yf;have I:taken R yf ps=ps:=by unfold taken;rw[gn (by simp[h2])]
  rw[h2,I]at D;have p:mY R ps=tF R ps:=by unfold mY;rw[gn (by simp[h1]),gn (by simp[h2])]
  have q:nI R ps=pG R ps ps:=by unfold nI;rw[gn (by simp[h1]),gn (by simp[h2])]
  rw[<-p,<-q]at J;clear h1 h2 B I p q;generalize mY R ps=m at *;generalize nI R ps=t at *;go_enter func165,ntmps165
  go_wp21
  refine C.mono ?_;rintro e Z ⟨rfl,x,y⟩
  go_wp21
  refine(D _ y).mono ?_;rintro e w2 ⟨rfl,H,Q⟩;have O:=x.trans H;clear H
  go_wp21
  refine(J _ Q).mono ?_;rintro e o ⟨rfl,d,j⟩;have K:=F o (O.trans d) j
  rotate_left
  have I:taken R yf ps=ps+2:=by unfold taken;rw[fU h2];rfl
  rw[h2,I]at D;have p:mY R ps=ps+2:=by unfold mY;rw[gn (by simp[h1]),fU h2]
  have q:nI R ps=⟨#[]⟩:=by unfold nI;rw[gn (by simp[h1]),fU h2]
  rw[p,q]at F|-;clear h1 h2 B I p q J;go_enter func165,ntmps165
  go_wp21
  refine C.mono ?_;rintro e Z ⟨rfl,x,y⟩
  go_wp21
  refine(D _ y).mono ?_;rintro e o ⟨rfl,d,j⟩;have K:=F o (x.trans d) j
  all_goals
   clear d j
   go_wp21
   refine K.mono ?_;rintro e w4 ⟨rfl,z,A,u⟩;clear z A
   go_wp21
   refine u.mono ?_;rintro e w5 ⟨rfl,P,S⟩;go_wp2;go_ret
   simp_all
 .have B:taken R ir ps=ps+1:=by unfold taken;rw[fU h1];rfl
  rw[h1,B]at C;have p:mY R ps=ps+1:=by unfold mY;rw[fU h1]
  have q:nI R ps=⟨#[]⟩:=by unfold nI;rw[fU h1]
  rw[p,q]at F|-;clear h1 B p q D J;go_enter func165,ntmps165
  go_wp21
  refine C.mono ?_;rintro e o ⟨rfl,d,j⟩;have K:=F o d j;clear d j
  go_wp21
  refine K.mono ?_;rintro e w4 ⟨rfl,z,A,u⟩;clear z A
  go_wp21
  refine u.mono ?_;rintro e w5 ⟨rfl,P,S⟩;go_wp2;go_ret
  simp_all
section
open Go.Shelf Go.Lib
def NV (s:fN):fN:=⟨(Lib.trimS s.data.toList [32,9,10,12]).toArray⟩
def Zz (s:fN) (w:fO) (l:s.size<=1048576):
  Calls prog 259 #[fR s,fR lZ] w λe w'=>e=gO (fR (NV s))/\Kept [] w w':=by
 have d:=Any.strings_Trim_laid Tryz.lays160 (by kernel_rfl) s lZ w (by omega) (by decide) (ascii_of_all (by decide));exact d.mono λe w' ⟨h,j⟩=>⟨h,Kept.Bv j⟩
def cg (R:RC) (ps:Nat):Nat:=scan (λc=>!iV lZ c) R.cs ps
def Fl (R:RC) (ps:Nat):Nat:=scan (iV lU) R.cs (cg R ps)
def aaq (h:ps<=R.cs.size):cg R ps<=R.cs.size:=pt h
def JP (h:ps<=R.cs.size):Fl R ps<=R.cs.size:=pt (aaq h)
def aep:ps<=Fl R ps:=jC sZ sZ
end
section
open Go.Shelf Go.Lib
def Pg (R:RC) (ps:Nat):fN:=nF (small (R.cs.extract (cg R ps) (Fl R ps)))
def dd (R:RC) (ps:Nat):Bool:=((Pg R ps).toList==[])||!((NV (R.cs.extract (Fl R ps) (scan (iV ir) R.cs (Fl R ps)))).toList==[])||!(pre (R.cs.extract (scan (iV ir) R.cs (Fl R ps)) R.cs.size) ir)
def La (r:Nat) (R:RC) (bg ps g y:Nat) (d:Nat->Nat) (w:fO) (h:Rd w r R bg ps) (hA:Lz w r R g y d) (hG:Gl w r) (hb:bg<=R.cs.size) (p:ps<=R.cs.size) (H:R.cs.size<=1024):
  Calls prog 167 #[fW r] w λe w'=>e=gO (.iface 200 (.agg #[fK (d bg),fK (d (pF R (Fl R ps))),fR (Pg R ps),.bool (dd R ps)]))/\Kept [r] w w'/\Rd w' r R bg (pF R (Fl R ps)):=by
 have z:Pg R ps=nF (small (R.cs.extract (cg R ps) (Fl R ps))):=rfl;have hQ:dd R ps=(((Pg R ps).toList==[])||!((NV (R.cs.extract (Fl R ps) (scan (iV ir) R.cs (Fl R ps)))).toList==[])||!(pre (R.cs.extract (scan (iV ir) R.cs (Fl R ps)) R.cs.size) ir)):=rfl;generalize dd R ps=qk at *;generalize Pg R ps=a3 at *;have J:=vG r R bg ps lZ w h p H;rw[show scan (λc=>!iV lZ c) R.cs ps=cg R ps from rfl]at J;have K:=(λ(w':fO) (h:Rd w' r R bg (cg R ps))=>y7 r R bg (cg R ps) lU w' h (aaq p) H);rw[show scan (iV lU) R.cs (cg R ps)=Fl R ps from rfl]at K;have C3:=(λ(w':fO) (h:Rd w' r R bg (Fl R ps))=>y7 r R bg (Fl R ps) ir w' h (JP p) H);have a2:scan (iV ir) R.cs (Fl R ps)<=R.cs.size:=pt (JP p);have D:=(λ(I:fO) (hr:Rd I r R bg (scan (iV ir) R.cs (Fl R ps)))=>jb r R bg _ ir I hr a2 H (by decide));rw[show taken R ir (scan (iV ir) R.cs (Fl R ps))=pF R (Fl R ps)from rfl]at D;have G:pF R (Fl R ps)<=R.cs.size:=Ip (JP p);have h3:Fl R ps<=R.cs.size:=JP p;have HA:=hA;have HG:=hG;clear h hA hG;generalize pF R (Fl R ps)=m at *;generalize scan (iV ir) R.cs (Fl R ps)=n at *;generalize Fl R ps=b at *;generalize cg R ps=a at *;go_enter func167,ntmps167
 go_wp21
 refine J.mono ?_;rintro e w1 ⟨rfl,O,V⟩;clear J
 go_wp21
 refine(nQ _ w1).mono ?_;rintro e w' ⟨rfl,rfl⟩
 go_wp21
 refine(K _ V).mono ?_;rintro e I ⟨rfl,A,X⟩;have q:=O.trans A;clear A K;have L:=zg r (R.cs.extract a b) I (by simp;omega) (HG.kept q);rw[<-z]at L;clear z
 go_wp21
 refine L.mono ?_;rintro e w3 ⟨rfl,j⟩;have P:=q.trans (j.mono (by simp));have Y:=X.kept j (by simp);clear j L
 go_wp21
 refine(nQ _ w3).mono ?_;rintro e w' ⟨rfl,rfl⟩
 go_wp21
 refine(C3 _ Y).mono ?_;rintro e w4 ⟨rfl,B,Z⟩;have Q:=P.trans B;clear B C3;have N:=Zz (R.cs.extract b n) w4 (by simp;omega);generalize NV (R.cs.extract b n)=mo at N hQ
 go_wp21
 refine N.mono ?_;rintro e w5 ⟨rfl,l⟩;have S:=Q.trans (l.mono (by simp));have a0:=Z.kept l (by simp);clear l N
 go_wp21
 refine(D _ a0).mono ?_;rintro e w6 ⟨rfl,C,x⟩;have u:=S.trans C;clear C D;have F:=pN r R bg m g y d w6 x (HA.kept u) hb G H;generalize pre (R.cs.extract n R.cs.size) ir=cl at *
 go_wp21
 refine F.mono ?_;rintro e w7 ⟨rfl,o⟩;have U:=u.trans (o.mono (by simp));have a1:=x.kept o (by simp);clear o F;have HQ:=fx hQ;clear hQ;cases h1:(a3.toList==[])<;>cases h2:(mo.toList==[])<;>cases cl
 all_goals go_wp2
 all_goals go_ret
 all_goals exact⟨by rw[HQ.out,h1,h2];rfl,U,a1⟩
end
section
open Go.Shelf Go.Lib
def ON (n:Int):Int:=if n=0\/(55296<=n/\n<=57343)\/n>=1114112 then 65533 else if n=128 then 8364 else if n=133 then 8230 else if n=145 then 8216 else if n=146 then 8217 else if n=147 then 8220 else if n=148 then 8221 else if n=150 then 8211 else if n=151 then 8212 else if n=153 then 8482 else n
def qP {x n : Int} (h:x=ON n):Ending.returned (.int .i32 x)=gO (.int .i32 (ON n)):=by rw[h]
theorem XR {n : Int} (x:¬n=0) (y:n < 55296) (d:(n==128)=false) (e:(n==133)=false) (h:(n==145)=false) (j:(n==146)=false) (l:(n==147)=false) (o:(n==148)=false) (p:(n==150)=false) (q:(n==151)=false) (u:(n==153)=false):ON n=n:=by
 grind[ON]
theorem Ku (n:Int) (w:fO) (j:0<=n) (l:n<=1114112):
  Calls prog 314 #[fK n] w λe w'=>e=gO (.int .i32 (ON n))/\w'=w:=by
 by_cases a:n=0
 .subst a;go_enter func314,ntmps314;go_wp2;go_ret;simp[ON]
 .by_cases b:55296<=n
  .by_cases d:n<=57343
   .go_enter func314,ntmps314;go_wp2;go_ret;exact⟨qP (by unfold ON;omega),rfl⟩
   .by_cases h:n>=1114112
    .go_enter func314,ntmps314;go_wp2;go_ret;exact⟨qP (by unfold ON;omega),rfl⟩
    .go_enter func314,ntmps314;go_wp2;go_ret;exact⟨qP (by grind[ON]),rfl⟩
  .go_enter func314,ntmps314;go_wp2
   all_goals
    (go_ret
     first
     |exact⟨qP (by rw[AL ‹(n==128)=true›];rfl),rfl⟩
     |exact⟨qP (by rw[AL ‹(n==133)=true›];rfl),rfl⟩
     |exact⟨qP (by rw[AL ‹(n==145)=true›];rfl),rfl⟩
     |exact⟨qP (by rw[AL ‹(n==146)=true›];rfl),rfl⟩
     |exact⟨qP (by rw[AL ‹(n==147)=true›];rfl),rfl⟩
     |exact⟨qP (by rw[AL ‹(n==148)=true›];rfl),rfl⟩
     |exact⟨qP (by rw[AL ‹(n==150)=true›];rfl),rfl⟩
     |exact⟨qP (by rw[AL ‹(n==151)=true›];rfl),rfl⟩
     |exact⟨qP (by rw[AL ‹(n==153)=true›];rfl),rfl⟩
     |exact⟨qP (XR a b ‹(n==128)=false› ‹(n==133)=false› ‹(n==145)=false› ‹(n==146)=false› ‹(n==147)=false› ‹(n==148)=false› ‹(n==150)=false› ‹(n==151)=false› ‹(n==153)=false›).symm,rfl⟩)
def kN (c:Int):Int:=if 48<=c/\c<=57 then c - 48 else if 97<=c/\c<=102 then c - 87 else if 65<=c/\c<=70 then c - 55 else 99
theorem Ec (c:Int):0<=kN c/\kN c<=99:=by grind[kN]
theorem Ju (c:Int) (w:fO) (j:0<=c) (l:c<=255):
  Calls prog 346 #[.int .u8 c] w λe w'=>e=gO (.bool (decide (48<=c/\c<=57)))/\w'=w:=by
 by_cases d:48<=c<;>by_cases h:c<=57
 all_goals first|(exfalso;omega)|skip
 all_goals (go_enter func346,ntmps346;go_wp2;go_ret;simp_all)
def VD (c:Int) (w:fO) (l:0<=c) (o:c<=255):
  Calls prog 313 #[.int .u8 c] w λe w'=>e=gO (fK (kN c))/\w'=w:=by
 have C:=Ju c w l o
 by_cases a:48<=c/\c<=57
 .rw[show decide (48<=c/\c<=57)=true from by simp[a]]at C;have e:kN c=c - 48:=by unfold kN;rw[fU a]
  rw[e];clear e;have⟨a1,a2⟩:=a;go_enter func313,ntmps313
  go_wp21
  refine C.mono ?_;rintro e w' ⟨rfl,rfl⟩;go_wp2;go_ret;simp
 .rw[show decide (48<=c/\c<=57)=false from by simp;omega]at C
  by_cases b:97<=c
  .by_cases h:c<=102
   have e:kN c=c - 97+10:=by unfold kN;rw[gn a,fU ⟨b,h⟩];omega
   rotate_left
   have e:kN c=99:=by unfold kN;rw[gn a,gn (by omega),gn (by omega)]
   all_goals
    rw[e];clear e a;go_enter func313,ntmps313
    go_wp21
    refine C.mono ?_;rintro e w' ⟨rfl,rfl⟩;go_wp2;go_ret;simp
  .by_cases d:65<=c
   .by_cases j:c<=70
    have e:kN c=c - 65+10:=by unfold kN;rw[gn a,gn (by omega),fU ⟨d,j⟩];omega
    rotate_left
    have e:kN c=99:=by unfold kN;rw[gn a,gn (by omega),gn (by omega)]
    all_goals
     rw[e];clear e a;go_enter func313,ntmps313
     go_wp21
     refine C.mono ?_;rintro e w' ⟨rfl,rfl⟩;go_wp2;go_ret;simp
   .have e:kN c=99:=by unfold kN;rw[gn a,gn (by omega),gn (by omega)]
    rw[e];clear e a;go_enter func313,ntmps313
    go_wp21
    refine C.mono ?_;rintro e w' ⟨rfl,rfl⟩;go_wp2;go_ret;simp
end
def wR (base:Int) (s:fN) (i:Nat):Nat:=scan (λc=>decide (kN c>=base)) s i
def oJ (base:Int) (s:fN) (f:Nat):Nat:=
 if wR base s f=f then 0 else if wR base s f < s.size/\bt s (wR base s f)=59 then wR base s f+1 else wR base s f
def LY (s:fN):Bool:=decide (2 < s.size/\(bt s 2=120\/bt s 2=88))
def uD (s:fN):Nat:=if LY s=true then oJ 16 s 3 else oJ 10 s 2
theorem Mq {base : Int} (h:f<=s.size):oJ base s f<=s.size:=by
 have:=pt (q:=λc=>decide (kN c>=base)) h;unfold oJ;grind[wR]
def Tr (h:2<=s.size):uD s<=s.size:=by
 unfold uD;split
 .rename_i d;unfold LY at d;simp at d;exact Mq (by omega)
 .exact Mq h
def wP (base:Int) (s:fN) (k:Int) (i:Nat):Int:=
 if i < s.size then (if kN (bt s i)>=base then k else wP base s (min (k*base+kN (bt s i)) 1114112) (i+1))else k
  termination_by s.size - i
def QQ {base : Int} {k : Int} (h:¬i < s.size):wP base s k i=k:=by rw[wP,gn h]
theorem MI {base : Int} {k : Int} (h:i < s.size) (d:kN (bt s i)>=base):wP base s k i=k:=by grind[wP]
theorem UF {base : Int} {k : Int} (h:i < s.size) (d:¬kN (bt s i)>=base):wP base s (min (k*base+kN (bt s i)) 1114112) (i+1)=wP base s k i:=by grind[wP]
def OA (base:Int) (s:fN) (f:Nat):fN:=if oJ base s f=0 then ⟨#[]⟩else Utf8.encode (ON (wP base s 0 f))
def uz (s:fN):fN:=if LY s=true then OA 16 s 3 else OA 10 s 2
def Oi (c:Int):(Utf8.encode c).size<=16:=by
 unfold Utf8.encode;dsimp only;generalize (if Utf8.valid c=true then c.toNat else Utf8.runeError)=k
 repeat' split
 all_goals first|(show 1<=16;omega)|(show 2<=16;omega)|(show 3<=16;omega)|(show 4<=16;omega)
def Lo (s:fN):(uz s).size<=16:=by
 unfold uz OA
 repeat' split
 all_goals first|exact Oi _|(show 0<=16;omega)
theorem qM {t e : fN} {d : Nat} {m : Int} (h:t=e) (j:n=d) (l:m=(d:Int)):Ending.returned (.tuple #[fR t,fK m])=gO (.tuple #[fR e,fK n]):=by grind
theorem IL (s:fN) (w:fO) (hs:s.size<=1048576) (h2:2<=s.size):
  Calls prog 262 #[fR s] w λe w'=>e=gO (.tuple #[fR (uz s),fK (uD s)])/\w'=w:=by
 have a0:=get_bt s;obtain⟨X,a1,a5⟩:∃X:Int->fN,(∀c,X c=Utf8.encode c)/\∀(c:Int) (w:fO),(convert 21 9 (.int .i32 c)).run prog w= .ok (fR (X c)) w:=⟨_,λ_=>rfl,λc w=>run_convert_int_string w 21 9 .i32 c (by simp) underlying9⟩;have J:=fx a1;clear a1;have D:=(λc (N:0<=c) (O:c<=255)=>VD c w N O);have G:=(λn (N:0<=n) (O:n<=1114112)=>Ku n w N O)
 by_cases V:LY s=true
 .have e:uD s=oJ 16 s 3:=by unfold uD;rw[fU V]
  have e':uz s=OA 16 s 3:=by unfold uz;rw[fU V]
  rw[e,e'];clear e e';unfold LY at V;have⟨U,L⟩:=of_decide_eq_true V;clear V;obtain⟨H,z⟩:∃x,x=oJ 16 s 3:=⟨_,rfl⟩;obtain⟨I,F⟩:∃x,x=OA 16 s 3:=⟨_,rfl⟩;have B:I=if H=0 then ⟨#[]⟩else Utf8.encode (ON (wP 16 s 0 3)):=by rw[F,z,OA]
  rw[<-z,<-F];have o:=fx z;have q:=fx B;clear z F B;rcases L with L|L
  all_goals
   go_enter func262,ntmps262
   go_wp21
   go_loopw [6,7] (λnv iv wr=>wr=w/\∃(k:Int) (i:Nat),nv=fK k/\iv=fK i/\0<=k/\k<=1114112/\3<=i/\i<=s.size/\wR 16 s i=wR 16 s 3/\wP 16 s k i=wP 16 s 0 3) (λ_ iv _=>s.size - (intOf iv).toNat)
   case atStart=>grind
   case round=>
    obtain⟨rfl,k,i,rfl,rfl,P,Q,a3,a4,hd,hv⟩:=hrel;have Y:=fx hd;have HV:=fx hv;clear hd hv
    by_cases l:i < s.size
    .have hb:=a0 i l;have N:=bt_nonneg s i;have O:=bt_le s i;have r:=Ec (bt s i);have C:=D (bt s i) N O
     by_cases K:kN (bt s i)>=16
     .have e1:wR 16 s i=i:=JD (by simpa using K);have e2:wR 16 s 3=i:=by rw[<-Y.out,e1]
      have y:wP 16 s 0 3=k:=by rw[<-HV.out,MI l K]
      by_cases A:i=3
      .have j:H=0:=by rw[o.out];unfold oJ;rw[e2,fU A]
       have p:=fx j;have u:=fx (show I=⟨#[]⟩ by rw[q.out,fU j]);clear e1 e2 j y;subst A
       go_wp21
       refine C.mono ?_;rintro e w' ⟨rfl,rfl⟩;go_wp2;go_ret2;exact⟨qM u.symm p rfl,rfl⟩
      .have Z:=G k P Q
       by_cases S:bt s i=59
       have j:H=i+1:=by rw[o.out];unfold oJ;rw[e2,gn A,fU ⟨l,S⟩]
       have p:=fx j;have u:=fx (show I=X (ON k) by rw[q.out,gn (by omega),y,J.out]);rw[S]at C hb N O r K;rw[show kN 59=99 from by decide]at C;clear e1 e2 j y r K N O
       rotate_left
       have j:H=i:=by rw[o.out];unfold oJ;rw[e2,gn A,gn (by omega)]
       have p:=fx j;have u:=fx (show I=X (ON k) by rw[q.out,gn (by omega),y,J.out]);clear e1 e2 j y
       all_goals
        go_wp21
        refine C.mono ?_;rintro e w' ⟨rfl,rfl⟩
        go_wp21
        refine Z.mono ?_;rintro e w' ⟨rfl,rfl⟩;go_wp2;go_ret2;exact⟨qM u.symm p rfl,rfl⟩
     .have e1:wR 16 s (i+1)=wR 16 s 3:=by rw[<-Y.out];exact(NI l (by simpa using K)).symm
      have HU:wP 16 s (min (k*16+kN (bt s i)) 1114112) (i+1)=wP 16 s 0 3:=by rw[UF l K,HV.out]
      have p:=fx e1;clear e1;generalize kN (bt s i)=d at *
      go_wp21
      refine C.mono ?_;rintro e w' ⟨rfl,rfl⟩;go_wp2
      all_goals (refine⟨⟨trivial,min (k*16+d) 1114112,i+1,?_,by go_num,by omega,by omega,by omega,by omega,p,HU⟩,?_⟩;(first|rfl|(congr 1;omega));(simp[intOf];omega))
    .have e1:wR 16 s i=i:=Ex (by omega);have e2:wR 16 s 3=i:=by rw[<-Y.out,e1]
     have y:wP 16 s 0 3=k:=by rw[<-HV.out,QQ l]
     have Z:=G k P Q;have e0:i=s.size:=by omega
     by_cases A:i=3
     .have j:H=0:=by rw[o.out];unfold oJ;rw[e2,fU A]
      have p:=fx j;have u:=fx (show I=⟨#[]⟩ by rw[q.out,fU j]);clear e1 e2 j y e0;subst A
      first
       |(exfalso;omega)
       |(go_wp2
         go_ret2;exact⟨qM u.symm p rfl,rfl⟩)
     .have j:H=i:=by rw[o.out];unfold oJ;rw[e2,gn A,gn (by omega)]
      have p:=fx j;have u:=fx (show I=X (ON k) by rw[q.out,gn (by omega),y,J.out]);clear e1 e2 j y e0
      go_wp21
      refine Z.mono ?_;rintro e w' ⟨rfl,rfl⟩;go_wp2;go_ret2;exact⟨qM u.symm p rfl,rfl⟩
 .have e:uD s=oJ 10 s 2:=by unfold uD;rw[gn V]
  have e':uz s=OA 10 s 2:=by unfold uz;rw[gn V]
  rw[e,e'];clear e e';have U:¬(2 < s.size/\(bt s 2=120\/bt s 2=88)):=by unfold LY at V;simpa using V
  clear V;obtain⟨H,z⟩:∃x,x=oJ 10 s 2:=⟨_,rfl⟩;obtain⟨I,F⟩:∃x,x=OA 10 s 2:=⟨_,rfl⟩;have B:I=if H=0 then ⟨#[]⟩else Utf8.encode (ON (wP 10 s 0 2)):=by rw[F,z,OA]
  rw[<-z,<-F];have o:=fx z;have q:=fx B;clear z F B
  by_cases hz:2 < s.size
  .have L:¬bt s 2=120:=λh=>U ⟨hz,.inl h⟩;have a2:¬bt s 2=88:=λh=>U ⟨hz,.inr h⟩;have a6:(bt s 2==120)=false:=beq_eq_false_iff_ne.2 L;have a7:(bt s 2==88)=false:=beq_eq_false_iff_ne.2 a2;clear U L a2;go_enter func262,ntmps262
   go_wp21
   go_loopw [6,7] (λnv iv wr=>wr=w/\∃(k:Int) (i:Nat),nv=fK k/\iv=fK i/\0<=k/\k<=1114112/\2<=i/\i<=s.size/\wR 10 s i=wR 10 s 2/\wP 10 s k i=wP 10 s 0 2) (λ_ iv _=>s.size - (intOf iv).toNat)
   case atStart=>grind
   case round=>
    obtain⟨rfl,k,i,rfl,rfl,P,Q,a3,a4,hd,hv⟩:=hrel;have Y:=fx hd;have HV:=fx hv;clear hd hv
    by_cases l:i < s.size
    .have hb:=a0 i l;have N:=bt_nonneg s i;have O:=bt_le s i;have r:=Ec (bt s i);have C:=D (bt s i) N O
     by_cases K:kN (bt s i)>=10
     .have e1:wR 10 s i=i:=JD (by simpa using K);have e2:wR 10 s 2=i:=by rw[<-Y.out,e1]
      have y:wP 10 s 0 2=k:=by rw[<-HV.out,MI l K]
      by_cases A:i=2
      .have j:H=0:=by rw[o.out];unfold oJ;rw[e2,fU A]
       have p:=fx j;have u:=fx (show I=⟨#[]⟩ by rw[q.out,fU j]);clear e1 e2 j y;subst A
       go_wp21
       refine C.mono ?_;rintro e w' ⟨rfl,rfl⟩;go_wp2;go_ret2;exact⟨qM u.symm p rfl,rfl⟩
      .have Z:=G k P Q
       by_cases S:bt s i=59
       have j:H=i+1:=by rw[o.out];unfold oJ;rw[e2,gn A,fU ⟨l,S⟩]
       have p:=fx j;have u:=fx (show I=X (ON k) by rw[q.out,gn (by omega),y,J.out]);rw[S]at C hb N O r K;rw[show kN 59=99 from by decide]at C;clear e1 e2 j y r K N O
       rotate_left
       have j:H=i:=by rw[o.out];unfold oJ;rw[e2,gn A,gn (by omega)]
       have p:=fx j;have u:=fx (show I=X (ON k) by rw[q.out,gn (by omega),y,J.out]);clear e1 e2 j y
       all_goals
        go_wp21
        refine C.mono ?_;rintro e w' ⟨rfl,rfl⟩
        go_wp21
        refine Z.mono ?_;rintro e w' ⟨rfl,rfl⟩;go_wp2;go_ret2;exact⟨qM u.symm p rfl,rfl⟩
     .have e1:wR 10 s (i+1)=wR 10 s 2:=by rw[<-Y.out];exact(NI l (by simpa using K)).symm
      have HU:wP 10 s (min (k*10+kN (bt s i)) 1114112) (i+1)=wP 10 s 0 2:=by rw[UF l K,HV.out]
      have p:=fx e1;clear e1;generalize kN (bt s i)=d at *
      go_wp21
      refine C.mono ?_;rintro e w' ⟨rfl,rfl⟩;go_wp2
      all_goals (refine⟨⟨trivial,min (k*10+d) 1114112,i+1,?_,by go_num,by omega,by omega,by omega,by omega,p,HU⟩,?_⟩;(first|rfl|(congr 1;omega));(simp[intOf];omega))
    .have e1:wR 10 s i=i:=Ex (by omega);have e2:wR 10 s 2=i:=by rw[<-Y.out,e1]
     have y:wP 10 s 0 2=k:=by rw[<-HV.out,QQ l]
     have Z:=G k P Q;have e0:i=s.size:=by omega
     by_cases A:i=2
     .have j:H=0:=by rw[o.out];unfold oJ;rw[e2,fU A]
      have p:=fx j;have u:=fx (show I=⟨#[]⟩ by omega);clear e1 e2 j y e0;subst A
      first
       |(exfalso;omega)
       |(go_wp2
         go_ret2;exact⟨qM u.symm p rfl,rfl⟩)
     .have j:H=i:=by rw[o.out];unfold oJ;rw[e2,gn A,gn (by omega)]
      have p:=fx j;have u:=fx (show I=X (ON k) by rw[q.out,gn (by omega),y,J.out]);clear e1 e2 j y e0
      go_wp21
      refine Z.mono ?_;rintro e w' ⟨rfl,rfl⟩;go_wp2;go_ret2;exact⟨qM u.symm p rfl,rfl⟩
  .clear U;have n0:wR 10 s 2=2:=Ex (by omega);have n1:H=0:=by rw[o.out];unfold oJ;rw[fU n0]
   have n2:I=⟨#[]⟩:=by rw[q.out,fU n1]
   have e0:s.size=2:=by omega
   have p:=fx n1;have u:=fx n2;clear n0 n1 n2;go_enter func262,ntmps262
   go_wp21
   refine vB 1 ?_;rw[oj];go_wp2;go_ret2;exact⟨qM u.symm p rfl,rfl⟩
def quoted (R:RC) (q:fN) (ps:Nat):Nat:=taken R q (scan (iV q) R.cs (ps+1))
def sx (R:RC) (ps:Nat):Nat:=
 if pre (R.cs.extract ps R.cs.size) oU=true then quoted R oU ps else if pre (R.cs.extract ps R.cs.size) sJ=true then quoted R sJ ps else scan (iV lU) R.cs ps
def ML {q : fN} (h:ps < R.cs.size):quoted R q ps<=R.cs.size:=Qn (pt (by omega))
def Ms {q : fN}:ps<=quoted R q ps:=jC (by omega) (jC (sZ (i:=ps+1)) OW)
def Oq {p : fN} (h:pre (s.extract ps s.size) p=true) (d:ps<=s.size) (e:0 < p.size):ps < s.size:=by
 have:=kQ h d;omega
def VL (h:ps<=R.cs.size):sx R ps<=R.cs.size:=by
 unfold sx;split
 .rename_i d;exact ML (Oq d h (by decide))
 .split
  .rename_i d;exact ML (Oq d h (by decide))
  .exact pt h
def Xa:ps<=sx R ps:=by
 unfold sx;split
 .exact Ms
 .split
  .exact Ms
  .exact sZ
def mF (R:RC) (ps:Nat):fN:=
 if pre (R.cs.extract ps R.cs.size) oU=true then R.cs.extract (ps+1) (scan (iV oU) R.cs (ps+1))else if pre (R.cs.extract ps R.cs.size) sJ=true then R.cs.extract (ps+1) (scan (iV sJ) R.cs (ps+1))else R.cs.extract ps (scan (iV lU) R.cs ps)
def Cu:(mF R ps).size<=R.cs.size:=by
 unfold mF;repeat' split
 all_goals (simp;omega)
def Jv (r:Nat) (R:RC) (bg ps:Nat) (q:fN) (C:q.size=1) (w w1:fO) (B:Kept [r] w w1) (h:Rd w1 r R bg (ps+1)) (x:ps+1<=R.cs.size) (y:R.cs.size<=1024):
  Calls prog 258 #[fW r,.func (.func 260) #[] #[fW w1.heap.size]] (w1.alloc (.cells #[fR q] 9))
   λe p=>e=gO (fR (R.cs.extract (ps+1) (scan (iV q) R.cs (ps+1))))/\
    Calls prog 91 #[fW r,fR q] p λe u=>(∃b,e=gO (.bool b))/\Kept [r] w u/\Rd u r R bg (quoted R q ps):=by
 refine(y7 r R bg (ps+1) q w1 h x y).mono ?_;rintro e p ⟨z,d,l⟩;refine⟨z,?_⟩;refine(jb r R bg _ q p l (pt x) y (by omega)).mono ?_;rintro e u ⟨A,j,o⟩;exact⟨⟨_,A⟩,(B.trans d).trans j,o⟩
theorem Ob (r:Nat) (R:RC) (bg ps:Nat) (w:fO) (h:Rd w r R bg ps) (I:ps<=R.cs.size) (J:R.cs.size<=1024):
  Calls prog 365 #[fW r] w λe w'=>e=gO (fR (mF R ps))/\Kept [r] w w'/\Rd w' r R bg (sx R ps):=by
 have hr:=iB h;obtain⟨B,q⟩:∃B,B=w.alloc (.cells #[fR oU,fR sJ] 9):=⟨_,rfl⟩;have L:Kept [] w B:=by rw[q];exact(Kept.refl _ _).alloc _
 have N:B.heap[w.heap.size]?=some (fV #[fR oU,fR sJ] 9):=by rw[q];exact fB w _
 have r0:Rd B r R bg ps:=L.at h (by simp);have z0:w.heap.size < B.heap.size:=iB N;have Y:=fx q.symm;clear q;have F:=jb r R bg ps oU B r0 I J (by decide);have G:=(λw' (h:Rd w' r R bg ps)=>jb r R bg ps sJ w' h I J (by decide));have c0:=fw N 0;dsimp at c0;have HB:=fx N;have HZ:=fx z0;clear h N z0 r0;cases h1:pre (R.cs.extract ps R.cs.size) oU
 .have D:taken R oU ps=ps:=by unfold taken;rw[gn (by simp[h1])]
  rw[h1,D]at F;cases h2:pre (R.cs.extract ps R.cs.size) sJ
  .have K:taken R sJ ps=ps:=by unfold taken;rw[gn (by simp[h2])]
   rw[h2,K]at G;have u:sx R ps=scan (iV lU) R.cs ps:=by unfold sx;rw[gn (by simp[h1]),gn (by simp[h2])]
   have U:=(λw' (h:Rd w' r R bg ps)=>y7 r R bg ps lU w' h I J);rw[<-u]at U;have x:mF R ps=R.cs.extract ps (sx R ps):=by unfold mF;rw[gn (by simp[h1]),gn (by simp[h2]),u]
   rw[x];clear h1 h2 D K u x;generalize sx R ps=m at *;go_enter func365,ntmps365
   go_wp21
   refine vB 3 ?_;rw[oj,Y.out]
   go_wp21
   refine F.mono ?_;rintro e o ⟨rfl,j,z⟩;have c1:o.cell? ⟨w.heap.size,1,none⟩=some (fR sJ):=by rw[j.cell (p:=⟨w.heap.size,1,none⟩) HZ.out (by simp;omega),fw HB.out];rfl
   have y:=(L.mono (S':=[r]) (by simp)).trans j;clear j
   go_wp21
   rw[oj]
   go_wp21
   refine(G _ z).mono ?_;rintro e C ⟨rfl,d,Q⟩;have O:=y.trans d;clear d
   go_wp21
   rw[oj]
   go_wp21
   refine(nQ _ C).mono ?_;rintro e w' ⟨rfl,rfl⟩
   go_wp21
   refine(U _ Q).mono ?_;rintro e w3 ⟨rfl,H,a1⟩;have a0:=O.trans H;clear H;go_wp2;go_ret
   simp_all
  .have K:taken R sJ ps=ps+1:=by unfold taken;rw[fU h2];rfl
   rw[h2,K]at G;have u:sx R ps=quoted R sJ ps:=by unfold sx;rw[gn (by simp[h1]),fU h2]
   have x:mF R ps=R.cs.extract (ps+1) (scan (iV sJ) R.cs (ps+1)):=by unfold mF;rw[gn (by simp[h1]),fU h2]
   rw[u,x];have A:=Oq h2 I (by decide);clear h1 h2 D K u x;have U:=(λo (Z:Kept [r] w o) (h:Rd o r R bg (ps+1))=>Jv r R bg ps sJ rfl w o Z h A J);generalize R.cs.extract (ps+1) (scan (iV sJ) R.cs (ps+1))=t at *;generalize quoted R sJ ps=m at *;go_enter func365,ntmps365
   go_wp21
   refine vB 3 ?_;rw[oj,Y.out]
   go_wp21
   refine F.mono ?_;rintro e o ⟨rfl,j,z⟩;have c1:o.cell? ⟨w.heap.size,1,none⟩=some (fR sJ):=by rw[j.cell (p:=⟨w.heap.size,1,none⟩) HZ.out (by simp;omega),fw HB.out];rfl
   have y:=(L.mono (S':=[r]) (by simp)).trans j;clear j
   go_wp21
   rw[oj]
   go_wp21
   refine(G _ z).mono ?_;rintro e C ⟨rfl,d,l⟩;have V:=U C (y.trans d) l;clear d l
   go_wp21
   refine(nQ _ C).mono ?_;rintro e w' ⟨rfl,rfl⟩
   go_wp21
   refine V.mono ?_;rintro e w3 ⟨rfl,X⟩
   go_wp21
   refine X.mono ?_;rintro e w4 ⟨⟨b,rfl⟩,P,S⟩;go_wp2;go_ret
   simp_all
 .have D:taken R oU ps=ps+1:=by unfold taken;rw[fU h1];rfl
  rw[h1,D]at F;have u:sx R ps=quoted R oU ps:=by unfold sx;rw[fU h1]
  have x:mF R ps=R.cs.extract (ps+1) (scan (iV oU) R.cs (ps+1)):=by unfold mF;rw[fU h1]
  rw[u,x];have A:=Oq h1 I (by decide);clear h1 D u x G;have U:=(λo (Z:Kept [r] w o) (h:Rd o r R bg (ps+1))=>Jv r R bg ps oU rfl w o Z h A J);generalize R.cs.extract (ps+1) (scan (iV oU) R.cs (ps+1))=t at *;generalize quoted R oU ps=m at *;go_enter func365,ntmps365
  go_wp21
  refine vB 3 ?_;rw[oj,Y.out]
  go_wp21
  refine F.mono ?_;rintro e C ⟨rfl,d,l⟩;have V:=U C ((L.mono (S':=[r]) (by simp)).trans d) l;clear d l
  go_wp21
  refine(nQ _ C).mono ?_;rintro e w' ⟨rfl,rfl⟩
  go_wp21
  refine V.mono ?_;rintro e w3 ⟨rfl,X⟩
  go_wp21
  refine X.mono ?_;rintro e w4 ⟨⟨b,rfl⟩,P,S⟩;go_wp2;go_ret
  simp_all
def Rh (s:fN):Bool:=decide (0 < s.size)&&(decide (bt s 0=61)||decide (97<=bt s 0/\bt s 0<=122\/65<=bt s 0/\bt s 0<=90)||decide (48<=bt s 0/\bt s 0<=57))
theorem Sz (s:fN) (w:fO):
  Calls prog 315 #[fR s] w λe w'=>e=gO (.bool (Rh s))/\w'=w:=by
 have d:=get_bt s
 by_cases p:0 < s.size
 .have j:=bt_nonneg s 0;have l:=bt_le s 0;have z:=d 0 p;have o:s.toList.isEmpty=false:=by
   rw[sH];cases h:s.data.toList with
   |nil=>
    exfalso;have e1:s.data.toList.length=0:=by rw[h];rfl
    rw[zk]at e1;have e2:s.data.size=s.size:=rfl;omega
   |cons=>rfl
  have x:¬s.toList=[]:=by intro h;rw[h]at o;cases o
  have L:=JH (bt s 0) w j l;have D:=Ju (bt s 0) w j l;have u:Rh s=(decide (bt s 0=61)||decide (97<=bt s 0/\bt s 0<=122\/65<=bt s 0/\bt s 0<=90)||decide (48<=bt s 0/\bt s 0<=57)):=by unfold Rh;simp[p]
  rw[u]
  by_cases a:bt s 0=61
  .rw[show decide (bt s 0=61)=true from by simp[a]];go_enter func315,ntmps315;go_wp2;go_ret;simp
  .rw[show decide (bt s 0=61)=false from by simp[a]];have y:(bt s 0==61)=false:=beq_eq_false_iff_ne.2 a;cases hl:decide (97<=bt s 0/\bt s 0<=122\/65<=bt s 0/\bt s 0<=90)
   .rw[hl]at L;cases hd:decide (48<=bt s 0/\bt s 0<=57)
    all_goals
     rw[hd]at D;go_enter func315,ntmps315
     go_wp21
     refine L.mono ?_;rintro e w' ⟨rfl,rfl⟩
     go_wp21
     refine D.mono ?_;rintro e w' ⟨rfl,rfl⟩;go_wp2;go_ret;simp
   .rw[hl]at L;go_enter func315,ntmps315
    go_wp21
    refine L.mono ?_;rintro e w' ⟨rfl,rfl⟩;go_wp2;go_ret;simp
 .have q:s=⟨#[]⟩:=kI (xV (by simp_all));subst q;go_enter func315,ntmps315;go_wp2;go_ret;exact⟨rfl,rfl⟩
def um (look:fN->Option fN) (s:fN) (inV:Bool):Nat->Nat
 |0=>0
 |k+1=>if (look (s.extract 1 (1+(k+1)))).isSome=true then (if (inV&&decide (bt s (k+1)≠59)&&Rh (s.extract (1+(k+1)) s.size))=true then 0 else 1+(k+1))else um look s inV k
theorem WN:um look s inV k<=k+1:=by
 induction k with
 |zero=>simp[um]
 |succ k ih=>
  grind[um]
def vq (look:fN->Option fN) (s:fN) (inV:Bool):Nat->fN
 |0=>⟨#[]⟩
 |k+1=>if (look (s.extract 1 (1+(k+1)))).isSome=true then (if (inV&&decide (bt s (k+1)≠59)&&Rh (s.extract (1+(k+1)) s.size))=true then ⟨#[]⟩else (look (s.extract 1 (1+(k+1)))).getD ⟨#[]⟩)else vq look s inV k
theorem N9 (h:∀x t,look x=some t->t.size<=16):(vq look s inV k).size<=16:=by
 induction k with
 |zero=>exact im _
 |succ k ih=>
  unfold vq;split
  .split
   .exact im _
   .rename_i d _;have⟨t,ht⟩:=Option.isSome_iff_exists.1 d
    grind
  omega
def QL (b lg:Nat) (look:fN->Option fN) (s:fN) (inV:Bool) (w:fO) (Z:Lk w b look) (a3:lg<=1048576) (hs:s.size<=1048576) (h1:1<=s.size):
  Calls prog 263 #[.agg #[.map (some b),fK lg],fR s,.bool inV] w λe w'=>e=gO (.tuple #[fR (vq look s inV (min lg (s.size - 1))),fK (um look s inV (min lg (s.size - 1)))])/\Kept [] w w':=by
 have U:=get_bt s;have HL:=Z;clear Z;obtain⟨I,z⟩:∃I,I=min lg (s.size - 1):=⟨_,rfl⟩;have a0:min (lg:Int) ((s.size:Int) - 1)=(I:Int):=by rw[z];omega
 have L:I<=s.size - 1:=by rw[z];exact Nat.min_le_right ..
 rw[<-z];clear z;obtain⟨m,X⟩:∃m,m=um look s inV I:=⟨_,rfl⟩;rw[<-X];obtain⟨x,Y⟩:∃x,x=vq look s inV I:=⟨_,rfl⟩;rw[<-Y];have V:∀wr,Kept [w.heap.size] (w.alloc (.cells #[.map (some b),fK lg] 162)) wr->True:=λ_ _=>trivial;clear V;go_enter func263,ntmps263
 go_wp21
 go_loopw [8] (λv wr=>∃k:Nat,v=fK k/\k<=s.size - 1/\um look s inV k=m/\vq look s inV k=x/\Kept [] (w.alloc (.cells #[.map (some b),fK lg] 162)) wr) (λv _=>(intOf v).toNat)
 case atStart=>exact⟨I,by rfl,L,X.symm,Y.symm,Kept.refl _ _⟩
 case round=>
  obtain⟨k,rfl,hk,N,O,p⟩:=hrel;have Q:=fx N;have F:=fx O;have H:=fB w (.cells #[.map (some b),fK lg] 162);have c0:=fw (p.at H (by simp)) 0;dsimp at c0;have a4:w.heap.size < wr.heap.size:=iB (p.at H (by simp));have u:Hid (Lk wr b look):=(HL.kept ((Kept.refl [] w).alloc _) (by simp)).kept p (by simp);clear N O H;cases k with
  |zero=>
   have B:m=0:=Q.symm;have C:=(show x=⟨#[]⟩from F.symm);go_wp2;go_ret2;exact⟨qM C.symm B rfl,((Kept.refl [] w).alloc _).trans p⟩
  |succ j=>
   have K:=u.lt;have A:=u.run (s.extract 1 (1+(j+1))) wr rfl;have l:=u.run (s.extract 1 (1+(j+1))) wr.drew rfl;have h:=λo=>u.run (s.extract 1 (1+(j+1))) (wr.alloc o) (Below.heap_alloc wr o b K);have d:=λo=>u.run (s.extract 1 (1+(j+1))) (wr.alloc o).drew (Below.heap_alloc wr o b K);cases hlo:look (s.extract 1 (1+(j+1)))with
   |none=>
    rw[hlo]at A l;simp only[hlo]at h d;have S:um look s inV j=m:=by rw[<-Q.out,um,gn (by simp[hlo])]
    have J:=(show vq look s inV j=x by rw[<-F.out,vq,gn (by simp[hlo])]);clear hlo;simp only[Option.getD_none,Option.isSome_none]at A l h d
    go_wp21
    go_region
    all_goals (try go_wp2)
    exact⟨⟨j,rfl,by omega,S,J,(p.alloc _).drew⟩,by simp[intOf]⟩
   |some t=>
    rw[hlo]at A l;simp only[hlo]at h d;have P:Hid (m=if (inV&&decide (bt s (j+1)≠59)&&Rh (s.extract (1+(j+1)) s.size))=true then 0 else 1+(j+1)):=by
     rw[<-Q.out,um,fU (by simp[hlo])];exact rfl
    have y:Hid (x=if (inV&&decide (bt s (j+1)≠59)&&Rh (s.extract (1+(j+1)) s.size))=true then ⟨#[]⟩else t):=by
     rw[<-F.out,vq,fU (by simp[hlo]),hlo];exact rfl
    clear hlo;simp only[Option.getD_some,Option.isSome_some]at A l h d;have D:Hid (Kept [] w (wr.alloc (.cells #[fR t] 207)).drew):=(((Kept.refl [] w).alloc _).trans (p.alloc _)).drew;have hj:j+1 < s.size:=by omega
    have a2:=U (j+1) hj;cases inV
    .have B:m=1+(j+1):=by rw[P.out];simp
     have C:=(show x=t by rw[y.out];simp)
     go_wp21
     go_region
     all_goals (try go_wp2)
     all_goals (try go_ret2)
     all_goals exact⟨qM C.symm B rfl,D⟩
    .by_cases q:bt s (j+1)=59
     .have B:m=1+(j+1):=by rw[P.out];simp[q]
      have C:=(show x=t by rw[y.out];simp[q])
      go_wp21
      go_region
      all_goals (try go_wp2)
      all_goals (try go_ret2)
      all_goals exact⟨qM C.symm B rfl,D⟩
     .have a1:(bt s (j+1) != 59)=true:=by rw[bne_iff_ne];exact q
      have G:=Sz (s.extract (1+(j+1)) s.size) (wr.alloc (.cells #[fR t] 207)).drew;cases hg:Rh (s.extract (1+(j+1)) s.size);have B:m=1+(j+1):=by rw[P.out];simp[hg]
      have C:=(show x=t by rw[y.out];simp[hg])
      rotate_left
      have B:m=0:=by rw[P.out];simp[hg,q]
      have C:=(show x=⟨#[]⟩ by rw[y.out];simp[hg,q])
      all_goals
       rw[hg]at G;clear hg q
       go_wp21
       go_region
       all_goals (try (go_wp21))
       all_goals (refine G.mono ?_;rintro e w' ⟨rfl,rfl⟩)
       all_goals (try go_wp2)
       all_goals (try go_ret2)
       all_goals exact⟨qM C.symm B rfl,D⟩
def lE (look:fN->Option fN) (lg:Nat) (s:fN) (inV:Bool):Nat:=
 if pre s ⟨#[38,35]⟩=true then uD s else if pre s tH=true then um look s inV (min lg (s.size - 1))else 0
def Cy:lE look lg s inV<=s.size:=by
 unfold lE;split
 .rename_i h;exact Tr (Fa h)
 .split
  .rename_i h;have d:1<=s.size:=Fa h;have e:=WN (look:=look) (s:=s) (inV:=inV) (k:=min lg (s.size - 1));omega
  simp
def ol (look:fN->Option fN) (lg:Nat) (s:fN) (inV:Bool):fN:=
 if pre s ⟨#[38,35]⟩=true then uz s else if pre s tH=true then vq look s inV (min lg (s.size - 1))else ⟨#[]⟩
def xJ (h:∀x t,look x=some t->t.size<=16):(ol look lg s inV).size<=16:=by
 unfold ol;split
 .exact Lo s
 .split
  .exact N9 h
  .exact im _
def PT (b lg:Nat) (look:fN->Option fN) (s:fN) (inV:Bool) (w:fO) (H:Lk w b look) (A:lg<=1048576) (u:s.size<=1048576):
  Calls prog 170 #[.agg #[.map (some b),fK lg],fR s,.bool inV] w λe w'=>e=gO (.tuple #[fR (ol look lg s inV),fK (lE look lg s inV)])/\Kept [] w w':=by
 obtain⟨h,d⟩:∃h,h=w.alloc (.cells #[.map (some b),fK lg] 162):=⟨_,rfl⟩;have o:h.heap[w.heap.size]?=some (fV #[.map (some b),fK lg] 162):=by rw[d];exact fB w _
 have p:Kept [] w h:=by rw[d];exact(Kept.refl _ _).alloc _
 have F:=fw o 0;have G:=fw o 1;dsimp at F G;have y:=fx d.symm;have D:=H.kept p (by simp);have j:=uA s ⟨#[38,35]⟩ h u (by decide);have q:=uA s tH h u (by decide);clear d;cases h1:pre s ⟨#[38,35]⟩
 .rw[h1]at j;cases h2:pre s tH
  .rw[h2]at q;have e:lE look lg s inV=0:=by unfold lE;rw[gn (by simp[h1]),gn (by simp[h2])]
   have l:ol look lg s inV=⟨#[]⟩:=by unfold ol;rw[gn (by simp[h1]),gn (by simp[h2])]
   rw[e,l];go_enter func170,ntmps170
   go_wp21
   rw[y.out];refine j.mono ?_;rintro e w' ⟨rfl,rfl⟩
   go_wp21
   refine q.mono ?_;rintro e w' ⟨rfl,rfl⟩;go_wp2;go_ret2;exact⟨rfl,p⟩
  .rw[h2]at q;have B:1<=s.size:=Fa h2;have e:lE look lg s inV=um look s inV (min lg (s.size - 1)):=by unfold lE;rw[gn (by simp[h1]),fU h2]
   have l:ol look lg s inV=vq look s inV (min lg (s.size - 1)):=by unfold ol;rw[gn (by simp[h1]),fU h2]
   rw[e,l];have C:=QL b lg look s inV h D A u B;generalize um look s inV (min lg (s.size - 1))=m at *;generalize vq look s inV (min lg (s.size - 1))=t at *;go_enter func170,ntmps170
   go_wp21
   rw[y.out];refine j.mono ?_;rintro e w' ⟨rfl,rfl⟩
   go_wp21
   refine q.mono ?_;rintro e w' ⟨rfl,rfl⟩
   go_wp21
   refine C.mono ?_;rintro e I ⟨rfl,z⟩;have x:=p.trans z;go_wp2;go_ret2;exact⟨rfl,x⟩
 .rw[h1]at j;have B:2<=s.size:=Fa h1;have e:lE look lg s inV=uD s:=by unfold lE;rw[fU h1]
  have l:ol look lg s inV=uz s:=by unfold ol;rw[fU h1]
  rw[e,l];have C:=IL s h u B;generalize uD s=m at *;generalize uz s=t at *;go_enter func170,ntmps170
  go_wp21
  rw[y.out];refine j.mono ?_;rintro e w' ⟨rfl,rfl⟩
  go_wp21
  refine C.mono ?_;rintro e I ⟨rfl,rfl⟩;go_wp2;go_ret2;exact⟨rfl,p⟩
def oO (look:fN->Option fN) (lg:Nat) (s:fN):Nat:=if lE look lg s false=0 then 1 else lE look lg s false
theorem Dt:0 < oO look lg s:=by grind[oO]
def GC (h:0 < s.size):oO look lg s<=s.size:=by
 unfold oO;split
 .omega
 .exact Cy
def qD (look:fN->Option fN) (lg:Nat) (s:fN):fN:=if lE look lg s false=0 then s.extract 0 1 else ol look lg s false
structure Z6 (w:fO) (g n:Nat) (A:Nat->fN×fN):Prop where
 lt:0 < n->g < w.heap.size
 nm:∀i,i < n->w.cell? ⟨g,i*2,none⟩=some (fR (A i).1)
 vl:∀i,i < n->w.cell? ⟨g,i*2+1,none⟩=some (fR (A i).2)
def Z6.kept {A : Nat->fN×fN} {S : List Nat} (h:Z6 w g n A) (d:Kept S w w') (e:g∉S):Z6 w' g n A:=
 ⟨λj=>lz (h.lt j) d.size,λi hi=>(d.cell (p:=⟨g,i*2,none⟩) (h.lt (by omega)) e).trans (h.nm i hi),λi hi=>(d.cell (p:=⟨g,i*2+1,none⟩) (h.lt (by omega)) e).trans (h.vl i hi)⟩
def nZ (A:Nat->fN×fN) (n:Nat) (s:fN) (i:Nat):Bool:=if i < n then (if ((A i).1.toList==s.toList)=true then true else nZ A n s (i+1))else false
  termination_by n - i
def abh (x y:Int) (nm s:fN) (g n q:Nat) (A:Nat->fN×fN) (w:fO) (hA:Z6 w g n A) (J:n<=1048576):
  Calls prog 338 #[.agg #[fK x,fK y,fR nm,mW g n q],fR s] w λe w'=>e=gO (.bool (nZ A n s 0))/\Kept [] w w':=by
 obtain⟨m,C⟩:∃m,m=nZ A n s 0:=⟨_,rfl⟩;rw[<-C];have F:=hA;go_enter func338,ntmps338
 go_wp21
 go_loopw [10] (λv wr=>∃k:Nat,v=fK k/\k<=n/\nZ A n s k=m/\Kept [] w wr) (λv _=>n - (intOf v).toNat)
 case atStart=>exact⟨0,rfl,im _,C.symm,(Kept.refl _ _).alloc _⟩
 case round=>
  obtain⟨k,rfl,I,B,o⟩:=hrel;have p:=fx B;have j:=o
  by_cases d:k < n
  .have D:=F.kept o (by simp);have G:=D.nm k d;have H:=D.vl k d;clear B;cases he:((A k).1.toList==s.toList)
   .have e:nZ A n s (k+1)=m:=by rw[<-p.out,nZ.eq_1 A n s k,fU d,gn (by simp[he])]
    have l:=fx e;have z:¬(A k).1.toList=s.toList:=by simpa using he
    clear e;have h:=j.alloc (.cells #[fR (A k).1,fR (A k).2] 299);generalize (A k).1=u at *;generalize (A k).2=v at *;go_wp2;go_roundw
    case rel=>exact⟨k+1,by go_num,by omega,l,h⟩
    case measure=>simp[intOf];omega
   .have e:m=true:=by rw[<-p.out,nZ.eq_1 A n s k,fU d,fU he]
    have l:=fx e;have z:(A k).1.toList=s.toList:=by simpa using he
    clear e;have h:=j.alloc (.cells #[fR (A k).1,fR (A k).2] 299);generalize (A k).1=u at *;generalize (A k).2=v at *;go_wp2;go_ret;exact⟨by rw[l.out];rfl,h⟩
  .have e:m=false:=by rw[<-p.out,nZ.eq_1 A n s k,gn d]
   have l:=fx e;clear e B;go_wp2;go_ret;exact⟨by rw[l.out];rfl,j⟩
theorem PS:(∃j,prog.info? 98=some j/\j.size≠0):=by
 have h:((prog.info? 98).map λi=>i.size)=some 2:=by kernel_rfl
 have⟨j,hj,h2⟩:=Option.map_eq_some_iff.1 h
 grind
def NX:liesAt prog prog.depth 98 (2 / prog.cellsOf 98) 0 98 1=true:=by kernel_rfl
theorem Kw (B b:Nat) (bs:List gh) (w:fO) (h:Lib.IsBuilder 98 5 B b bs w):
  Calls prog 360 #[fW b] w λe w'=>e=oS/\Lib.BuilderAt 98 5 B b (fW b) bs w'/\Below B w w':=by
 obtain⟨j,d,l⟩:=PS;rcases h with h|h
 .have u:=h.cell0;have z:=h.frozen0;have o:=h.used (fW b);have q:=(Below.refl B w).setCell (p:=⟨b,0,none⟩) h.1 (fW b);have y:=o.cell0;have C:=Lib.run_to_unsafe (P:=prog) w (src:=96) (dst:=102) ⟨b,0,none⟩ underlying96 underlying102 d l h.shape (show 0 < 2 by decide);have A:=Lib.run_from_unsafe (P:=prog) w (src:=102) (dst:=96) ⟨b,0,none⟩ underlying102 underlying96 d h.shape NX;have x:=MN (P:=prog) (w.setCell ⟨b,0,none⟩ (fW b)) (tp:=96) ⟨b,0,none⟩ underlying96 d;go_enter func360,ntmps360;go_wp2;rw[TZ func378 (by rfl) (by rfl) rfl (e:=Extern.AbiNoEscape.same) rfl];rw[Lib.run_noEscape];simp only[Result.andThen];rw[Oper.upon_value];go_wp2;go_end0
  grind
 .have u:=h.cell0;have o:=h;have q:=Below.refl B w;have x:=MN (P:=prog) w (tp:=96) ⟨b,0,none⟩ underlying96 d;go_enter func360,ntmps360;go_wp2;go_end0
  grind
theorem zI (B b:Nat) (bs:List gh) (s:fN) (w:fO) (h:Lib.IsBuilder 98 5 B b bs w) (z:bs.length+s.size<=1048576) (L:B<=w.heap.size):
  Calls prog 335 #[fW b,fR s] w λe w'=>e=gO (.tuple #[fK s.size,.nilIface])/\(Lib.BuilderAt 98 5 B b (fW b) (bs++Lib.strCells s) w'/\Below B w w'):=by
 have⟨i0,hi,hz0,hz1,hz2⟩:=tL Nk;have F:=h;go_enter func335,ntmps335
 go_wp21
 refine(Kw B b bs _ F).mono ?_;rintro e O ⟨rfl,K,q⟩;have⟨hB,v,hbk,hown,hne⟩:=K;have G:=fw hbk 0;have H:=fw hbk 1;dsimp at G H;go_wp2_with (at_builtin;refine Lib.wpList_append_own_string _ rfl _ _ 55 9 rfl B 5 i0 underlying55 underlying9 hi hz0 hz1 hz2 _ _ _ rfl hown s rfl ?c3 ?c4 ?c5 ?_)
 case c3=>unfold maxLen;omega
 case c4=>omega
 case c5=>grind
 intro v' C j d _;have u:b < O.heap.size:=iB hbk;have o:C.heap[b]?=some (fV #[fW b,v] 98):=by
  rw[d.block b u (λe=>hne e.symm)];exact hbk
 have J:=fw o 1;dsimp at J;have Q:C.frozen? ⟨b,1,none⟩=false:=fA o 1;have P:=Lib.BuilderAt.put (T:=98) (e:=5) hB o (bs':=bs++Lib.strCells s) (by simpa [Lib.strCells_length]using j) (by decide);have D:=(q.grown d (by omega) (λk N=>(hown.lt k N).1)).setCell (p:=⟨b,1,none⟩) hB v';obtain⟨y,A,l,x⟩:∃y A l,v'= .slice y A l:=by
  rcases j.2 with⟨x,_⟩|⟨g,l,I,x,_⟩
  all_goals grind
 subst x;go_wp2;go_ret2
 simp_all
theorem Z0 {t : fN} (h:¬t.size=0):t.toList.isEmpty=false:=by
 rw[sH];cases hh:t.data.toList with
 |nil=>exact absurd (show t.data.size=0 by simp_all) h
 |cons=>rfl
def Nu:gh->Nat
 | .string t=>t.size
 |_=>0
def J6 {T e B : Nat} {bs : List gh} (h:Lib.IsBuilder T e B b bs w) (d:Kept [] w w'):Lib.IsBuilder T e B b bs w':=by
 rcases h with⟨j,v,l,o,p⟩|⟨j,v,l,o,p⟩
 .exact .inl ⟨j,v,d.at l (by simp),d.ownsRow o (λ_ _=>by simp),p⟩
 .exact .inr ⟨j,v,d.at l (by simp),d.ownsRow o (λ_ _=>by simp),p⟩
def Ax (l:List UInt8) (t:fN):Lib.byteCells l++Lib.strCells t=Lib.byteCells (l++t.data.toList):=by
 unfold Lib.byteCells Lib.strCells;simp
def vp (look:fN->Option fN) (lg:Nat) (s:fN):List UInt8:=
 if s.size=0 then []else if lE look lg s true=0 then (s.extract 0 1).data.toList++vp look lg (s.extract 1 s.size)else (ol look lg s true).data.toList++vp look lg (s.extract (lE look lg s true) s.size)
  termination_by s.size
  decreasing_by all_goals (simp;omega)
def Ay (h:∀x t,look x=some t->t.size<=16) (s:fN):(vp look lg s).length<=16*s.size:=by
 rw[vp];split
 .simp
 .split
  .have:=Ay h (s.extract 1 s.size);simp at this|-;omega
  .have:=Ay h (s.extract (lE look lg s true) s.size);have d:=xJ (lg:=lg) (s:=s) (inV:=true) h;have e:(ol look lg s true).data.size=(ol look lg s true).size:=rfl;simp[e]at this|-;omega
  termination_by s.size
  decreasing_by all_goals (simp;omega)
def Qm (b lg:Nat) (look:fN->Option fN) (s:fN) (w:fO) (hL:Lk w b look) (Q:lg<=1048576) (hs:s.size<=1024):
  Calls prog 364 #[.agg #[.map (some b),fK lg],fR s] w λe w'=>e=gO (fR ⟨(vp look lg s).toArray⟩)/\Kept [] w w':=by
 obtain⟨d,o⟩:∃d,d=w.alloc (.cells #[.map (some b),fK lg] 162):=⟨_,rfl⟩;have F:d.heap[w.heap.size]?=some (fV #[.map (some b),fK lg] 162):=by rw[o];exact fB w _
 have Z:Kept [] w d:=by rw[o];exact(Kept.refl _ _).alloc _
 have z0:d.heap.size=w.heap.size+1:=by rw[o];simp
 have HL:=hL.kept Z (by simp);have HW:=fx o.symm;have A:=fx F;have N:=fx z0;clear o F z0;go_enter func364,ntmps364
 go_wp21
 rw[HW.out];have HN:=Lib.fresh_isBuilder 98 5 d;have J:=((Below.refl d.heap.size d).alloc (gr _) (.cells #[.pointer none,iQ] 98));have ez:w.heap.size+1=d.heap.size:=N.symm
 try rw[ez]
 go_loopw [1] (λv wr=>∃(t:fN) (l:List UInt8),v=fR t/\t.size<=s.size/\l.length+16*t.size<=16*s.size/\l++vp look lg t=vp look lg s/\Lib.IsBuilder 98 5 d.heap.size d.heap.size (Lib.byteCells l) wr/\Below d.heap.size d wr) (λv _=>Nu v)
 case atStart=>exact⟨s,[],rfl,gr _,by simp,rfl,HN,J⟩
 case round=>
  obtain⟨t,l,rfl,ht,hl,I,Y,q⟩:=hrel;have u:=fx I;have c0:=fw ((Kept.Bv q).at A.out (by simp)) 0;have c1:=fw ((Kept.Bv q).at A.out (by simp)) 1;dsimp at c0 c1;clear I
  by_cases O:t.size=0
  .have e0:t=⟨#[]⟩:=by
    apply kI;exact xV O
   subst e0;have EL:=fx (show l=vp look lg s by rw[<-u.out,vp,fU (show js.size=0 from rfl),Gt]);have S:=Tryz.Builder_String_any d.heap.size d.heap.size l wr Y q.size
   go_wp21
   refine S.mono ?_;rintro e V ⟨rfl,P⟩;have K:=Z.trans (Kept.Bv (q.trans P));go_wp2;go_ret;exact⟨by rw[<-EL.out];rfl,K⟩
  .have a1:t.toList.isEmpty=false:=Z0 O;have C:=PT b lg look t true wr (HL.kept (Kept.Bv q) (by simp)) Q (by omega);have a2:=Cy (look:=look) (lg:=lg) (s:=t) (inV:=true)
   go_wp21
   refine C.mono ?_;rintro e V ⟨rfl,G⟩;have HX:=xJ (lg:=lg) (s:=t) (inV:=true) HL.short;have H:vp look lg t=if lE look lg t true=0 then (t.extract 0 1).data.toList++vp look lg (t.extract 1 t.size)else (ol look lg t true).data.toList++vp look lg (t.extract (lE look lg t true) t.size):=by rw[vp,gn O]
   have D:=fx H;clear H;generalize ol look lg t true=x at *;have B:=J6 Y G;have p:=q.trans (G.below q.size (by simp));generalize lE look lg t true=n at *
   by_cases U:n=0
   .have y:=(show(l++(t.extract 0 1).data.toList)++vp look lg (t.extract 1 t.size)=vp look lg s by rw[<-u.out,D.out,fU U,vw]);subst U;have W:=zI d.heap.size d.heap.size (Lib.byteCells l) (t.extract 0 1) V B (by simp[Lib.byteCells];omega) p.size
    go_wp21
    refine W.mono ?_;rintro e X ⟨rfl,z,j⟩;have L:=(show Lib.IsBuilder 98 5 d.heap.size d.heap.size (Lib.byteCells (l++(t.extract 0 1).data.toList)) X from .inr (by rw[<-Ax];exact z));have h:=p.trans j;go_wp2;go_roundw
    case rel=>exact⟨_,_,rfl,by simp;omega,by simp;omega,y,L,h⟩
    case measure=>simp[Nu];omega
   .have a0:((n:Int)==0)=false:=beq_eq_false_iff_ne.2 (by omega);have y:=(show(l++x.data.toList)++vp look lg (t.extract n t.size)=vp look lg s by rw[<-u.out,D.out,gn U,vw]);have W:=zI d.heap.size d.heap.size (Lib.byteCells l) x V B (by have:=HX;simp[Lib.byteCells];omega) p.size
    go_wp21
    refine W.mono ?_;rintro e X ⟨rfl,z,j⟩;have L:=(show Lib.IsBuilder 98 5 d.heap.size d.heap.size (Lib.byteCells (l++x.data.toList)) X from .inr (by rw[<-Ax];exact z));have h:=p.trans j;go_wp2;go_roundw
    case rel=>exact⟨_,_,rfl,by simp;omega,by have:=HX;have e:x.data.size=x.size:=rfl;simp[e];omega,y,L,h⟩
    case measure=>simp[Nu];omega
def mg (R:RC) (ps:Nat):Nat:=scan (λc=>!iV lZ c) R.cs ps
def py (R:RC) (ps:Nat):Nat:=if pre (R.cs.extract (mg R ps) R.cs.size) ⟨#[61]⟩=true then sx R (mg R (mg R ps+1))else mg R ps
def Eg (h:ps<=R.cs.size):mg R ps<=R.cs.size:=pt h
def M5:ps<=mg R ps:=sZ
def Vl (h:ps<=R.cs.size):py R ps<=R.cs.size:=by
 unfold py;split
 .rename_i d;exact VL (Eg (kQ d (Eg h)))
 .exact Eg h
def ye:ps<=py R ps:=by
 unfold py;split
 .have d:=M5 (R:=R) (ps:=ps);have e:=M5 (R:=R) (ps:=mg R ps+1);have h:=Xa (R:=R) (ps:=mg R (mg R ps+1));omega
 .exact M5
def rW (look:fN->Option fN) (lg:Nat) (R:RC) (ps:Nat):fN:=if pre (R.cs.extract (mg R ps) R.cs.size) ⟨#[61]⟩=true then nF ⟨(vp look lg (mF R (mg R (mg R ps+1)))).toArray⟩else ⟨#[]⟩
structure Nm (w:fO) (r:Nat) (R:RC) (b lg:Nat) (look:fN->Option fN):Prop where
 lk:Lk w b look
 ne:b≠r
 mv:R.mv= .map (some b)
 dj:R.lg=lg
 le:lg<=1048576
def Nm.kept (h:Nm w r R b lg look) (d:Kept [r] w w'):Nm w' r R b lg look:=
 ⟨h.lk.kept d (by simp[h.ne]),h.ne,h.mv,h.dj,h.le⟩
theorem Ws (r:Nat) (R:RC) (bg ps b lg:Nat) (look:fN->Option fN) (w:fO) (h:Rd w r R bg ps) (U:Nm w r R b lg look) (hG:Gl w r) (X:ps<=R.cs.size) (D:R.cs.size<=1024):
  Calls prog 339 #[fW r] w λe w'=>e=gO (fR (rW look lg R ps))/\Kept [r] w w'/\Rd w' r R bg (py R ps):=by
 have S:=vG r R bg ps lZ w h X D;have l:=fx U;have HG:=hG;have K:=Eg (R:=R) X;clear U;cases he:pre (R.cs.extract (mg R ps) R.cs.size) ⟨#[61]⟩
 .have J:py R ps=mg R ps:=by unfold py;rw[gn (by simp[he])]
  have I:rW look lg R ps=⟨#[]⟩:=by unfold rW;rw[gn (by simp[he])]
  rw[J,I];have z:taken R ⟨#[61]⟩ (mg R ps)=mg R ps:=by unfold taken;rw[gn (by simp[he])]
  go_enter func339,ntmps339
  go_wp21
  refine S.mono ?_;rintro e Q ⟨rfl,d,u⟩;have B:=jb r R bg (mg R ps) ⟨#[61]⟩ Q u K D (by decide);rw[he,z]at B
  go_wp21
  refine B.mono ?_;rintro e Y ⟨rfl,o,a0⟩;have A:=d.trans o;go_wp2;go_ret
  simp_all
 .have J:py R ps=sx R (mg R (mg R ps+1)):=by unfold py;rw[fU he]
  have I:rW look lg R ps=nF ⟨(vp look lg (mF R (mg R (mg R ps+1)))).toArray⟩:=by unfold rW;rw[fU he]
  rw[J,I];have z:taken R ⟨#[61]⟩ (mg R ps)=mg R ps+1:=by unfold taken;rw[fU he];rfl
  have V:mg R ps+1<=R.cs.size:=kQ he K;go_enter func339,ntmps339
  go_wp21
  refine S.mono ?_;rintro e Q ⟨rfl,d,u⟩;have B:=jb r R bg (mg R ps) ⟨#[61]⟩ Q u K D (by decide);rw[he,z]at B
  go_wp21
  refine B.mono ?_;rintro e Y ⟨rfl,o,N⟩;have A:=d.trans o;have G:=vG r R bg (mg R ps+1) lZ Y N V D
  go_wp21
  refine G.mono ?_;rintro e F ⟨rfl,L,x⟩;have j:=A.trans L;have H:Hid (Rd F r R bg (mg R (mg R ps+1))):=x;have hc:=Eg (R:=R) V;have mv:F.cell? ⟨r,5,none⟩=some (.map (some b)):=by rw[x.mv,l.out.mv]
  have lv:F.cell? ⟨r,6,none⟩=some (fK lg):=by rw[x.lg,l.out.dj]
  have a1:=Cu (R:=R) (ps:=mg R (mg R ps+1));have a2:=Ay (lg:=lg) l.lk.short (mF R (mg R (mg R ps+1)));have Z:=Ob r R bg (mg R (mg R ps+1)) F.drew (show Rd F.drew r R bg _ from H) hc D
  go_wp21
  go_region_with (first
   |(go_at_call 365;refine Z.mono ?_;rintro e w4 ⟨rfl,p,y⟩;have P:=y.mv;rw[l.out.mv]at P;have O:=y.lg;rw[l.out.dj]at O)
   |(go_at_call 364;refine(Qm b lg look _ _ (l.kept (j.drew.trans p)).lk l.le (by omega)).mono ?_;rintro e w5 ⟨rfl,q⟩)
   |(go_at_call 158;refine(yH r _ _ (by simp[ByteArray.size];omega) ((HG.kept (j.drew.trans p)).kept (q.mono (by simp)))).mono ?_;rintro e w6 ⟨rfl,C⟩))
  all_goals (try go_wp2)
  all_goals (try go_ret)
  all_goals exact⟨rfl,(j.drew.trans p).trans ((q.trans C).mono (by simp)),(y.kept q (by simp)).kept C (by simp)⟩
def rD (L:kZ):List gh:=L.flatMap λp=>[fR p.1,fR p.2]
def Kz (L M:kZ):rD (L++M)=rD L++rD M:=by simp[rD]
theorem FW (L:kZ) (i:Nat) (h:i < L.length):(rD L)[i*2]?=some (fR (L[i]).1)/\(rD L)[i*2+1]?=some (fR (L[i]).2):=by
 induction L generalizing i with
 |nil=>simp at h
 |cons p L ih=>
  show(fR p.1::Value.string p.2::rD L)[i*2]?=_/\(fR p.1::Value.string p.2::rD L)[i*2+1]?=_
  grind
def nth (ns:List fN) (i:Nat):fN×fN:=(ns.getD i ⟨#[]⟩,⟨#[]⟩)
def Oo (ns:List fN) (s:fN):Bool:=nZ (nth ns) ns.length s 0
theorem Lv {A B : Nat->fN×fN} (h:∀i,i < n->(A i).1=(B i).1) (i:Nat):nZ A n s i=nZ B n s i:=by
 fun_induction nZ A n s i with
 |case1 i hi he=>grind[nZ]
 |case2 i hi he ih=>grind[nZ]
 |case3 i hi=>grind[nZ]
def XZ (x y:Int) (nm s:fN) (w:fO):
  Calls prog 338 #[.agg #[fK x,fK y,fR nm,iQ],fR s] w λe w'=>e=gO (.bool false)/\Kept [] w w':=by
 have h:=(Kept.refl [] w).alloc (.cells #[fK x,fK y,fR nm,iQ] 194);go_enter func338,ntmps338
 go_wp21
 go_loopw [10] (λv wr=>v=fK 0/\Kept [] w wr) (λv _=>0)
 case atStart=>exact⟨rfl,h⟩
 case round=>
  obtain⟨rfl,d⟩:=hrel;go_wp2;go_ret;exact⟨rfl,d⟩
def X4 (L:kZ) (i:Nat):fN×fN:=L.getD i (⟨#[]⟩,⟨#[]⟩)
theorem U3 (base:Nat) (x y:Int) (nm s:fN) (av:gh) (L:kZ) (w:fO) (h:w.ownsRow base 299 2 av L.length (rD L)) (q:L.length<=1048576):
  Calls prog 338 #[.agg #[fK x,fK y,fR nm,av],fR s] w λe w'=>e=gO (.bool (Oo (L.map (·.1)) s))/\Kept [] w w':=by
 rcases h.2 with⟨rfl,l⟩|⟨g,d,j,rfl,o,p,_⟩
 .have e:Oo (L.map (·.1)) s=false:=by
   have:L=[]:=R3 l;subst this;unfold Oo;rw[nZ.eq_1];simp
  rw[e];exact XZ x y nm s w
 .have hA:Z6 w g L.length (X4 L):=by
   refine⟨λ_=>iB p,λi hi=>?_,λi hi=>?_⟩
   .have:=h.cells (g:=g) rfl (i*2) _ (FW L i hi).1;rw[iT]at this
    grind[X4]
   .have:=h.cells (g:=g) rfl (i*2+1) _ (FW L i hi).2;rw[iT]at this
    grind[X4]
  have e:Oo (L.map (·.1)) s=nZ (X4 L) L.length s 0:=by
   unfold Oo;rw[BZ];exact Lv (λi hi=>by simp[nth,X4,hi]) 0
  rw[e];exact abh x y nm s g L.length d _ w hA q
structure Ca (w:fO) (base tb:Nat) (x y:Int) (nm:fN) (av:gh) (L:kZ):Prop where
 gR:w.heap[tb]?=some (fV #[fK x,fK y,fR nm,av] 194)
 own:w.ownsRow base 299 2 av L.length (rD L)
theorem Ca.kept {base e : Nat} {x y : Int} {nm : fN} {av : gh} {L : kZ} (h:Ca w base e x y nm av L) (d:Kept [r] w w') (l:r < base) (j:base<=e):Ca w' base e x y nm av L:=
 ⟨d.at h.gR (by grind),d.ownsRow h.own (λk d=>by have:=(h.own.lt k d).1;grind)⟩
def BB (R:RC) (ps:Nat):fN:=nF (small (R.cs.extract ps (jU R ps)))
def yY (R:RC) (ns:List fN) (ps:Nat):Bool:=!Oo ns (BB R ps)&&!decide (jU R ps=R.cs.size)&&decide (R.at_<=(ns.length:Int))
def vu (L:kZ) (d v:fN):kZ:=if Oo (L.map (·.1)) d=true then L else L++[(d,v)]
def qR (R:RC) (look:fN->Option fN) (lg:Nat) (L:kZ) (ps:Nat):kZ:=vu L (BB R ps) (rW look lg R (jU R ps))
def ID (h:ps < R.cs.size):jU R ps<=R.cs.size:=pt (by omega)
def wg:ps < jU R ps:=lz (Nat.lt_succ_self _) sZ
def Rd.rY (h:Rd w r R bg ps):w.cell? ⟨r,4,none⟩=some (fK R.at_):=by rw[fw h];rfl
def XP:(prog.info? 299).map (λi=>(i.zero,i.size,i.bytes))=some (some (.agg #[fR js,fR js]),2,32):=by kernel_rfl
def Sh (w:fO) (k:Nat) (n d:Int):Prop:=w.heap[k]?=some (fV #[fK n,fK d] 83)
theorem Ln (r J:Nat) (R:RC) (bg ps g ag b lg:Nat) (look:fN->Option fN) (ah:Nat->Nat) (x y:Int) (nm:fN) (av:gh) (L:kZ) (K w:fO)
  (ai:Kept [r] K w) (H:r < K.heap.size) (F:K.heap.size<=J) (h:Rd w r R bg ps) (hA:Lz w r R g ag ah) (hN:Nm w r R b lg look) (hG:Gl w r) (hT:Ca w K.heap.size J x y nm av L)
  (hb:bg<=R.cs.size) (hp:ps < R.cs.size) (hs:R.cs.size<=1024) (hL:L.length<=4096):
  Calls prog 302 #[fW r,fW J] w λe w'=>
   if yY R (L.map (·.1)) ps=true then ∃k,e= .panicked [{v:= .iface 78 (fW k),recovered:=false}]/\Sh w' k 7 (ah bg)/\K.heap.size<=k/\Kept [r] K w'
   else e=oS/\∃X,Ca w' K.heap.size J x y nm X (qR R look lg L ps)/\Kept [r] K w'/\Rd w' r R bg (py R (jU R ps)):=by
 obtain⟨i0,hi,ax,ay,az⟩:=tL XP;have ak:=ID (R:=R) hp;have HN:=fx hN;have HG:=fx hG;have HA:=fx hA;have HT:=fx hT;have ae:=fx ai;have CN:=fx (DN r R bg ps w h hp hs hG);have G:qR R look lg L ps=vu L (BB R ps) (rW look lg R (jU R ps)):=rfl;clear h hA hN hG hT ai;have am:yY R (L.map (·.1)) ps=(!Oo (L.map (·.1)) (BB R ps)&&!decide (jU R ps=R.cs.size)&&decide (R.at_<=(L.length:Int))):=by unfold yY;rw[BZ]
 rw[am];clear am;obtain⟨O,a7⟩:∃O,O=BB R ps:=⟨_,rfl⟩;have a8:nF (small (R.cs.extract ps (jU R ps)))=O:=a7.symm;rw[a8]at CN;clear a8;rw[<-a7]at G;rw[<-a7];obtain⟨ns,ad⟩:∃ns,ns=L.map (·.1):=⟨_,rfl⟩;rw[<-ad];have a6:=fx ad;clear a7 ad;obtain⟨m,hm⟩:∃m,m=jU R ps:=⟨_,rfl⟩;rw[<-hm]at CN ak G;rw[<-hm];clear hm;have HV:=(λw' h1 h2 h3=>Ws r R bg m b lg look w' h1 h2 h3 ak hs);obtain⟨vt,an⟩:∃vt,vt=rW look lg R m:=⟨_,rfl⟩;rw[<-an]at HV G;clear an;have HV:=fx HV;have af:=fx G;clear G;have⟨ao,cp,hav⟩:=fS HT.out.own;subst hav;have aD:r≠J:=by omega
 cases hin:Oo ns O
 .skip
  rcases(show m=R.cs.size\/(¬m=R.cs.size/\R.at_<=(L.length:Int))\/(¬m=R.cs.size/\¬R.at_<=(L.length:Int)) by omega)with o|⟨o,Y⟩|⟨o,Y⟩;have ec:(!false&&!decide (m=R.cs.size)&&decide (R.at_<=(L.length:Int)))=false:=by simp[o]
  have e3:decide (m=R.cs.size)=true:=by simp[o]
  rotate_left
  have ec:(!false&&!decide (m=R.cs.size)&&decide (R.at_<=(L.length:Int)))=true:=by simp[o,Y]
  have e3:decide (m=R.cs.size)=false:=by simp[o]
  rotate_left
  have ec:(!false&&!decide (m=R.cs.size)&&decide (R.at_<=(L.length:Int)))=false:=by simp[Y]
  have e3:decide (m=R.cs.size)=false:=by simp[o]
  all_goals
   rw[ec];clear ec;simp only[rL,wA,wC];go_enter func302,ntmps302
   go_wp21
   refine CN.out.mono ?_;rintro e w1 ⟨rfl,B,I⟩;have l:=fx (HT.out.kept B H F);have aa:=fx (ae.out.trans B);have ac:=fx I;have ab:=fx B;have a0:=fw l.out.gR 0;have a1:=fw l.out.gR 1;have a2:=fw l.out.gR 2;have a3:=fw l.out.gR 3;dsimp at a0 a1 a2 a3;have CH:=U3 K.heap.size x y nm O _ L w1 l.out.own (by omega);rw[<-a6.out,hin]at CH;have S:=fx CH;clear CH B I CN
   go_wp21
   refine S.out.mono ?_;rintro e w2 ⟨rfl,p⟩;have Q:=fx (ab.out.trans (p.mono (by simp)));have P:=fx (aa.out.trans (p.mono (by simp)));have z:=fx (ac.out.kept p (by simp));have U:=fx (l.out.kept (p.mono (by simp)) H F);clear p S a0 a1 a2 a3;have b3:=fw U.out.gR 3;dsimp at b3;have b4:=z.out.rY;have C:=fx (λw' (h:Rd w' r R bg m)=>oQ r R bg m w' h);rw[e3]at C
   go_wp21
   go_quiet ((go_at_call 87;refine xS (C.out _ ?_);exact z.out))
   clear b3 b4
  rotate_right
  .have aq:=fx (HA.out.kept Q.out);have p0:w2.cell? ⟨r,1,none⟩=some (mW g (R.cs.size+1) ag):=by rw[z.out.fX,HA.out.av]
   have p1:w2.cell? ⟨r,2,none⟩=some (fK bg):=z.out.bg;have p2:=aq.out.at_ bg hb;have aA:=fx (P.out.drewN nq);have aw:=P.out.size;generalize R.cs.size=sz at *;have aB:(bg:Int) < (sz:Int)+1:=by omega
   go_wp21
   go_region_dies
   all_goals (try go_wp2)
   all_goals exact⟨rfl,w2.heap.size,rfl,fB (w2.drewN (nq+1)) _,aw,(P.out.drewN (nq+1)).alloc _⟩
  all_goals
   have V:=fx (HV.out (w2.drewN nq) (show Rd (w2.drewN nq) r R bg m from z.out) (HN.out.kept (Q.out.drewN _)) (HG.out.kept (Q.out.drewN _)))
   go_wp21
   refine V.out.mono ?_;rintro e w3 ⟨rfl,N,Z⟩;have a4:=fx ((P.out.drewN nq).trans N);have a5:=fx Z;have q:=fx ((U.out.kept ((Kept.refl [r] w2).drewN nq) H F).kept N H F);clear N Z V;have c3:=fw q.out.gR 3;dsimp at c3;have aj:=iB q.out.gR;have al:=iB a5.out;have aC:=a4.out.size;go_wp2_with (at_builtin;refine gQ _ rfl _ _ 137 rfl K.heap.size 299 i0 (.agg #[fR js,fR js]) 2 32 underlying137 hi ax ay az rfl (by decide) _ _ _ rfl (q.out.own.alloc _) ⟨w3.heap.size,0,none⟩ 1 1 [fR O,fR vt] rfl ?c1 ?c2 ?c3 ?c4 ?c5 ?c6 ?_)
   case c1=>rfl
   case c2=>
    intro j u hj
    match j,hj with
    |0,hj=>simp at hj;subst hj;simp[Addr.add]
    |1,hj=>simp at hj;subst hj;simp[Addr.add]
   case c3=>intro u hu;simp at hu;rcases hu with rfl|rfl<;>rfl
   case c4=>unfold maxLen;omega
   case c5=>omega
   case c6=>simp;omega
   intro v' w4 D A au;have⟨ao',d,hv⟩:=fS D;subst hv;have a9:∀k,(Value.slice ao L.length cp).ownBlock=some k->k≠J:=by
    intro k hk;rcases q.out.own.2 with⟨h,_⟩|⟨g',d,ar,h,_,hc,_⟩
    .rw[h]at hk;cases hk
    .rw[h]at hk;obtain rfl:=jr hk;exact yI hc q.out.gR (by decide)
   have ap:Kept [r] K w4:=(a4.out.alloc _).grown A (λk hk=> .inr (q.out.own.lt k hk).1);have t4:w4.heap[J]?=some (fV #[fK x,fK y,fR nm,.slice ao L.length cp] 194):=by
    rw[A.block J (by simp;omega) (λh=>a9 J h.symm rfl),Below.heap_alloc _ _ _ aj];exact q.out.gR
   have r4:Rd w4 r R bg (py R m):=by
    show w4.heap[r]?=_;rw[A.block r (by simp;omega) (λh=>by have:=(q.out.own.lt r h.symm).1;omega),Below.heap_alloc _ _ _ al];exact a5.out
   have d3:=fw t4 3;have f3:=fA t4 3;dsimp at d3;have t5:=fI t4 3 (.slice ao' (L.length+1) d);have r5:Rd (w4.setCell ⟨J,3,none⟩ (.slice ao' (L.length+1) d)) r R bg (py R m):=(Below.heap_setCell w4 ⟨J,3,none⟩ _ r (by omega)).trans r4;have o5:(w4.setCell ⟨J,3,none⟩ (.slice ao' (L.length+1) d)).ownsRow K.heap.size 299 2 (.slice ao' (L.length+1) d) (L++[(O,vt)]).length (rD (L++[(O,vt)])):=by
    rw[Kz,lY];refine tG D ?_ _;intro hk;rcases D.2 with⟨h,_⟩|⟨g',d,ar,h,_,hc,_⟩
    .omega
    .grind
   have HF:Hid (∃X,Ca (w4.setCell ⟨J,3,none⟩ (.slice ao' (L.length+1) d)) K.heap.size J x y nm X (vu L O vt)/\Kept [r] K (w4.setCell ⟨J,3,none⟩ (.slice ao' (L.length+1) d))/\Rd (w4.setCell ⟨J,3,none⟩ (.slice ao' (L.length+1) d)) r R bg (py R m)):=
    ⟨_,by rw[show vu L O vt=L++[(O,vt)] by unfold vu;rw[<-a6.out,hin];rfl];exact⟨t5,o5⟩,ap.setCell (.inr F) _,r5⟩
   clear t5 r5 o5 r4 t4 ap a9 D A au c3;go_wp2;go_end0;exact⟨rfl,by rw[af.out];exact HF.out⟩
 .skip
  have ec:(!true&&!decide (m=R.cs.size)&&decide (R.at_<=(L.length:Int)))=false:=by simp
  rw[ec];clear ec;simp only[rL,wA,wC];go_enter func302,ntmps302
  go_wp21
  refine CN.out.mono ?_;rintro e w1 ⟨rfl,B,I⟩;have l:=fx (HT.out.kept B H F);have aa:=fx (ae.out.trans B);have ac:=fx I;have ab:=fx B;have a0:=fw l.out.gR 0;have a1:=fw l.out.gR 1;have a2:=fw l.out.gR 2;have a3:=fw l.out.gR 3;dsimp at a0 a1 a2 a3;have CH:=U3 K.heap.size x y nm O _ L w1 l.out.own (by omega);rw[<-a6.out,hin]at CH;have S:=fx CH;clear CH B I CN
  go_wp21
  refine S.out.mono ?_;rintro e w2 ⟨rfl,p⟩;have Q:=fx (ab.out.trans (p.mono (by simp)));have P:=fx (aa.out.trans (p.mono (by simp)));have z:=fx (ac.out.kept p (by simp));have U:=fx (l.out.kept (p.mono (by simp)) H F);clear p S a0 a1 a2 a3;have b3:=fw U.out.gR 3;dsimp at b3;have b4:=z.out.rY;have C:=fx (λw' (h:Rd w' r R bg m)=>oQ r R bg m w' h)
  go_wp21
  go_quiet ((go_at_call 87;refine xS (C.out _ ?_);exact z.out))
  clear b3 b4;have V:=fx (HV.out (w2.drewN nq) (show Rd (w2.drewN nq) r R bg m from z.out) (HN.out.kept (Q.out.drewN _)) (HG.out.kept (Q.out.drewN _)))
  go_wp21
  refine V.out.mono ?_;rintro e w3 ⟨rfl,N,Z⟩;have a4:=fx ((P.out.drewN nq).trans N);have a5:=fx Z;have q:=fx ((U.out.kept ((Kept.refl [r] w2).drewN nq) H F).kept N H F);clear N Z V;have HF:Hid (∃X,Ca w3 K.heap.size J x y nm X (vu L O vt)/\Kept [r] K w3/\Rd w3 r R bg (py R m)):=
   ⟨_,by rw[show vu L O vt=L by unfold vu;rw[<-a6.out,hin];rfl];exact q.out,a4.out,a5.out⟩
  go_wp2;go_end0;exact⟨rfl,by rw[af.out];exact HF.out⟩
inductive Jl where
 |stop
 |lost
 |whole (e:Nat) (L:kZ)
def iN (R:RC) (ps:Nat):Nat:=scan (λc=>!iV ⟨#[32,9,10,12,47]⟩ c) R.cs ps
def VA (h:ps<=R.cs.size):iN R ps<=R.cs.size:=pt h
def sF:ps<=iN R ps:=sZ
def lf (R:RC) (look:fN->Option fN) (lg:Nat) (L:kZ) (ps:Nat):Jl:=
 if h:iN R ps < R.cs.size then
  if pre (R.cs.extract (iN R ps) R.cs.size) ir=true then .whole (iN R ps+1) L
  else if yY R (L.map (·.1)) (iN R ps)=true then .stop
  else lf R look lg (qR R look lg L (iN R ps)) (py R (jU R (iN R ps)))
 else .lost
  termination_by R.cs.size - ps
  decreasing_by
 have d:=sF (R:=R) (ps:=ps);have e:=wg (R:=R) (ps:=iN R ps);have j:=ye (R:=R) (ps:=jU R (iN R ps));omega
def xP (R:RC) (ps:Nat):Nat:=scan (iV iU) R.cs ps
def aaN (h:ps<=R.cs.size):xP R ps<=R.cs.size:=pt h
def acO:ps<=xP R ps:=sZ
theorem Gc {L : kZ}:(qR R look lg L ps).length<=L.length+1:=by
 unfold qR vu;grind
def xh (R:RC) (ps:Nat):fN:=nF (small (R.cs.extract ps (xP R ps)))
def Rd.qq (h:Rd w r R bg ps) {p : Addr} (d:p.block≠r) (u:gh):Rd (w.setCell p u) r R bg ps:=(Below.heap_setCell w p u r (λe=>d e.symm)).trans h
theorem Vy {base : Nat} {e : TypeId} {xs : List gh} (o:w.ownsRow base e sz v n xs) {t : TypeId} (p:w.heap[b]?=some (fV c t)) (l:e≠t):∀k,v.ownBlock=some k->k≠b:=by
 rintro k d rfl;rcases o.2 with⟨e2,_⟩|⟨u,h,j,e2,_,q,_⟩
 .rw[e2]at d;cases d
 .rw[e2]at d;obtain rfl:=jr d
  grind
def U0 (w:fO) (r:Nat) (R:RC) (bg:Nat) (d:Nat->Nat) (nm:fN) (e:Ending) (w':fO):Jl->Prop
 | .stop=>∃k,e= .panicked [{v:= .iface 78 (fW k),recovered:=false}]/\Sh w' k 7 (d bg)/\w.heap.size<=k/\Kept [r] w w'
 | .lost=>e=gO (.tuple #[.agg #[fK 0,fK 0,fR js,iQ],.bool false])/\Kept [r] w w'/\Rd w' r R bg R.cs.size
 | .whole m L=>(∃h j,e=gO (.tuple #[.agg #[fK (d bg),fK (d m),fR nm,.slice h L.length j],.bool true])/\w'.ownsRow w.heap.size 299 2 (.slice h L.length j) L.length (rD L))/\Kept [r] w w'/\Rd w' r R bg m
theorem UP (r:Nat) (R:RC) (bg ps g a3 b lg:Nat) (look:fN->Option fN) (F:Nat->Nat) (w:fO) (h:Rd w r R bg ps) (hA:Lz w r R g a3 F) (hN:Nm w r R b lg look) (hG:Gl w r)
  (hb:bg<=R.cs.size) (hp:ps<=R.cs.size) (hs:R.cs.size<=1024):
  Calls prog 253 #[fW r] w λe w'=>U0 w r R bg F (xh R ps) e w' (lf R look lg [] (xP R ps)):=by
 obtain⟨O,HO⟩:∃O,O=lf R look lg [] (xP R ps):=⟨_,rfl⟩;rw[<-HO];obtain⟨nm,a6⟩:∃nm,nm=xh R ps:=⟨_,rfl⟩;rw[<-a6];have a0:nF (small (R.cs.extract ps (scan (iV iU) R.cs ps)))=nm:=a6.symm;have ay:=fx a0;clear a6 a0;have hr:=iB h;obtain⟨B,Q⟩:∃B,B=w.alloc (.cells #[fK 0,fK 0,fR js,iQ] 194):=⟨_,rfl⟩;have af:B.heap[w.heap.size]?=some (fV #[fK 0,fK 0,fR js,iQ] 194):=by rw[Q];exact fB w _
 have D:Kept [] w B:=by rw[Q];exact(Kept.refl _ _).alloc _
 have z0:B.heap.size=w.heap.size+1:=by rw[Q];simp
 have aj:=h.kept D (by simp);have ha:=aaN (R:=R) hp;have CU:=y7 r R bg ps iU B aj hp hs;have HA:=hA.kept (D.mono (by simp));have HN:=hN.kept (D.mono (by simp));have HG:=hG.kept (D.mono (by simp));have HW:=fx Q.symm;have al:(R.cs.extract ps (scan (iV iU) R.cs ps)).size<=1048576:=by simp;omega
 have I:=fx z0;clear h hA hN hG Q z0 aj;go_enter func253,ntmps253
 go_wp21
 rw[HW.out];refine(nQ _ B).mono ?_;rintro e w1 ⟨rfl,rfl⟩
 go_wp21
 refine CU.mono ?_;rintro e w2 ⟨rfl,ab,aq⟩;have aA:Hid (Rd w2 r R bg (xP R ps)):=aq;have CR:=zg r _ w2 al (HG.kept ab);clear aq CU al
 go_wp21
 refine CR.mono ?_;rintro e J ⟨rfl,a4⟩;have ac:=ab.trans (a4.mono (by simp));have aB:=aA.out.kept a4 (by simp);clear a4 CR;rw[ay.out];obtain⟨w4,X⟩:∃w4,w4=J.alloc (.cells #[fK 0,fK 0,fR nm,iQ] 194):=⟨_,rfl⟩;have a9:Kept [] J w4:=by rw[X];exact(Kept.refl _ _).alloc _
 have aE:Hid (Ca w4 B.heap.size J.heap.size 0 0 nm (iQ) []):=⟨by rw[X];exact fB J _,oD _ _ _ _⟩;have aw:=ac.trans (a9.mono (by simp));have aC:=aB.kept a9 (by simp);have l:=ac.size;have aG:=fx X.symm;clear a9 X
 go_wp21
 rw[aG.out]
 go_loopw [] (λwr=>∃(i:Nat) (av:gh) (L:kZ),i<=R.cs.size/\L.length<=i/\lf R look lg L i=O/\Ca wr B.heap.size J.heap.size 0 0 nm av L/\Kept [r] B wr/\Rd wr r R bg i) (λwr=>R.cs.size - (match wr.cell? ⟨r,3,none⟩with|some v=>(intOf v).toNat|none=>0))
 case atStart=>exact⟨xP R ps,_,[],ha,im _,HO.symm,aE.out,aw,aC⟩
 case round=>
  have⟨i,av,L,hi,hLi,htg,HT,HKW,hrd⟩:=hrel;have U:=fx htg;have CP:=vG r R bg i ⟨#[32,9,10,12,47]⟩ wr hrd hi hs;have P0:=hrd.ps;have an:=VA (R:=R) hi;have aN:=sF (R:=R) (ps:=i);clear htg hrd
  go_wp21
  refine CP.mono ?_;rintro e Y ⟨rfl,a5,a7⟩;have a2:Hid (Rd Y r R bg (iN R i)):=a7;have S:=HKW.trans a5;have ah:=HT.kept a5 (by have:=I.out;omega) l;have CE:=oQ r R bg (iN R i) Y a7;clear a5 a7 CP
  by_cases K:iN R i=R.cs.size
  .have Z:O= .lost:=by rw[<-U.out,lf,dif_neg (by omega)]
   have EO:=fx Z;have e3:decide (iN R i=R.cs.size)=true:=by simp[K]
   rw[e3]at CE;have H:=fx CE;have o:=S.at af (by simp;omega);have d0:=fw o 0;have d1:=fw o 1;have d2:=fw o 2;have d3:=fw o 3;have f0:=fA o 0;have f1:=fA o 1;have f2:=fA o 2;have f3:=fA o 3;dsimp at d0 d1 d2 d3;clear CE e3 Z o
   go_wp21
   refine H.out.mono ?_;rintro e w6 ⟨rfl,q,rfl⟩;go_wp2;have ad:=(D.mono (S':=[r]) (by simp)).trans S;have z:w.heap.size≠r:=by omega
   rw[EO.out];refine nK (v:= .tuple #[.agg #[fK 0,fK 0,fR js,iQ],.bool false]) ?_ rfl ⟨rfl,?_,?_⟩
   .simp[results,results253,asAddr,Result.andThen,go_sem,d0,d1,d2,d3]
   .exact((((ad.drewN q).setCell (.inr (gr _)) _).setCell (.inr (gr _)) _).setCell (.inr (gr _)) _).setCell (.inr (gr _)) _
   .have h6:Rd (Y.drewN q) r R bg R.cs.size:=by rw[<-K];exact a2.out
    exact(((h6.qq z _).qq z _).qq z _).qq z _
  .have e3:decide (iN R i=R.cs.size)=false:=by simp[K]
   have N:iN R i < R.cs.size:=by omega
   rw[e3]at CE;have H:=fx CE;clear CE e3;cases hgt:pre (R.cs.extract (iN R i) R.cs.size) ir
   .have P:taken R ir (iN R i)=iN R i:=by unfold taken;rw[gn (by simp[hgt])]
    have C:=λq=>jb r R bg (iN R i) ir (Y.drewN q) (show Rd (Y.drewN q) r R bg _ from a2.out) an hs (by decide);rw[hgt,P]at C;clear P
    go_wp21
    refine H.out.mono ?_;rintro e w6 ⟨rfl,q,rfl⟩
    go_wp21
    refine(C q).mono ?_;rintro e w7 ⟨rfl,G,ar⟩;have A:=(S.drewN q).trans G;have ak:=(ah.kept ((Kept.refl [r] Y).drewN q) (by have:=I.out;omega) l).kept G (by have:=I.out;omega) l;have CA:=Ln r J.heap.size R bg (iN R i) g a3 b lg look F 0 0 nm av L B w7 A (by have:=I.out;omega) l ar (HA.kept A) (HN.kept A) (HG.kept A) ak hb N hs (by omega);clear G ar ak C H
    go_wp21
    refine CA.mono ?_;intro e w8 y
    by_cases V:yY R (L.map (·.1)) (iN R i)=true
    .rw[fU V]at y;obtain⟨k,rfl,au,aO,j⟩:=y;have Z:O= .stop:=by rw[<-U.out,lf,wQ N,gn (by simp[hgt]),fU V]
     have HF:Hid (U0 w r R bg F nm (.panicked [{v:= .iface 78 (fW k),recovered:=false}]) w8 O):=by
      rw[Z];exact⟨k,rfl,au,by have:=I.out;omega,(D.mono (S':=[r]) (by simp)).trans j⟩
     clear au j Z CA;go_wp2;exact⟨rfl,HF.out⟩
    .rw[gn V]at y;obtain⟨rfl,aH,d,j,a8⟩:=y;have ai:lf R look lg (qR R look lg L (iN R i)) (py R (jU R (iN R i)))=O:=by
      rw[<-U.out,lf.eq_1 R look lg L i,wQ N,gn (by simp[hgt]),gn V]
     have aI:=Gc (R:=R) (look:=look) (lg:=lg) (L:=L) (ps:=iN R i);have h2:=wg (R:=R) (ps:=iN R i);have h3:=ye (R:=R) (ps:=jU R (iN R i));have h4:=Vl (R:=R) (ID (R:=R) N);have ag:Hid (∃(i':Nat) (av:gh) (L:kZ),i'<=R.cs.size/\L.length<=i'/\lf R look lg L i'=O/\Ca w8 B.heap.size J.heap.size 0 0 nm av L/\Kept [r] B w8/\Rd w8 r R bg i'):=
      ⟨_,aH,_,h4,by omega,ai,d,j,a8⟩
     have P8:=a8.ps;have ap:R.cs.size - py R (jU R (iN R i)) < R.cs.size - i:=by omega
     clear d j a8 ai aI CA h2 h3 h4;go_wp2;go_roundw
     case rel=>exact ag.out
     case measure=>rw[P8,P0];simpa [intOf]using ap
   .have P:taken R ir (iN R i)=iN R i+1:=by unfold taken;rw[fU hgt];rfl
    have C:=λq=>jb r R bg (iN R i) ir (Y.drewN q) (show Rd (Y.drewN q) r R bg _ from a2.out) an hs (by decide);rw[hgt,P]at C;have Z:O= .whole (iN R i+1) L:=by rw[<-U.out,lf,wQ N,fU hgt]
    have EO:=fx Z;clear P Z
    go_wp21
    refine H.out.mono ?_;rintro e w6 ⟨rfl,q,rfl⟩
    go_wp21
    refine(C q).mono ?_;rintro e w7 ⟨rfl,G,ae⟩;have A:=(S.drewN q).trans G;have aF:=(ah.kept ((Kept.refl [r] Y).drewN q) (by have:=I.out;omega) l).kept G (by have:=I.out;omega) l;have aa:=pN r R bg (iN R i+1) g a3 F w7 ae (HA.kept A) hb (by omega) hs;clear G C H
    go_wp21
    refine aa.mono ?_;rintro e w8 ⟨rfl,j⟩;have ax:=(D.mono (S':=[r]) (by simp)).trans (A.trans (j.mono (by simp)));have d:=aF.kept (j.mono (by simp)) (r:=r) (by have:=I.out;omega) l;have aD:=ae.kept j (by simp);have x:=(A.trans (j.mono (by simp))).at af (by simp;omega);have⟨ao,cp,hav⟩:=fS d.own;subst hav;have t0:=fw d.gR 0;have t1:=fw d.gR 1;have t2:=fw d.gR 2;have t3:=fw d.gR 3;have g0:=fA d.gR 0;have g1:=fA d.gR 1;have d0:=fw x 0;have d1:=fw x 1;have d2:=fw x 2;have d3:=fw x 3;have f0:=fA x 0;have f1:=fA x 1;have f2:=fA x 2;have f3:=fA x 3;dsimp at t0 t1 t2 t3 d0 d1 d2 d3;have aJ:w.heap.size≠J.heap.size:=by have:=l;have:=I.out;omega
    have aK:J.heap.size≠w.heap.size:=λh=>aJ h.symm;have az:=d.own;have aL:=Vy d.own d.gR (by decide);clear d x j aa;go_wp2;rw[EO.out];have z:w.heap.size≠r:=by omega
    have a1:J.heap.size≠r:=by have:=l;have:=I.out;omega
    have am:w.heap.size<=J.heap.size:=by have:=l;have:=I.out;omega
    refine nK (v:= .tuple #[.agg #[fK (F bg),fK (F (iN R i+1)),fR nm,.slice ao L.length cp],.bool true]) ?_ rfl ⟨⟨_,_,rfl,?_⟩,?_,?_⟩
    .simp[results,results253,asAddr,Result.andThen,go_sem,d0,d1,d2,d3]
    .have aM:∀(p:Addr) (u:gh) (W:fO),(p.block=w.heap.size\/p.block=J.heap.size)->W.ownsRow B.heap.size 299 2 (.slice ao L.length cp) L.length (rD L)->(W.setCell p u).ownsRow B.heap.size 299 2 (.slice ao L.length cp) L.length (rD L):=by
      intro p u W hp ho;refine tG ho ?_ u;intro e;rcases hp with hp|hp
      .have:=(az.lt _ e).1;have:=I.out;omega
      .grind
     refine jR (base:=B.heap.size) ?_ (by have:=I.out;omega)
     grind
    .exact(((((ax.setCell (.inr am) _).setCell (.inr am) _).setCell (.inr (gr _)) _).setCell (.inr (gr _)) _).setCell (.inr (gr _)) _).setCell (.inr (gr _)) _
    .exact(((((aD.qq a1 _).qq a1 _).qq z _).qq z _).qq z _).qq z _
def zM (R:RC) (ps:Nat):Bool:=decide (ps < R.cs.size)&&decide (97<=bt R.cs ps/\bt R.cs ps<=122\/65<=bt R.cs ps/\bt R.cs ps<=90)
def np (r:Nat) (R:RC) (bg ps:Nat) (w:fO) (h:Rd w r R bg ps) (d:ps<=R.cs.size) (j:R.cs.size<=1024):
  Calls prog 161 #[fW r,.func (.func 162) #[] #[]] w λe w'=>e=gO (.bool (zM R ps))/\∃n,w'=w.drewN n:=
 Hs r R bg ps _ _ _ w h d j (Ri w [r])
theorem abt (s:fN) (a:Nat) (h:a < s.size):(s.extract a s.size).extract 0 1=s.extract a (a+1):=by
 apply kI;simp only[ByteArray.data_extract,Array.extract_extract]
 grind
theorem TR {a b : Int} (d:Kept [r] w W) (e:Rd W r R bg ps) (g:W.heap[w.heap.size]?=some (fV #[fK 0,fK 0,fR js] 188)) (j:r≠w.heap.size):
  Kept [r] w (((W.setCell ⟨w.heap.size,0,none⟩ (fK a)).setCell ⟨w.heap.size,1,none⟩ (fK b)).setCell ⟨w.heap.size,2,none⟩ (fR s))/\Rd (((W.setCell ⟨w.heap.size,0,none⟩ (fK a)).setCell ⟨w.heap.size,1,none⟩ (fK b)).setCell ⟨w.heap.size,2,none⟩ (fR s)) r R bg ps/\(((W.setCell ⟨w.heap.size,0,none⟩ (fK a)).setCell ⟨w.heap.size,1,none⟩ (fK b)).setCell ⟨w.heap.size,2,none⟩ (fR s)).heap[w.heap.size]?=some (fV #[fK a,fK b,fR s] 188):=by
 have h:Kept [w.heap.size] W (((W.setCell ⟨w.heap.size,0,none⟩ (fK a)).setCell ⟨w.heap.size,1,none⟩ (fK b)).setCell ⟨w.heap.size,2,none⟩ (fR s)):=(((Kept.refl [w.heap.size] W).setCell (.inl (by simp)) _).setCell (.inl (by simp)) _).setCell (.inl (by simp)) _;exact⟨((d.setCell (.inr (gr _)) _).setCell (.inr (gr _)) _).setCell (.inr (gr _)) _,e.kept h (by grind),fI (fI (fI g 0 _) 1 _) 2 _⟩
def DM (r:Nat) (R:RC) (bg ps g x b lg:Nat) (look:fN->Option fN) (d:Nat->Nat) (w:fO) (h:Rd w r R bg ps) (hA:Lz w r R g x d) (H:Nm w r R b lg look) (hb:bg < R.cs.size) (hs:R.cs.size<=1024):
  Calls prog 93 #[fW r] w λe w'=>e=gO (.agg #[fK (d bg),fK (d (bg+oO look lg (R.cs.extract bg R.cs.size))),fR (qD look lg (R.cs.extract bg R.cs.size))])/\Kept [r] w w'/\Rd w' r R bg (bg+oO look lg (R.cs.extract bg R.cs.size)):=by
 have t1:=h.text;have b1:=h.bg;have m1:=h.mv;have l1:=h.lg;rw[H.mv]at m1;rw[H.dj]at l1;have hr:=iB h;have V:(R.cs.extract bg R.cs.size).size=R.cs.size - bg:=by simp
 have X:=Cy (look:=look) (lg:=lg) (s:=R.cs.extract bg R.cs.size) (inV:=false);rw[V]at X;have C1:=(λW (q:Kept [] w W)=>PT b lg look (R.cs.extract bg R.cs.size) false W (H.lk.kept q (by simp)) H.le (by omega));have C2:=(λW (q:Kept [] w W)=>Es r R bg ps g x d W (h.kept q (by simp)) (hA.kept (q.mono (by simp))) hb hs);have A:=(Kept.refl [] w).alloc (fV #[fK 0,fK 0,fR js] 188);have O:=fB w (fV #[fK 0,fK 0,fR js] 188);have o:=(show w.heap.size≠r by omega);have HR:=h;have HA:=hA;have N:=fx (abt R.cs bg hb);have HS:=fx (show oO look lg (R.cs.extract bg R.cs.size)=if lE look lg (R.cs.extract bg R.cs.size) false=0 then 1 else lE look lg (R.cs.extract bg R.cs.size) false from rfl);have HT:=fx (show qD look lg (R.cs.extract bg R.cs.size)=if lE look lg (R.cs.extract bg R.cs.size) false=0 then (R.cs.extract bg R.cs.size).extract 0 1 else ol look lg (R.cs.extract bg R.cs.size) false from rfl);generalize oO look lg (R.cs.extract bg R.cs.size)=cz at *;generalize qD look lg (R.cs.extract bg R.cs.size)=ct at *;generalize lE look lg (R.cs.extract bg R.cs.size) false=n at *;generalize ol look lg (R.cs.extract bg R.cs.size) false=J at *;go_enter func93,ntmps93
 go_wp21
 go_cut [3,4]from 5 to 21 (λtv nv wc=>tv=fR J/\nv=fK n/\Kept [] w wc/\wc.heap[w.heap.size]?=some (fV #[fK 0,fK 0,fR js] 188))
 case first=>
  go_region_with (go_at_call 170;refine(C1 _ A.drew).mono ?_;rintro e w1 ⟨rfl,y⟩;have S:=fx ((A.drew).trans y);have P:=fx ((((Kept.refl [] _).drew).trans y).at O (by simp));clear y)
  all_goals (try (go_wp21))
  all_goals (go_meet;exact⟨rfl,rfl,S,P⟩)
 case rest=>
  obtain⟨rfl,rfl,q,hg⟩:=hcut;have HK:=q;have HG:=hg;have I:=HR.kept q (by simp)
  by_cases G:n=0
  .have K:=C2 wc q;have D:cz=1:=by rw[HS.out,fU G]
   have F:ct=R.cs.extract bg (bg+1):=by rw[HT.out,fU G,N.out]
   have z:=fx D;have L:=fx F;clear D F;subst G
   go_wp21
   refine K.mono ?_;rintro e w2 ⟨rfl,l,Y⟩;have j:=l.at HG (by simpa using o);have Z:=fw j 0;have q1:=fw j 1;have q2:=fw j 2;have z0:=fA j 0;have z1:=fA j 1;have z2:=fA j 2;dsimp at Z q1 q2;have u:=TR (a:=(d bg:Int)) (b:=(d (bg+1):Int)) (s:=R.cs.extract bg (bg+1)) ((HK.mono (by simp)).trans l) Y j (λe=>o e.symm);go_wp2;refine nK (v:= .agg #[fK (d bg),fK (d (bg+1)),fR (R.cs.extract bg (bg+1))]) ?_ rfl ⟨by rw[z.out,L.out],u.1,by rw[z.out];exact u.2.1⟩;have U:=fw u.2.2;simp[results,results93,asAddr,Result.andThen,go_sem,U]
  .have D:cz=n:=by rw[HS.out,gn G]
   have F:ct=J:=by rw[HT.out,gn G]
   have z:=fx D;have L:=fx F;have a0:((n:Int)==0)=false:=beq_eq_false_iff_ne.2 (by omega);have b2:=I.bg;have f2:=I.free 3;have p2:=I.ps;have B:=(q.mono (S':=[r]) (by simp)).setCell (p:=⟨r,3,none⟩) (.inl (by simp)) (fK ((bg+n:Nat)));have C:=I.Mi (bg+n);have Q:=(((Kept.refl [r] wc).setCell (p:=⟨r,3,none⟩) (.inl (by simp)) (fK ((bg+n:Nat))))).at hg (by simpa using o);have K:=pN r R bg (bg+n) g x d _ C (HA.kept B) (by omega) (by omega) hs;clear D F
   go_wp21
   refine K.mono ?_;rintro e w2 ⟨rfl,l⟩;have j:=l.at Q (by simp);have Z:=fw j 0;have q1:=fw j 1;have q2:=fw j 2;have z0:=fA j 0;have z1:=fA j 1;have z2:=fA j 2;dsimp at Z q1 q2;have u:=TR (a:=(d bg:Int)) (b:=(d (bg+n):Int)) (s:=J) (B.trans (l.mono (by simp))) (C.kept l (by simp)) j (λe=>o e.symm);go_wp2;refine nK (v:= .agg #[fK (d bg),fK (d (bg+n)),fR J]) ?_ rfl ⟨by rw[z.out,L.out],u.1,by rw[z.out];exact u.2.1⟩;have U:=fw u.2.2;simp[results,results93,asAddr,Result.andThen,go_sem,U]
inductive RV where
 |Xr
 |Y7 (t:fN)
 |RY (nm:fN) (L:kZ)
 |fin (nm:fN) (L:kZ)
 |TJ (t:fN)
 |cj (nm:fN) (q:Bool)
 |lost
inductive zG where
 |stop
 |tok (kd:RV) (e:Nat)
def Vh (base:Nat) (a b:Int) (v:gh) (w:fO):RV->Prop
 | .Xr=>v= .iface 186 (.agg #[fK a,fK b])
 | .Y7 t=>v= .iface 188 (.agg #[fK a,fK b,fR t])
 | .RY nm L=>∃d e,v= .iface 196 (.agg #[fK a,fK b,fR nm,.slice d L.length e])/\w.ownsRow base 299 2 (.slice d L.length e) L.length (rD L)
 | .fin nm L=>∃d e,v= .iface 197 (.agg #[fK a,fK b,fR nm,.slice d L.length e])/\w.ownsRow base 299 2 (.slice d L.length e) L.length (rD L)
 | .TJ t=>v= .iface 198 (.agg #[fK a,fK b,fR t])
 | .cj nm q=>v= .iface 200 (.agg #[fK a,fK b,fR nm,.bool q])
 | .lost=>v= .iface 190 (.agg #[fK a,fK b])
def Vh.base {base d : Nat} {a b : Int} {k : RV} (h:Vh base a b v w k) (e:d<=base):Vh d a b v w k:=by
 cases k with
 |RY nm L=>have⟨ao,cp,h1,h2⟩:=h;exact⟨ao,cp,h1,jR h2 e⟩
 |fin nm L=>have⟨ao,cp,h1,h2⟩:=h;exact⟨ao,cp,h1,jR h2 e⟩
 |_=>exact h
def lK (w:fO) (r:Nat) (R:RC) (bg:Nat) (d:Nat->Nat) (e:Ending) (w':fO):zG->Prop
 | .stop=>∃k,e= .panicked [{v:= .iface 78 (fW k),recovered:=false}]/\Sh w' k 7 (d bg)/\w.heap.size<=k/\Kept [r] w w'
 | .tok kd m=>(∃v,e=gO v/\Vh w.heap.size (d bg) (d m) v w' kd)/\Kept [r] w w'/\Rd w' r R bg m
def lK.back {w1 : fO} {d : Nat->Nat} {e : Ending} {T : zG} (h:lK w1 r R bg d e w' T) (j:Kept [r] w w1):lK w r R bg d e w' T:=by
 cases T with
 |stop=>have⟨k,h1,h2,h3,h4⟩:=h;exact⟨k,h1,h2,jC j.size h3,j.trans h4⟩
 |tok kd m=>have⟨⟨v,h1,h2⟩,h3,h4⟩:=h;exact⟨⟨v,h1,h2.base j.size⟩,j.trans h3,h4⟩
def sA (R:RC) (d:fN->kZ->RV) (nm:fN):Jl->zG
 | .stop=> .stop
 | .lost=> .tok .lost R.cs.size
 | .whole m L=> .tok (d nm L) m
structure Km (w:fO) (r:Nat) (R:RC) (g cap b lg:Nat) (look:fN->Option fN) (cut:Nat->Nat):Prop where
 fX:Lz w r R g cap cut
 Ww:Nm w r R b lg look
 gl:Gl w r
 small:R.cs.size<=1024
def Km.kept {d : Nat} {e : Nat->Nat} (h:Km w r R g d b lg look e) (j:Kept [r] w w'):Km w' r R g d b lg look e:=
 ⟨h.fX.kept j,h.Ww.kept j,h.gl.kept j,h.small⟩
def JY (r:Nat) (R:RC) (bg ps g l b lg:Nat) (look:fN->Option fN) (d:Nat->Nat) (w:fO) (h:Rd w r R bg ps) (p:Km w r R g l b lg look d) (H:bg<=R.cs.size) (U:ps<=R.cs.size):
  Calls prog 163 #[fW r] w λe w'=>lK w r R bg d e w' (sA R .RY (xh R ps) (lf R look lg [] (xP R ps))):=by
 have C:=UP r R bg ps g l b lg look d w h p.fX p.Ww p.gl H U p.small;have G:=p;generalize xh R ps=nm at C|-;generalize lf R look lg [] (xP R ps)=O at C|-;cases O with
 |stop=>
  go_enter func163,ntmps163
  go_wp21
  refine C.mono ?_;rintro e o ⟨k,rfl,J,P,K⟩;go_wp2;exact⟨rfl,k,rfl,J,P,K⟩
 |lost=>
  go_enter func163,ntmps163
  go_wp21
  refine C.mono ?_;rintro e o ⟨rfl,N,F⟩;have u:Kept [] o (o.alloc (.cells #[fK 0,fK 0,fR js,iQ] 194)):=(Kept.refl _ _).alloc _;have x:=F.kept u (by simp);have j:=N.trans (u.mono (by simp));have I:=pN r R bg R.cs.size g l d _ x (G.kept j).fX H (gr _) G.small
  go_wp21
  refine I.mono ?_;rintro e V ⟨rfl,q⟩;have y:=j.trans (q.mono (by simp));have A:=x.kept q (by simp);go_wp2;go_ret;exact⟨⟨_,rfl,rfl⟩,y,A⟩
 |whole m L=>
  go_enter func163,ntmps163
  go_wp21
  refine C.mono ?_;rintro e o ⟨⟨B,D,rfl,S⟩,Q,F⟩;have u:Kept [] o (o.alloc (.cells #[fK (d bg),fK (d m),fR nm,.slice B L.length D] 194)):=(Kept.refl _ _).alloc _;have x:=F.kept u (by simp);have j:=Q.trans (u.mono (by simp));have z:=S.alloc (.cells #[fK (d bg),fK (d m),fR nm,.slice B L.length D] 194);go_wp2;go_ret;exact⟨⟨_,rfl,B,D,rfl,z⟩,j,x⟩
def YE (r:Nat) (R:RC) (bg ps g l b lg:Nat) (look:fN->Option fN) (d:Nat->Nat) (w:fO) (h:Rd w r R bg ps) (p:Km w r R g l b lg look d) (H:bg<=R.cs.size) (U:ps<=R.cs.size):
  Calls prog 254 #[fW r] w λe w'=>lK w r R bg d e w' (sA R .fin (xh R ps) (lf R look lg [] (xP R ps))):=by
 have C:=UP r R bg ps g l b lg look d w h p.fX p.Ww p.gl H U p.small;have G:=p;generalize xh R ps=nm at C|-;generalize lf R look lg [] (xP R ps)=O at C|-;cases O with
 |stop=>
  go_enter func254,ntmps254
  go_wp21
  refine C.mono ?_;rintro e o ⟨k,rfl,J,P,K⟩;go_wp2;exact⟨rfl,k,rfl,J,P,K⟩
 |lost=>
  go_enter func254,ntmps254
  go_wp21
  refine C.mono ?_;rintro e o ⟨rfl,N,F⟩;have u:Kept [] o (o.alloc (.cells #[fK 0,fK 0,fR js,iQ] 194)):=(Kept.refl _ _).alloc _;have x:=F.kept u (by simp);have j:=N.trans (u.mono (by simp));have I:=pN r R bg R.cs.size g l d _ x (G.kept j).fX H (gr _) G.small
  go_wp21
  refine I.mono ?_;rintro e V ⟨rfl,q⟩;have y:=j.trans (q.mono (by simp));have A:=x.kept q (by simp);go_wp2;go_ret;exact⟨⟨_,rfl,rfl⟩,y,A⟩
 |whole m L=>
  go_enter func254,ntmps254
  go_wp21
  refine C.mono ?_;rintro e o ⟨⟨B,D,rfl,S⟩,Q,F⟩;have u:Kept [] o (o.alloc (.cells #[fK (d bg),fK (d m),fR nm,.slice B L.length D] 194)):=(Kept.refl _ _).alloc _;have x:=F.kept u (by simp);have j:=Q.trans (u.mono (by simp));have z:=S.alloc (.cells #[fK (d bg),fK (d m),fR nm,.slice B L.length D] 194);go_wp2;go_ret;exact⟨⟨_,rfl,B,D,rfl,z⟩,j,x⟩
def tq (R:RC) (look:fN->Option fN) (lg bg:Nat):zG:= .tok (.Y7 (qD look lg (R.cs.extract bg R.cs.size))) (bg+oO look lg (R.cs.extract bg R.cs.size))
def lL (R:RC) (look:fN->Option fN) (lg bg ps:Nat):zG:=
 if zM R ps=true then sA R .fin (xh R ps) (lf R look lg [] (xP R ps))
 else if pre (R.cs.extract ps R.cs.size) ir=true then .tok .lost (ps+1)
 else if ps=R.cs.size then tq R look lg bg
 else .tok (.TJ (nF (R.cs.extract ps (scan (iV ir) R.cs ps)))) (pF R ps)
def B8 (r:Nat) (R:RC) (bg ps g o b lg:Nat) (look:fN->Option fN) (d:Nat->Nat) (w:fO) (h:Rd w r R bg ps) (hO:Km w r R g o b lg look d) (hb:bg < R.cs.size) (O:ps<=R.cs.size):
  Calls prog 164 #[fW r] w λe w'=>lK w r R bg d e w' (lL R look lg bg ps):=by
 have K:=hO;have HR:=h;have P:=hO.small;have I:=np r R bg ps w h O P;have a2:∀(fn:Fn) (first o:jB) (w:fO),(Instr.makeFunc fn first o).run prog w= .ok (.func fn first o) w:=λ_ _ _ _=>rfl;cases hl:zM R ps
 .rw[hl]at I;have u:=fx I;have J:=λq=>jb r R bg ps ir (w.drewN q) (show Rd (w.drewN q) r R bg ps from HR) O P (by decide);clear I;cases hgt:pre (R.cs.extract ps R.cs.size) ir
  .have H:taken R ir ps=ps:=by unfold taken;rw[gn (by simp[hgt])]
   rw[hgt,H]at J;have B:=fx J;clear J
   by_cases p:ps=R.cs.size
   .have F:lL R look lg bg ps=tq R look lg bg:=by unfold lL;rw[gn (by simp[hl]),gn (by simp[hgt]),fU p]
    rw[F];have e3:decide (ps=R.cs.size)=true:=by simp[p]
    go_enter func164,ntmps164
    go_wp21
    refine u.mono ?_;rintro e Q ⟨rfl,q,rfl⟩
    go_wp21
    refine(B q).mono ?_;rintro e C ⟨rfl,y,l⟩;have j:=((Kept.refl [r] w).drewN q).trans y;have x:=oQ r R bg ps C l;rw[e3]at x
    go_wp21
    refine x.mono ?_;rintro e w3 ⟨rfl,A,rfl⟩;have D:=DM r R bg ps g o b lg look d (C.drewN A) (show Rd (C.drewN A) r R bg ps from l) (K.kept (j.drewN A)).fX (K.kept (j.drewN A)).Ww hb P
    go_wp21
    refine D.mono ?_;rintro e S ⟨rfl,z,G⟩;have U:=(show lK w r R bg d (gO (.iface 188 (.agg #[fK (d bg),fK (d (bg+oO look lg (R.cs.extract bg R.cs.size))),fR (qD look lg (R.cs.extract bg R.cs.size))]))) S (tq R look lg bg)from⟨⟨_,rfl,rfl⟩,(j.drewN A).trans z,G⟩);go_wp2;go_ret;exact U
   .have F:lL R look lg bg ps= .tok (.TJ (nF (R.cs.extract ps (scan (iV ir) R.cs ps)))) (pF R ps):=by unfold lL;rw[gn (by simp[hl]),gn (by simp[hgt]),gn p]
    rw[F];have e3:decide (ps=R.cs.size)=false:=by simp[p]
    go_enter func164,ntmps164
    go_wp21
    refine u.mono ?_;rintro e Q ⟨rfl,q,rfl⟩
    go_wp21
    refine(B q).mono ?_;rintro e C ⟨rfl,y,l⟩;have j:=((Kept.refl [r] w).drewN q).trans y;have x:=oQ r R bg ps C l;rw[e3]at x
    go_wp21
    refine x.mono ?_;rintro e w3 ⟨rfl,A,rfl⟩;have L:=K.kept (j.drewN A);have D:=uu r R bg ps g o d (C.drewN A) (show Rd (C.drewN A) r R bg ps from l) L.fX L.gl (by omega) O P
    go_wp21
    refine D.mono ?_;rintro e S ⟨rfl,z,Z⟩;have X:=(j.drewN A).trans z;go_wp2;go_ret;exact⟨⟨_,rfl,rfl⟩,X,Z⟩
  .have H:taken R ir ps=ps+1:=by unfold taken;rw[fU hgt];rfl
   have a1:ps+1<=R.cs.size:=kQ hgt O;rw[hgt,H]at J;have B:=fx J;have F:lL R look lg bg ps= .tok .lost (ps+1):=by unfold lL;rw[gn (by simp[hl]),fU hgt]
   rw[F];clear J;go_enter func164,ntmps164
   go_wp21
   refine u.mono ?_;rintro e Q ⟨rfl,q,rfl⟩
   go_wp21
   refine(B q).mono ?_;rintro e C ⟨rfl,y,l⟩;have j:=((Kept.refl [r] w).drewN q).trans y;have CP:=pN r R bg (ps+1) g o d C l (K.kept j).fX (by omega) a1 P
   go_wp21
   refine CP.mono ?_;rintro e w3 ⟨rfl,N⟩;have V:=j.trans (N.mono (by simp));have Y:=l.kept N (by simp);go_wp2;go_ret;exact⟨⟨_,rfl,rfl⟩,V,Y⟩
 .rw[hl]at I;have u:=fx I;have F:lL R look lg bg ps=sA R .fin (xh R ps) (lf R look lg [] (xP R ps)):=by unfold lL;rw[fU hl]
  rw[F];have D:=(λq=>YE r R bg ps g o b lg look d (w.drewN q) (show Rd (w.drewN q) r R bg ps from HR) (K.kept ((Kept.refl [r] w).drewN q)) (by omega) O);generalize sA R .fin (xh R ps) (lf R look lg [] (xP R ps))=T at D|-;clear I;cases T with
  |stop=>
   go_enter func164,ntmps164
   go_wp21
   refine u.mono ?_;rintro e Q ⟨rfl,q,rfl⟩
   go_wp21
   refine(D q).mono ?_;rintro e Q ⟨k,rfl,H2,h3,h4⟩;have H4:=((Kept.refl [r] w).drewN q).trans h4;have a0:w.heap.size<=k:=h3;go_wp2;exact⟨rfl,k,rfl,H2,a0,H4⟩
  |tok kd m=>
   go_enter func164,ntmps164
   go_wp21
   refine u.mono ?_;rintro e Q ⟨rfl,q,rfl⟩
   go_wp21
   refine(D q).mono ?_;rintro e S ⟨⟨v,rfl,hv⟩,z,G⟩;have U:=(show lK w r R bg d (gO v) S (.tok kd m)from⟨⟨v,rfl,hv⟩,((Kept.refl [r] w).drewN q).trans z,G⟩);go_wp2;go_ret;exact U
end
end Go.Proofs.YtlhhgenpcjjajaaGreatDoor
