import Derived.Test.YtccjlklnkhagdaaGreatDoorRuH
import Derived.Stop.Asserts
import Derived.Handy
import Derived.PlainAid
import Derived.Deep.AppendLies
set_option linter.unusedSimpArgs false
set_option linter.unusedVariables false
set_option linter.defProp false
set_option maxHeartbeats 0
set_option maxRecDepth 100000
namespace Go.Proofs.YtccjlklnkhagdaaGreatDoor
open Go.RowKit Go.Extern.Stop Go.Stop Go.Extern Go.PlainAid Tryz
def ly:=@Nat.le_succ
def se:=@List.mem_cons
def SU:=@run_convert_bytes_back
def xn:=@Calls.quiet_of
def xo:=@dif_pos
def me:=@List.length_append
def NW:=@Lib.run_eql_slice_nil
def SV:=@World.cell?_alloc_lt
def yZ:=@List.take_append_drop
def JC:=@List.flatMap_append
def NX:=@Array.getElem?_setIfInBounds_self_of_lt
def EU:=@World.alloc_heap_new
def Cf:=@World.putObj_heap_same
def EV:=@run_endLoop
section
variable {A B W W' w w' w0 : gr} {E : Env} {L : lh} {S T : List Nat} {assign body : Code} {b base clock g i it j k l n r : Nat} {c lb : jE} {f : Nat->Nat} {m : Nat×Nat} {o : Obj} {p s : gn} {q : Int->Bool} {rest : kL} {t : TypeId} {v x : gG} {vd : gn->Bool} {xs : List gG} {y : jb}
def qS (E:Env) (d:li E) (t:gz) (z:iY E t):iU E 112 (λ_=>#[Bp E,iA E t]) (lw t) uV:=by
 refine dI λf e w R a HS H=>?_;unfold lw at a;go_enter func112,ntmps112;go_wp21;refine dC (rC E d) H a HS rfl lT ?_;rintro(_) f e w H u h a;go_wp21;refine dC (kO E d t z) H a HS rfl lT ?_;rintro(_) f e w H u h a;go_wp2;go_end0;exact fZ a H rfl
def Qn (E:Env) (d:li E) (t:gz) (z:iY E t):iU E 194 (λ_=>#[Bp E,iA E t]) (sB t) uV:=by
 refine dI λf e w R a HS H=>?_;unfold sB at a;go_enter func194,ntmps194;go_wp21;refine dC (rC E d) H a HS rfl lT ?_;rintro(_) f e w H u h a;go_wp21;refine dC (ve E d t z) H a HS rfl lT ?_;rintro(_) f e w H u h a;go_wp2;go_end0;exact fZ a H rfl
def Mt (E:Env) (u:li E) (t:gz):iU E 110 (λ_=>#[Bp E,iA E t]) (nB t) uV:=by
 refine dI λf d w R a HS H=>?_;unfold nB at a;go_enter func110,ntmps110;have C:=Io E t w;cases hn:sM t.chars with
 |true=>
  rw[hn]at C a;replace a:Hid (R= .ok () d):=a;go_wp21;refine C.mono ?_;rintro e w ⟨rfl,h⟩;replace H:=H.k0 h;go_wp2;go_end0;exact fZ a H rfl
 |false=>
  rw[hn]at C a;replace a:Hid (R=(lF>>=λ_=>(do jR t;return ():M Unit)) d):=a;go_wp21;refine C.mono ?_;rintro e w ⟨rfl,h⟩;replace H:=H.k0 h;go_wp21;refine dC (rC E u) H a HS rfl lT ?_;rintro(_) f d w H D z a;go_wp21;refine dC (vc E u t) H a HS rfl lT ?_;rintro(_) f d w H D z a;go_wp2;go_end0;exact fZ a H rfl
def G1 (E:Env) (u:li E) (t:gz):iU E 136 (λ_=>#[Bp E,iA E t]) (pg t) uV:=by
 refine dI λf h w R a HS H=>?_;unfold pg at a;go_enter func136,ntmps136;have C:=Io E t w;cases hn:sM t.chars with
 |true=>
  rw[hn]at C a;replace a:Hid (R= .ok () h):=a;go_wp21;refine C.mono ?_;rintro e w ⟨rfl,d⟩;replace H:=H.k0 d;go_wp2;go_end0;exact fZ a H rfl
 |false=>
  rw[hn]at C a;replace a:Hid (R=(jR t>>=λ_=>(pure ():M Unit)) h):=a;go_wp21;refine C.mono ?_;rintro e w ⟨rfl,d⟩;replace H:=H.k0 d;go_wp21;refine dC (vc E u t) H a HS rfl lT ?_;rintro(_) f h w H D z a;go_wp2;go_end0;exact fZ a H rfl
def Ji (E:Env) (C:li E) (t:gz) (F:iY E t):iU E 185 (λ_=>#[Bp E,iA E t]) (ob t) uV:=by
 refine dI λf u w R a HS H=>?_;unfold ob at a;go_enter func185,ntmps185;go_wp21;refine zV (λD=>xA H.rel D) H a HS lT ?_;rintro(_) u w H z a;go_wp21;refine(FE E _).mono ?_;rintro e w ⟨K,G,rfl,d,h⟩;replace H:=H.k0 h;go_wp21;refine zV (λ_=>vi H.rel d) H a HS lT ?_;rintro(_) u w H z a;go_wp21;refine dC (kO E C t F) H a HS rfl lT ?_;rintro(_) f u w H I z a;go_wp2;go_end0;exact fZ a H rfl
def VX (E:Env) (h:li E) (t:gz) (z:iY E t):iU E 186 (λ_=>#[Bp E,iA E t]) (wP t) uV:=by
 refine dI λf d w R a HS H=>?_;unfold wP at a;go_enter func186,ntmps186;go_wp21;refine zV (λu=>xA H.rel u) H a HS lT ?_;rintro(_) d w H e a;go_wp21;refine dC (ve E h t z) H a HS rfl lT ?_;rintro(_) f d w H C e a;go_wp2;go_end0;exact fZ a H rfl
def Kz (E:Env) (C:li E) (t:gz) (D:iY E t):iU E 192 (λ_=>#[Bp E,iA E t]) (oZ t) uV:=by
 refine dI λf u w R a HS H=>?_;unfold oZ at a;go_enter func192,ntmps192;go_wp21;refine(ni E [gE] _ (by decide)).mono ?_;rintro e w ⟨I,F,rfl,d,h⟩;replace H:=H.k0 h;go_wp21;refine zV (λ_=>vi H.rel d) H a HS lT ?_;rintro(_) u w H z a;go_wp21;refine dC (qS E C t D) H a HS rfl lT ?_;rintro(_) f u w H G z a;go_wp2;go_end0;exact fZ a H rfl
def zx (E:Env) (C:li E) (t:gz) (D:iY E t):iU E 137 (λ_=>#[Bp E,iA E t]) (jP t) uV:=by
 refine dI λf u w R a HS H=>?_;unfold jP at a;go_enter func137,ntmps137;go_wp21;refine(tM E _).mono ?_;rintro e w ⟨I,F,rfl,d,h⟩;replace H:=H.k0 h;go_wp21;refine zV (λ_=>vi H.rel d) H a HS lT ?_;rintro(_) u w H z a;go_wp21;refine dC (kO E C t D) H a HS rfl lT ?_;rintro(_) f u w H G z a;go_wp2;go_end0;exact fZ a H rfl
def sA (E:Env) (F:li E) (t:gz) (G:iY E t):iU E 138 (λ_=>#[Bp E,iA E t]) (jp t) uV:=by
 refine dI λf C w R a HS H=>?_;unfold jp at a;go_enter func138,ntmps138;go_wp21;refine(tM E _).mono ?_;rintro e w ⟨O,I,rfl,d,u⟩;replace H:=H.k0 u;go_wp21;refine zV (λ_=>vi H.rel d) H a HS lT ?_;rintro(_) C w H D a;go_wp21;refine(qL E _).mono ?_;rintro e w ⟨U,K,rfl,h,z⟩;replace H:=H.k0 z;go_wp21;refine zV (λ_=>vi H.rel h) H a HS lT ?_;rintro(_) C w H D a;go_wp21;refine dC (kO E F t G) H a HS rfl lT ?_;rintro(_) f C w H N D a;go_wp2;go_end0;exact fZ a H rfl
def DH (E:Env) (h:li E) (t:gz) (u:iY E t):iU E 139 (λ_=>#[Bp E,iA E t]) (lG t) uV:=by
 refine dI λf d w R a HS H=>?_;unfold lG at a;go_enter func139,ntmps139;go_wp21;refine dC (sA E h t u) H a HS rfl lT ?_;rintro(_) f d w H z e a;go_wp21;refine mC (BL E) H a HS rfl lT ?_;rintro(_) d w H e a;go_wp2;go_end0;exact fZ a H rfl
def AW (E:Env) (t:gz):iU E 142 (λ_=>#[Bp E,iA E t]) (mO) uV:=by
 refine dI λf z w R a HS H=>?_;unfold mO at a;go_enter func142,ntmps142;go_wp21;refine(tM E _).mono ?_;rintro e w ⟨D,u,rfl,d,h⟩;replace H:=H.k0 h;go_wp21;refine zV (λ_=>vi H.rel d) H a HS lT ?_;rintro(_) z w H C a;go_wp2;go_end0;exact fZ a H rfl
def Ky (E:Env) (h:li E) (t:gz) (u:iY E t):iU E 198 (λ_=>#[Bp E,iA E t]) (oY t) uV:=by
 refine dI λf d w R a HS H=>?_;unfold oY at a;go_enter func198,ntmps198;go_wp21;refine dC (qS E h t u) H a HS rfl lT ?_;rintro(_) f d w H z e a;go_wp21;refine mC (zD E) H a HS rfl lT ?_;rintro(_) d w H e a;go_wp2;go_end0;exact fZ a H rfl
def Jh (E:Env) (C:li E) (t:gz) (D:iY E t):iU E 116 (λ_=>#[Bp E,iA E t]) (pu t) uV:=by
 refine dI λf u w R a HS H=>?_;unfold pu at a;go_enter func116,ntmps116;go_wp21;refine(LQ E _).mono ?_;rintro e w ⟨O,F,rfl,d,h⟩;replace H:=H.k0 h;go_wp21;refine zV (λ_=>D8 H.rel d) H a HS lT ?_;rintro(_) u w H z a;go_wp21;refine mC (zD E) H a HS rfl lT ?_;rintro(_) u w H z a;go_wp21;refine dC (kO E C t D) H a HS rfl lT ?_;rintro(_) f u w H G z a;have I:=H.ru;have K:=H.free 192;have N:=H.lt;replace H:=H.iW 9;go_wp2;go_end0;exact fZ a H rfl
def U7 (E:Env) (t:gz):iU E 203 (λ_=>#[Bp E,iA E t]) (AG) uV:=by
 refine dI λf F w R h HS H=>?_;unfold AG at h;go_enter func203,ntmps203;go_wp21;refine(ni E [kF] _ (by decide)).mono ?_;rintro e w ⟨I,C,rfl,a,z⟩;replace H:=H.k0 z;go_wp21;refine(Kh H.rel).mono ?_;rintro e w ⟨K,D,rfl,u,d⟩;replace H:=H.k0 d;replace a:=a.k0 d;go_wp21;refine zV (λ_=>yn H.rel a u) H h HS lT ?_;rintro(_) F w H G h;go_wp2;go_end0;exact fZ h H rfl
def Rz (E:Env) (h:li E) (t:gz):iU E 205 (λ_=>#[Bp E,iA E t]) (ut) uV:=by
 refine dI λf d w R a HS H=>?_;unfold ut at a;go_enter func205,ntmps205;go_wp21;refine dC (rC E h) H a HS rfl lT ?_;rintro(_) f d w H u e a;go_wp21;refine dC (ud E h jN) H a HS rfl lT ?_;rintro(_) f d w H u e a;go_wp21;refine mC (BL E) H a HS rfl lT ?_;rintro(_) d w H e a;go_wp2;go_end0;exact fZ a H rfl
section
attribute [local go_sem] Oper.semAt_some
def pW (f:FuncId):Fence.wide.fn f=True:=rfl
attribute [local go_sem] pW
attribute [local simp] pW
def Dj {σ:Ab}:∀{xs:kL},(∀y∈xs,y≠some it/\iJ (σ.qK y)=false)->σ.nQ it xs=false
 |[],_=>rfl
 |x::xs,h=>by
  unfold Ab.nQ;have⟨h1,h2⟩:=h x (by simp);rw[gI h1,h2];exact Dj λy a=>h y (by simp[a])
theorem Dl {σ:Ab} {r : Bool} (a:(y=some it/\r=true)\/(y≠some it/\iJ (σ.qK y)=true/\r=false)):∀{xs:kL},(∀y∈xs,y≠some it/\iJ (σ.qK y)=false)->σ.nQ it (xs++[y]++rest)=r
 |[],_=>by
  grind[Ab.nQ]
 |x::xs,h=>by
  show σ.nQ it (x::(xs++[y]++rest))=r;unfold Ab.nQ;have⟨h1,h2⟩:=h x (by simp);rw[gI h1,h2];exact Dl a λy d=>h y (by simp[d])
theorem FH {σ:Ab} (h:RF E f σ w) (it:Nat) (a7:σ.gQ (some it)=true):
  Calls prog 277 #[Bp E,nV f it] w λe w'=>e=ir (.bool (σ.oB it))/\Kept [] w w':=by
 obtain⟨L,rfl,u⟩:=h;have⟨fb,ab,lb0,cb,hb⟩:=u.bounds;have⟨kb,lbb,eb,heb,H2⟩:=hb.call;cases eb;refine(xk (n:=3)).1 ?_;refine xl func277 rfl trivial ?_ rfl;simp only[ntmps277,wS,sW,wx,Nat.reduceAdd,Nat.reduceSub,wT,wU,wV,wW,sC,uT];obtain⟨O,G⟩:∃O,O=((w.alloc (gy #[Bp E] 117)).alloc (gy #[gF (L.gH it)] 65)).alloc (gy #[.bool false] 4):=⟨_,rfl⟩;have a3:Kept [] w O:=by rw[G];exact(((Kept.refl _ _).alloc _).alloc _).alloc _
 have⟨b0,b1,b2⟩:=oc w (gy #[Bp E] 117) (gy #[gF (L.gH it)] 65) (gy #[.bool false] 4);rw[<-G]at b0 b1 b2;have a:O.heap.size=w.heap.size+1+1+1:=by rw[G];simp
 have aa:=u.ib a3;have⟨C,HL,hC⟩:=aa.yD;have a8:=u.lt;have HU:=Vr E.bs E.bB 188 _ C _ _ O HL;have a5:=(λ(W:gr) (F:Kept [] w W)=>(F.cell (p:=⟨E.bB,186,none⟩) a8 (by simp)).trans cb);have HO:=(λg (I:L.ov.ownBlock=some g)=>BT u.oP I);have HN:=(λ(W:gr) (F:Kept [] w W) (i:Nat) (e:zz) (hi:σ.gV i=some e)=>(u.ib F).uK hi);have HS:=(λ(y:jb) (H:y∈σ.gq)=>u.nU H);have HI:=u.inj;have HE:=(λ(W:gr) (F:Kept [] w W) (x:jb) (hx:σ.gQ x=true)=>(u.ib F).gQ hx);have HZ:=fN a;have HW:=fN G;clear a G
 gi_wp2_with fail
 rw[<-HW.out];refine(callsIn_wide.2 HU).mono ?_;rintro e w' ⟨rfl,rfl⟩;gi_wp2;refine Ui (by omega) (f:=iw L.gH) (λx y e=>ry HI e) HL rfl [w.heap.size+1+1] ?_
  (λpre W=>Kept [] w W/\W.heap[w.heap.size]?=some (gy #[Bp E] 117)/\W.heap[w.heap.size+1]?=some (gy #[gF (L.gH it)] 65)/\W.heap[w.heap.size+1+1]?=some (gy #[.bool false] 4)/\∀y∈pre,y≠some it/\iJ (σ.qK y)=false)
  (λc pre W=>c= .ret/\Kept [] w W/\∃d y r,pre=d++[y]/\(∀y∈d,y≠some it/\iJ (σ.qK y)=false)/\((y=some it/\r=true)\/(y≠some it/\iJ (σ.qK y)=true/\r=false))/\W.heap[w.heap.size+1+1]?=some (gy #[.bool r] 4))
  ?_ ?_ ?_ (λx=>{tmps:=#[Bp E,gF (L.gH it),gF w.heap.size,gF (w.heap.size+1),gF (w.heap.size+1+1),jY x,Bp E,gF E.bB,lK E.bB 188,uz O.heap.size,jY x,undef,undef,undef,undef,undef,undef,undef,undef,undef,undef,undef,undef,undef,undef],defers:=[]}) ?assign ?body ?done ?stop
 .grind
 .rintro s A B ad ⟨h1,h2,h3,N,V⟩ I u;have a:=HZ.out;exact⟨lX h1 I u (by omega),ky h2 I u (by omega),ky h3 I u (by omega),ky N I u (by omega),V⟩
 .rintro c s A B ad ⟨h0,h1,d,y,r,h2,h3,N,V⟩ I u;have a:=HZ.out;exact⟨h0,lX h1 I u (by omega),d,y,r,h2,h3,N,ky V I u (by omega)⟩
 .have F:Kept [] O (mx E.bB 188 (σ.gq.length) O):=((Kept.refl _ _).alloc _).alloc _;exact⟨a3.trans F,F.at b0 (by simp),F.at b1 (by simp),F.at b2 (by simp),by simp⟩
 case assign=>
  intro l x W K hK;gi_wp2;exact hK
 case body=>
  rintro l pre y W H ⟨z,B2,B3,B4,B5⟩;obtain⟨i,e0,rfl,hi⟩:=HS y H;have c0:=HN W z i e0 hi;have cB:=a5 W z;have c1:=fO B2 0;have c2:=fO B3 0;have U:=fO B4 0;have f3:=gu B4 0;dsimp at c1 c2 U;have HB:=(λW' (F:Kept [] w W')=>H2 W' (.gP F) (σ.nm i));have HT:Hid (∀(q:Nat) (r:Bool),Kept [w.heap.size+1+1] W ((W.drewN q).setCell ⟨w.heap.size+1+1,0,none⟩ (.bool r))/\Kept [] w ((W.drewN q).setCell ⟨w.heap.size+1+1,0,none⟩ (.bool r))/\((W.drewN q).setCell ⟨w.heap.size+1+1,0,none⟩ (.bool r)).heap[w.heap.size+1+1]?=some (gy #[.bool r] 4)):=λq r=>⟨((Kept.refl _ W).drewN q).setCell (.inl (by simp)) _,(z.drewN q).setCell (.inr (by simp;omega)) _,fV (show(W.drewN q).heap[w.heap.size+1+1]?=_ from B4) 0 _⟩;have a6:Hid (∀(r:Bool),Kept [w.heap.size+1+1] W (W.setCell ⟨w.heap.size+1+1,0,none⟩ (.bool r))/\Kept [] w (W.setCell ⟨w.heap.size+1+1,0,none⟩ (.bool r))/\(W.setCell ⟨w.heap.size+1+1,0,none⟩ (.bool r)).heap[w.heap.size+1+1]?=some (gy #[.bool r] 4)):=λr=>⟨(Kept.refl _ W).setCell (.inl (by simp)) _,z.setCell (.inr (by simp;omega)) _,fV B4 0 _⟩;have Y:=Bx (HE W z (some i) (by show(σ.gV i).isSome=true;rw[hi];rfl)) (HE W z (some it) a7);rw[show ptr (iw L.gH (some i))=some ⟨L.gH i,0,none⟩from rfl,show ptr (iw L.gH (some it))=some ⟨L.gH it,0,none⟩from rfl]at Y
  try dsimp only
  rw[show jY (iw L.gH (some i))=gF (L.gH i)from rfl];by_cases Z:i=it
  .subst Z;rw[uR rfl]at Y;gi_wp2;have⟨t1,t2,t3⟩:=a6.out true;exact⟨t1,rfl,t2,pre,some i,true,rfl,B5,.inl ⟨rfl,rfl⟩,t3⟩
  .have a9:L.gH i≠L.gH it:=λe=>Z (HI _ _ e);have a1:(some i:jb)≠some it:=λe=>Z (jz e);rw[wQ (by simpa using a9)]at Y;gi_wp2;refine Ac l (by kernel_rfl) (by kernel_rfl) (by rfl) ?_
   repeat (gi_big_quiet_step ((exact callsIn_wide.2 (LX (HB _ (z.drewN _))))))
   refine wpQuietIn_nil ?_;intro _ ac;have⟨nq,hw''⟩:=ac;subst hw'';cases hq:iJ (σ.nm i)with
   |true=>
    gi_wp2;have⟨t1,t2,t3⟩:=HT.out nq false;exact⟨t1,rfl,t2,pre,some i,false,rfl,B5,.inr ⟨a1,hq,rfl⟩,t3⟩
   |false=>
    have HQ:=hq;gi_wp2;refine⟨(Kept.refl _ W).drewN nq,z.drewN nq,B2,B3,B4,λy H=>?_⟩;rcases List.mem_append.1 H with H|H
    .exact B5 y H
    .rw[List.mem_singleton.1 H];exact⟨a1,HQ⟩
 case done=>
  rintro D W HD ⟨z,h2,h3,N,V⟩ hK;have a:=HZ.out;have U:=fO N 0;have f3:=gu N 0;dsimp at U;have a0:σ.oB it=false:=Dj (λy H=>V y H);clear a;gi_wp2;have a2:=(NV W ⟨w.heap.size+1+1,0,none⟩ (.bool false)).same D _ hK rfl;refine⟨by simp,.inl ⟨_,_,rfl,oM a2,?_⟩⟩;have X:=cell_kept (World.cell?_setCell_same' W ⟨w.heap.size+1+1,0,none⟩ (.bool false) (by rw[U];rfl)) (Bl _ D (.deferred none)) (λr e=>by cases e;exact⟨_,a2,rfl⟩);refine⟨.bool false,?_,⟨by rw[a0],?_⟩⟩
  .simp[results,results277,go_sem,X]
  .have a:=HZ.out;have hD:=HD;exact(z.setCell (.inr (by simp;omega)) _).take (by omega) _
 case stop=>
  rintro D c pre W HD a4 ⟨rfl,z,d,y,r,rfl,h3,N,V⟩ hK;have⟨rest,hrest⟩:=a4;have a0:σ.oB it=r:=by unfold Ab.oB;rw[<-hrest];exact Dl N h3
  have U:=fO V 0;dsimp at U;gi_wp2;refine⟨by simp,.inl ⟨_,_,rfl,oM hK,?_⟩⟩;have X:=cell_kept U (Bl _ D (.deferred none)) (λr e=>by cases e;exact⟨_,hK,rfl⟩);refine⟨.bool r,?_,⟨by rw[a0],?_⟩⟩
  .simp[results,results277,go_sem,X]
  .have a:=HZ.out;have hD:=HD;exact z.take (by omega) _
end
theorem Kl (s:gn) (w:gr):Calls prog 285 #[gw s] w λe w'=>e=ir (ga (jG s))/\w'=w:=by
 have a:jG s=if (s.toList==[116,100]||s.toList==[116,104])then 13 else if s.toList==[116,114]then 12 else if (s.toList==[116,98,111,100,121]||(s.toList==[116,104,101,97,100]||s.toList==[116,102,111,111,116]))then 11 else if s.toList==[99,97,112,116,105,111,110]then 9 else if s.toList==[99,111,108,103,114,111,117,112]then 10 else if s.toList==[116,97,98,108,101]then 7 else 6:=by
  unfold jG hH kh;simp only[List.any_cons,List.any_nil,Bool.or_false,sD]
 rw[a];go_enter func285,ntmps285;go_wp2
 all_goals go_ret
 all_goals refine⟨?_,rfl⟩
 all_goals simp_all
attribute [local go_sem] Oper.semAt_some
theorem Kept.both {a : gr} (h:Kept [] a w) (F:a.heap[b]?=some (gy c t)) (j:Nat) (v:gG):Kept [] (a.setCell ⟨b,j,none⟩ v) (w.setCell ⟨b,j,none⟩ v):=by
 have u:=(Kept.refl [b] a).setCell (p:=⟨b,j,none⟩) (.inl (by simp)) v;have z:=(Kept.refl [b] w).setCell (p:=⟨b,j,none⟩) (.inl (by simp)) v;have d:(a.setCell ⟨b,j,none⟩ v).heap.size=a.heap.size:=by simp
 have D:(w.setCell ⟨b,j,none⟩ v).heap.size=w.heap.size:=by simp
 refine⟨z.os.trans (h.os.trans u.os.symm),z.tape.trans (h.tape.trans u.tape.symm),z.output.trans (h.output.trans u.output.symm),by rw[d,D];exact h.size,λk e _=>?_⟩;rw[d]at e;by_cases C:k=b
 .subst C;exact(fV (h.at F (by simp)) j v).trans (fV F j v).symm
 .rw[z.block k (mf e h.size) (by grind),u.block k e (by grind),h.block k e (by simp)]
def I8 {σ:Ab}:∀{xs:kL},(∀y∈xs,jG (σ.qK y)=6)->tO σ xs=6
 |[],_=>rfl
 |x::xs,h=>by
  unfold tO;rw[gN (h x (by simp))];exact I8 λy a=>h y (by simp[a])
theorem I9 {σ:Ab} (a:jG (σ.qK y)≠6):∀{xs:kL},(∀y∈xs,jG (σ.qK y)=6)->tO σ (xs++[y]++rest)=jG (σ.qK y)
 |[],_=>by
  grind[tO]
 |x::xs,h=>by
  show tO σ (x::(xs++[y]++rest))=_;unfold tO;rw[gN (h x (by simp))];exact I9 a λy d=>h y (by simp[d])
theorem TZ {σ:Ab} (h:RF E f σ w):
  Calls prog 220 #[Bp E] w (jS E f σ.nodes.length w (xh σ) uV):=by
 obtain⟨L,rfl,u⟩:=h;refine(xk (n:=3)).1 ?_;refine xl func220 rfl trivial ?_ rfl;simp only[ntmps220,wS,sW,wx,Nat.reduceAdd,Nat.reduceSub,wT,wU,wV,wW,sC,uT];have ac:=u.lt;have cm:=u.ru;have fm:=u.free 192;have a9:=u.iW 6;have a8:Fr E.bs w (w.setCell ⟨E.bB,192,none⟩ (ga ((6:Nat)))):=(At.start ⟨L,rfl,u⟩).J5 192 _;obtain⟨z,H⟩:∃z,z=(w.setCell ⟨E.bB,192,none⟩ (ga 6)).alloc (gy #[Bp E] 117):=⟨_,rfl⟩;have a1:Kept [] (w.setCell ⟨E.bB,192,none⟩ (ga 6)) z:=by rw[H];exact(Kept.refl _ _).alloc _
 have b0:z.heap[w.heap.size]?=some (gy #[Bp E] 117):=by
  rw[H];have:=fQ (w.setCell ⟨E.bB,192,none⟩ (ga 6)) (gy #[Bp E] 117)
  simpa using this
 have O:z.heap.size=w.heap.size+1:=by rw[H];simp
 have d:=a9.ib a1;have⟨C,HL,hC⟩:=d.yD;have HU:=Vr E.bs E.bB 188 _ C _ _ z HL;have HO:=(λg (hg:L.ov.ownBlock=some g)=>BT u.oP hg);have HN:=(λ(W:gr) (hk:Kept [] z W) (i:Nat) (e:zz) (hi:σ.gV i=some e)=>(show W.cell? ⟨L.gH i,0,none⟩=some (gw (σ.nm i))from(d.ib hk).uK (σ:={σ with mode:=6}) hi));have HS:=(λ(y:jb) (N:y∈σ.gq)=>u.nU N);have HI:=u.inj;have HM:=(λ(W:gr) (hk:Kept [] z W)=>(⟨(d.ib hk).ru,(d.ib hk).free 192,(d.ib hk).lt⟩:_/\_/\_));have V:=fN d;have a0:=a8.trans (.gP a1);have a4:=HL.ik;have ab:=u.fr.size;clear d;have HZ:=fN O;have HW:=fN H;clear O H
 gi_wp2_with fail
 rw[<-HW.out];refine⟨trivial,(callsIn_wide.2 HU).mono ?_⟩;rintro e w' ⟨rfl,rfl⟩;gi_wp2;refine DQ (by omega) (f:=iw L.gH) (λx y e=>ry HI e) HL rfl [] [E.bB] (by simp) (by grind)
  (λpre W=>Kept [] z W/\∀y∈pre,jG (σ.qK y)=6)
  (λc pre W=>c= .ret/\∃a y,pre=a++[y]/\(∀y∈a,jG (σ.qK y)=6)/\jG (σ.qK y)≠6/\Kept [] (z.setCell ⟨E.bB,192,none⟩ (ga (jG (σ.qK y)))) W)
  ?_ ?_ ?_ (λx=>{tmps:=#[Bp E,gF w.heap.size,jY x,undef,Bp E,gF E.bB,lK E.bB 192,Bp E,gF E.bB,lK E.bB 188,uz z.heap.size,jY x,undef,undef,undef,undef,undef,undef,undef,undef,undef,undef,undef],defers:=[]}) ?assign ?body ?done ?stop
 .rintro s A B aa ⟨F,I⟩ hg u;exact⟨lX F hg u (by omega),I⟩
 .rintro c s A B aa ⟨h0,a,y,h2,h3,h4,I⟩ hg u;exact⟨h0,a,y,h2,h3,h4,lX I hg u (by simp)⟩
 .exact⟨((Kept.refl _ _).alloc _).alloc _,by simp⟩
 case assign=>
  intro l x W K hK;gi_wp2;exact hK
 case body=>
  rintro l pre y W N ⟨F,B5⟩;obtain⟨i,e0,rfl,hi⟩:=HS y N;have c0:=HN W F i e0 hi;have c1:=fO (F.at b0 (by simp)) 0;dsimp at c1;have⟨c2,f2,hl2⟩:=HM W F;have HB:=(λW=>Kl (σ.nm i) W);have HK:=fN F;have HT:=(λv=>(Kept.refl [E.bB] W).setCell (p:=⟨E.bB,192,none⟩) (.inl (by simp)) v);have a7:=(λv=>F.both a4 192 v);clear F
  try dsimp only
  rw[show jY (iw L.gH (some i))=gF (L.gH i)from rfl];obtain⟨mm,X⟩:∃mm,mm=jG (σ.nm i):=⟨_,rfl⟩;rw[<-X]at HB;have U:Hid (jG (σ.qK (some i))=mm):=fN X.symm;clear X
  gi_wp2_with (first|(refine⟨trivial,?_⟩;refine(qu l (callsIn_wide.2 (HB _))).mono ?_;rintro e W ⟨rfl,rfl⟩))
  .rename_i Y;have a2:mm≠6:=by intro e;subst e;simp at Y
   refine⟨HT _,rfl,pre,some i,rfl,B5,by rw[U.out];omega,?_⟩;rw[U.out];exact a7 _
  .rename_i Y;have a2:mm=6:=by
    have:¬((mm:Int)≠6):=by simpa using Y
    omega
   refine⟨Kept.refl _ _,HK.out,λy N=>?_⟩;rcases List.mem_append.1 N with N|N
   .exact B5 y N
   .rw[List.mem_singleton.1 N,U.out];omega
 case done=>
  rintro D W HD ⟨F,I⟩ hK;have Z:xh σ= .ok () {σ with mode:=6}:=by
   show pC.ok () {σ with mode:=tO σ σ.gq.reverse}=_;rw[I8 I]
  rw[Z];have HK:=fN F;clear F I;gi_wp2;refine⟨by simp,.inl ⟨_,_,rfl,oM hK,?_⟩⟩;have O:=HZ.out;have hD:=HD;have G:=HK.out.take (D:=D) (by omega) (.deferred none);exact⟨_,F8 rfl _ _ _,rfl,⟨L,rfl,V.out.ib G⟩,a0.trans (.gP G),gW _⟩
 case stop=>
  rintro D c pre W HD a3 ⟨rfl,a,y,rfl,h3,h4,I⟩ hK;have⟨rest,hrest⟩:=a3;have Z:xh σ= .ok () {σ with mode:=jG (σ.qK y)}:=by
   show pC.ok () {σ with mode:=tO σ σ.gq.reverse}=_;rw[<-hrest,I9 h4 h3]
  rw[Z];have a6:=V.out.iW (jG (σ.qK y));have a5:Fr E.bs z (z.setCell ⟨E.bB,192,none⟩ (ga (jG (σ.qK y)))):=(At.start ⟨L,rfl,V.out⟩).J5 192 _;have HK:=fN I;clear I;gi_wp2;refine⟨by simp,.inl ⟨_,_,rfl,oM hK,?_⟩⟩;have O:=HZ.out;have hD:=HD;have G:=HK.out.take (D:=D) (by simp;omega) (.deferred none);exact⟨_,F8 rfl _ _ _,rfl,⟨L,rfl,a6.ib G⟩,(a0.trans a5).trans (.gP G),gW _⟩
section
attribute [local go_sem] Oper.semAt_some
attribute [local go_sem] pW
attribute [local simp] pW
def Ab.ik (σ:Ab) (pre:kL) (b:jb):jb:=pre.foldl (λb y=>if kQ (σ.qK y)then y else b) b
def GV {σ:Ab}:∀{xs:kL} {b:jb},(∀y∈xs,y≠some it)->σ.uE it xs b=σ.ik xs b
 |[],_,_=>rfl
 |x::xs,b,h=>by
  unfold Ab.uE;rw[gI (h x (by simp))];exact GV λy a=>h y (by simp[a])
theorem GW {σ:Ab}:∀{xs:kL} {b:jb},(∀y∈xs,y≠some it)->σ.uE it (xs++[some it]++rest) b=σ.ik xs b
 |[],b,_=>by
  grind[Ab.uE,Ab.ik]
 |x::xs,b,h=>by
  show σ.uE it (x::(xs++[some it]++rest)) b=_;unfold Ab.uE;rw[gI (h x (by simp))];exact GW λy a=>h y (by simp[a])
def Om (σ:Ab) (pre:kL) (y b:jb):σ.ik (pre++[y]) b=if kQ (σ.qK y)then y else σ.ik pre b:=by
 simp[Ab.ik]
theorem JQ {σ:Ab} (h:RF E f σ w) (it:Nat) (a3:σ.gQ (some it)=true):
  Calls prog 343 #[Bp E,nV f it] w λe w'=>e=ir (oV f (σ.p9 it))/\Kept [] w w':=by
 obtain⟨L,rfl,d⟩:=h;have⟨fb,ab,lb0,cb,hb⟩:=d.GG;have⟨kb,lbb,eb,heb,H2⟩:=hb.call;cases eb;refine(xk (n:=3)).1 ?_;refine xl func343 rfl trivial ?_ rfl;simp only[ntmps343,wS,sW,wx,Nat.reduceAdd,Nat.reduceSub,wT,wU,wV,wW,sC,uT];obtain⟨N,H⟩:∃N,N=((w.alloc (gy #[Bp E] 117)).alloc (gy #[gF (L.gH it)] 65)).alloc (gy #[.pointer none] 65):=⟨_,rfl⟩;have a0:Kept [] w N:=by rw[H];exact(((Kept.refl _ _).alloc _).alloc _).alloc _
 have⟨b0,b1,b2⟩:=oc w (gy #[Bp E] 117) (gy #[gF (L.gH it)] 65) (gy #[.pointer none] 65);rw[<-H]at b0 b1 b2;have u:N.heap.size=w.heap.size+1+1+1:=by rw[H];simp
 have a6:=d.ib a0;have⟨C,HL,hC⟩:=a6.yD;have a4:=d.lt;have HU:=Vr E.bs E.bB 188 _ C _ _ N HL;have a2:=(λ(W:gr) (F:Kept [] w W)=>(F.cell (p:=⟨E.bB,184,none⟩) a4 (by simp)).trans cb);have HO:=(λg (I:L.ov.ownBlock=some g)=>BT d.oP I);have HN:=(λ(W:gr) (F:Kept [] w W) (i:Nat) (e:zz) (hi:σ.gV i=some e)=>(d.ib F).uK hi);have HS:=(λ(y:jb) (Y:y∈σ.gq)=>d.nU Y);have HI:=d.inj;have HE:=(λ(W:gr) (F:Kept [] w W) (x:jb) (hx:σ.gQ x=true)=>(d.ib F).gQ hx);have HZ:=fN u;have HW:=fN H;clear u H
 gi_wp2_with fail
 rw[<-HW.out];refine(callsIn_wide.2 HU).mono ?_;rintro e w' ⟨rfl,rfl⟩;gi_wp2;refine DQ (by omega) (f:=iw L.gH) (λx y e=>ry HI e) HL rfl [w.heap.size+1+1] [] ?_ (by simp)
  (λpre W=>Kept [] w W/\W.heap[w.heap.size]?=some (gy #[Bp E] 117)/\W.heap[w.heap.size+1]?=some (gy #[gF (L.gH it)] 65)/\W.heap[w.heap.size+1+1]?=some (gy #[oV L.gH (σ.ik pre none)] 65)/\∀y∈pre,y≠some it)
  (λc pre W=>c= .exit 0/\Kept [] w W/\∃a,pre=a++[some it]/\(∀y∈a,y≠some it)/\W.heap[w.heap.size+1+1]?=some (gy #[oV L.gH (σ.ik a none)] 65))
  ?_ ?_ ?_ (λx=>{tmps:=#[Bp E,gF (L.gH it),gF w.heap.size,gF (w.heap.size+1),.pointer none,gF (w.heap.size+1+1),jY x,Bp E,gF E.bB,lK E.bB 188,uz N.heap.size,jY x,undef,undef,undef,undef,undef,undef,undef,undef,undef,undef,undef,undef,undef,undef],defers:=[]}) ?assign ?body ?done ?stop
 .grind
 .rintro s A B a8 ⟨h1,h2,Z,h4,U⟩ I d;have u:=HZ.out;exact⟨lX h1 I d (by omega),ky h2 I d (by omega),ky Z I d (by omega),ky h4 I d (by omega),U⟩
 .rintro c s A B a8 ⟨h0,h1,a,h2,Z,U⟩ I d;have u:=HZ.out;exact⟨h0,lX h1 I d (by omega),a,h2,Z,ky U I d (by omega)⟩
 .have F:Kept [] N (mx E.bB 188 (σ.gq.length) N):=((Kept.refl _ _).alloc _).alloc _;exact⟨a0.trans F,F.at b0 (by simp),F.at b1 (by simp),F.at b2 (by simp),by simp⟩
 case assign=>
  intro l x W K hK;gi_wp2;exact hK
 case body=>
  rintro l pre y W Y ⟨z,B2,B3,B4,B5⟩;obtain⟨i,e0,rfl,hi⟩:=HS y Y;have c0:=HN W z i e0 hi;have cB:=a2 W z;have c1:=fO B2 0;have c2:=fO B3 0;have c3:=fO B4 0;have f3:=gu B4 0;dsimp at c1 c2 c3;have HB:=(λW' (F:Kept [] w W')=>H2 W' (.gP F) (σ.nm i));have HT:Hid (∀(q:Nat) (r:gG),Kept [w.heap.size+1+1] W ((W.drewN q).setCell ⟨w.heap.size+1+1,0,none⟩ r)/\Kept [] w ((W.drewN q).setCell ⟨w.heap.size+1+1,0,none⟩ r)/\((W.drewN q).setCell ⟨w.heap.size+1+1,0,none⟩ r).heap[w.heap.size+1+1]?=some (gy #[r] 65)/\((W.drewN q).setCell ⟨w.heap.size+1+1,0,none⟩ r).heap[w.heap.size]?=some (gy #[Bp E] 117)/\((W.drewN q).setCell ⟨w.heap.size+1+1,0,none⟩ r).heap[w.heap.size+1]?=some (gy #[gF (L.gH it)] 65)):=λq r=>
   have kk:=((Kept.refl [w.heap.size+1+1] W).drewN q).setCell (p:=⟨w.heap.size+1+1,0,none⟩) (.inl (by simp)) r
   ⟨kk,(z.drewN q).setCell (.inr (by simp;omega)) _,fV (show(W.drewN q).heap[w.heap.size+1+1]?=_ from B4) 0 _,kk.at B2 (by simp;omega),kk.at B3 (by simp)⟩
  have V:=Bx (HE W z (some i) (by show(σ.gV i).isSome=true;rw[hi];rfl)) (HE W z (some it) a3);rw[show ptr (iw L.gH (some i))=some ⟨L.gH i,0,none⟩from rfl,show ptr (iw L.gH (some it))=some ⟨L.gH it,0,none⟩from rfl]at V
  try dsimp only
  rw[show jY (iw L.gH (some i))=gF (L.gH i)from rfl];by_cases X:i=it
  .subst X;rw[uR rfl]at V;gi_wp2;exact⟨Kept.refl _ _,rfl,z,pre,rfl,B5,B4⟩
  .have a5:L.gH i≠L.gH it:=λe=>X (HI _ _ e);have a9:(some i:jb)≠some it:=λe=>X (jz e);rw[wQ (by simpa using a5)]at V;gi_wp2;refine Ac l (by kernel_rfl) (by kernel_rfl) (by rfl) ?_
   repeat (gi_big_quiet_step ((exact callsIn_wide.2 (LX (HB _ (z.drewN _))))))
   refine wpQuietIn_nil ?_;intro _ a7;have⟨nq,hw''⟩:=a7;subst hw'';cases hq:kQ (σ.nm i)with
   |true=>
    have HQ:=fN hq;clear hq;gi_wp2;have⟨t1,t2,t3,t4,t5⟩:=HT.out nq (gF (L.gH i));refine⟨t1,t2,t4,t5,?_,λy Y=>?_⟩
    .rw[Om,show σ.qK (some i)=σ.nm i from rfl,HQ.out];exact t3
    grind
   |false=>
    have HQ:=fN hq;clear hq;gi_wp2;refine⟨(Kept.refl _ W).drewN nq,z.drewN nq,B2,B3,?_,λy Y=>?_⟩
    .rw[Om,show σ.qK (some i)=σ.nm i from rfl,HQ.out];exact B4
    grind
 case done=>
  rintro D W HD ⟨z,h2,Z,h4,U⟩ hK;have c3:=fO h4 0;dsimp at c3;have G:σ.p9 it=σ.ik σ.gq.reverse none:=GV (λy Y=>U y Y);have O:=fN G;clear G;gi_wp2;refine⟨by simp,.inl ⟨_,_,rfl,oM hK,?_⟩⟩;have u:=HZ.out;have hD:=HD;exact⟨_,results_tmp rfl _ _ _,by rw[O.out];rfl,z.take (by omega) _⟩
 case stop=>
  rintro D c pre W HD a1 ⟨rfl,z,a,rfl,Z,U⟩ hK;have⟨rest,hrest⟩:=a1;have G:σ.p9 it=σ.ik a none:=by unfold Ab.p9;rw[<-hrest];exact GW Z
  have O:=fN G;have c3:=fO U 0;dsimp at c3;clear G;gi_wp2;refine⟨by simp,.inl ⟨_,_,rfl,oM hK,?_⟩⟩;have u:=HZ.out;have hD:=HD;exact⟨_,results_tmp rfl _ _ _,by rw[O.out];rfl,z.take (by omega) _⟩
end
attribute [local go_sem] Oper.semAt_some
theorem FA {σ:Ab}:∀{xs:kL},(∀y∈xs,(!kh (σ.qK y) fR)=true\/y=io σ.gq 0)->rI σ xs=none
 |[],_=>rfl
 |x::xs,h=>by
  unfold rI;rw[gN (by grind)];exact FA λy a=>h y (by simp[a])
theorem FB {σ:Ab} (a:¬((!kh (σ.qK y) fR)=true\/y=io σ.gq 0)):∀{xs:kL},(∀y∈xs,(!kh (σ.qK y) fR)=true\/y=io σ.gq 0)->rI σ (xs++[y]++rest)=some y
 |[],_=>by
  grind[rI]
 |x::xs,h=>by
  show rI σ (x::(xs++[y]++rest))=some y;unfold rI;rw[gN (by grind)];exact FB a λy d=>h y (by simp[d])
def BK {a : gr} {s : Nat} (d:Kept [] W a) (u:Kept [] w W) (e:w.heap.size<=s) (h:a.heap[s]?=some (gy #[.pointer none,ga 0] 231)) (v0 v1:gG):
  Kept [s] W ((a.setCell ⟨s,0,none⟩ v0).setCell ⟨s,1,none⟩ v1)/\Kept [] w ((a.setCell ⟨s,0,none⟩ v0).setCell ⟨s,1,none⟩ v1)/\((a.setCell ⟨s,0,none⟩ v0).setCell ⟨s,1,none⟩ v1).heap[s]?=some (gy #[v0,v1] 231):=
 ⟨((d.mono (by simp)).setCell (.inl (by simp)) _).setCell (.inl (by simp)) _,(((u.trans d)).setCell (.inr e) _).setCell (.inr e) _,fV (fV h 0 v0) 1 v1⟩
def VF {a : gr} {s : Nat} (e:Kept [] W a) (u:Kept [] w W) (h:w.heap.size<=s) (d:a.heap[s]?=some (gy #[.pointer none,ga 0] 231)) (v0 v1:gG) (o:Obj):
  Kept [s] W (((a.setCell ⟨s,0,none⟩ v0).setCell ⟨s,1,none⟩ v1).alloc o)/\Kept [] w (((a.setCell ⟨s,0,none⟩ v0).setCell ⟨s,1,none⟩ v1).alloc o)/\(((a.setCell ⟨s,0,none⟩ v0).setCell ⟨s,1,none⟩ v1).alloc o).heap[s]?=some (gy #[v0,v1] 231):=by
 have⟨h1,h2,h3⟩:=BK e u h d v0 v1;exact⟨h1.alloc _,h2.alloc _,((Kept.refl [] _).alloc o).at h3 (by simp)⟩
theorem iF (E:Env):li E:=by
 intro f a w h hs;have aq:∃pl,jO a= .ok pl a:=by
  cases u:jO a with
  |ok pl σ1=>exact⟨pl,by rw[oy u]⟩
  |stop c p=>
   exfalso;unfold jO at u;split at u
   .split at u
    .unfold mF at u;split at u
     .split at u
      .grind
      .split at u
       .unfold jt at u;grind
       grind
     grind
    .cases u
    .split at u
     .unfold jt at u;grind
     grind
   grind
  |stuck=>grind
 have⟨pl0,hpl0⟩:=aq;have a4:a.Al=true:=by
  cases ht:a.Al with
  |true=>rfl
  |false=>unfold jO at hpl0;grind
 rw[hpl0];obtain⟨L,rfl,F⟩:=h;refine(xk (n:=3)).1 ?_;refine xl func257 rfl trivial ?_ rfl;simp only[ntmps257,wS,sW,wx,Nat.reduceAdd,Nat.reduceSub,wT,wU,wV,wW,sC,uT];have ay:=F.lt;obtain⟨H,N⟩:∃H,H=(w.alloc (gy #[Bp E] 117)).alloc (gy #[.pointer none,ga 0] 231):=⟨_,rfl⟩;have ag:Kept [] w H:=by rw[N];exact((Kept.refl _ _).alloc _).alloc _
 have aw:H.heap[w.heap.size]?=some (gy #[Bp E] 117):=by
  have:=(sd w (gy #[Bp E] 117) (gy #[.pointer none,ga 0] 231)).1
  rwa [<-N]at this
 obtain⟨w1,a5⟩:∃w1,w1=H.alloc (gy #[oV L.gH (io a.gq 0)] 65):=⟨_,rfl⟩;have am:Kept [] w w1:=by rw[a5];exact ag.alloc _
 have⟨b0,b1,b2⟩:=oc w (gy #[Bp E] 117) (gy #[.pointer none,ga 0] 231) (gy #[oV L.gH (io a.gq 0)] 65);rw[<-N,<-a5]at b0 b1 b2;have a9:H.heap.size=w.heap.size+1+1:=by rw[N];simp
 have O:w1.heap.size=w.heap.size+1+1+1:=by rw[a5];simp[a9]
 have CA:=aeg (F.ib ag) 0;have az:=F.ib am;have⟨C,HL,hC⟩:=az.yD;have HU:=Vr E.bs E.bB 188 _ C _ _ w1 HL;have HO:=(λg (hg:L.ov.ownBlock=some g)=>BT F.oP hg);have HN:=(λ(W:gr) (z:Kept [] w W) (i:Nat) (e:zz) (hi:a.gV i=some e)=>(F.ib z).uK hi);have HS:=(λ(y:jb) (hy:y∈a.gq)=>F.nU hy);have HI:=fN F.inj;have HE:=(λ(W:gr) (z:Kept [] w W) (x:jb) (hx:a.gQ x=true)=>(F.ib z).gQ hx);have HZ:=fN O;have ac:=fN a9;have av:=fN N;have HW:=fN a5;clear O a5 a9 N;have aB:H.cell? ⟨w.heap.size,0,none⟩=some (Bp E):=by rw[fO aw];rfl
 have aD:E.bB < H.heap.size:=mf ay ag.size;have aE:w.heap.size < H.heap.size:=by have:=ac.out;omega
 gi_wp2_with fail
 rw[<-av.out];refine⟨trivial,(callsIn_wide.2 CA).mono ?_⟩;rintro e H ⟨rfl,rfl⟩
 gi_wp2_with fail
 rw[<-HW.out];refine⟨trivial,(callsIn_wide.2 HU).mono ?_⟩;rintro e w' ⟨rfl,rfl⟩;gi_wp2;refine DQ (by omega) (f:=iw L.gH) (λx y e=>ry HI.out e) HL rfl [] [w.heap.size+1] (by simp) (by grind)
  (λpre W=>Kept [] w W/\W.heap[w.heap.size]?=some (gy #[Bp E] 117)/\W.heap[w.heap.size+1]?=some (gy #[.pointer none,ga 0] 231)/\W.heap[H.heap.size]?=some (gy #[oV L.gH (io a.gq 0)] 65)/\∀y∈pre,(!kh (a.qK y) fR)=true\/y=io a.gq 0)
  (λc pre W=>c= .ret/\Kept [] w W/\∃G i pl,pre=G++[some i]/\(∀y∈G,(!kh (a.qK y) fR)=true\/y=io a.gq 0)/\¬((!kh (a.qK (some i)) fR)=true\/some i=io a.gq 0)/\mF i a= .ok pl a/\W.heap[w.heap.size+1]?=some (gy #[gF (L.gH pl.1),ga pl.2] 231))
  ?_ ?_ ?_ (λx=>{tmps:=#[Bp E,gF w.heap.size,gF (w.heap.size+1),gF H.heap.size,jY x,undef,undef,Bp E,gF E.bB,lK E.bB 188,oV L.gH (io a.gq 0),Bp E,gF E.bB,lK E.bB 188,uz w1.heap.size,jY x,undef,undef,undef,undef,undef,undef,undef,undef,undef,undef,undef,undef,undef,undef,undef,undef,undef,undef,undef,undef,undef,undef,undef,undef,undef],defers:=[]}) ?assign ?body ?done ?stopx
 .rintro s A B aA ⟨h1,h2,h3,h4,h5⟩ hg hr;have O:=HZ.out;have a9:=ac.out;exact⟨lX h1 hg hr (by omega),ky h2 hg hr (by omega),ky h3 hg hr (by omega),ky h4 hg hr (by omega),h5⟩
 .rintro c s A B aA ⟨h0,h1,G,i,pl,h2,h3,h4,h5,h6⟩ hg hr;have O:=HZ.out;exact⟨h0,lX h1 hg hr (by omega),G,i,pl,h2,h3,h4,h5,ky h6 hg hr (by omega)⟩
 .have z:Kept [] w1 (mx E.bB 188 (a.gq.length) w1):=((Kept.refl _ _).alloc _).alloc _;refine⟨am.trans z,z.at b0 (by simp),z.at b1 (by simp),?_,by simp⟩;rw[ac.out];exact z.at b2 (by simp)
 case assign=>
  intro l x W K hK;gi_wp2;exact hK
 case body=>
  rintro l pre y W hy ⟨I,h2,B3,B4,B5⟩;obtain⟨i,e0,rfl,hi⟩:=HS y hy;have V:=F.ib I;have c0:=HN W I i e0 hi;have c1:W.cell? ⟨w.heap.size,0,none⟩=some (Bp E):=by rw[fO h2];rfl
  have c2:W.cell? ⟨H.heap.size,0,none⟩=some (oV L.gH (io a.gq 0)):=by rw[fO B4];rfl
  have Y:(binOp .eql 65 (gF (L.gH i)) (oV L.gH (io a.gq 0))).run prog W= .ok (.bool (decide (some i=io a.gq 0))) W:=by
   have ax:a.gQ (io a.gq 0)=true:=by
    unfold io;by_cases hn:(0:Int)<=0/\(0:Int) < a.gq.length
    .rw[gN hn];have an:0 < a.gq.length:=by omega
     show a.gQ (a.gq.getD 0 none)=true;rw[yd,qw an];exact Ab.vf (V.wf.gq _ (ti an))
    .rw[gI hn];rfl
   have Y:=Bx (HE W I (some i) (by show(a.gV i).isSome=true;rw[hi];rfl)) (HE W I _ ax);rw[decide_eq_decide.2 (⟨λe=>ry HI.out e,λe=>by rw[e]⟩:iw L.gH (some i)=iw L.gH (io a.gq 0)↔some i=io a.gq 0)]at Y;exact Y
  have a8:kh (a.qK (some i)) fR=((a.nm i).toList==[116,97,98,108,101]):=by
   show kh (a.nm i) _=_;unfold kh;rw[sD fR]
  have B2:=fN h2;have U:=fN hi;clear h2 hi
  try dsimp only
  rw[show jY (iw L.gH (some i))=gF (L.gH i)from rfl];cases htb:((a.nm i).toList==[116,97,98,108,101])with
  |false=>
   rw[htb]at a8;have HG:Hid ((!kh (a.qK (some i)) fR)=true\/some i=io a.gq 0):=fN (.inl (by rw[a8];rfl));have ar:((a.nm i).toList != [116,97,98,108,101])=true:=by simp[bne,htb]
   gi_wp2;refine⟨Kept.refl _ _,I,B2.out,B3,B4,λy hy=>?_⟩;grind
  |true=>
   rw[htb]at a8;have ar:((a.nm i).toList != [116,97,98,108,101])=false:=by simp[bne,htb]
   by_cases a0:some i=io a.gq 0
   .rw[uR a0]at Y;have HG:Hid ((!kh (a.qK (some i)) fR)=true\/some i=io a.gq 0):=fN (.inr a0);gi_wp2;refine⟨Kept.refl _ _,I,B2.out,B3,B4,λy hy=>?_⟩;grind
   .rw[wQ a0]at Y;have HG:Hid (¬((!kh (a.qK (some i)) fR)=true\/some i=io a.gq 0)):=fN (by rw[a8];simp[a0]);have al:(mF i a).isOk=true:=by
     have:=List.all_eq_true.1 a4 (some i) hy;simp only[Bool.or_eq_true,Aw]at this;rcases this with(h|h)|h
     .exfalso;have e:kh (a.qK (some i)) fR=kh (a.nm i) fR:=rfl;grind
     .exact absurd h a0
     .exact h
    cases hp:e0.ja with
    |some p=>
     have X:∃ep,a.gV p=some ep/\0<=pZ ep.kids (Nd.gQ i)/\mF i a= .ok (p,(pZ ep.kids (Nd.gQ i)).toNat) a:=by
      have z:=al;unfold mF at z|-;rw[U.out]at z|-;simp only[hp]at z|-;cases u:a.gV p with
      |none=>rw[u]at z;simp[pC.isOk]at z
      |some ep=>
       simp only[u]at z|-;by_cases ap:0<=pZ ep.kids (Nd.gQ i)
       .grind
       .rw[gI ap]at z;simp[pC.isOk]at z
     have⟨ep,X,ap,hfa⟩:=X;have CF:=Qr V U.out hp X;obtain⟨q,u⟩:∃q:Nat,pZ ep.kids (Nd.gQ i)=(q:Int):=⟨(pZ ep.kids (Nd.gQ i)).toNat,by omega⟩;rw[u]at CF hfa;have aa:Hid (mF i a= .ok (p,q) a):=fN (by rw[hfa];rfl);clear hfa
     gi_wp2_with fail
     refine⟨trivial,(qu l (callsIn_wide.2 CF)).mono ?_⟩;rintro e W2 ⟨rfl,ah,aj⟩;have d:=aj.at B3 (by simp);have d0:W2.cell? ⟨w.heap.size+1,0,none⟩=some (.pointer none):=by rw[fO d];rfl
     have d1:W2.cell? ⟨w.heap.size+1,1,none⟩=some (ga 0):=by rw[fO d];rfl
     have g0:=gu d 0;have g1:=gu d 1;have aC:w.heap.size+1 < W2.heap.size:=je d;have a6:=fN d;gi_wp2;have⟨t1,t2,t3⟩:=VF aj I (ly _) a6.out (gF (L.gH p)) (ga q) (gy #[gF (L.gH p),ga q] 231);exact⟨t1,rfl,t2,pre,i,(p,q),rfl,B5,HG.out,aa.out,t3⟩
    |none=>
     have X:∃q e,io a.gq (posOf a.gq (some i) - 1)=some q/\a.gV q=some e/\mF i a= .ok (q,e.kids.length) a:=by
      have z:=al;unfold mF at z|-;rw[U.out]at z|-;simp only[hp]at z|-;cases u:io a.gq (posOf a.gq (some i) - 1)with
      |none=>rw[u]at z;simp[pC.isOk]at z
      |some q=>
       simp only[u]at z|-;unfold jt at z|-;cases hq2:a.gV q with
       |none=>rw[hq2]at z;simp[pC.isOk]at z
       |some e=>grind
     have⟨q,eq,ae,Z,hfa⟩:=X;have CF:=SL V U.out hp;have aa:=fN hfa;have au:=(λ(W':gr) (z:Kept [] W W')=>(show Calls prog 236 #[lK E.bB 188,gF (L.gH i)] W' (λe w'=>e=ir (gF (L.gH q))/\w'=W')from by
      have:=yI (V.ib z) (some i) (by show(a.gV i).isSome=true;rw[U.out];rfl)
      rwa [ae]at this))
     have CE:=(λ(W':gr) (z:Kept [] W W')=>Qq (V.ib z) Z);clear hfa
     gi_wp2_with fail
     refine⟨trivial,(qu l (callsIn_wide.2 CF)).mono ?_⟩;rintro e W2 ⟨rfl,ah,af⟩;have ab:Kept [] W (W2.alloc (gy #[.pointer none,ga 0] 231)):=af.alloc _;have e1:W2.cell? ⟨w.heap.size,0,none⟩=some (Bp E):=by rw[fO (af.at B2.out (by simp))];rfl
     have aF:w.heap.size < W2.heap.size:=je (af.at B2.out (by simp))
     gi_wp2_with fail
     refine⟨trivial,(qu l (callsIn_wide.2 (au _ ab))).mono ?_⟩;rintro e W3 ⟨rfl,rfl⟩
     gi_wp2_with fail
     refine⟨trivial,(qu l (callsIn_wide.2 (CE _ ab))).mono ?_⟩;rintro e W4 ⟨rfl,ai,a2⟩;have a7:=ab.trans a2;have d:=a7.at B3 (by simp);have d0:W4.cell? ⟨w.heap.size+1,0,none⟩=some (.pointer none):=by rw[fO d];rfl
     have d1:W4.cell? ⟨w.heap.size+1,1,none⟩=some (ga 0):=by rw[fO d];rfl
     have g0:=gu d 0;have g1:=gu d 1;have a6:=fN d;gi_wp2;have⟨t1,t2,t3⟩:=BK a7 I (ly _) a6.out (gF (L.gH q)) (ga eq.kids.length);exact⟨t1,rfl,t2,pre,i,(q,eq.kids.length),rfl,B5,HG.out,aa.out,t3⟩
 case done=>
  rintro D W HD ⟨I,h2,B3,h4,h5⟩ hK;have a1:∃q e,io a.gq 0=some q/\a.gV q=some e/\pl0=(q,e.kids.length):=by
   have u:=hpl0;unfold jO at u;rw[gN a4,FA h5]at u;simp only at u;cases hg:io a.gq 0 with
   |none=>grind
   |some q=>
    rw[hg]at u;simp only at u;unfold jt at u;grind
  obtain⟨q,eq,ae,Z,rfl⟩:=a1;have c2:W.cell? ⟨H.heap.size,0,none⟩=some (gF (L.gH q)):=by rw[fO h4,ae];rfl
  have CE:=Qq (F.ib I) Z;clear h2
  gi_wp2_with fail
  refine⟨trivial,(callsIn_wide.2 CE).mono ?_⟩;rintro e W4 ⟨rfl,ai,a2⟩;have d:=a2.at B3 (by simp);have d0:W4.cell? ⟨w.heap.size+1,0,none⟩=some (.pointer none):=by rw[fO d];rfl
  have d1:W4.cell? ⟨w.heap.size+1,1,none⟩=some (ga 0):=by rw[fO d];rfl
  have g0:=gu d 0;have g1:=gu d 1;have ak:=(a2.block D (Array.getElem?_eq_some_iff.1 hK).1 (by simp)).trans hK;have⟨t1,T2,T3⟩:=BK a2 I (ly _) d (gF (L.gH q)) (ga eq.kids.length);have a6:=fN d;have a7:=((((Kept.refl [w.heap.size+1] W4).setCell (p:=⟨w.heap.size+1,0,none⟩) (.inl (by simp)) (gF (L.gH q))).setCell (p:=⟨w.heap.size+1,1,none⟩) (.inl (by simp)) (ga eq.kids.length)).block D (Array.getElem?_eq_some_iff.1 ak).1 (by have:=HZ.out;grind)).trans ak;gi_wp2;refine⟨by simp,.inl ⟨_,_,rfl,oM a7,?_⟩⟩;have O:=HZ.out;have hD:=HD;have ad:(World.putObj _ D (.deferred none)).heap[w.heap.size+1]?=_:=(rG (by omega)).trans T3;have a3:=T2.take (D:=D) (by omega) (.deferred none);refine⟨pV L.gH (q,eq.kids.length),?_,rfl,⟨L,rfl,F.ib a3⟩,.gP a3,gW _⟩;simp[results,results257,asAddr,Result.andThen,go_sem,fO ad]
 case stopx=>
  rintro D c pre W HD ao ⟨rfl,I,G,i,pl,rfl,h3,h4,h5,T3⟩ hK;have a1:pl0=pl:=by
   have⟨rest,hrest⟩:=ao;have u:=hpl0;unfold jO at u;rw[gN a4,<-hrest,FB h4 h3]at u;simp only at u;rw[h5]at u;cases u;rfl
  subst a1;gi_wp2;refine⟨by simp,.inl ⟨_,_,rfl,oM hK,?_⟩⟩;have O:=HZ.out;have hD:=HD;have ad:(World.putObj _ D (.deferred none)).heap[w.heap.size+1]?=_:=(rG (by omega)).trans T3;have a3:=I.take (D:=D) (by omega) (.deferred none);refine⟨pV L.gH pl0,?_,rfl,⟨L,rfl,F.ib a3⟩,.gP a3,gW _⟩;simp[results,results257,asAddr,Result.andThen,go_sem,fO ad]
def VB (E:Env) (t:gz):lQ E .nothing t (Pure.pure ()):=by
 intro v f u w h a d;refine⟨87,#[],#[],a,enters_of func87 (by rfl) rfl,?_⟩;have H:=At.start h;show Calls prog 87 #[iA E t] w _;generalize iA E t=e;go_enter func87,ntmps87;go_wp2;go_end0;exact fZ rfl H rfl
def iN (E:Env) (t:gz) (k:Nat) (m:M Unit) (d:∀a w,(callFunc k a).run prog w= .ok (.enter k a) w) (h:iU E k (λ_=>#[Bp E,iA E t]) m uV):lQ E (.gZ k) t m:=by
 intro v f C w e z u;exact⟨k,#[iq E.bB],#[],z,d,h f C w e u⟩
def yS (E:Env) (r:Ru) (t:gz):lQ E r t stuck:=λ_ _ _ _ _ _ a=>absurd rfl a
def S0 (d f l a:Nat):Ab:={nodes:=[.el ⟨⟨#[]⟩,[],none,[]⟩],gq:=[],act:=[],head:=none,form:=none,mode:=0,kept:=0,waiting:=[],iL:=false,jB:=false,gH:=a,behind:=false,nD:=⟨#[]⟩,iX:=false,fresh:=false,pL:=d,qH:=f,oO:=l}
section
variable {P:Program} {ops:Array Oper} {Q:Exit->Act->gr->Prop} {md:Region.Mode}
end
def DM (w:gr):
  Calls prog 16 #[.nilIface] w λe w'=>e=ir (.tuple #[ga 0,ga 0])/\Kept [] w w':=by
 go_enter func16,ntmps16;go_wp2;go_ret2;exact⟨rfl,((Kept.refl _ _).alloc _).alloc _⟩
def uN (a:Int×Int×Int) (d:gG):jE:=#[ga a.1,ga a.2.1,ga a.2.2,d,.bool false,ga 0,.nilIface,jV,.pointer none]
def Yg (d f a:Int):Prop:=4<=d/\d<=64/\1<=f/\f<=32/\1<=a/\a<=16
def aac (d f a:Int) (w:gr) (h:Yg d f a):
  Calls prog 15 #[ga d,ga f,ga a] w λe w'=>e=ir (.tuple #[gF w.heap.size,.nilIface])/\w'=w.alloc (.cells (uN (d,f,a) (jV)) 69):=by
 have⟨h1,h2,h3,h4,h5,h6⟩:=h;go_enter func15,ntmps15;go_wp2;go_ret2;exact⟨rfl,rfl⟩
theorem aaK (d f a:Int) (w:gr) (h:Yg d f a):
  Calls prog 8 #[ga d,ga f,ga a] w λe w'=>e=ir (.tuple #[gF w.heap.size,ga 0])/\w'.heap[w.heap.size]?=some (gy (uN (d,f,a) (jV)) 69)/\Kept [] w w':=by
 go_enter func8,ntmps8;go_wp21;refine(aac d f a _ h).mono ?_;rintro e G ⟨rfl,rfl⟩;go_wp21;refine(DM _).mono ?_;rintro e C ⟨rfl,u⟩;have F:Kept [] w C:=((Kept.refl _ _).alloc _).next u (by simp)
 have z:=u.at (fQ w _) (by simp);have D:Hid _:=z;go_wp2;go_ret2;simp_all
def MT:(prog.info? 5).map (λi=>(i.zero,i.size,i.bytes))=some (some (.int .u8 0),1,1):=by kernel_rfl
def FG (d:Nat) (a:Int×Int×Int) (u:gG) (w:gr) (h:w.heap[d]?=some (gy (uN a u) 69)):
  Calls prog 27 #[gF d] w λe w'=>e=ir (.bool false)/\w'=w:=by
 have z:w.cell? ⟨d,4,none⟩=some (.bool false):=by rw[fO h];rfl
 go_enter func27,ntmps27;go_wp2;go_ret;simp
theorem Wm (D g c:Nat) (a:Int×Int×Int) (K:gG) (s t:gn) (base:Nat) (w:gr) (hx:w.heap[D]?=some (gy (uN a K) 69))
  (ho:w.ownsRow base 5 1 K s.size (kV s)) (ht:∀j u,(kV t)[j]?=some u->w.cell? ⟨g,j,none⟩=some u) (hl:s.size+t.size<=1024) (hb:base<=w.heap.size):
  Calls prog 17 #[gF D,nI g t.size c] w λe w'=>e=ir (.tuple #[ga t.size,.nilIface])/\
   ∃G,w'.heap[D]?=some (gy (uN a G) 69)/\w'.ownsRow base 5 1 G (s++t).size (kV (s++t))/\Kept (D::K.ownBlock.toList) w w'/\(G.ownBlock=K.ownBlock\/∀k,G.ownBlock=some k->w.heap.size<=k):=by
 obtain⟨i0,hi,a1,a2,a3⟩:=tj MT;have c1:w.cell? ⟨D,3,none⟩=some K:=by rw[fO hx];rfl
 have Z:∃I z,K= .slice I s.size z:=by
  rcases ho.2 with⟨rfl,h0⟩|⟨g,z,N,rfl,_⟩
  .grind
  .simp
 obtain⟨I,z,rfl⟩:=Z;have U:Hid _:=hx;have HO:Hid _:=ho;have HT:Hid _:=ht;go_enter func17,ntmps17;go_wp21;refine(FG D a _ _ U).mono ?_;rintro e w1 ⟨rfl,rfl⟩;go_wp2_with (at_builtin;refine ij _ rfl _ _ 53 rfl base 5 i0 (.int .u8 0) 1 1 underlying53 hi a1 a2 a3 rfl (by decide) _ _ _ rfl HO ⟨g,0,none⟩ t.size c (kV t) rfl ?c1 ?c2 ?c3 ?c4 ?c5 hb ?_)
 case c1=>simp[kV]
 case c2=>exact λj u h=>by rw[js];exact HT j u h
 case c3=>exact Rf t
 case c4=>unfold maxLen;omega
 case c5=>omega
 intro v' O C F X;have⟨ao',d,hv⟩:=gv C;subst hv;have Y:∀k,(Value.slice I s.size z).ownBlock=some k->k≠D:=by
  intro k H;rcases HO.2 with⟨h,_⟩|⟨g',d,N,h,_,hc,_⟩
  .rw[h]at H;cases H
  .rw[h]at H;obtain rfl:=jz H;grind
 have V:O.heap[D]?=some (gy (uN a (.slice I s.size z)) 69):=by
  rw[F.block D (je U.out) (λh=>Y D h.symm rfl)];exact U
 have d1:O.cell? ⟨D,3,none⟩=some (.slice I s.size z):=by rw[fO V];rfl
 have d2:=gu V 3;have h3:=fV V 3 (.slice ao' (s.size+t.size) d);have h4:(O.setCell ⟨D,3,none⟩ (.slice ao' (s.size+t.size) d)).ownsRow base 5 1 (.slice ao' (s.size+t.size) d) (s++t).size (kV (s++t)):=by
  have a0:(s++t).size=s.size+t.size:=ByteArray.size_append;rw[a0,JO];refine yb C ?_ _;intro H;rcases C.2 with⟨h,_⟩|⟨g',d,N,h,_,hc,_⟩
  .grind
  .grind
 have h5:Kept (D::(Value.slice I s.size z).ownBlock.toList) w1 (O.setCell ⟨D,3,none⟩ (.slice ao' (s.size+t.size) d)):=
  ((Kept.refl _ _).grown F (λk H=> .inl (by simp[H]))).setCell (.inl (by simp)) _
 have H3:Hid _:=h3;have H4:Hid _:=h4;have HF:Hid _:=X;go_wp2;go_ret2;exact⟨rfl,_,H3,H4,h5,HF⟩
theorem UO (t:gn) (j:Nat) (u:gG) (h:(kV t)[j]?=some u):∃a:j < t.data.size,u= .int .u8 (t.data[j].toNat:Int):=by
 unfold kV at h;grind
def GX (t:gn) (a j:Nat) (u:gG) (h:(kV t)[j]?=some u):(bytesRow t a)[j]?=some u:=by
 obtain⟨d,rfl⟩:=UO t j u h;exact bytesRow_at t a j d
def A6 (t:gn) (a:Nat):t.size<=(bytesRow t a).size:=by
 have:t.data.size=t.size:=rfl;simp[bytesRow,this]
def AB (h:w.heap[b]?=some (.cells c t m)) (j:Nat):w.cell? ⟨b,j,none⟩=c[j]?:=by simp[World.cell?,h]
def Lf (h:w.heap[b]?=some (.cells c t (n,n+1))) (j:Nat) (a:j < n):w.frozen? ⟨b,j,none⟩=false:=by
 simp[World.frozen?,h];omega
theorem Dw (h:w.heap[b]?=some (.cells c t m)) (j:Nat) (u:gG):(w.setCell ⟨b,j,none⟩ u).heap[b]?=some (.cells (c.setIfInBounds j u) t m):=by
 have a:=je h;have d:w.heap[b]= .cells c t m:=by simpa [wu a]using h
 show(w.heap.modify b _)[b]?=_;grind
def Bn (g a d:Nat) (h:jE) (base n:Nat) (e:gG) (xs:List gG) (S:List Nat) (w wr:gr):Prop:=
 (∃C:jE,wr.heap[g]?=some (.cells C 5 (a,a+1))/\C.size=a)/\wr.heap[d]?=some (gy h 69)/\wr.ownsRow base 5 1 e n xs/\Kept S w wr
theorem Bn.store {e a : Nat} {z : jE} {d : gG} {wr : gr} (h:Bn g e a z base n d xs S w wr) (F:w.heap.size<=g) (D:a≠g) (G:d.ownBlock≠some g) (j:Nat) (u:gG):
  Bn g e a z base n d xs S w (wr.setCell ⟨g,j,none⟩ u):=by
 have⟨⟨C,hC,hs⟩,hx,ho,hk⟩:=h;refine⟨⟨_,Dw hC j u,by grind⟩,?_,yb ho G u,hk.setCell (.inr F) u⟩;rw[Below.heap_setCell wr ⟨g,j,none⟩ u a D];exact hx
def Bn.cell {a d : Nat} {z : jE} {u : gG} {wr : gr} (h:Bn g a d z base n u xs S w wr) (j:Nat) (e:j < a):(∃v,wr.cell? ⟨g,j,none⟩=some v)/\wr.frozen? ⟨g,j,none⟩=false:=by
 have⟨⟨C,hC,hs⟩,_⟩:=h;refine⟨⟨C[j]'(by omega),?_⟩,Lf hC j e⟩;rw[AB hC];simp
theorem VJ (F:Nat) (a:Int×Int×Int) (H:gG) (s t:gn) (base:Nat) (w:gr) (hx:w.heap[F]?=some (gy (uN a H) 69))
  (ho:w.ownsRow base 5 1 H s.size (kV s)) (hl:s.size+t.size<=1024) (hb:base<=w.heap.size):
  Calls prog 9 #[gF F,gw t] w λe w'=>e=ir (.tuple #[ga t.size,ga 0,.bool true])/\
   ∃d,w'.heap[F]?=some (gy (uN a d) 69)/\w'.ownsRow base 5 1 d (s++t).size (kV (s++t))/\Kept (F::H.ownBlock.toList) w w'/\(d.ownBlock=H.ownBlock\/∀k,d.ownBlock=some k->w.heap.size<=k):=by
 have G:=run_bytes_of_string (P:=prog) w 9 53 5 t underlying9 underlying53 underlying5;obtain⟨I,Y⟩:∃I,I=grownCap w t.size 0 5:=⟨_,rfl⟩;rw[<-Y]at G;clear Y;have a1:=A6 t I;have HR:=GX t I;generalize bytesRow t I=R at G a1 HR;obtain⟨K,C⟩:∃K,K=w.drew.alloc (.cells R 5 (R.size,R.size+1)):=⟨_,rfl⟩;rw[<-C]at G;have HB:K.heap[w.heap.size]?=some (.cells R 5 (R.size,R.size+1)):=by rw[C];exact fQ w.drew _
 have K1:Kept [] w K:=by rw[C];exact(Kept.refl [] w).drew.alloc _
 have z1:K.heap.size=w.heap.size+1:=by rw[C];show(w.heap.push _).size=_;simp
 clear C;have a2:=je hx;have HX:=ho.lt;have x1:=K1.at hx (by simp);have o1:=K1.ownsRow ho (λ_ _=>by simp);have X:=Wm F w.heap.size I a H s t base K x1 o1 (λj u h=>by rw[AB HB];grind) hl (by omega);have HZ:Hid (K.heap.size=w.heap.size+1):=z1;clear z1 x1 o1 hx ho;go_enter func9,ntmps9;go_wp21;refine X.mono ?_;rintro e w2 ⟨rfl,d,a0,Z,V,U⟩;clear G X;go_wp21;refine(DM _).mono ?_;rintro e w3 ⟨rfl,D⟩;have hS:w.heap.size∉F::H.ownBlock.toList:=by
  simp only[se,Option.mem_toList,not_or];exact⟨by omega,λh=>by grind⟩
 have N:w3.heap[w.heap.size]?=some (.cells R 5 (R.size,R.size+1)):=D.at (V.at HB hS) (by simp);have HT:Bn w.heap.size R.size F (uN a d) base (s++t).size d (kV (s++t)) (F::H.ownBlock.toList) w w3:=
  ⟨⟨R,N,rfl⟩,D.at a0 (by simp),D.ownsRow Z (λ_ _=>by simp),((K1.mono (by simp)).trans V).trans (D.mono (by simp))⟩
 have HN:d.ownBlock≠some w.heap.size:=by
  rcases U with h|h
  .grind
  .grind
 have HF:d.ownBlock=H.ownBlock\/∀k,d.ownBlock=some k->w.heap.size<=k:=by
  rcases U with h|h
  .exact .inl h
  .grind
 have O:(convert 53 9 (nI w.heap.size t.size I)).run prog w3= .ok (gw t) w3:=by
  have:=SU (P:=prog) w3 53 9 5 ⟨w.heap.size,0,none⟩ I t.data.toList underlying53 underlying5 underlying9 (λj hj=>by
   rw[js,AB N];exact HR j _ (by unfold kV;grind))
  simpa using this
 clear U V D a0 Z N hS K1;go_wp21;clear O
 go_loopw [33] (λi wr=>∃k:Nat,k<=t.size/\i=ga k/\Bn w.heap.size R.size F (uN a d) base (s++t).size d (kV (s++t)) (F::H.ownBlock.toList) w wr) (λi _=>t.size - (intOf i).toNat)
 case atStart=>grind
 case round=>
  obtain⟨k,hk,rfl,z⟩:=hrel;by_cases a3:k < t.size
  .have⟨⟨v,hv⟩,hfz⟩:=z.cell k (by omega);have HS:=z.store (gW _) (by omega) HN k (.int .u8 33);go_wp2;go_roundw
   case rel=>exact⟨k+1,by omega,by go_num,HS⟩
   case measure=>simp[intOf];omega
  .go_wp2;go_ret3;exact⟨rfl,d,z.2.1,z.2.2.1,z.2.2.2,HF⟩
structure RC where
 cs:gn
 av:gG
 at_:Int
 mv:gG
 lg:Int
 nD:gn:=⟨#[]⟩
 YA:Bool:=false
variable {R : RC}
def vX (R:RC) (a ps:Nat):jE:=#[gw R.cs,R.av,ga a,ga ps,ga R.at_,R.mv,ga R.lg,gw R.nD,.bool R.YA]
def Rd (w:gr) (r:Nat) (R:RC) (a ps:Nat):Prop:=w.heap[r]?=some (gy (vX R a ps) 161)
def Rd.text {a ps : Nat} (h:Rd w r R a ps):w.cell? ⟨r,0,none⟩=some (gw R.cs):=by rw[fO h];rfl
def Rd.gx {a ps : Nat} (h:Rd w r R a ps):w.cell? ⟨r,1,none⟩=some R.av:=by rw[fO h];rfl
def Rd.bg {a ps : Nat} (h:Rd w r R a ps):w.cell? ⟨r,2,none⟩=some (ga a):=by rw[fO h];rfl
def Rd.ps {a ps : Nat} (h:Rd w r R a ps):w.cell? ⟨r,3,none⟩=some (ga ps):=by rw[fO h];rfl
def Rd.mv {a ps : Nat} (h:Rd w r R a ps):w.cell? ⟨r,5,none⟩=some R.mv:=by rw[fO h];rfl
def Rd.lg {a ps : Nat} (h:Rd w r R a ps):w.cell? ⟨r,6,none⟩=some (ga R.lg):=by rw[fO h];rfl
def Rd.nD {a ps : Nat} (h:Rd w r R a ps):w.cell? ⟨r,7,none⟩=some (gw R.nD):=by rw[fO h];rfl
def Rd.YA {a ps : Nat} (h:Rd w r R a ps):w.cell? ⟨r,8,none⟩=some (.bool R.YA):=by rw[fO h];rfl
def Rd.free {a ps : Nat} (h:Rd w r R a ps) (j:Nat):w.frozen? ⟨r,j,none⟩=false:=by unfold Rd at h;simp[World.frozen?,h]
def Rd.LN {d ps : Nat} (h:Rd w r R d ps) (a:Nat):Rd (w.setCell ⟨r,3,none⟩ (ga a)) r R d a:=fV h 3 _
def Rd.aep {d ps : Nat} (h:Rd w r R d ps) (a:Nat):Rd (w.setCell ⟨r,2,none⟩ (ga a)) r R a ps:=fV h 2 _
def Rd.kept {a ps : Nat} (h:Rd w r R a ps) (d:Kept S w w') (e:r∉S):Rd w' r R a ps:=d.at h e
def ox (r:Nat) (R:RC) (a ps:Nat) (w:gr) (h:Rd w r R a ps):
  Calls prog 77 #[gF r] w λe w'=>e=ir (.bool (decide (ps=R.cs.size)))/\∃q,w'=w.drewN q:=by
 have t:=h.text;have p:=h.ps;generalize R.cs=s at t;by_cases e:ps=s.size
 .subst e;go_enter func77,ntmps77;go_wp21
  go_quiet (fail)
  go_wp2;go_ret;exact⟨by simp,⟨_,rfl⟩⟩
 .have d:((ps:Int)==(s.size:Int))=false:=beq_eq_false_iff_ne.2 (by omega);go_enter func77,ntmps77;go_wp21
  go_quiet (fail)
  go_wp2;go_ret;exact⟨by simp[e],⟨_,rfl⟩⟩
def vY (r:Nat) (R:RC) (a ps:Nat) (w:gr) (h:Rd w r R a ps) (d:ps<=R.cs.size) (_hs:R.cs.size<=1024):
  Calls prog 150 #[gF r] w λe w'=>e=ir (gw (R.cs.extract ps R.cs.size))/\∃q,w'=w.drewN q:=by
 have t:=h.text;have p:=h.ps;generalize R.cs=s at *;go_enter func150,ntmps150;go_wp21
 go_quiet (fail)
 go_wp2;go_ret;exact⟨rfl,⟨_,rfl⟩⟩
def Iv (c:Int) (w:gr) (z:0<=c) (C:c<=255):
  Calls prog 152 #[.int .u8 c] w λe w'=>e=ir (.bool (decide (97<=c/\c<=122\/65<=c/\c<=90)))/\w'=w:=by
 by_cases a:97<=c<;>by_cases d:c<=122<;>by_cases h:65<=c<;>by_cases u:c<=90
 all_goals first|(exfalso;omega)|skip
 all_goals (go_enter func152,ntmps152;go_wp2;go_ret;exact⟨by first|(simp;done)|(simp;omega),rfl⟩)
def pre (s p:gn):Bool:=decide (p.size<=s.size)&&((s.extract 0 p.size).toList==p.toList)
def Iz (s p:gn) (w:gr) (d:s.size<=1048576) (a:p.size<=1048576):
  Calls prog 242 #[gw s,gw p] w λe w'=>e=ir (.bool (pre s p))/\w'=w:=by
 by_cases h:p.size<=s.size
 .go_enter func242,ntmps242;go_wp2;go_ret;exact⟨by simp[pre,h],rfl⟩
 .go_enter func242,ntmps242;go_wp2;go_ret;exact⟨by simp[pre,h],rfl⟩
def tZ (s p:gn) (w:gr) (d:s.size<=1048576) (a:p.size<=1048576):
  Calls prog 149 #[gw s,gw p] w λe w'=>e=ir (.bool (pre s p))/\w'=w:=by
 go_enter func149,ntmps149;go_wp21;refine(Iz s p w d a).mono ?_;rintro e w' ⟨rfl,rfl⟩;go_wp2;go_ret;simp
theorem Ew (h:pre s p=true):p.size<=s.size:=by
 unfold pre at h;grind
def lu {ps : Nat} (h:pre (s.extract ps s.size) p=true) (a:ps<=s.size):ps+p.size<=s.size:=by
 have:=Ew h;simp at this;omega
def taken (R:RC) (p:gn) (ps:Nat):Nat:=if pre (R.cs.extract ps R.cs.size) p=true then ps+p.size else ps
def QA {ps : Nat} (h:ps<=R.cs.size):taken R p ps<=R.cs.size:=by
 unfold taken;split
 .rename_i a;exact lu a h
 omega
theorem Qz {ps : Nat}:ps<=taken R p ps:=by grind[taken]
def lx (r:Nat) (R:RC) (d ps:Nat) (s:gn) (w:gr) (h:Rd w r R d ps) (u:ps<=R.cs.size) (C:R.cs.size<=1024) (I:s.size<=1024):
  Calls prog 81 #[gF r,gw s] w λe w'=>e=ir (.bool (pre (R.cs.extract ps R.cs.size) s))/\Kept [r] w w'/\Rd w' r R d (taken R s ps):=by
 have H:=h;by_cases e:pre (R.cs.extract ps R.cs.size) s=true
 .have G:=lu e u;have a:taken R s ps=ps+s.size:=by unfold taken;rw[gN e]
  rw[a];go_enter func81,ntmps81;go_wp21;refine(vY r R d ps w H u C).mono ?_;rintro e w' ⟨rfl,q,rfl⟩;go_wp21;refine(tZ _ s _ (by simp;omega) (by omega)).mono ?_;rintro e w' ⟨rfl,rfl⟩;have p:(w.drewN q).cell? ⟨r,3,none⟩=some (ga ps):=H.ps;have K:=H.free 3;have D:Hid (Kept [r] w ((w.drewN q).setCell ⟨r,3,none⟩ (ga ((ps+s.size:Nat))))):=((Kept.refl [r] w).drewN q).setCell (.inl (by simp)) _;have F:Hid (Rd ((w.drewN q).setCell ⟨r,3,none⟩ (ga ((ps+s.size:Nat)))) r R d (ps+s.size)):=Rd.LN (w:=w.drewN q) H _;rw[e];go_wp2;go_ret;exact⟨by rw[e];rfl,D,F⟩
 .have a:taken R s ps=ps:=by unfold taken;rw[gI e]
  rw[a];have z:pre (R.cs.extract ps R.cs.size) s=false:=by simpa using e
  go_enter func81,ntmps81;go_wp21;refine(vY r R d ps w H u C).mono ?_;rintro e w' ⟨rfl,q,rfl⟩;go_wp21;refine(tZ _ s _ (by simp;omega) (by omega)).mono ?_;rintro e w' ⟨rfl,rfl⟩;rw[z];go_wp2;go_ret;exact⟨by rw[z];rfl,(Kept.refl [r] w).drewN q,H⟩
def scan (q:Int->Bool) (s:gn) (i:Nat):Nat:=if h:i < s.size then (if q (bt s i)then i else scan q s (i+1))else i
  termination_by s.size - i
theorem DF (h:s.size<=i):scan q s i=i:=by grind[scan]
theorem Jc (h:q (bt s i)=true):scan q s i=i:=by grind[scan]
theorem Nv (a:i < s.size) (h:q (bt s i)=false):scan q s i=scan q s (i+1):=by grind[scan]
def sQ:i<=scan q s i:=by
 fun_induction scan q s i with
 |case1=>omega
 |case2=>omega
 |case3=>omega
def pt (h:i<=s.size):scan q s i<=s.size:=by
 fun_induction scan q s i with
 |case1=>omega
 |case2 _ _ _ ih=>omega
 |case3=>omega
theorem aa2:scan q s i < s.size->q (bt s (scan q s i))=true:=by
 fun_induction scan q s i with
 |case1 _ _ h=>grind
 |case2 _ _ _ ih=>exact ih
 |case3 _ h=>omega
structure Us (w:gr) (S:List Nat) (k:Nat) (caps:jE) (q:Int->Bool):Prop where
 Xv:∀(args:jE) (w:gr),(callFunc k args).run prog w= .ok (.enter k args) w
 ask:∀(c:Int) (w':gr),0<=c->c<=255->Kept S w w'->Calls prog k (#[.int .u8 c]++caps) w' λe w''=>e=ir (.bool (q c))/\∃n,w''=w'.drewN n
theorem QD (r:Nat) (R:RC) (d ps:Nat) (k:Nat) (a:jE) (q:Int->Bool) (w:gr) (h:Rd w r R d ps) (Y:ps<=R.cs.size) (hs:R.cs.size<=1024) (Z:Us w [r] k a q):
  Calls prog 248 #[gF r,.func (.func k) #[] a] w λe w'=>e=ir (gw (R.cs.extract ps (scan q R.cs ps)))/\Kept [r] w w'/\Rd w' r R d (scan q R.cs ps):=by
 have G:=Z;have p0:=h.ps;have H:=h;have N:=get_bt R.cs;have V:=G.Xv;go_enter func248,ntmps248;go_wp21
 go_loopw [] (λwr=>∃i:Nat,ps<=i/\i<=R.cs.size/\scan q R.cs i=scan q R.cs ps/\Rd wr r R d i/\Kept [r] w wr) (λwr=>R.cs.size - (match wr.cell? ⟨r,3,none⟩with|some v=>(intOf v).toNat|none=>0))
 case atStart=>exact⟨ps,gW _,Y,rfl,H,Kept.refl _ _⟩
 case round=>
  have⟨i,hi0,hi1,hsc,HR,HKW⟩:=hrel;have t:=HR.text;have p:=HR.ps;have fz:=HR.free 3;by_cases e:i=R.cs.size
  .have C:=(λw' (h:Rd w' r R d i)=>ox r R d i w' h);have e2:scan q R.cs ps=i:=by rw[<-hsc];exact DF (by omega)
   have K:decide (i=R.cs.size)=true:=by simp[e]
   rw[e2];rw[K]at C;go_wp21
   go_quiet ((go_at_call 77;refine xn (C _ ?_);exact HR))
   go_wp21
   go_quiet (fail)
   go_wp2;go_ret;exact⟨by rw[e2,e];rfl,((HKW.drewN _).drewN _),by rw[e2];exact HR⟩
  .have z:i < R.cs.size:=by omega
   have C:=(λw' (h:Rd w' r R d i)=>ox r R d i w' h);have K:decide (i=R.cs.size)=false:=by simp[e]
   rw[K]at C;have hb:=N i z;have O:=bt_nonneg R.cs i;have U:=bt_le R.cs i;by_cases u:q (bt R.cs i)=true
   .have e2:scan q R.cs ps=i:=by rw[<-hsc];exact Jc u
    rw[e2];have D:=(λw' h=>G.ask (bt R.cs i) w' O U h);rw[u]at D;go_wp21
    go_quiet (first|(go_at_call 77;refine xn (C _ ?_);exact HR)|(refine xn (D _ ?_);exact HKW.drewN _))
    go_wp21
    go_quiet (fail)
    go_wp2;go_ret;exact⟨by rw[e2];rfl,((HKW.drewN _).drewN _),by rw[e2];exact HR⟩
   .have F:q (bt R.cs i)=false:=by simpa using u
    have HS:scan q R.cs (i+1)=scan q R.cs ps:=by rw[<-hsc,Nv z F]
    have D:=(λw' h=>G.ask (bt R.cs i) w' O U h);rw[F]at D;go_wp21
    go_quiet (first|(go_at_call 77;refine xn (C _ ?_);exact HR)|(refine xn (D _ ?_);exact HKW.drewN _))
    have I:=Rd.LN (w:=wr.drewN nq) HR (i+1);have X:=(HKW.drewN nq).setCell (p:=⟨r,3,none⟩) (.inl (by simp)) (ga ((i+1:Nat)));go_wp2;go_roundw
    case rel=>grind
    case measure=>
     have m1:=I.ps;rw[show((i:Int)+1)=((i+1:Nat):Int)from by omega,m1,p];simp[intOf];omega
def jl (s:gn) (c:Int):Bool:=decide (0<=Lib.indexByte s.data.toList c.toNat.toUInt8)
def XO (s:gn) (c:Int):jl s c=s.data.toList.contains c.toNat.toUInt8:=by rw[Lib.contains_iff_indexByte];rfl
def ae0 {c : Int} (a:0<=c) (d:c<=255) {x:UInt8} (h:c.toNat.toUInt8=x):c=(x.toNat:Int):=by
 have:=pJ UInt8.toNat h;simp at this;omega
def XP {c : Int} (a:0<=c) (d:c<=255) (h:jl iO c=true):c=62:=by
 rw[XO]at h;simp at h;exact ae0 a d h
def IL (b:Nat) (s:gn) (c:Int) (w:gr) (h:w.cell? ⟨b,0,none⟩=some (gw s)):
  Calls prog 250 #[.int .u8 c,gF b] w λe w'=>e=ir (.bool (jl s c))/\w'=w:=by
 have C:=Tryz.strings_IndexByte s c w;go_enter func250,ntmps250;go_wp21;refine C.mono ?_;rintro e w' ⟨rfl,rfl⟩;generalize hx:Lib.indexByte s.data.toList c.toNat.toUInt8=x;have d:jl s c=decide (0<=x):=by unfold jl;rw[hx]
 have a:=fN d;clear d;by_cases e:0<=x
 .go_wp2;go_ret;exact⟨by rw[a.out];simp[e],rfl⟩
 .go_wp2;go_ret;exact⟨by rw[a.out];simp[e],rfl⟩
def Bs (w:gr) (S:List Nat) (b:Nat) (s:gn) (h:w.cell? ⟨b,0,none⟩=some (gw s)) (z:b < w.heap.size) (u:b∉S):Us w S 250 #[gF b] (jl s) where
 Xv:=enters_of func250 (by rfl) rfl
 ask c w' _ _ hk:=(IL b s c w' ((hk.cell (p:=⟨b,0,none⟩) z u).trans h)).mono λe C ⟨a,d⟩=>⟨a,0,d⟩
def oG (s:gn) (w:gr):
  Calls prog 158 #[gw s] w λe w'=>e=ir (.func (.func 250) #[] #[gF w.heap.size])/\w'=w.alloc (.cells #[gw s] 9):=by
 have h:∀(d:Fn) (first a:jE) (w:gr),(Instr.makeFunc d first a).run prog w= .ok (.func d first a) w:=λ_ _ _ _=>rfl;go_enter func158,ntmps158;go_wp2;go_ret;simp
def Pl (w:gr) (S:List Nat):Us w S 152 #[] (λc=>decide (97<=c/\c<=122\/65<=c/\c<=90)) where
 Xv:=enters_of func152 (by rfl) rfl
 ask c w' h0 a _:=(Iv c w' h0 a).mono λe h ⟨a,d⟩=>⟨a,0,d⟩
def Yn (b a:Nat) (s:gn) (c:Int) (w:gr) (h:w.cell? ⟨b,0,none⟩=some (gw s)) (d:w.cell? ⟨a,0,none⟩=some (.func (.func 250) #[] #[gF b])):
  Calls prog 331 #[.int .u8 c,gF a] w λe w'=>e=ir (.bool (!jl s c))/\w'=w:=by
 have C:=IL b s c w h;generalize jl s c=x at C|-;go_enter func331,ntmps331;go_wp21;refine C.mono ?_;rintro e w' ⟨rfl,rfl⟩;cases x
 .go_wp2;go_ret;simp
 .go_wp2;go_ret;simp
def WR (w:gr) (S:List Nat) (b a:Nat) (s:gn) (h:w.cell? ⟨b,0,none⟩=some (gw s)) (d:w.cell? ⟨a,0,none⟩=some (.func (.func 250) #[] #[gF b])) (F:b < w.heap.size) (D:b∉S) (z:a < w.heap.size) (u:a∉S):Us w S 331 #[gF a] (λc=>!jl s c) where
 Xv:=enters_of func331 (by rfl) rfl
 ask c w' _ _ hk:=(Yn b a s c w' ((hk.cell (p:=⟨b,0,none⟩) F D).trans h) ((hk.cell (p:=⟨a,0,none⟩) z u).trans d)).mono λe G ⟨C,d⟩=>⟨C,0,d⟩
def aaz (f:Fn) (x y:jE) (w:gr):
  Calls prog 294 #[.func f x y] w λe w'=>e=ir (.func (.func 331) #[] #[gF w.heap.size])/\w'=w.alloc (.cells #[.func f x y] 220):=by
 have h:∀(d:Fn) (first a:jE) (w:gr),(Instr.makeFunc d first a).run prog w= .ok (.func d first a) w:=λ_ _ _ _=>rfl;go_enter func294,ntmps294;go_wp2;go_ret;simp
theorem vh (r:Nat) (R:RC) (I ps:Nat) (s:gn) (w:gr) (h:Rd w r R I ps) (hp:ps<=R.cs.size) (hs:R.cs.size<=1024):
  Calls prog 246 #[gF r,gw s] w λe w'=>e=o9/\Kept [r] w w'/\Rd w' r R I (scan (λc=>!jl s c) R.cs ps):=by
 have hr:=je h;have H:=h;clear h;obtain⟨u,a⟩:∃u,u=w.alloc (.cells #[gw s] 9):=⟨_,rfl⟩;obtain⟨z,d⟩:∃z,z=u.alloc (.cells #[.func (.func 250) #[] #[gF w.heap.size]] 220):=⟨_,rfl⟩;have Y:u.heap.size=w.heap.size+1:=by rw[a];simp
 have z2:z.heap.size=w.heap.size+2:=by rw[d];simp[Y]
 have U:u.heap[w.heap.size]?=some (gy #[gw s] 9):=by rw[a];exact fQ w _
 have X:Kept [r] w u:=by rw[a];exact(Kept.refl _ _).alloc _
 have D:Kept [] u z:=by rw[d];exact(Kept.refl _ _).alloc _
 have b2:z.heap[u.heap.size]?=some (gy #[.func (.func 250) #[] #[gF w.heap.size]] 220):=by rw[d];exact fQ u _
 have O:=D.at U (by simp);have F:Rd z r R I ps:=by rw[d,a];exact(((Kept.refl [] w).alloc _).alloc _).at H (by simp)
 have Z:Kept [r] w z:=X.trans (D.mono (by simp));have V:Us z [r] 331 #[gF u.heap.size] (λc=>!jl s c):=
  WR z [r] w.heap.size u.heap.size s (by simp_all) (by simp_all) (by omega) (by grind) (by omega) (by grind)
 have C:=QD r R I ps _ _ _ z F hp hs V;have K:=fN a;have N:=fN d;clear V F O b2 D X U Y z2 a d;go_enter func246,ntmps246;go_wp21;refine(oG s w).mono ?_;rintro e w' ⟨rfl,rfl⟩;rw[<-K.out];go_wp21;refine(aaz _ _ _ u).mono ?_;rintro e w' ⟨rfl,rfl⟩;rw[<-N.out];go_wp21;refine C.mono ?_;rintro e w3 ⟨rfl,G,a1⟩;have a0:=Z.trans G;clear G;go_wp2;go_end0;grind
structure KM (w:gr) (r:Nat) (R:RC) (g cap:Nat) (cut:Nat->Nat):Prop where
 av:R.av=nI g (R.cs.size+1) cap
 ne:g≠r
 lt:g < w.heap.size
 at_:∀i,i<=R.cs.size->w.cell? ⟨g,i,none⟩=some (ga (cut i))
def KM.kept {a : Nat} {d : Nat->Nat} (h:KM w r R g a d) (e:Kept [r] w w'):KM w' r R g a d:=
 ⟨h.av,h.ne,mf h.lt e.size,λi u=>(e.cell (p:=⟨g,i,none⟩) h.lt (by simp[h.ne])).trans (h.at_ i u)⟩
def pN (r:Nat) (R:RC) (u ps g C:Nat) (d:Nat->Nat) (w:gr) (h:Rd w r R u ps) (z:KM w r R g C d) (D:u<=R.cs.size) (F:ps<=R.cs.size) (N:R.cs.size<=1024):
  Calls prog 78 #[gF r] w λe w'=>e=ir (.agg #[ga (d u),ga (d ps)])/\Kept [] w w':=by
 have a:=h.gx;rw[z.av]at a;have p:=h.ps;have b:=h.bg;have G:=z.at_ u D;have H:=z.at_ ps F;have K:=je h;have I:=z.lt;generalize R.cs.size=n at *;generalize d u=x at *;generalize d ps=y at *;go_enter func78,ntmps78;go_wp21;go_region
 all_goals (try go_wp2)
 refine o0 (v:= .agg #[ga x,ga y]) ?_ rfl ⟨rfl,((Kept.refl [] w).alloc _).drew⟩;simp[results,results78,asAddr,Result.andThen,go_sem]
theorem WU {d : Nat} {a b : Int} {e : gr} (h:Kept [r] w e) (u:Rd e r R d (d+1)) (q:Kept [] e W) (g:W.heap[w.heap.size]?=some (gy #[ga 0,ga 0,gw kC] 184)) (C:r≠w.heap.size):
  Kept [r] w (((W.setCell ⟨w.heap.size,0,none⟩ (ga a)).setCell ⟨w.heap.size,1,none⟩ (ga b)).setCell ⟨w.heap.size,2,none⟩ (gw s))/\Rd (((W.setCell ⟨w.heap.size,0,none⟩ (ga a)).setCell ⟨w.heap.size,1,none⟩ (ga b)).setCell ⟨w.heap.size,2,none⟩ (gw s)) r R d (d+1)/\(((W.setCell ⟨w.heap.size,0,none⟩ (ga a)).setCell ⟨w.heap.size,1,none⟩ (ga b)).setCell ⟨w.heap.size,2,none⟩ (gw s)).heap[w.heap.size]?=some (gy #[ga a,ga b,gw s] 184):=by
 have z:Kept [w.heap.size] W (((W.setCell ⟨w.heap.size,0,none⟩ (ga a)).setCell ⟨w.heap.size,1,none⟩ (ga b)).setCell ⟨w.heap.size,2,none⟩ (gw s)):=(((Kept.refl [w.heap.size] W).setCell (.inl (by simp)) _).setCell (.inl (by simp)) _).setCell (.inl (by simp)) _;refine⟨?_,(u.kept q (by simp)).kept z (by grind),fV (fV (fV g 0 _) 1 _) 2 _⟩;exact((((h.trans (q.mono (by simp))).setCell (.inr (gW _)) _).setCell (.inr (gW _)) _).setCell (.inr (gW _)) _)
def Cq (r:Nat) (R:RC) (a ps g K:Nat) (d:Nat->Nat) (w:gr) (h:Rd w r R a ps) (hA:KM w r R g K d) (U:a < R.cs.size) (hs:R.cs.size<=1024):
  Calls prog 147 #[gF r] w λe w'=>e=ir (.agg #[ga (d a),ga (d (a+1)),gw (R.cs.extract a (a+1))])/\Kept [r] w w'/\Rd w' r R a (a+1):=by
 have b:=h.bg;have p:=h.ps;have fz:=h.free 3;have hr:=je h;obtain⟨z,hz⟩:∃z,z=Obj.cells #[ga 0,ga 0,gw kC] 184 (0,0):=⟨_,rfl⟩;obtain⟨D,u⟩:∃D,D=(w.setCell ⟨r,3,none⟩ (ga ((a+1:Nat)))).alloc z:=⟨_,rfl⟩;have K0:Kept [r] w D:=by rw[u];exact((Kept.refl [r] w).setCell (.inl (by simp)) _).alloc _
 have R0:Rd D r R a (a+1):=by rw[u];exact((Kept.refl [] _).alloc z).at (h.LN (a+1)) (by simp)
 have G0:D.heap[w.heap.size]?=some z:=by rw[u];have:=fQ (w.setCell ⟨r,3,none⟩ (ga ((a+1:Nat)))) z;rwa [World.size_setCell]at this
 have C:=fN (λW (hk:Kept [] D W)=>pN r R a (a+1) g K d W (R0.kept hk (by simp)) ((hA.kept K0).kept (hk.mono (by simp))) (by omega) (by omega) hs);have HA:=fN hA;have X:=fN K0;have F:=fN R0;have V:=fN G0;have HZ:=fN hz;have Z:=fN (show(w.setCell ⟨r,3,none⟩ (ga ((a:Int)+1))).alloc (gy #[ga 0,ga 0,gw kC] 184)=D from by rw[u,hz];congr 1);clear h hA K0 R0 G0 u hz;go_enter func147,ntmps147;go_wp21;rw[Z.out];have Y:=fN (show r≠w.heap.size by omega);clear b p fz hr;refine uU (by rfl) ?_;refine od (λ(g:Unit) z=>⟨#[gF r,undef,gF w.heap.size,gF r,gF r,gF r,lK r 2,ga a,ga ((a:Int)+1),gF r,lK r 3,cd z 0 (gF r),cd z 1 (.agg #[ga (d a),ga (d (a+1))]),cd z 2 (gF r),cd z 3 (gF r),cd z 4 (gF r),cd z 5 (gw R.cs),cd z 6 (gF r),cd z 7 (gF r),cd z 8 (lK r 2),cd z 9 (ga a),cd z 10 (gF r),cd z 11 (gF r),cd z 12 (lK r 3),cd z 13 (ga ((a:Int)+1)),cd z 14 (gw (R.cs.extract a (a+1))),cd z 15 (.agg #[ga (d a),ga (d (a+1)),gw (R.cs.extract a (a+1))])],[]⟩) (λg z W=>if dn z 16=true then (Kept [r] w W/\Rd W r R a (a+1)/\W.heap[w.heap.size]?=some (gy #[ga (d a),ga (d (a+1)),gw (R.cs.extract a (a+1))] 184))else Kept [] D W) 17 [[],[0],[],[2],[3],[4],[],[6],[7],[8],[],[10],[11],[12],[5,9,13],[1,14],[0,1,2,3,4,5,6,7,8,9,10,11,12,13,14,15]] (()) rfl rfl ((Kept.refl [] D).drew) ?_ ?_
 .repeat' first|exact lp|refine ln ?_ ?_
  all_goals
   rintro g z W O I hn;simp[zE]at I;refine mK rfl ?_;intro K' H;simp only[kX,I];have U:dn z 16=false:=by simp[I,hn]
   have q:Kept [] D W:=by simpa [U]using O
   have c0:=(F.out.kept q (by simp)).text;have c2:=(F.out.kept q (by simp)).bg;have c3:=(F.out.kept q (by simp)).ps;have C1:=fN (C.out W q);have G:=q.at (V.out.trans (pJ some HZ.out)) (by simp);have q0:W.cell? ⟨w.heap.size,0,none⟩=some (ga 0):=by rw[fO G];rfl
   have q1:W.cell? ⟨w.heap.size,1,none⟩=some (ga 0):=by rw[fO G];rfl
   have q2:W.cell? ⟨w.heap.size,2,none⟩=some (gw kC):=by rw[fO G];rfl
   have z0:=gu G 0;have z1:=gu G 1;have z2:=gu G 2;go_simp
   try (rw[gN (by omega),gN (by omega)];go_simp)
   first
   |refine H _ _ ⟨g,?_,by simpa [lR,U]using q⟩
   |refine C1.out.mono ?_;rintro e W2 ⟨rfl,a0⟩;refine H _ _ ⟨g,?_,by simpa [lR,U]using q.trans a0⟩
   |refine H _ _ ⟨g,?_,(gN pi).mpr (WU X.out F.out q G Y.out)⟩
   simp[ot,uP,kX,I]
 .rintro g W O;simp only[uF];rw[gN uH]at O;have⟨h1,h2,h3⟩:=O;have H1:=fN h1;have H2:=fN h2;have H3:=fN h3;clear h1 h2 h3;rename_i KK N;refine N _ _ ?_;clear N KK;go_wp2;refine o0 (v:= .agg #[ga (d a),ga (d (a+1)),gw (R.cs.extract a (a+1))]) ?_ rfl ⟨rfl,H1.out,H2.out⟩;have I:=fO H3.out;simp[results,results147,asAddr,Result.andThen,go_sem,I]
def Vf (r:Nat) (R:RC) (a ps:Nat) (w:gr) (h:Rd w r R a ps) (d:R.nD=⟨#[]⟩):
  Calls prog 79 #[gF r] w λe w'=>e=ir (.bool false)/\Kept [] w w':=by
 have o:=h.nD;rw[d]at o;have u:=je h;go_enter func79,ntmps79;go_wp2;go_ret;exact⟨rfl,Kept.refl _ _⟩
theorem PK (c:jE) (o i:Nat) (a:List gG) (h:o+a.length<=c.size) (d:i < o\/o+a.length<=i):(jj c o a)[i]?=c[i]?:=by
 rw[<-Uo,ke _ _ _ h,<-Uo];grind
theorem Su (c:jE) (o k:Nat) (a:List gG) (h:o+a.length<=c.size) (d:k < a.length):(jj c o a)[o+k]?=a[k]?:=by
 rw[<-Uo,ke _ _ _ h];grind
def ae2:Tryz.zeroCells176[188]?=some (jV):=by kernel_rfl
def ae3:Tryz.zeroCells176[189]?=some (jV):=by kernel_rfl
def ae4:Tryz.zeroCells176[190]?=some (.pointer none):=by kernel_rfl
def ae5:Tryz.zeroCells176[191]?=some (.pointer none):=by kernel_rfl
def ae6:Tryz.zeroCells176[192]?=some (ga 0):=by kernel_rfl
def z193:Tryz.zeroCells176[193]?=some (ga 0):=by kernel_rfl
def z194:Tryz.zeroCells176[194]?=some (jV):=by kernel_rfl
def ae7:Tryz.zeroCells176[195]?=some (.bool false):=by kernel_rfl
def z196:Tryz.zeroCells176[196]?=some (.bool false):=by kernel_rfl
def ae8:Tryz.zeroCells176[197]?=some (ga 0):=by kernel_rfl
def z198:Tryz.zeroCells176[198]?=some (.bool false):=by kernel_rfl
def Tv (bs bm a r:Nat) (C:jE) (R:RC) (d ps:Nat) (w0:gr):Env:={bm:=bm,bB:=a,bR:=r,C0:=C,R0:=vX R d ps,Eh:=7,w0:=w0,tv:=jV,ta:=[],bs:=bs}
def PV (R:RC) (a ps:Nat) (s:gn) (b:Bool) (e:s=R.nD) (d:b=R.YA):((vX R a ps).setIfInBounds 7 (gw s)).setIfInBounds 8 (.bool b)=vX R a ps:=by
 subst e d;rfl
theorem WC {d f a x : Nat} {e : zz} (h:(S0 d f a x).gV i=some e):e=⟨⟨#[]⟩,[],none,[]⟩:=by
 have:=Ab.jd h
 match i,this with
 |0,this=>
  have u:some (A0.el ⟨⟨#[]⟩,[],none,[]⟩)=some (.el e):=this;grind
 |i+1,this=>simp[S0]at this
def adP (d f a x:Nat):Wf (S0 d f a x) where
 gq:=λx u=>by cases u
 act:=λx u=>by cases u
 head:=rfl
 form:=rfl
 ja:=λi e h=>by rw[WC h];rfl
 kids:=λi e h k z=>by rw[WC h]at z;cases z
 wK:=rfl
def ac8 (bs bm bB F r:Nat) (d f a:Nat) (w W:gr) (R:RC) (I:acl bm bB F d f a (.func (.func 45) #[gF r] #[]) w W) (hR:Rd W r R 0 0) (ho:R.nD=⟨#[]⟩) (hp:R.YA=false) (hd:d<=64) (hf:f<=32) (ha:a<=16) (G:bs<=w.heap.size) (Z:bs<=r):
  ∃C fl,fl 0=F/\RF (Tv bs bm bB r C R 0 0 W) fl (S0 d f a 0) W:=by
 have⟨c6,cs,v1,v2,v3,hb,hc6,hru,h1,h2,h3⟩:=I.ik;have X:=hru.1;have Y:c6.size=199:=by rw[hc6];simp[Bc,rO]
 have V:4+cs.length<=c6.size:=by rw[X,Y];decide
 have u:∀i,i < 4\/184<=i->(jj c6 4 cs)[i]?=c6[i]?:=λi z=>PK c6 4 i cs V (by omega);have D:∀i,188<=i->(jj c6 4 cs)[i]?=Tryz.zeroCells176[i]?:=λi z=>by
  rw[u i (.inr (by omega)),hc6];simp only[zp];rw[gI (by omega),gI (by omega),gI (by omega),wM _ _ _ _ _ _ _ (by omega) (by omega)]
 have a1:F < W.heap.size:=je I.wK;refine⟨jj c6 4 cs,λi=>if i=0 then F else W.heap.size+i,rfl,⟨⟨_,λ_=> .slice none 0 0,λ_=> .slice none 0 0,jV,jV,jV⟩,rfl,?_⟩⟩;have low:∀i v,i < 4->c6[i]?=some v->(jj c6 4 cs)[i]?=some v:=λi v z h=>(u i (.inl z)).trans h;have c0:c6[0]?=some (ga d):=by
  rw[hc6];simp[mH,zp,rO]
 have c1:c6[1]?=some (ga f):=by
  rw[hc6];simp[mH,zp,rO]
 have c2:c6[2]?=some (ga a):=by
  rw[hc6];simp[mH,zp,rO]
 have c3:c6[3]?=some (.func (.func 45) #[gF r] #[]):=by
  rw[hc6];simp[mH,zp,rO]
 have K:(jj c6 4 cs)[184]?=some v1:=by
  rw[u _ (.inr (by omega)),hc6];simp[mH,zp,rO]
 have N:(jj c6 4 cs)[185]?=some v2:=by
  rw[u _ (.inr (by omega)),hc6];simp[mH,zp,rO]
 have O:(jj c6 4 cs)[186]?=some v3:=by
  rw[u _ (.inr (by omega)),hc6];simp[mH,zp,rO]
 have U:(jj c6 4 cs)[187]?=some (iq F):=by
  rw[u _ (.inr (by omega)),hc6];simp[mH,zp,rO]
 exact
  {fr:=Fr.refl _
   env:={FY:=⟨cs,λk hk=>Su c6 4 k cs V (by omega),hru⟩,txt:=low 3 _ (by decide) c3,spec:=⟨v1,K,h1⟩,Ve:=⟨v2,N,h2⟩,UP:=⟨v3,O,h3⟩,wK:=U}
   Dt:=⟨low 0 _ (by decide) c0,low 1 _ (by decide) c1,low 2 _ (by decide) c2,hd,hf,ha⟩
   su:=λi nd z=>by
    match i,z with
    |0,z=>
     have e:nd= .el ⟨⟨#[]⟩,[],none,[]⟩:=by
      have:some (A0.el ⟨⟨#[]⟩,[],none,[]⟩)=some nd:=z;exact(jz this).symm
     subst e;exact⟨⟨I.wK,py _ _ _ _,iP _,⟨_,_,_,rfl⟩⟩,py _ _ _ _,iP _⟩
    |i+1,z=>simp[S0]at z
   inj:=λi j h=>by
    have h':(if i=0 then F else W.heap.size+i)=(if j=0 then F else W.heap.size+j):=h;by_cases z:i=0<;>by_cases hj:j=0<;>simp only[z,hj,↓reduceIte]at h'|- <;>omega
   AL:=λi j g z hj a3 H=>by simp[Value.ownBlock]at H
   FJ:=λi z he=>rfl
   uq:=λi j e g h1 h2 h3 h4 h5=>by simp[Value.ownBlock]at h5
   D0:=λi z he=>rfl
   wf:=adP d f a 0
   ik:=⟨_,hb,{size:=by rw[jo];exact Y,low:=λi z=>rfl,gq:=(D 188 (by omega)).trans ae2,act:=(D 189 (by omega)).trans ae3,head:=(D 190 (by omega)).trans ae4,form:=(D 191 (by omega)).trans ae5,mode:=(D 192 (by omega)).trans ae6,kept:=(D 193 (by omega)).trans z193,wait:=(D 194 (by omega)).trans z194,H6:=(D 195 (by omega)).trans ae7,jB:=(D 196 (by omega)).trans z196,gH:=(D 197 (by omega)).trans ae8,behind:=(D 198 (by omega)).trans z198}⟩
   oP:=py _ _ _ _
   pR:=py _ _ _ _
   FP:=λg H=>by simp[Value.ownBlock]at H
   wC:=iP _
   D7:=iP _
   oL:=py _ _ _ _
   KJ:=iP _
   rd:=by
    show W.heap[r]?=some (.cells (((vX R 0 0).setIfInBounds 7 (gw kC)).setIfInBounds 8 (.bool false)) _ _);rw[PV R 0 0 _ _ ho.symm hp.symm];exact hR
   P9:=by show 7+1 < 9;decide
   tok:=py _ _ _ _
   KG:=iP _
   bz:=jH G I.k.size
   bB:=jH G I.new
   bR:=Z
   bN:=λi z=>by
    have a2:i < 1:=z;have:i=0:=by omega
    subst this;exact jH G I.aeX
   Ck:=λh=>by simp[S0]at h
   ab:=λi g z H=>by simp[Value.ownBlock]at H
   tb:=λg H=>by
    have a0:(jV).ownBlock=some g:=H;simp[Value.ownBlock]at a0
   KI:=λv hv=>by cases hv}
def N5.move {d : Nat} (h:N5 E d) (C:Fr E.bs E.w0 w) (G:vE E.bm w w') (F:∀(b:Nat) (z:Array MapEntry) (u:Nat),w.heap[b]?=some (Obj.map z u)->w'.heap[b]?=some (Obj.map z u)):N5 {E with w0:=w'} d:=by
 have a:vE E.bm E.w0 w':=(C.n E.bm).trans G;have D:∀{R:Option (List (List gn×Ru))} {v:gG},ri E.bm E.bB d R v E.w0->ri E.bm E.bB d R v w':=by
  intro R v h;cases R with
  |none=>exact h
  |some R=>
   have⟨b,hb⟩:=h;have⟨z,u,hat⟩:=hb.at;have e1:=(C.calm (.inl hb.at)).trans hat;exact⟨b,hb.fr a ((F b z u e1).trans hat.symm)⟩
 have⟨cs,h1,h2,h3⟩:=h.FY;have⟨v1,a1,b1⟩:=h.spec;have⟨v2,a2,b2⟩:=h.Ve;have⟨v3,a3,b3⟩:=h.UP;exact⟨⟨cs,h1,h2,λm I H=>by
  have⟨v0,v1,v2,v3,v4,v5,v6,v7,v8,v9,e,hi⟩:=h3 m I H;exact⟨v0,v1,v2,v3,v4,v5,v6,v7,v8,v9,e,⟨hi.blank.fr a,hi.jW.fr a,hi.gJ.fr a,hi.iH.fr a,hi.ie.fr a,D hi.start,D hi.stop,hi.jK.fr a,hi.j9.fr a,hi.iy.fr a⟩⟩⟩,h.txt,⟨v1,a1,b1.fr a⟩,⟨v2,a2,b2.fr a⟩,⟨v3,a3,b3.fr a⟩,h.wK⟩
structure Lk (w:gr) (b:Nat) (look:gn->Option gn):Prop where
 lt:b < w.heap.size
 short:∀key t,look key=some t->t.size<=16
 run:∀(key:gn) (w':gr),w'.heap[b]?=w.heap[b]?->(Instr.lookup 156 (.map (some b)) (gw key) true).run prog w'= .ok (.tuple #[.agg #[gw ((look key).getD ⟨#[]⟩)],.bool (look key).isSome]) w'
def Lk.kept {look : gn->Option gn} (h:Lk w b look) (u:Kept S w w') (z:b∉S):Lk w' b look:=
 ⟨mf h.lt u.size,h.short,λa d e=>h.run a d (e.trans (u.block b h.lt z))⟩
open Go.ChangeMaps (setBlock)
def Pj (e:MapEntry):gG×gG:=(e.key,e.val)
def kv (p:gn×gn):gG×gG:=(gw p.1,.agg #[gw p.2])
structure Mp (w:gr) (b:Nat) (L:lh) (es:Array MapEntry) (clock:Nat):Prop where
 at_:w.heap[b]?=some (.map es clock)
 kvs:es.toList.map Pj=L.map kv
 nod:(es.toList.map (·.born)).Nodup
 old:∀x∈es.toList,x.born < clock
def Mp.kept {a:Array MapEntry} (h:Mp w b L a clock) (e:Kept S w w') (d:b∉S):Mp w' b L a clock:=⟨e.at h.at_ d,h.kvs,h.nod,h.old⟩
def MH (k:gn):∀(a:List MapEntry) (L:lh) (i:Nat),a.map Pj=L.map kv->L.all (λp=>!(k==p.1))=true->Instr.findNow .string (gw k) a i=some none
 |[],_,_,_,_=>rfl
 |e::a,[],_,h,_=>by simp at h
 |e::a,p::L,i,h,hn=>by
  simp only[y8,QP]at h;simp only[List.all_cons,qx]at hn;have u:e.key=gw p.1:=pJ Prod.fst h.1;have d:(k==p.1)=false:=by simpa using hn.1
  unfold Instr.findNow;simp only[u,Instr.sameNow,d];exact MH k a L (i+1) h.2 hn.2
theorem OQ (k:gn):∀(a:List MapEntry) (L:lh) (i:Nat) (p:gn×gn),a.map Pj=L.map kv->L.find? (λp=>k==p.1)=some p->∃j,Instr.findNow .string (gw k) a i=some (some (j,.agg #[gw p.2]))
 |[],[],_,_,_,h=>by simp at h
 |[],_::_,_,_,h,_=>by simp at h
 |e::a,[],_,_,h,_=>by simp at h
 |e::a,q::L,i,p,h,hp=>by
  simp only[y8,QP]at h;have d:e.key=gw q.1:=pJ Prod.fst h.1;have u:e.val= .agg #[gw q.2]:=pJ Prod.snd h.1;unfold Instr.findNow;cases hf:(k==q.1)
  .simp only[d,Instr.sameNow,hf];rw[List.find?_cons,hf]at hp;exact OQ k a L (i+1) p h.2 hp
  .simp only[d,Instr.sameNow,hf];simp_all
theorem Bb {a : gr} (h:Kept S a w) (u:b∈S\/a.heap.size<=b) (o:Obj):Kept S a (setBlock w b o):=
 ⟨h.os,h.tape,h.output,by show a.heap.size<=(w.heap.setIfInBounds b o).size;rw[QQ];exact h.size,λk d e=>by
  show(w.heap.setIfInBounds b o)[k]?=_;rw[DW (by grind)];exact h.block k d e⟩
theorem FZ (h:b < w.heap.size) (o:Obj):(setBlock w b o).heap[b]?=some o:=by
 show(w.heap.setIfInBounds b o)[b]?=_;grind
theorem rM {u:Array MapEntry} (h:Mp w b L u clock) (k t:gn) (I:L.all (λp=>!(k==p.1))=true):
  ∃w' C a,(Instr.mapUpdate 156 (.map (some b)) (gw k) (.agg #[gw t])).run prog w= .ok () w'/\Mp w' b (L++[(k,t)]) C a/\Kept [b] w w'/\w'.heap.size=w.heap.size:=by
 have H:=je h.at_;refine⟨setBlock w b (.map (u.push {key:=gw k,val:= .agg #[gw t],born:=clock}) (clock+1)),_,_,?_,⟨FZ H _,?_,?_,?_⟩,Bb (Kept.refl _ _) (.inl (by simp)) _,?_⟩
 .have G:=MH k u.toList L 0 h.kvs I;have D:(underlying 9).run prog w= .ok .string w:=qv underlying9 _;have F:(Instr.checkKey false 10000 9 (gw k)).run prog w= .ok () w:=by
   unfold Instr.checkKey;simp[D]
  simp[Instr.mapUpdate,qv underlying156,JG h.at_,F,Instr.findKey,D,G,setObj,Sem.run,h.at_,setBlock,Result.andThen]
 .simp[h.kvs,Pj,kv]
 .simp only[Array.toList_push,ra,y8,List.map_nil];rw[List.nodup_append];refine⟨h.nod,by simp,?_⟩;intro x d y N e;obtain⟨z,K,rfl⟩:=List.mem_map.1 d;have:=h.old z K;grind
 .intro x d;simp only[Array.toList_push,List.mem_append,List.mem_singleton]at d;rcases d with d|rfl
  .have:=h.old x d;omega
  simp
 .show(w.heap.setIfInBounds b _).size=_;simp
def pG (L:lh) (k:gn):Option gn:=(L.find? (λp=>k==p.1)).map (·.2)
def N0 (w:gr):(zeroValue 203).run prog w= .ok (.agg #[gw kC]) w:=by
 simp
theorem Mp.lk {a:Array MapEntry} (h:Mp w b L a clock) (H:L.all (λp=>decide (p.2.size<=16))=true):Lk w b (pG L) where
 lt:=je h.at_
 short k t ht:=by
  unfold pG at ht;obtain⟨p,D,rfl⟩:=Option.map_eq_some_iff.1 ht;grind
 run k w' e:=by
  have z:w'.heap[b]?=some (.map a clock):=e.trans h.at_;have F:(underlying 9).run prog w'= .ok .string w':=qv underlying9 _;have C:∀x,(Instr.checkKey x 10000 9 (gw k)).run prog w'= .ok () w':=λx=>by
   unfold Instr.checkKey;simp
  cases hf:L.find? (λp=>k==p.1)with
  |none=>
   have G:L.all (λp=>!(k==p.1))=true:=by
    rw[LW];intro p D;have:=List.find?_eq_none.1 hf p D
    simpa using this
   have d:=MH k a.toList L 0 h.kvs G;have u:pG L k=none:=by unfold pG;rw[hf];rfl
   rw[u];simp[Instr.lookup,qv underlying156,JG z,C,Instr.findKey,F,d,N0,Result.andThen]
  |some p=>
   have⟨j,d⟩:=OQ k a.toList L 0 p h.kvs hf;have u:pG L k=some p.2:=by unfold pG;rw[hf];rfl
   rw[u];simp[Instr.lookup,qv underlying156,JG z,C,Instr.findKey,F,d,Result.andThen]
open Go.ChangeMaps (setBlock)
def kv0:lh:=[(⟨#[97,112,111,115,59]⟩,sE),(mZ,⟨#[226,132,151]⟩),(nG,⟨#[226,136,137]⟩),(nH,⟨#[226,136,140]⟩),(mW,pA),(⟨#[112,97,114,59]⟩,⟨#[226,136,165]⟩),(mY,⟨#[226,138,160]⟩),(⟨#[98,110,101,59]⟩,⟨#[61,226,131,165]⟩),(⟨#[84,97,98,59]⟩,⟨#[9]⟩),(lM,ye)]
def ab0:lh:=[(⟨#[65,77,80]⟩,tm),(⟨#[97,109,112]⟩,tm),(⟨#[108,116]⟩,pY),(⟨#[103,116]⟩,iO),(⟨#[113,117,111,116]⟩,oN),(⟨#[110,98,115,112]⟩,si),(⟨#[99,111,112,121]⟩,⟨#[194,169]⟩),(⟨#[110,111,116]⟩,⟨#[194,172]⟩),(⟨#[112,97,114,97]⟩,⟨#[194,182]⟩),(pz,⟨#[195,151]⟩)]
def kvj (j:Nat):lh:=kv0++(ab0.take j).flatMap λp=>[(p.1,p.2),(p.1++⟨#[59]⟩,p.2)]
def zw (j:Nat):gn×gn:=ab0.getD j (⟨#[]⟩,⟨#[]⟩)
def vZ:jE:=#[gw ⟨#[65,77,80]⟩,gw tm,gw ⟨#[97,109,112]⟩,gw tm,gw ⟨#[108,116]⟩,gw pY,gw ⟨#[103,116]⟩,gw iO,gw ⟨#[113,117,111,116]⟩,gw oN,gw ⟨#[110,98,115,112]⟩,gw si,gw ⟨#[99,111,112,121]⟩,gw ⟨#[194,169]⟩,gw ⟨#[110,111,116]⟩,gw ⟨#[194,172]⟩,gw ⟨#[112,97,114,97]⟩,gw ⟨#[194,182]⟩,gw pz,gw ⟨#[195,151]⟩]
def aa0:Bool:=(List.range 10).all λj=>(kvj j).all (λp=>!((zw j).1==p.1))&&(kvj j++[zw j]).all (λp=>!(((zw j).1++⟨#[59]⟩)==p.1))&&decide ((zw j).1.size<=8)
def YQ:aa0=true:=rfl
theorem aaZ (h:j < 10):(kvj j).all (λp=>!((zw j).1==p.1))=true/\(kvj j++[zw j]).all (λp=>!(((zw j).1++⟨#[59]⟩)==p.1))=true/\(zw j).1.size<=8:=by
 have:=List.all_eq_true.1 YQ j (List.mem_range.2 h);grind
def VU (h:j < 10):vZ[j*2]?=some (gw (zw j).1)/\vZ[j*2+1]?=some (gw (zw j).2):=by
 rcases(by omega:j=0\/j=1\/j=2\/j=3\/j=4\/j=5\/j=6\/j=7\/j=8\/j=9)with rfl|rfl|rfl|rfl|rfl|rfl|rfl|rfl|rfl|rfl<;>exact⟨rfl,rfl⟩
def X9 (h:j < 10):kvj (j+1)=kvj j++[zw j]++[((zw j).1++⟨#[59]⟩,(zw j).2)]:=by
 rcases(by omega:j=0\/j=1\/j=2\/j=3\/j=4\/j=5\/j=6\/j=7\/j=8\/j=9)with rfl|rfl|rfl|rfl|rfl|rfl|rfl|rfl|rfl|rfl<;>rfl
def KV:lh:=kvj 10
def N7:KV.all (λp=>decide (p.2.size<=16))=true:=by rfl
def Zx:KV.all (λp=>decide (p.1.size<=8))=true:=by rfl
def Wy:KV.any (λp=>decide (p.1.size=8))=true:=by rfl
def abq (w0:gr) (b:Nat) (I:Mp w0 b [] #[] 0):∃d e h u z C D F G a:gr,(Instr.mapUpdate 156 (.map (some b)) (gw ⟨#[97,112,111,115,59]⟩) (.agg #[gw sE])).run prog w0= .ok () d/\(Instr.mapUpdate 156 (.map (some b)) (gw mZ) (.agg #[gw ⟨#[226,132,151]⟩])).run prog d= .ok () e/\(Instr.mapUpdate 156 (.map (some b)) (gw nG) (.agg #[gw ⟨#[226,136,137]⟩])).run prog e= .ok () h/\(Instr.mapUpdate 156 (.map (some b)) (gw nH) (.agg #[gw ⟨#[226,136,140]⟩])).run prog h= .ok () u/\(Instr.mapUpdate 156 (.map (some b)) (gw mW) (.agg #[gw pA])).run prog u= .ok () z/\(Instr.mapUpdate 156 (.map (some b)) (gw ⟨#[112,97,114,59]⟩) (.agg #[gw ⟨#[226,136,165]⟩])).run prog z= .ok () C/\(Instr.mapUpdate 156 (.map (some b)) (gw mY) (.agg #[gw ⟨#[226,138,160]⟩])).run prog C= .ok () D/\(Instr.mapUpdate 156 (.map (some b)) (gw ⟨#[98,110,101,59]⟩) (.agg #[gw ⟨#[61,226,131,165]⟩])).run prog D= .ok () F/\(Instr.mapUpdate 156 (.map (some b)) (gw ⟨#[84,97,98,59]⟩) (.agg #[gw ⟨#[9]⟩])).run prog F= .ok () G/\(Instr.mapUpdate 156 (.map (some b)) (gw lM) (.agg #[gw ye])).run prog G= .ok () a/\(∃H clock,Mp a b kv0 H clock)/\Kept [b] w0 a/\a.heap.size=w0.heap.size:=by
 have⟨d,es1,c1,r1,m1,k1,z1⟩:=rM (w:=w0) I ⟨#[97,112,111,115,59]⟩ sE (by rfl);have⟨e,es2,c2,r2,m2,k2,z2⟩:=rM (w:=d) m1 mZ ⟨#[226,132,151]⟩ (by rfl);have⟨h,es3,c3,r3,m3,k3,z3⟩:=rM (w:=e) m2 nG ⟨#[226,136,137]⟩ (by rfl);have⟨u,es4,c4,r4,m4,k4,z4⟩:=rM (w:=h) m3 nH ⟨#[226,136,140]⟩ (by rfl);have⟨z,es5,c5,r5,m5,k5,z5⟩:=rM (w:=u) m4 mW pA (by rfl);have⟨C,es6,c6,r6,m6,k6,z6⟩:=rM (w:=z) m5 ⟨#[112,97,114,59]⟩ ⟨#[226,136,165]⟩ (by rfl);have⟨D,es7,c7,r7,m7,k7,z7⟩:=rM (w:=C) m6 mY ⟨#[226,138,160]⟩ (by rfl);have⟨F,es8,c8,r8,m8,k8,z8⟩:=rM (w:=D) m7 ⟨#[98,110,101,59]⟩ ⟨#[61,226,131,165]⟩ rfl;have⟨G,es9,c9,r9,m9,k9,z9⟩:=rM (w:=F) m8 ⟨#[84,97,98,59]⟩ ⟨#[9]⟩ rfl;have⟨a,es10,c10,r10,m10,k10,z10⟩:=rM (w:=G) m9 lM ye rfl;exact⟨d,e,h,u,z,C,D,F,G,a,r1,r2,r3,r4,r5,r6,r7,r8,r9,r10,⟨_,_,m10⟩,(((((((((k1).trans k2).trans k3).trans k4).trans k5).trans k6).trans k7).trans k8).trans k9).trans k10,by omega⟩
def acj (w:gr) (a bm j:Nat) (wr:gr):Prop:=
 (∃e d,Mp wr bm (kvj j) e d)/\wr.heap[a]?=some (gy #[.map (some bm),ga 0] 158)/\wr.heap[a+1]?=some (gy vZ 204)/\wr.heap[w.heap.size]?=some (gy #[.map none,ga 0] 158)/\Kept [] w wr
def aan:gG->Nat
 | .string k=>k.size
 |_=>0
structure ack (w:gr) (nb bm it:Nat) (es:Array MapEntry) (ck:Nat) (wr:gr) (seen:Array Nat) (c0 M:Nat):Prop where
 iter:wr.heap[it]?=some (.mapIter (some bm) ck seen c0)
 late:ck<=c0
 mp:Mp wr bm KV es ck
 nam:wr.heap[nb]?=some (gy #[.map (some bm),ga M] 158)
 res:wr.heap[w.heap.size]?=some (gy #[.map none,ga 0] 158)
 le:M<=8
 Tj:∀e∈es.toList,seen.contains e.born=true->aan e.key<=M
 kept:Kept [] w wr
 size:it < wr.heap.size
def acX {a:Array MapEntry} (h:a.toList.map Pj=L.map kv) {e:MapEntry} (d:e∈a.toList):∃p∈L,e.key=gw p.1:=by
 have:Pj e∈L.map kv:=by rw[<-h];exact List.mem_map.2 ⟨e,d,rfl⟩
 have⟨p,hp,e1⟩:=List.mem_map.1 this;exact⟨p,hp,(pJ Prod.fst e1).symm⟩
def Xw {a:Array MapEntry} (h:a.toList.map Pj=L.map kv) {p : gn×gn} (d:p∈L):∃e∈a.toList,e.key=gw p.1:=by
 have:kv p∈a.toList.map Pj:=by rw[h];exact List.mem_map.2 ⟨p,d,rfl⟩
 have⟨e,he,e1⟩:=List.mem_map.1 this;exact⟨e,he,pJ Prod.fst e1⟩
theorem PZ (w:gr):
  Calls prog 57 #[] w λe w'=>∃b,e=ir (.agg #[.map (some b),ga 8])/\w.heap.size<=b/\Lk w' b (pG KV)/\Kept [] w w':=by
 obtain⟨a,H⟩:∃a,a=w.alloc (.cells #[.map none,ga 0] 158):=⟨_,rfl⟩;have za:a.heap.size=w.heap.size+1:=by rw[H];simp
 obtain⟨wb,F⟩:∃wb,wb=a.alloc (.map #[] 0):=⟨_,rfl⟩;have ka:Kept [] w a:=by rw[H];exact(Kept.refl _ _).alloc _
 have kb:Kept [] a wb:=by rw[F];exact(Kept.refl _ _).alloc _
 have hA:a.heap[w.heap.size]?=some (gy #[.map none,ga 0] 158):=by rw[H];exact fQ w _
 have ac:Mp wb a.heap.size [] #[] 0:=⟨by rw[F];exact fQ a _,rfl,by simp,by simp⟩;have zb:wb.heap.size=a.heap.size+1:=by rw[F];simp
 have⟨w1,w2,w3,w4,w5,w6,w7,w8,w9,w10,r1,r2,r3,r4,r5,r6,r7,r8,r9,r10,⟨es,ck,HM⟩,k10,z10⟩:=abq wb a.heap.size ac;have af:(Instr.makeMap 156 none).run prog a= .ok (.map (some a.heap.size)) wb:=by rw[F];rfl
 have ab:=fN H.symm;have ak:=F.symm;have HK:=(show Kept [] w w10 from((ka.trans kb).next k10 (by grind)));have HA:=(show w10.heap[w.heap.size]?=_ from k10.at (kb.at hA (by simp)) (by grind));have Hz:=fN (show w10.heap.size=w.heap.size+2 by omega);have K:=fN za;clear H F ka kb hA ac zb k10 za z10;go_enter func57,ntmps57;go_wp21;rw[ab.out,af];clear af ab ak;go_wp2_with fail;obtain⟨W,hW⟩:∃W,W=(w10.alloc (.cells #[.map (some a.heap.size),ga 0] 158)).alloc (.cells vZ 204):=⟨_,rfl⟩;have kW:Kept [] w10 W:=by rw[hW];exact((Kept.refl _ _).alloc _).alloc _
 have z:W.heap[w10.heap.size]?=some (gy #[.map (some a.heap.size),ga 0] 158):=by
  rw[hW,Below.heap_alloc _ _ _ (by simp)];exact fQ w10 _
 have G:W.heap[w10.heap.size+1]?=some (gy vZ 204):=by
  have:=fQ (w10.alloc (.cells #[.map (some a.heap.size),ga 0] 158)) (.cells vZ 204);rw[hW];simpa using this
 have HS:Hid (acj w w10.heap.size a.heap.size 0 W):=⟨⟨es,ck,HM.kept kW (by simp)⟩,z,G,kW.at HA (by simp),HK.trans kW⟩;have ai:vZ=#[gw ⟨#[65,77,80]⟩,gw tm,gw ⟨#[97,109,112]⟩,gw tm,gw ⟨#[108,116]⟩,gw pY,gw ⟨#[103,116]⟩,gw iO,gw ⟨#[113,117,111,116]⟩,gw oN,gw ⟨#[110,98,115,112]⟩,gw si,gw ⟨#[99,111,112,121]⟩,gw ⟨#[194,169]⟩,gw ⟨#[110,111,116]⟩,gw ⟨#[194,172]⟩,gw ⟨#[112,97,114,97]⟩,gw ⟨#[194,182]⟩,gw pz,gw ⟨#[195,151]⟩]:=rfl;rw[ai]at hW;rw[<-hW];clear hW kW z G ai HM HK HA r1 r2 r3 r4 r5 r6 r7 r8 r9 r10
 go_loopw [30] (λv wr=>∃j:Nat,v=ga j/\j<=10/\acj w w10.heap.size a.heap.size j wr) (λv _=>10 - (intOf v).toNat)
 case atStart=>exact⟨0,rfl,by omega,HS.out⟩
 case round=>
  obtain⟨j,rfl,hj,h1⟩:=hrel;by_cases a7:j < 10
  .have⟨⟨es1,ck1,mp1⟩,z,G,hR,hk⟩:=h1;have rc:=VU a7;have x0:wr.cell? ⟨w10.heap.size+1,j*2,none⟩=some (gw (zw j).1):=by rw[fO G];exact rc.1
   have x1:wr.cell? ⟨w10.heap.size+1,j*2+1,none⟩=some (gw (zw j).2):=by rw[fO G];exact rc.2
   have⟨n1,n2,n3⟩:=aaZ a7;have I:=X9 a7;generalize hn:(zw j).1=nm at *;generalize ht:(zw j).2=tx at *;have ag:zw j=(nm,tx):=by rw[<-hn,<-ht]
   rw[ag]at n2 I;clear hn ht ag;obtain⟨W1,O⟩:∃W1,W1=wr.alloc (.cells #[gw nm,gw tx] 204):=⟨_,rfl⟩;have kk:Kept [] wr W1:=by rw[O];exact(Kept.refl _ _).alloc _
   have hX:W1.heap[wr.heap.size]?=some (gy #[gw nm,gw tx] 204):=by rw[O];exact fQ wr _
   have⟨W2,es2,ck2,ru2,mp2,k2,s2⟩:=rM (mp1.kept kk (by simp)) nm tx n1;have⟨W3,es3,ck3,ru3,mp3,k3,s3⟩:=rM mp2 (nm++⟨#[59]⟩) tx n2;have am:=je mp1.at_;have av:=je z;have bN:a.heap.size≠w10.heap.size:=λe=>by rw[<-e,mp1.at_]at z;simp at z
   have bG:a.heap.size≠w10.heap.size+1:=λe=>by rw[<-e,mp1.at_]at G;simp at G
   have X:a.heap.size≠w.heap.size:=λe=>by rw[<-e,mp1.at_]at hR;simp at hR
   have a3:=kk.at z (by simp);have a4:=k2.at a3 (by grind);have a5:=k2.at hX (by simp;omega);have a0:=fO z 0;have a1:=fO a3 0;have a2:=fO a4 0;have y0:=fO hX 0;have y1:=fO hX 1;have z0:=fO a5 0;have z1:=fO a5 1;dsimp at a0 a1 a2 y0 y1 z0 z1;have HE:Hid (acj w w10.heap.size a.heap.size (j+1) W3):=by
    refine⟨⟨es3,ck3,by rw[I];exact mp3⟩,k3.at a4 (by grind),k3.at (k2.at (kk.at G (by simp)) (by grind)) (by grind),k3.at (k2.at (kk.at hR (by simp)) (by grind)) (by grind),?_⟩;have ay:=K.out;exact((hk.trans kk).next k2 (by simp;omega)).next k3 (by simp;omega)
   rw[O]at ru2;clear a1 y0 y1 mp1 z G hR hk rc n1 n2 I kk hX mp2 k2 s2 mp3 k3 s3 a3 a4 a5 bN bG X am;clear O;go_wp2;go_roundw
   case rel=>exact⟨j+1,by go_num,by omega,HE.out⟩
   case measure=>simp[intOf];omega
  .have al:j=10:=by omega
   subst al;have⟨⟨es1,ck1,mp1⟩,z,G,hR,hk⟩:=h1;have a0:=fO z 0;dsimp at a0;have ao:=run_range_map (P:=prog) wr 156 9 203 a.heap.size es1 ck1 underlying156 mp1.at_;have ki:Kept [] wr (wr.alloc (.mapIter (some a.heap.size) ck1 #[] ck1)):=(Kept.refl _ _).alloc _;have aa:Hid (ack w w10.heap.size a.heap.size wr.heap.size es1 ck1 (wr.alloc (.mapIter (some a.heap.size) ck1 #[] ck1)) #[] ck1 0):=
    ⟨fQ wr _,gW _,mp1.kept ki (by simp),ki.at z (by simp),ki.at hR (by simp),by omega,by simp,hk.trans ki,by simp⟩
   have Z:w10.heap.size≠wr.heap.size:=by have:=je z;omega
   have X:w.heap.size≠wr.heap.size:=by have:=je hR;omega
   have bM:a.heap.size≠wr.heap.size:=by have:=je mp1.at_;omega
   have D:w.heap.size≠w10.heap.size:=by have:=Hz.out;omega
   have C:w10.heap.size≠a.heap.size:=by have:=Hz.out;have:=K.out;omega
   have a9:=(show w.heap.size<=wr.heap.size from hk.size);have Hb:=And.intro Z (And.intro X (And.intro bM (And.intro D C)));clear mp1 z G hR hk ki Z X bM D C;go_wp21;clear ao a0;obtain⟨it,ae⟩:∃it,it=wr.heap.size:=⟨_,rfl⟩;rw[<-ae]at aa Hb a9|-;clear ae
   go_loopw [] (λwq=>∃d c0 M,ack w w10.heap.size a.heap.size it es1 ck1 wq d c0 M) (λwq=>(leftOf es1 (wq.iterSeen it)).size)
   case atStart=>exact⟨_,_,_,aa.out⟩
   case round=>
    have⟨d,c0,M,h2⟩:=hrel;have⟨Z,X,bM,D,C⟩:=Hb;have a8:wr.iterSeen it=d:=by unfold World.iterSeen;rw[h2.iter]
    rcases run_next_at (P:=prog) wr 0 it a.heap.size ck1 c0 d es1 ck1 h2.iter h2.mp.at_ h2.mp.old h2.late with⟨h0,Y⟩|⟨N,a6,wv,ap,Y⟩
    .have hM:M=8:=by
      have h8:=Wy;rw[List.any_eq_true]at h8;have⟨p,hp,ah⟩:=h8;have⟨e,he,hk⟩:=Xw h2.mp.kvs hp;have h9:=h2.Tj e he (all_seen es1 d h0 e he);rw[hk]at h9;have ar:p.1.size=8:=by simpa using ah
      have au:p.1.size<=M:=h9;have:=h2.le;omega
     subst hM;have n0:=fO h2.nam 0;have n1:=fO h2.nam 1;have d0:=fO h2.res 0;have d1:=fO h2.res 1;have f0:=gu h2.res 0;have f1:=gu h2.res 1;dsimp at n0 n1 d0 d1;have HK:Kept [] w ((wr.setCell ⟨w.heap.size,0,none⟩ (.map (some a.heap.size))).setCell ⟨w.heap.size,1,none⟩ (ga 8)):=(h2.kept.setCell (.inr (gW _)) _).setCell (.inr (gW _)) _;have kr:Kept [w.heap.size] wr ((wr.setCell ⟨w.heap.size,0,none⟩ (.map (some a.heap.size))).setCell ⟨w.heap.size,1,none⟩ (ga 8)):=((Kept.refl _ _).setCell (.inl (by simp)) _).setCell (.inl (by simp)) _;have HL:=((h2.mp.kept kr (by simp;have:=K.out;omega)).lk N7);have an:w.heap.size<=a.heap.size:=by have:=K.out;omega
     clear h2 a8 h0 kr Z X bM D C;go_wp2;refine o0 (v:= .agg #[.map (some a.heap.size),ga 8]) ?_ rfl ⟨_,rfl,an,HL,HK⟩;simp[results,results57,asAddr,Result.andThen,go_sem,d0,d1]
    .have⟨he1,he2⟩:=mem_left a6;have⟨p,hp,hkey⟩:=acX h2.mp.kvs he1;have ah:p.1.size<=8:=by
      have:=List.all_eq_true.1 Zx p hp
      simpa using this
     have aq:=left_shrinks es1 d N a6;obtain⟨V,U⟩:∃V,V=setBlock wv it (.mapIter (some a.heap.size) ck1 (d.push N.born) ck1):=⟨_,rfl⟩;rw[<-U,hkey]at Y;have u:Kept [] wr wv:=by rcases ap with rfl|rfl;exact Kept.refl _ _;exact(Kept.refl _ _).drew
     have kz:Kept [it] wv V:=by rw[U];exact Bb (Kept.refl _ _) (.inl (by simp)) _
     have iz:V.heap[it]?=some (.mapIter (some a.heap.size) ck1 (d.push N.born) ck1):=by rw[U];exact FZ (mf h2.size u.size) _
     have mz:=(h2.mp.kept u (by simp)).kept kz (by simpa using bM);have nz:=kz.at (u.at h2.nam (by simp)) (by simpa using Z);have rz:=kz.at (u.at h2.res (by simp)) (by simpa using X);have ad:=run_entry_at (P:=prog) V it a.heap.size ck1 d es1 ck1 N iz mz.at_ he1 mz.nod;rw[hkey]at ad;have n1:=fO nz 1;have f1:=gu nz 1;dsimp at n1;have aw:max (M:Int) (p.1.size:Int)=((max M p.1.size:Nat):Int):=by omega
     have I:Kept [w10.heap.size] V (V.setCell ⟨w10.heap.size,1,none⟩ (ga ((max M p.1.size:Nat)))):=(Kept.refl _ _).setCell (.inl (by simp)) _;have aj:=fV nz 1 (ga ((max M p.1.size:Nat)));have HE:Hid (ack w w10.heap.size a.heap.size it es1 ck1 (V.setCell ⟨w10.heap.size,1,none⟩ (ga ((max M p.1.size:Nat)))) (d.push N.born) ck1 (max M p.1.size)):=by
      refine⟨I.at iz (by simpa using λe=>Z e.symm),gW _,mz.kept I (by simpa using λe=>C e.symm),aj,I.at rz (by simpa using D),by have:=h2.le;omega,?_,?_,?_⟩
      .intro e he hc;rw[contains_push]at hc;rcases Bool.or_eq_true_iff.1 hc with h|h
       .have:=h2.Tj e he h;omega
       .have e1:e.born=N.born:=by simpa using h
        have e2:e=N:=by
         have q1:=find_born e es1.toList h2.mp.nod he;have q2:=find_born N es1.toList h2.mp.nod he1;rw[e1,q2]at q1;exact(jz q1).symm
        rw[e2,hkey];show p.1.size<=_;omega
      .have az:=Hz.out;have aA:=je h2.res;exact((h2.kept.trans u).next kz (by simp;exact a9)).next I (by simp;omega)
      .exact mf h2.size (jH u.size (jH kz.size I.size))
     have ax:(V.setCell ⟨w10.heap.size,1,none⟩ (ga ((max M p.1.size:Nat)))).iterSeen it=d.push N.born:=by unfold World.iterSeen;rw[HE.out.iter]
     clear h2 mz nz rz iz u kz I aj U he1 he2 a6 hp hkey Z X bM D C;generalize p.1=aB at *;go_wp2;go_roundw
     case rel=>exact⟨_,_,_,HE.out⟩
     simp_all
def xL (s:gn) (i:Nat):Bool:=!(decide (bt s i=10)&&decide (0 < i)&&decide (bt s (i - 1)=13))
def gx (s:gn) (n:Nat):List Nat:=(List.range n).filter (xL s)
def Ts (s:gn) (k:Nat):Int:=if bt s k=13 then 10 else bt s k
def chB (s:gn) (k:Nat):UInt8:=(Ts s k).toNat.toUInt8
def zr (s:gn):gn:=⟨((gx s s.size).map (chB s)).toArray⟩
def Gw (h:xL s n=true):gx s (n+1)=gx s n++[n]:=by unfold gx;rw[List.range_succ,List.filter_append];simp[h]
def WT (h:xL s n=false):gx s (n+1)=gx s n:=by unfold gx;rw[List.range_succ,List.filter_append];simp[h]
theorem Gv (s:gn) (n:Nat):(gx s n).length<=n:=by
 grind[gx]
def AC (s:gn):(zr s).size=(gx s s.size).length:=by show(((gx s s.size).map (chB s)).toArray).size=_;simp
theorem UU (s:gn) (k:Nat):0<=Ts s k/\Ts s k<=255:=by
 have a:=bt_nonneg s k;have d:=bt_le s k;grind[Ts]
def UT (s:gn) (k:Nat):((chB s k).toNat:Int)=Ts s k:=by
 have:=UU s k;unfold chB;simp;omega
def uD (s:gn) (n:Nat):List gG:=(gx s n).map λk=> .int .u8 (Ts s k)
def p5 (s:gn) (n:Nat):List gG:=(gx s n).map λk:Nat=> ga k
theorem nj {u z : Nat} {e1 e2 : TypeId} {N O : Nat} {v1 v2 : gG} {I K : Nat} {U V : List gG} (C:w.ownsRow u e1 N v1 I U) (D:w.ownsRow z e2 O v2 K V) (H:e1≠e2) (k:Nat) (d:v1.ownBlock=some k):v2.ownBlock≠some k:=by
 intro a;rcases C.2 with⟨h,_⟩|⟨Z,X,u1,h,_,F,_⟩
 .rw[h]at d;cases d
 rcases D.2 with⟨e,_⟩|⟨g2,Y,u2,e,_,G,_⟩
 .rw[e]at a;cases a
 rw[h]at d;rw[e]at a;obtain rfl:=jz d;obtain rfl:=jz a;grind
def XV:(prog.info? 3).map (λi=>(i.zero,i.size,i.bytes))=some (some (ga 0),1,8):=by kernel_rfl
theorem Jb {l:List UInt8} (e:w.ownsRow base 5 1 v n (l.map λb=> .int .u8 (b.toNat:Int))) (H:l.length=n) (z:∀k,v.ownBlock=some k->w'.heap[k]?=w.heap[k]?):
  (convert 53 9 v).run prog w'= .ok (gw ⟨l.toArray⟩) w':=by
 rcases e.2 with⟨rfl,C⟩|⟨g,d,u,rfl,D,F,I⟩
 .have:l=[]:=SZ (by omega);subst this;have:=run_convert_bytes_nil (P:=prog) (w:=w') 53 5 underlying53 underlying5 0 0;exact this 9 underlying9
 .have h:=SU (P:=prog) w' 53 9 5 ⟨g,0,none⟩ d l underlying53 underlying5 underlying9 (λj G=>by
   rw[Zf (w:=w) (a:=(⟨g,0,none⟩:Addr).add j) (by rw[js];exact z g rfl)];exact e.cells (g:=g) rfl j _ (by grind))
  grind
structure Q6 (s:gn) (w:gr) (k:Nat) (vb va:gG) (wr:gr):Prop where
 b:wr.ownsRow w.heap.size 5 1 vb (gx s k).length (uD s k)
 a:wr.ownsRow w.heap.size 3 1 va (gx s k).length (p5 s k)
 kept:Kept [] w wr
theorem XF (s:gn) (tv:gG) (base:Nat) (w:gr) (ho:w.ownsRow base 5 1 tv s.size (kV s)) (hs:s.size<=1024):
  Calls prog 58 #[tv] w λe w'=>∃av,e=ir (.tuple #[gw (zr s),av])/\w'.ownsRow w.heap.size 3 1 av ((gx s s.size).length+1) (p5 s s.size++[ga s.size])/\Kept [] w w':=by
 have⟨iu,hiu,hu0,hu1,hu2⟩:=tj MT;obtain⟨ii,a7,a4,a5,a6⟩:=tj XV;have⟨ao,cp,htv⟩:=gv ho;subst htv;have HC:∀(wr:gr),Kept [] w wr->∀j,j < s.size->∃g,ao=some ⟨g,0,none⟩/\wr.cell? ⟨g,j,none⟩=some (.int .u8 (bt s j)):=by
  intro wr hk j z;rcases ho.2 with⟨h,h0⟩|⟨g,ar,aG,h,_,hc,_⟩
  .omega
  .have aa:ao=some ⟨g,0,none⟩:=by simpa using pJ (λv=>match v with| .slice a _ _=>a|_=>none) h
   refine⟨g,aa,?_⟩;rw[hk.cell (p:=⟨g,j,none⟩) (je hc) (by simp)];have h1:=ho.cells (g:=g) (by rw[h];rfl) j (.int .u8 (bt s j)) (by
    unfold kV;rw[List.getElem?_map,qw (by simp_all)];simp only[Option.map_some];rw[show((s.data.toList[j]'(by simp_all)).toNat:Int)=bt s j from by unfold bt;rw[xo z];rfl])
   rwa [js]at h1
 have H0:Hid (Q6 s w 0 (jV) (jV) w):=⟨py _ _ _ _,py _ _ _ _,Kept.refl _ _⟩;clear ho;go_enter func58,ntmps58;go_wp21
 go_loopw [4,5,10] (λvb va v wr=>∃k:Nat,v=ga k/\k<=s.size/\Q6 s w k vb va wr) (λ_ _ v _=>s.size - (intOf v).toNat)
 case atStart=>exact⟨0,rfl,iP _,H0⟩
 case round=>
  obtain⟨k,rfl,hk,hh⟩:=hrel;by_cases aD:k < s.size
  .have⟨g,aa,c1⟩:=HC wr hh.kept k aD;subst aa;have D:=hh;have⟨bo,bc,hvb⟩:=gv hh.b;have⟨ax,ac,hva⟩:=gv hh.a;subst hvb hva;have h0:=bt_nonneg s k;have h1:=bt_le s k;have aw:=Gv s k;by_cases a0:bt s k=10
   .by_cases aB:k=0
    .subst aB;have X:xL s 0=true:=by unfold xL;simp
     have K:Ts s 0=10:=by unfold Ts;rw[a0];rfl
     rw[a0]at c1;have hy:=Gw X;have HY:=fN hy;have a2:=fN K;clear hy K;go_wp2_with (at_builtin;refine ij _ rfl _ _ 53 rfl w.heap.size 5 iu (.int .u8 0) 1 1 underlying53 hiu hu0 hu1 hu2 rfl (by decide) _ _ _ rfl (D.b.alloc _) ⟨wr.heap.size,0,none⟩ 1 1 [.int .u8 10] rfl ?c1 ?Y ?c3 ?c4 ?c5 ?c6 ?_)
     case c1=>rfl
     case Y=>
      intro j u z
      match j,z with
      |0,z=>simp at z;subst z;simp[Addr.add]
     case c3=>intro u G;simp at G;subst G;rfl
     case c4=>unfold maxLen;omega
     case c5=>omega
     case c6=>have:=D.kept.size;simp;omega
     intro af V F N ab;have⟨bo',bc',hvb⟩:=gv F;subst hvb;have H:Kept [] w V:=(D.kept.alloc _).grown N (λx d=> .inr (D.b.lt x d).1);have C:V.ownsRow w.heap.size 3 1 (.slice ax (gx s 0).length ac) (gx s 0).length (p5 s 0):=by
      have h3:Kept (Value.slice bo (gx s 0).length bc).ownBlock.toList (wr.alloc (.cells #[.int .u8 10] 5)) V:=(Kept.refl _ _).grown N (λx d=> .inl (by simp[d]));exact h3.ownsRow (D.a.alloc _) (λx d=>by simp;exact λhb=>nj D.b D.a (by decide) x hb d)
     have I:=fN F;clear F;go_wp2_with (at_builtin;refine ij _ rfl _ _ 35 rfl w.heap.size 3 ii (ga 0) 1 8 underlying35 a7 a4 a5 a6 rfl (by decide) _ _ _ rfl (C.alloc _) ⟨V.heap.size,0,none⟩ 1 1 [ga ((0:Nat))] rfl ?c1 ?Y ?c3 ?c4 ?c5 ?c6 ?_)
     case c1=>rfl
     case Y=>
      intro j u z
      match j,z with
      |0,z=>simp at z;subst z;simp[Addr.add]
     case c3=>intro u G;simp at G;subst G;rfl
     case c4=>unfold maxLen;omega
     case c5=>omega
     case c6=>have:=H.size;simp;omega
     intro ae w3 U O ad;have⟨ao',ac',hva⟩:=gv U;subst hva;have HE:Hid (Q6 s w (0+1) (.slice bo' ((gx s 0).length+1) bc') (.slice ao' ((gx s 0).length+1) ac') w3):=by
      have h3:Kept (Value.slice ax (gx s 0).length ac).ownBlock.toList (V.alloc (.cells #[ga ((0:Nat))] 3)) w3:=(Kept.refl _ _).grown O (λx d=> .inl (by simp[d]));refine⟨?_,?_,(H.alloc _).grown O (λx d=> .inr (C.lt x d).1)⟩
      .unfold uD;rw[HY.out,ra,me];have:=h3.ownsRow (I.alloc _) (λx d=>by simp;exact λhb=>nj C I (by decide) x hb d)
       simpa [uD,a2.out]using this
      .unfold p5;rw[HY.out,ra,me]
       simpa [p5]using U
     generalize (gx s 0).length=a9 at *;go_wp2;go_roundw
     case rel=>exact⟨0+1,by go_num,by omega,HE⟩
     case measure=>simp[intOf];omega
    .have Y:wr.cell? ⟨g,k - 1,none⟩=some (.int .u8 (bt s (k - 1))):=by
      have⟨g',Z,Y⟩:=HC wr D.kept (k - 1) (by omega);obtain rfl:g=g':=by simpa using Z
      exact Y
     obtain⟨m,rfl⟩:∃m,k=m+1:=⟨k - 1,by omega⟩;simp only[QX]at Y;by_cases a1:bt s m=13
     .have X:xL s (m+1)=false:=by unfold xL;simp[a0,a1]
      have HE:Hid (Q6 s w (m+1+1) (.slice bo (gx s (m+1)).length bc) (.slice ax (gx s (m+1)).length ac) wr):=by
       have:=D;refine⟨?_,?_,this.kept⟩
       .have h:=this.b;unfold uD at h|-;rw[WT X];exact h
       .have h:=this.a;unfold p5 at h|-;rw[WT X];exact h
      rw[a0]at c1;rw[a1]at Y;generalize (gx s (m+1)).length=a9 at *;go_wp2;go_roundw
      case rel=>exact⟨m+1+1,by go_num,by omega,HE⟩
      case measure=>simp[intOf];omega
     .have X:xL s (m+1)=true:=by unfold xL;simp[a1]
      have K:Ts s (m+1)=10:=by unfold Ts;rw[a0];rfl
      have aF:¬bt s m=13:=a1;rw[a0]at c1;have m0:=bt_nonneg s m;have m1:=bt_le s m;have hy:=Gw X;have HY:=fN hy;have a2:=fN K;clear hy K;go_wp2_with (at_builtin;refine ij _ rfl _ _ 53 rfl w.heap.size 5 iu (.int .u8 0) 1 1 underlying53 hiu hu0 hu1 hu2 rfl (by decide) _ _ _ rfl (D.b.alloc _) ⟨wr.heap.size,0,none⟩ 1 1 [.int .u8 10] rfl ?c1 ?Y ?c3 ?c4 ?c5 ?c6 ?_)
      case c1=>rfl
      case Y=>
       intro j u z
       match j,z with
       |0,z=>simp at z;subst z;simp[Addr.add]
      case c3=>intro u G;simp at G;subst G;rfl
      case c4=>unfold maxLen;omega
      case c5=>omega
      case c6=>have:=D.kept.size;simp;omega
      intro af V F N ab;have⟨bo',bc',hvb⟩:=gv F;subst hvb;have H:Kept [] w V:=(D.kept.alloc _).grown N (λx d=> .inr (D.b.lt x d).1);have C:V.ownsRow w.heap.size 3 1 (.slice ax (gx s (m+1)).length ac) (gx s (m+1)).length (p5 s (m+1)):=by
       have h3:Kept (Value.slice bo (gx s (m+1)).length bc).ownBlock.toList (wr.alloc (.cells #[.int .u8 10] 5)) V:=(Kept.refl _ _).grown N (λx d=> .inl (by simp[d]));exact h3.ownsRow (D.a.alloc _) (λx d=>by simp;exact λhb=>nj D.b D.a (by decide) x hb d)
      have I:=fN F;clear F;go_wp2_with (at_builtin;refine ij _ rfl _ _ 35 rfl w.heap.size 3 ii (ga 0) 1 8 underlying35 a7 a4 a5 a6 rfl (by decide) _ _ _ rfl (C.alloc _) ⟨V.heap.size,0,none⟩ 1 1 [ga (((m+1):Nat):Int)] rfl ?c1 ?Y ?c3 ?c4 ?c5 ?c6 ?_)
      case c1=>rfl
      case Y=>
       intro j u z
       match j,z with
       |0,z=>simp at z;subst z;simp[Addr.add]
      case c3=>intro u G;simp at G;subst G;rfl
      case c4=>unfold maxLen;omega
      case c5=>omega
      case c6=>have:=H.size;simp;omega
      intro ae w3 U O ad;have⟨ao',ac',hva⟩:=gv U;subst hva;have HE:Hid (Q6 s w ((m+1)+1) (.slice bo' ((gx s (m+1)).length+1) bc') (.slice ao' ((gx s (m+1)).length+1) ac') w3):=by
       have h3:Kept (Value.slice ax (gx s (m+1)).length ac).ownBlock.toList (V.alloc (.cells #[ga (((m+1):Nat):Int)] 3)) w3:=(Kept.refl _ _).grown O (λx d=> .inl (by simp[d]));refine⟨?_,?_,(H.alloc _).grown O (λx d=> .inr (C.lt x d).1)⟩
       .unfold uD;rw[HY.out,ra,me];have:=h3.ownsRow (I.alloc _) (λx d=>by simp;exact λhb=>nj C I (by decide) x hb d)
        simpa [uD,a2.out]using this
       .unfold p5;rw[HY.out,ra,me]
        simpa [p5]using U
      generalize (gx s (m+1)).length=a9 at *;go_wp2;go_roundw
      case rel=>exact⟨(m+1)+1,by go_num,by omega,HE⟩
      case measure=>simp[intOf];omega
   .by_cases a1:bt s k=13
    .have X:xL s k=true:=by unfold xL;simp[a0]
     have K:Ts s k=10:=by unfold Ts;rw[a1];rfl
     rw[a1]at c1;have hy:=Gw X;have HY:=fN hy;have a2:=fN K;clear hy K;go_wp2_with (at_builtin;refine ij _ rfl _ _ 53 rfl w.heap.size 5 iu (.int .u8 0) 1 1 underlying53 hiu hu0 hu1 hu2 rfl (by decide) _ _ _ rfl (D.b.alloc _) ⟨wr.heap.size,0,none⟩ 1 1 [.int .u8 10] rfl ?c1 ?Y ?c3 ?c4 ?c5 ?c6 ?_)
     case c1=>rfl
     case Y=>
      intro j u z
      match j,z with
      |0,z=>simp at z;subst z;simp[Addr.add]
     case c3=>intro u G;simp at G;subst G;rfl
     case c4=>unfold maxLen;omega
     case c5=>omega
     case c6=>have:=D.kept.size;simp;omega
     intro af V F N ab;have⟨bo',bc',hvb⟩:=gv F;subst hvb;have H:Kept [] w V:=(D.kept.alloc _).grown N (λx d=> .inr (D.b.lt x d).1);have C:V.ownsRow w.heap.size 3 1 (.slice ax (gx s k).length ac) (gx s k).length (p5 s k):=by
      have h3:Kept (Value.slice bo (gx s k).length bc).ownBlock.toList (wr.alloc (.cells #[.int .u8 10] 5)) V:=(Kept.refl _ _).grown N (λx d=> .inl (by simp[d]));exact h3.ownsRow (D.a.alloc _) (λx d=>by simp;exact λhb=>nj D.b D.a (by decide) x hb d)
     have I:=fN F;clear F;go_wp2_with (at_builtin;refine ij _ rfl _ _ 35 rfl w.heap.size 3 ii (ga 0) 1 8 underlying35 a7 a4 a5 a6 rfl (by decide) _ _ _ rfl (C.alloc _) ⟨V.heap.size,0,none⟩ 1 1 [ga ((k:Nat))] rfl ?c1 ?Y ?c3 ?c4 ?c5 ?c6 ?_)
     case c1=>rfl
     case Y=>
      intro j u z
      match j,z with
      |0,z=>simp at z;subst z;simp[Addr.add]
     case c3=>intro u G;simp at G;subst G;rfl
     case c4=>unfold maxLen;omega
     case c5=>omega
     case c6=>have:=H.size;simp;omega
     intro ae w3 U O ad;have⟨ao',ac',hva⟩:=gv U;subst hva;have HE:Hid (Q6 s w (k+1) (.slice bo' ((gx s k).length+1) bc') (.slice ao' ((gx s k).length+1) ac') w3):=by
      have h3:Kept (Value.slice ax (gx s k).length ac).ownBlock.toList (V.alloc (.cells #[ga ((k:Nat))] 3)) w3:=(Kept.refl _ _).grown O (λx d=> .inl (by simp[d]));refine⟨?_,?_,(H.alloc _).grown O (λx d=> .inr (C.lt x d).1)⟩
      .unfold uD;rw[HY.out,ra,me];have:=h3.ownsRow (I.alloc _) (λx d=>by simp;exact λhb=>nj C I (by decide) x hb d)
       simpa [uD,a2.out]using this
      .unfold p5;rw[HY.out,ra,me]
       simpa [p5]using U
     generalize (gx s k).length=a9 at *;go_wp2;go_roundw
     case rel=>exact⟨k+1,by go_num,by omega,HE⟩
     case measure=>simp[intOf];omega
    .have X:xL s k=true:=by unfold xL;simp[a0]
     have K:Ts s k=bt s k:=by unfold Ts;rw[gI a1]
     have hy:=Gw X;have HY:=fN hy;have a2:=fN K;clear hy K;go_wp2_with (at_builtin;refine ij _ rfl _ _ 53 rfl w.heap.size 5 iu (.int .u8 0) 1 1 underlying53 hiu hu0 hu1 hu2 rfl (by decide) _ _ _ rfl (D.b.alloc _) ⟨wr.heap.size,0,none⟩ 1 1 [.int .u8 (bt s k)] rfl ?c1 ?Y ?c3 ?c4 ?c5 ?c6 ?_)
     case c1=>rfl
     case Y=>
      intro j u z
      match j,z with
      |0,z=>simp at z;subst z;simp[Addr.add]
     case c3=>intro u G;simp at G;subst G;rfl
     case c4=>unfold maxLen;omega
     case c5=>omega
     case c6=>have:=D.kept.size;simp;omega
     intro af V F N ab;have⟨bo',bc',hvb⟩:=gv F;subst hvb;have H:Kept [] w V:=(D.kept.alloc _).grown N (λx d=> .inr (D.b.lt x d).1);have C:V.ownsRow w.heap.size 3 1 (.slice ax (gx s k).length ac) (gx s k).length (p5 s k):=by
      have h3:Kept (Value.slice bo (gx s k).length bc).ownBlock.toList (wr.alloc (.cells #[.int .u8 (bt s k)] 5)) V:=(Kept.refl _ _).grown N (λx d=> .inl (by simp[d]));exact h3.ownsRow (D.a.alloc _) (λx d=>by simp;exact λhb=>nj D.b D.a (by decide) x hb d)
     have I:=fN F;clear F;go_wp2_with (at_builtin;refine ij _ rfl _ _ 35 rfl w.heap.size 3 ii (ga 0) 1 8 underlying35 a7 a4 a5 a6 rfl (by decide) _ _ _ rfl (C.alloc _) ⟨V.heap.size,0,none⟩ 1 1 [ga ((k:Nat))] rfl ?c1 ?Y ?c3 ?c4 ?c5 ?c6 ?_)
     case c1=>rfl
     case Y=>
      intro j u z
      match j,z with
      |0,z=>simp at z;subst z;simp[Addr.add]
     case c3=>intro u G;simp at G;subst G;rfl
     case c4=>unfold maxLen;omega
     case c5=>omega
     case c6=>have:=H.size;simp;omega
     intro ae w3 U O ad;have⟨ao',ac',hva⟩:=gv U;subst hva;have HE:Hid (Q6 s w (k+1) (.slice bo' ((gx s k).length+1) bc') (.slice ao' ((gx s k).length+1) ac') w3):=by
      have h3:Kept (Value.slice ax (gx s k).length ac).ownBlock.toList (V.alloc (.cells #[ga ((k:Nat))] 3)) w3:=(Kept.refl _ _).grown O (λx d=> .inl (by simp[d]));refine⟨?_,?_,(H.alloc _).grown O (λx d=> .inr (C.lt x d).1)⟩
      .unfold uD;rw[HY.out,ra,me];have:=h3.ownsRow (I.alloc _) (λx d=>by simp;exact λhb=>nj C I (by decide) x hb d)
       simpa [uD,a2.out]using this
      .unfold p5;rw[HY.out,ra,me]
       simpa [p5]using U
     generalize (gx s k).length=a9 at *;go_wp2;go_roundw
     case rel=>exact⟨k+1,by go_num,by omega,HE⟩
     case measure=>simp[intOf];omega
  .have aC:k=s.size:=by omega
   subst aC;have D:=hh;have⟨bo,bc,hvb⟩:=gv hh.b;have⟨ax,ac,hva⟩:=gv hh.a;subst hvb hva;have aw:=Gv s s.size;have az:uD s s.size=((gx s s.size).map (chB s)).map λb=> .int .u8 (b.toNat:Int):=by
    unfold uD;rw[QV];refine QW λk _=>?_;simp only[Function.comp];rw[UT]
   have a3:=hh.b;rw[az]at a3;obtain⟨wa,a8⟩:∃wa,wa=(wr.alloc (.cells #[ga s.size] 3)).drew:=⟨_,rfl⟩;have ka:Kept [] wr wa:=by rw[a8];exact((Kept.refl [] wr).alloc _).drew
   have ak:=ka.ownsRow hh.a (λ_ _=>by simp);have za:wa.heap.size=wr.heap.size+1:=by rw[a8];simp
   have aI:=hh.kept.size;have aj:Hid (∀(j:Nat) (u:gG),[Value.int .i64 (s.size:Int)][j]?=some u->wa.cell? ((⟨wr.heap.size,0,none⟩:Addr).add j)=some u):=by
    intro j u z
    match j,z with
    |0,z=>
     simp at z;subst z;have:=fQ wr (.cells #[ga s.size] 3);rw[js,a8];simp
   have aE:∀k,(Value.slice bo (gx s s.size).length bc).ownBlock=some k->some k≠(Value.slice ax (gx s s.size).length ac).ownBlock:=λk hk h=>nj hh.b hh.a (by decide) k hk h.symm;have au:=Jb (w':=wr.drew) a3 (by simp) (λ_ _=>rfl);have al:=Jb (w':=wa) a3 (by simp) (λk hk=>ka.block k (a3.lt k hk).2 (by simp));have ah:Hid (∀wz:gr,wa.grownBy wz (Value.slice ax (gx s s.size).length ac).ownBlock->(convert 53 9 (.slice bo (gx s s.size).length bc)).run prog wz= .ok (gw (zr s)) wz):=λwz Z=>
    Jb (w':=wz) a3 (by simp) (λk hk=>(Z.block k (by have:=(a3.lt k hk).2;omega) (aE k hk)).trans (ka.block k (a3.lt k hk).2 (by simp)))
   have ai:Hid (∀wz:gr,wa.grownBy wz (Value.slice ax (gx s s.size).length ac).ownBlock->Kept [] w wz):=λwz Z=>(hh.kept.trans ka).grown Z (λx d=> .inr (hh.a.lt x d).1);have ag:=(show w.heap.size<=wa.heap.size by omega);rw[a8]at al ah ai ak aj ag;have aA:(⟨((gx s s.size).map (chB s)).toArray⟩:gn)=zr s:=rfl;rw[aA]at au al;go_wp21
   go_region_law (refine step_append_lies _ rfl (.tmp 42) (.tmp 45) 35 rfl w.heap.size 3 ii (ga 0) 1 8 underlying35 a7 a4 a5 a6 rfl (by decide) _ _ _ (by rfl) ak ⟨wr.heap.size,0,none⟩ 1 1 [ga s.size] (by rfl) rfl aj (by intro u G;simp at G;subst G;rfl) (by decide) (by unfold maxLen;omega) (by omega) ag (wr.heap.size+1) (by simp) ?_;intro g ar wz an Z ay am;have aH:=ah wz Z;have ap:=fN (ai wz Z);have aq:=fN an;clear an Z ay am)
   all_goals (try go_wp2)
   all_goals (try go_ret2)
   all_goals exact⟨_,rfl,aq,ap⟩
def kA (s:gn) (i:Nat):Nat:=(gx s s.size++[s.size]).getD i 0
theorem Uz (s:gn) (i:Nat) (h:i<=(zr s).size):(p5 s s.size++[ga s.size])[i]?=some (ga (kA s i)):=by
 rw[AC]at h;grind[p5,kA]
def vW (s:gn) (a:Int) (d:gG) (b:Nat):RC:={cs:=zr s,av:=d,at_:=a,mv:= .map (some b),lg:=8}
def Km (s:gn) (tv:gG) (base:Nat) (d:Int) (w:gr) (ho:w.ownsRow base 5 1 tv s.size (kV s)) (hs:s.size<=1024):
  Calls prog 43 #[tv,ga d] w λe w'=>∃r b I g a,e=ir (gF r)/\w.heap.size<=r/\w.heap.size<=b/\w.heap.size<=g/\Rd w' r (vW s d I b) 0 0/\KM w' r (vW s d I b) g a (kA s)/\Lk w' b (pG KV)/\b≠r/\(∃N,w'.heap[g]?=some (gy N 3))/\Kept [] w w':=by
 have⟨ao,cp,htv⟩:=gv ho;subst htv;have HO:=fN ho;clear ho;go_enter func43,ntmps43;go_wp21;refine(PZ w).mono ?_;rintro e z ⟨b,rfl,Hb,HL,F⟩;have k2:Kept [] z (z.alloc (.cells #[gw kC,jV,ga 0,ga 0,ga d,.map (some b),ga 8,gw kC,.bool false] 161)):=(Kept.refl _ _).alloc _;have HR:=fQ z (.cells #[gw kC,jV,ga 0,ga 0,ga d,.map (some b),ga 8,gw kC,.bool false] 161);have CF:=XF s (.slice ao s.size cp) base _ ((F.trans k2).ownsRow HO (λ_ _=>by simp)) hs;have U:=F.trans k2;have K:=F.size;go_wp21;refine CF.mono ?_;rintro e w2 ⟨I,rfl,D,G⟩;have C:=G.at HR (by simp);have c0:=fO C 0;have c1:=fO C 1;have f0:=gu C 0;have f1:=gu C 1;dsimp at c0 c1;have⟨ax,ac,hv⟩:=gv D;subst hv;obtain⟨u,H⟩:∃u,u=(w2.setCell ⟨z.heap.size,0,none⟩ (gw (zr s))).setCell ⟨z.heap.size,1,none⟩ (.slice ax ((gx s s.size).length+1) ac):=⟨_,rfl⟩;have O:Kept [z.heap.size] w2 u:=by rw[H];exact((Kept.refl _ _).setCell (.inl (by simp)) _).setCell (.inl (by simp)) _
 have rz:Rd u z.heap.size (vW s d (.slice ax ((gx s s.size).length+1) ac) b) 0 0:=by
  rw[H];exact fV (fV C 0 _) 1 _
 have a2:b < z.heap.size:=HL.lt;have X:Lk u b (pG KV):=((HL.kept ((Kept.refl [] z).alloc _) (by simp)).kept G (by simp)).kept O (by simp;omega);have V:∃g a,(w.heap.size<=g/\∃N,u.heap[g]?=some (gy N 3))/\KM u z.heap.size (vW s d (.slice ax ((gx s s.size).length+1) ac) b) g a (kA s):=by
  rcases D.2 with⟨_,h0⟩|⟨g,a,a1,h,Y,Z,_⟩
  .omega
  .have a3:z.heap.size < g:=by simp at Y;omega
   refine⟨g,a,⟨by omega,⟨_,O.at Z (by simp;omega)⟩⟩,?_,by omega,mf (je Z) O.size,λi hi=>?_⟩
   .show Value.slice ax _ ac=_;rw[h];show Value.slice _ _ _=Value.slice _ ((zr s).size+1) _;rw[AC]
   .rw[O.cell (p:=⟨g,i,none⟩) (je Z) (by simp;omega)];have:=D.cells (g:=g) (by rw[h];rfl) i _ (Uz s i hi);rw[js]at this;omega
 have⟨g,a,⟨hgl,hgt⟩,hA⟩:=V;have a0:Kept [] w u:=(U.trans G).next O (by simp;exact K)
 have HF:Hid (∃r b I g a,ir (gF z.heap.size)=ir (gF r)/\w.heap.size<=r/\w.heap.size<=b/\w.heap.size<=g/\Rd u r (vW s d I b) 0 0/\KM u r (vW s d I b) g a (kA s)/\Lk u b (pG KV)/\b≠r/\(∃N,u.heap[g]?=some (gy N 3))/\Kept [] w u):=by
  exact⟨_,b,_,g,a,rfl,K,Hb,hgl,rz,hA,X,by omega,hgt,a0⟩
 rw[H]at HF;go_wp2;go_ret;exact HF
structure Sp where
 k:Int
 a:Int
 b:Int
theorem PD {e : TypeId} {a d : Nat} (h:w.ownsRow base e a (nI g n d) n xs) (u:gG):(w.setCell ⟨g,j,none⟩ u).ownsRow base e a (nI g n d) n (xs.set j u):=by
 have⟨h1,C⟩:=h;refine⟨by grind,?_⟩;rcases C with⟨C,_⟩|⟨O,D,z,F,K,N,G,H,U,I⟩
 .cases C
 .simp only[Value.slice.injEq,Option.some.injEq,Addr.mk.injEq,and_true,true_and]at F;obtain⟨rfl,rfl⟩:=F;refine .inr ⟨g,d,z.setIfInBounds j u,rfl,K,fV N j u,G,H,by grind,?_⟩;rw[Array.toList_setIfInBounds,List.take_set,I]
def kZ (L:List Sp):List gG:=L.flatMap λp=>[ga p.k,ga p.a,ga p.b]
def pP (L M:List Sp):kZ (L++M)=kZ L++kZ M:=by simp[kZ]
theorem rD (L:List Sp):(kZ L).length=L.length*3:=by
 induction L with
 |nil=>rfl
 |cons p L ih=>show(Value.int .i64 p.k:: ga p.a:: ga p.b::kZ L).length=_;grind
def EG (M:List Sp) (l:Sp) (i:Nat) (a:i < 3):(kZ (M++[l]))[M.length*3+i]?=[Value.int .i64 l.k,ga l.a,ga l.b][i]?:=by
 rw[pP,List.getElem?_append_right (by rw[rD];omega),rD,show M.length*3+i - M.length*3=i by omega];rfl
def Sz (M:List Sp) (l:Sp) (b:Int):(kZ (M++[l])).set (M.length*3+2) (ga b)=kZ (M++[⟨l.k,l.a,b⟩]):=by
 rw[pP,pP,List.set_append_right _ _ (by rw[rD];omega),rD,show M.length*3+2 - M.length*3=2 by omega];rfl
def sj (L:List Sp) (s:Sp):List Sp:=match L.getLast? with
 |some l=>if s.k=1/\l.k=1 then L.dropLast++[⟨l.k,l.a,s.b⟩]else L++[s]
 |none=>L++[s]
def UH (s:Sp):sj [] s=[s]:=rfl
def UI (M:List Sp) (l s:Sp) (h:s.k=1/\l.k=1):sj (M++[l]) s=M++[⟨l.k,l.a,s.b⟩]:=by unfold sj;simp[h]
def WN (M:List Sp) (l s:Sp) (h:¬(s.k=1/\l.k=1)):sj (M++[l]) s=M++[l]++[s]:=by unfold sj;simp[h]
theorem UG (L:List Sp) (s:Sp):(sj L s).length<=L.length+1:=by
 grind[sj]
def Ej:(prog.info? 72).map (λi=>(i.zero,i.size,i.bytes))=some (some (.agg #[ga 0,ga 0,ga 0]),3,24):=by kernel_rfl
def wE (base:Nat) (w:gr) (v:gG) (L:List Sp) (s:Sp) (e:Ending) (w':gr):Prop:=
 ∃a,e=ir a/\w'.ownsRow base 72 3 a (sj L s).length (kZ (sj L s))/\Kept v.ownBlock.toList w w'
theorem Og (base:Nat) (v:gG) (s:Sp) (w:gr) (C:w.ownsRow base 72 3 v 0 (kZ [])) (h:base<=w.heap.size):
  Calls prog 50 #[v,.agg #[ga s.k,ga s.a,ga s.b]] w λe w'=>wE base w v [] s e w':=by
 obtain⟨Z,X,F,G,H⟩:=tj Ej;have⟨ao,cp,hv⟩:=gv C;subst hv;have⟨sk,sa,sb⟩:=s;have a:sj [] ⟨sk,sa,sb⟩=[]++[⟨sk,sa,sb⟩]:=UH _;simp only;have HO:=C;have O:=fN a;have kb:Kept [] w (w.alloc (.cells #[ga sk,ga sa,ga sb] 72)):=(Kept.refl _ _).alloc _;have d:=kb.ownsRow C (λ_ _=>by simp);clear a;have I:w.heap.size < w.heap.size+1:=by omega
 go_enter func50,ntmps50;go_wp2_with (at_builtin;refine ij _ rfl _ _ 28 rfl base 72 Z (.agg #[ga 0,ga 0,ga 0]) 3 24 underlying28 X F G H rfl (by decide) _ _ _ rfl (d.alloc _) ⟨w.heap.size+1,0,none⟩ 1 1 [ga sk,ga sa,ga sb] rfl ?c1 ?c2 ?c3 ?c4 ?c5 ?c6 ?_)
 case c1=>rfl
 case c2=>
  intro j u hj;have h:=fQ (w.alloc (.cells #[ga sk,ga sa,ga sb] 72)) (.cells #[ga sk,ga sa,ga sb] 72);simp only[yc]at h;rw[js,fO h];grind
 case c3=>intro u K;simp at K;rcases K with rfl|rfl|rfl<;>rfl
 case c4=>unfold maxLen;omega
 case c5=>omega
 case c6=>simp;omega
 intro N w3 D z V;have U:Hid (wE base w (.slice ao 0 cp) [] ⟨sk,sa,sb⟩ (ir N) w3):=by
  refine⟨N,rfl,?_,?_⟩
  .rw[O.out,pP,me];exact D
  .exact((Kept.refl _ _).alloc _|>.alloc _).grown z (λx Y=> .inl (by simp[Y]))
 go_wp2;go_ret;exact U
theorem Md (base:Nat) (v:gG) (M:List Sp) (l s:Sp) (w:gr) (G:w.ownsRow base 72 3 v (M.length+1) (kZ (M++[l]))) (H:base<=w.heap.size) (hM:M.length<=4096) (C:¬(s.k=1/\l.k=1)):
  Calls prog 50 #[v,.agg #[ga s.k,ga s.a,ga s.b]] w λe w'=>wE base w v (M++[l]) s e w':=by
 obtain⟨i0,hi,N,O,U⟩:=tj Ej;obtain⟨g,X,hv⟩:∃g X,v=nI g (M.length+1) X:=by
  rcases G.2 with⟨_,h0⟩|⟨g,a0,a1,h,_⟩
  all_goals grind
 have hg:g < w.heap.size:=by subst hv;exact(G.lt g rfl).2
 have c0:w.cell? ⟨g,M.length*3,none⟩=some (ga l.k):=by
  subst hv;have:=G.cells (g:=g) rfl (M.length*3) _ (by have:=EG M l 0 (by omega);simpa using this)
  rwa [js]at this
 obtain⟨ao,a2⟩:∃ao:Option Addr,ao=some ⟨g,0,none⟩:=⟨_,rfl⟩;have⟨sk,sa,sb⟩:=s;simp only at C|-;have a:sj (M++[l]) ⟨sk,sa,sb⟩=(M++[l])++[⟨sk,sa,sb⟩]:=WN M l _ C;subst hv;by_cases hk:sk=1
 .have hl:¬l.k=1:=λh=>C ⟨hk,h⟩;subst hk;clear C;have HO:=G;have Y:=fN a;have kb:Kept [] w (w.alloc (.cells #[ga 1,ga sa,ga sb] 72)):=(Kept.refl _ _).alloc _;have D:=kb.ownsRow G (λ_ _=>by simp);clear a;have I:w.heap.size < w.heap.size+1:=by omega
  go_enter func50,ntmps50;go_wp2_with (at_builtin;refine ij _ rfl _ _ 28 rfl base 72 i0 (.agg #[ga 0,ga 0,ga 0]) 3 24 underlying28 hi N O U rfl (by decide) _ _ _ rfl (D.alloc _) ⟨w.heap.size+1,0,none⟩ 1 1 [ga 1,ga sa,ga sb] rfl ?c1 ?c2 ?c3 ?c4 ?c5 ?c6 ?_)
  case c1=>rfl
  case c2=>
   intro j u hj;have H:=fQ (w.alloc (.cells #[ga 1,ga sa,ga sb] 72)) (.cells #[ga 1,ga sa,ga sb] 72);simp only[yc]at H;rw[js,fO H];grind
  case c3=>intro u K;simp at K;rcases K with rfl|rfl|rfl<;>rfl
  case c4=>unfold maxLen;omega
  case c5=>omega
  case c6=>simp;omega
  intro V w3 z d F;have Z:Hid (wE base w (nI g (M.length+1) X) (M++[l]) ⟨1,sa,sb⟩ (ir V) w3):=by
   refine⟨V,rfl,?_,?_⟩
   .rw[Y.out,pP,me];rw[show(M++[l]).length+[(⟨1,sa,sb⟩:Sp)].length=M.length+1+1 from by simp];exact z
   .exact((Kept.refl _ _).alloc _|>.alloc _).grown d (λx hx=> .inl (by simp[hx]))
  clear z d F;go_wp2;go_ret;exact Z
 .skip
  have HO:=G;have Y:=fN a;have kb:Kept [] w (w.alloc (.cells #[ga sk,ga sa,ga sb] 72)):=(Kept.refl _ _).alloc _;have D:=kb.ownsRow G (λ_ _=>by simp);clear a;have I:w.heap.size < w.heap.size+1:=by omega
  go_enter func50,ntmps50;go_wp2_with (at_builtin;refine ij _ rfl _ _ 28 rfl base 72 i0 (.agg #[ga 0,ga 0,ga 0]) 3 24 underlying28 hi N O U rfl (by decide) _ _ _ rfl (D.alloc _) ⟨w.heap.size+1,0,none⟩ 1 1 [ga sk,ga sa,ga sb] rfl ?c1 ?c2 ?c3 ?c4 ?c5 ?c6 ?_)
  case c1=>rfl
  case c2=>
   intro j u hj;have H:=fQ (w.alloc (.cells #[ga sk,ga sa,ga sb] 72)) (.cells #[ga sk,ga sa,ga sb] 72);simp only[yc]at H;rw[js,fO H];grind
  case c3=>intro u K;simp at K;rcases K with rfl|rfl|rfl<;>rfl
  case c4=>unfold maxLen;omega
  case c5=>omega
  case c6=>simp;omega
  intro V w3 z d F;have Z:Hid (wE base w (nI g (M.length+1) X) (M++[l]) ⟨sk,sa,sb⟩ (ir V) w3):=by
   refine⟨V,rfl,?_,?_⟩
   .rw[Y.out,pP,me];rw[show(M++[l]).length+[(⟨sk,sa,sb⟩:Sp)].length=M.length+1+1 from by simp];exact z
   .exact((Kept.refl _ _).alloc _|>.alloc _).grown d (λx hx=> .inl (by simp[hx]))
  clear z d F;go_wp2;go_ret;exact Z
theorem Mc (base:Nat) (v:gG) (M:List Sp) (l s:Sp) (w:gr) (a:w.ownsRow base 72 3 v (M.length+1) (kZ (M++[l]))) (Y:M.length<=4096) (D:s.k=1) (F:l.k=1):
  Calls prog 50 #[v,.agg #[ga s.k,ga s.a,ga s.b]] w λe w'=>wE base w v (M++[l]) s e w':=by
 have⟨sk,sa,sb⟩:=s;simp only at D|-;subst D;obtain⟨g,d,K⟩:∃g d,v=nI g (M.length+1) d:=by
  rcases a.2 with⟨_,X⟩|⟨g,H,u,h,_⟩
  all_goals grind
 subst K;have Z:g < w.heap.size:=(a.lt g rfl).2;have N:w.cell? ⟨g,M.length*3,none⟩=some (ga 1):=by
  have:=a.cells (g:=g) rfl (M.length*3) _ (by have:=EG M l 0 (by omega);simpa using this)
  rwa [js,F]at this
 have O:w.cell? ⟨g,M.length*3+2,none⟩=some (ga l.b):=by
  have:=a.cells (g:=g) rfl (M.length*3+2) _ (by have:=EG M l 2 (by omega);simpa using this)
  rwa [js]at this
 have U:w.frozen? ⟨g,M.length*3+2,none⟩=false:=by
  rcases a.2 with⟨h,_⟩|⟨V,z,u,h,_,I,_⟩
  .cases h
  .simp only[Value.slice.injEq,Option.some.injEq,Addr.mk.injEq,and_true,true_and]at h;obtain⟨rfl,rfl⟩:=h;exact gu I _
 have G:Hid (wE base w (nI g (M.length+1) d) (M++[l]) ⟨1,sa,sb⟩ (ir (nI g (M.length+1) d)) ((w.setCell ⟨g,M.length*3+2,none⟩ (ga sb)).alloc (.cells #[ga 1,ga sa,ga sb] 72))):=by
  refine⟨_,rfl,?_,?_⟩
  .rw[UI M l _ ⟨rfl,F⟩];have C:=PD (j:=M.length*3+2) a (ga sb);rw[Sz]at C
   simpa using C.alloc _
  .exact((Kept.refl [g] w).setCell (.inl (by simp)) _).alloc _
 go_enter func50,ntmps50;go_wp2;go_ret;exact G
def Of (base:Nat) (v:gG) (L:List Sp) (s:Sp) (w:gr) (a:w.ownsRow base 72 3 v L.length (kZ L)) (u:base<=w.heap.size) (d:L.length<=4096):
  Calls prog 50 #[v,.agg #[ga s.k,ga s.a,ga s.b]] w λe w'=>wE base w v L s e w':=by
 rcases Zh L with rfl|⟨M,l,rfl⟩
 .exact Og base v s w a u
 .rw[List.concat_eq_append]at a d|-;simp only[me,sW,wx,Nat.zero_add]at a d;by_cases h:s.k=1/\l.k=1
  .exact Mc base v M l s w a (by omega) h.1 h.2
  .exact Md base v M l s w a u (by omega) h
theorem PU (p q:Addr) (w:gr):
  CallsD prog 41 #[.pointer (some p),.pointer (some q)] .returning w λe h w'=>e=o9/\h= .returning/\w'=w:=by
 refine callsD_of_wpS func41 rfl λa u d=>?_;apply wpS_seq;apply wpS_region;simp[wpOpsS,go_sem,recoverD,d,ntmps41,Exit.thenS];apply wpS_seq;apply wpS_region;simp[wpOpsS,go_sem,Exit.thenS];refine wpS_cond (t:=false) (by simp[Act.eval,Array.replicate]) ?_;simp only[wX,Ce];refine wpS_of_wp (wp_skip ?_);cases a;simp_all[bodyPostS,results,results41]
def Vn (E:Env) (a b:Nat) (s:gn) (w:gr):Calls prog 48 #[iA E ⟨a,b,.jW s,[]⟩] w λe w'=>e=ir (ga 1)/\w'=w:=by
 simp only[iA];have d:=qt underlying184;go_enter func48,ntmps48;go_wp2;go_ret;simp
def X7 (E:Env) (a b:Nat) (w:gr):Calls prog 48 #[iA E ⟨a,b,.ie,[]⟩] w λe w'=>e=ir (ga 0)/\w'=w:=by
 simp only[iA];have C:=uJ;have h:=sr;have u:=vy;have d:=ql;have z:=xN;have D:=ac5;go_enter func48,ntmps48;go_wp2;go_ret;simp
def OC (E:Env) (f:Nat->Nat) (σ:Ab) (w:gr) (h:RF E f σ w):Calls prog 49 #[Bp E] w λe w'=>e=ir (nV f 0)/\w'=w:=by
 have c:=(At.start h).wZ;have a:=h.lt;go_enter func49,ntmps49;go_wp2;go_ret;simp
inductive Tn
 |el (name:gn) (gx:lh) (kids:List Tn)
 |tx (s:gn)
 |cm (s:gn)
 |dt (s:gn)
inductive Ev
 |dt (s:gn)
 |cm (s:gn)
 |tx (s:gn)
 |enter (name:gn) (gx:lh)
 |uQ (name:gn)
variable {J : List Ev->gr->Prop} {tot : List Ev}
mutual
def Ge (vd:gn->Bool):Tn->List Ev
 | .el name gx ks=> .enter name gx::(if vd name then []else uv vd ks++[.uQ name])
 | .tx s=>[.tx s]
 | .cm s=>[.cm s]
 | .dt s=>[.dt s]
def uv (vd:gn->Bool):List Tn->List Ev
 |[]=>[]
 |t::ts=>Ge vd t++uv vd ts
end
abbrev C9 (gx:lh):List gG:=gx.flatMap λa=>[gw a.1,gw a.2]
abbrev tq (w:gr) (v:gG) (gx:lh):Prop:=w.ownsRow 0 295 2 v gx.length (C9 gx)
mutual
def jA (w:gr):Tn->Nd->Prop
 | .el name gx ks,.el k=>∃d a kv e,El 0 w k name d a kv e/\tq w d gx/\gx.length<=4096/\qz w ks e
 | .tx s,.tx k=>w.heap[k]?=some (gy #[gw s] 280)
 | .cm s,.cm k=>w.heap[k]?=some (gy #[gw s] 235)
 | .dt s,.dt k=>w.heap[k]?=some (gy #[gw s] 239)
 |_,_=>False
def qz (w:gr):List Tn->List Nd->Prop
 |[],[]=>True
 |t::ts,n::ns=>jA w t n/\qz w ts ns
 |_,_=>False
end
theorem qz.len:∀{d:List Tn} {a:List Nd},qz w d a->d.length=a.length
 |[],[],_=>rfl
 |_::_,_::_,h=>by unfold qz at h;simp[qz.len h.2]
 |[],_::_,h=>by unfold qz at h;grind
 |_::_,[],h=>by unfold qz at h;grind
theorem qz.get:∀{d:List Tn} {a:List Nd} (_:qz w d a) (k:Nat) (e:k < d.length) (u:k < a.length),jA w d[k] a[k]
 |[],_,_,_,e,_=>by grind
 |_::_,[],h,_,_,_=>by grind
 |_::_,_::_,h,0,_,_=>by unfold qz at h;exact h.1
 |_::_,_::_,h,k+1,e,u=>by
  unfold qz at h;exact qz.get h.2 k (by grind) (by grind)
def BA (vd:gn->Bool):∀(a b:List Tn),uv vd (a++b)=uv vd a++uv vd b
 |[],b=>by rfl
 |t::a,b=>by simp[uv,BA vd a b]
def Z7 (vd:gn->Bool) (t:Tn):uv vd [t]=Ge vd t:=by simp[uv]
def Tc (T:TypeId) (x:gG) (m:String) (args:jE) (w0:gr) (tot:List Ev) (J:List Ev->gr->Prop) (a:Ev) (r:gG):Prop:=
 ∃f y,(∀w,(Go.method 496 T x m).run prog w= .ok (f,y) w)/\(∀w,(nilAhead 496 T x m).run prog w= .ok (some false) w)/\(∀args w,(callFunc f args).run prog w= .ok (.enter f args) w)/\
  ∀pre W,Kept [] w0 W->J pre W->pre++[a] <+:tot->Calls prog f (#[y]++args) W λe W'=>e=ir r/\J (pre++[a]) W'/\Kept [] w0 W'
structure ZC (T:TypeId) (x:gG) (vd:gn->Bool) (tot:List Ev) (w0:gr) (J:List Ev->gr->Prop):Prop where
 mono:∀pre W W',J pre W->Kept [] W W'->J pre W'
 dt:∀s,Tc T x "Doctype" #[gw s] w0 tot J (.dt s) (.tuple #[])
 cm:∀s,Tc T x "Comment" #[gw s] w0 tot J (.cm s) (.tuple #[])
 tx:∀s,Tc T x "Text" #[gw s] w0 tot J (.tx s) (.tuple #[])
 uQ:∀s,Tc T x "Leave" #[gw s] w0 tot J (.uQ s) (.tuple #[])
 enter:∃f y,(∀w,(Go.method 496 T x "Enter").run prog w= .ok (f,y) w)/\(∀w,(nilAhead 496 T x "Enter").run prog w= .ok (some false) w)/\(∀args w,(callFunc f args).run prog w= .ok (.enter f args) w)/\
  ∀pre W s av gx,Kept [] w0 W->J pre W->pre++[.enter s gx] <+:tot->tq W av gx->gx.length<=4096->Calls prog f #[y,gw s,av] W λe W'=>(∃b,e=ir (.bool b)/\(b=(!vd s)\/b=false/\∀p,J p W'))/\J (pre++[.enter s gx]) W'/\Kept [] w0 W'
theorem aes {T : TypeId} (V:ZC T x vd tot w0 J) (k:Nat) (s:gn) (pre:List Ev) (W:gr) (z:Kept [] w0 W) (u:J pre W) (G:pre++[.tx s] <+:tot) (D:W.heap[k]?=some (gy #[gw s] 280)):
  Calls prog 435 #[gF k,.iface T x] W λe W'=>e=o9/\J (pre++[.tx s]) W'/\Kept [] w0 W':=by
 have F:∀(d:Fn) (first a:jE) (w:gr),(Instr.makeFunc d first a).run prog w= .ok (.func d first a) w:=λ_ _ _ _=>rfl;have⟨f,y,hm,hna,hcf,hc⟩:=V.tx s;have C:=(λq=>hc pre (W.drewN q) (z.drewN q) (V.mono _ _ _ u ((Kept.refl _ _).drewN q)) G);have h:=fO D 0;dsimp at h;generalize hJJ:J (pre++[.tx s])=H at C|-;go_enter func435,ntmps435;go_wp21
 go_region_with (refine(C _).mono ?_;rintro e I ⟨rfl,K,N⟩)
 all_goals (try go_wp2)
 all_goals (go_end0;grind)
theorem Xh {T : TypeId} (V:ZC T x vd tot w0 J) (k:Nat) (s:gn) (pre:List Ev) (W:gr) (z:Kept [] w0 W) (u:J pre W) (G:pre++[.cm s] <+:tot) (D:W.heap[k]?=some (gy #[gw s] 235)):
  Calls prog 433 #[gF k,.iface T x] W λe W'=>e=o9/\J (pre++[.cm s]) W'/\Kept [] w0 W':=by
 have F:∀(d:Fn) (first a:jE) (w:gr),(Instr.makeFunc d first a).run prog w= .ok (.func d first a) w:=λ_ _ _ _=>rfl;have⟨f,y,hm,hna,hcf,hc⟩:=V.cm s;have C:=(λq=>hc pre (W.drewN q) (z.drewN q) (V.mono _ _ _ u ((Kept.refl _ _).drewN q)) G);have h:=fO D 0;dsimp at h;generalize hJJ:J (pre++[.cm s])=H at C|-;go_enter func433,ntmps433;go_wp21
 go_region_with (refine(C _).mono ?_;rintro e I ⟨rfl,K,N⟩)
 all_goals (try go_wp2)
 all_goals (go_end0;grind)
theorem Xm {T : TypeId} (V:ZC T x vd tot w0 J) (k:Nat) (s:gn) (pre:List Ev) (W:gr) (z:Kept [] w0 W) (u:J pre W) (G:pre++[.dt s] <+:tot) (D:W.heap[k]?=some (gy #[gw s] 239)):
  Calls prog 434 #[gF k,.iface T x] W λe W'=>e=o9/\J (pre++[.dt s]) W'/\Kept [] w0 W':=by
 have F:∀(d:Fn) (first a:jE) (w:gr),(Instr.makeFunc d first a).run prog w= .ok (.func d first a) w:=λ_ _ _ _=>rfl;have⟨f,y,hm,hna,hcf,hc⟩:=V.dt s;have C:=(λq=>hc pre (W.drewN q) (z.drewN q) (V.mono _ _ _ u ((Kept.refl _ _).drewN q)) G);have h:=fO D 0;dsimp at h;generalize hJJ:J (pre++[.dt s])=H at C|-;go_enter func434,ntmps434;go_wp21
 go_region_with (refine(C _).mono ?_;rintro e I ⟨rfl,K,N⟩)
 all_goals (try go_wp2)
 all_goals (go_end0;grind)
def XT:(prog.info? 295).map (λi=>(i.zero,i.size,i.bytes))=some (some (.agg #[gw kC,gw kC]),2,32):=by kernel_rfl
theorem MJ (L:lh):(C9 L).length=L.length*2:=by
 induction L with
 |nil=>rfl
 |cons a L ih=>grind
theorem acy (v:gG) (L:lh) (w:gr) (z:tq w v L) (hL:L.length<=4096):
  Calls prog 403 #[v] w λe w'=>∃d,e=ir d/\tq w' d L/\Kept [] w w':=by
 obtain⟨i0,hi,H,I,K⟩:=tj XT;rcases z.2 with⟨rfl,h0⟩|⟨g,a,a0,rfl,a1,hg,_⟩
 .have hn:=λw=>NW (P:=prog) w 133 295 none 0 0 0 0 underlying133;have:L=[]:=SZ h0;subst this;clear z;go_enter func403,ntmps403;go_wp2;go_ret;exact⟨_,rfl,py _ _ _ _,Kept.refl _ _⟩
 .have hn:=λw=>NW (P:=prog) w 133 295 (some ⟨g,0,none⟩) L.length a 0 0 underlying133;have HO:=fN z;have D:=je hg;have O:(w.alloc (.cells #[] 295)).ownsRow w.heap.size 295 2 (nI w.heap.size 0 0) 0 []:=
   ⟨rfl,.inr ⟨w.heap.size,0,#[],rfl,gW _,fQ w _,gW _,iP _,rfl,rfl⟩⟩
  clear z;go_enter func403,ntmps403;go_wp2_with (at_builtin;refine ij _ rfl _ _ 133 rfl w.heap.size 295 i0 (.agg #[gw kC,gw kC]) 2 32 underlying133 hi H I K rfl (by decide) _ _ _ rfl O ⟨g,0,none⟩ L.length a (C9 L) rfl ?c1 ?c2 ?c3 ?c4 ?c5 ?c6 ?_)
  case c1=>exact MJ L
  case c2=>
   intro j u hj;have:=HO.cells (g:=g) rfl j u hj;rw[js]at this|-;rw[<-this];exact SV _ _ _ D
  case c3=>
   intro u G;unfold C9 at G;simp at G;obtain⟨p,q,_,h|h⟩:=G<;>(subst h;rfl)
  case c4=>omega
  case c5=>omega
  case c6=>simp
  intro d N F C a2;have X:N.ownsRow w.heap.size 295 2 d L.length (C9 L):=by simpa using F
  have Y:tq N d L:=by
   refine⟨X.1,?_⟩;rcases X.2 with e|⟨g1,U,V,e,_,r⟩
   .exact .inl e
   .grind
  have Z:Hid (Kept [] w N):=((Kept.refl [] w).alloc _).grown C (λx hx=> .inr (O.lt x hx).1);go_wp2;go_ret;exact⟨_,rfl,Y,Z⟩
theorem tq.kept {gx : lh} (h:tq w v gx) (C:Kept [] w w'):tq w' v gx:=by
 refine⟨h.1,?_⟩;rcases h.2 with e|⟨g,a,d,e,u,z,r⟩
 .grind
 .exact .inr ⟨g,a,d,e,u,C.at z (by simp),r⟩
theorem El.ib {a : gn} {C : gG} {d : jb} {kv : gG} {ns:List Nd} (h:El 0 w k a C d kv ns) (D:Kept [] w w'):El 0 w' k a C d kv ns:=by
 refine⟨D.at h.ik (by simp),⟨h.row.1,?_⟩,h.le,h.Tg⟩;rcases h.row.2 with e|⟨g,u,z,e,F,G,r⟩
 .grind
 .exact .inr ⟨g,u,z,e,F,D.at G (by simp),r⟩
mutual
theorem jA.kept (a:Kept [] w w'):∀{t:Tn} {n:Nd},jA w t n->jA w' t n
 | .el name gx ks,.el k,h=>by
  unfold jA at h|-;have⟨av,ja,kv,ns,h1,h2,h3,h4⟩:=h;exact⟨av,ja,kv,ns,h1.ib a,h2.kept a,h3,qz.kept a h4⟩
 | .tx _,.tx _,h=>by unfold jA at h|-;exact a.at h (by simp)
 | .cm _,.cm _,h=>by unfold jA at h|-;exact a.at h (by simp)
 | .dt _,.dt _,h=>by unfold jA at h|-;exact a.at h (by simp)
 | .el _ _ _,.tx _,h=>by grind[jA]
 | .el _ _ _,.cm _,h=>by grind[jA]
 | .el _ _ _,.dt _,h=>by grind[jA]
 | .tx _,.el _,h=>by grind[jA]
 | .tx _,.cm _,h=>by grind[jA]
 | .tx _,.dt _,h=>by grind[jA]
 | .cm _,.el _,h=>by grind[jA]
 | .cm _,.tx _,h=>by grind[jA]
 | .cm _,.dt _,h=>by grind[jA]
 | .dt _,.el _,h=>by grind[jA]
 | .dt _,.tx _,h=>by grind[jA]
 | .dt _,.cm _,h=>by grind[jA]
theorem qz.kept (e:Kept [] w w'):∀{d:List Tn} {a:List Nd},qz w d a->qz w' d a
 |[],[],_=>by simp[qz]
 |t::d,n::a,h=>by
  unfold qz at h|-;exact⟨jA.kept e h.1,qz.kept e h.2⟩
 |[],_::_,h=>by grind[qz]
 |_::_,[],h=>by grind[qz]
end
section
variable {T:TypeId} {x:gG} {vd:gn->Bool} {tot:List Ev} {w0:gr} {J:List Ev->gr->Prop}
def yY:Nd->Nat
 | .el _=>402
 | .tx _=>435
 | .cm _=>433
 | .dt _=>434
def Nd.bk:Nd->Nat
 | .el k=>k
 | .tx k=>k
 | .cm k=>k
 | .dt k=>k
def Gt (T:TypeId) (x:gG) (vd:gn->Bool) (tot:List Ev) (w0:gr) (J:List Ev->gr->Prop) (t:Tn) (n:Nd):Prop:=
 ∀pre W,Kept [] w0 W->J pre W->pre++Ge vd t <+:tot->
  Calls prog (yY n) #[gF n.bk,.iface T x] W λe W'=>e=o9/\J (pre++Ge vd t) W'/\Kept [] w0 W'
def Ls (n:Nd) (w:gr):∃t y,n.val= .iface t y/\y=gF n.bk/\(∀w,(Go.method 496 t y "Visit").run prog w= .ok (yY n,y) w):=by
 cases n with
 |el k=>exact⟨_,_,rfl,rfl,λw=>by kernel_rfl⟩
 |tx k=>exact⟨_,_,rfl,rfl,λw=>by kernel_rfl⟩
 |cm k=>exact⟨_,_,rfl,rfl,λw=>by kernel_rfl⟩
 |dt k=>exact⟨_,_,rfl,rfl,λw=>by kernel_rfl⟩
def Vy (n:Nd):∀a w,(callFunc (yY n) a).run prog w= .ok (.enter (yY n) a) w:=by
 cases n with
 |el k=>simp[yY]
 |tx k=>simp[yY]
 |cm k=>simp[yY]
 |dt k=>simp[yY]
theorem So {a b c:List Ev} (h:a++(b++c) <+:tot):a++b <+:tot:=by
 have⟨r,hr⟩:=h;grind
theorem Fp (V:ZC T x vd tot w0 J) (k:Nat) (F:gn) (av:gG) (X:jb) (kv:gG) (a:List Tn) (ns:List Nd) (hl:a.length=ns.length)
  (D:El 0 w0 k F av X kv ns) (hv:∀i (I:i < a.length) (G:i < ns.length),Gt T x vd tot w0 J a[i] ns[i]) (pre:List Ev) (W:gr) (hK:Kept [] w0 W) (hJ:J pre W) (hp:pre++uv vd a <+:tot):
  Calls prog 32 #[gF k,.iface T x] W λe W'=>e=o9/\J (pre++uv vd a) W'/\Kept [] w0 W':=by
 have c3:=fO ((D.ib hK).ik) 3;dsimp at c3;have N:=D.le;have⟨ao,cap,hkv⟩:=gv D.row;have Y:=fN D;have HV:=hv;have HP:=hp;have HJ:=hJ;have HK:=hK;have HL:=fN hl;obtain⟨n,U⟩:∃n,n=ns.length:=⟨_,rfl⟩;have HN:=fN U;subst hkv;rw[<-U]at c3 N;clear D hl U;go_enter func32,ntmps32;go_wp21
 go_loopw [11] (λv wr=>∃i:Nat,v=ga i/\i<=n/\J (pre++uv vd (a.take i)) wr/\Kept [] w0 wr) (λv _=>n - (intOf v).toNat)
 case atStart=>grind[uv]
 case round=>
  obtain⟨i,rfl,hi,u,d⟩:=hrel;by_cases O:i < n
  .have G:i < ns.length:=by rw[<-HN.out];exact O
   have I:i < a.length:=by rw[HL.out];exact G
   have⟨t,y,hval,hy,hm⟩:=Ls ns[i] wr;have a3:=Vy ns[i];obtain⟨g,K⟩:∃g,ao=some ⟨g,0,none⟩:=by
    rcases Y.row.2 with⟨e,h0⟩|⟨g,a0,a2,e,_⟩
    all_goals grind
   subst K;have hc:wr.cell? ⟨g,i,none⟩=some (.iface t y):=by
    have:=(Y.ib d).row.cells (g:=g) rfl i ns[i].val (by simp[G]);rw[js]at this;rw[<-hval]
    simpa using this
   have h:uv vd (a.take (i+1))=uv vd (a.take i)++Ge vd a[i]:=by
    rw[DV,qw I,BA];simp[Z7]
   have a1:pre++uv vd (a.take (i+1)) <+:tot:=by
    refine So (c:=uv vd (a.drop (i+1))) ?_;rw[<-BA,yZ];exact HP
   have C:=HV i I G _ wr d u (by grind);rw[uS,<-h]at C;rw[hy]at hc hm;generalize yY ns[i]=fv at *;generalize ns[i].bk=kb at *;generalize hZ:J (pre++uv vd (a.take (i+1)))=Z at C;have HZ:=fN hZ;clear hZ;go_wp21;refine C.mono ?_;rintro e W2 ⟨rfl,H,z⟩;go_wp2;go_roundw
   case rel=>exact⟨i+1,by go_num,by omega,by rw[HZ.out];exact H,z⟩
   case measure=>simp[intOf];omega
  .have he:a.take i=a:=Av (by rw[HL.out,<-HN.out];omega);rw[he]at u;have z:=d;go_wp2;go_end0;grind
theorem Xo (V:ZC T x vd tot w0 J) (k:Nat) (a:gn) (gx:lh) (av:gG) (a5:jb) (kv:gG) (z:List Tn) (ns:List Nd) (hl:z.length=ns.length)
  (hE:El 0 w0 k a av a5 kv ns) (hA:tq w0 av gx) (I:gx.length<=4096) (hv:∀i (h1:i < z.length) (h2:i < ns.length),Gt T x vd tot w0 J z[i] ns[i]):Gt T x vd tot w0 J (.el a gx z) (.el k):=by
 intro pre W C hJ hp;show Calls prog 402 #[gF k,.iface T x] W _;have ac:∀(fn:Fn) (first a0:jE) (w:gr),(Instr.makeFunc fn first a0).run prog w= .ok (.func fn first a0) w:=λ_ _ _ _=>rfl;have c0:=fO ((hE.ib C).ik) 0;have c1:=fO ((hE.ib C).ik) 1;dsimp at c0 c1;have a2:pre++[.enter a gx] <+:tot:=by
  unfold Ge at hp;exact So (b:=[.enter a gx]) (by simpa using hp)
 have⟨f,y,hm,hna,hcf,hc⟩:=V.enter;have C1:=fN (λq=>acy av gx (W.drewN q) ((hA.kept C).kept ((Kept.refl _ _).drewN q)) I);have C2:=fN (λq Y v1 (N:Kept [] (W.drewN q) Y) (ha:tq Y v1 gx)=>hc pre Y a v1 gx ((C.drewN q).trans N) (V.mono _ _ _ hJ (((Kept.refl _ _).drewN q).trans N)) a2 ha I);have⟨ao,n,cp,hav⟩:=hE.Tg;subst hav;have HV:=fN V;have HE:=fN hE;have HW:=fN hv;have HP:=fN hp;have HL:=fN hl;have a9:=fN C;clear hc V C hJ hp a2 hA I hE hv hl;go_enter func402,ntmps402;go_wp21
 go_cut [17]from 4 to 16 (λr wc=>(∃b,r= .bool b/\(b=(!vd a)\/b=false/\∀p,J p wc))/\J (pre++[.enter a gx]) wc/\Kept [] w0 wc)
 case first=>
  go_region_with (first
   |(go_at_call 403;refine(C1.out _).mono ?_;rintro e Y ⟨v1,rfl,H,O⟩;have⟨ao1,cp1,hv1⟩:=gv H;subst hv1;have a6:=fN H;have a8:=fN O;have c2:Y.cell? ⟨k,0,none⟩=some (gw a):=(by rw[fO (HE.out.ib ((a9.out.drewN _).trans O)).ik];rfl);clear H O)
   |(refine(C2.out _ _ _ a8.out a6.out).mono ?_;rintro e Z ⟨⟨bb,rfl,a1⟩,u,d⟩;have a7:=fN a1;have F:=fN u;have G:=fN d;clear a1 u d))
  all_goals (try (go_wp21))
  all_goals (go_meet;exact⟨⟨bb,rfl,a7.out⟩,F.out,G.out⟩)
 case rest=>
  obtain⟨⟨bb,rfl,D⟩,X,N⟩:=hcut;clear C1 C2 hm hna hcf c0 c1;cases bb with
  |false=>
   replace X:J (pre++Ge vd (.el a gx z)) wc:=by
    rcases D with D|⟨_,D⟩
    .have U:vd a=true:=by
      cases h:vd a
      .grind
      .rfl
     have he:pre++Ge vd (.el a gx z)=pre++[.enter a gx]:=by simp[Ge,U]
     rw[he];exact X
    .exact D _
   clear D;have HJ:=fN X;have HK:=fN N;clear X N;rename_i K C;refine C _ _ ?_;clear C;go_wp2;go_end0;exact⟨rfl,HJ.out,HK.out⟩
  |true=>
   have U:vd a=false:=by
    rcases D with D|⟨D,_⟩
    .grind
    .cases D
   clear D;have he:Ge vd (.el a gx z)= .enter a gx::(uv vd z++[.uQ a]):=by simp[Ge,U]
   have a3:(pre++[.enter a gx])++uv vd z <+:tot:=So (c:=[.uQ a]) (by have:=HP.out;grind);have a4:(pre++[.enter a gx]++uv vd z)++[.uQ a] <+:tot:=by have:=HP.out;rw[he]at this;simpa using this
   have e3:pre++Ge vd (.el a gx z)=(pre++[.enter a gx]++uv vd z)++[.uQ a]:=by rw[he];simp
   have C3:=fN (Fp HV.out k a _ a5 kv z ns HL.out HE.out HW.out _ wc N X a3);have⟨f,y,hm,hna,hcf,hc⟩:=HV.out.uQ a;have C4:=fN (λq Z (d:Kept [] w0 Z) (u:J (pre++[.enter a gx]++uv vd z) Z)=>hc _ (Z.drewN q) (d.drewN q) (HV.out.mono _ _ _ u ((Kept.refl _ _).drewN q)) a4);rw[<-e3]at C4;clear a3 a4 he e3 X N hc;generalize hJJ:J (pre++[.enter a gx]++uv vd z)=J1 at C3 C4;clear hJJ;rename_i K C;refine C _ _ ?_;clear C;go_wp21;refine C3.out.mono ?_;rintro e Z ⟨rfl,u,d⟩;have c0:=fO ((HE.out.ib d).ik) 0;dsimp at c0;have F:=fN u;have G:=fN d;clear u d;go_wp21
   go_region_with (refine(C4.out _ _ G.out F.out).mono ?_;rintro e W3 ⟨rfl,aa,ab⟩)
   all_goals (try go_wp2)
   all_goals (go_end0;grind)
end
section
variable {T:TypeId} {x:gG} {vd:gn->Bool} {tot:List Ev} {w0:gr} {J:List Ev->gr->Prop}
theorem QG (V:ZC T x vd tot w0 J):∀(t:Tn) (n:Nd),jA w0 t n->Gt T x vd tot w0 J t n
 | .el name gx ks,.el k,h=>by
  unfold jA at h;have⟨av,ja,kv,ns,h1,h2,h3,h4⟩:=h;exact Xo V k name gx av ja kv ks ns h4.len h1 h2 h3 (λi u z=>QG V ks[i] ns[i] (h4.get i u z))
 | .tx s,.tx k,h=>by
  unfold jA at h;intro pre W a e d;unfold Ge at d|-;exact aes V k s pre W a e d (a.at h (by simp))
 | .cm s,.cm k,h=>by
  unfold jA at h;intro pre W a e d;unfold Ge at d|-;exact Xh V k s pre W a e d (a.at h (by simp))
 | .dt s,.dt k,h=>by
  unfold jA at h;intro pre W a e d;unfold Ge at d|-;exact Xm V k s pre W a e d (a.at h (by simp))
 | .el _ _ _,.tx _,h=>by unfold jA at h;grind
 | .el _ _ _,.cm _,h=>by unfold jA at h;grind
 | .el _ _ _,.dt _,h=>by unfold jA at h;grind
 | .tx _,.el _,h=>by unfold jA at h;grind
 | .tx _,.cm _,h=>by unfold jA at h;grind
 | .tx _,.dt _,h=>by unfold jA at h;grind
 | .cm _,.el _,h=>by unfold jA at h;grind
 | .cm _,.tx _,h=>by unfold jA at h;grind
 | .cm _,.dt _,h=>by unfold jA at h;grind
 | .dt _,.el _,h=>by unfold jA at h;grind
 | .dt _,.tx _,h=>by unfold jA at h;grind
 | .dt _,.cm _,h=>by unfold jA at h;grind
  termination_by t=>SizeOf.sizeOf t
  decreasing_by
 have:=List.sizeOf_lt_of_mem (ti u);grind
theorem ya (V:ZC T x vd tot w0 J) (k:Nat) (a:gn) (gx:lh) (d:List Tn) (h:jA w0 (.el a gx d) (.el k)) (C:uv vd d=tot) (W:gr) (z:Kept [] w0 W) (u:J [] W):
  Calls prog 32 #[gF k,.iface T x] W λe W'=>e=o9/\J tot W'/\Kept [] w0 W':=by
 unfold jA at h;have⟨av,ja,kv,ns,h1,h2,h3,h4⟩:=h;have:=Fp V k a av ja kv d ns h4.len h1 (λi D F=>QG V d[i] ns[i] (h4.get i D F)) [] W z u (by grind)
 rwa [sC,C]at this
end
def XY:(prog.info? 5).map (λi=>(i.zero,i.size,i.bytes))=some (some (.int .u8 0),1,1):=by kernel_rfl
theorem Mq:(∃j,prog.info? 94=some j/\j.size≠0):=by
 have h:((prog.info? 94).map λi=>i.size)=some 2:=by kernel_rfl
 have⟨j,hj,h2⟩:=Option.map_eq_some_iff.1 h;grind
def QK:liesAt prog prog.depth 96 (4 / prog.cellsOf 96) 0 94 1=true:=by kernel_rfl
def KB (W W':gr):Prop:=∀(k:Nat) (c:jE) (t:TypeId),W.heap[k]?=some (gy c t)->t∉[96,5]->W'.heap[k]?=some (gy c t)
def KB.trans {C : gr} (h:KB A B) (k:KB B C):KB A C:=λi c t d a=>k i c t (h i c t d a) a
def KB.jC (h:Kept [] A B):KB A B:=λi c t a _=>h.at a (by simp)
theorem KB.Si {a : jE} (h:Kept [b] A B) (e:A.heap[b]?=some (gy a 96)):KB A B:=λi c t d u=>h.at d (by
 grind)
theorem KB.Yw (u:A.grownBy B v.ownBlock) (z:A.ownsRow base 5 1 v n xs):KB A B:=λi c t d F=>(u.block i (je d) (by
 intro e;rcases z.2 with⟨e2,_⟩|⟨g,a,h,e2,_,D,_⟩
 .rw[e2]at e;cases e
 .rw[e2]at e;have C:=jz e;grind)).trans d
def JR (l:List UInt8) (s:gn):Lib.byteCells (l++s.data.toList)=Lib.byteCells l++Lib.strCells s:=by
 unfold Lib.byteCells Lib.strCells;simp
def kB (xs:List gn):List UInt8:=xs.flatMap λs=>s.data.toList
def Dm (xs ys:List gn):kB (xs++ys)=kB xs++kB ys:=JC ..
def Nu (s d a:gn):gn:=⟨(Lib.replaceAll s.data.toList d.data.toList a.data.toList).toArray⟩
def L5 (w:gr):Prop:=(∃m,w.cell? ⟨3,0,none⟩=some (ga m))/\3 < w.heap.size
def L5.kept (h:L5 w) (a:Kept [] w w'):L5 w':=by
 have⟨⟨m,hm⟩,hl⟩:=h;exact⟨⟨m,(a.cell (p:=⟨3,0,none⟩) hl (by simp)).trans hm⟩,mf hl a.size⟩
def Iq (h:Below w.heap.size w w'):Kept [] w w':=⟨h.os,h.tape,h.output,h.size,λk a _=>h.block k a⟩
def zu (s:gn):gn:=Nu (Nu s tm jQ) si mR
def Gc (s:gn):gn:=Nu (Nu (zu s) pY kT) iO qU
def KN (w w':gr):Prop:=∀(k:Nat) (c:jE) (t:TypeId),w.heap[k]?=some (gy c t)->t∈S5->w'.heap[k]?=some (gy c t)
def KN.jC (h:Kept S w w') (d:∀k∈S,∀c t,w.heap[k]?=some (gy c t)->t∉S5):KN w w':=λk c t a u=>h.at a (λe=>d k e c t a u)
theorem KN.row (h:KN w w') {e : TypeId} {a : Nat} (z:w.ownsRow base e a v n xs) (F:e∈S5):w'.ownsRow base e a v n xs:=by
 refine⟨z.1,?_⟩;rcases z.2 with e1|⟨g,d,u,e1,C,D,r⟩
 .grind
 .exact .inr ⟨g,d,u,e1,C,h g _ _ D F,r⟩
mutual
theorem jA.kn (a:KN w w'):∀{t:Tn} {n:Nd},jA w t n->jA w' t n
 | .el name gx ks,.el k,h=>by
  unfold jA at h|-;have⟨av,ja,kv,ns,h1,h2,h3,h4⟩:=h;exact⟨av,ja,kv,ns,⟨a _ _ _ h1.ik (by decide),a.row h1.row (by decide),h1.le,h1.Tg⟩,a.row h2 (by decide),h3,qz.kn a h4⟩
 | .tx _,.tx _,h=>by unfold jA at h|-;exact a _ _ _ h (by decide)
 | .cm _,.cm _,h=>by unfold jA at h|-;exact a _ _ _ h (by decide)
 | .dt _,.dt _,h=>by unfold jA at h|-;exact a _ _ _ h (by decide)
 | .el _ _ _,.tx _,h=>by grind[jA]
 | .el _ _ _,.cm _,h=>by grind[jA]
 | .el _ _ _,.dt _,h=>by grind[jA]
 | .tx _,.el _,h=>by grind[jA]
 | .tx _,.cm _,h=>by grind[jA]
 | .tx _,.dt _,h=>by grind[jA]
 | .cm _,.el _,h=>by grind[jA]
 | .cm _,.tx _,h=>by grind[jA]
 | .cm _,.dt _,h=>by grind[jA]
 | .dt _,.el _,h=>by grind[jA]
 | .dt _,.tx _,h=>by grind[jA]
 | .dt _,.cm _,h=>by grind[jA]
theorem qz.kn (e:KN w w'):∀{d:List Tn} {a:List Nd},qz w d a->qz w' d a
 |[],[],_=>by simp[qz]
 |t::d,n::a,h=>by
  unfold qz at h|-;exact⟨jA.kn e h.1,qz.kn e h.2⟩
 |[],_::_,h=>by grind[qz]
 |_::_,[],h=>by grind[qz]
end
attribute [local go_sem] Oper.semAt_some
structure It where
 k:Int
 s:gn
 t:gn
abbrev It.val (x:It):gG:= .agg #[ga x.k,gw x.s,gw x.t]
def ug:Ev->List It
 | .dt s=>[⟨1,s,⟨#[]⟩⟩]
 | .cm s=>[⟨2,s,⟨#[]⟩⟩]
 | .tx s=>[⟨3,s,⟨#[]⟩⟩]
 | .enter s gx=>⟨4,s,⟨#[]⟩⟩::gx.map λa=>⟨5,a.1,a.2⟩
 | .uQ s=>[⟨6,s,⟨#[]⟩⟩]
def kY (a:List Ev):List It:=a.flatMap ug
def Wk (w:gr) (b l:Nat) (d:Bool):Prop:=w.heap[b]?=some (gy #[.func (.yield l) #[] #[],.bool d] 199)
theorem nZ (h:w.heap[b]?=some (.cells c t m)) (j:Nat) (v:gG) (d:c[j]?=some v):w.setCell ⟨b,j,none⟩ v=w:=by
 have⟨hlt,hb⟩:=Array.getElem?_eq_some_iff.1 h;have u:c.setIfInBounds j v=c:=by
  apply Array.ext
  .simp
  .grind
 have e:∀f:Obj->Obj,f (.cells c t m)= .cells c t m->w.heap.modify b f=w.heap:=by
  intro f a;apply Array.ext
  .simp
  .grind
 unfold World.setCell;simp_all
def KW (W W':gr):Prop:=∀(k:Nat) (c:jE) (t:TypeId),W.heap[k]?=some (gy c t)->t∈[199,295]->W'.heap[k]?=some (gy c t)
def KW.wk (h:KW W W') {d : Bool} (a:Wk W b l d):Wk W' b l d:=h b _ _ a (by decide)
theorem KW.atr (h:KW W W') {gx : lh} (u:tq W v gx):tq W' v gx:=by
 refine⟨u.1,?_⟩;rcases u.2 with e|⟨g,a,d,e,z,C,r⟩
 .grind
 .exact .inr ⟨g,a,d,e,z,h g _ _ C (by decide),r⟩
theorem Wk.atr {d : Bool} (h:Wk W b l d) (x:gG) {gx : lh} (z:tq W v gx):tq (W.setCell ⟨b,1,none⟩ x) v gx:=by
 refine⟨z.1,?_⟩;rcases z.2 with e|⟨g,a,u,e,D,C,r⟩
 .grind
 .refine .inr ⟨g,a,u,e,D,((Kept.refl [b] W).setCell (.inl (by simp)) _).at C ?_,r⟩;intro F;have e:=List.mem_singleton.1 F;subst e;rw[show W.heap[g]?=_ from h]at C;grind
def Zo (l:Nat) (tot:List It) (w0:gr) (J:List It->gr->Prop) (JE:gr->Prop):Prop:=∀pre x W,Kept [] w0 W->J pre W->pre++[x] <+:tot->YieldAt Fence.wide 3 prog l #[It.val x] W λe W'=>(e=ir (.bool true)/\J (pre++[x]) W'\/e=ir (.bool false)/\JE W')/\Kept [] w0 W'/\KW W W'
def JW (l b:Nat) (J:List It->gr->Prop) (JE:gr->Prop) (pre:List It) (W:gr):Prop:=(J pre W/\Wk W b l false)\/(JE W/\Wk W b l true)
def JW.mono {J : List It->gr->Prop} {JE : gr->Prop} (e:∀pre W W',J pre W->Kept [] W W'->J pre W') (d:∀W W',JE W->Kept [] W W'->JE W') {pre : List It} (h:JW l b J JE pre W) (a:Kept [] W W'):JW l b J JE pre W':=by
 rcases h with⟨h,k⟩|⟨h,k⟩
 .exact .inl ⟨e _ _ _ h a,a.at k (by simp)⟩
 .exact .inr ⟨d _ _ h a,a.at k (by simp)⟩
section
variable {l b:Nat} {tot:List It} {w0:gr} {J:List It->gr->Prop} {JE:gr->Prop}
def AU (O:Zo l tot w0 J JE) (U:w0.heap.size<=b) (F:∀V,Wk V b l false->JE V->JE (V.setCell ⟨b,1,none⟩ (.bool true))) (pre:List It) (x:It) (W:gr) (I:Kept [] w0 W) (D:JW l b J JE pre W) (Y:pre++[x] <+:tot):
  Calls prog 432 #[gF b,ga x.k,gw x.s,gw x.t] W λe W'=>e=o9/\(JW l b J JE (pre++[x]) W'/\Kept [] w0 W')/\∀v gx,tq W v gx->tq W' v gx:=by
 refine(xk (n:=4)).1 ?_;rcases D with⟨D,z⟩|⟨D,z⟩
 .have c0:=fO z 0;have K:=fO z 1;dsimp at c0 K;have⟨fn,tmps,assign,body,hy,hR⟩:=O pre x W I D Y;have HR:=fN hR;dsimp only[It.val]at hy;have X:=je z;have Z:=fN z;have HM:=fN F;have HB:=fN U;clear hR O I D Y z F U;have⟨k,s,t⟩:=x;refine callsIn_of_wp func432 rfl trivial ?_ rfl;simp only[ntmps432,wS,sW,wx,Nat.reduceAdd,Nat.reduceSub,wT,wU,wV,wW,sC,uT];gi_wp2;refine HR.out.mono ?_;rintro e G ⟨⟨rfl,u⟩|⟨rfl,u⟩,C,d⟩
  .have a:=d.wk Z.out;have N:=fO a 1;have f2:=gu a 1;dsimp at N;have HS:=fN (nZ a 1 (.bool false) rfl);have H:=fN (show(JW l b J JE (pre++[⟨k,s,t⟩]) G/\Kept [] w0 G)/\∀v gx,tq W v gx->tq G v gx from⟨⟨.inl ⟨u,a⟩,C⟩,λ_ _ h=>d.atr h⟩);clear u C d a;gi_wp2;go_end0;rw[HS.out];exact⟨rfl,H.out⟩
  .have a:=d.wk Z.out;have N:=fO a 1;have f2:=gu a 1;dsimp at N;have H:=fN (show(JW l b J JE (pre++[⟨k,s,t⟩]) (G.setCell ⟨b,1,none⟩ (.bool true))/\Kept [] w0 (G.setCell ⟨b,1,none⟩ (.bool true)))/\∀v gx,tq W v gx->tq (G.setCell ⟨b,1,none⟩ (.bool true)) v gx from⟨⟨.inr ⟨HM.out _ a u,fV a 1 _⟩,C.setCell (.inr HB.out) _⟩,λ_ _ h=>a.atr _ (d.atr h)⟩);clear u C d a;gi_wp2;go_end0;exact⟨rfl,H.out⟩
 .have K:=fO z 1;dsimp at K;have X:=je z;have H:=fN (show(JW l b J JE (pre++[x]) W/\Kept [] w0 W)/\∀v gx,tq W v gx->tq W v gx from⟨⟨.inr ⟨D,z⟩,I⟩,λ_ _ h=>h⟩);clear O I D Y z F U;refine callsIn_of_wp func432 rfl trivial ?_ rfl;simp only[ntmps432,wS,sW,wx,Nat.reduceAdd,Nat.reduceSub,wT,wU,wV,wW,sC,uT];gi_wp2;go_end0;exact⟨rfl,H.out⟩
def wdt (u:Zo l tot w0 J JE) (z:w0.heap.size<=b) (a:∀V,Wk V b l false->JE V->JE (V.setCell ⟨b,1,none⟩ (.bool true))) (s:gn) (pre:List It) (W:gr) (h:Kept [] w0 W) (d:JW l b J JE pre W) (F:pre++[⟨1,s,⟨#[]⟩⟩] <+:tot):
  Calls prog 428 #[gF b,gw s] W λe W'=>e=o9/\JW l b J JE (pre++[⟨1,s,⟨#[]⟩⟩]) W'/\Kept [] w0 W':=by
 have C:=fN (AU u z a pre ⟨1,s,⟨#[]⟩⟩ W h d F);clear u h d F z a;generalize JW l b J JE (pre++[⟨1,s,⟨#[]⟩⟩])=H at C|-;go_enter func428,ntmps428;go_wp21;refine C.out.mono ?_;rintro e I ⟨rfl,D,_⟩;have G:=fN D;clear D;go_wp2;go_end0;exact⟨rfl,G.out⟩
def wcm (u:Zo l tot w0 J JE) (z:w0.heap.size<=b) (a:∀V,Wk V b l false->JE V->JE (V.setCell ⟨b,1,none⟩ (.bool true))) (s:gn) (pre:List It) (W:gr) (h:Kept [] w0 W) (d:JW l b J JE pre W) (F:pre++[⟨2,s,⟨#[]⟩⟩] <+:tot):
  Calls prog 427 #[gF b,gw s] W λe W'=>e=o9/\JW l b J JE (pre++[⟨2,s,⟨#[]⟩⟩]) W'/\Kept [] w0 W':=by
 have C:=fN (AU u z a pre ⟨2,s,⟨#[]⟩⟩ W h d F);clear u h d F z a;generalize JW l b J JE (pre++[⟨2,s,⟨#[]⟩⟩])=H at C|-;go_enter func427,ntmps427;go_wp21;refine C.out.mono ?_;rintro e I ⟨rfl,D,_⟩;have G:=fN D;clear D;go_wp2;go_end0;exact⟨rfl,G.out⟩
def wtx (u:Zo l tot w0 J JE) (z:w0.heap.size<=b) (a:∀V,Wk V b l false->JE V->JE (V.setCell ⟨b,1,none⟩ (.bool true))) (s:gn) (pre:List It) (W:gr) (h:Kept [] w0 W) (d:JW l b J JE pre W) (F:pre++[⟨3,s,⟨#[]⟩⟩] <+:tot):
  Calls prog 431 #[gF b,gw s] W λe W'=>e=o9/\JW l b J JE (pre++[⟨3,s,⟨#[]⟩⟩]) W'/\Kept [] w0 W':=by
 have C:=fN (AU u z a pre ⟨3,s,⟨#[]⟩⟩ W h d F);clear u h d F z a;generalize JW l b J JE (pre++[⟨3,s,⟨#[]⟩⟩])=H at C|-;go_enter func431,ntmps431;go_wp21;refine C.out.mono ?_;rintro e I ⟨rfl,D,_⟩;have G:=fN D;clear D;go_wp2;go_end0;exact⟨rfl,G.out⟩
def wlv (u:Zo l tot w0 J JE) (z:w0.heap.size<=b) (a:∀V,Wk V b l false->JE V->JE (V.setCell ⟨b,1,none⟩ (.bool true))) (s:gn) (pre:List It) (W:gr) (h:Kept [] w0 W) (d:JW l b J JE pre W) (F:pre++[⟨6,s,⟨#[]⟩⟩] <+:tot):
  Calls prog 430 #[gF b,gw s] W λe W'=>e=o9/\JW l b J JE (pre++[⟨6,s,⟨#[]⟩⟩]) W'/\Kept [] w0 W':=by
 have C:=fN (AU u z a pre ⟨6,s,⟨#[]⟩⟩ W h d F);clear u h d F z a;generalize JW l b J JE (pre++[⟨6,s,⟨#[]⟩⟩])=H at C|-;go_enter func430,ntmps430;go_wp21;refine C.out.mono ?_;rintro e I ⟨rfl,D,_⟩;have G:=fN D;clear D;go_wp2;go_end0;exact⟨rfl,G.out⟩
def Zt (a b:List Ev):kY (a++b)=kY a++kY b:=JC ..
def vR {a b:List Ev} (h:a <+:b):kY a <+:kY b:=by
 obtain⟨r,rfl⟩:=h;simp[kY]
theorem Ld (L:lh) (i:Nat) (h:i < L.length):(C9 L)[i*2]?=some (gw L[i].1)/\(C9 L)[i*2+1]?=some (gw L[i].2):=by
 induction L generalizing i with
 |nil=>simp at h
 |cons a L ih=>
  cases i with
  |zero=>simp
  |succ i=>
   grind
theorem wen (hY:Zo l tot w0 J JE) (hb:w0.heap.size<=b) (I:∀V,Wk V b l false->JE V->JE (V.setCell ⟨b,1,none⟩ (.bool true))) (hm:∀pre W W',J pre W->Kept [] W W'->J pre W') (U:∀W W',JE W->Kept [] W W'->JE W') (s:gn) (av:gG) (gx:lh) (pre:List It) (W:gr) (hK:Kept [] w0 W) (hJ:JW l b J JE pre W) (hp:pre++ug (.enter s gx) <+:tot) (hA:tq W av gx) (a7:gx.length<=4096):
  Calls prog 429 #[gF b,gw s,av] W λe W'=>(∃d,e=ir (.bool d)/\(d=true\/d=false/\∀p,JW l b J JE p W'))/\JW l b J JE (pre++ug (.enter s gx)) W'/\Kept [] w0 W':=by
 have X:pre++[(⟨4,s,⟨#[]⟩⟩:It)] <+:tot:=by
  have⟨r,hr⟩:=hp;exact⟨_,by rw[<-hr];simp[ug];rfl⟩
 have C:=fN (AU hY hb I pre ⟨4,s,⟨#[]⟩⟩ W hK hJ X);have⟨ao,cap,hav⟩:=gv hA;have HA:=fN hA;have HP:=fN hp;have HY:=fN hY;have HM:=fN hm;have a5:=fN U;have a6:=fN I;have HB:=fN hb;obtain⟨n,hn⟩:∃n,n=gx.length:=⟨_,rfl⟩;rw[<-hn]at a7 hav;have HN:=fN hn;subst hav;clear hY hK hJ hp X hA hm hn hb I U;go_enter func429,ntmps429;go_wp21;refine C.out.mono ?_;rintro e W2 ⟨rfl,⟨h,z⟩,Y⟩;have a0:=fN (Y _ _ HA.out);have a3:=fN h;have a4:=fN z;clear h z Y C HA;go_wp21
 go_loopw [14] (λv wr=>∃i:Nat,v=ga i/\i<=n/\JW l b J JE (pre++(⟨4,s,⟨#[]⟩⟩::(gx.take i).map λa=>(⟨5,a.1,a.2⟩:It))) wr/\Kept [] w0 wr/\tq wr (.slice ao n cap) gx) (λv _=>n - (intOf v).toNat)
 case atStart=>exact⟨0,rfl,iP _,by simpa using a3.out,a4.out,a0.out⟩
 case round=>
  obtain⟨i,rfl,hi,h,z,N⟩:=hrel;by_cases aa:i < n
  .have h1:i < gx.length:=by rw[<-HN.out];exact aa
   obtain⟨g,a8⟩:∃g,ao=some ⟨g,0,none⟩:=by
    rcases N.2 with⟨e,h0⟩|⟨g,ab,ac,e,_⟩
    all_goals grind
   subst a8;have ad:wr.cell? ⟨g,i*2,none⟩=some (gw gx[i].1):=by
    have:=N.cells (g:=g) rfl (i*2) _ (Ld gx i h1).1;rw[js]at this
    simpa using this
   have ae:wr.cell? ⟨g,i*2+1,none⟩=some (gw gx[i].2):=by
    have:=N.cells (g:=g) rfl (i*2+1) _ (Ld gx i h1).2;rw[js]at this
    simpa using this
   have u:(pre++(⟨4,s,⟨#[]⟩⟩::(gx.take i).map λa=>(⟨5,a.1,a.2⟩:It)))++[⟨5,gx[i].1,gx[i].2⟩]=pre++(⟨4,s,⟨#[]⟩⟩::(gx.take (i+1)).map λa=>(⟨5,a.1,a.2⟩:It)):=by
    have:(gx.take (i+1))=gx.take i++[gx[i]]:=by rw[DV,qw h1];rfl
    rw[this,ra];simp only[uS,uT,y8,List.map_nil]
   have G:(pre++(⟨4,s,⟨#[]⟩⟩::(gx.take i).map λa=>(⟨5,a.1,a.2⟩:It)))++[⟨5,gx[i].1,gx[i].2⟩] <+:tot:=by
    rw[u];have⟨r,hr⟩:=HP.out;refine⟨((gx.drop (i+1)).map λa=>(⟨5,a.1,a.2⟩:It))++r,?_⟩;rw[<-hr];have e:=pJ (List.map λa:gn×gn=>(⟨5,a.1,a.2⟩:It)) (yZ (i+1) gx);rw[ra]at e;show _=pre++(⟨4,s,⟨#[]⟩⟩::gx.map λa=>(⟨5,a.1,a.2⟩:It))++r;rw[<-e];simp only[uS,uT]
   have Z:∀o,Kept [] wr (wr.alloc o):=λo=>(Kept.refl [] wr).alloc o;have CT:=fN (λo=>AU HY.out HB.out a6.out _ ⟨5,gx[i].1,gx[i].2⟩ (wr.alloc o) (z.trans (Z o)) (JW.mono HM.out a5.out h (Z o)) G);have O:=fN (λo=>N.kept (Z o));simp only[u]at CT;generalize gx[i].1=u1 at *;generalize gx[i].2=u2 at *;clear u G Z h z N;go_wp21;refine(CT.out _).mono ?_;rintro e W3 ⟨rfl,⟨h,z⟩,Y⟩;have D:=fN h;have F:=fN z;have a1:=fN (Y _ _ (O.out _));clear h z Y CT O;go_wp2;go_roundw
   case rel=>exact⟨i+1,by go_num,by omega,D.out,F.out,a1.out⟩
   case measure=>simp[intOf];omega
  .have he:gx.take i=gx:=Av (by rw[<-HN.out];omega);rw[he]at h;have D:=fN h;have F:=fN z;clear z N he;rcases h with⟨h,H⟩|⟨h,H⟩
   .have K:=fO H 1;dsimp at K;have a9:=je H;clear h H;go_wp2;go_ret;exact⟨⟨_,rfl,.inl rfl⟩,D.out,F.out⟩
   .have K:=fO H 1;dsimp at K;have a9:=je H;have a2:=fN (λp=>(show JW l b J JE p wr from .inr ⟨h,H⟩));clear h H;go_wp2;go_ret;exact⟨⟨_,rfl,.inr ⟨rfl,a2.out⟩⟩,D.out,F.out⟩
end
theorem SP (l b:Nat) (tot:List Ev) (w0:gr) (J:List It->gr->Prop) (JE:gr->Prop) (D:Zo l (kY tot) w0 J JE) (F:w0.heap.size<=b) (e:∀V,Wk V b l false->JE V->JE (V.setCell ⟨b,1,none⟩ (.bool true))) (K:∀pre W W',J pre W->Kept [] W W'->J pre W') (G:∀W W',JE W->Kept [] W W'->JE W'):
  ZC 197 (gF b) (λ_=>false) tot w0 (λpre W=>JW l b J JE (kY pre) W):=by
 have d:∀pre H,kY (pre++[H])=kY pre++ug H:=λpre H=>by simp[kY]
 refine {mono:=λpre W W' h U=>h.mono K G U,dt:=λs=>?_,cm:=λs=>?_,tx:=λs=>?_,uQ:=λs=>?_,enter:=?_}
 .refine⟨428,gF b,λw=>by kernel_rfl,λw=>by kernel_rfl,enters_of func428 (by rfl) rfl,λpre W z u C=>?_⟩;have a:=vR C;rw[d]at a
  try simp only[]
  rw[d];exact wdt D F e s _ W z u a
 .refine⟨427,gF b,λw=>by kernel_rfl,λw=>by kernel_rfl,enters_of func427 (by rfl) rfl,λpre W z u C=>?_⟩;have a:=vR C;rw[d]at a
  try simp only[]
  rw[d];exact wcm D F e s _ W z u a
 .refine⟨431,gF b,λw=>by kernel_rfl,λw=>by kernel_rfl,enters_of func431 (by rfl) rfl,λpre W z u C=>?_⟩;have a:=vR C;rw[d]at a
  try simp only[]
  rw[d];exact wtx D F e s _ W z u a
 .refine⟨430,gF b,λw=>by kernel_rfl,λw=>by kernel_rfl,enters_of func430 (by rfl) rfl,λpre W z u C=>?_⟩;have a:=vR C;rw[d]at a
  try simp only[]
  rw[d];exact wlv D F e s _ W z u a
 .refine⟨429,gF b,λw=>by kernel_rfl,λw=>by kernel_rfl,enters_of func429 (by rfl) rfl,λpre W s N gx z u C O I=>?_⟩;have a:=vR C;rw[d]at a
  try simp only[]
  rw[d];refine(wen D F e K G s N gx _ W z u a O I).mono ?_;grind
def LZ (w:gr):(zeroValue 164).run prog w= .ok .nilFunc w:=by simp
theorem Pn {bm d e : Nat} {R : Option (List (List gn×Ru))} (h:ri bm d e R v w) (n:gn):
  ∃u,(∀w',Kept [] w w'->(Instr.lookup 166 v (gw n) false).run prog w'= .ok u w')/\nr bm d e (Du R n) u w:=by
 cases R with
 |none=>
  obtain rfl:v= .map none:=h;refine⟨.nilFunc,λw' _=>?_,rfl⟩;have F:(underlying 9).run prog w'= .ok .string w':=qv underlying9 _;have C:∀x,(Instr.checkKey x 10000 9 (gw n)).run prog w'= .ok () w':=λx=>by
   unfold Instr.checkKey;simp
  simp[Instr.lookup,qv (show prog.underlying 166=some (.map 9 164) by simp),C,Instr.findKey,Instr.findNow,F,LZ,Result.andThen]
 |some R=>
  obtain⟨b,L,rfl,z,G⟩:=h;have a:=z.lt;refine⟨(zv L n).getD .nilFunc,λw' D=>EF (by simp) LZ (z.keeps (D.block b a (by simp))) n,?_⟩;grind[nr,Du,zv]
def Yx (E:Env) (bB bD a b:Nat) (n:gn) (gx:lh) (sp:mB) (v0 v1 v2 v3 v4 v5 v6 v7 v8 v9:gG) (w:gr) (h:kG E.bm bB bD sp v0 v1 v2 v3 v4 v5 v6 v7 v8 v9 w) (d:∃x m c,E.tv= .slice x m c):
  Calls prog 254 #[.agg #[v0,v1,v2,v3,v4,v5,v6,v7,v8,v9],iA E ⟨a,b,.start n,gx⟩] w λe w'=>∃v,e=ir v/\nr E.bm bB bD (jX sp ⟨a,b,.start n,gx⟩) v w/\Kept [] w w':=by
 have⟨k0,k1,k2,k3,k4,k5,k6,k7,k8,k9⟩:=vA h.one;have N:=fN h;clear h;have HG:=fN (λo=>EM w (gy #[v0,v1,v2,v3,v4,v5,v6,v7,v8,v9] 168) o);have X:=fN (fQ w (gy #[v0,v1,v2,v3,v4,v5,v6,v7,v8,v9] 168));have D:=fN (λo=>((Kept.refl [] w).alloc (gy #[v0,v1,v2,v3,v4,v5,v6,v7,v8,v9] 168)).alloc o);have Y:=fN ((Kept.refl [] w).alloc (gy #[v0,v1,v2,v3,v4,v5,v6,v7,v8,v9] 168));simp only[iA];have⟨x0,m0,c0,d⟩:=d;rw[d];clear d;have V:=uJ;have H:=sr;have I:=vy;have C:=qt underlying192;have⟨u,hlk,hu⟩:=Pn N.out.start n;have Z:=fN hlk;have G:=hlk ((w.alloc (gy #[v0,v1,v2,v3,v4,v5,v6,v7,v8,v9] 168)).alloc (gy #[ga a,ga b,gw n,.slice x0 m0 c0] 192)) (D.out _);have U:=HG.out (gy #[ga a,ga b,gw n,.slice x0 m0 c0] 192);have gT:=fQ (w.alloc (gy #[v0,v1,v2,v3,v4,v5,v6,v7,v8,v9] 168)) (gy #[ga a,ga b,gw n,.slice x0 m0 c0] 192);have O:=fN (D.out (gy #[ga a,ga b,gw n,.slice x0 m0 c0] 192));obtain⟨W,F⟩:∃W,W=((w.alloc (gy #[v0,v1,v2,v3,v4,v5,v6,v7,v8,v9] 168)).alloc (gy #[ga a,ga b,gw n,.slice x0 m0 c0] 192)):=⟨_,rfl⟩;have hz:(w.alloc (gy #[v0,v1,v2,v3,v4,v5,v6,v7,v8,v9] 168)).heap.size=w.heap.size+1:=by simp
 rw[hz]at gT;have q5:W.cell? ⟨w.heap.size,5,none⟩=some v5:=by rw[F,fO U];rfl
 have q7:W.cell? ⟨w.heap.size,7,none⟩=some v7:=by rw[F,fO U];rfl
 have q9:W.cell? ⟨w.heap.size,9,none⟩=some v9:=by rw[F,fO U];rfl
 have qn:W.cell? ⟨w.heap.size+1,2,none⟩=some (gw n):=by rw[F,fO gT];rfl
 rw[<-F]at O G;have HW:=fN F.symm;clear U gT HG X D Y hlk F hz Z;have hr:jX sp ⟨a,b,.start n,gx⟩=kq [Du sp.start n,sp.jK,sp.iy]:=rfl;have z:Hid (vC E.bm bB bD w _ [u,v7,v9]):=fN (.cons hu (.cons N.out.jK (.cons N.out.iy (.nil))));have HR:=fN hr;clear hr;have f5:=hu.fv;have f7:=N.out.jK.fv;have f9:=N.out.iy.fv;clear hu;go_enter func254,ntmps254;go_wp21;rw[HW.out];go_wp21;rw[G];clear G;rcases f5 with rfl|⟨k5,a5,l5,rfl⟩
 all_goals rcases f7 with rfl|⟨k7,a7,l7,rfl⟩
 all_goals rcases f9 with rfl|⟨k9,a9,l9,rfl⟩
 all_goals go_wp2_with fail
 all_goals refine(tF z.out (by simp) (by simp)).mono ?_
 all_goals rintro e w3 ⟨rfl,rfl⟩
 all_goals have K:=fN z.out.first
 all_goals simp only[rR]at K|-
 all_goals go_wp2
 all_goals go_ret
 all_goals exact⟨_,rfl,HR.out▸K.out,O.out.alloc _⟩
def aaF (E:Env) (bB bD a b:Nat) (n:gn) (gx:lh) (sp:mB) (v0 v1 v2 v3 v4 v5 v6 v7 v8 v9:gG) (w:gr) (h:kG E.bm bB bD sp v0 v1 v2 v3 v4 v5 v6 v7 v8 v9 w) (d:∃x m c,E.tv= .slice x m c):
  Calls prog 254 #[.agg #[v0,v1,v2,v3,v4,v5,v6,v7,v8,v9],iA E ⟨a,b,.stop n,gx⟩] w λe w'=>∃v,e=ir v/\nr E.bm bB bD (jX sp ⟨a,b,.stop n,gx⟩) v w/\Kept [] w w':=by
 have⟨k0,k1,k2,k3,k4,k5,k6,k7,k8,k9⟩:=vA h.one;have O:=fN h;clear h;have HG:=fN (λo=>EM w (gy #[v0,v1,v2,v3,v4,v5,v6,v7,v8,v9] 168) o);have Y:=fN (fQ w (gy #[v0,v1,v2,v3,v4,v5,v6,v7,v8,v9] 168));have D:=fN (λo=>((Kept.refl [] w).alloc (gy #[v0,v1,v2,v3,v4,v5,v6,v7,v8,v9] 168)).alloc o);have Z:=fN ((Kept.refl [] w).alloc (gy #[v0,v1,v2,v3,v4,v5,v6,v7,v8,v9] 168));simp only[iA];have⟨x0,m0,c0,d⟩:=d;rw[d];clear d;have X:=uJ;have H:=sr;have I:=vy;have C:=ql;have K:=qt underlying193;have⟨u,hlk,hu⟩:=Pn O.out.stop n;have a0:=fN hlk;have G:=hlk ((w.alloc (gy #[v0,v1,v2,v3,v4,v5,v6,v7,v8,v9] 168)).alloc (gy #[ga a,ga b,gw n,.slice x0 m0 c0] 193)) (D.out _);have V:=HG.out (gy #[ga a,ga b,gw n,.slice x0 m0 c0] 193);have gT:=fQ (w.alloc (gy #[v0,v1,v2,v3,v4,v5,v6,v7,v8,v9] 168)) (gy #[ga a,ga b,gw n,.slice x0 m0 c0] 193);have U:=fN (D.out (gy #[ga a,ga b,gw n,.slice x0 m0 c0] 193));obtain⟨W,F⟩:∃W,W=((w.alloc (gy #[v0,v1,v2,v3,v4,v5,v6,v7,v8,v9] 168)).alloc (gy #[ga a,ga b,gw n,.slice x0 m0 c0] 193)):=⟨_,rfl⟩;have hz:(w.alloc (gy #[v0,v1,v2,v3,v4,v5,v6,v7,v8,v9] 168)).heap.size=w.heap.size+1:=by simp
 rw[hz]at gT;have q6:W.cell? ⟨w.heap.size,6,none⟩=some v6:=by rw[F,fO V];rfl
 have q8:W.cell? ⟨w.heap.size,8,none⟩=some v8:=by rw[F,fO V];rfl
 have q9:W.cell? ⟨w.heap.size,9,none⟩=some v9:=by rw[F,fO V];rfl
 have qn:W.cell? ⟨w.heap.size+1,2,none⟩=some (gw n):=by rw[F,fO gT];rfl
 rw[<-F]at U G;have HW:=fN F.symm;clear V gT HG Y D Z hlk F hz a0;have hr:jX sp ⟨a,b,.stop n,gx⟩=kq [Du sp.stop n,sp.j9,sp.iy]:=rfl;have z:Hid (vC E.bm bB bD w _ [u,v8,v9]):=fN (.cons hu (.cons O.out.j9 (.cons O.out.iy (.nil))));have HR:=fN hr;clear hr;have f5:=hu.fv;have f8:=O.out.j9.fv;have f9:=O.out.iy.fv;clear hu;go_enter func254,ntmps254;go_wp21;rw[HW.out];go_wp21;rw[G];clear G;rcases f5 with rfl|⟨k5,a5,l5,rfl⟩
 all_goals rcases f8 with rfl|⟨k8,a8,l8,rfl⟩
 all_goals rcases f9 with rfl|⟨k9,a9,l9,rfl⟩
 all_goals go_wp2_with fail
 all_goals refine(tF z.out (by simp) (by simp)).mono ?_
 all_goals rintro e w3 ⟨rfl,rfl⟩
 all_goals have N:=fN z.out.first
 all_goals simp only[rR]at N|-
 all_goals go_wp2
 all_goals go_ret
 all_goals exact⟨_,rfl,HR.out▸N.out,U.out.alloc _⟩
def Sg (E:Env) (K N a b:Nat) (s:gn) (gx:lh) (sp:mB) (v0 v1 v2 v3 v4 v5 v6 v7 v8 v9:gG) (w:gr) (h:kG E.bm K N sp v0 v1 v2 v3 v4 v5 v6 v7 v8 v9 w):
  Calls prog 254 #[.agg #[v0,v1,v2,v3,v4,v5,v6,v7,v8,v9],iA E ⟨a,b,.gJ s,gx⟩] w λe w'=>∃v,e=ir v/\nr E.bm K N (jX sp ⟨a,b,.gJ s,gx⟩) v w/\Kept [] w w':=by
 have⟨k0,k1,Y,k3,k4,k5,k6,k7,k8,Z⟩:=vA h.one;have D:=fN h;clear h;have U:=fN (λo=>EM w (gy #[v0,v1,v2,v3,v4,v5,v6,v7,v8,v9] 168) o);have G:=fN (fQ w (gy #[v0,v1,v2,v3,v4,v5,v6,v7,v8,v9] 168));have C:=fN (λo=>((Kept.refl [] w).alloc (gy #[v0,v1,v2,v3,v4,v5,v6,v7,v8,v9] 168)).alloc o);have H:=fN ((Kept.refl [] w).alloc (gy #[v0,v1,v2,v3,v4,v5,v6,v7,v8,v9] 168));simp only[iA];have F:=uJ;have u:=qt underlying194;have O:=U.out (gy #[ga a,ga b,gw s] 194);have I:=fN (C.out (gy #[ga a,ga b,gw s] 194));have q2:=fO O 2;have q9:=fO O 9;dsimp at q2 q9;clear O U G C H;have d:Hid (vC E.bm K N w _ [v2,v9]):=fN (.cons D.out.gJ (.cons D.out.iy (.nil)));have V:=D.out.gJ.fv;have X:=D.out.iy.fv;go_enter func254,ntmps254;rcases V with rfl|⟨Y,a2,l2,rfl⟩
 all_goals rcases X with rfl|⟨Z,a9,l9,rfl⟩
 all_goals go_wp21
 all_goals refine(tF d.out (by simp) (by simp)).mono ?_
 all_goals rintro e w3 ⟨rfl,rfl⟩
 all_goals have z:=fN d.out.first
 all_goals simp only[rR]at z|-
 all_goals go_wp2
 all_goals go_ret
 all_goals exact⟨_,rfl,z.out,I.out.alloc _⟩
def Sh (E:Env) (N O a b:Nat) (n:gn) (q:Bool) (gx:lh) (sp:mB) (v0 v1 v2 v3 v4 v5 v6 v7 v8 v9:gG) (w:gr) (h:kG E.bm N O sp v0 v1 v2 v3 v4 v5 v6 v7 v8 v9 w):
  Calls prog 254 #[.agg #[v0,v1,v2,v3,v4,v5,v6,v7,v8,v9],iA E ⟨a,b,.iH n q,gx⟩] w λe w'=>∃v,e=ir v/\nr E.bm N O (jX sp ⟨a,b,.iH n q,gx⟩) v w/\Kept [] w w':=by
 have⟨k0,k1,k2,Z,k4,k5,k6,k7,k8,k9⟩:=vA h.one;have F:=fN h;clear h;have V:=fN (λo=>EM w (gy #[v0,v1,v2,v3,v4,v5,v6,v7,v8,v9] 168) o);have H:=fN (fQ w (gy #[v0,v1,v2,v3,v4,v5,v6,v7,v8,v9] 168));have D:=fN (λo=>((Kept.refl [] w).alloc (gy #[v0,v1,v2,v3,v4,v5,v6,v7,v8,v9] 168)).alloc o);have I:=fN ((Kept.refl [] w).alloc (gy #[v0,v1,v2,v3,v4,v5,v6,v7,v8,v9] 168));simp only[iA];have G:=uJ;have u:=sr;have z:=qt underlying196;have U:=V.out (gy #[ga a,ga b,gw n,.bool q] 196);have K:=fN (D.out (gy #[ga a,ga b,gw n,.bool q] 196));have q3:=fO U 3;have q9:=fO U 9;dsimp at q3 q9;clear U V H D I;have d:Hid (vC E.bm N O w _ [v3,v9]):=fN (.cons F.out.iH (.cons F.out.iy (.nil)));have X:=F.out.iH.fv;have Y:=F.out.iy.fv;go_enter func254,ntmps254;rcases X with rfl|⟨Z,a3,l3,rfl⟩
 all_goals rcases Y with rfl|⟨k9,a9,l9,rfl⟩
 all_goals go_wp21
 all_goals refine(tF d.out (by simp) (by simp)).mono ?_
 all_goals rintro e w3 ⟨rfl,rfl⟩
 all_goals have C:=fN d.out.first
 all_goals simp only[rR]at C|-
 all_goals go_wp2
 all_goals go_ret
 all_goals exact⟨_,rfl,C.out,K.out.alloc _⟩
def Rx (E:Env) (t:gz):iU E 201 (λ_=>#[Bp E,iA E t]) (xD t) uV:=by
 refine dI λf σ w R G HS H=>?_;unfold xD at G;go_enter func201,ntmps201;have⟨kb,lbb,cb,HQ⟩:=H.rel.bounds;have h:=H.lt;have u:=cb;have z:=(Kept.refl [] w).drew;have⟨ta,tb,tao,tn,tcp,HTG⟩:=DL E t H.rel;have V:=λw=>Am ta tb t.name tao tn tcp w;replace G:Hid (R= .ok () (σ.close (hH [t.name]) (iJ))):=by
  have:=G;rw[M.gm,tw]at this;exact fN this
 go_wp21
 go_region_with (first
   |(go_at_call 167;refine(HTG _).mono ?_;rintro e K ⟨rfl,F⟩;have z:=fN (z.trans F);have c3:K.cell? ⟨E.bB,186,none⟩=some (.func (.func kb) #[] lbb):=(z.cell (p:=⟨E.bB,186,none⟩) h (by simp)).trans u;have X:E.bB < K.heap.size:=mf h z.size;clear F)
   |(go_at_call 215;refine(ni E [t.name] K (by simp)).mono ?_;rintro e Z ⟨k1,Y,rfl,C,D⟩;have d:=z.trans D;have c1:Z.cell? ⟨E.bB,186,none⟩=some (.func (.func kb) #[] lbb):=(d.cell (p:=⟨E.bB,186,none⟩) h (by simp)).trans u;have I:=fN C;have a:=fN d;clear C D d)
   |(go_at_call 218;refine(Cx (p:=hH [t.name]) (q:=iJ) (H.k0 a).rel I (HQ.k0 a)).mono ?_;rintro e w2 ⟨rfl,N,O⟩;have U:=fN ((H.k0 a).to N (xB _ _ _) O);clear N O))
 all_goals (try (go_wp21))
 all_goals go_wp2
 all_goals go_end0
 all_goals exact fZ G U rfl
def Dc (E:Env) (rec:Nat->gz->M Unit) (h:∀(m:Nat) (t:gz),iY E t->iU E 161 (λ_=>#[Bp E,ga m,iA E t]) (rec m t) uV) (t:gz) (z:iY E t):iU E 125 (λ_=>#[Bp E,iA E t]) (sL rec t) uV:=by
 refine dI λf C w R a HS H=>?_;unfold sL at a;go_enter func125,ntmps125;have d:=H.Xc;have e:=H.free 195;have u:=H.lt;replace H:=H.xR true;go_wp21;refine dC (h 6 t z) H a HS rfl lT ?_;rintro(_) f C w H F D a;have d:=H.Xc;have e:=H.free 195;have u:=H.lt;replace H:=H.xR false;go_wp2;go_end0;exact fZ a H rfl
def JT (E:Env) (rec:Nat->gz->M Unit) (z:∀(m:Nat) (t:gz),iY E t->iU E 161 (λ_=>#[Bp E,ga m,iA E t]) (rec m t) uV) (t:gz) (D:iY E t):iU E 115 (λ_=>#[Bp E,iA E t]) (oQ rec t) uV:=by
 refine dI λf d w R a HS H=>?_;unfold oQ at a;go_enter func115,ntmps115;go_wp21;refine(Bi E _).mono ?_;rintro e w ⟨X,I,rfl,h,u⟩;replace H:=H.k0 u;have C:=AD H.rel h;cases hc:d.current Ak with
 |true=>
  rw[hc]at C;replace a:Hid (R=(jM rec t>>=λ_=>(pure ():M Unit)) {d with kept:=d.mode,mode:=8}):=by
   have:=a;rw[gN hc]at this;exact fN this
  go_wp21;refine C.mono ?_;rintro e w ⟨rfl,rfl⟩;have K:=H.ru;have O:=H.free 192;have N:=H.Rh;have U:=H.free 193;have V:=H.lt;replace H:=(H.xU d.mode).iW 8;go_wp21;refine dC (sU E rec z t D) H a HS rfl lT ?_;rintro(_) f d w H G F a;go_wp2;go_end0;exact fZ a H rfl
 |false=>
  rw[hc]at C;replace a:Hid (R=(sL rec t>>=λ_=>(pure ():M Unit)) d):=by
   have:=a;rw[gI (by simp[hc])]at this;exact fN this
  go_wp21;refine C.mono ?_;rintro e w ⟨rfl,rfl⟩;go_wp21;refine dC (Dc E rec z t D) H a HS rfl lT ?_;rintro(_) f d w H G F a;go_wp2;go_end0;exact fZ a H rfl
def Ec {σ:Ab} (h:RF E f σ w) {ks : List gn} (m:Nat) (F:Ask E.bm (.func (.func k) #[] lb) (hH ks) w) (D:(rH ks m) σ≠ .stuck):Calls prog 226 #[Bp E,.func (.func k) #[] lb,ga m] w (jS E f σ.nodes.length w ((rH ks m) σ) bV):=by
 have z:=F;obtain⟨R,u⟩:∃R,R=(rH ks m) σ:=⟨_,rfl⟩;rw[<-u]at D|-;unfold rH at u;have HS:=D;have H:=At.start h;have a:=fN u;clear u;go_enter func226,ntmps226;go_wp21;refine(wj E _).mono ?_;rintro e w ⟨U,G,rfl,C,d⟩;replace H:=H.k0 d;replace z:=z.k0 d;go_wp21;refine zV (λ_=>yn H.rel z C) H a HS mT ?_;rintro(b) σ w H I a;cases b with
 |false=>
  replace a:Hid (R= .ok false σ):=a;go_wp2;go_ret;exact jL a H rfl
 |true=>
  replace a:Hid (R= .ok true {σ with mode:=m}):=a;have K:=H.ru;have N:=H.free 192;have O:=H.lt;replace H:=H.iW m;go_wp2;go_ret;exact jL a H rfl
def zg {σ:Ab} (h:RF E f σ w) {ks : List gn} (m:Nat) (C:Ask E.bm (.func (.func k) #[] lb) (hH ks) w) (e:(lc ks m) σ≠ .stuck):Calls prog 225 #[Bp E,.func (.func k) #[] lb,ga m] w (jS E f σ.nodes.length w ((lc ks m) σ) bV):=by
 have u:=C;obtain⟨R,d⟩:∃R,R=(lc ks m) σ:=⟨_,rfl⟩;rw[<-d]at e|-;unfold lc at d;have HS:=e;have H:=At.start h;have a:=fN d;clear d;go_enter func225,ntmps225;go_wp21;refine zV (λD=>Ec H.rel m u D) H a HS mT ?_;rintro(b) σ w H z a;cases b with
 |false=>
  replace a:Hid (R= .ok false σ):=a;go_wp2;go_ret;exact jL a H rfl
 |true=>
  replace a:Hid (R=(yW>>=λ_=>(pure true:M Bool)) σ):=a;go_wp21;refine mC (QC E) H a HS rfl mT ?_;rintro(_) σ w H z a;go_wp2;go_ret;exact jL a H rfl
def RL (E:Env):jT E 121 (λ_=>#[Bp E]) xG bV:=by
 refine mI λf h w R a HS H=>?_;unfold xG at a;go_enter func121,ntmps121;go_wp21;refine(LQ E _).mono ?_;rintro e w ⟨I,F,rfl,u,C⟩;replace H:=H.k0 C;go_wp21;refine(wj E _).mono ?_;rintro e w ⟨K,G,rfl,z,d⟩;replace H:=H.k0 d;replace u:=u.k0 d;go_wp21;refine zV (λ_=>yn H.rel u z) H a HS mT ?_;rintro(b) h w H D a;cases b with
 |false=>
  replace a:Hid (R= .ok false h):=a;go_wp2;go_ret;exact jL a H rfl
 |true=>
  replace a:Hid (R=(xh>>=λ_=>(pure true:M Bool)) h):=a;go_wp21;refine zV (λ_=>TZ H.rel) H a HS mT ?_;rintro(_) h w H D a;go_wp2;go_ret;exact jL a H rfl
def MC (E:Env):jT E 128 (λ_=>#[Bp E]) tC bV:=by
 refine mI λf C w R a HS H=>?_;unfold tC at a;go_enter func128,ntmps128;replace a:=fN (M.tail a);go_wp21;refine(ni E [gh] _ (by decide)).mono ?_;rintro e w ⟨F,z,rfl,d,h⟩;replace H:=H.k0 h;go_wp21;refine zV (λu=>zg H.rel 7 d u) H a HS mT ?_;rintro(b) C w H D a;go_wp2;go_ret;exact jL a H rfl
def Hs (E:Env):jT E 131 (λ_=>#[Bp E]) qG bV:=by
 refine mI λf C w R a HS H=>?_;unfold qG at a;go_enter func131,ntmps131;replace a:=fN (M.tail a);go_wp21;refine(Jp E _).mono ?_;rintro e w ⟨F,z,rfl,d,h⟩;replace H:=H.k0 h;go_wp21;refine zV (λu=>Ec H.rel 7 d u) H a HS mT ?_;rintro(b) C w H D a;go_wp2;go_ret;exact jL a H rfl
def Xt (E:Env):jT E 134 (λ_=>#[Bp E]) Ed bV:=by
 refine mI λf C w R a HS H=>?_;unfold Ed at a;go_enter func134,ntmps134;replace a:=fN (M.tail a);go_wp21;refine(T0 E _).mono ?_;rintro e w ⟨F,z,rfl,d,h⟩;replace H:=H.k0 h;go_wp21;refine zV (λu=>Ec H.rel 11 d u) H a HS mT ?_;rintro(b) C w H D a;go_wp2;go_ret;exact jL a H rfl
def U4 (E:Env):jT E 135 (λ_=>#[Bp E]) endCell bV:=by
 refine mI λf C w R a HS H=>?_;unfold endCell at a;go_enter func135,ntmps135;replace a:=fN (M.tail a);go_wp21;refine(UR E _).mono ?_;rintro e w ⟨F,z,rfl,d,h⟩;replace H:=H.k0 h;go_wp21;refine zV (λu=>zg H.rel 12 d u) H a HS mT ?_;rintro(b) C w H D a;go_wp2;go_ret;exact jL a H rfl
def Ea (E:Env):jT E 129 (λ_=>#[Bp E]) mD bV:=by
 refine mI λf d w R a HS H=>?_;unfold mD at a;go_enter func129,ntmps129;go_wp21;refine(ni E [fS] _ (by decide)).mono ?_;rintro e w ⟨K,z,rfl,h,u⟩;replace H:=H.k0 u;have C:=AD H.rel h;cases hc:d.current (hH [fS])with
 |true=>
  rw[hc]at C;replace a:Hid (R=(xP>>=λ_=>(do jD 7;return true:M Bool)) d):=by
   have:=a;rw[gN hc]at this;exact fN this
  go_wp21;refine C.mono ?_;rintro e w ⟨rfl,rfl⟩;go_wp21;refine mC (BL E) H a HS rfl mT ?_;rintro(_) d w H D a;have F:=H.ru;have G:=H.free 192;have I:=H.lt;replace H:=H.iW 7;go_wp2;go_ret;exact jL a H rfl
 |false=>
  rw[hc]at C;replace a:Hid (R= .ok false d):=by
   have:=a;rw[gI (by simp[hc])]at this;exact fN this
  go_wp21;refine C.mono ?_;rintro e w ⟨rfl,rfl⟩;go_wp2;go_ret;exact jL a H rfl
def RF.acL {σ:Ab} (h:RF E f σ w):σ.gQ σ.form=true:=by have⟨L,_,hr⟩:=h;exact hr.wf.form
theorem RF.Is {σ:Ab} (h:RF E f σ w):σ.gQ σ.last=true:=by
 have⟨L,_,hr⟩:=h;unfold Ab.last;rcases wg σ.gq with a|⟨d,y,a⟩
 .rw[a];rfl
 .rw[a,vr];exact Ab.vf (hr.wf.gq y (by grind))
theorem aaA (E:Env) (v1:gG) (p:gn->Bool) (w:gr) (d:Ask E.bm v1 p w):
  Calls prog 234 #[v1] w (xu E (λs=>!p s) w):=by
 refine(aay E.bm v1 p w d).mono ?_;rintro e w' ⟨⟨v,rfl,a⟩,h⟩;have⟨k,lb,e,_,_⟩:=a.call;grind
def Qh (E:Env) (t:gz) (F:iY E t):iU E 187 (λ_=>#[Bp E,iA E t]) (tT t) uV:=by
 refine dI λf d w R a HS H=>?_;unfold tT at a;go_enter func187,ntmps187;have h:=H.Rg;have O:=H.lt;cases hf:d.form with
 |some i=>
  rw[hf]at h a;replace a:Hid (R= .ok () d):=a;rw[show oV f (some i)=gF (f i)from rfl]at h;go_wp2;go_end0;exact fZ a H rfl
 |none=>
  rw[hf]at h a;replace a:Hid (R=(mV t>>=λ_=>(do wm λd=>{d with form:=d.last};return ():M Unit)) d):=a;rw[show oV f none= .pointer none from rfl]at h;go_wp21;refine dC (vk E (iF E) t F) H a HS rfl lT ?_;rintro(_) f d w H I G a;have u:=H.rel.Is;have C:=H.rel.Pk;have K:=H.Rg;have N:=H.free 191;have D:=H.lt;have z:=H.uy d.last u;go_wp21;refine C.mono ?_;rintro e w ⟨rfl,rfl⟩;replace H:=z;go_wp2;go_end0;exact fZ a H rfl
def B8 (E:Env) (t:gz) (N:iY E t):iU E 122 (λ_=>#[Bp E,iA E t]) (mc t) uV:=by
 refine dI λf e w R a HS H=>?_;unfold mc at a;go_enter func122,ntmps122;have h:=H.Rg;have hl:=H.lt;cases hf:e.form with
 |some i=>
  rw[hf]at h a;replace a:Hid (R= .ok () e):=a;rw[show oV f (some i)=gF (f i)from rfl]at h;go_wp2;go_end0;exact fZ a H rfl
 |none=>
  rw[hf]at h a;replace a:Hid (R=(jn t>>=λ_=>(do let x <-xP;wm λe=>{e with form:=x};return ():M Unit)) e):=a;rw[show oV f none= .pointer none from rfl]at h;go_wp21;refine dC (kO E (iF E) t N) H a HS rfl lT ?_;rintro(_) f e w H V U a;have u:=H.rel.Is;go_wp21;refine jT.Ot (BL E) H a HS rfl ?_ ?_
  .intro c p j ws d F G;have D:=fN d;clear d;go_wp2;exact⟨rfl,oU D F G⟩
  rintro x z w d Z I C;have O:z.gQ x=true:=by
   unfold xP at C;cases C;exact u
  have X:=d.Rg;have Y:=d.free 191;have K:=d.lt;replace H:=d.uy x O;replace a:=I;clear d;go_wp2;go_end0;exact fZ a H rfl
def ND (E:Env) (t:gz) (z:iY E t):iU E 190 (λ_=>#[Bp E,iA E t]) (rZ t) uV:=by
 refine dI λf d w R a HS H=>?_;unfold rZ at a;go_enter func190,ntmps190;have h:=H.Xd;have u:=H.lt;cases hq:d.jB with
 |true=>
  rw[hq]at h;replace a:Hid (R=(jn t>>=λ_=>(do jD 7;return ():M Unit)) d):=by
   have:=a;rw[M.gm]at this;unfold ym at this;rw[hq]at this;exact fN this
  go_wp21;refine dC (kO E (iF E) t z) H a HS rfl lT ?_;rintro(_) f d w H C e a;have D:=H.ru;have F:=H.free 192;have u:=H.lt;replace H:=H.iW 7;go_wp2;go_end0;exact fZ a H rfl
 |false=>
  rw[hq]at h;replace a:Hid (R=(ou>>=λ_=>(do jn t;jD 7;return ():M Unit)) d):=by
   have:=a;rw[M.gm]at this;unfold ym at this;rw[hq]at this;exact fN this
  go_wp21;refine zV (λG=>xA H.rel G) H a HS lT ?_;rintro(_) d w H e a;go_wp21;refine dC (kO E (iF E) t z) H a HS rfl lT ?_;rintro(_) f d w H C e a;have D:=H.ru;have F:=H.free 192;have u:=H.lt;replace H:=H.iW 7;go_wp2;go_end0;exact fZ a H rfl
def KE (E:Env) (t:gz) (G:iY E t):iU E 193 (λ_=>#[Bp E,iA E t]) (qq t) uV:=by
 refine dI λf e w R a HS H=>?_;unfold qq at a;go_enter func193,ntmps193;go_wp21;refine dC (qS E (iF E) t G) H a HS rfl lT ?_;rintro(_) f e w H U O a;have F:=H.ru;have V:=H.free 192;have X:=H.lt;have C:=H.iW 15;have D:=H.iW 14;replace a:Hid (R= .ok () {e with mode:=if e.mode=7\/e.mode=9\/e.mode=11\/e.mode=12\/e.mode=13 then 15 else 14}):=a;generalize h:e.mode=d at F a;have z:=h;have u:=a;by_cases h:d=7\/d=9\/d=11\/d=12\/d=13
 .rw[gN h]at u;replace a:=u;rcases h with rfl|rfl|rfl|rfl|rfl
  all_goals go_wp2
  all_goals go_end0
  all_goals exact fZ a C rfl
 .rw[gI h]at u;replace a:=u;have Y:((d:Int)==7)=false:=by rw[LY];omega
  have Z:((d:Int)==9)=false:=by rw[LY];omega
  have I:((d:Int)==11)=false:=by rw[LY];omega
  have K:((d:Int)==12)=false:=by rw[LY];omega
  have N:((d:Int)==13)=false:=by rw[LY];omega
  go_wp2;go_end0;exact fZ a D rfl
def acF (E:Env) (t:gz):iU E 204 (λ_=>#[Bp E,iA E t]) OL uV:=by
 refine dI λf d w R a HS H=>?_;unfold OL at a;go_enter func204,ntmps204;go_wp21;refine(ni E [mX] _ (by decide)).mono ?_;rintro e w ⟨U,K,rfl,u,F⟩;replace H:=H.k0 F;go_wp21;refine(ze H.rel).mono ?_;rintro e w ⟨V,N,rfl,z,h⟩;replace H:=H.k0 h;have C:=vq H.rel _ _ _ _ (u.k0 h) z;cases hc:d.inScope (hH [mX]) Ct with
 |true=>
  rw[hc]at C;replace a:Hid (R=(ou>>=λ_=>(pure ():M Unit)) d):=by
   have:=a;rw[gN hc]at this;exact fN this
  go_wp21;refine C.mono ?_;rintro e w ⟨rfl,D⟩;replace H:=H.k0 D;go_wp21;refine zV (λG=>xA H.rel G) H a HS lT ?_;rintro(_) d w H I a;go_wp2;go_end0;exact fZ a H rfl
 |false=>
  rw[hc]at C;replace a:Hid (R=(j7 mX>>=λ_=>(do ou;return ():M Unit)) d):=by
   have:=a;rw[gI (by simp[hc])]at this;exact fN this
  go_wp21;refine C.mono ?_;rintro e w ⟨rfl,D⟩;replace H:=H.k0 D;go_wp21;refine dC (ud E (iF E) mX) H a HS rfl lT ?_;rintro(_) f d w H O I a;go_wp21;refine zV (λG=>xA H.rel G) H a HS lT ?_;rintro(_) d w H I a;go_wp2;go_end0;exact fZ a H rfl
def ON (E:Env):jT E 140 (λ_=>#[Bp E]) vn bV:=by
 refine mI λf F w R a HS H=>?_;unfold vn at a;go_enter func140,ntmps140;go_wp21;refine(ni E [iS] _ (by decide)).mono ?_;rintro e w ⟨k1,U,rfl,d,N⟩;replace H:=H.k0 N;go_wp21;refine(tM E _).mono ?_;rintro e w ⟨k3,V,rfl,h,z⟩;replace H:=H.k0 z;replace d:=d.k0 z;go_wp21;refine(qL E _).mono ?_;rintro e w ⟨k4,X,rfl,G,u⟩;replace H:=H.k0 u;replace d:=d.k0 u;replace h:=h.k0 u;go_wp21;refine(Sl E _ _ _ _ _ h G).mono ?_;rintro e w ⟨k5,Y,rfl,I,C⟩;replace H:=H.k0 C;replace d:=d.k0 C;go_wp21;refine(aaA E _ _ _ I).mono ?_;rintro e w ⟨k6,Z,rfl,K,D⟩;replace H:=H.k0 D;replace d:=d.k0 D;go_wp21;refine zV (λ_=>yn H.rel d K) H a HS mT ?_;rintro(b) F w H O a;cases b with
 |false=>
  replace a:Hid (R= .ok false F):=a;go_wp2;go_ret;exact jL a H rfl
 |true=>
  replace a:Hid (R=(xh>>=λ_=>(pure true:M Bool)) F):=a;go_wp21;refine zV (λ_=>TZ H.rel) H a HS mT ?_;rintro(_) F w H O a;go_wp2;go_ret;exact jL a H rfl
def SQ:gn->Bool:=λs=>kQ s&&!hH [jI,mX] s
def um (ks:List gn) (m:Nat) (t:gz):M Unit:=do
 ur (hH ks)
 jn t
 jD m
 return ()
def pF (rec:Nat->gz->M Unit) (ks:List gn) (a:gn) (m:Nat) (t:gz):M Unit:=do
 ur (hH ks)
 j7 a
 jD m
 jM rec t
 return ()
def FI (ks:List gn) (t:gz):M Unit:=do
 let _ <-ng (hH ks) SQ
 mV t
 return ()
def wY (rec:Nat->gz->M Unit) (b:M Bool) (t:gz):M Unit:=do
 let x <-b
 if x then (do jM rec t;return ())else return ()
def C6 (b:M Bool):M Unit:=do
 let _ <-b
 return ()
def Ask.frA {bm bs : Nat} {p : gn->Bool} (h:Ask bm v p w) (a:Fr bs w w'):Ask bm v p w':=h.fr (a.n bm)
def ZM (E:Env) (rec:Nat->gz->M Unit) (N:∀(m:Nat) (t:gz),iY E t->iU E 161 (λ_=>#[Bp E,ga m,iA E t]) (rec m t) uV) (t:gz) (O:iY E t) (m F G:Nat) {σ:Ab} (h:RF E f σ w) (D:rec m t σ≠ .stuck) (a:box w F (iq E.bB) 117) (d:box w G (ga m) 173):
  Calls prog 170 #[iA E t,iq F,iq G] w (Leaves E f σ.nodes.length w (rec m t σ) uV):=by
 have u:=fN a;have z:=fN d;clear a d;obtain⟨R,C⟩:∃R,R=rec m t σ:=⟨_,rfl⟩;rw[<-C]at D|-;have HS:=D;have H:=fN (At.start h);have e:=fN (M.tail C);clear h D C;have I:=fO (box.fr u.out (H.out.fr.n E.bm) (by decide)) 0;have K:=fO (box.fr z.out (H.out.fr.n E.bm) (by decide)) 0;dsimp at I K;go_enter func170,ntmps170;go_wp21;refine dC (N m t O) H e HS rfl lT ?_;clear H e;rintro(_) f σ w H V U e;go_wp2;go_end0;exact fZ e H rfl
def F2 (E:Env) (t:gz) (ht:iY E t) (ks:List gn) (m I K N:Nat) (k:Nat) (lb:jE) {σ:Ab} (h:RF E f σ w) (O:(um ks m t) σ≠ .stuck) (u:box w I (iq E.bB) 117) (z:box w K (.func (.func k) #[] lb) 85) (Z:Ask E.bm (.func (.func k) #[] lb) (hH ks) w) (C:box w N (ga m) 173):
  Calls prog 214 #[iA E t,iq I,iq K,iq N] w (Leaves E f σ.nodes.length w ((um ks m t) σ) uV):=by
 have a:=fN u;clear u;have F:=fN z;clear z;have G:=fN C;clear C;have V:=Z;obtain⟨R,D⟩:∃R,R=(um ks m t) σ:=⟨_,rfl⟩;rw[<-D]at O|-;unfold um at D;have HS:=O;have H:=fN (At.start h);have d:=fN D;clear D;have e:=fO (box.fr a.out (H.out.fr.n E.bm) (by decide)) 0;have X:=fO (box.fr F.out (H.out.fr.n E.bm) (by decide)) 0;dsimp at e X;go_enter func214,ntmps214;go_wp21;refine zV (λ_=>D8 H.rel (V.frA H.fr)) H d HS lT ?_;rintro(_) σ w H U d;have e:=fO (box.fr a.out (H.out.fr.n E.bm) (by decide)) 0;dsimp at e;go_wp21;refine dC (kO E (iF E) t ht) H d HS rfl lT ?_;rintro(_) f σ w H HX U d;have e:=fO (box.fr a.out (H.out.fr.n E.bm) (by decide)) 0;have Y:=fO (box.fr G.out (H.out.fr.n E.bm) (by decide)) 0;dsimp at e Y;have c4:=H.ru;have f4:=H.free 192;have hl:=H.lt;replace H:=fN (H.iW m);go_wp2;go_end0;exact fZ d H rfl
def De (E:Env) (rec:Nat->gz->M Unit) (hA:∀(m:Nat) (t:gz),iY E t->iU E 161 (λ_=>#[Bp E,ga m,iA E t]) (rec m t) uV) (t:gz) (ht:iY E t) (ks:List gn) (a:gn) (m K Y Z b4:Nat) (k:Nat) (lb:jE) {σ:Ab} (h:RF E f σ w) (hs:(pF rec ks a m t) σ≠ .stuck) (D:box w K (iq E.bB) 117) (F:box w Y (.func (.func k) #[] lb) 85) (ha:Ask E.bm (.func (.func k) #[] lb) (hH ks) w) (G:box w Z (gw a) 9) (I:box w b4 (ga m) 173):
  Calls prog 216 #[iA E t,iq K,iq Y,iq Z,iq b4] w (Leaves E f σ.nodes.length w ((pF rec ks a m t) σ) uV):=by
 have d:=fN D;clear D;have O:=fN F;clear F;have U:=fN G;clear G;have V:=fN I;clear I;have Ha:=ha;obtain⟨R,N⟩:∃R,R=(pF rec ks a m t) σ:=⟨_,rfl⟩;rw[<-N]at hs|-;unfold pF at N;have HS:=hs;have H:=fN (At.start h);have u:=fN N;clear N;have z:=fO (box.fr d.out (H.out.fr.n E.bm) (by decide)) 0;have c2:=fO (box.fr O.out (H.out.fr.n E.bm) (by decide)) 0;dsimp at z c2;go_enter func216,ntmps216;go_wp21;refine zV (λ_=>D8 H.rel (Ha.frA H.fr)) H u HS lT ?_;rintro(_) σ w H X u;have z:=fO (box.fr d.out (H.out.fr.n E.bm) (by decide)) 0;have c3:=fO (box.fr U.out (H.out.fr.n E.bm) (by decide)) 0;dsimp at z c3;go_wp21;refine dC (ud E (iF E) a) H u HS rfl lT ?_;rintro(_) f σ w H HX X u;have z:=fO (box.fr d.out (H.out.fr.n E.bm) (by decide)) 0;have c5:=fO (box.fr V.out (H.out.fr.n E.bm) (by decide)) 0;dsimp at z c5;have c4:=H.ru;have f4:=H.free 192;have hl:=H.lt;have a0:K≠E.bB:=by
  intro e;have h1:w.heap[K]?=_:=box.fr d (H.fr.n E.bm) (by decide);have⟨L,_,hr⟩:=H.rel;have⟨C,hb⟩:=hr.Th;rw[e,hb]at h1;simp at h1
 replace H:=fN (H.iW m);go_wp21;refine dC (sU E rec hA t ht) H u HS rfl lT ?_;rintro(_) f σ w H HX X u;go_wp2;go_end0;exact fZ u H rfl
def NA (E:Env) (t:gz) (ht:iY E t) (ks:List gn) (X Y Z:Nat) (k1 k2:Nat) (C D:jE) {σ:Ab} (h:RF E f σ w) (hs:(FI ks t) σ≠ .stuck) (e:box w X (iq E.bB) 117) (u:box w Y (.func (.func k1) #[] C) 85) (U:Ask E.bm (.func (.func k1) #[] C) (hH ks) w) (z:box w Z (.func (.func k2) #[] D) 85) (V:Ask E.bm (.func (.func k2) #[] D) SQ w):
  Calls prog 271 #[iA E t,iq X,iq Y,iq Z] w (Leaves E f σ.nodes.length w ((FI ks t) σ) uV):=by
 have d:=fN e;clear e;have K:=fN u;clear u;have N:=fN z;clear z;have G:=U;have I:=V;obtain⟨R,F⟩:∃R,R=(FI ks t) σ:=⟨_,rfl⟩;rw[<-F]at hs|-;unfold FI at F;have HS:=hs;have H:=fN (At.start h);have a:=fN F;clear F;have O:=fO (box.fr d.out (H.out.fr.n E.bm) (by decide)) 0;have c2:=fO (box.fr K.out (H.out.fr.n E.bm) (by decide)) 0;have c3:=fO (box.fr N.out (H.out.fr.n E.bm) (by decide)) 0;dsimp at O c2 c3;go_enter func271,ntmps271;go_wp21;refine zV (λ_=>yn H.rel (G.frA H.fr) (I.frA H.fr)) H a HS lT ?_;rintro(_) σ w H HF a;have O:=fO (box.fr d.out (H.out.fr.n E.bm) (by decide)) 0;dsimp at O;go_wp21;refine dC (vk E (iF E) t ht) H a HS rfl lT ?_;rintro(_) f σ w H HX HF a;go_wp2;go_end0;exact fZ a H rfl
def Z4 (E:Env) (t:gz) (b:M Bool) (k:Nat) (I:jT E k (λ_=>#[Bp E]) b bV) (G:∀a w,(callFunc k a).run prog w= .ok (.enter k a) w) (C:Nat) {σ:Ab} (h:RF E f σ w) (D:(C6 b) σ≠ .stuck) (d:box w C (.func (.func k) #[iq E.bB] #[]) 62):
  Calls prog 222 #[iA E t,iq C] w (Leaves E f σ.nodes.length w ((C6 b) σ) uV):=by
 have z:=fN d;clear d;obtain⟨R,e⟩:∃R,R=(C6 b) σ:=⟨_,rfl⟩;rw[<-e]at D|-;unfold C6 at e;have HS:=D;have H:=fN (At.start h);have u:=fN e;clear e;have F:=fO (box.fr z.out (H.out.fr.n E.bm) (by decide)) 0;dsimp at F;go_enter func222,ntmps222;go_wp21;refine mC (I) H u HS rfl lT ?_;rintro(_) σ w H K u;go_wp2;go_end0;exact fZ u H rfl
def MF (E:Env) (rec:Nat->gz->M Unit) (V:∀(m:Nat) (t:gz),iY E t->iU E 161 (λ_=>#[Bp E,ga m,iA E t]) (rec m t) uV) (t:gz) (Z:iY E t) (b:M Bool) (k:Nat) (Y:jT E k (λ_=>#[Bp E]) b bV) (X:∀d w,(callFunc k d).run prog w= .ok (.enter k d) w) (F G:Nat) {σ:Ab} (h:RF E f σ w) (I:(wY rec b t) σ≠ .stuck) (e:box w F (iq E.bB) 117) (u:box w G (.func (.func k) #[iq E.bB] #[]) 62):
  Calls prog 217 #[iA E t,iq G,iq F] w (Leaves E f σ.nodes.length w ((wY rec b t) σ) uV):=by
 have C:=fN e;clear e;have D:=fN u;clear u;obtain⟨R,z⟩:∃R,R=(wY rec b t) σ:=⟨_,rfl⟩;rw[<-z]at I|-;unfold wY at z;have HS:=I;have H:=fN (At.start h);have a:=fN z;clear z;have O:=fO (box.fr D.out (H.out.fr.n E.bm) (by decide)) 0;dsimp at O;go_enter func217,ntmps217;go_wp21;refine mC (Y) H a HS rfl lT ?_;rintro(N) σ w H K a;have U:=fO (box.fr C.out (H.out.fr.n E.bm) (by decide)) 0;dsimp at U;cases N with
 |true=>
  replace a:Hid (R=(jM rec t>>=λ_=>(pure ():M Unit)) σ):=a;go_wp21;refine dC (sU E rec V t Z) H a HS rfl lT ?_;rintro(_) f σ w H HX K a;go_wp2;go_end0;exact fZ a H rfl
 |false=>
  replace a:Hid (R= .ok () σ):=a;go_wp2;go_end0;exact fZ a H rfl
def Rel.acu {L : Loc} {σ:Ab} (h:Rel E L σ w) (s:gn) (p:Bool):Rel E L {σ with nD:=s,iX:=p} ((w.setCell ⟨E.bR,E.Eh,none⟩ (gw s)).setCell ⟨E.bR,E.Eh+1,none⟩ (.bool p)):=by
 have z:Kept [E.bR] w ((w.setCell ⟨E.bR,E.Eh,none⟩ (gw s)).setCell ⟨E.bR,E.Eh+1,none⟩ (.bool p)):=((Kept.refl _ w).setCell (.inl (by simp)) _).setCell (.inl (by simp)) _;have d:KT E.bs [161] w ((w.setCell ⟨E.bR,E.Eh,none⟩ (gw s)).setCell ⟨E.bR,E.Eh+1,none⟩ (.bool p)):= .jC z (λk z _=>by simp at z;subst z;exact⟨⟨_,_,_,h.rd,by simp⟩,h.bR⟩);obtain⟨C,F,a⟩:=h.ik;have D:=fV (fV h.rd E.Eh (gw s)) (E.Eh+1) (.bool p);have H:=h.P9;exact {h with
  fr:=h.fr.trans (d.fr (by decide))
  su:=λi I G=>(h.su i I G).kt d (by decide)
  inj:=h.inj,AL:=h.AL,FJ:=h.FJ,uq:=h.uq,D0:=h.D0
  wf:=⟨h.wf.gq,h.wf.act,h.wf.head,h.wf.form,h.wf.ja,h.wf.kids,h.wf.wK⟩
  ik:=⟨C,d.at F (by decide),⟨a.size,a.low,a.gq,a.act,a.head,a.form,a.mode,a.kept,a.wait,a.H6,a.jB,a.gH,a.behind⟩⟩
  oP:=d.row h.oP (by decide)
  pR:=d.row h.pR (by decide)
  FP:=h.FP,wC:=h.wC,D7:=h.D7
  oL:=d.row h.oL (by decide)
  bz:=h.bz,bB:=h.bB,bR:=h.bR,bN:=h.bN
  rd:=by
   rw[D]
   congr 2
   apply Array.ext_getElem?;intro i;by_cases e:E.Eh+1=i
   .subst e;rw[NX (by simp;omega),NX (by simp;omega)]
   .rw[DW e,DW e];by_cases u:E.Eh=i
    .subst u;rw[NX (by simp;omega),NX (by omega)]
    .rw[DW u,DW e,DW u,DW u]
  tok:=d.row h.tok (by decide)
  KG:=h.KG,Ck:=h.Ck,ab:=h.ab,tb:=h.tb,KI:=h.KI}
theorem Rel.vX {L : Loc} {σ:Ab} (h:Rel E L σ w):w.cell? ⟨E.bR,E.Eh,none⟩=some (gw σ.nD)/\w.cell? ⟨E.bR,E.Eh+1,none⟩=some (.bool σ.iX)/\(∀j,w.frozen? ⟨E.bR,j,none⟩=false)/\E.bR < w.heap.size:=by
 have a:=h.P9;refine⟨?_,?_,λj=>gu h.rd j,je h.rd⟩
 .rw[fO h.rd,DW (by omega)];grind
 .rw[fO h.rd];grind
theorem UL (E:Env) (C:E.Eh=7) {σ:Ab} (h:RF E f σ w) (s:gn) (p:Bool):
  Calls prog 45 #[gF E.bR,gw s,.bool p] w λe w'=>e=o9/\RF E f {σ with nD:=s,iX:=p} w'/\Fr E.bs w w':=by
 obtain⟨L,rfl,a⟩:=h;have⟨c1,c2,fz,hl⟩:=a.vX;have z:=a.acu s p;have u:Fr E.bs w ((w.setCell ⟨E.bR,E.Eh,none⟩ (gw s)).setCell ⟨E.bR,E.Eh+1,none⟩ (.bool p)):= .jC (((Kept.refl [E.bR] w).setCell (.inl (by simp)) _).setCell (.inl (by simp)) _) (λk d=>by simp at d;subst d;exact⟨⟨_,_,_,a.rd,by decide⟩,a.bR⟩);rw[C]at c1 c2 z u;have D:=fz 7;have F:=fz 8;go_enter func45,ntmps45;go_wp2;go_end0;grind[RF]
def At.c3 {d : Nat->Nat} {e : Nat} {σ:Ab} (h:At E d e w0 f σ w):w.cell? ⟨E.bB,3,none⟩=some (.func (.func 45) #[gF E.bR] #[]):=by
 obtain⟨L,rfl,a⟩:=h.rel;exact a.low (by decide) a.env.txt
def IQ (E:Env) (N:E.Eh=7) (t:gz) (V:iY E t) (a:Bool):iU E 175 (λ_=>#[Bp E,iA E t,.bool a]) (nT t a) uV:=by
 refine dI λf G w R z HS H=>?_;unfold nT at z;go_enter func175,ntmps175;go_wp21;refine dC (kO E (iF E) t V) H z HS rfl lT ?_;rintro(_) f G w H Z Y z;have⟨ta,tb,tao,tn,tcp,HTG⟩:=DL E t H.rel;have K:=λw=>Am ta tb t.name tao tn tcp w;have I:=H.c3;have O:=H.lt;have C:=I;go_wp21
 go_region_with (first
  |(go_at_call 167;refine(HTG _).mono ?_;rintro e X ⟨rfl,u⟩;have h:=fN (((Kept.refl [] w).drew).trans u);have d3:X.cell? ⟨E.bB,3,none⟩=_:=(h.cell (p:=⟨E.bB,3,none⟩) O (by simp)).trans C;clear u)
  |(go_at_call 45;refine(UL E N (H.k0 h).rel t.name a).mono ?_;rintro e w4 ⟨rfl,D,F⟩;have d:=fN ((H.k0 h).to D (rS _ _ rfl) F);clear D F))
 all_goals
  have c2:=d.ru;have f2:=d.free 192;have c4:=d.Rh;have f4:=d.free 193;have U:=d.lt;replace d:=(d.xU G.mode).iW 5;go_wp2;go_end0;exact fZ z d rfl
def F1 (E:Env) (d:E.Eh=7) (t:gz) (e:iY E t):iU E 101 (λ_=>#[Bp E,iA E t]) (tV t) uV:=by
 refine dI λf h w R a HS H=>?_;unfold tV at a;go_enter func101,ntmps101;go_wp21;refine dC (IQ E d t e false) H a HS rfl lT ?_;rintro(_) f h w H z u a;go_wp2;go_end0;exact fZ a H rfl
def EI (E:Env) (d:E.Eh=7) (t:gz) (e:iY E t):iU E 102 (λ_=>#[Bp E,iA E t]) (oK t) uV:=by
 refine dI λf h w R a HS H=>?_;unfold oK at a;go_enter func102,ntmps102;go_wp21;refine dC (IQ E d t e true) H a HS rfl lT ?_;rintro(_) f h w H z u a;go_wp2;go_end0;exact fZ a H rfl
def Gp (E:Env) (d:E.Eh=7) (t:gz) (e:iY E t):iU E 191 (λ_=>#[Bp E,iA E t]) (pQ t) uV:=by
 refine dI λf h w R a HS H=>?_;unfold pQ at a;go_enter func191,ntmps191;go_wp21;refine dC (F1 E d t e) H a HS rfl lT ?_;rintro(_) f h w H z u a;have C:=H.Xe;have D:=H.free 198;have F:=H.lt;replace H:=H.rV true;go_wp2;go_end0;exact fZ a H rfl
def Yr {σ:Ab} (h:RF E f σ w) (x:jb) (a:j8 x σ≠ .stuck):
  Calls prog 177 #[lK E.bB 188,oV f x] w λe w'=>e=o9/\j8 x σ= .ok () {σ with gq:=σ.gq.erase x}/\RF E f {σ with gq:=σ.gq.erase x} w'/\Fr E.bs w w':=by
 have:=Dy E x f σ w h a;unfold j8 at this a|-;by_cases d:σ.gQ x=true
 .rw[gN d]at this|-;exact this.mono (λe w' h=>⟨h.1,rfl,h.2.1,h.2.2.1⟩)
 .rw[gI d]at a;exact absurd rfl a
def Mm (E:Env) (rec:Nat->gz->M Unit) (U:∀(m:Nat) (t:gz),iY E t->iU E 161 (λ_=>#[Bp E,ga m,iA E t]) (rec m t) uV) (t:gz) (Y:iY E t):iU E 106 (λ_=>#[Bp E,iA E t]) (tu rec t) uV:=by
 refine dI λf d w R h HS H=>?_;unfold tu at h;go_enter func106,ntmps106;have O:=H.UQ;have V:=H.lt;go_wp21;refine zV (λX=>(show Calls prog 176 #[Bp E,oV f d.head] w (jS E f d.nodes.length w (pushHead d) uV)from Nl E d.head f d w H.rel X)) H h HS lT ?_;rintro(_) d w H I h;go_wp21;refine dC (U 3 t Y) H h HS rfl lT ?_;rintro(_) f d w H Z I h;have O:=H.UQ;have V:=H.lt;have z:j8 d.head d≠ .stuck:=by
  intro C;apply HS;rw[h.out,M.gm];unfold po;rw[C]
 have u:=Yr (H.k0 ((Kept.refl _ w).drew)).rel d.head z;go_wp21
 go_region_with (go_at_call 177;refine u.mono ?_;rintro e w5 ⟨rfl,D,F,G⟩;have N:=fN ((H.k0 ((Kept.refl _ w).drew)).to F (rS _ _ rfl) G);have K:=fN D;clear D F G)
 all_goals
  go_wp2;go_end0;refine fZ (σ:={d with gq:=d.gq.erase d.head}) (a:=()) ?_ N rfl;rw[h.out,M.gm];unfold po;rw[K.out];rfl
def OJ (E:Env) (i:Nat) {σ:Ab} (h:RF E f σ w) (K:io σ.gq 0=some i) (I:jt i σ≠ .stuck):Calls prog 144 #[Bp E] w (jS E f σ.nodes.length w (jt i σ) pV):=by
 obtain⟨R,F⟩:∃R,R=jt i σ:=⟨_,rfl⟩;have z:=(h.ib ((Kept.refl _ w).alloc Q5)).atO 0;rw[K]at z;have C:=(show Calls prog 238 #[lK E.bB 188,ga 0] (w.alloc Q5) (λe w'=>e=ir (gF (f i))/\w'=w.alloc Q5)from z);rw[<-F]at I|-;have HS:=I;have H:=(At.start h).k0 ((Kept.refl _ w).alloc Q5);have D:=fN (M.tail F);have Y:=fQ w Q5;have a0:=h.lt;clear h I F K z;go_enter func144,ntmps144;go_wp21;refine C.mono ?_;rintro e w' ⟨rfl,rfl⟩;go_wp21;refine jT.call (Fv E i) H D HS rfl ?_ ?_
 .intro c p j ws d V X;have U:=fN d;clear d;go_wp2;exact⟨rfl,tK U V X⟩
 rintro u a1 w1 d N O;have a:=N.cell Y (by decide);have Z:=fO a 0;have c1:=fO a 1;have f0:=gu a 0;have f1:=gu a 1;dsimp at Z c1;replace H:=((d.side a (by decide) (gW _) 0 (gF (f u.1))).side (fV a 0 _) (by decide) (gW _) 1 (ga u.2));replace D:=fN O;have G:=fN (fV (fV a 0 (gF (f u.1))) 1 (ga u.2));clear d N O;go_wp2;refine o0 (v:=pV f u) ?_ rfl (jL D H rfl);simp[results,results144,asAddr,Result.andThen,go_sem,fO G.out]
def Ny (t:gz) (σ:Ab):qQ t σ=(um [gX] 13 t>>=λ_=>(do lj none;return ():M Unit)) σ:=by
 unfold qQ um;rw[M.gm,M.gm,M.gm];cases ur (hH [gX]) σ with
 |ok a σ1=>
  simp only;rw[M.gm,M.gm];cases jn t σ1 with
  |ok a σ2=>rfl
  |stop c p=>rfl
  |stuck=>rfl
 |stop c p=>rfl
 |stuck=>rfl
def Qg (E:Env) (t:gz) (ht:iY E t):iU E 133 (λ_=>#[Bp E,iA E t]) (qQ t) uV:=by
 intro f K w h HS;obtain⟨R,d⟩:∃R,R=qQ t K:=⟨_,rfl⟩;rw[<-d]at HS|-;rw[Ny]at d;have H:=At.start h;have a:=fN d;have Z:=Go.Proofs.enters_of func214 (by rfl) rfl;clear d;go_enter func133,ntmps133;go_wp21;refine(T0 E _).mono ?_;rintro e w ⟨k1,a0,rfl,z,G⟩;replace H:=H.k0 G;go_wp21;refine(AO E.bm E.bB 0 [gX] 13 _ _ z).mono ?_;rintro e w ⟨⟨v,rfl,V,X,Y,u,rfl,C,D,N,F⟩,hk⟩;obtain⟨k2,I,rfl,_,_⟩:=N.call;replace H:=H.k0 hk;have O:=(λhm=>F2 E t ht [gX] 13 V X Y k2 I H.rel hm C D N F);go_wp21;refine dcH (O) H a HS lT ?_;rintro(_) f K w H HX U a;go_wp21;refine mC (zD E) H a HS rfl lT ?_;rintro(_) K w H U a;go_wp2;go_end0;exact fZ a H rfl
def acP:(prog.info? 121).map (λi=>(i.zero,i.size,i.bytes))=some (some .nilIface,1,16):=by kernel_rfl
theorem Rel.aer {L : Loc} {σ:Ab} (h:Rel E L σ w) {C : jE} (D:jq E L σ C) (v':gG) (u:List (Nat×Nat×gn)) (d:w'.heap[E.bB]?=some (gy (C.setIfInBounds 194 v') 176)) (a:KT E.bs [176,121] w w') (e:w'.ownsRow E.bs 121 1 v' u.length (u.map Mu)) (z:u.length<=4096) (G:E.wv=none):Rel E {L with wv:=v'} {σ with waiting:=u} w':=
 {fr:=h.fr.trans (a.fr (by decide))
  env:=h.env
  Dt:=h.Dt
  su:=λi H F=>((h.su i H F).kt a (by decide)).loc rfl rfl rfl
  inj:=h.inj,AL:=h.AL,FJ:=h.FJ,uq:=h.uq,D0:=h.D0
  wf:=⟨h.wf.gq,h.wf.act,h.wf.head,h.wf.form,h.wf.ja,h.wf.kids,h.wf.wK⟩
  ik:=⟨_,d,D.YV v' u⟩
  oP:=a.row h.oP (by decide)
  pR:=a.row h.pR (by decide)
  FP:=h.FP,wC:=h.wC,D7:=h.D7
  oL:=e
  KJ:=z
  rd:=a.at h.rd (by decide)
  P9:=h.P9
  tok:=a.row h.tok (by decide)
  KG:=h.KG,bz:=h.bz,bB:=h.bB,bR:=h.bR,bN:=h.bN,Ck:=h.Ck,ab:=h.ab,tb:=h.tb,KI:=λv I=>by grind}
theorem RZ (E:Env) (a4:E.wv=none) (t:gz):iU E 126 (λ_=>#[Bp E,iA E t]) (oC t) uV:=by
 intro f d w h O;have⟨a,b,k,gx⟩:=t;cases k with
 |jW s=>
  have V:=Io E ⟨a,b,.jW s,gx⟩ w;cases hn:sM s with
  |true=>
   have hm:oC ⟨a,b,.jW s,gx⟩ d= .ok () d:=by unfold oC;simp only;rw[hn];rfl
   rw[hm];have G:sM (gz.chars ⟨a,b,.jW s,gx⟩)=true:=hn;rw[G]at V;have H:=At.start h;clear G;go_enter func126,ntmps126;go_wp21;refine V.mono ?_;rintro e w ⟨rfl,D⟩;replace H:=H.k0 D;go_wp2;go_end0;exact fZ rfl H rfl
  |false=>
   have a0:d.waiting.length < 4096:=by
    by_cases hl:d.waiting.length < 4096
    .exact hl
    .exfalso;apply O;unfold oC;simp_all
   have hm:oC ⟨a,b,.jW s,gx⟩ d= .ok () {d with waiting:=d.waiting++[(a,b,s)]}:=by unfold oC;simp only;rw[hn];simp[a0]
   rw[hm];have G:sM (gz.chars ⟨a,b,.jW s,gx⟩)=false:=hn;rw[G]at V;obtain⟨L,rfl,HR⟩:=h;clear G;rw[show iA E ⟨a,b,.jW s,gx⟩= .iface 184 (.agg #[ga a,ga b,gw s])from rfl]at V|-;go_enter func126,ntmps126;go_wp21;refine V.mono ?_;rintro e w0 ⟨rfl,D⟩;have I:=HR.ib D;have HF:=Fr.gP (bs:=E.bs) D;have c1:=I.ZQ;have aa:=I.lt;have⟨C,HBB,G⟩:=I.ik;obtain⟨i0,hi,a5,a6,a7⟩:=tj acP;have⟨ao,cap,hwv⟩:=gv I.oL;rw[hwv]at c1;have Y:Kept [] w0 (w0.alloc (gy #[Mu (a,b,s)] 121)):=(Kept.refl _ _).alloc _;have HO:=Y.ownsRow I.oL (λ_ _=>by simp);rw[hwv]at HO;have K:(Value.slice ao d.waiting.length cap).ownBlock≠some E.bB:=by rw[<-hwv];exact BU I.oL HBB (by decide)
   have a3:=fN (fQ w0 (gy #[Mu (a,b,s)] 121));have F:=fN I;have X:=fN G;have Z:=fN hwv;clear I G hwv;go_wp2_with (at_builtin;refine ij _ rfl _ _ 174 rfl E.bs 121 i0 .nilIface 1 16 underlying174 hi a5 a6 a7 rfl (by decide) (.slice ao d.waiting.length cap) d.waiting.length (d.waiting.map Mu) rfl HO ⟨w0.heap.size,0,none⟩ 1 1 [Mu (a,b,s)] rfl rfl (λk u hu=>by rw[js,fO a3.out,<-hu];simp) (λu hu=>by simp at hu;subst hu;rfl) (by unfold maxLen;omega) (by omega) (by have h7:=F.bz;have h8:=F.fr.size;simp;omega) ?_);intro v' w2 z N a8;have K2:Kept (Value.slice ao d.waiting.length cap).ownBlock.toList w0 w2:=(Y.mono (by simp)).grown N (λk D=> .inl (by rw[D];simp));have b2:w2.heap[E.bB]?=some (gy C 176):=K2.at HBB (by simpa using K);have⟨ao',cap',hv⟩:=gv z;subst hv;have d1:w2.cell? ⟨E.bB,194,none⟩=some (.slice ao d.waiting.length cap):=by rw[fO b2,X.out.wait,Z.out]
   have d2:=gu b2 194;have a9:=je b2;have h3:=fV b2 194 (.slice ao' (d.waiting.length+1) cap');have a1:(Value.slice ao' (d.waiting.length+1) cap').ownBlock≠some E.bB:=BU z b2 (by decide);have h4:=yb (a:=⟨E.bB,194,none⟩) z a1 (.slice ao' (d.waiting.length+1) cap');have h5:Kept (E.bB::(Value.slice ao d.waiting.length cap).ownBlock.toList) w0 (w2.setCell ⟨E.bB,194,none⟩ (.slice ao' (d.waiting.length+1) cap')):=(K2.mono (λk D _=>pX _ D)).setCell (.inl (by simp)) _;have kt:KT E.bs [176,121] w0 (w2.setCell ⟨E.bB,194,none⟩ (.slice ao' (d.waiting.length+1) cap')):= .jC h5 (λk D _=>by
    rcases List.mem_cons.1 D with rfl|D
    .exact⟨⟨_,_,_,HBB,by simp⟩,F.bB⟩
    .have U:=F.oL;rw[Z.out]at U;obtain⟨c,m,hc⟩:=rL U (by simpa using D);exact⟨⟨_,_,_,hc,by simp⟩,(U.lt k (by simpa using D)).1⟩)
   have HZ:=F.aer X (.slice ao' (d.waiting.length+1) cap') (d.waiting++[(a,b,s)]) h3 kt (by simpa using h4) (by simp;omega) a4;have a2:=HF.trans (kt.fr (by decide));go_wp2;go_end0;exact⟨L.gH,λ_ _=>rfl,gW _,rfl,⟨{L with wv:= .slice ao' (d.waiting.length+1) cap'},rfl,HZ⟩,a2⟩
 |start s=>exact absurd rfl O
 |stop s=>exact absurd rfl O
 |gJ s=>exact absurd rfl O
 |iH s q=>exact absurd rfl O
 |lost=>exact absurd rfl O
 |ie=>exact absurd rfl O
def KO {α:Type} (n:Nat) (P:Program) (g:Nat) (lb:jE) (d:α->jE) (Kp:gr->gr->Prop) (S Sp:List α->Prop) (N:Nat) (w:gr):Prop:=
 ∀(l:Nat) (J h:List α->gr->Prop) (W:gr),Below w.heap.size w W->OwnFrom W.heap.size J->OwnFrom W.heap.size h->
  (∀pre x a,J pre a->pre.length < N->YieldAt Fence.wide (n - 1) P l (d x) a λe W'=>(e=ir (.bool true)/\J (pre++[x]) W'/\Kp a W'/\KeepsFrom W.heap.size a W')\/(e=ir (.bool false)/\h (pre++[x]) W'/\KeepsFrom W.heap.size a W'))->
  J [] W->CallsIn Fence.wide n P g (#[.func (.yield l) #[] #[]]++lb) W λe W'=>(∃v,e=ir v)/\((∃xs,S xs/\J xs W')\/(∃pre,Sp pre/\h pre W'))
theorem IR {d : jb} {a : Nat} (u:A.grownBy B d) (C:∀r,d=some r->a<=r/\∃o:Obj,A.heap[r]?=some o/\o.isCells=false) (h:A.heap[k]?=some o) (z:k < a):B.heap[k]?=some o:=
 (u.block k (Array.getElem?_eq_some_iff.1 h).1 (λe=>by grind)).trans h
theorem uh {a : gr} {u : Obj} (C:l < b) (h:KeepsFrom (l - 1) (W.putObj l o) a):KeepsFrom b W (a.putObj l u):=by
 refine⟨?_,λk q z e d=>?_⟩
 .have:=h.size;simp_all
 .rw[rG (by omega)];exact h.same k q (by omega) ((rG (by omega)).trans e) d
theorem QJ {α:Type} {P:Program} {g:Operand} {ps:Array Tmp} {Q:Exit->Act->gr->Prop} {a : Act}
  (h1:1<=n) {gf : Nat} (hg:a.eval g= .func (.func gf) #[] lb) (eg:∀a5 w,(callFunc gf a5).run P w= .ok (.enter gf a5) w)
  {H:α->jE} {Kp : gr->gr->Prop} {S Sp:List α->Prop} {N : Nat} (ae:KO (n - 1) P gf lb H Kp S Sp N w0)
  (ab:∀{A B C:gr},Kp A B->Kp B C->Kp A C) (aa:∀(W:gr) (l:Nat) (o o':Obj),w.heap.size<=l->W.heap[l]?=some o->o.isCells=false->o.isWalk=false->Kp W (W.putObj l o')) (ac:Below w0.heap.size w0 w) (aq:∀x,(H x).size=ps.size)
  (I:List α->gr->Prop) (Ix:Code->List α->gr->Prop) (hI:OwnFrom w.heap.size I) (a0:∀c,OwnFrom w.heap.size (Ix c)) (h0:I [] w) (a6:α->Act)
  (a1:∀(l:Nat) (x:α) (W:gr) (K:Act->gr->Prop),K (a6 x) W->assign.wpIn (Fence.wide.inRound l) (n - 1 - 1) P (Exit.then K (λ_ _ _=>False)) {tmps:=(ps.zip (H x)).foldl (λt (p,v)=>t.setIfInBounds p v) a.tmps,defers:=[]} W)
  (a7:∀(l:Nat) (pre:List α) (x:α) (W:gr),I pre W->pre.length < N->body.wpIn (Fence.wide.inRound l) (n - 1 - 1) P (ownPostG w.heap.size Kp I Ix (pre++[x]) W) (a6 x) W)
  (a8:∀(D:Nat) (xs:List α) (W:gr),w.heap.size<=D->S xs->I xs W->W.heap[D]?=some (.deferred (some []))->Q .normal {a with defers:={target:= .collected D,args:=#[]}::a.defers} W)
  (a9:∀(D:Nat) (c:Code) (pre:List α) (W:gr),w.heap.size<=D->Sp pre->Ix c pre W->W.heap[D]?=some (.deferred (some []))->c.wpIn Fence.wide n P Q {a with defers:={target:= .collected D,args:=#[]}::a.defers} W):
  (Code.rangeFunc g ps assign body).wpIn Fence.wide n P Q a w:=by
 refine wpIn_rangeFunc ?_;intro fn ak;obtain⟨h,u⟩:∃h:LoopState->Option Code->Loop,h=λst pe=>{state:=st,pending:=pe,fn,tmps:=a.tmps,params:=ps,assign,body,defers:=w.heap.size}:=⟨_,rfl⟩;obtain⟨X,O⟩:∃X,(w.alloc (.deferred (some []))).alloc (.loop (h .ready none))=X:=⟨_,rfl⟩;have ar:X.heap.size=w.heap.size+2:=by rw[<-O];simp
 have ah:X.heap[w.heap.size+1]?=some (.loop (h .ready none)):=by
  rw[<-O];have:=EU (w.alloc (.deferred (some []))) (.loop (h .ready none));rwa [yc]at this
 have ag:X.heap[w.heap.size]?=some (.deferred (some [])):=by
  rw[<-O];exact(Below.heap_alloc _ _ _ (by simp)).trans (EU w _)
 have af:I [] X:=by rw[<-O];exact hI.alloc _ (hI.alloc _ h0)
 have aj:Below w0.heap.size w0 X:=by
  rw[<-O];exact ac.trans ((((Below.refl _ w).alloc (gW _) _).alloc (by simp) _).mono ac.size)
 refine⟨w.heap.size+1,[{target:= .collected w.heap.size,args:=#[]}],X,{target:= .fn (.func gf) lb,args:=#[.func (.yield (w.heap.size+1)) #[] #[]]},X,gf,
  #[.func (.yield (w.heap.size+1)) #[] #[]]++lb,X,?_,?_,?_,?_,λ_=>h1,?_⟩
 .rw[<-O,u];exact run_enterLoop_outer _ _ _ _ _
 .simp only[resolve,hg];simp[go_sem]
 .intro f' ap;trivial
 .simp[invoke,go_sem,eg]
 have lo:∀{A B:gr} {V:jb},(∀r,V=some r->X.heap.size<=r/\∃o:Obj,A.heap[r]?=some o/\o.isCells=false)->(∀r,V=some r->w.heap.size<=r/\∃o:Obj,A.heap[r]?=some o/\o.isCells=false):=
  λF r e=>⟨by grind,(F r e).2⟩
 refine(ae (w.heap.size+1)
  (λpre W=>I pre W/\W.heap[w.heap.size+1]?=some (.loop (h .ready none))/\W.heap[w.heap.size]?=some (.deferred (some [])))
  (λpre W=>∃c,Ix c pre W/\W.heap[w.heap.size+1]?=some (.loop (h .done (some c)))/\W.heap[w.heap.size]?=some (.deferred (some [])))
  X aj
  (λs A B V hs G F=>⟨hI s A B V hs.1 G (lo (B:=B) F),IR G F hs.2.1 (by omega),IR G F hs.2.2 (by omega)⟩)
  (λs A B V hs G F=>by
   have⟨c,hc,U,hk⟩:=hs;exact⟨c,a0 c s A B V hc G (lo (B:=B) F),IR G F U (by omega),IR G F hk (by omega)⟩)
  ?_ ⟨af,ah,ag⟩).mono ?_
 .rintro pre x W ⟨hi,U,hk⟩ ad;have an:w.heap.size+1 < W.heap.size:=(Array.getElem?_eq_some_iff.1 U).1;have hy:=run_yield (P:=P) (args:=H x) U (by grind);rw[u]at hy;refine⟨fn,_,assign,body,hy,roundIn_of_wpIn ak (a1 _ x W _ ?_)⟩;refine⟨_,run_beginRound U (by rw[u]),?_⟩;have am:(W.putObj (w.heap.size+1) (.loop {h .ready none with state:= .busy})).heap[w.heap.size+1]?=some (.loop {h .ready none with state:= .busy}):=Cf an;have al:(W.putObj (w.heap.size+1) (.loop {h .ready none with state:= .busy})).heap[w.heap.size]?=some (.deferred (some [])):=(rG (by omega)).trans hk;have ao:Kp W (W.putObj (w.heap.size+1) (.loop {h .ready none with state:= .busy})):=aa _ _ _ _ (by omega) U rfl rfl;refine Bk (a7 _ pre x _ (hI.putObj _ hi (by omega) U rfl) ad) ?_;have a4:∀(d:Option Code) (Y:gr),KeepsFrom w.heap.size (W.putObj (w.heap.size+1) (.loop {h .ready none with state:= .busy})) Y->
    (Instr.endRound (w.heap.size+1) d).run P Y= .ok (.bool d.isNone) (Y.putObj (w.heap.size+1) (.loop (h (if d.isNone then .ready else .done) d)))/\
    Y.heap[w.heap.size+1]?=some (.loop {h .ready none with state:= .busy})/\
    (Y.putObj (w.heap.size+1) (.loop (h (if d.isNone then .ready else .done) d))).heap[w.heap.size+1]?=some (.loop (h (if d.isNone then .ready else .done) d))/\
    (Y.putObj (w.heap.size+1) (.loop (h (if d.isNone then .ready else .done) d))).heap[w.heap.size]?=some (.deferred (some [])):=λd Y a2=>by
   have z:=a2.same _ _ (by omega) am rfl;have:=run_endRound (P:=P) d z;rw[u]at this|-;exact⟨this,by grind,Cf (Array.getElem?_eq_some_iff.1 z).1,(rG (by omega)).trans (a2.same _ _ (gW _) al rfl)⟩
  rintro e a3 Y Z;cases e with
  |normal=>
   have⟨a2,hkp3,hi3⟩:=Z;have⟨F,z,hl4,hk4⟩:=a4 none Y a2;exact⟨_,_,F,.inl ⟨rfl,⟨hI.putObj _ hi3 (by omega) z rfl,hl4,hk4⟩,ab (ab ao hkp3) (aa _ _ _ _ (by omega) z rfl rfl),uh (by omega) a2⟩⟩
  |ret=>
   have⟨F,z,hl4,hk4⟩:=a4 (some .ret) Y Z.1;exact⟨_,_,F,.inr ⟨rfl,⟨.ret,(a0 _).putObj _ Z.2 (by omega) z rfl,hl4,hk4⟩,uh (by omega) Z.1⟩⟩
  |exit id=>
   have⟨F,z,hl4,hk4⟩:=a4 (some (.exit id)) Y Z.1;exact⟨_,_,F,.inr ⟨rfl,⟨.exit id,(a0 _).putObj _ Z.2 (by omega) z rfl,hl4,hk4⟩,uh (by omega) Z.1⟩⟩
  |goto t=>
   have⟨F,z,hl4,hk4⟩:=a4 (some (.goto t)) Y Z.1;exact⟨_,_,F,.inr ⟨rfl,⟨.goto t,(a0 _).putObj _ Z.2 (by omega) z rfl,hl4,hk4⟩,uh (by omega) Z.1⟩⟩
  |panic ch=>exact Z.elim
  |outgrown=>exact Z.elim
 .rintro e W2 ⟨⟨v,rfl⟩,(⟨xs,hS,hi,U,hk⟩|⟨pre,ai,c,hi,U,hk⟩)⟩
  .exact⟨none,_,by have:=EV (P:=P) U (by rw[u];simp);rw[u]at this;exact this,a8 _ xs _ (gW _) hS (hI.putObj _ hi (by omega) U rfl) ((rG (by omega)).trans hk)⟩
  .exact⟨some c,_,by have:=EV (P:=P) U (by rw[u];simp);rw[u]at this;exact this,a9 _ c pre _ (gW _) ai ((a0 c).putObj _ hi (by omega) U rfl) ((rG (by omega)).trans hk)⟩
section
attribute [local go_sem] Oper.semAt_some
attribute [local go_sem] pW
attribute [local simp] pW
def zG:kL->List Nat
 |[]=>[]
 |none::_=>[]
 |some i::r=>i::zG r
def KC (T:List Nat) (W W':gr):Prop:=W.heap.size<=W'.heap.size/\∀(k:Nat) (c:jE) (t:TypeId) (m:Nat×Nat),k∉T->W.heap[k]?=some (.cells c t m)->W'.heap[k]?=some (.cells c t m)
def KC.trans {C : gr} (h:KC T A B) (k:KC T B C):KC T A C:=⟨jH h.1 k.1,λi c t m a d=>k.2 i c t m a (h.2 i c t m a d)⟩
def KC.put (W:gr) (l:Nat) (o u:Obj) (a:W.heap[l]?=some o) (h:o.isCells=false):KC T W (W.putObj l u):=
 ⟨by simp,λk c t m _ d=>(rG (λe=>by subst e;rw[d]at a;cases a;cases h)).trans d⟩
def VT {m z u : Nat} {P:Program} {f:FuncId} {a : jE} {R : Ending->gr->Prop} (h:RoundIn Fence.wide m P l f a assign body w R):RoundIn (Fence.wide.inRound u) z P l f a assign body w R:=⟨h.1,λc e _=>h.2 c e (λd h=>by cases h)⟩
def Tp {ys : kL}:∀{a:List Nat},a.map some <+:ys->a <+:zG ys
 |[],_=>List.nil_prefix
 |p::a,h=>by
  have⟨r,hr⟩:=h;subst hr;show p::a <+:p::zG (a.map some++r);exact(List.prefix_cons_inj p).2 (Tp ⟨r,rfl⟩)
def Tk:∀{a:List Nat},zG (a.map some)=a
 |[]=>rfl
 |p::a=>by show p::zG (a.map some)=_;rw[Tk]
def On {r : kL}:∀{a:List Nat},zG (a.map some++none::r)=a
 |[]=>rfl
 |p::a=>by show p::zG (a.map some++none::r)=_;rw[On]
theorem WX (m:Nat) (hm:5<=m) (base G:Nat) (tB:TypeId) (C:jE) (v:gG) (xs:kL) (s:Nat) (T:List Nat) (w:gr) (h:wF base G 189 tB C v xs w)
  (hs:w.heap[s]?=some (gy #[gF G] 117)) (hT:∀k∈T,k≠G/\v.ownBlock≠some k/\k < w.heap.size):
  KO m prog 342 #[gF s] (λx:{x:Nat // some x∈xs}=>#[jY (some x.1)]) (KC T) (λys=>ys.map (·.1)=zG xs.reverse) (λpre=>pre.map (·.1) <+:zG xs.reverse) xs.length w:=by
 intro l J Jx W hB HJ a9 HY H0;have ad:=je h.ik;have L1:wF base G 189 tB C v xs W:=by
  refine h.Em (K:=G::v.ownBlock.toList) (λk a=>hB.block k ?_) (by simp) (λk a=>by simp[a]);rcases List.mem_cons.1 a with rfl|a
  .exact ad
  .exact(h.row.lt k (by grind)).2
 have ar:=je hs;have ag:=(hB.block s ar).trans hs;have af:w.heap.size<=W.heap.size:=hB.size;have ap:G < W.heap.size:=mf ad af;obtain⟨z,U⟩:∃z,z=W.alloc (gy #[.func (.yield l) #[] #[]] 285):=⟨_,rfl⟩;have aa:Kept [] W z:=by rw[U];exact(Kept.refl [] W).alloc _
 have aj:z.heap[W.heap.size]?=some (gy #[.func (.yield l) #[] #[]] 285):=by rw[U];exact fQ W _
 have z1:z.heap.size=W.heap.size+1:=by rw[U];simp
 have HL:wF base G 189 tB C v xs z:=L1.Em (kj.jC (K:=G::v.ownBlock.toList) aa (λk a=>⟨by
  rcases List.mem_cons.1 a with rfl|a
  .exact ap
  .exact(L1.row.lt k (by grind)).2,by simp⟩)) (by simp) (λk a=>by simp[a])
 have c1:(W.alloc (gy #[.func (.yield l) #[] #[]] 285)).cell? ⟨s,0,none⟩=some (gF G):=by rw[<-U,fO (aa.at ag (by simp))];rfl
 have HU:=Vr base G 189 tB C v xs z HL;refine xl func342 rfl trivial ?_ rfl;simp only[ntmps342,wS,sW,wx,Nat.reduceAdd,Nat.reduceSub,wT,wU,wV,wW,sC,uT];have HW:=fN U.symm;have HZ:=fN z1;have HT:=hT;clear U z1 L1 ag h hB hs
 gi_wp2_with fail
 rw[HW.out];refine⟨λ_=>by omega,(callsIn_wide.2 HU).mono ?_⟩;rintro e w' ⟨rfl,rfl⟩;gi_wp2;have am:=HL;obtain⟨H,a2⟩:∃H,H=mx G 189 (xs.length:Int) z:=⟨_,rfl⟩;have k2:Kept [] z H:=by rw[a2];exact((Kept.refl _ _).alloc _).alloc _
 have au:H.heap.size=z.heap.size+2:=by rw[a2];simp
 have a0:wF base G 189 tB C v xs H:=HL.Em (kj.jC (K:=G::v.ownBlock.toList) k2 (λk a=>⟨by
  rcases List.mem_cons.1 a with rfl|a
  .grind
  .exact(HL.row.lt k (by simpa using a)).2,by simp⟩)) (by simp) (λk a=>by simp[a])
 have⟨b0,b1⟩:=(⟨(Below.heap_alloc _ _ _ (by simp)).trans (fQ z _),by
   have:=fQ (z.alloc (gy #[lK G 189] 276)) (gy #[ga xs.length] 3);simp_all⟩:(mx G 189 (xs.length:Int) z).heap[z.heap.size]?=some (gy #[lK G 189] 276)/\(mx G 189 (xs.length:Int) z).heap[z.heap.size+1]?=some (gy #[ga xs.length] 3))
 rw[<-a2]at b0 b1|-;have ax:=HZ.out;have gY:=k2.at aj (by simp);obtain⟨K,Z⟩:∃K,K=G::z.heap.size::v.ownBlock.toList:=⟨_,rfl⟩;have ac:∀k∈K,k < H.heap.size/\k∉T/\∃c t m,H.heap[k]?=some (.cells c t m):=by
  intro k a;rw[Z]at a;rcases List.mem_cons.1 a with rfl|a
  .exact⟨je a0.ik,λe=>(HT _ e).1 rfl,_,_,_,a0.ik⟩
  .rcases List.mem_cons.1 a with rfl|a
   .grind
   .have aq:v.ownBlock=some k:=by simpa using a
    have⟨c,m',hc⟩:=rL a0.row aq;grind
 have av:=QE (m - 1) (by omega) base G 189 tB C v xs xs.length z.heap.size K H a0 (gW _) (by rw[Z];simp) (by rw[Z];simp) (by grind) (by omega) b1 b0;have aA:∀k∈T,k < W.heap.size:=λk a=>mf (HT k a).2.2 af;have a4:=fN ac;have a7:=(show H.heap.size=W.heap.size+1+2 by omega);have az:J [] H:=by
  have X:J [] z:=HJ [] W z none H0 (by rw[<-HW.out];exact World.grownBy_alloc W _ none) (λr e=>by cases e);rw[a2];refine HJ [] (z.alloc _) _ none ?_ (World.grownBy_alloc _ _ none) (λr e=>by cases e);exact HJ [] z _ none X (World.grownBy_alloc _ _ none) (λr e=>by cases e)
 clear Z b0 b1 HU HL am a0 k2 a2 ac c1 au ax;obtain⟨I,hI⟩:∃I:List {x:jb // x∈xs}->gr->Prop,I=(λzs W'=>H.heap.size<=W'.heap.size/\kj K H W'/\W'.heap[W.heap.size]?=some (gy #[.func (.yield l) #[] #[]] 285)/\∃d:List {x:Nat // some x∈xs},zs.map (·.1)=d.map (λp=>some p.1)/\J d W'):=⟨_,rfl⟩;obtain⟨Ix,ab⟩:∃Ix:Code->List {x:jb // x∈xs}->gr->Prop,Ix=(λc zs W'=>c= .ret/\((∃d:List {x:Nat // some x∈xs},zs.map (·.1)=d.map (λp=>some p.1)++[none]/\J d W')\/(∃d:List {x:Nat // some x∈xs},zs.map (·.1)=d.map (λp=>some p.1)/\Jx d W'))):=⟨_,rfl⟩;have HI:=fN hI;have a3:=fN ab;clear hI ab;refine wpIn_rangeFunc_ownG rfl (by omega) (gf:=347) rfl trivial (Go.Proofs.enters_of func347 (by rfl) rfl) av kj.trans (λW l o o' hl X Y h3=>kj.put (w:=H) (λk a=>(a4.out k a).1) W l o o' hl X Y h3) (Below.refl _ _) (λ_=>rfl)
  I Ix
  ?_ ?_ ?_ (λx=>{tmps:=#[.func (.yield l) #[] #[],gF s,gF W.heap.size,jY x.1,gF G,gF G,lK G 189,uz z.heap.size,jY x.1,undef,undef,undef,undef,undef,undef,undef,undef],defers:=[]}) ?assign ?body ?done ?stop
 .rw[HI.out];rintro zs A B a5 ⟨X,Y,h3,d,h4,h5⟩ hg hr;have hz:=a7;refine⟨jH X hg.size,λk a=>?_,IR hg hr h3 (by omega),d,h4,HJ d A B a5 h5 hg (λr e=>⟨by grind,(hr r e).2⟩)⟩;rw[hg.block k (mf (a4.out k a).1 X) (λe=>by have:=(hr k e.symm).1;have:=(a4.out k a).1;omega)];exact Y k a
 .rw[a3.out];rintro c zs A B a5 ⟨X,Y⟩ hg hr;have hz:=a7;refine⟨X,Y.imp (λ⟨d,h4,h5⟩=>⟨d,h4,HJ d A B a5 h5 hg (λr e=>⟨by grind,(hr r e).2⟩)⟩) (λ⟨d,h4,h5⟩=>⟨d,h4,a9 d A B a5 h5 hg (λr e=>⟨by grind,(hr r e).2⟩)⟩)⟩
 .rw[HI.out];grind[kj]
 case assign=>
  intro l2 x W' KK ao;gi_wp2;exact ao
 case body=>
  rintro l2 pre ⟨x,hx⟩ W' F ay;rw[HI.out]at F;have⟨hz,hkb,hbx,d,u,hj⟩:=F;have cy:=fO hbx 0;dsimp at cy;cases x with
  |none=>
   have HP:=fN u;have al:=fN hj;clear u hj hz hkb hbx;gi_wp2;refine⟨KeepsFrom.refl _ _,?_⟩;rw[a3.out];exact⟨rfl,.inl ⟨d,by rw[ra,HP.out];rfl,al.out⟩⟩
  |some i=>
   have aw:=HY d ⟨i,hx⟩ W' hj (by have:=pJ List.length u;grind);have a8:Hid (∀O,KC T W' O->kj K H O/\O.heap[W.heap.size]?=some (gy #[.func (.yield l) #[] #[]] 285)/\H.heap.size<=O.heap.size/\kj K W' O):=fN (by
    intro O V;have ai:∀k∈K,O.heap[k]?=H.heap[k]?:=by
     intro k a;have⟨_,Y,c,t,mm,h3⟩:=a4.out k a;have h4:=(hkb k a).trans h3;rw[V.2 k c t mm Y h4,h3]
    exact⟨ai,V.2 _ _ _ _ (λe=>by grind) hbx,jH hz V.1,λk a=>(ai k a).trans (hkb k a).symm⟩)
   have⟨fn,tmps,assign,body,hyy,HRR⟩:=aw;have HP:=fN u;clear u hj hz hkb hbx
   gi_wp2_with fail
   refine⟨λ_=>by omega,(VT HRR).mono ?_⟩;rintro e O (⟨rfl,ae,V,N⟩|⟨rfl,ah,N⟩)
   .have⟨p1,p2,p3,P4⟩:=a8.out O V;have ak:Hid (I (pre++[⟨some i,hx⟩]) O):=fN (by rw[HI.out];exact⟨p3,p1,p2,d++[⟨i,hx⟩],by rw[ra,ra,HP.out];rfl,ae⟩);have a6:=(show KeepsFrom H.heap.size W' O from⟨N.size,λk o a X Y=>N.same k o (by omega) X Y⟩);clear ae V N p1 p2 p3 HRR a8;gi_wp2;exact⟨a6,P4,ak.out⟩
   .have an:Hid (Ix .ret (pre++[⟨some i,hx⟩]) O):=fN (by rw[a3.out];exact⟨rfl,.inr ⟨d++[⟨i,hx⟩],by rw[ra,ra,HP.out];rfl,ah⟩⟩);have a6:=(show KeepsFrom H.heap.size W' O from⟨N.size,λk o a X Y=>N.same k o (by omega) X Y⟩);clear ah N HRR a8;gi_wp2;exact⟨a6,an.out⟩
 case done=>
  rintro D zs W' HD hS F Z;rw[HI.out]at F;have⟨_,_,_,d,u,HJ3⟩:=F;have HE:Hid (d.map (·.1)=zG xs.reverse):=fN (by
   rw[List.take_length]at hS;rw[<-hS,u,show(d.map λp=>some p.1)=(d.map (·.1)).map some by simp,Tk])
  clear u hS;gi_wp2;refine⟨by simp,.inl ⟨_,_,rfl,oM Z,?_⟩⟩;refine⟨.tuple #[],by simp[results,results342,go_sem],⟨_,rfl⟩,.inl ⟨d,HE.out,?_⟩⟩;exact HJ d W' _ (some D) HJ3 (Bl _ D (.deferred none)) (λr e=>by cases e;exact⟨by omega,_,Z,rfl⟩)
 case stop=>
  rintro D c zs W' HD a1 F Z;rw[a3.out]at F;obtain⟨rfl,F⟩:=F;have HE:Hid ((∃ys:List {x:Nat // some x∈xs},ys.map (·.1)=zG xs.reverse/\J ys W')\/(∃pre:List {x:Nat // some x∈xs},pre.map (·.1) <+:zG xs.reverse/\Jx pre W')):=fN (by
   rw[List.take_length]at a1;rcases F with⟨d,u,hj⟩|⟨d,u,hj⟩
   .refine .inl ⟨d,?_,hj⟩;have⟨r,hr⟩:=a1;rw[<-hr,u,show(d.map λp=>some p.1)=(d.map (·.1)).map some by simp,uS];exact On.symm
   .refine .inr ⟨d,?_,hj⟩;rw[u,show(d.map λp=>some p.1)=(d.map (·.1)).map some by simp]at a1;exact Tp a1)
  clear F a1;gi_wp2;refine⟨by simp,.inl ⟨_,_,rfl,oM Z,?_⟩⟩;refine⟨.tuple #[],by simp[results,results342,go_sem],⟨_,rfl⟩,?_⟩;have hb:D>=W.heap.size:=by have:=HD;have:=a7;omega
  rcases HE.out with⟨ys,e1,e2⟩|⟨pre,e1,e2⟩
  .exact .inl ⟨ys,e1,HJ ys W' _ (some D) e2 (Bl _ D (.deferred none)) (λr e=>by cases e;exact⟨hb,_,Z,rfl⟩)⟩
  .exact .inr ⟨pre,e1,a9 pre W' _ (some D) e2 (Bl _ D (.deferred none)) (λr e=>by cases e;exact⟨hb,_,Z,rfl⟩)⟩
end
section
attribute [local go_sem] Oper.semAt_some
attribute [local go_sem] pW
attribute [local simp] pW
def KS (s:Nat):gG:= .func (.func 342) #[] #[gF s]
def GR (d:Nat) (w:gr):
  Calls prog 315 #[gF d] w λe w'=>e=ir (KS w.heap.size)/\w'=w.alloc (gy #[gF d] 117):=by
 have u:∀(h:Fn) (first a:jE) (w:gr),(Instr.makeFunc h first a).run prog w= .ok (.func h first a) w:=λ_ _ _ _=>rfl;go_enter func315,ntmps315;go_wp2;go_ret;simp[KS]
def Tm:∀(xs:kL),zG (xs.map (Option.map f))=(zG xs).map f
 |[]=>rfl
 |none::_=>rfl
 |some i::r=>by show f i::zG (r.map (Option.map f))=f i::(zG r).map f;rw[Tm]
def acv (T:List Nat) (I:List Nat->gr->Prop) (d:Code->List Nat->gr->Prop) (a:List Nat) (W:gr):Exit->Act->gr->Prop
 | .normal,_,W'=>Kept T W W'/\I a W'
 | .ret,_,W'=>Kept T W W'/\d .ret a W'
 | .exit id,_,W'=>Kept T W W'/\d (.exit id) a W'
 | .goto t,_,W'=>Kept T W W'/\d (.goto t) a W'
 | .panic _,_,_=>False
 | .outgrown,_,_=>False
def Kept.kc (h:Kept T W W'):KC T W W':=⟨h.size,λk c t m d a=>(h.block k (Array.getElem?_eq_some_iff.1 a).1 d).trans a⟩
theorem Kept.kf {B : Nat} (h:Kept T W W') (d:∀k∈T,k < B):KeepsFrom B W W':=⟨h.size,λk o u a _=>(h.block k (Array.getElem?_eq_some_iff.1 a).1 (λe=>by grind)).trans a⟩
def Ex (d:∀i j,f i=f j->i=j):∀{e a:List Nat},e.map f=a.map f->e=a
 |[],[],_=>rfl
 |[],_::_,h=>by simp at h
 |_::_,[],h=>by simp at h
 |x::xs,y::a,h=>by
  simp only[y8,QP]at h;rw[d x y h.1,Ex d h.2]
def aaQ (d:∀i j,f i=f j->i=j) {a ys : List Nat} (h:a.map f <+:ys.map f):a <+:ys:=by
 have⟨t,ht⟩:=h;refine⟨ys.drop a.length,?_⟩;have u:a.length<=ys.length:=by have:=pJ List.length ht;simp at this;omega
 have e:a.map f=(ys.take a.length).map f:=by rw[List.map_take,<-ht];simp
 have e2:=Ex d e
 conv=>lhs;lhs;rw[e2]
 simp
theorem Uh (hn:7<=n) {L : Loc} {σ:Ab} {w1 : gr} (hr:Rel E L σ w1)
  {g:Operand} {p:Tmp} {Q:Exit->Act->gr->Prop} {a : Act} (hg:a.eval g=KS w1.heap.size)
  (T:List Nat) (hT:∀k∈T,k≠E.bB/\L.cv.ownBlock≠some k/\k < w1.heap.size)
  (I:List Nat->gr->Prop) (Ix:Code->List Nat->gr->Prop)
  (hI:OwnFrom (w1.heap.size+1) I) (a1:∀c,OwnFrom (w1.heap.size+1) (Ix c)) (h0:I [] (w1.alloc (gy #[Bp E] 117))) (h:Nat->Act)
  (u:∀(l:Nat) (x:Nat) (W:gr) (K:Act->gr->Prop),K (h x) W->assign.wpIn (Fence.wide.inRound l) (n - 1 - 1) prog (Exit.then K (λ_ _ _=>False)) {tmps:=a.tmps.setIfInBounds p (jY (some x)),defers:=[]} W)
  (U:∀(l:Nat) (pre:List Nat) (i:Nat) (W:gr),some i∈σ.act->I pre W->pre.length < σ.act.length->body.wpIn (Fence.wide.inRound l) (n - 1 - 1) prog (acv T I Ix (pre++[i]) W) (h (L.gH i)) W)
  (a2:∀(D:Nat) (W:gr),w1.heap.size+1<=D->I (zG σ.act.reverse) W->W.heap[D]?=some (.deferred (some []))->Q .normal {a with defers:={target:= .collected D,args:=#[]}::a.defers} W)
  (X:∀(D:Nat) (c:Code) (pre:List Nat) (W:gr),w1.heap.size+1<=D->pre <+:zG σ.act.reverse->Ix c pre W->W.heap[D]?=some (.deferred (some []))->c.wpIn Fence.wide n prog Q {a with defers:={target:= .collected D,args:=#[]}::a.defers} W):
  (Code.rangeFunc g #[p] assign body).wpIn Fence.wide n prog Q a (w1.alloc (gy #[Bp E] 117)):=by
 have k1:Kept [] w1 (w1.alloc (gy #[Bp E] 117)):=(Kept.refl _ _).alloc _;have a4:=hr.ib k1;have⟨C,hL,hC⟩:=a4.Gg;have O:(w1.alloc (gy #[Bp E] 117)).heap.size=w1.heap.size+1:=by simp
 have a0:∀i j,L.gH i=L.gH j->i=j:=hr.inj;have a5:=WX (n - 1) (by omega) E.bs E.bB _ C L.cv _ w1.heap.size T _ hL (fQ w1 _) (λk hk=>⟨(hT k hk).1,(hT k hk).2.1,by grind⟩);have Z:∀x:{x:Nat // some x∈σ.act.map (iw L.gH)},∃i,some i∈σ.act/\L.gH i=x.1:=by
  rintro⟨x,hx⟩;have⟨y,hy,e⟩:=List.mem_map.1 hx;cases y with
  |none=>cases e
  |some i=>grind
 have a7:zG (σ.act.map (iw L.gH)).reverse=(zG σ.act.reverse).map L.gH:=by
  rw[<-Uq];exact Tm _
 refine QJ (by omega) (gf:=342) hg (Go.Proofs.enters_of func342 (by rfl) rfl) a5 KC.trans (λW l o o' _ G H _=>KC.put W l o o' G H) (Below.refl _ _) (λ_=>rfl)
  (λpre W=>∃d,pre.map (·.1)=d.map L.gH/\I d W) (λc pre W=>∃d,pre.map (·.1)=d.map L.gH/\Ix c d W) ?_ ?_ ?_ (λx=>h x.1) ?_ ?_ ?_ ?_
 .rintro s A B Y ⟨d,G,H⟩ V F;rw[O]at F;exact⟨d,G,hI d A B Y H V F⟩
 .rintro c s A B Y ⟨d,G,H⟩ V F;rw[O]at F;exact⟨d,G,a1 c d A B Y H V F⟩
 .grind
 .intro l x W K hK
  simpa using u l x.1 W K hK
 .rintro l pre x W ⟨d,G,H⟩ a6;have⟨i,hi,ei⟩:=Z x;have hb:=U l d i W hi H (by have:=pJ List.length G;grind);rw[ei]at hb;have N:∀k∈T,k < (w1.alloc (gy #[Bp E] 117)).heap.size:=λk hk=>by grind
  have e2:(pre++[x]).map (·.1)=(d++[i]).map L.gH:=by rw[ra,ra,G,List.map_singleton,List.map_singleton,ei]
  refine Bk hb ?_;rintro e a3 W3 z;cases e with
  |normal=>exact⟨z.1.kf N,z.1.kc,_,e2,z.2⟩
  |ret=>exact⟨z.1.kf N,_,e2,z.2⟩
  |exit id=>exact⟨z.1.kf N,_,e2,z.2⟩
  |goto t=>exact⟨z.1.kf N,_,e2,z.2⟩
  |panic ch=>exact z.elim
  |outgrown=>exact z.elim
 .rintro D ys W hD hS ⟨d,G,H⟩ hK;rw[O]at hD;have:d=zG σ.act.reverse:=Ex a0 (by grind);grind
 .rintro D c pre W hD a8 ⟨d,G,H⟩ hK;rw[O]at hD;exact X D c d W hD (aaQ a0 (by grind)) H hK
end
section
attribute [local go_sem] Oper.semAt_some
attribute [local go_sem] pW
attribute [local simp] pW
def Do {σ:Ab}:∀{xs:kL},(∀i∈zG xs,kh (σ.nm i) s=false)->σ.qj s xs=none
 |[],_=>rfl
 |none::_,_=>rfl
 |some i::r,h=>by
  show(if kh (σ.nm i) s then some i else σ.qj s r)=none;rw[h i (by simp[zG])];simp only[wX,↓reduceIte];exact Do λj a=>h j (by simp[zG,a])
theorem Dp {σ:Ab} (a:kh (σ.nm i) s=true):∀{xs:kL} {pre:List Nat},pre++[i] <+:zG xs->(∀j∈pre,kh (σ.nm j) s=false)->σ.qj s xs=some i
 |[],pre,h,_=>by have⟨r,hr⟩:=h;simp[zG]at hr
 |none::_,pre,h,_=>by have⟨r,hr⟩:=h;simp[zG]at hr
 |some k::r,[],h,_=>by
  have⟨t,ht⟩:=h;have e:i=k:=by simp[zG]at ht;exact ht.1
  grind[Ab.qj]
 |some k::r,p::pre,h,hp=>by
  have⟨t,ht⟩:=h;have e:p=k/\pre++[i]++t=zG r:=by simpa [zG]using ht
  obtain⟨rfl,e2⟩:=e;show(if kh (σ.nm p) s then some p else σ.qj s r)=_;rw[hp p (by simp)];simp only[wX,↓reduceIte];exact Dp a ⟨t,e2⟩ (λj d=>hp j (by simp[d]))
def yk (W:gr) {D : Nat} (h:b≠D):(W.putObj D o).cell? ⟨b,0,none⟩=W.cell? ⟨b,0,none⟩:=Zf (rG h)
theorem Dq {σ:Ab} (h:RF E f σ w) (s:gn):
  Calls prog 272 #[Bp E,gw s] w λe w'=>e=ir (oV f (σ.pn s))/\Kept [] w w':=by
 obtain⟨L,rfl,z⟩:=h;refine(xk (n:=9)).1 ?_;refine xl func272 rfl trivial ?_ rfl;simp only[ntmps272,wS,sW,wx,Nat.reduceAdd,Nat.reduceSub,wT,wU,wV,wW,sC,uT];obtain⟨F,d⟩:∃F,F=(w.alloc (gy #[gw s] 9)).alloc (gy #[.pointer none] 65):=⟨_,rfl⟩;have X:Kept [] w F:=by rw[d];exact((Kept.refl _ _).alloc _).alloc _
 have B0:F.heap[w.heap.size]?=some (gy #[gw s] 9):=by rw[d];exact(Below.heap_alloc _ _ _ (by simp)).trans (fQ w _)
 have B1:F.heap[w.heap.size+1]?=some (gy #[.pointer none] 65):=by rw[d];have:=fQ (w.alloc (gy #[gw s] 9)) (gy #[.pointer none] 65);rwa [yc]at this
 have u:F.heap.size=w.heap.size+1+1:=by rw[d];simp
 have a1:=z.ib X;have a6:=z.lt;have HB:=GR E.bB F;have HN:=(λ(W:gr) (hk:Kept [] w W) (i:Nat) (e:zz) (Z:σ.gV i=some e)=>(z.ib hk).uK Z);have HA:=(λ(i:Nat) (Z:some i∈σ.act)=>z.wf.act (some i) Z);have HO:=(λg (H:L.cv.ownBlock=some g)=>(z.pR.lt g H).2);have HZ:=fN u;have HW:=fN d;clear u d
 gi_wp2_with fail
 rw[<-HW.out];refine(callsIn_wide.2 HB).mono ?_;rintro e w' ⟨rfl,rfl⟩;gi_wp2;refine Uh (by omega) a1 rfl [w.heap.size+1] ?_
  (λpre W=>Kept [] w W/\W.heap[w.heap.size]?=some (gy #[gw s] 9)/\W.heap[w.heap.size+1]?=some (gy #[.pointer none] 65)/\∀i∈pre,kh (σ.nm i) s=false)
  (λc pre W=>c= .ret/\Kept [] w W/\∃a i,pre=a++[i]/\(∀j∈a,kh (σ.nm j) s=false)/\kh (σ.nm i) s=true/\W.heap[w.heap.size+1]?=some (gy #[gF (L.gH i)] 65))
  ?_ ?_ ?_ (λx=>{tmps:=#[Bp E,gw s,undef,gF w.heap.size,gF (w.heap.size+1),jY (some x),Bp E,KS F.heap.size,jY (some x),undef,undef,undef,undef,undef,undef,undef],defers:=[]}) ?assign ?body ?done ?stop
 .grind
 .rintro pre A B a5 ⟨h1,h2,G,U⟩ H z;have u:=HZ.out;exact⟨lX h1 H z (by omega),ky h2 H z (by omega),ky G H z (by omega),U⟩
 .rintro c pre A B a5 ⟨h0,h1,a,i,h2,G,U,h5⟩ H z;have u:=HZ.out;exact⟨h0,lX h1 H z (by omega),a,i,h2,G,U,ky h5 H z (by omega)⟩
 .have hk:Kept [] F (F.alloc (gy #[Bp E] 117)):=(Kept.refl _ _).alloc _;exact⟨X.trans hk,hk.at B0 (by simp),hk.at B1 (by simp),by simp⟩
 case assign=>
  intro l x W K Y;gi_wp2;exact Y
 case body=>
  rintro l pre i W Z ⟨I,B2,B3,B4⟩ _;have a3:=HA i Z;obtain⟨e0,a2⟩:∃e0,σ.gV i=some e0:=Option.isSome_iff_exists.1 a3;have c0:=HN W I i e0 a2;have c1:=fO B2 0;have O:=fO B3 0;have f3:=gu B3 0;dsimp at c1 O;rw[show jY (some (L.gH i))=gF (L.gH i)from rfl];gi_wp2;refine Ac l (by kernel_rfl) (by kernel_rfl) (by rfl) ?_
  repeat (gi_big_quiet_step (fail))
  refine wpQuietIn_nil ?_;intro _ a4;have⟨nq,hw''⟩:=a4;subst hw'';cases hq:kh (σ.nm i) s with
  |true=>
   have HQ:=hq;have V:((σ.nm i).toList==s.toList)=true:=hq;rw[V];gi_wp2;refine⟨((Kept.refl [w.heap.size+1] W).drewN nq).setCell (.inl (by simp)) _,rfl,(I.drewN nq).setCell (.inr (by simp)) _,pre,i,rfl,B4,HQ,?_⟩;exact fV (show(W.drewN nq).heap[w.heap.size+1]?=_ from B3) 0 _
  |false=>
   have HQ:=hq;have V:((σ.nm i).toList==s.toList)=false:=hq;rw[V];gi_wp2;refine⟨(Kept.refl _ W).drewN nq,I.drewN nq,B2,B3,λy hy=>?_⟩;grind
 case done=>
  rintro D W HD ⟨I,h2,G,U⟩ Y;have O:=fO G 0;have f3:=gu G 0;dsimp at O;have C:σ.pn s=none:=Do U;have N:=fN C;have HS:=fN (nZ G 0 (.pointer none) rfl);clear C;gi_wp2;rw[HS.out];refine⟨by simp,.inl ⟨_,_,rfl,oM Y,?_⟩⟩;have u:=HZ.out;have hD:=HD;have c4:(W.putObj D (.deferred none)).cell? ⟨w.heap.size+1,0,none⟩=some (.pointer none):=by rw[<-O];exact yk W (by omega)
  exact⟨.pointer none,by simp[results,results272,asAddr,Result.andThen,go_sem,c4],by rw[N.out];rfl,I.take (by omega) _⟩
 case stop=>
  rintro D c pre W HD a0 ⟨rfl,I,a,i,rfl,G,U,h5⟩ Y;have C:σ.pn s=some i:=Dp U a0 G;have N:=fN C;have O:=fO h5 0;dsimp at O;clear C;gi_wp2;refine⟨by simp,.inl ⟨_,_,rfl,oM Y,?_⟩⟩;have u:=HZ.out;have hD:=HD;have c4:(W.putObj D (.deferred none)).cell? ⟨w.heap.size+1,0,none⟩=some (gF (L.gH i)):=by rw[<-O];exact yk W (by omega)
  exact⟨gF (L.gH i),by simp[results,results272,asAddr,Result.andThen,go_sem,c4],by rw[N.out];rfl,I.take (by omega) _⟩
end
end
end Go.Proofs.YtccjlklnkhagdaaGreatDoor
