import Derived.Test.YtlhhgenpcjjajaaGreatDoorSame
import Derived.Stop.RegionWithIn
set_option linter.unusedSimpArgs false
set_option linter.unusedVariables false
set_option linter.defProp false
set_option maxHeartbeats 0
set_option maxRecDepth 100000
namespace Go.Proofs.YtlhhgenpcjjajaaGreatDoor
open Go.RowKit Tryz
def Fz:=@ownsRow_putObj
def FG:=@List.not_mem_nil
def kJ:=@or_false
section
variable {A C c : jB} {D b gR bs fi i j k n : Nat} {E : Env} {L : Loc} {Q : Ending->fO->Prop} {S : List (Nat×gh)} {W W' w w' w0 : fO} {e ei ej : Al} {f f0 : Nat->Nat} {m : Nat×Nat} {o o' : Obj} {s : fN} {v v' : gh}
def Jp {n : fN} {a p k : gh} (h:w.heap[i]?=some (fV #[fR n,a,p,k] 140)):w.cell? ⟨i,0,none⟩=some (fR n)/\w.cell? ⟨i,1,none⟩=some a/\i < w.heap.size:=⟨by rw[fw h];rfl,by rw[fw h];rfl,iB h⟩
def Vi (i j:Nat) (U T:fN) (a1 p1 k1 a2 p2 k2:gh) (d h:kZ) (w:fO) (hi:w.heap[i]?=some (fV #[fR U,a1,p1,k1] 140)) (hj:w.heap[j]?=some (fV #[fR T,a2,p2,k2] 140)) (K:zD w a1 d) (N:zD w a2 h) (ab:d.length<=4096) (ac:h.length<=4096):
  Calls prog 327 #[fW i,fW j] w λe w'=>e=gO (.bool (ku U T&&(d.length==h.length)&&d.all λx=>h.any λy=>rC x y))/\Kept [] w w':=by
 have P:∀(fn:Fn) (first Y:jB) (w:fO),(Instr.makeFunc fn first Y).run prog w= .ok (.func fn first Y) w:=λ_ _ _ _=>rfl;obtain⟨H,G⟩:∃H,H=w.alloc (fV #[fW j] 72):=⟨_,rfl⟩;have R:Kept [] w H:=by rw[G];exact(Kept.refl _ _).alloc _
 have b1:H.heap[w.heap.size]?=some (fV #[fW j] 72):=by rw[G];exact fB w _
 have⟨c0,c1,l1⟩:=Jp (R.at hi (by simp));have⟨d0,d1,l2⟩:=Jp (R.at hj (by simp));have e0:H.cell? ⟨w.heap.size,0,none⟩=some (fW j):=by rw[fw b1];rfl
 have C:=fx (λW (q:Kept [] H W)=>zP 355 #[fW w.heap.size] (λa=>!(h.any λy=>rC a y)) a1 d W ((R.trans q).ownsRow K (λ_ _=>by simp)) ab ⟨enters_of func355 (by rfl) rfl,λW2 l a _=>Y6 w.heap.size j T a2 p2 k2 h a W2 ((q.trans l).at b1 (by simp)) (((R.trans q).trans l).at hj (by simp)) (((R.trans q).trans l).ownsRow N (λ_ _=>by simp)) ac⟩);have V:=fx (iB b1);have I:(!(d.any λa=>!(h.any λy=>rC a y)))=d.all λx=>h.any λy=>rC x y:=by
  rw[List.not_any_eq_all_not];simp
 have⟨ao1,cp1,hav1⟩:=fS K;have⟨ao2,cp2,hav2⟩:=fS N;subst hav1 hav2;have HW:=fx G.symm;have J:=fx R;have a4:=fx I;clear hi hj K N G R b1 I;cases hq:ku U T with
 |false=>
  have F:(U.toList==T.toList)=false:=hq;clear hq;go_enter func327,ntmps327
  go_wp21
  rw[HW.out]
  go_quiet (fail)
  go_wp2;go_ret;exact⟨rfl,J.out.drewN _⟩
 |true=>
  have F:(U.toList==T.toList)=true:=hq;clear hq
  by_cases hl:d.length=h.length
  .have u:((d.length:Int)==(h.length:Int))=true:=by rw[hl];simp
   have a7:=fx (show(d.length==h.length)=true by rw[hl];simp);clear hl;go_enter func327,ntmps327
   go_wp21
   rw[HW.out];obtain⟨X,a3⟩:∃X,X=w.heap.size:=⟨_,rfl⟩;rw[<-a3]at e0 C V|-;clear a3;have HC:=fx (λ(W:fO) (q:Kept [] H W)=>(⟨(q.cell (p:=⟨i,0,none⟩) l1 (by simp)).trans c0,(q.cell (p:=⟨i,1,none⟩) l1 (by simp)).trans c1,(q.cell (p:=⟨j,0,none⟩) l2 (by simp)).trans d0,(q.cell (p:=⟨j,1,none⟩) l2 (by simp)).trans d1,(q.cell (p:=⟨X,0,none⟩) V.out (by simp)).trans e0⟩:_/\_/\_/\_/\_));have a9:=fx F;have a6:=fx u;have a8:=fx P;clear c0 c1 d0 d1 e0 F u P;refine uN (by rfl) ?_;refine pJ (λ(g:Unit) z=>⟨#[fW i,fW j,undef,fW X,ce z 31 (.bool false) (.bool (!(d.any λa=>!(h.any λy=>rC a y)))),cd z 0 (fW i),cd z 1 (fW i),cd z 2 (fW i),cd z 3 (fR U),cd z 4 (fW j),cd z 5 (fW j),cd z 6 (fW j),cd z 7 (fR T),cd z 8 (.bool true),cd z 9 (.bool true),cd z 10 (fW i),cd z 11 (fW i),cd z 12 (jp i 1),cd z 13 (.slice ao1 d.length cp1),cd z 14 (fK d.length),cd z 15 (fW j),cd z 16 (fW j),cd z 17 (jp j 1),cd z 18 (.slice ao2 h.length cp2),cd z 19 (fK h.length),cd z 20 (.bool true),cd z 21 (.bool true),cd z 22 (.bool true),cd z 23 (fW i),cd z 24 (fW i),cd z 25 (jp i 1),cd z 26 (.slice ao1 d.length cp1),cd z 27 (.func (.func 355) #[] #[fW X]),cd z 28 (.bool (d.any λa=>!(h.any λy=>rC a y))),cd z 29 (.bool (!(d.any λa=>!(h.any λy=>rC a y)))),cd z 30 (.bool (!(d.any λa=>!(h.any λy=>rC a y))))],[]⟩) (λg z W=>Kept [] H W) 32 [[],[0],[1],[2],[],[4],[5],[6],[3,7],[8],[9],[9,10],[9,11],[9,12],[9,13],[9],[9,15],[9,16],[9,17],[9,18],[9,14,19],[9,20],[21],[22],[22,23],[22,24],[22,25],[22],[22,26,27],[22,28],[22,29],[30]] (()) rfl rfl ((Kept.refl [] H).drew) ?_ ?_
   .repeat' first|exact mO|refine mJ ?_ ?_
    all_goals
     rintro g z W O hc _;simp[Dd]at hc;refine jE rfl ?_;intro K' Z;simp only[kY,hc];have⟨c0,c1,d0,d1,e0⟩:=HC.out W O;have F:=a9.out;have u:=a6.out;have P:=a8.out;have C1:=fx (C.out W O);go_simp
     first
     |refine Z _ _ ⟨g,?_,O⟩
     |refine C1.out.mono ?_;rintro e W2 ⟨rfl,l⟩;refine Z _ _ ⟨g,?_,O.trans l⟩
     simp[oG,vC,kY,U4,ac3,hc]
   .rintro g W O;simp only[vn,aab];have a5:=fx O;clear O;rename_i KK a0;refine a0 _ _ ?_;clear a0 KK;go_wp2;go_ret;exact⟨by rw[a7.out,<-a4.out];rfl,J.out.trans a5.out⟩
  .have u:((d.length:Int)==(h.length:Int))=false:=beq_eq_false_iff_ne.2 (by omega);have aa:(d.length==h.length)=false:=beq_eq_false_iff_ne.2 hl;go_enter func327,ntmps327
   go_wp21
   rw[HW.out]
   go_quiet (fail)
   go_wp2;go_ret;exact⟨by rw[aa];rfl,J.out.drewN _⟩
section
attribute [local go_sem] Oper.semAt_some
attribute [local go_sem] p6
attribute [local simp] p6
def Ab.tI (σ:Ab) (j:Nat) (c:iM×Nat) (i:Nat):iM×Nat:=if σ.Xd i j then (some i,c.2+1)else c
def AO (σ:Ab) (j:Nat):∀(a:j5) (c:iM×Nat),σ.se j a c=(Bg a).foldl (σ.tI j) c
 |[],_=>rfl
 |none::_,_=>rfl
 |some i::r,c=>by
  show(if σ.Xd i j then σ.se j r (some i,c.2+1)else σ.se j r c)=(Bg r).foldl (σ.tI j) (σ.tI j c i);unfold Ab.tI;split<;>exact AO σ j r _
theorem I2 (σ:Ab) (j:Nat):∀(a:List Nat) (c:iM×Nat),(a.foldl (σ.tI j) c).2<=c.2+a.length
 |[],c=>by simp
 |x::a,c=>by
  have h:=I2 σ j a (σ.tI j c x)
  grind[Ab.tI]
theorem Ue:∀(a:j5),(Bg a).length<=a.length
 |[]=>gr _
 |none::_=>im _
 |some _::r=>by have:=Ue r;grind[Bg]
def Rel.ae5 {σ:Ab} (h:Rel E L σ w) {a b : Al} (d:σ.gF i=some a) (g:σ.gF j=some b):
  Calls prog 327 #[fW (L.gp i),fW (L.gp j)] w λe w'=>e=gO (.bool (σ.Xd i j))/\Kept [] w w':=by
 have⟨h1,h2,h3⟩:=h.rP i _ (Ab.iX d);have⟨g1,g2,g3⟩:=h.rP j _ (Ab.iX g);refine(Vi _ _ _ _ _ _ _ _ _ _ _ _ w h1.gR g1.gR h2 g2 h3 g3).mono ?_;rintro e w' ⟨rfl,l⟩;refine⟨?_,l⟩;unfold Ab.Xd;rw[d,g];rfl
def Cl {t : TypeId} (a:w.heap[D]?=some o) (d:o.isCells=false) (h:w.heap[k]?=some (.cells c t m)):(w.putObj D o').heap[k]?=some (.cells c t m):=
 (p5 (λe=>by subst e;rw[a]at h;cases h;cases d)).trans h
def kM.aa8 {nd : Cd} (h:kM bs L w i nd) (a:w.heap[D]?=some o) (d:o.isCells=false):kM bs L (w.putObj D o') i nd:=by
 cases nd with
 |el e=>exact⟨⟨Cl a d h.1.gR,Fz h.1.row o' a d,h.1.le,h.1.UG⟩,Fz h.2.1 o' a d,h.2.2⟩
 |tx s=>exact Cl a d h
 |cm s=>exact Cl a d h
 |dt s=>exact Cl a d h
theorem Fr.take (h:Fr bs w W) (a:w.heap.size<=D) (o:Obj):Fr bs w (W.putObj D o):=by
 have⟨S,hk,hS⟩:=h;exact⟨S,hk.grown (wM W D o) (λk e=>by grind),hS⟩
def Rel.aa8 {σ:Ab} (h:Rel E L σ w) (a:w.heap[D]?=some o) (d:o.isCells=false) (g:E.w0.heap.size<=D):Rel E L σ (w.putObj D o'):=by
 have⟨C,hb,hC⟩:=h.gR;exact
  {fr:=h.fr.take g o'
   env:=h.env
   rY:=h.rY
   rP:=λi p l=>(h.rP i p l).aa8 a d
   inj:=h.inj,xv:=h.xv,Ak:=h.Ak,uq:=h.uq,Ad:=h.Ad,wf:=h.wf
   gR:=⟨C,Cl a d hb,hC⟩
   nM:=Fz h.nM o' a d
   oE:=Fz h.oE o' a d
   Cg:=h.Cg,ve:=h.ve,Bx:=h.Bx
   nN:=Fz h.nN o' a d
   BK:=h.BK
   rd:=Cl a d h.rd
   BH:=h.BH
   tok:=Fz h.tok o' a d
   Av:=h.Av,bz:=h.bz,bB:=h.bB,bR:=h.bR,bN:=h.bN,yJ:=h.yJ,ab:=h.ab,tb:=h.tb,Ch:=h.Ch}
def Fr.other (h:Fr bs w W) (d:w.heap[D]?=some o) (l:o.isCells=false):W.heap[D]?=some o:=by
 have⟨S,hk,hS⟩:=h;have a:D < w.heap.size:=(Array.getElem?_eq_some_iff.1 d).1;refine(hk.block D a λg=>?_).trans d;have⟨⟨c,t,m,h3,_⟩,_⟩:=hS D g a;rw[d]at h3;cases h3;cases l
def aaa {α G:Type} {F : Nat} {σ:Ab} {m:M α} {h:(Nat->Nat)->α->gh} (C:m σ≠ .stuck->Calls prog k A w (jT E f σ.nodes.length w (m σ) h)) (H:At E f0 F w0 f σ w) {R:qI G} {K:α->M G} (g:R=(m>>=K) σ) (O:R≠ .stuck)
  (u:∀c p j w',R= .stop c p->kh w' j c p->Fr E.bs w0 w'->Fr E.bs w w'->Q (rE j) w')
  (q:∀a d w',At E f0 F w0 f d w'->Fr E.bs w w'->R=K a d->Q (gO (h f a)) w'):Calls prog k A w Q:=by
 rw[M.fP]at g;have z:m σ≠ .stuck:=λe=>O (by rw[g,e]);refine(C z).mono ?_;intro e w' l;cases hr:m σ with
 |ok a d=>
  rw[hr]at l g;obtain⟨rfl,J,y,N⟩:=l;exact q a d w' (H.to J N y) y g
 |stop c p=>
  rw[hr]at l g;obtain⟨j,rfl,I,x⟩:=l;exact u c p j w' g I (H.fr.trans x) x
 |stuck=>exact absurd hr z
def Q6 {d : fO} {a:Ab} {r : qI Unit} (H:At E f n w f a d) (h:d.heap[D]?=some (.deferred (some []))) (g:w.heap.size<=D) (hr:r= .ok () a):jT E f n w r uV (oS) (d.putObj D (.deferred none)):=by
 subst hr;have⟨L,e,hr⟩:=H.rel;exact⟨rfl,⟨L,e,hr.aa8 h rfl (jC H.hw g)⟩,H.fr.take g _,H.le⟩
def JO {c p : Nat} {a : fO} {r : qI Unit} (l:kh a k c p) (h:Fr E.bs w a) (g:a.heap[D]?=some (.deferred (some []))) (d:w.heap.size<=D) (hr:r= .stop c p):jT E f n w r uV (rE k) (a.putObj D (.deferred none)):=by
 subst hr;exact⟨k,rfl,Cl g rfl l,h.take d _⟩
def Xo {σ:Ab} (h:Rel E L σ w) (x:iM) (q:σ.gx x=true):
  Calls prog 187 #[jp E.bB 189,oV L.gp x] w λe w'=>e=oS/\RF E L.gp {σ with act:=σ.act.erase x} w'/\Fr E.bs w w'/\Kept (E.bB::L.cv.ownBlock.toList) w w':=by
 have⟨C,hL,hC⟩:=h.GK;refine(A0 E.bs E.bB 189 _ C _ _ (gX L.gp x) w hL h.cF (h.gx q)).mono ?_;rintro e w' ⟨rfl,a⟩;have⟨_,_,hk,_⟩:=id a;obtain⟨d,g,l,p⟩:=h.An hL hC (by rw[<-vW h.inj];exact a) λy u=>h.wf.act y (AB u);exact⟨rfl,⟨d,g,l⟩,p,hk⟩
theorem ae7 {σ:Ab} (h:RF E f σ w) (j:Nat) (am:σ.gF j=some ej) (Z:N4 j σ≠ .stuck):Calls prog 284 #[Bp E,nV f j] w (jT E f σ.nodes.length w (N4 j σ) uV):=by
 have H:=At.start h;obtain⟨L,rfl,hr⟩:=h;refine(wV (n:=9)).1 ?_;refine wL func284 rfl trivial ?_ rfl;simp only[ntmps284,xC,sV,vZ,Nat.reduceAdd,Nat.reduceSub,xn,xj,xm,xI,rM,vz];obtain⟨V,O⟩:∃V,V=((w.alloc (fV #[nV L.gp j] 72)).alloc (fV #[.pointer none] 72)).alloc (fV #[fK 0] 3):=⟨_,rfl⟩;have a5:Kept [] w V:=by rw[O];exact(((Kept.refl _ _).alloc _).alloc _).alloc _
 have⟨B0,B1,B2⟩:=nX w (fV #[nV L.gp j] 72) (fV #[.pointer none] 72) (fV #[fK 0] 3);rw[<-O]at B0 B1 B2;have y:V.heap.size=w.heap.size+1+1+1:=by rw[O];simp
 have ad:=hr.gJ a5;have au:=hr.lt;have ar:=hr.Bx;have HB:=Ia E.bB V;have ac:=(λ(W:fO) (Y:Kept [] w W) (i:Nat) (e:Al) (hi:σ.gF i=some e)=>(hr.gJ Y).ae5 hi am);have af:=(λ(W:fO) (Y:Kept [] w W)=>hr.gJ Y);have HA:=(λ(i:Nat) (hi:some i∈σ.act)=>hr.wf.act (some i) hi);have HO:=(λg (hg:L.cv.ownBlock=some g)=>(hr.oE.lt g hg).2);have HZ:=fx y;have HW:=fx O;have HS:=Z;clear y O
 gi_wp2_with fail
 rw[<-HW.out];refine(callsIn_wide.2 HB).mono ?_;rintro e w' ⟨rfl,rfl⟩;gi_wp2;refine Uk (by omega) ad rfl [w.heap.size+1,w.heap.size+1+1] ?_
  (λpre W=>Kept [] w W/\W.heap[w.heap.size]?=some (fV #[nV L.gp j] 72)/\W.heap[w.heap.size+1]?=some (fV #[oV L.gp (pre.foldl (σ.tI j) (none,0)).1] 72)/\W.heap[w.heap.size+1+1]?=some (fV #[fK ((pre.foldl (σ.tI j) (none,0)).2)] 3))
  (λ_ _ _=>False)
  ?_ ?_ ?_ (λx=>{tmps:=#[Bp E,nV L.gp j,undef,fW w.heap.size,fW (w.heap.size+1),fW (w.heap.size+1+1),kK (some x),Bp E,LS V.heap.size,kK (some x),undef,undef,undef,undef,undef,undef,undef,undef,undef,undef,undef,undef,undef,undef,undef,undef],defers:=[]}) ?assign ?body ?done ?stop
 .grind
 .rintro pre A B row ⟨h1,T,J,X⟩ hg hr;have y:=HZ.out;exact⟨lX h1 hg hr (by omega),km T hg hr (by omega),km J hg hr (by omega),km X hg hr (by omega)⟩
 .rintro c pre A B row h _ _;exact h
 .have Y:Kept [] V (V.alloc (fV #[Bp E] 121)):=(Kept.refl _ _).alloc _;exact⟨a5.trans Y,Y.at B0 (by simp),Y.at B1 (by simp),Y.at B2 (by simp)⟩
 case assign=>
  intro l x W K hK;gi_wp2;exact hK
 case body=>
  rintro l pre i W hi ⟨HK,B3,B4,B5⟩ ao;have aq:(pre.foldl (σ.tI j) (none,0)).2<=4096:=by have:=I2 σ j pre (none,0);simp at this;omega
  have U:=HA i hi;obtain⟨e0,al⟩:∃e0,σ.gF i=some e0:=Option.isSome_iff_exists.1 U;have C:=ac W HK i e0 al;have c1:=fw B3 0;dsimp at c1;have P:=fx (show(pre++[i]).foldl (σ.tI j) (none,0)=σ.tI j (pre.foldl (σ.tI j) (none,0)) i by simp);rw[show kK (some (L.gp i))=fW (L.gp i)from rfl];generalize pre.foldl (σ.tI j) (none,0)=c at *
  gi_wp2_with fail
  refine(qy l (callsIn_wide.2 C)).mono ?_;rintro e W3 ⟨rfl,N⟩;have G3:=N.at B3 (by simp);have G4:=N.at B4 (by simp);have G5:=N.at B5 (by simp);have d4:=fw G4 0;have d5:=fw G5 0;have f4:=fA G4 0;have f5:=fA G5 0;dsimp at d4 d5;have a6:=HK.trans N;have a7:=N.mono (S':=[w.heap.size+1,w.heap.size+1+1]) (by simp);cases hq:σ.Xd i j with
  |true=>
   have HQ:=fx (show σ.tI j c i=(some i,c.2+1) by unfold Ab.tI;rw[hq];rfl);gi_wp2;have k6:Kept [w.heap.size+1,w.heap.size+1+1] W3 ((W3.setCell ⟨w.heap.size+1,0,none⟩ (fW (L.gp i))).setCell ⟨w.heap.size+1+1,0,none⟩ (fK ((c.2:Int)+1))):=((Kept.refl _ W3).setCell (.inl (by simp)) _).setCell (.inl (by simp)) _;refine⟨a7.trans k6,((a6.setCell (.inr (by simp)) _).setCell (.inr (by simp;omega)) _),k6.at G3 (by simp;omega),?_,?_⟩
   .rw[P.out,HQ.out];exact(Below.heap_setCell _ _ _ _ (by simp)).trans (fI G4 0 _)
   .rw[P.out,HQ.out];exact fI ((Below.heap_setCell _ _ _ _ (by simp)).trans G5) 0 _
  |false=>
   have HQ:=fx (show σ.tI j c i=c by unfold Ab.tI;rw[hq];rfl);gi_wp2;exact⟨a7,a6,G3,by rw[P.out,HQ.out];exact G4,by rw[P.out,HQ.out];exact G5⟩
 case done=>
  rintro D W HD ⟨a8,a4,J,X⟩ z;rw[<-AO]at J X;have aw:(σ.se j σ.act.reverse (none,0)).2<=4096:=by
   rw[AO];have a1:=I2 σ j (Bg σ.act.reverse) (none,0);have a2:=Ue σ.act.reverse;simp at a1 a2;omega
  obtain⟨R,F⟩:∃R,R=N4 j σ:=⟨_,rfl⟩;have Z:=HS;rw[<-F]at Z;have G:R=if 3<=(σ.se j σ.act.reverse (none,0)).2 then (kB (σ.se j σ.act.reverse (none,0)).1>>=λ_=>(lh (some j)>>=λ_=>(Pure.pure ():M Unit))) σ else (lh (some j)>>=λ_=>(Pure.pure ():M Unit)) σ:=F
  generalize σ.se j σ.act.reverse (none,0)=c at *;have c1:=fw a4 0;have c2:=fw J 0;have c3:=fw X 0;dsimp at c1 c2 c3;replace H:=H.k0 a8;replace HS:=Z
  by_cases J:3<=c.2
  .rw[fU J]at G;have HR:=fx G;clear G;have U:σ.gx c.1=true:=by
    cases hq:σ.gx c.1 with
    |true=>rfl
    |false=>
     refine absurd ?_ HS;rw[HR.out,M.fP];unfold kB;rw[hq];rfl
   have ae:Hid (R=(lh (some j)>>=λ_=>(Pure.pure ():M Unit)) {σ with act:=σ.act.erase c.1}):=by
    refine fx ?_;rw[HR.out,M.fP];unfold kB;rw[U];rfl
   have a9:=Xo (af _ a8.drew) c.1 U;have av:=H.lt
   gi_wp2_with fail
   refine wpIn_wide.2 ?_;rename_i K ak _;refine wp_mono (Q:=Exit.then (λa W'=>∃d e b,a={tmps:=#[Bp E,nV L.gp j,undef,fW w.heap.size,fW (w.heap.size+1),fW (w.heap.size+1+1),undef,Bp E,LS V.heap.size,undef,undef,undef,undef,undef,undef,undef,fK c.2,b,Bp E,d,jp E.bB 189,oV L.gp c.1,e,undef,undef,undef],defers:=[{target:=Target.collected D,args:=#[]}]}/\At E L.gp σ.nodes.length w L.gp {σ with act:=σ.act.erase c.1} W'/\Fr E.bs W W'/\Kept (E.bB::L.cv.ownBlock.toList) W W') (λ_ _ _=>False)) ?_ ?_
   .go_region_with (go_at_call 187;refine a9.mono ?_;rintro e w5 ⟨rfl,q2,q3,q4⟩;have ag:=fx ((H.k0 ((Kept.refl _ W).drew)).to q2 (si _ _ rfl) q3);have aa:=fx q3;have ab:=fx (((Kept.refl _ W).drew).trans q4);clear q2 q3 q4)
    all_goals exact⟨_,_,_,rfl,ag.out,(Fr.gv ((Kept.refl _ W).drew)).trans aa.out,ab.out⟩
   .intro e a W' hq;cases e with
    |normal=>
     obtain⟨d,e,b,rfl,ah,ai,aj⟩:=hq;have b2:W'.heap[w.heap.size]?=some (fV #[nV L.gp j] 72):=by
      refine aj.at a4 λhm=>?_;rcases List.mem_cons.1 hm with hm|hm
      .omega
      .grind
     have c1:=fw b2 0;dsimp at c1;have u:=Fr.other (o:= .deferred (some [])) ai z rfl;replace H:=ah;replace z:=u;replace HR:=ae;refine ak _ _ ?_
     gi_wp2_with fail
     refine callsIn_wide.2 ?_;refine aaa (λZ=>De E (some j) _ _ _ H.rel Z) H HR.out HS ?_ ?_
     .intro c p q ws h1 T J X;have u:=Fr.other (o:= .deferred (some [])) X z rfl;refine⟨by simp,.inl ⟨_,_,rfl,ou u,?_⟩⟩;have y:=HZ.out;have hD:=HD;exact JO T J u (by omega) (F.symm.trans h1)
     .rintro a an w2 a0 T a3;have u:=Fr.other (o:= .deferred (some [])) T z rfl;have I:=u;gi_wp2;refine⟨by simp,.inl ⟨_,_,rfl,ou I,?_⟩⟩;have y:=HZ.out;have hD:=HD;refine⟨.tuple #[],?_,Q6 a0 I (by omega) (F.symm.trans a3)⟩;simp[results,results284,go_sem]
    |_=>exact hq.elim
  .rw[gn J]at G;have HR:=fx G;clear G
   gi_wp2_with fail
   refine callsIn_wide.2 ?_;refine aaa (λZ=>De E (some j) _ _ _ H.rel Z) H HR.out HS ?_ ?_
   .intro c p q ws h1 T J X;have u:=Fr.other (o:= .deferred (some [])) X z rfl;refine⟨by simp,.inl ⟨_,_,rfl,ou u,?_⟩⟩;have y:=HZ.out;have hD:=HD;exact JO T J u (by omega) (F.symm.trans h1)
   .rintro a an w2 a0 T a3;have u:=Fr.other (o:= .deferred (some [])) T z rfl;have I:=u;gi_wp2;refine⟨by simp,.inl ⟨_,_,rfl,ou I,?_⟩⟩;have y:=HZ.out;have hD:=HD;refine⟨.tuple #[],?_,Q6 a0 I (by omega) (F.symm.trans a3)⟩;simp[results,results284,go_sem]
 case stop=>rintro D c pre W hD ap h;exact h.elim
end
def DR (σ:Ab) (x:iM) (a:Nat):∀d:j5,({σ with form:=x}:Ab).oh a d=σ.oh a d
 |[]=>rfl
 |y::r=>by
  unfold Ab.oh;rw[DR σ x a r];rfl
def K8 (E:Env) (t:fZ) (O:iL E t):iG E 199 (λ_=>#[Bp E,hH E t]) (pc t) uV:=by
 refine dI λf x w R g HS H=>?_;unfold pc at g;go_enter func199,ntmps199;have⟨kb,lbb,cb,HQ⟩:=H.rel.bounds;have G:=H.lt;have z:=cb;have K:=(Kept.refl [] w).drew
 go_wp21
 go_cut [11]from 4 to 10 (λr wc=>r= .bool (x.inScope (gI [gC]) (io))/\At E f x.nodes.length w f (x.close (gI [gC]) (io)) wc)
 case first=>
  go_region_with (first
   |(go_at_call 225;refine(nf E [gC] w.drew (by simp)).mono ?_;rintro e T ⟨Y,P,rfl,l,u⟩;have d:=K.trans u;have X:T.cell? ⟨E.bB,186,none⟩=some (.func (.func kb) #[] lbb):=(d.cell (p:=⟨E.bB,186,none⟩) G (by simp)).trans z;have y:=fx l;have a:=fx d;clear l u d)
   |(go_at_call 228;refine(Er (p:=gI [gC]) (q:=io) (H.k0 a).rel y (HQ.k0 a)).mono ?_;rintro e Z ⟨rfl,I,J⟩;have N:=fx ((H.k0 a).to I (yr _ _ _) J);clear I J))
  all_goals (try (go_wp21))
  all_goals (go_meet;exact⟨rfl,N⟩)
 case rest=>
  obtain⟨rfl,F⟩:=hcut;replace H:=F;replace g:Hid (R=(ln t>>=λ_=>(pure ():M Unit)) (x.close (gI [gC]) io)):=by
   have:=g;rw[M.fP,ub]at this;exact fx this
  go_wp21
  refine dC (qN E (ij E) t O) H g HS rfl (λ_ _ _ _ h=>And.intro rfl (lS h)) ?_;rintro(_) f x w H V U g;go_wp2;go_end0;exact fL g H rfl
def PO (E:Env) (t:fZ):iG E 218 (λ_=>#[Bp E,hH E t]) (sM) uV:=by
 refine dI λf l w R d HS H=>?_;unfold sM at d;go_enter func218,ntmps218;have⟨kb,lbb,cb,HQ⟩:=H.rel.bounds;have I:=H.lt;have y:=cb;have K:=(Kept.refl [] w).drew
 go_wp21
 go_cut [11]from 4 to 10 (λr wc=>r= .bool (l.inScope (gI [gw]) (io))/\At E f l.nodes.length w f (l.close (gI [gw]) (io)) wc)
 case first=>
  go_region_with (first
   |(go_at_call 225;refine(nf E [gw] w.drew (by simp)).mono ?_;rintro e U ⟨Y,T,rfl,z,G⟩;have x:=K.trans G;have X:U.cell? ⟨E.bB,186,none⟩=some (.func (.func kb) #[] lbb):=(x.cell (p:=⟨E.bB,186,none⟩) I (by simp)).trans y;have J:=fx z;have u:=fx x;clear z G x)
   |(go_at_call 228;refine(Er (p:=gI [gw]) (q:=io) (H.k0 u.out).rel J.out (HQ.k0 u.out)).mono ?_;rintro e Z ⟨rfl,N,O⟩;have P:=fx ((H.k0 u.out).to N (yr _ _ _) O);clear N O))
  all_goals (try (go_wp21))
  all_goals (go_meet;exact⟨rfl,P.out⟩)
 case rest=>
  obtain⟨rfl,F⟩:=hcut;replace H:=F;clear F HQ y K cb I;have g:=d.out;rw[M.fP,ub]at g;simp only at g;cases hc:l.inScope (gI [gw]) io with
  |true=>
   rw[hc]at g;replace d:Hid (R=(zi>>=λa=>(pure a:M Unit)) (l.close (gI [gw]) io)):=fx (M.tail (by simpa using g));clear hc g
   go_wp21
   refine mC (Ro E) H d HS rfl (λ_ _ _ _ h=>And.intro rfl (lS h)) ?_;clear H d;rintro(_) l w H V d;go_wp2;go_end0;exact fL d.out H rfl
  |false=>
   rw[hc]at g;replace d:Hid (R= .ok () (l.close (gI [gw]) io)):=fx (show R=(pure ():M Unit) (l.close (gI [gw]) io)from by simpa using g);clear hc g;go_wp2;go_end0;exact fL d.out H rfl
def Xm (E:Env) (t:fZ):iG E 216 (λ_=>#[Bp E,hH E t]) zp uV:=by
 refine dI λf d w R a HS H=>?_;unfold zp at a;go_enter func216,ntmps216;have p:=H.R4;have F:=H.free 191;have G:=H.lt;cases hf:d.form with
 |none=>
  rw[hf]at p a;replace a:Hid (R= .ok () d):=a;rw[show oV f none= .pointer none from rfl]at p;have x:=H.uW none rfl;rw[show({d with form:=none}:Ab)=d from by rw[<-hf]]at x;replace H:=x;go_wp2;go_end0;exact fL a H rfl
 |some i=>
  have y:=H.rel.aeb;rw[hf]at p a y;rw[show oV f (some i)=fW (f i)from rfl]at p;replace H:=H.uW none rfl;have C:=Gx H.rel i y;have l:({d with form:=none}:Ab).oW i=d.oW i:=DR d none i _;rw[l]at C;cases hc:d.oW i with
  |true=>
   rw[hc]at C;have q:=fx C;have g:=a;simp only[hc,wC]at g;replace a:Hid (R=(wj (λd=>d.mB)>>=λ_=>(do jY (some i);return ():M Unit)) {d with form:=none}):=fx g;clear C g
   go_wp21
   refine q.mono ?_;rintro e w ⟨rfl,u⟩;replace H:=H.k0 u
   go_wp21
   refine AQ (λ_=>Kn H.rel) H a HS (λ_ _ _ _ h=>And.intro rfl (lS h)) ?_;rintro(_) d w H z a
   go_wp21
   refine mC (D0 E (some i)) H a HS rfl (λ_ _ _ _ h=>And.intro rfl (lS h)) ?_;rintro(_) d w H z a;go_wp2;go_end0;exact fL a H rfl
  |false=>
   rw[hc]at C;have q:=fx C;have g:=a;simp only[hc,rL,wA]at g;replace a:Hid (R= .ok () {d with form:=none}):=fx g;clear C g
   go_wp21
   refine q.mono ?_;rintro e w ⟨rfl,u⟩;replace H:=H.k0 u;go_wp2;go_end0;exact fL a H rfl
attribute [local go_sem] Oper.semAt_some
def RF.wf {σ:Ab} (h:RF E f σ w):Wf σ:=by have⟨L,_,hr⟩:=h;exact hr.wf
theorem Bl {xs : j5} {n : Int} (h:gU xs n=some i):some i∈xs:=by
 unfold gU at h
 grind
def Wf.JX {σ:Ab} (h:Wf σ) (a:σ.last=some i):∃e,σ.gF i=some e:=by
 have d:some i∈σ.fQ:=Bl a;exact Option.isSome_iff_exists.1 (h.fQ _ d)
theorem WH {d:Type} {σ:Ab} {R:qI d} {K:Nat->M d} (a:R=(IC>>=K) σ) (g:R≠ .stuck):∃i,σ.last=some i/\R=K i σ:=by
 rw[M.fP]at a;unfold IC at a
 grind
def nW (E:Env) (t:fZ) (u:iL E t):iG E 206 (λ_=>#[Bp E,hH E t]) (iE t) uV:=by
 refine dI λf d w R a HS H=>?_;unfold iE at a;go_enter func206,ntmps206
 go_wp21
 refine dC (qN E (ij E) t u) H a HS rfl (λ_ _ _ _ h=>And.intro rfl (lS h)) ?_;rintro(_) f d w H x p a;have y:=H.lt;have⟨i,hi,hR2⟩:=WH a HS;have⟨e,he⟩:=H.rel.wf.JX hi;have l:=H.rel.RH;replace a:=fx hR2;clear hR2
 go_wp21
 refine l.mono ?_;rintro e g ⟨rfl,rfl⟩;rw[hi]
 go_wp21
 refine AQ (λq=>(show Calls prog 284 #[Bp E,nV f i] g (jT E f d.nodes.length g (N4 i d) uV)from ae7 H.rel i he q)) H a HS (λ_ _ _ _ h=>And.intro rfl (lS h)) ?_;rintro(_) d w H p a;go_wp2;go_end0;exact fL a H rfl
attribute [local go_sem] Oper.semAt_some
def RF.aez {σ:Ab} (h:RF E f σ w) (x:iM) (a:σ.gx x=true):Calls prog 246 #[jp E.bB 188,oV f x] w λe w'=>e=gO (oV f (gU σ.fQ (posOf σ.fQ x - 1)))/\w'=w:=by
 obtain⟨L,rfl,hr⟩:=h;exact y8 hr x a
theorem Ai (E:Env) (t:fZ):iG E 151 (λ_=>#[Bp E,hH E t]) iS uV:=by
 intro f d w h hs;obtain⟨R,V⟩:∃R,R=iS d:=⟨_,rfl⟩;rw[<-V]at hs|-;have HS:=fx hs;have y:=fx h;have X:=fx (λW (hk:Kept [] w W)=>lz h.lt hk.size);cases hcu:d.current (gI [fY])with
 |false=>
  have p:=fx (show R=(pQ (gI [fJ])>>=λ_=>(Pure.pure ():M Unit)) d by rw[V];grind[iS]);have O:=fx hcu;clear h hs V hcu;go_enter func151,ntmps151
  go_wp21
  refine uN (by rfl) ?_;refine pJ (λ(g:gh) z=>⟨#[Bp E,hH E t,undef,undef,cd z 0 (Bp E),cd z 1 (g),cd z 2 (.bool false),cd z 3 (.bool false),undef,undef,undef,undef,undef,undef,undef,undef,undef,undef,undef,undef,undef,cd z 17 (.bool false),undef,undef,undef,undef,undef,undef,undef],[]⟩) (λg z W=>Kept [] w W/\(dn z 1=true->Rw E g (gI [fY]) W)) 18 [[],[],[0,1],[2],[3],[3],[3],[3],[3],[3],[3],[3],[3],[3],[3],[3],[3],[3]] (undef) rfl (by rfl) (⟨(Kept.refl _ _).drew,λh=>by cases h⟩) ?_ ?_
  .repeat' first|exact mO|refine mJ ?_ ?_
   all_goals
    rintro g z W a G hn;simp[Dd]at G;refine jE rfl ?_;intro K' l;simp only[kY,G];have a5:=X.out W a.1;go_simp
    first
    |refine l _ _ ⟨g,?_,a.1,pP a.2 (by decide)⟩
    |refine(ud E W).mono ?_;rintro e P ⟨k,N,rfl,K,x⟩;refine l _ _ ⟨_,?_,a.1.trans x,λ_=>⟨k,N,rfl,K⟩⟩
    |refine(Br (y.out.gJ a.1) (a.2 G.2.1).choose_spec.choose_spec.2).mono ?_;rintro e P ⟨rfl,rfl⟩;rw[O.out];refine l _ _ ⟨g,?_,a.1,pP a.2 (by decide)⟩
    simp[oG,vC,kY,G]
  .rintro g W a;simp only[vn];have H:=fx ((At.start y.out).k0 a.1);clear a
   go_wp21
   refine(rh E _).mono ?_;rintro e w1 ⟨k1,a0,rfl,q,u⟩;replace H:=fx (H.out.k0 u);have F:=fx q;clear q u
   go_wp21
   refine AQ (λ_=>vO H.out.rel F.out) H p HS (λ_ _ _ _ h=>And.intro rfl (lS h)) ?_;clear H p;rintro(_) d w H HF p;go_wp2;go_end0;exact fL p.out H.out rfl
 |true=>
  obtain⟨i,U⟩:∃i,gU d.fQ (posOf d.fQ d.last - 1)=some i:=by
   cases hq:gU d.fQ (posOf d.fQ d.last - 1)with
   |some i=>simp
   |none=>unfold iS at V;grind
  have Y:=fx (show R=(if ku (d.nm i) fJ then (do
    let _ <-yd
    pQ (gI [fJ])
    return ():M Unit) d else (do pQ (gI [fJ]);return ():M Unit) d) by rw[V];grind[iS])
  have Z:some i∈d.fQ:=Bl U;obtain⟨ei,T⟩:∃e,d.gF i=some e:=Option.isSome_iff_exists.1 (h.wf.fQ _ Z);have I:d.gx d.last=true:=by
   cases hl:d.last with
   |none=>rfl
   |some j=>exact Ab.vL (h.wf.fQ _ (Bl hl))
  have a2:=fx I;have a1:=fx U;have a4:=fx (λW (hk:Kept [] w W)=>(by
   have⟨L,e,hr⟩:=h.gJ hk;rw[<-e];exact hr.vh T:W.cell? ⟨f i,0,none⟩=some (fR (d.nm i))))
  have a3:=fx (λW (hk:Kept [] w W)=>(by
   have⟨L,e,hr⟩:=h.gJ hk;rw[<-e];exact hr.I9 (Ab.gL T):f i < W.heap.size))
  have O:=fx hcu;clear h hs V hcu U Z T I;go_enter func151,ntmps151
  go_wp21
  refine uN (by rfl) ?_;refine pJ (λ(g:gh×gh) z=>⟨#[Bp E,hH E t,undef,undef,cd z 0 (Bp E),cd z 1 (g.1),cd z 2 (.bool true),cd z 3 (.bool true),cd z 4 (g.2),cd z 5 (Bp E),cd z 6 (fW E.bB),cd z 7 (jp E.bB 188),cd z 8 (Bp E),cd z 9 (fW E.bB),cd z 10 (jp E.bB 188),cd z 11 (oV f d.last),cd z 12 (nV f i),cd z 13 (fW (f i)),cd z 14 (fW (f i)),cd z 15 (fR (d.nm i)),cd z 16 (.bool (gI [fJ] (d.nm i))),cd z 17 (.bool (gI [fJ] (d.nm i))),undef,undef,undef,undef,undef,undef,undef],[]⟩) (λg z W=>Kept [] w W/\(dn z 1=true->Rw E g.1 (gI [fY]) W)/\(dn z 4=true->Rw E g.2 (gI [fJ]) W)) 18 [[],[],[0,1],[2],[3],[3],[3,5],[3,6],[3],[3,8],[3,9],[3,10],[3,7,11],[3,12],[3,13],[3,14],[3,4,15],[3,16]] ((undef,undef)) rfl (by rfl) (⟨(Kept.refl _ _).drew,λh=>(by cases h),λh=>(by cases h)⟩) ?_ ?_
  .repeat' first|exact mO|refine mJ ?_ ?_
   all_goals
    rintro g z W a G hn;simp[Dd]at G;refine jE rfl ?_;intro K' l;simp only[kY,G];have a5:=X.out W a.1;have a6:=a3.out W a.1;have cc:=a4.out W a.1;go_simp
    first
    |refine l _ _ ⟨g,?_,a.1,pP a.2.1 (by decide),pP a.2.2 (by decide)⟩
    |refine(ud E W).mono ?_;rintro e P ⟨k,N,rfl,K,x⟩;refine l _ _ ⟨(.func (.func k) #[] N,g.2),?_,a.1.trans x,λ_=>⟨k,N,rfl,K⟩,pP (λh=>(a.2.2 h).k x) (by decide)⟩
    |refine(rh E W).mono ?_;rintro e P ⟨k,N,rfl,K,x⟩;refine l _ _ ⟨(g.1,.func (.func k) #[] N),?_,a.1.trans x,pP (λh=>(a.2.1 h).k x) (by decide),λ_=>⟨k,N,rfl,K⟩⟩
    |refine(Br (y.out.gJ a.1) (a.2.1 G.2.1).choose_spec.choose_spec.2).mono ?_;rintro e P ⟨rfl,rfl⟩;rw[O.out];refine l _ _ ⟨g,?_,a.1,pP a.2.1 (by decide),pP a.2.2 (by decide)⟩
    |refine(y.out.gJ a.1).RH.mono ?_;rintro e P ⟨rfl,rfl⟩;refine l _ _ ⟨g,?_,a.1,pP a.2.1 (by decide),pP a.2.2 (by decide)⟩
    |refine((y.out.gJ a.1).aez d.last a2.out).mono ?_;rintro e P ⟨rfl,rfl⟩;rw[a1.out,show oV f (some i)=nV f i from rfl];refine l _ _ ⟨g,?_,a.1,pP a.2.1 (by decide),pP a.2.2 (by decide)⟩
    |have⟨k,N,e4,K⟩:=a.2.2 (by simp[G]);rw[e4]at K;have⟨k2,lb2,e5,eg,hcl⟩:=K.call;cases e5;simp only[e4];go_simp;refine(hcl W (wS.refl _ _) _).mono ?_;rintro e P ⟨rfl,rfl⟩;refine l _ _ ⟨g,?_,a.1,pP a.2.1 (by decide),pP a.2.2 (by decide)⟩;simp[vC,oG,kY,G,e4]
    all_goals simp[oG,vC,kY,G]
  .rintro g W a;simp only[vn];have H:=fx ((At.start y.out).k0 a.1);clear a;cases hq:gI [fJ] (d.nm i)with
   |false=>
    have J:ku (d.nm i) fJ=false:=by simpa [gI]using hq
    replace p:=fx (show R=(pQ (gI [fJ])>>=λ_=>(Pure.pure ():M Unit)) d by rw[Y.out,J];rfl);clear hq J
    go_wp21
    refine(rh E _).mono ?_;rintro e w1 ⟨k1,a0,rfl,q,u⟩;replace H:=fx (H.out.k0 u);have F:=fx q;clear q u
    go_wp21
    refine AQ (λ_=>vO H.out.rel F.out) H p HS (λ_ _ _ _ h=>And.intro rfl (lS h)) ?_;clear H p;rintro(_) d w H HF p;go_wp2;go_end0;exact fL p.out H.out rfl
   |true=>
    have J:ku (d.nm i) fJ=true:=by simpa [gI]using hq
    replace p:=fx (show R=(yd>>=λ_=>pQ (gI [fJ])>>=λ_=>(Pure.pure ():M Unit)) d by rw[Y.out,J];rfl);clear hq J;have a7:=H.out.lt
    go_wp21
    refine mC (Yj E) H p HS rfl (λ_ _ _ _ h=>And.intro rfl (lS h)) ?_;clear H p;rintro(_) d w H HF p
    go_wp21
    refine(rh E _).mono ?_;rintro e w1 ⟨k1,a0,rfl,q,u⟩;replace H:=fx (H.out.k0 u);have F:=fx q;clear q u
    go_wp21
    refine AQ (λ_=>vO H.out.rel F.out) H p HS (λ_ _ _ _ h=>And.intro rfl (lS h)) ?_;clear H p;rintro(_) d w H HF p;go_wp2;go_end0;exact fL p.out H.out rfl
attribute [local go_sem] Oper.semAt_some
theorem Ur (E:Env) {σ σ':Ab} (h:RF E f σ W) (s:fN) (c:Bool) (k:Nat) (V:W.heap[k]?=some (fV #[fR s] (if c then 239 else 243))) (I:∀i,i < σ.nodes.length->f i < k) (z:E.bs<=k) (pl:Nat×Nat) (d:oT pl (if c then .cm s else .dt s) (if c then Nd.cm else Nd.dt) σ= .ok () σ'):
  Calls prog 175 #[pV f pl,((if c then Nd.cm else Nd.dt) k).val] W λe W'=>e=oS/\∃g,RS σ.nodes.length f g/\σ.nodes.length<=σ'.nodes.length/\RF E g σ' W'/\Fr E.bs W W':=by
 obtain⟨L,rfl,hr⟩:=h;obtain⟨q,p⟩:∃q:Cd,q=if c then .cm s else .dt s:=⟨_,rfl⟩
 obtain⟨x,a⟩:∃x:Nat->Nd,x=if c then Nd.cm else Nd.dt:=⟨_,rfl⟩
 rw[<-p,<-a]at d;rw[<-a];have J:∀e,q≠ .el e:=by intro e;rw[p];cases c<;>simp
 have H:∀i j,x i≠ .el j:=by intro i j;rw[a];cases c<;>simp
 have K:Rel E (L.new σ.nodes.length k (iQ) (iQ)) (σ.add q) W:=by
  refine hr.ac1 q k (iQ) (iQ) σ.fresh (Kept.refl _ _) I z ?_ rfl (λe R=>absurd R (J e)) (λ_ _ _ _ _ u=>by cases u) (λ_ _ _ _ _ _ u=>by cases u) (λ_=>rfl) (λT=>⟨T,λ_ _=>by simp[Value.ownBlock]⟩) (λ_ u=>by cases u);rw[p];cases c with
  |true=>show _=_;grind[Loc.new]
  |false=>show _=_;grind[Loc.new]
 unfold oT zQ at d;cases l:(σ.add q).gF pl.1 with
 |none=>rw[l]at d;cases d
 |some ei=>
  rw[l]at d;dsimp only at d;split at d
  .rename_i F;cases d;have G:pl.1 < σ.nodes.length:=by
    have u:=Ab.gL l;have U:(σ.add q).nodes.length=σ.nodes.length+1:=by simp[Ab.add]
    rcases mq pl.1 σ.nodes.length with h|h
    .exact h
    .have e1:pl.1=σ.nodes.length:=by omega
     rw[e1,Ab.vE]at l
     grind
   have C:=Qk K l F.1 (H _) F.2.1 F.2.2;have e1:place ((L.new σ.nodes.length k (iQ) (iQ)).gp pl.1) pl.2=pV L.gp pl:=by rw[Loc.A9 G]
   have e2:(Nd.map (L.new σ.nodes.length k (iQ) (iQ)).gp (x σ.nodes.length))=x k:=by
    have y:(L.new σ.nodes.length k (iQ) (iQ)).gp σ.nodes.length=k:=Loc.sX;rw[a];cases c
    .show Nd.dt _=Nd.dt k;rw[y]
    .show Nd.cm _=Nd.cm k;rw[y]
   rw[e1,e2]at C;refine C.mono ?_;rintro e W' ⟨rfl,N,y,P,O⟩;refine⟨rfl,N.gp,λi l=>?_,?_,⟨N,rfl,P⟩,O⟩
   .rw[y];exact Loc.A9 l
   .rw[Ab.nr];simp[Ab.add]
  .cases d
structure DO (E:Env) (pf:Nat) (own:Bool) (pm:M (Nat×Nat)):Prop where
 fp:∀args w,(callFunc pf args).run prog w= .ok (.enter pf args) w
 same:∀σ pl σ1,pm σ= .ok pl σ1->σ1=σ
 M0:∀σ c p,pm σ≠ .stop c p
 abI:∀f σ w,RF E f σ w->pm σ≠ .stuck->Calls prog pf #[gV (if own then E.bB else f 0)] w (jT E f σ.nodes.length w (pm σ) pV)
def nH (d:M (Nat×Nat)) (t:fZ):M Unit:=match t.k with
 | .gm s=>do
  let a <-d
  oT a (.cm s) .cm
  return ()
 |_=>return ()
def Xy (E:Env) (f:Nat->Nat) (σ:Ab) (T:TypeId) (s:fN) (v:gh) (W:fO):Prop:=∃k,v=fW k/\W.heap[k]?=some (fV #[fR s] T)/\(∀i,i < σ.nodes.length->f i < k)/\E.bs<=k
def Xy.fr {σ:Ab} (h:Xy E f σ 239 s v W) (a:Fr E.bs W W'):Xy E f σ 239 s v W':=by
 have⟨k,e,h1,h2⟩:=h;exact⟨k,e,a.zO h1 (by decide),h2⟩
def Xy.eB {σ:Ab} (h:Xy E f σ 243 s v W) (a:Fr E.bs W W'):Xy E f σ 243 s v W':=by
 have⟨k,e,h1,h2⟩:=h;exact⟨k,e,a.zO h1 (by decide),h2⟩
def Xy.new {σ:Ab} {T : TypeId} (h:RF E f σ W) (s:fN):Xy E f σ T s (fW W.heap.size) (W.alloc (fV #[fR s] T)):=by
 obtain⟨L,rfl,hr⟩:=h;exact⟨_,rfl,fB W _,λi a=>hr.I9 a,hr.bw⟩
theorem R5 (E:Env) (pf:Nat) (own:Bool) (J:M (Nat×Nat)) (R:DO E pf own J) (t:fZ) (X:Nat) {σ:Ab} (h:RF E f σ w) (hs:nH J t σ≠ .stuck) (K:box w X (.func (.func pf) #[gV (if own then E.bB else f 0)] #[]) 211):
  Calls prog 174 #[hH E t,gV X] w (Leaves E f σ.nodes.length w (nH J t σ) uV):=by
 have P:=fx (At.start h);have⟨a,b,k,fX⟩:=t;cases k with
 |gm s=>
  have hx:∃x l,J σ= .ok x σ/\oT x (.cm s) .cm σ= .ok () l/\nH J ⟨a,b,.gm s,fX⟩ σ= .ok () l:=by
   have Y:nH J ⟨a,b,.gm s,fX⟩ σ=(J>>=λx=>oT x (.cm s) .cm>>=λ_=>(Pure.pure ():M Unit)) σ:=rfl;rw[M.fP]at Y;cases hq:J σ with
   |ok x σ1=>
    obtain rfl:=R.same _ _ _ hq;rw[hq]at Y;cases hq2:oT x (.cm s) .cm σ1 with
    |ok u l=>exact⟨x,l,rfl,hq2,by rw[Y];dsimp only;rw[M.fP,hq2];rfl⟩
    |stop c p=>
     exfalso;unfold oT zQ at hq2
     grind
    |stuck=>exact absurd (by rw[Y];dsimp only;rw[M.fP,hq2]) hs
   |stop c p=>exact absurd hq (R.M0 _ _ _)
   |stuck=>grind
  have⟨x,l,hq1,hq2,hq3⟩:=hx;rw[hq3];have N:=λW (hW:RF E f σ W)=>R.abI f σ W hW (by grind);rw[hq1]at N;have eg:=R.fp;simp only[hH];have d:=qG underlying198;obtain⟨G,F⟩:∃G,G=w.alloc (fV #[fK a,fK b,fR s] 198):=⟨_,rfl⟩;have O:Kept [] w G:=by rw[F];exact(Kept.refl _ _).alloc _
  have U:G.heap[w.heap.size]?=some (fV #[fK a,fK b,fR s] 198):=by rw[F];exact fB w _
  have I:=O.at K (by simp);have HC:=fx (λW (hF:Fr E.bs G W)=>(⟨by rw[fw (hF.zO I (by decide))];rfl,by rw[fw (hF.zO U (by decide))];rfl⟩:W.cell? ⟨X,0,none⟩=some (.func (.func pf) #[gV (if own then E.bB else f 0)] #[])/\W.cell? ⟨w.heap.size,2,none⟩=some (fR s)));have HW:=fx F.symm;have HA:=fx (P.out.k0 O);have a1:=fx N;have a0:=fx eg;have a2:=fx hq2;have HN:=fx (λi (hi:i < σ.nodes.length)=>(show f i < G.heap.size by
   have⟨L,e,hr⟩:=(P.out.k0 O).rel;rw[<-e];exact hr.I9 hi))
  have a4:=fx (show E.bs<=G.heap.size by
   have⟨L,e,hr⟩:=(P.out.k0 O).rel;exact hr.bw)
  clear h hs K R hq1 hq2 hq3 N eg U I O F P;go_enter func174,ntmps174
  go_wp21
  rw[HW.out];refine uN (by rfl) ?_;refine pJ (λ(g:gh) z=>⟨#[.iface 198 (.agg #[fK a,fK b,fR s]),gV X,undef,fW w.heap.size,.bool true,.tuple #[.agg #[fK a,fK b,fR s],.bool true],.iface 198 (.agg #[fK a,fK b,fR s]),.tuple #[.agg #[fK a,fK b,fR s],.bool true],.agg #[fK a,fK b,fR s],.bool true,.bool true,cd z 0 (.func (.func pf) #[gV (if own then E.bB else f 0)] #[]),cd z 1 (pV f x),cd z 2 (jp w.heap.size 2),cd z 3 (fR s),cd z 4 (.agg #[fR s]),cd z 5 (g),cd z 6 (.iface 237 g),cd z 7 (.tuple #[])],[]⟩) (λg z W=>if dn z 7=true then (∃Z,RS σ.nodes.length f Z/\σ.nodes.length<=l.nodes.length/\RF E Z l W/\Fr E.bs G W)else (RF E f σ W/\Fr E.bs G W/\(dn z 5=true->Xy E f σ 239 s g W))) 8 [[],[0],[],[2],[3],[4],[5],[0,1,2,3,4,5,6]] (undef) rfl (by rfl) (⟨HA.out.rel.gJ (Kept.refl _ _).drew,Fr.gv (Kept.refl _ _).drew,λh=>by cases h⟩) ?_ ?_
  .repeat' first|exact mO|refine mJ ?_ ?_
   all_goals
    rintro g z W hI T hn;simp[Dd]at T;refine jE rfl ?_;intro K' y;simp only[kY,T];have hb:dn z 7=false:=by simp[T,hn]
    have q:=(gn (by simp[hb])).mp hI;have⟨cc,c2⟩:=HC.out W q.2.1;have eg:=a0.out;go_simp
    first
    |refine y _ _ ⟨g,?_,(gn (by simp[oH,hb])).mpr ⟨q.1,q.2.1,pP q.2.2 (by decide)⟩⟩
    |refine(a1.out W q.1).mono ?_;rintro e W2 ⟨rfl,a3,V,_⟩;refine y _ _ ⟨g,?_,(gn (by simp[oH,hb])).mpr ⟨a3,q.2.1.trans V,pP (λh=>(q.2.2 h).fr V) (by decide)⟩⟩
    |have ka:Kept [] W (W.alloc (fV #[fR s] 239)):=(Kept.refl _ _).alloc _;refine y _ _ ⟨_,?_,(gn (by simp[oH,hb])).mpr ⟨q.1.gJ ka,q.2.1.trans (.gv ka),λ_=>Xy.new q.1 s⟩⟩;have h9:dn z 6=false:=(by simp[hn]);simp[oG,vC,kY,adm,T,h9]
    |obtain⟨k,rfl,O,k2,k3⟩:=q.2.2 (by simp[T]);refine(Ur E q.1 s true k O k2 k3 x a2.out).mono ?_;rintro e W2 ⟨rfl,Z,g1,g2,g3,g4⟩;refine y _ _ ⟨fW k,?_,(fU rS).mpr ⟨Z,g1,g2,g3,q.2.1.trans g4⟩⟩
    all_goals simp[oG,vC,kY,T]
  .rintro g W hI;have⟨f2,g1,g2,g3,g4⟩:=(fU xZ).mp hI;simp only[vn];have G3:=fx g3;have G4:=fx (HA.out.fr.trans g4);clear hI g3 g4;go_wp2
   all_goals go_end0
   all_goals exact⟨f2,g1,g2,rfl,G3.out,G4.out⟩
 |_=>
  change Calls _ _ _ _ (Leaves E f _ w (.ok () σ) uV);simp only[hH];have d:=sE;have H:=fx (P.out.k0 ((Kept.refl [] w).alloc (fV #[fK 0,fK 0,fR js] 198)));clear h hs K R P;go_enter func174,ntmps174;go_wp2;go_end0;exact fL rfl H.out rfl
attribute [local go_sem] Oper.semAt_some
theorem GH (E:Env) (t:fZ):iG E 100 (λ_=>#[Bp E,hH E t]) (ox t) uV:=by
 intro f l w h hs;have T:=fx (At.start h);have⟨a,b,k,fX⟩:=t;cases k with
 |gP n q=>
  have hx:∃G F,jf 0 l= .ok G l/\oT G (.dt n) .dt l= .ok () F/\ox ⟨a,b,.gP n q,fX⟩ l= .ok () {F with iP:=q||!ku n fy,mode:=1}:=by
   have e0:ox ⟨a,b,.gP n q,fX⟩ l=(jf 0>>=λG=>oT G (.dt n) .dt>>=λ_=>(do wj λl=>{l with iP:=q||!ku n fy};ju 1;return ():M Unit)) l:=rfl;rw[M.fP]at e0;cases hq:jf 0 l with
   |ok G σ1=>
    obtain rfl:=pn hq;rw[hq]at e0;cases d:oT G (.dt n) .dt σ1 with
    |ok u F=>exact⟨G,F,rfl,d,by rw[e0];dsimp only;rw[M.fP,d];rfl⟩
    |stop c p=>
     exfalso;unfold oT zQ at d
     grind
    |stuck=>exact absurd (by rw[e0];dsimp only;rw[M.fP,d]) hs
   |stop c p=>
    exfalso;unfold jf at hq
    grind
   |stuck=>grind
  have⟨G,F,hq1,d,hq3⟩:=hx;obtain⟨R,hR⟩:∃R,R=ox ⟨a,b,.gP n q,fX⟩ l:=⟨_,rfl⟩;rw[<-hR];have x:=fx (hR.trans hq3);have O:=λW (hW:RF E f l W)=>GG E 0 f l W hW (by grind);rw[hq1]at O;simp only[hH];have y:=qG underlying200;obtain⟨K,J⟩:∃K,K=w.alloc (fV #[fK a,fK b,fR n,.bool q] 200):=⟨_,rfl⟩;have k1:Kept [] w K:=by rw[J];exact(Kept.refl _ _).alloc _
  have N:K.heap[w.heap.size]?=some (fV #[fK a,fK b,fR n,.bool q] 200):=by rw[J];exact fB w _
  have a0:=fx N;have HC:=fx (λW (hF:Fr E.bs K W)=>(by rw[fw (hF.zO N (by decide))];rfl:W.cell? ⟨w.heap.size,2,none⟩=some (fR n)));have U:=fx (λW (hW:RF E f l W)=>(show W.cell? ⟨E.bB,187,none⟩=some (nV f 0) by have h1:=(At.start hW).xL;exact h1));have a1:=fx (λW (hF:Fr E.bs K W)=>(lz (T.out.k0 k1).lt hF.size:E.bB < W.heap.size));have HW:=fx J.symm;have HA:=fx (T.out.k0 k1);have a2:=fx O;have a3:=fx d;clear h hs hq1 d hq3 O N k1 J T hR;go_enter func100,ntmps100
  go_wp21
  rw[HW.out];refine uN (by rfl) ?_;refine pJ (λ(g:gh) z=>⟨#[Bp E,.iface 200 (.agg #[fK a,fK b,fR n,.bool q]),undef,undef,fW w.heap.size,.bool true,.tuple #[.agg #[fK a,fK b,fR n,.bool q],.bool true],.iface 200 (.agg #[fK a,fK b,fR n,.bool q]),.tuple #[.agg #[fK a,fK b,fR n,.bool q],.bool true],.agg #[fK a,fK b,fR n,.bool q],.bool true,.bool true,cd z 0 (Bp E),cd z 1 (fW E.bB),cd z 2 (jp E.bB 187),cd z 3 (nV f 0),cd z 4 (pV f G),cd z 5 (jp w.heap.size 2),cd z 6 (fR n),cd z 7 (.agg #[fR n]),cd z 8 (g),cd z 9 (.iface 241 g),cd z 10 (.tuple #[]),undef,undef,undef,undef,undef,undef,undef,undef,undef,undef,undef,undef,undef],[]⟩) (λg z W=>if dn z 10=true then (∃f',RS l.nodes.length f f'/\l.nodes.length<=F.nodes.length/\RF E f' F W/\Fr E.bs K W)else (RF E f l W/\Fr E.bs K W/\(dn z 8=true->Xy E f l 243 n g W))) 11 [[],[0],[1],[2],[3],[],[5],[6],[7],[8],[0,1,2,3,4,5,6,7,8,9]] (undef) rfl rfl (⟨HA.out.rel.gJ (Kept.refl _ _).drew,Fr.gv (Kept.refl _ _).drew,λh=>by cases h⟩) ?_ ?_
  .repeat' first|exact mO|refine mJ ?_ ?_
   all_goals
    rintro g z W hI P hn;simp[Dd]at P;refine jE rfl ?_;intro K' I;simp only[kY,P];have hb:dn z 10=false:=by simp[P,hn]
    have q:=(gn (by simp[hb])).mp hI;have a6:=a1.out W q.2.1;have cc:=U.out W q.1;have c2:=HC.out W q.2.1;go_simp
    first
    |refine I _ _ ⟨g,?_,(gn (by simp[oH,hb])).mpr ⟨q.1,q.2.1,pP q.2.2 (by decide)⟩⟩
    |refine(a2.out W q.1).mono ?_;rintro e W2 ⟨rfl,a5,Z,_⟩;refine I _ _ ⟨g,?_,(gn (by simp[oH,hb])).mpr ⟨a5,q.2.1.trans Z,pP (λh=>(q.2.2 h).eB Z) (by decide)⟩⟩
    |have ka:Kept [] W (W.alloc (fV #[fR n] 243)):=(Kept.refl _ _).alloc _;refine I _ _ ⟨_,?_,(gn (by simp[oH,hb])).mpr ⟨q.1.gJ ka,q.2.1.trans (.gv ka),λ_=>Xy.new q.1 n⟩⟩;have h9:dn z 9=false:=(by simp[hn]);simp[oG,vC,kY,adm,P,h9]
    |obtain⟨k,rfl,k1,k2,k3⟩:=q.2.2 (by simp[P]);refine(Ur E q.1 n false k k1 k2 k3 G a3.out).mono ?_;rintro e W2 ⟨rfl,f',g1,g2,g3,Y⟩;refine I _ _ ⟨fW k,?_,(fU rS).mpr ⟨f',g1,g2,g3,q.2.1.trans Y⟩⟩
    all_goals simp[oG,vC,kY,P]
  .rintro g W hI;have⟨f2,g1,g2,g3,Y⟩:=(fU xZ).mp hI;simp only[vn];have H:=fx (HA.out.go g3 g1 g2 Y);have V:=fx (Y.zO a0.out (by decide));clear hI g3 Y HC U;have c0:W.cell? ⟨w.heap.size,2,none⟩=some (fR n):=by rw[fw V.out];rfl
   have c4:W.cell? ⟨w.heap.size,3,none⟩=some (.bool q):=by rw[fw V.out];rfl
   have c1:=H.out.YR;have f1:=H.out.free 196;have c2:=H.out.rK;have f2:=H.out.free 192;have a4:=H.out.lt;cases q with
   |true=>
    have X:=fx ((H.out.qs true).iI 1);clear H;go_wp2;go_end0;exact fL x.out X.out rfl
   |false=>
    cases hq:ku n fy with
    |true=>
     have d:(n.toList==[104,116,109,108])=true:=by
      have e4:(fy:fN).toList=[104,116,109,108]:=by first|rfl|decide|simp
      rw[<-e4];exact hq
     have X:=fx ((H.out.qs false).iI 1);rw[hq]at x;clear H hq;go_wp2;go_end0;exact fL x.out X.out rfl
    |false=>
     have d:(n.toList==[104,116,109,108])=false:=by
      have e4:(fy:fN).toList=[104,116,109,108]:=by first|rfl|decide|simp
      rw[<-e4];exact hq
     have X:=fx ((H.out.qs true).iI 1);rw[hq]at x;clear H hq;go_wp2;go_end0;exact fL x.out X.out rfl
 |_=>
  change Calls _ _ _ _ (Leaves E f _ w (.ok () {l with mode:=1}) uV);simp only[hH];have y:=vQ;have H:=fx (T.out.k0 ((Kept.refl [] w).alloc (fV #[fK 0,fK 0,fR js,.bool false] 200)));have c2:=H.out.rK;have f2:=H.out.free 192;have a4:=H.out.lt;replace H:=fx (H.out.iI 1);clear h hs T;go_enter func100,ntmps100;go_wp2;go_end0;exact fL rfl H.out rfl
def Sd (L:Loc) (w:fO) (k:Nat) (v:gh):Prop:=w.heap[k]?=some (fV #[v] 72)/\L.ov.ownBlock≠some k/\L.cv.ownBlock≠some k
def ZL (E:Env) (L:Loc) (σ':Ab) (w w':fO):Prop:=∃a,a.gp=L.gp/\Rel E a σ' w'/\Fr E.bs w w'/\∀k v,Sd L w k v->Sd a w' k v
theorem Sd.YH {u : gh} (h:Sd L w k v) (d:Kept (b::u.ownBlock.toList) w w') (g:w.heap[b]?=some (fV C 180)) (l:u.ownBlock≠some k):w'.heap[k]?=some (fV #[v] 72):=by
 refine d.at h.1 λa=>?_;rcases List.mem_cons.1 a with rfl|a
 .have:=h.1
  grind
 grind
def Sd.Dh (h:Sd L w k v) (l:Kept (b::L.ov.ownBlock.toList) w w') (d:w.heap[b]?=some (fV C 180)) (a:v'.ownBlock=L.ov.ownBlock\/∀g,v'.ownBlock=some g->w.heap.size<=g):Sd {L with ov:=v'} w' k v:=by
 refine⟨h.YH l d h.2.1,λe=>?_,h.2.2⟩;rcases a with a|a
 .exact h.2.1 (a▸e)
 .have:=a k e;have:=iB h.1;omega
def Sd.An (h:Sd L w k v) (l:Kept (b::L.cv.ownBlock.toList) w w') (d:w.heap[b]?=some (fV C 180)) (a:v'.ownBlock=L.cv.ownBlock\/∀g,v'.ownBlock=some g->w.heap.size<=g):Sd {L with cv:=v'} w' k v:=by
 refine⟨h.YH l d h.2.2,h.2.1,λe=>?_⟩;rcases a with a|a
 .exact h.2.2 (a▸e)
 .have:=a k e;have:=iB h.1;omega
theorem Rel.Uu {σ:Ab} (h:Rel E L σ w) (d:xo E.bs E.bB 188 180 C L.ov (σ.fQ.map (gX L.gp)) w) (z:jg E L σ C) {p : j5} (J:oA E.bs E.bB 188 180 C L.ov (p.map (gX L.gp)) w w') (K:∀x∈p,σ.lH x=true):ZL E L {σ with fQ:=p} w w':=by
 have⟨v',L1,k1,f1⟩:=J;have a:KT E.bs [180,72] w w':= .jl k1 (λk l _=>by
  rcases List.mem_cons.1 l with rfl|l
  .exact⟨⟨_,_,_,d.gR,by simp⟩,h.bB⟩
  .obtain⟨c,m,F⟩:=pW d.row (by simpa using l);exact⟨⟨_,_,_,F,by simp⟩,(d.row.lt k (by simpa using l)).1⟩)
 have q:∀g,L.cv.ownBlock=some g->g∉E.bB::L.ov.ownBlock.toList:=by
  intro g hg u;rcases List.mem_cons.1 u with rfl|u
  .exact zn h.oE d.gR (by decide) hg
  .exact(h.Cg:∀g,L.ov.ownBlock=some g->L.cv.ownBlock≠some g) g (by grind) hg
 refine⟨{L with ov:=v'},rfl,?_,a.fr (by decide),λk v I=>I.Dh k1 d.gR f1⟩;exact {
  fr:=h.fr.trans (a.fr (by decide))
  env:=h.env
  rY:=h.rY
  rP:=λi N G=>((h.rP i N G).kt a (by decide)).loc rfl rfl rfl
  inj:=h.inj
  bz:=h.bz
  bB:=h.bB
  bR:=h.bR
  bN:=h.bN
  xv:=h.xv
  Ak:=h.Ak
  uq:=h.uq
  Ad:=h.Ad
  wf:={h.wf with fQ:=K}
  gR:=⟨_,L1.gR,z.TQ v' p⟩
  nM:=by simpa [JU,ME]using L1.row
  oE:=k1.ownsRow h.oE q
  Cg:=by
   intro g O y;have H:=zr h.oE (g:=g) y
   grind
  ve:=by simpa using L1.le
  Bx:=h.Bx
  nN:=a.row h.nN (by decide)
  BK:=h.BK
  rd:=a.at h.rd (by decide)
  BH:=h.BH
  tok:=a.row h.tok (by decide)
  Av:=h.Av
  yJ:=h.yJ
  ab:=h.ab
  tb:=h.tb
  Ch:=h.Ch}
theorem Rel.UT {σ:Ab} (h:Rel E L σ w) (d:xo E.bs E.bB 189 180 C L.cv (σ.act.map (gX L.gp)) w) (F:jg E L σ C) {p : j5} (K:oA E.bs E.bB 189 180 C L.cv (p.map (gX L.gp)) w w') (N:∀x∈p,σ.gx x=true):ZL E L {σ with act:=p} w w':=by
 have⟨v',L1,k1,f1⟩:=K;have a:KT E.bs [180,72] w w':= .jl k1 (λk l _=>by
  rcases List.mem_cons.1 l with rfl|l
  .exact⟨⟨_,_,_,d.gR,by simp⟩,h.bB⟩
  .obtain⟨c,m,G⟩:=pW d.row (by simpa using l);exact⟨⟨_,_,_,G,by simp⟩,(d.row.lt k (by simpa using l)).1⟩)
 have u:∀g,L.ov.ownBlock=some g->g∉E.bB::L.cv.ownBlock.toList:=by
  intro g hg z;rcases List.mem_cons.1 z with rfl|z
  .exact zn h.nM d.gR (by decide) hg
  .exact((λg q y=>h.Cg g y q):∀g,L.cv.ownBlock=some g->L.ov.ownBlock≠some g) g (by grind) hg
 refine⟨{L with cv:=v'},rfl,?_,a.fr (by decide),λk v J=>J.An k1 d.gR f1⟩;exact {
  fr:=h.fr.trans (a.fr (by decide))
  env:=h.env
  rY:=h.rY
  rP:=λi O H=>((h.rP i O H).kt a (by decide)).loc rfl rfl rfl
  inj:=h.inj
  bz:=h.bz
  bB:=h.bB
  bR:=h.bR
  bN:=h.bN
  xv:=h.xv
  Ak:=h.Ak
  uq:=h.uq
  Ad:=h.Ad
  wf:={h.wf with act:=N}
  gR:=⟨_,L1.gR,F.TU v' p⟩
  oE:=by simpa [JU,ME]using L1.row
  nM:=k1.ownsRow h.nM u
  Cg:=by
   intro g q y;have I:=zr h.nM (g:=g) q
   grind
  Bx:=by simpa using L1.le
  ve:=h.ve
  nN:=a.row h.nN (by decide)
  BK:=h.BK
  rd:=a.at h.rd (by decide)
  BH:=h.BH
  tok:=a.row h.tok (by decide)
  Av:=h.Av
  yJ:=h.yJ
  ab:=h.ab
  tb:=h.tb
  Ch:=h.Ch}
def Vn {σ:Ab} (h:Rel E L σ w) (x:iM) (d:σ.gx x=true):
  Calls prog 187 #[jp E.bB 188,kK (gX L.gp x)] w λe w'=>e=oS/\ZL E L {σ with fQ:=σ.fQ.erase x} w w':=by
 have⟨C,hL,hC⟩:=h.zc;refine(A0 E.bs E.bB 188 _ C _ _ (gX L.gp x) w hL h.cC (h.gx d)).mono ?_;rintro e w' ⟨rfl,a⟩;exact⟨rfl,h.Uu hL hC (by rw[<-vW h.inj];exact a) λy g=>h.wf.fQ y (AB g)⟩
def S4 {σ:Ab} (h:Rel E L σ w) (x y:iM) (g:σ.gx x=true) (l:σ.lH y=true):
  Calls prog 276 #[jp E.bB 188,kK (gX L.gp x),kK (gX L.gp y)] w λe w'=>e=oS/\ZL E L {σ with fQ:=pI σ.fQ x y} w w':=by
 have⟨C,hL,hC⟩:=h.zc;refine(Fp E.bs E.bB 188 _ C _ _ (gX L.gp x) (gX L.gp y) w hL h.cC (h.gx g)).mono ?_;rintro e w' ⟨rfl,d⟩;exact⟨rfl,h.Uu hL hC (by rw[<-JA h.inj];exact d) λz a=>by rcases Jz a with a|rfl;exact h.wf.fQ z a;exact l⟩
def VB {σ:Ab} (h:Rel E L σ w) (x:iM) (d:σ.gx x=true):
  Calls prog 187 #[jp E.bB 189,kK (gX L.gp x)] w λe w'=>e=oS/\ZL E L {σ with act:=σ.act.erase x} w w':=by
 have⟨C,hL,hC⟩:=h.GK;refine(A0 E.bs E.bB 189 _ C _ _ (gX L.gp x) w hL h.cF (h.gx d)).mono ?_;rintro e w' ⟨rfl,a⟩;exact⟨rfl,h.UT hL hC (by rw[<-vW h.inj];exact a) λy g=>h.wf.act y (AB g)⟩
def So {σ:Ab} (h:Rel E L σ w) (x y:iM) (g:σ.gx x=true) (l:σ.gx y=true):
  Calls prog 276 #[jp E.bB 189,kK (gX L.gp x),kK (gX L.gp y)] w λe w'=>e=oS/\ZL E L {σ with act:=pI σ.act x y} w w':=by
 have⟨C,hL,hC⟩:=h.GK;refine(Fp E.bs E.bB 189 _ C _ _ (gX L.gp x) (gX L.gp y) w hL h.cF (h.gx g)).mono ?_;rintro e w' ⟨rfl,d⟩;exact⟨rfl,h.UT hL hC (by rw[<-JA h.inj];exact d) λz a=>by rcases Jz a with a|rfl;exact h.wf.act z a;exact l⟩
theorem Rel.ac0 {σ σ':Ab} (h:Rel E L σ w) (i:Nat) (l:gh) (I:(σ.gF i).isSome=true) (P:KT E.bs [140,142,284] w w') (O:l.ownBlock=(L.kv i).ownBlock\/∀g,l.ownBlock=some g->w.heap.size<=g)
  (d:σ'.nodes.length=σ.nodes.length) (N:∀j T,σ'.gF j=some T->∃e,σ.gF j=some e/\T.name=e.name) (G:∀j,σ'.gF j=none->σ.gF j=none)
  (R:∀j X,σ'.nodes[j]?=some X->kM E.bs {L with kv:=λx=>if x=i then l else L.kv x} w' j X) (wf:Wf σ')
  (s0:σ'.fQ=σ.fQ:=by rfl) (s9:σ'.act=σ.act:=by rfl) (s1:σ'.head=σ.head:=by rfl) (s2:σ'.form=σ.form:=by rfl) (s3:σ'.mode=σ.mode:=by rfl) (s4:σ'.kept=σ.kept:=by rfl) (s5:σ'.iq=σ.iq:=by rfl) (s6:σ'.iP=σ.iP:=by rfl) (s7:σ'.gp=σ.gp:=by rfl) (s8:σ'.behind=σ.behind:=by rfl) (sw:σ'.waiting=σ.waiting:=by rfl) (so:σ'.mV=σ.mV:=by rfl) (sp:σ'.iA=σ.iA:=by rfl) (sf:σ'.fresh=σ.fresh:=by rfl) (Y:σ'.pS=σ.pS:=by rfl) (Z:σ'.rq=σ.rq:=by rfl) (d3:σ'.oY=σ.oY:=by rfl):ZL E L σ' w w':=by
 have J:=Ab.lF (σ:=σ) (i:=i) I;have U:∀j g,j < σ.nodes.length->j≠i->l.ownBlock=some g->(L.kv j).ownBlock≠some g:=by
  intro j g p u hg z;rcases O with e|e
  .rw[e]at hg;exact h.xv i j g J p (xH u) hg z
  .have⟨c,m,hc⟩:=h.zz p z
   grind
 refine⟨{L with kv:=λx=>if x=i then l else L.kv x},rfl,h.UQ (L':={L with kv:=λx=>if x=i then l else L.kv x}) P (λ_ _=>rfl) rfl rfl rfl R h.inj ?_ ?_ ?_ ?_ wf ?_ (nk d) s0 s9 s1 s2 s3 s4 s5 s6 s7 s8 sw so sp Y Z d3,P.fr (by decide),λk v V=>⟨P.at V.1 (by decide),V.2⟩⟩
 .intro a b g H y q hg;rw[d]at H y
  by_cases h1:a=i
  .grind
  .simp only[gn h1]at hg
   by_cases h2:b=i
   .grind
   .simp only[gn h2];exact h.xv a b g H y q hg
 .intro j p K;rw[d]at p;have F:=G j K;have u:j≠i:=by rintro rfl;rw[F]at I;cases I
  simp only[gn u];exact h.Ak j p F
 .intro a b e g H a0 y q hg;rw[d]at y;have⟨e0,h0,hnm'⟩:=N a e H;exact h.uq a b e0 g h0 (by grind) y q hg
 .intro j p K;rw[d]at p;exact h.Ad j p (G j K)
 .rw[d,sf];exact h.yJ
theorem Wd {σ:Ab} (h:Rel E L σ w) (y:σ.gF i=some ei) (G:σ.gF j=some ej) (z:j≠i) (hn:n<=ei.kids.length) (hl:ei.kids.length < 1048576):
  Calls prog 175 #[place (L.gp i) n,(Nd.el (L.gp j)).val] w λe w'=>e=oS/\ZL E L ((σ.gE i {ei with kids:=ins ei.kids n (.el j)}).gE j {ej with iJ:=some i}) w w':=by
 have u:=Ab.gL y;have N:=Ab.gL G;have p:(σ.gF i).isSome=true:=by rw[y];rfl
 have I:(σ.gF j).isSome=true:=by rw[G];rfl
 have V:=h.wI y;have lI:=h.Ac y;have aJ:=h.wI G;have lJ:=h.Ac G;refine(R6 E.bs _ n _ _ _ _ _ _ _ _ _ _ _ w (h.uS y) (h.uS G) (λe=>z (h.inj _ _ e)) (λg hg=>h.xv j i g N u z hg) (by grind) (by grind) h.bw).mono ?_;rintro e w' ⟨rfl,⟨F,U,X⟩,E2,R⟩;have P:∀s∈L.gp j::L.gp i::(L.kv i).ownBlock.toList,∃x∈[j,i],s=L.gp x\/(L.kv x).ownBlock=some s:=by
  intro s J;rcases List.mem_cons.1 J with rfl|J
  .simp
  rcases List.mem_cons.1 J with rfl|J
  .simp
  .grind
 have T:=h.cE [j,i] (by grind) P R;have K:((σ.gE i {ei with kids:=ins ei.kids n (.el j)}).gF j).isSome=true:=by rw[Ab.iy z];exact I
 have H:∀x e,x < σ.nodes.length->zD w (L.av x) e->zD w' (L.av x) e:=λx e _ Z=>T.row Z (by decide);refine⟨rfl,h.ac0 i F p T X (by simp[Ab.gE]) ?_ ?_ ?_ ?_⟩
 .intro x e' a
  by_cases l:x=j
  .subst l;rw[Ab.iF (by grind[Ab.gE])]at a;grind
  .rw[Ab.iy l]at a
   by_cases d:x=i
   .subst d;rw[Ab.iF u]at a;grind
   .rw[Ab.iy d]at a;grind
 .intro x a
  by_cases l:x=j
  .subst l;rw[Ab.iF (by grind[Ab.gE])]at a;cases a
  .rw[Ab.iy l]at a
   by_cases d:x=i
   .subst d;rw[Ab.iF u]at a;cases a
   .rwa [Ab.iy d]at a
 .intro x nd a;rcases Ab.nS a with⟨rfl,rfl⟩|⟨l,a⟩
  .grind[kM]
  .rcases Ab.nS a with⟨rfl,rfl⟩|⟨d,a⟩
   .show El E.bs w' _ _ _ _ (if x=x then F else L.kv x) _/\_;rw[fU rfl];refine⟨?_,H x _ u V,lI⟩;show El E.bs w' (L.gp x) ei.name (L.av x) (gX L.gp ei.iJ) F ((ins ei.kids n (.el j)).map (Nd.map L.gp));rw[Ei];exact U
   .have Y:=h.gN [j,i] (by grind) P R a (by grind);have O:x < σ.nodes.length:=(List.getElem?_eq_some_iff.1 a).1;exact Y.ext (σ:=σ) (GD.refl _ _) O rfl (gn d) (h.cn a)
 .refine(h.wf.gE (e:={ei with kids:=ins ei.kids n (.el j)}) p (h.wf.iJ i ei y) ?_).gE K ?_ ?_
  .intro k q;rcases DV q with q|rfl
   .exact h.wf.kids i ei y k q
   .exact I
  .rw[Ab.qd p];exact p
  .intro k q;rw[Ab.kR p];exact h.wf.kids j ej G k q
theorem Se {σ:Ab} (h:Rel E L σ w) {p : Nat} {d : Al} (I:σ.gF j=some ej) (J:ej.iJ=some p) (z:σ.gF p=some d) (u:j≠p) (hn:n < d.kids.length) (Y:qc d.kids (Nd.gx j)=(n:Int)):
  Calls prog 374 #[fW (L.gp j)] w λe w'=>e=oS/\ZL E L ((σ.gE p {d with kids:=d.kids.eraseIdx n}).gE j {ej with iJ:=none}) w w':=by
 have G:=Ab.gL z;have R:=Ab.gL I;have H:(σ.gF p).isSome=true:=by rw[z];rfl
 have P:(σ.gF j).isSome=true:=by rw[I];rfl
 have V:=h.uS I;rw[J]at V;have aP:=h.wI z;have lP:=h.Ac z;have aJ:=h.wI I;have lJ:=h.Ac I;refine(Gz E.bs _ _ n _ _ _ _ _ _ _ _ _ w V (h.uS z) ?_ (λe=>u (h.inj _ _ e)) (λg hg=>h.xv j p g R G u hg) (by grind) (by rw[JG h.inj];omega)).mono ?_
 .intro x a;obtain⟨k,K,rfl⟩:=List.mem_map.1 a;exact h.Xs (h.wf.kids p d z k K)
 rintro e w' ⟨rfl,⟨y,Z,f1⟩,E2,K⟩;have X:∀s∈L.gp j::L.gp p::(L.kv p).ownBlock.toList,∃x∈[j,p],s=L.gp x\/(L.kv x).ownBlock=some s:=by
  intro s N;rcases List.mem_cons.1 N with rfl|N
  .simp
  rcases List.mem_cons.1 N with rfl|N
  .simp
  .grind
 have U:=h.cE [j,p] (by grind) X K;have O:((σ.gE p {d with kids:=d.kids.eraseIdx n}).gF j).isSome=true:=by rw[Ab.iy u];exact P
 refine⟨rfl,h.ac0 p y H U (.inl f1) (by simp[Ab.gE]) ?_ ?_ ?_ ?_⟩
 .intro x e' a
  by_cases q:x=j
  .subst q;rw[Ab.iF (by grind[Ab.gE])]at a;grind
  .rw[Ab.iy q]at a
   by_cases l:x=p
   .subst l;rw[Ab.iF G]at a;grind
   .rw[Ab.iy l]at a;grind
 .intro x a
  by_cases q:x=j
  .subst q;rw[Ab.iF (by grind[Ab.gE])]at a;cases a
  .rw[Ab.iy q]at a
   by_cases l:x=p
   .subst l;rw[Ab.iF G]at a;cases a
   .rwa [Ab.iy l]at a
 .intro x nd a;rcases Ab.nS a with⟨rfl,rfl⟩|⟨q,a⟩
  .show El E.bs w' _ _ _ _ (if x=p then y else L.kv x) _/\_;rw[gn u];exact⟨E2,U.row aJ (by decide),lJ⟩
  .rcases Ab.nS a with⟨rfl,rfl⟩|⟨l,a⟩
   .show El E.bs w' _ _ _ _ (if x=x then y else L.kv x) _/\_;rw[fU rfl];refine⟨?_,U.row aP (by decide),lP⟩;show El E.bs w' (L.gp x) d.name (L.av x) (gX L.gp d.iJ) y ((d.kids.eraseIdx n).map (Nd.map L.gp));rw[map_eraseIdx];exact Z
   .have hN:=h.gN [j,p] (by grind) X K a (by grind);have T:x < σ.nodes.length:=(List.getElem?_eq_some_iff.1 a).1;exact hN.ext (σ:=σ) (GD.refl _ _) T rfl (gn l) (h.cn a)
 .refine(h.wf.gE (e:={d with kids:=d.kids.eraseIdx n}) H (h.wf.iJ p d z) ?_).gE O rfl ?_
  .intro k F;exact h.wf.kids p d z k (List.mem_of_mem_eraseIdx F)
  .intro k F;rw[Ab.kR H];exact h.wf.kids j ej I k F
theorem TM {σ:Ab} (h:Rel E L σ w) (l:σ.gF i=some e) (hg:ng e.name=false):
  Calls prog 275 #[fW (L.gp i)] w λq w'=>∃d,GD σ.nodes.length L d/\q=gO (fW (d.gp σ.nodes.length))/\Rel E d (σ.add (.el {name:=e.name,gy:=e.gy,iJ:=none,kids:=[]})) w'/\Fr E.bs w w'/\∀k v,Sd L w k v->Sd d w' k v:=by
 have I:=h.wI l;have P:=h.Ac l;refine(Ij E.bs _ _ _ _ _ _ w (h.uS l)).mono ?_;rintro q w' ⟨rfl,N,p⟩;have a:=Ab.gL l;refine⟨L.new σ.nodes.length w.heap.size (L.av i) (iQ),λj y=>Loc.A9 y,by simp[Loc.new],?_,.gv p,λk v H=>⟨p.at H.1 (by simp),H.2⟩⟩;refine h.add (.el {name:=e.name,gy:=e.gy,iJ:=none,kids:=[]}) w.heap.size (L.av i) (iQ) σ.fresh p (gr _) ?_ rfl (λq O=>by grind) ?_ ?_ (λF=>absurd rfl (F _)) ?_ (λg hg=>h.ab i g a hg)
 .show El E.bs w' _ _ _ _ _ _/\zD w' _ _/\_;rw[Loc.sX,Loc.BC,Loc.Hg];exact⟨N,p.ownsRow I (by simp),P⟩
 .intro j e2 g y x J K
  by_cases z:j=i
  .grind
  .exact h.uq j i e2 g y x a z K J
 .grind
 .intro G;exact⟨G,λg u=>h.yJ G i g a u⟩
theorem Rel.agh {σ:Ab} (h:Rel E L σ w) (d:Sd L w k v) (y:E.bs<=k) (z:E.w0.heap.size<=k) (u:gh):Rel E L σ (w.setCell ⟨k,0,none⟩ u)/\Sd L (w.setCell ⟨k,0,none⟩ u) k u/\(∀j x,j≠k->Sd L w j x->Sd L (w.setCell ⟨k,0,none⟩ u) j x)/\Fr E.bs w (w.setCell ⟨k,0,none⟩ u):=by
 have l:Kept [k] w (w.setCell ⟨k,0,none⟩ u):=(Kept.refl _ w).setCell (.inl (by simp)) _;have a:KT E.bs [72] w (w.setCell ⟨k,0,none⟩ u):= .jl l (λj p _=>by
  rw[List.mem_singleton.1 p];exact⟨⟨_,_,_,d.1,by simp⟩,y⟩)
 have⟨C,hC,hC2⟩:=h.gR;refine⟨?_,⟨fI d.1 0 u,d.2⟩,λj x p q=>⟨l.at q.1 (by grind),q.2⟩,a.fr (by decide)⟩;exact {
  fr:=h.fr.trans (a.fr (by decide))
  env:=h.env
  rY:=h.rY
  rP:=λi H F=>((h.rP i H F).kt a (by decide)).loc rfl rfl rfl
  inj:=h.inj
  bz:=h.bz
  bB:=h.bB
  bR:=h.bR
  bN:=h.bN
  xv:=h.xv
  Ak:=h.Ak
  uq:=h.uq
  Ad:=h.Ad
  wf:=h.wf
  gR:=⟨C,a.at hC (by decide),hC2⟩
  nM:=l.ownsRow h.nM (λg hg G=>d.2.1 (by grind))
  oE:=l.ownsRow h.oE (λg hg G=>d.2.2 (by grind))
  Cg:=h.Cg
  ve:=h.ve
  Bx:=h.Bx
  nN:=a.row h.nN (by decide)
  BK:=h.BK
  rd:=a.at h.rd (by decide)
  BH:=h.BH
  tok:=a.row h.tok (by decide)
  Av:=h.Av
  yJ:=h.yJ
  ab:=h.ab
  tb:=h.tb
  Ch:=h.Ch}
def SF (E:Env) (f:Nat->Nat) (σ:Ab) (w:fO) (S:List (Nat×gh)):Prop:=∃L,L.gp=f/\Rel E L σ w/\∀p∈S,Sd L w p.1 p.2
def SF.rf {σ:Ab} (h:SF E f σ w S):RF E f σ w:=by have⟨L,e,hr,_⟩:=h;exact⟨L,e,hr⟩
def SF.at {σ:Ab} (h:SF E f σ w S) (a:(k,v)∈S):w.heap[k]?=some (fV #[v] 72):=by
 have⟨L,e,hr,hs⟩:=h;exact(hs _ a).1
def SF.gJ {σ:Ab} (h:SF E f σ w S) (a:Kept [] w w'):SF E f σ w' S:=by
 have⟨L,e,hr,hs⟩:=h;exact⟨L,e,hr.gJ a,λp d=>⟨a.at (hs p d).1 (by simp),(hs p d).2⟩⟩
def T4 {α:Type} (E:Env) (f:Nat->Nat) (n:Nat) (S:List (Nat×gh)) (w:fO) (r:qI α) (d:(Nat->Nat)->α->gh) (e:Ending) (w':fO):Prop:=match r with
 | .ok a σ'=>∃g,RS n f g/\n<=σ'.nodes.length/\e=gO (d g a)/\SF E g σ' w' S/\Fr E.bs w w'
 |_=>False
def acV {α:Type} (E:Env) (k:Nat) (args:(Nat->Nat)->jB) (m:M α) (d:(Nat->Nat)->α->gh):Prop:=
 ∀f a w S,SF E f a w S->m a≠ .stuck->Calls prog k (args f) w (T4 E f a.nodes.length S w (m a) d)
theorem afe {α l:Type} {args : (Nat->Nat)->jB} {m:M α} {h:(Nat->Nat)->α->gh} (D:acV E k args m h) {σ:Ab} (H:SF E f σ w S) {R:qI l} {K:α->M l} (q:R=(m>>=K) σ) (y:R≠ .stuck) (p:A=args f)
  (x:∀a g d w',RS σ.nodes.length f g->σ.nodes.length<=d.nodes.length->SF E g d w' S->Fr E.bs w w'->R=K a d->m σ= .ok a d->Q (gO (h g a)) w'):Calls prog k A w Q:=by
 subst p;rw[M.fP]at q;have u:m σ≠ .stuck:=λe=>y (by grind);refine(D f σ w S H u).mono ?_
 grind[T4]
def Nj {α:Type} (E:Env) (f:Nat->Nat) (n:Nat) (S:List (Nat×gh)) (w:fO) (r:qI α) (d:(Nat->Nat)->α->gh) (e:Ending) (w':fO):Prop:=match r with
 | .ok a σ'=>n<=σ'.nodes.length/\e=gO (d f a)/\SF E f σ' w' S/\Fr E.bs w w'
 |_=>False
def AC {α:Type} (E:Env) (k:Nat) (args:(Nat->Nat)->jB) (m:M α) (d:(Nat->Nat)->α->gh):Prop:=
 ∀f a w S,SF E f a w S->m a≠ .stuck->Calls prog k (args f) w (Nj E f a.nodes.length S w (m a) d)
theorem Cr {α h:Type} {args : (Nat->Nat)->jB} {m:M α} {g:(Nat->Nat)->α->gh} (D:AC E k args m g) {σ:Ab} (H:SF E f σ w S) {R:qI h} {K:α->M h} (p:R=(m>>=K) σ) (x:R≠ .stuck) (l:A=args f)
  (u:∀a d w',σ.nodes.length<=d.nodes.length->SF E f d w' S->Fr E.bs w w'->R=K a d->m σ= .ok a d->Q (gO (g f a)) w'):Calls prog k A w Q:=by
 subst l;rw[M.fP]at p;have q:m σ≠ .stuck:=λe=>x (by grind);refine(D f σ w S H q).mono ?_
 grind[Nj]
def ZL.ls {σ':Ab} (h:ZL E L σ' w w') (l:∀p∈S,Sd L w p.1 p.2) (d:n<=σ'.nodes.length) {e : Ending} (a:e=oS):Nj E L.gp n S w (.ok () σ') uV e w':=by
 have⟨L',h1,h2,h3,h4⟩:=h;exact⟨d,a,⟨L',h1,h2,λp g=>h4 _ _ (l p g)⟩,h3⟩
def YA (E:Env) (x:iM):AC E 187 (λf=>#[jp E.bB 188,oV f x]) (jY x) uV:=by
 rintro f l w S ⟨L,rfl,hr,g⟩ a;unfold jY at a|-
 by_cases d:l.gx x=true
 .rw[fU d];exact(Vn hr x d).mono (λe w' h=>h.2.ls g (si _ _ rfl) h.1)
 .rw[gn d]at a;exact absurd rfl a
def YT (E:Env) (x:iM):AC E 187 (λf=>#[jp E.bB 189,oV f x]) (kB x) uV:=by
 rintro f l w S ⟨L,rfl,hr,g⟩ a;unfold kB at a|-
 by_cases d:l.gx x=true
 .rw[fU d];exact(VB hr x d).mono (λe w' h=>h.2.ls g (si _ _ rfl) h.1)
 .rw[gn d]at a;exact absurd rfl a
def aa2 (E:Env) (x y:iM):AC E 276 (λf=>#[jp E.bB 188,oV f x,oV f y]) (zN x y) uV:=by
 rintro f g w S ⟨L,rfl,hr,l⟩ d;unfold zN at d|-
 by_cases a:(g.gx x&&g.lH y)=true
 .rw[fU a];simp at a;exact(S4 hr x y a.1 a.2).mono (λe w' h=>h.2.ls l (si _ _ rfl) h.1)
 .rw[gn a]at d;exact absurd rfl d
def abP (E:Env) (x y:iM):AC E 276 (λf=>#[jp E.bB 189,oV f x,oV f y]) (rA x y) uV:=by
 rintro f g w S ⟨L,rfl,hr,l⟩ d;unfold rA at d|-
 by_cases a:(g.gx x&&g.gx y)=true
 .rw[fU a];simp at a;exact(So hr x y a.1 a.2).mono (λe w' h=>h.2.ls l (si _ _ rfl) h.1)
 .rw[gn a]at d;exact absurd rfl d
def WZ (E:Env) (j:Nat):AC E 374 (λf=>#[nV f j]) (me j) uV:=by
 rintro f l w S ⟨L,rfl,hr,g⟩ a;unfold me at a|-;cases hj:l.gF j with
 |none=>rw[hj]at a;exact absurd rfl a
 |some ej=>
  simp only[hj]at a|-;cases hp:ej.iJ with
  |none=>
   simp only[hp]at a|-;refine(D8 hr hj hp).mono ?_;rintro e w' ⟨rfl,rfl⟩;exact⟨gr _,rfl,⟨L,rfl,hr,g⟩,Fr.refl _⟩
  |some p=>
   simp only[hp]at a|-;cases hep:l.gF p with
   |none=>rw[hep]at a;exact absurd rfl a
   |some ep=>
    simp only[hep]at a|-
    by_cases d:j≠p/\0<=qc ep.kids (Nd.gx j)/\(qc ep.kids (Nd.gx j)).toNat < ep.kids.length
    .rw[fU d];exact(Se hr hj hp hep d.1 d.2.2 (by omega)).mono (λe w' h=>h.2.ls g (by simp[Ab.gE]) h.1)
    .rw[gn d]at a;exact absurd rfl a
theorem Xj (E:Env) (i:Nat):acV E 275 (λf=>#[nV f i]) (kH i) nV:=by
 rintro f y w S ⟨L,rfl,hr,u⟩ a;unfold kH at a|-;cases hi:y.gF i with
 |none=>rw[hi]at a;exact absurd rfl a
 |some e=>
  simp only[hi]at a|-
  by_cases hg:ng e.name=true
  .rw[fU hg]at a;exact absurd rfl a
  .rw[gn hg];refine(TM hr hi (by grind)).mono ?_;rintro z w' ⟨d,g,rfl,h,l,q⟩;exact⟨d.gp,g,by simp[Ab.add],rfl,⟨d,rfl,h,λp x=>q _ _ (u p x)⟩,l⟩
def aci (E:Env) (i:Nat):AC E 99 (λf=>#[nV f i]) (jf i) pV:=by
 rintro f h w S ⟨L,rfl,hr,g⟩ a;unfold jf at a|-;cases he:h.gF i with
 |none=>rw[he]at a;exact absurd rfl a
 |some e=>
  refine(Pc hr he).mono ?_;rintro l w' ⟨rfl,p,d⟩;exact⟨gr _,rfl,SF.gJ ⟨L,rfl,hr,g⟩ d,.gv d⟩
def acB (E:Env) (pl:Nat×Nat) (j:Nat):AC E 175 (λf=>#[pV f pl,.iface 72 (nV f j)]) (nj pl j) uV:=by
 rintro f g w S ⟨L,rfl,hr,l⟩ a;unfold nj at a|-;cases h1:g.gF pl.1 with
 |none=>rw[h1]at a;exact absurd rfl a
 |some ei=>
  cases h2:g.gF j with
  |none=>rw[h1,h2]at a;exact absurd rfl a
  |some ej=>
   simp only[h1,h2]at a|-
   by_cases d:j≠pl.1/\pl.2<=ei.kids.length/\ei.kids.length < 1048576
   .rw[fU d];exact(Wd hr h1 h2 d.1 d.2.1 d.2.2).mono (λe w' h=>h.2.ls l (by simp[Ab.gE]) h.1)
   .rw[gn d]at a;exact absurd rfl a
def co {α:Type} (m:M α):Prop:=∀g a d,m g= .ok a d->∀i,g.gx (some i)=true->d.gx (some i)=true
theorem SC (x:iM):co (jY x):=by
 intro l a g h i d;unfold jY at h;split at h
 .cases h;exact d
 grind
theorem Kj (x:iM):co (kB x):=by
 intro l a g h i d;unfold kB at h;split at h
 .cases h;exact d
 grind
theorem L5 (x y:iM):co (zN x y):=by
 intro l a g h i d;unfold zN at h;split at h
 .cases h;exact d
 grind
theorem Ly (x y:iM):co (rA x y):=by
 intro l a g h i d;unfold rA at h;split at h
 .cases h;exact d
 grind
theorem Mz (j:Nat):co (jf j):=by
 grind[co,jf]
theorem Rf (j:Nat):co (kH j):=by
 intro l a g h i d;unfold kH at h;split at h
 .split at h
  .cases h
  .cases h;exact Ab.Au d
 grind
theorem GY {σ:Ab} (d:σ.gF j=some ej) (a:σ.gx (some i)=true):(σ.gE j e).gx (some i)=true:=by
 rw[Ab.qd (by grind)];exact a
theorem Mf (pl:Nat×Nat) (j:Nat):co (nj pl j):=by
 intro u a q h i p;unfold nj at h;split at h
 .rename_i ei ej d g;split at h
  .rename_i l;cases h;exact GY (ej:=ej) (by rw[Ab.iy l.1];exact g) (GY d p)
  grind
 grind
theorem F9 (j:Nat):co (me j):=by
 intro y a u h i q;unfold me at h;split at h
 .cases h
 .rename_i ej d;split at h
  .grind
  .split at h
   .cases h
   .rename_i p x g;split at h
    .rename_i l;cases h;exact GY (ej:=ej) (by rw[Ab.iy l.1];exact d) (GY g q)
    grind
theorem SF.set {σ:Ab} (h:SF E f σ w S) (g:(k,v)∈S) (d:E.bs<=k) (a:E.w0.heap.size<=k) (u:gh) (S':List (Nat×gh)) (l:∀p∈S',p=(k,u)\/(p.1≠k/\p∈S)):SF E f σ (w.setCell ⟨k,0,none⟩ u) S'/\Fr E.bs w (w.setCell ⟨k,0,none⟩ u):=by
 have⟨L,e,hr,hs⟩:=h;have⟨h1,h2,h3,h4⟩:=hr.agh (hs _ g) d a u
 grind[SF]
section
variable {W W':fO} {row:iM} (hg:W.grownBy W' row) {B:Nat} (hr:∀r,row=some r->B<=r/\∃o:Obj,W.heap[r]?=some o/\o.isCells=false)
include hg hr
def qF {k:Nat} {c:jB} {t:TypeId} {m:Nat×Nat} (h:W.heap[k]?=some (.cells c t m)):W'.heap[k]?=some (.cells c t m):=by
 refine(hg.block k (Array.getElem?_eq_some_iff.1 h).1 (λe=>?_)).trans h;have⟨_,o,ho,hc⟩:=hr k e.symm;rw[h]at ho;cases ho;cases hc
def vT {base:Nat} {e:TypeId} {a:Nat} {v:gh} {k:Nat} {xs:List gh} (h:W.ownsRow base e a v k xs):W'.ownsRow base e a v k xs:=by
 refine h.kept hg ?_;rcases h.2 with⟨rfl,_⟩|⟨g,l,p,rfl,_,d,_⟩
 .exact .inl rfl
 .refine .inr λq=>?_;have⟨_,o,ho,hc⟩:=hr g (by simpa [Value.ownBlock]using q.symm);rw[d]at ho;cases ho;cases hc
def Fr.grown {bs:Nat} {w:fO} (h:Fr bs w W) (a:w.heap.size<=B):Fr bs w W':=by
 have⟨S,hk,hS⟩:=h;exact⟨S,hk.grown hg (λk e=> .inr (jC a (hr k e).1)),hS⟩
def Rel.grown {E:Env} {L:Loc} {σ:Ab} (h:Rel E L σ W) (g:E.w0.heap.size<=B):Rel E L σ W':=by
 have⟨C,hb,hC⟩:=h.gR;exact
  {fr:=Fr.grown hg hr h.fr g
   env:=h.env
   rY:=h.rY
   rP:=λi d l=>by
    have a:=h.rP i d l;cases d with
    |el e=>exact⟨⟨qF hg hr a.1.gR,vT hg hr a.1.row,a.1.le,a.1.UG⟩,vT hg hr a.2.1,a.2.2⟩
    |tx s=>exact qF hg hr a
    |cm s=>exact qF hg hr a
    |dt s=>exact qF hg hr a
   inj:=h.inj,xv:=h.xv,Ak:=h.Ak,uq:=h.uq,Ad:=h.Ad,wf:=h.wf
   gR:=⟨C,qF hg hr hb,hC⟩
   nM:=vT hg hr h.nM
   oE:=vT hg hr h.oE
   Cg:=h.Cg,ve:=h.ve,Bx:=h.Bx
   nN:=vT hg hr h.nN
   BK:=h.BK
   rd:=qF hg hr h.rd
   BH:=h.BH
   tok:=vT hg hr h.tok
   Av:=h.Av,bz:=h.bz,bB:=h.bB,bR:=h.bR,bN:=h.bN,yJ:=h.yJ,ab:=h.ab,tb:=h.tb,Ch:=h.Ch}
def SF.grown {E:Env} {f:Nat->Nat} {σ:Ab} {S:List (Nat×gh)} (h:SF E f σ W S) (d:E.w0.heap.size<=B):SF E f σ W' S:=by
 have⟨L,e,h1,h2⟩:=h;exact⟨L,e,h1.grown hg hr d,λp a=>⟨qF hg hr (h2 p a).1,(h2 p a).2⟩⟩
end
def Fr.oL (h:Fr bs w W) (B:Nat):KeepsFrom B w W:=⟨h.size,λ_ _ _ a d=>h.other a d⟩
theorem Fr.at (h:Fr bs w W) {t : TypeId} (d:w.heap[k]?=some (.cells c t m)) (l:t∉WL):W.heap[k]?=some (.cells c t m):=by
 have⟨S,hkk,hS⟩:=h;have a:k < w.heap.size:=(Array.getElem?_eq_some_iff.1 d).1;refine(hkk.block k a λg=>?_).trans d
 grind
attribute [local go_sem] Oper.semAt_some
theorem aeh {u:Type} (m:Nat) (a1:1<=m) (b j n T R l:Nat) (a0:n<=4096) (V:u->iM) (a:u->Nat) (J P:u->fO->Prop)
  (U:∀s W,J s W->W.cell? ⟨T,0,none⟩=some (fK n)) (hL:∀s W,J s W->W.cell? ⟨R,0,none⟩=some (jp b j))
  (G:∀s W q,J s W->a s < n->q=n - 1 - a s->Calls prog 248 #[jp b j,fK q] W λe w'=>e=gO (kK (V s))/\w'=W)
  (hY:∀s W,J s W->a s < n->YieldAt Fence.wide (m - 1) prog l #[kK (V s)] W λe W'=>
   (e=gO (.bool true)/\∃d,a d=a s+1/\J d W')\/(e=gO (.bool false)/\∃d,P d W'))
  (W:fO) (O:u) (a3:a O=0) (h0:J O W):
  CallsIn Fence.wide m prog 357 #[.func (.yield l) #[] #[],fW T,fW R] W λe W'=>(∃r,e=gO r)/\
   ((∃s,a s=n/\J s W')\/(∃s,P s W')):=by
 refine callsIn_of_wp func357 rfl trivial ?_ rfl;simp only[ntmps357,xC,sV,vZ,Nat.reduceAdd,Nat.reduceSub,xn,xj,xm,xI,rM,vz];have cN:=U O W h0;have HY:=hY;have HN:=U;have Y:=hL;have y:=G;gi_wp2
 gi_loopw [4] (λi wr=>∃s:u,a s<=n/\i=fK ((n:Int) - 1 - a s)/\J s wr)
  (λi _=>((intOf i)+1).toNat)
 case atStart=>grind
 case round=>
  obtain⟨s,hk,rfl,x⟩:=hrel;have cL:=Y s wr x
  by_cases h:a s < n
  .obtain⟨q,K⟩:∃q:Nat,q=n - 1 - a s:=⟨_,rfl⟩;have N:(n:Int) - 1 - a s=(q:Int):=by omega
   rw[N];have X:=y s wr q x h K;have⟨fn,tmps,assign,body,hy,HR⟩:=HY s wr x h;have Z:=fx K;have a2:q < 4096:=by omega
   clear K
   gi_wp2_with (refine⟨trivial,?_⟩;gi_at_call 248;refine(callsIn_wide.2 X).mono ?_;rintro e w' ⟨rfl,rfl⟩)
   refine HR.mono ?_;rintro e W3 (⟨rfl,d,I,H⟩|⟨rfl,d,g⟩)
   .have z:=I;gi_wp2;go_roundw
    case rel=>exact⟨d,by omega,by have:=Z;have:=z;congr 1;omega,H⟩
    case measure=>simp[intOf]
   .gi_wp2;refine nK (Gn rfl _ _ _) rfl ?_;exact⟨⟨_,rfl⟩,.inr ⟨d,g⟩⟩
  .have F:a s=n:=by omega
   have p:(n:Int) - 1 - a s= -1:=by omega
   rw[p];gi_wp2;go_end0;exact⟨⟨_,rfl⟩,.inl ⟨s,F,x⟩⟩
def aa9 {g:Type} (B:Nat) (I:g->fO->Prop) (h:Code->g->fO->Prop) (d:g->Nat) (s:g) (W:fO):Exit->Act->fO->Prop
 | .normal,_,W'=>KeepsFrom B W W'/\∃a,d a=d s+1/\I a W'
 | .ret,_,W'=>KeepsFrom B W W'/\∃a,h .ret a W'
 | .exit id,_,W'=>KeepsFrom B W W'/\∃a,h (.exit id) a W'
 | .goto t,_,W'=>KeepsFrom B W W'/\∃a,h (.goto t) a W'
 | .panic _,_,_=>False
 | .outgrown,_,_=>False
theorem Zm {Y:Type} {m : Nat} {g:Operand} {p:Tmp} {assign body : Code} {Q:Exit->Act->fO->Prop} {a : Act} (h1:2<=m) (ab:n<=4096) (hg:a.eval g=uL bs)
  (nx:Y->iM) (H:Y->Nat) (I:Y->fO->Prop) (Ix:Code->Y->fO->Prop) (hI:OwnFrom w.heap.size I) (V:∀c,OwnFrom w.heap.size (Ix c))
  (hN:∀s W,I s W->W.cell? ⟨bs+1,0,none⟩=some (fK n)) (hL:∀s W,I s W->W.cell? ⟨bs,0,none⟩=some (jp b j))
  (a4:∀s W q,I s W->H s < n->q=n - 1 - H s->Calls prog 248 #[jp b j,fK q] W λe w'=>e=gO (kK (nx s))/\w'=W)
  (s0:Y) (ad:H s0=0) (h0:I s0 w) (X:iM->Act)
  (O:∀(l:Nat) (x:iM) (W:fO) (K:Act->fO->Prop),K (X x) W->assign.wpIn (Fence.wide.inRound l) (m - 1 - 1) prog (Exit.then K (λ_ _ _=>False)) {tmps:=a.tmps.setIfInBounds p (kK x),defers:=[]} W)
  (Z:∀(l:Nat) (s:Y) (W:fO),I s W->H s < n->body.wpIn (Fence.wide.inRound l) (m - 1 - 1) prog (aa9 w.heap.size I Ix H s W) (X (nx s)) W)
  (a0:∀(D:Nat) (s:Y) (W:fO),w.heap.size<=D->H s=n->I s W->W.heap[D]?=some (.deferred (some []))->Q .normal {a with defers:={target:= .collected D,args:=#[]}::a.defers} W)
  (a1:∀(D:Nat) (c:Code) (s:Y) (W:fO),w.heap.size<=D->Ix c s W->W.heap[D]?=some (.deferred (some []))->c.wpIn Fence.wide m prog Q {a with defers:={target:= .collected D,args:=#[]}::a.defers} W):
  (Code.rangeFunc g #[p] assign body).wpIn Fence.wide m prog Q a w:=by
 refine Hw ?_;intro fn a8;obtain⟨u,y⟩:∃u:LoopState->Option Code->Loop,u=λst pe=>{state:=st,pending:=pe,fn,tmps:=a.tmps,params:=#[p],assign,body,defers:=w.heap.size}:=⟨_,rfl⟩;obtain⟨R,N⟩:∃R,(w.alloc (.deferred (some []))).alloc (.loop (u .ready none))=R:=⟨_,rfl⟩;have af:R.heap.size=w.heap.size+2:=by rw[<-N];simp
 have a7:R.heap[w.heap.size+1]?=some (.loop (u .ready none)):=by
  rw[<-N];have:=MZ (w.alloc (.deferred (some []))) (.loop (u .ready none));rwa [xa]at this
 have a6:R.heap[w.heap.size]?=some (.deferred (some [])):=by
  rw[<-N];exact(Below.heap_alloc _ _ _ (by simp)).trans (MZ w _)
 have a5:I s0 R:=by rw[<-N];exact hI.alloc _ (hI.alloc _ h0)
 refine⟨w.heap.size+1,[{target:= .collected w.heap.size,args:=#[]}],R,{target:= .fn (.func 357) #[fW (bs+1),fW bs],args:=#[.func (.yield (w.heap.size+1)) #[] #[]]},R,357,
  #[.func (.yield (w.heap.size+1)) #[] #[],fW (bs+1),fW bs],R,?_,?_,?_,?_,λ_=>by omega,?_⟩
 .rw[<-N,y];exact AH _ _ _ _ _
 .simp only[resolve,hg];simp[go_sem]
 .intro f' ae;trivial
 .exact enters_of func357 (by rfl) rfl _ _
 refine(aeh (m - 1) (by omega) b j n (bs+1) bs (w.heap.size+1) ab nx H
  (λs W=>I s W/\W.heap[w.heap.size+1]?=some (.loop (u .ready none))/\W.heap[w.heap.size]?=some (.deferred (some [])))
  (λs W=>∃c,Ix c s W/\W.heap[w.heap.size+1]?=some (.loop (u .done (some c)))/\W.heap[w.heap.size]?=some (.deferred (some [])))
  (λs W h=>hN s W h.1) (λs W h=>hL s W h.1) (λs W q h=>a4 s W q h.1) ?_ R s0 ad ⟨a5,a7,a6⟩).mono ?_
 .rintro s W ⟨hi,T,hk⟩ a2;have ac:w.heap.size+1 < W.heap.size:=(Array.getElem?_eq_some_iff.1 T).1;have hy:=run_yield (P:=prog) (args:=#[kK (nx s)]) T (by rw[y];rfl);rw[y]at hy;have hz:(#[p].zip #[kK (nx s)]).foldl (λt (p,v)=>t.setIfInBounds p v) a.tmps=a.tmps.setIfInBounds p (kK (nx s)):=by simp
  refine⟨fn,_,assign,body,hy,roundIn_of_wpIn a8 ((ri (λz=>assign.wpIn (Fence.wide.inRound (w.heap.size+1)) (m - 1 - 1) prog (Exit.then _ (λ_ _ _=>False)) {tmps:=z,defers:=[]} W) hz).mpr (O _ (nx s) W _ ?_))⟩;refine⟨_,run_beginRound T (by rw[y]),?_⟩;have aa:(W.putObj (w.heap.size+1) (.loop {u .ready none with state:= .busy})).heap[w.heap.size+1]?=some (.loop {u .ready none with state:= .busy}):=N2 ac;have a9:(W.putObj (w.heap.size+1) (.loop {u .ready none with state:= .busy})).heap[w.heap.size]?=some (.deferred (some [])):=(p5 (by omega)).trans hk;refine xO (Z _ s _ (hI.putObj _ hi (by omega) T rfl) a2) ?_;have U:∀(d:Option Code) (J:fO),KeepsFrom w.heap.size (W.putObj (w.heap.size+1) (.loop {u .ready none with state:= .busy})) J->
    (Instr.endRound (w.heap.size+1) d).run prog J= .ok (.bool d.isNone) (J.putObj (w.heap.size+1) (.loop (u (if d.isNone then .ready else .done) d)))/\
    J.heap[w.heap.size+1]?=some (.loop {u .ready none with state:= .busy})/\
    (J.putObj (w.heap.size+1) (.loop (u (if d.isNone then .ready else .done) d))).heap[w.heap.size+1]?=some (.loop (u (if d.isNone then .ready else .done) d))/\
    (J.putObj (w.heap.size+1) (.loop (u (if d.isNone then .ready else .done) d))).heap[w.heap.size]?=some (.deferred (some [])):=λd J F=>by
   have G:=F.same _ _ (by omega) aa rfl;have:=run_endRound (P:=prog) d G;rw[y]at this|-;exact⟨this,by grind,N2 (Array.getElem?_eq_some_iff.1 G).1,(p5 (by omega)).trans (F.same _ _ (gr _) a9 rfl)⟩
  rintro e a3 J hp;cases e with
  |normal=>
   have⟨F,s',hc',hi3⟩:=hp;have⟨hr,G,hl4,hk4⟩:=U none J F;exact⟨_,_,hr,.inl ⟨rfl,s',hc',hI.putObj _ hi3 (by omega) G rfl,hl4,hk4⟩⟩
  |ret=>
   have⟨F,s',hi3⟩:=hp;have⟨hr,G,hl4,hk4⟩:=U (some .ret) J F;exact⟨_,_,hr,.inr ⟨rfl,s',.ret,(V _).putObj _ hi3 (by omega) G rfl,hl4,hk4⟩⟩
  |exit id=>
   have⟨F,s',hi3⟩:=hp;have⟨hr,G,hl4,hk4⟩:=U (some (.exit id)) J F;exact⟨_,_,hr,.inr ⟨rfl,s',.exit id,(V _).putObj _ hi3 (by omega) G rfl,hl4,hk4⟩⟩
  |goto t=>
   have⟨F,s',hi3⟩:=hp;have⟨hr,G,hl4,hk4⟩:=U (some (.goto t)) J F;exact⟨_,_,hr,.inr ⟨rfl,s',.goto t,(V _).putObj _ hi3 (by omega) G rfl,hl4,hk4⟩⟩
  |panic ch=>exact hp.elim
  |outgrown=>exact hp.elim
 .rintro e W2 ⟨⟨v,rfl⟩,(⟨s,hS,hi,T,hk⟩|⟨s,c,hi,T,hk⟩)⟩
  .exact⟨none,_,by have:=Ft (P:=prog) T (by rw[y];simp);rw[y]at this;exact this,a0 _ s _ (gr _) hS (hI.putObj _ hi (by omega) T rfl) ((p5 (by omega)).trans hk)⟩
  .exact⟨some c,_,by have:=Ft (P:=prog) T (by rw[y];simp);rw[y]at this;exact this,a1 _ c s _ (gr _) ((V c).putObj _ hi (by omega) T rfl) ((p5 (by omega)).trans hk)⟩
section
attribute [local go_sem] Oper.semAt_some
attribute [local go_sem] p6
attribute [local simp] p6
def RF.adP {σ:Ab} (h:RF E f σ w) (x:iM) (a:σ.gx x=true):Calls prog 385 #[jp E.bB 188,oV f x] w λe w'=>e=gO (uL w.heap.size)/\w'=mc E.bB 188 (posOf σ.fQ x) w:=by
 obtain⟨L,rfl,hr⟩:=h;have⟨C,hL,hC⟩:=hr.zc;have:=abY E.bs E.bB 188 _ C _ _ (gX L.gp x) w hL hr.cC (hr.gx a)
 rwa [MA hr.inj]at this
theorem O3 (w:fO) (a d g h l:Obj):(((((w.alloc a).alloc d).alloc g).alloc h).alloc l).heap[w.heap.size]?=some a/\(((((w.alloc a).alloc d).alloc g).alloc h).alloc l).heap[w.heap.size+1]?=some d/\(((((w.alloc a).alloc d).alloc g).alloc h).alloc l).heap[w.heap.size+1+1]?=some g/\(((((w.alloc a).alloc d).alloc g).alloc h).alloc l).heap[w.heap.size+1+1+1]?=some h/\(((((w.alloc a).alloc d).alloc g).alloc h).alloc l).heap[w.heap.size+1+1+1+1]?=some l:=by
 have⟨h1,h2,h3,h4⟩:=FZ w a d g h;refine⟨(Below.heap_alloc _ _ _ (by grind)).trans h1,(Below.heap_alloc _ _ _ (by simp)).trans h2,(Below.heap_alloc _ _ _ (by simp)).trans h3,(Below.heap_alloc _ _ _ (by simp)).trans h4,?_⟩;have:=fB ((((w.alloc a).alloc d).alloc g).alloc h) l
 simp_all
theorem RF.sf {σ:Ab} (h:RF E f σ w) (d:Kept [] w W) (a:∀p∈S,w.heap.size<=p.1/\W.heap[p.1]?=some (fV #[p.2] 72)):SF E f σ W S:=by
 have⟨L,e,hr⟩:=h;refine⟨L,e,hr.gJ d,λp g=>⟨(a p g).2,λq=>?_,λq=>?_⟩⟩
 .have:=(hr.nM.lt _ q).2;grind
 .have:=(hr.oE.lt _ q).2;grind
theorem Ty {xs : j5} {n : Int} (h:gU xs n=some i):some i∈xs:=by
 unfold gU at h
 grind
def afz (R:qI (Nat×Nat)):Prop:=∀r a,R= .ok r a->r.1 < a.nodes.length/\r.2 < a.nodes.length
structure Gh where
 g:Nat->Nat
 σ:Ab
 c:Nat
 last:Nat
 mark:Nat
structure RI (E:Env) (f:Nat->Nat) (σ:Ab) (w:fO) (n fi gR:Nat) (s:Gh) (W:fO):Prop where
 le:s.c<=n
 ex:RS σ.nodes.length f s.g
 nl:σ.nodes.length<=s.σ.nodes.length
 ll:s.last < s.σ.nodes.length
 ml:s.mark < s.σ.nodes.length
 fe:s.σ.gx (some fi)=true
 be:s.σ.gx (some gR)=true
 te:s.σ.gx (some s.last)=true
 sf:SF E s.g s.σ W [(w.heap.size+1,nV f fi),(w.heap.size+1+1,nV f gR),(w.heap.size+1+1+1,nV s.g s.last),(w.heap.size+1+1+1+1,nV s.g s.mark)]
 b3:W.heap[w.heap.size]?=some (fV #[Bp E] 121)
 b8:W.heap[w.heap.size+1+1+1+1+1]?=some (fV #[fK s.c] 3)
 bl:W.heap[w.heap.size+1+1+1+1+1+1]?=some (fV #[jp E.bB 188] 280)
 bn:W.heap[w.heap.size+1+1+1+1+1+1+1]?=some (fV #[fK n] 3)
 fr:Fr E.bs w W
def RI.grown {σ:Ab} {s:Gh} {row : iM} {B : Nat} (h:RI E f σ w n fi gR s W) (hg:W.grownBy W' row) (hr:∀r,row=some r->B<=r/\∃o:Obj,W.heap[r]?=some o/\o.isCells=false) (a:E.w0.heap.size<=B) (d:w.heap.size<=B):RI E f σ w n fi gR s W':=
 ⟨h.le,h.ex,h.nl,h.ll,h.ml,h.fe,h.be,h.te,h.sf.grown hg hr a,qF hg hr h.b3,qF hg hr h.b8,qF hg hr h.bl,qF hg hr h.bn,h.fr.grown hg hr d⟩
def SF.side {σ:Ab} (h:SF E f σ w S) {T : TypeId} (q:w.heap[b]?=some (.cells c T m)) (l:∀t∈WT,t≠T) (a:E.w0.heap.size<=b) (j:Nat) (u:gh):SF E f σ (w.setCell ⟨b,j,none⟩ u) S:=by
 have⟨L,e,hr,hs⟩:=h;refine⟨L,e,hr.side q l a j u,λp d=>⟨?_,(hs p d).2⟩⟩;have x:Kept [b] w (w.setCell ⟨b,j,none⟩ u):=(Kept.refl _ w).setCell (.inl (by simp)) _;refine x.at (hs p d).1 λy=>?_;have g:=List.mem_singleton.1 y;have:=(hs p d).1;rw[g,q]at this;injection this with this;injection this with _ e2;exact l 72 (by decide) e2.symm
def Fr.aeR (h:Fr bs w W) (a:w.heap.size<=k) (j:Nat) (u:gh):Fr bs w (W.setCell ⟨k,j,none⟩ u):=by
 have⟨S,h1,h2⟩:=h;exact⟨S,h1.setCell (.inr a) _,h2⟩
theorem RI.next {σ:Ab} {s:Gh} (h:RI E f σ w n fi gR s W) (d:s.c < n) (l:E.w0.heap.size<=w.heap.size) (u:gh) (g:u=fK ((s.c+1:Nat))):RI E f σ w n fi gR ⟨s.g,s.σ,s.c+1,s.last,s.mark⟩ (W.setCell ⟨w.heap.size+1+1+1+1+1,0,none⟩ u):=by
 subst g;have a:Kept [w.heap.size+1+1+1+1+1] W (W.setCell ⟨w.heap.size+1+1+1+1+1,0,none⟩ (fK ((s.c+1:Nat)))):=(Kept.refl _ W).setCell (.inl (by simp)) _;exact
  {le:=d,ex:=h.ex,nl:=h.nl,ll:=h.ll,ml:=h.ml,fe:=h.fe,be:=h.be,te:=h.te
   sf:=h.sf.side h.b8 (by decide) (by omega) 0 _
   b3:=a.at h.b3 (by grind)
   b8:=fI h.b8 0 _
   bl:=a.at h.bl (by simp)
   bn:=a.at h.bn (by grind)
   fr:=h.fr.aeR (by omega) 0 _}
def RI.step {σ:Ab} {s:Gh} (h:RI E f σ w n fi gR s W) {d : Nat->Nat} {σ':Ab} (p:RS s.σ.nodes.length s.g d) (l:s.σ.nodes.length<=σ'.nodes.length) (g:Fr E.bs W W') (a:∀i,s.σ.gx (some i)=true->σ'.gx (some i)=true)
  (u:SF E d σ' W' [(w.heap.size+1,nV f fi),(w.heap.size+1+1,nV f gR),(w.heap.size+1+1+1,nV s.g s.last),(w.heap.size+1+1+1+1,nV s.g s.mark)]):RI E f σ w n fi gR ⟨d,σ',s.c,s.last,s.mark⟩ W':=by
 have e1:nV s.g s.last=nV d s.last:=by unfold nV;rw[p _ h.ll]
 have e2:nV s.g s.mark=nV d s.mark:=by unfold nV;rw[p _ h.ml]
 rw[e1,e2]at u;exact
  {le:=h.le,ex:=λi q=>(p i (lz q h.nl)).trans (h.ex i q),nl:=jC h.nl l,ll:=lz h.ll l,ml:=lz h.ml l,fe:=a _ h.fe,be:=a _ h.be,te:=a _ h.te
   sf:=u
   b3:=g.at h.b3 (by decide),b8:=g.at h.b8 (by decide),bl:=g.at h.bl (by decide),bn:=g.at h.bn (by decide)
   fr:=h.fr.trans g}
def RI.abQ {σ:Ab} {s:Gh} (h:RI E f σ w n fi gR s W) (x:Nat) (a:s.σ.gx (some x)=true) (g:E.w0.heap.size<=w.heap.size) (d:E.bs<=w.heap.size):RI E f σ w n fi gR ⟨s.g,s.σ,s.c,x,s.mark⟩ (W.setCell ⟨w.heap.size+1+1+1,0,none⟩ (nV s.g x))/\Fr E.bs W (W.setCell ⟨w.heap.size+1+1+1,0,none⟩ (nV s.g x)):=by
 have⟨q1,q2⟩:=h.sf.set (k:=w.heap.size+1+1+1) (v:=nV s.g s.last) (by simp) (by omega) (by omega) (nV s.g x) [(w.heap.size+1,nV f fi),(w.heap.size+1+1,nV f gR),(w.heap.size+1+1+1,nV s.g x),(w.heap.size+1+1+1+1,nV s.g s.mark)] (by
  simp)
 exact⟨{le:=h.le,ex:=h.ex,nl:=h.nl,ll:=Ab.lF (σ:=s.σ) (i:=x) a,ml:=h.ml,fe:=h.fe,be:=h.be,te:=a,sf:=q1,b3:=q2.at h.b3 (by decide),b8:=q2.at h.b8 (by decide),bl:=q2.at h.bl (by decide),bn:=q2.at h.bn (by decide),fr:=h.fr.trans q2},q2⟩
def RI.abU {σ:Ab} {s:Gh} (h:RI E f σ w n fi gR s W) (x:Nat) (g:s.σ.gx (some x)=true) (d:E.w0.heap.size<=w.heap.size) (a:E.bs<=w.heap.size):RI E f σ w n fi gR ⟨s.g,s.σ,s.c,s.last,x⟩ (W.setCell ⟨w.heap.size+1+1+1+1,0,none⟩ (nV s.g x))/\Fr E.bs W (W.setCell ⟨w.heap.size+1+1+1+1,0,none⟩ (nV s.g x)):=by
 have⟨q1,q2⟩:=h.sf.set (k:=w.heap.size+1+1+1+1) (v:=nV s.g s.mark) (by simp) (by omega) (by omega) (nV s.g x) [(w.heap.size+1,nV f fi),(w.heap.size+1+1,nV f gR),(w.heap.size+1+1+1,nV s.g s.last),(w.heap.size+1+1+1+1,nV s.g x)] (by
  simp)
 exact⟨{le:=h.le,ex:=h.ex,nl:=h.nl,ll:=h.ll,ml:=Ab.lF (σ:=s.σ) (i:=x) g,fe:=h.fe,be:=h.be,te:=h.te,sf:=q1,b3:=q2.at h.b3 (by decide),b8:=q2.at h.b8 (by decide),bl:=q2.at h.bl (by decide),bn:=q2.at h.bn (by decide),fr:=h.fr.trans q2},q2⟩
theorem SO {a : Nat} {σ σ':Ab} (h:kH j σ= .ok a σ'):σ'.gx (some a)=true:=by
 unfold kH at h;split at h
 .split at h
  .cases h
  .cases h;show((σ.add _).gF σ.nodes.length).isSome=true;rw[Ab.vE];rfl
 grind
def RI.k0 {σ:Ab} {s:Gh} (h:RI E f σ w n fi gR s W) (a:Kept [] W W'):RI E f σ w n fi gR s W':=
 ⟨h.le,h.ex,h.nl,h.ll,h.ml,h.fe,h.be,h.te,h.sf.gJ a,a.at h.b3 (by simp),a.at h.b8 (by simp),a.at h.bl (by simp),a.at h.bn (by simp),h.fr.trans (.gv a)⟩
def SX (f gR k c last d e:Nat):M (Nat×Nat):=λg=>if some e∉g.act then (jY (some e)>>=λ_=>mn f gR k (c+1) last d) g else
 (kH e>>=λa=>zN (some e) (some a)>>=λ_=>rA (some e) (some a)>>=λ_=>me last>>=λ_=>jf a>>=λh=>nj h last>>=λ_=>mn f gR k (c+1) a (if last=gR then a else d)) g
theorem PN {f c last a : Nat} {σ:Ab} {R : qI (Nat×Nat)} (h:R=mn f gR (k+1) c last a σ) (l:R≠ .stuck):∃e,gU σ.fQ (k:Int)=some e/\((e=f/\R= .ok (last,a) σ)\/(e≠f/\R=((if 3 < c+1 then kB (some e)else pure ())>>=λ_=>SX f gR k c last a e) σ)):=by
 have d:R=(FU k>>=λe=>if e=f then pure (last,a)else ((if 3 < c+1 then kB (some e)else pure ())>>=λ_=>SX f gR k c last a e)) σ:=h;rw[M.fP]at d;unfold FU at d;cases hq:gU σ.fQ (k:Int)with
 |none=>grind
 |some e=>
  rw[hq]at d;dsimp only at d;refine⟨e,rfl,?_⟩
  by_cases g:e=f
  .rw[fU g]at d;exact .inl ⟨g,d⟩
  grind
def RF.eql {g : Nat->Nat} {σ:Ab} (h:RF E g σ W) (a:σ.gx (some i)=true) (d:σ.gx (some j)=true):(binOp .eql 72 (nV g i) (nV g j)).run prog W= .ok (.bool (decide (i=j))) W:=by
 obtain⟨L,rfl,hr⟩:=h;have:=C7 (hr.gx a) (hr.gx d);rw[show decide (gX L.gp (some i)=gX L.gp (some j))=decide (i=j)from decide_eq_decide.2 ⟨λe=>hr.inj _ _ (jr e),λe=>by rw[e]⟩]at this;exact this
theorem Y0 {σ:Ab} (h:RF E f σ w) (fi gR:Nat) (aS:(σ.gF fi).isSome=true) (bk:some gR∈σ.fQ) (hs:ww fi gR σ≠ .stuck):
  Calls prog 373 #[Bp E,nV f fi,nV f gR] w (λe w'=>Leaves E f σ.nodes.length w (ww fi gR σ) (λg r=> .tuple #[nV g r.1,nV g r.2]) e w'/\afz (ww fi gR σ)):=by
 obtain⟨R,hR⟩:∃R,R=ww fi gR σ:=⟨_,rfl⟩;rw[<-hR]at hs|-;obtain⟨n,hn⟩:∃n,n=(posOf σ.fQ (some gR)).toNat:=⟨_,rfl⟩;have bj:R=mn fi gR n 0 gR fi σ:=by rw[hR,hn];rfl
 have bu:posOf σ.fQ (some gR)=(n:Int):=by
  rw[hn];rcases sP σ.fQ (some gR)with⟨bN,_⟩|⟨m,hp,_⟩
  .grind
  .omega
 have bw:Wf σ:=by have⟨L,_,hr⟩:=h;exact hr.wf
 have V:(σ.gF gR).isSome=true:=bw.fQ _ bk;have bm:σ.gx (some gR)=true:=Ab.vL (bw.fQ _ bk);have bS:σ.fQ.length<=4096:=by have⟨L,_,hr⟩:=h;exact hr.ve
 have bM:n<=4096:=by
  rcases sP σ.fQ (some gR)with⟨bN,_⟩|⟨m,hp,hm,_⟩
  .omega
  .omega
 have bZ:=h.lt;have aT:E.w0.heap.size<=w.heap.size:=by have⟨L,_,hr⟩:=h;exact hr.fr.size
 have bo:E.bs<=w.heap.size:=by have⟨L,_,hr⟩:=h;have:=hr.bB;omega
 have HF:=fx h;have HR:=fx bj;have HS:=fx hs;have bB:=fx bm;have HP:=fx bu;clear h hR bj hs;refine(wV (n:=9)).1 ?_;refine wL func373 rfl trivial ?_ rfl;simp only[ntmps373,xC,sV,vZ,Nat.reduceAdd,Nat.reduceSub,xn,xj,xm,xI,rM,vz];obtain⟨w5,am⟩:∃w5,w5=((((w.alloc (fV #[Bp E] 121)).alloc (fV #[nV f fi] 72)).alloc (fV #[nV f gR] 72)).alloc (fV #[.pointer none] 72)).alloc (fV #[.pointer none] 72):=⟨_,rfl⟩;have bq:Kept [] w w5:=by rw[am];exact(((((Kept.refl _ _).alloc _).alloc _).alloc _).alloc _).alloc _
 have bx:w5.heap.size=w.heap.size+1+1+1+1+1:=by rw[am];simp
 have⟨b3,b4,b5,b6,b7⟩:=O3 w (fV #[Bp E] 121) (fV #[nV f fi] 72) (fV #[nV f gR] 72) (fV #[.pointer none] 72) (fV #[.pointer none] 72);rw[<-am]at b3 b4 b5 b6 b7;have c4:=fw b4 0;have c5:=fw b5 0;have c6:=fw b6 0;have c7:=fw b7 0;have f6:=fA b6 0;have f7:=fA b7 0;dsimp at c4 c5 c6 c7;have aq:=fx am;have aX:=fx bq;have b9:=fx bx;have B3:=fx b3;have B4:=fx b4;have B5:=fx b5;have B6:=fx b6;have B7:=fx b7;clear am bq bx b3 b4 b5 b6 b7
 gi_wp2_with fail
 rw[<-aq.out];rename_i K1 bd;refine xO (Q:=Exit.then (λa W'=>a={tmps:=#[Bp E,nV f fi,nV f gR,fW w.heap.size,fW (w.heap.size+1),fW (w.heap.size+1+1),fW (w.heap.size+1+1+1),fW (w.heap.size+1+1+1+1),undef,undef,undef,nV f gR,nV f fi,undef,undef,undef,undef,undef,undef,undef,undef,undef,undef,undef,undef,undef,undef,undef,undef,undef,undef,undef,undef,undef,undef,undef,undef,undef,undef,undef,undef,undef,undef,undef,undef,undef,undef,undef,undef,undef,undef,undef,undef,undef,undef,undef,undef,undef,undef,undef,undef,undef,undef,undef,undef,undef,undef,undef,undef,undef],defers:=[]}/\W'.heap.size=w5.heap.size/\Kept [] w W'/\Kept [w.heap.size+1+1+1,w.heap.size+1+1+1+1] w5 W'/\W'.heap[w.heap.size+1+1+1]?=some (fV #[nV f gR] 72)/\W'.heap[w.heap.size+1+1+1+1]?=some (fV #[nV f fi] 72)) (λ_ _ _=>False)) ?_ ?_
 .refine wpIn_wide.2 ?_;go_region;refine⟨rfl,by simp,((aX.out.setCell (.inr (by simp;omega)) _).setCell (.inr (by simp;omega)) _).drew,(((Kept.refl _ w5).setCell (.inl (by simp)) _).setCell (.inl (by simp)) _).drew,?_,?_⟩
  .exact(Below.heap_setCell _ _ _ _ (by simp)).trans (fI B6.out 0 _)
  .exact fI ((Below.heap_setCell _ _ _ _ (by simp)).trans B7.out) 0 _
 .intro e a W' hq;cases e with
  |normal=>
   obtain⟨rfl,aU,br,aC,g6,g7⟩:=hq;show K1 _ W';dsimp only;refine bd _ _ ?_;have g3:=aC.at B3.out (by simp;omega);have g4:=aC.at B4.out (by simp);have g5:=aC.at B5.out (by simp);rw[b9.out]at aU;have au:=fx aU;have aY:=fx br;have G3:=fx g3;have G4:=fx g4;have G5:=fx g5;have G6:=fx g6;have G7:=fx g7;clear aU br aC g3 g4 g5 g6 g7 c4 c5 c6 c7 f6 f7 B3 B4 B5 B6 B7 aX b9 aq w5 bd
   gi_wp2_with fail
   rw[au.out];have a1:Kept [] W' (W'.alloc (fV #[fK 0] 3)):=(Kept.refl _ _).alloc _;have g8:(W'.alloc (fV #[fK 0] 3)).heap[w.heap.size+1+1+1+1+1]?=some (fV #[fK 0] 3):=by rw[<-au.out];exact fB W' _
   have bz:(W'.alloc (fV #[fK 0] 3)).heap.size=w.heap.size+1+1+1+1+1+1:=by rw[xa,au.out]
   have ad:=fx (aY.out.trans a1);replace G3:=fx (a1.at G3.out (by simp));replace G4:=fx (a1.at G4.out (by simp));replace G5:=fx (a1.at G5.out (by simp));replace G6:=fx (a1.at G6.out (by simp));replace G7:=fx (a1.at G7.out (by simp));have G8:=fx g8;have ag:=fx bz;clear a1 g8 bz aY au;generalize W'.alloc (fV #[fK 0] 3)=W8 at *;have c3:=fw G3.out 0;have c5:=fw G5.out 0;dsimp at c3 c5;have bK:=(HF.out.gJ ad.out).lt;have aH:=fx ((HF.out.gJ ad.out.drew).adP (some gR) bB.out);rw[HP.out]at aH;rename_i Kb bX Ka bg;obtain⟨P3,bi⟩:∃P3:Act->fO->Prop,P3=(λa H=>∃av aw ax ay,a={tmps:=#[Bp E,nV f fi,nV f gR,fW w.heap.size,fW (w.heap.size+1),fW (w.heap.size+1+1),fW (w.heap.size+1+1+1),fW (w.heap.size+1+1+1+1),fW (w.heap.size+1+1+1+1+1),undef,undef,nV f gR,nV f fi,av,aw,ax,ay,uL (w.heap.size+1+1+1+1+1+1),undef,undef,undef,undef,undef,undef,undef,undef,undef,undef,undef,undef,undef,undef,undef,undef,undef,undef,undef,undef,undef,undef,undef,undef,undef,undef,undef,undef,undef,undef,undef,undef,undef,undef,undef,undef,undef,undef,undef,undef,undef,undef,undef,undef,undef,undef,undef,undef,undef,undef,undef,undef],defers:=[]}/\Kept [] W8 H/\H.heap[w.heap.size+1+1+1+1+1+1]?=some (fV #[jp E.bB 188] 280)/\H.heap[w.heap.size+1+1+1+1+1+1+1]?=some (fV #[fK n] 3)):=⟨_,rfl⟩;have aJ:=fx bi;clear bi;refine xO (Q:=Exit.then P3 (λ_ _ _=>False)) ?_ ?_
   .refine wpIn_wide.2 ?_
    go_region_with (go_at_call 385;refine aH.out.mono ?_;rintro e w9 ⟨rfl,bv⟩;have aL:=fx bv;clear bv)
    all_goals
     show P3 _ w9;rw[aJ.out,ag.out];refine⟨_,_,_,_,rfl,?_,?_,?_⟩
     .rw[aL.out];exact(((Kept.refl [] W8).drew).alloc _).alloc _
     .rw[aL.out,<-ag.out];exact(sj W8.drew _ _).1
     .rw[aL.out,<-ag.out];exact(sj W8.drew _ _).2
   .intro e a H hq;cases e with
    |normal=>
     replace hq:P3 a H:=hq;rw[aJ.out]at hq;obtain⟨av,aw,ax,ay,rfl,J,g9,bc⟩:=hq;show Ka _ H;dsimp only;refine bg _ _ ?_;have c1:w.heap.size+1+1+1+1+1+1<=H.heap.size:=by have:=ag.out;have:=J.size;omega
     have bp:RI E f σ w n fi gR ⟨f,σ,0,gR,fi⟩ H:=
      {le:=im _,ex:=λ_ _=>rfl,nl:=gr _,ll:=Ab.lF (σ:=σ) (i:=gR) V,ml:=Ab.lF (σ:=σ) (i:=fi) aS,fe:=aS,be:=V,te:=V
       sf:=HF.out.sf (ad.out.trans J) (by
        intro p hp;simp only[kA,FG,kJ]at hp;rcases hp with rfl|rfl|rfl|rfl
        .exact⟨by simp,J.at G4.out (by simp)⟩
        .exact⟨by omega,J.at G5.out (by simp)⟩
        .exact⟨by omega,J.at G6.out (by simp)⟩
        .exact⟨by omega,J.at G7.out (by simp)⟩)
       b3:=J.at G3.out (by simp),b8:=J.at G8.out (by simp),bl:=g9,bn:=bc
       fr:= .gv (ad.out.trans J)}
     have bC:=fx bp;clear bp J g9 bc G3 G4 G5 G6 G7 G8 ad ag aH aJ c3 c5 bK bg Ka P3 W8
     gi_wp2_with fail
     refine Zm (b:=E.bB) (j:=188) (bs:=w.heap.size+1+1+1+1+1+1) (by omega) bM rfl (λs:Gh=>gX s.g (gU s.σ.fQ ((n - 1 - s.c:Nat):Int))) Gh.c
      (λs W=>RI E f σ w n fi gR s W/\R=mn fi gR (n - s.c) s.c s.last s.mark s.σ)
      (λc s W=>c= .exit 0/\RI E f σ w n fi gR s W/\R= .ok (s.last,s.mark) s.σ)
      ?_ ?_ ?_ ?_ ?_ ⟨f,σ,0,gR,fi⟩ rfl ⟨bC.out,HR.out⟩ (λx=>{tmps:=#[Bp E,nV f fi,nV f gR,fW w.heap.size,fW (w.heap.size+1),fW (w.heap.size+1+1),fW (w.heap.size+1+1+1),fW (w.heap.size+1+1+1+1),fW (w.heap.size+1+1+1+1+1),kK x,undef,nV f gR,nV f fi,av,aw,ax,ay,uL (w.heap.size+1+1+1+1+1+1),kK x,undef,undef,undef,undef,undef,undef,undef,undef,undef,undef,undef,undef,undef,undef,undef,undef,undef,undef,undef,undef,undef,undef,undef,undef,undef,undef,undef,undef,undef,undef,undef,undef,undef,undef,undef,undef,undef,undef,undef,undef,undef,undef,undef,undef,undef,undef,undef,undef,undef,undef,undef],defers:=[]}) ?assign ?body ?done ?stop
     .rintro s A B row ⟨u,Y⟩ hg hr;exact⟨u.grown hg hr (by omega) (by omega),Y⟩
     .rintro c s A B row ⟨h0,u,Y⟩ hg hr;exact⟨h0,u.grown hg hr (by omega) (by omega),Y⟩
     .rintro s W ⟨u,_⟩;rw[fw u.bn];rfl
     .rintro s W ⟨u,_⟩;rw[fw u.bl];rfl
     .rintro s W q ⟨u,_⟩ bt rfl;exact u.sf.rf.dz _
     case assign=>
      intro l x W K hK;dsimp only;gi_wp2;exact hK
     case body=>
      rintro l s W ⟨u,Y⟩ bt;dsimp only;obtain⟨k,hk⟩:∃k,k=n - 1 - s.c:=⟨_,rfl⟩;have bJ:n - s.c=k+1:=by omega
      rw[bJ]at Y;have⟨e,hge,hcase⟩:=PN Y HS.out;rw[<-hk,hge];rw[show kK (gX s.g (some e))=nV s.g e from rfl];have a5:s.σ.gx (some e)=true:=by
       have⟨L,_,hr,_⟩:=u.sf;exact hr.wf.fQ _ (Ty hge)
      have c3:=fw u.b3 0;dsimp at c3;have c4:W.cell? ⟨w.heap.size+1,0,none⟩=some (nV s.g fi):=by
       rw[fw (u.sf.at (v:=nV f fi) (by simp)),show nV s.g fi=nV f fi by unfold nV;rw[u.ex fi (Ab.lF (σ:=σ) (i:=fi) aS)]];rfl
      have c8:=fw u.b8 0;have f8:=fA u.b8 0;dsimp at c8;have aR:=u.sf.rf.eql a5 u.fe;have bY:s.c < 4096:=by omega
      rcases hcase with⟨rfl,ai⟩|⟨bL,ai⟩
      .rw[uJ rfl]at aR;have H1:=fx u;have H3:=fx ai;clear u Y ai hge a5;unfold nV at *;gi_wp2;exact⟨KeepsFrom.refl _ _,s,rfl,H1.out,H3.out⟩
      .rw[vD bL]at aR;have aN:=u.next bt aT (fK ((s.c:Int)+1)) (by simp);obtain⟨W6,aA⟩:∃W6,W6=W.setCell ⟨w.heap.size+1+1+1+1+1,0,none⟩ (fK ((s.c:Int)+1)):=⟨_,rfl⟩;have aE:KeepsFrom H.heap.size W W6:=by rw[aA];exact(Oy _ _ _).from _
       rw[<-aA]at aN;have ab:=fx aN;have a2:=fx aE;have ar:=fx aA;have a0:=fx ai;have an:=fx a5;clear u Y ai hge aN aE aA a5;unfold nV at *
       by_cases h3:3 < s.c+1
       have af:Hid (R=(kB (some e)>>=λ_=>SX fi gR k s.c s.last s.mark e) s.σ):=by
        refine fx ?_;have:=a0.out
        rwa [fU h3]at this
       gi_wp2_with fail
       rw[<-ar.out];refine qy l (callsIn_wide.2 (Cr (YT E (some e)) ab.out.sf af.out HS.out rfl ?_));rintro a T WA N O z P F;have hA:=ab.out.step (λ_ _=>rfl) N z (Kj _ _ _ _ F) O;have X:=Kj _ _ _ _ F e an.out;have aO:=a2.out.trans (z.oL H.heap.size);have aP:=P;clear N O z P F ab af a0 a2 an ar c3 c4 c8 f8 aR
       rotate_left
       have af:Hid (R=SX fi gR k s.c s.last s.mark e s.σ):=by
        refine fx ?_;have:=a0.out
        rwa [gn h3]at this
       obtain⟨T,a7⟩:∃T,T=s.σ:=⟨_,rfl⟩;obtain⟨WA,aB⟩:∃WA,WA=W6:=⟨_,rfl⟩;have hA:RI E f σ w n fi gR ⟨s.g,T,s.c+1,s.last,s.mark⟩ WA:=by rw[a7,aB];exact ab.out
       have X:T.gx (some e)=true:=by rw[a7];exact an.out
       have aO:KeepsFrom H.heap.size W WA:=by rw[aB];exact a2.out
       have aP:R=SX fi gR k s.c s.last s.mark e T:=by rw[a7];exact af.out
       have bH:=fx (aB.trans ar.out);clear ab a0 a2 an af a7 aB ar
       all_goals
        have c3:=fw hA.b3 0;dsimp at c3;have aG:=fx (hA.sf.rf.aff (some e) X);have HA:=fx hA;have ap:=fx aP;have G:=fx aO;clear hA aP aO
        gi_wp2_with fail
        try rw[<-bH.out]
        refine(qy l (callsIn_wide.2 aG.out)).mono ?_;rintro e' w_ ⟨rfl,bP⟩;subst bP
        by_cases U:some e∈T.act
        .have aj:R=(kH e>>=λd=>zN (some e) (some d)>>=λ_=>rA (some e) (some d)>>=λ_=>me s.last>>=λ_=>jf d>>=λpl=>nj pl s.last>>=λ_=>mn fi gR k (s.c+1) d (if s.last=gR then d else s.mark)) T:=by
          rw[ap.out];unfold SX;rw[gn (by simpa using U)]
         have ae:=fx aj;rw[uJ U];clear aj U ap aG
         gi_wp2_with fail
         refine qy l (callsIn_wide.2 (afe (Xj E e) HA.out.sf ae.out HS.out rfl ?_));rintro d y bQ W2 x1 N O z P F;have Y:=HA.out.step x1 N z (Rf _ _ _ _ F) O;have bR:y e=s.g e:=x1 e (Ab.lF (σ:=T) (i:=e) X);have Z:=fx (SO F);have ac:=fx Y;have b2:=fx P;replace G:=fx (G.out.trans (z.oL H.heap.size));have c3:=fw Y.b3 0;dsimp at c3;clear Y x1 N O z P F HA ae X
         gi_wp2_with fail
         refine qy l (callsIn_wide.2 (Cr (aa2 E (some e) (some d)) ac.out.sf b2.out HS.out (by show _=#[_,nV y e,nV y d];simp) ?_));rintro a3 c9 W3 N O z P F;have aM:=ac.out.step (λ_ _=>rfl) N z (L5 _ _ _ _ _ F) O;replace Z:=fx (L5 _ _ _ _ _ F d Z.out);have aI:=fx aM;have a0:=fx P;replace G:=fx (G.out.trans (z.oL H.heap.size));have c3:=fw aM.b3 0;dsimp at c3;clear aM N O z P F ac b2
         gi_wp2_with fail
         refine qy l (callsIn_wide.2 (Cr (abP E (some e) (some d)) aI.out.sf a0.out HS.out (by show _=#[_,nV y e,nV y d];simp) ?_));rintro a4 bA W4 N O z P F;have h4:=aI.out.step (λ_ _=>rfl) N z (Ly _ _ _ _ _ F) O;replace Z:=fx (Ly _ _ _ _ _ F d Z.out);have ao:=fx h4;have ak:=P;replace G:=fx (G.out.trans (z.oL H.heap.size));have c5:W4.cell? ⟨w.heap.size+1+1,0,none⟩=some (nV y gR):=by
          have c0:y gR=f gR:=h4.ex gR (Ab.lF (σ:=σ) (i:=gR) V);rw[fw (h4.sf.at (k:=w.heap.size+1+1) (v:=nV f gR) (by simp)),show nV y gR=nV f gR by simp];rfl
         have c6:=fw (h4.sf.at (k:=w.heap.size+1+1+1) (v:=nV y s.last) (by simp)) 0;have c7:=fw (h4.sf.at (k:=w.heap.size+1+1+1+1) (v:=nV y s.mark) (by simp)) 0;have f7:=fA (h4.sf.at (k:=w.heap.size+1+1+1+1) (v:=nV y s.mark) (by simp)) 0;dsimp at c6 c7;have al:(binOp .eql 72 (nV y s.last) (nV y gR)).run prog W4= .ok (.bool (decide (s.last=gR))) W4:=h4.sf.rf.eql h4.te h4.be;clear h4 N O z P F aI a0;unfold nV at c5 c6 c7 al;generalize hmk:(if s.last=gR then d else s.mark)=mk at ak
         by_cases a9:s.last=gR
         rw[uJ a9]at al;have⟨q1,q2⟩:=ao.out.abU d Z.out aT bo;obtain⟨W5,az⟩:∃W5,W5=W4.setCell ⟨w.heap.size+1+1+1+1,0,none⟩ (fW (y d)):=⟨_,rfl⟩;have q3:RI E f σ w n fi gR ⟨y,bA,s.c+1,s.last,mk⟩ W5:=by rw[az,<-hmk,fU a9];exact q1
         have q4:KeepsFrom H.heap.size W4 W5:=by rw[az];exact q2.oL H.heap.size
         have H5:=fx q3;replace G:=fx (G.out.trans q4);have aq:=fx az;have aK:=fx ak;clear q1 q2 q3 q4 az ao ak a9 hmk
         gi_wp2_with fail
         rw[<-aq.out]
         rotate_left
         rw[vD a9]at al;have H5:=fx (show RI E f σ w n fi gR ⟨y,bA,s.c+1,s.last,mk⟩ W4 by rw[<-hmk,gn a9];exact ao.out);have aK:=fx ak;clear ao ak a9 hmk
         gi_wp2_with fail
         all_goals
          refine qy l (callsIn_wide.2 (Cr (WZ E s.last) H5.out.sf aK.out HS.out rfl ?_));rintro a6 ca W7 N O z P F;have h6:=H5.out.step (λ_ _=>rfl) N z (F9 _ _ _ _ F) O;have h7:=h6.k0 ((Kept.refl _ W7).drew);have c6:=fw (h6.sf.at (k:=w.heap.size+1+1+1) (v:=nV y s.last) (by simp)) 0;dsimp at c6;replace Z:=fx (F9 _ _ _ _ F d Z.out);have H7:=fx h7;have bF:=fx P;replace G:=fx ((G.out.trans (z.oL H.heap.size)).trans ((Fr.gv (bs:=E.bs) ((Kept.refl _ W7).drew)).oL H.heap.size));clear h6 h7 N O z P F H5 aK;unfold nV at c6
          gi_wp2_with fail
          have aV:Hid (Calls prog 99 #[nV y d] W7.drew λe WE=>∃pl I,e=gO (pV y pl)/\RI E f σ w n fi gR ⟨y,I,s.c+1,s.last,mk⟩ WE/\KeepsFrom H.heap.size W WE/\R=(nj pl s.last>>=λ_=>mn fi gR k (s.c+1) d mk) I/\I.gx (some d)=true):=by
           refine fx ?_;refine Cr (aci E d) H7.out.sf bF.out HS.out rfl ?_;rintro pl I WE N O z P F;exact⟨pl,I,rfl,H7.out.step (λ_ _=>rfl) N z (Mz _ _ _ _ F) O,G.out.trans (z.oL H.heap.size),P,Mz _ _ _ _ F d Z.out⟩
          have aW:Hid (∀pl I WE,RI E f σ w n fi gR ⟨y,I,s.c+1,s.last,mk⟩ WE->KeepsFrom H.heap.size W WE->R=(nj pl s.last>>=λ_=>mn fi gR k (s.c+1) d mk) I->I.gx (some d)=true->Calls prog 175 #[pV y pl,.iface 72 (nV y s.last)] WE λe WP=>e=oS/\∃aa,RI E f σ w n fi gR ⟨y,aa,s.c+1,s.last,mk⟩ WP/\KeepsFrom H.heap.size W WP/\R=mn fi gR k (s.c+1) d mk aa/\aa.gx (some d)=true):=by
           refine fx ?_;intro pl I WE y1 y2 y3 y4;refine Cr (acB E pl s.last) y1.sf y3 HS.out rfl ?_;rintro a8 aa WP N O z P F;exact⟨rfl,aa,y1.step (λ_ _=>rfl) N z (Mf _ _ _ _ _ F) O,y2.trans (z.oL H.heap.size),P,Mf _ _ _ _ _ F d y4⟩
          unfold nV at aV aW
          gi_region_with (first
           |(refine(qy l (callsIn_wide.2 aV.out)).mono ?_;rintro e' WE ⟨pl,I,rfl,y1,y2,y3,y4⟩;have bT:WE.cell? ⟨w.heap.size+1+1+1,0,none⟩=some (fW (y s.last)):=by {rw[fw (y1.sf.at (k:=w.heap.size+1+1+1) (v:=nV y s.last) (by simp))];rfl};have CP:=fx (aW.out pl I WE y1 y2 y3 y4);clear y1 y2 y3 y4)
           |(refine(qy l (callsIn_wide.2 CP.out)).mono ?_;rintro e' WP ⟨rfl,aa,y1,y2,y3,y4⟩;have bU:WP.cell? ⟨w.heap.size+1+1+1,0,none⟩=some (fW (y s.last)):=by {rw[fw (y1.sf.at (k:=w.heap.size+1+1+1) (v:=nV y s.last) (by simp))];rfl};have bW:=fA (y1.sf.at (k:=w.heap.size+1+1+1) (v:=nV y s.last) (by simp)) 0;have b0:=fx (y1.abQ d y4 aT bo);have b1:=fx y3;have bE:=fx y2;clear y1 y2 y3 y4))
          all_goals
           gi_wp2;exact⟨bE.out.trans (b0.out.2.oL H.heap.size),_,rfl,b0.out.1,by rw[show n - (s.c+1)=k by omega];exact b1.out⟩
        .have aj:R=(jY (some e)>>=λ_=>mn fi gR k (s.c+1) s.last s.mark) T:=by
          rw[ap.out];unfold SX;rw[fU U]
         have ae:=fx aj;rw[vD U];clear aj U ap aG
         gi_wp2_with fail
         refine qy l (callsIn_wide.2 (Cr (YA E (some e)) HA.out.sf ae.out HS.out rfl ?_));rintro a bQ W2 N O z P F;have Y:=HA.out.step (λ_ _=>rfl) N z (SC _ _ _ _ F) O;have ac:=fx Y;have bI:=fx P;have aZ:=fx (G.out.trans (z.oL H.heap.size));clear Y N O z P F HA ae G c3;gi_wp2;exact⟨aZ.out,_,rfl,ac.out,by rw[show n - (s.c+1)=k by omega];exact bI.out⟩
     rintro D s W hD hc ⟨u,Y⟩ hK;have aQ:R= .ok (s.last,s.mark) s.σ:=by
      rw[Y,show n - s.c=0 by omega];rfl
     clear Y hc
     rotate_left
     rintro D c s W hD ⟨rfl,u,aQ⟩ hK
     all_goals
      have c6:=fw (u.sf.at (k:=w.heap.size+1+1+1) (v:=nV s.g s.last) (by simp)) 0;have c7:=fw (u.sf.at (k:=w.heap.size+1+1+1+1) (v:=nV s.g s.mark) (by simp)) 0;have f6:=fA (u.sf.at (k:=w.heap.size+1+1+1) (v:=nV s.g s.last) (by simp)) 0;have f7:=fA (u.sf.at (k:=w.heap.size+1+1+1+1) (v:=nV s.g s.mark) (by simp)) 0;dsimp at c6 c7;have s6:=nU (u.sf.at (k:=w.heap.size+1+1+1) (v:=nV s.g s.last) (by simp)) 0 (nV s.g s.last) rfl;have s7:=nU (u.sf.at (k:=w.heap.size+1+1+1+1) (v:=nV s.g s.mark) (by simp)) 0 (nV s.g s.mark) rfl;have S6:=fx s6;have S7:=fx s7;have H1:=fx u;have bG:=fx aQ;have HD:=fx hD;have bD:=fx hK;clear u aQ hD hK s6 s7
      gi_wp2_with fail
      rename_i Kx bh;obtain⟨ah,aF⟩:∃ah:Act->fO->Prop,ah=(λa W'=>∃ba bb,a={tmps:=#[Bp E,nV f fi,nV f gR,fW w.heap.size,fW (w.heap.size+1),fW (w.heap.size+1+1),fW (w.heap.size+1+1+1),fW (w.heap.size+1+1+1+1),fW (w.heap.size+1+1+1+1+1),undef,undef,nV f gR,nV f fi,av,aw,ax,ay,uL (w.heap.size+1+1+1+1+1+1),undef,undef,undef,undef,undef,undef,undef,undef,undef,undef,undef,undef,undef,undef,undef,undef,undef,undef,undef,undef,undef,undef,undef,undef,undef,undef,undef,undef,undef,undef,undef,undef,undef,undef,undef,undef,undef,undef,undef,undef,undef,undef,undef,undef,undef,undef,undef,undef,undef,undef,ba,bb],defers:=[{target:=Target.collected D,args:=#[]}]}/\W'=W.drew):=⟨_,rfl⟩;have aD:=fx aF;clear aF;refine xO (Q:=Exit.then ah (λ_ _ _=>False)) ?_ ?_
      .refine wpIn_wide.2 ?_;go_region
       all_goals
        show ah _ _;rw[aD.out];refine⟨_,_,rfl,?_⟩;show((W.setCell ⟨w.heap.size+1+1+1,0,none⟩ (nV s.g s.last)).setCell ⟨w.heap.size+1+1+1+1,0,none⟩ (nV s.g s.mark)).drew=W.drew;rw[S6.out,S7.out]
      .intro e a W' hq;cases e with
       |normal=>
        replace hq:ah a W':=hq;rw[aD.out]at hq;obtain⟨ba,bb,rfl,rfl⟩:=hq;show Kx _ _;dsimp only;refine bh _ _ ?_;clear bh;have c6:W.drew.cell? ⟨w.heap.size+1+1+1,0,none⟩=some (nV s.g s.last):=c6;gi_wp2;have bf:W.drew.heap[D]?=some (.deferred (some [])):=bD.out;refine⟨by simp,.inl ⟨_,_,rfl,ou bf,?_⟩⟩;have hD:=HD.out;have h7:=H1.out.k0 ((Kept.refl _ W).drew);have d6:(W.drew.putObj D (.deferred none)).cell? ⟨w.heap.size+1+1+1,0,none⟩=some (nV s.g s.last):=(yM W.drew (by omega)).trans c6;have d7:(W.drew.putObj D (.deferred none)).cell? ⟨w.heap.size+1+1+1+1,0,none⟩=some (nV s.g s.mark):=(yM W.drew (by omega)).trans c7;refine⟨.tuple #[nV s.g s.last,nV s.g s.mark],by simp[results,results373,asAddr,Result.andThen,go_sem,d6,d7],?_⟩;rw[bG.out];have⟨L,hLe,hr,_⟩:=h7.sf;exact⟨⟨s.g,h7.ex,h7.nl,rfl,⟨L,hLe,hr.aa8 bf rfl (by omega)⟩,h7.fr.take (by omega) _⟩,λr c2 bO=>by cases bO;exact⟨h7.ll,h7.ml⟩⟩
       |_=>exact hq.elim
    |_=>exact hq.elim
  |_=>exact hq.elim
end
def dm (E:Env) (L:Loc) (i:Nat) (σ':Ab) (w w':fO):Prop:=∃a,a.gp=L.gp/\(∀x,x≠i->a.kv x=L.kv x)/\Rel E a σ' w'/\Fr E.bs w w'
theorem Rel.adl {σ σ':Ab} (h:Rel E L σ w) (i:Nat) (l:gh) (I:(σ.gF i).isSome=true) (U:KT E.bs [140,142,284] w w') (O:l.ownBlock=(L.kv i).ownBlock\/∀g,l.ownBlock=some g->w.heap.size<=g)
  (d:σ'.nodes.length=σ.nodes.length) (N:∀j R,σ'.gF j=some R->∃e,σ.gF j=some e/\R.name=e.name) (G:∀j,σ'.gF j=none->σ.gF j=none)
  (P:∀j V,σ'.nodes[j]?=some V->kM E.bs {L with kv:=λx=>if x=i then l else L.kv x} w' j V) (wf:Wf σ')
  (s0:σ'.fQ=σ.fQ:=by rfl) (s9:σ'.act=σ.act:=by rfl) (s1:σ'.head=σ.head:=by rfl) (s2:σ'.form=σ.form:=by rfl) (s3:σ'.mode=σ.mode:=by rfl) (s4:σ'.kept=σ.kept:=by rfl) (s5:σ'.iq=σ.iq:=by rfl) (s6:σ'.iP=σ.iP:=by rfl) (s7:σ'.gp=σ.gp:=by rfl) (s8:σ'.behind=σ.behind:=by rfl) (sw:σ'.waiting=σ.waiting:=by rfl) (so:σ'.mV=σ.mV:=by rfl) (sp:σ'.iA=σ.iA:=by rfl) (sf:σ'.fresh=σ.fresh:=by rfl) (X:σ'.pS=σ.pS:=by rfl) (Y:σ'.rq=σ.rq:=by rfl) (Z:σ'.oY=σ.oY:=by rfl):dm E L i σ' w w':=by
 have J:=Ab.lF (σ:=σ) (i:=i) I;have T:∀j g,j < σ.nodes.length->j≠i->l.ownBlock=some g->(L.kv j).ownBlock≠some g:=by
  intro j g p u hg z;rcases O with e|e
  .rw[e]at hg;exact h.xv i j g J p (xH u) hg z
  .have⟨c,m,hc⟩:=h.zz p z
   grind
 refine⟨{L with kv:=λx=>if x=i then l else L.kv x},rfl,λx hx=>gn hx,h.UQ (L':={L with kv:=λx=>if x=i then l else L.kv x}) U (λ_ _=>rfl) rfl rfl rfl P h.inj ?_ ?_ ?_ ?_ wf ?_ (nk d) s0 s9 s1 s2 s3 s4 s5 s6 s7 s8 sw so sp X Y Z,U.fr (by decide)⟩
 .intro a b g H y q hg;rw[d]at H y
  by_cases h1:a=i
  .grind
  .simp only[gn h1]at hg
   by_cases h2:b=i
   .grind
   .simp only[gn h2];exact h.xv a b g H y q hg
 .intro j p K;rw[d]at p;have F:=G j K;have u:j≠i:=by rintro rfl;rw[F]at I;cases I
  simp only[gn u];exact h.Ak j p F
 .intro a b e g H a0 y q hg;rw[d]at y;have⟨e0,h0,hnm'⟩:=N a e H;exact h.uq a b e0 g h0 (by grind) y q hg
 .intro j p K;rw[d]at p;exact h.Ad j p (G j K)
 .rw[d,sf];exact h.yJ
theorem Xc {σ:Ab} (h:Rel E L σ w) (y:σ.gF i=some ei) (G:σ.gF j=some ej) (z:j≠i) (hn:n<=ei.kids.length) (hl:ei.kids.length < 1048576):
  Calls prog 175 #[place (L.gp i) n,(Nd.el (L.gp j)).val] w λe w'=>e=oS/\dm E L i ((σ.gE i {ei with kids:=ins ei.kids n (.el j)}).gE j {ej with iJ:=some i}) w w':=by
 have u:=Ab.gL y;have N:=Ab.gL G;have p:(σ.gF i).isSome=true:=by rw[y];rfl
 have I:(σ.gF j).isSome=true:=by rw[G];rfl
 have V:=h.wI y;have lI:=h.Ac y;have aJ:=h.wI G;have lJ:=h.Ac G;refine(R6 E.bs _ n _ _ _ _ _ _ _ _ _ _ _ w (h.uS y) (h.uS G) (λe=>z (h.inj _ _ e)) (λg hg=>h.xv j i g N u z hg) (by grind) (by grind) h.bw).mono ?_;rintro e w' ⟨rfl,⟨F,U,X⟩,E2,R⟩;have P:∀s∈L.gp j::L.gp i::(L.kv i).ownBlock.toList,∃x∈[j,i],s=L.gp x\/(L.kv x).ownBlock=some s:=by
  intro s J;rcases List.mem_cons.1 J with rfl|J
  .simp
  rcases List.mem_cons.1 J with rfl|J
  .simp
  .grind
 have T:=h.cE [j,i] (by grind) P R;have K:((σ.gE i {ei with kids:=ins ei.kids n (.el j)}).gF j).isSome=true:=by rw[Ab.iy z];exact I
 have H:∀x e,x < σ.nodes.length->zD w (L.av x) e->zD w' (L.av x) e:=λx e _ Z=>T.row Z (by decide);refine⟨rfl,h.adl i F p T X (by simp[Ab.gE]) ?_ ?_ ?_ ?_⟩
 .intro x e' a
  by_cases l:x=j
  .subst l;rw[Ab.iF (by grind[Ab.gE])]at a;grind
  .rw[Ab.iy l]at a
   by_cases d:x=i
   .subst d;rw[Ab.iF u]at a;grind
   .rw[Ab.iy d]at a;grind
 .intro x a
  by_cases l:x=j
  .subst l;rw[Ab.iF (by grind[Ab.gE])]at a;cases a
  .rw[Ab.iy l]at a
   by_cases d:x=i
   .subst d;rw[Ab.iF u]at a;cases a
   .rwa [Ab.iy d]at a
 .intro x nd a;rcases Ab.nS a with⟨rfl,rfl⟩|⟨l,a⟩
  .grind[kM]
  .rcases Ab.nS a with⟨rfl,rfl⟩|⟨d,a⟩
   .show El E.bs w' _ _ _ _ (if x=x then F else L.kv x) _/\_;rw[fU rfl];refine⟨?_,H x _ u V,lI⟩;show El E.bs w' (L.gp x) ei.name (L.av x) (gX L.gp ei.iJ) F ((ins ei.kids n (.el j)).map (Nd.map L.gp));rw[Ei];exact U
   .have Y:=h.gN [j,i] (by grind) P R a (by grind);have O:x < σ.nodes.length:=(List.getElem?_eq_some_iff.1 a).1;exact Y.ext (σ:=σ) (GD.refl _ _) O rfl (gn d) (h.cn a)
 .refine(h.wf.gE (e:={ei with kids:=ins ei.kids n (.el j)}) p (h.wf.iJ i ei y) ?_).gE K ?_ ?_
  .intro k q;rcases DV q with q|rfl
   .exact h.wf.kids i ei y k q
   .exact I
  .rw[Ab.qd p];exact p
  .intro k q;rw[Ab.kR p];exact h.wf.kids j ej G k q
theorem VF {σ:Ab} (h:Rel E L σ w) {k : Nd} (g:σ.gF i=some ei) (R:σ.iR k=true) (N:∀j,k≠ .el j) (U:n<=ei.kids.length) (T:ei.kids.length < 1048576):
  Calls prog 175 #[place (L.gp i) n,(Nd.map L.gp k).val] w λe w'=>e=oS/\dm E L i (σ.gE i {ei with kids:=ins ei.kids n k}) w w':=by
 have q:=Ab.gL g;have p:(σ.gF i).isSome=true:=by rw[g];rfl
 have I:=h.wI g;have O:=h.Ac g;refine(Yn E.bs _ n _ _ _ _ _ (Nd.map L.gp k) w (h.uS g) (by grind) (by grind) h.bw (λj e=>by cases k<;>simp[Nd.map]at e;grind)).mono ?_;rintro e w' ⟨rfl,⟨l,H,J⟩,u⟩;have z:∀s∈L.gp i::(L.kv i).ownBlock.toList,∃x∈[i],s=L.gp x\/(L.kv x).ownBlock=some s:=by
  intro s F;rcases List.mem_cons.1 F with rfl|F
  .simp
  .grind
 have G:=h.cE [i] (by grind) z u;refine⟨rfl,h.adl i l p G J (by simp[Ab.gE]) ?_ ?_ ?_ ?_⟩
 .intro x P a
  by_cases d:x=i
  .subst d;rw[Ab.iF q]at a;grind
  .rw[Ab.iy d]at a;grind
 .intro x a
  by_cases d:x=i
  .subst d;rw[Ab.iF q]at a;cases a
  .rwa [Ab.iy d]at a
 .intro x V a;rcases Ab.nS a with⟨rfl,rfl⟩|⟨d,a⟩
  .show El E.bs w' _ _ _ _ (if x=x then l else L.kv x) _/\_;rw[fU rfl];refine⟨?_,G.row I (by decide),O⟩;show El E.bs w' (L.gp x) ei.name (L.av x) (gX L.gp ei.iJ) l ((ins ei.kids n k).map (Nd.map L.gp));rw[Ei];exact H
  .have K:=h.gN [i] (by grind) z u a (by grind);have y:x < σ.nodes.length:=(List.getElem?_eq_some_iff.1 a).1;exact K.ext (σ:=σ) (GD.refl _ _) y rfl (gn d) (h.cn a)
 .refine h.wf.gE p (h.wf.iJ i ei g) ?_;intro x a;rcases DV a with a|rfl
  .exact h.wf.kids i ei g x a
  omega
attribute [local go_sem] Oper.semAt_some
def Sn (dst:Nat) (k:Nd) (r:List Nd):yy dst (k::r)=(jf dst>>=λa=>(FC a k>>=λ_=>yy dst r)):=rfl
theorem Xt (E:Env) {σ:Ab} {dst : Nat} (u:b≠dst) {z : Al} (H:σ.gF b=some z) {k : Nd} {r : List Nd} {G:Type} {K:Unit->M G} {R:qI G} (a:R=(yy dst (k::r)>>=K) σ) (y:R≠ .stuck) (F:σ.iR k=true):
  ∃d l,σ.gF dst=some d/\R=(yy dst r>>=K) l/\(∃p,l.gF b=some p/\p.kids=z.kids)/\l.nodes.length=σ.nodes.length/\
   ∀(L:Loc) (w:fO),Rel E L σ w->Calls prog 175 #[place (L.gp dst) d.kids.length,(Nd.map L.gp k).val] w (λe w'=>e=oS/\dm E L dst l w w'):=by
 rw[Sn,M.fP,M.fP]at a;unfold jf at a;cases hd:σ.gF dst with
 |none=>rw[hd]at a;exact absurd a y
 |some d=>
  rw[hd]at a;dsimp only at a;rw[M.fP]at a;cases k with
  |el j=>
   unfold FC nj at a;dsimp only at a;cases hj:σ.gF j with
   |none=>rw[hd,hj]at a;exact absurd a y
   |some ej=>
    rw[hd,hj]at a;dsimp only at a
    by_cases g:j≠dst/\d.kids.length<=d.kids.length/\d.kids.length < 1048576
    .rw[fU g]at a;refine⟨d,_,rfl,?_,?_,?_,λL w h=>Xc h hd hj g.1 g.2.1 g.2.2⟩
     .rw[a,M.fP]
     .by_cases x:b=j
      .subst x;rw[Ab.iF (by rw[Ab.nr];exact Ab.gL hj)]
       grind
      .rw[Ab.iy x,Ab.iy u]
       grind
     simp[Ab.gE]
    .rw[gn g]at a;exact absurd a y
  |_=>
   unfold FC zQ at a;dsimp only at a;rw[hd]at a;dsimp only at a
   by_cases g:d.kids.length < 1048576
   .rw[fU ⟨F,gr _,g⟩]at a;refine⟨d,_,rfl,?_,?_,?_,λL w h=>VF h hd F (by simp) (gr _) g⟩
    .rw[a,M.fP]
    .rw[Ab.iy u]
     grind
    simp[Ab.gE]
   .rw[gn (λq=>g q.2.2)]at a;exact absurd a y
theorem Rel.adU {σ:Ab} (h:Rel E L σ w) (l:σ.gF i=some ei):To E L (σ.gE i {ei with kids:=[]}) w (w.setCell ⟨L.gp i,3,none⟩ (iQ)):=by
 have q:=Ab.gL l;have p:(σ.gF i).isSome=true:=by rw[l];rfl
 have H:=h.wI l;have K:=h.Ac l;have y:=h.uS l;have F:Kept [L.gp i] w (w.setCell ⟨L.gp i,3,none⟩ (iQ)):=(Kept.refl _ w).setCell (.inl (by simp)) _;have z:∀s∈[L.gp i],∃x∈[i],s=L.gp x\/(L.kv x).ownBlock=some s:=by
  intro s J;exact⟨i,by simp,.inl (List.mem_singleton.1 J)⟩
 have G:=h.cE [i] (by grind) z F;refine h.acH i (iQ) p G (.inr (by intro g hg;cases hg)) (by simp[Ab.gE]) ?_ ?_ ?_ ?_
 .intro x N d
  by_cases a:x=i
  .subst a;rw[Ab.iF q]at d;grind
  .rw[Ab.iy a]at d;grind
 .intro x d
  by_cases a:x=i
  .subst a;rw[Ab.iF q]at d;cases d
  .rwa [Ab.iy a]at d
 .intro x O d;rcases Ab.nS d with⟨rfl,rfl⟩|⟨a,d⟩
  .show El E.bs _ _ _ _ _ (if x=x then (iQ)else L.kv x) _/\_;rw[fU rfl];refine⟨⟨fI y.gR 3 _,?_,by simp,y.UG⟩,G.row H (by decide),K⟩;exact⟨rfl,.inl ⟨rfl,rfl⟩⟩
  .have I:=h.gN [i] (by grind) z F d (by grind);have u:x < σ.nodes.length:=(List.getElem?_eq_some_iff.1 d).1;exact I.ext (σ:=σ) (GD.refl _ _) u rfl (gn a) (h.cn d)
 .refine h.wf.gE p (h.wf.iJ i ei l) ?_;simp
def abn (b:Nat):Unit->M Unit:=λ_ a=>match a.gF b with
 |some eb'=> .ok () (a.gE b {eb' with kids:=[]})
 |none=> .stuck
theorem R9 {σ:Ab} (h:RF E f σ w) (b dst:Nat) (hs:handOver b dst σ≠ .stuck):Calls prog 375 #[nV f b,nV f dst] w (jT E f σ.nodes.length w (handOver b dst σ) uV):=by
 obtain⟨R,q⟩:∃R,R=handOver b dst σ:=⟨_,rfl⟩;rw[<-q]at hs|-;obtain⟨L,rfl,J⟩:=h;obtain⟨a,HB⟩:∃a,σ.gF b=some a:=by
  cases hq:σ.gF b with
  |some a=>simp
  |none=>unfold handOver at q;grind
 have K:b≠dst:=by
  intro e;unfold handOver at q;rw[HB]at q;dsimp only at q;rw[fU e]at q;exact absurd q hs
 have HR:R=(yy dst a.kids>>=abn b) σ:=by
  unfold handOver at q;rw[HB]at q;dsimp only at q
  rwa [gn K]at q
 have O:=J.uS HB;have c3:=fw O.gR 3;dsimp at c3;have Y:=O.le;rw[BZ]at Y;have⟨ao,cap,hkv⟩:=fS O.row;rw[BZ]at hkv;rw[hkv]at c3;obtain⟨n,hn⟩:∃n,n=a.kids.length:=⟨_,rfl⟩;have HN:=fx hn;rw[<-hn]at c3 Y;have I:=fx hkv;have HS:=hs;have HE:=fx O;have af:=J.fr.size;have ab:=iB O.gR;clear hn hkv O;go_enter func375,ntmps375
 go_wp21
 go_loopw [11] (λv wr=>∃(i:Nat) (N:Loc) (l:Ab) (p:Al),v=fK i/\i<=n/\N.gp=L.gp/\N.kv b=L.kv b/\Rel E N l wr/\l.gF b=some p/\p.kids=a.kids/\l.nodes.length=σ.nodes.length/\Fr E.bs w wr/\R=(yy dst (a.kids.drop i)>>=abn b) l) (λv _=>n - (intOf v).toNat)
 case atStart=>exact⟨0,L,σ,a,rfl,im _,rfl,rfl,J,HB,rfl,rfl,Fr.refl _,HR⟩
 case round=>
  obtain⟨i,N,l,p,rfl,hi,d,H,x,u,V,X,G,F⟩:=hrel;have z:=x.uS u;rw[H,V]at z
  by_cases a9:i < n
  .have h2:i < a.kids.length:=by rw[<-HN.out];exact a9
   have a7:a.kids.drop i=a.kids[i]::a.kids.drop (i+1):=C9 h2;rw[a7]at F;have U:l.iR a.kids[i]=true:=x.wf.kids b p u _ (by grind);have⟨ed,σ2,hd,HR3,⟨eb2,HB2,hkk2⟩,hl2,hput⟩:=Xt E K u F HS U;obtain⟨g,a6⟩:∃g,ao=some ⟨g,0,none⟩:=by
    rcases HE.row.2 with⟨e,h0⟩|⟨g,aa,ag,e,_⟩
    .grind
    .rw[I.out]at e;grind
   subst a6;have hc:wr.cell? ⟨g,i,none⟩=some (Nd.map L.gp a.kids[i]).val:=by
    have:=z.row.cells (g:=g) (by rw[I.out];rfl) i (Nd.map N.gp a.kids[i]).val (by simp[h2]);rw[iT]at this;rw[<-d]
    simpa using this
   obtain⟨ty,y,Z, -, -⟩:=MB (Nd.map L.gp a.kids[i]) wr;have C1:=Pc x hd;have C2:=(λ(W:fO) (hk:Kept [] wr W)=>hput N W (x.gJ hk));rw[d]at C1 C2;rw[Z]at hc C2;have ad:=hkk2.trans V;have ae:=hl2.trans X;have a1:=fx G;have a0:=fx d;have a2:=fx H;clear G H d;generalize ed.kids.length=m at *
   go_wp21
   refine C1.mono ?_;rintro e W2 ⟨rfl, -,P⟩;have C3:=C2 W2 P
   go_wp21
   refine C3.mono ?_;rintro e W3 ⟨rfl,L2,q1,q2,Q3,q4⟩;have ac:=(a1.trans (Fr.gv P)).trans q4;have Q1:=q1.trans a0;have Q2:=(q2 b K).trans a2;go_wp2;go_roundw
   case rel=>grind
   case measure=>simp[intOf];omega
  .have he:a.kids.drop i=[]:=FT (by rw[<-HN.out];omega);rw[he]at F;have T:R= .ok () (l.gE b {p with kids:=[]}):=by
    rw[F,M.fP];show abn b () l=_;unfold abn;rw[u]
   have⟨L3,HP1,HP2,p3⟩:=x.adU u;rw[d]at HP1 HP2 p3;have c4:wr.cell? ⟨L.gp b,3,none⟩=some (.slice ao n cap):=by rw[<-d,fw z.gR,I.out,<-HN.out];rfl
   have a8:=fA z.gR 3;rw[d]at a8;have a4:=G.trans p3;have a5:=fx T;have a3:=fx X;clear H d T G;go_wp2;go_end0;rw[a5.out];exact⟨rfl,⟨L3,HP1,HP2⟩,a4,by rw[Ab.nr,a3.out];simp⟩
attribute [local go_sem] Oper.semAt_some
theorem We {g:Type} {σ:Ab} {R:qI g} {K:Nat->M g} (a:R=(ahead fi>>=K) σ) (u:R≠ .stuck):∃i,gU σ.fQ (posOf σ.fQ (some fi) - 1)=some i/\R=K i σ/\some fi∈σ.fQ:=by
 rw[M.fP]at a;unfold ahead at a;cases hq:gU σ.fQ (posOf σ.fQ (some fi) - 1)with
 |none=>grind
 |some i=>
  rw[hq]at a;refine⟨i,rfl,a,?_⟩;rcases sP σ.fQ (some fi)with⟨l,d⟩|⟨m,d,h,q,p⟩
  .rw[d]at hq;cases hq
  grind
theorem Pu {σ σ':Ab} {a : Unit} (h:me j σ= .ok a σ'):σ'.nodes.length=σ.nodes.length:=by
 unfold me at h;split at h
 .cases h
 .split at h
  .grind
  .split at h
   .cases h
   .split at h
    .cases h;simp[Ab.gE]
    grind
theorem Wq {pl : Nat×Nat} {σ σ':Ab} {a : Unit} (h:nj pl j σ= .ok a σ'):σ'.nodes.length=σ.nodes.length:=by
 unfold nj at h;split at h
 .split at h
  .cases h;simp[Ab.gE]
  grind
 grind
def Ox {σ σ':Ab} {a : Nat×Nat} (h:placeFor i σ= .ok a σ'):σ'.nodes.length=σ.nodes.length:=by
 unfold placeFor at h;split at h
 .rw[oN h]
 .rw[pn h]
def At.nv {a : Nat} {σ:Ab} (h:At E f0 a w0 f σ w) (d:i < a):nV f i=nV f0 i:=by unfold nV;rw[h.ext i d]
def Vx {d:Ab} (h:RF E f0 d w0) (fi gR:Nat) (K:(d.gF fi).isSome=true) (J:some gR∈d.fQ) (V:tj fi gR d≠ .stuck):
  Calls prog 354 #[Bp E,nV f0 fi,nV f0 gR] w0 (Leaves E f0 d.nodes.length w0 (tj fi gR d) uV):=by
 have F:fi < d.nodes.length:=Ab.lF (σ:=d) (i:=fi) K;have y:gR < d.nodes.length:=Ab.lF (σ:=d) (i:=gR) (h.wf.fQ _ J);obtain⟨R,P⟩:∃R,R=tj fi gR d:=⟨_,rfl⟩;rw[<-P]at V|-;unfold tj at P;have HS:=V;have H:=fx (At.start h);have a:=fx P;have U:=(λI=>Y0 h fi gR K J I);clear h V P K J;go_enter func354,ntmps354
 go_wp21
 have I:ww fi gR d≠ .stuck:=λe=>HS (by rw[a.out,M.fP,e]);refine(U I).mono ?_;rintro e w1 ⟨G,N⟩;have u:=a;rw[M.fP]at u;cases hr:ww fi gR d with
 |stuck=>exact absurd hr I
 |stop c p=>
  rw[hr]at G u;obtain⟨j,rfl,H2,H3⟩:=G;have H1:=fx u;clear u hr I N U a;go_wp2;exact⟨rfl,pd H1 H2 H3⟩
 |ok r q=>
  have⟨last,mark⟩:=r;have⟨hll,l⟩:=N _ _ hr;rw[hr]at G u;obtain⟨f,Y,Z,rfl,h4,h5⟩:=G;replace H:=fx (show At E f0 d.nodes.length w0 f q w1 from⟨h4,Y,Z,h5,H.hw⟩);replace a:=fx u;obtain⟨w,hw⟩:∃w,w=w1:=⟨_,rfl⟩;rw[<-hw]at H|-;clear Y Z h4 h5 u hr I N U hw;dsimp only at hll l a;have O:=H.lt
  go_wp21
  refine mE (Vs E last) H a HS rfl (λ_ _ _ _ h=>And.intro rfl (lS h)) ?_;clear H a;rintro(_) q w H z a x;replace x:=x;replace l:mark < q.nodes.length:=by rw[Pu x];exact l
  clear x;have O:=H.lt;have⟨ia,ha,hR2,hin⟩:=We a HS;have T:=H.rel.adx (some fi) (Ab.vL (H.rel.wf.fQ _ hin));rw[ha,show oV f (some fi)=nV f0 fi from H.out.nv F]at T;replace a:=fx hR2;clear hR2 ha hin
  go_wp21
  refine T.mono ?_;rintro e w_ ⟨rfl,rfl⟩;clear T
  go_wp21
  refine mE (IV E (ij E) ia) H a HS rfl (λ_ _ _ _ h=>And.intro rfl (lS h)) ?_;clear H a;rintro(pl) q w H z a x;replace x:=x;replace l:mark < q.nodes.length:=by rw[Ox x];exact l
  clear x
  go_wp21
  refine mE (Du E pl last) H a HS rfl (λ_ _ _ _ h=>And.intro rfl (lS h)) ?_;clear H a;rintro(_) q w H z a x;replace x:=x;replace l:mark < q.nodes.length:=by rw[Wq x];exact l
  clear x
  go_wp21
  refine dC (LB E fi) H a HS ((by show #[nV f fi]=_;rw[H.out.nv F])) (λ_ _ _ _ h=>And.intro rfl (lS h)) ?_;clear H a;rintro(g) f q w H HX z a;have a0:=HX mark l
  go_wp21
  refine AQ (λI=>(show Calls prog 375 #[nV f0 gR,nV f g] w (jT E f q.nodes.length w (handOver gR g q) uV)from by rw[<-H.out.nv y];exact R9 H.rel gR g I)) H a HS (λ_ _ _ _ h=>And.intro rfl (lS h)) ?_;clear H a;rintro(_) q w H z a;have O:=H.lt
  go_wp21
  refine mC (GG E gR) H a HS ((by show #[nV f gR]=_;rw[H.out.nv y])) (λ_ _ _ _ h=>And.intro rfl (lS h)) ?_;clear H a;rintro(X) q w H z a
  go_wp21
  refine mC (Du E X g) H a HS rfl (λ_ _ _ _ h=>And.intro rfl (lS h)) ?_;clear H a;rintro(_) q w H z a;have O:=H.lt
  go_wp21
  refine mC (Ov E (some mark) (some g)) H a HS ((by show #[_,nV f mark,nV f g]=_;simp)) (λ_ _ _ _ h=>And.intro rfl (lS h)) ?_;clear H a;rintro(_) q w H z a;have O:=H.lt
  go_wp21
  refine mC (Ej E (some fi)) H a HS ((by show #[_,nV f fi]=_;rw[H.out.nv F])) (λ_ _ _ _ h=>And.intro rfl (lS h)) ?_;clear H a;rintro(_) q w H z a;have O:=H.lt
  go_wp21
  refine mC (D0 E (some fi)) H a HS ((by show #[_,nV f fi]=_;rw[H.out.nv F])) (λ_ _ _ _ h=>And.intro rfl (lS h)) ?_;clear H a;rintro(_) q w H z a;have O:=H.lt
  go_wp21
  refine mC (Ol E (some gR) (some g)) H a HS ((by show #[_,nV f gR,nV f g]=_;rw[H.out.nv y])) (λ_ _ _ _ h=>And.intro rfl (lS h)) ?_;clear H a;rintro(_) q w H z a;go_wp2;go_end0;exact fL a H rfl
attribute [local go_sem] Oper.semAt_some
def RF.Yo {g : Nat->Nat} {σ:Ab} (h:RF E g σ W) (a:σ.gx (some i)=true):(binOp .eql 72 (nV g i) (.pointer none)).run prog W= .ok (.bool false) W:=by
 obtain⟨L,rfl,hr⟩:=h;have:=C7 (hr.gx a) (hr.gx (x:=none) rfl);rw[vD (by simp)]at this;exact this
theorem yN {σ:Ab}:∀{a:j5},σ.qC s a=some i->some i∈a
 |[],h=>by cases h
 |none::_,h=>by cases h
 |some k::r,h=>by
  unfold Ab.qC at h;split at h
  .grind
  .exact rj _ (yN h)
theorem Kh {σ:Ab} {f : Nat}:∀{a:j5} {b:iM},σ.vo f a b=some i->some i∈a\/b=some i
 |[],b,h=> .inr h
 |x::r,b,h=>by
  unfold Ab.vo at h;split at h
  .grind
  .rcases Kh h with h|h
   all_goals grind
def FY (E:Env) (s:fN):iG E 326 (λ_=>#[Bp E,fR s]) (nw s) bV:=by
 intro f u w h U;obtain⟨R,N⟩:∃R,R=nw s u:=⟨_,rfl⟩;rw[<-N]at U|-;have I:=DJ h s;have H:=At.start h;have HS:=U;have hl:=h.lt;cases hla:u.pq s with
 |none=>
  have g:R=(uU s>>=λ_=>(Pure.pure false:M Bool)) u:=by rw[N];unfold nw;rw[hla]
  have l:=fx g;rw[hla]at I;clear h U N g hla;go_enter func326,ntmps326
  go_wp21
  refine I.mono ?_;rintro e J ⟨rfl,d⟩;replace H:=H.k0 d;clear d I
  go_wp21
  refine dC (Jo E s) H l HS rfl (λ_ _ _ _ h=>And.intro rfl (lS h)) ?_;clear H l;rintro(_) f u w H HX Z l;go_wp2;go_ret;exact fL l H rfl
 |some i=>
  have z:some i∈u.act:=by have:=yN hla;simpa using this
  have x:u.gx (some i)=true:=h.wf.act _ z;rw[hla]at I;have p:=(λ(W:fO) (d:Kept [] w W)=>(h.gJ d).afa (some i) x);have K:=(λ(W:fO) (d:Kept [] w W)=>(h.gJ d).Yo x)
  by_cases P:some i∈u.fQ
  .rw[uJ P]at p;have y:=(λ(W:fO) (d:Kept [] w W)=>Gx (h.gJ d) i x);have F:=(λ(W:fO) (d:Kept [] w W)=>KD (h.gJ d) i x);cases hsc:u.oW i with
   |false=>
    have g:R= .ok false u:=by rw[N];unfold nw;rw[hla];dsimp only;rw[gn (by simpa using P),hsc];rfl
    have l:=fx g;rw[hsc]at y;clear h U N g hla z x P hsc F;go_enter func326,ntmps326
    go_wp21
    refine I.mono ?_;rintro e J ⟨rfl,a⟩;replace H:=H.k0 a;have O:=p J a;have q:=K J a;clear I p;unfold nV at q
    go_wp21
    refine O.mono ?_;rintro e w_ ⟨rfl,G⟩;subst G;clear O
    go_wp21
    refine(y _ a).mono ?_;rintro e w2 ⟨rfl,d⟩;replace H:=H.k0 d;replace a:=a.trans d;clear d y q;go_wp2;go_ret;exact fL l H rfl
   |true=>
    rw[hsc]at y;cases hbb:u.qf i with
    |none=>
     have g:R=(A8 (some i)>>=λ_=>kB (some i)>>=λ_=>(Pure.pure false:M Bool)) u:=by rw[N];unfold nw;rw[hla];dsimp only;rw[gn (by simpa using P),hsc,hbb];rfl
     have l:=fx g;rw[hbb]at F;clear h U N g hla z x P hsc hbb;go_enter func326,ntmps326
     go_wp21
     refine I.mono ?_;rintro e J ⟨rfl,a⟩;replace H:=H.k0 a;have O:=p J a;have q:=K J a;clear I p;unfold nV at q
     go_wp21
     refine O.mono ?_;rintro e w_ ⟨rfl,G⟩;subst G;clear O
     go_wp21
     refine(y _ a).mono ?_;rintro e w2 ⟨rfl,d⟩;replace H:=H.k0 d;replace a:=a.trans d;clear d y q
     go_wp21
     refine(F _ a).mono ?_;rintro e w3 ⟨rfl,d⟩;replace H:=H.k0 d;replace a:=a.trans d;clear d F;have hl:=H.lt
     go_wp21
     refine mC (Z5 E (some i)) H l HS rfl (λ_ _ _ _ h=>And.intro rfl (lS h)) ?_;clear H l;rintro(_) u w H Z l;have hl:=H.lt
     go_wp21
     refine mC (Ej E (some i)) H l HS rfl (λ_ _ _ _ h=>And.intro rfl (lS h)) ?_;clear H l;rintro(_) u w H Z l;go_wp2;go_ret;exact fL l H rfl
    |some b=>
     have T:some b∈u.fQ:=by
      rcases Kh (b:=none) hbb with h|h
      .simpa using h
      .cases h
     have X:u.gx (some b)=true:=Ab.vL (h.wf.fQ _ T);have V:=(λ(W:fO) (d:Kept [] w W)=>(h.gJ d).Yo X);have g:R=(tj i b>>=λ_=>(Pure.pure true:M Bool)) u:=by rw[N];unfold nw;rw[hla];dsimp only;rw[gn (by simpa using P),hsc,hbb];rfl
     have l:=fx g;have a0:=(λ(W:fO) (d:Kept [] w W) (hm:tj i b u≠ .stuck)=>Vx (h.gJ d) i b x T hm);rw[hbb]at F;clear h U N g hla z x P hsc hbb T X;go_enter func326,ntmps326
     go_wp21
     refine I.mono ?_;rintro e J ⟨rfl,a⟩;replace H:=H.k0 a;have O:=p J a;have q:=K J a;clear I p;unfold nV at q
     go_wp21
     refine O.mono ?_;rintro e w_ ⟨rfl,G⟩;subst G;clear O
     go_wp21
     refine(y _ a).mono ?_;rintro e w2 ⟨rfl,d⟩;replace H:=H.k0 d;replace a:=a.trans d;clear d y q
     go_wp21
     refine(F _ a).mono ?_;rintro e w3 ⟨rfl,d⟩;replace H:=H.k0 d;replace a:=a.trans d;clear d F;have Y:=V _ a;unfold nV at Y
     go_wp21
     refine dR (λhm=>a0 _ a hm) H l HS (λ_ _ _ _ h=>And.intro rfl (lS h)) ?_;clear H l;rintro(_) f u w H HX Z l;go_wp2;go_ret;exact fL l H rfl
  .rw[vD P]at p;have g:R=(kB (some i)>>=λ_=>(Pure.pure false:M Bool)) u:=by rw[N];unfold nw;rw[hla];dsimp only;rw[fU P]
   have l:=fx g;clear h U N g hla z x P;go_enter func326,ntmps326
   go_wp21
   refine I.mono ?_;rintro e J ⟨rfl,d⟩;replace H:=H.k0 d;have O:=p J d;have q:=K J d;clear d I p K;unfold nV at q
   go_wp21
   refine O.mono ?_;rintro e w_ ⟨rfl,G⟩;subst G;have hl:=H.lt
   go_wp21
   refine mC (Ej E (some i)) H l HS rfl (λ_ _ _ _ h=>And.intro rfl (lS h)) ?_;clear H l;rintro(_) u w H Z l;go_wp2;go_ret;exact fL l H rfl
attribute [local go_sem] Oper.semAt_some
def Gd {σ:Ab} {R : qI Unit} (h:R=sY s (k+1) σ):R=(nw s>>=λb=>if b then sY s k else (Pure.pure ():M Unit)) σ:=h
theorem M3 (E:Env) (s:fN):iG E 283 (λ_=>#[Bp E,fR s]) (xF s) uV:=by
 intro f0 a w0 h HS;obtain⟨R,P⟩:∃R,R=xF s a:=⟨_,rfl⟩;rw[<-P]at HS|-;obtain⟨i,T⟩:∃i,a.last=some i:=by
  cases hq:a.last with
  |some i=>simp
  |none=>unfold xF at P;grind
 have⟨ei,hei⟩:=h.wf.JX T;have O:a.gx (some i)=true:=by show(a.gF i).isSome=true;rw[hei];rfl
 have J:=h.RH;rw[T]at J;have c0:w0.cell? ⟨f0 i,0,none⟩=some (fR (a.nm i)):=by
  obtain⟨L,rfl,hr⟩:=h;exact hr.vh hei
 have F:=h.aff (some i) O;have H:=At.start h;have hl:=h.lt;have a0:f0 i < w0.heap.size:=by
  obtain⟨L,rfl,hr⟩:=h;exact hr.I9 (Ab.gL hei)
 have q:R=if ku (a.nm i) s&&!decide (some i∈a.act)then (yd>>=λ_=>(Pure.pure ():M Unit)) a else sY s 8 a:=by
  rw[P];unfold xF;rw[T]
 clear h P T hei O;cases hq:ku (a.nm i) s with
 |false=>
  rw[hq]at q;have d:=fx (show R=sY s 8 a from q);have Z:((a.nm i).toList==s.toList)=false:=hq;clear q hq F;go_enter func283,ntmps283
  go_wp21
  refine J.mono ?_;rintro e U ⟨rfl,x⟩;have u:=x.symm;subst u;clear J;rw[show oV f0 (some i)=fW (f0 i)from rfl]
  go_wp21
  go_loopw [27] (λv wr=>∃(k:Nat) (g:Nat->Nat) (I:Ab),v=fK k/\k<=8/\At E f0 a.nodes.length w0 g I wr/\R=sY s (8 - k) I) (λv _=>8 - (intOf v).toNat)
  case atStart=>exact⟨0,f0,a,rfl,by omega,H,d⟩
  case round=>
   obtain⟨k,f,y,rfl,X,l,z⟩:=hrel;have Y:a.nodes.length<=y.nodes.length:=l.le
   by_cases hk:k < 8
   .have G:=Gd (R:=R) (σ:=y) (s:=s) (k:=7 - k) (by grind);replace H:=l;replace d:=fx G;clear l z G;obtain⟨w,N⟩:∃w,w=wr:=⟨_,rfl⟩;rw[<-N]at H|-;clear N
    go_wp21
    refine dC (FY E s) H d HS rfl (λ_ _ _ _ h=>And.intro rfl (lS h)) ?_;clear H d;rintro(b) f y w H HX HF d;cases b with
    |false=>
     replace d:Hid (R=(Pure.pure ():M Unit) y):=d;go_wp2;go_end0;exact fL d H rfl
    |true=>
     have K:Hid (R=sY s (7 - k) y):=d;go_wp2;go_roundw
     case rel=>exact⟨k+1,f,y,by go_num,by omega,H,by rw[show 8 - (k+1)=7 - k by omega];exact K⟩
     case measure=>simp[intOf];omega
   .have V:k=8:=by omega
    subst V;replace H:=l;replace d:=fx (show R=(Pure.pure ():M Unit) y from z);clear l z;go_wp2;go_end0;exact fL d H rfl
 |true=>
  have Z:((a.nm i).toList==s.toList)=true:=hq
  by_cases p:some i∈a.act
  .rw[hq,uJ p]at q;have d:=fx (show R=sY s 8 a from q);rw[uJ p]at F;clear q hq p;go_enter func283,ntmps283
   go_wp21
   refine J.mono ?_;rintro e U ⟨rfl,x⟩;have u:=x.symm;subst u;clear J;rw[show oV f0 (some i)=fW (f0 i)from rfl]
   go_wp21
   refine F.mono ?_;rintro e U ⟨rfl,x⟩;have u:=x.symm;subst u
   go_wp21
   go_loopw [27] (λv wr=>∃(k:Nat) (g:Nat->Nat) (I:Ab),v=fK k/\k<=8/\At E f0 a.nodes.length w0 g I wr/\R=sY s (8 - k) I) (λv _=>8 - (intOf v).toNat)
   case atStart=>exact⟨0,f0,a,rfl,by omega,H,d⟩
   case round=>
    obtain⟨k,f,y,rfl,X,l,z⟩:=hrel;have Y:a.nodes.length<=y.nodes.length:=l.le
    by_cases hk:k < 8
    .have G:=Gd (R:=R) (σ:=y) (s:=s) (k:=7 - k) (by grind);replace H:=l;replace d:=fx G;clear l z G;obtain⟨w,N⟩:∃w,w=wr:=⟨_,rfl⟩;rw[<-N]at H|-;clear N
     go_wp21
     refine dC (FY E s) H d HS rfl (λ_ _ _ _ h=>And.intro rfl (lS h)) ?_;clear H d;rintro(b) f y w H HX HF d;cases b with
     |false=>
      replace d:Hid (R=(Pure.pure ():M Unit) y):=d;go_wp2;go_end0;exact fL d H rfl
     |true=>
      have K:Hid (R=sY s (7 - k) y):=d;go_wp2;go_roundw
      case rel=>exact⟨k+1,f,y,by go_num,by omega,H,by rw[show 8 - (k+1)=7 - k by omega];exact K⟩
      case measure=>simp[intOf];omega
    .have V:k=8:=by omega
     subst V;replace H:=l;replace d:=fx (show R=(Pure.pure ():M Unit) y from z);clear l z;go_wp2;go_end0;exact fL d H rfl
  .rw[hq,vD p]at q;have d:=fx (show R=(yd>>=λ_=>(Pure.pure ():M Unit)) a from q);rw[vD p]at F;clear q hq p;go_enter func283,ntmps283
   go_wp21
   refine J.mono ?_;rintro e U ⟨rfl,x⟩;have u:=x.symm;subst u;clear J;rw[show oV f0 (some i)=fW (f0 i)from rfl]
   go_wp21
   refine F.mono ?_;rintro e U ⟨rfl,x⟩;have u:=x.symm;subst u
   go_wp21
   obtain⟨w,N⟩:∃w,w=w0:=⟨_,rfl⟩;refine mC (Df E) H d HS rfl (λ_ _ _ _ h=>And.intro rfl (lS h)) ?_;clear H d;rintro(_) y w H HF d;go_wp2;go_end0;exact fL d H rfl
attribute [local go_sem] Oper.semAt_some
def YK (g:Nat->Nat) (i:Nat) (W:fO):(binOp .neq 72 (nV g i) (.pointer none)).run prog W= .ok (.bool true) W:=run_neq_pointer_nil (P:=prog) W 72 (some ⟨g i,0,none⟩) IZ
def PD (E:Env) (t:fZ) (N:iL E t):iG E 205 (λ_=>#[Bp E,hH E t]) (qQ t) uV:=by
 intro f0 d w0 h F;obtain⟨R,q⟩:∃R,R=qQ t d:=⟨_,rfl⟩;rw[<-q]at F|-;have p:=DJ h sS;have H:=fx (At.start h);have HS:=F;have K:=h.lt;cases hla:d.pq sS with
 |none=>
  have g:R=(iE t>>=λ_=>(Pure.pure ():M Unit)) d:=by rw[q];unfold qQ;rw[hla]
  have a:=fx g;rw[hla]at p;clear h F q g hla;go_enter func205,ntmps205
  go_wp21
  refine p.mono ?_;rintro e w ⟨rfl,y⟩;replace H:=fx (H.k0 y);clear y p
  go_wp21
  refine dC (nW E t N) H a HS rfl (λ_ _ _ _ h=>And.intro rfl (lS h)) ?_;clear H a;rintro(_) f G w H J z a;go_wp2;go_end0;exact fL a H rfl
 |some i=>
  have l:some i∈d.act:=by have:=yN hla;simpa using this
  have u:d.gx (some i)=true:=h.wf.act _ l;have x:i < d.nodes.length:=Ab.lF (σ:=d) (i:=i) u;have g:R=(xF sS>>=λ_=>kB (some i)>>=λ_=>jY (some i)>>=λ_=>iE t>>=λ_=>(Pure.pure ():M Unit)) d:=by rw[q];unfold qQ;rw[hla]
  have a:=fx g;rw[hla]at p;clear h F q g hla l u;go_enter func205,ntmps205
  go_wp21
  refine p.mono ?_;rintro e w ⟨rfl,y⟩;replace H:=fx (H.k0 y);have I:=YK f0 i w;clear y p;unfold nV at I;rw[show oV f0 (some i)=fW (f0 i)from rfl]
  go_wp21
  refine dC (M3 E sS) H a HS rfl (λ_ _ _ _ h=>And.intro rfl (lS h)) ?_;clear H a;rintro(_) f G w H J z a;have K:=H.lt
  go_wp21
  refine mC (Ej E (some i)) H a HS ((by show #[_,nV f i]=_;rw[H.out.nv x])) (λ_ _ _ _ h=>And.intro rfl (lS h)) ?_;clear H a;rintro(_) G w H z a;have K:=H.lt
  go_wp21
  refine mC (D0 E (some i)) H a HS ((by show #[_,nV f i]=_;rw[H.out.nv x])) (λ_ _ _ _ h=>And.intro rfl (lS h)) ?_;clear H a;rintro(_) G w H z a
  go_wp21
  refine dC (nW E t N) H a HS rfl (λ_ _ _ _ h=>And.intro rfl (lS h)) ?_;clear H a;rintro(_) f G w H J z a;go_wp2;go_end0;exact fL a H rfl
def GQ (E:Env) (t:fZ):iG E 217 (λ_=>#[Bp E,hH E t]) (pM t) uV:=by
 refine dI λf l w R a HS H=>?_;unfold pM at a;go_enter func217,ntmps217;have⟨ta,tb,tao,tn,tcp,HTG⟩:=D7 E t H.rel;have d:=λw=>AP ta tb t.name tao tn tcp w
 go_wp21
 refine(HTG _).mono ?_;rintro e u ⟨rfl,g⟩;replace H:=H.k0 g
 go_wp21
 refine dC (M3 E t.name) H a HS rfl (λ_ _ _ _ h=>And.intro rfl (lS h)) ?_;rintro(_) f l w H q p a;go_wp2;go_end0;exact fL a H rfl
attribute [local go_sem] Oper.semAt_some
section
variable (E:Env) (t:fZ) (hG:∀i,iG E 277 (λf=>#[Bp E,nV f i,hH E t]) (wX i t) uV)
include hG
theorem TA:iG E 191 (λ_=>#[Bp E,hH E t]) (oM t) uV:=by
 intro f d w h HS;obtain⟨R,l⟩:∃R,R=oM t d:=⟨_,rfl⟩;rw[<-l]at HS|-;obtain⟨i,q⟩:∃i,gU d.fQ 0=some i:=by
  cases hq:gU d.fQ 0 with
  |some i=>simp
  |none=>unfold oM at l;grind
 have a:R=(wX i t>>=λ_=>(Pure.pure ():M Unit)) d:=by rw[l];unfold oM;rw[q]
 have p:=h.dz 0;rw[q]at p;have H:=At.start h;have g:=fx a;have G:=h.lt;have y:=hG;clear h l a q hG;go_enter func191,ntmps191
 go_wp21
 refine p.mono ?_;rintro e I ⟨rfl,x⟩;have u:=x.symm;subst u;clear p
 go_wp21
 refine dC (y i) H g HS rfl (λ_ _ _ _ h=>And.intro rfl (lS h)) ?_;clear H g;rintro(_) f d w H F z g;go_wp2;go_end0;exact fL g H rfl
def Tj:iG E 192 (λ_=>#[Bp E,hH E t]) (qv t) uV:=by
 intro f l w h z;obtain⟨R,x⟩:∃R,R=qv t l:=⟨_,rfl⟩;rw[<-x]at z|-;have q:=h.dz 1;have H:=At.start h;have HS:=z;have T:=h.lt;have F:=hG;cases hi:gU l.fQ 1 with
 |none=>
  have a:R= .ok () l:=by rw[x];unfold qv;rw[hi]
  rw[hi]at q;have u:=fx a;clear h z x a hi hG F;go_enter func192,ntmps192
  go_wp21
  refine q.mono ?_;rintro e K ⟨rfl,g⟩;have d:=g.symm;subst d;clear q;go_wp2;go_end0;exact fL u H rfl
 |some i=>
  obtain⟨ei,p⟩:∃e,l.gF i=some e:=Option.isSome_iff_exists.1 (h.wf.fQ _ (Bl hi));have P:w.cell? ⟨f i,0,none⟩=some (fR (l.nm i)):=by
   obtain⟨L,rfl,hr⟩:=h;exact hr.vh p
  have J:f i < w.heap.size:=by
   obtain⟨L,rfl,hr⟩:=h;exact hr.I9 (Ab.gL p)
  have y:=YK f i w;rw[hi]at q;cases hq:ku (l.nm i) fM with
  |true=>
   have a:R=(wX i t>>=λ_=>(Pure.pure ():M Unit)) l:=by rw[x];unfold qv;rw[hi];dsimp only;rw[hq];rfl
   have u:=fx a;have I:((l.nm i).toList==[98,111,100,121])=true:=by
    have G:(fM:fN).toList=[98,111,100,121]:=by first|rfl|decide|simp
    rw[<-G];exact hq
   clear h z x a hi hG hq p;unfold nV at y;go_enter func192,ntmps192
   go_wp21
   refine q.mono ?_;rintro e K ⟨rfl,g⟩;have d:=g.symm;subst d;clear q;rw[show oV f (some i)=fW (f i)from rfl]
   go_wp21
   refine dC (F i) H u HS rfl (λ_ _ _ _ h=>And.intro rfl (lS h)) ?_;clear H u;rintro(_) f l w H O N u;go_wp2;go_end0;exact fL u H rfl
  |false=>
   have a:R= .ok () l:=by rw[x];unfold qv;rw[hi];dsimp only;rw[hq];rfl
   have u:=fx a;have I:((l.nm i).toList==[98,111,100,121])=false:=by
    have G:(fM:fN).toList=[98,111,100,121]:=by first|rfl|decide|simp
    rw[<-G];exact hq
   clear h z x a hi hG hq p F;unfold nV at y;go_enter func192,ntmps192
   go_wp21
   refine q.mono ?_;rintro e K ⟨rfl,g⟩;have d:=g.symm;subst d;clear q;rw[show oV f (some i)=fW (f i)from rfl];go_wp2;go_end0;exact fL u H rfl
end
def acW (L M:kZ):flat (L++M)=flat L++flat M:=yL ..
structure afH (w:fO) (v:gh) (fX:kZ) (v':gh) (w':fO):Prop where
 row:zD w' v' fX
 kp:Kept v.ownBlock.toList w w'
 new:v'.ownBlock=v.ownBlock\/∀k,v'.ownBlock=some k->w.heap.size<=k
theorem Rel.afN {σ:Ab} {w1 : fO} (h:Rel E L σ w) (G:σ.gF i=some e) (hg:ng e.name=true) (hf:σ.fresh=true) (a:fN×fN) (a4:e.gy.length < 4096) (P:afH w (L.av i) (e.gy++[a]) v' w1):
  Rel E {L with av:=λx=>if x=i then v' else L.av x} (σ.gE i {e with gy:=e.gy++[a]}) (w1.setCell ⟨L.gp i,1,none⟩ v')/\Fr E.bs w (w1.setCell ⟨L.gp i,1,none⟩ v'):=by
 have H:=Ab.gL G;have a1:(σ.gF i).isSome=true:=by rw[G];rfl
 have⟨hEl,hAt,hAl⟩:=h.rP i _ (Ab.iX G);have N:∀g,(L.av i).ownBlock=some g->∃c m,w.heap[g]?=some (.cells c 299 m):=λg hg=>pW hAt hg;have X:L.gp i∉(L.av i).ownBlock.toList:=by
  intro u;have a2:(L.av i).ownBlock=some (L.gp i):=by simpa using u
  exact zn hAt hEl.gR (by decide) a2
 have b1:=P.kp.at hEl.gR X;obtain⟨w',K⟩:∃w',w'=w1.setCell ⟨L.gp i,1,none⟩ v':=⟨_,rfl⟩;rw[<-K];have b2:w'.heap[L.gp i]?=some (fV #[fR e.name,v',kK (gX L.gp e.iJ),L.kv i] 140):=by rw[K];exact fI b1 1 v'
 have J:Kept (L.gp i::(L.av i).ownBlock.toList) w w':=by rw[K];exact(P.kp.mono (λk J _=>rj _ J)).setCell (.inl (by simp)) _
 have r2:zD w' v' (e.gy++[a]):=by rw[K];exact tG (a:=⟨L.gp i,1,none⟩) P.row (zn P.row b1 (by decide)) v'
 have O:KT E.bs [140,299] w w':= .jl J (λk J _=>by
  rcases List.mem_cons.1 J with rfl|J
  .exact⟨⟨_,_,_,hEl.gR,by simp⟩,h.bN i H⟩
  .have V:(L.av i).ownBlock=some k:=by simpa using J
   have⟨c,m,z⟩:=N k V;exact⟨⟨_,_,_,z,by simp⟩,h.ab i k H V⟩)
 have q:(σ.gE i {e with gy:=e.gy++[a]}).nodes.length=σ.nodes.length:=Ab.nr _ _ _;have U:∀j,((σ.gE i {e with gy:=e.gy++[a]}).gF j=none↔σ.gF j=none):=by
  intro j
  by_cases p:j=i
  .subst p;rw[Ab.iF H,G];simp
  .rw[Ab.iy p]
 have Y:∀j g,j < σ.nodes.length->j≠i->v'.ownBlock=some g->(L.av j).ownBlock≠some g:=by
  intro j g p l d F;rcases P.new with e1|e1
  .rw[e1]at d;exact h.uq i j e g G hg p (xH l) d F
  .have:=e1 g d;have⟨c,m,z⟩:=h.NT p F
   grind
 have⟨C,hbl,hC⟩:=h.gR;refine⟨?_,O.fr (by decide)⟩;exact
  {fr:=h.fr.trans (O.fr (by decide))
   env:=h.env
   rY:=h.rY
   rP:=by
    intro j nd p;rcases Ab.nS p with⟨rfl,rfl⟩|⟨l,p⟩
    .refine⟨⟨?_,?_,hEl.le,?_⟩,?_,?_⟩
     .grind
     .exact O.row hEl.row (by decide)
     .simp only[wC];have⟨ao,cp,hv⟩:=fS r2
      grind
     all_goals grind
    .have I:=(List.getElem?_eq_some_iff.1 p).1;have hN:kM E.bs L w' j nd:=by
      refine(h.rP j nd p).kept J ?_ ?_ ?_
      .intro u;rcases List.mem_cons.1 u with e1|u
       .exact l (h.inj _ _ e1)
       .obtain⟨c,m,z⟩:=N _ (by simpa using u);obtain⟨c',t,F,_,h3⟩:=h.On I
        grind
      .intro g d u;have⟨c,m,z⟩:=h.zz I d;rcases List.mem_cons.1 u with e1|u
       .rw[e1]at z;exact absurd (Jj hEl.gR z) (by decide)
       grind
      .intro g d u;rcases List.mem_cons.1 u with e1|u
       .have⟨c,m,z⟩:=h.NT I d;rw[e1]at z;exact absurd (Jj hEl.gR z) (by decide)
       .exact h.uq i j e g G hg I (xH l) (by grind) d
     cases nd with
     |el e'=>grind[kM]
     |tx s=>exact hN
     |cm s=>exact hN
     |dt s=>exact hN
   inj:=h.inj
   xv:=by rw[q];exact h.xv
   Ak:=λj p hn=>h.Ak j (by omega) ((U j).1 hn)
   uq:=by
    intro x y ex g hx a0 hy a3 h1;rw[q]at hy
    by_cases T:x=i
    .grind
    .simp only[gn T]at h1;rw[Ab.iy T]at hx
     by_cases Z:y=i
     .subst Z;simp only[wC];exact λF=>Y x g (Ab.gL hx) T F h1
     .simp only[gn Z];exact h.uq x y ex g hx a0 hy a3 h1
   Ad:=by
    intro j p hn;have R:=(U j).1 hn;have l:j≠i:=by rintro rfl;rw[G]at R;cases R
    simp only[gn l];exact h.Ad j (by omega) R
   wf:=h.wf.gE a1 (h.wf.iJ i e G) (h.wf.kids i e G)
   gR:=⟨C,O.at hbl (by decide),⟨hC.size,hC.low,hC.fQ,hC.act,hC.head,hC.form,hC.mode,hC.kept,hC.wait,hC.xU,hC.iP,hC.gp,hC.behind⟩⟩
   nM:=O.row h.nM (by decide)
   oE:=O.row h.oE (by decide)
   Cg:=h.Cg,ve:=h.ve,Bx:=h.Bx
   nN:=O.row h.nN (by decide)
   BK:=h.BK
   rd:=O.at h.rd (by decide)
   BH:=h.BH
   tok:=J.ownsRow h.tok (λg d u=>by
    rcases List.mem_cons.1 u with e1|u
    .have⟨c,m,z⟩:=pW h.tok d;rw[e1]at z;exact absurd (Jj hEl.gR z) (by decide)
    .exact h.yJ hf i g H d (by grind))
   Av:=h.Av,bz:=h.bz,bB:=h.bB,bR:=h.bR
   bN:=by rw[q];exact h.bN
   yJ:=by
    intro _ j g p d;rw[q]at p
    by_cases l:j=i
    .subst l;simp only[wC];intro F;rcases P.new with e1|e1
     .rw[e1]at F;exact h.yJ hf j g p d F
     .have:=e1 g F;have⟨c,m,z⟩:=pW h.tok d
      grind
    .simp only[gn l];exact h.yJ hf j g p d
   ab:=by
    intro j g p d;rw[q]at p
    by_cases l:j=i
    .subst l;simp only[wC]at d;rcases P.new with e1|e1
     .rw[e1]at d;exact h.ab j g p d
     .exact jC h.bw (e1 g d)
    .simp only[gn l]at d;exact h.ab j g p d
   tb:=h.tb
   Ch:=h.Ch}
end
end Go.Proofs.YtlhhgenpcjjajaaGreatDoor
