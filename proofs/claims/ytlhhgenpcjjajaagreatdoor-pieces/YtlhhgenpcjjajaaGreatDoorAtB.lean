import Derived.Test.YtlhhgenpcjjajaaGreatDoorAsB
import Derived.Stop.RegionWithIn
set_option linter.unusedSimpArgs false
set_option linter.unusedVariables false
set_option linter.defProp false
set_option maxHeartbeats 0
set_option maxRecDepth 100000
namespace Go.Proofs.YtlhhgenpcjjajaaGreatDoor
open Go.RowKit Tryz
def F9:=@ownsRow_putObj
def lr:=@List.not_mem_nil
def lu:=@or_false
section
variable {A c : jN} {D b iC bs fi i j k n : Nat} {E : Env} {L : Loc} {Q : Ending->gx->Prop} {S : List (Nat×gQ)} {T : TypeId} {W W' w w' w0 : gx} {gM : lZ} {e ei ej : Ak} {f f0 : Nat->Nat} {m : Nat×Nat} {o o' : Obj} {s : gz} {v v' : gQ}
def JP {n : gz} {a p k : gQ} (h:w.heap[i]?=some (gL #[gH n,a,p,k] 140)):w.cell? ⟨i,0,none⟩=some (gH n)/\w.cell? ⟨i,1,none⟩=some a/\i < w.heap.size:=⟨by rw[fW h];rfl,by rw[fW h];rfl,iX h⟩
def Xp (i j:Nat) (V U:gz) (a1 p1 k1 a2 p2 k2:gQ) (d h:lZ) (w:gx) (hi:w.heap[i]?=some (gL #[gH V,a1,p1,k1] 140)) (hj:w.heap[j]?=some (gL #[gH U,a2,p2,k2] 140)) (K:zn w a1 d) (N:zn w a2 h) (ac:d.length<=4096) (ad:h.length<=4096):
  Calls prog 327 #[gN i,gN j] w λe w'=>e=iw (.bool (la V U&&(d.length==h.length)&&d.all λx=>h.any λy=>sy x y))/\Kept [] w w':=by
 have P:∀(fn:Fn) (first Z:jN) (w:gx),(Instr.makeFunc fn first Z).run prog w= .ok (.func fn first Z) w:=λ_ _ _ _=>rfl;obtain⟨H,G⟩:∃H,H=w.alloc (gL #[gN j] 72):=⟨_,rfl⟩;have R:Kept [] w H:=by rw[G];exact(Kept.refl _ _).alloc _
 have b1:H.heap[w.heap.size]?=some (gL #[gN j] 72):=by rw[G];exact fX w _
 have⟨c0,c1,l1⟩:=JP (R.at hi (by simp));have⟨d0,d1,l2⟩:=JP (R.at hj (by simp));have e0:H.cell? ⟨w.heap.size,0,none⟩=some (gN j):=by rw[fW b1];rfl
 have C:=fV (λW (q:Kept [] H W)=>An 355 #[gN w.heap.size] (λa=>!(h.any λy=>sy a y)) a1 d W ((R.trans q).ownsRow K (λ_ _=>by simp)) ac ⟨enters_of func355 (by rfl) rfl,λW2 l a _=>aaa w.heap.size j U a2 p2 k2 h a W2 ((q.trans l).at b1 (by simp)) (((R.trans q).trans l).at hj (by simp)) (((R.trans q).trans l).ownsRow N (λ_ _=>by simp)) ad⟩);have X:=fV (iX b1);have I:(!(d.any λa=>!(h.any λy=>sy a y)))=d.all λx=>h.any λy=>sy x y:=by
  rw[List.not_any_eq_all_not];simp
 have⟨ao1,cp1,hav1⟩:=gF K;have⟨ao2,cp2,hav2⟩:=gF N;subst hav1 hav2;have HW:=fV G.symm;have J:=fV R;have a5:=fV I;clear hi hj K N G R b1 I;cases hq:la V U with
 |false=>
  have F:(V.toList==U.toList)=false:=hq;clear hq;go_enter func327,ntmps327
  go_wp21
  rw[HW.out]
  go_quiet (fail)
  go_wp2;go_ret;exact⟨rfl,J.out.drewN _⟩
 |true=>
  have F:(V.toList==U.toList)=true:=hq;clear hq
  by_cases hl:d.length=h.length
  .have u:((d.length:Int)==(h.length:Int))=true:=by rw[hl];simp
   have a8:=fV (show(d.length==h.length)=true by rw[hl];simp);clear hl;go_enter func327,ntmps327
   go_wp21
   rw[HW.out];obtain⟨Y,a4⟩:∃Y,Y=w.heap.size:=⟨_,rfl⟩;rw[<-a4]at e0 C X|-;clear a4;have HC:=fV (λ(W:gx) (q:Kept [] H W)=>(⟨(q.cell (p:=⟨i,0,none⟩) l1 (by simp)).trans c0,(q.cell (p:=⟨i,1,none⟩) l1 (by simp)).trans c1,(q.cell (p:=⟨j,0,none⟩) l2 (by simp)).trans d0,(q.cell (p:=⟨j,1,none⟩) l2 (by simp)).trans d1,(q.cell (p:=⟨Y,0,none⟩) X.out (by simp)).trans e0⟩:_/\_/\_/\_/\_));have aa:=fV F;have a7:=fV u;have a9:=fV P;clear c0 c1 d0 d1 e0 F u P;refine vL (by rfl) ?_;refine qj (λ(g:Unit) z=>⟨#[gN i,gN j,undef,gN Y,ce z 31 (.bool false) (.bool (!(d.any λa=>!(h.any λy=>sy a y)))),cd z 0 (gN i),cd z 1 (gN i),cd z 2 (gN i),cd z 3 (gH V),cd z 4 (gN j),cd z 5 (gN j),cd z 6 (gN j),cd z 7 (gH U),cd z 8 (.bool true),cd z 9 (.bool true),cd z 10 (gN i),cd z 11 (gN i),cd z 12 (jO i 1),cd z 13 (.slice ao1 d.length cp1),cd z 14 (gh d.length),cd z 15 (gN j),cd z 16 (gN j),cd z 17 (jO j 1),cd z 18 (.slice ao2 h.length cp2),cd z 19 (gh h.length),cd z 20 (.bool true),cd z 21 (.bool true),cd z 22 (.bool true),cd z 23 (gN i),cd z 24 (gN i),cd z 25 (jO i 1),cd z 26 (.slice ao1 d.length cp1),cd z 27 (.func (.func 355) #[] #[gN Y]),cd z 28 (.bool (d.any λa=>!(h.any λy=>sy a y))),cd z 29 (.bool (!(d.any λa=>!(h.any λy=>sy a y)))),cd z 30 (.bool (!(d.any λa=>!(h.any λy=>sy a y))))],[]⟩) (λg z W=>Kept [] H W) 32 [[],[0],[1],[2],[],[4],[5],[6],[3,7],[8],[9],[9,10],[9,11],[9,12],[9,13],[9],[9,15],[9,16],[9,17],[9,18],[9,14,19],[9,20],[21],[22],[22,23],[22,24],[22,25],[22],[22,26,27],[22,28],[22,29],[30]] (()) rfl rfl ((Kept.refl [] H).drew) ?_ ?_
   .repeat' first|exact nC|refine nA ?_ ?_
    all_goals
     rintro g z W O hc _;simp[CZ]at hc;refine j9 rfl ?_;intro K' a0;simp only[lD,hc];have⟨c0,c1,d0,d1,e0⟩:=HC.out W O;have F:=aa.out;have u:=a7.out;have P:=a9.out;have C1:=fV (C.out W O);go_simp
     first
     |refine a0 _ _ ⟨g,?_,O⟩
     |refine C1.out.mono ?_;rintro e W2 ⟨rfl,l⟩;refine a0 _ _ ⟨g,?_,O.trans l⟩
     simp[pg,wg,lD,U7,ad4,hc]
   .rintro g W O;simp only[vR,Y5];have a6:=fV O;clear O;rename_i KK a3;refine a3 _ _ ?_;clear a3 KK;go_wp2;go_ret;exact⟨by rw[a8.out,<-a5.out];rfl,J.out.trans a6.out⟩
  .have u:((d.length:Int)==(h.length:Int))=false:=beq_eq_false_iff_ne.2 (by omega);have ab:(d.length==h.length)=false:=beq_eq_false_iff_ne.2 hl;go_enter func327,ntmps327
   go_wp21
   rw[HW.out]
   go_quiet (fail)
   go_wp2;go_ret;exact⟨by rw[ab];rfl,J.out.drewN _⟩
section
attribute [local go_sem] Oper.semAt_some
attribute [local go_sem] qA
attribute [local simp] qA
def Ab.uv (σ:Ab) (j:Nat) (c:jk×Nat) (i:Nat):jk×Nat:=if σ.Xy i j then (some i,c.2+1)else c
def Bc (σ:Ab) (j:Nat):∀(a:kV) (c:jk×Nat),σ.td j a c=(AU a).foldl (σ.uv j) c
 |[],_=>rfl
 |none::_,_=>rfl
 |some i::r,c=>by
  show(if σ.Xy i j then σ.td j r (some i,c.2+1)else σ.td j r c)=(AU r).foldl (σ.uv j) (σ.uv j c i);unfold Ab.uv;split<;>exact Bc σ j r _
theorem JQ (σ:Ab) (j:Nat):∀(a:List Nat) (c:jk×Nat),(a.foldl (σ.uv j) c).2<=c.2+a.length
 |[],c=>by simp
 |x::a,c=>by
  have h:=JQ σ j a (σ.uv j c x)
  grind[Ab.uv]
theorem U4:∀(a:kV),(AU a).length<=a.length
 |[]=>gW _
 |none::_=>iN _
 |some _::r=>by have:=U4 r;grind[AU]
def Rel.agp {σ:Ab} (h:Rel E L σ w) {a b : Ak} (d:σ.ij i=some a) (g:σ.ij j=some b):
  Calls prog 327 #[gN (L.gS i),gN (L.gS j)] w λe w'=>e=iw (.bool (σ.Xy i j))/\Kept [] w w':=by
 have⟨h1,h2,h3⟩:=h.tL i _ (Ab.jr d);have⟨g1,g2,g3⟩:=h.tL j _ (Ab.jr g);refine(Xp _ _ _ _ _ _ _ _ _ _ _ _ w h1.iC g1.iC h2 g2 h3 g3).mono ?_;rintro e w' ⟨rfl,l⟩;refine⟨?_,l⟩;unfold Ab.Xy;rw[d,g];rfl
def Do {t : TypeId} (a:w.heap[D]?=some o) (d:o.isCells=false) (h:w.heap[k]?=some (.cells c t m)):(w.putObj D o').heap[k]?=some (.cells c t m):=
 (qC (λe=>by subst e;rw[a]at h;cases h;cases d)).trans h
def lx.ac0 {nd : Cf} (h:lx bs L w i nd) (a:w.heap[D]?=some o) (d:o.isCells=false):lx bs L (w.putObj D o') i nd:=by
 cases nd with
 |el e=>exact⟨⟨Do a d h.1.iC,F9 h.1.row o' a d,h.1.le,h.1.U0⟩,F9 h.2.1 o' a d,h.2.2⟩
 |tx s=>exact Do a d h
 |cm s=>exact Do a d h
 |dt s=>exact Do a d h
theorem Fr.take (h:Fr bs w W) (a:w.heap.size<=D) (o:Obj):Fr bs w (W.putObj D o):=by
 have⟨S,hk,hS⟩:=h;exact⟨S,hk.grown (xB W D o) (λk e=>by grind),hS⟩
def Rel.ac0 {σ:Ab} (h:Rel E L σ w) (a:w.heap[D]?=some o) (d:o.isCells=false) (g:E.w0.heap.size<=D):Rel E L σ (w.putObj D o'):=by
 have⟨C,hb,hC⟩:=h.iC;exact
  {fr:=h.fr.take g o'
   env:=h.env
   vM:=h.vM
   tL:=λi p l=>(h.tL i p l).ac0 a d
   inj:=h.inj,BT:=h.BT,GM:=h.GM,uq:=h.uq,Fk:=h.Fk,wf:=h.wf
   iC:=⟨C,Do a d hb,hC⟩
   pF:=F9 h.pF o' a d
   qu:=F9 h.qu o' a d
   GP:=h.GP,x9:=h.x9,Fp:=h.Fp
   pC:=F9 h.pC o' a d
   Mg:=h.Mg
   rd:=Do a d h.rd
   RU:=h.RU
   tok:=F9 h.tok o' a d
   Md:=h.Md,bz:=h.bz,bB:=h.bB,bR:=h.bR,bN:=h.bN,DH:=h.DH,ab:=h.ab,tb:=h.tb,Mf:=h.Mf}
def Fr.other (h:Fr bs w W) (d:w.heap[D]?=some o) (l:o.isCells=false):W.heap[D]?=some o:=by
 have⟨S,hk,hS⟩:=h;have a:D < w.heap.size:=(Array.getElem?_eq_some_iff.1 d).1;refine(hk.block D a λg=>?_).trans d;have⟨⟨c,t,m,h3,_⟩,_⟩:=hS D g a;rw[d]at h3;cases h3;cases l
def aad {α G:Type} {F : Nat} {σ:Ab} {m:M α} {h:(Nat->Nat)->α->gQ} (C:m σ≠ .stuck->Calls prog k A w (kE E f σ.nodes.length w (m σ) h)) (H:At E f0 F w0 f σ w) {R:qI G} {K:α->M G} (g:R=(m>>=K) σ) (O:R≠ .stuck)
  (u:∀c p j w',R= .stop c p->kG w' j c p->Fr E.bs w0 w'->Fr E.bs w w'->Q (rq j) w')
  (q:∀a d w',At E f0 F w0 f d w'->Fr E.bs w w'->R=K a d->Q (iw (h f a)) w'):Calls prog k A w Q:=by
 rw[M.gE]at g;have z:m σ≠ .stuck:=λe=>O (by rw[g,e]);refine(C z).mono ?_;intro e w' l;cases hr:m σ with
 |ok a d=>
  rw[hr]at l g;obtain⟨rfl,J,y,N⟩:=l;exact q a d w' (H.to J N y) y g
 |stop c p=>
  rw[hr]at l g;obtain⟨j,rfl,I,x⟩:=l;exact u c p j w' g I (H.fr.trans x) x
 |stuck=>exact absurd hr z
def Q6 {d : gx} {a:Ab} {r : qI Unit} (H:At E f n w f a d) (h:d.heap[D]?=some (.deferred (some []))) (g:w.heap.size<=D) (hr:r= .ok () a):kE E f n w r uV (pE) (d.putObj D (.deferred none)):=by
 subst hr;have⟨L,e,hr⟩:=H.rel;exact⟨rfl,⟨L,e,hr.ac0 h rfl (j7 H.hw g)⟩,H.fr.take g _,H.le⟩
def JT {c p : Nat} {a : gx} {r : qI Unit} (l:kG a k c p) (h:Fr E.bs w a) (g:a.heap[D]?=some (.deferred (some []))) (d:w.heap.size<=D) (hr:r= .stop c p):kE E f n w r uV (rq k) (a.putObj D (.deferred none)):=by
 subst hr;exact⟨k,rfl,Do g rfl l,h.take d _⟩
def Wq {σ:Ab} (h:Rel E L σ w) (x:jk) (q:σ.hH x=true):
  Calls prog 187 #[jO E.bB 189,oV L.gS x] w λe w'=>e=pE/\RF E L.gS {σ with act:=σ.act.erase x} w'/\Fr E.bs w w'/\Kept (E.bB::L.cv.ownBlock.toList) w w':=by
 have⟨C,hL,hC⟩:=h.Hs;refine(Ba E.bs E.bB 189 _ C _ _ (iG L.gS x) w hL h.elA (h.hH q)).mono ?_;rintro e w' ⟨rfl,a⟩;have⟨_,_,hk,_⟩:=id a;obtain⟨d,g,l,p⟩:=h.Bs hL hC (by rw[<-wJ h.inj];exact a) λy u=>h.wf.act y (BH u);exact⟨rfl,⟨d,g,l⟩,p,hk⟩
theorem af5 {σ:Ab} (h:RF E f σ w) (j:Nat) (am:σ.ij j=some ej) (hs:NF j σ≠ .stuck):Calls prog 284 #[Bp E,nV f j] w (kE E f σ.nodes.length w (NF j σ) uV):=by
 have H:=At.start h;obtain⟨L,rfl,hr⟩:=h;refine(xC (n:=9)).1 ?_;refine xD func284 rfl trivial ?_ rfl;simp only[ntmps284,yf,uk,xI,Nat.reduceAdd,Nat.reduceSub,yg,yh,yi,yj,sg,wo];obtain⟨X,O⟩:∃X,X=((w.alloc (gL #[nV L.gS j] 72)).alloc (gL #[.pointer none] 72)).alloc (gL #[gh 0] 3):=⟨_,rfl⟩;have a5:Kept [] w X:=by rw[O];exact(((Kept.refl _ _).alloc _).alloc _).alloc _
 have⟨B0,B1,B2⟩:=oQ w (gL #[nV L.gS j] 72) (gL #[.pointer none] 72) (gL #[gh 0] 3);rw[<-O]at B0 B1 B2;have y:X.heap.size=w.heap.size+1+1+1:=by rw[O];simp
 have ad:=hr.io a5;have au:=hr.lt;have ar:=hr.Fp;have HB:=IX E.bB X;have ac:=(λ(W:gx) (Z:Kept [] w W) (i:Nat) (e:Ak) (hi:σ.ij i=some e)=>(hr.io Z).agp hi am);have af:=(λ(W:gx) (Z:Kept [] w W)=>hr.io Z);have HA:=(λ(i:Nat) (hi:some i∈σ.act)=>hr.wf.act (some i) hi);have HO:=(λg (hg:L.cv.ownBlock=some g)=>(hr.qu.lt g hg).2);have HZ:=fV y;have HW:=fV O;have HS:=hs;clear y O
 gi_wp2_with fail
 rw[<-HW.out];refine(callsIn_wide.2 HB).mono ?_;rintro e w' ⟨rfl,rfl⟩;gi_wp2;refine VY (by omega) ad rfl [w.heap.size+1,w.heap.size+1+1] ?_
  (λpre W=>Kept [] w W/\W.heap[w.heap.size]?=some (gL #[nV L.gS j] 72)/\W.heap[w.heap.size+1]?=some (gL #[oV L.gS (pre.foldl (σ.uv j) (none,0)).1] 72)/\W.heap[w.heap.size+1+1]?=some (gL #[gh ((pre.foldl (σ.uv j) (none,0)).2)] 3))
  (λ_ _ _=>False)
  ?_ ?_ ?_ (λx=>{tmps:=#[Bp E,nV L.gS j,undef,gN w.heap.size,gN (w.heap.size+1),gN (w.heap.size+1+1),kI (some x),Bp E,Mq X.heap.size,kI (some x),undef,undef,undef,undef,undef,undef,undef,undef,undef,undef,undef,undef,undef,undef,undef,undef],defers:=[]}) ?assign ?body ?done ?stop
 .grind
 .rintro pre A B row ⟨h1,U,J,Y⟩ hg hr;have y:=HZ.out;exact⟨mB h1 hg hr (by omega),kX U hg hr (by omega),kX J hg hr (by omega),kX Y hg hr (by omega)⟩
 .rintro c pre A B row h _ _;exact h
 .have Z:Kept [] X (X.alloc (gL #[Bp E] 121)):=(Kept.refl _ _).alloc _;exact⟨a5.trans Z,Z.at B0 (by simp),Z.at B1 (by simp),Z.at B2 (by simp)⟩
 case assign=>
  intro l x W K hK;gi_wp2;exact hK
 case body=>
  rintro l pre i W hi ⟨HK,B3,B4,B5⟩ ao;have aq:(pre.foldl (σ.uv j) (none,0)).2<=4096:=by have:=JQ σ j pre (none,0);simp at this;omega
  have V:=HA i hi;obtain⟨e0,al⟩:∃e0,σ.ij i=some e0:=Option.isSome_iff_exists.1 V;have C:=ac W HK i e0 al;have c1:=fW B3 0;dsimp at c1;have P:=fV (show(pre++[i]).foldl (σ.uv j) (none,0)=σ.uv j (pre.foldl (σ.uv j) (none,0)) i by simp);rw[show kI (some (L.gS i))=gN (L.gS i)from rfl];generalize pre.foldl (σ.uv j) (none,0)=c at *
  gi_wp2_with fail
  refine(rA l (callsIn_wide.2 C)).mono ?_;rintro e W3 ⟨rfl,N⟩;have G3:=N.at B3 (by simp);have G4:=N.at B4 (by simp);have G5:=N.at B5 (by simp);have d4:=fW G4 0;have d5:=fW G5 0;have f4:=gu G4 0;have f5:=gu G5 0;dsimp at d4 d5;have a6:=HK.trans N;have a7:=N.mono (S':=[w.heap.size+1,w.heap.size+1+1]) (by simp);cases hq:σ.Xy i j with
  |true=>
   have HQ:=fV (show σ.uv j c i=(some i,c.2+1) by unfold Ab.uv;rw[hq];rfl);gi_wp2;have k6:Kept [w.heap.size+1,w.heap.size+1+1] W3 ((W3.setCell ⟨w.heap.size+1,0,none⟩ (gN (L.gS i))).setCell ⟨w.heap.size+1+1,0,none⟩ (gh ((c.2:Int)+1))):=((Kept.refl _ W3).setCell (.inl (by simp)) _).setCell (.inl (by simp)) _;refine⟨a7.trans k6,((a6.setCell (.inr (by simp)) _).setCell (.inr (by simp;omega)) _),k6.at G3 (by simp;omega),?_,?_⟩
   .rw[P.out,HQ.out];exact(Below.heap_setCell _ _ _ _ (by simp)).trans (gm G4 0 _)
   .rw[P.out,HQ.out];exact gm ((Below.heap_setCell _ _ _ _ (by simp)).trans G5) 0 _
  |false=>
   have HQ:=fV (show σ.uv j c i=c by unfold Ab.uv;rw[hq];rfl);gi_wp2;exact⟨a7,a6,G3,by rw[P.out,HQ.out];exact G4,by rw[P.out,HQ.out];exact G5⟩
 case done=>
  rintro D W HD ⟨a8,a4,J,Y⟩ z;rw[<-Bc]at J Y;have aw:(σ.td j σ.act.reverse (none,0)).2<=4096:=by
   rw[Bc];have a1:=JQ σ j (AU σ.act.reverse) (none,0);have a2:=U4 σ.act.reverse;simp at a1 a2;omega
  obtain⟨R,F⟩:∃R,R=NF j σ:=⟨_,rfl⟩;have hs:=HS;rw[<-F]at hs;have G:R=if 3<=(σ.td j σ.act.reverse (none,0)).2 then (lc (σ.td j σ.act.reverse (none,0)).1>>=λ_=>(lK (some j)>>=λ_=>(Pure.pure ():M Unit))) σ else (lK (some j)>>=λ_=>(Pure.pure ():M Unit)) σ:=F
  generalize σ.td j σ.act.reverse (none,0)=c at *;have c1:=fW a4 0;have c2:=fW J 0;have c3:=fW Y 0;dsimp at c1 c2 c3;replace H:=H.k0 a8;replace HS:=hs
  by_cases J:3<=c.2
  .rw[gJ J]at G;have HR:=fV G;clear G;have V:σ.hH c.1=true:=by
    cases hq:σ.hH c.1 with
    |true=>rfl
    |false=>
     refine absurd ?_ HS;rw[HR.out,M.gE];unfold lc;rw[hq];rfl
   have ae:Hid (R=(lK (some j)>>=λ_=>(Pure.pure ():M Unit)) {σ with act:=σ.act.erase c.1}):=by
    refine fV ?_;rw[HR.out,M.gE];unfold lc;rw[V];rfl
   have a9:=Wq (af _ a8.drew) c.1 V;have av:=H.lt
   gi_wp2_with fail
   refine wpIn_wide.2 ?_;rename_i K ak _;refine wp_mono (Q:=Exit.then (λa W'=>∃d e b,a={tmps:=#[Bp E,nV L.gS j,undef,gN w.heap.size,gN (w.heap.size+1),gN (w.heap.size+1+1),undef,Bp E,Mq X.heap.size,undef,undef,undef,undef,undef,undef,undef,gh c.2,b,Bp E,d,jO E.bB 189,oV L.gS c.1,e,undef,undef,undef],defers:=[{target:=Target.collected D,args:=#[]}]}/\At E L.gS σ.nodes.length w L.gS {σ with act:=σ.act.erase c.1} W'/\Fr E.bs W W'/\Kept (E.bB::L.cv.ownBlock.toList) W W') (λ_ _ _=>False)) ?_ ?_
   .go_region_with (go_at_call 187;refine a9.mono ?_;rintro e w5 ⟨rfl,q2,q3,q4⟩;have ag:=fV ((H.k0 ((Kept.refl _ W).drew)).to q2 (sZ _ _ rfl) q3);have aa:=fV q3;have ab:=fV (((Kept.refl _ W).drew).trans q4);clear q2 q3 q4)
    all_goals exact⟨_,_,_,rfl,ag.out,(Fr.gU ((Kept.refl _ W).drew)).trans aa.out,ab.out⟩
   .intro e a W' hq;cases e with
    |normal=>
     obtain⟨d,e,b,rfl,ah,ai,aj⟩:=hq;have b2:W'.heap[w.heap.size]?=some (gL #[nV L.gS j] 72):=by
      refine aj.at a4 λhm=>?_;rcases List.mem_cons.1 hm with hm|hm
      .omega
      .grind
     have c1:=fW b2 0;dsimp at c1;have u:=Fr.other (o:= .deferred (some [])) ai z rfl;replace H:=ah;replace z:=u;replace HR:=ae;refine ak _ _ ?_
     gi_wp2_with fail
     refine callsIn_wide.2 ?_;refine aad (λhs=>CV E (some j) _ _ _ H.rel hs) H HR.out HS ?_ ?_
     .intro c p q ws h1 U J Y;have u:=Fr.other (o:= .deferred (some [])) Y z rfl;refine⟨by simp,.inl ⟨_,_,rfl,oY u,?_⟩⟩;have y:=HZ.out;have hD:=HD;exact JT U J u (by omega) (F.symm.trans h1)
     .rintro a an w2 a0 U a3;have u:=Fr.other (o:= .deferred (some [])) U z rfl;have I:=u;gi_wp2;refine⟨by simp,.inl ⟨_,_,rfl,oY I,?_⟩⟩;have y:=HZ.out;have hD:=HD;refine⟨.tuple #[],?_,Q6 a0 I (by omega) (F.symm.trans a3)⟩;simp[results,results284,go_sem]
    |_=>exact hq.elim
  .rw[gV J]at G;have HR:=fV G;clear G
   gi_wp2_with fail
   refine callsIn_wide.2 ?_;refine aad (λhs=>CV E (some j) _ _ _ H.rel hs) H HR.out HS ?_ ?_
   .intro c p q ws h1 U J Y;have u:=Fr.other (o:= .deferred (some [])) Y z rfl;refine⟨by simp,.inl ⟨_,_,rfl,oY u,?_⟩⟩;have y:=HZ.out;have hD:=HD;exact JT U J u (by omega) (F.symm.trans h1)
   .rintro a an w2 a0 U a3;have u:=Fr.other (o:= .deferred (some [])) U z rfl;have I:=u;gi_wp2;refine⟨by simp,.inl ⟨_,_,rfl,oY I,?_⟩⟩;have y:=HZ.out;have hD:=HD;refine⟨.tuple #[],?_,Q6 a0 I (by omega) (F.symm.trans a3)⟩;simp[results,results284,go_sem]
 case stop=>rintro D c pre W hD ap h;exact h.elim
end
def Em (σ:Ab) (x:jk) (a:Nat):∀d:kV,({σ with form:=x}:Ab).oD a d=σ.oD a d
 |[]=>rfl
 |y::r=>by
  unfold Ab.oD;rw[Em σ x a r];rfl
def L7 (E:Env) (t:gO) (K:ji E t):je E 199 (λ_=>#[Bp E,iJ E t]) (pK t) uV:=by
 refine dI λf u w R g HS H=>?_;unfold pK at g;go_enter func199,ntmps199;have⟨kb,lbb,cb,HQ⟩:=H.rel.bounds;have C:=H.lt;have y:=cb;have I:=(Kept.refl [] w).drew
 go_wp21
 go_cut [11]from 4 to 10 (λr wc=>r= .bool (u.inScope (im [ic]) (iS))/\At E f u.nodes.length w f (u.close (im [ic]) (iS)) wc)
 case first=>
  go_region_with (first
   |(go_at_call 225;refine(nN E [ic] w.drew (by simp)).mono ?_;rintro e O ⟨X,N,rfl,h,l⟩;have d:=I.trans l;have V:O.cell? ⟨E.bB,186,none⟩=some (.func (.func kb) #[] lbb):=(d.cell (p:=⟨E.bB,186,none⟩) C (by simp)).trans y;have x:=fV h;have a:=fV d;clear h l d)
   |(go_at_call 228;refine(DR (p:=im [ic]) (q:=iS) (H.k0 a).rel x (HQ.k0 a)).mono ?_;rintro e Y ⟨rfl,F,G⟩;have J:=fV ((H.k0 a).to F (yJ _ _ _) G);clear F G))
  all_goals (try (go_wp21))
  all_goals (go_meet;exact⟨rfl,J⟩)
 case rest=>
  obtain⟨rfl,z⟩:=hcut;replace H:=z;replace g:Hid (R=(lQ t>>=λ_=>(pure ():M Unit)) (u.close (im [ic]) iS)):=by
   have:=g;rw[M.gE,uD]at this;exact fV this
  go_wp21
  refine dC (rU E (iO E) t K) H g HS rfl lT ?_;rintro(_) f u w H U P g;go_wp2;go_end0;exact gw g H rfl
def Qk (E:Env) (t:gO):je E 218 (λ_=>#[Bp E,iJ E t]) (tw) uV:=by
 refine dI λf h w R d HS H=>?_;unfold tw at d;go_enter func218,ntmps218;have⟨kb,lbb,cb,HQ⟩:=H.rel.bounds;have F:=H.lt;have x:=cb;have I:=(Kept.refl [] w).drew
 go_wp21
 go_cut [11]from 4 to 10 (λr wc=>r= .bool (h.inScope (im [gX]) (iS))/\At E f h.nodes.length w f (h.close (im [gX]) (iS)) wc)
 case first=>
  go_region_with (first
   |(go_at_call 225;refine(nN E [gX] w.drew (by simp)).mono ?_;rintro e P ⟨X,O,rfl,y,C⟩;have u:=I.trans C;have V:P.cell? ⟨E.bB,186,none⟩=some (.func (.func kb) #[] lbb):=(u.cell (p:=⟨E.bB,186,none⟩) F (by simp)).trans x;have G:=fV y;have l:=fV u;clear y C u)
   |(go_at_call 228;refine(DR (p:=im [gX]) (q:=iS) (H.k0 l.out).rel G.out (HQ.k0 l.out)).mono ?_;rintro e Y ⟨rfl,J,K⟩;have N:=fV ((H.k0 l.out).to J (yJ _ _ _) K);clear J K))
  all_goals (try (go_wp21))
  all_goals (go_meet;exact⟨rfl,N.out⟩)
 case rest=>
  obtain⟨rfl,z⟩:=hcut;replace H:=z;clear z HQ x I cb F;have g:=d.out;rw[M.gE,uD]at g;simp only at g;cases hc:h.inScope (im [gX]) iS with
  |true=>
   rw[hc]at g;replace d:Hid (R=(Ac>>=λa=>(pure a:M Unit)) (h.close (im [gX]) iS)):=fV (M.tail (by simpa using g));clear hc g
   go_wp21
   refine mC (Sv E) H d HS rfl lT ?_;clear H d;rintro(_) h w H U d;go_wp2;go_end0;exact gw d.out H rfl
  |false=>
   rw[hc]at g;replace d:Hid (R= .ok () (h.close (im [gX]) iS)):=fV (show R=(pure ():M Unit) (h.close (im [gX]) iS)from by simpa using g);clear hc g;go_wp2;go_end0;exact gw d.out H rfl
def Xa (E:Env) (t:gO):je E 216 (λ_=>#[Bp E,iJ E t]) zz uV:=by
 refine dI λf d w R a HS H=>?_;unfold zz at a;go_enter func216,ntmps216;have l:=H.Tc;have z:=H.free 191;have F:=H.lt;cases hf:d.form with
 |none=>
  rw[hf]at l a;replace a:Hid (R= .ok () d):=a;rw[show oV f none= .pointer none from rfl]at l;have u:=H.vI none rfl;rw[show({d with form:=none}:Ab)=d from by rw[<-hf]]at u;replace H:=u;go_wp2;go_end0;exact gw a H rfl
 |some i=>
  have x:=H.rel.ae3;rw[hf]at l a x;rw[show oV f (some i)=gN (f i)from rfl]at l;replace H:=H.vI none rfl;have C:=GK H.rel i x;have h:({d with form:=none}:Ab).pq i=d.pq i:=Em d none i _;rw[h]at C;cases hc:d.pq i with
  |true=>
   rw[hc]at C;have p:=fV C;have g:=a;simp only[hc,yy]at g;replace a:Hid (R=(xA (λd=>d.nh)>>=λ_=>(do kL (some i);return ():M Unit)) {d with form:=none}):=fV g;clear C g
   go_wp21
   refine p.mono ?_;rintro e w ⟨rfl,q⟩;replace H:=H.k0 q
   go_wp21
   refine Be (λ_=>LI H.rel) H a HS lT ?_;rintro(_) d w H y a
   go_wp21
   refine mC (EA E (some i)) H a HS rfl lT ?_;rintro(_) d w H y a;go_wp2;go_end0;exact gw a H rfl
  |false=>
   rw[hc]at C;have p:=fV C;have g:=a;simp only[hc,uz,Bz]at g;replace a:Hid (R= .ok () {d with form:=none}):=fV g;clear C g
   go_wp21
   refine p.mono ?_;rintro e w ⟨rfl,q⟩;replace H:=H.k0 q;go_wp2;go_end0;exact gw a H rfl
attribute [local go_sem] Oper.semAt_some
def RF.wf {σ:Ab} (h:RF E f σ w):Wf σ:=by have⟨L,_,hr⟩:=h;exact hr.wf
theorem BQ {xs : kV} {n : Int} (h:iE xs n=some i):some i∈xs:=by
 unfold iE at h
 grind
def Wf.JM {σ:Ab} (h:Wf σ) (a:σ.last=some i):∃e,σ.ij i=some e:=by
 have d:some i∈σ.gG:=BQ a;exact Option.isSome_iff_exists.1 (h.gG _ d)
theorem Xv {d:Type} {σ:Ab} {R:qI d} {K:Nat->M d} (a:R=(JN>>=K) σ) (g:R≠ .stuck):∃i,σ.last=some i/\R=K i σ:=by
 rw[M.gE]at a;unfold JN at a
 grind
def oO (E:Env) (t:gO) (q:ji E t):je E 206 (λ_=>#[Bp E,iJ E t]) (ja t) uV:=by
 refine dI λf d w R a HS H=>?_;unfold ja at a;go_enter func206,ntmps206
 go_wp21
 refine dC (rU E (iO E) t q) H a HS rfl lT ?_;rintro(_) f d w H u l a;have x:=H.lt;have⟨i,hi,hR2⟩:=Xv a HS;have⟨e,he⟩:=H.rel.wf.JM hi;have h:=H.rel.QY;replace a:=fV hR2;clear hR2
 go_wp21
 refine h.mono ?_;rintro e g ⟨rfl,rfl⟩;rw[hi]
 go_wp21
 refine Be (λp=>(show Calls prog 284 #[Bp E,nV f i] g (kE E f d.nodes.length g (NF i d) uV)from af5 H.rel i he p)) H a HS lT ?_;rintro(_) d w H l a;go_wp2;go_end0;exact gw a H rfl
attribute [local go_sem] Oper.semAt_some
def RF.afC {σ:Ab} (h:RF E f σ w) (x:jk) (a:σ.hH x=true):Calls prog 246 #[jO E.bB 188,oV f x] w λe w'=>e=iw (oV f (iE σ.gG (posOf σ.gG x - 1)))/\w'=w:=by
 obtain⟨L,rfl,hr⟩:=h;exact zO hr x a
theorem AD (E:Env) (t:gO):je E 151 (λ_=>#[Bp E,iJ E t]) jn uV:=by
 intro f d w h hs;obtain⟨R,V⟩:∃R,R=jn d:=⟨_,rfl⟩;rw[<-V]at hs|-;have HS:=fV hs;have y:=fV h;have X:=fV (λW (hk:Kept [] w W)=>mi h.lt hk.size);cases hcu:d.current (im [gP])with
 |false=>
  have p:=fV (show R=(qx (im [gp])>>=λ_=>(Pure.pure ():M Unit)) d by rw[V];grind[jn]);have N:=fV hcu;clear h hs V hcu;go_enter func151,ntmps151
  go_wp21
  refine vL (by rfl) ?_;refine qj (λ(g:gQ) z=>⟨#[Bp E,iJ E t,undef,undef,cd z 0 (Bp E),cd z 1 (g),cd z 2 (.bool false),cd z 3 (.bool false),undef,undef,undef,undef,undef,undef,undef,undef,undef,undef,undef,undef,undef,cd z 17 (.bool false),undef,undef,undef,undef,undef,undef,undef],[]⟩) (λg z W=>Kept [] w W/\(dn z 1=true->Pz E g (im [gP]) W)) 18 [[],[],[0,1],[2],[3],[3],[3],[3],[3],[3],[3],[3],[3],[3],[3],[3],[3],[3]] (undef) rfl (by rfl) (⟨(Kept.refl _ _).drew,λh=>by cases h⟩) ?_ ?_
  .repeat' first|exact nC|refine nA ?_ ?_
   all_goals
    rintro g z W a F hn;simp[CZ]at F;refine j9 rfl ?_;intro K' l;simp only[lD,F];have a5:=X.out W a.1;go_simp
    first
    |refine l _ _ ⟨g,?_,a.1,qw a.2 (by decide)⟩
    |refine(uS E W).mono ?_;rintro e O ⟨k,K,rfl,J,x⟩;refine l _ _ ⟨_,?_,a.1.trans x,λ_=>⟨k,K,rfl,J⟩⟩
    |refine(BM (y.out.io a.1) (a.2 F.2.1).choose_spec.choose_spec.2).mono ?_;rintro e O ⟨rfl,rfl⟩;rw[N.out];refine l _ _ ⟨g,?_,a.1,qw a.2 (by decide)⟩
    simp[pg,wg,lD,F]
  .rintro g W a;simp only[vR];have H:=fV ((At.start y.out).k0 a.1);clear a
   go_wp21
   refine(rN E _).mono ?_;rintro e w1 ⟨k1,a0,rfl,q,u⟩;replace H:=fV (H.out.k0 u);have C:=fV q;clear q u
   go_wp21
   refine Be (λ_=>wE H.out.rel C.out) H p HS lT ?_;clear H p;rintro(_) d w H HF p;go_wp2;go_end0;exact gw p.out H.out rfl
 |true=>
  obtain⟨i,U⟩:∃i,iE d.gG (posOf d.gG d.last - 1)=some i:=by
   cases hq:iE d.gG (posOf d.gG d.last - 1)with
   |some i=>simp
   |none=>unfold jn at V;grind
  have Y:=fV (show R=(if la (d.nm i) gp then (do
    let _ <-yW
    qx (im [gp])
    return ():M Unit) d else (do qx (im [gp]);return ():M Unit) d) by rw[V];grind[jn])
  have Z:some i∈d.gG:=BQ U;obtain⟨ei,P⟩:∃e,d.ij i=some e:=Option.isSome_iff_exists.1 (h.wf.gG _ Z);have G:d.hH d.last=true:=by
   cases hl:d.last with
   |none=>rfl
   |some j=>exact Ab.wC (h.wf.gG _ (BQ hl))
  have a2:=fV G;have a1:=fV U;have a4:=fV (λW (hk:Kept [] w W)=>(by
   have⟨L,e,hr⟩:=h.io hk;rw[<-e];exact hr.vW P:W.cell? ⟨f i,0,none⟩=some (gH (d.nm i))))
  have a3:=fV (λW (hk:Kept [] w W)=>(by
   have⟨L,e,hr⟩:=h.io hk;rw[<-e];exact hr.IV (Ab.iq P):f i < W.heap.size))
  have N:=fV hcu;clear h hs V hcu U Z P G;go_enter func151,ntmps151
  go_wp21
  refine vL (by rfl) ?_;refine qj (λ(g:gQ×gQ) z=>⟨#[Bp E,iJ E t,undef,undef,cd z 0 (Bp E),cd z 1 (g.1),cd z 2 (.bool true),cd z 3 (.bool true),cd z 4 (g.2),cd z 5 (Bp E),cd z 6 (gN E.bB),cd z 7 (jO E.bB 188),cd z 8 (Bp E),cd z 9 (gN E.bB),cd z 10 (jO E.bB 188),cd z 11 (oV f d.last),cd z 12 (nV f i),cd z 13 (gN (f i)),cd z 14 (gN (f i)),cd z 15 (gH (d.nm i)),cd z 16 (.bool (im [gp] (d.nm i))),cd z 17 (.bool (im [gp] (d.nm i))),undef,undef,undef,undef,undef,undef,undef],[]⟩) (λg z W=>Kept [] w W/\(dn z 1=true->Pz E g.1 (im [gP]) W)/\(dn z 4=true->Pz E g.2 (im [gp]) W)) 18 [[],[],[0,1],[2],[3],[3],[3,5],[3,6],[3],[3,8],[3,9],[3,10],[3,7,11],[3,12],[3,13],[3,14],[3,4,15],[3,16]] ((undef,undef)) rfl (by rfl) (⟨(Kept.refl _ _).drew,λh=>(by cases h),λh=>(by cases h)⟩) ?_ ?_
  .repeat' first|exact nC|refine nA ?_ ?_
   all_goals
    rintro g z W a F hn;simp[CZ]at F;refine j9 rfl ?_;intro K' l;simp only[lD,F];have a5:=X.out W a.1;have a6:=a3.out W a.1;have cc:=a4.out W a.1;go_simp
    first
    |refine l _ _ ⟨g,?_,a.1,qw a.2.1 (by decide),qw a.2.2 (by decide)⟩
    |refine(uS E W).mono ?_;rintro e O ⟨k,K,rfl,J,x⟩;refine l _ _ ⟨(.func (.func k) #[] K,g.2),?_,a.1.trans x,λ_=>⟨k,K,rfl,J⟩,qw (λh=>(a.2.2 h).k x) (by decide)⟩
    |refine(rN E W).mono ?_;rintro e O ⟨k,K,rfl,J,x⟩;refine l _ _ ⟨(g.1,.func (.func k) #[] K),?_,a.1.trans x,qw (λh=>(a.2.1 h).k x) (by decide),λ_=>⟨k,K,rfl,J⟩⟩
    |refine(BM (y.out.io a.1) (a.2.1 F.2.1).choose_spec.choose_spec.2).mono ?_;rintro e O ⟨rfl,rfl⟩;rw[N.out];refine l _ _ ⟨g,?_,a.1,qw a.2.1 (by decide),qw a.2.2 (by decide)⟩
    |refine(y.out.io a.1).QY.mono ?_;rintro e O ⟨rfl,rfl⟩;refine l _ _ ⟨g,?_,a.1,qw a.2.1 (by decide),qw a.2.2 (by decide)⟩
    |refine((y.out.io a.1).afC d.last a2.out).mono ?_;rintro e O ⟨rfl,rfl⟩;rw[a1.out,show oV f (some i)=nV f i from rfl];refine l _ _ ⟨g,?_,a.1,qw a.2.1 (by decide),qw a.2.2 (by decide)⟩
    |have⟨k,K,e4,J⟩:=a.2.2 (by simp[F]);rw[e4]at J;have⟨k2,lb2,e5,eg,hcl⟩:=J.call;cases e5;simp only[e4];go_simp;refine(hcl W (wU.refl _ _) _).mono ?_;rintro e O ⟨rfl,rfl⟩;refine l _ _ ⟨g,?_,a.1,qw a.2.1 (by decide),qw a.2.2 (by decide)⟩;simp[wg,pg,lD,F,e4]
    all_goals simp[pg,wg,lD,F]
  .rintro g W a;simp only[vR];have H:=fV ((At.start y.out).k0 a.1);clear a;cases hq:im [gp] (d.nm i)with
   |false=>
    have I:la (d.nm i) gp=false:=by simpa [im]using hq
    replace p:=fV (show R=(qx (im [gp])>>=λ_=>(Pure.pure ():M Unit)) d by rw[Y.out,I];rfl);clear hq I
    go_wp21
    refine(rN E _).mono ?_;rintro e w1 ⟨k1,a0,rfl,q,u⟩;replace H:=fV (H.out.k0 u);have C:=fV q;clear q u
    go_wp21
    refine Be (λ_=>wE H.out.rel C.out) H p HS lT ?_;clear H p;rintro(_) d w H HF p;go_wp2;go_end0;exact gw p.out H.out rfl
   |true=>
    have I:la (d.nm i) gp=true:=by simpa [im]using hq
    replace p:=fV (show R=(yW>>=λ_=>qx (im [gp])>>=λ_=>(Pure.pure ():M Unit)) d by rw[Y.out,I];rfl);clear hq I;have a7:=H.out.lt
    go_wp21
    refine mC (aaw E) H p HS rfl lT ?_;clear H p;rintro(_) d w H HF p
    go_wp21
    refine(rN E _).mono ?_;rintro e w1 ⟨k1,a0,rfl,q,u⟩;replace H:=fV (H.out.k0 u);have C:=fV q;clear q u
    go_wp21
    refine Be (λ_=>wE H.out.rel C.out) H p HS lT ?_;clear H p;rintro(_) d w H HF p;go_wp2;go_end0;exact gw p.out H.out rfl
attribute [local go_sem] Oper.semAt_some
theorem VB (E:Env) {σ σ':Ab} (h:RF E f σ W) (s:gz) (c:Bool) (k:Nat) (X:W.heap[k]?=some (gL #[gH s] (if c then 239 else 243))) (I:∀i,i < σ.nodes.length->f i < k) (z:E.bs<=k) (pl:Nat×Nat) (d:pz pl (if c then .cm s else .dt s) (if c then Nd.cm else Nd.dt) σ= .ok () σ'):
  Calls prog 175 #[pV f pl,((if c then Nd.cm else Nd.dt) k).val] W λe W'=>e=pE/\∃g,SR σ.nodes.length f g/\σ.nodes.length<=σ'.nodes.length/\RF E g σ' W'/\Fr E.bs W W':=by
 obtain⟨L,rfl,hr⟩:=h;obtain⟨q,p⟩:∃q:Cf,q=if c then .cm s else .dt s:=⟨_,rfl⟩
 obtain⟨x,a⟩:∃x:Nat->Nd,x=if c then Nd.cm else Nd.dt:=⟨_,rfl⟩
 rw[<-p,<-a]at d;rw[<-a];have J:∀e,q≠ .el e:=by intro e;rw[p];cases c<;>simp
 have H:∀i j,x i≠ .el j:=by intro i j;rw[a];cases c<;>simp
 have K:Rel E (L.new σ.nodes.length k (jc) (jc)) (σ.add q) W:=by
  refine hr.ad2 q k (jc) (jc) σ.fresh (Kept.refl _ _) I z ?_ rfl (λe R=>absurd R (J e)) (λ_ _ _ _ _ u=>by cases u) (λ_ _ _ _ _ _ u=>by cases u) (λ_=>rfl) (λU=>⟨U,λ_ _=>by simp[Value.ownBlock]⟩) (λ_ u=>by cases u);rw[p];cases c with
  |true=>show _=_;grind[Loc.new]
  |false=>show _=_;grind[Loc.new]
 unfold pz Aw at d;cases l:(σ.add q).ij pl.1 with
 |none=>rw[l]at d;cases d
 |some ei=>
  rw[l]at d;dsimp only at d;split at d
  .rename_i F;cases d;have G:pl.1 < σ.nodes.length:=by
    have u:=Ab.iq l;have V:(σ.add q).nodes.length=σ.nodes.length+1:=by simp[Ab.add]
    rcases mO pl.1 σ.nodes.length with h|h
    .exact h
    .have e1:pl.1=σ.nodes.length:=by omega
     rw[e1,Ab.wy]at l
     grind
   have C:=Sj K l F.1 (H _) F.2.1 F.2.2;have e1:place ((L.new σ.nodes.length k (jc) (jc)).gS pl.1) pl.2=pV L.gS pl:=by rw[Loc.Bf G]
   have e2:(Nd.map (L.new σ.nodes.length k (jc) (jc)).gS (x σ.nodes.length))=x k:=by
    have y:(L.new σ.nodes.length k (jc) (jc)).gS σ.nodes.length=k:=Loc.tY;rw[a];cases c
    .show Nd.dt _=Nd.dt k;rw[y]
    .show Nd.cm _=Nd.cm k;rw[y]
   rw[e1,e2]at C;refine C.mono ?_;rintro e W' ⟨rfl,N,y,P,O⟩;refine⟨rfl,N.gS,λi l=>?_,?_,⟨N,rfl,P⟩,O⟩
   .rw[y];exact Loc.Bf l
   .rw[Ab.oc];simp[Ab.add]
  .cases d
structure DI (E:Env) (pf:Nat) (own:Bool) (pm:M (Nat×Nat)):Prop where
 Zw:∀args w,(callFunc pf args).run prog w= .ok (.enter pf args) w
 same:∀σ pl σ1,pm σ= .ok pl σ1->σ1=σ
 OI:∀σ c p,pm σ≠ .stop c p
 ab4:∀f σ w,RF E f σ w->pm σ≠ .stuck->Calls prog pf #[iF (if own then E.bB else f 0)] w (kE E f σ.nodes.length w (pm σ) pV)
def ol (d:M (Nat×Nat)) (t:gO):M Unit:=match t.k with
 | .gR s=>do
  let a <-d
  pz a (.cm s) .cm
  return ()
 |_=>return ()
def Yr (E:Env) (f:Nat->Nat) (σ:Ab) (T:TypeId) (s:gz) (v:gQ) (W:gx):Prop:=∃k,v=gN k/\W.heap[k]?=some (gL #[gH s] T)/\(∀i,i < σ.nodes.length->f i < k)/\E.bs<=k
def Yr.fr {σ:Ab} (h:Yr E f σ 239 s v W) (a:Fr E.bs W W'):Yr E f σ 239 s v W':=by
 have⟨k,e,h1,h2⟩:=h;exact⟨k,e,a.Ap h1 (by decide),h2⟩
def Yr.frD {σ:Ab} (h:Yr E f σ 243 s v W) (a:Fr E.bs W W'):Yr E f σ 243 s v W':=by
 have⟨k,e,h1,h2⟩:=h;exact⟨k,e,a.Ap h1 (by decide),h2⟩
def Yr.new {σ:Ab} (h:RF E f σ W) (s:gz):Yr E f σ T s (gN W.heap.size) (W.alloc (gL #[gH s] T)):=by
 obtain⟨L,rfl,hr⟩:=h;exact⟨_,rfl,fX W _,λi a=>hr.IV a,hr.bw⟩
theorem Tl (E:Env) (pf:Nat) (own:Bool) (I:M (Nat×Nat)) (P:DI E pf own I) (t:gO) (X:Nat) {σ:Ab} (h:RF E f σ w) (hs:ol I t σ≠ .stuck) (J:box w X (.func (.func pf) #[iF (if own then E.bB else f 0)] #[]) 211):
  Calls prog 174 #[iJ E t,iF X] w (Leaves E f σ.nodes.length w (ol I t σ) uV):=by
 have O:=fV (At.start h);have⟨a,b,k,gM⟩:=t;cases k with
 |gR s=>
  have hx:∃x l,I σ= .ok x σ/\pz x (.cm s) .cm σ= .ok () l/\ol I ⟨a,b,.gR s,gM⟩ σ= .ok () l:=by
   have Y:ol I ⟨a,b,.gR s,gM⟩ σ=(I>>=λx=>pz x (.cm s) .cm>>=λ_=>(Pure.pure ():M Unit)) σ:=rfl;rw[M.gE]at Y;cases hq:I σ with
   |ok x σ1=>
    obtain rfl:=P.same _ _ _ hq;rw[hq]at Y;cases hq2:pz x (.cm s) .cm σ1 with
    |ok u l=>exact⟨x,l,rfl,hq2,by rw[Y];dsimp only;rw[M.gE,hq2];rfl⟩
    |stop c p=>
     exfalso;unfold pz Aw at hq2
     grind
    |stuck=>exact absurd (by rw[Y];dsimp only;rw[M.gE,hq2]) hs
   |stop c p=>exact absurd hq (P.OI _ _ _)
   |stuck=>grind
  have⟨x,l,hq1,hq2,hq3⟩:=hx;rw[hq3];have K:=λW (hW:RF E f σ W)=>P.ab4 f σ W hW (by grind);rw[hq1]at K;have eg:=P.Zw;simp only[iJ];have d:=ru underlying198;obtain⟨F,C⟩:∃F,F=w.alloc (gL #[gh a,gh b,gH s] 198):=⟨_,rfl⟩;have N:Kept [] w F:=by rw[C];exact(Kept.refl _ _).alloc _
  have U:F.heap[w.heap.size]?=some (gL #[gh a,gh b,gH s] 198):=by rw[C];exact fX w _
  have G:=N.at J (by simp);have HC:=fV (λW (hF:Fr E.bs F W)=>(⟨by rw[fW (hF.Ap G (by decide))];rfl,by rw[fW (hF.Ap U (by decide))];rfl⟩:W.cell? ⟨X,0,none⟩=some (.func (.func pf) #[iF (if own then E.bB else f 0)] #[])/\W.cell? ⟨w.heap.size,2,none⟩=some (gH s)));have HW:=fV C.symm;have HA:=fV (O.out.k0 N);have a1:=fV K;have a0:=fV eg;have a2:=fV hq2;have HN:=fV (λi (hi:i < σ.nodes.length)=>(show f i < F.heap.size by
   have⟨L,e,hr⟩:=(O.out.k0 N).rel;rw[<-e];exact hr.IV hi))
  have a4:=fV (show E.bs<=F.heap.size by
   have⟨L,e,hr⟩:=(O.out.k0 N).rel;exact hr.bw)
  clear h hs J P hq1 hq2 hq3 K eg U G N C O;go_enter func174,ntmps174
  go_wp21
  rw[HW.out];refine vL (by rfl) ?_;refine qj (λ(g:gQ) z=>⟨#[.iface 198 (.agg #[gh a,gh b,gH s]),iF X,undef,gN w.heap.size,.bool true,.tuple #[.agg #[gh a,gh b,gH s],.bool true],.iface 198 (.agg #[gh a,gh b,gH s]),.tuple #[.agg #[gh a,gh b,gH s],.bool true],.agg #[gh a,gh b,gH s],.bool true,.bool true,cd z 0 (.func (.func pf) #[iF (if own then E.bB else f 0)] #[]),cd z 1 (pV f x),cd z 2 (jO w.heap.size 2),cd z 3 (gH s),cd z 4 (.agg #[gH s]),cd z 5 (g),cd z 6 (.iface 237 g),cd z 7 (.tuple #[])],[]⟩) (λg z W=>if dn z 7=true then (∃Z,SR σ.nodes.length f Z/\σ.nodes.length<=l.nodes.length/\RF E Z l W/\Fr E.bs F W)else (RF E f σ W/\Fr E.bs F W/\(dn z 5=true->Yr E f σ 239 s g W))) 8 [[],[0],[],[2],[3],[4],[5],[0,1,2,3,4,5,6]] (undef) rfl (by rfl) (⟨HA.out.rel.io (Kept.refl _ _).drew,Fr.gU (Kept.refl _ _).drew,λh=>by cases h⟩) ?_ ?_
  .repeat' first|exact nC|refine nA ?_ ?_
   all_goals
    rintro g z W hI R hn;simp[CZ]at R;refine j9 rfl ?_;intro K' y;simp only[lD,R];have hb:dn z 7=false:=by simp[R,hn]
    have q:=(gV (by simp[hb])).mp hI;have⟨cc,c2⟩:=HC.out W q.2.1;have eg:=a0.out;go_simp
    first
    |refine y _ _ ⟨g,?_,(gV (by simp[pj,hb])).mpr ⟨q.1,q.2.1,qw q.2.2 (by decide)⟩⟩
    |refine(a1.out W q.1).mono ?_;rintro e W2 ⟨rfl,a3,V,_⟩;refine y _ _ ⟨g,?_,(gV (by simp[pj,hb])).mpr ⟨a3,q.2.1.trans V,qw (λh=>(q.2.2 h).fr V) (by decide)⟩⟩
    |have ka:Kept [] W (W.alloc (gL #[gH s] 239)):=(Kept.refl _ _).alloc _;refine y _ _ ⟨_,?_,(gV (by simp[pj,hb])).mpr ⟨q.1.io ka,q.2.1.trans (.gU ka),λ_=>Yr.new q.1 s⟩⟩;have h9:dn z 6=false:=(by simp[hn]);simp[pg,wg,lD,ad3,R,h9]
    |obtain⟨k,rfl,N,k2,k3⟩:=q.2.2 (by simp[R]);refine(VB E q.1 s true k N k2 k3 x a2.out).mono ?_;rintro e W2 ⟨rfl,Z,g1,g2,g3,g4⟩;refine y _ _ ⟨gN k,?_,(gJ sL).mpr ⟨Z,g1,g2,g3,q.2.1.trans g4⟩⟩
    all_goals simp[pg,wg,lD,R]
  .rintro g W hI;have⟨f2,g1,g2,g3,g4⟩:=(gJ yo).mp hI;simp only[vR];have G3:=fV g3;have G4:=fV (HA.out.fr.trans g4);clear hI g3 g4;go_wp2
   all_goals go_end0
   all_goals exact⟨f2,g1,g2,rfl,G3.out,G4.out⟩
 |_=>
  change Calls _ _ _ _ (Leaves E f _ w (.ok () σ) uV);simp only[iJ];have d:=tC;have H:=fV (O.out.k0 ((Kept.refl [] w).alloc (gL #[gh 0,gh 0,gH jz] 198)));clear h hs J P O;go_enter func174,ntmps174;go_wp2;go_end0;exact gw rfl H.out rfl
attribute [local go_sem] Oper.semAt_some
theorem Ia (E:Env) (t:gO):je E 100 (λ_=>#[Bp E,iJ E t]) (oX t) uV:=by
 intro f l w h hs;have P:=fV (At.start h);have⟨a,b,k,gM⟩:=t;cases k with
 |iy n q=>
  have hx:∃F C,jC 0 l= .ok F l/\pz F (.dt n) .dt l= .ok () C/\oX ⟨a,b,.iy n q,gM⟩ l= .ok () {C with jV:=q||!la n fY,mode:=1}:=by
   have e0:oX ⟨a,b,.iy n q,gM⟩ l=(jC 0>>=λF=>pz F (.dt n) .dt>>=λ_=>(do xA λl=>{l with jV:=q||!la n fY};jS 1;return ():M Unit)) l:=rfl;rw[M.gE]at e0;cases hq:jC 0 l with
   |ok F σ1=>
    obtain rfl:=pQ hq;rw[hq]at e0;cases d:pz F (.dt n) .dt σ1 with
    |ok u C=>exact⟨F,C,rfl,d,by rw[e0];dsimp only;rw[M.gE,d];rfl⟩
    |stop c p=>
     exfalso;unfold pz Aw at d
     grind
    |stuck=>exact absurd (by rw[e0];dsimp only;rw[M.gE,d]) hs
   |stop c p=>
    exfalso;unfold jC at hq
    grind
   |stuck=>grind
  have⟨F,C,hq1,d,hq3⟩:=hx;obtain⟨R,hR⟩:∃R,R=oX ⟨a,b,.iy n q,gM⟩ l:=⟨_,rfl⟩;rw[<-hR];have x:=fV (hR.trans hq3);have N:=λW (hW:RF E f l W)=>Gx E 0 f l W hW (by grind);rw[hq1]at N;simp only[iJ];have y:=ru underlying200;obtain⟨J,I⟩:∃J,J=w.alloc (gL #[gh a,gh b,gH n,.bool q] 200):=⟨_,rfl⟩;have k1:Kept [] w J:=by rw[I];exact(Kept.refl _ _).alloc _
  have K:J.heap[w.heap.size]?=some (gL #[gh a,gh b,gH n,.bool q] 200):=by rw[I];exact fX w _
  have a0:=fV K;have HC:=fV (λW (hF:Fr E.bs J W)=>(by rw[fW (hF.Ap K (by decide))];rfl:W.cell? ⟨w.heap.size,2,none⟩=some (gH n)));have U:=fV (λW (hW:RF E f l W)=>(show W.cell? ⟨E.bB,187,none⟩=some (nV f 0) by have h1:=(At.start hW).yn;exact h1));have a1:=fV (λW (hF:Fr E.bs J W)=>(mi (P.out.k0 k1).lt hF.size:E.bB < W.heap.size));have HW:=fV I.symm;have HA:=fV (P.out.k0 k1);have a2:=fV N;have a3:=fV d;clear h hs hq1 d hq3 N K k1 I P hR;go_enter func100,ntmps100
  go_wp21
  rw[HW.out];refine vL (by rfl) ?_;refine qj (λ(g:gQ) z=>⟨#[Bp E,.iface 200 (.agg #[gh a,gh b,gH n,.bool q]),undef,undef,gN w.heap.size,.bool true,.tuple #[.agg #[gh a,gh b,gH n,.bool q],.bool true],.iface 200 (.agg #[gh a,gh b,gH n,.bool q]),.tuple #[.agg #[gh a,gh b,gH n,.bool q],.bool true],.agg #[gh a,gh b,gH n,.bool q],.bool true,.bool true,cd z 0 (Bp E),cd z 1 (gN E.bB),cd z 2 (jO E.bB 187),cd z 3 (nV f 0),cd z 4 (pV f F),cd z 5 (jO w.heap.size 2),cd z 6 (gH n),cd z 7 (.agg #[gH n]),cd z 8 (g),cd z 9 (.iface 241 g),cd z 10 (.tuple #[]),undef,undef,undef,undef,undef,undef,undef,undef,undef,undef,undef,undef,undef],[]⟩) (λg z W=>if dn z 10=true then (∃f',SR l.nodes.length f f'/\l.nodes.length<=C.nodes.length/\RF E f' C W/\Fr E.bs J W)else (RF E f l W/\Fr E.bs J W/\(dn z 8=true->Yr E f l 243 n g W))) 11 [[],[0],[1],[2],[3],[],[5],[6],[7],[8],[0,1,2,3,4,5,6,7,8,9]] (undef) rfl rfl (⟨HA.out.rel.io (Kept.refl _ _).drew,Fr.gU (Kept.refl _ _).drew,λh=>by cases h⟩) ?_ ?_
  .repeat' first|exact nC|refine nA ?_ ?_
   all_goals
    rintro g z W hI O hn;simp[CZ]at O;refine j9 rfl ?_;intro K' G;simp only[lD,O];have hb:dn z 10=false:=by simp[O,hn]
    have q:=(gV (by simp[hb])).mp hI;have a6:=a1.out W q.2.1;have cc:=U.out W q.1;have c2:=HC.out W q.2.1;go_simp
    first
    |refine G _ _ ⟨g,?_,(gV (by simp[pj,hb])).mpr ⟨q.1,q.2.1,qw q.2.2 (by decide)⟩⟩
    |refine(a2.out W q.1).mono ?_;rintro e W2 ⟨rfl,a5,Z,_⟩;refine G _ _ ⟨g,?_,(gV (by simp[pj,hb])).mpr ⟨a5,q.2.1.trans Z,qw (λh=>(q.2.2 h).frD Z) (by decide)⟩⟩
    |have ka:Kept [] W (W.alloc (gL #[gH n] 243)):=(Kept.refl _ _).alloc _;refine G _ _ ⟨_,?_,(gV (by simp[pj,hb])).mpr ⟨q.1.io ka,q.2.1.trans (.gU ka),λ_=>Yr.new q.1 n⟩⟩;have h9:dn z 9=false:=(by simp[hn]);simp[pg,wg,lD,ad3,O,h9]
    |obtain⟨k,rfl,k1,k2,k3⟩:=q.2.2 (by simp[O]);refine(VB E q.1 n false k k1 k2 k3 F a3.out).mono ?_;rintro e W2 ⟨rfl,f',g1,g2,g3,Y⟩;refine G _ _ ⟨gN k,?_,(gJ sL).mpr ⟨f',g1,g2,g3,q.2.1.trans Y⟩⟩
    all_goals simp[pg,wg,lD,O]
  .rintro g W hI;have⟨f2,g1,g2,g3,Y⟩:=(gJ yo).mp hI;simp only[vR];have H:=fV (HA.out.go g3 g1 g2 Y);have V:=fV (Y.Ap a0.out (by decide));clear hI g3 Y HC U;have c0:W.cell? ⟨w.heap.size,2,none⟩=some (gH n):=by rw[fW V.out];rfl
   have c4:W.cell? ⟨w.heap.size,3,none⟩=some (.bool q):=by rw[fW V.out];rfl
   have c1:=H.out.Y3;have f1:=H.out.free 196;have c2:=H.out.sB;have f2:=H.out.free 192;have a4:=H.out.lt;cases q with
   |true=>
    have X:=fV ((H.out.rl true).jh 1);clear H;go_wp2;go_end0;exact gw x.out X.out rfl
   |false=>
    cases hq:la n fY with
    |true=>
     have d:(n.toList==[104,116,109,108])=true:=by
      have e4:(fY:gz).toList=[104,116,109,108]:=by first|rfl|decide|simp
      rw[<-e4];exact hq
     have X:=fV ((H.out.rl false).jh 1);rw[hq]at x;clear H hq;go_wp2;go_end0;exact gw x.out X.out rfl
    |false=>
     have d:(n.toList==[104,116,109,108])=false:=by
      have e4:(fY:gz).toList=[104,116,109,108]:=by first|rfl|decide|simp
      rw[<-e4];exact hq
     have X:=fV ((H.out.rl true).jh 1);rw[hq]at x;clear H hq;go_wp2;go_end0;exact gw x.out X.out rfl
 |_=>
  change Calls _ _ _ _ (Leaves E f _ w (.ok () {l with mode:=1}) uV);simp only[iJ];have y:=wO;have H:=fV (P.out.k0 ((Kept.refl [] w).alloc (gL #[gh 0,gh 0,gH jz,.bool false] 200)));have c2:=H.out.sB;have f2:=H.out.free 192;have a4:=H.out.lt;replace H:=fV (H.out.jh 1);clear h hs P;go_enter func100,ntmps100;go_wp2;go_end0;exact gw rfl H.out rfl
def XE {σ:Ab} (h:Rel E L σ w) (x:jk) (d:σ.hH x=true):
  Calls prog 187 #[jO E.bB 188,kI (iG L.gS x)] w λe w'=>e=pE/\YG E L {σ with gG:=σ.gG.erase x} w w':=by
 have⟨C,hL,hC⟩:=h.zI;refine(Ba E.bs E.bB 188 _ C _ _ (iG L.gS x) w hL h.elO (h.hH d)).mono ?_;rintro e w' ⟨rfl,a⟩;exact⟨rfl,h.Pk hL hC (by rw[<-wJ h.inj];exact a) λy g=>h.wf.gG y (BH g)⟩
def T8 {σ:Ab} (h:Rel E L σ w) (x y:jk) (g:σ.hH x=true) (l:σ.mw y=true):
  Calls prog 276 #[jO E.bB 188,kI (iG L.gS x),kI (iG L.gS y)] w λe w'=>e=pE/\YG E L {σ with gG:=qi σ.gG x y} w w':=by
 have⟨C,hL,hC⟩:=h.zI;refine(FJ E.bs E.bB 188 _ C _ _ (iG L.gS x) (iG L.gS y) w hL h.elO (h.hH g)).mono ?_;rintro e w' ⟨rfl,d⟩;exact⟨rfl,h.Pk hL hC (by rw[<-Kh h.inj];exact d) λz a=>by rcases Kj a with a|rfl;exact h.wf.gG z a;exact l⟩
def Wr {σ:Ab} (h:Rel E L σ w) (x:jk) (d:σ.hH x=true):
  Calls prog 187 #[jO E.bB 189,kI (iG L.gS x)] w λe w'=>e=pE/\YG E L {σ with act:=σ.act.erase x} w w':=by
 have⟨C,hL,hC⟩:=h.Hs;refine(Ba E.bs E.bB 189 _ C _ _ (iG L.gS x) w hL h.elA (h.hH d)).mono ?_;rintro e w' ⟨rfl,a⟩;exact⟨rfl,h.Pj hL hC (by rw[<-wJ h.inj];exact a) λy g=>h.wf.act y (BH g)⟩
def S5 {σ:Ab} (h:Rel E L σ w) (x y:jk) (g:σ.hH x=true) (l:σ.hH y=true):
  Calls prog 276 #[jO E.bB 189,kI (iG L.gS x),kI (iG L.gS y)] w λe w'=>e=pE/\YG E L {σ with act:=qi σ.act x y} w w':=by
 have⟨C,hL,hC⟩:=h.Hs;refine(FJ E.bs E.bB 189 _ C _ _ (iG L.gS x) (iG L.gS y) w hL h.elA (h.hH g)).mono ?_;rintro e w' ⟨rfl,d⟩;exact⟨rfl,h.Pj hL hC (by rw[<-Kh h.inj];exact d) λz a=>by rcases Kj a with a|rfl;exact h.wf.act z a;exact l⟩
theorem Rel.aeq {σ σ':Ab} (h:Rel E L σ w) (i:Nat) (l:gQ) (H:(σ.ij i).isSome=true) (O:KT E.bs [140,142,284] w w') (N:l.ownBlock=(L.kv i).ownBlock\/∀g,l.ownBlock=some g->w.heap.size<=g)
  (d:σ'.nodes.length=σ.nodes.length) (K:∀j R,σ'.ij j=some R->∃e,σ.ij j=some e/\R.name=e.name) (F:∀j,σ'.ij j=none->σ.ij j=none)
  (P:∀j X,σ'.nodes[j]?=some X->lx E.bs {L with kv:=λx=>if x=i then l else L.kv x} w' j X) (wf:Wf σ')
  (s0:σ'.gG=σ.gG:=by rfl) (s9:σ'.act=σ.act:=by rfl) (s1:σ'.head=σ.head:=by rfl) (s2:σ'.form=σ.form:=by rfl) (s3:σ'.mode=σ.mode:=by rfl) (s4:σ'.kept=σ.kept:=by rfl) (s5:σ'.iT=σ.iT:=by rfl) (s6:σ'.jV=σ.jV:=by rfl) (s7:σ'.gS=σ.gS:=by rfl) (s8:σ'.behind=σ.behind:=by rfl) (sw:σ'.waiting=σ.waiting:=by rfl) (so:σ'.nJ=σ.nJ:=by rfl) (sp:σ'.iY=σ.iY:=by rfl) (sf:σ'.fresh=σ.fresh:=by rfl) (Y:σ'.qv=σ.qv:=by rfl) (Z:σ'.rZ=σ.rZ:=by rfl) (d3:σ'.pG=σ.pG:=by rfl):YG E L σ' w w':=by
 have I:=Ab.mq (σ:=σ) (i:=i) H;have U:∀j g,j < σ.nodes.length->j≠i->l.ownBlock=some g->(L.kv j).ownBlock≠some g:=by
  intro j g p u hg z;rcases N with e|e
  .rw[e]at hg;exact h.BT i j g I p (ye u) hg z
  .have⟨c,m,hc⟩:=h.zF p z
   grind
 refine⟨{L with kv:=λx=>if x=i then l else L.kv x},rfl,h.VX (L':={L with kv:=λx=>if x=i then l else L.kv x}) O (λ_ _=>rfl) rfl rfl rfl P h.inj ?_ ?_ ?_ ?_ wf ?_ (nW d) s0 s9 s1 s2 s3 s4 s5 s6 s7 s8 sw so sp Y Z d3,O.fr (by decide),λk v V=>⟨O.at V.1 (by decide),V.2⟩⟩
 .intro a b g G y q hg;rw[d]at G y
  by_cases h1:a=i
  .grind
  .simp only[gV h1]at hg
   by_cases h2:b=i
   .grind
   .simp only[gV h2];exact h.BT a b g G y q hg
 .intro j p J;rw[d]at p;have C:=F j J;have u:j≠i:=by rintro rfl;rw[C]at H;cases H
  simp only[gV u];exact h.GM j p C
 .intro a b e g G a0 y q hg;rw[d]at y;have⟨e0,h0,hnm'⟩:=K a e G;exact h.uq a b e0 g h0 (by grind) y q hg
 .intro j p J;rw[d]at p;exact h.Fk j p (F j J)
 .rw[d,sf];exact h.DH
theorem X8 {σ:Ab} (h:Rel E L σ w) (y:σ.ij i=some ei) (F:σ.ij j=some ej) (z:j≠i) (hn:n<=ei.kids.length) (hl:ei.kids.length < 1048576):
  Calls prog 175 #[place (L.gS i) n,(Nd.el (L.gS j)).val] w λe w'=>e=pE/\YG E L ((σ.ig i {ei with kids:=ins ei.kids n (.el j)}).ig j {ej with jl:=some i}) w w':=by
 have u:=Ab.iq y;have K:=Ab.iq F;have p:(σ.ij i).isSome=true:=by rw[y];rfl
 have H:(σ.ij j).isSome=true:=by rw[F];rfl
 have V:=h.wV y;have lI:=h.AC y;have aJ:=h.wV F;have lJ:=h.AC F;refine(Um E.bs _ n _ _ _ _ _ _ _ _ _ _ _ w (h.vB y) (h.vB F) (λe=>z (h.inj _ _ e)) (λg hg=>h.BT j i g K u z hg) (by grind) (by grind) h.bw).mono ?_;rintro e w' ⟨rfl,⟨C,U,X⟩,E2,P⟩;have O:∀s∈L.gS j::L.gS i::(L.kv i).ownBlock.toList,∃x∈[j,i],s=L.gS x\/(L.kv x).ownBlock=some s:=by
  intro s I;rcases List.mem_cons.1 I with rfl|I
  .simp
  rcases List.mem_cons.1 I with rfl|I
  .simp
  .grind
 have R:=h.ktJ [j,i] (by grind) O P;have J:((σ.ig i {ei with kids:=ins ei.kids n (.el j)}).ij j).isSome=true:=by rw[Ab.iU z];exact H
 have G:∀x e,x < σ.nodes.length->zn w (L.av x) e->zn w' (L.av x) e:=λx e _ Z=>R.row Z (by decide);refine⟨rfl,h.aeq i C p R X (by simp[Ab.ig]) ?_ ?_ ?_ ?_⟩
 .intro x e' a
  by_cases l:x=j
  .subst l;rw[Ab.jd (by grind[Ab.ig])]at a;grind
  .rw[Ab.iU l]at a
   by_cases d:x=i
   .subst d;rw[Ab.jd u]at a;grind
   .rw[Ab.iU d]at a;grind
 .intro x a
  by_cases l:x=j
  .subst l;rw[Ab.jd (by grind[Ab.ig])]at a;cases a
  .rw[Ab.iU l]at a
   by_cases d:x=i
   .subst d;rw[Ab.jd u]at a;cases a
   .rwa [Ab.iU d]at a
 .intro x nd a;rcases Ab.oF a with⟨rfl,rfl⟩|⟨l,a⟩
  .grind[lx]
  .rcases Ab.oF a with⟨rfl,rfl⟩|⟨d,a⟩
   .show El E.bs w' _ _ _ _ (if x=x then C else L.kv x) _/\_;rw[gJ rfl];refine⟨?_,G x _ u V,lI⟩;show El E.bs w' (L.gS x) ei.name (L.av x) (iG L.gS ei.jl) C ((ins ei.kids n (.el j)).map (Nd.map L.gS));rw[Eg];exact U
   .have Y:=h.ir [j,i] (by grind) O P a (by grind);have N:x < σ.nodes.length:=(List.getElem?_eq_some_iff.1 a).1;exact Y.ext (σ:=σ) (Ge.refl _ _) N rfl (gV d) (h.wfn a)
 .refine(h.wf.ig (e:={ei with kids:=ins ei.kids n (.el j)}) p (h.wf.jl i ei y) ?_).ig J ?_ ?_
  .intro k q;rcases Eh q with q|rfl
   .exact h.wf.kids i ei y k q
   .exact H
  .rw[Ab.qX p];exact p
  .intro k q;rw[Ab.lA p];exact h.wf.kids j ej F k q
theorem UE {σ:Ab} (h:Rel E L σ w) {p : Nat} {d : Ak} (H:σ.ij j=some ej) (I:ej.jl=some p) (z:σ.ij p=some d) (u:j≠p) (hn:n < d.kids.length) (Y:qH d.kids (Nd.hH j)=(n:Int)):
  Calls prog 374 #[gN (L.gS j)] w λe w'=>e=pE/\YG E L ((σ.ig p {d with kids:=d.kids.eraseIdx n}).ig j {ej with jl:=none}) w w':=by
 have F:=Ab.iq z;have P:=Ab.iq H;have G:(σ.ij p).isSome=true:=by rw[z];rfl
 have O:(σ.ij j).isSome=true:=by rw[H];rfl
 have V:=h.vB H;rw[I]at V;have aP:=h.wV z;have lP:=h.AC z;have aJ:=h.wV H;have lJ:=h.AC H;refine(Hh E.bs _ _ n _ _ _ _ _ _ _ _ _ w V (h.vB z) ?_ (λe=>u (h.inj _ _ e)) (λg hg=>h.BT j p g P F u hg) (by grind) (by rw[Kc h.inj];omega)).mono ?_
 .intro x a;obtain⟨k,J,rfl⟩:=List.mem_map.1 a;exact h.Xq (h.wf.kids p d z k J)
 rintro e w' ⟨rfl,⟨y,Z,f1⟩,E2,J⟩;have X:∀s∈L.gS j::L.gS p::(L.kv p).ownBlock.toList,∃x∈[j,p],s=L.gS x\/(L.kv x).ownBlock=some s:=by
  intro s K;rcases List.mem_cons.1 K with rfl|K
  .simp
  rcases List.mem_cons.1 K with rfl|K
  .simp
  .grind
 have U:=h.ktJ [j,p] (by grind) X J;have N:((σ.ig p {d with kids:=d.kids.eraseIdx n}).ij j).isSome=true:=by rw[Ab.iU u];exact O
 refine⟨rfl,h.aeq p y G U (.inl f1) (by simp[Ab.ig]) ?_ ?_ ?_ ?_⟩
 .intro x e' a
  by_cases q:x=j
  .subst q;rw[Ab.jd (by grind[Ab.ig])]at a;grind
  .rw[Ab.iU q]at a
   by_cases l:x=p
   .subst l;rw[Ab.jd F]at a;grind
   .rw[Ab.iU l]at a;grind
 .intro x a
  by_cases q:x=j
  .subst q;rw[Ab.jd (by grind[Ab.ig])]at a;cases a
  .rw[Ab.iU q]at a
   by_cases l:x=p
   .subst l;rw[Ab.jd F]at a;cases a
   .rwa [Ab.iU l]at a
 .intro x nd a;rcases Ab.oF a with⟨rfl,rfl⟩|⟨q,a⟩
  .show El E.bs w' _ _ _ _ (if x=p then y else L.kv x) _/\_;rw[gV u];exact⟨E2,U.row aJ (by decide),lJ⟩
  .rcases Ab.oF a with⟨rfl,rfl⟩|⟨l,a⟩
   .show El E.bs w' _ _ _ _ (if x=x then y else L.kv x) _/\_;rw[gJ rfl];refine⟨?_,U.row aP (by decide),lP⟩;show El E.bs w' (L.gS x) d.name (L.av x) (iG L.gS d.jl) y ((d.kids.eraseIdx n).map (Nd.map L.gS));rw[map_eraseIdx];exact Z
   .have hN:=h.ir [j,p] (by grind) X J a (by grind);have R:x < σ.nodes.length:=(List.getElem?_eq_some_iff.1 a).1;exact hN.ext (σ:=σ) (Ge.refl _ _) R rfl (gV l) (h.wfn a)
 .refine(h.wf.ig (e:={d with kids:=d.kids.eraseIdx n}) G (h.wf.jl p d z) ?_).ig N rfl ?_
  .intro k C;exact h.wf.kids p d z k (List.mem_of_mem_eraseIdx C)
  .intro k C;rw[Ab.lA G];exact h.wf.kids j ej H k C
theorem UC {σ:Ab} (h:Rel E L σ w) (l:σ.ij i=some e) (hg:nM e.name=false):
  Calls prog 275 #[gN (L.gS i)] w λq w'=>∃d,Ge σ.nodes.length L d/\q=iw (gN (d.gS σ.nodes.length))/\Rel E d (σ.add (.el {name:=e.name,ib:=e.ib,jl:=none,kids:=[]})) w'/\Fr E.bs w w'/\∀k v,Sd L w k v->Sd d w' k v:=by
 have H:=h.wV l;have O:=h.AC l;refine(IR E.bs _ _ _ _ _ _ w (h.vB l)).mono ?_;rintro q w' ⟨rfl,K,p⟩;have a:=Ab.iq l;refine⟨L.new σ.nodes.length w.heap.size (L.av i) (jc),λj y=>Loc.Bf y,by simp[Loc.new],?_,.gU p,λk v G=>⟨p.at G.1 (by simp),G.2⟩⟩;refine h.add (.el {name:=e.name,ib:=e.ib,jl:=none,kids:=[]}) w.heap.size (L.av i) (jc) σ.fresh p (gW _) ?_ rfl (λq N=>by grind) ?_ ?_ (λC=>absurd rfl (C _)) ?_ (λg hg=>h.ab i g a hg)
 .show El E.bs w' _ _ _ _ _ _/\zn w' _ _/\_;rw[Loc.tY,Loc.BU,Loc.Is];exact⟨K,p.ownsRow H (by simp),O⟩
 .intro j e2 g y x I J
  by_cases z:j=i
  .grind
  .exact h.uq j i e2 g y x a z J I
 .grind
 .intro F;exact⟨F,λg u=>h.DH F i g a u⟩
def Rel.ahe {σ:Ab} (h:Rel E L σ w) (d:Sd L w k v) (G:E.bs<=k) (H:E.w0.heap.size<=k) (u:gQ):Rel E L σ (w.setCell ⟨k,0,none⟩ u)/\Sd L (w.setCell ⟨k,0,none⟩ u) k u/\(∀j x,j≠k->Sd L w j x->Sd L (w.setCell ⟨k,0,none⟩ u) j x)/\Fr E.bs w (w.setCell ⟨k,0,none⟩ u):=by
 have l:Kept [k] w (w.setCell ⟨k,0,none⟩ u):=(Kept.refl _ w).setCell (.inl (by simp)) _;have a:KT E.bs [72] w (w.setCell ⟨k,0,none⟩ u):= .jQ l (λj q _=>by
  rw[List.mem_singleton.1 q];exact⟨⟨_,_,_,d.1,by simp⟩,G⟩)
 obtain⟨C,F,p⟩:=h.iC;refine⟨?_,⟨gm d.1 0 u,d.2⟩,λj x q z=>⟨l.at z.1 (by simpa using q),z.2⟩,a.fr (by decide)⟩;exact {h with
  fr:=h.fr.trans (a.fr (by decide))
  tL:=λi J I=>((h.tL i J I).kt a (by decide)).loc rfl rfl rfl
  iC:=⟨C,a.at F (by decide),p⟩
  pF:=l.ownsRow h.pF (λg hg y=>d.2.1 (by rw[<-List.mem_singleton.1 y];exact hg))
  qu:=l.ownsRow h.qu (λg hg y=>d.2.2 (by rw[<-List.mem_singleton.1 y];exact hg))
  pC:=a.row h.pC (by decide)
  rd:=a.at h.rd (by decide)
  tok:=a.row h.tok (by decide)}
def SF (E:Env) (f:Nat->Nat) (σ:Ab) (w:gx) (S:List (Nat×gQ)):Prop:=∃L,L.gS=f/\Rel E L σ w/\∀p∈S,Sd L w p.1 p.2
def SF.rf {σ:Ab} (h:SF E f σ w S):RF E f σ w:=by have⟨L,e,hr,_⟩:=h;exact⟨L,e,hr⟩
def SF.at {σ:Ab} (h:SF E f σ w S) (a:(k,v)∈S):w.heap[k]?=some (gL #[v] 72):=by
 have⟨L,e,hr,hs⟩:=h;exact(hs _ a).1
def SF.io {σ:Ab} (h:SF E f σ w S) (a:Kept [] w w'):SF E f σ w' S:=by
 have⟨L,e,hr,hs⟩:=h;exact⟨L,e,hr.io a,λp d=>⟨a.at (hs p d).1 (by simp),(hs p d).2⟩⟩
def UO {α:Type} (E:Env) (f:Nat->Nat) (n:Nat) (S:List (Nat×gQ)) (w:gx) (r:qI α) (d:(Nat->Nat)->α->gQ) (e:Ending) (w':gx):Prop:=match r with
 | .ok a σ'=>∃g,SR n f g/\n<=σ'.nodes.length/\e=iw (d g a)/\SF E g σ' w' S/\Fr E.bs w w'
 |_=>False
def adR {α:Type} (E:Env) (k:Nat) (args:(Nat->Nat)->jN) (m:M α) (d:(Nat->Nat)->α->gQ):Prop:=
 ∀f a w S,SF E f a w S->m a≠ .stuck->Calls prog k (args f) w (UO E f a.nodes.length S w (m a) d)
theorem agC {α l:Type} {args : (Nat->Nat)->jN} {m:M α} {h:(Nat->Nat)->α->gQ} (D:adR E k args m h) {σ:Ab} (H:SF E f σ w S) {R:qI l} {K:α->M l} (q:R=(m>>=K) σ) (y:R≠ .stuck) (p:A=args f)
  (x:∀a g d w',SR σ.nodes.length f g->σ.nodes.length<=d.nodes.length->SF E g d w' S->Fr E.bs w w'->R=K a d->m σ= .ok a d->Q (iw (h g a)) w'):Calls prog k A w Q:=by
 subst p;rw[M.gE]at q;have u:m σ≠ .stuck:=λe=>y (by grind);refine(D f σ w S H u).mono ?_
 grind[UO]
def NA {α:Type} (E:Env) (f:Nat->Nat) (n:Nat) (S:List (Nat×gQ)) (w:gx) (r:qI α) (d:(Nat->Nat)->α->gQ) (e:Ending) (w':gx):Prop:=match r with
 | .ok a σ'=>n<=σ'.nodes.length/\e=iw (d f a)/\SF E f σ' w' S/\Fr E.bs w w'
 |_=>False
def AO {α:Type} (E:Env) (k:Nat) (args:(Nat->Nat)->jN) (m:M α) (d:(Nat->Nat)->α->gQ):Prop:=
 ∀f a w S,SF E f a w S->m a≠ .stuck->Calls prog k (args f) w (NA E f a.nodes.length S w (m a) d)
theorem Df {α h:Type} {args : (Nat->Nat)->jN} {m:M α} {g:(Nat->Nat)->α->gQ} (D:AO E k args m g) {σ:Ab} (H:SF E f σ w S) {R:qI h} {K:α->M h} (p:R=(m>>=K) σ) (x:R≠ .stuck) (l:A=args f)
  (u:∀a d w',σ.nodes.length<=d.nodes.length->SF E f d w' S->Fr E.bs w w'->R=K a d->m σ= .ok a d->Q (iw (g f a)) w'):Calls prog k A w Q:=by
 subst l;rw[M.gE]at p;have q:m σ≠ .stuck:=λe=>x (by grind);refine(D f σ w S H q).mono ?_
 grind[NA]
def YG.ls {σ':Ab} (h:YG E L σ' w w') (l:∀p∈S,Sd L w p.1 p.2) (d:n<=σ'.nodes.length) {e : Ending} (a:e=pE):NA E L.gS n S w (.ok () σ') uV e w':=by
 have⟨L',h1,h2,h3,h4⟩:=h;exact⟨d,a,⟨L',h1,h2,λp g=>h4 _ _ (l p g)⟩,h3⟩
def aan (E:Env) (x:jk):AO E 187 (λf=>#[jO E.bB 188,oV f x]) (kL x) uV:=by
 rintro f l w S ⟨L,rfl,hr,g⟩ a;unfold kL at a|-
 by_cases d:l.hH x=true
 .rw[gJ d];exact(XE hr x d).mono (λe w' h=>h.2.ls g (sZ _ _ rfl) h.1)
 .rw[gV d]at a;exact absurd rfl a
def YJ (E:Env) (x:jk):AO E 187 (λf=>#[jO E.bB 189,oV f x]) (lc x) uV:=by
 rintro f l w S ⟨L,rfl,hr,g⟩ a;unfold lc at a|-
 by_cases d:l.hH x=true
 .rw[gJ d];exact(Wr hr x d).mono (λe w' h=>h.2.ls g (sZ _ _ rfl) h.1)
 .rw[gV d]at a;exact absurd rfl a
def acK (E:Env) (x y:jk):AO E 276 (λf=>#[jO E.bB 188,oV f x,oV f y]) (Av x y) uV:=by
 rintro f g w S ⟨L,rfl,hr,l⟩ d;unfold Av at d|-
 by_cases a:(g.hH x&&g.mw y)=true
 .rw[gJ a];simp at a;exact(T8 hr x y a.1 a.2).mono (λe w' h=>h.2.ls l (sZ _ _ rfl) h.1)
 .rw[gV a]at d;exact absurd rfl d
def abJ (E:Env) (x y:jk):AO E 276 (λf=>#[jO E.bB 189,oV f x,oV f y]) (rX x y) uV:=by
 rintro f g w S ⟨L,rfl,hr,l⟩ d;unfold rX at d|-
 by_cases a:(g.hH x&&g.hH y)=true
 .rw[gJ a];simp at a;exact(S5 hr x y a.1 a.2).mono (λe w' h=>h.2.ls l (sZ _ _ rfl) h.1)
 .rw[gV a]at d;exact absurd rfl d
def Ye (E:Env) (j:Nat):AO E 374 (λf=>#[nV f j]) (mW j) uV:=by
 rintro f l w S ⟨L,rfl,hr,g⟩ a;unfold mW at a|-;cases hj:l.ij j with
 |none=>rw[hj]at a;exact absurd rfl a
 |some ej=>
  simp only[hj]at a|-;cases hp:ej.jl with
  |none=>
   simp only[hp]at a|-;refine(ER hr hj hp).mono ?_;rintro e w' ⟨rfl,rfl⟩;exact⟨gW _,rfl,⟨L,rfl,hr,g⟩,Fr.refl _⟩
  |some p=>
   simp only[hp]at a|-;cases hep:l.ij p with
   |none=>rw[hep]at a;exact absurd rfl a
   |some ep=>
    simp only[hep]at a|-
    by_cases d:j≠p/\0<=qH ep.kids (Nd.hH j)/\(qH ep.kids (Nd.hH j)).toNat < ep.kids.length
    .rw[gJ d];exact(UE hr hj hp hep d.1 d.2.2 (by omega)).mono (λe w' h=>h.2.ls g (by simp[Ab.ig]) h.1)
    .rw[gV d]at a;exact absurd rfl a
theorem Wz (E:Env) (i:Nat):adR E 275 (λf=>#[nV f i]) (lp i) nV:=by
 rintro f y w S ⟨L,rfl,hr,u⟩ a;unfold lp at a|-;cases hi:y.ij i with
 |none=>rw[hi]at a;exact absurd rfl a
 |some e=>
  simp only[hi]at a|-
  by_cases hg:nM e.name=true
  .rw[gJ hg]at a;exact absurd rfl a
  .rw[gV hg];refine(UC hr hi (by grind)).mono ?_;rintro z w' ⟨d,g,rfl,h,l,q⟩;exact⟨d.gS,g,by simp[Ab.add],rfl,⟨d,rfl,h,λp x=>q _ _ (u p x)⟩,l⟩
def aca (E:Env) (i:Nat):AO E 99 (λf=>#[nV f i]) (jC i) pV:=by
 rintro f h w S ⟨L,rfl,hr,g⟩ a;unfold jC at a|-;cases he:h.ij i with
 |none=>rw[he]at a;exact absurd rfl a
 |some e=>
  refine(Sh hr he).mono ?_;rintro l w' ⟨rfl,p,d⟩;exact⟨gW _,rfl,SF.io ⟨L,rfl,hr,g⟩ d,.gU d⟩
def acY (E:Env) (pl:Nat×Nat) (j:Nat):AO E 175 (λf=>#[pV f pl,.iface 72 (nV f j)]) (nT pl j) uV:=by
 rintro f g w S ⟨L,rfl,hr,l⟩ a;unfold nT at a|-;cases h1:g.ij pl.1 with
 |none=>rw[h1]at a;exact absurd rfl a
 |some ei=>
  cases h2:g.ij j with
  |none=>rw[h1,h2]at a;exact absurd rfl a
  |some ej=>
   simp only[h1,h2]at a|-
   by_cases d:j≠pl.1/\pl.2<=ei.kids.length/\ei.kids.length < 1048576
   .rw[gJ d];exact(X8 hr h1 h2 d.1 d.2.1 d.2.2).mono (λe w' h=>h.2.ls l (by simp[Ab.ig]) h.1)
   .rw[gV d]at a;exact absurd rfl a
def ElK {α:Type} (m:M α):Prop:=∀g a d,m g= .ok a d->∀i,g.hH (some i)=true->d.hH (some i)=true
theorem Tt (x:jk):ElK (kL x):=by
 intro l a g h i d;unfold kL at h;split at h
 .cases h;exact d
 grind
theorem Ji (x:jk):ElK (lc x):=by
 intro l a g h i d;unfold lc at h;split at h
 .cases h;exact d
 grind
theorem My (x y:jk):ElK (Av x y):=by
 intro l a g h i d;unfold Av at h;split at h
 .cases h;exact d
 grind
theorem Mw (x y:jk):ElK (rX x y):=by
 intro l a g h i d;unfold rX at h;split at h
 .cases h;exact d
 grind
theorem Mx (j:Nat):ElK (jC j):=by
 grind[ElK,jC]
theorem Qf (j:Nat):ElK (lp j):=by
 intro l a g h i d;unfold lp at h;split at h
 .split at h
  .cases h
  .cases h;exact Ab.A8 d
 grind
theorem Ip {σ:Ab} (d:σ.ij j=some ej) (a:σ.hH (some i)=true):(σ.ig j e).hH (some i)=true:=by
 rw[Ab.qX (by grind)];exact a
theorem Mz (pl:Nat×Nat) (j:Nat):ElK (nT pl j):=by
 intro u a q h i p;unfold nT at h;split at h
 .rename_i ei ej d g;split at h
  .rename_i l;cases h;exact Ip (ej:=ej) (by rw[Ab.iU l.1];exact g) (Ip d p)
  grind
 grind
theorem Gw (j:Nat):ElK (mW j):=by
 intro y a u h i q;unfold mW at h;split at h
 .cases h
 .rename_i ej d;split at h
  .grind
  .split at h
   .cases h
   .rename_i p x g;split at h
    .rename_i l;cases h;exact Ip (ej:=ej) (by rw[Ab.iU l.1];exact d) (Ip g q)
    grind
theorem SF.set {σ:Ab} (h:SF E f σ w S) (g:(k,v)∈S) (d:E.bs<=k) (a:E.w0.heap.size<=k) (u:gQ) (S':List (Nat×gQ)) (l:∀p∈S',p=(k,u)\/(p.1≠k/\p∈S)):SF E f σ (w.setCell ⟨k,0,none⟩ u) S'/\Fr E.bs w (w.setCell ⟨k,0,none⟩ u):=by
 have⟨L,e,hr,hs⟩:=h;have⟨h1,h2,h3,h4⟩:=hr.ahe (hs _ g) d a u
 grind[SF]
section
variable {W W':gx} {row:jk} (hg:W.grownBy W' row) {B:Nat} (hr:∀r,row=some r->B<=r/\∃o:Obj,W.heap[r]?=some o/\o.isCells=false)
include hg hr
def qV {k:Nat} {c:jN} {t:TypeId} {m:Nat×Nat} (h:W.heap[k]?=some (.cells c t m)):W'.heap[k]?=some (.cells c t m):=by
 refine(hg.block k (Array.getElem?_eq_some_iff.1 h).1 (λe=>?_)).trans h;have⟨_,o,ho,hc⟩:=hr k e.symm;rw[h]at ho;cases ho;cases hc
def wK {base:Nat} {e:TypeId} {a:Nat} {v:gQ} {k:Nat} {xs:List gQ} (h:W.ownsRow base e a v k xs):W'.ownsRow base e a v k xs:=by
 refine h.kept hg ?_;rcases h.2 with⟨rfl,_⟩|⟨g,l,p,rfl,_,d,_⟩
 .exact .inl rfl
 .refine .inr λq=>?_;have⟨_,o,ho,hc⟩:=hr g (by simpa [Value.ownBlock]using q.symm);rw[d]at ho;cases ho;cases hc
def Fr.grown {bs:Nat} {w:gx} (h:Fr bs w W) (a:w.heap.size<=B):Fr bs w W':=by
 have⟨S,hk,hS⟩:=h;exact⟨S,hk.grown hg (λk e=> .inr (j7 a (hr k e).1)),hS⟩
def Rel.grown {E:Env} {L:Loc} {σ:Ab} (h:Rel E L σ W) (g:E.w0.heap.size<=B):Rel E L σ W':=by
 have⟨C,hb,hC⟩:=h.iC;exact
  {fr:=Fr.grown hg hr h.fr g
   env:=h.env
   vM:=h.vM
   tL:=λi d l=>by
    have a:=h.tL i d l;cases d with
    |el e=>exact⟨⟨qV hg hr a.1.iC,wK hg hr a.1.row,a.1.le,a.1.U0⟩,wK hg hr a.2.1,a.2.2⟩
    |tx s=>exact qV hg hr a
    |cm s=>exact qV hg hr a
    |dt s=>exact qV hg hr a
   inj:=h.inj,BT:=h.BT,GM:=h.GM,uq:=h.uq,Fk:=h.Fk,wf:=h.wf
   iC:=⟨C,qV hg hr hb,hC⟩
   pF:=wK hg hr h.pF
   qu:=wK hg hr h.qu
   GP:=h.GP,x9:=h.x9,Fp:=h.Fp
   pC:=wK hg hr h.pC
   Mg:=h.Mg
   rd:=qV hg hr h.rd
   RU:=h.RU
   tok:=wK hg hr h.tok
   Md:=h.Md,bz:=h.bz,bB:=h.bB,bR:=h.bR,bN:=h.bN,DH:=h.DH,ab:=h.ab,tb:=h.tb,Mf:=h.Mf}
def SF.grown {E:Env} {f:Nat->Nat} {σ:Ab} {S:List (Nat×gQ)} (h:SF E f σ W S) (d:E.w0.heap.size<=B):SF E f σ W' S:=by
 have⟨L,e,h1,h2⟩:=h;exact⟨L,e,h1.grown hg hr d,λp a=>⟨qV hg hr (h2 p a).1,(h2 p a).2⟩⟩
end
def Fr.pt (h:Fr bs w W) (B:Nat):KeepsFrom B w W:=⟨h.size,λ_ _ _ a d=>h.other a d⟩
theorem Fr.at (h:Fr bs w W) {t : TypeId} (d:w.heap[k]?=some (.cells c t m)) (l:t∉Wl):W.heap[k]?=some (.cells c t m):=by
 have⟨S,hkk,hS⟩:=h;have a:k < w.heap.size:=(Array.getElem?_eq_some_iff.1 d).1;refine(hkk.block k a λg=>?_).trans d
 grind
attribute [local go_sem] Oper.semAt_some
theorem afI {u:Type} (m:Nat) (a1:1<=m) (b j n R P l:Nat) (a0:n<=4096) (V:u->jk) (a:u->Nat) (J O:u->gx->Prop)
  (U:∀s W,J s W->W.cell? ⟨R,0,none⟩=some (gh n)) (hL:∀s W,J s W->W.cell? ⟨P,0,none⟩=some (jO b j))
  (F:∀s W q,J s W->a s < n->q=n - 1 - a s->Calls prog 248 #[jO b j,gh q] W λe w'=>e=iw (kI (V s))/\w'=W)
  (hY:∀s W,J s W->a s < n->YieldAt Fence.wide (m - 1) prog l #[kI (V s)] W λe W'=>
   (e=iw (.bool true)/\∃d,a d=a s+1/\J d W')\/(e=iw (.bool false)/\∃d,O d W'))
  (W:gx) (N:u) (a3:a N=0) (h0:J N W):
  CallsIn Fence.wide m prog 357 #[.func (.yield l) #[] #[],gN R,gN P] W λe W'=>(∃r,e=iw r)/\
   ((∃s,a s=n/\J s W')\/(∃s,O s W')):=by
 refine callsIn_of_wp func357 rfl trivial ?_ rfl;simp only[ntmps357,yf,uk,xI,Nat.reduceAdd,Nat.reduceSub,yg,yh,yi,yj,sg,wo];have cN:=U N W h0;have HY:=hY;have HN:=U;have Y:=hL;have y:=F;gi_wp2
 gi_loopw [4] (λi wr=>∃s:u,a s<=n/\i=gh ((n:Int) - 1 - a s)/\J s wr)
  (λi _=>((intOf i)+1).toNat)
 case atStart=>grind
 case round=>
  obtain⟨s,hk,rfl,x⟩:=hrel;have cL:=Y s wr x
  by_cases h:a s < n
  .obtain⟨q,I⟩:∃q:Nat,q=n - 1 - a s:=⟨_,rfl⟩;have K:(n:Int) - 1 - a s=(q:Int):=by omega
   rw[K];have X:=y s wr q x h I;have⟨fn,tmps,assign,body,hy,HR⟩:=HY s wr x h;have Z:=fV I;have a2:q < 4096:=by omega
   clear I
   gi_wp2_with (refine⟨trivial,?_⟩;gi_at_call 248;refine(callsIn_wide.2 X).mono ?_;rintro e w' ⟨rfl,rfl⟩)
   refine HR.mono ?_;rintro e W3 (⟨rfl,d,H,G⟩|⟨rfl,d,g⟩)
   .have z:=H;gi_wp2;go_roundw
    case rel=>exact⟨d,by omega,by have:=Z;have:=z;congr 1;omega,G⟩
    case measure=>simp[intOf]
   .gi_wp2;refine oR (Hl rfl _ _ _) rfl ?_;exact⟨⟨_,rfl⟩,.inr ⟨d,g⟩⟩
  .have C:a s=n:=by omega
   have p:(n:Int) - 1 - a s= -1:=by omega
   rw[p];gi_wp2;go_end0;exact⟨⟨_,rfl⟩,.inl ⟨s,C,x⟩⟩
def adJ {g:Type} (B:Nat) (I:g->gx->Prop) (h:Code->g->gx->Prop) (d:g->Nat) (s:g) (W:gx):Exit->Act->gx->Prop
 | .normal,_,W'=>KeepsFrom B W W'/\∃a,d a=d s+1/\I a W'
 | .ret,_,W'=>KeepsFrom B W W'/\∃a,h .ret a W'
 | .exit id,_,W'=>KeepsFrom B W W'/\∃a,h (.exit id) a W'
 | .goto t,_,W'=>KeepsFrom B W W'/\∃a,h (.goto t) a W'
 | .panic _,_,_=>False
 | .outgrown,_,_=>False
theorem abe {Y:Type} {m : Nat} {g:Operand} {p:Tmp} {assign body : Code} {Q:Exit->Act->gx->Prop} {a : Act} (h1:2<=m) (ab:n<=4096) (hg:a.eval g=vJ bs)
  (nx:Y->jk) (G:Y->Nat) (I:Y->gx->Prop) (Ix:Code->Y->gx->Prop) (hI:OwnFrom w.heap.size I) (V:∀c,OwnFrom w.heap.size (Ix c))
  (hN:∀s W,I s W->W.cell? ⟨bs+1,0,none⟩=some (gh n)) (hL:∀s W,I s W->W.cell? ⟨bs,0,none⟩=some (jO b j))
  (a4:∀s W q,I s W->G s < n->q=n - 1 - G s->Calls prog 248 #[jO b j,gh q] W λe w'=>e=iw (kI (nx s))/\w'=W)
  (s0:Y) (ad:G s0=0) (h0:I s0 w) (X:jk->Act)
  (N:∀(l:Nat) (x:jk) (W:gx) (K:Act->gx->Prop),K (X x) W->assign.wpIn (Fence.wide.inRound l) (m - 1 - 1) prog (Exit.then K (λ_ _ _=>False)) {tmps:=a.tmps.setIfInBounds p (kI x),defers:=[]} W)
  (Z:∀(l:Nat) (s:Y) (W:gx),I s W->G s < n->body.wpIn (Fence.wide.inRound l) (m - 1 - 1) prog (adJ w.heap.size I Ix G s W) (X (nx s)) W)
  (a0:∀(D:Nat) (s:Y) (W:gx),w.heap.size<=D->G s=n->I s W->W.heap[D]?=some (.deferred (some []))->Q .normal {a with defers:={target:= .collected D,args:=#[]}::a.defers} W)
  (a1:∀(D:Nat) (c:Code) (s:Y) (W:gx),w.heap.size<=D->Ix c s W->W.heap[D]?=some (.deferred (some []))->c.wpIn Fence.wide m prog Q {a with defers:={target:= .collected D,args:=#[]}::a.defers} W):
  (Code.rangeFunc g #[p] assign body).wpIn Fence.wide m prog Q a w:=by
 refine Pr ?_;intro fn a8;obtain⟨u,y⟩:∃u:LoopState->Option Code->Loop,u=λst pe=>{state:=st,pending:=pe,fn,tmps:=a.tmps,params:=#[p],assign,body,defers:=w.heap.size}:=⟨_,rfl⟩;obtain⟨O,J⟩:∃O,(w.alloc (.deferred (some []))).alloc (.loop (u .ready none))=O:=⟨_,rfl⟩;have af:O.heap.size=w.heap.size+2:=by rw[<-J];simp
 have a7:O.heap[w.heap.size+1]?=some (.loop (u .ready none)):=by
  rw[<-J];have:=BB (w.alloc (.deferred (some []))) (.loop (u .ready none));rwa [xJ]at this
 have a6:O.heap[w.heap.size]?=some (.deferred (some [])):=by
  rw[<-J];exact(Below.heap_alloc _ _ _ (by simp)).trans (BB w _)
 have a5:I s0 O:=by rw[<-J];exact hI.alloc _ (hI.alloc _ h0)
 refine⟨w.heap.size+1,[{target:= .collected w.heap.size,args:=#[]}],O,{target:= .fn (.func 357) #[gN (bs+1),gN bs],args:=#[.func (.yield (w.heap.size+1)) #[] #[]]},O,357,
  #[.func (.yield (w.heap.size+1)) #[] #[],gN (bs+1),gN bs],O,?_,?_,?_,?_,λ_=>by omega,?_⟩
 .rw[<-J,y];exact Ps _ _ _ _ _
 .simp only[resolve,hg];simp[go_sem]
 .intro f' ae;trivial
 .exact enters_of func357 (by rfl) rfl _ _
 refine(afI (m - 1) (by omega) b j n (bs+1) bs (w.heap.size+1) ab nx G
  (λs W=>I s W/\W.heap[w.heap.size+1]?=some (.loop (u .ready none))/\W.heap[w.heap.size]?=some (.deferred (some [])))
  (λs W=>∃c,Ix c s W/\W.heap[w.heap.size+1]?=some (.loop (u .done (some c)))/\W.heap[w.heap.size]?=some (.deferred (some [])))
  (λs W h=>hN s W h.1) (λs W h=>hL s W h.1) (λs W q h=>a4 s W q h.1) ?_ O s0 ad ⟨a5,a7,a6⟩).mono ?_
 .rintro s W ⟨hi,R,hk⟩ a2;have ac:w.heap.size+1 < W.heap.size:=(Array.getElem?_eq_some_iff.1 R).1;have hy:=run_yield (P:=prog) (args:=#[kI (nx s)]) R (by rw[y];rfl);rw[y]at hy;have hz:(#[p].zip #[kI (nx s)]).foldl (λt (p,v)=>t.setIfInBounds p v) a.tmps=a.tmps.setIfInBounds p (kI (nx s)):=by simp
  refine⟨fn,_,assign,body,hy,roundIn_of_wpIn a8 ((sn (λz=>assign.wpIn (Fence.wide.inRound (w.heap.size+1)) (m - 1 - 1) prog (Exit.then _ (λ_ _ _=>False)) {tmps:=z,defers:=[]} W) hz).mpr (N _ (nx s) W _ ?_))⟩;refine⟨_,run_beginRound R (by rw[y]),?_⟩;have aa:(W.putObj (w.heap.size+1) (.loop {u .ready none with state:= .busy})).heap[w.heap.size+1]?=some (.loop {u .ready none with state:= .busy}):=F7 ac;have a9:(W.putObj (w.heap.size+1) (.loop {u .ready none with state:= .busy})).heap[w.heap.size]?=some (.deferred (some [])):=(qC (by omega)).trans hk;refine yx (Z _ s _ (hI.putObj _ hi (by omega) R rfl) a2) ?_;have U:∀(d:Option Code) (H:gx),KeepsFrom w.heap.size (W.putObj (w.heap.size+1) (.loop {u .ready none with state:= .busy})) H->
    (Instr.endRound (w.heap.size+1) d).run prog H= .ok (.bool d.isNone) (H.putObj (w.heap.size+1) (.loop (u (if d.isNone then .ready else .done) d)))/\
    H.heap[w.heap.size+1]?=some (.loop {u .ready none with state:= .busy})/\
    (H.putObj (w.heap.size+1) (.loop (u (if d.isNone then .ready else .done) d))).heap[w.heap.size+1]?=some (.loop (u (if d.isNone then .ready else .done) d))/\
    (H.putObj (w.heap.size+1) (.loop (u (if d.isNone then .ready else .done) d))).heap[w.heap.size]?=some (.deferred (some [])):=λd H C=>by
   have F:=C.same _ _ (by omega) aa rfl;have:=run_endRound (P:=prog) d F;rw[y]at this|-;exact⟨this,by grind,F7 (Array.getElem?_eq_some_iff.1 F).1,(qC (by omega)).trans (C.same _ _ (gW _) a9 rfl)⟩
  rintro e a3 H hp;cases e with
  |normal=>
   have⟨C,s',hc',hi3⟩:=hp;have⟨hr,F,hl4,hk4⟩:=U none H C;exact⟨_,_,hr,.inl ⟨rfl,s',hc',hI.putObj _ hi3 (by omega) F rfl,hl4,hk4⟩⟩
  |ret=>
   have⟨C,s',hi3⟩:=hp;have⟨hr,F,hl4,hk4⟩:=U (some .ret) H C;exact⟨_,_,hr,.inr ⟨rfl,s',.ret,(V _).putObj _ hi3 (by omega) F rfl,hl4,hk4⟩⟩
  |exit id=>
   have⟨C,s',hi3⟩:=hp;have⟨hr,F,hl4,hk4⟩:=U (some (.exit id)) H C;exact⟨_,_,hr,.inr ⟨rfl,s',.exit id,(V _).putObj _ hi3 (by omega) F rfl,hl4,hk4⟩⟩
  |goto t=>
   have⟨C,s',hi3⟩:=hp;have⟨hr,F,hl4,hk4⟩:=U (some (.goto t)) H C;exact⟨_,_,hr,.inr ⟨rfl,s',.goto t,(V _).putObj _ hi3 (by omega) F rfl,hl4,hk4⟩⟩
  |panic ch=>exact hp.elim
  |outgrown=>exact hp.elim
 .rintro e W2 ⟨⟨v,rfl⟩,(⟨s,hS,hi,R,hk⟩|⟨s,c,hi,R,hk⟩)⟩
  .exact⟨none,_,by have:=F8 (P:=prog) R (by rw[y];simp);rw[y]at this;exact this,a0 _ s _ (gW _) hS (hI.putObj _ hi (by omega) R rfl) ((qC (by omega)).trans hk)⟩
  .exact⟨some c,_,by have:=F8 (P:=prog) R (by rw[y];simp);rw[y]at this;exact this,a1 _ c s _ (gW _) ((V c).putObj _ hi (by omega) R rfl) ((qC (by omega)).trans hk)⟩
section
attribute [local go_sem] Oper.semAt_some
attribute [local go_sem] qA
attribute [local simp] qA
def RF.aeI {σ:Ab} (h:RF E f σ w) (x:jk) (a:σ.hH x=true):Calls prog 385 #[jO E.bB 188,oV f x] w λe w'=>e=iw (vJ w.heap.size)/\w'=mX E.bB 188 (posOf σ.gG x) w:=by
 obtain⟨L,rfl,hr⟩:=h;have⟨C,hL,hC⟩:=hr.zI;have:=acy E.bs E.bB 188 _ C _ _ (iG L.gS x) w hL hr.elO (hr.hH a)
 rwa [M1 hr.inj]at this
theorem Qt (w:gx) (a d g h l:Obj):(((((w.alloc a).alloc d).alloc g).alloc h).alloc l).heap[w.heap.size]?=some a/\(((((w.alloc a).alloc d).alloc g).alloc h).alloc l).heap[w.heap.size+1]?=some d/\(((((w.alloc a).alloc d).alloc g).alloc h).alloc l).heap[w.heap.size+1+1]?=some g/\(((((w.alloc a).alloc d).alloc g).alloc h).alloc l).heap[w.heap.size+1+1+1]?=some h/\(((((w.alloc a).alloc d).alloc g).alloc h).alloc l).heap[w.heap.size+1+1+1+1]?=some l:=by
 have⟨h1,h2,h3,h4⟩:=GG w a d g h;refine⟨(Below.heap_alloc _ _ _ (by grind)).trans h1,(Below.heap_alloc _ _ _ (by simp)).trans h2,(Below.heap_alloc _ _ _ (by simp)).trans h3,(Below.heap_alloc _ _ _ (by simp)).trans h4,?_⟩;have:=fX ((((w.alloc a).alloc d).alloc g).alloc h) l
 simp_all
theorem RF.sf {σ:Ab} (h:RF E f σ w) (d:Kept [] w W) (a:∀p∈S,w.heap.size<=p.1/\W.heap[p.1]?=some (gL #[p.2] 72)):SF E f σ W S:=by
 have⟨L,e,hr⟩:=h;refine⟨L,e,hr.io d,λp g=>⟨(a p g).2,λq=>?_,λq=>?_⟩⟩
 .have:=(hr.pF.lt _ q).2;grind
 .have:=(hr.qu.lt _ q).2;grind
theorem TH {xs : kV} {n : Int} (h:iE xs n=some i):some i∈xs:=by
 unfold iE at h
 grind
def afZ (R:qI (Nat×Nat)):Prop:=∀r a,R= .ok r a->r.1 < a.nodes.length/\r.2 < a.nodes.length
structure Gh where
 g:Nat->Nat
 σ:Ab
 c:Nat
 last:Nat
 mark:Nat
structure RI (E:Env) (f:Nat->Nat) (σ:Ab) (w:gx) (n fi iC:Nat) (s:Gh) (W:gx):Prop where
 le:s.c<=n
 ex:SR σ.nodes.length f s.g
 nl:σ.nodes.length<=s.σ.nodes.length
 ll:s.last < s.σ.nodes.length
 ml:s.mark < s.σ.nodes.length
 fe:s.σ.hH (some fi)=true
 be:s.σ.hH (some iC)=true
 te:s.σ.hH (some s.last)=true
 sf:SF E s.g s.σ W [(w.heap.size+1,nV f fi),(w.heap.size+1+1,nV f iC),(w.heap.size+1+1+1,nV s.g s.last),(w.heap.size+1+1+1+1,nV s.g s.mark)]
 b3:W.heap[w.heap.size]?=some (gL #[Bp E] 121)
 b8:W.heap[w.heap.size+1+1+1+1+1]?=some (gL #[gh s.c] 3)
 bl:W.heap[w.heap.size+1+1+1+1+1+1]?=some (gL #[jO E.bB 188] 280)
 bn:W.heap[w.heap.size+1+1+1+1+1+1+1]?=some (gL #[gh n] 3)
 fr:Fr E.bs w W
def RI.grown {σ:Ab} {s:Gh} {row : jk} {B : Nat} (h:RI E f σ w n fi iC s W) (hg:W.grownBy W' row) (hr:∀r,row=some r->B<=r/\∃o:Obj,W.heap[r]?=some o/\o.isCells=false) (a:E.w0.heap.size<=B) (d:w.heap.size<=B):RI E f σ w n fi iC s W':=
 ⟨h.le,h.ex,h.nl,h.ll,h.ml,h.fe,h.be,h.te,h.sf.grown hg hr a,qV hg hr h.b3,qV hg hr h.b8,qV hg hr h.bl,qV hg hr h.bn,h.fr.grown hg hr d⟩
def SF.side {σ:Ab} (h:SF E f σ w S) (q:w.heap[b]?=some (.cells c T m)) (l:∀t∈Wm,t≠T) (a:E.w0.heap.size<=b) (j:Nat) (u:gQ):SF E f σ (w.setCell ⟨b,j,none⟩ u) S:=by
 have⟨L,e,hr,hs⟩:=h;refine⟨L,e,hr.side q l a j u,λp d=>⟨?_,(hs p d).2⟩⟩;have x:Kept [b] w (w.setCell ⟨b,j,none⟩ u):=(Kept.refl _ w).setCell (.inl (by simp)) _;refine x.at (hs p d).1 λy=>?_;have g:=List.mem_singleton.1 y;have:=(hs p d).1;rw[g,q]at this;injection this with this;injection this with _ e2;exact l 72 (by decide) e2.symm
def Fr.afE (h:Fr bs w W) (a:w.heap.size<=k) (j:Nat) (u:gQ):Fr bs w (W.setCell ⟨k,j,none⟩ u):=by
 have⟨S,h1,h2⟩:=h;exact⟨S,h1.setCell (.inr a) _,h2⟩
theorem RI.next {σ:Ab} {s:Gh} (h:RI E f σ w n fi iC s W) (d:s.c < n) (l:E.w0.heap.size<=w.heap.size) (u:gQ) (g:u=gh ((s.c+1:Nat))):RI E f σ w n fi iC ⟨s.g,s.σ,s.c+1,s.last,s.mark⟩ (W.setCell ⟨w.heap.size+1+1+1+1+1,0,none⟩ u):=by
 subst g;have a:Kept [w.heap.size+1+1+1+1+1] W (W.setCell ⟨w.heap.size+1+1+1+1+1,0,none⟩ (gh ((s.c+1:Nat)))):=(Kept.refl _ W).setCell (.inl (by simp)) _;exact
  {le:=d,ex:=h.ex,nl:=h.nl,ll:=h.ll,ml:=h.ml,fe:=h.fe,be:=h.be,te:=h.te
   sf:=h.sf.side h.b8 (by decide) (by omega) 0 _
   b3:=a.at h.b3 (by grind)
   b8:=gm h.b8 0 _
   bl:=a.at h.bl (by simp)
   bn:=a.at h.bn (by grind)
   fr:=h.fr.afE (by omega) 0 _}
def RI.step {σ:Ab} {s:Gh} (h:RI E f σ w n fi iC s W) {d : Nat->Nat} {σ':Ab} (p:SR s.σ.nodes.length s.g d) (l:s.σ.nodes.length<=σ'.nodes.length) (g:Fr E.bs W W') (a:∀i,s.σ.hH (some i)=true->σ'.hH (some i)=true)
  (u:SF E d σ' W' [(w.heap.size+1,nV f fi),(w.heap.size+1+1,nV f iC),(w.heap.size+1+1+1,nV s.g s.last),(w.heap.size+1+1+1+1,nV s.g s.mark)]):RI E f σ w n fi iC ⟨d,σ',s.c,s.last,s.mark⟩ W':=by
 have e1:nV s.g s.last=nV d s.last:=by unfold nV;rw[p _ h.ll]
 have e2:nV s.g s.mark=nV d s.mark:=by unfold nV;rw[p _ h.ml]
 rw[e1,e2]at u;exact
  {le:=h.le,ex:=λi q=>(p i (mi q h.nl)).trans (h.ex i q),nl:=j7 h.nl l,ll:=mi h.ll l,ml:=mi h.ml l,fe:=a _ h.fe,be:=a _ h.be,te:=a _ h.te
   sf:=u
   b3:=g.at h.b3 (by decide),b8:=g.at h.b8 (by decide),bl:=g.at h.bl (by decide),bn:=g.at h.bn (by decide)
   fr:=h.fr.trans g}
def RI.adi {σ:Ab} {s:Gh} (h:RI E f σ w n fi iC s W) (x:Nat) (a:s.σ.hH (some x)=true) (g:E.w0.heap.size<=w.heap.size) (d:E.bs<=w.heap.size):RI E f σ w n fi iC ⟨s.g,s.σ,s.c,x,s.mark⟩ (W.setCell ⟨w.heap.size+1+1+1,0,none⟩ (nV s.g x))/\Fr E.bs W (W.setCell ⟨w.heap.size+1+1+1,0,none⟩ (nV s.g x)):=by
 have⟨q1,q2⟩:=h.sf.set (k:=w.heap.size+1+1+1) (v:=nV s.g s.last) (by simp) (by omega) (by omega) (nV s.g x) [(w.heap.size+1,nV f fi),(w.heap.size+1+1,nV f iC),(w.heap.size+1+1+1,nV s.g x),(w.heap.size+1+1+1+1,nV s.g s.mark)] (by
  simp)
 exact⟨{le:=h.le,ex:=h.ex,nl:=h.nl,ll:=Ab.mq (σ:=s.σ) (i:=x) a,ml:=h.ml,fe:=h.fe,be:=h.be,te:=a,sf:=q1,b3:=q2.at h.b3 (by decide),b8:=q2.at h.b8 (by decide),bl:=q2.at h.bl (by decide),bn:=q2.at h.bn (by decide),fr:=h.fr.trans q2},q2⟩
def RI.adj {σ:Ab} {s:Gh} (h:RI E f σ w n fi iC s W) (x:Nat) (g:s.σ.hH (some x)=true) (d:E.w0.heap.size<=w.heap.size) (a:E.bs<=w.heap.size):RI E f σ w n fi iC ⟨s.g,s.σ,s.c,s.last,x⟩ (W.setCell ⟨w.heap.size+1+1+1+1,0,none⟩ (nV s.g x))/\Fr E.bs W (W.setCell ⟨w.heap.size+1+1+1+1,0,none⟩ (nV s.g x)):=by
 have⟨q1,q2⟩:=h.sf.set (k:=w.heap.size+1+1+1+1) (v:=nV s.g s.mark) (by simp) (by omega) (by omega) (nV s.g x) [(w.heap.size+1,nV f fi),(w.heap.size+1+1,nV f iC),(w.heap.size+1+1+1,nV s.g s.last),(w.heap.size+1+1+1+1,nV s.g x)] (by
  simp)
 exact⟨{le:=h.le,ex:=h.ex,nl:=h.nl,ll:=h.ll,ml:=Ab.mq (σ:=s.σ) (i:=x) g,fe:=h.fe,be:=h.be,te:=h.te,sf:=q1,b3:=q2.at h.b3 (by decide),b8:=q2.at h.b8 (by decide),bl:=q2.at h.bl (by decide),bn:=q2.at h.bn (by decide),fr:=h.fr.trans q2},q2⟩
theorem S8 {a : Nat} {σ σ':Ab} (h:lp j σ= .ok a σ'):σ'.hH (some a)=true:=by
 unfold lp at h;split at h
 .split at h
  .cases h
  .cases h;show((σ.add _).ij σ.nodes.length).isSome=true;rw[Ab.wy];rfl
 grind
def RI.k0 {σ:Ab} {s:Gh} (h:RI E f σ w n fi iC s W) (a:Kept [] W W'):RI E f σ w n fi iC s W':=
 ⟨h.le,h.ex,h.nl,h.ll,h.ml,h.fe,h.be,h.te,h.sf.io a,a.at h.b3 (by simp),a.at h.b8 (by simp),a.at h.bl (by simp),a.at h.bn (by simp),h.fr.trans (.gU a)⟩
def Up (f iC k c last d e:Nat):M (Nat×Nat):=λg=>if some e∉g.act then (kL (some e)>>=λ_=>mP f iC k (c+1) last d) g else
 (lp e>>=λa=>Av (some e) (some a)>>=λ_=>rX (some e) (some a)>>=λ_=>mW last>>=λ_=>jC a>>=λh=>nT h last>>=λ_=>mP f iC k (c+1) a (if last=iC then a else d)) g
theorem RQ {f c last a : Nat} {σ:Ab} {R : qI (Nat×Nat)} (h:R=mP f iC (k+1) c last a σ) (l:R≠ .stuck):∃e,iE σ.gG (k:Int)=some e/\((e=f/\R= .ok (last,a) σ)\/(e≠f/\R=((if 3 < c+1 then lc (some e)else pure ())>>=λ_=>Up f iC k c last a e) σ)):=by
 have d:R=(GW k>>=λe=>if e=f then pure (last,a)else ((if 3 < c+1 then lc (some e)else pure ())>>=λ_=>Up f iC k c last a e)) σ:=h;rw[M.gE]at d;unfold GW at d;cases hq:iE σ.gG (k:Int)with
 |none=>grind
 |some e=>
  rw[hq]at d;dsimp only at d;refine⟨e,rfl,?_⟩
  by_cases g:e=f
  .rw[gJ g]at d;exact .inl ⟨g,d⟩
  grind
def RF.eql {g : Nat->Nat} {σ:Ab} (h:RF E g σ W) (a:σ.hH (some i)=true) (d:σ.hH (some j)=true):(binOp .eql 72 (nV g i) (nV g j)).run prog W= .ok (.bool (decide (i=j))) W:=by
 obtain⟨L,rfl,hr⟩:=h;have:=Da (hr.hH a) (hr.hH d);rw[show decide (iG L.gS (some i)=iG L.gS (some j))=decide (i=j)from decide_eq_decide.2 ⟨λe=>hr.inj _ _ (jy e),λe=>by rw[e]⟩]at this;exact this
theorem aaI {σ:Ab} (h:RF E f σ w) (fi iC:Nat) (aS:(σ.ij fi).isSome=true) (bk:some iC∈σ.gG) (hs:xn fi iC σ≠ .stuck):
  Calls prog 373 #[Bp E,nV f fi,nV f iC] w (λe w'=>Leaves E f σ.nodes.length w (xn fi iC σ) (λg r=> .tuple #[nV g r.1,nV g r.2]) e w'/\afZ (xn fi iC σ)):=by
 obtain⟨R,hR⟩:∃R,R=xn fi iC σ:=⟨_,rfl⟩;rw[<-hR]at hs|-;obtain⟨n,hn⟩:∃n,n=(posOf σ.gG (some iC)).toNat:=⟨_,rfl⟩;have bj:R=mP fi iC n 0 iC fi σ:=by rw[hR,hn];rfl
 have bu:posOf σ.gG (some iC)=(n:Int):=by
  rw[hn];rcases tD σ.gG (some iC)with⟨bN,_⟩|⟨m,hp,_⟩
  .grind
  .omega
 have bw:Wf σ:=by have⟨L,_,hr⟩:=h;exact hr.wf
 have V:(σ.ij iC).isSome=true:=bw.gG _ bk;have bm:σ.hH (some iC)=true:=Ab.wC (bw.gG _ bk);have bS:σ.gG.length<=4096:=by have⟨L,_,hr⟩:=h;exact hr.x9
 have bM:n<=4096:=by
  rcases tD σ.gG (some iC)with⟨bN,_⟩|⟨m,hp,hm,_⟩
  .omega
  .omega
 have bZ:=h.lt;have aT:E.w0.heap.size<=w.heap.size:=by have⟨L,_,hr⟩:=h;exact hr.fr.size
 have bo:E.bs<=w.heap.size:=by have⟨L,_,hr⟩:=h;have:=hr.bB;omega
 have HF:=fV h;have HR:=fV bj;have HS:=fV hs;have bB:=fV bm;have HP:=fV bu;clear h hR bj hs;refine(xC (n:=9)).1 ?_;refine xD func373 rfl trivial ?_ rfl;simp only[ntmps373,yf,uk,xI,Nat.reduceAdd,Nat.reduceSub,yg,yh,yi,yj,sg,wo];obtain⟨w5,am⟩:∃w5,w5=((((w.alloc (gL #[Bp E] 121)).alloc (gL #[nV f fi] 72)).alloc (gL #[nV f iC] 72)).alloc (gL #[.pointer none] 72)).alloc (gL #[.pointer none] 72):=⟨_,rfl⟩;have bq:Kept [] w w5:=by rw[am];exact(((((Kept.refl _ _).alloc _).alloc _).alloc _).alloc _).alloc _
 have bx:w5.heap.size=w.heap.size+1+1+1+1+1:=by rw[am];simp
 have⟨b3,b4,b5,b6,b7⟩:=Qt w (gL #[Bp E] 121) (gL #[nV f fi] 72) (gL #[nV f iC] 72) (gL #[.pointer none] 72) (gL #[.pointer none] 72);rw[<-am]at b3 b4 b5 b6 b7;have c4:=fW b4 0;have c5:=fW b5 0;have c6:=fW b6 0;have c7:=fW b7 0;have f6:=gu b6 0;have f7:=gu b7 0;dsimp at c4 c5 c6 c7;have aq:=fV am;have aX:=fV bq;have b9:=fV bx;have B3:=fV b3;have B4:=fV b4;have B5:=fV b5;have B6:=fV b6;have B7:=fV b7;clear am bq bx b3 b4 b5 b6 b7
 gi_wp2_with fail
 rw[<-aq.out];rename_i K1 bd;refine yx (Q:=Exit.then (λa W'=>a={tmps:=#[Bp E,nV f fi,nV f iC,gN w.heap.size,gN (w.heap.size+1),gN (w.heap.size+1+1),gN (w.heap.size+1+1+1),gN (w.heap.size+1+1+1+1),undef,undef,undef,nV f iC,nV f fi,undef,undef,undef,undef,undef,undef,undef,undef,undef,undef,undef,undef,undef,undef,undef,undef,undef,undef,undef,undef,undef,undef,undef,undef,undef,undef,undef,undef,undef,undef,undef,undef,undef,undef,undef,undef,undef,undef,undef,undef,undef,undef,undef,undef,undef,undef,undef,undef,undef,undef,undef,undef,undef,undef,undef,undef,undef],defers:=[]}/\W'.heap.size=w5.heap.size/\Kept [] w W'/\Kept [w.heap.size+1+1+1,w.heap.size+1+1+1+1] w5 W'/\W'.heap[w.heap.size+1+1+1]?=some (gL #[nV f iC] 72)/\W'.heap[w.heap.size+1+1+1+1]?=some (gL #[nV f fi] 72)) (λ_ _ _=>False)) ?_ ?_
 .refine wpIn_wide.2 ?_;go_region;refine⟨rfl,by simp,((aX.out.setCell (.inr (by simp;omega)) _).setCell (.inr (by simp;omega)) _).drew,(((Kept.refl _ w5).setCell (.inl (by simp)) _).setCell (.inl (by simp)) _).drew,?_,?_⟩
  .exact(Below.heap_setCell _ _ _ _ (by simp)).trans (gm B6.out 0 _)
  .exact gm ((Below.heap_setCell _ _ _ _ (by simp)).trans B7.out) 0 _
 .intro e a W' hq;cases e with
  |normal=>
   obtain⟨rfl,aU,br,aC,g6,g7⟩:=hq;show K1 _ W';dsimp only;refine bd _ _ ?_;have g3:=aC.at B3.out (by simp;omega);have g4:=aC.at B4.out (by simp);have g5:=aC.at B5.out (by simp);rw[b9.out]at aU;have au:=fV aU;have aY:=fV br;have G3:=fV g3;have G4:=fV g4;have G5:=fV g5;have G6:=fV g6;have G7:=fV g7;clear aU br aC g3 g4 g5 g6 g7 c4 c5 c6 c7 f6 f7 B3 B4 B5 B6 B7 aX b9 aq w5 bd
   gi_wp2_with fail
   rw[au.out];have a1:Kept [] W' (W'.alloc (gL #[gh 0] 3)):=(Kept.refl _ _).alloc _;have g8:(W'.alloc (gL #[gh 0] 3)).heap[w.heap.size+1+1+1+1+1]?=some (gL #[gh 0] 3):=by rw[<-au.out];exact fX W' _
   have bz:(W'.alloc (gL #[gh 0] 3)).heap.size=w.heap.size+1+1+1+1+1+1:=by rw[xJ,au.out]
   have ad:=fV (aY.out.trans a1);replace G3:=fV (a1.at G3.out (by simp));replace G4:=fV (a1.at G4.out (by simp));replace G5:=fV (a1.at G5.out (by simp));replace G6:=fV (a1.at G6.out (by simp));replace G7:=fV (a1.at G7.out (by simp));have G8:=fV g8;have ag:=fV bz;clear a1 g8 bz aY au;generalize W'.alloc (gL #[gh 0] 3)=W8 at *;have c3:=fW G3.out 0;have c5:=fW G5.out 0;dsimp at c3 c5;have bK:=(HF.out.io ad.out).lt;have aH:=fV ((HF.out.io ad.out.drew).aeI (some iC) bB.out);rw[HP.out]at aH;rename_i Kb bX Ka bg;obtain⟨P3,bi⟩:∃P3:Act->gx->Prop,P3=(λa G=>∃av aw ax ay,a={tmps:=#[Bp E,nV f fi,nV f iC,gN w.heap.size,gN (w.heap.size+1),gN (w.heap.size+1+1),gN (w.heap.size+1+1+1),gN (w.heap.size+1+1+1+1),gN (w.heap.size+1+1+1+1+1),undef,undef,nV f iC,nV f fi,av,aw,ax,ay,vJ (w.heap.size+1+1+1+1+1+1),undef,undef,undef,undef,undef,undef,undef,undef,undef,undef,undef,undef,undef,undef,undef,undef,undef,undef,undef,undef,undef,undef,undef,undef,undef,undef,undef,undef,undef,undef,undef,undef,undef,undef,undef,undef,undef,undef,undef,undef,undef,undef,undef,undef,undef,undef,undef,undef,undef,undef,undef,undef],defers:=[]}/\Kept [] W8 G/\G.heap[w.heap.size+1+1+1+1+1+1]?=some (gL #[jO E.bB 188] 280)/\G.heap[w.heap.size+1+1+1+1+1+1+1]?=some (gL #[gh n] 3)):=⟨_,rfl⟩;have aJ:=fV bi;clear bi;refine yx (Q:=Exit.then P3 (λ_ _ _=>False)) ?_ ?_
   .refine wpIn_wide.2 ?_
    go_region_with (go_at_call 385;refine aH.out.mono ?_;rintro e w9 ⟨rfl,bv⟩;have aL:=fV bv;clear bv)
    all_goals
     show P3 _ w9;rw[aJ.out,ag.out];refine⟨_,_,_,_,rfl,?_,?_,?_⟩
     .rw[aL.out];exact(((Kept.refl [] W8).drew).alloc _).alloc _
     .rw[aL.out,<-ag.out];exact(tl W8.drew _ _).1
     .rw[aL.out,<-ag.out];exact(tl W8.drew _ _).2
   .intro e a G hq;cases e with
    |normal=>
     replace hq:P3 a G:=hq;rw[aJ.out]at hq;obtain⟨av,aw,ax,ay,rfl,I,g9,bc⟩:=hq;show Ka _ G;dsimp only;refine bg _ _ ?_;have c1:w.heap.size+1+1+1+1+1+1<=G.heap.size:=by have:=ag.out;have:=I.size;omega
     have bp:RI E f σ w n fi iC ⟨f,σ,0,iC,fi⟩ G:=
      {le:=iN _,ex:=λ_ _=>rfl,nl:=gW _,ll:=Ab.mq (σ:=σ) (i:=iC) V,ml:=Ab.mq (σ:=σ) (i:=fi) aS,fe:=aS,be:=V,te:=V
       sf:=HF.out.sf (ad.out.trans I) (by
        intro p hp;simp only[lf,lr,lu]at hp;rcases hp with rfl|rfl|rfl|rfl
        .exact⟨by simp,I.at G4.out (by simp)⟩
        .exact⟨by omega,I.at G5.out (by simp)⟩
        .exact⟨by omega,I.at G6.out (by simp)⟩
        .exact⟨by omega,I.at G7.out (by simp)⟩)
       b3:=I.at G3.out (by simp),b8:=I.at G8.out (by simp),bl:=g9,bn:=bc
       fr:= .gU (ad.out.trans I)}
     have bC:=fV bp;clear bp I g9 bc G3 G4 G5 G6 G7 G8 ad ag aH aJ c3 c5 bK bg Ka P3 W8
     gi_wp2_with fail
     refine abe (b:=E.bB) (j:=188) (bs:=w.heap.size+1+1+1+1+1+1) (by omega) bM rfl (λs:Gh=>iG s.g (iE s.σ.gG ((n - 1 - s.c:Nat):Int))) Gh.c
      (λs W=>RI E f σ w n fi iC s W/\R=mP fi iC (n - s.c) s.c s.last s.mark s.σ)
      (λc s W=>c= .exit 0/\RI E f σ w n fi iC s W/\R= .ok (s.last,s.mark) s.σ)
      ?_ ?_ ?_ ?_ ?_ ⟨f,σ,0,iC,fi⟩ rfl ⟨bC.out,HR.out⟩ (λx=>{tmps:=#[Bp E,nV f fi,nV f iC,gN w.heap.size,gN (w.heap.size+1),gN (w.heap.size+1+1),gN (w.heap.size+1+1+1),gN (w.heap.size+1+1+1+1),gN (w.heap.size+1+1+1+1+1),kI x,undef,nV f iC,nV f fi,av,aw,ax,ay,vJ (w.heap.size+1+1+1+1+1+1),kI x,undef,undef,undef,undef,undef,undef,undef,undef,undef,undef,undef,undef,undef,undef,undef,undef,undef,undef,undef,undef,undef,undef,undef,undef,undef,undef,undef,undef,undef,undef,undef,undef,undef,undef,undef,undef,undef,undef,undef,undef,undef,undef,undef,undef,undef,undef,undef,undef,undef,undef,undef],defers:=[]}) ?assign ?body ?done ?stop
     .rintro s A B row ⟨u,Y⟩ hg hr;exact⟨u.grown hg hr (by omega) (by omega),Y⟩
     .rintro c s A B row ⟨h0,u,Y⟩ hg hr;exact⟨h0,u.grown hg hr (by omega) (by omega),Y⟩
     .rintro s W ⟨u,_⟩;rw[fW u.bn];rfl
     .rintro s W ⟨u,_⟩;rw[fW u.bl];rfl
     .rintro s W q ⟨u,_⟩ bt rfl;exact u.sf.rf.atO _
     case assign=>
      intro l x W K hK;dsimp only;gi_wp2;exact hK
     case body=>
      rintro l s W ⟨u,Y⟩ bt;dsimp only;obtain⟨k,hk⟩:∃k,k=n - 1 - s.c:=⟨_,rfl⟩;have bJ:n - s.c=k+1:=by omega
      rw[bJ]at Y;have⟨e,hge,hcase⟩:=RQ Y HS.out;rw[<-hk,hge];rw[show kI (iG s.g (some e))=nV s.g e from rfl];have a5:s.σ.hH (some e)=true:=by
       have⟨L,_,hr,_⟩:=u.sf;exact hr.wf.gG _ (TH hge)
      have c3:=fW u.b3 0;dsimp at c3;have c4:W.cell? ⟨w.heap.size+1,0,none⟩=some (nV s.g fi):=by
       rw[fW (u.sf.at (v:=nV f fi) (by simp)),show nV s.g fi=nV f fi by unfold nV;rw[u.ex fi (Ab.mq (σ:=σ) (i:=fi) aS)]];rfl
      have c8:=fW u.b8 0;have f8:=gu u.b8 0;dsimp at c8;have aR:=u.sf.rf.eql a5 u.fe;have bY:s.c < 4096:=by omega
      rcases hcase with⟨rfl,ai⟩|⟨bL,ai⟩
      .rw[wj rfl]at aR;have H1:=fV u;have H3:=fV ai;clear u Y ai hge a5;unfold nV at *;gi_wp2;exact⟨KeepsFrom.refl _ _,s,rfl,H1.out,H3.out⟩
      .rw[yd bL]at aR;have aN:=u.next bt aT (gh ((s.c:Int)+1)) (by simp);obtain⟨W6,aA⟩:∃W6,W6=W.setCell ⟨w.heap.size+1+1+1+1+1,0,none⟩ (gh ((s.c:Int)+1)):=⟨_,rfl⟩;have aE:KeepsFrom G.heap.size W W6:=by rw[aA];exact(Pp _ _ _).from _
       rw[<-aA]at aN;have ab:=fV aN;have a2:=fV aE;have ar:=fV aA;have a0:=fV ai;have an:=fV a5;clear u Y ai hge aN aE aA a5;unfold nV at *
       by_cases h3:3 < s.c+1
       have af:Hid (R=(lc (some e)>>=λ_=>Up fi iC k s.c s.last s.mark e) s.σ):=by
        refine fV ?_;have:=a0.out
        rwa [gJ h3]at this
       gi_wp2_with fail
       rw[<-ar.out];refine rA l (callsIn_wide.2 (Df (YJ E (some e)) ab.out.sf af.out HS.out rfl ?_));rintro a P WA J N z O C;have hA:=ab.out.step (λ_ _=>rfl) J z (Ji _ _ _ _ C) N;have X:=Ji _ _ _ _ C e an.out;have aO:=a2.out.trans (z.pt G.heap.size);have aP:=O;clear J N z O C ab af a0 a2 an ar c3 c4 c8 f8 aR
       rotate_left
       have af:Hid (R=Up fi iC k s.c s.last s.mark e s.σ):=by
        refine fV ?_;have:=a0.out
        rwa [gV h3]at this
       obtain⟨P,a7⟩:∃P,P=s.σ:=⟨_,rfl⟩;obtain⟨WA,aB⟩:∃WA,WA=W6:=⟨_,rfl⟩;have hA:RI E f σ w n fi iC ⟨s.g,P,s.c+1,s.last,s.mark⟩ WA:=by rw[a7,aB];exact ab.out
       have X:P.hH (some e)=true:=by rw[a7];exact an.out
       have aO:KeepsFrom G.heap.size W WA:=by rw[aB];exact a2.out
       have aP:R=Up fi iC k s.c s.last s.mark e P:=by rw[a7];exact af.out
       have bH:=fV (aB.trans ar.out);clear ab a0 a2 an af a7 aB ar
       all_goals
        have c3:=fW hA.b3 0;dsimp at c3;have aG:=fV (hA.sf.rf.agi (some e) X);have HA:=fV hA;have ap:=fV aP;have F:=fV aO;clear hA aP aO
        gi_wp2_with fail
        try rw[<-bH.out]
        refine(rA l (callsIn_wide.2 aG.out)).mono ?_;rintro e' w_ ⟨rfl,bP⟩;subst bP
        by_cases U:some e∈P.act
        .have aj:R=(lp e>>=λd=>Av (some e) (some d)>>=λ_=>rX (some e) (some d)>>=λ_=>mW s.last>>=λ_=>jC d>>=λpl=>nT pl s.last>>=λ_=>mP fi iC k (s.c+1) d (if s.last=iC then d else s.mark)) P:=by
          rw[ap.out];unfold Up;rw[gV (by simpa using U)]
         have ae:=fV aj;rw[wj U];clear aj U ap aG
         gi_wp2_with fail
         refine rA l (callsIn_wide.2 (agC (Wz E e) HA.out.sf ae.out HS.out rfl ?_));rintro d y bQ W2 x1 J N z O C;have Y:=HA.out.step x1 J z (Qf _ _ _ _ C) N;have bR:y e=s.g e:=x1 e (Ab.mq (σ:=P) (i:=e) X);have Z:=fV (S8 C);have ac:=fV Y;have b2:=fV O;replace F:=fV (F.out.trans (z.pt G.heap.size));have c3:=fW Y.b3 0;dsimp at c3;clear Y x1 J N z O C HA ae X
         gi_wp2_with fail
         refine rA l (callsIn_wide.2 (Df (acK E (some e) (some d)) ac.out.sf b2.out HS.out (by show _=#[_,nV y e,nV y d];simp) ?_));rintro a3 c9 W3 J N z O C;have aM:=ac.out.step (λ_ _=>rfl) J z (My _ _ _ _ _ C) N;replace Z:=fV (My _ _ _ _ _ C d Z.out);have aI:=fV aM;have a0:=fV O;replace F:=fV (F.out.trans (z.pt G.heap.size));have c3:=fW aM.b3 0;dsimp at c3;clear aM J N z O C ac b2
         gi_wp2_with fail
         refine rA l (callsIn_wide.2 (Df (abJ E (some e) (some d)) aI.out.sf a0.out HS.out (by show _=#[_,nV y e,nV y d];simp) ?_));rintro a4 bA W4 J N z O C;have h4:=aI.out.step (λ_ _=>rfl) J z (Mw _ _ _ _ _ C) N;replace Z:=fV (Mw _ _ _ _ _ C d Z.out);have ao:=fV h4;have ak:=O;replace F:=fV (F.out.trans (z.pt G.heap.size));have c5:W4.cell? ⟨w.heap.size+1+1,0,none⟩=some (nV y iC):=by
          have c0:y iC=f iC:=h4.ex iC (Ab.mq (σ:=σ) (i:=iC) V);rw[fW (h4.sf.at (k:=w.heap.size+1+1) (v:=nV f iC) (by simp)),show nV y iC=nV f iC by simp];rfl
         have c6:=fW (h4.sf.at (k:=w.heap.size+1+1+1) (v:=nV y s.last) (by simp)) 0;have c7:=fW (h4.sf.at (k:=w.heap.size+1+1+1+1) (v:=nV y s.mark) (by simp)) 0;have f7:=gu (h4.sf.at (k:=w.heap.size+1+1+1+1) (v:=nV y s.mark) (by simp)) 0;dsimp at c6 c7;have al:(binOp .eql 72 (nV y s.last) (nV y iC)).run prog W4= .ok (.bool (decide (s.last=iC))) W4:=h4.sf.rf.eql h4.te h4.be;clear h4 J N z O C aI a0;unfold nV at c5 c6 c7 al;generalize hmk:(if s.last=iC then d else s.mark)=mk at ak
         by_cases a9:s.last=iC
         rw[wj a9]at al;have⟨q1,q2⟩:=ao.out.adj d Z.out aT bo;obtain⟨W5,az⟩:∃W5,W5=W4.setCell ⟨w.heap.size+1+1+1+1,0,none⟩ (gN (y d)):=⟨_,rfl⟩;have q3:RI E f σ w n fi iC ⟨y,bA,s.c+1,s.last,mk⟩ W5:=by rw[az,<-hmk,gJ a9];exact q1
         have q4:KeepsFrom G.heap.size W4 W5:=by rw[az];exact q2.pt G.heap.size
         have H5:=fV q3;replace F:=fV (F.out.trans q4);have aq:=fV az;have aK:=fV ak;clear q1 q2 q3 q4 az ao ak a9 hmk
         gi_wp2_with fail
         rw[<-aq.out]
         rotate_left
         rw[yd a9]at al;have H5:=fV (show RI E f σ w n fi iC ⟨y,bA,s.c+1,s.last,mk⟩ W4 by rw[<-hmk,gV a9];exact ao.out);have aK:=fV ak;clear ao ak a9 hmk
         gi_wp2_with fail
         all_goals
          refine rA l (callsIn_wide.2 (Df (Ye E s.last) H5.out.sf aK.out HS.out rfl ?_));rintro a6 ca W7 J N z O C;have h6:=H5.out.step (λ_ _=>rfl) J z (Gw _ _ _ _ C) N;have h7:=h6.k0 ((Kept.refl _ W7).drew);have c6:=fW (h6.sf.at (k:=w.heap.size+1+1+1) (v:=nV y s.last) (by simp)) 0;dsimp at c6;replace Z:=fV (Gw _ _ _ _ C d Z.out);have H7:=fV h7;have bF:=fV O;replace F:=fV ((F.out.trans (z.pt G.heap.size)).trans ((Fr.gU (bs:=E.bs) ((Kept.refl _ W7).drew)).pt G.heap.size));clear h6 h7 J N z O C H5 aK;unfold nV at c6
          gi_wp2_with fail
          have aV:Hid (Calls prog 99 #[nV y d] W7.drew λe WE=>∃pl H,e=iw (pV y pl)/\RI E f σ w n fi iC ⟨y,H,s.c+1,s.last,mk⟩ WE/\KeepsFrom G.heap.size W WE/\R=(nT pl s.last>>=λ_=>mP fi iC k (s.c+1) d mk) H/\H.hH (some d)=true):=by
           refine fV ?_;refine Df (aca E d) H7.out.sf bF.out HS.out rfl ?_;rintro pl H WE J N z O C;exact⟨pl,H,rfl,H7.out.step (λ_ _=>rfl) J z (Mx _ _ _ _ C) N,F.out.trans (z.pt G.heap.size),O,Mx _ _ _ _ C d Z.out⟩
          have aW:Hid (∀pl H WE,RI E f σ w n fi iC ⟨y,H,s.c+1,s.last,mk⟩ WE->KeepsFrom G.heap.size W WE->R=(nT pl s.last>>=λ_=>mP fi iC k (s.c+1) d mk) H->H.hH (some d)=true->Calls prog 175 #[pV y pl,.iface 72 (nV y s.last)] WE λe WP=>e=pE/\∃aa,RI E f σ w n fi iC ⟨y,aa,s.c+1,s.last,mk⟩ WP/\KeepsFrom G.heap.size W WP/\R=mP fi iC k (s.c+1) d mk aa/\aa.hH (some d)=true):=by
           refine fV ?_;intro pl H WE y1 y2 y3 y4;refine Df (acY E pl s.last) y1.sf y3 HS.out rfl ?_;rintro a8 aa WP J N z O C;exact⟨rfl,aa,y1.step (λ_ _=>rfl) J z (Mz _ _ _ _ _ C) N,y2.trans (z.pt G.heap.size),O,Mz _ _ _ _ _ C d y4⟩
          unfold nV at aV aW
          gi_region_with (first
           |(refine(rA l (callsIn_wide.2 aV.out)).mono ?_;rintro e' WE ⟨pl,H,rfl,y1,y2,y3,y4⟩;have bT:WE.cell? ⟨w.heap.size+1+1+1,0,none⟩=some (gN (y s.last)):=by {rw[fW (y1.sf.at (k:=w.heap.size+1+1+1) (v:=nV y s.last) (by simp))];rfl};have CP:=fV (aW.out pl H WE y1 y2 y3 y4);clear y1 y2 y3 y4)
           |(refine(rA l (callsIn_wide.2 CP.out)).mono ?_;rintro e' WP ⟨rfl,aa,y1,y2,y3,y4⟩;have bU:WP.cell? ⟨w.heap.size+1+1+1,0,none⟩=some (gN (y s.last)):=by {rw[fW (y1.sf.at (k:=w.heap.size+1+1+1) (v:=nV y s.last) (by simp))];rfl};have bW:=gu (y1.sf.at (k:=w.heap.size+1+1+1) (v:=nV y s.last) (by simp)) 0;have b0:=fV (y1.adi d y4 aT bo);have b1:=fV y3;have bE:=fV y2;clear y1 y2 y3 y4))
          all_goals
           gi_wp2;exact⟨bE.out.trans (b0.out.2.pt G.heap.size),_,rfl,b0.out.1,by rw[show n - (s.c+1)=k by omega];exact b1.out⟩
        .have aj:R=(kL (some e)>>=λ_=>mP fi iC k (s.c+1) s.last s.mark) P:=by
          rw[ap.out];unfold Up;rw[gJ U]
         have ae:=fV aj;rw[yd U];clear aj U ap aG
         gi_wp2_with fail
         refine rA l (callsIn_wide.2 (Df (aan E (some e)) HA.out.sf ae.out HS.out rfl ?_));rintro a bQ W2 J N z O C;have Y:=HA.out.step (λ_ _=>rfl) J z (Tt _ _ _ _ C) N;have ac:=fV Y;have bI:=fV O;have aZ:=fV (F.out.trans (z.pt G.heap.size));clear Y J N z O C HA ae F c3;gi_wp2;exact⟨aZ.out,_,rfl,ac.out,by rw[show n - (s.c+1)=k by omega];exact bI.out⟩
     rintro D s W hD hc ⟨u,Y⟩ hK;have aQ:R= .ok (s.last,s.mark) s.σ:=by
      rw[Y,show n - s.c=0 by omega];rfl
     clear Y hc
     rotate_left
     rintro D c s W hD ⟨rfl,u,aQ⟩ hK
     all_goals
      have c6:=fW (u.sf.at (k:=w.heap.size+1+1+1) (v:=nV s.g s.last) (by simp)) 0;have c7:=fW (u.sf.at (k:=w.heap.size+1+1+1+1) (v:=nV s.g s.mark) (by simp)) 0;have f6:=gu (u.sf.at (k:=w.heap.size+1+1+1) (v:=nV s.g s.last) (by simp)) 0;have f7:=gu (u.sf.at (k:=w.heap.size+1+1+1+1) (v:=nV s.g s.mark) (by simp)) 0;dsimp at c6 c7;have s6:=nQ (u.sf.at (k:=w.heap.size+1+1+1) (v:=nV s.g s.last) (by simp)) 0 (nV s.g s.last) rfl;have s7:=nQ (u.sf.at (k:=w.heap.size+1+1+1+1) (v:=nV s.g s.mark) (by simp)) 0 (nV s.g s.mark) rfl;have S6:=fV s6;have S7:=fV s7;have H1:=fV u;have bG:=fV aQ;have HD:=fV hD;have bD:=fV hK;clear u aQ hD hK s6 s7
      gi_wp2_with fail
      rename_i Kx bh;obtain⟨ah,aF⟩:∃ah:Act->gx->Prop,ah=(λa W'=>∃ba bb,a={tmps:=#[Bp E,nV f fi,nV f iC,gN w.heap.size,gN (w.heap.size+1),gN (w.heap.size+1+1),gN (w.heap.size+1+1+1),gN (w.heap.size+1+1+1+1),gN (w.heap.size+1+1+1+1+1),undef,undef,nV f iC,nV f fi,av,aw,ax,ay,vJ (w.heap.size+1+1+1+1+1+1),undef,undef,undef,undef,undef,undef,undef,undef,undef,undef,undef,undef,undef,undef,undef,undef,undef,undef,undef,undef,undef,undef,undef,undef,undef,undef,undef,undef,undef,undef,undef,undef,undef,undef,undef,undef,undef,undef,undef,undef,undef,undef,undef,undef,undef,undef,undef,undef,undef,undef,ba,bb],defers:=[{target:=Target.collected D,args:=#[]}]}/\W'=W.drew):=⟨_,rfl⟩;have aD:=fV aF;clear aF;refine yx (Q:=Exit.then ah (λ_ _ _=>False)) ?_ ?_
      .refine wpIn_wide.2 ?_;go_region
       all_goals
        show ah _ _;rw[aD.out];refine⟨_,_,rfl,?_⟩;show((W.setCell ⟨w.heap.size+1+1+1,0,none⟩ (nV s.g s.last)).setCell ⟨w.heap.size+1+1+1+1,0,none⟩ (nV s.g s.mark)).drew=W.drew;rw[S6.out,S7.out]
      .intro e a W' hq;cases e with
       |normal=>
        replace hq:ah a W':=hq;rw[aD.out]at hq;obtain⟨ba,bb,rfl,rfl⟩:=hq;show Kx _ _;dsimp only;refine bh _ _ ?_;clear bh;have c6:W.drew.cell? ⟨w.heap.size+1+1+1,0,none⟩=some (nV s.g s.last):=c6;gi_wp2;have bf:W.drew.heap[D]?=some (.deferred (some [])):=bD.out;refine⟨by simp,.inl ⟨_,_,rfl,oY bf,?_⟩⟩;have hD:=HD.out;have h7:=H1.out.k0 ((Kept.refl _ W).drew);have d6:(W.drew.putObj D (.deferred none)).cell? ⟨w.heap.size+1+1+1,0,none⟩=some (nV s.g s.last):=(zq W.drew (by omega)).trans c6;have d7:(W.drew.putObj D (.deferred none)).cell? ⟨w.heap.size+1+1+1+1,0,none⟩=some (nV s.g s.mark):=(zq W.drew (by omega)).trans c7;refine⟨.tuple #[nV s.g s.last,nV s.g s.mark],by simp[results,results373,asAddr,Result.andThen,go_sem,d6,d7],?_⟩;rw[bG.out];have⟨L,hLe,hr,_⟩:=h7.sf;exact⟨⟨s.g,h7.ex,h7.nl,rfl,⟨L,hLe,hr.ac0 bf rfl (by omega)⟩,h7.fr.take (by omega) _⟩,λr c2 bO=>by cases bO;exact⟨h7.ll,h7.ml⟩⟩
       |_=>exact hq.elim
    |_=>exact hq.elim
  |_=>exact hq.elim
end
def ToK (E:Env) (L:Loc) (i:Nat) (σ':Ab) (w w':gx):Prop:=∃a,a.gS=L.gS/\(∀x,x≠i->a.kv x=L.kv x)/\Rel E a σ' w'/\Fr E.bs w w'
theorem Rel.aep {σ σ':Ab} (h:Rel E L σ w) (i:Nat) (l:gQ) (H:(σ.ij i).isSome=true) (U:KT E.bs [140,142,284] w w') (N:l.ownBlock=(L.kv i).ownBlock\/∀g,l.ownBlock=some g->w.heap.size<=g)
  (d:σ'.nodes.length=σ.nodes.length) (K:∀j P,σ'.ij j=some P->∃e,σ.ij j=some e/\P.name=e.name) (F:∀j,σ'.ij j=none->σ.ij j=none)
  (O:∀j V,σ'.nodes[j]?=some V->lx E.bs {L with kv:=λx=>if x=i then l else L.kv x} w' j V) (wf:Wf σ')
  (s0:σ'.gG=σ.gG:=by rfl) (s9:σ'.act=σ.act:=by rfl) (s1:σ'.head=σ.head:=by rfl) (s2:σ'.form=σ.form:=by rfl) (s3:σ'.mode=σ.mode:=by rfl) (s4:σ'.kept=σ.kept:=by rfl) (s5:σ'.iT=σ.iT:=by rfl) (s6:σ'.jV=σ.jV:=by rfl) (s7:σ'.gS=σ.gS:=by rfl) (s8:σ'.behind=σ.behind:=by rfl) (sw:σ'.waiting=σ.waiting:=by rfl) (so:σ'.nJ=σ.nJ:=by rfl) (sp:σ'.iY=σ.iY:=by rfl) (sf:σ'.fresh=σ.fresh:=by rfl) (X:σ'.qv=σ.qv:=by rfl) (Y:σ'.rZ=σ.rZ:=by rfl) (Z:σ'.pG=σ.pG:=by rfl):ToK E L i σ' w w':=by
 have I:=Ab.mq (σ:=σ) (i:=i) H;have R:∀j g,j < σ.nodes.length->j≠i->l.ownBlock=some g->(L.kv j).ownBlock≠some g:=by
  intro j g p u hg z;rcases N with e|e
  .rw[e]at hg;exact h.BT i j g I p (ye u) hg z
  .have⟨c,m,hc⟩:=h.zF p z
   grind
 refine⟨{L with kv:=λx=>if x=i then l else L.kv x},rfl,λx hx=>gV hx,h.VX (L':={L with kv:=λx=>if x=i then l else L.kv x}) U (λ_ _=>rfl) rfl rfl rfl O h.inj ?_ ?_ ?_ ?_ wf ?_ (nW d) s0 s9 s1 s2 s3 s4 s5 s6 s7 s8 sw so sp X Y Z,U.fr (by decide)⟩
 .intro a b g G y q hg;rw[d]at G y
  by_cases h1:a=i
  .grind
  .simp only[gV h1]at hg
   by_cases h2:b=i
   .grind
   .simp only[gV h2];exact h.BT a b g G y q hg
 .intro j p J;rw[d]at p;have C:=F j J;have u:j≠i:=by rintro rfl;rw[C]at H;cases H
  simp only[gV u];exact h.GM j p C
 .intro a b e g G a0 y q hg;rw[d]at y;have⟨e0,h0,hnm'⟩:=K a e G;exact h.uq a b e0 g h0 (by grind) y q hg
 .intro j p J;rw[d]at p;exact h.Fk j p (F j J)
 .rw[d,sf];exact h.DH
theorem X7 {σ:Ab} (h:Rel E L σ w) (y:σ.ij i=some ei) (F:σ.ij j=some ej) (z:j≠i) (hn:n<=ei.kids.length) (hl:ei.kids.length < 1048576):
  Calls prog 175 #[place (L.gS i) n,(Nd.el (L.gS j)).val] w λe w'=>e=pE/\ToK E L i ((σ.ig i {ei with kids:=ins ei.kids n (.el j)}).ig j {ej with jl:=some i}) w w':=by
 have u:=Ab.iq y;have K:=Ab.iq F;have p:(σ.ij i).isSome=true:=by rw[y];rfl
 have H:(σ.ij j).isSome=true:=by rw[F];rfl
 have V:=h.wV y;have lI:=h.AC y;have aJ:=h.wV F;have lJ:=h.AC F;refine(Um E.bs _ n _ _ _ _ _ _ _ _ _ _ _ w (h.vB y) (h.vB F) (λe=>z (h.inj _ _ e)) (λg hg=>h.BT j i g K u z hg) (by grind) (by grind) h.bw).mono ?_;rintro e w' ⟨rfl,⟨C,U,X⟩,E2,P⟩;have O:∀s∈L.gS j::L.gS i::(L.kv i).ownBlock.toList,∃x∈[j,i],s=L.gS x\/(L.kv x).ownBlock=some s:=by
  intro s I;rcases List.mem_cons.1 I with rfl|I
  .simp
  rcases List.mem_cons.1 I with rfl|I
  .simp
  .grind
 have R:=h.ktJ [j,i] (by grind) O P;have J:((σ.ig i {ei with kids:=ins ei.kids n (.el j)}).ij j).isSome=true:=by rw[Ab.iU z];exact H
 have G:∀x e,x < σ.nodes.length->zn w (L.av x) e->zn w' (L.av x) e:=λx e _ Z=>R.row Z (by decide);refine⟨rfl,h.aep i C p R X (by simp[Ab.ig]) ?_ ?_ ?_ ?_⟩
 .intro x e' a
  by_cases l:x=j
  .subst l;rw[Ab.jd (by grind[Ab.ig])]at a;grind
  .rw[Ab.iU l]at a
   by_cases d:x=i
   .subst d;rw[Ab.jd u]at a;grind
   .rw[Ab.iU d]at a;grind
 .intro x a
  by_cases l:x=j
  .subst l;rw[Ab.jd (by grind[Ab.ig])]at a;cases a
  .rw[Ab.iU l]at a
   by_cases d:x=i
   .subst d;rw[Ab.jd u]at a;cases a
   .rwa [Ab.iU d]at a
 .intro x nd a;rcases Ab.oF a with⟨rfl,rfl⟩|⟨l,a⟩
  .grind[lx]
  .rcases Ab.oF a with⟨rfl,rfl⟩|⟨d,a⟩
   .show El E.bs w' _ _ _ _ (if x=x then C else L.kv x) _/\_;rw[gJ rfl];refine⟨?_,G x _ u V,lI⟩;show El E.bs w' (L.gS x) ei.name (L.av x) (iG L.gS ei.jl) C ((ins ei.kids n (.el j)).map (Nd.map L.gS));rw[Eg];exact U
   .have Y:=h.ir [j,i] (by grind) O P a (by grind);have N:x < σ.nodes.length:=(List.getElem?_eq_some_iff.1 a).1;exact Y.ext (σ:=σ) (Ge.refl _ _) N rfl (gV d) (h.wfn a)
 .refine(h.wf.ig (e:={ei with kids:=ins ei.kids n (.el j)}) p (h.wf.jl i ei y) ?_).ig J ?_ ?_
  .intro k q;rcases Eh q with q|rfl
   .exact h.wf.kids i ei y k q
   .exact H
  .rw[Ab.qX p];exact p
  .intro k q;rw[Ab.lA p];exact h.wf.kids j ej F k q
theorem X9 {σ:Ab} (h:Rel E L σ w) {k : Nd} (g:σ.ij i=some ei) (P:σ.jo k=true) (K:∀j,k≠ .el j) (U:n<=ei.kids.length) (R:ei.kids.length < 1048576):
  Calls prog 175 #[place (L.gS i) n,(Nd.map L.gS k).val] w λe w'=>e=pE/\ToK E L i (σ.ig i {ei with kids:=ins ei.kids n k}) w w':=by
 have q:=Ab.iq g;have p:(σ.ij i).isSome=true:=by rw[g];rfl
 have H:=h.wV g;have N:=h.AC g;refine(aaB E.bs _ n _ _ _ _ _ (Nd.map L.gS k) w (h.vB g) (by grind) (by grind) h.bw (λj e=>by cases k<;>simp[Nd.map]at e;grind)).mono ?_;rintro e w' ⟨rfl,⟨l,G,I⟩,u⟩;have z:∀s∈L.gS i::(L.kv i).ownBlock.toList,∃x∈[i],s=L.gS x\/(L.kv x).ownBlock=some s:=by
  intro s C;rcases List.mem_cons.1 C with rfl|C
  .simp
  .grind
 have F:=h.ktJ [i] (by grind) z u;refine⟨rfl,h.aep i l p F I (by simp[Ab.ig]) ?_ ?_ ?_ ?_⟩
 .intro x O a
  by_cases d:x=i
  .subst d;rw[Ab.jd q]at a;grind
  .rw[Ab.iU d]at a;grind
 .intro x a
  by_cases d:x=i
  .subst d;rw[Ab.jd q]at a;cases a
  .rwa [Ab.iU d]at a
 .intro x V a;rcases Ab.oF a with⟨rfl,rfl⟩|⟨d,a⟩
  .show El E.bs w' _ _ _ _ (if x=x then l else L.kv x) _/\_;rw[gJ rfl];refine⟨?_,F.row H (by decide),N⟩;show El E.bs w' (L.gS x) ei.name (L.av x) (iG L.gS ei.jl) l ((ins ei.kids n k).map (Nd.map L.gS));rw[Eg];exact G
  .have J:=h.ir [i] (by grind) z u a (by grind);have y:x < σ.nodes.length:=(List.getElem?_eq_some_iff.1 a).1;exact J.ext (σ:=σ) (Ge.refl _ _) y rfl (gV d) (h.wfn a)
 .refine h.wf.ig p (h.wf.jl i ei g) ?_;intro x a;rcases Eh a with a|rfl
  .exact h.wf.kids i ei g x a
  omega
attribute [local go_sem] Oper.semAt_some
def TO (dst:Nat) (k:Nd) (r:List Nd):yQ dst (k::r)=(jC dst>>=λa=>(FQ a k>>=λ_=>yQ dst r)):=rfl
theorem Xi (E:Env) {σ:Ab} {dst : Nat} (u:b≠dst) {z : Ak} (G:σ.ij b=some z) {k : Nd} {r : List Nd} {F:Type} {K:Unit->M F} {R:qI F} (a:R=(yQ dst (k::r)>>=K) σ) (y:R≠ .stuck) (C:σ.jo k=true):
  ∃d l,σ.ij dst=some d/\R=(yQ dst r>>=K) l/\(∃p,l.ij b=some p/\p.kids=z.kids)/\l.nodes.length=σ.nodes.length/\
   ∀(L:Loc) (w:gx),Rel E L σ w->Calls prog 175 #[place (L.gS dst) d.kids.length,(Nd.map L.gS k).val] w (λe w'=>e=pE/\ToK E L dst l w w'):=by
 rw[TO,M.gE,M.gE]at a;unfold jC at a;cases hd:σ.ij dst with
 |none=>rw[hd]at a;exact absurd a y
 |some d=>
  rw[hd]at a;dsimp only at a;rw[M.gE]at a;cases k with
  |el j=>
   unfold FQ nT at a;dsimp only at a;cases hj:σ.ij j with
   |none=>rw[hd,hj]at a;exact absurd a y
   |some ej=>
    rw[hd,hj]at a;dsimp only at a
    by_cases g:j≠dst/\d.kids.length<=d.kids.length/\d.kids.length < 1048576
    .rw[gJ g]at a;refine⟨d,_,rfl,?_,?_,?_,λL w h=>X7 h hd hj g.1 g.2.1 g.2.2⟩
     .rw[a,M.gE]
     .by_cases x:b=j
      .subst x;rw[Ab.jd (by rw[Ab.oc];exact Ab.iq hj)]
       grind
      .rw[Ab.iU x,Ab.iU u]
       grind
     simp[Ab.ig]
    .rw[gV g]at a;exact absurd a y
  |_=>
   unfold FQ Aw at a;dsimp only at a;rw[hd]at a;dsimp only at a
   by_cases g:d.kids.length < 1048576
   .rw[gJ ⟨C,gW _,g⟩]at a;refine⟨d,_,rfl,?_,?_,?_,λL w h=>X9 h hd C (by simp) (gW _) g⟩
    .rw[a,M.gE]
    .rw[Ab.iU u]
     grind
    simp[Ab.ig]
   .rw[gV (λq=>g q.2.2)]at a;exact absurd a y
theorem Rel.aeO {σ:Ab} (h:Rel E L σ w) (l:σ.ij i=some ei):To E L (σ.ig i {ei with kids:=[]}) w (w.setCell ⟨L.gS i,3,none⟩ (jc)):=by
 have q:=Ab.iq l;have p:(σ.ij i).isSome=true:=by rw[l];rfl
 have G:=h.wV l;have J:=h.AC l;have y:=h.vB l;have C:Kept [L.gS i] w (w.setCell ⟨L.gS i,3,none⟩ (jc)):=(Kept.refl _ w).setCell (.inl (by simp)) _;have z:∀s∈[L.gS i],∃x∈[i],s=L.gS x\/(L.kv x).ownBlock=some s:=by
  intro s I;exact⟨i,by simp,.inl (List.mem_singleton.1 I)⟩
 have F:=h.ktJ [i] (by grind) z C;refine h.adh i (jc) p F (.inr (by intro g hg;cases hg)) (by simp[Ab.ig]) ?_ ?_ ?_ ?_
 .intro x K d
  by_cases a:x=i
  .subst a;rw[Ab.jd q]at d;grind
  .rw[Ab.iU a]at d;grind
 .intro x d
  by_cases a:x=i
  .subst a;rw[Ab.jd q]at d;cases d
  .rwa [Ab.iU a]at d
 .intro x N d;rcases Ab.oF d with⟨rfl,rfl⟩|⟨a,d⟩
  .show El E.bs _ _ _ _ _ (if x=x then (jc)else L.kv x) _/\_;rw[gJ rfl];refine⟨⟨gm y.iC 3 _,?_,by simp,y.U0⟩,F.row G (by decide),J⟩;exact⟨rfl,.inl ⟨rfl,rfl⟩⟩
  .have H:=h.ir [i] (by grind) z C d (by grind);have u:x < σ.nodes.length:=(List.getElem?_eq_some_iff.1 d).1;exact H.ext (σ:=σ) (Ge.refl _ _) u rfl (gV a) (h.wfn d)
 .refine h.wf.ig p (h.wf.jl i ei l) ?_;simp
def ach (b:Nat):Unit->M Unit:=λ_ a=>match a.ij b with
 |some eb'=> .ok () (a.ig b {eb' with kids:=[]})
 |none=> .stuck
theorem TP {σ:Ab} (h:RF E f σ w) (b dst:Nat) (hs:handOver b dst σ≠ .stuck):Calls prog 375 #[nV f b,nV f dst] w (kE E f σ.nodes.length w (handOver b dst σ) uV):=by
 obtain⟨R,q⟩:∃R,R=handOver b dst σ:=⟨_,rfl⟩;rw[<-q]at hs|-;obtain⟨L,rfl,I⟩:=h;obtain⟨a,HB⟩:∃a,σ.ij b=some a:=by
  cases hq:σ.ij b with
  |some a=>simp
  |none=>unfold handOver at q;grind
 have J:b≠dst:=by
  intro e;unfold handOver at q;rw[HB]at q;dsimp only at q;rw[gJ e]at q;exact absurd q hs
 have HR:R=(yQ dst a.kids>>=ach b) σ:=by
  unfold handOver at q;rw[HB]at q;dsimp only at q
  rwa [gV J]at q
 have N:=I.vB HB;have c3:=fW N.iC 3;dsimp at c3;have Y:=N.le;rw[Cy]at Y;have⟨ao,cap,hkv⟩:=gF N.row;rw[Cy]at hkv;rw[hkv]at c3;obtain⟨n,hn⟩:∃n,n=a.kids.length:=⟨_,rfl⟩;have HN:=fV hn;rw[<-hn]at c3 Y;have H:=fV hkv;have HS:=hs;have HE:=fV N;have af:=I.fr.size;have ab:=iX N.iC;clear hn hkv N;go_enter func375,ntmps375
 go_wp21
 go_loopw [11] (λv wr=>∃(i:Nat) (K:Loc) (l:Ab) (p:Ak),v=gh i/\i<=n/\K.gS=L.gS/\K.kv b=L.kv b/\Rel E K l wr/\l.ij b=some p/\p.kids=a.kids/\l.nodes.length=σ.nodes.length/\Fr E.bs w wr/\R=(yQ dst (a.kids.drop i)>>=ach b) l) (λv _=>n - (intOf v).toNat)
 case atStart=>exact⟨0,L,σ,a,rfl,iN _,rfl,rfl,I,HB,rfl,rfl,Fr.refl _,HR⟩
 case round=>
  obtain⟨i,K,l,p,rfl,hi,d,G,x,u,V,X,F,C⟩:=hrel;have z:=x.vB u;rw[G,V]at z
  by_cases a9:i < n
  .have h2:i < a.kids.length:=by rw[<-HN.out];exact a9
   have a7:a.kids.drop i=a.kids[i]::a.kids.drop (i+1):=DD h2;rw[a7]at C;have U:l.jo a.kids[i]=true:=x.wf.kids b p u _ (by grind);have⟨ed,σ2,hd,HR3,⟨eb2,HB2,hkk2⟩,hl2,hput⟩:=Xi E J u C HS U;obtain⟨g,a6⟩:∃g,ao=some ⟨g,0,none⟩:=by
    rcases HE.row.2 with⟨e,h0⟩|⟨g,aa,ag,e,_⟩
    .grind
    .rw[H.out]at e;grind
   subst a6;have hc:wr.cell? ⟨g,i,none⟩=some (Nd.map L.gS a.kids[i]).val:=by
    have:=z.row.cells (g:=g) (by rw[H.out];rfl) i (Nd.map K.gS a.kids[i]).val (by simp[h2]);rw[jg]at this;rw[<-d]
    simpa using this
   obtain⟨ty,y,Z, -, -⟩:=MT (Nd.map L.gS a.kids[i]) wr;have C1:=Sh x hd;have C2:=(λ(W:gx) (hk:Kept [] wr W)=>hput K W (x.io hk));rw[d]at C1 C2;rw[Z]at hc C2;have ad:=hkk2.trans V;have ae:=hl2.trans X;have a1:=fV F;have a0:=fV d;have a2:=fV G;clear F G d;generalize ed.kids.length=m at *
   go_wp21
   refine C1.mono ?_;rintro e W2 ⟨rfl, -,O⟩;have C3:=C2 W2 O
   go_wp21
   refine C3.mono ?_;rintro e W3 ⟨rfl,L2,q1,q2,Q3,q4⟩;have ac:=(a1.trans (Fr.gU O)).trans q4;have Q1:=q1.trans a0;have Q2:=(q2 b J).trans a2;go_wp2;go_roundw
   case rel=>grind
   case measure=>simp[intOf];omega
  .have he:a.kids.drop i=[]:=Hk (by rw[<-HN.out];omega);rw[he]at C;have P:R= .ok () (l.ig b {p with kids:=[]}):=by
    rw[C,M.gE];show ach b () l=_;unfold ach;rw[u]
   have⟨L3,HP1,HP2,p3⟩:=x.aeO u;rw[d]at HP1 HP2 p3;have c4:wr.cell? ⟨L.gS b,3,none⟩=some (.slice ao n cap):=by rw[<-d,fW z.iC,H.out,<-HN.out];rfl
   have a8:=gu z.iC 3;rw[d]at a8;have a4:=F.trans p3;have a5:=fV P;have a3:=fV X;clear G d P F;go_wp2;go_end0;rw[a5.out];exact⟨rfl,⟨L3,HP1,HP2⟩,a4,by rw[Ab.oc,a3.out];simp⟩
attribute [local go_sem] Oper.semAt_some
theorem Wy {g:Type} {σ:Ab} {R:qI g} {K:Nat->M g} (a:R=(ahead fi>>=K) σ) (u:R≠ .stuck):∃i,iE σ.gG (posOf σ.gG (some fi) - 1)=some i/\R=K i σ/\some fi∈σ.gG:=by
 rw[M.gE]at a;unfold ahead at a;cases hq:iE σ.gG (posOf σ.gG (some fi) - 1)with
 |none=>grind
 |some i=>
  rw[hq]at a;refine⟨i,rfl,a,?_⟩;rcases tD σ.gG (some fi)with⟨l,d⟩|⟨m,d,h,q,p⟩
  .rw[d]at hq;cases hq
  grind
theorem Sq {σ σ':Ab} {a : Unit} (h:mW j σ= .ok a σ'):σ'.nodes.length=σ.nodes.length:=by
 unfold mW at h;split at h
 .cases h
 .split at h
  .grind
  .split at h
   .cases h
   .split at h
    .cases h;simp[Ab.ig]
    grind
theorem XL {pl : Nat×Nat} {σ σ':Ab} {a : Unit} (h:nT pl j σ= .ok a σ'):σ'.nodes.length=σ.nodes.length:=by
 unfold nT at h;split at h
 .split at h
  .cases h;simp[Ab.ig]
  grind
 grind
def ON {σ σ':Ab} {a : Nat×Nat} (h:placeFor i σ= .ok a σ'):σ'.nodes.length=σ.nodes.length:=by
 unfold placeFor at h;split at h
 .rw[pk h]
 .rw[pQ h]
def At.nv {a : Nat} {σ:Ab} (h:At E f0 a w0 f σ w) (d:i < a):nV f i=nV f0 i:=by unfold nV;rw[h.ext i d]
def Xz {d:Ab} (h:RF E f0 d w0) (fi iC:Nat) (J:(d.ij fi).isSome=true) (I:some iC∈d.gG) (V:tW fi iC d≠ .stuck):
  Calls prog 354 #[Bp E,nV f0 fi,nV f0 iC] w0 (Leaves E f0 d.nodes.length w0 (tW fi iC d) uV):=by
 have C:fi < d.nodes.length:=Ab.mq (σ:=d) (i:=fi) J;have y:iC < d.nodes.length:=Ab.mq (σ:=d) (i:=iC) (h.wf.gG _ I);obtain⟨R,O⟩:∃R,R=tW fi iC d:=⟨_,rfl⟩;rw[<-O]at V|-;unfold tW at O;have HS:=V;have H:=fV (At.start h);have a:=fV O;have U:=(λG=>aaI h fi iC J I G);clear h V O J I;go_enter func354,ntmps354
 go_wp21
 have G:xn fi iC d≠ .stuck:=λe=>HS (by rw[a.out,M.gE,e]);refine(U G).mono ?_;rintro e w1 ⟨F,K⟩;have u:=a;rw[M.gE]at u;cases hr:xn fi iC d with
 |stuck=>exact absurd hr G
 |stop c p=>
  rw[hr]at F u;obtain⟨j,rfl,H2,H3⟩:=F;have H1:=fV u;clear u hr G K U a;go_wp2;exact⟨rfl,pJ H1 H2 H3⟩
 |ok r q=>
  have⟨last,mark⟩:=r;have⟨hll,l⟩:=K _ _ hr;rw[hr]at F u;obtain⟨f,Y,Z,rfl,h4,h5⟩:=F;replace H:=fV (show At E f0 d.nodes.length w0 f q w1 from⟨h4,Y,Z,h5,H.hw⟩);replace a:=fV u;obtain⟨w,hw⟩:∃w,w=w1:=⟨_,rfl⟩;rw[<-hw]at H|-;clear Y Z h4 h5 u hr G K U hw;dsimp only at hll l a;have N:=H.lt
  go_wp21
  refine mE (Yd E last) H a HS rfl lT ?_;clear H a;rintro(_) q w H z a x;replace x:=x;replace l:mark < q.nodes.length:=by rw[Sq x];exact l
  clear x;have N:=H.lt;have⟨ia,ha,hR2,hin⟩:=Wy a HS;have P:=H.rel.aeH (some fi) (Ab.wC (H.rel.wf.gG _ hin));rw[ha,show oV f (some fi)=nV f0 fi from H.out.nv C]at P;replace a:=fV hR2;clear hR2 ha hin
  go_wp21
  refine P.mono ?_;rintro e w_ ⟨rfl,rfl⟩;clear P
  go_wp21
  refine mE (J7 E (iO E) ia) H a HS rfl lT ?_;clear H a;rintro(pl) q w H z a x;replace x:=x;replace l:mark < q.nodes.length:=by rw[ON x];exact l
  clear x
  go_wp21
  refine mE (ED E pl last) H a HS rfl lT ?_;clear H a;rintro(_) q w H z a x;replace x:=x;replace l:mark < q.nodes.length:=by rw[XL x];exact l
  clear x
  go_wp21
  refine dC (Mn E fi) H a HS ((by show #[nV f fi]=_;rw[H.out.nv C])) lT ?_;clear H a;rintro(g) f q w H HX z a;have a0:=HX mark l
  go_wp21
  refine Be (λG=>(show Calls prog 375 #[nV f0 iC,nV f g] w (kE E f q.nodes.length w (handOver iC g q) uV)from by rw[<-H.out.nv y];exact TP H.rel iC g G)) H a HS lT ?_;clear H a;rintro(_) q w H z a;have N:=H.lt
  go_wp21
  refine mC (Gx E iC) H a HS ((by show #[nV f iC]=_;rw[H.out.nv y])) lT ?_;clear H a;rintro(X) q w H z a
  go_wp21
  refine mC (ED E X g) H a HS rfl lT ?_;clear H a;rintro(_) q w H z a;have N:=H.lt
  go_wp21
  refine mC (NE E (some mark) (some g)) H a HS ((by show #[_,nV f mark,nV f g]=_;simp)) lT ?_;clear H a;rintro(_) q w H z a;have N:=H.lt
  go_wp21
  refine mC (DL E (some fi)) H a HS ((by show #[_,nV f fi]=_;rw[H.out.nv C])) lT ?_;clear H a;rintro(_) q w H z a;have N:=H.lt
  go_wp21
  refine mC (EA E (some fi)) H a HS ((by show #[_,nV f fi]=_;rw[H.out.nv C])) lT ?_;clear H a;rintro(_) q w H z a;have N:=H.lt
  go_wp21
  refine mC (OL E (some iC) (some g)) H a HS ((by show #[_,nV f iC,nV f g]=_;rw[H.out.nv y])) lT ?_;clear H a;rintro(_) q w H z a;go_wp2;go_end0;exact gw a H rfl
attribute [local go_sem] Oper.semAt_some
def RF.ZA {g : Nat->Nat} {σ:Ab} (h:RF E g σ W) (a:σ.hH (some i)=true):(binOp .eql 72 (nV g i) (.pointer none)).run prog W= .ok (.bool false) W:=by
 obtain⟨L,rfl,hr⟩:=h;have:=Da (hr.hH a) (hr.hH (x:=none) rfl);rw[yd (by simp)]at this;exact this
theorem zG {σ:Ab}:∀{a:kV},σ.ra s a=some i->some i∈a
 |[],h=>by cases h
 |none::_,h=>by cases h
 |some k::r,h=>by
  unfold Ab.ra at h;split at h
  .grind
  .exact si _ (zG h)
theorem IZ {σ:Ab} {f : Nat}:∀{a:kV} {b:jk},σ.vQ f a b=some i->some i∈a\/b=some i
 |[],b,h=> .inr h
 |x::r,b,h=>by
  unfold Ab.vQ at h;split at h
  .grind
  .rcases IZ h with h|h
   all_goals grind
def Gn (E:Env) (s:gz):je E 326 (λ_=>#[Bp E,gH s]) (nZ s) bV:=by
 intro f u w h U;obtain⟨R,K⟩:∃R,R=nZ s u:=⟨_,rfl⟩;rw[<-K]at U|-;have G:=Et h s;have H:=At.start h;have HS:=U;have hl:=h.lt;cases hla:u.pS s with
 |none=>
  have g:R=(vD s>>=λ_=>(Pure.pure false:M Bool)) u:=by rw[K];unfold nZ;rw[hla]
  have l:=fV g;rw[hla]at G;clear h U K g hla;go_enter func326,ntmps326
  go_wp21
  refine G.mono ?_;rintro e I ⟨rfl,d⟩;replace H:=H.k0 d;clear d G
  go_wp21
  refine dC (Jk E s) H l HS rfl lT ?_;clear H l;rintro(_) f u w H HX Z l;go_wp2;go_ret;exact gw l H rfl
 |some i=>
  have z:some i∈u.act:=by have:=zG hla;simpa using this
  have x:u.hH (some i)=true:=h.wf.act _ z;rw[hla]at G;have p:=(λ(W:gx) (d:Kept [] w W)=>(h.io d).agj (some i) x);have J:=(λ(W:gx) (d:Kept [] w W)=>(h.io d).ZA x)
  by_cases O:some i∈u.gG
  .rw[wj O]at p;have y:=(λ(W:gx) (d:Kept [] w W)=>GK (h.io d) i x);have C:=(λ(W:gx) (d:Kept [] w W)=>Ln (h.io d) i x);cases hsc:u.pq i with
   |false=>
    have g:R= .ok false u:=by rw[K];unfold nZ;rw[hla];dsimp only;rw[gV (by simpa using O),hsc];rfl
    have l:=fV g;rw[hsc]at y;clear h U K g hla z x O hsc C;go_enter func326,ntmps326
    go_wp21
    refine G.mono ?_;rintro e I ⟨rfl,a⟩;replace H:=H.k0 a;have N:=p I a;have q:=J I a;clear G p;unfold nV at q
    go_wp21
    refine N.mono ?_;rintro e w_ ⟨rfl,F⟩;subst F;clear N
    go_wp21
    refine(y _ a).mono ?_;rintro e w2 ⟨rfl,d⟩;replace H:=H.k0 d;replace a:=a.trans d;clear d y q;go_wp2;go_ret;exact gw l H rfl
   |true=>
    rw[hsc]at y;cases hbb:u.qO i with
    |none=>
     have g:R=(Bi (some i)>>=λ_=>lc (some i)>>=λ_=>(Pure.pure false:M Bool)) u:=by rw[K];unfold nZ;rw[hla];dsimp only;rw[gV (by simpa using O),hsc,hbb];rfl
     have l:=fV g;rw[hbb]at C;clear h U K g hla z x O hsc hbb;go_enter func326,ntmps326
     go_wp21
     refine G.mono ?_;rintro e I ⟨rfl,a⟩;replace H:=H.k0 a;have N:=p I a;have q:=J I a;clear G p;unfold nV at q
     go_wp21
     refine N.mono ?_;rintro e w_ ⟨rfl,F⟩;subst F;clear N
     go_wp21
     refine(y _ a).mono ?_;rintro e w2 ⟨rfl,d⟩;replace H:=H.k0 d;replace a:=a.trans d;clear d y q
     go_wp21
     refine(C _ a).mono ?_;rintro e w3 ⟨rfl,d⟩;replace H:=H.k0 d;replace a:=a.trans d;clear d C;have hl:=H.lt
     go_wp21
     refine mC (aao E (some i)) H l HS rfl lT ?_;clear H l;rintro(_) u w H Z l;have hl:=H.lt
     go_wp21
     refine mC (DL E (some i)) H l HS rfl lT ?_;clear H l;rintro(_) u w H Z l;go_wp2;go_ret;exact gw l H rfl
    |some b=>
     have P:some b∈u.gG:=by
      rcases IZ (b:=none) hbb with h|h
      .simpa using h
      .cases h
     have X:u.hH (some b)=true:=Ab.wC (h.wf.gG _ P);have V:=(λ(W:gx) (d:Kept [] w W)=>(h.io d).ZA X);have g:R=(tW i b>>=λ_=>(Pure.pure true:M Bool)) u:=by rw[K];unfold nZ;rw[hla];dsimp only;rw[gV (by simpa using O),hsc,hbb];rfl
     have l:=fV g;have a0:=(λ(W:gx) (d:Kept [] w W) (hm:tW i b u≠ .stuck)=>Xz (h.io d) i b x P hm);rw[hbb]at C;clear h U K g hla z x O hsc hbb P X;go_enter func326,ntmps326
     go_wp21
     refine G.mono ?_;rintro e I ⟨rfl,a⟩;replace H:=H.k0 a;have N:=p I a;have q:=J I a;clear G p;unfold nV at q
     go_wp21
     refine N.mono ?_;rintro e w_ ⟨rfl,F⟩;subst F;clear N
     go_wp21
     refine(y _ a).mono ?_;rintro e w2 ⟨rfl,d⟩;replace H:=H.k0 d;replace a:=a.trans d;clear d y q
     go_wp21
     refine(C _ a).mono ?_;rintro e w3 ⟨rfl,d⟩;replace H:=H.k0 d;replace a:=a.trans d;clear d C;have Y:=V _ a;unfold nV at Y
     go_wp21
     refine dcH (λhm=>a0 _ a hm) H l HS lT ?_;clear H l;rintro(_) f u w H HX Z l;go_wp2;go_ret;exact gw l H rfl
  .rw[yd O]at p;have g:R=(lc (some i)>>=λ_=>(Pure.pure false:M Bool)) u:=by rw[K];unfold nZ;rw[hla];dsimp only;rw[gJ O]
   have l:=fV g;clear h U K g hla z x O;go_enter func326,ntmps326
   go_wp21
   refine G.mono ?_;rintro e I ⟨rfl,d⟩;replace H:=H.k0 d;have N:=p I d;have q:=J I d;clear d G p J;unfold nV at q
   go_wp21
   refine N.mono ?_;rintro e w_ ⟨rfl,F⟩;subst F;have hl:=H.lt
   go_wp21
   refine mC (DL E (some i)) H l HS rfl lT ?_;clear H l;rintro(_) u w H Z l;go_wp2;go_ret;exact gw l H rfl
attribute [local go_sem] Oper.semAt_some
def Gm {σ:Ab} {R : qI Unit} (h:R=tP s (k+1) σ):R=(nZ s>>=λb=>if b then tP s k else (Pure.pure ():M Unit)) σ:=h
theorem NJ (E:Env) (s:gz):je E 283 (λ_=>#[Bp E,gH s]) (xS s) uV:=by
 intro f0 a w0 h HS;obtain⟨R,O⟩:∃R,R=xS s a:=⟨_,rfl⟩;rw[<-O]at HS|-;obtain⟨i,P⟩:∃i,a.last=some i:=by
  cases hq:a.last with
  |some i=>simp
  |none=>unfold xS at O;grind
 have⟨ei,hei⟩:=h.wf.JM P;have N:a.hH (some i)=true:=by show(a.ij i).isSome=true;rw[hei];rfl
 have I:=h.QY;rw[P]at I;have c0:w0.cell? ⟨f0 i,0,none⟩=some (gH (a.nm i)):=by
  obtain⟨L,rfl,hr⟩:=h;exact hr.vW hei
 have C:=h.agi (some i) N;have H:=At.start h;have hl:=h.lt;have a0:f0 i < w0.heap.size:=by
  obtain⟨L,rfl,hr⟩:=h;exact hr.IV (Ab.iq hei)
 have q:R=if la (a.nm i) s&&!decide (some i∈a.act)then (yW>>=λ_=>(Pure.pure ():M Unit)) a else tP s 8 a:=by
  rw[O];unfold xS;rw[P]
 clear h O P hei N;cases hq:la (a.nm i) s with
 |false=>
  rw[hq]at q;have d:=fV (show R=tP s 8 a from q);have Z:((a.nm i).toList==s.toList)=false:=hq;clear q hq C;go_enter func283,ntmps283
  go_wp21
  refine I.mono ?_;rintro e U ⟨rfl,x⟩;have u:=x.symm;subst u;clear I;rw[show oV f0 (some i)=gN (f0 i)from rfl]
  go_wp21
  go_loopw [27] (λv wr=>∃(k:Nat) (g:Nat->Nat) (G:Ab),v=gh k/\k<=8/\At E f0 a.nodes.length w0 g G wr/\R=tP s (8 - k) G) (λv _=>8 - (intOf v).toNat)
  case atStart=>exact⟨0,f0,a,rfl,by omega,H,d⟩
  case round=>
   obtain⟨k,f,y,rfl,X,l,z⟩:=hrel;have Y:a.nodes.length<=y.nodes.length:=l.le
   by_cases hk:k < 8
   .have F:=Gm (R:=R) (σ:=y) (s:=s) (k:=7 - k) (by grind);replace H:=l;replace d:=fV F;clear l z F;obtain⟨w,K⟩:∃w,w=wr:=⟨_,rfl⟩;rw[<-K]at H|-;clear K
    go_wp21
    refine dC (Gn E s) H d HS rfl lT ?_;clear H d;rintro(b) f y w H HX HF d;cases b with
    |false=>
     replace d:Hid (R=(Pure.pure ():M Unit) y):=d;go_wp2;go_end0;exact gw d H rfl
    |true=>
     have J:Hid (R=tP s (7 - k) y):=d;go_wp2;go_roundw
     case rel=>exact⟨k+1,f,y,by go_num,by omega,H,by rw[show 8 - (k+1)=7 - k by omega];exact J⟩
     case measure=>simp[intOf];omega
   .have V:k=8:=by omega
    subst V;replace H:=l;replace d:=fV (show R=(Pure.pure ():M Unit) y from z);clear l z;go_wp2;go_end0;exact gw d H rfl
 |true=>
  have Z:((a.nm i).toList==s.toList)=true:=hq
  by_cases p:some i∈a.act
  .rw[hq,wj p]at q;have d:=fV (show R=tP s 8 a from q);rw[wj p]at C;clear q hq p;go_enter func283,ntmps283
   go_wp21
   refine I.mono ?_;rintro e U ⟨rfl,x⟩;have u:=x.symm;subst u;clear I;rw[show oV f0 (some i)=gN (f0 i)from rfl]
   go_wp21
   refine C.mono ?_;rintro e U ⟨rfl,x⟩;have u:=x.symm;subst u
   go_wp21
   go_loopw [27] (λv wr=>∃(k:Nat) (g:Nat->Nat) (G:Ab),v=gh k/\k<=8/\At E f0 a.nodes.length w0 g G wr/\R=tP s (8 - k) G) (λv _=>8 - (intOf v).toNat)
   case atStart=>exact⟨0,f0,a,rfl,by omega,H,d⟩
   case round=>
    obtain⟨k,f,y,rfl,X,l,z⟩:=hrel;have Y:a.nodes.length<=y.nodes.length:=l.le
    by_cases hk:k < 8
    .have F:=Gm (R:=R) (σ:=y) (s:=s) (k:=7 - k) (by grind);replace H:=l;replace d:=fV F;clear l z F;obtain⟨w,K⟩:∃w,w=wr:=⟨_,rfl⟩;rw[<-K]at H|-;clear K
     go_wp21
     refine dC (Gn E s) H d HS rfl lT ?_;clear H d;rintro(b) f y w H HX HF d;cases b with
     |false=>
      replace d:Hid (R=(Pure.pure ():M Unit) y):=d;go_wp2;go_end0;exact gw d H rfl
     |true=>
      have J:Hid (R=tP s (7 - k) y):=d;go_wp2;go_roundw
      case rel=>exact⟨k+1,f,y,by go_num,by omega,H,by rw[show 8 - (k+1)=7 - k by omega];exact J⟩
      case measure=>simp[intOf];omega
    .have V:k=8:=by omega
     subst V;replace H:=l;replace d:=fV (show R=(Pure.pure ():M Unit) y from z);clear l z;go_wp2;go_end0;exact gw d H rfl
  .rw[hq,yd p]at q;have d:=fV (show R=(yW>>=λ_=>(Pure.pure ():M Unit)) a from q);rw[yd p]at C;clear q hq p;go_enter func283,ntmps283
   go_wp21
   refine I.mono ?_;rintro e U ⟨rfl,x⟩;have u:=x.symm;subst u;clear I;rw[show oV f0 (some i)=gN (f0 i)from rfl]
   go_wp21
   refine C.mono ?_;rintro e U ⟨rfl,x⟩;have u:=x.symm;subst u
   go_wp21
   obtain⟨w,K⟩:∃w,w=w0:=⟨_,rfl⟩;refine mC (Dm E) H d HS rfl lT ?_;clear H d;rintro(_) y w H HF d;go_wp2;go_end0;exact gw d H rfl
attribute [local go_sem] Oper.semAt_some
def aaf (g:Nat->Nat) (i:Nat) (W:gx):(binOp .neq 72 (nV g i) (.pointer none)).run prog W= .ok (.bool true) W:=run_neq_pointer_nil (P:=prog) W 72 (some ⟨g i,0,none⟩) Jh
def Sa (E:Env) (t:gO) (K:ji E t):je E 205 (λ_=>#[Bp E,iJ E t]) (rT t) uV:=by
 intro f0 d w0 h C;obtain⟨R,q⟩:∃R,R=rT t d:=⟨_,rfl⟩;rw[<-q]at C|-;have p:=Et h uo;have H:=fV (At.start h);have HS:=C;have J:=h.lt;cases hla:d.pS uo with
 |none=>
  have g:R=(ja t>>=λ_=>(Pure.pure ():M Unit)) d:=by rw[q];unfold rT;rw[hla]
  have a:=fV g;rw[hla]at p;clear h C q g hla;go_enter func205,ntmps205
  go_wp21
  refine p.mono ?_;rintro e w ⟨rfl,y⟩;replace H:=fV (H.k0 y);clear y p
  go_wp21
  refine dC (oO E t K) H a HS rfl lT ?_;clear H a;rintro(_) f F w H I z a;go_wp2;go_end0;exact gw a H rfl
 |some i=>
  have l:some i∈d.act:=by have:=zG hla;simpa using this
  have u:d.hH (some i)=true:=h.wf.act _ l;have x:i < d.nodes.length:=Ab.mq (σ:=d) (i:=i) u;have g:R=(xS uo>>=λ_=>lc (some i)>>=λ_=>kL (some i)>>=λ_=>ja t>>=λ_=>(Pure.pure ():M Unit)) d:=by rw[q];unfold rT;rw[hla]
  have a:=fV g;rw[hla]at p;clear h C q g hla l u;go_enter func205,ntmps205
  go_wp21
  refine p.mono ?_;rintro e w ⟨rfl,y⟩;replace H:=fV (H.k0 y);have G:=aaf f0 i w;clear y p;unfold nV at G;rw[show oV f0 (some i)=gN (f0 i)from rfl]
  go_wp21
  refine dC (NJ E uo) H a HS rfl lT ?_;clear H a;rintro(_) f F w H I z a;have J:=H.lt
  go_wp21
  refine mC (DL E (some i)) H a HS ((by show #[_,nV f i]=_;rw[H.out.nv x])) lT ?_;clear H a;rintro(_) F w H z a;have J:=H.lt
  go_wp21
  refine mC (EA E (some i)) H a HS ((by show #[_,nV f i]=_;rw[H.out.nv x])) lT ?_;clear H a;rintro(_) F w H z a
  go_wp21
  refine dC (oO E t K) H a HS rfl lT ?_;clear H a;rintro(_) f F w H I z a;go_wp2;go_end0;exact gw a H rfl
def Hp (E:Env) (t:gO):je E 217 (λ_=>#[Bp E,iJ E t]) (qo t) uV:=by
 refine dI λf h w R a HS H=>?_;unfold qo at a;go_enter func217,ntmps217;have⟨ta,tb,tao,tn,tcp,HTG⟩:=EU E t H.rel;have d:=λw=>Br ta tb t.name tao tn tcp w
 go_wp21
 refine(HTG _).mono ?_;rintro e q ⟨rfl,g⟩;replace H:=H.k0 g
 go_wp21
 refine dC (NJ E t.name) H a HS rfl lT ?_;rintro(_) f h w H p l a;go_wp2;go_end0;exact gw a H rfl
attribute [local go_sem] Oper.semAt_some
section
variable (E:Env) (t:gO) (hG:∀i,je E 277 (λf=>#[Bp E,nV f i,iJ E t]) (xg i t) uV)
include hG
theorem TJ:je E 191 (λ_=>#[Bp E,iJ E t]) (pn t) uV:=by
 intro f d w h HS;obtain⟨R,l⟩:∃R,R=pn t d:=⟨_,rfl⟩;rw[<-l]at HS|-;obtain⟨i,q⟩:∃i,iE d.gG 0=some i:=by
  cases hq:iE d.gG 0 with
  |some i=>simp
  |none=>unfold pn at l;grind
 have a:R=(xg i t>>=λ_=>(Pure.pure ():M Unit)) d:=by rw[l];unfold pn;rw[q]
 have p:=h.atO 0;rw[q]at p;have H:=At.start h;have g:=fV a;have F:=h.lt;have y:=hG;clear h l a q hG;go_enter func191,ntmps191
 go_wp21
 refine p.mono ?_;rintro e G ⟨rfl,x⟩;have u:=x.symm;subst u;clear p
 go_wp21
 refine dC (y i) H g HS rfl lT ?_;clear H g;rintro(_) f d w H C z g;go_wp2;go_end0;exact gw g H rfl
def TI:je E 192 (λ_=>#[Bp E,iJ E t]) (qT t) uV:=by
 intro f l w h z;obtain⟨R,x⟩:∃R,R=qT t l:=⟨_,rfl⟩;rw[<-x]at z|-;have q:=h.atO 1;have H:=At.start h;have HS:=z;have P:=h.lt;have C:=hG;cases hi:iE l.gG 1 with
 |none=>
  have a:R= .ok () l:=by rw[x];unfold qT;rw[hi]
  rw[hi]at q;have u:=fV a;clear h z x a hi hG C;go_enter func192,ntmps192
  go_wp21
  refine q.mono ?_;rintro e J ⟨rfl,g⟩;have d:=g.symm;subst d;clear q;go_wp2;go_end0;exact gw u H rfl
 |some i=>
  obtain⟨ei,p⟩:∃e,l.ij i=some e:=Option.isSome_iff_exists.1 (h.wf.gG _ (BQ hi));have O:w.cell? ⟨f i,0,none⟩=some (gH (l.nm i)):=by
   obtain⟨L,rfl,hr⟩:=h;exact hr.vW p
  have I:f i < w.heap.size:=by
   obtain⟨L,rfl,hr⟩:=h;exact hr.IV (Ab.iq p)
  have y:=aaf f i w;rw[hi]at q;cases hq:la (l.nm i) gI with
  |true=>
   have a:R=(xg i t>>=λ_=>(Pure.pure ():M Unit)) l:=by rw[x];unfold qT;rw[hi];dsimp only;rw[hq];rfl
   have u:=fV a;have G:((l.nm i).toList==[98,111,100,121])=true:=by
    have F:(gI:gz).toList=[98,111,100,121]:=by first|rfl|decide|simp
    rw[<-F];exact hq
   clear h z x a hi hG hq p;unfold nV at y;go_enter func192,ntmps192
   go_wp21
   refine q.mono ?_;rintro e J ⟨rfl,g⟩;have d:=g.symm;subst d;clear q;rw[show oV f (some i)=gN (f i)from rfl]
   go_wp21
   refine dC (C i) H u HS rfl lT ?_;clear H u;rintro(_) f l w H N K u;go_wp2;go_end0;exact gw u H rfl
  |false=>
   have a:R= .ok () l:=by rw[x];unfold qT;rw[hi];dsimp only;rw[hq];rfl
   have u:=fV a;have G:((l.nm i).toList==[98,111,100,121])=false:=by
    have F:(gI:gz).toList=[98,111,100,121]:=by first|rfl|decide|simp
    rw[<-F];exact hq
   clear h z x a hi hG hq p C;unfold nV at y;go_enter func192,ntmps192
   go_wp21
   refine q.mono ?_;rintro e J ⟨rfl,g⟩;have d:=g.symm;subst d;clear q;rw[show oV f (some i)=gN (f i)from rfl];go_wp2;go_end0;exact gw u H rfl
end
def ad8 (L M:lZ):flat (L++M)=flat L++flat M:=K4 ..
structure afW (w:gx) (v:gQ) (gM:lZ) (v':gQ) (w':gx):Prop where
 row:zn w' v' gM
 kp:Kept v.ownBlock.toList w w'
 new:v'.ownBlock=v.ownBlock\/∀k,v'.ownBlock=some k->w.heap.size<=k
theorem Rel.agf {σ:Ab} {w1 : gx} (h:Rel E L σ w) (G:σ.ij i=some e) (hg:nM e.name=true) (hf:σ.fresh=true) (a:gz×gz) (a5:e.ib.length < 4096) (P:afW w (L.av i) (e.ib++[a]) v' w1):
  Rel E {L with av:=λx=>if x=i then v' else L.av x} (σ.ig i {e with ib:=e.ib++[a]}) (w1.setCell ⟨L.gS i,1,none⟩ v')/\Fr E.bs w (w1.setCell ⟨L.gS i,1,none⟩ v'):=by
 have H:=Ab.iq G;have a2:(σ.ij i).isSome=true:=by rw[G];rfl
 have⟨hEl,hAt,hAl⟩:=h.tL i _ (Ab.jr G);have N:∀g,(L.av i).ownBlock=some g->∃c m,w.heap[g]?=some (.cells c 299 m):=λg hg=>sR hAt hg;have Y:L.gS i∉(L.av i).ownBlock.toList:=by
  intro u;have a3:(L.av i).ownBlock=some (L.gS i):=by simpa using u
  exact Dt hAt hEl.iC (by decide) a3
 have b1:=P.kp.at hEl.iC Y;obtain⟨w',K⟩:∃w',w'=w1.setCell ⟨L.gS i,1,none⟩ v':=⟨_,rfl⟩;rw[<-K];have b2:w'.heap[L.gS i]?=some (gL #[gH e.name,v',kI (iG L.gS e.jl),L.kv i] 140):=by rw[K];exact gm b1 1 v'
 have J:Kept (L.gS i::(L.av i).ownBlock.toList) w w':=by rw[K];exact(P.kp.mono (λk J _=>si _ J)).setCell (.inl (by simp)) _
 have r2:zn w' v' (e.ib++[a]):=by rw[K];exact zk (a:=⟨L.gS i,1,none⟩) P.row (Dt P.row b1 (by decide)) v'
 have O:KT E.bs [140,299] w w':= .jQ J (λk J _=>by
  rcases List.mem_cons.1 J with rfl|J
  .exact⟨⟨_,_,_,hEl.iC,by simp⟩,h.bN i H⟩
  .have X:(L.av i).ownBlock=some k:=by simpa using J
   have⟨c,m,z⟩:=N k X;exact⟨⟨_,_,_,z,by simp⟩,h.ab i k H X⟩)
 have q:(σ.ig i {e with ib:=e.ib++[a]}).nodes.length=σ.nodes.length:=Ab.oc _ _ _;have V:∀j,((σ.ig i {e with ib:=e.ib++[a]}).ij j=none↔σ.ij j=none):=by
  intro j
  by_cases p:j=i
  .subst p;rw[Ab.jd H,G];simp
  .rw[Ab.iU p]
 have Z:∀j g,j < σ.nodes.length->j≠i->v'.ownBlock=some g->(L.av j).ownBlock≠some g:=by
  intro j g p l d F;rcases P.new with e1|e1
  .rw[e1]at d;exact h.uq i j e g G hg p (ye l) d F
  .have:=e1 g d;have⟨c,m,z⟩:=h.NR p F
   grind
 have⟨C,hbl,hC⟩:=h.iC;refine⟨?_,O.fr (by decide)⟩;exact
  {fr:=h.fr.trans (O.fr (by decide))
   env:=h.env
   vM:=h.vM
   tL:=by
    intro j nd p;rcases Ab.oF p with⟨rfl,rfl⟩|⟨l,p⟩
    .refine⟨⟨?_,?_,hEl.le,?_⟩,?_,?_⟩
     .grind
     .exact O.row hEl.row (by decide)
     .simp only[yy];have⟨ao,cp,hv⟩:=gF r2
      grind
     all_goals grind
    .have I:=(List.getElem?_eq_some_iff.1 p).1;have hN:lx E.bs L w' j nd:=by
      refine(h.tL j nd p).kept J ?_ ?_ ?_
      .intro u;rcases List.mem_cons.1 u with e1|u
       .exact l (h.inj _ _ e1)
       .obtain⟨c,m,z⟩:=N _ (by simpa using u);obtain⟨c',t,F,_,h3⟩:=h.NQ I
        grind
      .intro g d u;have⟨c,m,z⟩:=h.zF I d;rcases List.mem_cons.1 u with e1|u
       .rw[e1]at z;exact absurd (KP hEl.iC z) (by decide)
       grind
      .intro g d u;rcases List.mem_cons.1 u with e1|u
       .have⟨c,m,z⟩:=h.NR I d;rw[e1]at z;exact absurd (KP hEl.iC z) (by decide)
       .exact h.uq i j e g G hg I (ye l) (by grind) d
     cases nd with
     |el e'=>grind[lx]
     |tx s=>exact hN
     |cm s=>exact hN
     |dt s=>exact hN
   inj:=h.inj
   BT:=by rw[q];exact h.BT
   GM:=λj p hn=>h.GM j (by omega) ((V j).1 hn)
   uq:=by
    intro x y ex g hx a1 hy a4 h1;rw[q]at hy
    by_cases U:x=i
    .grind
    .simp only[gV U]at h1;rw[Ab.iU U]at hx
     by_cases a0:y=i
     .subst a0;simp only[yy];exact λF=>Z x g (Ab.iq hx) U F h1
     .simp only[gV a0];exact h.uq x y ex g hx a1 hy a4 h1
   Fk:=by
    intro j p hn;have R:=(V j).1 hn;have l:j≠i:=by rintro rfl;rw[G]at R;cases R
    simp only[gV l];exact h.Fk j (by omega) R
   wf:=h.wf.ig a2 (h.wf.jl i e G) (h.wf.kids i e G)
   iC:=⟨C,O.at hbl (by decide),⟨hC.size,hC.low,hC.gG,hC.act,hC.head,hC.form,hC.mode,hC.kept,hC.wait,hC.Js,hC.jV,hC.gS,hC.behind⟩⟩
   pF:=O.row h.pF (by decide)
   qu:=O.row h.qu (by decide)
   GP:=h.GP,x9:=h.x9,Fp:=h.Fp
   pC:=O.row h.pC (by decide)
   Mg:=h.Mg
   rd:=O.at h.rd (by decide)
   RU:=h.RU
   tok:=J.ownsRow h.tok (λg d u=>by
    rcases List.mem_cons.1 u with e1|u
    .have⟨c,m,z⟩:=sR h.tok d;rw[e1]at z;exact absurd (KP hEl.iC z) (by decide)
    .exact h.DH hf i g H d (by grind))
   Md:=h.Md,bz:=h.bz,bB:=h.bB,bR:=h.bR
   bN:=by rw[q];exact h.bN
   DH:=by
    intro _ j g p d;rw[q]at p
    by_cases l:j=i
    .subst l;simp only[yy];intro F;rcases P.new with e1|e1
     .rw[e1]at F;exact h.DH hf j g p d F
     .have:=e1 g F;have⟨c,m,z⟩:=sR h.tok d
      grind
    .simp only[gV l];exact h.DH hf j g p d
   ab:=by
    intro j g p d;rw[q]at p
    by_cases l:j=i
    .subst l;simp only[yy]at d;rcases P.new with e1|e1
     .rw[e1]at d;exact h.ab j g p d
     .exact j7 h.bw (e1 g d)
    .simp only[gV l]at d;exact h.ab j g p d
   tb:=h.tb
   Mf:=h.Mf}
attribute [local go_sem] Oper.semAt_some
def ZR:(prog.info? 299).map (λi=>(i.zero,i.size,i.bytes))=some (some (.agg #[gH jz,gH jz]),2,32):=by kernel_rfl
def Jv (i:Nat) (a:gz×gz) (r:lZ) (σ:Ab):qU i (a::r) σ=(match σ.ij i with
  |none=> .stuck
  |some e=>if zD e.ib a.1 then qU i r σ else if σ.pG<=e.ib.length then .stop 7 σ.gS else qU i r (σ.ig i {e with ib:=e.ib++[a]})):=rfl
def adC (E:Env) (t:gO) (p:ji E t) {σ:Ab} (h:RF E f σ w):∃x y nm d g,zY E t=#[.int .i64 x,.int .i64 y,.string nm,.slice d t.jx.length g]/\t.jx.length<=4096/\∀f σ w,RF E f σ w->zn w (.slice d t.jx.length g) t.jx:=by
 have⟨L,e,hr⟩:=h;have⟨d,g,htv⟩:=gF hr.tok;have l:=hr.Md;have⟨a,b,k,gM⟩:=t;cases k with
 |start n=>
  have e:gM=E.ta:=p rfl;subst e;exact⟨a,b,n,d,g,by simp only[zY,gO.jx];rw[htv],l,λf σ w ⟨L,_,h⟩=>by show zn w (.slice d E.ta.length g) E.ta;rw[<-htv];exact h.tok⟩
 |stop n=>
  have e:gM=E.ta:=p rfl;subst e;exact⟨a,b,n,d,g,by simp only[zY,gO.jx];rw[htv],l,λf σ w ⟨L,_,h⟩=>by show zn w (.slice d E.ta.length g) E.ta;rw[<-htv];exact h.tok⟩
 |jM s=>exact⟨0,0,_,none,0,rfl,iN _,λ_ _ _ _=>od _ _ _ _⟩
 |gR s=>exact⟨0,0,_,none,0,rfl,iN _,λ_ _ _ _=>od _ _ _ _⟩
 |iy n q=>exact⟨0,0,_,none,0,rfl,iN _,λ_ _ _ _=>od _ _ _ _⟩
 |lost=>exact⟨0,0,_,none,0,rfl,iN _,λ_ _ _ _=>od _ _ _ _⟩
 |iR=>exact⟨0,0,_,none,0,rfl,iN _,λ_ _ _ _=>od _ _ _ _⟩
def XG {o:Oper} {ys : Nat->Option Bool} {a : Act} {K' : Act->gx->Prop} {Q:Exit->Act->gx->Prop} {d : Prop} (s x:Operand) (t:TypeId) (l:o.op= .call {callee:= .builtin .append,args:=#[s,x],argTypes:=#[t,t]}) (q:o.guard=none) (v u:gQ) (p:a.eval s=v) (y:a.eval x=u) (hr:(Builtin.append_ #[t,t] o.type #[v,u]).run prog w= .ok v' w') (h:K' (a.put o.dst v') w'):if Region.wanted o ys=true then Oper.wp prog o a w K' Q else d:=by
 have g:Region.wanted o ys=true:=by unfold Region.wanted;rw[q]
 rw[gJ g];unfold Oper.wp execOp;simp only[l,resolve,invoke,builtin,SN,Sem.run_pure,Result.andThen_ok,List.map_toArray,Aj,List.map_nil,p,y,hr];exact h
def SlK (a b:gz) (v:gQ) (W:gx):Prop:=∃k,v=oe k 1 1/\W.heap[k]?=some (gL #[gH a,gH b] 299)
structure IF (w:gx) (v:gQ) (n:Nat) (gM:lZ) (v':gQ) (W:gx):Prop where
 app:afW w v gM v' W
 shape:∃ao cp,v'= .slice ao (n+1) cp
def IF.lt2 (h:IF w v n gM v' W) (a:k < w.heap.size):k < W.heap.size:=mi a h.app.kp.size
theorem IF.at (h:IF w v n gM v' W) (a:w.heap[k]?=some (gL c T)) (d:v.ownBlock≠some k):W.heap[k]?=some (gL c T):=h.app.kp.at a (by grind)
def IF.cell (h:IF w v n gM v' W) {g l p : gQ} (d:w.heap[k]?=some (gL #[g,v,l,p] T)) (a:v.ownBlock≠some k):W.cell? ⟨k,1,none⟩=some v:=by rw[fW (h.at d a)];rfl
def IF.free (h:IF w v n gM v' W) (d:w.heap[k]?=some (gL c T)) (a:v.ownBlock≠some k):W.frozen? ⟨k,1,none⟩=false:=gu (h.at d a) 1
theorem PO {d : Option Addr} {g : Nat} (w W:gx) (h:Kept [] w W) (F:zn w (.slice d gM.length g) gM) (k:Nat) (a b:gz) (z:W.heap[k]?=some (gL #[gH a,gH b] 299)) (I:gM.length<=4096):
  ∃v' w',(Builtin.append_ #[137,137] 137 #[.slice d gM.length g,oe k 1 1]).run prog W= .ok v' w'/\IF w (.slice d gM.length g) gM.length (gM++[(a,b)]) v' w':=by
 obtain⟨G,C,q,x,y⟩:=ux ZR;have H:=h.ownsRow F (λ_ _=>by simp);have⟨v',w',h1,h2,h3,h4⟩:=Ax (P:=prog) W 0 137 137 299 G (.agg #[gH jz,gH jz]) 2 32 underlying137 C q x y rfl (by decide) (.slice d gM.length g) gM.length (flat gM) H ⟨k,0,none⟩ 1 1 [gH a,gH b] rfl (λj u l=>by
  rw[jg,fW z,<-l];simp) (λu l=>by simp at l;rcases l with rfl|rfl<;>rfl) (by unfold maxLen;omega) (by omega) (iN _)
 refine⟨v',w',h1,⟨?_,?_,?_⟩,?_⟩
 .show w'.ownsRow 0 _ 2 v' (gM++[(a,b)]).length (flat (gM++[(a,b)]))
  grind[flat]
 .exact(h.mono (by simp)).grown h3 (λk h=> .inl (by grind))
 .rcases h4 with e|e
  .grind
  .exact .inr λk p=>j7 h.size (e k p)
 .have⟨ao',cp',e⟩:=gF h2
  grind
structure GvI (E:Env) (f:Nat->Nat) (i:Nat) (a b:gz) (ao2:Option Addr) (n2 cp2:Nat) (ats2:lZ) (W0:gx) (z0 z1 z2 z3 z4 z5 z6 z7 z8 z9 z10:Bool) (s33 s34 s35 s36 s37 s38 s39 s40 s41 s42:gQ) (W:gx):Prop where
 f0:z0=true->s33=nV f i
 f1:z1=true->s34=nV f i
 f2:z2=true->s35=gN (f i)
 f3:z3=true->s36=jO (f i) 1
 f4:z4=true->s37= .slice ao2 n2 cp2
 f5:z5=true->s38= .agg #[gH a,gH b]
 f6:z6=true->z7=false->SlK a b s39 W
 f7:z7=true->z10=false->IF W0 (.slice ao2 n2 cp2) n2 ats2 s40 W
 f8:z8=true->s41=gN (f i)
 f9:z9=true->s42=jO (f i) 1
 d2:z2=true->z1=true
 d3:z3=true->z2=true
 d4:z4=true->z3=true
 d6:z6=true->z5=true
 d7:z7=true->z4=true/\z6=true
 d8:z8=true->z0=true/\z1=true/\z2=true/\z3=true/\z4=true/\z5=true/\z6=true/\z7=true
 d9:z9=true->z8=true
 d10:z10=true->z9=true/\z7=true
 wi:z7=false->Kept [] W0 W
 fin:z10=true->∃v1 W1,IF W0 (.slice ao2 n2 cp2) n2 ats2 v1 W1/\W=W1.setCell ⟨f i,1,none⟩ v1
theorem ZJ (E:Env) (t:gO) (ht:ji E t) (i:Nat):je E 277 (λf=>#[Bp E,nV f i,iJ E t]) (xg i t) uV:=by
 intro f σ w h HS;obtain⟨R,hR⟩:∃R,R=xg i t σ:=⟨_,rfl⟩;rw[<-hR]at HS|-;have F:(σ.fresh&&nM (σ.nm i))=true:=by
  cases hq:(σ.fresh&&nM (σ.nm i))with
  |true=>rfl
  |false=>unfold xg at hR;grind
 have HR:R=qU i t.jx σ:=by rw[hR];unfold xg;rw[F];rfl
 rw[sq]at F;have⟨Y,Z⟩:=F;have⟨x,y,nm,ao,cp,hTV,hn,HROW⟩:=adC E t ht h;have aM:∃ao n cp,E.tv= .slice ao n cp:=by
  have⟨L,_,hr⟩:=h;have⟨ao,cp,e⟩:=gF hr.tok;exact⟨ao,_,cp,e⟩
 have au:=λW=>ze E t W aM;rw[hTV]at au;generalize t.jx=gM at *;have H:=At.start h;go_enter func277,ntmps277
 go_wp21
 refine(au _).mono ?_;rintro e w1 ⟨rfl,aI⟩;replace H:=H.k0 aI;have aT:=λ(w:gx)=>zf x y nm ao gM.length cp w
 go_wp21
 go_loopw [12] (λv wr=>∃(K:Nat) (C:Ab),v= .int .i64 K/\K<=gM.length/\R=qU i (gM.drop K) C/\At E f σ.nodes.length w f C wr/\C.fresh=true/\nM (C.nm i)=true) (λv _=>gM.length - (intOf v).toNat)
 case atStart=>exact⟨0,σ,rfl,iN _,HR,H,Y,Z⟩
 case round=>
  obtain⟨K,C,rfl,aR,hR,a5,Y,Z⟩:=hrel
  by_cases a4:K < gM.length
  .obtain⟨g,rfl,c0,c1⟩:=zn.at2 (HROW _ _ _ a5.rel) a4;rw[DD a4]at hR;obtain⟨e,he⟩:∃e,C.ij i=some e:=by
    cases hq:C.ij i with
    |some e=>simp
    |none=>rw[Jv,hq]at hR;exact absurd hR HS
   have aq:R=(if zD e.ib gM[K].1 then qU i (gM.drop (K+1)) C else if C.pG<=e.ib.length then .stop 7 C.gS else qU i (gM.drop (K+1)) (C.ig i {e with ib:=e.ib++[gM[K]]})):=by rw[hR,Jv,he]
   have aL:C.nm i=e.name:=by unfold Ab.nm;rw[he]
   rw[aL]at Z;have aN:gM[K]=(gM[K].1,gM[K].2):=rfl;generalize gM[K].1=a at *;generalize gM[K].2=b at *;rw[aN]at aq;have hK:Kept [] wr (wr.alloc (.cells #[.string a,.string b] 299 (0,0))):=(Kept.refl _ _).alloc _;have hB:=fX wr (.cells #[.string a,.string b] 299 (0,0));have⟨L,hL,hr⟩:=(a5.k0 hK).rel;have⟨a6,a1,hAl⟩:=hr.tL i _ (Ab.jr he);have C2:=ae7 (L.gS i) e.name (L.av i) _ _ e.ib a _ a6.iC a1 hAl;rw[hL]at C2;have HE:=fV he;have an:=fV aq;have HA:=a5.k0 hK;have HB:=fV hB;have aQ:=iX hB;clear aq he hB hL
   go_wp21
   refine C2.mono ?_;rintro e2 w2 ⟨rfl,az⟩;replace HA:=HA.k0 az;replace HB:=fV (az.at HB (by simp));cases hq:zD e.ib a with
   |true=>
    have a0:=(show R=qU i (gM.drop (K+1)) C by rw[an.out,hq];rfl);go_wp2;go_roundw
    case rel=>exact⟨K+1,C,by go_num,by omega,a0,HA,Y,by simp_all⟩
    case measure=>simp[intOf];omega
   |false=>
    have⟨L,hL,HRL⟩:=HA.rel;have a6:=(HRL.tL i _ (Ab.jr HE)).1;have a1:=(HRL.tL i _ (Ab.jr HE)).2.1;have⟨ao2,cp2,hav⟩:=gF a1;have d0:w2.cell? ⟨f i,1,none⟩=some (.slice ao2 e.ib.length cp2):=by rw[<-hL,fW a6.iC,<-hav];rfl
    have d1:w2.cell? ⟨E.bB,2,none⟩=some (.int .i64 (C.pG:Int)):=HRL.low (by decide) HRL.vM.2.2.1;have aP:=HRL.vM.2.2.2.2.2;have aJ:f i < w2.heap.size:=by rw[<-hL];exact iX a6.iC
    have aS:=HRL.lt
    by_cases aj:C.pG<=e.ib.length
    .have a0:=(show R= .stop 7 C.gS by rw[an.out,hq];simp[aj]);have C3:=(λq=>Pa (HRL.drewN q) 7);clear hav
     go_wp21
     go_quiet (fail)
     go_wp21
     refine(C3 nq).mono ?_;rintro e3 w3 ⟨k,rfl,H1,d⟩;have H2:=(HA.fr.trans (Fr.drewN w2 nq)).trans d;go_wp2;exact⟨rfl,pJ a0 H1 H2⟩
    .have a0:=(show R=qU i (gM.drop (K+1)) (C.ig i {e with ib:=e.ib++[(a,b)]}) by rw[an.out,hq];simp[aj]);have am:=fV hL;have ak:=fV hav;have aF:=d0;have ap:=aJ;clear hav hL;have al:=(show w2.heap[f i]?=some (.cells #[.string e.name,.slice ao2 e.ib.length cp2,kI (iG L.gS e.jl),L.kv i] 140 (0,0)) by
      have:=(HRL.tL i _ (Ab.jr HE)).1.iC;rw[am.out,ak.out]at this;rw[am.out];omega)
     have ai:=(show zn w2 (.slice ao2 e.ib.length cp2) e.ib by rw[<-ak.out];omega);have aE:=(HRL.tL i _ (Ab.jr HE)).2.2;have aw:=Dt ai al (by decide);have aD:=(λW (hk:Kept [] w2 W)=>mi ap hk.size);have av:=ap;have aC:=(λW (hk:Kept [] w2 W)=>(hk.cell (p:=⟨f i,1,none⟩) ap (by simp)).trans aF);have aB:=(λW (hk:Kept [] w2 W)=>(⟨by rw[fW (hk.at HB.out (by simp))];rfl,by rw[fW (hk.at HB.out (by simp))];rfl⟩:W.cell? ⟨wr.heap.size,0,none⟩=some (.string a)/\W.cell? ⟨wr.heap.size,1,none⟩=some (.string b)));have aO:=(show e.ib.length < 16 by omega)
     go_wp21
     go_quiet (fail)
     go_wp21
     refine vL (by rfl) ?_
     try (change wpAny _ _ _ _ _ _ _ (World.drew _))
     refine zi (I:=λN ac W=>∃z0 z1 z2 z3 z4 z5 z6 z7 z8 z9 P a7 a8 a9 aa ab ad ae af ag ah,N=#[z0,z1,z2,z3,z4,z5,z6,z7,z8,z9,P]/\ac=⟨#[Bp E,nV f i,iJ E t,undef,undef,undef,undef,.pointer (some ⟨wr.heap.size,0,none⟩),iJ E t,.agg #[.int .i64 x,.int .i64 y,.string nm,.slice (some ⟨g,0,none⟩) gM.length cp],.slice (some ⟨g,0,none⟩) gM.length cp,.int .i64 (gM.length:Int),.int .i64 (K:Int),.bool true,.pointer (some ⟨g,K*2,none⟩),.agg #[.string a,.string b],nV f i,.pointer (some ⟨wr.heap.size,0,none⟩),.string a,.bool false,nV f i,.pointer (some ⟨f i,0,none⟩),.pointer (some ⟨f i,1,none⟩),.slice ao2 e.ib.length cp2,.int .i64 (e.ib.length:Int),Bp E,.pointer (some ⟨E.bB,0,none⟩),.pointer (some ⟨E.bB,0,none⟩),.pointer (some ⟨E.bB,2,none⟩),.int .i64 (C.pG:Int),.bool false,u31,u32,a7,a8,a9,aa,ab,ad,ae,af,ag,ah,u43],[]⟩/\GvI E f i a b ao2 e.ib.length cp2 (e.ib++[(a,b)]) w2 z0 z1 z2 z3 z4 z5 z6 z7 z8 z9 P a7 a8 a9 aa ab ad ae af ag ah W) ?_ ?_ _ _ _ _ ?_ ?_
     .rintro N a W k ⟨z0,z1,z2,z3,z4,z5,z6,z7,z8,z9,P,a7,a8,a9,aa,ab,ad,ae,af,ag,ah,rfl,rfl,l⟩ hi;simp only[Region.ready,K9,Fg]at hi;have⟨a4,F⟩:=hi;have a4:k < 11:=a4;obtain rfl|rfl|rfl|rfl|rfl|rfl|rfl|rfl|rfl|rfl|rfl:k=0\/k=1\/k=2\/k=3\/k=4\/k=5\/k=6\/k=7\/k=8\/k=9\/k=10:=by omega
      all_goals simp[Region.binds]at F
      .refine j9 rfl ?_;intro K' z;have aG:z0=false:=by simp[F]
       go_simp;refine z _ _ ?_
       iterate 21 apply Exists.intro
       refine⟨rfl,rfl,?_⟩;exact {l with f0:=(λ_=>rfl),d8:=(λu=>by have d:=(l.d8 u).1;rw[aG]at d;cases d)}
      .refine j9 rfl ?_;intro K' z;have aH:z1=false:=by simp[F]
       go_simp;refine z _ _ ?_
       iterate 21 apply Exists.intro
       refine⟨rfl,rfl,?_⟩;exact {l with f1:=(λ_=>rfl),d2:=(λ_=>rfl),d8:=(λu=>by have d:=(l.d8 u).2.1;rw[aH]at d;cases d)}
      .refine j9 rfl ?_;intro K' z;have ax:z2=false:=by simp[F]
       have ar:z3=false:=Bool.eq_false_iff.2 λu=>by have d:=(l.d3 u);rw[ax]at d;cases d
       have a2:z4=false:=Bool.eq_false_iff.2 λu=>by have d:=(l.d4 u);rw[ar]at d;cases d
       have G:z7=false:=Bool.eq_false_iff.2 λu=>by have d:=(l.d7 u).1;rw[a2]at d;cases d
       have e1:=l.f1 (by simp[F]);subst e1;have aK:=aD W (l.wi G);go_simp;refine z _ _ ?_
       iterate 21 apply Exists.intro
       refine⟨rfl,rfl,?_⟩;exact {l with f2:=(λ_=>rfl),d2:=(λ_=>by simp[F]),d3:=(λ_=>rfl),d8:=(λu=>by have d:=(l.d8 u).2.2.1;rw[ax]at d;cases d)}
      .refine j9 rfl ?_;intro K' z;have ar:z3=false:=by simp[F]
       have e2:=l.f2 (by simp[F]);subst e2;go_simp;refine z _ _ ?_
       iterate 21 apply Exists.intro
       refine⟨rfl,rfl,?_⟩;exact {l with f3:=(λ_=>rfl),d3:=(λ_=>by simp[F]),d4:=(λ_=>rfl),d8:=(λu=>by have d:=(l.d8 u).2.2.2.1;rw[ar]at d;cases d)}
      .refine j9 rfl ?_;intro K' z;have a2:z4=false:=by simp[F]
       have G:z7=false:=Bool.eq_false_iff.2 λu=>by have d:=(l.d7 u).1;rw[a2]at d;cases d
       have e3:=l.f3 (by simp[F]);subst e3;have cc:=aC W (l.wi G);go_simp;refine z _ _ ?_
       iterate 21 apply Exists.intro
       refine⟨rfl,rfl,?_⟩;exact {l with f4:=(λ_=>rfl),d4:=(λ_=>by simp[F]),d7:=(λu=>by have d:=(l.d7 u).1;rw[a2]at d;cases d),d8:=(λu=>by have d:=(l.d8 u).2.2.2.2.1;rw[a2]at d;cases d)}
      .refine j9 rfl ?_;intro K' z;have ay:z5=false:=by simp[F]
       have V:z6=false:=Bool.eq_false_iff.2 λu=>by have d:=(l.d6 u);rw[ay]at d;cases d
       have G:z7=false:=Bool.eq_false_iff.2 λu=>by have d:=(l.d7 u).2;rw[V]at d;cases d
       have cc:=aB W (l.wi G);have c2:=cc.1;have c3:=cc.2;go_simp;refine z _ _ ?_
       iterate 21 apply Exists.intro
       refine⟨rfl,rfl,?_⟩;exact {l with f5:=(λ_=>rfl),d6:=(λ_=>rfl),d8:=(λu=>by have d:=(l.d8 u).2.2.2.2.2.1;rw[ay]at d;cases d)}
      .refine j9 rfl ?_;intro K' z;have V:z6=false:=by simp[F]
       have G:z7=false:=Bool.eq_false_iff.2 λu=>by have d:=(l.d7 u).2;rw[V]at d;cases d
       have a3:z8=false:=Bool.eq_false_iff.2 λu=>by have d:=(l.d8 u).2.2.2.2.2.2.1;rw[V]at d;cases d
       have U:z9=false:=Bool.eq_false_iff.2 λu=>by have d:=(l.d9 u);rw[a3]at d;cases d
       have J:P=false:=Bool.eq_false_iff.2 λu=>by have d:=(l.d10 u).1;rw[U]at d;cases d
       have e5:=l.f5 (by simp[F]);subst e5;go_simp;have ka:Kept [] W (W.alloc (.cells #[.string a,.string b] 299 (0,0))):=(Kept.refl _ _).alloc _;refine z _ _ ?_
       iterate 21 apply Exists.intro
       refine⟨rfl,rfl,?_⟩;exact {l with f6:=(λ_ _=>⟨W.heap.size,rfl,fX W _⟩),f7:=(λh=>by rw[G]at h;cases h),d6:=(λ_=>by simp[F]),d7:=(λu=>by have d:=(l.d7 u).2;rw[V]at d;cases d),d8:=(λu=>by have d:=(l.d8 u).2.2.2.2.2.2.1;rw[V]at d;cases d),wi:=(λ_=>(l.wi G).trans ka),fin:=(λh=>by rw[J]at h;cases h)}
      .refine j9 rfl ?_;intro K' z;have G:z7=false:=by simp[F]
       have a3:z8=false:=Bool.eq_false_iff.2 λu=>by have d:=(l.d8 u).2.2.2.2.2.2.2;rw[G]at d;cases d
       have U:z9=false:=Bool.eq_false_iff.2 λu=>by have d:=(l.d9 u);rw[a3]at d;cases d
       have J:P=false:=Bool.eq_false_iff.2 λu=>by have d:=(l.d10 u).1;rw[U]at d;cases d
       have e4:=l.f4 (by simp[F]);subst e4;have⟨k,e6,hk6⟩:=l.f6 (by simp[F]) G;subst e6;have⟨v',w',hap,O⟩:=PO w2 W (l.wi G) ai k a b hk6 aE;refine XG (.tmp 37) (.tmp 39) 137 rfl rfl (.slice ao2 e.ib.length cp2) (.slice (some ⟨k,0,none⟩) 1 1) rfl rfl (v':=v') (w':=w') (by exact hap) ?_;refine z _ _ ?_
       iterate 21 apply Exists.intro
       refine⟨rfl,rfl,?_⟩;exact {l with f6:=(λ_ h=>by cases h),f7:=(λ_ _=>O),d7:=(λ_=>by simp[F]),d8:=(λu=>by have d:=(l.d8 u).2.2.2.2.2.2.2;rw[G]at d;cases d),d10:=(λu=>by have d:=(l.d10 u).2;rw[G]at d;cases d),wi:=(λh=>by cases h),fin:=(λh=>by rw[J]at h;cases h)}
      .refine j9 rfl ?_;intro K' z;have a3:z8=false:=by simp[F]
       have U:z9=false:=Bool.eq_false_iff.2 λu=>by have d:=(l.d9 u);rw[a3]at d;cases d
       have J:P=false:=Bool.eq_false_iff.2 λu=>by have d:=(l.d10 u).1;rw[U]at d;cases d
       have e0:=l.f0 (by simp[F]);subst e0;have aK:=(l.f7 (by simp[F]) J).lt2 av;go_simp;refine z _ _ ?_
       iterate 21 apply Exists.intro
       refine⟨rfl,rfl,?_⟩;exact {l with f8:=(λ_=>rfl),d8:=(λ_=>by simp[F]),d9:=(λ_=>rfl)}
      .refine j9 rfl ?_;intro K' z;have U:z9=false:=by simp[F]
       have e8:=l.f8 (by simp[F]);subst e8;go_simp;refine z _ _ ?_
       iterate 21 apply Exists.intro
       refine⟨rfl,rfl,?_⟩;exact {l with f9:=(λ_=>rfl),d9:=(λ_=>by simp[F]),d10:=(λu=>by have d:=(l.d10 u).1;rw[U]at d;cases d)}
      .refine j9 rfl ?_;intro K' z;have J:P=false:=by simp[F]
       have e9:=l.f9 (by simp[F]);subst e9;have O:=l.f7 (by simp[F]) J;have⟨ao9,cp9,e9⟩:=O.shape;subst e9;have c9:=O.cell al aw;have f9:=O.free al aw;go_simp;refine z _ _ ?_
       iterate 21 apply Exists.intro
       refine⟨rfl,rfl,?_⟩;exact {l with f6:=(λ_ h=>by simp[F]at h),f7:=(λ_ h=>by cases h),d10:=(λ_=>by simp[F]),wi:=(λh=>by simp_all),fin:=(λ_=>⟨_,_,O,rfl⟩)}
     .rintro N a W ⟨z0,z1,z2,z3,z4,z5,z6,z7,z8,z9,P,a7,a8,a9,aa,ab,ad,ae,af,ag,ah,rfl,rfl,l⟩ hr;simp only[Region.ready,SM,Fg]at hr;have q0:=hr 0 (by decide);simp[Region.binds]at q0;subst q0;have q1:=hr 1 (by decide);simp[Region.binds]at q1;subst q1;have q2:=hr 2 (by decide);simp[Region.binds]at q2;subst q2;have q3:=hr 3 (by decide);simp[Region.binds]at q3;subst q3;have q4:=hr 4 (by decide);simp[Region.binds]at q4;subst q4;have q5:=hr 5 (by decide);simp[Region.binds]at q5;subst q5;have q6:=hr 6 (by decide);simp[Region.binds]at q6;subst q6;have q7:=hr 7 (by decide);simp[Region.binds]at q7;subst q7;have q8:=hr 8 (by decide);simp[Region.binds]at q8;subst q8;have q9:=hr 9 (by decide);simp[Region.binds]at q9;subst q9;have aA:=hr 10 (by decide);simp[Region.binds]at aA;subst aA;have⟨v1,W1,O,hW⟩:=l.fin rfl;subst hW;have X:=HRL.agf HE Z Y (a,b) (by omega) (v':=v1) (w1:=W1) (by rw[ak.out];exact O.app);rw[am.out]at X;go_wp2;go_roundw
      case rel=>exact⟨K+1,_,by go_num,by omega,a0,HA.to ⟨_,rfl,X.1⟩ (nW (Ab.oc _ _ _).symm) X.2,Y,by unfold Ab.nm;rw[Ab.jd (Ab.iq HE.out)];exact Z⟩
      case measure=>simp[intOf];omega
     .decide
     .exact⟨_,_,_,_,_,_,_,_,_,_,_,_,_,_,_,_,_,_,_,_,_,rfl,rfl,⟨(by simp),(by simp),(by simp),(by simp),(by simp),(by simp),(by simp),(by simp),(by simp),(by simp),(by simp),(by simp),(by simp),(by simp),(by simp),(by simp),(by simp),(by simp),(λ_=>((Kept.refl _ _).drewN nq).drew),(λh=>by cases h)⟩⟩
  .have HD:=(show R= .ok () C by rw[hR,Hk (by omega)];rfl);have HA:=a5;go_wp2;go_end0;exact gw HD HA rfl
end
end Go.Proofs.YtlhhgenpcjjajaaGreatDoor
