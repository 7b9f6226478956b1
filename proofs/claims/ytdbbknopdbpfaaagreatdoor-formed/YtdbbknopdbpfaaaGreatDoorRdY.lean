import Derived.Test.YtdbbknopdbpfaaaGreatDoorFoD
set_option linter.unusedSimpArgs false
set_option linter.unusedVariables false
set_option linter.defProp false
set_option maxHeartbeats 0
set_option maxRecDepth 100000
namespace Go.Proofs.YtdbbknopdbpfaaaGreatDoor
open Go.RowKit Go.PlainAid Go.Extern.Stop Go.Stop Go.Extern Tryz
def Z1:=@Lib.size_eq
def Tz:=@Value.slice.inj
def zt:=@World.frozen?_alloc_old
def TB:=@cell_of_one
section
variable {A B C:List O}{D:Tn}{H:Nat->List O}{K a b bB bg bm bs c cap d f g h i l lg most n ps:Nat}{L:List Sp}{R:RC}{S:List Nat}{W w w' w2 wl:J}{cut r:Nat->Nat}{e t:TypeId}{look:O->Option O}{nm s:O}{v:gP}{xs:List gP}{σ:N}
inductive Lv where
 |stop
 |lost
 |whole (e:Nat) (L:lu)
def jl(R:RC)(ps:Nat):Nat:=scan (λc=>!jy ⟨#[32,9,10,12,47]⟩ c) R.cs ps
def ady(h:ps<=R.cs.size):jl R ps<=R.cs.size:=qF h
theorem sF:ps<=jl R ps:=tL
def mc(R:RC)(look:O->Option O)(lg:Nat)(L:lu)(ps:Nat):Lv:=
 if h:jl R ps<R.cs.size then
  if pre (R.cs.extract (jl R ps) R.cs.size) iZ=true then .whole (jl R ps+1) L
  else if AZ R (L.map (·.1)) (jl R ps)=true then .stop
  else mc R look lg (qK R look lg L (jl R ps)) (qJ R (kQ R (jl R ps)))
 else .lost
  termination_by R.cs.size-ps
  decreasing_by
 have j:=sF (R:=R) (ps:=ps);have k:=ug (R:=R) (ps:=jl R ps);have m:=xY (R:=R) (ps:=kQ R (jl R ps));omega
def wX(R:RC)(ps:Nat):Nat:=scan (jy jn) R.cs ps
def abg(h:ps<=R.cs.size):wX R ps<=R.cs.size:=qF h
def aj0:ps<=wX R ps:=tL
theorem Kh{L:lu}:(qK R look lg L ps).length<=L.length+1:=by
 grind[qK,vI]
def yx(R:RC)(ps:Nat):O:=nP (small (R.cs.extract ps (wX R ps)))
def Rd.rS{r:Nat}(h:Rd w r R bg ps){p:Addr}(j:p.block≠r)(u:gP):Rd (w.setCell p u) r R bg ps:=(Below.heap_setCell w p u r (λe=>j e.symm)).trans h
theorem adK{base:Nat}{q:Nat}(p:w.ownsRow base e q v n xs){c:jL}(u:w.heap[b]?=some (gH c t))(o:e≠t):∀k,v.ownBlock=some k->k≠b:=by
 rintro k hk rfl;rcases p.2 with⟨e2,_⟩|⟨z,j,m,e2,_,y,_⟩;rw[e2]at hk;cases hk;rw[e2]at hk;obtain rfl:=Ki hk;grind
def Z8(w:J)(r:Nat)(R:RC)(bg:Nat)(cut:Nat->Nat)(nm:O)(e:Ending)(w':J):Lv->Prop
 | .stop=>∃k,e=.panicked [{v:=.iface 74 (gI k),recovered:=false}]/\ZI w' k 7 (cut bg)/\w.heap.size<=k/\Z [r] w w'
 | .lost=>e=iA (.tuple #[.agg #[G 0,G 0,Y kB,jD],.bool false])/\Z [r] w w'/\Rd w' r R bg R.cs.size
 | .whole m L=>(∃j o,e=iA (.tuple #[.agg #[G (cut bg),G (cut m),Y nm,.slice j L.length o],.bool true])/\w'.ownsRow w.heap.size 292 2 (.slice j L.length o) L.length (sV L))/\Z [r] w w'/\Rd w' r R bg m
theorem abj(r:Nat)(R:RC)(bg ps g cap b lg:Nat)(look:O->Option O)(cut:Nat->Nat)(w:J)(h:Rd w r R bg ps)(hA:Po w r R g cap cut)(hN:Nm w r R b lg look)(hG:Gl w r)
  (hb:bg<=R.cs.size) (hp:ps<=R.cs.size) (hs:R.cs.size<=1024):
  Calls prog 244 #[gI r] w λe w'=>Z8 w r R bg cut (yx R ps) e w' (mc R look lg [] (wX R ps)):=by
 obtain⟨b5,HO⟩:∃b5,b5=mc R look lg [] (wX R ps):=⟨_,rfl⟩;rw[<-HO];obtain⟨nm,ae⟩:∃nm,nm=yx R ps:=⟨_,rfl⟩;rw[<-ae];have a9:nP (small (R.cs.extract ps (scan (jy jn) R.cs ps)))=nm:=ae.symm;have aH:=V a9;clear ae a9;have hr:=ja h;obtain⟨P,a4⟩:∃P,P=w.alloc (.cells #[G 0,G 0,Y kB,jD] 190):=⟨_,rfl⟩;have an:P.heap[w.heap.size]?=some (gH #[G 0,G 0,Y kB,jD] 190):=by rw[a4];exact fU w _
 have T:Z [] w P:=by rw[a4];exact(Z.refl _ _).alloc _
 have z0:P.heap.size=w.heap.size+1:=by rw[a4];simp
 have au:=h.kept T (by simp);have ha:=abg (R:=R) hp;have CU:=A0 r R bg ps jn P au hp hs;have HA:=hA.kept (T.mono (by simp));have HN:=hN.kept (T.mono (by simp));have HG:=hG.kept (T.mono (by simp));have HW:=V a4.symm;have ax:(R.cs.extract ps (scan (jy jn) R.cs ps)).size<=1048576:=by simp;omega
 have HZ:=V z0;clear h hA hN hG a4 z0 au;go_enter func244,ntmps244;go_wp21;rw[HW.out];refine(qh _ P).mono ?_;rintro e w1⟨rfl,rfl⟩;go_wp21;refine CU.mono ?_;rintro e w2⟨rfl,aj,aB⟩;have aK:Hid (Rd w2 r R bg (wX R ps)):=aB;have CR:=AN r _ w2 ax (HG.kept aj);clear aB CU ax;go_wp21;refine CR.mono ?_;rintro e w3⟨rfl,ac⟩;have ak:=aj.trans (ac.mono (by simp));have aL:=aK.out.kept ac (by simp);clear ac CR;rw[aH.out];obtain⟨w4,a8⟩:∃w4,w4=w3.alloc (.cells #[G 0,G 0,Y nm,jD] 190):=⟨_,rfl⟩;have ah:Z [] w3 w4:=by rw[a8];exact(Z.refl _ _).alloc _
 have aQ:Hid (DF w4 P.heap.size w3.heap.size 0 0 nm (jD) []):=⟨by rw[a8];exact fU w3 _,pP _ _ _ _⟩;have aE:=ak.trans (ah.mono (by simp));have aM:=aL.kept ah (by simp);have o:=ak.size;have aS:=V a8.symm;clear ah a8;go_wp21;rw[aS.out]
 go_loopw [] (λwr=>∃(i:Nat)(av:gP)(L:lu),i<=R.cs.size/\L.length<=i/\mc R look lg L i=b5/\DF wr P.heap.size w3.heap.size 0 0 nm av L/\Z [r] P wr/\Rd wr r R bg i) (λwr=>R.cs.size-(match wr.cell? ⟨r,3,none⟩with|some v=>(intOf v).toNat|none=>0))
 case atStart=>exact⟨wX R ps,_,[],ha,xj _,HO.symm,aQ.out,aE,aM⟩
 case round=>
  have⟨i,av,L,hi,hLi,htg,HT,HKW,hrd⟩:=hrel;have a6:=V htg;have CP:=xD r R bg i ⟨#[32,9,10,12,47]⟩ wr hrd hi hs;have P0:=hrd.ps;have az:=ady (R:=R) hi;have b3:=sF (R:=R) (ps:=i);clear htg hrd;go_wp21;refine CP.mono ?_;rintro e w5⟨rfl,ad,af⟩;have ab:Hid (Rd w5 r R bg (jl R i)):=af;have a5:=HKW.trans ad;have aq:=HT.kept ad (by have:=HZ.out;omega) o;have CE:=pZ r R bg (jl R i) w5 af;clear ad af CP;by_cases a1:jl R i=R.cs.size
  .have eO:b5=.lost:=by rw[<-a6.out,mc,dif_neg (by omega)]
   have EO:=V eO;have e3:decide (jl R i=R.cs.size)=true:=by simp[a1]
   rw[e3]at CE;have a0:=V CE;have y:=a5.at an (by simp;omega);have d0:=fP y 0;have d1:=fP y 1;have d2:=fP y 2;have d3:=fP y 3;have f0:=gx y 0;have f1:=gx y 1;have f2:=gx y 2;have f3:=gx y 3;dsimp at d0 d1 d2 d3;clear CE e3 eO y;go_wp21;refine a0.out.mono ?_;rintro e w6⟨rfl,q,rfl⟩;go_wp2;have al:=(T.mono (S':=[r]) (by simp)).trans a5;have F:w.heap.size≠r:=by omega
   rw[EO.out];refine uF (v:=.tuple #[.agg #[G 0,G 0,Y kB,jD],.bool false]) ?_ rfl ⟨rfl,?_,?_⟩
   .simp[results,results244,asAddr,Result.andThen,go_sem,d0,d1,d2,d3]
   exact((((al.drewN q).setCell (.inr (ic _)) _).setCell (.inr (ic _)) _).setCell (.inr (ic _)) _).setCell (.inr (ic _)) _;have h6:Rd (w5.drewN q) r R bg R.cs.size:=by rw[<-a1];exact ab.out
   exact(((h6.rS F _).rS F _).rS F _).rS F _
  .have e3:decide (jl R i=R.cs.size)=false:=by simp[a1]
   have a2:jl R i<R.cs.size:=by omega
   rw[e3]at CE;have a0:=V CE;clear CE e3;cases hgt:pre (R.cs.extract (jl R i) R.cs.size) iZ
   .have a3:taken R iZ (jl R i)=jl R i:=by unfold taken;rw[Xx (by simp[hgt])]
    have Q:=λq=>mU r R bg (jl R i) iZ (w5.drewN q) (show Rd (w5.drewN q) r R bg _ from ab.out) az hs (by decide);rw[hgt,a3]at Q;clear a3;go_wp21;refine a0.out.mono ?_;rintro e w6⟨rfl,q,rfl⟩;go_wp21;refine(Q q).mono ?_;rintro e w7⟨rfl,U,aC⟩;have I:=(a5.drewN q).trans U;have aw:=(aq.kept ((Z.refl [r] w5).drewN q) (by have:=HZ.out;omega) o).kept U (by have:=HZ.out;omega) o;have CA:=N9 r w3.heap.size R bg (jl R i) g cap b lg look cut 0 0 nm av L P w7 I (by have:=HZ.out;omega) o aC (HA.kept I) (HN.kept I) (HG.kept I) aw hb a2 hs (by omega);clear U aC aw Q a0;go_wp21;refine CA.mono ?_;intro e w8 E;by_cases a7:AZ R (L.map (·.1)) (jl R i)=true
    .rw[sL a7]at E;obtain⟨k,rfl,aD,b4,m⟩:=E;have eO:b5=.stop:=by rw[<-a6.out,mc,Jg a2,Xx (by simp[hgt]),sL a7]
     have HF:Hid (Z8 w r R bg cut nm (.panicked [{v:=.iface 74 (gI k),recovered:=false}]) w8 b5):=by
      rw[eO];exact⟨k,rfl,aD,by have:=HZ.out;omega,(T.mono (S':=[r]) (by simp)).trans m⟩
     clear aD m eO CA;go_wp2;exact⟨rfl,HF.out⟩
    .rw[Xx a7]at E;obtain⟨rfl,aT,j,m,ag⟩:=E;have ar:mc R look lg (qK R look lg L (jl R i)) (qJ R (kQ R (jl R i)))=b5:=by
      rw[<-a6.out,mc.eq_1 R look lg L i,Jg a2,Xx (by simp[hgt]),Xx a7]
     have aW:=Kh (R:=R) (look:=look) (lg:=lg) (L:=L) (ps:=jl R i);have h2:=ug (R:=R) (ps:=jl R i);have h3:=xY (R:=R) (ps:=kQ R (jl R i));have h4:=adR (R:=R) (Ew (R:=R) a2);have ap:Hid (∃(i':Nat)(av:gP)(L:lu),i'<=R.cs.size/\L.length<=i'/\mc R look lg L i'=b5/\DF w8 P.heap.size w3.heap.size 0 0 nm av L/\Z [r] P w8/\Rd w8 r R bg i'):=
      ⟨_,aT,_,h4,by omega,ar,j,m,ag⟩
     have P8:=ag.ps;have aA:R.cs.size-qJ R (kQ R (jl R i))<R.cs.size-i:=by omega
     clear j m ag ar aW CA h2 h3 h4;go_wp2;go_roundw
     case rel=>exact ap.out
     case measure=>rw[P8,P0];simpa [intOf]using aA
   .have a3:taken R iZ (jl R i)=jl R i+1:=by unfold taken;rw[sL hgt];rfl
    have Q:=λq=>mU r R bg (jl R i) iZ (w5.drewN q) (show Rd (w5.drewN q) r R bg _ from ab.out) az hs (by decide);rw[hgt,a3]at Q;have eO:b5=.whole (jl R i+1) L:=by rw[<-a6.out,mc,Jg a2,sL hgt]
    have EO:=V eO;clear a3 eO;go_wp21;refine a0.out.mono ?_;rintro e w6⟨rfl,q,rfl⟩;go_wp21;refine(Q q).mono ?_;rintro e w7⟨rfl,U,am⟩;have I:=(a5.drewN q).trans U;have aR:=(aq.kept ((Z.refl [r] w5).drewN q) (by have:=HZ.out;omega) o).kept U (by have:=HZ.out;omega) o;have ai:=rj r R bg (jl R i+1) g cap cut w7 am (HA.kept I) hb (by omega) hs;clear U Q a0;go_wp21;refine ai.mono ?_;rintro e w8⟨rfl,m⟩;have aF:=(T.mono (S':=[r]) (by simp)).trans (I.trans (m.mono (by simp)));have j:=aR.kept (m.mono (by simp)) (r:=r) (by have:=HZ.out;omega) o;have aP:=am.kept m (by simp);have z:=(I.trans (m.mono (by simp))).at an (by simp;omega);have⟨ao,cp,hav⟩:=gz j.own;subst hav;have t0:=fP j.il 0;have t1:=fP j.il 1;have t2:=fP j.il 2;have t3:=fP j.il 3;have g0:=gx j.il 0;have g1:=gx j.il 1;have d0:=fP z 0;have d1:=fP z 1;have d2:=fP z 2;have d3:=fP z 3;have f0:=gx z 0;have f1:=gx z 1;have f2:=gx z 2;have f3:=gx z 3;dsimp at t0 t1 t2 t3 d0 d1 d2 d3;have aX:w.heap.size≠w3.heap.size:=by have:=o;have:=HZ.out;omega
    have b0:w3.heap.size≠w.heap.size:=λh=>aX h.symm;have aI:=j.own;have b1:=adK j.own j.il (by decide);clear j z m ai;go_wp2;rw[EO.out];have F:w.heap.size≠r:=by omega
    have aa:w3.heap.size≠r:=by have:=o;have:=HZ.out;omega
    have ay:w.heap.size<=w3.heap.size:=by have:=o;have:=HZ.out;omega
    refine uF (v:=.tuple #[.agg #[G (cut bg),G (cut (jl R i+1)),Y nm,.slice ao L.length cp],.bool true]) ?_ rfl ⟨⟨_,_,rfl,?_⟩,?_,?_⟩
    .simp[results,results244,asAddr,Result.andThen,go_sem,d0,d1,d2,d3]
    have b2:∀(p:Addr)(u:gP)(W:J),(p.block=w.heap.size\/p.block=w3.heap.size)->W.ownsRow P.heap.size 292 2 (.slice ao L.length cp) L.length (sV L)->(W.setCell p u).ownsRow P.heap.size 292 2 (.slice ao L.length cp) L.length (sV L):=by
     intro p u W hp ho;refine rF ho ?_ u;intro e;rcases hp with hp|hp;have:=(aI.lt _ e).1;have:=HZ.out;omega;grind
    refine ke (base:=P.heap.size) ?_ (by have:=HZ.out;omega);grind;exact(((((aF.setCell (.inr ay) _).setCell (.inr ay) _).setCell (.inr (ic _)) _).setCell (.inr (ic _)) _).setCell (.inr (ic _)) _).setCell (.inr (ic _)) _;exact(((((aP.rS aa _).rS aa _).rS F _).rS F _).rS F _).rS F _
def MC(R:RC)(ps:Nat):Bool:=decide (ps<R.cs.size)&&decide (97<=bt R.cs ps/\bt R.cs ps<=122\/65<=bt R.cs ps/\bt R.cs ps<=90)
def DN(r:Nat)(R:RC)(bg ps:Nat)(w:J)(h:Rd w r R bg ps)(j:ps<=R.cs.size)(hs:R.cs.size<=1024):
  Calls prog 152 #[gI r,.func (.func 153) #[] #[]] w λe w'=>e=iA (.bool (MC R ps))/\∃n,w'=w.drewN n:=
 MD r R bg ps _ _ _ w h j hs (Vp w [r])
theorem aiu(s:O)(a:Nat)(h:a<s.size):(s.extract a s.size).extract 0 1=s.extract a (a+1):=by
 apply NV;simp only[ByteArray.data_extract,Array.extract_extract];grind
theorem aa3{r:Nat}{a b:Int}(j:Z [r] w W)(k:Rd W r R bg ps)(g:W.heap[w.heap.size]?=some (gH #[G 0,G 0,Y kB] 184))(o:r≠w.heap.size):
  Z [r] w (((W.setCell ⟨w.heap.size,0,none⟩ (G a)).setCell ⟨w.heap.size,1,none⟩ (G b)).setCell ⟨w.heap.size,2,none⟩ (Y s))/\Rd (((W.setCell ⟨w.heap.size,0,none⟩ (G a)).setCell ⟨w.heap.size,1,none⟩ (G b)).setCell ⟨w.heap.size,2,none⟩ (Y s)) r R bg ps/\(((W.setCell ⟨w.heap.size,0,none⟩ (G a)).setCell ⟨w.heap.size,1,none⟩ (G b)).setCell ⟨w.heap.size,2,none⟩ (Y s)).heap[w.heap.size]?=some (gH #[G a,G b,Y s] 184):=by
 have m:Z [w.heap.size] W (((W.setCell ⟨w.heap.size,0,none⟩ (G a)).setCell ⟨w.heap.size,1,none⟩ (G b)).setCell ⟨w.heap.size,2,none⟩ (Y s)):=(((Z.refl [w.heap.size] W).setCell (.inl (by simp)) _).setCell (.inl (by simp)) _).setCell (.inl (by simp)) _;exact⟨((j.setCell (.inr (ic _)) _).setCell (.inr (ic _)) _).setCell (.inr (ic _)) _,k.kept m (by grind),gh (gh (gh g 0 _) 1 _) 2 _⟩
def FM(r:Nat)(R:RC)(bg ps g cap b lg:Nat)(look:O->Option O)(cut:Nat->Nat)(w:J)(h:Rd w r R bg ps)(hA:Po w r R g cap cut)(Q:Nm w r R b lg look)(hb:bg<R.cs.size)(hs:R.cs.size<=1024):
  Calls prog 84 #[gI r] w λe w'=>e=iA (.agg #[G (cut bg),G (cut (bg+qS look lg (R.cs.extract bg R.cs.size))),Y (qT look lg (R.cs.extract bg R.cs.size))])/\Z [r] w w'/\Rd w' r R bg (bg+qS look lg (R.cs.extract bg R.cs.size)):=by
 have t1:=h.text;have b1:=h.bg;have m1:=h.mv;have l1:=h.lg;rw[Q.mv]at m1;rw[Q.dz]at l1;have hr:=ja h;have a5:(R.cs.extract bg R.cs.size).size=R.cs.size-bg:=by simp
 have a6:=ES (look:=look) (lg:=lg) (s:=R.cs.extract bg R.cs.size) (inV:=false);rw[a5]at a6;have C1:=(λW (hk:Z [] w W)=>Wh b lg look (R.cs.extract bg R.cs.size) false W (Q.lk.kept hk (by simp)) Q.le (by omega));have C2:=(λW (hk:Z [] w W)=>FE r R bg ps g cap cut W (h.kept hk (by simp)) (hA.kept (hk.mono (by simp))) hb hs);have y:=(Z.refl [] w).alloc (gH #[G 0,G 0,Y kB] 184);have a1:=fU w (gH #[G 0,G 0,Y kB] 184);have m:=(show w.heap.size≠r by omega);have HR:=h;have HA:=hA;have a0:=V (aiu R.cs bg hb);have HS:=V (show qS look lg (R.cs.extract bg R.cs.size)=if mM look lg (R.cs.extract bg R.cs.size) false=0 then 1 else mM look lg (R.cs.extract bg R.cs.size) false from rfl);have HT:=V (show qT look lg (R.cs.extract bg R.cs.size)=if mM look lg (R.cs.extract bg R.cs.size) false=0 then (R.cs.extract bg R.cs.size).extract 0 1 else oY look lg (R.cs.extract bg R.cs.size) false from rfl);generalize qS look lg (R.cs.extract bg R.cs.size)=cz at *;generalize qT look lg (R.cs.extract bg R.cs.size)=ct at *;generalize mM look lg (R.cs.extract bg R.cs.size) false=n at *;generalize oY look lg (R.cs.extract bg R.cs.size) false=U at *;go_enter func84,ntmps84;go_wp21
 go_cut [3,4]from 5 to 21 (λtv nv wc=>tv=Y U/\nv=G n/\Z [] w wc/\wc.heap[w.heap.size]?=some (gH #[G 0,G 0,Y kB] 184))
 case first=>
  go_region_with (go_at_call 161;refine(C1 _ y.drew).mono ?_;rintro e w1⟨rfl,q⟩;have a4:=V ((y.drew).trans q);have a2:=V ((((Z.refl [] _).drew).trans q).at a1 (by simp));clear q)
  all_goals (try (go_wp21))
  all_goals (go_meet;exact⟨rfl,rfl,a4,a2⟩)
 case rest=>
  obtain⟨rfl,rfl,hk,hg⟩:=hcut;have HK:=hk;have HG:=hg;have T:=HR.kept hk (by simp);by_cases P:n=0
  .have C3:=C2 wc hk;have F:cz=1:=by rw[HS.out,sL P]
   have I:ct=R.cs.extract bg (bg+1):=by rw[HT.out,sL P,a0.out]
   have u:=V F;have ET:=V I;clear F I;subst P;go_wp21;refine C3.mono ?_;rintro e w2⟨rfl,k,a7⟩;have j:=k.at HG (by simpa using m);have q0:=fP j 0;have q1:=fP j 1;have q2:=fP j 2;have z0:=gx j 0;have z1:=gx j 1;have z2:=gx j 2;dsimp at q0 q1 q2;have o:=aa3 (a:=(cut bg:Int)) (b:=(cut (bg+1):Int)) (s:=R.cs.extract bg (bg+1)) ((HK.mono (by simp)).trans k) a7 j (λe=>m e.symm);go_wp2;refine uF (v:=.agg #[G (cut bg),G (cut (bg+1)),Y (R.cs.extract bg (bg+1))]) ?_ rfl ⟨by rw[u.out,ET.out],o.1,by rw[u.out];exact o.2.1⟩;have hc:=fP o.2.2;simp[results,results84,asAddr,Result.andThen,go_sem,hc]
  .have F:cz=n:=by rw[HS.out,Xx P]
   have I:ct=U:=by rw[HT.out,Xx P]
   have u:=V F;have ET:=V I;have a8:((n:Int)==0)=false:=beq_eq_false_iff_ne.2 (by omega);have b2:=T.bg;have f2:=T.free 3;have p2:=T.ps;have z:=(hk.mono (S':=[r]) (by simp)).setCell (p:=⟨r,3,none⟩) (.inl (by simp)) (G ((bg+n:Nat)));have E:=T.QH (bg+n);have a3:=(((Z.refl [r] wc).setCell (p:=⟨r,3,none⟩) (.inl (by simp)) (G ((bg+n:Nat))))).at hg (by simpa using m);have C3:=rj r R bg (bg+n) g cap cut _ E (HA.kept z) (by omega) (by omega) hs;clear F I;go_wp21;refine C3.mono ?_;rintro e w2⟨rfl,k⟩;have j:=k.at a3 (by simp);have q0:=fP j 0;have q1:=fP j 1;have q2:=fP j 2;have z0:=gx j 0;have z1:=gx j 1;have z2:=gx j 2;dsimp at q0 q1 q2;have o:=aa3 (a:=(cut bg:Int)) (b:=(cut (bg+n):Int)) (s:=U) (z.trans (k.mono (by simp))) (E.kept k (by simp)) j (λe=>m e.symm);go_wp2;refine uF (v:=.agg #[G (cut bg),G (cut (bg+n)),Y U]) ?_ rfl ⟨by rw[u.out,ET.out],o.1,by rw[u.out];exact o.2.1⟩;have hc:=fP o.2.2;simp[results,results84,asAddr,Result.andThen,go_sem,hc]
inductive TH where
 |UM
 |XG (t:O)
 |TN (nm:O) (L:lu)
 |fin (nm:O) (L:lu)
 |TJ (t:O)
 |cU (nm:O) (q:Bool)
 |lost
inductive Bq where
 |stop
 |tok (kd:TH) (e:Nat)
def abD(base:Nat)(a b:Int)(v:gP)(w:J):TH->Prop
 | .UM=>v=.iface 182 (.agg #[G a,G b])
 | .XG t=>v=.iface 184 (.agg #[G a,G b,Y t])
 | .TN nm L=>∃j k,v=.iface 192 (.agg #[G a,G b,Y nm,.slice j L.length k])/\w.ownsRow base 292 2 (.slice j L.length k) L.length (sV L)
 | .fin nm L=>∃j k,v=.iface 193 (.agg #[G a,G b,Y nm,.slice j L.length k])/\w.ownsRow base 292 2 (.slice j L.length k) L.length (sV L)
 | .TJ t=>v=.iface 194 (.agg #[G a,G b,Y t])
 | .cU nm q=>v=.iface 196 (.agg #[G a,G b,Y nm,.bool q])
 | .lost=>v=.iface 186 (.agg #[G a,G b])
def abD.base{base j:Nat}{a b:Int}{k:TH}(h:abD base a b v w k)(m:j<=base):abD j a b v w k:=by
 cases k with
 |TN nm L=>have⟨ao,cp,h1,h2⟩:=h;exact⟨ao,cp,h1,ke h2 m⟩
 |fin nm L=>have⟨ao,cp,h1,h2⟩:=h;exact⟨ao,cp,h1,ke h2 m⟩
 |_=>exact h
def pn(w:J)(r:Nat)(R:RC)(bg:Nat)(cut:Nat->Nat)(e:Ending)(w':J):Bq->Prop
 | .stop=>∃k,e=.panicked [{v:=.iface 74 (gI k),recovered:=false}]/\ZI w' k 7 (cut bg)/\w.heap.size<=k/\Z [r] w w'
 | .tok kd m=>(∃v,e=iA v/\abD w.heap.size (cut bg) (cut m) v w' kd)/\Z [r] w w'/\Rd w' r R bg m
def pn.back{w1:J}{r:Nat}{e:Ending}{T:Bq}(h:pn w1 r R bg cut e w' T)(hk:Z [r] w w1):pn w r R bg cut e w' T:=by
 cases T with
 |stop=>have⟨k,h1,h2,h3,h4⟩:=h;exact⟨k,h1,h2,jZ hk.size h3,hk.trans h4⟩
 |tok kd m=>have⟨⟨v,h1,h2⟩,h3,h4⟩:=h;exact⟨⟨v,h1,h2.base hk.size⟩,hk.trans h3,h4⟩
def uo(R:RC)(j:O->lu->TH)(nm:O):Lv->Bq
 | .stop=> .stop
 | .lost=> .tok .lost R.cs.size
 | .whole m L=> .tok (j nm L) m
structure Z7(w:J)(r:Nat)(R:RC)(g cap b lg:Nat)(look:O->Option O)(cut:Nat->Nat):Prop where
 gG:Po w r R g cap cut
 aZ:Nm w r R b lg look
 gl:Gl w r
 small:R.cs.size<=1024
theorem Z7.kept{r:Nat}(h:Z7 w r R g cap b lg look cut)(hk:Z [r] w w'):Z7 w' r R g cap b lg look cut:=
 ⟨h.gG.kept hk,h.aZ.kept hk,h.gl.kept hk,h.small⟩
def ZH(r:Nat)(R:RC)(bg ps g cap b lg:Nat)(look:O->Option O)(cut:Nat->Nat)(w:J)(h:Rd w r R bg ps)(p:Z7 w r R g cap b lg look cut)(U:bg<=R.cs.size)(hp:ps<=R.cs.size):
  Calls prog 154 #[gI r] w λe w'=>pn w r R bg cut e w' (uo R .TN (yx R ps) (mc R look lg [] (wX R ps))):=by
 have C:=abj r R bg ps g cap b lg look cut w h p.gG p.aZ p.gl U hp p.small;have T:=p;generalize yx R ps=nm at C|-;generalize mc R look lg [] (wX R ps)=a0 at C|-;cases a0 with
 |stop=>
  go_enter func154,ntmps154;go_wp21;refine C.mono ?_;rintro e o⟨k,rfl,H2,h3,H4⟩;go_wp2;exact⟨rfl,k,rfl,H2,h3,H4⟩
 |lost=>
  go_enter func154,ntmps154;go_wp21;refine C.mono ?_;rintro e o⟨rfl,HK,Q⟩;have u:Z [] o (o.alloc (.cells #[G 0,G 0,Y kB,jD] 190)):=(Z.refl _ _).alloc _;have y:=Q.kept u (by simp);have j:=HK.trans (u.mono (by simp));have CP:=rj r R bg R.cs.size g cap cut _ y (T.kept j).gG U (ic _) T.small;go_wp21;refine CP.mono ?_;rintro e w2⟨rfl,q⟩;have z:=j.trans (q.mono (by simp));have F:=y.kept q (by simp);go_wp2;go_ret;exact⟨⟨_,rfl,rfl⟩,z,F⟩
 |whole m L=>
  go_enter func154,ntmps154;go_wp21;refine C.mono ?_;rintro e o⟨⟨I,P,rfl,ho⟩,hk,Q⟩;have u:Z [] o (o.alloc (.cells #[G (cut bg),G (cut m),Y nm,.slice I L.length P] 190)):=(Z.refl _ _).alloc _;have y:=Q.kept u (by simp);have j:=hk.trans (u.mono (by simp));have E:=ho.alloc (.cells #[G (cut bg),G (cut m),Y nm,.slice I L.length P] 190);go_wp2;go_ret;exact⟨⟨_,rfl,I,P,rfl,E⟩,j,y⟩
def afd(r:Nat)(R:RC)(bg ps g cap b lg:Nat)(look:O->Option O)(cut:Nat->Nat)(w:J)(h:Rd w r R bg ps)(p:Z7 w r R g cap b lg look cut)(U:bg<=R.cs.size)(hp:ps<=R.cs.size):
  Calls prog 245 #[gI r] w λe w'=>pn w r R bg cut e w' (uo R .fin (yx R ps) (mc R look lg [] (wX R ps))):=by
 have C:=abj r R bg ps g cap b lg look cut w h p.gG p.aZ p.gl U hp p.small;have T:=p;generalize yx R ps=nm at C|-;generalize mc R look lg [] (wX R ps)=a0 at C|-;cases a0 with
 |stop=>
  go_enter func245,ntmps245;go_wp21;refine C.mono ?_;rintro e o⟨k,rfl,H2,h3,H4⟩;go_wp2;exact⟨rfl,k,rfl,H2,h3,H4⟩
 |lost=>
  go_enter func245,ntmps245;go_wp21;refine C.mono ?_;rintro e o⟨rfl,HK,Q⟩;have u:Z [] o (o.alloc (.cells #[G 0,G 0,Y kB,jD] 190)):=(Z.refl _ _).alloc _;have y:=Q.kept u (by simp);have j:=HK.trans (u.mono (by simp));have CP:=rj r R bg R.cs.size g cap cut _ y (T.kept j).gG U (ic _) T.small;go_wp21;refine CP.mono ?_;rintro e w2⟨rfl,q⟩;have z:=j.trans (q.mono (by simp));have F:=y.kept q (by simp);go_wp2;go_ret;exact⟨⟨_,rfl,rfl⟩,z,F⟩
 |whole m L=>
  go_enter func245,ntmps245;go_wp21;refine C.mono ?_;rintro e o⟨⟨I,P,rfl,ho⟩,hk,Q⟩;have u:Z [] o (o.alloc (.cells #[G (cut bg),G (cut m),Y nm,.slice I L.length P] 190)):=(Z.refl _ _).alloc _;have y:=Q.kept u (by simp);have j:=hk.trans (u.mono (by simp));have E:=ho.alloc (.cells #[G (cut bg),G (cut m),Y nm,.slice I L.length P] 190);go_wp2;go_ret;exact⟨⟨_,rfl,I,P,rfl,E⟩,j,y⟩
def vZ(R:RC)(look:O->Option O)(lg bg:Nat):Bq:=.tok (.XG (qT look lg (R.cs.extract bg R.cs.size))) (bg+qS look lg (R.cs.extract bg R.cs.size))
def mO(R:RC)(look:O->Option O)(lg bg ps:Nat):Bq:=
 if MC R ps=true then uo R .fin (yx R ps) (mc R look lg [] (wX R ps))
 else if pre (R.cs.extract ps R.cs.size) iZ=true then .tok .lost (ps+1)
 else if ps=R.cs.size then vZ R look lg bg
 else .tok (.TJ (nP (R.cs.extract ps (scan (jy iZ) R.cs ps)))) (sO R ps)
def Oc(r:Nat)(R:RC)(bg ps g cap b lg:Nat)(look:O->Option O)(cut:Nat->Nat)(w:J)(h:Rd w r R bg ps)(hO:Z7 w r R g cap b lg look cut)(hb:bg<R.cs.size)(hp:ps<=R.cs.size):
  Calls prog 155 #[gI r] w λe w'=>pn w r R bg cut e w' (mO R look lg bg ps):=by
 have HO:=hO;have HR:=h;have hs:=hO.small;have CL:=DN r R bg ps w h hp hs;have a9:∀(fn:Fn)(first cap:jL)(w:J),(Instr.makeFunc fn first cap).run prog w=.ok (.func fn first cap) w:=λ_ _ _ _=>rfl;cases hl:MC R ps
 .rw[hl]at CL;have u:=V CL;have CT:=λq=>mU r R bg ps iZ (w.drewN q) (show Rd (w.drewN q) r R bg ps from HR) hp hs (by decide);clear CL;cases hgt:pre (R.cs.extract ps R.cs.size) iZ
  .have a0:taken R iZ ps=ps:=by unfold taken;rw[Xx (by simp[hgt])]
   rw[hgt,a0]at CT;have I:=V CT;clear CT;by_cases p:ps=R.cs.size
   .have Q:mO R look lg bg ps=vZ R look lg bg:=by unfold mO;rw[Xx (by simp[hl]),Xx (by simp[hgt]),sL p]
    rw[Q];have e3:decide (ps=R.cs.size)=true:=by simp[p]
    go_enter func155,ntmps155;go_wp21;refine u.mono ?_;rintro e w1⟨rfl,q,rfl⟩;go_wp21;refine(I q).mono ?_;rintro e w2⟨rfl,z,o⟩;have j:=((Z.refl [r] w).drewN q).trans z;have y:=pZ r R bg ps w2 o;rw[e3]at y;go_wp21;refine y.mono ?_;rintro e w3⟨rfl,F,rfl⟩;have P:=FM r R bg ps g cap b lg look cut (w2.drewN F) (show Rd (w2.drewN F) r R bg ps from o) (HO.kept (j.drewN F)).gG (HO.kept (j.drewN F)).aZ hb hs;go_wp21;refine P.mono ?_;rintro e w4⟨rfl,E,U⟩;have HF:=(show pn w r R bg cut (iA (.iface 184 (.agg #[G (cut bg),G (cut (bg+qS look lg (R.cs.extract bg R.cs.size))),Y (qT look lg (R.cs.extract bg R.cs.size))]))) w4 (vZ R look lg bg)from⟨⟨_,rfl,rfl⟩,(j.drewN F).trans E,U⟩);go_wp2;go_ret;exact HF
   .have Q:mO R look lg bg ps=.tok (.TJ (nP (R.cs.extract ps (scan (jy iZ) R.cs ps)))) (sO R ps):=by unfold mO;rw[Xx (by simp[hl]),Xx (by simp[hgt]),Xx p]
    rw[Q];have e3:decide (ps=R.cs.size)=false:=by simp[p]
    go_enter func155,ntmps155;go_wp21;refine u.mono ?_;rintro e w1⟨rfl,q,rfl⟩;go_wp21;refine(I q).mono ?_;rintro e w2⟨rfl,z,o⟩;have j:=((Z.refl [r] w).drewN q).trans z;have y:=pZ r R bg ps w2 o;rw[e3]at y;go_wp21;refine y.mono ?_;rintro e w3⟨rfl,F,rfl⟩;have a1:=HO.kept (j.drewN F);have P:=vQ r R bg ps g cap cut (w2.drewN F) (show Rd (w2.drewN F) r R bg ps from o) a1.gG a1.gl (by omega) hp hs;go_wp21;refine P.mono ?_;rintro e w4⟨rfl,E,a6⟩;have a4:=(j.drewN F).trans E;go_wp2;go_ret;exact⟨⟨_,rfl,rfl⟩,a4,a6⟩
  .have a0:taken R iZ ps=ps+1:=by unfold taken;rw[sL hgt];rfl
   have a8:ps+1<=R.cs.size:=mL hgt hp;rw[hgt,a0]at CT;have I:=V CT;have Q:mO R look lg bg ps=.tok .lost (ps+1):=by unfold mO;rw[Xx (by simp[hl]),sL hgt]
   rw[Q];clear CT;go_enter func155,ntmps155;go_wp21;refine u.mono ?_;rintro e w1⟨rfl,q,rfl⟩;go_wp21;refine(I q).mono ?_;rintro e w2⟨rfl,z,o⟩;have j:=((Z.refl [r] w).drewN q).trans z;have CP:=rj r R bg (ps+1) g cap cut w2 o (HO.kept j).gG (by omega) a8 hs;go_wp21;refine CP.mono ?_;rintro e w3⟨rfl,a2⟩;have a3:=j.trans (a2.mono (by simp));have a5:=o.kept a2 (by simp);go_wp2;go_ret;exact⟨⟨_,rfl,rfl⟩,a3,a5⟩
 .rw[hl]at CL;have u:=V CL;have Q:mO R look lg bg ps=uo R .fin (yx R ps) (mc R look lg [] (wX R ps)):=by unfold mO;rw[sL hl]
  rw[Q];have P:=(λq=>afd r R bg ps g cap b lg look cut (w.drewN q) (show Rd (w.drewN q) r R bg ps from HR) (HO.kept ((Z.refl [r] w).drewN q)) (by omega) hp);generalize uo R .fin (yx R ps) (mc R look lg [] (wX R ps))=T at P|-;clear CL;cases T with
  |stop=>
   go_enter func155,ntmps155;go_wp21;refine u.mono ?_;rintro e w1⟨rfl,q,rfl⟩;go_wp21;refine(P q).mono ?_;rintro e w1⟨k,rfl,H2,h3,h4⟩;have H4:=((Z.refl [r] w).drewN q).trans h4;have a7:w.heap.size<=k:=h3;go_wp2;exact⟨rfl,k,rfl,H2,a7,H4⟩
  |tok kd m=>
   go_enter func155,ntmps155;go_wp21;refine u.mono ?_;rintro e w1⟨rfl,q,rfl⟩;go_wp21;refine(P q).mono ?_;rintro e w4⟨⟨v,rfl,hv⟩,E,U⟩;have HF:=(show pn w r R bg cut (iA v) w4 (.tok kd m)from⟨⟨v,rfl,hv⟩,((Z.refl [r] w).drewN q).trans E,U⟩);go_wp2;go_ret;exact HF
def eS(R:RC)(ps:Nat):Bool:=decide (ps<R.cs.size)&&jy ⟨#[63]⟩ (bt R.cs ps)
def qD(R:RC)(look:O->Option O)(lg bg ps:Nat):Bq:=
 if MC R ps=true then uo R .TN (yx R ps) (mc R look lg [] (wX R ps))
 else if pre (R.cs.extract ps R.cs.size) ⟨#[47]⟩=true then mO R look lg bg (ps+1)
 else if pre (R.cs.extract ps R.cs.size) ⟨#[33,45,45]⟩=true then .tok (.TJ (nP (pu R (ps+3)))) (oN R (ps+3))
 else if Bi R mZ ps=true then .tok (.cU (Yg R (ps+8)) (dT R (ps+8))) (sO R (JA R (ps+8)))
 else if pre (R.cs.extract ps R.cs.size) ⟨#[33]⟩=true then .tok (.TJ (nP (R.cs.extract (ps+1) (scan (jy iZ) R.cs (ps+1))))) (sO R (ps+1))
 else if eS R ps=true then .tok (.TJ (nP (R.cs.extract ps (scan (jy iZ) R.cs ps)))) (sO R ps)
 else vZ R look lg bg
theorem Vi(h:Bi R s ps=true)(j:ps<=R.cs.size):ps+s.size<=R.cs.size:=by
 grind[Bi]
theorem afN(r:Nat)(R:RC)(bg ps:Nat)(w:J)(h:Rd w r R bg ps)(m:ps<=R.cs.size)(hs:R.cs.size<=1024):
  Calls prog 152 #[gI r,.func (.func 251) #[] #[gI w.heap.size]] (w.alloc (.cells #[Y ⟨#[63]⟩] 9))
   λe w'=>e=iA (.bool (eS R ps))/\Z [r] w w'/\Rd w' r R bg ps:=by
 have o:=ja h;have k:Z [] w (w.alloc (.cells #[Y ⟨#[63]⟩] 9)):=(Z.refl _ _).alloc _;refine(MD r R bg ps _ _ _ _ (k.at h (by simp)) m hs (Ec _ [r] _ ⟨#[63]⟩ (by simp) (by simp) (by grind))).mono ?_;rintro e w'⟨j,n,rfl⟩;exact⟨j,(k.mono (by simp)).drewN n,k.at h (by simp)⟩
def Rx(r:Nat)(R:RC)(bg ps g cap b lg:Nat)(look:O->Option O)(cut:Nat->Nat)(w:J)(h:Rd w r R bg ps)(hO:Z7 w r R g cap b lg look cut)(hb:bg<R.cs.size)(E:ps<=R.cs.size):
  Calls prog 83 #[gI r] w λe w'=>pn w r R bg cut e w' (qD R look lg bg ps):=by
 have I:=hO.small;have aa:=DN r R bg ps w h E I;obtain⟨T,p⟩:∃T,qD R look lg bg ps=T:=⟨_,rfl⟩;rw[p];unfold qD at p;go_enter func83,ntmps83;go_wp21;refine aa.mono ?_;rintro e w1⟨rfl,q,rfl⟩;have P:=(Z.refl [r] w).drewN q;have a4:Rd (w.drewN q) r R bg ps:=h;cases c0:MC R ps with
 |true=>
  rw[sL c0]at p;have j:=hO.kept P;have z:=ZH r R bg ps g cap b lg look cut (w.drewN q) a4 j (by omega) E;rw[p]at z;cases T with
  |stop=>
   go_wp21;refine z.mono ?_;rintro e F⟨k,rfl,h2,h3,h4⟩;have U:=pn.back (show pn (w.drewN q) r R bg cut _ F .stop from⟨k,rfl,h2,h3,h4⟩) P;go_wp2;exact⟨rfl,U⟩
  |tok kd m=>
   go_wp21;refine z.mono ?_;rintro e F⟨⟨v,rfl,hv⟩,hk,o⟩;have U:=pn.back (show pn (w.drewN q) r R bg cut (iA v) F (.tok kd m)from⟨⟨v,rfl,hv⟩,hk,o⟩) P;go_wp2;go_ret;exact U
 |false=>
  rw[Xx (by simp[c0])]at p;have a5:=mU r R bg ps ⟨#[47]⟩ (w.drewN q) a4 E I (by decide);go_wp21;refine a5.mono ?_;rintro e w2⟨rfl,hk,o⟩;have Q:=P.trans hk;unfold taken at o;cases c1:pre (R.cs.extract ps R.cs.size) ⟨#[47]⟩with
  |true=>
   rw[sL c1]at p o;have j:=hO.kept Q;have z:=Oc r R bg (ps+1) g cap b lg look cut w2 o j hb (mL c1 E);rw[p]at z;cases T with
   |stop=>
    go_wp21;refine z.mono ?_;rintro e F⟨k,rfl,h2,h3,h4⟩;have U:=pn.back (show pn w2 r R bg cut _ F .stop from⟨k,rfl,h2,h3,h4⟩) Q;go_wp2;exact⟨rfl,U⟩
   |tok kd m=>
    go_wp21;refine z.mono ?_;rintro e F⟨⟨v,rfl,hv⟩,hk,o⟩;have U:=pn.back (show pn w2 r R bg cut (iA v) F (.tok kd m)from⟨⟨v,rfl,hv⟩,hk,o⟩) Q;go_wp2;go_ret;exact U
  |false=>
   rw[Xx (by simp[c1])]at p o;have a6:=mU r R bg ps ⟨#[33,45,45]⟩ w2 o E I (by decide);go_wp21;refine a6.mono ?_;rintro e w3⟨rfl,hk,o⟩;have a0:=Q.trans hk;unfold taken at o;cases c2:pre (R.cs.extract ps R.cs.size) ⟨#[33,45,45]⟩with
   |true=>
    rw[sL c2]at p o;have j:=hO.kept a0;have z:=(Ut r R bg (ps+3) g cap cut w3 o j.gG j.gl (by omega) (mL c2 E) I);subst p;go_wp21;refine z.mono ?_;rintro e F⟨rfl,hk,y⟩;have u:=a0.trans hk;go_wp2;go_ret;exact⟨⟨_,rfl,rfl⟩,u,y⟩
   |false=>
    rw[Xx (by simp[c2])]at p o;have a7:=Xc r R bg ps mZ w3 o E I (by decide);go_wp21;refine a7.mono ?_;rintro e w4⟨rfl,hk,o⟩;have a1:=a0.trans hk;cases c3:Bi R mZ ps with
    |true=>
     rw[sL c3]at p o;have j:=hO.kept a1;have z:=(Om r R bg (ps+8) g cap cut w4 o j.gG j.gl (by omega) (Vi c3 E) I);subst p;go_wp21;refine z.mono ?_;rintro e F⟨rfl,hk,y⟩;have u:=a1.trans hk;go_wp2;go_ret;exact⟨⟨_,rfl,rfl⟩,u,y⟩
    |false=>
     rw[Xx (by simp[c3])]at p o;have a8:=mU r R bg ps ⟨#[33]⟩ w4 o E I (by decide);go_wp21;refine a8.mono ?_;rintro e w5⟨rfl,hk,o⟩;have a2:=a1.trans hk;unfold taken at o;cases c4:pre (R.cs.extract ps R.cs.size) ⟨#[33]⟩with
     |true=>
      rw[sL c4]at p o;have j:=hO.kept a2;have z:=(vQ r R bg (ps+1) g cap cut w5 o j.gG j.gl (by omega) (mL c4 E) I);subst p;go_wp21;refine z.mono ?_;rintro e F⟨rfl,hk,y⟩;have u:=a2.trans hk;go_wp2;go_ret;exact⟨⟨_,rfl,rfl⟩,u,y⟩
     |false=>
      rw[Xx (by simp[c4])]at p o;go_wp21;refine(qh _ _).mono ?_;rintro e wq⟨rfl,rfl⟩;have a9:=afN r R bg ps w5 o E I;go_wp21;refine a9.mono ?_;rintro e w6⟨rfl,hk,o⟩;have a3:=a2.trans hk;have j:=hO.kept a3;cases c5:eS R ps with
      |true=>
       rw[sL c5]at p;have z:=(vQ r R bg ps g cap cut w6 o j.gG j.gl (by omega) E I);subst p;go_wp21;refine z.mono ?_;rintro e F⟨rfl,hk,y⟩;have u:=a3.trans hk;go_wp2;go_ret;exact⟨⟨_,rfl,rfl⟩,u,y⟩
      |false=>
       rw[Xx (by simp[c5])]at p;have z:=(FM r R bg ps g cap b lg look cut w6 o j.gG j.aZ hb I);subst p;go_wp21;refine z.mono ?_;rintro e F⟨rfl,hk,y⟩;have u:=a3.trans hk;go_wp2;go_ret;exact⟨⟨_,rfl,rfl⟩,u,y⟩
def yJ(t:O):O:=⟨(Lib.trimPrefix t.data.toList [60,47]).toArray⟩
def Ol(t:O):Bool:=Lib.hasPrefix t.data.toList [60,47]
theorem K4(t:O):(yJ t).size<=t.size:=by
 have e2:(yJ t).size=(Lib.trimPrefix _ _).length:=rfl;rw[(Z1 t),e2];unfold Lib.trimPrefix;grind
def Sh(R:RC)(nm:O)(ps:Nat):Bool:=
 Ol (R.cs.extract ps R.cs.size)&&decide (nm.size<(yJ (R.cs.extract ps R.cs.size)).size)&&((small ((yJ (R.cs.extract ps R.cs.size)).extract 0 nm.size)).toList==nm.toList)&&jy jn (bt (yJ (R.cs.extract ps R.cs.size)) nm.size)
def Jm(v:gP)(W:J):Prop:=∃b,v=.func (.func 251) #[] #[gI b]/\b<W.heap.size/\W.cell? ⟨b,0,none⟩=some (Y jn)
def Jm.k{v:gP}{W j:J}(h:Jm v W)(hk:Z [] W j):Jm v j:=by
 have⟨b,h1,h2,h3⟩:=h;exact⟨b,h1,nr h2 hk.size,(hk.cell h2 (by simp)).trans h3⟩
theorem Jm.new(W:J):Jm (.func (.func 251) #[] #[gI W.heap.size]) (W.alloc (.cells #[Y jn] 9)):=by
 simp[Jm]
def alU(r:Nat)(R:RC)(bg ps:Nat)(nm:O)(w:J)(h:Rd w r R bg ps)(Q:ps<=R.cs.size)(hs:R.cs.size<=1024)(I:Ol (R.cs.extract ps R.cs.size)=false):
  Calls prog 147 #[gI r,Y nm] w λe w'=>e=iA (.bool false)/\Z [] w w':=by
 have p:=V (yr r R bg ps w h Q hs);have U:=K4 (R.cs.extract ps R.cs.size);have k:(R.cs.extract ps R.cs.size).size=R.cs.size-ps:=by simp
 rw[k]at U;clear h k;generalize R.cs.extract ps R.cs.size=t at *;have m:=V (λw=>Tryz.strings_CutPrefix t qY w);simp only at m;rw[show(⟨(Lib.trimPrefix t.data.toList [60,47]).toArray⟩:O)=yJ t from rfl,show Lib.hasPrefix t.data.toList [60,47]=Ol t from rfl]at m;generalize yJ t=s at *;rw[I]at m;obtain⟨u,T⟩:∃u:O,u=⟨#[]⟩:=⟨_,rfl⟩;obtain⟨c,F⟩:∃c:Int,c=0:=⟨_,rfl⟩;clear I T F;go_enter func147,ntmps147;go_wp21;refine p.out.mono ?_;rintro e w1⟨rfl,q,rfl⟩;go_wp21;refine(m.out _).mono ?_;rintro e w'⟨rfl,rfl⟩;go_wp21;refine Xz (by rfl) ?_;refine oT (λ(g:Unit) z=>⟨#[gI r,Y nm,undef,undef,.bool false,Y s,.bool false,G nm.size,.tuple #[Y s,.bool false],gI r,Y t,.tuple #[Y s,.bool false],Y s,.bool false,Y nm,G nm.size,cd z 0 (.bool false),cd z 1 (.bool false),undef,undef,undef,undef,cd z 6 (.bool false),cd z 7 (.bool false),undef,undef,undef,undef,undef,undef,cd z 14 (.bool false),cd z 15 (.bool false),undef,undef,undef,undef,undef,cd z 21 (.bool false)],[]⟩) (λg z W=>Z [] w W) 23 [[],[0],[1],[1],[1],[1],[1],[6],[7],[7],[7],[7],[7],[7],[7],[14],[15],[15],[15],[15],[15],[15],[21]] (()) rfl (by rfl) (((Z.refl [] w).drewN q).drew) ?_ ?_
 .repeat' first|exact mg|refine mf ?_ ?_
  all_goals
   rintro g z W o E hn;simp[Bs]at E;refine N2 rfl ?_;intro K' y;simp only[lH,E];go_simp
   first
   |refine y _ _ ⟨g,?_,o⟩
   simp[pr,wy,lH,E]
 .rintro g W o;simp only[vJ];have P:=V o;clear o;rename_i KK j;refine j _ _ ?_;clear j KK;go_wp2;go_ret;exact⟨rfl,P.out⟩
def alV(r:Nat)(R:RC)(bg ps:Nat)(nm:O)(w:J)(h:Rd w r R bg ps)(T:ps<=R.cs.size)(hs:R.cs.size<=1024)(I:Ol (R.cs.extract ps R.cs.size)=true)(hl:¬nm.size<(yJ (R.cs.extract ps R.cs.size)).size):
  Calls prog 147 #[gI r,Y nm] w λe w'=>e=iA (.bool false)/\Z [] w w':=by
 have p:=V (yr r R bg ps w h T hs);have hz:=K4 (R.cs.extract ps R.cs.size);have k:(R.cs.extract ps R.cs.size).size=R.cs.size-ps:=by simp
 rw[k]at hz;clear h k;generalize R.cs.extract ps R.cs.size=t at *;have m:=V (λw=>Tryz.strings_CutPrefix t qY w);simp only at m;rw[show(⟨(Lib.trimPrefix t.data.toList [60,47]).toArray⟩:O)=yJ t from rfl,show Lib.hasPrefix t.data.toList [60,47]=Ol t from rfl]at m;generalize yJ t=s at *;rw[I]at m;obtain⟨u,U⟩:∃u:O,u=⟨#[]⟩:=⟨_,rfl⟩;obtain⟨c,F⟩:∃c:Int,c=0:=⟨_,rfl⟩;have P:=V (eq_false (show ¬(nm.size:Int)<(s.size:Int) by omega));clear I U F;go_enter func147,ntmps147;go_wp21;refine p.out.mono ?_;rintro e w1⟨rfl,q,rfl⟩;go_wp21;refine(m.out _).mono ?_;rintro e w'⟨rfl,rfl⟩;go_wp21;refine Xz (by rfl) ?_;refine oT (λ(g:Unit) z=>⟨#[gI r,Y nm,undef,undef,.bool false,Y s,.bool true,G nm.size,.tuple #[Y s,.bool true],gI r,Y t,.tuple #[Y s,.bool true],Y s,.bool true,Y nm,G nm.size,cd z 0 (.bool true),cd z 1 (.bool true),cd z 2 (Y s),cd z 3 (G s.size),cd z 4 (G nm.size),cd z 5 (.bool false),cd z 6 (.bool false),cd z 7 (.bool false),undef,undef,undef,undef,undef,undef,cd z 14 (.bool false),cd z 15 (.bool false),undef,undef,undef,undef,undef,cd z 21 (.bool false)],[]⟩) (λg z W=>Z [] w W) 23 [[],[0],[1],[1,2],[1],[1,3,4],[1,5],[6],[7],[7],[7],[7],[7],[7],[7],[14],[15],[15],[15],[15],[15],[15],[21]] (()) rfl (by rfl) (((Z.refl [] w).drewN q).drew) ?_ ?_
 .repeat' first|exact mg|refine mf ?_ ?_
  all_goals
   rintro g z W o E hn;simp[Bs]at E;refine N2 rfl ?_;intro K' y;simp only[lH,E]
   try simp only[P.out]
   go_simp
   first
   |refine y _ _ ⟨g,?_,o⟩
   simp[pr,wy,lH,E]
 .rintro g W o;simp only[vJ];have Q:=V o;clear o;rename_i KK j;refine j _ _ ?_;clear j KK;go_wp2;go_ret;exact⟨rfl,Q.out⟩
def alW(r:Nat)(R:RC)(bg ps:Nat)(nm:O)(w:J)(h:Rd w r R bg ps)(hp:ps<=R.cs.size)(hs:R.cs.size<=1024)(Q:Ol (R.cs.extract ps R.cs.size)=true)(hl:nm.size<(yJ (R.cs.extract ps R.cs.size)).size)(he:((small ((yJ (R.cs.extract ps R.cs.size)).extract 0 nm.size)).toList==nm.toList)=false):
  Calls prog 147 #[gI r,Y nm] w λe w'=>e=iA (.bool false)/\Z [] w w':=by
 have y:=V (yr r R bg ps w h hp hs);have hz:=K4 (R.cs.extract ps R.cs.size);have o:(R.cs.extract ps R.cs.size).size=R.cs.size-ps:=by simp
 rw[o]at hz;clear h o;generalize R.cs.extract ps R.cs.size=t at *;have p:=V (λw=>Tryz.strings_CutPrefix t qY w);simp only at p;rw[show(⟨(Lib.trimPrefix t.data.toList [60,47]).toArray⟩:O)=yJ t from rfl,show Lib.hasPrefix t.data.toList [60,47]=Ol t from rfl]at p;generalize yJ t=s at *;rw[Q]at p;have ez:(s.extract 0 nm.size).size=nm.size:=by simp;omega
 have E:=V (λW=>xU (s.extract 0 nm.size) W (by omega));have T:=V (eq_true (show(nm.size:Int)<(s.size:Int) by omega));clear ez;generalize small (s.extract 0 nm.size)=u at *;obtain⟨c,I⟩:∃c:Int,c=0:=⟨_,rfl⟩;clear Q I;go_enter func147,ntmps147;go_wp21;refine y.out.mono ?_;rintro e w1⟨rfl,q,rfl⟩;go_wp21;refine(p.out _).mono ?_;rintro e w'⟨rfl,rfl⟩;go_wp21;refine Xz (by rfl) ?_;refine oT (λ(g:Unit) z=>⟨#[gI r,Y nm,undef,undef,.bool false,Y s,.bool true,G nm.size,.tuple #[Y s,.bool true],gI r,Y t,.tuple #[Y s,.bool true],Y s,.bool true,Y nm,G nm.size,cd z 0 (.bool true),cd z 1 (.bool true),cd z 2 (Y s),cd z 3 (G s.size),cd z 4 (G nm.size),cd z 5 (.bool true),cd z 6 (.bool true),cd z 7 (.bool true),cd z 8 (Y s),cd z 9 (G nm.size),cd z 10 (Y (s.extract 0 nm.size)),cd z 11 (Y u),cd z 12 (Y nm),cd z 13 (.bool false),cd z 14 (.bool false),cd z 15 (.bool false),undef,undef,undef,undef,undef,cd z 21 (.bool false)],[]⟩) (λg z W=>Z [] w W) 23 [[],[0],[1],[1,2],[1],[1,3,4],[1,5],[6],[7],[7],[7,8,9],[7,10],[7],[7,11,12],[7,13],[14],[15],[15],[15],[15],[15],[15],[21]] (()) rfl (by rfl) (((Z.refl [] w).drewN q).drew) ?_ ?_
 .repeat' first|exact mg|refine mf ?_ ?_
  all_goals
   rintro g z W j F hn;simp[Bs]at F;refine N2 rfl ?_;intro K' k;simp only[lH,F]
   try simp only[T.out]
   go_simp
   try (rw[sL (by omega)];go_simp)
   first
   |refine k _ _ ⟨g,?_,j⟩
   |refine(E.out W).mono ?_;rintro ee W2⟨rfl,P⟩;refine k _ _ ⟨g,?_,j.trans P⟩
   simp[pr,wy,lH,F]
 .rintro g W j;simp only[vJ];have U:=V j;clear j;rename_i KK m;refine m _ _ ?_;clear m KK;go_wp2;go_ret;exact⟨rfl,U.out⟩
def alX(r:Nat)(R:RC)(bg ps:Nat)(nm:O)(w:J)(h:Rd w r R bg ps)(hp:ps<=R.cs.size)(hs:R.cs.size<=1024)(ho:Ol (R.cs.extract ps R.cs.size)=true)(hl:nm.size<(yJ (R.cs.extract ps R.cs.size)).size)(he:((small ((yJ (R.cs.extract ps R.cs.size)).extract 0 nm.size)).toList==nm.toList)=true):
  Calls prog 147 #[gI r,Y nm] w λe w'=>e=iA (.bool (jy jn (bt (yJ (R.cs.extract ps R.cs.size)) nm.size)))/\Z [] w w':=by
 have I:=V (yr r R bg ps w h hp hs);have hz:=K4 (R.cs.extract ps R.cs.size);have p:(R.cs.extract ps R.cs.size).size=R.cs.size-ps:=by simp
 rw[p]at hz;clear h p;generalize R.cs.extract ps R.cs.size=t at *;have E:=V (λw=>Tryz.strings_CutPrefix t qY w);simp only at E;rw[show(⟨(Lib.trimPrefix t.data.toList [60,47]).toArray⟩:O)=yJ t from rfl,show Lib.hasPrefix t.data.toList [60,47]=Ol t from rfl]at E;generalize yJ t=s at *;rw[ho]at E;have ez:(s.extract 0 nm.size).size=nm.size:=by simp;omega
 have P:=V (λW=>xU (s.extract 0 nm.size) W (by omega));have HL:=V (eq_true (show(nm.size:Int)<(s.size:Int) by omega));clear ez;generalize small (s.extract 0 nm.size)=u at *;have hb:=get_bt s nm.size hl;have h0:=bt_nonneg s nm.size;have h1:=bt_le s nm.size;clear ho;generalize bt s nm.size=c at *;go_enter func147,ntmps147;go_wp21;refine I.out.mono ?_;rintro e w1⟨rfl,q,rfl⟩;go_wp21;refine(E.out _).mono ?_;rintro e w'⟨rfl,rfl⟩;go_wp21;refine Xz (by rfl) ?_;refine oT (λ(g:gP) z=>⟨#[gI r,Y nm,undef,undef,ce z 22 (.bool false) (.bool (jy jn c)),Y s,.bool true,G nm.size,.tuple #[Y s,.bool true],gI r,Y t,.tuple #[Y s,.bool true],Y s,.bool true,Y nm,G nm.size,cd z 0 (.bool true),cd z 1 (.bool true),cd z 2 (Y s),cd z 3 (G s.size),cd z 4 (G nm.size),cd z 5 (.bool true),cd z 6 (.bool true),cd z 7 (.bool true),cd z 8 (Y s),cd z 9 (G nm.size),cd z 10 (Y (s.extract 0 nm.size)),cd z 11 (Y u),cd z 12 (Y nm),cd z 13 (.bool true),cd z 14 (.bool true),cd z 15 (.bool true),cd z 16 (g),cd z 17 (Y s),cd z 18 (G nm.size),cd z 19 (.int .u8 c),cd z 20 (.bool (jy jn c)),cd z 21 (.bool (jy jn c))],[]⟩) (λg z W=>Z [] w W/\(dn z 16=true->Jm g W)) 23 [[],[0],[1],[1,2],[1],[1,3,4],[1,5],[6],[7],[7],[7,8,9],[7,10],[7],[7,11,12],[7,13],[14],[15],[15],[15],[15,17,18],[15,16,19],[15,20],[21]] (undef) rfl rfl (⟨((Z.refl [] w).drewN q).drew,λh=>by cases h⟩) ?_ ?_
 .repeat' first|exact mg|refine mf ?_ ?_
  all_goals
   rintro g z W j F hn;simp[Bs]at F;refine N2 rfl ?_;intro K' k;simp only[lH,F]
   try simp only[HL.out]
   go_simp
   try (rw[sL (by omega)];go_simp)
   first
   |refine k _ _ ⟨g,?_,j.1,λh=>j.2 (by simpa [lY]using h)⟩
   |refine(P.out W).mono ?_;rintro ee U⟨rfl,y⟩;refine k _ _ ⟨g,?_,j.1.trans y,λh=>(j.2 (by simpa [lY]using h)).k y⟩
   |refine(qh _ W).mono ?_;rintro ee U⟨rfl,rfl⟩;refine k _ _ ⟨_,?_,j.1.alloc _,λ_=>Jm.new W⟩
   |obtain⟨bb,rfl,T,Q⟩:=j.2 (by simp[F]);have m:=Ec W [] bb _ Q T (by simp);have a0:=m.cV;go_simp;refine(m.ask c W h0 h1 (Z.refl _ _)).mono ?_;rintro ee U⟨rfl,nq,rfl⟩;refine k _ _ ⟨_,?_,j.1.drewN nq,λh=>(j.2 (by simpa [lY]using h)).k ((Z.refl [] W).drewN nq)⟩
   simp[pr,wy,lH,xl,FJ,F]
 .rintro g W j;simp only[vJ,RD];have HW:=V j.1;clear j;rename_i KK o;refine o _ _ ?_;clear o KK;go_wp2;go_ret;exact⟨rfl,HW.out⟩
def yy(R:RC)(look:O->Option O)(lg bg:Nat):Bq:=
 if R.cZ=true then .tok (.XG (nP (R.cs.extract bg (bg+1)))) (bg+1)
 else .tok (.XG (nP (qT look lg (R.cs.extract bg R.cs.size)))) (bg+qS look lg (R.cs.extract bg R.cs.size))
theorem ye(h:∀x t,look x=some t->t.size<=16):(qT look lg s).size<=16:=by
 grind[zl,ByteArray.size_extract,qT]
def NJ(r:Nat)(R:RC)(bg ps e0:Nat)(k:O)(pl:Bool)(cut:Nat->Nat)(w:J)(h:Rd w r R bg ps)(hG:Gl w r)(I:R.cZ=pl)(P:k.size<=1048576)(F:Nat)(T:F=(if pl then 148 else 84))
  (C:Calls prog F #[gI r] w λe w'=>e=iA (.agg #[G (cut bg),G (cut e0),Y k])/\Z [r] w w'/\Rd w' r R bg e0):
  Calls prog 81 #[gI r] w λe w'=>pn w r R bg cut e w' (.tok (.XG (nP k)) e0):=by
 have p:=h.cZ;rw[I]at p;have hr:=ja h;have HC:=C;have HG:=hG;have y:=(λW (hg:Gl W r)=>zJ r k W P hg);generalize nP k=nn at *;cases pl
 all_goals
  simp only[ZY,↓reduceIte]at T;subst T;go_enter func81,ntmps81;go_wp21;refine HC.mono ?_;rintro e u⟨rfl,j,m⟩;have Q:=(Z.refl [] u).alloc (.cells #[G (cut bg),G (cut e0),Y k] 184);have U:=fU u (.cells #[G (cut bg),G (cut e0),Y k] 184);have E:u.heap.size≠r:=by have:=ja m;omega
  have z:=y _ (HG.kept (j.trans (Q.mono (by simp))));have HZ:=j.size;go_wp21;refine z.mono ?_;rintro e w2⟨rfl,o⟩;have q:=o.at U (by simp);have q0:=fP q 0;have q1:=fP q 1;have q2:=fP q 2;have z2:=gx q 2;dsimp at q0 q1 q2;have KW:Z [] u w2:=Q.trans o;go_wp2;go_ret;exact⟨⟨_,rfl,rfl⟩,((j.trans (KW.mono (by simp))).setCell (.inr HZ) _),((m.kept KW (by simp)).rS E _)⟩
theorem ZO(r:Nat)(R:RC)(bg ps g cap b lg:Nat)(look:O->Option O)(cut:Nat->Nat)(w:J)(h:Rd w r R bg ps)(j:Z7 w r R g cap b lg look cut)(k:bg<R.cs.size):
  Calls prog 81 #[gI r] w λe w'=>pn w r R bg cut e w' (yy R look lg bg):=by
 unfold yy;split;rename_i m;exact NJ r R bg ps _ _ true cut w h j.gl m (by grind[ByteArray.size_extract]) _ rfl (FE r R bg ps g cap cut w h j.gG k j.small);exact NJ r R bg ps _ _ false cut w h j.gl (by grind) (jZ (ye j.aZ.lk.short) (by decide)) _ rfl (FM r R bg ps g cap b lg look cut w h j.gG j.aZ k j.small)
def acM(r:Nat)(R:RC)(bg ps:Nat)(nm:O)(w:J)(h:Rd w r R bg ps)(k:ps<=R.cs.size)(hs:R.cs.size<=1024):
  Calls prog 147 #[gI r,Y nm] w λe w'=>e=iA (.bool (Sh R nm ps))/\Z [] w w':=by
 unfold Sh;cases ho:Ol (R.cs.extract ps R.cs.size);exact alU r R bg ps nm w h k hs ho;by_cases j:nm.size<(yJ (R.cs.extract ps R.cs.size)).size;rw[Hl j];cases he:((small ((yJ (R.cs.extract ps R.cs.size)).extract 0 nm.size)).toList==nm.toList);exact alW r R bg ps nm w h k hs ho j he;have:=alX r R bg ps nm w h k hs ho j he
 simpa using this
 rw[qW j];exact alV r R bg ps nm w h k hs ho j
def uJ(R:RC)(ps:Nat):RC:={R with nW:=if Sh R R.nW ps=true then ⟨#[]⟩else R.nW}
def Rd.setOf{r:Nat}(h:Rd w r R bg ps)(s:O):Rd (w.setCell ⟨r,7,none⟩ (Y s)) r {R with nW:=s} bg ps:=gh h 7 _
def Z7.setOf{r:Nat}(h:Z7 w r R g cap b lg look cut)(s:O):Z7 w r {R with nW:=s} g cap b lg look cut:=
 ⟨⟨h.gG.av,h.gG.ne,h.gG.lt,h.gG.at_⟩,⟨h.aZ.lk,h.aZ.ne,h.aZ.mv,h.aZ.dz,h.aZ.le⟩,h.gl,h.small⟩
theorem afD(r:Nat)(R:RC)(bg ps:Nat)(w:J)(h:Rd w r R bg ps)(I:ps<=R.cs.size)(hs:R.cs.size<=1024):
  Calls prog 80 #[gI r] w λe w'=>e=iA (.bool (!((uJ R ps).nW.toList==[])))/\Z [r] w w'/\Rd w' r (uJ R ps) bg ps:=by
 by_cases m:R.nW=⟨#[]⟩;have e1:uJ R ps=R:=by
  have⟨cs,av,at_,mv,lg,nW,cZ⟩:=R;simp only at m;subst m;simp[uJ]
 rw[e1,m];refine(acH r R bg ps w h m).mono ?_;rintro e w'⟨rfl,hk⟩;exact⟨by simp,hk.mono (by simp),h.kept hk (by simp)⟩
 .have u:(R.nW.toList==[])=false:=by
   cases hq:(R.nW.toList==[])with
   |false=>rfl
   |true=>
    exfalso;apply m;have F:R.nW.toList=[]:=by simpa using hq
    rw[sd]at F;apply NV;grind
  have o:=h.nW;have U:=ja h;have C:=acM r R bg ps R.nW w h I hs;have y:=h;unfold uJ;cases hE:Sh R R.nW ps
  .rw[hE]at C;have q:=V (show(!((if false=true then kB else R.nW).toList==[]))=true by simp[u]);have z:Hid (∀W,Rd W r R bg ps->Rd W r {R with nW:=if false=true then ⟨#[]⟩else R.nW} bg ps):=λW h=>h;rw[q.out];go_enter func80,ntmps80;go_wp21;refine C.mono ?_;rintro e Q⟨rfl,hk⟩;have k:=y.kept hk (by simp);have P:=k.nW;have E:=hk.mono (S':=[r]) (by simp);go_wp2;go_ret;simp_all
  .rw[hE]at C;have z:Hid (∀W,Rd W r R bg ps->Rd (W.setCell ⟨r,7,none⟩ (Y kB)) r {R with nW:=if true=true then ⟨#[]⟩else R.nW} bg ps):=λW h=>h.setOf _;have q:=V (show(!((if true=true then kB else R.nW).toList==[]))=false by simp);rw[q.out];go_enter func80,ntmps80;go_wp21;refine C.mono ?_;rintro e Q⟨rfl,hk⟩;have j:=y.kept hk (by simp);have P:=j.nW;have T:=j.free 7;have E:=(hk.mono (S':=[r]) (by simp)).setCell (p:=⟨r,7,none⟩) (.inl (by simp)) (Y kB);have k:=z _ j;go_wp2;go_ret;simp_all
def kF(R:RC)(look:O->Option O)(lg ps:Nat):Bq:=
 if ps=R.cs.size then .tok .UM ps
 else if ((uJ R ps).nW.toList==[])=true then (if pre (R.cs.extract ps R.cs.size) rG=true then qD (uJ R ps) look lg ps (ps+1)else vZ (uJ R ps) look lg ps)
 else yy (uJ R ps) look lg ps
def Cm(R:RC)(ps:Nat):RC:=if ps=R.cs.size then R else uJ R ps
def amd(r:Nat)(R:RC)(bg ps g cap b lg:Nat)(look:O->Option O)(cut:Nat->Nat)(w:J)(h:Rd w r R bg ps)(hO:Z7 w r R g cap b lg look cut)(hp:ps<=R.cs.size):
  Calls prog 47 #[gI r] w λe w'=>pn w r (Cm R ps) ps cut e w' (kF R look lg ps):=by
 have hs:=hO.small;have p2:=h.bg;have p3:=h.ps;have f2:=h.free 2;obtain⟨P,a5⟩:∃P,P=w.setCell ⟨r,2,none⟩ (G ps):=⟨_,rfl⟩;have a2:Rd P r R ps ps:=by rw[a5];exact h.anT ps
 have U:Z [r] w P:=by rw[a5];exact(Z.refl _ _).setCell (.inl (by simp)) _
 have HW:=V a5.symm;have HO:=hO.kept U;have CE:=pZ r R ps ps P a2;clear h hO a5;by_cases u:ps=R.cs.size
 .have eT:kF R look lg ps=.tok .UM ps:=by unfold kF;rw[sL u]
  have eR:Cm R ps=R:=by unfold Cm;rw[sL u]
  rw[eT,eR];have e3:decide (ps=R.cs.size)=true:=by simp[u]
  rw[e3]at CE;have Q:=V CE;clear CE eT e3 u eR;go_enter func47,ntmps47;go_wp21;rw[HW.out];refine Q.mono ?_;rintro e w2⟨rfl,q,rfl⟩;have CP:=rj r R ps ps g cap cut (P.drewN q) (show Rd (P.drewN q) r R ps ps from a2) (HO.kept ((Z.refl [r] P).drewN q)).gG hp hp hs;go_wp21;refine CP.mono ?_;rintro e w3⟨rfl,j⟩;have p:=(U.drewN q).trans (j.mono (by simp));have y:Hid (Rd w3 r R ps ps):=j.at (show Rd (P.drewN q) r R ps ps from a2) (by simp);clear j CP;go_wp2;go_ret;exact⟨⟨_,rfl,rfl⟩,p,y⟩
 .have e3:decide (ps=R.cs.size)=false:=by simp[u]
  rw[e3]at CE;have Q:=V CE;clear CE e3;have eR:Cm R ps=uJ R ps:=by unfold Cm;rw[Xx u]
  have eT:kF R look lg ps=if ((uJ R ps).nW.toList==[])=true then (if pre ((uJ R ps).cs.extract ps (uJ R ps).cs.size) rG=true then qD (uJ R ps) look lg ps (ps+1)else vZ (uJ R ps) look lg ps)else yy (uJ R ps) look lg ps:=by unfold kF;rw[Xx u];rfl
  have HI:=(λq=>afD r R ps ps (P.drewN q) (show Rd (P.drewN q) r R ps ps from a2) hp hs);have a1:Z7 P r (uJ R ps) g cap b lg look cut:=HO.setOf _;have a6:ps<(uJ R ps).cs.size:=by show ps<R.cs.size;omega
  have a9:(uJ R ps).cs.size<=1024:=hs;rw[eT,eR];clear eT eR u hp hs HO a2;generalize uJ R ps=z at *;clear R;have CT:=λw2 (h2:Rd w2 r z ps ps)=>mU r z ps ps rG w2 h2 (by omega) a9 (by decide);cases ho:(z.nW.toList==[])
  .rw[ho]at HI;rw[Xx (by simp)];have HT:=(λw' h1 h2=>ZO r z ps ps g cap b lg look cut w' h1 h2 a6);generalize yy z look lg ps=T at HT|-;clear ho CT;cases T with
   |stop=>
    go_enter func47,ntmps47;go_wp21;rw[HW.out];refine Q.mono ?_;rintro e w2⟨rfl,q,rfl⟩;go_wp21;refine(HI q).mono ?_;rintro e w3⟨rfl,j,o⟩;have p:=((Z.refl [r] P).drewN q).trans j;have y:=V o;clear j o;have CC:=HT w3 y (a1.kept p);have a0:=U.trans p;go_wp21;refine CC.mono ?_;rintro e wz⟨k,rfl,h2,h3,h4⟩;have HF:=pn.back (show pn w3 r z ps cut _ wz .stop from⟨k,rfl,h2,h3,h4⟩) a0;clear h2 h3 h4 CC;go_wp2;exact⟨rfl,HF⟩
   |tok kd m=>
    go_enter func47,ntmps47;go_wp21;rw[HW.out];refine Q.mono ?_;rintro e w2⟨rfl,q,rfl⟩;go_wp21;refine(HI q).mono ?_;rintro e w3⟨rfl,j,o⟩;have p:=((Z.refl [r] P).drewN q).trans j;have y:=V o;clear j o;have CC:=HT w3 y (a1.kept p);have a0:=U.trans p;go_wp21;refine CC.mono ?_;rintro e wz⟨⟨v,rfl,hv⟩,hk,hr⟩;have HF:=pn.back (show pn w3 r z ps cut (iA v) wz (.tok kd m)from⟨⟨v,rfl,hv⟩,hk,hr⟩) a0;clear hv hk hr CC;go_wp2;go_ret;exact HF
  .rw[ho]at HI;rw[sL rfl];cases hl:pre (z.cs.extract ps z.cs.size) rG
   .rw[Xx (by simp)];have a3:taken z rG ps=ps:=by unfold taken;rw[Xx (by simp[hl])]
    rw[hl,a3]at CT;have a4:=V CT;clear CT a3 hl ho;go_enter func47,ntmps47;go_wp21;rw[HW.out];refine Q.mono ?_;rintro e w2⟨rfl,q,rfl⟩;go_wp21;refine(HI q).mono ?_;rintro e w3⟨rfl,j,o⟩;have p:=((Z.refl [r] P).drewN q).trans j;have y:=V o;clear j o;go_wp21;refine(a4 _ y).mono ?_;rintro e w4⟨rfl,F,I⟩;have E:=p.trans F;have CC:=FM r z ps ps g cap b lg look cut w4 I (a1.kept E).gG (a1.kept E).aZ a6 a9;clear F I;go_wp21;refine CC.mono ?_;rintro e w5⟨rfl,a7,a8⟩;have HF:=(show pn w r z ps cut (iA (.iface 184 (.agg #[G (cut ps),G (cut (ps+qS look lg (z.cs.extract ps z.cs.size))),Y (qT look lg (z.cs.extract ps z.cs.size))]))) w5 (vZ z look lg ps)from⟨⟨_,rfl,rfl⟩,U.trans (E.trans a7),a8⟩);clear a7 a8 CC;go_wp2;go_ret;exact HF
   .rw[sL rfl];have a3:taken z rG ps=ps+1:=by unfold taken;rw[sL hl];rfl
    have aa:ps+1<=z.cs.size:=mL hl (by omega);rw[hl,a3]at CT;have a4:=V CT;have HL:=(λw' h1 h2=>Rx r z ps (ps+1) g cap b lg look cut w' h1 h2 a6 aa);generalize qD z look lg ps (ps+1)=T at HL|-;clear CT a3 hl ho;cases T with
    |stop=>
     go_enter func47,ntmps47;go_wp21;rw[HW.out];refine Q.mono ?_;rintro e w2⟨rfl,q,rfl⟩;go_wp21;refine(HI q).mono ?_;rintro e w3⟨rfl,j,o⟩;have p:=((Z.refl [r] P).drewN q).trans j;have y:=V o;clear j o;go_wp21;refine(a4 _ y).mono ?_;rintro e w4⟨rfl,F,I⟩;have E:=p.trans F;have CC:=HL w4 I (a1.kept E);have a0:=U.trans E;clear F I;go_wp21;refine CC.mono ?_;rintro e wz⟨k,rfl,h2,h3,h4⟩;have HF:=pn.back (show pn w4 r z ps cut _ wz .stop from⟨k,rfl,h2,h3,h4⟩) a0;clear h2 h3 h4 CC;go_wp2;exact⟨rfl,HF⟩
    |tok kd m=>
     go_enter func47,ntmps47;go_wp21;rw[HW.out];refine Q.mono ?_;rintro e w2⟨rfl,q,rfl⟩;go_wp21;refine(HI q).mono ?_;rintro e w3⟨rfl,j,o⟩;have p:=((Z.refl [r] P).drewN q).trans j;have y:=V o;clear j o;go_wp21;refine(a4 _ y).mono ?_;rintro e w4⟨rfl,F,I⟩;have E:=p.trans F;have CC:=HL w4 I (a1.kept E);have a0:=U.trans E;clear F I;go_wp21;refine CC.mono ?_;rintro e wz⟨⟨v,rfl,hv⟩,hk,hr⟩;have HF:=pn.back (show pn w4 r z ps cut (iA v) wz (.tok kd m)from⟨⟨v,rfl,hv⟩,hk,hr⟩) a0;clear hv hk hr CC;go_wp2;go_ret;exact HF
def UL(bs bm bB r:Nat)(C:jL)(R:RC)(bg ps:Nat)(m:J)(k:gP)(j:lu):Env:={aat bs bm bB r C R bg ps m with tv:=k,ta:=j}
def QR(R:RC)(o:O)(p:Bool):RC:={R with nW:=o,cZ:=p}
def Qx(R:RC)(bg ps:Nat)(o:O)(p:Bool):((yp R bg ps).setIfInBounds 7 (Y o)).setIfInBounds 8 (.bool p)=yp (QR R o p) bg ps:=rfl
def RF.dv{r:Nat}{C:jL}{m:J}{k:gP}{j:lu}{f:Nat->Nat}(h:RF (UL bs bm bB r C R bg ps m k j) f σ w):Rd w r (QR R σ.nW σ.iU) bg ps:=by
 have⟨L,_,hr⟩:=h;have e:w.heap[r]?=some (.cells (((yp R bg ps).setIfInBounds 7 _).setIfInBounds 8 _) 161 _):=hr.rd
 rwa [Qx]at e
theorem RF.abm{r:Nat}{C:jL}{w0:J}{tv:gP}{ta:lu}{f:Nat->Nat}(h:RF (UL bs bm bB r C R bg ps w0 tv ta) f σ w)(T:List TypeId)(q:KT bs T w w')(hT:∀t∈abH,t∈T->t=161)(hM:∀t∈T,t∈Lq){y I:Nat}{o:O}(hr:Rd w' r (QR R o σ.iU) y I)
  (p:gP) (u:lu) (a3:Ad w' p u) (a1:u.length<=4096) (fr:Bool) (a0:fr=true->∀g,p.ownBlock=some g->w.heap.size<=g) (a4:∀g,p.ownBlock=some g->bs<=g):
  RF (UL bs bm bB r C R y I w' p u) f {σ with fresh:=fr,nW:=o} w':=by
 have⟨L,e,h⟩:=h;have F:∀t∈abH,t≠161->t∉T:=λt ht a2 hm=>a2 (hT t ht hm);have⟨C',hbl,hC⟩:=h.il;have z:x9 bm w w':=by
  have⟨S,hk,hS⟩:=q;exact⟨S,hk,λk h1 h2=>by grind⟩
 have E:∀(b:Nat)(U:Array MapEntry)(Q:Nat),w.heap[b]?=some (Obj.map U Q)->w'.heap[b]?=some (Obj.map U Q):=by
  intro b U Q P;have⟨S,hk,hS⟩:=q;refine(hk.block b ((Array.getElem?_eq_some_iff.1 P).1) λhm=>?_).trans P;have⟨⟨c,t,m,h3,_⟩,_⟩:=hS b hm ((Array.getElem?_eq_some_iff.1 P).1);rw[P]at h3;cases h3
 refine⟨L,e,?_⟩;have j:=TQ.move h.env h.fr z E;exact
  {fr:=Fr.refl _
   env:=⟨j.J8,j.Xg,j.spec,j.acF,j.ab2,j.wA⟩
   Gv:=h.Gv
   uz:=λi nd hi=>(h.uz i nd hi).kt q (λt ht=>F t (by revert t;decide) (by revert t;decide))
   inj:=h.inj
   Dk:=h.Dk
   JS:=h.JS
   uq:=h.uq
   H6:=h.H6
   wf:=⟨h.wf.gq,h.wf.act,h.wf.head,h.wf.form,h.wf.ji,h.wf.kids,h.wf.wA⟩
   il:=⟨C',q.at hbl (F _ (by decide) (by decide)),⟨hC.size,hC.low,hC.gq,hC.act,hC.head,hC.form,hC.mode,hC.kept,hC.wait,hC.Mi,hC.jA,hC.gQ,hC.behind⟩⟩
   qv:=q.row h.qv (F _ (by decide) (by decide))
   ru:=q.row h.ru (F _ (by decide) (by decide))
   JY:=h.JY
   yK:=h.yK
   Ie:=h.Ie
   qm:=q.row h.qm (F _ (by decide) (by decide))
   Pl:=h.Pl
   rd:=by assumption
   Wp:=by show 7+1<9;decide
   tok:=a3
   Ph:=a1
   bz:=jZ (jZ h.bz h.fr.size) q.size
   bB:=h.bB
   bR:=h.bR
   bN:=h.bN
   BI:=λh2 i g hi hg hv=>by
    have h3:=a0 h2 g hg;have h4:=by
     cases hel:σ.gU i with
     |none=>grind[Rel.H6]
     |some el=>
      exact((h.uz i (.el el) (N.jp hel)).2.1.lt g hv).2
    omega
   ab:=h.ab
   tb:=a4
   Pk:=λv hv=>by cases hv}
structure fM(a b:Nat)(kd:Int)(T:TypeId)(x:gP):Prop where
 iq:∀w,(Go.method 493 T x "Bytes").run prog w=.ok (427,.agg #[G a,G b]) w
 nil:∀w,(nilAhead 493 T x "Bytes").run prog w=.ok (some false) w
 kind:∀w,Calls prog 49 #[.iface T x] w λe w'=>e=iA (G kd)/\w'=w
def pI(a b:Nat):TH->gF
 | .UM=>⟨a,b,.iw,[]⟩
 | .XG t=>⟨a,b,.kE t,[]⟩
 | .TN nm L=>⟨a,b,.start nm,L⟩
 | .fin nm L=>⟨a,b,.stop nm,L⟩
 | .TJ t=>⟨a,b,.gV t,[]⟩
 | .cU nm q=>⟨a,b,.iH nm q,[]⟩
 | .lost=>⟨a,b,.lost,[]⟩
def xC:TH->Nat
 | .UM=>0
 | .XG _=>1
 | .TN _ _=>2
 | .fin _ _=>3
 | .TJ _=>4
 | .cU _ _=>5
 | .lost=>6
def Vl(a b:Int)(n:O)(x:Option Addr)(m c:Nat)(w:J):Calls prog 49 #[.iface 192 (.agg #[G a,G b,Y n,.slice x m c])] w λe w'=>e=iA (G 2)/\w'=w:=by
 have k:=wT;have j:=rX underlying192;go_wp2;go_ret;simp
def YV(a b:Int)(n:O)(x:Option Addr)(m c:Nat)(w:J):Calls prog 49 #[.iface 193 (.agg #[G a,G b,Y n,.slice x m c])] w λe w'=>e=iA (G 3)/\w'=w:=by
 have o:=wT;have j:=rO;have k:=rX underlying193;go_wp2;go_ret;simp
def acR(a b:Int)(n:O)(w:J):Calls prog 49 #[.iface 194 (.agg #[G a,G b,Y n])] w λe w'=>e=iA (G 4)/\w'=w:=by
 have o:=wT;have j:=rO;have m:=zI;have k:=rX underlying194;go_enter func49,ntmps49;go_wp2;go_ret;simp
def acS(a b:Int)(n:O)(q:Bool)(w:J):Calls prog 49 #[.iface 196 (.agg #[G a,G b,Y n,.bool q])] w λe w'=>e=iA (G 5)/\w'=w:=by
 have p:=wT;have j:=rO;have o:=zI;have k:=uy;have m:=rX underlying196;go_enter func49,ntmps49;go_wp2;go_ret;simp
def YU(a b:Int)(w:J):Calls prog 49 #[.iface 186 (.agg #[G a,G b])] w λe w'=>e=iA (G 6)/\w'=w:=by
 have p:=wT;have j:=rO;have o:=zI;have k:=uy;have m:=xS;have q:=rX underlying186;go_enter func49,ntmps49;go_wp2;go_ret;simp
theorem abD.is{base:Nat}{k:TH}(h:abD base (a:Int) (b:Int) v w k)(P:(pI a b k).gR.length<=4096):
  ∃T x F,v=.iface T x/\(∀E:Env,E.tv=F->iG E (pI a b k)=.iface T x)/\fM a b (xC k) T x/\(∃y m c,F=.slice y m c)/\Ad w F (pI a b k).gR/\(∀g,F.ownBlock=some g->base<=g):=by
 have o:∀g,(jD).ownBlock=some g->base<=g:=λg z=>by simp[Value.ownBlock]at z
 cases k with
 |UM=>exact⟨_,_,jD,h,λ_ _=>rfl,⟨λw=>by kernel_rfl,λw=>by kernel_rfl,λw=>afS (aat 0 0 0 0 #[] ⟨⟨#[]⟩,.nilFunc,0,.nilFunc,0,⟨#[]⟩,false⟩ 0 0 w) a b w⟩,⟨_,_,_,rfl⟩,pP _ _ _ _,o⟩
 |XG t=>exact⟨_,_,jD,h,λ_ _=>rfl,⟨λw=>by kernel_rfl,λw=>by kernel_rfl,λw=>acQ (aat 0 0 0 0 #[] ⟨⟨#[]⟩,.nilFunc,0,.nilFunc,0,⟨#[]⟩,false⟩ 0 0 w) a b t w⟩,⟨_,_,_,rfl⟩,pP _ _ _ _,o⟩
 |TJ t=>exact⟨_,_,jD,h,λ_ _=>rfl,⟨λw=>by kernel_rfl,λw=>by kernel_rfl,λw=>acR a b t w⟩,⟨_,_,_,rfl⟩,pP _ _ _ _,o⟩
 |cU n q=>exact⟨_,_,jD,h,λ_ _=>rfl,⟨λw=>by kernel_rfl,λw=>by kernel_rfl,λw=>acS a b n q w⟩,⟨_,_,_,rfl⟩,pP _ _ _ _,o⟩
 |lost=>exact⟨_,_,jD,h,λ_ _=>rfl,⟨λw=>by kernel_rfl,λw=>by kernel_rfl,λw=>YU a b w⟩,⟨_,_,_,rfl⟩,pP _ _ _ _,o⟩
 |TN n L=>
  obtain⟨p,u,rfl,j⟩:=h;refine⟨_,_,.slice p L.length u,rfl,λE I=>?_,⟨λw=>by kernel_rfl,λw=>by kernel_rfl,λw=>Vl a b n p L.length u w⟩,⟨_,_,_,rfl⟩,ke j (xj _),λg z=>(j.lt g z).1⟩;grind[iG,pI]
 |fin n L=>
  obtain⟨p,u,rfl,j⟩:=h;refine⟨_,_,.slice p L.length u,rfl,λE I=>?_,⟨λw=>by kernel_rfl,λw=>by kernel_rfl,λw=>YV a b n p L.length u w⟩,⟨_,_,_,rfl⟩,ke j (xj _),λg z=>(j.lt g z).1⟩;grind[iG,pI]
theorem QD(j m:List UInt8):∀(k:Nat)(s:List UInt8),(Lib.replaceK j m k s).length<=s.length+k*m.length
 |0,s=>by simp[Lib.replaceK]
 |k+1,s=>by
  rw[Lib.replaceK];split;omega;have h:=QD j m k (s.drop ((Lib.index s j).toNat+j.length));grind
theorem yn(s:O):(nP s).size<=4*s.size+3:=by
 have e2:(nP s).size=(Lib.replaceAll _ (ByteArray.mk #[0]).data.toList (ByteArray.mk #[239,191,189]).data.toList).length:=rfl;rw[(Z1 s),e2];unfold Lib.replaceAll Lib.replace;split;omega;have j:=QD (ByteArray.mk #[0]).data.toList (ByteArray.mk #[239,191,189]).data.toList (Lib.replaceNum s.data.toList (ByteArray.mk #[0]).data.toList (-1)) s.data.toList;have k:Lib.replaceNum s.data.toList (ByteArray.mk #[0]).data.toList (-1)=Lib.count _ _:=rfl;grind[Lib.count_le]
def cJ:TH->Prop
 | .XG t=>t.size<=100
 | .TN _ L=>L.length<=1024/\∀p∈L,p.2.size<=1048576
 | .fin _ L=>L.length<=1024/\∀p∈L,p.2.size<=1048576
 |_=>True
def A9(R:RC)(bg:Nat):Bq->Prop
 | .stop=>True
 | .tok kd m=>bg<m/\m<=R.cs.size/\1<=xC kd/\(xC kd≠1->m=R.cs.size\/bt R.cs (m-1)=62)/\cJ kd
theorem aeF(h:pre (R.cs.extract ps R.cs.size) iZ=true):bt R.cs ps=62:=by
 have:=Ia (j:=0) h (by decide);exact this.trans rfl
theorem YI(h:ps<=R.cs.size):sO R ps=R.cs.size\/(ps<sO R ps/\bt R.cs (sO R ps-1)=62):=by
 unfold sO taken;split;rename_i o;right;have E:ps<=scan (jy iZ) R.cs ps:=tL;have e:(ByteArray.mk #[62]).size=1:=rfl;grind[aeF];rename_i o;left;rcases D0 (scan (jy iZ) R.cs ps) R.cs.size with k|u;exfalso;apply o;have q:=afC (bt_nonneg _ _) (bt_le _ _) (ajC k);have z:(R.cs.extract (scan (jy iZ) R.cs ps) R.cs.size).size=R.cs.size-scan (jy iZ) R.cs ps:=by simp
 generalize scan (jy iZ) R.cs ps=i at *;unfold pre;have m:(ByteArray.mk #[62]).size=1:=rfl;rw[m];have p:bt ((R.cs.extract i R.cs.size).extract 0 1) 0=62:=by
  rw[LI (by omega) (by omega),Nat.zero_add];rw[LI (by omega) (ic _),Nat.add_zero];exact q
 have j:((R.cs.extract i R.cs.size).extract 0 1).size=1:=by simp;omega
 rw[z];have F:(R.cs.extract i R.cs.size).extract 0 1=iZ:=by
  generalize (R.cs.extract i R.cs.size).extract 0 1=X at p j;have⟨⟨l⟩⟩:=X
  match l,j with
  |[x],_=>
   have:(x.toNat:Int)=62:=p;have y:x=62:=by apply UInt8.toNat_inj.1;show x.toNat=62;omega
   rw[y]
 grind;grind[qF]
theorem Ts(h:∀x t,look x=some t->t.size<=16)(hs:R.cs.size<=1024)(ps:Nat):(tM look lg R ps).size<=1048576:=by
 unfold tM;split;have j:=yn ⟨(wY look lg (nZ R (nK R (nK R ps+1)))).toArray⟩;have k:=CJ (lg:=lg) h (nZ R (nK R (nK R ps+1)));have m:=ER (R:=R) (ps:=nK R (nK R ps+1));have o:(ByteArray.mk (wY look lg _).toArray).size=(wY look lg (nZ R (nK R (nK R ps+1)))).length:=rfl;omega;decide
theorem Pj(h:∀x t,look x=some t->t.size<=16)(hs:R.cs.size<=1024){L:lu}(j:∀p∈L,p.2.size<=1048576):∀p∈qK R look lg L ps,p.2.size<=1048576:=by
 grind[Ts,qK,vI]
theorem WZ(hk:∀x t,look x=some t->t.size<=16)(hs:R.cs.size<=1024):∀(n:Nat){L:lu} {ps m:Nat} {k:lu},R.cs.size-ps<=n->mc R look lg L ps=.whole m k->L.length<=ps->(∀p∈L,p.2.size<=1048576)->ps<m/\m<=R.cs.size/\bt R.cs (m-1)=62/\k.length<=m/\∀p∈k,p.2.size<=1048576:=by
 intro n
 induction n with
 |zero=>
  grind[sF,mc]
 |succ n ih=>
  intro L ps m k F j E o;have q:=sF (R:=R) (ps:=ps);rw[mc]at j;split at j;split at j;grind[aeF];split at j;cases j;have u:=ug (R:=R) (ps:=jl R ps);have y:=xY (R:=R) (ps:=kQ R (jl R ps));have z:=Kh (R:=R) (look:=look) (lg:=lg) (L:=L) (ps:=jl R ps);have:=ih (by omega) j (by omega) (Pj hk hs o);grind;grind
theorem Xb(hk:∀x t,look x=some t->t.size<=16)(hs:R.cs.size<=1024){j:O->lu->TH}(k:bg<R.cs.size)(u:bg<ps)(o:∀L,1<=xC (j nm L)/\(L.length<=1024->(∀p∈L,p.2.size<=1048576)->cJ (j nm L))):A9 R bg (uo R j nm (mc R look lg [] (wX R ps))):=by
 have q:=aj0 (R:=R) (ps:=ps);cases h:mc R look lg [] _ with
 |stop=>trivial
 |lost=>exact⟨k,ic _,by decide,by grind,trivial⟩
 |whole m L=>
  have:=WZ hk hs _ (ic _) h (xj _) (by simp);grind[A9,uo]
theorem ag6(hk:∀x t,look x=some t->t.size<=16)(hs:R.cs.size<=1024)(nm:O)(j:bg<R.cs.size)(k:bg<ps):A9 R bg (uo R .TN nm (mc R look lg [] (wX R ps))):=Xb hk hs j k (λL=>⟨(by decide:1<=2),λa b=>⟨a,b⟩⟩)
theorem afm(hk:∀x t,look x=some t->t.size<=16)(hs:R.cs.size<=1024)(nm:O)(j:bg<R.cs.size)(k:bg<ps):A9 R bg (uo R .fin nm (mc R look lg [] (wX R ps))):=Xb hk hs j k (λL=>⟨(by decide:1<=3),λa b=>⟨a,b⟩⟩)
theorem Ib(hk:∀x t,look x=some t->t.size<=16)(m:bg<R.cs.size):A9 R bg (vZ R look lg bg):=by
 have j:=FK (look:=look) (lg:=lg) (s:=R.cs.extract bg R.cs.size);have k:=Ju (look:=look) (lg:=lg) (s:=R.cs.extract bg R.cs.size) (by simp;omega);have o:(R.cs.extract bg R.cs.size).size=R.cs.size-bg:=by simp
 exact⟨by omega,by omega,ic _,λh=>absurd rfl h,jZ (ye hk) (by decide)⟩
theorem ahh(hk:∀x t,look x=some t->t.size<=16)(m:bg<R.cs.size):A9 R bg (yy R look lg bg):=by
 have j:=FK (look:=look) (lg:=lg) (s:=R.cs.extract bg R.cs.size);have k:=Ju (look:=look) (lg:=lg) (s:=R.cs.extract bg R.cs.size) (by simp;omega);have o:(R.cs.extract bg R.cs.size).size=R.cs.size-bg:=by simp
 unfold yy;split;refine⟨by omega,by omega,ic _,λh=>absurd rfl h,?_⟩;grind[yn,ByteArray.size_extract,cJ];refine⟨by omega,by omega,ic _,λh=>absurd rfl h,?_⟩;grind[yn,ye,cJ]
theorem Az{k:TH}(p:bg<ps)(m:ps<=R.cs.size)(hk:1<=xC k)(j:cJ k):A9 R bg (.tok k (sO R ps)):=by
 have o:=afv (R:=R) (ps:=ps);refine⟨by omega,Mq m,hk,λ_=>?_,j⟩;grind[YI]
theorem Zz(hk:∀x t,look x=some t->t.size<=16)(m:R.cs.size<=1024)(k:bg<R.cs.size)(j:bg<ps)(hs:ps<=R.cs.size):A9 R bg (mO R look lg bg ps):=by
 unfold mO;split;grind[afm];split;rename_i h;have:=mL h hs;exact⟨by omega,this,by decide,λ_=> .inr (by grind[aeF]),trivial⟩;split;grind[Ib];exact Az j hs (show 1<=4 by decide) trivial
theorem acW(hk:∀x t,look x=some t->t.size<=16)(o:R.cs.size<=1024)(k:bg<R.cs.size)(m:bg<ps)(hs:ps<=R.cs.size):A9 R bg (qD R look lg bg ps):=by
 unfold qD;split;grind[ag6];split;rename_i h;exact Zz hk o k (by omega) (mL h hs);split;rename_i h;have j:ps+3<=R.cs.size:=mL h hs;have p:=acd (R:=R) (ps:=ps+3);refine⟨by omega,Pz j,(show 1<=4 by decide),λ_=>?_,trivial⟩;grind[Ur];split;rename_i h;have:=alB (R:=R) (ps:=ps+8);exact Az (by omega) (LY (Vi h hs)) (show 1<=5 by decide) trivial;split;rename_i h;exact Az (by omega) (mL h hs) (show 1<=4 by decide) trivial;split;exact Az m hs (show 1<=4 by decide) trivial;grind[Ib]
def EA(hk:∀x t,look x=some t->t.size<=16)(q:R.cs.size<=1024)(p:ps<R.cs.size):A9 R ps (kF R look lg ps)/\(∀o m,kF R look lg ps=.tok o m->xC o≠1->bt R.cs ps=60):=by
 unfold kF;rw[Xx (by omega)];split;split;rename_i h;refine⟨acW (R:=uJ R ps) hk q p (by omega) (mL h (by omega)),λ_ _ _ _=>?_⟩;have:=Ia (j:=0) h (by decide);rw[Nat.add_zero]at this;exact this.trans rfl;refine⟨Ib (R:=uJ R ps) hk p,λo m h k=>?_⟩;unfold vZ at h;obtain⟨rfl,_⟩:=Bq.tok.inj h;exact absurd rfl k;refine⟨ahh (R:=uJ R ps) hk p,λo m h k=>?_⟩;unfold yy at h;split at h;obtain⟨rfl,_⟩:=Bq.tok.inj h;exact absurd rfl k;obtain⟨rfl,_⟩:=Bq.tok.inj h;exact absurd rfl k
def VA:kF R look lg R.cs.size=.tok .UM R.cs.size:=by simp[kF]
theorem cJ.tok{k:TH}(h:cJ k)(a b:Nat):(pI a b k).k=.lost\/wP (pI a b k):=by
 cases k with
 |lost=>simp[pI]
 |XG t=>exact .inr ⟨h,rfl,by simp[pI]⟩
 |TN nm L=>exact .inr ⟨(by decide:(0)<=100),by exact List.all_eq_true.2 (λp j=>Hl (h.2 p j)),by simp[pI]⟩
 |fin nm L=>exact .inr ⟨(by decide:(0)<=100),by exact List.all_eq_true.2 (λp j=>Hl (h.2 p j)),by simp[pI]⟩
 |UM=>exact .inr ⟨(by decide:(0)<=100),rfl,by simp[pI]⟩
 |TJ t=>exact .inr ⟨(by decide:(0)<=100),rfl,by simp[pI]⟩
 |cU n q=>exact .inr ⟨(by decide:(0)<=100),rfl,by simp[pI]⟩
theorem cJ.len{k:TH}(h:cJ k)(a b:Nat):(pI a b k).gR.length<=1024:=by
 cases k with
 |TN nm L=>exact h.1
 |fin nm L=>exact h.1
 |_=>simp[pI]
def Vq(k:Nat)(w:J):
  Calls prog 43 #[.iface 74 (gI k)] w λe w'=>e=iA (gI k)/\w'=w:=by
 have m:∀(v:gP)(j:TypeId)(w:J),(Instr.typeAssert (.iface 74 v) j 74 true).run prog w=.ok (.tuple #[v,.bool true]) w:=λv j w=>by
  simp[Instr.typeAssert,gy underlying74]
 go_enter func43,ntmps43;go_wp2;go_ret;simp
theorem GN(j m:Nat)(k:Nat)(w:J)(v:gP)(p:w.heap[j]?=some (gH #[v,.pointer none] 68))(y:w.heap[m]?=some (gH #[.pointer none] 74))(u:j≠m)(q:m≠j):
  CallsD prog 42 #[gI j,gI m] (.panicking [{v:=.iface 74 (gI k),recovered:=false}]) w λe T w'=>
   e=qs/\T=.panicking [{v:=.iface 74 (gI k),recovered:=true}]/\w'.heap[j]?=some (gH #[jD,.pointer none] 68)/\w'.heap[m]?=some (gH #[gI k] 74)/\Z [j,m] w w':=by
 have P:=fP p 0;have Q:=fP p 1;have q0:=fP y 0;have f0:=gx p 0;have f1:=gx p 1;have g0:=gx y 0;dsimp at P Q q0;have E:Hid (∃W,W=((w.setCell ⟨j,0,none⟩ (jD)).setCell ⟨j,1,none⟩ (.pointer none)).setCell ⟨m,0,none⟩ (gI k)/\W.heap[j]?=some (gH #[jD,.pointer none] 68)/\W.heap[m]?=some (gH #[gI k] 74)/\Z [j,m] w W):=by
  refine⟨_,rfl,?_,?_,?_⟩;rw[Below.heap_setCell _ _ _ _ u];exact gh (gh p 0 _) 1 _;refine gh (c:=#[.pointer none]) ?_ 0 _;rw[Below.heap_setCell _ _ _ _ q,Below.heap_setCell _ _ _ _ q];exact y;exact(((Z.refl [j,m] w).setCell (.inl (by simp)) _).setCell (.inl (by simp)) _).setCell (.inl (by simp)) _
 refine callsD_of_wpS func42 rfl λo U z=>?_;apply wpS_seq;apply wpS_region;simp[wpOpsS,go_sem,recoverD,z,ntmps42,Exit.thenS];have F:=z;refine wpS_of_wp ?_;have I:(#[gI j,gI m]++((Array.replicate 7 undef).setIfInBounds 1 (Value.iface 74 (gI k))).setIfInBounds 0 (Value.iface 74 (gI k)))=#[gI j,gI m,.iface 74 (gI k),.iface 74 (gI k),undef,undef,undef,undef,undef]:=rfl;rw[I];go_wp21;refine(Vq k _).mono ?_;rintro e w'⟨rfl,rfl⟩;go_wp2;have z:=F;have⟨W,hW,h1,h2,h3⟩:=E;rw[<-hW];cases o;simp_all[bodyPostS,results,results42]
theorem Lk.map(h:Lk w b look):∃p m,w.heap[b]?=some (Obj.map p m):=by
 have q:=h.run ⟨#[]⟩ w rfl;have u:=gy (w:=w) (show prog.underlying 156=some (.map 9 202) by simp);have j:∀o,w.heap[b]?=some o->(∀c e f,o≠ .cells c e f)->(getObj b).run prog w=.ok o w:=by
  intro o y z;cases o with
  |cells c e f=>grind
  |_=>simp[getObj,Sem.run,y]
 cases hb:w.heap[b]? with
 |none=>
  grind[lt]
 |some o=>
  cases o with
  |map p m=>simp
  |cells c e f=>
   exfalso;have k:(getObj b).run prog w=.halt (Halt.stuck "getObj: a row of cells") w:=by simp[getObj,Sem.run,hb]
   simp[Instr.lookup,u,k,Result.andThen]at q
  |_=>
   exfalso;have k:=j _ hb (by simp);simp[Instr.lookup,u,k,Result.andThen,Go.stuck,Sem.run]at q
theorem Fr.map(h:Fr bs w w')(e:w.heap[b]?=wl.heap[b]?)(j:Lk wl b look):w'.heap[b]?=w.heap[b]?:=h.calm (.inl (by rw[e];exact j.map))
theorem KT.map{T:List TypeId}(h:KT bs T w w')(e:w.heap[b]?=wl.heap[b]?)(j:Lk wl b look):w'.heap[b]?=w.heap[b]?:=by
 have⟨es,ck,hm⟩:=j.map;have⟨S,hk,hS⟩:=h;grind[Z.block]
inductive ahM where
 |stop (e p:Nat)
 |done (σ:N) (L:List Sp)
 |stuck
def yu(R:RC)(σ:N)(ps:Nat)(t:gF):N:={σ with fresh:=t.qw,nW:=(Cm (QR R σ.nW σ.iU) ps).nW}
def oe(R:RC)(look:O->Option O)(lg:Nat)(cut:Nat->Nat):Nat->Nat->N->List Sp->ahM
 |0,_,_,_=> .stuck
 |n+1,ps,σ,L=>match kF (QR R σ.nW σ.iU) look lg ps with
  | .stop=> .stop 7 (cut ps)
  | .tok k m=>match qR (gX false uU) (pI (cut ps) (cut m) k) (yu R σ ps (pI (cut ps) (cut m) k))with
   | .stop e p=> .stop e p
   | .stuck=> .stuck
   | .ok _ σ'=>if xC k=0 then .done σ' L else oe R look lg cut n m σ' (wx L ⟨(xC k:Int),cut ps,cut m⟩)
structure dy(w:J)(bm bB bD r b:Nat)(C:jL)(R:RC)(g cap:Nat)(cut:Nat->Nat)(base:Nat)(wl:J)(ps bg:Nat)(σ:N)(v:gP)(L:List Sp)(wr:J):Prop where
 rel:∃fl w0 tv ta,fl 0=bD/\RF (UL w.heap.size bm bB r C R bg ps w0 tv ta) fl σ wr
 gG:Po wr r R g cap cut
 eP:∃cA,wr.heap[g]?=some (gH cA 3)
 lk:wr.heap[b]?=wl.heap[b]?
 tb:wr.heap[w.heap.size+1]?=some (gH #[v,.pointer none] 68)
 sb:wr.heap[w.heap.size+2]?=some (gH #[.pointer none] 74)
 own:wr.ownsRow base 73 3 v L.length (lN L)
 kept:Z [] w wr
 le:ps<=R.cs.size
 len:L.length<=ps
 XV:w.heap.size<=base/\base<=wr.heap.size
 di:w.heap.size<=r
 pos:0<σ.nodes.length
theorem dy.next{Q r:Nat}{C:jL}{base:Nat}{wr:J}(h:dy w bm bB Q r b C R g cap cut base wl ps bg σ v L wr)(hk:Z [r] wr w2){u z:Nat}{o:O}(hr:Rd w2 r (QR R o σ.iU) u z)(a1:b≠r)(F:b<wl.heap.size)
  (wO:wl.heap.size<=wr.heap.size) (p:gP) (m:lu) (P:Ad w2 p m) (I:m.length<=4096) (U:Bool) (y:∀g,p.ownBlock=some g->wr.heap.size<=g):
  (∃E,E 0=Q/\RF (UL w.heap.size bm bB r C R u z w2 p m) E {σ with fresh:=U,nW:=o} w2)/\Po w2 r R g cap cut/\(∃cA,w2.heap[g]?=some (gH cA 3))/\w2.heap[b]?=wl.heap[b]?/\w2.heap[w.heap.size+1]?=some (gH #[v,.pointer none] 68)/\w2.heap[w.heap.size+2]?=some (gH #[.pointer none] 74)/\w2.ownsRow base 73 3 v L.length (lN L)/\Z [] w w2:=by
 have⟨E,w0,tv,ta,h0,hrf⟩:=h.rel;have ne:∀{k:Nat} {c:jL} {t:TypeId},wr.heap[k]?=some (gH c t)->t≠161->k∉[r]:=by
  intro k c t j ht hm;have e:=List.mem_singleton.1 hm;subst e;rw[hrf.dv]at j;simp at j;exact ht j.2.symm
 refine⟨⟨E,h0,hrf.abm [161] (.j9 hk (λk j _=>by
  have e:=List.mem_singleton.1 j;subst e;exact⟨⟨_,_,_,hrf.dv,by simp⟩,h.di⟩)) (λt _ ht=>by grind) (by decide) hr p m P I U (λ_=>y) (λg hg=>jZ h.kept.size (y g hg))⟩,h.gG.kept hk,?_,(hk.block b (nr F wO) (by grind)).trans h.lk,hk.at h.tb (ne h.tb (by decide)),hk.at h.sb (ne h.sb (by decide)),hk.ownsRow h.own ?_,h.kept.next hk (by simpa using h.di)⟩
 grind[eP,Z.at];intro k j;rcases h.own.2 with⟨e,_⟩|⟨q,T,a0,e,_,hc,_⟩;rw[e]at j;cases j;rw[e]at j;have e3:=Ki j;grind
def Lu(w:J)(e:Ending)(w':J):ahM->Prop
 | .stop c p=>∃k,e=iA (.tuple #[.agg #[jD,.pointer none],gI k])/\kZ w' k c p/\Z [] w w'
 | .done fin L=>∃v k E j,e=iA (.tuple #[.agg #[v,gI k],.pointer none])/\j 0=k/\RF E j fin w'/\w'.ownsRow w.heap.size 73 3 v L.length (lN L)/\L.length<=1024/\Z [] w w'
 | .stuck=>False
theorem WR{k p:Nat}(y:W.heap[w.heap.size+1]?=some (gH #[v,.pointer none] 68))(u:W.heap[w.heap.size+1+1]?=some (gH #[.pointer none] 74))(j:kZ W k c p)(o:Z [] w W)(hk:Z [w.heap.size+1,w.heap.size+1+1] W w'):kZ w' k c p/\Z [] w w':=by
 refine⟨hk.at j ?_,o.next hk (λx q=> .inr ?_)⟩;intro m;rcases List.mem_cons.1 m with e|m;grind[kZ];grind[kZ];grind
def agc(R:RC)(o:O)(p:Bool)(ps:Nat):Cm (QR R o p) ps=QR R (Cm (QR R o p) ps).nW p:=by unfold Cm;split<;>rfl
theorem agN(s:O)(tv:gP)(base d f l:Nat)(w:J)(ho:w.ownsRow base 5 1 tv s.size (lx s))(hs:s.size<=1024)(hd:d<=64)(hf:f<=32)(hl:l<=16)(hT:y9 w)(bI:N5 w)(aw:∀av b,oe (vB s l av b) (qe KV) 8 (kG s) ((vA s).size+1) 0 (S0 d f l 0) []≠ .stuck):
  Calls prog 29 #[tv,.agg #[G d,G f,G l]] w λe w'=>∃av b,Lu w e w' (oe (vB s l av b) (qe KV) 8 (kG s) ((vA s).size+1) 0 (S0 d f l 0) []):=by
 have cn:∀(fn:Fn)(first cap:jL)(w:J),(Instr.makeFunc fn first cap).run prog w=.ok (.func fn first cap) w:=λ_ _ _ _=>rfl;obtain⟨w0,ab⟩:∃w0,w0=((w.alloc (gH #[G d,G f,G l] 65)).alloc (gH #[jD,.pointer none] 68)).alloc (gH #[.pointer none] 74):=⟨_,rfl⟩;have aj:Z [] w w0:=by rw[ab];exact(((Z.refl _ _).alloc _).alloc _).alloc _
 have HZ:w0.heap.size=w.heap.size+3:=by rw[ab];simp
 have aB:w0.heap[w.heap.size]?=some (gH #[G d,G f,G l] 65):=by
  rw[ab,Below.heap_alloc _ _ _ (by simp;omega),Below.heap_alloc _ _ _ (by simp)];exact fU w _
 have bC:w0.heap[w.heap.size+1]?=some (gH #[jD,.pointer none] 68):=by
  rw[ab,Below.heap_alloc _ _ _ (by simp)];have:=fU (w.alloc (gH #[G d,G f,G l] 65)) (gH #[jD,.pointer none] 68)
  simpa using this
 have bE:w0.heap[w.heap.size+2]?=some (gH #[.pointer none] 74):=by
  have:=fU ((w.alloc (gH #[G d,G f,G l] 65)).alloc (gH #[jD,.pointer none] 68)) (gH #[.pointer none] 74);rw[ab];simpa using this
 have CN:=OT s tv base (l:Int) w0 (aj.ownsRow ho (λ_ _=>by simp)) hs;have c0:=fP aB 0;have c1:=fP aB 1;have c2:=fP aB 2;dsimp at c0 c1 c2;have⟨ao,cp,htv⟩:=gz ho;subst htv;have HW:=V ab.symm;have bb:=hT;clear ab
 go_enter_defers func29,ntmps29
 go_wp21;rw[HW.out];refine CN.mono ?_;rintro e w1⟨r,b,av,g,cap,rfl,hr,hb,bL,bA,bu,bw,b8,bH,a9⟩;have g1:=a9.at aB (by simp);have d0:=fP g1 0;have d1:=fP g1 1;have d2:=fP g1 2;dsimp at d0 d1 d2;have bF:=bb.fr (bm:=0) (.ib (aj.trans a9));have CB:=ama (d:Int) (f:Int) (l:Int) (.func 46) #[gI r] #[] w1 bF;have HB:=And.intro hr (And.intro hb bL);go_wp21;refine CB.mono ?_;rintro e w2⟨bm,bB,bD,rfl,hN⟩;have a0:=hN.k;have bd:Rd w2 r (vB s l av b) 0 0:=bA.kept a0 (by simp);have⟨C,fl,hfl,hrf⟩:=amb w.heap.size bm bB bD r d f l w1 w2 (vB s l av b) hN bd rfl rfl hd hf hl (by grind) (by omega);obtain⟨R,hR⟩:∃R,R=vB s l av b:=⟨_,rfl⟩;have bv:R.cs=vA s:=by rw[hR];rfl
 have co:R.nW=⟨#[]⟩:=by rw[hR];rfl
 have cq:R.cZ=false:=by rw[hR];rfl
 have bT:R.mv=.map (some b):=by rw[hR];rfl
 have bP:R.lg=(8:Nat):=by rw[hR];rfl
 have cj:R.at_=(l:Int):=by rw[hR];rfl
 have bp:R.cs.size<=1024:=by rw[bv,vN];have:=KX s s.size;omega
 rw[<-hR]at hrf;obtain⟨cr,hO⟩:∃cr,cr=oe R (qe KV) 8 (kG s) (R.cs.size+1) 0 (S0 d f l 0) []:=⟨_,rfl⟩;have HO:=hO.symm;have ak:Hid (∀e w',Lu w e w' cr->∃av b,Lu w e w' (oe (vB s l av b) (qe KV) 8 (kG s) ((vA s).size+1) 0 (S0 d f l 0) [])):=λe w' h=>⟨av,b,by grind⟩;have bx:cr≠ .stuck:=by rw[hO,hR];exact aw av b
 have bz:Hid (dy w bm bB bD r b C R g cap (kG s) w2.heap.size w2 0 0 (S0 d f l 0) (jD) [] w2):=V
  {rel:=⟨fl,w2,jD,[],hfl,hrf⟩
   lk:=rfl
   gG:=by have:=bu;rw[<-hR]at this;exact this.kept (a0.mono (by simp))
   eP:=by have⟨cA,hA⟩:=bH;exact⟨cA,a0.at hA (by simp)⟩
   tb:=a0.at (a9.at bC (by simp)) (by simp)
   sb:=a0.at (a9.at bE (by simp)) (by simp)
   own:=pP _ _ _ _
   kept:=(aj.trans a9).trans a0
   le:=xj _
   len:=ic _
   XV:=⟨jZ (jZ aj.size a9.size) a0.size,ic _⟩
   di:=by omega
   pos:=by simp[S0]}
 have E:=V (bw.kept a0 (by simp));have ba:=bI;have ci:=(aj.trans a9).trans a0;go_wp21
 go_loopw [] (λwr=>∃n ps bg σ v L,dy w bm bB bD r b C R g cap (kG s) w2.heap.size w2 ps bg σ v L wr/\oe R (qe KV) 8 (kG s) n ps σ L=cr/\R.cs.size-ps<n) (λwr=>R.cs.size-(match wr.cell? ⟨r,3,none⟩with|some v=>(intOf v).toNat|none=>0))
 case atStart=>exact⟨R.cs.size+1,0,0,_,_,[],bz,HO,by omega⟩
 case round=>
  have⟨n,ps,bg,σ,v,L,h1,HGO,hnn⟩:=hrel;obtain⟨n,rfl⟩:∃k,n=k+1:=⟨n-1,by omega⟩;have bk:Rd wr r (QR R σ.nW σ.iU) bg ps:=by have⟨_,_,_,_,_,hr⟩:=h1.rel;exact hr.dv
  have P0:=bk.ps;have P:=h1;have bM:Gl wr r:=by
   have⟨hm,hl⟩:=ba.kept h1.kept;exact⟨hm,hl,λe=>by have:=h1.di;have:=ba.2;omega⟩
  have bX:Z7 wr r (QR R σ.nW σ.iU) g cap b 8 (qe KV) (kG s):=⟨⟨h1.gG.av,h1.gG.ne,h1.gG.lt,h1.gG.at_⟩,⟨⟨nr E.lt h1.XV.2,E.short,λc8 w' e=>E.run c8 w' (e.trans h1.lk)⟩,b8,bT,bP,by decide⟩,bM,bp⟩;have a2:=amd r (QR R σ.nW σ.iU) bg ps g cap b 8 (qe KV) (kG s) wr bk bX h1.le;rw[agc]at a2;have aq:ps<R.cs.size->A9 (QR R σ.nW σ.iU) ps (kF (QR R σ.nW σ.iU) (qe KV) 8 ps):=λh=>(EA (R:=QR R σ.nW σ.iU) E.short bp h).1;have aM:ps=R.cs.size->kF (QR R σ.nW σ.iU) (qe KV) 8 ps=.tok .UM R.cs.size:=λe=>by rw[e];exact VA (R:=QR R σ.nW σ.iU)
  have cg:=h1.le;rw[oe]at HGO;obtain⟨on,bj⟩:∃on,on=(Cm (QR R σ.nW σ.iU) ps).nW:=⟨_,rfl⟩;have bo:∀t,yu R σ ps t={σ with fresh:=t.qw,nW:=on}:=λt=>by rw[bj];rfl
  rw[<-bj]at a2;cases hT:kF (QR R σ.nW σ.iU) (qe KV) 8 ps with
  |stop=>
   rw[hT]at a2 HGO;dsimp only at HGO;have CX:=V a2;have EO:=V HGO.symm;clear a2 HGO;go_wp21;refine CX.mono ?_;rintro e w3⟨k,rfl,aw,cm,ag⟩;have⟨_,_,_,_,_,hrf⟩:=P.rel;have aR:=hrf.dv;have ne:∀{k:Nat} {c:jL} {t:TypeId},wr.heap[k]?=some (gH c t)->t≠161->k∉[r]:=by
    intro k c t o ht hm;have e:=List.mem_singleton.1 hm;subst e;unfold Rd at aR;rw[aR]at o;simp at o;exact ht o.2.symm
   have a6:=ag.at P.tb (ne P.tb (by decide));have a5:w3.heap[w.heap.size+1+1]?=_:=ag.at P.sb (ne P.sb (by decide));have a4:=P.kept.next ag (by simpa using P.di);have I:=And.intro a6 (And.intro a5 (And.intro aw a4));go_wp2;refine leaves_cons (f:=42) (args:=#[gI (w.heap.size+1),gI (w.heap.size+1+1)]) (by simp) (by simp[go_sem]) ?_;refine(GN (w.heap.size+1) (w.heap.size+1+1) k w3 v I.1 I.2.1 (by omega) (by omega)).mono ?_;rintro e u' br⟨rfl,rfl,t9,s9,k9⟩;have HF:=V (WR I.1 I.2.1 I.2.2.1 I.2.2.2 k9);have q0:=fP t9 0;have q1:=fP t9 1;have q2:=fP s9 0;dsimp at q0 q1 q2;simp[Go.Leaves,settle,results,results29,go_sem,q0,q1,q2];refine ak _ _ ?_;rw[EO.out];exact⟨k,rfl,HF.1,HF.2⟩
  |tok k m=>
   rw[hT]at a2 HGO;dsimp only at HGO;have ck:xC k=0->k= .UM:=by cases k<;>simp[xC]
   have bK:cJ k:=by
    rcases D0 ps R.cs.size with h|h;have:=aq h;rw[hT]at this;exact this.2.2.2.2;have:=aM (by omega);rw[hT]at this;obtain⟨rfl,_⟩:=Bq.tok.inj this;trivial
   have bS:xC k≠0->ps<m/\m<=R.cs.size:=by
    intro b4;rcases D0 ps R.cs.size with h|h;have:=aq h;rw[hT]at this;exact⟨this.1,this.2.1⟩;have:=aM (by omega);rw[hT]at this;obtain⟨rfl,_⟩:=Bq.tok.inj this;exact absurd rfl b4
   have aP:=jZ (bK.len (kG s ps) (kG s m)) (show 1024<=4096 by decide);rw[bo]at HGO;have CX:=V a2;clear a2;go_wp21;refine CX.mono ?_;rintro e w3⟨⟨vv,rfl,c5⟩,ag,c3⟩;obtain⟨T,x,tv,rfl,hV,aW,c4,bh,bi⟩:=c5.is aP;have⟨⟨fl,hfl,hrf⟩,a3,ay,aH,a6,a5,aK,a4⟩:=P.next ag c3 b8 E.lt P.XV.2 tv _ bh aP (pI (kG s ps) (kG s m) k).qw bi;obtain⟨t,ht⟩:∃t,t=pI (kG s ps) (kG s m) k:=⟨_,rfl⟩;have z:=HGO;rw[<-ht]at hrf hV z;have hD:=λhh=>aej (UL w.heap.size bm bB r C R ps m w3 tv t.gR) rfl rfl c4 uU t (λ_=>rfl) fl _ w3 hrf hh;have be:=hV (UL w.heap.size bm bB r C R ps m w3 tv t.gR) rfl;cases hT1:qR (gX false uU) t {σ with fresh:=t.qw,nW:=on} with
   |stuck=>rw[hT1]at z;exact absurd z.symm bx
   |stop c p=>
    have D:=hD (by rw[hT1];simp);rw[hT1]at D z;dsimp only at z;have EO:=V z.symm;have C2:Hid (Calls prog 48 #[gI bB,.iface T x] w3 λe W=>∃j,e=rW j/\kZ W j c p/\Fr w.heap.size w3 W):=V (by rwa [be]at D);have HQ:=V (And.intro a6 (And.intro a5 a4));clear z HGO;go_wp21;refine C2.mono ?_;rintro e w4⟨k,rfl,aw,y⟩;have⟨a6,a5,a4⟩:=HQ;have a8:=y.Bd a6 (by decide);have ah:w4.heap[w.heap.size+1+1]?=_:=y.Bd a5 (by decide);have aF:=y.kept a4 (ic _);have I:=And.intro a8 (And.intro ah (And.intro aw aF));go_wp2;refine leaves_cons (f:=42) (args:=#[gI (w.heap.size+1),gI (w.heap.size+1+1)]) (by simp) (by simp[go_sem]) ?_;refine(GN (w.heap.size+1) (w.heap.size+1+1) k w4 v I.1 I.2.1 (by omega) (by omega)).mono ?_;rintro e u' br⟨rfl,rfl,t9,s9,k9⟩;have HF:=V (WR I.1 I.2.1 I.2.2.1 I.2.2.2 k9);have q0:=fP t9 0;have q1:=fP t9 1;have q2:=fP s9 0;dsimp at q0 q1 q2;simp[Go.Leaves,settle,results,results29,go_sem,q0,q1,q2];refine ak _ _ ?_;rw[EO.out];exact⟨k,rfl,HF.1,HF.2⟩
   |ok u σ2=>
    have D:=hD (by rw[hT1];simp);rw[hT1]at D z;dsimp only at z;have aQ:0<({σ with fresh:=t.qw,nW:=on}:N).nodes.length:=P.pos;have C2:Hid (Calls prog 48 #[gI bB,.iface T x] w3 λe W=>e=qs/\∃aD,aD 0=bD/\RF (UL w.heap.size bm bB r C R ps m w3 tv t.gR) aD σ2 W/\Fr w.heap.size w3 W/\0<σ2.nodes.length):=
     V (by
      rw[be]at D;exact D.mono (λe W hL=>by
       have⟨aD,h5,h6,h7,h8,h9⟩:=hL;exact⟨h7,aD,(h5 0 aQ).trans hfl,h8,h9,nr aQ h6⟩))
    have HQ:=V (And.intro a3 (And.intro ay (And.intro aH (And.intro a6 (And.intro a5 (And.intro aK a4))))));have bc:=ag.size;clear HGO;go_wp21;refine C2.mono ?_;rintro e w4⟨rfl,aX,an,au,y,b5⟩;have⟨a3,ay,aH,a6,a5,aK,a4⟩:=HQ;have ca:w4.heap[b]?=w2.heap[b]?:=(y.map aH E).trans aH;have a8:=y.Bd a6 (by decide);have ah:=y.Bd a5 (by decide);have aF:=y.kept a4 (ic _);have⟨cA,hA3⟩:=ay;have b0:=y.Bd hA3 (by decide);have bf:Po w4 r R g cap (kG s):=⟨a3.av,a3.ne,ja b0,λi hi=>by rw[fP b0,<-fP hA3];exact a3.at_ i hi⟩;have b6:w4.ownsRow w2.heap.size 73 3 v L.length (lN L):=by
     refine⟨aK.1,?_⟩;rcases aK.2 with e|⟨q,ad,aC,e,h1,hc,r'⟩;exact .inl e;exact .inr ⟨q,ad,aC,e,h1,y.Bd hc (by decide),r'⟩
    have aL:w2.heap.size<=w4.heap.size:=jZ P.XV.2 (jZ bc y.size);have ai:=aW.kind w4;by_cases aE:xC k=0
    .rw[aE]at ai;have CK:=V ai;have b2:=z;rw[sL aE]at b2;have EO:=V b2.symm;clear ai b2;have CD:=Uz _ _ _ _ au;have eD:nV aX 0=gI bD:=by unfold nV;rw[an]
     rw[eD]at CD;have⟨ax,ac,hv⟩:=gz b6;subst hv;have c0:=fP a8 0;have c1:=fP a8 1;have c2:=fP (show w4.heap[w.heap.size+1+1]?=_ from ah) 0;have f0:=gx a8 0;have f1:=gx a8 1;have f2:=gx (show w4.heap[w.heap.size+1+1]?=_ from ah) 0;dsimp at c0 c1 c2;have HX:=V (And.intro a8 (And.intro ah (And.intro b6 (And.intro aF (And.intro au an)))));go_wp21;refine CK.mono ?_;rintro e w5⟨rfl,rfl⟩;go_wp21;refine CD.mono ?_;rintro e w5⟨rfl,rfl⟩;have⟨tb5,sb5,ow5,kw5,hrf5,ap⟩:=HX;have b4:w.heap.size+1+1≠w.heap.size+1:=by omega
     have U:(w5.setCell ⟨w.heap.size+1,1,none⟩ (gI bD)).heap[w.heap.size+1]?=some (gH #[.slice ax L.length ac,gI bD] 68):=gh tb5 1 _;have az:(w5.setCell ⟨w.heap.size+1,1,none⟩ (gI bD)).heap[w.heap.size+1+1]?=some (gH #[.pointer none] 74):=(Below.heap_setCell _ _ _ _ b4).trans sb5;have E1:=V (qG U 0 (.slice ax L.length ac) rfl);have E2:=V (qG U 1 (gI bD) rfl);have E3:=V (qG az 0 (.pointer none) rfl);have q0:=fP U 0;have q1:=fP U 1;have q2:=fP az 0;dsimp at q0 q1 q2;have F:Z [w.heap.size+1] w5 (w5.setCell ⟨w.heap.size+1,1,none⟩ (gI bD)):=(Z.refl _ _).setCell (.inl (by simp)) _;have ae:Rd w5 r (QR R σ2.nW σ2.iU) ps m:=hrf5.dv;have bW:r∉[w.heap.size+1]:=by
      intro hm;have e:=List.mem_singleton.1 hm;unfold Rd at ae;rw[e,tb5]at ae;simp at ae
     have af:=hrf5.abm [68] (.j9 F (λk o _=>by
      have e:=List.mem_singleton.1 o;subst e;exact⟨⟨_,_,_,tb5,by simp⟩,by omega⟩)) (by decide) (by decide) (ae.kept F bW) (jD) [] (pP _ _ _ _) (xj _) σ2.fresh (λ_ g hg=>by simp[Value.ownBlock]at hg) (λg hg=>by simp[Value.ownBlock]at hg)
     have HF:Hid (Lu w (iA (.tuple #[.agg #[.slice ax L.length ac,gI bD],.pointer none])) (w5.setCell ⟨w.heap.size+1,1,none⟩ (gI bD)) cr):=by
      rw[EO.out];refine V ⟨_,bD,_,aX,rfl,ap,af,?_,by have:=P.len;omega,kw5.setCell (.inr (by simp)) _⟩;refine ke (F.ownsRow ow5 (λq hq=>?_)) P.XV.1;intro hm;have e:=List.mem_singleton.1 hm;subst e;rcases ow5.2 with⟨e2,_⟩|⟨q,ad,aC,e2,_,hc,_⟩;rw[e2]at hq;cases hq;rw[e2]at hq;have e3:=Ki hq;subst e3;rw[tb5]at hc;simp at hc
     go_wp2;rw[E1.out,E2.out,E3.out];refine leaves_cons (f:=42) (args:=#[gI (w.heap.size+1),gI (w.heap.size+1+1)]) (by simp) (by simp[go_sem]) ?_;refine(Wb ⟨w.heap.size+1,0,none⟩ ⟨w.heap.size+1+1,0,none⟩ _).mono ?_;rintro e u' br⟨rfl,rfl,rfl⟩;simp[Go.Leaves,settle,results,results29,go_sem,q0,q1,q2];exact ak _ _ HF
    .have bR:=bS aE;have CK:=V ai;have b9:=z;rw[Xx aE]at b9;have cl:((xC k:Int)==0)=false:=beq_eq_false_iff_ne.2 (by omega);have bt:L.length<=1024:=by have:=P.len;have:=P.le;omega
     clear ai;have bQ:=aW.iq;have cf:=aW.nil;have CY:=Un (kG s ps:Int) (kG s m:Int) w4;have aL:w2.heap.size<=w4.heap.size:=jZ P.XV.2 (jZ bc y.size);have HX:=V (And.intro bf (And.intro b0 (And.intro ca (And.intro a8 (And.intro ah (And.intro b6 (And.intro aF (And.intro au (And.intro an aL)))))))));go_wp21;refine CK.mono ?_;rintro e w5⟨rfl,rfl⟩;go_wp21;refine CY.mono ?_;rintro e w6⟨rfl,F⟩;have⟨hat5,hA5,lk5,tb5,sb5,ow5,kw5,hrf5,ap,big5⟩:=HX;have U:=F.at tb5 (by simp);have Q:=F.ownsRow ow5 (λ_ _=>by simp);have⟨ax,ac,hv⟩:=gz Q;subst hv;have c6:=fP U 0;dsimp at c6;have CA:=T4 w2.heap.size _ L ⟨(xC k:Int),kG s ps,kG s m⟩ w6 Q (jZ big5 F.size) (by omega);have HP:=V (And.intro (hat5.kept (F.mono (by simp))) (And.intro (F.at hA5 (by simp)) (And.intro ((F.block b (nr E.lt big5) (by simp)).trans lk5) (And.intro U (And.intro (F.at sb5 (by simp)) (And.intro Q (And.intro (kw5.trans F) (And.intro (hrf5.ir F) (And.intro ap (jZ big5 F.size))))))))));go_wp21;refine CA.mono ?_;rintro e w7⟨v7,rfl,b7,a1⟩;have⟨hat6,hA6,lk6,U,az,Q,kw6,af,hfl6,big6⟩:=HP;have ne:∀{k:Nat} {c:jL} {t:TypeId},w6.heap[k]?=some (gH c t)->t≠73->k∉(Value.slice ax L.length ac).ownBlock.toList:=by
      intro k c t o ht hm;rcases Q.2 with⟨e2,_⟩|⟨q,ad,aC,e2,_,hc,_⟩;rw[e2]at hm;simp[Value.ownBlock]at hm;rw[e2]at hm;simp[Value.ownBlock]at hm;subst hm;rw[o]at hc;simp at hc;exact ht hc.2
     have aS:=af.dv;have cc:w7.heap[b]?=w2.heap[b]?:=(KT.map (bs:=w.heap.size) (T:=[73]) (.j9 a1 (λk o _=>by
      obtain⟨c,m,hc⟩:=tJ Q (by simpa using o);exact⟨⟨_,_,_,hc,by simp⟩,by have h7:=(Q.lt k (by simpa using o)).1;have h8:=P.XV.1;omega⟩)) lk6 E).trans lk6
     have aA:=a1.at U (ne U (by decide));have bq:=a1.at az (ne az (by decide));have al:=a1.at hA6 (ne hA6 (by decide));have ar:Rd w7 r (QR R σ2.nW σ2.iU) ps m:=a1.at aS (ne aS (by decide));have am:Po w7 r R g cap (kG s):=⟨hat6.av,hat6.ne,ja al,λi hi=>by rw[fP al,<-fP hA6];exact hat6.at_ i hi⟩;have c9:Z [] w w7:=kw6.next a1 (λx hx=> .inr (by have h7:=(Q.lt x (by simpa using hx)).1;have h8:=P.XV.1;omega));have bl:=af.abm [73] (.j9 a1 (λk o _=>by
      obtain⟨c,m,hc⟩:=tJ Q (by simpa using o);exact⟨⟨_,_,_,hc,by simp⟩,by have h7:=(Q.lt k (by simpa using o)).1;have h8:=P.XV.1;omega⟩)) (by decide) (by decide) ar (jD) [] (pP _ _ _ _) (xj _) σ2.fresh (λ_ g hg=>by simp[Value.ownBlock]at hg) (λg hg=>by simp[Value.ownBlock]at hg)
     have⟨a7,p7,hv7⟩:=gz b7;subst hv7;have c7:=fP aA 0;have f7:=gx aA 0;dsimp at c7;have aa:Z [w.heap.size+1] w7 (w7.setCell ⟨w.heap.size+1,0,none⟩ (.slice a7 (wx L ⟨(xC k:Int),kG s ps,kG s m⟩).length p7)):=(Z.refl _ _).setCell (.inl (by simp)) _;have aI:∀{k:Nat} {c:jL} {t:TypeId},w7.heap[k]?=some (gH c t)->t≠68->k∉[w.heap.size+1]:=by
      intro k c t o ht hm;have e:=List.mem_singleton.1 hm;subst e;rw[aA]at o;simp at o;exact ht o.2.symm
     have aT:Rd (w7.setCell ⟨w.heap.size+1,0,none⟩ (.slice a7 (wx L ⟨(xC k:Int),kG s ps,kG s m⟩).length p7)) r (QR R σ2.nW σ2.iU) ps m:=aa.at ar (aI ar (by decide));have bn:=bl.abm [68] (.j9 aa (λk o _=>by
      have e:=List.mem_singleton.1 o;subst e;exact⟨⟨_,_,_,aA,by simp⟩,by omega⟩)) (by decide) (by decide) aT (jD) [] (pP _ _ _ _) (xj _) σ2.fresh (λ_ g hg=>by simp[Value.ownBlock]at hg) (λg hg=>by simp[Value.ownBlock]at hg)
     have b1:=aa.at al (aI al (by decide));have HE:Hid (dy w bm bB bD r b C R g cap (kG s) w2.heap.size w2 m ps σ2 (.slice a7 (wx L ⟨(xC k:Int),kG s ps,kG s m⟩).length p7) (wx L ⟨(xC k:Int),kG s ps,kG s m⟩) (w7.setCell ⟨w.heap.size+1,0,none⟩ (.slice a7 (wx L ⟨(xC k:Int),kG s ps,kG s m⟩).length p7))):=V
      {rel:=⟨aX,_,_,_,hfl6,bn⟩
       lk:=by
        rw[aa.block b (nr E.out.lt (jZ big6 a1.size)) (by
         intro hm;have e:=List.mem_singleton.1 hm;omega)]
        exact cc
       gG:=⟨am.av,am.ne,ja b1,λi hi=>by rw[fP b1,<-fP al];exact am.at_ i hi⟩
       eP:=⟨_,b1⟩
       tb:=gh aA 0 _
       sb:=aa.at bq (aI bq (by decide))
       own:=aa.ownsRow b7 (λq hq=>by
        rcases b7.2 with⟨e2,_⟩|⟨q',ad,aC,e2,_,hc,_⟩;rw[e2]at hq;cases hq;rw[e2]at hq;have e3:=Ki hq;subst e3;exact aI hc (by decide))
       kept:=c9.setCell (.inr (by simp)) _
       le:=bR.2
       pos:=b5
       len:=by have h8:=abR L ⟨(xC k:Int),kG s ps,kG s m⟩;have h9:=P.len;omega
       XV:=⟨P.XV.1,jZ (jZ big6 a1.size) aa.size⟩
       di:=P.di}
     have P8:=aT.ps;have b3:R.cs.size-m<R.cs.size-ps:=by omega
     generalize hlq:(wx L ⟨(xC k:Int),kG s ps,kG s m⟩).length=ch at *;go_wp2;go_roundw
     case rel=>exact⟨n,m,ps,σ2,_,_,HE,b9,by omega⟩
     case measure=>rw[P8,P0];simpa [intOf]using b3
def BM(σ:N):Prop:=6<=σ.mode\/σ.mode=5/\6<=σ.kept
def En(r:qQ Unit):Prop:=∀u j,r=.ok u j->BM j
theorem FV{α:Type}{m:M α}{f:α->M Unit}(h:∀a j,m σ=.ok a j->En (f a j)):En ((m>>=f) σ):=by
 intro u k e;rw[M.gw]at e;cases hm:m σ with
 |ok a j=>rw[hm]at e;exact h a j hm u k e
 |stop c p=>grind
 |stuck=>grind
def Ar{m:M Unit}(h:En (m σ)):En ((m>>=λ_=>(Pure.pure ():M Unit)) σ):=FV λa o e u k j=>by
 cases j;exact h _ _ e
theorem yc{α k:Type}{m:M α}{f:α->M k}{σ':N}{b:k}(h:(m>>=f) σ=.ok b σ'):∃a j,m σ=.ok a j/\f a j=.ok b σ':=by
 grind[M.gw]
def RB.en{r:qQ Unit}(h:RB c σ r):En r:=by
 rintro u m rfl;rcases h.2.1.sh with j|⟨j,k,_⟩|⟨j,_⟩;exact .inl (FF j);exact .inr ⟨j,FF k⟩;exact .inl (by omega)
section
variable {a b n:Nat}{gG:lu}{σ:N}
def E4(k:σ.mode=6):En (gX false (n+1) 6 ⟨a,b,.iw,gG⟩ σ):=by
 intro u j e;cases e;exact .inl (by omega)
theorem fw:En (gX false (n+2) 4 ⟨a,b,.iw,gG⟩ σ):=by
 exact FV λ_ j _=>Ar (m:=jF (gX _ (n+1)) ⟨a,b,.iw,gG⟩) (σ:={j with mode:=6}) (E4 rfl)
theorem fu:En (gX false (n+3) 3 ⟨a,b,.iw,gG⟩ σ):=by
 exact Ar fw
theorem ft:En (gX false (n+4) 2 ⟨a,b,.iw,gG⟩ σ):=by
 refine FV λ_ j h=>Ar ?_;obtain⟨_,_,_,h⟩:=yc h;obtain⟨_,_,_,h⟩:=yc h;obtain⟨_,k,_,h⟩:=yc h;cases h;exact fu
theorem fq:En (gX false (n+5) 1 ⟨a,b,.iw,gG⟩ σ):=by
 refine FV λ_ j h=>Ar ?_;obtain⟨_,_,_,h⟩:=yc h;obtain⟨_,_,_,h⟩:=yc h;obtain⟨_,_,_,h⟩:=yc h;obtain⟨_,k,_,h⟩:=yc h;cases h;exact ft
theorem E0:En (gX false (n+6) 0 ⟨a,b,.iw,gG⟩ σ):=by
 exact Ar fq
theorem XR(y:4*64+8<=n)(u:wP ⟨a,b,.iw,gG⟩)(m:nU σ)(hs:HS σ.mode σ.gq σ.head)(z:wt σ<995000)(k:σ.waiting.length<4000):En (gX false (n+6) σ.mode ⟨a,b,.iw,gG⟩ σ):=by
 rcases hs with⟨j,_⟩|⟨j,_⟩|⟨j,_⟩|⟨j,_⟩|⟨j,p⟩;rcases D0 σ.mode 1 with q|q;grind[E0];have e:σ.mode=1:=by omega
 grind[fq];grind[ft];grind[fu];grind[fw];exact(Lt 64 _ (by omega) _ σ ⟨u,⟨m,p,j⟩,(λh=>by cases h),by omega,k,(by obtain⟨r,o⟩:=m;exact jZ o.yK o.TM)⟩).en
theorem ali(y:wP ⟨a,b,.iw,gG⟩)(g:zx σ)(hw:Hq σ<990000)(p:σ.waiting.length<4000):En (gX false uU σ.mode ⟨a,b,.iw,gG⟩ σ):=by
 have a0:wt σ<990000:=by unfold Hq at hw;omega
 rcases g.ms.1 with h|⟨m,q,o,T⟩|⟨m,q,o⟩;grind[XR,zx.iv];rw[m];obtain⟨Q,_⟩:=IP g.iv o;exact Ar (XR (by omega) y (Q.lf rfl rfl rfl rfl rfl rfl rfl) T (by show wt σ<_;omega) p)
 .rw[m];show En (lM (gX true 299) (gX false 299) ⟨a,b,.iw,gG⟩ σ);unfold lM;have k:=DH (n:=298) g.iv o g.wz (by grind[Hq]);refine FV λu j e=>?_;rw[e]at k;obtain⟨z,I,a3,P,a5,a6,a7,a8,a9,E,F⟩:=k;have U:rC j.kept=true:=by rw[P];rcases q with e|e|e<;>(rw[e];rfl)
  exact Ar (XR (n:=293) (by omega) y (z.lf rfl rfl rfl rfl rfl rfl rfl) (.inr (.inr (.inr (.inr ⟨U,I⟩)))) (by show wt j<_;grind[Hq]) (by grind))
def aeh(m:wP ⟨a,b,.iw,gG⟩)(g:zx σ)(k:Hq σ<990000)(j:σ.waiting.length<4000):En (qR (gX false uU) ⟨a,b,.iw,gG⟩ σ):=by
 show En (if σ.behind&&ld _ _ then qQ.ok () _ else jF _ _ _);have e:ld (gF.chars ⟨a,b,.iw,gG⟩) y8=false:=(by decide+kernel:ld (⟨#[]⟩) _=false);rw[e,Bool.and_false];exact ali m ⟨g.iv.lf rfl rfl rfl rfl rfl rfl rfl,g.ms,g.wz⟩ k j
end
def ac8(R:RC)(σ:N)(ps:Nat)(t:gF):Lr (yu R σ ps t) t:=by
 intro h;have⟨a,b,k,gG⟩:=t;cases k<;>first|rfl|cases h
def Mo(g:zx σ)(R:RC)(ps:Nat)(t:gF):zx (yu R σ ps t):=⟨g.iv.lf rfl rfl rfl rfl rfl rfl rfl,g.ms,g.wz⟩
def ako(R:RC)(cut:Nat->Nat)(ps:Nat)(σ:N):ahM->Prop
 | .stuck=>False
 | .stop _ p=>∃q,ps<=q/\q<=R.cs.size/\p=cut q
 | .done σ' _=>zx σ'/\Hq σ'<=Hq σ+580*(R.cs.size+1-ps)/\σ'.qZ=σ.qZ/\σ'.sB=σ.sB/\σ'.qu=σ.qu/\BM σ'/\∀i s,iV σ i s->iV σ' i s
theorem adq(hk:∀x t,look x=some t->t.size<=16)(hz:R.cs.size<=1024):∀(n ps:Nat)(σ:N)(L:List Sp),ps<=R.cs.size->R.cs.size-ps<n->zx σ->Hq σ+580*(R.cs.size+1-ps)<990000->σ.waiting.length+(R.cs.size+1-ps)<4000->ako R cut ps σ (oe R look lg cut n ps σ L):=by
 intro n
 induction n with
 |zero=>grind
 |succ n ih=>
  intro ps σ L U h2 g hp hw;rw[oe];have j:ps<R.cs.size->A9 (QR R σ.nW σ.iU) ps (kF (QR R σ.nW σ.iU) look lg ps):=λh=>(EA (R:=QR R σ.nW σ.iU) hk hz h).1;have o:ps=R.cs.size->kF (QR R σ.nW σ.iU) look lg ps=.tok .UM R.cs.size:=λe=>by rw[e];exact VA (R:=QR R σ.nW σ.iU)
  cases hT:kF (QR R σ.nW σ.iU) look lg ps with
  |stop=>exact⟨ps,ic _,U,rfl⟩
  |tok k m=>
   dsimp only;have z:cJ k:=by
    rcases D0 ps R.cs.size with h|h;have:=j h;rw[hT]at this;exact this.2.2.2.2;have:=o (by omega);rw[hT]at this;obtain⟨rfl,_⟩:=Bq.tok.inj this;trivial
   have E:xC k≠0->ps<m/\m<=R.cs.size:=by
    intro y;rcases D0 ps R.cs.size with h|h;have:=j h;rw[hT]at this;exact⟨this.1,this.2.1⟩;have:=o (by omega);rw[hT]at this;obtain⟨rfl,_⟩:=Bq.tok.inj this;exact absurd rfl y
   have ht:=aj4 (pI (cut ps) (cut m) k) (z.tok _ _) (Mo g R ps (pI (cut ps) (cut m) k)) (ac8 R σ ps _) (by show Hq σ<_;omega) (by show σ.waiting.length<_;omega);have ha:(pI (cut ps) (cut m) k).a=cut ps:=by cases k<;>rfl
   revert ht;cases hT1:qR (gX false uU) (pI (cut ps) (cut m) k) (yu R σ ps (pI (cut ps) (cut m) k))with
   |stuck=>exact λh=>h.elim
   |stop c p=>
    intro h;refine⟨ps,ic _,U,?_⟩;rw[<-ha];exact h
   |ok u σ2=>
    rintro⟨F,I,P,Q,a5,a6,T⟩;have a0:σ2.waiting.length<=σ.waiting.length+1:=a5;have a8:Hq σ2<=Hq σ+580:=a6;dsimp only;split;rename_i h0;refine⟨F,by omega,I,P,Q,?_,T⟩;cases k with
    |UM=>exact aeh ((z.tok _ _).resolve_left (by intro e;cases e)) (Mo g R ps _) (by show Hq σ<_;omega) (by show σ.waiting.length<_;omega) _ _ hT1
    |_=>cases h0
    .rename_i y;obtain⟨m1,m2⟩:=E y;have h3:=ih m σ2 (wx L ⟨(xC k:Int),cut ps,cut m⟩) m2 (by omega) F (by omega) (by omega);revert h3;cases oe R look lg cut n m σ2 (wx L ⟨(xC k:Int),cut ps,cut m⟩)with
     |stuck=>exact λh=>h
     |stop c p=>rintro⟨q,q1,q2,q3⟩;exact⟨q,by omega,q2,q3⟩
     |done σ' L'=>rintro⟨b1,b2,b3,b4,b5,b6,b7⟩;exact⟨b1,by omega,b3.trans I,b4.trans P,b5.trans Q,b6,λi s q=>b7 i s (T i s q)⟩
theorem Fw{e:wN}(h:(S0 d f l a).gU i=some e):e.ji=none/\e.kids=[]:=by grind[aef]
theorem am2(m:d<=64)(u:f<=32):nU (S0 d f l a):=
 ⟨λ_=>0,{
  pc:=⟨λi e p h E=>(by grind[Fw]),λi e j h o=>(by rw[(Fw h).2]at o;cases o),λi e h=>(by rw[(Fw h).2];simp[iO]),λi e h k hk=>(by rw[(Fw h).2]at hk;cases hk)⟩
  uK:=⟨λi e p h E=>(by grind[Fw]),List.Pairwise.nil,λd h y=>by cases y⟩
  gq:=λx F=>by cases F
  act:=λi z=>by cases z
  head:=λd m=>by cases m
  form:=λd m=>by cases m
  Pw:=λx q h=>by cases h
  yK:=xj _
  Br:=xj _
  TM:=m
  XH:=u
  wA:=rfl}⟩
def ahO(j:d<=64)(k:f<=32):zx (S0 d f l a):=⟨am2 j k,⟨.inl (.inl ⟨xj _,rfl,rfl⟩),BH.low (xj _)⟩,λx m=>by cases m⟩
def aeg:Hq (S0 d f l a)<=1000:=by show([aO _].sum+200*0<=1000);decide
def sw(R:RC)(j k:gP)(lg:Int):RC:={R with av:=j,mv:=k,lg:=lg}
theorem aao(R:RC)(j k:gP)(lg:Int):∀(n i:Nat),R.cs.size-i<=n->vz (sw R j k lg) i=vz R i
 |0,i,h=>by
  grind[vz,sw]
 |n+1,i,h=>by
  rw[vz.eq_1 _ i,vz.eq_1 R i];show(if i<R.cs.size then (if pre (R.cs.extract i R.cs.size) e1=true then i+3 else if pre (R.cs.extract i R.cs.size) e2=true then i+4 else vz _ _)else i)=_;split;rw[aao R j k lg n _ (by omega)];rfl
theorem Uv(R:RC)(j k:gP)(lg:Int)(a:Nat):∀(n i:Nat),R.cs.size-i<=n->qU (sw R j k lg) a i=qU R a i
 |0,i,h=>by
  grind[qU,sw]
 |n+1,i,h=>by
  rw[qU.eq_1 _ a i,qU.eq_1 R a i];show(if i<R.cs.size then (if pre (R.cs.extract i R.cs.size) e1=true then R.cs.extract a i else if pre (R.cs.extract i R.cs.size) e2=true then R.cs.extract a i else qU _ a _)else AD _)=_;split;rw[Uv R j k lg a n _ (by omega)];rfl
theorem NH(R:RC)(j m:gP)(k:Int)(look:O->Option O)(lg:Nat):∀(n:Nat)(L:lu)(i:Nat),R.cs.size-i<=n->mc (sw R j m k) look lg L i=mc R look lg L i
 |0,L,i,h=>by
  have p:=sF (R:=R) (ps:=i);rw[mc.eq_1 _ look lg L i,mc.eq_1 R look lg L i,dif_neg (by show ¬jl R i<R.cs.size;omega),dif_neg (by omega)]
 |n+1,L,i,h=>by
  have p:=sF (R:=R) (ps:=i);rw[mc.eq_1 _ look lg L i,mc.eq_1 R look lg L i];by_cases o:jl R i<R.cs.size
  .rw[Jg (show jl (sw R j m k) i<(sw R j m k).cs.size from o),Jg o];have q:=ug (R:=R) (ps:=jl R i);have u:=xY (R:=R) (ps:=kQ R (jl R i));show(if pre (R.cs.extract (jl R i) R.cs.size) _=true then Lv.whole (jl R i+1) L else if AZ R _ (jl R i)=true then .stop else mc _ look lg (qK R look lg L (jl R i)) (qJ R (kQ R (jl R i))))=_;rw[(NH R j m k look lg n _ (qJ R (kQ R (jl R i))) (by omega))]
  grind[jl,sw]
def ag0(R:RC)(j m:gP)(k:Int)(look:O->Option O)(lg bg ps:Nat):mO (sw R j m k) look lg bg ps=mO R look lg bg ps:=by
 unfold mO;rw[NH R j m k look lg _ [] _ (ic _)];rfl
def ace(R:RC)(j m:gP)(k:Int)(ps:Nat):oN (sw R j m k) ps=oN R ps:=by
 unfold oN;rw[aao R j m k _ ps (ic _)];rfl
def Yc(R:RC)(j m:gP)(k:Int)(ps:Nat):pu (sw R j m k) ps=pu R ps:=by
 unfold pu;rw[Uv R j m k _ _ ps (ic _)];rfl
def aiQ(R:RC)(j m:gP)(k:Int)(look:O->Option O)(lg bg ps:Nat):qD (sw R j m k) look lg bg ps=qD R look lg bg ps:=by
 unfold qD;rw[NH R j m k look lg _ [] _ (ic _),ag0,ace,Yc];rfl
def aiZ(R:RC)(j m:gP)(k:Int)(look:O->Option O)(lg ps:Nat):kF (sw R j m k) look lg ps=kF R look lg ps:=by
 unfold kF;have e:uJ (sw R j m k) ps=sw (uJ R ps) j m k:=rfl;rw[e,aiQ];rfl
theorem Qy(R:RC)(j q:gP)(o:Int)(look:O->Option O)(lg:Nat)(cut:Nat->Nat):∀(n ps:Nat)(σ:N)(L:List Sp),oe (sw R j q o) look lg cut n ps σ L=oe R look lg cut n ps σ L
 |0,_,_,_=>rfl
 |n+1,ps,σ,L=>by
  rw[oe,oe];have e:QR (sw R j q o) σ.nW σ.iU=sw (QR R σ.nW σ.iU) j q o:=rfl;rw[e,aiZ];cases kF _ look lg ps with
  |stop=>rfl
  |tok k m=>
   have e2:yu (sw R j q o) σ ps (pI (cut ps) (cut m) k)=yu R σ ps (pI (cut ps) (cut m) k):=by
    unfold yu Cm;by_cases h:ps=R.cs.size;grind[QR,sw];rw[Xx (show ¬ps=(QR (sw R j q o) σ.nW σ.iU).cs.size from h),Xx (show ¬ps=(QR R σ.nW σ.iU).cs.size from h)];rfl
   dsimp only;rw[e2];cases qR (gX false uU) _ _ with
   |stuck=>rfl
   |stop c p=>rfl
   |ok u σ2=>
    dsimp only;rw[Qy R j q o look lg cut n m σ2]
def AO(d f l:Nat)(s:O):ahM:=oe (vB s l .nilFunc 0) (qe KV) 8 (kG s) ((vA s).size+1) 0 (S0 d f l 0) []
theorem Qz(d f l:Nat)(s:O)(j:gP)(b:Nat):oe (vB s l j b) (qe KV) 8 (kG s) ((vA s).size+1) 0 (S0 d f l 0) []=AO d f l s:=
 Qy (vB s l _ 0) j _ 8 _ 8 _ _ _ _ _
theorem FQ(s:O):(vA s).size<=s.size:=by grind[vN,KX]
theorem yP:∀x t,qe KV x=some t->t.size<=16:=by
 grind[Option.map_eq_some_iff,TT,qe]
theorem Dr(d f l:Nat)(s:O)(hs:s.size<=1024)(j:d<=64)(k:f<=32):ako (vB s l .nilFunc 0) (kG s) 0 (S0 d f l 0) (AO d f l s):=by
 have m:=FQ s;have o:=aeg (d:=d) (f:=f) (l:=l) (a:=0);refine adq yP (by grind[vB]) _ _ _ _ (xj _) ?_ (ahO j k) ?_ ?_;simp[vB];show Hq _+580*((vA s).size+1-0)<990000;omega;show 0+((vA s).size+1-0)<4000;omega
theorem QB(s:O)(k:gP)(base d f l:Nat)(w:J)(u:w.ownsRow base 5 1 k s.size (lx s))(hs:s.size<=1024)(m:d<=64)(o:f<=32)(q:l<=16)(p:y9 w)(j:N5 w):
  Calls prog 29 #[k,.agg #[G d,G f,G l]] w λe w'=>Lu w e w' (AO d f l s):=by
 refine(agN s k base d f l w u hs m o q p j (λy b h=>?_)).mono ?_;rw[Qz]at h;have:=Dr d f l s hs m o
 rwa [h]at this
 grind[Qz]
theorem GI.lf{f:Bool}{σ':N}(h:GI f σ)(e1:σ'.nodes=σ.nodes)(e2:σ'.gq=σ.gq)(o:σ'.act=σ.act)(p:σ'.form=σ.form)(q:σ'.head=σ.head)(u:σ'.waiting=σ.waiting)(y:σ'.mode=σ.mode)(z:σ'.kept=σ.kept)(E:σ'.im=σ.im):GI f σ':=by
 have⟨U,H,Q,j,h2,h3⟩:=h;have m:∀i,σ'.nm i=σ.nm i:=λi=>by unfold N.nm N.gU;rw[e1]
 have k:σ'.last=σ.last:=by unfold N.last;rw[e2]
 refine GI.set j e1 e2 o p q (by rw[u];exact j.wt) (E.trans j.md.2.2) ?_ (by grind);rw[y,z];exact⟨by rw[e2];exact h2.ok,by simp only[k,m];exact h2.k5,h2.k8,h2.cg,by simp only[k,m];exact h2.ch⟩
def aei(n:Nat){t:gF}(o:TA t)(h:GI false σ):kh (λ_=>GI false) (qR (gX false n) t σ):=by
 have m:GI _ {σ with behind:=false,gQ:=t.a}:=h.lf rfl rfl rfl rfl rfl rfl rfl rfl rfl;have j:kh (λ_=>GI false) ((if σ.behind&&ld t.chars y8 then qQ.ok () {σ with behind:=false,gQ:=t.a} else jF (gX false n) t {σ with behind:=false,gQ:=t.a})):=by
  split;exact m;exact(NI n _ t o).1 (.own (.inr (.inr (.inr rfl)))) m
 have⟨a,b,k,gG⟩:=t;cases k with
 |lost=>exact h
 |_=>exact j
theorem am1(d f l a:Nat):GI false (S0 d f l a):=by
 have o:∀i e,(S0 d f l a).gU i=some e->i=0/\e=⟨⟨#[]⟩,[],none,[]⟩:=λi e j=>by
  have:=N.io j;obtain rfl:i=0:=by grind[S0]
  cases j;simp
 refine N0.gi (σ:=S0 d f l a) ⟨⟨⟨λi e j u=>?_,λi e j k hk=>?_,λi e j=>?_,by grind,λi e j=>?_,λi s p=>?_,rfl⟩,trivial,rfl,λx q=>(by cases q),yA,λi m=>(by cases m),by grind,λi m=>(by cases m),λi m=>(by cases m),λi m=>(by cases m),rfl⟩,rfl⟩ (by decide);grind;grind;rw[(o i e j).2];rfl;grind[rH];cases i with
 |zero=>cases p
 |succ i=>grind[S0]
def Qi:A8->Prop
 | .el e=>e.name.size<=5000/\e.gR.length<=16/\∀p∈e.gR,p.1.size<=5000/\p.2.size<=66000
 | .tx _=>True
 | .cm s=>s.size<=5000
 | .dt s=>s.size<=5000
class XL where
 l:List Nat
section
variable [XL]
def NG(σ:N):Prop:=σ.qu<=16/\(∀n∈σ.nodes,Qi n)/\∀i e,σ.gU i=some e->e.ji=none->i=0\/i∈XL.l
structure TG(t:gF):Prop where
 name:t.name.size<=5000
 len:t.jh.length<=16
 gG:∀p∈t.jh,p.1.size<=5000/\p.2.size<=66000
 cm:∀s,t.k=.gV s->s.size<=5000
 dt:∀n q,t.k=.iH n q->n.size<=5000
def xe{α:Type}(r:qQ α):Prop:=match r with
 | .ok _ σ'=>NG σ'
 | .stop e _=>e≠0
 | .stuck=>True
def Kp{α:Type}(m:M α):Prop:=∀σ,NG σ->xe (m σ)
theorem Kp.pure{α:Type}(a:α):Kp (Pure.pure a:M α):=λ_ h=>h
theorem Kp.stuck{α:Type}:Kp (stuck:M α):=λ_ _=>trivial
theorem Kp.bind{α q:Type}{m:M α}{f:α->M q}(h:Kp m)(o:∀a,Kp (f a)):Kp (m>>=f):=by
 intro σ k;rw[M.gw];have j:=h σ k;revert j;cases m σ with
 |ok a σ'=>intro j;exact o a σ' j
 |stop e p=>simp[xe]
 |stuck=>simp[xe]
theorem Kp.ite{α:Type}{c:Prop}[Decidable c]{a b:M α}(j:Kp a)(k:Kp b):Kp (if c then a else b):=by grind
theorem Kp.at{α:Type}{m:M α}{σ:N}(h:Kp m)(j:NG σ):xe (m σ):=h σ j
theorem NG.lf{σ σ':N}(h:NG σ)(e1:σ'.nodes=σ.nodes)(e2:σ'.qu=σ.qu):NG σ':=⟨by rw[e2];exact h.1,by rw[e1];exact h.2.1,λi e j=>h.2.2 i e (by grind[N.gU])⟩
def Kp.uL{f:N->N}(e1:∀σ,(f σ).nodes=σ.nodes)(e2:∀σ,(f σ).qu=σ.qu):Kp (uL f):=λσ h=>h.lf (e1 σ) (e2 σ)
theorem Kp.same{α:Type}{m:M α}(h:∀σ a j,m σ=.ok a j->j=σ)(hs:∀σ c p,m σ≠ .stop c p):Kp m:=by
 intro σ q;have k:=h σ;have o:=hs σ;revert k o;cases m σ with
 |ok a j=>grind[xe]
 |stop e p=>simp
 |stuck=>simp[xe]
def NG.el{σ:N}(h:NG σ){i:Nat}{e:wN}(j:σ.gU i=some e):Qi (.el e):=h.2.1 _ (ahs (N.jp j))
theorem NG.anV{σ:N}(h:NG σ){i:Nat}{n:A8}(u:Qi n)(y:∀e,n=.el e->e.ji=none->i=0\/i∈XL.l):NG {σ with nodes:=σ.nodes.set i n}:=⟨h.1,λm q=>by
 rcases List.mem_or_eq_of_mem_set q with k|k;exact h.2.1 m k;grind,λj e p=>by
 have o:=h.2.2 j e;unfold N.gU at p o;grind⟩
theorem NG.set{σ:N}(h:NG σ){i:Nat}{e:wN}(j:Qi (.el e))(o:e.ji=none->i=0\/i∈XL.l):NG (σ.gW i e):=h.anV j (λk m=>by grind)
theorem NG.add{σ:N}(h:NG σ){n:A8}(y:Qi n)(z:∀e,n=.el e->σ.nodes.length∈XL.l):NG (σ.add n):=⟨h.1,λm q=>by
 rcases List.mem_append.1 q with o|o;exact h.2.1 m o;grind,λj e k u=>by
 by_cases p:j<σ.nodes.length;rw[N.tW p]at k;exact h.2.2 j e k u;by_cases e1:j=σ.nodes.length;subst e1;rw[N.su]at k;grind;have:=N.io k;simp[N.add]at this;omega⟩
theorem NG.qt{σ:N}(h:NG σ){n:A8}(j:Qi n)(b:Bool)(k:∀e,n=.el e->σ.nodes.length∈XL.l):NG (σ.qt n b):=(h.add j k).lf rfl rfl
omit [XL] in
theorem Qi.kids{e e':wN}(h:Qi (.el e))(j:e'.name=e.name)(k:e'.gR=e.gR):Qi (.el e'):=by
 grind[Qi]
theorem xe.ok{α:Type}{a:α}{σ:N}(h:NG σ):xe (.ok a σ):=h
theorem Kp.fn{α:Type}{f:N->qQ α}(h:∀σ,NG σ->xe (f σ)):Kp (α:=α) f:=h
attribute [simp] Kp.pure Kp.stuck Kp.bind Kp.ite
@[simp] def ahk{f:N->N}(h:∀σ,(f σ).nodes=σ.nodes/\(f σ).qu=σ.qu):Kp (uL f):=Kp.uL (λσ=>(h σ).1) (λσ=>(h σ).2)
def D6(rec:Nat->gF->M Unit):Prop:=∀m t,TG t->Kp (rec m t)
omit [XL] in
@[simp] def aaE(σ:N):σ.mn.nodes=σ.nodes/\σ.mn.qu=σ.qu:=⟨rfl,rfl⟩
def xe.st{α:Type}{n p:Nat}:xe (α:=α) (.stop (n+1) p):=Nat.succ_ne_zero n
omit [XL] in
@[simp] def ahC(σ:N)(p:O->Bool):(σ.tA p).nodes=σ.nodes/\(σ.tA p).qu=σ.qu:=⟨rfl,rfl⟩
@[simp] def ajq(pl:Nat×Nat)(j:Nat):Kp (kD pl j):=by
 intro σ h;unfold kD;split;rename_i m p k o;split;refine xe.ok (NG.set (NG.set h ?_ ?_) (Qi.kids (h.el o) rfl rfl) ?_);exact Qi.kids (h.el k) rfl rfl;exact h.2.2 _ m k;simp;trivial;trivial
@[simp] def ajs(pl:Nat×Nat)(k:Nd):Kp (vk pl k):=by
 intro σ h;unfold vk;split;rename_i m j;split;exact xe.ok (NG.set h (Qi.kids (h.el j) rfl rfl) (h.2.2 _ m j));trivial;trivial
@[simp] def amn(pl:Nat×Nat)(s:O):Kp (qV pl s):=by
 intro σ h;unfold qV;split;rename_i k j;split;split;split;split;exact xe.ok (NG.anV h trivial nofun);trivial;trivial;exact xe.ok (NG.set (NG.add h (n:=.tx _) trivial nofun) (Qi.kids (h.el j) rfl rfl) (h.2.2 _ k j));trivial;trivial
@[simp] def SG(x:jj):Kp (oH x):=by
 unfold oH;refine Kp.fn λσ h=>?_
 (repeat' split)<;>first|exact h|exact trivial|exact xe.st|exact xe.ok _|exact Kp.at _ h
@[simp] def aeQ(p b:O->Bool):Kp (lK p b):=by
 unfold lK;refine Kp.fn λσ h=>?_
 (repeat' split)<;>first|exact h|exact trivial|exact xe.st|exact xe.ok _|exact Kp.at _ h
@[simp] theorem aca:Kp (pt):=by
 simp[pt]
@[simp] def anL(p:O->Bool):Kp (pM p):=by refine Kp.uL (λσ=>?_) (λσ=>?_)<;>(unfold N.GH;split<;>rfl)
@[simp] def LP(p:O->Bool):Kp (th p):=ahk λ_=>⟨rfl,rfl⟩
@[simp] def Dt(m:Nat):Kp (jq m):=ahk λ_=>⟨rfl,rfl⟩
@[simp] def MT(x:jj):Kp (jR x):=by
 unfold jR;refine Kp.fn λσ h=>?_
 (repeat' split)<;>first|exact h|exact trivial|exact xe.st|exact xe.ok _|exact Kp.at _ h
@[simp] def TY(x:jj):Kp (kM x):=by
 unfold kM;refine Kp.fn λσ h=>?_
 (repeat' split)<;>first|exact h|exact trivial|exact xe.st|exact xe.ok _|exact Kp.at _ h
@[simp] def ai6(x y:jj):Kp (yR x y):=by
 unfold yR;refine Kp.fn λσ h=>?_
 (repeat' split)<;>first|exact h|exact trivial|exact xe.st|exact xe.ok _|exact Kp.at _ h
@[simp] def aad(x y:jj):Kp (pY x y):=by
 unfold pY;refine Kp.fn λσ h=>?_
 (repeat' split)<;>first|exact h|exact trivial|exact xe.st|exact xe.ok _|exact Kp.at _ h
@[simp] theorem aax(i:Nat):∀L:lu,(∀p∈L,p.1.size<=5000/\p.2.size<=66000)->Kp (p6 i L)
 |[],_=>Kp.pure _
 |a::r,hL=>by
  intro σ h;have k:=aax i r (λp m=>hL p (abv _ m));unfold p6;split;trivial;rename_i e j;split;exact k σ h;split;simp[xe];refine k _ (h.set ?_ (h.2.2 _ e j));have⟨a1,a2,a3⟩:=h.el j;have:=h.1;grind[Qi]
@[simp] def aoe(i:Nat)(t:gF)(j:TG t):Kp (uW i t):=by
 intro σ h;unfold uW;split;exact aax i _ j.gG σ h;trivial
@[simp] theorem ahW(n:Nat):Kp (DG n):=by
 grind[Kp.fn,DG,xe]
@[simp] def T0(n:Nat):Kp (si n):=by intro σ h;exact aad _ _ σ h
@[simp] def amo(pl:Nat×Nat)(k:Nd):Kp (Bz pl k):=by
 cases k with
 |el j=>simp[Bz]
 |tx j=>simp[Bz]
 |cm j=>simp[Bz]
 |dt j=>simp[Bz]
@[simp] theorem ajc(n:Nat):Kp (GG n):=by
 grind[Kp.fn,GG,xe]
@[simp] def Lj(rec:Nat->gF->M Unit)(t:gF)(j:D6 rec)(k:TG t):Kp (jF rec t):=λσ h=>j _ _ k σ h
@[simp] def V0(pl:Nat×Nat)(nd:A8)(k:Nat->Nd)(j:Qi nd)(m:∀e,nd=.el e->False):Kp (oR pl nd k):=λσ h=>ajs _ _ _ (h.add j λe h=>(m e h).elim)
@[simp] def Sy:Kp (nC):=by intro σ h;exact MT _ σ h
@[simp] def Zn:Kp (pushHead):=by intro σ h;exact SG _ σ h
@[simp] def ah5(rec:Nat->gF->M Unit)(t:gF)(j:D6 rec)(k:TG t):Kp (tU rec t):=Kp.bind Zn λ_=>Kp.bind (j _ _ k) λ_=>Kp.bind Sy λ_=>Kp.pure _
@[simp] def amN(of:O)(pl:Bool):Kp (FC of pl):=ahk λ_=>⟨rfl,rfl⟩
@[simp] def amO:Kp (xm):=by intro σ h;unfold xm;split;exact h;exact aca σ h
@[simp] def afq(rec:Nat->gF->M Unit)(t:gF)(j:D6 rec)(k:TG t):Kp (qC rec t):=Kp.bind (Kp.uL (λ_=>rfl) (λ_=>rfl)) λ_=>Kp.bind (j _ _ k) λ_=>Kp.bind (Kp.uL (λ_=>rfl) (λ_=>rfl)) λ_=>Kp.pure _
@[simp] theorem alZ(t:gF):Kp (oq t):=by
 unfold oq;split;refine Kp.ite (Kp.pure _) (Kp.fn λσ h=>?_);split;grind[xe.ok,NG.lf];trivial;simp
omit [XL] in
def aib(x:Nat×Nat×O):TG (ol x):=⟨xj _,xj _,(λ_ j=>by cases j),(λ_ h=>by cases h),(λ_ _ h=>by cases h)⟩
@[simp] def JG(rec:Nat->gF->M Unit)(j:D6 rec):∀xs,Kp (uv rec xs)
 |[]=>Kp.pure _
 |x::r=>Kp.bind (afq rec _ j (aib x)) λ_=>JG rec j r
@[simp] def anP:Kp (yq):=ahk λ_=>⟨rfl,rfl⟩
def QF:Ru->Bool
 | .oX _ name _=>decide (name.size<=5000)
 | .Sc r=>QF r
 |_=>true
def ff(sp:nc):Bool:=QF sp.blank&&QF sp.kE&&QF sp.gV&&QF sp.iH&&QF sp.iw&&QF sp.jS&&QF sp.kR&&QF sp.iy&&((sp.start.getD []).all λp=>QF p.2)&&((sp.stop.getD []).all λp=>QF p.2)
omit [XL] in
def ajS:∀j∈yV,ff j=true:=List.all_eq_true.1 rfl
omit [XL] in
theorem aaP:∀(R:List (List O×Ru))(k:O)(r:Ru),(R.all λp=>QF p.2)=true->oZ R k=some r->QF r=true
 |[],_,_,_,h=>by cases h
 |p::R,k,r,hR,h=>by
  rw[List.all_cons,xh]at hR;unfold oZ at h;split at h;grind;exact aaP R k r hR.2 h
omit [XL] in
def uT:∀L:List Ru,(∀r∈L,QF r=true)->QF (jv L)=true
 |[],_=>rfl
 |x::r,h=>by
  have j:=h x (N1 ..);cases x with
  |nil=>exact uT r (λy k=>h y (abv _ k))
  |_=>exact j
omit [XL] in
def aaO(R:Option (List (List O×Ru)))(k:O)(h:((R.getD []).all λp=>QF p.2)=true):QF (ux R k)=true:=by
 cases R with
 |none=>rfl
 |some R=>
  show QF ((oZ R k).getD .nil)=true;cases hq:oZ R k with
  |none=>rfl
  |some r=>exact aaP R k r h hq
omit [XL] in
theorem agV{sp:nc}(h:ff sp=true)(t:gF):QF (iS sp t)=true:=by
 unfold ff at h;simp only[xh]at h;have⟨⟨⟨⟨⟨⟨⟨⟨⟨h1,h2⟩,h3⟩,h4⟩,h5⟩,h6⟩,h7⟩,h8⟩,h9⟩,h10⟩:=h;unfold iS;split;split;exact uT _ (by grind);exact uT _ (by grind);exact uT _ (by grind);exact uT _ (by grind);exact uT _ (by simp[aaO _ _ h9,h6,h8]);exact uT _ (by simp[aaO _ _ h10,h7,h8]);exact uT _ (by grind);exact uT _ (by grind)
@[simp] def Eg(j:M (Nat×Nat))(t:gF)(k:Kp j)(o:TG t):Kp (nj j t):=by
 unfold nj;split;rename_i s m;exact Kp.bind k λ_=>Kp.bind (V0 _ _ _ (o.cm s m) nofun) λ_=>Kp.pure _;simp
@[simp] def nh0:(∀(x:jj),Kp (ani x)/\Kp (AG x)/\Kp (Af x)/\Kp (km x))/\Kp wV/\Kp JV/\Kp xn/\Kp tY/\Kp Au/\Kp xq/\Kp Ii/\Kp uR/\Kp mF/\Kp rh/\(∀(x y:jj),Kp (pK x y)/\Kp (od x y))/\(∀(s:O),Kp (tj s))/\(∀(f:Nat),Kp (ahead f))/\(∀(j:Nat->gF->M Unit)(t:gF)(p:D6 j)(k:TG t),Kp (kK j t)/\Kp (xu j t)/\Kp (tR j t)/\Kp (nM j t))/\(∀(t:gF)(k:TG t),Kp (nN t)/\Kp (p5 t))/\(∀(t:gF),Kp (yi t))/\(∀(o:List O)(m:Nat),Kp (rD o m)):=by
 (repeat' first|with_reducible intro _|with_reducible apply And.intro)<;>delta ani wV AG Af pK od km JV tj ahead kK nN p5 xn xu yi tY Au xq Ii tR nM rD uR mF rh<;>(repeat' first|with_reducible refine Kp.bind ?_ λ_=>?_|with_reducible refine Kp.ite ?_ ?_)<;>first|(simp[*];done)|(refine Kp.fn λσ h=>?_;(repeat' split)<;>first|exact h|exact trivial|exact xe.st|exact xe.ok (h.lf rfl rfl)|exact Kp.at (by(repeat' first|with_reducible refine Kp.bind ?_ λ_=>?_|with_reducible refine Kp.ite ?_ ?_)<;>simp[*]) h)
@[simp] def K7(i:Nat):Kp (jg i):=Kp.same (λ_ _ _ h=>ny h) (λσ c p=>sy _ σ c p)
@[simp] def alN(i:Nat):Kp (mG i):=Kp.same (λ_ _ _ h=>DK h) (λσ c p=>Bg _ σ c p)
@[simp] def ahE:Kp (j7):=Kp.same (λ_ _ _ h=>oJ h) (λσ c p=>yj σ c p)
@[simp] def aor(i:Nat):Kp (Lx i):=by
 intro σ h;unfold Lx;dsimp only;split;refine Kp.at ?_ h;simp[*];refine Kp.at ?_ h;simp[*]
@[simp] def aaz(d:Nat):∀j,Kp (wD d j)
 |[]=>Kp.pure _
 |k::r=>Kp.bind (K7 _) λ_=>Kp.bind (amo _ _) λ_=>aaz d r
@[simp] def YM(b d:Nat):Kp (handOver b d):=by
 intro σ h;unfold handOver;split;trivial;split;trivial;refine Kp.at (Kp.bind (aaz _ _) λ_=>Kp.fn λo j=>?_) h;split;rename_i m k;exact xe.ok (NG.set j (Qi.kids (j.el k) rfl rfl) (j.2.2 _ m k));trivial
@[simp] def Ux:Kp (Aq):=by
 simp[Aq]
@[simp] def ad6(t:gF)(k:TG t):Kp (nI t):=by
 unfold nI;split;rename_i n q j;exact Kp.bind Ux λ_=>Kp.bind (V0 _ _ _ (k.dt n q j) nofun) λ_=>by simp
 simp
def Z4{α:Type}(d8:α->List Nat)(r:qQ α):Prop:=match r with
 | .ok a σ'=>@NG ⟨d8 a⟩ σ'
 | .stop e _=>e≠0
 | .stuck=>True
omit [XL] in
theorem Z4.ok{α:Type}{d8:α->List Nat}{a:α}{σ:N}(h:@NG ⟨d8 a⟩ σ):Z4 d8 (.ok a σ):=h
def Kj{α:Type}(X:List Nat)(d8:α->List Nat)(m:M α):Prop:=∀σ,@NG ⟨X⟩ σ->Z4 d8 (m σ)
omit [XL] in
theorem Kj.bind{α o:Type}{X:List Nat}{d8:α->List Nat}{u:o->List Nat}{m:M α}{f:α->M o}(h:Kj X d8 m)(q:∀a,Kj (d8 a) u (f a)):Kj X u (m>>=f):=by
 intro σ k;rw[M.gw];have j:=h σ k;revert j;cases m σ with
 |ok a σ'=>intro j;exact q a σ' j
 |stop e p=>simp[Z4]
 |stuck=>simp[Z4]
def Kp.k{α:Type}{m:M α}(h:Kp m):Kj XL.l (λ_=>XL.l) m:=λσ j=>by
 have k:=h σ j;cases hm:m σ<;>rw[hm]at k<;>exact k
omit [XL] in
def Kp.j{α:Type}{X:List Nat}{m:M α}(h:∀[XL],Kp m):Kj X (λ_=>X) m:=@Kp.k ⟨X⟩ _ _ (@h ⟨X⟩)
def Kj.p{α:Type}{m:M α}(h:Kj XL.l (λ_=>XL.l) m):Kp m:=λσ j=>by
 have k:=h σ j;cases hm:m σ<;>rw[hm]at k<;>exact k
omit [XL] in
theorem NG.mono{X d8:List Nat}{σ:N}(h:@NG ⟨X⟩ σ)(hs:∀i∈X,i∈d8):@NG ⟨d8⟩ σ:=⟨h.1,h.2.1,λi e j k=>(h.2.2 i e j k).imp id (hs i)⟩
omit [XL] in
theorem NG.cons{X:List Nat}{σ:N}(h:@NG ⟨X⟩ σ)(j:Nat):@NG ⟨j::X⟩ σ:=h.mono λ_ k=>abv _ k
omit [XL] in
theorem GJ{X P:List Nat}(pl:Nat×Nat)(j:Nat)(q:∀i∈P,i=j\/i∈X):Kj P (λ_=>X) (kD pl j):=by
 intro σ h;have k:=@ajq ⟨j::X⟩ pl j σ (h.mono λi u=>List.mem_cons.2 (q i u));revert k;unfold kD;split;rename_i z E F p;split;rename_i I;intro k;refine Z4.ok ⟨k.1,k.2.1,λi e o y=>?_⟩;rcases k.2.2 i e o y with m|m;omega;rcases List.mem_cons.1 m with m|m;subst m;rw[N.jc (by have:=N.io p;grind[N.gW])]at o;grind;grind;simp[Z4];simp[Z4]
omit [XL] in
def aaV{X:List Nat}(k:O)(m:k.size<=5000):Kj X (λj=>j::X) (Bk k):=λσ h=>Z4.ok <|@NG.add ⟨_⟩ _ (h.cons _) (.el ⟨k,[],none,[]⟩) ⟨m,xj _,λ_ o=>by cases o⟩ λ_ _=>N1 ..
omit [XL] in
def YZ{X:List Nat}(t:gF)(k:TG t):Kj X (λj=>j::X) (ku t):=by
 intro σ h;unfold ku;split;exact Z4.ok <|@NG.qt ⟨_⟩ _ (h.cons _) (.el ⟨t.name,t.jh,none,[]⟩) ⟨k.name,k.len,k.gG⟩ _ λ_ _=>N1 ..;trivial
omit [XL] in
def Vz{X:List Nat}(k:O)(own:Bool)(gG:lu)(m:k.size<=5000)(q:gG.length<=16)(o:∀p∈gG,p.1.size<=5000/\p.2.size<=66000):Kj X (λj=>j::X) (rA k own gG):=by
 intro σ h;unfold rA;split;split;exact Z4.ok <|@NG.qt ⟨_⟩ _ (h.cons _) (.el ⟨k,gG,none,[]⟩) ⟨m,q,o⟩ _ λ_ _=>N1 ..;trivial;exact aaV k m σ h
omit [XL] in
def Eb{X:List Nat}(i:Nat):Kj X (λj=>j::X) (kq i):=by
 intro σ h;unfold kq;split;rename_i e k;split;trivial;exact Z4.ok <|@NG.add ⟨_⟩ _ (h.cons _) (.el ⟨e.name,e.gR,none,[]⟩) (Qi.kids (@NG.el ⟨_⟩ _ h _ _ k) rfl rfl) λ_ _=>N1 ..;trivial
omit [XL] in
def QO{X:List Nat}(j:Nat):Kj X (λ_=>j::X) (lX j):=by
 intro σ h;unfold lX;split;trivial;rename_i p o;split;exact Z4.ok (h.cons j);split;trivial;rename_i m k;split;refine Z4.ok (@NG.set ⟨_⟩ _ (@NG.set ⟨_⟩ _ (h.cons j) _ _ ?_ ?_) _ _ ?_ ?_);exact Qi.kids (@NG.el ⟨_⟩ _ h _ _ k) rfl rfl;exact(h.cons j).2.2 _ m k;exact Qi.kids (@NG.el ⟨_⟩ _ h _ _ o) rfl rfl;simp;trivial
@[simp] def MY(own:Bool)(gG:lu)(o:gG.length<=16)(k:∀p∈gG,p.1.size<=5000/\p.2.size<=66000):Kp (rP own gG):=
 Kj.p (Kj.bind (Vz _ _ _ (by decide) o k) λj=>Kj.bind (Kp.j Ux) λq=>Kj.bind (GJ q j λi m=>List.mem_cons.1 m) λ_=>Kp.j (Kp.bind (SG _) λ_=>Kp.bind (Dt _) λ_=>Kp.pure _))
@[simp] def akU(t:gF)(j:TG t):Kp (xV t):=Kp.bind (MY _ _ j.len j.gG) λ_=>Kp.pure _
@[simp] theorem akN:Kp (rP false []):=MY _ _ (by decide) (λ_ j=>by grind)
@[simp] theorem Ys:Kp rI:=by
 unfold rI;refine Kp.fn λσ h=>?_
 all_goals grind[xe,jg]
@[simp] def nh1:(∀(i:Nat),Kp (placeFor i))/\Kp zo/\Kp As/\Kp xv/\Kp lc/\Kp qB/\Kp Ej/\Kp jf/\(∀(j:Nat->gF->M Unit)(t:gF)(k:D6 j)(m:TG t),Kp (oF j t))/\(∀(t:gF),Kp (wC t)):=by
 (repeat' first|with_reducible intro _|with_reducible apply And.intro)<;>delta placeFor zo oF As xv wC lc qB Ej jf<;>(repeat' first|with_reducible refine Kp.bind ?_ λ_=>?_|with_reducible refine Kp.ite ?_ ?_)<;>first|(simp[*];done)|(refine Kp.fn λσ h=>?_;(repeat' split)<;>first|exact h|exact trivial|exact xe.st|exact xe.ok _|exact Kp.at (by simp) h)
@[simp] def VQ:Kp (ky):=by
 unfold ky;refine Kp.fn λσ h=>?_
 (repeat' split)<;>first|exact h|exact trivial|exact xe.st|exact xe.ok _|exact Kp.at (by simp) h
omit [XL] in
def Dj{X:List Nat}(j:Nat):Kj (j::X) (λ_=>X) (jT j):=Kj.bind (Kp.j VQ) λm=>Kj.bind (GJ m j λi k=>List.mem_cons.1 k) λ_=>Kp.j (Kp.bind (SG _) λ_=>Kp.pure _)
@[simp] def wh(k:O)(m:k.size<=5000):Kp (j8 k):=Kj.p (Kj.bind (aaV k m) λj=>Kj.bind (Dj j) λ_=>Kp.j (Kp.pure _))
@[simp] theorem Vg(t:gF)(k:TG t):Kp (iL t):=Kj.p (Kj.bind (YZ t k) λj=>Kj.bind (Dj j) λ_=>Kp.j (Kp.pure _))
@[simp] def Se(t:gF):Kp (jK t):=by
 simp[jK]
@[simp] def agP:∀k n,Kp (KE k n)
 |0,_=>Kp.pure _
 |k+1,n=>Kj.p (Kj.bind (Kp.j (ahW _)) λi=>Kj.bind (Eb i) λj=>Kj.bind (Dj j) λ_=>Kp.k (Kp.bind (T0 _) λ_=>agP k _))
@[simp] def ahG:Kp mx:=λσ h=>agP _ _ σ h
@[simp] def M0(own:Bool)(gG:lu)(m:gG.length<=16)(k:∀p∈gG,p.1.size<=5000/\p.2.size<=66000):Kp (rQ own gG):=
 Kj.p (Kj.bind (Vz _ _ _ (by decide) m k) λj=>Kj.bind (Kp.j (ahk λ_=>⟨rfl,rfl⟩)) λ_=>Kj.bind (Dj j) λ_=>Kp.j (Kp.bind (Dt _) λ_=>Kp.pure _))
@[simp] def akV(t:gF)(j:TG t):Kp (xW t):=Kp.bind (M0 _ _ j.len j.gG) λ_=>Kp.pure _
@[simp] theorem akO:Kp (rQ false []):=M0 _ _ (by decide) (λ_ j=>by grind)
@[simp] def aiG:Kp (j8 fR):=wh _ (by decide)
@[simp] def amQ:Kp (j8 oh):=wh _ (by decide)
@[simp] def alT:Kp (j8 jW):=wh _ (by decide)
@[simp] theorem SV(t:gF)(j:TG t):Kp (mQ t):=by
 grind[Kp.bind,aca,Vg,Kp.pure,mQ]
@[simp] def JP:∀xs,Kp (uw xs)
 |[]=>Kp.pure _
 |x::r=>Kp.bind (Se _) λ_=>JP r
@[simp] def Rh(rec:Nat->gF->M Unit)(j:D6 rec):Kp (oM rec):=by
 intro σ h;unfold oM;split;exact JG rec j _ σ h;exact JP _ σ h
@[simp] def ad3(j rec:Nat->gF->M Unit)(t:gF)(k:D6 j)(m:D6 rec)(o:TG t):Kp (lM j rec t):=
 Kp.bind (Rh j k) λ_=>Kp.bind (Kp.uL (λ_=>rfl) (λ_=>rfl)) λ_=>Kp.bind (Lj rec t m o) λ_=>Kp.pure _
@[simp] def aie(k:Nat)(own:Bool)(t:gF)(j:TG t):Kp (vC k own t):=by
 exact Kp.ite (Eg _ _ VQ j) (Kp.ite (Eg _ _ Ys j) (Kp.ite (Eg _ _ (K7 _) j) Kp.stuck))
omit [XL] in
theorem IX(f il:Nat):∀(X:List Nat)n c last j,Kj (last::X) (λr=>r.1::X) (mN f il n c last j)
 |X,0,_,_,_=>λσ h=>h
 |X,n+1,c,last,j=>by
  unfold mN;refine Kj.bind (Kp.j (ajc _)) λe=>?_;split;exact λσ h=>h;refine Kj.bind (Kp.j (Kp.ite (TY _) (Kp.pure _))) λ_=>λσ h=>?_;by_cases m:some e∉σ.act;rw[sL m];exact Kj.bind (Kp.j (MT _)) (λ_=>IX f il X n _ _ _) σ h;rw[Xx m];exact Kj.bind (Eb _) (λk=>Kj.bind (Kp.j (ai6 _ _)) λ_=>Kj.bind (Kp.j (aad _ _)) λ_=>Kj.bind (QO _) λ_=>Kj.bind (Kp.j (K7 _)) λo=>Kj.bind (GJ o last (X:=k::X) (by grind)) λ_=>IX f il X n _ _ _) σ h
@[simp] def amS(f il:Nat):Kp (vf f il):=Kj.p (Kj.bind (λσ h=>IX f il _ _ _ _ _ σ (h.cons _)) λ(last,mark)=>Kj.bind (QO last) λ_=>Kj.bind (Kp.j (by simp)) λa=>Kj.bind (Kp.j (by simp)) λk=>Kj.bind (GJ k last (X:=XL.l) (by simp)) λ_=>Kj.bind (Eb f) λj=>Kj.bind (Kp.j (YM _ _)) λ_=>Kj.bind (Kp.j (K7 _)) λk=>Kj.bind (GJ k j (by simp)) λ_=>Kp.j (Kp.bind (by simp) λ_=>Kp.bind (TY _) λ_=>Kp.bind (MT _) λ_=>Kp.bind (by simp) λ_=>Kp.pure _))
@[simp] def nh2:(∀(t:gF)(k:TG t),Kp (kN t)/\Kp (mi t)/\Kp (uC t)/\Kp (nw t)/\Kp (wI t)/\Kp (oD t)/\Kp (sG t)/\Kp (rV t)/\Kp (pA t)/\Kp (lA t)/\Kp (rq t)/\Kp (kg t)/\Kp (ju t))/\(∀(j:Nat->gF->M Unit)(t:gF)(q:D6 j)(k:TG t),Kp (oG j t)/\Kp (mj j t)/\Kp (nf j t)/\Kp (Ao j t))/\(∀(t:gF)(p:Bool)(k:TG t),Kp (ou t p))/\Kp sx/\Kp Ov/\Kp uQ/\(∀(o:List O)(m:Nat),Kp (lL o m))/\(∀(t:gF),Kp (oz t)):=by
 (repeat' first|with_reducible intro _|with_reducible apply And.intro)<;>delta kN mi oG mj uC nf ou Ao nw wI oD sG rV sx Ov uQ pA lA lL rq oz kg ju<;>(repeat' first|with_reducible refine Kp.bind ?_ λ_=>?_|with_reducible refine Kp.ite ?_ ?_)<;>first|(simp[*];done)|(refine Kp.fn λσ h=>?_;(repeat' split)<;>first|exact h|exact trivial|exact xe.st|exact xe.ok (h.lf rfl rfl)|exact Kp.at (by(repeat' first|with_reducible refine Kp.bind ?_ λ_=>?_|with_reducible refine Kp.ite ?_ ?_)<;>simp[*]) h)
@[simp] def T8(s:O):Kp (nu s):=by
 unfold nu;refine Kp.fn λσ h=>?_
 (repeat' split)<;>first|exact h|exact trivial|exact xe.st|exact xe.ok _|exact Kp.at (by simp) h
@[simp] def aeu(s:O):∀n,Kp (tQ s n)
 |0=>Kp.pure _
 |n+1=>Kp.bind (T8 _) λ_=>Kp.ite (aeu s n) (Kp.pure _)
@[simp] def nh3:(∀(t:gF)(k:TG t),Kp (sK t)/\Kp (jb t)/\Kp (sJ t)/\Kp (nR t)/\Kp (xJ t)/\Kp (pz t)/\Kp (pE t)/\Kp (qy t)/\Kp (pD t)/\Kp (lW t))/\(∀(s:O),Kp (xf s))/\(∀(j:Nat->gF->M Unit)(t:gF)(m:D6 j)(k:TG t),Kp (jN j t))/\Kp tX/\Kp endCell:=by
 (repeat' first|with_reducible intro _|with_reducible apply And.intro)<;>delta sK jb xf sJ nR xJ pz pE qy pD jN tX endCell lW<;>(repeat' first|with_reducible refine Kp.bind ?_ λ_=>?_|with_reducible refine Kp.ite ?_ ?_)<;>first|(simp[*];done)|(refine Kp.fn λσ h=>?_;(repeat' split)<;>first|exact h|exact trivial|exact xe.st|exact xe.ok _|exact Kp.at (by simp) h)
@[simp] def ae8{f:Nat}{b:M Bool}(h:FW f=some b):Kp b:=by
 unfold FW at h
 repeat' (split at h)
 all_goals (cases h<;>simp)
@[simp] def nh4:(∀(t:gF)(j:TG t),Kp (pO t)/\Kp (qj t)/\Kp (um t))/\(∀(t:gF),Kp (pJ t)):=by
 (repeat' first|with_reducible intro _|with_reducible apply And.intro)<;>delta pO qj um pJ<;>(repeat' first|with_reducible refine Kp.bind ?_ λ_=>?_|with_reducible refine Kp.ite ?_ ?_)<;>first|(done)|(refine Kp.fn λσ h=>?_;(repeat' split)<;>first|exact h|exact trivial|exact xe.st|exact xe.ok (h.lf rfl rfl)|exact Kp.at (by(repeat' first|with_reducible refine Kp.bind ?_ λ_=>?_|with_reducible refine Kp.ite ?_ ?_)<;>simp[*]) h)
@[simp] theorem nh5:(∀(t:gF)(j:TG t),Kp (sH t)):=by
 (repeat' first|with_reducible intro _|with_reducible apply And.intro)<;>delta sH<;>(simp_all)<;>first|(done)|(refine Kp.fn _)
@[simp] def aiS(k:Bool)(j rec:Nat->gF->M Unit)(t:gF)(f:Nat)(m:D6 j)(o:D6 rec)(p:TG t):Kp (Vt k j rec t f):=by
 unfold Vt
 (repeat' with_reducible refine Kp.ite ?_ ?_)<;>simp[*]
@[simp] def U0(q:Bool)(j rec:Nat->gF->M Unit)(t:gF)(u:D6 j)(o:D6 rec)(k:TG t):∀r,QF r=true->Kp (mH q j rec r t)
 | .nil,_=>Kp.stuck
 | .nothing,_=>Kp.pure _
 | .iq f,_=>aiS q j rec t f u o k
 | .o9 m,_=>Kp.ite (o _ _ k) Kp.stuck
 | .gV pf own,_=>aie pf own t k
 | .ahead f,_=>by
  show Kp (match FW f with|some b=>ya rec b t|none=>stuck)
  cases hb:FW f with
  |none=>simp
  |some b=>exact Kp.bind (ae8 hb) λ_=>Kp.ite (Kp.bind (Lj rec t o k) λ_=>Kp.pure _) (Kp.pure _)
 | .ends f,_=>by
  show Kp (match FW f with|some b=>DJ b|none=>stuck)
  cases hb:FW f with
  |none=>simp
  |some b=>exact Kp.bind (ae8 hb) λ_=>Kp.pure _
 | .Sc r,h=>by
  intro σ p;show xe (Kv _ t σ);unfold Kv;split;exact(U0 q j rec t u o k r h) σ p;exact p
 | .sZ ks m,_=>Kp.ite (Kp.bind (LP _) λ_=>Kp.bind (Vg t k) λ_=>Kp.bind (Dt _) λ_=>Kp.pure _) Kp.stuck
 | .oX ks name m,h=>Kp.ite (Kp.bind (LP _) λ_=>Kp.bind (wh _ (of_decide_eq_true h)) λ_=>Kp.bind (Dt _) λ_=>Kp.bind (Lj rec t o k) λ_=>Kp.pure _) Kp.stuck
 | .item ks,_=>Kp.bind (aeQ _ _) λ_=>Kp.bind (SV t k) λ_=>Kp.pure _
@[simp] theorem Th:∀(n:Nat)(j:Bool)(m:Nat)(t:gF),TG t->Kp (gX j n m t)
 |0,_,_,_,_=>Kp.stuck
 |n+1,j,m,t,o=>by
  by_cases hk:t.k=.lost;have e:gX j (n+1) m t=stuck:=by
   have⟨a,b,k,gG⟩:=t;cases hk;rfl
  simp_all;rw[zX j n m t hk];unfold db;cases hs:yV[m]? with
  |none=>simp
  |some sp=>exact U0 j _ _ t (λm t o=>Th n true m t o) (λm t o=>Th n j m t o) o _ (agV (ajS sp (ahs hs)) t)
@[simp] def Z9(n:Nat)(t:gF)(j:TG t):Kp (qR (gX false n) t):=by
 have o:Kp (λσ=>if σ.behind&&ld t.chars y8 then qQ.ok () {σ with behind:=false,gQ:=t.a} else jF (gX false n) t {σ with behind:=false,gQ:=t.a}):=by
  refine Kp.fn λσ h=>?_;have p:=h.lf rfl rfl;split;exact p;exact Lj _ t (λm t j=>Th n _ m t j) j _ p
 have⟨a,b,k,gG⟩:=t;cases k with
 |lost=>simp[qR]
 |_=>exact o
end
instance :XL:=⟨[]⟩
def dp:TH->Prop
 | .TN nm L=>nm.size<=5000/\L.length<=16/\∀p∈L,p.1.size<=5000/\p.2.size<=66000
 | .fin nm L=>nm.size<=5000/\L.length<=16/\∀p∈L,p.1.size<=5000/\p.2.size<=66000
 | .TJ t=>t.size<=5000
 | .cU nm _=>nm.size<=5000
 |_=>True
def aee:Bq->Prop
 | .stop=>True
 | .tok k _=>dp k
theorem AE(h:s.size<=1024):(nP s).size<=5000:=by grind[yn]
theorem zf(s:O)(a b:Nat):(s.extract a b).size<=s.size:=by grind[ByteArray.size_extract]
theorem abh(hs:R.cs.size<=1024)(ps:Nat):(yx R ps).size<=5000:=AE (by grind[qH,zf])
theorem abZ(hs:R.cs.size<=1024)(ps:Nat):(Ag R ps).size<=5000:=AE (by grind[qH,zf])
theorem alC(hs:R.cs.size<=1024)(ps:Nat):(Yg R ps).size<=5000:=AE (by grind[qH,zf])
theorem adS(h:∀x t,look x=some t->t.size<=16)(hs:R.cs.size<=1024)(ps:Nat):(tM look lg R ps).size<=66000:=by
 unfold tM;split;have j:=yn ⟨(wY look lg (nZ R (nK R (nK R ps+1)))).toArray⟩;have k:=CJ (lg:=lg) h (nZ R (nK R (nK R ps+1)));have m:=ER (R:=R) (ps:=nK R (nK R ps+1));have o:(ByteArray.mk (wY look lg _).toArray).size=(wY look lg (nZ R (nK R (nK R ps+1)))).length:=rfl;omega;decide
theorem trimSuffix_le(s p:List UInt8):(Lib.trimSuffix s p).length<=s.length:=by unfold Lib.trimSuffix;grind
theorem Ql(s:O):(AD s).size<=s.size:=by
 grind[Lib.size_eq,trimSuffix_le,AD]
theorem Uu(R:RC)(a:Nat):∀(n i:Nat),R.cs.size-i<=n->(qU R a i).size<=R.cs.size
 |0,i,h=>by
  rw[qU.eq_1 R a i];grind[Ql,zf]
 |n+1,i,h=>by
  rw[qU.eq_1 R a i];split;split;grind[zf];split;grind[zf];exact Uu R a n (i+1) (by omega);grind[Ql,zf]
def Yb(R:RC)(ps:Nat):(pu R ps).size<=R.cs.size:=by
 unfold pu;split;exact xj _;split;exact xj _;exact Uu R _ _ _ (ic _)
theorem adY(h:∀x t,look x=some t->t.size<=16)(hs:R.cs.size<=1024){L:lu}(j:∀p∈L,p.1.size<=5000/\p.2.size<=66000):∀p∈qK R look lg L ps,p.1.size<=5000/\p.2.size<=66000:=by
 grind[abZ,adS,qK,vI]
theorem I6{L:lu}(h:R.cs.size<=ps):mc R look lg L ps=.lost:=by
 grind[sF,mc]
theorem aj2(hk:∀x t,look x=some t->t.size<=16)(hs:R.cs.size<=1024)(F:R.at_<=16):∀(n:Nat){L:lu} {ps m:Nat} {k:lu},R.cs.size-ps<=n->mc R look lg L ps=.whole m k->L.length<=16->(∀p∈L,p.1.size<=5000/\p.2.size<=66000)->k.length<=16/\∀p∈k,p.1.size<=5000/\p.2.size<=66000:=by
 intro n
 induction n with
 |zero=>
  grind[I6]
 |succ n ih=>
  intro L ps m k Q j P o;have y:=sF (R:=R) (ps:=ps);rw[mc]at j;split at j;split at j;grind;split at j;cases j;rename_i q _ u;have z:=ug (R:=R) (ps:=jl R ps);have E:=xY (R:=R) (ps:=kQ R (jl R ps));by_cases I:kQ R (jl R ps)=R.cs.size;grind[I6];refine ih (by omega) j ?_ (adY hk hs o);grind[AZ,qK,vI];grind
theorem akX(hk:∀x t,look x=some t->t.size<=16)(hs:R.cs.size<=1024)(k:R.at_<=16){j:O->lu->TH}(o:∀L,L.length<=16->(∀p∈L,p.1.size<=5000/\p.2.size<=66000)->dp (j nm L)):aee (uo R j nm (mc R look lg [] ps)):=by
 cases h:mc R look lg [] ps with
 |stop=>trivial
 |lost=>trivial
 |whole m L=>
  have:=aj2 hk hs k _ (ic _) h (xj _) (by simp);grind[aee,uo]
theorem ajN(hk:∀x t,look x=some t->t.size<=16)(hs:R.cs.size<=1024)(m:R.at_<=16):aee (mO R look lg bg ps):=by
 unfold mO;split;exact akX hk hs m (λL j k=>⟨abh hs _,j,k⟩);split;trivial;split;trivial;exact AE (jZ (zf _ _ _) hs)
theorem al5(hk:∀x t,look x=some t->t.size<=16)(hs:R.cs.size<=1024)(m:R.at_<=16):aee (qD R look lg bg ps):=by
 unfold qD;split;exact akX hk hs m (λL j k=>⟨abh hs _,j,k⟩);split;grind[ajN];split;exact AE (jZ (Yb _ _) hs);split;exact alC hs _;split;exact AE (jZ (zf _ _ _) hs);split;exact AE (jZ (zf _ _ _) hs);trivial
def agd(hk:∀x t,look x=some t->t.size<=16)(hs:R.cs.size<=1024)(j:R.at_<=16):aee (kF R look lg ps):=by
 unfold kF;split;trivial;split;split;exact al5 hk hs j;trivial
 .unfold yy;split<;>trivial
theorem dp.tg{k:TH}(h:dp k)(a b:Nat):TG (pI a b k):=by
 cases k with
 |TN nm L=>exact⟨h.1,h.2.1,h.2.2,(λ_ h=>by cases h),(λ_ _ h=>by cases h)⟩
 |fin nm L=>exact⟨h.1,h.2.1,h.2.2,(λ_ h=>by cases h),(λ_ _ h=>by cases h)⟩
 |TJ t=>exact⟨xj _,xj _,(λ_ j=>by cases j),(λs e=>by cases e;exact h),(λ_ _ h=>by cases h)⟩
 |cU n q=>exact⟨xj _,xj _,(λ_ j=>by cases j),(λ_ h=>by cases h),(λn q e=>by cases e;exact h)⟩
 |UM=>exact⟨xj _,xj _,(λ_ j=>by cases j),(λ_ h=>by cases h),(λ_ _ h=>by cases h)⟩
 |XG t=>exact⟨xj _,xj _,(λ_ j=>by cases j),(λ_ h=>by cases h),(λ_ _ h=>by cases h)⟩
 |lost=>exact⟨xj _,xj _,(λ_ j=>by cases j),(λ_ h=>by cases h),(λ_ _ h=>by cases h)⟩
theorem Wd(hk:∀x t,look x=some t->t.size<=16)(z:R.cs.size<=1024)(y:R.at_<=16):∀(n ps:Nat)(σ:N)(L:List Sp),NG σ->∀c p,oe R look lg cut n ps σ L=.stop c p->c≠0:=by
 intro n
 induction n with
 |zero=>simp[oe]
 |succ n ih=>
  intro ps σ L q c p h;rw[oe]at h;have o:=agd (R:=QR R σ.nW σ.iU) (lg:=lg) (ps:=ps) hk z y;revert h o;cases kF _ look lg ps with
  |stop=>grind
  |tok k m=>
   intro h o;dsimp at h;have j:=Z9 uU _ (dp.tg o (cut ps) (cut m)) (yu R σ ps (pI (cut ps) (cut m) k)) (q.lf rfl rfl);revert h j;cases qR _ _ _ with
   |stuck=>simp
   |stop c p=>intro h j;cases h;exact j
   |ok u σ2=>
    intro h j;dsimp at h;split at h;cases h;exact ih _ _ _ j _ _ h
def adp(hk:∀x t,look x=some t->t.size<=16)(F:R.cs.size<=1024)(E:R.at_<=16):∀(n ps:Nat)(σ:N)(L:List Sp),NG σ->∀j z,oe R look lg cut n ps σ L=.done j z->NG j:=by
 intro n
 induction n with
 |zero=>simp[oe]
 |succ n ih=>
  intro ps σ L y j z h;rw[oe]at h;have q:=agd (R:=QR R σ.nW σ.iU) (lg:=lg) (ps:=ps) hk F E;revert h q;cases kF _ look lg ps with
  |stop=>simp
  |tok k m=>
   intro h q;dsimp at h;have o:=Z9 uU _ (dp.tg q (cut ps) (cut m)) (yu R σ ps (pI (cut ps) (cut m) k)) (y.lf rfl rfl);revert h o;cases qR _ _ _ with
   |stuck=>simp
   |stop c p=>simp
   |ok u σ2=>
    intro h o;dsimp at h;split at h;cases h;exact o;exact ih _ _ _ o _ _ h
theorem akp(k:l<=16):NG (S0 d f l a):=⟨k,λn m=>by
 have e:=by
  have:=m;exact List.mem_singleton.1 this
 rw[e];exact⟨by decide,by decide,by grind⟩,λi e j _=> .inl (by have:=N.io j;grind[S0])⟩
theorem QA(d f l:Nat)(s:O)(hs:s.size<=1024)(k:l<=16){j:N}(h:AO d f l s=.done j L):NG j:=
 adp yP (by grind[FQ,vB]) (by grind[vB]) _ _ _ _ (akp k) _ _ h
theorem We(d f l:Nat)(s:O)(hs:s.size<=1024)(j:l<=16){p:Nat}(h:AO d f l s=.stop c p):c≠0:=
 Wd yP (by grind[FQ,vB]) (by grind[vB]) _ _ _ _ (akp j) _ _ h
theorem adt{m j:List UInt8}(o:j≠[]):∀(k:Nat)(s:List UInt8),s≠[]->Lib.replaceK m j k s≠[]
 |0,s,h=>by assumption
 |k+1,s,h=>by
  rw[Lib.replaceK];grind[List.append_eq_nil_iff]
theorem IG(h:0<s.size):0<(nP s).size:=by
 have e2:(nP s).size=(Lib.replaceAll _ (ByteArray.mk #[0]).data.toList (ByteArray.mk #[239,191,189]).data.toList).length:=rfl;have j:s.data.toList≠[]:=λe=>by grind[Lib.size_eq]
 rw[e2];unfold Lib.replaceAll Lib.replace;grind[adt]
theorem Ug(h:ps<R.cs.size):0<(Ag R ps).size:=by
 have j:=ug (R:=R) (ps:=ps);refine IG ?_;grind[qH,ByteArray.size_extract]
theorem YO{A:Nat->O×O}(i:Nat)(h:oB A n s i=false):∀j,i<=j->j<n->(A j).1≠s:=by
 fun_induction oB A n s i with
 |case1 i hi he=>cases h
 |case2 i hi he ih=>
  grind
 |case3 i hi=>omega
theorem aiH{ns:List O}(h:OP ns s=false):s∉ns:=λk=>by
 have⟨j,hj,e⟩:=List.getElem_of_mem k;refine YO 0 h j (xj _) hj ?_;grind[nth]
theorem adX{L:lu}(o:ps<R.cs.size)(j:rH L):rH (qK R look lg L ps):=by
 unfold qK vI;split;exact j;rename_i k;have k:=aiH (by simpa using k);refine⟨?_,λa m=>?_⟩;rw[rZ];exact List.nodup_append.2 ⟨j.1,by simp,by grind⟩;rcases List.mem_append.1 m with g|g;exact j.2 a g;grind[Ug]
theorem aj1:∀(n:Nat){L:lu} {ps m:Nat} {j:lu},R.cs.size-ps<=n->mc R look lg L ps=.whole m j->rH L->rH j:=by
 intro n
 induction n with
 |zero=>
  grind[I6]
 |succ n ih=>
  grind[sF,ug,xY,adX,mc]
theorem Zw{o m:List UInt8}(p:m≠[]):∀(k:Nat)(s:List UInt8),s≠[]->(Lib.replaceK o m k s).head?=s.head?\/(Lib.replaceK o m k s).head?=m.head?
 |0,s,h=> .inl rfl
 |k+1,s,h=>by
  rw[Lib.replaceK];split;simp;cases hi:(Lib.index s o).toNat with
  |zero=>
   obtain⟨a,r,rfl⟩:=List.exists_cons_of_ne_nil p;simp
  |succ j=>
   obtain⟨a,r,rfl⟩:=List.exists_cons_of_ne_nil h;simp
theorem Y2(h:0<s.size):(nP s).data.toList.head?=s.data.toList.head?\/(nP s).data.toList.head?=some 239:=by
 have j:s.data.toList≠[]:=λe=>by grind[Lib.size_eq]
 have e:(nP s).data.toList=Lib.replaceAll _ (ByteArray.mk #[0]).data.toList (ByteArray.mk #[239,191,189]).data.toList:=rfl;rw[e];unfold Lib.replaceAll Lib.replace;grind[Zw]
theorem Xa(h:MC R ps=true):yx R ps≠uG:=by
 unfold MC at h;simp at h;have⟨hp,hl⟩:=h;have o:ps+1<=wX R ps:=by
  unfold wX;rw[Lg hp ?_];exact tL
  .cases hi:jy jn (bt R.cs ps)with
   |false=>rfl
   |true=>
    rw[Va]at hi;simp at hi;rcases hi with g|g|g|g|g|g<;>(have:=an0 (by omega) (by omega) g;grind)
 have p:=abg (R:=R) (ps:=ps) (by omega);have k:0<(small (R.cs.extract ps (wX R ps))).size:=by rw[qH,ByteArray.size_extract];omega
 intro e;unfold yx at e;have j:=Y2 k;rw[e]at j;rcases j with g|g;have m:bt (small (R.cs.extract ps (wX R ps))) 0=35:=by
  revert g;generalize small (R.cs.extract ps (wX R ps))=x;intro g;have⟨⟨l⟩⟩:=x;cases l with
  |nil=>cases g
  |cons a r=>cases(Ki g);rfl
 grind[LI,Uk,ByteArray.size_extract,low];grind
theorem L7(c:Int):0<(Utf8.encode c).size:=by
 unfold Utf8.encode;dsimp only
 repeat' split
 all_goals first|(show 0<1;omega)|(show 0<2;omega)|(show 0<3;omega)|(show 0<4;omega)
theorem VF(h:tG s≠0):0<(tH s).size:=by
 grind[L7,tG,tH,OU]
theorem MP{inV:Bool}(hk:∀x t,look x=some t->0<t.size):∀{k:Nat},ui look s inV k≠0->0<(vh look s inV k).size
 |0,h=>absurd rfl h
 |k+1,h=>by
  unfold ui at h;unfold vh;split;grind[Option.isSome_iff_exists];rename_i g;rw[Xx g]at h;exact MP hk h
theorem FL(hk:∀x t,look x=some t->0<t.size)(hs:0<s.size):0<(qT look lg s).size:=by
 unfold qT;split;grind[ByteArray.size_extract];grind[MP,VF,mM,oY]
def BL(k:TH):Prop:=∀a b,TA (pI a b k)
def dm:Bq->Prop
 | .tok k _=>BL k
 | .stop=>True
theorem BL.plain{k:TH}(h:∀a b,(pI a b k).jh=[]/\(pI a b k).name=⟨#[]⟩/\∀s,(pI a b k).k≠ .kE s):BL k:=λa b=>by
 have⟨h1,h2,h3⟩:=h a b;exact⟨by rw[h1];simp[rH],by grind,by grind⟩
def BL.XG(h:0<s.size):BL (.XG s):=λa b=>⟨rH.nil,show kB≠uG by simp,λj e=>by cases e;exact h⟩
def BL.lost:BL .lost:=BL.plain λa b=>⟨rfl,rfl,λs e=>by cases e⟩
def BL.TJ(s:O):BL (.TJ s):=BL.plain λa b=>⟨rfl,rfl,λs e=>by cases e⟩
def BL.UM:BL .UM:=BL.plain λa b=>⟨rfl,rfl,λs e=>by cases e⟩
def BL.cU(s:O)(q:Bool):BL (.cU s q):=BL.plain λa b=>⟨rfl,rfl,λs e=>by cases e⟩
theorem BL.TN{L:lu}(k:nm≠uG)(j:rH L):BL (.TN nm L):=λa b=>⟨j,k,λs e=>by cases e⟩
theorem BL.fin{L:lu}(k:nm≠uG)(j:rH L):BL (.fin nm L):=λa b=>⟨j,k,λs e=>by cases e⟩
section
variable {R:RC}{look:O->Option O}{lg bg ps:Nat}(hk:∀x t,look x=some t->0<t.size)
theorem akW{j:O->lu->TH}{nm:O}(k:∀L,rH L->BL (j nm L)):dm (uo R j nm (mc R look lg [] ps)):=by
 cases h:mc R look lg [] ps with
 |stop=>trivial
 |lost=>exact BL.lost
 |whole m L=>exact k L (aj1 _ (ic _) h rH.nil)
include hk
theorem X2(j:bg<R.cs.size):dm (vZ R look lg bg):=BL.XG (FL hk (by grind[ByteArray.size_extract]))
theorem ajM(j:bg<R.cs.size):dm (mO R look lg bg ps):=by
 unfold mO;split;grind[akW,BL.fin,Xa];split;exact BL.lost;split;grind[X2];exact BL.TJ _
theorem al4(j:bg<R.cs.size):dm (qD R look lg bg ps):=by
 unfold qD;split;grind[akW,BL.TN,Xa]
 repeat' split
 grind[ajM];exact BL.TJ _;exact BL.cU _ _;exact BL.TJ _;exact BL.TJ _;grind[X2]
theorem an2(j:bg<R.cs.size):dm (yy R look lg bg):=by
 unfold yy;split;exact BL.XG (IG (by grind[ByteArray.size_extract]));exact BL.XG (IG (FL hk (by grind[ByteArray.size_extract])))
theorem amc(k:ps<=R.cs.size):dm (kF R look lg ps):=by
 unfold kF;split;exact BL.UM
 .have j:(uJ R ps).cs=R.cs:=by repeat' rfl
  grind[an2,X2,al4]
end
theorem ak4:KV.all (λp=>decide (0<p.2.size))=true:=by rfl
theorem acZ:∀x t,qe KV x=some t->0<t.size:=by
 grind[Option.map_eq_some_iff,ak4,qe]
theorem ado(hk:∀x t,look x=some t->t.size<=16)(F:∀x t,look x=some t->0<t.size)(Q:R.cs.size<=1024):∀(n ps:Nat)(σ:N)(L:List Sp),ps<=R.cs.size->GI false σ->∀j E,oe R look lg cut n ps σ L=.done j E->GI false j:=by
 intro n
 induction n with
 |zero=>simp[oe]
 |succ n ih=>
  intro ps σ L P z j E h;rw[oe]at h;have y:=amc (R:=QR R σ.nW σ.iU) (lg:=lg) F P;have q:∀k m,kF (QR R σ.nW σ.iU) look lg ps=.tok k m->m<=R.cs.size:=λk m e=>by
   by_cases I:ps=R.cs.size;have e2:kF (QR R σ.nW σ.iU) look lg ps=.tok .UM ps:=by unfold kF;rw[sL (show ps=(QR R σ.nW σ.iU).cs.size from I)]
   grind;have:=(EA (R:=QR R σ.nW σ.iU) (lg:=lg) (ps:=ps) hk Q (by grind[QR])).1;rw[e]at this;exact this.2.1
  revert h y q;cases kF (QR R σ.nW σ.iU) look lg ps with
  |stop=>simp
  |tok k m=>
   intro h y q;dsimp only at h;have o:=aei uU (y (cut ps) (cut m)) (σ:=yu R σ ps (pI (cut ps) (cut m) k)) (z.lf rfl rfl rfl rfl rfl rfl rfl rfl rfl);revert h o;cases qR (gX false uU) _ _ with
   |stuck=>simp
   |stop c p=>simp
   |ok u σ2=>
    intro h o;dsimp only at h;split at h;cases h;exact o;exact ih _ _ _ (q k m rfl) o _ _ h
theorem adr(d f l:Nat)(s:O)(hs:s.size<=1024){j:N}(h:AO d f l s=.done j L):GI false j:=
 ado yP acZ (by grind[FQ,vB]) _ _ _ _ (xj _) (am1 ..) _ _ h
structure Fo where
 o:List O
 sn:List O
 nm:List O
 fr:Bool
def Hr:O:=uG
def aff(j s:O):Prop:=(j=Hr/\s=fN)\/(j≠Hr/\yS j s=true)
inductive fI(most:Nat)(o:List O)(p:O)(sn nm:List O):Bool->It->Fo->Prop
 |fj {s t:O}:s∉nm->0<s.size->nm.length<most->fI most o p sn nm true ⟨5,s,t⟩ ⟨o++[p],sn,nm++[s],true⟩
 |lv {f:Bool} {t:O}:o≠[]->fI most o p sn nm f ⟨6,p,t⟩ ⟨o,sn,nm,false⟩
 |en {f:Bool} {s t:O}:aff p s->kJ p=false->fI most o p sn nm f ⟨4,s,t⟩ ⟨o++[p]++[s],sn++(if Fs s then [s]else []),[],true⟩
 |tx {f:Bool} {s t:O}:0<s.size->kJ p=false->p≠Hr->fI most o p sn nm f ⟨3,s,t⟩ ⟨o++[p],sn,nm,false⟩
 |dt {f:Bool} {s t:O}:p=Hr->fI most o p sn nm f ⟨1,s,t⟩ ⟨o++[p],sn,nm,false⟩
 |cm {f:Bool} {s t:O}:kJ p=false->fI most o p sn nm f ⟨2,s,t⟩ ⟨o++[p],sn,nm,false⟩
def Hs(most:Nat):List It->Fo->Fo->Prop
 |[],x,y=>x=y
 |a::L,x,z=>∃o p j nm f y,x=⟨o++[p],j,nm,f⟩/\fI most o p j nm f a y/\Hs most L y z
theorem Hs.da:∀{A B:List It} {x y z:Fo},Hs most A x y->Hs most B y z->Hs most (A++B) x z
 |[],_,_,_,_,h1,h2=>by grind[Hs]
 |_::_,_,_,_,_,⟨o,p,sn,nm,f,y,h0,h1,h2⟩,h3=>⟨o,p,sn,nm,f,y,h0,h1,h2.da h3⟩
theorem Hs.one{o sn nm:List O}{p:O}{f:Bool}{a:It}{y:Fo}(h:fI most o p sn nm f a y):Hs most [a] ⟨o++[p],sn,nm,f⟩ y:=⟨_,_,_,_,_,y,rfl,h,rfl⟩
theorem aav{most:Nat}{o sn:List O}{p:O}:∀(gG:lu)(nm:List O),(nm++gG.map (·.1)).Nodup->(∀a∈gG,0<a.1.size)->nm.length+gG.length<=most->Hs most (gG.map λa=>⟨5,a.1,a.2⟩) ⟨o++[p],sn,nm,true⟩ ⟨o++[p],sn,nm++gG.map (·.1),true⟩
 |[],nm,_,_,_=>by simp[Hs]
 |a::gG,nm,h1,h2,h3=>by
  rw[wM,List.append_cons]at h1;rw[pG]at h3;refine⟨_,_,_,_,_,_,rfl,.fj (λm=>?_) (h2 a (N1 ..)) (by omega),?_⟩;grind;have k:=aav (most:=most) (o:=o) (p:=p) (sn:=sn) gG (nm++[a.1]) h1 (λb j=>h2 b (abv _ j)) (by grind);grind
structure Ln(most h K:Nat)(r:Nat->Nat)(H:Nat->List O)(σ:N):Prop where
 ti:TI (some h) H σ
 hz:h≠0
 h0:H 0=[fN]
 hh:H h=[fY,fR]
 ho:∀i,i≠0->i≠h->H i=[]
 al:∀i e,σ.gU i=some e->e.gR.length<=most
 inv:jJ r σ
 bd:∀i,i<σ.nodes.length->r i<K
 d0:∀i e,σ.gU i=some e->e.ji=none->i=0
def tp(i:Nat)(e:wN):O:=if i=0 then Hr else e.name
def cb(h:Nat)(σ:N):Nd->List O
 | .el j=>if j=h then [fN,fY,fR]else (lV σ (.el j)).toList
 |_=>[]
theorem Ln.low(F:Ln most h K r H σ):∀(n i:Nat)(e:wN),σ.gU i=some e->r i<n->r 0<=r i
 |0,_,_,_,h=>by cases h
 |n+1,i,e,he,hn=>by
  cases hp:e.ji with
  |none=>grind[d0]
  |some p=>
   have⟨ep,h1,_⟩:=F.inv.pc.up i e p he hp;have j:=F.inv.uK.ji i e p he hp;have k:=F.low n p ep h1 (by omega);omega
theorem Ln.Fq(F:Ln most h K r H σ){j:Nat}{e:wN}(m:σ.gU i=some e)(o:Nd.el j∈e.kids):∃k,σ.gU j=some k/\r i<r j/\j≠0:=by
 have⟨k,h1,h2⟩:=F.inv.pc.dn i e j m (xR.2 o);have p:=F.inv.uK.ji j k i h1 h2;grind[low]
theorem aiz:∀{m:List Nd},s∈wO σ m->∃j,Nd.el j∈m/\σ.nm j=s
 |[],h=>by cases h
 |k::m,h=>by
  have⟨x,hx,h1⟩:=List.mem_filterMap.1 h;cases x with
  |el j=>
   have o:(if Fs _ then some _ else none)=some s:=h1;grind
  |_=>cases h1
theorem Ln.hn(F:Ln most h K r H σ):σ.nm h=fN:=by
 have⟨e0,he0⟩:=Option.isSome_iff_exists.1 F.inv.wA;have k:=F.ti.hb 0 e0 he0;have⟨j,h2,h3⟩:=aiz (show(fN)∈wO σ e0.kids by grind[h0]);have⟨ej,h4,_⟩:=F.Fq he0 h2;have m:=F.ti.uh j ej h4 (by grind[N.vi]);grind
def VM(a:O):yS a fN=false:=by
 unfold yS;rw[sL (by decide+kernel)]
theorem Ln.ne(F:Ln most h K r H σ){j:Nat}{e:wN}(k:σ.gU i=some e)(o:i≠0)(m:Nd.el j∈e.kids):j≠h:=by
 rintro rfl;have⟨ej,h1,h2⟩:=F.ti.Fq i e k _ m;rw[<-N.vi h1,F.hn,VM]at h2;grind
theorem aeM:∀{m:List Nd},(∀j,Nd.el j∈m->j≠h)->m.flatMap (cb h σ)=wO σ m
 |[],_=>rfl
 |k::m,g=>by
  rw[ZZ,aeM λj o=>g j (abv _ o)];cases k with
  |el j=>
   grind[cb,wO]
  |_=>rfl
theorem aeL(o:σ.nm h=fN):∀{m:List Nd},(∀j,Nd.el j∈m->j=h)->m.flatMap (cb h σ)=(wO σ m).flatMap λ_=>[fN,fY,fR]
 |[],_=>rfl
 |k::m,g=>by
  rw[ZZ,aeL o λj p=>g j (abv _ p)];cases k with
  |el j=>
   obtain rfl:=g j (N1 ..);have e:lV σ (.el j)=some (σ.nm j):=by
    show(if Fs _ then some _ else none)=_;rw[o,sL (by decide+kernel)]
   grind[cb,wO]
  |_=>rfl
theorem R3{p:O}{g:Nd->Tn}{c:Nd->List O}:∀(m:List Nd),(∀u∈m,∀o j nm f,∃q,Hs most (jY (Fm (λ_=>false) (g u))) ⟨o++[p],j,nm,f⟩ ⟨o++[p],j++c u,q,false⟩)->∀o j nm f,∃q y,Hs most (jY (uS (λ_=>false) (m.map g))) ⟨o++[p],j,nm,f⟩ ⟨o++[p],j++m.flatMap c,q,y⟩
 |[],_,o,j,nm,f=>⟨nm,f,by grind[jY,uS,Hs]⟩
 |k::m,h,o,j,nm,f=>by
  have⟨nm1,h1⟩:=h k (N1 ..) o j nm f;have⟨nm2,f2,h2⟩:=R3 m (λu z=>h u (abv _ z)) o (j++c k) nm1 false;have e:jY (uS (λ_=>false) ((k::m).map g))=jY (Fm (λ_=>false) (g k))++jY (uS (λ_=>false) (m.map g)):=by
   rw[wM,uS,jY,vE];rfl
  grind[Hs.da]
theorem anu(j:O)(gG:lu)(ks:List Tn):jY (Fm (λ_=>false) (.el j gG ks))=(⟨4,j,⟨#[]⟩⟩:It)::((gG.map λa=>(⟨5,a.1,a.2⟩:It))++(jY (uS (λ_=>false) ks)++[⟨6,j,⟨#[]⟩⟩])):=by
 grind[Fm,jY,uZ]
theorem afo(F:Ln most h K r H σ):∀(k i:Nat)(e:wN)(q:Nd),σ.gU i=some e->q∈e.kids->K<=k+r i->∀o u nm f,∃U,Hs most (jY (Fm (λ_=>false) (DY σ k q))) ⟨o++[tp i e],u,nm,f⟩ ⟨o++[tp i e],u++cb h σ q,U,false⟩
 |0,i,e,q,he,E,hk,_,_,_,_=>by
  have:=F.bd i (N.io he);omega
 |k+1,i,e,q,he,E,hk,o,u,nm,f=>by
  have z:(i≠0->kJ e.name=false)->kJ (tp i e)=false:=λg=>by
   unfold tp;split;decide+kernel;grind
  have P:=F.ti.Fq i e he q E;have m:=F.inv.pc.kd i e he q E;have T:i≠0->tp i e≠Hr:=λg=>by unfold tp;rw[Xx g];exact(F.ti.gG i e he).2
  cases q with
  |el j=>
   have⟨ej,h1,h2⟩:=P;have⟨ej',h1',h3,h4⟩:=F.Fq he E;rw[h1]at h1';cases h1';have Q:aff (tp i e) ej.name:=by
    by_cases g:i=0;rw[sL g]at h2;exact .inl ⟨by grind[tp],h2⟩;rw[Xx g]at h2;exact .inr ⟨T g,by grind[tp]⟩
   have hv:=z λg=>by grind
   have a0:tp j ej=ej.name:=by unfold tp;rw[Xx h4]
   have y:DY σ (k+1) (.el j)=.el ej.name ej.gR (ej.kids.map (DY σ k)):=by
    show(match σ.gU j with|some e=>Tn.el e.name e.gR (e.kids.map (DY σ k))|none=>Ft)=_
    rw[h1]
   rw[y,anu];have⟨⟨ha,hb⟩,_⟩:=F.ti.gG j ej h1;have p1:=aav (most:=most) (o:=o++[tp i e]) (p:=ej.name) (sn:=u++if Fs ej.name then [ej.name]else []) ej.gR [] (by grind) hb (by have:=F.al j ej h1;grind);have⟨nm2,f2,p2⟩:=R3 (most:=most) (p:=ej.name) (g:=DY σ k) (c:=cb h σ) ej.kids (λq E=>by
    have:=afo F k j ej q h1 E (by omega);simp_all) (o++[tp i e]) (u++if Fs ej.name then [ej.name]else []) ([]++ej.gR.map (·.1)) true
   have es:(u++if Fs ej.name then [ej.name]else [])++ej.kids.flatMap (cb h σ)=u++cb h σ (.el j):=by
    rw[vu,aeM λx hx=>F.ne h1 h4 hx,F.ti.hb j ej h1]
    congr 1
    by_cases g:j=h;subst g;have:=F.hn;rw[N.vi h1]at this;rw[show cb j σ (.el j)=[fN,fY,fR]from sL rfl,this,F.hh,sL (by decide+kernel)];rfl;rw[show cb h σ (.el j)=(lV σ (.el j)).toList from Xx g,F.ho j h4 g,Xt];show _=(if Fs (σ.nm j)then some (σ.nm j)else none).toList;grind[N.nm]
   rw[es]at p2;exact⟨nm2,_,_,_,_,_,_,rfl,.en Q hv,p1.da (p2.da (Hs.one (.lv (by simp))))⟩
  |tx c=>
   have g0:i≠0:=P.1;unfold N.jr at m;dsimp only at m;split at m;rename_i s I;have y:DY σ (k+1) (.tx c)=.tx s:=by
    show(match σ.nodes[c]? with|some (.tx s)=>Tn.tx s|_=>Ft)=_
    rw[I]
   rw[y];refine⟨nm,?_⟩;show Hs most [⟨3,s,⟨#[]⟩⟩] _ ⟨_,u++[],nm,false⟩;rw[Xt];exact Hs.one (.tx (F.ti.tx c s I) (z λ_=>P.2) (T g0));grind
  |cm c=>
   unfold N.jr at m;dsimp only at m;split at m;rename_i s I;have y:DY σ (k+1) (.cm c)=.cm s:=by
    show(match σ.nodes[c]? with|some (.cm s)=>Tn.cm s|_=>Ft)=_
    rw[I]
   rw[y];refine⟨nm,?_⟩;show Hs most [⟨2,s,⟨#[]⟩⟩] _ ⟨_,u++[],nm,false⟩;rw[Xt];exact Hs.one (.cm (z P));grind
  |dt c=>
   have g0:i=0:=P;unfold N.jr at m;dsimp only at m;split at m;rename_i s I;have y:DY σ (k+1) (.dt c)=.dt s:=by
    show(match σ.nodes[c]? with|some (.dt s)=>Tn.dt s|_=>Ft)=_
    rw[I]
   rw[y];refine⟨nm,?_⟩;show Hs most [⟨1,s,⟨#[]⟩⟩] _ ⟨_,u++[],nm,false⟩;grind[Hs.one,fI.dt,tp];grind
theorem aiw(F:Ln most h K r H σ){gG:lu}{T:List Tn}(m:DY σ (K+1) (.el 0)=.el nm gG T):∃k o,Hs most (jY (uS (λ_=>false) T)) ⟨[Hr],[],[],false⟩ ⟨[Hr],[fN,fY,fR],k,o⟩:=by
 have⟨e0,he0⟩:=Option.isSome_iff_exists.1 F.inv.wA;have q:DY σ (K+1) (.el 0)=.el e0.name e0.gR (e0.kids.map (DY σ K)):=by
  show(match σ.gU 0 with|some e=>Tn.el _ _ _|none=>Ft)=_
  rw[he0]
 rw[q]at m;cases m;have⟨nm2,f2,p⟩:=R3 _ (λz u=>afo F K 0 e0 z he0 u (by omega)) [] [] [] false;refine⟨nm2,f2,?_⟩;rw[aeL F.hn (λj y=>?_),F.ti.hb 0 e0 he0,F.h0]at p;exact p;have⟨ej,h1,h2⟩:=F.ti.Fq 0 e0 he0 _ y;have:=F.ti.uh j ej h1 h2;grind
def Kz(s:O):O:=if gO [fN] s then uG else if gO [fY,fR] s then fN else if gO [gN] s then ⟨#[116,98,111,100,121,32,116,104,101,97,100,32,116,102,111,111,116]⟩else if gO [ig,ij] s then gN else if gO [fW,fX,fV,fZ,fS] s then fQ else if gO [gS] s then fS else ⟨#[]⟩
def EK:List O:=[fN,fY,fR,gN,ig,ij,fW,fX,fV,fZ,fS,gS]
def Ex{u:O}{l:List UInt8}(j:u.toList=l)(h:s≠u):(s.toList==l)=false:=by
 rw[<-j];cases hh:s.toList==u.toList with
 |false=>rfl
 |true=>exact absurd (ry hh) h
theorem aaY(h:s∉EK):Kz s=⟨#[]⟩:=by
 have e:∀l,(∀x∈l,x∈EK)->gO l s=false:=λl j=>lU.2 λk=>h (j s k);unfold Kz;rw[e _ (by simp[EK]),e _ (by simp[EK]),e _ (by simp[EK]),e _ (by simp[EK]),e _ (by simp[EK]),e _ (by simp[EK])];rfl
def ada(s:O)(w:J):Calls prog 8 #[Y s] w λe w'=>e=iA (Y (Kz s))/\w'=w:=by
 by_cases h:s∈EK
 .simp only[EK,Db,tw,tz]at h;rcases h with rfl|rfl|rfl|rfl|rfl|rfl|rfl|rfl|rfl|rfl|rfl|rfl
  all_goals
   go_enter func8,ntmps8;go_wp2;go_ret;exact⟨DZ (λx=>Ending.returned (Y x)) (by decide+kernel),rfl⟩
 .rw[aaY h];simp only[EK,Db,tw,tz,not_or]at h;have⟨o,p,q,u,y,z,E,F,I,j,k,m⟩:=h;replace o:=Ex (l:=[104,116,109,108]) (by simp) o;replace p:=Ex (l:=[104,101,97,100]) (by simp) p;replace q:=Ex (l:=[98,111,100,121]) (by simp) q;replace u:=Ex (l:=[116,114]) (by simp) u;replace y:=Ex (l:=[116,100]) (by simp) y;replace z:=Ex (l:=[116,104]) (by simp) z;replace E:=Ex (l:=[116,98,111,100,121]) (by simp) E;replace F:=Ex (l:=[116,104,101,97,100]) (by simp) F;replace I:=Ex (l:=[116,102,111,111,116]) (by simp) I;replace j:=Ex (l:=[99,97,112,116,105,111,110]) (by simp) j;replace k:=Ex (l:=[99,111,108,103,114,111,117,112]) (by simp) k;replace m:=Ex (l:=[99,111,108]) (by simp) m;go_enter func8,ntmps8;go_wp2;go_ret;simp
def agu(s:O):(Kz s).size<=1000:=by
 unfold Kz
 (repeat' split)<;>decide
def fH(p s:O)(b:O)(j:Bool):Prop:=((p.toList==[35])=true/\(s.toList==[104,116,109,108])=true/\j=true/\b.toList.isEmpty=false/\Fs s=true)\/((p.toList==[35])=false/\(s.toList==[104,116,109,108])=false/\(b.toList==[104,116,109,108])=true/\j=true/\b.toList.isEmpty=false/\Fs s=true)\/((p.toList==[35])=false/\(s.toList==[104,116,109,108])=false/\(b.toList==[104,116,109,108])=false/\j=true/\b.toList.isEmpty=false/\Fs s=false)\/((p.toList==[35])=false/\(s.toList==[104,116,109,108])=false/\b.toList=[]/\Fs s=false)
theorem acx{p:O}(h:aff p s):fH p s (Kz s) (aV p (Kz s) ((Kz s).size+1) 0 0):=by
 rcases h with⟨rfl,rfl⟩|⟨y,j⟩;exact .inl ⟨by simp[Hr],by simp,by decide+kernel,by decide+kernel,by decide+kernel⟩
 .refine .inr ?_;have k:(p.toList==[35])=false:=Ex (u:=Hr) (by simp[Hr]) y;by_cases m:s∈EK
  .simp only[EK,Db,tw,tz]at m;have o:∀a:O,gO [a] p=true->p=a:=λa h=>by simpa using Mt h
   rcases m with rfl|rfl|rfl|rfl|rfl|rfl|rfl|rfl|rfl|rfl|rfl|rfl;rw[VM]at j;cases j
   all_goals
    unfold yS at j
    repeat first|rw[sL (by decide+kernel)]at j|rw[Xx (by decide+kernel)]at j
   iterate 2
    refine .inl ⟨k,by simp,by decide+kernel,?_,by decide+kernel,by decide+kernel⟩;rw[o fN j];decide+kernel
   .refine .inr (.inl ⟨k,by simp,by decide+kernel,?_,by decide+kernel,by decide+kernel⟩);have q:=Mt j;simp only[Db,tw,tz]at q;rcases q with rfl|rfl|rfl<;>decide+kernel
   all_goals
    refine .inr (.inl ⟨k,by simp,by decide+kernel,?_,by decide+kernel,by decide+kernel⟩)
    first|rw[o gN j]|rw[o fQ j]|rw[o fS j]
    decide+kernel
  refine .inr (.inr ⟨k,Ex (u:=fN) (by simp) (λe=>m (by rw[e];simp[EK])),by grind[aaY,ByteArray.toList_mk],lU.2 (λz=>m ?_)⟩);grind[EK]
def strs(l:List O):List gP:=l.map Value.string
abbrev SR(w W:J)(v:gP)(l:List O):Prop:=W.ownsRow w.heap.size 9 1 v l.length (strs l)
structure O3(w W:J)(a b c:gP)(A B C:List O):Prop where
 ra:SR w W a A
 rb:SR w W b B
 rc:SR w W c C
 ab:∀k,a.ownBlock=some k->b.ownBlock≠some k
 bc:∀k,b.ownBlock=some k->c.ownBlock≠some k
 ca:∀k,c.ownBlock=some k->a.ownBlock≠some k
 kp:Z [] w W
def O3.eN{a b c:gP}(h:O3 w W a b c A B C):O3 w W b c a B C A:=⟨h.rb,h.rc,h.ra,h.bc,h.ca,h.ab,h.kp⟩
def O3.lay{j:J}{a b c:gP}(h:O3 w W a b c A B C)(k:Z [] W j):O3 w j a b c A B C:=
 ⟨k.ownsRow h.ra (λ_ _=>by simp),k.ownsRow h.rb (λ_ _=>by simp),k.ownsRow h.rc (λ_ _=>by simp),h.ab,h.bc,h.ca,h.kp.trans k⟩
theorem O3.abV{a b c:gP}(h:O3 w W a b c A B C):O3 w (W.alloc (gH #[] 9)) a b (nX W.heap.size 0 0) A B []:=by
 have k:Z [] W (W.alloc (gH #[] 9)):=(Z.refl _ _).alloc _;refine⟨k.ownsRow h.ra (λ_ _=>by simp),k.ownsRow h.rb (λ_ _=>by simp),⟨rfl,.inr ⟨W.heap.size,0,#[],rfl,h.kp.size,fU W _,ic _,by simp,rfl,rfl⟩⟩,h.ab,λq m j=>?_,λq m j=>?_,h.kp.trans k⟩;have:=(h.rb.lt q m).2;cases j;grind;have:=(h.ra.lt q j).2;cases m;grind
theorem O3.pop{b c:gP}(h:O3 w W (nX g (A.length+1) cap) b c (A++[s]) B C):O3 w W (nX g A.length cap) b c A B C:=by
 refine⟨ownsRow_pop (last:=[Y s]) (by simp[strs]) ?_,h.rb,h.rc,h.ab,h.bc,h.ca,h.kp⟩;have:=h.ra;grind[strs]
def afJ:(prog.info? 9).map (λi=>(i.zero,i.size,i.bytes))=some (some (Y kB),1,16):=by kernel_rfl
theorem yX{y:Array Oper}{o:List Oper}{I:Oper}{m:Act}{Q:Exit->Act->J->Prop}(T:I.guard=none)(s' x':Operand)(ho:I.op=.call {callee:=.builtin .append,args:=#[s',x'],argTypes:=#[33,33]}){a b c:gP}(h:O3 w W a b c A B C)(hs:m.eval s'=a)(hx:m.eval x'=nX W.heap.size 1 1)(hl:A.length<=1000000001)(K:∀E F,O3 w F E b c (A++[s]) B C->wpList prog y Q o (m.put I.dst E) F):wpList prog y Q (I::o) m (W.alloc (gH #[Y s] 9)):=by
 obtain⟨i0,hi,U,a0,a1⟩:=qz afJ;have z:=h.kp.size;refine jB _ T s' x' 33 ho w.heap.size 9 i0 (Y kB) 1 16 underlying33 hi U a0 a1 rfl (by decide) a A.length (strs A) hs (h.ra.alloc _) ⟨W.heap.size,0,none⟩ 1 1 [Y s] hx rfl (λj u hj=>?_) (λu hu=>?_) (by unfold maxLen;omega) (by omega) (by grind[World.size_alloc]) λE F a3 p a2=>K E F ?_;rw[js,fP (fU W (gH #[Y s] 9))];grind;rw[List.mem_singleton.1 hu];rfl
 .have k1:Z [] W (W.alloc (gH #[Y s] 9)):=(Z.refl _ _).alloc _;have P:=h.lay k1;have sz:(W.alloc (gH #[Y s] 9)).heap.size=W.heap.size+1:=Xu ..;have nx:∀k,E.ownBlock=some k->a.ownBlock=some k\/W.heap.size<=k:=λk hk=>by
   grind
  refine⟨?_,P.rb.kept p ?_,P.rc.kept p ?_,λk hk q=>?_,h.bc,λk hk q=>?_,P.kp.grown p λk hk=> .inr (h.ra.lt k hk).1⟩;have e:strs (A++[s])=strs A++[Y s]:=by simp[strs]
  grind
  .cases q:b.ownBlock<;>grind[O3.ab]
  .cases q:c.ownBlock<;>grind[O3.ca]
  rcases nx k hk with g|g;grind[O3.ab];have:=(h.rb.lt k q).2;omega;rcases nx k q with g|g;grind[O3.ca];have:=(h.rc.lt k hk).2;omega
theorem SR.cell(h:SR w W (nX g n cap) A){j:Nat}(k:A[j]?=some s):W.cell? ⟨g,j,none⟩=some (Y s):=by
 have:=h.cells (g:=g) rfl j (Y s) (by simp[strs,k]);rw[js]at this;exact this
theorem SR.form(h:SR w W v A)(p:A≠[]):∃g cap,v=nX g A.length cap/\A.length<=cap/\g<W.heap.size:=by
 rcases h.2 with⟨_,k⟩|⟨g,cap,j,rfl,_,o,m,_⟩
 all_goals grind
theorem agj(w:J):O3 w (((w.alloc (gH #[Y Hr] 9)).alloc (gH #[] 9)).alloc (gH #[] 9)) (nX w.heap.size 1 1) (nX (w.heap.size+1) 0 0) (nX (w.heap.size+1+1) 0 0) [Hr] [] []:=by
 have h:O3 w _ _ _ _ [Hr] [] []:=⟨⟨rfl,.inr ⟨w.heap.size,1,#[Y Hr],rfl,ic _,fU w _,ic _,by unfold maxLen;omega,rfl,rfl⟩⟩,pP _ _ _ _,pP _ _ _ _,λ_ _=>nofun,λ_=>nofun,λ_=>nofun,((Z.refl _ _).alloc _)⟩;have j:=h.eN.eN.abV.eN.abV;grind[World.size_alloc]
def aiO(g cap:Nat)(L:List It)(most:Nat)(w:J)(hI:Fu w g 0 L.length (Cf L))(hg:g<w.heap.size)(hn:L.length<=1000000000)(hm:most<=16){a8:List O}{f':Bool}(hp:Hs most L ⟨[Hr],[],[],false⟩ ⟨[Hr],[fN,fY,fR],a8,f'⟩):
  Calls prog 5 #[nX g L.length cap,G most] w λe w'=>e=iA (.bool true)/\Z [] w w':=by
 have HI:=V hI;have HP:=V hp;have HS:=V (agj w);clear hI hp;go_enter func5,ntmps5;go_wp2
 go_loopw [5,6,7,8,9] (λo s n f i wr=>∃(x:Fo)(k:Nat),f=.bool x.fr/\i=G k/\k<=L.length/\(x.o.length<=k+1/\x.sn.length<=k/\x.nm.length<=k)/\Hid (Hs most (L.drop k) x ⟨[Hr],[fN,fY,fR],a8,f'⟩)/\Hid (O3 w wr o s n x.o x.sn x.nm)) (λ_ _ _ _ i _=>L.length-(intOf i).toNat)
 case atStart=>
  exact⟨⟨[Hr],[],[],false⟩,0,rfl,rfl,xj _,by simp,V (by rw[List.drop_zero];exact HP.out),HS⟩
 case round=>
  obtain⟨x,k,rfl,rfl,hk,E,hq,I⟩:=hrel;clear HP HS;by_cases h1:k<L.length
  .have HC:Hid (∀W,Z [] w W->W.cell? ⟨g,k*3,none⟩=some (G (Cf L k).k)/\W.cell? ⟨g,k*3+1,none⟩=some (Y (Cf L k).s)):=V λW hW=>by
    have R:=HI.out.kept hW hg;have c0:=R.c0 k h1;have c1:=R.c1 k h1;simp only[Nat.zero_add]at c0 c1;exact⟨c0,c1⟩
   have HQ:=hq.out;rw[drop_at h1]at HQ;obtain⟨o,p,U,nm,f,y,rfl,hT,ae⟩:=HQ;have q:=V ae;clear hq ae HI;generalize Cf L k=a at *;obtain⟨ka,F,ta⟩:=a;obtain⟨c0,c1⟩:=HC.out wr I.out.kp;dsimp only at c0 c1 E I HC|-;obtain⟨go,aa,rfl,ad,aj⟩:=I.out.ra.form (by simp);have ct:=I.out.ra.cell (j:=o.length) (s:=p) (by simp);obtain⟨av,cv,rfl⟩:=gz I.out.rb;obtain⟨an,cn,rfl⟩:=gz I.out.rc;have CA:=V (Ub p vW wr (by decide));simp only[N3,pG,Kk]at ad E;go_wp21;refine CA.out.mono ?_;rintro e W'⟨rfl,P⟩;rw[P];clear P W' CA;rw[show aV p vW (vW.size+1) 0 0=kJ p from ahZ p];have Q:Hid (∀(y2:Fo)(a b c:gP)(z:Int)(W:J),z=k+1->y2.o.length<=k+1+1/\y2.sn.length<=k+1/\y2.nm.length<=k+1->Hs most (L.drop (k+1)) y2 ⟨[Hr],[fN,fY,fR],a8,f'⟩->O3 w W a b c y2.o y2.sn y2.nm->(∃(x:Fo)(T:Nat),Value.bool y2.fr=.bool x.fr/\Value.int .i64 z=G T/\T<=L.length/\(x.o.length<=T+1/\x.sn.length<=T/\x.nm.length<=T)/\Hid (Hs most (L.drop T) x ⟨[Hr],[fN,fY,fR],a8,f'⟩)/\Hid (O3 w W a b c x.o x.sn x.nm))/\L.length-(intOf (G z)).toNat<L.length-(intOf (G k)).toNat):=by
    refine V ?_;rintro y2 a b c _ W rfl h2 h3 h4;exact⟨⟨y2,k+1,rfl,rfl,h1,h2,V h3,V h4⟩,by simp[intOf];omega⟩
   have HO:Hid (O3 w wr (nX go (o.length+1) aa) (.slice av U.length cv) (.slice an nm.length cn) (o++[p]) U nm):=V (by
    have:=I.out;rw[show(o++[p]).length=o.length+1 by simp]at this;exact this)
   have HL:=V E;have HN:=V hn;clear I E;cases hT with
   |cm hv=>
    rw[hv];go_wp21;exact Q.out ⟨o++[p],U,nm,false⟩ _ _ _ _ _ rfl (by have:=HL.out;simp;omega) q.out HO.out
   |dt hp=>
    have ai:(p.toList==[35])=true:=by subst hp;decide+kernel
    clear hp;go_wp21;exact Q.out ⟨o++[p],U,nm,false⟩ _ _ _ _ _ rfl (by have:=HL.out;simp;omega) q.out HO.out
   |tx hs hv hp=>
    have ai:(p.toList==[35])=false:=Ex (u:=Hr) (by decide+kernel) hp;have al:F.toList.isEmpty=false:=by
     rw[sd];cases hd:F.data.toList with
     |nil=>
       have:F.data.toList.length=0:=by rw[hd];rfl
       have e:F.data.toList.length=F.size:=rfl;omega
     |cons=>rfl
    rw[hv];go_wp21;exact Q.out ⟨o++[p],U,nm,false⟩ _ _ _ _ _ rfl (by have:=HL.out;simp;omega) q.out HO.out
   |lv ho=>
    have hz:((o.length:Int)+1==1)=false:=beq_eq_false_iff_ne.2 (by
     have:o.length≠0:=λh=>ho (TE h);omega)
    have E:=HL.out;go_wp21;exact Q.out ⟨o,U,nm,false⟩ _ _ _ _ _ rfl (by have:=HL.out;simp;omega) q.out HO.out.pop
   |fj h2 h3 h4=>
    have al:F.toList.isEmpty=false:=by
     rw[sd];cases hd:F.data.toList with
     |nil=>
       have:F.data.toList.length=0:=by rw[hd];rfl
       have e:F.data.toList.length=F.size:=rfl;omega
     |cons=>rfl
    have E:=HL.out;have H2:=V h2;clear h2 h3;go_wp21
    go_loopw [12] (λi wq=>∃j:Nat,i=G j/\j<=nm.length/\Hid (O3 w wq (nX go (o.length+1) aa) (.slice av U.length cv) (.slice an nm.length cn) (o++[p]) U nm)) (λi _=>nm.length-(intOf i).toNat)
    case atStart=>exact⟨0,rfl,xj _,HO⟩
    case round=>
     obtain⟨j,rfl,hj,m⟩:=hrel;have e1:=(HC.out wr m.out.kp).2;clear c0 c1 ct HO;by_cases h5:j<nm.length
     .obtain⟨gn,ag,e,_,au⟩:=m.out.rc.form (λe=>by rw[e]at h5;cases h5);obtain⟨rfl, -,rfl⟩:=Tz e;have cj:=m.out.rc.cell (yG h5);have ax:(nm[j].toList==F.toList)=false:=by
       cases hh:nm[j].toList==F.toList with
       |false=>rfl
       |true=>exact absurd (wK h5) (λhm=>H2.out (by rw[<-ry hh];exact hm))
      generalize nm[j]=sj at *;go_wp21;go_region
      all_goals (try go_wp21)
      exact⟨⟨j+1,rfl,h5,V (m.out.lay (Z.refl _ _).drew)⟩,by simp[intOf];omega⟩
     .have h6:j=nm.length:=by omega
      subst h6;go_wp2_with (at_builtin;refine yX rfl _ _ rfl m.out.eN.eN rfl rfl (by omega) ?_);intro v' W3 a7;obtain⟨ao,ag,rfl⟩:=gz a7.ra;replace e1:=(HC.out W3 a7.kp).2;have ac:=V a7;rw[show(nm++[F]).length=nm.length+1 by simp]at ac|-;clear a7 m;go_wp21;exact Q.out ⟨o++[p],U,nm++[F],true⟩ _ _ _ _ _ rfl (by simp;omega) q.out ac.out.eN
   |en he hv=>
    have E:=HL.out;rw[hv];have CP:=V (ada F wr);have CI:=V (Ub p (Kz F) wr (agu F));go_wp21;refine CP.out.mono ?_;rintro e W'⟨rfl,P⟩;rw[P];clear P W' CP;go_wp21;refine CI.out.mono ?_;rintro e W'⟨rfl,P⟩;rw[P];have EF:=acx he;clear P W' CI he hv;generalize aV p (Kz F) ((Kz F).size+1) 0 0=am at *;generalize Kz F=pb at *;rcases EF with⟨a1,a2,a3,a4,a5⟩|⟨a1,a2,a3,a4,a5,a6⟩|⟨a1,a2,a3,a4,a5,a6⟩|⟨a1,a2,a3,a4⟩
    iterate 2
     focus
      first|rw[a5]at q|rw[a6]at q
      go_wp2_with (at_builtin;refine yX rfl _ _ rfl HO.out.eN rfl rfl (by omega) ?_);intro v1 W1 a0;obtain⟨ap,aq,rfl⟩:=gz a0.ra;have e1:=(HC.out W1 a0.kp).2;have ab:=V a0;clear a0 HO c0 c1 ct;go_wp2_with (at_builtin;refine yX rfl _ _ rfl ab.out.eN.eN rfl rfl (by simp;omega) ?_);intro v2 W2 m;obtain⟨af,ah,rfl⟩:=gz m.ra;have e2:=(HC.out _ m.abV.kp).1;have a9:=V m.abV;clear m ab e1;go_wp21;exact Q.out ⟨o++[p,F],U++[F],[],true⟩ _ _ _ _ _ rfl (by simp;omega) (by have:=q.out;simpa using this) a9.out
    all_goals
     first|rw[a6]at q|rw[a4]at q
     go_wp2_with (at_builtin;refine yX rfl _ _ rfl HO.out rfl rfl (by simp;omega) ?_);intro v2 W2 m;obtain⟨af,ah,rfl⟩:=gz m.ra;have e2:=(HC.out _ m.abV.kp).1;have a9:=V m.abV;clear m HO c0 c1 ct;go_wp21;exact Q.out ⟨o++[p,F],U,[],true⟩ _ _ _ _ _ rfl (by simp;omega) (by have:=q.out;simpa using this) a9.out
  .have ak:k=L.length:=by omega
   have h3:=hq.out;rw[ak,List.drop_length]at h3;have h4:x=_:=h3;subst h4;dsimp only at I|-;obtain⟨go,aa,rfl,ad,aj⟩:=I.out.ra.form (by simp);obtain⟨gs,cs,rfl,ar,aw⟩:=I.out.rb.form (by simp);obtain⟨an,cn,rfl⟩:=gz I.out.rc;have s0:=I.out.rb.cell (j:=0) rfl;have s1:=I.out.rb.cell (j:=1) rfl;have s2:=I.out.rb.cell (j:=2) rfl;have HK:=V I.out.kp;clear I hq h3;go_wp2;go_ret;exact⟨rfl,HK.out⟩
def KN(w w':J):Prop:=∀(k:Nat)(c:jL)(t:TypeId),w.heap[k]?=some (gH c t)->t∈Z6->w'.heap[k]?=some (gH c t)
def KN.j9(h:Z S w w')(j:∀k∈S,∀c t,w.heap[k]?=some (gH c t)->t∉Z6):KN w w':=λk c t hk o=>h.at hk (λm=>j k m c t hk o)
theorem KN.row(h:KN w w'){base:Nat}{size:Nat}(k:w.ownsRow base e size v n xs)(p:e∈Z6):w'.ownsRow base e size v n xs:=by
 refine⟨k.1,?_⟩;rcases k.2 with e1|⟨g,cap,j,e1,m,o,r⟩;grind;exact .inr ⟨g,cap,j,e1,m,h g _ _ o p,r⟩
mutual
theorem jQ.kn(hk:KN w w'):∀{t:Tn} {n:Nd},jQ w t n->jQ w' t n
 | .el name gG ks,.el k,h=>by
  unfold jQ at h|-;have⟨av,ji,kv,ns,h1,h2,h3,h4⟩:=h;exact⟨av,ji,kv,ns,⟨hk _ _ _ h1.il (by decide),hk.row h1.row (by decide),h1.le,h1.aG⟩,hk.row h2 (by decide),h3,sg.kn hk h4⟩
 | .tx _,.tx _,h=>by unfold jQ at h|-;exact hk _ _ _ h (by decide)
 | .cm _,.cm _,h=>by unfold jQ at h|-;exact hk _ _ _ h (by decide)
 | .dt _,.dt _,h=>by unfold jQ at h|-;exact hk _ _ _ h (by decide)
 | .el _ _ _,.tx _,h=>by grind[jQ]
 | .el _ _ _,.cm _,h=>by grind[jQ]
 | .el _ _ _,.dt _,h=>by grind[jQ]
 | .tx _,.el _,h=>by grind[jQ]
 | .tx _,.cm _,h=>by grind[jQ]
 | .tx _,.dt _,h=>by grind[jQ]
 | .cm _,.el _,h=>by grind[jQ]
 | .cm _,.tx _,h=>by grind[jQ]
 | .cm _,.dt _,h=>by grind[jQ]
 | .dt _,.el _,h=>by grind[jQ]
 | .dt _,.tx _,h=>by grind[jQ]
 | .dt _,.cm _,h=>by grind[jQ]
theorem sg.kn(hk:KN w w'):∀{k:List Tn} {j:List Nd},sg w k j->sg w' k j
 |[],[],_=>by simp[sg]
 |t::k,n::j,h=>by
  unfold sg at h|-;exact⟨jQ.kn hk h.1,sg.kn hk h.2⟩
 |[],_::_,h=>by grind[sg]
 |_::_,[],h=>by grind[sg]
end
def EI(d f l:Int)(n:Nat)(v:gP)(k:Nat):jL:=#[G d,G f,G l,jD,.bool true,G n,.nilIface,v,gI k]
def aen(w:J)(D:Tn)(L:List Sp)(e:Ending)(w':J):Prop:=
 ∃v k,e=iA (.tuple #[.agg #[v,gI k],.pointer none])/\jQ w' D (.el k)/\w'.ownsRow w.heap.size 73 3 v L.length (lN L)/\L.length<=1024/\Z [] w w'
def Q7(s:O)(d f l:Nat)(D:Tn)(L:List Sp):Prop:=∀(k:gP)(j:Nat)(w:J),w.ownsRow j 5 1 k s.size (lx s)->y9 w->N5 w->
  Calls prog 29 #[k,.agg #[G d,G f,G l]] w (aen w D L)
def ak2(w:J)(D:Tn)(L:List Sp)(m o:gP)(wc:J):Prop:=∃j v k,m=gI j/\o=.pointer none/\w.heap.size<=j/\wc.heap[j]?=some (gH #[v,gI k] 68)/\jQ wc D (.el k)/\wc.ownsRow w.heap.size 73 3 v L.length (lN L)/\L.length<=1024/\Z [] w wc
theorem LU{e:Ending}(h:aen W D L e w2)(hk:Z [] w W):∃v k,e=iA (.tuple #[.agg #[v,gI k],.pointer none])/\(∃Q n P,v=.slice Q n P)/\ak2 w D L (gI w2.heap.size) (.pointer none) (w2.alloc (gH #[v,gI k] 68))/\
  (∀j,w.heap.size<=j->W.heap[j]?=some (gH #[jD,.pointer none] 68)->w2.heap[j]?=some (gH #[jD,.pointer none] 68)/\ak2 w D L (gI j) (.pointer none) ((w2.setCell ⟨j,0,none⟩ v).setCell ⟨j,1,none⟩ (gI k))):=by
 obtain⟨v,k,rfl,U,E,z,o⟩:=h;have m:=ke E hk.size;have I:=(Z.refl [] w2).alloc (gH #[v,gI k] 68);have⟨Q,P,hv⟩:=gz E;refine⟨v,k,rfl,by grind,⟨_,v,k,rfl,rfl,jZ hk.size o.size,fU w2 _,jQ.kept I U,I.ownsRow m (λ_ _=>by simp),z,(hk.trans o).trans I⟩,?_⟩;intro j p hg;have u:=o.at hg (by simp);have kS:Z [j] w2 ((w2.setCell ⟨j,0,none⟩ v).setCell ⟨j,1,none⟩ (gI k)):=((Z.refl _ _).setCell (.inl (by simp)) _).setCell (.inl (by simp)) _;refine⟨u,j,v,k,rfl,rfl,p,gh (gh u 0 _) 1 _,jQ.kn (KN.j9 kS (λq y c t F ht=>?_)) U,kS.ownsRow m (λq y hm=>?_),z,((hk.trans o).setCell (.inr p) _).setCell (.inr p) _⟩;have e:=List.mem_singleton.1 y;subst e;rw[u]at F;simp at F;rw[<-F.2]at ht;revert ht;decide;rcases m.2 with⟨e2,_⟩|⟨q',T,a0,e2,_,F,_⟩;rw[e2]at y;cases y;rw[e2]at y;have e3:=Ki y;grind
def KQ(w:J)(j d f l:Nat)(s:O)(D:Tn)(L:List Sp)(w':J):Prop:=∃v k,w'.heap[j]?=some (gH (EI d f l s.size v k) 70)/\jQ w' D (.el k)/\w'.ownsRow w.heap.size 73 3 v L.length (lN L)/\L.length<=1024/\Z [j] w w'
def X9(m d f l:Nat)(tv:gP)(s:O)(base:Nat)(w:J)(E:w.heap[m]?=some (gH (us ((d:Int),(f:Int),(l:Int)) tv) 70))(ho:w.ownsRow base 5 1 tv s.size (lx s))(hT:y9 w)(U:N5 w)(hn:Q7 s d f l D L):
  Calls prog 19 #[gI m] w λe w'=>e=.returned .nilIface/\KQ w m d f l s D L w':=by
 have⟨ao,cp,htv⟩:=gz ho;subst htv;have a4:=ja E;have c0:w.cell? ⟨m,0,none⟩=some (G d):=by rw[fP E];rfl
 have c1:w.cell? ⟨m,1,none⟩=some (G f):=by rw[fP E];rfl
 have c2:w.cell? ⟨m,2,none⟩=some (G l):=by rw[fP E];rfl
 have c3:w.cell? ⟨m,3,none⟩=some (.slice ao s.size cp):=by rw[fP E];rfl
 have CI:=Cc m ((d:Int),(f:Int),(l:Int)) _ w E;have CR:=(λW (hk:Z [] w W)=>hn (.slice ao s.size cp) base W (hk.ownsRow ho (λ_ _=>by simp)) (hT.fr (bm:=0) (.ib hk)) (U.kept hk));have HX:=E;have HG:=fU w.drew (gH #[jD,.pointer none] 68);go_enter func19,ntmps19;go_wp21;refine CI.mono ?_;rintro e u⟨rfl,rfl⟩;go_wp21
 go_cut [3,4]from 8 to 19 (λv3 v4 wc=>ak2 u D L v3 v4 wc)
 case first=>
  go_region_with (go_at_call 29;first
   |(refine(CR _ ((Z.refl [] u).drew)).mono ?_;intro e w2 F;obtain⟨v,k,rfl,⟨T,n,Q,rfl⟩,h1,_⟩:=LU F ((Z.refl [] u).drew);have I:=V h1;clear h1 F)
   |(refine(CR _ (((Z.refl [] u).drew).alloc _)).mono ?_;intro e w2 F;obtain⟨v,k,rfl,⟨T,n,Q,rfl⟩,_,h2⟩:=LU F (((Z.refl [] u).drew).alloc _);have⟨h3,h4⟩:=h2 u.heap.size (ic _) HG;have q0:w2.cell? ⟨u.heap.size,0,none⟩=some (jD):=(by rw[fP h3];rfl);have q1:w2.cell? ⟨u.heap.size,1,none⟩=some (.pointer none):=(by rw[fP h3];rfl);have z0:=gx h3 0;have z1:=gx h3 1;have I:=V h4;clear h2 h3 h4 F))
  all_goals (try (go_wp21))
  all_goals (go_meet;exact I)
 case rest=>
  obtain⟨P,v,k,rfl,rfl,a3,U,y,o,z,hk⟩:=hcut;have⟨T,Q,hv⟩:=gz o;subst hv;have j:=hk.at HX (by simp);have e3:wc.cell? ⟨m,3,none⟩=some (.slice ao s.size cp):=by rw[fP j];rfl
  have e4:wc.cell? ⟨m,4,none⟩=some (.bool false):=by rw[fP j];rfl
  have e5:wc.cell? ⟨m,5,none⟩=some (G 0):=by rw[fP j];rfl
  have e7:wc.cell? ⟨m,7,none⟩=some (jD):=by rw[fP j];rfl
  have e8:wc.cell? ⟨m,8,none⟩=some (.pointer none):=by rw[fP j];rfl
  have t0:wc.cell? ⟨P,0,none⟩=some (.slice T L.length Q):=by rw[fP U];rfl
  have t1:wc.cell? ⟨P,1,none⟩=some (gI k):=by rw[fP U];rfl
  have f4:=gx j 4;have f5:=gx j 5;have f7:=gx j 7;have f8:=gx j 8;have a5:P≠m:=by omega
  have a2:m≠P:=by omega
  have a1:=ja j;have HP:=And.intro j (And.intro y (And.intro o (And.intro z hk)));go_wp21
  go_cut []from 20 to 34 (λwd=>wd.heap[m]?=some (gH #[G d,G f,G l,.slice ao s.size cp,.bool true,G s.size,.nilIface,.slice T L.length Q,gI k] 70)/\Z [m] wc wd)
  case first=>
   go_region
   all_goals (try (go_wp21))
   all_goals (go_meet;exact⟨gh (gh (gh (gh HP.1 _ _) _ _) _ _) _ _,(((((Z.refl [m] wc).setCell (.inl (by simp)) _).setCell (.inl (by simp)) _).setCell (.inl (by simp)) _).setCell (.inl (by simp)) _).drew⟩)
  case rest=>
   have⟨hx3,hk3⟩:=hcut;have⟨j,y,o,z,hk⟩:=HP;have g3:wc.cell? ⟨m,3,none⟩=some (.slice ao s.size cp):=by rw[fP hx3];rfl
   have g6:wc.cell? ⟨m,6,none⟩=some .nilIface:=by rw[fP hx3];rfl
   have y3:=gx hx3 3;have a0:=ja hx3;have k4:=hk3.trans ((Z.refl [m] wc).setCell (p:=⟨m,3,none⟩) (.inl (by simp)) (jD));have I:Hid (KQ u m d f l s D L (wc.setCell ⟨m,3,none⟩ (jD))):=V ⟨_,k,gh hx3 3 _,jQ.kn (KN.j9 k4 (λq hq c t hc ht=>by
     have e:=List.mem_singleton.1 hq;subst e;rw[j]at hc;simp at hc;rw[<-hc.2]at ht;revert ht;decide)) y,k4.ownsRow o (λq hq hm=>by
     have e:=List.mem_singleton.1 hm;subst e;have:=(o.lt _ hq).1;omega),z,(hk.mono (by simp)).trans k4⟩
   go_wp2;go_ret;exact⟨rfl,I⟩
def ajf(j d f l:Nat)(m:gP)(s:O)(base:Nat)(w:J)(E:w.heap[j]?=some (gH (us ((d:Int),(f:Int),(l:Int)) m) 70))(z:w.ownsRow base 5 1 m s.size (lx s))(q:y9 w)(u:N5 w)(y:Q7 s d f l D L):
  Calls prog 11 #[gI j] w λe w'=>e=iA (.tuple #[G 0,G 0])/\KQ w j d f l s D L w':=by
 have C:=X9 j d f l m s base w E z q u y;go_enter func11,ntmps11;go_wp21;refine C.mono ?_;rintro e F⟨rfl,o⟩;go_wp21;refine(Hf F).mono ?_;rintro e w2⟨rfl,hk⟩;have p:Hid (KQ w j d f l s D L w2):=by
  have⟨v,k,h1,h2,h3,h4,h5⟩:=o;exact V ⟨v,k,hk.at h1 (by simp),jQ.kept hk h2,hk.ownsRow h3 (λ_ _=>by simp),h4,h5.trans (hk.mono (by simp))⟩
 go_wp2;go_ret2;exact⟨rfl,p⟩
def Ask.toW{q:O->Bool}(h:Ask bm v q w):akZ w v q:=by
 have⟨k,lb,hv,he,ha⟩:=h.call;exact⟨k,lb,hv,he,λW hk s=>ha W (.ib hk) s⟩
def ab8(base:Nat)(v:gP)(L:List Sp)(w:J)(k:w.ownsRow base 73 3 v L.length (lN L))(hL:L.length<=4096):
  Calls prog 24 #[v] w λe w'=>∃m,e=iA m/\w'.ownsRow w.heap.size 73 3 m L.length (lN L)/\Z [] w w':=by
 have⟨i0,hi,hz0,hz1,hz2⟩:=qz P5;rcases k.2 with⟨rfl,h0⟩|⟨g,cap,U,rfl,a0,hg,_⟩
 .have hn:=λw=>kH (P:=prog) w 24 73 none 0 0 0 0 underlying24;have:L=[]:=TE h0;subst this;clear k;go_enter func24,ntmps24;go_wp2;go_ret;exact⟨_,rfl,pP _ _ _ _,Z.refl _ _⟩
 .have hn:=λw=>kH (P:=prog) w 24 73 (some ⟨g,0,none⟩) L.length cap 0 0 underlying24;have T:=V k;have q:=ja hg;have E:(w.alloc (.cells #[] 73)).ownsRow w.heap.size 73 3 (nX w.heap.size 0 0) 0 []:=
   ⟨rfl,.inr ⟨w.heap.size,0,#[],rfl,ic _,fU w _,ic _,xj _,rfl,rfl⟩⟩
  clear k;go_enter func24,ntmps24;go_wp2_with (at_builtin;refine jB _ rfl _ _ 24 rfl w.heap.size 73 i0 (.agg #[G 0,G 0,G 0]) 3 24 underlying24 hi hz0 hz1 hz2 rfl (by decide) _ _ _ rfl E ⟨g,0,none⟩ L.length cap (lN L) rfl ?c1 ?c2 ?c3 ?c4 ?c5 ?c6 ?_)
  case c1=>exact tq L
  case c2=>
   intro j u hj;have:=T.cells (g:=g) rfl j u hj;rw[js]at this|-;rw[<-this];exact XA _ _ _ q
  case c3=>
   intro u z;unfold lN at z;simp at z;obtain⟨p,_,h|h|h⟩:=z<;>(subst h;rfl)
  case c4=>omega
  case c5=>omega
  case c6=>simp
  intro m F y o a1;have I:F.ownsRow w.heap.size 73 3 m L.length (lN L):=by simpa using y
  have Q:Hid (Z [] w F):=((Z.refl [] w).alloc _).grown o (λx hx=> .inr (E.lt x hx).1);go_wp2;go_ret;exact⟨_,rfl,I,Q⟩
def ZJ(j:Nat)(d f l:Int)(n k:Nat)(v:gP)(w:J)(m:w.heap[j]?=some (gH (EI d f l n v k) 70)):
  Calls prog 20 #[gI j] w λe w'=>e=iA (.tuple #[G n,.nilIface])/\Z [] w w':=by
 have p:w.cell? ⟨j,4,none⟩=some (.bool true):=by rw[fP m];rfl
 have q:w.cell? ⟨j,5,none⟩=some (G n):=by rw[fP m];rfl
 have u:w.cell? ⟨j,6,none⟩=some .nilIface:=by rw[fP m];rfl
 have o:=ja m;go_enter func20,ntmps20;go_wp21;go_region
 all_goals (try go_wp2)
 all_goals (try go_ret2)
 all_goals exact⟨rfl,(Z.refl [] w).drew⟩
def VS(m:Nat)(d f l:Int)(n k:Nat)(v:gP)(w:J)(p:w.heap[m]?=some (gH (EI d f l n v k) 70)):
  Calls prog 12 #[gI m] w λe w'=>e=iA (.tuple #[G n,G 0,G 0])/\Z [] w w':=by
 have C:=ZJ m d f l n k v w p;go_enter func12,ntmps12;go_wp21;refine C.mono ?_;rintro e q⟨rfl,o⟩;go_wp21;refine(Hf q).mono ?_;rintro e w2⟨rfl,hk⟩;have j:=o.trans hk;go_wp2;go_ret3;exact⟨rfl,j⟩
theorem amA(j:Nat)(d f l:Int)(n k base:Nat)(v:gP)(L:List Sp)(w:J)(p:w.heap[j]?=some (gH (EI d f l n v k) 70))(o:w.ownsRow base 73 3 v L.length (lN L))(q:L.length<=4096):
  Calls prog 15 #[gI j] w λe w'=>∃m,e=iA m/\w'.ownsRow w.heap.size 73 3 m L.length (lN L)/\Z [] w w':=by
 have E:w.cell? ⟨j,7,none⟩=some v:=by rw[fP p];rfl
 have C:=ab8 base v L w o q;have⟨ao,cp,hv⟩:=gz o;subst hv;have u:=ja p;go_enter func15,ntmps15;go_wp21;refine C.mono ?_;rintro e w'⟨m,rfl,y,z⟩;go_wp2;go_ret;simp_all
def QI(v:gP)(w:J):(ReflectliteType.typeOf #[.iface 74 v]).run prog w=.ok (.iface 141 (.agg #[j5 7 74])) w:=rfl
def O4(w:J):(ReflectliteType.relation "AssignableTo" ReflectliteType.assignableTo #[.agg #[j5 7 74],.iface 141 (.agg #[j5 7 74])]).run prog w=.ok (.bool true) w:=by kernel_rfl
def I0(w:J):(ReflectliteType.relation "AssignableTo" ReflectliteType.assignableTo #[.agg #[j5 7 74],.iface 141 (.agg #[j5 7 22])]).run prog w=.ok (.bool false) w:=by kernel_rfl
def ZB(p:Addr)(w:J):(ReflectliteValue.unpack (.iface 74 (.pointer (some p)))).run prog w
  =.ok (.agg #[j5 7 74,gI w.heap.size,.int .u64 150]) (w.alloc (.cells #[.pointer (some p)] 74)):=by kernel_rfl
def adA(w:J):(Rtype.elem? 76).run prog w=.ok (some 74) w:=by kernel_rfl
def anX(p:Addr)(w:J):(ReflectliteValue.mk 74 p ReflectliteValue.flagAddr).run prog w=.ok (.agg #[j5 7 74,.pointer (some p),.int .u64 406]) w:=by kernel_rfl
def ag2(a p:Addr)(W:J)(j:W.cell? a=some (.pointer (some p))):
  (ReflectliteValue.method (ReflectliteValue.valueError "reflectlite.Value.Elem" 0) ReflectliteValue.elem #[.agg #[j5 7 76,.pointer (some a),.int .u64 150]]).run prog W
   =.ok (.agg #[j5 7 74,.pointer (some p),.int .u64 406]) W:=by
 rw[eF];simp only[NX,QJ,Result.andThen];simp[ReflectliteValue.elem,loadVar,isAgg,underlying,underlying76,j,Result.andThen,adA,anX]
def adB(a:Addr)(w:J):(ReflectliteValue.parts (.agg #[j5 7 74,.pointer (some a),.int .u64 406])).run prog w=.ok (some (74,a,406)) w:=rfl
def ag3(a:Addr)(w:J):(ReflectliteValue.parts (.agg #[j5 7 74,.pointer (some a),.int .u64 150])).run prog w=.ok (some (74,a,150)) w:=rfl
def adz(w:J):(Rtype.directlyAssignable 74 74).run prog w=.ok true w:=by rfl
theorem amv(j b p:Addr)(k:gP)(W:J)(m:W.cell? b=some (.pointer (some p)))(q:W.cell? j=some k)(o:W.frozen? j=false):
  (ReflectliteValue.set #[.agg #[j5 7 74,.pointer (some j),.int .u64 406],.agg #[j5 7 74,.pointer (some b),.int .u64 150]]).run prog W
   =.ok (.tuple #[]) (W.setCell j (.pointer (some p))):=by
 rw[fD];simp only[NX,adB,ag3,Result.andThen];simp[ReflectliteValue.flagAddr,loadVar,isAgg,underlying,underlying74,m,Result.andThen,adz,storeVar,Value.cells,storeCells,Addr.add];rw[run_store prog W j _ _ rfl];grind
def ajP(v:gP)(j:TypeId)(w:J):(Instr.typeAssert (.iface 74 v) j 145 true).run prog w=.ok (.tuple #[.nilIface,.bool false]) w:=run_typeAssert_lacksB underlying145 (by kernel_rfl) (rfl) v j w
def ajQ(v:gP)(j:TypeId)(w:J):(Instr.typeAssert (.iface 74 v) j 152 true).run prog w=.ok (.tuple #[.nilIface,.bool false]) w:=run_typeAssert_lacksB underlying152 (by kernel_rfl) (rfl) v j w
def GW(v:gP)(j:TypeId)(w:J):(Instr.typeAssert (.iface 74 v) j 148 true).run prog w=.ok (.tuple #[.iface 74 v,.bool true]) w:=run_typeAssert_hasB underlying148 (by kernel_rfl) v j w
def Bm(v:gP)(w:J):(Go.method 493 74 v "Unwrap").run prog w=.ok (406,v) w:=by kernel_rfl
def Kg(p n:Nat)(j:Int)(k:Int)(w:J)(o:w.heap[p]?=some (gH #[G k,G j] 79))(m:n=0):
  Calls prog 406 #[j5 p n] w λe w'=>e=iA (.iface 22 (G k))/\w'=w:=by
 subst m;have q:w.cell? ⟨p,0,none⟩=some (G k):=by simp[World.cell?,o]
 go_enter func406,ntmps406;go_wp2;go_ret;simp
def Ud(p t:Addr)(o:gP)(w:J)(y:w.cell? ⟨0,0,none⟩=some (.iface 141 (.agg #[j5 7 52])))(k:w.cell? t=some o)(q:w.frozen? t=false):
  Calls prog 25 #[.iface 74 (.pointer (some p)),.iface 76 (.pointer (some t))] w λF w'=>F=iA (.bool true)/\w'=((((w.alloc (.cells #[.pointer (some t)] 76)).alloc (.cells (rv 76 w.heap.size) 101)).alloc (.cells (rv 76 w.heap.size) 101)).alloc (.cells #[.pointer (some p)] 74)).setCell t (.pointer (some p)):=by
 have h6:=@run_callFunc_extern prog 35 _ (λj=>ReflectliteValue.unpack (j.getD 0 (.tuple #[]))) func35 (by rfl) (by rfl) rfl rfl;have h7:=@run_callFunc_extern prog 36 _ (ReflectliteValue.methodAny (ReflectliteValue.valueError "reflectlite.Value.Type" 0) (λt _ _ _=>ReflectliteType.toType t)) func36 (by rfl) (by rfl) rfl rfl;have h8:=@run_callFunc_extern prog 37 _ (ReflectliteValue.method (ReflectliteValue.valueError "reflectlite.Value.IsNil" 0) ReflectliteValue.isNil) func37 (by rfl) (by rfl) rfl rfl;have U:=@run_callFunc_extern prog 398 _ (ReflectliteType.abiMethod λt=>do pure (.int .u8 (<-Rtype.kind t))) func398 (by rfl) (by rfl) rfl rfl;have a1:=@run_callFunc_extern prog 419 _ (ReflectliteType.method ReflectliteType.elem) func419 (by rfl) (by rfl) rfl rfl;have a2:=@run_callFunc_extern prog 420 _ (ReflectliteType.relation "Implements" ReflectliteType.implements_) func420 (by rfl) (by rfl) rfl rfl;have P:=@run_callFunc_extern prog 39 _ ReflectliteType.typeOf func39 (by rfl) (by rfl) rfl rfl;have a0:=@run_callFunc_extern prog 417 _ (ReflectliteType.relation "AssignableTo" ReflectliteType.assignableTo) func417 (by rfl) (by rfl) rfl rfl;have Q:=@run_callFunc_extern prog 55 _ (ReflectliteValue.method (ReflectliteValue.valueError "reflectlite.Value.Elem" 0) ReflectliteValue.elem) func55 (by rfl) (by rfl) rfl rfl;have T:=@run_callFunc_extern prog 56 _ ReflectliteValue.set func56 (by rfl) (by rfl) rfl rfl;have tO:=QI;have mA:=DV;have z:=O4;have a7:=ZB;have f6:=ZD;have f7:=ajV;have mK:=aa8;have mE:=aa7;have mI:=DW;have a6:=ag5;have a5:=ajU;have E:=ajT;have a4:=O5;have n8:=ag4 ⟨w.heap.size,0,none⟩ t ((w.alloc (.cells #[.pointer (some t)] 76)).alloc (.cells (rv 76 w.heap.size) 101)) (by simp);have u:0<w.heap.size:=by
  rcases Jc w.heap.size with I|h;simp[World.cell?,I]at y;exact h
 have a3:((w.alloc (.cells #[.pointer (some t)] 76)).alloc (.cells (rv 76 w.heap.size) 101)).cell? ⟨0,0,none⟩=some (.iface 141 (.agg #[j5 7 52])):=by
  rw[XA _ _ ⟨0,0,none⟩ (by simp),XA _ _ ⟨0,0,none⟩ u];exact y
 have m:t.block<w.heap.size:=by
  rcases D0 t.block w.heap.size with h|h;exact h;simp[World.cell?,Ho h]at k
 have el:=ag2 ⟨w.heap.size,0,none⟩ t (((w.alloc (.cells #[.pointer (some t)] 76)).alloc (.cells (rv 76 w.heap.size) 101)).alloc (.cells (rv 76 w.heap.size) 101)) (by rw[XA _ _ ⟨w.heap.size,0,none⟩ (by simp;omega)];simp);have st:=amv t ⟨w.heap.size+1+1+1,0,none⟩ p o ((((w.alloc (.cells #[.pointer (some t)] 76)).alloc (.cells (rv 76 w.heap.size) 101)).alloc (.cells (rv 76 w.heap.size) 101)).alloc (.cells #[.pointer (some p)] 74))
  (by rw[World.cell?_alloc_at _ _ _ _ (by simp)];rfl)
  (by rw[XA _ _ t (by simp;omega),XA _ _ t (by simp;omega),XA _ _ t (by simp;omega),XA _ _ t m];exact k)
  (by rw[zt _ _ t (by simp;omega),zt _ _ t (by simp;omega),zt _ _ t (by simp;omega),zt _ _ t (Nat.ne_of_lt m)];exact q)
 go_enter func25,ntmps25;go_wp2;refine yB 1 ?_;rw[uE];go_wp2;go_ret;exact⟨rfl,rfl⟩
theorem N8(p:Nat)(j k:Int)(t:Addr)(u:gP)(w:J)(I:w.heap[p]?=some (gH #[G k,G j] 79))(hg:w.cell? ⟨0,0,none⟩=some (.iface 141 (.agg #[j5 7 52])))(o:w.cell? t=some u)(y:w.frozen? t=false):
  Calls prog 25 #[.iface 74 (gI p),.iface 81 (.pointer (some t))] w λev w'=>ev=iA (.bool true)/\w'=((((w.alloc (.cells #[.pointer (some t)] 81)).alloc (.cells (rv 81 w.heap.size) 101)).alloc (.cells (rv 81 w.heap.size) 101)).alloc (.cells #[G k] 22)).setCell t (G k):=by
 have h6:=@run_callFunc_extern prog 35 _ (λm=>ReflectliteValue.unpack (m.getD 0 (.tuple #[]))) func35 (by rfl) (by rfl) rfl rfl;have h7:=@run_callFunc_extern prog 36 _ (ReflectliteValue.methodAny (ReflectliteValue.valueError "reflectlite.Value.Type" 0) (λt _ _ _=>ReflectliteType.toType t)) func36 (by rfl) (by rfl) rfl rfl;have h8:=@run_callFunc_extern prog 37 _ (ReflectliteValue.method (ReflectliteValue.valueError "reflectlite.Value.IsNil" 0) ReflectliteValue.isNil) func37 (by rfl) (by rfl) rfl rfl;have a3:=@run_callFunc_extern prog 398 _ (ReflectliteType.abiMethod λt=>do pure (.int .u8 (<-Rtype.kind t))) func398 (by rfl) (by rfl) rfl rfl;have a5:=@run_callFunc_extern prog 419 _ (ReflectliteType.method ReflectliteType.elem) func419 (by rfl) (by rfl) rfl rfl;have a6:=@run_callFunc_extern prog 420 _ (ReflectliteType.relation "Implements" ReflectliteType.implements_) func420 (by rfl) (by rfl) rfl rfl;have a0:=@run_callFunc_extern prog 39 _ ReflectliteType.typeOf func39 (by rfl) (by rfl) rfl rfl;have a4:=@run_callFunc_extern prog 417 _ (ReflectliteType.relation "AssignableTo" ReflectliteType.assignableTo) func417 (by rfl) (by rfl) rfl rfl;have a1:=@run_callFunc_extern prog 55 _ (ReflectliteValue.method (ReflectliteValue.valueError "reflectlite.Value.Elem" 0) ReflectliteValue.elem) func55 (by rfl) (by rfl) rfl rfl;have a2:=@run_callFunc_extern prog 56 _ ReflectliteValue.set func56 (by rfl) (by rfl) rfl rfl;have tO:=QI;have ab:=PJ;have mA:=DV;have Q:=I0;have T:=Oq;have ac:=UC;have f6:=Yl;have f7:=ain;have mK:=aa8;have mE:=aa7;have mI:=DW;have aa:=ae4;have a9:=aim;have U:=ail;have a8:=Ot;have x1:=ajP;have x2:=GW;have x3:=Bm;have n8:=ae3 ⟨w.heap.size,0,none⟩ t ((w.alloc (.cells #[.pointer (some t)] 81)).alloc (.cells (rv 81 w.heap.size) 101)) (by simp);have z:0<w.heap.size:=by
  rcases Jc w.heap.size with h0|h;grind;exact h
 have a7:((w.alloc (.cells #[.pointer (some t)] 81)).alloc (.cells (rv 81 w.heap.size) 101)).cell? ⟨0,0,none⟩=some (.iface 141 (.agg #[j5 7 52])):=by
  rw[XA _ _ ⟨0,0,none⟩ (by simp),XA _ _ ⟨0,0,none⟩ z];exact hg
 have q:t.block<w.heap.size:=by
  rcases D0 t.block w.heap.size with h|h;exact h;simp[World.cell?,Ho h]at o
 have E:=ja I;have P:Hid ((((w.alloc (.cells #[.pointer (some t)] 81)).alloc (.cells (rv 81 w.heap.size) 101)).alloc (.cells (rv 81 w.heap.size) 101)).heap[p]?=some (gH #[G k,G j] 79)):=by
  show _=_;rw[Below.heap_alloc _ _ _ (by simp;omega),Below.heap_alloc _ _ _ (by simp;omega),Below.heap_alloc _ _ _ E];exact I
 have el:=ae2 ⟨w.heap.size,0,none⟩ t (((w.alloc (.cells #[.pointer (some t)] 81)).alloc (.cells (rv 81 w.heap.size) 101)).alloc (.cells (rv 81 w.heap.size) 101)) (by rw[XA _ _ ⟨w.heap.size,0,none⟩ (by simp;omega)];simp);have st:=alD t ⟨w.heap.size+1+1+1,0,none⟩ k u ((((w.alloc (.cells #[.pointer (some t)] 81)).alloc (.cells (rv 81 w.heap.size) 101)).alloc (.cells (rv 81 w.heap.size) 101)).alloc (.cells #[G k] 22))
  (by rw[World.cell?_alloc_at _ _ _ _ (by simp)];rfl)
  (by rw[XA _ _ t (by simp;omega),XA _ _ t (by simp;omega),XA _ _ t (by simp;omega),XA _ _ t q];exact o)
  (by rw[zt _ _ t (by simp;omega),zt _ _ t (by simp;omega),zt _ _ t (by simp;omega),zt _ _ t (Nat.ne_of_lt q)];exact y)
 go_enter func25,ntmps25;go_wp2;refine yB 2 ?_;rw[uE];go_wp2_with (go_at_call 406;refine(Kg p 0 j k _ P rfl).mono ?_;rintro e w'⟨rfl,F⟩;subst F);rw[uE];go_wp2;go_ret;exact⟨rfl,rfl⟩
def aiJ(p:Nat)(j k:Int)(w:J)(y:w.heap[p]?=some (gH #[G k,G j] 79)):
  Calls prog 26 #[.iface 74 (gI p),.iface 22 (G k)] w λe w'=>e=iA (.bool true)/\w'=w:=by
 have⟨i,hi,hcmp⟩:=Option.map_eq_some_iff.1 aik;have F:=@run_callFunc_extern prog 39 _ Extern.ReflectliteType.typeOf func39 (by rfl) (by rfl) rfl rfl;have q:=@run_callFunc_extern prog 418 _ Uq func418 (by rfl) (by rfl) rfl rfl;have Q:=PJ;have E:=Ko;have I:=O2;have T:=ajQ;have U:=GW;have x3:=Bm;have u:∀w:J,(binOp .eql 52 (.iface 22 (G k)) (.iface 22 (G k))).run prog w=.ok (.bool true) w:=λw=>by
  rw[GS w k k underlying52 underlying22 hi hcmp];simp
 have z:=λw=>run_eql_iface_types (P:=prog) 74 22 (gI p) (G k) underlying52 (by decide) w;have o:Hid (w.heap[p]?=some (gH #[G k,G j] 79)):=y;go_enter func26,ntmps26;go_wp2;refine yB 2 ?_;rw[uE];go_wp2_with (go_at_call 406;refine(Kg p 0 j k _ o rfl).mono ?_;rintro e w'⟨rfl,m⟩;subst m);rw[uE];go_wp2;go_ret;exact⟨rfl,rfl⟩
def Rl(p:Addr)(t:Nat)(j:gP)(w:J)(o:errorType w)(k:w.heap[t]?=some (gH #[j] 74)):
  Calls prog 25 #[.iface 74 (.pointer (some p)),.iface 76 (gI t)] w λm w'=>m=iA (.bool true)/\w'.heap[t]?=some (gH #[.pointer (some p)] 74)/\Z [t] w w':=by
 refine(Ud p ⟨t,0,none⟩ j w o (TB k) (free_of_one k)).mono ?_;rintro e w'⟨rfl,rfl⟩;refine⟨rfl,one_setCell (v:=j) ?_,?_⟩;have q:=ja k;rw[Below.heap_alloc _ _ _ (by simp;omega),Below.heap_alloc _ _ _ (by simp;omega),Below.heap_alloc _ _ _ (by simp;omega),Below.heap_alloc _ _ _ q];exact k;exact Z.setCell ((((Z.refl _ _).alloc _).alloc _).alloc _|>.alloc _) (.inl (by simp)) _
def LA(p:Nat)(m k:Int)(t:Nat)(j:gP)(w:J)(z:w.heap[p]?=some (gH #[G k,G m] 79))(u:errorType w)(o:w.heap[t]?=some (gH #[j] 22)):
  Calls prog 25 #[.iface 74 (gI p),.iface 81 (gI t)] w λq w'=>q=iA (.bool true)/\w'.heap[t]?=some (gH #[G k] 22)/\Z [t] w w':=by
 refine(N8 p m k ⟨t,0,none⟩ j w z u (TB o) (free_of_one o)).mono ?_;rintro e w'⟨rfl,rfl⟩;refine⟨rfl,one_setCell (v:=j) ?_,?_⟩;have y:=ja o;rw[Below.heap_alloc _ _ _ (by simp;omega),Below.heap_alloc _ _ _ (by simp;omega),Below.heap_alloc _ _ _ (by simp;omega),Below.heap_alloc _ _ _ y];exact o;exact Z.setCell ((((Z.refl _ _).alloc _).alloc _).alloc _|>.alloc _) (.inl (by simp)) _
def acB(p:Nat)(j k:Int)(w:J)(z:w.heap[p]?=some (gH #[G k,G j] 79))(P:errorType w):
  Calls prog 41 #[.iface 74 (gI p)] w λe w'=>e=iA (.tuple #[G k,.bool true])/\Z [] w w':=by
 have a0:∀(I:Fn)(first cap:jL)(w:J),(Instr.makeFunc I first cap).run prog w=.ok (.func I first cap) w:=λ_ _ _ _=>rfl;have o:=tC (tC P (.cells #[G 0] 22)) (.cells #[.bool false] 4);have E:=ja z;have q:((w.alloc (.cells #[G 0] 22)).alloc (.cells #[.bool false] 4)).heap[p]?=some (gH #[G k,G j] 79):=by
  rw[Below.heap_alloc _ _ _ (by simp;omega),Below.heap_alloc _ _ _ E];exact z
 have m:=V q;clear z q
 go_enter_defers func41,ntmps41
 go_wp21;refine(LA p j k w.heap.size _ _ m.out o (by rw[Below.heap_alloc _ _ _ (by simp)];exact fU _ _)).mono ?_;rintro e F⟨rfl,u,hk⟩;have y:F.heap[w.heap.size+1]?=some (gH #[.bool false] 4):=by
  refine hk.at ?_ (by simp);have:=fU (w.alloc (.cells #[G 0] 22)) (.cells #[.bool false] 4)
  simpa using this
 have U:=TB u;have c2:=TB y;have f1:=free_of_one u;have f2:=free_of_one y;have Q:Z [] w F:=((((Z.refl _ _).alloc _).alloc _).trans (S:=[w.heap.size]) hk).mono (by simp);clear hk m;have z1:=ja u;have z2:=ja y;clear u y P o;go_wp21;go_region
 all_goals go_wp2
 refine leaves_cons (f:=57) (args:=#[gI w.heap.size,gI (w.heap.size+1)]) (by simp) (by simp[go_sem]) ?_;refine(X1 ⟨w.heap.size,0,none⟩ ⟨w.heap.size+1,0,none⟩ _).mono ?_;rintro e u' a1⟨rfl,rfl,rfl⟩;have T:Z [] w (((F.setCell ⟨w.heap.size+1,0,none⟩ (.bool true)).setCell ⟨w.heap.size,0,none⟩ (G k)).setCell ⟨w.heap.size+1,0,none⟩ (.bool true)).drew:=
  (((Q.setCell (.inr (by simp)) _).setCell (.inr (by simp)) _).setCell (.inr (by simp)) _).drew
 simp[Go.Leaves,settle,results,results41,go_sem,U,c2];exact T
def VH(p:Nat)(j k:Int)(w:J)(o:w.heap[p]?=some (gH #[G k,G j] 79))(m:errorType w):
  Calls prog 27 #[.iface 74 (gI p)] w λe w'=>e=iA (G k)/\Z [] w w':=by
 have H:=V (acB p j k w o m);clear o m;go_enter func27,ntmps27;go_wp21;refine H.out.mono ?_;rintro e w'⟨rfl,hk⟩;go_wp2;go_ret;exact⟨rfl,hk⟩
theorem QP(p:Nat)(q k:Int)(w:J)(hp:w.heap[p]?=some (gH #[G k,G q] 79))(Q:errorType w):
  Calls prog 17 #[.iface 74 (gI p)] w λe w'=>e=iA (.tuple #[G k,G q])/\Z [] w w':=by
 have E:=tC (tC Q (.cells #[.pointer none] 74)) (.cells #[G 0] 22);have U:=V hp;have HG:=V Q;clear hp Q;go_enter func17,ntmps17;go_wp21;refine Xz (by rfl) ?_;refine oT (λ(g:Unit) z=>⟨#[.iface 74 (gI p),undef,G 0,G 0,gI w.heap.size,gI (w.heap.size+1),.bool false,.iface 74 (gI p),.bool false,cd z 21 (.bool true),cd z 0 (.iface 74 (gI p)),cd z 1 (.iface 76 (gI w.heap.size)),cd z 2 (.bool true),cd z 3 (.bool true),cd z 4 (.iface 74 (gI p)),cd z 5 (gI p),cd z 6 (gI p),cd z 7 (gI p),cd z 8 (G k),cd z 9 (.iface 22 (G k)),cd z 10 (.bool true),cd z 11 (.bool true),cd z 12 (.bool true),cd z 13 (.iface 74 (gI p)),cd z 14 (G k),cd z 15 (gI p),cd z 16 (gI p),cd z 17 (gI p),cd z 18 (G k),cd z 19 (.bool true),cd z 20 (.bool true),undef,undef,undef,undef,undef,undef,undef,undef,undef,undef,undef,undef,undef,undef,undef,undef,undef,undef,undef,undef,undef,undef,undef,undef,undef],[]⟩) (λg z W=>(dn z 2=false->W=((w.alloc (.cells #[.pointer none] 74)).alloc (.cells #[G 0] 22)).drew)/\(dn z 2=true->W.heap[w.heap.size]?=some (gH #[gI p] 74)/\Z [] w W)) 22 [[],[],[0,1],[0,1,2],[0,1,2,3],[0,1,2,3],[0,1,2,3,5],[0,1,2,3,5,6],[0,1,2,3,5,6,7],[0,1,2,3,5,6,7,8],[0,1,2,3,4,5,6,7,8,9],[0,1,2,3,4,5,6,7,8,9,10],[0,1,2,3,4,5,6,7,8,9,10,11],[0,1,2,3,4,5,6,7,8,9,10,11,12],[0,1,2,3,4,5,6,7,8,9,10,11,12,13],[0,1,2,3,4,5,6,7,8,9,10,11,12],[0,1,2,3,4,5,6,7,8,9,10,11,12,15],[0,1,2,3,4,5,6,7,8,9,10,11,12,15,16],[0,1,2,3,4,5,6,7,8,9,10,11,12,15,16,17],[0,1,2,3,4,5,6,7,8,9,10,11,12,13,14,15,16,17,18],[0,1,2,3,4,5,6,7,8,9,10,11,12,13,14,15,16,17,18,19],[0,1,2,3,4,5,6,7,8,9,10,11,12,13,14,15,16,17,18,19,20]] () rfl rfl ⟨λ_=>rfl,λh=>by cases h⟩ ?_ ?_
 .repeat' first|exact mg|refine mf ?_ ?_
  all_goals
   rintro g z W m y hn;simp[Bs]at y;refine N2 rfl ?_;intro K' o;simp only[lH,y]
   first
   |have⟨u,K1⟩:=m.2 y.2.2.1;have j:=K1.at U.out (by simp);have c1:=TB u;have P:=fP j 0;have T:=ja j;dsimp at P;go_simp;first
    |refine o _ _ ⟨g,?_,λh=>m.1 (by rwa [lY (by decide)]at h),λh=>m.2 (by grind)⟩
    |refine(aiJ p q k _ j).mono ?_;rintro e w2⟨rfl,rfl⟩;refine o _ _ ⟨g,?_,λh=>m.1 (by rwa [lY (by decide)]at h),λh=>m.2 (by grind)⟩
    |refine(VH p q k _ j (Mf HG.out K1 (by simp))).mono ?_;rintro e w3⟨rfl,F⟩;refine o _ _ ⟨g,?_,λh=>(by rw[lY (by decide),y.2.2.1]at h;cases h),λ_=>⟨F.at u (by simp),K1.trans F⟩⟩
   |go_simp;refine o _ _ ⟨g,?_,λh=>m.1 (by rwa [lY (by decide)]at h),λh=>m.2 (by rwa [lY (by decide)]at h)⟩
   |obtain rfl:=m.1 y.2.2;go_simp;refine(Rl ⟨p,0,none⟩ w.heap.size _ _ (Me E) (by show((w.alloc _).alloc _).heap[w.heap.size]?=_;rw[Below.heap_alloc _ _ _ (by simp)];exact fU _ _)).mono ?_;rintro e w1⟨rfl,u,hk⟩;refine o _ _ ⟨g,?_,λh=>(by rw[pX]at h;cases h),λ_=>⟨u,(((Z.refl _ _).alloc _).alloc _).drew.next hk (by simp)⟩⟩
   simp[pr,wy,lH,y]
 .rintro g W m;simp only[vJ];have⟨u,K1⟩:=m.2 vO;have j:=K1.at U.out (by simp);have c1:=TB u;have P:=fP j 0;have c9:=fP j 1;have T:=ja j;dsimp at P c9;have I:=V K1;clear m u j K1 E;go_wp21
  go_quiet (fail)
  go_wp2;go_ret2;exact⟨rfl,I.out.next ((Z.refl [] _).drewN _) (by simp)⟩
attribute [local go_sem] Oper.semAt_some
theorem errorType.kept(h:errorType w)(hk:Z S w w')(hs:0∉S):errorType w':=by
 have k:0<w.heap.size:=by
  rcases D0 0 _ with j|j;exact j;unfold errorType at h;simp[World.cell?,Ho j]at h
 exact(hk.cell k hs).trans h
def Q8(s:O)(d f l c p:Nat):Prop:=∀(k:gP)(j:Nat)(w:J),w.ownsRow j 5 1 k s.size (lx s)->y9 w->N5 w->
  Calls prog 29 #[k,.agg #[G d,G f,G l]] w λe w'=>Lu w e w' (.stop c p)
def ak1(w:J)(c p:Nat)(m o:gP)(wc:J):Prop:=∃j k,m=gI j/\o=gI k/\w.heap.size<=j/\wc.heap[j]?=some (gH #[jD,.pointer none] 68)/\kZ wc k c p/\Z [] w wc
theorem LS{p:Nat}{e:Ending}(h:Lu W e w2 (.stop c p))(hk:Z [] w W):∃k,e=iA (.tuple #[.agg #[jD,.pointer none],gI k])/\ak1 w c p (gI w2.heap.size) (gI k) (w2.alloc (gH #[jD,.pointer none] 68))/\
  (∀j,w.heap.size<=j->W.heap[j]?=some (gH #[jD,.pointer none] 68)->w2.heap[j]?=some (gH #[jD,.pointer none] 68)/\ak1 w c p (gI j) (gI k) ((w2.setCell ⟨j,0,none⟩ (jD)).setCell ⟨j,1,none⟩ (.pointer none))):=by
 obtain⟨k,rfl,u,m⟩:=h;have y:=(Z.refl [] w2).alloc (gH #[jD,.pointer none] 68);refine⟨k,rfl,⟨_,k,rfl,rfl,jZ hk.size m.size,fU w2 _,y.at u (by simp),(hk.trans m).trans y⟩,?_⟩;intro j o z;have q:=m.at z (by simp);have E:Z [j] w2 ((w2.setCell ⟨j,0,none⟩ (jD)).setCell ⟨j,1,none⟩ (.pointer none)):=((Z.refl _ _).setCell (.inl (by simp)) _).setCell (.inl (by simp)) _;refine⟨q,j,k,rfl,rfl,o,gh (gh q 0 _) 1 _,E.at u (λF=>?_),((hk.trans m).setCell (.inr o) _).setCell (.inr o) _⟩;grind[kZ]
def AL(d f l:Int)(p k:Nat):jL:=#[G d,G f,G l,jD,.bool true,G p,.iface 74 (gI k),jD,.pointer none]
def Fy(w:J)(j d f l c p k:Nat)(w':J):Prop:=w'.heap[j]?=some (gH (AL d f l p k) 70)/\kZ w' k c p/\Z [j] w w'
def Ya(j d f l:Nat)(tv:gP)(s:O)(base:Nat)(w:J)(u:w.heap[j]?=some (gH (us ((d:Int),(f:Int),(l:Int)) tv) 70))(ho:w.ownsRow base 5 1 tv s.size (lx s)){p:Nat}(hT:y9 w)(Q:N5 w)(hn:Q8 s d f l c p):
  Calls prog 19 #[gI j] w λe w'=>∃k,e=iA (.iface 74 (gI k))/\Fy w j d f l c p k w':=by
 have⟨ao,cp,htv⟩:=gz ho;subst htv;have a5:=ja u;have c0:w.cell? ⟨j,0,none⟩=some (G d):=by rw[fP u];rfl
 have c1:w.cell? ⟨j,1,none⟩=some (G f):=by rw[fP u];rfl
 have c2:w.cell? ⟨j,2,none⟩=some (G l):=by rw[fP u];rfl
 have c3:w.cell? ⟨j,3,none⟩=some (.slice ao s.size cp):=by rw[fP u];rfl
 have CI:=Cc j ((d:Int),(f:Int),(l:Int)) _ w u;have T:=(λW (hk:Z [] w W)=>hn (.slice ao s.size cp) base W (hk.ownsRow ho (λ_ _=>by simp)) (hT.fr (bm:=0) (.ib hk)) (Q.kept hk));have HX:=u;have HG:=fU w.drew (gH #[jD,.pointer none] 68);go_enter func19,ntmps19;go_wp21;refine CI.mono ?_;rintro e q⟨rfl,rfl⟩;go_wp21
 go_cut [3,4]from 8 to 19 (λv3 v4 wc=>ak1 q c p v3 v4 wc)
 case first=>
  go_region_with (go_at_call 29;first
   |(refine(T _ ((Z.refl [] q).drew)).mono ?_;intro e w2 E;obtain⟨k,rfl,h1,_⟩:=LS E ((Z.refl [] q).drew);have I:=V h1;clear h1 E)
   |(refine(T _ (((Z.refl [] q).drew).alloc _)).mono ?_;intro e w2 E;obtain⟨k,rfl,_,h2⟩:=LS E (((Z.refl [] q).drew).alloc _);have⟨h3,h4⟩:=h2 q.heap.size (ic _) HG;have q0:w2.cell? ⟨q.heap.size,0,none⟩=some (jD):=(by rw[fP h3];rfl);have q1:w2.cell? ⟨q.heap.size,1,none⟩=some (.pointer none):=(by rw[fP h3];rfl);have z0:=gx h3 0;have z1:=gx h3 1;have I:=V h4;clear h2 h3 h4 E))
  all_goals (try (go_wp21))
  all_goals (go_meet;exact I)
 case rest=>
  obtain⟨P,k,rfl,rfl,a3,Q,o,hk⟩:=hcut;have m:=hk.at HX (by simp);have e3:wc.cell? ⟨j,3,none⟩=some (.slice ao s.size cp):=by rw[fP m];rfl
  have e4:wc.cell? ⟨j,4,none⟩=some (.bool false):=by rw[fP m];rfl
  have e5:wc.cell? ⟨j,5,none⟩=some (G 0):=by rw[fP m];rfl
  have e7:wc.cell? ⟨j,7,none⟩=some (jD):=by rw[fP m];rfl
  have e8:wc.cell? ⟨j,8,none⟩=some (.pointer none):=by rw[fP m];rfl
  have t0:wc.cell? ⟨P,0,none⟩=some (jD):=by rw[fP Q];rfl
  have t1:wc.cell? ⟨P,1,none⟩=some (.pointer none):=by rw[fP Q];rfl
  have f4:=gx m 4;have f5:=gx m 5;have f7:=gx m 7;have f8:=gx m 8;have a6:P≠j:=by omega
  have a2:j≠P:=by omega
  have y:k≠j:=by
   rintro rfl;unfold kZ at o;rw[m]at o;simp at o
  have a1:=ja m;have U:=And.intro m (And.intro o hk);go_wp21
  go_cut []from 20 to 34 (λwd=>wd.heap[j]?=some (gH #[G d,G f,G l,.slice ao s.size cp,.bool true,G s.size,.nilIface,jD,.pointer none] 70)/\Z [j] wc wd)
  case first=>
   go_region
   all_goals (try (go_wp21))
   all_goals (go_meet;exact⟨gh (gh (gh (gh U.1 _ _) _ _) _ _) _ _,(((((Z.refl [j] wc).setCell (.inl (by simp)) _).setCell (.inl (by simp)) _).setCell (.inl (by simp)) _).setCell (.inl (by simp)) _).drew⟩)
  case rest=>
   have⟨hx3,hk3⟩:=hcut;have⟨m,o,hk⟩:=U;have F:kZ wc k c p:=hk3.at o (by simpa using y);have g3:wc.cell? ⟨j,3,none⟩=some (.slice ao s.size cp):=by rw[fP hx3];rfl
   have g5:wc.cell? ⟨j,5,none⟩=some (G s.size):=by rw[fP hx3];rfl
   have g6:wc.cell? ⟨j,6,none⟩=some .nilIface:=by rw[fP hx3];rfl
   have s1:wc.cell? ⟨k,1,none⟩=some (G p):=by rw[fP F];rfl
   have y3:=gx hx3 3;have y5:=gx hx3 5;have y6:=gx hx3 6;have a0:=ja hx3;have z:=y;have a4:j≠k:=λe=>z e.symm;have k4:=hk3.trans ((((Z.refl [j] wc).setCell (p:=⟨j,5,none⟩) (.inl (by simp)) (G p)).setCell (p:=⟨j,6,none⟩) (.inl (by simp)) (.iface 74 (gI k))).setCell (p:=⟨j,3,none⟩) (.inl (by simp)) (jD));have I:Hid (Fy q j d f l c p k (((wc.setCell ⟨j,5,none⟩ (G p)).setCell ⟨j,6,none⟩ (.iface 74 (gI k))).setCell ⟨j,3,none⟩ (jD))):=V ⟨gh (gh (gh hx3 5 _) 6 _) 3 _,k4.at o (by simpa using z),(hk.mono (by simp)).trans k4⟩;go_wp2;go_ret;exact⟨k,rfl,I⟩
theorem VO(j d f l:Nat)(o:gP)(s:O)(base:Nat)(w:J)(Q:w.heap[j]?=some (gH (us ((d:Int),(f:Int),(l:Int)) o) 70))(P:w.ownsRow base 5 1 o s.size (lx s)){p:Nat}(z:y9 w)(F:N5 w)(I:Q8 s d f l c p)(E:errorType w)(U:0≠j):
  Calls prog 11 #[gI j] w λe w'=>∃k,e=iA (.tuple #[G c,G p])/\Fy w j d f l c p k w':=by
 have C:=Ya j d f l o s base w Q P z F I;have u:=E;go_enter func11,ntmps11;go_wp21;refine C.mono ?_;rintro e T⟨k,rfl,m⟩;have q:=QP k (p:Int) (c:Int) T m.2.1 (u.kept m.2.2 (by grind));go_wp21;refine q.mono ?_;rintro e w2⟨rfl,hk⟩;have y:Hid (Fy w j d f l c p k w2):=by
  have⟨h1,h2,h3⟩:=m;exact V ⟨hk.at h1 (by simp),hk.at h2 (by simp),h3.trans (hk.mono (by simp))⟩
 go_wp2;go_ret2;exact⟨k,rfl,y⟩
structure W4(w:J):Prop where
 fg:y9 w
 gl:N5 w
 er:errorType w
 el:0<w.heap.size
theorem W4.kept(h:W4 w)(hk:Z [] w w'):W4 w':=⟨h.fg.fr (bm:=0) (.ib hk),h.gl.kept hk,h.er.kept hk (by simp),nr h.el hk.size⟩
attribute [local go_sem] Oper.semAt_some
def adE(j:Nat)(d f l:Int)(p k:Nat)(w:J)(m:w.heap[j]?=some (gH (AL d f l p k) 70)):
  Calls prog 20 #[gI j] w λe w'=>e=iA (.tuple #[G p,.iface 74 (gI k)])/\Z [] w w':=by
 have q:w.cell? ⟨j,4,none⟩=some (.bool true):=by rw[fP m];rfl
 have u:w.cell? ⟨j,5,none⟩=some (G p):=by rw[fP m];rfl
 have y:w.cell? ⟨j,6,none⟩=some (.iface 74 (gI k)):=by rw[fP m];rfl
 have o:=ja m;go_enter func20,ntmps20;go_wp21;go_region
 all_goals (try go_wp2)
 all_goals (try go_ret2)
 all_goals exact⟨rfl,(Z.refl [] w).drew⟩
def Zl(o:Nat)(d f l:Int)(c p k:Nat)(w:J)(F:w.heap[o]?=some (gH (AL d f l p k) 70))(u:kZ w k c p)(E:errorType w):
  Calls prog 12 #[gI o] w λe w'=>e=iA (.tuple #[G p,G c,G p])/\Z [] w w':=by
 have C:=adE o d f l p k w F;have z:=E;have HS:=u;go_enter func12,ntmps12;go_wp21;refine C.mono ?_;rintro e I⟨rfl,j⟩;have y:=QP k (p:Int) (c:Int) I (j.at HS (by simp)) (z.kept j (by simp));go_wp21;refine y.mono ?_;rintro e w2⟨rfl,q⟩;have m:=j.trans q;go_wp2;go_ret3;exact⟨rfl,m⟩
def ab9(w:J):Calls prog 24 #[jD] w λe w'=>e=iA (jD)/\w'=w:=by
 have j:=λw=>kH w 24 73 none 0 0 0 0 underlying24;go_wp2;go_ret;simp
def ZP(j:Nat)(d f l:Int)(p k:Nat)(w:J)(m:w.heap[j]?=some (gH (AL d f l p k) 70)):
  Calls prog 15 #[gI j] w λe w'=>e=iA (jD)/\Z [] w w':=by
 have o:w.cell? ⟨j,7,none⟩=some (jD):=by rw[fP m];rfl
 go_enter func15,ntmps15;go_wp21;refine(ab9 _).mono ?_;rintro e w'⟨rfl,rfl⟩;go_wp2;go_ret;exact⟨rfl,Z.refl _ _⟩
def F9(j:Nat)(d f l:Int)(p k:Nat)(w:J)(m:w.heap[j]?=some (gH (AL d f l p k) 70)):
  Calls prog 22 #[gI j] w λe w'=>e=iA (.bool false)/\w'=w:=by
 have o:w.cell? ⟨j,8,none⟩=some (.pointer none):=by rw[fP m];rfl
 go_wp2;go_ret;simp
def adO(j:Nat)(d f l:Int)(p k:Nat)(w:J)(m:w.heap[j]?=some (gH (AL d f l p k) 70)):
  Calls prog 14 #[gI j] w λe w'=>e=iA (Y kB)/\Z [] w w':=by
 go_enter func14,ntmps14;go_wp21;refine(F9 j d f l p k w m).mono ?_;rintro e o⟨rfl,rfl⟩;go_wp2;go_ret;exact⟨rfl,Z.refl _ _⟩
def adW(v:gP)(j:Nat)(d f l:Int)(p k:Nat)(w:J)(m:w.heap[j]?=some (gH (AL d f l p k) 70)):
  Calls prog 30 #[gI j,v] w λe w'=>e=qs/\w'=w:=by
 go_enter func30,ntmps30;go_wp21;refine(F9 j d f l p k w m).mono ?_;rintro e o⟨rfl,rfl⟩;go_wp2;go_end0;simp
theorem Z.putObj(h:Z S w w')(j:w.heap.size<=l)(o:Obj):Z S w (w'.putObj l o):=h.grown (nG w' l o) (λk e=>by grind)
theorem KP{P:Program}{g:Operand}{ps:Array Tmp}{assign body:Code}{Q:Exit->Act->J->Prop}{a:Act}{gf:Nat}{rv:gP}
  (I:a.eval g=.func (.func gf) #[rv] #[]) (z:∀o w,(callFunc gf o).run P w=.ok (.enter gf o) w)
  (E:∀y W,Z [] w W->Calls P gf #[rv,y] W λe w'=>(∃v,e=iA v)/\w'=W)
  (F:∀D W,Z [] w W->w.heap.size<=D->W.heap[D]?=some (.deferred (some []))->Q .normal {a with defers:={target:=.collected D,args:=#[]}::a.defers} W):
  (Code.rangeFunc g ps assign body).wpIn Fence.wide n P Q a w:=by
 refine XC ?_;intro fn _;obtain⟨j,p⟩:∃j:Loop,j={state:=.ready,pending:=none,fn,tmps:=a.tmps,params:=ps,assign,body,defers:=w.heap.size}:=⟨_,rfl⟩;obtain⟨m,k⟩:∃m,m=(w.alloc (.deferred (some []))).alloc (.loop j):=⟨_,rfl⟩;have e1:=QW (P:=P) (w:=w) fn a.tmps ps assign body;rw[<-p,<-k]at e1;have u:m.heap[w.heap.size+1]?=some (.loop j):=by
  rw[k];have:=Da (w.alloc (.deferred (some []))) (.loop j);rwa [Xu]at this
 have T:m.heap[w.heap.size]?=some (.deferred (some [])):=by
  rw[k];exact(Below.heap_alloc _ _ _ (by simp)).trans (Da w _)
 have q:Z [] w m:=by rw[k];exact((Z.refl _ _).alloc _).alloc _
 refine⟨w.heap.size+1,[{target:=.collected w.heap.size,args:=#[]}],m,{target:=.fn (.func gf) #[],args:=#[rv,.func (.yield (w.heap.size+1)) #[] #[]]},m,gf,
  #[rv,.func (.yield (w.heap.size+1)) #[] #[]],m,e1,?_,λ_ _=>trivial,?_,λh=>by simp[Fence.wide]at h,?_⟩
 .simp only[resolve,I];simp[go_sem]
 .simp[invoke,go_sem,z]
 refine callsIn_wide.2 ((E _ _ q).mono ?_);rintro e w'⟨⟨v,rfl⟩,rfl⟩;refine⟨none,_,by rw[iT u (by grind),p],(F w.heap.size _ (q.putObj (by omega) _) (ic _) ?_)⟩;grind[World.putObj_heap_other]
def acY(j:Nat)(d f l:Int)(p k:Nat)(w:J)(E:w.heap[j]?=some (gH (AL d f l p k) 70)):
  Calls prog 13 #[gI j] w λe w'=>e=iA (jD)/\Z [] w w':=by
 refine(XB (n:=3)).1 ?_;refine abz func13 rfl trivial ?_ rfl;simp only[ntmps13,abw,pG,Kk,Nat.reduceAdd,Nat.reduceSub,sR,yD,wL,yE,abu,yF];have m:Z [] w (w.alloc (.cells #[jD] 23)):=(Z.refl _ _).alloc _;have z:=fU w (gH #[jD] 23);have F:=m.at E (by simp);have Q:=E
 gi_wp2_with (refine⟨trivial,?_⟩;gi_at_call 21;refine(callsIn_wide.2 (Qf _ j)).mono ?_;rintro e w'⟨rfl,rfl⟩)
 obtain⟨q,u⟩:∃q,q=w.alloc (gH #[jD] 23):=⟨_,rfl⟩;rw[<-u]at m z F|-;have U:=(show q.heap.size=w.heap.size+1 by rw[u];simp);refine KP (gf:=30) (rv:=gI j) rfl (Go.Proofs.enters_of func30 (by rfl) rfl) ?_ ?_;intro y W hk;exact(adW y j d f l p k W (hk.at F (by simp))).mono (λe w' h=>⟨⟨_,h.1⟩,h.2⟩)
 .intro D W hk T o;have P:=fP (hk.at z (by simp)) 0;dsimp at P;have I:=m.trans hk;gi_wp2;refine⟨by simp,.inl ⟨_,_,rfl,N4 o,?_⟩⟩;exact⟨_,results_tmp rfl _ _ _,rfl,I.putObj (by omega) _⟩
theorem ajX(B b:Nat)(y:gP×Bool)(l:List UInt8)(w z:J)(h:Wu w B b y l)(I:l≠[])(o:Z [] z w)(a7:z.heap.size<=B)(P:l.length<=140737488355328):
  Calls prog 34 #[gI b] w λe w'=>e=iA (Y ⟨l.toArray⟩)/\Z [] z w':=by
 obtain⟨p,hB,v,u,q,a6⟩:∃p,bO w B b y p l:=by
  rcases h with h|h
  all_goals grind
 have a3:l.length≠0:=by simpa using I
 obtain⟨g,cap,m,rfl,a0,hg,a5,a1,a2,F⟩:∃g cap m,v=nX g l.length cap/\B<=g/\w.heap[g]?=some (gH m 5)/\l.length<=cap/\cap<=maxLen/\m.size=cap*1/\m.toList.take (l.length*1)=Lib.byteCells l:=by
  rcases q.2 with⟨_,hz⟩|⟨g,cap,m,hv,r⟩;omega;exact⟨g,cap,m,hv,r⟩
 have c1:w.drew.cell? ⟨b,1,none⟩=some (nX g l.length cap):=by
  have:w.drew.heap[b]?=some (gH #[p,nX g l.length cap,y.1,.bool y.2] 96):=u;rw[Lib.cell_of_heap this];rfl
 have a4:=ja u;have T:(Builtin.unsafeSliceData_ #[56] 139 #[nX g l.length cap]).run prog w.drew=.ok (gI g) w.drew:=
  Lib.run_unsafeSliceData_row _ _ _ _ _ _ (by omega)
 have U:(Builtin.unsafeString_ #[139,3] 9 #[gI g,G l.length]).run prog w.drew=.ok (Y ⟨l.toArray⟩) (w.drew.freeze ⟨g,0,none⟩ l.length):=by
  refine Lib.run_unsafeString_row w.drew 139 3 9 5 underlying139 rfl g m.size (by have E:w.drew.heap[g]?=some (gH m 5):=hg;simp[World.shape?,E]) l I ?_ ?_ ?_;omega;omega;intro j x hx;have:=q.cells (g:=g) rfl j (.int .u8 x.toNat) (by simp[Lib.byteCells,hx]);exact this
 have Q:Hid (Z [] z (w.drew.freeze ⟨g,0,none⟩ l.length)):=V (MG (Lib.below_freeze (Below.drew ⟨o.os,o.tape,o.output,o.size,λk hk=>o.block k hk (by simp)⟩) (p:=⟨g,0,none⟩) (by grind) _));go_enter func34,ntmps34;go_wp2;go_region
 all_goals (go_wp2;go_ret;exact⟨rfl,Q⟩)
theorem ajW(B b:Nat)(m:gP×Bool)(w U:J)(h:Wu w B b m [])(F:Z [] U w):
  Calls prog 34 #[gI b] w λe w'=>e=iA (Y kB)/\Z [] U w':=by
 obtain⟨p,hB,v,k,q,a2⟩:∃p,bO w B b m p []:=by
  rcases h with h|h
  all_goals grind
 have I:=ja k;have j:=λ(W:J) (p:Option Addr)=>Lib.run_unsafeString_none (P:=prog) (w:=W) 139 3 9 p;have u:=F;rcases q.2 with⟨rfl,_⟩|⟨g,cap,z,rfl,a1,hg,hr⟩
 .have y:w.drew.cell? ⟨b,1,none⟩=some (jD):=by
   have:w.drew.heap[b]?=some (gH #[p,jD,m.1,.bool m.2] 96):=k;rw[Lib.cell_of_heap this];rfl
  have o:(Builtin.unsafeSliceData_ #[56] 139 #[jD]).run prog w.drew=.ok (.pointer none) w.drew:=Lib.run_unsafeSliceData_nil _ _ _ _ _;have Q:=j w.drew none;go_enter func34,ntmps34;go_wp2;go_region
  all_goals (go_wp2;go_ret;exact⟨rfl,u.drew⟩)
 .have y:w.drew.cell? ⟨b,1,none⟩=some (nX g 0 cap):=by
   have:w.drew.heap[b]?=some (gH #[p,nX g 0 cap,m.1,.bool m.2] 96):=k;rw[Lib.cell_of_heap this];rfl
  by_cases T:cap=0
  .subst T;have o:(Builtin.unsafeSliceData_ #[56] 139 #[nX g 0 0]).run prog w.drew=.ok (gI w.drew.heap.size) (w.drew.alloc (.view ⟨g,0,none⟩ 5)):=by
    have E:w.drew.heap[g]?=some (gH z 5):=hg;exact Lib.run_unsafeSliceData_zero _ _ _ 5 underlying139 ⟨g,0,none⟩ 0 _ (by simp only[World.shape?,E];rfl)
   have Q:=j (w.drew.alloc (.view ⟨g,0,none⟩ 5)) (some ⟨w.drew.heap.size,0,none⟩);have a0:=j (w.alloc (.view ⟨g,0,none⟩ 5)).drew (some ⟨w.heap.size,0,none⟩);have c0:w.cell? ⟨b,1,none⟩=some (nX g 0 0):=y;have c2:(w.drew.alloc (.view ⟨g,0,none⟩ 5)).cell? ⟨b,1,none⟩=some (nX g 0 0):=by rw[XA _ _ _ I];exact y
   have HF:=u.drew.alloc (.view ⟨g,0,none⟩ 5);go_enter func34,ntmps34;go_wp2;go_region
   all_goals (go_wp2;go_ret;exact⟨rfl,HF⟩)
  .have o:(Builtin.unsafeSliceData_ #[56] 139 #[nX g 0 cap]).run prog w.drew=.ok (gI g) w.drew:=Lib.run_unsafeSliceData_row _ _ _ _ _ _ T;have Q:=j w.drew (some ⟨g,0,none⟩);go_enter func34,ntmps34;go_wp2;go_region
   all_goals (go_wp2;go_ret;exact⟨rfl,u.drew⟩)
def ajY(B b:Nat)(p:gP×Bool)(l:List UInt8)(w m:J)(h:Wu w B b p l)(j:Z [] m w)(o:m.heap.size<=B)(k:l.length<=140737488355328):
  Calls prog 34 #[gI b] w λe w'=>e=iA (Y ⟨l.toArray⟩)/\Z [] m w':=by
 by_cases q:l=[];subst q;exact ajW B b p w m h j;exact ajX B b p l w m h q j o k
def Xs(w:J)(k:Nat)(j:O)(gG:lu)(o:List Tn)(h:jQ w (.el j gG o) (.el k))(hb:sT w)(hg:N5 w)
  (y:∀vd,(∀e∈uS vd o,AJ e=true)/\xK (uS vd o)<=140737488355328):
  Calls prog 23 #[gI k] w λe w'=>e=iA (Y ⟨(ZV (uS (aY sW 1) o)).1.toArray⟩)/\Z [] w w':=by
 have C1:=DR w hb;have C2:=(λbm W (I:tP W bm (BV sW))=>aaf bm 1 sW W I (by decide) aap);have HT:=h;have HG:=hg;have HE:=y;go_enter func23,ntmps23;go_wp21;refine C1.mono ?_;rintro e w1⟨bm,rfl,I,q,_⟩;have D2:=C2 bm w1 I;go_wp21;refine D2.mono ?_;rintro e w2⟨⟨v,rfl,hv⟩,z⟩;have P:=hv.toW;have⟨kk,lb,hvv,_⟩:=hv.call;subst hvv;have m:=q.trans z;have⟨h1,H2⟩:=HE (aY sW 1);have T:=(Z.refl [] w2).alloc (gH #[.pointer none,jD,.func (.func kk) #[] lb,.bool false] 96);have Q:Wu (w2.alloc (gH #[.pointer none,jD,.func (.func kk) #[] lb,.bool false] 96)) w2.heap.size w2.heap.size (.func (.func kk) #[] lb,false) []:=.inl ⟨ic _,_,fU w2 _,pP _ _ _ _,by simp[Value.ownBlock]⟩;have a2:=Xr w2.heap.size w2.heap.size _ _ (uS (aY sW 1) o) w2 P (HG.kept m) (ic _) h1 H2;have C3:=zY a2 k j gG o (jQ.kept m HT) rfl _ T ⟨Q,xj _,by simp⟩;go_wp21;refine C3.mono ?_;rintro e w4⟨rfl,⟨U,hz,a1⟩,E⟩;have⟨p,vv,hbk,_⟩:=U.cells;have a0:=ja hbk;have C4:=ajY _ _ _ _ w4 w2 U E (ic _) (jZ hz H2);go_wp21;refine C4.mono ?_;rintro e w5⟨rfl,F⟩;have u:=m.trans F;go_wp2;go_ret;exact⟨rfl,u⟩
def ahc(w:J)(o k:Nat)(c:jL)(j:O)(gG:lu)(m:List Tn)(q:aU w o c k)(h:jQ w (.el j gG m) (.el k))(F:sT w)(I:N5 w)
  (p:∀u,(∀e∈uS u m,AJ e=true)/\xK (uS u m)<=140737488355328):
  Calls prog 14 #[gI o] w λe w'=>e=iA (Y ⟨(ZV (uS (aY sW 1) m)).1.toArray⟩)/\Z [] w w':=by
 have y:=JM w o k c q;have z:=Xs w k j gG m h F I p;have Q:=q.wA;have P:=ja q.1;go_enter func14,ntmps14;go_wp21;refine y.mono ?_;rintro e T⟨rfl,rfl⟩;go_wp21;refine z.mono ?_;rintro e w2⟨rfl,E⟩;go_wp2;go_ret;exact⟨rfl,E⟩
def Oo(s:O):kB++s=s:=by
 rfl
def XE:jL:=#[G 0,G 0,jD,Y kB,jD]
theorem AQ{base:Nat}{q:Nat}(p:w.ownsRow base e q v n xs){c:jL}(y:w.heap[b]?=some (gH c t))(o:e≠t):∀k,v.ownBlock=some k->k∉[b]:=by
 intro k hk E;rcases p.2 with⟨e2,_⟩|⟨F,j,m,e2,_,z,_⟩;rw[e2]at hk;cases hk;rw[e2]at hk;have u:=Ki hk;grind
def Iz(T:List Tn):List It:=jY (uS (λ_=>false) T)
def aU.of{j k:Nat}{d f l:Int}(h:w.heap[j]?=some (gH (EI d f l n v k) 70)):aU w j (EI d f l n v k) k:=⟨h,rfl⟩
structure Told where
 c:Nat
 p:Nat
 aN:List It
 Xg:O
 dY:List Sp
variable {X:Told}
def Lo(w:J)(X:Told)(e:Ending)(w':J):Prop:=∃q k j m o p,e=iA (.tuple #[.agg #[G X.c,G X.p,.slice q k j,Y X.Xg,.slice m o p],.bool true])/\w'.ownsRow w.heap.size 36 3 (.slice q k j) X.aN.length (sX X.aN)/\w'.ownsRow w.heap.size 73 3 (.slice m o p) X.dY.length (lN X.dY)/\Z [] w w'
def ahg(T:List Tn):O:=⟨(ZV (uS (aY sW 1) T)).1.toArray⟩
def ad8(T:List Tn):Prop:=(∀j,(∀e∈uS j T,AJ e=true)/\xK (uS j T)<=140737488355328)/\(Iz T).length<=1000000000
structure eM(n bx:Nat)(X:Told)(Ji:J->Prop):Prop where
 k0:∀{W W':J},Ji W->Z [] W W'->Ji W'
 set:∀{W:J} {R:Nat} {c:jL},n<=R->Ji W->W.heap[R]?=some (gH c 26)->∀(j:Nat)(u:gP),Ji (W.setCell ⟨R,j,none⟩ u)
 stop:∀W,Ji W->Calls prog 12 #[gI bx] W λe W'=>(∃z:Int,e=iA (.tuple #[G X.p,G X.c,G z]))/\Z [] W W'
 list:∀W,Ji W->Calls prog 13 #[gI bx] W λe W'=>∃v,e=iA v/\W'.ownsRow W.heap.size 36 3 v X.aN.length (sX X.aN)/\Z [] W W'
 text:∀W,Ji W->Calls prog 14 #[gI bx] W λe W'=>e=iA (Y X.Xg)/\Z [] W W'
 an1:∀W,Ji W->Calls prog 15 #[gI bx] W λe W'=>∃v,e=iA v/\W'.ownsRow W.heap.size 73 3 v X.dY.length (lN X.dY)/\Z [] W W'
def fF(s:O)(d f l:Nat)(w:J)(X:Told):Prop:=∀(k:Nat)(o:gP)(j:Nat)(W:J),Z [] w W->w.heap.size<k->W.heap[k]?=some (gH (us ((d:Int),(f:Int),(l:Int)) o) 70)->W.ownsRow j 5 1 o s.size (lx s)->
 Calls prog 11 #[gI k] W λe m=>(∃y:Int,e=iA (.tuple #[G X.c,G y]))/\(∃p,eM w.heap.size k X p/\p m)/\Z [k] W m
structure cW(w:J)(R1 R2:Nat)(Ji:J->Prop)(c2:jL)(W:J):Prop where
 j:Ji W
 r1:W.heap[R1]?=some (gH XE 26)
 r2:W.heap[R2]?=some (gH c2 26)
 ne:R1≠R2
 ge:w.heap.size<=R2
 kp:Z [] w W
def cW.k0{o j k:Nat}{q:J->Prop}{c2:jL}{m:J}(h:cW w j k q c2 W)(p:eM w.heap.size o X q)(hk:Z [] W m):cW w j k q c2 m:=
 ⟨p.k0 h.j hk,hk.at h.r1 (by simp),hk.at h.r2 (by simp),h.ne,h.ge,h.kp.trans hk⟩
theorem cW.set{w:J}{o m k:Nat}{X:Told}{q:J->Prop}{c2:jL}{W:J}(h:cW w m k q c2 W)(p:eM w.heap.size o X q)(j:Nat)(u:gP):cW w m k q (c2.setIfInBounds j u) (W.setCell ⟨k,j,none⟩ u):=
 ⟨p.set h.ge h.j h.r2 j u,((Z.refl [k] W).setCell (.inl (by simp)) _).at h.r1 (by grind[ne]),gh h.r2 j u,h.ne,h.ge,h.kp.setCell (.inr h.ge) _⟩
def aaM(s:O)(d f l:Nat)(w:J)(hs:s.size<=1024)(hd:4<=d/\d<=64)(hf:1<=f/\f<=32)(hl:1<=l/\l<=16)(hc:fF s d f l w X):
  Calls prog 6 #[Y s,G d,G f,G l,jD] w (Lo w X):=by
 obtain⟨c,p,P,a7,aX⟩:=X;obtain⟨Q,a2⟩:∃Q,Q=w.alloc (.cells XE 26):=⟨_,rfl⟩;have k0:Z [] w Q:=by rw[a2];exact(Z.refl _ _).alloc _
 have z0:Q.heap.size=w.heap.size+1:=by rw[a2];simp
 have r0:Q.heap[w.heap.size]?=some (gH XE 26):=by rw[a2];exact fU w _
 have CN:=V (ajg (d:Int) (f:Int) (l:Int) Q ⟨by omega,by omega,by omega,by omega,by omega,by omega⟩);have HW:=V (show w.alloc (.cells XE 26)=Q from a2.symm);unfold XE at HW;have HC:=V hc;have aI:=V k0;have HZ:=V z0;have HR:=V r0;clear a2 k0 z0 r0 hc;go_enter func6,ntmps6;go_wp2_with fail;rw[HW.out];refine CN.out.mono ?_;rintro e w1⟨rfl,ai,ar⟩;have CW:=λ(t:O) (ht:t.size<=1024)=>adj Q.heap.size ((d:Int),(f:Int),(l:Int)) (jD) ⟨#[]⟩ t w1.heap.size w1 ai (pP _ _ _ _) (by show 0+t.size<=1024;omega) (ic _);simp only[Oo]at CW;have aH:=V (CW s hs);have aF:=V CW;have aK:=V ar;have b0:=V (ja ai);clear CW ai ar CN;go_wp2_with fail;refine yB 2 ?_;rw[uE];by_cases h0:s.size=0;have e1:ByteArray.empty=s:=by apply NV;exact(Z0 h0).symm
 have hz:((ByteArray.empty).size:Int)=0:=rfl;have C0:=V (aF.out ByteArray.empty (by decide));have E1:=V e1;clear e1;go_wp2_with fail;refine C0.out.mono ?_;rintro e w2⟨rfl,u⟩;rw[E1.out]at u;have ae:=V u;clear u C0;go_wp2_with fail;clear h0 hz
 rotate_left
 go_wp2_with fail;refine aH.out.mono ?_;rintro e w2⟨rfl,u⟩;have ae:=V u;clear u;go_wp2_with fail;rw[uE];go_wp2_with fail
 all_goals
  have u:=ae.out;clear ae;obtain⟨tv,aj,aC,au,_⟩:=u;have ah:Z [] Q w2:=aK.out.next (S':=Q.heap.size::(jD).ownBlock.toList) au (by simp[Value.ownBlock]);have k3:Z [] w2 (w2.alloc (.cells #[G 0,G 0,jD,Y kB,jD] 26)):=(Z.refl _ _).alloc _;have ak:=(aI.out.trans ah).trans k3;have aE:=V (fU w2 (.cells #[G 0,G 0,jD,Y kB,jD] 26));have CC:=V (HC.out Q.heap.size tv w1.heap.size _ ak (by have:=HZ.out;omega) (k3.at aj (by simp)) (k3.ownsRow aC (λ_ _=>by simp)));have al:=V ak;have aL:=V (k3.at (ah.at HR.out (by simp)) (by simp));have ad:Q.heap.size<w2.heap.size:=ja aj;have af:=V ad;clear aj aC au ah k3 ak ad;go_wp2_with fail;refine CC.out.mono ?_;rintro e w3⟨⟨y,rfl⟩,⟨b2,hJ,hj⟩,a3⟩;have HJ:=V hJ;have V3:cW w w.heap.size w2.heap.size b2 #[G 0,G 0,jD,Y kB,jD] w3:=
   ⟨hj,a3.at aL.out (by have:=HZ.out;simp;omega),a3.at aE.out (by have:=af.out;simp;omega),by have:=HZ.out;have:=af.out;omega,by have:=HZ.out;have:=af.out;omega,al.out.next a3 (by have:=HZ.out;simp;omega)⟩
  have d0:w3.cell? ⟨w2.heap.size,0,none⟩=some (G 0):=by rw[fP V3.r2];rfl
  have f0:=gx V3.r2 0;have V4:=V3.set hJ 0 (G c);have CS:=V (hJ.stop _ V4.j);have aM:=V V4;clear hj hJ a3 V3 V4 CC;go_wp2_with fail;refine CS.out.mono ?_;rintro e w6⟨⟨z,rfl⟩,av⟩;have V6:=aM.out.k0 HJ.out av;have g0:w6.cell? ⟨w2.heap.size,0,none⟩=some (G c):=by rw[fP V6.r2];rfl
  have g1:w6.cell? ⟨w2.heap.size,1,none⟩=some (G 0):=by rw[fP V6.r2];rfl
  have y1:=gx V6.r2 1;have V7:=V6.set HJ.out 1 (G p);have CL:=V (HJ.out.list _ V7.j);have aq:=V V7;clear av V6 V7 CS;go_wp2_with fail;refine CL.out.mono ?_;rintro e w8⟨v8,rfl,a4,aw⟩;obtain⟨a8,p8,aT⟩:=gz a4;subst aT;have V8:=aq.out.k0 HJ.out aw;have g2:w8.cell? ⟨w2.heap.size,2,none⟩=some (jD):=by rw[fP V8.r2];rfl
  have y2:=gx V8.r2 2;have V9:=V8.set HJ.out 2 (.slice a8 P.length p8);have ax:(w8.setCell ⟨w2.heap.size,2,none⟩ (.slice a8 P.length p8)).ownsRow w.heap.size 36 3 (.slice a8 P.length p8) P.length (sX P):=((Z.refl [w2.heap.size] w8).setCell (.inl (by simp)) _).ownsRow (ke a4 aq.out.kp.size) (AQ a4 V8.r2 (by decide));have CX:=V (HJ.out.text _ V9.j);have aP:=V V9;have ao:=V ax;clear a4 aw V8 V9 ax CL;go_wp2_with fail;refine CX.out.mono ?_;rintro e aD⟨rfl,F⟩;have U:=aP.out.k0 HJ.out F;have g3:aD.cell? ⟨w2.heap.size,3,none⟩=some (Y kB):=by rw[fP U.r2];rfl
  have y3:=gx U.r2 3;have ag:=U.set HJ.out 3 (Y a7);have ab:=((Z.refl [w2.heap.size] aD).setCell (p:=⟨w2.heap.size,3,none⟩) (.inl (by simp)) (Y a7)).ownsRow (F.ownsRow ao.out (λ_ _=>by simp)) (AQ (F.ownsRow ao.out (λ_ _=>by simp)) U.r2 (by decide));have CT:=V (HJ.out.an1 _ ag.j);have aa:=V ag;have am:=V ab;clear F U ag ab CX;go_wp2_with fail;refine CT.out.mono ?_;rintro e j⟨b1,rfl,a1,a0⟩;obtain⟨aQ,aR,ay⟩:=gz a1;subst ay;have I:=aa.out.k0 HJ.out a0;have ac:=a0.ownsRow am.out (λ_ _=>by simp);have ap:=V (ke a1 aa.out.kp.size);generalize hlen:P.length=aA at *;generalize hlen2:aX.length=aB at *;have a9:=V hlen;have T:=V hlen2;have E:=I.r2;have k:=I.r1;have m0:j.cell? ⟨w2.heap.size,0,none⟩=some (G c):=by rw[fP E];rfl
  have m1:j.cell? ⟨w2.heap.size,1,none⟩=some (G p):=by rw[fP E];rfl
  have m2:j.cell? ⟨w2.heap.size,2,none⟩=some (.slice a8 aA p8):=by rw[fP E];rfl
  have m3:j.cell? ⟨w2.heap.size,3,none⟩=some (Y a7):=by rw[fP E];rfl
  have m4:j.cell? ⟨w2.heap.size,4,none⟩=some (jD):=by rw[fP E];rfl
  have y4:=gx E 4;have u0:j.cell? ⟨w.heap.size,0,none⟩=some (G 0):=by rw[fP k];rfl
  have u1:j.cell? ⟨w.heap.size,1,none⟩=some (G 0):=by rw[fP k];rfl
  have u2:j.cell? ⟨w.heap.size,2,none⟩=some (jD):=by rw[fP k];rfl
  have u3:j.cell? ⟨w.heap.size,3,none⟩=some (Y kB):=by rw[fP k];rfl
  have u4:j.cell? ⟨w.heap.size,4,none⟩=some (jD):=by rw[fP k];rfl
  have j0:=gx k 0;have j1:=gx k 1;have j2:=gx k 2;have j3:=gx k 3;have j4:=gx k 4;have aW:w.heap.size≠w2.heap.size:=I.ne;have az:w2.heap.size≠w.heap.size:=λh=>I.ne h.symm;have o:=V I;have an:=V ac;clear I ac E k a0 CT a1 hlen hlen2;go_wp2;refine uF (v:=.tuple #[.agg #[G c,G p,.slice a8 aA p8,Y a7,.slice aQ aB aR],.bool true]) ?_ rfl ⟨_,_,_,_,_,_,rfl,?_,?_,?_⟩
  .simp[results,results6,asAddr,Result.andThen,go_sem,u0,u1,u2,u3,u4,aW,az]
  have h7:=an.out;rw[<-a9.out]at h7;rw[<-a9.out];have h5:=AQ h7 o.out.r2 (by decide);have h6:=AQ h7 o.out.r1 (by decide);refine Z.ownsRow (S:=[w2.heap.size,w.heap.size]) (((((((Z.refl _ j).setCell (.inl (by simp)) _).setCell (.inl (by simp)) _).setCell (.inl (by simp)) _).setCell (.inl (by simp)) _).setCell (.inl (by simp)) _).setCell (.inl (by simp)) _) h7 (λq hq=>?_);have a5:=h5 q hq;have a6:=h6 q hq;simp at a5 a6|-;exact⟨a5,a6⟩;have h7:=ap.out;rw[<-T.out]at h7;rw[<-T.out];have h5:=AQ h7 o.out.r2 (by decide);have h6:=AQ h7 o.out.r1 (by decide);refine Z.ownsRow (S:=[w2.heap.size,w.heap.size]) (((((((Z.refl _ j).setCell (.inl (by simp)) _).setCell (.inl (by simp)) _).setCell (.inl (by simp)) _).setCell (.inl (by simp)) _).setCell (.inl (by simp)) _).setCell (.inl (by simp)) _) h7 (λq hq=>?_);have a5:=h5 q hq;have a6:=h6 q hq;simp at a5 a6|-;exact⟨a5,a6⟩;have m:=o.out.kp;have aS:=o.out.ge;exact(((((m.setCell (.inr aS) _).setCell (.inr (ic _)) _).setCell (.inr (ic _)) _).setCell (.inr (ic _)) _).setCell (.inr (ic _)) _).setCell (.inr (ic _)) _
theorem SP{R:Nat}{c c':jL}(h:W.heap[b]?=some (gH c t))(j:W.heap[R]?=some (gH c' 26))(m:t≠26):b∉[R]:=λk=>by
 grind
theorem YW(s:O)(d f l:Nat)(w:J)(hs:s.size<=1024)(hd:4<=d/\d<=64)(hf:1<=f/\f<=32)(hl:1<=l/\l<=16)(Q:y9 w)(U:N5 w){gG:lu}{T:List Tn}(hn:Q7 s d f l (.el nm gG T) L)(P:ad8 T):
  Calls prog 6 #[Y s,G d,G f,G l,jD] w (Lo w ⟨0,s.size,Iz T,ahg T,L⟩):=
 aaM s d f l w hs hd hf hl λm tv o W hk hb hx ho=>by
  refine(ajf m d f l tv s o W hx ho (Q.fr (bm:=0) (.ib hk)) (U.kept hk) hn).mono ?_;rintro e W'⟨rfl,v,k,I,F,z,a0,p⟩;refine⟨⟨0,rfl⟩,⟨λW=>W.heap[m]?=some _/\jQ W _ (.el k)/\W.ownsRow 0 73 3 v L.length _/\Z [] w W,⟨λ⟨a,b,c,e⟩ g=>⟨g.at a (by simp),jQ.kept g b,g.ownsRow c (λ_ _=>by simp),e.trans g⟩,λ{W R _} hR ⟨a,b,c,e⟩ E j u=>?_,λW ⟨a,_⟩=>(VS m d f l s.size k v W a).mono λ_ _ h=>⟨⟨0,h.1⟩,h.2⟩,λW ⟨a,b,_⟩=>af2 W m k _ _ _ _ (aU.of a) b (Iz T) rfl P.2,λW ⟨a,b,_,e⟩=>ahc W m k _ _ _ _ (aU.of a) b (Q.fr (bm:=0) (.ib e)).1 (U.kept e) P.1,λW ⟨a,_,c,_⟩=>amA m d f l s.size k 0 v L W a c (by omega)⟩,I,F,ke z (xj _),hk.next p (by grind)⟩,p⟩;have g:Z [R] W (W.setCell ⟨R,j,none⟩ u):=(Z.refl _ _).setCell (.inl (by simp)) _;exact⟨g.at a (SP a E (by decide)),jQ.kn (KN.j9 g (λq hq c t y ht=>by
   have e:=List.mem_singleton.1 hq;subst e;rw[E]at y;simp at y;rw[<-y.2]at ht;revert ht;decide)) b,g.ownsRow c (AQ c E (by decide)),e.setCell (.inr hR) _⟩
def YX(s:O)(d f l:Nat)(w:J)(hs:s.size<=1024)(Q:4<=d/\d<=64)(U:1<=f/\f<=32)(hl:1<=l/\l<=16)(P:y9 w)(hg:N5 w){p:Nat}(hn:Q8 s d f l c p)(E:errorType w)(T:0<w.heap.size):
  Calls prog 6 #[Y s,G d,G f,G l,jD] w (Lo w ⟨c,p,[],⟨#[]⟩,[]⟩):=
 aaM s d f l w hs Q U hl λm tv o W hk hb hx ho=>by
  refine(VO m d f l tv s o W hx ho (P.fr (bm:=0) (.ib hk)) (hg.kept hk) hn (E.kept hk (by simp)) (by omega)).mono ?_;rintro e W'⟨k,rfl,z,y,q⟩;refine⟨⟨_,rfl⟩,⟨λW=>W.heap[m]?=some (gH (AL d f l p k) 70)/\kZ W k c p/\Z [] w W,⟨λ⟨a,b,e⟩ g=>⟨g.at a (by simp),g.at b (by simp),e.trans g⟩,λ{W R _} I ⟨a,b,e⟩ F j u=>?_,λW ⟨a,b,e⟩=>(Zl m d f l c p k W a b (E.kept e (by simp))).mono λ_ _ h=>⟨⟨_,h.1⟩,h.2⟩,λW ⟨a,_⟩=>(acY m d f l p k W a).mono λ_ _ h=>⟨_,h.1,pP _ _ _ _,h.2⟩,λW ⟨a,_⟩=>adO m d f l p k W a,λW ⟨a,_⟩=>(ZP m d f l p k W a).mono λ_ _ h=>⟨_,h.1,pP _ _ _ _,h.2⟩⟩,z,y,hk.next q (by simp;omega)⟩,q⟩;have g:Z [R] W (W.setCell ⟨R,j,none⟩ u):=(Z.refl _ _).setCell (.inl (by simp)) _;exact⟨g.at a (SP a F (by decide)),g.at b (SP b F (by decide)),e.setCell (.inr I) _⟩
mutual
def NC:Tn->Nat
 | .el _ _ ks=>1+eV ks
 | .tx _=>1
 | .cm _=>1
 | .dt _=>1
def eV:List Tn->Nat
 |[]=>0
 |t::ts=>NC t+eV ts
end
def Fg(σ:N):Nat->Nd->List Nat
 |0,_=>[]
 |k+1,.el i=>i::(match σ.gU i with
  |some e=>e.kids.flatMap (Fg σ k)
  |none=>[])
 |_+1,_=>[]
def kl(σ:N)(i:Nat):Nat:=match σ.gU i with
 |some e=>e.kids.length
 |none=>0
theorem abe(f:Nd->Tn)(g:Nd->List Nat)(h:Nat->Nat):∀j:List Nd,(∀k∈j,NC (f k)<=1+((g k).map h).sum)->eV (j.map f)<=j.length+((j.flatMap g).map h).sum
 |[],_=>by simp[eV]
 |k::j,hk=>by
  have o:=abe f g h j (λx m=>hk x (abv _ m));grind[eV]
theorem ag8(σ:N):∀(k:Nat)(j:Nd),NC (DY σ k j)<=1+((Fg σ k j).map (kl σ)).sum
 |0,j=>by
  have e:DY σ 0 j=Ft:=by cases j<;>rfl
  grind[Ft,NC]
 |k+1,.el i=>by
  show NC (match σ.gU i with|some e=> .el e.name e.gR (e.kids.map (DY σ k))|none=>Ft)<=1+((i::(match σ.gU i with|some e=>e.kids.flatMap (Fg σ k)|none=>[])).map (kl σ)).sum
  cases he:σ.gU i with
  |none=>grind[Ft,NC]
  |some e=>
   have m:=abe (DY σ k) (Fg σ k) (kl σ) e.kids (λx _=>ag8 σ k x);have o:kl σ i=e.kids.length:=by unfold kl;rw[he]
   grind[NC]
 |k+1,.tx i=>by
  show NC (match σ.nodes[i]? with|some (.tx s)=> .tx s|_=>Ft)<=_
  split<;>simp[Ft,NC]
 |k+1,.cm i=>by
  show NC (match σ.nodes[i]? with|some (.cm s)=> .cm s|_=>Ft)<=_
  split<;>simp[Ft,NC]
 |k+1,.dt i=>by
  show NC (match σ.nodes[i]? with|some (.dt s)=> .dt s|_=>Ft)<=_
  split<;>simp[Ft,NC]
def DB(σ:N)(j:Nat):jj:=(σ.gU j).bind (·.ji)
def Tp(σ:N):Nat->Nat->jj
 |0,j=>some j
 |n+1,j=>(Tp σ n j).bind (DB σ)
def abn(σ:N)(n j:Nat):∀d,Tp σ (n+d) j=(Tp σ n j).bind (Tp σ d)
 |0=>by simp[Tp]
 |d+1=>by
  show(Tp σ (n+d) j).bind _=_;rw[abn σ n j d];cases Tp σ n j<;>simp[Tp]
theorem M4(k:jJ r σ){j p:Nat}(h:DB σ j=some p):r p<r j:=by
 unfold DB at h;cases he:σ.gU j with
 |none=>grind
 |some e=>rw[he]at h;exact k.uK.ji j e p he h
theorem NN(k:jJ r σ):∀(n j i:Nat),Tp σ n j=some i->r i<=r j
 |0,j,i,h=>by cases h;simp
 |n+1,j,i,h=>by
  have m:(Tp σ n j).bind _=some i:=h;cases hq:Tp σ n j with
  |none=>grind
  |some q=>
   have o:=NN k n j q hq;grind[M4]
theorem Ll(o:jJ r σ):∀(k:Nat)(i j:Nat),j∈Fg σ k (.el i)->∃n,Tp σ n j=some i
 |0,i,j,h=>by cases h
 |k+1,i,j,h=>by
  rcases List.mem_cons.1 h with rfl|m;exact⟨0,rfl⟩
  .cases he:σ.gU i with
   |none=>grind
   |some e=>
    rw[he]at m;have⟨x,hx,hj⟩:=List.mem_flatMap.1 m;cases x with
    |el c=>
     have⟨n,hn⟩:=Ll o k c j hj;have⟨ej,g1,g2⟩:=o.pc.dn i e c he (xR.2 hx);refine⟨n+1,?_⟩;show(Tp σ n j).bind _=some i;grind[DB]
    |tx c=>cases k<;>cases hj
    |cm c=>cases k<;>cases hj
    |dt c=>cases k<;>cases hj
theorem akb(p:jJ r σ){m j:Nat}(o:Tp σ n j=some c)(k:Tp σ m j=some d)(u:DB σ c=some i)(y:DB σ d=some i):c=d:=by
 have E:∀{n m c d:Nat},n<m->Tp σ n j=some c->Tp σ m j=some d->DB σ c=some i->DB σ d=some i->False:=by
  intro n m c d z o k u y;obtain⟨q,rfl⟩:∃q,m=(n+1)+q:=⟨m-(n+1),by omega⟩;rw[abn]at k;have e:Tp σ (n+1) j=some i:=by
   show(Tp σ n j).bind (DB σ)=some i;rw[o];exact u
  rw[e]at k;have F:=NN p q i d k;have I:=M4 p y;omega
 grind
def BZ(σ:N)(k:Nat):∀j:List Nd,j.flatMap (Fg σ k)=(iO j).flatMap (λc=>Fg σ k (.el c))
 |[]=>rfl
 | .el c::j=>by simp[iO];rw[BZ σ k j]
 | .tx c::j=>by
  have e:Fg σ k (.tx c)=[]:=by cases k<;>rfl
  simp[e];exact BZ σ k j
 | .cm c::j=>by
  have e:Fg σ k (.cm c)=[]:=by cases k<;>rfl
  simp[e];exact BZ σ k j
 | .dt c::j=>by
  have e:Fg σ k (.dt c)=[]:=by cases k<;>rfl
  simp[e];exact BZ σ k j
theorem Mh(o:jJ r σ)(k:Nat)(hk:∀c,(Fg σ k (.el c)).Nodup):∀j:List Nat,j.Nodup->(∀c∈j,DB σ c=some i)->(j.flatMap (λc=>Fg σ k (.el c))).Nodup
 |[],_,_=>yA
 |c::j,hn,hp=>by
  rw[Kl]at hn;refine List.nodup_append.2 ⟨hk c,Mh o k hk j hn.2 (λd m=>hp d (abv _ m)),?_⟩;grind[Ll,akb]
theorem NK(j:jJ r σ):∀(k i:Nat),(Fg σ k (.el i)).Nodup
 |0,i=>yA
 |k+1,i=>by
  show(i::(match σ.gU i with|some e=>e.kids.flatMap (Fg σ k)|none=>[])).Nodup
  cases he:σ.gU i with
  |none=>simp
  |some e=>
   have o:∀c∈iO e.kids,DB σ c=some i:=by
    intro c m;have⟨ej,g1,g2⟩:=j.pc.dn i e c he m;unfold DB;rw[g1];exact g2
   dsimp only;rw[BZ];refine List.nodup_cons.2 ⟨?_,Mh j k (λc=>NK j k c) _ (j.pc.nd i e he) o⟩;grind[Ll,NN,M4]
theorem QL:∀(l:List Nat)(L:List Nat),l.Nodup->(l.map (λi=>L.getD i 0)).sum<=L.sum
 |[],_,_=>by simp
 |i::l,L,hn=>by
  rw[Kl]at hn;have j:=QL l (L.set i 0) hn.2;grind[List.map_congr_left,Tg,List.set_eq_of_length_le]
theorem WS(f g:Nat->Nat)(h:∀i,f i<=g i):∀l:List Nat,(l.map f).sum<=(l.map g).sum
 |[]=>by simp
 |i::l=>by
  have:=WS f g h l;grind
theorem anv{l:List Nat}(h:l.Nodup):(l.map (kl σ)).sum<=wt σ:=by
 refine jZ (WS _ _ (λi=>?_) l) (QL l _ h);unfold kl;split;rename_i e j;have k:=N.jp j;grind[aO];simp
theorem amw(j:nU σ)(k i:Nat):NC (DY σ k (.el i))<=1+wt σ:=by
 have⟨r,hr⟩:=j;grind[ag8,anv,NK]
mutual
def cE(B:Nat):Tn->Prop
 | .el name gG ks=>name.size<=5000/\gG.length<=16/\(∀p∈gG,p.1.size<=5000/\p.2.size<=66000)/\dM B ks
 | .tx s=>s.size<=B
 | .cm s=>s.size<=5000
 | .dt s=>s.size<=5000
def dM(B:Nat):List Tn->Prop
 |[]=>True
 |t::ts=>cE B t/\dM B ts
end
theorem abl{B:Nat}(f:Nd->Tn):∀j:List Nd,(∀k∈j,cE B (f k))->dM B (j.map f)
 |[],_=>trivial
 |k::j,h=>⟨by grind,abl f j (λx m=>h x (abv _ m))⟩
def akY(h:NG σ):∀(k:Nat)(m:Nd),cE (wt σ) (DY σ k m)
 |0,m=>by
  exact xj _
 |k+1,.el i=>by
  show cE _ (match σ.gU i with|some e=> .el _ _ _|none=>Ft)
  cases he:σ.gU i with
  |none=>exact xj _
  |some e=>
   obtain⟨o,p,q⟩:=h.el he;exact⟨o,p,q,abl _ _ (λx _=>akY h k x)⟩
 |k+1,.tx i=>by
  show cE _ (match σ.nodes[i]? with|some (.tx s)=> .tx s|_=>Ft)
  split;rename_i s j;exact aho j;exact xj _
 |k+1,.cm i=>by
  show cE _ (match σ.nodes[i]? with|some (.cm s)=> .cm s|_=>Ft)
  split;rename_i s j;exact h.2.1 _ (ahs j);exact xj _
 |k+1,.dt i=>by
  show cE _ (match σ.nodes[i]? with|some (.dt s)=> .dt s|_=>Ft)
  split;rename_i s j;exact h.2.1 _ (ahs j);exact xj _
mutual
theorem alJ{B:Nat}(o:B<=595500)(j:O->Bool):∀t:Tn,cE B t->(∀e∈Fm j t,AJ e=true)/\xK (Fm j t)<=143000000*NC t/\(jY (Fm j t)).length<=18*NC t
 | .el name gG ks,h=>by
  have⟨h1,h2,h3,h4⟩:=h;have⟨g1,g2,g3⟩:=RW o j ks h4;have p:AJ (.enter name gG)=true:=by
   simp only[AJ,xh,abB,qp];exact⟨⟨h2,h3⟩,h1⟩
  have q:AJ (.xg name)=true:=by simpa [AJ]using h1
  unfold Fm NC;split;refine⟨λe k=>?_,?_,?_⟩;grind;simp[xK,TO];omega;simp[jY,uZ];omega;refine⟨λe k=>?_,?_,?_⟩;grind;have e:xK (.enter name gG::(uS j ks++[.xg name]))=(6000+16*6000000)+(xK (uS j ks)+6000):=by simp[xK,TO]
  omega;have e:(jY (.enter name gG::(uS j ks++[.xg name]))).length=(1+gG.length)+((jY (uS j ks)).length+1):=by simp[jY,uZ];omega
  omega
 | .tx s,h=>by
  have m:s.size<=B:=h;refine⟨λe k=>?_,?_,?_⟩;rw[List.mem_singleton.1 k];simp[AJ];omega;simp[Fm,xK,TO,NC];omega;simp[Fm,jY,uZ,NC]
 | .cm s,h=>by
  have m:s.size<=5000:=h;refine⟨λe k=>?_,?_,?_⟩;rw[List.mem_singleton.1 k];simp[AJ];omega;simp[Fm,xK,TO,NC];simp[Fm,jY,uZ,NC]
 | .dt s,h=>by
  have m:s.size<=5000:=h;refine⟨λe k=>?_,?_,?_⟩;rw[List.mem_singleton.1 k];simp[AJ];omega;simp[Fm,xK,TO,NC];simp[Fm,jY,uZ,NC]
theorem RW{B:Nat}(m:B<=595500)(k:O->Bool):∀j:List Tn,dM B j->(∀e∈uS k j,AJ e=true)/\xK (uS k j)<=143000000*eV j/\(jY (uS k j)).length<=18*eV j
 |[],_=>⟨(λe o=>by cases o),(by simp[uS,xK]),(by simp[uS,jY])⟩
 |t::j,h=>by
  have⟨a1,a2,a3⟩:=alJ m k t h.1;have⟨b1,b2,b3⟩:=RW m k j h.2;unfold uS eV;refine⟨λe o=>?_,?_,?_⟩;grind;grind[xK];grind[jY]
end
theorem aeX(o:nU σ)(p:NG σ)(y:wt σ<=595500)(K:Nat):∃nm gG T,DY σ (K+1) (.el 0)=.el nm gG T/\ad8 T:=by
 have⟨r,hv⟩:=o;have⟨e,he⟩:=Option.isSome_iff_exists.1 hv.wA;have j:DY σ (K+1) (.el 0)=.el e.name e.gR (e.kids.map (DY σ K)):=by
  show(match σ.gU 0 with|some e=>Tn.el _ _ _|none=>Ft)=_
  rw[he]
 have k:=amw ⟨r,hv⟩ (K+1) 0;have m:=akY p (K+1) (.el 0);rw[j]at k m;have q:=m.2.2.2;have u:1+eV _<=1+wt σ:=k;refine⟨_,_,_,j,λz=>?_,?_⟩;grind[RW];grind[RW,Iz]
def TX(s:O)(X:Told):Prop:=(∃c p,Q8 s 64 32 16 c p/\X=⟨c,p,[],⟨#[]⟩,[]⟩)\/∃nm gG T L,Q7 s 64 32 16 (.el nm gG T) L/\ad8 T/\X=⟨0,s.size,Iz T,ahg T,L⟩
theorem TX.one(hs:s.size<=1024)(h:TX s X):∀w,W4 w->Calls prog 6 #[Y s,G 64,G 32,G 16,jD] w (Lo w X):=by
 intro w j;rcases h with⟨c,p,k,rfl⟩|⟨nm,gG,T,L,k,m,rfl⟩;exact YX s 64 32 16 w hs (by omega) (by omega) (by omega) j.fg j.gl k j.er j.el;exact YW s 64 32 16 w hs (by omega) (by omega) (by omega) j.fg j.gl k m
def ab1(s:O)(w:J)(hs:1024<s.size)(j:s.size<=140737488355328):
  Calls prog 4 #[Y s] w λe w'=>e=iA (.tuple #[.agg #[G 0,G 0,jD,Y kB,jD],.bool false,.bool true])/\Z [] w w':=by
 go_enter func4,ntmps4;go_wp2;refine uF (v:=.tuple #[.agg #[G 0,G 0,jD,Y kB,jD],.bool false,.bool true]) ?_ rfl ⟨rfl,?_⟩
 .simp[results,results4,asAddr,Result.andThen,go_sem]
 exact(Z.refl [] w).alloc _
def amY(w:J)(X:Told)(e:Ending)(w':J):Prop:=∃q k j m o p,e=iA (.tuple #[.agg #[G X.c,G X.p,.slice q k j,Y X.Xg,.slice m o p],.bool (decide (X.c=0)),.bool true])/\(X.c=0->w'.ownsRow w.heap.size 73 3 (.slice m o p) X.dY.length (lN X.dY)/\w'.ownsRow w.heap.size 36 3 (.slice q k j) X.aN.length (sX X.aN))/\Z [] w w'
theorem alo(s:O)(w:J)(hs:s.size<=1024)(hw:W4 w)(hX:(X.c≠0/\X.p<=s.size/\X.aN=[]/\X.Xg=⟨#[]⟩/\X.dY=[])\/X.c=0)(hC:∀w,W4 w->Calls prog 6 #[Y s,G 64,G 32,G 16,jD] w (Lo w X)):
  Calls prog 4 #[Y s] w (amY w X):=by
 obtain⟨T,E⟩:∃T,T=w.alloc (.cells #[G 0,G 0,jD,Y kB,jD] 26):=⟨_,rfl⟩;have k0:Z [] w T:=by rw[E];exact(Z.refl _ _).alloc _
 have z0:T.heap.size=w.heap.size+1:=by rw[E];simp
 have r0:T.heap[w.heap.size]?=some (gH #[G 0,G 0,jD,Y kB,jD] 26):=by rw[E];exact fU w _
 have CR:=V (hC T (hw.kept k0));have HW:=V E.symm;have U:=V k0;have HR:=V r0;have HZ:=V z0;have HX:=V hX;clear E k0 r0 z0 hw hC hX;go_enter func4,ntmps4;go_wp21;rw[HW.out];refine CR.out.mono ?_;rintro e w1⟨va,na,ca,ta,tb,tc,rfl,q,u,o⟩;have⟨c,p,aN,Xg,dY⟩:=X;dsimp only at q u|-;rcases HX.out with⟨Q,hp,hi,ht,a0⟩|Q
 .dsimp only at Q hp hi ht a0;subst hi ht a0;have k:na=0:=by have⟨_,_,e0⟩:=gz q;exact(Tz e0).2.1
  have a3:tb=0:=by have⟨_,_,e0⟩:=gz u;exact(Tz e0).2.1
  subst k a3;have a5:(c:Int)≠0:=by omega
  have a6:(p:Int)<=(s.size:Int):=by omega
  have j:=o.at HR.out (by simp);have u0:=fP j 0;have u1:=fP j 1;have u2:=fP j 2;have u3:=fP j 3;have u4:=fP j 4;have j0:=gx j 0;have j1:=gx j 1;have j2:=gx j 2;have j3:=gx j 3;have j4:=gx j 4;dsimp at u0 u1 u2 u3 u4;have I:=ja j;have P:w.heap.size≠w1.heap.size:=by omega
  have z:w1.heap.size≠w.heap.size:=by omega
  have F:=V (U.out.trans o);have a4:=V Q;clear o j q u Q CR;go_wp21;go_region
  all_goals (try go_wp2)
  all_goals
   refine uF (v:=.tuple #[.agg #[G c,G p,.slice va 0 ca,Y kB,.slice ta 0 tc],.bool false,.bool true]) ?_ rfl ⟨va,0,ca,ta,0,tc,?_,?_,?_⟩
   .simp[results,results4,asAddr,Result.andThen,go_sem,u0,u1,u2,u3,u4,P,z,I]
   simp_all;grind
   .have m:=F.out
    first
     |exact(((((((m.setCell (.inr (ic _)) _).setCell (.inr (ic _)) _).setCell (.inr (ic _)) _).setCell (.inr (ic _)) _).setCell (.inr (ic _)) _).alloc _).drew)
     |exact(((((((m.setCell (.inr (ic _)) _).setCell (.inr (ic _)) _).setCell (.inr (ic _)) _).setCell (.inr (ic _)) _).setCell (.inr (ic _)) _).drew).alloc _)
     |exact(((((((m.alloc _).drew.setCell (.inr (ic _)) _).setCell (.inr (ic _)) _).setCell (.inr (ic _)) _).setCell (.inr (ic _)) _).setCell (.inr (ic _)) _))
 .dsimp only at Q;subst Q;have j:=o.at HR.out (by simp);have u0:=fP j 0;have u1:=fP j 1;have u2:=fP j 2;have u3:=fP j 3;have u4:=fP j 4;have j0:=gx j 0;have j1:=gx j 1;have j2:=gx j 2;have j3:=gx j 3;have j4:=gx j 4;dsimp at u0 u1 u2 u3 u4;have I:=ja j;have P:w.heap.size≠w1.heap.size:=by omega
  have z:w1.heap.size≠w.heap.size:=by omega
  have F:=V (U.out.trans o);have a2:=V u;have a1:=V q;have k:(Value.slice va na ca).ownBlock≠some w.heap.size:=λh=>by have:=(q.lt _ h).1;have:=HZ.out;omega
  have y:(Value.slice ta tb tc).ownBlock≠some w.heap.size:=λh=>by have:=(u.lt _ h).1;have:=HZ.out;omega
  clear o j q u CR;go_wp2;refine uF (v:=.tuple #[.agg #[G 0,G p,.slice va na ca,Y Xg,.slice ta tb tc],.bool true,.bool true]) ?_ rfl ⟨va,na,ca,ta,tb,tc,rfl,?_,?_⟩
  .simp[results,results4,asAddr,Result.andThen,go_sem,u0,u1,u2,u3,u4,P,z,I]
  intro _;have:=HZ.out;exact⟨ke (World.ownsRow.alloc (rF (rF (rF (rF (rF a2.out y _) y _) y _) y _) y _) _) (by omega),
   ke (World.ownsRow.alloc (rF (rF (rF (rF (rF a1.out k _) k _) k _) k _) k _) _) (by omega)⟩
  have m:=F.out;exact((((((m.setCell (.inr (ic _)) _).setCell (.inr (ic _)) _).setCell (.inr (ic _)) _).setCell (.inr (ic _)) _).setCell (.inr (ic _)) _).alloc _)
theorem aey(h:a<=b):(gG s a).length<=(gG s b).length:=by
 induction b with
 |zero=>grind
 |succ b ih=>
  rcases D0 b a with j|j;grind
  .cases hk:Bj s b<;>grind[XT,KY]
theorem ah4{j:Nat}:j<(gG s n).length->∃c,c<n/\Bj s c=true/\(gG s c).length=j/\(gG s n)[j]?=some c:=by
 induction n with
 |zero=>simp[gG]
 |succ n ih=>
  cases hk:Bj s n<;>grind[XT,KY]
theorem aeV{j:Nat}(h:j<(vA s).size):∃c,c<s.size/\Bj s c=true/\(gG s c).length=j/\kG s j=c/\bt (vA s) j=dU s c:=by
 rw[vN]at h;have⟨c,h1,h2,h3,h4⟩:=ah4 h;refine⟨c,h1,h2,h3,?_,?_⟩;grind[kG];unfold bt;rw[Jg _];show(((((gG s _).map (dq s)).toArray)[j]'(by grind)).toNat:Int)=_;grind[Px]
theorem LV(s:O):kG s (vA s).size=s.size:=by
 grind[vN,kG]
theorem alz{j:Nat}(m:i<j)(o:j<=(vA s).size):kG s i<kG s j:=by
 have⟨c,h1,_,h3,h4,_⟩:=aeV (s:=s) (j:=i) (by omega);rw[h4];rcases D0 j (vA s).size with k|k;have⟨d,_,_,g3,g4,_⟩:=aeV k;rw[g4];rcases D0 c d with h|h;exact h;have:=aey (s:=s) h;omega;grind[LV]
theorem aly(h:i<=(vA s).size):kG s i<=s.size:=by
 rcases D0 i (vA s).size with j|j;have:=alz j (ic _);grind[LV];grind[LV]
def SO(hs:s.size<=1024)(k:d<=64)(m:f<=32){p:Nat}(h:AO d f l s=.stop c p):p<=s.size:=by
 have j:=Dr d f l s hs k m;rw[h]at j;obtain⟨q,_,o,rfl⟩:=j;exact aly o
theorem ZQ(j:nU σ):∃r K,jJ r σ/\(∀i,i<σ.nodes.length->r i<K)/\∀(E:Env)(f:Nat->Nat)(w:J),RF E f σ w->jQ w (DY σ (K+1) (.el 0)) (.el (f 0)):=by
 have⟨r,hv⟩:=j;have⟨B,hB⟩:=BQ r σ.nodes.length;refine⟨r,B+1,hv,by grind,λE f w h=>?_⟩;obtain⟨L,rfl,k⟩:=h;refine aaH k hv hB _ _ hv.wA ?_ (by omega);omega
theorem alL(d f l:Nat)(s:O)(hs:s.size<=1024)(F:d<=64)(I:f<=32)(T:l<=16){j:N}(h:AO d f l s=.done j L)(hr:jJ r j)(E:∀i,i<j.nodes.length->r i<K):∃h H,Ln 16 h K r H j:=by
 have o:=Dr d f l s hs F I;rw[h]at o;have⟨_,_,_,_,_,k,_⟩:=o;have m:=QA d f l s hs T h;have⟨U,H,Q,h1,h2,h3⟩:=adr d f l s hs h;have he:6<=EM j.mode j.kept:=by
  unfold EM;split
  .rename_i g;rcases g with g|g
   .rcases k with k|k<;>omega
   grind[GO.k8]
  .rcases k with k|k<;>omega
 obtain⟨P,rfl,u,y,q,z⟩:=h3.hi (by omega);rw[Xx (by omega),Xx (by omega)]at q;refine⟨P,H,h1.ti,u,y,q,z,λi e p=>?_,hr,E,λi e p hp=>(m.2.2 i e p hp).elim id (λh=>by cases h)⟩;have:=m.2.1 _ (ahs (N.jp p));exact this.2.1
structure XJ(X:Told):Prop where
 XV:X.aN.length<=1000000000
 law:∃nm f,Hs 16 X.aN ⟨[Hr],[],[],false⟩ ⟨[Hr],[fN,fY,fR],nm,f⟩
theorem XJ.ne(h:XJ X):X.aN≠[]:=by
 intro e;have⟨nm,f,h⟩:=h.law;rw[e]at h;cases(h)
theorem amz(s:O)(hs:s.size<=1024):∃X,((X.c≠0/\X.p<=s.size/\X.aN=[]/\X.Xg=⟨#[]⟩/\X.dY=[])\/(X.c=0/\XJ X))/\TX s X:=by
 have m:=Dr 64 32 16 s hs (by omega) (by omega);cases h:AO 64 32 16 s with
 |stuck=>rw[h]at m;exact m.elim
 |stop c p=>
  exact⟨⟨c,p,[],⟨#[]⟩,[]⟩,.inl ⟨We 64 32 16 s hs (by omega) h,SO hs (by omega) (by omega) h,rfl,rfl,rfl⟩,.inl ⟨c,p,λz j w y o u=>((QB s z j 64 32 16 w y hs (by omega) (by omega) (by omega) o u).mono (λe w' q=>by grind)),rfl⟩⟩
 |done fin L=>
  rw[h]at m;have⟨g1,g2,_⟩:=m;have hw:wt fin<=595500:=by
   have I:wt fin<=Hq fin:=amI _ _;have P:=aeg (d:=64) (f:=32) (l:=16) (a:=0);have Q:=FQ s;have U:(vB s ((16:Nat)) .nilFunc 0).cs.size=(vA s).size:=rfl;omega
  have⟨r,K,q,hb,hK⟩:=ZQ g1.iv;have⟨nm,gG,T,o,hD⟩:=aeX g1.iv (QA 64 32 16 s hs (by omega) h) hw K;have⟨hh,H,F⟩:=alL 64 32 16 s hs (by omega) (by omega) (by omega) h q hb;refine⟨⟨0,s.size,Iz T,ahg T,L⟩,.inr ⟨rfl,hD.2,(aiw F o)⟩,.inr ⟨nm,gG,T,L,λz j w y o u=>((QB s z j 64 32 16 w y hs (by omega) (by omega) (by omega) o u).mono λe w' q=>?_),hD,rfl⟩⟩;rw[h]at q;have⟨v,k,E,fl,I,P,Q,U,h5,h6⟩:=q;grind[aen]
theorem YB(s:O)(w:J)(hs:s.size<=140737488355328)(Q:W4 w):
  Calls prog 3 #[Y s] w λe w'=>e=iA (.bool true)/\Z [] w w':=by
 by_cases m:1024<s.size
 .have C:=V (ab1 s w m hs);clear Q;go_enter func3,ntmps3;go_wp21;refine C.out.mono ?_;rintro e T⟨rfl,j⟩;have q:=V (j.alloc (.cells #[G 0,G 0,jD,Y kB,jD] 26));clear j C;go_wp2;go_ret;exact⟨rfl,q.out⟩
 .have⟨X,hX,hTX⟩:=amz s (by omega);have hC:=hTX.one (by omega);have C:=V (alo s w (by omega) Q (hX.imp id And.left) hC);have U:=V hX;clear Q hC hX hTX;go_enter func3,ntmps3;go_wp21;refine C.out.mono ?_;rintro e T⟨va,na,I,ta,tb,tc,rfl,k,j⟩;have⟨c,p,aN,Xg,dY⟩:=X;dsimp only at k|-;rcases U.out with⟨o, -⟩|⟨o,hF⟩
  .dsimp only at o;rw[qW o];have q:=V (j.alloc (.cells #[G c,G p,.slice va na I,Y Xg,.slice ta tb tc] 26));clear j C k o;go_wp2;go_ret;exact⟨rfl,q.out⟩
  .dsimp only at o;subst o;replace k:=(k rfl).2;rw[Hl rfl];have E:Z [] T (T.alloc (.cells #[G 0,G p,.slice va na I,Y Xg,.slice ta tb tc] 26)):=(Z.refl _ _).alloc _;have q:=V (j.trans E);have f2:=hF.ne;have⟨f1,nm,f,f3⟩:=hF;dsimp only at f1 f2 f3;rcases k.2 with⟨e1,h0⟩|⟨g,cap,a0,e1,P,u,_⟩;grind
   .obtain⟨rfl,rfl,rfl⟩:=Tz e1;have y:=ja u;have CT:=V (aiO g I aN 16 _ ((afP k).kept E y) (nr y E.size) f1 (by decide) f3);clear j C k E P u e1 U f1 f2 f3;go_wp21;refine CT.out.mono ?_;rintro e w2⟨rfl,z⟩;have F:=V (q.out.trans z);clear z;go_wp2;go_ret;exact⟨rfl,F.out⟩
end
end Go.Proofs.YtdbbknopdbpfaaaGreatDoor
