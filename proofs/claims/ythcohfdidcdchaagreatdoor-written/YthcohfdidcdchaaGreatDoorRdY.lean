import Derived.Test.YthcohfdidcdchaaGreatDoorRdG
set_option linter.unusedSimpArgs false
set_option linter.unusedVariables false
set_option linter.defProp false
set_option maxHeartbeats 0
set_option maxRecDepth 100000
namespace Go.Proofs.YthcohfdidcdchaaGreatDoor
open Go.RowKit Go.PlainAid Go.Extern.Stop Go.Stop Go.Extern Tryz
def xN:=@World.frozen?_alloc_old
def yE:=@cell_of_one
section
variable {B a b bB bg bm bs bx c cap d f g i l lg n ps r : Nat} {C : jA} {D : Tn} {L : List Sp} {P : Ru->Bool} {R : RC} {S : List Nat} {W w w' w2 wl : gm} {cut : Nat->Nat} {e : TypeId} {look : fY->Option fY} {nm s : fY} {v : gG} {xs : List gG} {σ : Ab}
inductive Jt where
 |stop
 |lost
 |whole (e:Nat) (L:la)
def jf (R:RC) (ps:Nat):Nat:=scan (λc=>!jq ⟨#[32,9,10,12,47]⟩ c) R.cs ps
def ZS (h:ps<=R.cs.size):jf R ps<=R.cs.size:=p6 h
def tP:ps<=jf R ps:=us
def mf (R:RC) (look:fY->Option fY) (lg:Nat) (L:la) (ps:Nat):Jt:=
 if h:jf R ps < R.cs.size then
  if pre (R.cs.extract (jf R ps) R.cs.size) iO=true then .whole (jf R ps+1) L
  else if Af R (L.map (·.1)) (jf R ps)=true then .stop
  else mf R look lg (rV R look lg L (jf R ps)) (qc R (ky R (jf R ps)))
 else .lost
  termination_by R.cs.size - ps
  decreasing_by
 have j:=tP (R:=R) (ps:=ps);have k:=xz (R:=R) (ps:=jf R ps);have m:=zn (R:=R) (ps:=ky R (jf R ps));omega
def zf (R:RC) (ps:Nat):Nat:=scan (jq jm) R.cs ps
def af0 (h:ps<=R.cs.size):zf R ps<=R.cs.size:=p6 h
def afZ:ps<=zf R ps:=us
theorem Ir {L : la}:(rV R look lg L ps).length<=L.length+1:=by
 unfold rV vT;grind
def zg (R:RC) (ps:Nat):fY:=ph (small (R.cs.extract ps (zf R ps)))
def Rd.qY (h:Rd w r R bg ps) {p : Addr} (j:p.block≠r) (u:gG):Rd (w.setCell p u) r R bg ps:=(Below.heap_setCell w p u r (λe=>j e.symm)).trans h
theorem Z3 {base : Nat} {q : Nat} (p:w.ownsRow base e q v n xs) {c : jA} {t : TypeId} (u:w.heap[b]?=some (gz c t)) (o:e≠t):∀k,v.ownBlock=some k->k≠b:=by
 rintro k h rfl;rcases p.2 with⟨e2,_⟩|⟨y,j,m,e2,_,x,_⟩
 .rw[e2]at h;cases h
 .rw[e2]at h;obtain rfl:=jv h;grind
def Wz (w:gm) (r:Nat) (R:RC) (bg:Nat) (cut:Nat->Nat) (nm:fY) (e:Ending) (w':gm):Jt->Prop
 | .stop=>∃k,e= .panicked [{v:= .iface 73 (gE k),recovered:=false}]/\Wb w' k 7 (cut bg)/\w.heap.size<=k/\Kept [r] w w'
 | .lost=>e=ig (.tuple #[.agg #[fV 0,fV 0,gu jB,ji],.bool false])/\Kept [r] w w'/\Rd w' r R bg R.cs.size
 | .whole m L=>(∃h j,e=ig (.tuple #[.agg #[fV (cut bg),fV (cut m),gu nm,.slice h L.length j],.bool true])/\w'.ownsRow w.heap.size 293 2 (.slice h L.length j) L.length (sq L))/\Kept [r] w w'/\Rd w' r R bg m
theorem XW (r:Nat) (R:RC) (bg ps g cap b lg:Nat) (look:fY->Option fY) (cut:Nat->Nat) (w:gm) (h:Rd w r R bg ps) (hA:M5 w r R g cap cut) (hN:Nm w r R b lg look) (hG:Gl w r)
  (hb:bg<=R.cs.size) (hp:ps<=R.cs.size) (hs:R.cs.size<=1024):
  Calls prog 244 #[gE r] w λe w'=>Wz w r R bg cut (zg R ps) e w' (mf R look lg [] (zf R ps)):=by
 obtain⟨O,HO⟩:∃O,O=mf R look lg [] (zf R ps):=⟨_,rfl⟩;rw[<-HO];obtain⟨nm,a5⟩:∃nm,nm=zg R ps:=⟨_,rfl⟩;rw[<-a5];have a0:ph (small (R.cs.extract ps (scan (jq jm) R.cs ps)))=nm:=a5.symm;have ay:=fM a0;clear a5 a0;have hr:=iQ h;obtain⟨E,U⟩:∃E,E=w.alloc (.cells #[fV 0,fV 0,gu jB,ji] 189):=⟨_,rfl⟩;have ae:E.heap[w.heap.size]?=some (gz #[fV 0,fV 0,gu jB,ji] 189):=by rw[U];exact fP w _
 have G:Kept [] w E:=by rw[U];exact(Kept.refl _ _).alloc _
 have z0:E.heap.size=w.heap.size+1:=by rw[U];simp
 have ai:=h.kept G (by simp);have ha:=af0 (R:=R) hp;have CU:=Ai r R bg ps jm E ai hp hs;have HA:=hA.kept (G.mono (by simp));have HN:=hN.kept (G.mono (by simp));have HG:=hG.kept (G.mono (by simp));have HW:=fM U.symm;have ak:(R.cs.extract ps (scan (jq jm) R.cs ps)).size<=1048576:=by simp;omega
 have J:=fM z0;clear h hA hN hG U z0 ai;go_enter func244,ntmps244;go_wp21;rw[HW.out];refine(pD _ E).mono ?_;rintro e w1 ⟨rfl,rfl⟩;go_wp21;refine CU.mono ?_;rintro e w2 ⟨rfl,aa,aq⟩;have aA:Hid (Rd w2 r R bg (zf R ps)):=aq;have CR:=zV r _ w2 ak (HG.kept aa);clear aq CU ak;go_wp21;refine CR.mono ?_;rintro e K ⟨rfl,a3⟩;have ab:=aa.trans (a3.mono (by simp));have aB:=aA.out.kept a3 (by simp);clear a3 CR;rw[ay.out];obtain⟨w4,Z⟩:∃w4,w4=K.alloc (.cells #[fV 0,fV 0,gu nm,ji] 189):=⟨_,rfl⟩;have a8:Kept [] K w4:=by rw[Z];exact(Kept.refl _ _).alloc _
 have aE:Hid (Cm w4 E.heap.size K.heap.size 0 0 nm (ji) []):=⟨by rw[Z];exact fP K _,pk _ _ _ _⟩;have aw:=ab.trans (a8.mono (by simp));have aC:=aB.kept a8 (by simp);have o:=ab.size;have aG:=fM Z.symm;clear a8 Z;go_wp21;rw[aG.out]
 go_loopw [] (λwr=>∃(i:Nat) (av:gG) (L:la),i<=R.cs.size/\L.length<=i/\mf R look lg L i=O/\Cm wr E.heap.size K.heap.size 0 0 nm av L/\Kept [r] E wr/\Rd wr r R bg i) (λwr=>R.cs.size - (match wr.cell? ⟨r,3,none⟩with|some v=>(intOf v).toNat|none=>0))
 case atStart=>exact⟨zf R ps,_,[],ha,iM _,HO.symm,aE.out,aw,aC⟩
 case round=>
  have⟨i,av,L,hi,hLi,htg,HT,HKW,hrd⟩:=hrel;have X:=fM htg;have CP:=wQ r R bg i ⟨#[32,9,10,12,47]⟩ wr hrd hi hs;have P0:=hrd.ps;have an:=ZS (R:=R) hi;have aN:=tP (R:=R) (ps:=i);clear htg hrd;go_wp21;refine CP.mono ?_;rintro e w5 ⟨rfl,a4,a6⟩;have a2:Hid (Rd w5 r R bg (jf R i)):=a6;have V:=HKW.trans a4;have ag:=HT.kept a4 (by have:=J.out;omega) o;have CE:=pq r R bg (jf R i) w5 a6;clear a4 a6 CP;by_cases N:jf R i=R.cs.size
  .have eO:O= .lost:=by rw[<-X.out,mf,dif_neg (by omega)]
   have EO:=fM eO;have e3:decide (jf R i=R.cs.size)=true:=by simp[N]
   rw[e3]at CE;have I:=fM CE;have t:=V.at ae (by simp;omega);have d0:=fN t 0;have d1:=fN t 1;have d2:=fN t 2;have d3:=fN t 3;have f0:=gh t 0;have f1:=gh t 1;have f2:=gh t 2;have f3:=gh t 3;dsimp at d0 d1 d2 d3;clear CE e3 eO t;go_wp21;refine I.out.mono ?_;rintro e w6 ⟨rfl,q,rfl⟩;go_wp2;have ac:=(G.mono (S':=[r]) (by simp)).trans V;have z:w.heap.size≠r:=by omega
   rw[EO.out];refine ou (v:= .tuple #[.agg #[fV 0,fV 0,gu jB,ji],.bool false]) ?_ rfl ⟨rfl,?_,?_⟩
   .simp[results,results244,asAddr,Result.andThen,go_sem,d0,d1,d2,d3]
   .exact((((ac.drewN q).setCell (.inr (gL _)) _).setCell (.inr (gL _)) _).setCell (.inr (gL _)) _).setCell (.inr (gL _)) _
   .have h6:Rd (w5.drewN q) r R bg R.cs.size:=by rw[<-N];exact a2.out
    exact(((h6.qY z _).qY z _).qY z _).qY z _
  .have e3:decide (jf R i=R.cs.size)=false:=by simp[N]
   have Q:jf R i < R.cs.size:=by omega
   rw[e3]at CE;have I:=fM CE;clear CE e3;cases hgt:pre (R.cs.extract (jf R i) R.cs.size) iO
   .have T:taken R iO (jf R i)=jf R i:=by unfold taken;rw[gH (by simp[hgt])]
    have F:=λq=>lR r R bg (jf R i) iO (w5.drewN q) (show Rd (w5.drewN q) r R bg _ from a2.out) an hs (by decide);rw[hgt,T]at F;clear T;go_wp21;refine I.out.mono ?_;rintro e w6 ⟨rfl,q,rfl⟩;go_wp21;refine(F q).mono ?_;rintro e w7 ⟨rfl,H,ar⟩;have A:=(V.drewN q).trans H;have aj:=(ag.kept ((Kept.refl [r] w5).drewN q) (by have:=J.out;omega) o).kept H (by have:=J.out;omega) o;have CA:=L7 r K.heap.size R bg (jf R i) g cap b lg look cut 0 0 nm av L E w7 A (by have:=J.out;omega) o ar (HA.kept A) (HN.kept A) (HG.kept A) aj hb Q hs (by omega);clear H ar aj F I;go_wp21;refine CA.mono ?_;intro e w8 y;by_cases Y:Af R (L.map (·.1)) (jf R i)=true
    .rw[gv Y]at y;obtain⟨k,rfl,au,aO,m⟩:=y;have eO:O= .stop:=by rw[<-X.out,mf,Qz Q,gH (by simp[hgt]),gv Y]
     have HF:Hid (Wz w r R bg cut nm (.panicked [{v:= .iface 73 (gE k),recovered:=false}]) w8 O):=by
      rw[eO];exact⟨k,rfl,au,by have:=J.out;omega,(G.mono (S':=[r]) (by simp)).trans m⟩
     clear au m eO CA;go_wp2;exact⟨rfl,HF.out⟩
    .rw[gH Y]at y;obtain⟨rfl,aH,j,m,a7⟩:=y;have ah:mf R look lg (rV R look lg L (jf R i)) (qc R (ky R (jf R i)))=O:=by
      rw[<-X.out,mf.eq_1 R look lg L i,Qz Q,gH (by simp[hgt]),gH Y]
     have aI:=Ir (R:=R) (look:=look) (lg:=lg) (L:=L) (ps:=jf R i);have h2:=xz (R:=R) (ps:=jf R i);have h3:=zn (R:=R) (ps:=ky R (jf R i));have h4:=aaa (R:=R) (KR (R:=R) Q);have af:Hid (∃(i':Nat) (av:gG) (L:la),i'<=R.cs.size/\L.length<=i'/\mf R look lg L i'=O/\Cm w8 E.heap.size K.heap.size 0 0 nm av L/\Kept [r] E w8/\Rd w8 r R bg i'):=
      ⟨_,aH,_,h4,by omega,ah,j,m,a7⟩
     have P8:=a7.ps;have ap:R.cs.size - qc R (ky R (jf R i)) < R.cs.size - i:=by omega
     clear j m a7 ah aI CA h2 h3 h4;go_wp2;go_roundw
     case rel=>exact af.out
     case measure=>rw[P8,P0];simpa [intOf]using ap
   .have T:taken R iO (jf R i)=jf R i+1:=by unfold taken;rw[gv hgt];rfl
    have F:=λq=>lR r R bg (jf R i) iO (w5.drewN q) (show Rd (w5.drewN q) r R bg _ from a2.out) an hs (by decide);rw[hgt,T]at F;have eO:O= .whole (jf R i+1) L:=by rw[<-X.out,mf,Qz Q,gv hgt]
    have EO:=fM eO;clear T eO;go_wp21;refine I.out.mono ?_;rintro e w6 ⟨rfl,q,rfl⟩;go_wp21;refine(F q).mono ?_;rintro e w7 ⟨rfl,H,ad⟩;have A:=(V.drewN q).trans H;have aF:=(ag.kept ((Kept.refl [r] w5).drewN q) (by have:=J.out;omega) o).kept H (by have:=J.out;omega) o;have a9:=qw r R bg (jf R i+1) g cap cut w7 ad (HA.kept A) hb (by omega) hs;clear H F I;go_wp21;refine a9.mono ?_;rintro e w8 ⟨rfl,m⟩;have ax:=(G.mono (S':=[r]) (by simp)).trans (A.trans (m.mono (by simp)));have j:=aF.kept (m.mono (by simp)) (r:=r) (by have:=J.out;omega) o;have aD:=ad.kept m (by simp);have x:=(A.trans (m.mono (by simp))).at ae (by simp;omega);have⟨ao,cp,hav⟩:=gw j.own;subst hav;have t0:=fN j.iw 0;have t1:=fN j.iw 1;have t2:=fN j.iw 2;have t3:=fN j.iw 3;have g0:=gh j.iw 0;have g1:=gh j.iw 1;have d0:=fN x 0;have d1:=fN x 1;have d2:=fN x 2;have d3:=fN x 3;have f0:=gh x 0;have f1:=gh x 1;have f2:=gh x 2;have f3:=gh x 3;dsimp at t0 t1 t2 t3 d0 d1 d2 d3;have aJ:w.heap.size≠K.heap.size:=by have:=o;have:=J.out;omega
    have aK:K.heap.size≠w.heap.size:=λh=>aJ h.symm;have az:=j.own;have aL:=Z3 j.own j.iw (by decide);clear j x m a9;go_wp2;rw[EO.out];have z:w.heap.size≠r:=by omega
    have a1:K.heap.size≠r:=by have:=o;have:=J.out;omega
    have al:w.heap.size<=K.heap.size:=by have:=o;have:=J.out;omega
    refine ou (v:= .tuple #[.agg #[fV (cut bg),fV (cut (jf R i+1)),gu nm,.slice ao L.length cp],.bool true]) ?_ rfl ⟨⟨_,_,rfl,?_⟩,?_,?_⟩
    .simp[results,results244,asAddr,Result.andThen,go_sem,d0,d1,d2,d3]
    .have aM:∀(p:Addr) (u:gG) (W:gm),(p.block=w.heap.size\/p.block=K.heap.size)->W.ownsRow E.heap.size 293 2 (.slice ao L.length cp) L.length (sq L)->(W.setCell p u).ownsRow E.heap.size 293 2 (.slice ao L.length cp) L.length (sq L):=by
      intro p u W hp ho;refine rq ho ?_ u;intro e;rcases hp with hp|hp
      .have:=(az.lt _ e).1;have:=J.out;omega
      .grind
     refine jM (base:=E.heap.size) ?_ (by have:=J.out;omega);grind
    .exact(((((ax.setCell (.inr al) _).setCell (.inr al) _).setCell (.inr (gL _)) _).setCell (.inr (gL _)) _).setCell (.inr (gL _)) _).setCell (.inr (gL _)) _
    .exact(((((aD.qY a1 _).qY a1 _).qY z _).qY z _).qY z _).qY z _
def Se (R:RC) (ps:Nat):Bool:=decide (ps < R.cs.size)&&decide (97<=bt R.cs ps/\bt R.cs ps<=122\/65<=bt R.cs ps/\bt R.cs ps<=90)
def Cv (r:Nat) (R:RC) (bg ps:Nat) (w:gm) (h:Rd w r R bg ps) (j:ps<=R.cs.size) (k:R.cs.size<=1024):
  Calls prog 152 #[gE r,.func (.func 153) #[] #[]] w λe w'=>e=ig (.bool (Se R ps))/\∃n,w'=w.drewN n:=
 Ky r R bg ps _ _ _ w h j k (Sj w [r])
theorem aez (s:fY) (a:Nat) (h:a < s.size):(s.extract a s.size).extract 0 1=s.extract a (a+1):=by
 apply Qx;simp only[ByteArray.data_extract,Array.extract_extract];grind
theorem XG {a b : Int} (h:Kept [r] w W) (j:Rd W r R bg ps) (g:W.heap[w.heap.size]?=some (gz #[fV 0,fV 0,gu jB] 183)) (m:r≠w.heap.size):
  Kept [r] w (((W.setCell ⟨w.heap.size,0,none⟩ (fV a)).setCell ⟨w.heap.size,1,none⟩ (fV b)).setCell ⟨w.heap.size,2,none⟩ (gu s))/\Rd (((W.setCell ⟨w.heap.size,0,none⟩ (fV a)).setCell ⟨w.heap.size,1,none⟩ (fV b)).setCell ⟨w.heap.size,2,none⟩ (gu s)) r R bg ps/\(((W.setCell ⟨w.heap.size,0,none⟩ (fV a)).setCell ⟨w.heap.size,1,none⟩ (fV b)).setCell ⟨w.heap.size,2,none⟩ (gu s)).heap[w.heap.size]?=some (gz #[fV a,fV b,gu s] 183):=by
 have k:Kept [w.heap.size] W (((W.setCell ⟨w.heap.size,0,none⟩ (fV a)).setCell ⟨w.heap.size,1,none⟩ (fV b)).setCell ⟨w.heap.size,2,none⟩ (gu s)):=(((Kept.refl [w.heap.size] W).setCell (.inl (by simp)) _).setCell (.inl (by simp)) _).setCell (.inl (by simp)) _;exact⟨((h.setCell (.inr (gL _)) _).setCell (.inr (gL _)) _).setCell (.inr (gL _)) _,j.kept k (by grind),fR (fR (fR g 0 _) 1 _) 2 _⟩
def Ek (r:Nat) (R:RC) (bg ps g cap b lg:Nat) (look:fY->Option fY) (cut:Nat->Nat) (w:gm) (h:Rd w r R bg ps) (hA:M5 w r R g cap cut) (G:Nm w r R b lg look) (hb:bg < R.cs.size) (hs:R.cs.size<=1024):
  Calls prog 84 #[gE r] w λe w'=>e=ig (.agg #[fV (cut bg),fV (cut (bg+qh look lg (R.cs.extract bg R.cs.size))),gu (sD look lg (R.cs.extract bg R.cs.size))])/\Kept [r] w w'/\Rd w' r R bg (bg+qh look lg (R.cs.extract bg R.cs.size)):=by
 have t1:=h.text;have b1:=h.bg;have m1:=h.mv;have l1:=h.lg;rw[G.mv]at m1;rw[G.lgv]at l1;have hr:=iQ h;have X:(R.cs.extract bg R.cs.size).size=R.cs.size - bg:=by simp
 have Y:=DJ (look:=look) (lg:=lg) (s:=R.cs.extract bg R.cs.size) (inV:=false);rw[X]at Y;have C1:=(λW (o:Kept [] w W)=>Tc b lg look (R.cs.extract bg R.cs.size) false W (G.lk.kept o (by simp)) G.le (by omega));have C2:=(λW (o:Kept [] w W)=>Ef r R bg ps g cap cut W (h.kept o (by simp)) (hA.kept (o.mono (by simp))) hb hs);have x:=(Kept.refl [] w).alloc (gz #[fV 0,fV 0,gu jB] 183);have O:=fP w (gz #[fV 0,fV 0,gu jB] 183);have m:=(show w.heap.size≠r by omega);have HR:=h;have HA:=hA;have N:=fM (aez R.cs bg hb);have HS:=fM (show qh look lg (R.cs.extract bg R.cs.size)=if mj look lg (R.cs.extract bg R.cs.size) false=0 then 1 else mj look lg (R.cs.extract bg R.cs.size) false from rfl);have HT:=fM (show sD look lg (R.cs.extract bg R.cs.size)=if mj look lg (R.cs.extract bg R.cs.size) false=0 then (R.cs.extract bg R.cs.size).extract 0 1 else oN look lg (R.cs.extract bg R.cs.size) false from rfl);generalize qh look lg (R.cs.extract bg R.cs.size)=cz at *;generalize sD look lg (R.cs.extract bg R.cs.size)=ct at *;generalize mj look lg (R.cs.extract bg R.cs.size) false=n at *;generalize oN look lg (R.cs.extract bg R.cs.size) false=I at *;go_enter func84,ntmps84;go_wp21
 go_cut [3,4]from 5 to 21 (λtv nv wc=>tv=gu I/\nv=fV n/\Kept [] w wc/\wc.heap[w.heap.size]?=some (gz #[fV 0,fV 0,gu jB] 183))
 case first=>
  go_region_with (go_at_call 161;refine(C1 _ x.drew).mono ?_;rintro e w1 ⟨rfl,t⟩;have U:=fM ((x.drew).trans t);have Q:=fM ((((Kept.refl [] _).drew).trans t).at O (by simp));clear t)
  all_goals (try (go_wp21))
  all_goals (go_meet;exact⟨rfl,rfl,U,Q⟩)
 case rest=>
  obtain⟨rfl,rfl,o,hg⟩:=hcut;have HK:=o;have HG:=hg;have H:=HR.kept o (by simp);by_cases F:n=0
  .have J:=C2 wc o;have A:cz=1:=by rw[HS.out,gv F]
   have E:ct=R.cs.extract bg (bg+1):=by rw[HT.out,gv F,N.out]
   have u:=fM A;have K:=fM E;clear A E;subst F;go_wp21;refine J.mono ?_;rintro e w2 ⟨rfl,k,Z⟩;have j:=k.at HG (by simpa using m);have q0:=fN j 0;have q1:=fN j 1;have q2:=fN j 2;have z0:=gh j 0;have z1:=gh j 1;have z2:=gh j 2;dsimp at q0 q1 q2;have q:=XG (a:=(cut bg:Int)) (b:=(cut (bg+1):Int)) (s:=R.cs.extract bg (bg+1)) ((HK.mono (by simp)).trans k) Z j (λe=>m e.symm);go_wp2;refine ou (v:= .agg #[fV (cut bg),fV (cut (bg+1)),gu (R.cs.extract bg (bg+1))]) ?_ rfl ⟨by rw[u.out,K.out],q.1,by rw[u.out];exact q.2.1⟩;have V:=fN q.2.2;simp[results,results84,asAddr,Result.andThen,go_sem,V]
  .have A:cz=n:=by rw[HS.out,gH F]
   have E:ct=I:=by rw[HT.out,gH F]
   have u:=fM A;have K:=fM E;have a0:((n:Int)==0)=false:=beq_eq_false_iff_ne.2 (by omega);have b2:=H.bg;have f2:=H.free 3;have p2:=H.ps;have y:=(o.mono (S':=[r]) (by simp)).setCell (p:=⟨r,3,none⟩) (.inl (by simp)) (fV ((bg+n:Nat)));have z:=H.Oa (bg+n);have T:=(((Kept.refl [r] wc).setCell (p:=⟨r,3,none⟩) (.inl (by simp)) (fV ((bg+n:Nat))))).at hg (by simpa using m);have J:=qw r R bg (bg+n) g cap cut _ z (HA.kept y) (by omega) (by omega) hs;clear A E;go_wp21;refine J.mono ?_;rintro e w2 ⟨rfl,k⟩;have j:=k.at T (by simp);have q0:=fN j 0;have q1:=fN j 1;have q2:=fN j 2;have z0:=gh j 0;have z1:=gh j 1;have z2:=gh j 2;dsimp at q0 q1 q2;have q:=XG (a:=(cut bg:Int)) (b:=(cut (bg+n):Int)) (s:=I) (y.trans (k.mono (by simp))) (z.kept k (by simp)) j (λe=>m e.symm);go_wp2;refine ou (v:= .agg #[fV (cut bg),fV (cut (bg+n)),gu I]) ?_ rfl ⟨by rw[u.out,K.out],q.1,by rw[u.out];exact q.2.1⟩;have V:=fN q.2.2;simp[results,results84,asAddr,Result.andThen,go_sem,V]
inductive Un where
 |Y6
 |chr (t:fY)
 |VZ (nm:fY) (L:la)
 |fin (nm:fY) (L:la)
 |cmt (t:fY)
 |dtp (nm:fY) (q:Bool)
 |lost
inductive AM where
 |stop
 |tok (kd:Un) (e:Nat)
def Yj (base:Nat) (a b:Int) (v:gG) (w:gm):Un->Prop
 | .Y6=>v= .iface 181 (.agg #[fV a,fV b])
 | .chr t=>v= .iface 183 (.agg #[fV a,fV b,gu t])
 | .VZ nm L=>∃h j,v= .iface 191 (.agg #[fV a,fV b,gu nm,.slice h L.length j])/\w.ownsRow base 293 2 (.slice h L.length j) L.length (sq L)
 | .fin nm L=>∃h j,v= .iface 192 (.agg #[fV a,fV b,gu nm,.slice h L.length j])/\w.ownsRow base 293 2 (.slice h L.length j) L.length (sq L)
 | .cmt t=>v= .iface 193 (.agg #[fV a,fV b,gu t])
 | .dtp nm q=>v= .iface 195 (.agg #[fV a,fV b,gu nm,.bool q])
 | .lost=>v= .iface 185 (.agg #[fV a,fV b])
def Yj.base {base j : Nat} {a b : Int} {k : Un} (h:Yj base a b v w k) (m:j<=base):Yj j a b v w k:=by
 cases k with
 |VZ nm L=>have⟨ao,cp,h1,h2⟩:=h;exact⟨ao,cp,h1,jM h2 m⟩
 |fin nm L=>have⟨ao,cp,h1,h2⟩:=h;exact⟨ao,cp,h1,jM h2 m⟩
 |_=>exact h
def oC (w:gm) (r:Nat) (R:RC) (bg:Nat) (cut:Nat->Nat) (e:Ending) (w':gm):AM->Prop
 | .stop=>∃k,e= .panicked [{v:= .iface 73 (gE k),recovered:=false}]/\Wb w' k 7 (cut bg)/\w.heap.size<=k/\Kept [r] w w'
 | .tok kd m=>(∃v,e=ig v/\Yj w.heap.size (cut bg) (cut m) v w' kd)/\Kept [r] w w'/\Rd w' r R bg m
def oC.back {w1 : gm} {e : Ending} {T : AM} (h:oC w1 r R bg cut e w' T) (j:Kept [r] w w1):oC w r R bg cut e w' T:=by
 cases T with
 |stop=>have⟨k,h1,h2,h3,h4⟩:=h;exact⟨k,h1,h2,jH j.size h3,j.trans h4⟩
 |tok kd m=>have⟨⟨v,h1,h2⟩,h3,h4⟩:=h;exact⟨⟨v,h1,h2.base j.size⟩,j.trans h3,h4⟩
def uw (R:RC) (h:fY->la->Un) (nm:fY):Jt->AM
 | .stop=> .stop
 | .lost=> .tok .lost R.cs.size
 | .whole m L=> .tok (h nm L) m
structure Wy (w:gm) (r:Nat) (R:RC) (g cap b lg:Nat) (look:fY->Option fY) (cut:Nat->Nat):Prop where
 gx:M5 w r R g cap cut
 Zx:Nm w r R b lg look
 gl:Gl w r
 small:R.cs.size<=1024
def Wy.kept (h:Wy w r R g cap b lg look cut) (j:Kept [r] w w'):Wy w' r R g cap b lg look cut:=
 ⟨h.gx.kept j,h.Zx.kept j,h.gl.kept j,h.small⟩
def V5 (r:Nat) (R:RC) (bg ps g cap b lg:Nat) (look:fY->Option fY) (cut:Nat->Nat) (w:gm) (h:Rd w r R bg ps) (p:Wy w r R g cap b lg look cut) (H:bg<=R.cs.size) (V:ps<=R.cs.size):
  Calls prog 154 #[gE r] w λe w'=>oC w r R bg cut e w' (uw R .VZ (zg R ps) (mf R look lg [] (zf R ps))):=by
 have C:=XW r R bg ps g cap b lg look cut w h p.gx p.Zx p.gl H V p.small;have G:=p;generalize zg R ps=nm at C|-;generalize mf R look lg [] (zf R ps)=O at C|-;cases O with
 |stop=>
  go_enter func154,ntmps154;go_wp21;refine C.mono ?_;rintro e o ⟨k,rfl,J,Q,K⟩;go_wp2;exact⟨rfl,k,rfl,J,Q,K⟩
 |lost=>
  go_enter func154,ntmps154;go_wp21;refine C.mono ?_;rintro e o ⟨rfl,N,F⟩;have t:Kept [] o (o.alloc (.cells #[fV 0,fV 0,gu jB,ji] 189)):=(Kept.refl _ _).alloc _;have u:=F.kept t (by simp);have j:=N.trans (t.mono (by simp));have I:=qw r R bg R.cs.size g cap cut _ u (G.kept j).gx H (gL _) G.small;go_wp21;refine I.mono ?_;rintro e w2 ⟨rfl,q⟩;have x:=j.trans (q.mono (by simp));have z:=u.kept q (by simp);go_wp2;go_ret;exact⟨⟨_,rfl,rfl⟩,x,z⟩
 |whole m L=>
  go_enter func154,ntmps154;go_wp21;refine C.mono ?_;rintro e o ⟨⟨A,E,rfl,U⟩,T,F⟩;have t:Kept [] o (o.alloc (.cells #[fV (cut bg),fV (cut m),gu nm,.slice A L.length E] 189)):=(Kept.refl _ _).alloc _;have u:=F.kept t (by simp);have j:=T.trans (t.mono (by simp));have y:=U.alloc (.cells #[fV (cut bg),fV (cut m),gu nm,.slice A L.length E] 189);go_wp2;go_ret;exact⟨⟨_,rfl,A,E,rfl,y⟩,j,u⟩
def abr (r:Nat) (R:RC) (bg ps g cap b lg:Nat) (look:fY->Option fY) (cut:Nat->Nat) (w:gm) (h:Rd w r R bg ps) (p:Wy w r R g cap b lg look cut) (H:bg<=R.cs.size) (V:ps<=R.cs.size):
  Calls prog 245 #[gE r] w λe w'=>oC w r R bg cut e w' (uw R .fin (zg R ps) (mf R look lg [] (zf R ps))):=by
 have C:=XW r R bg ps g cap b lg look cut w h p.gx p.Zx p.gl H V p.small;have G:=p;generalize zg R ps=nm at C|-;generalize mf R look lg [] (zf R ps)=O at C|-;cases O with
 |stop=>
  go_enter func245,ntmps245;go_wp21;refine C.mono ?_;rintro e o ⟨k,rfl,J,Q,K⟩;go_wp2;exact⟨rfl,k,rfl,J,Q,K⟩
 |lost=>
  go_enter func245,ntmps245;go_wp21;refine C.mono ?_;rintro e o ⟨rfl,N,F⟩;have t:Kept [] o (o.alloc (.cells #[fV 0,fV 0,gu jB,ji] 189)):=(Kept.refl _ _).alloc _;have u:=F.kept t (by simp);have j:=N.trans (t.mono (by simp));have I:=qw r R bg R.cs.size g cap cut _ u (G.kept j).gx H (gL _) G.small;go_wp21;refine I.mono ?_;rintro e w2 ⟨rfl,q⟩;have x:=j.trans (q.mono (by simp));have z:=u.kept q (by simp);go_wp2;go_ret;exact⟨⟨_,rfl,rfl⟩,x,z⟩
 |whole m L=>
  go_enter func245,ntmps245;go_wp21;refine C.mono ?_;rintro e o ⟨⟨A,E,rfl,U⟩,T,F⟩;have t:Kept [] o (o.alloc (.cells #[fV (cut bg),fV (cut m),gu nm,.slice A L.length E] 189)):=(Kept.refl _ _).alloc _;have u:=F.kept t (by simp);have j:=T.trans (t.mono (by simp));have y:=U.alloc (.cells #[fV (cut bg),fV (cut m),gu nm,.slice A L.length E] 189);go_wp2;go_ret;exact⟨⟨_,rfl,A,E,rfl,y⟩,j,u⟩
def wE (R:RC) (look:fY->Option fY) (lg bg:Nat):AM:= .tok (.chr (sD look lg (R.cs.extract bg R.cs.size))) (bg+qh look lg (R.cs.extract bg R.cs.size))
def mY (R:RC) (look:fY->Option fY) (lg bg ps:Nat):AM:=
 if Se R ps=true then uw R .fin (zg R ps) (mf R look lg [] (zf R ps))
 else if pre (R.cs.extract ps R.cs.size) iO=true then .tok .lost (ps+1)
 else if ps=R.cs.size then wE R look lg bg
 else .tok (.cmt (ph (R.cs.extract ps (scan (jq iO) R.cs ps)))) (rZ R ps)
def Ma (r:Nat) (R:RC) (bg ps g cap b lg:Nat) (look:fY->Option fY) (cut:Nat->Nat) (w:gm) (h:Rd w r R bg ps) (hO:Wy w r R g cap b lg look cut) (hb:bg < R.cs.size) (Q:ps<=R.cs.size):
  Calls prog 155 #[gE r] w λe w'=>oC w r R bg cut e w' (mY R look lg bg ps):=by
 have K:=hO;have HR:=h;have U:=hO.small;have I:=Cv r R bg ps w h Q U;have a5:∀(fn:Fn) (first cap:jA) (w:gm),(Instr.makeFunc fn first cap).run prog w= .ok (.func fn first cap) w:=λ_ _ _ _=>rfl;cases hl:Se R ps
 .rw[hl]at I;have t:=fM I;have J:=λq=>lR r R bg ps iO (w.drewN q) (show Rd (w.drewN q) r R bg ps from HR) Q U (by decide);clear I;cases hgt:pre (R.cs.extract ps R.cs.size) iO
  .have H:taken R iO ps=ps:=by unfold taken;rw[gH (by simp[hgt])]
   rw[hgt,H]at J;have A:=fM J;clear J;by_cases p:ps=R.cs.size
   .have F:mY R look lg bg ps=wE R look lg bg:=by unfold mY;rw[gH (by simp[hl]),gH (by simp[hgt]),gv p]
    rw[F];have e3:decide (ps=R.cs.size)=true:=by simp[p]
    go_enter func155,ntmps155;go_wp21;refine t.mono ?_;rintro e V ⟨rfl,q,rfl⟩;go_wp21;refine(A q).mono ?_;rintro e w2 ⟨rfl,x,o⟩;have j:=((Kept.refl [r] w).drewN q).trans x;have u:=pq r R bg ps w2 o;rw[e3]at u;go_wp21;refine u.mono ?_;rintro e w3 ⟨rfl,z,rfl⟩;have E:=Ek r R bg ps g cap b lg look cut (w2.drewN z) (show Rd (w2.drewN z) r R bg ps from o) (K.kept (j.drewN z)).gx (K.kept (j.drewN z)).Zx hb U;go_wp21;refine E.mono ?_;rintro e X ⟨rfl,y,G⟩;have Y:=(show oC w r R bg cut (ig (.iface 183 (.agg #[fV (cut bg),fV (cut (bg+qh look lg (R.cs.extract bg R.cs.size))),gu (sD look lg (R.cs.extract bg R.cs.size))]))) X (wE R look lg bg)from⟨⟨_,rfl,rfl⟩,(j.drewN z).trans y,G⟩);go_wp2;go_ret;exact Y
   .have F:mY R look lg bg ps= .tok (.cmt (ph (R.cs.extract ps (scan (jq iO) R.cs ps)))) (rZ R ps):=by unfold mY;rw[gH (by simp[hl]),gH (by simp[hgt]),gH p]
    rw[F];have e3:decide (ps=R.cs.size)=false:=by simp[p]
    go_enter func155,ntmps155;go_wp21;refine t.mono ?_;rintro e V ⟨rfl,q,rfl⟩;go_wp21;refine(A q).mono ?_;rintro e w2 ⟨rfl,x,o⟩;have j:=((Kept.refl [r] w).drewN q).trans x;have u:=pq r R bg ps w2 o;rw[e3]at u;go_wp21;refine u.mono ?_;rintro e w3 ⟨rfl,z,rfl⟩;have N:=K.kept (j.drewN z);have E:=uT r R bg ps g cap cut (w2.drewN z) (show Rd (w2.drewN z) r R bg ps from o) N.gx N.gl (by omega) Q U;go_wp21;refine E.mono ?_;rintro e X ⟨rfl,y,a2⟩;have a0:=(j.drewN z).trans y;go_wp2;go_ret;exact⟨⟨_,rfl,rfl⟩,a0,a2⟩
  .have H:taken R iO ps=ps+1:=by unfold taken;rw[gv hgt];rfl
   have a4:ps+1<=R.cs.size:=lO hgt Q;rw[hgt,H]at J;have A:=fM J;have F:mY R look lg bg ps= .tok .lost (ps+1):=by unfold mY;rw[gH (by simp[hl]),gv hgt]
   rw[F];clear J;go_enter func155,ntmps155;go_wp21;refine t.mono ?_;rintro e V ⟨rfl,q,rfl⟩;go_wp21;refine(A q).mono ?_;rintro e w2 ⟨rfl,x,o⟩;have j:=((Kept.refl [r] w).drewN q).trans x;have CP:=qw r R bg (ps+1) g cap cut w2 o (K.kept j).gx (by omega) a4 U;go_wp21;refine CP.mono ?_;rintro e w3 ⟨rfl,O⟩;have Z:=j.trans (O.mono (by simp));have a1:=o.kept O (by simp);go_wp2;go_ret;exact⟨⟨_,rfl,rfl⟩,Z,a1⟩
 .rw[hl]at I;have t:=fM I;have F:mY R look lg bg ps=uw R .fin (zg R ps) (mf R look lg [] (zf R ps)):=by unfold mY;rw[gv hl]
  rw[F];have E:=(λq=>abr r R bg ps g cap b lg look cut (w.drewN q) (show Rd (w.drewN q) r R bg ps from HR) (K.kept ((Kept.refl [r] w).drewN q)) (by omega) Q);generalize uw R .fin (zg R ps) (mf R look lg [] (zf R ps))=T at E|-;clear I;cases T with
  |stop=>
   go_enter func155,ntmps155;go_wp21;refine t.mono ?_;rintro e V ⟨rfl,q,rfl⟩;go_wp21;refine(E q).mono ?_;rintro e V ⟨k,rfl,H2,h3,h4⟩;have H4:=((Kept.refl [r] w).drewN q).trans h4;have a3:w.heap.size<=k:=h3;go_wp2;exact⟨rfl,k,rfl,H2,a3,H4⟩
  |tok kd m=>
   go_enter func155,ntmps155;go_wp21;refine t.mono ?_;rintro e V ⟨rfl,q,rfl⟩;go_wp21;refine(E q).mono ?_;rintro e X ⟨⟨v,rfl,hv⟩,y,G⟩;have Y:=(show oC w r R bg cut (ig v) X (.tok kd m)from⟨⟨v,rfl,hv⟩,((Kept.refl [r] w).drewN q).trans y,G⟩);go_wp2;go_ret;exact Y
def isQ (R:RC) (ps:Nat):Bool:=decide (ps < R.cs.size)&&jq ⟨#[63]⟩ (bt R.cs ps)
def rJ (R:RC) (look:fY->Option fY) (lg bg ps:Nat):AM:=
 if Se R ps=true then uw R .VZ (zg R ps) (mf R look lg [] (zf R ps))
 else if pre (R.cs.extract ps R.cs.size) ⟨#[47]⟩=true then mY R look lg bg (ps+1)
 else if pre (R.cs.extract ps R.cs.size) ⟨#[33,45,45]⟩=true then .tok (.cmt (ph (oF R (ps+3)))) (od R (ps+3))
 else if Av R lY ps=true then .tok (.dtp (UJ R (ps+8)) (dtQ R (ps+8))) (rZ R (Hc R (ps+8)))
 else if pre (R.cs.extract ps R.cs.size) ⟨#[33]⟩=true then .tok (.cmt (ph (R.cs.extract (ps+1) (scan (jq iO) R.cs (ps+1))))) (rZ R (ps+1))
 else if isQ R ps=true then .tok (.cmt (ph (R.cs.extract ps (scan (jq iO) R.cs ps)))) (rZ R ps)
 else wE R look lg bg
theorem Sb (h:Av R s ps=true) (j:ps<=R.cs.size):ps+s.size<=R.cs.size:=by
 unfold Av at h;grind
theorem abY (r:Nat) (R:RC) (bg ps:Nat) (w:gm) (h:Rd w r R bg ps) (m:ps<=R.cs.size) (o:R.cs.size<=1024):
  Calls prog 152 #[gE r,.func (.func 251) #[] #[gE w.heap.size]] (w.alloc (.cells #[gu ⟨#[63]⟩] 9))
   λe w'=>e=ig (.bool (isQ R ps))/\Kept [r] w w'/\Rd w' r R bg ps:=by
 have p:=iQ h;have k:Kept [] w (w.alloc (.cells #[gu ⟨#[63]⟩] 9)):=(Kept.refl _ _).alloc _;have b:=fP w (.cells #[gu ⟨#[63]⟩] 9);refine(Ky r R bg ps _ _ _ _ (k.at h (by simp)) m o (Dk _ [r] w.heap.size ⟨#[63]⟩ (by simp) (by simp) (by grind))).mono ?_;rintro e w' ⟨j,n,rfl⟩;exact⟨j,(k.mono (by simp)).drewN n,k.at h (by simp)⟩
def ON (r:Nat) (R:RC) (bg ps g cap b lg:Nat) (look:fY->Option fY) (cut:Nat->Nat) (w:gm) (h:Rd w r R bg ps) (O:Wy w r R g cap b lg look cut) (hb:bg < R.cs.size) (z:ps<=R.cs.size):
  Calls prog 83 #[gE r] w λe w'=>oC w r R bg cut e w' (rJ R look lg bg ps):=by
 have E:=O.small;have a0:=Cv r R bg ps w h z E;obtain⟨T,t⟩:∃T,rJ R look lg bg ps=T:=⟨_,rfl⟩;rw[t];unfold rJ at t;go_enter func83,ntmps83;go_wp21;refine a0.mono ?_;rintro e w1 ⟨rfl,q,rfl⟩;have F:=(Kept.refl [r] w).drewN q;have Q:Rd (w.drewN q) r R bg ps:=h;cases c0:Se R ps with
 |true=>
  rw[gv c0]at t;have j:=O.kept F;have y:=V5 r R bg ps g cap b lg look cut (w.drewN q) Q j (by omega) z;rw[t]at y;cases T with
  |stop=>
   go_wp21;refine y.mono ?_;rintro e A ⟨k,rfl,h2,h3,h4⟩;have H:=oC.back (show oC (w.drewN q) r R bg cut _ A .stop from⟨k,rfl,h2,h3,h4⟩) F;go_wp2;exact⟨rfl,H⟩
  |tok kd m=>
   go_wp21;refine y.mono ?_;rintro e A ⟨⟨v,rfl,hv⟩,p,o⟩;have H:=oC.back (show oC (w.drewN q) r R bg cut (ig v) A (.tok kd m)from⟨⟨v,rfl,hv⟩,p,o⟩) F;go_wp2;go_ret;exact H
 |false=>
  rw[gH (by simp[c0])]at t;have U:=lR r R bg ps ⟨#[47]⟩ (w.drewN q) Q z E (by decide);go_wp21;refine U.mono ?_;rintro e w2 ⟨rfl,p,o⟩;have G:=F.trans p;unfold taken at o;cases c1:pre (R.cs.extract ps R.cs.size) ⟨#[47]⟩with
  |true=>
   rw[gv c1]at t o;have j:=O.kept G;have y:=Ma r R bg (ps+1) g cap b lg look cut w2 o j hb (lO c1 z);rw[t]at y;cases T with
   |stop=>
    go_wp21;refine y.mono ?_;rintro e A ⟨k,rfl,h2,h3,h4⟩;have H:=oC.back (show oC w2 r R bg cut _ A .stop from⟨k,rfl,h2,h3,h4⟩) G;go_wp2;exact⟨rfl,H⟩
   |tok kd m=>
    go_wp21;refine y.mono ?_;rintro e A ⟨⟨v,rfl,hv⟩,p,o⟩;have H:=oC.back (show oC w2 r R bg cut (ig v) A (.tok kd m)from⟨⟨v,rfl,hv⟩,p,o⟩) G;go_wp2;go_ret;exact H
  |false=>
   rw[gH (by simp[c1])]at t o;have V:=lR r R bg ps ⟨#[33,45,45]⟩ w2 o z E (by decide);go_wp21;refine V.mono ?_;rintro e w3 ⟨rfl,p,o⟩;have I:=G.trans p;unfold taken at o;cases c2:pre (R.cs.extract ps R.cs.size) ⟨#[33,45,45]⟩with
   |true=>
    rw[gv c2]at t o;have j:=O.kept I;have y:=(Rh r R bg (ps+3) g cap cut w3 o j.gx j.gl (by omega) (lO c2 z) E);subst t;go_wp21;refine y.mono ?_;rintro e A ⟨rfl,p,x⟩;have u:=I.trans p;go_wp2;go_ret;exact⟨⟨_,rfl,rfl⟩,u,x⟩
   |false=>
    rw[gH (by simp[c2])]at t o;have X:=TO r R bg ps lY w3 o z E (by decide);go_wp21;refine X.mono ?_;rintro e w4 ⟨rfl,p,o⟩;have J:=I.trans p;cases c3:Av R lY ps with
    |true=>
     rw[gv c3]at t o;have j:=O.kept J;have y:=(Mk r R bg (ps+8) g cap cut w4 o j.gx j.gl (by omega) (Sb c3 z) E);subst t;go_wp21;refine y.mono ?_;rintro e A ⟨rfl,p,x⟩;have u:=J.trans p;go_wp2;go_ret;exact⟨⟨_,rfl,rfl⟩,u,x⟩
    |false=>
     rw[gH (by simp[c3])]at t o;have Y:=lR r R bg ps ⟨#[33]⟩ w4 o z E (by decide);go_wp21;refine Y.mono ?_;rintro e w5 ⟨rfl,p,o⟩;have K:=J.trans p;unfold taken at o;cases c4:pre (R.cs.extract ps R.cs.size) ⟨#[33]⟩with
     |true=>
      rw[gv c4]at t o;have j:=O.kept K;have y:=(uT r R bg (ps+1) g cap cut w5 o j.gx j.gl (by omega) (lO c4 z) E);subst t;go_wp21;refine y.mono ?_;rintro e A ⟨rfl,p,x⟩;have u:=K.trans p;go_wp2;go_ret;exact⟨⟨_,rfl,rfl⟩,u,x⟩
     |false=>
      rw[gH (by simp[c4])]at t o;go_wp21;refine(pD _ _).mono ?_;rintro e wq ⟨rfl,rfl⟩;have Z:=abY r R bg ps w5 o z E;go_wp21;refine Z.mono ?_;rintro e w6 ⟨rfl,p,o⟩;have N:=K.trans p;have j:=O.kept N;cases c5:isQ R ps with
      |true=>
       rw[gv c5]at t;have y:=(uT r R bg ps g cap cut w6 o j.gx j.gl (by omega) z E);subst t;go_wp21;refine y.mono ?_;rintro e A ⟨rfl,p,x⟩;have u:=N.trans p;go_wp2;go_ret;exact⟨⟨_,rfl,rfl⟩,u,x⟩
      |false=>
       rw[gH (by simp[c5])]at t;have y:=(Ek r R bg ps g cap b lg look cut w6 o j.gx j.Zx hb E);subst t;go_wp21;refine y.mono ?_;rintro e A ⟨rfl,p,x⟩;have u:=N.trans p;go_wp2;go_ret;exact⟨⟨_,rfl,rfl⟩,u,x⟩
def xZ (t:fY):fY:=⟨(Lib.trimPrefix t.data.toList [60,47]).toArray⟩
def Mj (t:fY):Bool:=Lib.hasPrefix t.data.toList [60,47]
theorem I9 (t:fY):(xZ t).size<=t.size:=by
 have e1:t.size=t.data.toList.length:=Qu t;have e2:(xZ t).size=(Lib.trimPrefix t.data.toList [60,47]).length:=by
  rw[Qu];simp[xZ]
 rw[e1,e2];unfold Lib.trimPrefix;grind
def Pk (R:RC) (nm:fY) (ps:Nat):Bool:=
 Mj (R.cs.extract ps R.cs.size)&&decide (nm.size < (xZ (R.cs.extract ps R.cs.size)).size)&&((small ((xZ (R.cs.extract ps R.cs.size)).extract 0 nm.size)).toList==nm.toList)&&jq jm (bt (xZ (R.cs.extract ps R.cs.size)) nm.size)
def GP (v:gG) (W:gm):Prop:=∃b,v= .func (.func 251) #[] #[gE b]/\b < W.heap.size/\W.cell? ⟨b,0,none⟩=some (gu jm)
def GP.k {v:gG} {W j:gm} (h:GP v W) (k:Kept [] W j):GP v j:=by
 have⟨b,h1,h2,h3⟩:=h;exact⟨b,h1,lU h2 k.size,(k.cell (p:=⟨b,0,none⟩) h2 (by simp)).trans h3⟩
def GP.new (W:gm):GP (.func (.func 251) #[] #[gE W.heap.size]) (W.alloc (.cells #[gu jm] 9)):=by
 simp[GP]
def ahK (r:Nat) (R:RC) (bg ps:Nat) (nm:fY) (w:gm) (h:Rd w r R bg ps) (H:ps<=R.cs.size) (I:R.cs.size<=1024) (E:Mj (R.cs.extract ps R.cs.size)=false):
  Calls prog 147 #[gE r,gu nm] w λe w'=>e=ig (.bool false)/\Kept [] w w':=by
 have p:=fM (xG r R bg ps w h H I);have K:=I9 (R.cs.extract ps R.cs.size);have k:(R.cs.extract ps R.cs.size).size=R.cs.size - ps:=by simp
 rw[k]at K;clear h k;generalize R.cs.extract ps R.cs.size=t at *;have m:=fM (λw=>Tryz.strings_CutPrefix t qt w);simp only at m;rw[show(⟨(Lib.trimPrefix t.data.toList [60,47]).toArray⟩:fY)=xZ t from rfl,show Lib.hasPrefix t.data.toList [60,47]=Mj t from rfl]at m;generalize xZ t=s at *;rw[E]at m;obtain⟨u,J⟩:∃u:fY,u=⟨#[]⟩:=⟨_,rfl⟩;obtain⟨c,A⟩:∃c:Int,c=0:=⟨_,rfl⟩;clear E J A;go_enter func147,ntmps147;go_wp21;refine p.out.mono ?_;rintro e Q ⟨rfl,q,rfl⟩;go_wp21;refine(m.out _).mono ?_;rintro e w' ⟨rfl,rfl⟩;go_wp21;refine vR (by rfl) ?_;refine qp (λ(g:Unit) z=>⟨#[gE r,gu nm,undef,undef,.bool false,gu s,.bool false,fV nm.size,.tuple #[gu s,.bool false],gE r,gu t,.tuple #[gu s,.bool false],gu s,.bool false,gu nm,fV nm.size,cd z 0 (.bool false),cd z 1 (.bool false),undef,undef,undef,undef,cd z 6 (.bool false),cd z 7 (.bool false),undef,undef,undef,undef,undef,undef,cd z 14 (.bool false),cd z 15 (.bool false),undef,undef,undef,undef,undef,cd z 21 (.bool false)],[]⟩) (λg z W=>Kept [] w W) 23 [[],[0],[1],[1],[1],[1],[1],[6],[7],[7],[7],[7],[7],[7],[7],[14],[15],[15],[15],[15],[15],[15],[21]] (()) rfl (by rfl) (((Kept.refl [] w).drewN q).drew) ?_ ?_
 .repeat' first|exact nu|refine nr ?_ ?_
  all_goals
   rintro g z W o y O;simp[Dh]at y;refine jY rfl ?_;intro N x;simp only[lC,y];go_simp
   first
   |refine x _ _ ⟨g,?_,o⟩
   simp[pn,wx,lC,y]
 .rintro g W o;simp only[vW];have F:=fM o;clear o;rename_i G j;refine j _ _ ?_;clear j G;go_wp2;go_ret;exact⟨rfl,F.out⟩
def ahL (r:Nat) (R:RC) (bg ps:Nat) (nm:fY) (w:gm) (h:Rd w r R bg ps) (I:ps<=R.cs.size) (J:R.cs.size<=1024) (E:Mj (R.cs.extract ps R.cs.size)=true) (Q:¬nm.size < (xZ (R.cs.extract ps R.cs.size)).size):
  Calls prog 147 #[gE r,gu nm] w λe w'=>e=ig (.bool false)/\Kept [] w w':=by
 have p:=fM (xG r R bg ps w h I J);have N:=I9 (R.cs.extract ps R.cs.size);have k:(R.cs.extract ps R.cs.size).size=R.cs.size - ps:=by simp
 rw[k]at N;clear h k;generalize R.cs.extract ps R.cs.size=t at *;have m:=fM (λw=>Tryz.strings_CutPrefix t qt w);simp only at m;rw[show(⟨(Lib.trimPrefix t.data.toList [60,47]).toArray⟩:fY)=xZ t from rfl,show Lib.hasPrefix t.data.toList [60,47]=Mj t from rfl]at m;generalize xZ t=s at *;rw[E]at m;obtain⟨u,K⟩:∃u:fY,u=⟨#[]⟩:=⟨_,rfl⟩;obtain⟨c,A⟩:∃c:Int,c=0:=⟨_,rfl⟩;have F:=fM (eq_false (show ¬(nm.size:Int) < (s.size:Int) by omega));clear E K A;go_enter func147,ntmps147;go_wp21;refine p.out.mono ?_;rintro e U ⟨rfl,q,rfl⟩;go_wp21;refine(m.out _).mono ?_;rintro e w' ⟨rfl,rfl⟩;go_wp21;refine vR (by rfl) ?_;refine qp (λ(g:Unit) z=>⟨#[gE r,gu nm,undef,undef,.bool false,gu s,.bool true,fV nm.size,.tuple #[gu s,.bool true],gE r,gu t,.tuple #[gu s,.bool true],gu s,.bool true,gu nm,fV nm.size,cd z 0 (.bool true),cd z 1 (.bool true),cd z 2 (gu s),cd z 3 (fV s.size),cd z 4 (fV nm.size),cd z 5 (.bool false),cd z 6 (.bool false),cd z 7 (.bool false),undef,undef,undef,undef,undef,undef,cd z 14 (.bool false),cd z 15 (.bool false),undef,undef,undef,undef,undef,cd z 21 (.bool false)],[]⟩) (λg z W=>Kept [] w W) 23 [[],[0],[1],[1,2],[1],[1,3,4],[1,5],[6],[7],[7],[7],[7],[7],[7],[7],[14],[15],[15],[15],[15],[15],[15],[21]] (()) rfl (by rfl) (((Kept.refl [] w).drewN q).drew) ?_ ?_
 .repeat' first|exact nu|refine nr ?_ ?_
  all_goals
   rintro g z W o y T;simp[Dh]at y;refine jY rfl ?_;intro O x;simp only[lC,y]
   try simp only[F.out]
   go_simp
   first
   |refine x _ _ ⟨g,?_,o⟩
   simp[pn,wx,lC,y]
 .rintro g W o;simp only[vW];have G:=fM o;clear o;rename_i H j;refine j _ _ ?_;clear j H;go_wp2;go_ret;exact⟨rfl,G.out⟩
def ahM (r:Nat) (R:RC) (bg ps:Nat) (nm:fY) (w:gm) (h:Rd w r R bg ps) (N:ps<=R.cs.size) (O:R.cs.size<=1024) (G:Mj (R.cs.extract ps R.cs.size)=true) (Y:nm.size < (xZ (R.cs.extract ps R.cs.size)).size) (X:((small ((xZ (R.cs.extract ps R.cs.size)).extract 0 nm.size)).toList==nm.toList)=false):
  Calls prog 147 #[gE r,gu nm] w λe w'=>e=ig (.bool false)/\Kept [] w w':=by
 have x:=fM (xG r R bg ps w h N O);have Q:=I9 (R.cs.extract ps R.cs.size);have o:(R.cs.extract ps R.cs.size).size=R.cs.size - ps:=by simp
 rw[o]at Q;clear h o;generalize R.cs.extract ps R.cs.size=t at *;have p:=fM (λw=>Tryz.strings_CutPrefix t qt w);simp only at p;rw[show(⟨(Lib.trimPrefix t.data.toList [60,47]).toArray⟩:fY)=xZ t from rfl,show Lib.hasPrefix t.data.toList [60,47]=Mj t from rfl]at p;generalize xZ t=s at *;rw[G]at p;have K:(s.extract 0 nm.size).size=nm.size:=by simp;omega
 have y:=fM (λW=>xf (s.extract 0 nm.size) W (by omega));have H:=fM (eq_true (show(nm.size:Int) < (s.size:Int) by omega));clear K;generalize small (s.extract 0 nm.size)=u at *;obtain⟨c,E⟩:∃c:Int,c=0:=⟨_,rfl⟩;clear G E;go_enter func147,ntmps147;go_wp21;refine x.out.mono ?_;rintro e w1 ⟨rfl,q,rfl⟩;go_wp21;refine(p.out _).mono ?_;rintro e w' ⟨rfl,rfl⟩;go_wp21;refine vR (by rfl) ?_;refine qp (λ(g:Unit) z=>⟨#[gE r,gu nm,undef,undef,.bool false,gu s,.bool true,fV nm.size,.tuple #[gu s,.bool true],gE r,gu t,.tuple #[gu s,.bool true],gu s,.bool true,gu nm,fV nm.size,cd z 0 (.bool true),cd z 1 (.bool true),cd z 2 (gu s),cd z 3 (fV s.size),cd z 4 (fV nm.size),cd z 5 (.bool true),cd z 6 (.bool true),cd z 7 (.bool true),cd z 8 (gu s),cd z 9 (fV nm.size),cd z 10 (gu (s.extract 0 nm.size)),cd z 11 (gu u),cd z 12 (gu nm),cd z 13 (.bool false),cd z 14 (.bool false),cd z 15 (.bool false),undef,undef,undef,undef,undef,cd z 21 (.bool false)],[]⟩) (λg z W=>Kept [] w W) 23 [[],[0],[1],[1,2],[1],[1,3,4],[1,5],[6],[7],[7],[7,8,9],[7,10],[7],[7,11,12],[7,13],[14],[15],[15],[15],[15],[15],[15],[21]] (()) rfl (by rfl) (((Kept.refl [] w).drewN q).drew) ?_ ?_
 .repeat' first|exact nu|refine nr ?_ ?_
  all_goals
   rintro g z W j A Z;simp[Dh]at A;refine jY rfl ?_;intro T k;simp only[lC,A]
   try simp only[H.out]
   go_simp
   try (rw[gv (by omega)];go_simp)
   first
   |refine k _ _ ⟨g,?_,j⟩
   |refine(y.out W).mono ?_;rintro V U ⟨rfl,F⟩;refine k _ _ ⟨g,?_,j.trans F⟩
   simp[pn,wx,lC,A]
 .rintro g W j;simp only[vW];have I:=fM j;clear j;rename_i J m;refine m _ _ ?_;clear m J;go_wp2;go_ret;exact⟨rfl,I.out⟩
def ahN (r:Nat) (R:RC) (bg ps:Nat) (nm:fY) (w:gm) (h:Rd w r R bg ps) (hp:ps<=R.cs.size) (hs:R.cs.size<=1024) (N:Mj (R.cs.extract ps R.cs.size)=true) (Z:nm.size < (xZ (R.cs.extract ps R.cs.size)).size) (he:((small ((xZ (R.cs.extract ps R.cs.size)).extract 0 nm.size)).toList==nm.toList)=true):
  Calls prog 147 #[gE r,gu nm] w λe w'=>e=ig (.bool (jq jm (bt (xZ (R.cs.extract ps R.cs.size)) nm.size)))/\Kept [] w w':=by
 have E:=fM (xG r R bg ps w h hp hs);have hz:=I9 (R.cs.extract ps R.cs.size);have p:(R.cs.extract ps R.cs.size).size=R.cs.size - ps:=by simp
 rw[p]at hz;clear h p;generalize R.cs.extract ps R.cs.size=t at *;have y:=fM (λw=>Tryz.strings_CutPrefix t qt w);simp only at y;rw[show(⟨(Lib.trimPrefix t.data.toList [60,47]).toArray⟩:fY)=xZ t from rfl,show Lib.hasPrefix t.data.toList [60,47]=Mj t from rfl]at y;generalize xZ t=s at *;rw[N]at y;have V:(s.extract 0 nm.size).size=nm.size:=by simp;omega
 have F:=fM (λW=>xf (s.extract 0 nm.size) W (by omega));have O:=fM (eq_true (show(nm.size:Int) < (s.size:Int) by omega));clear V;generalize small (s.extract 0 nm.size)=u at *;have hb:=get_bt s nm.size Z;have X:=bt_nonneg s nm.size;have Y:=bt_le s nm.size;clear N;generalize bt s nm.size=c at *;go_enter func147,ntmps147;go_wp21;refine E.out.mono ?_;rintro e w1 ⟨rfl,q,rfl⟩;go_wp21;refine(y.out _).mono ?_;rintro e w' ⟨rfl,rfl⟩;go_wp21;refine vR (by rfl) ?_;refine qp (λ(g:gG) z=>⟨#[gE r,gu nm,undef,undef,ce z 22 (.bool false) (.bool (jq jm c)),gu s,.bool true,fV nm.size,.tuple #[gu s,.bool true],gE r,gu t,.tuple #[gu s,.bool true],gu s,.bool true,gu nm,fV nm.size,cd z 0 (.bool true),cd z 1 (.bool true),cd z 2 (gu s),cd z 3 (fV s.size),cd z 4 (fV nm.size),cd z 5 (.bool true),cd z 6 (.bool true),cd z 7 (.bool true),cd z 8 (gu s),cd z 9 (fV nm.size),cd z 10 (gu (s.extract 0 nm.size)),cd z 11 (gu u),cd z 12 (gu nm),cd z 13 (.bool true),cd z 14 (.bool true),cd z 15 (.bool true),cd z 16 (g),cd z 17 (gu s),cd z 18 (fV nm.size),cd z 19 (.int .u8 c),cd z 20 (.bool (jq jm c)),cd z 21 (.bool (jq jm c))],[]⟩) (λg z W=>Kept [] w W/\(dn z 16=true->GP g W)) 23 [[],[0],[1],[1,2],[1],[1,3,4],[1,5],[6],[7],[7],[7,8,9],[7,10],[7],[7,11,12],[7,13],[14],[15],[15],[15],[15,17,18],[15,16,19],[15,20],[21]] (undef) rfl rfl (⟨((Kept.refl [] w).drewN q).drew,λh=>by cases h⟩) ?_ ?_
 .repeat' first|exact nu|refine nr ?_ ?_
  all_goals
   rintro g z W j A hn;simp[Dh]at A;refine jY rfl ?_;intro K' k;simp only[lC,A]
   try simp only[O.out]
   go_simp
   try (rw[gv (by omega)];go_simp)
   first
   |refine k _ _ ⟨g,?_,j.1,λh=>j.2 (by simpa [pr]using h)⟩
   |refine(F.out W).mono ?_;rintro J I ⟨rfl,x⟩;refine k _ _ ⟨g,?_,j.1.trans x,λh=>(j.2 (by simpa [pr]using h)).k x⟩
   |refine(pD _ W).mono ?_;rintro J I ⟨rfl,rfl⟩;refine k _ _ ⟨_,?_,j.1.alloc _,λ_=>GP.new W⟩
   |obtain⟨U,rfl,H,G⟩:=j.2 (by simp[A]);have m:=Dk W [] U _ G H (by simp);have K:=m.ent;go_simp;refine(m.ask c W X Y (Kept.refl _ _)).mono ?_;rintro J I ⟨rfl,nq,rfl⟩;refine k _ _ ⟨_,?_,j.1.drewN nq,λh=>(j.2 (by simpa [pr]using h)).k ((Kept.refl [] W).drewN nq)⟩
   simp[pn,wx,lC,WR,agt,A]
 .rintro g W j;simp only[vW,aa2];have Q:=fM j.1;clear j;rename_i T o;refine o _ _ ?_;clear o T;go_wp2;go_ret;exact⟨rfl,Q.out⟩
def Ag (R:RC) (look:fY->Option fY) (lg bg:Nat):AM:=
 if R.plT=true then .tok (.chr (ph (R.cs.extract bg (bg+1)))) (bg+1)
 else .tok (.chr (ph (sD look lg (R.cs.extract bg R.cs.size)))) (bg+qh look lg (R.cs.extract bg R.cs.size))
def xo (h:∀x t,look x=some t->t.size<=16):(sD look lg s).size<=16:=by
 unfold sD;split
 .simp;omega
 .exact yx h
def LD (r:Nat) (R:RC) (bg ps e0:Nat) (k:fY) (pl:Bool) (cut:Nat->Nat) (w:gm) (h:Rd w r R bg ps) (U:Gl w r) (E:R.plT=pl) (G:k.size<=1048576) (F:Nat) (J:F=(if pl then 148 else 84))
  (C:Calls prog F #[gE r] w λe w'=>e=ig (.agg #[fV (cut bg),fV (cut e0),gu k])/\Kept [r] w w'/\Rd w' r R bg e0):
  Calls prog 81 #[gE r] w λe w'=>oC w r R bg cut e w' (.tok (.chr (ph k)) e0):=by
 have p:=h.plT;rw[E]at p;have hr:=iQ h;have O:=C;have Q:=U;have x:=(λW (V:Gl W r)=>y7 r k W G V);generalize ph k=K at *;have X:∀(I:Fn) (first cap:jA) (w:gm),(Instr.makeFunc I first cap).run prog w= .ok (.func I first cap) w:=λ_ _ _ _=>rfl;cases pl
 all_goals
  simp only[ru,↓reduceIte]at J;subst J;go_enter func81,ntmps81;go_wp21;refine O.mono ?_;rintro e m ⟨rfl,j,o⟩;have H:=(Kept.refl [] m).alloc (.cells #[fV (cut bg),fV (cut e0),gu k] 183);have N:=fP m (.cells #[fV (cut bg),fV (cut e0),gu k] 183);have A:m.heap.size≠r:=by have:=iQ o;omega
  have y:=x _ (Q.kept (j.trans (H.mono (by simp))));have T:=j.size;go_wp21;refine y.mono ?_;rintro e w2 ⟨rfl,q⟩;have t:=q.at N (by simp);have Y:=fN t 0;have Z:=fN t 1;have q2:=fN t 2;have z2:=gh t 2;dsimp at Y Z q2;have KW:Kept [] m w2:=H.trans q;have u:Kept [r] w (w2.setCell ⟨m.heap.size,2,none⟩ (gu K)):=(j.trans (KW.mono (by simp))).setCell (.inr T) _;have z:Rd (w2.setCell ⟨m.heap.size,2,none⟩ (gu K)) r R bg e0:=(o.kept KW (by simp)).qY A _;go_wp2;go_ret;exact⟨⟨_,rfl,rfl⟩,u,z⟩
theorem Wi (r:Nat) (R:RC) (bg ps g cap b lg:Nat) (look:fY->Option fY) (cut:Nat->Nat) (w:gm) (h:Rd w r R bg ps) (j:Wy w r R g cap b lg look cut) (k:bg < R.cs.size):
  Calls prog 81 #[gE r] w λe w'=>oC w r R bg cut e w' (Ag R look lg bg):=by
 unfold Ag;split
 .rename_i m;exact LD r R bg ps (bg+1) _ true cut w h j.gl m (by have:=j.small;simp;omega) _ rfl (Ef r R bg ps g cap cut w h j.gx k j.small)
 .rename_i m;exact LD r R bg ps _ _ false cut w h j.gl (by grind) (jH (xo j.Zx.lk.short) (by decide)) _ rfl (Ek r R bg ps g cap b lg look cut w h j.gx j.Zx k j.small)
def Zh (r:Nat) (R:RC) (bg ps:Nat) (nm:fY) (w:gm) (h:Rd w r R bg ps) (k:ps<=R.cs.size) (m:R.cs.size<=1024):
  Calls prog 147 #[gE r,gu nm] w λe w'=>e=ig (.bool (Pk R nm ps))/\Kept [] w w':=by
 unfold Pk;cases ho:Mj (R.cs.extract ps R.cs.size)
 .exact ahK r R bg ps nm w h k m ho
 .by_cases j:nm.size < (xZ (R.cs.extract ps R.cs.size)).size
  .rw[vQ j];cases he:((small ((xZ (R.cs.extract ps R.cs.size)).extract 0 nm.size)).toList==nm.toList)
   .exact ahM r R bg ps nm w h k m ho j he
   .have:=ahN r R bg ps nm w h k m ho j he
    simpa using this
  .rw[wy j];exact ahL r R bg ps nm w h k m ho j
def uQ (R:RC) (ps:Nat):RC:={R with nT:=if Pk R R.nT ps=true then ⟨#[]⟩else R.nT}
def Rd.setOf (h:Rd w r R bg ps) (s:fY):Rd (w.setCell ⟨r,7,none⟩ (gu s)) r {R with nT:=s} bg ps:=fR h 7 _
def Wy.setOf (h:Wy w r R g cap b lg look cut) (s:fY):Wy w r {R with nT:=s} g cap b lg look cut:=
 ⟨⟨h.gx.av,h.gx.ne,h.gx.lt,h.gx.at_⟩,⟨h.Zx.lk,h.Zx.ne,h.Zx.mv,h.Zx.lgv,h.Zx.le⟩,h.gl,h.small⟩
theorem abO (r:Nat) (R:RC) (bg ps:Nat) (w:gm) (h:Rd w r R bg ps) (E:ps<=R.cs.size) (F:R.cs.size<=1024):
  Calls prog 80 #[gE r] w λe w'=>e=ig (.bool (!((uQ R ps).nT.toList==[])))/\Kept [r] w w'/\Rd w' r (uQ R ps) bg ps:=by
 by_cases q:R.nT=⟨#[]⟩
 .have e1:uQ R ps=R:=by
   have⟨cs,av,at_,mv,lg,nT,plT⟩:=R;simp only at q;subst q;simp[uQ]
  rw[e1,q];refine(Ze r R bg ps w h q).mono ?_;rintro e w' ⟨rfl,j⟩;exact⟨by simp,j.mono (by simp),h.kept j (by simp)⟩
 .have u:(R.nT.toList==[])=false:=by
   cases hq:(R.nT.toList==[])with
   |false=>rfl
   |true=>
    exfalso;apply q;have A:R.nT.toList=[]:=by simpa using hq
    rw[sK]at A;apply Qx;grind
  have o:=h.nT;have J:=iQ h;have C:=Zh r R bg ps R.nT w h E F;have x:=h;unfold uQ;cases hE:Pk R R.nT ps
  .rw[hE]at C;have t:=fM (show(!((if false=true then jB else R.nT).toList==[]))=true by simp[u]);have y:Hid (∀W,Rd W r R bg ps->Rd W r {R with nT:=if false=true then ⟨#[]⟩else R.nT} bg ps):=λW h=>h;rw[t.out];go_enter func80,ntmps80;go_wp21;refine C.mono ?_;rintro e H ⟨rfl,j⟩;have m:=x.kept j (by simp);have G:=m.nT;have z:=j.mono (S':=[r]) (by simp);go_wp2;go_ret;simp_all
  .rw[hE]at C;have y:Hid (∀W,Rd W r R bg ps->Rd (W.setCell ⟨r,7,none⟩ (gu jB)) r {R with nT:=if true=true then ⟨#[]⟩else R.nT} bg ps):=λW h=>h.setOf _;have t:=fM (show(!((if true=true then jB else R.nT).toList==[]))=false by simp);rw[t.out];go_enter func80,ntmps80;go_wp21;refine C.mono ?_;rintro e H ⟨rfl,j⟩;have k:=x.kept j (by simp);have G:=k.nT;have I:=k.free 7;have z:=(j.mono (S':=[r]) (by simp)).setCell (p:=⟨r,7,none⟩) (.inl (by simp)) (gu jB);have m:=y _ k;go_wp2;go_ret;simp_all
def kZ (R:RC) (look:fY->Option fY) (lg ps:Nat):AM:=
 if ps=R.cs.size then .tok .Y6 ps
 else if ((uQ R ps).nT.toList==[])=true then (if pre (R.cs.extract ps R.cs.size) qJ=true then rJ (uQ R ps) look lg ps (ps+1)else wE (uQ R ps) look lg ps)
 else Ag (uQ R ps) look lg ps
def Bh (R:RC) (ps:Nat):RC:=if ps=R.cs.size then R else uQ R ps
def ah0 (r:Nat) (R:RC) (bg ps g cap b lg:Nat) (look:fY->Option fY) (cut:Nat->Nat) (w:gm) (h:Rd w r R bg ps) (hO:Wy w r R g cap b lg look cut) (hp:ps<=R.cs.size):
  Calls prog 47 #[gE r] w λe w'=>oC w r (Bh R ps) ps cut e w' (kZ R look lg ps):=by
 have hs:=hO.small;have p2:=h.bg;have p3:=h.ps;have f2:=h.free 2;obtain⟨E,X⟩:∃E,E=w.setCell ⟨r,2,none⟩ (fV ps):=⟨_,rfl⟩;have K:Rd E r R ps ps:=by rw[X];exact h.ajv ps
 have G:Kept [r] w E:=by rw[X];exact(Kept.refl _ _).setCell (.inl (by simp)) _
 have HW:=fM X.symm;have HO:=hO.kept G;have CE:=pq r R ps ps E K;clear h hO X;by_cases t:ps=R.cs.size
 .have eT:kZ R look lg ps= .tok .Y6 ps:=by unfold kZ;rw[gv t]
  have eR:Bh R ps=R:=by unfold Bh;rw[gv t]
  rw[eT,eR];have e3:decide (ps=R.cs.size)=true:=by simp[t]
  rw[e3]at CE;have F:=fM CE;clear CE eT e3 t eR;go_enter func47,ntmps47;go_wp21;rw[HW.out];refine F.mono ?_;rintro e w2 ⟨rfl,q,rfl⟩;have CP:=qw r R ps ps g cap cut (E.drewN q) (show Rd (E.drewN q) r R ps ps from K) (HO.kept ((Kept.refl [r] E).drewN q)).gx hp hp hs;go_wp21;refine CP.mono ?_;rintro e Q ⟨rfl,j⟩;have p:=(G.drewN q).trans (j.mono (by simp));have u:Hid (Rd Q r R ps ps):=j.at (show Rd (E.drewN q) r R ps ps from K) (by simp);clear j CP;go_wp2;go_ret;exact⟨⟨_,rfl,rfl⟩,p,u⟩
 .have e3:decide (ps=R.cs.size)=false:=by simp[t]
  rw[e3]at CE;have F:=fM CE;clear CE e3;have eR:Bh R ps=uQ R ps:=by unfold Bh;rw[gH t]
  have eT:kZ R look lg ps=if ((uQ R ps).nT.toList==[])=true then (if pre ((uQ R ps).cs.extract ps (uQ R ps).cs.size) qJ=true then rJ (uQ R ps) look lg ps (ps+1)else wE (uQ R ps) look lg ps)else Ag (uQ R ps) look lg ps:=by unfold kZ;rw[gH t];rfl
  have Z:=(λq=>abO r R ps ps (E.drewN q) (show Rd (E.drewN q) r R ps ps from K) hp hs);have J:Wy E r (uQ R ps) g cap b lg look cut:=HO.setOf _;have a0:ps < (uQ R ps).cs.size:=by show ps < R.cs.size;omega
  have a3:(uQ R ps).cs.size<=1024:=hs;rw[eT,eR];clear eT eR t hp hs HO K;generalize uQ R ps=x at *;clear R;have Y:=λw2 (N:Rd w2 r x ps ps)=>lR r x ps ps qJ w2 N (by omega) a3 (by decide);cases ho:(x.nT.toList==[])
  .rw[ho]at Z;rw[gH (by simp)];have HT:=(λw' h1 N=>Wi r x ps ps g cap b lg look cut w' h1 N a0);generalize Ag x look lg ps=T at HT|-;clear ho Y;cases T with
   |stop=>
    go_enter func47,ntmps47;go_wp21;rw[HW.out];refine F.mono ?_;rintro e w2 ⟨rfl,q,rfl⟩;go_wp21;refine(Z q).mono ?_;rintro e Q ⟨rfl,j,o⟩;have p:=((Kept.refl [r] E).drewN q).trans j;have u:=fM o;clear j o;have I:=HT Q u (J.kept p);have H:=G.trans p;go_wp21;refine I.mono ?_;rintro e wz ⟨k,rfl,N,h3,h4⟩;have V:=oC.back (show oC Q r x ps cut _ wz .stop from⟨k,rfl,N,h3,h4⟩) H;clear N h3 h4 I;go_wp2;exact⟨rfl,V⟩
   |tok kd m=>
    go_enter func47,ntmps47;go_wp21;rw[HW.out];refine F.mono ?_;rintro e w2 ⟨rfl,q,rfl⟩;go_wp21;refine(Z q).mono ?_;rintro e Q ⟨rfl,j,o⟩;have p:=((Kept.refl [r] E).drewN q).trans j;have u:=fM o;clear j o;have I:=HT Q u (J.kept p);have H:=G.trans p;go_wp21;refine I.mono ?_;rintro e wz ⟨⟨v,rfl,hv⟩,hk,hr⟩;have V:=oC.back (show oC Q r x ps cut (ig v) wz (.tok kd m)from⟨⟨v,rfl,hv⟩,hk,hr⟩) H;clear hv hk hr I;go_wp2;go_ret;exact V
  .rw[ho]at Z;rw[gv rfl];cases hl:pre (x.cs.extract ps x.cs.size) qJ
   .rw[gH (by simp)];have O:taken x qJ ps=ps:=by unfold taken;rw[gH (by simp[hl])]
    rw[hl,O]at Y;have U:=fM Y;clear Y O hl ho;go_enter func47,ntmps47;go_wp21;rw[HW.out];refine F.mono ?_;rintro e w2 ⟨rfl,q,rfl⟩;go_wp21;refine(Z q).mono ?_;rintro e Q ⟨rfl,j,o⟩;have p:=((Kept.refl [r] E).drewN q).trans j;have u:=fM o;clear j o;go_wp21;refine(U _ u).mono ?_;rintro e w4 ⟨rfl,z,A⟩;have y:=p.trans z;have I:=Ek r x ps ps g cap b lg look cut w4 A (J.kept y).gx (J.kept y).Zx a0 a3;clear z A;go_wp21;refine I.mono ?_;rintro e w5 ⟨rfl,a1,a2⟩;have V:=(show oC w r x ps cut (ig (.iface 183 (.agg #[fV (cut ps),fV (cut (ps+qh look lg (x.cs.extract ps x.cs.size))),gu (sD look lg (x.cs.extract ps x.cs.size))]))) w5 (wE x look lg ps)from⟨⟨_,rfl,rfl⟩,G.trans (y.trans a1),a2⟩);clear a1 a2 I;go_wp2;go_ret;exact V
   .rw[gv rfl];have O:taken x qJ ps=ps+1:=by unfold taken;rw[gv hl];rfl
    have a4:ps+1<=x.cs.size:=lO hl (by omega);rw[hl,O]at Y;have U:=fM Y;have HL:=(λw' h1 N=>ON r x ps (ps+1) g cap b lg look cut w' h1 N a0 a4);generalize rJ x look lg ps (ps+1)=T at HL|-;clear Y O hl ho;cases T with
    |stop=>
     go_enter func47,ntmps47;go_wp21;rw[HW.out];refine F.mono ?_;rintro e w2 ⟨rfl,q,rfl⟩;go_wp21;refine(Z q).mono ?_;rintro e Q ⟨rfl,j,o⟩;have p:=((Kept.refl [r] E).drewN q).trans j;have u:=fM o;clear j o;go_wp21;refine(U _ u).mono ?_;rintro e w4 ⟨rfl,z,A⟩;have y:=p.trans z;have I:=HL w4 A (J.kept y);have H:=G.trans y;clear z A;go_wp21;refine I.mono ?_;rintro e wz ⟨k,rfl,N,h3,h4⟩;have V:=oC.back (show oC w4 r x ps cut _ wz .stop from⟨k,rfl,N,h3,h4⟩) H;clear N h3 h4 I;go_wp2;exact⟨rfl,V⟩
    |tok kd m=>
     go_enter func47,ntmps47;go_wp21;rw[HW.out];refine F.mono ?_;rintro e w2 ⟨rfl,q,rfl⟩;go_wp21;refine(Z q).mono ?_;rintro e Q ⟨rfl,j,o⟩;have p:=((Kept.refl [r] E).drewN q).trans j;have u:=fM o;clear j o;go_wp21;refine(U _ u).mono ?_;rintro e w4 ⟨rfl,z,A⟩;have y:=p.trans z;have I:=HL w4 A (J.kept y);have H:=G.trans y;clear z A;go_wp21;refine I.mono ?_;rintro e wz ⟨⟨v,rfl,hv⟩,hk,hr⟩;have V:=oC.back (show oC w4 r x ps cut (ig v) wz (.tok kd m)from⟨⟨v,rfl,hv⟩,hk,hr⟩) H;clear hv hk hr I;go_wp2;go_ret;exact V
def Rz (bs bm bB r:Nat) (C:jA) (R:RC) (bg ps:Nat) (k:gm) (j:gG) (h:la):Env:={WW bs bm bB r C R bg ps k with tv:=j,ta:=h}
def QR (R:RC) (o:fY) (p:Bool):RC:={R with nT:=o,plT:=p}
def N2 (R:RC) (bg ps:Nat) (o:fY) (p:Bool):((xE R bg ps).setIfInBounds 7 (gu o)).setIfInBounds 8 (.bool p)=xE (QR R o p) bg ps:=rfl
def RF.rdV {m : gm} {k : gG} {j : la} {f : Nat->Nat} (h:RF (Rz bs bm bB r C R bg ps m k j) f σ w):Rd w r (QR R σ.nT σ.iU) bg ps:=by
 have⟨L,_,hr⟩:=h;have e:w.heap[r]?=some (gz (((xE R bg ps).setIfInBounds 7 (gu σ.nT)).setIfInBounds 8 (.bool σ.iU)) 160):=hr.rd
 rwa [N2]at e
theorem RF.X0 {w0 : gm} {tv : gG} {ta : la} {f : Nat->Nat} (h:RF (Rz bs bm bB r C R bg ps w0 tv ta) f σ w) (T:List TypeId) (q:KT bs T w w') (hT:∀t∈Yo,t∈T->t=160) (hM:∀t∈T,t∈Jp) {u x : Nat} {o : fY} (hr:Rd w' r (QR R o σ.iU) u x)
  (p:gG) (y:la) (X:zr w' p y) (Q:y.length<=4096) (Z:Bool) (N:Z=true->∀g,p.ownBlock=some g->w.heap.size<=g) (Y:∀g,p.ownBlock=some g->bs<=g):
  RF (Rz bs bm bB r C R u x w' p y) f {σ with fresh:=Z,nT:=o} w':=by
 have⟨L,e,h⟩:=h;have F:∀t∈Yo,t≠160->t∉T:=λt ht V U=>V (hT t ht U);have⟨C',hbl,hC⟩:=h.iw;have z:xk bm w w':=by
  have⟨S,hk,hS⟩:=q;exact⟨S,hk,λk h1 h2=>by grind⟩
 have E:∀(b:Nat) (I:Array MapEntry) (H:Nat),w.heap[b]?=some (Obj.map I H)->w'.heap[b]?=some (Obj.map I H):=by
  intro b I H K;have⟨S,hk,hS⟩:=q;have A:b < w.heap.size:=(Array.getElem?_eq_some_iff.1 K).1;refine(hk.block b A λU=>?_).trans K;have⟨⟨c,t,m,J,_⟩,_⟩:=hS b U A;rw[K]at J;cases J
 refine⟨L,e,?_⟩;have j:=QG.move (w:=w) (w':=w') h.env h.fr z E;exact
  {fr:=Fr.refl _
   env:=⟨j.Ij,j.X1,j.spec,j.Zd,j.YI,j.ye⟩
   Fb:=h.Fb
   tX:=λi nd O=>(h.tX i nd O).kt q (λt ht=>F t (by revert t;decide) (by revert t;decide))
   inj:=h.inj
   BZ:=h.BZ
   Hw:=h.Hw
   uq:=h.uq
   FX:=h.FX
   wf:=⟨h.wf.gq,h.wf.act,h.wf.head,h.wf.form,h.wf.je,h.wf.kids,h.wf.ye⟩
   iw:=⟨C',q.at hbl (F _ (by decide) (by decide)),⟨hC.size,hC.low,hC.gq,hC.act,hC.head,hC.form,hC.mode,hC.kept,hC.wait,hC.Kg,hC.jJ,hC.gI,hC.behind⟩⟩
   pR:=q.row h.pR (F _ (by decide) (by decide))
   qB:=q.row h.qB (F _ (by decide) (by decide))
   H9:=h.H9
   x7:=h.x7
   F0:=h.F0
   pI:=q.row h.pI (F _ (by decide) (by decide))
   M1:=h.M1
   rd:=by
    show w'.heap[r]?=some (.cells (((xE R u x).setIfInBounds 7 (gu o)).setIfInBounds 8 (.bool σ.iU)) _ _);rw[N2];exact hr
   Tk:=by show 7+1 < 9;decide
   tok:=X
   MY:=Q
   bz:=jH (jH h.bz h.fr.size) q.size
   bB:=h.bB
   bR:=h.bR
   bN:=h.bN
   BU:=λh2 i g O hg G=>by
    have J:=N h2 g hg;have h4:g < w.heap.size:=by
     cases hel:σ.gV i with
     |none=>rw[h.FX i O hel]at G;cases G
     |some el=>
      have h5:=h.tX i (.el el) (Ab.jn hel);exact(h5.2.1.lt g G).2
    omega
   ab:=h.ab
   tb:=Y
   M0:=λv G=>by cases G}
structure TkW (a b:Nat) (kd:Int) (T:TypeId) (x:gG):Prop where
 hH:∀w,(Go.method 494 T x "Bytes").run prog w= .ok (427,.agg #[fV a,fV b]) w
 nil:∀w,(nilAhead 494 T x "Bytes").run prog w= .ok (some false) w
 kind:∀w,Calls prog 49 #[.iface T x] w λe w'=>e=ig (fV kd)/\w'=w
def pQ (a b:Nat):Un->gy
 | .Y6=>⟨a,b,.ie,[]⟩
 | .chr t=>⟨a,b,.kg t,[]⟩
 | .VZ nm L=>⟨a,b,.start nm,L⟩
 | .fin nm L=>⟨a,b,.stop nm,L⟩
 | .cmt t=>⟨a,b,.gM t,[]⟩
 | .dtp nm q=>⟨a,b,.iE nm q,[]⟩
 | .lost=>⟨a,b,.lost,[]⟩
def wP:Un->Nat
 | .Y6=>0
 | .chr _=>1
 | .VZ _ _=>2
 | .fin _ _=>3
 | .cmt _=>4
 | .dtp _ _=>5
 | .lost=>6
def Sg (a b:Int) (n:fY) (x:Option Addr) (m c:Nat) (w:gm):Calls prog 49 #[.iface 191 (.agg #[fV a,fV b,gu n,.slice x m c])] w λe w'=>e=ig (fV 2)/\w'=w:=by
 have j:=vZ;have h:=ri underlying191;go_enter func49,ntmps49;go_wp2;go_ret;simp
def Vg (a b:Int) (n:fY) (x:Option Addr) (m c:Nat) (w:gm):Calls prog 49 #[.iface 192 (.agg #[fV a,fV b,gu n,.slice x m c])] w λe w'=>e=ig (fV 3)/\w'=w:=by
 have k:=vZ;have h:=qV;have j:=ri underlying192;go_enter func49,ntmps49;go_wp2;go_ret;simp
def Zl (a b:Int) (n:fY) (w:gm):Calls prog 49 #[.iface 193 (.agg #[fV a,fV b,gu n])] w λe w'=>e=ig (fV 4)/\w'=w:=by
 have m:=vZ;have h:=qV;have k:=yZ;have j:=ri underlying193;go_enter func49,ntmps49;go_wp2;go_ret;simp
def Zm (a b:Int) (n:fY) (q:Bool) (w:gm):Calls prog 49 #[.iface 195 (.agg #[fV a,fV b,gu n,.bool q])] w λe w'=>e=ig (fV 5)/\w'=w:=by
 have o:=vZ;have h:=qV;have m:=yZ;have j:=tM;have k:=ri underlying195;go_enter func49,ntmps49;go_wp2;go_ret;simp
def Vf (a b:Int) (w:gm):Calls prog 49 #[.iface 185 (.agg #[fV a,fV b])] w λe w'=>e=ig (fV 6)/\w'=w:=by
 have o:=vZ;have h:=qV;have m:=yZ;have j:=tM;have k:=xe;have p:=ri underlying185;go_enter func49,ntmps49;go_wp2;go_ret;simp
theorem Yj.is {base : Nat} {k : Un} (h:Yj base (a:Int) (b:Int) v w k) (G:(pQ a b k).gO.length<=4096):
  ∃T x A,v= .iface T x/\(∀E:Env,E.tv=A->iy E (pQ a b k)= .iface T x)/\TkW a b (wP k) T x/\(∃y m c,A= .slice y m c)/\zr w A (pQ a b k).gO/\(∀g,A.ownBlock=some g->base<=g):=by
 have o:∀g,(ji).ownBlock=some g->base<=g:=λg z=>by simp[Value.ownBlock]at z
 cases k with
 |Y6=>exact⟨_,_,ji,h,λ_ _=>rfl,⟨λw=>by kernel_rfl,λw=>by kernel_rfl,λw=>ab5 (WW 0 0 0 0 #[] ⟨⟨#[]⟩,.nilFunc,0,.nilFunc,0,⟨#[]⟩,false⟩ 0 0 w) a b w⟩,⟨_,_,_,rfl⟩,pk _ _ _ _,o⟩
 |chr t=>exact⟨_,_,ji,h,λ_ _=>rfl,⟨λw=>by kernel_rfl,λw=>by kernel_rfl,λw=>Zk (WW 0 0 0 0 #[] ⟨⟨#[]⟩,.nilFunc,0,.nilFunc,0,⟨#[]⟩,false⟩ 0 0 w) a b t w⟩,⟨_,_,_,rfl⟩,pk _ _ _ _,o⟩
 |cmt t=>exact⟨_,_,ji,h,λ_ _=>rfl,⟨λw=>by kernel_rfl,λw=>by kernel_rfl,λw=>Zl a b t w⟩,⟨_,_,_,rfl⟩,pk _ _ _ _,o⟩
 |dtp n q=>exact⟨_,_,ji,h,λ_ _=>rfl,⟨λw=>by kernel_rfl,λw=>by kernel_rfl,λw=>Zm a b n q w⟩,⟨_,_,_,rfl⟩,pk _ _ _ _,o⟩
 |lost=>exact⟨_,_,ji,h,λ_ _=>rfl,⟨λw=>by kernel_rfl,λw=>by kernel_rfl,λw=>Vf a b w⟩,⟨_,_,_,rfl⟩,pk _ _ _ _,o⟩
 |VZ n L=>
  obtain⟨p,u,rfl,j⟩:=h;refine⟨_,_,.slice p L.length u,rfl,λE F=>?_,⟨λw=>by kernel_rfl,λw=>by kernel_rfl,λw=>Sg a b n p L.length u w⟩,⟨_,_,_,rfl⟩,jM j (iM _),λg z=>(j.lt g z).1⟩;grind[iy,pQ]
 |fin n L=>
  obtain⟨p,u,rfl,j⟩:=h;refine⟨_,_,.slice p L.length u,rfl,λE F=>?_,⟨λw=>by kernel_rfl,λw=>by kernel_rfl,λw=>Vg a b n p L.length u w⟩,⟨_,_,_,rfl⟩,jM j (iM _),λg z=>(j.lt g z).1⟩;grind[iy,pQ]
theorem N7 (j m:List UInt8):∀(k:Nat) (s:List UInt8),(Lib.replaceK j m k s).length<=s.length+k*m.length
 |0,s=>by simp[Lib.replaceK]
 |k+1,s=>by
  rw[Lib.replaceK];split
  .omega
  .have h:=N7 j m k (s.drop ((Lib.index s j).toNat+j.length));grind
theorem xA (s:fY):(ph s).size<=4*s.size+3:=by
 have e1:s.size=s.data.toList.length:=Qu s;have e2:(ph s).size=(Lib.replaceAll s.data.toList (ByteArray.mk #[0]).data.toList (ByteArray.mk #[239,191,189]).data.toList).length:=by
  rw[Qu];simp[ph]
 rw[e1,e2];unfold Lib.replaceAll Lib.replace;split
 .omega
 .have h:=N7 (ByteArray.mk #[0]).data.toList (ByteArray.mk #[239,191,189]).data.toList (Lib.replaceNum s.data.toList (ByteArray.mk #[0]).data.toList (-1)) s.data.toList;have j:Lib.replaceNum s.data.toList (ByteArray.mk #[0]).data.toList (-1)=Lib.count s.data.toList (ByteArray.mk #[0]).data.toList:=by
   unfold Lib.replaceNum;rw[gv (.inl (by decide))]
  have k:=Lib.count_le s.data.toList (ByteArray.mk #[0]).data.toList;grind
def TkG:Un->Prop
 | .chr t=>t.size<=100
 | .VZ _ L=>L.length<=1024/\∀p∈L,p.2.size<=1048576
 | .fin _ L=>L.length<=1024/\∀p∈L,p.2.size<=1048576
 |_=>True
def An (R:RC) (bg:Nat):AM->Prop
 | .stop=>True
 | .tok kd m=>bg < m/\m<=R.cs.size/\1<=wP kd/\(wP kd≠1->m=R.cs.size\/bt R.cs (m - 1)=62)/\TkG kd
def aaV (h:pre (R.cs.extract ps R.cs.size) iO=true):bt R.cs ps=62:=by
 have:=FY (j:=0) h (by decide);rw[Nat.add_zero]at this;exact this.trans rfl
theorem U6 (h:ps<=R.cs.size):rZ R ps=R.cs.size\/(ps < rZ R ps/\bt R.cs (rZ R ps - 1)=62):=by
 unfold rZ taken;split
 .rename_i k;right;have A:ps<=scan (jq iO) R.cs ps:=us;have e:(ByteArray.mk #[62]).size=1:=rfl;rw[e];exact⟨by omega,by rw[Wt];exact aaV k⟩
 .rename_i k;left;rcases pJ (scan (jq iO) R.cs ps) R.cs.size with m|u
  .exfalso;apply k;have t:=abN (bt_nonneg _ _) (bt_le _ _) (afB m);have z:(R.cs.extract (scan (jq iO) R.cs ps) R.cs.size).size=R.cs.size - scan (jq iO) R.cs ps:=by simp
   generalize scan (jq iO) R.cs ps=i at *;unfold pre;have o:(ByteArray.mk #[62]).size=1:=rfl;rw[o];have p:bt ((R.cs.extract i R.cs.size).extract 0 1) 0=62:=by
    rw[OO (by omega) (by omega),Iy];rw[OO (by omega) (gL _),Nat.add_zero];exact t
   have j:((R.cs.extract i R.cs.size).extract 0 1).size=1:=by simp;omega
   rw[z];have E:(R.cs.extract i R.cs.size).extract 0 1=iO:=by
    generalize (R.cs.extract i R.cs.size).extract 0 1=X at p j;have⟨⟨l⟩⟩:=X
    match l,j with
    |[x],_=>
     have:(x.toNat:Int)=62:=p;have y:x=62:=by apply UInt8.toNat_inj.1;show x.toNat=62;omega
     rw[y]
   grind
  .have:=p6 (q:=jq iO) h;omega
def Qq (h:∀x t,look x=some t->t.size<=16) (p:R.cs.size<=1024) (ps:Nat):(sV look lg R ps).size<=1048576:=by
 unfold sV;split
 .have j:=xA ⟨(wh look lg (nk R (mQ R (mQ R ps+1)))).toArray⟩;have k:=Bx (lg:=lg) h (nk R (mQ R (mQ R ps+1)));have m:=DI (R:=R) (ps:=mQ R (mQ R ps+1));have o:(ByteArray.mk (wh look lg (nk R (mQ R (mQ R ps+1)))).toArray).size=(wh look lg (nk R (mQ R (mQ R ps+1)))).length:=by simp[ByteArray.size]
  omega
 .decide
theorem MZ (h:∀x t,look x=some t->t.size<=16) (o:R.cs.size<=1024) {L : la} (k:∀p∈L,p.2.size<=1048576):∀p∈rV R look lg L ps,p.2.size<=1048576:=by
 unfold rV vT;split
 .exact k
 .intro p m;rcases List.mem_append.1 m with j|j
  .grind
  .obtain rfl:=List.mem_singleton.1 j;exact Qq h o _
theorem TM (y:∀x t,look x=some t->t.size<=16) (A:R.cs.size<=1024):∀(n:Nat) {L:la} {ps m:Nat} {k:la},R.cs.size - ps<=n->mf R look lg L ps= .whole m k->L.length<=ps->(∀p∈L,p.2.size<=1048576)->ps < m/\m<=R.cs.size/\bt R.cs (m - 1)=62/\k.length<=m/\∀p∈k,p.2.size<=1048576:=by
 intro n
 induction n with
 |zero=>
  intro L ps m k z j;have q:=tP (R:=R) (ps:=ps);rw[mf,dif_neg (by omega)]at j;cases j
 |succ n ih=>
  intro L ps m k z j H o;have q:=tP (R:=R) (ps:=ps);rw[mf]at j;split at j
  .split at j
   .rename_i h u;obtain⟨rfl,rfl⟩:=Jt.whole.inj j;exact⟨by omega,by omega,by rw[Wt];exact aaV u,by omega,o⟩
   .split at j
    .cases j
    .have E:=xz (R:=R) (ps:=jf R ps);have F:=zn (R:=R) (ps:=ky R (jf R ps));have G:=Ir (R:=R) (look:=look) (lg:=lg) (L:=L) (ps:=jf R ps);have:=ih (by omega) j (by omega) (MZ y A o);grind
  grind
theorem TN (o:∀x t,look x=some t->t.size<=16) (u:R.cs.size<=1024) {j : fY->la->Un} (k:bg < R.cs.size) (z:bg < ps) (q:∀L,1<=wP (j nm L)/\(L.length<=1024->(∀p∈L,p.2.size<=1048576)->TkG (j nm L))):An R bg (uw R j nm (mf R look lg [] (zf R ps))):=by
 have y:=afZ (R:=R) (ps:=ps);cases h:mf R look lg [] (zf R ps)with
 |stop=>trivial
 |lost=>exact⟨k,gL _,by decide,λ_=> .inl rfl,trivial⟩
 |whole m L=>
  have:=TM o u _ (gL _) h (iM _) (by simp);grind[An,uw]
def ada (j:∀x t,look x=some t->t.size<=16) (m:R.cs.size<=1024) (nm:fY) (h:bg < R.cs.size) (k:bg < ps):An R bg (uw R .VZ nm (mf R look lg [] (zf R ps))):=TN j m h k (λL=>⟨(by decide:1<=2),λa b=>⟨a,b⟩⟩)
def abz (j:∀x t,look x=some t->t.size<=16) (m:R.cs.size<=1024) (nm:fY) (h:bg < R.cs.size) (k:bg < ps):An R bg (uw R .fin nm (mf R look lg [] (zf R ps))):=TN j m h k (λL=>⟨(by decide:1<=3),λa b=>⟨a,b⟩⟩)
def FZ (j:∀x t,look x=some t->t.size<=16) (o:bg < R.cs.size):An R bg (wE R look lg bg):=by
 have k:=Ej (look:=look) (lg:=lg) (s:=R.cs.extract bg R.cs.size);have m:=GY (look:=look) (lg:=lg) (s:=R.cs.extract bg R.cs.size) (by simp;omega);have p:(R.cs.extract bg R.cs.size).size=R.cs.size - bg:=by simp
 exact⟨by omega,by omega,gL _,λh=>absurd rfl h,jH (xo j) (by decide)⟩
theorem adk (m:∀x t,look x=some t->t.size<=16) (q:bg < R.cs.size):An R bg (Ag R look lg bg):=by
 have o:=Ej (look:=look) (lg:=lg) (s:=R.cs.extract bg R.cs.size);have p:=GY (look:=look) (lg:=lg) (s:=R.cs.extract bg R.cs.size) (by simp;omega);have u:(R.cs.extract bg R.cs.size).size=R.cs.size - bg:=by simp
 unfold Ag;split
 .refine⟨by omega,by omega,gL _,λh=>absurd rfl h,?_⟩;have j:=xA (R.cs.extract bg (bg+1));have k:(R.cs.extract bg (bg+1)).size=1:=by simp;omega
  grind[TkG]
 .refine⟨by omega,by omega,gL _,λh=>absurd rfl h,?_⟩;have j:=xA (sD look lg (R.cs.extract bg R.cs.size));have k:=xo (look:=look) (lg:=lg) (s:=R.cs.extract bg R.cs.size) m;grind[TkG]
def zI {k : Un} (q:bg < ps) (j:ps<=R.cs.size) (o:1<=wP k) (m:TkG k):An R bg (.tok k (rZ R ps)):=by
 have p:=abH (R:=R) (ps:=ps);refine⟨by omega,Kn j,o,λ_=>?_,m⟩;rcases U6 j with h|⟨_,h⟩
 all_goals omega
def VT (k:∀x t,look x=some t->t.size<=16) (p:R.cs.size<=1024) (j:bg < R.cs.size) (m:bg < ps) (o:ps<=R.cs.size):An R bg (mY R look lg bg ps):=by
 unfold mY;split
 .exact abz k p _ j m
 .split
  .rename_i h;have:ps+1<=R.cs.size:=lO h o;exact⟨by omega,this,by decide,λ_=> .inr (by rw[Wt];exact aaV h),trivial⟩
  .split
   .exact FZ k j
   .exact zI m o (show 1<=4 by decide) trivial
def Zq (m:∀x t,look x=some t->t.size<=16) (q:R.cs.size<=1024) (k:bg < R.cs.size) (p:bg < ps) (j:ps<=R.cs.size):An R bg (rJ R look lg bg ps):=by
 unfold rJ;split
 .exact ada m q _ k p
 split
 .rename_i h;exact VT m q k (by omega) (lO h j)
 split
 .rename_i h;have o:ps+3<=R.cs.size:=lO h j;have y:=YQ (R:=R) (ps:=ps+3);refine⟨by omega,Nf o,(show 1<=4 by decide),λ_=>?_,trivial⟩;rcases Rf o with h|⟨_,h⟩
  all_goals omega
 split
 .rename_i h;have u:ps+8<=R.cs.size:=Sb h j;have:=aht (R:=R) (ps:=ps+8);exact zI (by omega) (JX u) (show 1<=5 by decide) trivial
 split
 .rename_i h;exact zI (by omega) (lO h j) (show 1<=4 by decide) trivial
 split
 .exact zI p j (show 1<=4 by decide) trivial
 .exact FZ m k
def KS (p:∀x t,look x=some t->t.size<=16) (u:R.cs.size<=1024) (q:ps < R.cs.size):An R ps (kZ R look lg ps)/\(∀o m,kZ R look lg ps= .tok o m->wP o≠1->bt R.cs ps=60):=by
 unfold kZ;rw[gH (by omega)];split
 .split
  .rename_i h;refine⟨Zq (R:=uQ R ps) p u q (by omega) (lO h (by omega)),λ_ _ _ _=>?_⟩;have:=FY (j:=0) h (by decide);rw[Nat.add_zero]at this;exact this.trans rfl
  .refine⟨FZ (R:=uQ R ps) p q,λo m h k=>?_⟩;unfold wE at h;obtain⟨rfl,_⟩:=AM.tok.inj h;exact absurd rfl k
 .refine⟨adk (R:=uQ R ps) p q,λo m h k=>?_⟩;unfold Ag at h;split at h
  .obtain⟨rfl,_⟩:=AM.tok.inj h;exact absurd rfl k
  .obtain⟨rfl,_⟩:=AM.tok.inj h;exact absurd rfl k
def Sw:kZ R look lg R.cs.size= .tok .Y6 R.cs.size:=by simp[kZ]
def TkG.tok {k : Un} (h:TkG k) (a b:Nat):(pQ a b k).k= .lost\/vS (pQ a b k):=by
 cases k with
 |lost=>simp[pQ]
 |chr t=>exact .inr ⟨h,rfl,by simp[pQ]⟩
 |VZ nm L=>exact .inr ⟨(by decide:(0:Nat)<=100),by unfold xJ;exact List.all_eq_true.2 (λp j=>vQ (h.2 p j)),by simp[pQ]⟩
 |fin nm L=>exact .inr ⟨(by decide:(0:Nat)<=100),by unfold xJ;exact List.all_eq_true.2 (λp j=>vQ (h.2 p j)),by simp[pQ]⟩
 |Y6=>exact .inr ⟨(by decide:(0:Nat)<=100),rfl,by simp[pQ]⟩
 |cmt t=>exact .inr ⟨(by decide:(0:Nat)<=100),rfl,by simp[pQ]⟩
 |dtp n q=>exact .inr ⟨(by decide:(0:Nat)<=100),rfl,by simp[pQ]⟩
def TkG.len {k : Un} (h:TkG k) (a b:Nat):(pQ a b k).gO.length<=1024:=by
 cases k with
 |VZ nm L=>exact h.1
 |fin nm L=>exact h.1
 |_=>simp[pQ]
def Sk (k:Nat) (w:gm):
  Calls prog 43 #[.iface 73 (gE k)] w λe w'=>e=ig (gE k)/\w'=w:=by
 have j:∀(v:gG) (h:TypeId) (w:gm),(Instr.typeAssert (.iface 73 v) h 73 true).run prog w= .ok (.tuple #[v,.bool true]) w:=λv h w=>by
  simp[Instr.typeAssert,qq underlying73]
 go_enter func43,ntmps43;go_wp2;go_ret;simp
theorem Fq (h j:Nat) (k:Nat) (w:gm) (v:gG) (o:w.heap[h]?=some (gz #[v,.pointer none] 67)) (t:w.heap[j]?=some (gz #[.pointer none] 73)) (q:h≠j) (p:j≠h):
  CallsD prog 42 #[gE h,gE j] (.panicking [{v:= .iface 73 (gE k),recovered:=false}]) w λe G w'=>
   e=pL/\G= .panicking [{v:= .iface 73 (gE k),recovered:=true}]/\w'.heap[h]?=some (gz #[ji,.pointer none] 67)/\w'.heap[j]?=some (gz #[gE k] 73)/\Kept [h,j] w w':=by
 have A:=fN o 0;have E:=fN o 1;have F:=fN t 0;have I:=gh o 0;have J:=gh o 1;have K:=gh t 0;dsimp at A E F;have x:Hid (∃W,W=((w.setCell ⟨h,0,none⟩ (ji)).setCell ⟨h,1,none⟩ (.pointer none)).setCell ⟨j,0,none⟩ (gE k)/\W.heap[h]?=some (gz #[ji,.pointer none] 67)/\W.heap[j]?=some (gz #[gE k] 73)/\Kept [h,j] w W):=by
  refine⟨_,rfl,?_,?_,?_⟩
  .rw[Below.heap_setCell _ _ _ _ q];exact fR (fR o 0 _) 1 _
  .refine fR (c:=#[.pointer none]) ?_ 0 _;rw[Below.heap_setCell _ _ _ _ p,Below.heap_setCell _ _ _ _ p];exact t
  .exact(((Kept.refl [h,j] w).setCell (.inl (by simp)) _).setCell (.inl (by simp)) _).setCell (.inl (by simp)) _
 refine callsD_of_wpS func42 rfl λm H u=>?_;apply wpS_seq;apply wpS_region;simp[wpOpsS,go_sem,recoverD,u,ntmps42,Exit.thenS];have y:=u;refine wpS_of_wp ?_;have z:(#[gE h,gE j]++((Array.replicate 7 undef).setIfInBounds 1 (Value.iface 73 (gE k))).setIfInBounds 0 (Value.iface 73 (gE k)))=#[gE h,gE j,.iface 73 (gE k),.iface 73 (gE k),undef,undef,undef,undef,undef]:=rfl;rw[z];go_wp21;refine(Sk k _).mono ?_;rintro e w' ⟨rfl,rfl⟩;go_wp2;have u:=y;have⟨W,hW,h1,h2,h3⟩:=x;rw[<-hW];cases m;simp_all[bodyPostS,results,results42]
theorem Lk.map (h:Lk w b look):∃p m,w.heap[b]?=some (Obj.map p m):=by
 have q:=h.run ⟨#[]⟩ w rfl;have t:=qq (w:=w) (show prog.underlying 155=some (.map 9 202) by simp);have j:∀o,w.heap[b]?=some o->(∀c e f,o≠ .cells c e f)->(getObj b).run prog w= .ok o w:=by
  intro o x y;cases o with
  |cells c e f=>grind
  |_=>simp[getObj,Sem.run,x]
 cases hb:w.heap[b]? with
 |none=>
  have u:=h.lt;grind
 |some o=>
  cases o with
  |map p m=>simp
  |cells c e f=>
   exfalso;have k:(getObj b).run prog w= .halt (Halt.stuck "getObj: a row of cells") w:=by simp[getObj,Sem.run,hb]
   simp[Instr.lookup,t,k,Result.andThen]at q
  |_=>
   exfalso;have k:=j _ hb (by simp);simp[Instr.lookup,t,k,Result.andThen,Go.stuck,Sem.run]at q
def Fr.map (h:Fr bs w w') (e:w.heap[b]?=wl.heap[b]?) (j:Lk wl b look):w'.heap[b]?=w.heap[b]?:=h.calm (.inl (by rw[e];exact j.map))
theorem KT.map {T : List TypeId} (h:KT bs T w w') (e:w.heap[b]?=wl.heap[b]?) (k:Lk wl b look):w'.heap[b]?=w.heap[b]?:=by
 have⟨es,ck,hm⟩:=k.map;rw[<-e]at hm;have⟨S,hk,hS⟩:=h;have j:b < w.heap.size:=(Array.getElem?_eq_some_iff.1 hm).1;refine hk.block b j λm=>?_;grind
inductive adO where
 |stop (e p:Nat)
 |done (σ:Ab) (L:List Sp)
 |stuck
def xI (R:RC) (σ:Ab) (ps:Nat) (t:gy):Ab:={σ with fresh:=t.pT,nT:=(Bh (QR R σ.nT σ.iU) ps).nT}
def nJ (R:RC) (look:fY->Option fY) (lg:Nat) (cut:Nat->Nat):Nat->Nat->Ab->List Sp->adO
 |0,_,_,_=> .stuck
 |n+1,ps,σ,L=>match kZ (QR R σ.nT σ.iU) look lg ps with
  | .stop=> .stop 7 (cut ps)
  | .tok k m=>match uE (gQ false ug) (pQ (cut ps) (cut m) k) (xI R σ ps (pQ (cut ps) (cut m) k))with
   | .stop e p=> .stop e p
   | .stuck=> .stuck
   | .ok _ σ'=>if wP k=0 then .done σ' L else nJ R look lg cut n m σ' (tH L ⟨(wP k:Int),cut ps,cut m⟩)
structure RgV (w:gm) (bm bB bD r b:Nat) (C:jA) (R:RC) (g cap:Nat) (cut:Nat->Nat) (base:Nat) (wl:gm) (ps bg:Nat) (σ:Ab) (v:gG) (L:List Sp) (wr:gm):Prop where
 rel:∃fl w0 tv ta,fl 0=bD/\RF (Rz w.heap.size bm bB r C R bg ps w0 tv ta) fl σ wr
 gx:M5 wr r R g cap cut
 aty:∃cA,wr.heap[g]?=some (gz cA 3)
 lk:wr.heap[b]?=wl.heap[b]?
 tb:wr.heap[w.heap.size+1]?=some (gz #[v,.pointer none] 67)
 sb:wr.heap[w.heap.size+2]?=some (gz #[.pointer none] 73)
 own:wr.ownsRow base 72 3 v L.length (lp L)
 kept:Kept [] w wr
 le:ps<=R.cs.size
 len:L.length<=ps
 Uv:w.heap.size<=base/\base<=wr.heap.size
 rge:w.heap.size<=r
 pos:0 < σ.nodes.length
theorem RgV.next {N : Nat} {base : Nat} {wr : gm} (h:RgV w bm bB N r b C R g cap cut base wl ps bg σ v L wr) (u:Kept [r] wr w2) {y A : Nat} {o : fY} (Z:Rd w2 r (QR R o σ.iU) y A) (V:b≠r) (G:b < wl.heap.size)
  (H:wl.heap.size<=wr.heap.size) (p:gG) (m:la) (J:zr w2 p m) (I:m.length<=4096) (Q:Bool) (z:∀g,p.ownBlock=some g->wr.heap.size<=g):
  (∃E,E 0=N/\RF (Rz w.heap.size bm bB r C R y A w2 p m) E {σ with fresh:=Q,nT:=o} w2)/\M5 w2 r R g cap cut/\(∃F,w2.heap[g]?=some (gz F 3))/\w2.heap[b]?=wl.heap[b]?/\w2.heap[w.heap.size+1]?=some (gz #[v,.pointer none] 67)/\w2.heap[w.heap.size+2]?=some (gz #[.pointer none] 73)/\w2.ownsRow base 72 3 v L.length (lp L)/\Kept [] w w2:=by
 have⟨E,w0,tv,ta,h0,hrf⟩:=h.rel;have x:=hrf.rdV;have K:∀{k:Nat} {c:jA} {t:TypeId},wr.heap[k]?=some (gz c t)->t≠160->k∉[r]:=by
  intro k c t j T Y;have e:=List.mem_singleton.1 Y;subst e;unfold Rd at x;rw[x]at j;simp at j;exact T j.2.symm
 refine⟨⟨E,h0,hrf.X0 [160] (.jL u (λk j _=>by
  have e:=List.mem_singleton.1 j;subst e;exact⟨⟨_,_,_,x,by simp⟩,h.rge⟩)) (λt _ T=>by grind) (by decide) Z p m J I Q (λ_=>z) (λg X=>jH h.kept.size (z g X))⟩,h.gx.kept u,?_,(u.block b (lU G H) (by grind)).trans h.lk,u.at h.tb (K h.tb (by decide)),u.at h.sb (K h.sb (by decide)),u.ownsRow h.own ?_,h.kept.next u (by simpa using h.rge)⟩
 .have⟨F,hA⟩:=h.aty;exact⟨F,u.at hA (K hA (by decide))⟩
 .intro k j;rcases h.own.2 with⟨e,_⟩|⟨q,O,U,e,_,hc,_⟩
  .rw[e]at j;cases j
  .rw[e]at j;have e3:=jv j;grind
def Js (w:gm) (e:Ending) (w':gm):adO->Prop
 | .stop c p=>∃k,e=ig (.tuple #[.agg #[ji,.pointer none],gE k])/\km w' k c p/\Kept [] w w'
 | .done fin L=>∃v k E h,e=ig (.tuple #[.agg #[v,gE k],.pointer none])/\h 0=k/\RF E h fin w'/\w'.ownsRow w.heap.size 72 3 v L.length (lp L)/\L.length<=1024/\Kept [] w w'
 | .stuck=>False
theorem TD {k p : Nat} (u:W.heap[w.heap.size+1]?=some (gz #[v,.pointer none] 67)) (t:W.heap[w.heap.size+1+1]?=some (gz #[.pointer none] 73)) (h:km W k c p) (o:Kept [] w W) (m:Kept [w.heap.size+1,w.heap.size+1+1] W w'):km w' k c p/\Kept [] w w':=by
 refine⟨m.at h ?_,o.next m (λx q=> .inr ?_)⟩
 .intro j;rcases List.mem_cons.1 j with e|j
  .rw[e]at h;unfold km at h;grind
  .have e:=List.mem_singleton.1 j;rw[e]at h;unfold km at h;grind
 grind
def acm (R:RC) (o:fY) (p:Bool) (ps:Nat):Bh (QR R o p) ps=QR R (Bh (QR R o p) ps).nT p:=by unfold Bh;split<;>rfl
theorem acQ (s:fY) (tv:gG) (base d f l:Nat) (w:gm) (ho:w.ownsRow base 5 1 tv s.size (kR s)) (hs:s.size<=1024) (hd:d<=64) (hf:f<=32) (hl:l<=16) (hT:yq w) (bo:LY w) (ak:∀av b,nJ (uZ s l av b) (qm KV) 8 (j5 s) ((uC s).size+1) 0 (S0 d f l 0) []≠ .stuck):
  Calls prog 29 #[tv,.agg #[fV d,fV f,fV l]] w λe w'=>∃av b,Js w e w' (nJ (uZ s l av b) (qm KV) 8 (j5 s) ((uC s).size+1) 0 (S0 d f l 0) []):=by
 have bT:∀(fn:Fn) (first cap:jA) (w:gm),(Instr.makeFunc fn first cap).run prog w= .ok (.func fn first cap) w:=λ_ _ _ _=>rfl;obtain⟨w0,a2⟩:∃w0,w0=((w.alloc (gz #[fV d,fV f,fV l] 64)).alloc (gz #[ji,.pointer none] 67)).alloc (gz #[.pointer none] 73):=⟨_,rfl⟩;have aa:Kept [] w w0:=by rw[a2];exact(((Kept.refl _ _).alloc _).alloc _).alloc _
 have HZ:w0.heap.size=w.heap.size+3:=by rw[a2];simp
 have aq:w0.heap[w.heap.size]?=some (gz #[fV d,fV f,fV l] 64):=by
  rw[a2,Below.heap_alloc _ _ _ (by simp;omega),Below.heap_alloc _ _ _ (by simp)];exact fP w _
 have bj:w0.heap[w.heap.size+1]?=some (gz #[ji,.pointer none] 67):=by
  rw[a2,Below.heap_alloc _ _ _ (by simp)];have:=fP (w.alloc (gz #[fV d,fV f,fV l] 64)) (gz #[ji,.pointer none] 67)
  simpa using this
 have bk:w0.heap[w.heap.size+2]?=some (gz #[.pointer none] 73):=by
  have:=fP ((w.alloc (gz #[fV d,fV f,fV l] 64)).alloc (gz #[ji,.pointer none] 67)) (gz #[.pointer none] 73);rw[a2];simpa using this
 have CN:=MF s tv base (l:Int) w0 (aa.ownsRow ho (λ_ _=>by simp)) hs;have c0:=fN aq 0;have c1:=fN aq 1;have c2:=fN aq 2;dsimp at c0 c1 c2;have⟨ao,cp,htv⟩:=gw ho;subst htv;have HW:=fM a2.symm;have aW:=hT;clear a2
 go_enter_defers func29,ntmps29
 go_wp21;rw[HW.out];refine CN.mono ?_;rintro e w1 ⟨r,b,av,g,cap,rfl,hr,hb,bq,bi,bc,be,aT,bn,a0⟩;have g1:=a0.at aq (by simp);have d0:=fN g1 0;have d1:=fN g1 1;have d2:=fN g1 2;dsimp at d0 d1 d2;have bl:=aW.fr (bm:=0) (.gN (aa.trans a0));have CB:=ahY (d:Int) (f:Int) (l:Int) (.func 46) #[gE r] #[] w1 bl;have HB:=And.intro hr (And.intro hb bq);go_wp21;refine CB.mono ?_;rintro e w2 ⟨bm,bB,bD,rfl,hN⟩;have J:=hN.k;have aY:Rd w2 r (uZ s l av b) 0 0:=bi.kept J (by simp);have⟨C,fl,hfl,hrf⟩:=ahZ w.heap.size bm bB bD r d f l w1 w2 (uZ s l av b) hN aY rfl rfl hd hf hl (by grind) (by omega);obtain⟨R,hR⟩:∃R,R=uZ s l av b:=⟨_,rfl⟩;have bd:R.cs=uC s:=by rw[hR];rfl
 have bU:R.nT=⟨#[]⟩:=by rw[hR];rfl
 have bW:R.plT=false:=by rw[hR];rfl
 have bz:R.mv= .map (some b):=by rw[hR];rfl
 have bt:R.lg=(8:Nat):=by rw[hR];rfl
 have bP:R.at_=(l:Int):=by rw[hR];rfl
 have b8:R.cs.size<=1024:=by rw[bd,uO];have:=I7 s s.size;omega
 rw[<-hR]at hrf;obtain⟨O,hO⟩:∃O,O=nJ R (qm KV) 8 (j5 s) (R.cs.size+1) 0 (S0 d f l 0) []:=⟨_,rfl⟩;have HO:=hO.symm;have ab:Hid (∀e w',Js w e w' O->∃av b,Js w e w' (nJ (uZ s l av b) (qm KV) 8 (j5 s) ((uC s).size+1) 0 (S0 d f l 0) [])):=λe w' h=>⟨av,b,by grind⟩;have bf:O≠ .stuck:=by rw[hO,hR];exact ak av b
 have bh:Hid (RgV w bm bB bD r b C R g cap (j5 s) w2.heap.size w2 0 0 (S0 d f l 0) (ji) [] w2):=fM
  {rel:=⟨fl,w2,ji,[],hfl,hrf⟩
   lk:=rfl
   gx:=by have:=bc;rw[<-hR]at this;exact this.kept (J.mono (by simp))
   aty:=by have⟨cA,hA⟩:=bn;exact⟨cA,J.at hA (by simp)⟩
   tb:=J.at (a0.at bj (by simp)) (by simp)
   sb:=J.at (a0.at bk (by simp)) (by simp)
   own:=pk _ _ _ _
   kept:=(aa.trans a0).trans J
   le:=iM _
   len:=gL _
   Uv:=⟨jH (jH aa.size a0.size) J.size,gL _⟩
   rge:=by omega
   pos:=by simp[S0]}
 have A:=fM (be.kept J (by simp));have aV:=bo;have bO:=(aa.trans a0).trans J;go_wp21
 go_loopw [] (λwr=>∃n ps bg σ v L,RgV w bm bB bD r b C R g cap (j5 s) w2.heap.size w2 ps bg σ v L wr/\nJ R (qm KV) 8 (j5 s) n ps σ L=O/\R.cs.size - ps < n) (λwr=>R.cs.size - (match wr.cell? ⟨r,3,none⟩with|some v=>(intOf v).toNat|none=>0))
 case atStart=>exact⟨R.cs.size+1,0,0,_,_,[],bh,HO,by omega⟩
 case round=>
  have⟨n,ps,bg,σ,v,L,h1,HGO,hnn⟩:=hrel;obtain⟨n,rfl⟩:∃k,n=k+1:=⟨n - 1,by omega⟩;have b4:Rd wr r (QR R σ.nT σ.iU) bg ps:=by have⟨_,_,_,_,_,hr⟩:=h1.rel;exact hr.rdV
  have P0:=b4.ps;have G:=h1;have br:Gl wr r:=by
   have⟨U,hl⟩:=aV.kept h1.kept;exact⟨U,hl,λe=>by have:=h1.rge;have:=aV.2;omega⟩
  have bC:Wy wr r (QR R σ.nT σ.iU) g cap b 8 (qm KV) (j5 s):=⟨⟨h1.gx.av,h1.gx.ne,h1.gx.lt,h1.gx.at_⟩,⟨⟨lU A.lt h1.Uv.2,A.short,λbH w' e=>A.run bH w' (e.trans h1.lk)⟩,aT,bz,bt,by decide⟩,br,b8⟩;have N:=ah0 r (QR R σ.nT σ.iU) bg ps g cap b 8 (qm KV) (j5 s) wr b4 bC h1.le;rw[acm]at N;have ah:ps < R.cs.size->An (QR R σ.nT σ.iU) ps (kZ (QR R σ.nT σ.iU) (qm KV) 8 ps):=λh=>(KS (R:=QR R σ.nT σ.iU) A.short b8 h).1;have aD:ps=R.cs.size->kZ (QR R σ.nT σ.iU) (qm KV) 8 ps= .tok .Y6 R.cs.size:=λe=>by rw[e];exact Sw (R:=QR R σ.nT σ.iU)
  have bM:=h1.le;rw[nJ]at HGO;obtain⟨on,b3⟩:∃on,on=(Bh (QR R σ.nT σ.iU) ps).nT:=⟨_,rfl⟩;have b7:∀t,xI R σ ps t={σ with fresh:=t.pT,nT:=on}:=λt=>by rw[b3];rfl
  rw[<-b3]at N;cases hT:kZ (QR R σ.nT σ.iU) (qm KV) 8 ps with
  |stop=>
   rw[hT]at N HGO;dsimp only at HGO;have CX:=fM N;have EO:=fM HGO.symm;clear N HGO;go_wp21;refine CX.mono ?_;rintro e w3 ⟨k,rfl,ak,bS,a6⟩;have⟨_,_,_,_,_,hrf⟩:=G.rel;have aG:=hrf.rdV;have ne:∀{k:Nat} {c:jA} {t:TypeId},wr.heap[k]?=some (gz c t)->t≠160->k∉[r]:=by
    intro k c t o ht U;have e:=List.mem_singleton.1 U;subst e;unfold Rd at aG;rw[aG]at o;simp at o;exact ht o.2.symm
   have Y:=a6.at G.tb (ne G.tb (by decide));have X:w3.heap[w.heap.size+1+1]?=_:=a6.at G.sb (ne G.sb (by decide));have V:=G.kept.next a6 (by simpa using G.rge);have F:=And.intro Y (And.intro X (And.intro ak V));go_wp2;refine leaves_cons (f:=42) (args:=#[gE (w.heap.size+1),gE (w.heap.size+1+1)]) (by simp) (by simp[go_sem]) ?_;refine(Fq (w.heap.size+1) (w.heap.size+1+1) k w3 v F.1 F.2.1 (by omega) (by omega)).mono ?_;rintro e u' ba ⟨rfl,rfl,t9,s9,k9⟩;have HF:=fM (TD F.1 F.2.1 F.2.2.1 F.2.2.2 k9);have q0:=fN t9 0;have q1:=fN t9 1;have q2:=fN s9 0;dsimp at q0 q1 q2;simp[Go.Leaves,settle,results,results29,go_sem,q0,q1,q2];refine ab _ _ ?_;rw[EO.out];exact⟨k,rfl,HF.1,HF.2⟩
  |tok k m=>
   rw[hT]at N HGO;dsimp only at HGO;have bQ:wP k=0->k= .Y6:=by cases k<;>simp[wP]
   have bp:TkG k:=by
    rcases pJ ps R.cs.size with h|h
    .have:=ah h;rw[hT]at this;exact this.2.2.2.2
    .have:=aD (by omega);rw[hT]at this;obtain⟨rfl,_⟩:=AM.tok.inj this;trivial
   have bw:wP k≠0->ps < m/\m<=R.cs.size:=by
    intro aP;rcases pJ ps R.cs.size with h|h
    .have:=ah h;rw[hT]at this;exact⟨this.1,this.2.1⟩
    .have:=aD (by omega);rw[hT]at this;obtain⟨rfl,_⟩:=AM.tok.inj this;exact absurd rfl aP
   have aE:=jH (bp.len (j5 s ps) (j5 s m)) (show 1024<=4096 by decide);rw[b7]at HGO;have CX:=fM N;clear N;go_wp21;refine CX.mono ?_;rintro e w3 ⟨⟨vv,rfl,bG⟩,a6,bE⟩;obtain⟨T,x,tv,rfl,hV,aJ,bF,b1,b2⟩:=bG.is aE;have⟨⟨fl,hfl,hrf⟩,Q,al,az,Y,X,aB,V⟩:=G.next a6 bE aT A.lt G.Uv.2 tv _ b1 aE (pQ (j5 s ps) (j5 s m) k).pT b2;obtain⟨t,ht⟩:∃t,t=pQ (j5 s ps) (j5 s m) k:=⟨_,rfl⟩;have z:=HGO;rw[<-ht]at hrf hV z;have hD:=λhh=>aaC (Rz w.heap.size bm bB r C R ps m w3 tv t.gO) rfl rfl bF ug t (λ_=>rfl) fl _ w3 hrf hh;have aZ:=hV (Rz w.heap.size bm bB r C R ps m w3 tv t.gO) rfl;cases hT1:uE (gQ false ug) t {σ with fresh:=t.pT,nT:=on} with
   |stuck=>rw[hT1]at z;exact absurd z.symm bf
   |stop c p=>
    have D:=hD (by rw[hT1];simp);rw[hT1]at D z;dsimp only at z;have EO:=fM z.symm;have C2:Hid (Calls prog 48 #[gE bB,.iface T x] w3 λe W=>∃j,e=rh j/\km W j c p/\Fr w.heap.size w3 W):=fM (by rwa [aZ]at D);have HQ:=fM (And.intro Y (And.intro X V));clear z HGO;go_wp21;refine C2.mono ?_;rintro e w4 ⟨k,rfl,ak,y⟩;have⟨Y,X,V⟩:=HQ;have Z:=y.Ar Y (by decide);have a8:w4.heap[w.heap.size+1+1]?=_:=y.Ar X (by decide);have ay:=y.kept V (gL _);have F:=And.intro Z (And.intro a8 (And.intro ak ay));go_wp2;refine leaves_cons (f:=42) (args:=#[gE (w.heap.size+1),gE (w.heap.size+1+1)]) (by simp) (by simp[go_sem]) ?_;refine(Fq (w.heap.size+1) (w.heap.size+1+1) k w4 v F.1 F.2.1 (by omega) (by omega)).mono ?_;rintro e u' ba ⟨rfl,rfl,t9,s9,k9⟩;have HF:=fM (TD F.1 F.2.1 F.2.2.1 F.2.2.2 k9);have q0:=fN t9 0;have q1:=fN t9 1;have q2:=fN s9 0;dsimp at q0 q1 q2;simp[Go.Leaves,settle,results,results29,go_sem,q0,q1,q2];refine ab _ _ ?_;rw[EO.out];exact⟨k,rfl,HF.1,HF.2⟩
   |ok u σ2=>
    have D:=hD (by rw[hT1];simp);rw[hT1]at D z;dsimp only at z;have aF:0 < ({σ with fresh:=t.pT,nT:=on}:Ab).nodes.length:=G.pos;have C2:Hid (Calls prog 48 #[gE bB,.iface T x] w3 λe W=>e=pL/\∃au,au 0=bD/\RF (Rz w.heap.size bm bB r C R ps m w3 tv t.gO) au σ2 W/\Fr w.heap.size w3 W/\0 < σ2.nodes.length):=
     fM (by
      rw[aZ]at D;exact D.mono (λe W hL=>by
       have⟨au,h5,h6,h7,h8,h9⟩:=hL;exact⟨h7,au,(h5 0 aF).trans hfl,h8,h9,lU aF h6⟩))
    have HQ:=fM (And.intro Q (And.intro al (And.intro az (And.intro Y (And.intro X (And.intro aB V))))));have aX:=a6.size;clear HGO;go_wp21;refine C2.mono ?_;rintro e w4 ⟨rfl,aK,af,aj,y,aQ⟩;have⟨Q,al,az,Y,X,aB,V⟩:=HQ;have bJ:w4.heap[b]?=w2.heap[b]?:=(y.map az A).trans az;have Z:=y.Ar Y (by decide);have a8:=y.Ar X (by decide);have ay:=y.kept V (gL _);have⟨cA,hA3⟩:=al;have aL:=y.Ar hA3 (by decide);have b0:M5 w4 r R g cap (j5 s):=⟨Q.av,Q.ne,iQ aL,λi hi=>by rw[fN aL,<-fN hA3];exact Q.at_ i hi⟩;have aR:w4.ownsRow w2.heap.size 72 3 v L.length (lp L):=by
     refine⟨aB.1,?_⟩;rcases aB.2 with e|⟨q,a3,ar,e,h1,hc,r'⟩
     .exact .inl e
     .exact .inr ⟨q,a3,ar,e,h1,y.Ar hc (by decide),r'⟩
    have aC:w2.heap.size<=w4.heap.size:=jH G.Uv.2 (jH aX y.size);have a9:=aJ.kind w4;by_cases aw:wP k=0
    .rw[aw]at a9;have CK:=fM a9;have aN:=z;rw[gv aw]at aN;have EO:=fM aN.symm;clear a9 aN;have CD:=Rn _ _ _ _ aj;have eD:nV aK 0=gE bD:=by unfold nV;rw[af]
     rw[eD]at CD;have⟨ax,ac,hv⟩:=gw aR;subst hv;have c0:=fN Z 0;have c1:=fN Z 1;have c2:=fN (show w4.heap[w.heap.size+1+1]?=_ from a8) 0;have f0:=gh Z 0;have f1:=gh Z 1;have f2:=gh (show w4.heap[w.heap.size+1+1]?=_ from a8) 0;dsimp at c0 c1 c2;have HX:=fM (And.intro Z (And.intro a8 (And.intro aR (And.intro ay (And.intro aj af)))));go_wp21;refine CK.mono ?_;rintro e w5 ⟨rfl,rfl⟩;go_wp21;refine CD.mono ?_;rintro e w5 ⟨rfl,rfl⟩;have⟨tb5,sb5,ow5,kw5,hrf5,ag⟩:=HX;have aP:w.heap.size+1+1≠w.heap.size+1:=by omega
     have I:(w5.setCell ⟨w.heap.size+1,1,none⟩ (gE bD)).heap[w.heap.size+1]?=some (gz #[.slice ax L.length ac,gE bD] 67):=fR tb5 1 _;have an:(w5.setCell ⟨w.heap.size+1,1,none⟩ (gE bD)).heap[w.heap.size+1+1]?=some (gz #[.pointer none] 73):=(Below.heap_setCell _ _ _ _ aP).trans sb5;have E1:=fM (oP I 0 (.slice ax L.length ac) rfl);have E2:=fM (oP I 1 (gE bD) rfl);have E3:=fM (oP an 0 (.pointer none) rfl);have q0:=fN I 0;have q1:=fN I 1;have q2:=fN an 0;dsimp at q0 q1 q2;have E:Kept [w.heap.size+1] w5 (w5.setCell ⟨w.heap.size+1,1,none⟩ (gE bD)):=(Kept.refl _ _).setCell (.inl (by simp)) _;have a4:Rd w5 r (QR R σ2.nT σ2.iU) ps m:=hrf5.rdV;have bA:r∉[w.heap.size+1]:=by
      intro U;have e:=List.mem_singleton.1 U;unfold Rd at a4;rw[e,tb5]at a4;simp at a4
     have a5:=hrf5.X0 [67] (.jL E (λk o _=>by
      have e:=List.mem_singleton.1 o;subst e;exact⟨⟨_,_,_,tb5,by simp⟩,by omega⟩)) (by decide) (by decide) (a4.kept E bA) (ji) [] (pk _ _ _ _) (iM _) σ2.fresh (λ_ g hg=>by simp[Value.ownBlock]at hg) (λg hg=>by simp[Value.ownBlock]at hg)
     have HF:Hid (Js w (ig (.tuple #[.agg #[.slice ax L.length ac,gE bD],.pointer none])) (w5.setCell ⟨w.heap.size+1,1,none⟩ (gE bD)) O):=by
      rw[EO.out];refine fM ⟨_,bD,_,aK,rfl,ag,a5,?_,by have:=G.len;omega,kw5.setCell (.inr (by simp)) _⟩;refine jM (E.ownsRow ow5 (λq hq=>?_)) G.Uv.1;intro U;have e:=List.mem_singleton.1 U;subst e;rcases ow5.2 with⟨e2,_⟩|⟨q,a3,ar,e2,_,hc,_⟩
      .rw[e2]at hq;cases hq
      .rw[e2]at hq;have e3:=jv hq;subst e3;rw[tb5]at hc;simp at hc
     go_wp2;rw[E1.out,E2.out,E3.out];refine leaves_cons (f:=42) (args:=#[gE (w.heap.size+1),gE (w.heap.size+1+1)]) (by simp) (by simp[go_sem]) ?_;refine(S4 ⟨w.heap.size+1,0,none⟩ ⟨w.heap.size+1+1,0,none⟩ _).mono ?_;rintro e u' ba ⟨rfl,rfl,rfl⟩;simp[Go.Leaves,settle,results,results29,go_sem,q0,q1,q2];exact ab _ _ HF
    .have bv:=bw aw;have CK:=fM a9;have aU:=z;rw[gH aw]at aU;have bR:((wP k:Int)==0)=false:=beq_eq_false_iff_ne.2 (by omega);have bb:L.length<=1024:=by have:=G.len;have:=G.le;omega
     clear a9;have bu:=aJ.hH;have bL:=aJ.nil;have CY:=Q9 (j5 s ps:Int) (j5 s m:Int) w4;have aC:w2.heap.size<=w4.heap.size:=jH G.Uv.2 (jH aX y.size);have HX:=fM (And.intro b0 (And.intro aL (And.intro bJ (And.intro Z (And.intro a8 (And.intro aR (And.intro ay (And.intro aj (And.intro af aC)))))))));go_wp21;refine CK.mono ?_;rintro e w5 ⟨rfl,rfl⟩;go_wp21;refine CY.mono ?_;rintro e w6 ⟨rfl,E⟩;have⟨hat5,hA5,lk5,tb5,sb5,ow5,kw5,hrf5,ag,big5⟩:=HX;have I:=E.at tb5 (by simp);have H:=E.ownsRow ow5 (λ_ _=>by simp);have⟨ax,ac,hv⟩:=gw H;subst hv;have c6:=fN I 0;dsimp at c6;have CA:=QS w2.heap.size _ L ⟨(wP k:Int),j5 s ps,j5 s m⟩ w6 H (jH big5 E.size) (by omega);have HP:=fM (And.intro (hat5.kept (E.mono (by simp))) (And.intro (E.at hA5 (by simp)) (And.intro ((E.block b (lU A.lt big5) (by simp)).trans lk5) (And.intro I (And.intro (E.at sb5 (by simp)) (And.intro H (And.intro (kw5.trans E) (And.intro (hrf5.ib E) (And.intro ag (jH big5 E.size))))))))));go_wp21;refine CA.mono ?_;rintro e w7 ⟨v7,rfl,aS,K⟩;have⟨hat6,hA6,lk6,I,an,H,kw6,a5,hfl6,big6⟩:=HP;have ne:∀{k:Nat} {c:jA} {t:TypeId},w6.heap[k]?=some (gz c t)->t≠72->k∉(Value.slice ax L.length ac).ownBlock.toList:=by
      intro k c t o ht U;rcases H.2 with⟨e2,_⟩|⟨q,a3,ar,e2,_,hc,_⟩
      .rw[e2]at U;simp[Value.ownBlock]at U
      .rw[e2]at U;simp[Value.ownBlock]at U;subst U;rw[o]at hc;simp at hc;exact ht hc.2
     have aH:=a5.rdV;have bK:w7.heap[b]?=w2.heap[b]?:=(KT.map (bs:=w.heap.size) (T:=[72]) (.jL K (λk o _=>by
      obtain⟨c,m,hc⟩:=sT H (by simpa using o);exact⟨⟨_,_,_,hc,by simp⟩,by have h7:=(H.lt k (by simpa using o)).1;have h8:=G.Uv.1;omega⟩)) lk6 A).trans lk6
     have ap:=K.at I (ne I (by decide));have b9:=K.at an (ne an (by decide));have ad:=K.at hA6 (ne hA6 (by decide));have ai:Rd w7 r (QR R σ2.nT σ2.iU) ps m:=K.at aH (ne aH (by decide));have ae:M5 w7 r R g cap (j5 s):=⟨hat6.av,hat6.ne,iQ ad,λi hi=>by rw[fN ad,<-fN hA6];exact hat6.at_ i hi⟩;have bI:Kept [] w w7:=kw6.next K (λx hx=> .inr (by have h7:=(H.lt x (by simpa using hx)).1;have h8:=G.Uv.1;omega));have b5:=a5.X0 [72] (.jL K (λk o _=>by
      obtain⟨c,m,hc⟩:=sT H (by simpa using o);exact⟨⟨_,_,_,hc,by simp⟩,by have h7:=(H.lt k (by simpa using o)).1;have h8:=G.Uv.1;omega⟩)) (by decide) (by decide) ai (ji) [] (pk _ _ _ _) (iM _) σ2.fresh (λ_ g hg=>by simp[Value.ownBlock]at hg) (λg hg=>by simp[Value.ownBlock]at hg)
     have⟨a7,p7,hv7⟩:=gw aS;subst hv7;have c7:=fN ap 0;have f7:=gh ap 0;dsimp at c7;have a1:Kept [w.heap.size+1] w7 (w7.setCell ⟨w.heap.size+1,0,none⟩ (.slice a7 (tH L ⟨(wP k:Int),j5 s ps,j5 s m⟩).length p7)):=(Kept.refl _ _).setCell (.inl (by simp)) _;have aA:∀{k:Nat} {c:jA} {t:TypeId},w7.heap[k]?=some (gz c t)->t≠67->k∉[w.heap.size+1]:=by
      intro k c t o ht U;have e:=List.mem_singleton.1 U;subst e;rw[ap]at o;simp at o;exact ht o.2.symm
     have aI:Rd (w7.setCell ⟨w.heap.size+1,0,none⟩ (.slice a7 (tH L ⟨(wP k:Int),j5 s ps,j5 s m⟩).length p7)) r (QR R σ2.nT σ2.iU) ps m:=a1.at ai (aA ai (by decide));have b6:=b5.X0 [67] (.jL a1 (λk o _=>by
      have e:=List.mem_singleton.1 o;subst e;exact⟨⟨_,_,_,ap,by simp⟩,by omega⟩)) (by decide) (by decide) aI (ji) [] (pk _ _ _ _) (iM _) σ2.fresh (λ_ g hg=>by simp[Value.ownBlock]at hg) (λg hg=>by simp[Value.ownBlock]at hg)
     have aM:=a1.at ad (aA ad (by decide));have HE:Hid (RgV w bm bB bD r b C R g cap (j5 s) w2.heap.size w2 m ps σ2 (.slice a7 (tH L ⟨(wP k:Int),j5 s ps,j5 s m⟩).length p7) (tH L ⟨(wP k:Int),j5 s ps,j5 s m⟩) (w7.setCell ⟨w.heap.size+1,0,none⟩ (.slice a7 (tH L ⟨(wP k:Int),j5 s ps,j5 s m⟩).length p7))):=fM
      {rel:=⟨aK,_,_,_,hfl6,b6⟩
       lk:=by
        rw[a1.block b (lU A.out.lt (jH big6 K.size)) (by
         intro U;have e:=List.mem_singleton.1 U;omega)]
        exact bK
       gx:=⟨ae.av,ae.ne,iQ aM,λi hi=>by rw[fN aM,<-fN ad];exact ae.at_ i hi⟩
       aty:=⟨_,aM⟩
       tb:=fR ap 0 _
       sb:=a1.at b9 (aA b9 (by decide))
       own:=a1.ownsRow aS (λq hq=>by
        rcases aS.2 with⟨e2,_⟩|⟨q',a3,ar,e2,_,hc,_⟩
        .rw[e2]at hq;cases hq
        .rw[e2]at hq;have e3:=jv hq;subst e3;exact aA hc (by decide))
       kept:=bI.setCell (.inr (by simp)) _
       le:=bv.2
       pos:=aQ
       len:=by have h8:=Yy L ⟨(wP k:Int),j5 s ps,j5 s m⟩;have h9:=G.len;omega
       Uv:=⟨G.Uv.1,jH (jH big6 K.size) a1.size⟩
       rge:=G.rge}
     have P8:=aI.ps;have aO:R.cs.size - m < R.cs.size - ps:=by omega
     generalize hlq:(tH L ⟨(wP k:Int),j5 s ps,j5 s m⟩).length=bN at *;go_wp2;go_roundw
     case rel=>exact⟨n,m,ps,σ2,_,_,HE,aU,by omega⟩
     case measure=>rw[P8,P0];simpa [intOf]using aO
def BM (σ:Ab):Prop:=6<=σ.mode\/σ.mode=5/\6<=σ.kept
def En (r:pM Unit):Prop:=∀u h,r= .ok u h->BM h
def Es {α:Type} {m:M α} {f:α->M Unit} (h:∀a j,m σ= .ok a j->En (f a j)):En ((m>>=f) σ):=by
 intro u k e;rw[M.gn]at e;cases hm:m σ with
 |ok a j=>rw[hm]at e;exact h a j hm u k e
 |stop c p=>rw[hm]at e;cases e
 |stuck=>rw[hm]at e;cases e
def zB {m:M Unit} (h:En (m σ)):En ((m>>=λ_=>(Pure.pure ():M Unit)) σ):=Es λa o e u k j=>by
 cases j;exact h _ _ e
def xn {α k:Type} {m:M α} {f:α->M k} {σ' : Ab} {b:k} (h:(m>>=f) σ= .ok b σ'):∃a j,m σ= .ok a j/\f a j= .ok b σ':=by
 rw[M.gn]at h;cases hm:m σ with
 |ok a j=>rw[hm]at h;exact⟨a,j,rfl,h⟩
 |stop c p=>rw[hm]at h;cases h
 |stuck=>rw[hm]at h;cases h
def RB.en {r : pM Unit} (h:RB c σ r):En r:=by
 rintro u m rfl;rcases h.2.1.sh with j|⟨j,k,_⟩|⟨j,_⟩
 .exact .inl (Eg j)
 .exact .inr ⟨j,Eg k⟩
 .exact .inl (by omega)
section
variable {a b n:Nat} {gx:la} {σ:Ab}
def en6 (j:σ.mode=6):En (gQ false (n+1) 6 ⟨a,b,.ie,gx⟩ σ):=by
 refine jy (sp:=kO) (P:=En) (by simp) rfl rfl ?_;intro u h e;cases e;exact .inl (by omega)
def en4:En (gQ false (n+2) 4 ⟨a,b,.ie,gx⟩ σ):=by
 refine jy (sp:=mM) (P:=En) (by simp) rfl rfl ?_;show En (mc (gQ false (n+1)) ⟨a,b,.ie,gx⟩ σ);unfold mc;exact Es λ_ h _=>zB (m:=jX (gQ false (n+1)) ⟨a,b,.ie,gx⟩) (σ:={h with mode:=6}) (en6 rfl)
def en3:En (gQ false (n+3) 3 ⟨a,b,.ie,gx⟩ σ):=by
 refine jy (sp:=lZ) (P:=En) (by simp) rfl rfl ?_;exact zB (m:=jX (gQ false (n+2)) ⟨a,b,.ie,gx⟩) (σ:={σ.pop with mode:=4}) en4
def en2:En (gQ false (n+4) 2 ⟨a,b,.ie,gx⟩ σ):=by
 refine jy (sp:=lK) (P:=En) (by simp) rfl rfl ?_;show En (nR (gQ false (n+3)) ⟨a,b,.ie,gx⟩ σ);unfold nR;refine Es λ_ j h=>zB ?_;unfold qX at h;obtain⟨_,_,_,h⟩:=xn h;obtain⟨_,_,_,h⟩:=xn h;obtain⟨_,k,_,h⟩:=xn h;cases h;exact en3
def en1:En (gQ false (n+5) 1 ⟨a,b,.ie,gx⟩ σ):=by
 refine jy (sp:=lH) (P:=En) (by simp) rfl rfl ?_;show En (nQ (gQ false (n+4)) ⟨a,b,.ie,gx⟩ σ);unfold nQ;refine Es λ_ j h=>zB ?_;unfold qW at h;obtain⟨_,_,_,h⟩:=xn h;obtain⟨_,_,_,h⟩:=xn h;obtain⟨_,_,_,h⟩:=xn h;obtain⟨_,k,_,h⟩:=xn h;cases h;exact en2
def en0:En (gQ false (n+6) 0 ⟨a,b,.ie,gx⟩ σ):=by
 refine jy (sp:=tC) (P:=En) (by simp) rfl rfl ?_;exact zB (m:=jX (gQ false (n+5)) ⟨a,b,.ie,gx⟩) (σ:={σ with jJ:=true,mode:=1}) en1
def Us (y:4*64+8<=n) (x:vS ⟨a,b,.ie,gx⟩) (m:ni σ) (u:HS σ.mode σ.gq σ.head) (z:wt σ < 995000) (k:σ.waiting.length < 4000):En (gQ false (n+6) σ.mode ⟨a,b,.ie,gx⟩ σ):=by
 rcases u with⟨j,_⟩|⟨j,_⟩|⟨j,_⟩|⟨j,_⟩|⟨j,p⟩
 .rcases pJ σ.mode 1 with t|t
  .have e:σ.mode=0:=by omega
   rw[e];exact en0
  .have e:σ.mode=1:=by omega
   rw[e];exact en1 (n:=n+1)
 .rw[j];exact en2 (n:=n+2)
 .rw[j];exact en3 (n:=n+3)
 .rw[j];exact en4 (n:=n+4)
 .have q:σ.gq.length<=64:=by obtain⟨r,o⟩:=m;exact jH o.x7 o.QE
  exact(Jr 64 (n+6) (by omega) _ σ ⟨x,⟨m,p,j⟩,(λh=>by cases h),by omega,k,q⟩).en
def ahd (x:vS ⟨a,b,.ie,gx⟩) (g:yK σ) (t:FV σ < 990000) (o:σ.waiting.length < 4000):En (gQ false ug σ.mode ⟨a,b,.ie,gx⟩ σ):=by
 have N:wt σ < 990000:=by unfold FV at t;omega
 rcases g.ms.1 with h|⟨p,y,q,J⟩|⟨p,y,q⟩
 .exact Us (n:=294) (by omega) x g.iv h (by omega) o
 .rw[p];refine jy (n:=299) (sp:=rQ) (P:=En) (by simp) rfl rfl ?_;obtain⟨I,_⟩:=Gq g.iv q;exact zB (m:=jX (gQ false 299) ⟨a,b,.ie,gx⟩) (σ:={σ.pop with mode:=σ.kept}) (Us (n:=293) (σ:={σ.pop with mode:=σ.kept}) (by omega) x (I.mg rfl rfl rfl rfl rfl rfl rfl) J (by show wt σ < _;omega) o)
 .rw[p];refine jy (n:=299) (sp:=ld) (P:=En) (by simp) rfl rfl ?_;show En (lG (gQ true 299) (gQ false 299) ⟨a,b,.ie,gx⟩ σ);unfold lG;have k:=Cp (n:=298) g.iv q g.wz (by unfold FV at t;omega);refine Es λu j e=>?_;have H:oc (gQ true (298+1)) σ= .ok u j:=e;rw[H]at k;obtain⟨z,F,O,G,Q,T,U,V,X,A,E⟩:=k;have K:qG j.kept=true:=by rw[G];rcases y with e|e|e<;>(rw[e];rfl)
  exact zB (m:=jX (gQ false 299) ⟨a,b,.ie,gx⟩) (σ:={j with waiting:=[],mode:=j.kept}) (Us (n:=293) (σ:={j with waiting:=[],mode:=j.kept}) (by omega) x (z.mg rfl rfl rfl rfl rfl rfl rfl) (.inr (.inr (.inr (.inr ⟨K,F⟩)))) (by show wt j < _;unfold FV at t;omega) (by show(0:Nat) < 4000;omega))
def aaB (k:vS ⟨a,b,.ie,gx⟩) (g:yK σ) (j:FV σ < 990000) (h:σ.waiting.length < 4000):En (uE (gQ false ug) ⟨a,b,.ie,gx⟩ σ):=by
 show En (if σ.behind&&kJ (gy.chars ⟨a,b,.ie,gx⟩) yo then pM.ok () {σ with behind:=false,gI:=a} else jX (gQ false ug) ⟨a,b,.ie,gx⟩ {σ with behind:=false,gI:=a});have e:kJ (gy.chars ⟨a,b,.ie,gx⟩) yo=false:=(by decide+kernel:kJ jB yo=false);rw[e,Bool.and_false,gH (by simp)];exact ahd (σ:={σ with behind:=false,gI:=a}) k ⟨g.iv.mg rfl rfl rfl rfl rfl rfl rfl,g.ms,g.wz⟩ j h
end
def ZA (R:RC) (σ:Ab) (ps:Nat) (t:gy):Jq (xI R σ ps t) t:=by
 intro h;have⟨a,b,k,gx⟩:=t;cases k<;>first|rfl|cases h
def Km (g:yK σ) (R:RC) (ps:Nat) (t:gy):yK (xI R σ ps t):=⟨g.iv.mg rfl rfl rfl rfl rfl rfl rfl,g.ms,g.wz⟩
def agl (R:RC) (cut:Nat->Nat) (ps:Nat) (σ:Ab):adO->Prop
 | .stuck=>False
 | .stop _ p=>∃q,ps<=q/\q<=R.cs.size/\p=cut q
 | .done σ' _=>yK σ'/\FV σ'<=FV σ+580*(R.cs.size+1 - ps)/\σ'.qu=σ.qu/\σ'.rH=σ.rH/\σ'.pP=σ.pP/\BM σ'/\∀i s,iV σ i s->iV σ' i s
def ZM (hk:∀x t,look x=some t->t.size<=16) (hz:R.cs.size<=1024):∀(n ps:Nat) (σ:Ab) (L:List Sp),ps<=R.cs.size->R.cs.size - ps < n->yK σ->FV σ+580*(R.cs.size+1 - ps) < 990000->σ.waiting.length+(R.cs.size+1 - ps) < 4000->agl R cut ps σ (nJ R look lg cut n ps σ L):=by
 intro n
 induction n with
 |zero=>intro ps σ L A h2;omega
 |succ n ih=>
  intro ps σ L A h2 g hp hw;rw[nJ];have j:ps < R.cs.size->An (QR R σ.nT σ.iU) ps (kZ (QR R σ.nT σ.iU) look lg ps):=λh=>(KS (R:=QR R σ.nT σ.iU) hk hz h).1;have o:ps=R.cs.size->kZ (QR R σ.nT σ.iU) look lg ps= .tok .Y6 R.cs.size:=λe=>by rw[e];exact Sw (R:=QR R σ.nT σ.iU)
  cases hT:kZ (QR R σ.nT σ.iU) look lg ps with
  |stop=>exact⟨ps,gL _,A,rfl⟩
  |tok k m=>
   dsimp only;have z:TkG k:=by
    rcases pJ ps R.cs.size with h|h
    .have:=j h;rw[hT]at this;exact this.2.2.2.2
    .have:=o (by omega);rw[hT]at this;obtain⟨rfl,_⟩:=AM.tok.inj this;trivial
   have E:wP k≠0->ps < m/\m<=R.cs.size:=by
    intro y;rcases pJ ps R.cs.size with h|h
    .have:=j h;rw[hT]at this;exact⟨this.1,this.2.1⟩
    .have:=o (by omega);rw[hT]at this;obtain⟨rfl,_⟩:=AM.tok.inj this;exact absurd rfl y
   have ht:=af3 (pQ (cut ps) (cut m) k) (z.tok _ _) (Km g R ps (pQ (cut ps) (cut m) k)) (ZA R σ ps _) (by show FV σ < _;omega) (by show σ.waiting.length < _;omega);have ha:(pQ (cut ps) (cut m) k).a=cut ps:=by cases k<;>rfl
   revert ht;cases hT1:uE (gQ false ug) (pQ (cut ps) (cut m) k) (xI R σ ps (pQ (cut ps) (cut m) k))with
   |stuck=>exact λh=>h.elim
   |stop c p=>
    intro h;refine⟨ps,gL _,A,?_⟩;rw[<-ha];exact h
   |ok u σ2=>
    rintro⟨F,G,H,I,K,O,J⟩;have N:σ2.waiting.length<=σ.waiting.length+1:=K;have Q:FV σ2<=FV σ+580:=O;dsimp only;split
    .rename_i h0;refine⟨F,by omega,G,H,I,?_,J⟩;cases k with
     |Y6=>exact aaB ((z.tok _ _).resolve_left (by intro e;cases e)) (Km g R ps _) (by show FV σ < _;omega) (by show σ.waiting.length < _;omega) _ _ hT1
     |_=>cases h0
    .rename_i y;obtain⟨m1,m2⟩:=E y;have h3:=ih m σ2 (tH L ⟨(wP k:Int),cut ps,cut m⟩) m2 (by omega) F (by omega) (by omega);revert h3;cases nJ R look lg cut n m σ2 (tH L ⟨(wP k:Int),cut ps,cut m⟩)with
     |stuck=>exact λh=>h
     |stop c p=>rintro⟨q,q1,q2,q3⟩;exact⟨q,by omega,q2,q3⟩
     |done σ' L'=>rintro⟨T,b2,U,V,X,Y,Z⟩;exact⟨T,by omega,U.trans G,V.trans H,X.trans I,Y,λi s q=>Z i s (J i s q)⟩
def Eb {e : yp} (h:(S0 d f l a).gV i=some e):e.je=none/\e.kids=[]:=by rw[aaz h];simp
def aiN (m:d<=64) (y:f<=32):ni (S0 d f l a):=
 ⟨λ_=>0,{
  oA:=⟨λi e p h o=>(by rw[(Eb h).1]at o;cases o),λi e j h q=>(by rw[(Eb h).2]at q;cases q),λi e h=>(by rw[(Eb h).2];simp[iD]),λi e h k t=>(by rw[(Eb h).2]at t;cases t)⟩
  ur:=⟨λi e p h o=>(by rw[(Eb h).1]at o;cases o),List.Pairwise.nil,λd h z=>by cases z⟩
  gq:=λx E=>by cases E
  act:=λi A=>by cases A
  head:=λd m=>by cases m
  form:=λd m=>by cases m
  Mc:=λx u h=>by cases h
  x7:=iM _
  AB:=iM _
  QE:=m
  Ui:=y
  ye:=rfl}⟩
def adQ (h:d<=64) (j:f<=32):yK (S0 d f l a):=⟨aiN h j,⟨.inl (.inl ⟨iM _,rfl,rfl⟩),BH.low (iM _)⟩,λx k=>by cases k⟩
def aaA:FV (S0 d f l a)<=1000:=by show([Xv (.el ⟨⟨#[]⟩,[],none,[]⟩)].sum+200*0<=1000);decide
def sw (R:RC) (h j:gG) (lg:Int):RC:={R with av:=h,mv:=j,lg:=lg}
theorem WT (R:RC) (j k:gG) (lg:Int):∀(n i:Nat),R.cs.size - i<=n->uB (sw R j k lg) i=uB R i
 |0,i,h=>by
  grind[uB,sw]
 |n+1,i,h=>by
  rw[uB.eq_1 (sw R j k lg) i,uB.eq_1 R i];show(if i < R.cs.size then (if pre (R.cs.extract i R.cs.size) e1=true then i+3 else if pre (R.cs.extract i R.cs.size) e2=true then i+4 else uB (sw R j k lg) (i+1))else i)=_;split
  .rw[WT R j k lg n (i+1) (by omega)]
  .rfl
theorem Rk (R:RC) (j k:gG) (lg:Int) (a:Nat):∀(n i:Nat),R.cs.size - i<=n->qi (sw R j k lg) a i=qi R a i
 |0,i,h=>by
  grind[qi,sw]
 |n+1,i,h=>by
  rw[qi.eq_1 (sw R j k lg) a i,qi.eq_1 R a i];show(if i < R.cs.size then (if pre (R.cs.extract i R.cs.size) e1=true then R.cs.extract a i else if pre (R.cs.extract i R.cs.size) e2=true then R.cs.extract a i else qi (sw R j k lg) a (i+1))else zN (R.cs.extract a R.cs.size))=_;split
  .rw[Rk R j k lg a n (i+1) (by omega)]
  .rfl
def LC (R:RC) (j m:gG) (k:Int) (look:fY->Option fY) (lg:Nat):∀(n:Nat) (L:la) (i:Nat),R.cs.size - i<=n->mf (sw R j m k) look lg L i=mf R look lg L i
 |0,L,i,h=>by
  have p:=tP (R:=R) (ps:=i);rw[mf.eq_1 (sw R j m k) look lg L i,mf.eq_1 R look lg L i,dif_neg (by show ¬jf R i < R.cs.size;omega),dif_neg (by omega)]
 |n+1,L,i,h=>by
  have p:=tP (R:=R) (ps:=i);rw[mf.eq_1 (sw R j m k) look lg L i,mf.eq_1 R look lg L i];by_cases o:jf R i < R.cs.size
  .rw[Qz (show jf (sw R j m k) i < (sw R j m k).cs.size from o),Qz o];have q:=xz (R:=R) (ps:=jf R i);have t:=zn (R:=R) (ps:=ky R (jf R i));have e:=LC R j m k look lg n (rV R look lg L (jf R i)) (qc R (ky R (jf R i))) (by omega);show(if pre (R.cs.extract (jf R i) R.cs.size) iO=true then Jt.whole (jf R i+1) L else if Af R (L.map (·.1)) (jf R i)=true then .stop else mf (sw R j m k) look lg (rV R look lg L (jf R i)) (qc R (ky R (jf R i))))=_;rw[e]
  .rw[dif_neg (show ¬jf (sw R j m k) i < (sw R j m k).cs.size from o),dif_neg o]
def ac3 (R:RC) (h k:gG) (j:Int) (look:fY->Option fY) (lg bg ps:Nat):mY (sw R h k j) look lg bg ps=mY R look lg bg ps:=by
 unfold mY;rw[LC R h k j look lg _ [] _ (gL _)];rfl
def YR (R:RC) (h k:gG) (j:Int) (ps:Nat):od (sw R h k j) ps=od R ps:=by
 unfold od;rw[WT R h k j _ ps (gL _)];rfl
def UF (R:RC) (h k:gG) (j:Int) (ps:Nat):oF (sw R h k j) ps=oF R ps:=by
 unfold oF;rw[Rk R h k j _ _ ps (gL _)];rfl
def aeU (R:RC) (h k:gG) (j:Int) (look:fY->Option fY) (lg bg ps:Nat):rJ (sw R h k j) look lg bg ps=rJ R look lg bg ps:=by
 unfold rJ;rw[LC R h k j look lg _ [] _ (gL _),ac3,YR,UF];have e:∀O,uw (sw R h k j) .VZ (zg (sw R h k j) ps) O=uw R .VZ (zg R ps) O:=λO=>by rfl
 rw[e];rfl
def ae2 (R:RC) (h k:gG) (j:Int) (look:fY->Option fY) (lg ps:Nat):kZ (sw R h k j) look lg ps=kZ R look lg ps:=by
 unfold kZ;have e:uQ (sw R h k j) ps=sw (uQ R ps) h k j:=rfl;rw[e,aeU];rfl
def N3 (R:RC) (j q:gG) (o:Int) (look:fY->Option fY) (lg:Nat) (cut:Nat->Nat):∀(n ps:Nat) (σ:Ab) (L:List Sp),nJ (sw R j q o) look lg cut n ps σ L=nJ R look lg cut n ps σ L
 |0,_,_,_=>rfl
 |n+1,ps,σ,L=>by
  rw[nJ,nJ];have e:QR (sw R j q o) σ.nT σ.iU=sw (QR R σ.nT σ.iU) j q o:=rfl;rw[e,ae2];cases kZ (QR R σ.nT σ.iU) look lg ps with
  |stop=>rfl
  |tok k m=>
   have e2:xI (sw R j q o) σ ps (pQ (cut ps) (cut m) k)=xI R σ ps (pQ (cut ps) (cut m) k):=by
    unfold xI Bh;by_cases h:ps=R.cs.size
    .rw[gv (show ps=(QR (sw R j q o) σ.nT σ.iU).cs.size from h),gv (show ps=(QR R σ.nT σ.iU).cs.size from h)];rfl
    .rw[gH (show ¬ps=(QR (sw R j q o) σ.nT σ.iU).cs.size from h),gH (show ¬ps=(QR R σ.nT σ.iU).cs.size from h)];rfl
   dsimp only;rw[e2];cases uE (gQ false ug) (pQ (cut ps) (cut m) k) (xI R σ ps (pQ (cut ps) (cut m) k))with
   |stuck=>rfl
   |stop c p=>rfl
   |ok u σ2=>
    dsimp only;rw[N3 R j q o look lg cut n m σ2]
def Bl (d f l:Nat) (s:fY):adO:=nJ (uZ s l .nilFunc 0) (qm KV) 8 (j5 s) ((uC s).size+1) 0 (S0 d f l 0) []
def N4 (d f l:Nat) (s:fY) (h:gG) (b:Nat):nJ (uZ s l h b) (qm KV) 8 (j5 s) ((uC s).size+1) 0 (S0 d f l 0) []=Bl d f l s:=
 N3 (uZ s l .nilFunc 0) h (.map (some b)) 8 (qm KV) 8 (j5 s) _ _ _ _
def I8 (s:fY):(uC s).size<=s.size:=by rw[uO];exact I7 s s.size
theorem Be:∀x t,qm KV x=some t->t.size<=16:=by
 intro x t h;unfold qm at h;obtain⟨p,j,rfl⟩:=Option.map_eq_some_iff.1 h;have:=List.all_eq_true.1 QI p (List.mem_of_find?_eq_some j);grind
theorem Gv (d f l:Nat) (s:fY) (o:s.size<=1024) (h:d<=64) (j:f<=32):agl (uZ s l .nilFunc 0) (j5 s) 0 (S0 d f l 0) (Bl d f l s):=by
 have k:=I8 s;have m:=aaA (d:=d) (f:=f) (l:=l) (a:=0);refine ZM (R:=uZ s l .nilFunc 0) Be (by grind[uZ]) _ _ _ _ (iM _) ?_ (adQ h j) ?_ ?_
 .simp[uZ]
 .show FV _+580*((uC s).size+1 - 0) < 990000;omega
 .show 0+((uC s).size+1 - 0) < 4000;omega
def N5 (s:fY) (k:gG) (base d f l:Nat) (w:gm) (x:w.ownsRow base 5 1 k s.size (kR s)) (p:s.size<=1024) (m:d<=64) (o:f<=32) (u:l<=16) (t:yq w) (j:LY w):
  Calls prog 29 #[k,.agg #[fV d,fV f,fV l]] w λe w'=>Js w e w' (Bl d f l s):=by
 refine(acQ s k base d f l w x p m o u t j (λq b h=>?_)).mono ?_
 .rw[N4]at h;have:=Gv d f l s p m o
  rwa [h]at this
 .rintro e w' ⟨q,b,h⟩
  rwa [N4]at h
def CQ:Tn:= .tx ⟨#[]⟩
def D7 (σ:Ab):Nat->Nd->Tn
 |0,_=>CQ
 |k+1,.el i=>match σ.gV i with
  |some e=> .el e.name e.gO (e.kids.map (D7 σ k))
  |none=>CQ
 |_+1,.tx i=>match σ.nodes[i]? with
  |some (.tx s)=> .tx s
  |_=>CQ
 |_+1,.cm i=>match σ.nodes[i]? with
  |some (.cm s)=> .cm s
  |_=>CQ
 |_+1,.dt i=>match σ.nodes[i]? with
  |some (.dt s)=> .dt s
  |_=>CQ
def Sf (g:Nd->Tn) (f:Nd->Nd):∀j:List Nd,(∀k∈j,jD w (g k) (f k))->rC w (j.map g) (j.map f)
 |[],_=>by simp[rC]
 |k::j,h=>by
  simp only[yH,rC];exact⟨h k (kK ..),Sf g f j (λx m=>h x (nc _ m))⟩
theorem Xk {E : Env} {L : Loc} (h:Rel E L σ w) {r : Nat->Nat} (o:jx r σ) (p:∀i,i < σ.nodes.length->r i<=B):∀(k:Nat) (m:Nd),σ.jk m=true->(∀i,m= .el i->B - r i+1 < k)->1<=k->jD w (D7 σ k m) (Nd.map L.gI m)
 |0,_,_,_,h1=>absurd h1 (by omega)
 |k+1,.el i,hk,hi,_=>by
  have⟨e,he⟩:=Option.isSome_iff_exists.1 (show(σ.gV i).isSome=true from hk);have⟨a1,a2,a3⟩:=h.tX i _ (Ab.jn he);have z:=hi i rfl;show jD w (match σ.gV i with|some e=> .el e.name e.gO (e.kids.map (D7 σ k))|none=>CQ) (.el (L.gI i))
  rw[he];simp only[jD];refine⟨_,_,_,_,⟨a1.iw,jM a1.row (iM _),a1.le,a1.WJ⟩,a2,a3,?_⟩;refine Sf (D7 σ k) (Nd.map L.gI) e.kids ?_;intro x q;refine Xk h o p k x (o.oA.kd i e he x q) ?_ (by omega);intro j t;subst t;have⟨ej,g1,g2⟩:=o.oA.dn i e j he (xb.2 q);have u:=o.ur.je j ej i g1 g2;have y:=p j (Ab.gW g1);omega
 |k+1,.tx i,hk,_,_=>by
  unfold Ab.jk at hk;show jD w (match σ.nodes[i]? with|some (.tx s)=> .tx s|_=>CQ) (.tx (L.gI i))
  cases hq:σ.nodes[i]? with
  |none=>grind
  |some m=>
   cases m with
   |tx s=>simp only[jD];exact h.tX i _ hq
   |el e=>grind
   |cm s=>grind
   |dt s=>grind
 |k+1,.cm i,hk,_,_=>by
  unfold Ab.jk at hk;show jD w (match σ.nodes[i]? with|some (.cm s)=> .cm s|_=>CQ) (.cm (L.gI i))
  cases hq:σ.nodes[i]? with
  |none=>grind
  |some m=>
   cases m with
   |cm s=>simp only[jD];exact h.tX i _ hq
   |el e=>grind
   |tx s=>grind
   |dt s=>grind
 |k+1,.dt i,hk,_,_=>by
  unfold Ab.jk at hk;show jD w (match σ.nodes[i]? with|some (.dt s)=> .dt s|_=>CQ) (.dt (L.gI i))
  cases hq:σ.nodes[i]? with
  |none=>grind
  |some m=>
   cases m with
   |dt s=>simp only[jD];exact h.tX i _ hq
   |el e=>grind
   |tx s=>grind
   |cm s=>grind
@[simp] def vh2:(∀(t:gy) (q:jU t.name=false),Vp (rR t)/\Vp (uv t)/\Vp (mO t)/\Vp (rS t)/\Vp (p9 t)/\Vp (nK t)/\Vp (pF t)/\Vp (ju t)/\Vp (iX t)/\(∀o,Vp (nD t o))/\Vp (nW t)/\Vp (nY t)/\Vp (oR t)/\Vp (nX t)/\Vp (pG t)/\Vp (ra t))/\(∀(j:Nat->gy->M Unit) (t:gy) (p:Ea j),Vp (nR j t)/\Vp (lu j t)/\Vp (mc j t)/\Vp (zz j t)/\Vp (jV j t))/\Vp qv/\(∀(k:List fY) (m:Nat),Vp (kI k m))/\Vp oH/\Vp AZ:=by
 (repeat' first|with_reducible intro _|with_reducible apply And.intro)<;>delta rR uv mO rS p9 nK pF ju iX nD nW nY oR nX pG ra nR lu mc zz jV qv kI oH AZ<;>(repeat' first|with_reducible refine Vp.bind ?_ λ_=>?_|with_reducible refine Vp.ite ?_ ?_)<;>first|(simp[*];done)|(refine Vp.fn λX σ h=>?_;(repeat' split)<;>first|exact h|exact trivial|exact h.sml (.VQ rfl rfl rfl rfl)|exact Vp.at (by(repeat' first|with_reducible refine Vp.bind ?_ λ_=>?_|with_reducible refine Vp.ite ?_ ?_)<;>simp[*]) h)
@[simp] def vh3:(∀(t:gy) (h:jU t.name=false),Vp (qz t)/\Vp (rU t)/\Vp (mZ t))/\Vp qN/\Vp endCell:=by
 (repeat' first|with_reducible intro _|with_reducible apply And.intro)<;>delta qz rU mZ qN endCell<;>(repeat' first|with_reducible refine Vp.bind ?_ λ_=>?_|with_reducible refine Vp.ite ?_ ?_)<;>simp[*]
@[simp] def aas (t:gy) (h:jU t.name=false):Vp (pa t):=Vp.bind (by simp[*]) λ_=>Vp.bind (TV λ_=>⟨rfl,rfl,rfl,rfl⟩) λ_=>Vp.pure _
@[simp] def abo {b:M Bool} (h:yQ f=some b):Vp b:=by
 unfold yQ at h
 repeat' (split at h)
 all_goals (cases h<;>simp)
def Xo:List Nat:=[106,113,184,185,186,188,190,191,193,194,196,197,198,199,117,134,138,139,102,103,192]
def vsR:Ru->Bool
 | .hH f=>!Xo.contains f
 | .qF _ _=>false
 | .item _=>false
 | .LZ r=>vsR r
 |_=>true
def VR:Ru->Bool
 | .nj _ name _=>!jU name
 | .LZ r=>VR r
 |_=>true
theorem Vp.itf {k : Nat} {a b:M Unit} (h:f=k->Vp a) (j:Vp b):Vp (if f=k then a else b):=by
 grind
def aeY (m:Bool) (j rec:Nat->gy->M Unit) (t:gy) (f:Nat) (o:Ea j) (p:Ea rec) (k:jU t.name=false\/Xo.contains f=false):Vp (KQ m j rec t f):=by
 unfold KQ
 (repeat' with_reducible refine Vp.itf (λe=>?_) ?_)<;>first|(simp[*];done)|exact(k.elim (λh=>by simp[*]) λh=>absurd h (by subst e;decide))
def Ke (j:P .nothing=true):∀L:List Ru,(∀r∈L,P r=true)->P (kD L)=true
 |[],_=>j
 |x::r,h=>by
  have k:=h x (kK ..);cases x with
  |nil=>exact Ke j r (λy m=>h y (nc _ m))
  |_=>exact k
theorem Xr:∀(R:List (List fY×Ru)) (k:fY) (r:Ru),(R.all λp=>P p.2)=true->oq R k=some r->P r=true
 |[],_,_,_,h=>by cases h
 |p::R,k,r,hR,h=>by
  rw[List.all_cons,pW]at hR;unfold oq at h;split at h
  .grind
  .exact Xr R k r hR.2 h
def Pq (j:P .nil=true) (R:Option (List (List fY×Ru))) (k:fY) (h:((R.getD []).all λp=>P p.2)=true):P (Cy R k)=true:=by
 cases R with
 |none=>exact j
 |some R=>
  show P ((oq R k).getD .nil)=true;cases hq:oq R k with
  |none=>exact j
  |some r=>exact Xr R k r h hq
def spN (sp:lE):Bool:=VR sp.blank&&VR sp.kg&&VR sp.gM&&VR sp.iE&&VR sp.ie&&VR sp.jP&&VR sp.j8&&VR sp.ik&&((sp.start.getD []).all λp=>VR p.2)&&((sp.stop.getD []).all λp=>VR p.2)
def afR:∀h∈ut,spN h=true:=List.all_eq_true.1 (by decide+kernel)
def acX {sp : lE} (h:spN sp=true) (t:gy):VR (jQ sp t)=true:=by
 unfold spN at h;simp only[pW]at h;have⟨⟨⟨⟨⟨⟨⟨⟨⟨h1,h2⟩,h3⟩,h4⟩,h5⟩,h6⟩,h7⟩,h8⟩,h9⟩,h10⟩:=h;have f:=Ke (P:=VR) rfl;unfold jQ
 (repeat' split)<;>exact f _ (by simp[h1,h2,h3,h4,h5,h6,h7,h8,Pq rfl _ _ h9,Pq rfl _ _ h10])
def vdL:List fY:=[jS,rA,pK,jc,iS,ic]
theorem NB:∀(L:List (fY×Nat)) (s:fY),(∀p∈L,(decide (p.2&&& 1=0)||gZ vdL p.1)=true)->wL L s&&& 1≠0->gZ vdL s=true
 |[],_,_,h=>(h (show 0&&& 1=0 by decide)).elim
 |p::L,s,hp,h=>by
  unfold wL at h;split at h
  .rename_i e;have k:=hp p (kK ..);rw[su e];grind
  .exact NB L s (λq j=>hp q (nc _ j)) h
theorem Gn (s:fY):jU s=gZ vdL s:=by
 cases h:gZ vdL s with
 |true=>
  simp only[gZ,vdL,List.any_cons,List.any_nil,Bool.or_false,Bool.or_eq_true]at h;rcases h with h|h|h|h|h|h<;>(rw[su h];decide+kernel)
 |false=>
  cases h1:jU s with
  |false=>rfl
  |true=>
   have:=NB qM s (List.all_eq_true.1 (by decide+kernel)) (of_decide_eq_true h1);grind
def R4 {l : List fY} (h:gZ l s=true):s∈l:=by
 have⟨x,h1,h2⟩:=List.any_eq_true.1 h;rw[su h2];exact h1
def Tr:∀j∈ut,∀n∈vdL,vsR (jQ j ⟨0,0,.start n,[]⟩)=true:=λj h=>List.all_eq_true.1 (List.all_eq_true.1 (show(ut.all λj=>vdL.all λn=>vsR (jQ j ⟨0,0,.start n,[]⟩))=true by decide+kernel) j h)
def VX:∀h∈ut,(vsR h.j8&&vsR h.ik&&((h.stop.getD []).all λp=>vsR p.2))=true:=List.all_eq_true.1 (by decide+kernel)
def acY {sp : lE} (h:sp∈ut) (t:gy):jU t.name=false\/vsR (jQ sp t)=true:=by
 have⟨a,b,k,gx⟩:=t;cases k with
 |start n=>
  cases hv:jU n with
  |false=>exact .inl hv
  |true=>
   rw[Gn]at hv;exact .inr (Tr sp h n (R4 hv))
 |stop n=>
  have j:=VX sp h;simp only[pW]at j;have⟨⟨h2,h3⟩,h4⟩:=j;exact .inr (Ke (P:=vsR) rfl _ (by simp[h2,h3,Pq (P:=vsR) rfl _ _ h4]))
 |_=>exact .inl (show jU ⟨#[]⟩=false by decide+kernel)
def RV (p:Bool) (j rec:Nat->gy->M Unit) (t:gy) (q:Ea j) (k:Ea rec):∀r,VR r=true->(jU t.name=false\/vsR r=true)->Vp (oW p j rec r t)
 | .nil,_,_=>Vp.stuck
 | .nothing,_,_=>Vp.pure _
 | .hH f,_,h=>aeY p j rec t f q k (h.imp id λh=>by simpa [vsR]using h)
 | .pO m,_,_=>Vp.ite (k _ _) Vp.stuck
 | .gM pf own,_,_=>aej pf own t
 | .ahead f,_,_=>by
  show Vp (match yQ f with|some b=>xl rec b t|none=>stuck)
  cases hb:yQ f with
  |none=>simp
  |some b=>exact Vp.bind (abo hb) λ_=>Vp.ite (Vp.bind (Jm rec t k) λ_=>Vp.pure _) (Vp.pure _)
 | .ends f,_,_=>by
  show Vp (match yQ f with|some b=>Cs b|none=>stuck)
  cases hb:yQ f with
  |none=>simp
  |some b=>exact Vp.bind (abo hb) λ_=>Vp.pure _
 | .LZ r,h,hv=>by
  have u:=RV p j rec t q k r h hv;intro X σ o;show I0 _ (IG (oW p j rec r t) t σ);unfold IG;split
  .exact u X σ o
  .exact o
 | .qF ks m,_,hv=>Vp.ite (Vp.bind (JN _) λ_=>Vp.bind (A7 t (hv.resolve_right nofun)) λ_=>Vp.bind (Cd _) λ_=>Vp.pure _) Vp.stuck
 | .nj ks name m,h,_=>Vp.ite (Vp.bind (JN _) λ_=>Vp.bind (MA _ (by simpa [VR]using h)) λ_=>Vp.bind (Cd _) λ_=>Vp.bind (Jm rec t k) λ_=>Vp.pure _) Vp.stuck
 | .item ks,_,hv=>Vp.bind (JO _ _) λ_=>Vp.bind (PY t (hv.resolve_right nofun)) λ_=>Vp.pure _
theorem Qj:∀(n:Nat) (h:Bool) (m:Nat) (t:gy),Vp (gQ h n m t)
 |0,_,_,_=>Vp.stuck
 |n+1,h,m,t=>by
  by_cases j:t.k= .lost
  .have e:gQ h (n+1) m t=stuck:=by
    have⟨a,b,k,gx⟩:=t;cases j;rfl
   simp_all
  .rw[FE h n m t j];unfold asM;cases hs:ut[m]? with
   |none=>simp
   |some sp=>exact RV h _ _ t (λm t=>Qj n true m t) (λm t=>Qj n h m t) _ (acX (afR sp (tR hs)) t) (acY (tR hs) t)
def adR (n:Nat) (t:gy):Vp (uE (gQ false n) t):=by
 have j:Vp (α:=Unit) (λσ:Ab=>if σ.behind&&kJ t.chars yo then pM.ok () {σ with behind:=false,gI:=t.a} else jX (gQ false n) t {σ with behind:=false,gI:=t.a}):=by
  refine Vp.fn λX σ h=>?_;have o:VI X {σ with behind:=false,gI:=t.a}:=h.sml (.VQ rfl rfl rfl rfl);split
  .exact o
  .exact Jm _ t (λm t=>Qj n false m t) X _ o
 have⟨a,b,k,gx⟩:=t;cases k with
 |lost=>simp[uE]
 |_=>exact j
def acO:∀(n ps:Nat) (σ:Ab) (L:List Sp),VI [] σ->∀j t,nJ R look lg cut n ps σ L= .done j t->VI [] j:=by
 intro n
 induction n with
 |zero=>simp[nJ]
 |succ n ih=>
  intro ps σ L q j t h;rw[nJ]at h;revert h;cases kZ (QR R σ.nT σ.iU) look lg ps with
  |stop=>simp
  |tok k m=>
   intro h;dsimp only at h;have o:=adR ug (pQ (cut ps) (cut m) k) [] (xI R σ ps (pQ (cut ps) (cut m) k)) (q.sml (.VQ rfl rfl rfl rfl));revert h o;cases uE (gQ false ug) (pQ (cut ps) (cut m) k) (xI R σ ps (pQ (cut ps) (cut m) k))with
   |stuck=>simp
   |stop c p=>simp
   |ok u σ2=>
    intro h o;dsimp only at h;split at h
    .cases h;exact o
    .exact ih _ _ _ o _ _ h
theorem acP (d f l:Nat) (s:fY) {j : Ab} (h:Bl d f l s= .done j L):VI [] j:=
 acO (R:=uZ s l .nilFunc 0) _ _ _ _ ⟨λi e k o=>by
  have:=Ab.gW k;obtain rfl:i=0:=by simp[S0]at this;omega
  cases k;rfl,λi m=>by
  rcases m with g|g|g|g|g
  .cases g
  .cases g
  .cases g
  .subst g;exact⟨_,rfl,by decide+kernel⟩
  grind⟩ _ _ h
def WF {m : fY->Bool} (g:Nd->Tn):∀j:List Nd,(∀x∈j,VkT m (g x))->VkS m (j.map g)
 |[],_=>by simp[VkS]
 |k::j,h=>by
  rw[yH,VkS];exact⟨h k (kK ..),WF g j λx o=>h x (nc _ o)⟩
theorem agU {X : List Nat} (h:VI X σ):∀(k:Nat) (o:Nd),VkT jU (D7 σ k o)
 |0,_=>by unfold D7 CQ;simp[VkT]
 |k+1,.el i=>by
  unfold D7;split
  .rename_i e j;rw[VkT];exact⟨λm=>by rw[h.1 i e j m];rfl,WF _ _ λx _=>agU h k x⟩
  grind[VkT,jU,CQ]
 |k+1,.tx i=>by unfold D7;split<;>simp[VkT,CQ]
 |k+1,.cm i=>by unfold D7;split<;>simp[VkT,CQ]
 |k+1,.dt i=>by unfold D7;split<;>simp[VkT,CQ]
def vj:fY:=⟨#[98,114,32,104,114,32,105,109,103,32,105,110,112,117,116,32,109,101,116,97,32,99,111,108]⟩
theorem ad1 (s:fY):QY s vj 25 0 0=jU s:=by
 have e:QY s vj 25 0 0=if s.toList≠[]/\(vj.extract 0 2).toList=s.toList then true else if s.toList≠[]/\(vj.extract 3 5).toList=s.toList then true else if s.toList≠[]/\(vj.extract 6 9).toList=s.toList then true else if s.toList≠[]/\(vj.extract 10 15).toList=s.toList then true else if s.toList≠[]/\(vj.extract 16 20).toList=s.toList then true else if s.toList≠[]/\(vj.extract 21 24).toList=s.toList then true else false:=rfl
 rw[e,Gn];have n:∀(a b:Nat) (u:fY),(vj.extract a b).toList=u.toList->u.toList≠[]->((s.toList≠[]/\(vj.extract a b).toList=s.toList)↔kJ s u=true):=by
  intro a b u h j;rw[h];unfold kJ;rw[beq_iff_eq];exact⟨λh=>h.2.symm,λh=>⟨by grind,h.symm⟩⟩
 simp only[n 0 2 jS (by rfl) (by simp),n 3 5 rA (by rfl) (by simp),n 6 9 pK (by rfl) (by simp),n 10 15 jc (by rfl) (by simp),n 16 20 iS (by rfl) (by simp),n 21 24 ic (by rfl) (by simp)];grind[kJ,gZ,vdL]
def aik:yX ⟨#[]⟩=false:=by simp[yX]
def D8.kept {k : Nat} {A : Nat->It} (h:D8 w g k n A) (o:Kept [] w w') (m:g < w.heap.size):D8 w' g k n A:=
 ⟨λi j=>by rw[o.cell m (by simp)];exact h.c0 i j,λi j=>by rw[o.cell m (by simp)];exact h.c1 i j,λi j=>by rw[o.cell m (by simp)];exact h.c2 i j⟩
theorem Sn (v:Bool) (s:List UInt8):s.length<=(nS v s).length:=by
 fun_induction nS v s<;>simp_all<;>omega
theorem ab8 (j:fY->Bool):∀(l:List It) (x:List UInt8×Bool),x.1.length<=(NM j l x).1.length
 |[],_=>gL _
 |a::l,x=>by
  refine jH ?_ (ab8 j l _);have h:x.1.length<=(rK j x a).1.length:=by
   unfold rK
   (grind)<;>simp<;>omega
  grind[oX]
theorem drop_at {L : List It} {k : Nat} (h:k < L.length):L.drop k=uR L k::L.drop (k+1):=by
 rw[Dc h];grind[uR]
def ab0 {L : List It} {k : Nat} (h:k < L.length):uR L k∈L:=Is (i:=k) (by rw[drop_at h];simp)
def ah1 {L : List It} (k:Nat):nxA (L.drop k)=if k < L.length then decide ((uR L k).k=5)else false:=by
 split
 .rename_i h;rw[drop_at h];rfl
 .rename_i h;rw[List.drop_eq_nil_of_le (by omega)];rfl
theorem ab7 (g cap:Nat) (L:List It) (J:fY) (w:gm) (hI:D8 w g 0 L.length (uR L)) (hg:g < w.heap.size) (hn:L.length<=1000000000) (hz:J.size<=140737488355328) (hk:∀a∈L,a.k=1\/a.k=2\/a.k=3\/a.k=4\/a.k=5\/a.k=6) (H:(NM jU L ([],false)).1=J.data.toList):
  Calls prog 5 #[oo g L.length cap,gu J] w λe w'=>e=ig (.bool true)/\Kept [] w w':=by
 have HI:=fM hI;have HL:=fM H;have N:=fM hk;clear hI H hk;go_enter func5,ntmps5;go_wp2
 go_loopw [5,6,7] (λo i n wr=>∃(x y:fY) (k:Nat),o=gu x/\i=gu y/\n=fV k/\k<=L.length/\Hid ((NM jU (L.drop k) (x.data.toList,yX y)).1=J.data.toList)/\Hid (Kept [] w wr)) (λ_ _ n _=>L.length - (intOf n).toNat)
 case atStart=>exact⟨⟨#[]⟩,⟨#[]⟩,0,rfl,rfl,rfl,iM _,fM (by rw[List.drop_zero,aik];exact HL.out),fM (Kept.refl _ _)⟩
 case round=>
  obtain⟨x,y,k,rfl,rfl,rfl,hk,hq,Q⟩:=hrel;clear HL;by_cases G:k < L.length
  .have R:=HI.out.kept Q.out hg;have c0:=R.c0 k G;have c1:=R.c1 k G;have c2:=R.c2 k G;have n0:=R.c0 (k+1);simp only[Iy]at c0 c1 c2 n0;have N0:=fM n0;have U:=N.out (uR L k) (ab0 G);obtain⟨I,A⟩:∃I,I=nxA (L.drop (k+1)):=⟨_,rfl⟩;have F:=hq.out;rw[drop_at G,NM,<-A]at F;replace F:=fM F;have HN:=fM (A.trans (ah1 (k+1)));clear hq n0 R A;generalize uR L k=a at *;have⟨ka,sa,ta⟩:=a;dsimp only at c0 c1 c2 U;have CA:=fM (aaN sa vj);go_wp21;obtain⟨W,Y⟩:∃W,W=wr.alloc (Obj.cells #[fV ka,gu sa,gu ta] 34):=⟨_,rfl⟩;rw[<-Y];have u:Kept [] wr W:=by rw[Y];exact(Kept.refl _ _).alloc _
   have Z:W.heap[wr.heap.size]?=some (gz #[fV ka,gu sa,gu ta] 34):=by rw[Y];exact fP wr _
   have d0:=fN Z 0;have d1:=fN Z 1;have d2:=fN Z 2;dsimp at d0 d1 d2;have T:g < wr.heap.size:=lU hg Q.out.size;have NX:I=true/\(k+1 < L.length/\((k:Int)+1==(L.length:Int))=false)/\W.cell? ⟨g,(k+1)*3,none⟩=some (fV 5)\/I=false/\(((k:Int)+1==(L.length:Int))=true\/(k+1 < L.length/\((k:Int)+1==(L.length:Int))=false)/\∃z,(z==(5:Int))=false/\W.cell? ⟨g,(k+1)*3,none⟩=some (fV z)):=by
    rw[HN.out];split
    .rename_i h;have q:=N0.out h;rw[<-u.cell T (by simp)]at q;have t:=And.intro h (beq_eq_false_iff_ne.2 (by omega:(k:Int)+1≠(L.length:Int)));by_cases h5:(uR L (k+1)).k=5
     all_goals simp_all
    .exact .inr ⟨rfl,.inl (beq_iff_eq.2 (by omega))⟩
   have a0:=fM (Q.out.trans u);clear N0 Z u T Y c0 c1 c2 Q HI N HN;generalize wr.heap.size=b at *;refine(CA.out W (by decide)).mono ?_;rintro e O ⟨rfl,j⟩;rw[j];clear j O;rw[show QY sa vj (vj.size+1) 0 0=jU sa from ad1 sa];have HZ:=fM (ab8 jU (L.drop (k+1)) (oX jU (x.data.toList,yX y) ⟨ka,sa,ta⟩ I));have p:Hid (∀(o y':fY) (z:Int),z=k+1->oX jU (x.data.toList,yX y) ⟨ka,sa,ta⟩ I=(o.data.toList,yX y')->(∃(V X:fY) (E:Nat),gu o=gu V/\Value.string y'=gu X/\Value.int .i64 z=fV E/\E<=L.length/\Hid ((NM jU (L.drop E) (V.data.toList,yX X)).1=J.data.toList)/\Hid (Kept [] w W))/\L.length - (intOf (fV z)).toNat < L.length - (intOf (fV k)).toNat):=by
    refine fM ?_;rintro o y' _ rfl q;refine⟨⟨o,y',k+1,rfl,rfl,by go_num,G,?_,a0⟩,by simp[intOf];omega⟩;rw[<-q];exact F
   rw[F.out]at HZ;clear F CA;have m:=HZ.out;clear HZ;rcases U with rfl|rfl|rfl|rfl|rfl|rfl
   iterate 2
    focus
     simp[oX,rK,bs]at m;go_wp21;exact p.out _ y _ rfl (by rfl)
   .have a2:(y.toList==[115,116,121,108,101])=yX y:=rfl;have hm:=Sn false sa.data.toList;rcases Bool.eq_false_or_eq_true (yX y)with hy|hy
    all_goals
     rw[hy]at a2;simp[oX,rK,bs,hy]at m hm;have K:=fM (Jd sa false W (by omega));go_wp21;refine K.out.mono ?_;rintro e O ⟨rfl,j⟩;rw[j];clear j O K;go_wp21;refine p.out _ y _ rfl ?_;simp[oX,rK,bs,hy]
   .rcases NX with⟨rfl,⟨H,q⟩,t⟩|⟨rfl,q|⟨⟨H,q⟩,z,t,h4⟩⟩
    all_goals
     simp[oX,rK,bs]at m;go_wp21;refine p.out _ sa _ rfl ?_;rfl
   .rcases NX with⟨rfl,⟨H,q⟩,t⟩|⟨rfl,q|⟨⟨H,q⟩,z,t,h4⟩⟩
    all_goals
     have hm:=Sn true ta.data.toList;simp[oX,rK,bs]at m hm;have K:=fM (Jd ta true W (by omega));go_wp21;refine K.out.mono ?_;rintro e O ⟨rfl,j⟩;rw[j];clear j O K;go_wp21;refine p.out _ y _ rfl ?_;rfl
   .cases hv:jU sa
    all_goals
     rw[oX,rK,hv]at m;simp[bs]at m;go_wp21;refine p.out _ ⟨#[]⟩ _ rfl ?_;simp[oX,rK,bs,hv,aik]
  .have a1:k=L.length:=by omega
   have t:=hq.out;rw[a1,List.drop_length]at t;have h4:x=J:=Qx (Array.toList_inj.1 t);subst h4;go_wp2;go_ret;exact⟨by simp,Q.out⟩
def KN (w w':gm):Prop:=∀(k:Nat) (c:jA) (t:TypeId),w.heap[k]?=some (gz c t)->t∈Wx->w'.heap[k]?=some (gz c t)
def KN.jL (h:Kept S w w') (m:∀k∈S,∀c t,w.heap[k]?=some (gz c t)->t∉Wx):KN w w':=λk c t j p=>h.at j (λo=>m k o c t j p)
theorem KN.row (h:KN w w') {base : Nat} {j : Nat} (m:w.ownsRow base e j v n xs) (q:e∈Wx):w'.ownsRow base e j v n xs:=by
 refine⟨m.1,?_⟩;rcases m.2 with e1|⟨g,cap,k,e1,o,p,r⟩
 .grind
 .exact .inr ⟨g,cap,k,e1,o,h g _ _ p q,r⟩
mutual
theorem jD.kn (j:KN w w'):∀{t:Tn} {n:Nd},jD w t n->jD w' t n
 | .el name gx ks,.el k,h=>by
  unfold jD at h|-;have⟨av,je,kv,ns,h1,h2,h3,h4⟩:=h;exact⟨av,je,kv,ns,⟨j _ _ _ h1.iw (by decide),j.row h1.row (by decide),h1.le,h1.WJ⟩,j.row h2 (by decide),h3,rC.kn j h4⟩
 | .tx _,.tx _,h=>by unfold jD at h|-;exact j _ _ _ h (by decide)
 | .cm _,.cm _,h=>by unfold jD at h|-;exact j _ _ _ h (by decide)
 | .dt _,.dt _,h=>by unfold jD at h|-;exact j _ _ _ h (by decide)
 | .el _ _ _,.tx _,h=>by grind[jD]
 | .el _ _ _,.cm _,h=>by grind[jD]
 | .el _ _ _,.dt _,h=>by grind[jD]
 | .tx _,.el _,h=>by grind[jD]
 | .tx _,.cm _,h=>by grind[jD]
 | .tx _,.dt _,h=>by grind[jD]
 | .cm _,.el _,h=>by grind[jD]
 | .cm _,.tx _,h=>by grind[jD]
 | .cm _,.dt _,h=>by grind[jD]
 | .dt _,.el _,h=>by grind[jD]
 | .dt _,.tx _,h=>by grind[jD]
 | .dt _,.cm _,h=>by grind[jD]
theorem rC.kn (m:KN w w'):∀{k:List Tn} {j:List Nd},rC w k j->rC w' k j
 |[],[],_=>by simp[rC]
 |t::k,n::j,h=>by
  unfold rC at h|-;exact⟨jD.kn m h.1,rC.kn m h.2⟩
 |[],_::_,h=>by grind[rC]
 |_::_,[],h=>by grind[rC]
end
def DD (d f l:Int) (n:Nat) (v:gG) (k:Nat):jA:=#[fV d,fV f,fV l,ji,.bool true,fV n,.nilIface,v,gE k]
def ago (w:gm) (D:Tn) (L:List Sp) (e:Ending) (w':gm):Prop:=
 ∃v k,e=ig (.tuple #[.agg #[v,gE k],.pointer none])/\jD w' D (.el k)/\w'.ownsRow w.heap.size 72 3 v L.length (lp L)/\L.length<=1024/\Kept [] w w'
def Ov (s:fY) (d f l:Nat) (D:Tn) (L:List Sp):Prop:=∀(j:gG) (h:Nat) (w:gm),w.ownsRow h 5 1 j s.size (kR s)->yq w->LY w->
  Calls prog 29 #[j,.agg #[fV d,fV f,fV l]] w (ago w D L)
def agX (w:gm) (D:Tn) (L:List Sp) (v3 v4:gG) (wc:gm):Prop:=∃h v k,v3=gE h/\v4= .pointer none/\w.heap.size<=h/\wc.heap[h]?=some (gz #[v,gE k] 67)/\jD wc D (.el k)/\wc.ownsRow w.heap.size 72 3 v L.length (lp L)/\L.length<=1024/\Kept [] w wc
theorem JR {e : Ending} (h:ago W D L e w2) (E:Kept [] w W):∃v k,e=ig (.tuple #[.agg #[v,gE k],.pointer none])/\(∃H n G,v= .slice H n G)/\agX w D L (gE w2.heap.size) (.pointer none) (w2.alloc (gz #[v,gE k] 67))/\
  (∀j,w.heap.size<=j->W.heap[j]?=some (gz #[ji,.pointer none] 67)->w2.heap[j]?=some (gz #[ji,.pointer none] 67)/\agX w D L (gE j) (.pointer none) ((w2.setCell ⟨j,0,none⟩ v).setCell ⟨j,1,none⟩ (gE k))):=by
 obtain⟨v,k,rfl,J,z,y,o⟩:=h;have N:w.heap.size<=W.heap.size:=E.size;have m:=jM z N;have F:=(Kept.refl [] w2).alloc (gz #[v,gE k] 67);have⟨H,G,hv⟩:=gw z;refine⟨v,k,rfl,⟨_,_,_,hv⟩,⟨_,v,k,rfl,rfl,jH N o.size,fP w2 _,jD.kept F J,F.ownsRow m (λ_ _=>by simp),y,(E.trans o).trans F⟩,?_⟩;intro j p T;have u:=o.at T (by simp);have O:Kept [j] w2 ((w2.setCell ⟨j,0,none⟩ v).setCell ⟨j,1,none⟩ (gE k)):=((Kept.refl _ _).setCell (.inl (by simp)) _).setCell (.inl (by simp)) _;refine⟨u,j,v,k,rfl,rfl,p,fR (fR u 0 _) 1 _,jD.kn (KN.jL O (λq x c t A K=>?_)) J,O.ownsRow m (λq x U=>?_),y,((E.trans o).setCell (.inr p) _).setCell (.inr p) _⟩
 .have e:=List.mem_singleton.1 x;subst e;rw[u]at A;simp at A;rw[<-A.2]at K;revert K;decide
 .have e:=List.mem_singleton.1 U;subst e;rcases m.2 with⟨e2,_⟩|⟨X,I,Q,e2,_,A,_⟩
  .rw[e2]at x;cases x
  .rw[e2]at x;have V:=jv x;grind
def IZ (w:gm) (bx d f l:Nat) (s:fY) (D:Tn) (L:List Sp) (w':gm):Prop:=∃v k,w'.heap[bx]?=some (gz (DD d f l s.size v k) 69)/\jD w' D (.el k)/\w'.ownsRow w.heap.size 72 3 v L.length (lp L)/\L.length<=1024/\Kept [bx] w w'
def UC (bx d f l:Nat) (tv:gG) (s:fY) (base:Nat) (w:gm) (y:w.heap[bx]?=some (gz (uy ((d:Int),(f:Int),(l:Int)) tv) 69)) (Y:w.ownsRow base 5 1 tv s.size (kR s)) (hT:yq w) (H:LY w) (hn:Ov s d f l D L):
  Calls prog 19 #[gE bx] w λe w'=>e= .returned .nilIface/\IZ w bx d f l s D L w':=by
 have⟨ao,cp,htv⟩:=gw Y;subst htv;have a1:=iQ y;have c0:w.cell? ⟨bx,0,none⟩=some (fV d):=by rw[fN y];rfl
 have c1:w.cell? ⟨bx,1,none⟩=some (fV f):=by rw[fN y];rfl
 have c2:w.cell? ⟨bx,2,none⟩=some (fV l):=by rw[fN y];rfl
 have c3:w.cell? ⟨bx,3,none⟩=some (.slice ao s.size cp):=by rw[fN y];rfl
 have CI:=A8 bx ((d:Int),(f:Int),(l:Int)) _ w y;have N:=(λW (o:Kept [] w W)=>hn (.slice ao s.size cp) base W (o.ownsRow Y (λ_ _=>by simp)) (hT.fr (bm:=0) (.gN o)) (H.kept o));have HX:=y;have HG:=fP w.drew (gz #[ji,.pointer none] 67);go_enter func19,ntmps19;go_wp21;refine CI.mono ?_;rintro e m ⟨rfl,rfl⟩;go_wp21
 go_cut [3,4]from 8 to 19 (λv3 v4 wc=>agX m D L v3 v4 wc)
 case first=>
  go_region_with (go_at_call 29;first
   |(refine(N _ ((Kept.refl [] m).drew)).mono ?_;intro e w2 z;obtain⟨v,k,rfl,⟨G,n,F,rfl⟩,Q,_⟩:=JR z ((Kept.refl [] m).drew);have A:=fM Q;clear Q z)
   |(refine(N _ (((Kept.refl [] m).drew).alloc _)).mono ?_;intro e w2 z;obtain⟨v,k,rfl,⟨G,n,F,rfl⟩,_,T⟩:=JR z (((Kept.refl [] m).drew).alloc _);have⟨h3,h4⟩:=T m.heap.size (gL _) HG;have q0:w2.cell? ⟨m.heap.size,0,none⟩=some (ji):=(by rw[fN h3];rfl);have q1:w2.cell? ⟨m.heap.size,1,none⟩=some (.pointer none):=(by rw[fN h3];rfl);have z0:=gh h3 0;have z1:=gh h3 1;have A:=fM h4;clear T h3 h4 z))
  all_goals (try (go_wp21))
  all_goals (go_meet;exact A)
 case rest=>
  obtain⟨E,v,k,rfl,rfl,a0,H,u,j,x,o⟩:=hcut;have⟨G,F,hv⟩:=gw j;subst hv;have h:=o.at HX (by simp);have e3:wc.cell? ⟨bx,3,none⟩=some (.slice ao s.size cp):=by rw[fN h];rfl
  have e4:wc.cell? ⟨bx,4,none⟩=some (.bool false):=by rw[fN h];rfl
  have e5:wc.cell? ⟨bx,5,none⟩=some (fV 0):=by rw[fN h];rfl
  have e7:wc.cell? ⟨bx,7,none⟩=some (ji):=by rw[fN h];rfl
  have e8:wc.cell? ⟨bx,8,none⟩=some (.pointer none):=by rw[fN h];rfl
  have t0:wc.cell? ⟨E,0,none⟩=some (.slice G L.length F):=by rw[fN H];rfl
  have t1:wc.cell? ⟨E,1,none⟩=some (gE k):=by rw[fN H];rfl
  have f4:=gh h 4;have f5:=gh h 5;have f7:=gh h 7;have f8:=gh h 8;have a2:E≠bx:=by omega
  have X:bx≠E:=by omega
  have V:=iQ h;have O:=And.intro h (And.intro u (And.intro j (And.intro x o)));go_wp21
  go_cut []from 20 to 34 (λwd=>wd.heap[bx]?=some (gz #[fV d,fV f,fV l,.slice ao s.size cp,.bool true,fV s.size,.nilIface,.slice G L.length F,gE k] 69)/\Kept [bx] wc wd)
  case first=>
   go_region
   all_goals (try (go_wp21))
   all_goals (go_meet;exact⟨fR (fR (fR (fR O.1 _ _) _ _) _ _) _ _,(((((Kept.refl [bx] wc).setCell (.inl (by simp)) _).setCell (.inl (by simp)) _).setCell (.inl (by simp)) _).setCell (.inl (by simp)) _).drew⟩)
  case rest=>
   have⟨hx3,hk3⟩:=hcut;have⟨h,u,j,x,o⟩:=O;have g3:wc.cell? ⟨bx,3,none⟩=some (.slice ao s.size cp):=by rw[fN hx3];rfl
   have g6:wc.cell? ⟨bx,6,none⟩=some .nilIface:=by rw[fN hx3];rfl
   have y3:=gh hx3 3;have U:=iQ hx3;have K:=hk3.trans ((Kept.refl [bx] wc).setCell (p:=⟨bx,3,none⟩) (.inl (by simp)) (ji));have A:Hid (IZ m bx d f l s D L (wc.setCell ⟨bx,3,none⟩ (ji))):=fM ⟨_,k,fR hx3 3 _,jD.kn (KN.jL K (λq J c t I Z=>by
     have e:=List.mem_singleton.1 J;subst e;rw[h]at I;simp at I;rw[<-I.2]at Z;revert Z;decide)) u,K.ownsRow j (λq J hm=>by
     have e:=List.mem_singleton.1 hm;subst e;have:=(j.lt _ J).1;omega),x,(o.mono (by simp)).trans K⟩
   go_wp2;go_ret;exact⟨rfl,A⟩
def afh (bx d f l:Nat) (j:gG) (s:fY) (base:Nat) (w:gm) (x:w.heap[bx]?=some (gz (uy ((d:Int),(f:Int),(l:Int)) j) 69)) (u:w.ownsRow base 5 1 j s.size (kR s)) (p:yq w) (q:LY w) (t:Ov s d f l D L):
  Calls prog 11 #[gE bx] w λe w'=>e=ig (.tuple #[fV 0,fV 0])/\IZ w bx d f l s D L w':=by
 have C:=UC bx d f l j s base w x u p q t;go_enter func11,ntmps11;go_wp21;refine C.mono ?_;rintro e y ⟨rfl,m⟩;go_wp21;refine(FF y).mono ?_;rintro e w2 ⟨rfl,h⟩;have o:Hid (IZ w bx d f l s D L w2):=by
  have⟨v,k,h1,h2,h3,h4,h5⟩:=m;exact fM ⟨v,k,h.at h1 (by simp),jD.kept h h2,h.ownsRow h3 (λ_ _=>by simp),h4,h5.trans (h.mono (by simp))⟩
 go_wp2;go_ret2;exact⟨rfl,o⟩
def Ask.toW {q : fY->Bool} (h:Ask bm v q w):agV w v q:=by
 have⟨k,lb,hv,he,ha⟩:=h.call;exact⟨k,lb,hv,he,λW j s=>ha W (.gN j) s⟩
def YN (base:Nat) (v:gG) (L:List Sp) (w:gm) (k:w.ownsRow base 72 3 v L.length (lp L)) (U:L.length<=4096):
  Calls prog 24 #[v] w λe w'=>∃m,e=ig m/\w'.ownsRow w.heap.size 72 3 m L.length (lp L)/\Kept [] w w':=by
 have⟨i0,hi,hz0,hz1,hz2⟩:=uH Gf;rcases k.2 with⟨rfl,I⟩|⟨g,cap,H,rfl,J,N,_⟩
 .have Q:=λw=>Ug (P:=prog) w 24 72 none 0 0 0 0 underlying24;have:L=[]:=QB I;subst this;clear k;go_enter func24,ntmps24;go_wp2;go_ret;exact⟨_,rfl,pk _ _ _ _,Kept.refl _ _⟩
 .have Q:=λw=>Ug (P:=prog) w 24 72 (some ⟨g,0,none⟩) L.length cap 0 0 underlying24;have G:=fM k;have q:=iQ N;have z:(w.alloc (.cells #[] 72)).ownsRow w.heap.size 72 3 (oo w.heap.size 0 0) 0 []:=
   ⟨rfl,.inr ⟨w.heap.size,0,#[],rfl,gL _,fP w _,gL _,iM _,rfl,rfl⟩⟩
  clear k;go_enter func24,ntmps24;go_wp2_with (at_builtin;refine ij _ rfl _ _ 24 rfl w.heap.size 72 i0 (.agg #[fV 0,fV 0,fV 0]) 3 24 underlying24 hi hz0 hz1 hz2 rfl (by decide) _ _ _ rfl z ⟨g,0,none⟩ L.length cap (lp L) rfl ?c1 ?c2 ?c3 ?c4 ?c5 ?c6 ?_)
  case c1=>exact sH L
  case c2=>
   intro j u O;have:=G.cells (g:=g) rfl j u O;rw[jj]at this|-;rw[<-this];exact uJ _ _ _ q
  case c3=>
   intro u y;unfold lp at y;simp at y;obtain⟨p,_,h|h|h⟩:=y<;>(subst h;rfl)
  case c4=>omega
  case c5=>omega
  case c6=>simp
  intro m A t o K;have E:A.ownsRow w.heap.size 72 3 m L.length (lp L):=by simpa using t
  have F:Hid (Kept [] w A):=((Kept.refl [] w).alloc _).grown o (λx T=> .inr (z.lt x T).1);go_wp2;go_ret;exact⟨_,rfl,E,F⟩
def Wc (bx:Nat) (d f l:Int) (n k:Nat) (v:gG) (w:gm) (h:w.heap[bx]?=some (gz (DD d f l n v k) 69)):
  Calls prog 20 #[gE bx] w λe w'=>e=ig (.tuple #[fV n,.nilIface])/\Kept [] w w':=by
 have m:w.cell? ⟨bx,4,none⟩=some (.bool true):=by rw[fN h];rfl
 have o:w.cell? ⟨bx,5,none⟩=some (fV n):=by rw[fN h];rfl
 have p:w.cell? ⟨bx,6,none⟩=some .nilIface:=by rw[fN h];rfl
 have j:=iQ h;go_enter func20,ntmps20;go_wp21;go_region
 all_goals (try go_wp2)
 all_goals (try go_ret2)
 all_goals exact⟨rfl,(Kept.refl [] w).drew⟩
def SN (bx:Nat) (d f l:Int) (n k:Nat) (v:gG) (w:gm) (o:w.heap[bx]?=some (gz (DD d f l n v k) 69)):
  Calls prog 12 #[gE bx] w λe w'=>e=ig (.tuple #[fV n,fV 0,fV 0])/\Kept [] w w':=by
 have C:=Wc bx d f l n k v w o;go_enter func12,ntmps12;go_wp21;refine C.mono ?_;rintro e p ⟨rfl,j⟩;go_wp21;refine(FF p).mono ?_;rintro e w2 ⟨rfl,m⟩;have h:=j.trans m;go_wp2;go_ret3;exact⟨rfl,h⟩
theorem ain (bx:Nat) (d f l:Int) (n k base:Nat) (v:gG) (L:List Sp) (w:gm) (m:w.heap[bx]?=some (gz (DD d f l n v k) 69)) (j:w.ownsRow base 72 3 v L.length (lp L)) (o:L.length<=4096):
  Calls prog 15 #[gE bx] w λe w'=>∃h,e=ig h/\w'.ownsRow w.heap.size 72 3 h L.length (lp L)/\Kept [] w w':=by
 have u:w.cell? ⟨bx,7,none⟩=some v:=by rw[fN m];rfl
 have C:=YN base v L w j o;have⟨ao,cp,hv⟩:=gw j;subst hv;have p:=iQ m;go_enter func15,ntmps15;go_wp21;refine C.mono ?_;rintro e w' ⟨h,rfl,q,t⟩;go_wp2;go_ret;simp_all
def Ob (v:gG) (w:gm):(ReflectliteType.typeOf #[.iface 73 v]).run prog w= .ok (.iface 140 (.agg #[jG 7 73])) w:=rfl
def MO (w:gm):(ReflectliteType.relation "AssignableTo" ReflectliteType.assignableTo #[.agg #[jG 7 73],.iface 140 (.agg #[jG 7 73])]).run prog w= .ok (.bool true) w:=by kernel_rfl
def GC (w:gm):(ReflectliteType.relation "AssignableTo" ReflectliteType.assignableTo #[.agg #[jG 7 73],.iface 140 (.agg #[jG 7 22])]).run prog w= .ok (.bool false) w:=by kernel_rfl
def VV (p:Addr) (w:gm):(ReflectliteValue.unpack (.iface 73 (.pointer (some p)))).run prog w
  = .ok (.agg #[jG 7 73,gE w.heap.size,.int .u64 150]) (w.alloc (.cells #[.pointer (some p)] 73)):=by kernel_rfl
def ZU (w:gm):(Rtype.elem? 75).run prog w= .ok (some 73) w:=by kernel_rfl
def ajy (p:Addr) (w:gm):(ReflectliteValue.mk 73 p ReflectliteValue.flagAddr).run prog w= .ok (.agg #[jG 7 73,.pointer (some p),.int .u64 406]) w:=by kernel_rfl
def ac5 (a p:Addr) (W:gm) (h:W.cell? a=some (.pointer (some p))):
  (ReflectliteValue.method (ReflectliteValue.valueError "reflectlite.Value.Elem" 0) ReflectliteValue.elem #[.agg #[jG 7 75,.pointer (some a),.int .u64 150]]).run prog W
   = .ok (.agg #[jG 7 73,.pointer (some p),.int .u64 406]) W:=by
 rw[rlm];simp only[Ue,Oc,Result.andThen];simp[ReflectliteValue.elem,loadVar,isAgg,underlying,underlying75,h,Result.andThen,ZU,ajy]
def ZV (a:Addr) (w:gm):(ReflectliteValue.parts (.agg #[jG 7 73,.pointer (some a),.int .u64 406])).run prog w= .ok (some (73,a,406)) w:=rfl
def ac7 (a:Addr) (w:gm):(ReflectliteValue.parts (.agg #[jG 7 73,.pointer (some a),.int .u64 150])).run prog w= .ok (some (73,a,150)) w:=rfl
def ZT (w:gm):(Rtype.directlyAssignable 73 73).run prog w= .ok true w:=by rfl
theorem aij (h b p:Addr) (j:gG) (W:gm) (k:W.cell? b=some (.pointer (some p))) (o:W.cell? h=some j) (m:W.frozen? h=false):
  (ReflectliteValue.set #[.agg #[jG 7 73,.pointer (some h),.int .u64 406],.agg #[jG 7 73,.pointer (some b),.int .u64 150]]).run prog W
   = .ok (.tuple #[]) (W.setCell h (.pointer (some p))):=by
 rw[rls];simp only[Ue,ZV,ac7,Result.andThen];simp[ReflectliteValue.flagAddr,loadVar,isAgg,underlying,underlying73,k,Result.andThen,ZT,storeVar,Value.cells,storeCells,Addr.add];rw[run_store prog W h _ _ rfl];grind
def afN (v:gG) (h:TypeId) (w:gm):(Instr.typeAssert (.iface 73 v) h 144 true).run prog w= .ok (.tuple #[.nilIface,.bool false]) w:=run_typeAssert_lacksB underlying144 (by kernel_rfl) (by kernel_rfl) v h w
def afO (v:gG) (h:TypeId) (w:gm):(Instr.typeAssert (.iface 73 v) h 151 true).run prog w= .ok (.tuple #[.nilIface,.bool false]) w:=run_typeAssert_lacksB underlying151 (by kernel_rfl) (by kernel_rfl) v h w
def Fw (v:gG) (h:TypeId) (w:gm):(Instr.typeAssert (.iface 73 v) h 147 true).run prog w= .ok (.tuple #[.iface 73 v,.bool true]) w:=run_typeAssert_hasB underlying147 (by kernel_rfl) v h w
def Ax (v:gG) (w:gm):(Go.method 494 73 v "Unwrap").run prog w= .ok (406,v) w:=by kernel_rfl
def Iq (p n:Nat) (h:Int) (k:Int) (w:gm) (m:w.heap[p]?=some (gz #[fV k,fV h] 78)) (j:n=0):
  Calls prog 406 #[jG p n] w λe w'=>e=ig (.iface 22 (fV k))/\w'=w:=by
 subst j;have o:w.cell? ⟨p,0,none⟩=some (fV k):=by simp[World.cell?,m]
 go_enter func406,ntmps406;go_wp2;go_ret;simp
def Q0 (p t:Addr) (o:gG) (w:gm) (x:w.cell? ⟨0,0,none⟩=some (.iface 140 (.agg #[jG 7 51]))) (k:w.cell? t=some o) (q:w.frozen? t=false):
  Calls prog 25 #[.iface 73 (.pointer (some p)),.iface 75 (.pointer (some t))] w λA w'=>A=ig (.bool true)/\w'=((((w.alloc (.cells #[.pointer (some t)] 75)).alloc (.cells (rv 75 w.heap.size) 100)).alloc (.cells (rv 75 w.heap.size) 100)).alloc (.cells #[.pointer (some p)] 73)).setCell t (.pointer (some p)):=by
 have h6:=@run_callFunc_extern prog 35 _ (λj=>ReflectliteValue.unpack (j.getD 0 (.tuple #[]))) func35 (by rfl) (by rfl) rfl rfl;have h7:=@run_callFunc_extern prog 36 _ (ReflectliteValue.methodAny (ReflectliteValue.valueError "reflectlite.Value.Type" 0) (λt _ _ _=>ReflectliteType.toType t)) func36 (by rfl) (by rfl) rfl rfl;have h8:=@run_callFunc_extern prog 37 _ (ReflectliteValue.method (ReflectliteValue.valueError "reflectlite.Value.IsNil" 0) ReflectliteValue.isNil) func37 (by rfl) (by rfl) rfl rfl;have I:=@run_callFunc_extern prog 398 _ (ReflectliteType.abiMethod λt=>do pure (.int .u8 (<-Rtype.kind t))) func398 (by rfl) (by rfl) rfl rfl;have K:=@run_callFunc_extern prog 419 _ (ReflectliteType.method ReflectliteType.elem) func419 (by rfl) (by rfl) rfl rfl;have N:=@run_callFunc_extern prog 420 _ (ReflectliteType.relation "Implements" ReflectliteType.implements_) func420 (by rfl) (by rfl) rfl rfl;have F:=@run_callFunc_extern prog 39 _ ReflectliteType.typeOf func39 (by rfl) (by rfl) rfl rfl;have J:=@run_callFunc_extern prog 417 _ (ReflectliteType.relation "AssignableTo" ReflectliteType.assignableTo) func417 (by rfl) (by rfl) rfl rfl;have G:=@run_callFunc_extern prog 55 _ (ReflectliteValue.method (ReflectliteValue.valueError "reflectlite.Value.Elem" 0) ReflectliteValue.elem) func55 (by rfl) (by rfl) rfl rfl;have H:=@run_callFunc_extern prog 56 _ ReflectliteValue.set func56 (by rfl) (by rfl) rfl rfl;have tO:=Ob;have mA:=C8;have y:=MO;have V:=VV;have Y:=VY;have Z:=afU;have mK:=XM;have mE:=XK;have mI:=C9;have U:=ac9;have T:=afT;have z:=afS;have Q:=MP;have n8:=ac8 ⟨w.heap.size,0,none⟩ t ((w.alloc (.cells #[.pointer (some t)] 75)).alloc (.cells (rv 75 w.heap.size) 100)) (by simp);have u:0 < w.heap.size:=by
  rcases Ws w.heap.size with E|h
  .simp[World.cell?,E]at x
  .exact h
 have O:((w.alloc (.cells #[.pointer (some t)] 75)).alloc (.cells (rv 75 w.heap.size) 100)).cell? ⟨0,0,none⟩=some (.iface 140 (.agg #[jG 7 51])):=by
  rw[uJ _ _ ⟨0,0,none⟩ (by simp),uJ _ _ ⟨0,0,none⟩ u];exact x
 have m:t.block < w.heap.size:=by
  rcases pJ t.block w.heap.size with h|h
  .exact h
  .simp[World.cell?,LU h]at k
 have X:=ac5 ⟨w.heap.size,0,none⟩ t (((w.alloc (.cells #[.pointer (some t)] 75)).alloc (.cells (rv 75 w.heap.size) 100)).alloc (.cells (rv 75 w.heap.size) 100)) (by rw[uJ _ _ ⟨w.heap.size,0,none⟩ (by simp;omega)];simp);have st:=aij t ⟨w.heap.size+1+1+1,0,none⟩ p o ((((w.alloc (.cells #[.pointer (some t)] 75)).alloc (.cells (rv 75 w.heap.size) 100)).alloc (.cells (rv 75 w.heap.size) 100)).alloc (.cells #[.pointer (some p)] 73))
  (by rw[World.cell?_alloc_at _ _ _ _ (by simp)];rfl)
  (by rw[uJ _ _ t (by simp;omega),uJ _ _ t (by simp;omega),uJ _ _ t (by simp;omega),uJ _ _ t m];exact k)
  (by rw[xN _ _ t (by simp;omega),xN _ _ t (by simp;omega),xN _ _ t (by simp;omega),xN _ _ t (Nat.ne_of_lt m)];exact q)
 go_enter func25,ntmps25;go_wp2;refine xO 1 ?_;rw[pj];go_wp2;go_ret;exact⟨rfl,rfl⟩
theorem L6 (p:Nat) (j k:Int) (t:Addr) (u:gG) (w:gm) (E:w.heap[p]?=some (gz #[fV k,fV j] 78)) (X:w.cell? ⟨0,0,none⟩=some (.iface 140 (.agg #[jG 7 51]))) (o:w.cell? t=some u) (x:w.frozen? t=false):
  Calls prog 25 #[.iface 73 (gE p),.iface 80 (.pointer (some t))] w λJ w'=>J=ig (.bool true)/\w'=((((w.alloc (.cells #[.pointer (some t)] 80)).alloc (.cells (rv 80 w.heap.size) 100)).alloc (.cells (rv 80 w.heap.size) 100)).alloc (.cells #[fV k] 22)).setCell t (fV k):=by
 have h6:=@run_callFunc_extern prog 35 _ (λm=>ReflectliteValue.unpack (m.getD 0 (.tuple #[]))) func35 (by rfl) (by rfl) rfl rfl;have h7:=@run_callFunc_extern prog 36 _ (ReflectliteValue.methodAny (ReflectliteValue.valueError "reflectlite.Value.Type" 0) (λt _ _ _=>ReflectliteType.toType t)) func36 (by rfl) (by rfl) rfl rfl;have h8:=@run_callFunc_extern prog 37 _ (ReflectliteValue.method (ReflectliteValue.valueError "reflectlite.Value.IsNil" 0) ReflectliteValue.isNil) func37 (by rfl) (by rfl) rfl rfl;have Q:=@run_callFunc_extern prog 398 _ (ReflectliteType.abiMethod λt=>do pure (.int .u8 (<-Rtype.kind t))) func398 (by rfl) (by rfl) rfl rfl;have U:=@run_callFunc_extern prog 419 _ (ReflectliteType.method ReflectliteType.elem) func419 (by rfl) (by rfl) rfl rfl;have V:=@run_callFunc_extern prog 420 _ (ReflectliteType.relation "Implements" ReflectliteType.implements_) func420 (by rfl) (by rfl) rfl rfl;have K:=@run_callFunc_extern prog 39 _ ReflectliteType.typeOf func39 (by rfl) (by rfl) rfl rfl;have T:=@run_callFunc_extern prog 417 _ (ReflectliteType.relation "AssignableTo" ReflectliteType.assignableTo) func417 (by rfl) (by rfl) rfl rfl;have N:=@run_callFunc_extern prog 55 _ (ReflectliteValue.method (ReflectliteValue.valueError "reflectlite.Value.Elem" 0) ReflectliteValue.elem) func55 (by rfl) (by rfl) rfl rfl;have O:=@run_callFunc_extern prog 56 _ ReflectliteValue.set func56 (by rfl) (by rfl) rfl rfl;have tO:=Ob;have a2:=Np;have mA:=C8;have G:=GC;have H:=Ml;have a3:=Rq;have f6:=UO;have f7:=aes;have mK:=XM;have mE:=XK;have mI:=C9;have a1:=abj;have a0:=aer;have I:=aeq;have Z:=Mm;have x1:=afN;have x2:=Fw;have x3:=Ax;have n8:=abh ⟨w.heap.size,0,none⟩ t ((w.alloc (.cells #[.pointer (some t)] 80)).alloc (.cells (rv 80 w.heap.size) 100)) (by simp);have y:0 < w.heap.size:=by
  rcases Ws w.heap.size with h0|h
  .grind
  .exact h
 have Y:((w.alloc (.cells #[.pointer (some t)] 80)).alloc (.cells (rv 80 w.heap.size) 100)).cell? ⟨0,0,none⟩=some (.iface 140 (.agg #[jG 7 51])):=by
  rw[uJ _ _ ⟨0,0,none⟩ (by simp),uJ _ _ ⟨0,0,none⟩ y];exact X
 have q:t.block < w.heap.size:=by
  rcases pJ t.block w.heap.size with h|h
  .exact h
  .simp[World.cell?,LU h]at o
 have z:=iQ E;have F:Hid ((((w.alloc (.cells #[.pointer (some t)] 80)).alloc (.cells (rv 80 w.heap.size) 100)).alloc (.cells (rv 80 w.heap.size) 100)).heap[p]?=some (gz #[fV k,fV j] 78)):=by
  show _=_;rw[Below.heap_alloc _ _ _ (by simp;omega),Below.heap_alloc _ _ _ (by simp;omega),Below.heap_alloc _ _ _ z];exact E
 have el:=abg ⟨w.heap.size,0,none⟩ t (((w.alloc (.cells #[.pointer (some t)] 80)).alloc (.cells (rv 80 w.heap.size) 100)).alloc (.cells (rv 80 w.heap.size) 100)) (by rw[uJ _ _ ⟨w.heap.size,0,none⟩ (by simp;omega)];simp);have st:=ahv t ⟨w.heap.size+1+1+1,0,none⟩ k u ((((w.alloc (.cells #[.pointer (some t)] 80)).alloc (.cells (rv 80 w.heap.size) 100)).alloc (.cells (rv 80 w.heap.size) 100)).alloc (.cells #[fV k] 22))
  (by rw[World.cell?_alloc_at _ _ _ _ (by simp)];rfl)
  (by rw[uJ _ _ t (by simp;omega),uJ _ _ t (by simp;omega),uJ _ _ t (by simp;omega),uJ _ _ t q];exact o)
  (by rw[xN _ _ t (by simp;omega),xN _ _ t (by simp;omega),xN _ _ t (by simp;omega),xN _ _ t (Nat.ne_of_lt q)];exact x)
 go_enter func25,ntmps25;go_wp2;refine xO 2 ?_;rw[pj];go_wp2_with (go_at_call 406;refine(Iq p 0 j k _ F rfl).mono ?_;rintro e w' ⟨rfl,A⟩;subst A);rw[pj];go_wp2;go_ret;exact⟨rfl,rfl⟩
def aeM (p:Nat) (h k:Int) (w:gm) (t:w.heap[p]?=some (gz #[fV k,fV h] 78)):
  Calls prog 26 #[.iface 73 (gE p),.iface 22 (fV k)] w λe w'=>e=ig (.bool true)/\w'=w:=by
 have⟨i,hi,hcmp⟩:=Option.map_eq_some_iff.1 aep;have y:=@run_callFunc_extern prog 39 _ Extern.ReflectliteType.typeOf func39 (by rfl) (by rfl) rfl rfl;have o:=@run_callFunc_extern prog 418 _ Re func418 (by rfl) (by rfl) rfl rfl;have A:=Np;have x:=IC;have z:=MN;have E:=afO;have F:=Fw;have G:=Ax;have q:∀w:gm,(binOp .eql 51 (.iface 22 (fV k)) (.iface 22 (fV k))).run prog w= .ok (.bool true) w:=λw=>by
  rw[Ft w k k underlying51 underlying22 hi hcmp];simp
 have u:=λw=>run_eql_iface_types (P:=prog) 73 22 (gE p) (fV k) underlying51 (by decide) w;have m:Hid (w.heap[p]?=some (gz #[fV k,fV h] 78)):=t;go_enter func26,ntmps26;go_wp2;refine xO 2 ?_;rw[pj];go_wp2_with (go_at_call 406;refine(Iq p 0 h k _ m rfl).mono ?_;rintro e w' ⟨rfl,j⟩;subst j);rw[pj];go_wp2;go_ret;exact⟨rfl,rfl⟩
def OG (p:Addr) (t:Nat) (h:gG) (w:gm) (m:errorType w) (j:w.heap[t]?=some (gz #[h] 73)):
  Calls prog 25 #[.iface 73 (.pointer (some p)),.iface 75 (gE t)] w λk w'=>k=ig (.bool true)/\w'.heap[t]?=some (gz #[.pointer (some p)] 73)/\Kept [t] w w':=by
 refine(Q0 p ⟨t,0,none⟩ h w m (yE j) (free_of_one j)).mono ?_;rintro e w' ⟨rfl,rfl⟩;refine⟨rfl,one_setCell (v:=h) ?_,?_⟩
 .have o:=iQ j;rw[Below.heap_alloc _ _ _ (by simp;omega),Below.heap_alloc _ _ _ (by simp;omega),Below.heap_alloc _ _ _ (by simp;omega),Below.heap_alloc _ _ _ o];exact j
 .exact Kept.setCell ((((Kept.refl _ _).alloc _).alloc _).alloc _|>.alloc _) (.inl (by simp)) _
def Jz (p:Nat) (j k:Int) (t:Nat) (h:gG) (w:gm) (x:w.heap[p]?=some (gz #[fV k,fV j] 78)) (q:errorType w) (m:w.heap[t]?=some (gz #[h] 22)):
  Calls prog 25 #[.iface 73 (gE p),.iface 80 (gE t)] w λo w'=>o=ig (.bool true)/\w'.heap[t]?=some (gz #[fV k] 22)/\Kept [t] w w':=by
 refine(L6 p j k ⟨t,0,none⟩ h w x q (yE m) (free_of_one m)).mono ?_;rintro e w' ⟨rfl,rfl⟩;refine⟨rfl,one_setCell (v:=h) ?_,?_⟩
 .have u:=iQ m;rw[Below.heap_alloc _ _ _ (by simp;omega),Below.heap_alloc _ _ _ (by simp;omega),Below.heap_alloc _ _ _ (by simp;omega),Below.heap_alloc _ _ _ u];exact m
 .exact Kept.setCell ((((Kept.refl _ _).alloc _).alloc _).alloc _|>.alloc _) (.inl (by simp)) _
def Y9 (p:Nat) (h k:Int) (w:gm) (x:w.heap[p]?=some (gz #[fV k,fV h] 78)) (E:errorType w):
  Calls prog 41 #[.iface 73 (gE p)] w λe w'=>e=ig (.tuple #[fV k,.bool true])/\Kept [] w w':=by
 have J:∀(A:Fn) (first cap:jA) (w:gm),(Instr.makeFunc A first cap).run prog w= .ok (.func A first cap) w:=λ_ _ _ _=>rfl;have m:=sO (sO E (.cells #[fV 0] 22)) (.cells #[.bool false] 4);have y:=iQ x;have o:((w.alloc (.cells #[fV 0] 22)).alloc (.cells #[.bool false] 4)).heap[p]?=some (gz #[fV k,fV h] 78):=by
  rw[Below.heap_alloc _ _ _ (by simp;omega),Below.heap_alloc _ _ _ y];exact x
 have j:=fM o;clear x o
 go_enter_defers func41,ntmps41
 go_wp21;refine(Jz p h k w.heap.size _ _ j.out m (by rw[Below.heap_alloc _ _ _ (by simp)];exact fP _ _)).mono ?_;rintro e z ⟨rfl,q,u⟩;have t:z.heap[w.heap.size+1]?=some (gz #[.bool false] 4):=by
  refine u.at ?_ (by simp);have:=fP (w.alloc (.cells #[fV 0] 22)) (.cells #[.bool false] 4)
  simpa using this
 have H:=yE q;have I:=yE t;have N:=free_of_one q;have O:=free_of_one t;have F:Kept [] w z:=((((Kept.refl _ _).alloc _).alloc _).trans (S:=[w.heap.size]) u).mono (by simp);clear u j;have T:=iQ q;have U:=iQ t;clear q t E m;go_wp21;go_region
 all_goals go_wp2
 refine leaves_cons (f:=57) (args:=#[gE w.heap.size,gE (w.heap.size+1)]) (by simp) (by simp[go_sem]) ?_;refine(Uz ⟨w.heap.size,0,none⟩ ⟨w.heap.size+1,0,none⟩ _).mono ?_;rintro e Q K ⟨rfl,rfl,rfl⟩;have G:Kept [] w (((z.setCell ⟨w.heap.size+1,0,none⟩ (.bool true)).setCell ⟨w.heap.size,0,none⟩ (fV k)).setCell ⟨w.heap.size+1,0,none⟩ (.bool true)).drew:=
  (((F.setCell (.inr (by simp)) _).setCell (.inr (by simp)) _).setCell (.inr (by simp)) _).drew
 simp[Go.Leaves,settle,results,results41,go_sem,H,I];exact G
def Bi (p:Nat) (h k:Int) (w:gm) (m:w.heap[p]?=some (gz #[fV k,fV h] 78)) (j:errorType w):
  Calls prog 27 #[.iface 73 (gE p)] w λe w'=>e=ig (fV k)/\Kept [] w w':=by
 have H:=fM (Y9 p h k w m j);clear m j;go_enter func27,ntmps27;go_wp21;refine H.out.mono ?_;rintro e w' ⟨rfl,o⟩;go_wp2;go_ret;exact⟨rfl,o⟩
theorem Oj (p:Nat) (q k:Int) (w:gm) (I:w.heap[p]?=some (gz #[fV k,fV q] 78)) (F:errorType w):
  Calls prog 17 #[.iface 73 (gE p)] w λe w'=>e=ig (.tuple #[fV k,fV q])/\Kept [] w w':=by
 have x:=sO (sO F (.cells #[.pointer none] 73)) (.cells #[fV 0] 22);have H:=fM I;have J:=fM F;clear I F;go_enter func17,ntmps17;go_wp21;refine vR (by rfl) ?_;refine qp (λ(g:Unit) z=>⟨#[.iface 73 (gE p),undef,fV 0,fV 0,gE w.heap.size,gE (w.heap.size+1),.bool false,.iface 73 (gE p),.bool false,cd z 21 (.bool true),cd z 0 (.iface 73 (gE p)),cd z 1 (.iface 75 (gE w.heap.size)),cd z 2 (.bool true),cd z 3 (.bool true),cd z 4 (.iface 73 (gE p)),cd z 5 (gE p),cd z 6 (gE p),cd z 7 (gE p),cd z 8 (fV k),cd z 9 (.iface 22 (fV k)),cd z 10 (.bool true),cd z 11 (.bool true),cd z 12 (.bool true),cd z 13 (.iface 73 (gE p)),cd z 14 (fV k),cd z 15 (gE p),cd z 16 (gE p),cd z 17 (gE p),cd z 18 (fV k),cd z 19 (.bool true),cd z 20 (.bool true),undef,undef,undef,undef,undef,undef,undef,undef,undef,undef,undef,undef,undef,undef,undef,undef,undef,undef,undef,undef,undef,undef,undef,undef,undef],[]⟩) (λg z W=>(dn z 2=false->W=((w.alloc (.cells #[.pointer none] 73)).alloc (.cells #[fV 0] 22)).drew)/\(dn z 2=true->W.heap[w.heap.size]?=some (gz #[gE p] 73)/\Kept [] w W)) 22 [[],[],[0,1],[0,1,2],[0,1,2,3],[0,1,2,3],[0,1,2,3,5],[0,1,2,3,5,6],[0,1,2,3,5,6,7],[0,1,2,3,5,6,7,8],[0,1,2,3,4,5,6,7,8,9],[0,1,2,3,4,5,6,7,8,9,10],[0,1,2,3,4,5,6,7,8,9,10,11],[0,1,2,3,4,5,6,7,8,9,10,11,12],[0,1,2,3,4,5,6,7,8,9,10,11,12,13],[0,1,2,3,4,5,6,7,8,9,10,11,12],[0,1,2,3,4,5,6,7,8,9,10,11,12,15],[0,1,2,3,4,5,6,7,8,9,10,11,12,15,16],[0,1,2,3,4,5,6,7,8,9,10,11,12,15,16,17],[0,1,2,3,4,5,6,7,8,9,10,11,12,13,14,15,16,17,18],[0,1,2,3,4,5,6,7,8,9,10,11,12,13,14,15,16,17,18,19],[0,1,2,3,4,5,6,7,8,9,10,11,12,13,14,15,16,17,18,19,20]] () rfl rfl ⟨λ_=>rfl,λh=>by cases h⟩ ?_ ?_
 .repeat' first|exact nu|refine nr ?_ ?_
  all_goals
   rintro g z W m u T;simp[Dh]at u;refine jY rfl ?_;intro Q o;simp only[lC,u]
   first
   |have⟨t,K1⟩:=m.2 u.2.2.1;have j:=K1.at H.out (by simp);have K:=yE t;have E:=fN j 0;have G:=iQ j;dsimp at E;go_simp;first
    |refine o _ _ ⟨g,?_,λh=>m.1 (by rwa [pr (by decide)]at h),λh=>m.2 (by grind)⟩
    |refine(aeM p q k _ j).mono ?_;rintro e w2 ⟨rfl,rfl⟩;refine o _ _ ⟨g,?_,λh=>m.1 (by rwa [pr (by decide)]at h),λh=>m.2 (by grind)⟩
    |refine(Bi p q k _ j (Kc J.out K1 (by simp))).mono ?_;rintro e V ⟨rfl,y⟩;refine o _ _ ⟨g,?_,λh=>(by rw[pr (by decide),u.2.2.1]at h;cases h),λ_=>⟨y.at t (by simp),K1.trans y⟩⟩
   |go_simp;refine o _ _ ⟨g,?_,λh=>m.1 (by rwa [pr (by decide)]at h),λh=>m.2 (by rwa [pr (by decide)]at h)⟩
   |obtain rfl:=m.1 u.2.2;go_simp;refine(OG ⟨p,0,none⟩ w.heap.size _ _ (J9 x) (by show((w.alloc _).alloc _).heap[w.heap.size]?=_;rw[Below.heap_alloc _ _ _ (by simp)];exact fP _ _)).mono ?_;rintro e U ⟨rfl,t,O⟩;refine o _ _ ⟨g,?_,λh=>(by rw[sM]at h;cases h),λ_=>⟨t,(((Kept.refl _ _).alloc _).alloc _).drew.next O (by simp)⟩⟩
   simp[pn,wx,lC,u]
 .rintro g W m;simp only[vW];have⟨t,K1⟩:=m.2 yt;have j:=K1.at H.out (by simp);have K:=yE t;have E:=fN j 0;have N:=fN j 1;have G:=iQ j;dsimp at E N;have A:=fM K1;clear m t j K1 x;go_wp21
  go_quiet (fail)
  go_wp2;go_ret2;exact⟨rfl,A.out.next ((Kept.refl [] _).drewN _) (by simp)⟩
attribute [local go_sem] Oper.semAt_some
def errorType.kept (h:errorType w) (m:Kept S w w') (o:0∉S):errorType w':=by
 have k:0 < w.heap.size:=by
  rcases pJ 0 w.heap.size with j|j
  .exact j
  .unfold errorType at h;simp[World.cell?,LU j]at h
 exact(m.cell (p:=⟨0,0,none⟩) k o).trans h
def Ow (s:fY) (d f l c p:Nat):Prop:=∀(j:gG) (h:Nat) (w:gm),w.ownsRow h 5 1 j s.size (kR s)->yq w->LY w->
  Calls prog 29 #[j,.agg #[fV d,fV f,fV l]] w λe w'=>Js w e w' (.stop c p)
def agW (w:gm) (c p:Nat) (v3 v4:gG) (wc:gm):Prop:=∃h k,v3=gE h/\v4=gE k/\w.heap.size<=h/\wc.heap[h]?=some (gz #[ji,.pointer none] 67)/\km wc k c p/\Kept [] w wc
theorem JQ {p : Nat} {e : Ending} (h:Js W e w2 (.stop c p)) (u:Kept [] w W):∃k,e=ig (.tuple #[.agg #[ji,.pointer none],gE k])/\agW w c p (gE w2.heap.size) (gE k) (w2.alloc (gz #[ji,.pointer none] 67))/\
  (∀j,w.heap.size<=j->W.heap[j]?=some (gz #[ji,.pointer none] 67)->w2.heap[j]?=some (gz #[ji,.pointer none] 67)/\agW w c p (gE j) (gE k) ((w2.setCell ⟨j,0,none⟩ (ji)).setCell ⟨j,1,none⟩ (.pointer none))):=by
 obtain⟨k,rfl,q,m⟩:=h;have A:w.heap.size<=W.heap.size:=u.size;have x:=(Kept.refl [] w2).alloc (gz #[ji,.pointer none] 67);refine⟨k,rfl,⟨_,k,rfl,rfl,jH A m.size,fP w2 _,x.at q (by simp),(u.trans m).trans x⟩,?_⟩;intro j o y;have t:=m.at y (by simp);have E:Kept [j] w2 ((w2.setCell ⟨j,0,none⟩ (ji)).setCell ⟨j,1,none⟩ (.pointer none)):=((Kept.refl _ _).setCell (.inl (by simp)) _).setCell (.inl (by simp)) _;refine⟨t,j,k,rfl,rfl,o,fR (fR t 0 _) 1 _,E.at q (λz=>?_),((u.trans m).setCell (.inr o) _).setCell (.inr o) _⟩;have e:=List.mem_singleton.1 z;subst e;unfold km at q;grind
def zT (d f l:Int) (p k:Nat):jA:=#[fV d,fV f,fV l,ji,.bool true,fV p,.iface 73 (gE k),ji,.pointer none]
def Ec (w:gm) (bx d f l c p k:Nat) (w':gm):Prop:=w'.heap[bx]?=some (gz (zT d f l p k) 69)/\km w' k c p/\Kept [bx] w w'
def UD (bx d f l:Nat) (T:gG) (s:fY) (base:Nat) (w:gm) (q:w.heap[bx]?=some (gz (uy ((d:Int),(f:Int),(l:Int)) T) 69)) (O:w.ownsRow base 5 1 T s.size (kR s)) {p : Nat} (Z:yq w) (E:LY w) (hn:Ow s d f l c p):
  Calls prog 19 #[gE bx] w λe w'=>∃k,e=ig (.iface 73 (gE k))/\Ec w bx d f l c p k w':=by
 have⟨ao,cp,htv⟩:=gw O;subst htv;have a2:=iQ q;have c0:w.cell? ⟨bx,0,none⟩=some (fV d):=by rw[fN q];rfl
 have c1:w.cell? ⟨bx,1,none⟩=some (fV f):=by rw[fN q];rfl
 have c2:w.cell? ⟨bx,2,none⟩=some (fV l):=by rw[fN q];rfl
 have c3:w.cell? ⟨bx,3,none⟩=some (.slice ao s.size cp):=by rw[fN q];rfl
 have V:=A8 bx ((d:Int),(f:Int),(l:Int)) _ w q;have F:=(λW (o:Kept [] w W)=>hn (.slice ao s.size cp) base W (o.ownsRow O (λ_ _=>by simp)) (Z.fr (bm:=0) (.gN o)) (E.kept o));have Y:=q;have X:=fP w.drew (gz #[ji,.pointer none] 67);go_enter func19,ntmps19;go_wp21;refine V.mono ?_;rintro e m ⟨rfl,rfl⟩;go_wp21
 go_cut [3,4]from 8 to 19 (λv3 v4 wc=>agW m c p v3 v4 wc)
 case first=>
  go_region_with (go_at_call 29;first
   |(refine(F _ ((Kept.refl [] m).drew)).mono ?_;intro e w2 x;obtain⟨k,rfl,H,_⟩:=JQ x ((Kept.refl [] m).drew);have z:=fM H;clear H x)
   |(refine(F _ (((Kept.refl [] m).drew).alloc _)).mono ?_;intro e w2 x;obtain⟨k,rfl,_,I⟩:=JQ x (((Kept.refl [] m).drew).alloc _);have⟨h3,h4⟩:=I m.heap.size (gL _) X;have q0:w2.cell? ⟨m.heap.size,0,none⟩=some (ji):=(by rw[fN h3];rfl);have q1:w2.cell? ⟨m.heap.size,1,none⟩=some (.pointer none):=(by rw[fN h3];rfl);have z0:=gh h3 0;have z1:=gh h3 1;have z:=fM h4;clear I h3 h4 x))
  all_goals (try (go_wp21))
  all_goals (go_meet;exact z)
 case rest=>
  obtain⟨A,k,rfl,rfl,a0,E,j,o⟩:=hcut;have h:=o.at Y (by simp);have e3:wc.cell? ⟨bx,3,none⟩=some (.slice ao s.size cp):=by rw[fN h];rfl
  have e4:wc.cell? ⟨bx,4,none⟩=some (.bool false):=by rw[fN h];rfl
  have e5:wc.cell? ⟨bx,5,none⟩=some (fV 0):=by rw[fN h];rfl
  have e7:wc.cell? ⟨bx,7,none⟩=some (ji):=by rw[fN h];rfl
  have e8:wc.cell? ⟨bx,8,none⟩=some (.pointer none):=by rw[fN h];rfl
  have t0:wc.cell? ⟨A,0,none⟩=some (ji):=by rw[fN E];rfl
  have t1:wc.cell? ⟨A,1,none⟩=some (.pointer none):=by rw[fN E];rfl
  have f4:=gh h 4;have f5:=gh h 5;have f7:=gh h 7;have f8:=gh h 8;have a3:A≠bx:=by omega
  have N:bx≠A:=by omega
  have t:k≠bx:=by
   rintro rfl;unfold km at j;rw[h]at j;simp at j
  have K:=iQ h;have G:=And.intro h (And.intro j o);go_wp21
  go_cut []from 20 to 34 (λU=>U.heap[bx]?=some (gz #[fV d,fV f,fV l,.slice ao s.size cp,.bool true,fV s.size,.nilIface,ji,.pointer none] 69)/\Kept [bx] wc U)
  case first=>
   go_region
   all_goals (try (go_wp21))
   all_goals (go_meet;exact⟨fR (fR (fR (fR G.1 _ _) _ _) _ _) _ _,(((((Kept.refl [bx] wc).setCell (.inl (by simp)) _).setCell (.inl (by simp)) _).setCell (.inl (by simp)) _).setCell (.inl (by simp)) _).drew⟩)
  case rest=>
   have⟨hx3,hk3⟩:=hcut;have⟨h,j,o⟩:=G;have y:km wc k c p:=hk3.at j (by simpa using t);have g3:wc.cell? ⟨bx,3,none⟩=some (.slice ao s.size cp):=by rw[fN hx3];rfl
   have g5:wc.cell? ⟨bx,5,none⟩=some (fV s.size):=by rw[fN hx3];rfl
   have g6:wc.cell? ⟨bx,6,none⟩=some .nilIface:=by rw[fN hx3];rfl
   have s1:wc.cell? ⟨k,1,none⟩=some (fV p):=by rw[fN y];rfl
   have y3:=gh hx3 3;have y5:=gh hx3 5;have y6:=gh hx3 6;have J:=iQ hx3;have u:=t;have a1:bx≠k:=λe=>u e.symm;have Q:=hk3.trans ((((Kept.refl [bx] wc).setCell (p:=⟨bx,5,none⟩) (.inl (by simp)) (fV p)).setCell (p:=⟨bx,6,none⟩) (.inl (by simp)) (.iface 73 (gE k))).setCell (p:=⟨bx,3,none⟩) (.inl (by simp)) (ji));have z:Hid (Ec m bx d f l c p k (((wc.setCell ⟨bx,5,none⟩ (fV p)).setCell ⟨bx,6,none⟩ (.iface 73 (gE k))).setCell ⟨bx,3,none⟩ (ji))):=fM ⟨fR (fR (fR hx3 5 _) 6 _) 3 _,Q.at j (by simpa using u),(o.mono (by simp)).trans Q⟩;go_wp2;go_ret;exact⟨k,rfl,z⟩
def SI (bx d f l:Nat) (m:gG) (s:fY) (base:Nat) (w:gm) (F:w.heap[bx]?=some (gz (uy ((d:Int),(f:Int),(l:Int)) m) 69)) (E:w.ownsRow base 5 1 m s.size (kR s)) {p : Nat} (u:yq w) (z:LY w) (A:Ow s d f l c p) (y:errorType w) (x:0≠bx):
  Calls prog 11 #[gE bx] w λe w'=>∃k,e=ig (.tuple #[fV c,fV p])/\Ec w bx d f l c p k w':=by
 have C:=UD bx d f l m s base w F E u z A;have q:=y;go_enter func11,ntmps11;go_wp21;refine C.mono ?_;rintro e G ⟨k,rfl,h⟩;have o:=Oj k (p:Int) (c:Int) G h.2.1 (q.kept h.2.2 (by simpa using x));go_wp21;refine o.mono ?_;rintro e w2 ⟨rfl,j⟩;have t:Hid (Ec w bx d f l c p k w2):=by
  have⟨h1,h2,h3⟩:=h;exact fM ⟨j.at h1 (by simp),j.at h2 (by simp),h3.trans (j.mono (by simp))⟩
 go_wp2;go_ret2;exact⟨k,rfl,t⟩
structure W4 (w:gm):Prop where
 tab:yq w
 gl:LY w
 er:errorType w
 el:0 < w.heap.size
def W4.kept (h:W4 w) (j:Kept [] w w'):W4 w':=⟨h.tab.fr (bm:=0) (.gN j),h.gl.kept j,h.er.kept j (by simp),lU h.el j.size⟩
attribute [local go_sem] Oper.semAt_some
def ZX (bx:Nat) (d f l:Int) (p k:Nat) (w:gm) (h:w.heap[bx]?=some (gz (zT d f l p k) 69)):
  Calls prog 20 #[gE bx] w λe w'=>e=ig (.tuple #[fV p,.iface 73 (gE k)])/\Kept [] w w':=by
 have m:w.cell? ⟨bx,4,none⟩=some (.bool true):=by rw[fN h];rfl
 have o:w.cell? ⟨bx,5,none⟩=some (fV p):=by rw[fN h];rfl
 have q:w.cell? ⟨bx,6,none⟩=some (.iface 73 (gE k)):=by rw[fN h];rfl
 have j:=iQ h;go_enter func20,ntmps20;go_wp21;go_region
 all_goals (try go_wp2)
 all_goals (try go_ret2)
 all_goals exact⟨rfl,(Kept.refl [] w).drew⟩
def VF (bx:Nat) (d f l:Int) (c p k:Nat) (w:gm) (x:w.heap[bx]?=some (gz (zT d f l p k) 69)) (o:km w k c p) (u:errorType w):
  Calls prog 12 #[gE bx] w λe w'=>e=ig (.tuple #[fV p,fV c,fV p])/\Kept [] w w':=by
 have C:=ZX bx d f l p k w x;have t:=u;have HS:=o;go_enter func12,ntmps12;go_wp21;refine C.mono ?_;rintro e y ⟨rfl,h⟩;have q:=Oj k (p:Int) (c:Int) y (h.at HS (by simp)) (t.kept h (by simp));go_wp21;refine q.mono ?_;rintro e w2 ⟨rfl,m⟩;have j:=h.trans m;go_wp2;go_ret3;exact⟨rfl,j⟩
def YO (w:gm):Calls prog 24 #[ji] w λe w'=>e=ig (ji)/\w'=w:=by
 have h:=λw=>Ug (P:=prog) w 24 72 none 0 0 0 0 underlying24;go_enter func24,ntmps24;go_wp2;go_ret;simp
def Wj (bx:Nat) (d f l:Int) (p k:Nat) (w:gm) (h:w.heap[bx]?=some (gz (zT d f l p k) 69)):
  Calls prog 15 #[gE bx] w λe w'=>e=ig (ji)/\Kept [] w w':=by
 have m:w.cell? ⟨bx,7,none⟩=some (ji):=by rw[fN h];rfl
 have j:=iQ h;go_enter func15,ntmps15;go_wp21;refine(YO _).mono ?_;rintro e w' ⟨rfl,rfl⟩;go_wp2;go_ret;exact⟨rfl,Kept.refl _ _⟩
def EF (bx:Nat) (d f l:Int) (p k:Nat) (w:gm) (h:w.heap[bx]?=some (gz (zT d f l p k) 69)):
  Calls prog 22 #[gE bx] w λe w'=>e=ig (.bool false)/\w'=w:=by
 have m:w.cell? ⟨bx,8,none⟩=some (.pointer none):=by rw[fN h];rfl
 have j:=iQ h;go_enter func22,ntmps22;go_wp2;go_ret;simp
def Z6 (bx:Nat) (d f l:Int) (p k:Nat) (w:gm) (h:w.heap[bx]?=some (gz (zT d f l p k) 69)):
  Calls prog 14 #[gE bx] w λe w'=>e=ig (gu jB)/\Kept [] w w':=by
 have j:=EF bx d f l p k w h;have m:=iQ h;go_enter func14,ntmps14;go_wp21;refine j.mono ?_;rintro e o ⟨rfl,rfl⟩;go_wp2;go_ret;exact⟨rfl,Kept.refl _ _⟩
def aaf (v:gG) (bx:Nat) (d f l:Int) (p k:Nat) (w:gm) (h:w.heap[bx]?=some (gz (zT d f l p k) 69)):
  Calls prog 30 #[gE bx,v] w λe w'=>e=pL/\w'=w:=by
 have j:=EF bx d f l p k w h;have m:=iQ h;go_enter func30,ntmps30;go_wp21;refine j.mono ?_;rintro e o ⟨rfl,rfl⟩;go_wp2;go_end0;simp
theorem Kept.putObj (h:Kept S w w') (j:w.heap.size<=l) (o:Obj):Kept S w (w'.putObj l o):=h.grown (BJ w' l o) (λk e=>by grind)
def IY {P:Program} {g:Operand} {ps:Array Tmp} {assign body : Code} {Q:Exit->Act->gm->Prop} {a : Act} {gf : Nat} {rv : gG}
  (E:a.eval g= .func (.func gf) #[rv] #[]) (x:∀p w,(callFunc gf p).run P w= .ok (.enter gf p) w)
  (z:∀y W,Kept [] w W->Calls P gf #[rv,y] W λe w'=>(∃v,e=ig v)/\w'=W)
  (A:∀D W,Kept [] w W->w.heap.size<=D->W.heap[D]?=some (.deferred (some []))->Q .normal {a with defers:={target:= .collected D,args:=#[]}::a.defers} W):
  (Code.rangeFunc g ps assign body).wpIn Fence.wide n P Q a w:=by
 refine Yf ?_;intro fn _;obtain⟨k,j⟩:∃k:Loop,k={state:= .ready,pending:=none,fn,tmps:=a.tmps,params:=ps,assign,body,defers:=w.heap.size}:=⟨_,rfl⟩;obtain⟨o,m⟩:∃o,o=(w.alloc (.deferred (some []))).alloc (.loop k):=⟨_,rfl⟩;have e1:=Yh (P:=P) (w:=w) fn a.tmps ps assign body;rw[<-j,<-m]at e1;have u:o.heap[w.heap.size+1]?=some (.loop k):=by
  rw[m];have:=Iw (w.alloc (.deferred (some []))) (.loop k);rwa [xW]at this
 have t:o.heap[w.heap.size]?=some (.deferred (some [])):=by
  rw[m];exact(Below.heap_alloc _ _ _ (by simp)).trans (Iw w _)
 have q:Kept [] w o:=by rw[m];exact((Kept.refl _ _).alloc _).alloc _
 refine⟨w.heap.size+1,[{target:= .collected w.heap.size,args:=#[]}],o,{target:= .fn (.func gf) #[],args:=#[rv,.func (.yield (w.heap.size+1)) #[] #[]]},o,gf,
  #[rv,.func (.yield (w.heap.size+1)) #[] #[]],o,e1,?_,λ_ _=>trivial,?_,λh=>by simp[Fence.wide]at h,?_⟩
 .simp only[resolve,E];simp[go_sem]
 .simp[invoke,go_sem,x]
 .refine callsIn_wide.2 ((z _ _ q).mono ?_);rintro e w' ⟨⟨v,rfl⟩,rfl⟩;refine⟨none,_,by rw[LW u (by rw[j];simp),j],?_⟩;refine A w.heap.size _ (q.putObj (by omega) _) (gL _) ?_;exact(sg (by omega)).trans t
def Zs (bx:Nat) (d f l:Int) (p k:Nat) (w:gm) (x:w.heap[bx]?=some (gz (zT d f l p k) 69)):
  Calls prog 13 #[gE bx] w λe w'=>e=ig (ji)/\Kept [] w w':=by
 refine(BI (n:=3)).1 ?_;refine BK func13 rfl trivial ?_ rfl;simp only[ntmps13,xQ,rn,uI,Nat.reduceAdd,Nat.reduceSub,xR,xS,xU,xV,rp,tU];have m:Kept [] w (w.alloc (.cells #[ji] 23)):=(Kept.refl _ _).alloc _;have u:=fP w (gz #[ji] 23);have z:=m.at x (by simp);have F:=x
 gi_wp2_with (refine⟨trivial,?_⟩;gi_at_call 21;refine(callsIn_wide.2 (NJ _ bx)).mono ?_;rintro e w' ⟨rfl,rfl⟩)
 obtain⟨q,t⟩:∃q,q=w.alloc (gz #[ji] 23):=⟨_,rfl⟩;rw[<-t]at m u z|-;have H:=(show q.heap.size=w.heap.size+1 by rw[t];simp);refine IY (gf:=30) (rv:=gE bx) rfl (Go.Proofs.enters_of func30 (by rfl) rfl) ?_ ?_
 .intro y W j;exact(aaf y bx d f l p k W (j.at z (by simp))).mono (λe w' h=>⟨⟨_,h.1⟩,h.2⟩)
 .intro D W j G o;have E:=fN (j.at u (by simp)) 0;dsimp at E;have A:=m.trans j;gi_wp2;refine⟨by simp,.inl ⟨_,_,rfl,sL o,?_⟩⟩;exact⟨_,results_tmp rfl _ _ _,rfl,A.putObj (by omega) _⟩
theorem afW (B b:Nat) (u:gG×Bool) (l:List UInt8) (w y:gm) (h:Wu w B b u l) (E:l≠[]) (o:Kept [] y w) (Z:y.heap.size<=B) (F:l.length<=140737488355328):
  Calls prog 34 #[gE b] w λe w'=>e=ig (gu ⟨l.toArray⟩)/\Kept [] y w':=by
 obtain⟨p,hB,v,t,q,X⟩:∃p,WuP w B b u p l:=by
  rcases h with h|h
  all_goals grind
 have T:l.length≠0:=by simpa using E
 obtain⟨g,cap,m,rfl,J,O,V,K,N,A⟩:∃g cap m,v=oo g l.length cap/\B<=g/\w.heap[g]?=some (gz m 5)/\l.length<=cap/\cap<=maxLen/\m.size=cap*1/\m.toList.take (l.length*1)=Lib.byteCells l:=by
  rcases q.2 with⟨_,hz⟩|⟨g,cap,m,Y,r⟩
  .omega
  .exact⟨g,cap,m,Y,r⟩
 have c1:w.drew.cell? ⟨b,1,none⟩=some (oo g l.length cap):=by
  have:w.drew.heap[b]?=some (gz #[p,oo g l.length cap,u.1,.bool u.2] 95):=t;rw[Lib.cell_of_heap this];rfl
 have U:=iQ t;have H:(Builtin.unsafeSliceData_ #[55] 138 #[oo g l.length cap]).run prog w.drew= .ok (gE g) w.drew:=
  Lib.run_unsafeSliceData_row _ _ _ _ _ _ (by omega)
 have I:(Builtin.unsafeString_ #[138,3] 9 #[gE g,fV l.length]).run prog w.drew= .ok (gu ⟨l.toArray⟩) (w.drew.freeze ⟨g,0,none⟩ l.length):=by
  refine Lib.run_unsafeString_row w.drew 138 3 9 5 underlying138 rfl g m.size (by have z:w.drew.heap[g]?=some (gz m 5):=O;simp[World.shape?,z]) l E ?_ ?_ ?_
  .omega
  .omega
  .intro j x hx;have:=q.cells (g:=g) rfl j (.int .u8 x.toNat) (by simp[Lib.byteCells,hx]);exact this
 have G:Hid (Kept [] y (w.drew.freeze ⟨g,0,none⟩ l.length)):=fM (KE (Lib.below_freeze (Below.drew ⟨o.os,o.tape,o.output,o.size,λk Q=>o.block k Q (by simp)⟩) (p:=⟨g,0,none⟩) (by grind) _));go_enter func34,ntmps34;go_wp2;go_region
 all_goals (go_wp2;go_ret;exact⟨rfl,G⟩)
theorem afV (B b:Nat) (m:gG×Bool) (w G:gm) (h:Wu w B b m []) (z:Kept [] G w):
  Calls prog 34 #[gE b] w λe w'=>e=ig (gu jB)/\Kept [] G w':=by
 obtain⟨p,T,v,k,q,N⟩:∃p,WuP w B b m p []:=by
  rcases h with h|h
  all_goals grind
 have A:=iQ k;have j:=λ(W:gm) (p:Option Addr)=>Lib.run_unsafeString_none (P:=prog) (w:=W) 138 3 9 p;have t:=z;rcases q.2 with⟨rfl,_⟩|⟨g,cap,x,rfl,J,K,U⟩
 .have u:w.drew.cell? ⟨b,1,none⟩=some (ji):=by
   have:w.drew.heap[b]?=some (gz #[p,ji,m.1,.bool m.2] 95):=k;rw[Lib.cell_of_heap this];rfl
  have o:(Builtin.unsafeSliceData_ #[55] 138 #[ji]).run prog w.drew= .ok (.pointer none) w.drew:=Lib.run_unsafeSliceData_nil _ _ _ _ _;have E:=j w.drew none;go_enter func34,ntmps34;go_wp2;go_region
  all_goals (go_wp2;go_ret;exact⟨rfl,t.drew⟩)
 .have u:w.drew.cell? ⟨b,1,none⟩=some (oo g 0 cap):=by
   have:w.drew.heap[b]?=some (gz #[p,oo g 0 cap,m.1,.bool m.2] 95):=k;rw[Lib.cell_of_heap this];rfl
  by_cases F:cap=0
  .subst F;have o:(Builtin.unsafeSliceData_ #[55] 138 #[oo g 0 0]).run prog w.drew= .ok (gE w.drew.heap.size) (w.drew.alloc (.view ⟨g,0,none⟩ 5)):=by
    have y:w.drew.heap[g]?=some (gz x 5):=K;exact Lib.run_unsafeSliceData_zero _ _ _ 5 underlying138 ⟨g,0,none⟩ 0 _ (by simp only[World.shape?,y];rfl)
   have E:=j (w.drew.alloc (.view ⟨g,0,none⟩ 5)) (some ⟨w.drew.heap.size,0,none⟩);have I:=j (w.alloc (.view ⟨g,0,none⟩ 5)).drew (some ⟨w.heap.size,0,none⟩);have O:w.cell? ⟨b,1,none⟩=some (oo g 0 0):=u;have Q:(w.drew.alloc (.view ⟨g,0,none⟩ 5)).cell? ⟨b,1,none⟩=some (oo g 0 0):=by rw[uJ _ _ _ A];exact u
   have H:=t.drew.alloc (.view ⟨g,0,none⟩ 5);go_enter func34,ntmps34;go_wp2;go_region
   all_goals (go_wp2;go_ret;exact⟨rfl,H⟩)
  .have o:(Builtin.unsafeSliceData_ #[55] 138 #[oo g 0 cap]).run prog w.drew= .ok (gE g) w.drew:=Lib.run_unsafeSliceData_row _ _ _ _ _ _ F;have E:=j w.drew (some ⟨g,0,none⟩);go_enter func34,ntmps34;go_wp2;go_region
   all_goals (go_wp2;go_ret;exact⟨rfl,t.drew⟩)
def afX (B b:Nat) (p:gG×Bool) (l:List UInt8) (w m:gm) (h:Wu w B b p l) (j:Kept [] m w) (o:m.heap.size<=B) (k:l.length<=140737488355328):
  Calls prog 34 #[gE b] w λe w'=>e=ig (gu ⟨l.toArray⟩)/\Kept [] m w':=by
 by_cases q:l=[]
 .subst q;exact afV B b p w m h j
 .exact afW B b p l w m h q j o k
def T7 (w:gm) (k:Nat) (j:fY) (gx:la) (o:List Tn) (h:jD w (.el j gx o) (.el k)) (Z:sj w) (hg:LY w)
  (u:∀J,(∀e∈sA J o,xC e=true)/\uD (sA J o)<=140737488355328):
  Calls prog 23 #[gE k] w λe w'=>e=ig (gu ⟨(M4 (sA (Xi qM 1) o)).1.toArray⟩)/\Kept [] w w':=by
 have K:=CG w Z;have N:=(λbm W (A:sX W bm (AX qM))=>WI bm 1 qM W A (by decide) WU);have Y:=h;have X:=hg;have U:=u;go_enter func23,ntmps23;go_wp21;refine K.mono ?_;rintro e w1 ⟨bm,rfl,A,q,_⟩;have T:=N bm w1 A;go_wp21;refine T.mono ?_;rintro e w2 ⟨⟨v,rfl,I⟩,x⟩;have E:=I.toW;have⟨kk,lb,hvv,_⟩:=I.call;subst hvv;have m:=q.trans x;have⟨h1,H2⟩:=U (Xi qM 1);have G:=(Kept.refl [] w2).alloc (gz #[.pointer none,ji,.func (.func kk) #[] lb,.bool false] 95);have F:Wu (w2.alloc (gz #[.pointer none,ji,.func (.func kk) #[] lb,.bool false] 95)) w2.heap.size w2.heap.size (.func (.func kk) #[] lb,false) []:= .inl ⟨gL _,_,fP w2 _,pk _ _ _ _,by simp[Value.ownBlock]⟩;have V:=T5 w2.heap.size w2.heap.size _ _ (sA (Xi qM 1) o) w2 E (X.kept m) (gL _) h1 H2;have O:=zo V k j gx o (jD.kept m Y) rfl _ G ⟨F,iM _,by simp⟩;go_wp21;refine O.mono ?_;rintro e w4 ⟨rfl,⟨H,hz,a1⟩,y⟩;have⟨p,vv,hbk,_⟩:=H.cells;have a0:=iQ hbk;have Q:=afX _ _ _ _ w4 w2 H y (gL _) (jH hz H2);go_wp21;refine Q.mono ?_;rintro e w5 ⟨rfl,z⟩;have t:=m.trans z;go_wp2;go_ret;exact⟨rfl,t⟩
def adh (w:gm) (bx k:Nat) (c:jA) (j:fY) (gx:la) (m:List Tn) (p:Yn w bx c k) (h:jD w (.el j gx m) (.el k)) (y:sj w) (z:LY w)
  (o:∀q,(∀e∈sA q m,xC e=true)/\uD (sA q m)<=140737488355328):
  Calls prog 14 #[gE bx] w λe w'=>e=ig (gu ⟨(M4 (sA (Xi qM 1) m)).1.toArray⟩)/\Kept [] w w':=by
 have t:=Ho w bx k c p;have u:=T7 w k j gx m h y z o;have E:=p.ye;have A:=iQ p.1;go_enter func14,ntmps14;go_wp21;refine t.mono ?_;rintro e F ⟨rfl,rfl⟩;go_wp21;refine u.mono ?_;rintro e w2 ⟨rfl,x⟩;go_wp2;go_ret;exact⟨rfl,x⟩
def Cr (s:fY):jB++s=s:=by
 rfl
def Dd:jA:=#[fV 0,fV 0,ji,gu jB,ji]
theorem zY {base : Nat} {u : Nat} (q:w.ownsRow base e u v n xs) {c : jA} {t : TypeId} (y:w.heap[b]?=some (gz c t)) (p:e≠t):∀k,v.ownBlock=some k->k∉[b]:=by
 intro k h o;have e1:=List.mem_singleton.1 o;subst e1;rcases q.2 with⟨e2,_⟩|⟨A,j,m,e2,_,z,_⟩
 .rw[e2]at h;cases h
 .rw[e2]at h;have x:=jv h;grind
def qD (T:List Tn):List It:=jI (sA (λ_=>false) T)
def Yn.of {k : Nat} {d f l : Int} (h:w.heap[bx]?=some (gz (DD d f l n v k) 69)):Yn w bx (DD d f l n v k) k:=⟨h,rfl⟩
structure Told where
 c:Nat
 p:Nat
 oi:List It
 X1:fY
 sps:List Sp
def Oq (w:gm) (X:Told) (e:Ending) (w':gm):Prop:=∃p j h k m o,e=ig (.tuple #[.agg #[fV X.c,fV X.p,.slice p j h,gu X.X1,.slice k m o],.bool true])/\w'.ownsRow w.heap.size 34 3 (.slice p j h) X.oi.length (tj X.oi)/\w'.ownsRow w.heap.size 72 3 (.slice k m o) X.sps.length (lp X.sps)/\Kept [] w w'
def Bw (T:List Tn):fY:=⟨(M4 (sA (Xi qM 1) T)).1.toArray⟩
def aau (T:List Tn):Prop:=(∀h,(∀e∈sA h T,xC e=true)/\uD (sA h T)<=140737488355328)/\(qD T).length<=1000000000
structure Kvx (w:gm) (bx R1 R2 k:Nat) (d f l:Int) (n:Nat) (v:gG) (L:List Sp) (D:Tn) (c2:jA) (W:gm):Prop where
 px:W.heap[bx]?=some (gz (DD d f l n v k) 69)
 tr:jD W D (.el k)
 sp:W.ownsRow 0 72 3 v L.length (lp L)
 r1:W.heap[R1]?=some (gz Dd 26)
 r2:W.heap[R2]?=some (gz c2 26)
 ne:R1≠R2
 ge:w.heap.size<=R2
 kp:Kept [] w W
def Kvx.k0 {m o k : Nat} {d f l : Int} {c2 : jA} {p : gm} (h:Kvx w bx m o k d f l n v L D c2 W) (j:Kept [] W p):Kvx w bx m o k d f l n v L D c2 p:=
 ⟨j.at h.px (by simp),jD.kept j h.tr,j.ownsRow h.sp (λ_ _=>by simp),j.at h.r1 (by simp),j.at h.r2 (by simp),h.ne,h.ge,h.kp.trans j⟩
def Kvx.set {w:gm} {bx x m k:Nat} {d f l:Int} {n:Nat} {v:gG} {L:List Sp} {D:Tn} {c2:jA} {W:gm} (h:Kvx w bx x m k d f l n v L D c2 W) (j:Nat) (u:gG):Kvx w bx x m k d f l n v L D (c2.setIfInBounds j u) (W.setCell ⟨m,j,none⟩ u):=by
 have o:Kept [m] W (W.setCell ⟨m,j,none⟩ u):=(Kept.refl _ _).setCell (.inl (by simp)) _;have A:bx∉[m]:=by
  intro E;have e:=List.mem_singleton.1 E;have y:=h.px;rw[e,h.r2]at y;simp at y
 exact⟨o.at h.px A,jD.kn (KN.jL o (λq F c t p z=>by
   have e:=List.mem_singleton.1 F;subst e;rw[h.r2]at p;simp at p;rw[<-p.2]at z;revert z;decide)) h.tr,o.ownsRow h.sp (zY h.sp h.r2 (by decide)),o.at h.r1 (by simpa using h.ne),fR h.r2 j u,h.ne,h.ge,h.kp.setCell (.inr h.ge) _⟩
structure Kvq (w:gm) (bx R1 R2 k c p:Nat) (d f l:Int) (c2:jA) (W:gm):Prop where
 px:W.heap[bx]?=some (gz (zT d f l p k) 69)
 st:km W k c p
 er:errorType W
 r1:W.heap[R1]?=some (gz Dd 26)
 r2:W.heap[R2]?=some (gz c2 26)
 ne:R1≠R2
 ge:w.heap.size<=R2
 el:0 < w.heap.size
 kp:Kept [] w W
def Kvq.k0 {m o k p : Nat} {d f l : Int} {c2 : jA} {q : gm} (h:Kvq w bx m o k c p d f l c2 W) (j:Kept [] W q):Kvq w bx m o k c p d f l c2 q:=
 ⟨j.at h.px (by simp),j.at h.st (by simp),h.er.kept j (by simp),j.at h.r1 (by simp),j.at h.r2 (by simp),h.ne,h.ge,h.el,h.kp.trans j⟩
theorem Kvq.set {w:gm} {bx x m k c p:Nat} {d f l:Int} {c2:jA} {W:gm} (h:Kvq w bx x m k c p d f l c2 W) (j:Nat) (u:gG):Kvq w bx x m k c p d f l (c2.setIfInBounds j u) (W.setCell ⟨m,j,none⟩ u):=by
 have q:Kept [m] W (W.setCell ⟨m,j,none⟩ u):=(Kept.refl _ _).setCell (.inl (by simp)) _;have y:bx∉[m]:=by
  intro t;have e:=List.mem_singleton.1 t;have o:=h.px;rw[e,h.r2]at o;simp at o
 have z:k∉[m]:=by
  intro t;have e:=List.mem_singleton.1 t;have o:=h.st;unfold km at o;rw[e,h.r2]at o;simp at o
 exact⟨q.at h.px y,q.at h.st z,h.er.kept q (by have:=h.el;have:=h.ge;grind),q.at h.r1 (by simpa using h.ne),fR h.r2 j u,h.ne,h.ge,h.el,h.kp.setCell (.inr h.ge) _⟩
def Vh (s:fY) (d f l:Nat) (w:gm) (hs:s.size<=1024) (hd:4<=d/\d<=64) (hf:1<=f/\f<=32) (hl:1<=l/\l<=16) (hT:yq w) (hg:LY w) {gx : la} {T : List Tn} (hn:Ov s d f l (.el nm gx T) L) (hE:aau T):
  Calls prog 6 #[gu s,fV d,fV f,fV l,ji] w (Oq w ⟨0,s.size,qD T,Bw T,L⟩):=by
 obtain⟨u,O⟩:∃u,u=w.alloc (.cells Dd 26):=⟨_,rfl⟩;have k0:Kept [] w u:=by rw[O];exact(Kept.refl _ _).alloc _
 have z0:u.heap.size=w.heap.size+1:=by rw[O];simp
 have r0:u.heap[w.heap.size]?=some (gz Dd 26):=by rw[O];exact fP w _
 have CN:=fM (XB (d:Int) (f:Int) (l:Int) u ⟨by omega,by omega,by omega,by omega,by omega,by omega⟩);have HW:=fM (show w.alloc (.cells Dd 26)=u from O.symm);unfold Dd at HW;have HE:=fM hE;have HT:=fM hT;have HG:=fM hg;have aI:=fM hn;have aF:=fM k0;have HZ:=fM z0;have HR:=fM r0;clear O k0 z0 r0 hT hg hn hE;go_enter func6,ntmps6;go_wp21;rw[HW.out];refine CN.out.mono ?_;rintro e w1 ⟨rfl,ac,ao⟩;have CW:=λ(t:fY) (ht:t.size<=1024)=>NX u.heap.size ((d:Int),(f:Int),(l:Int)) (ji) ⟨#[]⟩ t w1.heap.size w1 ac (pk _ _ _ _) (by show 0+t.size<=1024;omega) (gL _);simp only[Cr]at CW;have aE:=fM (CW s hs);have aD:=fM CW;have aG:=fM ao;have aQ:=fM (iQ ac);clear CW ac ao CN;go_wp21;refine xO 2 ?_;rw[pj];by_cases h0:s.size=0;have e1:ByteArray.empty=s:=by apply Qx;exact(yD h0).symm
 have hz:((ByteArray.empty).size:Int)=0:=rfl;have C0:=fM (aD.out ByteArray.empty (by decide));have E1:=fM e1;clear e1;go_wp21;refine C0.out.mono ?_;rintro e w2 ⟨rfl,x⟩;rw[E1.out]at x;have a3:=fM x;clear x C0;go_wp21;clear h0 hz
 rotate_left
 go_wp21;refine aE.out.mono ?_;rintro e w2 ⟨rfl,x⟩;have a3:=fM x;clear x;go_wp21;rw[pj];go_wp21
 all_goals
  have x:=a3.out;clear a3;have⟨tv,hx2,ow2,hk2,_⟩:=x;have a7:Kept [] u w2:=aG.out.next (S':=u.heap.size::(ji).ownBlock.toList) hk2 (by simp[Value.ownBlock]);have k3:Kept [] w2 (w2.alloc (.cells #[fV 0,fV 0,ji,gu jB,ji] 26)):=(Kept.refl _ _).alloc _;have Y:=(aF.out.trans a7).trans k3;have aC:=fM (fP w2 (.cells #[fV 0,fV 0,ji,gu jB,ji] 26));have CC:=fM (afh u.heap.size d f l tv s w1.heap.size _ (k3.at hx2 (by simp)) (k3.ownsRow ow2 (λ_ _=>by simp)) (HT.out.fr (bm:=0) (.gN Y)) (HG.out.kept Y) aI.out);have af:=fM Y;have aJ:=fM (k3.at (a7.at HR.out (by simp)) (by simp));have a2:u.heap.size < w2.heap.size:=iQ hx2;have a4:=fM a2;clear hx2 ow2 hk2 a7 k3 Y a2;go_wp21;refine CC.out.mono ?_;rintro e w4 ⟨rfl,v4,k4,az,ax,aw,ar,V⟩;have au:w2.heap.size∉[u.heap.size]:=by have:=a4.out;simp;omega
  have av:w.heap.size∉[u.heap.size]:=by have:=HZ.out;simp;omega
  have V4:Kvx w u.heap.size w.heap.size w2.heap.size k4 d f l s.size v4 L (.el nm gx T) #[fV 0,fV 0,ji,gu jB,ji] w4:=
   ⟨az,ax,jM aw (iM _),V.at aJ.out av,V.at aC.out au,by have:=HZ.out;have:=a4.out;omega,by have:=HZ.out;have:=a4.out;omega,af.out.next V (by have:=HZ.out;simp;omega)⟩
  have d0:=fN V4.r2 0;have f0:=gh V4.r2 0;dsimp at d0;have ES:=fM (oP V4.r2 0 (fV 0) rfl);have CS:=fM (SN u.heap.size d f l s.size k4 v4 w4 V4.px);have aK:=fM V4;have aH:=fM ar;clear az ax aw ar V V4 CC;go_wp21;rw[ES.out];refine CS.out.mono ?_;rintro e w6 ⟨rfl,ap⟩;have V6:=aK.out.k0 ap;have g0:=fN V6.r2 0;have g1:=fN V6.r2 1;have y1:=gh V6.r2 1;dsimp at g0 g1;have V7:=V6.set 1 (fV s.size);obtain⟨w7,aa⟩:∃w7,w7=w6.setCell ⟨w2.heap.size,1,none⟩ (fV s.size):=⟨_,rfl⟩;rw[<-aa]at V7;have aM:=fM aa.symm;have CL:=fM (ach w7 u.heap.size k4 _ _ _ _ (Yn.of V7.px) V7.tr (qD T) rfl HE.out.2);have al:=fM V7;clear ap V6 V7 aa CS;go_wp21;rw[aM.out];refine CL.out.mono ?_;rintro e w8 ⟨v8,rfl,X,aq⟩;have⟨a8,p8,hv8⟩:=gw X;subst hv8;have V8:=al.out.k0 aq;have g2:w8.cell? ⟨w2.heap.size,2,none⟩=some (ji):=by rw[fN V8.r2];rfl
  have y2:=gh V8.r2 2;have V9:=V8.set 2 (.slice a8 (qD T).length p8);have a9:(w8.setCell ⟨w2.heap.size,2,none⟩ (.slice a8 (qD T).length p8)).ownsRow w.heap.size 34 3 (.slice a8 (qD T).length p8) (qD T).length (tj (qD T)):=((Kept.refl [w2.heap.size] w8).setCell (.inl (by simp)) _).ownsRow (jM X al.out.kp.size) (zY X V8.r2 (by decide));obtain⟨w9,ab⟩:∃w9,w9=w8.setCell ⟨w2.heap.size,2,none⟩ (.slice a8 (qD T).length p8):=⟨_,rfl⟩;rw[<-ab]at V9 a9;have aN:=fM ab.symm;have CX:=fM (adh w9 u.heap.size k4 _ _ _ _ (Yn.of V9.px) V9.tr (HT.out.fr (bm:=0) (.gN V9.kp)).1 (HG.out.kept V9.kp) HE.out.1);have aL:=fM V9;have ai:=fM a9;clear X aq V8 V9 a9 ab CL;go_wp21;rw[aN.out];refine CX.out.mono ?_;rintro e ad ⟨rfl,A⟩;obtain⟨z,N⟩:∃z:fY,z=⟨(M4 (sA (Xi qM 1) T)).1.toArray⟩:=⟨_,rfl⟩;rw[<-N];have ak:=fM N;have G:=aL.out.k0 A;have g3:ad.cell? ⟨w2.heap.size,3,none⟩=some (gu jB):=by rw[fN G.r2];rfl
  have y3:=gh G.r2 3;have H:=G.set 3 (gu z);have J:=((Kept.refl [w2.heap.size] ad).setCell (p:=⟨w2.heap.size,3,none⟩) (.inl (by simp)) (gu z)).ownsRow (A.ownsRow ai.out (λ_ _=>by simp)) (zY (A.ownsRow ai.out (λ_ _=>by simp)) G.r2 (by decide));obtain⟨ae,Q⟩:∃ae,ae=ad.setCell ⟨w2.heap.size,3,none⟩ (gu z):=⟨_,rfl⟩;rw[<-Q]at H J;have an:=fM Q.symm;have CT:=fM (ain u.heap.size d f l s.size k4 0 v4 L ae H.px H.sp (by have:=aH.out;omega));have a0:=fM H;have ag:=fM J;clear A G H J Q CX N;go_wp21;rw[an.out];refine CT.out.mono ?_;rintro e j ⟨aR,rfl,K,I⟩;have⟨a12,c12,hv12⟩:=gw K;subst hv12;have E:=a0.out.k0 I;have a1:=I.ownsRow ag.out (λ_ _=>by simp);have aj:=fM (jM K a0.out.kp.size);generalize hlen:(qD T).length=aA at *;generalize hlen2:L.length=aB at *;have Z:=fM hlen;have F:=fM hlen2;have y:=E.r2;have k:=E.r1;have m0:j.cell? ⟨w2.heap.size,0,none⟩=some (fV 0):=by rw[fN y];rfl
  have m1:j.cell? ⟨w2.heap.size,1,none⟩=some (fV s.size):=by rw[fN y];rfl
  have m2:j.cell? ⟨w2.heap.size,2,none⟩=some (.slice a8 aA p8):=by rw[fN y];rfl
  have m3:j.cell? ⟨w2.heap.size,3,none⟩=some (gu z):=by rw[fN y];rfl
  have m4:j.cell? ⟨w2.heap.size,4,none⟩=some (ji):=by rw[fN y];rfl
  have y4:=gh y 4;have u0:j.cell? ⟨w.heap.size,0,none⟩=some (fV 0):=by rw[fN k];rfl
  have u1:j.cell? ⟨w.heap.size,1,none⟩=some (fV 0):=by rw[fN k];rfl
  have u2:j.cell? ⟨w.heap.size,2,none⟩=some (ji):=by rw[fN k];rfl
  have u3:j.cell? ⟨w.heap.size,3,none⟩=some (gu jB):=by rw[fN k];rfl
  have u4:j.cell? ⟨w.heap.size,4,none⟩=some (ji):=by rw[fN k];rfl
  have j0:=gh k 0;have j1:=gh k 1;have j2:=gh k 2;have j3:=gh k 3;have j4:=gh k 4;have aP:w.heap.size≠w2.heap.size:=E.ne;have ay:w2.heap.size≠w.heap.size:=λh=>E.ne h.symm;have o:=fM E;have ah:=fM a1;clear E a1 y k I CT K hlen hlen2;go_wp2;refine ou (v:= .tuple #[.agg #[fV 0,fV s.size,.slice a8 aA p8,gu z,.slice a12 aB c12],.bool true]) ?_ rfl ⟨_,_,_,_,_,_,by rw[ak.out];rfl,?_,?_,?_⟩
  .simp[results,results6,asAddr,Result.andThen,go_sem,u0,u1,u2,u3,u4,aP,ay]
  .have U:=ah.out;rw[<-Z.out]at U;rw[<-Z.out];have h5:=zY U o.out.r2 (by decide);have h6:=zY U o.out.r1 (by decide);refine Kept.ownsRow (S:=[w2.heap.size,w.heap.size]) (((((((Kept.refl _ j).setCell (.inl (by simp)) _).setCell (.inl (by simp)) _).setCell (.inl (by simp)) _).setCell (.inl (by simp)) _).setCell (.inl (by simp)) _).setCell (.inl (by simp)) _) U (λq hq=>?_);have a5:=h5 q hq;have a6:=h6 q hq;simp at a5 a6|-;omega
  .have U:=aj.out;rw[<-F.out]at U;rw[<-F.out];have h5:=zY U o.out.r2 (by decide);have h6:=zY U o.out.r1 (by decide);refine Kept.ownsRow (S:=[w2.heap.size,w.heap.size]) (((((((Kept.refl _ j).setCell (.inl (by simp)) _).setCell (.inl (by simp)) _).setCell (.inl (by simp)) _).setCell (.inl (by simp)) _).setCell (.inl (by simp)) _).setCell (.inl (by simp)) _) U (λq hq=>?_);have a5:=h5 q hq;have a6:=h6 q hq;simp at a5 a6|-;omega
  .have m:=o.out.kp;have aO:=o.out.ge;exact(((((m.setCell (.inr aO) _).setCell (.inr (gL _)) _).setCell (.inr (gL _)) _).setCell (.inr (gL _)) _).setCell (.inr (gL _)) _).setCell (.inr (gL _)) _
def Vi (s:fY) (d f l:Nat) (w:gm) (hs:s.size<=1024) (hd:4<=d/\d<=64) (hf:1<=f/\f<=32) (hl:1<=l/\l<=16) (hT:yq w) (hg:LY w) {p : Nat} (hn:Ow s d f l c p) (hE:errorType w) (ap:0 < w.heap.size):
  Calls prog 6 #[gu s,fV d,fV f,fV l,ji] w (Oq w ⟨c,p,[],⟨#[]⟩,[]⟩):=by
 obtain⟨o,z⟩:∃o,o=w.alloc (.cells Dd 26):=⟨_,rfl⟩;have k0:Kept [] w o:=by rw[z];exact(Kept.refl _ _).alloc _
 have z0:o.heap.size=w.heap.size+1:=by rw[z];simp
 have r0:o.heap[w.heap.size]?=some (gz Dd 26):=by rw[z];exact fP w _
 have CN:=fM (XB (d:Int) (f:Int) (l:Int) o ⟨by omega,by omega,by omega,by omega,by omega,by omega⟩);have HW:=fM (show w.alloc (.cells Dd 26)=o from z.symm);unfold Dd at HW;have HE:=fM hE;have HT:=fM hT;have HG:=fM hg;have ag:=fM hn;have ae:=fM k0;have HZ:=fM z0;have HR:=fM r0;clear z k0 z0 r0 hT hg hn hE;go_enter func6,ntmps6;go_wp21;rw[HW.out];refine CN.out.mono ?_;rintro e w1 ⟨rfl,Y,a2⟩;have CW:=λ(t:fY) (ht:t.size<=1024)=>NX o.heap.size ((d:Int),(f:Int),(l:Int)) (ji) ⟨#[]⟩ t w1.heap.size w1 Y (pk _ _ _ _) (by show 0+t.size<=1024;omega) (gL _);simp only[Cr]at CW;have ad:=fM (CW s hs);have ac:=fM CW;have af:=fM a2;have au:=fM (iQ Y);clear CW Y a2 CN;go_wp21;refine xO 2 ?_;rw[pj];by_cases h0:s.size=0;have e1:ByteArray.empty=s:=by apply Qx;exact(yD h0).symm
 have hz:((ByteArray.empty).size:Int)=0:=rfl;have C0:=fM (ac.out ByteArray.empty (by decide));have E1:=fM e1;clear e1;go_wp21;refine C0.out.mono ?_;rintro e w2 ⟨rfl,q⟩;rw[E1.out]at q;have O:=fM q;clear q C0;go_wp21;clear h0 hz
 rotate_left
 go_wp21;refine ad.out.mono ?_;rintro e w2 ⟨rfl,q⟩;have O:=fM q;clear q;go_wp21;rw[pj];go_wp21
 all_goals
  have q:=O.out;clear O;have⟨tv,hx2,ow2,hk2,_⟩:=q;have T:Kept [] o w2:=af.out.next (S':=o.heap.size::(ji).ownBlock.toList) hk2 (by simp[Value.ownBlock]);have k3:Kept [] w2 (w2.alloc (.cells #[fV 0,fV 0,ji,gu jB,ji] 26)):=(Kept.refl _ _).alloc _;have E:=(ae.out.trans T).trans k3;have ab:=fM (fP w2 (.cells #[fV 0,fV 0,ji,gu jB,ji] 26));have CC:=fM (SI o.heap.size d f l tv s w1.heap.size _ (k3.at hx2 (by simp)) (k3.ownsRow ow2 (λ_ _=>by simp)) (HT.out.fr (bm:=0) (.gN E)) (HG.out.kept E) ag.out (HE.out.kept E (by simp)) (by have:=HZ.out;omega));have H:=fM E;have ah:=fM (k3.at (T.at HR.out (by simp)) (by simp));have N:o.heap.size < w2.heap.size:=iQ hx2;have Q:=fM N;clear hx2 ow2 hk2 T k3 E N;go_wp21;refine CC.out.mono ?_;rintro e w3 ⟨k4,rfl,a9,a7,y⟩;have a5:w2.heap.size∉[o.heap.size]:=by have:=Q.out;simp;omega
  have a6:w.heap.size∉[o.heap.size]:=by have:=HZ.out;simp;omega
  have V3:Kvq w o.heap.size w.heap.size w2.heap.size k4 c p d f l #[fV 0,fV 0,ji,gu jB,ji] w3:=
   ⟨a9,a7,(HE.out.kept H.out (by simp)).kept y (by have:=HZ.out;simp;omega),y.at ah.out a6,y.at ab.out a5,by have:=HZ.out;have:=Q.out;omega,by have:=HZ.out;have:=Q.out;omega,ap,H.out.next y (by have:=HZ.out;simp;omega)⟩
  have d0:=fN V3.r2 0;have f0:=gh V3.r2 0;dsimp at d0;have V4:=V3.set 0 (fV c);obtain⟨w4,U⟩:∃w4,w4=w3.setCell ⟨w2.heap.size,0,none⟩ (fV c):=⟨_,rfl⟩;rw[<-U]at V4;have al:=fM U.symm;have CS:=fM (VF o.heap.size d f l c p k4 w4 V4.px V4.st V4.er);have ai:=fM V4;clear a9 a7 y V3 V4 U CC;go_wp21;rw[al.out];refine CS.out.mono ?_;rintro e w6 ⟨rfl,a3⟩;have V6:=ai.out.k0 a3;have g0:w6.cell? ⟨w2.heap.size,0,none⟩=some (fV c):=by rw[fN V6.r2];rfl
  have g1:w6.cell? ⟨w2.heap.size,1,none⟩=some (fV 0):=by rw[fN V6.r2];rfl
  have y1:=gh V6.r2 1;have V7:=V6.set 1 (fV p);obtain⟨w7,V⟩:∃w7,w7=w6.setCell ⟨w2.heap.size,1,none⟩ (fV p):=⟨_,rfl⟩;rw[<-V]at V7;have an:=fM V.symm;have CL:=fM (Zs o.heap.size d f l p k4 w7 V7.px);have aj:=fM V7;clear a3 V6 V7 V CS;go_wp21;rw[an.out];refine CL.out.mono ?_;rintro e w8 ⟨rfl,a4⟩;have V8:=aj.out.k0 a4;have g2:w8.cell? ⟨w2.heap.size,2,none⟩=some (ji):=by rw[fN V8.r2];rfl
  have y2:=gh V8.r2 2;have V9:=V8.set 2 (ji);obtain⟨w9,X⟩:∃w9,w9=w8.setCell ⟨w2.heap.size,2,none⟩ (ji):=⟨_,rfl⟩;rw[<-X]at V9;have ao:=fM X.symm;have CX:=fM (Z6 o.heap.size d f l p k4 w9 V9.px);have ak:=fM V9;clear a4 V8 V9 X CL;go_wp21;rw[ao.out];refine CX.out.mono ?_;rintro e aa ⟨rfl,J⟩;have F:=ak.out.k0 J;have g3:aa.cell? ⟨w2.heap.size,3,none⟩=some (gu jB):=by rw[fN F.r2];rfl
  have y3:=gh F.r2 3;have G:=F.set 3 (gu jB);obtain⟨Z,A⟩:∃Z,Z=aa.setCell ⟨w2.heap.size,3,none⟩ (gu jB):=⟨_,rfl⟩;rw[<-A]at G;have a1:=fM A.symm;have CT:=fM (Wj o.heap.size d f l p k4 Z G.px);have a0:=fM G;clear J F G A CX;go_wp21;rw[a1.out];refine CT.out.mono ?_;rintro e k ⟨rfl,K⟩;have x:=a0.out.k0 K;have u:=x.r2;have j:=x.r1;have m0:k.cell? ⟨w2.heap.size,0,none⟩=some (fV c):=by rw[fN u];rfl
  have m1:k.cell? ⟨w2.heap.size,1,none⟩=some (fV p):=by rw[fN u];rfl
  have m2:k.cell? ⟨w2.heap.size,2,none⟩=some (ji):=by rw[fN u];rfl
  have m3:k.cell? ⟨w2.heap.size,3,none⟩=some (gu jB):=by rw[fN u];rfl
  have m4:k.cell? ⟨w2.heap.size,4,none⟩=some (ji):=by rw[fN u];rfl
  have y4:=gh u 4;have u0:k.cell? ⟨w.heap.size,0,none⟩=some (fV 0):=by rw[fN j];rfl
  have u1:k.cell? ⟨w.heap.size,1,none⟩=some (fV 0):=by rw[fN j];rfl
  have u2:k.cell? ⟨w.heap.size,2,none⟩=some (ji):=by rw[fN j];rfl
  have u3:k.cell? ⟨w.heap.size,3,none⟩=some (gu jB):=by rw[fN j];rfl
  have u4:k.cell? ⟨w.heap.size,4,none⟩=some (ji):=by rw[fN j];rfl
  have j0:=gh j 0;have j1:=gh j 1;have j2:=gh j 2;have j3:=gh j 3;have j4:=gh j 4;have ar:w.heap.size≠w2.heap.size:=x.ne;have a8:w2.heap.size≠w.heap.size:=λh=>x.ne h.symm;have I:=fM x;clear x u j K CT;go_wp2;refine ou (v:= .tuple #[.agg #[fV c,fV p,ji,gu jB,ji],.bool true]) ?_ rfl ⟨_,_,_,_,_,_,rfl,?_,?_,?_⟩
  .simp[results,results6,asAddr,Result.andThen,go_sem,u0,u1,u2,u3,u4,ar,a8]
  .exact pk _ _ _ _
  .exact pk _ _ _ _
  .have m:=I.out.kp;have aq:=I.out.ge;exact(((((m.setCell (.inr aq) _).setCell (.inr (gL _)) _).setCell (.inr (gL _)) _).setCell (.inr (gL _)) _).setCell (.inr (gL _)) _).setCell (.inr (gL _)) _
def Pv:AJ->Prop
 | .el e=>e.name.size<=5000/\e.gO.length<=16/\∀p∈e.gO,p.1.size<=5000/\p.2.size<=66000
 | .tx _=>True
 | .cm s=>s.size<=5000
 | .dt s=>s.size<=5000
class XL where
 l:List Nat
section
variable [XL]
def NG (σ:Ab):Prop:=σ.pP<=16/\(∀n∈σ.nodes,Pv n)/\∀i e,σ.gV i=some e->e.je=none->i=0\/i∈XL.l
structure TG (t:gy):Prop where
 name:t.name.size<=5000
 len:t.jh.length<=16
 gx:∀p∈t.jh,p.1.size<=5000/\p.2.size<=66000
 cm:∀s,t.k= .gM s->s.size<=5000
 dt:∀n q,t.k= .iE n q->n.size<=5000
def wC {α:Type} (r:pM α):Prop:=match r with
 | .ok _ σ'=>NG σ'
 | .stop e _=>e≠0
 | .stuck=>True
def Kp {α:Type} (m:M α):Prop:=∀σ,NG σ->wC (m σ)
def Kp.pure {α:Type} (a:α):Kp (Pure.pure a:M α):=λ_ h=>h
def Kp.stuck {α:Type}:Kp (stuck:M α):=λ_ _=>trivial
def Kp.bind {α q:Type} {m:M α} {f:α->M q} (h:Kp m) (o:∀a,Kp (f a)):Kp (m>>=f):=by
 intro σ k;rw[M.gn];have j:=h σ k;revert j;cases m σ with
 |ok a σ'=>intro j;exact o a σ' j
 |stop e p=>simp[wC]
 |stuck=>simp[wC]
theorem Kp.ite {α:Type} {c:Prop} [Decidable c] {a b:M α} (h:Kp a) (j:Kp b):Kp (if c then a else b):=by grind
def Kp.at {α:Type} {m:M α} {σ:Ab} (h:Kp m) (j:NG σ):wC (m σ):=h σ j
theorem NG.mg {σ σ':Ab} (h:NG σ) (e1:σ'.nodes=σ.nodes) (e2:σ'.pP=σ.pP):NG σ':=⟨by rw[e2];exact h.1,by rw[e1];exact h.2.1,λi e j=>h.2.2 i e (by grind[Ab.gV])⟩
def Kp.wU {f:Ab->Ab} (e1:∀σ,(f σ).nodes=σ.nodes) (e2:∀σ,(f σ).pP=σ.pP):Kp (wU f):=λσ h=>h.mg (e1 σ) (e2 σ)
theorem Kp.same {α:Type} {m:M α} (h:∀σ a j,m σ= .ok a j->j=σ) (q:∀σ c p,m σ≠ .stop c p):Kp m:=by
 intro σ t;have k:=h σ;have o:=q σ;revert k o;cases m σ with
 |ok a j=>grind[wC]
 |stop e p=>simp
 |stuck=>simp[wC]
def NG.el {σ:Ab} (h:NG σ) {i:Nat} {e:yp} (j:σ.gV i=some e):Pv (.el e):=h.2.1 _ (tR (Ab.jn j))
theorem NG.ajw {σ:Ab} (h:NG σ) {i:Nat} {n:AJ} (t:Pv n) (u:∀e,n= .el e->e.je=none->i=0\/i∈XL.l):NG {σ with nodes:=σ.nodes.set i n}:=⟨h.1,λm q=>by
 rcases List.mem_or_eq_of_mem_set q with k|k
 .exact h.2.1 m k
 grind,λj e p=>by
 have o:=h.2.2 j e;unfold Ab.gV at p o;grind⟩
theorem NG.set {σ:Ab} (h:NG σ) {i:Nat} {e:yp} (j:Pv (.el e)) (o:e.je=none->i=0\/i∈XL.l):NG (σ.gS i e):=h.ajw j (λk m=>by grind)
theorem NG.add {σ:Ab} (h:NG σ) {n:AJ} (u:Pv n) (x:∀e,n= .el e->σ.nodes.length∈XL.l):NG (σ.add n):=⟨h.1,λm q=>by
 rcases List.mem_append.1 q with o|o
 .exact h.2.1 m o
 grind,λj e k t=>by
 by_cases p:j < σ.nodes.length
 .rw[Ab.sr p]at k;exact h.2.2 j e k t
 .by_cases e1:j=σ.nodes.length
  .subst e1;rw[Ab.sN]at k;grind
  .have:=Ab.gW k;simp[Ab.add]at this;omega⟩
def NG.pN {σ:Ab} (h:NG σ) {n:AJ} (j:Pv n) (b:Bool) (k:∀e,n= .el e->σ.nodes.length∈XL.l):NG (σ.pN n b):=(h.add j k).mg rfl rfl
omit [XL] in
theorem Pv.kids {e e':yp} (h:Pv (.el e)) (j:e'.name=e.name) (k:e'.gO=e.gO):Pv (.el e'):=by
 grind[Pv]
def wC.ok {α:Type} {a:α} {σ:Ab} (h:NG σ):wC (.ok a σ):=h
def Kp.fn {α:Type} {f:Ab->pM α} (h:∀σ,NG σ->wC (f σ)):Kp (α:=α) f:=h
attribute [simp] Kp.pure Kp.stuck Kp.bind Kp.ite
@[simp] def adn {f:Ab->Ab} (h:∀σ,(f σ).nodes=σ.nodes/\(f σ).pP=σ.pP):Kp (wU f):=Kp.wU (λσ=>(h σ).1) (λσ=>(h σ).2)
def De (rec:Nat->gy->M Unit):Prop:=∀m t,TG t->Kp (rec m t)
omit [XL] in
@[simp] def Xf (σ:Ab):σ.me.nodes=σ.nodes/\σ.me.pP=σ.pP:=⟨rfl,rfl⟩
def wC.st {α:Type} {n p:Nat}:wC (α:=α) (.stop (n+1) p):=Nat.succ_ne_zero n
omit [XL] in
@[simp] def adD (σ:Ab) (p:fY->Bool):(σ.wF p).nodes=σ.nodes/\(σ.wF p).pP=σ.pP:=⟨rfl,rfl⟩
@[simp] def afp (pl:Nat×Nat) (j:Nat):Kp (mL pl j):=by
 intro σ h;unfold mL;split
 .rename_i m p k o;split
  .refine wC.ok (NG.set (NG.set h ?_ ?_) ?_ ?_)
   .exact Pv.kids (h.el k) rfl rfl
   .exact h.2.2 _ m k
   .exact Pv.kids (h.el o) rfl rfl
   simp
  .trivial
 .trivial
@[simp] def afr (pl:Nat×Nat) (k:Nd):Kp (ym pl k):=by
 intro σ h;unfold ym;split
 .rename_i m j;split
  .exact wC.ok (NG.set h (Pv.kids (h.el j) rfl rfl) (h.2.2 _ m j))
  .trivial
 .trivial
@[simp] def aic (pl:Nat×Nat) (s:fY):Kp (sF pl s):=by
 intro σ h;unfold sF;split
 .rename_i k j;split
  .split
   .split
    .split
     .exact wC.ok (NG.ajw h (n:= .tx _) trivial nofun)
     .trivial
    .trivial
   .exact wC.ok (NG.set (NG.add h (n:= .tx _) trivial nofun) (Pv.kids (h.el j) rfl rfl) (h.2.2 _ k j))
  .trivial
 .trivial
@[simp] def PJ (x:iY):Kp (uo x):=by
 unfold uo;refine Kp.fn λσ h=>?_
 (repeat' split)<;>first|exact h|exact trivial|exact wC.st|exact wC.ok (h.mg rfl rfl)|exact Kp.at (by(repeat' first|with_reducible refine Kp.bind ?_ λ_=>?_|with_reducible refine Kp.ite ?_ ?_)<;>simp[*]) h
@[simp] def aa5 (p b:fY->Bool):Kp (mV p b):=by
 unfold mV;refine Kp.fn λσ h=>?_
 (repeat' split)<;>first|exact h|exact trivial|exact wC.st|exact wC.ok (h.mg rfl rfl)|exact Kp.at (by(repeat' first|with_reducible refine Kp.bind ?_ λ_=>?_|with_reducible refine Kp.ite ?_ ?_)<;>simp[*]) h
@[simp] def YP:Kp (oE):=by
 simp[oE]
@[simp] def ajo (p:fY->Bool):Kp (pZ p):=by refine Kp.wU (λσ=>?_) (λσ=>?_)<;>(unfold Ab.Fi;split<;>rfl)
@[simp] def JM (p:fY->Bool):Kp (ub p):=adn λ_=>⟨rfl,rfl⟩
@[simp] def Cc (m:Nat):Kp (jF m):=adn λ_=>⟨rfl,rfl⟩
@[simp] def KX (x:iY):Kp (kq x):=by
 unfold kq;refine Kp.fn λσ h=>?_
 (repeat' split)<;>first|exact h|exact trivial|exact wC.st|exact wC.ok (h.mg rfl rfl)|exact Kp.at (by(repeat' first|with_reducible refine Kp.bind ?_ λ_=>?_|with_reducible refine Kp.ite ?_ ?_)<;>simp[*]) h
@[simp] def QM (x:iY):Kp (kM x):=by
 unfold kM;refine Kp.fn λσ h=>?_
 (repeat' split)<;>first|exact h|exact trivial|exact wC.st|exact wC.ok (h.mg rfl rfl)|exact Kp.at (by(repeat' first|with_reducible refine Kp.bind ?_ λ_=>?_|with_reducible refine Kp.ite ?_ ?_)<;>simp[*]) h
@[simp] def ae7 (x y:iY):Kp (yk x y):=by
 unfold yk;refine Kp.fn λσ h=>?_
 (repeat' split)<;>first|exact h|exact trivial|exact wC.st|exact wC.ok (h.mg rfl rfl)|exact Kp.at (by(repeat' first|with_reducible refine Kp.bind ?_ λ_=>?_|with_reducible refine Kp.ite ?_ ?_)<;>simp[*]) h
@[simp] def WG (x y:iY):Kp (qg x y):=by
 unfold qg;refine Kp.fn λσ h=>?_
 (repeat' split)<;>first|exact h|exact trivial|exact wC.st|exact wC.ok (h.mg rfl rfl)|exact Kp.at (by(repeat' first|with_reducible refine Kp.bind ?_ λ_=>?_|with_reducible refine Kp.ite ?_ ?_)<;>simp[*]) h
@[simp] theorem WZ (i:Nat):∀L:la,(∀p∈L,p.1.size<=5000/\p.2.size<=66000)->Kp (qj i L)
 |[],_=>Kp.pure _
 |a::r,hL=>by
  intro σ h;have k:=WZ i r (λp o=>hL p (nc _ o));unfold qj;split
  .trivial
  .rename_i e j;split
   .exact k σ h
   .split
    .simp[wC]
    .rename_i m;refine k _ (h.set ?_ (h.2.2 _ e j));have⟨a1,a2,a3⟩:=h.el j;have:=h.1;grind[Pv]
@[simp] def ajM (i:Nat) (t:gy) (j:TG t):Kp (vK i t):=by
 intro σ h;unfold vK;split
 .exact WZ i _ j.gx σ h
 .trivial
@[simp] theorem adX (n:Nat):Kp (Cn n):=by
 unfold Cn;refine Kp.fn λσ h=>?_;grind[wC]
@[simp] def QN (n:Nat):Kp (po n):=by intro σ h;exact WG _ _ σ h
@[simp] def aid (pl:Nat×Nat) (k:Nd):Kp (Fl pl k):=by
 cases k with
 |el j=>simp[Fl]
 |tx j=>simp[Fl]
 |cm j=>simp[Fl]
 |dt j=>simp[Fl]
@[simp] theorem afd (n:Nat):Kp (CV n):=by
 unfold CV;refine Kp.fn λσ h=>?_;grind[wC]
@[simp] def Jl (rec:Nat->gy->M Unit) (t:gy) (j:De rec) (k:TG t):Kp (jX rec t):=λσ h=>j _ _ k σ h
@[simp] def SV (pl:Nat×Nat) (nd:AJ) (k:Nat->Nd) (j:Pv nd) (m:∀e,nd= .el e->False):Kp (o0 pl nd k):=λσ h=>afr _ _ _ (h.add j λe h=>(m e h).elim)
@[simp] def PD:Kp (oY):=by intro σ h;exact KX _ σ h
@[simp] def VG:Kp (pushHead):=by intro σ h;exact PJ _ σ h
@[simp] def ad7 (rec:Nat->gy->M Unit) (t:gy) (h:De rec) (j:TG t):Kp (td rec t):=Kp.bind VG λ_=>Kp.bind (h _ _ j) λ_=>Kp.bind PD λ_=>Kp.pure _
@[simp] def aix (of:fY) (pl:Bool):Kp (I6 of pl):=adn λ_=>⟨rfl,rfl⟩
@[simp] def aiz:Kp (wG):=by intro σ h;unfold wG;split;exact h;exact YP σ h
@[simp] def abB (rec:Nat->gy->M Unit) (t:gy) (h:De rec) (j:TG t):Kp (th rec t):=Kp.bind (Kp.wU (λ_=>rfl) (λ_=>rfl)) λ_=>Kp.bind (h _ _ j) λ_=>Kp.bind (Kp.wU (λ_=>rfl) (λ_=>rfl)) λ_=>Kp.pure _
@[simp] def ahP (t:gy):Kp (og t):=by
 unfold og;split
 .refine Kp.ite (Kp.pure _) (Kp.fn λσ h=>?_);split
  .exact wC.ok (h.mg rfl rfl)
  .trivial
 simp
omit [XL] in
def aee (x:Nat×Nat×fY):TG (rX x):=⟨iM _,iM _,(λ_ j=>by cases j),(λ_ h=>by cases h),(λ_ _ h=>by cases h)⟩
@[simp] def Hg (rec:Nat->gy->M Unit) (h:De rec):∀xs,Kp (tK rec xs)
 |[]=>Kp.pure _
 |x::r=>Kp.bind (abB rec _ h (aee x)) λ_=>Hg rec h r
@[simp] def ajr:Kp (xF):=adn λ_=>⟨rfl,rfl⟩
def N9:Ru->Bool
 | .nj _ name _=>decide (name.size<=5000)
 | .LZ r=>N9 r
 |_=>true
def spG (sp:lE):Bool:=N9 sp.blank&&N9 sp.kg&&N9 sp.gM&&N9 sp.iE&&N9 sp.ie&&N9 sp.jP&&N9 sp.j8&&N9 sp.ik&&((sp.start.getD []).all λp=>N9 p.2)&&((sp.stop.getD []).all λp=>N9 p.2)
omit [XL] in
def afQ:∀h∈ut,spG h=true:=List.all_eq_true.1 rfl
omit [XL] in
theorem Xq:∀(R:List (List fY×Ru)) (k:fY) (r:Ru),(R.all λp=>N9 p.2)=true->oq R k=some r->N9 r=true
 |[],_,_,_,h=>by cases h
 |p::R,k,r,hR,h=>by
  rw[List.all_cons,pW]at hR;unfold oq at h;split at h
  .grind
  .exact Xq R k r hR.2 h
omit [XL] in
def ue:∀L:List Ru,(∀r∈L,N9 r=true)->N9 (kD L)=true
 |[],_=>rfl
 |x::r,h=>by
  have j:=h x (kK ..);cases x with
  |nil=>exact ue r (λy k=>h y (nc _ k))
  |_=>exact j
omit [XL] in
def Xp (R:Option (List (List fY×Ru))) (k:fY) (h:((R.getD []).all λp=>N9 p.2)=true):N9 (Cy R k)=true:=by
 cases R with
 |none=>rfl
 |some R=>
  show N9 ((oq R k).getD .nil)=true;cases hq:oq R k with
  |none=>rfl
  |some r=>exact Xq R k r h hq
omit [XL] in
theorem acW {sp:lE} (h:spG sp=true) (t:gy):N9 (jQ sp t)=true:=by
 unfold spG at h;simp only[pW]at h;have⟨⟨⟨⟨⟨⟨⟨⟨⟨h1,h2⟩,h3⟩,h4⟩,h5⟩,h6⟩,h7⟩,h8⟩,h9⟩,h10⟩:=h;unfold jQ;split
 .split
  .exact ue _ (by grind)
  .exact ue _ (by grind)
 .exact ue _ (by grind)
 .exact ue _ (by grind)
 .exact ue _ (by simp[Xp _ _ h9,h6,h8])
 .exact ue _ (by simp[Xp _ _ h10,h7,h8])
 .exact ue _ (by grind)
 .exact ue _ (by grind)
@[simp] def Do (h:M (Nat×Nat)) (t:gy) (j:Kp h) (m:TG t):Kp (nB h t):=by
 unfold nB;split
 .rename_i s k;exact Kp.bind j λ_=>Kp.bind (SV _ _ _ (m.cm s k) nofun) λ_=>Kp.pure _
 simp
@[simp] def nh0:(∀(x:iY),Kp (aiY x)/\Kp (zP x)/\Kp (AO x)/\Kp (kA x))/\Kp x8/\Kp EX/\Kp wH/\Kp qP/\Kp yg/\Kp wI/\Kp Dq/\Kp vJ/\Kp kY/\Kp tJ/\(∀(x y:iY),Kp (oZ x y)/\Kp (oU x y))/\(∀(s:fY),Kp (ud s))/\(∀(f:Nat),Kp (ahead f))/\(∀(j:Nat->gy->M Unit) (t:gy) (p:De j) (k:TG t),Kp (j9 j t)/\Kp (wJ j t)/\Kp (sZ j t)/\Kp (nO j t))/\(∀(t:gy) (k:TG t),Kp (oe t)/\Kp (pw t))/\(∀(t:gy),Kp (vH t))/\(∀(o:List fY) (m:Nat),Kp (qH o m)):=by
 (repeat' first|with_reducible intro _|with_reducible apply And.intro)<;>delta aiY x8 zP AO oZ oU kA EX ud ahead j9 oe pw wH wJ vH qP yg wI Dq sZ nO qH vJ kY tJ<;>(repeat' first|with_reducible refine Kp.bind ?_ λ_=>?_|with_reducible refine Kp.ite ?_ ?_)<;>first|(simp[*];done)|(refine Kp.fn λσ h=>?_;(repeat' split)<;>first|exact h|exact trivial|exact wC.st|exact wC.ok (h.mg rfl rfl)|exact Kp.at (by(repeat' first|with_reducible refine Kp.bind ?_ λ_=>?_|with_reducible refine Kp.ite ?_ ?_)<;>simp[*]) h)
@[simp] def Jb (i:Nat):Kp (jr i):=Kp.same (λ_ _ _ h=>pX h) (λσ c p=>rG _ σ c p)
@[simp] def ahD (i:Nat):Kp (lM i):=Kp.same (λ_ _ _ h=>Ct h) (λσ c p=>Au _ σ c p)
@[simp] def adF:Kp (jK):=Kp.same (λ_ _ _ h=>pt h) (λσ c p=>xx σ c p)
@[simp] def ajX (i:Nat):Kp (Jv i):=by
 intro σ h;unfold Jv;dsimp only;split
 .refine Kp.at ?_ h;simp[*]
 .refine Kp.at ?_ h;simp[*]
@[simp] def Xb (d:Nat):∀h,Kp (yi d h)
 |[]=>Kp.pure _
 |k::r=>Kp.bind (Jb _) λ_=>Kp.bind (aid _ _) λ_=>Xb d r
@[simp] def U9 (b d:Nat):Kp (handOver b d):=by
 intro σ h;unfold handOver;split
 .trivial
 .split
  .trivial
  .refine Kp.at (Kp.bind (Xb _ _) λ_=>Kp.fn λo j=>?_) h;split
   .rename_i m k;exact wC.ok (NG.set j (Pv.kids (j.el k) rfl rfl) (j.2.2 _ m k))
   .trivial
@[simp] def Rl:Kp (AW):=by
 simp[AW]
@[simp] def aaq (t:gy) (j:TG t):Kp (mN t):=by
 unfold mN;split
 .rename_i n q h;exact Kp.bind Rl λ_=>Kp.bind (SV _ _ _ (j.dt n q h) nofun) λ_=>by simp
 .simp
def N1 {α:Type} (Y:α->List Nat) (r:pM α):Prop:=match r with
 | .ok a σ'=>@NG ⟨Y a⟩ σ'
 | .stop e _=>e≠0
 | .stuck=>True
omit [XL] in
def N1.ok {α:Type} {Y:α->List Nat} {a:α} {σ:Ab} (h:@NG ⟨Y a⟩ σ):N1 Y (.ok a σ):=h
def Kj {α:Type} (X:List Nat) (Y:α->List Nat) (m:M α):Prop:=∀σ,@NG ⟨X⟩ σ->N1 Y (m σ)
omit [XL] in
def Kj.bind {α o:Type} {X:List Nat} {Y:α->List Nat} {Z:o->List Nat} {m:M α} {f:α->M o} (h:Kj X Y m) (q:∀a,Kj (Y a) Z (f a)):Kj X Z (m>>=f):=by
 intro σ k;rw[M.gn];have j:=h σ k;revert j;cases m σ with
 |ok a σ'=>intro j;exact q a σ' j
 |stop e p=>simp[N1]
 |stuck=>simp[N1]
def Kp.k {α:Type} {m:M α} (h:Kp m):Kj XL.l (λ_=>XL.l) m:=λσ j=>by
 have k:=h σ j;cases hm:m σ<;>rw[hm]at k<;>exact k
omit [XL] in
def Kp.j {α:Type} {X:List Nat} {m:M α} (h:∀[XL],Kp m):Kj X (λ_=>X) m:=@Kp.k ⟨X⟩ _ _ (@h ⟨X⟩)
def Kj.p {α:Type} {m:M α} (h:Kj XL.l (λ_=>XL.l) m):Kp m:=λσ j=>by
 have k:=h σ j;cases hm:m σ<;>rw[hm]at k<;>exact k
omit [XL] in
def NG.mono {X Y:List Nat} {σ:Ab} (h:@NG ⟨X⟩ σ) (m:∀i∈X,i∈Y):@NG ⟨Y⟩ σ:=⟨h.1,h.2.1,λi e j k=>(h.2.2 i e j k).imp id (m i)⟩
omit [XL] in
def NG.cons {X:List Nat} {σ:Ab} (h:@NG ⟨X⟩ σ) (j:Nat):@NG ⟨j::X⟩ σ:=h.mono λ_ k=>nc _ k
omit [XL] in
theorem Fj {X Z:List Nat} (pl:Nat×Nat) (j:Nat) (q:∀i∈Z,i=j\/i∈X):Kj Z (λ_=>X) (mL pl j):=by
 intro σ h;have k:=@afp ⟨j::X⟩ pl j σ (h.mono λi t=>List.mem_cons.2 (q i t));revert k;unfold mL;split
 .rename_i x y z p;split
  .rename_i A;intro k;refine N1.ok ⟨k.1,k.2.1,λi e o u=>?_⟩;rcases k.2.2 i e o u with m|m
   .omega
   .rcases List.mem_cons.1 m with m|m
    .subst m;rw[Ab.iR (by have:=Ab.gW p;grind[Ab.gS])]at o;grind
    grind
  simp[N1]
 simp[N1]
omit [XL] in
def Xx {X:List Nat} (k:fY) (m:k.size<=5000):Kj X (λj=>j::X) (CJ k):=λσ h=>N1.ok <|@NG.add ⟨_⟩ _ (h.cons _) (.el ⟨k,[],none,[]⟩) ⟨m,iM _,λ_ o=>by cases o⟩ λ_ _=>kK ..
omit [XL] in
def Vl {X:List Nat} (t:gy) (k:TG t):Kj X (λj=>j::X) (nC t):=by
 intro σ h;unfold nC;split
 .exact N1.ok <|@NG.pN ⟨_⟩ _ (h.cons _) (.el ⟨t.name,t.jh,none,[]⟩) ⟨k.name,k.len,k.gx⟩ _ λ_ _=>kK ..
 .trivial
omit [XL] in
def Su {X:List Nat} (k:fY) (own:Bool) (gx:la) (m:k.size<=5000) (q:gx.length<=16) (o:∀p∈gx,p.1.size<=5000/\p.2.size<=66000):Kj X (λj=>j::X) (sv k own gx):=by
 intro σ h;unfold sv;split
 .split
  .exact N1.ok <|@NG.pN ⟨_⟩ _ (h.cons _) (.el ⟨k,gx,none,[]⟩) ⟨m,q,o⟩ _ λ_ _=>kK ..
  .trivial
 .exact Xx k m σ h
omit [XL] in
def Di {X:List Nat} (i:Nat):Kj X (λj=>j::X) (kB i):=by
 intro σ h;unfold kB;split
 .rename_i e k;split
  .trivial
  .exact N1.ok <|@NG.add ⟨_⟩ _ (h.cons _) (.el ⟨e.name,e.gO,none,[]⟩) (Pv.kids (@NG.el ⟨_⟩ _ h _ _ k) rfl rfl) λ_ _=>kK ..
 .trivial
omit [XL] in
def Oh {X:List Nat} (j:Nat):Kj X (λ_=>j::X) (lQ j):=by
 intro σ h;unfold lQ;split
 .trivial
 .rename_i p o;split
  .exact N1.ok (h.cons j)
  .split
   .trivial
   .rename_i m k;split
    .refine N1.ok (@NG.set ⟨_⟩ _ (@NG.set ⟨_⟩ _ (h.cons j) _ _ ?_ ?_) _ _ ?_ ?_)
     .exact Pv.kids (@NG.el ⟨_⟩ _ h _ _ k) rfl rfl
     .exact(h.cons j).2.2 _ m k
     .exact Pv.kids (@NG.el ⟨_⟩ _ h _ _ o) rfl rfl
     simp
    .trivial
@[simp] def K5 (own:Bool) (gx:la) (m:gx.length<=16) (h:∀p∈gx,p.1.size<=5000/\p.2.size<=66000):Kp (qW own gx):=
 Kj.p (Kj.bind (Su _ _ _ (by decide) m h) λj=>Kj.bind (Kp.j Rl) λo=>Kj.bind (Fj o j λi k=>List.mem_cons.1 k) λ_=>Kp.j (Kp.bind (PJ _) λ_=>Kp.bind (Cc _) λ_=>Kp.pure _))
@[simp] def agQ (t:gy) (h:TG t):Kp (vh t):=Kp.bind (K5 _ _ h.len h.gx) λ_=>Kp.pure _
@[simp] def agJ:Kp (qW false []):=K5 _ _ (by decide) (λ_ h=>by cases h)
@[simp] theorem UT:Kp qO:=by
 unfold qO;refine Kp.fn λσ h=>?_;split
 all_goals grind[wC,jr]
@[simp] def nh1:(∀(i:Nat),Kp (placeFor i))/\Kp xM/\Kp yf/\Kp wK/\Kp lc/\Kp oH/\Kp AZ/\Kp iT/\(∀(j:Nat->gy->M Unit) (t:gy) (k:De j) (m:TG t),Kp (nQ j t))/\(∀(t:gy),Kp (vI t)):=by
 (repeat' first|with_reducible intro _|with_reducible apply And.intro)<;>delta placeFor xM nQ yf wK vI lc oH AZ iT<;>(repeat' first|with_reducible refine Kp.bind ?_ λ_=>?_|with_reducible refine Kp.ite ?_ ?_)<;>first|(simp[*];done)|(refine Kp.fn λσ h=>?_;(repeat' split)<;>first|exact h|exact trivial|exact wC.st|exact wC.ok (h.mg rfl rfl)|exact Kp.at (by simp) h)
@[simp] def SK:Kp (mD):=by
 unfold mD;refine Kp.fn λσ h=>?_
 (repeat' split)<;>first|exact h|exact trivial|exact wC.st|exact wC.ok (h.mg rfl rfl)|exact Kp.at (by simp) h
omit [XL] in
def BW {X:List Nat} (j:Nat):Kj (j::X) (λ_=>X) (lN j):=Kj.bind (Kp.j SK) λk=>Kj.bind (Fj k j λi h=>List.mem_cons.1 h) λ_=>Kp.j (Kp.bind (PJ _) λ_=>Kp.pure _)
@[simp] def vu (h:fY) (k:h.size<=5000):Kp (jW h):=Kj.p (Kj.bind (Xx h k) λj=>Kj.bind (BW j) λ_=>Kp.j (Kp.pure _))
@[simp] def R9 (t:gy) (h:TG t):Kp (jg t):=Kj.p (Kj.bind (Vl t h) λj=>Kj.bind (BW j) λ_=>Kp.j (Kp.pure _))
@[simp] def Pg (t:gy):Kp (jZ t):=by
 simp[jZ]
@[simp] def acR:∀k n,Kp (IM k n)
 |0,_=>Kp.pure _
 |k+1,n=>Kj.p (Kj.bind (Kp.j (adX _)) λi=>Kj.bind (Di i) λj=>Kj.bind (BW j) λ_=>Kp.k (Kp.bind (QN _) λ_=>acR k (n+1)))
@[simp] def adI:Kp lz:=λσ h=>acR _ _ σ h
@[simp] def K7 (own:Bool) (gx:la) (k:gx.length<=16) (h:∀p∈gx,p.1.size<=5000/\p.2.size<=66000):Kp (qX own gx):=
 Kj.p (Kj.bind (Su _ _ _ (by decide) k h) λj=>Kj.bind (Kp.j (adn λ_=>⟨rfl,rfl⟩)) λ_=>Kj.bind (BW j) λ_=>Kp.j (Kp.bind (Cc _) λ_=>Kp.pure _))
@[simp] def agR (t:gy) (h:TG t):Kp (vi t):=Kp.bind (K7 _ _ h.len h.gx) λ_=>Kp.pure _
@[simp] def agK:Kp (qX false []):=K7 _ _ (by decide) (λ_ h=>by cases h)
@[simp] def aeJ:Kp (jW gr):=vu _ (by decide)
@[simp] def aiC:Kp (jW nf):=vu _ (by decide)
@[simp] def ahJ:Kp (jW jS):=vu _ (by decide)
@[simp] def PX (t:gy) (h:TG t):Kp (mF t):=by
 unfold mF
 (repeat' first|with_reducible refine Kp.bind ?_ λ_=>?_|with_reducible refine Kp.ite ?_ ?_)<;>simp[*]
@[simp] def Hq:∀xs,Kp (tL xs)
 |[]=>Kp.pure _
 |x::r=>Kp.bind (Pg _) λ_=>Hq r
@[simp] def OC (rec:Nat->gy->M Unit) (j:De rec):Kp (oc rec):=by
 intro σ h;unfold oc;split
 .exact Hg rec j _ σ h
 .exact Hq _ σ h
@[simp] def aan (h rec:Nat->gy->M Unit) (t:gy) (j:De h) (k:De rec) (m:TG t):Kp (lG h rec t):=
 Kp.bind (OC h j) λ_=>Kp.bind (Kp.wU (λ_=>rfl) (λ_=>rfl)) λ_=>Kp.bind (Jl rec t k m) λ_=>Kp.pure _
@[simp] def aeh (j:Nat) (own:Bool) (t:gy) (h:TG t):Kp (xu j own t):=by
 unfold xu;exact Kp.ite (Do _ _ SK h) (Kp.ite (Do _ _ UT h) (Kp.ite (Do _ _ (Jb _) h) Kp.stuck))
omit [XL] in
theorem Gw (f k:Nat):∀(X:List Nat) n c last j,Kj (last::X) (λr=>r.1::X) (lB f k n c last j)
 |X,0,_,_,_=>λσ h=>h
 |X,n+1,c,last,j=>by
  unfold lB;refine Kj.bind (Kp.j (afd _)) λe=>?_;split
  .exact λσ h=>h
  .refine Kj.bind (Kp.j (Kp.ite (QM _) (Kp.pure _))) λ_=>λσ h=>?_;by_cases o:some e∉σ.act
   .rw[gv o];exact Kj.bind (Kp.j (KX _)) (λ_=>Gw f k X n _ _ _) σ h
   .rw[gH o];exact Kj.bind (Di _) (λm=>Kj.bind (Kp.j (ae7 _ _)) λ_=>Kj.bind (Kp.j (WG _ _)) λ_=>Kj.bind (Oh _) λ_=>Kj.bind (Kp.j (Jb _)) λp=>Kj.bind (Fj p last (X:=m::X) (by grind)) λ_=>Gw f k X n _ _ _) σ h
@[simp] def aiD (f j:Nat):Kp (sR f j):=Kj.p (Kj.bind (λσ h=>Gw f j _ _ _ _ _ σ (h.cons _)) λ(last,mark)=>Kj.bind (Oh last) λ_=>Kj.bind (Kp.j (by simp)) λa=>Kj.bind (Kp.j (by simp)) λm=>Kj.bind (Fj m last (X:=XL.l) (by simp)) λ_=>Kj.bind (Di f) λk=>Kj.bind (Kp.j (U9 _ _)) λ_=>Kj.bind (Kp.j (Jb _)) λm=>Kj.bind (Fj m k (X:=XL.l) (by simp)) λ_=>Kp.j (Kp.bind (by simp) λ_=>Kp.bind (QM _) λ_=>Kp.bind (KX _) λ_=>Kp.bind (by simp) λ_=>Kp.pure _))
@[simp] def nh2:(∀(t:gy) (k:TG t),Kp (ln t)/\Kp (lr t)/\Kp (rR t)/\Kp (mu t)/\Kp (uv t)/\Kp (mO t)/\Kp (rS t)/\Kp (p9 t)/\Kp (nK t)/\Kp (kP t)/\Kp (pF t)/\Kp (ju t)/\Kp (iX t))/\(∀(j:Nat->gy->M Unit) (t:gy) (q:De j) (k:TG t),Kp (nR j t)/\Kp (lu j t)/\Kp (mc j t)/\Kp (zz j t))/\(∀(t:gy) (p:Bool) (k:TG t),Kp (nD t p))/\Kp qv/\Kp Mo/\Kp uc/\(∀(o:List fY) (m:Nat),Kp (kI o m))/\(∀(t:gy),Kp (nF t)):=by
 (repeat' first|with_reducible intro _|with_reducible apply And.intro)<;>delta ln lr nR lu rR mc nD zz mu uv mO rS p9 qv Mo uc nK kP kI pF nF ju iX<;>(repeat' first|with_reducible refine Kp.bind ?_ λ_=>?_|with_reducible refine Kp.ite ?_ ?_)<;>first|(simp[*];done)|(refine Kp.fn λσ h=>?_;(repeat' split)<;>first|exact h|exact trivial|exact wC.st|exact wC.ok (h.mg rfl rfl)|exact Kp.at (by(repeat' first|with_reducible refine Kp.bind ?_ λ_=>?_|with_reducible refine Kp.ite ?_ ?_)<;>simp[*]) h)
@[simp] def QV (s:fY):Kp (mr s):=by
 unfold mr;refine Kp.fn λσ h=>?_
 (repeat' split)<;>first|exact h|exact trivial|exact wC.st|exact wC.ok (h.mg rfl rfl)|exact Kp.at (by simp) h
@[simp] def aaL (s:fY):∀n,Kp (sY s n)
 |0=>Kp.pure _
 |n+1=>Kp.bind (QV _) λ_=>Kp.ite (aaL s n) (Kp.pure _)
@[simp] def nh3:(∀(t:gy) (k:TG t),Kp (qA t)/\Kp (iP t)/\Kp (rU t)/\Kp (mZ t)/\Kp (vD t)/\Kp (nW t)/\Kp (nY t)/\Kp (oR t)/\Kp (nX t)/\Kp (lh t))/\(∀(s:fY),Kp (ww s))/\(∀(j:Nat->gy->M Unit) (t:gy) (m:De j) (k:TG t),Kp (jV j t))/\Kp qN/\Kp endCell:=by
 (repeat' first|with_reducible intro _|with_reducible apply And.intro)<;>delta qA iP ww rU mZ vD nW nY oR nX jV qN endCell lh<;>(repeat' first|with_reducible refine Kp.bind ?_ λ_=>?_|with_reducible refine Kp.ite ?_ ?_)<;>first|(simp[*];done)|(refine Kp.fn λσ h=>?_;(repeat' split)<;>first|exact h|exact trivial|exact wC.st|exact wC.ok (h.mg rfl rfl)|exact Kp.at (by simp) h)
@[simp] def abm {f:Nat} {b:M Bool} (h:yQ f=some b):Kp b:=by
 unfold yQ at h
 repeat' (split at h)
 all_goals (cases h<;>simp)
@[simp] def nh4:(∀(t:gy) (j:TG t),Kp (pa t)/\Kp (pG t)/\Kp (ra t))/\(∀(t:gy),Kp (nP t)):=by
 (repeat' first|with_reducible intro _|with_reducible apply And.intro)<;>delta pa pG ra nP<;>(repeat' first|with_reducible refine Kp.bind ?_ λ_=>?_|with_reducible refine Kp.ite ?_ ?_)<;>first|(simp[*];done)|(refine Kp.fn λσ h=>?_;(repeat' split)<;>first|exact h|exact trivial|exact wC.st|exact wC.ok (h.mg rfl rfl)|exact Kp.at (by(repeat' first|with_reducible refine Kp.bind ?_ λ_=>?_|with_reducible refine Kp.ite ?_ ?_)<;>simp[*]) h)
@[simp] theorem nh5:(∀(t:gy) (j:TG t),Kp (qz t)):=by
 (repeat' first|with_reducible intro _|with_reducible apply And.intro)<;>delta qz<;>(simp_all)<;>first|(simp[*];done)|(refine Kp.fn λσ h=>?_;(repeat' split)<;>first|exact h|exact trivial|exact wC.st|exact wC.ok (h.mg rfl rfl)|exact Kp.at (by(repeat' first|with_reducible refine Kp.bind ?_ λ_=>?_|with_reducible refine Kp.ite ?_ ?_)<;>simp[*]) h)
@[simp] def aeW (j:Bool) (h rec:Nat->gy->M Unit) (t:gy) (f:Nat) (k:De h) (m:De rec) (o:TG t):Kp (KQ j h rec t f):=by
 unfold KQ
 (repeat' with_reducible refine Kp.ite ?_ ?_)<;>simp[*]
@[simp] def RS (q:Bool) (j rec:Nat->gy->M Unit) (t:gy) (u:De j) (o:De rec) (k:TG t):∀r,N9 r=true->Kp (oW q j rec r t)
 | .nil,_=>Kp.stuck
 | .nothing,_=>Kp.pure _
 | .hH f,_=>aeW q j rec t f u o k
 | .pO m,_=>Kp.ite (o _ _ k) Kp.stuck
 | .gM pf own,_=>aeh pf own t k
 | .ahead f,_=>by
  show Kp (match yQ f with|some b=>xl rec b t|none=>stuck)
  cases hb:yQ f with
  |none=>simp
  |some b=>exact Kp.bind (abm hb) λ_=>Kp.ite (Kp.bind (Jl rec t o k) λ_=>Kp.pure _) (Kp.pure _)
 | .ends f,_=>by
  show Kp (match yQ f with|some b=>Cs b|none=>stuck)
  cases hb:yQ f with
  |none=>simp
  |some b=>exact Kp.bind (abm hb) λ_=>Kp.pure _
 | .LZ r,h=>by
  have x:=RS q j rec t u o k r h;intro σ p;show wC (IG (oW q j rec r t) t σ);unfold IG;split
  .exact x σ p
  .exact p
 | .qF ks m,_=>Kp.ite (Kp.bind (JM _) λ_=>Kp.bind (R9 t k) λ_=>Kp.bind (Cc _) λ_=>Kp.pure _) Kp.stuck
 | .nj ks name m,h=>Kp.ite (Kp.bind (JM _) λ_=>Kp.bind (vu _ (of_decide_eq_true h)) λ_=>Kp.bind (Cc _) λ_=>Kp.bind (Jl rec t o k) λ_=>Kp.pure _) Kp.stuck
 | .item ks,_=>Kp.bind (aa5 _ _) λ_=>Kp.bind (PX t k) λ_=>Kp.pure _
@[simp] theorem Qh:∀(n:Nat) (h:Bool) (m:Nat) (t:gy),TG t->Kp (gQ h n m t)
 |0,_,_,_,_=>Kp.stuck
 |n+1,h,m,t,j=>by
  by_cases o:t.k= .lost
  .have e:gQ h (n+1) m t=stuck:=by
    have⟨a,b,k,gx⟩:=t;cases o;rfl
   simp_all
  .rw[FE h n m t o];unfold asM;cases hs:ut[m]? with
   |none=>simp
   |some sp=>exact RS h _ _ t (λm t j=>Qh n true m t j) (λm t j=>Qh n h m t j) j _ (acW (afQ sp (tR hs)) t)
@[simp] def WB (n:Nat) (t:gy) (j:TG t):Kp (uE (gQ false n) t):=by
 have o:Kp (α:=Unit) (λσ:Ab=>if σ.behind&&kJ t.chars yo then pM.ok () {σ with behind:=false,gI:=t.a} else jX (gQ false n) t {σ with behind:=false,gI:=t.a}):=by
  refine Kp.fn λσ h=>?_;have p:NG {σ with behind:=false,gI:=t.a}:=h.mg rfl rfl;split
  .exact p
  .exact Jl _ t (λm t j=>Qh n false m t j) j _ p
 have⟨a,b,k,gx⟩:=t;cases k with
 |lost=>simp[uE]
 |_=>exact o
end
instance :XL:=⟨[]⟩
def TkN:Un->Prop
 | .VZ nm L=>nm.size<=5000/\L.length<=16/\∀p∈L,p.1.size<=5000/\p.2.size<=66000
 | .fin nm L=>nm.size<=5000/\L.length<=16/\∀p∈L,p.1.size<=5000/\p.2.size<=66000
 | .cmt t=>t.size<=5000
 | .dtp nm _=>nm.size<=5000
 |_=>True
def aay:AM->Prop
 | .stop=>True
 | .tok k _=>TkN k
def zO (h:s.size<=1024):(ph s).size<=5000:=by have:=xA s;omega
def yu (s:fY) (a b:Nat):(s.extract a b).size<=s.size:=by simp[ByteArray.size_extract];omega
def XV (h:R.cs.size<=1024) (ps:Nat):(zg R ps).size<=5000:=zO (by rw[tw];have:=yu R.cs ps (zf R ps);omega)
def YF (h:R.cs.size<=1024) (ps:Nat):(BP R ps).size<=5000:=zO (by rw[tw];have:=yu R.cs ps (ky R ps);omega)
def ahu (h:R.cs.size<=1024) (ps:Nat):(UJ R ps).size<=5000:=zO (by rw[tw];have:=yu R.cs (dtA R ps) (Hc R ps);omega)
def aab (h:∀x t,look x=some t->t.size<=16) (p:R.cs.size<=1024) (ps:Nat):(sV look lg R ps).size<=66000:=by
 unfold sV;split
 .have j:=xA ⟨(wh look lg (nk R (mQ R (mQ R ps+1)))).toArray⟩;have k:=Bx (lg:=lg) h (nk R (mQ R (mQ R ps+1)));have m:=DI (R:=R) (ps:=mQ R (mQ R ps+1));have o:(ByteArray.mk (wh look lg (nk R (mQ R (mQ R ps+1)))).toArray).size=(wh look lg (nk R (mQ R (mQ R ps+1)))).length:=by simp[ByteArray.size]
  omega
 .decide
theorem trimSuffix_le (s p:List UInt8):(Lib.trimSuffix s p).length<=s.length:=by unfold Lib.trimSuffix;grind
def NP (s:fY):(zN s).size<=s.size:=by
 have e:∀l:List UInt8,(ByteArray.mk l.toArray).size=l.length:=λl=>by rfl
 have e1:s.size=s.data.toList.length:=Qu s;unfold zN;split
 .rw[e,e1];exact trimSuffix_le _ _
 split
 .rw[e,e1];exact trimSuffix_le _ _
 split
 .rw[e,e1];exact trimSuffix_le _ _
 simp
def Ri (R:RC) (a:Nat):∀(n i:Nat),R.cs.size - i<=n->(qi R a i).size<=R.cs.size
 |0,i,h=>by
  rw[qi.eq_1 R a i,gH (by omega)];exact jH (NP _) (yu _ _ _)
 |n+1,i,h=>by
  rw[qi.eq_1 R a i];split
  .split
   .exact yu _ _ _
   .split
    .exact yu _ _ _
    .exact Ri R a n (i+1) (by omega)
  .exact jH (NP _) (yu _ _ _)
def UE (R:RC) (ps:Nat):(oF R ps).size<=R.cs.size:=by
 unfold oF;split
 .exact iM _
 split
 .exact iM _
 .exact Ri R _ _ _ (gL _)
theorem aag (h:∀x t,look x=some t->t.size<=16) (k:R.cs.size<=1024) {L : la} (m:∀p∈L,p.1.size<=5000/\p.2.size<=66000):∀p∈rV R look lg L ps,p.1.size<=5000/\p.2.size<=66000:=by
 unfold rV vT;split
 .exact m
 .intro p o;rcases List.mem_append.1 o with j|j
  .grind
  .obtain rfl:=List.mem_singleton.1 j;exact⟨YF k _,aab h k _⟩
theorem Og {L : la} (h:R.cs.size<=ps):mf R look lg L ps= .lost:=by
 have j:=tP (R:=R) (ps:=ps);grind[mf]
theorem af1 (q:∀x t,look x=some t->t.size<=16) (z:R.cs.size<=1024) (G:R.at_<=16):∀(n:Nat) {L:la} {ps m:Nat} {j:la},R.cs.size - ps<=n->mf R look lg L ps= .whole m j->L.length<=16->(∀p∈L,p.1.size<=5000/\p.2.size<=66000)->j.length<=16/\∀p∈j,p.1.size<=5000/\p.2.size<=66000:=by
 intro n
 induction n with
 |zero=>
  intro L ps m j y h;rw[Og (by omega)]at h;cases h
 |succ n ih=>
  intro L ps m j y h I o;have A:=tP (R:=R) (ps:=ps);rw[mf]at h;split at h
  .split at h
   .grind
   .split at h
    .cases h
    .rename_i u _ k;have E:=xz (R:=R) (ps:=jf R ps);have F:=zn (R:=R) (ps:=ky R (jf R ps));by_cases H:ky R (jf R ps)=R.cs.size
     .rw[Og (by omega)]at h;cases h
     .refine ih (by omega) h ?_ (aag q z o);unfold Af at k;unfold rV vT;grind
  grind
theorem agS (o:∀x t,look x=some t->t.size<=16) (u:R.cs.size<=1024) (k:R.at_<=16) {j : fY->la->Un} (q:∀L,L.length<=16->(∀p∈L,p.1.size<=5000/\p.2.size<=66000)->TkN (j nm L)):aay (uw R j nm (mf R look lg [] ps)):=by
 cases h:mf R look lg [] ps with
 |stop=>trivial
 |lost=>trivial
 |whole m L=>
  have:=af1 o u k _ (gL _) h (iM _) (by simp);grind[aay,uw]
def afL (o:∀x t,look x=some t->t.size<=16) (h:R.cs.size<=1024) (m:R.at_<=16):aay (mY R look lg bg ps):=by
 unfold mY;split
 .exact agS o h m (λL j k=>⟨XV h _,j,k⟩)
 split
 .trivial
 split
 .trivial
 .exact zO (jH (yu _ _ _) h)
def ahV (k:∀x t,look x=some t->t.size<=16) (h:R.cs.size<=1024) (j:R.at_<=16):aay (rJ R look lg bg ps):=by
 unfold rJ;split
 .exact agS k h j (λL m o=>⟨XV h _,m,o⟩)
 split
 .exact afL k h j
 split
 .exact zO (jH (UE _ _) h)
 split
 .exact ahu h _
 split
 .exact zO (jH (yu _ _ _) h)
 split
 .exact zO (jH (yu _ _ _) h)
 .trivial
def acn (j:∀x t,look x=some t->t.size<=16) (k:R.cs.size<=1024) (h:R.at_<=16):aay (kZ R look lg ps):=by
 unfold kZ;split
 .trivial
 split
 .split
  .exact ahV (R:=uQ R ps) j k h
  .trivial
 .unfold Ag;split<;>trivial
def TkN.tg {k : Un} (h:TkN k) (a b:Nat):TG (pQ a b k):=by
 cases k with
 |VZ nm L=>exact⟨h.1,h.2.1,h.2.2,(λ_ h=>by cases h),(λ_ _ h=>by cases h)⟩
 |fin nm L=>exact⟨h.1,h.2.1,h.2.2,(λ_ h=>by cases h),(λ_ _ h=>by cases h)⟩
 |cmt t=>exact⟨iM _,iM _,(λ_ j=>by cases j),(λs e=>by cases e;exact h),(λ_ _ h=>by cases h)⟩
 |dtp n q=>exact⟨iM _,iM _,(λ_ j=>by cases j),(λ_ h=>by cases h),(λn q e=>by cases e;exact h)⟩
 |Y6=>exact⟨iM _,iM _,(λ_ j=>by cases j),(λ_ h=>by cases h),(λ_ _ h=>by cases h)⟩
 |chr t=>exact⟨iM _,iM _,(λ_ j=>by cases j),(λ_ h=>by cases h),(λ_ _ h=>by cases h)⟩
 |lost=>exact⟨iM _,iM _,(λ_ j=>by cases j),(λ_ h=>by cases h),(λ_ _ h=>by cases h)⟩
theorem S8 (z:∀x t,look x=some t->t.size<=16) (A:R.cs.size<=1024) (y:R.at_<=16):∀(n ps:Nat) (σ:Ab) (L:List Sp),NG σ->∀c p,nJ R look lg cut n ps σ L= .stop c p->c≠0:=by
 intro n
 induction n with
 |zero=>simp[nJ]
 |succ n ih=>
  intro ps σ L q c p h;rw[nJ]at h;have o:=acn (R:=QR R σ.nT σ.iU) (look:=look) (lg:=lg) (ps:=ps) z A y;revert h o;cases kZ (QR R σ.nT σ.iU) look lg ps with
  |stop=>grind
  |tok k m=>
   intro h o;dsimp only at h;have j:=WB ug _ (TkN.tg o (cut ps) (cut m)) (xI R σ ps (pQ (cut ps) (cut m) k)) (q.mg rfl rfl);revert h j;cases uE (gQ false ug) (pQ (cut ps) (cut m) k) (xI R σ ps (pQ (cut ps) (cut m) k))with
   |stuck=>simp
   |stop c p=>intro h j;cases h;exact j
   |ok u σ2=>
    intro h j;dsimp only at h;split at h
    .cases h
    .exact ih _ _ _ j _ _ h
def ZL (E:∀x t,look x=some t->t.size<=16) (F:R.cs.size<=1024) (A:R.at_<=16):∀(n ps:Nat) (σ:Ab) (L:List Sp),NG σ->∀j z,nJ R look lg cut n ps σ L= .done j z->NG j:=by
 intro n
 induction n with
 |zero=>simp[nJ]
 |succ n ih=>
  intro ps σ L y j z h;rw[nJ]at h;have q:=acn (R:=QR R σ.nT σ.iU) (look:=look) (lg:=lg) (ps:=ps) E F A;revert h q;cases kZ (QR R σ.nT σ.iU) look lg ps with
  |stop=>simp
  |tok k m=>
   intro h q;dsimp only at h;have o:=WB ug _ (TkN.tg q (cut ps) (cut m)) (xI R σ ps (pQ (cut ps) (cut m) k)) (y.mg rfl rfl);revert h o;cases uE (gQ false ug) (pQ (cut ps) (cut m) k) (xI R σ ps (pQ (cut ps) (cut m) k))with
   |stuck=>simp
   |stop c p=>simp
   |ok u σ2=>
    intro h o;dsimp only at h;split at h
    .cases h;exact o
    .exact ih _ _ _ o _ _ h
def agm (j:l<=16):NG (S0 d f l a):=⟨j,λn k=>by
 have e:n= .el ⟨⟨#[]⟩,[],none,[]⟩:=by
  have:n∈[AJ.el ⟨⟨#[]⟩,[],none,[]⟩]:=k;exact List.mem_singleton.1 this
 rw[e];exact⟨by decide,by decide,λ_ m=>by cases m⟩,λi e h _=> .inl (by have:=Ab.gW h;simp[S0]at this;omega)⟩
theorem ZN (d f l:Nat) (s:fY) (m:s.size<=1024) (k:l<=16) {j : Ab} (h:Bl d f l s= .done j L):NG j:=
 ZL (R:=uZ s l .nilFunc 0) Be (by have:=I8 s;grind[uZ]) (by grind[uZ]) _ _ _ _ (agm k) _ _ h
theorem S9 (d f l:Nat) (s:fY) (k:s.size<=1024) (j:l<=16) {p : Nat} (h:Bl d f l s= .stop c p):c≠0:=
 S8 (R:=uZ s l .nilFunc 0) Be (by have:=I8 s;grind[uZ]) (by grind[uZ]) _ _ _ _ (agm j) _ _ h
mutual
def Ly:Tn->Nat
 | .el _ _ ks=>1+szS ks
 | .tx _=>1
 | .cm _=>1
 | .dt _=>1
def szS:List Tn->Nat
 |[]=>0
 |t::ts=>Ly t+szS ts
end
def DU (σ:Ab):Nat->Nd->List Nat
 |0,_=>[]
 |k+1,.el i=>i::(match σ.gV i with
  |some e=>e.kids.flatMap (DU σ k)
  |none=>[])
 |_+1,_=>[]
def kl (σ:Ab) (i:Nat):Nat:=match σ.gV i with
 |some e=>e.kids.length
 |none=>0
theorem XU (f:Nd->Tn) (g:Nd->List Nat) (h:Nat->Nat):∀j:List Nd,(∀k∈j,Ly (f k)<=1+((g k).map h).sum)->szS (j.map f)<=j.length+((j.flatMap g).map h).sum
 |[],_=>by simp[szS]
 |k::j,hk=>by
  have o:=hk k (kK ..);have p:=XU f g h j (λx m=>hk x (nc _ m));grind[szS]
theorem ade (σ:Ab):∀(k:Nat) (h:Nd),Ly (D7 σ k h)<=1+((DU σ k h).map (kl σ)).sum
 |0,h=>by
  have e:D7 σ 0 h=CQ:=by cases h<;>rfl
  rw[e];simp[CQ,Ly]
 |k+1,.el i=>by
  show Ly (match σ.gV i with|some e=> .el e.name e.gO (e.kids.map (D7 σ k))|none=>CQ)<=1+((i::(match σ.gV i with|some e=>e.kids.flatMap (DU σ k)|none=>[])).map (kl σ)).sum
  cases he:σ.gV i with
  |none=>simp[CQ,Ly]
  |some e=>
   have j:=XU (D7 σ k) (DU σ k) (kl σ) e.kids (λx _=>ade σ k x);have m:kl σ i=e.kids.length:=by unfold kl;rw[he]
   grind[Ly]
 |k+1,.tx i=>by
  show Ly (match σ.nodes[i]? with|some (.tx s)=> .tx s|_=>CQ)<=_
  split<;>simp[CQ,Ly]
 |k+1,.cm i=>by
  show Ly (match σ.nodes[i]? with|some (.cm s)=> .cm s|_=>CQ)<=_
  split<;>simp[CQ,Ly]
 |k+1,.dt i=>by
  show Ly (match σ.nodes[i]? with|some (.dt s)=> .dt s|_=>CQ)<=_
  split<;>simp[CQ,Ly]
def Cj (σ:Ab) (j:Nat):iY:=(σ.gV j).bind (·.je)
def Qo (σ:Ab):Nat->Nat->iY
 |0,j=>some j
 |n+1,j=>(Qo σ n j).bind (Cj σ)
def X2 (σ:Ab) (n j:Nat):∀d,Qo σ (n+d) j=(Qo σ n j).bind (Qo σ d)
 |0=>by simp[Qo]
 |d+1=>by
  show(Qo σ (n+d) j).bind (Cj σ)=_;rw[X2 σ n j d];cases Qo σ n j<;>simp[Qo]
theorem La {r : Nat->Nat} (k:jx r σ) {j p : Nat} (h:Cj σ j=some p):r p < r j:=by
 unfold Cj at h;cases he:σ.gV j with
 |none=>grind
 |some e=>rw[he]at h;exact k.ur.je j e p he h
theorem LI {r : Nat->Nat} (m:jx r σ):∀(n j i:Nat),Qo σ n j=some i->r i<=r j
 |0,j,i,h=>by cases h;simp
 |n+1,j,i,h=>by
  have k:(Qo σ n j).bind (Cj σ)=some i:=h;cases hq:Qo σ n j with
  |none=>grind
  |some q=>
   rw[hq]at k;have o:=LI m n j q hq;have p:=La m (show Cj σ q=some i from k);omega
theorem Jn {r : Nat->Nat} (o:jx r σ):∀(k:Nat) (i j:Nat),j∈DU σ k (.el i)->∃n,Qo σ n j=some i
 |0,i,j,h=>by cases h
 |k+1,i,j,h=>by
  have p:j∈i::(match σ.gV i with|some e=>e.kids.flatMap (DU σ k)|none=>[]):=h
  rcases List.mem_cons.1 p with rfl|m
  .exact⟨0,rfl⟩
  .cases he:σ.gV i with
   |none=>grind
   |some e=>
    rw[he]at m;have⟨x,hx,hj⟩:=List.mem_flatMap.1 m;cases x with
    |el c=>
     have⟨n,hn⟩:=Jn o k c j hj;have⟨ej,g1,g2⟩:=o.oA.dn i e c he (xb.2 hx);refine⟨n+1,?_⟩;show(Qo σ n j).bind (Cj σ)=some i;grind[Cj]
    |tx c=>cases k<;>cases hj
    |cm c=>cases k<;>cases hj
    |dt c=>cases k<;>cases hj
theorem af9 {r : Nat->Nat} (o:jx r σ) {m j : Nat} (k:Qo σ n j=some c) (h:Qo σ m j=some d) (p:Cj σ c=some i) (t:Cj σ d=some i):c=d:=by
 have x:∀{n m c d:Nat},n < m->Qo σ n j=some c->Qo σ m j=some d->Cj σ c=some i->Cj σ d=some i->False:=by
  intro n m c d u k h p t;obtain⟨q,rfl⟩:∃q,m=(n+1)+q:=⟨m - (n+1),by omega⟩;rw[X2]at h;have e:Qo σ (n+1) j=some i:=by
   show(Qo σ n j).bind (Cj σ)=some i;rw[k];exact p
  rw[e]at h;have y:=LI o q i d h;have z:=La o t;omega
 grind
def A4 (σ:Ab) (k:Nat):∀h:List Nd,h.flatMap (DU σ k)=(iD h).flatMap (λc=>DU σ k (.el c))
 |[]=>rfl
 | .el c::h=>by simp only[DY,iD];rw[A4 σ k h]
 | .tx c::h=>by
  have e:DU σ k (.tx c)=[]:=by cases k<;>rfl
  simp only[DY,iD,e,rp];exact A4 σ k h
 | .cm c::h=>by
  have e:DU σ k (.cm c)=[]:=by cases k<;>rfl
  simp only[DY,iD,e,rp];exact A4 σ k h
 | .dt c::h=>by
  have e:DU σ k (.dt c)=[]:=by cases k<;>rfl
  simp only[DY,iD,e,rp];exact A4 σ k h
theorem Kf {r : Nat->Nat} (o:jx r σ) (k:Nat) (t:∀c,(DU σ k (.el c)).Nodup):∀h:List Nat,h.Nodup->(∀c∈h,Cj σ c=some i)->(h.flatMap (λc=>DU σ k (.el c))).Nodup
 |[],_,_=>List.nodup_nil
 |c::h,hn,hp=>by
  rw[DY];rw[Wp]at hn;refine List.nodup_append.2 ⟨t c,Kf o k t h hn.2 (λd p=>hp d (nc _ p)),?_⟩;intro j u x q e;subst e;have⟨d,p,hjd⟩:=List.mem_flatMap.1 q;have⟨n,h1⟩:=Jn o k c j u;have⟨m,h2⟩:=Jn o k d j hjd;have e:=af9 o h1 h2 (hp c (kK ..)) (hp d (nc _ p));grind
def LF {r : Nat->Nat} (h:jx r σ):∀(k i:Nat),(DU σ k (.el i)).Nodup
 |0,i=>List.nodup_nil
 |k+1,i=>by
  show(i::(match σ.gV i with|some e=>e.kids.flatMap (DU σ k)|none=>[])).Nodup
  cases he:σ.gV i with
  |none=>simp
  |some e=>
   have m:∀c∈iD e.kids,Cj σ c=some i:=by
    intro c j;have⟨ej,g1,g2⟩:=h.oA.dn i e c he j;unfold Cj;rw[g1];exact g2
   dsimp only;rw[A4];refine List.nodup_cons.2 ⟨?_,Kf h k (λc=>LF h k c) _ (h.oA.nd i e he) m⟩;intro o;have⟨c,j,hj⟩:=List.mem_flatMap.1 o;have⟨n,h1⟩:=Jn h k c i hj;have p:=LI h n i c h1;have q:=La h (m c j);omega
theorem Oe:∀(l:List Nat) (L:List Nat),l.Nodup->(l.map (λi=>L.getD i 0)).sum<=L.sum
 |[],_,_=>by simp
 |i::l,L,hn=>by
  rw[Wp]at hn;have m:=Oe l (L.set i 0) hn.2;have e:l.map (λj=>(L.set i 0).getD j 0)=l.map (λj=>L.getD j 0):=by
   apply Wq;intro j o;have h:i≠j:=λe=>hn.1 (e▸o);simp[xX,List.getElem?_set,h]
  rw[e]at m;rw[yH,List.sum_cons];by_cases k:i < L.length
  .have p:=Qg L i L[i] 0 (by simp);grind
  .have q:L.getD i 0=0:=by simp[xX,List.getElem?_eq_none (Nat.le_of_not_lt k)]
   have t:L.set i 0=L:=List.set_eq_of_length_le (Nat.le_of_not_lt k);grind
theorem TE (f g:Nat->Nat) (h:∀i,f i<=g i):∀l:List Nat,(l.map f).sum<=(l.map g).sum
 |[]=>by simp
 |i::l=>by
  have:=h i;have:=TE f g h l;grind
theorem ajb {l : List Nat} (h:l.Nodup):(l.map (kl σ)).sum<=wt σ:=by
 refine jH (TE (kl σ) (λi=>(σ.nodes.map Xv).getD i 0) (λi=>?_) l) (Oe l _ h);unfold kl;split
 .rename_i e j;have k:=Ab.jn j;grind[Xv]
 simp
def ail (h:ni σ) (k i:Nat):Ly (D7 σ k (.el i))<=1+wt σ:=by
 have⟨r,hr⟩:=h;have j:=ade σ k (.el i);have m:=ajb (σ:=σ) (LF hr k i);omega
mutual
def TnG (B:Nat):Tn->Prop
 | .el name gx ks=>name.size<=5000/\gx.length<=16/\(∀p∈gx,p.1.size<=5000/\p.2.size<=66000)/\TsG B ks
 | .tx s=>s.size<=B
 | .cm s=>s.size<=5000
 | .dt s=>s.size<=5000
def TsG (B:Nat):List Tn->Prop
 |[]=>True
 |t::ts=>TnG B t/\TsG B ts
end
def XZ (f:Nd->Tn):∀j:List Nd,(∀k∈j,TnG B (f k))->TsG B (j.map f)
 |[],_=>trivial
 |k::j,h=>⟨h k (kK ..),XZ f j (λx m=>h x (nc _ m))⟩
def agT (h:NG σ):∀(k:Nat) (m:Nd),TnG (wt σ) (D7 σ k m)
 |0,m=>by
  have e:D7 σ 0 m=CQ:=by cases m<;>rfl
  rw[e];exact iM _
 |k+1,.el i=>by
  show TnG (wt σ) (match σ.gV i with|some e=> .el e.name e.gO (e.kids.map (D7 σ k))|none=>CQ)
  cases he:σ.gV i with
  |none=>exact iM _
  |some e=>
   obtain⟨o,p,q⟩:=h.el he;exact⟨o,p,q,XZ _ _ (λx _=>agT h k x)⟩
 |k+1,.tx i=>by
  show TnG (wt σ) (match σ.nodes[i]? with|some (.tx s)=> .tx s|_=>CQ)
  split
  .rename_i s j;exact ads j
  .exact iM _
 |k+1,.cm i=>by
  show TnG (wt σ) (match σ.nodes[i]? with|some (.cm s)=> .cm s|_=>CQ)
  split
  .rename_i s j;exact h.2.1 _ (tR j)
  .exact iM _
 |k+1,.dt i=>by
  show TnG (wt σ) (match σ.nodes[i]? with|some (.dt s)=> .dt s|_=>CQ)
  split
  .rename_i s j;exact h.2.1 _ (tR j)
  .exact iM _
mutual
theorem ahA (o:B<=595500) (j:fY->Bool):∀t:Tn,TnG B t->(∀e∈D6 j t,xC e=true)/\uD (D6 j t)<=143000000*Ly t/\(jI (D6 j t)).length<=18*Ly t
 | .el name gx ks,h=>by
  have⟨h1,h2,h3,h4⟩:=h;have⟨g1,g2,g3⟩:=O4 o j ks h4;have p:xC (.enter name gx)=true:=by
   simp only[xC,pW,BC,LV];exact⟨⟨h2,h3⟩,h1⟩
  have q:xC (.uj name)=true:=by simpa [xC]using h1
  unfold D6 Ly;split
  .refine⟨λe k=>?_,?_,?_⟩
   .grind
   .simp[uD,LL];omega
   .simp[jI,ui];omega
  .refine⟨λe k=>?_,?_,?_⟩
   .grind
   .have e:uD (.enter name gx::(sA j ks++[.uj name]))=(6000+16*6000000)+(uD (sA j ks)+6000):=by simp[uD,LL]
    omega
   .have e:(jI (.enter name gx::(sA j ks++[.uj name]))).length=(1+gx.length)+((jI (sA j ks)).length+1):=by simp[jI,ui];omega
    omega
 | .tx s,h=>by
  have m:s.size<=B:=h;refine⟨λe k=>?_,?_,?_⟩
  .rw[List.mem_singleton.1 k];simp[xC];omega
  .simp[D6,uD,LL,Ly];omega
  .simp[D6,jI,ui,Ly]
 | .cm s,h=>by
  have m:s.size<=5000:=h;refine⟨λe k=>?_,?_,?_⟩
  .rw[List.mem_singleton.1 k];simp[xC];omega
  .simp[D6,uD,LL,Ly]
  .simp[D6,jI,ui,Ly]
 | .dt s,h=>by
  have m:s.size<=5000:=h;refine⟨λe k=>?_,?_,?_⟩
  .rw[List.mem_singleton.1 k];simp[xC];omega
  .simp[D6,uD,LL,Ly]
  .simp[D6,jI,ui,Ly]
theorem O4 (m:B<=595500) (k:fY->Bool):∀j:List Tn,TsG B j->(∀e∈sA k j,xC e=true)/\uD (sA k j)<=143000000*szS j/\(jI (sA k j)).length<=18*szS j
 |[],_=>⟨(λe o=>by cases o),(by simp[sA,uD]),(by simp[sA,jI])⟩
 |t::j,h=>by
  have⟨a1,a2,a3⟩:=ahA m k t h.1;have⟨b1,b2,b3⟩:=O4 m k j h.2;unfold sA szS;refine⟨λe o=>?_,?_,?_⟩
  .grind
  .grind[uD]
  grind[jI]
end
def Z8 (j:ni σ):∃K,0 < K/\∀(E:Env) (f:Nat->Nat) (w:gm),RF E f σ w->jD w (D7 σ (K+1) (.el 0)) (.el (f 0)):=by
 have⟨r,hv⟩:=j;have⟨B,hB⟩:=AU r σ.nodes.length;refine⟨B+1,Nat.succ_pos _,λE f w h=>?_⟩;obtain⟨L,rfl,k⟩:=h;refine Xk k hv hB (B+2) (.el 0) hv.ye ?_ (by omega);omega
theorem abb (p:ni σ) (q:NG σ) (o:wt σ<=595500) (K:Nat):∃nm gx T,D7 σ (K+1) (.el 0)= .el nm gx T/\aau T:=by
 have⟨r,hv⟩:=p;have⟨e,he⟩:=Option.isSome_iff_exists.1 hv.ye;have h:D7 σ (K+1) (.el 0)= .el e.name e.gO (e.kids.map (D7 σ K)):=by
  show(match σ.gV 0 with|some e=>Tn.el e.name e.gO (e.kids.map (D7 σ K))|none=>CQ)=_
  rw[he]
 have j:=ail ⟨r,hv⟩ (K+1) 0;have k:=agT q (K+1) (.el 0);rw[h]at j k;have m:TsG (wt σ) (e.kids.map (D7 σ K)):=k.2.2.2;have u:1+szS (e.kids.map (D7 σ K))<=1+wt σ:=j;refine⟨_,_,_,h,λt=>?_,?_⟩
 .have⟨g1,g2,_⟩:=O4 o t _ m;grind
 .have⟨_,_,g3⟩:=O4 o (λ_=>false) _ m;grind[qD]
def TX (s:fY) (X:Told):Prop:=(∃c p,Ow s 64 32 16 c p/\X=⟨c,p,[],⟨#[]⟩,[]⟩)\/∃nm gx T L,Ov s 64 32 16 (.el nm gx T) L/\aau T/\X=⟨0,s.size,qD T,Bw T,L⟩
def TX.one (m:s.size<=1024) {X : Told} (h:TX s X):∀w,W4 w->Calls prog 6 #[gu s,fV 64,fV 32,fV 16,ji] w (Oq w X):=by
 intro w j;rcases h with⟨c,p,k,rfl⟩|⟨nm,gx,T,L,k,o,rfl⟩
 .exact Vi s 64 32 16 w m (by omega) (by omega) (by omega) j.tab j.gl k j.er j.el
 .exact Vh s 64 32 16 w m (by omega) (by omega) (by omega) j.tab j.gl k o
def YH (s:fY) (w:gm) (j:1024 < s.size) (h:s.size<=140737488355328):
  Calls prog 4 #[gu s] w λe w'=>e=ig (.tuple #[.agg #[fV 0,fV 0,ji,gu jB,ji],.bool false,.bool true])/\Kept [] w w':=by
 go_enter func4,ntmps4;go_wp2;refine ou (v:= .tuple #[.agg #[fV 0,fV 0,ji,gu jB,ji],.bool false,.bool true]) ?_ rfl ⟨rfl,?_⟩
 .simp[results,results4,asAddr,Result.andThen,go_sem]
 .exact(Kept.refl [] w).alloc _
def aiJ (w:gm) (X:Told) (e:Ending) (w':gm):Prop:=∃p j h k m o,e=ig (.tuple #[.agg #[fV X.c,fV X.p,.slice p j h,gu X.X1,.slice k m o],.bool (decide (X.c=0)),.bool true])/\(X.c=0->w'.ownsRow w.heap.size 72 3 (.slice k m o) X.sps.length (lp X.sps)/\w'.ownsRow w.heap.size 34 3 (.slice p j h) X.oi.length (tj X.oi))/\Kept [] w w'
theorem ahh (s:fY) (w:gm) (hs:s.size<=1024) (hw:W4 w) {X : Told} (hX:(X.c≠0/\X.p<=s.size/\X.oi=[]/\X.X1=⟨#[]⟩/\X.sps=[])\/X.c=0) (hC:∀w,W4 w->Calls prog 6 #[gu s,fV 64,fV 32,fV 16,ji] w (Oq w X)):
  Calls prog 4 #[gu s] w (aiJ w X):=by
 obtain⟨G,y⟩:∃G,G=w.alloc (.cells #[fV 0,fV 0,ji,gu jB,ji] 26):=⟨_,rfl⟩;have k0:Kept [] w G:=by rw[y];exact(Kept.refl _ _).alloc _
 have z0:G.heap.size=w.heap.size+1:=by rw[y];simp
 have r0:G.heap[w.heap.size]?=some (gz #[fV 0,fV 0,ji,gu jB,ji] 26):=by rw[y];exact fP w _
 have CR:=fM (hC G (hw.kept k0));have HW:=fM y.symm;have H:=fM k0;have HR:=fM r0;have HZ:=fM z0;have HX:=fM hX;clear y k0 r0 z0 hw hC hX;go_enter func4,ntmps4;go_wp21;rw[HW.out];refine CR.out.mono ?_;rintro e w1 ⟨Y,Z,I,K,tb,N,rfl,q,t,o⟩;have⟨c,p,oi,X1,sps⟩:=X;dsimp only at q t|-;rcases HX.out with⟨F,hp,hi,ht,J⟩|F
 .dsimp only at F hp hi ht J;subst hi ht J;have k:Z=0:=by have⟨_,_,e0⟩:=gw q;exact(Value.slice.inj e0).2.1
  have a2:tb=0:=by have⟨_,_,e0⟩:=gw t;exact(Value.slice.inj e0).2.1
  subst k a2;have a4:(c:Int)≠0:=by omega
  have a5:(p:Int)<=(s.size:Int):=by omega
  have j:=o.at HR.out (by simp);have O:=fN j 0;have Q:=fN j 1;have T:=fN j 2;have U:=fN j 3;have V:=fN j 4;have j0:=gh j 0;have j1:=gh j 1;have j2:=gh j 2;have j3:=gh j 3;have j4:=gh j 4;dsimp at O Q T U V;have A:=iQ j;have E:w.heap.size≠w1.heap.size:=by omega
  have x:w1.heap.size≠w.heap.size:=by omega
  have z:=fM (H.out.trans o);have a3:=fM F;clear o j q t F CR;go_wp21;go_region
  all_goals (try go_wp2)
  all_goals
   refine ou (v:= .tuple #[.agg #[fV c,fV p,.slice Y 0 I,gu jB,.slice K 0 N],.bool false,.bool true]) ?_ rfl ⟨Y,0,I,K,0,N,?_,?_,?_⟩
   .simp[results,results4,asAddr,Result.andThen,go_sem,O,Q,T,U,V,E,x,A]
   .simp_all
   .grind
   .have m:=z.out
    first
     |exact(((((((m.setCell (.inr (gL _)) _).setCell (.inr (gL _)) _).setCell (.inr (gL _)) _).setCell (.inr (gL _)) _).setCell (.inr (gL _)) _).alloc _).drew)
     |exact(((((((m.setCell (.inr (gL _)) _).setCell (.inr (gL _)) _).setCell (.inr (gL _)) _).setCell (.inr (gL _)) _).setCell (.inr (gL _)) _).drew).alloc _)
     |exact(((((((m.alloc _).drew.setCell (.inr (gL _)) _).setCell (.inr (gL _)) _).setCell (.inr (gL _)) _).setCell (.inr (gL _)) _).setCell (.inr (gL _)) _))
 .dsimp only at F;subst F;have j:=o.at HR.out (by simp);have O:=fN j 0;have Q:=fN j 1;have T:=fN j 2;have U:=fN j 3;have V:=fN j 4;have j0:=gh j 0;have j1:=gh j 1;have j2:=gh j 2;have j3:=gh j 3;have j4:=gh j 4;dsimp at O Q T U V;have A:=iQ j;have E:w.heap.size≠w1.heap.size:=by omega
  have x:w1.heap.size≠w.heap.size:=by omega
  have z:=fM (H.out.trans o);have a1:=fM t;have a0:=fM q;have k:(Value.slice Y Z I).ownBlock≠some w.heap.size:=λh=>by have:=(q.lt _ h).1;have:=HZ.out;omega
  have u:(Value.slice K tb N).ownBlock≠some w.heap.size:=λh=>by have:=(t.lt _ h).1;have:=HZ.out;omega
  clear o j q t CR;go_wp2;refine ou (v:= .tuple #[.agg #[fV 0,fV p,.slice Y Z I,gu X1,.slice K tb N],.bool true,.bool true]) ?_ rfl ⟨Y,Z,I,K,tb,N,rfl,?_,?_⟩
  .simp[results,results4,asAddr,Result.andThen,go_sem,O,Q,T,U,V,E,x,A]
  .intro _;have:=HZ.out;exact⟨jM (World.ownsRow.alloc (rq (rq (rq (rq (rq a1.out u _) u _) u _) u _) u _) _) (by omega),
    jM (World.ownsRow.alloc (rq (rq (rq (rq (rq a0.out k _) k _) k _) k _) k _) _) (by omega)⟩
  .have m:=z.out;exact((((((m.setCell (.inr (gL _)) _).setCell (.inr (gL _)) _).setCell (.inr (gL _)) _).setCell (.inr (gL _)) _).setCell (.inr (gL _)) _).alloc _)
theorem aaQ (h:a<=b):(gx s a).length<=(gx s b).length:=by
 induction b with
 |zero=>grind
 |succ b ih=>
  rcases pJ b a with j|j
  .grind
  .have:=ih j;cases hk:vL s b
   .rw[OJ hk];omega
   .rw[BO hk];grind
theorem ad6 {j : Nat}:j < (gx s n).length->∃c,c < n/\vL s c=true/\(gx s c).length=j/\(gx s n)[j]?=some c:=by
 induction n with
 |zero=>simp[gx]
 |succ n ih=>
  intro h;cases hk:vL s n
  .rw[OJ hk]at h|-;grind
  .rw[BO hk]at h|-;grind
theorem aa9 {j : Nat} (h:j < (uC s).size):∃c,c < s.size/\vL s c=true/\(gx s c).length=j/\j5 s j=c/\bt (uC s) j=UA s c:=by
 rw[uO]at h;have⟨c,h1,h2,h3,h4⟩:=ad6 h;refine⟨c,h1,h2,h3,?_,?_⟩
 .grind[j5]
 .have k:j < (uC s).size:=by rw[uO];exact h
  unfold bt;rw[Qz k];show(((((gx s s.size).map (chB s)).toArray)[j]'(by grind)).toNat:Int)=_;have e:(gx s s.size)[j]=c:=by rw[qs h]at h4;exact jv h4
  simp only[List.getElem_toArray,List.getElem_map,e];exact Nb s c
def JS (s:fY):j5 s (uC s).size=s.size:=by
 unfold j5;rw[uO,xX,GJ (gL _)];simp
def ahr {j : Nat} (m:i < j) (o:j<=(uC s).size):j5 s i < j5 s j:=by
 have⟨c,h1,_,h3,h4,_⟩:=aa9 (s:=s) (j:=i) (by omega);rw[h4];rcases pJ j (uC s).size with k|k
 .have⟨d,_,_,g3,g4,_⟩:=aa9 k;rw[g4];rcases pJ c d with h|h
  .exact h
  .have:=aaQ (s:=s) h;omega
 .have:j=(uC s).size:=by omega
  rw[this,JS];exact h1
def ahq (h:i<=(uC s).size):j5 s i<=s.size:=by
 rcases pJ i (uC s).size with j|j
 .have:=ahr j (gL _);rw[JS]at this;omega
 .have:i=(uC s).size:=by omega
  rw[this,JS];simp
def PT (o:s.size<=1024) (k:d<=64) (m:f<=32) {p : Nat} (h:Bl d f l s= .stop c p):p<=s.size:=by
 have j:=Gv d f l s o k m;rw[h]at j;obtain⟨q,_,t,rfl⟩:=j;exact ahq t
def WX:∀(h:List Ev) (x:List UInt8×Bool),x.1.length<=(h.foldl pi x).1.length
 |[],_=>gL _
 |e::h,x=>jH (by cases e<;>simp[pi]) (WX h _)
def WY {gx : la}:∀(j:List Ev) (x:List UInt8×Bool),Ev.enter s gx∈j->0 < (j.foldl pi x).1.length
 |[],_,h=>by cases h
 |e::j,x,h=>by
  rcases List.mem_cons.1 h with rfl|h
  .exact lU (by simp[pi,U0,jw];omega) (WX j _)
  .exact WY j _ h
theorem Q5:∀gx:la,(∀a∈gx,a.1.size<=5000/\a.2.size<=66000)->(Dl gx).length<=gx.length*6000000
 |[],_=>gL _
 |a::gx,h=>by
  have k:=Q5 gx λb j=>h b (nc _ j);have⟨h2,h3⟩:=h a (kK ..);have m:=RA a.2;have e:Dl (a::gx)=jw [AA,a.1,rB,zD a.2,nZ]++Dl gx:=rfl;have e2:(jw [AA,a.1,rB,zD a.2,nZ]).length=1+a.1.size+2+(zD a.2).size+1:=by simp[jw];omega
  grind
theorem aah (x:List UInt8×Bool) (e:Ev) (h:xC e=true):(pi x e).1.length<=x.1.length+LL e:=by
 cases e with
 |tx s=>
  have j:=Kd s;have e1:(A0 s).data.size=(A0 s).size:=rfl;have e2:s.data.size=s.size:=rfl;grind[pi,LL]
 |enter s gx=>
  simp only[xC,pW,BC,LV]at h;have⟨⟨j,h2⟩,h3⟩:=h;have m:=Q5 gx λa k=>h2 a k;have o:gx.length*6000000<=16*6000000:=Nat.mul_le_mul_right _ j;have e1:s.data.size=s.size:=rfl;simp only[pi,LL,oj,U0,jw,DY,vn,Qt,uI,e1];grind
 |_ s=>
  simp only[xC,BC]at h;have e1:s.data.size=s.size:=rfl;simp only[pi,LL,oj,jw,DY,vn,Qt,uI,e1];simp;omega
theorem RQ:∀(j:List Ev) (x:List UInt8×Bool),(∀e∈j,xC e=true)->(j.foldl pi x).1.length<=x.1.length+uD j
 |[],_,_=>gL _
 |e::j,x,h=>by
  have m:=RQ j (pi x e) λa k=>h a (nc _ k);have o:=aah x e (h e (kK ..));grind[uD]
theorem kinds:∀(j:List Ev),∀a∈jI j,a.k=1\/a.k=2\/a.k=3\/a.k=4\/a.k=5\/a.k=6:=by
 intro j a k;obtain⟨e, -,h⟩:=List.mem_flatMap.1 k;cases e with
 |enter s gx=>
  rcases List.mem_cons.1 h with rfl|h
  all_goals grind
 |_ s=>cases List.mem_singleton.1 h;simp
theorem abc {r : Nat->Nat} (k:jx r σ) (o:∀i e,σ.gV i=some e->e.je=none->i=0):∀(n i:Nat) (e:yp),σ.gV i=some e->i≠0->r i < n->∃m j,σ.gV 0=some m/\j∈iD m.kids
 |0,_,_,_,_,h=>by cases h
 |n+1,i,e,he,h0,hn=>by
  cases hp:e.je with
  |none=>grind
  |some p=>
   have⟨ep,h1,h2⟩:=k.oA.up i e p he hp;by_cases q:p=0
   .grind
   .exact abc k o n p ep h1 q (by have:=k.ur.je i e p he hp;omega)
structure ag6 (X:Told):Prop where
 Uv:X.oi.length<=1000000000
 ne:X.oi≠[]
 tz:X.X1.size<=140737488355328
 tn:0 < X.X1.size
 kd:∀a∈X.oi,a.k=1\/a.k=2\/a.k=3\/a.k=4\/a.k=5\/a.k=6
 law:(NM jU X.oi ([],false)).1=X.X1.data.toList
def ajj (s:fY) (h:jU s=true):(s.toList==[115,116,121,108,101])=false:=by
 rw[Gn]at h;have:=R4 h;simp only[vdL,kU,Al,yC]at this;rcases this with rfl|rfl|rfl|rfl|rfl|rfl<;>decide+kernel
theorem aim (s:fY) (F:s.size<=1024):∃X,((X.c≠0/\X.p<=s.size/\X.oi=[]/\X.X1=⟨#[]⟩/\X.sps=[])\/(X.c=0/\ag6 X))/\TX s X:=by
 have t:=Gv 64 32 16 s F (by omega) (by omega);cases h:Bl 64 32 16 s with
 |stuck=>rw[h]at t;exact t.elim
 |stop c p=>
  refine⟨⟨c,p,[],⟨#[]⟩,[]⟩,.inl ⟨S9 64 32 16 s F (by omega) h,PT F (by omega) (by omega) h,rfl,rfl,rfl⟩,.inl ⟨c,p,λtv m w Z u Q=>?_,rfl⟩⟩;exact(N5 s tv m 64 32 16 w Z F (by omega) (by omega) (by omega) u Q).mono (λe w' z=>by grind)
 |done fin L=>
  rw[h]at t;have⟨g1,g2,_,_,_,V,hn⟩:=t;have N:=ZN 64 32 16 s F (by omega) h;have hw:wt fin<=595500:=by
   have o:wt fin<=FV fin:=GM _ _;have O:=aaA (d:=64) (f:=32) (l:=16) (a:=0);have q:=I8 s;have h4:(uZ s ((16:Nat):Int) .nilFunc 0).cs.size=(uC s).size:=rfl;omega
  have⟨K,hK0,hK⟩:=Z8 g1.iv;have⟨nm,gx,T,u,hD⟩:=abb g1.iv N hw K;have hv:=agU (acP 64 32 16 s h) (K+1) (.el 0);have U:∃G H k2,Tn.el G H k2∈T:=by
   have⟨r,z⟩:=g1.iv;have Y:fin.gq≠[]:=by
    rcases g1.ms.1 with o|⟨_,_,o,_⟩|⟨_,_,o⟩
    .rcases o with⟨O,_⟩|⟨_,x,q⟩|⟨_,x,y,q,_⟩|⟨_,x,y,q,_⟩|⟨_,q⟩
     .rcases V with V|⟨V,_⟩<;>omega
     all_goals grind
    .grind
    .exact o
   have⟨x,rest,e⟩:=List.exists_cons_of_ne_nil Y;obtain⟨c,rfl,hc⟩:=z.Mc x rest e;have h0:iV fin 0 ⟨#[]⟩:=hn 0 ⟨#[]⟩ ⟨_,rfl,rfl⟩;have⟨ec,hec,hnc⟩:=id hc;have⟨e0,j,he0,hj⟩:=abc z (λi e he hp=>(N.2.2 i e he hp).elim id (λh=>by cases h)) (r c+1) c ec hec (λe=>by subst e;have⟨a,g1,g2⟩:=h0;grind) (by omega);have⟨ej,hej,_⟩:=z.oA.dn 0 e0 j he0 hj;have h5:D7 fin (K+1) (.el 0)= .el e0.name e0.gO (e0.kids.map (D7 fin K)):=by
    show(match fin.gV 0 with|some e=>Tn.el e.name e.gO (e.kids.map (D7 fin K))|none=>CQ)=_
    rw[he0]
   rw[h5]at u;cases u;cases K with
   |zero=>cases hK0
   |succ K=>exact⟨ej.name,ej.gO,ej.kids.map (D7 fin K),List.mem_map.2 ⟨.el j,xb.1 hj,by grind[D7]⟩⟩
  rw[u]at hK hv;refine⟨⟨0,s.size,qD T,Bw T,L⟩,.inr ⟨rfl,?_⟩,.inr ⟨nm,gx,T,L,λtv m w Z u Q=>?_,hD,rfl⟩⟩
  .have J:(NM jU (qD T) ([],false))=M4 (sA jU T):=by
    unfold qD M4;rw[uS,Pp ajj T _ hv.2]
   have⟨G,H,k2,hm2⟩:=U;have I:∀vd,Ev.enter G H∈sA vd T:=λvd=>by
    obtain⟨A,B,rfl⟩:=List.append_of_mem hm2;have e:∀A:List Tn,Ev.enter G H∈sA vd (A++ .el G H k2::B):=by
     intro A
     induction A with
     |nil=>simp[sA,D6]
     |cons a A ih=>grind[sA]
    exact e A
   refine⟨hD.2,?_,?_,?_,kinds _,?_⟩
   .intro e;have:(⟨4,G,⟨#[]⟩⟩:It)∈qD T:=List.mem_flatMap.2 ⟨_,I _,kK ..⟩;grind
   .have o:=RQ (sA jU T) ([],false) (hD.1 jU).1;have O:=(hD.1 jU).2;have q:(Bw T).size=(M4 (sA jU T)).1.length:=by unfold Bw;simp[ByteArray.size];rfl
    show(Bw T).size<=_;rw[q];grind[M4]
   .have o:=WY (sA jU T) ([],false) (I jU);have q:(Bw T).size=(M4 (sA jU T)).1.length:=by unfold Bw;simp[ByteArray.size];rfl
    show 0 < (Bw T).size;rw[q];exact o
   .show(NM jU (qD T) ([],false)).1=(Bw T).data.toList;rw[J];rfl
  .refine(N5 s tv m 64 32 16 w Z F (by omega) (by omega) (by omega) u Q).mono λe w' z=>?_;rw[h]at z;have⟨v,k,E,fl,o,O,q,h4,h5,h6⟩:=z;grind[ago]
theorem T6 (s:fY) (w:gm) (V:s.size<=140737488355328) (E:W4 w):
  Calls prog 3 #[gu s] w λe w'=>e=ig (.bool true)/\Kept [] w w':=by
 by_cases k:1024 < s.size
 .have C:=fM (YH s w k V);clear E;go_enter func3,ntmps3;go_wp21;refine C.out.mono ?_;rintro e F ⟨rfl,h⟩;have o:=fM (h.alloc (.cells #[fV 0,fV 0,ji,gu jB,ji] 26));clear h C;go_wp2;go_ret;exact⟨rfl,o.out⟩
 .have⟨X,hX,hTX⟩:=aim s (by omega);have H:=hTX.one (by omega);have C:=fM (ahh s w (by omega) E (hX.imp id And.left) H);have G:=fM hX;clear E H hX hTX;go_enter func3,ntmps3;go_wp21;refine C.out.mono ?_;rintro e F ⟨O,I,z,J,K,N,rfl,j,h⟩;have⟨c,p,oi,X1,sps⟩:=X;dsimp only at j|-;rcases G.out with⟨m, -⟩|⟨m,U⟩
  .dsimp only at m;rw[wy m];have o:=fM (h.alloc (.cells #[fV c,fV p,.slice O I z,gu X1,.slice J K N] 26));clear h C j m;go_wp2;go_ret;exact⟨rfl,o.out⟩
  .dsimp only at m;subst m;replace j:=(j rfl).2;rw[vQ rfl];have x:Kept [] F (F.alloc (.cells #[fV 0,fV p,.slice O I z,gu X1,.slice J K N] 26)):=(Kept.refl _ _).alloc _;have o:=fM (h.trans x);have⟨f1,f2,f3,f4,f5,f6⟩:=U;dsimp only at f1 f2 f3 f4 f5 f6;rcases j.2 with⟨e1,Y⟩|⟨g,cap,T,e1,A,q,_⟩
   .grind
   .obtain⟨rfl,rfl,rfl⟩:=Value.slice.inj e1;have t:=iQ q;have Q:=fM (ab7 g z oi X1 _ ((ab1 j).kept x t) (lU t x.size) f1 f3 f5 f6);have Z:(0:Int) < (X1.size:Int):=by omega
    clear h C j x A q e1 G f1 f2 f3 f5 f6 f4;go_wp21;refine Q.out.mono ?_;rintro e w2 ⟨rfl,u⟩;have y:=fM (o.out.trans u);clear u;go_wp2;go_ret;exact⟨rfl,y.out⟩
end
end Go.Proofs.YthcohfdidcdchaaGreatDoor
