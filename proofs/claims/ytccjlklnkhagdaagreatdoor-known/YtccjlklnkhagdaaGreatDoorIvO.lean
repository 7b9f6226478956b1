import Derived.Test.YtccjlklnkhagdaaGreatDoorRdN
set_option linter.unusedSimpArgs false
set_option linter.unusedVariables false
set_option linter.defProp false
set_option maxHeartbeats 0
set_option maxRecDepth 100000
namespace Go.Proofs.YtccjlklnkhagdaaGreatDoor
open Go.RowKit Go.PlainAid Go.Extern.Stop Go.Stop Go.Extern Tryz
def NZ:=@Nat.le_mul_of_pos_left
def wo:=@List.flatMap_cons
def Fa:=@List.flatMap_nil
section
variable {A W w w' wl : gr} {B a b base bg bx c d f i l lg m n ps sz : Nat} {D : Tn} {L : List Sp} {P : pC Unit->Prop} {R : RC} {S : List Nat} {gx : lh} {cut r : Nat->Nat} {e : TypeId} {lk : Bool} {look : gn->Option gn} {nm s : gn} {o : Ru} {sp : mB} {t : gz} {v : gG} {vv : gG×Bool} {xs : List gG} {σ σ' : Ab}
def aar {l : List Ru} {R : List (List gn×Ru)} (k:t.k≠ .lost) (j:xV[m]?=some sp) (e:jX sp t=kq ((oW R nm).getD .nil::l)) (x:∀p∈R,p.2≠ .nil) (u:RB c σ (pk lk (gR true n) (gR lk n) (kq l) t σ)) (q:∀p∈R,hH p.1 nm=true->RB c σ (pk lk (gR true n) (gR lk n) p.2 t σ)):RB c σ (gR lk (n+1) m t σ):=by
 cases hl:oW R nm with
 |none=>
  rw[iD lk n m t k sp j (kq l) (by rw[e,hl];rfl)];exact u
 |some r=>
  obtain⟨p,h,y,rfl⟩:=vu hl;have g:=x p h;rw[iD lk n m t k sp j p.2 (by
   rw[e,hl];show kq (p.2::_)=p.2;cases hq:p.2<;>first|rfl|exact absurd hq g)]
  exact q p h y
def Yz (h:t.k≠ .lost) (j:xV[m]?=some sp) (g:RB c σ (pk lk (gR true n) (gR lk n) (jX sp t) t σ)):RB c σ (gR lk (n+1) m t σ):=by
 rw[iD lk n m t h sp j _ rfl];exact g
def Le {rec:Nat->gz->M Unit} (h:rq σ) (z:∀σ',rq σ'->wt σ'=wt σ->σ'.fresh=σ.fresh->RB c σ' (rec 6 t σ')):RB c σ (sL rec t σ):=by
 have x:=z {σ with iL:=true} ⟨h.iv.mq rfl rfl rfl rfl rfl rfl rfl,h.ne,h.md⟩ rfl rfl;have y:=RB.then x (λσ=>{σ with iL:=false}) (λ_=>⟨rfl,rfl,rfl,rfl,rfl,rfl,rfl,rfl,rfl,rfl,rfl,rfl⟩);show RB c σ ((rec 6 t>>=λ_=>wm (λσ=>{σ with iL:=false})>>=λ_=>(Pure.pure ():M Unit)) {σ with iL:=true});revert y;cases(rec 6 t>>=λ_=>wm (λσ=>{σ with iL:=false})>>=λ_=>(Pure.pure ():M Unit)) {σ with iL:=true} with
 |ok u σ2=>rintro⟨j,k,g,q⟩;exact⟨j,k,⟨g.gH,g.pL,g.qH,g.oO,g.wt,g.wz,g.nm⟩,q⟩
 |stop c p=>exact λh=>h
 |stuck=>exact λh=>h
def XN {g:M Unit} (h:rq σ) (j:RB c σ (g σ)):RB c σ (J9 g t σ):=by
 unfold J9;split
 .exact j
 .exact(rK h.iv h.Wp).mono (iP _)
theorem yz {rec:Nat->gz->M Unit} (h:rq σ) (H:wt σ < 999000) (ks:List gn) (g:gn) (m:Nat) (x:pT m=true) (y:∀σ',rq σ'->σ'.mode=m->wt σ'<=wt σ+1->σ'.fresh=σ.fresh->RB c σ' (rec m t σ')):RB (c+1) σ (pF rec ks g m t σ):=by
 unfold pF;refine RB.bind (wI h.iv (hH ks)) (c2:=c+1) ?_ (by omega);rintro _ G z p I E;refine RB.bind (rJ z (p.ne h.ne) (by omega) g) (c2:=c) ?_ (by omega);rintro _ k C u J ⟨j,q,F⟩;refine yL (y {k with mode:=m} ⟨C.mq rfl rfl rfl rfl rfl rfl rfl,u.ne (p.ne h.ne),x⟩ rfl ?_ ?_)
 .grind[wt]
 .show k.fresh=_;rw[F,E.fresh]
def Dn (h:σ.waiting.length < 4096):oC ⟨a,b,.jW s,gx⟩ σ= .ok () (if sM s then σ else {σ with waiting:=σ.waiting++[(a,b,s)]}):=by
 unfold oC;simp only;cases sM s with
 |true=>rfl
 |false=>simp[h]
def G9 (h:rq σ) (k:s.size<=100) (z:wt σ < 999000) (q:σ.waiting.length < 4000) (g:σ.mode=7\/σ.mode=11\/σ.mode=12):RB 360 σ (oQ (gR false (n+4)) ⟨a,b,.jW s,gx⟩ σ):=by
 unfold oQ;split
 .show RB 360 σ ((jM (gR false (n+4)) ⟨a,b,.jW s,gx⟩>>=λ_=>(Pure.pure ():M Unit)) {σ with kept:=σ.mode,mode:=8});refine RB.mono (c:=0) ?_ (by omega);have e:gR false (n+4) 8 ⟨a,b,.jW s,gx⟩=oC ⟨a,b,.jW s,gx⟩:=iD false (n+3) 8 _ (by intro e;cases e) kJ rfl (.gZ 126) (by
   unfold jX;dsimp only;split<;>rfl)
  show RB 0 σ ((gR false (n+4) 8 ⟨a,b,.jW s,gx⟩>>=λ_=>(Pure.pure ():M Unit)) {σ with kept:=σ.mode,mode:=8});rw[e];have u:mN {σ with kept:=σ.mode,mode:=8}:=h.iv.mq rfl rfl rfl rfl rfl rfl rfl;rw[M.gm,Dn (show({σ with kept:=σ.mode,mode:=8}:Ab).waiting.length < 4096 by show σ.waiting.length < 4096;omega)];cases sM s with
  |true=>exact⟨u,⟨h.ne,.inr (.inr ⟨rfl,g⟩)⟩,⟨rfl,rfl,rfl,rfl,ly _,λ_ h=> .inl h,λ_ _ h=>h⟩,nf (jh rfl)⟩
  |false=>exact⟨h.iv.mq rfl rfl rfl rfl rfl rfl rfl,⟨h.ne,.inr (.inr ⟨rfl,g⟩)⟩,⟨rfl,rfl,rfl,rfl,by show(σ.waiting++[(a,b,s)]).length<=_;simp,λx j=>by
    rcases List.mem_append.1 (show x∈σ.waiting++[(a,b,s)]from j)with j|j
    .exact .inl j
    .rw[List.mem_singleton.1 j];exact .inr k,λ_ _ h=>h⟩,nf (jh rfl)⟩
 .refine RB.tail (Le h ?_);intro σ' p w' y;exact Cs false (n+1) ⟨a,b,.jW s,gx⟩ ⟨k,rfl,by intro e;cases e⟩ p (λh=>by cases h) (by omega)
structure CX (L:Nat) (t:gz) (σ:Ab):Prop where
 tg:uA t
 h:rq σ
 hf:GL σ t
 hw:wt σ < 998000
 hwt:σ.waiting.length < 4000
 hl:σ.gq.length<=L
def PL (L n:Nat):Prop:=∀t σ,CX L t σ->RB 370 σ (gR false n σ.mode t σ)
def PL.ahead {L : Nat} (k:PL L n) (c:CX (L+1) t σ) {b:M Bool} (p:vD b):RB 370 σ (wY (gR false n) b t σ):=
 have⟨tg,h,hf,hw,hwt,hl⟩:=c
 WQ p h (λσ' j x w' g u _=>k t σ' ⟨tg,j,(λq=>g.trans (hf q)),by omega,by rw[u];exact hwt,by omega⟩)
def Tq (n a b:Nat) (nm:gn) (gx:lh) (k:nm=il\/nm=im) (h:rq σ) (g:nM σ ⟨a,b,.start nm,gx⟩) (j:wt σ < 999000):RB 1 σ (gR false (n+1) 12 ⟨a,b,.start nm,gx⟩ σ):=by
 rcases k with rfl|rfl
 .rw[iD false n 12 _ (by simp) Af rfl (.gZ 133) (by kernel_rfl)];exact yQ h j g
 .rw[iD false n 12 _ (by simp) Af rfl (.gZ 133) (by kernel_rfl)];exact yQ h j g
def adp (n a b:Nat) (nm:gn) (gx:lh) (j:nm∈[il,im,gX]) (h:rq σ) (k:nM σ ⟨a,b,.start nm,gx⟩) (x:wt σ < 998900):RB 2 σ (gR false (n+2) 11 ⟨a,b,.start nm,gx⟩ σ):=by
 simp only[se,sg,sV]at j;have g:nm=il\/nm=im->RB 2 σ (pF (gR false (n+1)) [fW,fX,fY] gX 12 ⟨a,b,.start nm,gx⟩ σ):=λu=>
  yz (c:=1) h (by omega) _ _ 12 rfl (λσ' q y w' p=>Tq n a b nm gx u q ⟨rfl,p.trans k.fr⟩ (by omega))
 rcases j with rfl|rfl|rfl
 .rw[iD false (n+1) 11 _ (by simp) oI rfl (.nF [fW,fX,fY] gX 12) (by kernel_rfl)];exact g (.inl rfl)
 .rw[iD false (n+1) 11 _ (by simp) oI rfl (.nF [fW,fX,fY] gX 12) (by kernel_rfl)];exact g (.inr rfl)
 .rw[iD false (n+1) 11 _ (by simp) oI rfl (.rp [fW,fX,fY] 12) (by kernel_rfl)];exact(LO h (by omega) k _ 12 rfl).mono (by omega)
def aad (h:mN σ) (g:σ.gq≠[]):∃j,sI σ= .ok j σ/\AV σ j:=by
 have⟨r,hr⟩:=h;have⟨q,e,rest,h1,h2,h3,h4⟩:=hr.first g;exact⟨_,by unfold sI;rw[h2];dsimp only;unfold jt;rw[h3],e,h3,gW _⟩
def YU {L k : Nat} (hP:PL L (k+5)) (c:CX (L+1) t σ) (U:m∈[7,9,10,11,12,13,14,15,16,17]) (J:m=7->σ.mode=7\/σ.mode=11\/σ.mode=12) (h7:m=11\/m=12->RB 370 σ (gR false (k+5) 7 t σ)) (I:m=15->RB 370 σ (gR false (k+5) 14 t σ)):RB 370 σ (gR false (k+6) m t σ):=by
 have Q:=λ{b}=>hP.ahead c (b:=b);obtain⟨x,h,q,hw,K,hl⟩:=c;have g:wt σ < 999000:=by omega
 have j:∀{c r},RB c σ r->c<=370->RB 370 σ r:=RB.mono;have B:RB 370 σ (gR false (k+5) 6 t σ):=j (Cs false (k+2) _ x h q g) (by omega);have T:RB 370 σ (_:pC Unit):=j (yL (rec:=gR false (k+5)) (Cs false (k+2) _ x (h.mode 6 rfl) (λE=>q E) g)) (by omega);have N:=j (rK h.iv h.Wp) (by omega);have F:RB 370 σ (sL (gR false (k+5)) t σ):=j (Le h (λσ' z w' y=>Cs false (k+2) _ x z (λE=>y.trans (q E)) (by omega))) (by omega);have En:=λ{b} (hb:vD b)=>j (Z5 hb h) (by omega);have H:=λ{pm} hq=>j ((Fs h.iv pm hq t g).rb h.ne h.md) (by omega);have X:∀{a b s gx},s.size<=100->m=7->RB 370 σ (oQ (gR false (k+5)) ⟨a,b,.jW s,gx⟩ σ):=λE e=>j (G9 (n:=k+1) h E g K (J e)) (by omega);have Y:∀{a b nm gx},nm=iK->σ.fresh=true->RB 370 σ (gR false (k+5) 3 ⟨a,b,.start nm,gx⟩ σ):=λe q=>j (TA false (k+4) _ _ _ _ (.inr (.inr e)) h q g) (by omega);have Z:∀{a b nm gx G u},nm∈[il,im,gX]->σ.fresh=true->RB 370 σ (pF (gR false (k+5)) G u 11 ⟨a,b,.start nm,gx⟩ σ):=λe q=>j (yz (c:=2) h g _ _ 11 rfl (λσ' z V w' y=>adp (k+3) _ _ _ _ e z ⟨rfl,y.trans q⟩ (by omega))) (by omega);have I2:∀{a b nm gx G u},nm=il\/nm=im->σ.fresh=true->RB 370 σ (pF (gR false (k+5)) G u 12 ⟨a,b,.start nm,gx⟩ σ):=λe q=>j (yz (c:=1) h g _ _ 12 rfl (λσ' z V w' y=>Tq (k+4) _ _ _ _ e z ⟨rfl,y.trans q⟩ (by omega))) (by omega);have I3:∀{a b nm gx G u},nm=ig->σ.fresh=true->RB 370 σ (pF (gR false (k+5)) G u 10 ⟨a,b,.start nm,gx⟩ σ):=λe q=>j (yz (c:=1) h g _ _ 10 rfl (λσ' z V w' y=>by
  rw[e,iD false (k+4) 10 _ (by simp) qO rfl (.gZ 100) (by kernel_rfl)];exact ue z (by omega) ⟨rfl,y.trans q⟩)) (by omega)
 obtain⟨a,b,kk,gx⟩:=t;simp only[se,sg,sV]at U;rcases U with rfl|rfl|rfl|rfl|rfl|rfl|rfl|rfl|rfl|rfl
 all_goals cases kk
 all_goals first
  |exact absurd rfl x.nl
  |refine aar x.nl rfl rfl (by simp) ?_ ?_
  |refine Yz x.nl rfl ?_
 all_goals generalize gR false (k+5)=O at *
 all_goals try (unfold jX;dsimp only)
 all_goals try split
 all_goals try (simp only[List.forall_mem_cons,sg,false_implies,implies_true,and_true];and_intros)
 all_goals try intro C
 all_goals try have p:=q.tag rfl
 all_goals try exact N
 all_goals try exact B
 all_goals try refine Q ?_
 all_goals try refine En ?_
 all_goals try refine XN h (Q ?_)
 all_goals try refine XN h (En ?_)
 all_goals try exact h7 (by simp)
 all_goals try exact I rfl
 all_goals try exact F
 all_goals try exact X x.sz rfl
 all_goals try exact H (Aa h.iv h.ne)
 all_goals try exact H (My h.iv)
 all_goals try exact H (aad h.iv h.ne)
 all_goals try exact j (A8 h g x.sz) (by omega)
 all_goals try exact j (Ga h g x.sz) (by omega)
 all_goals try first
  |exact RK
  |exact MB
  |exact D9
  |exact Hr
  |exact Xs
  |exact U3
  |exact OM
 all_goals try exact Z (MN C) p.fr
 all_goals try exact I2 (ad2 C) p.fr
 all_goals try exact I3 (Ie C) p.fr
 all_goals try exact j (LO h g p _ _ rfl) (by omega)
 all_goals try exact Y (Ie C) p.fr
 .show RB 370 σ ((if we _ then kH O _ else stuck:M Unit) σ);rw[gN x.sm];unfold kH;split
  .exact j (RB.tail (ue h g p)) (by omega)
  .exact RB.tail F
 .exact j (AY h g p (Ie C)) (by omega)
 .exact j (Gk h g p) (by omega)
 .exact j (ue h g p) (by omega)
 .exact j (yQ h g p) (by omega)
 .exact j (Ca h g p) (by omega)
 .exact j (xj h g p) (by omega)
 .exact j (yR h g p) (by omega)
 .exact j (zL h) (by omega)
 .exact j (yw h) (by omega)
 iterate 3 exact T
 .exact j (c:=0) ⟨h.iv.mq rfl rfl rfl rfl rfl rfl rfl,⟨h.ne,.inl rfl⟩,⟨rfl,rfl,rfl,rfl,ly _,λ_ h=> .inl h,λ_ _ h=>h⟩,nf (jh rfl)⟩ (by omega)
 all_goals exact T
def Fm (h:pT m=true):m=6\/m∈[7,9,10,11,12,13,14,15,16,17]:=by
 unfold pT at h;simp at h|-;omega
def GM:∀(L n:Nat),4*L+8<=n->PL L n
 |0,n,_=>by
  intro t σ c;exact absurd (List.length_eq_zero_iff.1 (by have:=c.hl;omega)) c.h.ne
 |L+1,n,hn=>by
  intro t σ c;obtain⟨k,rfl⟩:∃k,n=k+7:=⟨n - 7,by omega⟩;have g:PL L (k+5):=GM L _ (by omega);have S:=λm p j=>YU (m:=m) g c p j;rcases Fm c.h.md with e|e
  .rw[e];exact(Cs false (k+4) t c.tg c.h c.hf (by have:=c.hw;omega)).mono (by omega)
  .refine YU (GM L (k+1+5) (by omega)) c e (λh=> .inl h) (λh=>S 7 (by simp) (λ_=> .inr h) (λh=>by cases h<;>contradiction) (λh=>by cases h)) (λ_=>S 14 (by simp) (λh=>by cases h) (λh=>by cases h<;>contradiction) (λh=>by cases h))
def HS (m:Nat) (o:kL) (g:jb):Prop:=
 (m<=1/\o=[]/\g=none)\/(m=2/\∃h,o=[some h])\/(m=3/\∃h d,o=[some h,some d]/\g=some d)\/(m=4/\∃h d,o=[some h]/\g=some d)\/(pT m=true/\o≠[])
def B3 (σ:Ab):Prop:=(∃d,iT σ d gL)/\∃b,iT σ b gp
def BH (σ:Ab):Prop:=6<=σ.mode\/σ.mode=5/\6<=σ.kept->B3 σ
def B3.of (h:B3 σ) (nm:∀i s,iT σ i s->iT σ' i s):B3 σ':=⟨h.1.imp λ_=>nm _ _,h.2.imp λ_=>nm _ _⟩
def BH.of (h:BH σ) (j:σ'.mode=σ.mode) (g:σ'.kept=σ.kept) (nm:∀i s,iT σ i s->iT σ' i s):BH σ':=λq=>(h (by omega)).of nm
def BH.low (h:σ.mode<=4):BH σ:=λq=>by omega
def MS0 (σ:Ab):Prop:=HS σ.mode σ.gq σ.head\/(σ.mode=5/\3<=σ.kept/\2<=σ.gq.length/\HS σ.kept σ.gq.dropLast σ.head)\/(σ.mode=8/\(σ.kept=7\/σ.kept=11\/σ.kept=12)/\σ.gq≠[])
def MS (σ:Ab):Prop:=MS0 σ/\BH σ
def RG (c:Nat) (σ:Ab) (r:pC Unit):Prop:=match r with
 | .ok _ σ'=>mN σ'/\MS σ'/\Lm σ σ'/\wt σ'<=wt σ+c
 | .stop _ p=>p=σ.gH
 | .stuck=>False
theorem RG.mono {c' : Nat} {r : pC Unit} (h:RG c σ r) (g:c<=c'):RG c' σ r:=by
 cases r with
 |ok a σ'=>grind[RG]
 |stop e p=>exact h
 |stuck=>exact h
def Cr (h:pT m=true):6<=m:=by have:=Fm h;simp at this;omega
theorem BMs.ms (h:BMs σ) (p:B3 σ):MS σ:=by
 refine⟨?_,λ_=>p⟩;rcases h.sh with g|⟨g,j,k⟩|⟨g,j⟩
 .exact .inl (.inr (.inr (.inr (.inr ⟨g,h.ne⟩))))
 .refine .inr (.inl ⟨g,?_,k,.inr (.inr (.inr (.inr ⟨j,?_⟩)))⟩)
  .have:=Cr j;omega
  .intro e;have:=pJ List.length e;grind
 .exact .inr (.inr ⟨g,j,h.ne⟩)
def RB.rg {r : pC Unit} (h:RB c σ r) (g:B3 σ):RG c σ r:=by
 cases r with
 |ok a σ'=>exact⟨h.1,h.2.1.ms (g.of h.2.2.1.nm),h.2.2.1,h.2.2.2⟩
 |stop e p=>exact h
 |stuck=>exact h
def jr.rg {r : pC Unit} {Q : Unit->Ab->Prop} (h:jr c σ r Q) (g:MS σ) (j:∀σ',Q () σ'->σ'.gq=σ.gq):RG c σ r:=by
 cases r with
 |ok a σ'=>
  have⟨h1,h2,h3,h4⟩:=h;refine⟨h1,⟨?_,g.2.of h2.mode h2.kept h2.nm⟩,h2.lm,h3⟩;unfold MS0;rw[h2.mode,h2.kept,h2.head,j σ' h4];exact g.1
 |stop e p=>exact h
 |stuck=>exact h
def qN (h:mN σ) (g:MS σ):RG 0 σ ((Pure.pure ():M Unit) σ):=⟨h,g,lm0 σ,gW _⟩
def RG.tail {m:M Unit} (h:RG c σ (m σ)):RG c σ ((m>>=λ_=>(Pure.pure ():M Unit)) σ):=by
 rw[M.gm];revert h;cases m σ<;>exact λh=>h
def RG.from {c1 c2 : Nat} {σ1 : Ab} {r : pC Unit} (h:RG c1 σ1 r) (g:Lm σ σ1) (z:σ1.waiting.length<=σ.waiting.length) (k:∀x∈σ1.waiting,x∈σ.waiting) (u:wt σ1<=wt σ+c2) (y:c1+c2<=c):RG c σ r:=by
 cases r with
 |ok a σ'=>
  have⟨h1,h2,h3,h4⟩:=h;exact⟨h1,h2,⟨h3.gH.trans g.gH,h3.pL.trans g.pL,h3.qH.trans g.qH,h3.oO.trans g.oO,by have:=h3.wt;omega,λx j=>(h3.wz x j).imp (k x) id,λi s q=>h3.nm i s (g.nm i s q)⟩,by omega⟩
 |stop e p=>exact y6 h g.gH
 |stuck=>exact h
theorem J6 (h:mN σ) (j:σ.gq≠[]) (t:gz) (q:σ.fresh=true) (k:MS σ):RG 0 σ (oz t σ):=by
 have y:∀(gx:lh) (i:Nat) (σ:Ab),∀σ',qe i gx σ= .ok () σ'->σ'.gq=σ.gq:=by
  intro gx i
  induction gx with
  |nil=>intro σ σ' e;cases e;rfl
  |cons a r ih=>
   intro σ σ' e;rw[Li]at e;split at e
   .cases e
   .split at e
    .grind
    .split at e
     .cases e
     .have:=ih _ σ' e;exact this
 have g:=Dd h j t q;cases hq:oz t σ with
 |ok u σ'=>
  rw[hq]at g;have⟨g1,g2,g3,_⟩:=g;refine⟨g1,⟨?_,k.2.of g2.mode g2.kept g2.nm⟩,g2.lm,g3⟩;have x:σ'.gq=σ.gq:=by
   unfold oz at hq;split at hq
   .rename_i i z;rw[M.gm]at hq;cases hg:vP i t σ with
    |ok u2 σ2=>
     rw[hg]at hq;cases hq;unfold vP at hg;grind
    |stop c p=>grind
    |stuck=>grind
   .cases hq
  unfold MS0;rw[g2.mode,g2.kept,g2.head,x];exact k.1
 |stop c p=>rwa [hq]at g
 |stuck=>rw[hq]at g;exact g.elim
def MP (n a b:Nat) (gx:lh) (h:mN σ) (g:σ.gq≠[]) (j:σ.fresh=true) (k:MS σ):RG 0 σ (gR false (n+1) 6 ⟨a,b,.start fP,gx⟩ σ):=by
 rw[iD false n 6 _ (by intro e;cases e) ku rfl (.gZ 181) (by kernel_rfl)];exact J6 h g _ j k
def Y4 (k:mN σ) (g:σ.gq≠[]) (p:σ.mode=6) (E:uA t) (x:GL σ t) (C:wt σ < 998000) (j:σ.waiting.length < 4000) (z:4*64+8<=n) (u:370<=c) (q:B3 σ):RG c σ (gR false n 6 t σ):=by
 have y:σ.gq.length<=64:=by have⟨r,hr⟩:=k;exact jH hr.wC hr.N2
 have h:=GM 64 n z t σ ⟨E,⟨k,g,by rw[p];rfl⟩,x,C,j,y⟩;rw[p]at h;exact(h.rg q).mono u
theorem Ij (h:mN σ) (k:σ.gq≠[]) (H:wt σ < 998000) (s:gn) (m:Nat) {rec:Nat->gz->M Unit} (E:∀σ',mN σ'->Fx σ {σ' with mode:=σ.mode}->σ'.mode=m->wt σ'<=wt σ+1->σ'.fresh=σ.fresh->(∃j,iT σ' j s)->RG c σ' (rec m t σ')):RG (c+1) σ ((j7 s>>=λ_=>jD m>>=λ_=>jM rec t>>=λ_=>(Pure.pure ():M Unit)) σ):=by
 have z:=rJ h k (by omega) s;rw[M.gm];revert z;cases j7 s σ with
 |ok u σ1=>
  rintro⟨F,g,y,j,q,G⟩;dsimp only;have C:=RG.tail (E {σ1 with mode:=m} (F.mq rfl rfl rfl rfl rfl rfl rfl) (by
   have e:({({σ1 with mode:=m}:Ab)with mode:=σ.mode}:Ab)=σ1:=by rw[<-g.mode]
   grind) rfl y G ⟨j,q.nm⟩)
  exact RG.from (c1:=c) (c2:=1) (σ1:={σ1 with mode:=m}) C ⟨g.gH,g.pL,g.qH,g.oO,by show σ1.waiting.length<=_;rw[g.waiting];omega,by show∀x∈σ1.waiting,_;rw[g.waiting];grind,g.nm⟩ (by show σ1.waiting.length<=_;rw[g.waiting];omega) (by show∀x∈σ1.waiting,_;rw[g.waiting];simp) y (gW _)
 |stop c p=>exact λh=>h
 |stuck=>simp[jr]
def vL (h:mN σ) (u:M (Nat×Nat)) (p:∃j,u σ= .ok j σ/\AV σ j) (t:gz) (x:wt σ < 999000) (g:MS σ):RG 1 σ (nO u t σ):=by
 have⟨a,b,k,gx⟩:=t;cases k with
 |gJ s=>
  have⟨j,h1,h2⟩:=p;show RG 1 σ ((u>>=λj=>oH j (.cm s) .cm>>=λ_=>(Pure.pure ():M Unit)) σ);rw[M.gm,h1];dsimp only;exact RG.tail ((Ez h h2 (.cm s) .cm (.inl ⟨s,rfl,rfl⟩) (by omega)).rg g (λ_ q=>q.gq))
 |jW s=>exact(qN h g).mono (by omega)
 |start s=>exact(qN h g).mono (by omega)
 |stop s=>exact(qN h g).mono (by omega)
 |iH s q=>exact(qN h g).mono (by omega)
 |lost=>exact(qN h g).mono (by omega)
 |ie=>exact(qN h g).mono (by omega)
theorem GH {R : List (List gn×Ru)} (g:sp.start=some R) (q:∀p∈R,p.2≠ .nil) (x:kq [sp.jK,sp.iy]=o) (j:xV[m]?=some sp) (z:∀p∈R,hH p.1 nm=true->P (pk lk (gR true n) (gR lk n) p.2 ⟨a,b,.start nm,gx⟩ σ)) (k:P (pk lk (gR true n) (gR lk n) o ⟨a,b,.start nm,gx⟩ σ)):P (gR lk (n+1) m ⟨a,b,.start nm,gx⟩ σ):=by
 have h:jX sp ⟨a,b,.start nm,gx⟩=kq [((oW R nm).getD .nil),sp.jK,sp.iy]:=by
  show kq [Du sp.start nm,sp.jK,sp.iy]=_;rw[g];rfl
 cases hl:oW R nm with
 |none=>
  rw[iD lk n m _ (by simp) sp j o (by rw[h,hl,<-x];rfl)];exact k
 |some r=>
  obtain⟨p,y,C,rfl⟩:=vu hl;have u:=q p y;rw[iD lk n m _ (by simp) sp j p.2 (by
   rw[h,hl];simp[kq])]
  grind
theorem NF {R : List (List gn×Ru)} (g:sp.stop=some R) (q:∀p∈R,p.2≠ .nil) (x:kq [sp.j9,sp.iy]=o) (j:xV[m]?=some sp) (z:∀p∈R,hH p.1 nm=true->P (pk lk (gR true n) (gR lk n) p.2 ⟨a,b,.stop nm,gx⟩ σ)) (k:P (pk lk (gR true n) (gR lk n) o ⟨a,b,.stop nm,gx⟩ σ)):P (gR lk (n+1) m ⟨a,b,.stop nm,gx⟩ σ):=by
 have h:jX sp ⟨a,b,.stop nm,gx⟩=kq [((oW R nm).getD .nil),sp.j9,sp.iy]:=by
  show kq [Du sp.stop nm,sp.j9,sp.iy]=_;rw[g];rfl
 cases hl:oW R nm with
 |none=>
  rw[iD lk n m _ (by simp) sp j o (by rw[h,hl,<-x];rfl)];exact k
 |some r=>
  obtain⟨p,y,C,rfl⟩:=vu hl;have u:=q p y;rw[iD lk n m _ (by simp) sp j p.2 (by
   rw[h,hl];simp[kq])]
  grind
theorem Bt {g : Ru} (p:kq [sp.blank,sp.jW,sp.iy]=g) (q:kq [sp.jW,sp.iy]=o) (h:xV[m]?=some sp) (j:P (pk lk (gR true n) (gR lk n) g ⟨a,b,.jW s,gx⟩ σ)) (k:P (pk lk (gR true n) (gR lk n) o ⟨a,b,.jW s,gx⟩ σ)):P (gR lk (n+1) m ⟨a,b,.jW s,gx⟩ σ):=by
 cases hk:lU s with
 |true=>
  rw[iD lk n m _ (by simp) sp h g (by
   grind[jX])]
  exact j
 |false=>
  rw[iD lk n m _ (by simp) sp h o (by
   grind[jX])]
  exact k
def ju {r : Ru} (h:t.k≠ .lost) (k:xV[m]?=some sp) (j:jX sp t=r) (g:P (pk lk (gR true n) (gR lk n) r t σ)):P (gR lk (n+1) m t σ):=by
 rw[iD lk n m t h sp k r j];exact g
structure In4 (σ:Ab):Prop where
 iv:mN σ
 md:σ.mode=4
 sh:∃h d,σ.gq=[some h]/\σ.head=some d
def In4.ms (h:In4 σ):MS σ:=by
 have⟨x,d,h1,h2⟩:=h.sh;exact⟨.inl (.inr (.inr (.inr (.inl ⟨h.md,x,d,h1,h2⟩)))),BH.low (by have:=h.md;omega)⟩
theorem In4.ne (h:In4 σ):σ.gq≠[]:=by have⟨x,d,h1,_⟩:=h.sh;grind
def Ig (h:In4 σ) (G:uA t) (q:GL σ t) (H:wt σ < 997000) (k:σ.waiting.length < 4000) (y:4*64+8<=n):RG 371 σ (nk (gR false n) t σ):=by
 unfold nk;refine Ij (c:=370) h.iv h.ne (by omega) gp 6 ?_;intro σ' C j E w' F u;have p:B3 σ':=by
  have⟨x,d,_,hd⟩:=h.sh;have⟨r,hr⟩:=h.iv;exact⟨⟨d,j.nm _ _ (hr.head d hd)⟩,u⟩
 have g:σ'.waiting.length < 4000:=by have:=j.waiting;have e:σ'.waiting=σ.waiting:=this;rw[e];exact k
 exact Y4 C (j.ne h.ne) E G (λz=>F.trans (q z)) (by omega) g y (gW _) p
theorem FT (z:mN σ) (h:σ.gq≠[]) (k:nM σ t) (b:Bool) (F:wt σ < 998000):match nT t b σ with
 | .ok _ σ'=>mN σ'/\Lm σ σ'/\wt σ'<=wt σ+1/\σ'.mode=5/\σ'.kept=σ.mode/\(∃j,σ'.gq=σ.gq++[some j]/\σ.nodes.length<=j)/\σ'.head=σ.head/\(∀i s,iT σ i s->iT σ' i s)
 | .stop _ p=>p=σ.gH
 | .stuck=>False:=by
 have y:=jJ z h (by omega) t k.tag k.fr;have e:nT t b σ=(jn t>>=λ_=>Mh t.name b>>=λ_=>wm (λσ=>{σ with kept:=σ.mode})>>=λ_=>jD 5>>=λ_=>(Pure.pure ():M Unit)) σ:=rfl;rw[e,M.gm];revert y;cases jn t σ with
 |ok u σ1=>
  rintro⟨C,g,E,j,q⟩;exact⟨C.mq rfl rfl rfl rfl rfl rfl rfl,⟨g.gH,g.pL,g.qH,g.oO,by show σ1.waiting.length<=_;rw[g.waiting];omega,by show∀x∈σ1.waiting,_;rw[g.waiting];grind,g.nm⟩,E,rfl,g.mode,⟨j,q.gq,q.new⟩,g.head,g.nm⟩
 |stop c p=>simp[jr]
 |stuck=>simp[jr]
theorem JN (h:In4 σ) (U:nm=jc\/nm=jk\/nm=iK) (hf:σ.fresh=true) (hw:wt σ < 997000):RG 2 σ (tu (gR false (n+1)) ⟨a,b,.start nm,gx⟩ σ):=by
 have⟨x,d,ho,hd⟩:=h.sh;have⟨r,hr⟩:=h.iv;have K:=hr.head d hd;have⟨ed,hed,hedn⟩:=id K;have a0:r x < r d:=hr.sZ.hd d x hd (by grind);unfold tu;rw[M.gm];have e1:pushHead σ=wN (some d) σ:=by unfold pushHead;rw[hd]
 rw[e1];unfold wN;by_cases hl:σ.pL<=σ.gq.length
 .grind[RG]
 .rw[gI hl,gN (show σ.lV (some d)=true by grind[Ab.lV])];dsimp only;have⟨g1,g2⟩:=hr.push hed (by
   grind[rk]) (by omega) (.inl h.ne)
  obtain⟨y,z⟩:∃y,y=({σ with gq:=σ.gq++[some d]}:Ab):=⟨_,rfl⟩;rw[<-z]at g1 g2|-;have Z:mN y:=⟨r,g1⟩;have o1:y.gq=[some x,some d]:=by rw[z];show σ.gq++[some d]=_;rw[ho];rfl
  have O:y.gq≠[]:=by rw[o1];simp
  have w1:wt y=wt σ:=by rw[z];rfl
  have J:y.fresh=true:=by rw[z];exact hf
  have Y:y.mode=4:=g2.mode.trans h.md;have G:y.head=some d:=g2.head.trans hd;have xd:x≠d:=by rintro rfl;omega
  have ht:nM y ⟨a,b,.start nm,gx⟩:=⟨rfl,J⟩;have I:∀g,mN g->Lm y g->wt g<=wt y+1->g.head=some d->iT g d gL->MS {g with gq:=g.gq.erase (some d)}->RG 2 σ ((po>>=λ_=>(Pure.pure ():M Unit)) g):=by
   intro g i2 H w2 h2 n2 m2;have e2:po g=j8 (some d) g:=by unfold po;rw[h2]
   have C:=BF i2 n2 (by simp);rw[M.gm,e2];have e3:j8 (some d) g= .ok () {g with gq:=g.gq.erase (some d)}:=IJ (lW n2);rw[e3]at C|-;have⟨N,X,k5,k6⟩:=C;refine⟨N,m2,⟨H.gH.trans g2.gH,H.pL.trans g2.pL,H.qH.trans g2.qH,H.oO.trans g2.oO,?_,by have:=H.wz;grind,λi s q=>H.nm i s (g2.nm i s q)⟩,?_⟩
   .show g.waiting.length<=_;have:=H.wt;grind
   .omega
  have E:iT y d gL:=g2.nm _ _ K;have T:([some x,some d]:kL).erase (some d)=[some x]:=by
   rw[List.erase_cons_tail (by grind),List.erase_cons_head]
  have F:∀Q,RG 2 σ (((nT ⟨a,b,.start nm,gx⟩ Q>>=λ_=>(Pure.pure ():M Unit))>>=λ_=>po>>=λ_=>(Pure.pure ():M Unit)) y):=by
   intro Q;have k:=FT Z O ht Q (by omega);rw[M.gm,M.gm];revert k;cases nT ⟨a,b,.start nm,gx⟩ Q y with
   |ok u g=>
    rintro⟨V,C,N,X,k5,⟨j,k6,k7⟩,k8,k9⟩;refine I g V C N (k8.trans G) (k9 _ _ E) ?_;have hj:j≠d:=by
     have:=Ab.ic hed;have e4:y.nodes.length=σ.nodes.length:=by rw[z]
     omega
    have he:g.gq.erase (some d)=[some x,some j]:=by
     rw[k6,o1];show([some x,some d,some j]:kL).erase (some d)=_;rw[List.erase_cons_tail (by grind),List.erase_cons_head]
    refine⟨.inr (.inl ⟨X,?_,?_,?_⟩),λq=>?_⟩
    .grind
    .grind
    all_goals grind[HS]
   |stop c p=>exact λh=>y6 h g2.gH
   |stuck=>simp
  rcases U with rfl|rfl|rfl
  .rw[iD false n 3 _ (by intro e;cases e) lD rfl (.gZ 100) (by kernel_rfl)];have k:=qg Z O (by omega) ⟨a,b,.start jc,gx⟩ rfl J;show RG 2 σ ((lr ⟨a,b,.start jc,gx⟩>>=λ_=>po>>=λ_=>(Pure.pure ():M Unit)) y);rw[M.gm];revert k;cases lr ⟨a,b,.start jc,gx⟩ y with
   |ok u g=>
    rintro⟨V,C,N,X,k5⟩;refine I g V C.lm N (C.head.trans G) (C.nm _ _ E) ?_;refine⟨.inl (.inr (.inr (.inr (.inl ⟨C.mode.trans Y,x,d,?_,C.head.trans G⟩)))),BH.low (by show g.mode<=4;have:=C.mode;omega)⟩;grind
   |stop c p=>exact λh=>y6 h g2.gH
   |stuck=>simp[jr]
  .rw[iD false n 3 _ (by intro e;cases e) lD rfl (.gZ 101) (by kernel_rfl)];exact F false
  .rw[iD false n 3 _ (by intro e;cases e) lD rfl (.gZ 102) (by kernel_rfl)];exact F true
theorem T6 (N:4*64+8<=n) (t:gz) (g:uA t) (h:In4 σ) (z:GL σ t) (J:wt σ < 997000) (I:σ.waiting.length < 4000):RG 372 σ (gR false (n+1) 4 t σ):=by
 obtain⟨k,rfl⟩:∃k,n=k+1:=⟨n - 1,by omega⟩;have F:∀t,uA t->GL σ t->RG 372 σ (nk (gR false (k+1)) t σ):=λt g z=>(Ig h g z J I N).mono (by omega);have H:RG 372 σ ((Pure.pure ():M Unit) σ):=(qN h.iv h.ms).mono (by omega);have⟨a,b,kk,gx⟩:=t;cases kk with
 |lost=>exact absurd rfl g.nl
 |jW s=>
  refine Bt (sp:=mu) (P:=RG 372 σ) rfl rfl rfl ?_ ?_
  .exact RG.mono (c:=s.size+1) ((oA h.iv h.ne _ (by have:=g.sz;omega)).rg h.ms (λ_ q=>q.gq)) (by have:=g.sz;have e:gz.chars ⟨a,b,.jW s,gx⟩=s:=rfl;grind)
  .exact F _ g z
 |gJ s=>
  refine ju g.nl (sp:=mu) (P:=RG 372 σ) rfl rfl ?_;show RG 372 σ (xC 95 true _ σ);rw[yo];exact RG.mono (c:=1) (vL h.iv mU (Aa h.iv h.ne) _ (by omega) h.ms) (by omega)
 |iH s q=>exact ju g.nl (sp:=mu) (P:=RG 372 σ) rfl rfl H
 |ie=>exact ju g.nl (sp:=mu) (P:=RG 372 σ) rfl rfl (F _ g z)
 |start nm=>
  have G:nM σ ⟨a,b,.start nm,gx⟩:=z.tag rfl;refine GH (sp:=mu) (P:=RG 372 σ) rfl (by simp) rfl rfl ?_ ?_
  .intro p C E;simp only[se,sg,sV]at C;rcases C with rfl|rfl|rfl|rfl
   all_goals dsimp only at E|-
   .exact(JN h (by have:=MN E;grind) G.fr J).mono (by omega)
   .have e:=Ie E;subst e;show RG 372 σ (tR _ σ);unfold tR;have Q:=jJ h.iv h.ne (by omega) ⟨a,b,.start gp,gx⟩ G.tag G.fr;rw[M.gm];revert Q;cases jn ⟨a,b,.start gp,gx⟩ σ with
    |ok u σ1=>
     rintro⟨O,y,T,j,q⟩;have K:B3 σ1:=by
      have⟨x,d,_,hd⟩:=h.sh;have⟨r,hr⟩:=h.iv;exact⟨⟨d,y.nm _ _ (hr.head d hd)⟩,j,q.nm⟩
     exact⟨O.mq rfl rfl rfl rfl rfl rfl rfl,⟨.inl (.inr (.inr (.inr (.inr ⟨rfl,y.ne h.ne⟩)))),λ_=>K⟩,⟨y.gH,y.pL,y.qH,y.oO,y.lm.wt,y.lm.wz,y.nm⟩,jH T (by omega)⟩
    |stop c p=>exact λh=>h
    |stuck=>simp[jr]
   .have e:=Ie E;subst e;exact(MP k a b gx h.iv h.ne G.fr h.ms).mono (by omega)
   .exact H
  .exact F _ g z
 |stop nm=>
  refine NF (sp:=mu) (P:=RG 372 σ) rfl (by simp) rfl rfl ?_ ?_
  .intro p C E;simp only[se,sg,sV]at C;subst C;exact F _ g z
  .exact H
structure Zw (σ:Ab):Prop where
 iv:mN σ
 md:σ.mode=3
 sh:∃h d,σ.gq=[some h,some d]/\σ.head=some d
def Zw.ms (h:Zw σ):MS σ:=by
 have⟨x,d,h1,h2⟩:=h.sh;exact⟨.inl (.inr (.inr (.inl ⟨h.md,x,d,h1,h2⟩))),BH.low (by have:=h.md;omega)⟩
theorem Zw.ne (h:Zw σ):σ.gq≠[]:=by have⟨x,d,h1,_⟩:=h.sh;grind
theorem Zw.pop (h:Zw σ):In4 {σ.pop with mode:=4}/\Lm σ {σ.pop with mode:=4}:=by
 have⟨x,d,h1,h2⟩:=h.sh;have⟨g1,g2⟩:=Eu h.iv (by grind);refine⟨⟨g1.mq rfl rfl rfl rfl rfl rfl rfl,rfl,x,d,?_,h2⟩,⟨rfl,rfl,rfl,rfl,ly _,λ_ h=> .inl h,λ_ _ h=>h⟩⟩;grind[Ab.pop]
theorem FV (y:mN σ) (g:σ.gq≠[]) (z:nM σ t) (b:Bool) (C:wt σ < 998000) (J:3<=σ.mode) (x:BH σ) (K:HS σ.mode σ.gq σ.head):RG 1 σ ((nT t b>>=λ_=>(Pure.pure ():M Unit)) σ):=by
 refine RG.tail ?_;have k:=FT y g z b C;revert k;cases nT t b σ with
 |ok u σ2=>
  rintro⟨E,F,G,H,N,⟨j,O,Q⟩,T,I⟩;refine⟨E,⟨.inr (.inl ⟨H,by omega,?_,?_⟩),λq=>(x (by omega)).of I⟩,F,G⟩
  .have:0 < σ.gq.length:=List.length_pos_iff.2 g;grind
  grind
 |stop c p=>exact λh=>h
 |stuck=>simp
def xb (h:mN σ) (g:σ.gq≠[]) (j:MS σ) (k:t.chars.size<=100) (p:wt σ < 999000):RG 101 σ (jR t σ):=
 RG.mono (c:=t.chars.size+1) ((oA h g t (by omega)).rg j (λ_ q=>q.gq)) (by omega)
def T5 (H:4*64+8<=n) (t:gz) (g:uA t) (h:Zw σ) (j:GL σ t) (J:wt σ < 997000) (G:σ.waiting.length < 4000):RG 373 σ (gR false (n+2) 3 t σ):=by
 have⟨g4,gl⟩:=h.pop;have z:∀t,uA t->GL σ t->RG 373 σ (nw (gR false (n+1)) t σ):=by
  intro t g j;have E:=RG.tail (T6 H t g g4 (λI=>j I) J G);exact RG.from (c1:=372) (c2:=0) E gl (gW _) (λ_ h=>h) (nf (jh rfl)) (by omega)
 have C:RG 373 σ ((Pure.pure ():M Unit) σ):=(qN h.iv h.ms).mono (by omega);have k:HS σ.mode σ.gq σ.head:=by
  have⟨x,d,E,h2⟩:=h.sh;exact .inr (.inr (.inl ⟨h.md,x,d,E,h2⟩))
 have⟨a,b,kk,gx⟩:=t;cases kk with
 |lost=>exact absurd rfl g.nl
 |jW s=>
  refine Bt (sp:=lD) (P:=RG 373 σ) rfl rfl rfl ?_ ?_
  .exact(xb h.iv h.ne h.ms g.sz (by omega)).mono (by omega)
  .exact z _ g j
 |gJ s=>
  refine ju g.nl (sp:=lD) (P:=RG 373 σ) rfl rfl ?_;show RG 373 σ (xC 95 true _ σ);rw[yo];exact RG.mono (c:=1) (vL h.iv mU (Aa h.iv h.ne) _ (by omega) h.ms) (by omega)
 |iH s q=>exact ju g.nl (sp:=lD) (P:=RG 373 σ) rfl rfl C
 |ie=>exact ju g.nl (sp:=lD) (P:=RG 373 σ) rfl rfl (z _ g j)
 |start nm=>
  have y:nM σ ⟨a,b,.start nm,gx⟩:=j.tag rfl;refine GH (sp:=lD) (P:=RG 373 σ) rfl (by simp) rfl rfl ?_ ?_
  .intro p u F;simp only[se,sg,sV]at u;rcases u with rfl|rfl|rfl|rfl|rfl
   all_goals dsimp only at F|-
   .exact(FV h.iv h.ne y true (by omega) (by rw[h.md];omega) h.ms.2 k).mono (by omega)
   .exact(FV h.iv h.ne y false (by omega) (by rw[h.md];omega) h.ms.2 k).mono (by omega)
   .exact RG.mono (c:=1) ((qg h.iv h.ne (by omega) _ y.tag y.fr).rg h.ms (λ_ q=>q.1)) (by omega)
   .have e:=Ie F;subst e;exact(MP n a b gx h.iv h.ne y.fr h.ms).mono (by omega)
   .exact C
  .exact z _ g j
 |stop nm=>
  refine NF (sp:=lD) (P:=RG 373 σ) rfl (by simp) rfl rfl ?_ ?_
  .intro p u F;simp only[se,sg,sV]at u;rcases u with rfl|rfl
   .exact z _ g j
   .exact⟨g4.iv,g4.ms,gl,jH (nf (jh rfl)) (y7 _ _)⟩
  .exact C
structure In2 (σ:Ab):Prop where
 iv:mN σ
 md:σ.mode=2
 sh:∃h,σ.gq=[some h]
def In2.ms (h:In2 σ):MS σ:=by
 have⟨x,h1⟩:=h.sh;exact⟨.inl (.inr (.inl ⟨h.md,x,h1⟩)),BH.low (by have:=h.md;omega)⟩
theorem In2.ne (h:In2 σ):σ.gq≠[]:=by have⟨x,h1⟩:=h.sh;grind
theorem jy.aa6 (h:jy r σ) (k:iT σ d gL) (p:∀x,σ.gq.head?=some (some x)->r x < r d):jy r {σ with head:=some d}:=
 ⟨⟨h.og.up,h.og.dn,h.og.nd,h.og.kd⟩,⟨h.sZ.ja,h.sZ.gq,λj x g q=>by grind⟩,h.gq,h.act,λj g=>by cases g;exact k,h.form,h.KU,h.wC,h.zq,h.N2,h.Q0,h.wK⟩
theorem FR (h:In2 σ) (own:Bool) (gx:lh) (hf:own=true->σ.fresh=true) (hw:wt σ < 998000) {k:M Unit} (Y:∀σ',Zw σ'->Lm σ σ'->σ'.waiting=σ.waiting->wt σ'<=wt σ+1->(own=false->σ'.fresh=σ.fresh)->RG c σ' (k σ')):RG (c+1) σ ((rB own gx>>=λ_=>k) σ):=by
 have⟨x,ho⟩:=h.sh;have⟨r,hr⟩:=h.iv;have⟨B,hB⟩:=zH r σ.nodes.length;have a1:x < σ.nodes.length:=hr.Es (by grind);have F:∀(z:lh) (E:Bool),(own=false->E=σ.fresh)->sO gL own gx σ= .ok σ.nodes.length (σ.pa (.el {name:=gL,gM:=z,ja:=none,kids:=[]}) E)->RG (c+1) σ ((rB own gx>>=λ_=>k) σ):=by
  intro z E I Q;have⟨g1,g2⟩:=hr.new gL z E (B+1);obtain⟨g,y⟩:∃g,g=σ.pa (.el {name:=gL,gM:=z,ja:=none,kids:=[]}) E:=⟨_,rfl⟩;rw[<-y]at g1 g2 Q;have G:g.gV σ.nodes.length=some {name:=gL,gM:=z,ja:=none,kids:=[]}:=by rw[y];exact Ab.tY
  have o1:g.gq=σ.gq:=by rw[y];rfl
  have w1:wt g=wt σ:=by rw[y];exact DR _ _ _
  have X:=g1.aa6 (d:=σ.nodes.length) ⟨_,G,rfl⟩ (by
   grind[wD])
  have K:some σ.nodes.length∉({g with head:=some σ.nodes.length}:Ab).gq:=by
   show some σ.nodes.length∉g.gq;rw[o1];intro Z;have:=hr.Es (i:=σ.nodes.length) Z;omega
  have J:=Lj (σ:={g with head:=some σ.nodes.length}) ⟨_,X⟩ (j:=σ.nodes.length) G rfl rfl K (by grind) (by show wt g < _;omega);show RG (c+1) σ (((sO gL own gx>>=λe=>wm (λσ=>{σ with head:=some e})>>=λ_=>mn e>>=λ_=>jD 3>>=λ_=>(Pure.pure ():M Unit))>>=λ_=>k) σ);rw[M.gm,M.gm,Q];dsimp only;rw[M.gm];have hu:wm (λH:Ab=>{H with head:=some σ.nodes.length}) g= .ok () {g with head:=some σ.nodes.length}:=rfl;rw[hu];dsimp only;rw[M.gm];revert J;cases mn σ.nodes.length {g with head:=some σ.nodes.length} with
  |ok u σ2=>
   rintro⟨i2,C,w2,U⟩;dsimp only;have i3:Zw {σ2 with mode:=3}:=⟨i2.mq rfl rfl rfl rfl rfl rfl rfl,rfl,x,σ.nodes.length,by
    show σ2.gq=_;rw[U.gq];grind,C.head⟩
   have O:σ2.waiting=σ.waiting:=by rw[C.waiting];show g.waiting=_;rw[y];rfl
   have T:Lm σ {σ2 with mode:=3}:=⟨C.gH.trans g2.gH,C.pL.trans g2.pL,C.qH.trans g2.qH,C.oO.trans g2.oO,by grind,by grind,λi s q=>C.nm i s (g2.nm i s q)⟩;have a0:wt σ2<=wt g+1:=w2;have V:=Y {σ2 with mode:=3} i3 T O (by grind[wt]) (λN=>by
    show σ2.fresh=_;rw[U.fresh];show g.fresh=_;rw[y];exact I N)
   exact RG.from (c1:=c) (c2:=1) (σ1:={σ2 with mode:=3}) V T (by grind) (by grind) (by grind[wt]) (gW _)
  |stop e p=>exact λh=>y6 h g2.gH
  |stuck=>simp[jr]
 cases own with
 |true=>
  refine F gx false (λh=>by cases h) ?_;grind[sO]
 |false=>exact F [] σ.fresh (λ_=>rfl) rfl
theorem T4 (H:4*64+8<=n) (t:gz) (g:uA t) (h:In2 σ) (j:GL σ t) (O:wt σ < 996000) (J:σ.waiting.length < 4000):RG 374 σ (gR false (n+3) 2 t σ):=by
 have y:∀t,uA t->GL σ t->RG 374 σ (oS (gR false (n+2)) t σ):=by
  intro t g j;refine FR (c:=373) h false [] (λh=>by cases h) (by omega) (k:=jM (gR false (n+2)) t>>=λ_=>(Pure.pure ():M Unit)) ?_;intro σ' u K N w' E;have G:=T5 H t g u (λI=>(E rfl).trans (j I)) (by omega) (by grind);refine RG.tail ?_;show RG 373 σ' (gR false (n+2) σ'.mode t σ');rw[u.md];exact G
 have z:RG 374 σ ((Pure.pure ():M Unit) σ):=(qN h.iv h.ms).mono (by omega);have⟨a,b,kk,gx⟩:=t;cases kk with
 |lost=>exact absurd rfl g.nl
 |jW s=>
  refine Bt (sp:=lf) (P:=RG 374 σ) rfl rfl rfl ?_ ?_
  .exact z
  .exact y _ g j
 |gJ s=>
  refine ju g.nl (sp:=lf) (P:=RG 374 σ) rfl rfl ?_;show RG 374 σ (xC 95 true _ σ);rw[yo];exact RG.mono (c:=1) (vL h.iv mU (Aa h.iv h.ne) _ (by omega) h.ms) (by omega)
 |iH s q=>exact ju g.nl (sp:=lf) (P:=RG 374 σ) rfl rfl z
 |ie=>exact ju g.nl (sp:=lf) (P:=RG 374 σ) rfl rfl (y _ g j)
 |start nm=>
  have F:nM σ ⟨a,b,.start nm,gx⟩:=j.tag rfl;refine GH (sp:=lf) (P:=RG 374 σ) rfl (by simp) rfl rfl ?_ ?_
  .intro p x C;simp only[se,sg,sV]at x;rcases x with rfl|rfl
   all_goals dsimp only at C|-
   .refine RG.mono (c:=1) (FR (c:=0) h true gx (λ_=>F.fr) (by omega) (k:=(Pure.pure ():M Unit)) ?_) (by omega);intro σ' u K N w' E;exact qN u.iv u.ms
   .have e:=Ie C;subst e;exact(MP (n+1) a b gx h.iv h.ne F.fr h.ms).mono (by omega)
  .exact y _ g j
 |stop nm=>
  refine NF (sp:=lf) (P:=RG 374 σ) rfl (by simp) rfl rfl ?_ ?_
  .intro p x C;simp only[se,sg,sV]at x;subst x;exact y _ g j
  .exact z
structure Zn (σ:Ab):Prop where
 iv:mN σ
 md:σ.mode<=1
 op:σ.gq=[]
 hd:σ.head=none
def Zn.ms (h:Zn σ):MS σ:=⟨.inl (.inl ⟨h.md,h.op,h.hd⟩),BH.low (by have:=h.md;omega)⟩
theorem FQ (h:Zn σ) (own:Bool) (gx:lh) (V:own=true->σ.fresh=true) (X:wt σ < 998000) {k:M Unit} (O:∀σ',In2 σ'->Lm σ σ'->σ'.waiting=σ.waiting->wt σ'<=wt σ+1->(own=false->σ'.fresh=σ.fresh)->RG c σ' (k σ')):RG (c+1) σ ((rA own gx>>=λ_=>k) σ):=by
 have⟨r,hr⟩:=h.iv;have⟨B,hB⟩:=zH r σ.nodes.length;have⟨e0,he0⟩:=Option.isSome_iff_exists.1 hr.wK;have z:=Ab.ic he0;have u:∀(p:lh) (q:Bool),(own=false->q=σ.fresh)->sO fP own gx σ= .ok σ.nodes.length (σ.pa (.el {name:=fP,gM:=p,ja:=none,kids:=[]}) q)->RG (c+1) σ ((rA own gx>>=λ_=>k) σ):=by
  intro p q C H;have⟨g1,g2⟩:=hr.new fP p q (B+1);obtain⟨j,g⟩:∃j,j=σ.pa (.el {name:=fP,gM:=p,ja:=none,kids:=[]}) q:=⟨_,rfl⟩;rw[<-g]at g1 g2 H;have y:j.gV σ.nodes.length=some {name:=fP,gM:=p,ja:=none,kids:=[]}:=by rw[g];exact Ab.tY
  have x:j.gV 0=some e0:=by rw[g];show(σ.add _).gV 0=_;rw[Ab.tA z];exact he0
  have Z:wt j=wt σ:=by rw[g];exact DR _ _ _
  have T:j.gq=[]:=by rw[g];exact h.op
  have N:Bv j= .ok (0,e0.kids.length) j:=by unfold Bv jt;rw[x]
  have⟨σ2,q1,q2,q3,q4,q5,q6,q7,q8,q9,q10⟩:=g1.put (pl:=(0,e0.kids.length)) ⟨e0,x,gW _⟩ y rfl (by
   grind[wD]) (by omega)
  have⟨e2,he2,hn2,_⟩:=q9 _ _ y;show RG (c+1) σ (((sO fP own gx>>=λe=>Bv>>=λU=>mP U e>>=λ_=>wN (some e)>>=λ_=>jD 2>>=λ_=>(Pure.pure ():M Unit))>>=λ_=>k) σ);rw[M.gm,M.gm,H];dsimp only;rw[M.gm,N];dsimp only;rw[M.gm,q1];dsimp only;rw[M.gm];have Y:σ2.gq=[]:=q5.trans T;have F:=g2.trans q3;unfold wN;by_cases I:σ2.pL<=σ2.gq.length
  .rw[gN I];exact F.gH
  .rw[gI I,gN (show σ2.lV (some σ.nodes.length)=true by grind[Ab.lV])];dsimp only;have⟨p1,p2⟩:=q2.push he2 (by grind) (by omega) (.inr ⟨hn2,by rw[F.head];exact h.hd⟩);have G:σ2.waiting=σ.waiting:=F.waiting;have Q:In2 {({σ2 with gq:=σ2.gq++[some σ.nodes.length]}:Ab)with mode:=2}:=⟨mN.mq ⟨_,p1⟩ rfl rfl rfl rfl rfl rfl rfl,rfl,σ.nodes.length,by grind⟩;have J:Lm σ {({σ2 with gq:=σ2.gq++[some σ.nodes.length]}:Ab)with mode:=2}:=⟨F.gH,F.pL,F.qH,F.oO,by grind,by grind,F.nm⟩;have K:=O _ Q J G (by grind[wt]) (λE=>by
    show σ2.fresh=_;rw[q7,g];exact C E)
   exact RG.from (c1:=c) (c2:=1) K J (by grind) (by grind) (by grind[wt]) (gW _)
 cases own with
 |true=>
  refine u gx false (λh=>by cases h) ?_;grind[sO]
 |false=>exact u [] σ.fresh (λ_=>rfl) rfl
theorem T1 (F:4*64+8<=n) (t:gz) (g:uA t) (h:Zn σ) (j:GL σ t) (O:wt σ < 995000) (J:σ.waiting.length < 4000):RG 375 σ (gR false (n+4) 1 t σ):=by
 have y:∀t,uA t->GL σ t->RG 375 σ (oR (gR false (n+3)) t σ):=by
  intro t g j;refine FQ (c:=374) h false [] (λh=>by cases h) (by omega) (k:=jM (gR false (n+3)) t>>=λ_=>(Pure.pure ():M Unit)) ?_;intro σ' u K N w' C;have E:=T4 F t g u (λH=>(C rfl).trans (j H)) (by omega) (by grind);refine RG.tail ?_;show RG 374 σ' (gR false (n+3) σ'.mode t σ');rw[u.md];exact E
 have z:RG 375 σ ((Pure.pure ():M Unit) σ):=(qN h.iv h.ms).mono (by omega);have⟨a,b,kk,gx⟩:=t;cases kk with
 |lost=>exact absurd rfl g.nl
 |jW s=>
  refine Bt (sp:=ld) (P:=RG 375 σ) rfl rfl rfl ?_ ?_
  .exact z
  .exact y _ g j
 |gJ s=>
  refine ju g.nl (sp:=ld) (P:=RG 375 σ) rfl rfl ?_;show RG 375 σ (xC 89 false _ σ);rw[Ow];exact RG.mono (c:=1) (vL h.iv (jt 0) (My h.iv) _ (by omega) h.ms) (by omega)
 |iH s q=>exact ju g.nl (sp:=ld) (P:=RG 375 σ) rfl rfl z
 |ie=>exact ju g.nl (sp:=ld) (P:=RG 375 σ) rfl rfl (y _ g j)
 |start nm=>
  have I:nM σ ⟨a,b,.start nm,gx⟩:=j.tag rfl;refine GH (sp:=ld) (P:=RG 375 σ) rfl (by simp) rfl rfl ?_ ?_
  .intro p x G;simp only[se,sg,sV]at x;subst x;refine RG.mono (c:=1) (FQ (c:=0) h true gx (λ_=>I.fr) (by omega) (k:=(Pure.pure ():M Unit)) ?_) (by omega);intro σ' u K N w' C;exact qN u.iv u.ms
  .exact y _ g j
 |stop nm=>
  refine NF (sp:=ld) (P:=RG 375 σ) rfl (by simp) rfl rfl ?_ ?_
  .intro p x G;simp only[se,sg,sV]at x;subst x;exact y _ g j
  .exact z
def rY:mB:={blank:= .nothing,gJ:= .gJ 89 false,iH:= .gZ 90,iy:= .gZ 91}
def Zn.q (h:Zn σ) (q:Bool):Zn {σ with jB:=q,mode:=1}:=⟨h.iv.mq rfl rfl rfl rfl rfl rfl rfl,gW _,h.op,h.hd⟩
theorem aa3 (J:4*64+8<=n) (t:gz) (g:uA t) (h:Zn σ) (k:GL σ t) (N:wt σ < 995000) (C:σ.waiting.length < 4000):RG 376 σ (gR false (n+5) 0 t σ):=by
 have y:∀t,uA t->GL σ t->RG 376 σ (lE (gR false (n+4)) t σ):=by
  intro t g k;have z:=RG.tail (T1 J t g (h.q true) (λK=>k K) N C);exact RG.from (c1:=375) (c2:=0) z ⟨rfl,rfl,rfl,rfl,ly _,λ_ h=> .inl h,λ_ _ h=>h⟩ (gW _) (λ_ h=>h) (nf (jh rfl)) (by omega)
 have G:RG 376 σ ((Pure.pure ():M Unit) σ):=(qN h.iv h.ms).mono (by omega);have⟨a,b,kk,gx⟩:=t;cases kk with
 |lost=>exact absurd rfl g.nl
 |jW s=>
  refine Bt (sp:=rY) (P:=RG 376 σ) rfl rfl rfl ?_ ?_
  .exact G
  .exact y _ g k
 |gJ s=>
  refine ju g.nl (sp:=rY) (P:=RG 376 σ) rfl rfl ?_;show RG 376 σ (xC 89 false _ σ);rw[Ow];exact RG.mono (c:=1) (vL h.iv (jt 0) (My h.iv) _ (by omega) h.ms) (by omega)
 |iH s q=>
  refine ju g.nl (sp:=rY) (P:=RG 376 σ) rfl rfl ?_;have⟨E,z,h2⟩:=My h.iv;have H:=Ez h.iv h2 (.dt s) .dt (.inr ⟨s,rfl,rfl⟩) (by omega);show RG 376 σ ((jt 0>>=λE=>oH E (.dt s) .dt>>=λ_=>(do wm λσ=>{σ with jB:=q||!kh s fP};jD 1;return ():M Unit)) σ);rw[M.gm,z];dsimp only;rw[M.gm];revert H;cases oH E (.dt s) .dt σ with
  |ok u σ1=>
   rintro⟨O,j,T,Q⟩;have I:Zn σ1:=⟨O,by rw[j.mode];exact h.md,by rw[Q.gq];exact h.op,by rw[j.head];exact h.hd⟩;have F:=I.q (q||!kh s fP);exact⟨F.iv,F.ms,⟨j.gH,j.pL,j.qH,j.oO,by show σ1.waiting.length<=_;rw[j.waiting];omega,by show∀x∈σ1.waiting,_;rw[j.waiting];grind,j.nm⟩,by grind[wt]⟩
  |stop c p=>exact λh=>h
  |stuck=>simp[jr]
 |ie=>exact ju g.nl (sp:=rY) (P:=RG 376 σ) rfl rfl (y _ g k)
 |start nm=>exact ju g.nl (sp:=rY) (P:=RG 376 σ) rfl rfl (y _ g k)
 |stop nm=>exact ju g.nl (sp:=rY) (P:=RG 376 σ) rfl rfl (y _ g k)
def Re (F:4*64+8<=n) (t:gz) (q:uA t) (p:mN σ) (G:HS σ.mode σ.gq σ.head) (z:BH σ) (k:GL σ t) (x:wt σ < 995000) (h:σ.waiting.length < 4000):RG 380 σ (gR false (n+5) σ.mode t σ):=by
 rcases G with⟨g,j,y⟩|⟨g,j⟩|⟨g,j⟩|⟨g,j⟩|⟨g,j⟩
 .have u:Zn σ:=⟨p,g,j,y⟩;rcases uW σ.mode 1 with E|E
  .have e:σ.mode=0:=by omega
   rw[e];exact(aa3 F t q u k x h).mono (by omega)
  .have e:σ.mode=1:=by omega
   rw[e];exact(T1 (n:=n+1) (by omega) t q u k x h).mono (by omega)
 .rw[g];exact(T4 (n:=n+2) (by omega) t q ⟨p,g,j⟩ k (by omega) h).mono (by omega)
 .rw[g];exact(T5 (n:=n+3) (by omega) t q ⟨p,g,j⟩ k (by omega) h).mono (by omega)
 .rw[g];exact(T6 (n:=n+4) (by omega) t q ⟨p,g,j⟩ k (by omega) h).mono (by omega)
 .have C:σ.gq.length<=64:=by have⟨r,hr⟩:=p;exact jH hr.wC hr.N2
  exact((GM 64 (n+5) (by omega) t σ ⟨q,⟨p,j,g⟩,k,by omega,h,C⟩).rg (z (.inl (Cr g)))).mono (by omega)
def aa4 (K:4*64+8<=n) (t:gz) (g:uA t) (y:mN σ) (F:σ.mode=5) (J:3<=σ.kept) (x:2<=σ.gq.length) (z:HS σ.kept σ.gq.dropLast σ.head) (E:BH σ) (O:GL σ t) (N:wt σ < 995000) (C:σ.waiting.length < 4000):RG 380 σ (gR false (n+6) 5 t σ):=by
 have k:MS σ:=⟨.inr (.inl ⟨F,J,x,z⟩),E⟩;have j:BH {σ.pop with mode:=σ.kept}:=λq=>(E (.inr ⟨F,by have q:6<=σ.kept\/σ.kept=5/\6<=σ.kept:=q;omega⟩)).of λ_ _ h=>h;have p:σ.gq≠[]:=by intro e;rw[e]at x;simp at x
 have⟨g1,g2⟩:=Eu y x;have G:mN {σ.pop with mode:=σ.kept}:=g1.mq rfl rfl rfl rfl rfl rfl rfl;have H:Lm σ {σ.pop with mode:=σ.kept}:=⟨rfl,rfl,rfl,rfl,ly _,λ_ h=> .inl h,λ_ _ h=>h⟩;have u:RG 380 σ (yx σ):=⟨G,⟨.inl z,j⟩,H,jH (nf (jh rfl)) (y7 _ _)⟩;have⟨a,b,kk,gx⟩:=t;cases kk with
 |lost=>exact absurd rfl g.nl
 |jW s=>
  refine Bt (sp:=qP) (P:=RG 380 σ) rfl rfl rfl ?_ ?_
  .exact(xb y p k g.sz (by omega)).mono (by omega)
  .exact(xb y p k g.sz (by omega)).mono (by omega)
 |gJ s=>exact ju g.nl (sp:=qP) (P:=RG 380 σ) rfl rfl u
 |iH s q=>exact ju g.nl (sp:=qP) (P:=RG 380 σ) rfl rfl u
 |start nm=>exact ju g.nl (sp:=qP) (P:=RG 380 σ) rfl rfl u
 |stop nm=>exact ju g.nl (sp:=qP) (P:=RG 380 σ) rfl rfl u
 |ie=>
  refine ju g.nl (sp:=qP) (P:=RG 380 σ) rfl rfl ?_;have I:=RG.tail (Re K ⟨a,b,.ie,gx⟩ g (σ:={σ.pop with mode:=σ.kept}) G z j (λh=>by cases h) N C);exact RG.from (c1:=380) (c2:=0) (σ1:={σ.pop with mode:=σ.kept}) I H (gW _) (λ_ h=>h) (nf (jh rfl)) (by omega)
def L6 (c:Nat) (σ:Ab) (r:pC Unit):Prop:=match r with
 | .ok _ σ'=>mN σ'/\σ'.gq≠[]/\σ'.mode=σ.mode/\σ'.kept=σ.kept/\σ'.gH=σ.gH/\σ'.pL=σ.pL/\σ'.qH=σ.qH/\σ'.oO=σ.oO/\σ'.fresh=σ.fresh/\wt σ'<=wt σ+c/\∀i s,iT σ i s->iT σ' i s
 | .stop _ p=>p=σ.gH
 | .stuck=>False
theorem L6.bind {c1 c2 : Nat} {m k:M Unit} (h:L6 c1 σ (m σ)) (z:∀σ',mN σ'->σ'.gq≠[]->wt σ'<=wt σ+c1->L6 c2 σ' (k σ')) (K:c1+c2<=c):L6 c σ ((m>>=λ_=>k) σ):=by
 rw[M.gm];revert h;cases m σ with
 |ok u σ1=>
  rintro⟨j,x,C,E,F,G,H,I,J,g,q⟩;have y:=z σ1 j x g;dsimp only;revert y;cases k σ1 with
  |ok v σ2=>
   grind[L6]
  |stop e p=>grind[L6]
  |stuck=>simp[L6]
 |stop e p=>simp[L6]
 |stuck=>simp[L6]
def jr.kw {r : pC Unit} {Q : Unit->Ab->Prop} (h:jr c σ r Q) (g:σ.gq≠[]) (j:∀σ',Q () σ'->σ'.fresh=σ.fresh):L6 c σ r:=by
 cases r with
 |ok a σ'=>
  have⟨h1,f,h3,h4⟩:=h;exact⟨h1,f.ne g,f.mode,f.kept,f.gH,f.pL,f.qH,f.oO,j σ' h4,h3,f.nm⟩
 |stop e p=>exact h
 |stuck=>exact h
def GZ (h:mN σ) (g:σ.gq≠[]) (y:t.chars.size<=100) (z:wt σ < 999000):jr 200 σ (nB t σ) (λ_ σ'=>σ'.fresh=σ.fresh):=by
 unfold nB;split
 .exact⟨h,Fx.refl _,y7 _ _,rfl⟩
 .refine jr.bind (nJ h g (by omega)) (c2:=101) ?_ (by omega);rintro _ u k j C ⟨_,_,p⟩;refine jr.iC (Q:=λ_ σ'=>σ'.fresh=σ.fresh) ((oA k (j.ne g) t (by omega)).mono (by omega) ?_);intro _ x _ _ q;exact q.fresh.trans p
def J4 (h:mN σ) (j:σ.gq≠[]) (x:Nat×Nat×gn) (q:x.2.2.size<=100) (y:wt σ < 999000):L6 200 σ (sL (gR true (n+1)) (qc x) σ):=by
 have e:gR true (n+1) 6 (qc x)=nB (qc x):=iD true n 6 _ (by simp[qc]) ku rfl (.gZ 110) (by
  unfold qc jX;dsimp only;split<;>rfl)
 have k:=GZ (σ:={σ with iL:=true}) (t:=qc x) (h.mq rfl rfl rfl rfl rfl rfl rfl) j q y;show L6 200 σ ((gR true (n+1) 6 (qc x)>>=λ_=>wm (λσ=>{σ with iL:=false})>>=λ_=>(Pure.pure ():M Unit)) {σ with iL:=true});rw[e,M.gm];revert k;cases nB (qc x) {σ with iL:=true} with
 |ok u σ1=>
  rintro⟨z,g,E,C⟩;exact⟨z.mq rfl rfl rfl rfl rfl rfl rfl,g.ne j,g.mode,g.kept,g.gH,g.pL,g.qH,g.oO,C,E,g.nm⟩
 |stop c p=>exact λh=>h
 |stuck=>simp[jr]
theorem Db:∀(xs:List (Nat×Nat×gn)) {σ:Ab},mN σ->σ.gq≠[]->(∀x∈xs,x.2.2.size<=100)->wt σ+200*xs.length < 999000->L6 (200*xs.length) σ (tG (gR true (n+1)) xs σ)
 |[],σ,h,hne,_,_=>⟨h,hne,rfl,rfl,rfl,rfl,rfl,rfl,rfl,y7 _ _,λ_ _ h=>h⟩
 |x::xs,σ,h,hne,hs,hw=>by
  simp only[sW]at hw;refine L6.bind (m:=sL (gR true (n+1)) (qc x)) (k:=tG (gR true (n+1)) xs) (J4 h hne x (hs x (tl ..)) (by omega)) (c2:=200*xs.length) ?_ (by grind);intro σ' g p w';exact Db xs g p (λy j=>hs y (pX _ j)) (by omega)
theorem Dh:∀(xs:List (Nat×Nat×gn)) {σ:Ab},mN σ->σ.gq≠[]->(∀x∈xs,x.2.2.size<=100)->wt σ+200*xs.length < 999000->L6 (200*xs.length) σ (tI xs σ)
 |[],σ,h,hne,_,_=>⟨h,hne,rfl,rfl,rfl,rfl,rfl,rfl,rfl,y7 _ _,λ_ _ h=>h⟩
 |x::xs,σ,h,hne,hs,hw=>by
  simp only[sW]at hw;have z:(qc x).chars.size<=100:=hs x (tl ..);have j:L6 200 σ (jR (qc x) σ):=((oA h hne (qc x) (by omega)).mono (c':=200) (by omega) (λ_ _ _ _ h=>h)).kw hne (λ_ q=>q.fresh);refine L6.bind (m:=jR (qc x)) (k:=tI xs) j (c2:=200*xs.length) ?_ (by grind);intro σ' g u w';exact Dh xs g u (λy p=>hs y (pX _ p)) (by omega)
def A5 (h:mN σ) (g:σ.gq≠[]) (j:∀x∈σ.waiting,x.2.2.size<=100) (k:wt σ+200*σ.waiting.length < 999000):L6 (200*σ.waiting.length) σ (pc (gR true (n+1)) σ):=by
 unfold pc;split
 .exact Db σ.waiting h g j k
 .exact Dh σ.waiting h g j k
def DY (σ:Ab):Nat:=wt σ+200*σ.waiting.length
structure xw (σ:Ab):Prop where
 iv:mN σ
 ms:MS σ
 wz:∀x∈σ.waiting,x.2.2.size<=100
def RT (c:Nat) (σ:Ab) (r:pC Unit):Prop:=match r with
 | .ok _ σ'=>xw σ'/\σ'.gH=σ.gH/\σ'.pL=σ.pL/\σ'.qH=σ.qH/\σ'.oO=σ.oO/\σ'.waiting.length<=σ.waiting.length+1/\DY σ'<=DY σ+c/\∀i s,iT σ i s->iT σ' i s
 | .stop _ p=>p=σ.gH
 | .stuck=>False
def RG.rt {r : pC Unit} (h:RG c σ r) (j:∀x∈σ.waiting,x.2.2.size<=100):RT (c+200) σ r:=by
 cases r with
 |ok a σ'=>
  have⟨h1,h2,h3,h4⟩:=h;refine⟨⟨h1,h2,λx g=>(h3.wz x g).elim (j x) id⟩,h3.gH,h3.pL,h3.qH,h3.oO,h3.wt,?_,h3.nm⟩;unfold DY;have:=h3.wt;omega
 |stop e p=>exact h
 |stuck=>exact h
theorem aa5 (hn:4*64+8<=n) (t:gz) (j:uA t) (g:xw σ) (hm:σ.mode=8) (I:σ.kept=7\/σ.kept=11\/σ.kept=12) (G:σ.gq≠[]) (y:GL σ t) (J:DY σ < 990000) (aa:σ.waiting.length < 4000):RT 580 σ (gR false (n+6) 8 t σ):=by
 have F:MS σ:=g.ms;have C:∀t,uA t->GL σ t->RT 580 σ (mj (gR true (n+5)) (gR false (n+5)) t σ):=by
  intro t j y;have h1:=A5 (n:=n+4) g.iv G g.wz (by unfold DY at J;omega);unfold mj;rw[M.gm];revert h1;cases pc (gR true (n+4+1)) σ with
  |ok u σ1=>
   rintro⟨K,O,a3,Q,H,T,U,V,X,N,E⟩;dsimp only;have i2:mN {σ1 with waiting:=[],mode:=σ1.kept}:=K.mq rfl rfl rfl rfl rfl rfl rfl;have hb:pT σ1.kept=true:=by rw[Q];rcases I with e|e|e<;>(rw[e];rfl)
   have h2:=Re hn t j (σ:={σ1 with waiting:=[],mode:=σ1.kept}) i2 (.inr (.inr (.inr (.inr ⟨hb,O⟩)))) (λ_=>(F.2 (.inl (by omega))).of E) (λhs=>X.trans (y hs)) (by show wt σ1 < _;unfold DY at J;omega) (by simp);have h3:=RG.tail h2;show RT 580 σ ((jM (gR false (n+5)) t>>=λ_=>(Pure.pure ():M Unit)) {σ1 with waiting:=[],mode:=σ1.kept});have h4:RG 380 {σ1 with waiting:=[],mode:=σ1.kept} ((jM (gR false (n+5)) t>>=λ_=>(Pure.pure ():M Unit)) {σ1 with waiting:=[],mode:=σ1.kept}):=h3;revert h4;cases(jM (gR false (n+5)) t>>=λ_=>(Pure.pure ():M Unit)) {σ1 with waiting:=[],mode:=σ1.kept} with
   |ok v σ2=>
    rintro⟨Y,Z,k,b4⟩;have hl:σ2.waiting.length<=0+1:=k.wt;refine⟨⟨Y,Z,λx z=>(k.wz x z).elim (λh=>by cases h) id⟩,k.gH.trans H,k.pL.trans T,k.qH.trans U,k.oO.trans V,by omega,?_,λi s q=>k.nm i s (E i s q)⟩;have a0:wt σ2<=wt σ1+380:=b4;grind[DY]
   |stop c p=>exact λh=>y6 h H
   |stuck=>simp[RG]
  |stop c p=>exact λh=>h
  |stuck=>simp[L6]
 have⟨a,b,kk,gx⟩:=t;cases kk with
 |lost=>exact absurd rfl j.nl
 |jW s=>
  have KC:RT 580 σ (oC ⟨a,b,.jW s,gx⟩ σ):=by
   rw[Dn (by omega)];cases sM s with
   |true=>grind[RT]
   |false=>
    refine⟨⟨g.iv.mq rfl rfl rfl rfl rfl rfl rfl,⟨.inr (.inr ⟨hm,I,G⟩),F.2⟩,?_⟩,rfl,rfl,rfl,rfl,by simp,?_,λ_ _ h=>h⟩
    .intro x z;rcases List.mem_append.1 (show x∈σ.waiting++[(a,b,s)]from z)with z|z
     .exact g.wz x z
     .rw[List.mem_singleton.1 z];exact j.sz
    .show wt σ+200*(σ.waiting++[(a,b,s)]).length<=_;grind[DY]
  exact Bt (sp:=kJ) (P:=RT 580 σ) rfl rfl rfl KC KC
 |gJ s=>exact ju j.nl (sp:=kJ) (P:=RT 580 σ) rfl rfl (C _ j y)
 |iH s q=>exact ju j.nl (sp:=kJ) (P:=RT 580 σ) rfl rfl (C _ j y)
 |start nm=>exact ju j.nl (sp:=kJ) (P:=RT 580 σ) rfl rfl (C _ j y)
 |stop nm=>exact ju j.nl (sp:=kJ) (P:=RT 580 σ) rfl rfl (C _ j y)
 |ie=>exact ju j.nl (sp:=kJ) (P:=RT 580 σ) rfl rfl (C _ j y)
abbrev vO:Nat:=300
def acs (t:gz) (x:uA t) (g:xw σ) (u:GL σ t) (y:DY σ < 990000) (j:σ.waiting.length < 4000):RT 580 σ (gR false vO σ.mode t σ):=by
 have C:wt σ < 990000:=by unfold DY at y;omega
 rcases g.ms.1 with h|⟨k,p,q,z⟩|⟨k,p,q⟩
 .exact(Re (n:=295) (by omega) t x g.iv h g.ms.2 u (by omega) j).rt g.wz
 .rw[k];exact(aa4 (n:=294) (by omega) t x g.iv k p q z g.ms.2 u (by omega) j).rt g.wz
 .rw[k];exact aa5 (n:=294) (by omega) t x g k p q u y j
def RTk (σ:Ab) (t:gz) (r:pC Unit):Prop:=match r with
 | .ok _ σ'=>xw σ'/\σ'.pL=σ.pL/\σ'.qH=σ.qH/\σ'.oO=σ.oO/\σ'.waiting.length<=σ.waiting.length+1/\DY σ'<=DY σ+580/\∀i s,iT σ i s->iT σ' i s
 | .stop _ p=>p=t.a
 | .stuck=>False
theorem abp (t:gz) (Q:t.k= .lost\/uA t) (g:xw σ) (I:GL σ t) (N:DY σ < 990000) (j:σ.waiting.length < 4000):RTk σ t (qV (gR false vO) t σ):=by
 have O:t.k≠ .lost->RTk σ t ((if σ.behind&&kh t.chars ye then .ok () {σ with behind:=false,gH:=t.a} else jM (gR false vO) t {σ with behind:=false,gH:=t.a}):pC Unit):=by
  intro J;have k:uA t:=Q.resolve_left J;have x:xw {σ with behind:=false,gH:=t.a}:=⟨g.iv.mq rfl rfl rfl rfl rfl rfl rfl,g.ms,g.wz⟩;split
  .exact⟨x,rfl,rfl,rfl,ly _,y7 _ _,λ_ _ h=>h⟩
  .have h:=acs t k x (λK=>I K) N j;show RTk σ t (gR false vO σ.mode t {σ with behind:=false,gH:=t.a});revert h;cases gR false vO ({σ with behind:=false,gH:=t.a}:Ab).mode t {σ with behind:=false,gH:=t.a} with
   |ok u σ'=>rintro⟨y,T,z,C,E,F,G,H⟩;exact⟨y,z,C,E,F,G,H⟩
   |stop c p=>exact λh=>h
   |stuck=>simp[RT]
 have⟨a,b,kk,gx⟩:=t;cases kk with
 |lost=>exact⟨g,rfl,rfl,rfl,ly _,y7 _ _,λ_ _ h=>h⟩
 |jW s=>grind[qV]
 |gJ s=>grind[qV]
 |iH s q=>grind[qV]
 |start nm=>grind[qV]
 |stop nm=>grind[qV]
 |ie=>grind[qV]
theorem LK (g j:List UInt8):∀(k:Nat) (s:List UInt8),(Lib.replaceK g j k s).length<=s.length+k*j.length
 |0,s=>by simp[Lib.replaceK]
 |k+1,s=>by
  rw[Lib.replaceK];split
  .omega
  .have h:=LK g j k (s.drop ((Lib.index s g).toNat+g.length));grind
theorem vU (s:gn):(oq s).size<=4*s.size+3:=by
 have e1:s.size=s.data.toList.length:=Ch s;have e2:(oq s).size=(Lib.replaceAll s.data.toList (ByteArray.mk #[0]).data.toList (ByteArray.mk #[239,191,189]).data.toList).length:=by
  rw[Ch];simp[oq]
 rw[e1,e2];unfold Lib.replaceAll Lib.replace;split
 .omega
 .have g:=LK (ByteArray.mk #[0]).data.toList (ByteArray.mk #[239,191,189]).data.toList (Lib.replaceNum s.data.toList (ByteArray.mk #[0]).data.toList (-1)) s.data.toList;have h:Lib.replaceNum s.data.toList (ByteArray.mk #[0]).data.toList (-1)=Lib.count s.data.toList (ByteArray.mk #[0]).data.toList:=by
   unfold Lib.replaceNum;rw[gN (.inl (by decide))]
  have j:=Lib.count_le s.data.toList (ByteArray.mk #[0]).data.toList;grind
def WH:Q7->Prop
 | .Xf t=>t.size<=100
 | .SD _ L=>L.length<=1024/\∀p∈L,p.2.size<=1048576
 | .fin _ L=>L.length<=1024/\∀p∈L,p.2.size<=1048576
 |_=>True
def y9 (R:RC) (bg:Nat):zC->Prop
 | .stop=>True
 | .tok kd m=>bg < m/\m<=R.cs.size/\1<=vg kd/\(vg kd≠1->m=R.cs.size\/bt R.cs (m - 1)=62)/\WH kd
def WY (h:pre (R.cs.extract ps R.cs.size) iO=true):bt R.cs ps=62:=by
 have:=D5 (j:=0) h (by decide);rw[Nat.add_zero]at this;exact this.trans rfl
theorem RR (h:ps<=R.cs.size):qY R ps=R.cs.size\/(ps < qY R ps/\bt R.cs (qY R ps - 1)=62):=by
 unfold qY taken;split
 .rename_i j;right;have F:ps<=scan (jl iO) R.cs ps:=sQ;have e:(ByteArray.mk #[62]).size=1:=rfl;rw[e];exact⟨by omega,by rw[QX];exact WY j⟩
 .rename_i j;left;rcases uW (scan (jl iO) R.cs ps) R.cs.size with k|z
  .exfalso;apply j;have y:=XP (bt_nonneg _ _) (bt_le _ _) (aa2 k);have E:(R.cs.extract (scan (jl iO) R.cs ps) R.cs.size).size=R.cs.size - scan (jl iO) R.cs ps:=by simp
   generalize scan (jl iO) R.cs ps=i at *;unfold pre;have p:(ByteArray.mk #[62]).size=1:=rfl;rw[p];have u:bt ((R.cs.extract i R.cs.size).extract 0 1) 0=62:=by
    rw[Mo (by omega) (by omega),Nat.zero_add];rw[Mo (by omega) (gW _),Nat.add_zero];exact y
   have g:((R.cs.extract i R.cs.size).extract 0 1).size=1:=by simp;omega
   rw[E];have G:(R.cs.extract i R.cs.size).extract 0 1=iO:=by
    generalize (R.cs.extract i R.cs.size).extract 0 1=X at u g;have⟨⟨l⟩⟩:=X
    match l,g with
    |[x],_=>
     have:(x.toNat:Int)=62:=u;have C:x=62:=by apply UInt8.toNat_inj.1;show x.toNat=62;omega
     rw[C]
   grind
  .have:=pt (q:=jl iO) h;omega
def NT (h:∀x t,look x=some t->t.size<=16) (q:R.cs.size<=1024) (ps:Nat):(rN look lg R ps).size<=1048576:=by
 unfold rN;split
 .have g:=vU ⟨(uM look lg (mQ R (my R (my R ps+1)))).toArray⟩;have j:=Ap (lg:=lg) h (mQ R (my R (my R ps+1)));have k:=BP (R:=R) (ps:=my R (my R ps+1));have p:(ByteArray.mk (uM look lg (mQ R (my R (my R ps+1)))).toArray).size=(uM look lg (mQ R (my R (my R ps+1)))).length:=by simp[ByteArray.size]
  omega
 .decide
theorem KH (h:∀x t,look x=some t->t.size<=16) (q:R.cs.size<=1024) {L : lh} (j:∀p∈L,p.2.size<=1048576):∀p∈qT R look lg L ps,p.2.size<=1048576:=by
 unfold qT uB;split
 .exact j
 .intro p k;rcases List.mem_append.1 k with g|g
  .grind
  .obtain rfl:=List.mem_singleton.1 g;exact NT h q _
theorem Qv (y:∀x t,look x=some t->t.size<=16) (C:R.cs.size<=1024):∀(n:Nat) {L:lh} {ps m:Nat} {j:lh},R.cs.size - ps<=n->lH R look lg L ps= .whole m j->L.length<=ps->(∀p∈L,p.2.size<=1048576)->ps < m/\m<=R.cs.size/\bt R.cs (m - 1)=62/\j.length<=m/\∀p∈j,p.2.size<=1048576:=by
 intro n
 induction n with
 |zero=>
  intro L ps m j z g;have q:=sx (R:=R) (ps:=ps);rw[lH,dif_neg (by omega)]at g;cases g
 |succ n ih=>
  intro L ps m j z g H k;have q:=sx (R:=R) (ps:=ps);rw[lH]at g;split at g
  .split at g
   .rename_i h u;obtain⟨rfl,rfl⟩:=GN.whole.inj g;exact⟨by omega,by omega,by rw[QX];exact WY u,by omega,k⟩
   .split at g
    .cases g
    .have E:=vT (R:=R) (ps:=iZ R ps);have F:=x9 (R:=R) (ps:=jZ R (iZ R ps));have G:=F5 (R:=R) (look:=look) (lg:=lg) (L:=L) (ps:=iZ R ps);have:=ih (by omega) g (by omega) (KH y C k);grind
  grind
theorem Qw (k:∀x t,look x=some t->t.size<=16) (u:R.cs.size<=1024) {g : gn->lh->Q7} (j:bg < R.cs.size) (z:bg < ps) (q:∀L,1<=vg (g nm L)/\(L.length<=1024->(∀p∈L,p.2.size<=1048576)->WH (g nm L))):y9 R bg (sT R g nm (lH R look lg [] (xY R ps))):=by
 have y:=abl (R:=R) (ps:=ps);cases h:lH R look lg [] (xY R ps)with
 |stop=>trivial
 |lost=>exact⟨j,gW _,by decide,λ_=> .inl rfl,trivial⟩
 |whole m L=>
  have:=Qv k u _ (gW _) h (iP _) (by simp);grind[y9,sT]
def YY (h:∀x t,look x=some t->t.size<=16) (k:R.cs.size<=1024) (nm:gn) (g:bg < R.cs.size) (j:bg < ps):y9 R bg (sT R .SD nm (lH R look lg [] (xY R ps))):=Qw h k g j (λL=>⟨(by decide:1<=2),λa b=>⟨a,b⟩⟩)
def XC (h:∀x t,look x=some t->t.size<=16) (k:R.cs.size<=1024) (nm:gn) (g:bg < R.cs.size) (j:bg < ps):y9 R bg (sT R .fin nm (lH R look lg [] (xY R ps))):=Qw h k g j (λL=>⟨(by decide:1<=3),λa b=>⟨a,b⟩⟩)
def D6 (g:∀x t,look x=some t->t.size<=16) (p:bg < R.cs.size):y9 R bg (uZ R look lg bg):=by
 have j:=Cv (look:=look) (lg:=lg) (s:=R.cs.extract bg R.cs.size);have k:=Fo (look:=look) (lg:=lg) (s:=R.cs.extract bg R.cs.size) (by simp;omega);have q:(R.cs.extract bg R.cs.size).size=R.cs.size - bg:=by simp
 exact⟨by omega,by omega,gW _,λh=>absurd rfl h,jH (vJ g) (by decide)⟩
theorem Y6 (k:∀x t,look x=some t->t.size<=16) (u:bg < R.cs.size):y9 R bg (yV R look lg bg):=by
 have p:=Cv (look:=look) (lg:=lg) (s:=R.cs.extract bg R.cs.size);have q:=Fo (look:=look) (lg:=lg) (s:=R.cs.extract bg R.cs.size) (by simp;omega);have y:(R.cs.extract bg R.cs.size).size=R.cs.size - bg:=by simp
 unfold yV;split
 .refine⟨by omega,by omega,gW _,λh=>absurd rfl h,?_⟩;have g:=vU (R.cs.extract bg (bg+1));have j:(R.cs.extract bg (bg+1)).size=1:=by simp;omega
  grind[WH]
 .refine⟨by omega,by omega,gW _,λh=>absurd rfl h,?_⟩;have g:=vU (rv look lg (R.cs.extract bg R.cs.size));have j:=vJ (look:=look) (lg:=lg) (s:=R.cs.extract bg R.cs.size) k;grind[WH]
def yC {k : Q7} (u:bg < ps) (g:ps<=R.cs.size) (p:1<=vg k) (j:WH k):y9 R bg (.tok k (qY R ps)):=by
 have q:=XJ (R:=R) (ps:=ps);refine⟨by omega,Ic g,p,λ_=>?_,j⟩;rcases RR g with h|⟨_,h⟩
 all_goals omega
def SA (j:∀x t,look x=some t->t.size<=16) (q:R.cs.size<=1024) (g:bg < R.cs.size) (k:bg < ps) (p:ps<=R.cs.size):y9 R bg (mJ R look lg bg ps):=by
 unfold mJ;split
 .exact XC j q _ g k
 .split
  .rename_i h;have:ps+1<=R.cs.size:=lu h p;exact⟨by omega,this,by decide,λ_=> .inr (by rw[QX];exact WY h),trivial⟩
  .split
   .exact D6 j g
   .exact yC k p (show 1<=4 by decide) trivial
def Vu (k:∀x t,look x=some t->t.size<=16) (u:R.cs.size<=1024) (j:bg < R.cs.size) (q:bg < ps) (g:ps<=R.cs.size):y9 R bg (qJ R look lg bg ps):=by
 unfold qJ;split
 .exact YY k u _ j q
 split
 .rename_i h;exact SA k u j (by omega) (lu h g)
 split
 .rename_i h;have p:ps+3<=R.cs.size:=lu h g;have z:=UX (R:=R) (ps:=ps+3);refine⟨by omega,KX p,(show 1<=4 by decide),λ_=>?_,trivial⟩;rcases Ov p with h|⟨_,h⟩
  all_goals omega
 split
 .rename_i h;have y:ps+8<=R.cs.size:=Pc h g;have:=acD (R:=R) (ps:=ps+8);exact yC (by omega) (Hi y) (show 1<=5 by decide) trivial
 split
 .rename_i h;exact yC (by omega) (lu h g) (show 1<=4 by decide) trivial
 split
 .exact yC q g (show 1<=4 by decide) trivial
 .exact D6 k j
def IF (p:∀x t,look x=some t->t.size<=16) (u:R.cs.size<=1024) (q:ps < R.cs.size):y9 R ps (kU R look lg ps)/\(∀k m,kU R look lg ps= .tok k m->vg k≠1->bt R.cs ps=60):=by
 unfold kU;rw[gI (by omega)];split
 .split
  .rename_i h;refine⟨Vu (R:=tH R ps) p u q (by omega) (lu h (by omega)),λ_ _ _ _=>?_⟩;have:=D5 (j:=0) h (by decide);rw[Nat.add_zero]at this;exact this.trans rfl
  .refine⟨D6 (R:=tH R ps) p q,λk m h g=>?_⟩;unfold uZ at h;obtain⟨rfl,_⟩:=zC.tok.inj h;exact absurd rfl g
 .refine⟨Y6 (R:=tH R ps) p q,λk m h g=>?_⟩;unfold yV at h;split at h
  .obtain⟨rfl,_⟩:=zC.tok.inj h;exact absurd rfl g
  .obtain⟨rfl,_⟩:=zC.tok.inj h;exact absurd rfl g
def Pu:kU R look lg R.cs.size= .tok .Va R.cs.size:=by simp[kU]
def WH.tok {k : Q7} (h:WH k) (a b:Nat):(rl a b k).k= .lost\/uA (rl a b k):=by
 cases k with
 |lost=>simp[rl]
 |Xf t=>exact .inr ⟨h,rfl,by simp[rl]⟩
 |SD nm L=>exact .inr ⟨(by decide:(0:Nat)<=100),by unfold we;exact List.all_eq_true.2 (λp g=>uR (h.2 p g)),by simp[rl]⟩
 |fin nm L=>exact .inr ⟨(by decide:(0:Nat)<=100),by unfold we;exact List.all_eq_true.2 (λp g=>uR (h.2 p g)),by simp[rl]⟩
 |Va=>exact .inr ⟨(by decide:(0:Nat)<=100),rfl,by simp[rl]⟩
 |Wq t=>exact .inr ⟨(by decide:(0:Nat)<=100),rfl,by simp[rl]⟩
 |dtp n q=>exact .inr ⟨(by decide:(0:Nat)<=100),rfl,by simp[rl]⟩
def WH.len {k : Q7} (h:WH k) (a b:Nat):(rl a b k).gM.length<=1024:=by
 cases k with
 |SD nm L=>exact h.1
 |fin nm L=>exact h.1
 |_=>simp[rl]
def Pm (k:Nat) (w:gr):
  Calls prog 42 #[.iface 73 (gF k)] w λe w'=>e=ir (gF k)/\w'=w:=by
 have h:∀(v:gG) (g:TypeId) (w:gr),(Instr.typeAssert (.iface 73 v) g 73 true).run prog w= .ok (.tuple #[v,.bool true]) w:=λv g w=>by
  simp[Instr.typeAssert,qv underlying73]
 go_enter func42,ntmps42;go_wp2;go_ret;simp
theorem DD (g h:Nat) (k:Nat) (w:gr) (v:gG) (p:w.heap[g]?=some (gy #[v,.pointer none] 67)) (x:w.heap[h]?=some (gy #[.pointer none] 73)) (u:g≠h) (q:h≠g):
  CallsD prog 41 #[gF g,gF h] (.panicking [{v:= .iface 73 (gF k),recovered:=false}]) w λe I w'=>
   e=o9/\I= .panicking [{v:= .iface 73 (gF k),recovered:=true}]/\w'.heap[g]?=some (gy #[jV,.pointer none] 67)/\w'.heap[h]?=some (gy #[gF k] 73)/\Kept [g,h] w w':=by
 have F:=fO p 0;have G:=fO p 1;have H:=fO x 0;have K:=gu p 0;have N:=gu p 1;have O:=gu x 0;dsimp at F G H;have z:Hid (∃W,W=((w.setCell ⟨g,0,none⟩ (jV)).setCell ⟨g,1,none⟩ (.pointer none)).setCell ⟨h,0,none⟩ (gF k)/\W.heap[g]?=some (gy #[jV,.pointer none] 67)/\W.heap[h]?=some (gy #[gF k] 73)/\Kept [g,h] w W):=by
  refine⟨_,rfl,?_,?_,?_⟩
  .rw[Below.heap_setCell _ _ _ _ u];exact fV (fV p 0 _) 1 _
  .refine fV (c:=#[.pointer none]) ?_ 0 _;rw[Below.heap_setCell _ _ _ _ q,Below.heap_setCell _ _ _ _ q];exact x
  .exact(((Kept.refl [g,h] w).setCell (.inl (by simp)) _).setCell (.inl (by simp)) _).setCell (.inl (by simp)) _
 refine callsD_of_wpS func41 rfl λj J y=>?_;apply wpS_seq;apply wpS_region;simp[wpOpsS,go_sem,recoverD,y,ntmps41,Exit.thenS];have C:=y;refine wpS_of_wp ?_;have E:(#[gF g,gF h]++((Array.replicate 7 undef).setIfInBounds 1 (Value.iface 73 (gF k))).setIfInBounds 0 (Value.iface 73 (gF k)))=#[gF g,gF h,.iface 73 (gF k),.iface 73 (gF k),undef,undef,undef,undef,undef]:=rfl;rw[E];go_wp21;refine(Pm k _).mono ?_;rintro e w' ⟨rfl,rfl⟩;go_wp2;have y:=C;have⟨W,hW,h1,h2,h3⟩:=z;rw[<-hW];cases j;simp_all[bodyPostS,results,results41]
theorem Lk.map (h:Lk w b look):∃p k,w.heap[b]?=some (Obj.map p k):=by
 have q:=h.run ⟨#[]⟩ w rfl;have u:=qv (w:=w) (show prog.underlying 156=some (.map 9 203) by simp);have g:∀o,w.heap[b]?=some o->(∀c e f,o≠ .cells c e f)->(getObj b).run prog w= .ok o w:=by
  intro o y z;cases o with
  |cells c e f=>grind
  |_=>simp[getObj,Sem.run,y]
 cases hb:w.heap[b]? with
 |none=>
  have x:=h.lt;grind
 |some o=>
  cases o with
  |map p k=>simp
  |cells c e f=>
   exfalso;have j:(getObj b).run prog w= .halt (Halt.stuck "getObj: a row of cells") w:=by simp[getObj,Sem.run,hb]
   simp[Instr.lookup,u,j,Result.andThen]at q
  |_=>
   exfalso;have j:=g _ hb (by simp);simp[Instr.lookup,u,j,Result.andThen,Go.stuck,Sem.run]at q
def Fr.map {bs : Nat} (h:Fr bs w w') (e:w.heap[b]?=wl.heap[b]?) (g:Lk wl b look):w'.heap[b]?=w.heap[b]?:=h.calm (.inl (by rw[e];exact g.map))
theorem KT.map {bs : Nat} {T : List TypeId} (h:KT bs T w w') (e:w.heap[b]?=wl.heap[b]?) (j:Lk wl b look):w'.heap[b]?=w.heap[b]?:=by
 have⟨es,ck,hm⟩:=j.map;rw[<-e]at hm;have⟨S,hk,hS⟩:=h;have g:b < w.heap.size:=(Array.getElem?_eq_some_iff.1 hm).1;refine hk.block b g λk=>?_;grind
inductive Zy where
 |stop (e p:Nat)
 |done (σ:Ab) (L:List Sp)
 |stuck
def Ae (R:RC) (σ:Ab) (ps:Nat) (t:gz):Ab:={σ with fresh:=t.oT,nD:=(zY (QR R σ.nD σ.iX) ps).nD}
def pq (R:RC) (look:gn->Option gn) (lg:Nat) (cut:Nat->Nat):Nat->Nat->Ab->List Sp->Zy
 |0,_,_,_=> .stuck
 |n+1,ps,σ,L=>match kU (QR R σ.nD σ.iX) look lg ps with
  | .stop=> .stop 7 (cut ps)
  | .tok k m=>match qV (gR false vO) (rl (cut ps) (cut m) k) (Ae R σ ps (rl (cut ps) (cut m) k))with
   | .stop e p=> .stop e p
   | .stuck=> .stuck
   | .ok _ σ'=>if vg k=0 then .done σ' L else pq R look lg cut n m σ' (sj L ⟨(vg k:Int),cut ps,cut m⟩)
structure RgV (w:gr) (bm bB bD r b:Nat) (C:jE) (R:RC) (g cap:Nat) (cut:Nat->Nat) (base:Nat) (wl:gr) (ps bg:Nat) (σ:Ab) (v:gG) (L:List Sp) (wr:gr):Prop where
 rel:∃fl w0 tv ta,fl 0=bD/\RF (OO w.heap.size bm bB r C R bg ps w0 tv ta) fl σ wr
 gx:KM wr r R g cap cut
 aty:∃cA,wr.heap[g]?=some (gy cA 3)
 lk:wr.heap[b]?=wl.heap[b]?
 tb:wr.heap[w.heap.size+1]?=some (gy #[v,.pointer none] 67)
 sb:wr.heap[w.heap.size+2]?=some (gy #[.pointer none] 73)
 own:wr.ownsRow base 72 3 v L.length (kZ L)
 kept:Kept [] w wr
 le:ps<=R.cs.size
 len:L.length<=ps
 Tj:w.heap.size<=base/\base<=wr.heap.size
 rge:w.heap.size<=r
 pos:0 < σ.nodes.length
theorem RgV.next {bm U V r : Nat} {C : jE} {g F : Nat} {wr p : gr} (h:RgV w bm U V r b C R g F cut base wl ps bg σ v L wr) (y:Kept [r] wr p) {E H : Nat} {o : gn} (hr:Rd p r (QR R o σ.iX) E H) (a1:b≠r) (K:b < wl.heap.size)
  (N:wl.heap.size<=wr.heap.size) (x:gG) (u:lh) (Q:yi p x u) (O:u.length<=4096) (Y:Bool) (G:∀g,x.ownBlock=some g->wr.heap.size<=g):
  (∃I,I 0=V/\RF (OO w.heap.size bm U r C R E H p x u) I {σ with fresh:=Y,nD:=o} p)/\KM p r R g F cut/\(∃J,p.heap[g]?=some (gy J 3))/\p.heap[b]?=wl.heap[b]?/\p.heap[w.heap.size+1]?=some (gy #[v,.pointer none] 67)/\p.heap[w.heap.size+2]?=some (gy #[.pointer none] 73)/\p.ownsRow base 72 3 v L.length (kZ L)/\Kept [] w p:=by
 have⟨I,w0,tv,ta,h0,hrf⟩:=h.rel;have z:=hrf.rdV;have T:∀{k:Nat} {c:jE} {t:TypeId},wr.heap[k]?=some (gy c t)->t≠161->k∉[r]:=by
  intro k c t j Z hm;have e:=List.mem_singleton.1 hm;subst e;unfold Rd at z;rw[z]at j;simp at j;exact Z j.2.symm
 refine⟨⟨I,h0,hrf.Ud [161] (.jC y (λk j _=>by
  have e:=List.mem_singleton.1 j;subst e;exact⟨⟨_,_,_,z,by simp⟩,h.rge⟩)) (λt _ Z=>by grind) (by decide) hr x u Q O Y (λ_=>G) (λg hg=>jH h.kept.size (G g hg))⟩,h.gx.kept y,?_,(y.block b (mf K N) (by grind)).trans h.lk,y.at h.tb (T h.tb (by decide)),y.at h.sb (T h.sb (by decide)),y.ownsRow h.own ?_,h.kept.next y (by simpa using h.rge)⟩
 .have⟨J,hA⟩:=h.aty;exact⟨J,y.at hA (T hA (by decide))⟩
 .intro k j;rcases h.own.2 with⟨e,_⟩|⟨q,X,a0,e,_,hc,_⟩
  .rw[e]at j;cases j
  .rw[e]at j;have e3:=jz j;grind
def Ob (w:gr) (e:Ending) (w':gr):Zy->Prop
 | .stop c p=>∃k,e=ir (.tuple #[.agg #[jV,.pointer none],gF k])/\lL w' k c p/\Kept [] w w'
 | .done fin L=>∃v k E g,e=ir (.tuple #[.agg #[v,gF k],.pointer none])/\g 0=k/\RF E g fin w'/\w'.ownsRow w.heap.size 72 3 v L.length (kZ L)/\L.length<=1024/\Kept [] w w'
 | .stuck=>False
theorem Qo {k p : Nat} (z:W.heap[w.heap.size+1]?=some (gy #[v,.pointer none] 67)) (y:W.heap[w.heap.size+1+1]?=some (gy #[.pointer none] 73)) (g:lL W k c p) (q:Kept [] w W) (j:Kept [w.heap.size+1,w.heap.size+1+1] W w'):lL w' k c p/\Kept [] w w':=by
 refine⟨j.at g ?_,q.next j (λx u=> .inr ?_)⟩
 .intro h;rcases List.mem_cons.1 h with e|h
  .rw[e]at g;unfold lL at g;grind
  .have e:=List.mem_singleton.1 h;rw[e]at g;unfold lL at g;grind
 grind
def Ym (R:RC) (o:gn) (p:Bool) (ps:Nat):zY (QR R o p) ps=QR R (zY (QR R o p) ps).nD p:=by unfold zY;split<;>rfl
theorem YM (s:gn) (tv:gG) (base d f l:Nat) (w:gr) (ho:w.ownsRow base 5 1 tv s.size (kV s)) (hs:s.size<=1024) (hd:d<=64) (hf:f<=32) (hl:l<=16) (hT:yh w) (bq:L5 w) (an:∀av b,pq (vW s l av b) (pG KV) 8 (kA s) ((zr s).size+1) 0 (S0 d f l 0) []≠ .stuck):
  Calls prog 28 #[tv,.agg #[ga d,ga f,ga l]] w λe w'=>∃av b,Ob w e w' (pq (vW s l av b) (pG KV) 8 (kA s) ((zr s).size+1) 0 (S0 d f l 0) []):=by
 have bW:∀(fn:Fn) (first J:jE) (w:gr),(Instr.makeFunc fn first J).run prog w= .ok (.func fn first J) w:=λ_ _ _ _=>rfl;obtain⟨w0,a5⟩:∃w0,w0=((w.alloc (gy #[ga d,ga f,ga l] 64)).alloc (gy #[jV,.pointer none] 67)).alloc (gy #[.pointer none] 73):=⟨_,rfl⟩;have ae:Kept [] w w0:=by rw[a5];exact(((Kept.refl _ _).alloc _).alloc _).alloc _
 have HZ:w0.heap.size=w.heap.size+3:=by rw[a5];simp
 have au:w0.heap[w.heap.size]?=some (gy #[ga d,ga f,ga l] 64):=by
  rw[a5,Below.heap_alloc _ _ _ (by simp;omega),Below.heap_alloc _ _ _ (by simp)];exact fQ w _
 have bl:w0.heap[w.heap.size+1]?=some (gy #[jV,.pointer none] 67):=by
  rw[a5,Below.heap_alloc _ _ _ (by simp)];have:=fQ (w.alloc (gy #[ga d,ga f,ga l] 64)) (gy #[jV,.pointer none] 67)
  simpa using this
 have bn:w0.heap[w.heap.size+2]?=some (gy #[.pointer none] 73):=by
  have:=fQ ((w.alloc (gy #[ga d,ga f,ga l] 64)).alloc (gy #[jV,.pointer none] 67)) (gy #[.pointer none] 73);rw[a5];simpa using this
 have CN:=Km s tv base (l:Int) w0 (ae.ownsRow ho (λ_ _=>by simp)) hs;have c0:=fO au 0;have c1:=fO au 1;have c2:=fO au 2;dsimp at c0 c1 c2;have⟨ao,cp,htv⟩:=gv ho;subst htv;have HW:=fN a5.symm;have aY:=hT;clear a5
 go_enter_defers func28,ntmps28
 go_wp21;rw[HW.out];refine CN.mono ?_;rintro e w1 ⟨r,b,av,g,J,rfl,hr,hb,bt,bk,be,bh,aV,bp,a3⟩;have g1:=a3.at au (by simp);have d0:=fO g1 0;have d1:=fO g1 1;have d2:=fO g1 2;dsimp at d0 d1 d2;have bo:=aY.fr (bm:=0) (.gP (ae.trans a3));have CB:=ac7 (d:Int) (f:Int) (l:Int) (.func 45) #[gF r] #[] w1 bo;have HB:=And.intro hr (And.intro hb bt);go_wp21;refine CB.mono ?_;rintro e w2 ⟨bm,bB,bD,rfl,hN⟩;have Q:=hN.k;have b0:Rd w2 r (vW s l av b) 0 0:=bk.kept Q (by simp);have⟨C,fl,hfl,hrf⟩:=ac8 w.heap.size bm bB bD r d f l w1 w2 (vW s l av b) hN b0 rfl rfl hd hf hl (by grind) (by omega);obtain⟨R,hR⟩:∃R,R=vW s l av b:=⟨_,rfl⟩;have bf:R.cs=zr s:=by rw[hR];rfl
 have bX:R.nD=⟨#[]⟩:=by rw[hR];rfl
 have bY:R.YA=false:=by rw[hR];rfl
 have bC:R.mv= .map (some b):=by rw[hR];rfl
 have bv:R.lg=(8:Nat):=by rw[hR];rfl
 have bR:R.at_=(l:Int):=by rw[hR];rfl
 have ba:R.cs.size<=1024:=by rw[bf,AC];have:=Gv s s.size;omega
 rw[<-hR]at hrf;obtain⟨O,hO⟩:∃O,O=pq R (pG KV) 8 (kA s) (R.cs.size+1) 0 (S0 d f l 0) []:=⟨_,rfl⟩;have HO:=hO.symm;have af:Hid (∀e w',Ob w e w' O->∃av b,Ob w e w' (pq (vW s l av b) (pG KV) 8 (kA s) ((zr s).size+1) 0 (S0 d f l 0) [])):=λe w' h=>⟨av,b,by grind⟩;have bi:O≠ .stuck:=by rw[hO,hR];exact an av b
 have bj:Hid (RgV w bm bB bD r b C R g J (kA s) w2.heap.size w2 0 0 (S0 d f l 0) (jV) [] w2):=fN
  {rel:=⟨fl,w2,jV,[],hfl,hrf⟩
   lk:=rfl
   gx:=by have:=be;rw[<-hR]at this;exact this.kept (Q.mono (by simp))
   aty:=by have⟨cA,hA⟩:=bp;exact⟨cA,Q.at hA (by simp)⟩
   tb:=Q.at (a3.at bl (by simp)) (by simp)
   sb:=Q.at (a3.at bn (by simp)) (by simp)
   own:=py _ _ _ _
   kept:=(ae.trans a3).trans Q
   le:=iP _
   len:=gW _
   Tj:=⟨jH (jH ae.size a3.size) Q.size,gW _⟩
   rge:=by omega
   pos:=by simp[S0]}
 have F:=fN (bh.kept Q (by simp));have aX:=bq;have bQ:=(ae.trans a3).trans Q;go_wp21
 go_loopw [] (λwr=>∃n ps bg σ v L,RgV w bm bB bD r b C R g J (kA s) w2.heap.size w2 ps bg σ v L wr/\pq R (pG KV) 8 (kA s) n ps σ L=O/\R.cs.size - ps < n) (λwr=>R.cs.size - (match wr.cell? ⟨r,3,none⟩with|some v=>(intOf v).toNat|none=>0))
 case atStart=>exact⟨R.cs.size+1,0,0,_,_,[],bj,HO,by omega⟩
 case round=>
  have⟨n,ps,bg,σ,v,L,h1,HGO,hnn⟩:=hrel;obtain⟨n,rfl⟩:∃k,n=k+1:=⟨n - 1,by omega⟩;have b6:Rd wr r (QR R σ.nD σ.iX) bg ps:=by have⟨_,_,_,_,_,hr⟩:=h1.rel;exact hr.rdV
  have P0:=b6.ps;have I:=h1;have bu:Gl wr r:=by
   have⟨Y,hl⟩:=aX.kept h1.kept;exact⟨Y,hl,λe=>by have:=h1.rge;have:=aX.2;omega⟩
  have bF:S8 wr r (QR R σ.nD σ.iX) g J b 8 (pG KV) (kA s):=⟨⟨h1.gx.av,h1.gx.ne,h1.gx.lt,h1.gx.at_⟩,⟨⟨mf F.lt h1.Tj.2,F.short,λbJ w' e=>F.run bJ w' (e.trans h1.lk)⟩,aV,bC,bv,by decide⟩,bu,ba⟩;have V:=ada r (QR R σ.nD σ.iX) bg ps g J b 8 (pG KV) (kA s) wr b6 bF h1.le;rw[Ym]at V;have ak:ps < R.cs.size->y9 (QR R σ.nD σ.iX) ps (kU (QR R σ.nD σ.iX) (pG KV) 8 ps):=λh=>(IF (R:=QR R σ.nD σ.iX) F.short ba h).1;have aF:ps=R.cs.size->kU (QR R σ.nD σ.iX) (pG KV) 8 ps= .tok .Va R.cs.size:=λe=>by rw[e];exact Pu (R:=QR R σ.nD σ.iX)
  have bO:=h1.le;rw[pq]at HGO;obtain⟨on,b5⟩:∃on,on=(zY (QR R σ.nD σ.iX) ps).nD:=⟨_,rfl⟩;have b9:∀t,Ae R σ ps t={σ with fresh:=t.oT,nD:=on}:=λt=>by rw[b5];rfl
  rw[<-b5]at V;cases hT:kU (QR R σ.nD σ.iX) (pG KV) 8 ps with
  |stop=>
   rw[hT]at V HGO;dsimp only at HGO;have CX:=fN V;have EO:=fN HGO.symm;clear V HGO;go_wp21;refine CX.mono ?_;rintro e w3 ⟨k,rfl,an,bU,aa⟩;have⟨_,_,_,_,_,hrf⟩:=I.rel;have aI:=hrf.rdV;have ne:∀{k:Nat} {c:jE} {t:TypeId},wr.heap[k]?=some (gy c t)->t≠161->k∉[r]:=by
    intro k c t y ht Y;have e:=List.mem_singleton.1 Y;subst e;unfold Rd at aI;rw[aI]at y;simp at y;exact ht y.2.symm
   have a1:=aa.at I.tb (ne I.tb (by decide));have a0:w3.heap[w.heap.size+1+1]?=_:=aa.at I.sb (ne I.sb (by decide));have Z:=I.kept.next aa (by simpa using I.rge);have H:=And.intro a1 (And.intro a0 (And.intro an Z));go_wp2;refine leaves_cons (f:=41) (args:=#[gF (w.heap.size+1),gF (w.heap.size+1+1)]) (by simp) (by simp[go_sem]) ?_;refine(DD (w.heap.size+1) (w.heap.size+1+1) k w3 v H.1 H.2.1 (by omega) (by omega)).mono ?_;rintro e u' bc ⟨rfl,rfl,t9,s9,k9⟩;have HF:=fN (Qo H.1 H.2.1 H.2.2.1 H.2.2.2 k9);have q0:=fO t9 0;have q1:=fO t9 1;have q2:=fO s9 0;dsimp at q0 q1 q2;simp[Go.Leaves,settle,results,results28,go_sem,q0,q1,q2];refine af _ _ ?_;rw[EO.out];exact⟨k,rfl,HF.1,HF.2⟩
  |tok k m=>
   rw[hT]at V HGO;dsimp only at HGO;have bS:vg k=0->k= .Va:=by cases k<;>simp[vg]
   have br:WH k:=by
    rcases uW ps R.cs.size with h|h
    .have:=ak h;rw[hT]at this;exact this.2.2.2.2
    .have:=aF (by omega);rw[hT]at this;obtain⟨rfl,_⟩:=zC.tok.inj this;trivial
   have bA:vg k≠0->ps < m/\m<=R.cs.size:=by
    intro aR;rcases uW ps R.cs.size with h|h
    .have:=ak h;rw[hT]at this;exact⟨this.1,this.2.1⟩
    .have:=aF (by omega);rw[hT]at this;obtain⟨rfl,_⟩:=zC.tok.inj this;exact absurd rfl aR
   have aG:=jH (br.len (kA s ps) (kA s m)) (show 1024<=4096 by decide);rw[b9]at HGO;have CX:=fN V;clear V;go_wp21;refine CX.mono ?_;rintro e w3 ⟨⟨vv,rfl,bI⟩,aa,bG⟩;obtain⟨T,x,tv,rfl,hV,aL,bH,b3,b4⟩:=bI.is aG;have⟨⟨fl,hfl,hrf⟩,X,ap,aB,a1,a0,aD,Z⟩:=I.next aa bG aV F.lt I.Tj.2 tv _ b3 aG (rl (kA s ps) (kA s m) k).oT b4;obtain⟨t,ht⟩:∃t,t=rl (kA s ps) (kA s m) k:=⟨_,rfl⟩;have E:=HGO;rw[<-ht]at hrf hV E;have hD:=λhh=>WG (OO w.heap.size bm bB r C R ps m w3 tv t.gM) rfl rfl bH vO t (λ_=>rfl) fl _ w3 hrf hh;have b1:=hV (OO w.heap.size bm bB r C R ps m w3 tv t.gM) rfl;cases hT1:qV (gR false vO) t {σ with fresh:=t.oT,nD:=on} with
   |stuck=>rw[hT1]at E;exact absurd E.symm bi
   |stop c p=>
    have D:=hD (by rw[hT1];simp);rw[hT1]at D E;dsimp only at E;have EO:=fN E.symm;have C2:Hid (Calls prog 47 #[gF bB,.iface T x] w3 λe W=>∃j,e=qs j/\lL W j c p/\Fr w.heap.size w3 W):=fN (by rwa [b1]at D);have HQ:=fN (And.intro a1 (And.intro a0 Z));clear E HGO;go_wp21;refine C2.mono ?_;rintro e w4 ⟨k,rfl,an,z⟩;have⟨a1,a0,Z⟩:=HQ;have a2:=z.zf a1 (by decide);have ab:w4.heap[w.heap.size+1+1]?=_:=z.zf a0 (by decide);have aA:=z.kept Z (gW _);have H:=And.intro a2 (And.intro ab (And.intro an aA));go_wp2;refine leaves_cons (f:=41) (args:=#[gF (w.heap.size+1),gF (w.heap.size+1+1)]) (by simp) (by simp[go_sem]) ?_;refine(DD (w.heap.size+1) (w.heap.size+1+1) k w4 v H.1 H.2.1 (by omega) (by omega)).mono ?_;rintro e u' bc ⟨rfl,rfl,t9,s9,k9⟩;have HF:=fN (Qo H.1 H.2.1 H.2.2.1 H.2.2.2 k9);have q0:=fO t9 0;have q1:=fO t9 1;have q2:=fO s9 0;dsimp at q0 q1 q2;simp[Go.Leaves,settle,results,results28,go_sem,q0,q1,q2];refine af _ _ ?_;rw[EO.out];exact⟨k,rfl,HF.1,HF.2⟩
   |ok u σ2=>
    have D:=hD (by rw[hT1];simp);rw[hT1]at D E;dsimp only at E;have aH:0 < ({σ with fresh:=t.oT,nD:=on}:Ab).nodes.length:=I.pos;have C2:Hid (Calls prog 47 #[gF bB,.iface T x] w3 λe W=>e=o9/\∃ay,ay 0=bD/\RF (OO w.heap.size bm bB r C R ps m w3 tv t.gM) ay σ2 W/\Fr w.heap.size w3 W/\0 < σ2.nodes.length):=
     fN (by
      rw[b1]at D;exact D.mono (λe W hL=>by
       have⟨ay,h5,h6,h7,h8,h9⟩:=hL;exact⟨h7,ay,(h5 0 aH).trans hfl,h8,h9,mf aH h6⟩))
    have HQ:=fN (And.intro X (And.intro ap (And.intro aB (And.intro a1 (And.intro a0 (And.intro aD Z))))));have aZ:=aa.size;clear HGO;go_wp21;refine C2.mono ?_;rintro e w4 ⟨rfl,aM,ai,am,z,aS⟩;have⟨X,ap,aB,a1,a0,aD,Z⟩:=HQ;have bL:w4.heap[b]?=w2.heap[b]?:=(z.map aB F).trans aB;have a2:=z.zf a1 (by decide);have ab:=z.zf a0 (by decide);have aA:=z.kept Z (gW _);have⟨cA,hA3⟩:=ap;have aN:=z.zf hA3 (by decide);have b2:KM w4 r R g J (kA s):=⟨X.av,X.ne,je aN,λi hi=>by rw[fO aN,<-fO hA3];exact X.at_ i hi⟩;have aT:w4.ownsRow w2.heap.size 72 3 v L.length (kZ L):=by
     refine⟨aD.1,?_⟩;rcases aD.2 with e|⟨q,a6,aw,e,h1,hc,r'⟩
     .exact .inl e
     .exact .inr ⟨q,a6,aw,e,h1,z.zf hc (by decide),r'⟩
    have aE:w2.heap.size<=w4.heap.size:=jH I.Tj.2 (jH aZ z.size);have ad:=aL.kind w4;by_cases az:vg k=0
    .rw[az]at ad;have CK:=fN ad;have aP:=E;rw[gN az]at aP;have EO:=fN aP.symm;clear ad aP;have CD:=OC _ _ _ _ am;have eD:nV aM 0=gF bD:=by unfold nV;rw[ai]
     rw[eD]at CD;have⟨ax,ac,hv⟩:=gv aT;subst hv;have c0:=fO a2 0;have c1:=fO a2 1;have c2:=fO (show w4.heap[w.heap.size+1+1]?=_ from ab) 0;have f0:=gu a2 0;have f1:=gu a2 1;have f2:=gu (show w4.heap[w.heap.size+1+1]?=_ from ab) 0;dsimp at c0 c1 c2;have HX:=fN (And.intro a2 (And.intro ab (And.intro aT (And.intro aA (And.intro am ai)))));go_wp21;refine CK.mono ?_;rintro e w5 ⟨rfl,rfl⟩;go_wp21;refine CD.mono ?_;rintro e w5 ⟨rfl,rfl⟩;have⟨tb5,sb5,ow5,kw5,hrf5,aj⟩:=HX;have aR:w.heap.size+1+1≠w.heap.size+1:=by omega
     have N:(w5.setCell ⟨w.heap.size+1,1,none⟩ (gF bD)).heap[w.heap.size+1]?=some (gy #[.slice ax L.length ac,gF bD] 67):=fV tb5 1 _;have aq:(w5.setCell ⟨w.heap.size+1,1,none⟩ (gF bD)).heap[w.heap.size+1+1]?=some (gy #[.pointer none] 73):=(Below.heap_setCell _ _ _ _ aR).trans sb5;have E1:=fN (nZ N 0 (.slice ax L.length ac) rfl);have E2:=fN (nZ N 1 (gF bD) rfl);have E3:=fN (nZ aq 0 (.pointer none) rfl);have q0:=fO N 0;have q1:=fO N 1;have q2:=fO aq 0;dsimp at q0 q1 q2;have G:Kept [w.heap.size+1] w5 (w5.setCell ⟨w.heap.size+1,1,none⟩ (gF bD)):=(Kept.refl _ _).setCell (.inl (by simp)) _;have a8:Rd w5 r (QR R σ2.nD σ2.iX) ps m:=hrf5.rdV;have bE:r∉[w.heap.size+1]:=by
      intro Y;have e:=List.mem_singleton.1 Y;unfold Rd at a8;rw[e,tb5]at a8;simp at a8
     have a9:=hrf5.Ud [67] (.jC G (λk y _=>by
      have e:=List.mem_singleton.1 y;subst e;exact⟨⟨_,_,_,tb5,by simp⟩,by omega⟩)) (by decide) (by decide) (a8.kept G bE) (jV) [] (py _ _ _ _) (iP _) σ2.fresh (λ_ g hg=>by simp[Value.ownBlock]at hg) (λg hg=>by simp[Value.ownBlock]at hg)
     have HF:Hid (Ob w (ir (.tuple #[.agg #[.slice ax L.length ac,gF bD],.pointer none])) (w5.setCell ⟨w.heap.size+1,1,none⟩ (gF bD)) O):=by
      rw[EO.out];refine fN ⟨_,bD,_,aM,rfl,aj,a9,?_,by have:=I.len;omega,kw5.setCell (.inr (by simp)) _⟩;refine jU (G.ownsRow ow5 (λq hq=>?_)) I.Tj.1;intro Y;have e:=List.mem_singleton.1 Y;subst e;rcases ow5.2 with⟨e2,_⟩|⟨q,a6,aw,e2,_,hc,_⟩
      .rw[e2]at hq;cases hq
      .rw[e2]at hq;have e3:=jz hq;subst e3;rw[tb5]at hc;simp at hc
     go_wp2;rw[E1.out,E2.out,E3.out];refine leaves_cons (f:=41) (args:=#[gF (w.heap.size+1),gF (w.heap.size+1+1)]) (by simp) (by simp[go_sem]) ?_;refine(PU ⟨w.heap.size+1,0,none⟩ ⟨w.heap.size+1+1,0,none⟩ _).mono ?_;rintro e u' bc ⟨rfl,rfl,rfl⟩;simp[Go.Leaves,settle,results,results28,go_sem,q0,q1,q2];exact af _ _ HF
    .have bz:=bA az;have CK:=fN ad;have aW:=E;rw[gI az]at aW;have bT:((vg k:Int)==0)=false:=beq_eq_false_iff_ne.2 (by omega);have bd:L.length<=1024:=by have:=I.len;have:=I.le;omega
     clear ad;have bw:=aL.gZ;have bN:=aL.nil;have CY:=Oq (kA s ps:Int) (kA s m:Int) w4;have aE:w2.heap.size<=w4.heap.size:=jH I.Tj.2 (jH aZ z.size);have HX:=fN (And.intro b2 (And.intro aN (And.intro bL (And.intro a2 (And.intro ab (And.intro aT (And.intro aA (And.intro am (And.intro ai aE)))))))));go_wp21;refine CK.mono ?_;rintro e w5 ⟨rfl,rfl⟩;go_wp21;refine CY.mono ?_;rintro e w6 ⟨rfl,G⟩;have⟨hat5,hA5,lk5,tb5,sb5,ow5,kw5,hrf5,aj,big5⟩:=HX;have N:=G.at tb5 (by simp);have K:=G.ownsRow ow5 (λ_ _=>by simp);have⟨ax,ac,hv⟩:=gv K;subst hv;have c6:=fO N 0;dsimp at c6;have CA:=Of w2.heap.size _ L ⟨(vg k:Int),kA s ps,kA s m⟩ w6 K (jH big5 G.size) (by omega);have HP:=fN (And.intro (hat5.kept (G.mono (by simp))) (And.intro (G.at hA5 (by simp)) (And.intro ((G.block b (mf F.lt big5) (by simp)).trans lk5) (And.intro N (And.intro (G.at sb5 (by simp)) (And.intro K (And.intro (kw5.trans G) (And.intro (hrf5.ib G) (And.intro aj (jH big5 G.size))))))))));go_wp21;refine CA.mono ?_;rintro e w7 ⟨v7,rfl,aU,U⟩;have⟨hat6,hA6,lk6,N,aq,K,kw6,a9,hfl6,big6⟩:=HP;have ne:∀{k:Nat} {c:jE} {t:TypeId},w6.heap[k]?=some (gy c t)->t≠72->k∉(Value.slice ax L.length ac).ownBlock.toList:=by
      intro k c t y ht Y;rcases K.2 with⟨e2,_⟩|⟨q,a6,aw,e2,_,hc,_⟩
      .rw[e2]at Y;simp[Value.ownBlock]at Y
      .rw[e2]at Y;simp[Value.ownBlock]at Y;subst Y;rw[y]at hc;simp at hc;exact ht hc.2
     have aJ:=a9.rdV;have bM:w7.heap[b]?=w2.heap[b]?:=(KT.map (bs:=w.heap.size) (T:=[72]) (.jC U (λk y _=>by
      obtain⟨c,m,hc⟩:=rL K (by simpa using y);exact⟨⟨_,_,_,hc,by simp⟩,by have h7:=(K.lt k (by simpa using y)).1;have h8:=I.Tj.1;omega⟩)) lk6 F).trans lk6
     have ar:=U.at N (ne N (by decide));have bb:=U.at aq (ne aq (by decide));have ag:=U.at hA6 (ne hA6 (by decide));have al:Rd w7 r (QR R σ2.nD σ2.iX) ps m:=U.at aJ (ne aJ (by decide));have ah:KM w7 r R g J (kA s):=⟨hat6.av,hat6.ne,je ag,λi hi=>by rw[fO ag,<-fO hA6];exact hat6.at_ i hi⟩;have bK:Kept [] w w7:=kw6.next U (λx hx=> .inr (by have h7:=(K.lt x (by simpa using hx)).1;have h8:=I.Tj.1;omega));have b7:=a9.Ud [72] (.jC U (λk y _=>by
      obtain⟨c,m,hc⟩:=rL K (by simpa using y);exact⟨⟨_,_,_,hc,by simp⟩,by have h7:=(K.lt k (by simpa using y)).1;have h8:=I.Tj.1;omega⟩)) (by decide) (by decide) al (jV) [] (py _ _ _ _) (iP _) σ2.fresh (λ_ g hg=>by simp[Value.ownBlock]at hg) (λg hg=>by simp[Value.ownBlock]at hg)
     have⟨a7,p7,hv7⟩:=gv aU;subst hv7;have c7:=fO ar 0;have f7:=gu ar 0;dsimp at c7;have a4:Kept [w.heap.size+1] w7 (w7.setCell ⟨w.heap.size+1,0,none⟩ (.slice a7 (sj L ⟨(vg k:Int),kA s ps,kA s m⟩).length p7)):=(Kept.refl _ _).setCell (.inl (by simp)) _;have aC:∀{k:Nat} {c:jE} {t:TypeId},w7.heap[k]?=some (gy c t)->t≠67->k∉[w.heap.size+1]:=by
      intro k c t y ht Y;have e:=List.mem_singleton.1 Y;subst e;rw[ar]at y;simp at y;exact ht y.2.symm
     have aK:Rd (w7.setCell ⟨w.heap.size+1,0,none⟩ (.slice a7 (sj L ⟨(vg k:Int),kA s ps,kA s m⟩).length p7)) r (QR R σ2.nD σ2.iX) ps m:=a4.at al (aC al (by decide));have b8:=b7.Ud [67] (.jC a4 (λk y _=>by
      have e:=List.mem_singleton.1 y;subst e;exact⟨⟨_,_,_,ar,by simp⟩,by omega⟩)) (by decide) (by decide) aK (jV) [] (py _ _ _ _) (iP _) σ2.fresh (λ_ g hg=>by simp[Value.ownBlock]at hg) (λg hg=>by simp[Value.ownBlock]at hg)
     have aO:=a4.at ag (aC ag (by decide));have HE:Hid (RgV w bm bB bD r b C R g J (kA s) w2.heap.size w2 m ps σ2 (.slice a7 (sj L ⟨(vg k:Int),kA s ps,kA s m⟩).length p7) (sj L ⟨(vg k:Int),kA s ps,kA s m⟩) (w7.setCell ⟨w.heap.size+1,0,none⟩ (.slice a7 (sj L ⟨(vg k:Int),kA s ps,kA s m⟩).length p7))):=fN
      {rel:=⟨aM,_,_,_,hfl6,b8⟩
       lk:=by
        rw[a4.block b (mf F.out.lt (jH big6 U.size)) (by
         intro Y;have e:=List.mem_singleton.1 Y;omega)]
        exact bM
       gx:=⟨ah.av,ah.ne,je aO,λi hi=>by rw[fO aO,<-fO ag];exact ah.at_ i hi⟩
       aty:=⟨_,aO⟩
       tb:=fV ar 0 _
       sb:=a4.at bb (aC bb (by decide))
       own:=a4.ownsRow aU (λq hq=>by
        rcases aU.2 with⟨e2,_⟩|⟨q',a6,aw,e2,_,hc,_⟩
        .rw[e2]at hq;cases hq
        .rw[e2]at hq;have e3:=jz hq;subst e3;exact aC hc (by decide))
       kept:=bK.setCell (.inr (by simp)) _
       le:=bz.2
       pos:=aS
       len:=by have h8:=UG L ⟨(vg k:Int),kA s ps,kA s m⟩;have h9:=I.len;omega
       Tj:=⟨I.Tj.1,jH (jH big6 U.size) a4.size⟩
       rge:=I.rge}
     have P8:=aK.ps;have aQ:R.cs.size - m < R.cs.size - ps:=by omega
     generalize hlq:(sj L ⟨(vg k:Int),kA s ps,kA s m⟩).length=bP at *;go_wp2;go_roundw
     case rel=>exact⟨n,m,ps,σ2,_,_,HE,aW,by omega⟩
     case measure=>rw[P8,P0];simpa [intOf]using aQ
def BM (σ:Ab):Prop:=6<=σ.mode\/σ.mode=5/\6<=σ.kept
def En (r:pC Unit):Prop:=∀u σ',r= .ok u σ'->BM σ'
def CQ {α:Type} {m:M α} {f:α->M Unit} (h:∀a g,m σ= .ok a g->En (f a g)):En ((m>>=f) σ):=by
 intro u σ' e;rw[M.gm]at e;cases hm:m σ with
 |ok a g=>rw[hm]at e;exact h a g hm u σ' e
 |stop c p=>rw[hm]at e;cases e
 |stuck=>rw[hm]at e;cases e
def yr {m:M Unit} (h:En (m σ)):En ((m>>=λ_=>(Pure.pure ():M Unit)) σ):=CQ λa j e u σ' g=>by
 cases g;exact h _ _ e
def vH {α j:Type} {m:M α} {f:α->M j} {b:j} (h:(m>>=f) σ= .ok b σ'):∃a g,m σ= .ok a g/\f a g= .ok b σ':=by
 rw[M.gm]at h;cases hm:m σ with
 |ok a g=>rw[hm]at h;exact⟨a,g,rfl,h⟩
 |stop c p=>rw[hm]at h;cases h
 |stuck=>rw[hm]at h;cases h
def RB.en {r : pC Unit} (h:RB c σ r):En r:=by
 rintro u σ' rfl;rcases h.2.1.sh with g|⟨g,j,_⟩|⟨g,_⟩
 .exact .inl (Cr g)
 .exact .inr ⟨g,Cr j⟩
 .exact .inl (by omega)
section
variable {a b n:Nat} {gx:lh} {σ:Ab}
def en6 (g:σ.mode=6):En (gR false (n+1) 6 ⟨a,b,.ie,gx⟩ σ):=by
 refine ju (sp:=ku) (P:=En) (by simp) rfl rfl ?_;intro u σ' e;cases e;exact .inl (by omega)
def en4:En (gR false (n+2) 4 ⟨a,b,.ie,gx⟩ σ):=by
 refine ju (sp:=mu) (P:=En) (by simp) rfl rfl ?_;show En (nk (gR false (n+1)) ⟨a,b,.ie,gx⟩ σ);unfold nk;exact CQ λ_ g _=>yr (m:=jM (gR false (n+1)) ⟨a,b,.ie,gx⟩) (σ:={g with mode:=6}) (en6 rfl)
def en3:En (gR false (n+3) 3 ⟨a,b,.ie,gx⟩ σ):=by
 refine ju (sp:=lD) (P:=En) (by simp) rfl rfl ?_;exact yr (m:=jM (gR false (n+2)) ⟨a,b,.ie,gx⟩) (σ:={σ.pop with mode:=4}) en4
def en2:En (gR false (n+4) 2 ⟨a,b,.ie,gx⟩ σ):=by
 refine ju (sp:=lf) (P:=En) (by simp) rfl rfl ?_;show En (oS (gR false (n+3)) ⟨a,b,.ie,gx⟩ σ);unfold oS;refine CQ λ_ g h=>yr ?_;unfold rB at h;obtain⟨_,_,_,h⟩:=vH h;obtain⟨_,_,_,h⟩:=vH h;obtain⟨_,j,_,h⟩:=vH h;cases h;exact en3
def en1:En (gR false (n+5) 1 ⟨a,b,.ie,gx⟩ σ):=by
 refine ju (sp:=ld) (P:=En) (by simp) rfl rfl ?_;show En (oR (gR false (n+4)) ⟨a,b,.ie,gx⟩ σ);unfold oR;refine CQ λ_ g h=>yr ?_;unfold rA at h;obtain⟨_,_,_,h⟩:=vH h;obtain⟨_,_,_,h⟩:=vH h;obtain⟨_,_,_,h⟩:=vH h;obtain⟨_,j,_,h⟩:=vH h;cases h;exact en2
def en0:En (gR false (n+6) 0 ⟨a,b,.ie,gx⟩ σ):=by
 refine ju (sp:=rY) (P:=En) (by simp) rfl rfl ?_;exact yr (m:=jM (gR false (n+5)) ⟨a,b,.ie,gx⟩) (σ:={σ with jB:=true,mode:=1}) en1
def Rc (C:4*64+8<=n) (z:uA ⟨a,b,.ie,gx⟩) (k:mN σ) (y:HS σ.mode σ.gq σ.head) (E:wt σ < 995000) (j:σ.waiting.length < 4000):En (gR false (n+6) σ.mode ⟨a,b,.ie,gx⟩ σ):=by
 rcases y with⟨g,_⟩|⟨g,_⟩|⟨g,_⟩|⟨g,_⟩|⟨g,q⟩
 .rcases uW σ.mode 1 with x|x
  .have e:σ.mode=0:=by omega
   rw[e];exact en0
  .have e:σ.mode=1:=by omega
   rw[e];exact en1 (n:=n+1)
 .rw[g];exact en2 (n:=n+2)
 .rw[g];exact en3 (n:=n+3)
 .rw[g];exact en4 (n:=n+4)
 .have u:σ.gq.length<=64:=by obtain⟨r,p⟩:=k;exact jH p.wC p.N2
  exact(GM 64 (n+6) (by omega) _ σ ⟨z,⟨k,q,g⟩,(λh=>by cases h),by omega,j,u⟩).en
def acr (z:uA ⟨a,b,.ie,gx⟩) (g:xw σ) (y:DY σ < 990000) (p:σ.waiting.length < 4000):En (gR false vO σ.mode ⟨a,b,.ie,gx⟩ σ):=by
 have Q:wt σ < 990000:=by unfold DY at y;omega
 rcases g.ms.1 with h|⟨q,C,x,N⟩|⟨q,C,x⟩
 .exact Rc (n:=294) (by omega) z g.iv h (by omega) p
 .rw[q];refine ju (n:=299) (sp:=qP) (P:=En) (by simp) rfl rfl ?_;obtain⟨K,_⟩:=Eu g.iv x;exact yr (m:=jM (gR false 299) ⟨a,b,.ie,gx⟩) (σ:={σ.pop with mode:=σ.kept}) (Rc (n:=293) (σ:={σ.pop with mode:=σ.kept}) (by omega) z (K.mq rfl rfl rfl rfl rfl rfl rfl) N (by show wt σ < _;omega) p)
 .rw[q];refine ju (n:=299) (sp:=kJ) (P:=En) (by simp) rfl rfl ?_;show En (mj (gR true 299) (gR false 299) ⟨a,b,.ie,gx⟩ σ);unfold mj;have k:=A5 (n:=298) g.iv x g.wz (by unfold DY at y;omega);refine CQ λu j e=>?_;have J:pc (gR true (298+1)) σ= .ok u j:=e;rw[J]at k;obtain⟨E,H,T,I,U,V,X,Y,Z,F,G⟩:=k;have O:pT j.kept=true:=by rw[I];rcases C with e|e|e<;>(rw[e];rfl)
  exact yr (m:=jM (gR false 299) ⟨a,b,.ie,gx⟩) (σ:={j with waiting:=[],mode:=j.kept}) (Rc (n:=293) (σ:={j with waiting:=[],mode:=j.kept}) (by omega) z (E.mq rfl rfl rfl rfl rfl rfl rfl) (.inr (.inr (.inr (.inr ⟨O,H⟩)))) (by show wt j < _;unfold DY at y;omega) (by show(0:Nat) < 4000;omega))
def WF (k:uA ⟨a,b,.ie,gx⟩) (g:xw σ) (j:DY σ < 990000) (h:σ.waiting.length < 4000):En (qV (gR false vO) ⟨a,b,.ie,gx⟩ σ):=by
 show En (if σ.behind&&kh (gz.chars ⟨a,b,.ie,gx⟩) ye then pC.ok () {σ with behind:=false,gH:=a} else jM (gR false vO) ⟨a,b,.ie,gx⟩ {σ with behind:=false,gH:=a});have e:kh (gz.chars ⟨a,b,.ie,gx⟩) ye=false:=(by decide+kernel:kh kC ye=false);rw[e,Bool.and_false,gI (by simp)];exact acr (σ:={σ with behind:=false,gH:=a}) k ⟨g.iv.mq rfl rfl rfl rfl rfl rfl rfl,g.ms,g.wz⟩ j h
end
def VD (R:RC) (σ:Ab) (ps:Nat) (t:gz):GL (Ae R σ ps t) t:=by
 intro h;have⟨a,b,k,gx⟩:=t;cases k<;>first|rfl|cases h
def Ib (g:xw σ) (R:RC) (ps:Nat) (t:gz):xw (Ae R σ ps t):=⟨g.iv.mq rfl rfl rfl rfl rfl rfl rfl,g.ms,g.wz⟩
def abG (R:RC) (cut:Nat->Nat) (ps:Nat) (σ:Ab):Zy->Prop
 | .stuck=>False
 | .stop _ p=>∃q,ps<=q/\q<=R.cs.size/\p=cut q
 | .done σ' _=>xw σ'/\DY σ'<=DY σ+580*(R.cs.size+1 - ps)/\σ'.pL=σ.pL/\σ'.qH=σ.qH/\σ'.oO=σ.oO/\BM σ'/\∀i s,iT σ i s->iT σ' i s
def VP (hk:∀x t,look x=some t->t.size<=16) (hz:R.cs.size<=1024):∀(n ps:Nat) (σ:Ab) (L:List Sp),ps<=R.cs.size->R.cs.size - ps < n->xw σ->DY σ+580*(R.cs.size+1 - ps) < 990000->σ.waiting.length+(R.cs.size+1 - ps) < 4000->abG R cut ps σ (pq R look lg cut n ps σ L):=by
 intro n
 induction n with
 |zero=>intro ps σ L E h2;omega
 |succ n ih=>
  intro ps σ L E h2 g hp hw;rw[pq];have j:ps < R.cs.size->y9 (QR R σ.nD σ.iX) ps (kU (QR R σ.nD σ.iX) look lg ps):=λh=>(IF (R:=QR R σ.nD σ.iX) hk hz h).1;have y:ps=R.cs.size->kU (QR R σ.nD σ.iX) look lg ps= .tok .Va R.cs.size:=λe=>by rw[e];exact Pu (R:=QR R σ.nD σ.iX)
  cases hT:kU (QR R σ.nD σ.iX) look lg ps with
  |stop=>exact⟨ps,gW _,E,rfl⟩
  |tok k m=>
   dsimp only;have C:WH k:=by
    rcases uW ps R.cs.size with h|h
    .have:=j h;rw[hT]at this;exact this.2.2.2.2
    .have:=y (by omega);rw[hT]at this;obtain⟨rfl,_⟩:=zC.tok.inj this;trivial
   have F:vg k≠0->ps < m/\m<=R.cs.size:=by
    intro z;rcases uW ps R.cs.size with h|h
    .have:=j h;rw[hT]at this;exact⟨this.1,this.2.1⟩
    .have:=y (by omega);rw[hT]at this;obtain⟨rfl,_⟩:=zC.tok.inj this;exact absurd rfl z
   have ht:=abp (rl (cut ps) (cut m) k) (C.tok _ _) (Ib g R ps (rl (cut ps) (cut m) k)) (VD R σ ps _) (by show DY σ < _;omega) (by show σ.waiting.length < _;omega);have ha:(rl (cut ps) (cut m) k).a=cut ps:=by cases k<;>rfl
   revert ht;cases hT1:qV (gR false vO) (rl (cut ps) (cut m) k) (Ae R σ ps (rl (cut ps) (cut m) k))with
   |stuck=>exact λh=>h.elim
   |stop c p=>
    intro h;refine⟨ps,gW _,E,?_⟩;rw[<-ha];exact h
   |ok u σ2=>
    rintro⟨G,H,I,J,N,Q,K⟩;have O:σ2.waiting.length<=σ.waiting.length+1:=N;have T:DY σ2<=DY σ+580:=Q;dsimp only;split
    .rename_i h0;refine⟨G,by omega,H,I,J,?_,K⟩;cases k with
     |Va=>exact WF ((C.tok _ _).resolve_left (by intro e;cases e)) (Ib g R ps _) (by show DY σ < _;omega) (by show σ.waiting.length < _;omega) _ _ hT1
     |_=>cases h0
    .rename_i z;obtain⟨m1,m2⟩:=F z;have h3:=ih m σ2 (sj L ⟨(vg k:Int),cut ps,cut m⟩) m2 (by omega) G (by omega) (by omega);revert h3;cases pq R look lg cut n m σ2 (sj L ⟨(vg k:Int),cut ps,cut m⟩)with
     |stuck=>exact λh=>h
     |stop c p=>rintro⟨q,q1,q2,q3⟩;exact⟨q,by omega,q2,q3⟩
     |done σ' L'=>rintro⟨U,b2,V,X,Y,Z,b7⟩;exact⟨U,by omega,V.trans H,X.trans I,Y.trans J,Z,λi s q=>b7 i s (K i s q)⟩
def Cm {e : zz} (h:(S0 d f l a).gV i=some e):e.ja=none/\e.kids=[]:=by rw[WC h];simp
def adN (g:d<=64) (C:f<=32):mN (S0 d f l a):=
 ⟨λ_=>0,{
  og:=⟨λi e p h q=>(by rw[(Cm h).1]at q;cases q),λi e j h u=>(by rw[(Cm h).2]at u;cases u),λi e h=>(by rw[(Cm h).2];simp[iE]),λi e h k y=>(by rw[(Cm h).2]at y;cases y)⟩
  sZ:=⟨λi e p h q=>(by rw[(Cm h).1]at q;cases q),List.Pairwise.nil,λd h E=>by cases E⟩
  gq:=λx G=>by cases G
  act:=λi F=>by cases F
  head:=λd g=>by cases g
  form:=λd g=>by cases g
  KU:=λx z h=>by cases h
  wC:=iP _
  zq:=iP _
  N2:=g
  Q0:=C
  wK:=rfl}⟩
def ZA (g:d<=64) (h:f<=32):xw (S0 d f l a):=⟨adN g h,⟨.inl (.inl ⟨iP _,rfl,rfl⟩),BH.low (iP _)⟩,λx j=>by cases j⟩
def WD:DY (S0 d f l a)<=1000:=by show([TP (.el ⟨⟨#[]⟩,[],none,[]⟩)].sum+200*0<=1000);decide
def sw (R:RC) (g h:gG) (lg:Int):RC:={R with av:=g,mv:=h,lg:=lg}
theorem Tr (R:RC) (g j:gG) (lg:Int):∀(n i:Nat),R.cs.size - i<=n->tf (sw R g j lg) i=tf R i
 |0,i,h=>by
  grind[tf,sw]
 |n+1,i,h=>by
  rw[tf.eq_1 (sw R g j lg) i,tf.eq_1 R i];show(if i < R.cs.size then (if pre (R.cs.extract i R.cs.size) e1=true then i+3 else if pre (R.cs.extract i R.cs.size) e2=true then i+4 else tf (sw R g j lg) (i+1))else i)=_;split
  .rw[Tr R g j lg n (i+1) (by omega)]
  .rfl
theorem Oz (R:RC) (g j:gG) (lg:Int) (a:Nat):∀(n i:Nat),R.cs.size - i<=n->pE (sw R g j lg) a i=pE R a i
 |0,i,h=>by
  grind[pE,sw]
 |n+1,i,h=>by
  rw[pE.eq_1 (sw R g j lg) a i,pE.eq_1 R a i];show(if i < R.cs.size then (if pre (R.cs.extract i R.cs.size) e1=true then R.cs.extract a i else if pre (R.cs.extract i R.cs.size) e2=true then R.cs.extract a i else pE (sw R g j lg) a (i+1))else yG (R.cs.extract a R.cs.size))=_;split
  .rw[Oz R g j lg a n (i+1) (by omega)]
  .rfl
def Jq (R:RC) (g k:gG) (j:Int) (look:gn->Option gn) (lg:Nat):∀(n:Nat) (L:lh) (i:Nat),R.cs.size - i<=n->lH (sw R g k j) look lg L i=lH R look lg L i
 |0,L,i,h=>by
  have q:=sx (R:=R) (ps:=i);rw[lH.eq_1 (sw R g k j) look lg L i,lH.eq_1 R look lg L i,dif_neg (by show ¬iZ R i < R.cs.size;omega),dif_neg (by omega)]
 |n+1,L,i,h=>by
  have q:=sx (R:=R) (ps:=i);rw[lH.eq_1 (sw R g k j) look lg L i,lH.eq_1 R look lg L i];by_cases p:iZ R i < R.cs.size
  .rw[xo (show iZ (sw R g k j) i < (sw R g k j).cs.size from p),xo p];have u:=vT (R:=R) (ps:=iZ R i);have x:=x9 (R:=R) (ps:=jZ R (iZ R i));have e:=Jq R g k j look lg n (qT R look lg L (iZ R i)) (pw R (jZ R (iZ R i))) (by omega);show(if pre (R.cs.extract (iZ R i) R.cs.size) iO=true then GN.whole (iZ R i+1) L else if yU R (L.map (·.1)) (iZ R i)=true then .stop else lH (sw R g k j) look lg (qT R look lg L (iZ R i)) (pw R (jZ R (iZ R i))))=_;rw[e]
  .rw[dif_neg (show ¬iZ (sw R g k j) i < (sw R g k j).cs.size from p),dif_neg p]
def YW (R:RC) (g j:gG) (h:Int) (look:gn->Option gn) (lg bg ps:Nat):mJ (sw R g j h) look lg bg ps=mJ R look lg bg ps:=by
 unfold mJ;rw[Jq R g j h look lg _ [] _ (gW _)];rfl
def UY (R:RC) (g j:gG) (h:Int) (ps:Nat):nC (sw R g j h) ps=nC R ps:=by
 unfold nC;rw[Tr R g j h _ ps (gW _)];rfl
def Rn (R:RC) (g j:gG) (h:Int) (ps:Nat):nN (sw R g j h) ps=nN R ps:=by
 unfold nN;rw[Oz R g j h _ _ ps (gW _)];rfl
def aaq (R:RC) (g j:gG) (h:Int) (look:gn->Option gn) (lg bg ps:Nat):qJ (sw R g j h) look lg bg ps=qJ R look lg bg ps:=by
 unfold qJ;rw[Jq R g j h look lg _ [] _ (gW _),YW,UY,Rn];have e:∀O,sT (sw R g j h) .SD (xZ (sw R g j h) ps) O=sT R .SD (xZ R ps) O:=λO=>by rfl
 rw[e];rfl
def aaw (R:RC) (g j:gG) (h:Int) (look:gn->Option gn) (lg ps:Nat):kU (sw R g j h) look lg ps=kU R look lg ps:=by
 unfold kU;have e:tH (sw R g j h) ps=sw (tH R ps) g j h:=rfl;rw[e,aaq];rfl
def LG (R:RC) (g q:gG) (j:Int) (look:gn->Option gn) (lg:Nat) (cut:Nat->Nat):∀(n ps:Nat) (σ:Ab) (L:List Sp),pq (sw R g q j) look lg cut n ps σ L=pq R look lg cut n ps σ L
 |0,_,_,_=>rfl
 |n+1,ps,σ,L=>by
  rw[pq,pq];have e:QR (sw R g q j) σ.nD σ.iX=sw (QR R σ.nD σ.iX) g q j:=rfl;rw[e,aaw];cases kU (QR R σ.nD σ.iX) look lg ps with
  |stop=>rfl
  |tok k m=>
   have e2:Ae (sw R g q j) σ ps (rl (cut ps) (cut m) k)=Ae R σ ps (rl (cut ps) (cut m) k):=by
    unfold Ae zY;by_cases h:ps=R.cs.size
    .rw[gN (show ps=(QR (sw R g q j) σ.nD σ.iX).cs.size from h),gN (show ps=(QR R σ.nD σ.iX).cs.size from h)];rfl
    .rw[gI (show ¬ps=(QR (sw R g q j) σ.nD σ.iX).cs.size from h),gI (show ¬ps=(QR R σ.nD σ.iX).cs.size from h)];rfl
   dsimp only;rw[e2];cases qV (gR false vO) (rl (cut ps) (cut m) k) (Ae R σ ps (rl (cut ps) (cut m) k))with
   |stuck=>rfl
   |stop c p=>rfl
   |ok u σ2=>
    dsimp only;rw[LG R g q j look lg cut n m σ2]
def ED (d f l:Nat) (s:gn):Zy:=pq (vW s l .nilFunc 0) (pG KV) 8 (kA s) ((zr s).size+1) 0 (S0 d f l 0) []
def LH (d f l:Nat) (s:gn) (g:gG) (b:Nat):pq (vW s l g b) (pG KV) 8 (kA s) ((zr s).size+1) 0 (S0 d f l 0) []=ED d f l s:=
 LG (vW s l .nilFunc 0) g (.map (some b)) 8 (pG KV) 8 (kA s) _ _ _ _
def Mx (s:gn):(zr s).size<=s.size:=by rw[AC];exact Gv s s.size
theorem FM:∀x t,pG KV x=some t->t.size<=16:=by
 intro x t g;unfold pG at g;obtain⟨p,h,rfl⟩:=Option.map_eq_some_iff.1 g;have:=List.all_eq_true.1 N7 p (List.mem_of_find?_eq_some h);grind
theorem LI (d f l:Nat) (s:gn) (p:s.size<=1024) (g:d<=64) (h:f<=32):abG (vW s l .nilFunc 0) (kA s) 0 (S0 d f l 0) (ED d f l s):=by
 have j:=Mx s;have k:=WD (d:=d) (f:=f) (l:=l) (a:=0);refine VP (R:=vW s l .nilFunc 0) FM (by grind[vW]) _ _ _ _ (iP _) ?_ (ZA g h) ?_ ?_
 .simp[vW]
 .show DY _+580*((zr s).size+1 - 0) < 990000;omega
 .show 0+((zr s).size+1 - 0) < 4000;omega
def VR (s:gn) (j:gG) (base d f l:Nat) (w:gr) (z:w.ownsRow base 5 1 j s.size (kV s)) (q:s.size<=1024) (k:d<=64) (p:f<=32) (y:l<=16) (x:yh w) (g:L5 w):
  Calls prog 28 #[j,.agg #[ga d,ga f,ga l]] w λe w'=>Ob w e w' (ED d f l s):=by
 refine(YM s j base d f l w z q k p y x g (λu b h=>?_)).mono ?_
 .rw[LH]at h;have:=LI d f l s q k p
  rwa [h]at this
 .rintro e w' ⟨u,b,h⟩
  rwa [LH]at h
def BJ (d f l:Int) (n:Nat) (v:gG) (k:Nat):jE:=#[ga d,ga f,ga l,jV,.bool true,ga n,.nilIface,v,gF k]
def abI (w:gr) (D:Tn) (L:List Sp) (e:Ending) (w':gr):Prop:=
 ∃v k,e=ir (.tuple #[.agg #[v,gF k],.pointer none])/\jA w' D (.el k)/\w'.ownsRow w.heap.size 72 3 v L.length (kZ L)/\L.length<=1024/\Kept [] w w'
def L9 (s:gn) (d f l:Nat) (D:Tn) (L:List Sp):Prop:=∀(g:gG) (base:Nat) (w:gr),w.ownsRow base 5 1 g s.size (kV s)->yh w->L5 w->
  Calls prog 28 #[g,.agg #[ga d,ga f,ga l]] w (abI w D L)
def acf (w:gr) (D:Tn) (L:List Sp) (v3 v4:gG) (wc:gr):Prop:=∃g v k,v3=gF g/\v4= .pointer none/\w.heap.size<=g/\wc.heap[g]?=some (gy #[v,gF k] 67)/\jA wc D (.el k)/\wc.ownsRow w.heap.size 72 3 v L.length (kZ L)/\L.length<=1024/\Kept [] w wc
theorem Hf {u : gr} {e : Ending} (h:abI W D L e u) (G:Kept [] w W):∃v k,e=ir (.tuple #[.agg #[v,gF k],.pointer none])/\(∃J n I,v= .slice J n I)/\acf w D L (gF u.heap.size) (.pointer none) (u.alloc (gy #[v,gF k] 67))/\
  (∀g,w.heap.size<=g->W.heap[g]?=some (gy #[jV,.pointer none] 67)->u.heap[g]?=some (gy #[jV,.pointer none] 67)/\acf w D L (gF g) (.pointer none) ((u.setCell ⟨g,0,none⟩ v).setCell ⟨g,1,none⟩ (gF k))):=by
 obtain⟨v,k,rfl,N,E,C,p⟩:=h;have Q:w.heap.size<=W.heap.size:=G.size;have j:=jU E Q;have H:=(Kept.refl [] u).alloc (gy #[v,gF k] 67);have⟨J,I,hv⟩:=gv E;refine⟨v,k,rfl,⟨_,_,_,hv⟩,⟨_,v,k,rfl,rfl,jH Q p.size,fQ u _,jA.kept H N,H.ownsRow j (λ_ _=>by simp),C,(G.trans p).trans H⟩,?_⟩;intro g x V;have y:=p.at V (by simp);have T:Kept [g] u ((u.setCell ⟨g,0,none⟩ v).setCell ⟨g,1,none⟩ (gF k)):=((Kept.refl _ _).setCell (.inl (by simp)) _).setCell (.inl (by simp)) _;refine⟨y,g,v,k,rfl,rfl,x,fV (fV y 0 _) 1 _,jA.kn (KN.jC T (λq z c t F O=>?_)) N,T.ownsRow j (λq z X=>?_),C,((G.trans p).setCell (.inr x) _).setCell (.inr x) _⟩
 .have e:=List.mem_singleton.1 z;subst e;rw[y]at F;simp at F;rw[<-F.2]at O;revert O;decide
 .have e:=List.mem_singleton.1 X;subst e;rcases j.2 with⟨e2,_⟩|⟨Z,K,U,e2,_,F,_⟩
  .rw[e2]at z;cases z
  .rw[e2]at z;have Y:=jz z;grind
def Gs (w:gr) (bx d f l:Nat) (s:gn) (D:Tn) (L:List Sp) (w':gr):Prop:=∃v k,w'.heap[bx]?=some (gy (BJ d f l s.size v k) 69)/\jA w' D (.el k)/\w'.ownsRow w.heap.size 72 3 v L.length (kZ L)/\L.length<=1024/\Kept [bx] w w'
def Rl (bx d f l:Nat) (tv:gG) (s:gn) (base:Nat) (w:gr) (z:w.heap[bx]?=some (gy (uN ((d:Int),(f:Int),(l:Int)) tv) 69)) (ho:w.ownsRow base 5 1 tv s.size (kV s)) (hT:yh w) (I:L5 w) (hn:L9 s d f l D L):
  Calls prog 18 #[gF bx] w λe w'=>e= .returned .nilIface/\Gs w bx d f l s D L w':=by
 have⟨ao,cp,htv⟩:=gv ho;subst htv;have a1:=je z;have c0:w.cell? ⟨bx,0,none⟩=some (ga d):=by rw[fO z];rfl
 have c1:w.cell? ⟨bx,1,none⟩=some (ga f):=by rw[fO z];rfl
 have c2:w.cell? ⟨bx,2,none⟩=some (ga l):=by rw[fO z];rfl
 have c3:w.cell? ⟨bx,3,none⟩=some (.slice ao s.size cp):=by rw[fO z];rfl
 have CI:=FG bx ((d:Int),(f:Int),(l:Int)) _ w z;have Q:=(λW (u:Kept [] w W)=>hn (.slice ao s.size cp) base W (u.ownsRow ho (λ_ _=>by simp)) (hT.fr (bm:=0) (.gP u)) (I.kept u));have HX:=z;have HG:=fQ w.drew (gy #[jV,.pointer none] 67);go_enter func18,ntmps18;go_wp21;refine CI.mono ?_;rintro e j ⟨rfl,rfl⟩;go_wp21
 go_cut [3,4]from 8 to 19 (λv3 v4 wc=>acf j D L v3 v4 wc)
 case first=>
  go_region_with (go_at_call 28;first
   |(refine(Q _ ((Kept.refl [] j).drew)).mono ?_;intro e O C;obtain⟨v,k,rfl,⟨H,n,G,rfl⟩,U,_⟩:=Hf C ((Kept.refl [] j).drew);have E:=fN U;clear U C)
   |(refine(Q _ (((Kept.refl [] j).drew).alloc _)).mono ?_;intro e O C;obtain⟨v,k,rfl,⟨H,n,G,rfl⟩,_,V⟩:=Hf C (((Kept.refl [] j).drew).alloc _);have⟨h3,h4⟩:=V j.heap.size (gW _) HG;have q0:O.cell? ⟨j.heap.size,0,none⟩=some (jV):=(by rw[fO h3];rfl);have q1:O.cell? ⟨j.heap.size,1,none⟩=some (.pointer none):=(by rw[fO h3];rfl);have z0:=gu h3 0;have z1:=gu h3 1;have E:=fN h4;clear V h3 h4 C))
  all_goals (try (go_wp21))
  all_goals (go_meet;exact E)
 case rest=>
  obtain⟨F,v,k,rfl,rfl,a0,I,x,h,y,u⟩:=hcut;have⟨H,G,hv⟩:=gv h;subst hv;have g:=u.at HX (by simp);have e3:wc.cell? ⟨bx,3,none⟩=some (.slice ao s.size cp):=by rw[fO g];rfl
  have e4:wc.cell? ⟨bx,4,none⟩=some (.bool false):=by rw[fO g];rfl
  have e5:wc.cell? ⟨bx,5,none⟩=some (ga 0):=by rw[fO g];rfl
  have e7:wc.cell? ⟨bx,7,none⟩=some (jV):=by rw[fO g];rfl
  have e8:wc.cell? ⟨bx,8,none⟩=some (.pointer none):=by rw[fO g];rfl
  have t0:wc.cell? ⟨F,0,none⟩=some (.slice H L.length G):=by rw[fO I];rfl
  have t1:wc.cell? ⟨F,1,none⟩=some (gF k):=by rw[fO I];rfl
  have f4:=gu g 4;have f5:=gu g 5;have f7:=gu g 7;have f8:=gu g 8;have a2:F≠bx:=by omega
  have Z:bx≠F:=by omega
  have Y:=je g;have T:=And.intro g (And.intro x (And.intro h (And.intro y u)));go_wp21
  go_cut []from 20 to 34 (λwd=>wd.heap[bx]?=some (gy #[ga d,ga f,ga l,.slice ao s.size cp,.bool true,ga s.size,.nilIface,.slice H L.length G,gF k] 69)/\Kept [bx] wc wd)
  case first=>
   go_region
   all_goals (try (go_wp21))
   all_goals (go_meet;exact⟨fV (fV (fV (fV T.1 _ _) _ _) _ _) _ _,(((((Kept.refl [bx] wc).setCell (.inl (by simp)) _).setCell (.inl (by simp)) _).setCell (.inl (by simp)) _).setCell (.inl (by simp)) _).drew⟩)
  case rest=>
   have⟨hx3,hk3⟩:=hcut;have⟨g,x,h,y,u⟩:=T;have g3:wc.cell? ⟨bx,3,none⟩=some (.slice ao s.size cp):=by rw[fO hx3];rfl
   have g6:wc.cell? ⟨bx,6,none⟩=some .nilIface:=by rw[fO hx3];rfl
   have y3:=gu hx3 3;have X:=je hx3;have N:=hk3.trans ((Kept.refl [bx] wc).setCell (p:=⟨bx,3,none⟩) (.inl (by simp)) (jV));have E:Hid (Gs j bx d f l s D L (wc.setCell ⟨bx,3,none⟩ (jV))):=fN ⟨_,k,fV hx3 3 _,jA.kn (KN.jC N (λq K c t J ht=>by
     have e:=List.mem_singleton.1 K;subst e;rw[g]at J;simp at J;rw[<-J.2]at ht;revert ht;decide)) x,N.ownsRow h (λq K hm=>by
     have e:=List.mem_singleton.1 hm;subst e;have:=(h.lt _ K).1;omega),y,(u.mono (by simp)).trans N⟩
   go_wp2;go_ret;exact⟨rfl,E⟩
def aaJ (bx d f l:Nat) (h:gG) (s:gn) (base:Nat) (w:gr) (z:w.heap[bx]?=some (gy (uN ((d:Int),(f:Int),(l:Int)) h) 69)) (y:w.ownsRow base 5 1 h s.size (kV s)) (q:yh w) (u:L5 w) (x:L9 s d f l D L):
  Calls prog 10 #[gF bx] w λe w'=>e=ir (.tuple #[ga 0,ga 0])/\Gs w bx d f l s D L w':=by
 have C:=Rl bx d f l h s base w z y q u x;go_enter func10,ntmps10;go_wp21;refine C.mono ?_;rintro e E ⟨rfl,j⟩;go_wp21;refine(DM E).mono ?_;rintro e F ⟨rfl,g⟩;have p:Hid (Gs w bx d f l s D L F):=by
  have⟨v,k,h1,h2,h3,h4,h5⟩:=j;exact fN ⟨v,k,g.at h1 (by simp),jA.kept g h2,g.ownsRow h3 (λ_ _=>by simp),h4,h5.trans (g.mono (by simp))⟩
 go_wp2;go_ret2;exact⟨rfl,p⟩
def ace (p:gr) (vv:gG) (q:gn->Bool):Prop:=∃k h,vv= .func (.func k) #[] h/\(∀g w,(callFunc k g).run prog w= .ok (.enter k g) w)/\∀W,Kept [] p W->∀s,Calls prog k (#[gw s]++h) W λe j=>e=ir (.bool (q s))/\j=W
theorem KB.row (h:KB w w') {g : Nat} (p:w.ownsRow base e g v n xs) (y:e∉[96,5]):w'.ownsRow base e g v n xs:=by
 refine⟨p.1,?_⟩;rcases p.2 with e2|⟨q,j,k,e2,u,x,z⟩
 .grind
 .exact .inr ⟨q,j,k,e2,u,h _ _ _ x y,z⟩
theorem RM (L:lh) (i:Nat) (h:i < L.length):(C9 L)[i*2]?=some (gw (L[i]).1)/\(C9 L)[i*2+1]?=some (gw (L[i]).2):=by
 induction L generalizing i with
 |nil=>simp at h
 |cons a L ih=>
  cases i with
  |zero=>simp
  |succ i=>
   grind
def Gd (s:gn):gn:=Nu (zu s) oN ol
def oT:Ev->Bool
 | .tx _=>false
 |_=>true
attribute [local go_sem] Oper.semAt_some
def Uw (w:gr) (bx:Nat) (c:jE) (k:Nat):Prop:=w.heap[bx]?=some (gy c 69)/\c[8]?=some (gF k)
def Uw.kept {k : Nat} {c : jE} (h:Uw w bx c k) (g:Kept [] w w'):Uw w' bx c k:=⟨g.at h.1 (by simp),h.2⟩
def Uw.wK {k : Nat} {c : jE} (h:Uw w bx c k):w.cell? ⟨bx,8,none⟩=some (gF k):=by rw[fO h.1,h.2]
def FD (w:gr) (bx k:Nat) (c:jE) (h:Uw w bx c k):
  Calls prog 21 #[gF bx] w λe w'=>e=ir (.bool true)/\w'=w:=by
 have j:=h.wK;have g:=je h.1;go_enter func21,ntmps21;go_wp2;go_ret;simp
def Vm (w:gr) (bx:Nat):
  Calls prog 20 #[gF bx] w λe w'=>e=ir (.func (.func 29) #[gF bx] #[])/\w'=w:=by
 have j:∀(h:Fn) (first g:jE) (w:gr),(Instr.makeFunc h first g).run prog w= .ok (.func h first g) w:=λ_ _ _ _=>rfl;go_enter func20,ntmps20;go_wp2;go_ret;simp
def aal (l k:Nat) (p:gn) (gx:lh) (x:List Tn) (y:gr) (h:jA y (.el p gx x) (.el k)) (J:List It->gr->Prop) (j:gr->Prop) (I:Zo l (kY (uv (λ_=>false) x)) y J j) (E:∀pre W g,J pre W->Kept [] W g->J pre g) (q:∀W g,j W->Kept [] W g->j g) (W:gr) (u:∀V b,W.heap.size<=b->Wk V b l false->j V->j (V.setCell ⟨b,1,none⟩ (.bool true))) (z:Kept [] y W) (H:J [] W):
  Calls prog 51 #[gF k,.func (.yield l) #[] #[]] W λe g=>e=o9/\(J (kY (uv (λ_=>false) x)) g\/j g)/\Kept [] y g:=by
 have F:=(Kept.refl [] W).alloc (gy #[.func (.yield l) #[] #[],.bool false] 199);have O:=fQ W (gy #[.func (.yield l) #[] #[],.bool false] 199);have C:=fN (ya (SP l W.heap.size _ y J j I z.size (λV=>u V _ (gW _)) E q) k p gx x h rfl _ (z.trans F) (.inl ⟨E _ _ _ H F,O⟩));clear h I E q u z H F O;generalize kY (uv (λ_=>false) x)=U at C|-;go_enter func51,ntmps51;go_wp2_with fail;refine C.out.mono ?_;rintro e G ⟨rfl,K,N⟩;have Q:=fN (show J U G\/j G from K.imp And.left And.left);have T:=fN N;clear K N;go_wp2;go_end0;exact⟨rfl,Q.out,T.out⟩
def abz (l bx k:Nat) (c:jE) (j:gn) (gx:lh) (z:List Tn) (q:gr) (C:Uw q bx c k) (h:jA q (.el j gx z) (.el k)) (J:List It->gr->Prop) (p:gr->Prop) (G:Zo l (kY (uv (λ_=>false) z)) q J p) (K:∀pre W g,J pre W->Kept [] W g->J pre g) (x:∀W g,p W->Kept [] W g->p g) (W:gr) (y:∀V b,W.heap.size<=b->Wk V b l false->p V->p (V.setCell ⟨b,1,none⟩ (.bool true))) (u:Kept [] q W) (F:J [] W):
  Calls prog 29 #[gF bx,.func (.yield l) #[] #[]] W λe g=>e=o9/\(J (kY (uv (λ_=>false) z)) g\/p g)/\Kept [] q g:=by
 have N:=fN (FD W bx k c (C.kept u));have E:=fN (aal l k j gx z q h J p G K x W y u F);have Z:=(C.kept u).wK;have T:=je (C.kept u).1;clear C h G K x y u F;generalize J (kY (uv (λ_=>false) z))=U at E|-;go_enter func29,ntmps29;go_wp2_with fail;refine N.out.mono ?_;rintro e X ⟨rfl,rfl⟩;go_wp2_with fail;refine E.out.mono ?_;rintro e Y ⟨rfl,H,I⟩;have O:=fN H;have Q:=fN I;clear H I;go_wp2;go_end0;exact⟨rfl,O.out,Q.out⟩
def Ask.toW {bm : Nat} {q : gn->Bool} (h:Ask bm v q w):ace w v q:=by
 have⟨k,lb,hv,he,ha⟩:=h.call;exact⟨k,lb,hv,he,λW g s=>ha W (.gP g) s⟩
attribute [local go_sem] Oper.semAt_some
def KW.put {o : Obj} (h:W.heap[l]?=some o) (j:o.isCells=false) (p:Obj):KW W (W.putObj l p):=by
 intro k c t g _;refine(rG ?_).trans g;rintro rfl;rw[h]at g;cases g;cases j
def KW.trans {B C : gr} (h:KW A B) (k:KW B C):KW A C:=λi c t j g=>k i c t (h i c t j g) g
def KW.jC {B : gr} (h:Kept [] A B):KW A B:=λi c t g _=>h.at g (by simp)
def FK {B : gr} (h:Kept S A B) (j:∀k∈S,∃c t m,A.heap[k]?=some (.cells c t m)):KeepsOthers A B:=by
 refine⟨h.size,λk o g q=>(h.block k (Array.getElem?_eq_some_iff.1 g).1 ?_).trans g⟩;intro p;have⟨c,t,m,hc⟩:=j k p;rw[g]at hc;cases hc;cases q
theorem aam {B : gr} (h:Kept S A B) (j:∀k∈S,∃c t m,A.heap[k]?=some (.cells c t m)/\t∉[199,295]):KW A B:=by
 intro k c t g p;refine(h.block k (Array.getElem?_eq_some_iff.1 g).1 ?_).trans g;grind
theorem TT (h:W.ownsRow base e sz v n xs) {o : Obj} (u:W.heap[l]?=some o) (x:o.isCells=false) (y:Obj):(W.putObj l y).ownsRow base e sz v n xs:=by
 refine⟨h.1,?_⟩;rcases h.2 with e|⟨g,j,k,e,q,p,r⟩
 .grind
 .refine .inr ⟨g,j,k,e,q,(rG ?_).trans p,r⟩;rintro rfl;rw[u]at p;cases p;cases x
theorem Lq (h:Kept S w W) (u:w.heap.size<=l) (p:Obj):Kept S w (W.putObj l p):=by
 have g:=Bl W l p;exact⟨g.os.trans h.os,g.tape.trans h.tape,g.output.trans h.output,jH h.size g.size,λk j q=>(g.block k (mf j h.size) (by grind)).trans (h.block k j q)⟩
def X4 (h:Kept [] w W) (j:w.heap.size<=l) (g:Obj):Kept [] w (W.putObj l g):=Lq h j g
theorem SS (h1:1<=n) (ro:jb) {g:Operand} {p:Tmp} {j z : Code} {Q:Exit->Act->gr->Prop} {a : Act} {gf : Nat} {recv : gG} (hg:a.eval g= .func (.func gf) #[recv] #[]) (eg:∀a8 w,(callFunc gf a8).run prog w= .ok (.enter gf a8) w)
  (a7:List It) (w0:gr)
  (ae:∀l J JE W,Zo l a7 w0 J JE->(∀pre W u,J pre W->Kept [] W u->J pre u)->(∀W u,JE W->Kept [] W u->JE u)->(∀V b,W.heap.size<=b->Wk V b l false->JE V->JE (V.setCell ⟨b,1,none⟩ (.bool true)))->J [] W->Kept [] w0 W->Calls prog gf #[recv,.func (.yield l) #[] #[]] W λe u=>e=o9/\(J a7 u\/JE u)/\Kept [] w0 u)
  (id:Nat) (T:List Deferred) (X:gr->Prop) (l:Nat) (O:w.heap.size<=l)
  (am:∀fn,∃D W1,(Instr.enterLoop fn a.tmps #[p] j z ro).run prog w= .ok (l,T) W1/\Kept [] w W1/\X W1/\W1.heap[l]?=some (.loop {state:= .ready,pending:=none,fn:=fn,tmps:=a.tmps,params:=#[p],assign:=j,body:=z,defers:=D}))
  (Y:∀W u,X W->KeepsOthers W u->X u) (ac:∀W o,X W->X (W.putObj l (.loop o)))
  (I:List It->gr->Prop) (E:gr->Prop) (ak:∀pre W,I pre W->Kept [] w0 W) (aq:∀W,E W->Kept [] w0 W) (a5:∀pre W u,I pre W->Kept [] W u->I pre u) (ar:∀W u,E W->Kept [] W u->E u)
  (ab:∀pre W k r o',w.heap.size<=k->W.heap[k]?=some (.loop r)->I pre W->I pre (W.putObj k (.loop o'))) (aj:∀W k r o',w.heap.size<=k->W.heap[k]?=some (.loop r)->E W->E (W.putObj k (.loop o')))
  (au:∀V b l,w.heap.size<=b->Wk V b l false->E V->E (V.setCell ⟨b,1,none⟩ (.bool true)))
  (h0:I [] w) (A:It->Act->gr->Prop) (ap:∀x a' W k r o',w.heap.size<=k->W.heap[k]?=some (.loop r)->A x a' W->A x a' (W.putObj k (.loop o')))
  (a0:∀(l:Nat) (pre:List It) (x:It) (W:gr) (K:Act->gr->Prop),I pre W->(∀a' u,Kept [] W u->A x a' u->K a' u)->
   j.wpIn (Fence.wide.inRound l) 3 prog (Exit.then K (λ_ _ _=>False)) {tmps:=a.tmps.setIfInBounds p x.val,defers:=[]} W)
  (ad:∀(l:Nat) (pre:List It) (x:It) (a':Act) (W:gr),w.heap.size<=l->(∃r,W.heap[l]?=some (.loop r))->I pre W->A x a' W->pre++[x] <+:a7->z.wpIn (Fence.wide.inRound l) 3 prog (λe _ u=>((e= .normal/\I (pre++[x]) u)\/(e= .exit id/\E u))/\KW W u/\KeepsOthers W u) a' W)
  (af:∀(W:gr),I a7 W->X W->Q .normal {a with defers:=T++a.defers} W)
  (ai:∀(W:gr),E W->X W->Q (.exit id) {a with defers:=T++a.defers} W):
  (Code.rangeFunc g #[p] j z).wpIn {Fence.wide with round:=ro} n prog Q a w:=by
 refine wpIn_rangeFunc ?_;intro fn ay;have⟨D,W1,hrun,kw1,hX1,hL1⟩:=am fn;obtain⟨y,a4⟩:∃y:LoopState->Option Code->Loop,y=λst pe=>{state:=st,pending:=pe,fn:=fn,tmps:=a.tmps,params:=#[p],assign:=j,body:=z,defers:=D}:=⟨_,rfl⟩;have er:∀st pe,y st pe={state:=st,pending:=pe,fn:=fn,tmps:=a.tmps,params:=#[p],assign:=j,body:=z,defers:=D}:=λ_ _=>by rw[a4]
 rw[<-er]at hL1;have ko:∀{A B:gr},Kept [] A B->KeepsOthers A B:=λh=>FK h (by simp);refine⟨l,T,W1,{target:= .fn (.func gf) #[],args:=#[recv,.func (.yield l) #[] #[]]},W1,gf,#[recv,.func (.yield l) #[] #[]],W1,hrun,?_,?_,?_,λ_=>h1,?_⟩
 .simp only[resolve,hg];simp[go_sem]
 .intro f' _;trivial
 .simp[invoke,go_sem,eg]
 .have hC:=ae l (λpre W=>I pre W/\W.heap[l]?=some (.loop (y .ready none))/\X W) (λW=>E W/\W.heap[l]?=some (.loop (y .done (some (.exit id))))/\X W) W1 ?_ ?_ ?_ ?_ ⟨a5 _ _ _ h0 kw1,hL1,hX1⟩ (ak _ _ (a5 _ _ _ h0 kw1))
  .refine CallsIn.mono (F:={Fence.wide with round:=ro}) (callsIn_wide.2 hC) ?_;rintro e W2 ⟨rfl,⟨Z,H,hx⟩|⟨Z,H,hx⟩,_⟩
   .have q:=EV (P:=prog) H (by rw[er];simp);rw[er]at q;exact⟨none,_,q,af _ (ab _ _ _ _ _ O H Z) (ac _ _ hx)⟩
   .have q:=EV (P:=prog) H (by rw[er];simp);rw[er]at q;exact⟨some (.exit id),_,q,wpIn_exit (ai _ (aj _ _ _ _ O H Z) (ac _ _ hx))⟩
  .rintro pre x W hK ⟨Z,H,hd⟩ an;have az:l < W.heap.size:=(Array.getElem?_eq_some_iff.1 H).1;have hy:(Instr.yield l #[x.val]).run prog W= .ok (.round l fn (a.tmps.setIfInBounds p x.val) j z) W:=by
    have:=run_yield (P:=prog) (args:=#[x.val]) H (by rw[er];rfl);rw[er]at this
    simpa using this
   refine⟨fn,_,j,z,hy,roundIn_of_wpIn trivial (a0 _ pre x W _ Z ?_)⟩;intro a' Wa a6 hA;have a2:Wa.heap[l]?=some (.loop (y .ready none)):=(a6.block _ (Array.getElem?_eq_some_iff.1 H).1 (by simp)).trans H;have aw:X Wa:=Y _ _ hd (ko a6);refine⟨_,run_beginRound a2 (by rw[er]),?_⟩;obtain⟨W2,U⟩:∃W2,W2=Wa.putObj l (.loop {y .ready none with state:= .busy}):=⟨_,rfl⟩;rw[<-U];have ax:I pre W2:=by rw[U];exact ab _ _ _ _ _ O a2 (a5 _ _ _ Z a6)
   have ao:A x a' W2:=by rw[U];exact ap _ _ _ _ _ _ O a2 hA
   have ah:W2.heap[l]?=some (.loop {y .ready none with state:= .busy}):=by rw[U];exact Cf (Array.getElem?_eq_some_iff.1 a2).1
   have al:X W2:=by rw[U];exact ac _ _ aw
   have a9:KW W W2:=by rw[U];exact(KW.jC a6).trans (KW.put a2 rfl _)
   refine Bk (ad _ pre x a' W2 O ⟨_,ah⟩ ax ao an) ?_;rintro e a3 W3 ⟨⟨rfl,ag⟩|⟨rfl,ag⟩,aa,N⟩
   .have G:=N.same _ _ ah rfl;have av:=Y _ _ al N;have q:=run_endRound (P:=prog) none G;have e1:({({y .ready none with state:= .busy}:Loop)with state:=if (none:Option Code).isNone then .ready else .done,pending:=none}:Loop)=y .ready none:=by subst a4;rfl
    rw[e1]at q;obtain⟨W4,C⟩:∃W4,W4=W3.putObj l (.loop (y .ready none)):=⟨_,rfl⟩;rw[<-C]at q;have a1:I (pre++[x]) W4:=by rw[C];exact ab _ _ _ _ _ O G ag
    refine⟨_,_,q,.inl ⟨rfl,a1,?_,?_⟩,ak _ _ a1,?_⟩
    .rw[C];exact Cf (Array.getElem?_eq_some_iff.1 G).1
    .grind
    .rw[C];exact(a9.trans aa).trans (KW.put G rfl _)
   .have G:=N.same _ _ ah rfl;have av:=Y _ _ al N;have q:=run_endRound (P:=prog) (some (.exit id)) G;have e1:({({y .ready none with state:= .busy}:Loop)with state:=if (some (Code.exit id):Option Code).isNone then .ready else .done,pending:=some (.exit id)}:Loop)=y .done (some (.exit id)):=by subst a4;rfl
    rw[e1]at q;obtain⟨W4,C⟩:∃W4,W4=W3.putObj l (.loop (y .done (some (.exit id)))):=⟨_,rfl⟩;rw[<-C]at q;have a1:E W4:=by rw[C];exact aj _ _ _ _ O G ag
    refine⟨_,_,q,.inr ⟨rfl,a1,?_,?_⟩,aq _ a1,?_⟩
    .rw[C];exact Cf (Array.getElem?_eq_some_iff.1 G).1
    .grind
    .rw[C];exact(a9.trans aa).trans (KW.put G rfl _)
  .rintro pre W u ⟨Z,H,hd⟩ hk;exact⟨a5 _ _ _ Z hk,(hk.block _ (Array.getElem?_eq_some_iff.1 H).1 (by simp)).trans H,Y _ _ hd (ko hk)⟩
  .rintro W u ⟨Z,H,hd⟩ hk;exact⟨ar _ _ Z hk,(hk.block _ (Array.getElem?_eq_some_iff.1 H).1 (by simp)).trans H,Y _ _ hd (ko hk)⟩
  .rintro V b hb hw ⟨Z,H,hd⟩;have N:=NV V ⟨b,1,none⟩ (.bool true);exact⟨au _ _ _ (jH kw1.size hb) hw Z,N.same _ _ H rfl,Y _ _ hd N⟩
theorem U8 {a : Act} {p:Tmp} {g h : Code}:∀k,∃D j,(Instr.enterLoop k a.tmps #[p] g h none).run prog w= .ok (w.heap.size+1,[{target:= .collected w.heap.size,args:=#[]}]) j/\Kept [] w j/\j.heap[w.heap.size]?=some (.deferred (some []))/\j.heap[w.heap.size+1]?=some (.loop {state:= .ready,pending:=none,fn:=k,tmps:=a.tmps,params:=#[p],assign:=g,body:=h,defers:=D}):=by
 intro k;refine⟨w.heap.size,_,run_enterLoop_outer _ _ _ _ _,((Kept.refl _ _).alloc _).alloc _,(Below.heap_alloc _ _ _ (by simp)).trans (EU w _),?_⟩;have:=EU (w.alloc (.deferred (some []))) (.loop {state:= .ready,pending:=none,fn:=k,tmps:=a.tmps,params:=#[p],assign:=g,body:=h,defers:=w.heap.size});simp_all
attribute [local go_sem] Oper.semAt_some
def vQ (L:List It):List gG:=L.flatMap λx=>[ga x.k,gw x.s,gw x.t]
def J8 (L M:List It):vQ (L++M)=vQ L++vQ M:=JC ..
def Vg:(prog.info? 61).map (λi=>(i.zero,i.size,i.bytes))=some (some (.agg #[ga 0,gw kC,gw kC]),3,40):=by kernel_rfl
theorem ZK {h : gr} {g : Nat} {z y : TypeId} {E : Nat} {v' : gG} {u : List gG} {o : Obj} (F:W.heap[g]?=some (gy #[v] z)) (J:W.ownsRow base y sz v n xs) (K:g < base) (p:h.ownsRow base y sz v' E u) (x:(W.alloc o).grownBy h v.ownBlock):
  h.heap[g]?=some (gy #[v] z)/\(h.setCell ⟨g,0,none⟩ v').heap[g]?=some (gy #[v'] z)/\(h.setCell ⟨g,0,none⟩ v').ownsRow base y sz v' E u/\Kept (g::v.ownBlock.toList) W (h.setCell ⟨g,0,none⟩ v'):=by
 have C:Kept v.ownBlock.toList W h:=((Kept.refl _ _).alloc _).grown x (λk e=> .inl (by grind));have j:=C.at F (λH=>by
  have:=(J.lt g (by grind)).1;omega)
 refine⟨j,fV j 0 _,((Kept.refl [g] h).setCell (.inl (by simp)) _).ownsRow p (λq I H=>?_),(C.mono (λk G _=>pX _ G)).setCell (.inl (by simp)) _⟩;have:=(p.lt q I).1;grind
theorem aaI {j : TypeId} (u:W.ownsRow base j sz v n xs):∀k∈v.ownBlock.toList,∃c,W.heap[k]?=some (gy c j):=by
 intro k h;rcases u.2 with⟨rfl,_⟩|⟨g,p,q,rfl,_,x,_⟩
 .simp[Value.ownBlock]at h
 .simp[Value.ownBlock]at h;grind
attribute [local go_sem] Oper.semAt_some
theorem Yh (w:gr) (bx k:Nat) (c:jE) (O:gn) (gx:lh) (ts:List Tn) (hp:Uw w bx c k) (h:jA w (.el O gx ts) (.el k)) (E:List It) (ht:kY (uv (λ_=>false) ts)=E) (hn:E.length<=1000000000):
  Calls prog 12 #[gF bx] w λe w'=>∃v,e=ir v/\w'.ownsRow w.heap.size 61 3 v E.length (vQ E)/\Kept [] w w':=by
 refine(xk (n:=5)).1 ?_;refine xl func12 rfl trivial ?_ rfl;simp only[ntmps12,wS,sW,wx,Nat.reduceAdd,Nat.reduceSub,wT,wU,wV,wW,sC,uT];have HP:=fN hp;have HT:=fN h;have a2:=fN ht;clear hp h ht
 gi_wp2_with (refine⟨trivial,?_⟩;gi_at_call 20;refine(callsIn_wide.2 (Vm _ bx)).mono ?_;rintro e w' ⟨rfl,rfl⟩)
 obtain⟨g,F⟩:∃g,g=w.alloc (gy #[jV] 27):=⟨_,rfl⟩;have z1:g.heap.size=w.heap.size+1:=by rw[F];simp
 have k1:Kept [] w g:=by rw[F];exact(Kept.refl _ _).alloc _
 have g1:g.heap[w.heap.size]?=some (gy #[jV] 27):=by rw[F];exact fQ w _
 rw[<-F];clear F;have⟨i0,hi,hz0,hz1,hz2⟩:=tj Vg;have HE:=fN (enters_of func29 (by rfl) rfl);have a1:=a2.out;have HC:=fN (λl J JE W hY hm a5 a6 h0 hK=>abz l bx k c O gx ts w HP.out HT.out J JE (by omega) hm a5 W a6 hK h0);rw[a1]at HC;clear a1;have a7:∀{W:gr},Kept [w.heap.size] g W->Kept [] w W:=λh=>k1.next h (by simp);refine SS (by omega) none (gf:=29) (recv:=gF bx) rfl HE.out E w HC.out 0 _ (λW=>W.heap[g.heap.size]?=some (.deferred (some []))) (g.heap.size+1) (by omega) U8 (λW W' h T=>T.same _ _ h rfl) (λW o h=>(rG (by omega)).trans h)
  (λpre W=>∃v,W.heap[w.heap.size]?=some (gy #[v] 27)/\W.ownsRow g.heap.size 61 3 v pre.length (vQ pre)/\Kept [w.heap.size] g W) (λ_=>False)
  (λ_ _ h=>by grind) (λ_ h=>h.elim) ?_ (λ_ _ h _=>h) ?_ (λ_ _ _ _ _ _ h=>h) (λ_ _ _ _ _ h=>h) ⟨_,g1,py _ _ _ _,Kept.refl _ _⟩
  (λx a' W=>∃X,g.heap.size<=X/\W.heap[X]?=some (gy #[ga x.k,gw x.s,gw x.t] 61)/\a'={tmps:=#[gF bx,undef,jV,gF w.heap.size,gF X,gF bx,.func (.func 29) #[gF bx] #[],x.val,undef,undef,undef,undef,undef],defers:=[]}) ?_ ?assign ?body ?done ?halt
 .rintro pre W W' ⟨v,p,y,z⟩ T;exact⟨v,T.at p (by simp),T.ownsRow y (λ_ _=>by simp),z.trans (T.mono (by simp))⟩
 .rintro pre W k r o' T hl ⟨v,p,y,z⟩;exact⟨v,(rG (by omega)).trans p,TT y hl rfl _,Lq z (by omega) _⟩
 .rintro x a' W k r o' T hl ⟨X,p,y,z⟩;refine⟨X,p,(rG ?_).trans y,z⟩;grind
 case assign=>
  rintro l pre x W K ⟨v,p,y,z⟩ hK;have hz:=z.size;gi_wp2;exact hK _ _ ((Kept.refl [] W).alloc _) ⟨W.heap.size,by omega,fQ W _,rfl⟩
 case body=>
  rintro l pre x a' W _ _ ⟨v,p,y,z⟩ ⟨X,hX,h4,rfl⟩ I;have H:pre.length+1<=E.length:=by have:=I.length_le;simpa using this
  have hz:=z.size;have c1:=fO p 0;have f1:=gu p 0;have x0:=fO h4 0;have x1:=fO h4 1;have x2:=fO h4 2;dsimp at c1 x0 x1 x2;have⟨ao,cp,hv⟩:=gv y;subst hv;have Y:=fN p;have C:=fN y;have Q:=fN z;have a4:=je p;have HB:=fN a4;have HZ:=fN hz;have G:=fN H;have Z:=fN hn;have a3:=fN z1;clear p y z h4 I hz H hn z1
  gi_wp2_with (gi_at_builtin;refine wpListIn_append_own _ rfl _ _ 27 rfl g.heap.size 61 i0 (.agg #[ga 0,gw kC,gw kC]) 3 40 underlying27 hi hz0 hz1 hz2 rfl (by decide) _ _ _ rfl (C.out.alloc _) ⟨W.heap.size,0,none⟩ 1 1 [ga x.k,gw x.s,gw x.t] rfl rfl ?c1 ?c2 ?c3 ?c4 ?c5 ?_)
  case c1=>
   intro j u hj;have hg:=fQ W (gy #[ga x.k,gw x.s,gw x.t] 61);rw[js,fO hg];grind
  case c2=>
   intro u hu;simp at hu;rcases hu with rfl|rfl|rfl<;>rfl
  case c3=>have:=G.out;have:=Z.out;unfold maxLen;omega
  case c4=>have:=G.out;have:=Z.out;omega
  case c5=>have:=HB.out;have:=HZ.out;have:=a3.out;simp;omega
  intro v' V U a0 _;have⟨ao',cp',hv'⟩:=gv U;subst hv';have⟨hB3,hB4,ho4,hk4⟩:=ZK Y.out C.out (by grind) U a0;have c3:=fO hB3 0;have f3:=gu hB3 0;dsimp at c3;have kk:Kept [w.heap.size] g (V.setCell ⟨w.heap.size,0,none⟩ (.slice ao' (pre.length+1) cp')):=Q.out.next hk4 (λq N=>by
   rcases List.mem_cons.1 N with rfl|N
   .simp
   .exact .inr (C.out.lt q (by simpa using N)).1)
  have ow:(V.setCell ⟨w.heap.size,0,none⟩ (.slice ao' (pre.length+1) cp')).ownsRow g.heap.size 61 3 (.slice ao' (pre.length+1) cp') (pre++[x]).length (vQ (pre++[x])):=by
   have e2:vQ (pre++[x])=vQ pre++[ga x.k,gw x.s,gw x.t]:=by rw[J8];rfl
   rw[e2,me];exact ho4
  have hS:∀k∈w.heap.size::(Value.slice ao pre.length cp).ownBlock.toList,∃c t m,W.heap[k]?=some (.cells c t m)/\t∉[199,295]:=λq N=>by
   rcases List.mem_cons.1 N with rfl|N
   .exact⟨_,_,_,Y.out,by decide⟩
   .have⟨cc,hc⟩:=aaI C.out q N;grind
  have HF:=fN (show(∃v,(V.setCell ⟨w.heap.size,0,none⟩ (.slice ao' (pre.length+1) cp')).heap[w.heap.size]?=some (gy #[v] 27)/\(V.setCell ⟨w.heap.size,0,none⟩ (.slice ao' (pre.length+1) cp')).ownsRow g.heap.size 61 3 v (pre++[x]).length (vQ (pre++[x]))/\Kept [w.heap.size] g (V.setCell ⟨w.heap.size,0,none⟩ (.slice ao' (pre.length+1) cp')))/\KW W (V.setCell ⟨w.heap.size,0,none⟩ (.slice ao' (pre.length+1) cp'))/\KeepsOthers W (V.setCell ⟨w.heap.size,0,none⟩ (.slice ao' (pre.length+1) cp'))from⟨⟨_,hB4,ow,kk⟩,aam hk4 hS,FK hk4 (λq N=>by grind)⟩);clear U a0 hB3 hB4 ho4 hk4 kk ow hS;gi_wp2;exact⟨by simpa using HF.out.1,HF.out.2⟩
 case done=>
  rintro W ⟨v,p,y,z⟩ hd;have⟨ao,cp,hv⟩:=gv y;subst hv;have c1:=fO p 0;dsimp at c1;have C:=fN y;have Q:=fN (a7 z);have HD:=fN hd;have a8:=fN z1;clear p y z hd;gi_wp2;refine⟨by simp,.inl ⟨_,_,rfl,oM HD.out,?_⟩⟩;refine⟨_,results_tmp rfl _ _ _,_,rfl,?_,X4 Q.out (by omega) _⟩;exact jU (TT C.out HD.out rfl (.deferred none)) (by omega)
 simp
def UV (base:Nat) (v:gG) (L:List Sp) (w:gr) (q:w.ownsRow base 72 3 v L.length (kZ L)) (Z:L.length<=4096):
  Calls prog 23 #[v] w λe w'=>∃y,e=ir y/\w'.ownsRow w.heap.size 72 3 y L.length (kZ L)/\Kept [] w w':=by
 have⟨i0,hi,hz0,hz1,hz2⟩:=tj Ej;rcases q.2 with⟨rfl,O⟩|⟨g,k,N,rfl,Q,U,_⟩
 .have X:=λw=>NW (P:=prog) w 28 72 none 0 0 0 0 underlying28;have:L=[]:=SZ O;subst this;clear q;go_enter func23,ntmps23;go_wp2;go_ret;exact⟨_,rfl,py _ _ _ _,Kept.refl _ _⟩
 .have X:=λw=>NW (P:=prog) w 28 72 (some ⟨g,0,none⟩) L.length k 0 0 underlying28;have K:=fN q;have C:=je U;have G:(w.alloc (.cells #[] 72)).ownsRow w.heap.size 72 3 (nI w.heap.size 0 0) 0 []:=
   ⟨rfl,.inr ⟨w.heap.size,0,#[],rfl,gW _,fQ w _,gW _,iP _,rfl,rfl⟩⟩
  clear q;go_enter func23,ntmps23;go_wp2_with (at_builtin;refine ij _ rfl _ _ 28 rfl w.heap.size 72 i0 (.agg #[ga 0,ga 0,ga 0]) 3 24 underlying28 hi hz0 hz1 hz2 rfl (by decide) _ _ _ rfl G ⟨g,0,none⟩ L.length k (kZ L) rfl ?c1 ?c2 ?c3 ?c4 ?c5 ?c6 ?_)
  case c1=>exact rD L
  case c2=>
   intro j u V;have:=K.cells (g:=g) rfl j u V;rw[js]at this|-;rw[<-this];exact SV _ _ _ C
  case c3=>
   intro u F;unfold kZ at F;simp at F;obtain⟨p,_,h|h|h⟩:=F<;>(subst h;rfl)
  case c4=>omega
  case c5=>omega
  case c6=>simp
  intro y H E z T;have I:H.ownsRow w.heap.size 72 3 y L.length (kZ L):=by simpa using E
  have J:Hid (Kept [] w H):=((Kept.refl [] w).alloc _).grown z (λx Y=> .inr (G.lt x Y).1);go_wp2;go_ret;exact⟨_,rfl,I,J⟩
def SJ (bx:Nat) (d f l:Int) (n k:Nat) (v:gG) (w:gr) (g:w.heap[bx]?=some (gy (BJ d f l n v k) 69)):
  Calls prog 19 #[gF bx] w λe w'=>e=ir (.tuple #[ga n,.nilIface])/\Kept [] w w':=by
 have j:w.cell? ⟨bx,4,none⟩=some (.bool true):=by rw[fO g];rfl
 have p:w.cell? ⟨bx,5,none⟩=some (ga n):=by rw[fO g];rfl
 have q:w.cell? ⟨bx,6,none⟩=some .nilIface:=by rw[fO g];rfl
 have h:=je g;go_enter func19,ntmps19;go_wp21;go_region
 all_goals (try go_wp2)
 all_goals (try go_ret2)
 all_goals exact⟨rfl,(Kept.refl [] w).drew⟩
def PH (bx:Nat) (d f l:Int) (n k:Nat) (v:gG) (w:gr) (p:w.heap[bx]?=some (gy (BJ d f l n v k) 69)):
  Calls prog 11 #[gF bx] w λe w'=>e=ir (.tuple #[ga n,ga 0,ga 0])/\Kept [] w w':=by
 have C:=SJ bx d f l n k v w p;go_enter func11,ntmps11;go_wp21;refine C.mono ?_;rintro e q ⟨rfl,h⟩;go_wp21;refine(DM q).mono ?_;rintro e u ⟨rfl,j⟩;have g:=h.trans j;go_wp2;go_ret3;exact⟨rfl,g⟩
theorem adt (bx:Nat) (d f l:Int) (n k base:Nat) (v:gG) (L:List Sp) (w:gr) (j:w.heap[bx]?=some (gy (BJ d f l n v k) 69)) (h:w.ownsRow base 72 3 v L.length (kZ L)) (p:L.length<=4096):
  Calls prog 14 #[gF bx] w λe w'=>∃g,e=ir g/\w'.ownsRow w.heap.size 72 3 g L.length (kZ L)/\Kept [] w w':=by
 have y:w.cell? ⟨bx,7,none⟩=some v:=by rw[fO j];rfl
 have C:=UV base v L w h p;have⟨ao,cp,hv⟩:=gv h;subst hv;have q:=je j;go_enter func14,ntmps14;go_wp21;refine C.mono ?_;rintro e w' ⟨g,rfl,u,x⟩;go_wp2;go_ret;simp_all
attribute [local go_sem] Oper.semAt_some
attribute [local go_sem] Oper.semAt_some
def Wo (w:gr) (B b:Nat) (vv:gG×Bool) (p:gG) (l:List UInt8):Prop:=B<=b/\∃v,w.heap[b]?=some (gy #[p,v,vv.1,.bool vv.2] 96)/\w.ownsRow B 5 1 v l.length (Lib.byteCells l)/\v.ownBlock≠some b
def Wu (w:gr) (B b:Nat) (vv:gG×Bool) (l:List UInt8):Prop:=Wo w B b vv (.pointer none) l\/Wo w B b vv (gF b) l
def Wo.kept {p : gG} {l:List UInt8} (h:Wo w B b vv p l) (g:Kept [] w w'):Wo w' B b vv p l:=by
 have⟨h0,v,h1,h2,h3⟩:=h;exact⟨h0,v,g.at h1 (by simp),g.ownsRow h2 (λ_ _=>by simp),h3⟩
def Wu.kept {l:List UInt8} (h:Wu w B b vv l) (g:Kept [] w w'):Wu w' B b vv l:=h.imp (·.kept g) (·.kept g)
theorem Rp (B b:Nat) (vv:gG×Bool) (l:List UInt8) (w:gr) (h:Wu w B b vv l):
  Calls prog 350 #[gF b] w λe w'=>e=o9/\Wo w' B b vv (gF b) l/\Kept [b] w w':=by
 have⟨j,hj,hj0⟩:=Mq;rcases h with⟨z,v,g,x,y⟩|⟨z,v,g,x,y⟩
 .have F:w.cell? ⟨b,0,none⟩=some (.pointer none):=by rw[fO g];rfl
  have I:=gu g 0;have C:=je g;have k:w.shape? b=some (96,4):=by simp[World.shape?,g]
  have E:=(Kept.refl [b] w).setCell (p:=⟨b,0,none⟩) (.inl (by simp)) (gF b);have u:Hid (Wo (w.setCell ⟨b,0,none⟩ (gF b)) B b vv (gF b) l):=fN ⟨z,v,fV g 0 _,E.ownsRow x (λq K=>by grind),y⟩;have H:(w.setCell ⟨b,0,none⟩ (gF b)).cell? ⟨b,0,none⟩=some (gF b):=by rw[fO (fV g 0 _)];rfl
  have N:=Lib.run_to_unsafe (P:=prog) w (src:=92) (dst:=98) ⟨b,0,none⟩ underlying92 underlying98 hj hj0 k (show 0 < 4 by decide);have J:=Lib.run_from_unsafe (P:=prog) w (src:=98) (dst:=92) ⟨b,0,none⟩ underlying98 underlying92 hj k QK;have G:=NY (P:=prog) (w.setCell ⟨b,0,none⟩ (gF b)) (tp:=92) ⟨b,0,none⟩ underlying92 hj;go_enter func350,ntmps350;go_wp2;rw[Uk func368 (by rfl) (by rfl) rfl (e:=Extern.AbiNoEscape.same) rfl];rw[Lib.run_noEscape];simp only[Result.andThen];rw[Oper.upon_value];go_wp2;go_end0;exact⟨rfl,u,E⟩
 .have F:w.cell? ⟨b,0,none⟩=some (gF b):=by rw[fO g];rfl
  have C:=je g;have u:Hid (Wo w B b vv (gF b) l):=fN ⟨z,v,g,x,y⟩;have G:=NY (P:=prog) w (tp:=92) ⟨b,0,none⟩ underlying92 hj;go_enter func350,ntmps350;go_wp2;go_end0;exact⟨rfl,u,Kept.refl _ _⟩
theorem NU (B b:Nat) (vv:gG×Bool) (l:List UInt8) (s:gn) (w C:gr) (h:Wu w B b vv l) (Q:l.length+s.size<=140737488355328) (a0:B<=w.heap.size) (H:Kept [] C w) (a1:C.heap.size<=B):
  Calls prog 325 #[gF b,gw s] w λe w'=>e=ir (.tuple #[ga s.size,.nilIface])/\Wu w' B b vv (l++s.data.toList)/\Kept [] C w'/\KB w w':=by
 have⟨i0,hi,hz0,hz1,hz2⟩:=tj XY;have N:=h;have E:=H;go_enter func325,ntmps325;go_wp21;refine(Rp B b vv l _ N).mono ?_;rintro e V ⟨rfl,h1,u⟩;have⟨hB,v,hbk,hown,hne⟩:=h1;have K:KB w V:=by
  rcases N with⟨_,_,J,_⟩|⟨_,_,J,_⟩
  .exact .Si u J
  .exact .Si u J
 have Y:=fO hbk 1;dsimp at Y;have I:b < V.heap.size:=je hbk;go_wp2_with (at_builtin;refine Lib.wpList_append_own_string _ rfl _ _ 53 9 rfl B 5 i0 underlying53 underlying9 hi hz0 hz1 hz2 _ _ _ rfl hown s rfl ?c3 ?c4 ?c5 ?_)
 case c3=>unfold maxLen;omega
 case c4=>omega
 case c5=>omega
 intro v' y k j _;have p:y.heap[b]?=some (gy #[gF b,v,vv.1,.bool vv.2] 96):=by
  rw[j.block b I (λe=>hne e.symm)];exact hbk
 have d1:=fO p 1;dsimp at d1;have f1:y.frozen? ⟨b,1,none⟩=false:=gu p 1;have⟨ao,cap,hv⟩:=gv k;subst hv;have T:∀q,v.ownBlock=some q->B<=q:=λq z=>(hown.lt q z).1;have x:∀q,(Value.slice ao (l.length+s.size) cap).ownBlock=some q->q≠b:=λq z e=>by
  subst e;rcases k.2 with⟨e2,_⟩|⟨g,O,Z,e2,_,hc,_⟩
  .grind
  .rw[e2]at z;have e3:=jz z;grind
 have U:Kept [b] y (y.setCell ⟨b,1,none⟩ (.slice ao (l.length+s.size) cap)):=(Kept.refl [b] y).setCell (.inl (by simp)) _;have X:Hid (Wu (y.setCell ⟨b,1,none⟩ (.slice ao (l.length+s.size) cap)) B b vv (l++s.data.toList)):=fN (.inr ⟨hB,_,fV p 1 _,by
  rw[JR,me];exact U.ownsRow k (λq z=>by grind),λe=>x b e rfl⟩)
 have G:Hid (Kept [] C (y.setCell ⟨b,1,none⟩ (.slice ao (l.length+s.size) cap))):=fN ((((E.next u (by simp;omega))).grown j (λq z=> .inr (by grind))).setCell (.inr (by grind)) _);have F:=(K.trans (KB.Yw j hown)).trans (KB.Si U p);go_wp2;go_ret2;exact⟨rfl,X,G,F⟩
theorem Ar (B b g I:Nat) (vv:gG×Bool) (l:List UInt8) (xs:List gn) (w y:gr) (h:Wu w B b vv l) (hg:w.heap[g]?=some (gy (xs.map Value.string).toArray 9)) (q:l.length+(kB xs).length<=140737488355328) (K:Kept [] y w) (Q:y.heap.size<=B) (T:xs.length<=4096):
  Calls prog 409 #[gF b,nI g xs.length I] w λe w'=>e=o9/\Wu w' B b vv (l++kB xs)/\Kept [] y w'/\KB w w':=by
 obtain⟨n,O⟩:∃n,n=xs.length:=⟨_,rfl⟩;rw[<-O]at T|-;have U:=fN O;have HT:=h;have HG:=hg;have a0:=K;have G:=q;clear O;go_enter func409,ntmps409;go_wp21
 go_loopw [8] (λv wr=>∃i:Nat,v=ga i/\i<=n/\Wu wr B b vv (l++kB (xs.take i))/\Kept [] y wr/\KB w wr) (λv _=>n - (intOf v).toNat)
 case atStart=>grind[Wu,kB,KB]
 case round=>
  obtain⟨i,rfl,hi,z,X,p⟩:=hrel;by_cases N:i < n
  .have V:i < xs.length:=by rw[<-U.out];exact N
   have gg:=p g _ _ HG (by decide);have hc:wr.cell? ⟨g,i,none⟩=some (gw xs[i]):=by rw[fO gg];simp[V]
   have j:kB (xs.take (i+1))=kB (xs.take i)++xs[i].data.toList:=by
    rw[DV,qw V,Dm];simp[kB]
   have k:(l++kB (xs.take i)).length+xs[i].size<=140737488355328:=by
    have e:=pJ List.length (pJ kB (yZ (i+1) xs));rw[Dm,j]at e;have:=G;have es:xs[i].data.toList.length=xs[i].size:=xq;simp only[me]at e|-;omega
   have a1:B<=b/\b < wr.heap.size:=by rcases z with⟨x,_,Y,_⟩|⟨x,_,Y,_⟩<;>exact⟨x,je Y⟩
   have C:=NU B b vv _ xs[i] wr y z k (by omega) X Q;rw[uS,<-j]at C;have Z:=fN p;generalize xs[i]=u at *;clear p;go_wp21;refine C.mono ?_;rintro e W2 ⟨rfl,H,F,J⟩;have E:=Z.trans J;go_wp2;go_roundw
   case rel=>grind
   case measure=>simp[intOf];omega
  .have he:xs.take i=xs:=Av (by rw[<-U.out];omega);rw[he]at z;have H:=z;have F:=X;have E:=p;clear p;go_wp2;go_end0;grind
theorem LL (g j:List UInt8) (c:Nat) (p:1<=c) (h:j.length<=c*g.length):∀(k:Nat) (s:List UInt8),(Lib.replaceK g j k s).length<=c*s.length
 |0,s=>by simp only[Lib.replaceK];exact NZ _ p
 |k+1,s=>by
  rw[Lib.replaceK];split
  .exact NZ _ p
  .rename_i y;have C:=Lib.index_ge s g;have u:0<=Lib.index s g:=by
    have:¬Lib.index s g= -1:=λe=>y (by grind);omega
   have E:=Lib.index_room s g u;have F:(Lib.index s g).toNat+g.length<=s.length:=by omega
   have q:=LL g j c p h k (s.drop ((Lib.index s g).toNat+g.length));generalize (Lib.index s g).toNat=i at *;simp only[me,List.length_take,List.length_drop]at q|-;obtain⟨d,x⟩:∃d,s.length=i+g.length+d:=⟨s.length - (i+g.length),by omega⟩;rw[x]at q|-;have e1:i+g.length+d - (i+g.length)=d:=by omega
   rw[e1]at q;have e2:c*(i+g.length+d)=c*i+c*g.length+c*d:=by rw[Nat.mul_add,Nat.mul_add]
   have z:i<=c*i:=NZ _ p;omega
theorem yN (s j g:gn) (c:Nat) (k:1<=c) (h:g.size<=c*j.size):(Nu s j g).size<=c*s.size:=by
 have e1:s.size=s.data.toList.length:=Ch s;have e2:(Nu s j g).size=(Lib.replaceAll s.data.toList j.data.toList g.data.toList).length:=by
  rw[Ch];simp[Nu]
 rw[e1,e2];unfold Lib.replaceAll Lib.replace;split
 .exact NZ _ k
 .exact LL _ _ c k (by simp_all) _ _
def C8 (s:gn):(zu s).size<=15*s.size:=by
 have g:=yN s tm jQ 5 (by decide) (by decide);have h:=yN (Nu s tm jQ) si mR 3 (by decide) (by decide);unfold zu;omega
def OP (s:gn):(Gc s).size<=240*s.size:=by
 have g:=C8 s;have h:=yN (zu s) pY kT 4 (by decide) (by decide);have j:=yN (Nu (zu s) pY kT) iO qU 4 (by decide) (by decide);unfold Gc;omega
def DE (s g h:gn) (w:gr) (q:L5 w) (x:s.size<=2000000000) (j:1<=g.size) (u:h.size<=16):
  Calls prog 241 #[gw s,gw g,gw h] w λe w'=>e=ir (gw (Nu s g h))/\Kept [] w w':=by
 have⟨⟨m,hm⟩,_⟩:=q;have p:=Lib.countB_le g j s.size s (gW _);refine(Tryz.strings_ReplaceAll s g h m w (by omega) hm j ?_).mono ?_
 .have:=Nat.mul_le_mul p u;omega
 .rintro e w' ⟨rfl,k⟩;exact⟨rfl,Iq k⟩
def Lb (s:gn) (w:gr) (p:L5 w) (C:s.size<=1048576):
  Calls prog 410 #[gw s] w λe w'=>e=ir (gw (zu s))/\Kept [] w w':=by
 have q:=DE s tm jQ w p (by omega) (by decide) (by decide);have E:=yN s tm jQ 5 (by decide) (by decide);have k:=(λw' (y:Kept [] w w')=>DE (Nu s tm jQ) si mR w' (p.kept y) (by omega) (by decide) (by decide));rw[show Nu (Nu s tm jQ) si mR=zu s from rfl]at k;generalize Nu s tm jQ=u at *;generalize zu s=v at *;go_enter func410,ntmps410;go_wp21;refine q.mono ?_;rintro e z ⟨rfl,g⟩;have x:=k z g;go_wp21;refine x.mono ?_;rintro e F ⟨rfl,j⟩;have h:=g.trans j;go_wp2;go_ret;exact⟨rfl,h⟩
theorem Wu.cells {l:List UInt8} (h:Wu w B b vv l):∃p v,w.heap[b]?=some (gy #[p,v,vv.1,.bool vv.2] 96)/\B<=b:=by
 rcases h with⟨g,v,j,_⟩|⟨g,v,j,_⟩
 all_goals grind
theorem ady (B b:Nat) (vv:gG×Bool) (l:List UInt8) (s:gn) (w u:gr) (h:Wu w B b vv l) (y:L5 u) (Q:vv.2=false) (U:s.size<=1048576) (G:l.length+240*s.size<=140737488355328) (g:Kept [] u w) (C:u.heap.size<=B):
  Calls prog 438 #[gF b,gw s] w λe w'=>e=o9/\Wu w' B b vv (l++(Gc s).data.toList)/\Kept [] u w':=by
 have⟨p,v,hb,hBb⟩:=h.cells;have c3:w.cell? ⟨b,3,none⟩=some (.bool false):=by rw[fO hb,<-Q];rfl
 have T:=je hb;have z1:=C8 s;have z3:=OP s;have z2:=yN (zu s) pY kT 4 (by decide) (by decide);have H:=Lb s w (y.kept g) U;have I:=(λw' (k:Kept [] w w')=>DE (zu s) pY kT w' ((y.kept g).kept k) (by omega) (by decide) (by decide));have E:=(λw' (k:Kept [] w w')=>DE (Nu (zu s) pY kT) iO qU w' ((y.kept g).kept k) (by omega) (by decide) (by decide));rw[show Nu (Nu (zu s) pY kT) iO qU=Gc s from rfl]at E;have F:=(λw' (k:Kept [] w w')=>Ar B b w'.heap.size 1 vv l [Gc s] (w'.alloc (gy #[gw (Gc s)] 9)) u (h.kept (k.alloc _)) (fQ w' _) (by simp only[kB,wo,Fa,DU];rw[show(Gc s).data.toList.length=(Gc s).size from xq];omega) ((g.trans k).alloc _) C (by simp));have O:kB [Gc s]=(Gc s).data.toList:=by simp[kB]
 rw[O]at F;generalize Nu (zu s) pY kT=u2 at *;generalize zu s=u1 at *;generalize Gc s=u3 at *;go_enter func438,ntmps438;go_wp21;refine H.mono ?_;rintro e V ⟨rfl,j⟩;have J:=I V j;go_wp21;refine J.mono ?_;rintro e X ⟨rfl,q⟩;have K:=E X (j.trans q);have x:=j.trans q;go_wp21;refine K.mono ?_;rintro e Y ⟨rfl,z⟩;have N:=F Y (x.trans z);go_wp21;refine N.mono ?_;rintro e w4 ⟨rfl,Z,H5,_⟩;go_wp2;go_end0;grind
theorem adx (B b:Nat) (vv:gG×Bool) (l:List UInt8) (s:gn) (w g:gr) (h:Wu w B b vv l) (y:vv.2=true) (u:l.length+s.size<=140737488355328) (j:Kept [] g w) (k:g.heap.size<=B):
  Calls prog 438 #[gF b,gw s] w λe w'=>e=o9/\Wu w' B b vv (l++s.data.toList)/\Kept [] g w':=by
 have⟨p,v,hb,hBb⟩:=h.cells;have F:w.cell? ⟨b,3,none⟩=some (.bool true):=by rw[fO hb,<-y];rfl
 have z:=je hb;have q:=Ar B b w.heap.size 1 vv l [s] (w.alloc (gy #[gw s] 9)) g (h.kept ((Kept.refl [] w).alloc _)) (fQ w _) (by simp only[kB,wo,Fa,DU];simp_all) (j.alloc _) k (by simp);have x:kB [s]=s.data.toList:=by simp[kB]
 rw[x]at q;go_enter func438,ntmps438;go_wp21;refine q.mono ?_;rintro e G ⟨rfl,C,E,_⟩;go_wp2;refine o0 (F8 rfl _ _ _) rfl ?_;grind
theorem Wu.set {w:gr} {B b:Nat} {vv:gG×Bool} {l:List UInt8} (h:Wu w B b vv l) (a:Bool):Wu (w.setCell ⟨b,3,none⟩ (.bool a)) B b (vv.1,a) l:=by
 have x:Kept [b] w (w.setCell ⟨b,3,none⟩ (.bool a)):=(Kept.refl [b] w).setCell (.inl (by simp)) _;have go:∀p,Wo w B b vv p l->Wo (w.setCell ⟨b,3,none⟩ (.bool a)) B b (vv.1,a) p l:=by
  rintro p ⟨g,v,j,k,u⟩;exact⟨g,v,fV j 3 _,x.ownsRow k (λq y=>by grind),u⟩
 grind[Wu]
def Lo (x y s:gn):(kB [x,s,y]).length=x.size+s.size+y.size:=by
 simp only[kB,wo,Fa,DU,me];rw[show s.data.toList.length=s.size from xq,show x.data.toList.length=x.size from xq,show y.data.toList.length=y.size from xq];omega
theorem aby (B b:Nat) (vv:gG×Bool) (l:List UInt8) (s:gn) (w j:gr) (h:Wu w B b vv l) (E:l.length+s.size+3<=140737488355328) (x:Kept [] j w) (y:j.heap.size<=B):
  Calls prog 408 #[gF b,gw s] w λe w'=>e=o9/\Wu w' B b (vv.1,false) (l++kB [pK,s,iO])/\Kept [] j w':=by
 have⟨p,v,hb,hBb⟩:=h.cells;have F:=fO hb 3;have N:=gu hb 3;dsimp at F;have H:=je hb;have C:=h.set false;have g:Kept [] j (w.setCell ⟨b,3,none⟩ (.bool false)):=x.setCell (.inr (by grind)) _;have G:=Lo pK iO s;have e1:pK.size=2:=rfl;have e2:iO.size=1:=rfl;rw[e1,e2]at G;obtain⟨W,k⟩:∃W,W=w.setCell ⟨b,3,none⟩ (.bool false):=⟨_,rfl⟩;rw[<-k]at C g;have z:=Ar B b W.heap.size 3 _ l [pK,s,iO] (W.alloc (gy #[gw pK,gw s,gw iO] 9)) j (C.kept ((Kept.refl [] W).alloc _)) (fQ W _) (by omega) (g.alloc _) y (by simp);have u:W.heap.size=w.heap.size:=by rw[k];simp
 rw[u]at z;have q:=fN k.symm;generalize kB [pK,s,iO]=J at *;clear k;go_enter func408,ntmps408;go_wp21;rw[q.out];refine z.mono ?_;rintro e O ⟨rfl,I,K,_⟩;go_wp2;go_end0;grind
theorem Wi (B b:Nat) (vv:gG×Bool) (l:List UInt8) (s:gn) (w g:gr) (h:Wu w B b vv l) (p:l.length+s.size+7<=140737488355328) (j:Kept [] g w) (k:g.heap.size<=B):
  Calls prog 406 #[gF b,gw s] w λe w'=>e=o9/\Wu w' B b vv (l++kB [mM,s,oe])/\Kept [] g w':=by
 have u:=Lo mM oe s;have e1:mM.size=4:=rfl;have e2:oe.size=3:=rfl;rw[e1,e2]at u;have q:=Ar B b w.heap.size 3 _ l [mM,s,oe] (w.alloc (gy #[gw mM,gw s,gw oe] 9)) g (h.kept ((Kept.refl [] w).alloc _)) (fQ w _) (by omega) (j.alloc _) k (by simp);generalize kB [mM,s,oe]=J at *;go_enter func406,ntmps406;go_wp21;refine q.mono ?_;rintro e z ⟨rfl,x,y,_⟩;go_wp2;go_end0;grind
theorem Wj (B b:Nat) (vv:gG×Bool) (l:List UInt8) (s:gn) (w g:gr) (h:Wu w B b vv l) (p:l.length+s.size+11<=140737488355328) (j:Kept [] g w) (k:g.heap.size<=B):
  Calls prog 437 #[gF b,gw s] w λe w'=>e=o9/\Wu w' B b vv (l++kB [iI,s,iO])/\Kept [] g w':=by
 have u:=Lo iI iO s;have e1:iI.size=10:=rfl;have e2:iO.size=1:=rfl;rw[e1,e2]at u;have q:=Ar B b w.heap.size 3 _ l [iI,s,iO] (w.alloc (gy #[gw iI,gw s,gw iO] 9)) g (h.kept ((Kept.refl [] w).alloc _)) (fQ w _) (by omega) (j.alloc _) k (by simp);generalize kB [iI,s,iO]=J at *;go_enter func437,ntmps437;go_wp21;refine q.mono ?_;rintro e z ⟨rfl,x,y,_⟩;go_wp2;go_end0;grind
def XB (s:gn):(Gd s).size<=90*s.size:=by
 have g:=C8 s;have h:=yN (zu s) oN ol 6 (by decide) (by decide);unfold Gd;omega
def Ol (L:lh):List UInt8:=L.flatMap λa=>kB [⟨#[32]⟩,a.1,yg,Gd a.2,oN]
def acH (s:gn) (gx:lh):List UInt8:=kB [pY,s]++Ol gx++kB [iO]
theorem abx (B b:Nat) (vv:gG×Bool) (vd:gn->Bool) (l:List UInt8) (s:gn) (av:gG) (gx:lh) (w E:gr) (h:Wu w B b vv l) (hv:ace E vv.1 vd) (hg:L5 E) (hs:s.size<=5000) (hA:tq w av gx) (aE:gx.length<=16) (ha:∀a∈gx,a.1.size<=5000/\a.2.size<=66000) (aA:l.length+6000+16*6000000<=140737488355328) (aa:Kept [] E w) (Y:E.heap.size<=B):
  Calls prog 407 #[.pointer (some ⟨b,0,none⟩),.string s,av] w λe w'=>e= .returned (.bool (!vd s))/\(∃u,Wu w' B b (vv.1,s.toList==[115,116,121,108,101]) u/\u.length<=l.length+6000+gx.length*6000000/\u≠[]/\u=l++acH s gx)/\Kept [] E w':=by
 have⟨vx,fl⟩:=vv;have⟨kv,lb,hvx,hcf,hcall⟩:=hv;have ac:vx= .func (.func kv) #[] lb:=hvx;subst ac;clear hvx;have⟨ao,cp,hav⟩:=gv hA;subst hav;have ez:(kB [pY,s]).length=s.size+1:=by
  simp only[kB,wo,Fa,DU,me];rw[show s.data.toList.length=s.size from xq];simp;omega
 have a7:(kB [iO]).length=1:=rfl;have C1:=fN (Ar B b w.heap.size 2 _ l [pY,s] (w.alloc (.cells #[.string pY,.string s] 9 (0,0))) E (h.kept ((Kept.refl [] w).alloc _)) (fQ w _) (by omega) (aa.alloc _) Y (by simp));have C2:=fN (λw' u (hw:Wu w' B b (.func (.func kv) #[] lb,fl) u) (hl:u.length+1<=140737488355328) (hk:Kept [] E w')=>Ar B b w'.heap.size 1 _ _ [iO] (w'.alloc (.cells #[.string iO] 9 (0,0))) E (hw.kept ((Kept.refl [] w').alloc _)) (fQ w' _) (by omega) (hk.alloc _) Y (by simp));have HC:=fN hcall;have a0:=fN (hA.alloc (.cells #[.string pY,.string s] 9 (0,0)));have EZ:=fN ez;have Q:kB [pY,s]≠[]:=by simp[kB]
 have an:=fN Q;have af:=fN a7;have ag:=fN ha;have ah:=fN hg;clear Q ha hg;unfold acH;generalize kB [pY,s]=J1 at *;generalize kB [iO]=J2 at *;clear h aa ez a7 hcall hA;go_enter func407,ntmps407;go_wp21;refine C1.out.mono ?_;rintro e w1 ⟨rfl,h1,k1,ae⟩;have a1:=fN (ae.row a0.out (by decide));have H1:=fN h1;have K1:=fN k1;clear h1 k1 ae a0;go_wp21
 go_loopw [15] (λv wr=>∃(j:Nat) (u:List UInt8),v= .int .i64 j/\j<=gx.length/\Wu wr B b (.func (.func kv) #[] lb,fl) u/\u.length<=l.length+5001+j*6000000/\u≠[]/\u=l++(J1++Ol (gx.take j))/\Kept [] E wr/\tq wr (.slice ao gx.length cp) gx) (λv _=>gx.length - (intOf v).toNat)
 case atStart=>exact⟨0,_,rfl,iP _,H1.out,by rw[me,EZ.out];omega,λe=>an.out (List.append_eq_nil_iff.1 e).2,by simp[Ol],K1.out,a1.out⟩
 case round=>
  obtain⟨j,u,rfl,aF,hW,ay,H,y,N,C⟩:=hrel;by_cases X:j < gx.length
  .have aG:gx.length≠0:=by omega
   obtain⟨O,aw⟩:∃O,ao=some ⟨O,0,none⟩:=by
    rcases C.2 with⟨e,h0⟩|⟨q,az,aD,e,_⟩
    all_goals grind
   subst aw;have⟨f0,f1⟩:=RM gx j X;have q0:wr.cell? ⟨O,j*2,none⟩=some (.string gx[j].1):=by rw[C.cellAt (j*2) (by omega)];exact f0
   have q1:wr.cell? ⟨O,j*2+1,none⟩=some (.string gx[j].2):=by rw[C.cellAt (j*2+1) (by omega)];exact f1
   have⟨z1,z2⟩:=ag.out gx[j] (ti X);have I:Ol (gx.take (j+1))=Ol (gx.take j)++kB [⟨#[32]⟩,gx[j].1,yg,Gd gx[j].2,oN]:=by
    rw[DV,qw X];simp only[Ol,Option.toList,JC,wo,Fa,DU]
   have a6:=fN I;have al:=fN y;clear I y;generalize gx[j].1=nm at *;generalize gx[j].2=x at *;clear f0 f1;have H2:=fN hW;have K2:=fN N;have a4:=fN H;have A2:=fN C;clear hW N C H;go_wp21;obtain⟨ba,U⟩:∃ba,ba=wr.heap.size:=⟨_,rfl⟩;obtain⟨T,K⟩:∃T,T=wr.alloc (.cells #[.string nm,.string x] 295 (0,0)):=⟨_,rfl⟩;have a2:Hid (T.heap[ba]?=some (.cells #[.string nm,.string x] 295 (0,0))):=by rw[K,U];exact fN (fQ wr _)
   have k0:Kept [] wr T:=by rw[K];exact(Kept.refl [] wr).alloc _
   have a3:=fN ((ah.out.kept K2.out).kept k0);obtain⟨G,hG⟩:∃G:gr->Prop,G=λW=>∃l2,Wu W B b (.func (.func kv) #[] lb,fl) l2/\l2.length<=l.length+5001+(j+1)*6000000/\l2≠[]/\l2=l++(J1++Ol (gx.take (j+1)))/\Kept [] E W/\tq W (.slice (some ⟨O,0,none⟩) gx.length cp) gx:=⟨_,rfl⟩;have aq:Hid (∀W g',Kept [] T W->W.heap[g']?=some (.cells #[.string ⟨#[32]⟩,.string nm,.string yg,.string (Gd x),.string oN] 9 (0,0))->Calls prog 409 #[.pointer (some ⟨b,0,none⟩),.slice (some ⟨g',0,none⟩) 5 5] W λe W2=>e= .returned (.tuple #[])/\G W2):=fN (by
    intro W g' q ax;have zj:(kB [⟨#[32]⟩,nm,yg,Gd x,oN]).length<=5946004:=by
     have:=XB x;simp only[kB,wo,Fa,DU,me];rw[show nm.data.toList.length=nm.size from xq,show(Gd x).data.toList.length=(Gd x).size from xq];simp;omega
    refine(Ar B b g' 5 _ u [⟨#[32]⟩,nm,yg,Gd x,oN] W E (H2.out.kept (k0.trans q)) ax (by omega) (K2.out.trans (k0.trans q)) Y (by simp)).mono ?_;rintro e W2 ⟨rfl,r1,r2,r3⟩;rw[hG];exact⟨rfl,_,r1,by rw[me];omega,λe=>a4.out (List.append_eq_nil_iff.1 e).1,(by rw[a6.out,al.out];simp),r2,r3.row ((k0.trans q).ownsRow A2.out (λ_ _=>by simp)) (by decide)⟩)
   have ai:=fN hG;have ap:=fN K.symm;clear hG K k0 H2 A2 a4 a1 H1 K1 C2 HC q0 q1 ay;rw[<-U,ap.out];clear U;refine uU (by rfl) ?_;refine od (λ(g:Nat) z=>⟨#[.pointer (some ⟨b,0,none⟩),.string s,.slice (some ⟨O,0,none⟩) gx.length cp,undef,undef,undef,.bool false,undef,.pointer (some ⟨ba,0,none⟩),.pointer (some ⟨b,0,none⟩),.string s,.slice (some ⟨w.heap.size,0,none⟩) 2 2,.tuple #[],.slice (some ⟨O,0,none⟩) gx.length cp,.int .i64 (gx.length:Int),.int .i64 (j:Int),.bool true,.pointer (some ⟨O,j*2,none⟩),.agg #[.string nm,.string x],ce z 0 u19 (.pointer (some ⟨b,0,none⟩)),ce z 1 u20 (.pointer (some ⟨ba,0,none⟩)),ce z 2 u21 (.string nm),ce z 3 u22 (.pointer (some ⟨ba,1,none⟩)),ce z 4 u23 (.string x),ce z 5 u24 (.string (zu x)),ce z 6 u25 (.string (Gd x)),ce z 7 u26 (.slice (some ⟨g,0,none⟩) 5 5),ce z 8 u27 (.tuple #[]),u28,undef,undef,undef,undef,undef,undef,undef,undef,undef,undef,undef,undef,undef,undef,undef],[]⟩) (λg z W=>(dn z 8=false->Kept [] T W/\(dn z 7=true->W.heap[g]?=some (.cells #[.string ⟨#[32]⟩,.string nm,.string yg,.string (Gd x),.string oN] 9 (0,0))))/\(dn z 8=true->G W)) 9 [[],[],[1],[],[3],[3,4],[3,4,5],[1,2,3,4,5,6],[0,1,2,3,4,5,6,7]] 0 rfl rfl ⟨λ_=>⟨(Kept.refl [] T).drew,λh=>by cases h⟩,λh=>by cases h⟩ ?_ ?_
   .repeat' first|exact lp|refine ln ?_ ?_
    all_goals
     rintro g z W hI hc hn;simp[zE]at hc;have h8:dn z 8=false:=by first|simp_all|simp[hc]
     have⟨q,h7⟩:=hI.1 h8;have c0:=fO (q.at a2.out (by simp)) 0;have c1:=fO (q.at a2.out (by simp)) 1;dsimp at c0 c1;have n8:∀{k},k≠8->∀{p:Prop},dn (z.setIfInBounds k true) 8=true->p:=λhk _ h=>by rw[lR hk,h8]at h;cases h
     refine mK rfl ?_;intro K' F;simp only[vI,hc];go_simp
     first
     |refine F _ _ ⟨g,?_,λ_=>⟨q,ph h7 (by decide)⟩,n8 (by decide)⟩
     |refine(Lb x W (a3.out.kept q) (by omega)).mono ?_;rintro e W2 ⟨rfl,V⟩;refine F _ _ ⟨g,?_,λ_=>⟨q.trans V,λh=>by rw[lR (by decide),hn 7 (by decide)]at h;cases h⟩,n8 (by decide)⟩
     |refine(DE (zu x) oN ol W (a3.out.kept q) (by have:=C8 x;omega) (by decide) (by decide)).mono ?_;rintro e W2 ⟨rfl,V⟩;refine F _ _ ⟨g,?_,λ_=>⟨q.trans V,λh=>by rw[lR (by decide),hn 7 (by decide)]at h;cases h⟩,n8 (by decide)⟩
     |refine F _ _ ⟨W.heap.size,?_,λ_=>⟨q.alloc _,λ_=>fQ W _⟩,n8 (by decide)⟩
     |refine(aq.out W g q (h7 (by simp[hc]))).mono ?_;rintro e W2 ⟨rfl,au⟩;refine F _ _ ⟨g,?_,λh=>(by rw[pi]at h;cases h),λ_=>au⟩
     simp[uY,Cu,vI,hc,Gd]
   .rintro g W hI;simp only[Ms];have aj:=fN (hI.2 uH);clear hI;rename_i KK a9;refine a9 _ _ ?_;clear a9 KK;go_wp2;go_roundw
    case rel=>
     have hf:=aj.out;rw[ai.out]at hf;have⟨l2,r1,r2,r3,re,r4,r5⟩:=hf;exact⟨j+1,l2,by go_num,by omega,r1,r2,r3,re,r4,r5⟩
    case measure=>simp[intOf];omega
  .have e:j=gx.length:=by omega
   have ad:u++J2=l++(J1++Ol gx++J2):=by rw[y,e,List.take_length];simp only[uS]
   have ar:=fN ad;clear ad y;have D2:=fN (C2.out wr u hW (by omega) N);clear C2 hW N C;go_wp21;refine D2.out.mono ?_;rintro e w2 ⟨rfl,h2,k2,_⟩;have⟨p,v,hb,hBb⟩:=h2.cells;have c3:w2.cell? ⟨b,3,none⟩=some (.bool fl):=by rw[fO hb];rfl
   have c2:w2.cell? ⟨b,2,none⟩=some (.func (.func kv) #[] lb):=by rw[fO hb];rfl
   have f3:=gu hb 3;have aB:=je hb;obtain⟨J,ab⟩:∃J,J=(s.toList==[115,116,121,108,101]):=⟨_,rfl⟩;have a8:=h2.set J;have Z:Kept [] E (w2.setCell ⟨b,3,none⟩ (.bool J)):=k2.setCell (.inr (by show E.heap.size<=b;omega)) _;have aC:(w2.setCell ⟨b,3,none⟩ (.bool J)).cell? ⟨b,2,none⟩=some (.func (.func kv) #[] lb):=by rw[fO (fV hb 3 _)];rfl
   have D3:=fN (HC.out _ Z s);have am:=fN (show u++J2≠[]from λe=>H (List.append_eq_nil_iff.1 e).1);have ak:=fN (show(u++J2).length<=l.length+6000+gx.length*6000000 by rw[me,af.out];omega);have H2:=fN a8;have K2:=fN Z;have a5:=fN ab;clear h2 k2 hb HC a8 Z;generalize hq:vd s=q at D3;have HQ:=fN hq;clear hq;go_wp21;rw[<-a5.out];refine D3.out.mono ?_;rintro e w3 ⟨rfl,rfl⟩;go_wp2;go_ret;have e9:=a5.out;subst e9;exact⟨by rw[HQ.out];rfl,⟨_,H2.out,ak.out,am.out,ar.out⟩,K2.out⟩
def yJ:Ev->Bool
 | .dt s=>decide (s.size<=5000)
 | .cm s=>decide (s.size<=5000)
 | .tx s=>decide (s.size<=1048576)
 | .enter s gx=>decide (gx.length<=16)&&(gx.all λa=>decide (a.1.size<=5000)&&decide (a.2.size<=66000))&&decide (s.size<=5000)
 | .uQ s=>decide (s.size<=5000)
def N3:Ev->Nat
 | .tx s=>240*s.size
 | .enter _ _=>6000+16*6000000
 |_=>6000
def vm (g:List Ev):Nat:=(g.map N3).sum
def vB (g:List Ev) (e:Ev):vm (g++[e])=vm g+N3 e:=by simp[vm]
def Y9 {a b : List Ev} (h:a <+:b):vm a<=vm b:=by
 obtain⟨r,rfl⟩:=h;simp[vm]
def JB (x:List UInt8×Bool):Ev->List UInt8×Bool
 | .dt s=>(x.1++kB [iI,s,iO],x.2)
 | .cm s=>(x.1++kB [mM,s,oe],x.2)
 | .tx s=>(x.1++(if x.2 then s else Gc s).data.toList,x.2)
 | .enter s gx=>(x.1++acH s gx,s.toList==[115,116,121,108,101])
 | .uQ s=>(x.1++kB [pK,s,iO],false)
def Q4 (g:List Ev):List UInt8×Bool:=g.foldl JB ([],false)
def As (g:List Ev) (e:Ev):Q4 (g++[e])=JB (Q4 g) e:=by simp[Q4]
def QL (B b:Nat) (vv:gG) (V:gn->Bool) (I:List Ev) (E:gr) (hv:ace E vv V) (X:L5 E) (p:E.heap.size<=B) (ht:∀e∈I,yJ e=true) (hw:vm I<=140737488355328):
  ZC 83 (gF b) V I E (λpre W=>Wu W B b (vv,(Q4 pre).2) (Q4 pre).1/\(Q4 pre).1.length<=vm pre/\(pre.any oT=true->(Q4 pre).1≠[])):=by
 have last:∀{pre K},pre++[K] <+:I->yJ K=true/\vm pre+N3 K<=140737488355328:=by
  intro pre K h;refine⟨ht K (h.subset (by simp)),?_⟩;have:=Y9 h;rw[vB]at this;omega
 refine {mono:=?_,dt:=λs=>?_,cm:=λs=>?_,tx:=λs=>?_,uQ:=λs=>?_,enter:=?_}
 .rintro pre W J ⟨k,q⟩ hk;exact⟨k.kept hk,q⟩
 .refine⟨437,gF b,λw=>by kernel_rfl,λw=>by kernel_rfl,enters_of func437 (by kernel_rfl) rfl,λpre W C F G=>?_⟩;obtain⟨k,q⟩:=last G;simp only[yJ,Aw,N3]at k q;obtain⟨j,H,g⟩:=F;simp only[As];generalize Q4 pre=x at *;obtain⟨l,a⟩:=x;dsimp only[JB]at j H g|-;refine(Wj B b (vv,a) l s W E j (by omega) C p).mono ?_;rintro e J ⟨rfl,y,z⟩;refine⟨rfl,⟨y,?_,?_⟩,z⟩
  .rw[vB,me,Lo,show iI.size=10 from rfl,show iO.size=1 from rfl];simp only[N3];omega
  .intro _;simp[kB]
 .refine⟨406,gF b,λw=>by kernel_rfl,λw=>by kernel_rfl,enters_of func406 (by kernel_rfl) rfl,λpre W C F G=>?_⟩;obtain⟨k,q⟩:=last G;simp only[yJ,Aw,N3]at k q;obtain⟨j,H,g⟩:=F;simp only[As];generalize Q4 pre=x at *;obtain⟨l,a⟩:=x;dsimp only[JB]at j H g|-;refine(Wi B b (vv,a) l s W E j (by omega) C p).mono ?_;rintro e J ⟨rfl,y,z⟩;refine⟨rfl,⟨y,?_,?_⟩,z⟩
  .rw[vB,me,Lo,show mM.size=4 from rfl,show oe.size=3 from rfl];simp only[N3];omega
  .intro _;simp[kB]
 .refine⟨438,gF b,λw=>by kernel_rfl,λw=>by kernel_rfl,enters_of func438 (by kernel_rfl) rfl,λpre W C F G=>?_⟩;obtain⟨k,q⟩:=last G;simp only[yJ,Aw,N3]at k q;obtain⟨j,H,g⟩:=F;simp only[As];generalize Q4 pre=x at *;obtain⟨l,a⟩:=x;dsimp only[JB]at j H g|-;have N:∀u:gn,u.size<=240*s.size->(l++u.data.toList).length<=vm (pre++[.tx s])/\((pre++[Ev.tx s]).any oT=true->l++u.data.toList≠[]):=by
   intro u hu;refine⟨?_,?_⟩
   .rw[vB,me,show u.data.toList.length=u.size from xq];simp only[N3];omega
   .intro h;rw[List.any_append]at h;have O:pre.any oT=true:=by simpa [oT]using h
    have:=g O;intro e;exact this (List.append_eq_nil_iff.1 e).1
  cases a with
  |false=>
   refine(ady B b (vv,false) l s W E j X rfl k (by omega) C p).mono ?_;rintro e J ⟨rfl,y,z⟩;obtain⟨Q,T⟩:=N _ (OP s);exact⟨rfl,⟨y,Q,T⟩,z⟩
  |true=>
   refine(adx B b (vv,true) l s W E j rfl (by omega) C p).mono ?_;rintro e J ⟨rfl,y,z⟩;obtain⟨Q,T⟩:=N s (by omega);exact⟨rfl,⟨y,Q,T⟩,z⟩
 .refine⟨408,gF b,λw=>by kernel_rfl,λw=>by kernel_rfl,enters_of func408 (by kernel_rfl) rfl,λpre W C F G=>?_⟩;obtain⟨k,q⟩:=last G;simp only[yJ,Aw,N3]at k q;obtain⟨j,H,g⟩:=F;simp only[As];generalize Q4 pre=x at *;obtain⟨l,a⟩:=x;dsimp only[JB]at j H g|-;refine(aby B b (vv,a) l s W E j (by omega) C p).mono ?_;rintro e J ⟨rfl,y,z⟩;refine⟨rfl,⟨y,?_,?_⟩,z⟩
  .rw[vB,me,Lo,show pK.size=2 from rfl,show iO.size=1 from rfl];simp only[N3];omega
  .intro _;simp[kB]
 .refine⟨407,gF b,λw=>by kernel_rfl,λw=>by kernel_rfl,enters_of func407 (by kernel_rfl) rfl,λpre W s Y gx C F G hA a0=>?_⟩;obtain⟨k,q⟩:=last G;simp only[yJ,qx,Aw,LW,N3]at k q;obtain⟨⟨O,h8⟩,Z⟩:=k;obtain⟨j,H,g⟩:=F;simp only[As];generalize Q4 pre=x at *;obtain⟨l,a⟩:=x;dsimp only[JB]at j H g|-;refine(abx B b (vv,a) V l s Y gx W E j hv X Z hA O h8 (by omega) C p).mono ?_;rintro e J ⟨rfl,⟨l',y,h9,U,rfl⟩,z⟩;refine⟨⟨_,rfl,.inl rfl⟩,⟨y,?_,λ_=>U⟩,z⟩;rw[vB];simp only[N3];have:gx.length*6000000<=16*6000000:=Nat.mul_le_mul_right _ O;omega
theorem abh (B b:Nat) (vv:gG×Bool) (l:List UInt8) (w E:gr) (h:Wu w B b vv l) (H:l≠[]) (y:Kept [] E w) (a1:E.heap.size<=B) (I:l.length<=140737488355328):
  Calls prog 33 #[gF b] w λe w'=>e=ir (gw ⟨l.toArray⟩)/\Kept [] E w':=by
 obtain⟨p,hB,v,C,z,a0⟩:∃p,Wo w B b vv p l:=by
  rcases h with h|h
  all_goals grind
 have X:l.length≠0:=by simpa using H
 obtain⟨g,q,u,rfl,O,U,Z,Q,T,G⟩:∃g q u,v=nI g l.length q/\B<=g/\w.heap[g]?=some (gy u 5)/\l.length<=q/\q<=maxLen/\u.size=q*1/\u.toList.take (l.length*1)=Lib.byteCells l:=by
  rcases z.2 with⟨_,hz⟩|⟨g,q,u,hv,r⟩
  .omega
  .exact⟨g,q,u,hv,r⟩
 have c1:w.drew.cell? ⟨b,1,none⟩=some (nI g l.length q):=by
  have:w.drew.heap[b]?=some (gy #[p,nI g l.length q,vv.1,.bool vv.2] 96):=C;rw[Lib.cell_of_heap this];rfl
 have Y:=je C;have K:(Builtin.unsafeSliceData_ #[53] 139 #[nI g l.length q]).run prog w.drew= .ok (gF g) w.drew:=
  Lib.run_unsafeSliceData_row _ _ _ _ _ _ (by omega)
 have N:(Builtin.unsafeString_ #[139,3] 9 #[gF g,ga l.length]).run prog w.drew= .ok (gw ⟨l.toArray⟩) (w.drew.freeze ⟨g,0,none⟩ l.length):=by
  refine Lib.run_unsafeString_row w.drew 139 3 9 5 underlying139 rfl g u.size (by have F:w.drew.heap[g]?=some (gy u 5):=U;simp[World.shape?,F]) l H ?_ ?_ ?_
  .omega
  .omega
  .intro j x hx;have:=z.cells (g:=g) rfl j (.int .u8 x.toNat) (by simp[Lib.byteCells,hx]);exact this
 have J:Hid (Kept [] E (w.drew.freeze ⟨g,0,none⟩ l.length)):=fN (Iq (Lib.below_freeze (Below.drew ⟨y.os,y.tape,y.output,y.size,λk V=>y.block k V (by simp)⟩) (p:=⟨g,0,none⟩) (by grind) _));go_enter func33,ntmps33;go_wp2;go_region
 all_goals (go_wp2;go_ret;exact⟨rfl,J⟩)
theorem abg (B b:Nat) (vv:gG×Bool) (w J:gr) (h:Wu w B b vv []) (F:Kept [] J w):
  Calls prog 33 #[gF b] w λe w'=>e=ir (gw kC)/\Kept [] J w':=by
 obtain⟨p,X,v,q,x,T⟩:∃p,Wo w B b vv p []:=by
  rcases h with h|h
  all_goals grind
 have G:=je q;have k:=λ(W:gr) (p:Option Addr)=>Lib.run_unsafeString_none (P:=prog) (w:=W) 139 3 9 p;have y:=F;rcases x.2 with⟨rfl,_⟩|⟨g,j,C,rfl,O,Q,Y⟩
 .have z:w.drew.cell? ⟨b,1,none⟩=some (jV):=by
   have:w.drew.heap[b]?=some (gy #[p,jV,vv.1,.bool vv.2] 96):=q;rw[Lib.cell_of_heap this];rfl
  have u:(Builtin.unsafeSliceData_ #[53] 139 #[jV]).run prog w.drew= .ok (.pointer none) w.drew:=Lib.run_unsafeSliceData_nil _ _ _ _ _;have H:=k w.drew none;go_enter func33,ntmps33;go_wp2;go_region
  all_goals (go_wp2;go_ret;exact⟨rfl,y.drew⟩)
 .have z:w.drew.cell? ⟨b,1,none⟩=some (nI g 0 j):=by
   have:w.drew.heap[b]?=some (gy #[p,nI g 0 j,vv.1,.bool vv.2] 96):=q;rw[Lib.cell_of_heap this];rfl
  by_cases I:j=0
  .subst I;have u:(Builtin.unsafeSliceData_ #[53] 139 #[nI g 0 0]).run prog w.drew= .ok (gF w.drew.heap.size) (w.drew.alloc (.view ⟨g,0,none⟩ 5)):=by
    have E:w.drew.heap[g]?=some (gy C 5):=Q;exact Lib.run_unsafeSliceData_zero _ _ _ 5 underlying139 ⟨g,0,none⟩ 0 _ (by simp only[World.shape?,E];rfl)
   have H:=k (w.drew.alloc (.view ⟨g,0,none⟩ 5)) (some ⟨w.drew.heap.size,0,none⟩);have N:=k (w.alloc (.view ⟨g,0,none⟩ 5)).drew (some ⟨w.heap.size,0,none⟩);have U:w.cell? ⟨b,1,none⟩=some (nI g 0 0):=z;have V:(w.drew.alloc (.view ⟨g,0,none⟩ 5)).cell? ⟨b,1,none⟩=some (nI g 0 0):=by rw[SV _ _ _ G];exact z
   have K:=y.drew.alloc (.view ⟨g,0,none⟩ 5);go_enter func33,ntmps33;go_wp2;go_region
   all_goals (go_wp2;go_ret;exact⟨rfl,K⟩)
  .have u:(Builtin.unsafeSliceData_ #[53] 139 #[nI g 0 j]).run prog w.drew= .ok (gF g) w.drew:=Lib.run_unsafeSliceData_row _ _ _ _ _ _ I;have H:=k w.drew (some ⟨g,0,none⟩);go_enter func33,ntmps33;go_wp2;go_region
   all_goals (go_wp2;go_ret;exact⟨rfl,y.drew⟩)
def abj (B b:Nat) (vv:gG×Bool) (l:List UInt8) (w k:gr) (h:Wu w B b vv l) (g:Kept [] k w) (p:k.heap.size<=B) (j:l.length<=140737488355328):
  Calls prog 33 #[gF b] w λe w'=>e=ir (gw ⟨l.toArray⟩)/\Kept [] k w':=by
 by_cases q:l=[]
 .subst q;exact abg B b vv w k h g
 .exact abh B b vv l w k h q g p j
def QM (w:gr) (k:Nat) (j:gn) (gx:lh) (u:List Tn) (h:jA w (.el j gx u) (.el k)) (hb:rh w) (hg:L5 w)
  (C:∀Q,(∀e∈uv Q u,yJ e=true)/\vm (uv Q u)<=140737488355328):
  Calls prog 22 #[gF k] w λe w'=>e=ir (gw ⟨(Q4 (uv (Vi rQ 1) u)).1.toArray⟩)/\Kept [] w w':=by
 have T:=Bd w hb;have U:=(λx W (H:rP W x (zJ rQ))=>Tf x 1 rQ W H (by decide) Tt);have HT:=h;have HG:=hg;have HE:=C;go_enter func22,ntmps22;go_wp21;refine T.mono ?_;rintro e w1 ⟨x,rfl,H,y,_⟩;have Z:=U x w1 H;go_wp21;refine Z.mono ?_;rintro e g ⟨⟨v,rfl,O⟩,E⟩;have I:=O.toW;have⟨kk,lb,hvv,_⟩:=O.call;subst hvv;have q:=y.trans E;have⟨h1,H2⟩:=HE (Vi rQ 1);have K:=(Kept.refl [] g).alloc (gy #[.pointer none,jV,.func (.func kk) #[] lb,.bool false] 96);have J:Wu (g.alloc (gy #[.pointer none,jV,.func (.func kk) #[] lb,.bool false] 96)) g.heap.size g.heap.size (.func (.func kk) #[] lb,false) []:= .inl ⟨gW _,_,fQ g _,py _ _ _ _,by simp[Value.ownBlock]⟩;have V:=QL g.heap.size g.heap.size _ _ (uv (Vi rQ 1) u) g I (HG.kept q) (gW _) h1 H2;have X:=ya V k j gx u (jA.kept q HT) rfl _ K ⟨J,iP _,by simp⟩;go_wp21;refine X.mono ?_;rintro e w4 ⟨rfl,⟨N,hz,a1⟩,F⟩;have⟨p,vv,hbk,_⟩:=N.cells;have a0:=je hbk;have Y:=abj _ _ _ _ w4 g N F (gW _) (jH hz H2);go_wp21;refine Y.mono ?_;rintro e w5 ⟨rfl,G⟩;have z:=q.trans G;go_wp2;go_ret;exact⟨rfl,z⟩
def Y3 (w:gr) (bx k:Nat) (c:jE) (g:gn) (gx:lh) (j:List Tn) (q:Uw w bx c k) (h:jA w (.el g gx j) (.el k)) (C:rh w) (E:L5 w)
  (p:∀u,(∀e∈uv u j,yJ e=true)/\vm (uv u j)<=140737488355328):
  Calls prog 13 #[gF bx] w λe w'=>e=ir (gw ⟨(Q4 (uv (Vi rQ 1) j)).1.toArray⟩)/\Kept [] w w':=by
 have x:=FD w bx k c q;have y:=QM w k g gx j h C E p;have G:=q.wK;have F:=je q.1;go_enter func13,ntmps13;go_wp21;refine x.mono ?_;rintro e H ⟨rfl,rfl⟩;go_wp21;refine y.mono ?_;rintro e I ⟨rfl,z⟩;go_wp2;go_ret;exact⟨rfl,z⟩
def J0 (s:gn):kC++s=s:=by
 rfl
def QY:jE:=#[ga 0,ga 0,jV,gw kC,jV]
theorem yO (u:w.ownsRow base e sz v n xs) {c : jE} {t : TypeId} (y:w.heap[b]?=some (gy c t)) (q:e≠t):∀k,v.ownBlock=some k->k∉[b]:=by
 intro k g p;have e1:=List.mem_singleton.1 p;subst e1;rcases u.2 with⟨e2,_⟩|⟨C,h,j,e2,_,z,_⟩
 .rw[e2]at g;cases g
 .rw[e2]at g;have x:=jz g;grind
def vS (T:List Tn):List It:=kY (uv (λ_=>false) T)
def Uw.of {k : Nat} {d f l : Int} (h:w.heap[bx]?=some (gy (BJ d f l n v k) 69)):Uw w bx (BJ d f l n v k) k:=⟨h,rfl⟩
structure Told where
 c:Nat
 p:Nat
 its:List It
 txt:gn
 sps:List Sp
def ach (w:gr) (X:Told) (e:Ending) (w':gr):Prop:=∃q h g j k p,e=ir (.tuple #[.agg #[ga X.c,ga X.p,.slice q h g,gw X.txt,.slice j k p],.bool true])/\w'.ownsRow w.heap.size 61 3 (.slice q h g) X.its.length (vQ X.its)/\w'.ownsRow w.heap.size 72 3 (.slice j k p) X.sps.length (kZ X.sps)/\Kept [] w w'
def QB (T:List Tn):gn:=⟨(Q4 (uv (Vi rQ 1) T)).1.toArray⟩
def Ww (T:List Tn):Prop:=(∀g,(∀e∈uv g T,yJ e=true)/\vm (uv g T)<=140737488355328)/\(vS T).length<=1000000000
structure Kvx (w:gr) (bx R1 R2 k:Nat) (d f l:Int) (n:Nat) (v:gG) (L:List Sp) (D:Tn) (c2:jE) (W:gr):Prop where
 px:W.heap[bx]?=some (gy (BJ d f l n v k) 69)
 tr:jA W D (.el k)
 sp:W.ownsRow 0 72 3 v L.length (kZ L)
 r1:W.heap[R1]?=some (gy QY 30)
 r2:W.heap[R2]?=some (gy c2 30)
 ne:R1≠R2
 ge:w.heap.size<=R2
 kp:Kept [] w W
def Kvx.k0 {j p k : Nat} {d f l : Int} {c2 : jE} {q : gr} (h:Kvx w bx j p k d f l n v L D c2 W) (g:Kept [] W q):Kvx w bx j p k d f l n v L D c2 q:=
 ⟨g.at h.px (by simp),jA.kept g h.tr,g.ownsRow h.sp (λ_ _=>by simp),g.at h.r1 (by simp),g.at h.r2 (by simp),h.ne,h.ge,h.kp.trans g⟩
def Kvx.set {w:gr} {bx y g k:Nat} {d f l:Int} {n:Nat} {v:gG} {L:List Sp} {D:Tn} {c2:jE} {W:gr} (h:Kvx w bx y g k d f l n v L D c2 W) (j:Nat) (u:gG):Kvx w bx y g k d f l n v L D (c2.setIfInBounds j u) (W.setCell ⟨g,j,none⟩ u):=by
 have p:Kept [g] W (W.setCell ⟨g,j,none⟩ u):=(Kept.refl _ _).setCell (.inl (by simp)) _;have E:bx∉[g]:=by
  intro F;have e:=List.mem_singleton.1 F;have z:=h.px;rw[e,h.r2]at z;simp at z
 exact⟨p.at h.px E,jA.kn (KN.jC p (λq G c t x C=>by
   have e:=List.mem_singleton.1 G;subst e;rw[h.r2]at x;simp at x;rw[<-x.2]at C;revert C;decide)) h.tr,p.ownsRow h.sp (yO h.sp h.r2 (by decide)),p.at h.r1 (by simpa using h.ne),fV h.r2 j u,h.ne,h.ge,h.kp.setCell (.inr h.ge) _⟩
def R7 (s:gn) (d f l:Nat) (w:gr) (hs:s.size<=1024) (hd:4<=d/\d<=64) (hf:1<=f/\f<=32) (hl:1<=l/\l<=16) (hT:yh w) (hg:L5 w) {T : List Tn} (hn:L9 s d f l (.el nm gx T) L) (hE:Ww T):
  Calls prog 7 #[gw s,ga d,ga f,ga l,jV] w (ach w ⟨0,s.size,vS T,QB T,L⟩):=by
 obtain⟨x,Q⟩:∃x,x=w.alloc (.cells QY 30):=⟨_,rfl⟩;have k0:Kept [] w x:=by rw[Q];exact(Kept.refl _ _).alloc _
 have z0:x.heap.size=w.heap.size+1:=by rw[Q];simp
 have r0:x.heap[w.heap.size]?=some (gy QY 30):=by rw[Q];exact fQ w _
 have CN:=fN (aaK (d:Int) (f:Int) (l:Int) x ⟨by omega,by omega,by omega,by omega,by omega,by omega⟩);have HW:=fN (show w.alloc (.cells QY 30)=x from Q.symm);unfold QY at HW;have HE:=fN hE;have HT:=fN hT;have HG:=fN hg;have aI:=fN hn;have aF:=fN k0;have HZ:=fN z0;have HR:=fN r0;clear Q k0 z0 r0 hT hg hn hE;go_enter func7,ntmps7;go_wp21;rw[HW.out];refine CN.out.mono ?_;rintro e w1 ⟨rfl,ad,ao⟩;have CW:=λ(t:gn) (ht:t.size<=1024)=>VJ x.heap.size ((d:Int),(f:Int),(l:Int)) (jV) ⟨#[]⟩ t w1.heap.size w1 ad (py _ _ _ _) (by show 0+t.size<=1024;omega) (gW _);simp only[J0]at CW;have aE:=fN (CW s hs);have aD:=fN CW;have aG:=fN ao;have aQ:=fN (je ad);clear CW ad ao CN;go_wp21;refine Au 2 ?_;rw[rF];by_cases h0:s.size=0;have e1:ByteArray.empty=s:=by apply Cg;exact(SX h0).symm
 have hz:((ByteArray.empty).size:Int)=0:=rfl;have C0:=fN (aD.out ByteArray.empty (by decide));have E1:=fN e1;clear e1;go_wp21;refine C0.out.mono ?_;rintro e g ⟨rfl,y⟩;rw[E1.out]at y;have a4:=fN y;clear y C0;go_wp21;clear h0 hz
 rotate_left
 go_wp21;refine aE.out.mono ?_;rintro e g ⟨rfl,y⟩;have a4:=fN y;clear y;go_wp21;rw[rF];go_wp21
 all_goals
  have y:=a4.out;clear a4;have⟨tv,hx2,ow2,hk2,_⟩:=y;have a9:Kept [] x g:=aG.out.next (S':=x.heap.size::(jV).ownBlock.toList) hk2 (by simp[Value.ownBlock]);have k3:Kept [] g (g.alloc (.cells #[ga 0,ga 0,jV,gw kC,jV] 30)):=(Kept.refl _ _).alloc _;have Z:=(aF.out.trans a9).trans k3;have aC:=fN (fQ g (.cells #[ga 0,ga 0,jV,gw kC,jV] 30));have CC:=fN (aaJ x.heap.size d f l tv s w1.heap.size _ (k3.at hx2 (by simp)) (k3.ownsRow ow2 (λ_ _=>by simp)) (HT.out.fr (bm:=0) (.gP Z)) (HG.out.kept Z) aI.out);have ag:=fN Z;have aJ:=fN (k3.at (a9.at HR.out (by simp)) (by simp));have a3:x.heap.size < g.heap.size:=je hx2;have a7:=fN a3;clear hx2 ow2 hk2 a9 k3 Z a3;go_wp21;refine CC.out.mono ?_;rintro e w4 ⟨rfl,v4,k4,az,ax,aw,ar,X⟩;have au:g.heap.size∉[x.heap.size]:=by have:=a7.out;simp;omega
  have av:w.heap.size∉[x.heap.size]:=by have:=HZ.out;simp;omega
  have V4:Kvx w x.heap.size w.heap.size g.heap.size k4 d f l s.size v4 L (.el nm gx T) #[ga 0,ga 0,jV,gw kC,jV] w4:=
   ⟨az,ax,jU aw (iP _),X.at aJ.out av,X.at aC.out au,by have:=HZ.out;have:=a7.out;omega,by have:=HZ.out;have:=a7.out;omega,ag.out.next X (by have:=HZ.out;simp;omega)⟩
  have d0:=fO V4.r2 0;have f0:=gu V4.r2 0;dsimp at d0;have ES:=fN (nZ V4.r2 0 (ga 0) rfl);have CS:=fN (PH x.heap.size d f l s.size k4 v4 w4 V4.px);have aK:=fN V4;have aH:=fN ar;clear az ax aw ar X V4 CC;go_wp21;rw[ES.out];refine CS.out.mono ?_;rintro e w6 ⟨rfl,ap⟩;have V6:=aK.out.k0 ap;have g0:=fO V6.r2 0;have g1:=fO V6.r2 1;have y1:=gu V6.r2 1;dsimp at g0 g1;have V7:=V6.set 1 (ga s.size);obtain⟨w7,ab⟩:∃w7,w7=w6.setCell ⟨g.heap.size,1,none⟩ (ga s.size):=⟨_,rfl⟩;rw[<-ab]at V7;have aM:=fN ab.symm;have CL:=fN (Yh w7 x.heap.size k4 _ _ _ _ (Uw.of V7.px) V7.tr (vS T) rfl HE.out.2);have am:=fN V7;clear ap V6 V7 ab CS;go_wp21;rw[aM.out];refine CL.out.mono ?_;rintro e w8 ⟨v8,rfl,Y,aq⟩;have⟨a8,p8,hv8⟩:=gv Y;subst hv8;have V8:=am.out.k0 aq;have g2:w8.cell? ⟨g.heap.size,2,none⟩=some (jV):=by rw[fO V8.r2];rfl
  have y2:=gu V8.r2 2;have V9:=V8.set 2 (.slice a8 (vS T).length p8);have aa:(w8.setCell ⟨g.heap.size,2,none⟩ (.slice a8 (vS T).length p8)).ownsRow w.heap.size 61 3 (.slice a8 (vS T).length p8) (vS T).length (vQ (vS T)):=((Kept.refl [g.heap.size] w8).setCell (.inl (by simp)) _).ownsRow (jU Y am.out.kp.size) (yO Y V8.r2 (by decide));obtain⟨w9,ac⟩:∃w9,w9=w8.setCell ⟨g.heap.size,2,none⟩ (.slice a8 (vS T).length p8):=⟨_,rfl⟩;rw[<-ac]at V9 aa;have aN:=fN ac.symm;have CX:=fN (Y3 w9 x.heap.size k4 _ _ _ _ (Uw.of V9.px) V9.tr (HT.out.fr (bm:=0) (.gP V9.kp)).1 (HG.out.kept V9.kp) HE.out.1);have aL:=fN V9;have aj:=fN aa;clear Y aq V8 V9 aa ac CL;go_wp21;rw[aN.out];refine CX.out.mono ?_;rintro e ae ⟨rfl,E⟩;obtain⟨C,O⟩:∃C:gn,C=⟨(Q4 (uv (Vi rQ 1) T)).1.toArray⟩:=⟨_,rfl⟩;rw[<-O];have al:=fN O;have H:=aL.out.k0 E;have g3:ae.cell? ⟨g.heap.size,3,none⟩=some (gw kC):=by rw[fO H.r2];rfl
  have y3:=gu H.r2 3;have I:=H.set 3 (gw C);have K:=((Kept.refl [g.heap.size] ae).setCell (p:=⟨g.heap.size,3,none⟩) (.inl (by simp)) (gw C)).ownsRow (E.ownsRow aj.out (λ_ _=>by simp)) (yO (E.ownsRow aj.out (λ_ _=>by simp)) H.r2 (by decide));obtain⟨af,U⟩:∃af,af=ae.setCell ⟨g.heap.size,3,none⟩ (gw C):=⟨_,rfl⟩;rw[<-U]at I K;have an:=fN U.symm;have CT:=fN (adt x.heap.size d f l s.size k4 0 v4 L af I.px I.sp (by have:=aH.out;omega));have a1:=fN I;have ah:=fN K;clear E H I K U CX O;go_wp21;rw[an.out];refine CT.out.mono ?_;rintro e j ⟨aR,rfl,N,J⟩;have⟨a12,c12,hv12⟩:=gv N;subst hv12;have F:=a1.out.k0 J;have a2:=J.ownsRow ah.out (λ_ _=>by simp);have ak:=fN (jU N a1.out.kp.size);generalize hlen:(vS T).length=aA at *;generalize hlen2:L.length=aB at *;have a0:=fN hlen;have G:=fN hlen2;have z:=F.r2;have k:=F.r1;have m0:j.cell? ⟨g.heap.size,0,none⟩=some (ga 0):=by rw[fO z];rfl
  have m1:j.cell? ⟨g.heap.size,1,none⟩=some (ga s.size):=by rw[fO z];rfl
  have m2:j.cell? ⟨g.heap.size,2,none⟩=some (.slice a8 aA p8):=by rw[fO z];rfl
  have m3:j.cell? ⟨g.heap.size,3,none⟩=some (gw C):=by rw[fO z];rfl
  have m4:j.cell? ⟨g.heap.size,4,none⟩=some (jV):=by rw[fO z];rfl
  have y4:=gu z 4;have u0:j.cell? ⟨w.heap.size,0,none⟩=some (ga 0):=by rw[fO k];rfl
  have u1:j.cell? ⟨w.heap.size,1,none⟩=some (ga 0):=by rw[fO k];rfl
  have u2:j.cell? ⟨w.heap.size,2,none⟩=some (jV):=by rw[fO k];rfl
  have u3:j.cell? ⟨w.heap.size,3,none⟩=some (gw kC):=by rw[fO k];rfl
  have u4:j.cell? ⟨w.heap.size,4,none⟩=some (jV):=by rw[fO k];rfl
  have j0:=gu k 0;have j1:=gu k 1;have j2:=gu k 2;have j3:=gu k 3;have j4:=gu k 4;have aP:w.heap.size≠g.heap.size:=F.ne;have ay:g.heap.size≠w.heap.size:=λh=>F.ne h.symm;have u:=fN F;have ai:=fN a2;clear F a2 z k J CT N hlen hlen2;go_wp2;refine o0 (v:= .tuple #[.agg #[ga 0,ga s.size,.slice a8 aA p8,gw C,.slice a12 aB c12],.bool true]) ?_ rfl ⟨_,_,_,_,_,_,by rw[al.out];rfl,?_,?_,?_⟩
  .simp[results,results7,asAddr,Result.andThen,go_sem,u0,u1,u2,u3,u4,aP,ay]
  .have V:=ai.out;rw[<-a0.out]at V;rw[<-a0.out];have h5:=yO V u.out.r2 (by decide);have h6:=yO V u.out.r1 (by decide);refine Kept.ownsRow (S:=[g.heap.size,w.heap.size]) (((((((Kept.refl _ j).setCell (.inl (by simp)) _).setCell (.inl (by simp)) _).setCell (.inl (by simp)) _).setCell (.inl (by simp)) _).setCell (.inl (by simp)) _).setCell (.inl (by simp)) _) V (λq hq=>?_);have a5:=h5 q hq;have a6:=h6 q hq;simp at a5 a6|-;omega
  .have V:=ak.out;rw[<-G.out]at V;rw[<-G.out];have h5:=yO V u.out.r2 (by decide);have h6:=yO V u.out.r1 (by decide);refine Kept.ownsRow (S:=[g.heap.size,w.heap.size]) (((((((Kept.refl _ j).setCell (.inl (by simp)) _).setCell (.inl (by simp)) _).setCell (.inl (by simp)) _).setCell (.inl (by simp)) _).setCell (.inl (by simp)) _).setCell (.inl (by simp)) _) V (λq hq=>?_);have a5:=h5 q hq;have a6:=h6 q hq;simp at a5 a6|-;omega
  .have m:=u.out.kp;have aO:=u.out.ge;exact(((((m.setCell (.inr aO) _).setCell (.inr (gW _)) _).setCell (.inr (gW _)) _).setCell (.inr (gW _)) _).setCell (.inr (gW _)) _).setCell (.inr (gW _)) _
def Lr:A0->Prop
 | .el e=>e.name.size<=5000/\e.gM.length<=16/\∀p∈e.gM,p.1.size<=5000/\p.2.size<=66000
 | .tx _=>True
 | .cm s=>s.size<=5000
 | .dt s=>s.size<=5000
class XL where
 l:List Nat
section
variable [XL]
def NG (σ:Ab):Prop:=σ.oO<=16/\(∀n∈σ.nodes,Lr n)/\∀i e,σ.gV i=some e->e.ja=none->i=0\/i∈XL.l
structure TG (t:gz):Prop where
 name:t.name.size<=5000
 len:t.jm.length<=16
 gx:∀p∈t.jm,p.1.size<=5000/\p.2.size<=66000
 cm:∀s,t.k= .gJ s->s.size<=5000
 dt:∀n q,t.k= .iH n q->n.size<=5000
def uO {α:Type} (r:pC α):Prop:=match r with
 | .ok _ σ'=>NG σ'
 | .stop e _=>e≠0
 | .stuck=>True
def Kp {α:Type} (m:M α):Prop:=∀σ,NG σ->uO (m σ)
def Kp.pure {α:Type} (a:α):Kp (Pure.pure a:M α):=λ_ h=>h
def Kp.stuck {α:Type}:Kp (stuck:M α):=λ_ _=>trivial
def Kp.bind {α q:Type} {m:M α} {f:α->M q} (h:Kp m) (k:∀a,Kp (f a)):Kp (m>>=f):=by
 intro σ j;rw[M.gm];have g:=h σ j;revert g;cases m σ with
 |ok a σ'=>intro g;exact k a σ' g
 |stop e p=>simp[uO]
 |stuck=>simp[uO]
theorem Kp.ite {α:Type} {c:Prop} [Decidable c] {a b:M α} (g:Kp a) (h:Kp b):Kp (if c then a else b):=by grind
def Kp.at {α:Type} {m:M α} {σ:Ab} (h:Kp m) (g:NG σ):uO (m σ):=h σ g
theorem NG.mq {σ σ':Ab} (h:NG σ) (e1:σ'.nodes=σ.nodes) (e2:σ'.oO=σ.oO):NG σ':=⟨by rw[e2];exact h.1,by rw[e1];exact h.2.1,λi e g=>h.2.2 i e (by grind[Ab.gV])⟩
def Kp.wm {f:Ab->Ab} (e1:∀σ,(f σ).nodes=σ.nodes) (e2:∀σ,(f σ).oO=σ.oO):Kp (wm f):=λσ h=>h.mq (e1 σ) (e2 σ)
theorem Kp.same {α:Type} {m:M α} (h:∀σ a σ',m σ= .ok a σ'->σ'=σ) (k:∀σ c p,m σ≠ .stop c p):Kp m:=by
 intro σ q;have g:=h σ;have j:=k σ;revert g j;cases m σ with
 |ok a σ'=>grind[uO]
 |stop e p=>simp
 |stuck=>simp[uO]
def NG.el {σ:Ab} (h:NG σ) {i:Nat} {e:zz} (g:σ.gV i=some e):Lr (.el e):=h.2.1 _ (tk (Ab.jd g))
theorem NG.aeq {σ:Ab} (h:NG σ) {i:Nat} {n:A0} (u:Lr n) (x:∀e,n= .el e->e.ja=none->i=0\/i∈XL.l):NG {σ with nodes:=σ.nodes.set i n}:=⟨h.1,λm q=>by
 rcases List.mem_or_eq_of_mem_set q with g|g
 .exact h.2.1 m g
 grind,λj e p=>by
 have k:=h.2.2 j e;unfold Ab.gV at p k;grind⟩
theorem NG.set {σ:Ab} (h:NG σ) {i:Nat} {e:zz} (g:Lr (.el e)) (p:e.ja=none->i=0\/i∈XL.l):NG (σ.gU i e):=h.aeq g (λj k=>by grind)
theorem NG.add {σ:Ab} (h:NG σ) {n:A0} (x:Lr n) (y:∀e,n= .el e->σ.nodes.length∈XL.l):NG (σ.add n):=⟨h.1,λm q=>by
 rcases List.mem_append.1 q with k|k
 .exact h.2.1 m k
 grind,λj e g u=>by
 by_cases p:j < σ.nodes.length
 .rw[Ab.tA p]at g;exact h.2.2 j e g u
 .by_cases e1:j=σ.nodes.length
  .subst e1;rw[Ab.tY]at g;grind
  .have:=Ab.ic g;simp[Ab.add]at this;omega⟩
def NG.pa {σ:Ab} (h:NG σ) {n:A0} (g:Lr n) (b:Bool) (j:∀e,n= .el e->σ.nodes.length∈XL.l):NG (σ.pa n b):=(h.add g j).mq rfl rfl
omit [XL] in
theorem Lr.kids {e e':zz} (h:Lr (.el e)) (g:e'.name=e.name) (j:e'.gM=e.gM):Lr (.el e'):=by
 grind[Lr]
def uO.ok {α:Type} {a:α} {σ:Ab} (h:NG σ):uO (.ok a σ):=h
def Kp.fn {α:Type} {f:Ab->pC α} (h:∀σ,NG σ->uO (f σ)):Kp (α:=α) f:=h
attribute [simp] Kp.pure Kp.stuck Kp.bind Kp.ite
@[simp] def Y8 {f:Ab->Ab} (h:∀σ,(f σ).nodes=σ.nodes/\(f σ).oO=σ.oO):Kp (wm f):=Kp.wm (λσ=>(h σ).1) (λσ=>(h σ).2)
def Bm (rec:Nat->gz->M Unit):Prop:=∀m t,TG t->Kp (rec m t)
omit [XL] in
@[simp] def TB (σ:Ab):σ.mG.nodes=σ.nodes/\σ.mG.oO=σ.oO:=⟨rfl,rfl⟩
def uO.st {α:Type} {n p:Nat}:uO (α:=α) (.stop (n+1) p):=Nat.succ_ne_zero n
omit [XL] in
@[simp] def Zq (σ:Ab) (p:gn->Bool):(σ.wH p).nodes=σ.nodes/\(σ.wH p).oO=σ.oO:=⟨rfl,rfl⟩
@[simp] def aaR (pl:Nat×Nat) (j:Nat):Kp (mP pl j):=by
 intro σ h;unfold mP;split
 .rename_i k q g p;split
  .refine uO.ok (NG.set (NG.set h ?_ ?_) ?_ ?_)
   .exact Lr.kids (h.el g) rfl rfl
   .exact h.2.2 _ k g
   .exact Lr.kids (h.el p) rfl rfl
   simp
  .trivial
 .trivial
@[simp] def aaT (pl:Nat×Nat) (k:Nd):Kp (zl pl k):=by
 intro σ h;unfold zl;split
 .rename_i j g;split
  .exact uO.ok (NG.set h (Lr.kids (h.el g) rfl rfl) (h.2.2 _ j g))
  .trivial
 .trivial
@[simp] def adl (pl:Nat×Nat) (s:gn):Kp (ux pl s):=by
 intro σ h;unfold ux;split
 .rename_i j g;split
  .split
   .split
    .split
     .exact uO.ok (NG.aeq h (n:= .tx _) trivial nofun)
     .trivial
    .trivial
   .exact uO.ok (NG.set (NG.add h (n:= .tx _) trivial nofun) (Lr.kids (h.el g) rfl rfl) (h.2.2 _ j g))
  .trivial
 .trivial
@[simp] def Nk (x:jb):Kp (wN x):=by
 unfold wN;refine Kp.fn λσ h=>?_
 (repeat' split)<;>first|exact h|exact trivial|exact uO.st|exact uO.ok (h.mq rfl rfl)|exact Kp.at (by(repeat' first|with_reducible refine Kp.bind ?_ λ_=>?_|with_reducible refine Kp.ite ?_ ?_)<;>simp[*]) h
@[simp] def Xg (p b:gn->Bool):Kp (ng p b):=by
 unfold ng;refine Kp.fn λσ h=>?_
 (repeat' split)<;>first|exact h|exact trivial|exact uO.st|exact uO.ok (h.mq rfl rfl)|exact Kp.at (by(repeat' first|with_reducible refine Kp.bind ?_ λ_=>?_|with_reducible refine Kp.ite ?_ ?_)<;>simp[*]) h
@[simp] def UW:Kp (ou):=by
 simp[ou]
@[simp] def aej (p:gn->Bool):Kp (pS p):=by refine Kp.wm (λσ=>?_) (λσ=>?_)<;>(unfold Ab.IW;split<;>rfl)
@[simp] def Hc (p:gn->Bool):Kp (ur p):=Y8 λ_=>⟨rfl,rfl⟩
@[simp] def AP (m:Nat):Kp (jD m):=Y8 λ_=>⟨rfl,rfl⟩
@[simp] def II (x:jb):Kp (j8 x):=by
 unfold j8;refine Kp.fn λσ h=>?_
 (repeat' split)<;>first|exact h|exact trivial|exact uO.st|exact uO.ok (h.mq rfl rfl)|exact Kp.at (by(repeat' first|with_reducible refine Kp.bind ?_ λ_=>?_|with_reducible refine Kp.ite ?_ ?_)<;>simp[*]) h
@[simp] def Oc (x:jb):Kp (kD x):=by
 unfold kD;refine Kp.fn λσ h=>?_
 (repeat' split)<;>first|exact h|exact trivial|exact uO.st|exact uO.ok (h.mq rfl rfl)|exact Kp.at (by(repeat' first|with_reducible refine Kp.bind ?_ λ_=>?_|with_reducible refine Kp.ite ?_ ?_)<;>simp[*]) h
@[simp] def aaB (x y:jb):Kp (zk x y):=by
 unfold zk;refine Kp.fn λσ h=>?_
 (repeat' split)<;>first|exact h|exact trivial|exact uO.st|exact uO.ok (h.mq rfl rfl)|exact Kp.at (by(repeat' first|with_reducible refine Kp.bind ?_ λ_=>?_|with_reducible refine Kp.ite ?_ ?_)<;>simp[*]) h
@[simp] def Td (x y:jb):Kp (qW x y):=by
 unfold qW;refine Kp.fn λσ h=>?_
 (repeat' split)<;>first|exact h|exact trivial|exact uO.st|exact uO.ok (h.mq rfl rfl)|exact Kp.at (by(repeat' first|with_reducible refine Kp.bind ?_ λ_=>?_|with_reducible refine Kp.ite ?_ ?_)<;>simp[*]) h
@[simp] theorem Tw (i:Nat):∀L:lh,(∀p∈L,p.1.size<=5000/\p.2.size<=66000)->Kp (qe i L)
 |[],_=>Kp.pure _
 |a::r,hL=>by
  intro σ h;have j:=Tw i r (λp q=>hL p (pX _ q));unfold qe;split
  .trivial
  .rename_i e g;split
   .exact j σ h
   .split
    .simp[uO]
    .rename_i k;refine j _ (h.set ?_ (h.2.2 _ e g));have⟨a1,a2,a3⟩:=h.el g;have:=h.1;grind[Lr]
@[simp] def aeF (i:Nat) (t:gz) (g:TG t):Kp (vP i t):=by
 intro σ h;unfold vP;split
 .exact Tw i _ g.gx σ h
 .trivial
@[simp] theorem ZH (n:Nat):Kp (Fh n):=by
 unfold Fh;refine Kp.fn λσ h=>?_;grind[uO]
@[simp] def Od (n:Nat):Kp (qA n):=by intro σ h;exact Td _ _ σ h
@[simp] def adm (pl:Nat×Nat) (k:Nd):Kp (Ey pl k):=by
 cases k with
 |el j=>simp[Ey]
 |tx j=>simp[Ey]
 |cm j=>simp[Ey]
 |dt j=>simp[Ey]
@[simp] theorem aaG (n:Nat):Kp (FW n):=by
 unfold FW;refine Kp.fn λσ h=>?_;grind[uO]
@[simp] def GI (rec:Nat->gz->M Unit) (t:gz) (g:Bm rec) (j:TG t):Kp (jM rec t):=λσ h=>g _ _ j σ h
@[simp] def PQ (pl:Nat×Nat) (nd:A0) (k:Nat->Nd) (g:Lr nd) (j:∀e,nd= .el e->False):Kp (oH pl nd k):=λσ h=>aaT _ _ _ (h.add g λe h=>(j e h).elim)
@[simp] def Ng:Kp (po):=by intro σ h;exact II _ σ h
@[simp] def Sr:Kp (pushHead):=by intro σ h;exact Nk _ σ h
@[simp] def ZN (rec:Nat->gz->M Unit) (t:gz) (g:Bm rec) (h:TG t):Kp (tu rec t):=Kp.bind Sr λ_=>Kp.bind (g _ _ h) λ_=>Kp.bind Ng λ_=>Kp.pure _
@[simp] def adA (of:gn) (pl:Bool):Kp (Mh of pl):=Y8 λ_=>⟨rfl,rfl⟩
@[simp] def adC:Kp (ym):=by intro σ h;unfold ym;split;exact h;exact UW σ h
@[simp] def XE (rec:Nat->gz->M Unit) (t:gz) (g:Bm rec) (h:TG t):Kp (sL rec t):=Kp.bind (Kp.wm (λ_=>rfl) (λ_=>rfl)) λ_=>Kp.bind (g _ _ h) λ_=>Kp.bind (Kp.wm (λ_=>rfl) (λ_=>rfl)) λ_=>Kp.pure _
@[simp] def acW (t:gz):Kp (oC t):=by
 unfold oC;split
 .refine Kp.ite (Kp.pure _) (Kp.fn λσ h=>?_);split
  .exact uO.ok (h.mq rfl rfl)
  .trivial
 simp
omit [XL] in
def ZT (x:Nat×Nat×gn):TG (qc x):=⟨iP _,iP _,(λ_ g=>by cases g),(λ_ h=>by cases h),(λ_ _ h=>by cases h)⟩
@[simp] def Fw (rec:Nat->gz->M Unit) (g:Bm rec):∀xs,Kp (tG rec xs)
 |[]=>Kp.pure _
 |x::r=>Kp.bind (XE rec _ g (ZT x)) λ_=>Fw rec g r
@[simp] def aem:Kp (xh):=Y8 λ_=>⟨rfl,rfl⟩
def LM:Ru->Bool
 | .nF _ name _=>decide (name.size<=5000)
 | .MR r=>LM r
 |_=>true
def spG (sp:mB):Bool:=LM sp.blank&&LM sp.jW&&LM sp.gJ&&LM sp.iH&&LM sp.ie&&LM sp.jK&&LM sp.j9&&LM sp.iy&&((sp.start.getD []).all λp=>LM p.2)&&((sp.stop.getD []).all λp=>LM p.2)
omit [XL] in
def abf:∀sp∈xV,spG sp=true:=List.all_eq_true.1 rfl
omit [XL] in
theorem TL:∀(R:List (List gn×Ru)) (k:gn) (r:Ru),(R.all λp=>LM p.2)=true->oW R k=some r->LM r=true
 |[],_,_,_,h=>by cases h
 |p::R,k,r,hR,h=>by
  rw[List.all_cons,qx]at hR;unfold oW at h;split at h
  .grind
  .exact TL R k r hR.2 h
omit [XL] in
def sK:∀L:List Ru,(∀r∈L,LM r=true)->LM (kq L)=true
 |[],_=>rfl
 |x::r,h=>by
  have g:=h x (tl ..);cases x with
  |nil=>exact sK r (λy j=>h y (pX _ j))
  |_=>exact g
omit [XL] in
def TJ (R:Option (List (List gn×Ru))) (k:gn) (h:((R.getD []).all λp=>LM p.2)=true):LM (Du R k)=true:=by
 cases R with
 |none=>rfl
 |some R=>
  show LM ((oW R k).getD .nil)=true;cases hq:oW R k with
  |none=>rfl
  |some r=>exact TL R k r h hq
omit [XL] in
theorem YR {sp:mB} (h:spG sp=true) (t:gz):LM (jX sp t)=true:=by
 unfold spG at h;simp only[qx]at h;have⟨⟨⟨⟨⟨⟨⟨⟨⟨h1,h2⟩,h3⟩,h4⟩,h5⟩,h6⟩,h7⟩,h8⟩,h9⟩,h10⟩:=h;unfold jX;split
 .split
  .exact sK _ (by grind)
  .exact sK _ (by grind)
 .exact sK _ (by grind)
 .exact sK _ (by grind)
 .exact sK _ (by simp[TJ _ _ h9,h6,h8])
 .exact sK _ (by simp[TJ _ _ h10,h7,h8])
 .exact sK _ (by grind)
 .exact sK _ (by grind)
@[simp] def Bu (g:M (Nat×Nat)) (t:gz) (h:Kp g) (k:TG t):Kp (nO g t):=by
 unfold nO;split
 .rename_i s j;exact Kp.bind h λ_=>Kp.bind (PQ _ _ _ (k.cm s j) nofun) λ_=>Kp.pure _
 simp
@[simp] def nh0:(∀(x:jb),Kp (adZ x)/\Kp (zZ x)/\Kp (Bo x)/\Kp (lj x))/\Kp xP/\Kp Iu/\Kp yt/\Kp tD/\Kp AG/\Kp yu/\Kp Hp/\Kp xG/\Kp mO/\Kp vn/\(∀(x y:jb),Kp (qm x y)/\Kp (p6 x y))/\(∀(s:gn),Kp (uu s))/\(∀(f:Nat),Kp (ahead f))/\(∀(g:Nat->gz->M Unit) (t:gz) (p:Bm g) (j:TG t),Kp (lE g t)/\Kp (yv g t)/\Kp (vG g t)/\Kp (oQ g t))/\(∀(t:gz) (j:TG t),Kp (oz t)/\Kp (qd t))/\(∀(t:gz),Kp (xD t))/\(∀(k:List gn) (m:Nat),Kp (rH k m)):=by
 (repeat' first|with_reducible intro _|with_reducible apply And.intro)<;>delta adZ xP zZ Bo qm p6 lj Iu uu ahead lE oz qd yt yv xD tD AG yu Hp vG oQ rH xG mO vn<;>(repeat' first|with_reducible refine Kp.bind ?_ λ_=>?_|with_reducible refine Kp.ite ?_ ?_)<;>first|(simp[*];done)|(refine Kp.fn λσ h=>?_;(repeat' split)<;>first|exact h|exact trivial|exact uO.st|exact uO.ok (h.mq rfl rfl)|exact Kp.at (by(repeat' first|with_reducible refine Kp.bind ?_ λ_=>?_|with_reducible refine Kp.ite ?_ ?_)<;>simp[*]) h)
@[simp] def Gz (i:Nat):Kp (jt i):=Kp.same (λ_ _ _ h=>pj h) (λσ c p=>qF _ σ c p)
@[simp] def acM (i:Nat):Kp (mF i):=Kp.same (λ_ _ _ h=>A7 h) (λσ c p=>zh _ σ c p)
@[simp] def Zs:Kp (jO):=Kp.same (λ_ _ _ h=>oy h) (λσ c p=>vN σ c p)
@[simp] def aeP (i:Nat):Kp (Mb i):=by
 intro σ h;unfold Mb;dsimp only;split
 .refine Kp.at ?_ h;simp[*]
 .refine Kp.at ?_ h;simp[*]
@[simp] def Ty (d:Nat):∀g,Kp (xI d g)
 |[]=>Kp.pure _
 |k::r=>Kp.bind (Gz _) λ_=>Kp.bind (adm _ _) λ_=>Ty d r
@[simp] def RV (b d:Nat):Kp (handOver b d):=by
 intro σ h;unfold handOver;split
 .trivial
 .split
  .trivial
  .refine Kp.at (Kp.bind (Ty _ _) λ_=>Kp.fn λσ' g=>?_) h;split
   .rename_i k j;exact uO.ok (NG.set g (Lr.kids (g.el j) rfl rfl) (g.2.2 _ k j))
   .trivial
@[simp] def OA:Kp (Bv):=by
 simp[Bv]
@[simp] def Wt (t:gz) (h:TG t):Kp (oi t):=by
 unfold oi;split
 .rename_i n q g;exact Kp.bind OA λ_=>Kp.bind (PQ _ _ _ (h.dt n q g) nofun) λ_=>by simp
 .simp
def S3 {α:Type} (Y:α->List Nat) (r:pC α):Prop:=match r with
 | .ok a σ'=>@NG ⟨Y a⟩ σ'
 | .stop e _=>e≠0
 | .stuck=>True
omit [XL] in
def S3.ok {α:Type} {Y:α->List Nat} {a:α} {σ:Ab} (h:@NG ⟨Y a⟩ σ):S3 Y (.ok a σ):=h
def Kj {α:Type} (X:List Nat) (Y:α->List Nat) (m:M α):Prop:=∀σ,@NG ⟨X⟩ σ->S3 Y (m σ)
omit [XL] in
def Kj.bind {α k:Type} {X:List Nat} {Y:α->List Nat} {Z:k->List Nat} {m:M α} {f:α->M k} (h:Kj X Y m) (q:∀a,Kj (Y a) Z (f a)):Kj X Z (m>>=f):=by
 intro σ j;rw[M.gm];have g:=h σ j;revert g;cases m σ with
 |ok a σ'=>intro g;exact q a σ' g
 |stop e p=>simp[S3]
 |stuck=>simp[S3]
def Kp.k {α:Type} {m:M α} (h:Kp m):Kj XL.l (λ_=>XL.l) m:=λσ g=>by
 have j:=h σ g;cases hm:m σ<;>rw[hm]at j<;>exact j
omit [XL] in
def Kp.j {α:Type} {X:List Nat} {m:M α} (h:∀[XL],Kp m):Kj X (λ_=>X) m:=@Kp.k ⟨X⟩ _ _ (@h ⟨X⟩)
def Kj.p {α:Type} {m:M α} (h:Kj XL.l (λ_=>XL.l) m):Kp m:=λσ g=>by
 have j:=h σ g;cases hm:m σ<;>rw[hm]at j<;>exact j
omit [XL] in
def NG.mono {X Y:List Nat} {σ:Ab} (h:@NG ⟨X⟩ σ) (k:∀i∈X,i∈Y):@NG ⟨Y⟩ σ:=⟨h.1,h.2.1,λi e g j=>(h.2.2 i e g j).imp id (k i)⟩
omit [XL] in
def NG.cons {X:List Nat} {σ:Ab} (h:@NG ⟨X⟩ σ) (j:Nat):@NG ⟨j::X⟩ σ:=h.mono λ_ g=>pX _ g
omit [XL] in
theorem Dz {X Z:List Nat} (pl:Nat×Nat) (j:Nat) (u:∀i∈Z,i=j\/i∈X):Kj Z (λ_=>X) (mP pl j):=by
 intro σ h;have g:=@aaR ⟨j::X⟩ pl j σ (h.mono λi x=>List.mem_cons.2 (u i x));revert g;unfold mP;split
 .rename_i z C E q;split
  .rename_i F;intro g;refine S3.ok ⟨g.1,g.2.1,λi e p y=>?_⟩;rcases g.2.2 i e p y with k|k
   .omega
   .rcases List.mem_cons.1 k with k|k
    .subst k;rw[Ab.iR (by have:=Ab.ic q;grind[Ab.gU])]at p;grind
    grind
  simp[S3]
 simp[S3]
omit [XL] in
def TR {X:List Nat} (g:gn) (k:g.size<=5000):Kj X (λj=>j::X) (FO g):=λσ h=>S3.ok <|@NG.add ⟨_⟩ _ (h.cons _) (.el ⟨g,[],none,[]⟩) ⟨k,iP _,λ_ p=>by cases p⟩ λ_ _=>tl ..
omit [XL] in
def R8 {X:List Nat} (t:gz) (g:TG t):Kj X (λj=>j::X) (pH t):=by
 intro σ h;unfold pH;split
 .exact S3.ok <|@NG.pa ⟨_⟩ _ (h.cons _) (.el ⟨t.name,t.jm,none,[]⟩) ⟨g.name,g.len,g.gx⟩ _ λ_ _=>tl ..
 .trivial
omit [XL] in
def Pt {X:List Nat} (g:gn) (own:Bool) (gx:lh) (k:g.size<=5000) (u:gx.length<=16) (q:∀p∈gx,p.1.size<=5000/\p.2.size<=66000):Kj X (λj=>j::X) (sO g own gx):=by
 intro σ h;unfold sO;split
 .split
  .exact S3.ok <|@NG.pa ⟨_⟩ _ (h.cons _) (.el ⟨g,gx,none,[]⟩) ⟨k,u,q⟩ _ λ_ _=>tl ..
  .trivial
 .exact TR g k σ h
omit [XL] in
def Br {X:List Nat} (i:Nat):Kj X (λj=>j::X) (kI i):=by
 intro σ h;unfold kI;split
 .rename_i e g;split
  .trivial
  .exact S3.ok <|@NG.add ⟨_⟩ _ (h.cons _) (.el ⟨e.name,e.gM,none,[]⟩) (Lr.kids (@NG.el ⟨_⟩ _ h _ _ g) rfl rfl) λ_ _=>tl ..
 .trivial
omit [XL] in
def LS {X:List Nat} (j:Nat):Kj X (λ_=>j::X) (mw j):=by
 intro σ h;unfold mw;split
 .trivial
 .rename_i q p;split
  .exact S3.ok (h.cons j)
  .split
   .trivial
   .rename_i k g;split
    .refine S3.ok (@NG.set ⟨_⟩ _ (@NG.set ⟨_⟩ _ (h.cons j) _ _ ?_ ?_) _ _ ?_ ?_)
     .exact Lr.kids (@NG.el ⟨_⟩ _ h _ _ g) rfl rfl
     .exact(h.cons j).2.2 _ k g
     .exact Lr.kids (@NG.el ⟨_⟩ _ h _ _ p) rfl rfl
     simp
    .trivial
@[simp] def IM (own:Bool) (gx:lh) (k:gx.length<=16) (g:∀p∈gx,p.1.size<=5000/\p.2.size<=66000):Kp (rA own gx):=
 Kj.p (Kj.bind (Pt _ _ _ (by decide) k g) λj=>Kj.bind (Kp.j OA) λq=>Kj.bind (Dz q j λi h=>List.mem_cons.1 h) λ_=>Kp.j (Kp.bind (Nk _) λ_=>Kp.bind (AP _) λ_=>Kp.pure _))
@[simp] def ab8 (t:gz) (g:TG t):Kp (xW t):=Kp.bind (IM _ _ g.len g.gx) λ_=>Kp.pure _
@[simp] def ab1:Kp (rA false []):=IM _ _ (by decide) (λ_ g=>by cases g)
@[simp] theorem RD:Kp sI:=by
 unfold sI;refine Kp.fn λσ h=>?_;split
 all_goals grind[uO,jt]
@[simp] def nh1:(∀(i:Nat),Kp (placeFor i))/\Kp yW/\Kp AF/\Kp yx/\Kp mD/\Kp qG/\Kp Ed/\Kp jf/\(∀(g:Nat->gz->M Unit) (t:gz) (j:Bm g) (k:TG t),Kp (oR g t))/\(∀(t:gz),Kp (xF t)):=by
 (repeat' first|with_reducible intro _|with_reducible apply And.intro)<;>delta placeFor yW oR AF yx xF mD qG Ed jf<;>(repeat' first|with_reducible refine Kp.bind ?_ λ_=>?_|with_reducible refine Kp.ite ?_ ?_)<;>first|(simp[*];done)|(refine Kp.fn λσ h=>?_;(repeat' split)<;>first|exact h|exact trivial|exact uO.st|exact uO.ok (h.mq rfl rfl)|exact Kp.at (by simp) h)
@[simp] def PF:Kp (mU):=by
 unfold mU;refine Kp.fn λσ h=>?_
 (repeat' split)<;>first|exact h|exact trivial|exact uO.st|exact uO.ok (h.mq rfl rfl)|exact Kp.at (by simp) h
omit [XL] in
def AK {X:List Nat} (j:Nat):Kj (j::X) (λ_=>X) (mn j):=Kj.bind (Kp.j PF) λh=>Kj.bind (Dz h j λi g=>List.mem_cons.1 g) λ_=>Kp.j (Kp.bind (Nk _) λ_=>Kp.pure _)
@[simp] def uc (g:gn) (h:g.size<=5000):Kp (j7 g):=Kj.p (Kj.bind (TR g h) λj=>Kj.bind (AK j) λ_=>Kp.j (Kp.pure _))
@[simp] def Pa (t:gz) (g:TG t):Kp (jn t):=Kj.p (Kj.bind (R8 t g) λj=>Kj.bind (AK j) λ_=>Kp.j (Kp.pure _))
@[simp] def MU (t:gz):Kp (jR t):=by
 simp[jR]
@[simp] def YN:∀k n,Kp (I0 k n)
 |0,_=>Kp.pure _
 |k+1,n=>Kj.p (Kj.bind (Kp.j (ZH _)) λi=>Kj.bind (Br i) λj=>Kj.bind (AK j) λ_=>Kp.k (Kp.bind (Od _) λ_=>YN k (n+1)))
@[simp] def Zu:Kp lF:=λσ h=>YN _ _ σ h
@[simp] def IP (own:Bool) (gx:lh) (h:gx.length<=16) (g:∀p∈gx,p.1.size<=5000/\p.2.size<=66000):Kp (rB own gx):=
 Kj.p (Kj.bind (Pt _ _ _ (by decide) h g) λj=>Kj.bind (Kp.j (Y8 λ_=>⟨rfl,rfl⟩)) λ_=>Kj.bind (AK j) λ_=>Kp.j (Kp.bind (AP _) λ_=>Kp.pure _))
@[simp] def ab9 (t:gz) (g:TG t):Kp (xX t):=Kp.bind (IP _ _ g.len g.gx) λ_=>Kp.pure _
@[simp] def ab2:Kp (rB false []):=IP _ _ (by decide) (λ_ g=>by cases g)
@[simp] def aai:Kp (j7 gp):=uc _ (by decide)
@[simp] def adF:Kp (j7 mX):=uc _ (by decide)
@[simp] def acQ:Kp (j7 jN):=uc _ (by decide)
@[simp] def Nx (t:gz) (g:TG t):Kp (mV t):=by
 unfold mV
 (repeat' first|with_reducible refine Kp.bind ?_ λ_=>?_|with_reducible refine Kp.ite ?_ ?_)<;>simp[*]
@[simp] def FF:∀xs,Kp (tI xs)
 |[]=>Kp.pure _
 |x::r=>Kp.bind (MU _) λ_=>FF r
@[simp] def Mf (rec:Nat->gz->M Unit) (g:Bm rec):Kp (pc rec):=by
 intro σ h;unfold pc;split
 .exact Fw rec g _ σ h
 .exact FF _ σ h
@[simp] def Wr (g rec:Nat->gz->M Unit) (t:gz) (h:Bm g) (j:Bm rec) (k:TG t):Kp (mj g rec t):=
 Kp.bind (Mf g h) λ_=>Kp.bind (Kp.wm (λ_=>rfl) (λ_=>rfl)) λ_=>Kp.bind (GI rec t j k) λ_=>Kp.pure _
@[simp] def ZW (h:Nat) (own:Bool) (t:gz) (g:TG t):Kp (xC h own t):=by
 unfold xC;exact Kp.ite (Bu _ _ PF g) (Kp.ite (Bu _ _ RD g) (Kp.ite (Bu _ _ (Gz _) g) Kp.stuck))
omit [XL] in
theorem EE (f j:Nat):∀(X:List Nat) n c last g,Kj (last::X) (λr=>r.1::X) (mr f j n c last g)
 |X,0,_,_,_=>λσ h=>h
 |X,n+1,c,last,g=>by
  unfold mr;refine Kj.bind (Kp.j (aaG _)) λe=>?_;split
  .exact λσ h=>h
  .refine Kj.bind (Kp.j (Kp.ite (Oc _) (Kp.pure _))) λ_=>λσ h=>?_;by_cases p:some e∉σ.act
   .rw[gN p];exact Kj.bind (Kp.j (II _)) (λ_=>EE f j X n _ _ _) σ h
   .rw[gI p];exact Kj.bind (Br _) (λk=>Kj.bind (Kp.j (aaB _ _)) λ_=>Kj.bind (Kp.j (Td _ _)) λ_=>Kj.bind (LS _) λ_=>Kj.bind (Kp.j (Gz _)) λq=>Kj.bind (Dz q last (X:=k::X) (by grind)) λ_=>EE f j X n _ _ _) σ h
@[simp] def adG (f g:Nat):Kp (ui f g):=Kj.p (Kj.bind (λσ h=>EE f g _ _ _ _ _ σ (h.cons _)) λ(last,mark)=>Kj.bind (LS last) λ_=>Kj.bind (Kp.j (by simp)) λa=>Kj.bind (Kp.j (by simp)) λk=>Kj.bind (Dz k last (X:=XL.l) (by simp)) λ_=>Kj.bind (Br f) λj=>Kj.bind (Kp.j (RV _ _)) λ_=>Kj.bind (Kp.j (Gz _)) λk=>Kj.bind (Dz k j (X:=XL.l) (by simp)) λ_=>Kp.j (Kp.bind (by simp) λ_=>Kp.bind (Oc _) λ_=>Kp.bind (II _) λ_=>Kp.bind (by simp) λ_=>Kp.pure _))
@[simp] def nh2:(∀(t:gz) (j:TG t),Kp (lr t)/\Kp (lw t)/\Kp (tR t)/\Kp (nB t)/\Kp (wh t)/\Kp (ob t)/\Kp (tT t)/\Kp (rZ t)/\Kp (pu t)/\Kp (mc t)/\Kp (qQ t)/\Kp (jP t)/\Kp (jp t))/\(∀(g:Nat->gz->M Unit) (t:gz) (q:Bm g) (j:TG t),Kp (oS g t)/\Kp (nw g t)/\Kp (nk g t)/\Kp (Cy g t))/\(∀(t:gz) (p:Bool) (j:TG t),Kp (nT t p))/\Kp sq/\Kp OL/\Kp ut/\(∀(k:List gn) (m:Nat),Kp (lc k m))/\(∀(t:gz),Kp (pg t)):=by
 (repeat' first|with_reducible intro _|with_reducible apply And.intro)<;>delta lr lw oS nw tR nk nT Cy nB wh ob tT rZ sq OL ut pu mc lc qQ pg jP jp<;>(repeat' first|with_reducible refine Kp.bind ?_ λ_=>?_|with_reducible refine Kp.ite ?_ ?_)<;>first|(simp[*];done)|(refine Kp.fn λσ h=>?_;(repeat' split)<;>first|exact h|exact trivial|exact uO.st|exact uO.ok (h.mq rfl rfl)|exact Kp.at (by(repeat' first|with_reducible refine Kp.bind ?_ λ_=>?_|with_reducible refine Kp.ite ?_ ?_)<;>simp[*]) h)
@[simp] def Oh (s:gn):Kp (nu s):=by
 unfold nu;refine Kp.fn λσ h=>?_
 (repeat' split)<;>first|exact h|exact trivial|exact uO.st|exact uO.ok (h.mq rfl rfl)|exact Kp.at (by simp) h
@[simp] def WO (s:gn):∀n,Kp (sH s n)
 |0=>Kp.pure _
 |n+1=>Kp.bind (Oh _) λ_=>Kp.ite (WO s n) (Kp.pure _)
@[simp] def nh3:(∀(t:gz) (j:TG t),Kp (sB t)/\Kp (iQ t)/\Kp (tV t)/\Kp (oK t)/\Kp (wP t)/\Kp (oX t)/\Kp (oZ t)/\Kp (qq t)/\Kp (oY t)/\Kp (lG t))/\(∀(s:gn),Kp (wG s))/\(∀(g:Nat->gz->M Unit) (t:gz) (k:Bm g) (j:TG t),Kp (kH g t))/\Kp tC/\Kp endCell:=by
 (repeat' first|with_reducible intro _|with_reducible apply And.intro)<;>delta sB iQ wG tV oK wP oX oZ qq oY kH tC endCell lG<;>(repeat' first|with_reducible refine Kp.bind ?_ λ_=>?_|with_reducible refine Kp.ite ?_ ?_)<;>first|(simp[*];done)|(refine Kp.fn λσ h=>?_;(repeat' split)<;>first|exact h|exact trivial|exact uO.st|exact uO.ok (h.mq rfl rfl)|exact Kp.at (by simp) h)
@[simp] def Xq {f:Nat} {b:M Bool} (h:CV f=some b):Kp b:=by
 unfold CV at h
 repeat' (split at h)
 all_goals (cases h<;>simp)
@[simp] def nh4:(∀(t:gz) (g:TG t),Kp (pQ t)/\Kp (qR t)/\Kp (tU t))/\(∀(t:gz),Kp (pM t)):=by
 (repeat' first|with_reducible intro _|with_reducible apply And.intro)<;>delta pQ qR tU pM<;>(repeat' first|with_reducible refine Kp.bind ?_ λ_=>?_|with_reducible refine Kp.ite ?_ ?_)<;>first|(simp[*];done)|(refine Kp.fn λσ h=>?_;(repeat' split)<;>first|exact h|exact trivial|exact uO.st|exact uO.ok (h.mq rfl rfl)|exact Kp.at (by(repeat' first|with_reducible refine Kp.bind ?_ λ_=>?_|with_reducible refine Kp.ite ?_ ?_)<;>simp[*]) h)
@[simp] theorem nh5:(∀(t:gz) (g:TG t),Kp (sy t)):=by
 (repeat' first|with_reducible intro _|with_reducible apply And.intro)<;>delta sy<;>(simp_all)<;>first|(simp[*];done)|(refine Kp.fn λσ h=>?_;(repeat' split)<;>first|exact h|exact trivial|exact uO.st|exact uO.ok (h.mq rfl rfl)|exact Kp.at (by(repeat' first|with_reducible refine Kp.bind ?_ λ_=>?_|with_reducible refine Kp.ite ?_ ?_)<;>simp[*]) h)
@[simp] def aas (lk:Bool) (g rec:Nat->gz->M Unit) (t:gz) (f:Nat) (h:Bm g) (j:Bm rec) (k:TG t):Kp (Pp lk g rec t f):=by
 unfold Pp
 (repeat' with_reducible refine Kp.ite ?_ ?_)<;>simp[*]
@[simp] def OZ (lk:Bool) (g rec:Nat->gz->M Unit) (t:gz) (q:Bm g) (k:Bm rec) (j:TG t):∀r,LM r=true->Kp (pk lk g rec r t)
 | .nil,_=>Kp.stuck
 | .nothing,_=>Kp.pure _
 | .gZ f,_=>aas lk g rec t f q k j
 | .pd m,_=>Kp.ite (k _ _ j) Kp.stuck
 | .gJ pf own,_=>ZW pf own t j
 | .ahead f,_=>by
  show Kp (match CV f with|some b=>wY rec b t|none=>stuck)
  cases hb:CV f with
  |none=>simp
  |some b=>exact Kp.bind (Xq hb) λ_=>Kp.ite (Kp.bind (GI rec t k j) λ_=>Kp.pure _) (Kp.pure _)
 | .ends f,_=>by
  show Kp (match CV f with|some b=>C6 b|none=>stuck)
  cases hb:CV f with
  |none=>simp
  |some b=>exact Kp.bind (Xq hb) λ_=>Kp.pure _
 | .MR r,h=>by
  have u:=OZ lk g rec t q k j r h;intro σ p;show uO (J9 (pk lk g rec r t) t σ);unfold J9;split
  .exact u σ p
  .exact p
 | .rp ks m,_=>Kp.ite (Kp.bind (Hc _) λ_=>Kp.bind (Pa t j) λ_=>Kp.bind (AP _) λ_=>Kp.pure _) Kp.stuck
 | .nF ks name m,h=>Kp.ite (Kp.bind (Hc _) λ_=>Kp.bind (uc _ (of_decide_eq_true h)) λ_=>Kp.bind (AP _) λ_=>Kp.bind (GI rec t k j) λ_=>Kp.pure _) Kp.stuck
 | .item ks,_=>Kp.bind (Xg _ _) λ_=>Kp.bind (Nx t j) λ_=>Kp.pure _
@[simp] theorem NK:∀(n:Nat) (lk:Bool) (m:Nat) (t:gz),TG t->Kp (gR lk n m t)
 |0,_,_,_,_=>Kp.stuck
 |n+1,lk,m,t,g=>by
  by_cases h:t.k= .lost
  .have e:gR lk (n+1) m t=stuck:=by
    have⟨a,b,k,gx⟩:=t;cases h;rfl
   simp_all
  .rw[Jr lk n m t h];unfold asM;cases hs:xV[m]? with
   |none=>simp
   |some sp=>exact OZ lk _ _ t (λm t g=>NK n true m t g) (λm t g=>NK n lk m t g) g _ (YR (abf sp (tk hs)) t)
@[simp] def ZB (n:Nat) (t:gz) (g:TG t):Kp (qV (gR false n) t):=by
 have j:Kp (α:=Unit) (λσ:Ab=>if σ.behind&&kh t.chars ye then pC.ok () {σ with behind:=false,gH:=t.a} else jM (gR false n) t {σ with behind:=false,gH:=t.a}):=by
  refine Kp.fn λσ h=>?_;have p:NG {σ with behind:=false,gH:=t.a}:=h.mq rfl rfl;split
  .exact p
  .exact GI _ t (λm t g=>NK n false m t g) g _ p
 have⟨a,b,k,gx⟩:=t;cases k with
 |lost=>simp[qV]
 |_=>exact j
end
instance :XL:=⟨[]⟩
def TkN:Q7->Prop
 | .SD nm L=>nm.size<=5000/\L.length<=16/\∀p∈L,p.1.size<=5000/\p.2.size<=66000
 | .fin nm L=>nm.size<=5000/\L.length<=16/\∀p∈L,p.1.size<=5000/\p.2.size<=66000
 | .Wq t=>t.size<=5000
 | .dtp nm _=>nm.size<=5000
 |_=>True
def WB:zC->Prop
 | .stop=>True
 | .tok k _=>TkN k
def yH (h:s.size<=1024):(oq s).size<=5000:=by have:=vU s;omega
def xa (s:gn) (a b:Nat):(s.extract a b).size<=s.size:=by simp[ByteArray.size_extract];omega
def T9 (g:R.cs.size<=1024) (ps:Nat):(xZ R ps).size<=5000:=yH (by rw[rW];have:=xa R.cs ps (xY R ps);omega)
def UN (g:R.cs.size<=1024) (ps:Nat):(AA R ps).size<=5000:=yH (by rw[rW];have:=xa R.cs ps (jZ R ps);omega)
def acE (g:R.cs.size<=1024) (ps:Nat):(Rr R ps).size<=5000:=yH (by rw[rW];have:=xa R.cs (Zr R ps) (Ft R ps);omega)
def Wg (h:∀x t,look x=some t->t.size<=16) (q:R.cs.size<=1024) (ps:Nat):(rN look lg R ps).size<=66000:=by
 unfold rN;split
 .have g:=vU ⟨(uM look lg (mQ R (my R (my R ps+1)))).toArray⟩;have j:=Ap (lg:=lg) h (mQ R (my R (my R ps+1)));have k:=BP (R:=R) (ps:=my R (my R ps+1));have p:(ByteArray.mk (uM look lg (mQ R (my R (my R ps+1)))).toArray).size=(uM look lg (mQ R (my R (my R ps+1)))).length:=by simp[ByteArray.size]
  omega
 .decide
theorem trimSuffix_le (s p:List UInt8):(Lib.trimSuffix s p).length<=s.length:=by unfold Lib.trimSuffix;grind
def Lt (s:gn):(yG s).size<=s.size:=by
 have e:∀l:List UInt8,(ByteArray.mk l.toArray).size=l.length:=λl=>by rfl
 have e1:s.size=s.data.toList.length:=Ch s;unfold yG;split
 .rw[e,e1];exact trimSuffix_le _ _
 split
 .rw[e,e1];exact trimSuffix_le _ _
 split
 .rw[e,e1];exact trimSuffix_le _ _
 simp
def Oy (R:RC) (a:Nat):∀(n i:Nat),R.cs.size - i<=n->(pE R a i).size<=R.cs.size
 |0,i,h=>by
  rw[pE.eq_1 R a i,gI (by omega)];exact jH (Lt _) (xa _ _ _)
 |n+1,i,h=>by
  rw[pE.eq_1 R a i];split
  .split
   .exact xa _ _ _
   .split
    .exact xa _ _ _
    .exact Oy R a n (i+1) (by omega)
  .exact jH (Lt _) (xa _ _ _)
def Rm (R:RC) (ps:Nat):(nN R ps).size<=R.cs.size:=by
 unfold nN;split
 .exact iP _
 split
 .exact iP _
 .exact Oy R _ _ _ (gW _)
theorem Wl (h:∀x t,look x=some t->t.size<=16) (j:R.cs.size<=1024) {L : lh} (k:∀p∈L,p.1.size<=5000/\p.2.size<=66000):∀p∈qT R look lg L ps,p.1.size<=5000/\p.2.size<=66000:=by
 unfold qT uB;split
 .exact k
 .intro p q;rcases List.mem_append.1 q with g|g
  .grind
  .obtain rfl:=List.mem_singleton.1 g;exact⟨UN j _,Wg h j _⟩
theorem LR {L : lh} (h:R.cs.size<=ps):lH R look lg L ps= .lost:=by
 have g:=sx (R:=R) (ps:=ps);grind[lH]
theorem abn (q:∀x t,look x=some t->t.size<=16) (z:R.cs.size<=1024) (G:R.at_<=16):∀(n:Nat) {L:lh} {ps m:Nat} {h:lh},R.cs.size - ps<=n->lH R look lg L ps= .whole m h->L.length<=16->(∀p∈L,p.1.size<=5000/\p.2.size<=66000)->h.length<=16/\∀p∈h,p.1.size<=5000/\p.2.size<=66000:=by
 intro n
 induction n with
 |zero=>
  intro L ps m h y g;rw[LR (by omega)]at g;cases g
 |succ n ih=>
  intro L ps m h y g I k;have C:=sx (R:=R) (ps:=ps);rw[lH]at g;split at g
  .split at g
   .grind
   .split at g
    .cases g
    .rename_i u _ j;have E:=vT (R:=R) (ps:=iZ R ps);have F:=x9 (R:=R) (ps:=jZ R (iZ R ps));by_cases H:jZ R (iZ R ps)=R.cs.size
     .rw[LR (by omega)]at g;cases g
     .refine ih (by omega) g ?_ (Wl q z k);unfold yU at j;unfold qT uB;grind
  grind
theorem aca (k:∀x t,look x=some t->t.size<=16) (u:R.cs.size<=1024) (j:R.at_<=16) {g : gn->lh->Q7} (q:∀L,L.length<=16->(∀p∈L,p.1.size<=5000/\p.2.size<=66000)->TkN (g nm L)):WB (sT R g nm (lH R look lg [] ps)):=by
 cases h:lH R look lg [] ps with
 |stop=>trivial
 |lost=>trivial
 |whole m L=>
  have:=abn k u j _ (gW _) h (iP _) (by simp);grind[WB,sT]
def abc (p:∀x t,look x=some t->t.size<=16) (g:R.cs.size<=1024) (k:R.at_<=16):WB (mJ R look lg bg ps):=by
 unfold mJ;split
 .exact aca p g k (λL h j=>⟨T9 g _,h,j⟩)
 split
 .trivial
 split
 .trivial
 .exact yH (jH (xa _ _ _) g)
def ac2 (j:∀x t,look x=some t->t.size<=16) (g:R.cs.size<=1024) (h:R.at_<=16):WB (qJ R look lg bg ps):=by
 unfold qJ;split
 .exact aca j g h (λL k p=>⟨T9 g _,k,p⟩)
 split
 .exact abc j g h
 split
 .exact yH (jH (Rm _ _) g)
 split
 .exact acE g _
 split
 .exact yH (jH (xa _ _ _) g)
 split
 .exact yH (jH (xa _ _ _) g)
 .trivial
def ac9 (h:∀x t,look x=some t->t.size<=16) (j:R.cs.size<=1024) (g:R.at_<=16):WB (kU R look lg ps):=by
 unfold kU;split
 .trivial
 split
 .split
  .exact ac2 (R:=tH R ps) h j g
  .trivial
 .unfold yV;split<;>trivial
def TkN.tg {k : Q7} (h:TkN k) (a b:Nat):TG (rl a b k):=by
 cases k with
 |SD nm L=>exact⟨h.1,h.2.1,h.2.2,(λ_ h=>by cases h),(λ_ _ h=>by cases h)⟩
 |fin nm L=>exact⟨h.1,h.2.1,h.2.2,(λ_ h=>by cases h),(λ_ _ h=>by cases h)⟩
 |Wq t=>exact⟨iP _,iP _,(λ_ g=>by cases g),(λs e=>by cases e;exact h),(λ_ _ h=>by cases h)⟩
 |dtp n q=>exact⟨iP _,iP _,(λ_ g=>by cases g),(λ_ h=>by cases h),(λn q e=>by cases e;exact h)⟩
 |Va=>exact⟨iP _,iP _,(λ_ g=>by cases g),(λ_ h=>by cases h),(λ_ _ h=>by cases h)⟩
 |Xf t=>exact⟨iP _,iP _,(λ_ g=>by cases g),(λ_ h=>by cases h),(λ_ _ h=>by cases h)⟩
 |lost=>exact⟨iP _,iP _,(λ_ g=>by cases g),(λ_ h=>by cases h),(λ_ _ h=>by cases h)⟩
def VO (E:∀x t,look x=some t->t.size<=16) (F:R.cs.size<=1024) (C:R.at_<=16):∀(n ps:Nat) (σ:Ab) (L:List Sp),NG σ->∀g z,pq R look lg cut n ps σ L= .done g z->NG g:=by
 intro n
 induction n with
 |zero=>simp[pq]
 |succ n ih=>
  intro ps σ L y g z h;rw[pq]at h;have q:=ac9 (R:=QR R σ.nD σ.iX) (look:=look) (lg:=lg) (ps:=ps) E F C;revert h q;cases kU (QR R σ.nD σ.iX) look lg ps with
  |stop=>simp
  |tok k m=>
   intro h q;dsimp only at h;have j:=ZB vO _ (TkN.tg q (cut ps) (cut m)) (Ae R σ ps (rl (cut ps) (cut m) k)) (y.mq rfl rfl);revert h j;cases qV (gR false vO) (rl (cut ps) (cut m) k) (Ae R σ ps (rl (cut ps) (cut m) k))with
   |stuck=>simp
   |stop c p=>simp
   |ok u σ2=>
    intro h j;dsimp only at h;split at h
    .cases h;exact j
    .exact ih _ _ _ j _ _ h
def adO (h:l<=16):NG (S0 d f l a):=⟨h,λn j=>by
 have e:n= .el ⟨⟨#[]⟩,[],none,[]⟩:=by
  have:n∈[A0.el ⟨⟨#[]⟩,[],none,[]⟩]:=j;exact List.mem_singleton.1 this
 rw[e];exact⟨by decide,by decide,λ_ k=>by cases k⟩,λi e g _=> .inl (by have:=Ab.ic g;simp[S0]at this;omega)⟩
theorem VQ (d f l:Nat) (s:gn) (k:s.size<=1024) (j:l<=16) {g : Ab} (h:ED d f l s= .done g L):NG g:=
 VO (R:=vW s l .nilFunc 0) FM (by have:=Mx s;grind[vW]) (by grind[vW]) _ _ _ _ (adO j) _ _ h
def Er:Tn:= .tx ⟨#[]⟩
def Ju (σ:Ab):Nat->Nd->Tn
 |0,_=>Er
 |k+1,.el i=>match σ.gV i with
  |some e=> .el e.name e.gM (e.kids.map (Ju σ k))
  |none=>Er
 |_+1,.tx i=>match σ.nodes[i]? with
  |some (.tx s)=> .tx s
  |_=>Er
 |_+1,.cm i=>match σ.nodes[i]? with
  |some (.cm s)=> .cm s
  |_=>Er
 |_+1,.dt i=>match σ.nodes[i]? with
  |some (.dt s)=> .dt s
  |_=>Er
def Pf (g:Nd->Tn) (f:Nd->Nd):∀j:List Nd,(∀k∈j,jA w (g k) (f k))->qz w (j.map g) (j.map f)
 |[],_=>by simp[qz]
 |k::j,h=>by
  simp only[y8,qz];exact⟨h k (tl ..),Pf g f j (λx p=>h x (pX _ p))⟩
theorem TF {E : Env} {L : Loc} (h:Rel E L σ w) (p:jy r σ) (q:∀i,i < σ.nodes.length->r i<=B):∀(k:Nat) (g:Nd),σ.jg g=true->(∀i,g= .el i->B - r i+1 < k)->1<=k->jA w (Ju σ k g) (Nd.map L.gH g)
 |0,_,_,_,h1=>absurd h1 (by omega)
 |k+1,.el i,hk,hi,_=>by
  have⟨e,he⟩:=Option.isSome_iff_exists.1 (show(σ.gV i).isSome=true from hk);have⟨a1,a2,a3⟩:=h.su i _ (Ab.jd he);have F:=hi i rfl;show jA w (match σ.gV i with|some e=> .el e.name e.gM (e.kids.map (Ju σ k))|none=>Er) (.el (L.gH i))
  rw[he];simp only[jA];refine⟨_,_,_,_,⟨a1.ik,jU a1.row (iP _),a1.le,a1.Tg⟩,a2,a3,?_⟩;refine Pf (Ju σ k) (Nd.map L.gH) e.kids ?_;intro x u;refine TF h p q k x (p.og.kd i e he x u) ?_ (by omega);intro j y;subst y;have⟨ej,g1,g2⟩:=p.og.dn i e j he (xM.2 u);have z:=p.sZ.ja j ej i g1 g2;have C:=q j (Ab.ic g1);omega
 |k+1,.tx i,hk,_,_=>by
  unfold Ab.jg at hk;show jA w (match σ.nodes[i]? with|some (.tx s)=> .tx s|_=>Er) (.tx (L.gH i))
  cases hq:σ.nodes[i]? with
  |none=>grind
  |some g=>
   cases g with
   |tx s=>simp only[jA];exact h.su i _ hq
   |el e=>grind
   |cm s=>grind
   |dt s=>grind
 |k+1,.cm i,hk,_,_=>by
  unfold Ab.jg at hk;show jA w (match σ.nodes[i]? with|some (.cm s)=> .cm s|_=>Er) (.cm (L.gH i))
  cases hq:σ.nodes[i]? with
  |none=>grind
  |some g=>
   cases g with
   |cm s=>simp only[jA];exact h.su i _ hq
   |el e=>grind
   |tx s=>grind
   |dt s=>grind
 |k+1,.dt i,hk,_,_=>by
  unfold Ab.jg at hk;show jA w (match σ.nodes[i]? with|some (.dt s)=> .dt s|_=>Er) (.dt (L.gH i))
  cases hq:σ.nodes[i]? with
  |none=>grind
  |some g=>
   cases g with
   |dt s=>simp only[jA];exact h.su i _ hq
   |el e=>grind
   |tx s=>grind
   |cm s=>grind
mutual
def Jm:Tn->Nat
 | .el _ _ ks=>1+szS ks
 | .tx _=>1
 | .cm _=>1
 | .dt _=>1
def szS:List Tn->Nat
 |[]=>0
 |t::ts=>Jm t+szS ts
end
def Cb (σ:Ab):Nat->Nd->List Nat
 |0,_=>[]
 |k+1,.el i=>i::(match σ.gV i with
  |some e=>e.kids.flatMap (Cb σ k)
  |none=>[])
 |_+1,_=>[]
def kl (σ:Ab) (i:Nat):Nat:=match σ.gV i with
 |some e=>e.kids.length
 |none=>0
theorem T8 (f:Nd->Tn) (g:Nd->List Nat) (h:Nat->Nat):∀j:List Nd,(∀k∈j,Jm (f k)<=1+((g k).map h).sum)->szS (j.map f)<=j.length+((j.flatMap g).map h).sum
 |[],_=>by simp[szS]
 |k::j,hk=>by
  have q:=hk k (tl ..);have u:=T8 f g h j (λx p=>hk x (pX _ p));grind[szS]
theorem Y0 (σ:Ab):∀(k:Nat) (g:Nd),Jm (Ju σ k g)<=1+((Cb σ k g).map (kl σ)).sum
 |0,g=>by
  have e:Ju σ 0 g=Er:=by cases g<;>rfl
  rw[e];simp[Er,Jm]
 |k+1,.el i=>by
  show Jm (match σ.gV i with|some e=> .el e.name e.gM (e.kids.map (Ju σ k))|none=>Er)<=1+((i::(match σ.gV i with|some e=>e.kids.flatMap (Cb σ k)|none=>[])).map (kl σ)).sum
  cases he:σ.gV i with
  |none=>simp[Er,Jm]
  |some e=>
   have h:=T8 (Ju σ k) (Cb σ k) (kl σ) e.kids (λx _=>Y0 σ k x);have j:kl σ i=e.kids.length:=by unfold kl;rw[he]
   grind[Jm]
 |k+1,.tx i=>by
  show Jm (match σ.nodes[i]? with|some (.tx s)=> .tx s|_=>Er)<=_
  split<;>simp[Er,Jm]
 |k+1,.cm i=>by
  show Jm (match σ.nodes[i]? with|some (.cm s)=> .cm s|_=>Er)<=_
  split<;>simp[Er,Jm]
 |k+1,.dt i=>by
  show Jm (match σ.nodes[i]? with|some (.dt s)=> .dt s|_=>Er)<=_
  split<;>simp[Er,Jm]
def AX (σ:Ab) (j:Nat):jb:=(σ.gV j).bind (·.ja)
def NR (σ:Ab):Nat->Nat->jb
 |0,j=>some j
 |n+1,j=>(NR σ n j).bind (AX σ)
def Ue (σ:Ab) (n j:Nat):∀d,NR σ (n+d) j=(NR σ n j).bind (NR σ d)
 |0=>by simp[NR]
 |d+1=>by
  show(NR σ (n+d) j).bind (AX σ)=_;rw[Ue σ n j d];cases NR σ n j<;>simp[NR]
theorem IU (g:jy r σ) {j p : Nat} (h:AX σ j=some p):r p < r j:=by
 unfold AX at h;cases he:σ.gV j with
 |none=>grind
 |some e=>rw[he]at h;exact g.sZ.ja j e p he h
theorem Jy (k:jy r σ):∀(n j i:Nat),NR σ n j=some i->r i<=r j
 |0,j,i,h=>by cases h;simp
 |n+1,j,i,h=>by
  have g:(NR σ n j).bind (AX σ)=some i:=h;cases hq:NR σ n j with
  |none=>grind
  |some q=>
   rw[hq]at g;have p:=Jy k n j q hq;have u:=IU k (show AX σ q=some i from g);omega
theorem GJ (p:jy r σ):∀(k:Nat) (i j:Nat),j∈Cb σ k (.el i)->∃n,NR σ n j=some i
 |0,i,j,h=>by cases h
 |k+1,i,j,h=>by
  have q:j∈i::(match σ.gV i with|some e=>e.kids.flatMap (Cb σ k)|none=>[]):=h
  rcases List.mem_cons.1 q with rfl|g
  .exact⟨0,rfl⟩
  .cases he:σ.gV i with
   |none=>grind
   |some e=>
    rw[he]at g;have⟨x,hx,hj⟩:=List.mem_flatMap.1 g;cases x with
    |el c=>
     have⟨n,hn⟩:=GJ p k c j hj;have⟨ej,g1,g2⟩:=p.og.dn i e c he (xM.2 hx);refine⟨n+1,?_⟩;show(NR σ n j).bind (AX σ)=some i;grind[AX]
    |tx c=>cases k<;>cases hj
    |cm c=>cases k<;>cases hj
    |dt c=>cases k<;>cases hj
theorem abw (k:jy r σ) {j : Nat} (h:NR σ n j=some c) (g:NR σ m j=some d) (p:AX σ c=some i) (u:AX σ d=some i):c=d:=by
 have y:∀{n m c d:Nat},n < m->NR σ n j=some c->NR σ m j=some d->AX σ c=some i->AX σ d=some i->False:=by
  intro n m c d x h g p u;obtain⟨q,rfl⟩:∃q,m=(n+1)+q:=⟨m - (n+1),by omega⟩;rw[Ue]at g;have e:NR σ (n+1) j=some i:=by
   show(NR σ n j).bind (AX σ)=some i;rw[h];exact p
  rw[e]at g;have z:=Jy k q i d g;have C:=IU k u;omega
 grind
def zM (σ:Ab) (k:Nat):∀g:List Nd,g.flatMap (Cb σ k)=(iE g).flatMap (λc=>Cb σ k (.el c))
 |[]=>rfl
 | .el c::g=>by simp only[wo,iE];rw[zM σ k g]
 | .tx c::g=>by
  have e:Cb σ k (.tx c)=[]:=by cases k<;>rfl
  simp only[wo,iE,e,sC];exact zM σ k g
 | .cm c::g=>by
  have e:Cb σ k (.cm c)=[]:=by cases k<;>rfl
  simp only[wo,iE,e,sC];exact zM σ k g
 | .dt c::g=>by
  have e:Cb σ k (.dt c)=[]:=by cases k<;>rfl
  simp only[wo,iE,e,sC];exact zM σ k g
theorem Hw (h:jy r σ) (k:Nat) (u:∀c,(Cb σ k (.el c)).Nodup):∀g:List Nat,g.Nodup->(∀c∈g,AX σ c=some i)->(g.flatMap (λc=>Cb σ k (.el c))).Nodup
 |[],_,_=>List.nodup_nil
 |c::g,hn,hp=>by
  rw[wo];rw[JH]at hn;refine List.nodup_append.2 ⟨u c,Hw h k u g hn.2 (λd p=>hp d (pX _ p)),?_⟩;intro j x y q e;subst e;have⟨d,p,hjd⟩:=List.mem_flatMap.1 q;have⟨n,h1⟩:=GJ h k c j x;have⟨m,h2⟩:=GJ h k d j hjd;have e:=abw h h1 h2 (hp c (tl ..)) (hp d (pX _ p));grind
def Jt (g:jy r σ):∀(k i:Nat),(Cb σ k (.el i)).Nodup
 |0,i=>List.nodup_nil
 |k+1,i=>by
  show(i::(match σ.gV i with|some e=>e.kids.flatMap (Cb σ k)|none=>[])).Nodup
  cases he:σ.gV i with
  |none=>simp
  |some e=>
   have j:∀c∈iE e.kids,AX σ c=some i:=by
    intro c h;have⟨ej,g1,g2⟩:=g.og.dn i e c he h;unfold AX;rw[g1];exact g2
   dsimp only;rw[zM];refine List.nodup_cons.2 ⟨?_,Hw g k (λc=>Jt g k c) _ (g.og.nd i e he) j⟩;intro p;have⟨c,h,hj⟩:=List.mem_flatMap.1 p;have⟨n,h1⟩:=GJ g k c i hj;have q:=Jy g n i c h1;have u:=IU g (j c h);omega
theorem LP:∀(l:List Nat) (L:List Nat),l.Nodup->(l.map (λi=>L.getD i 0)).sum<=L.sum
 |[],_,_=>by simp
 |i::l,L,hn=>by
  rw[JH]at hn;have k:=LP l (L.set i 0) hn.2;have e:l.map (λj=>(L.set i 0).getD j 0)=l.map (λj=>L.getD j 0):=by
   apply QW;intro j p;have g:i≠j:=λe=>hn.1 (e▸p);simp[yd,List.getElem?_set,g]
  rw[e]at k;rw[y8,List.sum_cons];by_cases h:i < L.length
  .have q:=NJ L i L[i] 0 (by simp);grind
  .have u:L.getD i 0=0:=by simp[yd,List.getElem?_eq_none (Nat.le_of_not_lt h)]
   have x:L.set i 0=L:=List.set_eq_of_length_le (Nat.le_of_not_lt h);grind
theorem Qp (f g:Nat->Nat) (h:∀i,f i<=g i):∀l:List Nat,(l.map f).sum<=(l.map g).sum
 |[]=>by simp
 |i::l=>by
  have:=h i;have:=Qp f g h l;grind
theorem ad7 {l : List Nat} (h:l.Nodup):(l.map (kl σ)).sum<=wt σ:=by
 refine jH (Qp (kl σ) (λi=>(σ.nodes.map TP).getD i 0) (λi=>?_) l) (LP l _ h);unfold kl;split
 .rename_i e g;have j:=Ab.jd g;grind[TP]
 simp
def adr (g:mN σ) (k i:Nat):Jm (Ju σ k (.el i))<=1+wt σ:=by
 have⟨r,hr⟩:=g;have h:=Y0 σ k (.el i);have j:=ad7 (σ:=σ) (Jt hr k i);omega
mutual
def TnG (B:Nat):Tn->Prop
 | .el name gx ks=>name.size<=5000/\gx.length<=16/\(∀p∈gx,p.1.size<=5000/\p.2.size<=66000)/\TsG B ks
 | .tx s=>s.size<=B
 | .cm s=>s.size<=5000
 | .dt s=>s.size<=5000
def TsG (B:Nat):List Tn->Prop
 |[]=>True
 |t::ts=>TnG B t/\TsG B ts
end
def Uc (f:Nd->Tn):∀g:List Nd,(∀k∈g,TnG B (f k))->TsG B (g.map f)
 |[],_=>trivial
 |k::g,h=>⟨h k (tl ..),Uc f g (λx j=>h x (pX _ j))⟩
def acb (h:NG σ):∀(k:Nat) (j:Nd),TnG (wt σ) (Ju σ k j)
 |0,j=>by
  have e:Ju σ 0 j=Er:=by cases j<;>rfl
  rw[e];exact iP _
 |k+1,.el i=>by
  show TnG (wt σ) (match σ.gV i with|some e=> .el e.name e.gM (e.kids.map (Ju σ k))|none=>Er)
  cases he:σ.gV i with
  |none=>exact iP _
  |some e=>
   obtain⟨p,q,u⟩:=h.el he;exact⟨p,q,u,Uc _ _ (λx _=>acb h k x)⟩
 |k+1,.tx i=>by
  show TnG (wt σ) (match σ.nodes[i]? with|some (.tx s)=> .tx s|_=>Er)
  split
  .rename_i s g;exact Zc g
  .exact iP _
 |k+1,.cm i=>by
  show TnG (wt σ) (match σ.nodes[i]? with|some (.cm s)=> .cm s|_=>Er)
  split
  .rename_i s g;exact h.2.1 _ (tk g)
  .exact iP _
 |k+1,.dt i=>by
  show TnG (wt σ) (match σ.nodes[i]? with|some (.dt s)=> .dt s|_=>Er)
  split
  .rename_i s g;exact h.2.1 _ (tk g)
  .exact iP _
mutual
theorem acJ (p:B<=595500) (g:gn->Bool):∀t:Tn,TnG B t->(∀e∈Ge g t,yJ e=true)/\vm (Ge g t)<=143000000*Jm t/\(kY (Ge g t)).length<=18*Jm t
 | .el name gx ks,h=>by
  have⟨h1,h2,h3,h4⟩:=h;have⟨g1,g2,g3⟩:=MG p g ks h4;have q:yJ (.enter name gx)=true:=by
   simp only[yJ,qx,Aw,LW];exact⟨⟨h2,h3⟩,h1⟩
  have u:yJ (.uQ name)=true:=by simpa [yJ]using h1
  unfold Ge Jm;split
  .refine⟨λe j=>?_,?_,?_⟩
   .grind
   .simp[vm,N3];omega
   .simp[kY,ug];omega
  .refine⟨λe j=>?_,?_,?_⟩
   .grind
   .have e:vm (.enter name gx::(uv g ks++[.uQ name]))=(6000+16*6000000)+(vm (uv g ks)+6000):=by simp[vm,N3]
    omega
   .have e:(kY (.enter name gx::(uv g ks++[.uQ name]))).length=(1+gx.length)+((kY (uv g ks)).length+1):=by simp[kY,ug];omega
    omega
 | .tx s,h=>by
  have k:s.size<=B:=h;refine⟨λe j=>?_,?_,?_⟩
  .rw[List.mem_singleton.1 j];simp[yJ];omega
  .simp[Ge,vm,N3,Jm];omega
  .simp[Ge,kY,ug,Jm]
 | .cm s,h=>by
  have k:s.size<=5000:=h;refine⟨λe j=>?_,?_,?_⟩
  .rw[List.mem_singleton.1 j];simp[yJ];omega
  .simp[Ge,vm,N3,Jm]
  .simp[Ge,kY,ug,Jm]
 | .dt s,h=>by
  have k:s.size<=5000:=h;refine⟨λe j=>?_,?_,?_⟩
  .rw[List.mem_singleton.1 j];simp[yJ];omega
  .simp[Ge,vm,N3,Jm]
  .simp[Ge,kY,ug,Jm]
theorem MG (k:B<=595500) (j:gn->Bool):∀g:List Tn,TsG B g->(∀e∈uv j g,yJ e=true)/\vm (uv j g)<=143000000*szS g/\(kY (uv j g)).length<=18*szS g
 |[],_=>⟨(λe p=>by cases p),(by simp[uv,vm]),(by simp[uv,kY])⟩
 |t::g,h=>by
  have⟨a1,a2,a3⟩:=acJ k j t h.1;have⟨b1,b2,b3⟩:=MG k j g h.2;unfold uv szS;refine⟨λe p=>?_,?_,?_⟩
  .grind
  .grind[vm]
  grind[kY]
end
theorem Xl (q:mN σ) (u:NG σ) (p:wt σ<=595500) (K:Nat):∃nm gx T,Ju σ (K+1) (.el 0)= .el nm gx T/\Ww T:=by
 have⟨r,hv⟩:=q;have⟨e,he⟩:=Option.isSome_iff_exists.1 hv.wK;have g:Ju σ (K+1) (.el 0)= .el e.name e.gM (e.kids.map (Ju σ K)):=by
  show(match σ.gV 0 with|some e=>Tn.el e.name e.gM (e.kids.map (Ju σ K))|none=>Er)=_
  rw[he]
 have h:=adr ⟨r,hv⟩ (K+1) 0;have j:=acb u (K+1) (.el 0);rw[g]at h j;have k:TsG (wt σ) (e.kids.map (Ju σ K)):=j.2.2.2;have y:1+szS (e.kids.map (Ju σ K))<=1+wt σ:=h;refine⟨_,_,_,g,λx=>?_,?_⟩
 .have⟨g1,g2,_⟩:=MG p x _ k;grind
 .have⟨_,_,g3⟩:=MG p (λ_=>false) _ k;grind[vS]
def okN (σ:Ab):Nat->Nd->Bool
 |0,_=>false
 |k+1,.el i=>match σ.gV i with
  |some e=>e.kids.all (okN σ k)
  |none=>true
 |_+1,_=>true
def Yy:∀(k g:Nat) (p:Nd),okN σ k p=true->k<=g->Ju σ g p=Ju σ k p
 |0,_,_,h,_=>by cases h
 |k+1,0,_,_,h=>by omega
 |k+1,g+1,.el i,h,hk=>by
  have j:(match σ.gV i with|some e=>e.kids.all (okN σ k)|none=>true)=true:=h
  show(match σ.gV i with|some e=>Tn.el e.name e.gM (e.kids.map (Ju σ g))|none=>Er)=match σ.gV i with|some e=>Tn.el e.name e.gM (e.kids.map (Ju σ k))|none=>Er
  cases he:σ.gV i with
  |none=>rfl
  |some e=>
   rw[he]at j;dsimp only at j|-;rw[QW λx q=>Yy k g x (List.all_eq_true.1 j x q) (by omega)]
 |_+1,_+1,.tx _,_,_=>rfl
 |_+1,_+1,.cm _,_,_=>rfl
 |_+1,_+1,.dt _,_,_=>rfl
def acY (s w:gn):Bool:=match ED 64 32 16 s with
 | .done fin _=>okN fin 70 (.el 0)&&(match Ju fin 70 (.el 0)with
  | .el _ _ T=>kh (QB T) w
  |_=>false)
 |_=>false
def Ki (i:Nat):gn×gn×Bool:=knL.getD i (⟨#[]⟩,⟨#[]⟩,true)
def Vq:∀i,i < 40->acY (Ki i).1 (XH (Ki i))=true
 |0,_=>by decide+kernel
 |1,_=>by decide+kernel
 |2,_=>by decide+kernel
 |3,_=>by decide+kernel
 |4,_=>by decide+kernel
 |5,_=>by decide+kernel
 |6,_=>by decide+kernel
 |7,_=>by decide+kernel
 |8,_=>by decide+kernel
 |9,_=>by decide+kernel
 |10,_=>by decide+kernel
 |11,_=>by decide+kernel
 |12,_=>by decide+kernel
 |13,_=>by decide+kernel
 |14,_=>by decide+kernel
 |15,_=>by decide+kernel
 |16,_=>by decide+kernel
 |17,_=>by decide+kernel
 |18,_=>by decide+kernel
 |19,_=>by decide+kernel
 |20,_=>by decide+kernel
 |21,_=>by decide+kernel
 |22,_=>by decide+kernel
 |23,_=>by decide+kernel
 |24,_=>by decide+kernel
 |25,_=>by decide+kernel
 |26,_=>by decide+kernel
 |27,_=>by decide+kernel
 |28,_=>by decide+kernel
 |29,_=>by decide+kernel
 |30,_=>by decide+kernel
 |31,_=>by decide+kernel
 |32,_=>by decide+kernel
 |33,_=>by decide+kernel
 |34,_=>by decide+kernel
 |35,_=>by decide+kernel
 |36,_=>by decide+kernel
 |37,_=>by decide+kernel
 |38,_=>by decide+kernel
 |39,_=>by decide+kernel
 |n+40,h=>by omega
def R6 (i:Nat) (h:i < 40):(Ki i).1.size<=1024/\(Ki i).2.1.size<=1024:=of_decide_eq_true (List.all_eq_true.1 (show((List.range 40).all λi=>decide ((Ki i).1.size<=1024/\(Ki i).2.1.size<=1024))=true by decide+kernel) i (List.mem_range.2 h))
def ads (s K:gn) (x:s.size<=1024) (g:acY s K=true):∃nm gx T L,L9 s 64 32 16 (.el nm gx T) L/\Ww T/\QB T=K:=by
 have j:=LI 64 32 16 s x (by omega) (by omega);unfold acY at g;cases h:ED 64 32 16 s with
 |stuck=>rw[h]at g;cases g
 |stop c p=>rw[h]at g;cases g
 |done fin L=>
  rw[h]at j g;dsimp only at g;obtain⟨y,g2,_⟩:=j;have u:=VQ 64 32 16 s x (by omega) h;have hw:wt fin<=595500:=by
   have z:wt fin<=DY fin:=y7 _ _;have C:=WD (d:=64) (f:=32) (l:=16) (a:=0);have F:=Mx s;have G:(vW s ((16:Nat):Int) .nilFunc 0).cs.size=(zr s).size:=rfl;omega
  obtain⟨r,J⟩:=id y.iv;obtain⟨B,U⟩:=zH r fin.nodes.length;obtain⟨nm,gx,T,H,V⟩:=Xl y.iv u hw (B+70);rw[qx]at g;have e1:=Yy 70 (B+70+1) (.el 0) g.1 (by omega);rw[<-e1,H]at g;refine⟨nm,gx,T,L,λtv base w Z q X=>?_,V,sJ g.2⟩;refine(VR s tv base 64 32 16 w Z x (by omega) (by omega) (by omega) q X).mono λe w' I=>?_;rw[h]at I;obtain⟨v,k,E,N,z,C,F,G,O,Q⟩:=I;subst C;refine⟨v,N 0,z,?_,G,O,Q⟩;rw[<-H];obtain⟨L',rfl,hrel⟩:=F;exact TF hrel J U (B+70+1) (.el 0) J.wK (λi Y=>by cases Y;omega) (by omega)
def adk (c:Int) (w:gr) (k: -9223372036854775808<=c) (p:c<=9223372036854775807):
  Calls prog 6 #[ga c,ga 64] w λe w'=>(∃m:Nat,m<=63/\e=ir (ga m))/\w'=w:=by
 by_cases q:c < 0
 .have h:0<= -(c+1):=by omega
  have j:(-(c+1)).tmod 64=(((-(c+1)).toNat%64:Nat):Int):=by rw[Int.tmod_eq_emod_of_nonneg h];omega
  go_enter func6,ntmps6;go_wp2;go_ret;refine⟨⟨(-(c+1)).toNat%64,by omega,?_⟩,rfl⟩;have g:max (-(c+1)) 0%64=(((-(c+1)).toNat%64:Nat):Int):=by omega
  show Ending.returned (Value.int .i64 (max (-(c+1)) 0%64))=_;rw[g]
 .have j:c.tmod 64=((c.toNat%64:Nat):Int):=by rw[Int.tmod_eq_emod_of_nonneg (by omega)];omega
  go_enter func6,ntmps6;go_wp2;go_ret;refine⟨⟨c.toNat%64,by omega,?_⟩,rfl⟩;have g:max c 0%64=((c.toNat%64:Nat):Int):=by omega
  show Ending.returned (Value.int .i64 (max c 0%64))=_;rw[g]
def Lp:∀(l:List (gn×gn×Bool)) (i:Nat),i < l.length->(zQ l)[i*3]?=some (gw (l.getD i (⟨#[]⟩,⟨#[]⟩,true)).1)/\(zQ l)[i*3+1]?=some (gw (l.getD i (⟨#[]⟩,⟨#[]⟩,true)).2.1)/\(zQ l)[i*3+2]?=some (.bool (l.getD i (⟨#[]⟩,⟨#[]⟩,true)).2.2)
 |[],_,h=>by cases h
 |p::l,0,_=>⟨rfl,rfl,rfl⟩
 |p::l,i+1,h=>by
  have:=Lp l i (by simpa using h);rw[show(i+1)*3=i*3+1+1+1 by omega]
  simpa [zQ]using this
def Vw {w1 : gr} (h:w1=w.alloc (gy (zQ knL).toArray 34)) (i:Nat) (j:i < 40):w1.cell? ⟨w.heap.size,i*3,none⟩=some (gw (Ki i).1)/\w1.cell? ⟨w.heap.size,i*3+1,none⟩=some (gw (Ki i).2.1)/\w1.cell? ⟨w.heap.size,i*3+2,none⟩=some (.bool (Ki i).2.2):=by
 have g:w1.heap[w.heap.size]?=some (gy (zQ knL).toArray 34):=by rw[h];exact fQ w _
 rw[fO g,fO g,fO g];simp only[List.getElem?_toArray];exact Lp knL i j
def aao (c:Int) (w:gr) (h0: -9223372036854775808<=c) (h1:c<=9223372036854775807) (u:yh w) (hG:L5 w):
  Calls prog 4 #[ga c] w λe w'=>e=ir (.bool true)/\Kept [] w w':=by
 have Y:=fN (ac4 w);have Z:=fN (λW=>adk c W h0 h1);have HT:=fN u;have HG:=fN hG;clear h0 h1 u hG;go_enter func4,ntmps4;go_wp21;refine Y.out.mono ?_;rintro e H ⟨rfl,y⟩;have LC:=fN (Vw y);have F:Kept [] w H:=by rw[y];exact(Kept.refl _ _).alloc _
 have z1:H.heap.size=w.heap.size+1:=by rw[y];simp
 clear Y y;go_wp21;refine(Z.out H).mono ?_;rintro e w' ⟨⟨m,hm,rfl⟩,E⟩;rw[E];clear Z E w';have z:=fN F;by_cases Q:m < 40
 .obtain⟨K,N,O⟩:=LC.out m Q;have U:=Vq m Q;obtain⟨V,hz⟩:=R6 m Q;generalize Ki m=p at *;obtain⟨t,I,b⟩:=p;dsimp only at K N O U V hz;obtain⟨nm,gx,T,L,hR,hD,u⟩:=ads t _ V U;have CR:=fN (R7 t 64 32 16 H V (by omega) (by omega) (by omega) (HT.out.fr (bm:=0) (.gP F)) (HG.out.kept F) hR hD);have k:w.heap.size < H.heap.size:=by omega
  clear U hR hD F HT HG LC;go_wp21;refine CR.out.mono ?_;rintro e w2 ⟨va,na,ca,ta,tb,tc,rfl,_,_,j⟩;dsimp only;replace K:=(j.cell (p:=⟨w.heap.size,m*3,none⟩) k (by simp)).trans K;replace N:=(j.cell (p:=⟨w.heap.size,m*3+1,none⟩) k (by simp)).trans N;replace O:=(j.cell (p:=⟨w.heap.size,m*3+2,none⟩) k (by simp)).trans O;have a0:w.heap.size < w2.heap.size:=mf k j.size;have q:=fN ((z.out.trans j).alloc (.cells #[ga 0,ga t.size,.slice va na ca,gw (QB T),.slice ta tb tc] 30));clear CR j z k;generalize QB T=G at *;cases b with
  |true=>
   have h:G=I:=u;subst h;clear u;go_wp21;go_region
   all_goals (try go_wp2)
   all_goals (try go_ret)
   all_goals exact⟨rfl,q.out.drew⟩
  |false=>
   by_cases C:14 < t.size/\(t.extract 0 15).toList=qD.toList
   .have h:G=qD++hdB++I++tlB:=by rw[u];unfold XH;rw[gI (by simp),gN C]
    have g:(G.toList==(qD++hdB++I++tlB).toList)=true:=by rw[h];exact beq_self_eq_true _
    have X:(14:Int) < (t.size:Int):=by omega
    have q2:((t.extract 0 15).toList==[60,33,68,79,67,84,89,80,69,32,104,116,109,108,62])=true:=beq_iff_eq.2 (C.2.trans (by decide+kernel));have J:=fN g;clear u C h g;go_wp21;go_region
    all_goals (try go_wp2)
    all_goals (try go_ret)
    all_goals exact⟨pJ (λx=>Ending.returned (.bool x)) J.out,q.out.drew⟩
   .have h:G=hdB++I++tlB:=by rw[u];unfold XH;rw[gI (by simp),gI C]
    have g:(G.toList==(hdB++I++tlB).toList)=true:=by rw[h];exact beq_self_eq_true _
    have J:=fN g;clear u h g;by_cases X:14 < t.size
    .have q2:((t.extract 0 15).toList==[60,33,68,79,67,84,89,80,69,32,104,116,109,108,62])=false:=beq_eq_false_iff_ne.2 λe=>C ⟨X,e.trans (by decide+kernel)⟩;replace X:(14:Int) < (t.size:Int):=by omega
     clear C;go_wp21;go_region
     all_goals (try go_wp2)
     all_goals (try go_ret)
     all_goals exact⟨pJ (λx=>Ending.returned (.bool x)) J.out,q.out.drew⟩
    .clear C;go_wp21;go_region
     all_goals (try go_wp2)
     all_goals (try go_ret)
     all_goals exact⟨pJ (λx=>Ending.returned (.bool x)) J.out,q.out.drew⟩
 .clear F;go_wp2;go_ret;exact⟨rfl,z.out⟩
def X8 (c:Int) (w:gr) (p: -9223372036854775808<=c) (q:c<=9223372036854775807) (h:yh w) (g:L5 w):
  Calls prog 3 #[ga c] w λe w'=>e=ir (.bool true)/\Kept [] w w':=by
 have C:=fN (aao c w p q h g);clear h g;go_enter func3,ntmps3;go_wp21;refine C.out.mono ?_;rintro e u ⟨rfl,j⟩;have k:=fN j;clear j C;go_wp2;go_ret;exact⟨rfl,k.out⟩
end
end Go.Proofs.YtccjlklnkhagdaaGreatDoor
