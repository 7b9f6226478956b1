import Derived.Test.YtlhhgenpcjjajaaGreatDoorRtE3
set_option linter.unusedSimpArgs false
set_option linter.unusedVariables false
set_option linter.defProp false
set_option maxHeartbeats 0
set_option maxRecDepth 100000
namespace Go.Proofs.YtlhhgenpcjjajaaGreatDoor
open Go.RowKit Go.PlainAid Go.Extern.Stop Go.Stop Go.Extern Tryz
def BC:=@World.frozen?_alloc_old
def BE:=@cell_of_one
def yB:=@wpAny_ready
def vZ:=@AllReady.cons
def yC:=@AllReady.nil
section
variable {D : Tn} {L : List Sp} {P : qI Unit->Prop} {R : RC} {W w w' w2 wl : gx} {a b bg c d f l lg m n p ps : Nat} {gM : lZ} {k : UR} {lk : Bool} {look : gz->Option gz} {nm s : gz} {o : Ru} {r : qI Unit} {sp : nc} {t : gO} {σ : Ab}
def ady {l : List Ru} {R : List (List gz×Ru)} (j:t.k≠ .lost) (i:xx[m]?=some sp) (e:kj sp t=j5 ((pa R nm).getD .nil::l)) (v:∀p∈R,p.2≠ .nil) (u:RB c σ (oo lk (ie true n) (ie lk n) (j5 l) t σ)) (q:∀p∈R,im p.1 nm=true->RB c σ (oo lk (ie true n) (ie lk n) p.2 t σ)):RB c σ (ie lk (n+1) m t σ):=by
 cases hl:pa R nm with
 |none=>
  rw[iD lk n m t j sp i (j5 l) (by rw[e,hl];rfl)];exact u
 |some r=>
  obtain⟨p,h,x,rfl⟩:=uO hl;have g:=v p h;rw[iD lk n m t j sp i p.2 (by
   rw[e,hl];show j5 (p.2::_)=p.2;cases hq:p.2<;>first|rfl|exact absurd hq g)]
  exact q p h x
def jw (g:t.k≠ .lost) (h:xx[m]?=some sp) (e:RB c σ (oo lk (ie true n) (ie lk n) (kj sp t) t σ)):RB c σ (ie lk (n+1) m t σ):=by
 rw[iD lk n m t g sp h _ rfl];exact e
def yO {rec:Nat->gO->M Unit} (h:nX σ) (y:∀e,nX e->wt e=wt σ->e.fresh=σ.fresh->RB c e (rec 6 t e)):RB c σ (uK rec t σ):=by
 have v:=y {σ with iT:=true} ⟨h.iv.nD rfl rfl rfl rfl rfl rfl rfl,h.ne,h.md⟩ rfl rfl;have x:=RB.then v (λσ=>{σ with iT:=false}) (λ_=>⟨rfl,rfl,rfl,rfl,rfl,rfl,rfl,rfl,rfl,rfl,rfl,rfl⟩);show RB c σ ((rec 6 t>>=λ_=>xA (λσ=>{σ with iT:=false})>>=λ_=>(Pure.pure ():M Unit)) {σ with iT:=true});revert x;cases(rec 6 t>>=λ_=>xA (λσ=>{σ with iT:=false})>>=λ_=>(Pure.pure ():M Unit)) {σ with iT:=true} with
 |ok u σ2=>rintro⟨i,j,g,q⟩;exact⟨i,j,⟨g.gS,g.qv,g.rZ,g.pG,g.wt,g.wz⟩,q⟩
 |stop c p=>simp[RB]
 |stuck=>simp[RB]
def Jz {e:M Unit} (h:nX σ) (g:RB c σ (e σ)):RB c σ (LG e t σ):=by
 unfold LG;split
 .exact g
 .exact(kU h.iv h.Fl).mono (iN _)
theorem zE {rec:Nat->gO->M Unit} (h:nX σ) (F:wt σ < 999000) (ks:List gz) (g:gz) (m:Nat) (x:qP m=true) (y:∀e,nX e->e.mode=m->wt e<=wt σ+1->e.fresh=σ.fresh->RB c e (rec m t e)):RB (c+1) σ (tS rec ks g m t σ):=by
 unfold tS;refine RB.bind (xV h.iv (im ks)) (c2:=c+1) ?_ (by omega);rintro _ E z u G B;refine RB.bind (sQ z (u.ne h.ne) (by omega) g) (c2:=c) ?_ (by omega);rintro _ i A v w2 ⟨j,q,C⟩;refine oJ (y {i with mode:=m} ⟨A.nD rfl rfl rfl rfl rfl rfl rfl,v.ne (u.ne h.ne),x⟩ rfl ?_ ?_)
 .grind[wt]
 .show i.fresh=_;rw[C,B.fresh]
def Ep (h:σ.waiting.length < 4096):pr ⟨a,b,.jM s,gM⟩ σ= .ok () (if tU s then σ else {σ with waiting:=σ.waiting++[(a,b,s)]}):=by
 unfold pr;simp only;cases tU s with
 |true=>rfl
 |false=>simp[h]
theorem AX (h:nX σ) (j:s.size<=100) (z:wt σ < 999000) (q:σ.waiting.length < 4000) (g:σ.mode=7\/σ.mode=11\/σ.mode=12):RB 360 σ (qR (ie false (n+4)) ⟨a,b,.jM s,gM⟩ σ):=by
 unfold qR;split
 .show RB 360 σ ((kZ (ie false (n+4)) ⟨a,b,.jM s,gM⟩>>=λ_=>(Pure.pure ():M Unit)) {σ with kept:=σ.mode,mode:=8});refine RB.mono (c:=0) ?_ (by omega);have e:ie false (n+4) 8 ⟨a,b,.jM s,gM⟩=pr ⟨a,b,.jM s,gM⟩:=iD false (n+3) 8 _ (by simp) lO rfl (.ik 136) (by
   unfold kj;dsimp only;split<;>rfl)
  show RB 0 σ ((ie false (n+4) 8 ⟨a,b,.jM s,gM⟩>>=λ_=>(Pure.pure ():M Unit)) {σ with kept:=σ.mode,mode:=8});rw[e];have u:nr {σ with kept:=σ.mode,mode:=8}:=h.iv.nD rfl rfl rfl rfl rfl rfl rfl;rw[M.gE,Ep (show({σ with kept:=σ.mode,mode:=8}:Ab).waiting.length < 4096 by grind)];cases tU s with
  |true=>exact⟨u,⟨h.ne,.inr (.inr ⟨rfl,g⟩)⟩,⟨rfl,rfl,rfl,rfl,lU _,λ_ h=> .inl h⟩,nW (jF rfl)⟩
  |false=>exact⟨h.iv.nD rfl rfl rfl rfl rfl rfl rfl,⟨h.ne,.inr (.inr ⟨rfl,g⟩)⟩,⟨rfl,rfl,rfl,rfl,by show(σ.waiting++[(a,b,s)]).length<=_;simp,λx A=>by
    grind⟩,nW (jF rfl)⟩
 .refine RB.tail (yO h ?_);intro v i w' y;exact jP false (n+1) ⟨a,b,.jM s,gM⟩ ⟨j,rfl,by simp⟩ i (λh=>by cases h) (by omega)
structure CX (L:Nat) (t:gO) (σ:Ab):Prop where
 tg:qc t
 h:nX σ
 hf:zo σ t
 hw:wt σ < 998000
 hwt:σ.waiting.length < 4000
 hl:σ.gG.length<=L
def PL (L n:Nat):Prop:=∀t σ,CX L t σ->RB 370 σ (ie false n σ.mode t σ)
def PL.ahead {L : Nat} (j:PL L n) (c:CX (L+1) t σ) {b:M Bool} (q:yl b):RB 370 σ (ym (ie false n) b t σ):=
 have⟨tg,h,hf,hw,hwt,hl⟩:=c
 YP q h (λe i x w' g v _=>j t e ⟨tg,i,(λu=>g.trans (hf u)),by omega,by rw[v];exact hwt,by omega⟩)
def U8 (n a b:Nat) (nm:gz) (gM:lZ) (i:nm=iH\/nm=iI) (h:nX σ) (e:mx σ ⟨a,b,.start nm,gM⟩) (g:wt σ < 999000):RB 1 σ (ie false (n+1) 12 ⟨a,b,.start nm,gM⟩ σ):=by
 rcases i with rfl|rfl
 .rw[iD false n 12 _ (by simp) rn rfl (.ik 143) (by kernel_rfl)];exact zU h g e
 .rw[iD false n 12 _ (by simp) rn rfl (.ik 143) (by kernel_rfl)];exact zU h g e
def afD (n a b:Nat) (nm:gz) (gM:lZ) (g:nm∈[iH,iI,il]) (h:nX σ) (i:mx σ ⟨a,b,.start nm,gM⟩) (x:wt σ < 998900):RB 2 σ (ie false (n+2) 11 ⟨a,b,.start nm,gM⟩ σ):=by
 simp only[lf,lr,lu]at g;have e:nm=iH\/nm=iI->RB 2 σ (tS (ie false (n+1)) [gq,gr,gv] il 12 ⟨a,b,.start nm,gM⟩ σ):=λu=>
  zE (c:=1) h (by omega) _ _ 12 rfl (λv q y w' j=>U8 n a b nm gM u q ⟨rfl,j.trans i.fr⟩ (by omega))
 rcases g with rfl|rfl|rfl
 .rw[iD false (n+1) 11 _ (by simp) km rfl (.ot [gq,gr,gv] il 12) (by kernel_rfl)];exact e (.inl rfl)
 .rw[iD false (n+1) 11 _ (by simp) km rfl (.ot [gq,gr,gv] il 12) (by kernel_rfl)];exact e (.inr rfl)
 .rw[iD false (n+1) 11 _ (by simp) km rfl (.sA [gq,gr,gv] 12) (by kernel_rfl)];exact(BX h (by omega) i _ 12 rfl).mono (by omega)
def acl (h:nr σ) (g:σ.gG≠[]):∃i,qS σ= .ok i σ/\Ca σ i:=by
 have⟨r,hr⟩:=h;have⟨q,e,rest,h1,h2,h3,h4⟩:=hr.first g;exact⟨_,by unfold qS;rw[h2];dsimp only;unfold jC;rw[h3],e,h3,gW _⟩
def aat {L k : Nat} (hP:PL L (k+5)) (c:CX (L+1) t σ) (T:m∈[7,9,10,11,12,13,14,15,16,17]) (I:m=7->σ.mode=7\/σ.mode=11\/σ.mode=12) (h7:m=11\/m=12->RB 370 σ (ie false (k+5) 7 t σ)) (H:m=15->RB 370 σ (ie false (k+5) 14 t σ)):RB 370 σ (ie false (k+6) m t σ):=by
 have O:=λ{b}=>hP.ahead c (b:=b);obtain⟨v,h,q,hw,J,hl⟩:=c;have g:wt σ < 999000:=by omega
 have i:∀{c r},RB c σ r->c<=370->RB 370 σ r:=RB.mono;have B:RB 370 σ (ie false (k+5) 6 t σ):=i (jP false (k+2) _ v h q g) (by omega);have Q:RB 370 σ (_:qI Unit):=i (oJ (rec:=ie false (k+5)) (jP false (k+2) _ v (h.mode 6 rfl) (λC=>q C) g)) (by omega);have N:=i (kU h.iv h.Fl) (by omega);have F:RB 370 σ (uK (ie false (k+5)) t σ):=i (yO h (λz y w' x=>jP false (k+2) _ v y (λC=>x.trans (q C)) (by omega))) (by omega);have S:=λ{b} (hb:yl b)=>i (xY hb h) (by omega);have G:=λ{pm} hq=>i ((tu h.iv pm hq t g).rb h.ne h.md) (by omega);have V:∀{a b s gM},s.size<=100->m=7->RB 370 σ (qR (ie false (k+5)) ⟨a,b,.jM s,gM⟩ σ):=λC e=>i (AX (n:=k+1) h C g J (I e)) (by omega);have X:∀{a b nm gM},nm=iZ->σ.fresh=true->RB 370 σ (ie false (k+5) 3 ⟨a,b,.start nm,gM⟩ σ):=λe q=>i (Vg false (k+4) _ _ _ _ (.inr (.inr e)) h q g) (by omega);have Y:∀{a b nm gM E u},nm∈[iH,iI,il]->σ.fresh=true->RB 370 σ (tS (ie false (k+5)) E u 11 ⟨a,b,.start nm,gM⟩ σ):=λe q=>i (zE (c:=2) h g _ _ 11 rfl (λz y U w' x=>afD (k+3) _ _ _ _ e y ⟨rfl,x.trans q⟩ (by omega))) (by omega);have Z:∀{a b nm gM E u},nm=iH\/nm=iI->σ.fresh=true->RB 370 σ (tS (ie false (k+5)) E u 12 ⟨a,b,.start nm,gM⟩ σ):=λe q=>i (zE (c:=1) h g _ _ 12 rfl (λz y U w' x=>U8 (k+4) _ _ _ _ e y ⟨rfl,x.trans q⟩ (by omega))) (by omega);have I3:∀{a b nm gM E u},nm=iB->σ.fresh=true->RB 370 σ (tS (ie false (k+5)) E u 10 ⟨a,b,.start nm,gM⟩ σ):=λe q=>i (zE (c:=1) h g _ _ 10 rfl (λz y U w' x=>by
  rw[e,iD false (k+4) 10 _ (by simp) ko rfl (.ik 110) (by kernel_rfl)];exact vp y (by omega) ⟨rfl,x.trans q⟩)) (by omega)
 obtain⟨a,b,kk,gM⟩:=t;simp only[lf,lr,lu]at T;rcases T with rfl|rfl|rfl|rfl|rfl|rfl|rfl|rfl|rfl|rfl
 all_goals cases kk
 all_goals first
  |exact absurd rfl v.nl
  |refine ady v.nl rfl rfl (by simp) ?_ ?_
  |refine jw v.nl rfl ?_
 all_goals generalize ie false (k+5)=K at *
 all_goals try (unfold kj;dsimp only)
 all_goals try split
 all_goals try (simp only[List.forall_mem_cons,lr,false_implies,implies_true,and_true];and_intros)
 all_goals try intro A
 all_goals try have j:=q.tag rfl
 all_goals try exact N
 all_goals try exact B
 all_goals try refine O ?_
 all_goals try refine S ?_
 all_goals try refine Jz h (O ?_)
 all_goals try refine Jz h (S ?_)
 all_goals try exact h7 (by simp)
 all_goals try exact H rfl
 all_goals try exact F
 all_goals try exact V v.sz rfl
 all_goals try exact G (xl h.iv h.ne)
 all_goals try exact G (N3 h.iv)
 all_goals try exact G (acl h.iv h.ne)
 all_goals try exact i (Cj h g v.sz) (by omega)
 all_goals try exact i (Aq h g v.sz) (by omega)
 all_goals try first
  |exact Jn
  |exact zy
  |exact rH
  |exact xb
  |exact D0
  |exact Fs
  |exact vE
 all_goals try exact Y (Oi A) j.fr
 all_goals try exact Z (agh A) j.fr
 all_goals try exact I3 (LC A) j.fr
 all_goals try exact i (BX h g j _ _ rfl) (by omega)
 all_goals try exact X (LC A) j.fr
 .show RB 370 σ ((if xv _ then lj K _ else stuck:M Unit) σ);rw[gJ v.sm];unfold lj;split
  .exact i (RB.tail (vp h g j)) (by omega)
  .exact RB.tail F
 .exact i (Cd h g j (LC A)) (by omega)
 .exact i (H9 h g j) (by omega)
 .exact i (vp h g j) (by omega)
 .exact i (zU h g j) (by omega)
 .exact i (Dz h g j) (by omega)
 .exact i (yw h g j) (by omega)
 .exact i (zV h g j) (by omega)
 .exact i (A0 h) (by omega)
 .exact i (zB h) (by omega)
 iterate 3 exact Q
 .exact i (c:=0) ⟨h.iv.nD rfl rfl rfl rfl rfl rfl rfl,⟨h.ne,.inl rfl⟩,⟨rfl,rfl,rfl,rfl,lU _,λ_ h=> .inl h⟩,nW (jF rfl)⟩ (by omega)
 all_goals exact Q
def Gr (h:qP m=true):m=6\/m∈[7,9,10,11,12,13,14,15,16,17]:=by
 unfold qP at h;simp at h|-;omega
def NB:∀(L n:Nat),4*L+8<=n->PL L n
 |0,n,_=>by
  intro t σ c;exact absurd (List.length_eq_zero_iff.1 (by have:=c.hl;omega)) c.h.ne
 |L+1,n,hn=>by
  intro t σ c;obtain⟨k,rfl⟩:∃k,n=k+7:=⟨n - 7,by omega⟩;have g:PL L (k+5):=NB L _ (by omega);have S:=λm j i=>aat (m:=m) g c j i;rcases Gr c.h.md with e|e
  .rw[e];exact(jP false (k+4) t c.tg c.h c.hf (by have:=c.hw;omega)).mono (by omega)
  .refine aat (NB L (k+1+5) (by omega)) c e (λh=> .inl h) (λh=>S 7 (by simp) (λ_=> .inr h) (λh=>by cases h<;>contradiction) (λh=>by cases h)) (λ_=>S 14 (by simp) (λh=>by cases h) (λh=>by cases h<;>contradiction) (λh=>by cases h))
def HS (m:Nat) (o:kV) (e:jk):Prop:=
 (m<=1/\o=[]/\e=none)\/(m=2/\∃h,o=[some h])\/(m=3/\∃h d,o=[some h,some d]/\e=some d)\/(m=4/\∃h d,o=[some h]/\e=some d)\/(qP m=true/\o≠[])
def MS (σ:Ab):Prop:=HS σ.mode σ.gG σ.head\/(σ.mode=5/\3<=σ.kept/\2<=σ.gG.length/\HS σ.kept σ.gG.dropLast σ.head)\/(σ.mode=8/\(σ.kept=7\/σ.kept=11\/σ.kept=12)/\σ.gG≠[])
def RG (c:Nat) (σ:Ab) (r:qI Unit):Prop:=match r with
 | .ok _ σ'=>nr σ'/\MS σ'/\Lm σ σ'/\wt σ'<=wt σ+c
 | .stop _ p=>p=σ.gS
 | .stuck=>False
theorem RG.mono {c' : Nat} (h:RG c σ r) (g:c<=c'):RG c' σ r:=by
 cases r with
 |ok a σ'=>grind[RG]
 |stop e p=>exact h
 |stuck=>exact h
def YX (h:qP m=true):6<=m:=by have:=Gr h;simp at this;omega
theorem BMs.ms (h:BMs σ):MS σ:=by
 rcases h.sh with g|⟨g,i,j⟩|⟨g,i⟩
 .exact .inl (.inr (.inr (.inr (.inr ⟨g,h.ne⟩))))
 .refine .inr (.inl ⟨g,?_,j,.inr (.inr (.inr (.inr ⟨i,?_⟩)))⟩)
  .have:=YX i;omega
  .intro e;have:=sn List.length e
   grind
 .exact .inr (.inr ⟨g,i,h.ne⟩)
def RB.rg (h:RB c σ r):RG c σ r:=by
 cases r with
 |ok a σ'=>exact⟨h.1,h.2.1.ms,h.2.2.1,h.2.2.2⟩
 |stop e p=>exact h
 |stuck=>exact h
def jE.rg {Q : Unit->Ab->Prop} (h:jE c σ r Q) (j:MS σ) (i:∀g,Q () g->g.gG=σ.gG):RG c σ r:=by
 cases r with
 |ok a g=>
  have⟨h1,h2,h3,h4⟩:=h;refine⟨h1,?_,h2.lm,h3⟩;unfold MS;rw[h2.mode,h2.kept,h2.head,i g h4];exact j
 |stop e p=>exact h
 |stuck=>exact h
def rP (h:nr σ) (e:MS σ):RG 0 σ ((Pure.pure ():M Unit) σ):=⟨h,e,lm0 σ,gW _⟩
def RG.tail {m:M Unit} (h:RG c σ (m σ)):RG c σ ((m>>=λ_=>(Pure.pure ():M Unit)) σ):=by
 rw[M.gE];revert h;cases m σ<;>exact λh=>h
def RG.from {c1 c2 : Nat} {σ1 : Ab} (h:RG c1 σ1 r) (g:Lm σ σ1) (v:σ1.waiting.length<=σ.waiting.length) (j:∀x∈σ1.waiting,x∈σ.waiting) (q:wt σ1<=wt σ+c2) (u:c1+c2<=c):RG c σ r:=by
 cases r with
 |ok a σ'=>
  have⟨h1,h2,h3,h4⟩:=h;exact⟨h1,h2,⟨h3.gS.trans g.gS,h3.qv.trans g.qv,h3.rZ.trans g.rZ,h3.pG.trans g.pG,by have:=h3.wt;omega,λx i=>(h3.wz x i).imp (j x) id⟩,by omega⟩
 |stop e p=>exact Ah h g.gS
 |stuck=>exact h
theorem LB (h:nr σ) (q:σ.gG≠[]) (t:gO) (v:σ.fresh=true) (x:MS σ):RG 0 σ (pn t σ):=by
 have z:∀(gM:lZ) (i:Nat) (σ:Ab),∀g,qU i gM σ= .ok () g->g.gG=σ.gG:=by
  intro gM i
  induction gM with
  |nil=>intro σ g e;cases e;rfl
  |cons a r ih=>
   intro σ g e;rw[MK]at e;split at e
   .cases e
   .split at e
    .grind
    .split at e
     .cases e
     .have:=ih _ g e;exact this
 have j:=Ed h q t v;cases hq:pn t σ with
 |ok u g=>
  rw[hq]at j;have⟨g1,g2,g3,_⟩:=j;refine⟨g1,?_,g2.lm,g3⟩;have y:g.gG=σ.gG:=by
   unfold pn at hq;split at hq
   .rename_i i A;rw[M.gE]at hq;cases hg:xg i t σ with
    |ok u2 σ2=>
     rw[hg]at hq;cases hq;unfold xg at hg
     grind
    |stop c p=>grind
    |stuck=>grind
   .cases hq
  unfold MS;rw[g2.mode,g2.kept,g2.head,y];exact x
 |stop c p=>rwa [hq]at j
 |stuck=>rw[hq]at j;exact j.elim
def Ok (n a b:Nat) (gM:lZ) (h:nr σ) (g:σ.gG≠[]) (i:σ.fresh=true) (j:MS σ):RG 0 σ (ie false (n+1) 6 ⟨a,b,.start fY,gM⟩ σ):=by
 rw[iD false n 6 _ (by intro e;cases e) ln rfl (.ik 191) (by kernel_rfl)];exact LB h g _ i j
def aa8 (i:nr σ) (e:σ.gG≠[]) (j:σ.mode=6) (A:qc t) (v:zo σ t) (z:wt σ < 998000) (g:σ.waiting.length < 4000) (y:4*64+8<=n) (u:370<=c):RG c σ (ie false n 6 t σ):=by
 have x:σ.gG.length<=64:=by obtain⟨r,q⟩:=i;exact j7 q.x9 q.Qc
 have h:=NB 64 n y t σ ⟨A,⟨i,e,by rw[j];rfl⟩,v,z,g,x⟩;rw[j]at h;exact h.rg.mono u
theorem JD (h:nr σ) (v:σ.gG≠[]) (F:wt σ < 998000) (s:gz) (m:Nat) {rec:Nat->gO->M Unit} (B:∀g,nr g->Fx σ {g with mode:=σ.mode}->g.mode=m->wt g<=wt σ+1->g.fresh=σ.fresh->RG c g (rec m t g)):RG (c+1) σ ((ky s>>=λ_=>jS m>>=λ_=>kZ rec t>>=λ_=>(Pure.pure ():M Unit)) σ):=by
 have z:=sQ h v (by omega) s;rw[M.gE];revert z;cases ky s σ with
 |ok u σ1=>
  rintro⟨C,i,y,j,q,E⟩;dsimp only;have A:=RG.tail (B {σ1 with mode:=m} (C.nD rfl rfl rfl rfl rfl rfl rfl) (by
   have e:({({σ1 with mode:=m}:Ab)with mode:=σ.mode}:Ab)=σ1:=by rw[<-i.mode]
   grind) rfl y E)
  exact RG.from (c1:=c) (c2:=1) (σ1:={σ1 with mode:=m}) A ⟨i.gS,i.qv,i.rZ,i.pG,by show σ1.waiting.length<=_;rw[i.waiting];omega,by show∀x∈σ1.waiting,_;rw[i.waiting];grind⟩ (by show σ1.waiting.length<=_;rw[i.waiting];omega) (by show∀x∈σ1.waiting,_;rw[i.waiting];simp) y (gW _)
 |stop c p=>exact λh=>h
 |stuck=>simp[jE]
def wZ (h:nr σ) (j:M (Nat×Nat)) (i:∃g,j σ= .ok g σ/\Ca σ g) (t:gO) (u:wt σ < 999000) (e:MS σ):RG 1 σ (ol j t σ):=by
 have⟨a,b,k,gM⟩:=t;cases k with
 |gR s=>
  have⟨g,h1,h2⟩:=i;show RG 1 σ ((j>>=λg=>pz g (.cm s) .cm>>=λ_=>(Pure.pure ():M Unit)) σ);rw[M.gE,h1];dsimp only;exact RG.tail ((FR h h2 (.cm s) .cm (.inl ⟨s,rfl,rfl⟩) (by omega)).rg e (λ_ q=>q.gG))
 |jM s=>exact(rP h e).mono (by omega)
 |start s=>exact(rP h e).mono (by omega)
 |stop s=>exact(rP h e).mono (by omega)
 |iy s q=>exact(rP h e).mono (by omega)
 |lost=>exact(rP h e).mono (by omega)
 |iR=>exact(rP h e).mono (by omega)
theorem IA {R : List (List gz×Ru)} (e:sp.start=some R) (j:∀p∈R,p.2≠ .nil) (u:j5 [sp.jG,sp.ir]=o) (h:xx[m]?=some sp) (x:∀p∈R,im p.1 nm=true->P (oo lk (ie true n) (ie lk n) p.2 ⟨a,b,.start nm,gM⟩ σ)) (i:P (oo lk (ie true n) (ie lk n) o ⟨a,b,.start nm,gM⟩ σ)):P (ie lk (n+1) m ⟨a,b,.start nm,gM⟩ σ):=by
 have g:kj sp ⟨a,b,.start nm,gM⟩=j5 [((pa R nm).getD .nil),sp.jG,sp.ir]:=by
  show j5 [Bd sp.start nm,sp.jG,sp.ir]=_;rw[e];rfl
 cases hl:pa R nm with
 |none=>
  rw[iD lk n m _ (by simp) sp h o (by rw[g,hl,<-u];rfl)];exact i
 |some r=>
  obtain⟨p,v,y,rfl⟩:=uO hl;have q:=j p v;rw[iD lk n m _ (by simp) sp h p.2 (by
   rw[g,hl];simp[j5])]
  grind
theorem O9 {R : List (List gz×Ru)} (e:sp.stop=some R) (j:∀p∈R,p.2≠ .nil) (u:j5 [sp.j8,sp.ir]=o) (h:xx[m]?=some sp) (x:∀p∈R,im p.1 nm=true->P (oo lk (ie true n) (ie lk n) p.2 ⟨a,b,.stop nm,gM⟩ σ)) (i:P (oo lk (ie true n) (ie lk n) o ⟨a,b,.stop nm,gM⟩ σ)):P (ie lk (n+1) m ⟨a,b,.stop nm,gM⟩ σ):=by
 have g:kj sp ⟨a,b,.stop nm,gM⟩=j5 [((pa R nm).getD .nil),sp.j8,sp.ir]:=by
  show j5 [Bd sp.stop nm,sp.j8,sp.ir]=_;rw[e];rfl
 cases hl:pa R nm with
 |none=>
  rw[iD lk n m _ (by simp) sp h o (by rw[g,hl,<-u];rfl)];exact i
 |some r=>
  obtain⟨p,v,y,rfl⟩:=uO hl;have q:=j p v;rw[iD lk n m _ (by simp) sp h p.2 (by
   rw[g,hl];simp[j5])]
  grind
theorem C6 {e : Ru} (j:j5 [sp.blank,sp.jM,sp.ir]=e) (q:j5 [sp.jM,sp.ir]=o) (g:xx[m]?=some sp) (h:P (oo lk (ie true n) (ie lk n) e ⟨a,b,.jM s,gM⟩ σ)) (i:P (oo lk (ie true n) (ie lk n) o ⟨a,b,.jM s,gM⟩ σ)):P (ie lk (n+1) m ⟨a,b,.jM s,gM⟩ σ):=by
 cases hk:lM s with
 |true=>
  rw[iD lk n m _ (by simp) sp g e (by
   grind[kj])]
  exact h
 |false=>
  rw[iD lk n m _ (by simp) sp g o (by
   grind[kj])]
  exact i
def kT {r : Ru} (g:t.k≠ .lost) (i:xx[m]?=some sp) (h:kj sp t=r) (e:P (oo lk (ie true n) (ie lk n) r t σ)):P (ie lk (n+1) m t σ):=by
 rw[iD lk n m t g sp i r h];exact e
structure In4 (σ:Ab):Prop where
 iv:nr σ
 md:σ.mode=4
 sh:∃h d,σ.gG=[some h]/\σ.head=some d
def In4.ms (h:In4 σ):MS σ:=by
 have⟨x,d,h1,h2⟩:=h.sh;exact .inl (.inr (.inr (.inr (.inl ⟨h.md,x,d,h1,h2⟩))))
theorem In4.ne (h:In4 σ):σ.gG≠[]:=by have⟨x,d,h1,_⟩:=h.sh;grind
def JA (h:In4 σ) (B:qc t) (u:zo σ t) (C:wt σ < 997000) (j:σ.waiting.length < 4000) (v:4*64+8<=n):RG 371 σ (pH (ie false n) t σ):=by
 unfold pH;refine JD (c:=370) h.iv h.ne (by omega) gI 6 ?_;intro i y q z w' A;have g:i.waiting.length < 4000:=by have:=q.waiting;have e:i.waiting=σ.waiting:=this;rw[e];exact j
 exact aa8 y (q.ne h.ne) z B (λx=>A.trans (u x)) (by omega) g v (gW _)
theorem GS (z:nr σ) (h:σ.gG≠[]) (v:mx σ t) (b:Bool) (C:wt σ < 998000):match oG t b σ with
 | .ok _ σ'=>nr σ'/\Lm σ σ'/\wt σ'<=wt σ+1/\σ'.mode=5/\σ'.kept=σ.mode/\(∃j,σ'.gG=σ.gG++[some j]/\σ.nodes.length<=j)/\σ'.head=σ.head/\(∀i s,jX σ i s->jX σ' i s)
 | .stop _ p=>p=σ.gS
 | .stuck=>False:=by
 have y:=jY z h (by omega) t v.tag v.fr;have e:oG t b σ=(jv t>>=λ_=>NM t.name b>>=λ_=>xA (λσ=>{σ with kept:=σ.mode})>>=λ_=>jS 5>>=λ_=>(Pure.pure ():M Unit)) σ:=rfl;rw[e,M.gE];revert y;cases jv t σ with
 |ok u σ1=>
  rintro⟨A,g,B,j,q⟩;exact⟨A.nD rfl rfl rfl rfl rfl rfl rfl,⟨g.gS,g.qv,g.rZ,g.pG,by show σ1.waiting.length<=_;rw[g.waiting];omega,by show∀x∈σ1.waiting,_;rw[g.waiting];grind⟩,B,rfl,g.mode,⟨j,q.gG,q.new⟩,g.head,g.nm⟩
 |stop c p=>simp[jE]
 |stuck=>simp[jE]
theorem Li (h:In4 σ) (K:nm=jm\/nm=jt\/nm=iZ) (hf:σ.fresh=true) (hw:wt σ < 997000):RG 2 σ (uC (ie false (n+1)) ⟨a,b,.start nm,gM⟩ σ):=by
 have⟨x,d,ho,hd⟩:=h.sh;have⟨r,hr⟩:=h.iv;have F:=hr.head d hd;have⟨ed,hed,hedn⟩:=id F;have a0:r x < r d:=hr.ur.hd d x hd (by grind);unfold uC;rw[M.gE];have e1:pushHead σ=ya (some d) σ:=by unfold pushHead;rw[hd]
 rw[e1];unfold ya
 by_cases hl:σ.qv<=σ.gG.length
 .grind[RG]
 .rw[gV hl,gJ (show σ.mw (some d)=true by grind[Ab.mw])];dsimp only;have⟨g1,g2⟩:=hr.push hed (by
   grind[rk]) (by omega) (.inl h.ne)
  obtain⟨i,q⟩:∃i,i=({σ with gG:=σ.gG++[some d]}:Ab):=⟨_,rfl⟩;rw[<-q]at g1 g2|-;have S:nr i:=⟨r,g1⟩;have X:i.gG=[some x,some d]:=by rw[q];show σ.gG++[some d]=_;rw[ho];rfl
  have H:i.gG≠[]:=by rw[X];simp
  have w1:wt i=wt σ:=by rw[q];rfl
  have E:i.fresh=true:=by rw[q];exact hf
  have Q:i.mode=4:=g2.mode.trans h.md;have A:i.head=some d:=g2.head.trans hd;have xd:x≠d:=by rintro rfl;omega
  have ht:mx i ⟨a,b,.start nm,gM⟩:=⟨rfl,E⟩;have C:∀g,nr g->Lm i g->wt g<=wt i+1->g.head=some d->jX g d gZ->MS {g with gG:=g.gG.erase (some d)}->RG 2 σ ((pT>>=λ_=>(Pure.pure ():M Unit)) g):=by
   intro g i2 B w2 Z V m2;have e2:pT g=kL (some d) g:=by unfold pT;rw[Z]
   have v:=Dh i2 V (by simp);rw[M.gE,e2];have Y:kL (some d) g= .ok () {g with gG:=g.gG.erase (some d)}:=JX (my V);rw[Y]at v|-;have⟨G,O,T,U⟩:=v;refine⟨G,m2,⟨B.gS.trans g2.gS,B.qv.trans g2.qv,B.rZ.trans g2.rZ,B.pG.trans g2.pG,?_,by have:=B.wz;grind⟩,?_⟩
   .show g.waiting.length<=_;have:=B.wt
    grind
   .omega
  have y:jX i d gZ:=g2.nm _ _ F;have J:([some x,some d]:kV).erase (some d)=[some x]:=by
   rw[List.erase_cons_tail (by grind),List.erase_cons_head]
  have z:∀I,RG 2 σ (((oG ⟨a,b,.start nm,gM⟩ I>>=λ_=>(Pure.pure ():M Unit))>>=λ_=>pT>>=λ_=>(Pure.pure ():M Unit)) i):=by
   intro I;have k:=GS S H ht I (by omega);rw[M.gE,M.gE];revert k;cases oG ⟨a,b,.start nm,gM⟩ I i with
   |ok u g=>
    rintro⟨N,v,G,O,T,⟨j,U,k7⟩,k8,k9⟩;refine C g N v G (k8.trans A) (k9 _ _ y) ?_;have hj:j≠d:=by
     have:=Ab.iq hed;have e4:i.nodes.length=σ.nodes.length:=by rw[q]
     omega
    have he:g.gG.erase (some d)=[some x,some j]:=by
     rw[U,X];show([some x,some d,some j]:kV).erase (some d)=_;rw[List.erase_cons_tail (by grind),List.erase_cons_head]
    refine .inr (.inl ⟨O,?_,?_,?_⟩)
    .grind
    .grind
    grind[HS]
   |stop c p=>exact λh=>Ah h g2.gS
   |stuck=>simp
  rcases K with rfl|rfl|rfl
  .rw[iD false n 3 _ (by intro e;cases e) mG rfl (.ik 110) (by kernel_rfl)];have k:=qW S H (by omega) ⟨a,b,.start jm,gM⟩ rfl E;show RG 2 σ ((lL ⟨a,b,.start jm,gM⟩>>=λ_=>pT>>=λ_=>(Pure.pure ():M Unit)) i);rw[M.gE];revert k;cases lL ⟨a,b,.start jm,gM⟩ i with
   |ok u g=>
    rintro⟨N,v,G,O,T⟩;refine C g N v.lm G (v.head.trans A) (v.nm _ _ y) ?_;refine .inl (.inr (.inr (.inr (.inl ⟨v.mode.trans Q,x,d,?_,v.head.trans A⟩))))
    grind
   |stop c p=>exact λh=>Ah h g2.gS
   |stuck=>simp[jE]
  .rw[iD false n 3 _ (by intro e;cases e) mG rfl (.ik 111) (by kernel_rfl)];exact z false
  .rw[iD false n 3 _ (by intro e;cases e) mG rfl (.ik 112) (by kernel_rfl)];exact z true
theorem VL (C:4*64+8<=n) (t:gO) (g:qc t) (h:In4 σ) (i:zo σ t) (A:wt σ < 997000) (z:σ.waiting.length < 4000):RG 372 σ (ie false (n+1) 4 t σ):=by
 obtain⟨k,rfl⟩:∃k,n=k+1:=⟨n - 1,by omega⟩;have u:∀t,qc t->zo σ t->RG 372 σ (pH (ie false (k+1)) t σ):=λt g i=>(JA h g i A z C).mono (by omega);have y:RG 372 σ ((Pure.pure ():M Unit) σ):=(rP h.iv h.ms).mono (by omega);have⟨a,b,kk,gM⟩:=t;cases kk with
 |lost=>exact absurd rfl g.nl
 |jM s=>
  refine C6 (sp:=nR) (P:=RG 372 σ) rfl rfl rfl ?_ ?_
  .exact RG.mono (c:=s.size+1) ((po h.iv h.ne _ (by have:=g.sz;omega)).rg h.ms (λ_ q=>q.gG)) (by have:=g.sz;have e:gO.chars ⟨a,b,.jM s,gM⟩=s:=rfl;grind)
  .exact u _ g i
 |gR s=>
  refine kT g.nl (sp:=nR) (P:=RG 372 σ) rfl rfl ?_;show RG 372 σ (tQ 105 true _ σ);rw[sX];exact RG.mono (c:=1) (wZ h.iv mh (xl h.iv h.ne) _ (by omega) h.ms) (by omega)
 |iy s q=>exact kT g.nl (sp:=nR) (P:=RG 372 σ) rfl rfl y
 |iR=>exact kT g.nl (sp:=nR) (P:=RG 372 σ) rfl rfl (u _ g i)
 |start nm=>
  have x:mx σ ⟨a,b,.start nm,gM⟩:=i.tag rfl;refine IA (sp:=nR) (P:=RG 372 σ) rfl (by simp) rfl rfl ?_ ?_
  .intro p j v;simp only[lf,lr,lu]at j;rcases j with rfl|rfl|rfl|rfl
   all_goals dsimp only at v|-
   .exact(Li h (by have:=Oi v;grind) x.fr A).mono (by omega)
   .show RG 372 σ (abp _ σ);unfold abp;exact(RB.rg (RB.bind (jY h.iv h.ne (by omega) _ x.tag x.fr) (c:=1) (c2:=0) (λ_ F E B _ _=>Iy E (B.ne h.ne) 6 rfl) (by omega))).mono (by omega)
   .have e:=LC v;subst e;exact(Ok k a b gM h.iv h.ne x.fr h.ms).mono (by omega)
   .exact y
  .exact u _ g i
 |stop nm=>
  refine O9 (sp:=nR) (P:=RG 372 σ) rfl (by simp) rfl rfl ?_ ?_
  .intro p j v;simp only[lf,lr,lu]at j;subst j;exact u _ g i
  .exact y
structure In3 (σ:Ab):Prop where
 iv:nr σ
 md:σ.mode=3
 sh:∃h d,σ.gG=[some h,some d]/\σ.head=some d
def In3.ms (h:In3 σ):MS σ:=by
 have⟨x,d,h1,h2⟩:=h.sh;exact .inl (.inr (.inr (.inl ⟨h.md,x,d,h1,h2⟩)))
theorem In3.ne (h:In3 σ):σ.gG≠[]:=by have⟨x,d,h1,_⟩:=h.sh;grind
theorem In3.pop (h:In3 σ):In4 {σ.pop with mode:=4}/\Lm σ {σ.pop with mode:=4}:=by
 have⟨x,d,h1,h2⟩:=h.sh;have⟨g1,g2⟩:=J9 h.iv (by grind);refine⟨⟨g1.nD rfl rfl rfl rfl rfl rfl rfl,rfl,x,d,?_,h2⟩,⟨rfl,rfl,rfl,rfl,lU _,λ_ h=> .inl h⟩⟩
 grind[Ab.pop]
theorem GV (g:nr σ) (e:σ.gG≠[]) (i:mx σ t) (b:Bool) (q:wt σ < 998000) (A:3<=σ.mode) (B:HS σ.mode σ.gG σ.head):RG 1 σ ((oG t b>>=λ_=>(Pure.pure ():M Unit)) σ):=by
 refine RG.tail ?_;have k:=GS g e i b q;revert k;cases oG t b σ with
 |ok u σ2=>
  rintro⟨v,x,y,z,C,⟨j,E,F⟩,G,H⟩;refine⟨v,.inr (.inl ⟨z,by omega,?_,?_⟩),x,y⟩
  .have:0 < σ.gG.length:=List.length_pos_iff.2 e
   grind
  grind
 |stop c p=>exact λh=>h
 |stuck=>simp
def yq (h:nr σ) (e:σ.gG≠[]) (g:MS σ) (i:t.chars.size<=100) (j:wt σ < 999000):RG 101 σ (kC t σ):=
 RG.mono (c:=t.chars.size+1) ((po h e t (by omega)).rg g (λ_ q=>q.gG)) (by omega)
def VK (E:4*64+8<=n) (t:gO) (g:qc t) (h:In3 σ) (i:zo σ t) (G:wt σ < 997000) (C:σ.waiting.length < 4000):RG 373 σ (ie false (n+2) 3 t σ):=by
 have⟨g4,gl⟩:=h.pop;have y:∀t,qc t->zo σ t->RG 373 σ (n4 (ie false (n+1)) t σ):=by
  intro t g i;have A:=RG.tail (VL E t g g4 (λF=>i F) G C);exact RG.from (c1:=372) (c2:=0) A gl (gW _) (λ_ h=>h) (nW (jF rfl)) (by omega)
 have z:RG 373 σ ((Pure.pure ():M Unit) σ):=(rP h.iv h.ms).mono (by omega);have j:HS σ.mode σ.gG σ.head:=by
  have⟨x,d,A,h2⟩:=h.sh;exact .inr (.inr (.inl ⟨h.md,x,d,A,h2⟩))
 have⟨a,b,kk,gM⟩:=t;cases kk with
 |lost=>exact absurd rfl g.nl
 |jM s=>
  refine C6 (sp:=mG) (P:=RG 373 σ) rfl rfl rfl ?_ ?_
  .exact(yq h.iv h.ne h.ms g.sz (by omega)).mono (by omega)
  .exact y _ g i
 |gR s=>
  refine kT g.nl (sp:=mG) (P:=RG 373 σ) rfl rfl ?_;show RG 373 σ (tQ 105 true _ σ);rw[sX];exact RG.mono (c:=1) (wZ h.iv mh (xl h.iv h.ne) _ (by omega) h.ms) (by omega)
 |iy s q=>exact kT g.nl (sp:=mG) (P:=RG 373 σ) rfl rfl z
 |iR=>exact kT g.nl (sp:=mG) (P:=RG 373 σ) rfl rfl (y _ g i)
 |start nm=>
  have v:mx σ ⟨a,b,.start nm,gM⟩:=i.tag rfl;refine IA (sp:=mG) (P:=RG 373 σ) rfl (by simp) rfl rfl ?_ ?_
  .intro p u B;simp only[lf,lr,lu]at u;rcases u with rfl|rfl|rfl|rfl|rfl
   all_goals dsimp only at B|-
   .exact(GV h.iv h.ne v true (by omega) (by rw[h.md];omega) j).mono (by omega)
   .exact(GV h.iv h.ne v false (by omega) (by rw[h.md];omega) j).mono (by omega)
   .exact RG.mono (c:=1) ((qW h.iv h.ne (by omega) _ v.tag v.fr).rg h.ms (λ_ q=>q.1)) (by omega)
   .have e:=LC B;subst e;exact(Ok n a b gM h.iv h.ne v.fr h.ms).mono (by omega)
   .exact z
  .exact y _ g i
 |stop nm=>
  refine O9 (sp:=mG) (P:=RG 373 σ) rfl (by simp) rfl rfl ?_ ?_
  .intro p u B;simp only[lf,lr,lu]at u;rcases u with rfl|rfl
   .exact y _ g i
   .exact⟨g4.iv,g4.ms,gl,j7 (nW (jF rfl)) (Ai _ _)⟩
  .exact z
structure In2 (σ:Ab):Prop where
 iv:nr σ
 md:σ.mode=2
 sh:∃h,σ.gG=[some h]
def In2.ms (h:In2 σ):MS σ:=by
 have⟨x,h1⟩:=h.sh;exact .inl (.inr (.inl ⟨h.md,x,h1⟩))
theorem In2.ne (h:In2 σ):σ.gG≠[]:=by have⟨x,h1⟩:=h.sh;grind
theorem jK.adg {r : Nat->Nat} (h:jK r σ) (i:jX σ d gZ) (j:∀x,σ.gG.head?=some (some x)->r x < r d):jK r {σ with head:=some d}:=
 ⟨⟨h.oT.up,h.oT.dn,h.oT.nd,h.oT.kd⟩,⟨h.ur.jl,h.ur.gG,λg x e q=>by grind⟩,h.gG,h.act,λg e=>by cases e;exact i,h.form,h.Mr,h.x9,h.AC,h.Qc,h.SU,h.xX⟩
theorem GR (h:In2 σ) (own:Bool) (gM:lZ) (hf:own=true->σ.fresh=true) (hw:wt σ < 998000) {k:M Unit} (U:∀v,In3 v->Lm σ v->v.waiting=σ.waiting->wt v<=wt σ+1->(own=false->v.fresh=σ.fresh)->RG c v (k v)):RG (c+1) σ ((sF own gM>>=λ_=>k) σ):=by
 have⟨x,ho⟩:=h.sh;have⟨r,hr⟩:=h.iv;have⟨B,hB⟩:=AV r σ.nodes.length;have Z:x < σ.nodes.length:=hr.FL (by grind);have C:∀(y:lZ) (A:Bool),(own=false->A=σ.fresh)->tX gZ own gM σ= .ok σ.nodes.length (σ.pN (.el {name:=gZ,ib:=y,jl:=none,kids:=[]}) A)->RG (c+1) σ ((sF own gM>>=λ_=>k) σ):=by
  intro y A G N;have⟨g1,g2⟩:=hr.new gZ y A (B+1);obtain⟨g,q⟩:∃g,g=σ.pN (.el {name:=gZ,ib:=y,jl:=none,kids:=[]}) A:=⟨_,rfl⟩;rw[<-q]at g1 g2 N;have E:g.ij σ.nodes.length=some {name:=gZ,ib:=y,jl:=none,kids:=[]}:=by rw[q];exact Ab.wy
  have o1:g.gG=σ.gG:=by rw[q];rfl
  have w1:wt g=wt σ:=by rw[q];exact Fb _ _ _
  have T:=g1.adg (d:=σ.nodes.length) ⟨_,E,rfl⟩ (by
   grind[xP])
  have I:some σ.nodes.length∉({g with head:=some σ.nodes.length}:Ab).gG:=by
   show some σ.nodes.length∉g.gG;rw[o1];intro V;have:=hr.FL (i:=σ.nodes.length) V;omega
  have H:=ML (σ:={g with head:=some σ.nodes.length}) ⟨_,T⟩ (j:=σ.nodes.length) E rfl rfl I (by grind) (by show wt g < _;omega);show RG (c+1) σ (((tX gZ own gM>>=λe=>xA (λσ=>{σ with head:=some e})>>=λ_=>mn e>>=λ_=>jS 3>>=λ_=>(Pure.pure ():M Unit))>>=λ_=>k) σ);rw[M.gE,M.gE,N];dsimp only;rw[M.gE];have X:xA (λF:Ab=>{F with head:=some σ.nodes.length}) g= .ok () {g with head:=some σ.nodes.length}:=rfl;rw[X];dsimp only;rw[M.gE];revert H;cases mn σ.nodes.length {g with head:=some σ.nodes.length} with
  |ok u σ2=>
   rintro⟨i2,z,w2,Q⟩;dsimp only;have i3:In3 {σ2 with mode:=3}:=⟨i2.nD rfl rfl rfl rfl rfl rfl rfl,rfl,x,σ.nodes.length,by
    show σ2.gG=_;rw[Q.gG]
    grind,z.head⟩
   have K:σ2.waiting=σ.waiting:=by rw[z.waiting];show g.waiting=_;rw[q];rfl
   have O:Lm σ {σ2 with mode:=3}:=⟨z.gS.trans g2.gS,z.qv.trans g2.qv,z.rZ.trans g2.rZ,z.pG.trans g2.pG,by grind,by grind⟩;have Y:wt σ2<=wt g+1:=w2;have S:=U {σ2 with mode:=3} i3 O K (by grind[wt]) (λJ=>by
    show σ2.fresh=_;rw[Q.fresh];show g.fresh=_;rw[q];exact G J)
   exact RG.from (c1:=c) (c2:=1) (σ1:={σ2 with mode:=3}) S O (by grind) (by grind) (by grind[wt]) (gW _)
  |stop e p=>exact λh=>Ah h g2.gS
  |stuck=>simp[jE]
 cases own with
 |true=>
  refine C gM false (λh=>by cases h) ?_
  grind[tX]
 |false=>exact C [] σ.fresh (λ_=>rfl) rfl
theorem VJ (E:4*64+8<=n) (t:gO) (g:qc t) (h:In2 σ) (j:zo σ t) (J:wt σ < 996000) (G:σ.waiting.length < 4000):RG 374 σ (ie false (n+3) 2 t σ):=by
 have x:∀t,qc t->zo σ t->RG 374 σ (tA (ie false (n+2)) t σ):=by
  intro t g j;refine GR (c:=373) h false [] (λh=>by cases h) (by omega) (k:=kZ (ie false (n+2)) t>>=λ_=>(Pure.pure ():M Unit)) ?_;intro i u H I w' A;have C:=VK E t g u (λF=>(A rfl).trans (j F)) (by omega) (by grind);refine RG.tail ?_;show RG 373 i (ie false (n+2) i.mode t i);rw[u.md];exact C
 have y:RG 374 σ ((Pure.pure ():M Unit) σ):=(rP h.iv h.ms).mono (by omega);have⟨a,b,kk,gM⟩:=t;cases kk with
 |lost=>exact absurd rfl g.nl
 |jM s=>
  refine C6 (sp:=mV) (P:=RG 374 σ) rfl rfl rfl ?_ ?_
  .exact y
  .exact x _ g j
 |gR s=>
  refine kT g.nl (sp:=mV) (P:=RG 374 σ) rfl rfl ?_;show RG 374 σ (tQ 105 true _ σ);rw[sX];exact RG.mono (c:=1) (wZ h.iv mh (xl h.iv h.ne) _ (by omega) h.ms) (by omega)
 |iy s q=>exact kT g.nl (sp:=mV) (P:=RG 374 σ) rfl rfl y
 |iR=>exact kT g.nl (sp:=mV) (P:=RG 374 σ) rfl rfl (x _ g j)
 |start nm=>
  have B:mx σ ⟨a,b,.start nm,gM⟩:=j.tag rfl;refine IA (sp:=mV) (P:=RG 374 σ) rfl (by simp) rfl rfl ?_ ?_
  .intro p v z;simp only[lf,lr,lu]at v;rcases v with rfl|rfl
   all_goals dsimp only at z|-
   .refine RG.mono (c:=1) (GR (c:=0) h true gM (λ_=>B.fr) (by omega) (k:=(Pure.pure ():M Unit)) ?_) (by omega);intro i u H I w' A;exact rP u.iv u.ms
   .have e:=LC z;subst e;exact(Ok (n+1) a b gM h.iv h.ne B.fr h.ms).mono (by omega)
  .exact x _ g j
 |stop nm=>
  refine O9 (sp:=mV) (P:=RG 374 σ) rfl (by simp) rfl rfl ?_ ?_
  .intro p v z;simp only[lf,lr,lu]at v;subst v;exact x _ g j
  .exact y
structure In1 (σ:Ab):Prop where
 iv:nr σ
 md:σ.mode<=1
 op:σ.gG=[]
 hd:σ.head=none
def In1.ms (h:In1 σ):MS σ:= .inl (.inl ⟨h.md,h.op,h.hd⟩)
theorem GQ (h:In1 σ) (own:Bool) (gM:lZ) (T:own=true->σ.fresh=true) (U:wt σ < 998000) {k:M Unit} (N:∀j,In2 j->Lm σ j->j.waiting=σ.waiting->wt j<=wt σ+1->(own=false->j.fresh=σ.fresh)->RG c j (k j)):RG (c+1) σ ((sE own gM>>=λ_=>k) σ):=by
 have⟨r,hr⟩:=h.iv;have⟨B,hB⟩:=AV r σ.nodes.length;have⟨e0,he0⟩:=Option.isSome_iff_exists.1 hr.xX;have z:=Ab.iq he0;have v:∀(q:lZ) (u:Bool),(own=false->u=σ.fresh)->tX fY own gM σ= .ok σ.nodes.length (σ.pN (.el {name:=fY,ib:=q,jl:=none,kids:=[]}) u)->RG (c+1) σ ((sE own gM>>=λ_=>k) σ):=by
  intro q u A G;have⟨g1,g2⟩:=hr.new fY q u (B+1);obtain⟨i,g⟩:∃i,i=σ.pN (.el {name:=fY,ib:=q,jl:=none,kids:=[]}) u:=⟨_,rfl⟩;rw[<-g]at g1 g2 G;have y:i.ij σ.nodes.length=some {name:=fY,ib:=q,jl:=none,kids:=[]}:=by rw[g];exact Ab.wy
  have x:i.ij 0=some e0:=by rw[g];show(σ.add _).ij 0=_;rw[Ab.vT z];exact he0
  have X:wt i=wt σ:=by rw[g];exact Fb _ _ _
  have Q:i.gG=[]:=by rw[g];exact h.op
  have K:C8 i= .ok (0,e0.kids.length) i:=by unfold C8 jC;rw[x]
  have⟨σ2,q1,q2,q3,q4,q5,q6,q7,q8,q9,q10⟩:=g1.put (pl:=(0,e0.kids.length)) ⟨e0,x,gW _⟩ y rfl (by
   grind[xP]) (by omega)
  have⟨e2,he2,hn2,_⟩:=q9 _ _ y;show RG (c+1) σ (((tX fY own gM>>=λe=>C8>>=λS=>nT S e>>=λ_=>ya (some e)>>=λ_=>jS 2>>=λ_=>(Pure.pure ():M Unit))>>=λ_=>k) σ);rw[M.gE,M.gE,G];dsimp only;rw[M.gE,K];dsimp only;rw[M.gE,q1];dsimp only;rw[M.gE];have V:σ2.gG=[]:=q5.trans Q;have F:=g2.trans q3;unfold ya
  by_cases H:σ2.qv<=σ2.gG.length
  .rw[gJ H];exact F.gS
  .rw[gV H,gJ (show σ2.mw (some σ.nodes.length)=true by grind[Ab.mw])];dsimp only;have⟨p1,p2⟩:=q2.push he2 (by grind) (by omega) (.inr ⟨hn2,by rw[F.head];exact h.hd⟩);have E:σ2.waiting=σ.waiting:=F.waiting;have O:In2 {({σ2 with gG:=σ2.gG++[some σ.nodes.length]}:Ab)with mode:=2}:=⟨nr.nD ⟨_,p1⟩ rfl rfl rfl rfl rfl rfl rfl,rfl,σ.nodes.length,by grind⟩;have I:Lm σ {({σ2 with gG:=σ2.gG++[some σ.nodes.length]}:Ab)with mode:=2}:=⟨F.gS,F.qv,F.rZ,F.pG,by grind,by grind⟩;have J:=N _ O I E (by grind[wt]) (λC=>by
    show σ2.fresh=_;rw[q7,g];exact A C)
   exact RG.from (c1:=c) (c2:=1) J I (by grind) (by grind) (by grind[wt]) (gW _)
 cases own with
 |true=>
  refine v gM false (λh=>by cases h) ?_
  grind[tX]
 |false=>exact v [] σ.fresh (λ_=>rfl) rfl
theorem VI (A:4*64+8<=n) (t:gO) (e:qc t) (h:In1 σ) (i:zo σ t) (I:wt σ < 995000) (F:σ.waiting.length < 4000):RG 375 σ (ie false (n+4) 1 t σ):=by
 have v:∀t,qc t->zo σ t->RG 375 σ (tz (ie false (n+3)) t σ):=by
  intro t e i;refine GQ (c:=374) h false [] (λh=>by cases h) (by omega) (k:=kZ (ie false (n+3)) t>>=λ_=>(Pure.pure ():M Unit)) ?_;intro g j G H w' y;have z:=VJ A t e j (λC=>(y rfl).trans (i C)) (by omega) (by grind);refine RG.tail ?_;show RG 374 g (ie false (n+3) g.mode t g);rw[j.md];exact z
 have x:RG 375 σ ((Pure.pure ():M Unit) σ):=(rP h.iv h.ms).mono (by omega);have⟨a,b,kk,gM⟩:=t;cases kk with
 |lost=>exact absurd rfl e.nl
 |jM s=>
  refine C6 (sp:=mU) (P:=RG 375 σ) rfl rfl rfl ?_ ?_
  .exact x
  .exact v _ e i
 |gR s=>
  refine kT e.nl (sp:=mU) (P:=RG 375 σ) rfl rfl ?_;show RG 375 σ (tQ 99 false _ σ);rw[I8];exact RG.mono (c:=1) (wZ h.iv (jC 0) (N3 h.iv) _ (by omega) h.ms) (by omega)
 |iy s q=>exact kT e.nl (sp:=mU) (P:=RG 375 σ) rfl rfl x
 |iR=>exact kT e.nl (sp:=mU) (P:=RG 375 σ) rfl rfl (v _ e i)
 |start nm=>
  have E:mx σ ⟨a,b,.start nm,gM⟩:=i.tag rfl;refine IA (sp:=mU) (P:=RG 375 σ) rfl (by simp) rfl rfl ?_ ?_
  .intro p u B;simp only[lf,lr,lu]at u;subst u;refine RG.mono (c:=1) (GQ (c:=0) h true gM (λ_=>E.fr) (by omega) (k:=(Pure.pure ():M Unit)) ?_) (by omega);intro g j G H w' y;exact rP j.iv j.ms
  .exact v _ e i
 |stop nm=>
  refine O9 (sp:=mU) (P:=RG 375 σ) rfl (by simp) rfl rfl ?_ ?_
  .intro p u B;simp only[lf,lr,lu]at u;subst u;exact v _ e i
  .exact x
def uZ:nc:={blank:= .nothing,gR:= .gR 99 false,iy:= .ik 100,ir:= .ik 101}
def In1.q (h:In1 σ) (q:Bool):In1 {σ with jV:=q,mode:=1}:=⟨h.iv.nD rfl rfl rfl rfl rfl rfl rfl,gW _,h.op,h.hd⟩
theorem ada (F:4*64+8<=n) (t:gO) (e:qc t) (h:In1 σ) (i:zo σ t) (H:wt σ < 995000) (y:σ.waiting.length < 4000):RG 376 σ (ie false (n+5) 0 t σ):=by
 have j:∀t,qc t->zo σ t->RG 376 σ (mc (ie false (n+4)) t σ):=by
  intro t e i;have v:=RG.tail (VI F t e (h.q true) (λG=>i G) H y);exact RG.from (c1:=375) (c2:=0) v ⟨rfl,rfl,rfl,rfl,lU _,λ_ h=> .inl h⟩ (gW _) (λ_ h=>h) (nW (jF rfl)) (by omega)
 have B:RG 376 σ ((Pure.pure ():M Unit) σ):=(rP h.iv h.ms).mono (by omega);have⟨a,b,kk,gM⟩:=t;cases kk with
 |lost=>exact absurd rfl e.nl
 |jM s=>
  refine C6 (sp:=uZ) (P:=RG 376 σ) rfl rfl rfl ?_ ?_
  .exact B
  .exact j _ e i
 |gR s=>
  refine kT e.nl (sp:=uZ) (P:=RG 376 σ) rfl rfl ?_;show RG 376 σ (tQ 99 false _ σ);rw[I8];exact RG.mono (c:=1) (wZ h.iv (jC 0) (N3 h.iv) _ (by omega) h.ms) (by omega)
 |iy s q=>
  refine kT e.nl (sp:=uZ) (P:=RG 376 σ) rfl rfl ?_;have⟨z,v,h2⟩:=N3 h.iv;have C:=FR h.iv h2 (.dt s) .dt (.inr ⟨s,rfl,rfl⟩) (by omega);show RG 376 σ ((jC 0>>=λz=>pz z (.dt s) .dt>>=λ_=>(do xA λσ=>{σ with jV:=q||!la s fY};jS 1;return ():M Unit)) σ);rw[M.gE,v];dsimp only;rw[M.gE];revert C;cases pz z (.dt s) .dt σ with
  |ok u σ1=>
   rintro⟨I,g,K,J⟩;have E:In1 σ1:=⟨I,by rw[g.mode];exact h.md,by rw[J.gG];exact h.op,by rw[g.head];exact h.hd⟩;have A:=E.q (q||!la s fY);exact⟨A.iv,A.ms,⟨g.gS,g.qv,g.rZ,g.pG,by show σ1.waiting.length<=_;rw[g.waiting];omega,by show∀x∈σ1.waiting,_;rw[g.waiting];grind⟩,by grind[wt]⟩
  |stop c p=>exact λh=>h
  |stuck=>simp[jE]
 |iR=>exact kT e.nl (sp:=uZ) (P:=RG 376 σ) rfl rfl (j _ e i)
 |start nm=>exact kT e.nl (sp:=uZ) (P:=RG 376 σ) rfl rfl (j _ e i)
 |stop nm=>exact kT e.nl (sp:=uZ) (P:=RG 376 σ) rfl rfl (j _ e i)
def S9 (C:4*64+8<=n) (t:gO) (u:qc t) (q:nr σ) (E:HS σ.mode σ.gG σ.head) (j:zo σ t) (y:wt σ < 995000) (g:σ.waiting.length < 4000):RG 380 σ (ie false (n+5) σ.mode t σ):=by
 rcases E with⟨h,i,z⟩|⟨h,i⟩|⟨h,i⟩|⟨h,i⟩|⟨h,i⟩
 .have v:In1 σ:=⟨q,h,i,z⟩;rcases mO σ.mode 1 with B|B
  .have e:σ.mode=0:=by omega
   rw[e];exact(ada C t u v j y g).mono (by omega)
  .have e:σ.mode=1:=by omega
   rw[e];exact(VI (n:=n+1) (by omega) t u v j y g).mono (by omega)
 .rw[h];exact(VJ (n:=n+2) (by omega) t u ⟨q,h,i⟩ j (by omega) g).mono (by omega)
 .rw[h];exact(VK (n:=n+3) (by omega) t u ⟨q,h,i⟩ j (by omega) g).mono (by omega)
 .rw[h];exact(VL (n:=n+4) (by omega) t u ⟨q,h,i⟩ j (by omega) g).mono (by omega)
 .have A:σ.gG.length<=64:=by obtain⟨r,x⟩:=q;exact j7 x.x9 x.Qc
  exact(NB 64 (n+5) (by omega) t σ ⟨u,⟨q,i,h⟩,j,by omega,g,A⟩).rg.mono (by omega)
def adb (G:4*64+8<=n) (t:gO) (g:qc t) (x:nr σ) (F:σ.mode=5) (E:3<=σ.kept) (v:2<=σ.gG.length) (y:HS σ.kept σ.gG.dropLast σ.head) (I:zo σ t) (H:wt σ < 995000) (z:σ.waiting.length < 4000):RG 380 σ (ie false (n+6) 5 t σ):=by
 have i:MS σ:= .inr (.inl ⟨F,E,v,y⟩);have j:σ.gG≠[]:=by intro e;rw[e]at v;simp at v
 have⟨g1,g2⟩:=J9 x v;have A:nr {σ.pop with mode:=σ.kept}:=g1.nD rfl rfl rfl rfl rfl rfl rfl;have B:Lm σ {σ.pop with mode:=σ.kept}:=⟨rfl,rfl,rfl,rfl,lU _,λ_ h=> .inl h⟩;have u:RG 380 σ (zC σ):=⟨A,.inl y,B,j7 (nW (jF rfl)) (Ai _ _)⟩;have⟨a,b,kk,gM⟩:=t;cases kk with
 |lost=>exact absurd rfl g.nl
 |jM s=>
  refine C6 (sp:=tF) (P:=RG 380 σ) rfl rfl rfl ?_ ?_
  .exact(yq x j i g.sz (by omega)).mono (by omega)
  .exact(yq x j i g.sz (by omega)).mono (by omega)
 |gR s=>exact kT g.nl (sp:=tF) (P:=RG 380 σ) rfl rfl u
 |iy s q=>exact kT g.nl (sp:=tF) (P:=RG 380 σ) rfl rfl u
 |start nm=>exact kT g.nl (sp:=tF) (P:=RG 380 σ) rfl rfl u
 |stop nm=>exact kT g.nl (sp:=tF) (P:=RG 380 σ) rfl rfl u
 |iR=>
  refine kT g.nl (sp:=tF) (P:=RG 380 σ) rfl rfl ?_;have C:=RG.tail (S9 G ⟨a,b,.iR,gM⟩ g (σ:={σ.pop with mode:=σ.kept}) A y (λh=>by cases h) H z);exact RG.from (c1:=380) (c2:=0) (σ1:={σ.pop with mode:=σ.kept}) C B (gW _) (λ_ h=>h) (nW (jF rfl)) (by omega)
def Nz (c:Nat) (σ:Ab) (r:qI Unit):Prop:=match r with
 | .ok _ σ'=>nr σ'/\σ'.gG≠[]/\σ'.mode=σ.mode/\σ'.kept=σ.kept/\σ'.gS=σ.gS/\σ'.qv=σ.qv/\σ'.rZ=σ.rZ/\σ'.pG=σ.pG/\σ'.fresh=σ.fresh/\wt σ'<=wt σ+c
 | .stop _ p=>p=σ.gS
 | .stuck=>False
theorem Nz.bind {c1 c2 : Nat} {m k:M Unit} (h:Nz c1 σ (m σ)) (y:∀g,nr g->g.gG≠[]->wt g<=wt σ+c1->Nz c2 g (k g)) (H:c1+c2<=c):Nz c σ ((m>>=λ_=>k) σ):=by
 rw[M.gE];revert h;cases m σ with
 |ok u σ1=>
  rintro⟨j,q,z,A,B,C,E,F,G,i⟩;have x:=y σ1 j q i;dsimp only;revert x;cases k σ1 with
  |ok v σ2=>
   grind[Nz]
  |stop e p=>grind[Nz]
  |stuck=>simp[Nz]
 |stop e p=>simp[Nz]
 |stuck=>simp[Nz]
def jE.kw {Q : Unit->Ab->Prop} (h:jE c σ r Q) (i:σ.gG≠[]) (j:∀g,Q () g->g.fresh=σ.fresh):Nz c σ r:=by
 cases r with
 |ok a g=>
  have⟨h1,f,h3,h4⟩:=h;exact⟨h1,f.ne i,f.mode,f.kept,f.gS,f.qv,f.rZ,f.pG,j g h4,h3⟩
 |stop e p=>exact h
 |stuck=>exact h
def I4 (h:nr σ) (g:σ.gG≠[]) (y:t.chars.size<=100) (z:wt σ < 999000):jE 200 σ (oh t σ) (λ_ e=>e.fresh=σ.fresh):=by
 unfold oh;split
 .exact⟨h,Fx.refl _,Ai _ _,rfl⟩
 .refine jE.bind (oy h g (by omega)) (c2:=101) ?_ (by omega);rintro _ v j i A ⟨_,_,u⟩;refine jE.iL (Q:=λ_ e=>e.fresh=σ.fresh) ((po j (i.ne g) t (by omega)).mono (by omega) ?_);intro _ x _ _ q;exact q.fresh.trans u
def Lz (h:nr σ) (i:σ.gG≠[]) (x:Nat×Nat×gz) (q:x.2.2.size<=100) (v:wt σ < 999000):Nz 200 σ (uK (ie true (n+1)) (qQ x) σ):=by
 have e:ie true (n+1) 6 (qQ x)=oh (qQ x):=iD true n 6 _ (by simp[qQ]) ln rfl (.ik 120) (by
  unfold qQ kj;dsimp only;split<;>rfl)
 have j:=I4 (σ:={σ with iT:=true}) (t:=qQ x) (h.nD rfl rfl rfl rfl rfl rfl rfl) i q v;show Nz 200 σ ((ie true (n+1) 6 (qQ x)>>=λ_=>xA (λσ=>{σ with iT:=false})>>=λ_=>(Pure.pure ():M Unit)) {σ with iT:=true});rw[e,M.gE];revert j;cases oh (qQ x) {σ with iT:=true} with
 |ok u σ1=>
  rintro⟨y,g,A,z⟩;exact⟨y.nD rfl rfl rfl rfl rfl rfl rfl,g.ne i,g.mode,g.kept,g.gS,g.qv,g.rZ,g.pG,z,A⟩
 |stop c p=>exact λh=>h
 |stuck=>simp[jE]
theorem Eb:∀(e:List (Nat×Nat×gz)) {σ:Ab},nr σ->σ.gG≠[]->(∀x∈e,x.2.2.size<=100)->wt σ+200*e.length < 999000->Nz (200*e.length) σ (uL (ie true (n+1)) e σ)
 |[],σ,h,hne,_,_=>⟨h,hne,rfl,rfl,rfl,rfl,rfl,rfl,rfl,Ai _ _⟩
 |x::e,σ,h,hne,hs,hw=>by
  simp only[uk]at hw;refine Nz.bind (m:=uK (ie true (n+1)) (qQ x)) (k:=uL (ie true (n+1)) e) (Lz h hne x (hs x (yk ..)) (by omega)) (c2:=200*e.length) ?_ (by grind);intro q g j w';exact Eb e g j (λy i=>hs y (si _ i)) (by omega)
theorem Ei:∀(e:List (Nat×Nat×gz)) {σ:Ab},nr σ->σ.gG≠[]->(∀x∈e,x.2.2.size<=100)->wt σ+200*e.length < 999000->Nz (200*e.length) σ (uN e σ)
 |[],σ,h,hne,_,_=>⟨h,hne,rfl,rfl,rfl,rfl,rfl,rfl,rfl,Ai _ _⟩
 |x::e,σ,h,hne,hs,hw=>by
  simp only[uk]at hw;have z:(qQ x).chars.size<=100:=hs x (yk ..);have i:Nz 200 σ (kC (qQ x) σ):=((po h hne (qQ x) (by omega)).mono (c':=200) (by omega) (λ_ _ _ _ h=>h)).kw hne (λ_ q=>q.fresh);refine Nz.bind (m:=kC (qQ x)) (k:=uN e) i (c2:=200*e.length) ?_ (by grind);intro v g u w';exact Ei e g u (λy j=>hs y (si _ j)) (by omega)
def Lf (h:nr σ) (e:σ.gG≠[]) (g:∀x∈σ.waiting,x.2.2.size<=100) (i:wt σ+200*σ.waiting.length < 999000):Nz (200*σ.waiting.length) σ (qN (ie true (n+1)) σ):=by
 unfold qN;split
 .exact Eb σ.waiting h e g i
 .exact Ei σ.waiting h e g i
def Lc (σ:Ab):Nat:=wt σ+200*σ.waiting.length
structure AM (σ:Ab):Prop where
 iv:nr σ
 ms:MS σ
 wz:∀x∈σ.waiting,x.2.2.size<=100
def RT (c:Nat) (σ:Ab) (r:qI Unit):Prop:=match r with
 | .ok _ σ'=>AM σ'/\σ'.gS=σ.gS/\σ'.qv=σ.qv/\σ'.rZ=σ.rZ/\σ'.pG=σ.pG/\σ'.waiting.length<=σ.waiting.length+1/\Lc σ'<=Lc σ+c
 | .stop _ p=>p=σ.gS
 | .stuck=>False
def RG.rt (h:RG c σ r) (i:∀x∈σ.waiting,x.2.2.size<=100):RT (c+200) σ r:=by
 cases r with
 |ok a σ'=>
  have⟨h1,h2,h3,h4⟩:=h;refine⟨⟨h1,h2,λx g=>(h3.wz x g).elim (i x) id⟩,h3.gS,h3.qv,h3.rZ,h3.pG,h3.wt,?_⟩;unfold Lc;have:=h3.wt;omega
 |stop e p=>exact h
 |stuck=>exact h
theorem ade (hn:4*64+8<=n) (t:gO) (i:qc t) (g:AM σ) (hm:σ.mode=8) (E:σ.kept=7\/σ.kept=11\/σ.kept=12) (B:σ.gG≠[]) (j:zo σ t) (F:Lc σ < 990000) (ab:σ.waiting.length < 4000):RT 580 σ (ie false (n+6) 8 t σ):=by
 have a0:MS σ:=g.ms;have A:∀t,qc t->zo σ t->RT 580 σ (oU (ie true (n+5)) (ie false (n+5)) t σ):=by
  intro t i j;have V:=Lf (n:=n+4) g.iv B g.wz (by unfold Lc at F;omega);unfold oU;rw[M.gE];revert V;cases qN (ie true (n+4+1)) σ with
  |ok u σ1=>
   rintro⟨G,I,a3,J,C,K,N,O,Q,H⟩;dsimp only;have i2:nr {σ1 with waiting:=[],mode:=σ1.kept}:=G.nD rfl rfl rfl rfl rfl rfl rfl;have hb:qP σ1.kept=true:=by rw[J];rcases E with e|e|e<;>(rw[e];rfl)
   have X:=S9 hn t i (σ:={σ1 with waiting:=[],mode:=σ1.kept}) i2 (.inr (.inr (.inr (.inr ⟨hb,I⟩)))) (λhs=>Q.trans (j hs)) (by show wt σ1 < _;unfold Lc at F;omega) (by simp);have Y:=RG.tail X;show RT 580 σ ((kZ (ie false (n+5)) t>>=λ_=>(Pure.pure ():M Unit)) {σ1 with waiting:=[],mode:=σ1.kept});have Z:RG 380 {σ1 with waiting:=[],mode:=σ1.kept} ((kZ (ie false (n+5)) t>>=λ_=>(Pure.pure ():M Unit)) {σ1 with waiting:=[],mode:=σ1.kept}):=Y;revert Z;cases(kZ (ie false (n+5)) t>>=λ_=>(Pure.pure ():M Unit)) {σ1 with waiting:=[],mode:=σ1.kept} with
   |ok v σ2=>
    rintro⟨S,T,z,U⟩;have hl:σ2.waiting.length<=0+1:=z.wt;refine⟨⟨S,T,λx y=>(z.wz x y).elim (λh=>by cases h) id⟩,z.gS.trans C,z.qv.trans K,z.rZ.trans N,z.pG.trans O,by omega,?_⟩;have aa:wt σ2<=wt σ1+380:=U
    grind[Lc]
   |stop c p=>exact λh=>Ah h C
   |stuck=>simp[RG]
  |stop c p=>exact λh=>h
  |stuck=>simp[Nz]
 have⟨a,b,kk,gM⟩:=t;cases kk with
 |lost=>exact absurd rfl i.nl
 |jM s=>
  have KC:RT 580 σ (pr ⟨a,b,.jM s,gM⟩ σ):=by
   rw[Ep (by omega)];cases tU s with
   |true=>grind[RT]
   |false=>
    refine⟨⟨g.iv.nD rfl rfl rfl rfl rfl rfl rfl,.inr (.inr ⟨hm,E,B⟩),?_⟩,rfl,rfl,rfl,rfl,by simp,?_⟩
    .intro x y;rcases List.mem_append.1 (show x∈σ.waiting++[(a,b,s)]from y)with y|y
     .exact g.wz x y
     .rw[List.mem_singleton.1 y];exact i.sz
    .show wt σ+200*(σ.waiting++[(a,b,s)]).length<=_
     grind[Lc]
  exact C6 (sp:=lO) (P:=RT 580 σ) rfl rfl rfl KC KC
 |gR s=>exact kT i.nl (sp:=lO) (P:=RT 580 σ) rfl rfl (A _ i j)
 |iy s q=>exact kT i.nl (sp:=lO) (P:=RT 580 σ) rfl rfl (A _ i j)
 |start nm=>exact kT i.nl (sp:=lO) (P:=RT 580 σ) rfl rfl (A _ i j)
 |stop nm=>exact kT i.nl (sp:=lO) (P:=RT 580 σ) rfl rfl (A _ i j)
 |iR=>exact kT i.nl (sp:=lO) (P:=RT 580 σ) rfl rfl (A _ i j)
abbrev xf:Nat:=300
def aeJ (t:gO) (v:qc t) (g:AM σ) (u:zo σ t) (x:Lc σ < 990000) (e:σ.waiting.length < 4000):RT 580 σ (ie false xf σ.mode t σ):=by
 have z:wt σ < 990000:=by unfold Lc at x;omega
 rcases g.ms with h|⟨i,j,q,y⟩|⟨i,j,q⟩
 .exact(S9 (n:=295) (by omega) t v g.iv h u (by omega) e).rt g.wz
 .rw[i];exact(adb (n:=294) (by omega) t v g.iv i j q y u (by omega) e).rt g.wz
 .rw[i];exact ade (n:=294) (by omega) t v g i j q u x e
def RTk (σ:Ab) (t:gO) (r:qI Unit):Prop:=match r with
 | .ok _ σ'=>AM σ'/\σ'.qv=σ.qv/\σ'.rZ=σ.rZ/\σ'.pG=σ.pG/\σ'.waiting.length<=σ.waiting.length+1/\Lc σ'<=Lc σ+580
 | .stop _ p=>p=t.a
 | .stuck=>False
theorem adD (t:gO) (I:t.k= .lost\/qc t) (g:AM σ) (C:zo σ t) (G:Lc σ < 990000) (e:σ.waiting.length < 4000):RTk σ t (qJ (ie false xf) t σ):=by
 have H:t.k≠ .lost->RTk σ t ((if σ.behind&&la t.chars Cz then .ok () {σ with behind:=false,gS:=t.a} else kZ (ie false xf) t {σ with behind:=false,gS:=t.a}):qI Unit):=by
  intro E;have i:qc t:=I.resolve_left E;have j:AM {σ with behind:=false,gS:=t.a}:=⟨g.iv.nD rfl rfl rfl rfl rfl rfl rfl,g.ms,g.wz⟩;split
  .exact⟨j,rfl,rfl,rfl,lU _,Ai _ _⟩
  .have h:=aeJ t i j (λF=>C F) G e;show RTk σ t (ie false xf σ.mode t {σ with behind:=false,gS:=t.a});revert h;cases ie false xf ({σ with behind:=false,gS:=t.a}:Ab).mode t {σ with behind:=false,gS:=t.a} with
   |ok u σ'=>rintro⟨v,J,x,y,z,A,B⟩;exact⟨v,x,y,z,A,B⟩
   |stop c p=>exact λh=>h
   |stuck=>simp[RT]
 have⟨a,b,kk,gM⟩:=t;cases kk with
 |lost=>exact⟨g,rfl,rfl,rfl,lU _,Ai _ _⟩
 |jM s=>grind[qJ]
 |gR s=>grind[qJ]
 |iy s q=>grind[qJ]
 |start nm=>grind[qJ]
 |stop nm=>grind[qJ]
 |iR=>grind[qJ]
theorem Na (e g:List UInt8):∀(k:Nat) (s:List UInt8),(Lib.replaceK e g k s).length<=s.length+k*g.length
 |0,s=>by simp[Lib.replaceK]
 |k+1,s=>by
  rw[Lib.replaceK];split
  .omega
  .have h:=Na e g k (s.drop ((Lib.index s e).toNat+e.length))
   grind
theorem xj (s:gz):(pc s).size<=4*s.size+3:=by
 have e1:s.size=s.data.toList.length:=DE s;have e2:(pc s).size=(Lib.replaceAll s.data.toList (ByteArray.mk #[0]).data.toList (ByteArray.mk #[239,191,189]).data.toList).length:=by
  rw[DE];simp[pc]
 rw[e1,e2];unfold Lib.replaceAll Lib.replace;split
 .omega
 .have e:=Na (ByteArray.mk #[0]).data.toList (ByteArray.mk #[239,191,189]).data.toList (Lib.replaceNum s.data.toList (ByteArray.mk #[0]).data.toList (-1)) s.data.toList;have g:Lib.replaceNum s.data.toList (ByteArray.mk #[0]).data.toList (-1)=Lib.count s.data.toList (ByteArray.mk #[0]).data.toList:=by
   unfold Lib.replaceNum;rw[gJ (.inl (by decide))]
  have h:=Lib.count_le s.data.toList (ByteArray.mk #[0]).data.toList
  grind
def Ys:UR->Prop
 | .Y7 t=>t.size<=100
 | .Uw _ L=>L.length<=1024/\∀p∈L,p.2.size<=1048576
 | .fin _ L=>L.length<=1024/\∀p∈L,p.2.size<=1048576
 |_=>True
def Al (R:RC) (bg:Nat):AP->Prop
 | .stop=>True
 | .tok kd m=>bg < m/\m<=R.cs.size/\1<=vF kd/\(vF kd≠1->m=R.cs.size\/bt R.cs (m - 1)=62)/\Ys kd
def YY (h:pre (R.cs.extract ps R.cs.size) iW=true):bt R.cs ps=62:=by
 have:=Fm (j:=0) h (by decide);rw[Nat.add_zero]at this;exact this.trans rfl
theorem TN (h:ps<=R.cs.size):sd R ps=R.cs.size\/(ps < sd R ps/\bt R.cs (sd R ps - 1)=62):=by
 unfold sd taken;split
 .rename_i j;right;have E:ps<=scan (ju iW) R.cs ps:=tZ;have e:(ByteArray.mk #[62]).size=1:=rfl;rw[e];exact⟨by omega,by rw[SQ];exact YY j⟩
 .rename_i j;left;rcases mO (scan (ju iW) R.cs ps) R.cs.size with u|A
  .exfalso;apply j;have z:=ZO (bt_nonneg _ _) (bt_le _ _) (ac9 u);have C:(R.cs.extract (scan (ju iW) R.cs ps) R.cs.size).size=R.cs.size - scan (ju iW) R.cs ps:=by simp
   generalize scan (ju iW) R.cs ps=i at *;unfold pre;have v:(ByteArray.mk #[62]).size=1:=rfl;rw[v];have y:bt ((R.cs.extract i R.cs.size).extract 0 1) 0=62:=by
    rw[NV (by omega) (by omega),BA];rw[NV (by omega) (gW _),Nat.add_zero];exact z
   have g:((R.cs.extract i R.cs.size).extract 0 1).size=1:=by simp;omega
   rw[C];have F:(R.cs.extract i R.cs.size).extract 0 1=iW:=by
    generalize (R.cs.extract i R.cs.size).extract 0 1=X at y g;have⟨⟨l⟩⟩:=X
    match l,g with
    |[x],_=>
     have:(x.toNat:Int)=62:=y;have B:x=62:=by apply UInt8.toNat_inj.1;show x.toNat=62;omega
     rw[B]
   grind
  .have:=pW (q:=ju iW) h;omega
def Pn (h:∀x t,look x=some t->t.size<=16) (q:R.cs.size<=1024) (ps:Nat):(sU look lg R ps).size<=1048576:=by
 unfold sU;split
 .have e:=xj ⟨(vY look lg (nw R (mY R (mY R ps+1)))).toArray⟩;have g:=Bu (lg:=lg) h (nw R (mY R (mY R ps+1)));have i:=Dp (R:=R) (ps:=mY R (mY R ps+1));have j:(ByteArray.mk (vY look lg (nw R (mY R (mY R ps+1)))).toArray).size=(vY look lg (nw R (mY R (mY R ps+1)))).length:=by simp[ByteArray.size]
  omega
 .decide
theorem Me (h:∀x t,look x=some t->t.size<=16) (j:R.cs.size<=1024) {L : lZ} (g:∀p∈L,p.2.size<=1048576):∀p∈rV R look lg L ps,p.2.size<=1048576:=by
 unfold rV vN;split
 .exact g
 .intro p i;rcases List.mem_append.1 i with e|e
  .grind
  .obtain rfl:=List.mem_singleton.1 e;exact Pn h j _
theorem Sm (u:∀x t,look x=some t->t.size<=16) (y:R.cs.size<=1024):∀(n:Nat) {L:lZ} {ps m:Nat} {g:lZ},R.cs.size - ps<=n->mg R look lg L ps= .whole m g->L.length<=ps->(∀p∈L,p.2.size<=1048576)->ps < m/\m<=R.cs.size/\bt R.cs (m - 1)=62/\g.length<=m/\∀p∈g,p.2.size<=1048576:=by
 intro n
 induction n with
 |zero=>
  intro L ps m g v e;have j:=tE (R:=R) (ps:=ps);rw[mg,dif_neg (by omega)]at e;cases e
 |succ n ih=>
  intro L ps m g v e C i;have j:=tE (R:=R) (ps:=ps);rw[mg]at e;split at e
  .split at e
   .rename_i h q;obtain⟨rfl,rfl⟩:=IM.whole.inj e;exact⟨by omega,by omega,by rw[SQ];exact YY q,by omega,i⟩
   .split at e
    .cases e
    .have z:=xi (R:=R) (ps:=jj R ps);have A:=zg (R:=R) (ps:=kJ R (jj R ps));have B:=Hj (R:=R) (look:=look) (lg:=lg) (L:=L) (ps:=jj R ps);have:=ih (by omega) e (by omega) (Me u y i)
     grind
  grind
theorem Sn (i:∀x t,look x=some t->t.size<=16) (q:R.cs.size<=1024) {e : gz->lZ->UR} (g:bg < R.cs.size) (v:bg < ps) (j:∀L,1<=vF (e nm L)/\(L.length<=1024->(∀p∈L,p.2.size<=1048576)->Ys (e nm L))):Al R bg (uh R e nm (mg R look lg [] (zc R ps))):=by
 have u:=adz (R:=R) (ps:=ps);cases h:mg R look lg [] (zc R ps)with
 |stop=>trivial
 |lost=>exact⟨g,gW _,by decide,λ_=> .inl rfl,trivial⟩
 |whole m L=>
  have:=Sm i q _ (gW _) h (iN _) (by simp)
  grind[Al,uh]
def aa3 (g:∀x t,look x=some t->t.size<=16) (i:R.cs.size<=1024) (nm:gz) (e:bg < R.cs.size) (h:bg < ps):Al R bg (uh R .Uw nm (mg R look lg [] (zc R ps))):=Sn g i e h (λL=>⟨(by decide:1<=2),λa b=>⟨a,b⟩⟩)
def ZD (g:∀x t,look x=some t->t.size<=16) (i:R.cs.size<=1024) (nm:gz) (e:bg < R.cs.size) (h:bg < ps):Al R bg (uh R .fin nm (mg R look lg [] (zc R ps))):=Sn g i e h (λL=>⟨(by decide:1<=3),λa b=>⟨a,b⟩⟩)
def Fo (e:∀x t,look x=some t->t.size<=16) (j:bg < R.cs.size):Al R bg (wx R look lg bg):=by
 have g:=DP (look:=look) (lg:=lg) (s:=R.cs.extract bg R.cs.size);have i:=Gs (look:=look) (lg:=lg) (s:=R.cs.extract bg R.cs.size) (by simp;omega);have q:(R.cs.extract bg R.cs.size).size=R.cs.size - bg:=by simp
 exact⟨by omega,by omega,gW _,λh=>absurd rfl h,j7 (wX e) (by decide)⟩
theorem abb (i:∀x t,look x=some t->t.size<=16) (u:bg < R.cs.size):Al R bg (Aa R look lg bg):=by
 have j:=DP (look:=look) (lg:=lg) (s:=R.cs.extract bg R.cs.size);have q:=Gs (look:=look) (lg:=lg) (s:=R.cs.extract bg R.cs.size) (by simp;omega);have v:(R.cs.extract bg R.cs.size).size=R.cs.size - bg:=by simp
 unfold Aa;split
 .refine⟨by omega,by omega,gW _,λh=>absurd rfl h,?_⟩;have e:=xj (R.cs.extract bg (bg+1));have g:(R.cs.extract bg (bg+1)).size=1:=by simp;omega
  grind[Ys]
 .refine⟨by omega,by omega,gW _,λh=>absurd rfl h,?_⟩;have e:=xj (sC look lg (R.cs.extract bg R.cs.size));have g:=wX (look:=look) (lg:=lg) (s:=R.cs.extract bg R.cs.size) i
  grind[Ys]
def zH (q:bg < ps) (e:ps<=R.cs.size) (i:1<=vF k) (g:Ys k):Al R bg (.tok k (sd R ps)):=by
 have j:=ZK (R:=R) (ps:=ps);refine⟨by omega,Jw e,i,λ_=>?_,g⟩;rcases TN e with h|⟨_,h⟩
 all_goals omega
def Ur (g:∀x t,look x=some t->t.size<=16) (q:R.cs.size<=1024) (e:bg < R.cs.size) (i:bg < ps) (j:ps<=R.cs.size):Al R bg (nj R look lg bg ps):=by
 unfold nj;split
 .exact ZD g q _ e i
 .split
  .rename_i h;have:ps+1<=R.cs.size:=lN h j;exact⟨by omega,this,by decide,λ_=> .inr (by rw[SQ];exact YY h),trivial⟩
  .split
   .exact Fo g e
   .exact zH i j (show 1<=4 by decide) trivial
def Xx (i:∀x t,look x=some t->t.size<=16) (u:R.cs.size<=1024) (g:bg < R.cs.size) (q:bg < ps) (e:ps<=R.cs.size):Al R bg (rL R look lg bg ps):=by
 unfold rL;split
 .exact aa3 i u _ g q
 split
 .rename_i h;exact Ur i u g (by omega) (lN h e)
 split
 .rename_i h;have j:ps+3<=R.cs.size:=lN h e;have y:=WO (R:=R) (ps:=ps+3);refine⟨by omega,Mt j,(show 1<=4 by decide),λ_=>?_,trivial⟩;rcases P7 j with h|⟨_,h⟩
  all_goals omega
 split
 .rename_i h;have v:ps+8<=R.cs.size:=QN h e;have:=aeU (R:=R) (ps:=ps+8);exact zH (by omega) (Jd v) (show 1<=5 by decide) trivial
 split
 .rename_i h;exact zH (by omega) (lN h e) (show 1<=4 by decide) trivial
 split
 .exact zH q e (show 1<=4 by decide) trivial
 .exact Fo i g
def Dg (i:∀x t,look x=some t->t.size<=16) (u:R.cs.size<=1024) (q:ps < R.cs.size):Al R ps (kR R look lg ps)/\(∀g m,kR R look lg ps= .tok g m->vF g≠1->bt R.cs ps=60):=by
 unfold kR;rw[gV (by omega)];split
 .split
  .rename_i h;refine⟨Xx (R:=uM R ps) i u q (by omega) (lN h (by omega)),λ_ _ _ _=>?_⟩;have:=Fm (j:=0) h (by decide);rw[Nat.add_zero]at this;exact this.trans rfl
  .refine⟨Fo (R:=uM R ps) i q,λg m h e=>?_⟩;unfold wx at h;obtain⟨rfl,_⟩:=AP.tok.inj h;exact absurd rfl e
 .refine⟨abb (R:=uM R ps) i q,λg m h e=>?_⟩;unfold Aa at h;split at h
  .obtain⟨rfl,_⟩:=AP.tok.inj h;exact absurd rfl e
  .obtain⟨rfl,_⟩:=AP.tok.inj h;exact absurd rfl e
def JV:kR R look lg R.cs.size= .tok .Xe R.cs.size:=by simp[kR]
def Ys.tok (h:Ys k) (a b:Nat):(qd a b k).k= .lost\/qc (qd a b k):=by
 cases k with
 |lost=>simp[qd]
 |Y7 t=>exact .inr ⟨h,rfl,by simp[qd]⟩
 |Uw nm L=>exact .inr ⟨(by decide:(0:Nat)<=100),by unfold xv;exact List.all_eq_true.2 (λp e=>wj (h.2 p e)),by simp[qd]⟩
 |fin nm L=>exact .inr ⟨(by decide:(0:Nat)<=100),by unfold xv;exact List.all_eq_true.2 (λp e=>wj (h.2 p e)),by simp[qd]⟩
 |Xe=>exact .inr ⟨(by decide:(0:Nat)<=100),rfl,by simp[qd]⟩
 |Yu t=>exact .inr ⟨(by decide:(0:Nat)<=100),rfl,by simp[qd]⟩
 |dtp n q=>exact .inr ⟨(by decide:(0:Nat)<=100),rfl,by simp[qd]⟩
def Ys.len (h:Ys k) (a b:Nat):(qd a b k).ib.length<=1024:=by
 cases k with
 |Uw nm L=>exact h.1
 |fin nm L=>exact h.1
 |_=>simp[qd]
def Q0 (k:Nat) (w:gx):
  Calls prog 52 #[.iface 78 (gN k)] w λe w'=>e=iw (gN k)/\w'=w:=by
 have h:∀(v:gQ) (g:TypeId) (w:gx),(Instr.typeAssert (.iface 78 v) g 78 true).run prog w= .ok (.tuple #[v,.bool true]) w:=λv g w=>by
  simp[Instr.typeAssert,ql underlying78]
 go_enter func52,ntmps52;go_wp2;go_ret;simp
theorem EG (g h:Nat) (k:Nat) (w:gx) (v:gQ) (j:w.heap[g]?=some (gL #[v,.pointer none] 74)) (x:w.heap[h]?=some (gL #[.pointer none] 78)) (u:g≠h) (q:h≠g):
  CallsD prog 51 #[gN g,gN h] (.panicking [{v:= .iface 78 (gN k),recovered:=false}]) w λe G w'=>
   e=pE/\G= .panicking [{v:= .iface 78 (gN k),recovered:=true}]/\w'.heap[g]?=some (gL #[jc,.pointer none] 74)/\w'.heap[h]?=some (gL #[gN k] 78)/\Kept [g,h] w w':=by
 have C:=fW j 0;have E:=fW j 1;have F:=fW x 0;have I:=gu j 0;have J:=gu j 1;have K:=gu x 0;dsimp at C E F;have z:Hid (∃W,W=((w.setCell ⟨g,0,none⟩ (jc)).setCell ⟨g,1,none⟩ (.pointer none)).setCell ⟨h,0,none⟩ (gN k)/\W.heap[g]?=some (gL #[jc,.pointer none] 74)/\W.heap[h]?=some (gL #[gN k] 78)/\Kept [g,h] w W):=by
  refine⟨_,rfl,?_,?_,?_⟩
  .rw[Below.heap_setCell _ _ _ _ u];exact gm (gm j 0 _) 1 _
  .refine gm (c:=#[.pointer none]) ?_ 0 _;rw[Below.heap_setCell _ _ _ _ q,Below.heap_setCell _ _ _ _ q];exact x
  .exact(((Kept.refl [g,h] w).setCell (.inl (by simp)) _).setCell (.inl (by simp)) _).setCell (.inl (by simp)) _
 refine callsD_of_wpS func51 rfl λi H y=>?_;apply wpS_seq;apply wpS_region;simp[wpOpsS,go_sem,recoverD,y,ntmps51,Exit.thenS];have A:=y;refine wpS_of_wp ?_;have B:(#[gN g,gN h]++((Array.replicate 7 undef).setIfInBounds 1 (Value.iface 78 (gN k))).setIfInBounds 0 (Value.iface 78 (gN k)))=#[gN g,gN h,.iface 78 (gN k),.iface 78 (gN k),undef,undef,undef,undef,undef]:=rfl;rw[B]
 go_wp21
 refine(Q0 k _).mono ?_;rintro e w' ⟨rfl,rfl⟩;go_wp2;have y:=A;have⟨W,hW,h1,h2,h3⟩:=z;rw[<-hW];cases i
 simp_all[bodyPostS,results,results51]
theorem Lk.map (h:Lk w b look):∃q j,w.heap[b]?=some (Obj.map q j):=by
 have u:=h.run ⟨#[]⟩ w rfl;have v:=ql (w:=w) (show prog.underlying 160=some (.map 9 207) by simp);have g:∀o,w.heap[b]?=some o->(∀c e f,o≠ .cells c e f)->(getObj b).run prog w= .ok o w:=by
  intro o y z;cases o with
  |cells c e f=>grind
  |_=>simp[getObj,Sem.run,y]
 cases hb:w.heap[b]? with
 |none=>
  have x:=h.lt
  grind
 |some o=>
  cases o with
  |map q j=>simp
  |cells c e f=>
   exfalso;have i:(getObj b).run prog w= .halt (Halt.stuck "getObj: a row of cells") w:=by simp[getObj,Sem.run,hb]
   simp[Instr.lookup,v,i,Result.andThen]at u
  |_=>
   exfalso;have i:=g _ hb (by simp);simp[Instr.lookup,v,i,Result.andThen,Go.stuck,Sem.run]at u
def Fr.map {bs : Nat} (h:Fr bs w w') (e:w.heap[b]?=wl.heap[b]?) (g:Lk wl b look):w'.heap[b]?=w.heap[b]?:=h.calm (.inl (by rw[e];exact g.map))
theorem KT.map {bs : Nat} {T : List TypeId} (h:KT bs T w w') (e:w.heap[b]?=wl.heap[b]?) (i:Lk wl b look):w'.heap[b]?=w.heap[b]?:=by
 have⟨es,ck,hm⟩:=i.map;rw[<-e]at hm;have⟨S,hk,hS⟩:=h;have g:b < w.heap.size:=(Array.getElem?_eq_some_iff.1 hm).1;refine hk.block b g λj=>?_
 grind
inductive abD where
 |stop (e p:Nat)
 |done (σ:Ab) (L:List Sp)
 |stuck
def xu (R:RC) (σ:Ab) (ps:Nat) (t:gO):Ab:={σ with fresh:=t.pI,nJ:=(Bg (QR R σ.nJ σ.iY) ps).nJ}
def nP (R:RC) (look:gz->Option gz) (lg:Nat) (g:Nat->Nat):Nat->Nat->Ab->List Sp->abD
 |0,_,_,_=> .stuck
 |n+1,ps,σ,L=>match kR (QR R σ.nJ σ.iY) look lg ps with
  | .stop=> .stop 7 (g ps)
  | .tok k m=>match qJ (ie false xf) (qd (g ps) (g m) k) (xu R σ ps (qd (g ps) (g m) k))with
   | .stop e p=> .stop e p
   | .stuck=> .stuck
   | .ok _ σ'=>if vF k=0 then .done σ' L else nP R look lg g n m σ' (qM L ⟨(vF k:Int),g ps,g m⟩)
structure RgV (w:gx) (bm bB bD r b:Nat) (C:jN) (R:RC) (g cap:Nat) (cut:Nat->Nat) (base:Nat) (wl:gx) (ps bg:Nat) (σ:Ab) (v:gQ) (L:List Sp) (wr:gx):Prop where
 rel:∃fl w0 tv ta,fl 0=bD/\RF (Qp w.heap.size bm bB r C R bg ps w0 tv ta) fl σ wr
 gM:Mi wr r R g cap cut
 aty:∃cA,wr.heap[g]?=some (gL cA 3)
 lk:wr.heap[b]?=wl.heap[b]?
 tb:wr.heap[w.heap.size+1]?=some (gL #[v,.pointer none] 74)
 sb:wr.heap[w.heap.size+2]?=some (gL #[.pointer none] 78)
 own:wr.ownsRow base 53 3 v L.length (kD L)
 kept:Kept [] w wr
 le:ps<=R.cs.size
 len:L.length<=ps
 SS:w.heap.size<=base/\base<=wr.heap.size
 rge:w.heap.size<=r
 pos:0 < σ.nodes.length
theorem RgV.next {bm Q S r : Nat} {C : jN} {g A : Nat} {B : Nat->Nat} {base : Nat} {v : gQ} {wr : gx} (h:RgV w bm Q S r b C R g A B base wl ps bg σ v L wr) (x:Kept [r] wr w2) {z F : Nat} {o : gz} (hr:Rd w2 r (QR R o σ.iY) z F) (Y:b≠r) (I:b < wl.heap.size)
  (J:wl.heap.size<=wr.heap.size) (u:gQ) (j:lZ) (N:zn w2 u j) (K:j.length<=4096) (U:Bool) (E:∀g,u.ownBlock=some g->wr.heap.size<=g):
  (∃G,G 0=S/\RF (Qp w.heap.size bm Q r C R z F w2 u j) G {σ with fresh:=U,nJ:=o} w2)/\Mi w2 r R g A B/\(∃H,w2.heap[g]?=some (gL H 3))/\w2.heap[b]?=wl.heap[b]?/\w2.heap[w.heap.size+1]?=some (gL #[v,.pointer none] 74)/\w2.heap[w.heap.size+2]?=some (gL #[.pointer none] 78)/\w2.ownsRow base 53 3 v L.length (kD L)/\Kept [] w w2:=by
 have⟨G,w0,tv,ta,h0,hrf⟩:=h.rel;have y:=hrf.rdV;have O:∀{k:Nat} {c:jN} {t:TypeId},wr.heap[k]?=some (gL c t)->t≠165->k∉[r]:=by
  intro k c t i V hm;have e:=List.mem_singleton.1 hm;subst e;unfold Rd at y;rw[y]at i;simp at i;exact V i.2.symm
 refine⟨⟨G,h0,hrf.VT [165] (.jQ x (λk i _=>by
  have e:=List.mem_singleton.1 i;subst e;exact⟨⟨_,_,_,y,by simp⟩,h.rge⟩)) (λt _ V=>by grind) (by decide) hr u j N K U (λ_=>E) (λg Z=>j7 h.kept.size (E g Z))⟩,h.gM.kept x,?_,(x.block b (mi I J) (by grind)).trans h.lk,x.at h.tb (O h.tb (by decide)),x.at h.sb (O h.sb (by decide)),x.ownsRow h.own ?_,h.kept.next x (by simpa using h.rge)⟩
 .have⟨H,hA⟩:=h.aty;exact⟨H,x.at hA (O hA (by decide))⟩
 .intro k i;rcases h.own.2 with⟨e,_⟩|⟨q,T,X,e,_,hc,_⟩
  .rw[e]at i;cases i
  .rw[e]at i;have e3:=jy i
   grind
def II (w:gx) (e:Ending) (w':gx):abD->Prop
 | .stop c p=>∃k,e=iw (.tuple #[.agg #[jc,.pointer none],gN k])/\kG w' k c p/\Kept [] w w'
 | .done fin L=>∃v k E g,e=iw (.tuple #[.agg #[v,gN k],.pointer none])/\g 0=k/\RF E g fin w'/\w'.ownsRow w.heap.size 53 3 v L.length (kD L)/\L.length<=1024/\Kept [] w w'
 | .stuck=>False
theorem Sf {k : Nat} {v : gQ} (y:W.heap[w.heap.size+1]?=some (gL #[v,.pointer none] 74)) (u:W.heap[w.heap.size+1+1]?=some (gL #[.pointer none] 78)) (g:kG W k c p) (j:Kept [] w W) (i:Kept [w.heap.size+1,w.heap.size+1+1] W w'):kG w' k c p/\Kept [] w w':=by
 refine⟨i.at g ?_,j.next i (λx q=> .inr ?_)⟩
 .intro h;rcases List.mem_cons.1 h with e|h
  .rw[e]at g;unfold kG at g;grind
  .have e:=List.mem_singleton.1 h;rw[e]at g;unfold kG at g;grind
 grind
def aag (R:RC) (o:gz) (p:Bool) (ps:Nat):Bg (QR R o p) ps=QR R (Bg (QR R o p) ps).nJ p:=by unfold Bg;split<;>rfl
theorem aaG (s:gz) (tv:gQ) (base d f l:Nat) (w:gx) (ho:w.ownsRow base 5 1 tv s.size (kH s)) (hs:s.size<=1024) (hd:d<=64) (hf:f<=32) (hl:l<=16) (hT:xL w) (bn:Ij w) (ak:∀av b,nP (sG s l av b) (qg KV) 8 (jq s) ((pd s).size+1) 0 (S0 d f l 0) []≠ .stuck):
  Calls prog 38 #[tv,.agg #[gh d,gh f,gh l]] w λe w'=>∃av b,II w e w' (nP (sG s l av b) (qg KV) 8 (jq s) ((pd s).size+1) 0 (S0 d f l 0) []):=by
 have bR:∀(fn:Fn) (first H:jN) (w:gx),(Instr.makeFunc fn first H).run prog w= .ok (.func fn first H) w:=λ_ _ _ _=>rfl;obtain⟨w0,a2⟩:∃w0,w0=((w.alloc (gL #[gh d,gh f,gh l] 71)).alloc (gL #[jc,.pointer none] 74)).alloc (gL #[.pointer none] 78):=⟨_,rfl⟩;have aa:Kept [] w w0:=by rw[a2];exact(((Kept.refl _ _).alloc _).alloc _).alloc _
 have HZ:w0.heap.size=w.heap.size+3:=by rw[a2];simp
 have ap:w0.heap[w.heap.size]?=some (gL #[gh d,gh f,gh l] 71):=by
  rw[a2,Below.heap_alloc _ _ _ (by simp;omega),Below.heap_alloc _ _ _ (by simp)];exact fX w _
 have bi:w0.heap[w.heap.size+1]?=some (gL #[jc,.pointer none] 74):=by
  rw[a2,Below.heap_alloc _ _ _ (by simp)];have:=fX (w.alloc (gL #[gh d,gh f,gh l] 71)) (gL #[jc,.pointer none] 74)
  simpa using this
 have bj:w0.heap[w.heap.size+2]?=some (gL #[.pointer none] 78):=by
  have:=fX ((w.alloc (gL #[gh d,gh f,gh l] 71)).alloc (gL #[jc,.pointer none] 74)) (gL #[.pointer none] 78);rw[a2];simpa using this
 have CN:=LP s tv base (l:Int) w0 (aa.ownsRow ho (λ_ _=>by simp)) hs;have c0:=fW ap 0;have c1:=fW ap 1;have c2:=fW ap 2;dsimp at c0 c1 c2;have⟨ao,cp,htv⟩:=gF ho;subst htv;have HW:=fV a2.symm;have aV:=hT;clear a2
 go_enter_defers func38,ntmps38
 go_wp21
 rw[HW.out];refine CN.mono ?_;rintro e w1 ⟨r,b,av,g,H,rfl,hr,hb,bp,bh,bb,bd,aS,bl,a0⟩;have g1:=a0.at ap (by simp);have d0:=fW g1 0;have d1:=fW g1 1;have d2:=fW g1 2;dsimp at d0 d1 d2;have bk:=aV.fr (bm:=0) (.gU (aa.trans a0));have CB:=afp (d:Int) (f:Int) (l:Int) (.func 55) #[gN r] #[] w1 bk;have HB:=And.intro hr (And.intro hb bp)
 go_wp21
 refine CB.mono ?_;rintro e w2 ⟨bm,bB,bD,rfl,hN⟩;have K:=hN.k;have aX:Rd w2 r (sG s l av b) 0 0:=bh.kept K (by simp);have⟨C,fl,hfl,hrf⟩:=afq w.heap.size bm bB bD r d f l w1 w2 (sG s l av b) hN aX rfl rfl hd hf hl (by grind) (by omega);obtain⟨R,hR⟩:∃R,R=sG s l av b:=⟨_,rfl⟩;have bc:R.cs=pd s:=by rw[hR];rfl
 have bS:R.nJ=⟨#[]⟩:=by rw[hR];rfl
 have bT:R.fU=false:=by rw[hR];rfl
 have bw:R.mv= .map (some b):=by rw[hR];rfl
 have br:R.lg=(8:Nat):=by rw[hR];rfl
 have bN:R.at_=(l:Int):=by rw[hR];rfl
 have b7:R.cs.size<=1024:=by rw[bc,uF];have:=Im s s.size;omega
 rw[<-hR]at hrf;obtain⟨O,hO⟩:∃O,O=nP R (qg KV) 8 (jq s) (R.cs.size+1) 0 (S0 d f l 0) []:=⟨_,rfl⟩;have HO:=hO.symm;have ab:Hid (∀e w',II w e w' O->∃av b,II w e w' (nP (sG s l av b) (qg KV) 8 (jq s) ((pd s).size+1) 0 (S0 d f l 0) [])):=λe w' h=>⟨av,b,by grind⟩;have be:O≠ .stuck:=by rw[hO,hR];exact ak av b
 have bf:Hid (RgV w bm bB bD r b C R g H (jq s) w2.heap.size w2 0 0 (S0 d f l 0) (jc) [] w2):=fV
  {rel:=⟨fl,w2,jc,[],hfl,hrf⟩
   lk:=rfl
   gM:=by have:=bb;rw[<-hR]at this;exact this.kept (K.mono (by simp))
   aty:=by have⟨cA,hA⟩:=bl;exact⟨cA,K.at hA (by simp)⟩
   tb:=K.at (a0.at bi (by simp)) (by simp)
   sb:=K.at (a0.at bj (by simp)) (by simp)
   own:=od _ _ _ _
   kept:=(aa.trans a0).trans K
   le:=iN _
   len:=gW _
   SS:=⟨j7 (j7 aa.size a0.size) K.size,gW _⟩
   rge:=by omega
   pos:=by simp[S0]}
 have B:=fV (bd.kept K (by simp));have aU:=bn;have bM:=(aa.trans a0).trans K
 go_wp21
 go_loopw [] (λwr=>∃n ps bg σ v L,RgV w bm bB bD r b C R g H (jq s) w2.heap.size w2 ps bg σ v L wr/\nP R (qg KV) 8 (jq s) n ps σ L=O/\R.cs.size - ps < n) (λwr=>R.cs.size - (match wr.cell? ⟨r,3,none⟩with|some v=>(intOf v).toNat|none=>0))
 case atStart=>exact⟨R.cs.size+1,0,0,_,_,[],bf,HO,by omega⟩
 case round=>
  have⟨n,ps,bg,σ,v,L,h1,HGO,hnn⟩:=hrel;obtain⟨n,rfl⟩:∃k,n=k+1:=⟨n - 1,by omega⟩;have b3:Rd wr r (QR R σ.nJ σ.iY) bg ps:=by have⟨_,_,_,_,_,hr⟩:=h1.rel;exact hr.rdV
  have P0:=b3.ps;have G:=h1;have bq:Gl wr r:=by
   have⟨U,hl⟩:=aU.kept h1.kept;exact⟨U,hl,λe=>by have:=h1.rge;have:=aU.2;omega⟩
  have bz:UQ wr r (QR R σ.nJ σ.iY) g H b 8 (qg KV) (jq s):=⟨⟨h1.gM.av,h1.gM.ne,h1.gM.lt,h1.gM.at_⟩,⟨⟨mi B.lt h1.SS.2,B.short,λbF w' e=>B.run bF w' (e.trans h1.lk)⟩,aS,bw,br,by decide⟩,bq,b7⟩;have Q:=afr r (QR R σ.nJ σ.iY) bg ps g H b 8 (qg KV) (jq s) wr b3 bz h1.le;rw[aag]at Q;have ah:ps < R.cs.size->Al (QR R σ.nJ σ.iY) ps (kR (QR R σ.nJ σ.iY) (qg KV) 8 ps):=λh=>(Dg (R:=QR R σ.nJ σ.iY) B.short b7 h).1;have aC:ps=R.cs.size->kR (QR R σ.nJ σ.iY) (qg KV) 8 ps= .tok .Xe R.cs.size:=λe=>by rw[e];exact JV (R:=QR R σ.nJ σ.iY)
  have bK:=h1.le;rw[nP]at HGO;obtain⟨on,b2⟩:∃on,on=(Bg (QR R σ.nJ σ.iY) ps).nJ:=⟨_,rfl⟩;have b6:∀t,xu R σ ps t={σ with fresh:=t.pI,nJ:=on}:=λt=>by rw[b2];rfl
  rw[<-b2]at Q;cases hT:kR (QR R σ.nJ σ.iY) (qg KV) 8 ps with
  |stop=>
   rw[hT]at Q HGO;dsimp only at HGO;have CX:=fV Q;have EO:=fV HGO.symm;clear Q HGO
   go_wp21
   refine CX.mono ?_;rintro e w3 ⟨k,rfl,ak,bQ,a6⟩;have⟨_,_,_,_,_,hrf⟩:=G.rel;have aF:=hrf.rdV;have ne:∀{k:Nat} {c:jN} {t:TypeId},wr.heap[k]?=some (gL c t)->t≠165->k∉[r]:=by
    intro k c t y ht U;have e:=List.mem_singleton.1 U;subst e;unfold Rd at aF;rw[aF]at y;simp at y;exact ht y.2.symm
   have Y:=a6.at G.tb (ne G.tb (by decide));have X:w3.heap[w.heap.size+1+1]?=_:=a6.at G.sb (ne G.sb (by decide));have V:=G.kept.next a6 (by simpa using G.rge);have F:=And.intro Y (And.intro X (And.intro ak V));go_wp2;refine leaves_cons (f:=51) (args:=#[gN (w.heap.size+1),gN (w.heap.size+1+1)]) (by simp) (by simp[go_sem]) ?_;refine(EG (w.heap.size+1) (w.heap.size+1+1) k w3 v F.1 F.2.1 (by omega) (by omega)).mono ?_;rintro e u' b9 ⟨rfl,rfl,t9,s9,k9⟩;have HF:=fV (Sf F.1 F.2.1 F.2.2.1 F.2.2.2 k9);have q0:=fW t9 0;have q1:=fW t9 1;have q2:=fW s9 0;dsimp at q0 q1 q2;simp[Go.Leaves,settle,results,results38,go_sem,q0,q1,q2];refine ab _ _ ?_;rw[EO.out];exact⟨k,rfl,HF.1,HF.2⟩
  |tok k m=>
   rw[hT]at Q HGO;dsimp only at HGO;have bO:vF k=0->k= .Xe:=by cases k<;>simp[vF]
   have bo:Ys k:=by
    rcases mO ps R.cs.size with h|h
    .have:=ah h;rw[hT]at this;exact this.2.2.2.2
    .have:=aC (by omega);rw[hT]at this;obtain⟨rfl,_⟩:=AP.tok.inj this;trivial
   have bv:vF k≠0->ps < m/\m<=R.cs.size:=by
    intro aO;rcases mO ps R.cs.size with h|h
    .have:=ah h;rw[hT]at this;exact⟨this.1,this.2.1⟩
    .have:=aC (by omega);rw[hT]at this;obtain⟨rfl,_⟩:=AP.tok.inj this;exact absurd rfl aO
   have aD:=j7 (bo.len (jq s ps) (jq s m)) (show 1024<=4096 by decide);rw[b6]at HGO;have CX:=fV Q;clear Q
   go_wp21
   refine CX.mono ?_;rintro e w3 ⟨⟨vv,rfl,bE⟩,a6,bA⟩;obtain⟨T,x,tv,rfl,hV,aI,bC,b0,b1⟩:=bE.is aD;have⟨⟨fl,hfl,hrf⟩,S,al,ay,Y,X,aA,V⟩:=G.next a6 bA aS B.lt G.SS.2 tv _ b0 aD (qd (jq s ps) (jq s m) k).pI b1;obtain⟨t,ht⟩:∃t,t=qd (jq s ps) (jq s m) k:=⟨_,rfl⟩;have A:=HGO;rw[<-ht]at hrf hV A;have hD:=λhh=>YF (Qp w.heap.size bm bB r C R ps m w3 tv t.ib) rfl rfl bC xf t (λ_=>rfl) fl _ w3 hrf hh;have aY:=hV (Qp w.heap.size bm bB r C R ps m w3 tv t.ib) rfl;cases hT1:qJ (ie false xf) t {σ with fresh:=t.pI,nJ:=on} with
   |stuck=>rw[hT1]at A;exact absurd A.symm be
   |stop c p=>
    have D:=hD (by rw[hT1];simp);rw[hT1]at D A;dsimp only at A;have EO:=fV A.symm;have C2:Hid (Calls prog 57 #[gN bB,.iface T x] w3 λe W=>∃j,e=rq j/\kG W j c p/\Fr w.heap.size w3 W):=fV (by rwa [aY]at D);have HQ:=fV (And.intro Y (And.intro X V));clear A HGO
    go_wp21
    refine C2.mono ?_;rintro e w4 ⟨k,rfl,ak,z⟩;have⟨Y,X,V⟩:=HQ;have Z:=z.Ap Y (by decide);have a8:w4.heap[w.heap.size+1+1]?=_:=z.Ap X (by decide);have aw:=z.kept V (gW _);have F:=And.intro Z (And.intro a8 (And.intro ak aw));go_wp2;refine leaves_cons (f:=51) (args:=#[gN (w.heap.size+1),gN (w.heap.size+1+1)]) (by simp) (by simp[go_sem]) ?_;refine(EG (w.heap.size+1) (w.heap.size+1+1) k w4 v F.1 F.2.1 (by omega) (by omega)).mono ?_;rintro e u' b9 ⟨rfl,rfl,t9,s9,k9⟩;have HF:=fV (Sf F.1 F.2.1 F.2.2.1 F.2.2.2 k9);have q0:=fW t9 0;have q1:=fW t9 1;have q2:=fW s9 0;dsimp at q0 q1 q2;simp[Go.Leaves,settle,results,results38,go_sem,q0,q1,q2];refine ab _ _ ?_;rw[EO.out];exact⟨k,rfl,HF.1,HF.2⟩
   |ok u σ2=>
    have D:=hD (by rw[hT1];simp);rw[hT1]at D A;dsimp only at A;have aE:0 < ({σ with fresh:=t.pI,nJ:=on}:Ab).nodes.length:=G.pos;have C2:Hid (Calls prog 57 #[gN bB,.iface T x] w3 λe W=>e=pE/\∃ar,ar 0=bD/\RF (Qp w.heap.size bm bB r C R ps m w3 tv t.ib) ar σ2 W/\Fr w.heap.size w3 W/\0 < σ2.nodes.length):=
     fV (by
      rw[aY]at D;exact D.mono (λe W hL=>by
       have⟨ar,h5,h6,h7,h8,h9⟩:=hL;exact⟨h7,ar,(h5 0 aE).trans hfl,h8,h9,mi aE h6⟩))
    have HQ:=fV (And.intro S (And.intro al (And.intro ay (And.intro Y (And.intro X (And.intro aA V))))));have aW:=a6.size;clear HGO
    go_wp21
    refine C2.mono ?_;rintro e w4 ⟨rfl,aJ,af,aj,z,aP⟩;have⟨S,al,ay,Y,X,aA,V⟩:=HQ;have bH:w4.heap[b]?=w2.heap[b]?:=(z.map ay B).trans ay;have Z:=z.Ap Y (by decide);have a8:=z.Ap X (by decide);have aw:=z.kept V (gW _);have⟨cA,hA3⟩:=al;have aK:=z.Ap hA3 (by decide);have aZ:Mi w4 r R g H (jq s):=⟨S.av,S.ne,iX aK,λi hi=>by rw[fW aK,<-fW hA3];exact S.at_ i hi⟩;have aQ:w4.ownsRow w2.heap.size 53 3 v L.length (kD L):=by
     refine⟨aA.1,?_⟩;rcases aA.2 with e|⟨q,a3,aq,e,h1,hc,r'⟩
     .exact .inl e
     .exact .inr ⟨q,a3,aq,e,h1,z.Ap hc (by decide),r'⟩
    have aB:w2.heap.size<=w4.heap.size:=j7 G.SS.2 (j7 aW z.size);have a9:=aI.kind w4
    by_cases au:vF k=0
    .rw[au]at a9;have CK:=fV a9;have aM:=A;rw[gJ au]at aM;have EO:=fV aM.symm;clear a9 aM;have CD:=Qe _ _ _ _ aj;have eD:nV aJ 0=gN bD:=by unfold nV;rw[af]
     rw[eD]at CD;have⟨ax,ac,hv⟩:=gF aQ;subst hv;have c0:=fW Z 0;have c1:=fW Z 1;have c2:=fW (show w4.heap[w.heap.size+1+1]?=_ from a8) 0;have f0:=gu Z 0;have f1:=gu Z 1;have f2:=gu (show w4.heap[w.heap.size+1+1]?=_ from a8) 0;dsimp at c0 c1 c2;have HX:=fV (And.intro Z (And.intro a8 (And.intro aQ (And.intro aw (And.intro aj af)))))
     go_wp21
     refine CK.mono ?_;rintro e w5 ⟨rfl,rfl⟩
     go_wp21
     refine CD.mono ?_;rintro e w5 ⟨rfl,rfl⟩;have⟨tb5,sb5,ow5,kw5,hrf5,ag⟩:=HX;have aO:w.heap.size+1+1≠w.heap.size+1:=by omega
     have J:(w5.setCell ⟨w.heap.size+1,1,none⟩ (gN bD)).heap[w.heap.size+1]?=some (gL #[.slice ax L.length ac,gN bD] 74):=gm tb5 1 _;have am:(w5.setCell ⟨w.heap.size+1,1,none⟩ (gN bD)).heap[w.heap.size+1+1]?=some (gL #[.pointer none] 78):=(Below.heap_setCell _ _ _ _ aO).trans sb5;have E1:=fV (nQ J 0 (.slice ax L.length ac) rfl);have E2:=fV (nQ J 1 (gN bD) rfl);have E3:=fV (nQ am 0 (.pointer none) rfl);have q0:=fW J 0;have q1:=fW J 1;have q2:=fW am 0;dsimp at q0 q1 q2;have E:Kept [w.heap.size+1] w5 (w5.setCell ⟨w.heap.size+1,1,none⟩ (gN bD)):=(Kept.refl _ _).setCell (.inl (by simp)) _;have a4:Rd w5 r (QR R σ2.nJ σ2.iY) ps m:=hrf5.rdV;have bx:r∉[w.heap.size+1]:=by
      intro U;have e:=List.mem_singleton.1 U;unfold Rd at a4;rw[e,tb5]at a4;simp at a4
     have a5:=hrf5.VT [74] (.jQ E (λk y _=>by
      have e:=List.mem_singleton.1 y;subst e;exact⟨⟨_,_,_,tb5,by simp⟩,by omega⟩)) (by decide) (by decide) (a4.kept E bx) (jc) [] (od _ _ _ _) (iN _) σ2.fresh (λ_ g hg=>by simp[Value.ownBlock]at hg) (λg hg=>by simp[Value.ownBlock]at hg)
     have HF:Hid (II w (iw (.tuple #[.agg #[.slice ax L.length ac,gN bD],.pointer none])) (w5.setCell ⟨w.heap.size+1,1,none⟩ (gN bD)) O):=by
      rw[EO.out];refine fV ⟨_,bD,_,aJ,rfl,ag,a5,?_,by have:=G.len;omega,kw5.setCell (.inr (by simp)) _⟩;refine jR (E.ownsRow ow5 (λq hq=>?_)) G.SS.1;intro U;have e:=List.mem_singleton.1 U;subst e;rcases ow5.2 with⟨e2,_⟩|⟨q,a3,aq,e2,_,hc,_⟩
      .rw[e2]at hq;cases hq
      .rw[e2]at hq;have e3:=jy hq;subst e3;rw[tb5]at hc;simp at hc
     go_wp2;rw[E1.out,E2.out,E3.out];refine leaves_cons (f:=51) (args:=#[gN (w.heap.size+1),gN (w.heap.size+1+1)]) (by simp) (by simp[go_sem]) ?_;refine(RE ⟨w.heap.size+1,0,none⟩ ⟨w.heap.size+1+1,0,none⟩ _).mono ?_;rintro e u' b9 ⟨rfl,rfl,rfl⟩;simp[Go.Leaves,settle,results,results38,go_sem,q0,q1,q2];exact ab _ _ HF
    .have bu:=bv au;have CK:=fV a9;have aT:=A;rw[gV au]at aT;have bP:((vF k:Int)==0)=false:=beq_eq_false_iff_ne.2 (by omega);have ba:L.length<=1024:=by have:=G.len;have:=G.le;omega
     clear a9;have bt:=aI.ik;have bJ:=aI.nil;have CY:=PW (jq s ps:Int) (jq s m:Int) w4;have aB:w2.heap.size<=w4.heap.size:=j7 G.SS.2 (j7 aW z.size);have HX:=fV (And.intro aZ (And.intro aK (And.intro bH (And.intro Z (And.intro a8 (And.intro aQ (And.intro aw (And.intro aj (And.intro af aB)))))))))
     go_wp21
     refine CK.mono ?_;rintro e w5 ⟨rfl,rfl⟩
     go_wp21
     refine CY.mono ?_;rintro e w6 ⟨rfl,E⟩;have⟨hat5,hA5,lk5,tb5,sb5,ow5,kw5,hrf5,ag,big5⟩:=HX;have J:=E.at tb5 (by simp);have I:=E.ownsRow ow5 (λ_ _=>by simp);have⟨ax,ac,hv⟩:=gF I;subst hv;have c6:=fW J 0;dsimp at c6;have CA:=PJ w2.heap.size _ L ⟨(vF k:Int),jq s ps,jq s m⟩ w6 I (j7 big5 E.size) (by omega);have HP:=fV (And.intro (hat5.kept (E.mono (by simp))) (And.intro (E.at hA5 (by simp)) (And.intro ((E.block b (mi B.lt big5) (by simp)).trans lk5) (And.intro J (And.intro (E.at sb5 (by simp)) (And.intro I (And.intro (kw5.trans E) (And.intro (hrf5.io E) (And.intro ag (j7 big5 E.size))))))))))
     go_wp21
     refine CA.mono ?_;rintro e w7 ⟨v7,rfl,aR,N⟩;have⟨hat6,hA6,lk6,J,am,I,kw6,a5,hfl6,big6⟩:=HP;have ne:∀{k:Nat} {c:jN} {t:TypeId},w6.heap[k]?=some (gL c t)->t≠53->k∉(Value.slice ax L.length ac).ownBlock.toList:=by
      intro k c t y ht U;rcases I.2 with⟨e2,_⟩|⟨q,a3,aq,e2,_,hc,_⟩
      .rw[e2]at U;simp[Value.ownBlock]at U
      .rw[e2]at U;simp[Value.ownBlock]at U;subst U;rw[y]at hc;simp at hc;exact ht hc.2
     have aG:=a5.rdV;have bI:w7.heap[b]?=w2.heap[b]?:=(KT.map (bs:=w.heap.size) (T:=[53]) (.jQ N (λk y _=>by
      obtain⟨c,m,hc⟩:=sR I (by simpa using y);exact⟨⟨_,_,_,hc,by simp⟩,by have h7:=(I.lt k (by simpa using y)).1;have h8:=G.SS.1;omega⟩)) lk6 B).trans lk6
     have an:=N.at J (ne J (by decide));have b8:=N.at am (ne am (by decide));have ad:=N.at hA6 (ne hA6 (by decide));have ai:Rd w7 r (QR R σ2.nJ σ2.iY) ps m:=N.at aG (ne aG (by decide));have ae:Mi w7 r R g H (jq s):=⟨hat6.av,hat6.ne,iX ad,λi hi=>by rw[fW ad,<-fW hA6];exact hat6.at_ i hi⟩;have bG:Kept [] w w7:=kw6.next N (λx hx=> .inr (by have h7:=(I.lt x (by simpa using hx)).1;have h8:=G.SS.1;omega));have b4:=a5.VT [53] (.jQ N (λk y _=>by
      obtain⟨c,m,hc⟩:=sR I (by simpa using y);exact⟨⟨_,_,_,hc,by simp⟩,by have h7:=(I.lt k (by simpa using y)).1;have h8:=G.SS.1;omega⟩)) (by decide) (by decide) ai (jc) [] (od _ _ _ _) (iN _) σ2.fresh (λ_ g hg=>by simp[Value.ownBlock]at hg) (λg hg=>by simp[Value.ownBlock]at hg)
     have⟨a7,p7,hv7⟩:=gF aR;subst hv7;have c7:=fW an 0;have f7:=gu an 0;dsimp at c7;have a1:Kept [w.heap.size+1] w7 (w7.setCell ⟨w.heap.size+1,0,none⟩ (.slice a7 (qM L ⟨(vF k:Int),jq s ps,jq s m⟩).length p7)):=(Kept.refl _ _).setCell (.inl (by simp)) _;have az:∀{k:Nat} {c:jN} {t:TypeId},w7.heap[k]?=some (gL c t)->t≠74->k∉[w.heap.size+1]:=by
      intro k c t y ht U;have e:=List.mem_singleton.1 U;subst e;rw[an]at y;simp at y;exact ht y.2.symm
     have aH:Rd (w7.setCell ⟨w.heap.size+1,0,none⟩ (.slice a7 (qM L ⟨(vF k:Int),jq s ps,jq s m⟩).length p7)) r (QR R σ2.nJ σ2.iY) ps m:=a1.at ai (az ai (by decide));have b5:=b4.VT [74] (.jQ a1 (λk y _=>by
      have e:=List.mem_singleton.1 y;subst e;exact⟨⟨_,_,_,an,by simp⟩,by omega⟩)) (by decide) (by decide) aH (jc) [] (od _ _ _ _) (iN _) σ2.fresh (λ_ g hg=>by simp[Value.ownBlock]at hg) (λg hg=>by simp[Value.ownBlock]at hg)
     have aL:=a1.at ad (az ad (by decide));have HE:Hid (RgV w bm bB bD r b C R g H (jq s) w2.heap.size w2 m ps σ2 (.slice a7 (qM L ⟨(vF k:Int),jq s ps,jq s m⟩).length p7) (qM L ⟨(vF k:Int),jq s ps,jq s m⟩) (w7.setCell ⟨w.heap.size+1,0,none⟩ (.slice a7 (qM L ⟨(vF k:Int),jq s ps,jq s m⟩).length p7))):=fV
      {rel:=⟨aJ,_,_,_,hfl6,b5⟩
       lk:=by
        rw[a1.block b (mi B.out.lt (j7 big6 N.size)) (by
         intro U;have e:=List.mem_singleton.1 U;omega)]
        exact bI
       gM:=⟨ae.av,ae.ne,iX aL,λi hi=>by rw[fW aL,<-fW ad];exact ae.at_ i hi⟩
       aty:=⟨_,aL⟩
       tb:=gm an 0 _
       sb:=a1.at b8 (az b8 (by decide))
       own:=a1.ownsRow aR (λq hq=>by
        rcases aR.2 with⟨e2,_⟩|⟨q',a3,aq,e2,_,hc,_⟩
        .rw[e2]at hq;cases hq
        .rw[e2]at hq;have e3:=jy hq;subst e3;exact az hc (by decide))
       kept:=bG.setCell (.inr (by simp)) _
       le:=bu.2
       pos:=aP
       len:=by have h8:=Ww L ⟨(vF k:Int),jq s ps,jq s m⟩;have h9:=G.len;omega
       SS:=⟨G.SS.1,j7 (j7 big6 N.size) a1.size⟩
       rge:=G.rge}
     have P8:=aH.ps;have aN:R.cs.size - m < R.cs.size - ps:=by omega
     generalize hlq:(qM L ⟨(vF k:Int),jq s ps,jq s m⟩).length=bL at *;go_wp2;go_roundw
     case rel=>exact⟨n,m,ps,σ2,_,_,HE,aT,by omega⟩
     case measure=>rw[P8,P0];simpa [intOf]using aN
def XF (R:RC) (σ:Ab) (ps:Nat) (t:gO):zo (xu R σ ps t) t:=by
 intro h;have⟨a,b,k,gM⟩:=t;cases k<;>first|rfl|cases h
def TM (g:AM σ) (R:RC) (ps:Nat) (t:gO):AM (xu R σ ps t):=⟨g.iv.nD rfl rfl rfl rfl rfl rfl rfl,g.ms,g.wz⟩
def PF (R:RC) (e:Nat->Nat) (ps:Nat) (σ:Ab):abD->Prop
 | .stuck=>False
 | .stop _ p=>∃q,ps<=q/\q<=R.cs.size/\p=e q
 | .done σ' _=>AM σ'/\Lc σ'<=Lc σ+580*(R.cs.size+1 - ps)/\σ'.qv=σ.qv/\σ'.rZ=σ.rZ/\σ'.pG=σ.pG
theorem XR {i : Nat->Nat} (U:∀x t,look x=some t->t.size<=16) (X:R.cs.size<=1024):∀(n ps:Nat) (σ:Ab) (L:List Sp),ps<=R.cs.size->R.cs.size - ps < n->AM σ->Lc σ+580*(R.cs.size+1 - ps) < 990000->σ.waiting.length+(R.cs.size+1 - ps) < 4000->PF R i ps σ (nP R look lg i n ps σ L):=by
 intro n
 induction n with
 |zero=>simp
 |succ n ih=>
  intro ps σ L Q Z g hp hw;rw[nP];have j:ps < R.cs.size->Al (QR R σ.nJ σ.iY) ps (kR (QR R σ.nJ σ.iY) look lg ps):=λh=>(Dg (R:=QR R σ.nJ σ.iY) U X h).1;have v:ps=R.cs.size->kR (QR R σ.nJ σ.iY) look lg ps= .tok .Xe R.cs.size:=λe=>by rw[e];exact JV (R:=QR R σ.nJ σ.iY)
  cases hT:kR (QR R σ.nJ σ.iY) look lg ps with
  |stop=>grind[PF]
  |tok k m=>
   dsimp only;have y:Ys k:=by
    rcases mO ps R.cs.size with h|h
    .have:=j h;rw[hT]at this;exact this.2.2.2.2
    .grind[Ys]
   have z:vF k≠0->ps < m/\m<=R.cs.size:=by
    intro q;rcases mO ps R.cs.size with h|h
    .have:=j h;rw[hT]at this;exact⟨this.1,this.2.1⟩
    .have:=v (by omega);rw[hT]at this;obtain⟨rfl,_⟩:=AP.tok.inj this;exact absurd rfl q
   have V:=adD (qd (i ps) (i m) k) (y.tok _ _) (TM g R ps (qd (i ps) (i m) k)) (XF R σ ps _) (by show Lc σ < _;omega) (by grind[xu]);have T:(qd (i ps) (i m) k).a=i ps:=by cases k<;>rfl
   revert V;cases hT1:qJ (ie false xf) (qd (i ps) (i m) k) (xu R σ ps (qd (i ps) (i m) k))with
   |stuck=>simp[RTk]
   |stop c p=>
    intro h;refine⟨ps,gW _,Q,?_⟩;rw[<-T];exact h
   |ok u σ2=>
    rintro⟨A,B,C,E,F,H⟩;have G:σ2.waiting.length<=σ.waiting.length+1:=F;have I:Lc σ2<=Lc σ+580:=H;dsimp only;split
    .exact⟨A,by omega,B,C,E⟩
    .rename_i q;have⟨m1,m2⟩:=z q;have S:=ih m σ2 (qM L ⟨(vF k:Int),i ps,i m⟩) m2 (by omega) A (by omega) (by omega);revert S;cases nP R look lg i n m σ2 (qM L ⟨(vF k:Int),i ps,i m⟩)with
     |stuck=>simp[PF]
     |stop c p=>grind[PF]
     |done σ' L'=>rintro⟨J,Y,K,N,O⟩;exact⟨J,by omega,K.trans B,N.trans C,O.trans E⟩
def DJ {i : Nat} {e : Ak} (h:(S0 d f l a).ij i=some e):e.jl=none/\e.kids=[]:=by rw[YD h];simp
def af1 (g:d<=64) (z:f<=32):nr (S0 d f l a):=
 ⟨λ_=>0,{
  oT:=⟨λi e p h q=>(by rw[(DJ h).1]at q;cases q),λi e j h u=>(by rw[(DJ h).2]at u;cases u),λi e h=>(by rw[(DJ h).2];simp[iM]),λi e h k v=>(by rw[(DJ h).2]at v;cases v)⟩
  ur:=⟨λi e p h q=>(by rw[(DJ h).1]at q;cases q),List.Pairwise.nil,λd h A=>by cases A⟩
  gG:=λx C=>by cases C
  act:=λi B=>by cases B
  head:=λd g=>by cases g
  form:=λd g=>by cases g
  Mr:=λx y h=>by cases h
  x9:=iN _
  AC:=iN _
  Qc:=g
  SU:=z
  xX:=rfl}⟩
def abF (e:d<=64) (g:f<=32):AM (S0 d f l a):=⟨af1 e g,.inl (.inl ⟨iN _,rfl,rfl⟩),λx h=>by cases h⟩
def YE:Lc (S0 d f l a)<=1000:=by show([Vu (.el ⟨⟨#[]⟩,[],none,[]⟩)].sum+200*0<=1000);decide
def sw (R:RC) (av e:gQ) (lg:Int):RC:={R with av:=av,mv:=e,lg:=lg}
theorem U9 (R:RC) (av e:gQ) (lg:Int):∀(n i:Nat),R.cs.size - i<=n->ut (sw R av e lg) i=ut R i
 |0,i,h=>by
  grind[ut,sw]
 |n+1,i,h=>by
  rw[ut.eq_1 (sw R av e lg) i,ut.eq_1 R i];show(if i < R.cs.size then (if pre (R.cs.extract i R.cs.size) e1=true then i+3 else if pre (R.cs.extract i R.cs.size) e2=true then i+4 else ut (sw R av e lg) (i+1))else i)=_;split
  .rw[U9 R av e lg n (i+1) (by omega)]
  .rfl
theorem Qb (R:RC) (av e:gQ) (lg:Int) (a:Nat):∀(n i:Nat),R.cs.size - i<=n->qf (sw R av e lg) a i=qf R a i
 |0,i,h=>by
  grind[qf,sw]
 |n+1,i,h=>by
  rw[qf.eq_1 (sw R av e lg) a i,qf.eq_1 R a i];show(if i < R.cs.size then (if pre (R.cs.extract i R.cs.size) e1=true then R.cs.extract a i else if pre (R.cs.extract i R.cs.size) e2=true then R.cs.extract a i else qf (sw R av e lg) a (i+1))else zM (R.cs.extract a R.cs.size))=_;split
  .rw[Qb R av e lg a n (i+1) (by omega)]
  .rfl
def KI (R:RC) (av j:gQ) (g:Int) (look:gz->Option gz) (lg:Nat):∀(n:Nat) (L:lZ) (i:Nat),R.cs.size - i<=n->mg (sw R av j g) look lg L i=mg R look lg L i
 |0,L,i,h=>by
  have u:=tE (R:=R) (ps:=i);rw[mg.eq_1 (sw R av j g) look lg L i,mg.eq_1 R look lg L i,dif_neg (by show ¬jj R i < R.cs.size;omega),dif_neg (by omega)]
 |n+1,L,i,h=>by
  have u:=tE (R:=R) (ps:=i);rw[mg.eq_1 (sw R av j g) look lg L i,mg.eq_1 R look lg L i]
  by_cases q:jj R i < R.cs.size
  .rw[xF (show jj (sw R av j g) i < (sw R av j g).cs.size from q),xF q];have v:=xi (R:=R) (ps:=jj R i);have x:=zg (R:=R) (ps:=kJ R (jj R i));have e:=KI R av j g look lg n (rV R look lg L (jj R i)) (pZ R (kJ R (jj R i))) (by omega);show(if pre (R.cs.extract (jj R i) R.cs.size) iW=true then IM.whole (jj R i+1) L else if zZ R (L.map (·.1)) (jj R i)=true then .stop else mg (sw R av j g) look lg (rV R look lg L (jj R i)) (pZ R (kJ R (jj R i))))=_;rw[e]
  .rw[dif_neg (show ¬jj (sw R av j g) i < (sw R av j g).cs.size from q),dif_neg q]
def aaX (R:RC) (av g:gQ) (e:Int) (look:gz->Option gz) (lg bg ps:Nat):nj (sw R av g e) look lg bg ps=nj R look lg bg ps:=by
 unfold nj;rw[KI R av g e look lg _ [] _ (gW _)];rfl
def WQ (R:RC) (av g:gQ) (e:Int) (ps:Nat):oj (sw R av g e) ps=oj R ps:=by
 unfold oj;rw[U9 R av g e _ ps (gW _)];rfl
def Tk (R:RC) (av g:gQ) (e:Int) (ps:Nat):oB (sw R av g e) ps=oB R ps:=by
 unfold oB;rw[Qb R av g e _ _ ps (gW _)];rfl
def acz (R:RC) (av h:gQ) (g:Int) (look:gz->Option gz) (lg bg ps:Nat):rL (sw R av h g) look lg bg ps=rL R look lg bg ps:=by
 unfold rL;rw[KI R av h g look lg _ [] _ (gW _),aaX,WQ,Tk];have e:∀O,uh (sw R av h g) .Uw (zd (sw R av h g) ps) O=uh R .Uw (zd R ps) O:=λO=>by rfl
 rw[e];rfl
def acE (R:RC) (av h:gQ) (g:Int) (look:gz->Option gz) (lg ps:Nat):kR (sw R av h g) look lg ps=kR R look lg ps:=by
 unfold kR;have e:uM (sw R av h g) ps=sw (uM R ps) av h g:=rfl;rw[e,acz];rfl
def M5 (R:RC) (av j:gQ) (i:Int) (look:gz->Option gz) (lg:Nat) (g:Nat->Nat):∀(n ps:Nat) (σ:Ab) (L:List Sp),nP (sw R av j i) look lg g n ps σ L=nP R look lg g n ps σ L
 |0,_,_,_=>rfl
 |n+1,ps,σ,L=>by
  rw[nP,nP];have e:QR (sw R av j i) σ.nJ σ.iY=sw (QR R σ.nJ σ.iY) av j i:=rfl;rw[e,acE];cases kR (QR R σ.nJ σ.iY) look lg ps with
  |stop=>rfl
  |tok k m=>
   have e2:xu (sw R av j i) σ ps (qd (g ps) (g m) k)=xu R σ ps (qd (g ps) (g m) k):=by
    unfold xu Bg
    by_cases h:ps=R.cs.size
    .rw[gJ (show ps=(QR (sw R av j i) σ.nJ σ.iY).cs.size from h),gJ (show ps=(QR R σ.nJ σ.iY).cs.size from h)];rfl
    .rw[gV (show ¬ps=(QR (sw R av j i) σ.nJ σ.iY).cs.size from h),gV (show ¬ps=(QR R σ.nJ σ.iY).cs.size from h)];rfl
   dsimp only;rw[e2];cases qJ (ie false xf) (qd (g ps) (g m) k) (xu R σ ps (qd (g ps) (g m) k))with
   |stuck=>rfl
   |stop c p=>rfl
   |ok u σ2=>
    dsimp only;rw[M5 R av j i look lg g n m σ2]
def Bk (d f l:Nat) (s:gz):abD:=nP (sG s l .nilFunc 0) (qg KV) 8 (jq s) ((pd s).size+1) 0 (S0 d f l 0) []
def M6 (d f l:Nat) (s:gz) (av:gQ) (b:Nat):nP (sG s l av b) (qg KV) 8 (jq s) ((pd s).size+1) 0 (S0 d f l 0) []=Bk d f l s:=
 M5 (sG s l .nilFunc 0) av (.map (some b)) 8 (qg KV) 8 (jq s) _ _ _ _
def DS (s:gz):(pd s).size<=s.size:=by rw[uF];exact Im s s.size
theorem x7:∀x t,qg KV x=some t->t.size<=16:=by
 intro x t e;unfold qg at e;obtain⟨p,g,rfl⟩:=Option.map_eq_some_iff.1 e;have:=List.all_eq_true.1 PC p (List.mem_of_find?_eq_some g)
 grind
theorem FU (d f l:Nat) (s:gz) (j:s.size<=1024) (e:d<=64) (g:f<=32):PF (sG s l .nilFunc 0) (jq s) 0 (S0 d f l 0) (Bk d f l s):=by
 have h:=DS s;have i:=YE (d:=d) (f:=f) (l:=l) (a:=0);refine XR (R:=sG s l .nilFunc 0) x7 (by grind[sG]) _ _ _ _ (iN _) ?_ (abF e g) ?_ ?_
 .simp[sG]
 .show Lc _+580*((pd s).size+1 - 0) < 990000;omega
 .show 0+((pd s).size+1 - 0) < 4000;omega
def M7 (s:gz) (i:gQ) (base d f l:Nat) (w:gx) (z:w.ownsRow base 5 1 i s.size (kH s)) (u:s.size<=1024) (j:d<=64) (q:f<=32) (y:l<=16) (x:xL w) (g:Ij w):
  Calls prog 38 #[i,.agg #[gh d,gh f,gh l]] w λe w'=>II w e w' (Bk d f l s):=by
 refine(aaG s i base d f l w z u j q y x g (λv b h=>?_)).mono ?_
 .rw[M6]at h;have:=FU d f l s u j q
  rwa [h]at this
 .rintro e w' ⟨v,b,h⟩
  rwa [M6]at h
def Dk (d f l:Int) (n:Nat) (v:gQ) (k:Nat):jN:=#[gh d,gh f,gh l,jc,.bool true,gh n,.nilIface,v,gN k]
def YH (w:gx) (D:Tn) (L:List Sp) (e:Ending) (w':gx):Prop:=
 ∃v k,e=iw (.tuple #[.agg #[v,gN k],.pointer none])/\jL w' D (.el k)/\w'.ownsRow w.heap.size 53 3 v L.length (kD L)/\L.length<=1024/\Kept [] w w'
def IJ (s:gz) (d f l:Nat) (D:Tn) (L:List Sp):Prop:=∀(g:gQ) (e:Nat) (w:gx),w.ownsRow e 5 1 g s.size (kH s)->xL w->Ij w->
  Calls prog 38 #[g,.agg #[gh d,gh f,gh l]] w (YH w D L)
def aex (w:gx) (D:Tn) (L:List Sp) (v3 v4:gQ) (wc:gx):Prop:=∃e v k,v3=gN e/\v4= .pointer none/\w.heap.size<=e/\wc.heap[e]?=some (gL #[v,gN k] 74)/\jL wc D (.el k)/\wc.ownsRow w.heap.size 53 3 v L.length (kD L)/\L.length<=1024/\Kept [] w wc
theorem Ja {e : Ending} (h:YH W D L e w2) (C:Kept [] w W):∃v k,e=iw (.tuple #[.agg #[v,gN k],.pointer none])/\(∃G n F,v= .slice G n F)/\aex w D L (gN w2.heap.size) (.pointer none) (w2.alloc (gL #[v,gN k] 74))/\
  (∀g,w.heap.size<=g->W.heap[g]?=some (gL #[jc,.pointer none] 74)->w2.heap[g]?=some (gL #[jc,.pointer none] 74)/\aex w D L (gN g) (.pointer none) ((w2.setCell ⟨g,0,none⟩ v).setCell ⟨g,1,none⟩ (gN k))):=by
 obtain⟨v,k,rfl,I,A,z,j⟩:=h;have K:w.heap.size<=W.heap.size:=C.size;have i:=jR A K;have E:=(Kept.refl [] w2).alloc (gL #[v,gN k] 74);have⟨G,F,hv⟩:=gF A;refine⟨v,k,rfl,⟨_,_,_,hv⟩,⟨_,v,k,rfl,rfl,j7 K j.size,fX w2 _,jL.kept E I,E.ownsRow i (λ_ _=>by simp),z,(C.trans j).trans E⟩,?_⟩;intro g u Q;have x:=j.at Q (by simp);have N:Kept [g] w2 ((w2.setCell ⟨g,0,none⟩ v).setCell ⟨g,1,none⟩ (gN k)):=((Kept.refl _ _).setCell (.inl (by simp)) _).setCell (.inl (by simp)) _;refine⟨x,g,v,k,rfl,rfl,u,gm (gm x 0 _) 1 _,jL.kn (KN.jQ N (λq y c t B J=>?_)) I,N.ownsRow i (λq y S=>?_),z,((C.trans j).setCell (.inr u) _).setCell (.inr u) _⟩
 .have e:=List.mem_singleton.1 y;subst e;rw[x]at B;simp at B;rw[<-B.2]at J;revert J;decide
 .have e:=List.mem_singleton.1 S;subst e;rcases i.2 with⟨e2,_⟩|⟨U,H,O,e2,_,B,_⟩
  .rw[e2]at y;cases y
  .rw[e2]at y;have T:=jy y
   grind
def Ii (w:gx) (e d f l:Nat) (s:gz) (D:Tn) (L:List Sp) (w':gx):Prop:=∃v k,w'.heap[e]?=some (gL (Dk d f l s.size v k) 76)/\jL w' D (.el k)/\w'.ownsRow w.heap.size 53 3 v L.length (kD L)/\L.length<=1024/\Kept [e] w w'
def Th (h d f l:Nat) (Y:gQ) (s:gz) (base:Nat) (w:gx) (z:w.heap[h]?=some (gL (ry ((d:Int),(f:Int),(l:Int)) Y) 76)) (V:w.ownsRow base 5 1 Y s.size (kH s)) (hT:xL w) (G:Ij w) (hn:IJ s d f l D L):
  Calls prog 28 #[gN h] w λe w'=>e= .returned .nilIface/\Ii w h d f l s D L w':=by
 have⟨ao,cp,htv⟩:=gF V;subst htv;have a1:=iX z;have c0:w.cell? ⟨h,0,none⟩=some (gh d):=by rw[fW z];rfl
 have c1:w.cell? ⟨h,1,none⟩=some (gh f):=by rw[fW z];rfl
 have c2:w.cell? ⟨h,2,none⟩=some (gh l):=by rw[fW z];rfl
 have c3:w.cell? ⟨h,3,none⟩=some (.slice ao s.size cp):=by rw[fW z];rfl
 have CI:=A7 h ((d:Int),(f:Int),(l:Int)) _ w z;have K:=(λW (u:Kept [] w W)=>hn (.slice ao s.size cp) base W (u.ownsRow V (λ_ _=>by simp)) (hT.fr (bm:=0) (.gU u)) (G.kept u));have HX:=z;have HG:=fX w.drew (gL #[jc,.pointer none] 74);go_enter func28,ntmps28
 go_wp21
 refine CI.mono ?_;rintro e j ⟨rfl,rfl⟩
 go_wp21
 go_cut [3,4]from 8 to 19 (λv3 v4 wc=>aex j D L v3 v4 wc)
 case first=>
  go_region_with (go_at_call 38;first
   |(refine(K _ ((Kept.refl [] j).drew)).mono ?_;intro e w2 A;obtain⟨v,k,rfl,⟨F,n,E,rfl⟩,O,_⟩:=Ja A ((Kept.refl [] j).drew);have B:=fV O;clear O A)
   |(refine(K _ (((Kept.refl [] j).drew).alloc _)).mono ?_;intro e w2 A;obtain⟨v,k,rfl,⟨F,n,E,rfl⟩,_,Q⟩:=Ja A (((Kept.refl [] j).drew).alloc _);have⟨h3,h4⟩:=Q j.heap.size (gW _) HG;have q0:w2.cell? ⟨j.heap.size,0,none⟩=some (jc):=(by rw[fW h3];rfl);have q1:w2.cell? ⟨j.heap.size,1,none⟩=some (.pointer none):=(by rw[fW h3];rfl);have z0:=gu h3 0;have z1:=gu h3 1;have B:=fV h4;clear Q h3 h4 A))
  all_goals (try (go_wp21))
  all_goals (go_meet;exact B)
 case rest=>
  obtain⟨C,v,k,rfl,rfl,a0,G,x,i,y,u⟩:=hcut;have⟨F,E,hv⟩:=gF i;subst hv;have g:=u.at HX (by simp);have e3:wc.cell? ⟨h,3,none⟩=some (.slice ao s.size cp):=by rw[fW g];rfl
  have e4:wc.cell? ⟨h,4,none⟩=some (.bool false):=by rw[fW g];rfl
  have e5:wc.cell? ⟨h,5,none⟩=some (gh 0):=by rw[fW g];rfl
  have e7:wc.cell? ⟨h,7,none⟩=some (jc):=by rw[fW g];rfl
  have e8:wc.cell? ⟨h,8,none⟩=some (.pointer none):=by rw[fW g];rfl
  have t0:wc.cell? ⟨C,0,none⟩=some (.slice F L.length E):=by rw[fW G];rfl
  have t1:wc.cell? ⟨C,1,none⟩=some (gN k):=by rw[fW G];rfl
  have f4:=gu g 4;have f5:=gu g 5;have f7:=gu g 7;have f8:=gu g 8;have a2:C≠h:=by omega
  have U:h≠C:=by omega
  have T:=iX g;have N:=And.intro g (And.intro x (And.intro i (And.intro y u)))
  go_wp21
  go_cut []from 20 to 34 (λZ=>Z.heap[h]?=some (gL #[gh d,gh f,gh l,.slice ao s.size cp,.bool true,gh s.size,.nilIface,.slice F L.length E,gN k] 76)/\Kept [h] wc Z)
  case first=>
   go_region
   all_goals (try (go_wp21))
   all_goals (go_meet;exact⟨gm (gm (gm (gm N.1 _ _) _ _) _ _) _ _,(((((Kept.refl [h] wc).setCell (.inl (by simp)) _).setCell (.inl (by simp)) _).setCell (.inl (by simp)) _).setCell (.inl (by simp)) _).drew⟩)
  case rest=>
   have⟨hx3,hk3⟩:=hcut;have⟨g,x,i,y,u⟩:=N;have g3:wc.cell? ⟨h,3,none⟩=some (.slice ao s.size cp):=by rw[fW hx3];rfl
   have g6:wc.cell? ⟨h,6,none⟩=some .nilIface:=by rw[fW hx3];rfl
   have y3:=gu hx3 3;have S:=iX hx3;have J:=hk3.trans ((Kept.refl [h] wc).setCell (p:=⟨h,3,none⟩) (.inl (by simp)) (jc));have B:Hid (Ii j h d f l s D L (wc.setCell ⟨h,3,none⟩ (jc))):=fV ⟨_,k,gm hx3 3 _,jL.kn (KN.jQ J (λq I c t H X=>by
     have e:=List.mem_singleton.1 I;subst e;rw[g]at H;simp at H;rw[<-H.2]at X;revert X;decide)) x,J.ownsRow i (λq I hm=>by
     have e:=List.mem_singleton.1 hm;subst e;have:=(i.lt _ I).1;omega),y,(u.mono (by simp)).trans J⟩
   go_wp2;go_ret;exact⟨rfl,B⟩
def WL (base:Nat) (v:gQ) (L:List Sp) (w:gx) (q:w.ownsRow base 53 3 v L.length (kD L)) (V:L.length<=4096):
  Calls prog 33 #[v] w λe w'=>∃y,e=iw y/\w'.ownsRow w.heap.size 53 3 y L.length (kD L)/\Kept [] w w':=by
 have⟨i0,hi,hz0,hz1,hz2⟩:=ux FD;rcases q.2 with⟨rfl,K⟩|⟨g,i,J,rfl,N,Q,_⟩
 .have T:=λw=>KZ (P:=prog) w 26 53 none 0 0 0 0 underlying26;have:L=[]:=UM K;subst this;clear q;go_enter func33,ntmps33;go_wp2;go_ret;exact⟨_,rfl,od _ _ _ _,Kept.refl _ _⟩
 .have T:=λw=>KZ (P:=prog) w 26 53 (some ⟨g,0,none⟩) L.length i 0 0 underlying26;have I:=fV q;have A:=iX Q;have E:(w.alloc (.cells #[] 53)).ownsRow w.heap.size 53 3 (oe w.heap.size 0 0) 0 []:=
   ⟨rfl,.inr ⟨w.heap.size,0,#[],rfl,gW _,fX w _,gW _,iN _,rfl,rfl⟩⟩
  clear q;go_enter func33,ntmps33;go_wp2_with (at_builtin;refine iA _ rfl _ _ 26 rfl w.heap.size 53 i0 (.agg #[gh 0,gh 0,gh 0]) 3 24 underlying26 hi hz0 hz1 hz2 rfl (by decide) _ _ _ rfl E ⟨g,0,none⟩ L.length i (kD L) rfl ?c1 ?c2 ?c3 ?c4 ?c5 ?c6 ?_)
  case c1=>exact sI L
  case c2=>
   intro j u S;have:=I.cells (g:=g) rfl j u S;rw[jg]at this|-;rw[<-this];exact qy _ _ _ A
  case c3=>
   intro u C;unfold kD at C;simp at C;obtain⟨p,_,h|h|h⟩:=C<;>(subst h;rfl)
  case c4=>omega
  case c5=>omega
  case c6=>simp
  intro y F B z O;have G:F.ownsRow w.heap.size 53 3 y L.length (kD L):=by simpa using B
  have H:Hid (Kept [] w F):=((Kept.refl [] w).alloc _).grown z (λx U=> .inr (E.lt x U).1);go_wp2;go_ret;exact⟨_,rfl,G,H⟩
def UB (g:Nat) (d f l:Int) (n k:Nat) (v:gQ) (w:gx) (h:w.heap[g]?=some (gL (Dk d f l n v k) 76)):
  Calls prog 29 #[gN g] w λe w'=>e=iw (.tuple #[gh n,.nilIface])/\Kept [] w w':=by
 have j:w.cell? ⟨g,4,none⟩=some (.bool true):=by rw[fW h];rfl
 have q:w.cell? ⟨g,5,none⟩=some (gh n):=by rw[fW h];rfl
 have u:w.cell? ⟨g,6,none⟩=some .nilIface:=by rw[fW h];rfl
 have i:=iX h;go_enter func29,ntmps29
 go_wp21
 go_region
 all_goals (try go_wp2)
 all_goals (try go_ret2)
 all_goals exact⟨rfl,(Kept.refl [] w).drew⟩
def GY (h:Nat) (d f l:Int) (n k:Nat) (v:gQ) (w:gx) (q:w.heap[h]?=some (gL (Dk d f l n v k) 76)):
  Calls prog 17 #[gN h] w λe w'=>e=iw (.tuple #[gh n,gh 0,gh 0])/\Kept [] w w':=by
 have C:=UB h d f l n k v w q;go_enter func17,ntmps17
 go_wp21
 refine C.mono ?_;rintro e u ⟨rfl,i⟩
 go_wp21
 refine(EV u).mono ?_;rintro e w2 ⟨rfl,j⟩;have g:=i.trans j;go_wp2;go_ret3;exact⟨rfl,g⟩
def Vy (g d f l:Nat) (i:gQ) (s:gz) (base:Nat) (w:gx) (A:w.heap[g]?=some (gL (ry ((d:Int),(f:Int),(l:Int)) i) 76)) (z:w.ownsRow base 5 1 i s.size (kH s)) (u:xL w) (x:Ij w) (y:IJ s d f l D L):
  Calls prog 16 #[gN g] w λe w'=>e=iw (.tuple #[gh 0,gh 0])/\Ii w g d f l s D L w':=by
 have C:=Th g d f l i s base w A z u x y;go_enter func16,ntmps16
 go_wp21
 refine C.mono ?_;rintro e B ⟨rfl,j⟩
 go_wp21
 refine(EV B).mono ?_;rintro e w2 ⟨rfl,h⟩;have q:Hid (Ii w g d f l s D L w2):=by
  have⟨v,k,h1,h2,h3,h4,h5⟩:=j;exact fV ⟨v,k,h.at h1 (by simp),jL.kept h h2,h.ownsRow h3 (λ_ _=>by simp),h4,h5.trans (h.mono (by simp))⟩
 go_wp2;go_ret2;exact⟨rfl,q⟩
theorem aa9 (g:Nat) (d f l:Int) (n k base:Nat) (v:gQ) (L:List Sp) (w:gx) (j:w.heap[g]?=some (gL (Dk d f l n v k) 76)) (i:w.ownsRow base 53 3 v L.length (kD L)) (q:L.length<=4096):
  Calls prog 20 #[gN g] w λe w'=>∃h,e=iw h/\w'.ownsRow w.heap.size 53 3 h L.length (kD L)/\Kept [] w w':=by
 have z:w.cell? ⟨g,7,none⟩=some v:=by rw[fW j];rfl
 have C:=WL base v L w i q;have⟨ao,cp,hv⟩:=gF i;subst hv;have u:=iX j;go_enter func20,ntmps20
 go_wp21
 refine C.mono ?_;rintro e w' ⟨h,rfl,x,y⟩;go_wp2;go_ret
 simp_all
def Nh (v:gQ) (w:gx):(ReflectliteType.typeOf #[.iface 78 v]).run prog w= .ok (.iface 145 (.agg #[jO 7 78])) w:=rfl
def L0 (w:gx):(ReflectliteType.relation "AssignableTo" ReflectliteType.assignableTo #[.agg #[jO 7 78],.iface 145 (.agg #[jO 7 78])]).run prog w= .ok (.bool true) w:=by kernel_rfl
def FX (w:gx):(ReflectliteType.relation "AssignableTo" ReflectliteType.assignableTo #[.agg #[jO 7 78],.iface 145 (.agg #[jO 7 24])]).run prog w= .ok (.bool false) w:=by kernel_rfl
def Ut (p:Addr) (w:gx):(ReflectliteValue.unpack (.iface 78 (.pointer (some p)))).run prog w
  = .ok (.agg #[jO 7 78,gN w.heap.size,.int .u64 150]) (w.alloc (.cells #[.pointer (some p)] 78)):=by kernel_rfl
def X0 (w:gx):(Rtype.elem? 80).run prog w= .ok (some 78) w:=by kernel_rfl
def agG (p:Addr) (w:gx):(ReflectliteValue.mk 78 p ReflectliteValue.flagAddr).run prog w= .ok (.agg #[jO 7 78,.pointer (some p),.int .u64 406]) w:=by kernel_rfl
def aaZ (a p:Addr) (W:gx) (e:W.cell? a=some (.pointer (some p))):
  (ReflectliteValue.method (ReflectliteValue.valueError "reflectlite.Value.Elem" 0) ReflectliteValue.elem #[.agg #[jO 7 80,.pointer (some a),.int .u64 150]]).run prog W
   = .ok (.agg #[jO 7 78,.pointer (some p),.int .u64 406]) W:=by
 rw[rlm];simp only[SN,Ni,Result.andThen];simp[ReflectliteValue.elem,loadVar,isAgg,underlying,underlying80,e,Result.andThen,X0,agG]
def X1 (a:Addr) (w:gx):(ReflectliteValue.parts (.agg #[jO 7 78,.pointer (some a),.int .u64 406])).run prog w= .ok (some (78,a,406)) w:=rfl
def aa0 (a:Addr) (w:gx):(ReflectliteValue.parts (.agg #[jO 7 78,.pointer (some a),.int .u64 150])).run prog w= .ok (some (78,a,150)) w:=rfl
def XZ (w:gx):(Rtype.directlyAssignable 78 78).run prog w= .ok true w:=by rfl
theorem afF (e b p:Addr) (g:gQ) (W:gx) (h:W.cell? b=some (.pointer (some p))) (j:W.cell? e=some g) (i:W.frozen? e=false):
  (ReflectliteValue.set #[.agg #[jO 7 78,.pointer (some e),.int .u64 406],.agg #[jO 7 78,.pointer (some b),.int .u64 150]]).run prog W
   = .ok (.tuple #[]) (W.setCell e (.pointer (some p))):=by
 rw[rls];simp only[SN,X1,aa0,Result.andThen];simp[ReflectliteValue.flagAddr,loadVar,isAgg,underlying,underlying78,h,Result.andThen,XZ,storeVar,Value.cells,storeCells,Addr.add];rw[run_store prog W e _ _ rfl]
 grind
def ado (v:gQ) (e:TypeId) (w:gx):(Instr.typeAssert (.iface 78 v) e 149 true).run prog w= .ok (.tuple #[.nilIface,.bool false]) w:=run_typeAssert_lacksB underlying149 (by kernel_rfl) (by kernel_rfl) v e w
def adp (v:gQ) (e:TypeId) (w:gx):(Instr.typeAssert (.iface 78 v) e 156 true).run prog w= .ok (.tuple #[.nilIface,.bool false]) w:=run_typeAssert_lacksB underlying156 (by kernel_rfl) (by kernel_rfl) v e w
def EM (v:gQ) (e:TypeId) (w:gx):(Instr.typeAssert (.iface 78 v) e 152 true).run prog w= .ok (.tuple #[.iface 78 v,.bool true]) w:=run_typeAssert_hasB underlying152 (by kernel_rfl) v e w
def Ay (v:gQ) (w:gx):(Go.method 500 78 v "Unwrap").run prog w= .ok (415,v) w:=by kernel_rfl
def Hi (p n:Nat) (g:Int) (k:Int) (w:gx) (i:w.heap[p]?=some (gL #[gh k,gh g] 83)) (h:n=0):
  Calls prog 415 #[jO p n] w λe w'=>e=iw (.iface 24 (gh k))/\w'=w:=by
 subst h;have j:w.cell? ⟨p,0,none⟩=some (gh k):=by simp[World.cell?,i]
 go_enter func415,ntmps415;go_wp2;go_ret;simp
def PQ (p t:Addr) (j:gQ) (w:gx) (v:w.cell? ⟨0,0,none⟩=some (.iface 145 (.agg #[jO 7 59]))) (g:w.cell? t=some j) (q:w.frozen? t=false):
  Calls prog 34 #[.iface 78 (.pointer (some p)),.iface 80 (.pointer (some t))] w λz w'=>z=iw (.bool true)/\w'=((((w.alloc (.cells #[.pointer (some t)] 80)).alloc (.cells (rv 80 w.heap.size) 105)).alloc (.cells (rv 80 w.heap.size) 105)).alloc (.cells #[.pointer (some p)] 78)).setCell t (.pointer (some p)):=by
 have V:=@run_callFunc_extern prog 44 _ (λe=>ReflectliteValue.unpack (e.getD 0 (.tuple #[]))) func44 (by rfl) (by rfl) rfl rfl;have X:=@run_callFunc_extern prog 45 _ (ReflectliteValue.methodAny (ReflectliteValue.valueError "reflectlite.Value.Type" 0) (λt _ _ _=>ReflectliteType.toType t)) func45 (by rfl) (by rfl) rfl rfl;have Y:=@run_callFunc_extern prog 46 _ (ReflectliteValue.method (ReflectliteValue.valueError "reflectlite.Value.IsNil" 0) ReflectliteValue.isNil) func46 (by rfl) (by rfl) rfl rfl;have F:=@run_callFunc_extern prog 407 _ (ReflectliteType.abiMethod λt=>do pure (.int .u8 (<-Rtype.kind t))) func407 (by rfl) (by rfl) rfl rfl;have H:=@run_callFunc_extern prog 428 _ (ReflectliteType.method ReflectliteType.elem) func428 (by rfl) (by rfl) rfl rfl;have I:=@run_callFunc_extern prog 429 _ (ReflectliteType.relation "Implements" ReflectliteType.implements_) func429 (by rfl) (by rfl) rfl rfl;have B:=@run_callFunc_extern prog 48 _ ReflectliteType.typeOf func48 (by rfl) (by rfl) rfl rfl;have G:=@run_callFunc_extern prog 426 _ (ReflectliteType.relation "AssignableTo" ReflectliteType.assignableTo) func426 (by rfl) (by rfl) rfl rfl;have C:=@run_callFunc_extern prog 64 _ (ReflectliteValue.method (ReflectliteValue.valueError "reflectlite.Value.Elem" 0) ReflectliteValue.elem) func64 (by rfl) (by rfl) rfl rfl;have E:=@run_callFunc_extern prog 65 _ ReflectliteValue.set func65 (by rfl) (by rfl) rfl rfl;have tO:=Nh;have Z:=Ct;have x:=L0;have Q:=Ut;have T:=Uv;have U:=adu;have mK:=VH;have mE:=VG;have mI:=Cu;have O:=aa2;have N:=adt;have y:=ads;have K:=L5;have n8:=aa1 ⟨w.heap.size,0,none⟩ t ((w.alloc (.cells #[.pointer (some t)] 80)).alloc (.cells (rv 80 w.heap.size) 105)) (by simp);have u:0 < w.heap.size:=by
  rcases xE w.heap.size with A|h
  .simp[World.cell?,A]at v
  .exact h
 have J:((w.alloc (.cells #[.pointer (some t)] 80)).alloc (.cells (rv 80 w.heap.size) 105)).cell? ⟨0,0,none⟩=some (.iface 145 (.agg #[jO 7 59])):=by
  rw[qy _ _ ⟨0,0,none⟩ (by simp),qy _ _ ⟨0,0,none⟩ u];exact v
 have i:t.block < w.heap.size:=by
  rcases mO t.block w.heap.size with h|h
  .exact h
  .simp[World.cell?,La h]at g
 have S:=aaZ ⟨w.heap.size,0,none⟩ t (((w.alloc (.cells #[.pointer (some t)] 80)).alloc (.cells (rv 80 w.heap.size) 105)).alloc (.cells (rv 80 w.heap.size) 105)) (by rw[qy _ _ ⟨w.heap.size,0,none⟩ (by simp;omega)];simp);have st:=afF t ⟨w.heap.size+1+1+1,0,none⟩ p j ((((w.alloc (.cells #[.pointer (some t)] 80)).alloc (.cells (rv 80 w.heap.size) 105)).alloc (.cells (rv 80 w.heap.size) 105)).alloc (.cells #[.pointer (some p)] 78))
  (by rw[World.cell?_alloc_at _ _ _ _ (by simp)];rfl)
  (by rw[qy _ _ t (by simp;omega),qy _ _ t (by simp;omega),qy _ _ t (by simp;omega),qy _ _ t i];exact g)
  (by rw[BC _ _ t (by simp;omega),BC _ _ t (by simp;omega),BC _ _ t (by simp;omega),BC _ _ t (Nat.ne_of_lt i)];exact q)
 go_enter func34,ntmps34;go_wp2;refine uj 1 ?_;rw[nU];go_wp2;go_ret;exact⟨rfl,rfl⟩
theorem Lg (p:Nat) (g k:Int) (t:Addr) (u:gQ) (w:gx) (A:w.heap[p]?=some (gL #[gh k,gh g] 83)) (S:w.cell? ⟨0,0,none⟩=some (.iface 145 (.agg #[jO 7 59]))) (j:w.cell? t=some u) (v:w.frozen? t=false):
  Calls prog 34 #[.iface 78 (gN p),.iface 85 (.pointer (some t))] w λG w'=>G=iw (.bool true)/\w'=((((w.alloc (.cells #[.pointer (some t)] 85)).alloc (.cells (rv 85 w.heap.size) 105)).alloc (.cells (rv 85 w.heap.size) 105)).alloc (.cells #[gh k] 24)).setCell t (gh k):=by
 have h6:=@run_callFunc_extern prog 44 _ (λi=>ReflectliteValue.unpack (i.getD 0 (.tuple #[]))) func44 (by rfl) (by rfl) rfl rfl;have h7:=@run_callFunc_extern prog 45 _ (ReflectliteValue.methodAny (ReflectliteValue.valueError "reflectlite.Value.Type" 0) (λt _ _ _=>ReflectliteType.toType t)) func45 (by rfl) (by rfl) rfl rfl;have h8:=@run_callFunc_extern prog 46 _ (ReflectliteValue.method (ReflectliteValue.valueError "reflectlite.Value.IsNil" 0) ReflectliteValue.isNil) func46 (by rfl) (by rfl) rfl rfl;have K:=@run_callFunc_extern prog 407 _ (ReflectliteType.abiMethod λt=>do pure (.int .u8 (<-Rtype.kind t))) func407 (by rfl) (by rfl) rfl rfl;have O:=@run_callFunc_extern prog 428 _ (ReflectliteType.method ReflectliteType.elem) func428 (by rfl) (by rfl) rfl rfl;have Q:=@run_callFunc_extern prog 429 _ (ReflectliteType.relation "Implements" ReflectliteType.implements_) func429 (by rfl) (by rfl) rfl rfl;have H:=@run_callFunc_extern prog 48 _ ReflectliteType.typeOf func48 (by rfl) (by rfl) rfl rfl;have N:=@run_callFunc_extern prog 426 _ (ReflectliteType.relation "AssignableTo" ReflectliteType.assignableTo) func426 (by rfl) (by rfl) rfl rfl;have I:=@run_callFunc_extern prog 64 _ (ReflectliteValue.method (ReflectliteValue.valueError "reflectlite.Value.Elem" 0) ReflectliteValue.elem) func64 (by rfl) (by rfl) rfl rfl;have J:=@run_callFunc_extern prog 65 _ ReflectliteValue.set func65 (by rfl) (by rfl) rfl rfl;have tO:=Nh;have Y:=MB;have mA:=Ct;have C:=FX;have E:=Lw;have Z:=Qh;have f6:=Tv;have f7:=ab9;have mK:=VH;have mE:=VG;have mI:=Cu;have X:=Zp;have V:=ab8;have F:=ab7;have U:=Lx;have x1:=ado;have x2:=EM;have x3:=Ay;have n8:=Zo ⟨w.heap.size,0,none⟩ t ((w.alloc (.cells #[.pointer (some t)] 85)).alloc (.cells (rv 85 w.heap.size) 105)) (by simp);have x:0 < w.heap.size:=by
  rcases xE w.heap.size with h0|h
  .grind
  .exact h
 have T:((w.alloc (.cells #[.pointer (some t)] 85)).alloc (.cells (rv 85 w.heap.size) 105)).cell? ⟨0,0,none⟩=some (.iface 145 (.agg #[jO 7 59])):=by
  rw[qy _ _ ⟨0,0,none⟩ (by simp),qy _ _ ⟨0,0,none⟩ x];exact S
 have q:t.block < w.heap.size:=by
  rcases mO t.block w.heap.size with h|h
  .exact h
  .simp[World.cell?,La h]at j
 have y:=iX A;have B:Hid ((((w.alloc (.cells #[.pointer (some t)] 85)).alloc (.cells (rv 85 w.heap.size) 105)).alloc (.cells (rv 85 w.heap.size) 105)).heap[p]?=some (gL #[gh k,gh g] 83)):=by
  show _=_;rw[Below.heap_alloc _ _ _ (by simp;omega),Below.heap_alloc _ _ _ (by simp;omega),Below.heap_alloc _ _ _ y];exact A
 have el:=Zn ⟨w.heap.size,0,none⟩ t (((w.alloc (.cells #[.pointer (some t)] 85)).alloc (.cells (rv 85 w.heap.size) 105)).alloc (.cells (rv 85 w.heap.size) 105)) (by rw[qy _ _ ⟨w.heap.size,0,none⟩ (by simp;omega)];simp);have st:=aeW t ⟨w.heap.size+1+1+1,0,none⟩ k u ((((w.alloc (.cells #[.pointer (some t)] 85)).alloc (.cells (rv 85 w.heap.size) 105)).alloc (.cells (rv 85 w.heap.size) 105)).alloc (.cells #[gh k] 24))
  (by rw[World.cell?_alloc_at _ _ _ _ (by simp)];rfl)
  (by rw[qy _ _ t (by simp;omega),qy _ _ t (by simp;omega),qy _ _ t (by simp;omega),qy _ _ t q];exact j)
  (by rw[BC _ _ t (by simp;omega),BC _ _ t (by simp;omega),BC _ _ t (by simp;omega),BC _ _ t (Nat.ne_of_lt q)];exact v)
 go_enter func34,ntmps34;go_wp2;refine uj 2 ?_;rw[nU];go_wp2_with (go_at_call 415;refine(Hi p 0 g k _ B rfl).mono ?_;rintro e w' ⟨rfl,z⟩;subst z);rw[nU];go_wp2;go_ret;exact⟨rfl,rfl⟩
def acs (p:Nat) (g k:Int) (w:gx) (v:w.heap[p]?=some (gL #[gh k,gh g] 83)):
  Calls prog 35 #[.iface 78 (gN p),.iface 24 (gh k)] w λe w'=>e=iw (.bool true)/\w'=w:=by
 have⟨i,hi,hcmp⟩:=Option.map_eq_some_iff.1 ab6;have z:=@run_callFunc_extern prog 48 _ Extern.ReflectliteType.typeOf func48 (by rfl) (by rfl) rfl rfl;have q:=@run_callFunc_extern prog 427 _ P6 func427 (by rfl) (by rfl) rfl rfl;have B:=MB;have y:=Ho;have A:=LZ;have C:=adp;have E:=EM;have F:=Ay;have u:∀w:gx,(binOp .eql 59 (.iface 24 (gh k)) (.iface 24 (gh k))).run prog w= .ok (.bool true) w:=λw=>by
  rw[EI w k k underlying59 underlying24 hi hcmp];simp
 have x:=λw=>run_eql_iface_types (P:=prog) 78 24 (gN p) (gh k) underlying59 (by decide) w;have j:Hid (w.heap[p]?=some (gL #[gh k,gh g] 83)):=v;go_enter func35,ntmps35;go_wp2;refine uj 2 ?_;rw[nU];go_wp2_with (go_at_call 415;refine(Hi p 0 g k _ j rfl).mono ?_;rintro e w' ⟨rfl,h⟩;subst h);rw[nU];go_wp2;go_ret;exact⟨rfl,rfl⟩
def NN (p:Addr) (t:Nat) (g:gQ) (w:gx) (j:errorType w) (h:w.heap[t]?=some (gL #[g] 78)):
  Calls prog 34 #[.iface 78 (.pointer (some p)),.iface 80 (gN t)] w λi w'=>i=iw (.bool true)/\w'.heap[t]?=some (gL #[.pointer (some p)] 78)/\Kept [t] w w':=by
 refine(PQ p ⟨t,0,none⟩ g w j (BE h) (free_of_one h)).mono ?_;rintro e w' ⟨rfl,rfl⟩;refine⟨rfl,one_setCell (v:=g) ?_,?_⟩
 .have q:=iX h;rw[Below.heap_alloc _ _ _ (by simp;omega),Below.heap_alloc _ _ _ (by simp;omega),Below.heap_alloc _ _ _ (by simp;omega),Below.heap_alloc _ _ _ q];exact h
 .exact Kept.setCell ((((Kept.refl _ _).alloc _).alloc _).alloc _|>.alloc _) (.inl (by simp)) _
def IU (p:Nat) (h k:Int) (t:Nat) (g:gQ) (w:gx) (x:w.heap[p]?=some (gL #[gh k,gh h] 83)) (q:errorType w) (i:w.heap[t]?=some (gL #[g] 24)):
  Calls prog 34 #[.iface 78 (gN p),.iface 85 (gN t)] w λj w'=>j=iw (.bool true)/\w'.heap[t]?=some (gL #[gh k] 24)/\Kept [t] w w':=by
 refine(Lg p h k ⟨t,0,none⟩ g w x q (BE i) (free_of_one i)).mono ?_;rintro e w' ⟨rfl,rfl⟩;refine⟨rfl,one_setCell (v:=g) ?_,?_⟩
 .have u:=iX i;rw[Below.heap_alloc _ _ _ (by simp;omega),Below.heap_alloc _ _ _ (by simp;omega),Below.heap_alloc _ _ _ (by simp;omega),Below.heap_alloc _ _ _ u];exact i
 .exact Kept.setCell ((((Kept.refl _ _).alloc _).alloc _).alloc _|>.alloc _) (.inl (by simp)) _
def Xf (p:Nat) (g k:Int) (w:gx) (A:w.heap[p]?=some (gL #[gh k,gh g] 83)) (G:errorType w):
  Calls prog 50 #[.iface 78 (gN p)] w λe w'=>e=iw (.tuple #[gh k,.bool true])/\Kept [] w w':=by
 have H:∀(y:Fn) (first h:jN) (w:gx),(Instr.makeFunc y first h).run prog w= .ok (.func y first h) w:=λ_ _ _ _=>rfl;have u:=sO (sO G (.cells #[gh 0] 24)) (.cells #[.bool false] 4);have v:=iX A;have i:((w.alloc (.cells #[gh 0] 24)).alloc (.cells #[.bool false] 4)).heap[p]?=some (gL #[gh k,gh g] 83):=by
  rw[Below.heap_alloc _ _ _ (by simp;omega),Below.heap_alloc _ _ _ v];exact A
 go_enter_defers func50,ntmps50
 go_wp21
 refine(IU p g k w.heap.size _ _ i u (by rw[Below.heap_alloc _ _ _ (by simp)];exact fX _ _)).mono ?_;rintro e x ⟨rfl,j,z⟩;have q:x.heap[w.heap.size+1]?=some (gL #[.bool false] 4):=by
  refine z.at ?_ (by simp);have:=fX (w.alloc (.cells #[gh 0] 24)) (.cells #[.bool false] 4)
  simpa using this
 have E:=BE j;have F:=BE q;have J:=free_of_one j;have K:=free_of_one q;have B:Kept [] w x:=((((Kept.refl _ _).alloc _).alloc _).trans (S:=[w.heap.size]) z).mono (by simp);have O:=iX j;have Q:=iX q
 go_wp21
 go_region
 all_goals go_wp2
 refine leaves_cons (f:=66) (args:=#[gN w.heap.size,gN (w.heap.size+1)]) (by simp) (by simp[go_sem]) ?_;refine(Tf ⟨w.heap.size,0,none⟩ ⟨w.heap.size+1,0,none⟩ _).mono ?_;rintro e N I ⟨rfl,rfl,rfl⟩;have C:Kept [] w (((x.setCell ⟨w.heap.size+1,0,none⟩ (.bool true)).setCell ⟨w.heap.size,0,none⟩ (gh k)).setCell ⟨w.heap.size+1,0,none⟩ (.bool true)).drew:=
  (((B.setCell (.inr (by simp)) _).setCell (.inr (by simp)) _).setCell (.inr (by simp)) _).drew
 simp[Go.Leaves,settle,results,results50,go_sem,E,F];exact C
def Bh (p:Nat) (g k:Int) (w:gx) (j:w.heap[p]?=some (gL #[gh k,gh g] 83)) (h:errorType w):
  Calls prog 36 #[.iface 78 (gN p)] w λe w'=>e=iw (gh k)/\Kept [] w w':=by
 have H:=Xf p g k w j h;go_enter func36,ntmps36
 go_wp21
 refine H.mono ?_;rintro e w' ⟨rfl,i⟩;go_wp2;go_ret;exact⟨rfl,i⟩
def Np (p:Nat) (q k:Int) (w:gx) (S:w.heap[p]?=some (gL #[gh k,gh q] 83)) (I:errorType w):
  Calls prog 26 #[.iface 78 (gN p)] w λe w'=>e=iw (.tuple #[gh k,gh q])/\Kept [] w w':=by
 have C:=sO (sO I (.cells #[.pointer none] 78)) (.cells #[gh 0] 24);have O:=S;have N:=I;go_enter func26,ntmps26
 go_wp21
 refine vL (by rfl) ?_;change wpAny _ _ _ _ _ _ _ (World.drew _);refine kN (i:=0) (some 10) (.iface 78 (gN p)) rfl rfl (by kernel_rfl) (by kernel_rfl) (by kernel_rfl) (λ_ _ _ h=>h) (by kernel_rfl) (λ_=>by kernel_rfl) ?_;simp only[Act.put,qD,qE,qF];refine kN (i:=1) (some 11) (.iface 80 (gN w.heap.size)) rfl rfl (by kernel_rfl) (by kernel_rfl) (by kernel_rfl) (λ_ _ _ h=>h) (by kernel_rfl) (λ_=>by kernel_rfl) ?_;simp only[Act.put,qD,qE,qF];refine yB (rs:=[2]) (by kernel_rfl) (by simp) ?_;refine vZ rfl (λK g=>?_) yC;go_simp
 go_wp21
 refine(NN ⟨p,0,none⟩ w.heap.size _ _ (Jo C) (by show((w.alloc _).alloc _).heap[w.heap.size]?=_;rw[Below.heap_alloc _ _ _ (by simp)];exact fX _ _)).mono ?_;rintro e J ⟨rfl,B,Q⟩;have x:Kept [] w J:=(((Kept.refl _ _).alloc _).alloc _).drew.next Q (by simp);have z:=Jp N x (by simp);have u:=x.at O (by simp);have U:=BE B;have T:J.cell? ⟨p,0,none⟩=some (gh k):=by simp[World.cell?,u]
 refine g _ _ ?_;refine kN (i:=3) (some 13) (.bool true) rfl rfl (by kernel_rfl) (by kernel_rfl) (by kernel_rfl) (λ_ _ _ h=>h) (by kernel_rfl) (λ_=>by kernel_rfl) ?_;simp only[Act.put,qD,qE,qF];refine kN (i:=4) (some 14) (.iface 78 (gN p)) rfl rfl (by kernel_rfl) (by kernel_rfl) (by kernel_rfl) (λ_ _ _ h=>h) (by kernel_rfl) (λ_=>by kernel_rfl) ?_;simp only[Act.put,qD,qE,qF];refine yB (rs:=[5]) (by kernel_rfl) (by simp) ?_;refine vZ rfl (λK g=>?_) yC;go_simp;refine g _ _ ?_;refine kN (i:=6) (some 16) (gN p) rfl rfl (by kernel_rfl) (by kernel_rfl) (by kernel_rfl) (λ_ _ _ h=>h) (by kernel_rfl) (λ_=>by kernel_rfl) ?_;simp only[Act.put,qD,qE,qF];refine kN (i:=7) (some 17) (gN p) rfl rfl (by kernel_rfl) (by kernel_rfl) (by kernel_rfl) (λ_ _ _ h=>h) (by kernel_rfl) (λ_=>by kernel_rfl) ?_;simp only[Act.put,qD,qE,qF];refine yB (rs:=[8]) (by kernel_rfl) (by simp) ?_;refine vZ rfl (λK g=>?_) yC;go_simp;refine g _ _ ?_;refine kN (i:=9) (some 19) (.iface 24 (gh k)) rfl rfl (by kernel_rfl) (by kernel_rfl) (by kernel_rfl) (λ_ _ _ h=>h) (by kernel_rfl) (λ_=>by kernel_rfl) ?_;simp only[Act.put,qD,qE,qF];refine yB (rs:=[10]) (by kernel_rfl) (by simp) ?_;refine vZ rfl (λK g=>?_) yC;go_simp
 go_wp21
 refine(acs p q k _ u).mono ?_;rintro e w2 ⟨rfl,E⟩;subst E;refine g _ _ ?_;refine kN (i:=11) (some 21) (.bool true) rfl rfl (by kernel_rfl) (by kernel_rfl) (by kernel_rfl) (λ_ _ _ h=>h) (by kernel_rfl) (λ_=>by kernel_rfl) ?_;simp only[Act.put,qD,qE,qF];refine kN (i:=12) (some 22) (.bool true) rfl rfl (by kernel_rfl) (by kernel_rfl) (by kernel_rfl) (λ_ _ _ h=>h) (by kernel_rfl) (λ_=>by kernel_rfl) ?_;simp only[Act.put,qD,qE,qF];refine kN (i:=13) (some 23) (.iface 78 (gN p)) rfl rfl (by kernel_rfl) (by kernel_rfl) (by kernel_rfl) (λ_ _ _ h=>h) (by kernel_rfl) (λ_=>by kernel_rfl) ?_;simp only[Act.put,qD,qE,qF];refine yB (rs:=[14,15]) (by kernel_rfl) (by simp) ?_;refine vZ rfl (λK g=>?_) (vZ rfl (λK g=>?_) yC)
 .go_simp
  go_wp21
  refine(Bh p q k _ u z).mono ?_;rintro e y ⟨rfl,j⟩;have A:Kept [] w y:=x.next j (by simp);have G:=BE (j.at B (by simp));have v:=j.at u (by simp);have F:y.cell? ⟨p,0,none⟩=some (gh k):=by simp[World.cell?,v]
  have H:y.cell? ⟨p,1,none⟩=some (gh q):=by simp[World.cell?,v]
  refine g _ _ ?_;refine yB (rs:=[15]) (by kernel_rfl) (by simp) ?_;refine vZ rfl (λK g=>?_) yC;go_simp;refine g _ _ ?_;refine kN (i:=16) (some 26) (gN p) rfl rfl (by kernel_rfl) (by kernel_rfl) (by kernel_rfl) (λ_ _ _ h=>h) (by kernel_rfl) (λ_=>by kernel_rfl) ?_;simp only[Act.put,qD,qE,qF];refine kN (i:=17) (some 27) (gN p) rfl rfl (by kernel_rfl) (by kernel_rfl) (by kernel_rfl) (λ_ _ _ h=>h) (by kernel_rfl) (λ_=>by kernel_rfl) ?_;simp only[Act.put,qD,qE,qF];refine yB (rs:=[18]) (by kernel_rfl) (by simp) ?_;refine vZ rfl (λK g=>?_) yC;go_simp;refine g _ _ ?_;refine kN (i:=19) (some 29) (.bool true) rfl rfl (by kernel_rfl) (by kernel_rfl) (by kernel_rfl) (λ_ _ _ h=>h) (by kernel_rfl) (λ_=>by go_simp) ?_;simp only[Act.put,qD,qE,qF];refine kN (i:=20) (some 30) (.bool true) rfl rfl (by kernel_rfl) (by kernel_rfl) (by kernel_rfl) (λ_ _ _ h=>h) (by kernel_rfl) (λ_=>by kernel_rfl) ?_;simp only[Act.put,qD,qE,qF];refine kN (i:=21) (some 9) (.bool true) rfl rfl (by kernel_rfl) (by kernel_rfl) (by kernel_rfl) (λ_ _ _ h=>h) (by kernel_rfl) (λ_=>by kernel_rfl) ?_;simp only[Act.put,qD,qE,qF];refine wpAny_done (by kernel_rfl) ?_ _
  go_wp21
  go_quiet (fail)
  go_wp2;go_ret2;exact⟨rfl,A.next ((Kept.refl [] _).drewN _) (by simp)⟩
 .go_simp;refine g _ _ ?_;refine kN (i:=16) (some 26) (gN p) rfl rfl (by kernel_rfl) (by kernel_rfl) (by kernel_rfl) (λ_ _ _ h=>h) (by kernel_rfl) (λ_=>by kernel_rfl) ?_;simp only[Act.put,qD,qE,qF];refine kN (i:=17) (some 27) (gN p) rfl rfl (by kernel_rfl) (by kernel_rfl) (by kernel_rfl) (λ_ _ _ h=>h) (by kernel_rfl) (λ_=>by kernel_rfl) ?_;simp only[Act.put,qD,qE,qF];refine yB (rs:=[14,18]) (by kernel_rfl) (by simp) ?_;refine vZ rfl (λK g=>?_) (vZ rfl (λK g=>?_) yC)
  .go_simp
   go_wp21
   refine(Bh p q k _ u z).mono ?_;rintro e y ⟨rfl,j⟩;have A:Kept [] w y:=x.next j (by simp);have G:=BE (j.at B (by simp));have v:=j.at u (by simp);have F:y.cell? ⟨p,0,none⟩=some (gh k):=by simp[World.cell?,v]
   have H:y.cell? ⟨p,1,none⟩=some (gh q):=by simp[World.cell?,v]
   refine g _ _ ?_;refine yB (rs:=[18]) (by kernel_rfl) (by simp) ?_;refine vZ rfl (λK g=>?_) yC;go_simp;refine g _ _ ?_;refine kN (i:=19) (some 29) (.bool true) rfl rfl (by kernel_rfl) (by kernel_rfl) (by kernel_rfl) (λ_ _ _ h=>h) (by kernel_rfl) (λ_=>by go_simp) ?_;simp only[Act.put,qD,qE,qF];refine kN (i:=20) (some 30) (.bool true) rfl rfl (by kernel_rfl) (by kernel_rfl) (by kernel_rfl) (λ_ _ _ h=>h) (by kernel_rfl) (λ_=>by kernel_rfl) ?_;simp only[Act.put,qD,qE,qF];refine kN (i:=21) (some 9) (.bool true) rfl rfl (by kernel_rfl) (by kernel_rfl) (by kernel_rfl) (λ_ _ _ h=>h) (by kernel_rfl) (λ_=>by kernel_rfl) ?_;simp only[Act.put,qD,qE,qF];refine wpAny_done (by kernel_rfl) ?_ _
   go_wp21
   go_quiet (fail)
   go_wp2;go_ret2;exact⟨rfl,A.next ((Kept.refl [] _).drewN _) (by simp)⟩
  .go_simp;refine g _ _ ?_;refine yB (rs:=[14]) (by kernel_rfl) (by simp) ?_;refine vZ rfl (λK g=>?_) yC;go_simp
   go_wp21
   refine(Bh p q k _ u z).mono ?_;rintro e y ⟨rfl,j⟩;have A:Kept [] w y:=x.next j (by simp);have G:=BE (j.at B (by simp));have v:=j.at u (by simp);have F:y.cell? ⟨p,0,none⟩=some (gh k):=by simp[World.cell?,v]
   have H:y.cell? ⟨p,1,none⟩=some (gh q):=by simp[World.cell?,v]
   refine g _ _ ?_;refine kN (i:=19) (some 29) (.bool true) rfl rfl (by kernel_rfl) (by kernel_rfl) (by kernel_rfl) (λ_ _ _ h=>h) (by kernel_rfl) (λ_=>by go_simp) ?_;simp only[Act.put,qD,qE,qF];refine kN (i:=20) (some 30) (.bool true) rfl rfl (by kernel_rfl) (by kernel_rfl) (by kernel_rfl) (λ_ _ _ h=>h) (by kernel_rfl) (λ_=>by kernel_rfl) ?_;simp only[Act.put,qD,qE,qF];refine kN (i:=21) (some 9) (.bool true) rfl rfl (by kernel_rfl) (by kernel_rfl) (by kernel_rfl) (λ_ _ _ h=>h) (by kernel_rfl) (λ_=>by kernel_rfl) ?_;simp only[Act.put,qD,qE,qF];refine wpAny_done (by kernel_rfl) ?_ _
   go_wp21
   go_quiet (fail)
   go_wp2;go_ret2;exact⟨rfl,A.next ((Kept.refl [] _).drewN _) (by simp)⟩
attribute [local go_sem] Oper.semAt_some
theorem Q4 (w:gx) (H k:Nat) (c:jN) (I:gz) (gM:lZ) (ts:List Tn) (hp:SZ w H c k) (h:jL w (.el I gM ts) (.el k)) (B:List It) (ht:lE (vj (λ_=>false) ts)=B) (hn:B.length<=1000000000):
  Calls prog 18 #[gN H] w λe w'=>∃v,e=iw v/\w'.ownsRow w.heap.size 57 3 v B.length (pR B)/\Kept [] w w':=by
 refine(xC (n:=5)).1 ?_;refine xD func18 rfl trivial ?_ rfl;simp only[ntmps18,yf,uk,xI,Nat.reduceAdd,Nat.reduceSub,yg,yh,yi,yj,sg,wo];have HP:=hp;have HT:=h;have a4:=ht
 gi_wp2_with (refine⟨trivial,?_⟩;gi_at_call 30;refine(callsIn_wide.2 (MO _ H)).mono ?_;rintro e w' ⟨rfl,rfl⟩)
 obtain⟨w1,G⟩:∃w1,w1=w.alloc (gL #[jc] 25):=⟨_,rfl⟩;have z1:w1.heap.size=w.heap.size+1:=by rw[G];simp
 have k1:Kept [] w w1:=by rw[G];exact(Kept.refl _ _).alloc _
 have g1:w1.heap[w.heap.size]?=some (gL #[jc] 25):=by rw[G];exact fX w _
 rw[<-G];have⟨i0,hi,hz0,hz1,hz2⟩:=ux Xl;have HE:=enters_of func39 (by rfl) rfl;have a8:=a4;have HC:=(λl J W hY hm h0 hK=>adP l H k c I gM ts w HP HT J (by omega) hm W hK h0);rw[a8]at HC;refine KX (by omega) (gf:=39) (recv:=gN H) rfl HE B w HC
  (λpre W=>∃v,W.heap[w.heap.size]?=some (gL #[v] 25)/\W.ownsRow (w.heap.size+1) 57 3 v pre.length (pR pre)/\Kept [] w W)
  (λ_ _ h=>by grind) ?_ ?_ ⟨_,g1,od _ _ _ _,k1⟩
  (λx a' W=>∃X,w.heap.size+1<=X/\W.heap[X]?=some (gL #[gh x.k,gH x.s,gH x.t] 57)/\a'={tmps:=#[gN H,undef,jc,gN w.heap.size,gN X,gN H,.func (.func 39) #[gN H] #[],x.val,undef,undef,undef,undef,undef],defers:=[]}) ?_ ?assign ?body ?done
 .rintro pre W W' ⟨v,i,z,O⟩ hk;exact⟨v,hk.at i (by simp),hk.ownsRow z (λ_ _=>by simp),O.trans hk⟩
 .rintro pre W k r o' hk hl ⟨v,i,z,O⟩;exact⟨v,(qC (by omega)).trans i,Vx z hl rfl _,QT O (by omega) _⟩
 .rintro x a' W k r o' hk hl ⟨X,i,z,O⟩;refine⟨X,i,(qC ?_).trans z,O⟩
  grind
 case assign=>
  rintro l pre x W K ⟨v,i,z,O⟩ hK;have hz:=O.size;have hB:=iX i;gi_wp2;exact hK _ _ ((Kept.refl [] W).alloc _) ⟨W.heap.size,by omega,fX W _,rfl⟩
 case body=>
  rintro l pre x a' W ⟨v,i,z,E⟩ ⟨X,hX,h4,rfl⟩ a0;have V:pre.length+1<=B.length:=by have:=a0.length_le;simpa using this
  have HZ:=E.size;have Y:=fW i 0;have f1:=gu i 0;have x0:=fW h4 0;have x1:=fW h4 1;have x2:=fW h4 2;dsimp at Y x0 x1 x2;have⟨ao,cp,hv⟩:=gF z;subst hv;have T:=fV i;have A:=fV z;have U:=(λo=>(Kept.refl [] W).alloc o);have a2:=(λo=>KeepsOthers.alloc W o);have a6:=iX i;have HB:=fV a6;have a3:=hn;clear i z
  gi_wp2_with (gi_at_builtin;refine wpListIn_append_own _ rfl _ _ 25 rfl (w.heap.size+1) 57 i0 (.agg #[gh 0,gH jz,gH jz]) 3 40 underlying25 hi hz0 hz1 hz2 rfl (by decide) _ _ _ rfl (A.out.alloc _) ⟨W.heap.size,0,none⟩ 1 1 [gh x.k,gH x.s,gH x.t] rfl rfl ?Y ?c2 ?c3 ?c4 ?c5 ?_)
  case Y=>
   intro j u hj;have hg:=fX W (gL #[gh x.k,gH x.s,gH x.t] 57);rw[jg,fW hg]
   grind
  case c2=>
   intro u hu;simp at hu;rcases hu with rfl|rfl|rfl<;>rfl
  case c3=>have:=V;have:=a3;unfold maxLen;omega
  case c4=>omega
  case c5=>simp_all
  intro v' C S F _;have ad:∀q,(Value.slice ao pre.length cp).ownBlock=some q->w.heap.size+1<=q:=λq y=>(A.out.lt q y).1;have Q:C.heap[w.heap.size]?=some (gL #[.slice ao pre.length cp] 25):=by
   rw[F.block _ (by have:=HB.out;simp;omega) (λe=>by grind)];exact(U _).at T.out (by simp)
  have c3:=fW Q 0;have f3:=gu Q 0;dsimp at c3;have⟨ao',cp',hv'⟩:=gF S;subst hv';have aa:C.ownsRow (w.heap.size+1) 57 3 (.slice ao' (pre.length+1) cp') (pre++[x]).length (pR (pre++[x])):=by
   have e2:pR (pre++[x])=pR pre++[gh x.k,gH x.s,gH x.t]:=by rw[LF];rfl
   rw[e2,mJ];exact S
  have ab:Kept [] w C:=(E.alloc _).grown F (λq y=> .inr (by grind));have ac:KW W C:=by
   intro q cc tt y ht;have a1:=(U (gL #[gh x.k,gH x.s,gH x.t] 57)).at y (by simp);rw[F.block q (iX a1) ?_]
   .exact a1
   .intro e;rcases A.out.2 with⟨e2,_⟩|⟨g,Z,N,e2,_,hc,_⟩
    .rw[e2]at e;cases e
    .rw[e2]at e;have e3:=jy e
     grind
  have a9:KeepsOthers W C:=(a2 _).trans (KeepsOthers.of_grownBy F (λq o y a7=>by
   rcases(A.out.alloc (gL #[gh x.k,gH x.s,gH x.t] 57)).2 with⟨e2,_⟩|⟨g,Z,N,e2,_,hc,_⟩
   .rw[e2]at y;cases y
   .rw[e2]at y;have e3:=jy y;subst e3;rw[a7]at hc;cases hc;rfl))
  have nB:∀q,(Value.slice ao' (pre.length+1) cp').ownBlock=some q->q≠w.heap.size:=λq y=>by have:=(S.lt q y).1;omega
  have HF:Hid (∃v,(C.setCell ⟨w.heap.size,0,none⟩ (.slice ao' (pre.length+1) cp')).heap[w.heap.size]?=some (gL #[v] 25)/\(C.setCell ⟨w.heap.size,0,none⟩ (.slice ao' (pre.length+1) cp')).ownsRow (w.heap.size+1) 57 3 v (pre++[x]).length (pR (pre++[x]))/\Kept [] w (C.setCell ⟨w.heap.size,0,none⟩ (.slice ao' (pre.length+1) cp'))):=
   fV ⟨_,gm Q 0 _,((Kept.refl [w.heap.size] C).setCell (.inl (by simp)) _).ownsRow aa (λq y=>by simpa using nB q y),ab.setCell (.inr (gW _)) _⟩
  have HG:Hid (KW W (C.setCell ⟨w.heap.size,0,none⟩ (.slice ao' (pre.length+1) cp'))):=fV (by
   intro q cc tt y ht;refine((Kept.refl [w.heap.size] C).setCell (.inl (by simp)) _).at (ac q cc tt y ht) ?_;intro hm;have e:=List.mem_singleton.1 hm;subst e;rw[T.out]at y
   grind)
  have HH:=fV (a9.trans (Pp C ⟨w.heap.size,0,none⟩ (.slice ao' (pre.length+1) cp')));gi_wp2;exact⟨by simpa using HF.out,HG.out,HH.out⟩
 case done=>
  rintro D W ae ⟨v,i,z,E⟩ HD;have⟨ao,cp,hv⟩:=gF z;subst hv;have Y:=fW i 0;dsimp at Y;have A:=fV z;clear i z;gi_wp2;refine⟨by simp,.inl ⟨_,_,rfl,oY HD,?_⟩⟩;refine⟨_,results_tmp rfl _ _ _,_,rfl,?_,QT E (by omega) _⟩;have ho:=Vx A.out HD rfl (.deferred none);refine⟨ho.1,?_⟩;rcases ho.2 with e|⟨g,a5,N,e,hg,r⟩
  .exact .inl e
  .exact .inr ⟨g,a5,N,e,by omega,r⟩
attribute [local go_sem] Oper.semAt_some
def errorType.kept {S : List Nat} (h:errorType w) (i:Kept S w w') (j:0∉S):errorType w':=by
 have g:0 < w.heap.size:=by
  rcases mO 0 w.heap.size with e|e
  .exact e
  .unfold errorType at h;simp[World.cell?,La e]at h
 exact(i.cell (p:=⟨0,0,none⟩) g j).trans h
def IL (s:gz) (d f l c p:Nat):Prop:=∀(h:gQ) (g:Nat) (w:gx),w.ownsRow g 5 1 h s.size (kH s)->xL w->Ij w->
  Calls prog 38 #[h,.agg #[gh d,gh f,gh l]] w λe w'=>II w e w' (.stop c p)
def aew (w:gx) (c p:Nat) (v3 v4:gQ) (wc:gx):Prop:=∃e k,v3=gN e/\v4=gN k/\w.heap.size<=e/\wc.heap[e]?=some (gL #[jc,.pointer none] 74)/\kG wc k c p/\Kept [] w wc
theorem I9 {e : Ending} (h:II W e w2 (.stop c p)) (v:Kept [] w W):∃k,e=iw (.tuple #[.agg #[jc,.pointer none],gN k])/\aew w c p (gN w2.heap.size) (gN k) (w2.alloc (gL #[jc,.pointer none] 74))/\
  (∀g,w.heap.size<=g->W.heap[g]?=some (gL #[jc,.pointer none] 74)->w2.heap[g]?=some (gL #[jc,.pointer none] 74)/\aew w c p (gN g) (gN k) ((w2.setCell ⟨g,0,none⟩ (jc)).setCell ⟨g,1,none⟩ (.pointer none))):=by
 obtain⟨k,rfl,q,i⟩:=h;have A:w.heap.size<=W.heap.size:=v.size;have x:=(Kept.refl [] w2).alloc (gL #[jc,.pointer none] 74);refine⟨k,rfl,⟨_,k,rfl,rfl,j7 A i.size,fX w2 _,x.at q (by simp),(v.trans i).trans x⟩,?_⟩;intro g j y;have u:=i.at y (by simp);have B:Kept [g] w2 ((w2.setCell ⟨g,0,none⟩ (jc)).setCell ⟨g,1,none⟩ (.pointer none)):=((Kept.refl _ _).setCell (.inl (by simp)) _).setCell (.inl (by simp)) _;refine⟨u,g,k,rfl,rfl,j,gm (gm u 0 _) 1 _,B.at q (λz=>?_),((v.trans i).setCell (.inr j) _).setCell (.inr j) _⟩;have e:=List.mem_singleton.1 z;subst e;unfold kG at q
 grind
def zR (d f l:Int) (p k:Nat):jN:=#[gh d,gh f,gh l,jc,.bool true,gh p,.iface 78 (gN k),jc,.pointer none]
def DK (w:gx) (e d f l c p k:Nat) (w':gx):Prop:=w'.heap[e]?=some (gL (zR d f l p k) 76)/\kG w' k c p/\Kept [e] w w'
def Ti (g d f l:Nat) (Q:gQ) (s:gz) (base:Nat) (w:gx) (u:w.heap[g]?=some (gL (ry ((d:Int),(f:Int),(l:Int)) Q) 76)) (N:w.ownsRow base 5 1 Q s.size (kH s)) (X:xL w) (C:Ij w) (hn:IL s d f l c p):
  Calls prog 28 #[gN g] w λe w'=>∃k,e=iw (.iface 78 (gN k))/\DK w g d f l c p k w':=by
 have⟨ao,cp,htv⟩:=gF N;subst htv;have a0:=iX u;have c0:w.cell? ⟨g,0,none⟩=some (gh d):=by rw[fW u];rfl
 have c1:w.cell? ⟨g,1,none⟩=some (gh f):=by rw[fW u];rfl
 have c2:w.cell? ⟨g,2,none⟩=some (gh l):=by rw[fW u];rfl
 have c3:w.cell? ⟨g,3,none⟩=some (.slice ao s.size cp):=by rw[fW u];rfl
 have T:=A7 g ((d:Int),(f:Int),(l:Int)) _ w u;have E:=(λW (q:Kept [] w W)=>hn (.slice ao s.size cp) base W (q.ownsRow N (λ_ _=>by simp)) (X.fr (bm:=0) (.gU q)) (C.kept q));have V:=u;have U:=fX w.drew (gL #[jc,.pointer none] 74);go_enter func28,ntmps28
 go_wp21
 refine T.mono ?_;rintro e j ⟨rfl,rfl⟩
 go_wp21
 go_cut [3,4]from 8 to 19 (λv3 v4 wc=>aew j c p v3 v4 wc)
 case first=>
  go_region_with (go_at_call 38;first
   |(refine(E _ ((Kept.refl [] j).drew)).mono ?_;intro e w2 y;obtain⟨k,rfl,G,_⟩:=I9 y ((Kept.refl [] j).drew);have A:=fV G;clear G y)
   |(refine(E _ (((Kept.refl [] j).drew).alloc _)).mono ?_;intro e w2 y;obtain⟨k,rfl,_,H⟩:=I9 y (((Kept.refl [] j).drew).alloc _);have⟨h3,h4⟩:=H j.heap.size (gW _) U;have q0:w2.cell? ⟨j.heap.size,0,none⟩=some (jc):=(by rw[fW h3];rfl);have q1:w2.cell? ⟨j.heap.size,1,none⟩=some (.pointer none):=(by rw[fW h3];rfl);have z0:=gu h3 0;have z1:=gu h3 1;have A:=fV h4;clear H h3 h4 y))
  all_goals (try (go_wp21))
  all_goals (go_meet;exact A)
 case rest=>
  obtain⟨B,k,rfl,rfl,Y,C,i,q⟩:=hcut;have h:=q.at V (by simp);have e3:wc.cell? ⟨g,3,none⟩=some (.slice ao s.size cp):=by rw[fW h];rfl
  have e4:wc.cell? ⟨g,4,none⟩=some (.bool false):=by rw[fW h];rfl
  have e5:wc.cell? ⟨g,5,none⟩=some (gh 0):=by rw[fW h];rfl
  have e7:wc.cell? ⟨g,7,none⟩=some (jc):=by rw[fW h];rfl
  have e8:wc.cell? ⟨g,8,none⟩=some (.pointer none):=by rw[fW h];rfl
  have t0:wc.cell? ⟨B,0,none⟩=some (jc):=by rw[fW C];rfl
  have t1:wc.cell? ⟨B,1,none⟩=some (.pointer none):=by rw[fW C];rfl
  have f4:=gu h 4;have f5:=gu h 5;have f7:=gu h 7;have f8:=gu h 8;have a1:B≠g:=by omega
  have K:g≠B:=by omega
  have v:k≠g:=by
   rintro rfl;unfold kG at i;rw[h]at i;simp at i
  have J:=iX h;have F:=And.intro h (And.intro i q)
  go_wp21
  go_cut []from 20 to 34 (λS=>S.heap[g]?=some (gL #[gh d,gh f,gh l,.slice ao s.size cp,.bool true,gh s.size,.nilIface,jc,.pointer none] 76)/\Kept [g] wc S)
  case first=>
   go_region
   all_goals (try (go_wp21))
   all_goals (go_meet;exact⟨gm (gm (gm (gm F.1 _ _) _ _) _ _) _ _,(((((Kept.refl [g] wc).setCell (.inl (by simp)) _).setCell (.inl (by simp)) _).setCell (.inl (by simp)) _).setCell (.inl (by simp)) _).drew⟩)
  case rest=>
   have⟨hx3,hk3⟩:=hcut;have⟨h,i,q⟩:=F;have z:kG wc k c p:=hk3.at i (by simpa using v);have g3:wc.cell? ⟨g,3,none⟩=some (.slice ao s.size cp):=by rw[fW hx3];rfl
   have g5:wc.cell? ⟨g,5,none⟩=some (gh s.size):=by rw[fW hx3];rfl
   have g6:wc.cell? ⟨g,6,none⟩=some .nilIface:=by rw[fW hx3];rfl
   have s1:wc.cell? ⟨k,1,none⟩=some (gh p):=by rw[fW z];rfl
   have y3:=gu hx3 3;have y5:=gu hx3 5;have y6:=gu hx3 6;have I:=iX hx3;have x:=v;have Z:g≠k:=λe=>x e.symm;have O:=hk3.trans ((((Kept.refl [g] wc).setCell (p:=⟨g,5,none⟩) (.inl (by simp)) (gh p)).setCell (p:=⟨g,6,none⟩) (.inl (by simp)) (.iface 78 (gN k))).setCell (p:=⟨g,3,none⟩) (.inl (by simp)) (jc));have A:Hid (DK j g d f l c p k (((wc.setCell ⟨g,5,none⟩ (gh p)).setCell ⟨g,6,none⟩ (.iface 78 (gN k))).setCell ⟨g,3,none⟩ (jc))):=fV ⟨gm (gm (gm hx3 5 _) 6 _) 3 _,O.at i (by simpa using x),(q.mono (by simp)).trans O⟩;go_wp2;go_ret;exact⟨k,rfl,A⟩
def GX (g d f l:Nat) (j:gQ) (s:gz) (base:Nat) (w:gx) (F:w.heap[g]?=some (gL (ry ((d:Int),(f:Int),(l:Int)) j) 76)) (E:w.ownsRow base 5 1 j s.size (kH s)) (x:xL w) (A:Ij w) (B:IL s d f l c p) (z:errorType w) (y:0≠g):
  Calls prog 16 #[gN g] w λe w'=>∃k,e=iw (.tuple #[gh c,gh p])/\DK w g d f l c p k w':=by
 have C:=Ti g d f l j s base w F E x A B;have u:=z;go_enter func16,ntmps16
 go_wp21
 refine C.mono ?_;rintro e G ⟨k,rfl,h⟩;have q:=Np k (p:Int) (c:Int) G h.2.1 (u.kept h.2.2 (by simpa using y))
 go_wp21
 refine q.mono ?_;rintro e w2 ⟨rfl,i⟩;have v:Hid (DK w g d f l c p k w2):=by
  have⟨h1,h2,h3⟩:=h;exact fV ⟨i.at h1 (by simp),i.at h2 (by simp),h3.trans (i.mono (by simp))⟩
 go_wp2;go_ret2;exact⟨k,rfl,v⟩
def X3 (g:Nat) (d f l:Int) (p k:Nat) (w:gx) (h:w.heap[g]?=some (gL (zR d f l p k) 76)):
  Calls prog 29 #[gN g] w λe w'=>e=iw (.tuple #[gh p,.iface 78 (gN k)])/\Kept [] w w':=by
 have j:w.cell? ⟨g,4,none⟩=some (.bool true):=by rw[fW h];rfl
 have q:w.cell? ⟨g,5,none⟩=some (gh p):=by rw[fW h];rfl
 have u:w.cell? ⟨g,6,none⟩=some (.iface 78 (gN k)):=by rw[fW h];rfl
 have i:=iX h;go_enter func29,ntmps29
 go_wp21
 go_region
 all_goals (try go_wp2)
 all_goals (try go_ret2)
 all_goals exact⟨rfl,(Kept.refl [] w).drew⟩
def Kd (i:Nat) (d f l:Int) (c p k:Nat) (w:gx) (y:w.heap[i]?=some (gL (zR d f l p k) 76)) (q:kG w k c p) (x:errorType w):
  Calls prog 17 #[gN i] w λe w'=>e=iw (.tuple #[gh p,gh c,gh p])/\Kept [] w w':=by
 have C:=X3 i d f l p k w y;have v:=x;have HS:=q;go_enter func17,ntmps17
 go_wp21
 refine C.mono ?_;rintro e z ⟨rfl,g⟩;have u:=Np k (p:Int) (c:Int) z (g.at HS (by simp)) (v.kept g (by simp))
 go_wp21
 refine u.mono ?_;rintro e w2 ⟨rfl,j⟩;have h:=g.trans j;go_wp2;go_ret3;exact⟨rfl,h⟩
def WM (w:gx):Calls prog 33 #[jc] w λe w'=>e=iw (jc)/\w'=w:=by
 have g:=λw=>KZ (P:=prog) w 26 53 none 0 0 0 0 underlying26;go_enter func33,ntmps33;go_wp2;go_ret;simp
def KO (g:Nat) (d f l:Int) (p k:Nat) (w:gx) (h:w.heap[g]?=some (gL (zR d f l p k) 76)):
  Calls prog 20 #[gN g] w λe w'=>e=iw (jc)/\Kept [] w w':=by
 have j:w.cell? ⟨g,7,none⟩=some (jc):=by rw[fW h];rfl
 have i:=iX h;go_enter func20,ntmps20
 go_wp21
 refine(WM _).mono ?_;rintro e w' ⟨rfl,rfl⟩;go_wp2;go_ret;exact⟨rfl,Kept.refl _ _⟩
def Ee (g:Nat) (d f l:Int) (p k:Nat) (w:gx) (h:w.heap[g]?=some (gL (zR d f l p k) 76)):
  Calls prog 31 #[gN g] w λe w'=>e=iw (.bool false)/\w'=w:=by
 have j:w.cell? ⟨g,8,none⟩=some (.pointer none):=by rw[fW h];rfl
 have i:=iX h;go_enter func31,ntmps31;go_wp2;go_ret;simp
def Nn (g:Nat) (d f l:Int) (p k:Nat) (w:gx) (h:w.heap[g]?=some (gL (zR d f l p k) 76)):
  Calls prog 19 #[gN g] w λe w'=>e=iw (gH jz)/\Kept [] w w':=by
 have i:=Ee g d f l p k w h;have j:=iX h;go_enter func19,ntmps19
 go_wp21
 refine i.mono ?_;rintro e q ⟨rfl,rfl⟩;go_wp2;go_ret;exact⟨rfl,Kept.refl _ _⟩
def Yo (v:gQ) (g:Nat) (d f l:Int) (p k:Nat) (w:gx) (h:w.heap[g]?=some (gL (zR d f l p k) 76)):
  Calls prog 39 #[gN g,v] w λe w'=>e=pE/\w'=w:=by
 have i:=Ee g d f l p k w h;have j:=iX h;go_enter func39,ntmps39
 go_wp21
 refine i.mono ?_;rintro e q ⟨rfl,rfl⟩;go_wp2;go_end0;simp
theorem Kept.putObj {S : List Nat} (h:Kept S w w') (g:w.heap.size<=l) (o:Obj):Kept S w (w'.putObj l o):=h.grown (xB w' l o) (λk e=>by grind)
def Ih {P:Program} {g:Operand} {ps:Array Tmp} {assign body : Code} {Q:Exit->Act->gx->Prop} {a : Act} {gf : Nat} {rv : gQ}
  (G:a.eval g= .func (.func gf) #[rv] #[]) (C:∀x w,(callFunc gf x).run P w= .ok (.enter gf x) w)
  (E:∀y W,Kept [] w W->Calls P gf #[rv,y] W λe w'=>(∃v,e=iw v)/\w'=W)
  (F:∀D W,Kept [] w W->w.heap.size<=D->W.heap[D]?=some (.deferred (some []))->Q .normal {a with defers:={target:= .collected D,args:=#[]}::a.defers} W):
  (Code.rangeFunc g ps assign body).wpIn Fence.wide n P Q a w:=by
 refine Pr ?_;intro fn _;obtain⟨j,i⟩:∃j:Loop,j={state:= .ready,pending:=none,fn,tmps:=a.tmps,params:=ps,assign,body,defers:=w.heap.size}:=⟨_,rfl⟩;obtain⟨u,q⟩:∃u,u=(w.alloc (.deferred (some []))).alloc (.loop j):=⟨_,rfl⟩;have e1:=Ps (P:=P) (w:=w) fn a.tmps ps assign body;rw[<-i,<-q]at e1;have B:u.heap[w.heap.size+1]?=some (.loop j):=by
  rw[q];have:=BB (w.alloc (.deferred (some []))) (.loop j);rwa [xJ]at this
 have A:u.heap[w.heap.size]?=some (.deferred (some [])):=by
  rw[q];exact(Below.heap_alloc _ _ _ (by simp)).trans (BB w _)
 have z:Kept [] w u:=by rw[q];exact((Kept.refl _ _).alloc _).alloc _
 refine⟨w.heap.size+1,[{target:= .collected w.heap.size,args:=#[]}],u,{target:= .fn (.func gf) #[],args:=#[rv,.func (.yield (w.heap.size+1)) #[] #[]]},u,gf,
  #[rv,.func (.yield (w.heap.size+1)) #[] #[]],u,e1,?_,λ_ _=>trivial,?_,λh=>by simp[Fence.wide]at h,?_⟩
 .simp only[resolve,G];simp[go_sem]
 .simp[invoke,go_sem,C]
 .refine callsIn_wide.2 ((E _ _ z).mono ?_);rintro e w' ⟨⟨v,rfl⟩,rfl⟩;refine⟨none,_,by rw[F8 B (by rw[i];simp),i],?_⟩;refine F w.heap.size _ (z.putObj (by omega) _) (gW _) ?_;exact(qC (by omega)).trans A
def MQ (g:Nat) (d f l:Int) (p k:Nat) (w:gx) (z:w.heap[g]?=some (gL (zR d f l p k) 76)):
  Calls prog 18 #[gN g] w λe w'=>e=iw (jc)/\Kept [] w w':=by
 refine(xC (n:=3)).1 ?_;refine xD func18 rfl trivial ?_ rfl;simp only[ntmps18,yf,uk,xI,Nat.reduceAdd,Nat.reduceSub,yg,yh,yi,yj,sg,wo];have j:Kept [] w (w.alloc (.cells #[jc] 25)):=(Kept.refl _ _).alloc _;have x:=fX w (gL #[jc] 25);have A:=j.at z (by simp);have E:=z
 gi_wp2_with (refine⟨trivial,?_⟩;gi_at_call 30;refine(callsIn_wide.2 (MO _ g)).mono ?_;rintro e w' ⟨rfl,rfl⟩)
 obtain⟨u,v⟩:∃u,u=w.alloc (gL #[jc] 25):=⟨_,rfl⟩;rw[<-v]at j x A|-;have G:=(show u.heap.size=w.heap.size+1 by rw[v];simp);refine Ih (gf:=39) (rv:=gN g) rfl (Go.Proofs.enters_of func39 (by rfl) rfl) ?_ ?_
 .intro y W i;exact(Yo y g d f l p k W (i.at A (by simp))).mono (λe w' h=>⟨⟨_,h.1⟩,h.2⟩)
 .intro D W i F q;have C:=fW (i.at x (by simp)) 0;dsimp at C;have B:=j.trans i;gi_wp2;refine⟨by simp,.inl ⟨_,_,rfl,oY q,?_⟩⟩;exact⟨_,results_tmp rfl _ _ _,rfl,B.putObj (by omega) _⟩
def Yt (w:gx) (B b:Nat) (e:gQ×Bool) (p:gQ) (l:List UInt8):Prop:=B<=b/\∃v,w.heap[b]?=some (gL #[p,v,e.1,.bool e.2] 100)/\w.ownsRow B 5 1 v l.length (Lib.byteCells l)/\v.ownBlock≠some b
def Wu (w:gx) (B b:Nat) (e:gQ×Bool) (l:List UInt8):Prop:=Yt w B b e (.pointer none) l\/Yt w B b e (gN b) l
def Yt.kept {B : Nat} {g : gQ×Bool} {p : gQ} {l:List UInt8} (h:Yt w B b g p l) (e:Kept [] w w'):Yt w' B b g p l:=by
 have⟨h0,v,h1,h2,h3⟩:=h;exact⟨h0,v,e.at h1 (by simp),e.ownsRow h2 (λ_ _=>by simp),h3⟩
def Wu.kept {B : Nat} {g : gQ×Bool} {l:List UInt8} (h:Wu w B b g l) (e:Kept [] w w'):Wu w' B b g l:=h.imp (·.kept e) (·.kept e)
theorem Tm (B b:Nat) (u:gQ×Bool) (l:List UInt8) (w:gx) (h:Wu w B b u l):
  Calls prog 360 #[gN b] w λe w'=>e=pE/\Yt w' B b u (gN b) l/\Kept [b] w w':=by
 have⟨j,hj,hj0⟩:=NW;rcases h with⟨A,v,g,y,z⟩|⟨A,v,g,y,z⟩
 .have F:w.cell? ⟨b,0,none⟩=some (.pointer none):=by rw[fW g];rfl
  have I:=gu g 0;have C:=iX g;have i:w.shape? b=some (100,4):=by simp[World.shape?,g]
  have E:=(Kept.refl [b] w).setCell (p:=⟨b,0,none⟩) (.inl (by simp)) (gN b);have x:Hid (Yt (w.setCell ⟨b,0,none⟩ (gN b)) B b u (gN b) l):=fV ⟨A,v,gm g 0 _,E.ownsRow y (λq K=>by grind),z⟩;have H:(w.setCell ⟨b,0,none⟩ (gN b)).cell? ⟨b,0,none⟩=some (gN b):=by rw[fW (gm g 0 _)];rfl
  have N:=Lib.run_to_unsafe (P:=prog) w (src:=96) (dst:=102) ⟨b,0,none⟩ underlying96 underlying102 hj hj0 i (show 0 < 4 by decide);have J:=Lib.run_from_unsafe (P:=prog) w (src:=102) (dst:=96) ⟨b,0,none⟩ underlying102 underlying96 hj i SD;have G:=Pu (P:=prog) (w.setCell ⟨b,0,none⟩ (gN b)) (tp:=96) ⟨b,0,none⟩ underlying96 hj;go_enter func360,ntmps360;go_wp2;rw[V1 func378 (by rfl) (by rfl) rfl (e:=Extern.AbiNoEscape.same) rfl];rw[Lib.run_noEscape];simp only[Result.andThen];rw[Oper.upon_value];go_wp2;go_end0;exact⟨rfl,x,E⟩
 .have F:w.cell? ⟨b,0,none⟩=some (gN b):=by rw[fW g];rfl
  have C:=iX g;have x:Hid (Yt w B b u (gN b) l):=fV ⟨A,v,g,y,z⟩;have G:=Pu (P:=prog) w (tp:=96) ⟨b,0,none⟩ underlying96 hj;go_enter func360,ntmps360;go_wp2;go_end0;exact⟨rfl,x,Kept.refl _ _⟩
theorem Po (B b:Nat) (A:gQ×Bool) (l:List UInt8) (s:gz) (w C:gx) (h:Wu w B b A l) (Q:l.length+s.size<=140737488355328) (a0:B<=w.heap.size) (H:Kept [] C w) (a1:C.heap.size<=B):
  Calls prog 335 #[gN b,gH s] w λe w'=>e=iw (.tuple #[gh s.size,.nilIface])/\Wu w' B b A (l++s.data.toList)/\Kept [] C w'/\KB w w':=by
 have⟨i0,hi,hz0,hz1,hz2⟩:=ux ZW;have N:=h;have E:=H;go_enter func335,ntmps335
 go_wp21
 refine(Tm B b A l _ N).mono ?_;rintro e U ⟨rfl,h1,x⟩;have⟨hB,v,hbk,hown,hne⟩:=h1;have K:KB w U:=by
  rcases N with⟨_,_,J,_⟩|⟨_,_,J,_⟩
  .exact .Ub x J
  .exact .Ub x J
 have X:=fW hbk 1;dsimp at X;have I:b < U.heap.size:=iX hbk;go_wp2_with (at_builtin;refine Lib.wpList_append_own_string _ rfl _ _ 55 9 rfl B 5 i0 underlying55 underlying9 hi hz0 hz1 hz2 _ _ _ rfl hown s rfl ?c3 ?c4 ?c5 ?_)
 case c3=>unfold maxLen;omega
 case c4=>omega
 case c5=>omega
 intro v' w2 j i _;have u:w2.heap[b]?=some (gL #[gN b,v,A.1,.bool A.2] 100):=by
  rw[i.block b I (λe=>hne e.symm)];exact hbk
 have Z:=fW u 1;dsimp at Z;have f1:w2.frozen? ⟨b,1,none⟩=false:=gu u 1;have⟨ao,cap,hv⟩:=gF j;subst hv;have S:∀q,v.ownBlock=some q->B<=q:=λq z=>(hown.lt q z).1;have y:∀q,(Value.slice ao (l.length+s.size) cap).ownBlock=some q->q≠b:=λq z e=>by
  subst e;rcases j.2 with⟨e2,_⟩|⟨g,O,Y,e2,_,hc,_⟩
  .grind
  .rw[e2]at z;have e3:=jy z
   grind
 have T:Kept [b] w2 (w2.setCell ⟨b,1,none⟩ (.slice ao (l.length+s.size) cap)):=(Kept.refl [b] w2).setCell (.inl (by simp)) _;have V:Hid (Wu (w2.setCell ⟨b,1,none⟩ (.slice ao (l.length+s.size) cap)) B b A (l++s.data.toList)):=fV (.inr ⟨hB,_,gm u 1 _,by
  rw[Lo,mJ];exact T.ownsRow j (λq z=>by grind),λe=>y b e rfl⟩)
 have G:Hid (Kept [] C (w2.setCell ⟨b,1,none⟩ (.slice ao (l.length+s.size) cap))):=fV ((((E.next x (by simp;omega))).grown i (λq z=> .inr (by grind))).setCell (.inr (by grind)) _);have F:=(K.trans (KB.aar i hown)).trans (KB.Ub T u);go_wp2;go_ret2;exact⟨rfl,V,G,F⟩
theorem Bw (B b g K:Nat) (F:gQ×Bool) (l:List UInt8) (xs:List gz) (w A:gx) (h:Wu w B b F l) (hg:w.heap[g]?=some (gL (xs.map Value.string).toArray 9)) (y:l.length+(kY xs).length<=140737488355328) (O:Kept [] A w) (T:A.heap.size<=B) (U:xs.length<=4096):
  Calls prog 419 #[gN b,oe g xs.length K] w λe w'=>e=pE/\Wu w' B b F (l++kY xs)/\Kept [] A w'/\KB w w':=by
 obtain⟨n,S⟩:∃n,n=xs.length:=⟨_,rfl⟩;rw[<-S]at U|-;have V:=fV S;have HT:=h;have HG:=hg;have a0:=O;have I:=y;clear S;go_enter func419,ntmps419
 go_wp21
 go_loopw [8] (λv wr=>∃i:Nat,v=gh i/\i<=n/\Wu wr B b F (l++kY (xs.take i))/\Kept [] A wr/\KB w wr) (λv _=>n - (intOf v).toNat)
 case atStart=>grind[Wu,kY,KB]
 case round=>
  obtain⟨i,rfl,hi,E,Y,x⟩:=hrel
  by_cases Q:i < n
  .have X:i < xs.length:=by rw[<-V.out];exact Q
   have gg:=x g _ _ HG (by decide);have hc:wr.cell? ⟨g,i,none⟩=some (gH xs[i]):=by rw[fW gg];simp[X]
   have j:kY (xs.take (i+1))=kY (xs.take i)++xs[i].data.toList:=by
    rw[Ff,qB X,Eo];simp[kY]
   have q:(l++kY (xs.take i)).length+xs[i].size<=140737488355328:=by
    have e:=sn List.length (sn kY (Af (i+1) xs));rw[Eo,j]at e;have:=I;have es:xs[i].data.toList.length=xs[i].size:=yA;simp only[mJ]at e|-;omega
   have a1:B<=b/\b < wr.heap.size:=by rcases E with⟨z,_,Z,_⟩|⟨z,_,Z,_⟩<;>exact⟨z,iX Z⟩
   have C:=Po B b F _ xs[i] wr A E q (by omega) Y T;rw[wm,<-j]at C;have HB:=fV x;generalize xs[i]=u at *;clear x
   go_wp21
   refine C.mono ?_;rintro e W2 ⟨rfl,J,H,N⟩;have G:=HB.trans N;go_wp2;go_roundw
   case rel=>grind
   case measure=>simp[intOf];omega
  .have he:xs.take i=xs:=BF (by rw[<-V.out];omega);rw[he]at E;have J:=E;have H:=Y;have G:=x;clear x;go_wp2;go_end0
   grind
end
end Go.Proofs.YtlhhgenpcjjajaaGreatDoor
