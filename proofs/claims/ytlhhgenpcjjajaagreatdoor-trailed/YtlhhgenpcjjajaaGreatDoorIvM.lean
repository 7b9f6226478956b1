import Derived.Test.YtlhhgenpcjjajaaGreatDoorRtC
set_option linter.unusedSimpArgs false
set_option linter.unusedVariables false
set_option linter.defProp false
set_option maxHeartbeats 0
set_option maxRecDepth 100000
namespace Go.Proofs.YtlhhgenpcjjajaaGreatDoor
open Go.RowKit Go.PlainAid Go.Extern.Stop Go.Stop Go.Extern Tryz
def Fo:=@Nat.le_add_right
def zh:=@World.frozen?_alloc_old
section
variable {D : Tn} {L a b bg c d f k l lg m n ps : Nat} {P : qI Unit->Prop} {R : RC} {fX : kZ} {lk : Bool} {look : fN->Option fN} {nm s : fN} {o : Ru} {r : qI Unit} {sp : lM} {t : fZ} {w w' wl : fO} {σ : Ab}
def EB (σ:Ab) (r:qI Bool):Prop:=match r with
 | .ok x σ'=>mD σ'/\σ'.fQ≠[]/\qE σ'.mode=true/\(Lm σ σ'/\σ'.waiting=σ.waiting)/\wt σ'<=wt σ/\σ'.fresh=σ.fresh/\(x=true->σ'.fQ.length < σ.fQ.length)/\(x=false->σ'=σ)
 | .stop _ _=>False
 | .stuck=>False
def dQ (σ:Ab):Lm σ σ:=⟨rfl,rfl,rfl,rfl,lx _,λ_ h=> .inl h⟩
def EB.no (h:nu σ):EB σ (.ok false σ):=⟨h.iv,h.ne,h.md,⟨dQ σ,rfl⟩,gr _,rfl,(λh=>by cases h),λ_=>rfl⟩
theorem EB.OZ (h:nu σ) (p b:fN->Bool) (v:p fy=false) {k:Bool->M Bool} (u:k false=Pure.pure false) (y:∀g,mD g->g.fQ≠[]->∃i,k true g= .ok true i/\mD i/\i.fQ=g.fQ/\qE i.mode=true/\i.gp=g.gp/\i.pS=g.pS/\i.rq=g.rq/\i.oY=g.oY/\i.waiting=g.waiting/\i.nodes=g.nodes/\i.fresh=g.fresh):EB σ ((nh p b>>=k) σ):=by
 have q:=wW h.iv p b v;rw[M.fP];revert q;cases hq:nh p b σ with
 |ok x g=>
  rintro⟨z,j,E,A,C,B⟩;dsimp only;cases x with
  |false=>
   rw[u];have e:=B rfl;subst e;exact EB.no h
  |true=>
   have⟨i,e,g1,g2,g3,g4,g5,g6,g7,g8,g9,g10⟩:=y g z (j.ne h.ne);rw[e];refine⟨g1,by rw[g2];exact j.ne h.ne,g3,⟨⟨g4.trans j.gp,g5.trans j.pS,g6.trans j.rq,g7.trans j.oY,?_,by rw[g8,j.waiting];grind⟩,g8.trans j.waiting⟩,?_,g10.trans A.fresh,?_,λh=>by cases h⟩
   .rw[g8,j.waiting];omega
   all_goals grind[wt]
 |stop c p=>unfold nh at hq;grind
 |stuck=>simp[ji]
def CJ (h:nu σ) (ks:List fN) (m:Nat) (g:gI ks fy=false) (i:qE m=true):EB σ (sd ks m σ):=by
 unfold sd;refine EB.OZ h _ _ g (k:=λb=>if b then (do ju m;return true)else return false) rfl ?_;intro e p j;exact⟨{e with mode:=m},rfl,p.mM rfl rfl rfl rfl rfl rfl rfl,rfl,i,rfl,rfl,rfl,rfl,rfl,rfl,rfl⟩
def yp (h:nu σ) (ks:List fN) (m:Nat) (B:gI ks fy=false) (C:qE m=true):EB σ (lc ks m σ):=by
 have A:=CJ h ks m B C;unfold lc;rw[M.fP];revert A;cases sd ks m σ with
 |ok x σ1=>
  rintro⟨i,q,j,⟨e,y⟩,v,u,g,z⟩;dsimp only;cases x with
  |false=>exact⟨i,q,j,⟨e,y⟩,v,u,g,z⟩
  |true=>
   have⟨g1,g2,g3,g4⟩:=JZ i;exact⟨g1,q,j,⟨⟨e.gp,e.pS,e.rq,e.oY,e.wt,e.wz⟩,y⟩,v,u,g,λh=>by cases h⟩
 |stop c p=>simp
 |stuck=>simp
theorem Ra (s:fN):qE (jv s)=true:=by
 grind[qE,jv]
def Gi (σ:Ab):∀e:j5,qE (ur σ e)=true
 |[]=>rfl
 |x::e=>by
  unfold ur;split
  .exact Gi σ e
  .exact Ra _
def Pp (h:nu σ) (p b:fN->Bool) (i:p fy=false):EB σ ((nh p b>>=λb=>if b then (do xX;return true)else return false) σ):=by
 refine EB.OZ h p b i (k:=λb=>if b then (do xX;return true)else return false) rfl ?_;intro e j g;exact⟨{e with mode:=ur e e.fQ.reverse},rfl,j.mM rfl rfl rfl rfl rfl rfl rfl,rfl,Gi _ _,rfl,rfl,rfl,rfl,rfl,rfl,rfl⟩
theorem Eb (h:nu σ):EB σ (mx σ):=by
 unfold mx;split
 .rename_i e;have g:=xw h.iv _ (by kernel_rfl) e;have⟨g1,g2⟩:=JW h.iv g;show EB σ (.ok true {σ.pop with mode:=7});refine⟨g1.mM rfl rfl rfl rfl rfl rfl rfl,g2.ne h.ne,rfl,⟨⟨rfl,rfl,rfl,rfl,lx _,λ_ h=> .inl h⟩,rfl⟩,nk (jh rfl),rfl,λ_=>?_,λh=>by cases h⟩
  grind[Ab.pop]
 .exact EB.no h
structure xR (b:M Bool):Prop where
 ok:∀σ,nu σ->EB σ (b σ)
def zA:xR tW:=⟨λ_ h=>yp h _ _ (by kernel_rfl) rfl⟩
def FI:xR endCell:=⟨λ_ h=>yp h _ _ (by kernel_rfl) rfl⟩
def DL:xR EJ:=⟨λ_ h=>CJ h _ _ (by kernel_rfl) rfl⟩
def wE:xR ra:=⟨λ_ h=>CJ h _ _ (by kernel_rfl) rfl⟩
def Ih:xR yg:=⟨λ_ h=>Pp h _ _ (by kernel_rfl)⟩
def uP:xR vX:=⟨λ_ h=>Pp h _ _ (by kernel_rfl)⟩
def qK:xR mx:=⟨λ_ h=>Eb h⟩
def xz {b:M Bool} (g:xR b) (h:nu σ):RB 0 σ (Ef b σ):=by
 have e:=g.ok σ h;unfold Ef;rw[M.fP];revert e;cases b σ with
 |ok x σ1=>rintro⟨i,u,q,⟨j,B⟩,v,A,y,z⟩;exact⟨i,⟨u,.inl q⟩,j,v⟩
 |stop c p=>simp[EB]
 |stuck=>simp[EB]
theorem Lm.trans {a b c : Ab} (h:Lm a b) (hw:b.waiting=a.waiting) (k:Lm b c):Lm a c:=⟨k.gp.trans h.gp,k.pS.trans h.pS,k.rq.trans h.rq,k.oY.trans h.oY,by have:=k.wt;grind,by have:=k.wz;grind⟩
def Zs {b:M Bool} (H:xR b) (h:nu σ) {g:Nat->fZ->M Unit} (I:∀e,nu e->e.fQ.length < σ.fQ.length->wt e<=wt σ->e.fresh=σ.fresh->e.waiting=σ.waiting->e.pS=σ.pS->RB c e (g e.mode t e)):RB c σ (x9 g b t σ):=by
 have E:=H.ok σ h;unfold x9;rw[M.fP];revert E;cases b σ with
 |ok x σ1=>
  rintro⟨j,v,q,⟨i,y⟩,K,J,z,N⟩;dsimp only;cases x with
  |false=>exact⟨j,⟨v,.inl q⟩,i,by omega⟩
  |true=>
   have F:=I σ1 ⟨j,v,q⟩ (z rfl) K J y i.pS;have G:RB c σ1 ((kq g t>>=λ_=>(Pure.pure ():M Unit)) σ1):=RB.tail F;show RB c σ ((kq g t>>=λ_=>(Pure.pure ():M Unit)) σ1);revert G;cases(kq g t>>=λ_=>(Pure.pure ():M Unit)) σ1 with
   |ok u σ2=>rintro⟨A,B,C,O⟩;exact⟨A,B,i.trans y C,by omega⟩
   |stop c p=>exact λh=>CG h i.gp
   |stuck=>simp[RB]
 |stop c p=>simp[EB]
 |stuck=>simp[EB]
section
variable {σ:Ab} {t:fZ} (h:nu σ) (hw:wt σ < 999000)
include h hw
def Bq (g:lR σ t) (ks:List fN) (m:Nat) (j:qE m=true):RB 1 σ (uC ks m t σ):=by
 unfold uC;refine RB.bind (xG h.iv (gI ks)) (c2:=1) ?_ (by omega);rintro _ v p e y u;refine RB.bind (jy p (e.ne h.ne) (by omega) t g.tag (u.fresh.trans g.fr)) (c2:=0) ?_ (by omega);rintro _ x q i z _;exact Hp q (i.ne (e.ne h.ne)) m j
def GI (i:lR σ t):RB 1 σ (pz t σ):=by
 unfold pz;refine RB.bind (xG h.iv (gI [fC])) (c2:=1) ?_ (by omega);rintro _ y p e B v;refine RB.bind (vI p none (λ_ h=>by cases h)) (c2:=1) ?_ (by omega);rintro _ z q g C x;refine RB.bind (jy q (g.ne (e.ne h.ne)) (by omega) t i.tag (x.fresh.trans (v.fresh.trans i.fr))) (c2:=0) ?_ (by omega);rintro _ A u j E _;exact Hp u (j.ne (g.ne (e.ne h.ne))) 9 rfl
def yX (j:lR σ t):RB 1 σ (qY t σ):=by
 unfold qY;refine RB.bind (xG h.iv (gI [gq])) (c2:=1) ?_ (by omega);rintro _ G A i H F;refine RB.bind (jy A (i.ne h.ne) (by omega) t j.tag (F.fresh.trans j.fr)) (c2:=0) ?_ (by omega);rintro _ e B q I _;have E:=q.ne (i.ne h.ne);have C:mD {e with mode:=13}:=B.mM rfl rfl rfl rfl rfl rfl rfl;have z:=(ji.ic (Q:=λ_ _=>True) ((vI C none (λ_ h=>by cases h)).mono (gr _) (λ_ _ _ _ _=>trivial))).rb E rfl;show RB 0 e ((lh none>>=λ_=>(Pure.pure ():M Unit)) {e with mode:=13});revert z;cases(lh none>>=λ_=>(Pure.pure ():M Unit)) {e with mode:=13} with
 |ok u σ4=>rintro⟨v,x,g,y⟩;exact⟨v,x,⟨g.gp,g.pS,g.rq,g.oY,g.wt,g.wz⟩,y⟩
 |stop c p=>simp[RB]
 |stuck=>simp[RB]
def BG (u:lR σ t) (v:t.name=gZ):RB 1 σ (lT t σ):=by
 unfold lT;cases hf:σ.form with
 |some d=>exact(j9 h.iv h.EI).mono (by omega)
 |none=>
  dsimp only;refine RB.bind (jy h.iv h.ne (by omega) t u.tag u.fr) (c2:=0) ?_ (by omega);rintro _ e y g B ⟨j,q⟩;refine RB.bind (yD y (D9 q h.ne)) (c2:=0) ?_ (by omega);rintro x A z i C ⟨rfl,rfl⟩;refine⟨z.N1 e.last ?_,⟨i.ne (g.ne h.ne),.inl ?_⟩,⟨rfl,rfl,rfl,rfl,lx _,λ_ h=> .inl h⟩,nk (jh rfl)⟩
  .intro d p;rw[Dz q]at p;cases p;rw[<-v];exact i.nm _ _ q.nm
  .show qE e.mode=true;rw[g.mode];exact h.md
def uG (e:lR σ t):RB 1 σ (lp t σ):=(qi h.iv h.ne (by omega) t e.tag e.fr).rb h.ne h.md
def zE (e:lR σ t):RB 1 σ (jO t σ):=by
 have:ji 1 σ (jO t σ) (λ_ _=>True):=by
  unfold jO;refine ji.bind (ui h.iv (gI [fY]) (by kernel_rfl)) (c2:=1) ?_ (by omega);rintro _ p i g q j;exact ji.ic ((jy i (g.ne h.ne) (by omega) t e.tag (j.fresh.trans e.fr)).mono (gr _) (λ_ _ _ _ _=>trivial))
 exact this.rb h.ne h.md
def ry (p:lR σ t):ji 1 σ (je t σ) (λ_ e=>2<=e.fQ.length):=by
 unfold je;refine ji.bind (ui h.iv (gI [fY]) (by kernel_rfl)) (c2:=1) ?_ (by omega);rintro _ z u g C x;refine ji.bind (ui u (gI [fJ]) (by kernel_rfl)) (c2:=1) ?_ (by omega);rintro _ A v i E y;refine ji.ic ((jy v (i.ne (g.ne h.ne)) (by omega) t p.tag (y.fresh.trans (x.fresh.trans p.fr))).mono (gr _) ?_);rintro _ B _ _ ⟨j,q⟩;exact D9 q (i.ne (g.ne h.ne))
def x8 (e:lR σ t):RB 1 σ (je t σ):=(ry h hw e).rb h.ne h.md
def Cw (e:lR σ t):RB 1 σ (lB t σ):=by
 have:ji 1 σ (lB t σ) (λ_ _=>True):=by
  unfold lB;refine ji.bind (ry h hw e) (c2:=0) ?_ (by omega);rintro _ j g p q i;exact ji.ic ((yD g i).mono (gr _) (λ_ _ _ _ _=>trivial))
 exact this.rb h.ne h.md
omit hw in
def Ar:RB 0 σ (mG σ):=(ji.ic (Q:=λ_ _=>True) ((ui h.iv (gI [fY]) (by kernel_rfl)).mono (gr _) (λ_ _ _ _ _=>trivial))).rb h.ne h.md
omit hw in
theorem yU:RB 0 σ (iS σ):=by
 have j:∀g,mD g->ji 0 g ((pQ (gI [fJ])>>=λ_=>(Pure.pure ():M Unit)) g) (λ_ _=>True):=λg v=>
  ji.ic (Q:=λ_ _=>True) ((ui v (gI [fJ]) (by kernel_rfl)).mono (gr _) (λ_ _ _ _ _=>trivial))
 have:ji 0 σ (iS σ) (λ_ _=>True):=by
  unfold iS;split
  .rename_i p;have u:=xw h.iv _ (by kernel_rfl) p;have⟨r,hr⟩:=id h.iv;have⟨i,e,h1,h2,h3,h4⟩:=MX hr h.ne;rw[List.getLast?_eq_getElem?]at h3;have⟨a,ha1,ha2⟩:=hr.RD h3 (by omega);have q:gU σ.fQ (posOf σ.fQ σ.last - 1)=some a:=by
    rw[h1];unfold ahead at ha1;split at ha1
    .grind
    .cases ha1
   rw[q];dsimp only;split
   .refine ji.bind (yD h.iv u) (c2:=0) ?_ (by omega)
    grind
   .exact j σ h.iv
  .exact j σ h.iv
 exact this.rb h.ne h.md
end
theorem tR {n : fN} {r : Ru}:∀{R:List (List fN×Ru)},oB R n=some r->∃p∈R,gI p.1 n=true/\p.2=r
 |[],h=>by cases h
 |p::R,h=>by
  unfold oB at h
  by_cases e:gI p.1 n=true
  .grind
  .rw[gn e]at h;have⟨q,h1,h2⟩:=tR h
   grind
theorem IG {n : fN}:∀{R:List (List fN×Ru)},oB R n=none->∀p∈R,gI p.1 n=false
 |[],_,p,e=>by cases e
 |q::R,h,p,e=>by
  unfold oB at h
  by_cases g:gI q.1 n=true
  .grind
  .rw[gn g]at h;rcases List.mem_cons.1 e with rfl|e
   .grind
   .exact IG h p e
def U2 (t:fZ):Bool:=match t.k with
 | .start _=>true
 |_=>false
structure pB (t:fZ):Prop where
 sz:t.chars.size<=100
 sm:wF t=true
 nl:t.k≠ .lost
def zf (σ:Ab) (t:fZ):Prop:=U2 t=true->σ.fresh=true
def zf.tag (h:zf σ t) (e:U2 t=true):lR σ t:=by
 refine⟨?_,h e⟩;have⟨a,b,k,fX⟩:=t;cases k<;>first|rfl|cases e
theorem gS (lk:Bool) (n m:Nat) (t:fZ) (e:t.k≠ .lost) (sp:lM) (i:wo[m]?=some sp) (r:Ru) (g:jI sp t=r):gD lk (n+1) m t=nD lk (gD true n) (gD lk n) r t:=by
 rw[I8 lk n m t e]
 grind[cY]
def sg (t:fZ):tw 105 true t=nH lD t:=by rfl
def Wo (t:fZ):tw 154 true t=nH qo t:=by rfl
def IX (t:fZ):tw 99 false t=nH (jf 0) t:=by rfl
def KY {n : fN} (h:gI [s] n=true):n=s:=by rw[yv]at h;exact tU h
def afG {u n : fN} (h:gI [s,u] n=true):n=s\/n=u:=by
 unfold gI at h;simp only[List.any_cons,List.any_nil,Bool.or_false,Bool.or_eq_true]at h;rcases h with h|h
 .exact .inl (tU h)
 .exact .inr (tU h)
def Nc {e : List fN} {n : fN} (h:gI e n=true):n∈e:=by
 unfold gI at h;rw[List.any_eq_true]at h;have⟨x,h1,h2⟩:=h;rw[tU h2];exact h1
def Uv (lk:Bool) (n a b:Nat) (nm:fN) (fX:kZ) (e:nm=iC\/nm=iD\/nm=gW) (h:nu σ) (i:σ.fresh=true) (hw:wt σ < 999000):RB 1 σ (gD lk (n+1) 3 ⟨a,b,.start nm,fX⟩ σ):=by
 have g:lR σ ⟨a,b,.start nm,fX⟩:=⟨rfl,i⟩;rcases e with rfl|rfl|rfl
 .rw[gS lk n 3 _ (by simp) lO rfl (.gz 110) (by kernel_rfl)];exact uG h hw g
 .rw[gS lk n 3 _ (by simp) lO rfl (.gz 111) (by kernel_rfl)];exact DE h hw g
 .rw[gS lk n 3 _ (by simp) lO rfl (.gz 112) (by kernel_rfl)];exact Eh h hw g
def oa {e:Nat->fZ->M Unit} (h:RB c {σ with mode:=m} (e m t {σ with mode:=m})):RB c σ ((ju m>>=λ_=>kq e t>>=λ_=>(Pure.pure ():M Unit)) σ):=by
 have v:RB c {σ with mode:=m} ((kq e t>>=λ_=>(Pure.pure ():M Unit)) {σ with mode:=m}):=RB.tail h;show RB c σ ((kq e t>>=λ_=>(Pure.pure ():M Unit)) {σ with mode:=m});revert v;cases(kq e t>>=λ_=>(Pure.pure ():M Unit)) {σ with mode:=m} with
 |ok u σ2=>rintro⟨i,j,g,q⟩;exact⟨i,j,⟨g.gp,g.pS,g.rq,g.oY,g.wt,g.wz⟩,q⟩
 |stop c p=>simp[RB]
 |stuck=>simp[RB]
def nu.mode (h:nu σ) (m:Nat) (e:qE m=true):nu {σ with mode:=m}:=⟨h.iv.mM rfl rfl rfl rfl rfl rfl rfl,h.ne,e⟩
theorem jt (lk:Bool) (n:Nat) (t:fZ) (j:pB t) (h:nu σ) (A:zf σ t) (hw:wt σ < 999000):RB 360 σ (gD lk (n+3) 6 t σ):=by
 have⟨a,b,k,fX⟩:=t;cases k with
 |lost=>exact absurd rfl j.nl
 |jq s=>
  have u:jI kG ⟨a,b,.jq s,fX⟩= .gz 120:=by
   unfold jI;dsimp only;split<;>rfl
  rw[gS lk (n+2) 6 _ j.nl kG rfl _ u];exact(Lu h hw j.sz).mono (by omega)
 |gm s=>
  rw[gS lk (n+2) 6 _ j.nl kG rfl (.gm 105 true) rfl];show RB 360 σ (tw 105 true _ σ);rw[sg];exact RB.mono (c:=1) ((sK h.iv lD (we h.iv h.ne) _ hw).rb h.ne h.md) (by omega)
 |gP s q=>
  rw[gS lk (n+2) 6 _ j.nl kG rfl .nothing rfl];exact(j9 h.iv h.EI).mono (by omega)
 |il=>
  rw[gS lk (n+2) 6 _ j.nl kG rfl .nothing rfl];exact(j9 h.iv h.EI).mono (by omega)
 |start nm=>
  have g:lR σ ⟨a,b,.start nm,fX⟩:=A.tag rfl;cases hl:oB kO nm with
  |none=>
   have u:jI kG ⟨a,b,.start nm,fX⟩= .gz 122:=by
    show jD [((oB kO nm).getD .nil),_,_]=_;rw[hl];rfl
   rw[gS lk (n+2) 6 _ j.nl kG rfl _ u];exact(K4 h hw g).mono (by omega)
  |some r=>
   have⟨p,hp,hn,e⟩:=tR hl;have u:r≠ .nil->jI kG ⟨a,b,.start nm,fX⟩=r:=by
    intro x;show jD [((oB kO nm).getD .nil),_,_]=_;rw[hl];cases r<;>first|rfl|grind
   have go:∀i,r=i->i≠ .nil->RB 360 σ (nD lk (gD true (n+2)) (gD lk (n+2)) i ⟨a,b,.start nm,fX⟩ σ)->RB 360 σ (gD lk (n+3) 6 ⟨a,b,.start nm,fX⟩ σ):=by
    intro i e1 e2 v;rw[gS lk (n+2) 6 _ j.nl kG rfl i (by grind)];exact v
   unfold kO at hp;simp only[kA,FG,kJ]at hp;rcases hp with rfl|rfl|rfl|rfl|rfl|rfl|rfl|rfl|rfl|rfl|rfl|rfl|rfl|rfl|rfl|rfl|rfl|rfl|rfl|rfl|rfl
   all_goals refine go _ e.symm (by simp) ?_
   all_goals dsimp only at hn
   all_goals first
    |exact(Ik h hw g).mono (by omega)
    |exact(NS h hw g (KY hn)).mono (by omega)
    |exact(Dj h hw g (by rcases afG hn with e|e<;>(show ru nm=true;rw[e];kernel_rfl))).mono (by omega)
    |exact(MY h hw g (KY hn)).mono (by omega)
    |exact(NY h hw g).mono (by omega)
    |exact(Ir h hw g).mono (by omega)
    |exact(Ib h hw g).mono (by omega)
    |exact(EH h hw g).mono (by omega)
    |exact(Kl h hw g).mono (by omega)
    |exact(Ie h hw g).mono (by omega)
    |exact(acL h hw g _ (by kernel_rfl)).mono (by omega)
    |exact(NB h hw g (KY hn)).mono (by omega)
    |exact(SR h hw g).mono (by omega)
    |exact(GR h hw g).mono (by omega)
    |exact(Rx h hw g).mono (by omega)
    |exact(Kv h hw g).mono (by omega)
    |exact(j9 h.iv h.EI).mono (by omega)
    |exact(Pe h g.fr).mono (by omega)
    |exact(Rv h g.fr).mono (by omega)
    |exact(Uv lk (n+1) a b nm fX (by have:=Nc hn;grind) h g.fr hw).mono (by omega)
    |skip
 |stop nm=>
  cases hl:oB kT nm with
  |none=>
   have u:jI kG ⟨a,b,.stop nm,fX⟩= .gz 124:=by
    show jD [((oB kT nm).getD .nil),_,_]=_;rw[hl];rfl
   rw[gS lk (n+2) 6 _ j.nl kG rfl _ u];have z:gI [fy] nm=false:=IG hl ([fy],.gz 210) (by simp[kT]);exact(OR h (by
    show nm≠_;rintro rfl;rw[yv]at z;exact ae8 z rfl)).mono (by omega)
  |some r=>
   have⟨p,hp,hn,e⟩:=tR hl;have u:r≠ .nil->jI kG ⟨a,b,.stop nm,fX⟩=r:=by
    intro x;show jD [((oB kT nm).getD .nil),_,_]=_;rw[hl];cases r<;>first|rfl|grind
   have go:∀i,r=i->i≠ .nil->RB 360 σ (nD lk (gD true (n+2)) (gD lk (n+2)) i ⟨a,b,.stop nm,fX⟩ σ)->RB 360 σ (gD lk (n+3) 6 ⟨a,b,.stop nm,fX⟩ σ):=by
    intro i e1 e2 v;rw[gS lk (n+2) 6 _ j.nl kG rfl i (by grind)];exact v
   unfold kT at hp;simp only[kA,FG,kJ]at hp;rcases hp with rfl|rfl|rfl|rfl|rfl|rfl|rfl|rfl|rfl|rfl
   all_goals refine go _ e.symm (by simp) ?_
   all_goals dsimp only at hn
   .exact(NW h).mono (by omega)
   .exact(EQ (t:=⟨a,b,.stop nm,fX⟩) h hw hn).mono (by omega)
   .exact(SI h).mono (by omega)
   .exact(Qa h hw).mono (by omega)
   .exact(abq h hw).mono (by omega)
   .exact(SZ h).mono (by omega)
   .exact(K6 h).mono (by omega)
   .exact(P7 h (by
     show nm≠_;rintro rfl;revert hn;simp[gI,ku,sH])).mono (by omega)
   .have y:=KY hn;subst y;show RB 360 σ (zu (gD lk (n+2)) ⟨a,b,.stop _,fX⟩ σ);unfold zu;split
    .refine oa ?_;rw[gS lk (n+1) 16 _ j.nl mj rfl (.gz 155) (by kernel_rfl)];exact⟨(h.mode 16 rfl).iv.mM rfl rfl rfl rfl rfl rfl rfl,⟨h.ne,.inl rfl⟩,⟨rfl,rfl,rfl,rfl,lx _,λ_ h=> .inl h⟩,jC (nk (jh rfl)) (Fo _ _)⟩
    .exact(j9 h.iv h.EI).mono (by omega)
   .exact(Tf h).mono (by omega)
theorem rO {R : List (List fN×Ru)} (e:sp.start=some R) (q:∀p∈R,p.2≠ .nil) (v:jD [sp.jj,sp.gN]=o) (i:wo[m]?=some sp) (y:∀p∈R,gI p.1 nm=true->RB c σ (nD lk (gD true n) (gD lk n) p.2 ⟨a,b,.start nm,fX⟩ σ)) (j:RB c σ (nD lk (gD true n) (gD lk n) o ⟨a,b,.start nm,fX⟩ σ)):RB c σ (gD lk (n+1) m ⟨a,b,.start nm,fX⟩ σ):=by
 have g:jI sp ⟨a,b,.start nm,fX⟩=jD [((oB R nm).getD .nil),sp.jj,sp.gN]:=by
  show jD [AK sp.start nm,sp.jj,sp.gN]=_;rw[e];rfl
 cases hl:oB R nm with
 |none=>
  rw[gS lk n m _ (by simp) sp i o (by rw[g,hl,<-v];rfl)];exact j
 |some r=>
  obtain⟨p,x,z,rfl⟩:=tR hl;have u:=q p x;rw[gS lk n m _ (by simp) sp i p.2 (by
   rw[g,hl];simp[jD])]
  grind
theorem vH {R : List (List fN×Ru)} (e:sp.stop=some R) (q:∀p∈R,p.2≠ .nil) (v:jD [sp.jG,sp.gN]=o) (i:wo[m]?=some sp) (y:∀p∈R,gI p.1 nm=true->RB c σ (nD lk (gD true n) (gD lk n) p.2 ⟨a,b,.stop nm,fX⟩ σ)) (j:RB c σ (nD lk (gD true n) (gD lk n) o ⟨a,b,.stop nm,fX⟩ σ)):RB c σ (gD lk (n+1) m ⟨a,b,.stop nm,fX⟩ σ):=by
 have g:jI sp ⟨a,b,.stop nm,fX⟩=jD [((oB R nm).getD .nil),sp.jG,sp.gN]:=by
  show jD [AK sp.stop nm,sp.jG,sp.gN]=_;rw[e];rfl
 cases hl:oB R nm with
 |none=>
  rw[gS lk n m _ (by simp) sp i o (by rw[g,hl,<-v];rfl)];exact j
 |some r=>
  obtain⟨p,x,z,rfl⟩:=tR hl;have u:=q p x;rw[gS lk n m _ (by simp) sp i p.2 (by
   rw[g,hl];simp[jD])]
  grind
theorem uE {e : Ru} (p:jD [sp.blank,sp.jq,sp.gN]=e) (q:jD [sp.jq,sp.gN]=o) (g:wo[m]?=some sp) (i:RB c σ (nD lk (gD true n) (gD lk n) e ⟨a,b,.jq s,fX⟩ σ)) (j:RB c σ (nD lk (gD true n) (gD lk n) o ⟨a,b,.jq s,fX⟩ σ)):RB c σ (gD lk (n+1) m ⟨a,b,.jq s,fX⟩ σ):=by
 cases hk:lr s with
 |true=>
  rw[gS lk n m _ (by simp) sp g e (by
   grind[jI])]
  exact i
 |false=>
  rw[gS lk n m _ (by simp) sp g o (by
   grind[jI])]
  exact j
def jc {r : Ru} (g:t.k≠ .lost) (j:wo[m]?=some sp) (i:jI sp t=r) (e:RB c σ (nD lk (gD true n) (gD lk n) r t σ)):RB c σ (gD lk (n+1) m t σ):=by
 rw[gS lk n m t g sp j r i];exact e
def yh {g:Nat->fZ->M Unit} (h:nu σ) (z:∀e,nu e->wt e=wt σ->e.fresh=σ.fresh->RB c e (g 6 t e)):RB c σ (tZ g t σ):=by
 have x:=z {σ with iq:=true} ⟨h.iv.mM rfl rfl rfl rfl rfl rfl rfl,h.ne,h.md⟩ rfl rfl;have y:=RB.then x (λσ=>{σ with iq:=false}) (λ_=>⟨rfl,rfl,rfl,rfl,rfl,rfl,rfl,rfl,rfl,rfl,rfl,rfl⟩);show RB c σ ((g 6 t>>=λ_=>wj (λσ=>{σ with iq:=false})>>=λ_=>(Pure.pure ():M Unit)) {σ with iq:=true});revert y;cases(g 6 t>>=λ_=>wj (λσ=>{σ with iq:=false})>>=λ_=>(Pure.pure ():M Unit)) {σ with iq:=true} with
 |ok u σ2=>rintro⟨j,q,i,v⟩;exact⟨j,q,⟨i.gp,i.pS,i.rq,i.oY,i.wt,i.wz⟩,v⟩
 |stop c p=>simp[RB]
 |stuck=>simp[RB]
def Jg {e:M Unit} (h:nu σ) (g:RB c σ (e σ)):RB c σ (KJ e t σ):=by
 unfold KJ;split
 .exact g
 .exact(j9 h.iv h.EI).mono (im _)
theorem yO {i:Nat->fZ->M Unit} (h:nu σ) (hw:wt σ < 999000) (ks:List fN) (g:fN) (m:Nat) (x:qE m=true) (y:∀e,nu e->e.mode=m->wt e<=wt σ+1->e.fresh=σ.fresh->RB c e (i m t e)):RB (c+1) σ (tm i ks g m t σ):=by
 unfold tm;refine RB.bind (xG h.iv (gI ks)) (c2:=c+1) ?_ (by omega);rintro _ E z u F B;refine RB.bind (rU z (u.ne h.ne) (by omega) g) (c2:=c) ?_ (by omega);rintro _ p A v G ⟨j,q,C⟩;refine oa (y {p with mode:=m} ⟨A.mM rfl rfl rfl rfl rfl rfl rfl,v.ne (u.ne h.ne),x⟩ rfl ?_ ?_)
 .grind[wt]
 .show p.fresh=_;rw[C,B.fresh]
def Eu (h:σ.waiting.length < 4096):oK ⟨a,b,.jq s,fX⟩ σ= .ok () (if sT s then σ else {σ with waiting:=σ.waiting++[(a,b,s)]}):=by
 unfold oK;simp only;cases sT s with
 |true=>rfl
 |false=>simp[h]
theorem Bc (h:nu σ) (j:s.size<=100) (hw:wt σ < 999000) (p:σ.waiting.length < 4000) (g:σ.mode=7\/σ.mode=11\/σ.mode=12):RB 360 σ (qx (gD false (n+4)) ⟨a,b,.jq s,fX⟩ σ):=by
 unfold qx;split
 .show RB 360 σ ((kq (gD false (n+4)) ⟨a,b,.jq s,fX⟩>>=λ_=>(Pure.pure ():M Unit)) {σ with kept:=σ.mode,mode:=8});refine RB.mono (c:=0) ?_ (by omega);have e:gD false (n+4) 8 ⟨a,b,.jq s,fX⟩=oK ⟨a,b,.jq s,fX⟩:=gS false (n+3) 8 _ (by simp) lu rfl (.gz 136) (by
   unfold jI;dsimp only;split<;>rfl)
  show RB 0 σ ((gD false (n+4) 8 ⟨a,b,.jq s,fX⟩>>=λ_=>(Pure.pure ():M Unit)) {σ with kept:=σ.mode,mode:=8});rw[e];have q:mD {σ with kept:=σ.mode,mode:=8}:=h.iv.mM rfl rfl rfl rfl rfl rfl rfl;rw[M.fP,Eu (show({σ with kept:=σ.mode,mode:=8}:Ab).waiting.length < 4096 by grind)];cases sT s with
  |true=>exact⟨q,⟨h.ne,.inr (.inr ⟨rfl,g⟩)⟩,⟨rfl,rfl,rfl,rfl,lx _,λ_ h=> .inl h⟩,nk (jh rfl)⟩
  |false=>exact⟨h.iv.mM rfl rfl rfl rfl rfl rfl rfl,⟨h.ne,.inr (.inr ⟨rfl,g⟩)⟩,⟨rfl,rfl,rfl,rfl,by show(σ.waiting++[(a,b,s)]).length<=_;simp,λx y=>by
    grind⟩,nk (jh rfl)⟩
 .refine RB.tail (yh h ?_);intro u i w' v;exact jt false (n+1) ⟨a,b,.jq s,fX⟩ ⟨j,rfl,by simp⟩ i (λh=>by cases h) (by omega)
def PL (L n:Nat):Prop:=∀t σ,pB t->nu σ->zf σ t->wt σ < 998000->σ.waiting.length < 4000->σ.fQ.length<=L->RB 370 σ (gD false n σ.mode t σ)
theorem PL.ahead (j:PL L n) {b:M Bool} (p:xR b) (h:nu σ) (x:pB t) (q:zf σ t) (hw:wt σ < 998000) (v:σ.waiting.length < 4000) (y:σ.fQ.length<=L+1):RB 370 σ (x9 (gD false n) b t σ):=
 Zs p h (λe i z w' g A _=>j t e x i (λu=>g.trans (q u)) (by omega) (by grind) (by omega))
def Uy (n a b:Nat) (nm:fN) (fX:kZ) (g:nm=gG\/nm=gH) (h:nu σ) (e:lR σ ⟨a,b,.start nm,fX⟩) (hw:wt σ < 999000):RB 1 σ (gD false (n+1) 12 ⟨a,b,.start nm,fX⟩ σ):=by
 rcases g with rfl|rfl
 .rw[gS false n 12 _ (by simp) qz rfl (.gz 143) (by kernel_rfl)];exact yX h hw e
 .rw[gS false n 12 _ (by simp) qz rfl (.gz 143) (by kernel_rfl)];exact yX h hw e
def aeP (n a b:Nat) (nm:fN) (fX:kZ) (g:nm∈[gG,gH,gq]) (h:nu σ) (i:lR σ ⟨a,b,.start nm,fX⟩) (hw:wt σ < 998900):RB 2 σ (gD false (n+2) 11 ⟨a,b,.start nm,fX⟩ σ):=by
 simp only[kA,FG,kJ]at g;have e:nm=gG\/nm=gH->RB 2 σ (tm (gD false (n+1)) [fE,fF,fG] gq 12 ⟨a,b,.start nm,fX⟩ σ):=λq=>
  yO (c:=1) h (by omega) _ _ 12 rfl (λu p v w' j=>Uy n a b nm fX q p ⟨rfl,j.trans i.fr⟩ (by omega))
 rcases g with rfl|rfl|rfl
 .rw[gS false (n+1) 11 _ (by simp) jJ rfl (.mh [fE,fF,fG] gq 12) (by kernel_rfl)];exact e (.inl rfl)
 .rw[gS false (n+1) 11 _ (by simp) jJ rfl (.mh [fE,fF,fG] gq 12) (by kernel_rfl)];exact e (.inr rfl)
 .rw[gS false (n+1) 11 _ (by simp) jJ rfl (.po [fE,fF,fG] 12) (by kernel_rfl)];exact(Bq h (by omega) i _ 12 rfl).mono (by omega)
def UK (H:PL L (k+5)) (t:fZ) (i:pB t) (h:nu σ) (B:σ.mode=7\/σ.mode=11\/σ.mode=12) (A:zf σ t) (hw:wt σ < 998000) (z:σ.waiting.length < 4000) (I:σ.fQ.length<=L+1):RB 370 σ (gD false (k+6) 7 t σ):=by
 have e:wt σ < 999000:=by omega
 have⟨a,b,kk,fX⟩:=t;cases kk with
 |lost=>exact absurd rfl i.nl
 |jq s=>
  refine uE (sp:=pg) rfl rfl rfl ?_ ?_
  .exact(Bc (n:=k+1) h i.sz e z B).mono (by omega)
  .exact(Bc (n:=k+1) h i.sz e z B).mono (by omega)
 |gm s=>
  refine jc i.nl (sp:=pg) rfl rfl ?_
  (show RB 370 σ (tw 105 true _ σ);rw[sg];exact RB.mono (c:=1) ((sK h.iv lD (we h.iv h.ne) _ e).rb h.ne h.md) (by omega))
 |gP s q=>
  refine jc i.nl (sp:=pg) rfl rfl ?_;exact(j9 h.iv h.EI).mono (by omega)
 |il=>
  refine jc i.nl (sp:=pg) rfl rfl ?_;exact(yh h (λg u w' j=>jt false (k+2) _ i u (λy=>j.trans (A y)) (by omega))).mono (by omega)
 |start nm=>
  have v:lR σ ⟨a,b,.start nm,fX⟩:=A.tag rfl;refine rO (sp:=pg) rfl (by simp) rfl rfl ?_ ?_
  .intro p C x;simp only[kA,FG,kJ]at C;rcases C with rfl|rfl|rfl|rfl|rfl|rfl|rfl|rfl|rfl
   all_goals dsimp only at x|-
   .show RB 370 σ ((if wF _ then kF (gD false (k+5)) _ else stuck:M Unit) σ);rw[fU i.sm];unfold kF;split
    .exact(RB.tail (uG h e v)).mono (by omega)
    .exact(RB.tail (yh h (λg u w' j=>jt false (k+2) _ i u (λy=>j.trans (A y)) (by omega)))).mono (by omega)
   .exact(BG h e v (KY x)).mono (by omega)
   .exact(Uv false (k+4) a b nm fX (.inr (.inr (KY x))) h v.fr e).mono (by omega)
   .exact H.ahead Ih h i A hw z I
   .exact(yO (c:=2) h e _ _ 11 rfl (λg u J w' j=>by
     have G:wt g < 998900:=by omega
     have F:lR g ⟨a,b,.start nm,fX⟩:=⟨rfl,j.trans v.fr⟩;exact aeP (k+3) a b nm fX (Nc x) u F G)).mono (by omega)
   .exact(Bq h e v _ 11 rfl).mono (by omega)
   .exact(yO (c:=1) h e _ _ 10 rfl (λg u J w' j=>by
     have E:=KY x;subst E;rw[gS false (k+4) 10 _ (by simp) jL rfl (.gz 110) (by kernel_rfl)];exact uG u (by omega) ⟨rfl,j.trans v.fr⟩)).mono (by omega)
   .exact(Bq h e v _ 10 rfl).mono (by omega)
   .exact(GI h e v).mono (by omega)
  .exact(yh h (λg u w' j=>jt false (k+2) _ i u (λy=>j.trans (A y)) (by omega))).mono (by omega)
 |stop nm=>
  refine vH (sp:=pg) rfl (by simp) rfl rfl ?_ ?_
  .intro p C x;simp only[kA,FG,kJ]at C;rcases C with rfl|rfl
   all_goals dsimp only at x|-
   .exact(j9 h.iv h.EI).mono (by omega)
   .exact(xz Ih h).mono (by omega)
  .exact(yh h (λg u w' j=>jt false (k+2) _ i u (λy=>j.trans (A y)) (by omega))).mono (by omega)
def abz (x:PL L (k+5)) (t:fZ) (g:pB t) (h:nu σ) (i:zf σ t) (hw:wt σ < 998000) (u:σ.waiting.length < 4000) (y:σ.fQ.length<=L+1):RB 370 σ (gD false (k+6) 9 t σ):=by
 have e:wt σ < 999000:=by omega
 have⟨a,b,kk,fX⟩:=t;cases kk with
 |lost=>exact absurd rfl g.nl
 |jq s=>
  refine uE (sp:=mX) rfl rfl rfl ?_ ?_
  .exact(jt false (k+2) _ g h i e).mono (by omega)
  .exact(jt false (k+2) _ g h i e).mono (by omega)
 |gm s=>
  refine jc g.nl (sp:=mX) rfl rfl ?_;exact(jt false (k+2) _ g h i e).mono (by omega)
 |gP s q=>
  refine jc g.nl (sp:=mX) rfl rfl ?_;exact(jt false (k+2) _ g h i e).mono (by omega)
 |il=>
  refine jc g.nl (sp:=mX) rfl rfl ?_;exact(jt false (k+2) _ g h i e).mono (by omega)
 |start nm=>
  have z:lR σ ⟨a,b,.start nm,fX⟩:=i.tag rfl;refine rO (sp:=mX) rfl (by simp) rfl rfl ?_ ?_
  .intro p j v;simp only[kA,FG,kJ]at j;rcases j with rfl
   all_goals dsimp only at v|-
   .exact x.ahead zA h g i hw u y
  .exact(jt false (k+2) _ g h i e).mono (by omega)
 |stop nm=>
  refine vH (sp:=mX) rfl (by simp) rfl rfl ?_ ?_
  .intro p j v;simp only[kA,FG,kJ]at j;rcases j with rfl|rfl|rfl
   all_goals dsimp only at v|-
   .exact(j9 h.iv h.EI).mono (by omega)
   .exact x.ahead zA h g i hw u y
   .exact(xz zA h).mono (by omega)
  .exact(jt false (k+2) _ g h i e).mono (by omega)
def aac (v:PL L (k+5)) (t:fZ) (g:pB t) (h:nu σ) (j:zf σ t) (hw:wt σ < 998000) (i:σ.waiting.length < 4000) (x:σ.fQ.length<=L+1):RB 370 σ (gD false (k+6) 10 t σ):=by
 have e:wt σ < 999000:=by omega
 have⟨a,b,kk,fX⟩:=t;cases kk with
 |lost=>exact absurd rfl g.nl
 |jq s=>
  refine uE (sp:=jL) rfl rfl rfl ?_ ?_
  .exact(Ce h e g.sz).mono (by omega)
  .exact v.ahead qK h g j hw i x
 |gm s=>
  refine jc g.nl (sp:=jL) rfl rfl ?_
  (show RB 370 σ (tw 105 true _ σ);rw[sg];exact RB.mono (c:=1) ((sK h.iv lD (we h.iv h.ne) _ e).rb h.ne h.md) (by omega))
 |gP s q=>
  refine jc g.nl (sp:=jL) rfl rfl ?_;exact(j9 h.iv h.EI).mono (by omega)
 |il=>
  refine jc g.nl (sp:=jL) rfl rfl ?_;exact(jt false (k+2) _ g h j e).mono (by omega)
 |start nm=>
  have z:lR σ ⟨a,b,.start nm,fX⟩:=j.tag rfl;refine rO (sp:=jL) rfl (by simp) rfl rfl ?_ ?_
  .intro p u y;simp only[kA,FG,kJ]at u;rcases u with rfl|rfl
   all_goals dsimp only at y|-
   .exact(uG h e z).mono (by omega)
   .exact(jt false (k+2) _ g h j e).mono (by omega)
  .exact v.ahead qK h g j hw i x
 |stop nm=>
  refine vH (sp:=jL) rfl (by simp) rfl rfl ?_ ?_
  .intro p u y;simp only[kA,FG,kJ]at u;rcases u with rfl|rfl
   all_goals dsimp only at y|-
   .exact(xz qK h).mono (by omega)
   .exact(j9 h.iv h.EI).mono (by omega)
  .exact v.ahead qK h g j hw i x
def YP (A:PL L (k+5)) (v:∀t σ,pB t->nu σ->(σ.mode=7\/σ.mode=11\/σ.mode=12)->zf σ t->wt σ < 998000->σ.waiting.length < 4000->σ.fQ.length<=L+1->RB 370 σ (gD false (k+5) 7 t σ)) (t:fZ) (i:pB t) (h:nu σ) (g:σ.mode=7\/σ.mode=11\/σ.mode=12) (j:zf σ t) (hw:wt σ < 998000) (e:σ.waiting.length < 4000) (u:σ.fQ.length<=L+1):RB 370 σ (gD false (k+6) 11 t σ):=by
 have y:wt σ < 999000:=by omega
 have⟨a,b,kk,fX⟩:=t;cases kk with
 |lost=>exact absurd rfl i.nl
 |jq s=>
  refine uE (sp:=jJ) rfl rfl rfl ?_ ?_
  .exact v _ σ i h g j hw e u
  .exact v _ σ i h g j hw e u
 |gm s=>
  refine jc i.nl (sp:=jJ) rfl rfl ?_;exact v _ σ i h g j hw e u
 |gP s q=>
  refine jc i.nl (sp:=jJ) rfl rfl ?_;exact v _ σ i h g j hw e u
 |il=>
  refine jc i.nl (sp:=jJ) rfl rfl ?_;exact v _ σ i h g j hw e u
 |start nm=>
  have B:lR σ ⟨a,b,.start nm,fX⟩:=j.tag rfl;refine rO (sp:=jJ) rfl (by simp) rfl rfl ?_ ?_
  .intro p x z;simp only[kA,FG,kJ]at x;rcases x with rfl|rfl|rfl
   all_goals dsimp only at z|-
   .exact A.ahead wE h i j hw e u
   .exact(yO (c:=1) h y _ _ 12 rfl (λF E G w' C=>Uy (k+4) a b nm fX (afG z) E ⟨rfl,C.trans B.fr⟩ (by omega))).mono (by omega)
   .exact(Bq h y B _ 12 rfl).mono (by omega)
  .exact v _ σ i h g j hw e u
 |stop nm=>
  refine vH (sp:=jJ) rfl (by simp) rfl rfl ?_ ?_
  .intro p x z;simp only[kA,FG,kJ]at x;rcases x with rfl|rfl|rfl
   all_goals dsimp only at z|-
   .exact(j9 h.iv h.EI).mono (by omega)
   .exact A.ahead wE h i j hw e u
   .exact Jg h (by exact(xz wE h).mono (by omega))
  .exact v _ σ i h g j hw e u
def Za (y:PL L (k+5)) (v:∀t σ,pB t->nu σ->(σ.mode=7\/σ.mode=11\/σ.mode=12)->zf σ t->wt σ < 998000->σ.waiting.length < 4000->σ.fQ.length<=L+1->RB 370 σ (gD false (k+5) 7 t σ)) (t:fZ) (i:pB t) (h:nu σ) (g:σ.mode=7\/σ.mode=11\/σ.mode=12) (j:zf σ t) (hw:wt σ < 998000) (e:σ.waiting.length < 4000) (u:σ.fQ.length<=L+1):RB 370 σ (gD false (k+6) 12 t σ):=by
 have A:wt σ < 999000:=by omega
 have⟨a,b,kk,fX⟩:=t;cases kk with
 |lost=>exact absurd rfl i.nl
 |jq s=>
  refine uE (sp:=qz) rfl rfl rfl ?_ ?_
  .exact v _ σ i h g j hw e u
  .exact v _ σ i h g j hw e u
 |gm s=>
  refine jc i.nl (sp:=qz) rfl rfl ?_;exact v _ σ i h g j hw e u
 |gP s q=>
  refine jc i.nl (sp:=qz) rfl rfl ?_;exact v _ σ i h g j hw e u
 |il=>
  refine jc i.nl (sp:=qz) rfl rfl ?_;exact v _ σ i h g j hw e u
 |start nm=>
  have B:lR σ ⟨a,b,.start nm,fX⟩:=j.tag rfl;refine rO (sp:=qz) rfl (by simp) rfl rfl ?_ ?_
  .intro p x z;simp only[kA,FG,kJ]at x;rcases x with rfl|rfl
   all_goals dsimp only at z|-
   .exact y.ahead DL h i j hw e u
   .exact(yX h A B).mono (by omega)
  .exact v _ σ i h g j hw e u
 |stop nm=>
  refine vH (sp:=qz) rfl (by simp) rfl rfl ?_ ?_
  .intro p x z;simp only[kA,FG,kJ]at x;rcases x with rfl|rfl|rfl|rfl
   all_goals dsimp only at z|-
   .exact(j9 h.iv h.EI).mono (by omega)
   .exact Jg h (by exact y.ahead DL h i j hw e u)
   .exact y.ahead DL h i j hw e u
   .exact(xz DL h).mono (by omega)
  .exact v _ σ i h g j hw e u
def aam (x:PL L (k+5)) (t:fZ) (g:pB t) (h:nu σ) (i:zf σ t) (hw:wt σ < 998000) (u:σ.waiting.length < 4000) (y:σ.fQ.length<=L+1):RB 370 σ (gD false (k+6) 13 t σ):=by
 have e:wt σ < 999000:=by omega
 have⟨a,b,kk,fX⟩:=t;cases kk with
 |lost=>exact absurd rfl g.nl
 |jq s=>
  refine uE (sp:=qJ) rfl rfl rfl ?_ ?_
  .exact(jt false (k+2) _ g h i e).mono (by omega)
  .exact(jt false (k+2) _ g h i e).mono (by omega)
 |gm s=>
  refine jc g.nl (sp:=qJ) rfl rfl ?_;exact(jt false (k+2) _ g h i e).mono (by omega)
 |gP s q=>
  refine jc g.nl (sp:=qJ) rfl rfl ?_;exact(jt false (k+2) _ g h i e).mono (by omega)
 |il=>
  refine jc g.nl (sp:=qJ) rfl rfl ?_;exact(jt false (k+2) _ g h i e).mono (by omega)
 |start nm=>
  have z:lR σ ⟨a,b,.start nm,fX⟩:=i.tag rfl;refine rO (sp:=qJ) rfl (by simp) rfl rfl ?_ ?_
  .intro p j v;simp only[kA,FG,kJ]at j;rcases j with rfl
   all_goals dsimp only at v|-
   .exact x.ahead FI h g i hw u y
  .exact(jt false (k+2) _ g h i e).mono (by omega)
 |stop nm=>
  refine vH (sp:=qJ) rfl (by simp) rfl rfl ?_ ?_
  .intro p j v;simp only[kA,FG,kJ]at j;rcases j with rfl|rfl|rfl
   all_goals dsimp only at v|-
   .exact(j9 h.iv h.EI).mono (by omega)
   .exact Jg h (by exact x.ahead FI h g i hw u y)
   .exact Jg h (by exact(xz FI h).mono (by omega))
  .exact(jt false (k+2) _ g h i e).mono (by omega)
def O8 (y:PL L (k+5)) (t:fZ) (g:pB t) (h:nu σ) (j:zf σ t) (hw:wt σ < 998000) (x:σ.waiting.length < 4000) (z:σ.fQ.length<=L+1):RB 370 σ (gD false (k+6) 14 t σ):=by
 have e:wt σ < 999000:=by omega
 have⟨a,b,kk,fX⟩:=t;cases kk with
 |lost=>exact absurd rfl g.nl
 |jq s=>
  refine uE (sp:=oo) rfl rfl rfl ?_ ?_
  .exact(zT h e g.sz).mono (by omega)
  .exact(zT h e g.sz).mono (by omega)
 |gm s=>
  refine jc g.nl (sp:=oo) rfl rfl ?_
  (show RB 370 σ (tw 105 true _ σ);rw[sg];exact RB.mono (c:=1) ((sK h.iv lD (we h.iv h.ne) _ e).rb h.ne h.md) (by omega))
 |gP s q=>
  refine jc g.nl (sp:=oo) rfl rfl ?_;exact(j9 h.iv h.EI).mono (by omega)
 |il=>
  refine jc g.nl (sp:=oo) rfl rfl ?_;exact(j9 h.iv h.EI).mono (by omega)
 |start nm=>
  have v:lR σ ⟨a,b,.start nm,fX⟩:=j.tag rfl;refine rO (sp:=oo) rfl (by simp) rfl rfl ?_ ?_
  .intro p i u;simp only[kA,FG,kJ]at i;rcases i with rfl|rfl|rfl|rfl|rfl|rfl
   all_goals dsimp only at u|-
   .exact y.ahead uP h g j hw x z
   .exact(xz uP h).mono (by omega)
   .exact(Cw h e v).mono (by omega)
   .exact(x8 h e v).mono (by omega)
   .exact(zE h e v).mono (by omega)
   .exact(jt false (k+2) _ g h j e).mono (by omega)
  .exact(j9 h.iv h.EI).mono (by omega)
 |stop nm=>
  refine vH (sp:=oo) rfl (by simp) rfl rfl ?_ ?_
  .intro p i u;simp only[kA,FG,kJ]at i;rcases i with rfl|rfl|rfl
   all_goals dsimp only at u|-
   .exact(xz uP h).mono (by omega)
   .exact(Ar h).mono (by omega)
   .exact(yU h).mono (by omega)
  .exact(j9 h.iv h.EI).mono (by omega)
def Z3 (y:PL L (k+5)) (g:∀t σ,pB t->nu σ->zf σ t->wt σ < 998000->σ.waiting.length < 4000->σ.fQ.length<=L+1->RB 370 σ (gD false (k+5) 14 t σ)) (t:fZ) (i:pB t) (h:nu σ) (j:zf σ t) (hw:wt σ < 998000) (e:σ.waiting.length < 4000) (u:σ.fQ.length<=L+1):RB 370 σ (gD false (k+6) 15 t σ):=by
 have z:wt σ < 999000:=by omega
 have⟨a,b,kk,fX⟩:=t;cases kk with
 |lost=>exact absurd rfl i.nl
 |jq s=>
  refine uE (sp:=jH) rfl rfl rfl ?_ ?_
  .exact g _ σ i h j hw e u
  .exact g _ σ i h j hw e u
 |gm s=>
  refine jc i.nl (sp:=jH) rfl rfl ?_;exact g _ σ i h j hw e u
 |gP s q=>
  refine jc i.nl (sp:=jH) rfl rfl ?_;exact g _ σ i h j hw e u
 |il=>
  refine jc i.nl (sp:=jH) rfl rfl ?_;exact g _ σ i h j hw e u
 |start nm=>
  have A:lR σ ⟨a,b,.start nm,fX⟩:=j.tag rfl;refine rO (sp:=jH) rfl (by simp) rfl rfl ?_ ?_
  .intro p v x;simp only[kA,FG,kJ]at v;rcases v with rfl
   all_goals dsimp only at x|-
   .exact y.ahead uP h i j hw e u
  .exact g _ σ i h j hw e u
 |stop nm=>
  refine vH (sp:=jH) rfl (by simp) rfl rfl ?_ ?_
  .intro p v x;simp only[kA,FG,kJ]at v;rcases v with rfl
   all_goals dsimp only at x|-
   .exact Jg h (by exact y.ahead uP h i j hw e u)
  .exact g _ σ i h j hw e u
def acf (h:mD σ) (g:σ.fQ≠[]):∃i,qo σ= .ok i σ/\BF σ i:=by
 have⟨r,hr⟩:=h;have⟨q,e,rest,h1,h2,h3,h4⟩:=hr.first g;exact⟨_,by unfold qo;rw[h2];dsimp only;unfold jf;rw[h3],e,h3,gr _⟩
def aao (y:PL L (k+5)) (t:fZ) (g:pB t) (h:nu σ) (i:zf σ t) (hw:wt σ < 998000) (x:σ.waiting.length < 4000) (z:σ.fQ.length<=L+1):RB 370 σ (gD false (k+6) 16 t σ):=by
 have e:wt σ < 999000:=by omega
 have⟨a,b,kk,fX⟩:=t;cases kk with
 |lost=>exact absurd rfl g.nl
 |jq s=>
  refine uE (sp:=mj) rfl rfl rfl ?_ ?_
  .exact(jt false (k+2) _ g h i e).mono (by omega)
  .exact(oa (jt false (k+2) _ g (h.mode 6 rfl) (λu=>i u) e)).mono (by omega)
 |gm s=>
  refine jc g.nl (sp:=mj) rfl rfl ?_
  (show RB 370 σ (tw 154 true _ σ);rw[Wo];exact RB.mono (c:=1) ((sK h.iv qo (acf h.iv h.ne) _ e).rb h.ne h.md) (by omega))
 |gP s q=>
  refine jc g.nl (sp:=mj) rfl rfl ?_;exact(j9 h.iv h.EI).mono (by omega)
 |il=>
  refine jc g.nl (sp:=mj) rfl rfl ?_;exact(j9 h.iv h.EI).mono (by omega)
 |start nm=>
  have A:lR σ ⟨a,b,.start nm,fX⟩:=i.tag rfl;refine rO (sp:=mj) rfl (by simp) rfl rfl ?_ ?_
  .intro p j v;simp only[kA,FG,kJ]at j;rcases j with rfl
   all_goals dsimp only at v|-
   .exact(jt false (k+2) _ g h i e).mono (by omega)
  .exact(oa (jt false (k+2) _ g (h.mode 6 rfl) (λu=>i u) e)).mono (by omega)
 |stop nm=>
  refine vH (sp:=mj) rfl (by simp) rfl rfl ?_ ?_
  .intro p j v;simp only[kA,FG,kJ]at j;rcases j with rfl
   all_goals dsimp only at v|-
   .exact(RB.mono (c:=0) ⟨h.iv.mM rfl rfl rfl rfl rfl rfl rfl,⟨h.ne,.inl rfl⟩,⟨rfl,rfl,rfl,rfl,lx _,λ_ h=> .inl h⟩,nk (jh rfl)⟩ (by omega))
  .exact(oa (jt false (k+2) _ g (h.mode 6 rfl) (λu=>i u) e)).mono (by omega)
def ZN (y:PL L (k+5)) (t:fZ) (g:pB t) (h:nu σ) (i:zf σ t) (hw:wt σ < 998000) (x:σ.waiting.length < 4000) (z:σ.fQ.length<=L+1):RB 370 σ (gD false (k+6) 17 t σ):=by
 have e:wt σ < 999000:=by omega
 have⟨a,b,kk,fX⟩:=t;cases kk with
 |lost=>exact absurd rfl g.nl
 |jq s=>
  refine uE (sp:=jz 99 false) rfl rfl rfl ?_ ?_
  .exact(jt false (k+2) _ g h i e).mono (by omega)
  .exact(oa (jt false (k+2) _ g (h.mode 6 rfl) (λj=>i j) e)).mono (by omega)
 |gm s=>
  refine jc g.nl (sp:=jz 99 false) rfl rfl ?_
  (show RB 370 σ (tw 99 false _ σ);rw[IX];exact RB.mono (c:=1) ((sK h.iv (jf 0) (MO h.iv) _ e).rb h.ne h.md) (by omega))
 |gP s q=>
  refine jc g.nl (sp:=jz 99 false) rfl rfl ?_;exact(j9 h.iv h.EI).mono (by omega)
 |il=>
  refine jc g.nl (sp:=jz 99 false) rfl rfl ?_;exact(j9 h.iv h.EI).mono (by omega)
 |start nm=>
  have A:lR σ ⟨a,b,.start nm,fX⟩:=i.tag rfl;refine rO (sp:=jz 99 false) rfl (by simp) rfl rfl ?_ ?_
  .intro p u v;simp only[kA,FG,kJ]at u;rcases u with rfl
   all_goals dsimp only at v|-
   .exact(jt false (k+2) _ g h i e).mono (by omega)
  .exact(oa (jt false (k+2) _ g (h.mode 6 rfl) (λj=>i j) e)).mono (by omega)
 |stop nm=>
  refine jc g.nl (sp:=jz 99 false) rfl rfl ?_;exact(oa (jt false (k+2) _ g (h.mode 6 rfl) (λj=>i j) e)).mono (by omega)
theorem FL (h:qE m=true):m=6\/m=7\/m=9\/m=10\/m=11\/m=12\/m=13\/m=14\/m=15\/m=16\/m=17:=by
 unfold qE at h
 grind
def Nl:∀(L n:Nat),4*L+8<=n->PL L n
 |0,n,_=>by
  intro t σ p h j hw g q;exact absurd (List.length_eq_zero_iff.1 (by omega)) h.ne
 |L+1,n,hn=>by
  intro t σ p h j hw g q;obtain⟨k,rfl⟩:∃k,n=k+7:=⟨n - 7,by omega⟩;have i:PL L (k+1+5):=Nl L _ (by omega);have u:PL L (k+5):=Nl L _ (by omega);have y:∀t σ,pB t->nu σ->(σ.mode=7\/σ.mode=11\/σ.mode=12)->zf σ t->wt σ < 998000->σ.waiting.length < 4000->σ.fQ.length<=L+1->RB 370 σ (gD false (k+1+5) 7 t σ):=λt σ p h x j hw g q=>UK u t p h x j hw g q;have v:∀t σ,pB t->nu σ->zf σ t->wt σ < 998000->σ.waiting.length < 4000->σ.fQ.length<=L+1->RB 370 σ (gD false (k+1+5) 14 t σ):=λt σ p h j hw g q=>O8 u t p h j hw g q;rcases FL h.md with e|e|e|e|e|e|e|e|e|e|e
  .rw[e];exact(jt false (k+4) t p h j (by omega)).mono (by omega)
  .rw[e];exact UK i t p h (.inl e) j hw g q
  .rw[e];exact abz i t p h j hw g q
  .rw[e];exact aac i t p h j hw g q
  .rw[e];exact YP i y t p h (.inr (.inl e)) j hw g q
  .rw[e];exact Za i y t p h (.inr (.inr e)) j hw g q
  .rw[e];exact aam i t p h j hw g q
  .rw[e];exact O8 i t p h j hw g q
  .rw[e];exact Z3 i v t p h j hw g q
  .rw[e];exact aao i t p h j hw g q
  .rw[e];exact ZN i t p h j hw g q
def HS (m:Nat) (o:j5) (e:iM):Prop:=
 (m<=1/\o=[]/\e=none)\/(m=2/\∃h,o=[some h])\/(m=3/\∃h d,o=[some h,some d]/\e=some d)\/(m=4/\∃h d,o=[some h]/\e=some d)\/(qE m=true/\o≠[])
def MS (σ:Ab):Prop:=HS σ.mode σ.fQ σ.head\/(σ.mode=5/\3<=σ.kept/\2<=σ.fQ.length/\HS σ.kept σ.fQ.dropLast σ.head)\/(σ.mode=8/\(σ.kept=7\/σ.kept=11\/σ.kept=12)/\σ.fQ≠[])
def RG (c:Nat) (σ:Ab) (r:qI Unit):Prop:=match r with
 | .ok _ σ'=>mD σ'/\MS σ'/\Lm σ σ'/\wt σ'<=wt σ+c
 | .stop _ p=>p=σ.gp
 | .stuck=>False
theorem RG.mono {c' : Nat} (h:RG c σ r) (g:c<=c'):RG c' σ r:=by
 cases r with
 |ok a σ'=>grind[RG]
 |stop e p=>exact h
 |stuck=>exact h
def Yq (h:qE m=true):6<=m:=by rcases FL h with e|e|e|e|e|e|e|e|e|e|e<;>omega
theorem dk.ms (h:dk σ):MS σ:=by
 rcases h.sh with g|⟨g,i,j⟩|⟨g,i⟩
 .exact .inl (.inr (.inr (.inr (.inr ⟨g,h.ne⟩))))
 .refine .inr (.inl ⟨g,?_,j,.inr (.inr (.inr (.inr ⟨i,?_⟩)))⟩)
  .have:=Yq i;omega
  .intro e;have:=ri List.length e
   grind
 .exact .inr (.inr ⟨g,i,h.ne⟩)
def RB.rg (h:RB c σ r):RG c σ r:=by
 cases r with
 |ok a σ'=>exact⟨h.1,h.2.1.ms,h.2.2.1,h.2.2.2⟩
 |stop e p=>exact h
 |stuck=>exact h
def ji.rg {Q : Unit->Ab->Prop} (h:ji c σ r Q) (j:MS σ) (i:∀g,Q () g->g.fQ=σ.fQ):RG c σ r:=by
 cases r with
 |ok a g=>
  have⟨h1,h2,h3,h4⟩:=h;refine⟨h1,?_,h2.lm,h3⟩;unfold MS;rw[h2.mode,h2.kept,h2.head,i g h4];exact j
 |stop e p=>exact h
 |stuck=>exact h
def qU (h:mD σ) (e:MS σ):RG 0 σ ((Pure.pure ():M Unit) σ):=⟨h,e,dQ σ,gr _⟩
def RG.tail {m:M Unit} (h:RG c σ (m σ)):RG c σ ((m>>=λ_=>(Pure.pure ():M Unit)) σ):=by
 rw[M.fP];revert h;cases m σ<;>exact λh=>h
def RG.from {c1 c2 : Nat} {σ1 : Ab} (h:RG c1 σ1 r) (g:Lm σ σ1) (hw:σ1.waiting.length<=σ.waiting.length) (j:∀x∈σ1.waiting,x∈σ.waiting) (q:wt σ1<=wt σ+c2) (u:c1+c2<=c):RG c σ r:=by
 cases r with
 |ok a σ'=>
  have⟨h1,h2,h3,h4⟩:=h;exact⟨h1,h2,⟨h3.gp.trans g.gp,h3.pS.trans g.pS,h3.rq.trans g.rq,h3.oY.trans g.oY,by have:=h3.wt;omega,λx i=>(h3.wz x i).imp (j x) id⟩,by omega⟩
 |stop e p=>exact CG h g.gp
 |stuck=>exact h
theorem KU (h:mD σ) (q:σ.fQ≠[]) (t:fZ) (v:σ.fresh=true) (x:MS σ):RG 0 σ (oM t σ):=by
 have z:∀(fX:kZ) (i:Nat) (σ:Ab),∀g,qe i fX σ= .ok () g->g.fQ=σ.fQ:=by
  intro fX i
  induction fX with
  |nil=>intro σ g e;cases e;rfl
  |cons a r ih=>
   intro σ g e;rw[LD]at e;split at e
   .cases e
   .split at e
    .grind
    .split at e
     .cases e
     .have:=ih _ g e;exact this
 have j:=DK h q t v;cases hq:oM t σ with
 |ok u g=>
  rw[hq]at j;have⟨g1,g2,g3,_⟩:=j;refine⟨g1,?_,g2.lm,g3⟩;have y:g.fQ=σ.fQ:=by
   unfold oM at hq;split at hq
   .rename_i i A;rw[M.fP]at hq;cases hg:wX i t σ with
    |ok u2 σ2=>
     rw[hg]at hq;cases hq;unfold wX at hg
     grind
    |stop c p=>grind
    |stuck=>grind
   .cases hq
  unfold MS;rw[g2.mode,g2.kept,g2.head,y];exact x
 |stop c p=>rwa [hq]at j
 |stuck=>rw[hq]at j;exact j.elim
def Ns (n a b:Nat) (fX:kZ) (h:mD σ) (g:σ.fQ≠[]) (i:σ.fresh=true) (j:MS σ):RG 0 σ (gD false (n+1) 6 ⟨a,b,.start fy,fX⟩ σ):=by
 rw[gS false n 6 _ (by intro e;cases e) kG rfl (.gz 191) (by kernel_rfl)];exact KU h g _ i j
def XJ (i:mD σ) (e:σ.fQ≠[]) (j:σ.mode=6) (x:pB t) (q:zf σ t) (hw:wt σ < 998000) (g:σ.waiting.length < 4000) (v:4*64+8<=n) (p:370<=c):RG c σ (gD false n 6 t σ):=by
 have u:σ.fQ.length<=64:=by have⟨r,hr⟩:=i;exact jC hr.ve hr.Qy
 have h:=Nl 64 n v t σ x ⟨i,e,by rw[j];rfl⟩ q hw g u;rw[j]at h;exact h.rg.mono p
theorem IF (h:mD σ) (y:σ.fQ≠[]) (hw:wt σ < 998000) (s:fN) (m:Nat) {v:Nat->fZ->M Unit} (C:∀g,mD g->Fx σ {g with mode:=σ.mode}->g.mode=m->wt g<=wt σ+1->g.fresh=σ.fresh->RG c g (v m t g)):RG (c+1) σ ((jP s>>=λ_=>ju m>>=λ_=>kq v t>>=λ_=>(Pure.pure ():M Unit)) σ):=by
 have A:=rU h y (by omega) s;rw[M.fP];revert A;cases jP s σ with
 |ok u σ1=>
  rintro⟨E,i,z,j,q,F⟩;dsimp only;have B:=RG.tail (C {σ1 with mode:=m} (E.mM rfl rfl rfl rfl rfl rfl rfl) (by
   have e:({({σ1 with mode:=m}:Ab)with mode:=σ.mode}:Ab)=σ1:=by rw[<-i.mode]
   grind) rfl z F)
  exact RG.from (c1:=c) (c2:=1) (σ1:={σ1 with mode:=m}) B ⟨i.gp,i.pS,i.rq,i.oY,by show σ1.waiting.length<=_;rw[i.waiting];omega,by show∀x∈σ1.waiting,_;rw[i.waiting];grind⟩ (by show σ1.waiting.length<=_;rw[i.waiting];omega) (by show∀x∈σ1.waiting,_;rw[i.waiting];simp) z (gr _)
 |stop c p=>exact λh=>h
 |stuck=>simp[ji]
def wB (h:mD σ) (j:M (Nat×Nat)) (i:∃g,j σ= .ok g σ/\BF σ g) (t:fZ) (hw:wt σ < 999000) (e:MS σ):RG 1 σ (nH j t σ):=by
 have⟨a,b,k,fX⟩:=t;cases k with
 |gm s=>
  have⟨g,h1,h2⟩:=i;show RG 1 σ ((j>>=λg=>oT g (.cm s) .cm>>=λ_=>(Pure.pure ():M Unit)) σ);rw[M.fP,h1];dsimp only;exact RG.tail ((Fh h h2 (.cm s) .cm (.inl ⟨s,rfl,rfl⟩) (by omega)).rg e (λ_ q=>q.fQ))
 |jq s=>exact(qU h e).mono (by omega)
 |start s=>exact(qU h e).mono (by omega)
 |stop s=>exact(qU h e).mono (by omega)
 |gP s q=>exact(qU h e).mono (by omega)
 |lost=>exact(qU h e).mono (by omega)
 |il=>exact(qU h e).mono (by omega)
theorem Ho {R : List (List fN×Ru)} (e:sp.start=some R) (q:∀p∈R,p.2≠ .nil) (v:jD [sp.jj,sp.gN]=o) (i:wo[m]?=some sp) (y:∀p∈R,gI p.1 nm=true->P (nD lk (gD true n) (gD lk n) p.2 ⟨a,b,.start nm,fX⟩ σ)) (j:P (nD lk (gD true n) (gD lk n) o ⟨a,b,.start nm,fX⟩ σ)):P (gD lk (n+1) m ⟨a,b,.start nm,fX⟩ σ):=by
 have g:jI sp ⟨a,b,.start nm,fX⟩=jD [((oB R nm).getD .nil),sp.jj,sp.gN]:=by
  show jD [AK sp.start nm,sp.jj,sp.gN]=_;rw[e];rfl
 cases hl:oB R nm with
 |none=>
  rw[gS lk n m _ (by simp) sp i o (by rw[g,hl,<-v];rfl)];exact j
 |some r=>
  obtain⟨p,x,z,rfl⟩:=tR hl;have u:=q p x;rw[gS lk n m _ (by simp) sp i p.2 (by
   rw[g,hl];simp[jD])]
  grind
theorem OI {R : List (List fN×Ru)} (e:sp.stop=some R) (q:∀p∈R,p.2≠ .nil) (v:jD [sp.jG,sp.gN]=o) (i:wo[m]?=some sp) (y:∀p∈R,gI p.1 nm=true->P (nD lk (gD true n) (gD lk n) p.2 ⟨a,b,.stop nm,fX⟩ σ)) (j:P (nD lk (gD true n) (gD lk n) o ⟨a,b,.stop nm,fX⟩ σ)):P (gD lk (n+1) m ⟨a,b,.stop nm,fX⟩ σ):=by
 have g:jI sp ⟨a,b,.stop nm,fX⟩=jD [((oB R nm).getD .nil),sp.jG,sp.gN]:=by
  show jD [AK sp.stop nm,sp.jG,sp.gN]=_;rw[e];rfl
 cases hl:oB R nm with
 |none=>
  rw[gS lk n m _ (by simp) sp i o (by rw[g,hl,<-v];rfl)];exact j
 |some r=>
  obtain⟨p,x,z,rfl⟩:=tR hl;have u:=q p x;rw[gS lk n m _ (by simp) sp i p.2 (by
   rw[g,hl];simp[jD])]
  grind
theorem Ci {e : Ru} (p:jD [sp.blank,sp.jq,sp.gN]=e) (q:jD [sp.jq,sp.gN]=o) (g:wo[m]?=some sp) (i:P (nD lk (gD true n) (gD lk n) e ⟨a,b,.jq s,fX⟩ σ)) (j:P (nD lk (gD true n) (gD lk n) o ⟨a,b,.jq s,fX⟩ σ)):P (gD lk (n+1) m ⟨a,b,.jq s,fX⟩ σ):=by
 cases hk:lr s with
 |true=>
  rw[gS lk n m _ (by simp) sp g e (by
   grind[jI])]
  exact i
 |false=>
  rw[gS lk n m _ (by simp) sp g o (by
   grind[jI])]
  exact j
def kj {r : Ru} (g:t.k≠ .lost) (j:wo[m]?=some sp) (i:jI sp t=r) (e:P (nD lk (gD true n) (gD lk n) r t σ)):P (gD lk (n+1) m t σ):=by
 rw[gS lk n m t g sp j r i];exact e
structure cI (σ:Ab):Prop where
 iv:mD σ
 md:σ.mode=4
 sh:∃h d,σ.fQ=[some h]/\σ.head=some d
def cI.ms (h:cI σ):MS σ:=by
 have⟨x,d,h1,h2⟩:=h.sh;exact .inl (.inr (.inr (.inr (.inl ⟨h.md,x,d,h1,h2⟩))))
theorem cI.ne (h:cI σ):σ.fQ≠[]:=by have⟨x,d,h1,_⟩:=h.sh;grind
def Hu (h:cI σ) (A:pB t) (q:zf σ t) (hw:wt σ < 997000) (j:σ.waiting.length < 4000) (u:4*64+8<=n):RG 371 σ (o9 (gD false n) t σ):=by
 unfold o9;refine IF (c:=370) h.iv h.ne (by omega) fM 6 ?_;intro i x p y w' z;have g:i.waiting.length < 4000:=by have:=p.waiting;have e:i.waiting=σ.waiting:=this;rw[e];exact j
 exact XJ x (p.ne h.ne) y A (λv=>z.trans (q v)) (by omega) g u (gr _)
theorem F1 (A:mD σ) (v:σ.fQ≠[]) (y:lR σ t) (b:Bool) (hw:wt σ < 998000):match oe t b σ with
 | .ok _ σ'=>mD σ'/\Lm σ σ'/\wt σ'<=wt σ+1/\σ'.mode=5/\σ'.kept=σ.mode/\(∃j,σ'.fQ=σ.fQ++[some j]/\σ.nodes.length<=j)/\σ'.head=σ.head/\(∀i s,jA σ i s->jA σ' i s)
 | .stop _ p=>p=σ.gp
 | .stuck=>False:=by
 have z:=jy A v (by omega) t y.tag y.fr;have e:oe t b σ=(iZ t>>=λ_=>Nv t.name b>>=λ_=>wj (λσ=>{σ with kept:=σ.mode})>>=λ_=>ju 5>>=λ_=>(Pure.pure ():M Unit)) σ:=rfl;rw[e,M.fP];revert z;cases iZ t σ with
 |ok u σ1=>
  rintro⟨B,g,C,j,q⟩;exact⟨B.mM rfl rfl rfl rfl rfl rfl rfl,⟨g.gp,g.pS,g.rq,g.oY,by show σ1.waiting.length<=_;rw[g.waiting];omega,by show∀x∈σ1.waiting,_;rw[g.waiting];grind⟩,C,rfl,g.mode,⟨j,q.fQ,q.new⟩,g.head,g.nm⟩
 |stop c p=>simp[ji]
 |stuck=>simp[ji]
theorem KR (h:cI σ) (K:nm=iC\/nm=iD\/nm=gW) (Z:σ.fresh=true) (hw:wt σ < 997000):RG 2 σ (uv (gD false (n+1)) ⟨a,b,.start nm,fX⟩ σ):=by
 have⟨x,d,ho,hd⟩:=h.sh;have⟨r,hr⟩:=h.iv;have F:=hr.head d hd;have⟨ed,hed,hedn⟩:=id F;have a0:r x < r d:=hr.tD.hd d x hd (by grind);unfold uv;rw[M.fP];have e1:pushHead σ=xx (some d) σ:=by unfold pushHead;rw[hd]
 rw[e1];unfold xx
 by_cases hl:σ.pS<=σ.fQ.length
 .grind[RG]
 .rw[gn hl,fU (show σ.lH (some d)=true by grind[Ab.lH])];dsimp only;have⟨g1,g2⟩:=hr.push hed (by
   grind[rk]) (by omega) (.inl h.ne)
  obtain⟨i,q⟩:∃i,i=({σ with fQ:=σ.fQ++[some d]}:Ab):=⟨_,rfl⟩;rw[<-q]at g1 g2|-;have S:mD i:=⟨r,g1⟩;have W:i.fQ=[some x,some d]:=by rw[q];show σ.fQ++[some d]=_;rw[ho];rfl
  have H:i.fQ≠[]:=by rw[W];simp
  have w1:wt i=wt σ:=by rw[q];rfl
  have E:i.fresh=true:=by rw[q];exact Z
  have Q:i.mode=4:=g2.mode.trans h.md;have A:i.head=some d:=g2.head.trans hd;have xd:x≠d:=by rintro rfl;omega
  have ht:lR i ⟨a,b,.start nm,fX⟩:=⟨rfl,E⟩;have C:∀g,mD g->Lm i g->wt g<=wt i+1->g.head=some d->jA g d ga->MS {g with fQ:=g.fQ.erase (some d)}->RG 2 σ ((ph>>=λ_=>(Pure.pure ():M Unit)) g):=by
   intro g i2 B w2 Y V m2;have e2:ph g=jY (some d) g:=by unfold ph;rw[Y]
   have v:=Cm i2 V (by simp);rw[M.fP,e2];have X:jY (some d) g= .ok () {g with fQ:=g.fQ.erase (some d)}:=JQ (lV V);rw[X]at v|-;have⟨G,O,T,U⟩:=v;refine⟨G,m2,⟨B.gp.trans g2.gp,B.pS.trans g2.pS,B.rq.trans g2.rq,B.oY.trans g2.oY,?_,by have:=B.wz;grind⟩,?_⟩
   .show g.waiting.length<=_;have:=B.wt
    grind
   .omega
  have y:jA i d ga:=g2.nm _ _ F;have J:([some x,some d]:j5).erase (some d)=[some x]:=by
   rw[List.erase_cons_tail (by grind),List.erase_cons_head]
  have z:∀I,RG 2 σ (((oe ⟨a,b,.start nm,fX⟩ I>>=λ_=>(Pure.pure ():M Unit))>>=λ_=>ph>>=λ_=>(Pure.pure ():M Unit)) i):=by
   intro I;have k:=F1 S H ht I (by omega);rw[M.fP,M.fP];revert k;cases oe ⟨a,b,.start nm,fX⟩ I i with
   |ok u g=>
    rintro⟨N,v,G,O,T,⟨j,U,k7⟩,k8,k9⟩;refine C g N v G (k8.trans A) (k9 _ _ y) ?_;have hj:j≠d:=by
     have:=Ab.gL hed;have e4:i.nodes.length=σ.nodes.length:=by rw[q]
     omega
    have he:g.fQ.erase (some d)=[some x,some j]:=by
     rw[U,W];show([some x,some d,some j]:j5).erase (some d)=_;rw[List.erase_cons_tail (by grind),List.erase_cons_head]
    refine .inr (.inl ⟨O,?_,?_,?_⟩)
    .grind
    .grind
    grind[HS]
   |stop c p=>exact λh=>CG h g2.gp
   |stuck=>simp
  rcases K with rfl|rfl|rfl
  .rw[gS false n 3 _ (by intro e;cases e) lO rfl (.gz 110) (by kernel_rfl)];have k:=qi S H (by omega) ⟨a,b,.start iC,fX⟩ rfl E;show RG 2 σ ((lp ⟨a,b,.start iC,fX⟩>>=λ_=>ph>>=λ_=>(Pure.pure ():M Unit)) i);rw[M.fP];revert k;cases lp ⟨a,b,.start iC,fX⟩ i with
   |ok u g=>
    rintro⟨N,v,G,O,T⟩;refine C g N v.lm G (v.head.trans A) (v.nm _ _ y) ?_;refine .inl (.inr (.inr (.inr (.inl ⟨v.mode.trans Q,x,d,?_,v.head.trans A⟩))))
    grind
   |stop c p=>exact λh=>CG h g2.gp
   |stuck=>simp[ji]
  .rw[gS false n 3 _ (by intro e;cases e) lO rfl (.gz 111) (by kernel_rfl)];exact z false
  .rw[gS false n 3 _ (by intro e;cases e) lO rfl (.gz 112) (by kernel_rfl)];exact z true
theorem UX (B:4*64+8<=n) (t:fZ) (g:pB t) (h:cI σ) (i:zf σ t) (hw:wt σ < 997000) (z:σ.waiting.length < 4000):RG 372 σ (gD false (n+1) 4 t σ):=by
 obtain⟨k,rfl⟩:∃k,n=k+1:=⟨n - 1,by omega⟩;have u:∀t,pB t->zf σ t->RG 372 σ (o9 (gD false (k+1)) t σ):=λt g i=>(Hu h g i hw z B).mono (by omega);have y:RG 372 σ ((Pure.pure ():M Unit) σ):=(qU h.iv h.ms).mono (by omega);have⟨a,b,kk,fX⟩:=t;cases kk with
 |lost=>exact absurd rfl g.nl
 |jq s=>
  refine Ci (sp:=ni) (P:=RG 372 σ) rfl rfl rfl ?_ ?_
  .exact RG.mono (c:=s.size+1) ((oR h.iv h.ne _ (by have:=g.sz;omega)).rg h.ms (λ_ q=>q.fQ)) (by have:=g.sz;have e:fZ.chars ⟨a,b,.jq s,fX⟩=s:=rfl;grind)
  .exact u _ g i
 |gm s=>
  refine kj g.nl (sp:=ni) (P:=RG 372 σ) rfl rfl ?_;show RG 372 σ (tw 105 true _ σ);rw[sg];exact RG.mono (c:=1) (wB h.iv lD (we h.iv h.ne) _ (by omega) h.ms) (by omega)
 |gP s q=>exact kj g.nl (sp:=ni) (P:=RG 372 σ) rfl rfl y
 |il=>exact kj g.nl (sp:=ni) (P:=RG 372 σ) rfl rfl (u _ g i)
 |start nm=>
  have x:lR σ ⟨a,b,.start nm,fX⟩:=i.tag rfl;refine Ho (sp:=ni) (P:=RG 372 σ) rfl (by simp) rfl rfl ?_ ?_
  .intro p j v;simp only[kA,FG,kJ]at j;rcases j with rfl|rfl|rfl|rfl
   all_goals dsimp only at v|-
   .exact(KR h (by have:=Nc v;grind) x.fr hw).mono (by omega)
   .show RG 372 σ (tV _ σ);unfold tV;exact(RB.rg (RB.bind (jy h.iv h.ne (by omega) _ x.tag x.fr) (c:=1) (c2:=0) (λ_ E C A _ _=>Hp C (A.ne h.ne) 6 rfl) (by omega))).mono (by omega)
   .have e:=KY v;subst e;exact(Ns k a b fX h.iv h.ne x.fr h.ms).mono (by omega)
   .exact y
  .exact u _ g i
 |stop nm=>
  refine OI (sp:=ni) (P:=RG 372 σ) rfl (by simp) rfl rfl ?_ ?_
  .intro p j v;simp only[kA,FG,kJ]at j;subst j;exact u _ g i
  .exact y
structure cu (σ:Ab):Prop where
 iv:mD σ
 md:σ.mode=3
 sh:∃h d,σ.fQ=[some h,some d]/\σ.head=some d
def cu.ms (h:cu σ):MS σ:=by
 have⟨x,d,h1,h2⟩:=h.sh;exact .inl (.inr (.inr (.inl ⟨h.md,x,d,h1,h2⟩)))
theorem cu.ne (h:cu σ):σ.fQ≠[]:=by have⟨x,d,h1,_⟩:=h.sh;grind
theorem cu.pop (h:cu σ):cI {σ.pop with mode:=4}/\Lm σ {σ.pop with mode:=4}:=by
 have⟨x,d,h1,h2⟩:=h.sh;have⟨g1,g2⟩:=JW h.iv (by grind);refine⟨⟨g1.mM rfl rfl rfl rfl rfl rfl rfl,rfl,x,d,?_,h2⟩,⟨rfl,rfl,rfl,rfl,lx _,λ_ h=> .inl h⟩⟩
 grind[Ab.pop]
theorem F4 (g:mD σ) (e:σ.fQ≠[]) (i:lR σ t) (b:Bool) (hw:wt σ < 998000) (z:3<=σ.mode) (A:HS σ.mode σ.fQ σ.head):RG 1 σ ((oe t b>>=λ_=>(Pure.pure ():M Unit)) σ):=by
 refine RG.tail ?_;have k:=F1 g e i b hw;revert k;cases oe t b σ with
 |ok u σ2=>
  rintro⟨q,v,x,y,B,⟨j,C,E⟩,F,G⟩;refine⟨q,.inr (.inl ⟨y,by omega,?_,?_⟩),v,x⟩
  .have:0 < σ.fQ.length:=List.length_pos_iff.2 e
   grind
  grind
 |stop c p=>exact λh=>h
 |stuck=>simp
def xQ (h:mD σ) (e:σ.fQ≠[]) (g:MS σ) (i:t.chars.size<=100) (hw:wt σ < 999000):RG 101 σ (jQ t σ):=
 RG.mono (c:=t.chars.size+1) ((oR h e t (by omega)).rg g (λ_ q=>q.fQ)) (by omega)
def Uh (E:4*64+8<=n) (t:fZ) (g:pB t) (h:cu σ) (i:zf σ t) (hw:wt σ < 997000) (C:σ.waiting.length < 4000):RG 373 σ (gD false (n+2) 3 t σ):=by
 have⟨g4,gl⟩:=h.pop;have y:∀t,pB t->zf σ t->RG 373 σ (nA (gD false (n+1)) t σ):=by
  intro t g i;have A:=RG.tail (UX E t g g4 (λF=>i F) hw C);exact RG.from (c1:=372) (c2:=0) A gl (gr _) (λ_ h=>h) (nk (jh rfl)) (by omega)
 have z:RG 373 σ ((Pure.pure ():M Unit) σ):=(qU h.iv h.ms).mono (by omega);have j:HS σ.mode σ.fQ σ.head:=by
  have⟨x,d,A,h2⟩:=h.sh;exact .inr (.inr (.inl ⟨h.md,x,d,A,h2⟩))
 have⟨a,b,kk,fX⟩:=t;cases kk with
 |lost=>exact absurd rfl g.nl
 |jq s=>
  refine Ci (sp:=lO) (P:=RG 373 σ) rfl rfl rfl ?_ ?_
  .exact(xQ h.iv h.ne h.ms g.sz (by omega)).mono (by omega)
  .exact y _ g i
 |gm s=>
  refine kj g.nl (sp:=lO) (P:=RG 373 σ) rfl rfl ?_;show RG 373 σ (tw 105 true _ σ);rw[sg];exact RG.mono (c:=1) (wB h.iv lD (we h.iv h.ne) _ (by omega) h.ms) (by omega)
 |gP s q=>exact kj g.nl (sp:=lO) (P:=RG 373 σ) rfl rfl z
 |il=>exact kj g.nl (sp:=lO) (P:=RG 373 σ) rfl rfl (y _ g i)
 |start nm=>
  have v:lR σ ⟨a,b,.start nm,fX⟩:=i.tag rfl;refine Ho (sp:=lO) (P:=RG 373 σ) rfl (by simp) rfl rfl ?_ ?_
  .intro p u B;simp only[kA,FG,kJ]at u;rcases u with rfl|rfl|rfl|rfl|rfl
   all_goals dsimp only at B|-
   .exact(F4 h.iv h.ne v true (by omega) (by rw[h.md];omega) j).mono (by omega)
   .exact(F4 h.iv h.ne v false (by omega) (by rw[h.md];omega) j).mono (by omega)
   .exact RG.mono (c:=1) ((qi h.iv h.ne (by omega) _ v.tag v.fr).rg h.ms (λ_ q=>q.1)) (by omega)
   .have e:=KY B;subst e;exact(Ns n a b fX h.iv h.ne v.fr h.ms).mono (by omega)
   .exact z
  .exact y _ g i
 |stop nm=>
  refine OI (sp:=lO) (P:=RG 373 σ) rfl (by simp) rfl rfl ?_ ?_
  .intro p u B;simp only[kA,FG,kJ]at u;rcases u with rfl|rfl
   .exact y _ g i
   .exact⟨g4.iv,g4.ms,gl,jC (nk (jh rfl)) (Fo _ _)⟩
  .exact z
structure cJ (σ:Ab):Prop where
 iv:mD σ
 md:σ.mode=2
 sh:∃h,σ.fQ=[some h]
def cJ.ms (h:cJ σ):MS σ:=by
 have⟨x,h1⟩:=h.sh;exact .inl (.inr (.inl ⟨h.md,x,h1⟩))
theorem cJ.ne (h:cJ σ):σ.fQ≠[]:=by have⟨x,h1⟩:=h.sh;grind
theorem jn.abd {r : Nat->Nat} (h:jn r σ) (i:jA σ d ga) (j:∀x,σ.fQ.head?=some (some x)->r x < r d):jn r {σ with head:=some d}:=
 ⟨⟨h.oq.up,h.oq.dn,h.oq.nd,h.oq.kd⟩,⟨h.tD.iJ,h.tD.fQ,λg x e p=>by grind⟩,h.fQ,h.act,λg e=>by cases e;exact i,h.form,h.Mn,h.ve,h.Ac,h.Qy,h.RW,h.vc⟩
theorem Ge (h:cJ σ) (own:Bool) (fX:kZ) (hf:own=true->σ.fresh=true) (hw:wt σ < 998000) {k:M Unit} (U:∀v,cu v->Lm σ v->v.waiting=σ.waiting->wt v<=wt σ+1->(own=false->v.fresh=σ.fresh)->RG c v (k v)):RG (c+1) σ ((rJ own fX>>=λ_=>k) σ):=by
 have⟨x,ho⟩:=h.sh;have⟨r,hr⟩:=h.iv;have⟨B,hB⟩:=AM r σ.nodes.length;have Y:x < σ.nodes.length:=hr.EM (by grind);have C:∀(y:kZ) (A:Bool),(own=false->A=σ.fresh)->sW ga own fX σ= .ok σ.nodes.length (σ.pi (.el {name:=ga,gy:=y,iJ:=none,kids:=[]}) A)->RG (c+1) σ ((rJ own fX>>=λ_=>k) σ):=by
  intro y A G N;have⟨g1,g2⟩:=hr.new ga y A (B+1);obtain⟨g,q⟩:∃g,g=σ.pi (.el {name:=ga,gy:=y,iJ:=none,kids:=[]}) A:=⟨_,rfl⟩;rw[<-q]at g1 g2 N;have E:g.gF σ.nodes.length=some {name:=ga,gy:=y,iJ:=none,kids:=[]}:=by rw[q];exact Ab.vE
  have o1:g.fQ=σ.fQ:=by rw[q];rfl
  have w1:wt g=wt σ:=by rw[q];exact EE _ _ _
  have T:=g1.abd (d:=σ.nodes.length) ⟨_,E,rfl⟩ (by
   grind[xf])
  have I:some σ.nodes.length∉({g with head:=some σ.nodes.length}:Ab).fQ:=by
   show some σ.nodes.length∉g.fQ;rw[o1];intro V;have:=hr.EM (i:=σ.nodes.length) V;omega
  have H:=MM (σ:={g with head:=some σ.nodes.length}) ⟨_,T⟩ (j:=σ.nodes.length) E rfl rfl I (by grind) (by show wt g < _;omega);show RG (c+1) σ (((sW ga own fX>>=λe=>wj (λσ=>{σ with head:=some e})>>=λ_=>lG e>>=λ_=>ju 3>>=λ_=>(Pure.pure ():M Unit))>>=λ_=>k) σ);rw[M.fP,M.fP,N];dsimp only;rw[M.fP];have W:wj (λF:Ab=>{F with head:=some σ.nodes.length}) g= .ok () {g with head:=some σ.nodes.length}:=rfl;rw[W];dsimp only;rw[M.fP];revert H;cases lG σ.nodes.length {g with head:=some σ.nodes.length} with
  |ok u σ2=>
   rintro⟨Z,z,w2,Q⟩;dsimp only;have i3:cu {σ2 with mode:=3}:=⟨Z.mM rfl rfl rfl rfl rfl rfl rfl,rfl,x,σ.nodes.length,by
    show σ2.fQ=_;rw[Q.fQ]
    grind,z.head⟩
   have K:σ2.waiting=σ.waiting:=by rw[z.waiting];show g.waiting=_;rw[q];rfl
   have O:Lm σ {σ2 with mode:=3}:=⟨z.gp.trans g2.gp,z.pS.trans g2.pS,z.rq.trans g2.rq,z.oY.trans g2.oY,by grind,by grind⟩;have X:wt σ2<=wt g+1:=w2;have S:=U {σ2 with mode:=3} i3 O K (by grind[wt]) (λJ=>by
    show σ2.fresh=_;rw[Q.fresh];show g.fresh=_;rw[q];exact G J)
   exact RG.from (c1:=c) (c2:=1) (σ1:={σ2 with mode:=3}) S O (by grind) (by grind) (by grind[wt]) (gr _)
  |stop e p=>exact λh=>CG h g2.gp
  |stuck=>simp[ji]
 cases own with
 |true=>
  refine C fX false (λh=>by cases h) ?_
  grind[sW]
 |false=>exact C [] σ.fresh (λ_=>rfl) rfl
theorem U6 (E:4*64+8<=n) (t:fZ) (g:pB t) (h:cJ σ) (j:zf σ t) (hw:wt σ < 996000) (G:σ.waiting.length < 4000):RG 374 σ (gD false (n+3) 2 t σ):=by
 have x:∀t,pB t->zf σ t->RG 374 σ (sI (gD false (n+2)) t σ):=by
  intro t g j;refine Ge (c:=373) h false [] (λh=>by cases h) (by omega) (k:=kq (gD false (n+2)) t>>=λ_=>(Pure.pure ():M Unit)) ?_;intro i u H I w' A;have C:=Uh E t g u (λF=>(A rfl).trans (j F)) (by omega) (by grind);refine RG.tail ?_;show RG 373 i (gD false (n+2) i.mode t i);rw[u.md];exact C
 have y:RG 374 σ ((Pure.pure ():M Unit) σ):=(qU h.iv h.ms).mono (by omega);have⟨a,b,kk,fX⟩:=t;cases kk with
 |lost=>exact absurd rfl g.nl
 |jq s=>
  refine Ci (sp:=mf) (P:=RG 374 σ) rfl rfl rfl ?_ ?_
  .exact y
  .exact x _ g j
 |gm s=>
  refine kj g.nl (sp:=mf) (P:=RG 374 σ) rfl rfl ?_;show RG 374 σ (tw 105 true _ σ);rw[sg];exact RG.mono (c:=1) (wB h.iv lD (we h.iv h.ne) _ (by omega) h.ms) (by omega)
 |gP s q=>exact kj g.nl (sp:=mf) (P:=RG 374 σ) rfl rfl y
 |il=>exact kj g.nl (sp:=mf) (P:=RG 374 σ) rfl rfl (x _ g j)
 |start nm=>
  have B:lR σ ⟨a,b,.start nm,fX⟩:=j.tag rfl;refine Ho (sp:=mf) (P:=RG 374 σ) rfl (by simp) rfl rfl ?_ ?_
  .intro p v z;simp only[kA,FG,kJ]at v;rcases v with rfl|rfl
   all_goals dsimp only at z|-
   .refine RG.mono (c:=1) (Ge (c:=0) h true fX (λ_=>B.fr) (by omega) (k:=(Pure.pure ():M Unit)) ?_) (by omega);intro i u H I w' A;exact qU u.iv u.ms
   .have e:=KY z;subst e;exact(Ns (n+1) a b fX h.iv h.ne B.fr h.ms).mono (by omega)
  .exact x _ g j
 |stop nm=>
  refine OI (sp:=mf) (P:=RG 374 σ) rfl (by simp) rfl rfl ?_ ?_
  .intro p v z;simp only[kA,FG,kJ]at v;subst v;exact x _ g j
  .exact y
structure ft (σ:Ab):Prop where
 iv:mD σ
 md:σ.mode<=1
 op:σ.fQ=[]
 hd:σ.head=none
def ft.ms (h:ft σ):MS σ:= .inl (.inl ⟨h.md,h.op,h.hd⟩)
theorem Ga (h:ft σ) (own:Bool) (fX:kZ) (S:own=true->σ.fresh=true) (hw:wt σ < 998000) {k:M Unit} (K:∀j,cJ j->Lm σ j->j.waiting=σ.waiting->wt j<=wt σ+1->(own=false->j.fresh=σ.fresh)->RG c j (k j)):RG (c+1) σ ((rF own fX>>=λ_=>k) σ):=by
 have⟨r,hr⟩:=h.iv;have⟨B,hB⟩:=AM r σ.nodes.length;have⟨e0,he0⟩:=Option.isSome_iff_exists.1 hr.vc;have y:=Ab.gL he0;have u:∀(p:kZ) (q:Bool),(own=false->q=σ.fresh)->sW fy own fX σ= .ok σ.nodes.length (σ.pi (.el {name:=fy,gy:=p,iJ:=none,kids:=[]}) q)->RG (c+1) σ ((rF own fX>>=λ_=>k) σ):=by
  intro p q z E;have⟨g1,g2⟩:=hr.new fy p q (B+1);obtain⟨i,g⟩:∃i,i=σ.pi (.el {name:=fy,gy:=p,iJ:=none,kids:=[]}) q:=⟨_,rfl⟩;rw[<-g]at g1 g2 E;have x:i.gF σ.nodes.length=some {name:=fy,gy:=p,iJ:=none,kids:=[]}:=by rw[g];exact Ab.vE
  have v:i.gF 0=some e0:=by rw[g];show(σ.add _).gF 0=_;rw[Ab.vr y];exact he0
  have U:wt i=wt σ:=by rw[g];exact EE _ _ _
  have O:i.fQ=[]:=by rw[g];exact h.op
  have J:Cv i= .ok (0,e0.kids.length) i:=by unfold Cv jf;rw[v]
  have⟨σ2,q1,q2,q3,q4,q5,q6,q7,q8,q9,q10⟩:=g1.put (pl:=(0,e0.kids.length)) ⟨e0,v,gr _⟩ x rfl (by
   grind[xf]) (by omega)
  have⟨e2,he2,hn2,_⟩:=q9 _ _ x;show RG (c+1) σ (((sW fy own fX>>=λe=>Cv>>=λQ=>nj Q e>>=λ_=>xx (some e)>>=λ_=>ju 2>>=λ_=>(Pure.pure ():M Unit))>>=λ_=>k) σ);rw[M.fP,M.fP,E];dsimp only;rw[M.fP,J];dsimp only;rw[M.fP,q1];dsimp only;rw[M.fP];have T:σ2.fQ=[]:=q5.trans O;have F:=g2.trans q3;unfold xx
  by_cases G:σ2.pS<=σ2.fQ.length
  .rw[fU G];exact F.gp
  .rw[gn G,fU (show σ2.lH (some σ.nodes.length)=true by grind[Ab.lH])];dsimp only;have⟨p1,p2⟩:=q2.push he2 (by grind) (by omega) (.inr ⟨hn2,by rw[F.head];exact h.hd⟩);have C:σ2.waiting=σ.waiting:=F.waiting;have N:cJ {({σ2 with fQ:=σ2.fQ++[some σ.nodes.length]}:Ab)with mode:=2}:=⟨mD.mM ⟨_,p1⟩ rfl rfl rfl rfl rfl rfl rfl,rfl,σ.nodes.length,by grind⟩;have H:Lm σ {({σ2 with fQ:=σ2.fQ++[some σ.nodes.length]}:Ab)with mode:=2}:=⟨F.gp,F.pS,F.rq,F.oY,by grind,by grind⟩;have I:=K _ N H C (by grind[wt]) (λA=>by
    show σ2.fresh=_;rw[q7,g];exact z A)
   exact RG.from (c1:=c) (c2:=1) I H (by grind) (by grind) (by grind[wt]) (gr _)
 cases own with
 |true=>
  refine u fX false (λh=>by cases h) ?_
  grind[sW]
 |false=>exact u [] σ.fresh (λ_=>rfl) rfl
theorem Ut (A:4*64+8<=n) (t:fZ) (e:pB t) (h:ft σ) (i:zf σ t) (hw:wt σ < 995000) (F:σ.waiting.length < 4000):RG 375 σ (gD false (n+4) 1 t σ):=by
 have v:∀t,pB t->zf σ t->RG 375 σ (sG (gD false (n+3)) t σ):=by
  intro t e i;refine Ga (c:=374) h false [] (λh=>by cases h) (by omega) (k:=kq (gD false (n+3)) t>>=λ_=>(Pure.pure ():M Unit)) ?_;intro g j G H w' y;have z:=U6 A t e j (λC=>(y rfl).trans (i C)) (by omega) (by grind);refine RG.tail ?_;show RG 374 g (gD false (n+3) g.mode t g);rw[j.md];exact z
 have x:RG 375 σ ((Pure.pure ():M Unit) σ):=(qU h.iv h.ms).mono (by omega);have⟨a,b,kk,fX⟩:=t;cases kk with
 |lost=>exact absurd rfl e.nl
 |jq s=>
  refine Ci (sp:=mi) (P:=RG 375 σ) rfl rfl rfl ?_ ?_
  .exact x
  .exact v _ e i
 |gm s=>
  refine kj e.nl (sp:=mi) (P:=RG 375 σ) rfl rfl ?_;show RG 375 σ (tw 99 false _ σ);rw[IX];exact RG.mono (c:=1) (wB h.iv (jf 0) (MO h.iv) _ (by omega) h.ms) (by omega)
 |gP s q=>exact kj e.nl (sp:=mi) (P:=RG 375 σ) rfl rfl x
 |il=>exact kj e.nl (sp:=mi) (P:=RG 375 σ) rfl rfl (v _ e i)
 |start nm=>
  have E:lR σ ⟨a,b,.start nm,fX⟩:=i.tag rfl;refine Ho (sp:=mi) (P:=RG 375 σ) rfl (by simp) rfl rfl ?_ ?_
  .intro p u B;simp only[kA,FG,kJ]at u;subst u;refine RG.mono (c:=1) (Ga (c:=0) h true fX (λ_=>E.fr) (by omega) (k:=(Pure.pure ():M Unit)) ?_) (by omega);intro g j G H w' y;exact qU j.iv j.ms
  .exact v _ e i
 |stop nm=>
  refine OI (sp:=mi) (P:=RG 375 σ) rfl (by simp) rfl rfl ?_ ?_
  .intro p u B;simp only[kA,FG,kJ]at u;subst u;exact v _ e i
  .exact x
def tX:lM:={blank:= .nothing,gm:= .gm 99 false,gP:= .gz 100,gN:= .gz 101}
def ft.q (h:ft σ) (q:Bool):ft {σ with iP:=q,mode:=1}:=⟨h.iv.mM rfl rfl rfl rfl rfl rfl rfl,gr _,h.op,h.hd⟩
theorem aa3 (F:4*64+8<=n) (t:fZ) (e:pB t) (h:ft σ) (i:zf σ t) (hw:wt σ < 995000) (y:σ.waiting.length < 4000):RG 376 σ (gD false (n+5) 0 t σ):=by
 have j:∀t,pB t->zf σ t->RG 376 σ (ly (gD false (n+4)) t σ):=by
  intro t e i;have v:=RG.tail (Ut F t e (h.q true) (λG=>i G) hw y);exact RG.from (c1:=375) (c2:=0) v ⟨rfl,rfl,rfl,rfl,lx _,λ_ h=> .inl h⟩ (gr _) (λ_ h=>h) (nk (jh rfl)) (by omega)
 have B:RG 376 σ ((Pure.pure ():M Unit) σ):=(qU h.iv h.ms).mono (by omega);have⟨a,b,kk,fX⟩:=t;cases kk with
 |lost=>exact absurd rfl e.nl
 |jq s=>
  refine Ci (sp:=tX) (P:=RG 376 σ) rfl rfl rfl ?_ ?_
  .exact B
  .exact j _ e i
 |gm s=>
  refine kj e.nl (sp:=tX) (P:=RG 376 σ) rfl rfl ?_;show RG 376 σ (tw 99 false _ σ);rw[IX];exact RG.mono (c:=1) (wB h.iv (jf 0) (MO h.iv) _ (by omega) h.ms) (by omega)
 |gP s q=>
  refine kj e.nl (sp:=tX) (P:=RG 376 σ) rfl rfl ?_;have⟨z,v,h2⟩:=MO h.iv;have C:=Fh h.iv h2 (.dt s) .dt (.inr ⟨s,rfl,rfl⟩) (by omega);show RG 376 σ ((jf 0>>=λz=>oT z (.dt s) .dt>>=λ_=>(do wj λσ=>{σ with iP:=q||!ku s fy};ju 1;return ():M Unit)) σ);rw[M.fP,v];dsimp only;rw[M.fP];revert C;cases oT z (.dt s) .dt σ with
  |ok u σ1=>
   rintro⟨H,g,J,I⟩;have E:ft σ1:=⟨H,by rw[g.mode];exact h.md,by rw[I.fQ];exact h.op,by rw[g.head];exact h.hd⟩;have A:=E.q (q||!ku s fy);exact⟨A.iv,A.ms,⟨g.gp,g.pS,g.rq,g.oY,by show σ1.waiting.length<=_;rw[g.waiting];omega,by show∀x∈σ1.waiting,_;rw[g.waiting];grind⟩,by grind[wt]⟩
  |stop c p=>exact λh=>h
  |stuck=>simp[ji]
 |il=>exact kj e.nl (sp:=tX) (P:=RG 376 σ) rfl rfl (j _ e i)
 |start nm=>exact kj e.nl (sp:=tX) (P:=RG 376 σ) rfl rfl (j _ e i)
 |stop nm=>exact kj e.nl (sp:=tX) (P:=RG 376 σ) rfl rfl (j _ e i)
def TL (A:4*64+8<=n) (t:fZ) (u:pB t) (q:mD σ) (B:HS σ.mode σ.fQ σ.head) (p:zf σ t) (hw:wt σ < 995000) (g:σ.waiting.length < 4000):RG 380 σ (gD false (n+5) σ.mode t σ):=by
 rcases B with⟨i,j,x⟩|⟨i,j⟩|⟨i,j⟩|⟨i,j⟩|⟨i,j⟩
 .have v:ft σ:=⟨q,i,j,x⟩;rcases mq σ.mode 1 with z|z
  .have e:σ.mode=0:=by omega
   rw[e];exact(aa3 A t u v p hw g).mono (by omega)
  .have e:σ.mode=1:=by omega
   rw[e];exact(Ut (n:=n+1) (by omega) t u v p hw g).mono (by omega)
 .rw[i];exact(U6 (n:=n+2) (by omega) t u ⟨q,i,j⟩ p (by omega) g).mono (by omega)
 .rw[i];exact(Uh (n:=n+3) (by omega) t u ⟨q,i,j⟩ p (by omega) g).mono (by omega)
 .rw[i];exact(UX (n:=n+4) (by omega) t u ⟨q,i,j⟩ p (by omega) g).mono (by omega)
 .have y:σ.fQ.length<=64:=by have⟨r,hr⟩:=q;exact jC hr.ve hr.Qy
  exact(Nl 64 (n+5) (by omega) t σ u ⟨q,j,i⟩ p (by omega) g y).rg.mono (by omega)
def aaU (F:4*64+8<=n) (t:fZ) (g:pB t) (v:mD σ) (E:σ.mode=5) (C:3<=σ.kept) (u:2<=σ.fQ.length) (x:HS σ.kept σ.fQ.dropLast σ.head) (G:zf σ t) (hw:wt σ < 995000) (y:σ.waiting.length < 4000):RG 380 σ (gD false (n+6) 5 t σ):=by
 have i:MS σ:= .inr (.inl ⟨E,C,u,x⟩);have j:σ.fQ≠[]:=by intro e;rw[e]at u;simp at u
 have⟨g1,g2⟩:=JW v u;have z:mD {σ.pop with mode:=σ.kept}:=g1.mM rfl rfl rfl rfl rfl rfl rfl;have A:Lm σ {σ.pop with mode:=σ.kept}:=⟨rfl,rfl,rfl,rfl,lx _,λ_ h=> .inl h⟩;have p:RG 380 σ (zl σ):=⟨z,.inl x,A,jC (nk (jh rfl)) (Fo _ _)⟩;have⟨a,b,kk,fX⟩:=t;cases kk with
 |lost=>exact absurd rfl g.nl
 |jq s=>
  refine Ci (sp:=sR) (P:=RG 380 σ) rfl rfl rfl ?_ ?_
  .exact(xQ v j i g.sz (by omega)).mono (by omega)
  .exact(xQ v j i g.sz (by omega)).mono (by omega)
 |gm s=>exact kj g.nl (sp:=sR) (P:=RG 380 σ) rfl rfl p
 |gP s q=>exact kj g.nl (sp:=sR) (P:=RG 380 σ) rfl rfl p
 |start nm=>exact kj g.nl (sp:=sR) (P:=RG 380 σ) rfl rfl p
 |stop nm=>exact kj g.nl (sp:=sR) (P:=RG 380 σ) rfl rfl p
 |il=>
  refine kj g.nl (sp:=sR) (P:=RG 380 σ) rfl rfl ?_;have B:=RG.tail (TL F ⟨a,b,.il,fX⟩ g (σ:={σ.pop with mode:=σ.kept}) z x (λh=>by cases h) hw y);exact RG.from (c1:=380) (c2:=0) (σ1:={σ.pop with mode:=σ.kept}) B A (gr _) (λ_ h=>h) (nk (jh rfl)) (by omega)
def M8 (c:Nat) (σ:Ab) (r:qI Unit):Prop:=match r with
 | .ok _ σ'=>mD σ'/\σ'.fQ≠[]/\σ'.mode=σ.mode/\σ'.kept=σ.kept/\σ'.gp=σ.gp/\σ'.pS=σ.pS/\σ'.rq=σ.rq/\σ'.oY=σ.oY/\σ'.fresh=σ.fresh/\wt σ'<=wt σ+c
 | .stop _ p=>p=σ.gp
 | .stuck=>False
theorem M8.bind {c1 c2 : Nat} {m k:M Unit} (h:M8 c1 σ (m σ)) (y:∀g,mD g->g.fQ≠[]->wt g<=wt σ+c1->M8 c2 g (k g)) (H:c1+c2<=c):M8 c σ ((m>>=λ_=>k) σ):=by
 rw[M.fP];revert h;cases m σ with
 |ok u σ1=>
  rintro⟨j,q,z,A,B,C,E,F,G,i⟩;have x:=y σ1 j q i;dsimp only;revert x;cases k σ1 with
  |ok v σ2=>
   grind[M8]
  |stop e p=>grind[M8]
  |stuck=>simp[M8]
 |stop e p=>simp[M8]
 |stuck=>simp[M8]
def ji.kw {Q : Unit->Ab->Prop} (h:ji c σ r Q) (i:σ.fQ≠[]) (j:∀g,Q () g->g.fresh=σ.fresh):M8 c σ r:=by
 cases r with
 |ok a g=>
  have⟨h1,f,h3,h4⟩:=h;exact⟨h1,f.ne i,f.mode,f.kept,f.gp,f.pS,f.rq,f.oY,j g h4,h3⟩
 |stop e p=>exact h
 |stuck=>exact h
def JM (h:mD σ) (g:σ.fQ≠[]) (x:t.chars.size<=100) (hw:wt σ < 999000):ji 200 σ (nG t σ) (λ_ e=>e.fresh=σ.fresh):=by
 unfold nG;split
 .exact⟨h,Fx.refl _,Fo _ _,rfl⟩
 .refine ji.bind (nP h g (by omega)) (c2:=101) ?_ (by omega);rintro _ u j i y ⟨_,_,p⟩;refine ji.ic (Q:=λ_ e=>e.fresh=σ.fresh) ((oR j (i.ne g) t (by omega)).mono (by omega) ?_);intro _ v _ _ q;exact q.fresh.trans p
def Lq (h:mD σ) (i:σ.fQ≠[]) (x:Nat×Nat×fN) (q:x.2.2.size<=100) (hw:wt σ < 999000):M8 200 σ (tZ (gD true (n+1)) (qh x) σ):=by
 have e:gD true (n+1) 6 (qh x)=nG (qh x):=gS true n 6 _ (by simp[qh]) kG rfl (.gz 120) (by
  unfold qh jI;dsimp only;split<;>rfl)
 have j:=JM (σ:={σ with iq:=true}) (t:=qh x) (h.mM rfl rfl rfl rfl rfl rfl rfl) i q hw;show M8 200 σ ((gD true (n+1) 6 (qh x)>>=λ_=>wj (λσ=>{σ with iq:=false})>>=λ_=>(Pure.pure ():M Unit)) {σ with iq:=true});rw[e,M.fP];revert j;cases nG (qh x) {σ with iq:=true} with
 |ok u σ1=>
  rintro⟨v,g,z,y⟩;exact⟨v.mM rfl rfl rfl rfl rfl rfl rfl,g.ne i,g.mode,g.kept,g.gp,g.pS,g.rq,g.oY,y,z⟩
 |stop c p=>exact λh=>h
 |stuck=>simp[ji]
theorem Eo:∀(e:List (Nat×Nat×fN)) {σ:Ab},mD σ->σ.fQ≠[]->(∀x∈e,x.2.2.size<=100)->wt σ+200*e.length < 999000->M8 (200*e.length) σ (uw (gD true (n+1)) e σ)
 |[],σ,h,hne,_,_=>⟨h,hne,rfl,rfl,rfl,rfl,rfl,rfl,rfl,Fo _ _⟩
 |x::e,σ,h,hne,hs,hw=>by
  simp only[sV]at hw;refine M8.bind (m:=tZ (gD true (n+1)) (qh x)) (k:=uw (gD true (n+1)) e) (Lq h hne x (hs x (xl ..)) (by omega)) (c2:=200*e.length) ?_ (by grind);intro p g j w';exact Eo e g j (λy i=>hs y (rj _ i)) (by omega)
theorem Ea:∀(e:List (Nat×Nat×fN)) {σ:Ab},mD σ->σ.fQ≠[]->(∀x∈e,x.2.2.size<=100)->wt σ+200*e.length < 999000->M8 (200*e.length) σ (tP e σ)
 |[],σ,h,hne,_,_=>⟨h,hne,rfl,rfl,rfl,rfl,rfl,rfl,rfl,Fo _ _⟩
 |x::e,σ,h,hne,hs,hw=>by
  simp only[sV]at hw;have v:(qh x).chars.size<=100:=hs x (xl ..);have i:M8 200 σ (jQ (qh x) σ):=((oR h hne (qh x) (by omega)).mono (c':=200) (by omega) (λ_ _ _ _ h=>h)).kw hne (λ_ q=>q.fresh);refine M8.bind (m:=jQ (qh x)) (k:=tP e) i (c2:=200*e.length) ?_ (by grind);intro u g p w';exact Ea e g p (λy j=>hs y (rj _ j)) (by omega)
def Kq (h:mD σ) (e:σ.fQ≠[]) (g:∀x∈σ.waiting,x.2.2.size<=100) (hw:wt σ+200*σ.waiting.length < 999000):M8 (200*σ.waiting.length) σ (qB (gD true (n+1)) σ):=by
 unfold qB;split
 .exact Eo σ.waiting h e g hw
 .exact Ea σ.waiting h e g hw
def Kk (σ:Ab):Nat:=wt σ+200*σ.waiting.length
structure AV (σ:Ab):Prop where
 iv:mD σ
 ms:MS σ
 wz:∀x∈σ.waiting,x.2.2.size<=100
def RT (c:Nat) (σ:Ab) (r:qI Unit):Prop:=match r with
 | .ok _ σ'=>AV σ'/\σ'.gp=σ.gp/\σ'.pS=σ.pS/\σ'.rq=σ.rq/\σ'.oY=σ.oY/\σ'.waiting.length<=σ.waiting.length+1/\Kk σ'<=Kk σ+c
 | .stop _ p=>p=σ.gp
 | .stuck=>False
def RG.rt (h:RG c σ r) (i:∀x∈σ.waiting,x.2.2.size<=100):RT (c+200) σ r:=by
 cases r with
 |ok a σ'=>
  have⟨h1,h2,h3,h4⟩:=h;refine⟨⟨h1,h2,λx g=>(h3.wz x g).elim (i x) id⟩,h3.gp,h3.pS,h3.rq,h3.oY,h3.wt,?_⟩;unfold Kk;have:=h3.wt;omega
 |stop e p=>exact h
 |stuck=>exact h
theorem acn (hn:4*64+8<=n) (t:fZ) (i:pB t) (g:AV σ) (Z:σ.mode=8) (E:σ.kept=7\/σ.kept=11\/σ.kept=12) (B:σ.fQ≠[]) (j:zf σ t) (hw:Kk σ < 990000) (ab:σ.waiting.length < 4000):RT 580 σ (gD false (n+6) 8 t σ):=by
 have a0:MS σ:=g.ms;have A:∀t,pB t->zf σ t->RT 580 σ (ot (gD true (n+5)) (gD false (n+5)) t σ):=by
  intro t i j;have U:=Kq (n:=n+4) g.iv B g.wz (by unfold Kk at hw;omega);unfold ot;rw[M.fP];revert U;cases qB (gD true (n+4+1)) σ with
  |ok u σ1=>
   rintro⟨F,H,a3,I,C,J,K,N,O,G⟩;dsimp only;have i2:mD {σ1 with waiting:=[],mode:=σ1.kept}:=F.mM rfl rfl rfl rfl rfl rfl rfl;have Y:qE σ1.kept=true:=by rw[I];rcases E with e|e|e<;>(rw[e];rfl)
   have V:=TL hn t i (σ:={σ1 with waiting:=[],mode:=σ1.kept}) i2 (.inr (.inr (.inr (.inr ⟨Y,H⟩)))) (λhs=>O.trans (j hs)) (by show wt σ1 < _;unfold Kk at hw;omega) (by simp);have W:=RG.tail V;show RT 580 σ ((kq (gD false (n+5)) t>>=λ_=>(Pure.pure ():M Unit)) {σ1 with waiting:=[],mode:=σ1.kept});have X:RG 380 {σ1 with waiting:=[],mode:=σ1.kept} ((kq (gD false (n+5)) t>>=λ_=>(Pure.pure ():M Unit)) {σ1 with waiting:=[],mode:=σ1.kept}):=W;revert X;cases(kq (gD false (n+5)) t>>=λ_=>(Pure.pure ():M Unit)) {σ1 with waiting:=[],mode:=σ1.kept} with
   |ok v σ2=>
    rintro⟨Q,S,z,T⟩;have hl:σ2.waiting.length<=0+1:=z.wt;refine⟨⟨Q,S,λx y=>(z.wz x y).elim (λh=>by cases h) id⟩,z.gp.trans C,z.pS.trans J,z.rq.trans K,z.oY.trans N,by omega,?_⟩;have aa:wt σ2<=wt σ1+380:=T
    grind[Kk]
   |stop c p=>exact λh=>CG h C
   |stuck=>simp[RG]
  |stop c p=>exact λh=>h
  |stuck=>simp[M8]
 have⟨a,b,kk,fX⟩:=t;cases kk with
 |lost=>exact absurd rfl i.nl
 |jq s=>
  have KC:RT 580 σ (oK ⟨a,b,.jq s,fX⟩ σ):=by
   rw[Eu (by omega)];cases sT s with
   |true=>grind[RT]
   |false=>
    refine⟨⟨g.iv.mM rfl rfl rfl rfl rfl rfl rfl,.inr (.inr ⟨Z,E,B⟩),?_⟩,rfl,rfl,rfl,rfl,by simp,?_⟩
    .intro x y;rcases List.mem_append.1 (show x∈σ.waiting++[(a,b,s)]from y)with y|y
     .exact g.wz x y
     .rw[List.mem_singleton.1 y];exact i.sz
    .show wt σ+200*(σ.waiting++[(a,b,s)]).length<=_
     grind[Kk]
  exact Ci (sp:=lu) (P:=RT 580 σ) rfl rfl rfl KC KC
 |gm s=>exact kj i.nl (sp:=lu) (P:=RT 580 σ) rfl rfl (A _ i j)
 |gP s q=>exact kj i.nl (sp:=lu) (P:=RT 580 σ) rfl rfl (A _ i j)
 |start nm=>exact kj i.nl (sp:=lu) (P:=RT 580 σ) rfl rfl (A _ i j)
 |stop nm=>exact kj i.nl (sp:=lu) (P:=RT 580 σ) rfl rfl (A _ i j)
 |il=>exact kj i.nl (sp:=lu) (P:=RT 580 σ) rfl rfl (A _ i j)
abbrev wu:Nat:=300
def adL (t:fZ) (u:pB t) (g:AV σ) (q:zf σ t) (hw:Kk σ < 990000) (e:σ.waiting.length < 4000):RT 580 σ (gD false wu σ.mode t σ):=by
 have x:wt σ < 990000:=by unfold Kk at hw;omega
 rcases g.ms with h|⟨i,j,p,v⟩|⟨i,j,p⟩
 .exact(TL (n:=295) (by omega) t u g.iv h q (by omega) e).rt g.wz
 .rw[i];exact(aaU (n:=294) (by omega) t u g.iv i j p v q (by omega) e).rt g.wz
 .rw[i];exact acn (n:=294) (by omega) t u g i j p q hw e
def dq (σ:Ab) (t:fZ) (r:qI Unit):Prop:=match r with
 | .ok _ σ'=>AV σ'/\σ'.pS=σ.pS/\σ'.rq=σ.rq/\σ'.oY=σ.oY/\σ'.waiting.length<=σ.waiting.length+1/\Kk σ'<=Kk σ+580
 | .stop _ p=>p=t.a
 | .stuck=>False
theorem acA (t:fZ) (H:t.k= .lost\/pB t) (g:AV σ) (C:zf σ t) (hw:Kk σ < 990000) (e:σ.waiting.length < 4000):dq σ t (ql (gD false wu) t σ):=by
 have G:t.k≠ .lost->dq σ t ((if σ.behind&&ku t.chars BQ then .ok () {σ with behind:=false,gp:=t.a} else kq (gD false wu) t {σ with behind:=false,gp:=t.a}):qI Unit):=by
  intro E;have i:pB t:=H.resolve_left E;have j:AV {σ with behind:=false,gp:=t.a}:=⟨g.iv.mM rfl rfl rfl rfl rfl rfl rfl,g.ms,g.wz⟩;split
  .exact⟨j,rfl,rfl,rfl,lx _,Fo _ _⟩
  .have h:=adL t i j (λF=>C F) hw e;show dq σ t (gD false wu σ.mode t {σ with behind:=false,gp:=t.a});revert h;cases gD false wu ({σ with behind:=false,gp:=t.a}:Ab).mode t {σ with behind:=false,gp:=t.a} with
   |ok u σ'=>rintro⟨v,I,x,y,z,A,B⟩;exact⟨v,x,y,z,A,B⟩
   |stop c p=>exact λh=>h
   |stuck=>simp[RT]
 have⟨a,b,kk,fX⟩:=t;cases kk with
 |lost=>exact⟨g,rfl,rfl,rfl,lx _,Fo _ _⟩
 |jq s=>grind[ql]
 |gm s=>grind[ql]
 |gP s q=>grind[ql]
 |start nm=>grind[ql]
 |stop nm=>grind[ql]
 |il=>grind[ql]
theorem Mx (e g:List UInt8):∀(k:Nat) (s:List UInt8),(Lib.replaceK e g k s).length<=s.length+k*g.length
 |0,s=>by simp[Lib.replaceK]
 |k+1,s=>by
  rw[Lib.replaceK];split
  .omega
  .have h:=Mx e g k (s.drop ((Lib.index s e).toNat+e.length))
   grind
theorem wN (s:fN):(nF s).size<=4*s.size+3:=by
 have e1:s.size=s.data.toList.length:=MQ s;have e2:(nF s).size=(Lib.replaceAll s.data.toList (ByteArray.mk #[0]).data.toList (ByteArray.mk #[239,191,189]).data.toList).length:=by
  rw[MQ];simp[nF]
 rw[e1,e2];unfold Lib.replaceAll Lib.replace;split
 .omega
 .have e:=Mx (ByteArray.mk #[0]).data.toList (ByteArray.mk #[239,191,189]).data.toList (Lib.replaceNum s.data.toList (ByteArray.mk #[0]).data.toList (-1)) s.data.toList;have g:Lib.replaceNum s.data.toList (ByteArray.mk #[0]).data.toList (-1)=Lib.count s.data.toList (ByteArray.mk #[0]).data.toList:=by
   unfold Lib.replaceNum;rw[fU (.inl (by decide))]
  have i:=Lib.count_le s.data.toList (ByteArray.mk #[0]).data.toList
  grind
def Xw:RV->Prop
 | .Y7 t=>t.size<=100
 | .RY _ L=>L.length<=1024/\∀p∈L,p.2.size<=1048576
 | .fin _ L=>L.length<=1024/\∀p∈L,p.2.size<=1048576
 |_=>True
def zL (R:RC) (bg:Nat):zG->Prop
 | .stop=>True
 | .tok kd m=>bg < m/\m<=R.cs.size/\1<=uO kd/\(uO kd≠1->m=R.cs.size\/bt R.cs (m - 1)=62)/\Xw kd
def Zf (h:pre (R.cs.extract ps R.cs.size) ir=true):bt R.cs ps=62:=by
 have:=Fw (j:=0) h (by decide);rw[Nat.add_zero]at this;exact this.trans rfl
theorem Sj (h:ps<=R.cs.size):pF R ps=R.cs.size\/(ps < pF R ps/\bt R.cs (pF R ps - 1)=62):=by
 unfold pF taken;split
 .rename_i j;right;have C:ps<=scan (iV ir) R.cs ps:=sZ;have e:(ByteArray.mk #[62]).size=1:=rfl;rw[e];exact⟨by omega,by rw[P5];exact Zf j⟩
 .rename_i j;left;rcases mq (scan (iV ir) R.cs ps) R.cs.size with p|z
  .exfalso;apply j;have y:=ZU (bt_nonneg _ _) (bt_le _ _) (aaC p);have B:(R.cs.extract (scan (iV ir) R.cs ps) R.cs.size).size=R.cs.size - scan (iV ir) R.cs ps:=by simp
   generalize scan (iV ir) R.cs ps=i at *;unfold pre;have u:(ByteArray.mk #[62]).size=1:=rfl;rw[u];have v:bt ((R.cs.extract i R.cs.size).extract 0 1) 0=62:=by
    rw[Nt (by omega) (by omega),Nat.zero_add];rw[Nt (by omega) (gr _),Nat.add_zero];exact y
   have g:((R.cs.extract i R.cs.size).extract 0 1).size=1:=by simp;omega
   rw[B];have E:(R.cs.extract i R.cs.size).extract 0 1=ir:=by
    generalize (R.cs.extract i R.cs.size).extract 0 1=X at v g;have⟨⟨l⟩⟩:=X
    match l,g with
    |[x],_=>
     have:(x.toNat:Int)=62:=v;have A:x=62:=by apply UInt8.toNat_inj.1;show x.toNat=62;omega
     rw[A]
   grind
  .have:=pt (q:=iV ir) h;omega
def Nf (h:∀x t,look x=some t->t.size<=16) (p:R.cs.size<=1024) (ps:Nat):(rW look lg R ps).size<=1048576:=by
 unfold rW;split
 .have e:=wN ⟨(vp look lg (mF R (mg R (mg R ps+1)))).toArray⟩;have g:=Ay (lg:=lg) h (mF R (mg R (mg R ps+1)));have i:=Cu (R:=R) (ps:=mg R (mg R ps+1));have j:(ByteArray.mk (vp look lg (mF R (mg R (mg R ps+1)))).toArray).size=(vp look lg (mF R (mg R (mg R ps+1)))).length:=by simp[ByteArray.size]
  omega
 .decide
theorem Le (h:∀x t,look x=some t->t.size<=16) (j:R.cs.size<=1024) {L : kZ} (g:∀p∈L,p.2.size<=1048576):∀p∈qR R look lg L ps,p.2.size<=1048576:=by
 unfold qR vu;split
 .exact g
 .intro p i;rcases List.mem_append.1 i with e|e
  .grind
  .obtain rfl:=List.mem_singleton.1 e;exact Nf h j _
theorem Ps (u:∀x t,look x=some t->t.size<=16) (y:R.cs.size<=1024):∀(n:Nat) {L:kZ} {ps m:Nat} {g:kZ},R.cs.size - ps<=n->lf R look lg L ps= .whole m g->L.length<=ps->(∀p∈L,p.2.size<=1048576)->ps < m/\m<=R.cs.size/\bt R.cs (m - 1)=62/\g.length<=m/\∀p∈g,p.2.size<=1048576:=by
 intro n
 induction n with
 |zero=>
  intro L ps m g v e;have j:=sF (R:=R) (ps:=ps);rw[lf,dif_neg (by omega)]at e;cases e
 |succ n ih=>
  intro L ps m g v e C i;have j:=sF (R:=R) (ps:=ps);rw[lf]at e;split at e
  .split at e
   .rename_i h q;obtain⟨rfl,rfl⟩:=Jl.whole.inj e;exact⟨by omega,by omega,by rw[P5];exact Zf q,by omega,i⟩
   .split at e
    .cases e
    .have z:=wg (R:=R) (ps:=iN R ps);have A:=ye (R:=R) (ps:=jU R (iN R ps));have B:=Gc (R:=R) (look:=look) (lg:=lg) (L:=L) (ps:=iN R ps);have:=ih (by omega) e (by omega) (Le u y i)
     grind
  grind
theorem OU (i:∀x t,look x=some t->t.size<=16) (q:R.cs.size<=1024) {e : fN->kZ->RV} (g:bg < R.cs.size) (v:bg < ps) (j:∀L,1<=uO (e nm L)/\(L.length<=1024->(∀p∈L,p.2.size<=1048576)->Xw (e nm L))):zL R bg (sA R e nm (lf R look lg [] (xP R ps))):=by
 have u:=acO (R:=R) (ps:=ps);cases h:lf R look lg [] (xP R ps)with
 |stop=>trivial
 |lost=>exact⟨g,gr _,by decide,λ_=> .inl rfl,trivial⟩
 |whole m L=>
  have:=Ps i q _ (gr _) h (im _) (by simp)
  grind[zL,sA]
def ZI (g:∀x t,look x=some t->t.size<=16) (j:R.cs.size<=1024) (nm:fN) (e:bg < R.cs.size) (i:bg < ps):zL R bg (sA R .RY nm (lf R look lg [] (xP R ps))):=OU g j e i (λL=>⟨(by decide:1<=2),λa b=>⟨a,b⟩⟩)
def Zj (g:∀x t,look x=some t->t.size<=16) (j:R.cs.size<=1024) (nm:fN) (e:bg < R.cs.size) (i:bg < ps):zL R bg (sA R .fin nm (lf R look lg [] (xP R ps))):=OU g j e i (λL=>⟨(by decide:1<=3),λa b=>⟨a,b⟩⟩)
def EK (e:∀x t,look x=some t->t.size<=16) (j:bg < R.cs.size):zL R bg (tq R look lg bg):=by
 have g:=Dt (look:=look) (lg:=lg) (s:=R.cs.extract bg R.cs.size);have i:=GC (look:=look) (lg:=lg) (s:=R.cs.extract bg R.cs.size) (by simp;omega);have p:(R.cs.extract bg R.cs.size).size=R.cs.size - bg:=by simp
 exact⟨by omega,by omega,gr _,λh=>absurd rfl h,jC (wh e) (by decide)⟩
theorem ZY (i:∀x t,look x=some t->t.size<=16) (q:bg < R.cs.size):zL R bg (yP R look lg bg):=by
 have j:=Dt (look:=look) (lg:=lg) (s:=R.cs.extract bg R.cs.size);have p:=GC (look:=look) (lg:=lg) (s:=R.cs.extract bg R.cs.size) (by simp;omega);have u:(R.cs.extract bg R.cs.size).size=R.cs.size - bg:=by simp
 unfold yP;split
 .refine⟨by omega,by omega,gr _,λh=>absurd rfl h,?_⟩;have e:=wN (R.cs.extract bg (bg+1));have g:(R.cs.extract bg (bg+1)).size=1:=by simp;omega
  grind[Xw]
 .refine⟨by omega,by omega,gr _,λh=>absurd rfl h,?_⟩;have e:=wN (qD look lg (R.cs.extract bg R.cs.size));have g:=wh (look:=look) (lg:=lg) (s:=R.cs.extract bg R.cs.size) i
  grind[Xw]
def yS {k : RV} (p:bg < ps) (e:ps<=R.cs.size) (i:1<=uO k) (g:Xw k):zL R bg (.tok k (pF R ps)):=by
 have j:=Yc (R:=R) (ps:=ps);refine⟨by omega,Ip e,i,λ_=>?_,g⟩;rcases Sj e with h|⟨_,h⟩
 all_goals omega
def SB (g:∀x t,look x=some t->t.size<=16) (p:R.cs.size<=1024) (e:bg < R.cs.size) (i:bg < ps) (j:ps<=R.cs.size):zL R bg (lL R look lg bg ps):=by
 unfold lL;split
 .exact Zj g p _ e i
 .split
  .rename_i h;have:ps+1<=R.cs.size:=kQ h j;exact⟨by omega,this,by decide,λ_=> .inr (by rw[P5];exact Zf h),trivial⟩
  .split
   .exact EK g e
   .exact yS i j (show 1<=4 by decide) trivial
def Wh (i:∀x t,look x=some t->t.size<=16) (q:R.cs.size<=1024) (g:bg < R.cs.size) (p:bg < ps) (e:ps<=R.cs.size):zL R bg (rX R look lg bg ps):=by
 unfold rX;split
 .exact ZI i q _ g p
 split
 .rename_i h;exact SB i q g (by omega) (kQ h e)
 split
 .rename_i h;have j:ps+3<=R.cs.size:=kQ h e;have v:=Wj (R:=R) (ps:=ps+3);refine⟨by omega,Md j,(show 1<=4 by decide),λ_=>?_,trivial⟩;rcases Pv j with h|⟨_,h⟩
  all_goals omega
 split
 .rename_i h;have u:ps+8<=R.cs.size:=Rq h e;have:=aep (R:=R) (ps:=ps+8);exact yS (by omega) (JP u) (show 1<=5 by decide) trivial
 split
 .rename_i h;exact yS (by omega) (kQ h e) (show 1<=4 by decide) trivial
 split
 .exact yS p e (show 1<=4 by decide) trivial
 .exact EK i g
def Ct (i:∀x t,look x=some t->t.size<=16) (q:R.cs.size<=1024) (p:ps < R.cs.size):zL R ps (ke R look lg ps)/\(∀g m,ke R look lg ps= .tok g m->uO g≠1->bt R.cs ps=60):=by
 unfold ke;rw[gn (by omega)];split
 .split
  .rename_i h;refine⟨Wh (R:=uh R ps) i q p (by omega) (kQ h (by omega)),λ_ _ _ _=>?_⟩;have:=Fw (j:=0) h (by decide);rw[Nat.add_zero]at this;exact this.trans rfl
  .refine⟨EK (R:=uh R ps) i p,λg m h e=>?_⟩;unfold tq at h;obtain⟨rfl,_⟩:=zG.tok.inj h;exact absurd rfl e
 .refine⟨ZY (R:=uh R ps) i p,λg m h e=>?_⟩;unfold yP at h;split at h
  .obtain⟨rfl,_⟩:=zG.tok.inj h;exact absurd rfl e
  .obtain⟨rfl,_⟩:=zG.tok.inj h;exact absurd rfl e
def Jn:ke R look lg R.cs.size= .tok .Xr R.cs.size:=by simp[ke]
def Xw.tok {k : RV} (h:Xw k) (a b:Nat):(pC a b k).k= .lost\/pB (pC a b k):=by
 cases k with
 |lost=>simp[pC]
 |Y7 t=>exact .inr ⟨h,rfl,by simp[pC]⟩
 |RY nm L=>exact .inr ⟨(by decide:(0:Nat)<=100),by unfold wF;exact List.all_eq_true.2 (λp e=>uJ (h.2 p e)),by simp[pC]⟩
 |fin nm L=>exact .inr ⟨(by decide:(0:Nat)<=100),by unfold wF;exact List.all_eq_true.2 (λp e=>uJ (h.2 p e)),by simp[pC]⟩
 |Xr=>exact .inr ⟨(by decide:(0:Nat)<=100),rfl,by simp[pC]⟩
 |TJ t=>exact .inr ⟨(by decide:(0:Nat)<=100),rfl,by simp[pC]⟩
 |cj n q=>exact .inr ⟨(by decide:(0:Nat)<=100),rfl,by simp[pC]⟩
def Xw.len {k : RV} (h:Xw k) (a b:Nat):(pC a b k).gy.length<=1024:=by
 cases k with
 |RY nm L=>exact h.1
 |fin nm L=>exact h.1
 |_=>simp[pC]
def QT (k:Nat) (w:fO):
  Calls prog 52 #[.iface 78 (fW k)] w λe w'=>e=gO (fW k)/\w'=w:=by
 have i:∀(v:gh) (g:TypeId) (w:fO),(Instr.typeAssert (.iface 78 v) g 78 true).run prog w= .ok (.tuple #[v,.bool true]) w:=λv g w=>by
  simp[Instr.typeAssert,pE underlying78]
 go_enter func52,ntmps52;go_wp2;go_ret;simp
theorem DH (g i:Nat) (k:Nat) (w:fO) (v:gh) (p:w.heap[g]?=some (fV #[v,.pointer none] 74)) (x:w.heap[i]?=some (fV #[.pointer none] 78)) (u:g≠i) (q:i≠g):
  CallsD prog 51 #[fW g,fW i] (.panicking [{v:= .iface 78 (fW k),recovered:=false}]) w λe G w'=>
   e=oS/\G= .panicking [{v:= .iface 78 (fW k),recovered:=true}]/\w'.heap[g]?=some (fV #[iQ,.pointer none] 74)/\w'.heap[i]?=some (fV #[fW k] 78)/\Kept [g,i] w w':=by
 have C:=fw p 0;have E:=fw p 1;have F:=fw x 0;have I:=fA p 0;have J:=fA p 1;have K:=fA x 0;dsimp at C E F;have z:Hid (∃W,W=((w.setCell ⟨g,0,none⟩ (iQ)).setCell ⟨g,1,none⟩ (.pointer none)).setCell ⟨i,0,none⟩ (fW k)/\W.heap[g]?=some (fV #[iQ,.pointer none] 74)/\W.heap[i]?=some (fV #[fW k] 78)/\Kept [g,i] w W):=by
  refine⟨_,rfl,?_,?_,?_⟩
  .rw[Below.heap_setCell _ _ _ _ u];exact fI (fI p 0 _) 1 _
  .refine fI (c:=#[.pointer none]) ?_ 0 _;rw[Below.heap_setCell _ _ _ _ q,Below.heap_setCell _ _ _ _ q];exact x
  .exact(((Kept.refl [g,i] w).setCell (.inl (by simp)) _).setCell (.inl (by simp)) _).setCell (.inl (by simp)) _
 refine callsD_of_wpS func51 rfl λj H y=>?_;apply wpS_seq;apply wpS_region;simp[wpOpsS,go_sem,recoverD,y,ntmps51,Exit.thenS];have A:=y;refine wpS_of_wp ?_;have B:(#[fW g,fW i]++((Array.replicate 7 undef).setIfInBounds 1 (Value.iface 78 (fW k))).setIfInBounds 0 (Value.iface 78 (fW k)))=#[fW g,fW i,.iface 78 (fW k),.iface 78 (fW k),undef,undef,undef,undef,undef]:=rfl;rw[B]
 go_wp21
 refine(QT k _).mono ?_;rintro e w' ⟨rfl,rfl⟩;go_wp2;have y:=A;have⟨W,hW,h1,h2,h3⟩:=z;rw[<-hW];cases j
 simp_all[bodyPostS,results,results51]
theorem Lk.map (h:Lk w b look):∃p j,w.heap[b]?=some (Obj.map p j):=by
 have q:=h.run ⟨#[]⟩ w rfl;have u:=pE (w:=w) (show prog.underlying 160=some (.map 9 207) by simp);have g:∀o,w.heap[b]?=some o->(∀c e f,o≠ .cells c e f)->(getObj b).run prog w= .ok o w:=by
  intro o x y;cases o with
  |cells c e f=>grind
  |_=>simp[getObj,Sem.run,x]
 cases hb:w.heap[b]? with
 |none=>
  have v:=h.lt
  grind
 |some o=>
  cases o with
  |map p j=>simp
  |cells c e f=>
   exfalso;have i:(getObj b).run prog w= .halt (Halt.stuck "getObj: a row of cells") w:=by simp[getObj,Sem.run,hb]
   simp[Instr.lookup,u,i,Result.andThen]at q
  |_=>
   exfalso;have i:=g _ hb (by simp);simp[Instr.lookup,u,i,Result.andThen,Go.stuck,Sem.run]at q
def Fr.map {bs : Nat} (h:Fr bs w w') (e:w.heap[b]?=wl.heap[b]?) (g:Lk wl b look):w'.heap[b]?=w.heap[b]?:=h.calm (.inl (by rw[e];exact g.map))
theorem KT.map {bs : Nat} {T : List TypeId} (h:KT bs T w w') (e:w.heap[b]?=wl.heap[b]?) (i:Lk wl b look):w'.heap[b]?=w.heap[b]?:=by
 have⟨es,ck,hm⟩:=i.map;rw[<-e]at hm;have⟨S,hk,hS⟩:=h;have g:b < w.heap.size:=(Array.getElem?_eq_some_iff.1 hm).1;refine hk.block b g λj=>?_
 grind
inductive ab1 where
 |stop (e p:Nat)
 |done (σ:Ab) (L:List Sp)
 |stuck
def wO (R:RC) (σ:Ab) (ps:Nat) (t:fZ):Ab:={σ with fresh:=t.oZ,mV:=(AD (QR R σ.mV σ.iA) ps).mV}
def nc (R:RC) (look:fN->Option fN) (lg:Nat) (g:Nat->Nat):Nat->Nat->Ab->List Sp->ab1
 |0,_,_,_=> .stuck
 |n+1,ps,σ,L=>match ke (QR R σ.mV σ.iA) look lg ps with
  | .stop=> .stop 7 (g ps)
  | .tok k m=>match ql (gD false wu) (pC (g ps) (g m) k) (wO R σ ps (pC (g ps) (g m) k))with
   | .stop e p=> .stop e p
   | .stuck=> .stuck
   | .ok _ σ'=>if uO k=0 then .done σ' L else nc R look lg g n m σ' (qA L ⟨(uO k:Int),g ps,g m⟩)
structure df (w:fO) (bm bB bD r b:Nat) (C:jB) (R:RC) (g cap:Nat) (cut:Nat->Nat) (base:Nat) (wl:fO) (ps bg:Nat) (σ:Ab) (v:gh) (L:List Sp) (wr:fO):Prop where
 rel:∃fl w0 tv ta,fl 0=bD/\RF (Qr w.heap.size bm bB r C R bg ps w0 tv ta) fl σ wr
 fX:Lz wr r R g cap cut
 dF:∃cA,wr.heap[g]?=some (fV cA 3)
 lk:wr.heap[b]?=wl.heap[b]?
 tb:wr.heap[w.heap.size+1]?=some (fV #[v,.pointer none] 74)
 sb:wr.heap[w.heap.size+2]?=some (fV #[.pointer none] 78)
 own:wr.ownsRow base 53 3 v L.length (j8 L)
 kept:Kept [] w wr
 le:ps<=R.cs.size
 len:L.length<=ps
 TI:w.heap.size<=base/\base<=wr.heap.size
 cU:w.heap.size<=r
 pos:0 < σ.nodes.length
theorem df.next {bm Q S r : Nat} {C : jB} {g A : Nat} {B : Nat->Nat} {base : Nat} {v : gh} {L : List Sp} {wr j : fO} (h:df w bm Q S r b C R g A B base wl ps bg σ v L wr) (x:Kept [r] wr j) {z F : Nat} {o : fN} (hr:Rd j r (QR R o σ.iA) z F) (X:b≠r) (I:b < wl.heap.size)
  (J:wl.heap.size<=wr.heap.size) (u:gh) (p:kZ) (N:zD j u p) (K:p.length<=4096) (U:Bool) (E:∀g,u.ownBlock=some g->wr.heap.size<=g):
  (∃G,G 0=S/\RF (Qr w.heap.size bm Q r C R z F j u p) G {σ with fresh:=U,mV:=o} j)/\Lz j r R g A B/\(∃H,j.heap[g]?=some (fV H 3))/\j.heap[b]?=wl.heap[b]?/\j.heap[w.heap.size+1]?=some (fV #[v,.pointer none] 74)/\j.heap[w.heap.size+2]?=some (fV #[.pointer none] 78)/\j.ownsRow base 53 3 v L.length (j8 L)/\Kept [] w j:=by
 have⟨G,w0,tv,ta,h0,hrf⟩:=h.rel;have y:=hrf.da;have O:∀{k:Nat} {c:jB} {t:TypeId},wr.heap[k]?=some (fV c t)->t≠165->k∉[r]:=by
  intro k c t i V Z;have e:=List.mem_singleton.1 Z;subst e;unfold Rd at y;rw[y]at i;simp at i;exact V i.2.symm
 refine⟨⟨G,h0,hrf.Ub [165] (.jl x (λk i _=>by
  have e:=List.mem_singleton.1 i;subst e;exact⟨⟨_,_,_,y,by simp⟩,h.cU⟩)) (λt _ V=>by grind) (by decide) hr u p N K U (λ_=>E) (λg Y=>jC h.kept.size (E g Y))⟩,h.fX.kept x,?_,(x.block b (lz I J) (by grind)).trans h.lk,x.at h.tb (O h.tb (by decide)),x.at h.sb (O h.sb (by decide)),x.ownsRow h.own ?_,h.kept.next x (by simpa using h.cU)⟩
 .have⟨H,hA⟩:=h.dF;exact⟨H,x.at hA (O hA (by decide))⟩
 .intro k i;rcases h.own.2 with⟨e,_⟩|⟨q,T,W,e,_,hc,_⟩
  .rw[e]at i;cases i
  .rw[e]at i;have e3:=jr i
   grind
def Iy (w:fO) (e:Ending) (w':fO):ab1->Prop
 | .stop c p=>∃k,e=gO (.tuple #[.agg #[iQ,.pointer none],fW k])/\kh w' k c p/\Kept [] w w'
 | .done fin L=>∃v k E g,e=gO (.tuple #[.agg #[v,fW k],.pointer none])/\g 0=k/\RF E g fin w'/\w'.ownsRow w.heap.size 53 3 v L.length (j8 L)/\L.length<=1024/\Kept [] w w'
 | .stuck=>False
theorem QI {W : fO} {p : Nat} {v : gh} (z:W.heap[w.heap.size+1]?=some (fV #[v,.pointer none] 74)) (y:W.heap[w.heap.size+1+1]?=some (fV #[.pointer none] 78)) (g:kh W k c p) (q:Kept [] w W) (j:Kept [w.heap.size+1,w.heap.size+1+1] W w'):kh w' k c p/\Kept [] w w':=by
 refine⟨j.at g ?_,q.next j (λx u=> .inr ?_)⟩
 .intro i;rcases List.mem_cons.1 i with e|i
  .rw[e]at g;unfold kh at g;grind
  .have e:=List.mem_singleton.1 i;rw[e]at g;unfold kh at g;grind
 grind
def YG (R:RC) (o:fN) (p:Bool) (ps:Nat):AD (QR R o p) ps=QR R (AD (QR R o p) ps).mV p:=by unfold AD;split<;>rfl
theorem Yz (s:fN) (tv:gh) (base d f l:Nat) (w:fO) (ho:w.ownsRow base 5 1 tv s.size (kD s)) (hs:s.size<=1024) (hd:d<=64) (hf:f<=32) (hl:l<=16) (hT:ya w) (bn:K5 w) (ak:∀av b,nc (rI s l av b) (pA KV) 8 (iW s) ((oC s).size+1) 0 (S0 d f l 0) []≠ .stuck):
  Calls prog 38 #[tv,.agg #[fK d,fK f,fK l]] w λe w'=>∃av b,Iy w e w' (nc (rI s l av b) (pA KV) 8 (iW s) ((oC s).size+1) 0 (S0 d f l 0) []):=by
 have bR:∀(fn:Fn) (first H:jB) (w:fO),(Instr.makeFunc fn first H).run prog w= .ok (.func fn first H) w:=λ_ _ _ _=>rfl;obtain⟨w0,a2⟩:∃w0,w0=((w.alloc (fV #[fK d,fK f,fK l] 71)).alloc (fV #[iQ,.pointer none] 74)).alloc (fV #[.pointer none] 78):=⟨_,rfl⟩;have aa:Kept [] w w0:=by rw[a2];exact(((Kept.refl _ _).alloc _).alloc _).alloc _
 have HZ:w0.heap.size=w.heap.size+3:=by rw[a2];simp
 have ap:w0.heap[w.heap.size]?=some (fV #[fK d,fK f,fK l] 71):=by
  rw[a2,Below.heap_alloc _ _ _ (by simp;omega),Below.heap_alloc _ _ _ (by simp)];exact fB w _
 have bi:w0.heap[w.heap.size+1]?=some (fV #[iQ,.pointer none] 74):=by
  rw[a2,Below.heap_alloc _ _ _ (by simp)];have:=fB (w.alloc (fV #[fK d,fK f,fK l] 71)) (fV #[iQ,.pointer none] 74)
  simpa using this
 have bj:w0.heap[w.heap.size+2]?=some (fV #[.pointer none] 78):=by
  have:=fB ((w.alloc (fV #[fK d,fK f,fK l] 71)).alloc (fV #[iQ,.pointer none] 74)) (fV #[.pointer none] 78);rw[a2];simpa using this
 have CN:=KP s tv base (l:Int) w0 (aa.ownsRow ho (λ_ _=>by simp)) hs;have c0:=fw ap 0;have c1:=fw ap 1;have c2:=fw ap 2;dsimp at c0 c1 c2;have⟨ao,cp,htv⟩:=fS ho;subst htv;have HW:=fx a2.symm;have aV:=hT;clear a2
 go_enter_defers func38,ntmps38
 go_wp21
 rw[HW.out];refine CN.mono ?_;rintro e w1 ⟨r,b,av,g,H,rfl,hr,hb,bp,bh,bb,bd,aS,bl,a0⟩;have g1:=a0.at ap (by simp);have d0:=fw g1 0;have d1:=fw g1 1;have d2:=fw g1 2;dsimp at d0 d1 d2;have bk:=aV.fr (bm:=0) (.gv (aa.trans a0));have CB:=aeS (d:Int) (f:Int) (l:Int) (.func 55) #[fW r] #[] w1 bk;have HB:=And.intro hr (And.intro hb bp)
 go_wp21
 refine CB.mono ?_;rintro e w2 ⟨bm,bB,bD,rfl,hN⟩;have K:=hN.k;have aX:Rd w2 r (rI s l av b) 0 0:=bh.kept K (by simp);have⟨C,fl,hfl,hrf⟩:=aeF w.heap.size bm bB bD r d f l w1 w2 (rI s l av b) hN aX rfl rfl hd hf hl (by grind) (by omega);obtain⟨R,hR⟩:∃R,R=rI s l av b:=⟨_,rfl⟩;have bc:R.cs=oC s:=by rw[hR];rfl
 have bS:R.mV=⟨#[]⟩:=by rw[hR];rfl
 have bT:R.Zy=false:=by rw[hR];rfl
 have bw:R.mv= .map (some b):=by rw[hR];rfl
 have br:R.lg=(8:Nat):=by rw[hR];rfl
 have bN:R.at_=(l:Int):=by rw[hR];rfl
 have b7:R.cs.size<=1024:=by rw[bc,uk];have:=Hj s s.size;omega
 rw[<-hR]at hrf;obtain⟨O,hO⟩:∃O,O=nc R (pA KV) 8 (iW s) (R.cs.size+1) 0 (S0 d f l 0) []:=⟨_,rfl⟩;have HO:=hO.symm;have ab:Hid (∀e w',Iy w e w' O->∃av b,Iy w e w' (nc (rI s l av b) (pA KV) 8 (iW s) ((oC s).size+1) 0 (S0 d f l 0) [])):=λe w' h=>⟨av,b,by grind⟩;have be:O≠ .stuck:=by rw[hO,hR];exact ak av b
 have bf:Hid (df w bm bB bD r b C R g H (iW s) w2.heap.size w2 0 0 (S0 d f l 0) (iQ) [] w2):=fx
  {rel:=⟨fl,w2,iQ,[],hfl,hrf⟩
   lk:=rfl
   fX:=by have:=bb;rw[<-hR]at this;exact this.kept (K.mono (by simp))
   dF:=by have⟨cA,hA⟩:=bl;exact⟨cA,K.at hA (by simp)⟩
   tb:=K.at (a0.at bi (by simp)) (by simp)
   sb:=K.at (a0.at bj (by simp)) (by simp)
   own:=oD _ _ _ _
   kept:=(aa.trans a0).trans K
   le:=im _
   len:=gr _
   TI:=⟨jC (jC aa.size a0.size) K.size,gr _⟩
   cU:=by omega
   pos:=by simp[S0]}
 have B:=fx (bd.kept K (by simp));have aU:=bn;have bM:=(aa.trans a0).trans K
 go_wp21
 go_loopw [] (λwr=>∃n ps bg σ v L,df w bm bB bD r b C R g H (iW s) w2.heap.size w2 ps bg σ v L wr/\nc R (pA KV) 8 (iW s) n ps σ L=O/\R.cs.size - ps < n) (λwr=>R.cs.size - (match wr.cell? ⟨r,3,none⟩with|some v=>(intOf v).toNat|none=>0))
 case atStart=>exact⟨R.cs.size+1,0,0,_,_,[],bf,HO,by omega⟩
 case round=>
  have⟨n,ps,bg,σ,v,L,h1,HGO,hnn⟩:=hrel;obtain⟨n,rfl⟩:∃k,n=k+1:=⟨n - 1,by omega⟩;have b3:Rd wr r (QR R σ.mV σ.iA) bg ps:=by have⟨_,_,_,_,_,hr⟩:=h1.rel;exact hr.da
  have P0:=b3.ps;have G:=h1;have bq:Gl wr r:=by
   have⟨U,hl⟩:=aU.kept h1.kept;exact⟨U,hl,λe=>by have:=h1.cU;have:=aU.2;omega⟩
  have bz:Km wr r (QR R σ.mV σ.iA) g H b 8 (pA KV) (iW s):=⟨⟨h1.fX.av,h1.fX.ne,h1.fX.lt,h1.fX.at_⟩,⟨⟨lz B.lt h1.TI.2,B.short,λbF w' e=>B.run bF w' (e.trans h1.lk)⟩,aS,bw,br,by decide⟩,bq,b7⟩;have Q:=aec r (QR R σ.mV σ.iA) bg ps g H b 8 (pA KV) (iW s) wr b3 bz h1.le;rw[YG]at Q;have ah:ps < R.cs.size->zL (QR R σ.mV σ.iA) ps (ke (QR R σ.mV σ.iA) (pA KV) 8 ps):=λh=>(Ct (R:=QR R σ.mV σ.iA) B.short b7 h).1;have aC:ps=R.cs.size->ke (QR R σ.mV σ.iA) (pA KV) 8 ps= .tok .Xr R.cs.size:=λe=>by rw[e];exact Jn (R:=QR R σ.mV σ.iA)
  have bK:=h1.le;rw[nc]at HGO;obtain⟨on,b2⟩:∃on,on=(AD (QR R σ.mV σ.iA) ps).mV:=⟨_,rfl⟩;have b6:∀t,wO R σ ps t={σ with fresh:=t.oZ,mV:=on}:=λt=>by rw[b2];rfl
  rw[<-b2]at Q;cases hT:ke (QR R σ.mV σ.iA) (pA KV) 8 ps with
  |stop=>
   rw[hT]at Q HGO;dsimp only at HGO;have CX:=fx Q;have EO:=fx HGO.symm;clear Q HGO
   go_wp21
   refine CX.mono ?_;rintro e w3 ⟨k,rfl,ak,bQ,a6⟩;have⟨_,_,_,_,_,hrf⟩:=G.rel;have aF:=hrf.da;have ne:∀{k:Nat} {c:jB} {t:TypeId},wr.heap[k]?=some (fV c t)->t≠165->k∉[r]:=by
    intro k c t y ht U;have e:=List.mem_singleton.1 U;subst e;unfold Rd at aF;rw[aF]at y;simp at y;exact ht y.2.symm
   have Y:=a6.at G.tb (ne G.tb (by decide));have X:w3.heap[w.heap.size+1+1]?=_:=a6.at G.sb (ne G.sb (by decide));have V:=G.kept.next a6 (by simpa using G.cU);have F:=And.intro Y (And.intro X (And.intro ak V));go_wp2;refine leaves_cons (f:=51) (args:=#[fW (w.heap.size+1),fW (w.heap.size+1+1)]) (by simp) (by simp[go_sem]) ?_;refine(DH (w.heap.size+1) (w.heap.size+1+1) k w3 v F.1 F.2.1 (by omega) (by omega)).mono ?_;rintro e u' b9 ⟨rfl,rfl,t9,s9,k9⟩;have HF:=fx (QI F.1 F.2.1 F.2.2.1 F.2.2.2 k9);have q0:=fw t9 0;have q1:=fw t9 1;have q2:=fw s9 0;dsimp at q0 q1 q2;simp[Go.Leaves,settle,results,results38,go_sem,q0,q1,q2];refine ab _ _ ?_;rw[EO.out];exact⟨k,rfl,HF.1,HF.2⟩
  |tok k m=>
   rw[hT]at Q HGO;dsimp only at HGO;have bO:uO k=0->k= .Xr:=by cases k<;>simp[uO]
   have bo:Xw k:=by
    rcases mq ps R.cs.size with h|h
    .have:=ah h;rw[hT]at this;exact this.2.2.2.2
    .have:=aC (by omega);rw[hT]at this;obtain⟨rfl,_⟩:=zG.tok.inj this;trivial
   have bv:uO k≠0->ps < m/\m<=R.cs.size:=by
    intro aO;rcases mq ps R.cs.size with h|h
    .have:=ah h;rw[hT]at this;exact⟨this.1,this.2.1⟩
    .have:=aC (by omega);rw[hT]at this;obtain⟨rfl,_⟩:=zG.tok.inj this;exact absurd rfl aO
   have aD:=jC (bo.len (iW s ps) (iW s m)) (show 1024<=4096 by decide);rw[b6]at HGO;have CX:=fx Q;clear Q
   go_wp21
   refine CX.mono ?_;rintro e w3 ⟨⟨vv,rfl,bE⟩,a6,bA⟩;obtain⟨T,x,tv,rfl,hV,aI,bC,b0,b1⟩:=bE.is aD;have⟨⟨fl,hfl,hrf⟩,S,al,ay,Y,X,aA,V⟩:=G.next a6 bA aS B.lt G.TI.2 tv _ b0 aD (pC (iW s ps) (iW s m) k).oZ b1;obtain⟨t,ht⟩:∃t,t=pC (iW s ps) (iW s m) k:=⟨_,rfl⟩;have A:=HGO;rw[<-ht]at hrf hV A;have hD:=λhh=>Zb (Qr w.heap.size bm bB r C R ps m w3 tv t.gy) rfl rfl bC wu t (λ_=>rfl) fl _ w3 hrf hh;have aY:=hV (Qr w.heap.size bm bB r C R ps m w3 tv t.gy) rfl;cases hT1:ql (gD false wu) t {σ with fresh:=t.oZ,mV:=on} with
   |stuck=>rw[hT1]at A;exact absurd A.symm be
   |stop c p=>
    have D:=hD (by rw[hT1];simp);rw[hT1]at D A;dsimp only at A;have EO:=fx A.symm;have C2:Hid (Calls prog 57 #[fW bB,.iface T x] w3 λe W=>∃j,e=rE j/\kh W j c p/\Fr w.heap.size w3 W):=fx (by rwa [aY]at D);have HQ:=fx (And.intro Y (And.intro X V));clear A HGO
    go_wp21
    refine C2.mono ?_;rintro e w4 ⟨k,rfl,ak,z⟩;have⟨Y,X,V⟩:=HQ;have Z:=z.zO Y (by decide);have a8:w4.heap[w.heap.size+1+1]?=_:=z.zO X (by decide);have aw:=z.kept V (gr _);have F:=And.intro Z (And.intro a8 (And.intro ak aw));go_wp2;refine leaves_cons (f:=51) (args:=#[fW (w.heap.size+1),fW (w.heap.size+1+1)]) (by simp) (by simp[go_sem]) ?_;refine(DH (w.heap.size+1) (w.heap.size+1+1) k w4 v F.1 F.2.1 (by omega) (by omega)).mono ?_;rintro e u' b9 ⟨rfl,rfl,t9,s9,k9⟩;have HF:=fx (QI F.1 F.2.1 F.2.2.1 F.2.2.2 k9);have q0:=fw t9 0;have q1:=fw t9 1;have q2:=fw s9 0;dsimp at q0 q1 q2;simp[Go.Leaves,settle,results,results38,go_sem,q0,q1,q2];refine ab _ _ ?_;rw[EO.out];exact⟨k,rfl,HF.1,HF.2⟩
   |ok u σ2=>
    have D:=hD (by rw[hT1];simp);rw[hT1]at D A;dsimp only at A;have aE:0 < ({σ with fresh:=t.oZ,mV:=on}:Ab).nodes.length:=G.pos;have C2:Hid (Calls prog 57 #[fW bB,.iface T x] w3 λe W=>e=oS/\∃ar,ar 0=bD/\RF (Qr w.heap.size bm bB r C R ps m w3 tv t.gy) ar σ2 W/\Fr w.heap.size w3 W/\0 < σ2.nodes.length):=
     fx (by
      rw[aY]at D;exact D.mono (λe W hL=>by
       have⟨ar,h5,h6,h7,h8,h9⟩:=hL;exact⟨h7,ar,(h5 0 aE).trans hfl,h8,h9,lz aE h6⟩))
    have HQ:=fx (And.intro S (And.intro al (And.intro ay (And.intro Y (And.intro X (And.intro aA V))))));have aW:=a6.size;clear HGO
    go_wp21
    refine C2.mono ?_;rintro e w4 ⟨rfl,aJ,af,aj,z,aP⟩;have⟨S,al,ay,Y,X,aA,V⟩:=HQ;have bH:w4.heap[b]?=w2.heap[b]?:=(z.map ay B).trans ay;have Z:=z.zO Y (by decide);have a8:=z.zO X (by decide);have aw:=z.kept V (gr _);have⟨cA,hA3⟩:=al;have aK:=z.zO hA3 (by decide);have aZ:Lz w4 r R g H (iW s):=⟨S.av,S.ne,iB aK,λi hi=>by rw[fw aK,<-fw hA3];exact S.at_ i hi⟩;have aQ:w4.ownsRow w2.heap.size 53 3 v L.length (j8 L):=by
     refine⟨aA.1,?_⟩;rcases aA.2 with e|⟨q,a3,aq,e,h1,hc,r'⟩
     .exact .inl e
     .exact .inr ⟨q,a3,aq,e,h1,z.zO hc (by decide),r'⟩
    have aB:w2.heap.size<=w4.heap.size:=jC G.TI.2 (jC aW z.size);have a9:=aI.kind w4
    by_cases au:uO k=0
    .rw[au]at a9;have CK:=fx a9;have aM:=A;rw[fU au]at aM;have EO:=fx aM.symm;clear a9 aM;have CD:=PW _ _ _ _ aj;have eD:nV aJ 0=fW bD:=by unfold nV;rw[af]
     rw[eD]at CD;have⟨ax,ac,hv⟩:=fS aQ;subst hv;have c0:=fw Z 0;have c1:=fw Z 1;have c2:=fw (show w4.heap[w.heap.size+1+1]?=_ from a8) 0;have f0:=fA Z 0;have f1:=fA Z 1;have f2:=fA (show w4.heap[w.heap.size+1+1]?=_ from a8) 0;dsimp at c0 c1 c2;have HX:=fx (And.intro Z (And.intro a8 (And.intro aQ (And.intro aw (And.intro aj af)))))
     go_wp21
     refine CK.mono ?_;rintro e w5 ⟨rfl,rfl⟩
     go_wp21
     refine CD.mono ?_;rintro e w5 ⟨rfl,rfl⟩;have⟨tb5,sb5,ow5,kw5,hrf5,ag⟩:=HX;have aO:w.heap.size+1+1≠w.heap.size+1:=by omega
     have J:(w5.setCell ⟨w.heap.size+1,1,none⟩ (fW bD)).heap[w.heap.size+1]?=some (fV #[.slice ax L.length ac,fW bD] 74):=fI tb5 1 _;have am:(w5.setCell ⟨w.heap.size+1,1,none⟩ (fW bD)).heap[w.heap.size+1+1]?=some (fV #[.pointer none] 78):=(Below.heap_setCell _ _ _ _ aO).trans sb5;have E1:=fx (nU J 0 (.slice ax L.length ac) rfl);have E2:=fx (nU J 1 (fW bD) rfl);have E3:=fx (nU am 0 (.pointer none) rfl);have q0:=fw J 0;have q1:=fw J 1;have q2:=fw am 0;dsimp at q0 q1 q2;have E:Kept [w.heap.size+1] w5 (w5.setCell ⟨w.heap.size+1,1,none⟩ (fW bD)):=(Kept.refl _ _).setCell (.inl (by simp)) _;have a4:Rd w5 r (QR R σ2.mV σ2.iA) ps m:=hrf5.da;have bx:r∉[w.heap.size+1]:=by
      intro U;have e:=List.mem_singleton.1 U;unfold Rd at a4;rw[e,tb5]at a4;simp at a4
     have a5:=hrf5.Ub [74] (.jl E (λk y _=>by
      have e:=List.mem_singleton.1 y;subst e;exact⟨⟨_,_,_,tb5,by simp⟩,by omega⟩)) (by decide) (by decide) (a4.kept E bx) (iQ) [] (oD _ _ _ _) (im _) σ2.fresh (λ_ g hg=>by simp[Value.ownBlock]at hg) (λg hg=>by simp[Value.ownBlock]at hg)
     have HF:Hid (Iy w (gO (.tuple #[.agg #[.slice ax L.length ac,fW bD],.pointer none])) (w5.setCell ⟨w.heap.size+1,1,none⟩ (fW bD)) O):=by
      rw[EO.out];refine fx ⟨_,bD,_,aJ,rfl,ag,a5,?_,by have:=G.len;omega,kw5.setCell (.inr (by simp)) _⟩;refine jR (E.ownsRow ow5 (λq hq=>?_)) G.TI.1;intro U;have e:=List.mem_singleton.1 U;subst e;rcases ow5.2 with⟨e2,_⟩|⟨q,a3,aq,e2,_,hc,_⟩
      .rw[e2]at hq;cases hq
      .rw[e2]at hq;have e3:=jr hq;subst e3;rw[tb5]at hc;simp at hc
     go_wp2;rw[E1.out,E2.out,E3.out];refine leaves_cons (f:=51) (args:=#[fW (w.heap.size+1),fW (w.heap.size+1+1)]) (by simp) (by simp[go_sem]) ?_;refine(Pl ⟨w.heap.size+1,0,none⟩ ⟨w.heap.size+1+1,0,none⟩ _).mono ?_;rintro e u' b9 ⟨rfl,rfl,rfl⟩;simp[Go.Leaves,settle,results,results38,go_sem,q0,q1,q2];exact ab _ _ HF
    .have bu:=bv au;have CK:=fx a9;have aT:=A;rw[gn au]at aT;have bP:((uO k:Int)==0)=false:=beq_eq_false_iff_ne.2 (by omega);have ba:L.length<=1024:=by have:=G.len;have:=G.le;omega
     clear a9;have bt:=aI.gz;have bJ:=aI.nil;have CY:=OY (iW s ps:Int) (iW s m:Int) w4;have aB:w2.heap.size<=w4.heap.size:=jC G.TI.2 (jC aW z.size);have HX:=fx (And.intro aZ (And.intro aK (And.intro bH (And.intro Z (And.intro a8 (And.intro aQ (And.intro aw (And.intro aj (And.intro af aB)))))))))
     go_wp21
     refine CK.mono ?_;rintro e w5 ⟨rfl,rfl⟩
     go_wp21
     refine CY.mono ?_;rintro e w6 ⟨rfl,E⟩;have⟨hat5,hA5,lk5,tb5,sb5,ow5,kw5,hrf5,ag,big5⟩:=HX;have J:=E.at tb5 (by simp);have I:=E.ownsRow ow5 (λ_ _=>by simp);have⟨ax,ac,hv⟩:=fS I;subst hv;have c6:=fw J 0;dsimp at c6;have CA:=PA w2.heap.size _ L ⟨(uO k:Int),iW s ps,iW s m⟩ w6 I (jC big5 E.size) (by omega);have HP:=fx (And.intro (hat5.kept (E.mono (by simp))) (And.intro (E.at hA5 (by simp)) (And.intro ((E.block b (lz B.lt big5) (by simp)).trans lk5) (And.intro J (And.intro (E.at sb5 (by simp)) (And.intro I (And.intro (kw5.trans E) (And.intro (hrf5.gJ E) (And.intro ag (jC big5 E.size))))))))))
     go_wp21
     refine CA.mono ?_;rintro e w7 ⟨v7,rfl,aR,N⟩;have⟨hat6,hA6,lk6,J,am,I,kw6,a5,hfl6,big6⟩:=HP;have ne:∀{k:Nat} {c:jB} {t:TypeId},w6.heap[k]?=some (fV c t)->t≠53->k∉(Value.slice ax L.length ac).ownBlock.toList:=by
      intro k c t y ht U;rcases I.2 with⟨e2,_⟩|⟨q,a3,aq,e2,_,hc,_⟩
      .rw[e2]at U;simp[Value.ownBlock]at U
      .rw[e2]at U;simp[Value.ownBlock]at U;subst U;rw[y]at hc;simp at hc;exact ht hc.2
     have aG:=a5.da;have bI:w7.heap[b]?=w2.heap[b]?:=(KT.map (bs:=w.heap.size) (T:=[53]) (.jl N (λk y _=>by
      obtain⟨c,m,hc⟩:=pW I (by simpa using y);exact⟨⟨_,_,_,hc,by simp⟩,by have h7:=(I.lt k (by simpa using y)).1;have h8:=G.TI.1;omega⟩)) lk6 B).trans lk6
     have an:=N.at J (ne J (by decide));have b8:=N.at am (ne am (by decide));have ad:=N.at hA6 (ne hA6 (by decide));have ai:Rd w7 r (QR R σ2.mV σ2.iA) ps m:=N.at aG (ne aG (by decide));have ae:Lz w7 r R g H (iW s):=⟨hat6.av,hat6.ne,iB ad,λi hi=>by rw[fw ad,<-fw hA6];exact hat6.at_ i hi⟩;have bG:Kept [] w w7:=kw6.next N (λx hx=> .inr (by have h7:=(I.lt x (by simpa using hx)).1;have h8:=G.TI.1;omega));have b4:=a5.Ub [53] (.jl N (λk y _=>by
      obtain⟨c,m,hc⟩:=pW I (by simpa using y);exact⟨⟨_,_,_,hc,by simp⟩,by have h7:=(I.lt k (by simpa using y)).1;have h8:=G.TI.1;omega⟩)) (by decide) (by decide) ai (iQ) [] (oD _ _ _ _) (im _) σ2.fresh (λ_ g hg=>by simp[Value.ownBlock]at hg) (λg hg=>by simp[Value.ownBlock]at hg)
     have⟨a7,p7,hv7⟩:=fS aR;subst hv7;have c7:=fw an 0;have f7:=fA an 0;dsimp at c7;have a1:Kept [w.heap.size+1] w7 (w7.setCell ⟨w.heap.size+1,0,none⟩ (.slice a7 (qA L ⟨(uO k:Int),iW s ps,iW s m⟩).length p7)):=(Kept.refl _ _).setCell (.inl (by simp)) _;have az:∀{k:Nat} {c:jB} {t:TypeId},w7.heap[k]?=some (fV c t)->t≠74->k∉[w.heap.size+1]:=by
      intro k c t y ht U;have e:=List.mem_singleton.1 U;subst e;rw[an]at y;simp at y;exact ht y.2.symm
     have aH:Rd (w7.setCell ⟨w.heap.size+1,0,none⟩ (.slice a7 (qA L ⟨(uO k:Int),iW s ps,iW s m⟩).length p7)) r (QR R σ2.mV σ2.iA) ps m:=a1.at ai (az ai (by decide));have b5:=b4.Ub [74] (.jl a1 (λk y _=>by
      have e:=List.mem_singleton.1 y;subst e;exact⟨⟨_,_,_,an,by simp⟩,by omega⟩)) (by decide) (by decide) aH (iQ) [] (oD _ _ _ _) (im _) σ2.fresh (λ_ g hg=>by simp[Value.ownBlock]at hg) (λg hg=>by simp[Value.ownBlock]at hg)
     have aL:=a1.at ad (az ad (by decide));have HE:Hid (df w bm bB bD r b C R g H (iW s) w2.heap.size w2 m ps σ2 (.slice a7 (qA L ⟨(uO k:Int),iW s ps,iW s m⟩).length p7) (qA L ⟨(uO k:Int),iW s ps,iW s m⟩) (w7.setCell ⟨w.heap.size+1,0,none⟩ (.slice a7 (qA L ⟨(uO k:Int),iW s ps,iW s m⟩).length p7))):=fx
      {rel:=⟨aJ,_,_,_,hfl6,b5⟩
       lk:=by
        rw[a1.block b (lz B.out.lt (jC big6 N.size)) (by
         intro U;have e:=List.mem_singleton.1 U;omega)]
        exact bI
       fX:=⟨ae.av,ae.ne,iB aL,λi hi=>by rw[fw aL,<-fw ad];exact ae.at_ i hi⟩
       dF:=⟨_,aL⟩
       tb:=fI an 0 _
       sb:=a1.at b8 (az b8 (by decide))
       own:=a1.ownsRow aR (λq hq=>by
        rcases aR.2 with⟨e2,_⟩|⟨q',a3,aq,e2,_,hc,_⟩
        .rw[e2]at hq;cases hq
        .rw[e2]at hq;have e3:=jr hq;subst e3;exact az hc (by decide))
       kept:=bG.setCell (.inr (by simp)) _
       le:=bu.2
       pos:=aP
       len:=by have h8:=Xq L ⟨(uO k:Int),iW s ps,iW s m⟩;have h9:=G.len;omega
       TI:=⟨G.TI.1,jC (jC big6 N.size) a1.size⟩
       cU:=G.cU}
     have P8:=aH.ps;have aN:R.cs.size - m < R.cs.size - ps:=by omega
     generalize hlq:(qA L ⟨(uO k:Int),iW s ps,iW s m⟩).length=bL at *;go_wp2;go_roundw
     case rel=>exact⟨n,m,ps,σ2,_,_,HE,aT,by omega⟩
     case measure=>rw[P8,P0];simpa [intOf]using aN
def WV (R:RC) (σ:Ab) (ps:Nat) (t:fZ):zf (wO R σ ps t) t:=by
 intro h;have⟨a,b,k,fX⟩:=t;cases k<;>first|rfl|cases h
def TH (g:AV σ) (R:RC) (ps:Nat) (t:fZ):AV (wO R σ ps t):=⟨g.iv.mM rfl rfl rfl rfl rfl rfl rfl,g.ms,g.wz⟩
def Rz (R:RC) (e:Nat->Nat) (ps:Nat) (σ:Ab):ab1->Prop
 | .stuck=>False
 | .stop _ p=>∃q,ps<=q/\q<=R.cs.size/\p=e q
 | .done σ' _=>AV σ'/\Kk σ'<=Kk σ+580*(R.cs.size+1 - ps)/\σ'.pS=σ.pS/\σ'.rq=σ.rq/\σ'.oY=σ.oY
theorem Vq {i : Nat->Nat} (U:∀x t,look x=some t->t.size<=16) (W:R.cs.size<=1024):∀(n ps:Nat) (σ:Ab) (L:List Sp),ps<=R.cs.size->R.cs.size - ps < n->AV σ->Kk σ+580*(R.cs.size+1 - ps) < 990000->σ.waiting.length+(R.cs.size+1 - ps) < 4000->Rz R i ps σ (nc R look lg i n ps σ L):=by
 intro n
 induction n with
 |zero=>simp
 |succ n ih=>
  intro ps σ L Q Y g Z hw;rw[nc];have j:ps < R.cs.size->zL (QR R σ.mV σ.iA) ps (ke (QR R σ.mV σ.iA) look lg ps):=λh=>(Ct (R:=QR R σ.mV σ.iA) U W h).1;have v:ps=R.cs.size->ke (QR R σ.mV σ.iA) look lg ps= .tok .Xr R.cs.size:=λe=>by rw[e];exact Jn (R:=QR R σ.mV σ.iA)
  cases hT:ke (QR R σ.mV σ.iA) look lg ps with
  |stop=>grind[Rz]
  |tok k m=>
   dsimp only;have y:Xw k:=by
    rcases mq ps R.cs.size with h|h
    .have:=j h;rw[hT]at this;exact this.2.2.2.2
    .grind[Xw]
   have z:uO k≠0->ps < m/\m<=R.cs.size:=by
    intro q;rcases mq ps R.cs.size with h|h
    .have:=j h;rw[hT]at this;exact⟨this.1,this.2.1⟩
    .have:=v (by omega);rw[hT]at this;obtain⟨rfl,_⟩:=zG.tok.inj this;exact absurd rfl q
   have V:=acA (pC (i ps) (i m) k) (y.tok _ _) (TH g R ps (pC (i ps) (i m) k)) (WV R σ ps _) (by show Kk σ < _;omega) (by grind[wO]);have T:(pC (i ps) (i m) k).a=i ps:=by cases k<;>rfl
   revert V;cases hT1:ql (gD false wu) (pC (i ps) (i m) k) (wO R σ ps (pC (i ps) (i m) k))with
   |stuck=>simp[dq]
   |stop c p=>
    intro h;refine⟨ps,gr _,Q,?_⟩;rw[<-T];exact h
   |ok u σ2=>
    rintro⟨A,B,C,E,F,H⟩;have G:σ2.waiting.length<=σ.waiting.length+1:=F;have I:Kk σ2<=Kk σ+580:=H;dsimp only;split
    .exact⟨A,by omega,B,C,E⟩
    .rename_i q;have⟨m1,m2⟩:=z q;have S:=ih m σ2 (qA L ⟨(uO k:Int),i ps,i m⟩) m2 (by omega) A (by omega) (by omega);revert S;cases nc R look lg i n m σ2 (qA L ⟨(uO k:Int),i ps,i m⟩)with
     |stuck=>simp[Rz]
     |stop c p=>grind[Rz]
     |done σ' L'=>rintro⟨J,X,K,N,O⟩;exact⟨J,by omega,K.trans B,N.trans C,O.trans E⟩
def DF {i : Nat} {e : Al} (h:(S0 d f l a).gF i=some e):e.iJ=none/\e.kids=[]:=by rw[XG h];simp
def afJ (g:d<=64) (z:f<=32):mD (S0 d f l a):=
 ⟨λ_=>0,{
  oq:=⟨λi e p h q=>(by rw[(DF h).1]at q;cases q),λi e j h u=>(by rw[(DF h).2]at u;cases u),λi e h=>(by rw[(DF h).2];simp[ie]),λi e h k v=>(by rw[(DF h).2]at v;cases v)⟩
  tD:=⟨λi e p h q=>(by rw[(DF h).1]at q;cases q),List.Pairwise.nil,λd h A=>by cases A⟩
  fQ:=λx C=>by cases C
  act:=λi B=>by cases B
  head:=λd g=>by cases g
  form:=λd g=>by cases g
  Mn:=λx y h=>by cases h
  ve:=im _
  Ac:=im _
  Qy:=g
  RW:=z
  vc:=rfl}⟩
def abH (e:d<=64) (g:f<=32):AV (S0 d f l a):=⟨afJ e g,.inl (.inl ⟨im _,rfl,rfl⟩),λx i=>by cases i⟩
def YL:Kk (S0 d f l a)<=1000:=by show([Uj (.el ⟨⟨#[]⟩,[],none,[]⟩)].sum+200*0<=1000);decide
def sw (R:RC) (av e:gh) (lg:Int):RC:={R with av:=av,mv:=e,lg:=lg}
theorem U9 (R:RC) (av e:gh) (lg:Int):∀(n i:Nat),R.cs.size - i<=n->tF (sw R av e lg) i=tF R i
 |0,i,h=>by
  grind[tF,sw]
 |n+1,i,h=>by
  rw[tF.eq_1 (sw R av e lg) i,tF.eq_1 R i];show(if i < R.cs.size then (if pre (R.cs.extract i R.cs.size) e1=true then i+3 else if pre (R.cs.extract i R.cs.size) e2=true then i+4 else tF (sw R av e lg) (i+1))else i)=_;split
  .rw[U9 R av e lg n (i+1) (by omega)]
  .rfl
theorem Q5 (R:RC) (av e:gh) (lg:Int) (a:Nat):∀(n i:Nat),R.cs.size - i<=n->pG (sw R av e lg) a i=pG R a i
 |0,i,h=>by
  grind[pG,sw]
 |n+1,i,h=>by
  rw[pG.eq_1 (sw R av e lg) a i,pG.eq_1 R a i];show(if i < R.cs.size then (if pre (R.cs.extract i R.cs.size) e1=true then R.cs.extract a i else if pre (R.cs.extract i R.cs.size) e2=true then R.cs.extract a i else pG (sw R av e lg) a (i+1))else zq (R.cs.extract a R.cs.size))=_;split
  .rw[Q5 R av e lg a n (i+1) (by omega)]
  .rfl
def IP (R:RC) (av j:gh) (g:Int) (look:fN->Option fN) (lg:Nat):∀(n:Nat) (L:kZ) (i:Nat),R.cs.size - i<=n->lf (sw R av j g) look lg L i=lf R look lg L i
 |0,L,i,h=>by
  have q:=sF (R:=R) (ps:=i);rw[lf.eq_1 (sw R av j g) look lg L i,lf.eq_1 R look lg L i,dif_neg (by show ¬iN R i < R.cs.size;omega),dif_neg (by omega)]
 |n+1,L,i,h=>by
  have q:=sF (R:=R) (ps:=i);rw[lf.eq_1 (sw R av j g) look lg L i,lf.eq_1 R look lg L i]
  by_cases p:iN R i < R.cs.size
  .rw[wQ (show iN (sw R av j g) i < (sw R av j g).cs.size from p),wQ p];have u:=wg (R:=R) (ps:=iN R i);have v:=ye (R:=R) (ps:=jU R (iN R i));have e:=IP R av j g look lg n (qR R look lg L (iN R i)) (py R (jU R (iN R i))) (by omega);show(if pre (R.cs.extract (iN R i) R.cs.size) ir=true then Jl.whole (iN R i+1) L else if yY R (L.map (·.1)) (iN R i)=true then .stop else lf (sw R av j g) look lg (qR R look lg L (iN R i)) (py R (jU R (iN R i))))=_;rw[e]
  .rw[dif_neg (show ¬iN (sw R av j g) i < (sw R av j g).cs.size from p),dif_neg p]
def XW (R:RC) (av g:gh) (e:Int) (look:fN->Option fN) (lg bg ps:Nat):lL (sw R av g e) look lg bg ps=lL R look lg bg ps:=by
 unfold lL;rw[IP R av g e look lg _ [] _ (gr _)];rfl
def Wz (R:RC) (av g:gh) (e:Int) (ps:Nat):mY (sw R av g e) ps=mY R ps:=by
 unfold mY;rw[U9 R av g e _ ps (gr _)];rfl
def SQ (R:RC) (av g:gh) (e:Int) (ps:Nat):nI (sw R av g e) ps=nI R ps:=by
 unfold nI;rw[Q5 R av g e _ _ ps (gr _)];rfl
def aaP (R:RC) (av i:gh) (g:Int) (look:fN->Option fN) (lg bg ps:Nat):rX (sw R av i g) look lg bg ps=rX R look lg bg ps:=by
 unfold rX;rw[IP R av i g look lg _ [] _ (gr _),XW,Wz,SQ];have e:∀O,sA (sw R av i g) .RY (xh (sw R av i g) ps) O=sA R .RY (xh R ps) O:=λO=>by rfl
 rw[e];rfl
def acu (R:RC) (av i:gh) (g:Int) (look:fN->Option fN) (lg ps:Nat):ke (sw R av i g) look lg ps=ke R look lg ps:=by
 unfold ke;have e:uh (sw R av i g) ps=sw (uh R ps) av i g:=rfl;rw[e,aaP];rfl
def LF (R:RC) (av j:gh) (i:Int) (look:fN->Option fN) (lg:Nat) (g:Nat->Nat):∀(n ps:Nat) (σ:Ab) (L:List Sp),nc (sw R av j i) look lg g n ps σ L=nc R look lg g n ps σ L
 |0,_,_,_=>rfl
 |n+1,ps,σ,L=>by
  rw[nc,nc];have e:QR (sw R av j i) σ.mV σ.iA=sw (QR R σ.mV σ.iA) av j i:=rfl;rw[e,acu];cases ke (QR R σ.mV σ.iA) look lg ps with
  |stop=>rfl
  |tok k m=>
   have e2:wO (sw R av j i) σ ps (pC (g ps) (g m) k)=wO R σ ps (pC (g ps) (g m) k):=by
    unfold wO AD
    by_cases h:ps=R.cs.size
    .rw[fU (show ps=(QR (sw R av j i) σ.mV σ.iA).cs.size from h),fU (show ps=(QR R σ.mV σ.iA).cs.size from h)];rfl
    .rw[gn (show ¬ps=(QR (sw R av j i) σ.mV σ.iA).cs.size from h),gn (show ¬ps=(QR R σ.mV σ.iA).cs.size from h)];rfl
   dsimp only;rw[e2];cases ql (gD false wu) (pC (g ps) (g m) k) (wO R σ ps (pC (g ps) (g m) k))with
   |stuck=>rfl
   |stop c p=>rfl
   |ok u σ2=>
    dsimp only;rw[LF R av j i look lg g n m σ2]
def As (d f l:Nat) (s:fN):ab1:=nc (rI s l .nilFunc 0) (pA KV) 8 (iW s) ((oC s).size+1) 0 (S0 d f l 0) []
def LN (d f l:Nat) (s:fN) (av:gh) (b:Nat):nc (rI s l av b) (pA KV) 8 (iW s) ((oC s).size+1) 0 (S0 d f l 0) []=As d f l s:=
 LF (rI s l .nilFunc 0) av (.map (some b)) 8 (pA KV) 8 (iW s) _ _ _ _
def DA (s:fN):(oC s).size<=s.size:=by rw[uk];exact Hj s s.size
theorem xk:∀x t,pA KV x=some t->t.size<=16:=by
 intro x t e;unfold pA at e;obtain⟨p,g,rfl⟩:=Option.map_eq_some_iff.1 e;have:=List.all_eq_true.1 OO p (List.mem_of_find?_eq_some g)
 grind
theorem EW (d f l:Nat) (s:fN) (p:s.size<=1024) (e:d<=64) (g:f<=32):Rz (rI s l .nilFunc 0) (iW s) 0 (S0 d f l 0) (As d f l s):=by
 have i:=DA s;have j:=YL (d:=d) (f:=f) (l:=l) (a:=0);refine Vq (R:=rI s l .nilFunc 0) xk (by grind[rI]) _ _ _ _ (im _) ?_ (abH e g) ?_ ?_
 .simp[rI]
 .show Kk _+580*((oC s).size+1 - 0) < 990000;omega
 .show 0+((oC s).size+1 - 0) < 4000;omega
def MF (s:fN) (i:gh) (base d f l:Nat) (w:fO) (y:w.ownsRow base 5 1 i s.size (kD s)) (q:s.size<=1024) (j:d<=64) (p:f<=32) (x:l<=16) (v:ya w) (g:K5 w):
  Calls prog 38 #[i,.agg #[fK d,fK f,fK l]] w λe w'=>Iy w e w' (As d f l s):=by
 refine(Yz s i base d f l w y q j p x v g (λu b h=>?_)).mono ?_
 .rw[LN]at h;have:=EW d f l s q j p
  rwa [h]at this
 .rintro e w' ⟨u,b,h⟩
  rwa [LN]at h
def C6 (d f l:Int) (n:Nat) (v:gh) (k:Nat):jB:=#[fK d,fK f,fK l,iQ,.bool true,fK n,.nilIface,v,fW k]
def YI (w:fO) (D:Tn) (L:List Sp) (e:Ending) (w':fO):Prop:=
 ∃v k,e=gO (.tuple #[.agg #[v,fW k],.pointer none])/\jo w' D (.el k)/\w'.ownsRow w.heap.size 53 3 v L.length (j8 L)/\L.length<=1024/\Kept [] w w'
def Np (s:fN) (d f l:Nat) (D:Tn) (L:List Sp):Prop:=∀(g:gh) (e:Nat) (w:fO),w.ownsRow e 5 1 g s.size (kD s)->ya w->K5 w->
  Calls prog 38 #[g,.agg #[fK d,fK f,fK l]] w (YI w D L)
def aeJ (w:fO) (D:Tn) (L:List Sp) (v3 v4:gh) (wc:fO):Prop:=∃e v k,v3=fW e/\v4= .pointer none/\w.heap.size<=e/\wc.heap[e]?=some (fV #[v,fW k] 74)/\jo wc D (.el k)/\wc.ownsRow w.heap.size 53 3 v L.length (j8 L)/\L.length<=1024/\Kept [] w wc
theorem I7 {W p : fO} {L : List Sp} {e : Ending} (h:YI W D L e p) (C:Kept [] w W):∃v k,e=gO (.tuple #[.agg #[v,fW k],.pointer none])/\(∃G n F,v= .slice G n F)/\aeJ w D L (fW p.heap.size) (.pointer none) (p.alloc (fV #[v,fW k] 74))/\
  (∀g,w.heap.size<=g->W.heap[g]?=some (fV #[iQ,.pointer none] 74)->p.heap[g]?=some (fV #[iQ,.pointer none] 74)/\aeJ w D L (fW g) (.pointer none) ((p.setCell ⟨g,0,none⟩ v).setCell ⟨g,1,none⟩ (fW k))):=by
 obtain⟨v,k,rfl,I,A,z,j⟩:=h;have K:w.heap.size<=W.heap.size:=C.size;have i:=jR A K;have E:=(Kept.refl [] p).alloc (fV #[v,fW k] 74);have⟨G,F,hv⟩:=fS A;refine⟨v,k,rfl,⟨_,_,_,hv⟩,⟨_,v,k,rfl,rfl,jC K j.size,fB p _,jo.kept E I,E.ownsRow i (λ_ _=>by simp),z,(C.trans j).trans E⟩,?_⟩;intro g u Q;have x:=j.at Q (by simp);have N:Kept [g] p ((p.setCell ⟨g,0,none⟩ v).setCell ⟨g,1,none⟩ (fW k)):=((Kept.refl _ _).setCell (.inl (by simp)) _).setCell (.inl (by simp)) _;refine⟨x,g,v,k,rfl,rfl,u,fI (fI x 0 _) 1 _,jo.kn (KN.jl N (λq y c t B J=>?_)) I,N.ownsRow i (λq y S=>?_),z,((C.trans j).setCell (.inr u) _).setCell (.inr u) _⟩
 .have e:=List.mem_singleton.1 y;subst e;rw[x]at B;simp at B;rw[<-B.2]at J;revert J;decide
 .have e:=List.mem_singleton.1 S;subst e;rcases i.2 with⟨e2,_⟩|⟨U,H,O,e2,_,B,_⟩
  .rw[e2]at y;cases y
  .rw[e2]at y;have T:=jr y
   grind
def Hn (w:fO) (e d f l:Nat) (s:fN) (D:Tn) (L:List Sp) (w':fO):Prop:=∃v k,w'.heap[e]?=some (fV (C6 d f l s.size v k) 76)/\jo w' D (.el k)/\w'.ownsRow w.heap.size 53 3 v L.length (j8 L)/\L.length<=1024/\Kept [e] w w'
def TB (i d f l:Nat) (tv:gh) (s:fN) (base:Nat) (w:fO) (A:w.heap[i]?=some (fV (tC ((d:Int),(f:Int),(l:Int)) tv) 76)) (Y:w.ownsRow base 5 1 tv s.size (kD s)) {L : List Sp} (hT:ya w) (H:K5 w) (hn:Np s d f l D L):
  Calls prog 28 #[fW i] w λe w'=>e= .returned .nilIface/\Hn w i d f l s D L w':=by
 have⟨ao,cp,htv⟩:=fS Y;subst htv;have a1:=iB A;have c0:w.cell? ⟨i,0,none⟩=some (fK d):=by rw[fw A];rfl
 have c1:w.cell? ⟨i,1,none⟩=some (fK f):=by rw[fw A];rfl
 have c2:w.cell? ⟨i,2,none⟩=some (fK l):=by rw[fw A];rfl
 have c3:w.cell? ⟨i,3,none⟩=some (.slice ao s.size cp):=by rw[fw A];rfl
 have CI:=Az i ((d:Int),(f:Int),(l:Int)) _ w A;have O:=(λW (x:Kept [] w W)=>hn (.slice ao s.size cp) base W (x.ownsRow Y (λ_ _=>by simp)) (hT.fr (bm:=0) (.gv x)) (H.kept x));have HX:=A;have HG:=fB w.drew (fV #[iQ,.pointer none] 74);go_enter func28,ntmps28
 go_wp21
 refine CI.mono ?_;rintro e u ⟨rfl,rfl⟩
 go_wp21
 go_cut [3,4]from 8 to 19 (λv3 v4 wc=>aeJ u D L v3 v4 wc)
 case first=>
  go_region_with (go_at_call 38;first
   |(refine(O _ ((Kept.refl [] u).drew)).mono ?_;intro e N B;obtain⟨v,k,rfl,⟨G,n,F,rfl⟩,S,_⟩:=I7 B ((Kept.refl [] u).drew);have C:=fx S;clear S B)
   |(refine(O _ (((Kept.refl [] u).drew).alloc _)).mono ?_;intro e N B;obtain⟨v,k,rfl,⟨G,n,F,rfl⟩,_,T⟩:=I7 B (((Kept.refl [] u).drew).alloc _);have⟨h3,h4⟩:=T u.heap.size (gr _) HG;have q0:N.cell? ⟨u.heap.size,0,none⟩=some (iQ):=(by rw[fw h3];rfl);have q1:N.cell? ⟨u.heap.size,1,none⟩=some (.pointer none):=(by rw[fw h3];rfl);have z0:=fA h3 0;have z1:=fA h3 1;have C:=fx h4;clear T h3 h4 B))
  all_goals (try (go_wp21))
  all_goals (go_meet;exact C)
 case rest=>
  obtain⟨E,v,k,rfl,rfl,a0,H,y,j,z,x⟩:=hcut;have⟨G,F,hv⟩:=fS j;subst hv;have g:=x.at HX (by simp);have e3:wc.cell? ⟨i,3,none⟩=some (.slice ao s.size cp):=by rw[fw g];rfl
  have e4:wc.cell? ⟨i,4,none⟩=some (.bool false):=by rw[fw g];rfl
  have e5:wc.cell? ⟨i,5,none⟩=some (fK 0):=by rw[fw g];rfl
  have e7:wc.cell? ⟨i,7,none⟩=some (iQ):=by rw[fw g];rfl
  have e8:wc.cell? ⟨i,8,none⟩=some (.pointer none):=by rw[fw g];rfl
  have t0:wc.cell? ⟨E,0,none⟩=some (.slice G L.length F):=by rw[fw H];rfl
  have t1:wc.cell? ⟨E,1,none⟩=some (fW k):=by rw[fw H];rfl
  have f4:=fA g 4;have f5:=fA g 5;have f7:=fA g 7;have f8:=fA g 8;have a2:E≠i:=by omega
  have X:i≠E:=by omega
  have V:=iB g;have Q:=And.intro g (And.intro y (And.intro j (And.intro z x)))
  go_wp21
  go_cut []from 20 to 34 (λwd=>wd.heap[i]?=some (fV #[fK d,fK f,fK l,.slice ao s.size cp,.bool true,fK s.size,.nilIface,.slice G L.length F,fW k] 76)/\Kept [i] wc wd)
  case first=>
   go_region
   all_goals (try (go_wp21))
   all_goals (go_meet;exact⟨fI (fI (fI (fI Q.1 _ _) _ _) _ _) _ _,(((((Kept.refl [i] wc).setCell (.inl (by simp)) _).setCell (.inl (by simp)) _).setCell (.inl (by simp)) _).setCell (.inl (by simp)) _).drew⟩)
  case rest=>
   have⟨hx3,hk3⟩:=hcut;have⟨g,y,j,z,x⟩:=Q;have g3:wc.cell? ⟨i,3,none⟩=some (.slice ao s.size cp):=by rw[fw hx3];rfl
   have g6:wc.cell? ⟨i,6,none⟩=some .nilIface:=by rw[fw hx3];rfl
   have y3:=fA hx3 3;have U:=iB hx3;have K:=hk3.trans ((Kept.refl [i] wc).setCell (p:=⟨i,3,none⟩) (.inl (by simp)) (iQ));have C:Hid (Hn u i d f l s D L (wc.setCell ⟨i,3,none⟩ (iQ))):=fx ⟨_,k,fI hx3 3 _,jo.kn (KN.jl K (λq J c t I Z=>by
     have e:=List.mem_singleton.1 J;subst e;rw[g]at I;simp at I;rw[<-I.2]at Z;revert Z;decide)) y,K.ownsRow j (λq J hm=>by
     have e:=List.mem_singleton.1 hm;subst e;have:=(j.lt _ J).1;omega),z,(x.mono (by simp)).trans K⟩
   go_wp2;go_ret;exact⟨rfl,C⟩
def VS (base:Nat) (v:gh) (L:List Sp) (w:fO) (q:w.ownsRow base 53 3 v L.length (j8 L)) (V:L.length<=4096):
  Calls prog 33 #[v] w λe w'=>∃y,e=gO y/\w'.ownsRow w.heap.size 53 3 y L.length (j8 L)/\Kept [] w w':=by
 have⟨i0,hi,hz0,hz1,hz2⟩:=tL FE;rcases q.2 with⟨rfl,K⟩|⟨g,i,J,rfl,N,Q,_⟩
 .have T:=λw=>Di (P:=prog) w 26 53 none 0 0 0 0 underlying26;have:L=[]:=R3 K;subst this;clear q;go_enter func33,ntmps33;go_wp2;go_ret;exact⟨_,rfl,oD _ _ _ _,Kept.refl _ _⟩
 .have T:=λw=>Di (P:=prog) w 26 53 (some ⟨g,0,none⟩) L.length i 0 0 underlying26;have I:=fx q;have A:=iB Q;have E:(w.alloc (.cells #[] 53)).ownsRow w.heap.size 53 3 (mW w.heap.size 0 0) 0 []:=
   ⟨rfl,.inr ⟨w.heap.size,0,#[],rfl,gr _,fB w _,gr _,im _,rfl,rfl⟩⟩
  clear q;go_enter func33,ntmps33;go_wp2_with (at_builtin;refine gQ _ rfl _ _ 26 rfl w.heap.size 53 i0 (.agg #[fK 0,fK 0,fK 0]) 3 24 underlying26 hi hz0 hz1 hz2 rfl (by decide) _ _ _ rfl E ⟨g,0,none⟩ L.length i (j8 L) rfl ?c1 ?c2 ?c3 ?c4 ?c5 ?c6 ?_)
  case c1=>exact rQ L
  case c2=>
   intro j u S;have:=I.cells (g:=g) rfl j u S;rw[iT]at this|-;rw[<-this];exact pR _ _ _ A
  case c3=>
   intro u C;unfold j8 at C;simp at C;obtain⟨p,_,h|h|h⟩:=C<;>(subst h;rfl)
  case c4=>omega
  case c5=>omega
  case c6=>simp
  intro y F B z O;have G:F.ownsRow w.heap.size 53 3 y L.length (j8 L):=by simpa using B
  have H:Hid (Kept [] w F):=((Kept.refl [] w).alloc _).grown z (λx U=> .inr (E.lt x U).1);go_wp2;go_ret;exact⟨_,rfl,G,H⟩
def Si (g:Nat) (d f l:Int) (n k:Nat) (v:gh) (w:fO) (i:w.heap[g]?=some (fV (C6 d f l n v k) 76)):
  Calls prog 29 #[fW g] w λe w'=>e=gO (.tuple #[fK n,.nilIface])/\Kept [] w w':=by
 have p:w.cell? ⟨g,4,none⟩=some (.bool true):=by rw[fw i];rfl
 have q:w.cell? ⟨g,5,none⟩=some (fK n):=by rw[fw i];rfl
 have u:w.cell? ⟨g,6,none⟩=some .nilIface:=by rw[fw i];rfl
 have j:=iB i;go_enter func29,ntmps29
 go_wp21
 go_region
 all_goals (try go_wp2)
 all_goals (try go_ret2)
 all_goals exact⟨rfl,(Kept.refl [] w).drew⟩
def Q4 (i:Nat) (d f l:Int) (n k:Nat) (v:gh) (w:fO) (q:w.heap[i]?=some (fV (C6 d f l n v k) 76)):
  Calls prog 17 #[fW i] w λe w'=>e=gO (.tuple #[fK n,fK 0,fK 0])/\Kept [] w w':=by
 have C:=Si i d f l n k v w q;go_enter func17,ntmps17
 go_wp21
 refine C.mono ?_;rintro e u ⟨rfl,j⟩
 go_wp21
 refine(DX u).mono ?_;rintro e x ⟨rfl,p⟩;have g:=j.trans p;go_wp2;go_ret3;exact⟨rfl,g⟩
def aa1 (g d f l:Nat) (j:gh) (s:fN) (base:Nat) (w:fO) (A:w.heap[g]?=some (fV (tC ((d:Int),(f:Int),(l:Int)) j) 76)) (z:w.ownsRow base 5 1 j s.size (kD s)) {L : List Sp} (u:ya w) (x:K5 w) (y:Np s d f l D L):
  Calls prog 16 #[fW g] w λe w'=>e=gO (.tuple #[fK 0,fK 0])/\Hn w g d f l s D L w':=by
 have C:=TB g d f l j s base w A z u x y;go_enter func16,ntmps16
 go_wp21
 refine C.mono ?_;rintro e B ⟨rfl,p⟩
 go_wp21
 refine(DX B).mono ?_;rintro e E ⟨rfl,i⟩;have q:Hid (Hn w g d f l s D L E):=by
  have⟨v,k,h1,h2,h3,h4,h5⟩:=p;exact fx ⟨v,k,i.at h1 (by simp),jo.kept i h2,i.ownsRow h3 (λ_ _=>by simp),h4,h5.trans (i.mono (by simp))⟩
 go_wp2;go_ret2;exact⟨rfl,q⟩
theorem adD (g:Nat) (d f l:Int) (n k base:Nat) (v:gh) (L:List Sp) (w:fO) (p:w.heap[g]?=some (fV (C6 d f l n v k) 76)) (j:w.ownsRow base 53 3 v L.length (j8 L)) (q:L.length<=4096):
  Calls prog 20 #[fW g] w λe w'=>∃i,e=gO i/\w'.ownsRow w.heap.size 53 3 i L.length (j8 L)/\Kept [] w w':=by
 have z:w.cell? ⟨g,7,none⟩=some v:=by rw[fw p];rfl
 have C:=VS base v L w j q;have⟨ao,cp,hv⟩:=fS j;subst hv;have u:=iB p;go_enter func20,ntmps20
 go_wp21
 refine C.mono ?_;rintro e w' ⟨i,rfl,x,y⟩;go_wp2;go_ret
 simp_all
def LW (v:gh) (w:fO):(ReflectliteType.typeOf #[.iface 78 v]).run prog w= .ok (.iface 145 (.agg #[jp 7 78])) w:=rfl
def Kt (w:fO):(ReflectliteType.relation "AssignableTo" ReflectliteType.assignableTo #[.agg #[jp 7 78],.iface 145 (.agg #[jp 7 78])]).run prog w= .ok (.bool true) w:=by kernel_rfl
def EX (w:fO):(ReflectliteType.relation "AssignableTo" ReflectliteType.assignableTo #[.agg #[jp 7 78],.iface 145 (.agg #[jp 7 24])]).run prog w= .ok (.bool false) w:=by kernel_rfl
def Td (p:Addr) (w:fO):(ReflectliteValue.unpack (.iface 78 (.pointer (some p)))).run prog w
  = .ok (.agg #[jp 7 78,fW w.heap.size,.int .u64 150]) (w.alloc (.cells #[.pointer (some p)] 78)):=by kernel_rfl
def Vr (w:fO):(Rtype.elem? 80).run prog w= .ok (some 78) w:=by kernel_rfl
def afD (p:Addr) (w:fO):(ReflectliteValue.mk 78 p ReflectliteValue.flagAddr).run prog w= .ok (.agg #[jp 7 78,.pointer (some p),.int .u64 406]) w:=by kernel_rfl
def XN (a p:Addr) (W:fO) (e:W.cell? a=some (.pointer (some p))):
  (ReflectliteValue.method (ReflectliteValue.valueError "reflectlite.Value.Elem" 0) ReflectliteValue.elem #[.agg #[jp 7 80,.pointer (some a),.int .u64 150]]).run prog W
   = .ok (.agg #[jp 7 78,.pointer (some p),.int .u64 406]) W:=by
 rw[dr];simp only[QX,MH,Result.andThen];simp[ReflectliteValue.elem,loadVar,isAgg,underlying,underlying80,e,Result.andThen,Vr,afD]
def Wv (a:Addr) (w:fO):(ReflectliteValue.parts (.agg #[jp 7 78,.pointer (some a),.int .u64 406])).run prog w= .ok (some (78,a,406)) w:=rfl
def Z2 (a:Addr) (w:fO):(ReflectliteValue.parts (.agg #[jp 7 78,.pointer (some a),.int .u64 150])).run prog w= .ok (some (78,a,150)) w:=rfl
def Wb (w:fO):(Rtype.directlyAssignable 78 78).run prog w= .ok true w:=by rfl
theorem adZ (e b p:Addr) (g:gh) (W:fO) (i:W.cell? b=some (.pointer (some p))) (q:W.cell? e=some g) (j:W.frozen? e=false):
  (ReflectliteValue.set #[.agg #[jp 7 78,.pointer (some e),.int .u64 406],.agg #[jp 7 78,.pointer (some b),.int .u64 150]]).run prog W
   = .ok (.tuple #[]) (W.setCell e (.pointer (some p))):=by
 rw[dS];simp only[QX,Wv,Z2,Result.andThen];simp[ReflectliteValue.flagAddr,loadVar,isAgg,underlying,underlying78,i,Result.andThen,Wb,storeVar,Value.cells,storeCells,Addr.add];rw[run_store prog W e _ _ rfl]
 grind
def abb (v:gh) (e:TypeId) (w:fO):(Instr.typeAssert (.iface 78 v) e 149 true).run prog w= .ok (.tuple #[.nilIface,.bool false]) w:=run_typeAssert_lacksB underlying149 (by kernel_rfl) (by kernel_rfl) v e w
def acD (v:gh) (e:TypeId) (w:fO):(Instr.typeAssert (.iface 78 v) e 156 true).run prog w= .ok (.tuple #[.nilIface,.bool false]) w:=run_typeAssert_lacksB underlying156 (by kernel_rfl) (by kernel_rfl) v e w
def Ep (v:gh) (e:TypeId) (w:fO):(Instr.typeAssert (.iface 78 v) e 152 true).run prog w= .ok (.tuple #[.iface 78 v,.bool true]) w:=run_typeAssert_hasB underlying152 (by kernel_rfl) v e w
def zS (v:gh) (w:fO):(Go.method 500 78 v "Unwrap").run prog w= .ok (415,v) w:=by kernel_rfl
def FV (p n:Nat) (g:Int) (k:Int) (w:fO) (j:w.heap[p]?=some (fV #[fK k,fK g] 83)) (i:n=0):
  Calls prog 415 #[jp p n] w λe w'=>e=gO (.iface 24 (fK k))/\w'=w:=by
 subst i;have q:w.cell? ⟨p,0,none⟩=some (fK k):=by simp[World.cell?,j]
 go_enter func415,ntmps415;go_wp2;go_ret;simp
def Qi (p t:Addr) (j:gh) (w:fO) (v:w.cell? ⟨0,0,none⟩=some (.iface 145 (.agg #[jp 7 59]))) (g:w.cell? t=some j) (q:w.frozen? t=false):
  Calls prog 34 #[.iface 78 (.pointer (some p)),.iface 80 (.pointer (some t))] w λz w'=>z=gO (.bool true)/\w'=((((w.alloc (.cells #[.pointer (some t)] 80)).alloc (.cells (rv 80 w.heap.size) 105)).alloc (.cells (rv 80 w.heap.size) 105)).alloc (.cells #[.pointer (some p)] 78)).setCell t (.pointer (some p)):=by
 have V:=@run_callFunc_extern prog 44 _ (λe=>ReflectliteValue.unpack (e.getD 0 (.tuple #[]))) func44 (by rfl) (by rfl) rfl rfl;have W:=@run_callFunc_extern prog 45 _ (ReflectliteValue.methodAny (ReflectliteValue.valueError "reflectlite.Value.Type" 0) (λt _ _ _=>ReflectliteType.toType t)) func45 (by rfl) (by rfl) rfl rfl;have X:=@run_callFunc_extern prog 46 _ (ReflectliteValue.method (ReflectliteValue.valueError "reflectlite.Value.IsNil" 0) ReflectliteValue.isNil) func46 (by rfl) (by rfl) rfl rfl;have F:=@run_callFunc_extern prog 407 _ (ReflectliteType.abiMethod λt=>do pure (.int .u8 (<-Rtype.kind t))) func407 (by rfl) (by rfl) rfl rfl;have H:=@run_callFunc_extern prog 428 _ (ReflectliteType.method ReflectliteType.elem) func428 (by rfl) (by rfl) rfl rfl;have I:=@run_callFunc_extern prog 429 _ (ReflectliteType.relation "Implements" ReflectliteType.implements_) func429 (by rfl) (by rfl) rfl rfl;have B:=@run_callFunc_extern prog 48 _ ReflectliteType.typeOf func48 (by rfl) (by rfl) rfl rfl;have G:=@run_callFunc_extern prog 426 _ (ReflectliteType.relation "AssignableTo" ReflectliteType.assignableTo) func426 (by rfl) (by rfl) rfl rfl;have C:=@run_callFunc_extern prog 64 _ (ReflectliteValue.method (ReflectliteValue.valueError "reflectlite.Value.Elem" 0) ReflectliteValue.elem) func64 (by rfl) (by rfl) rfl rfl;have E:=@run_callFunc_extern prog 65 _ ReflectliteValue.set func65 (by rfl) (by rfl) rfl rfl;have tO:=LW;have Y:=Cb;have x:=Kt;have Q:=Td;have T:=Tc;have U:=abe;have Z:=T9;have mE:=UB;have mI:=BM;have O:=XO;have N:=acy;have y:=acl;have K:=KL;have n8:=aal ⟨w.heap.size,0,none⟩ t ((w.alloc (.cells #[.pointer (some t)] 80)).alloc (.cells (rv 80 w.heap.size) 105)) (by simp);have u:0 < w.heap.size:=by
  rcases EN w.heap.size with A|h
  .simp[World.cell?,A]at v
  .exact h
 have J:((w.alloc (.cells #[.pointer (some t)] 80)).alloc (.cells (rv 80 w.heap.size) 105)).cell? ⟨0,0,none⟩=some (.iface 145 (.agg #[jp 7 59])):=by
  rw[pR _ _ ⟨0,0,none⟩ (by simp),pR _ _ ⟨0,0,none⟩ u];exact v
 have i:t.block < w.heap.size:=by
  rcases mq t.block w.heap.size with h|h
  .exact h
  .simp[World.cell?,LO h]at g
 have S:=XN ⟨w.heap.size,0,none⟩ t (((w.alloc (.cells #[.pointer (some t)] 80)).alloc (.cells (rv 80 w.heap.size) 105)).alloc (.cells (rv 80 w.heap.size) 105)) (by rw[pR _ _ ⟨w.heap.size,0,none⟩ (by simp;omega)];simp);have st:=adZ t ⟨w.heap.size+1+1+1,0,none⟩ p j ((((w.alloc (.cells #[.pointer (some t)] 80)).alloc (.cells (rv 80 w.heap.size) 105)).alloc (.cells (rv 80 w.heap.size) 105)).alloc (.cells #[.pointer (some p)] 78))
  (by rw[World.cell?_alloc_at _ _ _ _ (by simp)];rfl)
  (by rw[pR _ _ t (by simp;omega),pR _ _ t (by simp;omega),pR _ _ t (by simp;omega),pR _ _ t i];exact g)
  (by rw[zh _ _ t (by simp;omega),zh _ _ t (by simp;omega),zh _ _ t (by simp;omega),zh _ _ t (Nat.ne_of_lt i)];exact q)
 go_enter func34,ntmps34;go_wp2;refine vB 1 ?_;rw[oj];go_wp2;go_ret;exact⟨rfl,rfl⟩
theorem Ks (p:Nat) (g k:Int) (t:Addr) (u:gh) (w:fO) (A:w.heap[p]?=some (fV #[fK k,fK g] 83)) (S:w.cell? ⟨0,0,none⟩=some (.iface 145 (.agg #[jp 7 59]))) (j:w.cell? t=some u) (v:w.frozen? t=false):
  Calls prog 34 #[.iface 78 (fW p),.iface 85 (.pointer (some t))] w λG w'=>G=gO (.bool true)/\w'=((((w.alloc (.cells #[.pointer (some t)] 85)).alloc (.cells (rv 85 w.heap.size) 105)).alloc (.cells (rv 85 w.heap.size) 105)).alloc (.cells #[fK k] 24)).setCell t (fK k):=by
 have h6:=@run_callFunc_extern prog 44 _ (λi=>ReflectliteValue.unpack (i.getD 0 (.tuple #[]))) func44 (by rfl) (by rfl) rfl rfl;have h7:=@run_callFunc_extern prog 45 _ (ReflectliteValue.methodAny (ReflectliteValue.valueError "reflectlite.Value.Type" 0) (λt _ _ _=>ReflectliteType.toType t)) func45 (by rfl) (by rfl) rfl rfl;have h8:=@run_callFunc_extern prog 46 _ (ReflectliteValue.method (ReflectliteValue.valueError "reflectlite.Value.IsNil" 0) ReflectliteValue.isNil) func46 (by rfl) (by rfl) rfl rfl;have K:=@run_callFunc_extern prog 407 _ (ReflectliteType.abiMethod λt=>do pure (.int .u8 (<-Rtype.kind t))) func407 (by rfl) (by rfl) rfl rfl;have O:=@run_callFunc_extern prog 428 _ (ReflectliteType.method ReflectliteType.elem) func428 (by rfl) (by rfl) rfl rfl;have Q:=@run_callFunc_extern prog 429 _ (ReflectliteType.relation "Implements" ReflectliteType.implements_) func429 (by rfl) (by rfl) rfl rfl;have H:=@run_callFunc_extern prog 48 _ ReflectliteType.typeOf func48 (by rfl) (by rfl) rfl rfl;have N:=@run_callFunc_extern prog 426 _ (ReflectliteType.relation "AssignableTo" ReflectliteType.assignableTo) func426 (by rfl) (by rfl) rfl rfl;have I:=@run_callFunc_extern prog 64 _ (ReflectliteValue.method (ReflectliteValue.valueError "reflectlite.Value.Elem" 0) ReflectliteValue.elem) func64 (by rfl) (by rfl) rfl rfl;have J:=@run_callFunc_extern prog 65 _ ReflectliteValue.set func65 (by rfl) (by rfl) rfl rfl;have tO:=LW;have X:=LG;have mA:=Cb;have C:=EX;have E:=KM;have Y:=QP;have f6:=Tt;have f7:=aco;have mK:=T9;have mE:=UB;have mI:=BM;have W:=ZG;have V:=acN;have F:=aaZ;have U:=Ll;have x1:=abb;have x2:=Ep;have x3:=zS;have n8:=aah ⟨w.heap.size,0,none⟩ t ((w.alloc (.cells #[.pointer (some t)] 85)).alloc (.cells (rv 85 w.heap.size) 105)) (by simp);have x:0 < w.heap.size:=by
  rcases EN w.heap.size with h0|h
  .grind
  .exact h
 have T:((w.alloc (.cells #[.pointer (some t)] 85)).alloc (.cells (rv 85 w.heap.size) 105)).cell? ⟨0,0,none⟩=some (.iface 145 (.agg #[jp 7 59])):=by
  rw[pR _ _ ⟨0,0,none⟩ (by simp),pR _ _ ⟨0,0,none⟩ x];exact S
 have q:t.block < w.heap.size:=by
  rcases mq t.block w.heap.size with h|h
  .exact h
  .simp[World.cell?,LO h]at j
 have y:=iB A;have B:Hid ((((w.alloc (.cells #[.pointer (some t)] 85)).alloc (.cells (rv 85 w.heap.size) 105)).alloc (.cells (rv 85 w.heap.size) 105)).heap[p]?=some (fV #[fK k,fK g] 83)):=by
  show _=_;rw[Below.heap_alloc _ _ _ (by simp;omega),Below.heap_alloc _ _ _ (by simp;omega),Below.heap_alloc _ _ _ y];exact A
 have Z:=Yk ⟨w.heap.size,0,none⟩ t (((w.alloc (.cells #[.pointer (some t)] 85)).alloc (.cells (rv 85 w.heap.size) 105)).alloc (.cells (rv 85 w.heap.size) 105)) (by rw[pR _ _ ⟨w.heap.size,0,none⟩ (by simp;omega)];simp);have st:=adI t ⟨w.heap.size+1+1+1,0,none⟩ k u ((((w.alloc (.cells #[.pointer (some t)] 85)).alloc (.cells (rv 85 w.heap.size) 105)).alloc (.cells (rv 85 w.heap.size) 105)).alloc (.cells #[fK k] 24))
  (by rw[World.cell?_alloc_at _ _ _ _ (by simp)];rfl)
  (by rw[pR _ _ t (by simp;omega),pR _ _ t (by simp;omega),pR _ _ t (by simp;omega),pR _ _ t q];exact j)
  (by rw[zh _ _ t (by simp;omega),zh _ _ t (by simp;omega),zh _ _ t (by simp;omega),zh _ _ t (Nat.ne_of_lt q)];exact v)
 go_enter func34,ntmps34;go_wp2;refine vB 2 ?_;rw[oj];go_wp2_with (go_at_call 415;refine(FV p 0 g k _ B rfl).mono ?_;rintro e w' ⟨rfl,z⟩;subst z);rw[oj];go_wp2;go_ret;exact⟨rfl,rfl⟩
def ab7 (p:Nat) (g k:Int) (w:fO) (x:w.heap[p]?=some (fV #[fK k,fK g] 83)):
  Calls prog 35 #[.iface 78 (fW p),.iface 24 (fK k)] w λe w'=>e=gO (.bool true)/\w'=w:=by
 have⟨i,hi,hcmp⟩:=Option.map_eq_some_iff.1 abw;have A:=@run_callFunc_extern prog 48 _ Extern.ReflectliteType.typeOf func48 (by rfl) (by rfl) rfl rfl;have u:=@run_callFunc_extern prog 427 _ PZ func427 (by rfl) (by rfl) rfl rfl;have C:=LG;have z:=GN;have B:=Ko;have E:=acD;have F:=Ep;have G:=zS;have v:∀w:fO,(binOp .eql 59 (.iface 24 (fK k)) (.iface 24 (fK k))).run prog w= .ok (.bool true) w:=λw=>by
  rw[DC w k k underlying59 underlying24 hi hcmp];simp
 have y:=λw=>run_eql_iface_types (P:=prog) 78 24 (fW p) (fK k) underlying59 (by decide) w;have q:Hid (w.heap[p]?=some (fV #[fK k,fK g] 83)):=x;go_enter func35,ntmps35;go_wp2;refine vB 2 ?_;rw[oj];go_wp2_with (go_at_call 415;refine(FV p 0 g k _ q rfl).mono ?_;rintro e w' ⟨rfl,j⟩;subst j);rw[oj];go_wp2;go_ret;exact⟨rfl,rfl⟩
end
end Go.Proofs.YtlhhgenpcjjajaaGreatDoor
