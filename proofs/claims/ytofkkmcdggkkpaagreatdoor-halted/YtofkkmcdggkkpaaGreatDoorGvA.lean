import Derived.Test.YtofkkmcdggkkpaaGreatDoorAtA
import Derived.Stop.Asserts
import Derived.RowKitTokens
import Derived.Defers
import Derived.Recover
import Derived.Laws.Pointers
import Derived.Outline
import Derived.Handy
import Derived.PlainAid
import Derived.Lib.IndexAny
import Derived.BigRegion
set_option linter.unusedSimpArgs false
set_option linter.unusedVariables false
set_option linter.defProp false
set_option maxHeartbeats 0
set_option maxRecDepth 100000
namespace Go.Proofs.YtofkkmcdggkkpaaGreatDoor
open Go.RowKit Go.Extern.Stop Go.Stop Go.Extern Go.PlainAid Tryz
def vm:=@World.frozen?_alloc_old
def tl:=@cell_of_one
def qG:=@wpAny_ready
def oT:=@AllReady.cons
def qH:=@AllReady.nil
def OE:=@run_convert_bytes_back
def xL:=@Calls.quiet_of
def xM:=@dif_pos
def xN:=@Nat.le_add_right
section
variable {P : pG Unit->Prop} {S : List Nat} {T : TypeId} {W w w' wr : gv} {a b c g i k m n r sz : Nat} {lk : Bool} {nm p s : gy} {o : Ru} {q : Int->Bool} {sp : my} {t : gM} {v v' : gO} {σ : Ab}
attribute [local go_sem] Oper.semAt_some
section
variable (E:Env) (t:gM) (hG:∀i,ja E 259 (λf=>#[Bp E,nV f i,iF E t]) (wj i t) uV)
include hG
theorem SA:ja E 172 (λ_=>#[Bp E,iF E t]) (oG t) uV:=by
 intro f σ w h HS;obtain⟨R,l⟩:∃R,R=oG t σ:=⟨_,rfl⟩;rw[<-l]at HS|-;obtain⟨i,hi⟩:∃i,iB σ.gz 0=some i:=by
  cases hq:iB σ.gz 0 with
  |some i=>simp
  |none=>unfold oG at l;grind
 have d:R=(wj i t>>=λ_=>(Pure.pure ():M Unit)) σ:=by rw[l];unfold oG;rw[hi]
 have u:=h.atO 0;rw[hi]at u;have H:=At.start h;have j:=fU d;have hl:=h.lt;have z:=hG;clear h l d hi hG;go_enter func172,ntmps172
 go_wp21
 refine u.mono ?_;rintro e C ⟨rfl,y⟩;have x:=y.symm;subst x;clear u
 go_wp21
 refine dC (z i) H j HS rfl lT ?_;clear H j;rintro(_) f σ w H B A j;go_wp2;go_end0;exact gu j H rfl
def Sz:ja E 173 (λ_=>#[Bp E,iF E t]) (qm t) uV:=by
 intro f σ w h B;obtain⟨R,z⟩:∃R,R=qm t σ:=⟨_,rfl⟩;rw[<-z]at B|-;have x:=h.atO 1;have H:=At.start h;have HS:=B;have hl:=h.lt;have C:=hG;cases hi:iB σ.gz 1 with
 |none=>
  have d:R= .ok () σ:=by rw[z];unfold qm;rw[hi]
  rw[hi]at x;have y:=fU d;clear h B z d hi hG C;go_enter func173,ntmps173
  go_wp21
  refine x.mono ?_;rintro e J ⟨rfl,l⟩;have j:=l.symm;subst j;clear x;go_wp2;go_end0;exact gu y H rfl
 |some i=>
  obtain⟨U,u⟩:∃e,σ.hU i=some e:=Option.isSome_iff_exists.1 (h.wf.gz _ (A4 hi));have O:w.cell? ⟨f i,0,none⟩=some (gH (σ.nm i)):=by
   obtain⟨L,rfl,G⟩:=h;exact G.vi u
  have I:f i < w.heap.size:=by
   obtain⟨L,rfl,G⟩:=h;exact G.Hw (Ab.ik u)
  have A:=Y7 f i w;rw[hi]at x;cases hq:kC (σ.nm i) gA with
  |true=>
   have d:R=(wj i t>>=λ_=>(Pure.pure ():M Unit)) σ:=by rw[z];unfold qm;rw[hi];dsimp only;rw[hq];rfl
   have y:=fU d;have F:((σ.nm i).toList==[98,111,100,121])=true:=by
    have D:(gA:gy).toList=[98,111,100,121]:=by first|rfl|decide|simp
    rw[<-D];exact hq
   clear h B z d hi hG hq u;unfold nV at A;go_enter func173,ntmps173
   go_wp21
   refine x.mono ?_;rintro e J ⟨rfl,l⟩;have j:=l.symm;subst j;clear x;rw[show oV f (some i)=gJ (f i)from rfl]
   go_wp21
   refine dC (C i) H y HS rfl lT ?_;clear H y;rintro(_) f σ w H N K y;go_wp2;go_end0;exact gu y H rfl
  |false=>
   have d:R= .ok () σ:=by rw[z];unfold qm;rw[hi];dsimp only;rw[hq];rfl
   have y:=fU d;have F:((σ.nm i).toList==[98,111,100,121])=false:=by
    have D:(gA:gy).toList=[98,111,100,121]:=by first|rfl|decide|simp
    rw[<-D];exact hq
   clear h B z d hi hG hq u C;unfold nV at A;go_enter func173,ntmps173
   go_wp21
   refine x.mono ?_;rintro e J ⟨rfl,l⟩;have j:=l.symm;subst j;clear x;rw[show oV f (some i)=gJ (f i)from rfl];go_wp2;go_end0;exact gu y H rfl
end
def acD (L M:lh):flat (L++M)=flat L++flat M:=List.flatMap_append ..
structure aet (w:gv) (v:gO) (gL:lh) (v':gO) (w':gv):Prop where
 row:yF w' v' gL
 kp:Kept v.ownBlock.toList w w'
 new:v'.ownBlock=v.ownBlock\/∀k,v'.ownBlock=some k->w.heap.size<=k
theorem Rel.aeM {E : Env} {L : Loc} {w1 : gv} (h:Rel E L σ w) {e : zu} (hi:σ.hU i=some e) (hg:nk e.name=true) (hf:σ.fresh=true) (a:gy×gy) (a5:e.gU.length < 4096) (N:aet w (L.av i) (e.gU++[a]) v' w1):
  Rel E {L with av:=λx=>if x=i then v' else L.av x} (σ.ib i {e with gU:=e.gU++[a]}) (w1.setCell ⟨L.gP i,1,none⟩ v')/\Fr E.bs w (w1.setCell ⟨L.gP i,1,none⟩ v'):=by
 have F:=Ab.ik hi;have a2:(σ.hU i).isSome=true:=by rw[hi];rfl
 have⟨hEl,hAt,hAl⟩:=h.sN i _ (Ab.jo hi);have J:∀g,(L.av i).ownBlock=some g->∃c m,w.heap[g]?=some (.cells c 275 m):=λg hg=>rY hAt hg;have Y:L.gP i∉(L.av i).ownBlock.toList:=by
  intro A;have a3:(L.av i).ownBlock=some (L.gP i):=by simpa using A
  exact Cv hAt hEl.ir (by decide) a3
 have b1:=N.kp.at hEl.ir Y;obtain⟨w',I⟩:∃w',w'=w1.setCell ⟨L.gP i,1,none⟩ v':=⟨_,rfl⟩;rw[<-I];have b2:w'.heap[L.gP i]?=some (gI #[gH e.name,v',kh (iD L.gP e.je),L.kv i] 142):=by rw[I];exact gg b1 1 v'
 have H:Kept (L.gP i::(L.av i).ownBlock.toList) w w':=by rw[I];exact(N.kp.mono (λk H _=>oW _ H)).setCell (.inl (by simp)) _
 have r2:yF w' v' (e.gU++[a]):=by rw[I];exact yB (a:=⟨L.gP i,1,none⟩) N.row (Cv N.row b1 (by decide)) v'
 have K:KT E.bs [142,275] w w':= .jU H (λk H _=>by
  rcases List.mem_cons.1 H with rfl|H
  .exact⟨⟨_,_,_,hEl.ir,by simp⟩,h.bN i F⟩
  .have X:(L.av i).ownBlock=some k:=by simpa using H
   have⟨c,m,B⟩:=J k X;exact⟨⟨_,_,_,B,by simp⟩,h.ab i k F X⟩)
 have z:(σ.ib i {e with gU:=e.gU++[a]}).nodes.length=σ.nodes.length:=Ab.nE _ _ _;have V:∀j,((σ.ib i {e with gU:=e.gU++[a]}).hU j=none↔σ.hU j=none):=by
  intro j
  by_cases u:j=i
  .subst u;rw[Ab.iW F,hi];simp
  .rw[Ab.iS u]
 have Z:∀j g,j < σ.nodes.length->j≠i->v'.ownBlock=some g->(L.av j).ownBlock≠some g:=by
  intro j g u l d D;rcases N.new with e1|e1
  .rw[e1]at d;exact h.uq i j e g hi hg u (xu l) d D
  .have:=e1 g d;have⟨c,m,B⟩:=h.M1 u D
   grind
 have⟨C,hbl,hC⟩:=h.ir;refine⟨?_,K.fr (by decide)⟩;exact
  {fr:=h.fr.trans (K.fr (by decide))
   env:=h.env
   DU:=h.DU
   sN:=by
    intro j nd u;rcases Ab.nZ u with⟨rfl,rfl⟩|⟨l,u⟩
    .refine⟨⟨?_,?_,hEl.le,?_⟩,?_,?_⟩
     .grind
     .exact K.row hEl.row (by decide)
     .simp only[xK];have⟨ao,cp,hv⟩:=gG r2
      grind
     all_goals grind
    .have G:=(List.getElem?_eq_some_iff.1 u).1;have hN:kX E.bs L w' j nd:=by
      refine(h.sN j nd u).kept H ?_ ?_ ?_
      .intro A;rcases List.mem_cons.1 A with e1|A
       .exact l (h.inj _ _ e1)
       .obtain⟨c,m,B⟩:=J _ (by simpa using A);obtain⟨c',t,D,_,h3⟩:=h.M0 G
        grind
      .intro g d A;have⟨c,m,B⟩:=h.yW G d;rcases List.mem_cons.1 A with e1|A
       .rw[e1]at B;exact absurd (Kd hEl.ir B) (by decide)
       grind
      .intro g d A;rcases List.mem_cons.1 A with e1|A
       .have⟨c,m,B⟩:=h.M1 G d;rw[e1]at B;exact absurd (Kd hEl.ir B) (by decide)
       .exact h.uq i j e g hi hg G (xu l) (by grind) d
     cases nd with
     |el e'=>grind[kX]
     |tx s=>exact hN
     |cm s=>exact hN
     |dt s=>exact hN
   inj:=h.inj
   A8:=by rw[z];exact h.A8
   Ga:=λj u hn=>h.Ga j (by omega) ((V j).1 hn)
   uq:=by
    intro x y ex g hx a1 hy a4 h1;rw[z]at hy
    by_cases U:x=i
    .grind
    .simp only[gQ U]at h1;rw[Ab.iS U]at hx
     by_cases a0:y=i
     .subst a0;simp only[xK];exact λD=>Z x g (Ab.ik hx) U D h1
     .simp only[gQ a0];exact h.uq x y ex g hx a1 hy a4 h1
   Eu:=by
    intro j u hn;have O:=(V j).1 hn;have l:j≠i:=by rintro rfl;rw[hi]at O;cases O
    simp only[gQ l];exact h.Eu j (by omega) O
   wf:=h.wf.ib a2 (h.wf.je i e hi) (h.wf.kids i e hi)
   ir:=⟨C,K.at hbl (by decide),⟨hC.size,hC.low,hC.gz,hC.act,hC.head,hC.form,hC.mode,hC.kept,hC.wait,hC.IL,hC.jN,hC.gP,hC.behind⟩⟩
   o0:=K.row h.o0 (by decide)
   pX:=K.row h.pX (by decide)
   Gd:=h.Gd,wV:=h.wV,Ey:=h.Ey
   oS:=K.row h.oS (by decide)
   LB:=h.LB
   rd:=K.at h.rd (by decide)
   QS:=h.QS
   tok:=H.ownsRow h.tok (λg d A=>by
    rcases List.mem_cons.1 A with e1|A
    .have⟨c,m,B⟩:=rY h.tok d;rw[e1]at B;exact absurd (Kd hEl.ir B) (by decide)
    .exact h.De hf i g F d (by grind))
   Ly:=h.Ly,bz:=h.bz,bB:=h.bB,bR:=h.bR
   bN:=by rw[z];exact h.bN
   De:=by
    intro _ j g u d;rw[z]at u
    by_cases l:j=i
    .subst l;simp only[xK];intro D;rcases N.new with e1|e1
     .rw[e1]at D;exact h.De hf j g u d D
     .have:=e1 g D;have⟨c,m,B⟩:=rY h.tok d
      grind
    .simp only[gQ l];exact h.De hf j g u d
   ab:=by
    intro j g u d;rw[z]at u
    by_cases l:j=i
    .subst l;simp only[xK]at d;rcases N.new with e1|e1
     .rw[e1]at d;exact h.ab j g u d
     .exact jP h.bw (e1 g d)
    .simp only[gQ l]at d;exact h.ab j g u d
   tb:=h.tb
   LA:=h.LA}
attribute [local go_sem] Oper.semAt_some
def YK:(prog.info? 275).map (λi=>(i.zero,i.size,i.bytes))=some (some (.agg #[gH kI,gH kI]),2,32):=by kernel_rfl
def IQ (i:Nat) (a:gy×gy) (r:lh) (σ:Ab):qo i (a::r) σ=(match σ.hU i with
  |none=> .stuck
  |some e=>if yU e.gU a.1 then qo i r σ else if σ.oZ<=e.gU.length then .stop 7 σ.gP else qo i r (σ.ib i {e with gU:=e.gU++[a]})):=rfl
def aca (E:Env) (t:gM) (u:jd E t) {f : Nat->Nat} (h:RF E f σ w):∃x y nm d j,zl E t=#[.int .i64 x,.int .i64 y,.string nm,.slice d t.js.length j]/\t.js.length<=4096/\∀f σ w,RF E f σ w->yF w (.slice d t.js.length j) t.js:=by
 have⟨L,e,hr⟩:=h;have⟨d,j,htv⟩:=gG hr.tok;have l:=hr.Ly;have⟨a,b,k,gL⟩:=t;cases k with
 |start n=>
  have e:gL=E.ta:=u rfl;subst e;exact⟨a,b,n,d,j,by simp only[zl,gM.js];rw[htv],l,λf σ w ⟨L,_,h⟩=>by show yF w (.slice d E.ta.length j) E.ta;rw[<-htv];exact h.tok⟩
 |stop n=>
  have e:gL=E.ta:=u rfl;subst e;exact⟨a,b,n,d,j,by simp only[zl,gM.js];rw[htv],l,λf σ w ⟨L,_,h⟩=>by show yF w (.slice d E.ta.length j) E.ta;rw[<-htv];exact h.tok⟩
 |ke s=>exact⟨0,0,_,none,0,rfl,iO _,λ_ _ _ _=>oX _ _ _ _⟩
 |gR s=>exact⟨0,0,_,none,0,rfl,iO _,λ_ _ _ _=>oX _ _ _ _⟩
 |iM n q=>exact⟨0,0,_,none,0,rfl,iO _,λ_ _ _ _=>oX _ _ _ _⟩
 |lost=>exact⟨0,0,_,none,0,rfl,iO _,λ_ _ _ _=>oX _ _ _ _⟩
 |im=>exact⟨0,0,_,none,0,rfl,iO _,λ_ _ _ _=>oX _ _ _ _⟩
def Wv {o:Oper} {ys : Nat->Option Bool} {a : Act} {K' : Act->gv->Prop} {Q:Exit->Act->gv->Prop} {d : Prop} (s x:Operand) (t:TypeId) (j:o.op= .call {callee:= .builtin .append,args:=#[s,x],argTypes:=#[t,t]}) (z:o.guard=none) (v u:gO) (y:a.eval s=v) (A:a.eval x=u) (l:(Builtin.append_ #[t,t] o.type #[v,u]).run prog w= .ok v' w') (h:K' (a.put o.dst v') w'):if Region.wanted o ys=true then Oper.wp prog o a w K' Q else d:=by
 have e:Region.wanted o ys=true:=by unfold Region.wanted;rw[z]
 rw[gF e];unfold Oper.wp execOp;simp only[j,resolve,invoke,builtin,RN,Sem.run_pure,Result.andThen_ok,List.map_toArray,yC,List.map_nil,y,A,l];exact h
def SlK (a b:gy) (v:gO) (W:gv):Prop:=∃k,v=oY k 1 1/\W.heap[k]?=some (gI #[gH a,gH b] 275)
structure Hk (w:gv) (v:gO) (n:Nat) (gL:lh) (v':gO) (W:gv):Prop where
 app:aet w v gL v' W
 shape:∃ao cp,v'= .slice ao (n+1) cp
def Hk.lt2 {gL : lh} (h:Hk w v n gL v' W) (d:k < w.heap.size):k < W.heap.size:=lV d h.app.kp.size
theorem Hk.at {gL : lh} (h:Hk w v n gL v' W) {c : jM} (d:w.heap[k]?=some (gI c T)) (e:v.ownBlock≠some k):W.heap[k]?=some (gI c T):=h.app.kp.at d (by grind)
def Hk.cell {gL : lh} (h:Hk w v n gL v' W) {j l u : gO} (e:w.heap[k]?=some (gI #[j,v,l,u] T)) (d:v.ownBlock≠some k):W.cell? ⟨k,1,none⟩=some v:=by rw[fW (h.at e d)];rfl
def Hk.free {gL : lh} (h:Hk w v n gL v' W) {c : jM} (e:w.heap[k]?=some (gI c T)) (d:v.ownBlock≠some k):W.frozen? ⟨k,1,none⟩=false:=gE (h.at e d) 1
theorem OX {d : Option Addr} {h : Nat} {gL : lh} (w W:gv) (l:Kept [] w W) (D:yF w (.slice d gL.length h) gL) (k:Nat) (a b:gy) (C:W.heap[k]?=some (gI #[gH a,gH b] 275)) (H:gL.length<=4096):
  ∃v' w',(Builtin.append_ #[139,139] 139 #[.slice d gL.length h,oY k 1 1]).run prog W= .ok v' w'/\Hk w (.slice d gL.length h) gL.length (gL++[(a,b)]) v' w':=by
 obtain⟨F,hi,z,A,B⟩:=tz YK;have G:=l.ownsRow D (λ_ _=>by simp);have⟨v',w',h1,h2,h3,h4⟩:=zG (P:=prog) W 0 139 139 275 F (.agg #[gH kI,gH kI]) 2 32 underlying139 hi z A B rfl (by decide) (.slice d gL.length h) gL.length (flat gL) G ⟨k,0,none⟩ 1 1 [gH a,gH b] rfl (λj u x=>by
  rw[iY,fW C,<-x];simp) (λu x=>by simp at x;rcases x with rfl|rfl<;>rfl) (by unfold maxLen;omega) (by omega) (iO _)
 refine⟨v',w',h1,⟨?_,?_,?_⟩,?_⟩
 .show w'.ownsRow 0 _ 2 v' (gL++[(a,b)]).length (flat (gL++[(a,b)]))
  grind[flat]
 .exact(l.mono (by simp)).grown h3 (λk l=> .inl (by grind))
 .rcases h4 with e|e
  .grind
  .exact .inr λk y=>jP l.size (e k y)
 .have⟨ao',cp',e⟩:=gG h2
  grind
structure GvI (E:Env) (f:Nat->Nat) (i:Nat) (a b:gy) (ao2:Option Addr) (n2 cp2:Nat) (ats2:lh) (W0:gv) (z0 z1 z2 z3 z4 z5 z6 z7 z8 z9 z10:Bool) (s33 s34 s35 s36 s37 s38 s39 s40 s41 s42:gO) (W:gv):Prop where
 f0:z0=true->s33=nV f i
 f1:z1=true->s34=nV f i
 f2:z2=true->s35=gJ (f i)
 f3:z3=true->s36=jG (f i) 1
 f4:z4=true->s37= .slice ao2 n2 cp2
 f5:z5=true->s38= .agg #[gH a,gH b]
 f6:z6=true->z7=false->SlK a b s39 W
 f7:z7=true->z10=false->Hk W0 (.slice ao2 n2 cp2) n2 ats2 s40 W
 f8:z8=true->s41=gJ (f i)
 f9:z9=true->s42=jG (f i) 1
 d2:z2=true->z1=true
 d3:z3=true->z2=true
 d4:z4=true->z3=true
 d6:z6=true->z5=true
 d7:z7=true->z4=true/\z6=true
 d8:z8=true->z0=true/\z1=true/\z2=true/\z3=true/\z4=true/\z5=true/\z6=true/\z7=true
 d9:z9=true->z8=true
 d10:z10=true->z9=true/\z7=true
 wi:z7=false->Kept [] W0 W
 fin:z10=true->∃v1 W1,Hk W0 (.slice ao2 n2 cp2) n2 ats2 v1 W1/\W=W1.setCell ⟨f i,1,none⟩ v1
theorem YB (E:Env) (t:gM) (ht:jd E t) (i:Nat):ja E 259 (λf=>#[Bp E,nV f i,iF E t]) (wj i t) uV:=by
 intro f σ w h HS;obtain⟨R,hR⟩:∃R,R=wj i t σ:=⟨_,rfl⟩;rw[<-hR]at HS|-;have A:(σ.fresh&&nk (σ.nm i))=true:=by
  cases hq:(σ.fresh&&nk (σ.nm i))with
  |true=>rfl
  |false=>unfold wj at hR;grind
 have HR:R=qo i t.js σ:=by rw[hR];unfold wj;rw[A];rfl
 rw[rS]at A;have⟨V,X⟩:=A;have⟨x,y,nm,ao,cp,hTV,hn,HROW⟩:=aca E t ht h;have aK:∃ao n cp,E.tv= .slice ao n cp:=by
  have⟨L,_,K⟩:=h;have⟨ao,cp,e⟩:=gG K.tok;exact⟨ao,_,cp,e⟩
 have aq:=λW=>yx E t W aK;rw[hTV]at aq;generalize t.js=gL at *;have H:=At.start h;go_enter func259,ntmps259
 go_wp21
 refine(aq _).mono ?_;rintro e w1 ⟨rfl,aG⟩;replace H:=H.k0 aG;have aR:=λ(w:gv)=>yy x y nm ao gL.length cp w
 go_wp21
 go_loopw [12] (λv wr=>∃(D:Nat) (z:Ab),v= .int .i64 D/\D<=gL.length/\R=qo i (gL.drop D) z/\At E f σ.nodes.length w f z wr/\z.fresh=true/\nk (z.nm i)=true) (λv _=>gL.length - (intOf v).toNat)
 case atStart=>exact⟨0,σ,rfl,iO _,HR,H,V,X⟩
 case round=>
  obtain⟨D,z,rfl,aP,hR,a3,V,X⟩:=hrel
  by_cases a2:D < gL.length
  .obtain⟨g,rfl,c0,c1⟩:=yF.at2 (HROW _ _ _ a3.rel) a2;rw[C7 a2]at hR;obtain⟨e,he⟩:∃e,z.hU i=some e:=by
    cases hq:z.hU i with
    |some e=>simp
    |none=>rw[IQ,hq]at hR;exact absurd hR HS
   have an:R=(if yU e.gU gL[D].1 then qo i (gL.drop (D+1)) z else if z.oZ<=e.gU.length then .stop 7 z.gP else qo i (gL.drop (D+1)) (z.ib i {e with gU:=e.gU++[gL[D]]})):=by rw[hR,IQ,he]
   have aJ:z.nm i=e.name:=by unfold Ab.nm;rw[he]
   rw[aJ]at X;have aL:gL[D]=(gL[D].1,gL[D].2):=rfl;generalize gL[D].1=a at *;generalize gL[D].2=b at *;rw[aL]at an;have hK:Kept [] wr (wr.alloc (.cells #[.string a,.string b] 275 (0,0))):=(Kept.refl _ _).alloc _;have hB:=fY wr (.cells #[.string a,.string b] 275 (0,0));have⟨L,hL,K⟩:=(a3.k0 hK).rel;have⟨a4,Z,hAl⟩:=K.sN i _ (Ab.jo he);have C2:=adA (L.gP i) e.name (L.av i) _ _ e.gU a _ a4.ir Z hAl;rw[hL]at C2;have HE:=fU he;have al:=fU an;have HA:=a3.k0 hK;have HB:=fU hB;have aO:=jk hB;clear an he hB hL
   go_wp21
   refine C2.mono ?_;rintro e2 w2 ⟨rfl,ax⟩;replace HA:=HA.k0 ax;replace HB:=fU (ax.at HB (by simp));cases hq:yU e.gU a with
   |true=>
    have Y:=(show R=qo i (gL.drop (D+1)) z by rw[al.out,hq];rfl);go_wp2;go_roundw
    case rel=>exact⟨D+1,z,by go_num,by omega,Y,HA,V,by simp_all⟩
    case measure=>simp[intOf];omega
   |false=>
    have⟨L,hL,HRL⟩:=HA.rel;have a4:=(HRL.sN i _ (Ab.jo HE)).1;have Z:=(HRL.sN i _ (Ab.jo HE)).2.1;have⟨ao2,cp2,hav⟩:=gG Z;have d0:w2.cell? ⟨f i,1,none⟩=some (.slice ao2 e.gU.length cp2):=by rw[<-hL,fW a4.ir,<-hav];rfl
    have d1:w2.cell? ⟨E.bB,2,none⟩=some (.int .i64 (z.oZ:Int)):=HRL.low (by decide) HRL.DU.2.2.1;have aN:=HRL.DU.2.2.2.2.2;have aH:f i < w2.heap.size:=by rw[<-hL];exact jk a4.ir
    have aQ:=HRL.lt
    by_cases ah:z.oZ<=e.gU.length
    .have Y:=(show R= .stop 7 z.gP by rw[al.out,hq];simp[ah]);have C3:=(λq=>On (HRL.drewN q) 7);clear hav
     go_wp21
     go_quiet (fail)
     go_wp21
     refine(C3 nq).mono ?_;rintro e3 w3 ⟨k,rfl,H1,d⟩;have H2:=(HA.fr.trans (Fr.drewN w2 nq)).trans d;go_wp2;exact⟨rfl,pd Y H1 H2⟩
    .have Y:=(show R=qo i (gL.drop (D+1)) (z.ib i {e with gU:=e.gU++[(a,b)]}) by rw[al.out,hq];simp[ah]);have ak:=fU hL;have ai:=fU hav;have aD:=d0;have am:=aH;clear hav hL;have aj:=(show w2.heap[f i]?=some (.cells #[.string e.name,.slice ao2 e.gU.length cp2,kh (iD L.gP e.je),L.kv i] 142 (0,0)) by
      have:=(HRL.sN i _ (Ab.jo HE)).1.ir;rw[ak.out,ai.out]at this;rw[ak.out];omega)
     have ag:=(show yF w2 (.slice ao2 e.gU.length cp2) e.gU by rw[<-ai.out];omega);have aC:=(HRL.sN i _ (Ab.jo HE)).2.2;have au:=Cv ag aj (by decide);have aB:=(λW (hk:Kept [] w2 W)=>lV am hk.size);have ar:=am;have aA:=(λW (hk:Kept [] w2 W)=>(hk.cell (p:=⟨f i,1,none⟩) am (by simp)).trans aD);have az:=(λW (hk:Kept [] w2 W)=>(⟨by rw[fW (hk.at HB.out (by simp))];rfl,by rw[fW (hk.at HB.out (by simp))];rfl⟩:W.cell? ⟨wr.heap.size,0,none⟩=some (.string a)/\W.cell? ⟨wr.heap.size,1,none⟩=some (.string b)));have aM:=(show e.gU.length < 16 by omega)
     go_wp21
     go_quiet (fail)
     go_wp21
     refine tC (by rfl) ?_
     try (change wpAny _ _ _ _ _ _ _ (World.drew _))
     refine Bh (I:=λF ac W=>∃z0 z1 z2 z3 z4 z5 z6 z7 z8 z9 J a5 a6 a7 a8 a9 aa ab ad ae af,F=#[z0,z1,z2,z3,z4,z5,z6,z7,z8,z9,J]/\ac=⟨#[Bp E,nV f i,iF E t,undef,undef,undef,undef,.pointer (some ⟨wr.heap.size,0,none⟩),iF E t,.agg #[.int .i64 x,.int .i64 y,.string nm,.slice (some ⟨g,0,none⟩) gL.length cp],.slice (some ⟨g,0,none⟩) gL.length cp,.int .i64 (gL.length:Int),.int .i64 (D:Int),.bool true,.pointer (some ⟨g,D*2,none⟩),.agg #[.string a,.string b],nV f i,.pointer (some ⟨wr.heap.size,0,none⟩),.string a,.bool false,nV f i,.pointer (some ⟨f i,0,none⟩),.pointer (some ⟨f i,1,none⟩),.slice ao2 e.gU.length cp2,.int .i64 (e.gU.length:Int),Bp E,.pointer (some ⟨E.bB,0,none⟩),.pointer (some ⟨E.bB,0,none⟩),.pointer (some ⟨E.bB,2,none⟩),.int .i64 (z.oZ:Int),.bool false,u31,u32,a5,a6,a7,a8,a9,aa,ab,ad,ae,af,u43],[]⟩/\GvI E f i a b ao2 e.gU.length cp2 (e.gU++[(a,b)]) w2 z0 z1 z2 z3 z4 z5 z6 z7 z8 z9 J a5 a6 a7 a8 a9 aa ab ad ae af W) ?_ ?_ _ _ _ _ ?_ ?_
     .rintro F a W k ⟨z0,z1,z2,z3,z4,z5,z6,z7,z8,z9,J,a5,a6,a7,a8,a9,aa,ab,ad,ae,af,rfl,rfl,j⟩ hi;simp only[Region.ready,MH,Ku]at hi;have⟨a2,A⟩:=hi;have a2:k < 11:=a2;obtain rfl|rfl|rfl|rfl|rfl|rfl|rfl|rfl|rfl|rfl|rfl:k=0\/k=1\/k=2\/k=3\/k=4\/k=5\/k=6\/k=7\/k=8\/k=9\/k=10:=by omega
      all_goals simp[Region.binds]at A
      .refine kP rfl ?_;intro K' u;have aE:z0=false:=by simp[A]
       go_simp;refine u _ _ ?_
       iterate 21 apply Exists.intro
       refine⟨rfl,rfl,?_⟩;exact {j with f0:=(λ_=>rfl),d8:=(λl=>by have d:=(j.d8 l).1;rw[aE]at d;cases d)}
      .refine kP rfl ?_;intro K' u;have aF:z1=false:=by simp[A]
       go_simp;refine u _ _ ?_
       iterate 21 apply Exists.intro
       refine⟨rfl,rfl,?_⟩;exact {j with f1:=(λ_=>rfl),d2:=(λ_=>rfl),d8:=(λl=>by have d:=(j.d8 l).2.1;rw[aF]at d;cases d)}
      .refine kP rfl ?_;intro K' u;have av:z2=false:=by simp[A]
       have ap:z3=false:=Bool.eq_false_iff.2 λl=>by have d:=(j.d3 l);rw[av]at d;cases d
       have a0:z4=false:=Bool.eq_false_iff.2 λl=>by have d:=(j.d4 l);rw[ap]at d;cases d
       have B:z7=false:=Bool.eq_false_iff.2 λl=>by have d:=(j.d7 l).1;rw[a0]at d;cases d
       have e1:=j.f1 (by simp[A]);subst e1;have aI:=aB W (j.wi B);go_simp;refine u _ _ ?_
       iterate 21 apply Exists.intro
       refine⟨rfl,rfl,?_⟩;exact {j with f2:=(λ_=>rfl),d2:=(λ_=>by simp[A]),d3:=(λ_=>rfl),d8:=(λl=>by have d:=(j.d8 l).2.2.1;rw[av]at d;cases d)}
      .refine kP rfl ?_;intro K' u;have ap:z3=false:=by simp[A]
       have e2:=j.f2 (by simp[A]);subst e2;go_simp;refine u _ _ ?_
       iterate 21 apply Exists.intro
       refine⟨rfl,rfl,?_⟩;exact {j with f3:=(λ_=>rfl),d3:=(λ_=>by simp[A]),d4:=(λ_=>rfl),d8:=(λl=>by have d:=(j.d8 l).2.2.2.1;rw[ap]at d;cases d)}
      .refine kP rfl ?_;intro K' u;have a0:z4=false:=by simp[A]
       have B:z7=false:=Bool.eq_false_iff.2 λl=>by have d:=(j.d7 l).1;rw[a0]at d;cases d
       have e3:=j.f3 (by simp[A]);subst e3;have cc:=aA W (j.wi B);go_simp;refine u _ _ ?_
       iterate 21 apply Exists.intro
       refine⟨rfl,rfl,?_⟩;exact {j with f4:=(λ_=>rfl),d4:=(λ_=>by simp[A]),d7:=(λl=>by have d:=(j.d7 l).1;rw[a0]at d;cases d),d8:=(λl=>by have d:=(j.d8 l).2.2.2.2.1;rw[a0]at d;cases d)}
      .refine kP rfl ?_;intro K' u;have aw:z5=false:=by simp[A]
       have O:z6=false:=Bool.eq_false_iff.2 λl=>by have d:=(j.d6 l);rw[aw]at d;cases d
       have B:z7=false:=Bool.eq_false_iff.2 λl=>by have d:=(j.d7 l).2;rw[O]at d;cases d
       have cc:=az W (j.wi B);have c2:=cc.1;have c3:=cc.2;go_simp;refine u _ _ ?_
       iterate 21 apply Exists.intro
       refine⟨rfl,rfl,?_⟩;exact {j with f5:=(λ_=>rfl),d6:=(λ_=>rfl),d8:=(λl=>by have d:=(j.d8 l).2.2.2.2.2.1;rw[aw]at d;cases d)}
      .refine kP rfl ?_;intro K' u;have O:z6=false:=by simp[A]
       have B:z7=false:=Bool.eq_false_iff.2 λl=>by have d:=(j.d7 l).2;rw[O]at d;cases d
       have a1:z8=false:=Bool.eq_false_iff.2 λl=>by have d:=(j.d8 l).2.2.2.2.2.2.1;rw[O]at d;cases d
       have N:z9=false:=Bool.eq_false_iff.2 λl=>by have d:=(j.d9 l);rw[a1]at d;cases d
       have C:J=false:=Bool.eq_false_iff.2 λl=>by have d:=(j.d10 l).1;rw[N]at d;cases d
       have e5:=j.f5 (by simp[A]);subst e5;go_simp;have ka:Kept [] W (W.alloc (.cells #[.string a,.string b] 275 (0,0))):=(Kept.refl _ _).alloc _;refine u _ _ ?_
       iterate 21 apply Exists.intro
       refine⟨rfl,rfl,?_⟩;exact {j with f6:=(λ_ _=>⟨W.heap.size,rfl,fY W _⟩),f7:=(λh=>by rw[B]at h;cases h),d6:=(λ_=>by simp[A]),d7:=(λl=>by have d:=(j.d7 l).2;rw[O]at d;cases d),d8:=(λl=>by have d:=(j.d8 l).2.2.2.2.2.2.1;rw[O]at d;cases d),wi:=(λ_=>(j.wi B).trans ka),fin:=(λh=>by rw[C]at h;cases h)}
      .refine kP rfl ?_;intro K' u;have B:z7=false:=by simp[A]
       have a1:z8=false:=Bool.eq_false_iff.2 λl=>by have d:=(j.d8 l).2.2.2.2.2.2.2;rw[B]at d;cases d
       have N:z9=false:=Bool.eq_false_iff.2 λl=>by have d:=(j.d9 l);rw[a1]at d;cases d
       have C:J=false:=Bool.eq_false_iff.2 λl=>by have d:=(j.d10 l).1;rw[N]at d;cases d
       have e4:=j.f4 (by simp[A]);subst e4;have⟨k,e6,hk6⟩:=j.f6 (by simp[A]) B;subst e6;have⟨v',w',hap,G⟩:=OX w2 W (j.wi B) ag k a b hk6 aC;refine Wv (.tmp 37) (.tmp 39) 139 rfl rfl (.slice ao2 e.gU.length cp2) (.slice (some ⟨k,0,none⟩) 1 1) rfl rfl (v':=v') (w':=w') (by exact hap) ?_;refine u _ _ ?_
       iterate 21 apply Exists.intro
       refine⟨rfl,rfl,?_⟩;exact {j with f6:=(λ_ h=>by cases h),f7:=(λ_ _=>G),d7:=(λ_=>by simp[A]),d8:=(λl=>by have d:=(j.d8 l).2.2.2.2.2.2.2;rw[B]at d;cases d),d10:=(λl=>by have d:=(j.d10 l).2;rw[B]at d;cases d),wi:=(λh=>by cases h),fin:=(λh=>by rw[C]at h;cases h)}
      .refine kP rfl ?_;intro K' u;have a1:z8=false:=by simp[A]
       have N:z9=false:=Bool.eq_false_iff.2 λl=>by have d:=(j.d9 l);rw[a1]at d;cases d
       have C:J=false:=Bool.eq_false_iff.2 λl=>by have d:=(j.d10 l).1;rw[N]at d;cases d
       have e0:=j.f0 (by simp[A]);subst e0;have aI:=(j.f7 (by simp[A]) C).lt2 ar;go_simp;refine u _ _ ?_
       iterate 21 apply Exists.intro
       refine⟨rfl,rfl,?_⟩;exact {j with f8:=(λ_=>rfl),d8:=(λ_=>by simp[A]),d9:=(λ_=>rfl)}
      .refine kP rfl ?_;intro K' u;have N:z9=false:=by simp[A]
       have e8:=j.f8 (by simp[A]);subst e8;go_simp;refine u _ _ ?_
       iterate 21 apply Exists.intro
       refine⟨rfl,rfl,?_⟩;exact {j with f9:=(λ_=>rfl),d9:=(λ_=>by simp[A]),d10:=(λl=>by have d:=(j.d10 l).1;rw[N]at d;cases d)}
      .refine kP rfl ?_;intro K' u;have C:J=false:=by simp[A]
       have e9:=j.f9 (by simp[A]);subst e9;have G:=j.f7 (by simp[A]) C;have⟨ao9,cp9,e9⟩:=G.shape;subst e9;have c9:=G.cell aj au;have f9:=G.free aj au;go_simp;refine u _ _ ?_
       iterate 21 apply Exists.intro
       refine⟨rfl,rfl,?_⟩;exact {j with f6:=(λ_ h=>by simp[A]at h),f7:=(λ_ h=>by cases h),d10:=(λ_=>by simp[A]),wi:=(λh=>by simp_all),fin:=(λ_=>⟨_,_,G,rfl⟩)}
     .rintro F a W ⟨z0,z1,z2,z3,z4,z5,z6,z7,z8,z9,J,a5,a6,a7,a8,a9,aa,ab,ad,ae,af,rfl,rfl,j⟩ K;simp only[Region.ready,U7,Ku]at K;have q0:=K 0 (by decide);simp[Region.binds]at q0;subst q0;have q1:=K 1 (by decide);simp[Region.binds]at q1;subst q1;have q2:=K 2 (by decide);simp[Region.binds]at q2;subst q2;have q3:=K 3 (by decide);simp[Region.binds]at q3;subst q3;have q4:=K 4 (by decide);simp[Region.binds]at q4;subst q4;have q5:=K 5 (by decide);simp[Region.binds]at q5;subst q5;have q6:=K 6 (by decide);simp[Region.binds]at q6;subst q6;have q7:=K 7 (by decide);simp[Region.binds]at q7;subst q7;have q8:=K 8 (by decide);simp[Region.binds]at q8;subst q8;have q9:=K 9 (by decide);simp[Region.binds]at q9;subst q9;have ay:=K 10 (by decide);simp[Region.binds]at ay;subst ay;have⟨v1,W1,G,hW⟩:=j.fin rfl;subst hW;have U:=HRL.aeM HE X V (a,b) (by omega) (v':=v1) (w1:=W1) (by rw[ai.out];exact G.app);rw[ak.out]at U;go_wp2;go_roundw
      case rel=>exact⟨D+1,_,by go_num,by omega,Y,HA.to ⟨_,rfl,U.1⟩ (ni (Ab.nE _ _ _).symm) U.2,V,by unfold Ab.nm;rw[Ab.iW (Ab.ik HE.out)];exact X⟩
      case measure=>simp[intOf];omega
     .decide
     .exact⟨_,_,_,_,_,_,_,_,_,_,_,_,_,_,_,_,_,_,_,_,_,rfl,rfl,⟨(by simp),(by simp),(by simp),(by simp),(by simp),(by simp),(by simp),(by simp),(by simp),(by simp),(by simp),(by simp),(by simp),(by simp),(by simp),(by simp),(by simp),(by simp),(λ_=>((Kept.refl _ _).drewN nq).drew),(λh=>by cases h)⟩⟩
  .have HD:=(show R= .ok () z by rw[hR,Gw (by omega)];rfl);have HA:=a3;go_wp2;go_end0;exact gu HD HA rfl
attribute [local go_sem] Oper.semAt_some
def Q9 (E:Env) (t:gM) (F:jd E t):ja E 188 (λ_=>#[Bp E,iF E t]) (sG t) uV:=by
 refine dI λf σ w R d HS H=>?_;unfold sG at d;go_enter func188,ntmps188;obtain⟨C,L⟩:∃C,C=f:=⟨_,rfl⟩;obtain⟨G,O⟩:∃G,G=σ.nodes.length:=⟨_,rfl⟩;obtain⟨I,U⟩:∃I,I=w:=⟨_,rfl⟩
 go_wp21
 refine dC (rP E (iK E)) H d HS rfl lT ?_;rintro(_) f σ w H A z d;have⟨kb,lbb,cb,HQ⟩:=H.rel.bounds;have B:=H.lt;have y:=cb;have J:=(Kept.refl [] w).drew
 go_wp21
 go_cut [13]from 6 to 12 (λr wc=>r= .bool (σ.inScope (ij [iG]) (iP))/\Kept [] w wc)
 case first=>
  go_region_with (first
   |(go_at_call 206;refine(np E [iG] w.drew (by simp)).mono ?_;rintro e X ⟨Z,V,rfl,l,u⟩;have j:=J.trans u;have Y:X.cell? ⟨E.bB,186,none⟩=some (.func (.func kb) #[] lbb):=(j.cell (p:=⟨E.bB,186,none⟩) B (by simp)).trans y;have x:=fU l;have h:=fU j;clear l u j)
   |(go_at_call 219;refine(vJ (H.k0 h).rel (ij [iG]) iP _ _ x (HQ.k0 h)).mono ?_;rintro e w2 ⟨rfl,D⟩;have K:=fU (h.trans D);clear D))
  all_goals (try (go_wp21))
  all_goals (go_meet;exact⟨rfl,K⟩)
 case rest=>
  obtain⟨rfl,N⟩:=hcut;replace H:=H.k0 N;cases hsc:σ.inScope (ij [iG]) iP with
  |true=>
   replace d:Hid (R=(wZ iG>>=λ_=>iV t>>=λ_=>(Pure.pure ():M Unit)) σ):=by
    refine fU ?_;rw[d.out];unfold uh;rw[hsc];rfl
   go_wp21
   refine dC (MT E iG) H d HS rfl lT ?_;rintro(_) f σ w H A z d
   go_wp21
   refine dC (ol E t F) H d HS rfl lT ?_;rintro(_) f σ w H A z d;go_wp2;go_end0;exact gu d H rfl
  |false=>
   replace d:Hid (R=(iV t>>=λ_=>(Pure.pure ():M Unit)) σ):=by
    refine fU ?_;rw[d.out];unfold uh;rw[hsc];rfl
   go_wp21
   refine dC (ol E t F) H d HS rfl lT ?_;rintro(_) f σ w H A z d;go_wp2;go_end0;exact gu d H rfl
def Iz (t:Addr) (w:gv):(ReflectliteValue.unpack (.iface 69 (.pointer (some t)))).run prog w
  = .ok (.agg #[jG 7 69,gJ w.heap.size,.int .u64 150]) (w.alloc (.cells #[.pointer (some t)] 69)):=by kernel_rfl
def JS (t:Addr) (w:gv):(ReflectliteValue.unpack (.iface 64 (.pointer (some t)))).run prog w
  = .ok (.agg #[jG 7 64,gJ w.heap.size,.int .u64 150]) (w.alloc (.cells #[.pointer (some t)] 64)):=by kernel_rfl
def Ue (a:Addr) (w:gv):(ReflectliteValue.methodAny (ReflectliteValue.valueError "reflectlite.Value.Type" 0) (λt _ _ _=>ReflectliteType.toType t) #[.agg #[jG 7 69,.pointer (some a),.int .u64 150]]).run prog w
  = .ok (.iface 112 (.agg #[jG 7 69])) w:=rfl
def UO (a:Addr) (w:gv):(ReflectliteValue.methodAny (ReflectliteValue.valueError "reflectlite.Value.Type" 0) (λt _ _ _=>ReflectliteType.toType t) #[.agg #[jG 7 64,.pointer (some a),.int .u64 150]]).run prog w
  = .ok (.iface 112 (.agg #[jG 7 64])) w:=rfl
def Hf (h:gO) (w:gv):(Go.method 489 112 (.agg #[h]) "Kind").run prog w= .ok (391,h) w:=by kernel_rfl
def Hd (h:gO) (w:gv):(Go.method 489 112 (.agg #[h]) "Elem").run prog w= .ok (411,.agg #[h]) w:=by kernel_rfl
def uC (h:gO) (w:gv):(Go.method 489 112 (.agg #[h]) "Implements").run prog w= .ok (412,.agg #[h]) w:=by kernel_rfl
def uB (h:gO) (w:gv):(Go.method 489 112 (.agg #[h]) "AssignableTo").run prog w= .ok (409,.agg #[h]) w:=by kernel_rfl
def BJ (v:gO) (w:gv):(Go.method 489 112 v "Comparable").run prog w= .ok (410,v) w:=by kernel_rfl
def Pj (w:gv):((ReflectliteType.abiMethod λt=>(λa:Nat=>Value.int IntKind.u8 (a:Int)) <$> Rtype.kind t) #[jG 7 69]).run prog w= .ok (.int .u8 22) w:=by kernel_rfl
def Ud (w:gv):((ReflectliteType.abiMethod λt=>(λa:Nat=>Value.int IntKind.u8 (a:Int)) <$> Rtype.kind t) #[jG 7 34]).run prog w= .ok (.int .u8 2) w:=by kernel_rfl
def QZ (w:gv):((ReflectliteType.abiMethod λt=>(λa:Nat=>Value.int IntKind.u8 (a:Int)) <$> Rtype.kind t) #[jG 7 64]).run prog w= .ok (.int .u8 22) w:=by kernel_rfl
def UN (w:gv):((ReflectliteType.abiMethod λt=>(λa:Nat=>Value.int IntKind.u8 (a:Int)) <$> Rtype.kind t) #[jG 7 62]).run prog w= .ok (.int .u8 22) w:=by kernel_rfl
def rlm (z:Sem gO) (f:TypeId->Addr->Nat->Nat->Sem gO) (v:gO):
  ReflectliteValue.method z f #[v]=(do match <-ReflectliteValue.parts v with|none=>z|some (t,a,fl)=>f t a fl (fl%32)):=rfl
def LR (a:Addr) (w:gv):(ReflectliteValue.parts (.agg #[jG 7 69,.pointer (some a),.int .u64 150])).run prog w= .ok (some (69,a,150)) w:=rfl
def Mz (a:Addr) (w:gv):(ReflectliteValue.parts (.agg #[jG 7 64,.pointer (some a),.int .u64 150])).run prog w= .ok (some (64,a,150)) w:=rfl
def Ph (a p:Addr) (W:gv) (d:W.cell? a=some (.pointer (some p))):
  (ReflectliteValue.method (ReflectliteValue.valueError "reflectlite.Value.IsNil" 0) ReflectliteValue.isNil #[.agg #[jG 7 69,.pointer (some a),.int .u64 150]]).run prog W= .ok (.bool false) W:=by
 rw[rlm];simp only[RN,LR,Result.andThen];simp[ReflectliteValue.isNil,loadVar,isAgg,underlying,underlying69,d,Result.andThen]
def QY (a p:Addr) (W:gv) (d:W.cell? a=some (.pointer (some p))):
  (ReflectliteValue.method (ReflectliteValue.valueError "reflectlite.Value.IsNil" 0) ReflectliteValue.isNil #[.agg #[jG 7 64,.pointer (some a),.int .u64 150]]).run prog W= .ok (.bool false) W:=by
 rw[rlm];simp only[RN,Mz,Result.andThen];simp[ReflectliteValue.isNil,loadVar,isAgg,underlying,underlying64,d,Result.andThen]
def Uc (w:gv):(ReflectliteType.method ReflectliteType.elem #[.agg #[jG 7 69]]).run prog w= .ok (.iface 112 (.agg #[jG 7 34])) w:=by kernel_rfl
def UM (w:gv):(ReflectliteType.method ReflectliteType.elem #[.agg #[jG 7 64]]).run prog w= .ok (.iface 112 (.agg #[jG 7 62])) w:=by kernel_rfl
def Bt (w:gv):(ReflectliteType.relation "Implements" ReflectliteType.implements_ #[.agg #[jG 7 34],.iface 112 (.agg #[jG 7 46])]).run prog w= .ok (.bool true) w:=by kernel_rfl
def BK (w:gv):(ReflectliteType.relation "Implements" ReflectliteType.implements_ #[.agg #[jG 7 62],.iface 112 (.agg #[jG 7 46])]).run prog w= .ok (.bool true) w:=by kernel_rfl
def x8 (v:gO) (w:gv):(ReflectliteType.typeOf #[.iface 34 v]).run prog w= .ok (.iface 112 (.agg #[jG 7 34])) w:=rfl
def Bs (w:gv):(ReflectliteType.relation "AssignableTo" ReflectliteType.assignableTo #[.agg #[jG 7 34],.iface 112 (.agg #[jG 7 34])]).run prog w= .ok (.bool true) w:=by kernel_rfl
def Lq (w:gv):(ReflectliteType.relation "AssignableTo" ReflectliteType.assignableTo #[.agg #[jG 7 34],.iface 112 (.agg #[jG 7 62])]).run prog w= .ok (.bool false) w:=by kernel_rfl
def FW (n:Int) (w:gv):(ReflectliteValue.unpack (.iface 34 (gn n))).run prog w
  = .ok (.agg #[jG 7 34,gJ w.heap.size,.int .u64 130]) (w.alloc (.cells #[gn n] 34)):=by kernel_rfl
def VN (w:gv):(Rtype.elem? 69).run prog w= .ok (some 34) w:=by kernel_rfl
def aeJ (p:Addr) (w:gv):(ReflectliteValue.mk 34 p ReflectliteValue.flagAddr).run prog w= .ok (.agg #[jG 7 34,.pointer (some p),.int .u64 386]) w:=by kernel_rfl
def Pg (a p:Addr) (W:gv) (d:W.cell? a=some (.pointer (some p))):
  (ReflectliteValue.method (ReflectliteValue.valueError "reflectlite.Value.Elem" 0) ReflectliteValue.elem #[.agg #[jG 7 69,.pointer (some a),.int .u64 150]]).run prog W
   = .ok (.agg #[jG 7 34,.pointer (some p),.int .u64 386]) W:=by
 rw[rlm];simp only[RN,LR,Result.andThen];simp[ReflectliteValue.elem,loadVar,isAgg,underlying,underlying69,d,Result.andThen,VN,aeJ]
def rls (v x:gO):ReflectliteValue.set #[v,x]=(do
  let (some (dst,a,fl),some (src,b,_)):=(<-ReflectliteValue.parts v,<-ReflectliteValue.parts x)
   |unsupported (.noEntry "extern/(internal/reflectlite.Value).Set.zeroValue")
  if fl / ReflectliteValue.flagAddr%2==0 then unsupported (.noEntry "extern/(internal/reflectlite.Value).Set.unaddressable")
  let d <-loadVar src b
  if <-Rtype.directlyAssignable dst src then storeVar dst a d
  else if <-Rtype.implements dst src then
   if (<-Rtype.kind src)==20 then
    match d with
    | .nilIface=>unsupported (.noEntry "extern/reflectlite: a nil value of one interface type handed on as a value of another")
    |_=>storeVar dst a d
   else storeVar dst a (.iface src d)
  else panicString ("reflectlite.Set: value of type "++(<-Rtype.spelt src)++ " is not assignable to type "++(<-Rtype.spelt dst))
  pure (.tuple #[])):=rfl
def VO (a:Addr) (w:gv):(ReflectliteValue.parts (.agg #[jG 7 34,.pointer (some a),.int .u64 386])).run prog w= .ok (some (34,a,386)) w:=rfl
def Yh (a:Addr) (w:gv):(ReflectliteValue.parts (.agg #[jG 7 34,.pointer (some a),.int .u64 130])).run prog w= .ok (some (34,a,130)) w:=rfl
def VM (w:gv):(Rtype.directlyAssignable 34 34).run prog w= .ok true w:=by rfl
theorem Yi (d b:Addr) (n:Int) (e:gO) (W:gv) (h:W.cell? b=some (gn n)) (l:W.cell? d=some e) (j:W.frozen? d=false):
  (ReflectliteValue.set #[.agg #[jG 7 34,.pointer (some d),.int .u64 386],.agg #[jG 7 34,.pointer (some b),.int .u64 130]]).run prog W
   = .ok (.tuple #[]) (W.setCell d (gn n)):=by
 rw[rls];simp only[RN,VO,Yh,Result.andThen];simp[ReflectliteValue.flagAddr,loadVar,isAgg,underlying,underlying34,h,Result.andThen,VM,storeVar,Value.cells,storeCells,Addr.add];rw[run_store prog W d _ _ rfl]
 grind
abbrev rv (T:Nat) (b:Nat):jM:=#[jG 7 T,gJ b,.int .u64 150]
def adh (n:Int) (t:Addr) (l:gO) (w:gv) (y:w.cell? ⟨0,0,none⟩=some (.iface 112 (.agg #[jG 7 46]))) (e:w.cell? t=some l) (u:w.frozen? t=false):
  Calls prog 18 #[.iface 34 (gn n),.iface 69 (.pointer (some t))] w λB w'=>B=iq (.bool true)/\w'=((((w.alloc (.cells #[.pointer (some t)] 69)).alloc (.cells (rv 69 w.heap.size) 77)).alloc (.cells (rv 69 w.heap.size) 77)).alloc (.cells #[gn n] 34)).setCell t (gn n):=by
 have h6:=@run_callFunc_extern prog 25 _ (λd=>ReflectliteValue.unpack (d.getD 0 (.tuple #[]))) func25 (by kernel_rfl) (by kernel_rfl) (by kernel_rfl) (by kernel_rfl);have h7:=@run_callFunc_extern prog 26 _ (ReflectliteValue.methodAny (ReflectliteValue.valueError "reflectlite.Value.Type" 0) (λt _ _ _=>ReflectliteType.toType t)) func26 (by kernel_rfl) (by kernel_rfl) (by kernel_rfl) (by kernel_rfl);have h8:=@run_callFunc_extern prog 27 _ (ReflectliteValue.method (ReflectliteValue.valueError "reflectlite.Value.IsNil" 0) ReflectliteValue.isNil) func27 (by kernel_rfl) (by kernel_rfl) (by kernel_rfl) (by kernel_rfl);have H:=@run_callFunc_extern prog 391 _ (ReflectliteType.abiMethod λt=>do pure (.int .u8 (<-Rtype.kind t))) func391 (by kernel_rfl) (by kernel_rfl) (by kernel_rfl) (by kernel_rfl);have J:=@run_callFunc_extern prog 411 _ (ReflectliteType.method ReflectliteType.elem) func411 (by kernel_rfl) (by kernel_rfl) (by kernel_rfl) (by kernel_rfl);have K:=@run_callFunc_extern prog 412 _ (ReflectliteType.relation "Implements" ReflectliteType.implements_) func412 (by kernel_rfl) (by kernel_rfl) (by kernel_rfl) (by kernel_rfl);have D:=@run_callFunc_extern prog 29 _ ReflectliteType.typeOf func29 (by kernel_rfl) (by kernel_rfl) (by kernel_rfl) (by kernel_rfl);have I:=@run_callFunc_extern prog 409 _ (ReflectliteType.relation "AssignableTo" ReflectliteType.assignableTo) func409 (by kernel_rfl) (by kernel_rfl) (by kernel_rfl) (by kernel_rfl);have F:=@run_callFunc_extern prog 43 _ (ReflectliteValue.method (ReflectliteValue.valueError "reflectlite.Value.Elem" 0) ReflectliteValue.elem) func43 (by kernel_rfl) (by kernel_rfl) (by kernel_rfl) (by kernel_rfl);have G:=@run_callFunc_extern prog 44 _ ReflectliteValue.set func44 (by kernel_rfl) (by kernel_rfl) (by kernel_rfl) (by kernel_rfl);have tO:=x8;have mA:=uB;have z:=Bs;have V:=FW;have Y:=Iz;have Z:=Ue;have mK:=Hf;have mE:=Hd;have mI:=uC;have U:=Pj;have O:=Ud;have A:=Uc;have N:=Bt;have n8:=Ph ⟨w.heap.size,0,none⟩ t ((w.alloc (.cells #[.pointer (some t)] 69)).alloc (.cells (rv 69 w.heap.size) 77)) (by simp);have x:0 < w.heap.size:=by
  rcases C8 w.heap.size with C|h
  .simp[World.cell?,C]at y
  .exact h
 have L:((w.alloc (.cells #[.pointer (some t)] 69)).alloc (.cells (rv 69 w.heap.size) 77)).cell? ⟨0,0,none⟩=some (.iface 112 (.agg #[jG 7 46])):=by
  rw[mY _ _ ⟨0,0,none⟩ (by simp),mY _ _ ⟨0,0,none⟩ x];exact y
 have j:t.block < w.heap.size:=by
  rcases rC t.block w.heap.size with h|h
  .exact h
  .simp[World.cell?,BO h]at e
 have X:=Pg ⟨w.heap.size,0,none⟩ t (((w.alloc (.cells #[.pointer (some t)] 69)).alloc (.cells (rv 69 w.heap.size) 77)).alloc (.cells (rv 69 w.heap.size) 77)) (by rw[mY _ _ ⟨w.heap.size,0,none⟩ (by simp;omega)];simp);have st:=Yi t ⟨w.heap.size+1+1+1,0,none⟩ n l ((((w.alloc (.cells #[.pointer (some t)] 69)).alloc (.cells (rv 69 w.heap.size) 77)).alloc (.cells (rv 69 w.heap.size) 77)).alloc (.cells #[gn n] 34))
  (by rw[World.cell?_alloc_at _ _ _ _ (by simp)];rfl)
  (by rw[mY _ _ t (by simp;omega),mY _ _ t (by simp;omega),mY _ _ t (by simp;omega),mY _ _ t j];exact e)
  (by rw[vm _ _ t (by simp;omega),vm _ _ t (by simp;omega),vm _ _ t (by simp;omega),vm _ _ t (Nat.ne_of_lt j)];exact u)
 go_enter func18,ntmps18;go_wp2;refine vq 1 ?_;rw[oU];go_wp2;go_ret;exact⟨rfl,rfl⟩
def aaN (v:gO) (d:TypeId) (w:gv):(Instr.typeAssert (.iface 34 v) d 116 true).run prog w= .ok (.tuple #[.nilIface,.bool false]) w:=run_typeAssert_lacksB underlying116 (by kernel_rfl) (by kernel_rfl) v d w
def Pk (v:gO) (d:TypeId) (w:gv):(Instr.typeAssert (.iface 34 v) d 119 true).run prog w= .ok (.tuple #[.nilIface,.bool false]) w:=run_typeAssert_lacksB underlying119 (by kernel_rfl) (by kernel_rfl) v d w
def Nf (v:gO) (d:TypeId) (w:gv):(Instr.typeAssert (.iface 34 v) d 120 true).run prog w= .ok (.tuple #[.nilIface,.bool false]) w:=run_typeAssert_lacksB underlying120 (by kernel_rfl) (by kernel_rfl) v d w
def aaw (n:Int) (t:Addr) (w:gv) (j:w.cell? ⟨0,0,none⟩=some (.iface 112 (.agg #[jG 7 46]))):
  Calls prog 18 #[.iface 34 (gn n),.iface 64 (.pointer (some t))] w λx w'=>x=iq (.bool false)/\w'=(((w.alloc (.cells #[.pointer (some t)] 64)).alloc (.cells (rv 64 w.heap.size) 77)).alloc (.cells (rv 64 w.heap.size) 77)):=by
 have L:=@run_callFunc_extern prog 25 _ (λd=>ReflectliteValue.unpack (d.getD 0 (.tuple #[]))) func25 (by kernel_rfl) (by kernel_rfl) (by kernel_rfl) (by kernel_rfl);have N:=@run_callFunc_extern prog 26 _ (ReflectliteValue.methodAny (ReflectliteValue.valueError "reflectlite.Value.Type" 0) (λt _ _ _=>ReflectliteType.toType t)) func26 (by kernel_rfl) (by kernel_rfl) (by kernel_rfl) (by kernel_rfl);have O:=@run_callFunc_extern prog 27 _ (ReflectliteValue.method (ReflectliteValue.valueError "reflectlite.Value.IsNil" 0) ReflectliteValue.isNil) func27 (by kernel_rfl) (by kernel_rfl) (by kernel_rfl) (by kernel_rfl);have A:=@run_callFunc_extern prog 391 _ (ReflectliteType.abiMethod λt=>do pure (.int .u8 (<-Rtype.kind t))) func391 (by kernel_rfl) (by kernel_rfl) (by kernel_rfl) (by kernel_rfl);have C:=@run_callFunc_extern prog 411 _ (ReflectliteType.method ReflectliteType.elem) func411 (by kernel_rfl) (by kernel_rfl) (by kernel_rfl) (by kernel_rfl);have D:=@run_callFunc_extern prog 412 _ (ReflectliteType.relation "Implements" ReflectliteType.implements_) func412 (by kernel_rfl) (by kernel_rfl) (by kernel_rfl) (by kernel_rfl);have z:=@run_callFunc_extern prog 29 _ ReflectliteType.typeOf func29 (by kernel_rfl) (by kernel_rfl) (by kernel_rfl) (by kernel_rfl);have B:=@run_callFunc_extern prog 409 _ (ReflectliteType.relation "AssignableTo" ReflectliteType.assignableTo) func409 (by kernel_rfl) (by kernel_rfl) (by kernel_rfl) (by kernel_rfl);have Y:=x8;have U:=uB;have l:=Lq;have J:=JS;have K:=UO;have V:=Hf;have mE:=Hd;have mI:=uC;have I:=QZ;have H:=UN;have u:=UM;have G:=BK;have Z:=aaN;have x2:=Pk;have x3:=Nf;have X:=QY ⟨w.heap.size,0,none⟩ t ((w.alloc (.cells #[.pointer (some t)] 64)).alloc (.cells (rv 64 w.heap.size) 77)) (by simp);have e:0 < w.heap.size:=by
  rcases C8 w.heap.size with y|h
  .simp[World.cell?,y]at j
  .exact h
 have F:((w.alloc (.cells #[.pointer (some t)] 64)).alloc (.cells (rv 64 w.heap.size) 77)).cell? ⟨0,0,none⟩=some (.iface 112 (.agg #[jG 7 46])):=by
  rw[mY _ _ ⟨0,0,none⟩ (by simp),mY _ _ ⟨0,0,none⟩ e];exact j
 go_enter func18,ntmps18;go_wp2;refine vq 1 ?_;rw[oU];go_wp2;go_ret;exact⟨rfl,rfl⟩
def zR {P:Program} (w:gv) (d:Nat) {l j : TypeId} {x:Array (String×TypeId)} {i:TypeInfo} {k:IntKind} (a b:Int)
  (hi:P.underlying l=some (.interface x)) (u:P.underlying j=some (.int k)) (h:P.info? j=some i) (e:i.comparable=true):
  (Op.equalIn (d+2) l (.iface j (.int k a)) (.iface j (.int k b))).run P w= .ok (a==b) w:=by
 simp[Op.equalIn,pO hi,pO u,typeInfo,h,e]
def xm {P:Program} (w:gv) {j h : TypeId} {u:Array (String×TypeId)} {i:TypeInfo} {k:IntKind} (a b:Int)
  (hi:P.underlying j=some (.interface u)) (l:P.underlying h=some (.int k)) (e:P.info? h=some i) (d:i.comparable=true):
  (binOp .eql j (.iface h (.int k a)) (.iface h (.int k b))).run P w= .ok (.bool (a==b)) w:=by
 simp only[binOp];simp[Op.equal,Op.maxDepth,zR w 9998 a b hi l e d]
def Il:jM->Sem gO:=Extern.ReflectliteType.method λt=>do Rtype.noPackHeld "Comparable" t;pure (.bool (<-typeInfo t).comparable)
def zA (w:gv):(Il #[.agg #[jG 7 34]]).run prog w= .ok (.bool true) w:=by kernel_rfl
def Ub:(prog.info? 34).map (·.comparable)=some true:=by kernel_rfl
def aa7 (n:Int) (w:gv):
  Calls prog 19 #[.iface 34 (gn n),.iface 34 (gn n)] w λe w'=>e=iq (.bool true)/\w'=w:=by
 obtain⟨i,hi,d⟩:=Option.map_eq_some_iff.1 Ub;have u:=@run_callFunc_extern prog 29 _ Extern.ReflectliteType.typeOf func29 (by kernel_rfl) (by kernel_rfl) (by kernel_rfl) (by kernel_rfl);have h:=@run_callFunc_extern prog 410 _ Il func410 (by kernel_rfl) (by kernel_rfl) (by kernel_rfl) (by kernel_rfl);have y:=x8;have l:=zA;have x:=BJ;have j:∀w:gv,(binOp .eql 46 (.iface 34 (gn n)) (.iface 34 (gn n))).run prog w= .ok (.bool true) w:=λw=>by
  rw[xm w n n underlying46 underlying34 hi d];simp
 go_enter func19,ntmps19;go_wp2;refine vq 1 ?_;rw[oU];go_wp2;go_ret;exact⟨rfl,rfl⟩
def errorType (w:gv):Prop:=w.cell? ⟨0,0,none⟩=some (.iface 112 (.agg #[jG 7 46]))
def TV (n:Int) (t:Nat) (d:gO) (w:gv) (l:errorType w) (h:w.heap[t]?=some (gI #[d] 34)):
  Calls prog 18 #[.iface 34 (gn n),.iface 69 (gJ t)] w λj w'=>j=iq (.bool true)/\w'.heap[t]?=some (gI #[gn n] 34)/\Kept [t] w w':=by
 refine(adh n ⟨t,0,none⟩ d w l (tl h) (free_of_one h)).mono ?_;rintro e w' ⟨rfl,rfl⟩;refine⟨rfl,one_setCell (v:=d) ?_,?_⟩
 .have hl:=jk h;rw[Below.heap_alloc _ _ _ (by simp;omega),Below.heap_alloc _ _ _ (by simp;omega),Below.heap_alloc _ _ _ (by simp;omega),Below.heap_alloc _ _ _ hl];exact h
 .exact Kept.setCell ((((Kept.refl _ _).alloc _).alloc _).alloc _|>.alloc _) (.inl (by simp)) _
def XO (n:Int) (t:Addr) (w:gv) (h:errorType w):
  Calls prog 18 #[.iface 34 (gn n),.iface 64 (.pointer (some t))] w λd w'=>d=iq (.bool false)/\Kept [] w w':=by
 refine(aaw n t w h).mono ?_;rintro e w' ⟨rfl,rfl⟩;exact⟨rfl,(((Kept.refl _ _).alloc _).alloc _).alloc _⟩
theorem Ic (p q:Addr) (w:gv):
  CallsD prog 45 #[.pointer (some p),.pointer (some q)] .returning w λe j w'=>e=p8/\j= .returning/\w'=w:=by
 refine callsD_of_wpS func45 rfl λd l h=>?_;apply wpS_seq;apply wpS_region;simp[wpOpsS,go_sem,recoverD,h,ntmps45,Exit.thenS];refine wpS_cond (t:=false) (by rfl) ?_;simp only[wR,AM];refine wpS_of_wp (wp_skip ?_);cases d
 simp_all[bodyPostS,results,results45]
def lH (h:errorType w) (o:Obj):errorType (w.alloc o):=by
 have:0 < w.heap.size:=by
  rcases C8 w.heap.size with e|d
  .simp[errorType,World.cell?,e]at h
  .exact d
 show(w.alloc o).cell? _=_;rw[mY _ _ _ this];exact h
def Sx (n:Int) (w:gv) (z:errorType w):
  Calls prog 31 #[.iface 34 (gn n)] w λe w'=>e=iq (.tuple #[gn n,.bool true])/\Kept [] w w':=by
 have G:∀(y:Fn) (first d:jM) (w:gv),(Instr.makeFunc y first d).run prog w= .ok (.func y first d) w:=λ_ _ _ _=>rfl;have l:=lH (lH z (.cells #[gn 0] 34)) (.cells #[.bool false] 4)
 go_enter_defers func31,ntmps31
 go_wp2_with fail;refine(TV n w.heap.size _ _ l (by rw[Below.heap_alloc _ _ _ (by simp)];exact fY _ _)).mono ?_;rintro e x ⟨rfl,h,u⟩;have j:x.heap[w.heap.size+1]?=some (gI #[.bool false] 4):=by
  refine u.at ?_ (by simp);have:=fY (w.alloc (.cells #[gn 0] 34)) (.cells #[.bool false] 4)
  simpa using this
 have C:=tl h;have D:=tl j;have K:=free_of_one h;have L:=free_of_one j;have A:Kept [] w x:=((((Kept.refl _ _).alloc _).alloc _).trans (S:=[w.heap.size]) u).mono (by intro k F hl;simp at F;omega);clear u;have O:=jk h;have U:=jk j;have I:Hid _:=h;have J:Hid _:=j;clear h j z l;go_wp2_with fail;go_region
 all_goals go_wp2
 refine leaves_cons (f:=45) (args:=#[gJ w.heap.size,gJ (w.heap.size+1)]) (by simp) (by simp[go_sem]) ?_;refine(Ic ⟨w.heap.size,0,none⟩ ⟨w.heap.size+1,0,none⟩ _).mono ?_;rintro e N H ⟨rfl,rfl,rfl⟩;have B:Kept [] w (((x.setCell ⟨w.heap.size+1,0,none⟩ (.bool true)).setCell ⟨w.heap.size,0,none⟩ (gn n)).setCell ⟨w.heap.size+1,0,none⟩ (.bool true)).drew:=
  (((A.setCell (.inr (by simp)) _).setCell (.inr (by simp)) _).setCell (.inr (by simp)) _).drew
 simp[Go.Leaves,settle,results,results31,go_sem,C,D];exact B
section
variable {P:Program} {ops:Array Oper} {Q:Exit->Act->gv->Prop} {md:Region.Mode}
def iN {i:Nat} {l:Oper} {j:Nat} {e:Array Bool} {a:Act} {w:gv} (d:Option Tmp) (v:gO) (hi:ops[i]?=some l) (x:l.dst=d)
  (A:Region.noSelect ops=true) (y:Region.free md ops e i=true) (z:(Region.ready md ops e).contains i=true)
  (u:∀c a w,Q (.panic c) (a.put d v) w->Q (.panic c) a w) (C:Region.wanted l (yielded ops a.tmps)=true) (B:∀w,(execOp a.eval l).run P w= .ok (.value v) w)
  (h:wpAny P md ops Q j (e.setIfInBounds i true) (a.put d v) w):wpAny P md ops Q (j+1) e a w:=by
 subst x;exact wpAny_take hi A y z u (Or.inl ⟨C,B⟩) h
def mQ {i:Nat} {l:Oper} {j:Nat} {e:Array Bool} {a:Act} {w:gv} (d:Option Tmp) (hi:ops[i]?=some l) (x:l.dst=d)
  (A:Region.noSelect ops=true) (y:Region.free md ops e i=true) (z:(Region.ready md ops e).contains i=true)
  (u:∀c a w,Q (.panic c) (a.put d undef) w->Q (.panic c) a w) (B:Region.wanted l (yielded ops a.tmps)=false)
  (h:wpAny P md ops Q j (e.setIfInBounds i true) (a.put d undef) w):wpAny P md ops Q (j+1) e a w:=by
 subst x;exact wpAny_take hi A y z u (Or.inr ⟨B,rfl⟩) h
end
def DZ (n:Int) (w:gv) (d:errorType w):
  Calls prog 20 #[.iface 34 (gn n)] w λe w'=>e=iq (gn n)/\Kept [] w w':=by
 go_enter func20,ntmps20;go_wp2_with (go_at_call 31;refine(Sx n _ d).mono ?_;rintro e w' ⟨rfl,h⟩);go_ret;exact⟨rfl,by assumption⟩
def Kc (w:gv):
  Calls prog 14 #[.nilIface] w λe w'=>e=iq (.tuple #[gn 0,gn 0])/\Kept [] w w':=by
 go_enter func14,ntmps14;go_wp2;go_ret2;exact⟨rfl,((Kept.refl _ _).alloc _).alloc _⟩
def sT (h:errorType w) (j:Kept S w w') (l:0∉S):errorType w':=by
 have:0 < w.heap.size:=by
  rcases C8 w.heap.size with e|d
  .simp[errorType,World.cell?,e]at h
  .exact d
 show w'.cell? _=_;rw[j.cell (p:=⟨0,0,none⟩) this l];exact h
def wg (h:errorType w):errorType w.drew:=h
def TE (n:Int) (w:gv) (D:errorType w):
  Calls prog 14 #[.iface 34 (gn n)] w λe w'=>e=iq (.tuple #[gn n,gn 0])/\Kept [] w w':=by
 have u:=lH (lH D (.cells #[.pointer none] 62)) (.cells #[gn 0] 34);go_enter func14,ntmps14;go_wp2_with fail;refine tC (by kernel_rfl) ?_;change wpAny _ _ _ _ _ _ _ (World.drew _);refine iN (i:=0) (some 10) (.iface 34 (gn n)) rfl rfl (by kernel_rfl) (by kernel_rfl) (by kernel_rfl) (λ_ _ _ h=>h) (by kernel_rfl) (λ_=>by kernel_rfl) ?_;simp only[Act.put,jB,jC,jD];refine iN (i:=1) (some 11) (.iface 64 (gJ w.heap.size)) rfl rfl (by kernel_rfl) (by kernel_rfl) (by kernel_rfl) (λ_ _ _ h=>h) (by kernel_rfl) (λ_=>by kernel_rfl) ?_;simp only[Act.put,jB,jC,jD];refine qG (rs:=[2]) (by kernel_rfl) (by simp) ?_;refine oT rfl (λK d=>?_) qH;go_simp;go_wp2_with fail;refine(XO n _ _ (wg u)).mono ?_;rintro e G ⟨rfl,F⟩;have J:G.heap[w.heap.size+1]?=some (gI #[gn 0] 34):=by
  refine F.at ?_ (by simp);have h:=fY (w.alloc (.cells #[.pointer none] 62)) (.cells #[gn 0] 34);rw[show(w.alloc (.cells #[.pointer none] 62)).heap.size=w.heap.size+1 from by simp]at h;exact h
 have A:Kept [] w G:=(((Kept.refl _ _).alloc _).alloc _).drew.trans F;have e1:errorType G:=sT D A (by simp);clear F u;have H:Hid _:=J;clear J;refine d _ _ ?_;clear d K;refine iN (i:=3) (some 13) (.bool false) rfl rfl (by kernel_rfl) (by kernel_rfl) (by kernel_rfl) (λ_ _ _ h=>h) (by kernel_rfl) (λ_=>by kernel_rfl) ?_;simp only[Act.put,jB,jC,jD];refine mQ (i:=4) (some 14) rfl rfl (by kernel_rfl) (by kernel_rfl) (by kernel_rfl) (λ_ _ _ h=>h) (by kernel_rfl) ?_;simp only[Act.put,jB,jC,jD];refine mQ (i:=5) (some 15) rfl rfl (by kernel_rfl) (by kernel_rfl) (by kernel_rfl) (λ_ _ _ h=>h) (by kernel_rfl) ?_;simp only[Act.put,jB,jC,jD];refine mQ (i:=6) (some 16) rfl rfl (by kernel_rfl) (by kernel_rfl) (by kernel_rfl) (λ_ _ _ h=>h) (by kernel_rfl) ?_;simp only[Act.put,jB,jC,jD];refine mQ (i:=7) (some 17) rfl rfl (by kernel_rfl) (by kernel_rfl) (by kernel_rfl) (λ_ _ _ h=>h) (by kernel_rfl) ?_;simp only[Act.put,jB,jC,jD];refine mQ (i:=8) (some 18) rfl rfl (by kernel_rfl) (by kernel_rfl) (by kernel_rfl) (λ_ _ _ h=>h) (by kernel_rfl) ?_;simp only[Act.put,jB,jC,jD];refine mQ (i:=9) (some 19) rfl rfl (by kernel_rfl) (by kernel_rfl) (by kernel_rfl) (λ_ _ _ h=>h) (by kernel_rfl) ?_;simp only[Act.put,jB,jC,jD];refine mQ (i:=10) (some 20) rfl rfl (by kernel_rfl) (by kernel_rfl) (by kernel_rfl) (λ_ _ _ h=>h) (by kernel_rfl) ?_;simp only[Act.put,jB,jC,jD];refine iN (i:=11) (some 21) (.bool false) rfl rfl (by kernel_rfl) (by kernel_rfl) (by kernel_rfl) (λ_ _ _ h=>h) (by kernel_rfl) (λ_=>by kernel_rfl) ?_;simp only[Act.put,jB,jC,jD];refine iN (i:=12) (some 22) (.bool false) rfl rfl (by kernel_rfl) (by kernel_rfl) (by kernel_rfl) (λ_ _ _ h=>h) (by kernel_rfl) (λ_=>by kernel_rfl) ?_;simp only[Act.put,jB,jC,jD];refine mQ (i:=13) (some 23) rfl rfl (by kernel_rfl) (by kernel_rfl) (by kernel_rfl) (λ_ _ _ h=>h) (by kernel_rfl) ?_;simp only[Act.put,jB,jC,jD];refine mQ (i:=14) (some 24) rfl rfl (by kernel_rfl) (by kernel_rfl) (by kernel_rfl) (λ_ _ _ h=>h) (by kernel_rfl) ?_;simp only[Act.put,jB,jC,jD];refine mQ (i:=15) (some 25) rfl rfl (by kernel_rfl) (by kernel_rfl) (by kernel_rfl) (λ_ _ _ h=>h) (by kernel_rfl) ?_;simp only[Act.put,jB,jC,jD];refine mQ (i:=16) (some 26) rfl rfl (by kernel_rfl) (by kernel_rfl) (by kernel_rfl) (λ_ _ _ h=>h) (by kernel_rfl) ?_;simp only[Act.put,jB,jC,jD];refine mQ (i:=17) (some 27) rfl rfl (by kernel_rfl) (by kernel_rfl) (by kernel_rfl) (λ_ _ _ h=>h) (by kernel_rfl) ?_;simp only[Act.put,jB,jC,jD];refine mQ (i:=18) (some 28) rfl rfl (by kernel_rfl) (by kernel_rfl) (by kernel_rfl) (λ_ _ _ h=>h) (by kernel_rfl) ?_;simp only[Act.put,jB,jC,jD];refine mQ (i:=19) (some 29) rfl rfl (by kernel_rfl) (by kernel_rfl) (by kernel_rfl) (λ_ _ _ h=>h) (by kernel_rfl) ?_;simp only[Act.put,jB,jC,jD];refine iN (i:=20) (some 30) (.bool false) rfl rfl (by kernel_rfl) (by kernel_rfl) (by kernel_rfl) (λ_ _ _ h=>h) (by kernel_rfl) (λ_=>by kernel_rfl) ?_;simp only[Act.put,jB,jC,jD];refine iN (i:=21) (some 9) (.bool false) rfl rfl (by kernel_rfl) (by kernel_rfl) (by kernel_rfl) (λ_ _ _ h=>h) (by kernel_rfl) (λ_=>by kernel_rfl) ?_;simp only[Act.put,jB,jC,jD];refine wpAny_done (by kernel_rfl) ?_ _;go_wp2_with fail;refine tC (by kernel_rfl) ?_;change wpAny _ _ _ _ _ _ _ (World.drew _);refine iN (i:=0) (some 40) (.iface 34 (gn n)) rfl rfl (by kernel_rfl) (by kernel_rfl) (by kernel_rfl) (λ_ _ _ h=>h) (by kernel_rfl) (λ_=>by kernel_rfl) ?_;simp only[Act.put,jB,jC,jD];refine iN (i:=1) (some 41) (.iface 69 (gJ (w.heap.size+1))) rfl rfl (by kernel_rfl) (by kernel_rfl) (by kernel_rfl) (λ_ _ _ h=>h) (by kernel_rfl) (λ_=>by kernel_rfl) ?_;simp only[Act.put,jB,jC,jD];refine qG (rs:=[2]) (by kernel_rfl) (by simp) ?_;refine oT rfl (λK d=>?_) qH;go_simp;go_wp2_with fail;refine(TV n (w.heap.size+1) _ _ (wg e1) H.out).mono ?_;rintro e L ⟨rfl,C,x⟩;have I:=tl C;have l:Kept [] w L:=A.drew.next x (by simp);have e2:errorType L:=sT D l (by simp);have y:Hid _:=C;clear C x A e1 H;refine d _ _ ?_;clear d K;refine iN (i:=3) (some 43) (.bool true) rfl rfl (by kernel_rfl) (by kernel_rfl) (by kernel_rfl) (λ_ _ _ h=>h) (by kernel_rfl) (λ_=>by kernel_rfl) ?_;simp only[Act.put,jB,jC,jD];refine iN (i:=4) (some 44) (.iface 34 (gn n)) rfl rfl (by kernel_rfl) (by kernel_rfl) (by kernel_rfl) (λ_ _ _ h=>h) (by kernel_rfl) (λ_=>by kernel_rfl) ?_;simp only[Act.put,jB,jC,jD];refine qG (rs:=[5]) (by kernel_rfl) (by simp) ?_;refine oT rfl (λK d=>?_) qH;go_simp;refine d _ _ ?_;clear d K;refine iN (i:=6) (some 46) (.iface 34 (gn n)) rfl rfl (by kernel_rfl) (by kernel_rfl) (by kernel_rfl) (λ_ _ _ h=>h) (by kernel_rfl) (λ_=>by kernel_rfl) ?_;simp only[Act.put,jB,jC,jD];refine qG (rs:=[7]) (by kernel_rfl) (by simp) ?_;refine oT rfl (λK d=>?_) qH;go_simp;go_wp2_with fail;refine(aa7 n _).mono ?_;rintro e z ⟨rfl,rfl⟩;refine d _ _ ?_;clear d K;refine iN (i:=8) (some 48) (.bool true) rfl rfl (by kernel_rfl) (by kernel_rfl) (by kernel_rfl) (λ_ _ _ h=>h) (by kernel_rfl) (λ_=>by kernel_rfl) ?_;simp only[Act.put,jB,jC,jD];refine iN (i:=9) (some 49) (.bool true) rfl rfl (by kernel_rfl) (by kernel_rfl) (by kernel_rfl) (λ_ _ _ h=>h) (by kernel_rfl) (λ_=>by kernel_rfl) ?_;simp only[Act.put,jB,jC,jD];refine iN (i:=10) (some 50) (.iface 34 (gn n)) rfl rfl (by kernel_rfl) (by kernel_rfl) (by kernel_rfl) (λ_ _ _ h=>h) (by kernel_rfl) (λ_=>by kernel_rfl) ?_;simp only[Act.put,jB,jC,jD];refine qG (rs:=[11,12]) (by kernel_rfl) (by simp) ?_;refine oT rfl (λK d=>?_) (oT rfl (λK d=>?_) qH)
 .go_simp;go_wp2_with fail;refine(DZ n _ e2).mono ?_;rintro e z ⟨rfl,j⟩;have N:=tl (j.at y.out (by simp));have B:Kept [] w z:=l.next j (by simp);clear j I l e2 y;refine d _ _ ?_;clear d K;refine qG (rs:=[12]) (by kernel_rfl) (by simp) ?_;refine oT rfl (λK d=>?_) qH;go_simp;refine d _ _ ?_;clear d K;refine iN (i:=13) (some 53) (.bool true) rfl rfl (by kernel_rfl) (by kernel_rfl) (by kernel_rfl) (λ_ _ _ h=>h) (by kernel_rfl) (λ_=>by go_simp) ?_;simp only[Act.put,jB,jC,jD];refine iN (i:=14) (some 54) (.bool true) rfl rfl (by kernel_rfl) (by kernel_rfl) (by kernel_rfl) (λ_ _ _ h=>h) (by kernel_rfl) (λ_=>by kernel_rfl) ?_;simp only[Act.put,jB,jC,jD];refine iN (i:=15) (some 39) (.bool true) rfl rfl (by kernel_rfl) (by kernel_rfl) (by kernel_rfl) (λ_ _ _ h=>h) (by kernel_rfl) (λ_=>by kernel_rfl) ?_;simp only[Act.put,jB,jC,jD];refine wpAny_done (by kernel_rfl) ?_ _;go_wp2;go_ret2;exact⟨rfl,B⟩
 .go_simp;refine d _ _ ?_;clear d K;refine qG (rs:=[11]) (by kernel_rfl) (by simp) ?_;refine oT rfl (λK d=>?_) qH;go_simp;go_wp2_with fail;refine(DZ n _ e2).mono ?_;rintro e z ⟨rfl,j⟩;have N:=tl (j.at y.out (by simp));have B:Kept [] w z:=l.next j (by simp);clear j I l e2 y;refine d _ _ ?_;clear d K;refine iN (i:=13) (some 53) (.bool true) rfl rfl (by kernel_rfl) (by kernel_rfl) (by kernel_rfl) (λ_ _ _ h=>h) (by kernel_rfl) (λ_=>by go_simp) ?_;simp only[Act.put,jB,jC,jD];refine iN (i:=14) (some 54) (.bool true) rfl rfl (by kernel_rfl) (by kernel_rfl) (by kernel_rfl) (λ_ _ _ h=>h) (by kernel_rfl) (λ_=>by kernel_rfl) ?_;simp only[Act.put,jB,jC,jD];refine iN (i:=15) (some 39) (.bool true) rfl rfl (by kernel_rfl) (by kernel_rfl) (by kernel_rfl) (λ_ _ _ h=>h) (by kernel_rfl) (λ_=>by kernel_rfl) ?_;simp only[Act.put,jB,jC,jD];refine wpAny_done (by kernel_rfl) ?_ _;go_wp2;go_ret2;exact⟨rfl,B⟩
def p5 (a:Int×Int×Int) (d:gO):jM:=#[gn a.1,gn a.2.1,gn a.2.2,d,.bool false,gn 0,.nilIface,jX,.pointer none]
def NK (d f a:Int):Prop:=4<=d/\d<=64/\1<=f/\f<=32/\1<=a/\a<=16
def aaZ (d f a:Int) (w:gv) (h:NK d f a):
  Calls prog 13 #[gn d,gn f,gn a] w λe w'=>e=iq (.tuple #[gJ w.heap.size,.nilIface])/\w'=w.alloc (.cells (p5 (d,f,a) (jX)) 61):=by
 have⟨h1,h2,h3,h4,h5,h6⟩:=h;go_enter func13,ntmps13;go_wp2;go_ret2;exact⟨rfl,rfl⟩
theorem N2 (d f a:Int) (w:gv) (h:NK d f a):
  Calls prog 9 #[gn d,gn f,gn a] w λe w'=>e=iq (.tuple #[gJ w.heap.size,gn 0])/\w'.heap[w.heap.size]?=some (gI (p5 (d,f,a) (jX)) 61)/\Kept [] w w':=by
 go_enter func9,ntmps9
 go_wp21
 refine(aaZ d f a _ h).mono ?_;rintro e z ⟨rfl,rfl⟩
 go_wp21
 refine(Kc _).mono ?_;rintro e u ⟨rfl,j⟩;have y:Kept [] w u:=((Kept.refl _ _).alloc _).next j (by simp)
 have l:=j.at (fY w _) (by simp);have x:Hid _:=l;go_wp2;go_ret2
 simp_all
def NA:(prog.info? 5).map (λi=>(i.zero,i.size,i.bytes))=some (some (.int .u8 0),1,1):=by kernel_rfl
def xh (d:Nat) (a:Int×Int×Int) (j:gO) (w:gv) (h:w.heap[d]?=some (gI (p5 a j) 61)):
  Calls prog 21 #[gJ d] w λe w'=>e=iq (.bool false)/\w'=w:=by
 have l:w.cell? ⟨d,4,none⟩=some (.bool false):=by rw[fW h];rfl
 go_enter func21,ntmps21;go_wp2;go_ret;simp
theorem Xm (y g c:Nat) (a:Int×Int×Int) (D:gO) (s t:gy) (base:Nat) (w:gv) (hx:w.heap[y]?=some (gI (p5 a D) 61))
  (Z:w.ownsRow base 5 1 D s.size (jY s)) (ht:∀j u,(jY t)[j]?=some u->w.cell? ⟨g,j,none⟩=some u) (hl:s.size+t.size<=1024) (hb:base<=w.heap.size):
  Calls prog 15 #[gJ y,oY g t.size c] w λe w'=>e=iq (.tuple #[gn t.size,.nilIface])/\
   ∃A,w'.heap[y]?=some (gI (p5 a A) 61)/\w'.ownsRow base 5 1 A (s++t).size (jY (s++t))/\Kept (y::D.ownBlock.toList) w w'/\(A.ownBlock=D.ownBlock\/∀k,A.ownBlock=some k->w.heap.size<=k):=by
 obtain⟨i0,hi,O,U,V⟩:=tz NA;have Y:w.cell? ⟨y,3,none⟩=some D:=by rw[fW hx];rfl
 have L:∃C l,D= .slice C s.size l:=by
  rcases Z.2 with⟨rfl,h0⟩|⟨g,l,F,rfl,_⟩
  .grind
  .simp
 obtain⟨C,l,rfl⟩:=L;have H:Hid _:=hx;have X:Hid _:=Z;have HT:Hid _:=ht;go_enter func15,ntmps15
 go_wp21
 refine(xh y a _ _ H).mono ?_;rintro e w1 ⟨rfl,rfl⟩;go_wp2_with (at_builtin;refine iw _ rfl _ _ 50 rfl base 5 i0 (.int .u8 0) 1 1 underlying50 hi O U V rfl (by decide) _ _ _ rfl X ⟨g,0,none⟩ t.size c (jY t) rfl ?Y ?c2 ?c3 ?c4 ?c5 hb ?_)
 case Y=>simp[jY]
 case c2=>exact λj u h=>by rw[iY];exact HT j u h
 case c3=>exact R4 t
 case c4=>unfold maxLen;omega
 case c5=>omega
 intro v' G x z J;have⟨ao',d,hv⟩:=gG x;subst hv;have K:∀k,(Value.slice C s.size l).ownBlock=some k->k≠y:=by
  intro k B;rcases X.2 with⟨h,_⟩|⟨g',d,F,h,_,hc,_⟩
  .rw[h]at B;cases B
  .rw[h]at B;obtain rfl:=jL B
   grind
 have I:G.heap[y]?=some (gI (p5 a (.slice C s.size l)) 61):=by
  rw[z.block y (jk H.out) (λh=>K y h.symm rfl)];exact H
 have d1:G.cell? ⟨y,3,none⟩=some (.slice C s.size l):=by rw[fW I];rfl
 have d2:=gE I 3;have h3:=gg I 3 (.slice ao' (s.size+t.size) d);have h4:(G.setCell ⟨y,3,none⟩ (.slice ao' (s.size+t.size) d)).ownsRow base 5 1 (.slice ao' (s.size+t.size) d) (s++t).size (jY (s++t)):=by
  have N:(s++t).size=s.size+t.size:=ByteArray.size_append;rw[N,KE];refine yB x ?_ _;intro B;rcases x.2 with⟨h,_⟩|⟨g',d,F,h,_,hc,_⟩
  .grind
  .grind
 have h5:Kept (y::(Value.slice C s.size l).ownBlock.toList) w1 (G.setCell ⟨y,3,none⟩ (.slice ao' (s.size+t.size) d)):=
  ((Kept.refl _ _).grown z (λk B=> .inl (by simp[B]))).setCell (.inl (by simp)) _
 have H3:Hid _:=h3;have H4:Hid _:=h4;have HF:Hid _:=J;go_wp2;go_ret2;exact⟨rfl,_,H3,H4,h5,HF⟩
theorem Vz (t:gy) (j:Nat) (u:gO) (h:(jY t)[j]?=some u):∃d:j < t.data.size,u= .int .u8 (t.data[j].toNat:Int):=by
 unfold jY at h
 grind
def Ad (t:gy) (d j:Nat) (u:gO) (h:(jY t)[j]?=some u):(bytesRow t d)[j]?=some u:=by
 obtain⟨e,rfl⟩:=Vz t j u h;exact bytesRow_at t d j e
def xx (t:gy) (d:Nat):t.size<=(bytesRow t d).size:=by
 have:t.data.size=t.size:=rfl;simp[bytesRow,this]
def xX {c : jM} {t : TypeId} {m : Nat×Nat} (h:w.heap[b]?=some (.cells c t m)) (j:Nat):w.cell? ⟨b,j,none⟩=c[j]?:=by simp[World.cell?,h]
def LZ {c : jM} {t : TypeId} (h:w.heap[b]?=some (.cells c t (n,n+1))) (j:Nat) (d:j < n):w.frozen? ⟨b,j,none⟩=false:=by
 simp[World.frozen?,h];omega
theorem DX {c : jM} {t : TypeId} {m : Nat×Nat} (h:w.heap[b]?=some (.cells c t m)) (j:Nat) (u:gO):(w.setCell ⟨b,j,none⟩ u).heap[b]?=some (.cells (c.setIfInBounds j u) t m):=by
 have d:=jk h;have e:w.heap[b]= .cells c t m:=by simpa [wL d]using h
 show(w.heap.modify b _)[b]?=_
 grind
def Turned (g sz d:Nat) (h:jM) (base n:Nat) (e:gO) (xs:List gO) (S:List Nat) (w wr:gv):Prop:=
 (∃C:jM,wr.heap[g]?=some (.cells C 5 (sz,sz+1))/\C.size=sz)/\wr.heap[d]?=some (gI h 61)/\wr.ownsRow base 5 1 e n xs/\Kept S w wr
theorem Turned.store {d : Nat} {l : jM} {base : Nat} {e : gO} {xs : List gO} (h:Turned g sz d l base n e xs S w wr) (y:w.heap.size<=g) (x:d≠g) (z:e.ownBlock≠some g) (j:Nat) (u:gO):
  Turned g sz d l base n e xs S w (wr.setCell ⟨g,j,none⟩ u):=by
 have⟨⟨C,hC,hs⟩,hx,ho,hk⟩:=h;refine⟨⟨_,DX hC j u,by grind⟩,?_,yB ho z u,hk.setCell (.inr y) u⟩;rw[Below.heap_setCell wr ⟨g,j,none⟩ u d x];exact hx
def Turned.cell {d : Nat} {u : jM} {base : Nat} {l : gO} {xs : List gO} (h:Turned g sz d u base n l xs S w wr) (j:Nat) (e:j < sz):(∃v,wr.cell? ⟨g,j,none⟩=some v)/\wr.frozen? ⟨g,j,none⟩=false:=by
 have⟨⟨C,hC,hs⟩,_⟩:=h;refine⟨⟨C[j]'(by omega),?_⟩,LZ hC j e⟩;rw[xX hC];simp
theorem Ml (z:Nat) (a:Int×Int×Int) (B:gO) (s t:gy) (base:Nat) (w:gv) (Y:w.heap[z]?=some (gI (p5 a B) 61))
  (X:w.ownsRow base 5 1 B s.size (jY s)) (hl:s.size+t.size<=1024) (hb:base<=w.heap.size):
  Calls prog 10 #[gJ z,gH t] w λe w'=>e=iq (.tuple #[gn t.size,gn 0,.bool true])/\
   ∃d,w'.heap[z]?=some (gI (p5 a d) 61)/\w'.ownsRow base 5 1 d (s++t).size (jY (s++t))/\Kept (z::B.ownBlock.toList) w w'/\(d.ownBlock=B.ownBlock\/∀k,d.ownBlock=some k->w.heap.size<=k):=by
 have A:=run_bytes_of_string (P:=prog) w 9 50 5 t underlying9 underlying50 underlying5;obtain⟨C,K⟩:∃C,C=grownCap w t.size 0 5:=⟨_,rfl⟩;rw[<-K]at A;clear K;have V:=xx t C;have HR:=Ad t C;generalize bytesRow t C=R at A V HR;obtain⟨D,x⟩:∃D,D=w.drew.alloc (.cells R 5 (R.size,R.size+1)):=⟨_,rfl⟩;rw[<-x]at A;have Z:D.heap[w.heap.size]?=some (.cells R 5 (R.size,R.size+1)):=by rw[x];exact fY w.drew _
 have U:Kept [] w D:=by rw[x];exact(Kept.refl [] w).drew.alloc _
 have z1:D.heap.size=w.heap.size+1:=by rw[x];show(w.heap.push _).size=_;simp
 clear x;have a0:=jk Y;have HX:=X.lt;have x1:=U.at Y (by simp);have o1:=U.ownsRow X (λ_ _=>by simp);have J:=Xm z w.heap.size C a B s t base D x1 o1 (λj u h=>by rw[xX Z];grind) hl (by omega);have HZ:Hid (D.heap.size=w.heap.size+1):=z1;clear z1 x1 o1 Y X;go_enter func10,ntmps10
 go_wp21
 refine J.mono ?_;rintro e w2 ⟨rfl,d,N,L,I,H⟩;clear A J
 go_wp21
 refine(Kc _).mono ?_;rintro e O ⟨rfl,y⟩;have hS:w.heap.size∉z::B.ownBlock.toList:=by
  simp only[qD,Option.mem_toList,not_or];exact⟨by omega,λh=>by grind⟩
 have F:O.heap[w.heap.size]?=some (.cells R 5 (R.size,R.size+1)):=y.at (I.at Z hS) (by simp);have HT:Turned w.heap.size R.size z (p5 a d) base (s++t).size d (jY (s++t)) (z::B.ownBlock.toList) w O:=
  ⟨⟨R,F,rfl⟩,y.at N (by simp),y.ownsRow L (λ_ _=>by simp),((U.mono (by simp)).trans I).trans (y.mono (by simp))⟩
 have HN:d.ownBlock≠some w.heap.size:=by
  rcases H with h|h
  .grind
  .grind
 have HF:d.ownBlock=B.ownBlock\/∀k,d.ownBlock=some k->w.heap.size<=k:=by
  rcases H with h|h
  .exact .inl h
  .grind
 have G:(convert 50 9 (oY w.heap.size t.size C)).run prog O= .ok (gH t) O:=by
  have:=OE (P:=prog) O 50 9 5 ⟨w.heap.size,0,none⟩ C t.data.toList underlying50 underlying5 underlying9 (λj hj=>by
   rw[iY,xX F];exact HR j _ (by unfold jY;grind))
  simpa using this
 clear H I y N L F hS U
 go_wp21
 clear G
 go_loopw [33] (λi wr=>∃k:Nat,k<=t.size/\i=gn k/\Turned w.heap.size R.size z (p5 a d) base (s++t).size d (jY (s++t)) (z::B.ownBlock.toList) w wr) (λi _=>t.size - (intOf i).toNat)
 case atStart=>grind
 case round=>
  obtain⟨k,hk,rfl,l⟩:=hrel
  by_cases a1:k < t.size
  .have⟨⟨v,hv⟩,hfz⟩:=l.cell k (by omega);have HS:=l.store (ig _) (by omega) HN k (.int .u8 33);go_wp2;go_roundw
   case rel=>exact⟨k+1,by omega,by go_num,HS⟩
   case measure=>simp[intOf];omega
  .go_wp2;go_ret3;exact⟨rfl,d,l.2.1,l.2.2.1,l.2.2.2,HF⟩
structure RC where
 cs:gy
 av:gO
 at_:Int
 mv:gO
 lg:Int
 nD:gy:=⟨#[]⟩
 Zl:Bool:=false
variable {R : RC}
def wy (R:RC) (d ps:Nat):jM:=#[gH R.cs,R.av,gn d,gn ps,gn R.at_,R.mv,gn R.lg,gH R.nD,.bool R.Zl]
def Rd (w:gv) (r:Nat) (R:RC) (d ps:Nat):Prop:=w.heap[r]?=some (gI (wy R d ps) 132)
def Rd.text {d ps : Nat} (h:Rd w r R d ps):w.cell? ⟨r,0,none⟩=some (gH R.cs):=by rw[fW h];rfl
def Rd.gL {d ps : Nat} (h:Rd w r R d ps):w.cell? ⟨r,1,none⟩=some R.av:=by rw[fW h];rfl
def Rd.bg {d ps : Nat} (h:Rd w r R d ps):w.cell? ⟨r,2,none⟩=some (gn d):=by rw[fW h];rfl
def Rd.ps {d ps : Nat} (h:Rd w r R d ps):w.cell? ⟨r,3,none⟩=some (gn ps):=by rw[fW h];rfl
def Rd.mv {d ps : Nat} (h:Rd w r R d ps):w.cell? ⟨r,5,none⟩=some R.mv:=by rw[fW h];rfl
def Rd.lg {d ps : Nat} (h:Rd w r R d ps):w.cell? ⟨r,6,none⟩=some (gn R.lg):=by rw[fW h];rfl
def Rd.nD {d ps : Nat} (h:Rd w r R d ps):w.cell? ⟨r,7,none⟩=some (gH R.nD):=by rw[fW h];rfl
def Rd.Zl {d ps : Nat} (h:Rd w r R d ps):w.cell? ⟨r,8,none⟩=some (.bool R.Zl):=by rw[fW h];rfl
def Rd.free {d ps : Nat} (h:Rd w r R d ps) (j:Nat):w.frozen? ⟨r,j,none⟩=false:=by unfold Rd at h;simp[World.frozen?,h]
def Rd.Mx {e ps : Nat} (h:Rd w r R e ps) (d:Nat):Rd (w.setCell ⟨r,3,none⟩ (gn d)) r R e d:=gg h 3 _
def Rd.ae8 {e ps : Nat} (h:Rd w r R e ps) (d:Nat):Rd (w.setCell ⟨r,2,none⟩ (gn d)) r R d ps:=gg h 2 _
def Rd.kept {d ps : Nat} (h:Rd w r R d ps) (e:Kept S w w') (j:r∉S):Rd w' r R d ps:=e.at h j
def oD (r:Nat) (R:RC) (d ps:Nat) (w:gv) (h:Rd w r R d ps):
  Calls prog 68 #[gJ r] w λe w'=>e=iq (.bool (decide (ps=R.cs.size)))/\∃q,w'=w.drewN q:=by
 have t:=h.text;have p:=h.ps;generalize R.cs=s at t
 by_cases e:ps=s.size
 .subst e;go_enter func68,ntmps68
  go_wp21
  go_quiet (fail)
  go_wp2;go_ret;exact⟨by simp,⟨_,rfl⟩⟩
 .have j:((ps:Int)==(s.size:Int))=false:=beq_eq_false_iff_ne.2 (by omega);go_enter func68,ntmps68
  go_wp21
  go_quiet (fail)
  go_wp2;go_ret;exact⟨by simp[e],⟨_,rfl⟩⟩
def wB (r:Nat) (R:RC) (d ps:Nat) (w:gv) (h:Rd w r R d ps) (j:ps<=R.cs.size) (_hs:R.cs.size<=1024):
  Calls prog 142 #[gJ r] w λe w'=>e=iq (gH (R.cs.extract ps R.cs.size))/\∃q,w'=w.drewN q:=by
 have t:=h.text;have p:=h.ps;generalize R.cs=s at *;go_enter func142,ntmps142
 go_wp21
 go_quiet (fail)
 go_wp2;go_ret;exact⟨rfl,⟨_,rfl⟩⟩
def Je (c:Int) (w:gv) (u:0<=c) (x:c<=255):
  Calls prog 144 #[.int .u8 c] w λe w'=>e=iq (.bool (decide (97<=c/\c<=122\/65<=c/\c<=90)))/\w'=w:=by
 by_cases d:97<=c<;>by_cases h:c<=122<;>by_cases j:65<=c<;>by_cases l:c<=90
 all_goals first|(exfalso;omega)|skip
 all_goals (go_enter func144,ntmps144;go_wp2;go_ret;exact⟨by first|(simp;done)|(simp;omega),rfl⟩)
def pre (s p:gy):Bool:=decide (p.size<=s.size)&&((s.extract 0 p.size).toList==p.toList)
def Jh (s p:gy) (w:gv) (j:s.size<=1048576) (d:p.size<=1048576):
  Calls prog 233 #[gH s,gH p] w λe w'=>e=iq (.bool (pre s p))/\w'=w:=by
 by_cases h:p.size<=s.size
 .go_enter func233,ntmps233;go_wp2;go_ret;exact⟨by simp[pre,h],rfl⟩
 .go_enter func233,ntmps233;go_wp2;go_ret;exact⟨by simp[pre,h],rfl⟩
def ur (s p:gy) (w:gv) (h:s.size<=1048576) (d:p.size<=1048576):
  Calls prog 141 #[gH s,gH p] w λe w'=>e=iq (.bool (pre s p))/\w'=w:=by
 go_enter func141,ntmps141
 go_wp21
 refine(Jh s p w h d).mono ?_;rintro e w' ⟨rfl,rfl⟩;go_wp2;go_ret;simp
theorem EZ (h:pre s p=true):p.size<=s.size:=by
 unfold pre at h;grind
def ly {ps : Nat} (h:pre (s.extract ps s.size) p=true) (d:ps<=s.size):ps+p.size<=s.size:=by
 have:=EZ h;simp at this;omega
def taken (R:RC) (p:gy) (ps:Nat):Nat:=if pre (R.cs.extract ps R.cs.size) p=true then ps+p.size else ps
def Rq {ps : Nat} (h:ps<=R.cs.size):taken R p ps<=R.cs.size:=by
 unfold taken;split
 .rename_i d;exact ly d h
 omega
theorem Rp {ps : Nat}:ps<=taken R p ps:=by grind[taken]
def lA (r:Nat) (R:RC) (j ps:Nat) (s:gy) (w:gv) (h:Rd w r R j ps) (l:ps<=R.cs.size) (x:R.cs.size<=1024) (B:s.size<=1024):
  Calls prog 72 #[gJ r,gH s] w λe w'=>e=iq (.bool (pre (R.cs.extract ps R.cs.size) s))/\Kept [r] w w'/\Rd w' r R j (taken R s ps):=by
 have H:=h
 by_cases e:pre (R.cs.extract ps R.cs.size) s=true
 .have A:=ly e l;have d:taken R s ps=ps+s.size:=by unfold taken;rw[gF e]
  rw[d];go_enter func72,ntmps72
  go_wp21
  refine(wB r R j ps w H l x).mono ?_;rintro e w' ⟨rfl,q,rfl⟩
  go_wp21
  refine(ur _ s _ (by simp;omega) (by omega)).mono ?_;rintro e w' ⟨rfl,rfl⟩;have p:(w.drewN q).cell? ⟨r,3,none⟩=some (gn ps):=H.ps;have C:=H.free 3;have y:Hid (Kept [r] w ((w.drewN q).setCell ⟨r,3,none⟩ (gn ((ps+s.size:Nat))))):=((Kept.refl [r] w).drewN q).setCell (.inl (by simp)) _;have z:Hid (Rd ((w.drewN q).setCell ⟨r,3,none⟩ (gn ((ps+s.size:Nat)))) r R j (ps+s.size)):=Rd.Mx (w:=w.drewN q) H _;rw[e];go_wp2;go_ret;exact⟨by rw[e];rfl,y,z⟩
 .have d:taken R s ps=ps:=by unfold taken;rw[gQ e]
  rw[d];have u:pre (R.cs.extract ps R.cs.size) s=false:=by simpa using e
  go_enter func72,ntmps72
  go_wp21
  refine(wB r R j ps w H l x).mono ?_;rintro e w' ⟨rfl,q,rfl⟩
  go_wp21
  refine(ur _ s _ (by simp;omega) (by omega)).mono ?_;rintro e w' ⟨rfl,rfl⟩;rw[u];go_wp2;go_ret;exact⟨by rw[u];rfl,(Kept.refl [r] w).drewN q,H⟩
def scan (q:Int->Bool) (s:gy) (i:Nat):Nat:=if h:i < s.size then (if q (bt s i)then i else scan q s (i+1))else i
  termination_by s.size - i
theorem D9 (h:s.size<=i):scan q s i=i:=by grind[scan]
theorem JO (h:q (bt s i)=true):scan q s i=i:=by grind[scan]
theorem Oc (hi:i < s.size) (h:q (bt s i)=false):scan q s i=scan q s (i+1):=by grind[scan]
def td:i<=scan q s i:=by
 fun_induction scan q s i with
 |case1=>omega
 |case2=>omega
 |case3=>omega
def pz (h:i<=s.size):scan q s i<=s.size:=by
 fun_induction scan q s i with
 |case1=>omega
 |case2 _ _ _ ih=>omega
 |case3=>omega
theorem abQ:scan q s i < s.size->q (bt s (scan q s i))=true:=by
 fun_induction scan q s i with
 |case1 _ _ h=>grind
 |case2 _ _ _ ih=>exact ih
 |case3 _ h=>omega
structure Vc (w:gv) (S:List Nat) (k:Nat) (caps:jM) (q:Int->Bool):Prop where
 Yp:∀(args:jM) (w:gv),(callFunc k args).run prog w= .ok (.enter k args) w
 ask:∀(c:Int) (w':gv),0<=c->c<=255->Kept S w w'->Calls prog k (#[.int .u8 c]++caps) w' λe w''=>e=iq (.bool (q c))/\∃n,w''=w'.drewN n
theorem Rv (r:Nat) (R:RC) (j ps:Nat) (k:Nat) (d:jM) (q:Int->Bool) (w:gv) (h:Rd w r R j ps) (K:ps<=R.cs.size) (V:R.cs.size<=1024) (L:Vc w [r] k d q):
  Calls prog 239 #[gJ r,.func (.func k) #[] d] w λe w'=>e=iq (gH (R.cs.extract ps (scan q R.cs ps)))/\Kept [r] w w'/\Rd w' r R j (scan q R.cs ps):=by
 have y:=L;have X:=h.ps;have H:=h;have B:=get_bt R.cs;have I:=y.Yp;go_enter func239,ntmps239
 go_wp21
 go_loopw [] (λwr=>∃i:Nat,ps<=i/\i<=R.cs.size/\scan q R.cs i=scan q R.cs ps/\Rd wr r R j i/\Kept [r] w wr) (λwr=>R.cs.size - (match wr.cell? ⟨r,3,none⟩with|some v=>(intOf v).toNat|none=>0))
 case atStart=>exact⟨ps,ig _,K,rfl,H,Kept.refl _ _⟩
 case round=>
  have⟨i,hi0,hi1,hsc,HR,HKW⟩:=hrel;have t:=HR.text;have p:=HR.ps;have O:=HR.free 3
  by_cases e:i=R.cs.size
  .have C:=(λw' (h:Rd w' r R j i)=>oD r R j i w' h);have e2:scan q R.cs ps=i:=by rw[<-hsc];exact D9 (by omega)
   have A:decide (i=R.cs.size)=true:=by simp[e]
   rw[e2];rw[A]at C
   go_wp21
   go_quiet ((go_at_call 68;refine xL (C _ ?_);exact HR))
   go_wp21
   go_quiet (fail)
   go_wp2;go_ret;exact⟨by rw[e2,e];rfl,((HKW.drewN _).drewN _),by rw[e2];exact HR⟩
  .have u:i < R.cs.size:=by omega
   have C:=(λw' (h:Rd w' r R j i)=>oD r R j i w' h);have A:decide (i=R.cs.size)=false:=by simp[e]
   rw[A]at C;have U:=B i u;have F:=bt_nonneg R.cs i;have G:=bt_le R.cs i
   by_cases l:q (bt R.cs i)=true
   .have e2:scan q R.cs ps=i:=by rw[<-hsc];exact JO l
    rw[e2];have D:=(λw' h=>y.ask (bt R.cs i) w' F G h);rw[l]at D
    go_wp21
    go_quiet (first|(go_at_call 68;refine xL (C _ ?_);exact HR)|(refine xL (D _ ?_);exact HKW.drewN _))
    go_wp21
    go_quiet (fail)
    go_wp2;go_ret;exact⟨by rw[e2];rfl,((HKW.drewN _).drewN _),by rw[e2];exact HR⟩
   .have x:q (bt R.cs i)=false:=by simpa using l
    have HS:scan q R.cs (i+1)=scan q R.cs ps:=by rw[<-hsc,Oc u x]
    have D:=(λw' h=>y.ask (bt R.cs i) w' F G h);rw[x]at D
    go_wp21
    go_quiet (first|(go_at_call 68;refine xL (C _ ?_);exact HR)|(refine xL (D _ ?_);exact HKW.drewN _))
    have z:=Rd.Mx (w:=wr.drewN nq) HR (i+1);have J:=(HKW.drewN nq).setCell (p:=⟨r,3,none⟩) (.inl (by simp)) (gn ((i+1:Nat)));go_wp2;go_roundw
    case rel=>grind
    case measure=>
     have N:=z.ps;rw[show((i:Int)+1)=((i+1:Nat):Int)from by omega,N,p];simp[intOf];omega
def jr (s:gy) (c:Int):Bool:=decide (0<=Lib.indexByte s.data.toList c.toNat.toUInt8)
def YG (s:gy) (c:Int):jr s c=s.data.toList.contains c.toNat.toUInt8:=by rw[Lib.contains_iff_indexByte];rfl
def afK {c : Int} (d:0<=c) (e:c<=255) {x:UInt8} (h:c.toNat.toUInt8=x):c=(x.toNat:Int):=by
 have:=sK UInt8.toNat h;simp at this;omega
def YH {c : Int} (d:0<=c) (e:c<=255) (h:jr jI c=true):c=62:=by
 rw[YG]at h;simp at h;exact afK d e h
def Jp (b:Nat) (s:gy) (c:Int) (w:gv) (h:w.cell? ⟨b,0,none⟩=some (gH s)):
  Calls prog 241 #[.int .u8 c,gJ b] w λe w'=>e=iq (.bool (jr s c))/\w'=w:=by
 have C:=Tryz.strings_IndexByte s c w;go_enter func241,ntmps241
 go_wp21
 refine C.mono ?_;rintro e w' ⟨rfl,rfl⟩;generalize hx:Lib.indexByte s.data.toList c.toNat.toUInt8=x;have j:jr s c=decide (0<=x):=by unfold jr;rw[hx]
 have d:=fU j;clear j
 by_cases e:0<=x
 .go_wp2;go_ret;exact⟨by rw[d.out];simp[e],rfl⟩
 .go_wp2;go_ret;exact⟨by rw[d.out];simp[e],rfl⟩
def BX (w:gv) (S:List Nat) (b:Nat) (s:gy) (h:w.cell? ⟨b,0,none⟩=some (gH s)) (u:b < w.heap.size) (l:b∉S):Vc w S 241 #[gJ b] (jr s) where
 Yp:=enters_of func241 (by rfl) rfl
 ask c w' _ _ hk:=(Jp b s c w' ((hk.cell (p:=⟨b,0,none⟩) u l).trans h)).mono λe x ⟨d,j⟩=>⟨d,0,j⟩
def oN (s:gy) (w:gv):
  Calls prog 150 #[gH s] w λe w'=>e=iq (.func (.func 241) #[] #[gJ w.heap.size])/\w'=w.alloc (.cells #[gH s] 9):=by
 have j:∀(h:Fn) (first d:jM) (w:gv),(Instr.makeFunc h first d).run prog w= .ok (.func h first d) w:=λ_ _ _ _=>rfl;go_enter func150,ntmps150;go_wp2;go_ret;simp
def P7 (w:gv) (S:List Nat):Vc w S 144 #[] (λc=>decide (97<=c/\c<=122\/65<=c/\c<=90)) where
 Yp:=enters_of func144 (by rfl) rfl
 ask c w' h0 d _:=(Je c w' h0 d).mono λe j ⟨d,h⟩=>⟨d,0,h⟩
def Za (b d:Nat) (s:gy) (c:Int) (w:gv) (h:w.cell? ⟨b,0,none⟩=some (gH s)) (j:w.cell? ⟨d,0,none⟩=some (.func (.func 241) #[] #[gJ b])):
  Calls prog 323 #[.int .u8 c,gJ d] w λe w'=>e=iq (.bool (!jr s c))/\w'=w:=by
 have C:=Jp b s c w h;generalize jr s c=x at C|-;go_enter func323,ntmps323
 go_wp21
 refine C.mono ?_;rintro e w' ⟨rfl,rfl⟩;cases x
 .go_wp2;go_ret;simp
 .go_wp2;go_ret;simp
def XP (w:gv) (S:List Nat) (b d:Nat) (s:gy) (h:w.cell? ⟨b,0,none⟩=some (gH s)) (j:w.cell? ⟨d,0,none⟩=some (.func (.func 241) #[] #[gJ b])) (z:b < w.heap.size) (y:b∉S) (u:d < w.heap.size) (l:d∉S):Vc w S 323 #[gJ d] (λc=>!jr s c) where
 Yp:=enters_of func323 (by rfl) rfl
 ask c w' _ _ hk:=(Za b d s c w' ((hk.cell (p:=⟨b,0,none⟩) z y).trans h) ((hk.cell (p:=⟨d,0,none⟩) u l).trans j)).mono λe A ⟨x,j⟩=>⟨x,0,j⟩
def abn (f:Fn) (x y:jM) (w:gv):
  Calls prog 286 #[.func f x y] w λe w'=>e=iq (.func (.func 323) #[] #[gJ w.heap.size])/\w'=w.alloc (.cells #[.func f x y] 204):=by
 have j:∀(h:Fn) (first d:jM) (w:gv),(Instr.makeFunc h first d).run prog w= .ok (.func h first d) w:=λ_ _ _ _=>rfl;go_enter func286,ntmps286;go_wp2;go_ret;simp
theorem vC (r:Nat) (R:RC) (A ps:Nat) (s:gy) (w:gv) (h:Rd w r R A ps) (U:ps<=R.cs.size) (V:R.cs.size<=1024):
  Calls prog 237 #[gJ r,gH s] w λe w'=>e=p8/\Kept [r] w w'/\Rd w' r R A (scan (λc=>!jr s c) R.cs ps):=by
 have Y:=jk h;have H:=h;clear h;obtain⟨l,d⟩:∃l,l=w.alloc (.cells #[gH s] 9):=⟨_,rfl⟩;obtain⟨u,j⟩:∃u,u=l.alloc (.cells #[.func (.func 241) #[] #[gJ w.heap.size]] 204):=⟨_,rfl⟩;have J:l.heap.size=w.heap.size+1:=by rw[d];simp
 have X:u.heap.size=w.heap.size+2:=by rw[j];simp[J]
 have G:l.heap[w.heap.size]?=some (gI #[gH s] 9):=by rw[d];exact fY w _
 have I:Kept [r] w l:=by rw[d];exact(Kept.refl _ _).alloc _
 have x:Kept [] l u:=by rw[j];exact(Kept.refl _ _).alloc _
 have O:u.heap[l.heap.size]?=some (gI #[.func (.func 241) #[] #[gJ w.heap.size]] 204):=by rw[j];exact fY l _
 have F:=x.at G (by simp);have y:Rd u r R A ps:=by rw[j,d];exact(((Kept.refl [] w).alloc _).alloc _).at H (by simp)
 have K:Kept [r] w u:=I.trans (x.mono (by simp));have hA:Vc u [r] 323 #[gJ l.heap.size] (λc=>!jr s c):=
  XP u [r] w.heap.size l.heap.size s (by simp_all) (by simp_all) (by omega) (by grind) (by omega) (by grind)
 have C:=Rv r R A ps _ _ _ u y U V hA;have B:=fU d;have D:=fU j;clear hA y F O x I G J X d j;go_enter func237,ntmps237
 go_wp21
 refine(oN s w).mono ?_;rintro e w' ⟨rfl,rfl⟩;rw[<-B.out]
 go_wp21
 refine(abn _ _ _ l).mono ?_;rintro e w' ⟨rfl,rfl⟩;rw[<-D.out]
 go_wp21
 refine C.mono ?_;rintro e Z ⟨rfl,z,N⟩;have L:=K.trans z;clear z;go_wp2;go_end0
 grind
structure LD (w:gv) (r:Nat) (R:RC) (g cap:Nat) (cut:Nat->Nat):Prop where
 av:R.av=oY g (R.cs.size+1) cap
 ne:g≠r
 lt:g < w.heap.size
 at_:∀i,i<=R.cs.size->w.cell? ⟨g,i,none⟩=some (gn (cut i))
def LD.kept {d : Nat} {e : Nat->Nat} (h:LD w r R g d e) (j:Kept [r] w w'):LD w' r R g d e:=
 ⟨h.av,h.ne,lV h.lt j.size,λi hi=>(j.cell (p:=⟨g,i,none⟩) h.lt (by simp[h.ne])).trans (h.at_ i hi)⟩
def pS (r:Nat) (R:RC) (j ps g l:Nat) (d:Nat->Nat) (w:gv) (h:Rd w r R j ps) (hA:LD w r R g l d) (u:j<=R.cs.size) (z:ps<=R.cs.size) (F:R.cs.size<=1024):
  Calls prog 69 #[gJ r] w λe w'=>e=iq (.agg #[gn (d j),gn (d ps)])/\Kept [] w w':=by
 have a:=h.gL;rw[hA.av]at a;have p:=h.ps;have b:=h.bg;have A:=hA.at_ j u;have B:=hA.at_ ps z;have D:=jk h;have C:=hA.lt;generalize R.cs.size=n at *;generalize d j=x at *;generalize d ps=y at *;go_enter func69,ntmps69
 go_wp21
 go_region
 all_goals (try go_wp2)
 refine qf (v:= .agg #[gn x,gn y]) ?_ rfl ⟨rfl,((Kept.refl [] w).alloc _).drew⟩;simp[results,results69,asAddr,Result.andThen,go_sem]
def Kept.Ba (h:Below w.heap.size w w'):Kept [] w w':=⟨h.os,h.tape,h.output,h.size,λk d _=>h.block k d⟩
def Gl (w:gv) (r:Nat):Prop:=(∃m,w.cell? ⟨3,0,none⟩=some (gn m))/\3 < w.heap.size/\r≠3
theorem Gl.kept (h:Gl w r) (d:Kept [r] w w'):Gl w' r:=by
 have⟨⟨m,hm⟩,hl,hn⟩:=h;exact⟨⟨m,(d.cell (p:=⟨3,0,none⟩) hl (by grind)).trans hm⟩,lV hl d.size,hn⟩
def oA (s:gy):gy:=⟨(Lib.replaceAll s.data.toList (ByteArray.mk #[0]).data.toList (ByteArray.mk #[239,191,189]).data.toList).toArray⟩
theorem yk (r:Nat) (s:gy) (w:gv) (l:s.size<=1048576) (h:Gl w r):
  Calls prog 140 #[gH s] w λe w'=>e=iq (gH (oA s))/\Kept [] w w':=by
 have⟨⟨m,hm⟩,_,_⟩:=h;have j:=Lib.countB_le ⟨#[0]⟩ (by decide) s.size s (ig _);have C:=Tryz.strings_ReplaceAll s ⟨#[0]⟩ ⟨#[239,191,189]⟩ m w (by omega) hm (by decide) (by have:(ByteArray.mk #[239,191,189]).size=3:=rfl;grind);go_enter func140,ntmps140
 go_wp21
 refine C.mono ?_;rintro e w' ⟨rfl,d⟩;go_wp2;go_ret;exact⟨rfl,Kept.Ba d⟩
def low (c:Int):Int:=if 65<=c/\c<=90 then c+32 else c
def small (s:gy):gy:=⟨s.data.map λb=>if 65<=b.toNat/\b.toNat<=90 then b+32 else b⟩
def sr (s:gy):(small s).size=s.size:=Array.size_map ..
theorem XY (s:gy) (j:Nat) (h:j < s.size):bt (small s) j=low (bt s j):=by
 have u:j < s.data.size:=h;have d:j < (small s).size:=by rw[sr];exact h
 unfold bt low;rw[xM h,xM d];show(((small s).data[j]'d).toNat:Int)=_;have e:(small s).data[j]'d=(if 65<=(s.data[j]).toNat/\(s.data[j]).toNat<=90 then s.data[j]+32 else s.data[j]):=by simp[small]
 rw[e];show _=(if 65<=((s.data[j]).toNat:Int)/\((s.data[j]).toNat:Int)<=90 then ((s.data[j]).toNat:Int)+32 else ((s.data[j]).toNat:Int))
 by_cases l:65<=(s.data[j]).toNat/\(s.data[j]).toNat<=90
 .rw[gF l,gF (by omega),UInt8.toNat_add]
  grind
 grind
def sP (g sz:Nat) (s:gy) (k:Nat) (w wr:gv):Prop:=
 (∃C:jM,wr.heap[g]?=some (.cells C 5 (sz,sz+1))/\C.size=sz/\∀j,j < s.size->C[j]?=some (.int .u8 (if j < k then low (bt s j)else bt s j)))/\Kept [] w wr
theorem sP.cell (h:sP g sz s k w wr) (e:s.size<=sz) (j:Nat) (d:j < s.size):wr.cell? ⟨g,j,none⟩=some (.int .u8 (if j < k then low (bt s j)else bt s j))/\wr.frozen? ⟨g,j,none⟩=false:=by
 have⟨⟨C,hC,_,h⟩,_⟩:=h;exact⟨by rw[xX hC];grind,LZ hC j (by omega)⟩
theorem sP.YU (h:sP g sz s k w wr) (hl:low (bt s k)=bt s k):sP g sz s (k+1) w wr:=by
 grind[sP]
theorem sP.store (h:sP g sz s k w wr) (d:w.heap.size<=g) (l:k < sz):sP g sz s (k+1) w (wr.setCell ⟨g,k,none⟩ (.int .u8 (low (bt s k)))):=by
 have⟨⟨C,hC,hs,h⟩,hk⟩:=h;refine⟨⟨_,DX hC k _,by grind,λj e=>?_⟩,hk.setCell (.inr d) _⟩
 grind
theorem vP (s:gy) (w:gv) (V:s.size<=1048576):
  Calls prog 231 #[gH s] w λe w'=>e=iq (gH (small s))/\Kept [] w w':=by
 have l:=run_bytes_of_string (P:=prog) w 9 50 5 s underlying9 underlying50 underlying5;obtain⟨u,A⟩:∃u,u=grownCap w s.size 0 5:=⟨_,rfl⟩;rw[<-A]at l;clear A;have F:=xx s u;have C:∀j,j < s.size->(bytesRow s u)[j]?=some (.int .u8 (bt s j)):=λj B=>by rw[bytesRow_at s u j B,<-get_bt s j B];rfl
 generalize bytesRow s u=R at l F C;obtain⟨z,h⟩:∃z,z=w.drew.alloc (.cells R 5 (R.size,R.size+1)):=⟨_,rfl⟩;rw[<-h]at l;have J:z.heap[w.heap.size]?=some (.cells R 5 (R.size,R.size+1)):=by rw[h];exact fY w.drew _
 have I:Kept [] w z:=by rw[h];exact(Kept.refl [] w).drew.alloc _
 clear h;have L:Hid (sP w.heap.size R.size s 0 w z):=⟨⟨R,J,rfl,λj B=>by grind⟩,I⟩;clear J I C;generalize R.size=sz at *;go_enter func231,ntmps231
 go_wp21
 clear l
 go_loopw [10] (λi wr=>∃k:Nat,k<=s.size/\i=gn k/\sP w.heap.size sz s k w wr) (λi _=>s.size - (intOf i).toNat)
 case atStart=>exact⟨0,iO _,rfl,L⟩
 case round=>
  obtain⟨k,U,rfl,d⟩:=hrel
  by_cases H:k < s.size
  .have⟨c1,f1⟩:=d.cell F k H;rw[gQ (by omega)]at c1;have N:=bt_nonneg s k;have O:=bt_le s k
   by_cases a:65<=bt s k
   .by_cases b:bt s k<=90
    have D:=d.store (ig _) (by omega);have x:low (bt s k)=bt s k - 65+97:=by unfold low;rw[gF ⟨a,b⟩];omega
    rw[x]at D;clear x
    rotate_left
    have D:=d.YU (by unfold low;omega)
    all_goals
     generalize bt s k=c at *;go_wp2;go_roundw
     case rel=>grind
     case measure=>simp[intOf];omega
   .have D:=d.YU (by unfold low;omega);generalize bt s k=c at *;go_wp2;go_roundw
    case rel=>grind
    case measure=>simp[intOf];omega
  .have e:k=s.size:=by omega
   subst e;have G:(convert 50 9 (oY w.heap.size s.size u)).run prog wr= .ok (gH (small s)) wr:=by
    have:=OE (P:=prog) wr 50 9 5 ⟨w.heap.size,0,none⟩ u (small s).data.toList underlying50 underlying5 underlying9 (λj B=>by
     have y:j < s.size:=by have:=sr s;simp at B;have e:(small s).data.size=(small s).size:=rfl;omega
     rw[iY];have:=(d.cell F j y).1;rw[gF y]at this;rw[this,<-XY s j y,<-get_bt (small s) j (by simp_all)];rfl)
    have e2:(small s).data.toList.length=s.size:=by simp;exact sr s
    rw[e2]at this
    simpa using this
   have K:=d.2;go_wp2;go_ret;exact⟨rfl,K⟩
def qu (x y:Int) (nm:gy) (O:gO) (gL:lh) (w:gv) (hA:yF w O gL) (hn:gL.length<=4096) (N:∀a∈gL,a.2.size<=1048576):
  Calls prog 212 #[.agg #[gn x,gn y,gH nm,O]] w λe w'=>e=iq (.bool (us gL))/\Kept [] w w':=by
 have⟨ao,cp,hav⟩:=gG hA;subst hav;obtain⟨F,u⟩:∃F,F=w.alloc (gI #[gn x,gn y,gH nm,.slice ao gL.length cp] 173):=⟨_,rfl⟩;have h:Kept [] w F:=by rw[u];exact(Kept.refl _ _).alloc _
 have U:=h.ownsRow hA (λ_ _=>by simp);have V:=fU u.symm;have X:=N;clear u;obtain⟨R,J⟩:∃R,R=us gL:=⟨_,rfl⟩;rw[<-J];have I:Hid (R=us (gL.drop 0)):=fU J;clear J;go_enter func212,ntmps212
 go_wp21
 rw[V.out]
 go_loopw [8] (λv wr=>∃d:Nat,v=gn d/\d<=gL.length/\R=us (gL.drop d)/\Kept [] F wr) (λv _=>gL.length - (intOf v).toNat)
 case atStart=>exact⟨0,rfl,iO _,I,Kept.refl _ _⟩
 case round=>
  obtain⟨d,rfl,Y,A,B⟩:=hrel
  by_cases l:d < gL.length
  .obtain⟨g,rfl,c0,c1⟩:=yF.at2 (B.ownsRow U (λ_ _=>by simp)) l;have N:=X gL[d] (uR l);rw[C7 l]at A;have D:Hid (R=if kC gL[d].1 nI then kC (Tq gL[d].2) lD else us (gL.drop (d+1))):=fU A;have G:=fU B;clear B A;generalize gL[d].1=a at *;generalize gL[d].2=b at *;have C:=(λW=>vP b W N);have z:=G.alloc (gI #[gH a,gH b] 275);cases hq:kC a nI with
   |true=>
    have L:(a.toList==[116,121,112,101])=true:=by rw[<-hq];unfold kC;rw[sJ (nI)]
    have j:=fU (show R=kC (Tq b) lD by rw[D.out,hq];rfl)
    go_wp21
    refine(C _).mono ?_;rintro e Z ⟨rfl,K⟩;have H:=z.trans K;go_wp2;go_ret;refine⟨?_,h.trans H⟩;rw[j.out];unfold kC;rw[sJ (lD)];rfl
   |false=>
    have L:(a.toList==[116,121,112,101])=false:=by rw[<-hq];unfold kC;rw[sJ (nI)]
    have j:=fU (show R=us (gL.drop (d+1)) by rw[D.out,hq];rfl);go_wp2;go_roundw
    case rel=>exact⟨d+1,by go_num,by omega,j,z⟩
    case measure=>simp[intOf];omega
  .have D:Hid (R=false):=fU (by rw[A,Gw (by omega)];rfl);have G:=fU B;clear B A;go_wp2;go_ret;exact⟨by rw[D.out];rfl,h.trans G⟩
def Bn (E:Env) (rec:Nat->gM->M Unit) (hA:∀(m:Nat) (t:gM),jd E t->ja E 153 (λ_=>#[Bp E,gn m,iF E t]) (rec m t) uV) (t:gM) (y:jd E t) (G:∀a∈t.js,a.2.size<=1048576):ja E 115 (λ_=>#[Bp E,iF E t]) (kO rec t) uV:=by
 intro f σ w h HS;have C:∃A n B,E.tv= .slice A n B:=by
  have⟨L,_,hr⟩:=h;have⟨A,B,e⟩:=gG hr.tok;exact⟨A,_,B,e⟩
 have F:=(λW=>yx E t W C);have x:Hid (∀W,Kept [] w W->Calls prog 212 #[.agg (zl E t)] W λe K=>e=iq (.bool (us t.js))/\Kept [] W K):=fU (by
  intro W N;have⟨L,_,hr⟩:=h.il N;have⟨a,b,k,gL⟩:=t;cases k with
  |start n=>
   have e:gL=E.ta:=y rfl;subst e;exact qu a b n E.tv E.ta W hr.tok hr.Ly G
  |stop n=>
   have e:gL=E.ta:=y rfl;subst e;exact qu a b n E.tv E.ta W hr.tok hr.Ly G
  |ke s=>exact qu 0 0 _ _ [] W (oX _ _ _ _) (by simp) (by simp)
  |gR s=>exact qu 0 0 _ _ [] W (oX _ _ _ _) (by simp) (by simp)
  |iM n q=>exact qu 0 0 _ _ [] W (oX _ _ _ _) (by simp) (by simp)
  |lost=>exact qu 0 0 _ _ [] W (oX _ _ _ _) (by simp) (by simp)
  |im=>exact qu 0 0 _ _ [] W (oX _ _ _ _) (by simp) (by simp))
 obtain⟨R,j⟩:∃R,R=(kO rec t) σ:=⟨_,rfl⟩;rw[<-j]at HS|-;unfold kO at j;have H:=At.start h;cases hq:us t.js with
 |true=>
  rw[hq]at x j;have l:Hid (R=(lx t>>=λ_=>(Pure.pure ():M Unit)) σ):=fU j;clear j;generalize hav:zl E t=O at *;go_enter func115,ntmps115
  go_wp21
  refine(F _).mono ?_;rintro e D ⟨rfl,d⟩;have z:=x D d;replace H:=H.k0 d
  go_wp21
  refine z.mono ?_;rintro e U ⟨rfl,u⟩;replace H:=H.k0 u
  go_wp21
  refine dC (vz E (iK E) t y) H l HS rfl lT ?_;rintro(_) f σ w H J I l;go_wp2;go_end0;exact gu l H rfl
 |false=>
  rw[hq]at x j;have l:Hid (R=(sV rec t>>=λ_=>(Pure.pure ():M Unit)) σ):=fU j;clear j;generalize hav:zl E t=O at *;go_enter func115,ntmps115
  go_wp21
  refine(F _).mono ?_;rintro e D ⟨rfl,d⟩;have z:=x D d;replace H:=H.k0 d
  go_wp21
  refine z.mono ?_;rintro e U ⟨rfl,u⟩;replace H:=H.k0 u
  go_wp21
  refine dC (DE E rec hA t y) H l HS rfl lT ?_;rintro(_) f σ w H J I l;go_wp2;go_end0;exact gu l H rfl
def Ws (E:Env) (t:gM):lR E .nothing t (Pure.pure ()):=by
 intro v f σ w h d e;refine⟨79,#[],#[],d,enters_of func79 (by rfl) rfl,?_⟩;have H:=At.start h;show Calls prog 79 #[iF E t] w _;generalize iF E t=j;go_enter func79,ntmps79;go_wp2;go_end0;exact gu rfl H rfl
def iT (E:Env) (t:gM) (k:Nat) (m:M Unit) (e:∀d w,(callFunc k d).run prog w= .ok (.enter k d) w) (h:ja E k (λ_=>#[Bp E,iF E t]) m uV):lR E (.ie k) t m:=by
 intro v f σ w j u l;exact⟨k,#[iC E.bB],#[],u,e,h f σ w j l⟩
def zk (E:Env) (r:Ru) (t:gM):lR E r t stuck:=λ_ _ _ _ _ _ d=>absurd rfl d
def Ss (E:Env) (t:gM):ja E 106 (λ_=>#[Bp E,iF E t]) (yb t) uV:=by
 refine dI λf σ w R d HS H=>?_;unfold yb at d;go_enter func106,ntmps106;have⟨ta,tb,tao,tn,tcp,HTG⟩:=Eg E t H.rel;have h:=λw=>AG ta tb t.name tao tn tcp w
 go_wp21
 refine(HTG _).mono ?_;rintro e x ⟨rfl,j⟩;replace H:=H.k0 j
 go_wp21
 refine dC (IC E t.name) H d HS rfl lT ?_;rintro(_) f σ w H u l d;go_wp2;go_end0;exact gu d H rfl
def wD (t:gM):Bool:=t.js.all λa=>decide (a.2.size<=1048576)
def Dx (f:Nat):Option (M Bool):=
 if f=120 then some tJ else
 if f=127 then some endCell else
 if f=121 then some mB else
 if f=126 then some EH else
 if f=132 then some vG else
 if f=123 then some qP else
 if f=113 then some yc else
 none
def Yl (E:Env) {f : Nat} {b:M Bool} (h:Dx f=some b):j9 E f (λ_=>#[Bp E]) b bV/\∀d w,(callFunc f d).run prog w= .ok (.enter f d) w:=by
 unfold Dx at h;split at h
 .rename_i e;subst e;cases h;exact⟨Ni E,enters_of func120 (by rfl) rfl⟩
 split at h
 .rename_i e;subst e;cases h;exact⟨VR E,enters_of func127 (by rfl) rfl⟩
 split at h
 .rename_i e;subst e;cases h;exact⟨ED E,enters_of func121 (by rfl) rfl⟩
 split at h
 .rename_i e;subst e;cases h;exact⟨Yn E,enters_of func126 (by rfl) rfl⟩
 split at h
 .rename_i e;subst e;cases h;exact⟨Ps E,enters_of func132 (by rfl) rfl⟩
 split at h
 .rename_i e;subst e;cases h;exact⟨IF E,enters_of func123 (by rfl) rfl⟩
 split at h
 .rename_i e;subst e;cases h;exact⟨Sv E,enters_of func113 (by rfl) rfl⟩
 cases h
def Qc (lk:Bool) (tY rec:Nat->gM->M Unit) (t:gM) (f:Nat):M Unit:=
 if f=95 then AZ else
 if f=101 then yT else
 if f=190 then yP else
 if f=193 then tK else
 if f=194 then A0 else
 if f=195 then Pq else
 if f=196 then uI else
 if f=197 then yQ else
 if f=199 then sC else
 if f=137 then IA else
 if f=134 then mN else
 if f=133 then jl else
 if f=82 then ox t else
 if f=85 then yt t else
 if f=89 then yu t else
 if f=97 then ue t else
 if f=91 then j7 t else
 if f=92 then lx t else
 if f=102 then nG t else
 if f=104 then lz t else
 if f=185 then sI t else
 if f=174 then mX t else
 if f=175 then wF t else
 if f=176 then oo t else
 if f=177 then xn t else
 if f=178 then ug t else
 if f=180 then ph t else
 if f=181 then sx t else
 if f=183 then pj t else
 if f=184 then qA t else
 if f=186 then re t else
 if f=187 then iV t else
 if f=188 then sG t else
 if f=189 then pi t else
 if f=192 then x9 t else
 if f=106 then yb t else
 if f=198 then pR t else
 if f=108 then pB t else
 if f=125 then ra t else
 if f=114 then me t else
 if f=128 then pr t else
 if f=129 then j5 t else
 if f=130 then jv t else
 if f=131 then lL t else
 if f=93 then ui t else
 if f=94 then oR t else
 if f=182 then pW t else
 if f=172 then oG t else
 if f=173 then qm t else
 if f=83 then lG rec t else
 if f=86 then pa rec t else
 if f=90 then pc rec t else
 if f=96 then nC rec t else
 if f=99 then nw rec t else
 if f=98 then tF rec t else
 if f=100 then Ds rec t else
 if f=191 then yR rec t else
 if f=228 then vV rec t else
 if f=117 then sV rec t else
 if f=107 then o9 rec t else
 if f=115 then (if wD t then kO rec t else stuck)else
 if f=118 then (if lk then stuck else oJ t)else
 if f=119 then (if lk then stuck else mi tY rec t)else
 stuck
theorem li {E : Env} {f : Nat} {a b:M Unit} (d:lR E (.ie k) t a) (e:lR E (.ie f) t b):lR E (.ie f) t (if f=k then a else b):=by
 grind
section
variable (E:Env) (lk:Bool) (hl:lk=false->E.wv=none) (hi:E.EM=7) (tY rec:Nat->gM->M Unit)
variable (hAL:∀v ws (m:Nat) (t:gM),jd E t->ja (E.lock v ws) 153 (λ_=>#[Bp E,.int .i64 (m:Int),iF E t]) (tY m t) uV)
variable (hA:∀(m:Nat) (t:gM),jd E t->ja E 153 (λ_=>#[Bp E,.int .i64 (m:Int),iF E t]) (rec m t) uV)
include hl hi hAL hA
theorem abg (f:Nat) (t:gM) (d:jd E t):lR E (.ie f) t (Qc lk tY rec t f):=by
 unfold Qc;refine li (iT E t _ _ (enters_of func95 (by rfl) rfl) (LS E t)) ?_;refine li (iT E t _ _ (enters_of func101 (by rfl) rfl) (LU E t)) ?_;refine li (iT E t _ _ (enters_of func190 (by rfl) rfl) (VP E t)) ?_;refine li (iT E t _ _ (enters_of func193 (by rfl) rfl) (Nj E t)) ?_;refine li (iT E t _ _ (enters_of func194 (by rfl) rfl) (VU E t)) ?_;refine li (iT E t _ _ (enters_of func195 (by rfl) rfl) (ads E t)) ?_;refine li (iT E t _ _ (enters_of func196 (by rfl) rfl) (Sn E (iK E) t)) ?_;refine li (iT E t _ _ (enters_of func197 (by rfl) rfl) (VS E t)) ?_;refine li (iT E t _ _ (enters_of func199 (by rfl) rfl) (Pn E t)) ?_;refine li (iT E t _ _ (enters_of func137 (by rfl) rfl) (Yj E t)) ?_;refine li (iT E t _ _ (enters_of func134 (by rfl) rfl) (Bk E t)) ?_;refine li (iT E t _ _ (enters_of func133 (by rfl) rfl) (zO E t)) ?_;refine li (iT E t _ _ (enters_of func82 (by rfl) rfl) (GJ E t)) ?_;refine li (iT E t _ _ (enters_of func85 (by rfl) rfl) (Q6 E t d)) ?_;refine li (iT E t _ _ (enters_of func89 (by rfl) rfl) (Q7 E (iK E) t d)) ?_;refine li (iT E t _ _ (enters_of func97 (by rfl) rfl) (Q0 E (iK E) t d)) ?_;refine li (iT E t _ _ (enters_of func91 (by rfl) rfl) (vy E (iK E) t)) ?_;refine li (iT E t _ _ (enters_of func92 (by rfl) rfl) (vz E (iK E) t d)) ?_;refine li (iT E t _ _ (enters_of func102 (by rfl) rfl) (M7 E (iK E) t)) ?_;refine li (iT E t _ _ (enters_of func104 (by rfl) rfl) (rh E (iK E) t d)) ?_;refine li (iT E t _ _ (enters_of func185 (by rfl) rfl) (Rb E (iK E) t d)) ?_;refine li (iT E t _ _ (enters_of func174 (by rfl) rfl) (vF E (iK E) t d)) ?_;refine li (iT E t _ _ (enters_of func175 (by rfl) rfl) (Tv E (iK E) t d)) ?_;refine li (iT E t _ _ (enters_of func176 (by rfl) rfl) (JV E (iK E) t d)) ?_;refine li (iT E t _ _ (enters_of func177 (by rfl) rfl) (WW E (iK E) t d)) ?_;refine li (iT E t _ _ (enters_of func178 (by rfl) rfl) (Q5 E t d)) ?_;refine li (iT E t _ _ (enters_of func180 (by rfl) rfl) (Ls E t d)) ?_;refine li (iT E t _ _ (enters_of func181 (by rfl) rfl) (Ok E t d)) ?_;refine li (iT E t _ _ (enters_of func183 (by rfl) rfl) (Lu E (iK E) t d)) ?_;refine li (iT E t _ _ (enters_of func184 (by rfl) rfl) (Lw E t d)) ?_;refine li (iT E t _ _ (enters_of func186 (by rfl) rfl) (Q8 E t d)) ?_;refine li (iT E t _ _ (enters_of func187 (by rfl) rfl) (ol E t d)) ?_;refine li (iT E t _ _ (enters_of func188 (by rfl) rfl) (Q9 E t d)) ?_;refine li (iT E t _ _ (enters_of func189 (by rfl) rfl) (Lt E (iK E) t d)) ?_;refine li (iT E t _ _ (enters_of func192 (by rfl) rfl) (Sl E t)) ?_;refine li (iT E t _ _ (enters_of func106 (by rfl) rfl) (Ss E t)) ?_;refine li (iT E t _ _ (enters_of func198 (by rfl) rfl) (GC E t)) ?_;refine li (iT E t _ _ (enters_of func108 (by rfl) rfl) (JU E (iK E) t d)) ?_;refine li (iT E t _ _ (enters_of func125 (by rfl) rfl) (Q4 E t d)) ?_;refine li (iT E t _ _ (enters_of func114 (by rfl) rfl) (CG E t d)) ?_;refine li (iT E t _ _ (enters_of func128 (by rfl) rfl) (Ih E (iK E) t)) ?_;refine li (iT E t _ _ (enters_of func129 (by rfl) rfl) (zS E (iK E) t d)) ?_;refine li (iT E t _ _ (enters_of func130 (by rfl) rfl) (sH E (iK E) t d)) ?_;refine li (iT E t _ _ (enters_of func131 (by rfl) rfl) (Ec E (iK E) t d)) ?_;refine li (iT E t _ _ (enters_of func93 (by rfl) rfl) (by exact Gr E hi t d)) ?_;refine li (iT E t _ _ (enters_of func94 (by rfl) rfl) (by exact Fl E hi t d)) ?_;refine li (iT E t _ _ (enters_of func182 (by rfl) rfl) (by exact GL E hi t d)) ?_;refine li (iT E t _ _ (enters_of func172 (by rfl) rfl) (by exact SA E t (λi=>YB E t d i))) ?_;refine li (iT E t _ _ (enters_of func173 (by rfl) rfl) (by exact Sz E t (λi=>YB E t d i))) ?_;refine li (iT E t _ _ (enters_of func83 (by rfl) rfl) (zT E rec hA t d)) ?_;refine li (iT E t _ _ (enters_of func86 (by rfl) rfl) (K8 E rec hA t d)) ?_;refine li (iT E t _ _ (enters_of func90 (by rfl) rfl) (K9 E (iK E) rec hA t d)) ?_;refine li (iT E t _ _ (enters_of func96 (by rfl) rfl) (Cf E rec hA t d)) ?_;refine li (iT E t _ _ (enters_of func99 (by rfl) rfl) (K5 E (iK E) rec hA t d)) ?_;refine li (iT E t _ _ (enters_of func98 (by rfl) rfl) (M3 E rec hA t d)) ?_;refine li (iT E t _ _ (enters_of func100 (by rfl) rfl) (VJ E rec hA t d)) ?_;refine li (iT E t _ _ (enters_of func191 (by rfl) rfl) (VT E rec hA t d)) ?_;refine li (iT E t _ _ (enters_of func228 (by rfl) rfl) (M2 E rec hA t d)) ?_;refine li (iT E t _ _ (enters_of func117 (by rfl) rfl) (DE E rec hA t d)) ?_;refine li (iT E t _ _ (enters_of func107 (by rfl) rfl) (KJ E rec hA t d)) ?_
 by_cases e:f=115
 .rw[gF e];subst e;refine iT E t _ _ (enters_of func115 (by rfl) rfl) ?_
  by_cases j:wD t=true
  .rw[gF j];exact Bn E rec hA t d (λa l=>by unfold wD at j;grind)
  .rw[gQ j];exact λ_ _ _ _ h=>absurd rfl h
 rw[gQ e];clear e
 by_cases e:f=118
 .rw[gF e];subst e;refine iT E t _ _ (enters_of func118 (by rfl) rfl) ?_
  (cases lk with
   |true=>exact λ_ _ _ _ h=>absurd rfl h
   |false=>exact SM E (hl rfl) t)
 rw[gQ e];clear e
 by_cases e:f=119
 .rw[gF e];subst e;refine iT E t _ _ (enters_of func119 (by rfl) rfl) ?_
  (cases lk with
   |true=>exact λ_ _ _ _ h=>absurd rfl h
   |false=>exact IG E (hl rfl) tY rec hAL hA t d)
 rw[gQ e]
 grind[lR,stuck]
end
def sS:M (Nat×Nat):=λσ=>match iB σ.gz 0 with
 |some i=>jy i σ
 |none=> .stuck
def x7 (d:Nat) (own:Bool) (t:gM):M Unit:=
 if d=87/\own=true then nU mW t else
 if d=136/\own=true then nU sS t else
 if d=81/\own=false then nU (jy 0) t else
 stuck
def Li {σ1 : Ab} {pl : Nat×Nat} (h:placeFor i σ= .ok pl σ1):σ1=σ:=by
 unfold placeFor at h;split at h
 .exact oF h
 .exact pt h
theorem qO (i:Nat) (σ:Ab) (c p:Nat):jy i σ≠ .stop c p:=by
 grind[jy]
theorem zC (i:Nat) (σ:Ab) (c p:Nat):mD i σ≠ .stop c p:=by
 intro h;unfold mD at h;split at h
 .split at h
  .grind
  .split at h
   .exact qO _ _ _ _ h
   grind
 grind
theorem wh (σ:Ab) (c p:Nat):j4 σ≠ .stop c p:=by
 intro h;unfold j4 at h;split at h
 .split at h
  .exact zC _ _ _ _ h
  .cases h
  .split at h
   .exact qO _ _ _ _ h
   grind
 grind
theorem Lj (E:Env):Dg E 87 true mW where
 Yp:=enters_of func87 (by rfl) rfl
 same:=by
  intro σ j e h;unfold mW at h;split at h
  .exact Li h
  grind
 NW:=by
  intro σ c p h;unfold mW at h;split at h
  .unfold placeFor at h;split at h
   .exact wh _ _ _ h
   .exact qO _ _ _ _ h
  grind
 aaL:=λf σ w h d=>Hc E (iK E) f σ w h d
def Pc (E:Env):Dg E 81 false (jy 0) where
 Yp:=enters_of func81 (by rfl) rfl
 same:=λ_ _ _ h=>pt h
 NW:=λσ c p=>qO 0 σ c p
 aaL:=λf σ w h d=>FX E 0 f σ w h d
theorem Nw (E:Env):Dg E 136 true sS where
 Yp:=enters_of func136 (by rfl) rfl
 same:=by
  intro σ j e h;unfold sS at h;split at h
  .exact pt h
  grind
 NW:=by
  intro σ c p h;unfold sS at h;split at h
  .exact qO _ _ _ _ h
  grind
 aaL:=by
  intro f σ w h d;unfold sS at d|-;cases hq:iB σ.gz 0 with
  |none=>rw[hq]at d;exact absurd rfl d
  |some i=>
   rw[hq]at d;exact Po E i h hq d
def aaI (E:Env) (j:Nat) (own:Bool) (t:gM):lR E (.gR j own) t (x7 j own t):=by
 have d:∀l,Dg E j own l->lR E (.gR j own) t (nU l t):=by
  intro l u v f σ w h y x;have⟨b1,e,hb⟩:=y;exact⟨_,_,_,e,enters_of func155 (by rfl) rfl,Se E j own l u t b1 h x hb⟩
 unfold x7;split
 .rename_i e;have⟨e1,e2⟩:=e;subst e1;subst e2;exact d _ (Lj E)
 split
 .rename_i e;have⟨e1,e2⟩:=e;subst e1;subst e2;exact d _ (Nw E)
 split
 .rename_i e;have⟨e1,e2⟩:=e;subst e1;subst e2;exact d _ (Pc E)
 exact zk E _ t
def pu (lk:Bool) (tY rec:Nat->gM->M Unit):Ru->gM->M Unit
 | .nil,_=>stuck
 | .nothing,_=>Pure.pure ()
 | .ie f,t=>Qc lk tY rec t f
 | .pq m,t=>if 0<=m then rec m.toNat t else stuck
 | .gR pf own,t=>x7 pf own t
 | .ahead f,t=>match Dx f with
  |some b=>xw rec b t
  |none=>stuck
 | .ends f,_=>match Dx f with
  |some b=>DA b
  |none=>stuck
 | .Nz r,t=>K4 (pu lk tY rec r t) t
 | .rG ks m,t=>if 0<=m then uE ks m.toNat t else stuck
 | .nJ ks name m,t=>if 0<=m then pJ rec ks name m.toNat t else stuck
 | .item ks,t=>F9 ks t
section
variable (E:Env) (lk:Bool) (hl:lk=false->E.wv=none) (hi:E.EM=7) (tY rec:Nat->gM->M Unit)
variable (hAL:∀v ws (m:Nat) (t:gM),jd E t->ja (E.lock v ws) 153 (λ_=>#[Bp E,.int .i64 (m:Int),iF E t]) (tY m t) uV)
variable (hA:∀(m:Nat) (t:gM),jd E t->ja E 153 (λ_=>#[Bp E,.int .i64 (m:Int),iF E t]) (rec m t) uV)
include hl hi hAL hA
def PE (t:gM) (l:jd E t):∀r,lR E r t (pu lk tY rec r t)
 | .nil=>zk E _ t
 | .nothing=>Ws E t
 | .ie f=>abg E lk hl hi tY rec hAL hA f t l
 | .pq m=>by
  show lR E (.pq m) t (if 0<=m then rec m.toNat t else stuck);split
  .rename_i x;intro v f σ w h j d;have⟨b1,b2,e,hb1,hb2⟩:=j;have y:m=((m.toNat:Nat):Int):=by omega
   rw[y]at hb2;exact⟨_,_,_,e,enters_of func161 (by rfl) rfl,aav E rec hA t l m.toNat b1 b2 h d hb1 hb2⟩
  .exact zk E _ t
 | .gR pf own=>aaI E pf own t
 | .ahead k=>by
  show lR E (.ahead k) t (match Dx k with|some b=>xw rec b t|none=>stuck)
  cases hb:Dx k with
  |none=>exact zk E _ t
  |some b=>
   intro v f σ w h j d;have⟨b1,b2,e,hb1,hb2⟩:=j;have⟨x,he⟩:=Yl E hb;exact⟨_,_,_,e,enters_of func208 (by rfl) rfl,Nl E rec hA t l b k x he b1 b2 h d hb1 hb2⟩
 | .ends k=>by
  show lR E (.ends k) t (match Dx k with|some b=>DA b|none=>stuck)
  cases hb:Dx k with
  |none=>exact zk E _ t
  |some b=>
   intro v f σ w h j d;have⟨b1,e,hb1⟩:=j;have⟨x,he⟩:=Yl E hb;exact⟨_,_,_,e,enters_of func213 (by rfl) rfl,aaQ E t b k x he b1 h d hb1⟩
 | .Nz r=>by
  intro v f σ w h j d;have⟨b1,b2,u,e,hb1,hb2,hu⟩:=j;exact⟨_,_,_,e,enters_of func218 (by rfl) rfl,Ny E t r _ (PE t l r) b1 b2 u h d hb1 hb2 hu⟩
 | .rG ks m=>by
  show lR E (.rG ks m) t (if 0<=m then uE ks m.toNat t else stuck);split
  .rename_i x;intro v f σ w h j d;have⟨b1,b2,b3,u,e,hb1,hb2,ha,hb3⟩:=j;have y:m=((m.toNat:Nat):Int):=by omega
   rw[y]at hb3;obtain⟨k,z,rfl,_,_⟩:=ha.call;exact⟨_,_,_,e,enters_of func205 (by rfl) rfl,Gs E t l ks m.toNat b1 b2 b3 k z h d hb1 hb2 ha hb3⟩
  .exact zk E _ t
 | .nJ ks name m=>by
  show lR E (.nJ ks name m) t (if 0<=m then pJ rec ks name m.toNat t else stuck);split
  .rename_i x;intro v f σ w h j d;have⟨b1,b2,b3,b4,u,e,hb1,hb2,ha,hb3,hb4⟩:=j;have y:m=((m.toNat:Nat):Int):=by omega
   rw[y]at hb4;obtain⟨k,z,rfl,_,_⟩:=ha.call;exact⟨_,_,_,e,enters_of func207 (by rfl) rfl,by first|exact DG E rec hA t l ks name m.toNat b1 b2 b3 b4 k z h d hb1 hb2 ha hb3 hb4|exact DG E rec hA t l ks name m.toNat b1 b2 b3 b4 k z h d hb1 hb2 hb3 hb4 ha⟩
  .exact zk E _ t
 | .item ks=>by
  intro v f σ w h j d;have⟨b1,b2,b3,u1,u2,e,hb1,hb2,ha1,hb3,ha2⟩:=j;obtain⟨C,A,rfl,_,_⟩:=ha1.call;obtain⟨D,B,rfl,_,_⟩:=ha2.call;exact⟨_,_,_,e,enters_of func263 (by rfl) rfl,Oh E t l ks b1 b2 b3 C D A B h d hb1 hb2 ha1 hb3 ha2⟩
end
def gZ:Bool->Nat->Nat->gM->M Unit
 |_,0,_,_=>stuck
 |lk,n+1,m,t=>match t.k with
  | .lost=>stuck
  |_=>asM (pu lk (gZ true n) (gZ lk n)) m t
theorem adW (E:Env) (H:∃x m c,E.tv= .slice x m c) (t:gM) (h:t.k≠ .lost):aco E t:=by
 have⟨a,b,k,gL⟩:=t;cases k with
 |ke s=>exact λd e sp l u y z A B C D F G w j=>abt E d e a b s gL sp l u y z A B C D F G w j
 |im=>exact λd e sp l u y z A B C D F G w j=>S3 E d e a b gL sp l u y z A B C D F G w j
 |start n=>exact λd e sp l u y z A B C D F G w j=>Zj E d e a b n gL sp l u y z A B C D F G w j H
 |stop n=>exact λd e sp l u y z A B C D F G w j=>abu E d e a b n gL sp l u y z A B C D F G w j H
 |gR s=>exact λd e sp l u y z A B C D F G w j=>SY E d e a b s gL sp l u y z A B C D F G w j
 |iM n q=>exact λd e sp l u y z A B C D F G w j=>SZ E d e a b n q gL sp l u y z A B C D F G w j
 |lost=>grind
def J7 (lk:Bool) (n m:Nat) (t:gM) (h:t.k≠ .lost):gZ lk (n+1) m t=asM (pu lk (gZ true n) (gZ lk n)) m t:=by
 simp[gZ]
def Ou:∀(n:Nat) (lk:Bool) (E:Env),(lk=false->E.wv=none)->E.EM=7->(∃x m c,E.tv= .slice x m c)->∀(m:Nat) (t:gM),jd E t->ja E 153 (λ_=>#[Bp E,gn m,iF E t]) (gZ lk n m t) uV
 |0,_,_,_,_,_,_,_,_=>λ_ _ _ _ j=>absurd rfl j
 |n+1,lk,E,hl,hi,htv,m,t,l=>by
  by_cases d:t.k= .lost
  .have e:gZ lk (n+1) m t=stuck:=by
    have⟨a,b,k,gL⟩:=t;cases d;rfl
   rw[e];exact λ_ _ _ _ j=>absurd rfl j
  .rw[J7 lk n m t d];exact ZQ E _ t (adW E htv t d) (λr=>PE E lk hl hi (gZ true n) (gZ lk n) (λv ws m t l=>Ou n true (E.lock v ws) (λh=>by cases h) hi htv m t l) (Ou n lk E hl hi htv) t l r) m
def Vj (E:Env) (rec:Nat->gM->M Unit) (a b:Nat) (gL:lh):ja E 38 (λ_=>#[Bp E,iF E ⟨a,b,.lost,gL⟩]) (vn rec ⟨a,b,.lost,gL⟩) uV:=by
 intro f σ w h j;have e:vn rec ⟨a,b,.lost,gL⟩ σ= .ok () σ:=rfl;rw[e];simp only[iF];have d:=qC underlying169;have H:=fU ((At.start h).k0 ((Kept.refl [] w).alloc (gI #[gn a,gn b] 169)));clear h j e;go_enter func38,ntmps38;go_wp2;go_end0;exact gu rfl H.out rfl
section
variable (lk:Bool) (tY rec:Nat->gM->M Unit) (t:gM)
end
def XD (E:Env) (hl:E.wv=none) (hi:E.EM=7) (e:∃x m c,E.tv= .slice x m c) (n:Nat) (t:gM) (d:jd E t):ja E 38 (λ_=>#[Bp E,iF E t]) (vn (gZ false n) t) uV:=by
 have hA:=Ou n false E (λ_=>hl) hi e;have⟨a,b,k,gL⟩:=t;cases k with
 |ke s=>exact xS E _ hA _ d nofun rfl (by decide) λw=>by kernel_rfl
 |start s=>exact xS E _ hA _ d nofun rfl (by decide) λw=>by generalize E.tv=x;kernel_rfl
 |stop s=>exact xS E _ hA _ d nofun rfl (by decide) λw=>by generalize E.tv=x;kernel_rfl
 |gR s=>exact xS E _ hA _ d nofun rfl (by decide) λw=>by kernel_rfl
 |iM s q=>exact xS E _ hA _ d nofun rfl (by decide) λw=>by kernel_rfl
 |lost=>exact Vj E _ a b gL
 |im=>exact xS E _ hA _ d nofun rfl (by decide) λw=>by kernel_rfl
theorem vL {n : gy} {r : Ru}:∀{R:List (List gy×Ru)},pg R n=some r->∃p∈R,ij p.1 n=true/\p.2=r
 |[],h=>by cases h
 |p::R,h=>by
  unfold pg at h
  by_cases d:ij p.1 n=true
  .grind
  .rw[gQ d]at h;have⟨q,h1,h2⟩:=vL h
   grind
theorem Ji {n : gy}:∀{R:List (List gy×Ru)},pg R n=none->∀p∈R,ij p.1 n=false
 |[],_,p,d=>by cases d
 |q::R,h,p,d=>by
  unfold pg at h
  by_cases e:ij q.1 n=true
  .grind
  .rw[gQ e]at h;rcases List.mem_cons.1 d with rfl|d
   .grind
   .exact Ji h p d
def Un (t:gM):Bool:=match t.k with
 | .start _=>true
 |_=>false
structure uU (t:gM):Prop where
 sz:t.chars.size<=100
 sm:wD t=true
 nl:t.k≠ .lost
def Hn (σ:Ab) (t:gM):Prop:=Un t=true->σ.fresh=true
def Hn.tag (h:Hn σ t) (d:Un t=true):nS σ t:=by
 refine⟨?_,h d⟩;have⟨a,b,k,gL⟩:=t;cases k<;>first|rfl|cases d
theorem iI (lk:Bool) (n m:Nat) (t:gM) (hl:t.k≠ .lost) (sp:my) (e:yr[m]?=some sp) (r:Ru) (d:kg sp t=r):gZ lk (n+1) m t=pu lk (gZ true n) (gZ lk n) r t:=by
 rw[J7 lk n m t hl]
 grind[asM]
def yL (t:gM):x7 87 true t=nU mW t:=by rfl
def O7 (t:gM):x7 81 false t=nU (jy 0) t:=by rfl
def IX {n : gy} (h:ij [s] n=true):n=s:=by rw[yf]at h;exact tL h
def aeN {u n : gy} (h:ij [s,u] n=true):n=s\/n=u:=by
 unfold ij at h;simp only[List.any_cons,List.any_nil,Bool.or_false,Bool.or_eq_true]at h;rcases h with h|h
 .exact .inl (tL h)
 .exact .inr (tL h)
def Nv {d : List gy} {n : gy} (h:ij d n=true):n∈d:=by
 unfold ij at h;rw[List.any_eq_true]at h;have⟨x,h1,h2⟩:=h;rw[tL h2];exact h1
def Uj (lk:Bool) (n a b:Nat) (nm:gy) (gL:lh) (d:nm=jh\/nm=jq\/nm=iQ) (h:rI σ) (l:σ.fresh=true) (j:wt σ < 999000):RB 1 σ (gZ lk (n+1) 3 ⟨a,b,.start nm,gL⟩ σ):=by
 have e:nS σ ⟨a,b,.start nm,gL⟩:=⟨rfl,l⟩;rcases d with rfl|rfl|rfl
 .rw[iI lk n 3 _ (by simp) lF rfl (.ie 92) (by kernel_rfl)];exact uv h j e
 .rw[iI lk n 3 _ (by simp) lF rfl (.ie 93) (by kernel_rfl)];exact Ee h j e
 .rw[iI lk n 3 _ (by simp) lF rfl (.ie 94) (by kernel_rfl)];exact Ed h j e
def zf {rec:Nat->gM->M Unit} (h:RB c {σ with mode:=m} (rec m t {σ with mode:=m})):RB c σ ((jO m>>=λ_=>j1 rec t>>=λ_=>(Pure.pure ():M Unit)) σ):=by
 have x:RB c {σ with mode:=m} ((j1 rec t>>=λ_=>(Pure.pure ():M Unit)) {σ with mode:=m}):=RB.tail h;show RB c σ ((j1 rec t>>=λ_=>(Pure.pure ():M Unit)) {σ with mode:=m});revert x;cases(j1 rec t>>=λ_=>(Pure.pure ():M Unit)) {σ with mode:=m} with
 |ok u σ2=>rintro⟨e,j,d,l⟩;exact⟨e,j,⟨d.gP,d.pQ,d.qQ,d.oZ,d.wt,d.wz,d.nm⟩,l⟩
 |stop c p=>exact λh=>h
 |stuck=>exact λh=>h
def rI.mode (h:rI σ) (m:Nat) (d:p9 m=true):rI {σ with mode:=m}:=⟨h.iv.lY rfl rfl rfl rfl rfl rfl rfl,h.ne,d⟩
def Dn (lk:Bool) (n:Nat) (t:gM) (x:uU t) (h:rI σ) (G:Hn σ t) (d:wt σ < 999000):RB 360 σ (gZ lk (n+3) 6 t σ):=by
 obtain⟨a,b,k,gL⟩:=t;cases k with
 |lost=>exact absurd rfl x.nl
 |ke s=>
  have y:kg kF ⟨a,b,.ke s,gL⟩= .ie 102:=by
   unfold kg;dsimp only;split<;>rfl
  rw[iI lk (n+2) 6 _ x.nl kF rfl _ y];exact(KI h d x.sz).mono (by omega)
 |gR s=>
  rw[iI lk (n+2) 6 _ x.nl kF rfl (.gR 87 true) rfl];show RB 360 σ (x7 87 true _ σ);rw[yL];exact RB.mono (c:=1) ((FT h.iv mW (Aw h.iv h.ne) _ d).rb h.ne h.md) (by omega)
 |iM s q=>
  rw[iI lk (n+2) 6 _ x.nl kF rfl .nothing rfl];exact(rX h.iv h.Xp).mono (by omega)
 |im=>
  rw[iI lk (n+2) 6 _ x.nl kF rfl .nothing rfl];exact(rX h.iv h.Xp).mono (by omega)
 |start nm=>
  have j:nS σ ⟨a,b,.start nm,gL⟩:=G.tag rfl;cases hl:pg mc nm with
  |none=>
   have y:kg kF ⟨a,b,.start nm,gL⟩= .ie 104:=by
    show kE [((pg mc nm).getD .nil),_,_]=_;rw[hl];rfl
   rw[iI lk (n+2) 6 _ x.nl kF rfl _ y];exact(Lv h d j).mono (by omega)
  |some r=>
   obtain⟨p,A,l,e⟩:=vL hl;have y:r≠ .nil->kg kF ⟨a,b,.start nm,gL⟩=r:=by
    intro z;show kE [((pg mc nm).getD .nil),_,_]=_;rw[hl];cases r<;>first|rfl|exact absurd rfl z
   have go:∀u,r=u->u≠ .nil->RB 360 σ (pu lk (gZ true (n+2)) (gZ lk (n+2)) u ⟨a,b,.start nm,gL⟩ σ)->RB 360 σ (gZ lk (n+3) 6 ⟨a,b,.start nm,gL⟩ σ):=by
    intro u e1 e2 C;rw[iI lk (n+2) 6 _ x.nl kF rfl u (by rw[<-e1];exact y (by rw[e1];exact e2))];exact C
   unfold mc at A;simp only[qD,qE,rH]at A;rcases A with rfl|rfl|rfl|rfl|rfl|rfl|rfl|rfl|rfl|rfl|rfl|rfl|rfl|rfl|rfl|rfl|rfl|rfl|rfl|rfl|rfl
   all_goals refine go _ e.symm (by intro B;cases B) ?_
   all_goals dsimp only at l
   all_goals first
    |exact(JX h d j).mono (by omega)
    |exact(Oj h d j (IX l)).mono (by omega)
    |exact(CJ h d j (by rcases aeN l with e|e<;>(show rn nm=true;rw[e];kernel_rfl))).mono (by omega)
    |exact(Oi h d j (IX l)).mono (by omega)
    |exact(Ol h d j).mono (by omega)
    |exact(JZ h d j).mono (by omega)
    |exact(JY h d j).mono (by omega)
    |exact(Fm h d j).mono (by omega)
    |exact(Lx h d j).mono (by omega)
    |exact(JT h d j).mono (by omega)
    |exact(aa9 h d j _ (by kernel_rfl)).mono (by omega)
    |exact(Og h d j (IX l)).mono (by omega)
    |exact(Tu h d j).mono (by omega)
    |exact(GK h d j).mono (by omega)
    |exact(Ra h d j).mono (by omega)
    |exact(Lr h d j).mono (by omega)
    |exact(rX h.iv h.Xp).mono (by omega)
    |exact(PH h j.fr).mono (by omega)
    |exact(PG h j.fr).mono (by omega)
    |exact(Uj lk (n+1) a b nm gL (by have:=Nv l;simp at this;exact this) h j.fr d).mono (by omega)
    |skip
 |stop nm=>
  cases hl:pg lZ nm with
  |none=>
   have y:kg kF ⟨a,b,.stop nm,gL⟩= .ie 106:=by
    show kE [((pg lZ nm).getD .nil),_,_]=_;rw[hl];rfl
   rw[iI lk (n+2) 6 _ x.nl kF rfl _ y];have F:ij [fX] nm=false:=Ji hl ([fX],.ie 191) (by unfold lZ;simp);exact(Pp h (by
    show nm≠_;rintro rfl;rw[yf]at F;exact aeY F rfl)).mono (by omega)
  |some r=>
   obtain⟨p,A,l,e⟩:=vL hl;have y:r≠ .nil->kg kF ⟨a,b,.stop nm,gL⟩=r:=by
    intro z;show kE [((pg lZ nm).getD .nil),_,_]=_;rw[hl];cases r<;>first|rfl|exact absurd rfl z
   have go:∀u,r=u->u≠ .nil->RB 360 σ (pu lk (gZ true (n+2)) (gZ lk (n+2)) u ⟨a,b,.stop nm,gL⟩ σ)->RB 360 σ (gZ lk (n+3) 6 ⟨a,b,.stop nm,gL⟩ σ):=by
    intro u e1 e2 C;rw[iI lk (n+2) 6 _ x.nl kF rfl u (by rw[<-e1];exact y (by rw[e1];exact e2))];exact C
   unfold lZ at A;simp only[qD,qE,rH]at A;rcases A with rfl|rfl|rfl|rfl|rfl|rfl|rfl|rfl|rfl|rfl
   all_goals refine go _ e.symm (by intro B;cases B) ?_
   all_goals dsimp only at l
   .exact(Nk h).mono (by omega)
   .exact(EF (t:=⟨a,b,.stop nm,gL⟩) h d l).mono (by omega)
   .exact(So h).mono (by omega)
   .exact(Pm h d).mono (by omega)
   .exact(aaP h d).mono (by omega)
   .exact(Sr h).mono (by omega)
   .exact(KR h).mono (by omega)
   .exact(Pl h (by
     show nm≠_;rintro rfl;revert l;simp[ij,kC,sJ])).mono (by omega)
   .have D:=IX l;subst D;show RB 360 σ (yR (gZ lk (n+2)) ⟨a,b,.stop _,gL⟩ σ);unfold yR;split
    .refine zf ?_;rw[iI lk (n+1) 16 _ x.nl vE rfl (.ie 137) (by kernel_rfl)];exact⟨(h.mode 16 rfl).iv.lY rfl rfl rfl rfl rfl rfl rfl,⟨h.ne,.inl rfl⟩,⟨rfl,rfl,rfl,rfl,lf _,λ_ h=> .inl h,λ_ _ h=>h⟩,jP (ni (jm rfl)) (xN _ _)⟩
    .exact(rX h.iv h.Xp).mono (by omega)
   .exact(Sm h).mono (by omega)
def abe {l : List Ru} {R : List (List gy×Ru)} (u:t.k≠ .lost) (j:yr[m]?=some sp) (e:kg sp t=kE ((pg R nm).getD .nil::l)) (z:∀p∈R,p.2≠ .nil) (y:RB c σ (pu lk (gZ true n) (gZ lk n) (kE l) t σ)) (x:∀p∈R,ij p.1 nm=true->RB c σ (pu lk (gZ true n) (gZ lk n) p.2 t σ)):RB c σ (gZ lk (n+1) m t σ):=by
 cases hl:pg R nm with
 |none=>
  rw[iI lk n m t u sp j (kE l) (by rw[e,hl];rfl)];exact y
 |some r=>
  obtain⟨p,h,A,rfl⟩:=vL hl;have d:=z p h;rw[iI lk n m t u sp j p.2 (by
   rw[e,hl];show kE (p.2::_)=p.2;cases hq:p.2<;>first|rfl|exact absurd hq d)]
  exact x p h A
def Zk (hl:t.k≠ .lost) (e:yr[m]?=some sp) (d:RB c σ (pu lk (gZ true n) (gZ lk n) (kg sp t) t σ)):RB c σ (gZ lk (n+1) m t σ):=by
 rw[iI lk n m t hl sp e _ rfl];exact d
def LY {rec:Nat->gM->M Unit} (h:rI σ) (A:∀d,rI d->wt d=wt σ->d.fresh=σ.fresh->RB c d (rec 6 t d)):RB c σ (sV rec t σ):=by
 have y:=A {σ with iR:=true} ⟨h.iv.lY rfl rfl rfl rfl rfl rfl rfl,h.ne,h.md⟩ rfl rfl;have z:=RB.then y (λσ=>{σ with iR:=false}) (λ_=>⟨rfl,rfl,rfl,rfl,rfl,rfl,rfl,rfl,rfl,rfl,rfl,rfl⟩);show RB c σ ((rec 6 t>>=λ_=>wH (λσ=>{σ with iR:=false})>>=λ_=>(Pure.pure ():M Unit)) {σ with iR:=true});revert z;cases(rec 6 t>>=λ_=>wH (λσ=>{σ with iR:=false})>>=λ_=>(Pure.pure ():M Unit)) {σ with iR:=true} with
 |ok u σ2=>rintro⟨j,l,e,x⟩;exact⟨j,l,⟨e.gP,e.pQ,e.qQ,e.oZ,e.wt,e.wz,e.nm⟩,x⟩
 |stop c p=>exact λh=>h
 |stuck=>exact λh=>h
def YF {d:M Unit} (h:rI σ) (e:RB c σ (d σ)):RB c σ (K4 d t σ):=by
 unfold K4;split
 .exact e
 .exact(rX h.iv h.Xp).mono (iO _)
theorem yV {rec:Nat->gM->M Unit} (h:rI σ) (G:wt σ < 999000) (ks:List gy) (e:gy) (m:Nat) (y:p9 m=true) (z:∀d,rI d->d.mode=m->wt d<=wt σ+1->d.fresh=σ.fresh->RB c d (rec m t d)):RB (c+1) σ (pJ rec ks e m t σ):=by
 unfold pJ;refine RB.bind (xb h.iv (ij ks)) (c2:=c+1) ?_ (by omega);rintro _ F A u H C;refine RB.bind (rW A (u.ne h.ne) (by omega) e) (c2:=c) ?_ (by omega);rintro _ l B x I ⟨j,q,D⟩;refine zf (z {l with mode:=m} ⟨B.lY rfl rfl rfl rfl rfl rfl rfl,x.ne (u.ne h.ne),y⟩ rfl ?_ ?_)
 .grind[wt]
 .show l.fresh=_;rw[D,C.fresh]
def DO {gL : lh} (h:σ.waiting.length < 4096):oJ ⟨a,b,.ke s,gL⟩ σ= .ok () (if sW s then σ else {σ with waiting:=σ.waiting++[(a,b,s)]}):=by
 unfold oJ;simp only;cases sW s with
 |true=>rfl
 |false=>simp[h]
def Ii {gL : lh} (h:rI σ) (l:s.size<=100) (C:wt σ < 999000) (y:σ.waiting.length < 4000) (d:σ.mode=7\/σ.mode=11\/σ.mode=12):RB 360 σ (o9 (gZ false (n+4)) ⟨a,b,.ke s,gL⟩ σ):=by
 unfold o9;split
 .show RB 360 σ ((j1 (gZ false (n+4)) ⟨a,b,.ke s,gL⟩>>=λ_=>(Pure.pure ():M Unit)) {σ with kept:=σ.mode,mode:=8});refine RB.mono (c:=0) ?_ (by omega);have e:gZ false (n+4) 8 ⟨a,b,.ke s,gL⟩=oJ ⟨a,b,.ke s,gL⟩:=iI false (n+3) 8 _ (by intro e;cases e) kT rfl (.ie 118) (by
   unfold kg;dsimp only;split<;>rfl)
  show RB 0 σ ((gZ false (n+4) 8 ⟨a,b,.ke s,gL⟩>>=λ_=>(Pure.pure ():M Unit)) {σ with kept:=σ.mode,mode:=8});rw[e];have z:mM {σ with kept:=σ.mode,mode:=8}:=h.iv.lY rfl rfl rfl rfl rfl rfl rfl;rw[M.gx,DO (show({σ with kept:=σ.mode,mode:=8}:Ab).waiting.length < 4096 by show σ.waiting.length < 4096;omega)];cases sW s with
  |true=>exact⟨z,⟨h.ne,.inr (.inr ⟨rfl,d⟩)⟩,⟨rfl,rfl,rfl,rfl,lf _,λ_ h=> .inl h,λ_ _ h=>h⟩,ni (jm rfl)⟩
  |false=>exact⟨h.iv.lY rfl rfl rfl rfl rfl rfl rfl,⟨h.ne,.inr (.inr ⟨rfl,d⟩)⟩,⟨rfl,rfl,rfl,rfl,by show(σ.waiting++[(a,b,s)]).length<=_;simp,λx j=>by
    rcases List.mem_append.1 (show x∈σ.waiting++[(a,b,s)]from j)with j|j
    .exact .inl j
    .rw[List.mem_singleton.1 j];exact .inr l,λ_ _ h=>h⟩,ni (jm rfl)⟩
 .refine RB.tail (LY h ?_);intro A u w' B;exact Dn false (n+1) ⟨a,b,.ke s,gL⟩ ⟨l,rfl,by intro e;cases e⟩ u (λh=>by cases h) (by omega)
structure CX (L:Nat) (t:gM) (σ:Ab):Prop where
 tg:uU t
 h:rI σ
 hf:Hn σ t
 hw:wt σ < 998000
 hwt:σ.waiting.length < 4000
 hl:σ.gz.length<=L
def PL (L n:Nat):Prop:=∀t σ,CX L t σ->RB 370 σ (gZ false n σ.mode t σ)
def PL.ahead {L : Nat} (l:PL L n) (c:CX (L+1) t σ) {b:M Bool} (u:vS b):RB 370 σ (xw (gZ false n) b t σ):=
 have⟨tg,h,hf,hw,hwt,hl⟩:=c
 XN u h (λd j z w' e y _=>l t d ⟨tg,j,(λx=>e.trans (hf x)),by omega,by rw[y];exact hwt,by omega⟩)
def T7 (n a b:Nat) (nm:gy) (gL:lh) (j:nm=iy\/nm=iA) (h:rI σ) (d:nS σ ⟨a,b,.start nm,gL⟩) (e:wt σ < 999000):RB 1 σ (gZ false (n+1) 12 ⟨a,b,.start nm,gL⟩ σ):=by
 rcases j with rfl|rfl
 .rw[iI false n 12 _ (by simp) AA rfl (.ie 125) (by kernel_rfl)];exact zi h e d
 .rw[iI false n 12 _ (by simp) AA rfl (.ie 125) (by kernel_rfl)];exact zi h e d
def ad7 (n a b:Nat) (nm:gy) (gL:lh) (e:nm∈[iy,iA,ic]) (h:rI σ) (j:nS σ ⟨a,b,.start nm,gL⟩) (z:wt σ < 998900):RB 2 σ (gZ false (n+2) 11 ⟨a,b,.start nm,gL⟩ σ):=by
 simp only[qD,qE,rH]at e;have d:nm=iy\/nm=iA->RB 2 σ (pJ (gZ false (n+1)) [gp,gq,gr] ic 12 ⟨a,b,.start nm,gL⟩ σ):=λx=>
  yV (c:=1) h (by omega) _ _ 12 rfl (λy u A w' l=>T7 n a b nm gL x u ⟨rfl,l.trans j.fr⟩ (by omega))
 rcases e with rfl|rfl|rfl
 .rw[iI false (n+1) 11 _ (by simp) oP rfl (.nJ [gp,gq,gr] ic 12) (by kernel_rfl)];exact d (.inl rfl)
 .rw[iI false (n+1) 11 _ (by simp) oP rfl (.nJ [gp,gq,gr] ic 12) (by kernel_rfl)];exact d (.inr rfl)
 .rw[iI false (n+1) 11 _ (by simp) oP rfl (.rG [gp,gq,gr] 12) (by kernel_rfl)];exact(MA h (by omega) j _ 12 rfl).mono (by omega)
def aa0 (h:mM σ) (d:σ.gz≠[]):∃j,sS σ= .ok j σ/\Bi σ j:=by
 have⟨r,hr⟩:=h;have⟨q,e,rest,h1,h2,h3,h4⟩:=hr.first d;exact⟨_,by unfold sS;rw[h2];dsimp only;unfold jy;rw[h3],e,h3,ig _⟩
def ZG {L : Nat} (hP:PL L (k+5)) (c:CX (L+1) t σ) (X:m∈[7,9,10,11,12,13,14,15,16,17]) (K:m=7->σ.mode=7\/σ.mode=11\/σ.mode=12) (h7:m=11\/m=12->RB 370 σ (gZ false (k+5) 7 t σ)) (J:m=15->RB 370 σ (gZ false (k+5) 14 t σ)):RB 370 σ (gZ false (k+6) m t σ):=by
 have U:=λ{b}=>hP.ahead c (b:=b);obtain⟨y,h,x,hw,O,hl⟩:=c;have d:wt σ < 999000:=by omega
 have j:∀{c r},RB c σ r->c<=370->RB 370 σ r:=RB.mono;have B:RB 370 σ (gZ false (k+5) 6 t σ):=j (Dn false (k+2) _ y h x d) (by omega);have V:RB 370 σ (_:pG Unit):=j (zf (rec:=gZ false (k+5)) (Dn false (k+2) _ y (h.mode 6 rfl) (λG=>x G) d)) (by omega);have N:=j (rX h.iv h.Xp) (by omega);have F:RB 370 σ (sV (gZ false (k+5)) t σ):=j (LY h (λC A w' z=>Dn false (k+2) _ y A (λG=>z.trans (x G)) (by omega))) (by omega);have En:=λ{b} (hb:vS b)=>j (aaR hb h) (by omega);have I:=λ{pm} hq=>j ((FT h.iv pm hq t d).rb h.ne h.md) (by omega);have Z:∀{a b s gL},s.size<=100->m=7->RB 370 σ (o9 (gZ false (k+5)) ⟨a,b,.ke s,gL⟩ σ):=λG e=>j (Ii (n:=k+1) h G d O (K e)) (by omega);have H3:∀{a b nm gL},nm=iQ->σ.fresh=true->RB 370 σ (gZ false (k+5) 3 ⟨a,b,.start nm,gL⟩ σ):=λe x=>j (Uj false (k+4) _ _ _ _ (.inr (.inr e)) h x d) (by omega);have I1:∀{a b nm gL H u},nm∈[iy,iA,ic]->σ.fresh=true->RB 370 σ (pJ (gZ false (k+5)) H u 11 ⟨a,b,.start nm,gL⟩ σ):=λe x=>j (yV (c:=2) h d _ _ 11 rfl (λC A Y w' z=>ad7 (k+3) _ _ _ _ e A ⟨rfl,z.trans x⟩ (by omega))) (by omega);have I2:∀{a b nm gL H u},nm=iy\/nm=iA->σ.fresh=true->RB 370 σ (pJ (gZ false (k+5)) H u 12 ⟨a,b,.start nm,gL⟩ σ):=λe x=>j (yV (c:=1) h d _ _ 12 rfl (λC A Y w' z=>T7 (k+4) _ _ _ _ e A ⟨rfl,z.trans x⟩ (by omega))) (by omega);have I3:∀{a b nm gL H u},nm=io->σ.fresh=true->RB 370 σ (pJ (gZ false (k+5)) H u 10 ⟨a,b,.start nm,gL⟩ σ):=λe x=>j (yV (c:=1) h d _ _ 10 rfl (λC A Y w' z=>by
  rw[e,iI false (k+4) 10 _ (by simp) qY rfl (.ie 92) (by kernel_rfl)];exact uv A (by omega) ⟨rfl,z.trans x⟩)) (by omega)
 obtain⟨a,b,kk,gL⟩:=t;simp only[qD,qE,rH]at X;rcases X with rfl|rfl|rfl|rfl|rfl|rfl|rfl|rfl|rfl|rfl
 all_goals cases kk
 all_goals first
  |exact absurd rfl y.nl
  |refine abe y.nl rfl rfl (by simp) ?_ ?_
  |refine Zk y.nl rfl ?_
 all_goals generalize gZ false (k+5)=rec at *
 all_goals try (unfold kg;dsimp only)
 all_goals try split
 all_goals try (simp only[List.forall_mem_cons,qE,false_implies,implies_true,and_true];and_intros)
 all_goals try intro D
 all_goals try have l:=x.tag rfl
 all_goals try exact N
 all_goals try exact B
 all_goals try refine U ?_
 all_goals try refine En ?_
 all_goals try refine YF h (U ?_)
 all_goals try refine YF h (En ?_)
 all_goals try exact h7 (by simp)
 all_goals try exact J rfl
 all_goals try exact F
 all_goals try exact Z y.sz rfl
 all_goals try exact I (Aw h.iv h.ne)
 all_goals try exact I (Nb h.iv)
 all_goals try exact I (aa0 h.iv h.ne)
 all_goals try exact j (Bw h d y.sz) (by omega)
 all_goals try exact j (GB h d y.sz) (by omega)
 all_goals try first
  |exact Su
  |exact Nh
  |exact EA
  |exact ID
  |exact Ym
  |exact VQ
  |exact Pr
 all_goals try exact I1 (Nv D) l.fr
 all_goals try exact I2 (aeN D) l.fr
 all_goals try exact I3 (IX D) l.fr
 all_goals try exact j (MA h d l _ _ rfl) (by omega)
 all_goals try exact H3 (IX D) l.fr
 .show RB 370 σ ((if wD _ then kO rec _ else stuck:M Unit) σ);rw[gF y.sm];unfold kO;split
  .exact j (RB.tail (uv h d l)) (by omega)
  .exact RB.tail F
 .exact j (Bm h d l (IX D)) (by omega)
 .exact j (GI h d l) (by omega)
 .exact j (uv h d l) (by omega)
 .exact j (zi h d l) (by omega)
 .exact j (CQ h d l) (by omega)
 .exact j (xH h d l) (by omega)
 .exact j (zj h d l) (by omega)
 .exact j (Af h) (by omega)
 .exact j (yS h) (by omega)
 iterate 3 exact V
 .exact j (c:=0) ⟨h.iv.lY rfl rfl rfl rfl rfl rfl rfl,⟨h.ne,.inl rfl⟩,⟨rfl,rfl,rfl,rfl,lf _,λ_ h=> .inl h,λ_ _ h=>h⟩,ni (jm rfl)⟩ (by omega)
 all_goals exact V
def FM (h:p9 m=true):m=6\/m∈[7,9,10,11,12,13,14,15,16,17]:=by
 unfold p9 at h;simp at h|-;omega
def Ho:∀(L n:Nat),4*L+8<=n->PL L n
 |0,n,_=>by
  intro t σ c;exact absurd (List.length_eq_zero_iff.1 (by have:=c.hl;omega)) c.h.ne
 |L+1,n,hn=>by
  intro t σ c;obtain⟨k,rfl⟩:∃k,n=k+7:=⟨n - 7,by omega⟩;have d:PL L (k+5):=Ho L _ (by omega);have S:=λm l j=>ZG (m:=m) d c l j;rcases FM c.h.md with e|e
  .rw[e];exact(Dn false (k+4) t c.tg c.h c.hf (by have:=c.hw;omega)).mono (by omega)
  .refine ZG (Ho L (k+1+5) (by omega)) c e (λh=> .inl h) (λh=>S 7 (by simp) (λ_=> .inr h) (λh=>by cases h<;>contradiction) (λh=>by cases h)) (λ_=>S 14 (by simp) (λh=>by cases h) (λh=>by cases h<;>contradiction) (λh=>by cases h))
def HS (m:Nat) (o:kQ) (e:jg):Prop:=
 (m<=1/\o=[]/\e=none)\/(m=2/\∃h,o=[some h])\/(m=3/\∃h d,o=[some h,some d]/\e=some d)\/(m=4/\∃h d,o=[some h]/\e=some d)\/(p9 m=true/\o≠[])
def B3 (σ:Ab):Prop:=(∃d,iU σ d gS)/\∃b,iU σ b gA
def BH (σ:Ab):Prop:=6<=σ.mode\/σ.mode=5/\6<=σ.kept->B3 σ
def B3.of {σ' : Ab} (h:B3 σ) (nm:∀i s,iU σ i s->iU σ' i s):B3 σ':=⟨h.1.imp λ_=>nm _ _,h.2.imp λ_=>nm _ _⟩
def BH.of {σ' : Ab} (h:BH σ) (e:σ'.mode=σ.mode) (d:σ'.kept=σ.kept) (nm:∀i s,iU σ i s->iU σ' i s):BH σ':=λq=>(h (by rw[<-e,<-d];exact q)).of nm
def BH.low (h:σ.mode<=4):BH σ:=λq=>by omega
def MS0 (σ:Ab):Prop:=HS σ.mode σ.gz σ.head\/(σ.mode=5/\3<=σ.kept/\2<=σ.gz.length/\HS σ.kept σ.gz.dropLast σ.head)\/(σ.mode=8/\(σ.kept=7\/σ.kept=11\/σ.kept=12)/\σ.gz≠[])
def MS (σ:Ab):Prop:=MS0 σ/\BH σ
def RG (c:Nat) (σ:Ab) (r:pG Unit):Prop:=match r with
 | .ok _ σ'=>mM σ'/\MS σ'/\Lm σ σ'/\wt σ'<=wt σ+c
 | .stop _ p=>p=σ.gP
 | .stuck=>False
theorem RG.mono {c' : Nat} {r : pG Unit} (h:RG c σ r) (d:c<=c'):RG c' σ r:=by
 cases r with
 |ok a σ'=>grind[RG]
 |stop e p=>exact h
 |stuck=>exact h
def Dm (h:p9 m=true):6<=m:=by have:=FM h;simp at this;omega
def BMs.ms (h:BMs σ) (u:B3 σ):MS σ:=by
 refine⟨?_,λ_=>u⟩;rcases h.sh with d|⟨d,j,l⟩|⟨d,j⟩
 .exact .inl (.inr (.inr (.inr (.inr ⟨d,h.ne⟩))))
 .refine .inr (.inl ⟨d,?_,l,.inr (.inr (.inr (.inr ⟨j,?_⟩)))⟩)
  .have:=Dm j;omega
  .intro e;have:=sK List.length e;simp at this;omega
 .exact .inr (.inr ⟨d,j,h.ne⟩)
def RB.rg {r : pG Unit} (h:RB c σ r) (d:B3 σ):RG c σ r:=by
 cases r with
 |ok a σ'=>exact⟨h.1,h.2.1.ms (d.of h.2.2.1.nm),h.2.2.1,h.2.2.2⟩
 |stop e p=>exact h
 |stuck=>exact h
def jH.rg {r : pG Unit} {Q : Unit->Ab->Prop} (h:jH c σ r Q) (l:MS σ) (z:∀d,Q () d->d.gz=σ.gz):RG c σ r:=by
 cases r with
 |ok a d=>
  obtain⟨u,j,x,y⟩:=h;refine⟨u,⟨?_,l.2.of j.mode j.kept j.nm⟩,j.lm,x⟩;unfold MS0;rw[j.mode,j.kept,j.head,z d y];exact l.1
 |stop e p=>exact h
 |stuck=>exact h
def qX (h:mM σ) (d:MS σ):RG 0 σ ((Pure.pure ():M Unit) σ):=⟨h,d,lm0 σ,ig _⟩
def RG.tail {m:M Unit} (h:RG c σ (m σ)):RG c σ ((m>>=λ_=>(Pure.pure ():M Unit)) σ):=by
 rw[M.gx];revert h;cases m σ<;>exact λh=>h
def RG.from {c1 c2 : Nat} {σ1 : Ab} {r : pG Unit} (h:RG c1 σ1 r) (hl:Lm σ σ1) (C:σ1.waiting.length<=σ.waiting.length) (y:∀x∈σ1.waiting,x∈σ.waiting) (A:wt σ1<=wt σ+c2) (B:c1+c2<=c):RG c σ r:=by
 cases r with
 |ok a σ'=>
  obtain⟨j,l,d,z⟩:=h;exact⟨j,l,⟨d.gP.trans hl.gP,d.pQ.trans hl.pQ,d.qQ.trans hl.qQ,d.oZ.trans hl.oZ,by have:=d.wt;omega,λx u=>(d.wz x u).imp (y x) id,λi s q=>d.nm i s (hl.nm i s q)⟩,by omega⟩
 |stop e p=>exact xI h hl.gP
 |stuck=>exact h
def KX (h:mM σ) (x:σ.gz≠[]) (t:gM) (C:σ.fresh=true) (y:MS σ):RG 0 σ (oG t σ):=by
 have B:∀(gL:lh) (i:Nat) (σ:Ab),∀d,qo i gL σ= .ok () d->d.gz=σ.gz:=by
  intro gL i
  induction gL with
  |nil=>intro σ d e;cases e;rfl
  |cons a r ih=>
   intro σ d e;rw[L6]at e;split at e
   .cases e
   .split at e
    .exact ih σ d e
    .split at e
     .cases e
     .have:=ih _ d e;exact this
 have l:=DF h x t C;cases hq:oG t σ with
 |ok u d=>
  rw[hq]at l;obtain⟨z,j,A,_⟩:=l;refine⟨z,⟨?_,y.2.of j.mode j.kept j.nm⟩,j.lm,A⟩;have D:d.gz=σ.gz:=by
   unfold oG at hq;split at hq
   .rename_i i hi;rw[M.gx]at hq;cases hg:wj i t σ with
    |ok u2 σ2=>
     rw[hg]at hq;cases hq;unfold wj at hg;split at hg
     .exact B _ _ _ _ hg
     .cases hg
    |stop c p=>rw[hg]at hq;cases hq
    |stuck=>rw[hg]at hq;cases hq
   .cases hq
  unfold MS0;rw[j.mode,j.kept,j.head,D];exact y.1
 |stop c p=>rw[hq]at l;exact l
 |stuck=>rw[hq]at l;exact l.elim
def Nx (n a b:Nat) (gL:lh) (h:mM σ) (d:σ.gz≠[]) (j:σ.fresh=true) (l:MS σ):RG 0 σ (gZ false (n+1) 6 ⟨a,b,.start fX,gL⟩ σ):=by
 rw[iI false n 6 _ (by intro e;cases e) kF rfl (.ie 172) (by kernel_rfl)];exact KX h d _ j l
def ZR (hi:mM σ) (d:σ.gz≠[]) (j:σ.mode=6) (B:uU t) (y:Hn σ t) (A:wt σ < 998000) (e:σ.waiting.length < 4000) (z:4*64+8<=n) (x:370<=c) (u:B3 σ):RG c σ (gZ false n 6 t σ):=by
 have hl:σ.gz.length<=64:=by obtain⟨r,l⟩:=hi;exact jP l.wV l.OI
 have h:=Ho 64 n z t σ ⟨B,⟨hi,d,by rw[j];rfl⟩,y,A,e,hl⟩;rw[j]at h;exact(h.rg u).mono x
def I4 (h:mM σ) (y:σ.gz≠[]) (G:wt σ < 998000) (s:gy) (m:Nat) {rec:Nat->gM->M Unit} (C:∀d,mM d->Fx σ {d with mode:=σ.mode}->d.mode=m->wt d<=wt σ+1->d.fresh=σ.fresh->(∃j,iU d j s)->RG c d (rec m t d)):RG (c+1) σ ((kq s>>=λ_=>jO m>>=λ_=>j1 rec t>>=λ_=>(Pure.pure ():M Unit)) σ):=by
 have A:=rW h y (by omega) s;rw[M.gx];revert A;cases kq s σ with
 |ok u σ1=>
  rintro⟨D,l,z,j,q,F⟩;dsimp only;have B:=RG.tail (C {σ1 with mode:=m} (D.lY rfl rfl rfl rfl rfl rfl rfl) (by
   have e:({({σ1 with mode:=m}:Ab)with mode:=σ.mode}:Ab)=σ1:=by rw[<-l.mode]
   rw[e];exact l) rfl z F ⟨j,q.nm⟩)
  exact RG.from (c1:=c) (c2:=1) (σ1:={σ1 with mode:=m}) B ⟨l.gP,l.pQ,l.qQ,l.oZ,by show σ1.waiting.length<=_;rw[l.waiting];omega,by show∀x∈σ1.waiting,_;rw[l.waiting];exact λ_ h=> .inl h,l.nm⟩ (by show σ1.waiting.length<=_;rw[l.waiting];omega) (by show∀x∈σ1.waiting,_;rw[l.waiting];exact λ_ h=>h) z (ig _)
 |stop c p=>exact λh=>h
 |stuck=>exact λh=>h
def vZ (h:mM σ) (l:M (Nat×Nat)) (j:∃e,l σ= .ok e σ/\Bi σ e) (t:gM) (u:wt σ < 999000) (d:MS σ):RG 1 σ (nU l t σ):=by
 have⟨a,b,k,gL⟩:=t;cases k with
 |gR s=>
  have⟨e,h1,h2⟩:=j;show RG 1 σ ((l>>=λe=>oO e (.cm s) .cm>>=λ_=>(Pure.pure ():M Unit)) σ);rw[M.gx,h1];dsimp only;exact RG.tail ((Fc h h2 (.cm s) .cm (.inl ⟨s,rfl,rfl⟩) (by omega)).rg d (λ_ q=>q.gz))
 |ke s=>exact(qX h d).mono (by omega)
 |start s=>exact(qX h d).mono (by omega)
 |stop s=>exact(qX h d).mono (by omega)
 |iM s q=>exact(qX h d).mono (by omega)
 |lost=>exact(qX h d).mono (by omega)
 |im=>exact(qX h d).mono (by omega)
theorem Hh {R : List (List gy×Ru)} (d:sp.start=some R) (l:∀p∈R,p.2≠ .nil) (x:kE [sp.jV,sp.iE]=o) {gL : lh} (h:yr[m]?=some sp) (z:∀p∈R,ij p.1 nm=true->P (pu lk (gZ true n) (gZ lk n) p.2 ⟨a,b,.start nm,gL⟩ σ)) (j:P (pu lk (gZ true n) (gZ lk n) o ⟨a,b,.start nm,gL⟩ σ)):P (gZ lk (n+1) m ⟨a,b,.start nm,gL⟩ σ):=by
 have e:kg sp ⟨a,b,.start nm,gL⟩=kE [((pg R nm).getD .nil),sp.jV,sp.iE]:=by
  show kE [DV sp.start nm,sp.jV,sp.iE]=_;rw[d];rfl
 cases hl:pg R nm with
 |none=>
  rw[iI lk n m _ (by simp) sp h o (by rw[e,hl,<-x];rfl)];exact j
 |some r=>
  obtain⟨p,y,A,rfl⟩:=vL hl;have u:=l p y;rw[iI lk n m _ (by simp) sp h p.2 (by
   rw[e,hl];simp[kE])]
  grind
theorem Om {R : List (List gy×Ru)} (d:sp.stop=some R) (l:∀p∈R,p.2≠ .nil) (x:kE [sp.kx,sp.iE]=o) {gL : lh} (h:yr[m]?=some sp) (z:∀p∈R,ij p.1 nm=true->P (pu lk (gZ true n) (gZ lk n) p.2 ⟨a,b,.stop nm,gL⟩ σ)) (j:P (pu lk (gZ true n) (gZ lk n) o ⟨a,b,.stop nm,gL⟩ σ)):P (gZ lk (n+1) m ⟨a,b,.stop nm,gL⟩ σ):=by
 have e:kg sp ⟨a,b,.stop nm,gL⟩=kE [((pg R nm).getD .nil),sp.kx,sp.iE]:=by
  show kE [DV sp.stop nm,sp.kx,sp.iE]=_;rw[d];rfl
 cases hl:pg R nm with
 |none=>
  rw[iI lk n m _ (by simp) sp h o (by rw[e,hl,<-x];rfl)];exact j
 |some r=>
  obtain⟨p,y,A,rfl⟩:=vL hl;have u:=l p y;rw[iI lk n m _ (by simp) sp h p.2 (by
   rw[e,hl];simp[kE])]
  grind
theorem BZ {d : Ru} (l:kE [sp.blank,sp.ke,sp.iE]=d) (u:kE [sp.ke,sp.iE]=o) {gL : lh} (e:yr[m]?=some sp) (h:P (pu lk (gZ true n) (gZ lk n) d ⟨a,b,.ke s,gL⟩ σ)) (j:P (pu lk (gZ true n) (gZ lk n) o ⟨a,b,.ke s,gL⟩ σ)):P (gZ lk (n+1) m ⟨a,b,.ke s,gL⟩ σ):=by
 cases hk:lU s with
 |true=>
  rw[iI lk n m _ (by simp) sp e d (by
   grind[kg])]
  exact h
 |false=>
  rw[iI lk n m _ (by simp) sp e o (by
   grind[kg])]
  exact j
def jz {r : Ru} (hl:t.k≠ .lost) (h:yr[m]?=some sp) (e:kg sp t=r) (d:P (pu lk (gZ true n) (gZ lk n) r t σ)):P (gZ lk (n+1) m t σ):=by
 rw[iI lk n m t hl sp h r e];exact d
structure In4 (σ:Ab):Prop where
 iv:mM σ
 md:σ.mode=4
 sh:∃h d,σ.gz=[some h]/\σ.head=some d
def In4.ms (h:In4 σ):MS σ:=by
 obtain⟨x,d,e,j⟩:=h.sh;exact⟨.inl (.inr (.inr (.inr (.inl ⟨h.md,x,d,e,j⟩)))),BH.low (by have:=h.md;omega)⟩
theorem In4.ne (h:In4 σ):σ.gz≠[]:=by have⟨x,d,h1,_⟩:=h.sh;grind
def IY (h:In4 σ) (K:uU t) (B:Hn σ t) (L:wt σ < 997000) (y:σ.waiting.length < 4000) (D:4*64+8<=n):RG 371 σ (nw (gZ false n) t σ):=by
 unfold nw;refine I4 (c:=370) h.iv h.ne (by omega) gA 6 ?_;intro j H u I w' J C;have z:B3 j:=by
  obtain⟨x,d,_,A⟩:=h.sh;obtain⟨r,F⟩:=h.iv;exact⟨⟨d,u.nm _ _ (F.head d A)⟩,C⟩
 have l:j.waiting.length < 4000:=by have:=u.waiting;have e:j.waiting=σ.waiting:=this;rw[e];exact y
 exact ZR H (u.ne h.ne) I K (λG=>J.trans (B G)) (by omega) l D (ig _) z
def Gg (hi:mM σ) (l:σ.gz≠[]) (y:nS σ t) (b:Bool) (C:wt σ < 998000):match oc t b σ with
 | .ok _ σ'=>mM σ'/\Lm σ σ'/\wt σ'<=wt σ+1/\σ'.mode=5/\σ'.kept=σ.mode/\(∃j,σ'.gz=σ.gz++[some j]/\σ.nodes.length<=j)/\σ'.head=σ.head/\(∀i s,iU σ i s->iU σ' i s)
 | .stop _ p=>p=σ.gP
 | .stuck=>False:=by
 have z:=jT hi l (by omega) t y.tag y.fr;have e:oc t b σ=(jt t>>=λ_=>MX t.name b>>=λ_=>wH (λσ=>{σ with kept:=σ.mode})>>=λ_=>jO 5>>=λ_=>(Pure.pure ():M Unit)) σ:=rfl;rw[e,M.gx];revert z;cases jt t σ with
 |ok u σ1=>
  rintro⟨A,d,B,j,q⟩;exact⟨A.lY rfl rfl rfl rfl rfl rfl rfl,⟨d.gP,d.pQ,d.qQ,d.oZ,by show σ1.waiting.length<=_;rw[d.waiting];omega,by show∀x∈σ1.waiting,_;rw[d.waiting];exact λ_ h=> .inl h,d.nm⟩,B,rfl,d.mode,⟨j,q.gz,q.new⟩,d.head,d.nm⟩
 |stop c p=>exact λh=>h
 |stuck=>exact λh=>h
def KD {gL : lh} (h:In4 σ) (a0:nm=jh\/nm=jq\/nm=iQ) (hf:σ.fresh=true) (hw:wt σ < 997000):RG 2 σ (tF (gZ false (n+1)) ⟨a,b,.start nm,gL⟩ σ):=by
 obtain⟨x,d,ho,hd⟩:=h.sh;obtain⟨r,hr⟩:=h.iv;have O:=hr.head d hd;obtain⟨ed,J,a2⟩:=id O;have a1:r x < r d:=hr.tc.hd d x hd (by rw[ho];rfl);unfold tF;rw[M.gx];have e1:pushHead σ=xk (some d) σ:=by unfold pushHead;rw[hd]
 rw[e1];unfold xk
 by_cases hl:σ.pQ<=σ.gz.length
 .rw[gF hl];exact rfl
 .rw[gQ hl,gF (show σ.mG (some d)=true by show(σ.hU d).isSome=true;rw[J];rfl)];dsimp only;obtain⟨g1,B⟩:=hr.push J (by
   intro y hy;rw[ho]at hy;rw[List.mem_singleton.1 hy];exact a1) (by omega) (.inl h.ne)
  obtain⟨z,A⟩:∃z,z=({σ with gz:=σ.gz++[some d]}:Ab):=⟨_,rfl⟩;rw[<-A]at g1 B|-;have i1:mM z:=⟨r,g1⟩;have o1:z.gz=[some x,some d]:=by rw[A];show σ.gz++[some d]=_;rw[ho];rfl
  have Y:z.gz≠[]:=by rw[o1];simp
  have w1:wt z=wt σ:=by rw[A];rfl
  have N:z.fresh=true:=by rw[A];exact hf
  have G:z.mode=4:=B.mode.trans h.md;have F:z.head=some d:=B.head.trans hd;have xd:x≠d:=by rintro rfl;omega
  have ht:nS z ⟨a,b,.start nm,gL⟩:=⟨rfl,N⟩;have L:∀l,mM l->Lm z l->wt l<=wt z+1->l.head=some d->iU l d gS->MS {l with gz:=l.gz.erase (some d)}->RG 2 σ ((px>>=λ_=>(Pure.pure ():M Unit)) l):=by
   intro l i2 K w2 h2 n2 m2;have e2:px l=ku (some d) l:=by unfold px;rw[h2]
   have C:=Ci i2 n2 (by intro e;cases e);rw[M.gx,e2];have e3:ku (some d) l= .ok () {l with gz:=l.gz.erase (some d)}:=Jo (lW n2);rw[e3]at C|-;obtain⟨U,V,X,k6⟩:=C;refine⟨U,m2,⟨K.gP.trans B.gP,K.pQ.trans B.pQ,K.qQ.trans B.qQ,K.oZ.trans B.oZ,?_,by have:=K.wz;rw[B.waiting]at this;exact this,λi s q=>K.nm i s (B.nm i s q)⟩,?_⟩
   .show l.waiting.length<=_;have:=K.wt;rw[B.waiting]at this;exact this
   .show wt l<=_;omega
  have H:iU z d gS:=B.nm _ _ O;have D:([some x,some d]:kQ).erase (some d)=[some x]:=by
   rw[List.erase_cons_tail (by simpa using xd),List.erase_cons_head]
  have I:∀Z,RG 2 σ (((oc ⟨a,b,.start nm,gL⟩ Z>>=λ_=>(Pure.pure ():M Unit))>>=λ_=>px>>=λ_=>(Pure.pure ():M Unit)) z):=by
   intro Z;have k:=Gg i1 Y ht Z (by omega);rw[M.gx,M.gx];revert k;cases oc ⟨a,b,.start nm,gL⟩ Z z with
   |ok u l=>
    rintro⟨k1,C,U,V,X,⟨j,k6,k7⟩,k8,k9⟩;refine L l k1 C U (k8.trans F) (k9 _ _ H) ?_;have hj:j≠d:=by
     have:=Ab.ik J;have e4:z.nodes.length=σ.nodes.length:=by rw[A]
     omega
    have he:l.gz.erase (some d)=[some x,some j]:=by
     rw[k6,o1];show([some x,some d,some j]:kQ).erase (some d)=_;rw[List.erase_cons_tail (by simpa using xd),List.erase_cons_head]
    refine⟨.inr (.inl ⟨V,?_,?_,?_⟩),λq=>?_⟩
    .show 3<=l.kept;rw[X,G];omega
    .show 2<=(l.gz.erase (some d)).length;rw[he];simp
    .show HS l.kept (l.gz.erase (some d)).dropLast l.head;rw[he,X,G,k8,F];exact .inr (.inr (.inr (.inl ⟨rfl,x,d,rfl,rfl⟩)))
    .have q:6<=l.mode\/l.mode=5/\6<=l.kept:=q;rw[V,X,G]at q;omega
   |stop c p=>exact λh=>xI h B.gP
   |stuck=>exact λh=>h
  rcases a0 with rfl|rfl|rfl
  .rw[iI false n 3 _ (by intro e;cases e) lF rfl (.ie 92) (by kernel_rfl)];have k:=qs i1 Y (by omega) ⟨a,b,.start jh,gL⟩ rfl N;show RG 2 σ ((lx ⟨a,b,.start jh,gL⟩>>=λ_=>px>>=λ_=>(Pure.pure ():M Unit)) z);rw[M.gx];revert k;cases lx ⟨a,b,.start jh,gL⟩ z with
   |ok u l=>
    rintro⟨k1,C,U,V,X⟩;refine L l k1 C.lm U (C.head.trans F) (C.nm _ _ H) ?_;refine⟨.inl (.inr (.inr (.inr (.inl ⟨C.mode.trans G,x,d,?_,C.head.trans F⟩)))),BH.low (by show l.mode<=4;have:=C.mode;omega)⟩;show l.gz.erase (some d)=_;rw[V,o1];exact D
   |stop c p=>exact λh=>xI h B.gP
   |stuck=>exact λh=>h
  .rw[iI false n 3 _ (by intro e;cases e) lF rfl (.ie 93) (by kernel_rfl)];exact I false
  .rw[iI false n 3 _ (by intro e;cases e) lF rfl (.ie 94) (by kernel_rfl)];exact I true
def UK (K:4*64+8<=n) (t:gM) (l:uU t) (h:In4 σ) (z:Hn σ t) (H:wt σ < 997000) (G:σ.waiting.length < 4000):RG 372 σ (gZ false (n+1) 4 t σ):=by
 obtain⟨k,rfl⟩:∃k,n=k+1:=⟨n - 1,by omega⟩;have C:∀t,uU t->Hn σ t->RG 372 σ (nw (gZ false (k+1)) t σ):=λt l z=>(IY h l z H G K).mono (by omega);have F:RG 372 σ ((Pure.pure ():M Unit) σ):=(qX h.iv h.ms).mono (by omega);obtain⟨a,b,U,gL⟩:=t;cases U with
 |lost=>exact absurd rfl l.nl
 |ke s=>
  refine BZ (sp:=mq) (P:=RG 372 σ) rfl rfl rfl ?_ ?_
  .exact RG.mono (c:=s.size+1) ((oH h.iv h.ne _ (by have:=l.sz;have e:gM.chars ⟨a,b,.ke s,gL⟩=s:=rfl;rw[e]at this|-;omega)).rg h.ms (λ_ q=>q.gz)) (by have:=l.sz;have e:gM.chars ⟨a,b,.ke s,gL⟩=s:=rfl;rw[e]at this;omega)
  .exact C _ l z
 |gR s=>
  refine jz l.nl (sp:=mq) (P:=RG 372 σ) rfl rfl ?_;show RG 372 σ (x7 87 true _ σ);rw[yL];exact RG.mono (c:=1) (vZ h.iv mW (Aw h.iv h.ne) _ (by omega) h.ms) (by omega)
 |iM s q=>exact jz l.nl (sp:=mq) (P:=RG 372 σ) rfl rfl F
 |im=>exact jz l.nl (sp:=mq) (P:=RG 372 σ) rfl rfl (C _ l z)
 |start nm=>
  have D:nS σ ⟨a,b,.start nm,gL⟩:=z.tag rfl;refine Hh (sp:=mq) (P:=RG 372 σ) rfl (by simp) rfl rfl ?_ ?_
  .intro p A B;simp only[qD,qE,rH]at A;rcases A with rfl|rfl|rfl|rfl
   all_goals dsimp only at B|-
   .exact(KD h (by have:=Nv B;simp at this;exact this) D.fr H).mono (by omega)
   .have e:=IX B;subst e;show RG 372 σ (ue _ σ);unfold ue;have O:=jT h.iv h.ne (by omega) ⟨a,b,.start gA,gL⟩ D.tag D.fr;rw[M.gx];revert O;cases jt ⟨a,b,.start gA,gL⟩ σ with
    |ok u σ1=>
     rintro⟨N,y,V,j,q⟩;have I:B3 σ1:=by
      obtain⟨x,d,_,J⟩:=h.sh;obtain⟨r,L⟩:=h.iv;exact⟨⟨d,y.nm _ _ (L.head d J)⟩,j,q.nm⟩
     exact⟨N.lY rfl rfl rfl rfl rfl rfl rfl,⟨.inl (.inr (.inr (.inr (.inr ⟨rfl,y.ne h.ne⟩)))),λ_=>I⟩,⟨y.gP,y.pQ,y.qQ,y.oZ,y.lm.wt,y.lm.wz,y.nm⟩,jP V (by omega)⟩
    |stop c p=>exact λh=>h
    |stuck=>exact λh=>h
   .have e:=IX B;subst e;exact(Nx k a b gL h.iv h.ne D.fr h.ms).mono (by omega)
   .exact F
  .exact C _ l z
 |stop nm=>
  refine Om (sp:=mq) (P:=RG 372 σ) rfl (by simp) rfl rfl ?_ ?_
  .intro p A B;simp only[qD,qE,rH]at A;subst A;exact C _ l z
  .exact F
end
end Go.Proofs.YtofkkmcdggkkpaaGreatDoor
