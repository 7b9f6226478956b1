import Derived.Test.YtofkkmcdggkkpaaGreatDoorAtA
import Derived.Stop.Asserts
import Derived.RowKitTokens
import Derived.Defers
import Derived.Recover
import Derived.Laws.Pointers
import Derived.Outline
import Derived.Handy
import Derived.PlainAid
import Derived.Lib.IndexAny
import Derived.BigRegion
set_option linter.unusedSimpArgs false
set_option linter.unusedVariables false
set_option linter.defProp false
set_option maxHeartbeats 0
set_option maxRecDepth 100000
namespace Go.Proofs.YtofkkmcdggkkpaaGreatDoor
open Go.RowKit Go.Extern.Stop Go.Stop Go.Extern Go.PlainAid Tryz
def vk:=@World.frozen?_alloc_old
def tj:=@cell_of_one
def qE:=@wpAny_ready
def oU:=@AllReady.cons
def qF:=@AllReady.nil
def Oz:=@run_convert_bytes_back
def xH:=@Calls.quiet_of
def xI:=@dif_pos
def xJ:=@Nat.le_add_right
section
variable {P : pG Unit->Prop} {S : List Nat} {T : TypeId} {W w w' wr : gw} {a b c g i k m n r sz : Nat} {lk : Bool} {nm p s : gz} {o : Ru} {q : Int->Bool} {sp : mx} {t : gN} {v v' : gP} {σ : Ab}
attribute [local go_sem] Oper.semAt_some
section
variable (E:Env) (t:gN) (hG:∀i,ja E 259 (λf=>#[Bp E,nV f i,iF E t]) (wh i t) uV)
include hG
theorem Sr:ja E 172 (λ_=>#[Bp E,iF E t]) (oH t) uV:=by
 intro f σ w h HS;obtain⟨R,l⟩:∃R,R=oH t σ:=⟨_,rfl⟩;rw[<-l]at HS|-;obtain⟨i,hi⟩:∃i,iB σ.gA 0=some i:=by
  cases hq:iB σ.gA 0 with
  |some i=>simp
  |none=>unfold oH at l;grind
 have d:R=(wh i t>>=λ_=>(Pure.pure ():M Unit)) σ:=by rw[l];unfold oH;rw[hi]
 have u:=h.atO 0;rw[hi]at u;have H:=At.start h;have j:=fW d;have hl:=h.lt;have z:=hG;clear h l d hi hG;go_enter func172,ntmps172
 go_wp21
 refine u.mono ?_;rintro e C ⟨rfl,y⟩;have x:=y.symm;subst x;clear u
 go_wp21
 refine dC (z i) H j HS rfl lT ?_;clear H j;rintro(_) f σ w H B A j;go_wp2;go_end0;exact gv j H rfl
def Sq:ja E 173 (λ_=>#[Bp E,iF E t]) (ql t) uV:=by
 intro f σ w h B;obtain⟨R,z⟩:∃R,R=ql t σ:=⟨_,rfl⟩;rw[<-z]at B|-;have x:=h.atO 1;have H:=At.start h;have HS:=B;have hl:=h.lt;have C:=hG;cases hi:iB σ.gA 1 with
 |none=>
  have d:R= .ok () σ:=by rw[z];unfold ql;rw[hi]
  rw[hi]at x;have y:=fW d;clear h B z d hi hG C;go_enter func173,ntmps173
  go_wp21
  refine x.mono ?_;rintro e J ⟨rfl,l⟩;have j:=l.symm;subst j;clear x;go_wp2;go_end0;exact gv y H rfl
 |some i=>
  obtain⟨U,u⟩:∃e,σ.ib i=some e:=Option.isSome_iff_exists.1 (h.wf.gA _ (AW hi));have O:w.cell? ⟨f i,0,none⟩=some (gI (σ.nm i)):=by
   obtain⟨L,rfl,G⟩:=h;exact G.vh u
  have I:f i < w.heap.size:=by
   obtain⟨L,rfl,G⟩:=h;exact G.Hp (Ab.il u)
  have A:=YS f i w;rw[hi]at x;cases hq:kA (σ.nm i) gE with
  |true=>
   have d:R=(wh i t>>=λ_=>(Pure.pure ():M Unit)) σ:=by rw[z];unfold ql;rw[hi];dsimp only;rw[hq];rfl
   have y:=fW d;have F:((σ.nm i).toList==[98,111,100,121])=true:=by
    have D:(gE:gz).toList=[98,111,100,121]:=by first|rfl|decide|simp
    rw[<-D];exact hq
   clear h B z d hi hG hq u;unfold nV at A;go_enter func173,ntmps173
   go_wp21
   refine x.mono ?_;rintro e J ⟨rfl,l⟩;have j:=l.symm;subst j;clear x;rw[show oV f (some i)=gL (f i)from rfl]
   go_wp21
   refine dC (C i) H y HS rfl lT ?_;clear H y;rintro(_) f σ w H N K y;go_wp2;go_end0;exact gv y H rfl
  |false=>
   have d:R= .ok () σ:=by rw[z];unfold ql;rw[hi];dsimp only;rw[hq];rfl
   have y:=fW d;have F:((σ.nm i).toList==[98,111,100,121])=false:=by
    have D:(gE:gz).toList=[98,111,100,121]:=by first|rfl|decide|simp
    rw[<-D];exact hq
   clear h B z d hi hG hq u C;unfold nV at A;go_enter func173,ntmps173
   go_wp21
   refine x.mono ?_;rintro e J ⟨rfl,l⟩;have j:=l.symm;subst j;clear x;rw[show oV f (some i)=gL (f i)from rfl];go_wp2;go_end0;exact gv y H rfl
end
def aco (L M:kY):flat (L++M)=flat L++flat M:=List.flatMap_append ..
structure aed (w:gw) (v:gP) (gM:kY) (v':gP) (w':gw):Prop where
 row:yB w' v' gM
 kp:Kept v.ownBlock.toList w w'
 new:v'.ownBlock=v.ownBlock\/∀k,v'.ownBlock=some k->w.heap.size<=k
theorem Rel.aex {E : Env} {L : Loc} {w1 : gw} (h:Rel E L σ w) {e : zp} (hi:σ.ib i=some e) (hg:nj e.name=true) (hf:σ.fresh=true) (a:gz×gz) (a5:e.gV.length < 4096) (N:aed w (L.av i) (e.gV++[a]) v' w1):
  Rel E {L with av:=λx=>if x=i then v' else L.av x} (σ.ic i {e with gV:=e.gV++[a]}) (w1.setCell ⟨L.gQ i,1,none⟩ v')/\Fr E.bs w (w1.setCell ⟨L.gQ i,1,none⟩ v'):=by
 have F:=Ab.il hi;have a2:(σ.ib i).isSome=true:=by rw[hi];rfl
 have⟨hEl,hAt,hAl⟩:=h.sL i _ (Ab.jo hi);have J:∀g,(L.av i).ownBlock=some g->∃c m,w.heap[g]?=some (.cells c 275 m):=λg hg=>rX hAt hg;have Y:L.gQ i∉(L.av i).ownBlock.toList:=by
  intro A;have a3:(L.av i).ownBlock=some (L.gQ i):=by simpa using A
  exact Cs hAt hEl.iw (by decide) a3
 have b1:=N.kp.at hEl.iw Y;obtain⟨w',I⟩:∃w',w'=w1.setCell ⟨L.gQ i,1,none⟩ v':=⟨_,rfl⟩;rw[<-I];have b2:w'.heap[L.gQ i]?=some (gJ #[gI e.name,v',kh (iD L.gQ e.je),L.kv i] 142):=by rw[I];exact gh b1 1 v'
 have H:Kept (L.gQ i::(L.av i).ownBlock.toList) w w':=by rw[I];exact(N.kp.mono (λk H _=>oX _ H)).setCell (.inl (by simp)) _
 have r2:yB w' v' (e.gV++[a]):=by rw[I];exact yx (a:=⟨L.gQ i,1,none⟩) N.row (Cs N.row b1 (by decide)) v'
 have K:KT E.bs [142,275] w w':= .jT H (λk H _=>by
  rcases List.mem_cons.1 H with rfl|H
  .exact⟨⟨_,_,_,hEl.iw,by simp⟩,h.bN i F⟩
  .have X:(L.av i).ownBlock=some k:=by simpa using H
   have⟨c,m,B⟩:=J k X;exact⟨⟨_,_,_,B,by simp⟩,h.ab i k F X⟩)
 have z:(σ.ic i {e with gV:=e.gV++[a]}).nodes.length=σ.nodes.length:=Ab.nD _ _ _;have V:∀j,((σ.ic i {e with gV:=e.gV++[a]}).ib j=none↔σ.ib j=none):=by
  intro j
  by_cases u:j=i
  .subst u;rw[Ab.iX F,hi];simp
  .rw[Ab.iT u]
 have Z:∀j g,j < σ.nodes.length->j≠i->v'.ownBlock=some g->(L.av j).ownBlock≠some g:=by
  intro j g u l d D;rcases N.new with e1|e1
  .rw[e1]at d;exact h.uq i j e g hi hg u (xn l) d D
  .have:=e1 g d;have⟨c,m,B⟩:=h.MW u D
   grind
 have⟨C,hbl,hC⟩:=h.iw;refine⟨?_,K.fr (by decide)⟩;exact
  {fr:=h.fr.trans (K.fr (by decide))
   env:=h.env
   DQ:=h.DQ
   sL:=by
    intro j nd u;rcases Ab.oc u with⟨rfl,rfl⟩|⟨l,u⟩
    .refine⟨⟨?_,?_,hEl.le,?_⟩,?_,?_⟩
     .grind
     .exact K.row hEl.row (by decide)
     .simp only[xG];have⟨ao,cp,hv⟩:=gH r2
      grind
     all_goals grind
    .have G:=(List.getElem?_eq_some_iff.1 u).1;have hN:kV E.bs L w' j nd:=by
      refine(h.sL j nd u).kept H ?_ ?_ ?_
      .intro A;rcases List.mem_cons.1 A with e1|A
       .exact l (h.inj _ _ e1)
       .obtain⟨c,m,B⟩:=J _ (by simpa using A);obtain⟨c',t,D,_,h3⟩:=h.MV G
        grind
      .intro g d A;have⟨c,m,B⟩:=h.yS G d;rcases List.mem_cons.1 A with e1|A
       .rw[e1]at B;exact absurd (J5 hEl.iw B) (by decide)
       grind
      .intro g d A;rcases List.mem_cons.1 A with e1|A
       .have⟨c,m,B⟩:=h.MW G d;rw[e1]at B;exact absurd (J5 hEl.iw B) (by decide)
       .exact h.uq i j e g hi hg G (xn l) (by grind) d
     cases nd with
     |el e'=>grind[kV]
     |tx s=>exact hN
     |cm s=>exact hN
     |dt s=>exact hN
   inj:=h.inj
   A0:=by rw[z];exact h.A0
   F5:=λj u hn=>h.F5 j (by omega) ((V j).1 hn)
   uq:=by
    intro x y ex g hx a1 hy a4 h1;rw[z]at hy
    by_cases U:x=i
    .grind
    .simp only[gR U]at h1;rw[Ab.iT U]at hx
     by_cases a0:y=i
     .subst a0;simp only[xG];exact λD=>Z x g (Ab.il hx) U D h1
     .simp only[gR a0];exact h.uq x y ex g hx a1 hy a4 h1
   Ep:=by
    intro j u hn;have O:=(V j).1 hn;have l:j≠i:=by rintro rfl;rw[hi]at O;cases O
    simp only[gR l];exact h.Ep j (by omega) O
   wf:=h.wf.ic a2 (h.wf.je i e hi) (h.wf.kids i e hi)
   iw:=⟨C,K.at hbl (by decide),⟨hC.size,hC.low,hC.gA,hC.act,hC.head,hC.form,hC.mode,hC.kept,hC.wait,hC.ID,hC.jL,hC.gQ,hC.behind⟩⟩
   o0:=K.row h.o0 (by decide)
   pX:=K.row h.pX (by decide)
   F9:=h.F9,wT:=h.wT,Et:=h.Et
   oT:=K.row h.oT (by decide)
   Lw:=h.Lw
   rd:=K.at h.rd (by decide)
   QJ:=h.QJ
   tok:=H.ownsRow h.tok (λg d A=>by
    rcases List.mem_cons.1 A with e1|A
    .have⟨c,m,B⟩:=rX h.tok d;rw[e1]at B;exact absurd (J5 hEl.iw B) (by decide)
    .exact h.Da hf i g F d (by grind))
   Lt:=h.Lt,bz:=h.bz,bB:=h.bB,bR:=h.bR
   bN:=by rw[z];exact h.bN
   Da:=by
    intro _ j g u d;rw[z]at u
    by_cases l:j=i
    .subst l;simp only[xG];intro D;rcases N.new with e1|e1
     .rw[e1]at D;exact h.Da hf j g u d D
     .have:=e1 g D;have⟨c,m,B⟩:=rX h.tok d
      grind
    .simp only[gR l];exact h.Da hf j g u d
   ab:=by
    intro j g u d;rw[z]at u
    by_cases l:j=i
    .subst l;simp only[xG]at d;rcases N.new with e1|e1
     .rw[e1]at d;exact h.ab j g u d
     .exact jN h.bw (e1 g d)
    .simp only[gR l]at d;exact h.ab j g u d
   tb:=h.tb
   Lv:=h.Lv}
attribute [local go_sem] Oper.semAt_some
def Yv:(prog.info? 275).map (λi=>(i.zero,i.size,i.bytes))=some (some (.agg #[gI kJ,gI kJ]),2,32):=by kernel_rfl
def II (i:Nat) (a:gz×gz) (r:kY) (σ:Ab):qm i (a::r) σ=(match σ.ib i with
  |none=> .stuck
  |some e=>if yQ e.gV a.1 then qm i r σ else if σ.oZ<=e.gV.length then .stop 7 σ.gQ else qm i r (σ.ic i {e with gV:=e.gV++[a]})):=rfl
def abW (E:Env) (t:gN) (u:jd E t) {f : Nat->Nat} (h:RF E f σ w):∃x y nm d j,zh E t=#[.int .i64 x,.int .i64 y,.string nm,.slice d t.js.length j]/\t.js.length<=4096/\∀f σ w,RF E f σ w->yB w (.slice d t.js.length j) t.js:=by
 have⟨L,e,hr⟩:=h;have⟨d,j,htv⟩:=gH hr.tok;have l:=hr.Lt;have⟨a,b,k,gM⟩:=t;cases k with
 |start n=>
  have e:gM=E.ta:=u rfl;subst e;exact⟨a,b,n,d,j,by simp only[zh,gN.js];rw[htv],l,λf σ w ⟨L,_,h⟩=>by show yB w (.slice d E.ta.length j) E.ta;rw[<-htv];exact h.tok⟩
 |stop n=>
  have e:gM=E.ta:=u rfl;subst e;exact⟨a,b,n,d,j,by simp only[zh,gN.js];rw[htv],l,λf σ w ⟨L,_,h⟩=>by show yB w (.slice d E.ta.length j) E.ta;rw[<-htv];exact h.tok⟩
 |ke s=>exact⟨0,0,_,none,0,rfl,iP _,λ_ _ _ _=>oY _ _ _ _⟩
 |gS s=>exact⟨0,0,_,none,0,rfl,iP _,λ_ _ _ _=>oY _ _ _ _⟩
 |iN n q=>exact⟨0,0,_,none,0,rfl,iP _,λ_ _ _ _=>oY _ _ _ _⟩
 |lost=>exact⟨0,0,_,none,0,rfl,iP _,λ_ _ _ _=>oY _ _ _ _⟩
 |io=>exact⟨0,0,_,none,0,rfl,iP _,λ_ _ _ _=>oY _ _ _ _⟩
def Wh {o:Oper} {ys : Nat->Option Bool} {a : Act} {K' : Act->gw->Prop} {Q:Exit->Act->gw->Prop} {d : Prop} (s x:Operand) (t:TypeId) (j:o.op= .call {callee:= .builtin .append,args:=#[s,x],argTypes:=#[t,t]}) (z:o.guard=none) (v u:gP) (y:a.eval s=v) (A:a.eval x=u) (l:(Builtin.append_ #[t,t] o.type #[v,u]).run prog w= .ok v' w') (h:K' (a.put o.dst v') w'):if Region.wanted o ys=true then Oper.wp prog o a w K' Q else d:=by
 have e:Region.wanted o ys=true:=by unfold Region.wanted;rw[z]
 rw[gF e];unfold Oper.wp execOp;simp only[j,resolve,invoke,builtin,RA,Sem.run_pure,Result.andThen_ok,List.map_toArray,yy,List.map_nil,y,A,l];exact h
def SlK (a b:gz) (v:gP) (W:gw):Prop:=∃k,v=rh k 1 1/\W.heap[k]?=some (gJ #[gI a,gI b] 275)
structure Hf (w:gw) (v:gP) (n:Nat) (gM:kY) (v':gP) (W:gw):Prop where
 app:aed w v gM v' W
 shape:∃ao cp,v'= .slice ao (n+1) cp
def Hf.lt2 {gM : kY} (h:Hf w v n gM v' W) (d:k < w.heap.size):k < W.heap.size:=lU d h.app.kp.size
theorem Hf.at {gM : kY} (h:Hf w v n gM v' W) {c : jO} (d:w.heap[k]?=some (gJ c T)) (e:v.ownBlock≠some k):W.heap[k]?=some (gJ c T):=h.app.kp.at d (by grind)
def Hf.cell {gM : kY} (h:Hf w v n gM v' W) {j l u : gP} (e:w.heap[k]?=some (gJ #[j,v,l,u] T)) (d:v.ownBlock≠some k):W.cell? ⟨k,1,none⟩=some v:=by rw[fX (h.at e d)];rfl
def Hf.free {gM : kY} (h:Hf w v n gM v' W) {c : jO} (e:w.heap[k]?=some (gJ c T)) (d:v.ownBlock≠some k):W.frozen? ⟨k,1,none⟩=false:=gG (h.at e d) 1
theorem OR {d : Option Addr} {h : Nat} {gM : kY} (w W:gw) (l:Kept [] w W) (D:yB w (.slice d gM.length h) gM) (k:Nat) (a b:gz) (C:W.heap[k]?=some (gJ #[gI a,gI b] 275)) (H:gM.length<=4096):
  ∃v' w',(Builtin.append_ #[139,139] 139 #[.slice d gM.length h,rh k 1 1]).run prog W= .ok v' w'/\Hf w (.slice d gM.length h) gM.length (gM++[(a,b)]) v' w':=by
 obtain⟨F,hi,z,A,B⟩:=vp Yv;have G:=l.ownsRow D (λ_ _=>by simp);have⟨v',w',h1,h2,h3,h4⟩:=zC (P:=prog) W 0 139 139 275 F (.agg #[gI kJ,gI kJ]) 2 32 underlying139 hi z A B rfl (by decide) (.slice d gM.length h) gM.length (flat gM) G ⟨k,0,none⟩ 1 1 [gI a,gI b] rfl (λj u x=>by
  rw[jq,fX C,<-x];simp) (λu x=>by simp at x;rcases x with rfl|rfl<;>rfl) (by unfold maxLen;omega) (by omega) (iP _)
 refine⟨v',w',h1,⟨?_,?_,?_⟩,?_⟩
 .show w'.ownsRow 0 _ 2 v' (gM++[(a,b)]).length (flat (gM++[(a,b)]))
  grind[flat]
 .exact(l.mono (by simp)).grown h3 (λk l=> .inl (by grind))
 .rcases h4 with e|e
  .grind
  .exact .inr λk y=>jN l.size (e k y)
 .have⟨ao',cp',e⟩:=gH h2
  grind
structure GvI (E:Env) (f:Nat->Nat) (i:Nat) (a b:gz) (ao2:Option Addr) (n2 cp2:Nat) (ats2:kY) (W0:gw) (z0 z1 z2 z3 z4 z5 z6 z7 z8 z9 z10:Bool) (s33 s34 s35 s36 s37 s38 s39 s40 s41 s42:gP) (W:gw):Prop where
 f0:z0=true->s33=nV f i
 f1:z1=true->s34=nV f i
 f2:z2=true->s35=gL (f i)
 f3:z3=true->s36=jF (f i) 1
 f4:z4=true->s37= .slice ao2 n2 cp2
 f5:z5=true->s38= .agg #[gI a,gI b]
 f6:z6=true->z7=false->SlK a b s39 W
 f7:z7=true->z10=false->Hf W0 (.slice ao2 n2 cp2) n2 ats2 s40 W
 f8:z8=true->s41=gL (f i)
 f9:z9=true->s42=jF (f i) 1
 d2:z2=true->z1=true
 d3:z3=true->z2=true
 d4:z4=true->z3=true
 d6:z6=true->z5=true
 d7:z7=true->z4=true/\z6=true
 d8:z8=true->z0=true/\z1=true/\z2=true/\z3=true/\z4=true/\z5=true/\z6=true/\z7=true
 d9:z9=true->z8=true
 d10:z10=true->z9=true/\z7=true
 wi:z7=false->Kept [] W0 W
 fin:z10=true->∃v1 W1,Hf W0 (.slice ao2 n2 cp2) n2 ats2 v1 W1/\W=W1.setCell ⟨f i,1,none⟩ v1
theorem Yn (E:Env) (t:gN) (ht:jd E t) (i:Nat):ja E 259 (λf=>#[Bp E,nV f i,iF E t]) (wh i t) uV:=by
 intro f σ w h HS;obtain⟨R,hR⟩:∃R,R=wh i t σ:=⟨_,rfl⟩;rw[<-hR]at HS|-;have A:(σ.fresh&&nj (σ.nm i))=true:=by
  cases hq:(σ.fresh&&nj (σ.nm i))with
  |true=>rfl
  |false=>unfold wh at hR;grind
 have HR:R=qm i t.js σ:=by rw[hR];unfold wh;rw[A];rfl
 rw[rR]at A;have⟨V,X⟩:=A;have⟨x,y,nm,ao,cp,hTV,hn,HROW⟩:=abW E t ht h;have aK:∃ao n cp,E.tv= .slice ao n cp:=by
  have⟨L,_,K⟩:=h;have⟨ao,cp,e⟩:=gH K.tok;exact⟨ao,_,cp,e⟩
 have aq:=λW=>yt E t W aK;rw[hTV]at aq;generalize t.js=gM at *;have H:=At.start h;go_enter func259,ntmps259
 go_wp21
 refine(aq _).mono ?_;rintro e w1 ⟨rfl,aG⟩;replace H:=H.k0 aG;have aR:=λ(w:gw)=>yu x y nm ao gM.length cp w
 go_wp21
 go_loopw [12] (λv wr=>∃(D:Nat) (z:Ab),v= .int .i64 D/\D<=gM.length/\R=qm i (gM.drop D) z/\At E f σ.nodes.length w f z wr/\z.fresh=true/\nj (z.nm i)=true) (λv _=>gM.length - (intOf v).toNat)
 case atStart=>exact⟨0,σ,rfl,iP _,HR,H,V,X⟩
 case round=>
  obtain⟨D,z,rfl,aP,hR,a3,V,X⟩:=hrel
  by_cases a2:D < gM.length
  .obtain⟨g,rfl,c0,c1⟩:=yB.at2 (HROW _ _ _ a3.rel) a2;rw[CV a2]at hR;obtain⟨e,he⟩:∃e,z.ib i=some e:=by
    cases hq:z.ib i with
    |some e=>simp
    |none=>rw[II,hq]at hR;exact absurd hR HS
   have an:R=(if yQ e.gV gM[D].1 then qm i (gM.drop (D+1)) z else if z.oZ<=e.gV.length then .stop 7 z.gQ else qm i (gM.drop (D+1)) (z.ic i {e with gV:=e.gV++[gM[D]]})):=by rw[hR,II,he]
   have aJ:z.nm i=e.name:=by unfold Ab.nm;rw[he]
   rw[aJ]at X;have aL:gM[D]=(gM[D].1,gM[D].2):=rfl;generalize gM[D].1=a at *;generalize gM[D].2=b at *;rw[aL]at an;have hK:Kept [] wr (wr.alloc (.cells #[.string a,.string b] 275 (0,0))):=(Kept.refl _ _).alloc _;have hB:=fZ wr (.cells #[.string a,.string b] 275 (0,0));have⟨L,hL,K⟩:=(a3.k0 hK).rel;have⟨a4,Z,hAl⟩:=K.sL i _ (Ab.jo he);have C2:=adl (L.gQ i) e.name (L.av i) _ _ e.gV a _ a4.iw Z hAl;rw[hL]at C2;have HE:=fW he;have al:=fW an;have HA:=a3.k0 hK;have HB:=fW hB;have aO:=jn hB;clear an he hB hL
   go_wp21
   refine C2.mono ?_;rintro e2 w2 ⟨rfl,ax⟩;replace HA:=HA.k0 ax;replace HB:=fW (ax.at HB (by simp));cases hq:yQ e.gV a with
   |true=>
    have Y:=(show R=qm i (gM.drop (D+1)) z by rw[al.out,hq];rfl);go_wp2;go_roundw
    case rel=>exact⟨D+1,z,by go_num,by omega,Y,HA,V,by simp_all⟩
    case measure=>simp[intOf];omega
   |false=>
    have⟨L,hL,HRL⟩:=HA.rel;have a4:=(HRL.sL i _ (Ab.jo HE)).1;have Z:=(HRL.sL i _ (Ab.jo HE)).2.1;have⟨ao2,cp2,hav⟩:=gH Z;have d0:w2.cell? ⟨f i,1,none⟩=some (.slice ao2 e.gV.length cp2):=by rw[<-hL,fX a4.iw,<-hav];rfl
    have d1:w2.cell? ⟨E.bB,2,none⟩=some (.int .i64 (z.oZ:Int)):=HRL.low (by decide) HRL.DQ.2.2.1;have aN:=HRL.DQ.2.2.2.2.2;have aH:f i < w2.heap.size:=by rw[<-hL];exact jn a4.iw
    have aQ:=HRL.lt
    by_cases ah:z.oZ<=e.gV.length
    .have Y:=(show R= .stop 7 z.gQ by rw[al.out,hq];simp[ah]);have C3:=(λq=>Oi (HRL.drewN q) 7);clear hav
     go_wp21
     go_quiet (fail)
     go_wp21
     refine(C3 nq).mono ?_;rintro e3 w3 ⟨k,rfl,H1,d⟩;have H2:=(HA.fr.trans (Fr.drewN w2 nq)).trans d;go_wp2;exact⟨rfl,pd Y H1 H2⟩
    .have Y:=(show R=qm i (gM.drop (D+1)) (z.ic i {e with gV:=e.gV++[(a,b)]}) by rw[al.out,hq];simp[ah]);have ak:=fW hL;have ai:=fW hav;have aD:=d0;have am:=aH;clear hav hL;have aj:=(show w2.heap[f i]?=some (.cells #[.string e.name,.slice ao2 e.gV.length cp2,kh (iD L.gQ e.je),L.kv i] 142 (0,0)) by
      have:=(HRL.sL i _ (Ab.jo HE)).1.iw;rw[ak.out,ai.out]at this;rw[ak.out];omega)
     have ag:=(show yB w2 (.slice ao2 e.gV.length cp2) e.gV by rw[<-ai.out];omega);have aC:=(HRL.sL i _ (Ab.jo HE)).2.2;have au:=Cs ag aj (by decide);have aB:=(λW (hk:Kept [] w2 W)=>lU am hk.size);have ar:=am;have aA:=(λW (hk:Kept [] w2 W)=>(hk.cell (p:=⟨f i,1,none⟩) am (by simp)).trans aD);have az:=(λW (hk:Kept [] w2 W)=>(⟨by rw[fX (hk.at HB.out (by simp))];rfl,by rw[fX (hk.at HB.out (by simp))];rfl⟩:W.cell? ⟨wr.heap.size,0,none⟩=some (.string a)/\W.cell? ⟨wr.heap.size,1,none⟩=some (.string b)));have aM:=(show e.gV.length < 16 by omega)
     go_wp21
     go_quiet (fail)
     go_wp21
     refine tw (by rfl) ?_
     try (change wpAny _ _ _ _ _ _ _ (World.drew _))
     refine Bc (I:=λF ac W=>∃z0 z1 z2 z3 z4 z5 z6 z7 z8 z9 J a5 a6 a7 a8 a9 aa ab ad ae af,F=#[z0,z1,z2,z3,z4,z5,z6,z7,z8,z9,J]/\ac=⟨#[Bp E,nV f i,iF E t,undef,undef,undef,undef,.pointer (some ⟨wr.heap.size,0,none⟩),iF E t,.agg #[.int .i64 x,.int .i64 y,.string nm,.slice (some ⟨g,0,none⟩) gM.length cp],.slice (some ⟨g,0,none⟩) gM.length cp,.int .i64 (gM.length:Int),.int .i64 (D:Int),.bool true,.pointer (some ⟨g,D*2,none⟩),.agg #[.string a,.string b],nV f i,.pointer (some ⟨wr.heap.size,0,none⟩),.string a,.bool false,nV f i,.pointer (some ⟨f i,0,none⟩),.pointer (some ⟨f i,1,none⟩),.slice ao2 e.gV.length cp2,.int .i64 (e.gV.length:Int),Bp E,.pointer (some ⟨E.bB,0,none⟩),.pointer (some ⟨E.bB,0,none⟩),.pointer (some ⟨E.bB,2,none⟩),.int .i64 (z.oZ:Int),.bool false,u31,u32,a5,a6,a7,a8,a9,aa,ab,ad,ae,af,u43],[]⟩/\GvI E f i a b ao2 e.gV.length cp2 (e.gV++[(a,b)]) w2 z0 z1 z2 z3 z4 z5 z6 z7 z8 z9 J a5 a6 a7 a8 a9 aa ab ad ae af W) ?_ ?_ _ _ _ _ ?_ ?_
     .rintro F a W k ⟨z0,z1,z2,z3,z4,z5,z6,z7,z8,z9,J,a5,a6,a7,a8,a9,aa,ab,ad,ae,af,rfl,rfl,j⟩ hi;simp only[Region.ready,MB,Kn]at hi;have⟨a2,A⟩:=hi;have a2:k < 11:=a2;obtain rfl|rfl|rfl|rfl|rfl|rfl|rfl|rfl|rfl|rfl|rfl:k=0\/k=1\/k=2\/k=3\/k=4\/k=5\/k=6\/k=7\/k=8\/k=9\/k=10:=by omega
      all_goals simp[Region.binds]at A
      .refine kN rfl ?_;intro K' u;have aE:z0=false:=by simp[A]
       go_simp;refine u _ _ ?_
       iterate 21 apply Exists.intro
       refine⟨rfl,rfl,?_⟩;exact {j with f0:=(λ_=>rfl),d8:=(λl=>by have d:=(j.d8 l).1;rw[aE]at d;cases d)}
      .refine kN rfl ?_;intro K' u;have aF:z1=false:=by simp[A]
       go_simp;refine u _ _ ?_
       iterate 21 apply Exists.intro
       refine⟨rfl,rfl,?_⟩;exact {j with f1:=(λ_=>rfl),d2:=(λ_=>rfl),d8:=(λl=>by have d:=(j.d8 l).2.1;rw[aF]at d;cases d)}
      .refine kN rfl ?_;intro K' u;have av:z2=false:=by simp[A]
       have ap:z3=false:=Bool.eq_false_iff.2 λl=>by have d:=(j.d3 l);rw[av]at d;cases d
       have a0:z4=false:=Bool.eq_false_iff.2 λl=>by have d:=(j.d4 l);rw[ap]at d;cases d
       have B:z7=false:=Bool.eq_false_iff.2 λl=>by have d:=(j.d7 l).1;rw[a0]at d;cases d
       have e1:=j.f1 (by simp[A]);subst e1;have aI:=aB W (j.wi B);go_simp;refine u _ _ ?_
       iterate 21 apply Exists.intro
       refine⟨rfl,rfl,?_⟩;exact {j with f2:=(λ_=>rfl),d2:=(λ_=>by simp[A]),d3:=(λ_=>rfl),d8:=(λl=>by have d:=(j.d8 l).2.2.1;rw[av]at d;cases d)}
      .refine kN rfl ?_;intro K' u;have ap:z3=false:=by simp[A]
       have e2:=j.f2 (by simp[A]);subst e2;go_simp;refine u _ _ ?_
       iterate 21 apply Exists.intro
       refine⟨rfl,rfl,?_⟩;exact {j with f3:=(λ_=>rfl),d3:=(λ_=>by simp[A]),d4:=(λ_=>rfl),d8:=(λl=>by have d:=(j.d8 l).2.2.2.1;rw[ap]at d;cases d)}
      .refine kN rfl ?_;intro K' u;have a0:z4=false:=by simp[A]
       have B:z7=false:=Bool.eq_false_iff.2 λl=>by have d:=(j.d7 l).1;rw[a0]at d;cases d
       have e3:=j.f3 (by simp[A]);subst e3;have cc:=aA W (j.wi B);go_simp;refine u _ _ ?_
       iterate 21 apply Exists.intro
       refine⟨rfl,rfl,?_⟩;exact {j with f4:=(λ_=>rfl),d4:=(λ_=>by simp[A]),d7:=(λl=>by have d:=(j.d7 l).1;rw[a0]at d;cases d),d8:=(λl=>by have d:=(j.d8 l).2.2.2.2.1;rw[a0]at d;cases d)}
      .refine kN rfl ?_;intro K' u;have aw:z5=false:=by simp[A]
       have O:z6=false:=Bool.eq_false_iff.2 λl=>by have d:=(j.d6 l);rw[aw]at d;cases d
       have B:z7=false:=Bool.eq_false_iff.2 λl=>by have d:=(j.d7 l).2;rw[O]at d;cases d
       have cc:=az W (j.wi B);have c2:=cc.1;have c3:=cc.2;go_simp;refine u _ _ ?_
       iterate 21 apply Exists.intro
       refine⟨rfl,rfl,?_⟩;exact {j with f5:=(λ_=>rfl),d6:=(λ_=>rfl),d8:=(λl=>by have d:=(j.d8 l).2.2.2.2.2.1;rw[aw]at d;cases d)}
      .refine kN rfl ?_;intro K' u;have O:z6=false:=by simp[A]
       have B:z7=false:=Bool.eq_false_iff.2 λl=>by have d:=(j.d7 l).2;rw[O]at d;cases d
       have a1:z8=false:=Bool.eq_false_iff.2 λl=>by have d:=(j.d8 l).2.2.2.2.2.2.1;rw[O]at d;cases d
       have N:z9=false:=Bool.eq_false_iff.2 λl=>by have d:=(j.d9 l);rw[a1]at d;cases d
       have C:J=false:=Bool.eq_false_iff.2 λl=>by have d:=(j.d10 l).1;rw[N]at d;cases d
       have e5:=j.f5 (by simp[A]);subst e5;go_simp;have ka:Kept [] W (W.alloc (.cells #[.string a,.string b] 275 (0,0))):=(Kept.refl _ _).alloc _;refine u _ _ ?_
       iterate 21 apply Exists.intro
       refine⟨rfl,rfl,?_⟩;exact {j with f6:=(λ_ _=>⟨W.heap.size,rfl,fZ W _⟩),f7:=(λh=>by rw[B]at h;cases h),d6:=(λ_=>by simp[A]),d7:=(λl=>by have d:=(j.d7 l).2;rw[O]at d;cases d),d8:=(λl=>by have d:=(j.d8 l).2.2.2.2.2.2.1;rw[O]at d;cases d),wi:=(λ_=>(j.wi B).trans ka),fin:=(λh=>by rw[C]at h;cases h)}
      .refine kN rfl ?_;intro K' u;have B:z7=false:=by simp[A]
       have a1:z8=false:=Bool.eq_false_iff.2 λl=>by have d:=(j.d8 l).2.2.2.2.2.2.2;rw[B]at d;cases d
       have N:z9=false:=Bool.eq_false_iff.2 λl=>by have d:=(j.d9 l);rw[a1]at d;cases d
       have C:J=false:=Bool.eq_false_iff.2 λl=>by have d:=(j.d10 l).1;rw[N]at d;cases d
       have e4:=j.f4 (by simp[A]);subst e4;have⟨k,e6,hk6⟩:=j.f6 (by simp[A]) B;subst e6;have⟨v',w',hap,G⟩:=OR w2 W (j.wi B) ag k a b hk6 aC;refine Wh (.tmp 37) (.tmp 39) 139 rfl rfl (.slice ao2 e.gV.length cp2) (.slice (some ⟨k,0,none⟩) 1 1) rfl rfl (v':=v') (w':=w') (by exact hap) ?_;refine u _ _ ?_
       iterate 21 apply Exists.intro
       refine⟨rfl,rfl,?_⟩;exact {j with f6:=(λ_ h=>by cases h),f7:=(λ_ _=>G),d7:=(λ_=>by simp[A]),d8:=(λl=>by have d:=(j.d8 l).2.2.2.2.2.2.2;rw[B]at d;cases d),d10:=(λl=>by have d:=(j.d10 l).2;rw[B]at d;cases d),wi:=(λh=>by cases h),fin:=(λh=>by rw[C]at h;cases h)}
      .refine kN rfl ?_;intro K' u;have a1:z8=false:=by simp[A]
       have N:z9=false:=Bool.eq_false_iff.2 λl=>by have d:=(j.d9 l);rw[a1]at d;cases d
       have C:J=false:=Bool.eq_false_iff.2 λl=>by have d:=(j.d10 l).1;rw[N]at d;cases d
       have e0:=j.f0 (by simp[A]);subst e0;have aI:=(j.f7 (by simp[A]) C).lt2 ar;go_simp;refine u _ _ ?_
       iterate 21 apply Exists.intro
       refine⟨rfl,rfl,?_⟩;exact {j with f8:=(λ_=>rfl),d8:=(λ_=>by simp[A]),d9:=(λ_=>rfl)}
      .refine kN rfl ?_;intro K' u;have N:z9=false:=by simp[A]
       have e8:=j.f8 (by simp[A]);subst e8;go_simp;refine u _ _ ?_
       iterate 21 apply Exists.intro
       refine⟨rfl,rfl,?_⟩;exact {j with f9:=(λ_=>rfl),d9:=(λ_=>by simp[A]),d10:=(λl=>by have d:=(j.d10 l).1;rw[N]at d;cases d)}
      .refine kN rfl ?_;intro K' u;have C:J=false:=by simp[A]
       have e9:=j.f9 (by simp[A]);subst e9;have G:=j.f7 (by simp[A]) C;have⟨ao9,cp9,e9⟩:=G.shape;subst e9;have c9:=G.cell aj au;have f9:=G.free aj au;go_simp;refine u _ _ ?_
       iterate 21 apply Exists.intro
       refine⟨rfl,rfl,?_⟩;exact {j with f6:=(λ_ h=>by simp[A]at h),f7:=(λ_ h=>by cases h),d10:=(λ_=>by simp[A]),wi:=(λh=>by simp_all),fin:=(λ_=>⟨_,_,G,rfl⟩)}
     .rintro F a W ⟨z0,z1,z2,z3,z4,z5,z6,z7,z8,z9,J,a5,a6,a7,a8,a9,aa,ab,ad,ae,af,rfl,rfl,j⟩ K;simp only[Region.ready,UW,Kn]at K;have q0:=K 0 (by decide);simp[Region.binds]at q0;subst q0;have q1:=K 1 (by decide);simp[Region.binds]at q1;subst q1;have q2:=K 2 (by decide);simp[Region.binds]at q2;subst q2;have q3:=K 3 (by decide);simp[Region.binds]at q3;subst q3;have q4:=K 4 (by decide);simp[Region.binds]at q4;subst q4;have q5:=K 5 (by decide);simp[Region.binds]at q5;subst q5;have q6:=K 6 (by decide);simp[Region.binds]at q6;subst q6;have q7:=K 7 (by decide);simp[Region.binds]at q7;subst q7;have q8:=K 8 (by decide);simp[Region.binds]at q8;subst q8;have q9:=K 9 (by decide);simp[Region.binds]at q9;subst q9;have ay:=K 10 (by decide);simp[Region.binds]at ay;subst ay;have⟨v1,W1,G,hW⟩:=j.fin rfl;subst hW;have U:=HRL.aex HE X V (a,b) (by omega) (v':=v1) (w1:=W1) (by rw[ai.out];exact G.app);rw[ak.out]at U;go_wp2;go_roundw
      case rel=>exact⟨D+1,_,by go_num,by omega,Y,HA.to ⟨_,rfl,U.1⟩ (nh (Ab.nD _ _ _).symm) U.2,V,by unfold Ab.nm;rw[Ab.iX (Ab.il HE.out)];exact X⟩
      case measure=>simp[intOf];omega
     .decide
     .exact⟨_,_,_,_,_,_,_,_,_,_,_,_,_,_,_,_,_,_,_,_,_,rfl,rfl,⟨(by simp),(by simp),(by simp),(by simp),(by simp),(by simp),(by simp),(by simp),(by simp),(by simp),(by simp),(by simp),(by simp),(by simp),(by simp),(by simp),(by simp),(by simp),(λ_=>((Kept.refl _ _).drewN nq).drew),(λh=>by cases h)⟩⟩
  .have HD:=(show R= .ok () z by rw[hR,Fp (by omega)];rfl);have HA:=a3;go_wp2;go_end0;exact gv HD HA rfl
attribute [local go_sem] Oper.semAt_some
def QY (E:Env) (t:gN) (F:jd E t):ja E 188 (λ_=>#[Bp E,iF E t]) (sE t) uV:=by
 refine dI λf σ w R d HS H=>?_;unfold sE at d;go_enter func188,ntmps188;obtain⟨C,L⟩:∃C,C=f:=⟨_,rfl⟩;obtain⟨G,O⟩:∃G,G=σ.nodes.length:=⟨_,rfl⟩;obtain⟨I,U⟩:∃I,I=w:=⟨_,rfl⟩
 go_wp21
 refine dC (rN E (iK E)) H d HS rfl lT ?_;rintro(_) f σ w H A z d;have⟨kb,lbb,cb,HQ⟩:=H.rel.bounds;have B:=H.lt;have y:=cb;have J:=(Kept.refl [] w).drew
 go_wp21
 go_cut [13]from 6 to 12 (λr wc=>r= .bool (σ.inScope (ik [iG]) (iQ))/\Kept [] w wc)
 case first=>
  go_region_with (first
   |(go_at_call 206;refine(nk E [iG] w.drew (by simp)).mono ?_;rintro e X ⟨Z,V,rfl,l,u⟩;have j:=J.trans u;have Y:X.cell? ⟨E.bB,186,none⟩=some (.func (.func kb) #[] lbb):=(j.cell (p:=⟨E.bB,186,none⟩) B (by simp)).trans y;have x:=fW l;have h:=fW j;clear l u j)
   |(go_at_call 219;refine(vI (H.k0 h).rel (ik [iG]) iQ _ _ x (HQ.k0 h)).mono ?_;rintro e w2 ⟨rfl,D⟩;have K:=fW (h.trans D);clear D))
  all_goals (try (go_wp21))
  all_goals (go_meet;exact⟨rfl,K⟩)
 case rest=>
  obtain⟨rfl,N⟩:=hcut;replace H:=H.k0 N;cases hsc:σ.inScope (ik [iG]) iQ with
  |true=>
   replace d:Hid (R=(wX iG>>=λ_=>iW t>>=λ_=>(Pure.pure ():M Unit)) σ):=by
    refine fW ?_;rw[d.out];unfold ud;rw[hsc];rfl
   go_wp21
   refine dC (MN E iG) H d HS rfl lT ?_;rintro(_) f σ w H A z d
   go_wp21
   refine dC (oo E t F) H d HS rfl lT ?_;rintro(_) f σ w H A z d;go_wp2;go_end0;exact gv d H rfl
  |false=>
   replace d:Hid (R=(iW t>>=λ_=>(Pure.pure ():M Unit)) σ):=by
    refine fW ?_;rw[d.out];unfold ud;rw[hsc];rfl
   go_wp21
   refine dC (oo E t F) H d HS rfl lT ?_;rintro(_) f σ w H A z d;go_wp2;go_end0;exact gv d H rfl
def Is (t:Addr) (w:gw):(ReflectliteValue.unpack (.iface 69 (.pointer (some t)))).run prog w
  = .ok (.agg #[jF 7 69,gL w.heap.size,.int .u64 150]) (w.alloc (.cells #[.pointer (some t)] 69)):=by kernel_rfl
def JM (t:Addr) (w:gw):(ReflectliteValue.unpack (.iface 64 (.pointer (some t)))).run prog w
  = .ok (.agg #[jF 7 64,gL w.heap.size,.int .u64 150]) (w.alloc (.cells #[.pointer (some t)] 64)):=by kernel_rfl
def T4 (a:Addr) (w:gw):(ReflectliteValue.methodAny (ReflectliteValue.valueError "reflectlite.Value.Type" 0) (λt _ _ _=>ReflectliteType.toType t) #[.agg #[jF 7 69,.pointer (some a),.int .u64 150]]).run prog w
  = .ok (.iface 112 (.agg #[jF 7 69])) w:=rfl
def UE (a:Addr) (w:gw):(ReflectliteValue.methodAny (ReflectliteValue.valueError "reflectlite.Value.Type" 0) (λt _ _ _=>ReflectliteType.toType t) #[.agg #[jF 7 64,.pointer (some a),.int .u64 150]]).run prog w
  = .ok (.iface 112 (.agg #[jF 7 64])) w:=rfl
def GZ (h:gP) (w:gw):(Go.method 489 112 (.agg #[h]) "Kind").run prog w= .ok (391,h) w:=by kernel_rfl
def GY (h:gP) (w:gw):(Go.method 489 112 (.agg #[h]) "Elem").run prog w= .ok (411,.agg #[h]) w:=by kernel_rfl
def uz (h:gP) (w:gw):(Go.method 489 112 (.agg #[h]) "Implements").run prog w= .ok (412,.agg #[h]) w:=by kernel_rfl
def uy (h:gP) (w:gw):(Go.method 489 112 (.agg #[h]) "AssignableTo").run prog w= .ok (409,.agg #[h]) w:=by kernel_rfl
def BE (v:gP) (w:gw):(Go.method 489 112 v "Comparable").run prog w= .ok (410,v) w:=by kernel_rfl
def Pc (w:gw):((ReflectliteType.abiMethod λt=>(λa:Nat=>Value.int IntKind.u8 (a:Int)) <$> Rtype.kind t) #[jF 7 69]).run prog w= .ok (.int .u8 22) w:=by kernel_rfl
def T1 (w:gw):((ReflectliteType.abiMethod λt=>(λa:Nat=>Value.int IntKind.u8 (a:Int)) <$> Rtype.kind t) #[jF 7 34]).run prog w= .ok (.int .u8 2) w:=by kernel_rfl
def QQ (w:gw):((ReflectliteType.abiMethod λt=>(λa:Nat=>Value.int IntKind.u8 (a:Int)) <$> Rtype.kind t) #[jF 7 64]).run prog w= .ok (.int .u8 22) w:=by kernel_rfl
def UD (w:gw):((ReflectliteType.abiMethod λt=>(λa:Nat=>Value.int IntKind.u8 (a:Int)) <$> Rtype.kind t) #[jF 7 62]).run prog w= .ok (.int .u8 22) w:=by kernel_rfl
def rlm (z:Sem gP) (f:TypeId->Addr->Nat->Nat->Sem gP) (v:gP):
  ReflectliteValue.method z f #[v]=(do match <-ReflectliteValue.parts v with|none=>z|some (t,a,fl)=>f t a fl (fl%32)):=rfl
def LM (a:Addr) (w:gw):(ReflectliteValue.parts (.agg #[jF 7 69,.pointer (some a),.int .u64 150])).run prog w= .ok (some (69,a,150)) w:=rfl
def Mu (a:Addr) (w:gw):(ReflectliteValue.parts (.agg #[jF 7 64,.pointer (some a),.int .u64 150])).run prog w= .ok (some (64,a,150)) w:=rfl
def Pb (a p:Addr) (W:gw) (d:W.cell? a=some (.pointer (some p))):
  (ReflectliteValue.method (ReflectliteValue.valueError "reflectlite.Value.IsNil" 0) ReflectliteValue.isNil #[.agg #[jF 7 69,.pointer (some a),.int .u64 150]]).run prog W= .ok (.bool false) W:=by
 rw[rlm];simp only[RA,LM,Result.andThen];simp[ReflectliteValue.isNil,loadVar,isAgg,underlying,underlying69,d,Result.andThen]
def QP (a p:Addr) (W:gw) (d:W.cell? a=some (.pointer (some p))):
  (ReflectliteValue.method (ReflectliteValue.valueError "reflectlite.Value.IsNil" 0) ReflectliteValue.isNil #[.agg #[jF 7 64,.pointer (some a),.int .u64 150]]).run prog W= .ok (.bool false) W:=by
 rw[rlm];simp only[RA,Mu,Result.andThen];simp[ReflectliteValue.isNil,loadVar,isAgg,underlying,underlying64,d,Result.andThen]
def T0 (w:gw):(ReflectliteType.method ReflectliteType.elem #[.agg #[jF 7 69]]).run prog w= .ok (.iface 112 (.agg #[jF 7 34])) w:=by kernel_rfl
def UC (w:gw):(ReflectliteType.method ReflectliteType.elem #[.agg #[jF 7 64]]).run prog w= .ok (.iface 112 (.agg #[jF 7 62])) w:=by kernel_rfl
def Bo (w:gw):(ReflectliteType.relation "Implements" ReflectliteType.implements_ #[.agg #[jF 7 34],.iface 112 (.agg #[jF 7 46])]).run prog w= .ok (.bool true) w:=by kernel_rfl
def BF (w:gw):(ReflectliteType.relation "Implements" ReflectliteType.implements_ #[.agg #[jF 7 62],.iface 112 (.agg #[jF 7 46])]).run prog w= .ok (.bool true) w:=by kernel_rfl
def xX (v:gP) (w:gw):(ReflectliteType.typeOf #[.iface 34 v]).run prog w= .ok (.iface 112 (.agg #[jF 7 34])) w:=rfl
def Bn (w:gw):(ReflectliteType.relation "AssignableTo" ReflectliteType.assignableTo #[.agg #[jF 7 34],.iface 112 (.agg #[jF 7 34])]).run prog w= .ok (.bool true) w:=by kernel_rfl
def Lj (w:gw):(ReflectliteType.relation "AssignableTo" ReflectliteType.assignableTo #[.agg #[jF 7 34],.iface 112 (.agg #[jF 7 62])]).run prog w= .ok (.bool false) w:=by kernel_rfl
def FR (n:Int) (w:gw):(ReflectliteValue.unpack (.iface 34 (gp n))).run prog w
  = .ok (.agg #[jF 7 34,gL w.heap.size,.int .u64 130]) (w.alloc (.cells #[gp n] 34)):=by kernel_rfl
def VC (w:gw):(Rtype.elem? 69).run prog w= .ok (some 34) w:=by kernel_rfl
def aeu (p:Addr) (w:gw):(ReflectliteValue.mk 34 p ReflectliteValue.flagAddr).run prog w= .ok (.agg #[jF 7 34,.pointer (some p),.int .u64 386]) w:=by kernel_rfl
def Pa (a p:Addr) (W:gw) (d:W.cell? a=some (.pointer (some p))):
  (ReflectliteValue.method (ReflectliteValue.valueError "reflectlite.Value.Elem" 0) ReflectliteValue.elem #[.agg #[jF 7 69,.pointer (some a),.int .u64 150]]).run prog W
   = .ok (.agg #[jF 7 34,.pointer (some p),.int .u64 386]) W:=by
 rw[rlm];simp only[RA,LM,Result.andThen];simp[ReflectliteValue.elem,loadVar,isAgg,underlying,underlying69,d,Result.andThen,VC,aeu]
def rls (v x:gP):ReflectliteValue.set #[v,x]=(do
  let (some (dst,a,fl),some (src,b,_)):=(<-ReflectliteValue.parts v,<-ReflectliteValue.parts x)
   |unsupported (.noEntry "extern/(internal/reflectlite.Value).Set.zeroValue")
  if fl / ReflectliteValue.flagAddr%2==0 then unsupported (.noEntry "extern/(internal/reflectlite.Value).Set.unaddressable")
  let d <-loadVar src b
  if <-Rtype.directlyAssignable dst src then storeVar dst a d
  else if <-Rtype.implements dst src then
   if (<-Rtype.kind src)==20 then
    match d with
    | .nilIface=>unsupported (.noEntry "extern/reflectlite: a nil value of one interface type handed on as a value of another")
    |_=>storeVar dst a d
   else storeVar dst a (.iface src d)
  else panicString ("reflectlite.Set: value of type "++(<-Rtype.spelt src)++ " is not assignable to type "++(<-Rtype.spelt dst))
  pure (.tuple #[])):=rfl
def VD (a:Addr) (w:gw):(ReflectliteValue.parts (.agg #[jF 7 34,.pointer (some a),.int .u64 386])).run prog w= .ok (some (34,a,386)) w:=rfl
def X1 (a:Addr) (w:gw):(ReflectliteValue.parts (.agg #[jF 7 34,.pointer (some a),.int .u64 130])).run prog w= .ok (some (34,a,130)) w:=rfl
def VB (w:gw):(Rtype.directlyAssignable 34 34).run prog w= .ok true w:=by rfl
theorem X2 (d b:Addr) (n:Int) (e:gP) (W:gw) (h:W.cell? b=some (gp n)) (l:W.cell? d=some e) (j:W.frozen? d=false):
  (ReflectliteValue.set #[.agg #[jF 7 34,.pointer (some d),.int .u64 386],.agg #[jF 7 34,.pointer (some b),.int .u64 130]]).run prog W
   = .ok (.tuple #[]) (W.setCell d (gp n)):=by
 rw[rls];simp only[RA,VD,X1,Result.andThen];simp[ReflectliteValue.flagAddr,loadVar,isAgg,underlying,underlying34,h,Result.andThen,VB,storeVar,Value.cells,storeCells,Addr.add];rw[run_store prog W d _ _ rfl]
 grind
abbrev rv (T:Nat) (b:Nat):jO:=#[jF 7 T,gL b,.int .u64 150]
def acZ (n:Int) (t:Addr) (l:gP) (w:gw) (y:w.cell? ⟨0,0,none⟩=some (.iface 112 (.agg #[jF 7 46]))) (e:w.cell? t=some l) (u:w.frozen? t=false):
  Calls prog 18 #[.iface 34 (gp n),.iface 69 (.pointer (some t))] w λB w'=>B=ir (.bool true)/\w'=((((w.alloc (.cells #[.pointer (some t)] 69)).alloc (.cells (rv 69 w.heap.size) 77)).alloc (.cells (rv 69 w.heap.size) 77)).alloc (.cells #[gp n] 34)).setCell t (gp n):=by
 have h6:=@run_callFunc_extern prog 25 _ (λd=>ReflectliteValue.unpack (d.getD 0 (.tuple #[]))) func25 (by kernel_rfl) (by kernel_rfl) (by kernel_rfl) (by kernel_rfl);have h7:=@run_callFunc_extern prog 26 _ (ReflectliteValue.methodAny (ReflectliteValue.valueError "reflectlite.Value.Type" 0) (λt _ _ _=>ReflectliteType.toType t)) func26 (by kernel_rfl) (by kernel_rfl) (by kernel_rfl) (by kernel_rfl);have h8:=@run_callFunc_extern prog 27 _ (ReflectliteValue.method (ReflectliteValue.valueError "reflectlite.Value.IsNil" 0) ReflectliteValue.isNil) func27 (by kernel_rfl) (by kernel_rfl) (by kernel_rfl) (by kernel_rfl);have H:=@run_callFunc_extern prog 391 _ (ReflectliteType.abiMethod λt=>do pure (.int .u8 (<-Rtype.kind t))) func391 (by kernel_rfl) (by kernel_rfl) (by kernel_rfl) (by kernel_rfl);have J:=@run_callFunc_extern prog 411 _ (ReflectliteType.method ReflectliteType.elem) func411 (by kernel_rfl) (by kernel_rfl) (by kernel_rfl) (by kernel_rfl);have K:=@run_callFunc_extern prog 412 _ (ReflectliteType.relation "Implements" ReflectliteType.implements_) func412 (by kernel_rfl) (by kernel_rfl) (by kernel_rfl) (by kernel_rfl);have D:=@run_callFunc_extern prog 29 _ ReflectliteType.typeOf func29 (by kernel_rfl) (by kernel_rfl) (by kernel_rfl) (by kernel_rfl);have I:=@run_callFunc_extern prog 409 _ (ReflectliteType.relation "AssignableTo" ReflectliteType.assignableTo) func409 (by kernel_rfl) (by kernel_rfl) (by kernel_rfl) (by kernel_rfl);have F:=@run_callFunc_extern prog 43 _ (ReflectliteValue.method (ReflectliteValue.valueError "reflectlite.Value.Elem" 0) ReflectliteValue.elem) func43 (by kernel_rfl) (by kernel_rfl) (by kernel_rfl) (by kernel_rfl);have G:=@run_callFunc_extern prog 44 _ ReflectliteValue.set func44 (by kernel_rfl) (by kernel_rfl) (by kernel_rfl) (by kernel_rfl);have tO:=xX;have mA:=uy;have z:=Bn;have V:=FR;have Y:=Is;have Z:=T4;have mK:=GZ;have mE:=GY;have mI:=uz;have U:=Pc;have O:=T1;have A:=T0;have N:=Bo;have n8:=Pb ⟨w.heap.size,0,none⟩ t ((w.alloc (.cells #[.pointer (some t)] 69)).alloc (.cells (rv 69 w.heap.size) 77)) (by simp);have x:0 < w.heap.size:=by
  rcases CZ w.heap.size with C|h
  .simp[World.cell?,C]at y
  .exact h
 have L:((w.alloc (.cells #[.pointer (some t)] 69)).alloc (.cells (rv 69 w.heap.size) 77)).cell? ⟨0,0,none⟩=some (.iface 112 (.agg #[jF 7 46])):=by
  rw[mX _ _ ⟨0,0,none⟩ (by simp),mX _ _ ⟨0,0,none⟩ x];exact y
 have j:t.block < w.heap.size:=by
  rcases rA t.block w.heap.size with h|h
  .exact h
  .simp[World.cell?,BJ h]at e
 have X:=Pa ⟨w.heap.size,0,none⟩ t (((w.alloc (.cells #[.pointer (some t)] 69)).alloc (.cells (rv 69 w.heap.size) 77)).alloc (.cells (rv 69 w.heap.size) 77)) (by rw[mX _ _ ⟨w.heap.size,0,none⟩ (by simp;omega)];simp);have st:=X2 t ⟨w.heap.size+1+1+1,0,none⟩ n l ((((w.alloc (.cells #[.pointer (some t)] 69)).alloc (.cells (rv 69 w.heap.size) 77)).alloc (.cells (rv 69 w.heap.size) 77)).alloc (.cells #[gp n] 34))
  (by rw[World.cell?_alloc_at _ _ _ _ (by simp)];rfl)
  (by rw[mX _ _ t (by simp;omega),mX _ _ t (by simp;omega),mX _ _ t (by simp;omega),mX _ _ t j];exact e)
  (by rw[vk _ _ t (by simp;omega),vk _ _ t (by simp;omega),vk _ _ t (by simp;omega),vk _ _ t (Nat.ne_of_lt j)];exact u)
 go_enter func18,ntmps18;go_wp2;refine vo 1 ?_;rw[oW];go_wp2;go_ret;exact⟨rfl,rfl⟩
def aaz (v:gP) (d:TypeId) (w:gw):(Instr.typeAssert (.iface 34 v) d 116 true).run prog w= .ok (.tuple #[.nilIface,.bool false]) w:=run_typeAssert_lacksB underlying116 (by kernel_rfl) (by kernel_rfl) v d w
def Pd (v:gP) (d:TypeId) (w:gw):(Instr.typeAssert (.iface 34 v) d 119 true).run prog w= .ok (.tuple #[.nilIface,.bool false]) w:=run_typeAssert_lacksB underlying119 (by kernel_rfl) (by kernel_rfl) v d w
def M8 (v:gP) (d:TypeId) (w:gw):(Instr.typeAssert (.iface 34 v) d 120 true).run prog w= .ok (.tuple #[.nilIface,.bool false]) w:=run_typeAssert_lacksB underlying120 (by kernel_rfl) (by kernel_rfl) v d w
def aai (n:Int) (t:Addr) (w:gw) (j:w.cell? ⟨0,0,none⟩=some (.iface 112 (.agg #[jF 7 46]))):
  Calls prog 18 #[.iface 34 (gp n),.iface 64 (.pointer (some t))] w λx w'=>x=ir (.bool false)/\w'=(((w.alloc (.cells #[.pointer (some t)] 64)).alloc (.cells (rv 64 w.heap.size) 77)).alloc (.cells (rv 64 w.heap.size) 77)):=by
 have L:=@run_callFunc_extern prog 25 _ (λd=>ReflectliteValue.unpack (d.getD 0 (.tuple #[]))) func25 (by kernel_rfl) (by kernel_rfl) (by kernel_rfl) (by kernel_rfl);have N:=@run_callFunc_extern prog 26 _ (ReflectliteValue.methodAny (ReflectliteValue.valueError "reflectlite.Value.Type" 0) (λt _ _ _=>ReflectliteType.toType t)) func26 (by kernel_rfl) (by kernel_rfl) (by kernel_rfl) (by kernel_rfl);have O:=@run_callFunc_extern prog 27 _ (ReflectliteValue.method (ReflectliteValue.valueError "reflectlite.Value.IsNil" 0) ReflectliteValue.isNil) func27 (by kernel_rfl) (by kernel_rfl) (by kernel_rfl) (by kernel_rfl);have A:=@run_callFunc_extern prog 391 _ (ReflectliteType.abiMethod λt=>do pure (.int .u8 (<-Rtype.kind t))) func391 (by kernel_rfl) (by kernel_rfl) (by kernel_rfl) (by kernel_rfl);have C:=@run_callFunc_extern prog 411 _ (ReflectliteType.method ReflectliteType.elem) func411 (by kernel_rfl) (by kernel_rfl) (by kernel_rfl) (by kernel_rfl);have D:=@run_callFunc_extern prog 412 _ (ReflectliteType.relation "Implements" ReflectliteType.implements_) func412 (by kernel_rfl) (by kernel_rfl) (by kernel_rfl) (by kernel_rfl);have z:=@run_callFunc_extern prog 29 _ ReflectliteType.typeOf func29 (by kernel_rfl) (by kernel_rfl) (by kernel_rfl) (by kernel_rfl);have B:=@run_callFunc_extern prog 409 _ (ReflectliteType.relation "AssignableTo" ReflectliteType.assignableTo) func409 (by kernel_rfl) (by kernel_rfl) (by kernel_rfl) (by kernel_rfl);have Y:=xX;have U:=uy;have l:=Lj;have J:=JM;have K:=UE;have V:=GZ;have mE:=GY;have mI:=uz;have I:=QQ;have H:=UD;have u:=UC;have G:=BF;have Z:=aaz;have x2:=Pd;have x3:=M8;have X:=QP ⟨w.heap.size,0,none⟩ t ((w.alloc (.cells #[.pointer (some t)] 64)).alloc (.cells (rv 64 w.heap.size) 77)) (by simp);have e:0 < w.heap.size:=by
  rcases CZ w.heap.size with y|h
  .simp[World.cell?,y]at j
  .exact h
 have F:((w.alloc (.cells #[.pointer (some t)] 64)).alloc (.cells (rv 64 w.heap.size) 77)).cell? ⟨0,0,none⟩=some (.iface 112 (.agg #[jF 7 46])):=by
  rw[mX _ _ ⟨0,0,none⟩ (by simp),mX _ _ ⟨0,0,none⟩ e];exact j
 go_enter func18,ntmps18;go_wp2;refine vo 1 ?_;rw[oW];go_wp2;go_ret;exact⟨rfl,rfl⟩
def zN {P:Program} (w:gw) (d:Nat) {l j : TypeId} {x:Array (String×TypeId)} {i:TypeInfo} {k:IntKind} (a b:Int)
  (hi:P.underlying l=some (.interface x)) (u:P.underlying j=some (.int k)) (h:P.info? j=some i) (e:i.comparable=true):
  (Op.equalIn (d+2) l (.iface j (.int k a)) (.iface j (.int k b))).run P w= .ok (a==b) w:=by
 simp[Op.equalIn,pO hi,pO u,typeInfo,h,e]
def xk {P:Program} (w:gw) {j h : TypeId} {u:Array (String×TypeId)} {i:TypeInfo} {k:IntKind} (a b:Int)
  (hi:P.underlying j=some (.interface u)) (l:P.underlying h=some (.int k)) (e:P.info? h=some i) (d:i.comparable=true):
  (binOp .eql j (.iface h (.int k a)) (.iface h (.int k b))).run P w= .ok (.bool (a==b)) w:=by
 simp only[binOp];simp[Op.equal,Op.maxDepth,zN w 9998 a b hi l e d]
def Ig:jO->Sem gP:=Extern.ReflectliteType.method λt=>do Rtype.noPackHeld "Comparable" t;pure (.bool (<-typeInfo t).comparable)
def zw (w:gw):(Ig #[.agg #[jF 7 34]]).run prog w= .ok (.bool true) w:=by kernel_rfl
def TZ:(prog.info? 34).map (·.comparable)=some true:=by kernel_rfl
def aaT (n:Int) (w:gw):
  Calls prog 19 #[.iface 34 (gp n),.iface 34 (gp n)] w λe w'=>e=ir (.bool true)/\w'=w:=by
 obtain⟨i,hi,d⟩:=Option.map_eq_some_iff.1 TZ;have u:=@run_callFunc_extern prog 29 _ Extern.ReflectliteType.typeOf func29 (by kernel_rfl) (by kernel_rfl) (by kernel_rfl) (by kernel_rfl);have h:=@run_callFunc_extern prog 410 _ Ig func410 (by kernel_rfl) (by kernel_rfl) (by kernel_rfl) (by kernel_rfl);have y:=xX;have l:=zw;have x:=BE;have j:∀w:gw,(binOp .eql 46 (.iface 34 (gp n)) (.iface 34 (gp n))).run prog w= .ok (.bool true) w:=λw=>by
  rw[xk w n n underlying46 underlying34 hi d];simp
 go_enter func19,ntmps19;go_wp2;refine vo 1 ?_;rw[oW];go_wp2;go_ret;exact⟨rfl,rfl⟩
def errorType (w:gw):Prop:=w.cell? ⟨0,0,none⟩=some (.iface 112 (.agg #[jF 7 46]))
def TL (n:Int) (t:Nat) (d:gP) (w:gw) (l:errorType w) (h:w.heap[t]?=some (gJ #[d] 34)):
  Calls prog 18 #[.iface 34 (gp n),.iface 69 (gL t)] w λj w'=>j=ir (.bool true)/\w'.heap[t]?=some (gJ #[gp n] 34)/\Kept [t] w w':=by
 refine(acZ n ⟨t,0,none⟩ d w l (tj h) (free_of_one h)).mono ?_;rintro e w' ⟨rfl,rfl⟩;refine⟨rfl,one_setCell (v:=d) ?_,?_⟩
 .have hl:=jn h;rw[Below.heap_alloc _ _ _ (by simp;omega),Below.heap_alloc _ _ _ (by simp;omega),Below.heap_alloc _ _ _ (by simp;omega),Below.heap_alloc _ _ _ hl];exact h
 .exact Kept.setCell ((((Kept.refl _ _).alloc _).alloc _).alloc _|>.alloc _) (.inl (by simp)) _
def Xz (n:Int) (t:Addr) (w:gw) (h:errorType w):
  Calls prog 18 #[.iface 34 (gp n),.iface 64 (.pointer (some t))] w λd w'=>d=ir (.bool false)/\Kept [] w w':=by
 refine(aai n t w h).mono ?_;rintro e w' ⟨rfl,rfl⟩;exact⟨rfl,(((Kept.refl _ _).alloc _).alloc _).alloc _⟩
theorem H6 (p q:Addr) (w:gw):
  CallsD prog 45 #[.pointer (some p),.pointer (some q)] .returning w λe j w'=>e=p8/\j= .returning/\w'=w:=by
 refine callsD_of_wpS func45 rfl λd l h=>?_;apply wpS_seq;apply wpS_region;simp[wpOpsS,go_sem,recoverD,h,ntmps45,Exit.thenS];refine wpS_cond (t:=false) (by rfl) ?_;simp only[wP,AH];refine wpS_of_wp (wp_skip ?_);cases d
 simp_all[bodyPostS,results,results45]
def lG (h:errorType w) (o:Obj):errorType (w.alloc o):=by
 have:0 < w.heap.size:=by
  rcases CZ w.heap.size with e|d
  .simp[errorType,World.cell?,e]at h
  .exact d
 show(w.alloc o).cell? _=_;rw[mX _ _ _ this];exact h
def Sn (n:Int) (w:gw) (z:errorType w):
  Calls prog 31 #[.iface 34 (gp n)] w λe w'=>e=ir (.tuple #[gp n,.bool true])/\Kept [] w w':=by
 have G:∀(y:Fn) (first d:jO) (w:gw),(Instr.makeFunc y first d).run prog w= .ok (.func y first d) w:=λ_ _ _ _=>rfl;have l:=lG (lG z (.cells #[gp 0] 34)) (.cells #[.bool false] 4)
 go_enter_defers func31,ntmps31
 go_wp2_with fail;refine(TL n w.heap.size _ _ l (by rw[Below.heap_alloc _ _ _ (by simp)];exact fZ _ _)).mono ?_;rintro e x ⟨rfl,h,u⟩;have j:x.heap[w.heap.size+1]?=some (gJ #[.bool false] 4):=by
  refine u.at ?_ (by simp);have:=fZ (w.alloc (.cells #[gp 0] 34)) (.cells #[.bool false] 4)
  simpa using this
 have C:=tj h;have D:=tj j;have K:=free_of_one h;have L:=free_of_one j;have A:Kept [] w x:=((((Kept.refl _ _).alloc _).alloc _).trans (S:=[w.heap.size]) u).mono (by intro k F hl;simp at F;omega);clear u;have O:=jn h;have U:=jn j;have I:Hid _:=h;have J:Hid _:=j;clear h j z l;go_wp2_with fail;go_region
 all_goals go_wp2
 refine leaves_cons (f:=45) (args:=#[gL w.heap.size,gL (w.heap.size+1)]) (by simp) (by simp[go_sem]) ?_;refine(H6 ⟨w.heap.size,0,none⟩ ⟨w.heap.size+1,0,none⟩ _).mono ?_;rintro e N H ⟨rfl,rfl,rfl⟩;have B:Kept [] w (((x.setCell ⟨w.heap.size+1,0,none⟩ (.bool true)).setCell ⟨w.heap.size,0,none⟩ (gp n)).setCell ⟨w.heap.size+1,0,none⟩ (.bool true)).drew:=
  (((A.setCell (.inr (by simp)) _).setCell (.inr (by simp)) _).setCell (.inr (by simp)) _).drew
 simp[Go.Leaves,settle,results,results31,go_sem,C,D];exact B
section
variable {P:Program} {ops:Array Oper} {Q:Exit->Act->gw->Prop} {md:Region.Mode}
def iO {i:Nat} {l:Oper} {j:Nat} {e:Array Bool} {a:Act} {w:gw} (d:Option Tmp) (v:gP) (hi:ops[i]?=some l) (x:l.dst=d)
  (A:Region.noSelect ops=true) (y:Region.free md ops e i=true) (z:(Region.ready md ops e).contains i=true)
  (u:∀c a w,Q (.panic c) (a.put d v) w->Q (.panic c) a w) (C:Region.wanted l (yielded ops a.tmps)=true) (B:∀w,(execOp a.eval l).run P w= .ok (.value v) w)
  (h:wpAny P md ops Q j (e.setIfInBounds i true) (a.put d v) w):wpAny P md ops Q (j+1) e a w:=by
 subst x;exact wpAny_take hi A y z u (Or.inl ⟨C,B⟩) h
def mP {i:Nat} {l:Oper} {j:Nat} {e:Array Bool} {a:Act} {w:gw} (d:Option Tmp) (hi:ops[i]?=some l) (x:l.dst=d)
  (A:Region.noSelect ops=true) (y:Region.free md ops e i=true) (z:(Region.ready md ops e).contains i=true)
  (u:∀c a w,Q (.panic c) (a.put d undef) w->Q (.panic c) a w) (B:Region.wanted l (yielded ops a.tmps)=false)
  (h:wpAny P md ops Q j (e.setIfInBounds i true) (a.put d undef) w):wpAny P md ops Q (j+1) e a w:=by
 subst x;exact wpAny_take hi A y z u (Or.inr ⟨B,rfl⟩) h
end
def DV (n:Int) (w:gw) (d:errorType w):
  Calls prog 20 #[.iface 34 (gp n)] w λe w'=>e=ir (gp n)/\Kept [] w w':=by
 go_enter func20,ntmps20;go_wp2_with (go_at_call 31;refine(Sn n _ d).mono ?_;rintro e w' ⟨rfl,h⟩);go_ret;exact⟨rfl,by assumption⟩
def J4 (w:gw):
  Calls prog 14 #[.nilIface] w λe w'=>e=ir (.tuple #[gp 0,gp 0])/\Kept [] w w':=by
 go_enter func14,ntmps14;go_wp2;go_ret2;exact⟨rfl,((Kept.refl _ _).alloc _).alloc _⟩
def sR (h:errorType w) (j:Kept S w w') (l:0∉S):errorType w':=by
 have:0 < w.heap.size:=by
  rcases CZ w.heap.size with e|d
  .simp[errorType,World.cell?,e]at h
  .exact d
 show w'.cell? _=_;rw[j.cell (p:=⟨0,0,none⟩) this l];exact h
def we (h:errorType w):errorType w.drew:=h
def Tt (n:Int) (w:gw) (D:errorType w):
  Calls prog 14 #[.iface 34 (gp n)] w λe w'=>e=ir (.tuple #[gp n,gp 0])/\Kept [] w w':=by
 have u:=lG (lG D (.cells #[.pointer none] 62)) (.cells #[gp 0] 34);go_enter func14,ntmps14;go_wp2_with fail;refine tw (by kernel_rfl) ?_;change wpAny _ _ _ _ _ _ _ (World.drew _);refine iO (i:=0) (some 10) (.iface 34 (gp n)) rfl rfl (by kernel_rfl) (by kernel_rfl) (by kernel_rfl) (λ_ _ _ h=>h) (by kernel_rfl) (λ_=>by kernel_rfl) ?_;simp only[Act.put,jA,jB,jC];refine iO (i:=1) (some 11) (.iface 64 (gL w.heap.size)) rfl rfl (by kernel_rfl) (by kernel_rfl) (by kernel_rfl) (λ_ _ _ h=>h) (by kernel_rfl) (λ_=>by kernel_rfl) ?_;simp only[Act.put,jA,jB,jC];refine qE (rs:=[2]) (by kernel_rfl) (by simp) ?_;refine oU rfl (λK d=>?_) qF;go_simp;go_wp2_with fail;refine(Xz n _ _ (we u)).mono ?_;rintro e G ⟨rfl,F⟩;have J:G.heap[w.heap.size+1]?=some (gJ #[gp 0] 34):=by
  refine F.at ?_ (by simp);have h:=fZ (w.alloc (.cells #[.pointer none] 62)) (.cells #[gp 0] 34);rw[show(w.alloc (.cells #[.pointer none] 62)).heap.size=w.heap.size+1 from by simp]at h;exact h
 have A:Kept [] w G:=(((Kept.refl _ _).alloc _).alloc _).drew.trans F;have e1:errorType G:=sR D A (by simp);clear F u;have H:Hid _:=J;clear J;refine d _ _ ?_;clear d K;refine iO (i:=3) (some 13) (.bool false) rfl rfl (by kernel_rfl) (by kernel_rfl) (by kernel_rfl) (λ_ _ _ h=>h) (by kernel_rfl) (λ_=>by kernel_rfl) ?_;simp only[Act.put,jA,jB,jC];refine mP (i:=4) (some 14) rfl rfl (by kernel_rfl) (by kernel_rfl) (by kernel_rfl) (λ_ _ _ h=>h) (by kernel_rfl) ?_;simp only[Act.put,jA,jB,jC];refine mP (i:=5) (some 15) rfl rfl (by kernel_rfl) (by kernel_rfl) (by kernel_rfl) (λ_ _ _ h=>h) (by kernel_rfl) ?_;simp only[Act.put,jA,jB,jC];refine mP (i:=6) (some 16) rfl rfl (by kernel_rfl) (by kernel_rfl) (by kernel_rfl) (λ_ _ _ h=>h) (by kernel_rfl) ?_;simp only[Act.put,jA,jB,jC];refine mP (i:=7) (some 17) rfl rfl (by kernel_rfl) (by kernel_rfl) (by kernel_rfl) (λ_ _ _ h=>h) (by kernel_rfl) ?_;simp only[Act.put,jA,jB,jC];refine mP (i:=8) (some 18) rfl rfl (by kernel_rfl) (by kernel_rfl) (by kernel_rfl) (λ_ _ _ h=>h) (by kernel_rfl) ?_;simp only[Act.put,jA,jB,jC];refine mP (i:=9) (some 19) rfl rfl (by kernel_rfl) (by kernel_rfl) (by kernel_rfl) (λ_ _ _ h=>h) (by kernel_rfl) ?_;simp only[Act.put,jA,jB,jC];refine mP (i:=10) (some 20) rfl rfl (by kernel_rfl) (by kernel_rfl) (by kernel_rfl) (λ_ _ _ h=>h) (by kernel_rfl) ?_;simp only[Act.put,jA,jB,jC];refine iO (i:=11) (some 21) (.bool false) rfl rfl (by kernel_rfl) (by kernel_rfl) (by kernel_rfl) (λ_ _ _ h=>h) (by kernel_rfl) (λ_=>by kernel_rfl) ?_;simp only[Act.put,jA,jB,jC];refine iO (i:=12) (some 22) (.bool false) rfl rfl (by kernel_rfl) (by kernel_rfl) (by kernel_rfl) (λ_ _ _ h=>h) (by kernel_rfl) (λ_=>by kernel_rfl) ?_;simp only[Act.put,jA,jB,jC];refine mP (i:=13) (some 23) rfl rfl (by kernel_rfl) (by kernel_rfl) (by kernel_rfl) (λ_ _ _ h=>h) (by kernel_rfl) ?_;simp only[Act.put,jA,jB,jC];refine mP (i:=14) (some 24) rfl rfl (by kernel_rfl) (by kernel_rfl) (by kernel_rfl) (λ_ _ _ h=>h) (by kernel_rfl) ?_;simp only[Act.put,jA,jB,jC];refine mP (i:=15) (some 25) rfl rfl (by kernel_rfl) (by kernel_rfl) (by kernel_rfl) (λ_ _ _ h=>h) (by kernel_rfl) ?_;simp only[Act.put,jA,jB,jC];refine mP (i:=16) (some 26) rfl rfl (by kernel_rfl) (by kernel_rfl) (by kernel_rfl) (λ_ _ _ h=>h) (by kernel_rfl) ?_;simp only[Act.put,jA,jB,jC];refine mP (i:=17) (some 27) rfl rfl (by kernel_rfl) (by kernel_rfl) (by kernel_rfl) (λ_ _ _ h=>h) (by kernel_rfl) ?_;simp only[Act.put,jA,jB,jC];refine mP (i:=18) (some 28) rfl rfl (by kernel_rfl) (by kernel_rfl) (by kernel_rfl) (λ_ _ _ h=>h) (by kernel_rfl) ?_;simp only[Act.put,jA,jB,jC];refine mP (i:=19) (some 29) rfl rfl (by kernel_rfl) (by kernel_rfl) (by kernel_rfl) (λ_ _ _ h=>h) (by kernel_rfl) ?_;simp only[Act.put,jA,jB,jC];refine iO (i:=20) (some 30) (.bool false) rfl rfl (by kernel_rfl) (by kernel_rfl) (by kernel_rfl) (λ_ _ _ h=>h) (by kernel_rfl) (λ_=>by kernel_rfl) ?_;simp only[Act.put,jA,jB,jC];refine iO (i:=21) (some 9) (.bool false) rfl rfl (by kernel_rfl) (by kernel_rfl) (by kernel_rfl) (λ_ _ _ h=>h) (by kernel_rfl) (λ_=>by kernel_rfl) ?_;simp only[Act.put,jA,jB,jC];refine wpAny_done (by kernel_rfl) ?_ _;go_wp2_with fail;refine tw (by kernel_rfl) ?_;change wpAny _ _ _ _ _ _ _ (World.drew _);refine iO (i:=0) (some 40) (.iface 34 (gp n)) rfl rfl (by kernel_rfl) (by kernel_rfl) (by kernel_rfl) (λ_ _ _ h=>h) (by kernel_rfl) (λ_=>by kernel_rfl) ?_;simp only[Act.put,jA,jB,jC];refine iO (i:=1) (some 41) (.iface 69 (gL (w.heap.size+1))) rfl rfl (by kernel_rfl) (by kernel_rfl) (by kernel_rfl) (λ_ _ _ h=>h) (by kernel_rfl) (λ_=>by kernel_rfl) ?_;simp only[Act.put,jA,jB,jC];refine qE (rs:=[2]) (by kernel_rfl) (by simp) ?_;refine oU rfl (λK d=>?_) qF;go_simp;go_wp2_with fail;refine(TL n (w.heap.size+1) _ _ (we e1) H.out).mono ?_;rintro e L ⟨rfl,C,x⟩;have I:=tj C;have l:Kept [] w L:=A.drew.next x (by simp);have e2:errorType L:=sR D l (by simp);have y:Hid _:=C;clear C x A e1 H;refine d _ _ ?_;clear d K;refine iO (i:=3) (some 43) (.bool true) rfl rfl (by kernel_rfl) (by kernel_rfl) (by kernel_rfl) (λ_ _ _ h=>h) (by kernel_rfl) (λ_=>by kernel_rfl) ?_;simp only[Act.put,jA,jB,jC];refine iO (i:=4) (some 44) (.iface 34 (gp n)) rfl rfl (by kernel_rfl) (by kernel_rfl) (by kernel_rfl) (λ_ _ _ h=>h) (by kernel_rfl) (λ_=>by kernel_rfl) ?_;simp only[Act.put,jA,jB,jC];refine qE (rs:=[5]) (by kernel_rfl) (by simp) ?_;refine oU rfl (λK d=>?_) qF;go_simp;refine d _ _ ?_;clear d K;refine iO (i:=6) (some 46) (.iface 34 (gp n)) rfl rfl (by kernel_rfl) (by kernel_rfl) (by kernel_rfl) (λ_ _ _ h=>h) (by kernel_rfl) (λ_=>by kernel_rfl) ?_;simp only[Act.put,jA,jB,jC];refine qE (rs:=[7]) (by kernel_rfl) (by simp) ?_;refine oU rfl (λK d=>?_) qF;go_simp;go_wp2_with fail;refine(aaT n _).mono ?_;rintro e z ⟨rfl,rfl⟩;refine d _ _ ?_;clear d K;refine iO (i:=8) (some 48) (.bool true) rfl rfl (by kernel_rfl) (by kernel_rfl) (by kernel_rfl) (λ_ _ _ h=>h) (by kernel_rfl) (λ_=>by kernel_rfl) ?_;simp only[Act.put,jA,jB,jC];refine iO (i:=9) (some 49) (.bool true) rfl rfl (by kernel_rfl) (by kernel_rfl) (by kernel_rfl) (λ_ _ _ h=>h) (by kernel_rfl) (λ_=>by kernel_rfl) ?_;simp only[Act.put,jA,jB,jC];refine iO (i:=10) (some 50) (.iface 34 (gp n)) rfl rfl (by kernel_rfl) (by kernel_rfl) (by kernel_rfl) (λ_ _ _ h=>h) (by kernel_rfl) (λ_=>by kernel_rfl) ?_;simp only[Act.put,jA,jB,jC];refine qE (rs:=[11,12]) (by kernel_rfl) (by simp) ?_;refine oU rfl (λK d=>?_) (oU rfl (λK d=>?_) qF)
 .go_simp;go_wp2_with fail;refine(DV n _ e2).mono ?_;rintro e z ⟨rfl,j⟩;have N:=tj (j.at y.out (by simp));have B:Kept [] w z:=l.next j (by simp);clear j I l e2 y;refine d _ _ ?_;clear d K;refine qE (rs:=[12]) (by kernel_rfl) (by simp) ?_;refine oU rfl (λK d=>?_) qF;go_simp;refine d _ _ ?_;clear d K;refine iO (i:=13) (some 53) (.bool true) rfl rfl (by kernel_rfl) (by kernel_rfl) (by kernel_rfl) (λ_ _ _ h=>h) (by kernel_rfl) (λ_=>by go_simp) ?_;simp only[Act.put,jA,jB,jC];refine iO (i:=14) (some 54) (.bool true) rfl rfl (by kernel_rfl) (by kernel_rfl) (by kernel_rfl) (λ_ _ _ h=>h) (by kernel_rfl) (λ_=>by kernel_rfl) ?_;simp only[Act.put,jA,jB,jC];refine iO (i:=15) (some 39) (.bool true) rfl rfl (by kernel_rfl) (by kernel_rfl) (by kernel_rfl) (λ_ _ _ h=>h) (by kernel_rfl) (λ_=>by kernel_rfl) ?_;simp only[Act.put,jA,jB,jC];refine wpAny_done (by kernel_rfl) ?_ _;go_wp2;go_ret2;exact⟨rfl,B⟩
 .go_simp;refine d _ _ ?_;clear d K;refine qE (rs:=[11]) (by kernel_rfl) (by simp) ?_;refine oU rfl (λK d=>?_) qF;go_simp;go_wp2_with fail;refine(DV n _ e2).mono ?_;rintro e z ⟨rfl,j⟩;have N:=tj (j.at y.out (by simp));have B:Kept [] w z:=l.next j (by simp);clear j I l e2 y;refine d _ _ ?_;clear d K;refine iO (i:=13) (some 53) (.bool true) rfl rfl (by kernel_rfl) (by kernel_rfl) (by kernel_rfl) (λ_ _ _ h=>h) (by kernel_rfl) (λ_=>by go_simp) ?_;simp only[Act.put,jA,jB,jC];refine iO (i:=14) (some 54) (.bool true) rfl rfl (by kernel_rfl) (by kernel_rfl) (by kernel_rfl) (λ_ _ _ h=>h) (by kernel_rfl) (λ_=>by kernel_rfl) ?_;simp only[Act.put,jA,jB,jC];refine iO (i:=15) (some 39) (.bool true) rfl rfl (by kernel_rfl) (by kernel_rfl) (by kernel_rfl) (λ_ _ _ h=>h) (by kernel_rfl) (λ_=>by kernel_rfl) ?_;simp only[Act.put,jA,jB,jC];refine wpAny_done (by kernel_rfl) ?_ _;go_wp2;go_ret2;exact⟨rfl,B⟩
def p5 (a:Int×Int×Int) (d:gP):jO:=#[gp a.1,gp a.2.1,gp a.2.2,d,.bool false,gp 0,.nilIface,jX,.pointer none]
def NE (d f a:Int):Prop:=4<=d/\d<=64/\1<=f/\f<=32/\1<=a/\a<=16
def aaL (d f a:Int) (w:gw) (h:NE d f a):
  Calls prog 13 #[gp d,gp f,gp a] w λe w'=>e=ir (.tuple #[gL w.heap.size,.nilIface])/\w'=w.alloc (.cells (p5 (d,f,a) (jX)) 61):=by
 have⟨h1,h2,h3,h4,h5,h6⟩:=h;go_enter func13,ntmps13;go_wp2;go_ret2;exact⟨rfl,rfl⟩
theorem NX (d f a:Int) (w:gw) (h:NE d f a):
  Calls prog 9 #[gp d,gp f,gp a] w λe w'=>e=ir (.tuple #[gL w.heap.size,gp 0])/\w'.heap[w.heap.size]?=some (gJ (p5 (d,f,a) (jX)) 61)/\Kept [] w w':=by
 go_enter func9,ntmps9
 go_wp21
 refine(aaL d f a _ h).mono ?_;rintro e z ⟨rfl,rfl⟩
 go_wp21
 refine(J4 _).mono ?_;rintro e u ⟨rfl,j⟩;have y:Kept [] w u:=((Kept.refl _ _).alloc _).next j (by simp)
 have l:=j.at (fZ w _) (by simp);have x:Hid _:=l;go_wp2;go_ret2
 simp_all
def Nv:(prog.info? 5).map (λi=>(i.zero,i.size,i.bytes))=some (some (.int .u8 0),1,1):=by kernel_rfl
def xf (d:Nat) (a:Int×Int×Int) (j:gP) (w:gw) (h:w.heap[d]?=some (gJ (p5 a j) 61)):
  Calls prog 21 #[gL d] w λe w'=>e=ir (.bool false)/\w'=w:=by
 have l:w.cell? ⟨d,4,none⟩=some (.bool false):=by rw[fX h];rfl
 go_enter func21,ntmps21;go_wp2;go_ret;simp
theorem WZ (y g c:Nat) (a:Int×Int×Int) (D:gP) (s t:gz) (base:Nat) (w:gw) (hx:w.heap[y]?=some (gJ (p5 a D) 61))
  (Z:w.ownsRow base 5 1 D s.size (jY s)) (ht:∀j u,(jY t)[j]?=some u->w.cell? ⟨g,j,none⟩=some u) (hl:s.size+t.size<=1024) (hb:base<=w.heap.size):
  Calls prog 15 #[gL y,rh g t.size c] w λe w'=>e=ir (.tuple #[gp t.size,.nilIface])/\
   ∃A,w'.heap[y]?=some (gJ (p5 a A) 61)/\w'.ownsRow base 5 1 A (s++t).size (jY (s++t))/\Kept (y::D.ownBlock.toList) w w'/\(A.ownBlock=D.ownBlock\/∀k,A.ownBlock=some k->w.heap.size<=k):=by
 obtain⟨i0,hi,O,U,V⟩:=vp Nv;have Y:w.cell? ⟨y,3,none⟩=some D:=by rw[fX hx];rfl
 have L:∃C l,D= .slice C s.size l:=by
  rcases Z.2 with⟨rfl,h0⟩|⟨g,l,F,rfl,_⟩
  .grind
  .simp
 obtain⟨C,l,rfl⟩:=L;have H:Hid _:=hx;have X:Hid _:=Z;have HT:Hid _:=ht;go_enter func15,ntmps15
 go_wp21
 refine(xf y a _ _ H).mono ?_;rintro e w1 ⟨rfl,rfl⟩;go_wp2_with (at_builtin;refine iL _ rfl _ _ 50 rfl base 5 i0 (.int .u8 0) 1 1 underlying50 hi O U V rfl (by decide) _ _ _ rfl X ⟨g,0,none⟩ t.size c (jY t) rfl ?Y ?c2 ?c3 ?c4 ?c5 hb ?_)
 case Y=>simp[jY]
 case c2=>exact λj u h=>by rw[jq];exact HT j u h
 case c3=>exact RV t
 case c4=>unfold maxLen;omega
 case c5=>omega
 intro v' G x z J;have⟨ao',d,hv⟩:=gH x;subst hv;have K:∀k,(Value.slice C s.size l).ownBlock=some k->k≠y:=by
  intro k B;rcases X.2 with⟨h,_⟩|⟨g',d,F,h,_,hc,_⟩
  .rw[h]at B;cases B
  .rw[h]at B;obtain rfl:=jK B
   grind
 have I:G.heap[y]?=some (gJ (p5 a (.slice C s.size l)) 61):=by
  rw[z.block y (jn H.out) (λh=>K y h.symm rfl)];exact H
 have d1:G.cell? ⟨y,3,none⟩=some (.slice C s.size l):=by rw[fX I];rfl
 have d2:=gG I 3;have h3:=gh I 3 (.slice ao' (s.size+t.size) d);have h4:(G.setCell ⟨y,3,none⟩ (.slice ao' (s.size+t.size) d)).ownsRow base 5 1 (.slice ao' (s.size+t.size) d) (s++t).size (jY (s++t)):=by
  have N:(s++t).size=s.size+t.size:=ByteArray.size_append;rw[N,Kw];refine yx x ?_ _;intro B;rcases x.2 with⟨h,_⟩|⟨g',d,F,h,_,hc,_⟩
  .grind
  .grind
 have h5:Kept (y::(Value.slice C s.size l).ownBlock.toList) w1 (G.setCell ⟨y,3,none⟩ (.slice ao' (s.size+t.size) d)):=
  ((Kept.refl _ _).grown z (λk B=> .inl (by simp[B]))).setCell (.inl (by simp)) _
 have H3:Hid _:=h3;have H4:Hid _:=h4;have HF:Hid _:=J;go_wp2;go_ret2;exact⟨rfl,_,H3,H4,h5,HF⟩
theorem Vo (t:gz) (j:Nat) (u:gP) (h:(jY t)[j]?=some u):∃d:j < t.data.size,u= .int .u8 (t.data[j].toNat:Int):=by
 unfold jY at h
 grind
def zY (t:gz) (d j:Nat) (u:gP) (h:(jY t)[j]?=some u):(bytesRow t d)[j]?=some u:=by
 obtain⟨e,rfl⟩:=Vo t j u h;exact bytesRow_at t d j e
def xu (t:gz) (d:Nat):t.size<=(bytesRow t d).size:=by
 have:t.data.size=t.size:=rfl;simp[bytesRow,this]
def xS {c : jO} {t : TypeId} {m : Nat×Nat} (h:w.heap[b]?=some (.cells c t m)) (j:Nat):w.cell? ⟨b,j,none⟩=c[j]?:=by simp[World.cell?,h]
def LU {c : jO} {t : TypeId} (h:w.heap[b]?=some (.cells c t (n,n+1))) (j:Nat) (d:j < n):w.frozen? ⟨b,j,none⟩=false:=by
 simp[World.frozen?,h];omega
theorem DT {c : jO} {t : TypeId} {m : Nat×Nat} (h:w.heap[b]?=some (.cells c t m)) (j:Nat) (u:gP):(w.setCell ⟨b,j,none⟩ u).heap[b]?=some (.cells (c.setIfInBounds j u) t m):=by
 have d:=jn h;have e:w.heap[b]= .cells c t m:=by simpa [AJ d]using h
 show(w.heap.modify b _)[b]?=_
 grind
def Turned (g sz d:Nat) (h:jO) (base n:Nat) (e:gP) (xs:List gP) (S:List Nat) (w wr:gw):Prop:=
 (∃C:jO,wr.heap[g]?=some (.cells C 5 (sz,sz+1))/\C.size=sz)/\wr.heap[d]?=some (gJ h 61)/\wr.ownsRow base 5 1 e n xs/\Kept S w wr
theorem Turned.store {d : Nat} {l : jO} {base : Nat} {e : gP} {xs : List gP} (h:Turned g sz d l base n e xs S w wr) (y:w.heap.size<=g) (x:d≠g) (z:e.ownBlock≠some g) (j:Nat) (u:gP):
  Turned g sz d l base n e xs S w (wr.setCell ⟨g,j,none⟩ u):=by
 have⟨⟨C,hC,hs⟩,hx,ho,hk⟩:=h;refine⟨⟨_,DT hC j u,by grind⟩,?_,yx ho z u,hk.setCell (.inr y) u⟩;rw[Below.heap_setCell wr ⟨g,j,none⟩ u d x];exact hx
def Turned.cell {d : Nat} {u : jO} {base : Nat} {l : gP} {xs : List gP} (h:Turned g sz d u base n l xs S w wr) (j:Nat) (e:j < sz):(∃v,wr.cell? ⟨g,j,none⟩=some v)/\wr.frozen? ⟨g,j,none⟩=false:=by
 have⟨⟨C,hC,hs⟩,_⟩:=h;refine⟨⟨C[j]'(by omega),?_⟩,LU hC j e⟩;rw[xS hC];simp
theorem Mg (z:Nat) (a:Int×Int×Int) (B:gP) (s t:gz) (base:Nat) (w:gw) (Y:w.heap[z]?=some (gJ (p5 a B) 61))
  (X:w.ownsRow base 5 1 B s.size (jY s)) (hl:s.size+t.size<=1024) (hb:base<=w.heap.size):
  Calls prog 10 #[gL z,gI t] w λe w'=>e=ir (.tuple #[gp t.size,gp 0,.bool true])/\
   ∃d,w'.heap[z]?=some (gJ (p5 a d) 61)/\w'.ownsRow base 5 1 d (s++t).size (jY (s++t))/\Kept (z::B.ownBlock.toList) w w'/\(d.ownBlock=B.ownBlock\/∀k,d.ownBlock=some k->w.heap.size<=k):=by
 have A:=run_bytes_of_string (P:=prog) w 9 50 5 t underlying9 underlying50 underlying5;obtain⟨C,K⟩:∃C,C=grownCap w t.size 0 5:=⟨_,rfl⟩;rw[<-K]at A;clear K;have V:=xu t C;have HR:=zY t C;generalize bytesRow t C=R at A V HR;obtain⟨D,x⟩:∃D,D=w.drew.alloc (.cells R 5 (R.size,R.size+1)):=⟨_,rfl⟩;rw[<-x]at A;have Z:D.heap[w.heap.size]?=some (.cells R 5 (R.size,R.size+1)):=by rw[x];exact fZ w.drew _
 have U:Kept [] w D:=by rw[x];exact(Kept.refl [] w).drew.alloc _
 have z1:D.heap.size=w.heap.size+1:=by rw[x];show(w.heap.push _).size=_;simp
 clear x;have a0:=jn Y;have HX:=X.lt;have x1:=U.at Y (by simp);have o1:=U.ownsRow X (λ_ _=>by simp);have J:=WZ z w.heap.size C a B s t base D x1 o1 (λj u h=>by rw[xS Z];grind) hl (by omega);have HZ:Hid (D.heap.size=w.heap.size+1):=z1;clear z1 x1 o1 Y X;go_enter func10,ntmps10
 go_wp21
 refine J.mono ?_;rintro e w2 ⟨rfl,d,N,L,I,H⟩;clear A J
 go_wp21
 refine(J4 _).mono ?_;rintro e O ⟨rfl,y⟩;have hS:w.heap.size∉z::B.ownBlock.toList:=by
  simp only[uS,Option.mem_toList,not_or];exact⟨by omega,λh=>by grind⟩
 have F:O.heap[w.heap.size]?=some (.cells R 5 (R.size,R.size+1)):=y.at (I.at Z hS) (by simp);have HT:Turned w.heap.size R.size z (p5 a d) base (s++t).size d (jY (s++t)) (z::B.ownBlock.toList) w O:=
  ⟨⟨R,F,rfl⟩,y.at N (by simp),y.ownsRow L (λ_ _=>by simp),((U.mono (by simp)).trans I).trans (y.mono (by simp))⟩
 have HN:d.ownBlock≠some w.heap.size:=by
  rcases H with h|h
  .grind
  .grind
 have HF:d.ownBlock=B.ownBlock\/∀k,d.ownBlock=some k->w.heap.size<=k:=by
  rcases H with h|h
  .exact .inl h
  .grind
 have G:(convert 50 9 (rh w.heap.size t.size C)).run prog O= .ok (gI t) O:=by
  have:=Oz (P:=prog) O 50 9 5 ⟨w.heap.size,0,none⟩ C t.data.toList underlying50 underlying5 underlying9 (λj hj=>by
   rw[jq,xS F];exact HR j _ (by unfold jY;grind))
  simpa using this
 clear H I y N L F hS U
 go_wp21
 clear G
 go_loopw [33] (λi wr=>∃k:Nat,k<=t.size/\i=gp k/\Turned w.heap.size R.size z (p5 a d) base (s++t).size d (jY (s++t)) (z::B.ownBlock.toList) w wr) (λi _=>t.size - (intOf i).toNat)
 case atStart=>grind
 case round=>
  obtain⟨k,hk,rfl,l⟩:=hrel
  by_cases a1:k < t.size
  .have⟨⟨v,hv⟩,hfz⟩:=l.cell k (by omega);have HS:=l.store (ij _) (by omega) HN k (.int .u8 33);go_wp2;go_roundw
   case rel=>exact⟨k+1,by omega,by go_num,HS⟩
   case measure=>simp[intOf];omega
  .go_wp2;go_ret3;exact⟨rfl,d,l.2.1,l.2.2.1,l.2.2.2,HF⟩
structure RC where
 cs:gz
 av:gP
 at_:Int
 mv:gP
 lg:Int
 nC:gz:=⟨#[]⟩
 Y6:Bool:=false
variable {R : RC}
def wx (R:RC) (d ps:Nat):jO:=#[gI R.cs,R.av,gp d,gp ps,gp R.at_,R.mv,gp R.lg,gI R.nC,.bool R.Y6]
def Rd (w:gw) (r:Nat) (R:RC) (d ps:Nat):Prop:=w.heap[r]?=some (gJ (wx R d ps) 132)
def Rd.text {d ps : Nat} (h:Rd w r R d ps):w.cell? ⟨r,0,none⟩=some (gI R.cs):=by rw[fX h];rfl
def Rd.gM {d ps : Nat} (h:Rd w r R d ps):w.cell? ⟨r,1,none⟩=some R.av:=by rw[fX h];rfl
def Rd.bg {d ps : Nat} (h:Rd w r R d ps):w.cell? ⟨r,2,none⟩=some (gp d):=by rw[fX h];rfl
def Rd.ps {d ps : Nat} (h:Rd w r R d ps):w.cell? ⟨r,3,none⟩=some (gp ps):=by rw[fX h];rfl
def Rd.mv {d ps : Nat} (h:Rd w r R d ps):w.cell? ⟨r,5,none⟩=some R.mv:=by rw[fX h];rfl
def Rd.lg {d ps : Nat} (h:Rd w r R d ps):w.cell? ⟨r,6,none⟩=some (gp R.lg):=by rw[fX h];rfl
def Rd.nC {d ps : Nat} (h:Rd w r R d ps):w.cell? ⟨r,7,none⟩=some (gI R.nC):=by rw[fX h];rfl
def Rd.Y6 {d ps : Nat} (h:Rd w r R d ps):w.cell? ⟨r,8,none⟩=some (.bool R.Y6):=by rw[fX h];rfl
def Rd.free {d ps : Nat} (h:Rd w r R d ps) (j:Nat):w.frozen? ⟨r,j,none⟩=false:=by unfold Rd at h;simp[World.frozen?,h]
def Rd.Ms {e ps : Nat} (h:Rd w r R e ps) (d:Nat):Rd (w.setCell ⟨r,3,none⟩ (gp d)) r R e d:=gh h 3 _
def Rd.aeT {e ps : Nat} (h:Rd w r R e ps) (d:Nat):Rd (w.setCell ⟨r,2,none⟩ (gp d)) r R d ps:=gh h 2 _
def Rd.kept {d ps : Nat} (h:Rd w r R d ps) (e:Kept S w w') (j:r∉S):Rd w' r R d ps:=e.at h j
def oE (r:Nat) (R:RC) (d ps:Nat) (w:gw) (h:Rd w r R d ps):
  Calls prog 68 #[gL r] w λe w'=>e=ir (.bool (decide (ps=R.cs.size)))/\∃q,w'=w.drewN q:=by
 have t:=h.text;have p:=h.ps;generalize R.cs=s at t
 by_cases e:ps=s.size
 .subst e;go_enter func68,ntmps68
  go_wp21
  go_quiet (fail)
  go_wp2;go_ret;exact⟨by simp,⟨_,rfl⟩⟩
 .have j:((ps:Int)==(s.size:Int))=false:=beq_eq_false_iff_ne.2 (by omega);go_enter func68,ntmps68
  go_wp21
  go_quiet (fail)
  go_wp2;go_ret;exact⟨by simp[e],⟨_,rfl⟩⟩
def wy (r:Nat) (R:RC) (d ps:Nat) (w:gw) (h:Rd w r R d ps) (j:ps<=R.cs.size) (_hs:R.cs.size<=1024):
  Calls prog 142 #[gL r] w λe w'=>e=ir (gI (R.cs.extract ps R.cs.size))/\∃q,w'=w.drewN q:=by
 have t:=h.text;have p:=h.ps;generalize R.cs=s at *;go_enter func142,ntmps142
 go_wp21
 go_quiet (fail)
 go_wp2;go_ret;exact⟨rfl,⟨_,rfl⟩⟩
def I8 (c:Int) (w:gw) (u:0<=c) (x:c<=255):
  Calls prog 144 #[.int .u8 c] w λe w'=>e=ir (.bool (decide (97<=c/\c<=122\/65<=c/\c<=90)))/\w'=w:=by
 by_cases d:97<=c<;>by_cases h:c<=122<;>by_cases j:65<=c<;>by_cases l:c<=90
 all_goals first|(exfalso;omega)|skip
 all_goals (go_enter func144,ntmps144;go_wp2;go_ret;exact⟨by first|(simp;done)|(simp;omega),rfl⟩)
def pre (s p:gz):Bool:=decide (p.size<=s.size)&&((s.extract 0 p.size).toList==p.toList)
def Jb (s p:gz) (w:gw) (j:s.size<=1048576) (d:p.size<=1048576):
  Calls prog 233 #[gI s,gI p] w λe w'=>e=ir (.bool (pre s p))/\w'=w:=by
 by_cases h:p.size<=s.size
 .go_enter func233,ntmps233;go_wp2;go_ret;exact⟨by simp[pre,h],rfl⟩
 .go_enter func233,ntmps233;go_wp2;go_ret;exact⟨by simp[pre,h],rfl⟩
def uj (s p:gz) (w:gw) (h:s.size<=1048576) (d:p.size<=1048576):
  Calls prog 141 #[gI s,gI p] w λe w'=>e=ir (.bool (pre s p))/\w'=w:=by
 go_enter func141,ntmps141
 go_wp21
 refine(Jb s p w h d).mono ?_;rintro e w' ⟨rfl,rfl⟩;go_wp2;go_ret;simp
theorem EV (h:pre s p=true):p.size<=s.size:=by
 unfold pre at h;grind
def lx {ps : Nat} (h:pre (s.extract ps s.size) p=true) (d:ps<=s.size):ps+p.size<=s.size:=by
 have:=EV h;simp at this;omega
def taken (R:RC) (p:gz) (ps:Nat):Nat:=if pre (R.cs.extract ps R.cs.size) p=true then ps+p.size else ps
def Rh {ps : Nat} (h:ps<=R.cs.size):taken R p ps<=R.cs.size:=by
 unfold taken;split
 .rename_i d;exact lx d h
 omega
theorem Rg {ps : Nat}:ps<=taken R p ps:=by grind[taken]
def lz (r:Nat) (R:RC) (j ps:Nat) (s:gz) (w:gw) (h:Rd w r R j ps) (l:ps<=R.cs.size) (x:R.cs.size<=1024) (B:s.size<=1024):
  Calls prog 72 #[gL r,gI s] w λe w'=>e=ir (.bool (pre (R.cs.extract ps R.cs.size) s))/\Kept [r] w w'/\Rd w' r R j (taken R s ps):=by
 have H:=h
 by_cases e:pre (R.cs.extract ps R.cs.size) s=true
 .have A:=lx e l;have d:taken R s ps=ps+s.size:=by unfold taken;rw[gF e]
  rw[d];go_enter func72,ntmps72
  go_wp21
  refine(wy r R j ps w H l x).mono ?_;rintro e w' ⟨rfl,q,rfl⟩
  go_wp21
  refine(uj _ s _ (by simp;omega) (by omega)).mono ?_;rintro e w' ⟨rfl,rfl⟩;have p:(w.drewN q).cell? ⟨r,3,none⟩=some (gp ps):=H.ps;have C:=H.free 3;have y:Hid (Kept [r] w ((w.drewN q).setCell ⟨r,3,none⟩ (gp ((ps+s.size:Nat))))):=((Kept.refl [r] w).drewN q).setCell (.inl (by simp)) _;have z:Hid (Rd ((w.drewN q).setCell ⟨r,3,none⟩ (gp ((ps+s.size:Nat)))) r R j (ps+s.size)):=Rd.Ms (w:=w.drewN q) H _;rw[e];go_wp2;go_ret;exact⟨by rw[e];rfl,y,z⟩
 .have d:taken R s ps=ps:=by unfold taken;rw[gR e]
  rw[d];have u:pre (R.cs.extract ps R.cs.size) s=false:=by simpa using e
  go_enter func72,ntmps72
  go_wp21
  refine(wy r R j ps w H l x).mono ?_;rintro e w' ⟨rfl,q,rfl⟩
  go_wp21
  refine(uj _ s _ (by simp;omega) (by omega)).mono ?_;rintro e w' ⟨rfl,rfl⟩;rw[u];go_wp2;go_ret;exact⟨by rw[u];rfl,(Kept.refl [r] w).drewN q,H⟩
def scan (q:Int->Bool) (s:gz) (i:Nat):Nat:=if h:i < s.size then (if q (bt s i)then i else scan q s (i+1))else i
  termination_by s.size - i
theorem D5 (h:s.size<=i):scan q s i=i:=by grind[scan]
theorem JH (h:q (bt s i)=true):scan q s i=i:=by grind[scan]
theorem N7 (hi:i < s.size) (h:q (bt s i)=false):scan q s i=scan q s (i+1):=by grind[scan]
def sZ:i<=scan q s i:=by
 fun_induction scan q s i with
 |case1=>omega
 |case2=>omega
 |case3=>omega
def pz (h:i<=s.size):scan q s i<=s.size:=by
 fun_induction scan q s i with
 |case1=>omega
 |case2 _ _ _ ih=>omega
 |case3=>omega
theorem abC:scan q s i < s.size->q (bt s (scan q s i))=true:=by
 fun_induction scan q s i with
 |case1 _ _ h=>grind
 |case2 _ _ _ ih=>exact ih
 |case3 _ h=>omega
structure U1 (w:gw) (S:List Nat) (k:Nat) (caps:jO) (q:Int->Bool):Prop where
 Yb:∀(args:jO) (w:gw),(callFunc k args).run prog w= .ok (.enter k args) w
 ask:∀(c:Int) (w':gw),0<=c->c<=255->Kept S w w'->Calls prog k (#[.int .u8 c]++caps) w' λe w''=>e=ir (.bool (q c))/\∃n,w''=w'.drewN n
theorem Rm (r:Nat) (R:RC) (j ps:Nat) (k:Nat) (d:jO) (q:Int->Bool) (w:gw) (h:Rd w r R j ps) (K:ps<=R.cs.size) (V:R.cs.size<=1024) (L:U1 w [r] k d q):
  Calls prog 239 #[gL r,.func (.func k) #[] d] w λe w'=>e=ir (gI (R.cs.extract ps (scan q R.cs ps)))/\Kept [r] w w'/\Rd w' r R j (scan q R.cs ps):=by
 have y:=L;have X:=h.ps;have H:=h;have B:=get_bt R.cs;have I:=y.Yb;go_enter func239,ntmps239
 go_wp21
 go_loopw [] (λwr=>∃i:Nat,ps<=i/\i<=R.cs.size/\scan q R.cs i=scan q R.cs ps/\Rd wr r R j i/\Kept [r] w wr) (λwr=>R.cs.size - (match wr.cell? ⟨r,3,none⟩with|some v=>(intOf v).toNat|none=>0))
 case atStart=>exact⟨ps,ij _,K,rfl,H,Kept.refl _ _⟩
 case round=>
  have⟨i,hi0,hi1,hsc,HR,HKW⟩:=hrel;have t:=HR.text;have p:=HR.ps;have O:=HR.free 3
  by_cases e:i=R.cs.size
  .have C:=(λw' (h:Rd w' r R j i)=>oE r R j i w' h);have e2:scan q R.cs ps=i:=by rw[<-hsc];exact D5 (by omega)
   have A:decide (i=R.cs.size)=true:=by simp[e]
   rw[e2];rw[A]at C
   go_wp21
   go_quiet ((go_at_call 68;refine xH (C _ ?_);exact HR))
   go_wp21
   go_quiet (fail)
   go_wp2;go_ret;exact⟨by rw[e2,e];rfl,((HKW.drewN _).drewN _),by rw[e2];exact HR⟩
  .have u:i < R.cs.size:=by omega
   have C:=(λw' (h:Rd w' r R j i)=>oE r R j i w' h);have A:decide (i=R.cs.size)=false:=by simp[e]
   rw[A]at C;have U:=B i u;have F:=bt_nonneg R.cs i;have G:=bt_le R.cs i
   by_cases l:q (bt R.cs i)=true
   .have e2:scan q R.cs ps=i:=by rw[<-hsc];exact JH l
    rw[e2];have D:=(λw' h=>y.ask (bt R.cs i) w' F G h);rw[l]at D
    go_wp21
    go_quiet (first|(go_at_call 68;refine xH (C _ ?_);exact HR)|(refine xH (D _ ?_);exact HKW.drewN _))
    go_wp21
    go_quiet (fail)
    go_wp2;go_ret;exact⟨by rw[e2];rfl,((HKW.drewN _).drewN _),by rw[e2];exact HR⟩
   .have x:q (bt R.cs i)=false:=by simpa using l
    have HS:scan q R.cs (i+1)=scan q R.cs ps:=by rw[<-hsc,N7 u x]
    have D:=(λw' h=>y.ask (bt R.cs i) w' F G h);rw[x]at D
    go_wp21
    go_quiet (first|(go_at_call 68;refine xH (C _ ?_);exact HR)|(refine xH (D _ ?_);exact HKW.drewN _))
    have z:=Rd.Ms (w:=wr.drewN nq) HR (i+1);have J:=(HKW.drewN nq).setCell (p:=⟨r,3,none⟩) (.inl (by simp)) (gp ((i+1:Nat)));go_wp2;go_roundw
    case rel=>grind
    case measure=>
     have N:=z.ps;rw[show((i:Int)+1)=((i+1:Nat):Int)from by omega,N,p];simp[intOf];omega
def jr (s:gz) (c:Int):Bool:=decide (0<=Lib.indexByte s.data.toList c.toNat.toUInt8)
def Ys (s:gz) (c:Int):jr s c=s.data.toList.contains c.toNat.toUInt8:=by rw[Lib.contains_iff_indexByte];rfl
def afv {c : Int} (d:0<=c) (e:c<=255) {x:UInt8} (h:c.toNat.toUInt8=x):c=(x.toNat:Int):=by
 have:=sI UInt8.toNat h;simp at this;omega
def Yt {c : Int} (d:0<=c) (e:c<=255) (h:jr jH c=true):c=62:=by
 rw[Ys]at h;simp at h;exact afv d e h
def Jj (b:Nat) (s:gz) (c:Int) (w:gw) (h:w.cell? ⟨b,0,none⟩=some (gI s)):
  Calls prog 241 #[.int .u8 c,gL b] w λe w'=>e=ir (.bool (jr s c))/\w'=w:=by
 have C:=Tryz.strings_IndexByte s c w;go_enter func241,ntmps241
 go_wp21
 refine C.mono ?_;rintro e w' ⟨rfl,rfl⟩;generalize hx:Lib.indexByte s.data.toList c.toNat.toUInt8=x;have j:jr s c=decide (0<=x):=by unfold jr;rw[hx]
 have d:=fW j;clear j
 by_cases e:0<=x
 .go_wp2;go_ret;exact⟨by rw[d.out];simp[e],rfl⟩
 .go_wp2;go_ret;exact⟨by rw[d.out];simp[e],rfl⟩
def BU (w:gw) (S:List Nat) (b:Nat) (s:gz) (h:w.cell? ⟨b,0,none⟩=some (gI s)) (u:b < w.heap.size) (l:b∉S):U1 w S 241 #[gL b] (jr s) where
 Yb:=enters_of func241 (by rfl) rfl
 ask c w' _ _ hk:=(Jj b s c w' ((hk.cell (p:=⟨b,0,none⟩) u l).trans h)).mono λe x ⟨d,j⟩=>⟨d,0,j⟩
def oO (s:gz) (w:gw):
  Calls prog 150 #[gI s] w λe w'=>e=ir (.func (.func 241) #[] #[gL w.heap.size])/\w'=w.alloc (.cells #[gI s] 9):=by
 have j:∀(h:Fn) (first d:jO) (w:gw),(Instr.makeFunc h first d).run prog w= .ok (.func h first d) w:=λ_ _ _ _=>rfl;go_enter func150,ntmps150;go_wp2;go_ret;simp
def PU (w:gw) (S:List Nat):U1 w S 144 #[] (λc=>decide (97<=c/\c<=122\/65<=c/\c<=90)) where
 Yb:=enters_of func144 (by rfl) rfl
 ask c w' h0 d _:=(I8 c w' h0 d).mono λe j ⟨d,h⟩=>⟨d,0,h⟩
def YV (b d:Nat) (s:gz) (c:Int) (w:gw) (h:w.cell? ⟨b,0,none⟩=some (gI s)) (j:w.cell? ⟨d,0,none⟩=some (.func (.func 241) #[] #[gL b])):
  Calls prog 323 #[.int .u8 c,gL d] w λe w'=>e=ir (.bool (!jr s c))/\w'=w:=by
 have C:=Jj b s c w h;generalize jr s c=x at C|-;go_enter func323,ntmps323
 go_wp21
 refine C.mono ?_;rintro e w' ⟨rfl,rfl⟩;cases x
 .go_wp2;go_ret;simp
 .go_wp2;go_ret;simp
def XA (w:gw) (S:List Nat) (b d:Nat) (s:gz) (h:w.cell? ⟨b,0,none⟩=some (gI s)) (j:w.cell? ⟨d,0,none⟩=some (.func (.func 241) #[] #[gL b])) (z:b < w.heap.size) (y:b∉S) (u:d < w.heap.size) (l:d∉S):U1 w S 323 #[gL d] (λc=>!jr s c) where
 Yb:=enters_of func323 (by rfl) rfl
 ask c w' _ _ hk:=(YV b d s c w' ((hk.cell (p:=⟨b,0,none⟩) z y).trans h) ((hk.cell (p:=⟨d,0,none⟩) u l).trans j)).mono λe A ⟨x,j⟩=>⟨x,0,j⟩
def aa8 (f:Fn) (x y:jO) (w:gw):
  Calls prog 286 #[.func f x y] w λe w'=>e=ir (.func (.func 323) #[] #[gL w.heap.size])/\w'=w.alloc (.cells #[.func f x y] 204):=by
 have j:∀(h:Fn) (first d:jO) (w:gw),(Instr.makeFunc h first d).run prog w= .ok (.func h first d) w:=λ_ _ _ _=>rfl;go_enter func286,ntmps286;go_wp2;go_ret;simp
theorem vB (r:Nat) (R:RC) (A ps:Nat) (s:gz) (w:gw) (h:Rd w r R A ps) (U:ps<=R.cs.size) (V:R.cs.size<=1024):
  Calls prog 237 #[gL r,gI s] w λe w'=>e=p8/\Kept [r] w w'/\Rd w' r R A (scan (λc=>!jr s c) R.cs ps):=by
 have Y:=jn h;have H:=h;clear h;obtain⟨l,d⟩:∃l,l=w.alloc (.cells #[gI s] 9):=⟨_,rfl⟩;obtain⟨u,j⟩:∃u,u=l.alloc (.cells #[.func (.func 241) #[] #[gL w.heap.size]] 204):=⟨_,rfl⟩;have J:l.heap.size=w.heap.size+1:=by rw[d];simp
 have X:u.heap.size=w.heap.size+2:=by rw[j];simp[J]
 have G:l.heap[w.heap.size]?=some (gJ #[gI s] 9):=by rw[d];exact fZ w _
 have I:Kept [r] w l:=by rw[d];exact(Kept.refl _ _).alloc _
 have x:Kept [] l u:=by rw[j];exact(Kept.refl _ _).alloc _
 have O:u.heap[l.heap.size]?=some (gJ #[.func (.func 241) #[] #[gL w.heap.size]] 204):=by rw[j];exact fZ l _
 have F:=x.at G (by simp);have y:Rd u r R A ps:=by rw[j,d];exact(((Kept.refl [] w).alloc _).alloc _).at H (by simp)
 have K:Kept [r] w u:=I.trans (x.mono (by simp));have hA:U1 u [r] 323 #[gL l.heap.size] (λc=>!jr s c):=
  XA u [r] w.heap.size l.heap.size s (by simp_all) (by simp_all) (by omega) (by grind) (by omega) (by grind)
 have C:=Rm r R A ps _ _ _ u y U V hA;have B:=fW d;have D:=fW j;clear hA y F O x I G J X d j;go_enter func237,ntmps237
 go_wp21
 refine(oO s w).mono ?_;rintro e w' ⟨rfl,rfl⟩;rw[<-B.out]
 go_wp21
 refine(aa8 _ _ _ l).mono ?_;rintro e w' ⟨rfl,rfl⟩;rw[<-D.out]
 go_wp21
 refine C.mono ?_;rintro e Z ⟨rfl,z,N⟩;have L:=K.trans z;clear z;go_wp2;go_end0
 grind
structure Ly (w:gw) (r:Nat) (R:RC) (g cap:Nat) (cut:Nat->Nat):Prop where
 av:R.av=rh g (R.cs.size+1) cap
 ne:g≠r
 lt:g < w.heap.size
 at_:∀i,i<=R.cs.size->w.cell? ⟨g,i,none⟩=some (gp (cut i))
def Ly.kept {d : Nat} {e : Nat->Nat} (h:Ly w r R g d e) (j:Kept [r] w w'):Ly w' r R g d e:=
 ⟨h.av,h.ne,lU h.lt j.size,λi hi=>(j.cell (p:=⟨g,i,none⟩) h.lt (by simp[h.ne])).trans (h.at_ i hi)⟩
def pS (r:Nat) (R:RC) (j ps g l:Nat) (d:Nat->Nat) (w:gw) (h:Rd w r R j ps) (hA:Ly w r R g l d) (u:j<=R.cs.size) (z:ps<=R.cs.size) (F:R.cs.size<=1024):
  Calls prog 69 #[gL r] w λe w'=>e=ir (.agg #[gp (d j),gp (d ps)])/\Kept [] w w':=by
 have a:=h.gM;rw[hA.av]at a;have p:=h.ps;have b:=h.bg;have A:=hA.at_ j u;have B:=hA.at_ ps z;have D:=jn h;have C:=hA.lt;generalize R.cs.size=n at *;generalize d j=x at *;generalize d ps=y at *;go_enter func69,ntmps69
 go_wp21
 go_region
 all_goals (try go_wp2)
 refine qe (v:= .agg #[gp x,gp y]) ?_ rfl ⟨rfl,((Kept.refl [] w).alloc _).drew⟩;simp[results,results69,asAddr,Result.andThen,go_sem]
def Kept.A5 (h:Below w.heap.size w w'):Kept [] w w':=⟨h.os,h.tape,h.output,h.size,λk d _=>h.block k d⟩
def Gl (w:gw) (r:Nat):Prop:=(∃m,w.cell? ⟨3,0,none⟩=some (gp m))/\3 < w.heap.size/\r≠3
theorem Gl.kept (h:Gl w r) (d:Kept [r] w w'):Gl w' r:=by
 have⟨⟨m,hm⟩,hl,hn⟩:=h;exact⟨⟨m,(d.cell (p:=⟨3,0,none⟩) hl (by grind)).trans hm⟩,lU hl d.size,hn⟩
def oB (s:gz):gz:=⟨(Lib.replaceAll s.data.toList (ByteArray.mk #[0]).data.toList (ByteArray.mk #[239,191,189]).data.toList).toArray⟩
theorem yg (r:Nat) (s:gz) (w:gw) (l:s.size<=1048576) (h:Gl w r):
  Calls prog 140 #[gI s] w λe w'=>e=ir (gI (oB s))/\Kept [] w w':=by
 have⟨⟨m,hm⟩,_,_⟩:=h;have j:=Lib.countB_le ⟨#[0]⟩ (by decide) s.size s (ij _);have C:=Tryz.strings_ReplaceAll s ⟨#[0]⟩ ⟨#[239,191,189]⟩ m w (by omega) hm (by decide) (by have:(ByteArray.mk #[239,191,189]).size=3:=rfl;grind);go_enter func140,ntmps140
 go_wp21
 refine C.mono ?_;rintro e w' ⟨rfl,d⟩;go_wp2;go_ret;exact⟨rfl,Kept.A5 d⟩
def low (c:Int):Int:=if 65<=c/\c<=90 then c+32 else c
def small (s:gz):gz:=⟨s.data.map λb=>if 65<=b.toNat/\b.toNat<=90 then b+32 else b⟩
def sn (s:gz):(small s).size=s.size:=Array.size_map ..
theorem XI (s:gz) (j:Nat) (h:j < s.size):bt (small s) j=low (bt s j):=by
 have u:j < s.data.size:=h;have d:j < (small s).size:=by rw[sn];exact h
 unfold bt low;rw[xI h,xI d];show(((small s).data[j]'d).toNat:Int)=_;have e:(small s).data[j]'d=(if 65<=(s.data[j]).toNat/\(s.data[j]).toNat<=90 then s.data[j]+32 else s.data[j]):=by simp[small]
 rw[e];show _=(if 65<=((s.data[j]).toNat:Int)/\((s.data[j]).toNat:Int)<=90 then ((s.data[j]).toNat:Int)+32 else ((s.data[j]).toNat:Int))
 by_cases l:65<=(s.data[j]).toNat/\(s.data[j]).toNat<=90
 .rw[gF l,gF (by omega),UInt8.toNat_add]
  grind
 grind
def sN (g sz:Nat) (s:gz) (k:Nat) (w wr:gw):Prop:=
 (∃C:jO,wr.heap[g]?=some (.cells C 5 (sz,sz+1))/\C.size=sz/\∀j,j < s.size->C[j]?=some (.int .u8 (if j < k then low (bt s j)else bt s j)))/\Kept [] w wr
theorem sN.cell (h:sN g sz s k w wr) (e:s.size<=sz) (j:Nat) (d:j < s.size):wr.cell? ⟨g,j,none⟩=some (.int .u8 (if j < k then low (bt s j)else bt s j))/\wr.frozen? ⟨g,j,none⟩=false:=by
 have⟨⟨C,hC,_,h⟩,_⟩:=h;exact⟨by rw[xS hC];grind,LU hC j (by omega)⟩
theorem sN.YF (h:sN g sz s k w wr) (hl:low (bt s k)=bt s k):sN g sz s (k+1) w wr:=by
 grind[sN]
theorem sN.store (h:sN g sz s k w wr) (d:w.heap.size<=g) (l:k < sz):sN g sz s (k+1) w (wr.setCell ⟨g,k,none⟩ (.int .u8 (low (bt s k)))):=by
 have⟨⟨C,hC,hs,h⟩,hk⟩:=h;refine⟨⟨_,DT hC k _,by grind,λj e=>?_⟩,hk.setCell (.inr d) _⟩
 grind
theorem vO (s:gz) (w:gw) (V:s.size<=1048576):
  Calls prog 231 #[gI s] w λe w'=>e=ir (gI (small s))/\Kept [] w w':=by
 have l:=run_bytes_of_string (P:=prog) w 9 50 5 s underlying9 underlying50 underlying5;obtain⟨u,A⟩:∃u,u=grownCap w s.size 0 5:=⟨_,rfl⟩;rw[<-A]at l;clear A;have F:=xu s u;have C:∀j,j < s.size->(bytesRow s u)[j]?=some (.int .u8 (bt s j)):=λj B=>by rw[bytesRow_at s u j B,<-get_bt s j B];rfl
 generalize bytesRow s u=R at l F C;obtain⟨z,h⟩:∃z,z=w.drew.alloc (.cells R 5 (R.size,R.size+1)):=⟨_,rfl⟩;rw[<-h]at l;have J:z.heap[w.heap.size]?=some (.cells R 5 (R.size,R.size+1)):=by rw[h];exact fZ w.drew _
 have I:Kept [] w z:=by rw[h];exact(Kept.refl [] w).drew.alloc _
 clear h;have L:Hid (sN w.heap.size R.size s 0 w z):=⟨⟨R,J,rfl,λj B=>by grind⟩,I⟩;clear J I C;generalize R.size=sz at *;go_enter func231,ntmps231
 go_wp21
 clear l
 go_loopw [10] (λi wr=>∃k:Nat,k<=s.size/\i=gp k/\sN w.heap.size sz s k w wr) (λi _=>s.size - (intOf i).toNat)
 case atStart=>exact⟨0,iP _,rfl,L⟩
 case round=>
  obtain⟨k,U,rfl,d⟩:=hrel
  by_cases H:k < s.size
  .have⟨c1,f1⟩:=d.cell F k H;rw[gR (by omega)]at c1;have N:=bt_nonneg s k;have O:=bt_le s k
   by_cases a:65<=bt s k
   .by_cases b:bt s k<=90
    have D:=d.store (ij _) (by omega);have x:low (bt s k)=bt s k - 65+97:=by unfold low;rw[gF ⟨a,b⟩];omega
    rw[x]at D;clear x
    rotate_left
    have D:=d.YF (by unfold low;omega)
    all_goals
     generalize bt s k=c at *;go_wp2;go_roundw
     case rel=>grind
     case measure=>simp[intOf];omega
   .have D:=d.YF (by unfold low;omega);generalize bt s k=c at *;go_wp2;go_roundw
    case rel=>grind
    case measure=>simp[intOf];omega
  .have e:k=s.size:=by omega
   subst e;have G:(convert 50 9 (rh w.heap.size s.size u)).run prog wr= .ok (gI (small s)) wr:=by
    have:=Oz (P:=prog) wr 50 9 5 ⟨w.heap.size,0,none⟩ u (small s).data.toList underlying50 underlying5 underlying9 (λj B=>by
     have y:j < s.size:=by have:=sn s;simp at B;have e:(small s).data.size=(small s).size:=rfl;omega
     rw[jq];have:=(d.cell F j y).1;rw[gF y]at this;rw[this,<-XI s j y,<-get_bt (small s) j (by simp_all)];rfl)
    have e2:(small s).data.toList.length=s.size:=by simp;exact sn s
    rw[e2]at this
    simpa using this
   have K:=d.2;go_wp2;go_ret;exact⟨rfl,K⟩
def qt (x y:Int) (nm:gz) (O:gP) (gM:kY) (w:gw) (hA:yB w O gM) (hn:gM.length<=4096) (N:∀a∈gM,a.2.size<=1048576):
  Calls prog 212 #[.agg #[gp x,gp y,gI nm,O]] w λe w'=>e=ir (.bool (uk gM))/\Kept [] w w':=by
 have⟨ao,cp,hav⟩:=gH hA;subst hav;obtain⟨F,u⟩:∃F,F=w.alloc (gJ #[gp x,gp y,gI nm,.slice ao gM.length cp] 173):=⟨_,rfl⟩;have h:Kept [] w F:=by rw[u];exact(Kept.refl _ _).alloc _
 have U:=h.ownsRow hA (λ_ _=>by simp);have V:=fW u.symm;have X:=N;clear u;obtain⟨R,J⟩:∃R,R=uk gM:=⟨_,rfl⟩;rw[<-J];have I:Hid (R=uk (gM.drop 0)):=fW J;clear J;go_enter func212,ntmps212
 go_wp21
 rw[V.out]
 go_loopw [8] (λv wr=>∃d:Nat,v=gp d/\d<=gM.length/\R=uk (gM.drop d)/\Kept [] F wr) (λv _=>gM.length - (intOf v).toNat)
 case atStart=>exact⟨0,rfl,iP _,I,Kept.refl _ _⟩
 case round=>
  obtain⟨d,rfl,Y,A,B⟩:=hrel
  by_cases l:d < gM.length
  .obtain⟨g,rfl,c0,c1⟩:=yB.at2 (B.ownsRow U (λ_ _=>by simp)) l;have N:=X gM[d] (uP l);rw[CV l]at A;have D:Hid (R=if kA gM[d].1 nJ then kA (Te gM[d].2) lC else uk (gM.drop (d+1))):=fW A;have G:=fW B;clear B A;generalize gM[d].1=a at *;generalize gM[d].2=b at *;have C:=(λW=>vO b W N);have z:=G.alloc (gJ #[gI a,gI b] 275);cases hq:kA a nJ with
   |true=>
    have L:(a.toList==[116,121,112,101])=true:=by rw[<-hq];unfold kA;rw[sH (nJ)]
    have j:=fW (show R=kA (Te b) lC by rw[D.out,hq];rfl)
    go_wp21
    refine(C _).mono ?_;rintro e Z ⟨rfl,K⟩;have H:=z.trans K;go_wp2;go_ret;refine⟨?_,h.trans H⟩;rw[j.out];unfold kA;rw[sH (lC)];rfl
   |false=>
    have L:(a.toList==[116,121,112,101])=false:=by rw[<-hq];unfold kA;rw[sH (nJ)]
    have j:=fW (show R=uk (gM.drop (d+1)) by rw[D.out,hq];rfl);go_wp2;go_roundw
    case rel=>exact⟨d+1,by go_num,by omega,j,z⟩
    case measure=>simp[intOf];omega
  .have D:Hid (R=false):=fW (by rw[A,Fp (by omega)];rfl);have G:=fW B;clear B A;go_wp2;go_ret;exact⟨by rw[D.out];rfl,h.trans G⟩
def Bi (E:Env) (rec:Nat->gN->M Unit) (hA:∀(m:Nat) (t:gN),jd E t->ja E 153 (λ_=>#[Bp E,gp m,iF E t]) (rec m t) uV) (t:gN) (y:jd E t) (G:∀a∈t.js,a.2.size<=1048576):ja E 115 (λ_=>#[Bp E,iF E t]) (kM rec t) uV:=by
 intro f σ w h HS;have C:∃A n B,E.tv= .slice A n B:=by
  have⟨L,_,hr⟩:=h;have⟨A,B,e⟩:=gH hr.tok;exact⟨A,_,B,e⟩
 have F:=(λW=>yt E t W C);have x:Hid (∀W,Kept [] w W->Calls prog 212 #[.agg (zh E t)] W λe K=>e=ir (.bool (uk t.js))/\Kept [] W K):=fW (by
  intro W N;have⟨L,_,hr⟩:=h.im N;have⟨a,b,k,gM⟩:=t;cases k with
  |start n=>
   have e:gM=E.ta:=y rfl;subst e;exact qt a b n E.tv E.ta W hr.tok hr.Lt G
  |stop n=>
   have e:gM=E.ta:=y rfl;subst e;exact qt a b n E.tv E.ta W hr.tok hr.Lt G
  |ke s=>exact qt 0 0 _ _ [] W (oY _ _ _ _) (by simp) (by simp)
  |gS s=>exact qt 0 0 _ _ [] W (oY _ _ _ _) (by simp) (by simp)
  |iN n q=>exact qt 0 0 _ _ [] W (oY _ _ _ _) (by simp) (by simp)
  |lost=>exact qt 0 0 _ _ [] W (oY _ _ _ _) (by simp) (by simp)
  |io=>exact qt 0 0 _ _ [] W (oY _ _ _ _) (by simp) (by simp))
 obtain⟨R,j⟩:∃R,R=(kM rec t) σ:=⟨_,rfl⟩;rw[<-j]at HS|-;unfold kM at j;have H:=At.start h;cases hq:uk t.js with
 |true=>
  rw[hq]at x j;have l:Hid (R=(lw t>>=λ_=>(Pure.pure ():M Unit)) σ):=fW j;clear j;generalize hav:zh E t=O at *;go_enter func115,ntmps115
  go_wp21
  refine(F _).mono ?_;rintro e D ⟨rfl,d⟩;have z:=x D d;replace H:=H.k0 d
  go_wp21
  refine z.mono ?_;rintro e U ⟨rfl,u⟩;replace H:=H.k0 u
  go_wp21
  refine dC (vy E (iK E) t y) H l HS rfl lT ?_;rintro(_) f σ w H J I l;go_wp2;go_end0;exact gv l H rfl
 |false=>
  rw[hq]at x j;have l:Hid (R=(sT rec t>>=λ_=>(Pure.pure ():M Unit)) σ):=fW j;clear j;generalize hav:zh E t=O at *;go_enter func115,ntmps115
  go_wp21
  refine(F _).mono ?_;rintro e D ⟨rfl,d⟩;have z:=x D d;replace H:=H.k0 d
  go_wp21
  refine z.mono ?_;rintro e U ⟨rfl,u⟩;replace H:=H.k0 u
  go_wp21
  refine dC (DA E rec hA t y) H l HS rfl lT ?_;rintro(_) f σ w H J I l;go_wp2;go_end0;exact gv l H rfl
def Wd (E:Env) (t:gN):lQ E .nothing t (Pure.pure ()):=by
 intro v f σ w h d e;refine⟨79,#[],#[],d,enters_of func79 (by rfl) rfl,?_⟩;have H:=At.start h;show Calls prog 79 #[iF E t] w _;generalize iF E t=j;go_enter func79,ntmps79;go_wp2;go_end0;exact gv rfl H rfl
def iU (E:Env) (t:gN) (k:Nat) (m:M Unit) (e:∀d w,(callFunc k d).run prog w= .ok (.enter k d) w) (h:ja E k (λ_=>#[Bp E,iF E t]) m uV):lQ E (.ig k) t m:=by
 intro v f σ w j u l;exact⟨k,#[iC E.bB],#[],u,e,h f σ w j l⟩
def zg (E:Env) (r:Ru) (t:gN):lQ E r t stuck:=λ_ _ _ _ _ _ d=>absurd rfl d
def Sj (E:Env) (t:gN):ja E 106 (λ_=>#[Bp E,iF E t]) (x7 t) uV:=by
 refine dI λf σ w R d HS H=>?_;unfold x7 at d;go_enter func106,ntmps106;have⟨ta,tb,tao,tn,tcp,HTG⟩:=Ec E t H.rel;have h:=λw=>AC ta tb t.name tao tn tcp w
 go_wp21
 refine(HTG _).mono ?_;rintro e x ⟨rfl,j⟩;replace H:=H.k0 j
 go_wp21
 refine dC (Iv E t.name) H d HS rfl lT ?_;rintro(_) f σ w H u l d;go_wp2;go_end0;exact gv d H rfl
def wC (t:gN):Bool:=t.js.all λa=>decide (a.2.size<=1048576)
def Dt (f:Nat):Option (M Bool):=
 if f=120 then some tG else
 if f=127 then some endCell else
 if f=121 then some my else
 if f=126 then some EA else
 if f=132 then some vF else
 if f=123 then some qN else
 if f=113 then some x8 else
 none
def X7 (E:Env) {f : Nat} {b:M Bool} (h:Dt f=some b):j9 E f (λ_=>#[Bp E]) b bV/\∀d w,(callFunc f d).run prog w= .ok (.enter f d) w:=by
 unfold Dt at h;split at h
 .rename_i e;subst e;cases h;exact⟨Nb E,enters_of func120 (by rfl) rfl⟩
 split at h
 .rename_i e;subst e;cases h;exact⟨VG E,enters_of func127 (by rfl) rfl⟩
 split at h
 .rename_i e;subst e;cases h;exact⟨Ex E,enters_of func121 (by rfl) rfl⟩
 split at h
 .rename_i e;subst e;cases h;exact⟨X9 E,enters_of func126 (by rfl) rfl⟩
 split at h
 .rename_i e;subst e;cases h;exact⟨Pm E,enters_of func132 (by rfl) rfl⟩
 split at h
 .rename_i e;subst e;cases h;exact⟨Iy E,enters_of func123 (by rfl) rfl⟩
 split at h
 .rename_i e;subst e;cases h;exact⟨Sl E,enters_of func113 (by rfl) rfl⟩
 cases h
def PY (lk:Bool) (tV rec:Nat->gN->M Unit) (t:gN) (f:Nat):M Unit:=
 if f=95 then AU else
 if f=101 then yP else
 if f=190 then yL else
 if f=193 then tH else
 if f=194 then AV else
 if f=195 then Pk else
 if f=196 then uG else
 if f=197 then yM else
 if f=199 then sA else
 if f=137 then Iu else
 if f=134 then mM else
 if f=133 then jk else
 if f=82 then oy t else
 if f=85 then yo t else
 if f=89 then yp t else
 if f=97 then tZ t else
 if f=91 then j7 t else
 if f=92 then lw t else
 if f=102 then nG t else
 if f=104 then ly t else
 if f=185 then sG t else
 if f=174 then mW t else
 if f=175 then wE t else
 if f=176 then oq t else
 if f=177 then xl t else
 if f=178 then ub t else
 if f=180 then ph t else
 if f=181 then su t else
 if f=183 then pj t else
 if f=184 then qz t else
 if f=186 then qZ t else
 if f=187 then iW t else
 if f=188 then sE t else
 if f=189 then pi t else
 if f=192 then xY t else
 if f=106 then x7 t else
 if f=198 then pR t else
 if f=108 then pB t else
 if f=125 then qY t else
 if f=114 then mc t else
 if f=128 then pr t else
 if f=129 then j5 t else
 if f=130 then ju t else
 if f=131 then lK t else
 if f=93 then ue t else
 if f=94 then oS t else
 if f=182 then pW t else
 if f=172 then oH t else
 if f=173 then ql t else
 if f=83 then lF rec t else
 if f=86 then pa rec t else
 if f=90 then pc rec t else
 if f=96 then nB rec t else
 if f=99 then nr rec t else
 if f=98 then tA rec t else
 if f=100 then Do rec t else
 if f=191 then yN rec t else
 if f=228 then vU rec t else
 if f=117 then sT rec t else
 if f=107 then o9 rec t else
 if f=115 then (if wC t then kM rec t else stuck)else
 if f=118 then (if lk then stuck else oK t)else
 if f=119 then (if lk then stuck else mh tV rec t)else
 stuck
theorem lh {E : Env} {f : Nat} {a b:M Unit} (d:lQ E (.ig k) t a) (e:lQ E (.ig f) t b):lQ E (.ig f) t (if f=k then a else b):=by
 grind
section
variable (E:Env) (lk:Bool) (hl:lk=false->E.wv=none) (hi:E.EH=7) (tV rec:Nat->gN->M Unit)
variable (hAL:∀v ws (m:Nat) (t:gN),jd E t->ja (E.lock v ws) 153 (λ_=>#[Bp E,.int .i64 (m:Int),iF E t]) (tV m t) uV)
variable (hA:∀(m:Nat) (t:gN),jd E t->ja E 153 (λ_=>#[Bp E,.int .i64 (m:Int),iF E t]) (rec m t) uV)
include hl hi hAL hA
theorem aa2 (f:Nat) (t:gN) (d:jd E t):lQ E (.ig f) t (PY lk tV rec t f):=by
 unfold PY;refine lh (iU E t _ _ (enters_of func95 (by rfl) rfl) (LN E t)) ?_;refine lh (iU E t _ _ (enters_of func101 (by rfl) rfl) (LO E t)) ?_;refine lh (iU E t _ _ (enters_of func190 (by rfl) rfl) (VE E t)) ?_;refine lh (iU E t _ _ (enters_of func193 (by rfl) rfl) (Nc E t)) ?_;refine lh (iU E t _ _ (enters_of func194 (by rfl) rfl) (VJ E t)) ?_;refine lh (iU E t _ _ (enters_of func195 (by rfl) rfl) (adb E t)) ?_;refine lh (iU E t _ _ (enters_of func196 (by rfl) rfl) (Sf E (iK E) t)) ?_;refine lh (iU E t _ _ (enters_of func197 (by rfl) rfl) (VH E t)) ?_;refine lh (iU E t _ _ (enters_of func199 (by rfl) rfl) (Pg E t)) ?_;refine lh (iU E t _ _ (enters_of func137 (by rfl) rfl) (X3 E t)) ?_;refine lh (iU E t _ _ (enters_of func134 (by rfl) rfl) (Bf E t)) ?_;refine lh (iU E t _ _ (enters_of func133 (by rfl) rfl) (zJ E t)) ?_;refine lh (iU E t _ _ (enters_of func82 (by rfl) rfl) (GD E t)) ?_;refine lh (iU E t _ _ (enters_of func85 (by rfl) rfl) (QV E t d)) ?_;refine lh (iU E t _ _ (enters_of func89 (by rfl) rfl) (QW E (iK E) t d)) ?_;refine lh (iU E t _ _ (enters_of func97 (by rfl) rfl) (QS E (iK E) t d)) ?_;refine lh (iU E t _ _ (enters_of func91 (by rfl) rfl) (vx E (iK E) t)) ?_;refine lh (iU E t _ _ (enters_of func92 (by rfl) rfl) (vy E (iK E) t d)) ?_;refine lh (iU E t _ _ (enters_of func102 (by rfl) rfl) (M2 E (iK E) t)) ?_;refine lh (iU E t _ _ (enters_of func104 (by rfl) rfl) (ra E (iK E) t d)) ?_;refine lh (iU E t _ _ (enters_of func185 (by rfl) rfl) (Q0 E (iK E) t d)) ?_;refine lh (iU E t _ _ (enters_of func174 (by rfl) rfl) (vE E (iK E) t d)) ?_;refine lh (iU E t _ _ (enters_of func175 (by rfl) rfl) (Tj E (iK E) t d)) ?_;refine lh (iU E t _ _ (enters_of func176 (by rfl) rfl) (JP E (iK E) t d)) ?_;refine lh (iU E t _ _ (enters_of func177 (by rfl) rfl) (WH E (iK E) t d)) ?_;refine lh (iU E t _ _ (enters_of func178 (by rfl) rfl) (QU E t d)) ?_;refine lh (iU E t _ _ (enters_of func180 (by rfl) rfl) (Ln E t d)) ?_;refine lh (iU E t _ _ (enters_of func181 (by rfl) rfl) (Of E t d)) ?_;refine lh (iU E t _ _ (enters_of func183 (by rfl) rfl) (Lp E (iK E) t d)) ?_;refine lh (iU E t _ _ (enters_of func184 (by rfl) rfl) (Lr E t d)) ?_;refine lh (iU E t _ _ (enters_of func186 (by rfl) rfl) (QX E t d)) ?_;refine lh (iU E t _ _ (enters_of func187 (by rfl) rfl) (oo E t d)) ?_;refine lh (iU E t _ _ (enters_of func188 (by rfl) rfl) (QY E t d)) ?_;refine lh (iU E t _ _ (enters_of func189 (by rfl) rfl) (Lo E (iK E) t d)) ?_;refine lh (iU E t _ _ (enters_of func192 (by rfl) rfl) (Sc E t)) ?_;refine lh (iU E t _ _ (enters_of func106 (by rfl) rfl) (Sj E t)) ?_;refine lh (iU E t _ _ (enters_of func198 (by rfl) rfl) (Gw E t)) ?_;refine lh (iU E t _ _ (enters_of func108 (by rfl) rfl) (JO E (iK E) t d)) ?_;refine lh (iU E t _ _ (enters_of func125 (by rfl) rfl) (QT E t d)) ?_;refine lh (iU E t _ _ (enters_of func114 (by rfl) rfl) (Cx E t d)) ?_;refine lh (iU E t _ _ (enters_of func128 (by rfl) rfl) (Ia E (iK E) t)) ?_;refine lh (iU E t _ _ (enters_of func129 (by rfl) rfl) (zO E (iK E) t d)) ?_;refine lh (iU E t _ _ (enters_of func130 (by rfl) rfl) (sF E (iK E) t d)) ?_;refine lh (iU E t _ _ (enters_of func131 (by rfl) rfl) (D8 E (iK E) t d)) ?_;refine lh (iU E t _ _ (enters_of func93 (by rfl) rfl) (by exact Gm E hi t d)) ?_;refine lh (iU E t _ _ (enters_of func94 (by rfl) rfl) (by exact Fh E hi t d)) ?_;refine lh (iU E t _ _ (enters_of func182 (by rfl) rfl) (by exact GG E hi t d)) ?_;refine lh (iU E t _ _ (enters_of func172 (by rfl) rfl) (by exact Sr E t (λi=>Yn E t d i))) ?_;refine lh (iU E t _ _ (enters_of func173 (by rfl) rfl) (by exact Sq E t (λi=>Yn E t d i))) ?_;refine lh (iU E t _ _ (enters_of func83 (by rfl) rfl) (zP E rec hA t d)) ?_;refine lh (iU E t _ _ (enters_of func86 (by rfl) rfl) (KY E rec hA t d)) ?_;refine lh (iU E t _ _ (enters_of func90 (by rfl) rfl) (KZ E (iK E) rec hA t d)) ?_;refine lh (iU E t _ _ (enters_of func96 (by rfl) rfl) (Cc E rec hA t d)) ?_;refine lh (iU E t _ _ (enters_of func99 (by rfl) rfl) (KU E (iK E) rec hA t d)) ?_;refine lh (iU E t _ _ (enters_of func98 (by rfl) rfl) (MY E rec hA t d)) ?_;refine lh (iU E t _ _ (enters_of func100 (by rfl) rfl) (Vy E rec hA t d)) ?_;refine lh (iU E t _ _ (enters_of func191 (by rfl) rfl) (VI E rec hA t d)) ?_;refine lh (iU E t _ _ (enters_of func228 (by rfl) rfl) (MX E rec hA t d)) ?_;refine lh (iU E t _ _ (enters_of func117 (by rfl) rfl) (DA E rec hA t d)) ?_;refine lh (iU E t _ _ (enters_of func107 (by rfl) rfl) (KE E rec hA t d)) ?_
 by_cases e:f=115
 .rw[gF e];subst e;refine iU E t _ _ (enters_of func115 (by rfl) rfl) ?_
  by_cases j:wC t=true
  .rw[gF j];exact Bi E rec hA t d (λa l=>by unfold wC at j;grind)
  .rw[gR j];exact λ_ _ _ _ h=>absurd rfl h
 rw[gR e];clear e
 by_cases e:f=118
 .rw[gF e];subst e;refine iU E t _ _ (enters_of func118 (by rfl) rfl) ?_
  (cases lk with
   |true=>exact λ_ _ _ _ h=>absurd rfl h
   |false=>exact SB E (hl rfl) t)
 rw[gR e];clear e
 by_cases e:f=119
 .rw[gF e];subst e;refine iU E t _ _ (enters_of func119 (by rfl) rfl) ?_
  (cases lk with
   |true=>exact λ_ _ _ _ h=>absurd rfl h
   |false=>exact Iz E (hl rfl) tV rec hAL hA t d)
 rw[gR e]
 grind[lQ,stuck]
end
def sQ:M (Nat×Nat):=λσ=>match iB σ.gA 0 with
 |some i=>jx i σ
 |none=> .stuck
def xW (d:Nat) (own:Bool) (t:gN):M Unit:=
 if d=87/\own=true then nW mV t else
 if d=136/\own=true then nW sQ t else
 if d=81/\own=false then nW (jx 0) t else
 stuck
def Ld {σ1 : Ab} {pl : Nat×Nat} (h:placeFor i σ= .ok pl σ1):σ1=σ:=by
 unfold placeFor at h;split at h
 .exact oG h
 .exact pt h
theorem qM (i:Nat) (σ:Ab) (c p:Nat):jx i σ≠ .stop c p:=by
 grind[jx]
theorem zy (i:Nat) (σ:Ab) (c p:Nat):mB i σ≠ .stop c p:=by
 intro h;unfold mB at h;split at h
 .split at h
  .grind
  .split at h
   .exact qM _ _ _ _ h
   grind
 grind
theorem wg (σ:Ab) (c p:Nat):j4 σ≠ .stop c p:=by
 intro h;unfold j4 at h;split at h
 .split at h
  .exact zy _ _ _ _ h
  .cases h
  .split at h
   .exact qM _ _ _ _ h
   grind
 grind
theorem Le (E:Env):Dc E 87 true mV where
 Yb:=enters_of func87 (by rfl) rfl
 same:=by
  intro σ j e h;unfold mV at h;split at h
  .exact Ld h
  grind
 NR:=by
  intro σ c p h;unfold mV at h;split at h
  .unfold placeFor at h;split at h
   .exact wg _ _ _ h
   .exact qM _ _ _ _ h
  grind
 aax:=λf σ w h d=>GX E (iK E) f σ w h d
def O6 (E:Env):Dc E 81 false (jx 0) where
 Yb:=enters_of func81 (by rfl) rfl
 same:=λ_ _ _ h=>pt h
 NR:=λσ c p=>qM 0 σ c p
 aax:=λf σ w h d=>FT E 0 f σ w h d
theorem Nr (E:Env):Dc E 136 true sQ where
 Yb:=enters_of func136 (by rfl) rfl
 same:=by
  intro σ j e h;unfold sQ at h;split at h
  .exact pt h
  grind
 NR:=by
  intro σ c p h;unfold sQ at h;split at h
  .exact qM _ _ _ _ h
  grind
 aax:=by
  intro f σ w h d;unfold sQ at d|-;cases hq:iB σ.gA 0 with
  |none=>rw[hq]at d;exact absurd rfl d
  |some i=>
   rw[hq]at d;exact Ph E i h hq d
def aau (E:Env) (j:Nat) (own:Bool) (t:gN):lQ E (.gS j own) t (xW j own t):=by
 have d:∀l,Dc E j own l->lQ E (.gS j own) t (nW l t):=by
  intro l u v f σ w h y x;have⟨b1,e,hb⟩:=y;exact⟨_,_,_,e,enters_of func155 (by rfl) rfl,R5 E j own l u t b1 h x hb⟩
 unfold xW;split
 .rename_i e;have⟨e1,e2⟩:=e;subst e1;subst e2;exact d _ (Le E)
 split
 .rename_i e;have⟨e1,e2⟩:=e;subst e1;subst e2;exact d _ (Nr E)
 split
 .rename_i e;have⟨e1,e2⟩:=e;subst e1;subst e2;exact d _ (O6 E)
 exact zg E _ t
def pu (lk:Bool) (tV rec:Nat->gN->M Unit):Ru->gN->M Unit
 | .nil,_=>stuck
 | .nothing,_=>Pure.pure ()
 | .ig f,t=>PY lk tV rec t f
 | .pq m,t=>if 0<=m then rec m.toNat t else stuck
 | .gS pf own,t=>xW pf own t
 | .ahead f,t=>match Dt f with
  |some b=>xq rec b t
  |none=>stuck
 | .ends f,_=>match Dt f with
  |some b=>Dw b
  |none=>stuck
 | .Nu r,t=>KS (pu lk tV rec r t) t
 | .rE ks m,t=>if 0<=m then uB ks m.toNat t else stuck
 | .nK ks name m,t=>if 0<=m then pJ rec ks name m.toNat t else stuck
 | .item ks,t=>F4 ks t
section
variable (E:Env) (lk:Bool) (hl:lk=false->E.wv=none) (hi:E.EH=7) (tV rec:Nat->gN->M Unit)
variable (hAL:∀v ws (m:Nat) (t:gN),jd E t->ja (E.lock v ws) 153 (λ_=>#[Bp E,.int .i64 (m:Int),iF E t]) (tV m t) uV)
variable (hA:∀(m:Nat) (t:gN),jd E t->ja E 153 (λ_=>#[Bp E,.int .i64 (m:Int),iF E t]) (rec m t) uV)
include hl hi hAL hA
def Py (t:gN) (l:jd E t):∀r,lQ E r t (pu lk tV rec r t)
 | .nil=>zg E _ t
 | .nothing=>Wd E t
 | .ig f=>aa2 E lk hl hi tV rec hAL hA f t l
 | .pq m=>by
  show lQ E (.pq m) t (if 0<=m then rec m.toNat t else stuck);split
  .rename_i x;intro v f σ w h j d;have⟨b1,b2,e,hb1,hb2⟩:=j;have y:m=((m.toNat:Nat):Int):=by omega
   rw[y]at hb2;exact⟨_,_,_,e,enters_of func161 (by rfl) rfl,aah E rec hA t l m.toNat b1 b2 h d hb1 hb2⟩
  .exact zg E _ t
 | .gS pf own=>aau E pf own t
 | .ahead k=>by
  show lQ E (.ahead k) t (match Dt k with|some b=>xq rec b t|none=>stuck)
  cases hb:Dt k with
  |none=>exact zg E _ t
  |some b=>
   intro v f σ w h j d;have⟨b1,b2,e,hb1,hb2⟩:=j;have⟨x,he⟩:=X7 E hb;exact⟨_,_,_,e,enters_of func208 (by rfl) rfl,Ng E rec hA t l b k x he b1 b2 h d hb1 hb2⟩
 | .ends k=>by
  show lQ E (.ends k) t (match Dt k with|some b=>Dw b|none=>stuck)
  cases hb:Dt k with
  |none=>exact zg E _ t
  |some b=>
   intro v f σ w h j d;have⟨b1,e,hb1⟩:=j;have⟨x,he⟩:=X7 E hb;exact⟨_,_,_,e,enters_of func213 (by rfl) rfl,aaC E t b k x he b1 h d hb1⟩
 | .Nu r=>by
  intro v f σ w h j d;have⟨b1,b2,u,e,hb1,hb2,hu⟩:=j;exact⟨_,_,_,e,enters_of func218 (by rfl) rfl,Nt E t r _ (Py t l r) b1 b2 u h d hb1 hb2 hu⟩
 | .rE ks m=>by
  show lQ E (.rE ks m) t (if 0<=m then uB ks m.toNat t else stuck);split
  .rename_i x;intro v f σ w h j d;have⟨b1,b2,b3,u,e,hb1,hb2,ha,hb3⟩:=j;have y:m=((m.toNat:Nat):Int):=by omega
   rw[y]at hb3;obtain⟨k,z,rfl,_,_⟩:=ha.call;exact⟨_,_,_,e,enters_of func205 (by rfl) rfl,Gn E t l ks m.toNat b1 b2 b3 k z h d hb1 hb2 ha hb3⟩
  .exact zg E _ t
 | .nK ks name m=>by
  show lQ E (.nK ks name m) t (if 0<=m then pJ rec ks name m.toNat t else stuck);split
  .rename_i x;intro v f σ w h j d;have⟨b1,b2,b3,b4,u,e,hb1,hb2,ha,hb3,hb4⟩:=j;have y:m=((m.toNat:Nat):Int):=by omega
   rw[y]at hb4;obtain⟨k,z,rfl,_,_⟩:=ha.call;exact⟨_,_,_,e,enters_of func207 (by rfl) rfl,by first|exact DC E rec hA t l ks name m.toNat b1 b2 b3 b4 k z h d hb1 hb2 ha hb3 hb4|exact DC E rec hA t l ks name m.toNat b1 b2 b3 b4 k z h d hb1 hb2 hb3 hb4 ha⟩
  .exact zg E _ t
 | .item ks=>by
  intro v f σ w h j d;have⟨b1,b2,b3,u1,u2,e,hb1,hb2,ha1,hb3,ha2⟩:=j;obtain⟨C,A,rfl,_,_⟩:=ha1.call;obtain⟨D,B,rfl,_,_⟩:=ha2.call;exact⟨_,_,_,e,enters_of func263 (by rfl) rfl,Oc E t l ks b1 b2 b3 C D A B h d hb1 hb2 ha1 hb3 ha2⟩
end
def hH:Bool->Nat->Nat->gN->M Unit
 |_,0,_,_=>stuck
 |lk,n+1,m,t=>match t.k with
  | .lost=>stuck
  |_=>asM (pu lk (hH true n) (hH lk n)) m t
theorem adH (E:Env) (H:∃x m c,E.tv= .slice x m c) (t:gN) (h:t.k≠ .lost):ab9 E t:=by
 have⟨a,b,k,gM⟩:=t;cases k with
 |ke s=>exact λd e sp l u y z A B C D F G w j=>abd E d e a b s gM sp l u y z A B C D F G w j
 |io=>exact λd e sp l u y z A B C D F G w j=>SO E d e a b gM sp l u y z A B C D F G w j
 |start n=>exact λd e sp l u y z A B C D F G w j=>Y4 E d e a b n gM sp l u y z A B C D F G w j H
 |stop n=>exact λd e sp l u y z A B C D F G w j=>abe E d e a b n gM sp l u y z A B C D F G w j H
 |gS s=>exact λd e sp l u y z A B C D F G w j=>SM E d e a b s gM sp l u y z A B C D F G w j
 |iN n q=>exact λd e sp l u y z A B C D F G w j=>SN E d e a b n q gM sp l u y z A B C D F G w j
 |lost=>grind
def JZ (lk:Bool) (n m:Nat) (t:gN) (h:t.k≠ .lost):hH lk (n+1) m t=asM (pu lk (hH true n) (hH lk n)) m t:=by
 simp[hH]
def Om:∀(n:Nat) (lk:Bool) (E:Env),(lk=false->E.wv=none)->E.EH=7->(∃x m c,E.tv= .slice x m c)->∀(m:Nat) (t:gN),jd E t->ja E 153 (λ_=>#[Bp E,gp m,iF E t]) (hH lk n m t) uV
 |0,_,_,_,_,_,_,_,_=>λ_ _ _ _ j=>absurd rfl j
 |n+1,lk,E,hl,hi,htv,m,t,l=>by
  by_cases d:t.k= .lost
  .have e:hH lk (n+1) m t=stuck:=by
    have⟨a,b,k,gM⟩:=t;cases d;rfl
   rw[e];exact λ_ _ _ _ j=>absurd rfl j
  .rw[JZ lk n m t d];exact ZB E _ t (adH E htv t d) (λr=>Py E lk hl hi (hH true n) (hH lk n) (λv ws m t l=>Om n true (E.lock v ws) (λh=>by cases h) hi htv m t l) (Om n lk E hl hi htv) t l r) m
def U8 (E:Env) (rec:Nat->gN->M Unit) (a b:Nat) (gM:kY):ja E 38 (λ_=>#[Bp E,iF E ⟨a,b,.lost,gM⟩]) (uD rec ⟨a,b,.lost,gM⟩) uV:=by
 intro f σ w h j;have e:uD rec ⟨a,b,.lost,gM⟩ σ= .ok () σ:=rfl;rw[e];simp only[iF];have d:=qB underlying169;have H:=fW ((At.start h).k0 ((Kept.refl [] w).alloc (gJ #[gp a,gp b] 169)));clear h j e;go_enter func38,ntmps38;go_wp2;go_end0;exact gv rfl H.out rfl
section
variable (lk:Bool) (tV rec:Nat->gN->M Unit) (t:gN)
end
def Xp (E:Env) (hl:E.wv=none) (hi:E.EH=7) (e:∃x m c,E.tv= .slice x m c) (n:Nat) (t:gN) (d:jd E t):ja E 38 (λ_=>#[Bp E,iF E t]) (uD (hH false n) t) uV:=by
 have hA:=Om n false E (λ_=>hl) hi e;have⟨a,b,k,gM⟩:=t;cases k with
 |ke s=>exact xO E _ hA _ d nofun rfl (by decide) λw=>by kernel_rfl
 |start s=>exact xO E _ hA _ d nofun rfl (by decide) λw=>by generalize E.tv=x;kernel_rfl
 |stop s=>exact xO E _ hA _ d nofun rfl (by decide) λw=>by generalize E.tv=x;kernel_rfl
 |gS s=>exact xO E _ hA _ d nofun rfl (by decide) λw=>by kernel_rfl
 |iN s q=>exact xO E _ hA _ d nofun rfl (by decide) λw=>by kernel_rfl
 |lost=>exact U8 E _ a b gM
 |io=>exact xO E _ hA _ d nofun rfl (by decide) λw=>by kernel_rfl
theorem vK {n : gz} {r : Ru}:∀{R:List (List gz×Ru)},pg R n=some r->∃p∈R,ik p.1 n=true/\p.2=r
 |[],h=>by cases h
 |p::R,h=>by
  unfold pg at h
  by_cases d:ik p.1 n=true
  .grind
  .rw[gR d]at h;have⟨q,h1,h2⟩:=vK h
   grind
theorem Jc {n : gz}:∀{R:List (List gz×Ru)},pg R n=none->∀p∈R,ik p.1 n=false
 |[],_,p,d=>by cases d
 |q::R,h,p,d=>by
  unfold pg at h
  by_cases e:ik q.1 n=true
  .grind
  .rw[gR e]at h;rcases List.mem_cons.1 d with rfl|d
   .grind
   .exact Jc h p d
def Ud (t:gN):Bool:=match t.k with
 | .start _=>true
 |_=>false
structure uT (t:gN):Prop where
 sz:t.chars.size<=100
 sm:wC t=true
 nl:t.k≠ .lost
def Hh (σ:Ab) (t:gN):Prop:=Ud t=true->σ.fresh=true
def Hh.tag (h:Hh σ t) (d:Ud t=true):nT σ t:=by
 refine⟨?_,h d⟩;have⟨a,b,k,gM⟩:=t;cases k<;>first|rfl|cases d
theorem iI (lk:Bool) (n m:Nat) (t:gN) (hl:t.k≠ .lost) (sp:mx) (e:yn[m]?=some sp) (r:Ru) (d:kg sp t=r):hH lk (n+1) m t=pu lk (hH true n) (hH lk n) r t:=by
 rw[JZ lk n m t hl]
 grind[asM]
def yH (t:gN):xW 87 true t=nW mV t:=by rfl
def O1 (t:gN):xW 81 false t=nW (jx 0) t:=by rfl
def IP {n : gz} (h:ik [s] n=true):n=s:=by rw[yb]at h;exact tI h
def aey {u n : gz} (h:ik [s,u] n=true):n=s\/n=u:=by
 unfold ik at h;simp only[List.any_cons,List.any_nil,Bool.or_false,Bool.or_eq_true]at h;rcases h with h|h
 .exact .inl (tI h)
 .exact .inr (tI h)
def Nq {d : List gz} {n : gz} (h:ik d n=true):n∈d:=by
 unfold ik at h;rw[List.any_eq_true]at h;have⟨x,h1,h2⟩:=h;rw[tI h2];exact h1
def T9 (lk:Bool) (n a b:Nat) (nm:gz) (gM:kY) (d:nm=jh\/nm=jp\/nm=iR) (h:rG σ) (l:σ.fresh=true) (j:wt σ < 999000):RB 1 σ (hH lk (n+1) 3 ⟨a,b,.start nm,gM⟩ σ):=by
 have e:nT σ ⟨a,b,.start nm,gM⟩:=⟨rfl,l⟩;rcases d with rfl|rfl|rfl
 .rw[iI lk n 3 _ (by simp) lE rfl (.ig 92) (by kernel_rfl)];exact us h j e
 .rw[iI lk n 3 _ (by simp) lE rfl (.ig 93) (by kernel_rfl)];exact Ea h j e
 .rw[iI lk n 3 _ (by simp) lE rfl (.ig 94) (by kernel_rfl)];exact D9 h j e
def y9 {rec:Nat->gN->M Unit} (h:RB c {σ with mode:=m} (rec m t {σ with mode:=m})):RB c σ ((jM m>>=λ_=>j1 rec t>>=λ_=>(Pure.pure ():M Unit)) σ):=by
 have x:RB c {σ with mode:=m} ((j1 rec t>>=λ_=>(Pure.pure ():M Unit)) {σ with mode:=m}):=RB.tail h;show RB c σ ((j1 rec t>>=λ_=>(Pure.pure ():M Unit)) {σ with mode:=m});revert x;cases(j1 rec t>>=λ_=>(Pure.pure ():M Unit)) {σ with mode:=m} with
 |ok u σ2=>rintro⟨e,j,d,l⟩;exact⟨e,j,⟨d.gQ,d.pQ,d.qO,d.oZ,d.wt,d.wz,d.nm⟩,l⟩
 |stop c p=>exact λh=>h
 |stuck=>exact λh=>h
def rG.mode (h:rG σ) (m:Nat) (d:p9 m=true):rG {σ with mode:=m}:=⟨h.iv.lX rfl rfl rfl rfl rfl rfl rfl,h.ne,d⟩
def Dj (lk:Bool) (n:Nat) (t:gN) (x:uT t) (h:rG σ) (G:Hh σ t) (d:wt σ < 999000):RB 360 σ (hH lk (n+3) 6 t σ):=by
 obtain⟨a,b,k,gM⟩:=t;cases k with
 |lost=>exact absurd rfl x.nl
 |ke s=>
  have y:kg kD ⟨a,b,.ke s,gM⟩= .ig 102:=by
   unfold kg;dsimp only;split<;>rfl
  rw[iI lk (n+2) 6 _ x.nl kD rfl _ y];exact(KD h d x.sz).mono (by omega)
 |gS s=>
  rw[iI lk (n+2) 6 _ x.nl kD rfl (.gS 87 true) rfl];show RB 360 σ (xW 87 true _ σ);rw[yH];exact RB.mono (c:=1) ((FO h.iv mV (Ar h.iv h.ne) _ d).rb h.ne h.md) (by omega)
 |iN s q=>
  rw[iI lk (n+2) 6 _ x.nl kD rfl .nothing rfl];exact(rW h.iv h.Xc).mono (by omega)
 |io=>
  rw[iI lk (n+2) 6 _ x.nl kD rfl .nothing rfl];exact(rW h.iv h.Xc).mono (by omega)
 |start nm=>
  have j:nT σ ⟨a,b,.start nm,gM⟩:=G.tag rfl;cases hl:pg lZ nm with
  |none=>
   have y:kg kD ⟨a,b,.start nm,gM⟩= .ig 104:=by
    show kC [((pg lZ nm).getD .nil),_,_]=_;rw[hl];rfl
   rw[iI lk (n+2) 6 _ x.nl kD rfl _ y];exact(Lq h d j).mono (by omega)
  |some r=>
   obtain⟨p,A,l,e⟩:=vK hl;have y:r≠ .nil->kg kD ⟨a,b,.start nm,gM⟩=r:=by
    intro z;show kC [((pg lZ nm).getD .nil),_,_]=_;rw[hl];cases r<;>first|rfl|exact absurd rfl z
   have go:∀u,r=u->u≠ .nil->RB 360 σ (pu lk (hH true (n+2)) (hH lk (n+2)) u ⟨a,b,.start nm,gM⟩ σ)->RB 360 σ (hH lk (n+3) 6 ⟨a,b,.start nm,gM⟩ σ):=by
    intro u e1 e2 C;rw[iI lk (n+2) 6 _ x.nl kD rfl u (by rw[<-e1];exact y (by rw[e1];exact e2))];exact C
   unfold lZ at A;simp only[uS,qC,rF]at A;rcases A with rfl|rfl|rfl|rfl|rfl|rfl|rfl|rfl|rfl|rfl|rfl|rfl|rfl|rfl|rfl|rfl|rfl|rfl|rfl|rfl|rfl
   all_goals refine go _ e.symm (by intro B;cases B) ?_
   all_goals dsimp only at l
   all_goals first
    |exact(JQ h d j).mono (by omega)
    |exact(Oe h d j (IP l)).mono (by omega)
    |exact(Cy h d j (by rcases aey l with e|e<;>(show rl nm=true;rw[e];kernel_rfl))).mono (by omega)
    |exact(Od h d j (IP l)).mono (by omega)
    |exact(Og h d j).mono (by omega)
    |exact(JS h d j).mono (by omega)
    |exact(JR h d j).mono (by omega)
    |exact(Fi h d j).mono (by omega)
    |exact(Ls h d j).mono (by omega)
    |exact(JN h d j).mono (by omega)
    |exact(aaV h d j _ (by kernel_rfl)).mono (by omega)
    |exact(Ob h d j (IP l)).mono (by omega)
    |exact(Ti h d j).mono (by omega)
    |exact(GF h d j).mono (by omega)
    |exact(QZ h d j).mono (by omega)
    |exact(Ll h d j).mono (by omega)
    |exact(rW h.iv h.Xc).mono (by omega)
    |exact(PB h j.fr).mono (by omega)
    |exact(PA h j.fr).mono (by omega)
    |exact(T9 lk (n+1) a b nm gM (by have:=Nq l;simp at this;exact this) h j.fr d).mono (by omega)
    |skip
 |stop nm=>
  cases hl:pg lY nm with
  |none=>
   have y:kg kD ⟨a,b,.stop nm,gM⟩= .ig 106:=by
    show kC [((pg lY nm).getD .nil),_,_]=_;rw[hl];rfl
   rw[iI lk (n+2) 6 _ x.nl kD rfl _ y];have F:ik [fY] nm=false:=Jc hl ([fY],.ig 191) (by unfold lY;simp);exact(Pj h (by
    show nm≠_;rintro rfl;rw[yb]at F;exact aeJ F rfl)).mono (by omega)
  |some r=>
   obtain⟨p,A,l,e⟩:=vK hl;have y:r≠ .nil->kg kD ⟨a,b,.stop nm,gM⟩=r:=by
    intro z;show kC [((pg lY nm).getD .nil),_,_]=_;rw[hl];cases r<;>first|rfl|exact absurd rfl z
   have go:∀u,r=u->u≠ .nil->RB 360 σ (pu lk (hH true (n+2)) (hH lk (n+2)) u ⟨a,b,.stop nm,gM⟩ σ)->RB 360 σ (hH lk (n+3) 6 ⟨a,b,.stop nm,gM⟩ σ):=by
    intro u e1 e2 C;rw[iI lk (n+2) 6 _ x.nl kD rfl u (by rw[<-e1];exact y (by rw[e1];exact e2))];exact C
   unfold lY at A;simp only[uS,qC,rF]at A;rcases A with rfl|rfl|rfl|rfl|rfl|rfl|rfl|rfl|rfl|rfl
   all_goals refine go _ e.symm (by intro B;cases B) ?_
   all_goals dsimp only at l
   .exact(Nf h).mono (by omega)
   .exact(Ey (t:=⟨a,b,.stop nm,gM⟩) h d l).mono (by omega)
   .exact(Sg h).mono (by omega)
   .exact(Pf h d).mono (by omega)
   .exact(aaB h d).mono (by omega)
   .exact(Si h).mono (by omega)
   .exact(KL h).mono (by omega)
   .exact(Pe h (by
     show nm≠_;rintro rfl;revert l;simp[ik,kA,sH])).mono (by omega)
   .have D:=IP l;subst D;show RB 360 σ (yN (hH lk (n+2)) ⟨a,b,.stop _,gM⟩ σ);unfold yN;split
    .refine y9 ?_;rw[iI lk (n+1) 16 _ x.nl vD rfl (.ig 137) (by kernel_rfl)];exact⟨(h.mode 16 rfl).iv.lX rfl rfl rfl rfl rfl rfl rfl,⟨h.ne,.inl rfl⟩,⟨rfl,rfl,rfl,rfl,lf _,λ_ h=> .inl h,λ_ _ h=>h⟩,jN (nh (jl rfl)) (xJ _ _)⟩
    .exact(rW h.iv h.Xc).mono (by omega)
   .exact(Se h).mono (by omega)
def aa0 {l : List Ru} {R : List (List gz×Ru)} (u:t.k≠ .lost) (j:yn[m]?=some sp) (e:kg sp t=kC ((pg R nm).getD .nil::l)) (z:∀p∈R,p.2≠ .nil) (y:RB c σ (pu lk (hH true n) (hH lk n) (kC l) t σ)) (x:∀p∈R,ik p.1 nm=true->RB c σ (pu lk (hH true n) (hH lk n) p.2 t σ)):RB c σ (hH lk (n+1) m t σ):=by
 cases hl:pg R nm with
 |none=>
  rw[iI lk n m t u sp j (kC l) (by rw[e,hl];rfl)];exact y
 |some r=>
  obtain⟨p,h,A,rfl⟩:=vK hl;have d:=z p h;rw[iI lk n m t u sp j p.2 (by
   rw[e,hl];show kC (p.2::_)=p.2;cases hq:p.2<;>first|rfl|exact absurd hq d)]
  exact x p h A
def Y5 (hl:t.k≠ .lost) (e:yn[m]?=some sp) (d:RB c σ (pu lk (hH true n) (hH lk n) (kg sp t) t σ)):RB c σ (hH lk (n+1) m t σ):=by
 rw[iI lk n m t hl sp e _ rfl];exact d
def LS {rec:Nat->gN->M Unit} (h:rG σ) (A:∀d,rG d->wt d=wt σ->d.fresh=σ.fresh->RB c d (rec 6 t d)):RB c σ (sT rec t σ):=by
 have y:=A {σ with iS:=true} ⟨h.iv.lX rfl rfl rfl rfl rfl rfl rfl,h.ne,h.md⟩ rfl rfl;have z:=RB.then y (λσ=>{σ with iS:=false}) (λ_=>⟨rfl,rfl,rfl,rfl,rfl,rfl,rfl,rfl,rfl,rfl,rfl,rfl⟩);show RB c σ ((rec 6 t>>=λ_=>wG (λσ=>{σ with iS:=false})>>=λ_=>(Pure.pure ():M Unit)) {σ with iS:=true});revert z;cases(rec 6 t>>=λ_=>wG (λσ=>{σ with iS:=false})>>=λ_=>(Pure.pure ():M Unit)) {σ with iS:=true} with
 |ok u σ2=>rintro⟨j,l,e,x⟩;exact⟨j,l,⟨e.gQ,e.pQ,e.qO,e.oZ,e.wt,e.wz,e.nm⟩,x⟩
 |stop c p=>exact λh=>h
 |stuck=>exact λh=>h
def Yr {d:M Unit} (h:rG σ) (e:RB c σ (d σ)):RB c σ (KS d t σ):=by
 unfold KS;split
 .exact e
 .exact(rW h.iv h.Xc).mono (iP _)
theorem yR {rec:Nat->gN->M Unit} (h:rG σ) (G:wt σ < 999000) (ks:List gz) (e:gz) (m:Nat) (y:p9 m=true) (z:∀d,rG d->d.mode=m->wt d<=wt σ+1->d.fresh=σ.fresh->RB c d (rec m t d)):RB (c+1) σ (pJ rec ks e m t σ):=by
 unfold pJ;refine RB.bind (wZ h.iv (ik ks)) (c2:=c+1) ?_ (by omega);rintro _ F A u H C;refine RB.bind (rV A (u.ne h.ne) (by omega) e) (c2:=c) ?_ (by omega);rintro _ l B x I ⟨j,q,D⟩;refine y9 (z {l with mode:=m} ⟨B.lX rfl rfl rfl rfl rfl rfl rfl,x.ne (u.ne h.ne),y⟩ rfl ?_ ?_)
 .grind[wt]
 .show l.fresh=_;rw[D,C.fresh]
def DK {gM : kY} (h:σ.waiting.length < 4096):oK ⟨a,b,.ke s,gM⟩ σ= .ok () (if sU s then σ else {σ with waiting:=σ.waiting++[(a,b,s)]}):=by
 unfold oK;simp only;cases sU s with
 |true=>rfl
 |false=>simp[h]
def Ib {gM : kY} (h:rG σ) (l:s.size<=100) (C:wt σ < 999000) (y:σ.waiting.length < 4000) (d:σ.mode=7\/σ.mode=11\/σ.mode=12):RB 360 σ (o9 (hH false (n+4)) ⟨a,b,.ke s,gM⟩ σ):=by
 unfold o9;split
 .show RB 360 σ ((j1 (hH false (n+4)) ⟨a,b,.ke s,gM⟩>>=λ_=>(Pure.pure ():M Unit)) {σ with kept:=σ.mode,mode:=8});refine RB.mono (c:=0) ?_ (by omega);have e:hH false (n+4) 8 ⟨a,b,.ke s,gM⟩=oK ⟨a,b,.ke s,gM⟩:=iI false (n+3) 8 _ (by intro e;cases e) kQ rfl (.ig 118) (by
   unfold kg;dsimp only;split<;>rfl)
  show RB 0 σ ((hH false (n+4) 8 ⟨a,b,.ke s,gM⟩>>=λ_=>(Pure.pure ():M Unit)) {σ with kept:=σ.mode,mode:=8});rw[e];have z:mL {σ with kept:=σ.mode,mode:=8}:=h.iv.lX rfl rfl rfl rfl rfl rfl rfl;rw[M.gy,DK (show({σ with kept:=σ.mode,mode:=8}:Ab).waiting.length < 4096 by show σ.waiting.length < 4096;omega)];cases sU s with
  |true=>exact⟨z,⟨h.ne,.inr (.inr ⟨rfl,d⟩)⟩,⟨rfl,rfl,rfl,rfl,lf _,λ_ h=> .inl h,λ_ _ h=>h⟩,nh (jl rfl)⟩
  |false=>exact⟨h.iv.lX rfl rfl rfl rfl rfl rfl rfl,⟨h.ne,.inr (.inr ⟨rfl,d⟩)⟩,⟨rfl,rfl,rfl,rfl,by show(σ.waiting++[(a,b,s)]).length<=_;simp,λx j=>by
    rcases List.mem_append.1 (show x∈σ.waiting++[(a,b,s)]from j)with j|j
    .exact .inl j
    .rw[List.mem_singleton.1 j];exact .inr l,λ_ _ h=>h⟩,nh (jl rfl)⟩
 .refine RB.tail (LS h ?_);intro A u w' B;exact Dj false (n+1) ⟨a,b,.ke s,gM⟩ ⟨l,rfl,by intro e;cases e⟩ u (λh=>by cases h) (by omega)
structure CX (L:Nat) (t:gN) (σ:Ab):Prop where
 tg:uT t
 h:rG σ
 hf:Hh σ t
 hw:wt σ < 998000
 hwt:σ.waiting.length < 4000
 hl:σ.gA.length<=L
def PL (L n:Nat):Prop:=∀t σ,CX L t σ->RB 370 σ (hH false n σ.mode t σ)
def PL.ahead {L : Nat} (l:PL L n) (c:CX (L+1) t σ) {b:M Bool} (u:vR b):RB 370 σ (xq (hH false n) b t σ):=
 have⟨tg,h,hf,hw,hwt,hl⟩:=c
 Xy u h (λd j z w' e y _=>l t d ⟨tg,j,(λx=>e.trans (hf x)),by omega,by rw[y];exact hwt,by omega⟩)
def TV (n a b:Nat) (nm:gz) (gM:kY) (j:nm=iy\/nm=iA) (h:rG σ) (d:nT σ ⟨a,b,.start nm,gM⟩) (e:wt σ < 999000):RB 1 σ (hH false (n+1) 12 ⟨a,b,.start nm,gM⟩ σ):=by
 rcases j with rfl|rfl
 .rw[iI false n 12 _ (by simp) Aw rfl (.ig 125) (by kernel_rfl)];exact ze h e d
 .rw[iI false n 12 _ (by simp) Aw rfl (.ig 125) (by kernel_rfl)];exact ze h e d
def adS (n a b:Nat) (nm:gz) (gM:kY) (e:nm∈[iy,iA,ie]) (h:rG σ) (j:nT σ ⟨a,b,.start nm,gM⟩) (z:wt σ < 998900):RB 2 σ (hH false (n+2) 11 ⟨a,b,.start nm,gM⟩ σ):=by
 simp only[uS,qC,rF]at e;have d:nm=iy\/nm=iA->RB 2 σ (pJ (hH false (n+1)) [gq,gr,gu] ie 12 ⟨a,b,.start nm,gM⟩ σ):=λx=>
  yR (c:=1) h (by omega) _ _ 12 rfl (λy u A w' l=>TV n a b nm gM x u ⟨rfl,l.trans j.fr⟩ (by omega))
 rcases e with rfl|rfl|rfl
 .rw[iI false (n+1) 11 _ (by simp) oQ rfl (.nK [gq,gr,gu] ie 12) (by kernel_rfl)];exact d (.inl rfl)
 .rw[iI false (n+1) 11 _ (by simp) oQ rfl (.nK [gq,gr,gu] ie 12) (by kernel_rfl)];exact d (.inr rfl)
 .rw[iI false (n+1) 11 _ (by simp) oQ rfl (.rE [gq,gr,gu] 12) (by kernel_rfl)];exact(Mv h (by omega) j _ 12 rfl).mono (by omega)
def aaM (h:mL σ) (d:σ.gA≠[]):∃j,sQ σ= .ok j σ/\Bd σ j:=by
 have⟨r,hr⟩:=h;have⟨q,e,rest,h1,h2,h3,h4⟩:=hr.first d;exact⟨_,by unfold sQ;rw[h2];dsimp only;unfold jx;rw[h3],e,h3,ij _⟩
def Zr {L : Nat} (hP:PL L (k+5)) (c:CX (L+1) t σ) (X:m∈[7,9,10,11,12,13,14,15,16,17]) (K:m=7->σ.mode=7\/σ.mode=11\/σ.mode=12) (h7:m=11\/m=12->RB 370 σ (hH false (k+5) 7 t σ)) (J:m=15->RB 370 σ (hH false (k+5) 14 t σ)):RB 370 σ (hH false (k+6) m t σ):=by
 have U:=λ{b}=>hP.ahead c (b:=b);obtain⟨y,h,x,hw,O,hl⟩:=c;have d:wt σ < 999000:=by omega
 have j:∀{c r},RB c σ r->c<=370->RB 370 σ r:=RB.mono;have B:RB 370 σ (hH false (k+5) 6 t σ):=j (Dj false (k+2) _ y h x d) (by omega);have V:RB 370 σ (_:pG Unit):=j (y9 (rec:=hH false (k+5)) (Dj false (k+2) _ y (h.mode 6 rfl) (λG=>x G) d)) (by omega);have N:=j (rW h.iv h.Xc) (by omega);have F:RB 370 σ (sT (hH false (k+5)) t σ):=j (LS h (λC A w' z=>Dj false (k+2) _ y A (λG=>z.trans (x G)) (by omega))) (by omega);have En:=λ{b} (hb:vR b)=>j (aaD hb h) (by omega);have I:=λ{pm} hq=>j ((FO h.iv pm hq t d).rb h.ne h.md) (by omega);have Z:∀{a b s gM},s.size<=100->m=7->RB 370 σ (o9 (hH false (k+5)) ⟨a,b,.ke s,gM⟩ σ):=λG e=>j (Ib (n:=k+1) h G d O (K e)) (by omega);have H3:∀{a b nm gM},nm=iR->σ.fresh=true->RB 370 σ (hH false (k+5) 3 ⟨a,b,.start nm,gM⟩ σ):=λe x=>j (T9 false (k+4) _ _ _ _ (.inr (.inr e)) h x d) (by omega);have I1:∀{a b nm gM H u},nm∈[iy,iA,ie]->σ.fresh=true->RB 370 σ (pJ (hH false (k+5)) H u 11 ⟨a,b,.start nm,gM⟩ σ):=λe x=>j (yR (c:=2) h d _ _ 11 rfl (λC A Y w' z=>adS (k+3) _ _ _ _ e A ⟨rfl,z.trans x⟩ (by omega))) (by omega);have I2:∀{a b nm gM H u},nm=iy\/nm=iA->σ.fresh=true->RB 370 σ (pJ (hH false (k+5)) H u 12 ⟨a,b,.start nm,gM⟩ σ):=λe x=>j (yR (c:=1) h d _ _ 12 rfl (λC A Y w' z=>TV (k+4) _ _ _ _ e A ⟨rfl,z.trans x⟩ (by omega))) (by omega);have I3:∀{a b nm gM H u},nm=iq->σ.fresh=true->RB 370 σ (pJ (hH false (k+5)) H u 10 ⟨a,b,.start nm,gM⟩ σ):=λe x=>j (yR (c:=1) h d _ _ 10 rfl (λC A Y w' z=>by
  rw[e,iI false (k+4) 10 _ (by simp) qW rfl (.ig 92) (by kernel_rfl)];exact us A (by omega) ⟨rfl,z.trans x⟩)) (by omega)
 obtain⟨a,b,kk,gM⟩:=t;simp only[uS,qC,rF]at X;rcases X with rfl|rfl|rfl|rfl|rfl|rfl|rfl|rfl|rfl|rfl
 all_goals cases kk
 all_goals first
  |exact absurd rfl y.nl
  |refine aa0 y.nl rfl rfl (by simp) ?_ ?_
  |refine Y5 y.nl rfl ?_
 all_goals generalize hH false (k+5)=rec at *
 all_goals try (unfold kg;dsimp only)
 all_goals try split
 all_goals try (simp only[List.forall_mem_cons,qC,false_implies,implies_true,and_true];and_intros)
 all_goals try intro D
 all_goals try have l:=x.tag rfl
 all_goals try exact N
 all_goals try exact B
 all_goals try refine U ?_
 all_goals try refine En ?_
 all_goals try refine Yr h (U ?_)
 all_goals try refine Yr h (En ?_)
 all_goals try exact h7 (by simp)
 all_goals try exact J rfl
 all_goals try exact F
 all_goals try exact Z y.sz rfl
 all_goals try exact I (Ar h.iv h.ne)
 all_goals try exact I (M6 h.iv)
 all_goals try exact I (aaM h.iv h.ne)
 all_goals try exact j (Bs h d y.sz) (by omega)
 all_goals try exact j (Gv h d y.sz) (by omega)
 all_goals try first
  |exact Sk
  |exact Na
  |exact Ew
  |exact Iw
  |exact X8
  |exact VF
  |exact Pl
 all_goals try exact I1 (Nq D) l.fr
 all_goals try exact I2 (aey D) l.fr
 all_goals try exact I3 (IP D) l.fr
 all_goals try exact j (Mv h d l _ _ rfl) (by omega)
 all_goals try exact H3 (IP D) l.fr
 .show RB 370 σ ((if wC _ then kM rec _ else stuck:M Unit) σ);rw[gF y.sm];unfold kM;split
  .exact j (RB.tail (us h d l)) (by omega)
  .exact RB.tail F
 .exact j (Bh h d l (IP D)) (by omega)
 .exact j (GC h d l) (by omega)
 .exact j (us h d l) (by omega)
 .exact j (ze h d l) (by omega)
 .exact j (Cz h d l) (by omega)
 .exact j (xE h d l) (by omega)
 .exact j (zf h d l) (by omega)
 .exact j (Aa h) (by omega)
 .exact j (yO h) (by omega)
 iterate 3 exact V
 .exact j (c:=0) ⟨h.iv.lX rfl rfl rfl rfl rfl rfl rfl,⟨h.ne,.inl rfl⟩,⟨rfl,rfl,rfl,rfl,lf _,λ_ h=> .inl h,λ_ _ h=>h⟩,nh (jl rfl)⟩ (by omega)
 all_goals exact V
def FI (h:p9 m=true):m=6\/m∈[7,9,10,11,12,13,14,15,16,17]:=by
 unfold p9 at h;simp at h|-;omega
def Hi:∀(L n:Nat),4*L+8<=n->PL L n
 |0,n,_=>by
  intro t σ c;exact absurd (List.length_eq_zero_iff.1 (by have:=c.hl;omega)) c.h.ne
 |L+1,n,hn=>by
  intro t σ c;obtain⟨k,rfl⟩:∃k,n=k+7:=⟨n - 7,by omega⟩;have d:PL L (k+5):=Hi L _ (by omega);have S:=λm l j=>Zr (m:=m) d c l j;rcases FI c.h.md with e|e
  .rw[e];exact(Dj false (k+4) t c.tg c.h c.hf (by have:=c.hw;omega)).mono (by omega)
  .refine Zr (Hi L (k+1+5) (by omega)) c e (λh=> .inl h) (λh=>S 7 (by simp) (λ_=> .inr h) (λh=>by cases h<;>contradiction) (λh=>by cases h)) (λ_=>S 14 (by simp) (λh=>by cases h) (λh=>by cases h<;>contradiction) (λh=>by cases h))
def HS (m:Nat) (o:kO) (e:jg):Prop:=
 (m<=1/\o=[]/\e=none)\/(m=2/\∃h,o=[some h])\/(m=3/\∃h d,o=[some h,some d]/\e=some d)\/(m=4/\∃h d,o=[some h]/\e=some d)\/(p9 m=true/\o≠[])
def B3 (σ:Ab):Prop:=(∃d,iV σ d gU)/\∃b,iV σ b gE
def BH (σ:Ab):Prop:=6<=σ.mode\/σ.mode=5/\6<=σ.kept->B3 σ
def B3.of {σ' : Ab} (h:B3 σ) (nm:∀i s,iV σ i s->iV σ' i s):B3 σ':=⟨h.1.imp λ_=>nm _ _,h.2.imp λ_=>nm _ _⟩
def BH.of {σ' : Ab} (h:BH σ) (e:σ'.mode=σ.mode) (d:σ'.kept=σ.kept) (nm:∀i s,iV σ i s->iV σ' i s):BH σ':=λq=>(h (by rw[<-e,<-d];exact q)).of nm
def BH.low (h:σ.mode<=4):BH σ:=λq=>by omega
def MS0 (σ:Ab):Prop:=HS σ.mode σ.gA σ.head\/(σ.mode=5/\3<=σ.kept/\2<=σ.gA.length/\HS σ.kept σ.gA.dropLast σ.head)\/(σ.mode=8/\(σ.kept=7\/σ.kept=11\/σ.kept=12)/\σ.gA≠[])
def MS (σ:Ab):Prop:=MS0 σ/\BH σ
def RG (c:Nat) (σ:Ab) (r:pG Unit):Prop:=match r with
 | .ok _ σ'=>mL σ'/\MS σ'/\Lm σ σ'/\wt σ'<=wt σ+c
 | .stop _ p=>p=σ.gQ
 | .stuck=>False
theorem RG.mono {c' : Nat} {r : pG Unit} (h:RG c σ r) (d:c<=c'):RG c' σ r:=by
 cases r with
 |ok a σ'=>grind[RG]
 |stop e p=>exact h
 |stuck=>exact h
def Di (h:p9 m=true):6<=m:=by have:=FI h;simp at this;omega
def BMs.ms (h:BMs σ) (u:B3 σ):MS σ:=by
 refine⟨?_,λ_=>u⟩;rcases h.sh with d|⟨d,j,l⟩|⟨d,j⟩
 .exact .inl (.inr (.inr (.inr (.inr ⟨d,h.ne⟩))))
 .refine .inr (.inl ⟨d,?_,l,.inr (.inr (.inr (.inr ⟨j,?_⟩)))⟩)
  .have:=Di j;omega
  .intro e;have:=sI List.length e;simp at this;omega
 .exact .inr (.inr ⟨d,j,h.ne⟩)
def RB.rg {r : pG Unit} (h:RB c σ r) (d:B3 σ):RG c σ r:=by
 cases r with
 |ok a σ'=>exact⟨h.1,h.2.1.ms (d.of h.2.2.1.nm),h.2.2.1,h.2.2.2⟩
 |stop e p=>exact h
 |stuck=>exact h
def jG.rg {r : pG Unit} {Q : Unit->Ab->Prop} (h:jG c σ r Q) (l:MS σ) (z:∀d,Q () d->d.gA=σ.gA):RG c σ r:=by
 cases r with
 |ok a d=>
  obtain⟨u,j,x,y⟩:=h;refine⟨u,⟨?_,l.2.of j.mode j.kept j.nm⟩,j.lm,x⟩;unfold MS0;rw[j.mode,j.kept,j.head,z d y];exact l.1
 |stop e p=>exact h
 |stuck=>exact h
def qV (h:mL σ) (d:MS σ):RG 0 σ ((Pure.pure ():M Unit) σ):=⟨h,d,lm0 σ,ij _⟩
def RG.tail {m:M Unit} (h:RG c σ (m σ)):RG c σ ((m>>=λ_=>(Pure.pure ():M Unit)) σ):=by
 rw[M.gy];revert h;cases m σ<;>exact λh=>h
def RG.from {c1 c2 : Nat} {σ1 : Ab} {r : pG Unit} (h:RG c1 σ1 r) (hl:Lm σ σ1) (C:σ1.waiting.length<=σ.waiting.length) (y:∀x∈σ1.waiting,x∈σ.waiting) (A:wt σ1<=wt σ+c2) (B:c1+c2<=c):RG c σ r:=by
 cases r with
 |ok a σ'=>
  obtain⟨j,l,d,z⟩:=h;exact⟨j,l,⟨d.gQ.trans hl.gQ,d.pQ.trans hl.pQ,d.qO.trans hl.qO,d.oZ.trans hl.oZ,by have:=d.wt;omega,λx u=>(d.wz x u).imp (y x) id,λi s q=>d.nm i s (hl.nm i s q)⟩,by omega⟩
 |stop e p=>exact BL h hl.gQ
 |stuck=>exact h
def KP (h:mL σ) (x:σ.gA≠[]) (t:gN) (C:σ.fresh=true) (y:MS σ):RG 0 σ (oH t σ):=by
 have B:∀(gM:kY) (i:Nat) (σ:Ab),∀d,qm i gM σ= .ok () d->d.gA=σ.gA:=by
  intro gM i
  induction gM with
  |nil=>intro σ d e;cases e;rfl
  |cons a r ih=>
   intro σ d e;rw[LX]at e;split at e
   .cases e
   .split at e
    .exact ih σ d e
    .split at e
     .cases e
     .have:=ih _ d e;exact this
 have l:=DB h x t C;cases hq:oH t σ with
 |ok u d=>
  rw[hq]at l;obtain⟨z,j,A,_⟩:=l;refine⟨z,⟨?_,y.2.of j.mode j.kept j.nm⟩,j.lm,A⟩;have D:d.gA=σ.gA:=by
   unfold oH at hq;split at hq
   .rename_i i hi;rw[M.gy]at hq;cases hg:wh i t σ with
    |ok u2 σ2=>
     rw[hg]at hq;cases hq;unfold wh at hg;split at hg
     .exact B _ _ _ _ hg
     .cases hg
    |stop c p=>rw[hg]at hq;cases hq
    |stuck=>rw[hg]at hq;cases hq
   .cases hq
  unfold MS0;rw[j.mode,j.kept,j.head,D];exact y.1
 |stop c p=>rw[hq]at l;exact l
 |stuck=>rw[hq]at l;exact l.elim
def Ns (n a b:Nat) (gM:kY) (h:mL σ) (d:σ.gA≠[]) (j:σ.fresh=true) (l:MS σ):RG 0 σ (hH false (n+1) 6 ⟨a,b,.start fY,gM⟩ σ):=by
 rw[iI false n 6 _ (by intro e;cases e) kD rfl (.ig 172) (by kernel_rfl)];exact KP h d _ j l
def ZC (hi:mL σ) (d:σ.gA≠[]) (j:σ.mode=6) (B:uT t) (y:Hh σ t) (A:wt σ < 998000) (e:σ.waiting.length < 4000) (z:4*64+8<=n) (x:370<=c) (u:B3 σ):RG c σ (hH false n 6 t σ):=by
 have hl:σ.gA.length<=64:=by obtain⟨r,l⟩:=hi;exact jN l.wT l.OB
 have h:=Hi 64 n z t σ ⟨B,⟨hi,d,by rw[j];rfl⟩,y,A,e,hl⟩;rw[j]at h;exact(h.rg u).mono x
def IV (h:mL σ) (y:σ.gA≠[]) (G:wt σ < 998000) (s:gz) (m:Nat) {rec:Nat->gN->M Unit} (C:∀d,mL d->Fx σ {d with mode:=σ.mode}->d.mode=m->wt d<=wt σ+1->d.fresh=σ.fresh->(∃j,iV d j s)->RG c d (rec m t d)):RG (c+1) σ ((km s>>=λ_=>jM m>>=λ_=>j1 rec t>>=λ_=>(Pure.pure ():M Unit)) σ):=by
 have A:=rV h y (by omega) s;rw[M.gy];revert A;cases km s σ with
 |ok u σ1=>
  rintro⟨D,l,z,j,q,F⟩;dsimp only;have B:=RG.tail (C {σ1 with mode:=m} (D.lX rfl rfl rfl rfl rfl rfl rfl) (by
   have e:({({σ1 with mode:=m}:Ab)with mode:=σ.mode}:Ab)=σ1:=by rw[<-l.mode]
   rw[e];exact l) rfl z F ⟨j,q.nm⟩)
  exact RG.from (c1:=c) (c2:=1) (σ1:={σ1 with mode:=m}) B ⟨l.gQ,l.pQ,l.qO,l.oZ,by show σ1.waiting.length<=_;rw[l.waiting];omega,by show∀x∈σ1.waiting,_;rw[l.waiting];exact λ_ h=> .inl h,l.nm⟩ (by show σ1.waiting.length<=_;rw[l.waiting];omega) (by show∀x∈σ1.waiting,_;rw[l.waiting];exact λ_ h=>h) z (ij _)
 |stop c p=>exact λh=>h
 |stuck=>exact λh=>h
def vY (h:mL σ) (l:M (Nat×Nat)) (j:∃e,l σ= .ok e σ/\Bd σ e) (t:gN) (u:wt σ < 999000) (d:MS σ):RG 1 σ (nW l t σ):=by
 have⟨a,b,k,gM⟩:=t;cases k with
 |gS s=>
  have⟨e,h1,h2⟩:=j;show RG 1 σ ((l>>=λe=>oP e (.cm s) .cm>>=λ_=>(Pure.pure ():M Unit)) σ);rw[M.gy,h1];dsimp only;exact RG.tail ((EY h h2 (.cm s) .cm (.inl ⟨s,rfl,rfl⟩) (by omega)).rg d (λ_ q=>q.gA))
 |ke s=>exact(qV h d).mono (by omega)
 |start s=>exact(qV h d).mono (by omega)
 |stop s=>exact(qV h d).mono (by omega)
 |iN s q=>exact(qV h d).mono (by omega)
 |lost=>exact(qV h d).mono (by omega)
 |io=>exact(qV h d).mono (by omega)
theorem G9 {R : List (List gz×Ru)} (d:sp.start=some R) (l:∀p∈R,p.2≠ .nil) (x:kC [sp.jU,sp.iE]=o) {gM : kY} (h:yn[m]?=some sp) (z:∀p∈R,ik p.1 nm=true->P (pu lk (hH true n) (hH lk n) p.2 ⟨a,b,.start nm,gM⟩ σ)) (j:P (pu lk (hH true n) (hH lk n) o ⟨a,b,.start nm,gM⟩ σ)):P (hH lk (n+1) m ⟨a,b,.start nm,gM⟩ σ):=by
 have e:kg sp ⟨a,b,.start nm,gM⟩=kC [((pg R nm).getD .nil),sp.jU,sp.iE]:=by
  show kC [DR sp.start nm,sp.jU,sp.iE]=_;rw[d];rfl
 cases hl:pg R nm with
 |none=>
  rw[iI lk n m _ (by simp) sp h o (by rw[e,hl,<-x];rfl)];exact j
 |some r=>
  obtain⟨p,y,A,rfl⟩:=vK hl;have u:=l p y;rw[iI lk n m _ (by simp) sp h p.2 (by
   rw[e,hl];simp[kC])]
  grind
theorem Oh {R : List (List gz×Ru)} (d:sp.stop=some R) (l:∀p∈R,p.2≠ .nil) (x:kC [sp.ku,sp.iE]=o) {gM : kY} (h:yn[m]?=some sp) (z:∀p∈R,ik p.1 nm=true->P (pu lk (hH true n) (hH lk n) p.2 ⟨a,b,.stop nm,gM⟩ σ)) (j:P (pu lk (hH true n) (hH lk n) o ⟨a,b,.stop nm,gM⟩ σ)):P (hH lk (n+1) m ⟨a,b,.stop nm,gM⟩ σ):=by
 have e:kg sp ⟨a,b,.stop nm,gM⟩=kC [((pg R nm).getD .nil),sp.ku,sp.iE]:=by
  show kC [DR sp.stop nm,sp.ku,sp.iE]=_;rw[d];rfl
 cases hl:pg R nm with
 |none=>
  rw[iI lk n m _ (by simp) sp h o (by rw[e,hl,<-x];rfl)];exact j
 |some r=>
  obtain⟨p,y,A,rfl⟩:=vK hl;have u:=l p y;rw[iI lk n m _ (by simp) sp h p.2 (by
   rw[e,hl];simp[kC])]
  grind
theorem BV {d : Ru} (l:kC [sp.blank,sp.ke,sp.iE]=d) (u:kC [sp.ke,sp.iE]=o) {gM : kY} (e:yn[m]?=some sp) (h:P (pu lk (hH true n) (hH lk n) d ⟨a,b,.ke s,gM⟩ σ)) (j:P (pu lk (hH true n) (hH lk n) o ⟨a,b,.ke s,gM⟩ σ)):P (hH lk (n+1) m ⟨a,b,.ke s,gM⟩ σ):=by
 cases hk:lR s with
 |true=>
  rw[iI lk n m _ (by simp) sp e d (by
   grind[kg])]
  exact h
 |false=>
  rw[iI lk n m _ (by simp) sp e o (by
   grind[kg])]
  exact j
def jy {r : Ru} (hl:t.k≠ .lost) (h:yn[m]?=some sp) (e:kg sp t=r) (d:P (pu lk (hH true n) (hH lk n) r t σ)):P (hH lk (n+1) m t σ):=by
 rw[iI lk n m t hl sp h r e];exact d
structure In4 (σ:Ab):Prop where
 iv:mL σ
 md:σ.mode=4
 sh:∃h d,σ.gA=[some h]/\σ.head=some d
def In4.ms (h:In4 σ):MS σ:=by
 obtain⟨x,d,e,j⟩:=h.sh;exact⟨.inl (.inr (.inr (.inr (.inl ⟨h.md,x,d,e,j⟩)))),BH.low (by have:=h.md;omega)⟩
theorem In4.ne (h:In4 σ):σ.gA≠[]:=by have⟨x,d,h1,_⟩:=h.sh;grind
def IQ (h:In4 σ) (K:uT t) (B:Hh σ t) (L:wt σ < 997000) (y:σ.waiting.length < 4000) (D:4*64+8<=n):RG 371 σ (nr (hH false n) t σ):=by
 unfold nr;refine IV (c:=370) h.iv h.ne (by omega) gE 6 ?_;intro j H u I w' J C;have z:B3 j:=by
  obtain⟨x,d,_,A⟩:=h.sh;obtain⟨r,F⟩:=h.iv;exact⟨⟨d,u.nm _ _ (F.head d A)⟩,C⟩
 have l:j.waiting.length < 4000:=by have:=u.waiting;have e:j.waiting=σ.waiting:=this;rw[e];exact y
 exact ZC H (u.ne h.ne) I K (λG=>J.trans (B G)) (by omega) l D (ij _) z
def Gc (hi:mL σ) (l:σ.gA≠[]) (y:nT σ t) (b:Bool) (C:wt σ < 998000):match od t b σ with
 | .ok _ σ'=>mL σ'/\Lm σ σ'/\wt σ'<=wt σ+1/\σ'.mode=5/\σ'.kept=σ.mode/\(∃j,σ'.gA=σ.gA++[some j]/\σ.nodes.length<=j)/\σ'.head=σ.head/\(∀i s,iV σ i s->iV σ' i s)
 | .stop _ p=>p=σ.gQ
 | .stuck=>False:=by
 have z:=jS hi l (by omega) t y.tag y.fr;have e:od t b σ=(jt t>>=λ_=>MR t.name b>>=λ_=>wG (λσ=>{σ with kept:=σ.mode})>>=λ_=>jM 5>>=λ_=>(Pure.pure ():M Unit)) σ:=rfl;rw[e,M.gy];revert z;cases jt t σ with
 |ok u σ1=>
  rintro⟨A,d,B,j,q⟩;exact⟨A.lX rfl rfl rfl rfl rfl rfl rfl,⟨d.gQ,d.pQ,d.qO,d.oZ,by show σ1.waiting.length<=_;rw[d.waiting];omega,by show∀x∈σ1.waiting,_;rw[d.waiting];exact λ_ h=> .inl h,d.nm⟩,B,rfl,d.mode,⟨j,q.gA,q.new⟩,d.head,d.nm⟩
 |stop c p=>exact λh=>h
 |stuck=>exact λh=>h
def Kv {gM : kY} (h:In4 σ) (a0:nm=jh\/nm=jp\/nm=iR) (hf:σ.fresh=true) (hw:wt σ < 997000):RG 2 σ (tA (hH false (n+1)) ⟨a,b,.start nm,gM⟩ σ):=by
 obtain⟨x,d,ho,hd⟩:=h.sh;obtain⟨r,hr⟩:=h.iv;have O:=hr.head d hd;obtain⟨ed,J,a2⟩:=id O;have a1:r x < r d:=hr.sY.hd d x hd (by rw[ho];rfl);unfold tA;rw[M.gy];have e1:pushHead σ=xi (some d) σ:=by unfold pushHead;rw[hd]
 rw[e1];unfold xi
 by_cases hl:σ.pQ<=σ.gA.length
 .rw[gF hl];exact rfl
 .rw[gR hl,gF (show σ.mF (some d)=true by show(σ.ib d).isSome=true;rw[J];rfl)];dsimp only;obtain⟨g1,B⟩:=hr.push J (by
   intro y hy;rw[ho]at hy;rw[List.mem_singleton.1 hy];exact a1) (by omega) (.inl h.ne)
  obtain⟨z,A⟩:∃z,z=({σ with gA:=σ.gA++[some d]}:Ab):=⟨_,rfl⟩;rw[<-A]at g1 B|-;have i1:mL z:=⟨r,g1⟩;have o1:z.gA=[some x,some d]:=by rw[A];show σ.gA++[some d]=_;rw[ho];rfl
  have Y:z.gA≠[]:=by rw[o1];simp
  have w1:wt z=wt σ:=by rw[A];rfl
  have N:z.fresh=true:=by rw[A];exact hf
  have G:z.mode=4:=B.mode.trans h.md;have F:z.head=some d:=B.head.trans hd;have xd:x≠d:=by rintro rfl;omega
  have ht:nT z ⟨a,b,.start nm,gM⟩:=⟨rfl,N⟩;have L:∀l,mL l->Lm z l->wt l<=wt z+1->l.head=some d->iV l d gU->MS {l with gA:=l.gA.erase (some d)}->RG 2 σ ((px>>=λ_=>(Pure.pure ():M Unit)) l):=by
   intro l i2 K w2 h2 n2 m2;have e2:px l=kq (some d) l:=by unfold px;rw[h2]
   have C:=Cf i2 n2 (by intro e;cases e);rw[M.gy,e2];have e3:kq (some d) l= .ok () {l with gA:=l.gA.erase (some d)}:=Ji (lV n2);rw[e3]at C|-;obtain⟨U,V,X,k6⟩:=C;refine⟨U,m2,⟨K.gQ.trans B.gQ,K.pQ.trans B.pQ,K.qO.trans B.qO,K.oZ.trans B.oZ,?_,by have:=K.wz;rw[B.waiting]at this;exact this,λi s q=>K.nm i s (B.nm i s q)⟩,?_⟩
   .show l.waiting.length<=_;have:=K.wt;rw[B.waiting]at this;exact this
   .show wt l<=_;omega
  have H:iV z d gU:=B.nm _ _ O;have D:([some x,some d]:kO).erase (some d)=[some x]:=by
   rw[List.erase_cons_tail (by simpa using xd),List.erase_cons_head]
  have I:∀Z,RG 2 σ (((od ⟨a,b,.start nm,gM⟩ Z>>=λ_=>(Pure.pure ():M Unit))>>=λ_=>px>>=λ_=>(Pure.pure ():M Unit)) z):=by
   intro Z;have k:=Gc i1 Y ht Z (by omega);rw[M.gy,M.gy];revert k;cases od ⟨a,b,.start nm,gM⟩ Z z with
   |ok u l=>
    rintro⟨k1,C,U,V,X,⟨j,k6,k7⟩,k8,k9⟩;refine L l k1 C U (k8.trans F) (k9 _ _ H) ?_;have hj:j≠d:=by
     have:=Ab.il J;have e4:z.nodes.length=σ.nodes.length:=by rw[A]
     omega
    have he:l.gA.erase (some d)=[some x,some j]:=by
     rw[k6,o1];show([some x,some d,some j]:kO).erase (some d)=_;rw[List.erase_cons_tail (by simpa using xd),List.erase_cons_head]
    refine⟨.inr (.inl ⟨V,?_,?_,?_⟩),λq=>?_⟩
    .show 3<=l.kept;rw[X,G];omega
    .show 2<=(l.gA.erase (some d)).length;rw[he];simp
    .show HS l.kept (l.gA.erase (some d)).dropLast l.head;rw[he,X,G,k8,F];exact .inr (.inr (.inr (.inl ⟨rfl,x,d,rfl,rfl⟩)))
    .have q:6<=l.mode\/l.mode=5/\6<=l.kept:=q;rw[V,X,G]at q;omega
   |stop c p=>exact λh=>BL h B.gQ
   |stuck=>exact λh=>h
  rcases a0 with rfl|rfl|rfl
  .rw[iI false n 3 _ (by intro e;cases e) lE rfl (.ig 92) (by kernel_rfl)];have k:=qq i1 Y (by omega) ⟨a,b,.start jh,gM⟩ rfl N;show RG 2 σ ((lw ⟨a,b,.start jh,gM⟩>>=λ_=>px>>=λ_=>(Pure.pure ():M Unit)) z);rw[M.gy];revert k;cases lw ⟨a,b,.start jh,gM⟩ z with
   |ok u l=>
    rintro⟨k1,C,U,V,X⟩;refine L l k1 C.lm U (C.head.trans F) (C.nm _ _ H) ?_;refine⟨.inl (.inr (.inr (.inr (.inl ⟨C.mode.trans G,x,d,?_,C.head.trans F⟩)))),BH.low (by show l.mode<=4;have:=C.mode;omega)⟩;show l.gA.erase (some d)=_;rw[V,o1];exact D
   |stop c p=>exact λh=>BL h B.gQ
   |stuck=>exact λh=>h
  .rw[iI false n 3 _ (by intro e;cases e) lE rfl (.ig 93) (by kernel_rfl)];exact I false
  .rw[iI false n 3 _ (by intro e;cases e) lE rfl (.ig 94) (by kernel_rfl)];exact I true
def UA (K:4*64+8<=n) (t:gN) (l:uT t) (h:In4 σ) (z:Hh σ t) (H:wt σ < 997000) (G:σ.waiting.length < 4000):RG 372 σ (hH false (n+1) 4 t σ):=by
 obtain⟨k,rfl⟩:∃k,n=k+1:=⟨n - 1,by omega⟩;have C:∀t,uT t->Hh σ t->RG 372 σ (nr (hH false (k+1)) t σ):=λt l z=>(IQ h l z H G K).mono (by omega);have F:RG 372 σ ((Pure.pure ():M Unit) σ):=(qV h.iv h.ms).mono (by omega);obtain⟨a,b,U,gM⟩:=t;cases U with
 |lost=>exact absurd rfl l.nl
 |ke s=>
  refine BV (sp:=mn) (P:=RG 372 σ) rfl rfl rfl ?_ ?_
  .exact RG.mono (c:=s.size+1) ((oI h.iv h.ne _ (by have:=l.sz;have e:gN.chars ⟨a,b,.ke s,gM⟩=s:=rfl;rw[e]at this|-;omega)).rg h.ms (λ_ q=>q.gA)) (by have:=l.sz;have e:gN.chars ⟨a,b,.ke s,gM⟩=s:=rfl;rw[e]at this;omega)
  .exact C _ l z
 |gS s=>
  refine jy l.nl (sp:=mn) (P:=RG 372 σ) rfl rfl ?_;show RG 372 σ (xW 87 true _ σ);rw[yH];exact RG.mono (c:=1) (vY h.iv mV (Ar h.iv h.ne) _ (by omega) h.ms) (by omega)
 |iN s q=>exact jy l.nl (sp:=mn) (P:=RG 372 σ) rfl rfl F
 |io=>exact jy l.nl (sp:=mn) (P:=RG 372 σ) rfl rfl (C _ l z)
 |start nm=>
  have D:nT σ ⟨a,b,.start nm,gM⟩:=z.tag rfl;refine G9 (sp:=mn) (P:=RG 372 σ) rfl (by simp) rfl rfl ?_ ?_
  .intro p A B;simp only[uS,qC,rF]at A;rcases A with rfl|rfl|rfl|rfl
   all_goals dsimp only at B|-
   .exact(Kv h (by have:=Nq B;simp at this;exact this) D.fr H).mono (by omega)
   .have e:=IP B;subst e;show RG 372 σ (tZ _ σ);unfold tZ;have O:=jS h.iv h.ne (by omega) ⟨a,b,.start gE,gM⟩ D.tag D.fr;rw[M.gy];revert O;cases jt ⟨a,b,.start gE,gM⟩ σ with
    |ok u σ1=>
     rintro⟨N,y,V,j,q⟩;have I:B3 σ1:=by
      obtain⟨x,d,_,J⟩:=h.sh;obtain⟨r,L⟩:=h.iv;exact⟨⟨d,y.nm _ _ (L.head d J)⟩,j,q.nm⟩
     exact⟨N.lX rfl rfl rfl rfl rfl rfl rfl,⟨.inl (.inr (.inr (.inr (.inr ⟨rfl,y.ne h.ne⟩)))),λ_=>I⟩,⟨y.gQ,y.pQ,y.qO,y.oZ,y.lm.wt,y.lm.wz,y.nm⟩,jN V (by omega)⟩
    |stop c p=>exact λh=>h
    |stuck=>exact λh=>h
   .have e:=IP B;subst e;exact(Ns k a b gM h.iv h.ne D.fr h.ms).mono (by omega)
   .exact F
  .exact C _ l z
 |stop nm=>
  refine Oh (sp:=mn) (P:=RG 372 σ) rfl (by simp) rfl rfl ?_ ?_
  .intro p A B;simp only[uS,qC,rF]at A;subst A;exact C _ l z
  .exact F
end
end Go.Proofs.YtofkkmcdggkkpaaGreatDoor
