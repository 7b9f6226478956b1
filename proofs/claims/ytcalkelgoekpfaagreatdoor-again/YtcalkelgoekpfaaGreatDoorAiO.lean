import Derived.Test.YtcalkelgoekpfaaGreatDoorRvC
set_option linter.unusedSimpArgs false
set_option linter.unusedVariables false
set_option linter.defProp false
set_option linter.unusedSectionVars false
set_option maxHeartbeats 0
set_option maxRecDepth 100000
namespace Go.Proofs.YtcalkelgoekpfaaGreatDoor
open Go.RowKit Go.PlainAid Go.Extern.Stop Go.Stop Go.Extern Tryz
open Value renaming int→dv,ownBlock→dl,slice→cV,string→dQ
open Lib renaming byteCells→en,cell_of_heap→ni,countFrom→dL,index→dp,replace→gK,replaceAll→eB,replaceK→fu,replaceK_hit→l8,replaceNum→hU,run_unsafeSliceData_row→s0,trimSuffix→dM
open _root_.ByteArray renaming data_extract→hQ,empty→nw,mk→eL,size→kw,size_extract→ev
open Go.ByteArray renaming toList_eq→eC
open And renaming intro→cG,left→mr
open Result renaming andThen→da
open Oper renaming semAt_some→db
open Nat renaming lt_succ_self→mw,ne_of_lt→ss,zero_add→nl
open Instr renaming enterLoop→sg,typeAssert→dH
open Below renaming heap_alloc→dc
open ReflectliteType renaming abiMethod→je,assignableTo→la,elem→na,implements_→nc,method→mR,relation→gr,toType→mK,typeOf→mz
open ReflectliteValue renaming elem→im,flagAddr→ij,isNil→ix,method→gv,methodAny→mA,mk→so,parts→gd,set→lq,unpack→ie,valueError→ga
open Option renaming some→H,none→F,isSome_iff_exists→dh,map_eq_some_iff→eM
open Bool renaming true→C,false→I
open List renaming length→ln,all_eq_true→dm,any_eq_true→fT,append_eq_nil_iff→fL,contains_eq_mem→sc,drop_drop→mb,drop_eq_nil_of_le→np,drop_zero→ml,exists_cons_of_ne_nil→se,flatMap_map→tc,getElem_of_mem→rS,isPrefixOf→eO,length_drop→ma,map_congr_left→kS,mem_append→dA,mem_cons→bZ,mem_flatMap→gn,mem_map→dW,mem_map_of_mem→sf,mem_singleton→cC,nodup_append→kz,range→et,take_append_drop→fA
open _root_.Array renaming size→zq,ext'→l9,getElem?_eq_some_iff→dD
open Go renaming undef→qu
def RK:=@List.nodup_nil
def RL:=@Nat.le_mul_of_pos_left
def GP:=@List.flatMap_cons
def GQ:=@List.flatMap_nil
def RM:=@List.foldl_append
def AP:=@World.frozen?_alloc_old
def GR:=@cell_of_one
def RN:=@cV.inj
section
variable {A Co:List O}{B a b base bx cap d f g i l lg n o:Nat}{L:List It}{R:RC}{S:List Nat}{W w P:J}{assign body:Code}{c:io}{e:TypeId}{fin U:N}{look:O->Option O}{nm s x:O}{aI:Obj}{r:Nat->Nat}{v:dB}{vv:dB×Bool}{xs:List dB}
abbrev sp0:kR:={blank:=.eW,dz:=.dz 93 I,eG:=.dX 94,l:=.dX 95}
section
variable [VT]{φ h n:Nat}{L:List O}{U Q:N}{t:dj}
def C7{m:Nat}(j:U.g=m)(q:m<=4)(s:EH m L)(u:Ci U)(y:Nb (Lq m) h L Q)(f:Fm U Q):NW Q:=.inl (Db (by rw[f.q.2.1,j];exact y) (f.off u) (by rw[f.q.2.1,j];exact q) (by rw[f.q.2.1,j];exact s))
def Fk{σ1:N}(j:Hr n t)(u:NI σ1)(q:Cn σ1 t):Ps (jg (dx I n) t) σ1 λ_=>NW:=j n (dF _) σ1 u q
theorem al4(a0:Nb 0 h [] U)(u:Ci U)(K:U.g=0)(f:TO t)(T:Hr n t):PR n t U (eI sp0 t):=by
 have z:∀{j:N},Nb 1 h [] j->j.g=1->Ci j->NI j:=λa b c=>Db (by rw[b];exact a) c (by omega) (.inl ⟨by omega,D⟩);have B:PR n t U (.dX 95):=by refine Ps.bind (Q:=λ_ j=>j={U with W:=C}) (Ps.oc D) λ_ j e=>Ps.bind (Q:=λ_ q=>q={U with W:=C,g:=1}) (by subst e;exact Ps.oc D) λ_ q e2=>?_;subst e2;exact Ps.bind (Fk T (z (a0.up.q D D a0.B D a0.E) D u) ⟨by simp,by grind⟩) λ_ _ h=>Ps.pure h
 refine oh f (λ_=>B) (λ_=>B) (λ_ _ s _=>⟨λ_=>Ps.pure ((λa b=>C7 K (by decide) (.inl ⟨by decide,D⟩) u a b) a0 (Fm.refl _)),B⟩) (λ_ _ _=>Ps.mono (acR a0) λ_ _ ⟨a,b⟩=>(λa b=>C7 K (by decide) (.inl ⟨by decide,D⟩) u a b) a b) (λ_=>?_) (λ_ _=>B);show Ps (kF t) U _;unfold kF;split;obtain⟨d,E,_⟩:=a0.A;refine Ps.bind (Q:=λP Q=>P=(0,ln d.q)/\Q=U) (Ps.ok (wh E) ⟨D,D⟩) λP Q ⟨e1,e2⟩=>?_;subst e1 e2;refine Ps.bind (aml a0 E) λ_ q ⟨y,f2⟩=>Ps.ok D (.inl (z (y.q D D y.B D y.E) D (f2.off u)));exact Ps.ok D (.inl (z (a0.up.q D D a0.B D a0.E) D u))
theorem al5(Q:Nb 1 h [] U)(u:Ci U)(y:U.g=1)(K:TO t)(E:Hr n t):PR n t U (eI mN t):=by
 have T:PR n t U .eW:=Ps.pure ((λa b=>C7 y (by decide) (.inl ⟨by decide,D⟩) u a b) Q (Fm.refl _));have c:∀own bY,Ps _ U λ_ j=>NI j/\Cn j t:=λown bY=>Ps.mono (ahA Q own bY) λ_ j ⟨P,z,T,aI,f,a,e⟩=>by subst e;exact⟨Db z u (by simp) (.inr (.inl ⟨.inl D,D⟩)),by simp,by grind⟩
 have B:PR n t U (.dX 98):=by exact Ps.bind (c _ _) λ_ j ⟨a,b⟩=>Ps.bind (Fk E a b) λ_ _ h=>Ps.pure h
 exact oh K (λ_=>jv (eU (λq=>(Ps.bind (c _ _) λ_ _ ⟨a,_⟩=>Ps.pure (.inl a))) oO) λ_=>B) (λ_=>jv (eU (λq=>B) oO) λ_=>T) (λ_ _ s _=>⟨λ_=>T,B⟩) (λ_ _ _=>Ps.mono (acR Q) λ_ _ ⟨a,b⟩=>(λa b=>C7 y (by decide) (.inl ⟨by decide,D⟩) u a b) a b) (λ_=>T) (λ_ _=>B)
theorem al7(T:Nb 2 h [aC] U)(j:Ci U)(E:U.g=2)(P:TO t)(y:Hr n t):PR n t U (eI jH t):=by
 have u:∀{Q},Nb 2 h _ Q->Fm U Q->NW Q:=λa b=>C7 E (by decide) (.inr (.inl ⟨.inl D,D⟩)) j a b;have d:PR n t U .eW:=Ps.pure (u T (Fm.refl _));have B:PR n t U (.dX 102):=by exact Ps.bind (Y8 T j _ _) λ_ c ⟨a,b⟩=>Ps.bind (Fk y a ⟨by omega,by grind⟩) λ_ _ h=>Ps.pure h
 exact oh P (λz=>jv (eU (λq=>(Ps.bind (Y8 T j _ _) λ_ _ ⟨a,_⟩=>Ps.pure (.inl a))) <|eU (λq=>Ps.mono (vD T z (oz q) n) λ_ _ ⟨a,b⟩=>u a b) oO) λ_=>B) (λ_=>jv (eU (λq=>B) oO) λ_=>d) (λ_ _ s _=>⟨λ_=>d,B⟩) (λ_ _ _=>Ps.mono (V5 T j.1 λp K=>by cases K;decide+kernel) λ_ _ ⟨a,b⟩=>u a b) (λ_=>d) (λ_ _=>B)
theorem al8(a1:Nb 4 h [aC,aZ] U)(y:Ci U)(c:U.g=3)(k:TO t)(f:Hr n t):PR n t U (eI gI t):=by
 have E:∀{Q},Nb 4 h _ Q->Fm U Q->NW Q:=λa b=>C7 c (by decide) (.inr (.inr (.inl ⟨D,D⟩))) y a b;have a2:PR n t U .eW:=Ps.pure (E a1 (Fm.refl _));have a0:Ps A5 U λ_ u=>NI u/\u.g=4:=Ps.ok D ⟨Db (h:=h) ((Nb.drop (L:=[aC]) a1).q D D a1.B D a1.E) y (by simp) (.inr (.inl ⟨.inr D,D⟩)),D⟩;have B:(∀x,t.k=.start x->cZ _ x=I)->PR n t U (.dX 108):=λd=>by exact Ps.bind a0 λ_ u ⟨a,b⟩=>Ps.bind (Fk f a ⟨by omega,λ_=>d⟩) λ_ _ h=>Ps.pure h
 by_cases z:t.k=.start t.name/\cZ [dy,bO,aN] t.name=C;exact Yu z.1 z.2 (λ_=>Ps.mono (Yw a1 y.1 z.2) λ_ _ ⟨a,b,_⟩=>E a b) λq pl P=>Ps.mono (Yv a1 y.1 z.2 pl P) λ_ u ⟨a,⟨b,g,b1,b2⟩,_,_,_,_,_,_,e⟩=> .inl (YY (a:=[aC,aZ]) ⟨_,g,C5 b,b1,b2⟩ a (by rw[e]) (.inl (by grind)) (by rw[e];exact y) q (by rw[e];rw[c];exact .inr (.inr (.inl ⟨D,D⟩))));refine oh k (λK=>?_) (λK=>?_) (λ_ q s z=>⟨λhb=>?_,B λx e=>absurd e (q x)⟩) (λ_ _ _=>Ps.mono (V5 a1 y.1 λp T=>by cases T;decide+kernel) λ_ _ ⟨a,b⟩=>E a b) (λ_=>a2) (λ_ K=>B λx e=>by grind);have i:cZ [dy,bO,aN] t.name=I:=by grind
 have j:=mH.1 i;simp at j;exact jv (eU (λq=>absurd (oz q) j.2.2) <|eU (λq=>absurd (oz q) j.2.1) <|eU (λq=>absurd (oz q) j.1) <|eU (λq=>Ps.mono (vD a1 K (oz q) n) λ_ _ ⟨a,b⟩=>E a b) <|eU (λq=>a2) oO) λ_=>B λx e=>by grind
 exact jv (eU (λq=>(B λx e=>by grind)) <|eU (λq=>(Ps.mono a0 λ_ _ h=> .inl h.1)) oO) λ_=>a2;have d:t.d=s:=by unfold dj.d;rw[z]
 exact Ps.mono (acM (t:=t) a1 y.1 (λp T=>by grind) (by grind)) λ_ _ ⟨a,b⟩=>E a b
theorem al9(a0:Nb 4 h [aC] U)(y:Ci U)(f:U.g=4)(l:TO t)(hd:cZ [dy,bO,aN] t.name=C->t.k=.start t.name->∀d,U.head=H d->fa U d aZ)(k:Hr n t):PR n t U (eI kD t):=by
 have K:∀{Q},Nb 4 h _ Q->Fm U Q->NW Q:=λa b=>C7 f (by decide) (.inr (.inl ⟨.inr D,D⟩)) y a b;have a1:PR n t U .eW:=Ps.pure (K a0 (Fm.refl _));have i:∀{u:N},Nb 6 h _ u->u.g=6->Ci u->NI u:=λa b c=>nj a c ⟨[],D,D⟩ (.inl (by rw[b];decide+kernel));have B:PR n t U (.dX 111):=by
  refine Ps.bind (Q:=λ_ u=>Nb 6 h [(aC),(aO)] u/\Fm U u) (Ps.bind (Q:=λj Q=>j=ln U.d/\Q=U.il _ U.E) (Ps.ok D ⟨D,D⟩) λj Q ⟨e1,e2⟩=>by subst e1 e2;exact Ps.bind (Gg a0 y.1 (.inr ⟨D,D,D⟩)) λ_ _ h=>Ps.pure h) λ_ u ⟨z,P⟩=>(Ps.bind (Q:=λ_ E=>E={u with g:=6}) (Ps.oc D) λ_ E e=>?_)
  subst e;exact Ps.bind (Fk k (i (z.q D D z.B D z.E) D (P.off y)) (Cn.of (by simp))) λ_ _ h=>Ps.pure h
 refine oh l (λT=>jv (eU (λq=>(agp a0 y f T q (hd q T))) <|eU (λq=>?_) <|eU (λq=>Ps.mono (vD a0 T (oz q) n) λ_ _ ⟨a,b⟩=>K a b) <|eU (λq=>a1) oO) λ_=>B) (λ_=>jv (eU (λq=>B) oO) λ_=>a1) (λ_ _ s aI=>⟨λhb=>?_,B⟩) (λ_ _ _=>Ps.mono (V5 a0 y.1 λp g=>by cases g;decide+kernel) λ_ _ ⟨a,b⟩=>K a b) (λ_=>a1) (λ_ _=>B);refine Ps.bind (Q:=λ_ u=>Nb 6 h [(aC),(aO)] u/\Fm U u) (Ps.bind (Q:=λj Q=>j=ln U.d/\Q=U.il (.el ⟨t.name,t.h,F,[]⟩) I) (λj Q e=>by
  grind[jN]) λj Q ⟨e1,e2⟩=>by
  subst e1 e2;rw[(oz q)];exact Ps.bind (Gg a0 y.1 (.inr ⟨D,D,D⟩)) λ_ _ h=>Ps.pure h) λ_ u ⟨z,P⟩=>?_
 exact Ps.ok D (.inl (i (z.q D D z.B D z.E) D (P.off y)));have m:t.d=s:=by unfold dj.d;rw[aI]
 exact Ps.mono (acM a0 y.1 (λp g=>by grind) (by grind)) λ_ _ ⟨a,b⟩=>K a b
omit [VT] in
def NI.any{v d:VT}(T:∀n s,v.A n s->d.A n s)(P:v.E->d.E)(Q:@NI v U):@NI d U:=by obtain⟨h,L,a0,b,q⟩:=Q;refine⟨h,L,a0,b,?_⟩;rcases q with⟨a,⟨c,e,j,u,y,z⟩,r⟩|q;exact .inl ⟨a,⟨c,e,j,u,λt s E K=>T _ s (y t s E K),z.imp id P⟩,r⟩;exact .inr q
@[reducible] def vT:VT:=⟨λ_ _=>True,True⟩
theorem afo(j:TO t):∀n U,@NI vT U->(U.g=5->∀s,t.k=.fI s->Na s/\(∀x,U.gV (λy=>fG y x)=C->VT.A x s/\Y2 x s)/\∀c e G K,U.last=H c->U.h c=H e->Nd.tx G∈e.q->U.d[G]?=H (.tx K)->VT.A e.name (K++s)/\Y2 e.name (K++s))->(U.g=5->(∀s,t.k≠ .fI s)\/∃c e,U.last=H c/\U.h c=H e/\(U.a=e.name/\(e.name=aN->U.S=C)\/VT.E))->(U.g=4->cZ [dy,bO,aN] t.name=C->t.k=.start t.name->∀d,U.head=H d->fa U d aZ)->Ps (dx I n U.g t) U λ_=>NW:=by
 intro n
 induction n using Nat.strongRecOn with
 |_ n ih=>
  intro U V S i R;cases n with
  |zero=>exact Ps.stuck D
  |succ n=>
   have E:Hr n t:=λk hk a1 a b=>ih k (by omega) a1 (a.any (λ_ _ _=>trivial) λ_=>trivial) (λe=>absurd e b.1) (λe=>absurd e b.1) λe q1 Z=>by have:=b.2 e _ Z;grind
   obtain⟨h,L,a3,u,q⟩:=V;rcases q with⟨P,⟨J,e5,A,l2,_,_⟩,k3,w,aI,o,x,rfl,v,s⟩|⟨B,aI,s,r⟩|⟨n5,n8,s⟩
   .have:em U=U.kept:=dw (.inl P);rw[this]at a3;rw[P,jx (a:=yp) D D j.A];rcases i P with F|i
    case inl=>exact ZB a3 u P k3 w aI v s j (λy Q=>absurd Q (F y)) (λy Q=>absurd Q (F y)) E
    refine ZB a3 u P k3 w aI v s j (λy Q=>?_) (λ_ _=>i) E;obtain⟨M,f,O⟩:=S P y Q;have f:=f x ?_;refine⟨M,f.1,f.2,O⟩;obtain⟨z,W,a2⟩:=a3.last A;unfold N.gV;rw[A];have:U.nm J=z.name:=by unfold N.nm;rw[W]
    grind[jM]
   have:em U=U.kept:=dw (.inr B);have g:Lq (em U)=6:=by rw[this];unfold Lq;rw[di (by omega),di (by omega),di (by omega)]
   rw[g]at a3;rw[B,jx (a:=iy) D D j.A];grind[aim];have a0:em U=U.g:=di (by omega);rw[a0]at a3;rcases s with⟨X,rfl⟩|⟨Y,rfl⟩|⟨p,rfl⟩|⟨m6,s,m⟩;rcases Nat.eq_or_lt_of_le X with m|m;rw[m]at a3;rw[m,jx (a:=mN) D D j.A];exact al5 a3 u m j E;have m:U.g=0:=by omega
   rw[m]at a3;rw[m,jx (a:=sp0) D D j.A];exact al4 a3 u m j E;rcases Y with m|m;rw[m]at a3;rw[m,jx (a:=jH) D D j.A];exact al7 a3 u m j E;rw[m]at a3;rw[m,jx (a:=kD) D D j.A];exact al9 a3 u m j (R m) E;rw[p]at a3;rw[p,jx (a:=gI) D D j.A];exact al8 a3 u p j E;have g:Lq U.g=6:=by unfold Lq;rw[di (by omega),di (by omega),di (by omega)]
   rw[g]at a3;rcases m with⟨m,r⟩|m;obtain⟨a,b⟩:=aai a3 s u m r j E;rcases m with m|m;rw[m,jx (a:=oD) D D j.A];exact a m;rw[m,jx (a:=kE 93 I) D D j.A];exact b m;have T:Tm h L U:=⟨a3,s,u,m⟩;have l:=Zj L;rw[<-m]at l;simp only[nQ,nR,od]at l;rcases l with e|e|e|e|e|e|e;grind[Ps.mono,Jg,Yi];rw[e,jx (a:=rV) D D j.A];grind[UT];rw[e,jx (a:=oE) D D j.A];grind[VX];rw[e,jx (a:=nL) D D j.A];grind[agE];rw[e,jx (a:=sS) D D j.A];grind[akL];rw[e,jx (a:=Fb) D D j.A];grind[akI];rw[e,jx (a:=tX) D D j.A];grind[agx]
end
def nn(l:List UInt8):List UInt8:=l.flatMap λc=>if c=0 then [239,191,189]else [c]
theorem V6{l:List UInt8}(h:(0:UInt8)∉l):nn l=l:=by
 induction l with
 |nil=>rfl
 |cons c l ih=>
  show(if c=0 then _ else [c])++nn l=_;grind
def aku(a b:List UInt8):nn (a++b)=nn a++nn b:=by simp[nn]
theorem alW:∀s:List UInt8,(dp s [0]= -1/\(0:UInt8)∉s)\/∃a b,s=a++0::b/\(0:UInt8)∉a/\dp s [0]=(ln a:Int)
 |[]=> .inl ⟨D,by simp⟩
 |c::s=>by
  let e:dp (c::s) [0]=if [0].isPrefixOf (c::s)then 0 else if dp s [0]== -1 then -1 else dp s [0]+1:=rfl
  by_cases u:c=0;subst u;exact .inr ⟨[],s,D,by simp,by rfl⟩
  .let z:[0].isPrefixOf (c::s)=I:=by grind
   rcases alW s with⟨j,q⟩|⟨a,b,j,q,y⟩
   all_goals grind
theorem Ze:∀(f:Nat)(s:List UInt8),ln s<f->fu [0] [239,191,189] (dL [0] f s) s=nn s
 |0,s,h=>by omega
 |f+1,s,h=>by
  rcases alW s with⟨j,q⟩|⟨a,b,j,q,u⟩;rw[dL,j];exact(V6 q).symm;rw[dL,di (λe=>by grind),Nat.add_comm,l8 _ _ _ _ (ln a) u,u]
  let y:s.drop (ln a+1)=b:=by rw[j];simp
  let z:s.take (ln a)=a:=by rw[j];simp
  show s.take (ln a)++_++fu _ _ (dL [0] f (s.drop (ln a+1))) (s.drop (ln a+1))=_;rw[y,z,Ze f b (by grind),j,aku,V6 q];simp[nn]
theorem uE(s:O):(jG s).data.toList=nn s.data.toList:=by show(eB _ [0] [239,191,189])=_;unfold eB gK;have:hU _ [0] (-1)=dL [0] (ln s.data.toList+1) _:=rfl;grind[Ze]
theorem WY{l:List UInt8}{x:UInt8}(h:x∈nn l):x∈l/\x≠0\/x=239\/x=191\/x=189:=by grind[nn]
theorem V7(l:List UInt8):(0:UInt8)∉nn l:=λh=>by
 rcases WY h with⟨_,h⟩|h|h|h
 all_goals grind
theorem ae1{q:Int->Bool}:∀j,i<=j->j<gZ q s i->q (bt s j)=I:=by
 fun_induction gZ q s i with
 |case1 i h hq=>grind
 |case2 i h hq ih=>
  grind
 |case3 i h=>grind
theorem ahO{x:UInt8}(h:x∈(s.extract a b).data.toList):∃j,a<=j/\j<b/\j<s.size/\bt s j=(x.toNat:Int):=by
 let ⟨k,hk,hx⟩:=rS h
 simp at hk hx
 let u:ln s.data.toList=s.size:=rfl
 let q:a+k<ln s.data.toList:=by omega
 have:=PJ q;rw[show bs s.data.toList=s from D]at this;grind
theorem LO{S:List UInt8}{x:UInt8}(h:x∈(s.extract a (gZ (fw (bs S)) s a)).data.toList):S.contains x=I:=by grind[ahO,ae1,uB]
theorem abu{x:UInt8}(h:x∈(small s).data.toList):∃c∈s.data.toList,x=tt c:=by
 unfold small at h;simp at h
 let ⟨c,h1,h2⟩:=h
 exact⟨c,by grind,h2.symm⟩
theorem akm(c:UInt8):¬(65<=(tt c).toNat/\(tt c).toNat<=90):=by grind[UInt8.toNat_add,tt]
theorem WW{S:List UInt8}(j:∀x∈S,¬(97<=x.toNat/\x.toNat<=122)){c:UInt8}(h:S.contains c=I):S.contains (tt c)=I:=by grind[UInt8.toNat_add,tt]
theorem C9{S:List UInt8}(y:∀x∈S,¬(97<=x.toNat/\x.toNat<=122))(u:S.contains 239=I/\S.contains 191=I/\S.contains 189=I)(z:∀x∈s.data.toList,S.contains x=I):∀x∈(jG (small s)).data.toList,S.contains x=I/\¬(65<=x.toNat/\x.toNat<=90)/\x≠0:=by intro x j;rw[uE]at j;rcases WY j with⟨h,q⟩|h|h|h;grind[abu,WW,akm];rw[h];grind;rw[h];grind;rw[h];grind
def Ou{a:UInt8}{l:List UInt8}(h:s.data.toList=a::l):∃r,(jG (small s)).data.toList=(if tt a=0 then [239,191,189]else [tt a])++nn r/\r=l.map tt:=by
 let e:(small s).data.toList=s.data.toList.map tt:=by unfold small;rw[Array.toList_map];rfl
 refine⟨l.map tt,?_,D⟩;rw[uE,e,h];rfl
theorem LN(h:a<b)(j:a<s.size):∃l,(s.extract a b).data.toList=s[a]::l/\l=(s.extract (a+1) b).data.toList:=by
 refine⟨_,?_,D⟩
 let e:∀x,(s.extract x b).data.toList=(s.data.toList.drop x).take (b-x):=λx=>by grind[hQ,Array.toList_extract]
 rw[e,e,xu _,show b-a=(b-(a+1))+1 by omega];rfl
theorem NL(h:a<s.size):bt s a=(s[a].toNat:Int):=by rw[(PJ (by simpa using h)),Ce,qM _];rfl
theorem aiW(h:sO R o=C):tr (xn R o).data.toList:=by
 unfold sO at h;simp only[fq,zC]at h
 let ⟨hp,hl⟩:=h
 let u:=NL (s:=R.A) hp
 let K:o+1<=vw R o:=by
  unfold vw;rw[E7 hp ?_];exact rI
  .rw[u,uB];cases hq:[32,9,10,12,47,62].contains R.A[o]with
   |false=>rfl
   |true=>
    simp only[sc,zC,nQ,nR,od]at hq;rcases hq with g|g|g|g|g|g<;>(rw[u,g]at hl;simp at hl)
 let j:=C9 (S:=[32,9,10,12,47,62]) (by decide) (by decide) (s:=R.A.extract o (vw R o)) λx E=>LO E
 let ⟨l,e1,_⟩:=LN (s:=R.A) (a:=o) (b:=vw R o) (by omega) hp
 let ⟨r,e2,_⟩:=Ou e1
 let z:(xn R o).data.toList=(if tt R.A[o]=0 then [239,191,189]else [tt R.A[o]])++nn r:=e2
 refine⟨?_,λc q=>(j c q).1,λc q=>(j c q).2.1,λq=>(j 0 q).2.2 D⟩
 let y:97<=(tt R.A[o]).toNat/\(tt R.A[o]).toNat<=122:=by rw[u]at hl;unfold tt;split;grind[UInt8.toNat_add];omega
 rw[z,di λe=>by rw[e]at y;simp at y];grind
theorem alV{A:Nat->O×O}(i:Nat)(h:jZ A n s i=I):∀j,i<=j->j<n->(A j).1≠s:=by
 fun_induction jZ A n s i with
 |case1 i hi he=>cases h
 |case2 i hi he ih=>
  grind
 |case3 i hi=>grind
theorem aka{q:List O}(h:IZ q s=I):s∉q:=λu=>by
 let ⟨j,hj,e⟩:=rS u
 refine alV 0 h j (eZ _) hj ?_;show q.getD j _=s;grind
theorem xl(s:O)(a:Nat):s.extract a s.size=bs (s.data.toList.drop a):=by
 let e:(s.extract a s.size).data.toList=(s.data.toList.drop a).take (s.size-a):=by simp
 apply rW;apply l9;rw[e,zA (ma▸dF _)]
def Ct(L:iB):Prop:=(∀a∈L,ZX a.1.data.toList/\(0:UInt8)∉a.2.data.toList)/\(L.map (·.1)).Nodup
section
variable {R:RC}{look:O->Option O}{lg o:Nat}
theorem VN(P:o<R.A.size)(z:[32,9,10,12,47,62].contains R.A[o]=I):ZX (sF R o).data.toList:=by
 let g:=rR (R:=R) (K:=o)
 let ⟨l,e1,el⟩:=LN (s:=R.A) (a:=o) (b:=fU R o) g P
 let ⟨r,e2,er⟩:=Ou e1
 let K:(sF R o).data.toList=(if tt R.A[o]=0 then [239,191,189]else [tt R.A[o]])++nn r:=e2
 let u:=C9 (S:=[32,9,10,12,47,62]) (by decide) (by decide) (s:=R.A.extract o (fU R o)) λx q=>by rw[e1]at q;rcases bZ.1 q with rfl|q;exact z;rw[el]at q;have:[32,9,10,12,47,62,61].contains x=I:=LO q;grind
 refine⟨?_,λc j=>(u c j).2.1,λj=>(u 0 j).2.2 D⟩
 let y:∀c∈nn r,[32,9,10,12,47,62,61].contains c=I:=λc j=>by
  rcases WY j with⟨h,_⟩|h|h|h;rw[er]at h;obtain⟨d,E,rfl⟩:=dW.1 h;rw[el]at E;exact WW (by decide) (LO E)
  all_goals rw[h];decide
 rw[K];split
 .exact⟨239,[191,189]++nn r,D,by decide,λc j=>by
   rcases dA.1 j with j|j
   .simp at j;rcases j with rfl|rfl<;>decide
   grind⟩
 exact⟨tt R.A[o],nn r,D,WW (by decide) z,y⟩
theorem ak3(a:Nat):(0:UInt8)∉(nk look lg R a).data.toList:=by grind[uE,V7,nk]
theorem amy:∀(n:Nat){L:iB} {o m:Nat} {z:iB},R.A.size-o<=n->gQ R look lg L o=.whole m z->Ct L->Ct z:=by
 intro n
 induction n with
 |zero=>
  grind[pc,gQ]
 |succ n ih=>
  intro L o m z i y K
  let d:=pc (R:=R) (K:=o)
  rw[gQ]at y;split at y;rename_i u;split at y;grind;rename_i P;split at y;cases y
  let f:=rR (R:=R) (K:=dY R o)
  let h:=vL (R:=R) (K:=fU R (dY R o))
  refine ih (by omega) y ?_
  let h1:[32,9,10,12,47,62].contains R.A[dY R o]=I:=by
   let E:=Zo (q:=λc=>!fw ⟨#[32,9,10,12,47]⟩ c) (s:=R.A) (i:=o) u
   let E:(!fw (bs [32,9,10,12,47]) (bt R.A (dY R o)))=C:=E
   let j:fw (bs [32,9,10,12,47]) (bt R.A (dY R o))=I:=by simpa using E
   rw[NL u,uB]at j
   let U:R.A[dY R o]≠62:=λe=>P (by rw[xl,show eV=bs [62]from D,tU,xu (by simpa using u)];show((62:UInt8)==R.A[dY R o]&&C)=C;rw[e];rfl)
   simp only[sc,decide_eq_false_iff_not,nQ,nR,od,not_or]at j|-;exact⟨j.1,j.2.1,j.2.2.1,j.2.2.2.1,j.2.2.2.2,U⟩
  unfold oI qP;split;exact K;rename_i T
  let T:=aka (by simpa using T)
  refine⟨λa Q=>?_,?_⟩;rcases dA.1 Q with g|g;exact K.1 a g;grind[VN,ak3];rw[sy];exact kz.2 ⟨K.2,by simp,λa Q b hb=>by grind⟩;cases y
end
def pB(p:List UInt8):Prop:=p≠[]/\∀x∈p,x≠239/\x≠191/\x≠189
theorem QH:∀{p l:List UInt8},(∀x∈p,x≠239/\x≠191/\x≠189)->p.isPrefixOf (nn l)=C->p.isPrefixOf l=C
 |[],l,_,_=>rfl
 |a::p,[],h,e=>by cases e
 |a::p,c::l,h,e=>by
  let e:(a::p).isPrefixOf ((if c=0 then [239,191,189]else [c])++nn l)=C:=e
  split at e;grind
  let e:(a==c&&p.isPrefixOf _)=C:=e
  rw[fq]at e;show(a==c&&p.isPrefixOf l)=C;rw[e.1,QH (λx j=>h x (gS _ j)) e.2];rfl
theorem aiX{p:List UInt8}(q:pB p):∀{l:List UInt8} {k:Nat},p.isPrefixOf ((nn l).drop k)=C->∃j,j<ln l/\p.isPrefixOf (l.drop j)=C
 |[],k,e=>by obtain⟨a,r,rfl⟩:=se q.1;grind[nn]
 |c::l,0,e=>⟨0,by simp,QH q.2 e⟩
 |c::l,k+1,e=>by
  let u:∀{E},p.isPrefixOf ((nn l).drop E)=C->∃j,j<ln (c::l)/\p.isPrefixOf ((c::l).drop j)=C:=λy=>by
   let ⟨j,h1,h2⟩:=aiX q y
   exact⟨j+1,by simp;omega,h2⟩
  let z:nn (c::l)=(if c=0 then [239,191,189]else [c])++nn l:=rfl
  rw[z]at e;obtain⟨a,r,rfl⟩:=se q.1;have K:=q.2 a (js ..);split at e
  match k,e with
  |0,e=>
   grind
  |1,e=>
   grind
  |k+2,e=>grind
  grind
def cN(t:List UInt8):Prop:=∀j,j<ln t->[45,45,62].isPrefixOf (t.drop j)=I/\[45,45,33,62].isPrefixOf (t.drop j)=I
theorem Sw:∀{d:List UInt8},d≠[]->[45,45,62].isPrefixOf (d++[45,45,62])=[45,45,62].isPrefixOf d/\[45,45,33,62].isPrefixOf (d++[45,45,62])=[45,45,33,62].isPrefixOf d
 |[],h=>absurd D h
 |[a],_=>by grind
 |[a,b],_=>by grind
 |[a,b,c],_=>by grind
 |a::b::c::d::r,_=>by grind
theorem aiE{t:List UInt8}(h:cN t)(E:t.head?≠H 62)(K:[45,62].isPrefixOf t=I):vO (nn t):=by
 let q:∀(p:List UInt8),pB p->(∀j,j<ln t->p.isPrefixOf (t.drop j)=I)->∀k,p.isPrefixOf ((nn t).drop k)=I:=λp P z k=>by grind[aiX]
 refine⟨λj u=>?_,⟨λe=>?_,?_⟩,V7 t⟩
 let y:(nn t).drop j≠[]:=λe=>by grind[List.drop_eq_nil_iff]
 rw[(Sw y).1,(Sw y).2];exact⟨q _ (by grind[pB]) (λj u=>(h j u).1) j,q _ (by grind[pB]) (λj u=>(h j u).2) j⟩
 .have:[62].isPrefixOf (nn t)=C:=by
   cases z:nn t with
   |nil=>grind
   |cons a r=>grind
  have:=QH (p:=[62]) (by decide) this;cases t<;>grind
 grind[QH]
theorem J4{t:List UInt8}(h:(62:UInt8)∉t):vO (nn t):=by
 let no:∀(p:List _),(62)∈p->∀j,p.isPrefixOf (t.drop j)=I:=λp q j=>by grind
 refine aiE (λj _=>⟨by grind,by grind⟩) (λe=>h ?_) (no _ (by decide) 0);cases t<;>grind
theorem AD(s:O)(a b:Nat):(s.extract a b).data.toList=(s.data.toList.drop a).take (b-a):=by simp[List.extract_eq_take_drop]
def npA(R:RC)(j:Nat):Prop:=pre (R.A.extract j R.A.size) e1=I/\pre (R.A.extract j R.A.size) e2=I
theorem Xa(h:∀j,a<=j->j<i->npA R j):cN (R.A.extract a i).data.toList:=λk q=>by
 rw[AD]at q|-
 let ⟨h1,h2⟩:=h (a+k) (by omega) (by simp at q;omega)
 rw[xl,show e1=bs [45,45,62]from D,tU]at h1;rw[xl,show e2=bs [45,45,33,62]from D,tU]at h2;grind[List.drop_take,mb]
theorem adF(s:O):∃u,s.data.toList=(wu s).data.toList++u:=by
 let j:∀x,∃u,s.data.toList=dM s.data.toList x++u:=λx=>by unfold dM;split;grind[fA];exact⟨[],by simp⟩
 unfold wu;split;exact j _;split;exact j _;split;exact j _;exact⟨[],by simp⟩
theorem acY(y:a<=i)(h:∀j,a<=j->j<i->npA R j):∃u,cN ((kK R a i).data.toList++u)/\∃v,R.A.data.toList.drop a=(kK R a i).data.toList++v:=by
 fun_induction kK R a i with
 |case1 i hi h1=>grind[Xa,AD,fA]
 |case2 i hi h1 h2=>grind[Xa,AD,fA]
 |case3 i hi h1 h2 ih=>
  refine ih (by omega) λj z E=>?_;rcases qp j i with q|q;grind;exact⟨by grind,by grind⟩
 |case4 i hi=>
  let ⟨u,hu⟩:=adF (R.A.extract a R.A.size)
  grind[Xa,xl]
theorem alG:vO (jG (jY R o)).data.toList:=by
 rw[uE];unfold jY;split;grind[J4]
 .rename_i q;split;grind[J4]
  .rename_i y
   let ⟨u,hu,v,hv⟩:=acY (R:=R) (dF o) λj P Q=>by omega
   rw[xl,tU,hv]at q;rw[xl,tU,hv]at y
   let z:∀p:List UInt8,p.isPrefixOf (kK R o o).data.toList=C->p.isPrefixOf ((kK R o o).data.toList++v)=C:=λp K=>by grind
   refine aiE (λj E=>by
     let ⟨a,b⟩:=hu j (by grind)
     grind) (λe=>q (z [62] ?_)) ?_
   .cases hq:(kK R o o).data.toList<;>grind
   grind
theorem Qu:vO (jG (R.A.extract o (gZ (fw eV) R.A o))).data.toList:=by rw[uE];refine J4 λh=>?_;have:=LO h;grind
def EL(s:O):Prop:=s≠⟨#[]⟩/\(kN s=I->(0:UInt8)∉s.data.toList)
theorem aiZ(c:UInt8):EL (bs [c]):=by refine⟨λe=>?_,λh=>?_⟩;grind;intro j;rw[((cC.1 j).symm)]at h;exact absurd h (by decide+kernel)
theorem alN(n:Int)(E:n≠0):EL (Utf8.encode n):=by
 let q:∀x:Nat,128<=x->x<256->UInt8.ofNat x≠0:=λx y z e=>by have:=mf UInt8.toNat e;grind[UInt8.toNat_ofNat']
 have u:(if Utf8.valid n=C then n.toNat else Utf8.runeError)≠0/\(if Utf8.valid n=C then n.toNat else Utf8.runeError)<1114112:=by split;rename_i h;unfold Utf8.valid at h;grind;unfold Utf8.runeError;decide
 unfold Utf8.encode;dsimp only;generalize (if Utf8.valid n=C then n.toNat else Utf8.runeError)=k at u
 let j:∀(a:UInt8)(l:List UInt8),(⟨(a::l).toArray⟩:O)≠⟨#[]⟩:=λa l e=>by grind
 split;grind[aiZ];split;refine⟨j _ _,λ_ h=>?_⟩;grind;split;refine⟨j _ _,λ_ h=>?_⟩;grind;refine⟨j _ _,λ_ h=>?_⟩;grind
theorem ajO(n:Int):NS n≠0:=by
 unfold NS
 repeat' split
 all_goals grind
def anc:KV.all (λp=>!p.2.data.toList.isEmpty&&!p.2.data.toList.contains 0)=C:=by kernel_rfl
theorem akl:∀x t,fh KV x=H t->EL t:=by
 intro x t h;obtain⟨p,j,rfl⟩:=eM.1 h;have:=dm.1 anc p (List.mem_of_find?_eq_some j);refine⟨λe=>?_,λ_ h=>?_⟩
 all_goals grind
theorem amh(h:rD s≠0):EL (rE s):=by grind[alN,ajO,rD,rE,M8]
theorem aiU{a:Bool}:∀{k:Nat},pu (fh KV) s a k≠0->EL (pZ (fh KV) s a k)
 |0,h=>absurd D h
 |k+1,h=>by unfold pu at h;unfold pZ;split;grind[dh,akl];rename_i g;rw[di g]at h;exact aiU h
theorem acO(q:0<s.size):EL (nu (fh KV) lg s):=by
 unfold nu;split
 let ⟨l,e,_⟩:=LN (s:=s) (a:=0) (b:=1) (by decide) q
 let e2:(s.extract 0 1).data.toList=[s[0]]:=by
  rw[AD]at e|-;have:(s.data.toList.drop 0).take (1-0)=s.data.toList.take 1:=rfl;rw[this]at e|-
  let j:ln (s.data.toList.take 1)<=1:=by simp;omega
  rw[e]at j|-;have:l=[]:=by cases l with
   |nil=>rfl
   |cons _ _=>simp at j
  rw[this]
 have:s.extract 0 1=bs [s[0]]:=rW (l9 e2);grind[aiZ];grind[aiU,amh,jc,kU]
def IE:DK->Prop
 | .DD s=>EL s
 | .Q4 nm L=>tr nm.data.toList/\Ct L
 | .fin nm L=>tr nm.data.toList/\Ct L
 | .Sy s=>vO s.data.toList
 | .dtp nm _=>Vw nm.data.toList
 |_=>True
def Nx:zG->Prop
 | .tok k _=>IE k
 | .stop=>True
section
variable {R:RC}{lg bg o:Nat}
def afk{j:O->iB->DK}{nm:O}{a:Nat}(q:∀L,Ct L->IE (j nm L)):Nx (qT R j nm (gQ R (fh KV) lg [] a)):=by
 cases h:gQ R _ lg [] a with
 |stop=>trivial
 |ic=>trivial
 |whole m L=>exact q L (amy _ (dF _) h ⟨nofun,RK⟩)
theorem PO(j:bg<R.A.size):Nx (mZ R (fh KV) lg bg):=acO (by grind[ev])
theorem akj(z:bg<R.A.size):Nx (j7 R (fh KV) lg bg o):=by
 unfold j7;split;rename_i h;exact afk λL u=>⟨aiW h,u⟩;split;unfold jr;split;rename_i h;exact afk λL u=>⟨aiW h,u⟩;split;trivial;split;grind[PO];exact Qu
 repeat' split
 exact alG
 let j:=C9 (by decide) (by decide) (s:=R.A.extract (ua R (o+8)) (D6 R (o+8))) λx y=>LO y
 exact⟨λc q=>(j c q).1,λc q=>(j c q).2.1,λq=>(j 0 q).2.2 D⟩;exact Qu;exact Qu;grind[PO]
theorem amf{s:O}(h:s≠⟨#[]⟩):jG s≠⟨#[]⟩/\(0:UInt8)∉(jG s).data.toList:=by
 refine⟨λe=>?_,by grind[uE,V7]⟩;have:=mf (λb=>b.data.toList) e;rw[uE]at this;cases hq:s.data.toList with
 |nil=>exact h (rW (l9 hq))
 |cons a l=>
  rw[hq]at this;have:(if a=0 then [239,191,189]else [a])++nn l=[]:=this;grind
theorem V9(q:bg<R.A.size):∃s m,mO R (fh KV) lg bg=.tok (.DD s) m/\s≠⟨#[]⟩/\(0:UInt8)∉s.data.toList:=by
 unfold mO;split;refine⟨_,_,D,amf λe=>?_⟩;have:=mf kw e;rw[ev]at this
 let j:(⟨#[]⟩:O).size=0:=rfl
 omega;exact⟨_,_,D,amf (acO (by grind[ev])).1⟩
theorem aej(z:o<=R.A.size):Nx (eA R (fh KV) lg o):=by
 unfold eA;split;trivial;rename_i h
 let y:(pJ R o).A=R.A:=rfl
 let u:o<(pJ R o).A.size:=by rw[y];omega
 split;grind[PO,akj];obtain⟨s,m,e,j,q⟩:=V9 u;rw[e];exact⟨j,λ_=>q⟩
end
theorem IE.to{k:DK}(h:IE k)(j:(iX a b k).k≠ .ic):TO (iX a b k):=by
 cases k with
 |DD s=>exact⟨j,λn e=>(by rcases e with e|e<;>cases e),λy e u=>by cases e;exact⟨h.1,h.2 u⟩⟩
 |Q4 nm L=>exact⟨j,λn e=>(by
   rcases e with e|e<;>cases e
   let ⟨x,l,q,_⟩:=h.1.ex
   grind),λs e=>(by cases e)⟩
 |fin nm L=>exact⟨j,λn e=>(by
   rcases e with e|e<;>cases e
   let ⟨x,l,q,_⟩:=h.1.ex
   grind),λs e=>(by cases e)⟩
 |Sy s=>exact⟨j,λn e=>(by rcases e with e|e<;>cases e),λs e=>(by cases e)⟩
 |dtp nm q=>exact⟨j,λn e=>(by rcases e with e|e<;>cases e),λs e=>(by cases e)⟩
 |Mw=>exact⟨j,λn e=>(by rcases e with e|e<;>cases e),λs e=>(by cases e)⟩
 |ic=>exact absurd D j
abbrev pv:List UInt8:=[115,116,121,108,101]
theorem N4{X:List UInt8}(j:List UInt8)(h:oQ pv X=C):oQ pv (X++j)=C:=by grind[oQ]
theorem SX{b:UInt8}{q:List UInt8}:∀{A:List UInt8},(b=239\/b=60/\A≠[])->oQ pv (A++b::q)=C->oQ pv A=C
 |[],j,h=>by rcases j with rfl|⟨_,j⟩;grind[oQ];grind
 |[a0],j,h=>by rcases j with rfl|⟨rfl,_⟩<;>simp[oQ,eO]at h
 |[a0,a1],j,h=>by rcases j with rfl|⟨rfl,_⟩<;>(simp[oQ,eO]at h;exact absurd h.1.2.1 (by decide))
 |[a0,a1,a2],j,h=>by rcases j with rfl|⟨rfl,_⟩<;>(simp[oQ,eO]at h;exact absurd h.1.2.2.1 (by decide))
 |[a0,a1,a2,a3],j,h=>by rcases j with rfl|⟨rfl,_⟩<;>(simp[oQ,eO]at h;exact absurd h.1.2.2.2.1 (by decide))
 |[a0,a1,a2,a3,a4],j,h=>by rcases j with rfl|⟨rfl,_⟩<;>(simp[oQ,eO]at h;exact absurd h.1.2.2.2.2.1 (by decide))
 |[a0,a1,a2,a3,a4,a5],j,h=>by rcases j with rfl|⟨rfl,_⟩<;>(simp[oQ,eO]at h;exact absurd h.1.2.2.2.2.2 (by decide))
 |[a0,a1,a2,a3,a4,a5,a6],j,h=>by rcases j with rfl|⟨rfl,_⟩<;>simp[oQ,eO]at h
 |a0::a1::a2::a3::a4::a5::a6::a7::A,j,h=>by simp[oQ,eO]at h|-;exact h
def Gs(R:RC)(a:Nat)(x:List UInt8):Prop:=∀k,k<ln x->oQ pv (x.drop k++R.A.data.toList.drop a)=I
theorem Gs.st(h:Gs R o x.data.toList):akQ x:=λk j=>by
 cases hq:oQ pv _ with
 |false=>rfl
 |true=>have:=h k j;grind[N4]
theorem Gs.step{c:UInt8}{x P:List UInt8}(K:R.A.data.toList.drop o=c::P)(z:R.A.data.toList.drop (o+1)=P)(E:oQ pv (c::P)=I)(h:Gs R o x):Gs R (o+1) (x++nn [c]):=λk q=>by
 rw[z];by_cases y:c=0
 let e:nn [c]=[239,191,189]:=by rw[y];rfl
 rw[e]at q|-;cases hq:oQ pv ((x++[239,191,189]).drop k++P)with
 |false=>rfl
 |true=>
  exfalso;by_cases j:k<ln x;rw[List.drop_append_of_le_length (by omega),oX]at hq;have:=SX (A:=x.drop k) (b:=239) (.inl D) hq
  let g:=h k j
  grind[N4];have:((x++[239,191,189]).drop k)=[239,191,189].drop (k-(ln x)):=by rw[List.drop_append,Fw (by omega)];rfl
  rw[this]at hq
  let u:k-(ln x)<3:=by simp at q;omega
  match hj:k-(ln x),u with
  |0,_=>rw[hj]at hq;simp[oQ,eO]at hq
  |1,_=>rw[hj]at hq;simp[oQ,eO]at hq
  |2,_=>rw[hj]at hq;simp[oQ,eO]at hq
 rw[(V6 (by grind))]at q|-;by_cases j:k<ln x
 let g:=h k j
 grind;grind
@[reducible] def vI(R:RC)(a:Nat):VT:=⟨λnm s=>nm=aN->Gs R a s.data.toList,a=R.A.size⟩
section
variable {U Q:N}
theorem NI.re{v d:VT}(h:@NI v U)(e1:Q.d=U.d)(e2:Q.A=U.A)(a:Q.B=U.B)(u:Q.j=U.j)(y:Q.L=U.L)(z:Q.g=U.g)(E:Q.kept=U.kept)(K:Q.U=U.U)(P:Q.P=I)(b:U.g=5->(∀n s,v.A n s->d.A n s)/\((∃c e,U.last=H c/\U.h c=H e/\Q.a=e.name/\(e.name=aN->Q.S=C))\/d.E)):@NI d Q:=by
 let ⟨h,L,He,hf,q⟩:=h
 let j:em Q=em U:=by unfold em;rw[z,E]
 let T:Q.last=U.last:=by unfold N.last;rw[e2]
 refine⟨h,L,by rw[j];exact He.q e1 e2 (by grind[Nb.B]) u (y▸He.E),⟨K.trans hf.1,P⟩,?_⟩;grind[Hi]
variable {R:RC}{cut:Nat->Nat}{o m:Nat}{k:DK}
theorem PZ(h:o<R.A.size):R.A.data.toList.drop o=R.A[o]::R.A.data.toList.drop (o+1):=xu _
theorem SC(j:o<=R.A.size):R.A=bs (R.A.data.toList.take o++R.A.data.toList.drop o)/\(ln (R.A.data.toList.take o))=o:=by refine⟨by simp,?_⟩;have:ln R.A.data.toList=R.A.size:=rfl;grind
theorem Yp{nm:List UInt8}{pl:Bool}(P:nm=[116,105,116,108,101]\/nm=pv)(i:o<R.A.size)(c:wm (QR R (bs nm) pl) (bs nm) o=C)(q:eA (QR R (bs nm) pl) (fh KV) 8 o=.tok k m):(∃x L,k=.fin x L)\/k=.ic/\m=R.A.size:=by
 let ⟨c1,c2⟩:=SC (R:=R) (o:=o) (by omega)
 let u:oQ nm (R.A.data.toList.drop o)=C:=by rw[<-Jj (R:=QR R (bs nm) pl) (A:=R.A.data.toList.take o) c1,c2];exact c
 let K:¬o=(QR R (bs nm) pl).A.size:=by show ¬o=R.A.size;omega
 let y:pJ (QR R (bs nm) pl) o=QR R ⟨#[]⟩ pl:=by unfold pJ;rw[dw (show wm (QR R (bs nm) pl) (QR R (bs nm) pl).a o=C from c)];rfl
 let ⟨X,hX⟩:∃X,R.A.data.toList.drop o=60::47::X:=by
  unfold oQ at u;simp only[fq]at u;have:=u.1.1.1;rw[List.isPrefixOf_iff_prefix]at this
  let ⟨X,hX⟩:=this
  grind
 rw[hX]at u;unfold eA at q;rw[di K,y]at q
 let h1:pre ((QR R (bs nm) pl).A.extract o (QR R (bs nm) pl).A.size) oY=C:=by show pre (R.A.extract o R.A.size) (bs [60])=C;rw[xl,tU,hX];rfl
 rw[dw (by show(iJ.toList==[])=C;grind[eC]),dw h1]at q
 let Q:R.A.data.toList.drop (o+1)=47::X:=by rw[<-mb,hX];rfl
 let T:R.A.data.toList.drop (o+2)=X:=by rw[<-mb,hX];rfl
 let lt:∀{j:Nat} {x:UInt8} {a0:List UInt8},R.A.data.toList.drop j=x::a0->j<R.A.size/\bt R.A j=(x.toNat:Int):=λ{j x a0} U=>by
  let d:j<ln R.A.data.toList:=by rcases qp j (ln R.A.data.toList) with g|g;exact g;grind[List.drop_of_length_le]
  let z:j<R.A.size:=d
  refine⟨z,?_⟩;rw[xu d]at U;injection U with a _;rw[NL z,<-a];rfl
 let e:sO (QR R ⟨#[]⟩ pl) (o+1)=I:=by
  let ⟨_,b⟩:=lt Q
  show(decide (o+1<R.A.size)&&decide (97<=bt R.A (o+1)/\bt R.A (o+1)<=122\/65<=bt R.A (o+1)/\bt R.A (o+1)<=90))=I;rw[b];simp
 let h:pre ((QR R ⟨#[]⟩ pl).A.extract (o+1) (QR R ⟨#[]⟩ pl).A.size) ⟨#[47]⟩=C:=by show pre (R.A.extract (o+1) R.A.size) (bs [47])=C;rw[xl,tU,Q];rfl
 let ⟨x,a0,hXY,hx⟩:∃x a0,X=x::a0/\(97<=(tt x).toNat/\(tt x).toNat<=122):=by
  unfold oQ at u;simp only[fq,List.drop_succ_cons,ml]at u
  let E:=uT u.1.2
  cases X with
  |nil=>grind
  |cons x a0=>
   refine⟨x,a0,D,?_⟩;rcases P with rfl|rfl;have:tt x=116:=by simp at E;exact E.1
   rw[this];decide;have:tt x=115:=by simp at E;exact E.1
   rw[this];decide
 let f:sO (QR R ⟨#[]⟩ pl) (o+1+1)=C:=by
  rw[hXY]at T
  let ⟨a,b⟩:=lt T
  show(decide (o+2<R.A.size)&&decide (97<=bt R.A (o+2)/\bt R.A (o+2)<=122\/65<=bt R.A (o+2)/\bt R.A (o+2)<=90))=C;rw[b,fq];refine⟨sx a,sx ?_⟩;unfold tt at hx;split at hx;omega;omega
 unfold j7 at q;rw[di (by rw[e];simp),dw h]at q;unfold jr at q;rw[dw f]at q;cases y:gQ (QR R ⟨#[]⟩ pl) (fh KV) 8 [] (vw (QR R ⟨#[]⟩ pl) (o+1+1))with
 |stop=>rw[y]at q;cases q
 |ic=>rw[y]at q;cases q;exact .inr ⟨D,D⟩
 |whole m' L=>rw[y]at q;cases q<;>grind
end
section
variable {R:RC}{cut:Nat->Nat}{o m:Nat}{k:DK}{U Q:N}
theorem YC(j:@NI (vI R o) U)(u:U.g=5):∃c e nm,U.last=H c/\U.h c=H e/\e.name=bs nm/\(nm=[116,105,116,108,101]\/nm=pv)/\(∀t s,Nd.tx t∈e.q->U.d[t]?=H (.tx s)->e.name=aN->Gs R o s.data.toList)/\(U.a=e.name/\(e.name=aN->U.S=C)\/o=R.A.size):=by
 let ⟨h,L,He,hf,q⟩:=j
 grind[Nb.last,dV]
theorem U5{nm:List UInt8}{pl:Bool}(u:nm≠[])(y:o<R.A.size)(q:wm (QR R (bs nm) pl) (bs nm) o=I):eA (QR R (bs nm) pl) (fh KV) 8 o=mO (QR R (bs nm) pl) (fh KV) 8 o/\qK (QR R (bs nm) pl) o=QR R (bs nm) pl/\oQ nm (R.A.data.toList.drop o)=I:=by
 let ⟨c1,c2⟩:=SC (R:=R) (o:=o) (by omega)
 let j:oQ nm (R.A.data.toList.drop o)=I:=by rw[<-Jj c1,c2];exact q
 have:=EN (R:=QR R _ pl) (o:=fh KV) (lg:=8) D u c1 (by grind[PZ]) j;grind
theorem SZ(q:o=R.A.size){j:O}{pl:Bool}:eA (QR R j pl) (fh KV) 8 o=.tok .Mw o:=by grind[eA,QR]
theorem ah5(i:@NI (vI R o) U)(g:kV U)(hp:o<=R.A.size)(h:eA (QR R U.a U.S) (fh KV) 8 o=.tok k m):Ps (nW (dx I sL) (iX (cut o) (cut m) k)) (pD R U o (iX (cut o) (cut m) k)) λ_ Q=>@NW (vI R m) Q:=by
 let hq:IE k:=by have:=aej (R:=QR R U.a U.S) (lg:=8) hp;rw[h]at this;exact this
 let hb:U.P=I:=by let ⟨_,_,_,hf,_⟩:=i;exact hf.2
 by_cases hl:(iX (cut o) (cut m) k).k=.ic;cases k with
 |ic=>
  refine Ps.pure (.inl (i.re (Q:=pD R U o _) D D D D D D D D hb λP=>?_))
  let ⟨c,e,nm,T,f,K,l,A,z⟩:=YC i P
  let M:m=R.A.size:=by
   rcases qp o R.A.size with u|a2;rcases z with⟨z,_⟩|z;rw[z,K]at h;cases he:wm (QR R (bs nm) U.S) (bs nm) o with
   |true=>
    grind[Yp]
   |false=>
    have:=U5 (pl:=U.S) (by grind) u he
    let ⟨s,m',e2,_⟩:=V9 (R:=QR R (bs nm) U.S) (lg:=8) (bg:=o) u
    grind
   omega;grind[SZ]
  refine⟨λn s J G=>?_,.inr M⟩
  let J:Gs R o s.data.toList:=J G
  intro k hk;have:R.A.data.toList.drop m=[]:=Fw (by rw[M];exact dF _);rw[this,yy];exact J.st k hk
 |_=>cases hl
 .let Y:=hq.to hl
  intro a Z L;rw[Rk (W:=pD R U o (iX (cut o) (cut m) k)) hb hl]at L;have a1:@NI vT (fV (pD R U o (iX (cut o) (cut m) k)) (iX (cut o) (cut m) k)):=i.re D D D D D D D D D λ_=>⟨λ_ _ _=>trivial,.inr trivial⟩;have Co:U.g=5->∀s,(iX (cut o) (cut m) k).k=.fI s->∃c e nm,U.last=H c/\U.h c=H e/\e.name=bs nm/\(nm=[116,105,116,108,101]\/nm=pv)/\(pD R U o (iX (cut o) (cut m) k)).a=e.name/\(e.name=aN->U.S=C)/\Na s/\(e.name=aN->Gs R m s.data.toList/\∀t y,Nd.tx t∈e.q->U.d[t]?=H (.tx y)->Gs R m (y++s).data.toList):=λP s aI=>by
   obtain⟨c,e,nm,T,f,K,l,A,z⟩:=YC i P;have hk:k= .DD s:=by cases k<;>cases aI;rfl
   subst hk;rcases qp o R.A.size with u|a2;rcases z with⟨z,B⟩|z;refine⟨c,e,nm,T,f,K,l,?_⟩;have a7:=h;rw[z,K]at h;cases he:wm (QR R (bs nm) U.S) (bs nm) o with
   |true=>
    grind[Yp]
   |false=>
    obtain⟨n1,n2,O⟩:=U5 (pl:=U.S) (by grind) u he;obtain⟨s',m',e2,z1,z2⟩:=V9 (R:=QR R (bs nm) U.S) (lg:=8) (bg:=o) u;rw[n1]at h;rw[e2]at h;cases h;refine⟨?_,B,⟨z1,z2⟩,λj=>?_⟩;show(qK (QR R U.a U.S) o).a=_;rw[z,K,n2];rfl;have a3:nm=pv:=by rw[K]at j;exact mf (λb=>b.data.toList) j
    subst a3;have X:=B j;have E:s=jG (R.A.extract o (o+1))/\m=o+1:=by unfold mO at e2;rw[dw (show(QR R (bs pv) U.S).e=C from X)]at e2;cases e2;exact⟨D,D⟩
    obtain⟨rfl,rfl⟩:=E;have e3:(jG (R.A.extract o (o+1))).data.toList=nn [R.A[o]]:=by
     rw[uE]
     congr 1
     rw[AD,PZ u];have:o+1-o=1:=by omega
     rw[this];rfl
    have p:=PZ u;rw[p]at O;have a0:=λ(x:List UInt8) (E:Gs R o x)=>Gs.step p D O E;refine⟨?_,λt y g1 g2=>?_⟩;rw[e3];exact a0 [] λk hk=>absurd hk (by simp);grind[ByteArray.data_append]
   omega;grind[SZ]
  refine @afo (vI R m) _ Y sL _ a1 (λP s aI=>?_) (λP=>?_) (λ_ _ _ d hd=>?_) a Z L
  .obtain⟨c,e,nm,T,f,K,l,A,z,B,F⟩:=Co P s aI;have nh:cZ [aC,aZ] e.name=I:=by rw[K];rcases l with rfl|rfl<;>decide+kernel
   refine⟨B,λx E=>?_,λc' e' W y v w S V=>?_⟩;have E:e.name=x:=by
    have hl:(fV (pD R U o (iX (cut o) (cut m) k)) (iX (cut o) (cut m) k)).last=H c:=T;unfold N.gV at E;rw[hl]at E;have G:(fV (pD R U o (iX (cut o) (cut m) k)) (iX (cut o) (cut m) k)).nm c=e.name:=by
     show(match U.h c with|some e=>e.name|none=>_)=_
     rw[f]
    dsimp only at E;rw[G]at E;exact oo E
   subst E;exact⟨λj=>(F j).1,⟨(λq=>by grind),λj=>((F j).1).st⟩⟩;have v:U.last=H c':=v;rw[T]at v;cases v;have w:U.h c=H e':=w;rw[f]at w;cases w;exact⟨λj=>(F j).2 W y S V,⟨(λq=>by grind),λj=>((F j).2 W y S V).st⟩⟩
  by_cases hc:∃s,(iX (cut o) (cut m) k).k=.fI s;obtain⟨s,aI⟩:=hc;obtain⟨c,e,nm,T,f,K,l,A,z,_⟩:=Co P s aI;exact .inr ⟨c,e,T,f,.inl ⟨A,z⟩⟩;grind;obtain⟨r,p⟩:=g;exact p.head d hd
theorem abn(b:R.A.size<=1024):∀(n o:Nat)(U:N)(L:List Sp),o<=R.A.size->R.A.size-o<n->uU U->BA U+580*(R.A.size+1-o)<990000->ln U.L+(R.A.size+1-o)<4000->@NI (vI R o) U->∀fin K,kq R (fh KV) 8 cut n o U L=.done fin K->@NI vT fin\/Wd fin:=by
 intro n
 induction n with
 |zero=>grind
 |succ n ih=>
  intro o U L P v g w hw f fin K h
  let T:=Aq
  rw[kq]at h;revert h;cases hT:eA (QR R U.a U.S) (fh KV) 8 o with
  |stop=>grind
  |tok k m=>
   intro h;dsimp only at h;obtain⟨y,z⟩:Z6 k/\(sP k≠0->o<m/\m<=R.A.size):=O6 (R:=QR R U.a U.S) T b P hT;have a:=Zz (iX (cut o) (cut m) k) (y.tok _ _) (CJ g R o (iX (cut o) (cut m) k)) (OA R U o _) (by show BA U<_;omega) (by show ln U.L<_;omega);have j:=ah5 (cut:=cut) f g.A P hT;cases hT1:nW (dx I sL) (iX (cut o) (cut m) k) (pD R U o (iX (cut o) (cut m) k))with
   |stuck=>grind
   |stop c p=>grind
   |ok u σ2=>
    rw[hT1]at h a;obtain⟨a1,a2,a3,aI,d,e,r⟩:=a;have j:=j u σ2 hT1;have a0:ln σ2.L<=ln U.L+1:=d;have t:BA σ2<=BA U+580:=e;dsimp only at h;split at h;cases h;exact j.imp (λq=>q.any (λ_ _ _=>trivial) λ_=>trivial) id;rename_i E;obtain⟨x,l⟩:=z E;rcases j with j|⟨i,s,w1,w2⟩;grind;have Q:=OH (R:=R) (lg:=8) (l:=cut) T b n m σ2 (tu L ⟨(sP k:Int),cut o,cut m⟩) l (by omega) a1 (by omega) (by omega);rw[h]at Q;exact .inr ⟨i,s,Q.2.2.2.2.2.2 i s w1,w2⟩
theorem alz(d f l:Nat):@NI (vI R 0) (S0 d f l 0):=by
 let y:∀i e,(S0 d f l 0).h i=H e->i=0/\e=⟨⟨#[]⟩,[],F,[]⟩:=λi e j=>by
  have:=N.n j;obtain rfl:i=0:=by grind[S0]
  cases j<;>grind
 letI:=vI R 0
 refine Db (h:=0) ⟨λi e j=>?_,⟨[],D,D,by grind⟩,λx u=>(nomatch u),D,λx u=>(nomatch u),by grind,by grind,⟨_,D,D,D,by grind⟩,λq=>absurd q (show ¬2<=0 by decide)⟩ ⟨D,D⟩ (eZ _) (.inl ⟨eZ _,D⟩);rw[(y i e j).2];exact⟨D,by grind,by grind⟩
def OK(d f l:Nat)(s:O)(z:s.size<=1024)(j:d<=64)(q:f<=32){fin:N}{L:List Sp}(h:pw d f l s=.done fin L):@NI vT fin\/Wd fin:=by
 let u:=Ji s
 let y:=VB (d:=d) (f:=f) (l:=l) (a:=0)
 refine abn (by show(pq s).size<=1024;omega) _ 0 _ _ (eZ _) ?_ (X0 j q) ?_ ?_ (alz d f l) _ _ h;show(pq s).size-0<(pq s).size+1;omega;show BA _+580*((pq s).size+1-0)<990000;omega;show 0+((pq s).size+1-0)<4000;omega
end
def wT:List O:=[⟨#[]⟩,aC,aZ,aO,jV,iC,cO,dK,aV]
class XM where
 m:Nat
 B:O->Prop
 A:iB->Prop
 E:O->Prop
 K:O->Prop
 nm:∀n∈wT,B n
 a0:A []
 L:∀l j a,A l->A j->a∈j->vi l a.1=I->A (l++[a])
@[reducible] def XM.j(l:Nat):XM:=⟨l,λ_=>True,λ_=>True,λ_=>True,λ_=>True,λ_ _=>trivial,trivial,λ_ _ _ _ _ _ _=>trivial⟩
def RU[XM]:zE->Prop
 | .el e=>e.name.size<=5000/\(ln e.A)<=XM.m/\(∀p∈e.A,p.1.size<=5000/\p.2.size<=66000)/\XM.B e.name/\XM.A e.A
 | .tx _=>True
 | .cm s=>s.size<=5000/\XM.E s
 | .dt s=>s.size<=5000/\XM.K s
class XL where
 l:List Nat
section
variable [XM][XL]
def NG(U:N):Prop:=U.T<=XM.m/\(∀n∈U.d,RU n)/\∀i e,U.h i=H e->e.E=F->i=0\/i∈XL.l
structure TG(t:dj):Prop where
 name:t.name.size<=5000
 len:ln t.h<=XM.m
 bY:∀p∈t.h,p.1.size<=5000/\p.2.size<=66000
 cm:∀s,t.k=.dz s->s.size<=5000/\XM.E s
 dt:∀n q,t.k=.eG n q->n.size<=5000/\XM.K n
 E:XM.B t.name
 B:XM.A t.h
def xO{a:Type}(r:pj a):Prop:=match r with
 | .ok _ Q=>NG Q
 | .stop e _=>e≠0
 | .stuck=>True
def Kp{a:Type}(m:M a):Prop:=∀U,NG U->xO (m U)
theorem Kp.pure{b:Type}(a:b):Kp (Pure.pure a:M b):=λ_ h=>h
theorem Kp.stuck{a:Type}:Kp (stuck:M a):=λ_ _=>trivial
theorem Kp.bind{b y:Type}{m:M b}{f:b->M y}(h:Kp m)(u:∀a,Kp (f a)):Kp (m>>=f):=by
 intro U q;rw[M.cW];have j:=h U q;revert j;cases m U with
 |ok a Q=>intro j;exact u a Q j
 |stop e p=>simp[xO]
 |stuck=>simp[xO]
theorem Kp.ite{d:Type}{c:Prop}[Decidable c]{a b:M d}(j:Kp a)(q:Kp b):Kp (if c then a else b):=by grind
theorem Kp.at{a:Type}{m:M a}{U:N}(h:Kp m)(j:NG U):xO (m U):=h U j
theorem NG.q{U Q:N}(h:NG U)(e1:Q.d=U.d)(e2:Q.T=U.T):NG Q:=⟨e2▸h.1,e1▸h.2.1,λi e j=>h.2.2 i e (by unfold N.h at j|-;grind)⟩
def Kp.oc{f:N->N}(e1:∀U,(f U).d=U.d)(e2:∀U,(f U).T=U.T):Kp (oc f):=λU h=>h.q (e1 U) (e2 U)
theorem Kp.same{b:Type}{m:M b}(h:∀U a Q,m U=.ok a Q->Q=U)(u:∀U c p,m U≠ .stop c p):Kp m:=by
 intro U y;have j:=h U;have q:=u U;revert j q;cases m U with
 |ok a Q=>grind[xO]
 |stop e p=>simp
 |stuck=>simp[xO]
theorem NG.el{U:N}(h:NG U){i:Nat}{e:mh}(j:U.h i=H e):RU (.el e):=h.2.1 _ (sA (N.eH j))
theorem NG.u{U:N}(h:NG U){i:Nat}{n:zE}(E:RU n)(K:∀e,n=.el e->e.E=F->i=0\/i∈XL.l):NG {U with d:=U.d.set i n}:=⟨h.1,λm z=>by
 rcases List.mem_or_eq_of_mem_set z with q|q;exact h.2.1 m q;grind,λj e y=>by
 let u:=h.2.2 j e
 unfold N.h at y u;grind⟩
theorem NG.set{U:N}(h:NG U){i:Nat}{e:mh}(j:RU (.el e))(y:e.E=F->i=0\/i∈XL.l):NG (U.l i e):=h.u j (λq u=>by grind)
theorem NG.add{U:N}(h:NG U){n:zE}(K:RU n)(P:∀e,n=.el e->ln U.d∈XL.l):NG (U.add n):=⟨h.1,λm z=>by
 rcases dA.1 z with u|u;exact h.2.1 m u;grind,λj e q E=>by
 by_cases y:j<ln U.d;rw[N.oj y]at q;exact h.2.2 j e q E;by_cases e1:j=ln U.d;grind[N.ng];have:=N.n q;simp[N.add]at this;omega⟩
theorem NG.il{U:N}(h:NG U){n:zE}(j:RU n)(b:Bool)(q:∀e,n=.el e->ln U.d∈XL.l):NG (U.il n b):=(h.add j q).q D D
omit [XL] in
theorem RU.q{e f:mh}(h:RU (.el e))(q:f.name=e.name)(j:f.A=e.A):RU (.el f):=by obtain⟨a,b,c,d,e⟩:=h;exact⟨by rw[q];exact a,by rw[j];exact b,by rw[j];exact c,by rw[q];exact d,by rw[j];exact e⟩
theorem xO.ok{b:Type}{a:b}{U:N}(h:NG U):xO (.ok a U):=h
def Kp.fn{a:Type}{f:N->pj a}(h:∀U,NG U->xO (f U)):Kp (a:=a) f:=h
attribute [simp] Kp.pure Kp.stuck Kp.bind Kp.ite
@[simp] def K2{f:N->N}(h:∀U,(f U).d=U.d/\(f U).T=U.T):Kp (oc f):=Kp.oc (λU=>(h U).1) (λU=>(h U).2)
def Vy(a:Nat->dj->M Unit):Prop:=∀m t,TG t->Kp (a m t)
omit [XM] [XL] in
@[simp] def YB(U:N):U.kM.d=U.d/\U.kM.T=U.T:=⟨D,D⟩
def xO.st{a:Type}{n p:Nat}:xO (a:=a) (.stop (n+1) p):=Nat.succ_ne_zero n
omit [XM] [XL] in
@[simp] def afV(U:N)(p:O->Bool):(U.qv p).d=U.d/\(U.qv p).T=U.T:=⟨D,D⟩
@[simp] theorem ahB(pl:Nat×Nat)(j:Nat):Kp (jz pl j):=by intro U h;unfold jz;split;rename_i u z q y;split;refine xO.ok (NG.set (NG.set h ?_ ?_) (RU.q (h.el y) D D) ?_);exact RU.q (h.el q) D D;exact h.2.2 _ u q;grind;trivial;trivial
@[simp] def ahD(pl:Nat×Nat)(k:Nd):Kp (wB pl k):=by intro U h;unfold wB;split;rename_i q j;split;exact xO.ok (NG.set h (RU.q (h.el j) D D) (h.2.2 _ q j));trivial;trivial
@[simp] def akD(pl:Nat×Nat)(s:O):Kp (qd pl s):=by intro U h;unfold qd;split;rename_i q j;split;split;split;split;exact xO.ok (NG.u h trivial nofun);trivial;trivial;exact xO.ok (NG.set (NG.add h (n:=.tx _) trivial nofun) (RU.q (h.el j) D D) (h.2.2 _ q j));trivial;trivial
def xO.j{a:Type}:xO (a:=a) .stuck:=trivial
def xO.id{a:Type}{r:pj a}(h:xO r):xO r:=h
@[simp] def amk(p:O->Bool):Kp (oA p):=by refine Kp.oc (λU=>?_) (λU=>?_)<;>(unfold N.Io;split<;>rfl)
@[simp] def J0(p:O->Bool):Kp (sH p):=K2 λ_=>⟨D,D⟩
@[simp] def Bh(m:Nat):Kp (iA m):=K2 λ_=>⟨D,D⟩
@[simp] def alc(of:O)(pl:Bool):Kp (Pz of pl):=K2 λ_=>⟨D,D⟩
@[simp] def amm:Kp (Dm):=K2 λ_=>⟨D,D⟩
@[simp] theorem Yr{q:iB}(u:XM.A q)(i:Nat):∀L:iB,(∀p∈L,p.1.size<=5000/\p.2.size<=66000)->(∀p∈L,p∈q)->Kp (oR i L)
 |[],_,_=>Kp.pure _
 |a::r,hL,aI=>by
  intro U h
  let z:=Yr u i r (λp j=>hL p (gS _ j)) (λp j=>aI p (gS _ j))
  unfold oR;split;trivial;rename_i e y;split;exact z U h;split;exact(by decide:(7)≠0);refine z _ (h.set ?_ (h.2.2 _ e y))
  let ⟨a1,a2,a3,a4,a5⟩:=h.el y
  have:=h.1;refine⟨a1,by simp;omega,λp j=>?_,a4,XM.L _ _ _ a5 u (aI a (js ..)) (by grind)⟩;grind
@[simp] def akE(pl:Nat×Nat)(k:Nd):Kp (Gi pl k):=by
 cases k with
 |el j=>simp[Gi]
 |tx j=>simp[Gi]
 |cm j=>simp[Gi]
 |dt j=>simp[Gi]
@[simp] def Qa(i:Nat):Kp (fM i):=Kp.same (λ_ _ _ h=>ol h) (λU c p=>qy _ U c p)
@[simp] def afW:Kp (gJ):=Kp.same (λ_ _ _ h=>ny h) (λU c p=>wj U c p)
@[simp] def nh0:(∀(x:fW),Kp (nK x)/\Kp (gN x)/\Kp (alL x)/\Kp (iH x)/\Kp (iP x)/\Kp (Aw x)/\Kp (Ck x)/\∀y,Kp (zw x y)/\Kp (qI x y)/\Kp (p5 x y)/\Kp (pM x y))/\(∀n,Kp (GW n)/\Kp (Il n)/\Kp (ahead n)/\Kp (oZ n)/\Kp (iS n))/\Kp wU/\Kp Ib/\(∀p b,Kp (iY p b))/\Kp Cv/\Kp ja/\Kp pP:=by (repeat' first|with_reducible intro _|with_reducible apply cG)<;>(repeat' first|(with_reducible first|refine Kp.bind ?_ λ_=>?_|refine Kp.ite ?_ ?_|exact xO.st|exact xO.j|refine Kp.at ?_ ‹_›|refine Kp.fn λU h=>?_)|(simp[*];done)|(with_reducible refine xO.ok ?_;exact h.q D D)|(with_reducible refine xO.id ?_;first|dsimp only|split)|delta nK|delta gN|delta alL|delta iH|delta iP|delta Aw|delta Ck|delta zw|delta qI|delta p5|delta pM|delta GW|delta Il|delta ahead|delta oZ|delta wU|delta Ib|delta iY|delta Cv|delta iS|delta ja|delta pP|refine Kp.ite ?_ ?_|split)
@[simp] def Uk(pl:Nat×Nat)(nd:zE)(k:Nat->Nd)(j:RU nd)(q:∀e,nd=.el e->False):Kp (kZ pl nd k):=λU h=>ahD _ _ _ (h.add j λe h=>(q e h).elim)
omit [XL] in
def agA(x:Nat×Nat×O):TG (nX x):=⟨eZ _,eZ _,(λ_ j=>by cases j),(λ_ h=>by cases h),(λ_ _ h=>by cases h),XM.nm _ (by simp[wT,nX,dj.name]),XM.a0⟩
def OR:Ru->Bool
 | .ox _ name _=>decide (name.size<=5000)&&cZ wT name
 | .Qn r=>OR r
 |_=>C
def spG(a:kR):Bool:=OR a.blank&&OR a.fI&&OR a.dz&&OR a.eG&&OR a.dZ&&OR a.B&&OR a.A&&OR a.l&&((a.start.getD []).all λp=>OR p.2)&&((a.stop.getD []).all λp=>OR p.2)
omit [XL] in
def anx{n:O}(h:(decide (n.size<=5000)&&cZ wT n)=C):n.size<=5000/\XM.B n:=by rw[fq]at h;obtain⟨x,j,e⟩:=fT.1 h.2;obtain rfl:=jM.1 e;exact⟨of_decide_eq_true h.1,XM.nm _ j⟩
omit [XM] [XL] in
def ahY:∀j∈sT,spG j=C:=dm.1 (by kernel_rfl)
omit [XM] [XL] in
theorem YP:∀(R:List (List O×Ru))(k:O)(r:Ru),(R.all λp=>OR p.2)=C->lV R k=H r->OR r=C
 |[],_,_,_,h=>by cases h
 |p::R,k,r,hR,h=>by rw[List.all_cons,fq]at hR;unfold lV at h;split at h;grind;exact YP R k r hR.2 h
omit [XM] [XL] in
def sK:∀L:List Ru,(∀r∈L,OR r=C)->OR (gE L)=C
 |[],_=>rfl
 |x::r,h=>by
  have j:=h x (js ..);cases x with
  |nil=>exact sK r (λy q=>h y (gS _ q))
  |_=>exact j
omit [XM] [XL] in
def YO(R:Option (List (List O×Ru)))(k:O)(h:((R.getD []).all λp=>OR p.2)=C):OR (uC R k)=C:=by
 cases R with
 |none=>rfl
 |some R=>
  show OR ((lV R k).getD .nil)=C;cases hq:lV R k with
  |none=>rfl
  |some r=>exact YP R k r h hq
omit [XM] [XL] in
theorem aeY{a:kR}(h:spG a=C)(t:dj):OR (eI a t)=C:=by unfold spG at h;simp only[fq]at h;have⟨⟨⟨⟨⟨⟨⟨⟨⟨h1,h2⟩,h3⟩,h4⟩,h5⟩,h6⟩,h7⟩,h8⟩,h9⟩,h10⟩:=h;unfold eI;split;split;exact sK _ (by grind);exact sK _ (by grind);exact sK _ (by grind);exact sK _ (by grind);exact sK _ (by simp[YO _ _ h9,h6,h8]);exact sK _ (by simp[YO _ _ h10,h7,h8]);exact sK _ (by grind);exact sK _ (by grind)
@[simp] theorem ajN(j:M (Nat×Nat))(t:dj)(q:Kp j)(y:TG t):Kp (iq j t):=by unfold iq;split;rename_i s u;exact Kp.bind q λ_=>Kp.bind (Uk _ _ _ (y.cm s u) nofun) λ_=>Kp.pure _;grind[Kp.pure]
@[simp] def Ys(d:Nat):∀ks,Kp (x8 d ks)
 |[]=>Kp.pure _
 |k::r=>Kp.bind (Qa _) λ_=>Kp.bind (akE _ _) λ_=>Ys d r
@[simp] def WI(b d:Nat):Kp (mG b d):=by intro U h;unfold mG;split;trivial;split;trivial;refine Kp.at (Kp.bind (Ys _ _) λ_=>Kp.fn λQ j=>?_) h;split;rename_i u q;exact xO.ok (NG.set j (RU.q (j.el q) D D) (j.2.2 _ u q));trivial
@[simp] def ab7(t:dj)(u:TG t):Kp (kF t):=by
 unfold kF;split;rename_i n q j;exact Kp.bind (by simp) λ_=>Kp.bind (Uk _ _ _ (u.dt n q j) nofun) λ_=>by simp
 simp
def p8{b:Type}(j:b->List Nat)(r:pj b):Prop:=match r with
 | .ok a Q=>@NG _ ⟨j a⟩ Q
 | .stop e _=>e≠0
 | .stuck=>True
omit [XL] in
theorem p8.ok{b:Type}{j:b->List Nat}{a:b}{U:N}(h:@NG _ ⟨j a⟩ U):p8 j (.ok a U):=h
def Kj{a:Type}(X:List Nat)(j:a->List Nat)(m:M a):Prop:=∀U,@NG _ ⟨X⟩ U->p8 j (m U)
omit [XL] in
theorem Kj.bind{b u:Type}{X:List Nat}{z:b->List Nat}{E:u->List Nat}{m:M b}{f:b->M u}(h:Kj X z m)(y:∀a,Kj (z a) E (f a)):Kj X E (m>>=f):=by
 intro U q;rw[M.cW];have j:=h U q;revert j;cases m U with
 |ok a Q=>intro j;exact y a Q j
 |stop e p=>simp[p8]
 |stuck=>simp[p8]
def Kp.k{a:Type}{m:M a}(h:Kp m):Kj XL.l (λ_=>XL.l) m:=λU j=>by
 let q:=h U j
 cases hm:m U<;>rw[hm]at q<;>exact q
omit [XL] in
def Kp.j{a:Type}{X:List Nat}{m:M a}(h:∀[XL],Kp m):Kj X (λ_=>X) m:=@Kp.k _ ⟨X⟩ _ _ (@h ⟨X⟩)
def Kj.p{a:Type}{m:M a}(h:Kj XL.l (λ_=>XL.l) m):Kp m:=λU j=>by
 let q:=h U j
 cases hm:m U<;>rw[hm]at q<;>exact q
omit [XL] in
theorem NG.mono{X y:List Nat}{U:N}(h:@NG _ ⟨X⟩ U)(u:∀i∈X,i∈y):@NG _ ⟨y⟩ U:=⟨h.1,h.2.1,λi e j q=>(h.2.2 i e j q).imp id (u i)⟩
omit [XL] in
def NG.cons{X:List Nat}{U:N}(h:@NG _ ⟨X⟩ U)(j:Nat):@NG _ ⟨j::X⟩ U:=h.mono λ_ q=>gS _ q
omit [XL] in
def EV{X a0:List Nat}(pl:Nat×Nat)(j:Nat)(K:∀i∈a0,i=j\/i∈X):Kj a0 (λ_=>X) (jz pl j):=by intro U h;have u:=@ahB _ ⟨j::X⟩ pl j U (h.mono λi P=>bZ.2 (K i P));revert u;unfold jz;split;rename_i Q T a E;split;rename_i b;intro u;refine p8.ok ⟨u.1,u.2.1,λi e y z=>?_⟩;rcases u.2.2 i e y z with q|q;exact .inl q;rcases bZ.1 q with q|q;subst q;rw[N.gu (by have:=N.n E;simpa [N.l]using this)]at y;cases y;cases z;exact .inr q;exact λh=>h;exact λh=>h
omit [XL] in
def YX{X:List Nat}(q:O)(u:q.size<=5000/\XM.B q):Kj X (λj=>j::X) (Ic q):=λU h=>p8.ok <|@NG.add _ ⟨_⟩ _ (h.cons _) (.el ⟨q,[],F,[]⟩) ⟨u.1,eZ _,(λ_ y=>by cases y),u.2,XM.a0⟩ λ_ _=>js ..
omit [XL] in
def WX{X:List Nat}(t:dj)(q:TG t):Kj X (λj=>j::X) (jN t):=by intro U h;unfold jN;split;exact p8.ok <|@NG.il _ ⟨_⟩ _ (h.cons _) (.el ⟨t.name,t.h,F,[]⟩) ⟨q.name,q.len,q.bY,q.E,q.B⟩ _ λ_ _=>js ..;trivial
omit [XL] in
def TU{X:List Nat}(q:O)(own:Bool)(bY:iB)(u:q.size<=5000/\XM.B q)(z:ln bY<=XM.m)(y:(∀p∈bY,p.1.size<=5000/\p.2.size<=66000)/\XM.A bY):Kj X (λj=>j::X) (lW q own bY):=by intro U h;unfold lW;split;split;exact p8.ok <|@NG.il _ ⟨_⟩ _ (h.cons _) (.el ⟨q,bY,F,[]⟩) ⟨u.1,z,y.1,u.2,y.2⟩ _ λ_ _=>js ..;trivial;exact YX q u U h
omit [XL] in
def Cp{X:List Nat}(i:Nat):Kj X (λj=>j::X) (jm i):=by intro U h;unfold jm;split;rename_i e q;split;trivial;exact p8.ok <|@NG.add _ ⟨_⟩ _ (h.cons _) (.el ⟨e.name,e.A,F,[]⟩) (RU.q (@NG.el _ ⟨_⟩ _ h _ _ q) rfl rfl) λ_ _=>js ..;trivial
omit [XL] in
def O5{X:List Nat}(j:Nat):Kj X (λ_=>j::X) (kG j):=by intro U h;unfold kG;split;trivial;rename_i z y;split;exact p8.ok (h.cons j);split;trivial;rename_i u q;split;refine p8.ok (@NG.set _ ⟨_⟩ _ (@NG.set _ ⟨_⟩ _ (h.cons j) _ _ ?_ ?_) _ _ ?_ ?_);exact RU.q (@NG.el _ ⟨_⟩ _ h _ _ q) D D;exact(h.cons j).2.2 _ u q;exact RU.q (@NG.el _ ⟨_⟩ _ h _ _ y) D D;exact λ_=> .inr (js ..);trivial
@[simp] def Lg(own:Bool)(bY:iB)(y:ln bY<=XM.m)(q:(∀p∈bY,p.1.size<=5000/\p.2.size<=66000)/\XM.A bY):Kp (p6 own bY):=
 Kj.p (Kj.bind (TU _ _ _ ⟨by decide,XM.nm _ (by simp[wT])⟩ y q) λj=>Kj.bind (Kp.j (by simp)) λz=>Kj.bind (EV z j λi u=>bZ.1 u) λ_=>Kp.j (Kp.bind (by simp) λ_=>Kp.bind (Bh _) λ_=>Kp.pure _))
@[simp] def ajb(t:dj)(j:TG t):Kp (Bj t):=Kp.bind (Lg _ _ j.len ⟨j.bY,j.B⟩) λ_=>Kp.pure _
@[simp] def ai0:Kp (p6 I []):=Lg _ _ (eZ _) ⟨nofun,XM.a0⟩
omit [XL] in
def Bc{X:List Nat}(j:Nat):Kj (j::X) (λ_=>X) (j5 j):=Kj.bind (Kp.j (by simp)) λu=>Kj.bind (EV u j λi q=>bZ.1 q) λ_=>Kp.j (Kp.bind (by simp) λ_=>Kp.pure _)
@[simp] def um(q:O)(u:q.size<=5000/\XM.B q):Kp (iD q):=Kj.p (Kj.bind (YX q u) λj=>Kj.bind (Bc j) λ_=>Kp.j (Kp.pure _))
@[simp] def H6(t:dj)(q:TG t):Kp (eE t):=Kj.p (Kj.bind (WX t q) λj=>Kj.bind (Bc j) λ_=>Kp.j (Kp.pure _))
@[simp] def aeJ:∀k n,Kp (Lz k n)
 |0,_=>Kp.pure _
 |k+1,n=>Kj.p (Kj.bind (Kp.j (by simp)) λi=>Kj.bind (Cp i) λj=>Kj.bind (Bc j) λ_=>Kp.k (Kp.bind (by simp) λ_=>aeJ k _))
@[simp] def afY:Kp iF:=λU h=>aeJ _ _ U h
@[simp] def Li(own:Bool)(bY:iB)(u:ln bY<=XM.m)(q:(∀p∈bY,p.1.size<=5000/\p.2.size<=66000)/\XM.A bY):Kp (p9 own bY):=
 Kj.p (Kj.bind (TU _ _ _ ⟨by decide,XM.nm _ (by simp[wT])⟩ u q) λj=>Kj.bind (Kp.j (K2 λ_=>⟨D,D⟩)) λ_=>Kj.bind (Bc j) λ_=>Kp.j (Kp.bind (Bh _) λ_=>Kp.pure _))
@[simp] def ajc(t:dj)(j:TG t):Kp (Gy t):=Kp.bind (Li _ _ j.len ⟨j.bY,j.B⟩) λ_=>Kp.pure _
@[simp] def ai1:Kp (p9 I []):=Li _ _ (eZ _) ⟨nofun,XM.a0⟩
@[simp] def ahb:Kp (iD aO):=um _ ⟨by decide,XM.nm _ (by simp[wT])⟩
@[simp] def alh:Kp (iD jV):=um _ ⟨by decide,XM.nm _ (by simp[wT])⟩
@[simp] def aj8:Kp (iD iC):=um _ ⟨by decide,XM.nm _ (by simp[wT])⟩
@[simp] def Hw:∀xs,Kp (qA xs)
 |[]=>Kp.pure _
 |x::r=>Kp.bind (by repeat' first|(with_reducible first|refine Kp.bind ?_ _|refine Kp.ite ?_ ?_|exact xO.st|exact xO.j|refine Kp.at ?_ _|refine Kp.fn _)|(simp[*])|(with_reducible refine xO.ok ?_)|(with_reducible refine xO.id ?_)|delta gh|refine Kp.ite ?_ ?_|split) λ_=>Hw r
omit [XL] in
theorem Gt(f dP:Nat):∀(X:List Nat)n c last j,Kj (last::X) (λr=>r.1::X) (kC f dP n c last j)
 |X,0,_,_,_=>λU h=>h
 |X,n+1,c,last,j=>by unfold kC;refine Kj.bind (Kp.j (by simp)) λe=>?_;split;exact λU h=>h;refine Kj.bind (Kp.j (Kp.ite (by simp) (Kp.pure _))) λ_=>λU h=>?_;by_cases u:H e∉U.B;rw[dw u];exact Kj.bind (Kp.j (by simp)) (λ_=>Gt f dP X n _ _ _) U h;rw[di u];exact Kj.bind (Cp _) (λq=>Kj.bind (Kp.j (by simp)) λ_=>Kj.bind (Kp.j (by simp)) λ_=>Kj.bind (O5 _) λ_=>Kj.bind (Kp.j (Qa _)) λy=>Kj.bind (EV y last (X:=q::X) (by simp;grind)) λ_=>Gt f dP X n _ _ _) U h
@[simp] def alj(f dP:Nat):Kp (uu f dP):=Kj.p (Kj.bind (λU h=>Gt f dP _ _ _ _ _ U (h.cons _)) λ(last,mark)=>Kj.bind (O5 last) λ_=>Kj.bind (Kp.j (by simp)) λa=>Kj.bind (Kp.j (by simp)) λq=>Kj.bind (EV q last (X:=XL.l) (by simp)) λ_=>Kj.bind (Cp f) λj=>Kj.bind (Kp.j (WI _ _)) λ_=>Kj.bind (Kp.j (Qa _)) λq=>Kj.bind (EV q j (by simp)) λ_=>Kp.j (Kp.bind (by simp) λ_=>Kp.bind (by simp) λ_=>Kp.bind (by simp) λ_=>Kp.bind (by simp) λ_=>Kp.pure _))
@[simp] def acq(s:O):∀n,Kp (rL s n)
 |0=>Kp.pure _
 |n+1=>by
  have:=acq s n;unfold rL
  repeat' first|(with_reducible first|refine Kp.bind ?_ λ_=>?_|refine Kp.ite ?_ ?_|exact xO.st|exact xO.j|refine Kp.at ?_ ‹_›|refine Kp.fn λU h=>?_)|(simp[*];done)|(with_reducible refine xO.ok ?_)|(with_reducible first|dsimp|split)|delta lQ|delta oP|refine Kp.ite ?_ ?_|split
section
variable {rec iT:Nat->dj->M Unit}(t:dj)
def adz(j:Vy rec)(q:TG t):Kp (pQ rec t):=Kp.bind (Kp.oc (λ_=>D) (λ_=>D)) λ_=>Kp.bind (j _ _ q) λ_=>Kp.bind (Kp.oc (λ_=>D) (λ_=>D)) λ_=>Kp.pure _
@[simp] def Hl(j:Vy rec):∀xs,Kp (tL rec xs)
 |[]=>Kp.pure _
 |x::r=>Kp.bind (adz _ j (agA x)) λ_=>Hl j r
@[simp] def agf(j:Vy rec):Kp (og rec):=by intro U h;unfold og;split;exact Hl j _ U h;exact Hw _ U h
def YV(lk:Bool)(f:Nat)(y:Vy iT)(q:Vy rec)(j:TG t):Kp (Ot lk iT rec t f)/\∀u own,Kp (xV u own t):=by
 have E:=λm=>q m t j;have z:=λi=>Yr j.B i _ j.bY λ_ h=>h;refine⟨?_,λ_ _=>?_⟩
 delta Ot
 all_goals
  repeat' first|(with_reducible first|refine Kp.bind ?_ λ_=>?_|refine Kp.ite ?_ ?_|exact xO.st|exact xO.j|refine Kp.at ?_ ‹_›|refine Kp.fn λU h=>?_)|(simp[*];done)|(with_reducible refine xO.ok ?_;exact h.q D D)|(with_reducible refine xO.id ?_;first|dsimp only|split)|delta uW|delta Pt|delta oy|delta pushHead|delta my|delta xJ|delta oP|delta xe|delta xf|delta gh|delta jg|delta vU|delta jA|delta jB|delta vJ|delta jL|delta mF|delta nA|delta lc|delta A5|delta xh|delta xa|delta rX|delta tK|delta A6|delta Qb|delta uy|delta Wn|delta ir|delta mD|delta sI|delta vA|delta mB|delta fX|delta vK|delta fj|delta xW|delta xY|delta rh|delta yq|delta oG|delta zd|delta sq|delta qg|delta tZ|delta nZ|delta sv|delta tY|delta qh|delta oF|delta jD|delta qF|delta qt|delta jW|delta iI|delta lu|delta sJ|delta Km|delta jn|delta yr|delta sV|delta pd|delta sr|delta mu|delta tJ|delta endCell|delta rq|delta ly|delta uz|delta uA|delta nB|delta sd|delta rM|delta DZ|delta xg|delta yH|delta pQ|delta lL|delta iL|delta kA|delta xV|delta j8|refine Kp.ite ?_ ?_|split
def ade{f:Nat}{b:M Bool}(h:D9 f=H b):Kp b:=by
 unfold D9 at h
 repeat' (split at h)
 all_goals (cases h<;>repeat' first|(with_reducible first|refine Kp.bind ?_ λ_=>?_|refine Kp.ite ?_ ?_|exact xO.st|exact xO.j|refine Kp.at ?_ ‹_›|refine Kp.fn λU h=>?_)|(simp[*];done)|(with_reducible refine xO.ok ?_;exact h.q D D)|(with_reducible refine xO.id ?_;first|dsimp only|split)|delta tJ|delta endCell|delta ir|delta Km|delta vA|delta sJ|delta sI|delta mD|delta jn|delta xJ|refine Kp.ite ?_ ?_|split)
end
@[simp] theorem Tj(lk:Bool)(c a:Nat->dj->M Unit)(t:dj)(y:Vy c)(q:Vy a)(j:TG t):∀r,OR r=C->Kp (jp lk c a r t)
 | .nil,_=>Kp.stuck
 | .eW,_=>Kp.pure _
 | .dX f,_=>(YV t lk f y q j).1
 | .qX m,_=>Kp.ite (q _ _ j) Kp.stuck
 | .dz pf own,_=>(YV t lk 0 y q j).2 pf own
 | .ahead f,_=>by
  show Kp (match D9 f with|some b=>vV a b t|none=>stuck)
  cases hb:D9 f with
  |none=>grind[Kp.stuck]
  |some b=>exact Kp.bind (ade hb) λ_=>Kp.ite (Kp.bind (λU h=>q _ t j U h) λ_=>Kp.pure _) (Kp.pure _)
 | .ends f,_=>by
  show Kp (match D9 f with|some b=>zY b|none=>stuck)
  cases hb:D9 f with
  |none=>grind[Kp.stuck]
  |some b=>exact Kp.bind (ade hb) λ_=>Kp.pure _
 | .Qn r,h=>by intro U u;show xO (Em _ t U);unfold Em;split;exact(Tj lk c a t y q j r h) U u;exact u
 | .nN ks m,_=>Kp.ite (Kp.bind (J0 _) λ_=>Kp.bind (H6 t j) λ_=>Kp.bind (Bh _) λ_=>Kp.pure _) Kp.stuck
 | .ox ks name m,h=>Kp.ite (Kp.bind (J0 _) λ_=>Kp.bind (um _ (anx h)) λ_=>Kp.bind (Bh _) λ_=>Kp.bind (λU h=>q _ t j U h) λ_=>Kp.pure _) Kp.stuck
 | .item ks,_=>Kp.bind (by simp) λ_=>Kp.bind (Kp.bind (Kp.bind (by simp) λ_=>Kp.pure _) λ_=>Kp.bind (H6 t j) λ_=>Kp.pure _) λ_=>Kp.pure _
@[simp] theorem Rh:∀(n:Nat)(j:Bool)(m:Nat)(t:dj),TG t->Kp (dx j n m t)
 |0,_,_,_,_=>Kp.stuck
 |n+1,j,m,t,q=>by
  by_cases u:t.k=.ic
  let e:dx j (n+1) m t=stuck:=by
   let ⟨a,b,k,bY⟩:=t
   cases u;rfl
  simp_all;rw[AH j n m t u];unfold CO;cases aI:sT[m]? with
  |none=>simp
  |some sp=>exact Tj j _ _ t (λm t q=>Rh n C m t q) (λm t q=>Rh n j m t q) q _ (aeY (ahY sp (sA aI)) t)
@[simp] def af6(n:Nat)(t:dj)(u:TG t):Kp (nW (dx I n) t):=by
 let j:Kp (λU=>if U.P&&fG t.d AW then pj.ok () {U with P:=I,K:=t.a} else jg (dx I n) t {U with P:=I,K:=t.a}):=by
  refine Kp.fn λU h=>?_
  let q:=h.q D D
  split;exact q;exact Rh n _ _ t u _ q
 obtain⟨a,b,k,bY⟩:=t;cases k with
 |ic=>exact Kp.pure _
 |_=>exact j
end
instance :XL:=⟨[]⟩
def IH[XM]:DK->Prop
 | .Q4 nm L=>nm.size<=5000/\(ln L)<=XM.m/\∀p∈L,p.1.size<=5000/\p.2.size<=66000
 | .fin nm L=>nm.size<=5000/\(ln L)<=XM.m/\∀p∈L,p.1.size<=5000/\p.2.size<=66000
 | .Sy t=>t.size<=5000
 | .dtp nm _=>nm.size<=5000
 |_=>True
def NA[XM]:DK->Prop
 | .Q4 nm L=>XM.B nm/\XM.A L
 | .fin nm L=>XM.B nm/\XM.A L
 | .Sy t=>XM.E t
 | .dtp nm _=>XM.K nm
 |_=>True
def NK[XM]:zG->Prop
 | .stop=>True
 | .tok k _=>IH k
theorem yW(h:s.size<=1024):(jG s).size<=5000:=by grind[ww]
theorem xx(s:O)(a b:Nat):(s.extract a b).size<=s.size:=by grind[ev]
theorem Zy(j:R.A.size<=1024)(a:Nat):(xn R a).size<=5000:=yW (by grind[rU,xx])
theorem aag(j:R.A.size<=1024)(a:Nat):(sF R a).size<=5000:=yW (by grind[rU,xx])
theorem ajS(j:R.A.size<=1024)(a:Nat):(P5 R a).size<=5000:=yW (by grind[rU,xx])
theorem abS(h:IM look)(z:R.A.size<=1024)(a:Nat):(nk look lg R a).size<=66000:=by
 unfold nk;split
 let j:=ww ⟨(ql look lg (lH R (ld R (ld R a+1)))).toArray⟩
 let q:=AJ (lg:=lg) h (lH R (ld R (ld R a+1)))
 let u:=Di (R:=R) (K:=ld R (ld R a+1))
 let y:(eL (ql look lg _).toArray).size=ln (ql look lg (lH R (ld R (ld R a+1)))):=rfl
 omega;decide
theorem trimSuffix_le(s p:List UInt8):ln (dM s p)<=ln s:=by unfold dM;grind
theorem Ow(s:O):(wu s).size<=s.size:=by grind[Lib.size_eq,trimSuffix_le,wu]
theorem SD(R:RC)(a:Nat):∀(n i:Nat),R.A.size-i<=n->(kK R a i).size<=R.A.size
 |0,i,h=>by rw[kK.eq_1 R a i];grind[Ow,xx]
 |n+1,i,h=>by rw[kK.eq_1 R a i];split;split;grind[xx];split;grind[xx];exact SD R a n (i+1) (by omega);grind[Ow,xx]
def Wb(R:RC)(a:Nat):(jY R a).size<=R.A.size:=by unfold jY;split;exact eZ _;split;exact eZ _;exact SD R _ _ _ (dF _)
theorem abY(h:IM look)(q:R.A.size<=1024){L:iB}(j:∀p∈L,p.1.size<=5000/\p.2.size<=66000):∀p∈oI R look lg L o,p.1.size<=5000/\p.2.size<=66000:=by grind[aag,abS,oI,qP]
theorem O4{L:iB}(h:R.A.size<=o):gQ R look lg L o=.ic:=by grind[pc,gQ]
section
variable [XM]
theorem ah8{R:RC}{a:O->Option O}{lg:Nat}(y:IM a)(z:R.A.size<=1024)(Q:R.at_<=XM.m):∀(n:Nat){L:iB} {o m:Nat} {q:iB},R.A.size-o<=n->gQ R a lg L o=.whole m q->ln L<=XM.m->(∀p∈L,p.1.size<=5000/\p.2.size<=66000)->ln q<=XM.m/\∀p∈q,p.1.size<=5000/\p.2.size<=66000:=by
 intro n
 induction n with
 |zero=>
  grind[O4]
 |succ n ih=>
  intro L o m q b j U u
  let E:=pc (R:=R) (K:=o)
  rw[gQ]at j;split at j;split at j;grind;split at j;cases j
  let K:=rR (R:=R) (K:=dY R o)
  let P:=vL (R:=R) (K:=fU R (dY R o))
  by_cases T:fU R (dY R o)=R.A.size;grind[O4];refine ih (by omega) j ?_ (abY y z u);grind[pE,oI,qP];cases j
def ajd{R:RC}{a:O->Option O}{lg:Nat}(y:IM a)(z:R.A.size<=1024)(u:R.at_<=XM.m){b:Nat}{q:O->iB->DK}{nm:O}(j:∀L,ln L<=XM.m->(∀p∈L,p.1.size<=5000/\p.2.size<=66000)->IH (q nm L)):NK (qT R q nm (gQ R a lg [] b)):=by
 cases h:gQ R a lg [] b with
 |stop=>trivial
 |ic=>trivial
 |whole m L=>
  have:=ah8 y z u _ (dF _) h (eZ _) (nofun);exact j L this.1 this.2
theorem ahV{R:RC}{a:O->Option O}{lg b c:Nat}(z:IM a)(j:R.A.size<=1024)(y:R.at_<=XM.m):NK (jr R a lg b c):=by unfold jr;split;exact ajd z j y (λL q u=>⟨Zy j _,q,u⟩);split;trivial;split;trivial;exact yW (gR (xx _ _ _) j)
theorem aki{R:RC}{a:O->Option O}{lg b c:Nat}(z:IM a)(j:R.A.size<=1024)(y:R.at_<=XM.m):NK (j7 R a lg b c):=by unfold j7;split;exact ajd z j y (λL q u=>⟨Zy j _,q,u⟩);split;grind[ahV];split;exact yW (gR (Wb _ _) j);split;exact ajS j _;split;exact yW (gR (xx _ _ _) j);split;exact yW (gR (xx _ _ _) j);trivial
def akr{R:RC}{a:O->Option O}{lg b:Nat}(q:IM a)(u:R.A.size<=1024)(j:R.at_<=XM.m):NK (eA R a lg b):=by
 unfold eA;split;trivial;split;split;exact aki q u j;trivial
 .unfold mO;split<;>trivial
theorem IH.u{k:DK}(h:IH k)(q:NA k)(a b:Nat):TG (iX a b k):=by
 let j:XM.B ⟨#[]⟩:=XM.nm _ (by simp[wT])
 cases k with
 |Q4 nm L=>exact⟨h.1,h.2.1,h.2.2,nofun,nofun,q.1,q.2⟩
 |fin nm L=>exact⟨h.1,h.2.1,h.2.2,nofun,nofun,q.1,q.2⟩
 |Sy t=>exact⟨eZ _,eZ _,nofun,(λs e=>by cases e;exact⟨h,q⟩),nofun,j,XM.a0⟩
 |dtp n w=>exact⟨eZ _,eZ _,nofun,nofun,(λn u e=>by cases e;exact⟨h,q⟩),j,XM.a0⟩
 |_=>exact⟨eZ _,eZ _,nofun,nofun,nofun,j,XM.a0⟩
def ajv:J2->Prop
 | .done fin _=>NG fin
 | .stop c _=>c≠0
 | .stuck=>True
def abm{R:RC}{a:O->Option O}{lg:Nat}{b:Nat->Nat}(E:IM a)(P:R.A.size<=1024)(z:R.at_<=XM.m)(K:∀(aI:O)(Q:Bool)o k m,eA (QR R aI Q) a lg o=.tok k m->NA k):∀(n o:Nat)(U:N)(L:List Sp),NG U->ajv (kq R a lg b n o U L):=by
 intro n
 induction n with
 |zero=>exact λ_ _ _ _=>trivial
 |succ n ih=>
  intro o U L y;rw[kq];have q:=akr (R:=QR R U.a U.S) (lg:=lg) (b:=o) E P z;revert q;cases hq:eA _ a lg o with
  |stop=>exact λ_=>(nofun)
  |tok k m=>
   intro q;have j:=af6 sL _ (IH.u q (K _ _ _ _ _ hq) (b o) (b m)) (pD R U o (iX (b o) (b m) k)) (y.q D D);dsimp only;revert j;cases nW _ _ _ with
   |stuck=>exact λ_=>trivial
   |stop c p=>exact λh=>h
   |ok u σ2=>
    intro j;dsimp only;split;exact j;exact ih _ _ _ j
theorem aly{d f l a:Nat}(q:l<=XM.m):NG (S0 d f l a):=⟨q,λn u=>by
 let e:=by exact cC.1 u
 rw[e];exact⟨by decide,eZ _,nofun,XM.nm _ (by simp[wT]),XM.a0⟩,λi e j _=> .inl (by have:=N.n j;grind[S0])⟩
def OM(d f l:Nat)(s:O)(y:s.size<=1024)(j:l<=XM.m)(q:∀(aI:O)(u:Bool)o k m,eA (QR (vq s l .nilFunc 0) aI u) (fh KV) 8 o=.tok k m->NA k):ajv (pw d f l s):=abm Aq (by have:=Ji s;show(pq s).size<=1024;omega) (Int.ofNat_le.2 j) q _ _ _ _ (aly j)
omit [XM] in
def Uo(d f l:Nat)(s:O)(j:s.size<=1024):@ajv (XM.j l) (pw d f l s):=@OM (XM.j l) d f l s j (dF _) λ_ _ _ k _ _=>by cases k<;>first|trivial|exact⟨trivial,trivial⟩
omit [XM] in
def abo(d f l:Nat)(s:O)(j:s.size<=1024){fin:N}{L:List Sp}(h:pw d f l s=.done fin L):@NG (XM.j l) _ fin:=by have:=Uo d f l s j;rw[h]at this;exact this
omit [XM] in
def Up(d f l:Nat)(s:O)(j:s.size<=1024){c p:Nat}(h:pw d f l s=.stop c p):c≠0:=by have:=Uo d f l s j;rw[h]at this;exact this
end
def te(w:J)(B b:Nat)(a:dB×Bool)(p:dB)(l:List UInt8):Prop:=B<=b/\∃v,w.heap[b]?=H (dr #[p,v,a.1,.bool a.2] 98)/\w.ownsRow B 5 1 v (ln l) (en l)/\v.ownBlock≠H b
def Wu(w:J)(B b:Nat)(a:dB×Bool)(l:List UInt8):Prop:=te w B b a (.pointer F) l\/te w B b a (dq b) l
theorem te.kept{p:dB}{l:List UInt8}(h:te w B b vv p l)(j:Z [] w P):te P B b vv p l:=by have⟨h0,v,h1,h2,h3⟩:=h;exact⟨h0,v,j.at h1 (by simp),j.ownsRow h2 (λ_ _=>by simp),h3⟩
theorem Wu.kept{l:List UInt8}(h:Wu w B b vv l)(j:Z [] w P):Wu P B b vv l:=h.imp (·.kept j) (·.kept j)
theorem Wg(B b:Nat)(a:dB×Bool)(l:List UInt8)(w:J)(h:Wu w B b a l):dS 354 #[dq b] w λe P=>e=pG/\te P B b a (dq b) l/\Z [b] w P:=by
 have⟨j,hj,hj0⟩:=(show(∃j,prog.info? 96=H j/\j.size≠0) by have h:((prog.info? 96).map λi=>i.size)=H 2:=rfl;grind[eM])
 rcases h with⟨Q,v,u,E,K⟩|⟨Q,v,u,E,K⟩
 .have c0:w.cell? ⟨b,0,F⟩=H (.pointer F):=by rw[aF u];rfl
  have f0:=cY u 0;have T:=fp u;have y:w.shape? b=H (98,4):=by simp[World.shape?,u]
  have U:=(Z.refl [b] w).setCell (p:=⟨b,0,F⟩) (.inl (by simp)) (dq b);have z:Hid (te (w.setCell ⟨b,0,F⟩ (dq b)) B b a (dq b) l):=V ⟨Q,v,bH u 0 _,U.ownsRow E (λq f=>by grind),K⟩;have d:(w.setCell ⟨b,0,F⟩ (dq b)).cell? ⟨b,0,F⟩=H (dq b):=by rw[aF (bH u 0 _)];rfl
  have g:=Lib.run_to_unsafe (P:=prog) w (src:=94) (dst:=100) ⟨b,0,F⟩ underlying94 underlying100 hj hj0 y (show 0<4 by decide);have hf:=Lib.run_from_unsafe (P:=prog) w (src:=100) (dst:=94) ⟨b,0,F⟩ underlying100 underlying94 hj y (by kernel_rfl);have c:=RE (P:=prog) (w.setCell ⟨b,0,F⟩ (dq b)) (tp:=94) ⟨b,0,F⟩ underlying94 hj;go_enter func354,ntmps354;go_wp2;rw[ZN func372 (by rfl) (by rfl) D (e:=Extern.AbiNoEscape.same) D];rw[Lib.run_noEscape];simp only[da];rw[Oper.upon_value];go_wp2;go_end0;exact⟨D,z,U⟩
 .have c0:w.cell? ⟨b,0,F⟩=H (dq b):=by rw[aF u];rfl
  have T:=fp u;have z:Hid (te w B b a (dq b) l):=V ⟨Q,v,u,E,K⟩;have c:=RE (P:=prog) w (tp:=94) ⟨b,0,F⟩ underlying94 hj;go_enter func354,ntmps354;go_wp2;go_end0;exact⟨D,z,Z.refl _ _⟩
theorem Ry(B b:Nat)(d:dB×Bool)(l:List UInt8)(s:O)(w T:J)(h:Wu w B b d l)(C:ln l+s.size<=140737488355328)(N:B<=zq w.heap)(a3:Z [] T w)(R:zq T.heap<=B):dS 329 #[dq b,Y s] w λe P=>e=ff (.tuple #[G s.size,.nilIface])/\Wu P B b d (l++s.data.toList)/\Z [] T P/\KB w P:=by
 have⟨i0,Q,hz0,hz1,hz2⟩:=sZ (show(prog.info? 5).map (λi=>(i.zero,i.size,i.bytes))=H (H (.int .u8 0),1,1) by kernel_rfl);have f:=h;have U:=a3;go_enter func329,ntmps329;go_wp21;refine(Wg B b d l _ f).mono ?_;rintro e w1⟨rfl,h1,n⟩;have⟨hB,v,hbk,hown,hne⟩:=h1;have p:KB w w1:=by rcases f with⟨_,_,L,_⟩|⟨_,_,L,_⟩;grind[KB.e];grind[KB.e]
 have c1:=aF hbk 1;dsimp at c1;have aI:b<zq w1.heap:=fp hbk;go_wp2_with (at_builtin;refine Lib.wpList_append_own_string _ D _ _ 58 9 D B 5 i0 underlying58 underlying9 Q hz0 hz1 hz2 _ _ _ D hown s D ?c3 ?c4 ?c5 ?_)
 case c3=>unfold maxLen;omega
 case c4=>omega
 case c5=>omega
 intro W E u j _;have y:E.heap[b]?=H (dr #[dq b,v,d.1,.bool d.2] 98):=by rw[j.block b aI (λe=>hne e.symm)];exact hbk
 have r:=aF y 1;dsimp at r;have f1:E.frozen? ⟨b,1,F⟩=I:=cY y 1;have⟨ao,cap,hv⟩:=df u;subst hv;have M:∀q,v.ownBlock=H q->B<=q:=λq K=>(hown.lt q K).1;have z:∀q,(cV ao (ln l+s.size) cap).ownBlock=H q->q≠b:=λq K e=>by subst e;rcases u.2 with⟨e2,_⟩|⟨g,a,a2,e2,_,A,_⟩;grind;rw[e2]at K;have x:=jS K;grind
 have k:Z [b] E (E.setCell ⟨b,1,F⟩ (.slice ao (ln l+s.size) cap)):=(Z.refl [b] E).setCell (.inl (by simp)) _;have m:Hid (Wu (E.setCell ⟨b,1,F⟩ (.slice ao (ln l+s.size) cap)) B b d (l++s.data.toList)):=V (.inr ⟨hB,_,bH y 1 _,by
  rw[MK,qm];exact k.ownsRow u (λq K=>by grind),λe=>z b e D⟩)
 have a1:Hid (Z [] T (E.setCell ⟨b,1,F⟩ (.slice ao (ln l+s.size) cap))):=V ((((U.next n (by simp;omega))).grown j (λq K=> .inr (by grind))).setCell (.inr (by grind)) _);have a0:=(p.trans (λi c t Q S=>(j.block i (fp Q) (by intro e;rcases hown.2 with⟨e2,_⟩|⟨g,a,a2,e2,_,A,_⟩;rw[e2]at e;cases e;rw[e2]at e;have x:=jS e;grind)).trans Q)).trans (KB.e k y)
 go_wp2;go_ret2;exact⟨D,m,a1,a0⟩
theorem AL(B b g f:Nat)(d:dB×Bool)(l:List UInt8)(c:List O)(w K:J)(h:Wu w B b d l)(C:w.heap[g]?=H (dr (c.map dQ).toArray 9))(z:ln l+ln (iE c)<=140737488355328)(a2:Z [] K w)(s:zq K.heap<=B)(t:ln c<=4096):dS 413 #[dq b,lO g (ln c) f] w λe P=>e=pG/\Wu P B b d (l++iE c)/\Z [] K P/\KB w P:=by
 obtain⟨n,k⟩:∃n,n=ln c:=⟨_,D⟩;rw[<-k]at t|-;have r:=V k;have I:=h;have p:=C;have M:=a2;have U:=z;clear k;go_enter func413,ntmps413;go_wp21
 go_loopw [8] (λv wr=>∃i:Nat,v=G i/\i<=n/\Wu wr B b d (l++iE (c.take i))/\Z [] K wr/\KB w wr) (λv _=>n-(intOf v).toNat)
 case atStart=>grind[iE,KB]
 case round=>
  obtain⟨i,rfl,W,a,hk,y⟩:=hrel;by_cases a3:i<n
  .have h1:i<ln c:=by rw[<-r.out];exact a3
   have x:=y g _ _ p (by decide);have S:wr.cell? ⟨g,i,F⟩=H (Y c[i]):=by rw[aF x];simp[h1]
   have j:iE (c.take (i+1))=iE (c.take i)++c[i].data.toList:=by rw[IJ,qM h1,Ex];simp[iE]
   have q:ln (l++iE (c.take i))+c[i].size<=140737488355328:=by have e:=mf ln (mf iE (Mu (i+1) c));rw[Ex,j]at e;have:=U;have R:c[i].data.toList.length=c[i].size:=xL;simp only[qm]at e|-;omega
   have N:B<=b/\b<zq wr.heap:=by rcases a with⟨E,_,m,_⟩|⟨E,_,m,_⟩<;>exact⟨E,fp m⟩
   have Co:=Ry B b d _ c[i] wr K a q (by omega) hk s;rw[oX,<-j]at Co;have aI:=V y;generalize c[i]=u at *;clear y;go_wp21;refine Co.mono ?_;rintro e L⟨rfl,a0,T,a1⟩;have Q:=aI.trans a1;go_wp2;go_roundw
   case rel=>grind
   case measure=>simp[intOf];omega
  .have A:c.take i=c:=zA (by grind[Hid.out]);rw[A]at a;have a0:=a;have T:=hk;have Q:=y;clear y;go_wp2;go_end0;grind
def ZF(z:J)(a:dB)(q:O->Bool):Prop:=∃k u,a=.func (.func k) #[] u/\(∀j w,(callFunc k j).run prog w=.ok (.enter k j) w)/\∀W,Z [] z W->∀s,dS k (#[Y s]++u) W λe y=>e=ff (.bool (q s))/\y=W
theorem OQ(j q:List UInt8)(c:Nat)(u:1<=c)(h:ln q<=c*ln j):∀(k:Nat)(s:List UInt8),ln (fu j q k s)<=c*ln s
 |0,s=>by exact RL _ u
 |k+1,s=>by
  rw[fu];split;exact RL _ u;have P:=Lib.index_ge s j;have z:0<=dp s j:=by grind
  have Q:=Lib.index_room s j z;have T:(dp s j).toNat+ln j<=ln s:=by omega
  have y:=OQ j q c u h k (s.drop ((dp s j).toNat+ln j));generalize (dp s j).toNat=i at *;simp at y|-;obtain⟨d,E⟩:∃d,ln s=i+ln j+d:=⟨ln s-(i+ln j),by omega⟩;rw[E]at y|-;have e1:i+ln j+d-(i+ln j)=d:=by omega
  rw[e1]at y;have e2:c*(i+ln j+d)=c*i+c*ln j+c*d:=by grind
  have K:i<=c*i:=RL _ u;omega
theorem y8(s q j:O)(c:Nat)(u:1<=c)(h:j.size<=c*q.size):(RV s q j).size<=c*s.size:=by have e2:(RV s q j).size=ln (eB _ _ _):=rfl;rw[e2];unfold eB gK;split;exact RL _ u;exact OQ _ _ c u (by simp_all) _ _
theorem Ee(s:O):(zZ s).size<=15*s.size:=by have j:=y8 s uM lB 5 (by decide) (by decide);have q:=y8 (RV s uM lB) uh nS 3 (by decide) (by decide);grind[zZ]
theorem S4(s:O):(Cz s).size<=240*s.size:=by have j:=Ee s;have q:=y8 (zZ s) oY ky 4 (by decide) (by decide);have u:=y8 (RV (zZ s) oY ky) eV qH 4 (by decide) (by decide);grind[Cz]
def EY(s j q:O)(w:J)(z:RP w)(K:s.size<=2000000000)(u:1<=j.size)(E:q.size<=16):dS 245 #[Y s,Y j,Y q] w (vc w (Y (RV s j q))):=by
 have⟨⟨m,hm⟩,_⟩:=z;refine(Tryz.strings_ReplaceAll s j q m w (by omega) hm u ?_).mono ?_;have:=Nat.mul_le_mul (Lib.countB_le j u _ s (dF _)) E;omega;rintro e P⟨rfl,y⟩;exact⟨D,KS y⟩
def N6(s:O)(w:J)(u:RP w)(E:s.size<=1048576):dS 414 #[Y s] w (vc w (Y (zZ s))):=by
 have K:=y8 s uM lB 5 (by decide) (by decide);go_enter func414,ntmps414;go_wp21;refine(EY s uM _ w u (by omega) (by decide) (by decide)).mono ?_;rintro e z⟨rfl,j⟩;go_wp21;refine(((λP (y)=>EY (RV s uM lB) uh nS P (u.kept y) (by omega) (by decide) (by decide))) z j).mono ?_;rintro e a⟨rfl,q⟩;go_wp2;go_ret;exact⟨D,(j.trans q)⟩
theorem Wu.cells{l:List UInt8}(h:Wu w B b vv l):∃p v,w.heap[b]?=H (dr #[p,v,vv.1,.bool vv.2] 98)/\B<=b:=by
 rcases h with⟨j,v,q,_⟩|⟨j,v,q,_⟩
 all_goals grind
theorem ak5(B b:Nat)(c:dB×Bool)(l:List UInt8)(s:O)(w z:J)(h:Wu w B b c l)(K:RP z)(hf:c.2=I)(o:s.size<=1048576)(a0:ln l+240*s.size<=140737488355328)(j:Z [] z w)(Q:zq z.heap<=B):dS 442 #[dq b,Y s] w λe P=>e=pG/\Wu P B b c (l++(Cz s).data.toList)/\Z [] z P:=by
 have⟨p,v,hb,hBb⟩:=h.cells;have c3:w.cell? ⟨b,3,F⟩=H (.bool I):=by rw[aF hb,<-hf];rfl
 have a1:=fp hb;have A:=Ee s;have G:=S4 s;have C:=y8 (zZ s) oY ky 4 (by decide) (by decide);have d:=N6 s w (K.kept j) o;have f:=(λP (u:Z [] w P)=>EY (zZ s) oY ky P ((K.kept j).kept u) (by omega) (by decide) (by decide));have T:=(λP (u:Z [] w P)=>EY (RV (zZ s) oY ky) eV qH P ((K.kept j).kept u) (by omega) (by decide) (by decide));rw[show RV (RV (zZ s) oY ky) eV qH=Cz s from D]at T;have U:=(λP (u:Z [] w P)=>AL B b P.heap.size 1 c l [Cz s] (P.alloc (dr #[Y (Cz s)] 9)) z (h.kept (u.alloc _)) (aY P _) (by simp only[iE,GP,GQ,yy];rw[show ln (Cz s).data.toList=(Cz s).size from xL];omega) ((j.trans u).alloc _) Q (by simp));have m:iE [Cz s]=(Cz s).data.toList:=by simp[iE]
 rw[m]at U;generalize zZ s=t at *;generalize Cz s=x at *;go_enter func442,ntmps442;go_wp21;refine d.mono ?_;rintro e w1⟨rfl,q⟩;have g:=f w1 q;go_wp21;refine g.mono ?_;rintro e w2⟨rfl,y⟩;have i:=T w2 (q.trans y);have E:=q.trans y;go_wp21;refine i.mono ?_;rintro e w3⟨rfl,a⟩;have k:=U w3 (E.trans a);go_wp21;refine k.mono ?_;rintro e w4⟨rfl,n,r,_⟩;go_wp2;go_end0;grind
theorem ak4(B b:Nat)(c:dB×Bool)(l:List UInt8)(s:O)(w j:J)(h:Wu w B b c l)(K:c.2=C)(z:ln l+s.size<=140737488355328)(q:Z [] j w)(u:zq j.heap<=B):dS 442 #[dq b,Y s] w λe P=>e=pG/\Wu P B b c (l++s.data.toList)/\Z [] j P:=by
 have⟨p,v,hb,hBb⟩:=h.cells;have T:w.cell? ⟨b,3,F⟩=H (.bool C):=by rw[aF hb,<-K];rfl
 have y:=AL B b w.heap.size 1 c l [s] (w.alloc (dr #[Y s] 9)) j (h.kept ((Z.refl [] w).alloc _)) (aY w _) (by simp only[iE,GP,GQ,yy];simp_all) (q.alloc _) u (by simp);have E:iE [s]=s.data.toList:=by simp[iE]
 rw[E]at y;go_enter func442,ntmps442;go_wp21;refine y.mono ?_;rintro e U⟨rfl,a,Q,_⟩;go_wp2;refine mL (II D _ _ _) D ?_;grind
theorem Wu.set{w:J}{B b:Nat}{c:dB×Bool}{l:List UInt8}(h:Wu w B b c l)(a:Bool):Wu (w.setCell ⟨b,3,F⟩ (.bool a)) B b (c.1,a) l:=by
 have go:∀p,te w B b c p l->te (w.setCell ⟨b,3,F⟩ (.bool a)) B b (c.1,a) p l:=by rintro p⟨j,v,u,y,z⟩;exact⟨j,v,bH u 3 _,((Z.refl [b] w).setCell (.inl (by simp)) _).ownsRow y (λq E=>by grind),z⟩
 grind[Wu]
def Om(x y s:O):ln (iE [x,s,y])=x.size+s.size+y.size:=by simp only[iE,GP,GQ,yy,qm];rw[show ln s.data.toList=s.size from xL,show ln x.data.toList=x.size from xL,show ln y.data.toList=y.size from xL];omega
theorem aik(B b:Nat)(c:dB×Bool)(l:List UInt8)(s:O)(w q:J)(h:Wu w B b c l)(T:ln l+s.size+3<=140737488355328)(E:Z [] q w)(K:zq q.heap<=B):dS 412 #[dq b,Y s] w λe P=>e=pG/\Wu P B b (c.1,I) (l++iE [uN,s,eV])/\Z [] q P:=by
 have⟨p,v,hb,hBb⟩:=h.cells;have U:=aF hb 3;have f3:=cY hb 3;dsimp at U;have a0:=fp hb;have Q:=h.set I;have j:Z [] q (w.setCell ⟨b,3,F⟩ (.bool I)):=E.setCell (.inr (by grind)) _;have d:=Om uN eV s;have e1:uN.size=2:=rfl;have e2:eV.size=1:=rfl;rw[e1,e2]at d;obtain⟨W,u⟩:∃W,W=w.setCell ⟨b,3,F⟩ (.bool I):=⟨_,D⟩;rw[<-u]at Q j;have a:=AL B b W.heap.size 3 _ l [uN,s,eV] _ q (Q.kept ((Z.refl [] W).alloc _)) (aY W _) (by omega) (j.alloc _) K (by simp);have z:zq W.heap=zq w.heap:=by rw[u];simp
 rw[z]at a;have y:=V u.symm;clear u;go_enter func412,ntmps412;go_wp21;rw[y.out];refine a.mono ?_;rintro e w4⟨rfl,f,g,_⟩;go_wp2;go_end0;grind
theorem KB.row(h:KB w P){j:Nat}(z:w.ownsRow base e j v n xs)(a:e∉[98,5]):P.ownsRow base e j v n xs:=by refine⟨z.1,?_⟩;rcases z.2 with e2|⟨q,u,y,e2,E,K,Q⟩;grind;exact .inr ⟨q,u,y,e2,E,h _ _ _ K a,Q⟩
theorem Wx(L:iB)(i:Nat)(h:i<ln L):(Ef L)[i*2]?=H (Y (L[i]).1)/\(Ef L)[i*2+1]?=H (Y (L[i]).2):=by
 induction L generalizing i with
 |nil=>simp at h
 |cons a L ih=>
  cases i<;>grind
def Ed(s:O):O:=RV (zZ s) mg mQ
theorem adq(s:O):(Ed s).size<=90*s.size:=by have j:=Ee s;have q:=y8 (zZ s) mg mQ 6 (by decide) (by decide);grind[Ed]
def MD(L:iB):List UInt8:=L.flatMap λa=>iE [⟨#[32]⟩,a.1,yA,Ed a.2,mg]
def KE(s:O)(bY:iB):List UInt8:=iE [oY,s]++MD bY++iE [eV]
theorem aij(B b:Nat)(N:dB×Bool)(vd:O->Bool)(l:List UInt8)(s:O)(av:dB)(bY:iB)(w c:J)(h:Wu w B b N l)(hv:ZF c N.1 vd)(hg:RP c)(aI:s.size<=5000)(hA:tC w av bY)(b0:ln bY<=16)(ha:∀a∈bY,a.1.size<=5000/\a.2.size<=66000)(aT:ln l+6000+16*6000000<=140737488355328)(aj:Z [] c w)(a7:zq c.heap<=B):dS 411 #[.pointer (H ⟨b,0,F⟩),.string s,av] w λe P=>e=.returned (.bool (!vd s))/\(∃u,Wu P B b (N.1,s.toList==[115,116,121,108,101]) u/\(ln u)<=ln l+6000+ln bY*6000000/\u≠[]/\u=l++KE s bY)/\Z [] c P:=by
 have⟨vx,fl⟩:=N;have⟨kv,lb,hvx,hcf,hcall⟩:=hv;have al:vx=.func (.func kv) #[] lb:=hvx;subst al;clear hvx;have⟨ao,cp,hav⟩:=df hA;subst hav;have ez:ln (iE [oY,s])=s.size+1:=by simp only[iE,GP,GQ,yy,qm];rw[show ln s.data.toList=s.size from xL];simp;omega
 have ag:ln (iE [eV])=1:=rfl;have C1:=V (AL B b w.heap.size 2 _ l [oY,s] (w.alloc (.cells #[.string oY,.string s] 9 (0,0))) c (h.kept ((Z.refl [] w).alloc _)) (aY w _) (by omega) (aj.alloc _) a7 (by simp));have R:=V (λP u (hw:Wu P B b (.func (.func kv) #[] lb,fl) u) (hl:ln u+1<=140737488355328) (hk:Z [] c P)=>AL B b P.heap.size 1 _ _ [eV] (P.alloc (.cells #[.string eV] 9 (0,0))) c (hw.kept ((Z.refl [] P).alloc _)) (aY P _) (by omega) (hk.alloc _) a7 (by simp));have S:=V hcall;have a9:=V (hA.alloc (.cells #[.string oY,.string s] 9 (0,0)));have EZ:=V ez;have a3:iE [oY,s]≠[]:=by simp[iE]
 have aB:=V a3;have aq:=V ag;have ar:=V ha;have au:=V hg;clear a3 ha hg;unfold KE;generalize iE [oY,s]=X at *;generalize iE [eV]=t at *;clear h aj ez ag hcall hA;go_enter func411,ntmps411;go_wp21;refine C1.out.mono ?_;rintro e w1⟨rfl,h1,k1,ap⟩;have aa:=V (ap.row a9.out (by decide));have H1:=V h1;have K1:=V k1;clear h1 k1 ap a9;go_wp21
 go_loopw [15] (λv wr=>∃(j:Nat)(u:List UInt8),v=.int .i64 j/\j<=ln bY/\Wu wr B b (.func (.func kv) #[] lb,fl) u/\(ln u)<=ln l+5001+j*6000000/\u≠[]/\u=l++(X++MD (bY.take j))/\Z [] c wr/\tC wr (.slice ao (ln bY) cp) bY) (λv _=> ln bY-(intOf v).toNat)
 case atStart=>exact⟨0,_,D,eZ _,H1.out,by rw[qm,EZ.out];omega,λe=>aB.out (fL.1 e).2,by simp[MD],K1.out,aa.out⟩
 case round=>
  obtain⟨j,u,rfl,b1,L,aR,T,E,a2,K⟩:=hrel;by_cases a6:j<ln bY
  .have b2:ln bY≠0:=by omega
   obtain⟨d,aP⟩:∃d,ao=H ⟨d,0,F⟩:=by
    rcases K.2 with⟨e,h0⟩|⟨q,aS,aX,e,_⟩
    all_goals grind
   subst aP;have⟨f0,f1⟩:=Wx bY j a6;have q0:wr.cell? ⟨d,j*2,F⟩=H (.string bY[j].1):=by rw[K.cellAt (j*2) (by omega)];exact f0
   have q1:wr.cell? ⟨d,j*2+1,F⟩=H (.string bY[j].2):=by rw[K.cellAt (j*2+1) (by omega)];exact f1
   have⟨z1,z2⟩:=ar.out bY[j] (uI a6);have U:MD (bY.take (j+1))=MD (bY.take j)++iE [⟨#[32]⟩,bY[j].1,yA,Ed bY[j].2,mg]:=by rw[IJ,qM a6];simp only[MD,Option.toList,GL,GP,GQ,yy]
   have af:=V U;have az:=V E;clear U E;generalize bY[j].1=nm at *;generalize bY[j].2=y at *;clear f0 f1;have r:=V L;have x:=V a2;have ad:=V T;have A2:=V K;clear L a2 K T;go_wp21;obtain⟨ba,Y⟩:∃ba,ba=zq wr.heap:=⟨_,D⟩;obtain⟨f,a1⟩:∃f,f=wr.alloc (.cells #[.string nm,.string y] 295 (0,0)):=⟨_,D⟩;have ab:Hid (f.heap[ba]?=H (.cells #[.string nm,.string y] 295 (0,0))):=by rw[a1,Y];exact V (aY wr _)
   have k0:Z [] wr f:=by rw[a1];exact(Z.refl [] wr).alloc _
   have ac:=V ((au.out.kept x.out).kept k0);obtain⟨b3,hG⟩:∃b3:J->Prop,b3=λW=>∃i,Wu W B b (.func (.func kv) #[] lb,fl) i/\(ln i)<=ln l+5001+(j+1)*6000000/\i≠[]/\i=l++(X++MD (bY.take (j+1)))/\Z [] c W/\tC W (.slice (H ⟨d,0,F⟩) (ln bY) cp) bY:=⟨_,D⟩;have aK:Hid (∀W A,Z [] f W->W.heap[A]?=H (.cells #[.string ⟨#[32]⟩,.string nm,.string yA,.string (Ed y),.string mg] 9 (0,0))->dS 413 #[.pointer (H ⟨b,0,F⟩),.slice (H ⟨A,0,F⟩) 5 5] W λe m=>e=.returned (.tuple #[])/\b3 m):=V (by
    intro W A q aQ;have zj:ln (iE [⟨#[32]⟩,nm,yA,Ed y,mg])<=5946004:=by have:=adq y;simp only[iE,GP,GQ,yy,qm];rw[show ln nm.data.toList=nm.size from xL,show ln (Ed y).data.toList=(Ed y).size from xL];simp;omega
    refine(AL B b A 5 _ u [⟨#[32]⟩,nm,yA,Ed y,mg] W c (r.out.kept (k0.trans q)) aQ (by omega) (x.out.trans (k0.trans q)) a7 (by simp)).mono ?_;rintro e m⟨rfl,r1,r2,r3⟩;rw[hG];exact⟨D,_,r1,by rw[qm];omega,λe=>ad.out (fL.1 e).1,(by rw[af.out,az.out];simp),r2,r3.row ((k0.trans q).ownsRow A2.out (λ_ _=>by simp)) (by decide)⟩)
   have aw:=V hG;have aE:=V a1.symm;clear hG a1 k0 r A2 ad aa H1 K1 R S q0 q1 aR;rw[<-Y,aE.out];clear Y;refine xr (by rfl) ?_;refine oW (λ(g:Nat) z=>⟨#[.pointer (H ⟨b,0,F⟩),.string s,.slice (H ⟨d,0,F⟩) (ln bY) cp,qu,qu,qu,.bool I,qu,.pointer (H ⟨ba,0,F⟩),.pointer (H ⟨b,0,F⟩),.string s,.slice (H ⟨zq w.heap,0,F⟩) 2 2,.tuple #[],.slice (H ⟨d,0,F⟩) (ln bY) cp,.int .i64 (ln bY:Int),.int .i64 (j:Int),.bool C,.pointer (H ⟨d,j*2,F⟩),.agg #[.string nm,.string y],ce z 0 u19 (.pointer (H ⟨b,0,F⟩)),ce z 1 u20 (.pointer (H ⟨ba,0,F⟩)),ce z 2 u21 (.string nm),ce z 3 u22 (.pointer (H ⟨ba,1,F⟩)),ce z 4 u23 (.string y),ce z 5 u24 (.string (zZ y)),ce z 6 u25 (.string (Ed y)),ce z 7 u26 (.slice (H ⟨g,0,F⟩) 5 5),ce z 8 u27 (.tuple #[]),u28,qu,qu,qu,qu,qu,qu,qu,qu,qu,qu,qu,qu,qu,qu,qu],[]⟩) (λg z W=>(dn z 8=I->Z [] f W/\(dn z 7=C->W.heap[g]?=H (.cells #[.string ⟨#[32]⟩,.string nm,.string yA,.string (Ed y),.string mg] 9 (0,0))))/\(dn z 8=C->b3 W)) 9 [[],[],[1],[],[3],[3,4],[3,4,5],[1,2,3,4,5,6],[0,1,2,3,4,5,6,7]] 0 D D ⟨λ_=>⟨(Z.refl [] f).drew,λh=>by cases h⟩,λh=>by cases h⟩ ?_ ?_
   .repeat' first|exact kY|refine kX ?_ ?_
    all_goals
     rintro g z W G n hn;simp[Cm]at n;have h8:dn z 8=I:=by first|simp_all|simp[n]
     have⟨q,h7⟩:=G.1 h8;have c0:=aF (q.at ab.out (by simp)) 0;have c1:=aF (q.at ab.out (by simp)) 1;dsimp at c0 c1;have M:∀{k},k≠8->∀{p:Prop},dn (z.setIfInBounds k C) 8=C->p:=λhk _ h=>by rw[jy hk,h8]at h;cases h
     refine lz D ?_;intro K' Q;simp only[vX,n];go_simp
     first
     |refine Q _ _ ⟨g,?_,λ_=>⟨q,oi h7 (by decide)⟩,M (by decide)⟩
     |refine(N6 y W (ac.out.kept q) (by omega)).mono ?_;rintro e m⟨rfl,o⟩;refine Q _ _ ⟨g,?_,λ_=>⟨q.trans o,λh=>by rw[jy (by decide),hn 7 (by decide)]at h;cases h⟩,M (by decide)⟩
     |refine(EY (zZ y) mg mQ W (ac.out.kept q) (by have:=Ee y;omega) (by decide) (by decide)).mono ?_;rintro e m⟨rfl,o⟩;refine Q _ _ ⟨g,?_,λ_=>⟨q.trans o,λh=>by rw[jy (by decide),hn 7 (by decide)]at h;cases h⟩,M (by decide)⟩
     |refine Q _ _ ⟨zq W.heap,?_,λ_=>⟨q.alloc _,λ_=>aY W _⟩,M (by decide)⟩
     |refine(aK.out W g q (h7 (by simp[n]))).mono ?_;rintro e m⟨rfl,aM⟩;refine Q _ _ ⟨g,?_,λh=>(by rw[nf]at h;cases h),λ_=>aM⟩
     simp[vf,DS,vX,n,Ed]
   .rintro g W G;simp only[PM];have ax:=V (G.2 tI);clear G;rename_i KK ai;refine ai _ _ ?_;clear ai KK;go_wp2;go_roundw
    case rel=>
     have hf:=ax.out;rw[aw.out]at hf;have⟨i,r1,r2,r3,re,r4,r5⟩:=hf;exact⟨j+1,i,by go_num,by omega,r1,r2,r3,re,r4,r5⟩
    case measure=>simp[intOf];omega
  .have e:j=ln bY:=by omega
   have an:u++t=l++(X++MD bY++t):=by rw[E,e,List.take_length];simp only[oX]
   have aL:=V an;clear an E;have D2:=V (R.out wr u L (by omega) a2);clear R L a2 K;go_wp21;refine D2.out.mono ?_;rintro e w2⟨rfl,h2,k2,_⟩;have⟨p,v,hb,hBb⟩:=h2.cells;have c3:w2.cell? ⟨b,3,F⟩=H (.bool fl):=by rw[aF hb];rfl
   have c2:w2.cell? ⟨b,2,F⟩=H (.func (.func kv) #[] lb):=by rw[aF hb];rfl
   have f3:=cY hb 3;have aU:=fp hb;obtain⟨a0,ak⟩:∃a0,a0=(s.toList==[115,116,121,108,101]):=⟨_,D⟩;have ah:=h2.set a0;have a8:Z [] c (w2.setCell ⟨b,3,F⟩ (.bool a0)):=k2.setCell (.inr (by show zq c.heap<=b;omega)) _;have aW:(w2.setCell ⟨b,3,F⟩ (.bool a0)).cell? ⟨b,2,F⟩=H (.func (.func kv) #[] lb):=by rw[aF (bH hb 3 _)];rfl
   have D3:=V (S.out _ a8 s);have aA:=V (show u++t≠[]from λe=>T (fL.1 e).1);have ay:=V (show ln (u++t)<=ln l+6000+ln bY*6000000 by rw[qm,aq.out];omega);have r:=V ah;have x:=V a8;have ae:=V ak;clear h2 k2 hb S ah a8;generalize hq:vd s=q at D3;have HQ:=V hq;clear hq;go_wp21;rw[<-ae.out];refine D3.out.mono ?_;rintro e w3⟨rfl,rfl⟩;go_wp2;go_ret;have e9:=ae.out;subst e9;exact⟨by rw[HQ.out];rfl,⟨_,r.out,ay.out,aA.out,aL.out⟩,x.out⟩
def l6:Ev->Bool
 | .tx _=>I
 |_=>C
def yg:Ev->Bool
 | .dt s=>decide (s.size<=5000)
 | .cm s=>decide (s.size<=5000)
 | .tx s=>decide (s.size<=1048576)
 | .enter s bY=>decide (ln bY<=16)&&(bY.all λa=>decide (a.1.size<=5000)&&decide (a.2.size<=66000))&&decide (s.size<=5000)
 | .tz s=>decide (s.size<=5000)
def RZ:Ev->Nat
 | .tx s=>240*s.size
 | .enter _ _=>6000+16*6000000
 |_=>6000
def vy(j:List Ev):Nat:=(j.map RZ).sum
theorem vM(j:List Ev)(e:Ev):vy (j++[e])=vy j+RZ e:=by simp[vy]
def yw(x:List UInt8×Bool):Ev->List UInt8×Bool
 | .dt s=>(x.1++iE [fE,s,eV],x.2)
 | .cm s=>(x.1++iE [nT,s,qq],x.2)
 | .tx s=>(x.1++(if x.2 then s else Cz s).data.toList,x.2)
 | .enter s bY=>(x.1++KE s bY,s.toList==[115,116,121,108,101])
 | .tz s=>(x.1++iE [uN,s,eV],I)
def Vs(j:List Ev):List UInt8×Bool:=j.foldl yw ([],I)
def AM(j:List Ev)(e:Ev):Vs (j++[e])=yw (Vs j) e:=by simp[Vs]
theorem Vf(B b:Nat)(f:dB)(n:O->Bool)(K:List Ev)(z:J)(L:ZF z f n)(p:RP z)(y:zq z.heap<=B)(H:∀e∈K,yg e=C)(hw:vy K<=140737488355328):Bf 86 (dq b) n K z (λpre W=>Wu W B b (f,(Vs pre).2) (Vs pre).1/\(ln (Vs pre).1)<=vy pre/\(pre.any l6=C->(Vs pre).1≠[])):=by
 have last:∀{pre g},pre++[g] <+:K->yg g=C/\vy pre+RZ g<=140737488355328:=by
  intro pre g h;refine⟨H g (h.subset (by simp)),?_⟩;have:vy (pre++[g])<=vy K:=by obtain⟨r,rfl⟩:=h;simp[vy]
  rw[vM]at this;omega
 refine {mono:=?_,dt:=λs=>?_,cm:=λs=>?_,tx:=λs=>?_,tz:=λs=>?_,enter:=?_};grind[Wu.kept]
 .refine⟨441,dq b,λw=>by kernel_rfl,λw=>by kernel_rfl,enters_of func441 (by kernel_rfl) D,λpre W c T U=>?_⟩;obtain⟨E,Q⟩:=last U;simp only[yg,zC,RZ]at E Q;obtain⟨q,d,j⟩:=T;simp only[AM];generalize Vs pre=x at *;obtain⟨l,a⟩:=x;dsimp only[yw]at q d j|-;refine((show Calls prog 441 #[dq b,Y s] W λe P=>e=pG/\Wu P B b (f,a) (l++iE [fE,s,eV])/\Z [] z P by have m:=Om fE eV s;have e1:fE.size=10:=rfl;have e2:eV.size=1:=rfl;rw[e1,e2]at m;have k:=AL B b W.heap.size 3 _ l [fE,s,eV] _ z (q.kept ((Z.refl [] W).alloc _)) (aY W _) (by omega) (c.alloc _) y (by simp);go_enter func441,ntmps441;go_wp21;refine k.mono ?_;rintro e w4⟨rfl,t,v,_⟩;go_wp2;go_end0;grind)).mono ?_
  rintro e S⟨rfl,h3,i⟩;refine⟨D,⟨h3,?_,?_⟩,i⟩;rw[vM,qm,Om,show fE.size=10 from D,show eV.size=1 from D];grind[RZ];grind[fL,iE]
 .refine⟨410,dq b,λw=>by kernel_rfl,λw=>by kernel_rfl,enters_of func410 (by kernel_rfl) D,λpre W c T U=>?_⟩;obtain⟨E,Q⟩:=last U;simp only[yg,zC,RZ]at E Q;obtain⟨q,d,j⟩:=T;simp only[AM];generalize Vs pre=x at *;obtain⟨l,a⟩:=x;dsimp only[yw]at q d j|-;refine((show Calls prog 410 #[dq b,Y s] W λe P=>e=pG/\Wu P B b (f,a) (l++iE [nT,s,qq])/\Z [] z P by have m:=Om nT qq s;have e1:nT.size=4:=rfl;have e2:qq.size=3:=rfl;rw[e1,e2]at m;have k:=AL B b W.heap.size 3 _ l [nT,s,qq] _ z (q.kept ((Z.refl [] W).alloc _)) (aY W _) (by omega) (c.alloc _) y (by simp);go_enter func410,ntmps410;go_wp21;refine k.mono ?_;rintro e w4⟨rfl,t,v,_⟩;go_wp2;go_end0;grind)).mono ?_
  rintro e S⟨rfl,h3,i⟩;refine⟨D,⟨h3,?_,?_⟩,i⟩;rw[vM,qm,Om,show nT.size=4 from D,show qq.size=3 from D];grind[RZ];grind[fL,iE]
 refine⟨442,dq b,λw=>by kernel_rfl,λw=>by kernel_rfl,enters_of func442 (by kernel_rfl) D,λpre W c T U=>?_⟩;obtain⟨E,Q⟩:=last U;simp only[yg,zC,RZ]at E Q;obtain⟨q,d,j⟩:=T;simp only[AM];generalize Vs pre=x at *;obtain⟨l,a⟩:=x;dsimp only[yw]at q d j|-;have fin:∀u:O,u.size<=240*s.size->ln (l++u.data.toList)<=vy (pre++[.tx s])/\((pre++[Ev.tx s]).any l6=C->l++u.data.toList≠[]):=by
  intro u M;refine⟨?_,?_⟩;rw[vM,qm,show ln u.data.toList=u.size from xL];grind[RZ];intro h;rw[List.any_append]at h;have aI:pre.any l6=C:=by simpa [l6]using h
  grind[fL]
 cases a with
 |false=>
  refine(ak5 B b (f,I) l s W z q p D E (by omega) c y).mono ?_;grind[S4]
 |true=>
  refine(ak4 B b (f,C) l s W z q D (by omega) c y).mono ?_;grind
 refine⟨412,dq b,λw=>by kernel_rfl,λw=>by kernel_rfl,enters_of func412 (by kernel_rfl) D,λpre W c T U=>?_⟩;obtain⟨E,Q⟩:=last U;simp only[yg,zC,RZ]at E Q;obtain⟨q,d,j⟩:=T;simp only[AM];generalize Vs pre=x at *;obtain⟨l,a⟩:=x;dsimp only[yw]at q d j|-;refine(aik B b (f,a) l s W z q (by omega) c y).mono ?_;rintro e S⟨rfl,h3,i⟩;refine⟨D,⟨h3,?_,?_⟩,i⟩;rw[vM,qm,Om,show uN.size=2 from D,show eV.size=1 from D];grind[RZ];grind[fL,iE];refine⟨411,dq b,λw=>by kernel_rfl,λw=>by kernel_rfl,enters_of func411 (by kernel_rfl) D,λpre W s av bY c T U G a0=>?_⟩;obtain⟨E,Q⟩:=last U;simp only[yg,fq,zC,Pf,RZ]at E Q;obtain⟨⟨aI,F⟩,A⟩:=E;obtain⟨q,d,j⟩:=T;simp only[AM];generalize Vs pre=x at *;obtain⟨l,a⟩:=x;dsimp only[yw]at q d j|-;refine(aij B b (f,a) n l s av bY W z q L p A G aI F (by omega) c y).mono ?_;grind[vM,RZ]
attribute [local go_sem] db
def Z2(w:J)(a:Nat)(c:io)(k:Nat):Prop:=w.heap[a]?=H (dr c 72)/\c[8]?=H (dq k)
theorem Z2.kept{k:Nat}(h:Z2 w bx c k)(j:Z [] w P):Z2 P bx c k:=⟨j.at h.1 (by simp),h.2⟩
theorem Z2.u{k:Nat}(h:Z2 w bx c k):w.cell? ⟨bx,8,F⟩=H (dq k):=by rw[aF h.1,h.2]
def Hq(w:J)(a k:Nat)(c:io)(h:Z2 w a c k):Calls prog 25 #[dq a] w λe P=>e=ff (.bool C)/\P=w:=by
 have j:=h.u;go_wp2;go_ret;simp
def Ol(w:J)(a:Nat):Calls prog 24 #[dq a] w λe P=>e=ff (.func (.func 33) #[dq a] #[])/\P=w:=by
 go_wp2;go_ret;simp
theorem ain(l a k:Nat)(c:io)(u:O)(bY:iB)(ts:List Tn)(y:J)(T:Z2 y a c k)(h:ik y (.el u bY ts) (.el k))(a1:List It->J->Prop)(q:J->Prop)(g:IB l (gF (rN (λ_=>I) ts)) y a1 q)(U:∀pre W j,a1 pre W->Z [] W j->a1 pre j)(P:∀W j,q W->Z [] W j->q j)(W:J)(Q:∀a2 b,zq W.heap<=b->Wk a2 b l I->q a2->q (a2.setCell ⟨b,1,F⟩ (.bool C)))(z:Z [] y W)(f:a1 [] W):dS 33 #[dq a,.func (.yield l) #[] #[]] W λe j=>e=pG/\(a1 (gF (rN (λ_=>I) ts)) j\/q j)/\Z [] y j:=by
 have m:=V (Hq W a k c (T.kept z));have d:=V ((by show Calls prog 55 #[dq k,.func (.yield l) #[] #[]] W λe j=>e=pG/\(a1 (gF (rN (λ_=>I) ts)) j\/q j)/\Z [] y j;have i:=(Z.refl [] W).alloc (dr #[.func (.yield l) #[] #[],.bool I] 201);have hw:=aY W (dr #[.func (.yield l) #[] #[],.bool I] 201);have Co:=V (yv (XN l W.heap.size _ y a1 q g z.size (λa2=>Q a2 _ (dF _)) U P) k u bY ts h D _ (z.trans i) (.inl ⟨U _ _ _ f i,hw⟩));go_enter func55,ntmps55;go_wp2_with fail;refine Co.out.mono ?_;rintro e p⟨rfl,E,K⟩;have n:=V (E.imp mr mr);have aI:=V K;clear E K;go_wp2;go_end0;grind[Hid.out]))
 have t:=(T.kept z).u;have a0:=fp (T.kept z).1;clear T h g U P Q z f;generalize a1 (gF (rN (λ_=>I) ts))=r at d|-;go_enter func33,ntmps33;go_wp2_with fail;refine m.out.mono ?_;rintro e p⟨rfl,rfl⟩;go_wp2_with fail;refine d.out.mono ?_;rintro e s⟨rfl,E,K⟩;have n:=V E;have aI:=V K;clear E K;go_wp2;go_end0;grind[Hid.out]
def Ask.j{bm:Nat}{q:O->Bool}(h:Ask bm v q w):ZF w v q:=by have⟨k,lb,hv,he,ha⟩:=h.call;exact⟨k,lb,hv,he,λW j s=>ha W (.h j) s⟩
mutual
def LY:Tn->Nat
 | .el _ _ ks=>1+Cc ks
 | .tx _=>1
 | .cm _=>1
 | .dt _=>1
def Cc:List Tn->Nat
 |[]=>0
 |t::ts=>LY t+Cc ts
end
def zP(U:N):Nat->Nd->List Nat
 |0,_=>[]
 |k+1,.el i=>i::(match U.h i with
  |some e=>e.q.flatMap (zP U k)
  |none=>[])
 |_+1,_=>[]
def kl(U:N)(i:Nat):Nat:=match U.h i with
 |some e=> ln e.q
 |none=>0
theorem Zx(f:Nd->Tn)(g:Nd->List Nat)(h:Nat->Nat):∀ks:List Nd,(∀k∈ks,LY (f k)<=1+((g k).map h).sum)->Cc (ks.map f)<=ln ks+((ks.flatMap g).map h).sum
 |[],_=>by simp[Cc]
 |k::ks,hk=>by
  let q:=Zx f g h ks (λx j=>hk x (gS _ j))
  grind[Cc]
theorem afj(U:N):∀(k:Nat)(j:Nd),LY (wH U k j)<=1+((zP U k j).map (kl U)).sum
 |0,j=>by
  let e:wH U 0 j=BV:=by cases j<;>rfl
  grind[BV,LY]
 |k+1,.el i=>by
  show LY (match U.h i with|some e=> .el e.name e.A (e.q.map (wH U k))|none=>BV)<=1+((i::(match U.h i with|some e=>e.q.flatMap (zP U k)|none=>[])).map (kl U)).sum
  cases he:U.h i with
  |none=>grind[BV,LY]
  |some e=>
   let q:=Zx (wH U k) (zP U k) (kl U) e.q (λx _=>afj U k x)
   let u:kl U i=ln e.q:=by unfold kl;rw[he]
   grind[LY]
 |k+1,.tx i=>by
  show LY (match U.d[i]? with|some (.tx s)=> .tx s|_=>BV)<=_
  split<;>simp[BV,LY]
 |k+1,.cm i=>by
  show LY (match U.d[i]? with|some (.cm s)=> .cm s|_=>BV)<=_
  split<;>simp[BV,LY]
 |k+1,.dt i=>by
  show LY (match U.d[i]? with|some (.dt s)=> .dt s|_=>BV)<=_
  split<;>simp[BV,LY]
def I4(U:N)(j:Nat):fW:=(U.h j).bind (·.E)
def Rs(U:N):Nat->Nat->fW
 |0,j=>H j
 |n+1,j=>(Rs U n j).bind (I4 U)
def ZG(U:N)(n j:Nat):∀d,Rs U (n+d) j=(Rs U n j).bind (Rs U d)
 |0=>by simp[Rs]
 |d+1=>by show(Rs U (n+d) j).bind _=_;rw[ZG U n j d];cases Rs U n j<;>simp[Rs]
theorem Lo(q:fg r U){j p:Nat}(h:I4 U j=H p):r p<r j:=by
 unfold I4 at h;cases he:U.h j with
 |none=>grind
 |some e=>rw[he]at h;exact q.K.E j e p he h
theorem Mh(u:fg r U):∀(n j i:Nat),Rs U n j=H i->r i<=r j
 |0,j,i,h=>by cases h;simp
 |n+1,j,i,h=>by
  let y:(Rs U n j).bind _=H i:=h
  cases hq:Rs U n j with
  |none=>grind
  |some q=>
   let z:=Mh u n j q hq
   grind[Lo]
theorem Rl(u:fg r U):∀(k:Nat)(i j:Nat),j∈zP U k (.el i)->∃n,Rs U n j=H i
 |0,i,j,h=>by cases h
 |k+1,i,j,h=>by
  rcases bZ.1 h with rfl|q;exact⟨0,D⟩
  .cases he:U.h i with
   |none=>grind
   |some e=>
    rw[he]at q
    let ⟨x,hx,hj⟩:=gn.1 q
    cases x with
    |el c=>
     let ⟨n,hn⟩:=Rl u k c j hj
     let ⟨ej,g1,g2⟩:=u.E.q i e c he (o9.2 hx)
     refine⟨n+1,?_⟩;show(Rs U n j).bind _=H i;grind[I4]
    |tx c=>cases k<;>cases hj
    |cm c=>cases k<;>cases hj
    |dt c=>cases k<;>cases hj
theorem aih(z:fg r U){m j c:Nat}(y:Rs U n j=H c)(u:Rs U m j=H d)(E:I4 U c=H i)(K:I4 U d=H i):c=d:=by
 let Q:∀{n m c d:Nat},n<m->Rs U n j=H c->Rs U m j=H d->I4 U c=H i->I4 U d=H i->False:=by
  intro n m c d P y u E K;obtain⟨q,rfl⟩:∃q,m=(n+1)+q:=⟨m-(n+1),by omega⟩;rw[ZG]at u
  let e:Rs U (n+1) j=H i:=by show(Rs U n j).bind (I4 U)=H i;rw[y];exact E
  rw[e]at u
  let T:=Mh z q i d u
  let a:=Lo z K
  omega
 grind
def Ac(U:N)(k:Nat):∀ks:List Nd,ks.flatMap (zP U k)=(eX ks).flatMap (λc=>zP U k (.el c))
 |[]=>rfl
 | .el c::ks=>by simp[eX];rw[Ac U k ks]
 | .tx c::ks=>by
  let e:zP U k (.tx c)=[]:=by cases k<;>rfl
  simp[e];exact Ac U k ks
 | .cm c::ks=>by
  let e:zP U k (.cm c)=[]:=by cases k<;>rfl
  simp[e];exact Ac U k ks
 | .dt c::ks=>by
  let e:zP U k (.dt c)=[]:=by cases k<;>rfl
  simp[e];exact Ac U k ks
theorem Ks(y:fg r U)(k:Nat)(q:∀c,(zP U k (.el c)).Nodup):∀j:List Nat,j.Nodup->(∀c∈j,I4 U c=H i)->(j.flatMap (λc=>zP U k (.el c))).Nodup
 |[],_,_=>RK
 |c::j,hn,hp=>by rw[ZS]at hn;refine kz.2 ⟨q c,Ks y k q j hn.2 (λd u=>hp d (gS _ u)),?_⟩;grind[Rl,aih]
theorem Md(j:fg r U):∀(k i:Nat),(zP U k (.el i)).Nodup
 |0,i=>RK
 |k+1,i=>by
  show(i::(match U.h i with|some e=>e.q.flatMap _|none=>[])).Nodup
  cases he:U.h i with
  |none=>simp
  |some e=>
   let u:∀c∈eX e.q,I4 U c=H i:=by
    intro c q
    let ⟨ej,g1,g2⟩:=j.E.q i e c he q
    unfold I4;exact g1▸g2
   dsimp only;rw[Ac];refine List.nodup_cons.2 ⟨?_,Ks j k (λc=>Md j k c) _ (j.E.nd i e he) u⟩;grind[Rl,Mh,Lo]
theorem OY:∀(l:List Nat)(L:List Nat),l.Nodup->(l.map (λi=>L.getD i 0)).sum<=L.sum
 |[],_,_=>by simp
 |i::l,L,hn=>by
  rw[ZS]at hn
  let j:=OY l (L.set i 0) hn.2
  grind[kS,Rg,List.set_eq_of_length_le]
theorem UR(f g:Nat->Nat)(h:∀i,f i<=g i):∀l:List Nat,(l.map f).sum<=(l.map g).sum
 |[]=>by simp
 |i::l=>by have:=UR f g h l;grind
theorem alZ{l:List Nat}(h:l.Nodup):(l.map (kl U)).sum<=wt U:=by
 refine gR (UR _ _ (λi=>?_) l) (OY l _ h);unfold kl;split;rename_i e j
 let q:=N.eH j
 grind[ke];simp
theorem akV(j:kV U)(k i:Nat):LY (wH U k (.el i))<=1+wt U:=by
 let ⟨r,hr⟩:=j
 grind[afj,alZ,Md]
mutual
def CM(B:Nat):Tn->Prop
 | .el name bY ks=>name.size<=5000/\(ln bY)<=16/\(∀p∈bY,p.1.size<=5000/\p.2.size<=66000)/\NH B ks
 | .tx s=>s.size<=B
 | .cm s=>s.size<=5000
 | .dt s=>s.size<=5000
def NH(B:Nat):List Tn->Prop
 |[]=>True
 |t::ts=>CM B t/\NH B ts
end
theorem ZE(f:Nd->Tn):∀ks:List Nd,(∀k∈ks,CM B (f k))->NH B (ks.map f)
 |[],_=>trivial
 |k::ks,h=>⟨by grind,ZE f ks (λx j=>h x (gS _ j))⟩
def aje{X:XM}(q:XM.m<=16)(h:NG U):∀(k:Nat)(u:Nd),CM (wt U) (wH U k u)
 |0,u=>by exact eZ _
 |k+1,.el i=>by
  show CM _ (match U.h i with|some e=> .el _ _ _|none=>BV)
  cases he:U.h i with
  |none=>exact eZ _
  |some e=>
   let ⟨a1,a2,a3,_⟩:=h.el he
   exact⟨a1,gR a2 q,a3,ZE _ _ (λx _=>aje q h k x)⟩
 |k+1,.tx i=>by
  show CM _ (match U.d[i]? with|some (.tx s)=> .tx s|_=>BV)
  split;rename_i s j;exact WJ j;exact eZ _
 |k+1,.cm i=>by
  show CM _ (match U.d[i]? with|some (.cm s)=> .cm s|_=>BV)
  split;rename_i s j;exact(h.2.1 _ (sA j)).1;exact eZ _
 |k+1,.dt i=>by
  show CM _ (match U.d[i]? with|some (.dt s)=> .dt s|_=>BV)
  split;rename_i s j;exact(h.2.1 _ (sA j)).1;exact eZ _
mutual
theorem ajY(y:B<=595500)(j:O->Bool):∀t:Tn,CM B t->(∀e∈Bx j t,yg e=C)/\vy (Bx j t)<=143000000*LY t/\(ln (gF (Bx j t)))<=18*LY t
 | .el name bY ks,h=>by
  have⟨h1,h2,h3,h4⟩:=h;have⟨g1,g2,g3⟩:=Qd y j ks h4;have z:yg (.enter name bY)=C:=by simp only[yg,fq,zC,Pf];exact⟨⟨h2,h3⟩,h1⟩
  have E:yg (.tz name)=C:=by simpa [yg]using h1
  unfold Bx LY;split;refine⟨λe q=>?_,?_,?_⟩;grind;simp[vy,RZ];omega;simp[gF,rB];omega;refine⟨λe q=>?_,?_,?_⟩;grind;have e:vy (.enter name bY::(rN j ks++[.tz name]))=(6000+16*6000000)+(vy (rN j ks)+6000):=by simp[vy,RZ]
  omega;have e:ln (gF (.enter name bY::(rN j ks++[.tz name])))=(1+ln bY)+(ln (gF (rN j ks))+1):=by simp[gF,rB];omega
  omega
 | .tx s,h=>by have u:s.size<=B:=h;refine⟨λe q=>?_,?_,?_⟩;rw[cC.1 q];simp[yg];omega;simp[Bx,vy,RZ,LY];omega;simp[Bx,gF,rB,LY]
 | .cm s,h=>by have u:s.size<=5000:=h;refine⟨λe q=>?_,?_,?_⟩;rw[cC.1 q];simp[yg];omega;simp[Bx,vy,RZ,LY];simp[Bx,gF,rB,LY]
 | .dt s,h=>by have u:s.size<=5000:=h;refine⟨λe q=>?_,?_,?_⟩;rw[cC.1 q];simp[yg];omega;simp[Bx,vy,RZ,LY];simp[Bx,gF,rB,LY]
theorem Qd(q:B<=595500)(j:O->Bool):∀ts:List Tn,NH B ts->(∀e∈rN j ts,yg e=C)/\vy (rN j ts)<=143000000*Cc ts/\(ln (gF (rN j ts)))<=18*Cc ts
 |[],_=>⟨(λe u=>by cases u),(by simp[rN,vy]),(by simp[rN,gF])⟩
 |t::ts,h=>by have⟨a1,a2,a3⟩:=ajY q j t h.1;have⟨b1,b2,b3⟩:=Qd q j ts h.2;unfold rN Cc;refine⟨λe u=>?_,?_,?_⟩;grind;grind[vy];grind[gF]
end
@[reducible] def xA:XM where
 m:=16
 B n:=n=⟨#[]⟩\/tr n.data.toList
 A:=Ct
 E s:=vO s.data.toList
 K s:=Vw s.data.toList
 nm:=by
  intro n j;simp only[wT,nQ,nR,od]at j;rcases j with rfl|rfl|rfl|rfl|rfl|rfl|rfl|rfl|rfl;exact .inl D
  all_goals refine .inr ⟨⟨_,_,D,?_,?_⟩,?_,?_,?_⟩<;>decide+kernel
 a0:=⟨(λ_ h=>by cases h),RK⟩
 L:=λl Q a h E K j=>by refine⟨λx u=>?_,?_⟩;rcases dA.1 u with q|q;exact h.1 x q;rw[cC.1 q];exact E.1 a K;rw[sy,kz];refine⟨h.2,by simp,λx u y z e=>?_⟩;subst e;rw[List.map_singleton,cC]at z;subst z;obtain⟨b,P,e⟩:=dW.1 u;have:vi l a.1=C:=fT.2 ⟨b,P,jM.2 e⟩;rw[j]at this;cases this
def ahp{k:DK}{m:Nat}(h:eA R (fh KV) 8 o=.tok k m):@NA xA k:=by
 by_cases q:o<=R.A.size;have:=aej (lg:=8) q;rw[h]at this;cases k with
 |Q4=>exact⟨.inr this.1,this.2⟩
 |fin=>exact⟨.inr this.1,this.2⟩
 |Sy=>exact this
 |dtp=>exact this
 |_=>trivial
 .unfold eA at h;rw[di (by omega)]at h;split at h
  let e:R.A.extract o R.A.size=⟨#[]⟩:=by
   let j:(R.A.extract o R.A.size).size=0:=by rw[ev];omega
   exact rW (RD j)
  rw[e]at h;cases h;trivial
  .unfold mO at h;split at h<;>(cases h;trivial)
def OL(q:s.size<=1024)(j:l<=16){L:List Sp}(h:pw d f l s=.done fin L):@NG xA _ fin:=by have:=@OM xA d f l s q j λ_ _ _ _ _ h=>ahp h;rw[h]at this;exact this
def kB:Tn->Nat
 | .cm _=>0
 | .tx _=>1
 | .dt _=>2
 | .el nm _ _=>if fG nm aC then 3 else if fG nm aZ then 4 else if fG nm aO then 5 else 6
mutual
def Kt(p:O):Tn->Prop
 | .el nm bY ks=>Hu p nm=C/\tr nm.data.toList/\Ct bY/\(ln bY)<=16/\(nm=aC->(ks.map kB).foldl RX 2=6)/\(cZ [bO,aN] nm=C->ln ks<=1)/\RR nm ks
 | .tx s=>Na s/\cZ (⟨#[]⟩::me) p=I/\Y2 p s
 | .cm s=>cZ ([bO,aN]++me) p=I/\vO s.data.toList
 | .dt s=>p=⟨#[]⟩/\Vw s.data.toList
def RR(p:O):List Tn->Prop
 |[]=>True
 |t::ts=>(G0 t=C->GO ts=I)/\Kt p t/\RR p ts
end
theorem XJ{k:Nat}{nd:Nd}(q:1<=k)(h:U.q nd=C):G0 (wH U k nd)=wR nd/\kB (wH U k nd)=DE U nd:=by
 obtain⟨k,rfl⟩:∃j,k=j+1:=⟨k-1,by omega⟩;unfold N.q at h;cases nd with
 |el i=>
  let ⟨e,he⟩:=dh.1 (h)
  unfold wH DE N.nm;dsimp only;rw[he];exact⟨D,D⟩
 |tx i=>unfold wH;split<;>exact⟨D,D⟩
 |cm i=>
  unfold wH;split;exact⟨D,D⟩;grind
 |dt i=>
  unfold wH;split;exact⟨D,D⟩;grind
def YL{p:O}{k:Nat}(u:1<=k):∀ks:List Nd,X3 ks=C->(∀x∈ks,U.q x=C/\Kt p (wH U k x))->RR p (ks.map (wH U k))
 |[],_,_=>trivial
 |x::ks,ha,h=>by
  let j:(!(wR x&&rZ ks)&&X3 ks)=C:=ha
  rw[fq]at j
  let ⟨h1,h2⟩:=h x (js ..)
  refine⟨λq=>?_,h2,YL u ks j.2 λy E=>h y (gS _ E)⟩;rw[(XJ u h1).1]at q;cases ks with
  |nil=>rfl
  |cons y ks=>
   show G0 _=I;rw[((XJ u (h y (gS _ (js ..))).1).1)]
   let z:=j.1
   rw[q]at z
   simpa [rZ]using z
theorem adX:(U.q (.cm i)=C->∃s,U.d[i]?=H (.cm s))/\(U.q (.dt i)=C->∃s,U.d[i]?=H (.dt s)):=by
 constructor<;>intro h<;>unfold N.q at h<;>dsimp at h<;>split at h
 all_goals grind
section
variable {U:N}{h B:Nat}{L:List O}{r:Nat->Nat}
theorem ZD(E:Nb 6 h L U)(z:fg r U){i k:Nat}{e:mh}(j:U.h i=H e)(y:1<=k)(u:∀x∈e.q,Kt e.name (wH U k x)):RR e.name (e.q.map (wH U k))/\(e.q.map (wH U k)).map kB=e.q.map (DE U):=
 ⟨YL y _ (E.u i e j).B λx q=>⟨z.E.g i e j x q,u x q⟩,by
  grind[kS,XJ,CI.g,fg.E]⟩
theorem ajf(a0:Nb 6 h L U)(z:@NG xA _ U)(u:fg r U)(a:∀i,i<ln U.d->r i<=B):∀(k:Nat)(E:Nd)(i:Nat)(e:mh),U.h i=H e->E∈e.q->(i=0\/e.name≠⟨#[]⟩)->(∀j,E=.el j->B-r j+1<k)->1<=k->Kt e.name (wH U k E)
 |0,_,_,_,_,_,_,_,h1=>absurd h1 (by omega)
 |k+1,.el j,i,e,he,hm,y,K,_=>by
  let K:=K j D
  let ⟨ej,h1,h2⟩:=(a0.u i e he).ok _ hm
  let ⟨a1,a2,a3,a4,a5⟩:=@NG.el xA _ _ z _ _ h1
  let T:ej.name≠⟨#[]⟩:=λq=>by rw[q]at h2;unfold Hu at h2;rw[show hold ⟨#[]⟩=H [] by decide+kernel]at h2;cases h2
  let Q:1<=k:=by omega
  let ⟨b1,b2⟩:=ZD a0 u h1 Q λx P=>ajf a0 z u a k x j ej h1 P (.inr T) (λc b=>by
   subst b
   let ⟨ec,g1,g2⟩:=u.E.q j ej c h1 (o9.2 P)
   let f:=u.K.E c ec j g1 g2
   grind[N.n]) Q
  unfold wH;rw[h1];refine⟨h2,a4.resolve_left T,a5,a2,λq=>?_,λq=>by rw[Fz];exact(a0.u j ej h1).A q,b1⟩;rw[b2];rw[q]at h2;unfold Hu at h2;rw[show hold aC=H [⟨#[]⟩] by decide+kernel]at h2
  let d:=cC.1 (dV.1 h2)
  rcases y with rfl|y
  let ⟨e0,d1,d2,d3,d4⟩:=a0.A
  rw[he]at d1;cases d1
  let ⟨_,rfl⟩:=d4 j hm
  let ⟨eh,d5,d6,d7⟩:=a0.K (by decide)
  rw[h1]at d5;cases d5;exact d7;grind
 |k+1,.tx j,i,e,he,hm,y,_,_=>by
  let ⟨⟨s,h1,h2⟩,h3⟩:=(a0.u i e he).ok _ hm
  unfold wH;rw[h1];exact⟨h2,h3,a0.bk i e j s he hm h1⟩
 |k+1,.cm j,i,e,he,hm,y,_,_=>by
  let ⟨s,h1⟩:=adX.1 (u.E.g i e he _ hm)
  unfold wH;rw[h1];exact⟨(a0.u i e he).ok _ hm,(z.2.1 _ (sA h1)).2⟩
 |k+1,.dt j,i,e,he,hm,y,_,_=>by
  let ⟨s,h1⟩:=adX.2 (u.E.g i e he _ hm)
  unfold wH;rw[h1];exact⟨(a0.u i e he).ok _ hm,(z.2.1 _ (sA h1)).2⟩
theorem akY(T:Nb 6 h L U)(z:@NG xA _ U)(j:fg r U){K:Nat}(u:∀i,i<ln U.d->r i<K):∃e,U.h 0=H e/\wH U (K+1) (.el 0)=.el ⟨#[]⟩ e.A (e.q.map (wH U K))/\RR ⟨#[]⟩ (e.q.map (wH U K))/\((e.q.map (wH U K)).map kB).foldl RW 0=2:=by
 let ⟨e,d1,d2,d3,d4⟩:=T.A
 let P:=u 0 (N.n d1)
 let ⟨b1,b2⟩:=ZD T j d1 (by omega) λx q=>ajf T z j (B:=K-1) (λi Q=>by grind) K x 0 e d1 q (.inl D) (λc y=>by
  subst y
  let ⟨ec,g1,g2⟩:=j.E.q 0 e c d1 (o9.2 q)
  let E:=j.K.E c ec 0 g1 g2
  grind[N.n]) (by omega)
 refine⟨e,d1,?_,by grind,b2▸d3⟩;show(match U.h 0 with|some e=>Tn.el e.name e.A _|none=>BV)=_
 grind
end
def lr(s:O):Bool:=!s.data.toList.contains 13
def MI(s:O):Bool:=s.data.toList.all λx=>x==32||x==9||x==10||x==12
def yt:List O:=[aH,cO,cX,cH,dK,aV]
def Lp:List O:=[cO,cX,cH,dK,eQ,eS,cI,aV,eF]
def XI(p nm:O):Bool:=!cZ Cd nm&&!(cZ yt p&&!cZ Lp nm)&&!(fG nm eN&&!fG p iK)
mutual
def U3(p:O):Tn->Bool
 | .el nm bY ks=>lr nm&&XI p nm&&(bY.all λa=>lr a.1&&lr a.2)&&Fl nm ks
 | .tx s=>lr s&&(!cZ yt p||MI s)
 | .cm s=>lr s
 | .dt s=>lr s
def Fl(p:O):List Tn->Bool
 |[]=>C
 |t::ts=>U3 p t&&Fl p ts
end
def Ro{p:O}:∀{ts:List Tn} {t:Tn},Fl p ts=C->t∈ts->U3 p t=C
 |x::ts,t,h,j=>by
  let h:(U3 p x&&Fl p ts)=C:=h
  rw[fq]at h;rcases bZ.1 j with rfl|j;exact h.1;exact Ro h.2 j
theorem ZC:∀(k:Nat)(q:Nd)(p:O),U3 p (wH U k q)=C->∀x∈zP U k q,∀e,U.h x=H e->cZ Cd e.name=I
 |0,_,_,_,x,j,_,_=>by cases j
 |k+1,.el i,p,h,x,j,e,he=>by
  let j:x∈i::(match U.h i with|some e=>e.q.flatMap _|none=>[]):=j
  cases hi:U.h i with
  |none=>
   grind
  |some ei=>
   unfold wH at h;rw[hi]at h j
   let h:(lr _&&XI p _&&(ei.A.all _)&&Fl _ _)=C:=h
   rw[fq]at h;rcases bZ.1 j with rfl|j;grind[XI]
   let ⟨y,hy,hxy⟩:=gn.1 j
   exact ZC k y _ (Ro h.2 (sf hy)) x hxy e he
 |k+1,.tx _,_,_,x,j,_,_=>by cases j
 |k+1,.cm _,_,_,x,j,_,_=>by cases j
 |k+1,.dt _,_,_,x,j,_,_=>by cases j
section
variable {U:N}{r:Nat->Nat}
theorem U2(z:fg r U):∀(k a x y:Nat)(e:mh),x∈zP U k (.el a)->U.h x=H e->Nd.el y∈e.q->r y-r a<k->y∈zP U k (.el a)
 |0,_,_,_,_,h,_,_,_=>by cases h
 |k+1,a,x,y,e,u,he,hy,hk=>by
  let u:x∈a::(match U.h a with|some e=>e.q.flatMap _|none=>[]):=u
  show y∈a::(match U.h a with|some e=>e.q.flatMap _|none=>[])
  cases ha:U.h a with
  |none=>
   grind
  |some ea=>
   rw[ha]at u;refine gS _ (gn.2 ?_);rcases bZ.1 u with rfl|u;rw[ha]at he;cases he
   let ⟨ey,g1,g2⟩:=z.E.q _ _ y ha (o9.2 hy)
   let E:=z.K.E y ey _ g1 g2
   obtain⟨j,rfl⟩:∃j,k=j+1:=⟨k-1,by omega⟩;exact⟨.el y,hy,js ..⟩
   .let ⟨c,hc,hxc⟩:=gn.1 u
    cases c with
    |el c=>
     let ⟨ec,g1,g2⟩:=z.E.q _ _ c ha (o9.2 hc)
     let E:=z.K.E c ec _ g1 g2
     let K:k≠0:=λq=>by subst q;cases hxc
     exact⟨.el c,hc,U2 z k c x y e hxc he hy (by omega)⟩
    |tx=>cases k<;>cases hxc
    |cm=>cases k<;>cases hxc
    |dt=>cases k<;>cases hxc
def Mc(j:fg r U)(y:@NG xA ⟨[]⟩ U){K:Nat}(u:∀i,i<ln U.d->r i<K):∀(n i:Nat)(e:mh),U.h i=H e->r i<n->i∈zP U (K+1) (.el 0)
 |0,_,_,_,h=>absurd h (nofun)
 |n+1,i,e,he,hi=>by
  cases hp:e.E with
  |none=>
   rcases y.2.2 i e he hp with rfl|q;exact js ..;cases q
  |some p=>
   let ⟨ep,h1,h2⟩:=j.E.up i e p he hp
   let z:=j.K.E i e p he hp
   let E:=u i (N.n he)
   exact U2 j _ 0 p i ep (Mc j y u n p ep h1 (by omega)) h1 (o9.1 h2) (by omega)
theorem aib(T:fg r U)(Q:@NG xA ⟨[]⟩ U){K:Nat}(P:∀i,i<ln U.d->r i<K){z:mh}(E:U.h 0=H z)(b:z.name=⟨#[]⟩){p:O}(a:Fl p (z.q.map (wH U K))=C):¬Wd U:=by
 rintro⟨i,s,⟨e,q,rfl⟩,u⟩
 let j:=Mc T Q P _ i e q (mw _)
 let j:i∈0::(match U.h 0 with|some e=>e.q.flatMap _|none=>[]):=j
 rw[E]at j;rcases bZ.1 j with rfl|j;rw[E]at q;cases q;rw[b]at u;exact absurd u (by decide+kernel)
 let ⟨y,hy,hx⟩:=gn.1 j
 rw[ZC K y _ (Ro a (sf hy)) i hx e q]at u;cases u
end
theorem aem{v:VT}(h:@NI v fin)(j:BM fin):∃h L,Nb 6 h L fin:=by
 let ⟨hh,L',He,_,hq⟩:=h
 let q:6<=em fin:=by
  unfold em;rcases hq with⟨a,b,c,u,y,_⟩|⟨a,b,_⟩|⟨a,b,_⟩
  .rw[dw (Or.inl a)];rcases j with j|j<;>omega
  grind
  .rw[di (by omega)];rcases j with j|j<;>omega
 let q:Lq (em fin)=6:=by unfold Lq;rw[di (by omega),di (by omega),di (by omega)]
 grind
def EI(bY:iB):JC:=bY.map λa=>(a.1.data.toList,a.2.data.toList)
theorem Cr(bY:iB):qJ (EI bY)=bY:=by unfold qJ EI;rw[List.map_map];exact(Pg λa _=>D).trans (List.map_id _)
mutual
def AN(p:O):Tn->List UInt8
 | .el nm bY ks=>iV nm.data.toList (EI bY)++(if cZ me nm then []else yC nm ks++jo nm.data.toList)
 | .tx s=>if fG p aN then s.data.toList else lp I s.data.toList
 | .cm s=>IU s.data.toList
 | .dt s=>SJ (H s.data.toList)
def yC(p:O):List Tn->List UInt8
 |[]=>[]
 |t::ts=>AN p t++yC p ts
end
theorem Qv:∀{s:List UInt8},(∀x∈s,Aj x)->lp I s=s
 |[],_=>rfl
 |c::s,h=>by
  let q:=Qv λx j=>h x (gS _ j)
  rcases(h c (js ..))with rfl|rfl|rfl|rfl<;>(grind[lp])
def lv(p:O):Nat:=if fG p aH then 7 else if fG p aV then 10 else if cZ [cO,cX,cH] p then 11 else if fG p dK then 12 else if fG p aZ then 3 else 0
theorem ye{R:Option (List (List O×Ru))}{a:List O}(h:(R.getD []).all (λp=>p.1.all (cZ a))=C)(j:cZ a nm=I):zv R nm=C:=by grind[dV,zv]
def S5:List O:=BL.map (·.1)++Cd++[iC,jt,jU,dy,bO,aN,aH,gw,iK,eN]
def PP(h:x=iC\/x=jt\/x=jU\/x=dy\/x=gw\/x=iK\/x=eN):Bn x:=by rcases h with rfl|rfl|rfl|rfl|rfl|rfl|rfl<;>constructor<;>decide+kernel
theorem FX{l:List O}(h:hold nm=H l):(nm,l)∈BL:=by grind[eM,jM,hold]
theorem ad0{p:O}(j:cZ me p=C):∀{ts:List Tn},RR p ts->ts=[]
 |[],_=>rfl
 |t::ts,⟨_,h,_⟩=>by
  cases t with
  |el nm bY ks=>
   let h:=h.1
   unfold Hu at h;split at h;rename_i l u
   let z:=dm.1 (by decide+kernel:BL.all (λx=>x.2.all λy=>!cZ me y)=C) _ (FX u)
   grind[dV];split at h;rename_i q;rw[jM.1 q]at j;exact absurd j (by decide+kernel);have:cZ lM p=C:=dV.2 (dA.2 (.inr (dV.1 j)));grind
  |tx s=>exact absurd (dV.2 (gS _ (dV.1 j))) (by rw[h.2.1];simp)
  |cm s=>exact absurd (dV.2 (dA.2 (.inr (dV.1 j)))) (by rw[h.1];simp)
  |dt s=>rw[h.1]at j;exact absurd j (by decide+kernel)
theorem ahg{p:O}(j:cZ [bO,aN] p=C):∀{ts:List Tn},RR p ts->ln ts<=1->∃s:List UInt8,ts=xB s/\(0:UInt8)∉s/\(p=aN->akQ (bs s))
 |[],_,_=>⟨[],D,by simp,λ_ k z=>by cases z⟩
 |_::_::_,_,h=>by simp at h
 |[t],⟨_,h,_⟩,_=>by
  cases t with
  |el nm bY ks=>
   let h:=h.1
   unfold Hu at h;split at h;rename_i l E
   let u:=dm.1 (by decide+kernel:BL.all (λx=>x.2.all λy=>!cZ [bO,aN] y)=C) _ (FX E)
   grind[dV];split at h;rename_i q;rw[jM.1 q]at j;exact absurd j (by decide+kernel);have:cZ lM p=C:=dV.2 (dm.1 (by decide+kernel) _ (dV.1 j) |> dV.1);grind
  |tx s=>
   let ⟨⟨h1,u⟩,_,h3⟩:=h
   refine⟨s.data.toList,?_,u,h3.2⟩;unfold xB;rw[di λe=>h1 (show bs s.data.toList=bs [] by rw[e])]
  |cm s=>exact absurd (dV.2 (dA.2 (.inl (dV.1 j)))) (by rw[h.1];simp)
  |dt s=>rw[h.1]at j;exact absurd j (by decide+kernel)
def EM:List O:=[⟨#[]⟩,aC,bO,aN]++me
theorem QL{l m:List O}(h:cZ m x=I)(j:l.all (cZ m)=C):cZ l x=I:=mH.2 λq=>by grind
theorem lv0(h:cZ (aZ::yt) x=I):lv x=0:=by
 let j:∀y∈(aZ)::yt,fG x y=I:=λy q=>by grind[jM,mH]
 unfold lv;rw[j _ (by simp[yt]),j _ (by simp[yt]),j _ (by simp[yt]),j _ (by simp),QL h (by decide+kernel)];rfl
section
variable {R:RC}{p nm:O}{bY:iB}{ks ts:List Tn}{P:List UInt8}
theorem X9(y:(16:Int)<=R.at_)(j:Ct bY)(z:ln bY<=16):zF R (EI bY):=by
 refine⟨λa h=>?_,?_,?_⟩;obtain⟨b,u,rfl⟩:=dW.1 h;exact j.1 b u
 let e:(EI bY).map (·.1)=(bY.map (·.1)).map λx=>x.data.toList:=by simp[EI]
 rw[e];exact List.Pairwise.map _ (λa b q h=>q (show bs a.data.toList=bs b.data.toList by rw[h])) j.2
 let e:ln (EI bY)=ln bY:=by simp[EI]
 grind
def Y4(z:tr nm.data.toList)(q:zF R (EI bY))(j:Part (lv p) (lv nm) p nm)(E:cZ me nm=I)(y:Bl R (lv nm) nm ks (yC nm ks))(u:Bl R (lv p) p ts P):Bl R (lv p) p (.el nm bY ks::ts) (AN p (.el nm bY ks)++P):=by have:=Bl.part z q j y u;rw[Cr]at this;unfold AN;rw[E];exact this
theorem alF(w:(16:Int)<=R.at_)(h:Kt p (.el nm bY ks))(f:XI p nm=C)(o:cZ EM p=I)(U:cZ EM nm=I->Bl R (lv nm) nm ks (yC nm ks))(u:Bl R (lv p) p ts P):Bl R (lv p) p (.el nm bY ks::ts) (AN p (.el nm bY ks)++P):=by
 obtain⟨T,Q,b,hl,_,v,h3⟩:=h;have b:=X9 w b hl;have E:cZ me nm=C->ks=[]/\AN p (.el nm bY ks)=iV nm.data.toList (EI bY):=λq=>⟨ad0 q h3,by unfold AN;rw[q,dw D,yy]⟩;have a0:cZ [bO,aN] nm=C->(lv p=0\/lv p=3)->Bl R (lv p) p (.el nm bY ks::ts) (AN p (.el nm bY ks)++P):=λq g=>by
  obtain⟨s,rfl,r,J⟩:=ahg q h3 (v q);have:=Bl.IA (nm:=nm.data.toList) (bY:=EI bY) g Q b ((show Sq nm.data.toList (yC nm (xB s)) s by
    let e:yC nm (xB s)=if fG nm (aN)then s else lp I s:=by
     unfold xB;split
     .rename_i e;subst e;split<;>rfl
     show(if fG nm _ then _ else _)++[]=_;grind
    rw[e];rcases bZ.1 (dV.1 q)with rfl|j;rw[di (by decide+kernel)];exact .inl ⟨D,ER s r⟩;obtain rfl:=cC.1 j;rw[dw (by decide+kernel)];refine .inr ⟨D,D,r,λL i A=>?_⟩;cases hq:oQ _ _ with
    |false=>rfl
    |true=>
     exact absurd (SX (b:=60) (.inr ⟨D,λe=>by grind[ma]⟩) hq) (by rw[J D i A];simp))) u
  rw[Cr]at this;unfold AN;have g:cZ me nm=I:=by rcases bZ.1 (dV.1 q)with rfl|q;decide+kernel;rw[cC.1 q];decide+kernel
  rw[g];exact this
 have O:=mH.1 o;unfold Hu at T;split at T;rename_i l hl;rcases(by decide+kernel:∀x∈BL,∀y∈x.2,cZ EM y=C\/(x.1=eF/\y=aV)\/Part (lv y) (lv x.1) y x.1/\cZ me x.1=I/\cZ EM x.1=I) _ (FX hl) _ (dV.1 T)with q|⟨e1,e2⟩|⟨c,K,k⟩;rw[o]at q;cases q;have e1:nm=_:=e1;subst e1 e2;obtain⟨rfl,e⟩:=E (by decide+kernel);rw[e];have a1:lv aV=10:=by decide+kernel
 rw[a1]at u|-;have:=Bl.col (p:=aV) (nm:=(eF).data.toList) (bY:=EI bY) Q b D u;rw[Cr]at this;exact this;exact Y4 Q b c K (U k) u;rename_i n;split at T;rename_i q;obtain rfl:=jM.1 q;have m:lv aZ=3:=by decide+kernel
 rcases bZ.1 (dV.1 T)with rfl|j;obtain⟨rfl,e⟩:=E (by decide+kernel);rw[e];rw[m]at u|-;have:=Bl.mta (p:=aZ) (nm:=(dy).data.toList) (bY:=EI bY) Q b D u;rw[Cr]at this;exact this;exact a0 (dV.2 j) (.inr m);rename_i hh;have S:cZ lM p=I:=by simpa using T
 unfold XI at f;rw[fq,fq]at f;obtain⟨⟨M,t⟩,N⟩:=f;have a2:cZ Lp nm=I:=mH.2 λj=>by have:=dm.1 (by decide+kernel:Lp.all (λx=>(hold x).isSome)=C) _ j;rw[n]at this;cases this
 have a3:cZ yt p=I:=by
  rw[a2]at t
  simpa using t
 have d:lv p=0:=lv0 (mH.2 λj=>by rcases bZ.1 j with rfl|j;exact hh (by decide+kernel);exact mH.1 a3 j)
 have hw:cZ Cd nm=I:=by simpa using M
 by_cases c:cZ [iC,jt,jU,dy] nm=C;have K:=dV.1 c;obtain⟨rfl,e⟩:=E (dV.2 (dm.1 (by decide+kernel:[iC,jt,jU,dy].all (cZ me)=C) _ K |> dV.1));rw[e];rw[d]at u|-;simp only[nQ,nR,od]at K;have:=Bl.Fs (p:=p) (nm:=nm.data.toList) (bY:=EI bY) Q b (PP (by grind)) K u;rw[Cr]at this;exact this;by_cases K:cZ [bO,aN] nm=C;exact a0 K (.inl d);by_cases k:nm=aH;subst k;exact Y4 Q b (.inl ⟨d,by decide+kernel,D⟩) (by decide+kernel) (U (by decide+kernel)) u;have fin:Bn nm->Is p nm->lv nm=0->cZ EM nm=I->Bl R (lv p) p (.el nm bY ks::ts) (AN p (.el nm bY ks)++P):=λb1 b2 b3 b4=>by have U:=U b4;rw[b3]at U;rw[d]at u|-;have:=Bl.el (nm:=nm.data.toList) (bY:=EI bY) Q b b1 b2 U u;rw[Cr]at this;unfold AN;rw[show cZ me nm=I from QL b4 (by decide+kernel)];exact this
 by_cases F:nm=gw;subst F;exact fin (PP (by simp)) (.inr (.inl (.inl D))) (by decide+kernel) (by decide+kernel);by_cases G:nm=iK;subst G;exact fin (PP (by simp)) (.inr (.inl (.inr D))) (by decide+kernel) (by decide+kernel);by_cases H:nm=eN;subst H;have:p=iK:=jM.1 (by simpa [show fG eN eN=C by decide+kernel]using N);exact fin (PP (by simp)) (.inr (.inr ⟨D,this⟩)) (by decide+kernel) (by decide+kernel);have z:cZ S5 nm=I:=mH.2 λj=>by rcases dA.1 j with j|j;rcases dA.1 j with j|j;obtain⟨⟨a,l⟩,B,rfl⟩:=dW.1 j;have:=dm.1 (by decide+kernel:BL.all (λx=>(hold x.1).isSome)=C) _ B;rw[n]at this;cases this;exact mH.1 hw j;simp only[nQ,nR,od]at j;have c:=λq=>c (dV.2 q);have K:=λq=>K (dV.2 q);simp only[nQ,nR,od]at c K;grind
 obtain⟨b1,b2⟩:Bn nm/\Is p nm:=⟨⟨ye (a:=S5) (by decide+kernel) z,ye (a:=S5) (by decide+kernel) z,ye (a:=S5) (by decide+kernel) z,ye (a:=S5) (by decide+kernel) z,by
   cases hq:fG nm jV with
   |false=>rfl
   |true=>rw[jM.1 hq]at z;exact absurd z (by decide+kernel),V4 (mH.2 λj=>mH.1 z (dV.1 (dm.1 (by decide+kernel:QC.all (cZ S5)=C) _ j)))⟩,.inl ⟨ye (a:=S5) (by decide+kernel) z,ye (a:=S5) (by decide+kernel) z⟩⟩
 exact fin b1 b2 (lv0 (QL z (by decide+kernel))) (QL z (by decide+kernel))
theorem amD{s:O}(h:Kt p (.tx s))(j:U3 p (.tx s)=C)(Q:cZ EM p=I)(E:GO ts=I)(u:Bl R (lv p) p ts P):Bl R (lv p) p (.tx s::ts) (AN p (.tx s)++P):=by
 obtain⟨⟨U,b⟩,_,h3⟩:=h;have a:s.data.toList≠[]:=λe=>U (show bs s.data.toList=bs [] by rw[e]);have z:fG p aN=I:=by
  cases hq:fG p aN with
  |false=>rfl
  |true=>rw[jM.1 hq]at Q;exact absurd Q (by decide+kernel)
 have T:AN p (.tx s)=lp I s.data.toList:=by unfold AN;rw[z];rfl
 have j:(lr s&&(!cZ yt p||MI s))=C:=j;rw[fq]at j;rw[T];by_cases q:cZ (aZ::yt) p=C;have K:∀x∈s.data.toList,Aj x:=by rcases bZ.1 (dV.1 q)with rfl|c;exact h3.1 (by decide+kernel);have:=j.2;rw[dV.2 c]at this;intro x d;have:=dm.1 (show MI s=C by simpa using this) x d;simp only[Bool.or_eq_true,beq_iff_eq]at this;unfold Aj;grind
 rw[Qv K];refine Bl.bk (s:=s.data.toList) ?_ K a E u;exact(by decide+kernel:∀y∈aZ::yt,(lv y=3\/lv y=4\/lv y=10)\/(lv y=7\/lv y=11\/lv y=12)/\qS y=C) p (dV.1 q);have f:lv p=0:=lv0 (by simpa using q);rw[f]at u|-;exact Bl.tx (s:=s.data.toList) (ER _ b) a E u
theorem al3(p:O):lv p=0\/lv p=7\/lv p=10\/(lv p=2\/lv p=3\/lv p=4)\/lv p=11\/lv p=12:=by grind[lv]
def Yd(u:(16:Int)<=R.at_):∀(ts:List Tn)(p:O),RR p ts->Fl p ts=C->cZ EM p=I->Bl R (lv p) p ts (yC p ts)
 |[],p,_,_,_=> .nil
 |t::ts,p,⟨h1,h2,h3⟩,j,hp=>by
  let j:(U3 p t&&Fl p ts)=C:=j
  rw[fq]at j;have y:=Yd u ts p h3 j.2 hp;show Bl R (lv p) p (t::ts) (AN p t++yC p ts);cases t with
  |el nm bY ks=>
   let h:(lr nm&&XI p nm&&(bY.all λa=>lr a.1&&lr a.2)&&Fl nm ks)=C:=j.1
   rw[fq,fq,fq]at h;exact alF u h2 h.1.1.2 hp (λq=>Yd u ks nm h2.2.2.2.2.2.2 h.2 q) y
  |tx s=>exact amD h2 j.1 hp (h1 D) y
  |cm s=>exact Bl.cm (t:=s.data.toList) (al3 p) h2.2 y
  |dt s=>rw[h2.1]at hp;exact absurd hp (by decide+kernel)
end
theorem PW(f:Tn->Bool):∀T:List Tn,(∀t∈T,f t=C)\/∃A t B,T=A++t::B/\(∀a∈A,f a=C)/\f t=I
 |[]=> .inl λ_ h=>by cases h
 |t::T=>by
  cases hq:f t with
  |false=>exact .inr ⟨[],t,T,D,nofun,hq⟩
  |true=>
   rcases PW f T with h|⟨A,x,B,rfl,j,q⟩
   all_goals grind
def Ez{p:O}:∀{A B:List Tn},RR p (A++B)->RR p A/\RR p B
 |[],_,h=>⟨trivial,h⟩
 |t::A,B,⟨h1,h2,h3⟩=>by
  let ⟨a,b⟩:=Ez h3
  refine⟨⟨λq=>?_,h2,a⟩,b⟩;cases A with
  |nil=>rfl
  |cons=>exact(h1 q)
theorem Fo{p:O}:∀{A B:List Tn},Fl p (A++B)=C->Fl p A=C/\Fl p B=C
 |[],_,h=>⟨D,h⟩
 |t::A,B,h=>by
  let h:(U3 p t&&Fl p _)=C:=h
  rw[fq]at h
  let ⟨a,b⟩:=Fo h.2
  exact⟨by show(U3 p t&&Fl p A)=C;grind,b⟩
def Bs{p:O}:∀{A B:List Tn},yC p (A++B)=yC p A++yC p B
 |[],_=>rfl
 |t::A,B=>by show AN p t++yC p (A++B)=(AN p t++yC p A)++yC p B;rw[Bs,oX]
theorem WU(nm:O)(bY:iB)(a:List Tn):3<=kB (.el nm bY a):=by grind[kB]
theorem adY{t:Tn}(h:kB t=0):∃s,t=.cm s:=by
 cases t with
 |cm s=>grind
 |el nm bY ks=>grind[WU]
 |tx=>cases h
 |dt=>cases h
theorem WT{t:Tn}{k:Nat}(h:kB t=k)(j:3<=k/\k<=5):∃nm bY ks,t=.el nm bY ks/\(k=3->nm=aC)/\(k=4->nm=aZ)/\(k=5->nm=aO):=by
 cases t with
 |cm s=>have:0=k:=h;omega
 |tx s=>have:1=k:=h;omega
 |dt s=>have:2=k:=h;omega
 |el nm bY ks=>
  refine⟨nm,bY,ks,D,?_⟩;grind[jM,kB]
theorem J5{p:O}:∀{T:List Tn},RR p T->(∀t∈T,kB t=0)->∃c,T=DY c/\(∀t∈c,vO t)/\yC p T=mX c
 |[],_,_=>⟨[],D,nofun,D⟩
 |t::T,⟨_,h2,h3⟩,h=>by obtain⟨s,rfl⟩:=adY (h t (js ..));obtain⟨c,rfl,u,q⟩:=J5 h3 λx j=>h x (gS _ j);refine⟨s.data.toList::c,D,λx j=>?_,?_⟩;rcases bZ.1 j with rfl|j;exact h2.2;grind;show IU _++yC p _=_;rw[q];rfl
theorem Xv{f:Nat->Nat->Nat}(j:∀q,f q 0=q){q:Nat}:∀{A:List Tn},(∀t∈A,kB t=0)->(A.map kB).foldl f q=q
 |[],_=>rfl
 |t::A,h=>by show(A.map kB).foldl f _=q;rw[h t (js ..),j];exact Xv j λx u=>h x (gS _ u)
theorem UA{f:Nat->Nat->Nat}(j:∀k,f 9 k=9):∀A:List Tn,(A.map kB).foldl f 9=9
 |[]=>rfl
 |t::A=>by show(A.map kB).foldl f _=9;rw[j];exact UA j A
theorem Zw(k:Nat):RW 9 k=9:=by grind[RW]
theorem Vp(k:Nat):RX 9 k=9:=by grind[RX]
def Zv(q:Nat):RW q 0=q:=rfl
def aja(q:Nat):RX q 0=q:=rfl
theorem yj{f:Nat->Nat->Nat}(u:∀q,f q 0=q)(K:∀k,f 9 k=9){q z:Nat}(P:z≠9){T:List Tn}(h:(T.map kB).foldl f q=z):((∀t∈T,kB t=0)/\q=z)\/∃A t B,T=A++t::B/\(∀a∈A,kB a=0)/\kB t≠0/\f q (kB t)≠9/\(B.map kB).foldl f (f q (kB t))=z:=by rcases PW (λt=>kB t==0) T with j|⟨A,t,B,rfl,j,E⟩;grind[Xv];rw[sy,RM,Xv u (λt y=>uT (j t y))]at h;grind[UA]
def Xw:∀{A:List Tn},(∀t∈A,kB t<=1)->(A.map kB).foldl RX 4=4
 |[],_=>rfl
 |t::A,h=>by
  let q:=h t (js ..)
  show(A.map kB).foldl RX _=4;have:RX 4 (kB t)=4:=by rcases(by omega:kB t=0\/kB t=1)with e|e<;>rw[e]<;>rfl
  rw[this];exact Xw λx j=>h x (gS _ j)
section
variable {R:RC}
def aiB:∀{T:List Tn},RR aC T->(∀t∈T,kB t=0)->Bl R 2 aC T (yC aC T)
 |[],_,_=> .nil
 |t::T,⟨_,h2,h3⟩,h=>by obtain⟨s,rfl⟩:=adY (h t (js ..));exact Bl.cm (.inr (.inr (.inr (.inl (.inl D))))) h2.2 (aiB h3 λx j=>h x (gS _ j))
theorem aiS:∀{T:List Tn},RR aC T->(∀t∈T,kB t<=1)->Bl R 4 aC T (yC aC T)
 |[],_,_=> .nil
 |t::T,⟨h1,h2,h3⟩,h=>by
  let j:=aiS h3 λx y=>h x (gS _ y)
  let u:=h t (js ..)
  cases t with
  |cm s=>exact Bl.cm (t:=s.data.toList) (.inr (.inr (.inr (.inl (.inr (.inr D)))))) h2.2 j
  |tx s=>
   let ⟨⟨g1,g2⟩,_,g3⟩:=h2
   let q:∀x∈s.data.toList,Aj x:=g3.1 (by decide+kernel)
   have:=Bl.bk (s:=s.data.toList) (.inl (.inr (.inl D))) q (λe=>g1 (show bs s.data.toList=bs [] by rw[e])) (h1 D) j
   let e:AN aC (.tx s)=s.data.toList:=(show(if fG aC aN then s.data.toList else lp I s.data.toList)=_ by grind[Qv])
   show Bl R 4 aC _ (AN aC (.tx s)++_);rw[e];exact this
  |dt s=>exact absurd u (by show ¬2<=1;decide)
  |el nm bY ks=>grind[WU]
theorem ajQ(m:(16:Int)<=R.at_){T:List Tn}(hT:RR ⟨#[]⟩ T)(hD:(T.map kB).foldl RW 0=2){p:O}(K:Fl p T=C):∃x:vP,x.e R/\T=x.tree/\yC ⟨#[]⟩ T=x.text:=by
 let a0:∀(P:List (List UInt8))(dt:Option (List UInt8))(Q:List (List UInt8))(i:Tn)(B:List Tn),(∀t∈P,vO t)->(∀n,dt=H n->Vw n)->(dt=F->Q=[])->(∀t∈Q,vO t)->kB i=3->Kt ⟨#[]⟩ i->U3 p i=C->RR ⟨#[]⟩ B->(∀t∈B,kB t=0)->∃x:vP,x.e R/\DY P++(dtT dt++(DY Q++(i::B)))=x.tree/\mX P++(SJ dt++(mX Q++(AN ⟨#[]⟩ i++yC ⟨#[]⟩ B)))=x.text:=by
  intro P dt Q i B k1 kd n2 k2 hH hK K hB a5;obtain⟨nm,bY,ks,rfl,e,_⟩:=WT hH (by omega);obtain rfl:=e D;obtain⟨c4,rfl,k4,w4⟩:=J5 hB a5;obtain⟨-,hn,ha,hl,M, -,ab⟩:=hK
  let M:=M D
  let K:(lr aC&&XI p aC&&(bY.all λa=>lr a.1&&lr a.2)&&Fl aC ks)=C:=K
  rw[fq]at K;have K:=K.2;rcases yj aja Vp (by decide) M with⟨_,q⟩|⟨A,t,f,rfl,a1,a2,a3,E⟩;cases q;have o:kB t=4:=by unfold RX at a3;rw[di a2,di (by omega)]at a3;split at a3;grind;grind
  rw[o]at E;have E:(f.map kB).foldl RX 4=6:=E;obtain⟨nm,y,j,rfl,_,e,_⟩:=WT o (by omega);obtain rfl:=e D;rcases PW (λt=>decide (kB t<=1)) f with q|⟨b,d,k,rfl,b1,b2⟩;rw[Xw λt K=>of_decide_eq_true (q t K)]at E;cases E;have b1:∀a∈b,kB a<=1:=λt K=>of_decide_eq_true (b1 t K);have b2:¬kB d<=1:=of_decide_eq_false b2;rw[sy,RM,Xw b1]at E;have E:(k.map kB).foldl RX (RX 4 (kB d))=6:=E;have t5:kB d=5:=by
   refine Classical.byContradiction λg=>?_;have:RX 4 (kB d)=9:=by unfold RX;rw[di (by omega),di (by omega),di (by omega),di (by omega)]
   rw[this,UA Vp]at E;cases E
  rw[t5]at E;have a6:(k.map kB).foldl RX 6=6:=E;clear E;obtain⟨nm,u,z,rfl,_,_,e⟩:=WT t5 (by omega);obtain rfl:=e D;have l:∀t∈k,kB t=0:=by rcases yj aja Vp (by decide) a6 with⟨q,_⟩|⟨Co,t,X,rfl,P,Q,c3,c4⟩;exact q;exact absurd (by grind[RX]) c3
  obtain⟨w,g2⟩:=Ez ab;obtain⟨_,r,v⟩:=g2;obtain⟨G,J⟩:=Ez v;obtain⟨_,L,g8⟩:=J;obtain⟨_,U⟩:=Fo K;have U:(U3 aC (.el aZ y j)&&Fl aC (b++ .el aO u z::k))=C:=U;rw[fq]at U;obtain⟨_,c⟩:=Fo U.2;have c:(U3 aC (.el aO u z)&&Fl aC k)=C:=c;rw[fq]at c;have Y:(_&&Fl aZ j)=C:=U.1;have Z:(_&&Fl aO z)=C:=c.1;rw[fq]at Y Z;obtain⟨h3,rfl,k3,w3⟩:=J5 g8 l;obtain⟨_,_,a7,ac,_,_,a9⟩:=r;obtain⟨_,_,a8,ad,_,_,aa⟩:=L;refine⟨⟨P,dt,Q,EI bY,A,yC aC A,EI y,j,yC aZ j,b,yC aC b,EI u,z,yC aO z,h3,c4⟩,⟨k1,kd,n2,k2,k3,k4,X9 m ha hl,X9 m a7 ac,X9 m a8 ad,aiB w a1,?_,aiS G b1,?_⟩,?_,?_⟩;have:=Yd m j aZ a9 Y.2 (by decide+kernel);rw[show lv aZ=3 by decide+kernel]at this;exact this;have:=Yd m z aO aa Z.2 (by decide+kernel);rw[show lv aO=0 by decide+kernel]at this;exact this;grind[Cr,vP.tree,vP.q];rw[w4];simp only[vP.text,vP.inner];have v1:cZ me aC=I:=by decide+kernel
  have v2:cZ me aZ=I:=by decide+kernel
  have v3:cZ me aO=I:=by decide+kernel
  have e1:AN ⟨#[]⟩ (.el aC bY (A++ .el aZ y j::(b++ .el aO u z::DY h3)))=iV [104,116,109,108] (EI bY)++(yC aC (A++ .el aZ y j::(b++ .el aO u z::DY h3))++jo [104,116,109,108]):=by show _++(if cZ me aC then _ else _)=_;rw[v1];rfl
  have e2:AN aC (.el aZ y j)=iV [104,101,97,100] (EI y)++(yC aZ j++jo [104,101,97,100]):=by show _++(if cZ me aZ then _ else _)=_;rw[v2];rfl
  have e3:AN aC (.el aO u z)=iV [98,111,100,121] (EI u)++(yC aO z++jo [98,111,100,121]):=by show _++(if cZ me aO then _ else _)=_;rw[v3];rfl
  have e4:yC aC (A++ .el aZ y j::(b++ .el aO u z::DY h3))=yC aC A++(AN aC (.el aZ y j)++(yC aC b++(AN aC (.el aO u z)++mX h3))):=by rw[Bs,<-w3];show _++(_++yC aC (b++_))=_;rw[Bs];rfl
  grind
 rcases yj Zv Zw (by decide) hD with⟨_,q⟩|⟨A,t,B,rfl,a1,a2,a3,E⟩;cases q;obtain⟨w,_,r,v⟩:=Ez hT;obtain⟨_,U⟩:=Fo K;have U:(U3 p t&&Fl p B)=C:=U;rw[fq]at U;obtain⟨P,rfl,k1,w1⟩:=J5 w a1;by_cases N:kB t=2;rw[N]at E;have E:(B.map kB).foldl RW 1=2:=E;rcases yj Zv Zw (by decide) E with⟨_,q⟩|⟨b,d,f,rfl,b1,b2,b3,b4⟩;cases q;have aI:kB d=3:=by unfold RW at b3;rw[di b2,di (by omega)]at b3;split at b3;grind;grind
 rw[aI]at b4;have b4:(f.map kB).foldl RW 2=2:=b4;have l:∀t∈f,kB t=0:=by rcases yj Zv Zw (by decide) b4 with⟨q,_⟩|⟨Co,t,X,rfl,P,Q,c3,c4⟩;exact q;exact absurd (by grind[RW]) c3
 obtain⟨s,rfl⟩:∃s,t=.dt s:=by
  cases t with
  |dt s=>grind
  |cm=>cases N
  |tx=>cases N
  |el nm bY ks=>grind[WU]
 obtain⟨G,_,J,L⟩:=Ez v;obtain⟨_,c⟩:=Fo U.2;have c:(U3 p d&&Fl p f)=C:=c;rw[fq]at c;obtain⟨Q,rfl,k2,w2⟩:=J5 G b1;obtain⟨x,S,V,W⟩:=a0 P (H s.data.toList) Q d f k1 (λn e=>by cases e;exact r.2) (λe=>by cases e) k2 aI J c.1 L l;refine⟨x,S,V,?_⟩;rw[Bs,w1,<-W];show _++(AN _ _++yC _ (_++_))=_;rw[Bs,w2];rfl;have aI:kB t=3:=by unfold RW at a3;rw[di a2,di (by omega)]at a3;split at a3;grind;grind
 rw[aI]at E;have E:(B.map kB).foldl RW 2=2:=E;have l:∀t∈B,kB t=0:=by rcases yj Zv Zw (by decide) E with⟨q,_⟩|⟨Co,t,X,rfl,P,Q,c3,c4⟩;exact q;exact absurd (by grind[RW]) c3
 obtain⟨x,S,V,W⟩:=a0 P F [] t B k1 (λn e=>by cases e) (λ_=>D) (λ_ h=>by cases h) aI r U.1 v l;refine⟨x,S,V,?_⟩;rw[Bs,w1,<-W];rfl
end
theorem K8{v:Bool}{c:UInt8}{t:List UInt8}(u:c≠38)(y:¬(c=34/\v=C))(z:¬(c=60/\v=I))(E:¬(c=62/\v=I))(j:c≠194\/∀q,t≠160::q):lp v (c::t)=c::lp v t:=by rw[lp.eq_def];dsimp only;rw[di u,di y,di z,di E];split;rename_i q;rcases j with j|j;exact(j D).elim;exact(j q D).elim;rfl
theorem index_one(c:UInt8):∀s:List UInt8,(dp s [c]= -1/\c∉s)\/∃a t,s=a++c::t/\c∉a/\dp s [c]=ln a
 |[]=> .inl ⟨D,by simp⟩
 |b::l=>by
  by_cases h:c=b;subst h;refine .inr ⟨[],l,D,by simp,?_⟩;simp[dp]
  let j:([c]).isPrefixOf (b::l)=I:=by grind
  rcases index_one c l with⟨q,u⟩|⟨a,t,rfl,u,y⟩;refine .inl ⟨?_,by grind⟩;simp[dp,j,q];refine .inr ⟨b::a,t,D,by grind,?_⟩;simp[dp,j,(by omega)]
def one(c:UInt8)(j:List UInt8)(s:List UInt8):List UInt8:=s.flatMap λb=>if b=c then j else [b]
theorem T8{c:UInt8}{j s:List UInt8}(h:c∉s):one c j s=s:=by
 induction s with
 |nil=>rfl
 |cons b l ih=>
  grind[one]
def xk(c:UInt8)(j a b:List UInt8):one c j (a++b)=one c j a++one c j b:=GL ..
theorem Ux(c:UInt8)(j:List UInt8):∀(f:Nat)(s:List UInt8),ln s<f->fu [c] j (dL [c] f s) s=one c j s
 |0,_,h=>by omega
 |f+1,s,h=>by
  rcases index_one c s with⟨z,q⟩|⟨a,t,rfl,q,u⟩
  let e:dL [c] (f+1) s=0:=by simp[dL,z]
  rw[e,T8 q];rfl
  let y:(a++c::t).drop (ln a+ln [c])=t:=by simp
  let e:dL [c] (f+1) (a++c::t)=dL [c] f t+1:=by simp only[dL,u];rw[di (by simp),Int.toNat_natCast,y];omega
  rw[e,l8 _ _ _ _ (ln a) u,y,Ux c j f t (by grind),xk,T8 q];simp[one]
theorem Jw(s:O)(c:UInt8)(j:O)(q:([c]==j.data.toList)=I):(RV s ⟨#[c]⟩ j).data.toList=one c j.data.toList s.data.toList:=by
 let e:(RV s ⟨#[c]⟩ j).data.toList=eB _ [c] _:=rfl
 rw[e];unfold eB gK
 let e2:hU _ [c] (-1)=dL [c] (ln s.data.toList+1) _:=rfl
 grind[Ux]
def two(a b:UInt8)(j:List UInt8):List UInt8->List UInt8
 |x::y::t=>if x=a/\y=b then j++two a b j t else x::two a b j (y::t)
 |l=>l
theorem Oe(a b:UInt8)(j:List UInt8):∀s:List UInt8,(dp s [a,b]= -1/\two a b j s=s)\/∃u t,s=u++a::b::t/\dp s [a,b]=ln u/\two a b j s=u++j++two a b j t
 |[]=> .inl ⟨D,D⟩
 |[x]=> .inl ⟨by simp[dp,eO],D⟩
 |x::y::t=>by
  by_cases h:x=a/\y=b
  let ⟨rfl,rfl⟩:=h
  refine .inr ⟨[],t,D,by simp[dp,eO],?_⟩;simp[two]
  .let E:([a,b]).isPrefixOf (x::y::t)=I:=by by_cases Q:a=x;grind;grind
   let e2:two a b j (x::y::t)=x::two a b j (y::t):=by rw[two,di h]
   let K:dp (x::y::t) [a,b]=if dp (y::t) [a,b]== -1 then -1 else dp (y::t) [a,b]+1:=by rw[dp,E];rfl
   rcases Oe a b j (y::t)with⟨q,z⟩|⟨u,T,q,z,P⟩
   all_goals grind
theorem Uy(a b:UInt8)(j:List UInt8):∀(f:Nat)(s:List UInt8),ln s<f->fu [a,b] j (dL [a,b] f s) s=two a b j s
 |0,_,h=>by omega
 |f+1,s,h=>by
  rcases Oe a b j s with⟨z,q⟩|⟨u,t,rfl,q,E⟩
  let e:dL [a,b] (f+1) s=0:=by simp[dL,z]
  rw[e,q];rfl
  let y:(u++a::b::t).drop (ln u+ln [a,b])=t:=by simp
  let e:dL [a,b] (f+1) (u++a::b::t)=dL [a,b] f t+1:=by simp only[dL,q];rw[di (by simp),Int.toNat_natCast,y];omega
  rw[e,l8 _ _ _ _ (ln u) q,y,Uy a b j f t (by grind),E];simp
theorem ahH(s:O)(a b:UInt8)(j:O)(q:([a,b]==j.data.toList)=I):(RV s ⟨#[a,b]⟩ j).data.toList=two a b j.data.toList s.data.toList:=by
 let e:(RV s ⟨#[a,b]⟩ j).data.toList=eB _ _ _:=rfl
 rw[e];unfold eB gK
 let e2:hU _ _ (-1)=dL [a,b] (ln s.data.toList+1) _:=rfl
 grind[Uy]
theorem yu{a b:UInt8}{j:List UInt8}{x:UInt8}(h:x≠a):∀l:List UInt8,two a b j (x::l)=x::two a b j l
 |[]=>rfl
 |y::t=>by grind[two]
def am:List UInt8:=[38,97,109,112,59]
def Ls:List UInt8:=[38,110,98,115,112,59]
def XU(s:List UInt8):List UInt8:=two 194 160 Ls (one 38 am s)
def ajo(t:List UInt8):XU (38::t)=am++XU t:=by show two 194 160 Ls ([38,97,109,112,59]++one 38 am t)=_;simp;rw[yu (by decide),yu (by decide),yu (by decide),yu (by decide),yu (by decide)];rfl
theorem yh{c x:UInt8}{j:List UInt8}(h:x≠c)(l:List UInt8):one c j (x::l)=x::one c j l:=by grind[one]
theorem alt(t:List UInt8):XU (194::160::t)=Ls++XU t:=by grind[yh,XU,two]
theorem af2{c:UInt8}(q:c≠38){t:List UInt8}(z:c≠194\/∀u,t≠160::u):XU (c::t)=c::XU t:=by
 unfold XU;rw[yh q];by_cases E:c=194;cases t with
 |nil=>rfl
 |cons y t=>
  by_cases j:y=38;subst j;show two 194 160 Ls (c::38::_)=_;rw[two,di (nofun)];rfl;grind[yh,two]
 grind[yu]
def TQ{v:Bool}{t:List UInt8}:lp v (194::160::t)=Ls++lp v t:=by rfl
theorem Fj:∀(n:Nat)(s:List UInt8),ln s<=n->one 62 [38,103,116,59] (one 60 [38,108,116,59] (XU s))=lp I s/\one 34 [38,113,117,111,116,59] (XU s)=lp C s
 |0,s,h=>by have:s=[]:=NC (by omega);subst this;exact⟨D,D⟩
 |n+1,[],_=>⟨D,D⟩
 |n+1,c::t,h=>by
  let j:=Fj n t (by grind)
  by_cases y:c=38;subst y;rw[ajo];constructor;rw[xk,xk,j.1];rfl;rw[xk,j.2];rfl;by_cases P:c=194/\∃u,t=160::u;obtain⟨rfl,u,rfl⟩:=P
  let q:=Fj n u (by grind)
  rw[alt,TQ,TQ];constructor;rw[xk,xk,q.1];rfl;rw[xk,q.2];rfl;rw[af2 y (by grind)];constructor;by_cases z:c=60;subst z;show one 62 _ ([38,108,116,59]++one 60 _ (XU t))=_;rw[xk,j.1];rfl;rw[yh z];by_cases K:c=62;subst K;show[38,103,116,59]++one 62 _ (one 60 _ (XU t))=_;rw[j.1];rfl;grind[yh,K8];by_cases E:c=34;subst E;show[38,113,117,111,116,59]++one 34 _ (XU t)=_;rw[j.2];rfl;grind[yh,K8]
def N7(s:O):(zZ s).data.toList=XU s.data.toList:=by unfold zZ;rw[ahH _ _ _ _ (rfl),Jw _ _ _ (rfl)];rfl
def aaH(s:O):(Cz s).data.toList=lp I s.data.toList:=by unfold Cz;rw[Jw _ _ _ (rfl),Jw _ _ _ (rfl),N7];exact(Fj _ _ (dF _)).1
def aaI(s:O):(Ed s).data.toList=lp C s.data.toList:=by unfold Ed;rw[Jw _ _ _ (rfl),N7];exact(Fj _ _ (dF _)).2
def KN(w P:J):Prop:=∀(k:Nat)(c:io)(t:TypeId),w.heap[k]?=H (dr c t)->t∈XY->P.heap[k]?=H (dr c t)
def KN.q(h:Z S w P)(q:∀k∈S,∀c t,w.heap[k]?=H (dr c t)->t∉XY):KN w P:=λk c t j y=>h.at j (λu=>q k u c t j y)
theorem KN.row(h:KN w P){j:Nat}(u:w.ownsRow base e j v n xs)(E:e∈XY):P.ownsRow base e j v n xs:=by refine⟨u.1,?_⟩;rcases u.2 with e1|⟨g,cap,q,e1,y,z,r⟩;grind;exact .inr ⟨g,cap,q,e1,y,h g _ _ z E,r⟩
mutual
theorem ik.j(j:KN w P):∀{t:Tn} {n:Nd},ik w t n->ik P t n
 | .el name bY ks,.el k,h=>by unfold ik at h|-;have⟨av,fH,kv,ns,h1,h2,h3,h4⟩:=h;exact⟨av,fH,kv,ns,⟨j _ _ _ h1.dP (by decide),j.row h1.row (by decide),h1.le,h1.A⟩,j.row h2 (by decide),h3,sC.j j h4⟩
 | .tx _,.tx _,h=>by unfold ik at h|-;exact j _ _ _ h (by decide)
 | .cm _,.cm _,h=>by unfold ik at h|-;exact j _ _ _ h (by decide)
 | .dt _,.dt _,h=>by unfold ik at h|-;exact j _ _ _ h (by decide)
 | .el _ _ _,.tx _,h=>by grind[ik]
 | .el _ _ _,.cm _,h=>by grind[ik]
 | .el _ _ _,.dt _,h=>by grind[ik]
 | .tx _,.el _,h=>by grind[ik]
 | .tx _,.cm _,h=>by grind[ik]
 | .tx _,.dt _,h=>by grind[ik]
 | .cm _,.el _,h=>by grind[ik]
 | .cm _,.tx _,h=>by grind[ik]
 | .cm _,.dt _,h=>by grind[ik]
 | .dt _,.el _,h=>by grind[ik]
 | .dt _,.tx _,h=>by grind[ik]
 | .dt _,.cm _,h=>by grind[ik]
theorem sC.j(q:KN w P):∀{ts:List Tn} {j:List Nd},sC w ts j->sC P ts j
 |[],[],_=>by simp[sC]
 |t::ts,n::j,h=>by unfold sC at h|-;exact⟨ik.j q h.1,sC.j q h.2⟩
 |[],_::_,h=>by grind[sC]
 |_::_,[],h=>by grind[sC]
end
def QO(d f l:Int)(n:Nat)(v:dB)(k:Nat):io:=#[G d,G f,G l,gq,.bool C,G n,.nilIface,v,dq k]
def aiw(w:J)(a:Tn)(L:List Sp)(e:Ending)(P:J):Prop:=
 ∃v k,e=ff (.tuple #[.agg #[v,dq k],.pointer F])/\ik P a (.el k)/\P.ownsRow w.heap.size 75 3 v (ln L) (kO L)/\(ln L)<=1024/\Z [] w P
def acj(s:O)(d f l:Nat)(a:Tn)(L:List Sp):Prop:=∀(j:dB)(base:Nat)(w:J),w.ownsRow base 5 1 j s.size (ji s)->Pp w->RP w->
  dS 32 #[j,.agg #[G d,G f,G l]] w (aiw w a L)
def ajl(w:J)(a:Tn)(L:List Sp)(q u:dB)(wc:J):Prop:=∃j v k,q=dq j/\u=.pointer F/\w.heap.size<=j/\wc.heap[j]?=H (dr #[v,dq k] 70)/\ik wc a (.el k)/\wc.ownsRow w.heap.size 75 3 v (ln L) (kO L)/\(ln L)<=1024/\Z [] w wc
theorem J8{z:J}{a:Tn}{L:List Sp}{e:Ending}(h:aiw W a L e z)(hk:Z [] w W):∃v k,e=ff (.tuple #[.agg #[v,dq k],.pointer F])/\(∃ax n d,v=.slice ax n d)/\ajl w a L (dq z.heap.size) (.pointer F) (z.alloc (dr #[v,dq k] 70))/\
  (∀j,zq w.heap<=j->W.heap[j]?=H (dr #[gq,.pointer F] 70)->z.heap[j]?=H (dr #[gq,.pointer F] 70)/\ajl w a L (dq j) (.pointer F) ((z.setCell ⟨j,0,F⟩ v).setCell ⟨j,1,F⟩ (dq k))):=by
 obtain⟨v,k,rfl,f,T,Q,y⟩:=h;have u:=gM T hk.size;have b:=(Z.refl [] z).alloc (dr #[v,dq k] 70);have⟨ax,d,hv⟩:=df T;refine⟨v,k,D,by grind,⟨_,v,k,D,D,gR hk.size y.size,aY z _,ik.kept b f,b.ownsRow u (λ_ _=>by simp),Q,(hk.trans y).trans b⟩,?_⟩;intro j E l;have K:=y.at l (by simp);have i:Z [j] z ((z.setCell ⟨j,0,F⟩ v).setCell ⟨j,1,F⟩ (dq k)):=((Z.refl _ _).setCell (.inl (by simp)) _).setCell (.inl (by simp)) _;refine⟨K,j,v,k,D,D,E,bH (bH K 0 _) 1 _,ik.j (KN.q i (λq P c t U g=>?_)) f,i.ownsRow u (λq P aI=>?_),Q,((hk.trans y).setCell (.inr E) _).setCell (.inr E) _⟩;have e:=cC.1 P;subst e;rw[K]at U;simp at U;rw[<-U.2]at g;revert g;decide;rcases u.2 with⟨e2,_⟩|⟨p,a0,a1,e2,_,U,_⟩;rw[e2]at P;cases P;rw[e2]at P;have m:=jS P;grind
def Jb(w:J)(a d f l:Nat)(s:O)(b:Tn)(L:List Sp)(P:J):Prop:=∃v k,P.heap[a]?=H (dr (QO d f l s.size v k) 72)/\ik P b (.el k)/\P.ownsRow w.heap.size 75 3 v (ln L) (kO L)/\(ln L)<=1024/\Z [a] w P
def V1(b d f l:Nat)(tv:dB)(s:O)(g:Nat)(w:J)(a:w.heap[b]?=H (dr (sX ((d:Int),(f:Int),(l:Int)) tv) 72))(B:w.ownsRow g 5 1 tv s.size (ji s)){i:Tn}{L:List Sp}(Y:Pp w)(m:RP w)(hn:acj s d f l i L):dS 22 #[dq b] w λe P=>e=.returned .nilIface/\Jb w b d f l s i L P:=by
 have⟨ao,cp,htv⟩:=df B;subst htv;have a4:=fp a;have c0:w.cell? ⟨b,0,F⟩=H (G d):=by rw[aF a];rfl
 have c1:w.cell? ⟨b,1,F⟩=H (G f):=by rw[aF a];rfl
 have c2:w.cell? ⟨b,2,F⟩=H (G l):=by rw[aF a];rfl
 have c3:w.cell? ⟨b,3,F⟩=H (.slice ao s.size cp):=by rw[aF a];rfl
 have R:=Ak b ((d:Int),(f:Int),(l:Int)) _ w a;have r:=(λW (z:Z [] w W)=>hn (.slice ao s.size cp) g W (z.ownsRow B (λ_ _=>by simp)) (Y.d (bm:=0) (.h z)) (m.kept z));have X:=a;have S:=aY w.drew (dr #[gq,.pointer F] 70);go_enter func22,ntmps22;go_wp21;refine R.mono ?_;rintro e y⟨rfl,rfl⟩;go_wp21
 go_cut [3,4]from 8 to 19 (λv3 v4 wc=>ajl y i L v3 v4 wc)
 case first=>
  go_region_with (go_at_call 32;first
   |(refine(r _ ((Z.refl [] y).drew)).mono ?_;intro e w2 Q;obtain⟨v,k,rfl,⟨ax,n,h,rfl⟩,h1,_⟩:=J8 Q ((Z.refl [] y).drew);have T:=V h1;clear h1 Q)
   |(refine(r _ (((Z.refl [] y).drew).alloc _)).mono ?_;intro e w2 Q;obtain⟨v,k,rfl,⟨ax,n,h,rfl⟩,_,A⟩:=J8 Q (((Z.refl [] y).drew).alloc _);have⟨h3,h4⟩:=A y.heap.size (dF _) S;have q0:w2.cell? ⟨zq y.heap,0,F⟩=H (gq):=(by rw[aF h3];rfl);have q1:w2.cell? ⟨zq y.heap,1,F⟩=H (.pointer F):=(by rw[aF h3];rfl);have z0:=cY h3 0;have z1:=cY h3 1;have T:=V h4;clear A h3 h4 Q))
  all_goals (try (go_wp21))
  all_goals (go_meet;exact T)
 case rest=>
  obtain⟨U,v,k,rfl,rfl,a3,m,E,u,K,z⟩:=hcut;have⟨ax,h,hv⟩:=df u;subst hv;have j:=z.at X (by simp);have e3:wc.cell? ⟨b,3,F⟩=H (.slice ao s.size cp):=by rw[aF j];rfl
  have e4:wc.cell? ⟨b,4,F⟩=H (.bool I):=by rw[aF j];rfl
  have e5:wc.cell? ⟨b,5,F⟩=H (G 0):=by rw[aF j];rfl
  have e7:wc.cell? ⟨b,7,F⟩=H (gq):=by rw[aF j];rfl
  have e8:wc.cell? ⟨b,8,F⟩=H (.pointer F):=by rw[aF j];rfl
  have t0:wc.cell? ⟨U,0,F⟩=H (.slice ax (ln L) h):=by rw[aF m];rfl
  have t1:wc.cell? ⟨U,1,F⟩=H (dq k):=by rw[aF m];rfl
  have f4:=cY j 4;have f5:=cY j 5;have f7:=cY j 7;have f8:=cY j 8;have a5:U≠b:=by omega
  have a2:b≠U:=by omega
  have a1:=fp j;have x:=cG j (cG E (cG u (cG K z)));go_wp21
  go_cut []from 20 to 34 (λN=>N.heap[b]?=H (dr #[G d,G f,G l,.slice ao s.size cp,.bool C,G s.size,.nilIface,.slice ax (ln L) h,dq k] 72)/\Z [b] wc N)
  case first=>
   go_region
   all_goals (try (go_wp21))
   all_goals (go_meet;exact⟨bH (bH (bH (bH x.1 _ _) _ _) _ _) _ _,(((((Z.refl [b] wc).setCell (.inl (by simp)) _).setCell (.inl (by simp)) _).setCell (.inl (by simp)) _).setCell (.inl (by simp)) _).drew⟩)
  case rest=>
   have⟨hx3,hk3⟩:=hcut;have⟨j,E,u,K,z⟩:=x;have g3:wc.cell? ⟨b,3,F⟩=H (.slice ao s.size cp):=by rw[aF hx3];rfl
   have g6:wc.cell? ⟨b,6,F⟩=H .nilIface:=by rw[aF hx3];rfl
   have y3:=cY hx3 3;have a0:=fp hx3;have k4:=hk3.trans ((Z.refl [b] wc).setCell (p:=⟨b,3,F⟩) (.inl (by simp)) (gq));have T:Hid (Jb y b d f l s i L (wc.setCell ⟨b,3,F⟩ (gq))):=V ⟨_,k,bH hx3 3 _,ik.j (KN.q k4 (λq p c t aI M=>by
     have e:=cC.1 p;subst e;rw[j]at aI;simp at aI;rw[<-aI.2]at M;revert M;decide)) E,k4.ownsRow u (λq p o=>by
     have e:=cC.1 o;subst e;have:=(u.lt _ p).1;omega),K,(z.mono (by simp)).trans k4⟩
   go_wp2;go_ret;exact⟨D,T⟩
attribute [local go_sem] db
def KW.put(q:W.heap[l]?=H aI)(u:aI.isCells=I)(y:Obj):KW W (W.putObj l y):=by intro k c t j _;refine(td ?_).trans j;rintro rfl;rw[q]at j;cases j;cases u
theorem KW.trans{A B a:J}(h:KW A B)(k:KW B a):KW A a:=λi c t q j=>k i c t (h i c t q j) j
def KW.q{A B:J}(h:Z [] A B):KW A B:=λi c t j _=>h.at j (by simp)
def H9{A B:J}(h:Z S A B)(q:∀k∈S,∃c t m,A.heap[k]?=H (.cells c t m)):KeepsOthers A B:=by refine⟨h.size,λk aI j y=>(h.block k (dD.1 j).1 ?_).trans j⟩;intro u;have⟨c,t,m,hc⟩:=q k u;rw[j]at hc;cases hc;cases y
theorem Y3{u:Nat}(h:W.ownsRow base e u v n xs)(z:W.heap[l]?=H aI)(E:aI.isCells=I)(K:Obj):(W.putObj l K).ownsRow base e u v n xs:=by refine⟨h.1,?_⟩;rcases h.2 with e|⟨g,cap,j,e,y,q,r⟩;grind;refine .inr ⟨g,cap,j,e,y,(td ?_).trans q,r⟩;rintro rfl;rw[z]at q;cases q;cases E
theorem On(h:Z S w W)(y:zq w.heap<=l)(q:Obj):Z S w (W.putObj l q):=by have g:=AR W l q;exact⟨g.os.trans h.os,g.tape.trans h.tape,g.output.trans h.output,gR h.size g.size,λk j u=>(g.block k (kQ j h.size) (by grind)).trans (h.block k j u)⟩
theorem XP(h1:1<=n)(ro:fW){g:Operand}{p:Tmp}{Q:Exit->Act->J->Prop}{a:Act}{L:Nat}{c:dB}(hg:a.eval g=.func (.func L) #[c] #[])(eg:∀a9 w,(callFunc L a9).run prog w=.ok (.enter L a9) w)
  (S:List It) (w0:J)
  (ag:∀l N G W,IB l S w0 N G->(∀pre W q,N pre W->Z [] W q->N pre q)->(∀W q,G W->Z [] W q->G q)->(∀m b,zq W.heap<=b->Wk m b l I->G m->G (m.setCell ⟨b,1,F⟩ (.bool C)))->N [] W->Z [] w0 W->dS L #[c,.func (.yield l) #[] #[]] W λe q=>e=pG/\(N S q\/G q)/\Z [] w0 q)
  (id:Nat) (U:List Deferred) (X:J->Prop) (l:Nat) (T:zq w.heap<=l)
  (ap:∀v,∃V i,(sg v a.tmps #[p] assign body ro).run prog w=.ok (l,U) i/\Z [] w i/\X i/\i.heap[l]?=H (.loop {state:=.ready,pending:=F,fn:=v,tmps:=a.tmps,params:=#[p],assign:=assign,body:=body,defers:=V}))
  (P:∀W q,X W->KeepsOthers W q->X q) (ae:∀W aI,X W->X (W.putObj l (.loop aI)))
  (d:List It->J->Prop) (E:J->Prop) (an:∀pre W,d pre W->Z [] w0 W) (au:∀W,E W->Z [] w0 W) (ac:∀pre W q,d pre W->Z [] W q->d pre q) (ay:∀W q,E W->Z [] W q->E q)
  (ad:∀pre W k r O,zq w.heap<=k->W.heap[k]?=H (.loop r)->d pre W->d pre (W.putObj k (.loop O))) (al:∀W k r O,zq w.heap<=k->W.heap[k]?=H (.loop r)->E W->E (W.putObj k (.loop O)))
  (av:∀m b l,zq w.heap<=b->Wk m b l I->E m->E (m.setCell ⟨b,1,F⟩ (.bool C)))
  (h0:d [] w) (A:It->Act->J->Prop) (ar:∀x f W k r O,zq w.heap<=k->W.heap[k]?=H (.loop r)->A x f W->A x f (W.putObj k (.loop O)))
  (a1:∀(l:Nat)(pre:List It)(x:It)(W:J)(K:Act->J->Prop),d pre W->(∀f q,Z [] W q->A x f q->K f q)->
   assign.wpIn (Fence.wide.inRound l) 3 prog (Exit.then K (λ_ _ _=>False)) {tmps:=a.tmps.setIfInBounds p x.val,defers:=[]} W)
  (af:∀(l:Nat)(pre:List It)(x:It)(f:Act)(W:J),zq w.heap<=l->(∃r,W.heap[l]?=H (.loop r))->d pre W->A x f W->pre++[x] <+:S->body.wpIn (Fence.wide.inRound l) 3 prog (λe _ q=>((e=.normal/\d (pre++[x]) q)\/(e=.exit id/\E q))/\KW W q/\KeepsOthers W q) f W)
  (ah:∀(W:J),d S W->X W->Q .normal {a with defers:=U++a.defers} W)
  (ak:∀(W:J),E W->X W->Q (.exit id) {a with defers:=U++a.defers} W):(Code.rangeFunc g #[p] assign body).wpIn {Fence.wide with round:=ro} n prog Q a w:=by
 refine Rz ?_;intro v az;have⟨V,i,hrun,kw1,hX1,hL1⟩:=ap v;obtain⟨rec,o⟩:∃rec:LoopState->Option Code->Loop,rec=λst Y=>{state:=st,pending:=Y,fn:=v,tmps:=a.tmps,params:=#[p],assign:=assign,body:=body,defers:=V}:=⟨_,D⟩;have er:∀st Y,rec st Y={state:=st,pending:=Y,fn:=v,tmps:=a.tmps,params:=#[p],assign:=assign,body:=body,defers:=V}:=λ_ _=>by rw[o]
 rw[<-er]at hL1;have ko:∀{A B:J},Z [] A B->KeepsOthers A B:=λh=>H9 h (by simp);refine⟨l,U,i,{target:=.fn (.func L) #[],args:=#[c,.func (.yield l) #[] #[]]},i,L,#[c,.func (.yield l) #[] #[]],i,hrun,?_,?_,?_,λ_=>h1,?_⟩
 .simp only[resolve,hg];simp[go_sem]
 intro f' _;trivial
 .simp[invoke,go_sem,eg]
 .have hC:=ag l (λpre W=>d pre W/\W.heap[l]?=H (.loop (rec .ready F))/\X W) (λW=>E W/\W.heap[l]?=H (.loop (rec .done (H (.exit id))))/\X W) i ?_ ?_ ?_ ?_ ⟨ac _ _ _ h0 kw1,hL1,hX1⟩ (an _ _ (ac _ _ _ h0 kw1))
  .refine CallsIn.mono (F:={Fence.wide with round:=ro}) (callsIn_wide.2 hC) ?_;rintro e t⟨rfl,⟨s,hl,hx⟩|⟨s,hl,hx⟩,_⟩;have j:=DC (P:=prog) hl (by rw[er];simp);rw[er]at j;exact⟨F,_,j,ah _ (ad _ _ _ _ _ T hl s) (ae _ _ hx)⟩
   .have j:=DC (P:=prog) hl (by rw[er];simp);rw[er]at j;exact⟨H (.exit id),_,j,wpIn_exit (ak _ (al _ _ _ _ T hl s) (ae _ _ hx))⟩
  .rintro pre x W hK⟨s,hl,hd⟩ aq;have aA:l<zq W.heap:=(dD.1 hl).1;have hy:=by
    have:=run_yield (P:=prog) (args:=#[x.val]) hl (by rw[er];rfl);rw[er]at this
    simpa using this
   refine⟨v,_,assign,body,hy,roundIn_of_wpIn trivial (a1 _ pre x W _ s ?_)⟩;intro f Wa R hA;have M:=(R.block _ (dD.1 hl).1 (by simp)).trans hl;have ax:X Wa:=P _ _ hd (ko R);refine⟨_,run_beginRound M (by rw[er]),?_⟩;obtain⟨t,a0⟩:∃t,t=Wa.putObj l (.loop {rec .ready F with state:=.busy}):=⟨_,D⟩;rw[<-a0];have aj:t.heap[l]?=H (.loop {rec .ready F with state:=.busy}):=by rw[a0];exact Mq (dD.1 M).1
   have ao:X t:=by rw[a0];exact ae _ _ ax
   have aa:KW W t:=by rw[a0];exact(KW.q R).trans (KW.put M D _)
   refine Ch (af _ pre x f t T ⟨_,aj⟩ (by rw[a0];exact ad _ _ _ _ _ T M (ac _ _ _ s R)) (by rw[a0];exact ar _ _ _ _ _ _ T M hA) aq) ?_;rintro e a3 W3⟨⟨rfl,ai⟩|⟨rfl,ai⟩,ab,y⟩;have z:=y.same _ _ aj D;have aw:=P _ _ ao y;have j:=run_endRound (P:=prog) F z;have e1:({({rec .ready F with state:=.busy}:Loop)with state:=if (F:Option Code).isNone then .ready else .done,pending:=F}:Loop)=rec .ready F:=by subst o;rfl
   rw[e1]at j;obtain⟨W4,u⟩:∃W4,W4=W3.putObj l (.loop (rec .ready F)):=⟨_,D⟩;rw[<-u]at j;have a2:d (pre++[x]) W4:=by rw[u];exact ad _ _ _ _ _ T z ai
   refine⟨_,_,j,.inl ⟨D,a2,?_,?_⟩,an _ _ a2,?_⟩;grind[World.putObj_heap_same];grind;rw[u];exact(aa.trans ab).trans (KW.put z D _);have z:=y.same _ _ aj D;have aw:=P _ _ ao y;have j:=run_endRound (P:=prog) (H (.exit id)) z;have e1:({({rec .ready F with state:=.busy}:Loop)with state:=if (H (Code.exit id):Option Code).isNone then .ready else .done,pending:=H (.exit id)}:Loop)=rec .done (H (.exit id)):=by subst o;rfl
   rw[e1]at j;obtain⟨W4,u⟩:∃W4,W4=W3.putObj l (.loop (rec .done (H (.exit id)))):=⟨_,D⟩;rw[<-u]at j;have a2:E W4:=by rw[u];exact al _ _ _ _ T z ai
   refine⟨_,_,j,.inr ⟨D,a2,?_,?_⟩,au _ a2,?_⟩;grind[World.putObj_heap_same];grind;rw[u];exact(aa.trans ab).trans (KW.put z D _)
  grind[Z.block];grind[Z.block];rintro m b hb hw⟨s,hl,hd⟩;have y:=ZV m ⟨b,1,F⟩ (.bool C);exact⟨av _ _ _ (gR kw1.size hb) hw s,y.same _ _ hl D,P _ _ hd y⟩
theorem aaF{a:Act}{p:Tmp}:∀q,∃u j,(sg q a.tmps #[p] assign body F).run prog w=.ok (zq w.heap+1,[{target:=.collected w.heap.size,args:=#[]}]) j/\Z [] w j/\j.heap[zq w.heap]?=H (.deferred (H []))/\j.heap[zq w.heap+1]?=H (.loop {state:=.ready,pending:=F,fn:=q,tmps:=a.tmps,params:=#[p],assign:=assign,body:=body,defers:=u}):=by intro q;refine⟨zq w.heap,_,RA _ _ _ _ _,((Z.refl _ _).alloc _).alloc _,(dc _ _ _ (by simp)).trans (DB w _),?_⟩;grind[World.alloc_heap_new,World.size_alloc]
attribute [local go_sem] db
def ou(L:List It):List dB:=L.flatMap λx=>[G x.k,Y x.s,Y x.t]
def M0(L M:List It):ou (L++M)=ou L++ou M:=GL ..
theorem agk{u:J}{j:Nat}{T Q:TypeId}{P b:Nat}{a:dB}{E:List dB}(c:W.heap[j]?=H (dr #[v] T))(g:W.ownsRow base Q P v n xs)(hb:j<base)(z:u.ownsRow base Q P a b E)(K:(W.alloc aI).grownBy u v.ownBlock):u.heap[j]?=H (dr #[v] T)/\(u.setCell ⟨j,0,F⟩ a).heap[j]?=H (dr #[a] T)/\(u.setCell ⟨j,0,F⟩ a).ownsRow base Q P a b E/\Z (j::v.ownBlock.toList) W (u.setCell ⟨j,0,F⟩ a):=by
 have U:Z v.ownBlock.toList W u:=((Z.refl _ _).alloc _).grown K (λk e=> .inl (by grind));have y:=U.at c (λd=>by have:=(g.lt j (by grind)).1;omega)
 refine⟨y,bH y 0 _,((Z.refl [j] u).setCell (.inl (by simp)) _).ownsRow z (λq f d=>?_),(U.mono (λk hk _=>gS _ hk)).setCell (.inl (by simp)) _⟩;have:=(z.lt q f).1;grind
theorem ahu{q:TypeId}{z:Nat}(y:W.ownsRow base q z v n xs):∀k∈v.ownBlock.toList,∃c,W.heap[k]?=H (dr c q):=by intro k j;rcases y.2 with⟨rfl,_⟩|⟨g,cap,u,rfl,_,E,_⟩;simp[dl]at j;simp[dl]at j;grind
attribute [local go_sem] db
theorem ad9(w:J)(b k:Nat)(c:io)(a3:O)(bY:iB)(ts:List Tn)(hp:Z2 w b c k)(h:ik w (.el a3 bY ts) (.el k))(T:List It)(A:gF (rN (λ_=>I) ts)=T)(hn:ln T<=1000000000):dS 13 #[dq b] w λe P=>∃v,e=ff v/\P.ownsRow w.heap.size 51 3 v (ln T) (ou T)/\Z [] w P:=by
 refine(AU (n:=5)).1 ?_;refine AV func13 D trivial ?_ D;simp only[ntmps13,wL,uJ,uY,Nat.reduceAdd,Nat.reduceSub,wM,wN,wO,wP,tA,tf];have HP:=V hp;have HT:=V h;have aa:=V A;clear hp h A
 gi_wp2_with (refine⟨trivial,?_⟩;gi_at_call 24;refine(callsIn_wide.2 (Ol _ b)).mono ?_;rintro e P⟨rfl,rfl⟩)
 obtain⟨y,U⟩:∃y,y=w.alloc (dr #[gq] 23):=⟨_,D⟩;have C:zq y.heap=zq w.heap+1:=by rw[U];simp
 have k1:Z [] w y:=by rw[U];exact(Z.refl _ _).alloc _
 have g1:y.heap[zq w.heap]?=H (dr #[gq] 23):=by rw[U];exact aY w _
 rw[<-U];clear U;have⟨i0,hi,hz0,hz1,hz2⟩:=sZ (show(prog.info? 51).map (λi=>(i.zero,i.size,i.bytes))=H (H (.agg #[G 0,Y iJ,Y iJ]),3,40) by kernel_rfl);have HE:=V (enters_of func33 (by rfl) D);have a9:=aa.out;have L:=V (λl ah JE W hY hm ad ae h0 s=>ain l b k c a3 bY ts w HP.out HT.out ah JE (by omega) hm ad W ae s h0);rw[a9]at L;clear a9;have af:∀{W:J},Z [zq w.heap] y W->Z [] w W:=λh=>k1.next h (by simp);refine XP (by omega) F (L:=33) (c:=dq b) D HE.out T w L.out 0 _ (λW=>W.heap[zq y.heap]?=H (.deferred (H []))) (zq y.heap+1) (by omega) aaF (λW S h hk=>hk.same _ _ h D) (λW aI h=>(td (by omega)).trans h)
  (λpre W=>∃v,W.heap[zq w.heap]?=H (dr #[v] 23)/\W.ownsRow y.heap.size 51 3 v (ln pre) (ou pre)/\Z [zq w.heap] y W) (λ_=>False)
  (λ_ _ h=>by grind) (λ_ h=>h.elim) ?_ (λ_ _ h _=>h) ?_ (λ_ _ _ _ _ _ h=>h) (λ_ _ _ _ _ h=>h) ⟨_,g1,mY _ _ _ _,Z.refl _ _⟩
  (λx g W=>∃X,zq y.heap<=X/\W.heap[X]?=H (dr #[G x.k,Y x.s,Y x.t] 51)/\g={tmps:=#[dq b,qu,gq,dq w.heap.size,dq X,dq b,.func (.func 33) #[dq b] #[],x.val,qu,qu,qu,qu,qu],defers:=[]}) ?_ ?assign ?body ?done ?halt
 rintro pre W S⟨v,z,E,a⟩ hk;exact⟨v,hk.at z (by simp),hk.ownsRow E (λ_ _=>by simp),a.trans (hk.mono (by simp))⟩;rintro pre W k r o' hk hl⟨v,z,E,a⟩;exact⟨v,(td (by omega)).trans z,Y3 E hl D _,On a (by omega) _⟩;rintro x g W k r o' hk hl⟨X,z,E,a⟩;refine⟨X,z,(td ?_).trans E,a⟩;grind
 case assign=>
  rintro l pre x W K⟨v,z,E,a⟩ s;have B:=a.size;gi_wp2;exact s _ _ ((Z.refl [] W).alloc _) ⟨zq W.heap,by omega,aY W _,D⟩
 case body=>
  rintro l pre x g W _ _⟨v,z,E,a⟩⟨X,hX,f,rfl⟩ a2;have a1:ln pre+1<=ln T:=by have:=a2.length_le;simpa using this
  have B:=a.size;have c1:=aF z 0;have f1:=cY z 0;have x0:=aF f 0;have x1:=aF f 1;have x2:=aF f 2;dsimp at c1 x0 x1 x2;have⟨ao,cp,hv⟩:=df E;subst hv;have R:=V z;have Q:=V E;have n:=V a;have ac:=fp z;have HB:=V ac;have HZ:=V B;have a0:=V a1;have o:=V hn;have ab:=V C;clear z E a f a2 B a1 hn C
  gi_wp2_with (gi_at_builtin;refine wpListIn_append_own _ D _ _ 23 D y.heap.size 51 i0 (.agg #[G 0,Y iJ,Y iJ]) 3 40 underlying23 hi hz0 hz1 hz2 D (by decide) _ _ _ D (Q.out.alloc _) ⟨zq W.heap,0,F⟩ 1 1 [G x.k,Y x.s,Y x.t] D D ?c1 ?c2 ?c3 ?c4 ?c5 ?_)
  case c1=>
   intro j u hj;have hg:=aY W (dr #[G x.k,Y x.s,Y x.t] 51);rw[fC,aF hg];grind
  case c2=>
   intro u hu;simp at hu;rcases hu with rfl|rfl|rfl<;>rfl
  case c3=>have:=a0.out;have:=o.out;unfold maxLen;omega
  case c4=>have:=a0.out;have:=o.out;omega
  case c5=>have:=HB.out;have:=HZ.out;have:=ab.out;simp;omega
  intro v' w3 p a8 _;have⟨ao',cp',hv'⟩:=df p;subst hv';have⟨hB3,hB4,ho4,hk4⟩:=agk R.out Q.out (by grind) p a8;have c3:=aF hB3 0;have f3:=cY hB3 0;dsimp at c3;have kk:Z [zq w.heap] y (w3.setCell ⟨zq w.heap,0,F⟩ (.slice ao' (ln pre+1) cp')):=n.out.next hk4 (λq d=>by rcases bZ.1 d with rfl|d;simp;exact .inr (Q.out.lt q (by simpa using d)).1)
  have ow:(w3.setCell ⟨zq w.heap,0,F⟩ (.slice ao' (ln pre+1) cp')).ownsRow y.heap.size 51 3 (.slice ao' (ln pre+1) cp') (ln (pre++[x])) (ou (pre++[x])):=by
   have e2:ou (pre++[x])=ou pre++[G x.k,Y x.s,Y x.t]:=by rw[M0];rfl
   rw[e2,qm];exact ho4
  have hS:∀k∈zq w.heap::(cV ao (ln pre) cp).ownBlock.toList,∃c t m,W.heap[k]?=H (.cells c t m)/\t∉[201,295]:=λq d=>by rcases bZ.1 d with rfl|d;exact⟨_,_,_,R.out,by decide⟩;have⟨cc,hc⟩:=ahu Q.out q d;grind
  have N:=V (show(∃v,(w3.setCell ⟨zq w.heap,0,F⟩ (.slice ao' (ln pre+1) cp')).heap[zq w.heap]?=H (dr #[v] 23)/\(w3.setCell ⟨zq w.heap,0,F⟩ (.slice ao' (ln pre+1) cp')).ownsRow y.heap.size 51 3 v (ln (pre++[x])) (ou (pre++[x]))/\Z [zq w.heap] y (w3.setCell ⟨zq w.heap,0,F⟩ (.slice ao' (ln pre+1) cp')))/\KW W (w3.setCell ⟨zq w.heap,0,F⟩ (.slice ao' (ln pre+1) cp'))/\KeepsOthers W (w3.setCell ⟨zq w.heap,0,F⟩ (.slice ao' (ln pre+1) cp'))from⟨⟨_,hB4,ow,kk⟩,(by intro k c t hk A;grind[Z.block]),H9 hk4 (λq d=>by grind)⟩)
  clear p a8 hB3 hB4 ho4 hk4 kk ow hS;gi_wp2;exact⟨by simpa using N.out.1,N.out.2⟩
 case done=>
  rintro W⟨v,z,E,a⟩ hd;have⟨ao,cp,hv⟩:=df E;subst hv;have c1:=aF z 0;dsimp at c1;have Q:=V E;have n:=V (af a);have M:=V hd;have ag:=V C;clear z E a hd;gi_wp2;refine⟨by simp,.inl ⟨_,_,D,ru M.out,?_⟩⟩;refine⟨_,results_tmp D _ _ _,_,D,?_,On n.out (by omega) _⟩;exact gM (Y3 Q.out M.out D (.deferred F)) (by omega)
 simp
def XG(a:Nat)(d f l:Int)(n k:Nat)(v:dB)(w:J)(j:w.heap[a]?=H (dr (QO d f l n v k) 72)):dS 23 #[dq a] w (vc w (.tuple #[G n,.nilIface])):=by
 have u:w.cell? ⟨a,4,F⟩=H (.bool C):=by rw[aF j];rfl
 have y:w.cell? ⟨a,5,F⟩=H (G n):=by rw[aF j];rfl
 have z:w.cell? ⟨a,6,F⟩=H .nilIface:=by rw[aF j];rfl
 have q:=fp j;go_enter func23,ntmps23;go_wp21;go_region
 all_goals (try go_wp2)
 all_goals (try go_ret2)
 all_goals exact⟨D,(Z.refl [] w).drew⟩
def OU(v:dB)(w:J):(mz #[.iface 76 v]).run prog w=.ok (.iface 143 (.agg #[gU 7 76])) w:=rfl
def Nj(w:J):(gr "AssignableTo" la #[.agg #[gU 7 76],.iface 143 (.agg #[gU 7 76])]).run prog w=.ok (.bool C) w:=by kernel_rfl
def Gx(w:J):(gr "AssignableTo" la #[.agg #[gU 7 76],.iface 143 (.agg #[gU 7 22])]).run prog w=.ok (.bool I) w:=by kernel_rfl
def XA(p:Addr)(w:J):(ie (.iface 76 (.pointer (H p)))).run prog w
  =.ok (.agg #[gU 7 76,dq w.heap.size,.int .u64 150]) (w.alloc (.cells #[.pointer (H p)] 76)):=by kernel_rfl
def abw(w:J):(Rtype.elem? 78).run prog w=.ok (H 76) w:=by kernel_rfl
def amx(p:Addr)(w:J):(so 76 p ij).run prog w=.ok (.agg #[gU 7 76,.pointer (H p),.int .u64 406]) w:=by kernel_rfl
def ae6(a p:Addr)(W:J)(j:W.cell? a=H (.pointer (H p))):(gv (ga "reflectlite.Value.Elem" 0) im #[.agg #[gU 7 78,.pointer (H a),.int .u64 150]]).run prog W
   =.ok (.agg #[gU 7 76,.pointer (H p),.int .u64 406]) W:=by
 rw[QJ];simp only[GK,OV,da];simp[im,loadVar,isAgg,underlying,underlying78,j,da,abw,amx]
def abx(a:Addr)(w:J):(gd (.agg #[gU 7 76,.pointer (H a),.int .u64 406])).run prog w=.ok (H (76,a,406)) w:=rfl
def ae7(a:Addr)(w:J):(gd (.agg #[gU 7 76,.pointer (H a),.int .u64 150])).run prog w=.ok (H (76,a,150)) w:=rfl
def abv(w:J):(Rtype.directlyAssignable 76 76).run prog w=.ok C w:=by rfl
theorem akP(j b p:Addr)(q:dB)(W:J)(u:W.cell? b=H (.pointer (H p)))(z:W.cell? j=H q)(y:W.frozen? j=I):(lq #[.agg #[gU 7 76,.pointer (H j),.int .u64 406],.agg #[gU 7 76,.pointer (H b),.int .u64 150]]).run prog W
   =.ok (.tuple #[]) (W.setCell j (.pointer (H p))):=by
 rw[rls];simp only[GK,abx,ae7,da];simp[ij,loadVar,isAgg,underlying,underlying76,u,da,abv,storeVar,Value.cells,storeCells,Addr.add];rw[run_store prog W j _ _ D];grind
def ahW(v:dB)(j:TypeId)(w:J):(dH (.iface 76 v) j 147 C).run prog w=.ok (.tuple #[.nilIface,.bool I]) w:=run_typeAssert_lacksB underlying147 (by kernel_rfl) (rfl) v j w
def ahX(v:dB)(j:TypeId)(w:J):(dH (.iface 76 v) j 154 C).run prog w=.ok (.tuple #[.nilIface,.bool I]) w:=run_typeAssert_lacksB underlying154 (by kernel_rfl) (rfl) v j w
def Fa(v:dB)(j:TypeId)(w:J):(dH (.iface 76 v) j 150 C).run prog w=.ok (.tuple #[.iface 76 v,.bool C]) w:=run_typeAssert_hasB underlying150 (by kernel_rfl) v j w
def zy(v:dB)(w:J):(Go.method 496 76 v "Unwrap").run prog w=.ok (409,v) w:=by kernel_rfl
def amH:=@run_callFunc_extern prog 38 _ (λj=>ie (j.getD 0 (.tuple #[]))) func38 (by rfl) (by rfl) D D
def amI:=@run_callFunc_extern prog 39 _ (mA (ga "reflectlite.Value.Type" 0) (λt _ _ _=>mK t)) func39 (by rfl) (by rfl) D D
def amJ:=@run_callFunc_extern prog 40 _ (gv (ga "reflectlite.Value.IsNil" 0) ix) func40 (by rfl) (by rfl) D D
def amK:=@run_callFunc_extern prog 401 _ (je λt=>do pure (.int .u8 (<-Rtype.kind t))) func401 (by rfl) (by rfl) D D
def amL:=@run_callFunc_extern prog 422 _ (mR na) func422 (by rfl) (by rfl) D D
def amM:=@run_callFunc_extern prog 423 _ (gr "Implements" nc) func423 (by rfl) (by rfl) D D
def amN:=@run_callFunc_extern prog 42 _ mz func42 (by rfl) (by rfl) D D
def amO:=@run_callFunc_extern prog 420 _ (gr "AssignableTo" la) func420 (by rfl) (by rfl) D D
def amP:=@run_callFunc_extern prog 58 _ (gv (ga "reflectlite.Value.Elem" 0) im) func58 (by rfl) (by rfl) D D
def amQ:=@run_callFunc_extern prog 59 _ lq func59 (by rfl) (by rfl) D D
def ID(p n:Nat)(j:Int)(k:Int)(w:J)(q:w.heap[p]?=H (dr #[G k,G j] 81))(y:n=0):Calls prog 409 #[gU p n] w λe P=>e=ff (.iface 22 (G k))/\P=w:=by
 have u:w.cell? ⟨p,0,F⟩=H (G k):=by simp[World.cell?,q]
 go_wp2;go_ret;simp
def Sh(p t:Addr)(u:dB)(w:J)(E:w.cell? ⟨0,0,F⟩=H (.iface 143 (.agg #[gU 7 54])))(j:w.cell? t=H u)(y:w.frozen? t=I):dS 28 #[.iface 76 (.pointer (H p)),.iface 78 (.pointer (H t))] w λQ P=>Q=ff (.bool C)/\P=((((w.alloc (.cells #[.pointer (H t)] 78)).alloc (.cells (rv 78 w.heap.size) 103)).alloc (.cells (rv 78 w.heap.size) 103)).alloc (.cells #[.pointer (H p)] 76)).setCell t (.pointer (H p)):=by
 have k:=amH;have l:=amI;have m:=amJ;have a2:=amK;have b:=amL;have c:=amM;have U:=amN;have a3:=amO;have a0:=amP;have a1:=amQ;have s:=OU;have n:=B9;have K:=Nj;have i:=XA;have f6:=XC;have f7:=ah1;have aI:=Zn;have mE:=Zm;have mI:=Ca;have g:=afa;have f:=ah0;have a:=ahZ;have e:=Nk;have r:=ae9 ⟨zq w.heap,0,F⟩ t ((w.alloc (.cells #[.pointer (H t)] 78)).alloc (.cells (rv 78 w.heap.size) 103)) (by simp);have z:0<zq w.heap:=by rcases Mm w.heap.size with T|h;simp[World.cell?,T]at E;exact h
 have d:((w.alloc (.cells #[.pointer (H t)] 78)).alloc (.cells (rv 78 w.heap.size) 103)).cell? ⟨0,0,F⟩=H (.iface 143 (.agg #[gU 7 54])):=by rw[py _ _ ⟨0,0,F⟩ (by simp),py _ _ ⟨0,0,F⟩ z];exact E
 have q:t.block<zq w.heap:=by rcases qp t.block w.heap.size with h|h;exact h;simp[World.cell?,Vk h]at j
 have el:=ae6 ⟨zq w.heap,0,F⟩ t (((w.alloc (.cells #[.pointer (H t)] 78)).alloc (.cells (rv 78 w.heap.size) 103)).alloc (.cells (rv 78 w.heap.size) 103)) (by rw[py _ _ ⟨zq w.heap,0,F⟩ (by simp;omega)];simp);have st:=akP t ⟨zq w.heap+1+1+1,0,F⟩ p u ((((w.alloc (.cells #[.pointer (H t)] 78)).alloc (.cells (rv 78 w.heap.size) 103)).alloc (.cells (rv 78 w.heap.size) 103)).alloc (.cells #[.pointer (H p)] 76))
  (by rw[World.cell?_alloc_at _ _ _ _ (by simp)];rfl)
  (by rw[py _ _ t (by simp;omega),py _ _ t (by simp;omega),py _ _ t (by simp;omega),py _ _ t q];exact j)
  (by rw[AP _ _ t (by simp;omega),AP _ _ t (by simp;omega),AP _ _ t (by simp;omega),AP _ _ t (ss q)];exact y)
 go_enter func28,ntmps28;go_wp2;refine wK 1 ?_;rw[nP];go_wp2;go_ret;exact⟨D,D⟩
theorem MC(p:Nat)(j k:Int)(t:Addr)(y:dB)(w:J)(Q:w.heap[p]?=H (dr #[G k,G j] 81))(c:w.cell? ⟨0,0,F⟩=H (.iface 143 (.agg #[gU 7 54])))(q:w.cell? t=H y)(z:w.frozen? t=I):dS 28 #[.iface 76 (dq p),.iface 83 (.pointer (H t))] w λb P=>b=ff (.bool C)/\P=((((w.alloc (.cells #[.pointer (H t)] 83)).alloc (.cells (rv 83 w.heap.size) 103)).alloc (.cells (rv 83 w.heap.size) 103)).alloc (.cells #[G k] 22)).setCell t (G k):=by
 have v:=amH;have x:=amI;have A:=amJ;have f:=amK;have i:=amL;have l:=amM;have a2:=amN;have g:=amO;have a3:=amP;have d:=amQ;have N:=OU;have ad:=N1;have B:=B9;have U:=Gx;have a0:=MR;have r:=SM;have f6:=Wm;have f7:=agQ;have L:=Zn;have mE:=Zm;have mI:=Ca;have aI:=ac9;have ab:=agP;have a1:=agO;have n:=MT;have O:=ahW;have R:=Fa;have S:=zy;have M:=ac8 ⟨zq w.heap,0,F⟩ t ((w.alloc (.cells #[.pointer (H t)] 83)).alloc (.cells (rv 83 w.heap.size) 103)) (by simp);have E:0<zq w.heap:=by rcases Mm w.heap.size with s|h;grind;exact h
 have m:((w.alloc (.cells #[.pointer (H t)] 83)).alloc (.cells (rv 83 w.heap.size) 103)).cell? ⟨0,0,F⟩=H (.iface 143 (.agg #[gU 7 54])):=by rw[py _ _ ⟨0,0,F⟩ (by simp),py _ _ ⟨0,0,F⟩ E];exact c
 have u:t.block<zq w.heap:=by rcases qp t.block w.heap.size with h|h;exact h;simp[World.cell?,Vk h]at q
 have K:=fp Q;have T:Hid ((((w.alloc (.cells #[.pointer (H t)] 83)).alloc (.cells (rv 83 w.heap.size) 103)).alloc (.cells (rv 83 w.heap.size) 103)).heap[p]?=H (dr #[G k,G j] 81)):=by show _=_;rw[dc _ _ _ (by simp;omega),dc _ _ _ (by simp;omega),dc _ _ _ K];exact Q
 have el:=ac7 ⟨zq w.heap,0,F⟩ t (((w.alloc (.cells #[.pointer (H t)] 83)).alloc (.cells (rv 83 w.heap.size) 103)).alloc (.cells (rv 83 w.heap.size) 103)) (by rw[py _ _ ⟨zq w.heap,0,F⟩ (by simp;omega)];simp);have st:=ajT t ⟨zq w.heap+1+1+1,0,F⟩ k y ((((w.alloc (.cells #[.pointer (H t)] 83)).alloc (.cells (rv 83 w.heap.size) 103)).alloc (.cells (rv 83 w.heap.size) 103)).alloc (.cells #[G k] 22))
  (by rw[World.cell?_alloc_at _ _ _ _ (by simp)];rfl)
  (by rw[py _ _ t (by simp;omega),py _ _ t (by simp;omega),py _ _ t (by simp;omega),py _ _ t u];exact q)
  (by rw[AP _ _ t (by simp;omega),AP _ _ t (by simp;omega),AP _ _ t (by simp;omega),AP _ _ t (ss u)];exact z)
 go_enter func28,ntmps28;go_wp2;refine wK 2 ?_;rw[nP];go_wp2_with (go_at_call 409;refine(ID p 0 j k _ T D).mono ?_;rintro e P⟨rfl,a⟩;subst a);rw[nP];go_wp2;go_ret;exact⟨D,D⟩
def ahd(p:Nat)(j k:Int)(w:J)(E:w.heap[p]?=H (dr #[G k,G j] 81)):dS 29 #[.iface 76 (dq p),.iface 22 (G k)] w (JK w (.bool C)):=by
 have⟨i,hi,hcmp⟩:=eM.1 agN;have T:=@run_callFunc_extern prog 42 _ Extern.ReflectliteType.typeOf func42 (by rfl) (by rfl) D D;have y:=@run_callFunc_extern prog 421 _ Sx func421 (by rfl) (by rfl) D D;have a:=N1;have Q:=IV;have U:=Ni;have b:=ahX;have c:=Fa;have d:=zy;have z:∀w:J,(binOp .eql 54 (.iface 22 (G k)) (.iface 22 (G k))).run prog w=.ok (.bool C) w:=λw=>by rw[E5 w k k underlying54 underlying22 hi hcmp];simp
 have K:=λw=>run_eql_iface_types (P:=prog) 76 22 (dq p) (G k) underlying54 (by decide) w;have u:Hid (w.heap[p]?=H (dr #[G k,G j] 81)):=E;go_enter func29,ntmps29;go_wp2;refine wK 2 ?_;rw[nP];go_wp2_with (go_at_call 409;refine(ID p 0 j k _ u D).mono ?_;rintro e P⟨rfl,q⟩;subst q);rw[nP];go_wp2;go_ret;exact⟨D,D⟩
theorem PA(p:Addr)(t:Nat)(j:dB)(w:J)(y:errorType w)(q:w.heap[t]?=H (dr #[j] 76)):dS 28 #[.iface 76 (.pointer (H p)),.iface 78 (dq t)] w λu P=>u=ff (.bool C)/\P.heap[t]?=H (dr #[.pointer (H p)] 76)/\Z [t] w P:=by
 refine(Sh p _ j w y (GR q) (free_of_one q)).mono ?_;rintro e P⟨rfl,rfl⟩;refine⟨D,one_setCell (v:=j) ?_,(Z.setCell ((((Z.refl _ _).alloc _).alloc _).alloc _|>.alloc _) (.inl (by simp)) _)⟩;grind[dc]
theorem JN(p:Nat)(j k:Int)(t:Nat)(q:dB)(w:J)(E:w.heap[p]?=H (dr #[G k,G j] 81))(z:errorType w)(u:w.heap[t]?=H (dr #[q] 22)):dS 28 #[.iface 76 (dq p),.iface 83 (dq t)] w λy P=>y=ff (.bool C)/\P.heap[t]?=H (dr #[G k] 22)/\Z [t] w P:=by
 refine(MC p j k _ q w E z (GR u) (free_of_one u)).mono ?_;grind[one_setCell,dc,Z.setCell,Z.alloc,Z.refl]
def aaM(p:Nat)(j k:Int)(w:J)(a:w.heap[p]?=H (dr #[G k,G j] 81))(U:errorType w):dS 44 #[.iface 76 (dq p)] w λe P=>e=ff (.tuple #[G k,.bool C])/\Z [] w P:=by
 have u:=ry (ry U (.cells #[G 0] 22)) (.cells #[.bool I] 4);have Q:=fp a;have y:((w.alloc (.cells #[G 0] 22)).alloc (.cells #[.bool I] 4)).heap[p]?=H (dr #[G k,G j] 81):=by rw[dc _ _ _ (by simp;omega),dc _ _ _ Q];exact a
 have q:=V y;clear a y
 go_enter_defers func44,ntmps44
 go_wp21;refine(JN p j k w.heap.size _ _ q.out u (by rw[dc _ _ _ (by simp)];exact aY _ _)).mono ?_;rintro e T⟨rfl,z,K⟩;have E:T.heap[zq w.heap+1]?=H (dr #[.bool I] 4):=by
  refine K.at ?_ (by simp);have:=aY (w.alloc (.cells #[G 0] 22)) (.cells #[.bool I] 4)
  simpa using this
 have c1:=GR z;have c2:=GR E;have f1:=free_of_one z;have f2:=free_of_one E;have b:Z [] w T:=((((Z.refl _ _).alloc _).alloc _).trans (S:=[zq w.heap]) K).mono (by simp);clear K q;have f:=fp z;have g:=fp E;clear z E U u;go_wp21;go_region
 all_goals go_wp2
 refine leaves_cons (f:=60) (args:=#[dq w.heap.size,dq (zq w.heap+1)]) (by simp) (by simp[go_sem]) ?_;refine(VY ⟨zq w.heap,0,F⟩ ⟨zq w.heap+1,0,F⟩ _).mono ?_;rintro e d a0⟨rfl,rfl,rfl⟩;have c:Z [] w (((T.setCell ⟨zq w.heap+1,0,F⟩ (.bool C)).setCell ⟨zq w.heap,0,F⟩ (G k)).setCell ⟨zq w.heap+1,0,F⟩ (.bool C)).drew:=
  (((b.setCell (.inr (by simp)) _).setCell (.inr (by simp)) _).setCell (.inr (by simp)) _).drew
 simp[Go.Leaves,settle,results,results44,go_sem,c1,c2];exact c
def T4(p:Nat)(j k:Int)(w:J)(y:w.heap[p]?=H (dr #[G k,G j] 81))(q:errorType w):dS 30 #[.iface 76 (dq p)] w (vc w (G k)):=by
 go_enter func30,ntmps30;go_wp21;refine(V (aaM p j k w y q)).out.mono ?_;rintro e P⟨rfl,u⟩;go_wp2;go_ret;exact⟨D,u⟩
theorem O7(p:Nat)(y k:Int)(w:J)(c:w.heap[p]?=H (dr #[G k,G y] 81))(a:errorType w):dS 20 #[.iface 76 (dq p)] w (vc w (.tuple #[G k,G y])):=by
 have P:=ry (ry a (.cells #[.pointer F] 76)) (.cells #[G 0] 22);have b:=V c;have d:=V a;clear c a;go_enter func20,ntmps20;go_wp21;refine xr (by rfl) ?_;refine oW (λ(g:Unit) z=>⟨#[.iface 76 (dq p),qu,G 0,G 0,dq w.heap.size,dq (zq w.heap+1),.bool I,.iface 76 (dq p),.bool I,cd z 21 (.bool C),cd z 0 (.iface 76 (dq p)),cd z 1 (.iface 78 (dq w.heap.size)),cd z 2 (.bool C),cd z 3 (.bool C),cd z 4 (.iface 76 (dq p)),cd z 5 (dq p),cd z 6 (dq p),cd z 7 (dq p),cd z 8 (G k),cd z 9 (.iface 22 (G k)),cd z 10 (.bool C),cd z 11 (.bool C),cd z 12 (.bool C),cd z 13 (.iface 76 (dq p)),cd z 14 (G k),cd z 15 (dq p),cd z 16 (dq p),cd z 17 (dq p),cd z 18 (G k),cd z 19 (.bool C),cd z 20 (.bool C),qu,qu,qu,qu,qu,qu,qu,qu,qu,qu,qu,qu,qu,qu,qu,qu,qu,qu,qu,qu,qu,qu,qu,qu,qu],[]⟩) (λg z W=>(dn z 2=I->W=((w.alloc (.cells #[.pointer F] 76)).alloc (.cells #[G 0] 22)).drew)/\(dn z 2=C->W.heap[zq w.heap]?=H (dr #[dq p] 76)/\Z [] w W)) 22 [[],[],[0,1],[0,1,2],[0,1,2,3],[0,1,2,3],[0,1,2,3,5],[0,1,2,3,5,6],[0,1,2,3,5,6,7],[0,1,2,3,5,6,7,8],[0,1,2,3,4,5,6,7,8,9],[0,1,2,3,4,5,6,7,8,9,10],[0,1,2,3,4,5,6,7,8,9,10,11],[0,1,2,3,4,5,6,7,8,9,10,11,12],[0,1,2,3,4,5,6,7,8,9,10,11,12,13],[0,1,2,3,4,5,6,7,8,9,10,11,12],[0,1,2,3,4,5,6,7,8,9,10,11,12,15],[0,1,2,3,4,5,6,7,8,9,10,11,12,15,16],[0,1,2,3,4,5,6,7,8,9,10,11,12,15,16,17],[0,1,2,3,4,5,6,7,8,9,10,11,12,13,14,15,16,17,18],[0,1,2,3,4,5,6,7,8,9,10,11,12,13,14,15,16,17,18,19],[0,1,2,3,4,5,6,7,8,9,10,11,12,13,14,15,16,17,18,19,20]] () D D ⟨λ_=>D,λh=>by cases h⟩ ?_ ?_
 .repeat' first|exact kY|refine kX ?_ ?_
  all_goals
   rintro g z W q K l;simp[Cm]at K;refine lz D ?_;intro i u;simp only[kJ,K]
   first
   |have⟨E,K1⟩:=q.2 K.2.2.1;have j:=K1.at b.out (by simp);have c1:=GR E;have U:=aF j 0;have a0:=fp j;dsimp at U;go_simp;first
    |refine u _ _ ⟨g,?_,λh=>q.1 (by rwa [jy (by decide)]at h),λh=>q.2 (by grind)⟩
    |refine(ahd p y k _ j).mono ?_;rintro e w2⟨rfl,rfl⟩;refine u _ _ ⟨g,?_,λh=>q.1 (by rwa [jy (by decide)]at h),λh=>q.2 (by grind)⟩
    |refine(T4 p y k _ j (Kr d.out K1 (by simp))).mono ?_;rintro e w3⟨rfl,Q⟩;refine u _ _ ⟨g,?_,λh=>(by rw[jy (by decide),K.2.2.1]at h;cases h),λ_=>⟨Q.at E (by simp),K1.trans Q⟩⟩
   |go_simp;refine u _ _ ⟨g,?_,λh=>q.1 (by rwa [jy (by decide)]at h),λh=>q.2 (by rwa [jy (by decide)]at h)⟩
   |obtain rfl:=q.1 K.2.2;go_simp;refine(PA ⟨p,0,F⟩ w.heap.size _ _ (Kq P) (by show((w.alloc _).alloc _).heap[zq w.heap]?=_;rw[dc _ _ _ (by simp)];exact aY _ _)).mono ?_;rintro e w1⟨rfl,E,hk⟩;refine u _ _ ⟨g,?_,λh=>(by rw[nf]at h;cases h),λ_=>⟨E,(((Z.refl _ _).alloc _).alloc _).drew.next hk (by simp)⟩⟩
   simp[pA,wY,kJ,K]
 .rintro g W q;simp only[xw];have⟨E,K1⟩:=q.2 tI;have j:=K1.at b.out (by simp);have c1:=GR E;have U:=aF j 0;have f:=aF j 1;have a0:=fp j;dsimp at U f;have T:=V K1;clear q E j K1 P;go_wp21
  go_quiet (fail)
  go_wp2;go_ret2;exact⟨D,T.out.next ((Z.refl [] _).drewN _) (by simp)⟩
attribute [local go_sem] db
theorem errorType.kept(h:errorType w)(u:Z S w P)(y:0∉S):errorType P:=by
 have q:0<zq w.heap:=by rcases qp 0 _ with j|j;exact j;unfold errorType at h;simp[World.cell?,Vk j]at h
 exact(u.cell q y).trans h
def acl(s:O)(d f l c p:Nat):Prop:=∀(j:dB)(base:Nat)(w:J),w.ownsRow base 5 1 j s.size (ji s)->Pp w->RP w->
  dS 32 #[j,.agg #[G d,G f,G l]] w λe P=>JI w e P (.stop c p)
def ajk(w:J)(c p:Nat)(q u:dB)(wc:J):Prop:=∃j k,q=dq j/\u=dq k/\w.heap.size<=j/\wc.heap[j]?=H (dr #[gq,.pointer F] 70)/\iO wc k c p/\Z [] w wc
theorem J7{u:J}{c p:Nat}{e:Ending}(h:JI W e u (.stop c p))(K:Z [] w W):∃k,e=ff (.tuple #[.agg #[gq,.pointer F],dq k])/\ajk w c p (dq u.heap.size) (dq k) (u.alloc (dr #[gq,.pointer F] 70))/\
  (∀j,zq w.heap<=j->W.heap[j]?=H (dr #[gq,.pointer F] 70)->u.heap[j]?=H (dr #[gq,.pointer F] 70)/\ajk w c p (dq j) (dq k) ((u.setCell ⟨j,0,F⟩ (gq)).setCell ⟨j,1,F⟩ (.pointer F))):=by
 obtain⟨k,rfl,E,q⟩:=h;have P:=(Z.refl [] u).alloc (dr #[gq,.pointer F] 70);refine⟨k,D,⟨_,k,D,D,gR K.size q.size,aY u _,P.at E (by simp),(K.trans q).trans P⟩,?_⟩;intro j y Q;have z:=q.at Q (by simp);have T:Z [j] u ((u.setCell ⟨j,0,F⟩ (gq)).setCell ⟨j,1,F⟩ (.pointer F)):=((Z.refl _ _).setCell (.inl (by simp)) _).setCell (.inl (by simp)) _;refine⟨z,j,k,D,D,y,bH (bH z 0 _) 1 _,T.at E (λU=>?_),((K.trans q).setCell (.inr y) _).setCell (.inr y) _⟩;grind[iO]
def Gn(d f l:Int)(p k:Nat):io:=#[G d,G f,G l,gq,.bool C,G p,.iface 76 (dq k),gq,.pointer F]
def DJ(w:J)(a d f l c p k:Nat)(P:J):Prop:=P.heap[a]?=H (dr (Gn d f l p k) 72)/\iO P k c p/\Z [a] w P
def V2(b d f l:Nat)(tv:dB)(s:O)(g:Nat)(w:J)(z:w.heap[b]?=H (dr (sX ((d:Int),(f:Int),(l:Int)) tv) 72))(o:w.ownsRow g 5 1 tv s.size (ji s)){c p:Nat}(A:Pp w)(h:RP w)(B:acl s d f l c p):dS 22 #[dq b] w λe P=>∃k,e=ff (.iface 76 (dq k))/\DJ w b d f l c p k P:=by
 have⟨ao,cp,htv⟩:=df o;subst htv;have R:=fp z;have c0:w.cell? ⟨b,0,F⟩=H (G d):=by rw[aF z];rfl
 have c1:w.cell? ⟨b,1,F⟩=H (G f):=by rw[aF z];rfl
 have c2:w.cell? ⟨b,2,F⟩=H (G l):=by rw[aF z];rfl
 have c3:w.cell? ⟨b,3,F⟩=H (.slice ao s.size cp):=by rw[aF z];rfl
 have t:=Ak b ((d:Int),(f:Int),(l:Int)) _ w z;have i:=(λW (y:Z [] w W)=>B (.slice ao s.size cp) g W (y.ownsRow o (λ_ _=>by simp)) (A.d (bm:=0) (.h y)) (h.kept y));have x:=z;have v:=aY w.drew (dr #[gq,.pointer F] 70);go_enter func22,ntmps22;go_wp21;refine t.mono ?_;rintro e u⟨rfl,rfl⟩;go_wp21
 go_cut [3,4]from 8 to 19 (λL M wc=>ajk u c p L M wc)
 case first=>
  go_region_with (go_at_call 32;first
   |(refine(i _ ((Z.refl [] u).drew)).mono ?_;intro e w2 a;obtain⟨k,rfl,h1,_⟩:=J7 a ((Z.refl [] u).drew);have T:=V h1;clear h1 a)
   |(refine(i _ (((Z.refl [] u).drew).alloc _)).mono ?_;intro e w2 a;obtain⟨k,rfl,_,n⟩:=J7 a (((Z.refl [] u).drew).alloc _);have⟨h3,h4⟩:=n u.heap.size (dF _) v;have q0:w2.cell? ⟨zq u.heap,0,F⟩=H (gq):=(by rw[aF h3];rfl);have q1:w2.cell? ⟨zq u.heap,1,F⟩=H (.pointer F):=(by rw[aF h3];rfl);have z0:=cY h3 0;have z1:=cY h3 1;have T:=V h4;clear n h3 h4 a))
  all_goals (try (go_wp21))
  all_goals (go_meet;exact T)
 case rest=>
  obtain⟨U,k,rfl,rfl,a3,h,q,y⟩:=hcut;have j:=y.at x (by simp);have X:wc.cell? ⟨b,3,F⟩=H (.slice ao s.size cp):=by rw[aF j];rfl
  have Y:wc.cell? ⟨b,4,F⟩=H (.bool I):=by rw[aF j];rfl
  have e5:wc.cell? ⟨b,5,F⟩=H (G 0):=by rw[aF j];rfl
  have e7:wc.cell? ⟨b,7,F⟩=H (gq):=by rw[aF j];rfl
  have e8:wc.cell? ⟨b,8,F⟩=H (.pointer F):=by rw[aF j];rfl
  have t0:wc.cell? ⟨U,0,F⟩=H (gq):=by rw[aF h];rfl
  have t1:wc.cell? ⟨U,1,F⟩=H (.pointer F):=by rw[aF h];rfl
  have f4:=cY j 4;have f5:=cY j 5;have f7:=cY j 7;have f8:=cY j 8;have S:U≠b:=by omega
  have a2:b≠U:=by omega
  have E:k≠b:=by rintro rfl;unfold iO at q;rw[j]at q;simp at q
  have a1:=fp j;have m:=cG j (cG q y);go_wp21
  go_cut []from 20 to 34 (λr=>r.heap[b]?=H (dr #[G d,G f,G l,.slice ao s.size cp,.bool C,G s.size,.nilIface,gq,.pointer F] 72)/\Z [b] wc r)
  case first=>
   go_region
   all_goals (try (go_wp21))
   all_goals (go_meet;exact⟨bH (bH (bH (bH m.1 _ _) _ _) _ _) _ _,(((((Z.refl [b] wc).setCell (.inl (by simp)) _).setCell (.inl (by simp)) _).setCell (.inl (by simp)) _).setCell (.inl (by simp)) _).drew⟩)
  case rest=>
   have⟨hx3,hk3⟩:=hcut;have⟨j,q,y⟩:=m;have Q:iO wc k c p:=hk3.at q (by simpa using E);have g3:wc.cell? ⟨b,3,F⟩=H (.slice ao s.size cp):=by rw[aF hx3];rfl
   have g5:wc.cell? ⟨b,5,F⟩=H (G s.size):=by rw[aF hx3];rfl
   have g6:wc.cell? ⟨b,6,F⟩=H .nilIface:=by rw[aF hx3];rfl
   have s1:wc.cell? ⟨k,1,F⟩=H (G p):=by rw[aF Q];rfl
   have y3:=cY hx3 3;have y5:=cY hx3 5;have y6:=cY hx3 6;have a0:=fp hx3;have K:=E;have N:b≠k:=λe=>K e.symm;have k4:=hk3.trans ((((Z.refl [b] wc).setCell (p:=⟨b,5,F⟩) (.inl (by simp)) (G p)).setCell (p:=⟨b,6,F⟩) (.inl (by simp)) (.iface 76 (dq k))).setCell (p:=⟨b,3,F⟩) (.inl (by simp)) (gq));have T:Hid (DJ u b d f l c p k (((wc.setCell ⟨b,5,F⟩ (G p)).setCell ⟨b,6,F⟩ (.iface 76 (dq k))).setCell ⟨b,3,F⟩ (gq))):=V ⟨bH (bH (bH hx3 5 _) 6 _) 3 _,k4.at q (by simpa using K),(y.mono (by simp)).trans k4⟩;go_wp2;go_ret;exact⟨k,D,T⟩
structure W4(w:J):Prop where
 g:Pp w
 A:RP w
 B:errorType w
 el:0<zq w.heap
theorem W4.kept(h:W4 w)(j:Z [] w P):W4 P:=⟨h.g.d (bm:=0) (.h j),h.A.kept j,h.B.kept j (by simp),kQ h.el j.size⟩
attribute [local go_sem] db
def Xo(a:Nat)(d f l:Int)(c p k:Nat)(w:J)(j:w.heap[a]?=H (dr (Gn d f l p k) 72))(z:iO w k c p)(P:errorType w):dS 12 #[dq a] w (vc w (.tuple #[G p,G c,G p])):=by
 have Co:dS 23 #[dq a] w (vc w (.tuple #[G p,.iface 76 (dq k)])):=by
  have U:w.cell? ⟨a,4,F⟩=H (.bool C):=by rw[aF j];rfl
  have b:w.cell? ⟨a,5,F⟩=H (G p):=by rw[aF j];rfl
  have g:w.cell? ⟨a,6,F⟩=H (.iface 76 (dq k)):=by rw[aF j];rfl
  have Q:=fp j;go_enter func23,ntmps23;go_wp21;go_region
  all_goals (try go_wp2)
  all_goals (try go_ret2)
  all_goals exact⟨D,(Z.refl [] w).drew⟩
 have K:=P;have HS:=z;go_enter func12,ntmps12;go_wp21;refine Co.mono ?_;rintro e T⟨rfl,q⟩;have E:=O7 k (p:Int) (c:Int) T (q.at HS (by simp)) (K.kept q (by simp));go_wp21;refine E.mono ?_;rintro e w2⟨rfl,y⟩;have u:=q.trans y;go_wp2;go_ret3;exact⟨D,u⟩
def aar(w:J):Calls prog 27 #[gq] w λe P=>e=ff (gq)/\P=w:=by have j:=λw=>Mn w 24 75 F 0 0 0 0 underlying24;go_wp2;go_ret;simp
def Ek(a:Nat)(d f l:Int)(p k:Nat)(w:J)(j:w.heap[a]?=H (dr (Gn d f l p k) 72)):Calls prog 25 #[dq a] w λe P=>e=ff (.bool I)/\P=w:=by
 have q:w.cell? ⟨a,8,F⟩=H (.pointer F):=by rw[aF j];rfl
 go_wp2;go_ret;simp
def abX(v:dB)(a:Nat)(d f l:Int)(p k:Nat)(w:J)(j:w.heap[a]?=H (dr (Gn d f l p k) 72)):dS 33 #[dq a,v] w λe P=>e=pG/\P=w:=by
 go_enter func33,ntmps33;go_wp21;refine(Ek a d f l p k w j).mono ?_;rintro e q⟨rfl,rfl⟩;go_wp2;go_end0;simp
theorem Z.putObj(h:Z S w P)(j:zq w.heap<=l)(a:Obj):Z S w (P.putObj l a):=h.grown (AR P l a) (λk e=>by grind)
theorem Ja{b:Program}{g:Operand}{d:Array Tmp}{Q:Exit->Act->J->Prop}{a:Act}{c:Nat}{rv:dB}
  (f:a.eval g=.func (.func c) #[rv] #[]) (T:∀u w,(callFunc c u).run b w=.ok (.enter c u) w)
  (U:∀y W,Z [] w W->Calls b c #[rv,y] W λe P=>(∃v,e=ff v)/\P=W)
  (hd:∀a0 W,Z [] w W->zq w.heap<=a0->W.heap[a0]?=H (.deferred (H []))->Q .normal {a with defers:={target:=.collected a0,args:=#[]}::a.defers} W):(Code.rangeFunc g d assign body).wpIn Fence.wide n b Q a w:=by
 refine Rz ?_;intro fn _;obtain⟨rec,z⟩:∃rec:Loop,rec={state:=.ready,pending:=F,fn,tmps:=a.tmps,params:=d,assign,body,defers:=zq w.heap}:=⟨_,D⟩;obtain⟨q,j⟩:∃q,q=(w.alloc (.deferred (H []))).alloc (.loop rec):=⟨_,D⟩;have e1:=RA (P:=b) (w:=w) fn a.tmps d assign body;rw[<-z,<-j]at e1;have K:q.heap[zq w.heap+1]?=H (.loop rec):=by rw[j];have:=DB (w.alloc (.deferred (H []))) (.loop rec);rwa [zB]at this
 have i:q.heap[zq w.heap]?=H (.deferred (H [])):=by rw[j];exact(dc _ _ _ (by simp)).trans (DB w _)
 have E:Z [] w q:=by rw[j];exact((Z.refl _ _).alloc _).alloc _
 refine⟨zq w.heap+1,[{target:=.collected w.heap.size,args:=#[]}],q,{target:=.fn (.func c) #[],args:=#[rv,.func (.yield (zq w.heap+1)) #[] #[]]},q,c,
  #[rv,.func (.yield (zq w.heap+1)) #[] #[]],q,e1,?_,λ_ _=>trivial,?_,λh=>by simp[Fence.wide]at h,?_⟩
 .simp only[resolve,f];simp[go_sem]
 .simp[invoke,go_sem,T]
 refine callsIn_wide.2 ((U _ _ E).mono ?_);rintro e P⟨⟨v,rfl⟩,rfl⟩;refine⟨F,_,by rw[DC K (by grind),z],(hd w.heap.size _ (E.putObj (by omega) _) (dF _) ?_)⟩;grind[World.putObj_heap_other]
def aa5(b:Nat)(d f l:Int)(p k:Nat)(w:J)(a:w.heap[b]?=H (dr (Gn d f l p k) 72)):dS 13 #[dq b] w (vc w (gq)):=by
 refine(AU (n:=3)).1 ?_;refine AV func13 D trivial ?_ D;simp only[ntmps13,wL,uJ,uY,Nat.reduceAdd,Nat.reduceSub,wM,wN,wO,wP,tA,tf];have q:Z [] w (w.alloc (.cells #[gq] 23)):=(Z.refl _ _).alloc _;have K:=aY w (dr #[gq] 23);have Q:=q.at a (by simp);have c:=a
 gi_wp2_with (refine⟨trivial,?_⟩;gi_at_call 24;refine(callsIn_wide.2 (Ol _ b)).mono ?_;rintro e P⟨rfl,rfl⟩)
 obtain⟨z,E⟩:∃z,z=w.alloc (dr #[gq] 23):=⟨_,D⟩;rw[<-E]at q K Q|-;have i:=(show zq z.heap=zq w.heap+1 by rw[E];simp);refine Ja (c:=33) (rv:=dq b) D (Go.Proofs.enters_of func33 (by rfl) D) ?_ ?_;intro y W j;exact(abX y b d f l p k W (j.at Q (by simp))).mono (λe P h=>⟨⟨_,h.1⟩,h.2⟩)
 .intro a0 W j g u;have U:=aF (j.at K (by simp)) 0;dsimp at U;have T:=q.trans j;gi_wp2;refine⟨by simp,.inl ⟨_,_,D,ru u,?_⟩⟩;exact⟨_,results_tmp D _ _ _,D,T.putObj (by omega) _⟩
theorem ah6(B b:Nat)(a:dB×Bool)(l:List UInt8)(w w0:J)(h:Wu w B b a l)(z:Z [] w0 w)(C:zq w0.heap<=B)(a3:ln l<=140737488355328):dS 37 #[dq b] w λe P=>e=ff (Y ⟨l.toArray⟩)/\Z [] w0 P:=by
 by_cases f:l=[]
 .subst f;obtain⟨p,aI,v,y,u,a1⟩:∃p,te w B b a p []:=by
   rcases h with h|h
   all_goals grind
  have T:=fp y;have E:=λ(W:J) (p:Option Addr)=>Lib.run_unsafeString_none (P:=prog) (w:=W) 141 3 9 p;have d:=z;rcases u.2 with⟨rfl,_⟩|⟨g,cap,q,rfl,a0,i,O⟩
  .have U:w.drew.cell? ⟨b,1,F⟩=H (gq):=by have:w.drew.heap[b]?=H (dr #[p,gq,a.1,.bool a.2] 98):=y;rw[ni this];rfl
   have K:(Builtin.unsafeSliceData_ #[58] 141 #[gq]).run prog w.drew=.ok (.pointer F) w.drew:=Lib.run_unsafeSliceData_nil _ _ _ _ _;have m:=E w.drew F;go_enter func37,ntmps37;go_wp2;go_region
   all_goals (go_wp2;go_ret;exact⟨D,d.drew⟩)
  .have U:w.drew.cell? ⟨b,1,F⟩=H (lO g 0 cap):=by have:w.drew.heap[b]?=H (dr #[p,lO g 0 cap,a.1,.bool a.2] 98):=y;rw[ni this];rfl
   by_cases n:cap=0
   .subst n;have K:(Builtin.unsafeSliceData_ #[58] 141 #[lO g 0 0]).run prog w.drew=.ok (dq w.drew.heap.size) (w.drew.alloc (.view ⟨g,0,F⟩ 5)):=by have Q:w.drew.heap[g]?=H (dr q 5):=i;exact Lib.run_unsafeSliceData_zero _ _ _ 5 underlying141 ⟨g,0,F⟩ 0 _ (by simp only[World.shape?,Q];rfl)
    have m:=E (w.drew.alloc (.view ⟨g,0,F⟩ 5)) (H ⟨zq w.drew.heap,0,F⟩);have A:=E (w.alloc (.view ⟨g,0,F⟩ 5)).drew (H ⟨zq w.heap,0,F⟩);have c0:w.cell? ⟨b,1,F⟩=H (lO g 0 0):=U;have c2:(w.drew.alloc (.view ⟨g,0,F⟩ 5)).cell? ⟨b,1,F⟩=H (lO g 0 0):=by rw[py _ _ _ T];exact U
    have c:=d.drew.alloc (.view ⟨g,0,F⟩ 5);go_enter func37,ntmps37;go_wp2;go_region
    all_goals (go_wp2;go_ret;exact⟨D,c⟩)
   .have K:(Builtin.unsafeSliceData_ #[58] 141 #[lO g 0 cap]).run prog w.drew=.ok (dq g) w.drew:=s0 _ _ _ _ _ _ n;have m:=E w.drew (H ⟨g,0,F⟩);go_enter func37,ntmps37;go_wp2;go_region
    all_goals (go_wp2;go_ret;exact⟨D,d.drew⟩)
 .obtain⟨p,aI,v,y,u,a1⟩:∃p,te w B b a p l:=by
   rcases h with h|h
   all_goals grind
  have M:ln l≠0:=by simpa using f
  obtain⟨g,cap,q,rfl,a0,i,N,G,L,a2⟩:∃g cap q,v=lO g (ln l) cap/\B<=g/\w.heap[g]?=H (dr q 5)/\(ln l)<=cap/\cap<=maxLen/\q.size=cap*1/\q.toList.take (ln l*1)=en l:=by rcases u.2 with⟨_,R⟩|⟨g,cap,q,s,r⟩;omega;exact⟨g,cap,q,s,r⟩
  have U:w.drew.cell? ⟨b,1,F⟩=H (lO g (ln l) cap):=by have:w.drew.heap[b]?=H (dr #[p,lO g (ln l) cap,a.1,.bool a.2] 98):=y;rw[ni this];rfl
  have T:=fp y;have K:(Builtin.unsafeSliceData_ #[58] 141 #[lO g (ln l) cap]).run prog w.drew=.ok (dq g) w.drew:=
   s0 _ _ _ _ _ _ (by omega)
  have E:=by refine Lib.run_unsafeString_row w.drew 141 3 9 5 underlying141 D g q.size (by have Q:w.drew.heap[g]?=H (dr q 5):=i;simp[World.shape?,Q]) l f ?_ ?_ ?_;omega;omega;intro j x t;have:=u.cells (g:=g) D j (.int .u8 x.toNat) (by simp[en,t]);exact this
  have c:Hid (Z [] w0 (w.drew.freeze ⟨g,0,F⟩ (ln l))):=V (KS (Lib.below_freeze (Below.drew ⟨z.os,z.tape,z.output,z.size,λk hk=>z.block k hk (by simp)⟩) (p:=⟨g,0,F⟩) (by grind) _));go_enter func37,ntmps37;go_wp2;go_region
  all_goals (go_wp2;go_ret;exact⟨D,c⟩)
def Vg(w:J)(k:Nat)(j:O)(bY:iB)(ts:List Tn)(h:ik w (.el j bY ts) (.el k))(hb:rK w)(o:RP w)
  (E:∀b,(∀e∈rN b ts,yg e=C)/\vy (rN b ts)<=140737488355328):dS 26 #[dq k] w (vc w (Y ⟨(Vs (rN (TD pn 1) ts)).1.toArray⟩)):=by
 have c:=BU w hb;have d:=(λz W (T)=>X8 z 1 pn W T (by decide) Yl);have n:=h;have m:=o;have l:=E;go_enter func26,ntmps26;go_wp21;refine c.mono ?_;rintro e w1⟨z,rfl,T,y,_⟩;have i:=d z w1 T;go_wp21;refine i.mono ?_;rintro e u⟨⟨v,rfl,a⟩,K⟩;have⟨kk,lb,hvv,_⟩:=a.call;subst hvv;have q:=y.trans K;have⟨h1,H2⟩:=l (TD pn 1);have U:=(Z.refl [] u).alloc (dr #[.pointer F,gq,.func (.func kk) #[] lb,.bool I] 98);have a2:=Vf u.heap.size u.heap.size _ _ (rN (TD pn 1) ts) u a.j (m.kept q) (dF _) h1 H2;have f:=yv a2 k j bY ts (ik.kept q n) D _ U ⟨(.inl ⟨dF _,_,aY u _,mY _ _ _ _,by simp[dl]⟩),eZ _,by simp⟩;go_wp21;refine f.mono ?_;rintro e w4⟨rfl,⟨hl,r,a1⟩,P⟩;have⟨p,vv,hbk,_⟩:=hl.cells;have a0:=fp hbk;have g:=ah6 _ _ _ _ w4 u hl P (dF _) (gR r H2);go_wp21;refine g.mono ?_;rintro e s⟨rfl,Q⟩;go_wp2;go_ret;exact⟨D,(q.trans Q)⟩
def afq(w:J)(a k:Nat)(c:io)(j:O)(bY:iB)(ts:List Tn)(u:Z2 w a c k)(h:ik w (.el j bY ts) (.el k))(K:rK w)(P:RP w)
  (q:∀y,(∀e∈rN y ts,yg e=C)/\vy (rN y ts)<=140737488355328):dS 14 #[dq a] w (vc w (Y ⟨(Vs (rN (TD pn 1) ts)).1.toArray⟩)):=by
 have z:=Vg w k j bY ts h K P q;have Q:=u.u;go_enter func14,ntmps14;go_wp21;refine(Hq w a k c u).mono ?_;rintro e T⟨rfl,rfl⟩;go_wp21;refine z.mono ?_;rintro e U⟨rfl,E⟩;go_wp2;go_ret;exact⟨D,E⟩
def MQ(s:O):iJ++s=s:=by rfl
def Vm:io:=#[G 0,G 0,gq,Y iJ,gq]
theorem y9{E:Nat}(z:w.ownsRow base e E v n xs){t:TypeId}(P:w.heap[b]?=H (dr c t))(y:e≠t):∀k,v.ownBlock=H k->k∉[b]:=by intro k j T;rcases z.2 with⟨e2,_⟩|⟨U,q,u,e2,_,Q,_⟩;rw[e2]at j;cases j;rw[e2]at j;have K:=jS j;grind
def CZ(T:List Tn):List It:=gF (rN (λ_=>I) T)
theorem Z2.of{k:Nat}{d f l:Int}(h:w.heap[bx]?=H (dr (QO d f l n v k) 72)):Z2 w bx (QO d f l n v k) k:=⟨h,D⟩
structure Told where
 c:Nat
 p:Nat
 A:List It
 IA:O
 B:List Sp
variable {X:Told}
def Pl(w:J)(X:Told)(e:Ending)(P:J):Prop:=∃E q j u y z,e=ff (.tuple #[.agg #[G X.c,G X.p,.slice E q j,Y X.IA,.slice u y z],.bool C])/\P.ownsRow w.heap.size 51 3 (.slice E q j) (ln X.A) (ou X.A)/\P.ownsRow w.heap.size 75 3 (.slice u y z) (ln X.B) (kO X.B)/\Z [] w P
def IC(T:List Tn):O:=⟨(Vs (rN (TD pn 1) T)).1.toArray⟩
def S3(T:List Tn):Prop:=(∀j,(∀e∈rN j T,yg e=C)/\vy (rN j T)<=140737488355328)/\(ln (CZ T))<=1000000000
def abU:∀nm:O,TD pn 1 nm=cZ me nm:=by intro nm;unfold TD pn;rw[Ba,Ba,Ba,Ba,show tM [] nm=0 from D];show _=cZ Pa nm;cases cZ _ nm<;>cases cZ _ nm<;>cases cZ _ nm<;>cases cZ _ nm<;>decide
theorem ago(bY:iB):MD bY=tw (EI bY):=by unfold MD tw EI;rw[tc];simp[VO,iE,aaI]
theorem agV(nm:O)(bY:iB):KE nm bY=iV nm.data.toList (EI bY):=by grind[ago,KE,iV,iE]
theorem afh(nm:O):(nm.toList==[115,116,121,108,101])=fG nm aN:=by grind[eC,fG]
def ZI(A:List UInt8)(b:Bool)(nm:O)(bY:iB):yw (A,b) (.enter nm bY)=(A++iV nm.data.toList (EI bY),fG nm aN):=by rw[<-agV,<-afh];rfl
mutual
def anC{p:O}:∀(t:Tn)(A:List UInt8),Kt p t->(Bx (TD pn 1) t).foldl yw (A,fG p aN)=(A++AN p t,fG p aN)
 | .el nm bY ks,A,h=>by
  have q:fG p aN=I:=by
   cases hq:fG p aN with
   |false=>rfl
   |true=>
    have j:=WK h.1;rw[jM.1 hq]at j;exact absurd j (by decide+kernel)
  unfold Bx AN;rw[abU,q];cases hv:cZ me nm with
  |true=>
   have:fG nm aN=I:=by
    cases hq:fG nm aN with
    |false=>rfl
    |true=>rw[jM.1 hq]at hv;exact absurd hv (by decide+kernel)
   show yw (A,I) (.enter nm bY)=_;rw[ZI,this,dw D,yy]
  |false=>
   show(rN (TD pn 1) ks++[Ev.tz nm]).foldl yw (yw (A,I) (.enter nm bY))=_;rw[ZI,RM,ak6 ks _ h.2.2.2.2.2.2];show((A++iV nm.data.toList (EI bY)++yC nm ks)++iE [uN,nm,eV],I)=_;rw[di (by decide)];simp[iE,jo]
 | .tx s,A,h=>by unfold Bx AN;show(A++(if fG p aN then s else Cz s).data.toList,_)=_;split;rfl;rw[aaH]
 | .cm s,A,h=>by unfold Bx AN;show(A++iE _,_)=_;simp[iE,IU]
 | .dt s,A,h=>by unfold Bx AN;show(A++iE _,_)=_;simp[iE,SJ,PX]
def ak6{p:O}:∀(ts:List Tn)(A:List UInt8),RR p ts->(rN (TD pn 1) ts).foldl yw (A,fG p aN)=(A++yC p ts,fG p aN)
 |[],A,_=>by simp[rN,yC]
 |t::ts,A,⟨_,h1,h2⟩=>by unfold rN yC;rw[RM,anC t A h1,ak6 ts _ h2,oX]
end
theorem agG(h:(13:UInt8)∉s.data.toList):pq s=s:=by
 let y:∀i,bt s i≠13:=λi j=>by by_cases q:i<s.size;rw[NL q]at j;exact h ((show(13:UInt8)=s[i]from UInt8.toNat_inj.1 (by grind))▸uI (l:=s.data.toList) (by simpa using q));unfold bt at j;grind
 let e:bY s s.size=et s.size:=by unfold bY;rw[List.filter_eq_self];exact λa _=>(λi=>by grind[ya]) a
 unfold pq;rw[e]
 let e2:(et s.size).map (C4 s)=s.data.toList:=by apply List.ext_getElem (by simp);intro i u z;rw[List.getElem_map,List.getElem_range];unfold C4 xd;rw[di (y i),NL (by simpa using u)];simp;rfl
 rw[e2]
theorem Jq(v:Bool):∀(n:Nat)(s:List UInt8),ln s<=n->(13:UInt8)∉s->(13:UInt8)∉lp v s
 |_,[],_,_=>nofun
 |0,_::_,h,_=>by simp at h
 |n+1,c::t,u,h=>by
  simp at h
  let u:=by simpa using u
  let j:=Jq v n t u h.2
  unfold lp;split;simp[j];split;simp[j];split;simp[j];split;simp[j];split;rename_i y _ _ _ _ _;simp[(Jq v n y (by grind) (λq=>h.2 (gS _ q)))];grind
theorem DM(h:lr s=C):(13:UInt8)∉s.data.toList:=by grind[lr]
theorem akR{bY:iB}(u:lr nm=C)(j:(bY.all λa=>lr a.1&&lr a.2)=C):(13:UInt8)∉iV nm.data.toList (EI bY):=by
 let y:(13)∉tw (EI bY):=by
  unfold tw EI;rw[tc];intro q
  let ⟨a,ha,hx⟩:=gn.1 q
  have:=dm.1 j a ha;rw[fq]at this;simp[VO,(Jq C _ _ (dF _) (DM this.2)),(DM this.1)]at hx
 grind[DM,iV]
mutual
theorem ak7{p q:O}:∀(t:Tn),U3 q t=C->(13:UInt8)∉AN p t
 | .el nm bY ks,h=>by have h:(lr nm&&XI q nm&&(bY.all λa=>lr a.1&&lr a.2)&&Fl nm ks)=C:=h;rw[fq,fq,fq]at h;have j:=akR h.1.1.1 h.1.2;have u:=XQ (p:=nm) ks h.2;have n:=DM h.1.1.1;unfold AN;split<;>simp[j,u,jo,n]
 | .tx s,h=>by have h:(lr s&&(!cZ yt q||MI s))=C:=h;rw[fq]at h;unfold AN;split;exact DM h.1;exact Jq _ _ _ (dF _) (DM h.1)
 | .cm s,h=>by have n:=DM (show lr s=C from h);simp[AN,IU,n]
 | .dt s,h=>by have n:=DM (show lr s=C from h);simp[AN,SJ,PX,n]
theorem XQ{p q:O}:∀(ts:List Tn),Fl q ts=C->(13:UInt8)∉yC p ts
 |[],_=>by simp[yC]
 |t::ts,h=>by have h:(U3 q t&&Fl q ts)=C:=h;rw[fq]at h;have j:=ak7 (p:=p) t h.1;have u:=XQ (p:=p) ts h.2;simp[yC,j,u]
end
structure yE(w:J)(g off n:Nat)(A:Nat->It):Prop where
 B:∀i,i<n->w.cell? ⟨g,off+i*3,F⟩=H (G (A i).k)
 c1:∀i,i<n->w.cell? ⟨g,off+i*3+1,F⟩=H (Y (A i).s)
 c2:∀i,i<n->w.cell? ⟨g,off+i*3+2,F⟩=H (Y (A i).t)
def xz(L:List It)(i:Nat):It:=L.getD i ⟨0,⟨#[]⟩,⟨#[]⟩⟩
theorem KP(y:w.ownsRow base 51 3 (lO g (ln L) cap) (ln L) (ou L)):yE w g 0 (ln L) (xz L):=by
 have u:∀(L:List It)(i k:Nat),i<ln L->k<3->(ou L)[i*3+k]?=[dv .i64 (xz L i).k,Y (xz L i).s,Y (xz L i).t][k]?:=by
  intro L
  induction L with
  |nil=>simp
  |cons p L ih=>
   intro i k j q;show(dv .i64 p.k:: .string p.s:: .string p.t::ou L)[i*3+k]?=_;cases i with
   |zero=>
    have e:xz (p::L) 0=p:=rfl;grind
   |succ i=>
    have e:xz (p::L) (i+1)=xz L i:=by unfold xz;simp
    grind
 have c:∀i k,i<ln L->k<3->w.cell? ⟨g,i*3+k,F⟩=[dv .i64 (xz L i).k,Y (xz L i).s,Y (xz L i).t][k]?:=by
  intro i k j q
  match k,q with
  |0,q=>have:=y.cells (g:=g) D (i*3+0) _ (u L i 0 j q);grind[fC]
  |1,q=>have:=y.cells (g:=g) D (i*3+1) _ (u L i 1 j q);grind[fC]
  |2,q=>have:=y.cells (g:=g) D (i*3+2) _ (u L i 2 j q);grind[fC]
 refine⟨λi j=>?_,λi j=>?_,λi j=>?_⟩;rw[nl];exact c i 0 j (by omega)
 all_goals grind
def X7(s u:O):Nat->Nat->Nat->Bool
 |0,_,_=>I
 |n+1,f,i=>if i=u.size\/bt u i=32 then (if s.toList≠[]/\(u.extract f i).toList=s.toList then C else X7 s u n (i+1) (i+1))else X7 s u n f (i+1)
theorem JM(s u:O)(w:J)(m:u.size<=1000):dS 17 #[Y s,Y u] w (JK w (.bool (X7 s u (u.size+1) 0 0))):=by
 have a0:=get_bt u;obtain⟨r,d⟩:∃r,r=X7 s u (u.size+1) 0 0:=⟨_,D⟩;rw[<-d];have e:=V d;clear d;go_enter func17,ntmps17;go_wp2
 go_loopw [5,6] (λf i wr=>∃a k:Nat,f=G a/\i=G k/\a<=k/\k<=u.size+1/\Hid (r=X7 s u (u.size+1-k) a k)/\wr=w) (λ_ i _=>u.size+1-(intOf i).toNat)
 case atStart=>grind
 case round=>
  obtain⟨a,k,rfl,rfl,ha,hk,j,hw⟩:=hrel;replace hw:=hw.symm;subst hw;clear e;by_cases h1:k<=u.size
  .have q:Hid (∀(b:Nat)(x y:Int),x=b->y=k+1->b<=k+1->r=X7 s u (u.size-k) b (k+1)->(∃a z:Nat,dv .i64 x=G a/\dv .i64 y=G z/\a<=z/\z<=u.size+1/\Hid (r=X7 s u (u.size+1-z) a z)/\True)/\u.size+1-(intOf (G y)).toNat<u.size+1-(intOf (G k)).toNat):=V (by rintro b _ _ rfl rfl P E;exact⟨⟨b,k+1,D,D,P,by omega,by grind[V],trivial⟩,by simp[intOf];omega⟩)
   rw[show u.size+1-k=(u.size-k)+1 by omega,X7]at j;have K:k=u.size\/k<u.size/\((k:Int)==(u.size:Int))=I:=by rcases qp k u.size with h|h;grind;grind
   by_cases P:k=u.size\/bt u k=32
   .rw[dw P]at j;by_cases E:s.toList≠[]/\(u.extract a k).toList=s.toList
    .rw[dw E]at j;have T:s.toList.isEmpty=I:=by simpa using E.1
     have c2:((u.extract a k).toList==s.toList)=C:=beq_iff_eq.2 E.2;obtain rfl:=j.out;clear E q j;rcases K with rfl|⟨K,U⟩
     all_goals (try have c:bt u k=32:=by omega)
     all_goals
      go_wp2;go_ret;exact⟨D,D⟩
    .rw[di E]at j;have Q:=V (q.out (k+1) ((k:Int)+1) _ (by omega) D (by omega) j.out);clear q j;by_cases T:s.toList=[]
     .clear E;rcases K with rfl|⟨K,U⟩
      all_goals (try have c:bt u k=32:=by omega)
      all_goals (go_wp2_with fail;exact Q.out)
     .have c2:((u.extract a k).toList==s.toList)=I:=beq_eq_false_iff_ne.2 λh=>E ⟨T,h⟩;replace T:s.toList.isEmpty=I:=by simpa using T
      clear E;rcases K with rfl|⟨K,U⟩
      all_goals (try have c:bt u k=32:=by omega)
      all_goals (go_wp2_with fail;exact Q.out)
   .rw[di P]at j;have Q:=V (q.out a (a:Int) _ D D (by omega) j.out);have U:(bt u k==32)=I:=beq_eq_false_iff_ne.2 λh=>P (.inr h);have c:((k:Int)==(u.size:Int))=I:=beq_eq_false_iff_ne.2 (by omega);have l:k<u.size:=by omega
    clear P q j K;go_wp2_with fail;exact Q.out
  .have g:r=I:=by rw[j.out,show u.size+1-k=0 by omega];rfl
   subst g;go_wp2;go_ret;exact⟨D,D⟩
theorem yE.kept{j:Nat}{A:Nat->It}(h:yE w g j n A)(u:Z [] w P)(q:g<zq w.heap):yE P g j n A:=
 ⟨λi y=>by rw[u.cell q (by simp)];grind[yE.B],λi y=>by rw[u.cell q (by simp)];grind[c1],λi y=>by rw[u.cell q (by simp)];grind[c2]⟩
theorem drop_at{k:Nat}(h:k<ln L):L.drop k=xz L k::L.drop (k+1):=by rw[xu h];grind[xz]
def adV{k:Nat}(h:k<ln L):xz L k∈L:=Ms (i:=k) (by rw[drop_at h];simp)
def Hy(s:O):Nat->Nat->Bool
 |0,_=>I
 |n+1,i=>if bt s i=13 then C else Hy s n (i+1)
def EK(s:O):Nat->Nat->Bool
 |0,_=>C
 |n+1,i=>if bt s i=32\/bt s i=10\/bt s i=9\/bt s i=12 then EK s n (i+1)else I
theorem U6(h:i<s.size)(c:UInt8):(s[i]==c)=decide (bt s i=(c.toNat:Int)):=by grind[NL,UInt8.toNat_inj]
theorem Yz(s:O):∀(n i:Nat),i+n=s.size->Hy s n i=(s.data.toList.drop i).contains 13
 |0,i,h=>by rw[np (by have:ln s.data.toList=s.size:=rfl;omega)];rfl
 |n+1,i,h=>by rw[xu _];show(if bt s i=13 then C else Hy s n _)=((13)==s[i]||_);rw[Yz s n _ (by omega),Bool.beq_comm ..,U6 (by omega)];grind
theorem Yc(s:O):∀(n i:Nat),i+n=s.size->EK s n i=(s.data.toList.drop i).all λx=>x==32||x==9||x==10||x==12
 |0,i,h=>by rw[np (by have:ln s.data.toList=s.size:=rfl;omega)];rfl
 |n+1,i,h=>by
  let j:i<s.size:=by omega
  rw[xu (j)];show(if _ then EK s n _ else I)=((s[i]==32||s[i]==9||s[i]==10||s[i]==12)&&_);rw[Yc s n _ (by omega),U6 j,U6 j,U6 j,U6 j];grind
theorem Tt(s:O)(w:J)(T:s.size<=1048576):dS 16 #[Y s,.int .u8 13] w (JK w (.bool (!lr s))):=by
 let K:=get_bt s
 let ⟨r,hr⟩:∃r,r=!lr s:=⟨_,D⟩
 rw[<-hr];have y:Hid (r=Hy s s.size 0):=V (by grind[Yz,lr]);clear hr;go_enter func16,ntmps16;go_wp2
 go_loopw [5] (λi wr=>∃k:Nat,i=G k/\k<=s.size/\Hid (r=Hy s (s.size-k) k)/\wr=w) (λi _=>s.size-(intOf i).toNat)
 case atStart=>grind
 case round=>
  obtain⟨k,rfl,Q,j,u⟩:=hrel;replace u:=u.symm;subst u;clear y;by_cases z:k<s.size
  .rw[show s.size-k=(s.size-(k+1))+1 by omega,Hy]at j;by_cases q:bt s k=13
   .rw[dw q]at j;obtain rfl:=j.out;clear j;go_wp2;go_ret;exact⟨D,D⟩
   .rw[di q]at j;have P:(bt s k==13)=I:=beq_eq_false_iff_ne.2 q;clear q;go_wp2_with fail;exact⟨⟨k+1,D,z,j,trivial⟩,by simp[intOf];omega⟩
  .have E:r=I:=by rw[j.out,show s.size-k=0 by omega];rfl
   subst E;go_wp2;go_ret;exact⟨D,D⟩
theorem aaj(s:O)(w:J)(a:s.size<=1048576):dS 18 #[Y s] w (JK w (.bool (MI s))):=by
 let Q:=get_bt s
 let ⟨r,hr⟩:∃r,r=MI s:=⟨_,D⟩
 rw[<-hr];have E:Hid (r=EK s s.size 0):=V (by rw[hr,Yc s s.size 0 (by omega)];rfl);clear hr;go_enter func18,ntmps18;go_wp2
 go_loopw [3] (λi wr=>∃k:Nat,i=G k/\k<=s.size/\Hid (r=EK s (s.size-k) k)/\wr=w) (λi _=>s.size-(intOf i).toNat)
 case atStart=>grind
 case round=>
  obtain⟨k,rfl,hk,u,y⟩:=hrel;replace y:=y.symm;subst y;clear E;by_cases K:k<s.size
  .rw[show s.size-k=(s.size-(k+1))+1 by omega,EK]at u;by_cases q:bt s k=32\/bt s k=10\/bt s k=9\/bt s k=12
   .rw[dw q]at u;have z:Hid ((∃j:Nat,dv .i64 ((k:Int)+1)=G j/\j<=s.size/\Hid (r=EK s (s.size-j) j)/\True)/\s.size-(intOf (G ((k:Int)+1))).toNat<s.size-(intOf (G k)).toNat):=V ⟨⟨k+1,D,K,u,trivial⟩,by simp[intOf];omega⟩;clear u;rcases q with q|q|q|q
    all_goals
     go_wp2_with fail;exact z.out
   .rw[di q]at u;obtain rfl:=u.out;clear u;have T:(bt s k != 32)=C:=by simp;omega
    have U:(bt s k != 10)=C:=by simp;omega
    have b2:(bt s k != 9)=C:=by simp;omega
    have b3:(bt s k != 12)=C:=by simp;omega
    clear q;go_wp2;go_ret;exact⟨D,D⟩
  .have P:r=C:=by rw[u.out,show s.size-k=0 by omega];rfl
   subst P;go_wp2;go_ret;exact⟨D,D⟩
def strs(l:List O):List dB:=l.map dQ
abbrev SR(w W:J)(v:dB)(l:List O):Prop:=W.ownsRow w.heap.size 9 1 v (ln l) (strs l)
structure O3(w W:J)(a b c:dB)(A B Co:List O):Prop where
 K:SR w W a A
 g:SR w W b B
 P:SR w W c Co
 U:∀k,a.ownBlock=H k->b.ownBlock≠H k
 Q:∀k,b.ownBlock=H k->c.ownBlock≠H k
 L:∀k,c.ownBlock=H k->a.ownBlock≠H k
 E:Z [] w W
def O3.lay{j:J}{a b c:dB}{B:List O}(h:O3 w W a b c A B Co)(k:Z [] W j):O3 w j a b c A B Co:=
 ⟨k.ownsRow h.K (λ_ _=>nofun),k.ownsRow h.g (λ_ _=>nofun),k.ownsRow h.P (λ_ _=>nofun),h.U,h.Q,h.L,h.E.trans k⟩
theorem O3.pop{b c:dB}{B:List O}(h:O3 w W (lO g (ln A+1) cap) b c (A++[s]) B Co):O3 w W (lO g (ln A) cap) b c A B Co:=by refine⟨ownsRow_pop (last:=[Y s]) (by simp[strs]) ?_,h.g,h.P,h.U,h.Q,h.L,h.E⟩;have:=h.K;grind[strs]
def adP:(prog.info? 9).map (λi=>(i.zero,i.size,i.bytes))=H (H (Y iJ),1,16):=by kernel_rfl
theorem Ve{U:Array Oper}{y:List Oper}{op:Oper}{q:Act}{Q:Exit->Act->J->Prop}(a0:op.guard=F)(i l:Operand)(m:op.op=.call {callee:=.builtin .append,args:=#[i,l],argTypes:=#[48,48]}){a b c:dB}{B:List O}(h:O3 w W a b c A B Co)(o:q.eval i=a)(p:q.eval l=lO W.heap.size 1 1)(hl:ln A<=1000000001)(K:∀d f,O3 w f d b c (A++[s]) B Co->wpList prog U Q y (q.put op.dst d) f):wpList prog U Q (op::y) q (W.alloc (dr #[Y s] 9)):=by
 let ⟨i0,hi,hz0,hz1,hz2⟩:=sZ adP
 let z:=h.E.size
 refine fQ _ a0 i l 48 m w.heap.size 9 i0 (Y iJ) 1 16 underlying48 hi hz0 hz1 hz2 D (by decide) a (ln A) (strs A) o (h.K.alloc _) ⟨zq W.heap,0,F⟩ 1 1 [Y s] p D (λj u r=>?_) (λu n=>?_) (by unfold maxLen;omega) (by omega) (by grind[World.size_alloc]) λd f a2 E a1=>K d f ?_;rw[fC,aF (aY W (dr #[Y s] 9))];grind;rw[cC.1 n];rfl
 .let k1:Z [] W (W.alloc (dr #[Y s] 9)):=(Z.refl _ _).alloc _
  let h1:=h.lay k1
  let sz:zq (W.alloc (dr #[Y s] 9)).heap=zq W.heap+1:=zB ..
  let nx:∀k,d.ownBlock=H k->a.ownBlock=H k\/zq W.heap<=k:=λk P=>by grind
  refine⟨?_,h1.g.kept E ?_,h1.P.kept E ?_,λk P T=>?_,h.Q,λk P T=>?_,h1.E.grown E λk P=> .inr (h.K.lt k P).1⟩
  let e:strs (A++[s])=strs A++[Y s]:=by simp[strs]
  grind
  .cases T:b.ownBlock<;>grind[O3.U]
  .cases T:c.ownBlock<;>grind[O3.L]
  rcases nx k P with g|g;grind[O3.U];have:=(h.g.lt k T).2;omega;rcases nx k T with g|g;grind[O3.L];have:=(h.P.lt k P).2;omega
theorem SR.cell(h:SR w W (lO g n cap) A){j:Nat}(q:A[j]?=H s):W.cell? ⟨g,j,F⟩=H (Y s):=by have:=h.cells (g:=g) D j (Y s) (by simp[strs,q]);rw[fC]at this;exact this
theorem SR.j(h:SR w W v A)(z:A≠[]):∃g cap,v=lO g (ln A) cap/\(ln A)<=cap/\g<zq W.heap:=by
 rcases h.2 with⟨_,q⟩|⟨g,cap,j,rfl,_,y,u,_⟩
 all_goals grind
def L0(u:O):Nat->Nat->Nat->List O
 |0,_,_=>[]
 |n+1,f,i=>if i=u.size\/bt u i=32 then u.extract f i::L0 u n (i+1) (i+1)else L0 u n f (i+1)
theorem Tx(s u:O):∀(n f i:Nat),X7 s u n f i=(L0 u n f i).any λx=>decide (s.toList≠[]/\x.toList=s.toList)
 |0,_,_=>rfl
 |n+1,f,i=>by unfold X7 L0;split;rw[List.any_cons,<-Tx s u n];grind;exact Tx s u n f _
theorem VG{u:O}{l:List O}(y:L0 u (u.size+1) 0 0=l)(E:(l.all λx=>!x.toList.isEmpty)=C)(s:O):X7 s u (u.size+1) 0 0=cZ l s:=by
 rw[Tx,y];unfold cZ;rw[Bool.eq_iff_iff,fT,fT];refine⟨λ⟨x,j,q⟩=>⟨x,j,?_⟩,λ⟨x,j,q⟩=>⟨x,j,?_⟩⟩;unfold fG;grind
 let z:=by unfold fG at q;simpa using q
 grind
def akW:O:=⟨#[116,97,98,108,101,32,116,98,111,100,121,32,116,104,101,97,100,32,116,102,111,111,116,32,116,114,32,99,111,108,103,114,111,117,112]⟩
def WE:O:=⟨#[112,32,104,49,32,104,50,32,100,108,32,100,100,32,100,116,32,112,114,101,32,102,111,114,109,32,98,117,116,116,111,110,32,105,110,112,117,116,32,111,98,106,101,99,116,32,115,101,108,101,99,116,32,111,112,116,105,111,110,32,111,112,116,103,114,111,117,112,32,116,101,120,116,97,114,101,97,32,97,32,98,32,105,32,110,111,98,114]⟩
def Vr:O:=⟨#[116,98,111,100,121,32,116,104,101,97,100,32,116,102,111,111,116,32,116,114,32,116,100,32,116,104,32,99,97,112,116,105,111,110,32,99,111,108,103,114,111,117,112,32,99,111,108]⟩
def ajB(s:O):X7 s akW (akW.size+1) 0 0=cZ yt s:=VG (rfl) (by decide+kernel) s
def agi(s:O):X7 s WE (WE.size+1) 0 0=cZ Cd s:=VG (by decide+kernel) (by decide+kernel) s
def agh(s:O):X7 s Vr (Vr.size+1) 0 0=cZ Lp s:=VG (rfl) (by decide+kernel) s
def Hx(j:List O):O:=j.getLast?.getD ⟨#[]⟩
def Br:List It->List O->Bool
 |[],_=>C
 |a::L,st=>lr a.s&&lr a.t&&(if a.k=6 then Br L st.dropLast else if a.k=4 then XI (Hx st) a.s&&Br L (st++[a.s])else if a.k=3 then (!cZ yt (Hx st)||MI a.s)&&Br L st else Br L st)
def Rm:List It->Nat->Prop
 |[],_=>True
 |a::L,n=>if a.k=6 then 2<=n/\Rm L (n-1)else if a.k=4 then Rm L (n+1)else Rm L n
def Me(a:List O)(p:O):Hx (a++[p])=p:=by simp[Hx]
def aeP(h:Rm L n):∀bY:iB,Rm (bY.map (λa=>⟨5,a.1,a.2⟩)++L) n
 |[]=>h
 |a::bY=>aeP h bY
theorem afr{j:List O}:∀bY:iB,Br (bY.map (λa=>⟨5,a.1,a.2⟩)++L) j=C->(bY.all λa=>lr a.1&&lr a.2)=C/\Br L j=C
 |[],h=>⟨D,h⟩
 |a::bY,h=>by
  let h:(lr a.1&&lr a.2&&Br _ j)=C:=h
  rw[fq]at h
  let ⟨h1,h2⟩:=afr bY h.2
  grind
mutual
def anq(b:List O)(p:O):∀(t:Tn)(L:List It),(Rm L (ln b+1)->Rm (gF (Bx (λ_=>I) t)++L) (ln b+1))/\(Br (gF (Bx (λ_=>I) t)++L) (b++[p])=C->U3 p t=C/\Br L (b++[p])=C)
 | .el nm bY ks,L=>by
  have e:gF (Bx (λ_=>I) (.el nm bY ks))++L=⟨4,nm,⟨#[]⟩⟩::(bY.map (λa=>⟨5,a.1,a.2⟩)++(gF (rN (λ_=>I) ks)++(⟨6,nm,⟨#[]⟩⟩::L))):=by simp[Bx,gF,rB]
  obtain⟨q,T⟩:=akc (b++[p]) nm ks (⟨6,nm,⟨#[]⟩⟩::L);rw[e];have Q:ln (b++[p])+1=ln b+1+1:=by simp
  rw[Q]at q;refine⟨λh=>aeP (n:=ln b+1+1) (q ⟨by omega,h⟩) bY,λh=>?_⟩;have h:(lr nm&&lr ⟨#[]⟩&&(XI (Hx (b++[p])) nm&&Br (bY.map (λa=>⟨5,a.1,a.2⟩)++(gF (rN (λ_=>I) ks)++(⟨6,nm,⟨#[]⟩⟩::L))) ((b++[p])++[nm])))=C:=h;rw[fq,fq,fq,Me]at h;obtain⟨⟨u,_⟩,y,z⟩:=h;obtain⟨E,K⟩:=afr bY z;obtain⟨P,j⟩:=T K;have j:(lr nm&&lr ⟨#[]⟩&&Br L ((b++[p])++[nm]).dropLast)=C:=j;rw[fq,Pe]at j;refine⟨?_,j.2⟩;show(lr nm&&XI p nm&&_&&Fl nm ks)=C;rw[u,y,E,P];rfl
 | .tx s,L=>⟨λh=>h,λh=>by have h:(lr s&&lr ⟨#[]⟩&&((!cZ yt (Hx (b++[p]))||MI s)&&Br L (b++[p])))=C:=h;rw[fq,fq,fq,Me]at h;exact⟨by show(lr s&&_)=C;rw[h.1.1,h.2.1];rfl,h.2.2⟩⟩
 | .cm s,L=>⟨λh=>h,λh=>by have h:(lr s&&lr ⟨#[]⟩&&Br L (b++[p]))=C:=h;rw[fq,fq]at h;exact⟨h.1.1,h.2⟩⟩
 | .dt s,L=>⟨λh=>h,λh=>by have h:(lr s&&lr ⟨#[]⟩&&Br L (b++[p]))=C:=h;rw[fq,fq]at h;exact⟨h.1.1,h.2⟩⟩
def akc(a:List O)(p:O):∀(ts:List Tn)(L:List It),(Rm L (ln a+1)->Rm (gF (rN (λ_=>I) ts)++L) (ln a+1))/\(Br (gF (rN (λ_=>I) ts)++L) (a++[p])=C->Fl p ts=C/\Br L (a++[p])=C)
 |[],L=>⟨λh=>h,λh=>⟨D,h⟩⟩
 |t::ts,L=>by
  have e:gF (rN (λ_=>I) (t::ts))++L=gF (Bx (λ_=>I) t)++(gF (rN (λ_=>I) ts)++L):=by simp[rN,gF]
  rw[e];obtain⟨j,q⟩:=anq a p t (gF (rN (λ_=>I) ts)++L);obtain⟨u,y⟩:=akc a p ts L;refine⟨λh=>j (u h),λh=>?_⟩;obtain⟨z,E⟩:=q h;obtain⟨K,P⟩:=y E;exact⟨by show(U3 p t&&Fl p ts)=C;rw[z,K];rfl,P⟩
end
def kf:O:=⟨#[35]⟩
def aet(w:J):O3 w (w.alloc (dr #[Y kf] 9)) (lO w.heap.size 1 1) (gq) (gq) [kf] [] []:=by exact⟨⟨D,.inr ⟨zq w.heap,1,#[Y kf],D,dF _,aY w _,dF _,by unfold maxLen;omega,rfl,rfl⟩⟩,mY _ _ _ _,mY _ _ _ _,λ_ _=>nofun,λ_=>nofun,λ_=>nofun,((Z.refl _ _).alloc _)⟩
theorem akX(p s:O):XI p s=(!cZ Cd s&&!(cZ yt p&&!cZ Lp s)&&!((s.toList==[108,105])&&!(p.toList==[117,108]))):=by
 let e1:fG s (eN)=(s.toList==[108,105]):=by unfold fG;rw[show(eN).toList=[108,105] by grind[eC]]
 let e2:fG p (iK)=(p.toList==[117,108]):=by unfold fG;rw[show(iK).toList=[117,108] by grind[eC]]
 grind[XI]
theorem al0(g cJ:Nat)(L:List It)(w:J)(hI:yE w g 0 (ln L) (xz L))(hg:g<zq w.heap)(hn:ln L<=1000000000)(hz:∀a∈L,a.s.size<=1048576/\a.t.size<=1048576/\1<=a.k/\a.k<=6)(hp:Rm L 1):dS 7 #[lO g (ln L) cJ] w (vc w (.bool (Br L [kf]))):=by
 have N:=V hI;have HP:=V hp;have X:=V hz
 let HS:=V (aet w)
 let ⟨r,l⟩:∃r,r=Br L [kf]:=⟨_,D⟩
 rw[<-l];have f:=V l;clear hI hp hz l;go_enter func7,ntmps7;go_wp2
 go_loopw [3,4] (λaI i wr=>∃(K:List O)(k:Nat),i=G k/\k<=ln L/\(ln K<=k+1/\K≠[])/\Hid (Rm (L.drop k) (ln K))/\Hid (r=Br (L.drop k) K)/\Hid (O3 w wr aI (gq) (gq) K [] [])) (λ_ i _=> ln L-(intOf i).toNat)
 case atStart=>
  exact⟨[kf],0,D,eZ _,by simp,V (by rw[ml];exact HP.out),V (by rw[ml];exact f.out),HS⟩
 case round=>
  obtain⟨K,k,rfl,hk,Q,o,l,b⟩:=hrel;clear HP HS f;by_cases h1:k<ln L
  .have m:Hid (∀W,Z [] w W->W.cell? ⟨g,k*3,F⟩=H (G (xz L k).k)/\W.cell? ⟨g,k*3+1,F⟩=H (Y (xz L k).s)/\W.cell? ⟨g,k*3+2,F⟩=H (Y (xz L k).t)):=V λW hW=>by
    let R:=N.out.kept hW hg
    let c0:=R.B k h1
    let c1:=R.c1 k h1
    let c2:=R.c2 k h1
    simp only[nl]at c0 c1 c2;exact⟨c0,c1,c2⟩
   obtain⟨z1,z2,z3,z4⟩:=X.out _ (adV h1);have s:=V o.out;have f:=V l.out;rw[drop_at h1]at s f;clear o l N X;generalize xz L k=a at *;obtain⟨j,P,ta⟩:=a;obtain⟨aI,p,rfl⟩:∃aI p,K=aI++[p]:=⟨K.dropLast,K.getLast Q.2,(List.dropLast_concat_getLast Q.2).symm⟩;obtain⟨c0,c1,c2⟩:=m.out wr b.out.E;dsimp only at c0 c1 c2 Q b m z1 z2 z3 z4 s f|-;obtain⟨go,a6,rfl,a7,a8⟩:=b.out.K.j (by simp);have ct:=b.out.K.cell (j:=ln aI) (s:=p) (by simp);have C1:=V (Tt P wr z1);have C2:=V (Tt ta wr z2);have v:=V (JM p akW wr (by decide));have Q:=Q.1;simp only[qm,uJ,uY]at a7 Q;go_wp21;refine C1.out.mono ?_;rintro e S⟨rfl,y⟩;rw[y];clear y S C1;go_wp21;refine C2.out.mono ?_;rintro e S⟨rfl,y⟩;rw[y];clear y S C2;cases hc1:lr P with
   |false=>
    have u:r=I:=by rw[f.out];simp[Br,hc1]
    subst u;have c:=V b.out.E;clear f b s m v;go_wp2;go_ret;exact⟨D,c.out⟩
   |true=>
   cases hc2:lr ta with
   |false=>
    have u:r=I:=by rw[f.out];simp[Br,hc2]
    subst u;have c:=V b.out.E;clear f b s m v;go_wp2;go_ret;exact⟨D,c.out⟩
   |true=>
   have a0:Hid (r=(if j=6 then Br (L.drop (k+1)) aI else if j=4 then XI p P&&Br (L.drop (k+1)) (aI++[p]++[P])else if j=3 then (!cZ yt p||MI P)&&Br (L.drop (k+1)) (aI++[p])else Br (L.drop (k+1)) (aI++[p]))):=V (by rw[f.out];show(lr P&&lr ta&&_)=_;rw[hc1,hc2,Me,Pe];rfl)
   have U:Hid (if j=6 then 2<=ln aI+1/\Rm (L.drop (k+1)) (ln aI) else if j=4 then Rm (L.drop (k+1)) (ln aI+2)else Rm (L.drop (k+1)) (ln aI+1)):=V (by have:=s.out;rw[show ln (aI++[p])=ln aI+1 by simp]at this;exact this)
   have a1:Hid (∀(K:List O)(a:dB)(z:Int)(W:J),z=k+1->ln K<=k+1+1/\K≠[]->Rm (L.drop (k+1)) (ln K)->r=Br (L.drop (k+1)) K->O3 w W a (gq) (gq) K [] []->(∃(K:List O)(T:Nat),dv .i64 z=G T/\T<=ln L/\(ln K<=T+1/\K≠[])/\Hid (Rm (L.drop T) (ln K))/\Hid (r=Br (L.drop T) K)/\Hid (O3 w W a (gq) (gq) K [] []))/\(ln L)-(intOf (G z)).toNat<ln L-(intOf (G k)).toNat):=by refine V ?_;rintro K a _ W rfl h2 h3 h4 h5;exact⟨⟨K,k+1,D,h1,h2,V h3,V h4,V h5⟩,by simp[intOf];omega⟩
   have d:Hid (O3 w wr (lO go (ln aI+1) a6) (gq) (gq) (aI++[p]) [] []):=V (by have:=b.out;rw[show ln (aI++[p])=ln aI+1 by simp]at this;exact this)
   have HN:=V hn;clear b f s hc1 hc2;go_wp21;refine v.out.mono ?_;rintro e S⟨rfl,y⟩;rw[y];clear y S v;rw[ajB];have aa:j=1\/j=2\/j=5\/j=6\/j=4\/j=3:=by omega
   clear z3 z4;rcases aa with rfl|rfl|rfl|rfl|rfl|rfl
   iterate 3
    focus
     have q:=V a0.out;rw[di (by decide),di (by decide),di (by decide)]at q;have E:=V U.out;rw[di (by decide),di (by decide)]at E;clear a0 U;go_wp21;exact a1.out (aI++[p]) _ _ _ D (by simp;omega) (by rw[show ln (aI++[p])=ln aI+1 by simp];exact E.out) q.out d.out
   .have q:=V a0.out;rw[dw D]at q;have E:=V U.out;rw[dw D]at E;have ho:=E.out.1;clear a0 U;go_wp21;exact a1.out aI _ _ _ D ⟨by omega,λe=>by rw[e]at ho;simp at ho⟩ E.out.2 q.out d.out.pop
   .have CW:=V (JM P WE wr (by decide));have CP:=V (JM P Vr wr (by decide));have q:=V a0.out;rw[di (by decide),dw D,show XI p P=(!cZ Cd P&&!(cZ yt p&&!cZ Lp P)&&!((P.toList==[108,105])&&!(p.toList==[117,108])))from akX p P]at q;have E:=V U.out;rw[di (by decide),dw D]at E;have c:=V d.out.E;clear a0 U;go_wp21;refine CW.out.mono ?_;rintro e S⟨rfl,y⟩;rw[y];clear y S CW;rw[agi];go_wp21;refine CP.out.mono ?_;rintro e S⟨rfl,y⟩;rw[y];clear y S CP;rw[agh];have n:Hid (r=Br (L.drop (k+1)) (aI++[p]++[P])->∀(M:dB)(x:J),O3 w x M (gq) (gq) (aI++[p]++[P]) [] []->(∃(K:List O)(T:Nat),dv .i64 ((k:Int)+1)=G T/\T<=ln L/\(ln K<=T+1/\K≠[])/\Hid (Rm (L.drop T) (ln K))/\Hid (r=Br (L.drop T) K)/\Hid (O3 w x M (gq) (gq) K [] []))/\(ln L)-(intOf (G ((k:Int)+1))).toNat<ln L-(intOf (G k)).toNat):=V λl M x h3=>a1.out (aI++[p]++[P]) M _ x D (by simp;omega) (by rw[show ln (aI++[p]++[P])=ln aI+2 by simp];exact E.out) l h3;clear a1 E;generalize cZ yt p=t at *;generalize cZ Cd P=wl at *;generalize cZ Lp P=pt at *;cases wl with
    |true=>
     have u:r=I:=by rw[q.out];simp
     subst u;clear q n d m;go_wp2;go_ret;exact⟨D,c.out⟩
    |false=>
    by_cases a2:t=C/\pt=I
    .obtain⟨rfl,rfl⟩:=a2;have u:r=I:=by rw[q.out];simp
     subst u;clear q n d m;go_wp2;go_ret;exact⟨D,c.out⟩
    have a2:t=I\/t=C/\pt=C:=by cases t<;>cases pt<;>simp_all
    by_cases A:(P.toList==[108,105])=C/\(p.toList==[117,108])=I
    .obtain⟨l1,l2⟩:=A;have u:r=I:=by rw[q.out,l1,l2];simp
     subst u;clear q n d m;rcases a2 with rfl|⟨rfl,rfl⟩
     all_goals
      go_wp2;go_ret;exact⟨D,c.out⟩
    have A:(P.toList==[108,105])=I\/(P.toList==[108,105])=C/\(p.toList==[117,108])=C:=by cases h1:(P.toList==[108,105])<;>cases h2:(p.toList==[117,108])<;>simp_all
    have u:r=Br (L.drop (k+1)) (aI++[p]++[P]):=by rw[q.out];rcases a2 with rfl|⟨rfl,rfl⟩<;>rcases A with h|⟨h,h'⟩<;>simp[*]
    have n:=V (n.out u);clear q u;rcases a2 with rfl|⟨rfl,rfl⟩
    all_goals
     rcases A with l1|⟨l1,l2⟩
     all_goals
      go_wp2_with (at_builtin;refine Ve D _ _ D d.out D D (by simp;omega) ?_);intro v2 W2 a3;have HG:=V (n.out v2 W2 (by simpa using a3));obtain⟨ab,ac,rfl⟩:=df a3.K;have e2:=(m.out _ a3.E).1;clear a3 d c0 c1 c2 ct n;go_wp21;exact HG.out
   .have CB:=V (aaj P wr z1);have q:=V a0.out;rw[di (by decide),di (by decide),dw D]at q;have E:=V U.out;rw[di (by decide),di (by decide)]at E;have c:=V d.out.E;clear a0 U;go_wp21;refine CB.out.mono ?_;rintro e S⟨rfl,y⟩;rw[y];clear y S CB;generalize cZ yt p=t at *;generalize MI P=bl at *;by_cases B:t=C/\bl=I
    .obtain⟨rfl,rfl⟩:=B;have u:r=I:=by rw[q.out];simp
     subst u;clear q a1 d m;go_wp2;go_ret;exact⟨D,c.out⟩
    .have B:t=I\/t=C/\bl=C:=by cases t<;>cases bl<;>simp_all
     have u:r=Br (L.drop (k+1)) (aI++[p]):=by rw[q.out];rcases B with rfl|⟨rfl,rfl⟩<;>simp
     have FN:=V (a1.out (aI++[p]) _ _ wr D (by simp;omega) (by rw[show ln (aI++[p])=ln aI+1 by simp];exact E.out) u d.out);clear q u a1 E;rcases B with rfl|⟨rfl,rfl⟩
     all_goals
      go_wp21;exact FN.out
  .have a9:k=ln L:=by omega
   have u:r=C:=by rw[l.out,a9,List.drop_length];rfl
   subst u;have c:=V b.out.E;obtain⟨go,a6,rfl,a7,a8⟩:=b.out.K.j Q.2;clear b o l N X;go_wp2;go_ret;exact⟨D,c.out⟩
structure RS(n bx:Nat)(X:Told)(d8:J->Prop):Prop where
 k0:∀{W W':J},d8 W->Z [] W W'->d8 W'
 set:∀{W:J} {R:Nat} {c:io},n<=R->d8 W->W.heap[R]?=H (dr c 26)->∀(j:Nat)(u:dB),d8 (W.setCell ⟨R,j,F⟩ u)
 stop:∀W,d8 W->dS 12 #[dq bx] W λe W'=>(∃z:Int,e=ff (.tuple #[G X.p,G X.c,G z]))/\Z [] W W'
 list:∀W,d8 W->dS 13 #[dq bx] W λe W'=>∃v,e=ff v/\W'.ownsRow W.heap.size 51 3 v (ln X.A) (ou X.A)/\Z [] W W'
 text:∀W,d8 W->dS 14 #[dq bx] W λe W'=>e=ff (Y X.IA)/\Z [] W W'
 A:∀W,d8 W->dS 15 #[dq bx] W λe W'=>∃v,e=ff v/\W'.ownsRow W.heap.size 75 3 v (ln X.B) (kO X.B)/\Z [] W W'
def ClJ(s:O)(d f l:Nat)(w:J)(X:Told):Prop:=∀(bx:Nat)(q:dB)(base:Nat)(W:J),Z [] w W->zq w.heap<bx->W.heap[bx]?=H (dr (sX ((d:Int),(f:Int),(l:Int)) q) 72)->W.ownsRow base 5 1 q s.size (ji s)->
 dS 11 #[dq bx] W λe j=>(∃y:Int,e=ff (.tuple #[G X.c,G y]))/\(∃u,RS w.heap.size bx X u/\u j)/\Z [bx] W j
structure EC(w:J)(R1 R2:Nat)(d8:J->Prop)(c2:io)(W:J):Prop where
 j:d8 W
 B:W.heap[R1]?=H (dr Vm 26)
 A:W.heap[R2]?=H (dr c2 26)
 ne:R1≠R2
 ge:zq w.heap<=R2
 E:Z [] w W
def EC.k0{q u:Nat}{E:J->Prop}{c2:io}{y:J}(h:EC w q u E c2 W)(z:RS w.heap.size bx X E)(j:Z [] W y):EC w q u E c2 y:=
 ⟨z.k0 h.j j,j.at h.B (by simp),j.at h.A (by simp),h.ne,h.ge,h.E.trans j⟩
theorem EC.set{w:J}{a y q:Nat}{X:Told}{E:J->Prop}{c2:io}{W:J}(h:EC w y q E c2 W)(z:RS w.heap.size a X E)(j:Nat)(u:dB):EC w y q E (c2.setIfInBounds j u) (W.setCell ⟨q,j,F⟩ u):=
 ⟨z.set h.ge h.j h.A j u,((Z.refl [q] W).setCell (.inl (by simp)) _).at h.B (by grind[ne]),bH h.A j u,h.ne,h.ge,h.E.setCell (.inr h.ge) _⟩
def YK(s:O)(d f l:Nat)(w:J)(aI:s.size<=1024)(hd:4<=d/\d<=64)(hf:1<=f/\f<=32)(hl:1<=l/\l<=16)(hc:ClJ s d f l w X):dS 6 #[Y s,G d,G f,G l,gq] w (Pl w X):=by
 obtain⟨c,p,a0,ab,b7⟩:=X;obtain⟨w0,v⟩:∃w0,w0=w.alloc (.cells Vm 26):=⟨_,D⟩;have k0:Z [] w w0:=by rw[v];exact(Z.refl _ _).alloc _
 have z0:zq w0.heap=zq w.heap+1:=by rw[v];simp
 have r0:w0.heap[zq w.heap]?=H (dr Vm 26):=by rw[v];exact aY w _
 have CN:=V (ahx (d:Int) (f:Int) (l:Int) w0 ⟨by omega,by omega,by omega,by omega,by omega,by omega⟩);have HW:=V (show w.alloc (.cells Vm 26)=w0 from v.symm);unfold Vm at HW;have HC:=V hc;have aU:=V k0;have g:=V z0;have HR:=V r0;clear v k0 z0 r0 hc;go_enter func6,ntmps6;go_wp2_with fail;rw[HW.out];refine CN.out.mono ?_;rintro e w1⟨rfl,al,ax⟩;have I:=λ(t:O) (ht:t.size<=1024)=>abg w0.heap.size ((d:Int),(f:Int),(l:Int)) (gq) ⟨#[]⟩ t w1.heap.size w1 al (mY _ _ _ _) (by show 0+t.size<=1024;omega) (dF _);simp only[MQ]at I;have aT:=V (I s aI);have aS:=V I;have aW:=V ax;have b8:=V (fp al);clear I al ax CN;go_wp2_with fail;refine wK 2 ?_;rw[nP];by_cases h0:s.size=0;have e1:nw=s:=by apply rW;exact(RD h0).symm
 have hz:((nw).size:Int)=0:=rfl;have C0:=V (aS.out nw (by decide));have E1:=V e1;clear e1;go_wp2_with fail;refine C0.out.mono ?_;rintro e u⟨rfl,P⟩;rw[E1.out]at P;have ah:=V P;clear P C0;go_wp2_with fail;clear h0 hz
 rotate_left
 go_wp2_with fail;refine aT.out.mono ?_;rintro e u⟨rfl,P⟩;have ah:=V P;clear P;go_wp2_with fail;rw[nP];go_wp2_with fail
 all_goals
  have P:=ah.out;clear ah;obtain⟨tv,an,aP,ay,_⟩:=P;have ak:Z [] w0 u:=aW.out.next (S':=zq w0.heap::(gq).ownBlock.toList) ay (by simp[dl]);have k3:Z [] u (u.alloc (.cells #[G 0,G 0,gq,Y iJ,gq] 26)):=(Z.refl _ _).alloc _;have ao:=(aU.out.trans ak).trans k3;have aR:=V (aY u (.cells #[G 0,G 0,gq,Y iJ,gq] 26));have CC:=V (HC.out w0.heap.size tv w1.heap.size _ ao (by have:=g.out;omega) (k3.at an (by simp)) (k3.ownsRow aP (λ_ _=>by simp)));have ap:=V ao;have aX:=V (k3.at (ak.at HR.out (by simp)) (by simp));have ag:zq w0.heap<zq u.heap:=fp an;have ai:=V ag;clear an aP ay ak k3 ao ag;go_wp2_with fail;refine CC.out.mono ?_;rintro e w3⟨⟨y,rfl⟩,⟨ba,R,hj⟩,M⟩;have a:=V R;have L:EC w w.heap.size u.heap.size ba #[G 0,G 0,gq,Y iJ,gq] w3:=
   ⟨hj,M.at aX.out (by have:=g.out;simp;omega),M.at aR.out (by have:=ai.out;simp;omega),by have:=g.out;have:=ai.out;omega,by have:=g.out;have:=ai.out;omega,ap.out.next M (by have:=g.out;simp;omega)⟩
  have d0:w3.cell? ⟨zq u.heap,0,F⟩=H (G 0):=by rw[aF L.A];rfl
  have f0:=cY L.A 0;have S:=L.set R 0 (G c);have CS:=V (R.stop _ S.j);have b0:=V S;clear hj R M L S CC;go_wp2_with fail;refine CS.out.mono ?_;rintro e w6⟨⟨z,rfl⟩,az⟩;have i:=b0.out.k0 a.out az;have g0:w6.cell? ⟨zq u.heap,0,F⟩=H (G c):=by rw[aF i.A];rfl
  have g1:w6.cell? ⟨zq u.heap,1,F⟩=H (G 0):=by rw[aF i.A];rfl
  have y1:=cY i.A 1;have W:=i.set a.out 1 (G p);have CL:=V (a.out.list _ W.j);have aw:=V W;clear az i W CS;go_wp2_with fail;refine CL.out.mono ?_;rintro e w8⟨v8,rfl,N,aA⟩;obtain⟨x,B,b5⟩:=df N;subst b5;have k:=aw.out.k0 a.out aA;have g2:w8.cell? ⟨zq u.heap,2,F⟩=H (gq):=by rw[aF k.A];rfl
  have y2:=cY k.A 2;have o:=k.set a.out 2 (.slice x (ln a0) B);have aB:(w8.setCell ⟨zq u.heap,2,F⟩ (.slice x (ln a0) B)).ownsRow w.heap.size 51 3 (.slice x (ln a0) B) (ln a0) (ou a0):=((Z.refl [zq u.heap] w8).setCell (.inl (by simp)) _).ownsRow (gM N aw.out.E.size) (y9 N k.A (by decide));have CX:=V (a.out.text _ o.j);have b1:=V o;have au:=V aB;clear N aA k o aB CL;go_wp2_with fail;refine CX.out.mono ?_;rintro e aQ⟨rfl,T⟩;have a2:=b1.out.k0 a.out T;have g3:aQ.cell? ⟨zq u.heap,3,F⟩=H (Y iJ):=by rw[aF a2.A];rfl
  have y3:=cY a2.A 3;have aj:=a2.set a.out 3 (Y ab);have ae:=((Z.refl [zq u.heap] aQ).setCell (p:=⟨zq u.heap,3,F⟩) (.inl (by simp)) (Y ab)).ownsRow (T.ownsRow au.out (λ_ _=>by simp)) (y9 (T.ownsRow au.out (λ_ _=>by simp)) a2.A (by decide));have CT:=V (a.out.A _ aj.j);have ad:=V aj;have aq:=V ae;clear T a2 aj ae CX;go_wp2_with fail;refine CT.out.mono ?_;rintro e j⟨b9,rfl,a4,a3⟩;obtain⟨b2,b3,aE⟩:=df a4;subst aE;have U:=ad.out.k0 a.out a3;have af:=a3.ownsRow aq.out (λ_ _=>by simp);have av:=V (gM a4 ad.out.E.size);generalize hlen:ln a0=aL at *;generalize hlen2:ln b7=aM at *;have ac:=V hlen;have a1:=V hlen2;have Q:=U.A;have E:=U.B;have m0:j.cell? ⟨zq u.heap,0,F⟩=H (G c):=by rw[aF Q];rfl
  have m1:j.cell? ⟨zq u.heap,1,F⟩=H (G p):=by rw[aF Q];rfl
  have m2:j.cell? ⟨zq u.heap,2,F⟩=H (.slice x aL B):=by rw[aF Q];rfl
  have m3:j.cell? ⟨zq u.heap,3,F⟩=H (Y ab):=by rw[aF Q];rfl
  have m4:j.cell? ⟨zq u.heap,4,F⟩=H (gq):=by rw[aF Q];rfl
  have y4:=cY Q 4;have u0:j.cell? ⟨zq w.heap,0,F⟩=H (G 0):=by rw[aF E];rfl
  have u1:j.cell? ⟨zq w.heap,1,F⟩=H (G 0):=by rw[aF E];rfl
  have u2:j.cell? ⟨zq w.heap,2,F⟩=H (gq):=by rw[aF E];rfl
  have u3:j.cell? ⟨zq w.heap,3,F⟩=H (Y iJ):=by rw[aF E];rfl
  have u4:j.cell? ⟨zq w.heap,4,F⟩=H (gq):=by rw[aF E];rfl
  have j0:=cY E 0;have j1:=cY E 1;have j2:=cY E 2;have j3:=cY E 3;have j4:=cY E 4;have b6:zq w.heap≠zq u.heap:=U.ne;have aK:zq u.heap≠zq w.heap:=λh=>U.ne h.symm;have K:=V U;have ar:=V af;clear U af Q E a3 CT a4 hlen hlen2;go_wp2;refine mL (v:=.tuple #[.agg #[G c,G p,.slice x aL B,Y ab,.slice b2 aM b3],.bool C]) ?_ D ⟨_,_,_,_,_,_,D,?_,?_,?_⟩
  .simp[results,results6,asAddr,da,go_sem,u0,u1,u2,u3,u4,b6,aK]
  have b:=ar.out;rw[<-ac.out]at b;rw[<-ac.out];have h5:=y9 b K.out.A (by decide);have h6:=y9 b K.out.B (by decide);refine Z.ownsRow (S:=[zq u.heap,zq w.heap]) (((((((Z.refl _ j).setCell (.inl (by simp)) _).setCell (.inl (by simp)) _).setCell (.inl (by simp)) _).setCell (.inl (by simp)) _).setCell (.inl (by simp)) _).setCell (.inl (by simp)) _) b (λq A=>?_);have n:=h5 q A;have r:=h6 q A;simp at n r|-;exact⟨n,r⟩;have b:=av.out;rw[<-a1.out]at b;rw[<-a1.out];have h5:=y9 b K.out.A (by decide);have h6:=y9 b K.out.B (by decide);refine Z.ownsRow (S:=[zq u.heap,zq w.heap]) (((((((Z.refl _ j).setCell (.inl (by simp)) _).setCell (.inl (by simp)) _).setCell (.inl (by simp)) _).setCell (.inl (by simp)) _).setCell (.inl (by simp)) _).setCell (.inl (by simp)) _) b (λq A=>?_);have n:=h5 q A;have r:=h6 q A;simp at n r|-;exact⟨n,r⟩;have m:=K.out.E;have b4:=K.out.ge;exact(((((m.setCell (.inr b4) _).setCell (.inr (dF _)) _).setCell (.inr (dF _)) _).setCell (.inr (dF _)) _).setCell (.inr (dF _)) _).setCell (.inr (dF _)) _
theorem QY{R:Nat}{a:io}{t:TypeId}(h:W.heap[b]?=H (dr c t))(j:W.heap[R]?=H (dr a 26))(u:t≠26):b∉[R]:=λq=>by grind
def F5(d f l:Nat)(s:O)(X:Told):Prop:=(∃c p,acl s d f l c p/\X=⟨c,p,[],⟨#[]⟩,[]⟩)\/∃nm bY T L,acj s d f l (.el nm bY T) L/\S3 T/\X=⟨0,s.size,CZ T,IC T,L⟩
abbrev TX:O->Told->Prop:=F5 64 32 16
theorem F5.one{d f l:Nat}{s:O}(o:s.size<=1024)(hd:4<=d/\d<=64)(hf:1<=f/\f<=32)(hl:1<=l/\l<=16){X:Told}(h:F5 d f l s X):∀w,W4 w->dS 6 #[Y s,G d,G f,G l,gq] w (Pl w X):=by
 intro w E;rcases h with⟨c,p,n,rfl⟩|⟨nm,bY,T,L,n,hD,rfl⟩
 .exact YK s d f l w o hd hf hl λbx tv base W y hb N J=>by
   refine((show Calls prog 11 #[dq bx] W λe P=>∃k,e=ff (.tuple #[G c,G p])/\DJ W bx d f l c p k P by
     have Co:=V2 bx d f l tv s base W N J (E.g.d (bm:=0) (.h y)) (E.A.kept y) n;have A:=(E.B.kept y (by simp));go_enter func11,ntmps11;go_wp21;refine Co.mono ?_;rintro e w1⟨k,rfl,U⟩;have CT:=O7 k (p:Int) (c:Int) w1 U.2.1 (A.kept U.2.2 (by grind));go_wp21;refine CT.mono ?_;rintro e w2⟨rfl,y⟩;have m:Hid (DJ W bx d f l c p k w2):=by have⟨h1,h2,h3⟩:=U;exact V ⟨y.at h1 (by simp),y.at h2 (by simp),h3.trans (y.mono (by simp))⟩
     go_wp2;go_ret2;exact⟨k,D,m⟩)).mono ?_
   rintro e S⟨k,rfl,Q,K,z⟩;refine⟨⟨_,D⟩,⟨λW=>W.heap[bx]?=H (dr (Gn d f l p k) 72)/\iO W k c p/\Z [] w W,⟨λ⟨a,b,e⟩ g=>⟨g.at a (by simp),g.at b (by simp),e.trans g⟩,λ{W R _} C ⟨a,b,e⟩ i j u=>?_,λW ⟨a,b,e⟩=>(Xo bx d f l c p k W a b (E.B.kept e (by simp))).mono λ_ _ h=>⟨⟨_,h.1⟩,h.2⟩,λW ⟨a,_⟩=>(aa5 bx d f l p k W a).mono λ_ _ h=>⟨_,h.1,mY _ _ _ _,h.2⟩,λW ⟨a,_⟩=>(by
     go_enter func14,ntmps14;go_wp21;refine(Ek bx d f l p k W a).mono ?_;rintro e w1⟨rfl,rfl⟩;go_wp2;go_ret;exact⟨D,Z.refl _ _⟩),λW ⟨a,_⟩=>((show Calls prog 15 #[dq bx] W λe P=>e=ff (gq)/\Z [] W P by
     have c7:W.cell? ⟨bx,7,F⟩=H (gq):=by rw[aF a];rfl
     go_enter func15,ntmps15;go_wp21;refine(aar _).mono ?_;rintro e P⟨rfl,rfl⟩;go_wp2;go_ret;exact⟨D,Z.refl _ _⟩)).mono λ_ _ h=>⟨_,h.1,mY _ _ _ _,h.2⟩⟩,Q,K,y.next z (by simp;omega)⟩,z⟩
   have g:Z [R] W (W.setCell ⟨R,j,F⟩ u):=(Z.refl _ _).setCell (.inl (by simp)) _;exact⟨g.at a (QY a i (by decide)),g.at b (QY b i (by decide)),e.setCell (.inr C) _⟩
 .exact YK s d f l w o hd hf hl λbx tv base W y hb N J=>by
   refine((show Calls prog 11 #[dq bx] W λe P=>e=ff (.tuple #[G 0,G 0])/\Jb W bx d f l s (Tn.el nm bY T) L P by
     have Co:=V1 bx d f l tv s base W N J (E.g.d (bm:=0) (.h y)) (E.A.kept y) n;go_enter func11,ntmps11;go_wp21;refine Co.mono ?_;rintro e w1⟨rfl,U⟩;go_wp21;refine(Fp w1).mono ?_;rintro e w2⟨rfl,y⟩;have m:Hid (Jb W bx d f l s (Tn.el nm bY T) L w2):=by have⟨v,k,h1,h2,h3,h4,h5⟩:=U;exact V ⟨v,k,y.at h1 (by simp),ik.kept y h2,y.ownsRow h3 (λ_ _=>by simp),h4,h5.trans (y.mono (by simp))⟩
     go_wp2;go_ret2;exact⟨D,m⟩)).mono ?_
   rintro e S⟨rfl,v,k,Q,K,a3,a7,z⟩;refine⟨⟨0,D⟩,⟨λW=>W.heap[bx]?=H _/\ik W _ (.el k)/\W.ownsRow 0 75 3 v (ln L) _/\Z [] w W,⟨λ⟨a,b,c,e⟩ g=>⟨g.at a (by simp),ik.kept g b,g.ownsRow c (λ_ _=>by simp),e.trans g⟩,λ{W R _} C ⟨a,b,c,e⟩ i j u=>?_,λW ⟨a,_⟩=>((show Calls prog 12 #[dq bx] W λe P=>e=ff (.tuple #[G s.size,G 0,G 0])/\Z [] W P by
     go_enter func12,ntmps12;go_wp21;refine(XG bx d f l s.size k v W a).mono ?_;rintro e w1⟨rfl,B⟩;go_wp21;refine(Fp w1).mono ?_;rintro e w2⟨rfl,y⟩;go_wp2;go_ret3;exact⟨D,(B.trans y)⟩)).mono λ_ _ h=>⟨⟨0,h.1⟩,h.2⟩,λW ⟨a,b,_⟩=>ad9 W bx k _ _ _ _ (Z2.of a) b (CZ T) D hD.2,λW ⟨a,b,_,e⟩=>afq W bx k _ _ _ _ (Z2.of a) b (E.g.d (bm:=0) (.h e)).1 (E.A.kept e) hD.1,λW ⟨a,_,c,_⟩=>(by
     have c7:W.cell? ⟨bx,7,F⟩=H v:=by rw[aF a];rfl
     have Co:Calls prog 27 #[v] W λe P=>∃r,e=ff r/\P.ownsRow W.heap.size 75 3 r (ln L) (kO L)/\Z [] W P:=by
      have⟨i0,hi,hz0,hz1,hz2⟩:=sZ Of;rcases c.2 with⟨rfl,h0⟩|⟨g,cap,a4,rfl,a5,hg,_⟩
      .have n:=λW=>Mn (P:=prog) W 24 75 F 0 0 0 0 underlying24;have:L=[]:=NC h0;subst this;clear c;go_enter func27,ntmps27;go_wp2;go_ret;exact⟨_,D,mY _ _ _ _,Z.refl _ _⟩
      .have n:=λW=>Mn (P:=prog) W 24 75 (H ⟨g,0,F⟩) (ln L) cap 0 0 underlying24;have HO:=V c;have a0:=fp hg;have A:(W.alloc (.cells #[] 75)).ownsRow W.heap.size 75 3 (lO W.heap.size 0 0) 0 []:=
        ⟨rfl,.inr ⟨zq W.heap,0,#[],rfl,dF _,aY W _,dF _,eZ _,rfl,rfl⟩⟩
       clear c;go_enter func27,ntmps27;go_wp2_with (at_builtin;refine fQ _ D _ _ 24 D W.heap.size 75 i0 (.agg #[G 0,G 0,G 0]) 3 24 underlying24 hi hz0 hz1 hz2 D (by decide) _ _ _ D A ⟨g,0,F⟩ (ln L) cap (kO L) D ?c1 ?c2 ?c3 ?c4 ?c5 ?c6 ?_)
       case c1=>exact rn L
       case c2=>
        intro j u hj;have:=HO.cells (g:=g) D j u hj;rw[fC]at this|-;rw[<-this];exact py _ _ _ a0
       case c3=>
        intro u M;unfold kO at M;simp at M;obtain⟨p,_,h|h|h⟩:=M<;>(subst h;rfl)
       case c4=>omega
       case c5=>omega
       case c6=>simp
       intro r w3 a2 a1 a6;have m:w3.ownsRow W.heap.size 75 3 r (ln L) (kO L):=by simpa using a2
       have B:Hid (Z [] W w3):=((Z.refl [] W).alloc _).grown a1 (λx a=> .inr (A.lt x a).1);go_wp2;go_ret;exact⟨_,D,m,B⟩
     have⟨ao,cp,hv⟩:=df c;subst hv;have a0:=fp a;go_enter func15,ntmps15;go_wp21;refine Co.mono ?_;rintro e P⟨r,rfl,U,H2⟩;go_wp2;go_ret;simp_all)⟩,Q,K,gM a3 (eZ _),y.next z (by grind)⟩,z⟩
   have g:Z [R] W (W.setCell ⟨R,j,F⟩ u):=(Z.refl _ _).setCell (.inl (by simp)) _;exact⟨g.at a (QY a i (by decide)),ik.j (KN.q g (λq hq c t I ht=>by have e:=cC.1 hq;subst e;rw[i]at I;simp at I;rw[<-I.2]at ht;revert ht;decide)) b,g.ownsRow c (y9 c i (by decide)),e.setCell (.inr C) _⟩
theorem TX.one{s:O}(j:s.size<=1024){X:Told}(h:TX s X):∀w,W4 w->dS 6 #[Y s,G 64,G 32,G 16,gq] w (Pl w X):=F5.one (d:=64) (f:=32) (l:=16) j (by omega) (by omega) (by omega) h
theorem acx(h:a<=b):ln (bY s a)<=ln (bY s b):=by
 induction b with
 |zero=>grind
 |succ b ih=>
  rcases qp b a with j|j;grind
  .cases hk:ya s b<;>grind[VM,Jf]
theorem agn{j:Nat}:j<ln (bY s n)->∃c,c<n/\ya s c=C/\(ln (bY s c))=j/\(bY s n)[j]?=H c:=by
 induction n with
 |zero=>simp[bY]
 |succ n ih=>
  cases hk:ya s n<;>grind[VM,Jf]
theorem ac0{j:Nat}(h:j<(pq s).size):∃c,c<s.size/\ya s c=C/\(ln (bY s c))=j/\fF s j=c/\bt (pq s) j=xd s c:=by rw[vz]at h;have⟨c,h1,h2,h3,h4⟩:=agn h;refine⟨c,h1,h2,h3,?_,?_⟩;grind[fF];unfold bt;rw[ug _];show(((((bY s _).map (C4 s)).toArray)[j]'(by grind)).toNat:Int)=_;grind[NM]
theorem J9(s:O):fF s (pq s).size=s.size:=by grind[vz,fF]
theorem ajP(h:i<=(pq s).size):fF s i<=s.size:=by
 rcases qp i (pq s).size with q|q;have:=(by show fF s i<fF s ((pq s).size);have⟨c,h1,_,h3,h4,_⟩:=ac0 (s:=s) (j:=i) (by omega);rw[h4];rcases qp ((pq s).size) (pq s).size with q|q;have⟨d,_,_,g3,g4,_⟩:=ac0 q;rw[g4];rcases qp c d with h|h;exact h;have:=acx (s:=s) h;omega;grind[J9]);grind[J9]
 grind[J9]
theorem ak0{K:Nat}(j:fg r U)(q:∀i,i<ln U.d->r i<K)(E:fS)(f:Nat->Nat)(w:J)(h:RF E f U w):ik w (wH U (K+1) (.el 0)) (.el (f 0)):=by
 obtain⟨L,rfl,y⟩:=h
 let ⟨e,he⟩:=dh.1 j.u
 let z:=q 0 (N.n he)
 refine YH (B:=K-1) y j (λi u=>by grind) _ _ j.u (λi u=>?_) (by omega);grind
theorem Zb(h:kV U):∃r K,fg r U/\∀i,i<ln U.d->r i<K:=by
 let ⟨r,hv⟩:=h
 let ⟨B,hB⟩:=zV r (ln U.d)
 exact⟨r,B+1,hv,by grind⟩
theorem afu(U:s.size<=1024)(hd:d<=64)(hf:f<=32)(hl:l<=16){L:List Sp}(h:pw d f l s=.done fin L){K:Nat}(a:fg r fin)(hb:∀i,i<ln fin.d->r i<K):∃nm bY T,wH fin (K+1) (.el 0)=.el nm bY T/\S3 T/\F5 d f l s ⟨0,s.size,CZ T,IC T,L⟩:=by
 let y:=sn d f l s U hd hf
 rw[h]at y
 let ⟨g1,g2,_⟩:=y
 let hw:wt fin<=595500:=by
  let j:wt fin<=BA fin:=zl _ _
  let q:=VB (d:=d) (f:=f) (l:=l) (a:=0)
  let u:=Ji s
  let z:(vq s ((l)) .nilFunc 0).A.size=(pq s).size:=rfl
  omega
 let c:=ak0 a hb
 let ⟨nm,bY,T,hT,hD⟩:=(show∃nm bY T,wH fin (K+1) (.el 0)=.el nm bY T/\S3 T by
   have aI:=abo d f l s U h;obtain⟨r,g⟩:=g1.A;obtain⟨e,n⟩:=dh.1 g.u;have j:wH fin (K+1) (.el 0)=.el e.name e.A (e.q.map (wH fin K)):=by
    show(match fin.h 0 with|some e=>Tn.el _ _ _|none=>BV)=_
    rw[n]
   have q:=akV ⟨r,g⟩ (K+1) 0;have u:=aje hl aI (K+1) (.el 0);rw[j]at q u;have z:=u.2.2.2;have b:1+Cc _<=1+wt fin:=q;refine⟨_,_,_,j,λx=>?_,?_⟩;grind[Qd];obtain⟨_,_,t⟩:=Qd hw (λ_=>I) _ z;show ln (gF _)<=_;omega)
 refine⟨nm,bY,T,hT,hD,.inr ⟨nm,bY,T,L,λtv base w p Q m=>?_,hD,D⟩⟩;rw[hT]at c;refine(ON s tv base d f l w p U hd hf hl Q m).mono λe P a=>?_;rw[h]at a
 let ⟨v,k,E,fl,j,q,u,z,b,h6⟩:=a
 subst q;exact⟨v,fl 0,j,c E fl P u,z,b,h6⟩
theorem afs(j:s.size<=1024)(y:d<=64)(z:f<=32)(a:l<=16){c p:Nat}(h:pw d f l s=.stop c p):(c≠0/\p<=s.size)/\F5 d f l s ⟨c,p,[],⟨#[]⟩,[]⟩:=by
 exact⟨⟨Up d f l s j h,(by have u:=sn d f l s j y z;rw[h]at u;obtain⟨q,_,T,rfl⟩:=u;exact ajP T)⟩,.inl ⟨c,p,λU base w Q K E=>((ON s U base d f l w Q j y z a K E).mono (λe P b=>by grind)),D⟩⟩
structure ab8(X:Told):Prop where
 A:ln X.A<=1000000000
 ne:X.A≠[]
 ok:∀a∈X.A,a.s.size<=1048576/\a.t.size<=1048576/\1<=a.k/\a.k<=6
 rm:Rm X.A 1
 ag:Br X.A [kf]=C->X.IA.size<=1024->∃d9,TX X.IA d9/\(d9.c=5\/d9.c=0/\d9.A=X.A/\d9.IA=X.IA)
theorem akZ(y:s.size<=1024):∃X,TX s X/\((X.c≠0/\X.p<=s.size/\X.A=[]/\X.IA=⟨#[]⟩/\X.B=[])\/X.c=0/\ab8 X):=by
 let q:=sn 64 32 16 s y (by omega) (by omega)
 cases h:pw 64 32 16 s with
 |stuck=>rw[h]at q;exact q.elim
 |stop c p=>
  let ⟨⟨j,P⟩,h3⟩:=afs y (by omega) (by omega) (by omega) h
  grind
 |done fin L=>
  rw[h]at q
  let ⟨r,K,hr,hb⟩:=Zb q.1.A
  let ⟨nm,bY,T,hT,hD,hX⟩:=afu y (by omega) (by omega) (by omega) h hr hb
  let ⟨i1,i2⟩:=(show Rm (CZ T) 1/\(Br (CZ T) [kf]=C->Fl kf T=C) by
    let ⟨j,P⟩:=akc [] kf T []
    rw[yy]at j P;exact⟨j trivial,λh=>(P h).1⟩)
  refine⟨_,hX,.inr ⟨D,hD.2,?_,(by
    intro a ha
    let z:iJ.size=0:=rfl
    let ⟨e,Q,u⟩:=gn.1 (ha)
    let j:=(hD.1 _).1 e Q
    cases e with
    |dt s=>let j:=of_decide_eq_true j;obtain rfl:=cC.1 u;grind
    |cm s=>let j:=of_decide_eq_true j;obtain rfl:=cC.1 u;grind
    |tx s=>let j:=of_decide_eq_true j;obtain rfl:=cC.1 u;grind
    |tz s=>let j:=of_decide_eq_true j;obtain rfl:=cC.1 u;grind
    |enter s bY=>
     simp[yg]at j;rcases bZ.1 u with rfl|u
     all_goals grind),i1,λf b=>?_⟩⟩
  .have:T≠[]:=by
    let q:=sn 64 32 16 s y (by omega) (by omega)
    rw[h]at q
    let ⟨_,_,_,_,_,u,hnm⟩:=q
    let ⟨e0,h0,b⟩:=hnm 0 ⟨#[]⟩ ⟨_,D,D⟩
    let j:wH fin (K+1) (.el 0)=.el e0.name e0.A (e0.q.map (wH fin K)):=by
     show(match fin.h 0 with|some e=>Tn.el e.name e.A _|none=>BV)=_
     rw[h0]
    rw[j]at hT
    let ⟨_,_,rfl⟩:=Tn.el.inj hT
    intro hk
    let hk:=List.map_eq_nil_iff.1 hk
    let one:∀i e,fin.h i=H e->e.name=⟨#[]⟩:=λi e Q=>by
     let P:i∈0::(match fin.h 0 with|some e=>e.q.flatMap (zP fin K)|none=>[]):=Mc hr (OL y (by omega) h) hb _ i e Q (mw _)
     grind
    rcases OK 64 32 16 s y (by omega) (by omega) h with d|⟨i,x,⟨e,Q,rfl⟩,hw⟩;grind[aem,Nb.K];rw[one i e Q]at hw;exact absurd hw (by decide+kernel)
   cases T with
   |nil=>grind
   |cons t T=>cases t<;>simp[CZ,rN,Bx,gF,rB]
  .rcases(show(∃kf,pw 64 32 16 (IC T)=.stop 5 kf)\/∃U L,pw 64 32 16 (IC T)=.done U L/\∀k,Da T<k->wH U k (.el 0)=.el ⟨#[]⟩ [] T by
    let ⟨j,P⟩:=(show RR ⟨#[]⟩ T/\(T.map kB).foldl RW 0=2 by
      let a0:=OL y (by omega) h
      let q:=sn 64 32 16 s y (by omega) (by omega)
      rw[h]at q
      let ⟨_,_,_,_,_,u,hnm⟩:=q
      let ⟨e0,h0⟩:=dh.1 hr.u
      let j:wH fin (K+1) (.el 0)=.el e0.name e0.A (e0.q.map (wH fin K)):=by
       show(match fin.h 0 with|some e=>Tn.el _ e.A _|none=>BV)=_
       rw[h0]
      rcases OK 64 32 16 s y (by omega) (by omega) h with d|hw
      let ⟨hh,L',He⟩:=aem d u
      let ⟨e,d1,d2,d3,d4⟩:=akY He a0 hr hb
      grind;have:e0.name=⟨#[]⟩:=by
       let ⟨e,g1,g2⟩:=hnm 0 _ ⟨_,D,D⟩
       rw[h0]at g1;cases g1;exact g2
      grind[aib])
    obtain⟨x,g,rfl,m⟩:=ajQ (R:=vq (IC T) (16) _ 0) (Int.le_refl _) j P (i2 f)
    let e:=(show IC x.tree=bs (yC ⟨#[]⟩ x.tree) by have:=ak6 x.tree [] j;rw[show fG _ _=I by decide+kernel]at this;grind[IC,Vs])
    refine VE g (by decide) (by decide) (by decide) b ?_;grind[agG,XQ])with⟨p,hp⟩|⟨U,L',j,P⟩
   let ⟨_,h3⟩:=afs b (by omega) (by omega) (by omega) hp
   grind
   let E:=sn 64 32 16 (IC T) b (by omega) (by omega)
   rw[j]at E
   let ⟨r',K',hr',hb'⟩:=Zb E.1.A
   let ⟨nm',ats',T',hT',hD',hX'⟩:=afu (K:=K'+Da T) b (by omega) (by omega) (by omega) j hr' λi l=>by grind
   grind
def alr(w:J)(X:Told)(e:Ending)(P:J):Prop:=∃E q j u y z,e=ff (.tuple #[.agg #[G X.c,G X.p,.slice E q j,Y X.IA,.slice u y z],.bool (decide (X.c=0)),.bool C])/\(X.c=0->P.ownsRow w.heap.size 75 3 (.slice u y z) (ln X.B) (kO X.B)/\P.ownsRow w.heap.size 51 3 (.slice E q j) (ln X.A) (ou X.A))/\Z [] w P
theorem ajD(s:O)(w:J)(aI:s.size<=1024)(hw:W4 w)(A:(X.c≠0/\X.p<=s.size/\X.A=[]/\X.IA=⟨#[]⟩/\X.B=[])\/X.c=0)(x:∀w,W4 w->dS 6 #[Y s,G 64,G 32,G 16,gq] w (Pl w X)):dS 4 #[Y s] w (alr w X):=by
 obtain⟨w0,P⟩:∃w0,w0=w.alloc (.cells #[G 0,G 0,gq,Y iJ,gq] 26):=⟨_,D⟩;have k0:Z [] w w0:=by rw[P];exact(Z.refl _ _).alloc _
 have M:zq w0.heap=zq w.heap+1:=by rw[P];simp
 have F:w0.heap[zq w.heap]?=H (dr #[G 0,G 0,gq,Y iJ,gq] 26):=by rw[P];exact aY w _
 have r:=V (x w0 (hw.kept k0));have N:=V P.symm;have a0:=V k0;have v:=V F;have t:=V M;have R:=V A;clear P k0 F M hw x A;go_enter func4,ntmps4;go_wp21;rw[N.out];refine r.out.mono ?_;rintro e w1⟨l,n,ca,ta,tb,b,rfl,y,z,u⟩;have⟨c,p,KQ,IA,sps⟩:=X;dsimp only at y z|-;rcases R.out with⟨a,W,B,L,a1⟩|a
 .dsimp only at a W B L a1;subst B L a1;have q:n=0:=by have⟨_,_,e0⟩:=df y;exact(RN e0).2.1
  have S:tb=0:=by have⟨_,_,e0⟩:=df z;exact(RN e0).2.1
  subst q S;have a6:(c:Int)≠0:=by omega
  have a7:(p:Int)<=(s.size:Int):=by omega
  have j:=u.at v.out (by simp);have d:=aF j 0;have f:=aF j 1;have g:=aF j 2;have i:=aF j 3;have k:=aF j 4;have o:=cY j 0;have j1:=cY j 1;have j2:=cY j 2;have j3:=cY j 3;have j4:=cY j 4;dsimp at d f g i k;have T:=fp j;have U:zq w.heap≠zq w1.heap:=by omega
  have K:zq w1.heap≠zq w.heap:=by omega
  have Q:=V (a0.out.trans u);have a5:=V a;clear u j y z a r;go_wp21;go_region
  all_goals (try go_wp2)
  all_goals
   refine mL (v:=.tuple #[.agg #[G c,G p,.slice l 0 ca,Y iJ,.slice ta 0 b],.bool I,.bool C]) ?_ D ⟨l,0,ca,ta,0,b,?_,?_,?_⟩
   .simp[results,results4,asAddr,da,go_sem,d,f,g,i,k,U,K,T]
   simp_all;grind
   .have m:=Q.out
    first
     |exact(((((((m.setCell (.inr (dF _)) _).setCell (.inr (dF _)) _).setCell (.inr (dF _)) _).setCell (.inr (dF _)) _).setCell (.inr (dF _)) _).alloc _).drew)
     |exact(((((((m.setCell (.inr (dF _)) _).setCell (.inr (dF _)) _).setCell (.inr (dF _)) _).setCell (.inr (dF _)) _).setCell (.inr (dF _)) _).drew).alloc _)
     |exact(((((((m.alloc _).drew.setCell (.inr (dF _)) _).setCell (.inr (dF _)) _).setCell (.inr (dF _)) _).setCell (.inr (dF _)) _).setCell (.inr (dF _)) _))
 .dsimp only at a;subst a;have j:=u.at v.out (by simp);have d:=aF j 0;have f:=aF j 1;have g:=aF j 2;have i:=aF j 3;have k:=aF j 4;have o:=cY j 0;have j1:=cY j 1;have j2:=cY j 2;have j3:=cY j 3;have j4:=cY j 4;dsimp at d f g i k;have T:=fp j;have U:zq w.heap≠zq w1.heap:=by omega
  have K:zq w1.heap≠zq w.heap:=by omega
  have Q:=V (a0.out.trans u);have a3:=V z;have a2:=V y;have q:(cV l n ca).ownBlock≠H w.heap.size:=λh=>by have:=(y.lt _ h).1;have:=t.out;omega
  have E:(cV ta tb b).ownBlock≠H w.heap.size:=λh=>by have:=(z.lt _ h).1;have:=t.out;omega
  clear u j y z r;go_wp2;refine mL (v:=.tuple #[.agg #[G 0,G p,.slice l n ca,Y IA,.slice ta tb b],.bool C,.bool C]) ?_ D ⟨l,n,ca,ta,tb,b,D,?_,?_⟩
  .simp[results,results4,asAddr,da,go_sem,d,f,g,i,k,U,K,T]
  intro _;have:=t.out;exact⟨gM (World.ownsRow.alloc (qo (qo (qo (qo (qo a3.out E _) E _) E _) E _) E _) _) (by omega),
   gM (World.ownsRow.alloc (qo (qo (qo (qo (qo a2.out q _) q _) q _) q _) q _) _) (by omega)⟩
  have m:=Q.out;exact((((((m.setCell (.inr (dF _)) _).setCell (.inr (dF _)) _).setCell (.inr (dF _)) _).setCell (.inr (dF _)) _).setCell (.inr (dF _)) _).alloc _)
theorem LI(E Q ca K T h n:Nat)(A B:Nat->It)(w:J)(d:yE w E Q n A)(f:yE w K T n B)(l:n<=140737488351232)(a:∀i,i<n->A i=B i):dS 8 #[.slice (H ⟨E,Q,F⟩) n ca,.slice (H ⟨K,T,F⟩) n h] w λe P=>e=ff (.bool C)/\∃q,P=w.drewN q:=by
 have U:=V d;have b:=V f;have a3:=V a;clear d f a;go_enter func8,ntmps8;go_wp2
 go_loopw [5] (λi wr=>∃k:Nat,k<=n/\i=G k/\∃q,wr=w.drewN q) (λi _=>n-(intOf i).toNat)
 case atStart=>exact⟨0,eZ _,D,0,D⟩
 case round=>
  obtain⟨k,hk,rfl,g⟩:=hrel;have u:=V g;clear g;by_cases j:k<n
  .have a0:wr.cell? ⟨E,Q+k*3,F⟩=H (G (A k).k):=by obtain⟨q,rfl⟩:=u.out;rw[Bi];exact U.out.B k j
   have a1:wr.cell? ⟨E,Q+k*3+1,F⟩=H (Y (A k).s):=by obtain⟨q,rfl⟩:=u.out;rw[Bi];exact U.out.c1 k j
   have a2:wr.cell? ⟨E,Q+k*3+2,F⟩=H (Y (A k).t):=by obtain⟨q,rfl⟩:=u.out;rw[Bi];exact U.out.c2 k j
   have c:wr.cell? ⟨K,T+k*3,F⟩=H (G (B k).k):=by obtain⟨q,rfl⟩:=u.out;rw[Bi];exact b.out.B k j
   have b1:wr.cell? ⟨K,T+k*3+1,F⟩=H (Y (B k).s):=by obtain⟨q,rfl⟩:=u.out;rw[Bi];exact b.out.c1 k j
   have b2:wr.cell? ⟨K,T+k*3+2,F⟩=H (Y (B k).t):=by obtain⟨q,rfl⟩:=u.out;rw[Bi];exact b.out.c2 k j
   rw[<-a3.out k j]at c b1 b2;generalize (A k).k=x at a0 c;generalize (A k).s=y at a1 b1;generalize (A k).t=z at a2 b2;go_wp2_with fail
   go_quiet (fail)
   go_wp2;go_roundw
   case rel=>exact⟨k+1,by omega,by go_num,by grind[Hid.out,World.drewN_drewN]⟩
   case measure=>simp[intOf];omega
  .go_wp2;go_ret;exact⟨D,u.out⟩
def F7(j q:Option Addr)(c1 c2:Nat)(w:J):dS 8 #[.slice j 0 c1,.slice q 0 c2] w (vc w (.bool C)):=by go_enter func8,ntmps8;go_wp2;refine wK 1 ?_;rw[nP];go_wp2;go_ret;exact⟨D,Z.refl _ _⟩
theorem TH(T U:Nat)(E K:dB)(L:List It)(w:J)(y:w.ownsRow T 51 3 E (ln L) (ou L))(z:w.ownsRow U 51 3 K (ln L) (ou L))(d:ln L<=1000000000):dS 8 #[E,K] w λe P=>e=ff (.bool C)/\Z [] w P:=by
 by_cases u:ln L=0;obtain⟨a,j,rfl⟩:=df y;obtain⟨Q,q,rfl⟩:=df z;rw[u];exact F7 a Q j q w;rcases y.2 with⟨_,h⟩|⟨b,j,f,rfl,_,a0,_⟩;exact absurd h u;rcases z.2 with⟨_,h⟩|⟨c,q,g,rfl,_,a3,_⟩;exact absurd h u;refine(LI b 0 j c 0 q (ln L) (xz L) (xz L) w (KP y) (KP z) (by omega) (λ_ _=>D)).mono ?_;grind[Z.drewN,Z.refl]
theorem akd(hF:ab8 X)(p:Int)(b:Nat)(o:Option Addr)(W ca:Nat)(ta:Option Addr)(tb t:Nat)(w:J)(hw:W4 w)(h:w.ownsRow b 51 3 (.slice o W ca) (ln X.A) (ou X.A)):dS 5 #[.agg #[G 0,G p,.slice o W ca,Y X.IA,.slice ta tb t]] w λe P=>e=ff (.bool C)/\Z [] w P:=by
 let ⟨c,q,KQ,IA,sps⟩:=X
 let ⟨f1,f2,f3,f4,f5⟩:=hF
 dsimp only at f1 f2 f3 f4 f5 h|-;rcases h.2 with⟨_,h0⟩|⟨g,cap,ai,e1,af,O,_⟩;exact absurd (NC h0) f2;obtain⟨rfl,rfl,rfl⟩:=RN e1;have R:=fp O
 let ⟨w1,hw1⟩:∃w1,w1=w.alloc (.cells #[G 0,G p,lO g (ln KQ) ca,Y IA,.slice ta tb t] 26):=⟨_,D⟩
 let k1:Z [] w w1:=by rw[hw1];exact(Z.refl _ _).alloc _
 have l:=V (show w1.heap[zq w.heap]?=H (dr #[G 0,G p,lO g (ln KQ) ca,Y IA,.slice ta tb t] 26) by grind[aY]);have i:=V (al0 g ca KQ w1 ((KP h).kept k1 R) (kQ R k1.size) f1 f3 f4);have L:=V (k1.ownsRow h (λ_ _=>by simp));have F:=V (hw.kept k1);have aa:=V k1;have ac:=V hw1.symm;have k:=V f5;have HL:=V f1;clear hw1 k1 h f1 f2 f3 f4 f5 af O e1 hw;go_enter func5,ntmps5;go_wp2_with fail;rw[ac.out];refine i.out.mono ?_;rintro e w2⟨rfl,j⟩;have Q:=j.at l.out (by simp);have u2:=aF Q 2;have u3:=aF Q 3;dsimp at u2 u3;have E:=V (aa.out.trans j);cases ht:Br KQ [kf]with
 |false=>
  clear i l k j Q;go_wp2;go_ret;exact⟨D,E.out⟩
 |true=>
 by_cases hz:1024<IA.size
 .clear i l k j Q;go_wp2;go_ret;exact⟨D,E.out⟩
 obtain⟨al,S,N⟩:=k.out ht (by omega);have aI:=V (TX.one (by omega) S w2 (F.out.kept j));have U:=V Q;have y:=V (j.ownsRow L.out (λ_ _=>by simp));have a1:=V N;clear i l k j Q L F S N;go_wp2_with fail;refine aI.out.mono ?_;rintro e w3⟨n,nb,m,v,A,x,rfl,a,a2,u⟩;obtain⟨c1,s,T,z,ah⟩:=al;have M:=a1.out;dsimp only at a a2 M|-;have d:=u.at U.out (by simp);have ad:=aF d 2;have ae:=aF d 3;dsimp at ad ae;have aj:=fp d;have ak:zq w.heap≠zq w3.heap:=by omega
 rcases M with r|⟨r,hi,ag⟩
 .subst r;have a0:=V ((E.out.trans u).alloc (.cells #[G 5,G s,.slice n nb m,Y z,.slice v A x] 26));clear aI U y a1 a a2 u d;go_wp2;go_ret;exact⟨D,a0.out⟩
 .subst r hi ag;have f:Z [] w3 (w3.alloc (.cells #[G 0,G s,.slice n nb m,Y z,.slice v A x] 26)):=(Z.refl _ _).alloc _;have B:=V (TH b _ (lO g (ln T) ca) (.slice n nb m) T _ (f.ownsRow (u.ownsRow y.out (λ_ _=>by simp)) (λ_ _=>by simp)) (f.ownsRow a (λ_ _=>by simp)) HL.out);have a3:=V (f.at d (by simp));have I:=V (aY w3 (.cells #[G 0,G s,.slice n nb m,Y z,.slice v A x] 26));have ab:=V ((E.out.trans u).trans f);clear aI U y a1 a a2 u f d;go_wp2_with fail;refine B.out.mono ?_;rintro e w5⟨rfl,K⟩;have Q:=K.at a3.out (by simp);have x2:=K.at I.out (by simp);have d3:=aF Q 3;have f3:=aF x2 3;dsimp at d3 f3;have a0:=V (ab.out.trans K);clear K Q x2 B a3 I;go_wp2;go_ret;exact⟨D,a0.out⟩
def acr(s:O)(w:J)(o:s.size<=140737488355328)(U:W4 w):dS 3 #[Y s] w (vc w (.bool C)):=by
 by_cases a1:1024<s.size
 .let Co:=V ((show Calls prog 4 #[Y s] w λe P=>e=ff (.tuple #[.agg #[G 0,G 0,gq,Y iJ,gq],.bool I,.bool C])/\Z [] w P by
   go_enter func4,ntmps4;go_wp2;refine mL (v:=.tuple #[.agg #[G 0,G 0,gq,Y iJ,gq],.bool I,.bool C]) ?_ D ⟨D,?_⟩
   .simp[results,results4,asAddr,da,go_sem]
   exact(Z.refl [] w).alloc _))
  clear U;go_enter func3,ntmps3;go_wp21;refine Co.out.mono ?_;rintro e w1⟨rfl,j⟩;have z:=V (j.alloc (.cells #[G 0,G 0,gq,Y iJ,gq] 26));clear j Co;go_wp2;go_ret;exact⟨D,z.out⟩
 .let ⟨X,hTX,hX⟩:=akZ (s:=s) (by omega)
  let k:=hTX.one (by omega)
  have Co:=V (ajD s w (by omega) U (hX.imp id mr) k);have g:=V hX;have m:=V U;clear U k hX hTX;go_enter func3,ntmps3;go_wp21;refine Co.out.mono ?_;rintro e w1⟨f,Q,ca,ta,tb,d,rfl,q,j⟩
  let E:=V g.out
  obtain⟨c,p,a2,T,r⟩:=X;dsimp only at q|-;rcases E.out with⟨y, -⟩|⟨y,b⟩
  .dsimp only at y;rw[yx y];have z:=V (j.alloc (.cells #[G c,G p,.slice f Q ca,Y T,.slice ta tb d] 26));clear j Co q y;go_wp2;go_ret;exact⟨D,z.out⟩
  .dsimp only at y;subst y;replace q:=(q D).2;rw[sx D];have k2:Z [] w1 (w1.alloc (.cells #[G 0,G p,.slice f Q ca,Y T,.slice ta tb d] 26)):=(Z.refl _ _).alloc _;have z:=V (j.trans k2);have l:=V (akd b (p:Int) _ f Q ca ta tb d _ ((m.out.kept j).kept k2) (k2.ownsRow q (λ_ _=>by simp)));obtain⟨_,_,i⟩:=df q;obtain⟨-,u, -⟩:=RN i;have a:ln a2≠0:=λh=>b.ne (NC h);have a3:0<Q:=by rw[u];omega
   have n:Q<=1000000000:=by rw[u];exact b.A
   clear j Co q k2 i u g E a;go_wp21;refine l.out.mono ?_;rintro e w2⟨rfl,K⟩;have a0:=V (z.out.trans K);clear K;go_wp2;go_ret;exact⟨D,a0.out⟩
end
end Go.Proofs.YtcalkelgoekpfaaGreatDoor
