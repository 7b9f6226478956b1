import Derived.Test.YtdbbknopdbpfaaaGreatDoorLsO
import Derived.Deep.AppendLies
import Derived.Shelf.Lay
import Derived.Shelf.Strings.SlTrimAscii
import Derived.RegionDies
set_option linter.unusedSimpArgs false
set_option linter.unusedVariables false
set_option linter.defProp false
set_option maxHeartbeats 0
set_option maxRecDepth 100000
namespace Go.Proofs.YtdbbknopdbpfaaaGreatDoor
open Go.RowKit Go.PlainAid Tryz
def yA:=@List.nodup_nil
def A6:=@eq_of_beq
def Z0:=@Array.eq_empty_of_size_eq_zero
section
variable {B o:kY}{H:Nat->List O}{L:lu}{Q ks l:List O}{R:RC}{S X:List Nat}{U x y:jj}{W w w':J}{a:Unit}{b base clock d i j k lg m n ps r:Nat}{f inV:Bool}{look:O->Option O}{name s:O}{pl:Nat×Nat}{q:O->Bool}{t:gF}{v:gP}{xs:List gP}{σ σ':N}
theorem FI.cons{p:Pm}{X:List Nat}{σ:N}(h:FI p X σ){j:Nat}(g:BG σ j):FI p (j::X) σ:={h with xs:=λi c=>(List.mem_cons.1 c).elim (λe=>e▸g) (h.xs i)}
theorem FI.sub{p:Pm}{d8:List Nat}(h:FI p X σ)(hs:∀i∈d8,i∈X):FI p d8 σ:={h with xs:=λi c=>h.xs i (hs i c)}
theorem FI.tail{p:Pm}(h:FI p (j::X) σ):FI p X σ:=h.sub λ_ c=>abv _ c
def FI.pos{p:Pm}(h:FI p X σ):σ.nodes.length≠0:=by
 have⟨e,he⟩:=Option.isSome_iff_exists.1 h.ti.wA;have:=N.io he;omega
theorem FI.XO{p:Pm}(h:FI p X σ){e:wN}(A:e.kids=[])(u:rH e.gR)(C:e.name≠uG)(z:e.name≠fN):FI p X (σ.add (.el e))/\(σ.add (.el e)).gU σ.nodes.length=some e:=
 ⟨h.nodes (h.ti.add (λc g=>by grind) (λ_ g=>by cases g)) Nx.add rfl rfl rfl rfl rfl rfl rfl rfl,by rw[N.su]⟩
theorem FI.fresh{p:Pm}(h:FI p X σ):some σ.nodes.length∉σ.gq:=λc=>by
 have⟨_,g⟩:=h.o0 c;have⟨e,he⟩:=Option.isSome_iff_exists.1 g;have:=N.io he;omega
def FI.ald{p:Pm}(h:FI p X σ){e:wN}(u:e.kids=[])(c:rH e.gR)(z:e.name≠uG)(hq:lZ e.name=false):FI p (σ.nodes.length::X) (σ.add (.el e))/\some σ.nodes.length∉(σ.add (.el e)).gq:=by
 have⟨h1,h2⟩:=h.XO u c z (λg=>by rw[g,Qu]at hq;cases hq);exact⟨h1.cons ⟨h.pos,e,h2,hq⟩,h.fresh⟩
theorem FI.BI{p:Pm}{n:A8}{b:Bool}(h:FI p X (σ.add n)):FI p X (σ.qt n b):=h.lists rfl rfl rfl h.ch h.q h.op h.nd h.act h.form h.head h.wt h.mo
theorem rH.nil:rH []:=⟨yA,by grind⟩
structure TA(t:gF):Prop where
 gG:rH t.jh
 name:t.name≠uG
 chars:∀s,t.k=.kE s->0<s.size
def Nw(p:Pm)(X:List Nat)(j:Nat)(σ:N):Prop:=FI p (j::X) σ/\some j∉σ.gq
def aiW{p:Pm}(c:name≠uG)(hq:lZ name=false):Tr (FI p X) (Bk name) (Nw p X):=λσ h=>h.ald rfl rH.nil c hq
def Ey{p:Pm}(ht:TA t)(hq:lZ t.name=false):Tr (FI p X) (ku t) (Nw p X):=λσ h=>by
 unfold ku;split;have⟨g1,g2⟩:=h.ald (e:=⟨t.name,t.jh,none,[]⟩) rfl ht.gG ht.name hq;exact⟨g1.BI,g2⟩;trivial
def Ea{p:Pm}(c:i∈X):Tr (FI p X) (kq i) (Nw p X):=λσ h=>by
 unfold kq;have⟨_,e,g1,g2⟩:=h.xs i c;rw[g1];dsimp only;split;trivial;exact h.ald rfl (h.ti.gG i e g1).1 (h.ti.gG i e g1).2 g2
def N.ai5(σ:N)(x:jj):({σ with gq:=σ.gq++[x]}:N).ns=σ.ns++[σ.mu x]:=by
 unfold N.ns;rw[rZ];rfl
def ym:∀{l:List O},l≠[]->∃a,yl none l=some a/\a∈l:=λ{l} h=>by
 obtain⟨c,a,rfl⟩:∃c a,l=c++[a]:=⟨l.dropLast,l.getLast h,(List.dropLast_concat_getLast h).symm⟩;exact⟨a,uc,by simp⟩
def akL(h:σ.gq≠[]):σ.ns≠[]:=λe=>h (List.map_eq_nil_iff.1 e)
theorem FI.push{p:Pm}(h:FI p X σ){e:wN}(g:σ.gU j=some e)(z:j≠0)(c:du (yl none σ.ns) e.name)(u:some j∉σ.gq):FI {p with Q:=p.Q++[e.name].filter lZ} X {σ with gq:=σ.gq++[some j]}:=by
 have e1:({σ with gq:=σ.gq++[some j]}).ns=σ.ns++[e.name]:=by rw[N.ai5];rw[<-N.vi g];rfl
 refine h.lists rfl rfl rfl (by rw[e1,uP];exact⟨h.ch,c,trivial⟩) (by grind[q]) (λx u=>?_) (List.nodup_append.2 ⟨h.nd,by simp,by grind⟩) h.act h.form h.head h.wt h.mo;grind[op]
theorem FI.agG{p:Pm}(h:FI p X σ)(c:BG σ j)(g:σ.gq≠[])(u:some j∉σ.gq):FI p X {σ with gq:=σ.gq++[some j]}:=by
 have⟨h0,e,h1,h2⟩:=c;have⟨a,ha,_⟩:=ym (akL g);have:=h.push h1 h0 (by rw[ha];exact⟨GD h2 a,Y5 h2⟩) u;simp_all
def ajo{p:Pm}(c:j∈X):Tr (λσ=>FI p X σ/\σ.gq≠[]/\some j∉σ.gq) (oH (some j)) (λ_=>FI p X):=λσ ⟨h,e,g⟩=>by
 unfold oH;split;trivial;split;exact h.agG (h.xs j c) e g;trivial
theorem uA(h:ky σ=.ok pl σ'):σ'=σ:=by
 unfold ky at h;split at h;grind[ny,oJ,placeFor];grind
theorem P7{p:Pm}(g:j∈X){R:N->Prop}(u:Tr (λσ=>FI p X σ/\σ.gq≠[]/\some j∉σ.gq) (oH (some j)) (λ_=>R)):Tr (λσ=>FI p X σ/\some j∉σ.gq) (jT j) (λ_=>R):=
 Tr.bind (R:=λpl σ=>dN p X _ pl σ/\some j∉σ.gq) (λσ ⟨h,A⟩=>by
  have:=zM σ h;cases hm:ky σ with
  |ok pl σ'=>rw[hm]at this;exact⟨this,by grind[uA]⟩
  |_=>trivial) λpl=>Tr.bind (λσ ⟨⟨h,e,D,z⟩,A⟩=>(Dq (h.f0 g) h e z).mono λ_ σ' ⟨c,C⟩=>⟨c,by grind⟩) λ_=>Tr.bind u λ_=>Tr.pure λ_ h=>h
def P6{p:Pm}(c:j∈X):Tr (λσ=>FI p X σ/\some j∉σ.gq) (jT j) (λ_=>FI p X):=P7 c (ajo c)
def Fz{α:Type}(m:M α):Prop:=∀p X,Tr (FI p X) m (λ_ σ=>FI p X σ.pop)
def Zp(p:Pm)(X:List Nat)(o:kY)(d:jj)(σ:N):Prop:=FI p X σ/\σ.gq=o/\σ.head=d
theorem My{p:Pm}{d:jj}:Tr (λσ=>Zp p X o d σ/\dk σ j) (jT j) (λ_ σ=>Zp p X o d σ.pop):=
 Tr.bind (R:=λpl σ=>dN p X Prod.fst pl σ/\Zp p X o d σ/\dk σ j) (λσ h=>by
  have:=zM σ h.1.1;cases hm:ky σ with
  |ok pl σ'=>rw[hm]at this;exact⟨this,by grind[uA]⟩
  |_=>trivial) λpl=>Tr.bind (R:=λ_=>Zp p X o d) (λσ ⟨⟨h,c,_,A⟩,⟨_,z,u⟩,C⟩=>by
  have:=Dq C h c A;revert this;unfold kD
  (repeat' split)<;>intro g<;>first|exact⟨g.1,g.2.trans z,u⟩|trivial) λ_=>Tr.bind (λσ h=>by
  unfold oH;split;trivial;split;have e:({σ with gq:=σ.gq++[some j]}).pop=σ:=by unfold N.pop;simp
  grind[kh];trivial) λ_=>Tr.pure λ_ h=>h
def aiY{p:Pm}{d:jj}(c:name≠uG)(hq:q0 name=false):Tr (Zp p X o d) (Bk name) (λj σ=>Zp p X o d σ/\dk σ j):=λσ h=>by
 have⟨h1,h2⟩:=h.1.XO (e:=⟨name,[],none,[]⟩) rfl rH.nil c (λ(g:name=(fN))=>by rw[g]at hq;revert hq;decide+kernel);exact⟨⟨h1,h.2⟩,_,h2,hq⟩
def Y0{p:Pm}{d:jj}(ht:TA t)(hq:q0 t.name=false):Tr (Zp p X o d) (ku t) (λj σ=>Zp p X o d σ/\dk σ j):=λσ h=>by
 unfold ku;split;have⟨h1,h2⟩:=h.1.XO (e:=⟨t.name,t.jh,none,[]⟩) rfl ht.gG ht.name (λ(g:t.name=(fN))=>by rw[g]at hq;revert hq;decide+kernel);exact⟨⟨h1.BI,h.2⟩,_,h2,hq⟩;trivial
def Ax(ht:TA t)(hq:q0 t.name=false){p:Pm}{d:jj}:Tr (Zp p X o d) (iL t) (λ_ σ=>Zp p X o d σ.pop):=Tr.bind (Y0 ht hq) λ_=>Tr.bind My λ_=>Tr.pure λ_ h=>h
def wE(t:gF)(ht:TA t)(hq:lZ t.name=false):Fp (iL t):=λp X=>Tr.bind (Ey ht hq) λj=>Tr.bind (P6 (N1 ..)) λ_=>Tr.pure λ_ h=>h.tail
def JQ(t:gF)(ht:TA t)(hq:q0 t.name=false):Fz (iL t):=λp X σ h=>(Ax ht hq σ ⟨h,rfl,rfl⟩).mono λ_ _ g=>g.1
def OM(name:O)(c:name≠uG)(hq:lZ name=false):Fp (j8 name):=λp X=>Tr.bind (aiW c hq) λj=>Tr.bind (P6 (N1 ..)) λ_=>Tr.pure λ_ h=>h.tail
def ON(name:O)(c:name≠uG)(hq:q0 name=false):Fz (j8 name):=λp X σ h=>Tr.bind (aiY c hq) (λj=>Tr.bind My λ_=>Tr.pure λ_ h=>h.1) σ ⟨h,rfl,rfl⟩
theorem Fz.pop{α g:Type}{m:M α}{b:jj->M g}(h:Fz m)(e:∀x,Fp (b x)):Fp (m>>=λ_=>wV>>=b):=λp X=>Tr.bind (h p X) λ_=>Tr.bind (R:=λ_=>FI p X) (λσ c=>c) λx=>e x p X
theorem Fz.bind{α e:Type}{m:M α}{f:α->M e}(h:Fp m)(c:∀a,Fz (f a)):Fz (m>>=f):=λp X=>Tr.bind (h p X) λa=>c a p X
theorem Fz.ret{α c:Type}{m:M α}{b:c}(h:Fz m):Fz (m>>=λ_=>(Pure.pure b:M c)):=λp X=>Tr.bind (h p X) λ_=>Tr.pure λ_ h=>h
theorem xz(t:gF)(ht:TA t)(hq:q0 t.name=false):Fp (kN t):=Fz.pop (JQ t ht hq) λ_=>Fp.pure _
theorem uX(t:gF)(ht:0<t.chars.size):Fp (jK t):=λp X=>Tr.bind zM λpl=>Tr.bind (λσ ⟨h,c,_,e⟩=>Zq ht h c e) λ_=>Tr.pure λ_ h=>h
theorem FI.erase{p:Pm}(h:FI p X σ)(g:some i∈σ.gq->BG σ i):FI p X {σ with gq:=σ.gq.erase (some i)}:=by
 by_cases c:some i∈σ.gq;have⟨A,B,hA,e1,e2⟩:=List.exists_erase_eq c;have⟨_,e,g1,g2⟩:=g c;have u:σ.ns=A.map σ.mu++e.name::B.map σ.mu:=by unfold N.ns;rw[e1,rZ,<-N.vi g1];rfl
 grind[gq,Py,ch,q,nd];rw[List.erase_of_not_mem c];exact h
def MR{p:Pm}(c:i∈X):Tr (FI p X) (jR (some i)) (λ_=>FI p X):=λσ h=>by
 unfold jR;split;exact h.erase λ_=>h.xs i c;trivial
theorem FI.prefix{p:Pm}(h:FI p X σ){A:kY}(e:σ.gq=A++B)(g:∀x∈B,lZ (σ.mu x)=false):FI p X {σ with gq:=A}:=by
 have c:σ.ns=A.map σ.mu++B.map σ.mu:=by unfold N.ns;rw[e,rZ]
 refine h.gq ?_ ?_ (λx u=> .inl (by grind)) (List.nodup_append.1 (e▸h.nd)).1
 all_goals grind[ch,uP,q,aau]
theorem xF{p b:O->Bool}:∀{l:kY},N.wW σ p b l=true->∃A x C,l=A++x::C/\p (σ.mu x)=true/\(∀a∈A,b (σ.mu a)=false)/\N.yW σ p l=C
 |[],h=>by cases h
 |x::r,h=>by
  unfold N.wW at h;by_cases c:p (σ.mu x)=true;exact⟨[],x,r,rfl,c,by grind,by grind[N.yW]⟩;rw[Xx c]at h;by_cases e:b (σ.mu x)=true;grind;rw[Xx e]at h;have⟨A,y,C,h1,h2,h3,h4⟩:=xF h;grind[N.yW]
theorem FI.close{p:Pm}(h:FI p X σ){b:O->Bool}(hq:∀s,q s=true->lZ s=false)(D:b fQ=true)(hs:σ.inScope q b=true):FI p X (σ.CG q):=by
 have⟨A,x,C,h1,h2,h3,h4⟩:=xF hs;have e:σ.gq=C.reverse++x::A.reverse:=by grind
 have g:=h.ch;unfold N.ns at g;rw[e,rZ,uP]at g;have z:=Ic g.2.2 (hq _ h2) (λc u=>by
  grind)
 unfold N.CG;rw[h4];refine h.prefix e (λy E=>?_);grind
def LQ{b:O->Bool}(hq:∀s,q s=true->lZ s=false)(c:b fQ=true):Fp (lK q b):=λp X σ h=>by
 unfold lK;split;exact h.close hq c ‹_›;exact h
theorem Jz{σ:N}{q:O->Bool}:∀l:kY,∃A,l=A++N.oE σ q l/\∀a∈A,q (σ.mu a)=true
 |[]=>⟨[],rfl,by grind⟩
 |x::r=>by
  unfold N.oE;by_cases hq:q (σ.mu x)=true;have⟨A,h1,h2⟩:=Jz (σ:=σ) (q:=q) r;grind;simp_all
theorem FI.anh{p:Pm}(h:FI p X σ)(hq:∀s,q s=true->lZ s=false):FI p X {σ with gq:=(N.oE σ q σ.gq.reverse).reverse}:=by
 have⟨A,h1,h2⟩:=Jz (σ:=σ) (q:=q) σ.gq.reverse;have e:=by
  have:=DZ List.reverse h1
  rwa [List.reverse_reverse,kU]at this
 exact h.prefix e λx c=>hq _ (h2 x (List.mem_reverse.1 c))
theorem YY(h:σ.last=some i):σ.gq=σ.gq.dropLast++[some i]:=by
 grind[F7,List.dropLast_concat_getLast,ub,N.last]
theorem FI.ade{p:Pm}(h:FI p X σ)(c:σ.last=some i)(e:lZ (σ.nm i)=false):FI p X σ.pop:=h.prefix (YY c) λx g=>by grind[N.mu]
theorem agw(hq:∀s,q s=true->lZ s=false):Fp (pM q):=λp X σ h=>by
 show FI p X _;grind[FI.ade,N.GH,N.current]
def FI.abP{p:Pm}(h:FI p X σ){a:kY}(c:∀i,some i∈a->some i∈σ.act\/BG σ i):FI p X {σ with act:=a}:=
 h.lists rfl rfl rfl h.ch h.q h.op h.nd (λi e=>(c i e).elim (h.act i) id) h.form h.head h.wt h.mo
theorem zz(x:jj):Fp (kM x):=λp X σ h=>by
 unfold kM;split;exact h.abP λi c=> .inl (acA _ c);trivial
def aep(x:jj):Fp (Af x):=λp X σ h=>by
 unfold Af;split;exact h.abP λi c=> .inl (IM c);trivial
def Xh:Fp zo:=Fp.bind (aep _) λ_=>Fp.pure _
theorem aac{p:Pm}(h:FI p X σ)(x:jj)(g:BG σ j):kh (λ_=>FI p X) (pY x (some j) σ):=by
 unfold pY;split;exact h.abP λi c=>(GQ c).imp id λe=>by grind
 trivial
theorem Q9{p:Pm}(x:jj)(g:j∈X):Tr (FI p X) (od x (some j)) (λ_=>FI p X):=λσ h=>by
 unfold od;split;exact h.abP λi c=>(zk c).imp id λe=>by grind[FI.xs]
 trivial
theorem Lw{p:Pm}(e:j∈X):Tr (FI p X) (km (some j)) (λ_=>FI p X):=λσ h=>by
 unfold km;split;trivial;split;exact h.abP λi c=>by
  grind[FI.xs]
 trivial
theorem Hu:Fp (km none):=λp X σ h=>by
 unfold km;split;trivial;split;exact h.abP λi c=>by
  grind
 trivial
def ahV{p:Pm}(n:Nat):Tr (FI p X) (DG n) (λi=>FI p (i::X)):=λσ h=>by
 unfold DG;split;rename_i i c;exact h.cons (h.act i (nY c));trivial
def Lp(p:Pm)(X:List Nat)(σ:N):Prop:=FI p X σ/\∃i,σ.last=some i/\BG σ i
def Vo(σ:N)(j:Nat):({σ with gq:=σ.gq++[some j]}:N).last=some j:=ub _ _
def ajp{p:Pm}(e:j∈X):Tr (λσ=>FI p X σ/\σ.gq≠[]/\some j∉σ.gq) (oH (some j)) (λ_=>Lp p X):=λσ ⟨h,g,u⟩=>by
 unfold oH;split;trivial;split;have c:=h.agG (h.xs j e) g u;exact⟨c,j,Vo σ j,c.xs j e⟩;trivial
def P9{p:Pm}(c:j∈X):Tr (λσ=>FI p X σ/\some j∉σ.gq) (jT j) (λ_=>Lp p X):=P7 c (ajp c)
def Cb(t:gF)(ht:TA t)(hq:lZ t.name=false){p:Pm}:Tr (FI p X) (iL t) (λ_=>Lp p X):=Tr.bind (Ey ht hq) λj=>Tr.bind (P9 (N1 ..)) λ_=>Tr.pure λ_ h=>⟨h.1.tail,h.2⟩
theorem agO:∀k n,Fp (KE k n)
 |0,_=>Fp.pure _
 |k+1,n=>λp X=>Tr.bind (ahV n) λi=>Tr.bind (Ea (N1 ..)) λj=>Tr.bind (P9 (N1 ..)) λ_=>Tr.bind (λσ ⟨h,l,c,e⟩=>by
   show kh _ (pY _ _ σ);grind[kh.mono,aac,FI.tail]) λ_=>agO k _ p X
theorem rn:Fp mx:=λp X σ h=>agO _ _ p X σ h
def vn(t:gF)(ht:TA t)(hq:lZ t.name=false):Fp (mi t):=Fp.bind rn λ_=>Fp.bind (wE t ht hq) λ_=>Fp.pure _
def WO(t:gF)(ht:TA t)(hq:q0 t.name=false):Fp (sK t):=Fp.bind rn λ_=>Fp.bind (xz t ht hq) λ_=>Fp.pure _
def alc{p:Pm}(i:Nat):Tr (FI p (i::X)) (Lx i) (λ_=>FI p X):=by
 intro σ h;unfold Lx;dsimp only;split;exact Tr.bind (S:=λ_=>FI p X) (zz _ p _) (λ_=>Tr.bind (Lw (N1 ..)) λ_=>Tr.pure λ_ h=>h.tail) σ h;exact Tr.bind (S:=λ_=>FI p X) (Lw (N1 ..)) (λ_=>Tr.pure λ_ h=>h.tail) σ h
theorem pB(t:gF)(ht:TA t)(hq:lZ t.name=false):Fp (jb t):=λp X=>
 Tr.bind (R:=λ_=>Lp p X) (Tr.bind (rn p X) λ_=>Tr.bind (Cb t ht hq) λ_=>Tr.pure λ_ h=>h) λ_=>Tr.bind (λσ ⟨h,i,c,e⟩=>by
  unfold JV;rw[c];exact h.cons e) λi=>Tr.bind (alc i) λ_=>Tr.pure λ_ h=>h
theorem rH.add{gG:lu}{a:O×O}(h:rH gG)(e:xx gG a.1=false)(p:0<a.1.size):rH (gG++[a]):=by
 refine⟨?_,λb c=>?_⟩;rw[rZ,List.nodup_append];refine⟨h.1,by simp,λx u y z=>?_⟩;unfold xx at e;grind[sA];rcases List.mem_append.1 c with g|g;exact h.2 b g;grind
theorem aaw(i:Nat):∀L:lu,(∀a∈L,0<a.1.size)->Fp (p6 i L)
 |[],_=>Fp.pure _
 |a::r,hL=>λp X σ h=>by
  have g:=aaw i r (λb u=>hL b (abv _ u)) p X;unfold p6;split;trivial;rename_i e c;split;exact g σ h;split;trivial;refine g _ (h.nodes (h.ti.set c rfl (h.ti.Fq i e c) (h.ti.hb i e c) ((h.ti.gG i e c).1.add (by grind) (hL a (N1 ..)))) (Nx.set c rfl) rfl rfl rfl rfl rfl rfl rfl rfl)
theorem K8(i:Nat)(t:gF)(ht:TA t):Fp (uW i t):=λp X σ h=>by
 unfold uW;split;exact aaw i _ ht.gG.2 p X σ h;trivial
theorem Ml(t:gF)(ht:TA t):Fp (nN t):=λp X σ h=>by
 unfold nN;split;grind[Fp.at,Fp.bind,K8,Fp.pure];trivial
theorem YE(t:gF)(ht:TA t):Fp (p5 t):=λp X σ h=>by
 unfold p5
 (repeat' split)<;>first|exact h|trivial|grind[Fp.at,Fp.bind,K8,Fp.pure]
theorem PZ{σ:N}:∀{ks:List Nd} {n:Nat} {k:Nd},ks[n]?=some k->lV σ k=none->wO σ (ks.eraseIdx n)=wO σ ks
 |[],_,_,h,_=>by rfl
 |a::ks,0,k,h,hk=>by
  grind[wO]
 |a::ks,n+1,k,h,hk=>by
  have c:=PZ (ks:=ks) (n:=n) (by grind) hk;grind[wO]
def agz{ks:List Nd}(h:0<=pa ks (Nd.gZ i)):ks[(pa ks (Nd.gZ i)).toNat]?=some (.el i):=by
 unfold pa at h|-;split at h;rename_i e;rw[sL e];have c:=List.findIdx_getElem (w:=e);rw[Int.toNat_natCast,yG e];revert c;generalize ks[ks.findIdx _]=k;intro c;cases k with
 |el j=>
   have:=by simpa [Nd.gZ]using c
   rw[this]
 |_=>cases c
 omega
def QN{p:Pm}(A:j∈X):Tr (FI p X) (lX j) (λ_=>FI p X):=λσ h=>by
 unfold lX;have⟨_,ej,h1,g2⟩:=h.xs j A;rw[h1];dsimp only;cases hp:ej.ji with
 |none=>exact h
 |some q=>
  dsimp only;cases c:σ.gU q with
  |none=>trivial
  |some ep=>
   dsimp only;split;rename_i z;have u:=h.ti.set (e:={ep with kids:=ep.kids.eraseIdx (pa ep.kids (Nd.gZ j)).toNat}) c rfl (λk C=>h.ti.Fq _ _ c k (List.mem_of_mem_eraseIdx C)) (by rw[PZ (agz z.2.1) (Dh h1 (anB g2))];exact h.ti.hb _ _ c) (h.ti.gG _ _ c).1;have g:(σ.gW q {ep with kids:=ep.kids.eraseIdx (pa ep.kids (Nd.gZ j)).toNat}).gU j=some ej:=by rw[N.iK z.1];exact h1
   exact h.nodes (u.set g rfl (u.Fq j ej g) (u.hb j ej g) (h.ti.gG _ _ h1).1) (Nx.trans (b:=σ.gW q {ep with kids:=ep.kids.eraseIdx (pa ep.kids (Nd.gZ j)).toNat}) (Nx.set c rfl) (Nx.set g rfl)) rfl rfl rfl rfl rfl rfl rfl rfl;trivial
theorem BG.nm(h:BG σ i):lZ (σ.nm i)=false:=by
 have⟨_,e,g1,g2⟩:=h;grind[N.nm]
def KK(σ:N):Nd->Prop
 | .el j=>∃e,σ.gU j=some e/\(q0 e.name=false\/e.name=fQ)
 | .dt _=>False
 |_=>True
theorem KK.nx(n:Nx σ σ'){k:Nd}(h:KK σ k):KK σ' k:=by
 cases k with
 |el j=>
  have⟨e,h1,h2⟩:=h;have⟨e',h3,h4⟩:=n j e h1;grind[KK]
 |_=>exact h
theorem akI:Fs fQ=false:=by decide+kernel
theorem agH{p:Pm}{k:Nd}(h:FI p X σ)(F:pl.1≠0)(D:kJ (σ.nm pl.1)=false)(C:KK σ k):kh (λ_ σ'=>FI p X σ'/\Nx σ σ') (Bz pl k σ):=by
 have E:∀k:Nd,lV σ k=none->dJ σ pl.1 (σ.nm pl.1) k->(∀j,k≠ .el j)->kh (λ_ σ'=>FI p X σ'/\Nx σ σ') (vk pl k σ):=by
  intro k e1 e2 I;unfold vk;split;rename_i u c;split;have n:Nx σ (σ.gW pl.1 {u with kids:=ins u.kids pl.2 k}):=Nx.set c rfl;refine⟨h.nodes (h.ti.set c rfl (λx z=>?_) (by rw[Ga e1];exact h.ti.hb _ _ c) (h.ti.gG _ _ c).1) n rfl rfl rfl rfl rfl rfl rfl rfl,n⟩;rcases Dm.1 z with rfl|z;grind[N.vi];exact h.ti.Fq _ _ c x z;trivial;trivial
 cases k with
 |el j=>
  have⟨e,g1,g2⟩:=C;show kh _ (kD pl j σ);unfold kD;split;rename_i u K c g;split;rename_i A;rw[g]at g1;cases g1;have n:=Cq (n:=pl.2) c g A.1;exact⟨h.nodes (h.ti.put c g A.1 (by grind[Zd,Dp,N.vi]) (by rw[Ga (Dh g (g2.elim aaS λe=>by grind[akI]))];exact h.ti.hb _ _ c) (λ_ _=>rfl)) n rfl rfl rfl rfl rfl rfl rfl rfl,n⟩;trivial;trivial
 |tx j=>exact E _ rfl ⟨F,D⟩ (λ_ h=>by cases h)
 |cm j=>exact E _ rfl (λ_=>D) (λ_ h=>by cases h)
 |dt j=>exact C.elim
theorem aay{p:Pm}(e:d∈X):∀(ks:List Nd)(σ:N),FI p X σ->(∀k∈ks,KK σ k)->kh (λ_=>FI p X) (wD d ks σ)
 |[],σ,h,_=>h
 |k::r,σ,h,hk=>by
  unfold wD;rw[M.gw];cases he:jg d σ with
  |ok pl σ1=>
   obtain rfl:=ny he;have g:pl.1=d:=by
    unfold jg at he;split at he;grind;cases he
   dsimp only;rw[M.gw];have c:=agH h (by rw[g];exact(h.xs d e).1) (by grind[Y5,BG.nm,FI.xs]) (hk k (N1 ..));cases hp:Bz pl k σ1 with
   |ok u σ2=>
    rw[hp]at c;exact aay e r σ2 c.1 λx z=>(hk x (abv _ z)).nx c.2
   |_=>trivial
  |_=>trivial
theorem acP{p:Pm}(h:FI p X σ){e:wN}(g:b≠0)(z:σ.gU b=some e)(hq:lZ e.name=false):(∀k∈e.kids,KK σ k)/\p.H b=[]:=by
 have u:∀k∈e.kids,KK σ k:=λk c=>by
  have:=h.ti.Fq b e z k c;cases k with
  |el j=>
   have⟨ej,g1,g2⟩:=this;rw[Xx g]at g2;exact⟨ej,g1,MV hq g2.1⟩
  |dt j=>exact g this
  |_=>trivial
 refine⟨u,?_⟩;rw[<-h.ti.hb b e z];unfold wO;rw[List.filterMap_eq_nil_iff];intro k c;have:=u k c;cases k with
 |el j=>
  have⟨ej,g1,g2⟩:=this;grind[Dh,aaS,akI]
 |_=>rfl
theorem YL{p:Pm}(u:b∈X)(A:d∈X):Tr (FI p X) (handOver b d) (λ_=>FI p X):=λσ h=>by
 have⟨h0,e,g1,g2⟩:=h.xs b u;have⟨k1,k2⟩:=acP h h0 g1 g2;unfold handOver;rw[g1];dsimp only;split;trivial;refine Tr.bind (R:=λ_=>FI p X) (λs D=>by grind[aay]) (λ_ σ' c=>?_) σ rfl;split;rename_i z g;exact c.nodes (c.ti.set g rfl (λ_ C=>by grind) k2.symm (c.ti.gG _ _ g).1) (Nx.set g rfl) rfl rfl rfl rfl rfl rfl rfl rfl;trivial
def AF(f n:Nat)(σ:N):Prop:=∃A B,σ.gq=A++some f::B/\A.length<n/\∀x∈B,∃i,x=some i/\BG σ i
def aeP{l1 g:List O}{p:Option O}{e e':O}(h:KZ p (l1++e::g))(u:lZ e=false)(c:lZ e'=false):KZ p (l1++e'::g):=by
 rw[uP]at h|-;refine⟨h.1,VL h.2.1 u (.inl c),?_⟩;cases g with
 |nil=>trivial
 |cons b l3=>exact⟨⟨Ze (zL u h.2.2.1.1 h.2.2.1.2) e',h.2.2.1.2⟩,h.2.2.2⟩
theorem amR(h:∀x∈B,∃i,x=some i/\BG σ i):∀x∈B,lZ (σ.mu x)=false:=λx c=>by
 obtain⟨i,rfl,_,e,g,p⟩:=h x c;show lZ (σ.nm i)=false;grind[N.nm]
theorem Zx{l:kY}(h:x∈l):∃A B,l=A++x::B/\ox l x y=A++y::B:=by
 refine⟨l.take (l.idxOf x),l.drop (l.idxOf x+1),?_,?_⟩;grind[List.take_append_drop,List.drop_eq_getElem_cons];grind[List.set_eq_take_append_cons_drop,ox]
theorem Ry{l:kY}(h:x∈l):∃A B,l=A++x::B/\iY l x y=A++x::y::B:=by
 refine⟨l.take (l.idxOf x),l.drop (l.idxOf x+1),?_,?_⟩;grind[List.take_append_drop,List.drop_eq_getElem_cons];grind[List.take_add_one,iY]
theorem FI.ox{p:Pm}(h:FI p X σ){e:Nat}(z:BG σ e)(c:BG σ j)(E:some j∉σ.gq):FI p X {σ with gq:=ox σ.gq (some e) (some j)}:=by
 by_cases C:some e∈σ.gq;have⟨A,B,e1,e2⟩:=Zx (y:=some j) C;have D:σ.ns=A.map σ.mu++σ.nm e::B.map σ.mu:=by unfold N.ns;rw[e1,rZ,wM];rfl
 have F:=h.nd;rw[e1]at F E;rw[e2];refine h.gq ?_ ?_ (λx u=>?_) ?_;rw[rZ,wM];exact aeP (by grind[ch]) z.nm c.nm;rw[rZ,wM,<-h.q,D,List.filter_append,List.filter_append,List.filter_cons,List.filter_cons,z.nm,show lZ (σ.mu (some j))=false from c.nm];simp;rcases List.mem_append.1 u with g|g;grind;rcases List.mem_cons.1 g with rfl|g;have⟨h0,e',g1,_⟩:=c;grind;grind;grind;have e1:Go.Proofs.YtdbbknopdbpfaaaGreatDoor.ox σ.gq (some e) (some j)=σ.gq:=by unfold Go.Proofs.YtdbbknopdbpfaaaGreatDoor.ox;rw[Xx C]
 simp_all
theorem Sz{p:Pm}(D:b∈X)(c:j∈X):Tr (λσ=>FI p X σ/\some j∉σ.gq) (pK (some b) (some j)) (λ_=>FI p X):=λσ ⟨h,E⟩=>by
 unfold pK;split;have e:=h.xs b D;have c:=h.xs j c;by_cases z:some b∈σ.gq;have⟨A,B,e1,e2⟩:=Ry (y:=some j) z;have C:σ.ns=A.map σ.mu++σ.nm b::B.map σ.mu:=by unfold N.ns;rw[e1,rZ,wM];rfl
 have F:=h.nd;rw[e1]at F E;rw[e2];refine h.gq ?_ ?_ (λx u=>?_) ?_;rw[rZ,wM,wM];exact X3 (b:=σ.nm b) (by grind[FI.ch]) e.nm c.nm;rw[rZ,wM,wM,<-h.q,C,List.filter_append,List.filter_append,List.filter_cons,List.filter_cons,List.filter_cons,e.nm,show lZ (σ.mu (some b))=false from e.nm,show lZ (σ.mu (some j))=false from c.nm];rfl;rcases List.mem_append.1 u with g|g;grind;rcases List.mem_cons.1 g with rfl|g;grind;rcases List.mem_cons.1 g with rfl|g;have⟨h0,e',g1,_⟩:=c;grind;grind;grind;have e1:iY σ.gq (some b) (some j)=σ.gq:=by unfold iY;rw[Xx z]
 rw[e1];exact h;trivial
theorem AF.nx{f:Nat}(h:AF f n σ)(x:Nx σ σ')(e:σ'.gq=σ.gq):AF f n σ':=by
 have⟨A,B,h1,h2,h3⟩:=h;exact⟨A,B,by grind,h2,λy c=>by grind[BG.nx]⟩
theorem AF.erase{f e:Nat}(h:AF f n σ)(c:e≠f):AF f n {σ with gq:=σ.gq.erase (some e)}:=by
 have p:∀{i},BG σ i->BG {σ with gq:=σ.gq.erase (some e)} i:=λg=>g;grind[AF]
theorem agR{A:kY}{f:jj}(p:x≠f):∃c e,ox (A++f::B) x y=c++f::e/\c.length=A.length/\∀z∈e,z∈B\/z=y:=by
 unfold ox;by_cases h:x∈A++f::B;rw[sL h];by_cases g:x∈A;grind;refine⟨A,B.set (B.idxOf x) y,?_,rfl,λz u=>?_⟩;rw[List.idxOf_append,Xx g,show(f::B).idxOf x=B.idxOf x+1 by grind,List.set_append_right _ _ (by omega),show B.idxOf x+1+A.length-A.length=B.idxOf x+1 by omega];rfl;grind;grind
theorem AF.ox{f e:Nat}(h:AF f n σ)(c:e≠f)(p:BG σ j):AF f n {σ with gq:=ox σ.gq (some e) (some j)}:=by
 have⟨A,B,h1,h2,h3⟩:=h;have⟨A',B',g1,g2,g3⟩:=agR (A:=A) (B:=B) (y:=some j) (λg=>c (Ki g));refine⟨A',B',by grind,by omega,λy u=>?_⟩;rcases g3 y u with g|rfl;have⟨i,k1,k2⟩:=h3 y g;exact⟨i,k1,k2⟩;exact⟨j,rfl,p⟩
def Ra(p:Pm)(X:List Nat)(f n:Nat)(σ:N):Prop:=FI p X σ/\AF f n σ
theorem AF.e{f:Nat}(h:AF f (n+1) σ){e:Nat}(c:iC σ.gq (n:Int)=some e):e=f\/(BG σ e/\AF f n σ):=by
 have⟨A,B,h1,h2,h3⟩:=h;rw[ri,aby,h1]at c;by_cases p:n=A.length;grind;right;rw[Fj (by omega)]at c;obtain⟨m,g⟩:∃m,n-A.length=m+1:=⟨n-A.length-1,by omega⟩;rw[g,List.getElem?_cons_succ]at c;cases hb:B[m]? with
 |none=>grind
 |some y=>
  rw[hb]at c;have⟨i,g1,g2⟩:=h3 y (ahs hb);grind[AF]
def Tr.IA{α:Type}{p:Pm}{d8:List Nat}{m:M α}{f:Nat}(h:Tr (FI p X) m (λ_=>FI p d8))(u:∀σ a σ',m σ=.ok a σ'->Nx σ σ'/\σ'.gq=σ.gq):Tr (Ra p X f n) m (λ_=>Ra p d8 f n):=λσ ⟨e,g⟩=>by
 have c:=h σ e;cases hm:m σ with
 |ok a σ'=>
  rw[hm]at c;have⟨g1,g2⟩:=u σ a σ' hm;exact⟨c,g.nx g1 g2⟩
 |_=>trivial
theorem TZ(h:kM x σ=.ok a σ'):Nx σ σ'/\σ'.gq=σ.gq:=by
 grind[Nx.same,kM]
theorem ahS(h:pY x y σ=.ok a σ'):Nx σ σ'/\σ'.gq=σ.gq:=by
 grind[Nx.same,pY]
theorem XP(h:kq i σ=.ok j σ'):Nx σ σ'/\σ'.gq=σ.gq:=by
 unfold kq at h;split at h;split at h;cases h;cases h;exact⟨Nx.add,rfl⟩;grind
theorem adM(h:lX j σ=.ok a σ'):Nx σ σ'/\σ'.gq=σ.gq:=by
 unfold lX at h;cases h1:σ.gU j with
 |none=>grind
 |some ej=>
  rw[h1]at h;dsimp only at h;cases hp:ej.ji with
  |none=>grind[Nx]
  |some q=>
   rw[hp]at h;dsimp only at h;cases c:σ.gU q with
   |none=>grind
   |some ep=>
    rw[c]at h;dsimp only at h;split at h;rename_i e;cases h;exact⟨Nx.trans (b:=σ.gW q {ep with kids:=ep.kids.eraseIdx (pa ep.kids (Nd.gZ j)).toNat}) (Nx.set c rfl) (Nx.set (e0:=ej) (by grind[N.iK]) rfl),rfl⟩;grind
theorem SJ(h:kD pl j σ=.ok a σ'):Nx σ σ'/\σ'.gq=σ.gq:=by
 unfold kD at h;split at h;rename_i p u c e;split at h;rename_i g;cases h;exact⟨Cq c e g.1,rfl⟩;grind;grind
theorem IW{p:Pm}{f il:Nat}:∀(n c last C:Nat)(X:List Nat),last∈X->Tr (λσ=>FI p X σ/\(n=0\/AF f n σ)) (mN f il n c last C) (λr σ=>FI p (r.1::X) σ)
 |0,c,last,C,X,hl=>Tr.pure λσ h=>h.1.cons (h.1.xs _ hl)
 |n+1,c,last,C,X,hl=>by
  unfold mN;refine Tr.bind (R:=λe σ=>(e=f/\FI p X σ)\/(e≠f/\FI p (e::X) σ/\AF f n σ)) (λσ ⟨h,A⟩=>?_) λe=>?_;have A:=A.resolve_left (by omega);unfold GG;split;rename_i e K;by_cases z:e=f;exact .inl ⟨z,h⟩;have⟨g1,g2⟩:=(A.e K).resolve_left z;exact .inr ⟨z,h.cons g1,g2⟩;trivial;by_cases z:e=f;grind[Tr.pure,FI.cons,FI.xs];rw[Xx z];refine Tr.bind (R:=λ_=>Ra p (e::X) f n) (Tr.cons (P:=Ra p (e::X) f n) (Tr.ite (λ_=>Tr.IA (zz _ p (e::X)) λ_ _ _ h=>TZ h) λ_=>Tr.pure λ_ h=>h) (λσ h=>?_) λ_ _ h=>h) λ_ σ h=>?_;grind[Ra];by_cases F:some e∉σ.act;rw[sL F];have E:Tr (Ra p (e::X) f n) (jR (some e)) (λ_=>Ra p (e::X) f n):=λσ ⟨h,A⟩=>by
   unfold jR;split;exact⟨h.erase λ_=>h.xs e (N1 ..),A.erase z⟩;trivial
  exact Tr.bind E (λ_=>Tr.cons (IW n _ _ _ (e::X) (abv _ hl)) (λ_ h=>⟨h.1,.inr h.2⟩) λr _ h=>h.sub λi T=>by
   grind) σ h
  rw[Xx F];have E:Tr (Ra p (e::X) f n) (kq e) (λg σ=>Ra p (g::e::X) f n σ/\some g∉σ.gq):=λσ ⟨h,A⟩=>by
   have D:=Ea (p:=p) (X:=e::X) (i:=e) (N1 ..) σ h;cases hm2:kq e σ with
   |ok j σ'=>
    rw[hm2]at D;have⟨g1,g2⟩:=XP hm2;exact⟨⟨D.1,A.nx g1 g2⟩,D.2⟩
   |_=>trivial
  have s2:∀g,Tr (λσ=>Ra p (g::e::X) f n σ/\some g∉σ.gq) (yR (some e) (some g)) (λ_=>Ra p (g::e::X) f n):=λg σ ⟨⟨h,A⟩,hx⟩=>by
   unfold yR;split;exact⟨h.ox (h.xs e (by simp)) (h.xs g (by simp)) hx,A.ox z (h.xs g (by simp))⟩;trivial
  have s3:∀g,Tr (Ra p (g::e::X) f n) (jg g) (λpl σ=>Ra p (g::e::X) f n σ/\pl.1≠0/\kJ (σ.nm pl.1)=false):=λg σ ⟨h,A⟩=>by
   unfold jg;split;exact⟨⟨h,A⟩,(h.xs g (N1 ..)).1,Y5 (h.xs g (N1 ..)).nm⟩;trivial
  have s4:∀g (pl:Nat×Nat),Tr (λσ=>Ra p (g::e::X) f n σ/\pl.1≠0/\kJ (σ.nm pl.1)=false) (kD pl last) (λ_=>Ra p (g::e::X) f n):=λg pl σ ⟨⟨h,A⟩,I,hv⟩=>by
   have D:=Dq (j:=last) (h.f0 (abv _ (abv _ hl))) h I hv;cases hm2:kD pl last σ with
   |ok u σ'=>
    rw[hm2]at D;have⟨g1,g2⟩:=SJ hm2;exact⟨D.1,A.nx g1 g2⟩
   |_=>trivial
  exact Tr.bind E (λg=>Tr.bind (s2 g) λ_=>Tr.bind (Tr.IA (d8:=g::e::X) (λσ h=>aac h _ (h.xs g (N1 ..))) λ_ _ _ h=>ahS h) λ_=>Tr.bind (Tr.IA (QN (abv _ (abv _ hl))) λ_ _ _ h=>adM h) λ_=>Tr.bind (s3 g) λpl=>Tr.bind (s4 g pl) λ_=>Tr.cons (IW n _ _ _ (g::e::X) (N1 ..)) (λ_ h=>⟨h.1,.inr h.2⟩) λr _ h=>h.sub λi T=>by
   grind) σ h
def Nl(p:Pm)(X:List Nat)(j:Nat)(σ:N):Prop:=FI p X σ/\some j∉σ.gq
theorem Tr.aaL{α:Type}{p:Pm}{m:M α}(h:Tr (FI p X) m (λ_=>FI p X))(u:∀σ a σ',m σ=.ok a σ'->∀x∈σ'.gq,x∈σ.gq):Tr (Nl p X j) m (λ_=>Nl p X j):=λσ ⟨c,e⟩=>by
 have g:=h σ c;cases hm:m σ with
 |ok a σ'=>
  grind[kh,Nl]
 |_=>trivial
theorem amp{k:Nd}(h:Bz pl k σ=.ok a σ'):σ'.gq=σ.gq:=by
 have c:∀k,vk pl k σ=.ok a σ'->σ'.gq=σ.gq:=λk h=>by
  unfold vk at h;split at h;split at h;cases h;rfl;grind;grind
 cases k with
 |el j=>exact(SJ h).2
 |_=>exact c _ h
theorem aaA:∀(ks:List Nd){σ σ':N} {a:Unit},wD d ks σ=.ok a σ'->σ'.gq=σ.gq
 |[],σ,σ',a,h=>by cases h;rfl
 |k::r,σ,σ',a,h=>by
  unfold wD at h;rw[M.gw]at h;cases he:jg d σ with
  |ok pl σ1=>
   rw[he]at h;obtain rfl:=ny he;dsimp at h;rw[M.gw]at h;cases hp:Bz pl k σ1 with
   |ok u σ2=>
    rw[hp]at h;rw[aaA r h,amp hp]
   |_=>grind
  |_=>grind
theorem YN(h:handOver b d σ=.ok a σ'):σ'.gq=σ.gq:=by
 unfold handOver at h;split at h;cases h;rename_i e _;split at h;cases h;have c:∀(m:M Unit)(f:Unit->M Unit),(m>>=f) σ=.ok a σ'->∃u s,m σ=.ok u s/\f u s=.ok a σ':=λm f h=>by
  grind[M.gw]
 have⟨u,s,h1,h2⟩:=c _ _ h;split at h2;cases h2;show s.gq=σ.gq;grind[aaA];grind
theorem ac1{p:Pm}{f il:Nat}(F:f∈X)(E:il∈X):Tr (λσ=>FI p X σ/\AF f (posOf σ.gq (some il)).toNat σ) (vf f il) (λ_=>FI p X):=by
 refine Tr.bind (λσ h=>IW _ _ _ _ X E σ ⟨h.1,.inr h.2⟩) λ(last,mark)=>?_;dsimp only;have D:∀{i},i∈X->i∈last::X:=λh=>abv _ h;refine Tr.bind (QN (N1 ..)) λ_=>Tr.bind (R:=λa σ=>FI p (last::X) σ/\a≠0/\σ.gq≠[]/\kJ (σ.nm a)=false) (λσ h=>?_) λa=>Tr.bind (λσ ⟨h,e,I,u⟩=>M5 h e I u) λpl=>Tr.bind (λσ ⟨h,e,_,u⟩=>(Dq (h.f0 (N1 ..)) h e u).mono λ_ _ g=>g.1) λ_=>Tr.bind (Ea (D F)) λc=>?_;unfold ahead;split;rename_i i C;exact⟨h,(h.o0 (nY C)).1,F7 C,h.ov (nY C)⟩;trivial;have A:il∈c::last::X:=abv _ (D E);have K:Tr (Nl p (c::last::X) c) (jg il) (λpl σ=>Nl p (c::last::X) c σ/\pl.1≠0/\kJ (σ.nm pl.1)=false):=λσ h=>by
  unfold jg;split;exact⟨h,(h.1.xs il A).1,Y5 (h.1.xs il A).nm⟩;trivial
 have P:∀pl:Nat×Nat,Tr (λσ=>Nl p (c::last::X) c σ/\pl.1≠0/\kJ (σ.nm pl.1)=false) (kD pl c) (λ_=>Nl p (c::last::X) c):=λpl σ ⟨⟨h,z⟩,e,u⟩=>(Dq (h.f0 (N1 ..)) h e u).mono λ_ σ' g=>⟨g.1,by grind⟩;have T:Tr (Nl p (c::last::X) c) (jR (some f)) (λ_=>Nl p (c::last::X) c):=Tr.aaL (MR (abv _ (D F))) λσ a σ' h x z=>by
  grind[jR]
 have s4:Tr (Nl p (c::last::X) c) (od (some mark) (some c)) (λ_=>Nl p (c::last::X) c):=Tr.aaL (Q9 _ (N1 ..)) λσ a σ' h x z=>by
  grind[od]
 exact Tr.bind (Tr.aaL (YL A (N1 ..)) λσ a σ' h x z=>by grind[YN]) λ_=>Tr.bind K λpl=>Tr.bind (P pl) λ_=>Tr.bind s4 λ_=>Tr.bind (Tr.aaL (zz _ p _) λσ a σ' h x z=>by rwa [(TZ h).2]at z) λ_=>Tr.bind T λ_=>Tr.bind (Sz A (N1 ..)) λ_=>Tr.pure λ_ h=>h.tail.tail
theorem Ce{f:Nat}:∀{l:kY},N.oo σ f l=true->∃A C,l=A++some f::C/\some f∉A/\∀a∈A,iI (σ.mu a)=false
 |[],h=>by cases h
 |x::r,h=>by
  unfold N.oo at h;by_cases e:x=some f;exact⟨[],r,by grind,by simp,by grind⟩;rw[Xx e]at h;by_cases c:iI (σ.mu x)=true;grind;rw[Xx c]at h;have⟨A,C,h1,h2,h3⟩:=Ce h;grind
theorem Pu{f:Nat}{C:kY}:∀{A:kY} {c:jj} {b:Nat},some f∉A->σ.tV f (A++some f::C) c=some b->some b∈A\/c=some b
 |[],c,b,_,h=>by
  grind[N.tV]
 |x::A,c,b,hn,h=>by
  rw[yF]at h;unfold N.tV at h;rw[Xx _]at h;rcases Pu (λg=>hn (abv _ g)) h with g|g
  all_goals grind
theorem H9:iI fQ=true:=by decide+kernel
def amt:kT fQ=true:=by decide+kernel
theorem L8(hs:lZ s=false):Fp (tj s):=Fp.bind (LQ (λx c=>by grind[jX]) amt) λ_=>Fp.pure _
theorem T7(hs:lZ s=false):Fp (nu s):=λp X σ h=>by
 unfold nu;cases hl:σ.oO s with
 |none=>grind[Fp.at,Fp.bind,L8,Fp.pure]
 |some f=>
  have D:BG σ f:=h.act f (List.mem_reverse.1 (vc hl));dsimp only;split;grind[Fp.at,Fp.bind,zz,Fp.pure];split;exact h;rename_i a1;have⟨A,C,e1,e2,e3⟩:=Ce (σ:=σ) (f:=f) (l:=σ.gq.reverse) (show σ.pi f=true by grind);have e:σ.gq=C.reverse++some f::A.reverse:=by
   have:=DZ List.reverse e1;rw[List.reverse_reverse]at this;rw[this];simp
  have z:=h.ch;unfold N.ns at z;rw[e,rZ,wM,uP]at z;have T:=Ic z.2.2 D.nm (λc a0=>by
   grind[H9])
  have E:∀x∈A.reverse,∃i,x=some i/\BG σ i:=λx u=>by
   obtain⟨i,rfl,I,K⟩:=h.op x (by grind);have⟨ei,hei⟩:=Option.isSome_iff_exists.1 K;exact⟨i,rfl,I,ei,hei,by have:=T _ (List.mem_map_of_mem (f:=σ.mu) u);rw[show σ.mu (some i)=ei.name from N.vi hei]at this;omega⟩
  cases hbk:σ.pq f with
  |none=>
   dsimp only;refine Tr.bind (P:=λt=>t=σ) (R:=λ_=>FI p X) (λt ht=>?_) (λ_=>Fp.bind (zz _) (λ_=>Fp.pure _) p X) σ rfl;subst ht;unfold AG;split;have F:oQ t.gq (some f)=C.reverse:=by
    unfold oQ;rw[e1,List.dropWhile_append_of_pos (λa ha=>by grind)];simp
   rw[F];exact h.prefix e λx u=>by
    rcases List.mem_cons.1 u with rfl|u;exact D.nm;grind
   trivial
  |some b=>
   have hb:some b∈A:=by
    unfold N.pq at hbk;rw[e1]at hbk;rcases Pu e2 hbk with g|g;exact g;cases g
   have⟨b',lV,hb2⟩:=E _ (List.mem_reverse.2 hb);cases lV;dsimp only;refine Tr.bind (S:=λ_=>FI p X) (R:=λ_=>FI p X) (Tr.cons (ac1 (f:=f) (il:=b) (X:=b::f::X) (by simp) (by simp)) (λt ht=>ht) λ_ _ g=>g.tail.tail) (λ_=>Tr.pure λ_ g=>g) σ ⟨(h.cons D).cons hb2,C.reverse,A.reverse,e,?_,E⟩;grind[FI.nd,posOf]
def T6(hs:lZ s=false):∀n,Fp (tQ s n)
 |0=>Fp.pure _
 |n+1=>Fp.bind (T7 hs) λ_=>Fp.ite (T6 hs n) (Fp.pure _)
theorem Rf(hs:lZ s=false):Fp (xf s):=λp X σ h=>by
 unfold xf;cases hl:σ.last with
 |none=>trivial
 |some i=>
  dsimp only;split;rename_i c;have e:=sA.1 (xh _ _▸c).1;exact h.ade hl (by grind);exact T6 hs _ p X σ h
def eE(l:List O):Bool:=l.all λx=>!lZ x
def dB(l:List O):Bool:=l.all λx=>!q0 x
theorem IJ(h:dB l=true)(s:O)(hs:gO l s=true):q0 s=false:=by
 have:=List.all_eq_true.1 h s (jX.1 hs);grind
theorem nQ(h:eE l=true)(s:O)(hs:gO l s=true):lZ s=false:=by
 have:=List.all_eq_true.1 h s (jX.1 hs);grind
def Ih{b:O->Bool}(e:eE l=true)(c:b fQ=true):Fp (lK (gO l) b):=LQ (nQ e) c
def SD(c:eE l=true):Fp (pM (gO l)):=agw (nQ c)
theorem an3{f:N->N}(h:∀σ,(f σ).nodes=σ.nodes/\(f σ).gq=σ.gq/\(f σ).act=σ.act/\(f σ).form=σ.form/\(f σ).head=σ.head/\(f σ).waiting=σ.waiting/\(f σ).mode=σ.mode/\(f σ).kept=σ.kept/\(f σ).im=σ.im):Fp (uL f):=λp X σ c=>by
 have⟨e1,e2,e3,e4,e5,e6,e7,e8,e9⟩:=h σ;exact c.lf e1 e2 rfl rfl rfl (λ_ g=>e3▸g) (by grind[FI.form]) e5 (by rw[e6];exact c.wt) (by grind[FI.mo])
theorem vL:Fp pt:=Fp.bind (Ih (by decide+kernel) (by decide+kernel)) λ_=>Fp.pure _
def acb:Fp xm:=λp X σ h=>by
 unfold xm;split;exact h;exact vL p X σ h
section
variable {t:gF}(ht:TA t)(hq:lZ t.name=false)
include ht hq
def AU:Fp (mQ t):=Fp.bind vL λ_=>Fp.bind (wE t ht hq) λ_=>Fp.pure _
def SX{p:Pm}{X:List Nat}:Tr (FI p X) (mQ t) (λ_=>Lp p X):=Tr.bind (vL p X) λ_=>Tr.bind (Cb t ht hq) λ_=>Tr.pure λ_ h=>h
def ZF:Fp (wI t):=Fp.bind (AU ht hq) λ_=>Fp.bind (an3 λ_=>⟨rfl,rfl,rfl,rfl,rfl,rfl,rfl,rfl,rfl⟩) λ_=>Fp.pure _
def Nu:Fp (oD t):=Fp.bind vL λ_=>Fp.bind (SD (by decide+kernel)) λ_=>Fp.bind (wE t ht hq) λ_=>Fp.pure _
theorem WC:Fp (sG t):=λp X σ h=>by
 unfold sG;split;exact h;exact Tr.bind (SX ht hq) (λ_=>Tr.bind (λσ ⟨h,i,c,e⟩=>h.lf rfl rfl rfl rfl rfl (λ_ g=>g) (λj (u)=>by grind) rfl h.wt h.mo) λ_=>Tr.pure λ_ h=>h) σ h
def O7:Fp (pz t):=Fp.bind (Ih (by decide+kernel) H9) λ_=>Fp.bind (vn t ht hq) λ_=>Fp.pure _
def Pb:Fp (pE t):=Fp.bind (SD (by decide+kernel)) λ_=>Fp.bind (vn t ht hq) λ_=>Fp.pure _
theorem WJ:Fp (qj t):=λp X σ h=>by
 unfold qj;cases hl:σ.oO _ with
 |none=>grind[Fp.at,Fp.bind,pB,Fp.pure]
 |some a=>
  exact Tr.bind (S:=λ_=>FI p X) (Rf (by decide+kernel) p (a::X)) (λ_=>Tr.bind (zz _ p _) λ_=>Tr.bind (MR (N1 ..)) λ_=>Tr.bind (pB t ht hq p (a::X)) λ_=>Tr.pure λ_ g=>g.tail) σ (h.cons (h.act a (List.mem_reverse.1 (vc hl))))
theorem WL:Fp (sH t):=Fp.bind rn λ_=>λp X σ h=>by
 unfold um;split;exact Fp.at (Fp.bind (Rf (by decide+kernel)) λ_=>Fp.bind (pB t ht hq) λ_=>Fp.pure _) h;grind[Fp.at,Fp.bind,pB,Fp.pure]
def O9:Fp (pD t):=Fp.bind (vn t ht hq) λ_=>Fp.bind Hu λ_=>Fp.pure _
def aaJ{ks:List O}(c:eE ks=true):Fp (Gm ks t):=Fp.bind (Ih c (by decide+kernel)) λ_=>Fp.bind (AU ht hq) λ_=>Fp.pure _
theorem Fb:Fp (lA t):=λp X σ h=>by
 unfold lA;split;exact h;have z:Tr (Lp p X) wV (λx σ=>FI p X σ/\∀i,x=some i->BG σ i):=λσ ⟨h,i,u,c⟩=>by
  have e:BG σ.pop i:=c;exact⟨h.ade u c.nm,by grind⟩
 have A:∀x,Tr (λσ=>FI p X σ/\∀i,x=some i->BG σ i) (uL λσ=>{σ with form:=x}) (λ_=>FI p X):=λx σ h=>h.1.lf rfl rfl rfl rfl rfl (λ_ g=>g) h.2 rfl h.1.wt h.1.mo;exact Tr.bind (S:=λ_=>FI p X) (Cb t ht hq) (λ_=>Tr.bind z λx=>Tr.bind (A x) λ_=>Tr.pure λ_ h=>h) σ h
def BB:Fp (kg t):=Fp.bind (SD (by decide+kernel)) λ_=>Fp.bind (wE t ht hq) λ_=>Fp.pure _
def zS:Fp (ju t):=Fp.bind (SD (by decide+kernel)) λ_=>Fp.bind (SD (by decide+kernel)) λ_=>Fp.bind (wE t ht hq) λ_=>Fp.pure _
end
def adC(ht:TA t)(hq:q0 t.name=false):Fp (xJ t):=Fp.bind vL λ_=>Fp.bind (xz t ht hq) λ_=>Fp.pure _
def GX(ht:TA t)(hq:q0 t.name=false):Fp (lW t):=Fz.pop (Fz.bind (SD (by decide+kernel)) λ_=>Fz.bind (SD (by decide+kernel)) λ_=>Fz.ret (JQ t ht hq)) λ_=>Fp.pure _
theorem Aj(c:0<t.chars.size):Fp (nw t):=by
 grind[Fp.bind,rn,uX,Fp.pure,nw]
theorem BT(c:0<t.chars.size):Fp (oz t):=by
 grind[Fp.bind,uX,Fp.pure,oz]
def UF:Fp sx:=Fp.bind (Ih (by decide+kernel) H9) λ_=>Fp.ite Xh (Fp.pure _)
theorem Ym(hq:lZ t.name=false):Fp (yi t):=Fp.bind (LQ (λx c=>by grind[jX]) H9) λ_=>Fp.pure _
def RR:Fp tY:=Fp.bind (Ih (by decide+kernel) H9) λ_=>Fp.pure _
def acv:Fp Au:=Fp.bind (Ih (by decide+kernel) (by decide+kernel)) λ_=>Fp.pure _
theorem alE:Fp Ov:=λp X σ h=>by
 unfold Ov;split;grind[Fp.at,Fp.bind,vL,Fp.pure];exact Fp.at (Fp.bind (OM _ (by simp) (by decide+kernel)) λ_=>Fp.bind vL λ_=>Fp.pure _) h
def Yp:Fp uQ:=Fp.bind rn λ_=>Fz.pop (ON _ (by simp) (by decide+kernel)) λ_=>Fp.pure _
theorem acG(s:O)(h:vj s=true):lZ s=false:=by
 cases hq:lZ s with
 |false=>rfl
 |true=>
  have:=jX.1 hq;simp[qL,tw]at this;exfalso;rcases this with rfl|rfl|rfl|rfl|rfl|rfl|rfl|rfl|rfl|rfl|rfl|rfl|rfl|rfl|rfl|rfl|rfl|rfl<;>revert h<;>decide+kernel
theorem acq:Fp xq:=λp X σ h=>by
 unfold xq;cases hf:σ.form with
 |none=>exact h
 |some i=>
  dsimp only;have c:=h.form i hf;have e:Tr (FI p (i::X)) (uL λσ=>{σ with form:=none}) (λ_=>FI p (i::X)):=λσ h=>h.lf rfl rfl rfl rfl rfl (λ_ g=>g) (λ_ g=>by cases g) rfl h.wt h.mo;split;exact Tr.bind (S:=λ_=>FI p X) e (λ_=>Tr.bind (λσ h=>by show FI p (i::X) (N.mn σ);grind[FI.anh,acG,N.mn]) λ_=>Tr.bind (MR (N1 ..)) λ_=>Tr.pure λ_ g=>g.tail) σ (h.cons c);exact h.lf rfl rfl rfl rfl rfl (λ_ g=>g) (λ_ g=>by cases g) rfl h.wt h.mo
def Kq(hq:lZ t.name=false):Fp (pJ t):=Fp.bind (Rf hq) λ_=>Fp.pure _
theorem Yu(hq:lZ t.name=false):Fp (wC t):=Fp.bind (L8 hq) λ_=>Fp.pure _
def Dz:Fp mF:=Fp.bind (SD (by decide+kernel)) λ_=>Fp.pure _
theorem Bt:Fp jf:=λp X σ h=>by
 unfold jf;have e:Fp (pM (gO [gp])>>=λ_=>(Pure.pure ())):=Fp.bind (SD (by decide+kernel)) λ_=>Fp.pure _;split;rename_i c;split;trivial;split;refine Tr.bind (P:=λs=>s=σ) (λs g=>?_) (λ_=>e p X) σ rfl;subst g;unfold N.current at c;cases hl:s.last with
 |none=>grind
 |some i=>rw[hl]at c;exact h.ade hl (nQ (by decide+kernel) _ c)
 grind[Fp.at];grind[Fp.at]
def fL(c:M (Nat×Nat)):Prop:=∀p X,Tr (FI p X) c λpl σ=>FI p X σ/\(pl.1≠0->kJ (σ.nm pl.1)=false)
theorem Ef{c:M (Nat×Nat)}(z:fL c):Fp (nj c t):=by
 unfold nj;split
 .refine λp X=>Tr.bind (z p X) λpl=>Tr.bind (λσ ⟨h,C⟩=>?_) λ_=>Tr.pure λ_ h=>h;rename_i s _ _;have g:=h.ti.add (n:=.cm s) (λ_ h=>by cases h) (λ_ h=>by cases h);exact(aa0 (.inl ⟨_,rfl⟩) (h.nodes g Nx.add rfl rfl rfl rfl rfl rfl rfl rfl) λe u A=>by
   rcases N.ze u with⟨_,g⟩|⟨_,g⟩
   all_goals grind[N.vi]).mono λ_ _ g=>g.1
 simp
theorem aas{p:Pm}(h:FI p X σ)(c:i≠0->kJ (σ.nm i)=false):kh (λpl σ=>FI p X σ/\(pl.1≠0->kJ (σ.nm pl.1)=false)) (jg i σ):=by
 grind[jg,kh]
theorem FP{c:Nat}{own:Bool}:Fp (vC c own t):=by
 refine Fp.ite (Ef λp X=>Tr.cons zM (λ_ h=>h) λ_ _ h=>⟨h.1,λ_=>h.2.2.2⟩) (Fp.ite (Ef λp X σ h=>?_) (Fp.ite (Ef λp X σ h=>aas h λg=>absurd rfl g) Fp.stuck));unfold rI;split;grind[aas,FI.ov,nY];trivial
theorem Sk{a:O}(h:yl none l=some a)(g:lZ a=true):yl none (l.filter lZ)=some a:=by
 by_cases c:l=[];grind;obtain⟨e,b,rfl⟩:∃e b,l=e++[b]:=⟨l.dropLast,l.getLast c,(List.dropLast_concat_getLast c).symm⟩;grind[uc]
theorem UO:∀{l c:List O} {h:O},l.filter lZ=c++[h]->∃A B,l=A++h::B/\A.filter lZ=c/\∀b∈B,lZ b=false:=λ{l c h} e=>by
 have e2:(l.reverse).filter lZ=h::c.reverse:=by rw[List.filter_reverse,e];simp
 have g:∀{r:List O} {Q:List O},r.filter lZ=h::Q->∃B A,r=B++h::A/\A.filter lZ=Q/\∀b∈B,lZ b=false:=by
  intro r
  induction r with
  |nil=>simp
  |cons x r ih=>
   intro Q e;by_cases u:lZ x=true;rw[List.filter_cons,u]at e;cases e;exact⟨[],r,rfl,rfl,λ_ h=>by cases h⟩;grind
 have⟨B,A,h1,h2,h3⟩:=g e2;refine⟨A.reverse,B.reverse,?_,?_,λb p=>h3 b (List.mem_reverse.1 p)⟩
 all_goals grind
theorem FI.clear{p:Pm}(h:FI p X σ){Q1:List O}{a:O}(C:p.Q=Q1++[a])(F:gO ks a=true)(I:∀s,lZ s=false->gO ks s=false):FI p X (σ.tA (gO ks))/\∃i,(σ.tA (gO ks)).last=some i/\σ.nm i=a:=by
 have⟨A,B,e1,e2,e3⟩:=UO (h.q.trans C);have:∃c x g,σ.gq=c++x::g/\σ.mu x=a/\∀b∈g,lZ (σ.mu b)=false:=by
  unfold N.ns at e1;have⟨c,r,g1,g2,g3⟩:=List.map_eq_append_iff.1 e1;have⟨x,g,g4,g5,g6⟩:=List.map_eq_cons_iff.1 g3;refine⟨c,x,g,by grind,g5,λb z=>e3 _ (by grind)⟩
 have⟨c,x,g,g1,g2,g3⟩:=this;have D:N.oE σ (λs=>!(gO ks s||gO [fN] s)) σ.gq.reverse=x::c.reverse:=by
  have u:∀B:kY,(∀b∈B,lZ (σ.mu b)=false)->N.oE σ (λs=>!(gO ks s||gO [fN] s)) (B++x::c.reverse)=x::c.reverse:=by
   intro B
   induction B with
   |nil=>
    grind[N.oE]
   |cons b B ih=>
    intro E;rw[yF];unfold N.oE;grind[lU,Qu]
  rw[g1,kU,List.reverse_cons,vu];exact u _ λb z=>g3 b (List.mem_reverse.1 z)
 have e:σ.tA (gO ks)={σ with gq:=c++[x]}:=by
  unfold N.tA;rw[D];simp
 rw[e];refine⟨h.prefix (B:=g) (by grind) g3,?_⟩;obtain⟨i,rfl,_,_⟩:=h.op x (by grind);exact⟨i,ub _ _,g2⟩
def Nq(p:Pm)(X:List Nat)(s:O)(j:Nat)(σ:N):Prop:=FI p X σ/\some j∉σ.gq/\j≠0/\iV σ j s
def aiX{p:Pm}(h:FI p X σ)(g:name≠uG)(c:name≠fN):kh (λj σ'=>Nq p X name j σ'/\σ'.last=σ.last/\Nx σ σ') (Bk name σ):=by
 have⟨g1,g2⟩:=h.XO (e:=⟨name,[],none,[]⟩) rfl rH.nil g c;exact⟨⟨g1,h.fresh,h.pos,_,g2,rfl⟩,rfl,Nx.add⟩
def Ez{p:Pm}(h:FI p X σ)(ht:TA t)(g:t.name≠fN):kh (λj σ'=>Nq p X t.name j σ'/\σ'.last=σ.last/\Nx σ σ') (ku t σ):=by
 unfold ku;split;have⟨g1,g2⟩:=h.XO (e:=⟨t.name,t.jh,none,[]⟩) rfl ht.gG ht.name g;exact⟨⟨g1.BI,h.fresh,h.pos,_,g2,rfl⟩,rfl,λi e c=>Nx.add i e c⟩;trivial
def zc(H:Nat->List O)(i:Nat)(s:O):Nat->List O:=λx=>if x=i then H i++[s].filter Fs else H x
theorem FB(H:Nat->List O)(i:Nat)(s:O):zc H i s i=H i++[s].filter Fs:=sL rfl
def KS{x:Nat}(h:x≠i):zc H i s x=H x:=Xx h
theorem ahY(H:Nat->List O)(i:Nat)(h:Fs s=false):zc H i s=H:=by
 grind[zc]
theorem U8(σ:N)(ks:List Nd)(j:Nat):wO σ (ks++[.el j])=wO σ ks++[σ.nm j].filter Fs:=by
 grind[wO,lV]
theorem Qb{p:Pm}(F:Nq p X s j σ)(g:σ.last=some i)(E:σ.im=false)(A:yS (σ.nm i) s=true):kh (λ_ σ'=>(FI {p with H:=zc p.H i s} X σ'.pop/\(kJ s=false->FI {p with H:=zc p.H i s,Q:=p.Q++[s].filter lZ} X σ'))/\σ'.last=some j/\iV σ' j s/\σ'.gq=σ.gq++[some j]/\Nx σ σ') (jT j σ):=by
 have⟨h,D,h0,ej,hej,hen⟩:=F;have z:=wF g;have C:=h.o0 z;have⟨ei,hei⟩:=Option.isSome_iff_exists.1 C.2;unfold jT;have e1:ky σ=.ok (i,ei.kids.length) σ:=by
  unfold ky;rw[g];dsimp only;unfold placeFor;rw[E];simp only[Bool.false_and,ZY,Tw];unfold jg;rw[hei]
 rw[N.vi hei]at A;refine Tr.bind (P:=λt=>t=σ) (R:=λpl t=>t=σ/\pl=(i,ei.kids.length)) (λt ht=>by grind[kh]) (λpl=>Tr.bind (R:=λ_ c=>FI {p with H:=zc p.H i s} X c/\(∃e,c.gU j=some e/\e.name=s)/\c.gq=σ.gq/\yl none c.ns=some ei.name/\Nx σ c) (λt ht=>?_) λ_=>Tr.bind (λt ht=>?_) λ_=>Tr.pure λ_ h=>h) σ rfl;obtain⟨rfl,rfl⟩:=ht;unfold kD;rw[hei,hej];dsimp only;split;rename_i u;have n:=Cq (n:=ei.kids.length) hei hej u.1;have⟨ej',g1,g2⟩:=n j ej hej;refine⟨h.tree (h.ti.put (n:=ei.kids.length) hei hej u.1 (by rw[Xx C.1,hen];exact⟨A,by rw[<-N.vi hei];exact h.ov z⟩) (by show _=zc p.H i s i;rw[La,FB,<-h.ti.hb _ _ hei,<-hen,<-N.vi hej];grind[U8]) (λ_ D=>KS D)) n rfl rfl rfl rfl rfl rfl rfl rfl rfl rfl,⟨ej',g1,g2.trans hen⟩,rfl,?_,n⟩;rw[akM n rfl h.op];unfold N.ns;rw[YY g,rZ];show yl none (_++[t.nm i])=_;grind[uc,N.vi];trivial;have⟨h1,⟨e,g1,g2⟩,g3,g4,g5⟩:=ht;unfold oH;split;trivial;split;refine⟨⟨?_,λK=>?_⟩,Vo _ j,⟨e,g1,g2⟩,by grind,g5.trans (Nx.same rfl)⟩;rw[show∀s:N,({s with gq:=s.gq++[some j]}:N).pop=s from λs=>by simp[N.pop]];exact h1;have I:=h1.push g1 h0 (by grind[du]) (by grind);grind;trivial
def Qa{p:Pm}(g:Nq p X s j σ)(z:σ.last=some i)(e:σ.im=false)(u:yS (σ.nm i) s=true)(c:Fs s=false):kh (λ_ σ'=>(FI p X σ'.pop/\(kJ s=false->FI {p with Q:=p.Q++[s].filter lZ} X σ'))/\σ'.last=some j/\iV σ' j s/\σ'.gq=σ.gq++[some j]/\Nx σ σ') (jT j σ):=by
 have h:=Qb g z e u
 rwa [ahY _ _ c]at h
theorem FI.X8{p:Pm}(h:FI p X σ){b:O->Bool}(hq:∀s,q s=true->lZ s=true)(hs:σ.inScope q b=true):∃D x E,p.Q=D++x::E/\q x=true/\(∀y∈E,b y=false)/\FI {p with Q:=D} X (σ.CG q)/\du (yl none D) x:=by
 have⟨A,x,C,h1,h2,h3,h4⟩:=xF hs;have e:σ.gq=C.reverse++x::A.reverse:=by
  have:=DZ List.reverse h1;rw[List.reverse_reverse]at this;rw[this];simp
 have T:=hq _ h2;have F:σ.ns=C.reverse.map σ.mu++σ.mu x::A.reverse.map σ.mu:=by unfold N.ns;rw[e,rZ,wM]
 have u:=h.ch;rw[F,uP]at u;refine⟨(C.reverse.map σ.mu).filter lZ,σ.mu x,(A.reverse.map σ.mu).filter lZ,?_,h2,λy I=>?_,?_,?_⟩;grind[q];grind;unfold N.CG;rw[h4];exact h.lists rfl rfl rfl u.1 rfl (λy I=>h.op y (by grind)) (List.nodup_append.1 (e▸h.nd)).1 h.act h.form h.head h.wt h.mo;have z:=u.2.1;cases hl:yl none (C.reverse.map σ.mu)with
 |none=>
  rw[hl]at z;have P:C.reverse.map σ.mu=[]:=by
   by_cases g:C.reverse.map σ.mu=[];exact g;have⟨a,ga,_⟩:=ym g;grind
  grind
 |some a=>
  rw[hl]at z;by_cases K:lZ a=true;grind[Sk];have:=zL (by grind) z.1 z.2;rcases this with g|g;grind;rw[g];cases hz:yl none ((C.reverse.map σ.mu).filter lZ)with
  |none=>exact absurd hz (by
    have⟨a',ga,_⟩:=ym (l:=(C.reverse.map σ.mu).filter lZ) (by
     cases hC:C.reverse.map σ.mu with
     |nil=>grind
     |cons c l=>rw[hC]at u;rw[List.filter_cons,show c=fN from u.1.1,Qu];simp)
    grind)
  |some c=>exact⟨Dp c,by decide+kernel⟩
def lq(Q:List O):O:=(yl none Q).getD ⟨#[]⟩
def LL:O:=fS
structure cD(m:Nat)(Q:List O)(n:Nat):Prop where
 lo:m<=1->n=0
 h2:m=2\/m=4->Q=[fN]/\n=1
 h3:m=3->Q=[fN,fY]/\n=2
 hi:5<=m->∃Q',Q=fN::fR::Q'/\∀y∈Q',gJ y≠6
 mw:5<=m->m≠14->m≠15->gJ (lq Q)=if m=16\/m=17 then 6 else m
def EM(m k:Nat):Nat:=if m=5\/m=8 then k else m
structure GO(m k:Nat)(Q:List O)(σ:N):Prop where
 ok:cD (EM m k) Q (if m=5 then σ.gq.length-1 else σ.gq.length)
 k5:m=5->(3<=k/\k≠5/\k≠8/\k≠10)/\∃i,σ.last=some i/\lZ (σ.nm i)=false
 k8:m=8->k=7\/k=11\/k=12
 cg:m≠10->LL∉Q
 ch:m=10->∃Q1,Q=Q1++[LL]/\LL∉Q1/\∃i,σ.last=some i/\σ.nm i=LL
structure PH(e:Nat)(U:jj)(H:Nat->List O):Prop where
 lo:e<=1->U=none/\∀i,H i=[]
 hi:2<=e->∃h,U=some h/\h≠0/\H 0=[fN]/\(H h=if e=2 then []else if e<=4 then [fY]else [fY,fR])/\∀i,i≠0->i≠h->H i=[]
def GI(f:Bool)(σ:N):Prop:=∃U H Q,FI ⟨U,H,Q,(σ.mode,σ.kept,f)⟩ [] σ/\GO σ.mode σ.kept Q σ/\PH (EM σ.mode σ.kept) U H
def jI(m:Nat):Prop:=6<=m/\m≠8/\m≠10
theorem FI.md{p:Pm}(h:FI p X σ):σ.mode=p.mo.1/\σ.kept=p.mo.2.1/\σ.im=p.mo.2.2:=by
 grind[mo]
theorem GO.any(h:GO m k Q σ)(c:jI m):GO m k Q σ':=by
 have⟨h1,h2,h3⟩:=c;have e:EM m k=m:=by unfold EM;rw[Xx (by omega)]
 have p:=h.ok;refine⟨?_,λg=>by omega,λg=>by omega,h.cg,by grind⟩;constructor<;>grind[cD.hi,cD.mw]
theorem Fp.gi{α:Type}{m:M α}(c:Fp m)(h:GI f σ)(e:jI σ.mode):kh (λ_ σ'=>GI f σ'/\σ'.mode=σ.mode) (m σ):=by
 have⟨U,H,Q,h1,h2,h3⟩:=h;refine(c _ _ σ h1).mono λ_ σ' g=>?_;have⟨e1,e2,e3⟩:=g.md;refine⟨⟨U,H,Q,by grind,by grind[GO.any],by grind⟩,e1⟩
theorem Fp.fx{α:Type}{m:M α}(e:Fp m)(h:GI f σ)(p:∀a σ',m σ=.ok a σ'->σ'.gq=σ.gq/\Nx σ σ'):kh (λ_ σ'=>GI f σ'/\σ'.mode=σ.mode) (m σ):=by
 have⟨U,H,Q,h1,h2,h3⟩:=h;have g:=e _ _ σ h1;cases hr:m σ with
 |ok a σ'=>
  rw[hr]at g;have⟨e1,e2,e3⟩:=FI.md g;have⟨o1,o2⟩:=p a σ' hr;have u:σ'.last=σ.last:=by unfold N.last;rw[o1]
  have z:∀i,σ.last=some i->σ'.nm i=σ.nm i:=λi c=>o2.nm (h1.o0 (wF c)).2;refine⟨⟨U,H,Q,by rw[e1,e2];exact g,?_,by grind⟩,e1⟩;rw[e1,e2];refine⟨by grind[GO.ok],λq=>?_,h2.k8,h2.cg,λq=>?_⟩;have⟨g1,i,g2,g3⟩:=h2.k5 q;grind;grind[GO.ch]
 |_=>trivial
theorem Vy(h:lZ s=false):gJ s=6:=by
 have e:∀l:List O,(∀x∈l,x∈qL)->gO l s=false:=λl c=>lU.2 λg=>lU.1 h (c s g);unfold gJ;rw[e _ (by simp[qL]),e [gN] (by simp[qL]),e _ (by simp[qL]),e _ (by simp[qL]),e _ (by simp[qL]),e _ (by simp[qL])];rfl
theorem agT{c:List O}(hq:σ.ns.filter lZ=fN::fR::c)(p:∀y∈c,gJ y≠6):rB σ σ.gq.reverse=gJ (lq (fN::fR::c)):=by
 have g:∀l:kY,rB σ l=(match ((l.map σ.mu).filter lZ).find? (λs=>gJ s≠6)with|some s=>gJ s|none=>6):=by
  intro l
  induction l with
  |nil=>rfl
  |cons x r ih=>
   grind[Vy,rB]
 rw[g,qX,List.filter_reverse];show(match (List.reverse (σ.ns.filter lZ)).find? _ with|some s=>gJ s|none=>6)=_
 rw[hq];by_cases e:c=[];subst e;have e2:gJ fN=6:=by decide+kernel
 have h:lq [fN,fR]=fR:=rfl;grind;obtain⟨l,y,rfl⟩:∃l y,c=l++[y]:=⟨c.dropLast,c.getLast e,(List.dropLast_concat_getLast e).symm⟩;have e1:lq (fN::fR::(l++[y]))=y:=by
  unfold lq;rw[show fN::fR::(l++[y])=(fN::fR::l)++[y]from rfl,uc];rfl
 grind
theorem Ee:∀{l:List O} {p:Option O},KZ p l->KZ p (l.filter lZ)
 |[],_,_=>trivial
 |b::l,p,h=>by
  rw[List.filter_cons];split;exact⟨h.1,Ee h.2⟩;exact Ee (Py (l1:=[]) h (by grind))
  termination_by l=>l.length
def FI.fk{p:Pm}(h:FI p X σ):KZ none p.Q:=by rw[<-h.q];exact Ee h.ch
theorem PH.eu{e e':Nat}(h:PH e U H)(g:5<=e)(c:5<=e'):PH e' U H:=by
 constructor<;>grind[hi]
structure GB(f:Bool)(U:jj)(H:Nat->List O)(Q:List O)(k:Nat)(m:Nat)(σ:N):Prop where
 fi:FI ⟨U,H,Q,(m,k,f)⟩ [] σ
 hi:∃Q',Q=fN::fR::Q'/\∀y∈Q',gJ y≠6
 cg:LL∉Q
 ph:PH 6 U H
theorem GI.gb(h:GI f σ)(g:jI σ.mode):∃U H Q,GB f U H Q σ.kept σ.mode σ/\(σ.mode≠14->σ.mode≠15->gJ (lq Q)=if σ.mode=16\/σ.mode=17 then 6 else σ.mode):=by
 have⟨U,H,Q,h1,h2,h3⟩:=h;have⟨b1,b2,b3⟩:=g;have e:EM σ.mode σ.kept=σ.mode:=by unfold EM;rw[Xx (by omega)]
 have c:=h2.ok;rw[e]at c h3;exact⟨U,H,Q,⟨h1,c.hi (by omega),h2.cg b3,h3.eu (by omega) (by omega)⟩,c.mw (by omega)⟩
theorem GB.gi(h:GB f U H Q k m σ)(c:jI m)(p:m≠14->m≠15->gJ (lq Q)=if m=16\/m=17 then 6 else m):GI f σ:=by
 have⟨e1,e2,_⟩:=h.fi.md;dsimp only at e1 e2;have⟨b1,b2,b3⟩:=c;have e:EM m k=m:=by unfold EM;rw[Xx (by omega)]
 refine⟨U,H,Q,by grind[fi],?_,?_⟩
 .rw[e1,e2];refine⟨?_,λg=>by omega,λg=>by omega,λ_=>h.cg,λg=>absurd g b3⟩;constructor<;>grind[hi]
 rw[e1,e2,e];exact h.ph.eu (by omega) (by omega)
theorem Fp.gb{α:Type}{m:M α}(c:Fp m){md:Nat}(h:GB f U H Q k md σ):kh (λ_=>GB f U H Q k md) (m σ):=(c _ _ σ h.fi).mono λ_ _ g=>⟨g,h.hi,h.cg,h.ph⟩
theorem GB.mode(h:GB f U H Q k m σ)(c:Nat):GB f U H Q k c {σ with mode:=c}:=
 ⟨h.fi.lf rfl rfl rfl rfl rfl (λ_ g=>g) h.fi.form rfl h.fi.wt (by have:=h.fi.md;grind),h.hi,h.cg,h.ph⟩
def QG(c:Nat):Tr (GB f U H Q k m) (jq c) (λ_=>GB f U H Q k c):=λσ h=>h.mode c
theorem Wn:Tr (GB f U H Q k m) yq (λ_=>GB f U H Q k (gJ (lq Q))):=λσ h=>by
 have⟨Q',e,hm⟩:=h.hi;have:rB σ σ.gq.reverse=gJ (lq Q):=by rw[e];exact agT (h.fi.q.trans e) hm
 show GB f U H Q k _ _;grind[GB.mode]
theorem Vx(s:O):gJ s=6\/gJ s=7\/gJ s=9\/gJ s=10\/gJ s=11\/gJ s=12\/gJ s=13:=by
 grind[gJ]
def af8(h:gJ s=10):s=LL:=by
 unfold gJ at h
 (repeat' split at h)<;>first|(exact absurd h (by decide))|skip
 rename_i g;exact List.mem_singleton.1 (jX.1 g)
theorem al8(h:Q≠[]):lq Q∈Q:=by
 have⟨a,h1,h2⟩:=ym h;grind[lq]
theorem GB.reset(h:GB f U H Q k (gJ (lq Q)) σ):GI f σ:=by
 have c:gJ (lq Q)≠10:=λg=>h.cg (by
  have⟨Q',e,_⟩:=h.hi;rw[<-af8 g];exact al8 (by grind))
 have p:=Vx (lq Q);refine h.gi ⟨by omega,by omega,c⟩ λ_ _=>?_;grind
theorem GB.cut{Q1 p:List O}{x:O}(h:GB f U H Q k m σ)(e:Q=Q1++x::p)(c:gJ x≠6)(u:FI ⟨U,H,Q1,(m,k,f)⟩ [] σ'):GB f U H Q1 k m σ':=by
 have⟨Q',e1,h2⟩:=h.hi;refine⟨u,?_,λg=>h.cg (by grind),h.ph⟩;rw[e1]at e;cases Q1 with
 |nil=>
  injection e with e2 e3;exact absurd (by rw[<-e2];decide+kernel) c
 |cons a Q1=>
  rw[yF]at e;injection e with e2 e3;cases Q1 with
  |nil=>
   injection e3 with e4 e5;exact absurd (by rw[<-e4];decide+kernel) c
  |cons b Q1=>
   grind
def anY:∀s,gO [fQ] s=true->lZ s=true:=λs h=>by rw[List.mem_singleton.1 (jX.1 h)];decide+kernel
theorem Yy(h:GI f σ)(p:jI σ.mode):kh (λ_=>GI f) (uR σ):=by
 have⟨U,H,Q,h1,_⟩:=h.gb p;refine Tr.bind (R:=λb s=>if b=true then ∃e,GB f U H e σ.kept σ.mode s else s=σ) (λs c=>?_) (λb=>?_) σ rfl;subst c;unfold lK;split;rename_i c;have⟨e,x,Q2,g1,g2,_,g4,_⟩:=h1.fi.X8 anY c;refine⟨e,h1.cut g1 ?_ g4⟩;grind[gJ];rfl;cases b with
 |true=>
  intro s ⟨e,c⟩;exact Tr.bind Wn (λ_=>Tr.pure λ_ g=>g.reset) s c
 |false=>
  intro s c;have:=c;rw[this];exact h
theorem JC(h:GI f σ)(e:jI σ.mode):kh (λ_=>GI f) (rh σ):=by
 have⟨U,H,Q,h1,_⟩:=h.gb e;refine Tr.bind (R:=λb s=>if b=true then GB f U H Q σ.kept σ.mode s else s=σ) (λs c=>?_) (λb=>?_) σ rfl;subst c;unfold lK;split;rename_i c;exact⟨h1.fi.close (nQ (by decide+kernel)) (by decide+kernel) c,h1.hi,h1.cg,h1.ph⟩;rfl
 .cases b<;>grind[Tr.bind,Wn,Tr.pure,GB.reset]
def D5(ks:List O)(m:Nat):Prop:=∀x,gO ks x=true->lZ x=true/\gJ x≠6/\∀a,yS a x=true->gJ a=m
theorem Le{hs:List O}(c:(ks.all λx=>lZ x&&decide (gJ x≠6))=true)(e:∀x∈ks,∀a,yS a x=true->gO hs a=true)(g:(hs.all λa=>decide (gJ a=m))=true):D5 ks m:=λx h=>by
 grind[jX]
theorem Io(h:GI f σ)(A:jI σ.mode)(z:D5 ks m)(E:m=7\/m=11\/m=12):kh (λ_ σ'=>GI f σ'/\jI σ'.mode) (rD ks m σ):=by
 have⟨U,H,Q,h1,_⟩:=h.gb A;refine Tr.bind (R:=λb s=>if b=true then ∃p,GB f U H p σ.kept σ.mode s/\gJ (lq p)=m else s=σ) (λs c=>?_) (λb=>?_) σ rfl;subst c;unfold lK;split;rename_i c;have⟨p,x,Q2,g1,g2,_,g4,g5⟩:=h1.fi.X8 (λy D=>(z y D).1) c;have C:=h1.cut g1 (z x g2).2.1 g4;refine⟨p,C,?_⟩;have⟨Q',e,_⟩:=C.hi;have⟨a,ga,_⟩:=ym (l:=p) (by grind);rw[ga]at g5;unfold lq;rw[ga];exact(z x g2).2.2 a g5.1;rfl;cases b with
 |true=>
  intro s ⟨p,c,F⟩;refine Tr.bind (QG m) (λ_=>Tr.pure λσ' g=>?_) s c;have u:jI m:=⟨by omega,by omega,by omega⟩;refine⟨g.gi u λ_ _=>by grind,?_⟩;rw[g.fi.md.1];exact u
 |false=>
  intro s c;have:=c;rw[this];exact⟨h,A⟩
theorem Be(h:GI f σ)(p:jI σ.mode)(z:D5 ks m)(u:m=7\/m=11\/m=12):kh (λ_=>GI f) (lL ks m σ):=
 Tr.bind (R:=λ_ σ'=>GI f σ'/\jI σ'.mode) (λs A=>by grind[Io]) (λb=>by
  cases b with
  |true=>exact Tr.bind (λs ⟨c,e⟩=>(Xh.gi c e).mono λ_ _ g=>g.1) λ_=>Tr.pure λ_ g=>g
  |false=>grind[Tr.pure]) σ rfl
theorem ajb{x:O}(h:x∈[gN])(a:O):yS a x=gO [fW,fX,fV] a:=by
 cases List.mem_singleton.1 h;unfold yS;rw[Xx (by decide+kernel),Xx (by decide+kernel),sL (by decide+kernel)]
theorem ags{x:O}(h:x∈[ig,ij])(a:O):yS a x=gO [gN] a:=by
 simp at h;unfold yS;rcases h with rfl|rfl<;>rw[Xx (by decide+kernel),Xx (by decide+kernel),Xx (by decide+kernel),sL (by decide+kernel)]
theorem SB{x:O}(h:x∈[fW,fX,fV,fZ,fS])(a:O):yS a x=gO [fQ] a:=by
 simp at h;unfold yS;rcases h with rfl|rfl|rfl|rfl|rfl<;>rw[Xx (by decide+kernel),Xx (by decide+kernel),Xx (by decide+kernel),Xx (by decide+kernel),sL (by decide+kernel)]
theorem agF:D5 [fW,fV,fX] 7:=Le (hs:=[(fQ)]) (by decide+kernel) (λx e a c=>by grind[SB]) (by decide+kernel)
theorem Zm:D5 [fZ] 7:=Le (hs:=[(fQ)]) (by decide+kernel) (λx e a c=>by grind[SB]) (by decide+kernel)
theorem amm:D5 [gN] 11:=Le (hs:=[(fW),(fX),(fV)]) (by decide+kernel) (λx e a c=>by grind[ajb]) (by decide+kernel)
theorem ajn:D5 [ig,ij] 12:=Le (hs:=[(gN)]) (by decide+kernel) (λx e a c=>by grind[ags]) (by decide+kernel)
def aeb(c:M Nat)(s:O):Prop:=∀p X σ,FI p X σ->kh (λj σ'=>Nq p X s j σ'/\σ'.last=σ.last/\Nx σ σ') (c σ)
def Gz(ht:TA t)(c:t.name≠fN):aeb (ku t) t.name:=λ_ _ _ h=>Ez h ht c
def Qk(e:s≠uG)(c:s≠fN):aeb (Bk s) s:=λ_ _ _ h=>aiX h e c
theorem ant{K:M Nat}(D:aeb K s){p:Pm}(F:p.mo.2.2=false)(E:Fs s=false)(I:kJ s=false):Tr (λσ=>FI p [] σ/\∃i,σ.last=some i/\yS (σ.nm i) s=true) (K>>=λj=>jT j>>=λ_=>(Pure.pure ():M Unit)) (λ_ σ'=>FI {p with Q:=p.Q++[s].filter lZ} [] σ'/\∃j,σ'.last=some j/\σ'.nm j=s):=by
 refine Tr.bind (R:=λj σ=>Nq p [] s j σ/\∃i,σ.last=some i/\yS _ s=true) (λσ ⟨h,i,A,C⟩=>(D p [] σ h).mono λj σ' ⟨c,u,z⟩=>⟨c,i,by grind,by grind[Nx.nm,FI.o0,wF]⟩) λj=>Tr.bind (λσ ⟨h,i,A,C⟩=>((Qa h A (by rw[h.1.md.2.2];exact F) C E).mono λ_ σ' ⟨c,u,z,_,_⟩=>⟨c.2 I,j,u,?_⟩)) λ_=>Tr.pure λ_ g=>g;have⟨e,k1,k2⟩:=z;grind[N.nm]
theorem GB.add{f:Bool}{U:jj}{H:Nat->List O}{Q:List O}{k m:Nat}{σ σ':N}(h:GB f U H Q k m σ){s:O}(hs:gJ s≠6)(c:s≠LL)(e:FI ⟨U,H,Q++[s],(m,k,f)⟩ [] σ'):GB f U H (Q++[s]) k m σ':=by
 constructor<;>grind[hi,cg,ph]
theorem Dl(Q:List O)(s:O):lq (Q++[s])=s:=by grind[uc,lq]
theorem Q6(h:Q≠[]):∃c,Q=c++[lq Q]:=by
 refine⟨Q.dropLast,?_⟩;grind[List.dropLast_concat_getLast,Dl]
structure dZ(ks:List O)(s:O)(a:O):Prop where
 ha:gO ks a=true
 hk:∀x,lZ x=false->gO ks x=false
 ok:yS a s=true
 nb:Fs s=false
 q:lZ s=true
 v:kJ s=false
theorem Rw(u:f=false)(h:GB f U H Q k m σ)(g:dZ ks s (lq Q)){C:M Nat}(p:aeb C s){α:Type}{c:M α}{R:α->N->Prop}(A:Tr (λσ'=>FI ⟨U,H,Q++[s],(m,k,f)⟩ [] σ'/\∃j,σ'.last=some j/\σ'.nm j=s) c R):kh R ((th (gO ks)>>=λ_=>(C>>=λj=>jT j>>=λ_=>(Pure.pure ():M Unit))>>=λ_=>c) σ):=by
 have⟨Q',e,_⟩:=h.hi;have⟨Q1,e1⟩:=Q6 (Q:=Q) (by grind);refine Tr.bind (P:=λs=>s=σ) (R:=λ_ σ'=>FI ⟨U,H,Q,(m,k,f)⟩ [] σ'/\∃i,σ'.last=some i/\yS _ s=true) (λs z=>?_) (λ_=>Tr.bind (ant p u g.nb g.v) λ_=>?_) σ rfl;subst z;have⟨g1,i,g2,g3⟩:=h.fi.clear e1 g.ha g.hk;exact⟨g1,i,g2,by show yS (s.nm i) _=true;grind[dZ.ok]⟩;grind[dZ.q]
theorem begun(h:GB false U H Q k m σ)(p:Nat)(A:gJ s=p)(I:p≠6):Tr (λσ'=>FI ⟨U,H,Q++[s],(m,k,false)⟩ [] σ'/\∃j,σ'.last=some j/\σ'.nm j=s) (jq p) (λ_ σ'=>GI false σ'/\σ'.mode=p):=λσ' ⟨c,j,C,D⟩=>by
 by_cases z:s=LL;subst z;have u:p=10:=by rw[<-A];decide+kernel
 subst u;have K:FI ⟨U,H,Q++[LL],(10,k,false)⟩ [] {σ' with mode:=10}:=c.lf rfl rfl rfl rfl rfl (λ_ g=>g) c.form rfl c.wt (by have:=c.md;grind);have F:=c.md.2.1;have⟨Q',e,hq⟩:=h.hi;refine⟨⟨U,H,Q++[LL],by grind,?_,h.ph.eu (by omega) ((by decide:5<=10))⟩,rfl⟩;refine⟨⟨λg=>absurd (show(10:Nat)<=1 from g) (by decide),λg=>absurd (show(10:Nat)=2\/(10:Nat)=4 from g) (by decide),λg=>absurd (show(10:Nat)=3 from g) (by decide),λ_=>⟨Q'++[LL],by grind,λy P=>?_⟩,λ_ _ _=>?_⟩,by grind,by grind,λg=>absurd rfl g,λ_=>⟨Q,rfl,h.cg,j,C,D⟩⟩;grind;rw[Dl,A];rfl;have g:=h.add (by omega) z c;have E:=Vx s;refine⟨(g.mode p).gi ⟨by omega,by omega,λe=>z (af8 (A.trans e))⟩ λ_ _=>?_,rfl⟩;grind[Dl]
theorem GI.mw(h:GI f σ)(e:jI σ.mode)(c:σ.mode<14):∃U H Q,GB f U H Q σ.kept σ.mode σ/\gJ (lq Q)=σ.mode:=by
 grind[gb]
def NB(h:GI false σ)(u:jI σ.mode)(c:σ.mode<14)(ht:TA t)(z:t.name≠fN)(p:∀a,gJ a=σ.mode->dZ ks t.name a)(A:gJ t.name=m)(e:m≠6):kh (λ_=>GI false) (vp ks m t σ):=by
 have⟨U,H,Q,g1,g2⟩:=h.mw u c;exact Rw rfl g1 (p _ g2) (Gz ht z) (Tr.bind (begun g1 m A e) λ_=>Tr.pure λ_ g=>g.1)
theorem Iw(h:GI false σ)(u:jI σ.mode)(c:σ.mode<14){rec:Nat->gF->M Unit}(C:name≠uG)(z:name≠fN)(p:∀a,gJ a=σ.mode->dZ ks name a)(A:gJ name=m)(e:m≠6)(D:∀σ',GI false σ'->σ'.mode=m->kh (λ_=>GI false) (rec m t σ')):kh (λ_=>GI false) (p9 rec ks name m t σ):=by
 have⟨U,H,Q,g1,g2⟩:=h.mw u c;refine Rw rfl g1 (p _ g2) (Qk C z) (Tr.bind (begun g1 m A e) λ_=>Tr.bind (λσ' ⟨E,F⟩=>?_) λ_=>Tr.pure λ_ g=>g);grind[jF]
theorem Pr(h:km none σ=.ok a σ'):σ'.gq=σ.gq/\Nx σ σ':=by
 grind[Nx.same,km]
def Wz(h:GI false σ)(u:jI σ.mode)(c:σ.mode<14)(ht:TA t)(z:t.name≠fN)(p:∀a,gJ a=σ.mode->dZ [gN] t.name a)(A:gJ t.name=13):kh (λ_=>GI false) (rq t σ):=by
 have⟨U,H,Q,g1,g2⟩:=h.mw u c;exact Rw rfl g1 (p _ g2) (Gz ht z) (Tr.bind (begun g1 13 A (by decide)) λ_=>Tr.bind (λσ' ⟨C,_⟩=>(Hu.fx C λ_ _ e=>Pr e).mono λ_ _ g=>g.1) λ_=>Tr.pure λ_ g=>g)
theorem Ns(h:GI false σ)(E:jI σ.mode)(C:σ.mode<14)(ht:TA t)(F:t.name≠fN)(D:∀a,gJ a=σ.mode->dZ [fQ] t.name a)(I:gJ t.name=9):kh (λ_=>GI false) (pA t σ):=by
 have⟨U,H,Q,g1,g2⟩:=h.mw E C;have B:=D _ g2;have⟨Q',e,_⟩:=g1.hi;have⟨Q1,e1⟩:=Q6 (Q:=Q) (by grind);have e2:[t.name].filter lZ=[t.name]:=by rw[List.filter_cons,B.q];rfl
 have P:Tr (λs=>s=σ) (th (gO [fQ])) (λ_ σ'=>FI ⟨U,H,Q,(σ.mode,σ.kept,false)⟩ [] σ'/\∃i,σ'.last=some i/\yS (σ'.nm i) t.name=true):=λs K=>by
  subst K;have⟨c,i,u,z⟩:=g1.fi.clear (ks:=[fQ]) (Q1:=Q1) (a:=lq Q) e1 B.ha B.hk;exact⟨c,i,u,by show yS (s.nm i) _=true;rw[z];exact B.ok⟩
 have T:Tr (λσ'=>FI ⟨U,H,Q,(σ.mode,σ.kept,false)⟩ [] σ'/\∃i,σ'.last=some i/\yS (σ'.nm i) t.name=true) (km none) (λ_ σ'=>FI ⟨U,H,Q,(σ.mode,σ.kept,false)⟩ [] σ'/\∃i,σ'.last=some i/\yS (σ'.nm i) t.name=true):=λs ⟨c,i,u,z⟩=>by
  have:=Hu _ _ s c;cases hm2:km none s with
  |ok a s'=>
   rw[hm2]at this;have⟨o1,o2⟩:=Pr hm2;exact⟨this,i,by grind[N.last],by rw[o2.nm (c.o0 (wF u)).2];exact z⟩
  |_=>trivial
 have A:=ant (Gz ht F) (p:=⟨U,H,Q,(σ.mode,σ.kept,false)⟩) rfl B.nb B.v;rw[e2]at A;exact Tr.bind (S:=λ_=>GI false) P (λ_=>Tr.bind T λ_=>Tr.bind A λ_=>Tr.bind (begun g1 9 I (by decide)) λ_=>Tr.pure λ_ g=>g.1) σ rfl
theorem FI.ahi{p:Pm}(h:FI {p with Q:=p.Q++[s].filter lZ} X σ)(c:σ.gq=o++[some j])(hs:σ.nm j=s):FI p X σ.pop:=by
 have e:σ.ns=o.map σ.mu++[s]:=by unfold N.ns;rw[c,rZ,<-hs];rfl
 have g:=h.ch;rw[e,uP]at g;have hq:=h.q;rw[e,List.filter_append]at hq;have e2:σ.pop={σ with gq:=o}:=by unfold N.pop;rw[c];simp
 rw[e2];exact h.lists rfl rfl rfl g.1 (List.append_cancel_right hq) (λx u=>h.op x (by grind)) (List.nodup_append.1 (c▸h.nd)).1 h.act h.form h.head h.wt h.mo
theorem ane(h:GI false σ)(F:σ.mode=10)(ht:TA t)(z:t.name=gS):kh (λ_=>GI false) (kN t σ):=by
 have⟨U,H,Q,h1,h2,h3⟩:=h;have⟨Q1,q1,q2,i,q3,q4⟩:=h2.ch F;refine Tr.bind (P:=λs=>s=σ) (S:=λ_=>GI false) (λs I=>?_) (λ_=>Tr.bind (λs g=>g) λ_=>Tr.pure λ_ g=>g) σ rfl;subst I;refine Tr.bind (P:=λx=>x=s) (R:=λj c=>Nq ⟨U,H,Q,(s.mode,s.kept,false)⟩ [] t.name j c/\c.last=s.last/\Nx s c/\c.gq=s.gq) (λx K=>?_) (λj=>Tr.bind (λc ⟨A,D,C,E⟩=>?_) λ_=>Tr.pure λ_ g=>g) s rfl;subst K;have:=Ez h1 ht (by rw[z];decide+kernel);cases hr:ku t x with
 |ok j c=>
  rw[hr]at this;refine⟨this.1,this.2.1,this.2.2,?_⟩;unfold ku at hr;split at hr;cases hr;rfl;grind
 |_=>trivial
 have p:c.nm i=LL:=by rw[C.nm (h1.o0 (wF q3)).2];exact q4
 refine(Qa A (by rw[D];exact q3) (by rw[A.1.md.2.2]) (by rw[p,z];decide+kernel) (by rw[z];decide+kernel)).mono λ_ u ⟨T,k2,k3,k4,k5⟩=>?_;have⟨m1,m2,_⟩:=T.1.md;have ho:u.pop.gq=s.gq:=by unfold N.pop;rw[k4,E];simp
 refine⟨U,H,Q,by grind,?_,by grind⟩;rw[m1,m2];exact⟨by grind[GO.ok],by grind,h2.k8,h2.cg,λ_=>⟨Q1,q1,q2,i,by grind[N.last],(by show u.nm i=LL;rw[k5.nm (by have⟨e,c1,_⟩:=C i _ (Option.some_get (h1.o0 (wF q3)).2).symm;grind)];exact p)⟩⟩
theorem aow(ht:TA t)(C:t.name=fQ){p:Pm}:Tr (FI p []) (iL t) (λ_=>FI {p with Q:=p.Q++[fQ]} []):=by
 have s2:∀(j:Nat)(pl:Nat×Nat),Tr (λσ=>(Nq p [] t.name j σ/\σ.gq≠[])/\pl.1≠0/\kJ (σ.nm pl.1)=false) (kD pl j) (λ_ σ=>Nq p [] t.name j σ/\σ.gq≠[]):=λj pl σ ⟨⟨⟨u,E,z,F⟩,I⟩,K,P⟩=>by
  have A:=agH (k:=.el j) u K P (by have⟨e,D,c⟩:=F;grind[KK]);show kh _ (kD pl j σ);cases hr:kD pl j σ with
  |ok a σ'=>
   rw[show Bz pl (.el j) σ=kD pl j σ from rfl,hr]at A;have ho:=(SJ hr).2;exact⟨⟨A.1,by grind,z,F.nx A.2⟩,by grind⟩
  |_=>trivial
 have T:∀j,Tr (Nq p [] t.name j) ky (λpl σ=>(Nq p [] t.name j σ/\σ.gq≠[])/\pl.1≠0/\kJ (σ.nm pl.1)=false):=λj σ h=>by
  have:=zM σ h.1;cases hr:ky σ with
  |ok pl σ'=>
   rw[hr]at this;obtain rfl:=uA hr;exact⟨⟨h,this.2.2.1⟩,this.2.1,this.2.2.2⟩
  |_=>trivial
 have s3:∀j,Tr (λσ=>Nq p [] t.name j σ/\σ.gq≠[]) (oH (some j)) (λ_=>FI {p with Q:=p.Q++[fQ]} []):=λj σ ⟨⟨u,E,z,e,D,c⟩,I⟩=>by
  unfold oH;split;trivial;split;have⟨a,ha,_⟩:=ym (akL I);have:=u.push D z (by rw[ha,c,C];exact⟨Dp a,by decide+kernel⟩) E;rw[c,C,show[fQ].filter lZ=[fQ] by decide+kernel]at this;exact this;trivial
 exact Tr.bind (R:=Nq p [] t.name) (λσ h=>(Ez h ht (by rw[C];decide+kernel)).mono λ_ _ g=>g.1) λj=>Tr.bind (Tr.bind (T j) λpl=>Tr.bind (s2 j pl) λ_=>Tr.bind (s3 j) λ_=>Tr.pure λ_ g=>g) λ_=>Tr.pure λ_ g=>g
theorem S8(h:GI f σ)(e:jI σ.mode)(ht:TA t)(p:t.name=fQ):kh (λ_=>GI f) (rV t σ):=by
 have⟨U,H,Q,h1,_⟩:=h.gb e;have u:gJ (fQ)=7:=by decide+kernel
 refine Tr.bind (S:=λ_=>GI f) (λs c=>acb.gb c) (λ_=>Tr.bind (λs c=>(aow ht p s c.fi).mono λ_ _ g=>c.add (by omega) (by simp[LL]) g) λ_=>Tr.bind (QG 7) λ_=>Tr.pure λs g=>g.gi ⟨by decide,by decide,by decide⟩ λ_ _=>by grind[Dl]) σ h1
def Pe(h:GI f σ)(e:jI σ.mode)(ht:TA t)(hq:lZ t.name=false):kh (λ_=>GI f) (qy t σ):=by
 have⟨U,H,Q,h1,_⟩:=h.gb e;have p:Tr (GB f U H Q σ.kept σ.mode) (uL λσ=>{σ with mode:=if σ.mode=7\/σ.mode=9\/σ.mode=11\/σ.mode=12\/σ.mode=13 then 15 else 14}) (λ_=>GI f):=λs c=>by
  show GI f {s with mode:=_};split;exact(c.mode 15).gi ⟨by decide,by decide,by decide⟩ λ_ g=>absurd rfl g;exact(c.mode 14).gi ⟨by decide,by decide,by decide⟩ λg _=>absurd rfl g
 exact Tr.bind (S:=λ_=>GI f) (λs c=>(vn t ht hq).gb c) (λ_=>Tr.bind p λ_=>Tr.pure λ_ g=>g) σ h1
def Ls(p:Pm)(o:kY)(σ:N):Prop:=FI p [] σ/\∃j,σ.gq=o++[some j]/\BG σ j
theorem Gf(ht:TA t)(hq:lZ t.name=false){p:Pm}:Tr (λσ=>FI p [] σ/\σ.gq=o) (iL t) (λ_=>Ls p o):=by
 have E:Tr (λσ=>FI p [] σ/\σ.gq=o) (ku t) (λj σ=>Nw p [] j σ/\σ.gq=o):=λσ ⟨h,C⟩=>by
  have:=Ey ht hq σ h;cases hr:ku t σ with
  |ok j σ'=>
   rw[hr]at this;refine⟨this,?_⟩;unfold ku at hr;split at hr;cases hr;exact C;grind
  |_=>trivial
 have F:∀j,Tr (λσ=>Nw p [] j σ/\σ.gq=o) ky (λpl σ=>(Nw p [] j σ/\σ.gq=o)/\pl.1≠0/\σ.gq≠[]/\kJ _=false):=λj σ h=>by
  have:=zM σ h.1.1;cases hr:ky σ with
  |ok pl σ'=>
   rw[hr]at this;obtain rfl:=uA hr;exact⟨h,this.2⟩
  |_=>trivial
 have I:∀(j:Nat)(pl:Nat×Nat),Tr (λσ=>(Nw p [] j σ/\σ.gq=o)/\pl.1≠0/\σ.gq≠[]/\kJ _=false) _ (λ_ σ=>(Nw p [] j σ/\σ.gq=o)/\σ.gq≠[]):=λj pl σ ⟨⟨⟨c,e⟩,z⟩,A,u,D⟩=>(Dq (c.f0 (N1 ..)) c A D).mono λ_ σ' g=>⟨⟨⟨g.1,by grind⟩,by grind⟩,by grind⟩;have K:∀j,Tr (λσ=>(Nw p [] j σ/\σ.gq=o)/\σ.gq≠[]) (oH (some j)) (λ_=>Ls p o):=λj σ ⟨⟨⟨c,e⟩,z⟩,u⟩=>by
  unfold oH;split;trivial;split;have g:=c.agG (c.xs j (N1 ..)) u e;exact⟨g.tail,j,by grind,g.xs j (N1 ..)⟩;trivial
 exact Tr.bind E λj=>Tr.bind (Tr.bind (F j) λpl=>Tr.bind (I j pl) λ_=>Tr.bind (K j) λ_=>Tr.pure λ_ g=>g) λ_=>Tr.pure λ_ g=>g
theorem GI.set{f c:Bool}{σ σ':N}{U:jj}{H:Nat->List O}{Q:List O}{m k:Nat}(h:FI ⟨U,H,Q,(m,k,f)⟩ [] σ)(z:σ'.nodes=σ.nodes)(A:σ'.gq=σ.gq)(e:σ'.act=σ.act)(p:σ'.form=σ.form)(u:σ'.head=σ.head)(C:∀x∈σ'.waiting,0<x.2.2.size)(D:σ'.im=c)(E:GO σ'.mode σ'.kept Q σ')(F:PH (EM σ'.mode σ'.kept) U H):GI c σ':=
 ⟨U,H,Q,h.lf z A rfl rfl rfl (λ_ g=>e▸g) (by rw[p];exact h.form) u C (by rw[D]),E,F⟩
theorem M1(h:GI f σ)(u:3<=σ.mode/\σ.mode≠5/\σ.mode≠8/\σ.mode≠10)(ht:TA t)(hq:lZ t.name=false)(b:Bool):kh (λ_=>GI f) (ou t b σ):=by
 have⟨U,H,Q,h1,h2,h3⟩:=h;have e:EM σ.mode σ.kept=σ.mode:=by unfold EM;rw[Xx (by omega)]
 have z:Tr (Ls ⟨U,H,Q,(σ.mode,σ.kept,f)⟩ σ.gq) (FC t.name b>>=λ_=>(uL λσ=>{σ with kept:=σ.mode})>>=λ_=>jq 5>>=λ_=>(Pure.pure ())) (λ_=>GI f):=λs ⟨c,j,g,p⟩=>by
  have⟨m1,m2,m3⟩:=c.md;refine GI.set c rfl rfl rfl rfl rfl c.wt m3 ?_ ?_;refine⟨?_,λ_=>⟨by grind,j,(by unfold N.last;rw[g];exact ub _ _),p.nm⟩,by grind,λ_=>h2.cg u.2.2.2,by grind⟩;show cD s.mode Q _;grind[GO.ok];grind[EM]
 exact Tr.bind (Gf ht hq) (λ_=>z) σ ⟨h1,rfl⟩
theorem PN(h:GI f σ)(c:σ.mode=5):kh (λ_ σ'=>GI f σ'/\σ'.mode=σ.kept) (xv σ):=by
 have⟨U,H,Q,h1,h2,h3⟩:=h;have⟨k1,i,k2,k3⟩:=h2.k5 c;have g:=h1.ade k2 k3;show GI f {σ.pop with mode:=σ.kept}/\_;refine⟨GI.set g rfl rfl rfl rfl rfl g.wt g.md.2.2 ?_ ?_,rfl⟩
 .constructor<;>grind[GO.ok,GO.cg,EM,N.pop]
 grind[EM]
def agr{b:O}(h:yS fR b=true)(e:kJ b=false):lZ b=false\/b=fQ:=by
 by_cases c:b∈qL
 .simp[qL]at c;rcases c with rfl|rfl|rfl|rfl|rfl|rfl|rfl|rfl|rfl|rfl|rfl|rfl|rfl|rfl|rfl|rfl|rfl|rfl<;>first|rfl|(revert h e;decide+kernel)
 exact .inl (lU.2 c)
theorem GB.ame(h:GB f U H Q k m σ)(hs:σ.inScope (gO [fR]) iI=true):Q=[fN,fR]:=by
 have⟨Q1,x,Q2,g1,g2,g3,_,_⟩:=h.fi.X8 (λy p=>by rw[List.mem_singleton.1 (jX.1 p)];decide+kernel) hs;cases List.mem_singleton.1 (jX.1 g2);have⟨Q',e,hm⟩:=h.hi;have c:=h.fi.fk;cases Q' with
 |nil=>exact e
 |cons y Q''=>
  exfalso;rw[e]at c;have p:y=(fQ):=by
   rcases agr c.2.2.1.1 c.2.2.1.2 with g|g;grind[Vy,List.mem_cons_self];exact g
  rw[e]at g1;have u:(fR)∉y::Q'':=λg=>hm _ g (by decide+kernel);have:y∈Q2:=by
   cases Q1 with
   |nil=>
    grind
   |cons a Q1=>
    rw[yF]at g1;injection g1 with _ g1;cases Q1<;>grind
  grind[H9]
def af6(h:GB f U H Q k m σ)(hs:σ.inScope (gO [fR]) iI=true):GI f {σ with mode:=16}:=by
 refine(h.mode 16).gi ⟨by decide,by decide,by decide⟩ λ_ _=>?_;rw[(h.ame hs)];decide+kernel
def acm(h:GI f σ)(c:jI σ.mode):kh (λ_=>GI f) (xn σ):=by
 have⟨U,H,Q,h1,_⟩:=h.gb c;unfold xn;split;exact af6 h1 ‹_›;exact h
theorem acs(h:GI f σ)(c:jI σ.mode){rec:Nat->gF->M Unit}(u:∀σ',GI f σ'->σ'.mode=16->kh (λ_=>GI f) (rec 16 t σ')):kh (λ_=>GI f) (xu rec t σ):=by
 have⟨U,H,Q,h1,_⟩:=h.gb c;unfold xu;split;rename_i p;have g:=af6 h1 p;exact Tr.bind (R:=λ_ s=>s={σ with mode:=16}) (λs e=>by subst e;rfl) (λ_=>Tr.bind (λs e=>by grind[jF]) λ_=>Tr.pure λ_ g=>g) σ rfl;exact h
theorem Mj(h:GI false σ){rec:Nat->gF->M Unit}(D:∀σ',GI true σ'->σ'.mode=σ.mode->σ'.kept=σ.kept->kh (λ_=>GI true) (rec 6 t σ')):kh (λ_=>GI false) (qC rec t σ):=by
 have⟨U,H,Q,p,h2,h3⟩:=h;have C:GI true {σ with im:=true}:=GI.set p rfl rfl rfl rfl rfl p.wt rfl ⟨h2.ok,h2.k5,h2.k8,h2.cg,h2.ch⟩ h3;have A:Tr (GI true) (uL λσ=>{σ with im:=false}) (λ_=>GI _):=λs ⟨U,H,Q,u,c,z⟩=>GI.set u rfl rfl rfl rfl rfl u.wt rfl ⟨c.ok,c.k5,c.k8,c.cg,c.ch⟩ z;exact Tr.bind (S:=λ_=>GI _) (R:=λ_ s=>s={σ with im:=true}) (λs e=>by subst e;rfl) (λ_=>Tr.bind (λs e=>by grind) λ_=>Tr.bind A λ_=>Tr.pure λ_ g=>g) σ rfl
theorem GI.Ha(h:GI false σ)(g:σ.mode=7\/σ.mode=11\/σ.mode=12):GI false {σ with kept:=σ.mode,mode:=8}:=by
 have⟨U,H,Q,c,h2,h3⟩:=h;have e:EM σ.mode σ.kept=σ.mode:=by unfold EM;rw[Xx (by omega)]
 refine GI.set c rfl rfl rfl rfl rfl c.wt c.md.2.2 ?_ ?_;refine⟨?_,by grind,λ_=>g,λ_=>h2.cg (by omega),by grind⟩;show cD σ.mode Q _;grind[GO.ok];grind[EM]
theorem Og(h:GI false σ)(p:σ.mode=7\/σ.mode=11\/σ.mode=12){rec:Nat->gF->M Unit}(c:∀σ',GI false σ'->σ'.mode=8->kh (λ_=>GI false) (rec 8 t σ'))(u:∀σ',GI true σ'->σ'.mode=σ.mode->σ'.kept=σ.kept->kh (λ_=>GI true) (rec 6 t σ')):kh (λ_=>GI false) (nM rec t σ):=by
 unfold nM;split;exact Tr.bind (R:=λ_ s=>s={σ with kept:=σ.mode}) (λs e=>by subst e;rfl) (λ_=>Tr.bind (R:=λ_ s=>s={σ with kept:=σ.mode,mode:=8}) (λs e=>by subst e;rfl) λ_=>Tr.bind (λs e=>by subst e;exact c _ (h.Ha p) rfl) λ_=>Tr.pure λ_ g=>g) σ rfl;exact Tr.bind (λs e=>by grind[Mj]) (λ_=>Tr.pure λ_ g=>g) σ rfl
theorem Mg{α:Type}{c:Prop}[Decidable c]{m1 m2:M α}{R:α->N->Prop}(e:c->kh R (m1 σ))(g:¬c->kh R (m2 σ)):kh R ((if c then m1 else m2) σ):=by
 grind
theorem YS(h:GI false σ)(ht:TA t):kh (λ_=>GI false) (oq t σ):=by
 unfold oq;cases hk:t.k with
 |kE s=>
  refine Mg (λ_=>h) λ_=>?_;split;have⟨U,H,Q,c,h2,h3⟩:=h;refine GI.set c rfl rfl rfl rfl rfl (λx e=>?_) c.md.2.2 ⟨h2.ok,h2.k5,h2.k8,h2.cg,h2.ch⟩ h3;grind[FI.wt,TA.chars];trivial
 |_=>trivial
theorem afp{rec:Nat->gF->M Unit}(p:Fp (rec 6 t)):Tr (FI ⟨U,H,Q,(m,k,false)⟩ []) (qC rec t) (λ_=>FI ⟨U,H,Q,(m,k,false)⟩ []):=by
 have e:∀f c,Tr (FI ⟨U,H,Q,(m,k,f)⟩ []) (uL λσ=>{σ with im:=c}) (λ_=>FI ⟨U,H,Q,(m,k,c)⟩ []):=λf c σ h=>h.lf rfl rfl rfl rfl rfl (λ_ g=>g) h.form rfl h.wt (by have:=h.md;grind);exact Tr.bind (e false true) λ_=>Tr.bind (p _ _) λ_=>Tr.bind (e true false) λ_=>Tr.pure λ_ g=>g
def JF{rec:Nat->gF->M Unit}(c:∀x:Nat×Nat×O,0<x.2.2.size->Fp (rec 6 (ol x))):∀xs:List (Nat×Nat×O),(∀x∈xs,0<x.2.2.size)->Tr (FI ⟨U,H,Q,(m,k,false)⟩ []) (uv rec xs) (λ_=>FI ⟨U,H,Q,(m,k,false)⟩ [])
 |[],_=>Tr.pure λ_ g=>g
 |x::r,h=>Tr.bind (afp (c x (h x (N1 ..)))) λ_=>JF c r λy e=>h y (abv _ e)
def JO:∀xs:List (Nat×Nat×O),(∀x∈xs,0<x.2.2.size)->Fp (uw xs)
 |[],_=>Fp.pure _
 |x::r,h=>Fp.bind (uX _ (h x (N1 ..))) λ_=>JO r λy c=>h y (abv _ c)
theorem Mc(h:GI false σ)(p:σ.mode=8){jt rec:Nat->gF->M Unit}(u:∀x:Nat×Nat×O,0<x.2.2.size->Fp (jt 6 (ol x)))(K:∀m σ',(m=7\/m=11\/m=12)->GI false σ'->σ'.mode=m->kh (λ_=>GI false) (rec m t σ')):kh (λ_=>GI false) (lM jt rec t σ):=by
 have⟨U,H,Q,h1,h2,h3⟩:=h;have I:=h2.k8 p;have e:EM σ.mode σ.kept=σ.kept:=by unfold EM;rw[p];rfl
 have D:EM σ.kept σ.kept=σ.kept:=by unfold EM;split<;>rfl
 have A:Tr (λs=>s=σ) (oM jt) (λ_=>FI ⟨U,H,Q,(σ.mode,σ.kept,false)⟩ []):=λs c=>by
  subst c;unfold oM;split;exact JF u _ h1.wt s h1;exact JO _ h1.wt _ _ s h1
 have C:Tr (FI ⟨U,H,Q,(σ.mode,σ.kept,false)⟩ []) (uL λσ=>{σ with waiting:=[],mode:=σ.kept}) (λ_ s=>GI false s/\s.mode=σ.kept):=λs c=>by
  have⟨m1,m2,m3⟩:=c.md;dsimp only at m1 m2 m3;refine⟨GI.set c rfl rfl rfl rfl rfl (λ_ g=>by cases g) m3 ?_ ?_,m2⟩
  .show GO s.kept s.kept Q _;rw[m2];have z:=h2.ok;rw[e,Xx (by omega)]at z;refine⟨?_,λg=>by omega,λg=>by omega,λ_=>h2.cg (by omega),λg=>by omega⟩;constructor<;>grind[cD.hi,cD.mw]
  grind
 exact Tr.bind (S:=λ_=>GI false) A (λ_=>Tr.bind C λ_=>Tr.bind (R:=λ_=>GI false) (λs ⟨E,F⟩=>by grind[jF]) λ_=>Tr.pure λ_ g=>g) σ rfl
theorem Ik(h:GI false σ)(D:σ.mode=10):kh (λ_=>GI false) (lc σ):=by
 have⟨U,H,Q,h1,h2,h3⟩:=h;have⟨Q1,q1,q2,i,q3,q4⟩:=h2.ch D;unfold lc;split;have I:FI ⟨U,H,Q1,(σ.mode,σ.kept,false)⟩ [] σ.pop:=FI.ahi (p:=⟨U,H,Q1,(σ.mode,σ.kept,false)⟩) (s:=LL) (j:=i) (o:=σ.gq.dropLast) (by
  have:[LL].filter lZ=[LL]:=by decide+kernel
  grind) (YY q3) q4
 have e:EM σ.mode σ.kept=10:=by unfold EM;rw[D];rfl
 have E:=h2.ok;rw[e]at E h3;have K:GB false U H Q (σ.kept) (σ.mode) σ->True:=λ_=>trivial;have⟨Q',e1,e2⟩:=E.hi (by decide);have C:KZ none Q:=h1.fk;have u:lq Q1=fQ/\∃c,Q1=fN::fR::c/\∀y∈c,gJ y≠6:=by
  have z:∃c,Q1=fN::fR::c/\∀y∈c,gJ y≠6:=by
   rw[q1]at e1;cases Q1 with
   |nil=>grind
   |cons a Q1=>
    rw[yF]at e1;injection e1 with ga e1;cases Q1 with
    |nil=>injection e1 with g _;exact absurd g (by simp[LL])
    |cons b Q1=>
     grind
  refine⟨?_,z⟩;have⟨c,e3,_⟩:=z;rw[q1,uP]at C;have⟨a,ga,_⟩:=ym (l:=Q1) (by grind);have:=C.2.1;rw[ga]at this;have A:yS a LL=true:=this.1;rw[SB (x:=LL) (by simp[LL])]at A;unfold lq;rw[ga];exact List.mem_singleton.1 (jX.1 A)
 have F:GB false U H Q1 σ.kept σ.mode σ.pop:=⟨I,u.2,q2,h3.eu (by decide) (by decide)⟩;show GI false {σ.pop with mode:=7};refine(F.mode 7).gi ⟨by decide,by decide,by decide⟩ λ_ _=>?_;rw[u.1];decide+kernel;grind[kh,GI]
theorem Rp(h:GI f σ)(c:σ.mode=16\/σ.mode=17){rec:Nat->gF->M Unit}(p:∀σ',GI f σ'->σ'.mode=6->kh (λ_=>GI f) (rec 6 t σ')):kh (λ_=>GI f) (tR rec t σ):=by
 have⟨U,H,Q,h1,h2⟩:=h.gb ⟨by omega,by omega,by omega⟩;have g:=(h1.mode 6).gi ⟨by decide,by decide,by decide⟩ λ_ _=>by grind
 exact Tr.bind (R:=λ_ s=>s={σ with mode:=6}) (λs e=>by subst e;rfl) (λ_=>Tr.bind (λs e=>by grind[jF]) λ_=>Tr.pure λ_ g=>g) σ rfl
theorem ae6(h:GI f σ)(c:σ.mode=16):kh (λ_=>GI f) (Ii σ):=by
 have⟨U,H,Q,h1,h2⟩:=h.gb ⟨by omega,by omega,by omega⟩;exact(h1.mode 17).gi ⟨by decide,by decide,by decide⟩ λ_ _=>by grind
def N0(m k:Nat)(f:Bool)(σ:N):Prop:=FI ⟨none,λ_=>[],[],(m,k,f)⟩ [] σ/\σ.gq=[]
theorem Z3(h:m≠5/\m≠8):EM m k=m:=by grind[EM]
theorem GI.n0(h:GI f σ)(c:σ.mode<=1):N0 σ.mode σ.kept f σ:=by
 have⟨U,H,Q,h1,h2,h3⟩:=h;have e:EM _ σ.kept=σ.mode:=Z3 (by omega);rw[e]at h3;have⟨g1,g2⟩:=h3.lo c;have g:=h2.ok.lo (by omega);have hq:=h1.q;unfold N.ns at hq;obtain rfl:=funext g2;grind[N0]
theorem N0.gi{c:Nat}(h:N0 m k f σ)(p:c<=1):GI f {σ with mode:=c}:=by
 have e:EM c σ.kept=c:=Z3 (by omega);refine GI.set h.1 rfl rfl rfl rfl rfl h.1.wt h.1.md.2.2 ⟨?_,λg=>?_,λg=>?_,by grind,λg=>?_⟩ ?_
 .rw[h.2];constructor<;>grind
 grind;grind;grind;constructor<;>grind
theorem Uw{R:N->Prop}:Tr R Aq (λpl σ=>R σ/\pl.1=0/\∀e,σ.gU 0=some e->pl.2=e.kids.length):=λσ h=>by
 unfold Aq jg;grind[kh]
def KG(h:GI f σ)(p:σ.mode=0):kh (λ_=>GI f) (nI t σ):=by
 have e:=h.n0 (by omega);unfold nI;cases hk:t.k with
 |iH n q=>
  refine Tr.bind Uw (λpl=>Tr.bind (R:=λ_=>N0 σ.mode σ.kept f) (λs c=>?_) λ_=>(λs c=>?_)) σ e;have g:=c.1.1.ti.add (n:=.dt n) (λ_ h=>by cases h) (λ_ h=>by cases h);exact(aa0 (.inr ⟨⟨_,rfl⟩,c.2.1⟩) (c.1.1.nodes g Nx.add rfl rfl rfl rfl rfl rfl rfl rfl) (λ_ _ g=>absurd c.2.1 g)).mono λ_ u g=>⟨g.1,g.2.trans c.1.2⟩;exact N0.gi ⟨c.1.lf rfl rfl rfl rfl rfl (λ_ g=>g) c.1.form rfl c.1.wt c.1.mo,c.2⟩ (by decide)
 |_=>exact e.gi (by decide)
theorem BE(h:GI f σ)(p:σ.mode=0){rec:Nat->gF->M Unit}(u:∀σ',GI f σ'->σ'.mode=1->kh (λ_=>GI f) (rec 1 t σ')):kh (λ_=>GI f) (kK rec t σ):=by
 have c:=h.n0 (by omega);have g:GI f {σ with jA:=true,mode:=1}:=N0.gi (σ:={σ with jA:=true}) ⟨c.1.lf rfl rfl rfl rfl rfl (λ_ g=>g) c.1.form rfl c.1.wt c.1.mo,c.2⟩ (by decide);exact Tr.bind (λs e=>by grind[jF]) (λ_=>Tr.pure λ_ g=>g) _ rfl
theorem GI.low{c:Nat}(h:FI ⟨U,H,Q,(c,k,f)⟩ [] σ)(m:Nat)(u:m=2\/m=3\/m=4)(hq:Q=if m=3 then [fN,fY]else [fN])(p:σ.gq.length=if m=3 then 2 else 1)(z:PH m U H):GI f {σ with mode:=m}:=by
 have e:EM m σ.kept=m:=Z3 (by omega);refine GI.set h rfl rfl rfl rfl rfl h.wt h.md.2.2 ⟨?_,λg=>?_,λg=>?_,λ_=>?_,λg=>?_⟩ ?_
 .constructor<;>grind
 all_goals grind[LL]
theorem GI.af3(h:GI f σ)(c:2<=σ.mode/\σ.mode<=4):∃U H Q,FI ⟨U,H,Q,(σ.mode,σ.kept,f)⟩ [] σ/\cD σ.mode Q σ.gq.length/\PH σ.mode U H:=by
 have⟨U,H,Q,h1,h2,h3⟩:=h;have e:EM σ.mode σ.kept=σ.mode:=Z3 (by omega);have g:=h2.ok;grind
def agb{p:Pm}(h:FI p X σ){own:Bool}{gG:lu}(g:name≠uG)(c:name≠fN)(u:rH gG):kh (λj σ'=>Nq p X name j σ'/\σ'.gq=σ.gq) (rA name own gG σ):=by
 unfold rA;split;split;have⟨g1,g2⟩:=h.XO (e:=⟨name,gG,none,[]⟩) rfl u g c;exact⟨⟨g1.BI,h.fresh,h.pos,_,g2,rfl⟩,rfl⟩;trivial;have⟨g1,g2⟩:=h.XO (e:=⟨name,[],none,[]⟩) rfl rH.nil g c;exact⟨⟨g1,h.fresh,h.pos,_,g2,rfl⟩,rfl⟩
theorem FI.one{p:Pm}(h:FI p [] σ)(hq:p.Q=[fN])(g:σ.gq.length=1):∃i,σ.gq=[some i]/\σ.nm i=fN/\p.U=some i:=by
 have⟨x,hx⟩:=List.length_eq_one_iff.1 g;obtain⟨i,rfl,z,c⟩:=h.op x (by grind);have e:=h.q;unfold N.ns at e;rw[hx,hq]at e;have e:[σ.nm i].filter lZ=[(fN)]:=e;have u:=by
  have:(fN)∈[σ.nm i].filter lZ:=by rw[e];simp
  exact(List.mem_singleton.1 (List.mem_filter.1 this).1).symm
 have⟨ei,hi⟩:=Option.isSome_iff_exists.1 c;exact⟨i,hx,u,h.ti.uh i ei hi (by grind[N.vi])⟩
def afZ(h:σ.gq=[some i]):σ.last=some i:=by unfold N.last;rw[h];rfl
theorem anr(c:Nq ⟨U,H,[fN],(m,k,false)⟩ [] s j σ)(e:σ.gq.length=1)(p:yS fN s=true)(h:Fs s=true)(hq:lZ s=true)(u:kJ s=false):∃i,U=some i/\kh (λ_ σ'=>FI ⟨U,zc H i s,[fN,s],(m,k,false)⟩ [] σ'/\σ'.gq.length=2) (jT j σ):=by
 have⟨i,e1,e2,e3⟩:=c.1.one rfl e;refine⟨i,e3,(Qb c (afZ e1) c.1.md.2.2 (by grind)).mono λ_ σ' g=>⟨?_,by grind⟩⟩;grind
theorem MZ(h:GI false σ)(u:σ.mode=2){own:Bool}{gG:lu}(z:rH gG):kh (λ_ σ'=>GI false σ'/\σ'.mode=3) (rQ own gG σ):=by
 have⟨U,H,Q,h1,h2,h3⟩:=h.af3 (by omega);obtain⟨rfl,T⟩:=h2.h2 (.inl u);rw[u]at h3;have⟨i,g1,g2,g3,g4,g5⟩:=h3.hi (by decide);have E:∀j,Tr (λs=>Nq ⟨U,H,[fN],(σ.mode,σ.kept,false)⟩ [] fY j s/\s.gq.length=1) (uL λσ=>{σ with head:=some j}) (λ_ s=>Nq ⟨U,H,[fN],(σ.mode,σ.kept,false)⟩ [] fY j s/\s.gq.length=1):=λj s ⟨⟨c,p,A,C⟩,D⟩=>⟨⟨c.lists rfl rfl rfl c.ch c.q c.op c.nd c.act c.form (λi K=>by grind[dl]) c.wt c.mo,p,A,C⟩,D⟩;have F:∀j,Tr (λs=>Nq ⟨U,H,[fN],(σ.mode,σ.kept,false)⟩ [] fY j s/\s.gq.length=1) (jT j) (λ_ s=>FI ⟨U,zc H i fY,[fN,fY],(σ.mode,σ.kept,false)⟩ [] s/\s.gq.length=2):=λj s ⟨c,p⟩=>by
  have⟨i',e,g⟩:=anr c p (by decide+kernel) (by decide+kernel) (by decide+kernel) (by decide+kernel);grind
 have I:Tr (λs=>FI ⟨U,zc H i fY,[fN,fY],(σ.mode,σ.kept,false)⟩ [] s/\s.gq.length=2) (jq 3) (λ_ s=>GI false s/\s.mode=3):=λs ⟨c,p⟩=>by
  refine⟨GI.low c 3 (.inr (.inl rfl)) rfl p ⟨λg=>by omega,λ_=>⟨i,g1,g2,?_,?_,λx x0 xi=>?_⟩⟩,rfl⟩;grind[zc];rw[FB,g4];decide+kernel;grind[zc]
 exact Tr.bind (P:=λs=>s=σ) (λs e=>by subst e;exact(agb h1 (by simp) (by simp) z).mono λ_ _ g=>⟨g.1,by grind⟩) (λj=>Tr.bind (E j) λ_=>Tr.bind (F j) λ_=>Tr.bind I λ_=>Tr.pure λ_ g=>g) σ rfl
def dr:Nat->List O:=zc (λ_=>[]) 0 fN
theorem N0.anq(h:N0 m k f σ){gG:lu}(z:rH gG):FI ⟨some σ.nodes.length,λ_=>[],[],(m,k,f)⟩ [] (σ.add (.el ⟨fN,gG,none,[]⟩)):=by
 exact h.1.tree (({h.1.ti with uh:=λi e c p=>by have:=h.1.ti.uh i e c p;grind}).am6 (λu g=>by grind) (λ_ g=>by cases g)) Nx.add rfl rfl rfl rfl rfl rfl rfl rfl rfl rfl
def Eh(H:Nat->List O)(m k:Nat)(f:Bool)(j:Nat)(σ:N):Prop:=FI ⟨some j,H,[],(m,k,f)⟩ [] σ/\σ.gq=[]/\j≠0/\iV σ j fN
theorem MX(h:GI f σ)(hm:σ.mode=1){own:Bool}{gG:lu}(K:rH gG):kh (λ_ σ'=>GI f σ'/\σ'.mode=2) (rP own gG σ):=by
 have p:=h.n0 (by omega);have T:Tr (λs=>s=σ) (rA fN own gG) (Eh (λ_=>[]) σ.mode σ.kept f):=λs e=>by
  subst e;unfold rA;split;split;exact⟨(p.anq K).BI,p.2,p.1.pos,_,by show(s.add _).gU _=_;rw[N.su],rfl⟩;trivial;exact⟨p.anq rH.nil,p.2,p.1.pos,_,by rw[N.su],rfl⟩
 have s2:∀(j:Nat)(pl:Nat×Nat),Tr (λs=>Eh (λ_=>[]) σ.mode σ.kept f j s/\pl.1=0/\∀e,s.gU 0=some e->pl.2=e.kids.length) (kD pl j) (λ_=>Eh dr σ.mode σ.kept f j):=λj pl s ⟨⟨c,A,u,I,z,D⟩,E,F⟩=>by
  have⟨a,b⟩:=pl;dsimp only at E F;subst E;unfold kD;have⟨ei,hei⟩:=Option.isSome_iff_exists.1 c.ti.wA;rw[hei,z];dsimp only;split;rename_i C;rw[F ei hei]at C|-;have n:=Cq (n:=ei.kids.length) hei z C.1;have⟨ej',g1,g2⟩:=n j I z;refine⟨c.tree (c.ti.put (H':=dr) (n:=ei.kids.length) hei z C.1 (by grind) ?_ (λ_ P=>KS P)) n rfl rfl rfl rfl rfl rfl rfl rfl rfl rfl,A,u,ej',g1,g2.trans D⟩;have e0:=c.ti.hb 0 ei hei;show _=zc (λ_=>[]) 0 fN 0;grind[La,FB,U8,N.vi];trivial
 have s3:∀j,Tr (Eh dr σ.mode σ.kept f j) (oH (some j)) (λ_ s=>FI ⟨some j,dr,[fN],(σ.mode,σ.kept,f)⟩ [] s/\s.gq.length=1/\j≠0):=λj s ⟨c,A,u,e,z,D⟩=>by
  unfold oH;split;trivial;split;have g:=c.push z u (by unfold N.ns;rw[A];exact D) (by grind);grind[Qu,kh];trivial
 have s4:∀j,Tr (λs=>FI ⟨some j,dr,[fN],(σ.mode,σ.kept,f)⟩ [] s/\s.gq.length=1/\j≠0) (jq 2) (λ_ s=>GI f s/\s.mode=2):=λj s ⟨c,A,u⟩=>
  ⟨GI.low c 2 (.inl rfl) rfl A ⟨λg=>by omega,λ_=>⟨j,rfl,u,by unfold dr;rw[FB];decide+kernel,KS u,λx x0 _=>KS x0⟩⟩,rfl⟩
 exact Tr.bind T (λj=>Tr.bind Uw λpl=>Tr.bind (s2 j pl) λ_=>Tr.bind (s3 j) λ_=>Tr.bind (s4 j) λ_=>Tr.pure λ_ g=>g) σ rfl
theorem FI.two{p:Pm}(h:FI p [] σ)(hq:p.Q=[fN,fY])(g:σ.gq.length=2):∃i j,σ.gq=[some i,some j]/\σ.nm i=fN/\σ.nm j=fY:=by
 obtain⟨x,y,c⟩:∃x y,σ.gq=[x,y]:=by
  cases ho:σ.gq with
  |nil=>grind
  |cons x l=>
   cases l<;>grind
 obtain⟨i,rfl,_,_⟩:=h.op x (by grind);obtain⟨j,rfl,_,_⟩:=h.op y (by grind);have e:=h.q;unfold N.ns at e;rw[c,hq]at e;have e:[σ.nm i,σ.nm j].filter lZ=[(fN),(fY)]:=e;grind
theorem PH.E6(h:PH 3 U H):PH 4 U H:=⟨by grind,λ_=>h.hi (by decide)⟩
theorem PK(h:GI f σ)(c:σ.mode=3):kh (λ_ σ'=>GI f σ'/\σ'.mode=4) (As σ):=by
 have⟨U,H,Q,h1,h2,h3⟩:=h.af3 (by omega);obtain⟨rfl,e⟩:=h2.h3 c;rw[c]at h3;have⟨i,j,e1,e2,e3⟩:=h1.two rfl e;exact⟨GI.low (FI.ahi (o:=[some i]) (by rw[show[(fY)].filter lZ=[(fY)] by decide+kernel];exact h1) e1 e3) 4 (.inr (.inr rfl)) rfl (by grind[N.pop]) h3.E6,rfl⟩
theorem ahd{T:M Nat}(u:aeb T fR)(I:∀σ j σ',T σ=.ok j σ'->σ'.gq=σ.gq)(h:GI false σ)(c:σ.mode=4):kh (λ_ σ'=>GI false {σ' with mode:=6}) ((T>>=λj=>jT j>>=λ_=>(Pure.pure ():M Unit)) σ):=by
 have⟨U,H,Q,h1,h2,h3⟩:=h.af3 (by omega);obtain⟨rfl,F⟩:=h2.h2 (.inr c);rw[c]at h3;have⟨i,g1,g2,g3,g4,g5⟩:=h3.hi (by decide);have D:Tr (λs=>s=σ) T (λj s=>Nq ⟨U,H,[fN],(σ.mode,σ.kept,false)⟩ [] fR j s/\s.gq.length=1):=λs e=>by
  subst e;have:=u _ _ s h1;cases hr:T s with
  |ok j p=>grind[kh]
  |_=>trivial
 have E:∀j,Tr (λs=>Nq ⟨U,H,[fN],(σ.mode,σ.kept,false)⟩ [] fR j s/\s.gq.length=1) (jT j) (λ_ s=>GI false {s with mode:=6}):=λj s ⟨A,C⟩=>by
  have⟨i',e,g⟩:=anr A C (by decide+kernel) (by decide+kernel) (by decide+kernel) (by decide+kernel);rw[g1]at e;cases e;refine g.mono λ_ p q=>?_;have z:GB false U (zc H i fR) [fN,fR] σ.kept σ.mode p:=⟨q.1,⟨[],rfl,λ_ g=>by cases g⟩,lU.1 (by decide+kernel),⟨λg=>by omega,λ_=>⟨i,g1,g2,by grind[zc],by rw[FB,g4];decide+kernel,λx K P=>by grind[zc]⟩⟩⟩;exact(z.mode 6).gi ⟨by decide,by decide,by decide⟩ λ_ _=>by decide+kernel
 exact Tr.bind D (λj=>Tr.bind (E j) λ_=>Tr.pure λ_ g=>g) σ rfl
theorem Wx(h:GI false σ)(p:σ.mode=4)(ht:TA t)(u:t.name=fR):kh (λ_=>GI false) (uC t σ):=by
 refine Tr.bind (λs e=>?_) (λ_=>Tr.bind (λs g=>g) λ_=>Tr.pure λ_ g=>g) σ rfl;subst e;refine ahd (u▸Gz ht (by grind)) (λσ j σ' c=>?_) h p;unfold ku at c;split at c;cases c;rfl;grind
theorem OD(h:GI false σ)(p:σ.mode=4){rec:Nat->gF->M Unit}(c:∀σ',GI false σ'->σ'.mode=6->kh (λ_=>GI false) (rec 6 t σ')):kh (λ_=>GI false) (nf rec t σ):=by
 refine Tr.bind (λs e=>?_) (λ_=>Tr.bind (R:=λ_ s=>GI false s/\s.mode=6) (m:=jq 6) (λs g=>⟨g,rfl⟩) λ_=>Tr.bind (λs g=>by grind[jF]) λ_=>Tr.pure λ_ g=>g) σ rfl;subst e;exact ahd (Qk (by simp) (by simp)) (λσ j σ' c=>by cases c;rfl) h p
theorem Tr.and{α:Type}{P c:N->Prop}{m:M α}{R e:α->N->Prop}(h:Tr P m R)(u:Tr c m e):Tr (λσ=>P σ/\c σ) m (λa σ=>R a σ/\e a σ):=λσ ⟨g,p⟩=>by
 have z:=h σ g;have A:=u σ p;cases hr:m σ with
 |ok a s=>grind[kh]
 |_=>trivial
theorem Sf:Tr (λσ=>σ.head=x) (iL t) (λ_ σ=>σ.head=x):=by
 have c:Tr (λσ=>σ.head=x) (ku t) (λ_ σ=>σ.head=x):=λσ h=>by
  unfold ku;split;exact h;trivial
 have e:Tr (λσ=>σ.head=x) ky (λ_ σ=>σ.head=x):=λσ h=>by
  cases hr:ky σ with
  |ok a s=>obtain rfl:=uA hr;exact h
  |_=>trivial
 have p:∀pl j,Tr (λσ=>σ.head=x) (kD pl j) (λ_ σ=>σ.head=x):=λpl j σ h=>by
  unfold kD;split;split;exact h;trivial;trivial
 have u:∀y,Tr (λσ=>σ.head=x) (oH y) (λ_ σ=>σ.head=x):=λy σ h=>by
  grind[oH,kh]
 exact Tr.bind c λj=>Tr.bind (R:=λ_ σ=>σ.head=x) (Tr.bind e λpl=>Tr.bind (p pl j) λ_=>Tr.bind (u _) λ_=>Tr.pure λ_ g=>g) λ_=>Tr.pure λ_ g=>g
structure cS(m k:Nat)(U:jj)(H:Nat->List O)(i j:Nat)(o:kY)(σ:N):Prop where
 fi:FI ⟨U,H,[fN,fY],(m,k,false)⟩ [] σ
 op:σ.gq=some i::some j::o
 hd:σ.head=some j
 nm:σ.nm i=fN
 ph:PH 4 U H
def Bh(σ:N):Prop:=∃k U H i j,cS 4 k U H i j [] σ
def QZ(σ:N):Prop:=∃U H i j x,cS 5 4 U H i j [some x] σ/\BG σ x
theorem cS.erase(h:cS m k U H i j o σ)(u:∀x∈o,lZ (σ.mu x)=false)(g:KZ (some fN) (o.map σ.mu)):FI ⟨U,H,[fN],(m,k,false)⟩ [] {σ with gq:=σ.gq.erase (some j)}/\σ.gq.erase (some j)=some i::o:=by
 have p:=h.fi.nd;rw[h.op]at p;have e:σ.gq.erase (some j)=some i::o:=by
  rw[h.op,rY (by grind),xb]
 rw[e];have c:({σ with gq:=some i::o}).ns=(fN)::o.map σ.mu:=by rw[<-h.nm];rfl
 refine⟨h.fi.lists rfl rfl rfl (by rw[c];exact⟨rfl,g⟩) ?_ (λx z=>h.fi.op x ?_) ?_ h.fi.act h.fi.form h.fi.head h.fi.wt h.fi.mo,rfl⟩
 all_goals grind[Qu,aau]
theorem N.akH(h:σ.mode=m):({σ with mode:=m}:N)=σ:=by cases σ;grind
theorem Bh.gi(h:Bh σ):kh (λ_=>GI false) (nC σ):=by
 have⟨k,U,H,i,j,h⟩:=h;unfold nC;rw[h.hd];unfold jR;split;have⟨g,e⟩:=h.erase (λ_ g=>by cases g) trivial;have:=GI.low g 4 (.inr (.inr rfl)) rfl (by grind) h.ph
 rwa [N.akH g.md.1]at this
 trivial
theorem QZ.gi(h:QZ σ):kh (λ_=>GI false) (nC σ):=by
 have⟨U,H,i,j,x,h,hx⟩:=h;unfold nC;rw[h.hd];unfold jR;split
 .have⟨g,e⟩:=h.erase (λy g=>by cases List.mem_singleton.1 g;exact hx.nm) ⟨⟨GD hx.nm _,Y5 hx.nm⟩,trivial⟩;have⟨m1,m2,m3⟩:=g.md;dsimp only at m1 m2 m3;refine GI.set g rfl rfl rfl rfl rfl g.wt m3 ?_ ?_
  .rw[m1,m2];refine⟨?_,λ_=>⟨by decide,x,?_,hx.nm⟩,by grind,λ_=>lU.1 (by decide+kernel),by grind⟩
   .show cD 4 _ _;constructor<;>grind
   rw[e];rfl
  rw[m1,m2];exact h.ph
 trivial
theorem Rr(h:GI false σ)(c:σ.mode=4){rec:Nat->gF->M Unit}(u:∀σ',Bh σ'->kh (λ_ s=>Bh s\/QZ s) (rec 3 t σ')):kh (λ_=>GI false) (tU rec t σ):=by
 have⟨U,H,Q,h1,h2,h3⟩:=h.af3 (by omega);obtain⟨rfl,p⟩:=h2.h2 (.inr c);rw[c]at h3;have z:Tr (λs=>s=σ) pushHead (λ_=>Bh):=λs e=>by
  subst e;unfold pushHead;cases hd:s.head with
  |none=>
   unfold oH;split;trivial;trivial
  |some j=>
   unfold oH;split;trivial;split;have⟨j0,ej,g1,g2⟩:=h1.head j hd;have⟨i,e1,e2,e3⟩:=h1.one rfl p;have g:=h1.push g1 j0 (by unfold N.ns;rw[e1,g2];show yS (s.nm i) _=true/\_;rw[e2];decide+kernel) (by grind[N.vi]);rw[g2,show[fY].filter lZ=[fY] by decide+kernel]at g;refine⟨s.kept,U,H,i,j,⟨?_,by grind,hd,e2,h3⟩⟩;grind;trivial
 exact Tr.bind (S:=λ_=>GI false) z (λ_=>Tr.bind u λ_=>Tr.bind (R:=λ_=>GI false) (λs g=>g.elim Bh.gi QZ.gi) λ_=>Tr.pure λ_ g=>g) σ rfl
theorem amx(h:cS 4 k U H i j [] σ)(ht:TA t)(hq:lZ t.name=false):kh (λ_ s=>∃x,cS 4 k U H i j [some x] s/\BG s x/\Bh s.pop) (iL t σ):=by
 refine((Gf ht hq).and (Sf) σ ⟨⟨h.fi,h.op⟩,h.hd⟩).mono λ_ s ⟨⟨e,x,c,g⟩,p⟩=>?_;have z:s.pop.gq=[some i,some j]:=by show s.gq.dropLast=_;rw[c];rfl
 have u:=e.ade (by unfold N.last;rw[c];exact ub _ _) g.nm;have⟨i',j',e1,e2,e3⟩:=u.two rfl (by grind);rw[z]at e1;cases e1;exact⟨x,⟨e,c,p,e2,h.ph⟩,g,k,U,H,i,j,⟨u,z,p,e2,h.ph⟩⟩
theorem OO(h:Bh σ)(ht:TA t)(hq:q0 t.name=false):kh (λ_ s=>Bh s\/QZ s) (kN t σ):=by
 have⟨k,U,H,i,j,h⟩:=h;exact Tr.bind (P:=λs=>s=σ) (λs e=>by
  subst e;refine(Ax ht hq s ⟨h.fi,h.op,h.hd⟩).mono λ_ z ⟨c,p,u⟩=>?_;have⟨i',j',e1,e2,e3⟩:=c.two rfl (by grind);rw[p]at e1;cases e1;exact⟨k,U,H,i,j,⟨c,p,u,e2,h.ph⟩⟩) (λ_=>Tr.bind (λs g=>g) λ_=>Tr.pure λ_ g=> .inl g) σ rfl
theorem J3(h:Bh σ)(ht:TA t)(hq:lZ t.name=false)(b:Bool):kh (λ_ s=>Bh s\/QZ s) (ou t b σ):=by
 have⟨k,U,H,i,j,h⟩:=h;have u:Tr (λs=>∃x,cS 4 k U H i j [some x] s/\BG s x/\Bh s.pop) (FC t.name b>>=λ_=>(uL λσ=>{σ with kept:=σ.mode})>>=λ_=>jq 5>>=λ_=>(Pure.pure ())) (λ_ s=>Bh s\/QZ s):=λs ⟨x,c,p,_⟩=>by
  exact .inr ⟨U,H,i,j,x,⟨c.fi.lf rfl rfl rfl rfl rfl (λ_ g=>g) c.fi.form rfl c.fi.wt (by show(5,s.mode,s.im)=(5,4,false);rw[c.fi.md.1,c.fi.md.2.2]),c.op,c.hd,c.nm,c.ph⟩,p⟩
 exact Tr.bind (λs e=>by grind[amx]) (λ_=>u) σ rfl
theorem again{α:Type}{m:M α}(h:kh (λ_ s=>GI f s/\s.mode=n) (m σ)){rec:Nat->gF->M Unit}(c:∀σ',GI f σ'->σ'.mode=n->kh (λ_=>GI f) (rec n t σ')):kh (λ_=>GI f) ((m>>=λ_=>jF rec t>>=λ_=>(Pure.pure ():M Unit)) σ):=
 Tr.bind (R:=λ_ s=>GI f s/\s.mode=n) (λs e=>by grind) (λ_=>Tr.bind (λs g=>by grind[jF]) λ_=>Tr.pure λ_ g=>g) σ rfl
theorem once{α:Type}{m:M α}(h:kh (λ_ s=>GI f s/\s.mode=n) (m σ)):kh (λ_=>GI f) ((m>>=λ_=>(Pure.pure ():M Unit)) σ):=
 Tr.bind (R:=λ_ s=>GI f s/\s.mode=n) (S:=λ_=>GI f) (λs e=>by grind) (λ_=>Tr.pure λ_ g=>g.1) σ rfl
section
variable {rec:Nat->gF->M Unit}{t:gF}{f:Bool}{σ:N}
def WF(h:GI f σ)(c:σ.mode=1)(ht:TA t):kh (λ_=>GI f) (xV t σ):=once (MX h c ht.gG)
def OH(h:GI f σ)(c:σ.mode=1)(e:∀σ',GI f σ'->σ'.mode=2->kh (λ_=>GI f) (rec 2 t σ')):kh (λ_=>GI f) (oF rec t σ):=again (MX h c rH.nil) e
def WH(h:GI false σ)(c:σ.mode=2)(ht:TA t):kh (λ_=>GI false) (xW t σ):=once (MZ h c ht.gG)
def OJ(h:GI false σ)(c:σ.mode=2)(e:∀σ',GI false σ'->σ'.mode=3->kh (λ_=>GI false) (rec 3 t σ')):kh (λ_=>GI false) (oG rec t σ):=again (MZ h c rH.nil) e
def Ep(h:GI f σ)(c:σ.mode=3)(e:∀σ',GI f σ'->σ'.mode=4->kh (λ_=>GI f) (rec 4 t σ')):kh (λ_=>GI f) (mj rec t σ):=again (PK h c) e
def acf(h:GI f σ)(c:σ.mode=5)(e:∀σ',GI f σ'->σ'.mode=σ.kept->kh (λ_=>GI f) (rec σ.kept t σ')):kh (λ_=>GI f) (Ao rec t σ):=again (PN h c) e
theorem Ct(h:GI f σ)(c:3<=σ.mode/\σ.mode≠5/\σ.mode≠8/\σ.mode≠10)(ht:TA t)(hq:lZ t.name=false):kh (λ_=>GI f) (sJ t σ):=Tr.bind (λs e=>by grind[M1]) (λ_=>Tr.pure λ_ g=>g) σ rfl
theorem zT(h:GI f σ)(c:3<=σ.mode/\σ.mode≠5/\σ.mode≠8/\σ.mode≠10)(ht:TA t)(hq:lZ t.name=false):kh (λ_=>GI f) (nR t σ):=Tr.bind (λs e=>by grind[M1]) (λ_=>Tr.pure λ_ g=>g) σ rfl
theorem GI.behind{b:Bool}(h:GI f σ):GI f {σ with behind:=b}:=by
 have⟨U,H,Q,c,h2,h3⟩:=h;exact GI.set c rfl rfl rfl rfl rfl c.wt c.md.2.2 ⟨h2.ok,h2.k5,h2.k8,h2.cg,h2.ch⟩ h3
theorem KJ(h:GI f σ)(c:3<=σ.mode/\σ.mode≠5/\σ.mode≠8/\σ.mode≠10)(ht:TA t)(hq:lZ t.name=false):kh (λ_=>GI f) (pO t σ):=Tr.bind (S:=λ_=>GI f) (λs e=>by grind[Ct]) (λ_=>Tr.bind (R:=λ_=>GI f) (m:=uL _) (λs g=>GI.behind g) λ_=>Tr.pure λ_ g=>g) σ rfl
theorem Ta(h:Bh σ)(ht:TA t)(hq:lZ t.name=false):kh (λ_ s=>Bh s\/QZ s) (sJ t σ):=Tr.bind (λs e=>by grind[J3]) (λ_=>Tr.pure λ_ g=>g) σ rfl
theorem GZ(h:Bh σ)(ht:TA t)(hq:lZ t.name=false):kh (λ_ s=>Bh s\/QZ s) (nR t σ):=Tr.bind (λs e=>by grind[J3]) (λ_=>Tr.pure λ_ g=>g) σ rfl
theorem DD(h:GI false σ)(c:jI σ.mode)(ht:TA t)(hq:q0 t.name=false)(p:∀σ',GI true σ'->σ'.mode=σ.mode->σ'.kept=σ.kept->kh (λ_=>GI true) (rec 6 t σ')):kh (λ_=>GI false) (jN rec t σ):=by
 refine Mg (λ_=>(Tr.bind (λs e=>by grind[kh.mono,Fp.gi,xz]) (λ_=>Tr.pure λ_ g=>g) σ rfl)) λ_=>(Tr.bind (λs e=>by grind[Mj]) (λ_=>Tr.pure λ_ g=>g) σ rfl)
end
def cI(c σ:N):Prop:=σ.gq=c.gq/\Nx c σ
theorem cI.refl(σ:N):cI σ σ:=⟨rfl,λ_ e h=>⟨e,h,rfl⟩⟩
def On{α:Type}(m:M α):Prop:=∀c,Tr (cI c) m (λ_=>cI c)
def On.of{α:Type}{m:M α}(h:∀σ,kh (λ_=>cI σ) (m σ)):On m:=λ_ σ g=>(h σ).mono λ_ _ q=>⟨q.1.trans g.1,g.2.trans q.2⟩
theorem On.pure{α:Type}(a:α):On (Pure.pure a:M α):=λ_=>Tr.pure λ_ g=>g
theorem On.bind{α g:Type}{m:M α}{f:α->M g}(h:On m)(e:∀a,On (f a)):On (m>>=f):=λc=>Tr.bind (h c) λa=>e a c
theorem On.ite{α:Type}{c:Prop}[Decidable c]{a b:M α}(e:On a)(g:On b):On (if c then a else b):=by grind
theorem On.gi{α:Type}{m:M α}(e:On m)(c:Fp m)(h:GI f σ):kh (λ_ σ'=>GI f σ'/\σ'.mode=σ.mode) (m σ):=c.fx h λa σ' g=>by
 have:=e σ σ (cI.refl σ)
 rwa [g]at this
def Qr:On ky:=On.of λσ=>by
 cases hr:ky σ with
 |ok a s=>obtain rfl:=uA hr;exact cI.refl _
 |_=>trivial
def afa(i:Nat):On (jg i):=On.of λσ=>by
 cases hr:jg i σ with
 |ok a s=>obtain rfl:=ny hr;exact cI.refl _
 |_=>trivial
theorem VV(pl:Nat×Nat)(s:O):On (qV pl s):=On.of λσ=>by
 unfold qV;split;rename_i c e;split;split;split;rename_i g ht;split;exact⟨rfl,λi a h=>⟨a,by grind[N.gU,N.np],rfl⟩⟩;trivial;trivial;refine⟨rfl,Nx.trans (b:=σ.add (.tx s)) Nx.add (Nx.set (e0:=c) ?_ rfl)⟩;grind[N.gU,N.add];trivial;trivial
def DL(t:gF):On (jK t):=On.bind Qr λ_=>On.bind (VV _ _) λ_=>On.pure _
theorem adi(pl:Nat×Nat)(nd:A8)(k:Nat->Nd):On (oR pl nd k):=On.of λσ=>by
 unfold oR vk;split;rename_i e c;split;exact⟨rfl,Nx.trans Nx.add (Nx.set c rfl)⟩;trivial;trivial
theorem BU{c:M (Nat×Nat)}(e:On c):On (nj c t):=by
 grind[On.bind,adi,On.pure,nj]
theorem aeR(c:Nat)(own:Bool)(t:gF):On (vC c own t):=by
 refine On.ite (BU Qr) (On.ite (BU λe σ h=>?_) (On.ite (BU (afa 0)) λ_ _ _=>trivial));unfold rI
 all_goals grind[kh,jg]
def Mn(i:Nat):∀L,On (p6 i L)
 |[]=>On.pure _
 |a::r=>On.of λσ=>by
  unfold p6;split;trivial;rename_i e c;split;exact Mn i r σ σ (cI.refl σ);split;trivial;exact Mn i r σ _ ⟨rfl,Nx.set c rfl⟩
def U4(t:gF):On (nN t):=On.of λσ=>by
 unfold nN;split;rename_i i _;refine On.bind (On.of λs=>?_) (λ_=>On.pure _) σ σ (cI.refl σ);unfold uW;split;exact Mn i _ s s (cI.refl s);trivial;trivial
theorem Yv(h:GI f σ)(E:jI σ.mode)(hq:q0 t.name=true->t.name≠fN/\t.name≠fR/\(t.name=fY\/σ.mode=6)):kh (λ_=>GI f) (wC t σ):=by
 cases hn:lZ t.name with
 |false=>grind[kh.mono,Fp.gi,Yu]
 |true=>
  have⟨U,H,Q,h1,h2⟩:=h.gb E;have⟨Q',e1,e2⟩:=h1.hi;have D:t.name∉Q:=by
   intro c;have T:=X4 h1.fi.ch t.name (List.mem_filter.1 (by rw[h1.fi.q];exact c)).1;have u:q0 t.name=true:=by
    cases g:q0 t.name with
    |true=>rfl
    |false=>grind[anN]
   have⟨n1,n2,n3⟩:=hq u;rw[e1]at c;rcases List.mem_cons.1 c with g|c;grind;rcases List.mem_cons.1 c with g|c;grind;rcases n3 with g|g;exact e2 _ c (by rw[g];decide+kernel);have z:=h2 (by omega) (by omega);rw[Xx (by omega),g,e1]at z;have p:Q'≠[]:=λe=>by grind
   have⟨Q1,e3⟩:=Q6 p;grind[Dl]
  have F:σ.inScope (gO [t.name]) kT=false:=by
   cases hi:σ.inScope (gO [t.name]) kT with
   |false=>rfl
   |true=>
    have⟨A,x,C,g1,g2,_⟩:=xF hi;have I:σ.mu x=t.name:=List.mem_singleton.1 (jX.1 g2);refine absurd ?_ D;have hx:x∈σ.gq:=List.mem_reverse.1 (by grind);have K:=h1.fi.q;grind[N.ns]
  exact Tr.bind (P:=λs=>s=σ) (R:=λ_ s=>s=σ) (S:=λ_=>GI f) (m:=tj t.name) (λs e=>Tr.bind (P:=λs=>s=σ) (R:=λ_ s=>s=σ) (λs e=>by subst e;unfold lK;rw[F];rfl) (λ_=>Tr.pure λ_ g=>g) s e) (λ_=>Tr.pure λ_ g=>g▸h) σ rfl
theorem JX:∀(R:List (List O×Ru))(k:O),(ux (some R) k=.nil/\∀p∈R,gO p.1 k=false)\/∃p∈R,gO p.1 k=true/\ux (some R) k=p.2
 |[],_=> .inl ⟨rfl,by grind⟩
 |p::R,k=>by
  cases h:gO p.1 k with
  |true=>exact .inr ⟨p,N1 ..,h,by show(oZ _ k).getD .nil=_;grind[oZ]⟩
  |false=>
   have e:ux (some (p::R)) k=ux (some R) k:=by show(oZ _ k).getD .nil=_;unfold oZ;rw[Xx (by grind)];rfl
   rcases JX R k with⟨c,g⟩|⟨q,c,g⟩
   all_goals grind
theorem akG{P:Ru->Prop}(R:List (List O×Ru))(k:O)(l:List Ru)(u:∀p∈R,gO p.1 k=true->P (jv (p.2::l)))(z:(∀p∈R,gO p.1 k=false)->P (jv l)):P (jv (ux (some R) k::l)):=by
 rcases JX R k with⟨e,g⟩|⟨p,c,h,e⟩
 all_goals grind[jv]
def bY:List O:=[iB,je,iE]
def fa:List O:=[fZ,gS,fS,fW,fV,fX,gN,ig,ij]
inductive fG(f:Bool)(σ:N)(t:gF):Nat->Prop
 |own (h:σ.mode=6\/σ.mode=16\/σ.mode=17\/f=false):fG f σ t σ.mode
 |body (hb:jI σ.mode) (ht:∀n,t.k=.stop n->q0 n=true->n=fN\/n=fR\/n=fY):fG f σ t 6
 |any (ht:t.k=.start fN\/t.k=.iw):fG f σ t 6
 |head (hb:jI σ.mode) (n:O) (hn:n∈bY) (ht:t.k=.start n):fG f σ t 3
 |table (hf:f=false) (hm:σ.mode=11\/σ.mode=12) (h1:∀n,t.k=.start n->n∉fa) (h2:∀n,t.k=.stop n->q0 n=true->n=fY):fG f σ t 7
 |fE (hf:f=false) (hm:σ.mode=15):fG f σ t 14
structure Rk(jt rec:Nat->gF->M Unit)(t:gF):Prop where
 g:∀{m f σ},fG f σ t m->GI f σ->kh (λ_=>GI f) (rec m t σ)
 b:∀{n},t.k=.start n->n∈bY->∀{σ},Bh σ->kh (λ_ s=>Bh s\/QZ s) (rec 3 t σ)
 w:∀x:Nat×Nat×O,0<x.2.2.size->Fp (jt 6 (ol x))
section
variable {lk:Bool}{jt rec:Nat->gF->M Unit}{t:gF}{σ:N}
variable {f:Bool}
def Fp.g1{α:Type}{m:M α}(e:Fp m)(h:GI f σ)(c:jI σ.mode):kh (λ_=>GI f) (m σ):=(e.gi h c).mono λ_ _ g=>g.1
def jw{α:Type}{P:α->Prop}{a:α}{l:List α}(h:P a)(c:∀x∈l,P x):∀x∈a::l,P x:=List.forall_mem_cons.2 ⟨h,c⟩
def uO{α:Type}{P:α->Prop}:∀x∈([]:List α),P x:=λ_ h=>by cases h
theorem zh{R:List (List O×Ru)}{L:List O}{k:O}(c:(L.all λs=>R.any λp=>gO p.1 s)=true)(g:∀p∈R,gO p.1 k=false):k∉L:=λe=>by
 grind
abbrev GR(lk:Bool)(jt rec:Nat->gF->M Unit)(t:gF)(σ:N)(f:Bool)(r:Ru):Prop:=kh (λ_=>GI f) (mH lk jt rec r t σ)
def pT{R:List (List O×Ru)}{n:O}{l:List Ru}(c:∀p∈R,gO p.1 n=true->GR lk jt rec t σ f (jv (p.2::l)))(e:(∀p∈R,gO p.1 n=false)->GR lk jt rec t σ f (jv l)):GR lk jt rec t σ f (jv (ux (some R) n::l)):=akG R n l c e
def NT(t:gF):Prop:=(∀n,t.k≠ .start n)/\∀n,t.k≠ .stop n
def NT.st(h:NT t){P:O->Prop}(n:O)(e:t.k=.stop n)(_:q0 n=true):P n:=absurd e (h.2 n)
theorem Um{sp:nc}(ht:TA t)(hs:∀n,t.k=.start n->n=t.name->GR lk jt rec t σ f (jv [ux sp.start n,sp.jS,sp.iy]))(e:∀n,t.k=.stop n->n=t.name->GR lk jt rec t σ f (jv [ux sp.stop n,sp.kR,sp.iy]))(c:NT t->0<t.chars.size->GR lk jt rec t σ f (jv [sp.blank,sp.kE,sp.iy])/\GR lk jt rec t σ f (jv [sp.kE,sp.iy]))(u:NT t->GR lk jt rec t σ f (jv [sp.gV,sp.iy]))(p:NT t->GR lk jt rec t σ f (jv [sp.iH,sp.iy]))(z:NT t->t.k=.iw\/t.k=.lost->GR lk jt rec t σ f (jv [sp.iw,sp.iy])):GR lk jt rec t σ f (iS sp t):=by
 unfold iS;have h:(∀n,t.k≠ .start n)->(∀n,t.k≠ .stop n)->NT t:=λa b=>⟨a,b⟩;cases hk:t.k with
 |start n=>exact hs n hk (by grind[gF.name])
 |stop n=>exact e n hk (by grind[gF.name])
 |kE s=>
  have g:=c (h (by simp[hk]) (by simp[hk])) (by grind[TA.chars,gF.chars]);grind
 |gV s=>grind
 |iH a b=>grind
 |_=>grind
def XW(p:Rk jt rec t)(ht:TA t)(h:GI f σ)(c:jI σ.mode)(e:t.k=.start t.name):GR lk jt rec t σ f (jv [ux (some lh) t.name,.iq 113,.nothing]):=by
 refine pT ?_ λg=>?_;unfold lh;refine jw (λq=>(O9 ht (nQ (by decide+kernel) _ q)).g1 h c) ?_;refine jw (λq=>(WL ht (nQ (by decide+kernel) _ q)).g1 h c) ?_;refine jw (λq=>(pB t ht (nQ (by decide+kernel) _ q)).g1 h c) ?_;refine jw (λq=>(WJ ht (nQ (by decide+kernel) _ q)).g1 h c) ?_;refine jw (λq=>(WO t ht (IJ (by decide+kernel) _ q)).g1 h c) ?_;refine jw (λq=>Pe h c ht (nQ (by decide+kernel) _ q)) ?_;refine jw (λq=>(Pb ht (nQ (by decide+kernel) _ q)).g1 h c) ?_;refine jw (λq=>KJ h (by have⟨h1,h2,h3⟩:=c;omega) ht (nQ (by decide+kernel) _ q)) ?_;refine jw (λq=>S8 h c ht (List.mem_singleton.1 (jX.1 q))) ?_;refine jw (λq=>(O7 ht (nQ (by decide+kernel) _ q)).g1 h c) ?_;refine jw (λq=>(aaJ ht (nQ (by decide+kernel) _ q) (by decide+kernel)).g1 h c) ?_;refine jw (λq=>(aaJ ht (nQ (by decide+kernel) _ q) (by decide+kernel)).g1 h c) ?_;refine jw (λq=>(WC ht (nQ (by decide+kernel) _ q)).g1 h c) ?_;refine jw (λq=>(adC ht (IJ (by decide+kernel) _ q)).g1 h c) ?_;refine jw (λq=>(Nu ht (nQ (by decide+kernel) _ q)).g1 h c) ?_;refine jw (λq=>(ZF ht (nQ (by decide+kernel) _ q)).g1 h c) ?_;refine jw (λq=>(AU ht (nQ (by decide+kernel) _ q)).g1 h c) ?_;refine jw (λq=>h) ?_;refine jw (λq=>p.g (.head c t.name (jX.1 q) e) h) ?_;refine jw (λq=>(YE t ht).g1 h c) ?_;refine jw (λq=>(Ml t ht).g1 h c) uO;exact(vn t ht (lU.2 (zh (by decide+kernel) g))).g1 h c
theorem ab3(z:Rk jt rec t)(h:GI f σ)(c:jI σ.mode)(A:q0 t.name=true->t.name=fN\/t.name=fR\/t.name=fY\/σ.mode=6):GR lk jt rec t σ f (jv [ux (some lz) t.name,.iq 115,.nothing]):=by
 refine pT ?_ λu=>?_;unfold lz;refine jw (λq=>UF.g1 h c) (jw (λq=>(Kq (nQ (by decide+kernel) _ q)).g1 h c) ?_);refine jw (λq=>acq.g1 h c) (jw (λq=>Yp.g1 h c) ?_);refine jw (λq=>alE.g1 h c) ?_;refine jw (λq=>acv.g1 h c) (jw (λq=>RR.g1 h c) ?_);refine jw (λq=>(Ym (nQ (by decide+kernel) _ q)).g1 h c) (jw (λq=>acs h c λσ' g e=>z.g (e▸ .own (.inr (.inl e))) g) ?_);refine jw (λq=>acm h c) uO;have p:=zh (L:=[fN,fR]) (by decide+kernel) u;simp at p;exact Yv h c λq=>⟨p.1,p.2,by grind⟩
def aeE(u:Rk jt rec t)(ht:TA t)(h:GI f σ)(c:jI σ.mode)(z:∀n,t.k=.stop n->q0 n=true->n=fN\/n=fR\/n=fY\/σ.mode=6):GR lk jt rec t σ f (iS jU t):=
 Um ht (λn p e=>by subst e;exact XW u ht h c p) (λn p e=>by subst e;exact ab3 u h c (z _ p)) (λ_ g=>⟨(Aj g).g1 h c,(Aj g).g1 h c⟩) (λ_=>FP.g1 h c) (λ_=>h) λ_ _=>h
end
section
variable {lk:Bool}{jt rec:Nat->gF->M Unit}{t:gF}{σ:N}{f:Bool}
def pL:List O:=[fN,fR,gN,ig,ij,fW,fX,fV,fZ,fS,gS,fQ]
theorem Cn{n:O}(q:q0 n=true)(h:n∉pL):n=fY:=by
 have:=jX.1 q;grind[pL]
theorem ED{n:O}{P:O->Prop}(g:t.k=.start n):∀c,t.k=.stop c->q0 c=true->P c:=λc e=>by grind
theorem GF{n:O}{P:O->Prop}(g:t.k=.stop n)(h:q0 n=true->P n):∀c,t.k=.stop c->q0 c=true->P c:=λc e=>by grind
theorem BX{b:M Bool}(h:kh (λ_=>GI f) (b σ)):kh (λ_=>GI f) (DJ b σ):=Tr.bind (S:=λ_=>GI f) (λs e=>by grind) (λ_=>Tr.pure λ_ g=>g) σ rfl
theorem pW(c:Rk jt rec t){b:M Bool}(h:kh (λ_=>GI false) (b σ)):kh (λ_=>GI false) (ya rec b t σ):=Tr.bind (R:=λ_=>GI false) (λs e=>by grind) (λx=>by
 cases x with
 |true=>exact Tr.bind (λs g=>c.g (.own (.inr (.inr (.inr rfl)))) g) λ_=>Tr.pure λ_ g=>g
 |false=>grind[Tr.pure]) σ rfl
theorem U9{m:M Unit}(h:GI f σ)(c:kh (λ_=>GI f) (m σ)):kh (λ_=>GI f) (Kv m t σ):=by
 grind[kh,Kv]
def aeN(p:Rk jt rec t)(ht:TA t)(h:GI false σ)(D:σ.mode=13\/σ.mode=9):(σ.mode=13->GR lk jt rec t σ false (iS Du t))/\(σ.mode=9->GR lk jt rec t σ false (iS xH t)):=by
 have A:jI σ.mode:=⟨by omega,by omega,by omega⟩;have u:=Be h A ajn (.inr (.inr rfl));have z:=Be h A Zm (.inl rfl);have c:=λq=>p.g (.body A q) h;exact⟨λ_=>Um ht (λn e _=>pT (jw (λ_=>pW p u) uO) λ_=>c (ED e)) (λn e _=>pT (jw (λ_=>h) (jw (λ_=>U9 h (pW p u)) (jw (λ_=>U9 h (BX u)) uO))) λC=>c (GF e λq=> .inr (.inr (Cn q (zh (by decide+kernel) C))))) (λg _=>⟨c g.st,c g.st⟩) (λg=>c g.st) (λg=>c g.st) (λg _=>c g.st),
  λ_=>Um ht (λn e _=>pT (jw (λ_=>pW p z) uO) λ_=>c (ED e)) (λn e _=>pT (jw (λ_=>h) (jw (λ_=>pW p z) (jw (λ_=>BX z) uO))) λC=>c (GF e λq=> .inr (.inr (Cn q (zh (by decide+kernel) C))))) (λg _=>⟨c g.st,c g.st⟩) (λg=>c g.st) (λg=>c g.st) (λg _=>c g.st)⟩
theorem Es{s:O}{n:O}(q:gO [s] n=true):n=s:=List.mem_singleton.1 (jX.1 q)
theorem Wt(p:Rk jt rec t)(ht:TA t)(h:GI false σ)(z:σ.mode=14\/σ.mode=15):GR lk jt rec t σ false (iS yU t):=by
 have c:jI σ.mode:=⟨by omega,by omega,by omega⟩;refine Um ht (λn u e=>?_) (λn u _=>pT (jw (λ_=>BX (JC h c)) (jw (λ_=>Dz.g1 h c) (jw (λ_=>Bt.g1 h c) uO))) λ_=>h) (λ_ g=>⟨(BT g).g1 h c,(BT g).g1 h c⟩) (λ_=>FP.g1 h c) (λ_=>h) λ_ _=>h;subst e;exact pT (jw (λq=>pW p (JC h c)) (jw (λq=>BX (JC h c)) (jw (λq=>(GX ht (IJ (by decide+kernel) _ q)).g1 h c) (jw (λq=>(zS ht (nQ (by decide+kernel) _ q)).g1 h c) (jw (λq=>(BB ht (nQ (by decide+kernel) _ q)).g1 h c) (jw (λq=>p.g (.any (.inl (by grind[Es]))) h) uO)))))) λ_=>h
def adw(e:Rk jt rec t)(ht:TA t)(h:GI false σ)(u:σ.mode=15):GR lk jt rec t σ false (iS qI t):=
 have g:=JC h ⟨by omega,by omega,by omega⟩;have c:=e.g (.fE rfl u) h
 Um ht (λn p _=>pT (jw (λq=>pW e g) uO) λ_=>c) (λn p _=>pT (jw (λ_=>U9 h (pW e g)) uO) λ_=>c) (λ_ _=>⟨c,c⟩) (λ_=>c) (λ_=>c) λ_ _=>c
end
section
variable {lk:Bool}{jt rec:Nat->gF->M Unit}{t:gF}{σ:N}{f:Bool}
theorem af7{a:O}{m:Nat}(h:gJ a=m)(c:m≠6):a∈(if m=13 then [ig,ij]else if m=12 then [gN]else if m=11 then [fW,fX,fV]else if m=9 then [fZ]else if m=10 then [fS]else [fQ]):=by
 unfold gJ at h
 repeat' split
 all_goals grind[jX]
theorem aeA{ks L:List O}{s a:O}(e:a∈L)(c:(L.all λa=>gO ks a&&yS a s)=true)(g:ks.all lZ=true)(hs:(!Fs s&&lZ s&&!kJ s)=true):dZ ks s a:=by
 constructor<;>grind[lU]
def Rk.own(c:Rk jt rec t){m:Nat}:∀σ',GI false σ'->σ'.mode=m->kh (λ_=>GI false) (rec m t σ'):=λ_ g e=>c.g (e▸ .own (.inr (.inr (.inr rfl)))) g
theorem aj5(u:Rk jt rec t)(ht:TA t)(h:GI false σ)(F:σ.mode=11):GR lk jt rec t σ false (iS oS t):=by
 have A:jI σ.mode:=⟨by omega,by omega,by omega⟩;have z:=(Io h A agF (.inl rfl)).mono λ_ _ g=>g.1;have D:=λP T=>u.g (.table rfl (.inl F) P T) h;have c:NT t->kh (λ_=>GI false) (mH lk jt rec (.o9 7) t σ):=λg=>D (λn e=>absurd e (g.1 n)) g.st;have I:∀a,gJ a=σ.mode->dZ [fW,fV,fX] gN a:=λa E=>aeA (by rw[F]at E;exact af7 E (by decide)) (by decide+kernel) (by decide+kernel) (by decide+kernel);refine Um ht (λn p e=>?_) (λn p _=>pT (jw (λ_=>h) (jw (λ_=>pW u z) (jw (λ_=>U9 h (BX z)) uO))) λC=>D (λK e=>by grind) (GF p λq=>Cn q (zh (by decide+kernel) C))) (λg _=>⟨c g,c g⟩) c c λg _=>c g;subst e;refine pT (jw (λq=>pW u z) (jw (λq=>Iw h A (by omega) (by simp) (by simp) I (by decide+kernel) (by decide) u.own) (jw (λq=>?_) uO))) λC=>D (λK e=>by rw[p]at e;cases e;exact zh (by decide+kernel) C) (ED p);have e:=Es q;exact NB h A (by omega) ht (by grind) (by grind) (by rw[e];decide+kernel) (by decide)
theorem anQ(z:Rk jt rec t)(ht:TA t)(h:GI false σ)(F:σ.mode=12):GR lk jt rec t σ false (iS zR t):=by
 have E:jI σ.mode:=⟨by omega,by omega,by omega⟩;have p:=(Io h E amm (.inr (.inl rfl))).mono λ_ _ g=>g.1;have C:=λT q2=>z.g (.table rfl (.inr F) T q2) h;have c:NT t->kh (λ_=>GI false) (mH lk jt rec (.o9 7) t σ):=λg=>C (λn e=>absurd e (g.1 n)) g.st;refine Um ht (λn u e=>?_) (λn u _=>pT (jw (λ_=>h) (jw (λ_=>U9 h (pW z p)) (jw (λ_=>pW z p) (jw (λ_=>BX p) uO)))) λA=>C (λP e=>by grind) (GF u λq=>Cn q (zh (by decide+kernel) A))) (λg _=>⟨c g,c g⟩) c c λg _=>c g;subst e;refine pT (jw (λq=>pW z p) (jw (λq=>?_) uO)) λA=>C (λP e=>by rw[u]at e;cases e;exact zh (by decide+kernel) A) (ED u);have K:∀s∈[ig,ij],s≠fN/\gJ s=13/\∀a,gJ a=σ.mode->dZ [gN] s a:=λs I=>by
  simp at I;rcases I with rfl|rfl<;>exact⟨by simp,by decide+kernel,λa D=>aeA (by rw[F]at D;exact af7 D (by decide)) (by decide+kernel) (by decide+kernel) (by decide+kernel)⟩
 have⟨g1,g2,g3⟩:=K _ (jX.1 q);exact Wz h E (by omega) ht g1 g3 g2
def WW(u:Rk jt rec t)(ht:TA t)(h:GI false σ)(z:σ.mode=8):GR lk jt rec t σ false (iS lj t):=
 have c:kh _ ((if lk then stuck else lM jt rec t) σ):=Mg (λ_=>trivial) λ_=>Mc h z u.w λm σ' _ g e=>u.own σ' g e;have p:kh _ ((if lk then stuck else oq t) σ):=Mg (λ_=>trivial) λ_=>YS h ht
 Um ht (λ_ _ _=>c) (λ_ _ _=>c) (λ_ _=>⟨p,p⟩) (λ_=>c) (λ_=>c) λ_ _=>c
def amy(C:Rk jt rec t)(ht:TA t)(h:GI false σ)(u:σ.mode=5):GR lk jt rec t σ false (iS rp t):=
 have z:=acf h u λσ' g e=>C.own σ' g e;have c:=(PN h u).mono λ_ _ g=>g.1;have p:=λA=>((DL t).gi (uX t A) h).mono λ_ _ g=>g.1
 Um ht (λ_ _ _=>c) (λ_ _ _=>c) (λ_ g=>⟨p g,p g⟩) (λ_=>c) (λ_=>c) λ_ _=>z
end
section
variable {lk:Bool}{jt rec:Nat->gF->M Unit}{t:gF}{σ:N}{f:Bool}
def aeO(h:GI f σ)(c:0<t.chars.size):kh (λ_=>GI f) (jK t σ):=((DL t).gi (uX t c) h).mono λ_ _ g=>g.1
def PA(h:GI f σ)(c:Nat)(own:Bool):kh (λ_=>GI f) (vC c own t σ):=((aeR c own t).gi FP h).mono λ_ _ g=>g.1
theorem abf(A:Rk jt rec t)(ht:TA t)(h:GI false σ)(hm:σ.mode=7\/(σ.mode=11\/σ.mode=12)/\(∀n,t.k=.start n->n∉fa)/\∀n,t.k=.stop n->q0 n=true->n=fY):GR lk jt rec t σ false (iS AR t):=by
 have F:σ.mode=7\/σ.mode=11\/σ.mode=12:=by omega
 have p:jI σ.mode:=⟨by omega,by omega,by omega⟩;have I:kh (λ_=>GI false) (uR σ):=Yy h p;have C:(∀n,t.k=.stop n->q0 n=true->n=fN\/n=fR\/n=fY)->∀σ',GI true σ'->σ'.mode=σ.mode->σ'.kept=σ.kept->kh (λ_=>GI true) (rec 6 t σ'):=λq σ' g e _=>A.g (.body (by grind) q) g;have P:NT t->kh (λ_=>GI false) (nM rec t σ):=λg=>Og h F (λσ' g e=>A.own σ' g e) (C g.st);refine Um ht (λn z e=>?_) (λn z _=>pT (jw (λ_=>h) (jw (λ_=>BX I) uO)) λK=>(λq=>Mj h (C q)) (GF z λq=> .inr (.inr (Cn q (zh (by decide+kernel) K))))) (λg _=>⟨P g,P g⟩) (λ_=>FP.g1 h p) (λ_=>h) λg _=>(λq=>Mj h (C q)) g.st;subst e;have D:∀{l:List O},(l.all λx=>gO fa x)=true->gO l t.name=true->σ.mode=7:=λhl q=>hm.resolve_right λg=>g.2.1 _ z (jX.1 (List.all_eq_true.1 hl _ (jX.1 q)));have E:∀s,(!Fs s&&lZ s&&!kJ s&&yS fQ s)=true->σ.mode=7->∀a,gJ a=σ.mode->dZ [fQ] s a:=λs u e a T=>by
  simp only[xh]at u;cases List.mem_singleton.1 (af7 (m:=7) (by rwa [e]at T) (by decide));exact aeA (L:=[fQ]) (List.mem_singleton.2 rfl) (by show((gO [fQ] fQ&&yS fQ s)&&true)=true;rw[u.2];decide+kernel) (by decide+kernel) (by grind)
 refine pT ?_ λK=>(λq=>Mj h (C q)) (ED z);refine jw (λq=>Mg (c:=wH t=true) (m1:=jN rec t) (m2:=stuck) (λ_=>DD h p ht (IJ (by decide+kernel) _ q) (C (ED z))) λ_=>trivial) ?_;refine jw (λq=>(Fb ht (nQ (by decide+kernel) _ q)).g1 h p) ?_;refine jw (λq=>A.g (.head p _ (by grind[Es,bY]) z) h) ?_;refine jw (λq=>pW A I) ?_;refine jw (λq=>Iw h p (by omega) (by simp) (by simp) (E _ (by decide+kernel) (D (by decide+kernel) q)) (by decide+kernel) (by decide) A.own) ?_;refine jw (λq=>?_) ?_
 .have u:∀s∈[fW,fV,fX],s≠fN/\gJ s=11/\(!Fs s&&lZ s&&!kJ s&&yS fQ s)=true:=λs u=>by
   simp only[Db,tw,tz]at u;rcases u with rfl|rfl|rfl<;>exact⟨by simp,by decide+kernel,by decide+kernel⟩
  have⟨g1,g2,g4⟩:=u _ (jX.1 q);exact NB h p (by omega) ht g1 (E _ g4 (D (by decide+kernel) q)) g2 (by decide)
 refine jw (λq=>Iw h p (by omega) (by simp) (by simp) (E _ (by decide+kernel) (D (by decide+kernel) q)) (by decide+kernel) (by decide) A.own) ?_;refine jw (λq=>?_) (jw (λq=>?_) uO);have e:=Es q;exact NB h p (by omega) ht (by grind) (by rw[e];exact E _ (by decide+kernel) (D (by decide+kernel) q)) (by rw[e];decide+kernel) (by decide);have e:=Es q;exact Ns h p (by omega) ht (by grind) (by rw[e];exact E _ (by decide+kernel) (D (by decide+kernel) q)) (by rw[e];decide+kernel)
theorem alu(C:t.k≠ .lost)(c:Rk jt rec t)(ht:TA t)(h:GI false σ)(u:σ.mode=10):GR lk jt rec t σ false (iS qi t):=
 have p:=Ik h u
 Um ht (λn A e=>pT (jw (λq=>ane h u ht (by grind[Es])) (jw (λq=>c.g (.any (.inl (by grind[Es]))) h) uO)) λD=>pW c p) (λn A _=>pT (jw (λ_=>BX p) (jw (λ_=>h) uO)) λD=>pW c p) (λ_ z=>⟨aeO h z,pW c p⟩) (λ_=>PA h _ _) (λ_=>h) λ_ g=>c.g (.any (.inr (g.resolve_right C))) h
def Uh{E:Nat}{own:Bool}{z:Option (List (List O×Ru))}(hs:z=none\/z=some [([fN],.iq 146)]/\σ.mode=16)(u:Rk jt rec t)(ht:TA t)(h:GI f σ)(C:σ.mode=16\/σ.mode=17):GR lk jt rec t σ f (iS {nH E own with stop:=z} t):=by
 have p:jI σ.mode:=⟨by omega,by omega,by omega⟩;have c:=Rp h C λσ' g e=>u.g (e▸ .own (.inl e)) g;refine Um ht (λn A _=>pT (jw (λq=>u.g (.body p (ED A)) h) uO) λD=>c) (λn A _=>?_) (λg _=>⟨u.g (.body p g.st) h,c⟩) (λ_=>FP.g1 h p) (λ_=>h) λ_ _=>h;rcases hs with rfl|⟨rfl,g⟩;exact c;exact pT (jw (λ_=>ae6 h g) uO) λD=>c
def acJ(u:Rk jt rec t)(ht:TA t)(h:GI false σ)(p:σ.mode=0):GR lk jt rec t σ false (iS rU t):=
 have c:=BE h p λσ' g e=>u.own σ' g e
 Um ht (λ_ _ _=>c) (λ_ _ _=>c) (λ_ _=>⟨h,c⟩) (λ_=>PA h _ _) (λ_=>KG h p) λ_ _=>c
def Rt(A:Rk jt rec t)(ht:TA t)(h:GI false σ)(p:σ.mode=1):GR lk jt rec t σ false (iS lO t):=
 have c:=OH h p λσ' g e=>A.own σ' g e
 Um ht (λn u _=>pT (jw (λq=>WF h p ht) uO) λz=>c) (λn u _=>pT (jw (λ_=>c) uO) λz=>h) (λ_ _=>⟨h,c⟩) (λ_=>PA h _ _) (λ_=>h) λ_ _=>c
end
section
variable {lk:Bool}{jt rec:Nat->gF->M Unit}{t:gF}{σ:N}{f:Bool}
theorem akc(h:GI f σ)(p:σ.mode=3)(ht:TA t)(hq:q0 t.name=false):kh (λ_=>GI f) (kN t σ):=by
 have⟨U,H,Q,h1,h2,h3⟩:=h.af3 (by omega);obtain⟨rfl,u⟩:=h2.h3 p;refine Tr.bind (P:=λs=>s=σ) (R:=λ_ s=>GI f _) (S:=λ_=>GI f) (λs e=>?_) (λ_=>Tr.bind (R:=λ_=>GI f) (m:=wV) (λs g=>g) λ_=>Tr.pure λ_ g=>g) σ rfl;subst e;refine(Ax ht hq s ⟨h1,rfl,rfl⟩).mono λ_ A ⟨c,z,_⟩=>?_;have:=GI.low c 3 (.inr (.inl rfl)) rfl (by grind) (by grind);rw[N.akH (c.md.1.trans p)]at this;omega
theorem Rv(u:Rk jt rec t)(ht:TA t)(h:GI false σ)(p:σ.mode=2):GR lk jt rec t σ false (iS lQ t):=
 have c:=OJ h p λσ' g e=>u.own σ' g e
 Um ht (λn z _=>pT (jw (λq=>WH h p ht) (jw (λq=>u.g (.any (.inl (by grind[Es]))) h) uO)) λA=>c) (λn z _=>pT (jw (λ_=>c) uO) λA=>h) (λ_ _=>⟨h,c⟩) (λ_=>PA h _ _) (λ_=>h) λ_ _=>c
theorem afB(u:Rk jt rec t)(ht:TA t)(h:GI false σ)(p:σ.mode=3):GR lk jt rec t σ false (iS jV t):=by
 have c:=Ep h p λσ' g e=>u.own σ' g e;refine Um ht (λn A e=>?_) (λn A _=>pT (jw (λ_=>c) (jw (λ_=>(PK h p).mono λ_ _ g=>g.1) uO)) λC=>h) (λ_ z=>⟨aeO h z,c⟩) (λ_=>PA h _ _) (λ_=>h) λ_ _=>c;subst e;exact pT (jw (λq=>zT h (by omega) ht (nQ (by decide+kernel) _ q)) (jw (λq=>Ct h (by omega) ht (nQ (by decide+kernel) _ q)) (jw (λq=>akc h p ht (IJ (by decide+kernel) _ q)) (jw (λq=>u.g (.any (.inl (by grind[Es]))) h) (jw (λ_=>h) uO))))) λC=>c
theorem aaC{P:Ru->Prop}{n:O}(z:t.k=.start n)(A:n∈bY)(c:n≠iB->P (.iq 103))(p:n≠iB->P (.iq 102))(u:P (.iq 101)):P (iS jV t):=by
 have e:iS jV t=jv [ux jV.start n,jV.jS,jV.iy]:=by unfold iS;rw[z]
 have C:∀n∈bY,n≠(fN)/\n≠(fY):=λn h=>by
  grind[bY]
 rw[e];exact akG _ _ _ (jw (λq=>c (by grind[Es])) (jw (λq=>p (by grind[Es])) (jw (λ_=>u) (jw (λq=>absurd (Es q) (by grind)) (jw (λq=>absurd (Es q) (by grind)) uO))))) λg=>absurd A (zh (by decide+kernel) g)
theorem anK{n:O}(c:t.k=.start n)(e:n∈bY):q0 t.name=false/\(n≠iB->lZ t.name=false):=by
 have:t.name=n:=by unfold gF.name;rw[c]
 rw[this];refine⟨IJ (by decide+kernel) _ (jX.2 e),λg=>nQ (l:=[(je),(iE)]) (by decide+kernel) _ (jX.2 ?_)⟩;grind[bY]
def afz(ht:TA t)(h:GI f σ)(c:jI σ.mode){n:O}(e:t.k=.start n)(p:n∈bY):GR lk jt rec t σ f (iS jV t):=
 have hq:=anK e p;have u:=by have⟨h1,h2,h3⟩:=c;omega
 aaC e p (λg=>zT h u ht (hq.2 g)) (λg=>Ct h u ht (hq.2 g)) ((xz t ht hq.1).g1 h c)
def afy(ht:TA t)(h:Bh σ){n:O}(c:t.k=.start n)(e:n∈bY):kh (λ_ s=>Bh s\/QZ s) (mH lk jt rec (iS jV t) t σ):=
 have hq:=anK c e
 aaC (P:=λr=>kh _ (mH lk jt rec r t σ)) c e (λg=>GZ h ht (hq.2 g)) (λg=>Ta h ht (hq.2 g)) (OO h ht hq.1)
theorem T9(u:Rk jt rec t)(ht:TA t)(h:GI false σ)(p:σ.mode=4):GR lk jt rec t σ false (iS mP t):=
 have c:=OD h p λσ' g e=>u.own σ' g e
 Um ht (λn z e=>pT (jw (λq=>Rr h p λσ' b=>u.b z (jX.1 q) b) (jw (λq=>Wx h p ht (by grind[Es])) (jw (λq=>u.g (.any (.inl (by grind[Es]))) h) (jw (λ_=>h) uO)))) λC=>c) (λn z _=>pT (jw (λ_=>c) uO) λC=>h) (λ_ A=>⟨aeO h A,c⟩) (λ_=>PA h _ _) (λ_=>h) λ_ _=>c
end
def ahb:∀(n:Nat)(lk:Bool)(x:Nat×Nat×O),0<x.2.2.size->Fp (gX lk n 6 (ol x))
 |0,_,_,_=>λ_ _ _ _=>trivial
 |n+1,lk,x,hx=>by
  show Fp (mH lk _ _ _ _);have e:iS jU (ol x)=.iq 111:=by show(if mJ _ then _ else _)=_;split<;>rfl
  rw[e];exact Aj hx
def am8{lk:Bool}{jt rec:Nat->gF->M Unit}(ht:TA t)(h:GI f σ)(c:t.k=.start fN\/t.k=.iw):GR lk jt rec t σ f (iS jU t):=by
 rcases c with c|c;have e:iS jU t=.iq 182:=by unfold iS;rw[c];kernel_rfl
 rw[e];exact((U4 t).gi (Ml t ht) h).mono λ_ _ g=>g.1;unfold iS;rw[c];exact h
theorem NI:∀(n:Nat)(lk:Bool)(t:gF),TA t->(∀{m:Nat} {f:Bool} {σ:N},fG f σ t m->GI f σ->kh (λ_=>GI f) (gX lk n m t σ))/\∀{nm:O},t.k=.start nm->nm∈bY->∀{σ:N},Bh σ->kh (λ_ s=>Bh s\/QZ s) (gX lk n 3 t σ)
 |0,_,_,_=>⟨λ_ _=>trivial,λ_ _ _ _=>trivial⟩
 |n+1,lk,t,ht=>by
  have u:Rk (gX true n) (gX lk n) t:=⟨(NI n lk t ht).1,(NI n lk t ht).2,ahb n true⟩;by_cases A:t.k=.lost;have e:∀m,gX lk (n+1) m t=stuck:=λm=>by
   grind[gX]
  exact⟨λ_ _=>by rw[e];trivial,λ_ _ _ _=>by grind⟩
  .refine⟨λ{m f σ} c h=>?_,λz C σ h=>?_⟩
   .rw[zX lk n m t A];cases c with
    |own hf=>
     by_cases p:σ.mode=6\/σ.mode=16\/σ.mode=17
     .rcases p with p|p|p<;>rw[p];exact aeE u ht h ⟨by omega,by omega,by omega⟩ λ_ _ _=> .inr (.inr (.inr p));exact Uh (.inr ⟨rfl,p⟩) u ht h (.inl p);exact Uh (.inl rfl) u ht h (.inr p)
     obtain rfl:f=false:=by grind
     have D:σ.mode=0\/σ.mode=1\/σ.mode=2\/σ.mode=3\/σ.mode=4\/σ.mode=5\/σ.mode=7\/σ.mode=8\/σ.mode=9\/σ.mode=10\/σ.mode=11\/σ.mode=12\/σ.mode=13\/σ.mode=14\/σ.mode=15\/18<=σ.mode:=by omega
     rcases D with p|p|p|p|p|p|p|p|p|p|p|p|p|p|p|p;rw[p];exact acJ u ht h p;rw[p];exact Rt u ht h p;rw[p];exact Rv u ht h p;rw[p];exact afB u ht h p;rw[p];exact T9 u ht h p;rw[p];exact amy u ht h p;rw[p];exact abf u ht h (.inl p);rw[p];exact WW u ht h p;rw[p];exact(aeN u ht h (.inr p)).2 p;rw[p];exact alu A u ht h p;rw[p];exact aj5 u ht h p;rw[p];exact anQ u ht h p;rw[p];exact(aeN u ht h (.inl p)).1 p;rw[p];exact Wt u ht h (.inl p);rw[p];exact adw u ht h p;unfold db;rw[zp (p)];trivial
    |body hb q=>exact aeE u ht h hb λE e g=>by grind
    |any q=>exact am8 ht h q
    |head hb nm C z=>exact afz ht h hb z C
    |table hf p h1 h2=>subst hf;exact abf u ht h (.inr ⟨p,h1,h2⟩)
    |fE hf p=>subst hf;exact Wt u ht h (.inr p)
   rw[zX lk n 3 t A];exact afy ht h z C
def S0(d f l a:Nat):N:={nodes:=[.el ⟨⟨#[]⟩,[],none,[]⟩],gq:=[],act:=[],head:=none,form:=none,mode:=0,kept:=0,waiting:=[],im:=false,jA:=false,gQ:=a,behind:=false,nW:=⟨#[]⟩,iU:=false,fresh:=false,qZ:=d,sB:=f,qu:=l}
theorem aez{c:Nat}{a b:Int}{e:J}(h:Z [r] w e)(p:Rd e r R c (c+1))(q:Z [] e W)(g:W.heap[w.heap.size]?=some (gH #[G 0,G 0,Y kB] 184))(z:r≠w.heap.size):
  Z [r] w (((W.setCell ⟨w.heap.size,0,none⟩ (G a)).setCell ⟨w.heap.size,1,none⟩ (G b)).setCell ⟨w.heap.size,2,none⟩ (Y s))/\Rd (((W.setCell ⟨w.heap.size,0,none⟩ (G a)).setCell ⟨w.heap.size,1,none⟩ (G b)).setCell ⟨w.heap.size,2,none⟩ (Y s)) r R c (c+1)/\(((W.setCell ⟨w.heap.size,0,none⟩ (G a)).setCell ⟨w.heap.size,1,none⟩ (G b)).setCell ⟨w.heap.size,2,none⟩ (Y s)).heap[w.heap.size]?=some (gH #[G a,G b,Y s] 184):=by
 have u:Z [w.heap.size] W (((W.setCell ⟨w.heap.size,0,none⟩ (G a)).setCell ⟨w.heap.size,1,none⟩ (G b)).setCell ⟨w.heap.size,2,none⟩ (Y s)):=(((Z.refl [w.heap.size] W).setCell (.inl (by simp)) _).setCell (.inl (by simp)) _).setCell (.inl (by simp)) _;refine⟨?_,(p.kept q (by simp)).kept u (by grind),gh (gh (gh g 0 _) 1 _) 2 _⟩;exact((((h.trans (q.mono (by simp))).setCell (.inr (ic _)) _).setCell (.inr (ic _)) _).setCell (.inr (ic _)) _)
def FE(r:Nat)(R:RC)(c ps g P:Nat)(u:Nat->Nat)(w:J)(h:Rd w r R c ps)(hA:Po w r R g P u)(hb:c<R.cs.size)(hs:R.cs.size<=1024):
  Calls prog 148 #[gI r] w λe w'=>e=iA (.agg #[G (u c),G (u (c+1)),Y (R.cs.extract c (c+1))])/\Z [r] w w'/\Rd w' r R c (c+1):=by
 have b:=h.bg;have p:=h.ps;have fz:=h.free 3;have hr:=ja h;obtain⟨z,hz⟩:∃z,z=Obj.cells #[G 0,G 0,Y kB] 184 (0,0):=⟨_,rfl⟩;obtain⟨D,A⟩:∃D,D=(w.setCell ⟨r,3,none⟩ (G ((c+1:Nat)))).alloc z:=⟨_,rfl⟩;have K0:Z [r] w D:=by rw[A];exact((Z.refl [r] w).setCell (.inl (by simp)) _).alloc _
 have R0:Rd D r R c (c+1):=by rw[A];exact((Z.refl [] _).alloc z).at (h.QH (c+1)) (by simp)
 have G0:D.heap[w.heap.size]?=some z:=by rw[A];have:=fU (w.setCell ⟨r,3,none⟩ (G ((c+1:Nat)))) z;rwa [World.size_setCell]at this
 have C:=V (λW (hk:Z [] D W)=>rj r R c (c+1) g P u W (R0.kept hk (by simp)) ((hA.kept K0).kept (hk.mono (by simp))) (by omega) (by omega) hs);have HA:=V hA;have a1:=V K0;have E:=V R0;have a0:=V G0;have HZ:=V hz;have a3:=V (show(w.setCell ⟨r,3,none⟩ (G ((c:Int)+1))).alloc (gH #[G 0,G 0,Y kB] 184)=D from by rw[A,hz];congr 1);clear h hA K0 R0 G0 A hz;go_enter func148,ntmps148;go_wp21;rw[a3.out];have a2:=V (show r≠w.heap.size by omega);clear b p fz hr;refine Xz (by rfl) ?_;refine oT (λ(g:Unit) z=>⟨#[gI r,undef,gI w.heap.size,gI r,gI r,gI r,j5 r 2,G c,G ((c:Int)+1),gI r,j5 r 3,cd z 0 (gI r),cd z 1 (.agg #[G (u c),G (u (c+1))]),cd z 2 (gI r),cd z 3 (gI r),cd z 4 (gI r),cd z 5 (Y R.cs),cd z 6 (gI r),cd z 7 (gI r),cd z 8 (j5 r 2),cd z 9 (G c),cd z 10 (gI r),cd z 11 (gI r),cd z 12 (j5 r 3),cd z 13 (G ((c:Int)+1)),cd z 14 (Y (R.cs.extract c (c+1))),cd z 15 (.agg #[G (u c),G (u (c+1)),Y (R.cs.extract c (c+1))])],[]⟩) (λg z W=>if dn z 16=true then (Z [r] w W/\Rd W r R c (c+1)/\W.heap[w.heap.size]?=some (gH #[G (u c),G (u (c+1)),Y (R.cs.extract c (c+1))] 184))else Z [] D W) 17 [[],[0],[],[2],[3],[4],[],[6],[7],[8],[],[10],[11],[12],[5,9,13],[1,14],[0,1,2,3,4,5,6,7,8,9,10,11,12,13,14,15]] (()) rfl rfl ((Z.refl [] D).drew) ?_ ?_
 .repeat' first|exact mg|refine mf ?_ ?_
  all_goals
   rintro g z W hI K hn;simp[Bs]at K;refine N2 rfl ?_;intro K' I;simp only[lH,K];have hb:dn z 16=false:=by simp[K,hn]
   have q:Z [] D W:=by simpa [hb]using hI
   have c0:=(E.out.kept q (by simp)).text;have c2:=(E.out.kept q (by simp)).bg;have c3:=(E.out.kept q (by simp)).ps;have C1:=V (C.out W q);have F:=q.at (a0.out.trans (DZ some HZ.out)) (by simp);have q0:W.cell? ⟨w.heap.size,0,none⟩=some (G 0):=by rw[fP F];rfl
   have q1:W.cell? ⟨w.heap.size,1,none⟩=some (G 0):=by rw[fP F];rfl
   have q2:W.cell? ⟨w.heap.size,2,none⟩=some (Y kB):=by rw[fP F];rfl
   have z0:=gx F 0;have z1:=gx F 1;have z2:=gx F 2;go_simp
   try (rw[sL (by omega),sL (by omega)];go_simp)
   first
   |refine I _ _ ⟨g,?_,by simpa [lY,hb]using q⟩
   |refine C1.out.mono ?_;rintro e W2⟨rfl,a4⟩;refine I _ _ ⟨g,?_,by simpa [lY,hb]using q.trans a4⟩
   |refine I _ _ ⟨g,?_,(sL pX).mpr (aez a1.out E.out q F a2.out)⟩
   simp[pr,wy,lH,K]
 .rintro g W hI;simp only[vJ];rw[sL vO]at hI;have⟨h1,h2,h3⟩:=hI;have H1:=V h1;have H2:=V h2;have H3:=V h3;clear h1 h2 h3;rename_i KK T;refine T _ _ ?_;clear T KK;go_wp2;refine uF (v:=.agg #[G (u c),G (u (c+1)),Y (R.cs.extract c (c+1))]) ?_ rfl ⟨rfl,H1.out,H2.out⟩;have K:=fP H3.out;simp[results,results148,asAddr,Result.andThen,go_sem,K]
def acH(r:Nat)(R:RC)(c ps:Nat)(w:J)(h:Rd w r R c ps)(g:R.nW=⟨#[]⟩):
  Calls prog 80 #[gI r] w λe w'=>e=iA (.bool false)/\Z [] w w':=by
 have o:=h.nW;rw[g]at o;have p:=ja h;go_enter func80,ntmps80;go_wp2;go_ret;exact⟨rfl,Z.refl _ _⟩
theorem VW(c:jL)(o i:Nat)(e:List gP)(h:o+e.length<=c.size)(g:i<o\/o+e.length<=i):(jz c o e)[i]?=c[i]?:=by
 rw[<-qo,li _ _ _ h];grind
theorem Zr(c:jL)(o k:Nat)(e:List gP)(h:o+e.length<=c.size)(g:k<e.length):(jz c o e)[o+k]?=e[k]?:=by
 rw[<-qo,li _ _ _ h];grind
def aoH:Tryz.zeroCells176[188]?=some (jD):=by kernel_rfl
def aoI:Tryz.zeroCells176[189]?=some (jD):=by kernel_rfl
def aoJ:Tryz.zeroCells176[190]?=some (.pointer none):=by kernel_rfl
def aoK:Tryz.zeroCells176[191]?=some (.pointer none):=by kernel_rfl
def aoL:Tryz.zeroCells176[192]?=some (G 0):=by kernel_rfl
def z193:Tryz.zeroCells176[193]?=some (G 0):=by kernel_rfl
def z194:Tryz.zeroCells176[194]?=some (jD):=by kernel_rfl
def aoM:Tryz.zeroCells176[195]?=some (.bool false):=by kernel_rfl
def z196:Tryz.zeroCells176[196]?=some (.bool false):=by kernel_rfl
def aoN:Tryz.zeroCells176[197]?=some (G 0):=by kernel_rfl
def z198:Tryz.zeroCells176[198]?=some (.bool false):=by kernel_rfl
def aat(bs bm c r:Nat)(C:jL)(R:RC)(e ps:Nat)(g:J):Env:={bm:=bm,bB:=c,bR:=r,C0:=C,R0:=yp R e ps,Iu:=7,w0:=g,tv:=jD,ta:=[],bs:=bs}
def Wc(R:RC)(c ps:Nat)(s:O)(b:Bool)(hs:s=R.nW)(e:b=R.cZ):((yp R c ps).setIfInBounds 7 (Y s)).setIfInBounds 8 (.bool b)=yp R c ps:=by
 subst hs e;rfl
theorem aef{f a x:Nat}{e:wN}(h:(S0 d f a x).gU i=some e):e=⟨⟨#[]⟩,[],none,[]⟩:=by
 have:=N.jp h
 match i,this with
 |0,this=>
  have c:some (A8.el ⟨⟨#[]⟩,[],none,[]⟩)=some (.el e):=this;grind
 |i+1,this=>grind[S0]
theorem am3(d f a x:Nat):Wf (S0 d f a x) where
 gq:=λx c=>by cases c
 act:=λx c=>by cases c
 head:=rfl
 form:=rfl
 ji:=λi e h=>by rw[aef h];rfl
 kids:=λi e h k g=>by grind[aef]
 wA:=rfl
theorem amb(bs bm bB z r:Nat)(d f a:Nat)(w W:J)(R:RC)(D:ak8 bm bB z d f a (.func (.func 46) #[gI r] #[]) w W)(hR:Rd W r R 0 0)(ho:R.nW=⟨#[]⟩)(hp:R.cZ=false)(hd:d<=64)(hf:f<=32)(ha:a<=16)(wO:bs<=w.heap.size)(a0:bs<=r):
  ∃C fl,fl 0=z/\RF (aat bs bm bB r C R 0 0 W) fl (S0 d f a 0) W:=by
 have⟨c6,cs,v1,v2,v3,hb,hc6,hru,h1,h2,h3⟩:=D.il;have T:=hru.1;have a2:c6.size=199:=by rw[hc6];simp[DQ,tN]
 have P:4+cs.length<=c6.size:=by rw[T,a2];decide
 have c:=λi p=>VW c6 4 i cs P (by omega);have u:∀i,188<=i->(jz c6 4 cs)[i]?=Tryz.zeroCells176[i]?:=λi p=>by
  rw[c i (.inr (by omega)),hc6];simp only[XD];grind[yQ]
 have a3:z<W.heap.size:=ja D.wA;refine⟨jz c6 4 cs,λi=>if i=0 then z else W.heap.size+i,rfl,⟨⟨_,λ_=> .slice none 0 0,λ_=> .slice none 0 0,jD,jD,jD⟩,rfl,?_⟩⟩;have low:∀i v,i<4->c6[i]?=some v->(jz c6 4 cs)[i]?=some v:=λi v p h=>(c i (.inl p)).trans h;have c0:c6[0]?=some (G d):=by
  rw[hc6];simp[nO,XD,tN]
 have c1:c6[1]?=some (G f):=by
  rw[hc6];simp[nO,XD,tN]
 have c2:c6[2]?=some (G a):=by
  rw[hc6];simp[nO,XD,tN]
 have c3:c6[3]?=some (.func (.func 46) #[gI r] #[]):=by
  rw[hc6];simp[nO,XD,tN]
 have E:(jz c6 4 cs)[184]?=some v1:=by
  rw[c _ (.inr (by omega)),hc6];simp[nO,XD,tN]
 have F:(jz c6 4 cs)[185]?=some v2:=by
  rw[c _ (.inr (by omega)),hc6];simp[nO,XD,tN]
 have I:(jz c6 4 cs)[186]?=some v3:=by
  rw[c _ (.inr (by omega)),hc6];simp[nO,XD,tN]
 have K:(jz c6 4 cs)[187]?=some (iD z):=by
  rw[c _ (.inr (by omega)),hc6];simp[nO,XD,tN]
 exact
  {fr:=Fr.refl _
   env:={J8:=⟨cs,λk hk=>Zr c6 4 k cs P (by omega),hru⟩,Xg:=low 3 _ (by decide) c3,spec:=⟨v1,E,h1⟩,acF:=⟨v2,F,h2⟩,ab2:=⟨v3,I,h3⟩,wA:=K}
   Gv:=⟨low 0 _ (by decide) c0,low 1 _ (by decide) c1,low 2 _ (by decide) c2,hd,hf,ha⟩
   uz:=λi nd p=>by
    match i,p with
    |0,p=>
     have e:nd=.el ⟨⟨#[]⟩,[],none,[]⟩:=by
      have:some (A8.el ⟨⟨#[]⟩,[],none,[]⟩)=some nd:=p;exact(Ki this).symm
     subst e;exact⟨⟨D.wA,pP _ _ _ _,xj _,⟨_,_,_,rfl⟩⟩,pP _ _ _ _,xj _⟩
    |i+1,p=>simp[S0]at p
   inj:=λi j h=>by
    have h':(if i=0 then z else W.heap.size+i)=(if j=0 then z else W.heap.size+j):=h;by_cases p:i=0<;>by_cases hj:j=0<;>simp only[p,hj,↓reduceIte]at h'|- <;>omega
   Dk:=λi j g p hj a5 A=>by simp[Value.ownBlock]at A
   JS:=λi p he=>rfl
   uq:=λi j e g h1 h2 h3 h4 h5=>by simp[Value.ownBlock]at h5
   H6:=λi p he=>rfl
   wf:=am3 d f a 0
   il:=⟨_,hb,{size:=by grind[jE],low:=λi p=>rfl,gq:=(u 188 (by omega)).trans aoH,act:=(u 189 (by omega)).trans aoI,head:=(u 190 (by omega)).trans aoJ,form:=(u 191 (by omega)).trans aoK,mode:=(u 192 (by omega)).trans aoL,kept:=(u 193 (by omega)).trans z193,wait:=(u 194 (by omega)).trans z194,Mi:=(u 195 (by omega)).trans aoM,jA:=(u 196 (by omega)).trans z196,gQ:=(u 197 (by omega)).trans aoN,behind:=(u 198 (by omega)).trans z198}⟩
   qv:=pP _ _ _ _
   ru:=pP _ _ _ _
   JY:=λg A=>by simp[Value.ownBlock]at A
   yK:=xj _
   Ie:=xj _
   qm:=pP _ _ _ _
   Pl:=xj _
   rd:=by
    show W.heap[r]?=some (.cells (((yp R 0 0).setIfInBounds 7 (Y kB)).setIfInBounds 8 (.bool false)) _ _);rw[Wc R 0 0 _ _ ho.symm hp.symm];exact hR
   Wp:=by show 7+1<9;decide
   tok:=pP _ _ _ _
   Ph:=xj _
   bz:=jZ wO D.k.size
   bB:=jZ wO D.new
   bR:=a0
   bN:=λi p=>by
    have a4:i<1:=p;have:i=0:=by omega
    subst this;exact jZ wO D.aoB
   BI:=λh=>by grind[S0]
   ab:=λi g p A=>by simp[Value.ownBlock]at A
   tb:=λg A=>by
    have a1:(jD).ownBlock=some g:=A;simp[Value.ownBlock]at a1
   Pk:=λv hv=>by cases hv}
def TQ.move{E:Env}{g:Nat}(h:TQ E g)(z:Fr E.bs E.w0 w)(D:x9 E.bm w w')(C:∀(b:Nat)(u:Array MapEntry)(p:Nat),w.heap[b]?=some (Obj.map u p)->w'.heap[b]?=some (Obj.map u p)):TQ {E with w0:=w'} g:=by
 have c:=(z.n E.bm).trans D;have A:∀{R:Option _} {v:gP},sU E.bm E.bB g R v E.w0->sU E.bm E.bB g R v w':=by
  intro R v h;cases R with
  |none=>exact h
  |some R=>
   have⟨b,hb⟩:=h;have⟨u,p,hat⟩:=hb.at;exact⟨b,hb.fr c ((C b u p ((z.calm (.inl hb.at)).trans hat)).trans hat.symm)⟩
 have⟨cs,h1,h2,h3⟩:=h.J8;have⟨v1,a1,b1⟩:=h.spec;have⟨v2,a2,b2⟩:=h.acF;have⟨v3,a3,b3⟩:=h.ab2;exact⟨⟨cs,h1,h2,λm I F=>by
  have⟨v0,v1,v2,v3,v4,v5,v6,v7,v8,v9,e,hi⟩:=h3 m I F;exact⟨v0,v1,v2,v3,v4,v5,v6,v7,v8,v9,e,⟨hi.blank.fr c,hi.kE.fr c,hi.gV.fr c,hi.iH.fr c,hi.iw.fr c,A hi.start,A hi.stop,hi.jS.fr c,hi.kR.fr c,hi.iy.fr c⟩⟩⟩,h.Xg,⟨v1,a1,b1.fr c⟩,⟨v2,a2,b2.fr c⟩,⟨v3,a3,b3.fr c⟩,h.wA⟩
structure Lk(w:J)(b:Nat)(look:O->Option O):Prop where
 lt:b<w.heap.size
 short:∀key t,look key=some t->t.size<=16
 run:∀(key:O)(w':J),w'.heap[b]?=w.heap[b]?->(Instr.lookup 156 (.map (some b)) (Y key) true).run prog w'=.ok (.tuple #[.agg #[Y ((look key).getD ⟨#[]⟩)],.bool (look key).isSome]) w'
theorem Lk.kept(h:Lk w b look)(p:Z S w w')(u:b∉S):Lk w' b look:=
 ⟨nr h.lt p.size,h.short,λc g e=>h.run c g (e.trans (p.block b h.lt u))⟩
open Go.ChangeMaps (setBlock)
def Vm(e:MapEntry):gP×gP:=(e.key,e.val)
def kv(p:O×O):gP×gP:=(Y p.1,.agg #[Y p.2])
structure Mp(w:J)(b:Nat)(L:lu)(es:Array MapEntry)(clock:Nat):Prop where
 at_:w.heap[b]?=some (.map es clock)
 dh:es.toList.map Vm=L.map kv
 dA:(es.toList.map (·.born)).Nodup
 old:∀x∈es.toList,x.born<clock
theorem Mp.kept{c:Array MapEntry}(h:Mp w b L c clock)(g:Z S w w')(e:b∉S):Mp w' b L c clock:=⟨g.at h.at_ e,h.dh,h.dA,h.old⟩
theorem RX(k:O):∀(c:List MapEntry)(L:lu)(i:Nat),c.map Vm=L.map kv->L.all (λp=>!(k==p.1))=true->Instr.findNow .string (Y k) c i=some none
 |[],_,_,_,_=>rfl
 |e::c,[],_,h,_=>by grind
 |e::c,p::L,i,h,hn=>by
  simp at h;simp only[List.all_cons,xh]at hn;have g:e.key=Y p.1:=DZ Prod.fst h.1;unfold Instr.findNow;simp[g,Instr.sameNow,(by simpa using hn.1)];exact RX k c L _ h.2 hn.2
theorem UP(k:O):∀(c:List MapEntry)(L:lu)(i:Nat)(p:O×O),c.map Vm=L.map kv->L.find? (λp=>k==p.1)=some p->∃j,Instr.findNow .string (Y k) c i=some (some (j,.agg #[Y p.2]))
 |[],[],_,_,_,h=>by grind
 |[],_::_,_,_,h,_=>by grind
 |e::c,[],_,_,h,_=>by grind
 |e::c,q::L,i,p,h,hp=>by
  simp at h;have g:e.key=Y q.1:=DZ Prod.fst h.1;have u:e.val=.agg _:=DZ Prod.snd h.1;unfold Instr.findNow;cases hf:(k==q.1);simp[g,Instr.sameNow,hf];rw[List.find?_cons,hf]at hp;exact UP k c L _ p h.2 hp;simp[Instr.sameNow];simp_all
theorem DP{a:J}(h:Z S a w)(c:b∈S\/a.heap.size<=b)(o:Obj):Z S a (setBlock w b o):=
 ⟨h.os,h.tape,h.output,by show a.heap.size<=(w.heap.setIfInBounds b o).size;rw[sS];exact h.size,λk e g=>by
  show(w.heap.setIfInBounds b o)[k]?=_;grind[Z.block]⟩
theorem J9(h:b<w.heap.size)(o:Obj):(setBlock w b o).heap[b]?=some o:=by
 show(w.heap.setIfInBounds b o)[b]?=_;grind
theorem tK{u:Array MapEntry}(h:Mp w b L u clock)(k t:O)(D:L.all (λp=>!(k==p.1))=true):
  ∃w' A c,(Instr.mapUpdate 156 (.map (some b)) (Y k) (.agg #[Y t])).run prog w=.ok () w'/\Mp w' b (L++[(k,t)]) A c/\Z [b] w w'/\w'.heap.size=w.heap.size:=by
 refine⟨setBlock w b (.map (u.push {key:=Y k,val:=.agg #[Y t],born:=clock}) (clock+1)),_,_,?_,⟨J9 (ja h.at_) _,?_,?_,?_⟩,DP (Z.refl _ _) (.inl (by simp)) _,?_⟩;have C:(Instr.checkKey false 10000 9 (Y k)).run prog w=.ok () w:=by
  unfold Instr.checkKey;simp[(gy underlying9 _)]
 simp[Instr.mapUpdate,ahu h.at_,C,Instr.findKey,(gy underlying9 _),(RX k u.toList L 0 h.dh D),setObj,Sem.run,h.at_,setBlock,Result.andThen];grind[Mp.dh,Vm,kv];simp;rw[List.nodup_append];refine⟨h.dA,by simp,?_⟩;intro x g y F e;obtain⟨z,E,rfl⟩:=List.mem_map.1 g;have:=h.old z E;grind;intro x g;simp only[Array.toList_push,List.mem_append,List.mem_singleton]at g;rcases g with g|rfl;have:=h.old x g;omega;simp;show(w.heap.setIfInBounds b _).size=_;simp
def qe(L:lu)(k:O):Option O:=(L.find? (λp=>k==p.1)).map (·.2)
def TF(w:J):(zeroValue 202).run prog w=.ok (.agg #[Y kB]) w:=by
 simp
theorem Mp.lk{c:Array MapEntry}(h:Mp w b L c clock)(hs:L.all (λp=>decide (p.2.size<=16))=true):Lk w b (qe L) where
 lt:=ja h.at_
 short k t ht:=by
  unfold qe at ht;grind[Option.map_eq_some_iff]
 run k w' e:=by
  have u:∀x,(Instr.checkKey x 10000 9 (Y k)).run prog w'=.ok () w':=λx=>by
   unfold Instr.checkKey;simp
  cases hf:L.find? (λp=>k==p.1)with
  |none=>
   have g:qe L k=none:=by unfold qe;rw[hf];rfl
   rw[g];simp[Instr.lookup,ahu (e.trans h.at_),u,Instr.findKey,(RX k c.toList L 0 h.dh (by grind)),TF,Result.andThen]
  |some p=>
   have⟨j,h1⟩:=UP k c.toList L 0 p h.dh hf;have g:qe L k=some p.2:=by unfold qe;rw[hf];rfl
   rw[g];simp[Instr.lookup,ahu (e.trans h.at_),u,Instr.findKey,h1,Result.andThen]
open Go.ChangeMaps (setBlock)
def fy:lu:=[(⟨#[97,112,111,115,59]⟩,uH),(oj,⟨#[226,132,151]⟩),(pd,⟨#[226,136,137]⟩),(pg,⟨#[226,136,140]⟩),(og,qO),(⟨#[112,97,114,59]⟩,⟨#[226,136,165]⟩),(oi,⟨#[226,138,160]⟩),(⟨#[98,110,101,59]⟩,⟨#[61,226,131,165]⟩),(⟨#[84,97,98,59]⟩,⟨#[9]⟩),(ng,y8)]
def akK:lu:=[(⟨#[65,77,80]⟩,vG),(⟨#[97,109,112]⟩,vG),(⟨#[108,116]⟩,rG),(⟨#[103,116]⟩,iZ),(⟨#[113,117,111,116]⟩,qq),(⟨#[110,98,115,112]⟩,ut),(⟨#[99,111,112,121]⟩,⟨#[194,169]⟩),(⟨#[110,111,116]⟩,⟨#[194,172]⟩),(⟨#[112,97,114,97]⟩,⟨#[194,182]⟩),(qN,⟨#[195,151]⟩)]
def cP(j:Nat):lu:=fy++(akK.take j).flatMap λp=>[(p.1,p.2),(p.1++⟨#[59]⟩,p.2)]
def Bx(j:Nat):O×O:=akK.getD j (⟨#[]⟩,⟨#[]⟩)
def yt:jL:=#[Y ⟨#[65,77,80]⟩,Y vG,Y ⟨#[97,109,112]⟩,Y vG,Y ⟨#[108,116]⟩,Y rG,Y ⟨#[103,116]⟩,Y iZ,Y ⟨#[113,117,111,116]⟩,Y qq,Y ⟨#[110,98,115,112]⟩,Y ut,Y ⟨#[99,111,112,121]⟩,Y ⟨#[194,169]⟩,Y ⟨#[110,111,116]⟩,Y ⟨#[194,172]⟩,Y ⟨#[112,97,114,97]⟩,Y ⟨#[194,182]⟩,Y qN,Y ⟨#[195,151]⟩]
def ajA:Bool:=(List.range 10).all λj=>(cP j).all (λp=>!((Bx j).1==p.1))&&(cP j++[Bx j]).all (λp=>!(((Bx j).1++⟨#[59]⟩)==p.1))&&decide ((Bx j).1.size<=8)
def agU:ajA=true:=rfl
theorem ajz(h:j<10):(cP j).all (λp=>!((Bx j).1==p.1))=true/\(cP j++[Bx j]).all (λp=>!(((Bx j).1++⟨#[59]⟩)==p.1))=true/\(Bx j).1.size<=8:=by
 have:=List.all_eq_true.1 agU j (List.mem_range.2 h);grind
def adv(h:j<10):yt[j*2]?=some (Y (Bx j).1)/\yt[j*2+1]?=some (Y (Bx j).2):=by
 rcases(by omega:j=0\/j=1\/j=2\/j=3\/j=4\/j=5\/j=6\/j=7\/j=8\/j=9)with rfl|rfl|rfl|rfl|rfl|rfl|rfl|rfl|rfl|rfl<;>exact⟨rfl,rfl⟩
def afT(h:j<10):cP (j+1)=cP j++[Bx j]++[((Bx j).1++⟨#[59]⟩,(Bx j).2)]:=by
 rcases(by omega:j=0\/j=1\/j=2\/j=3\/j=4\/j=5\/j=6\/j=7\/j=8\/j=9)with rfl|rfl|rfl|rfl|rfl|rfl|rfl|rfl|rfl|rfl<;>rfl
def KV:lu:=cP 10
theorem TT:KV.all (λp=>decide (p.2.size<=16))=true:=by rfl
def ahL:KV.all (λp=>decide (p.1.size<=8))=true:=by rfl
def aea:KV.any (λp=>decide (p.1.size=8))=true:=by rfl
def aj6(e:J)(b:Nat)(I:Mp e b [] #[] 0):∃g h p u z A C D E c:J,(Instr.mapUpdate 156 (.map (some b)) (Y ⟨#[97,112,111,115,59]⟩) (.agg #[Y uH])).run prog e=.ok () g/\(Instr.mapUpdate 156 (.map (some b)) (Y oj) (.agg #[Y ⟨#[226,132,151]⟩])).run prog g=.ok () h/\(Instr.mapUpdate 156 (.map (some b)) (Y pd) (.agg #[Y ⟨#[226,136,137]⟩])).run prog h=.ok () p/\(Instr.mapUpdate 156 (.map (some b)) (Y pg) (.agg #[Y ⟨#[226,136,140]⟩])).run prog p=.ok () u/\(Instr.mapUpdate 156 (.map (some b)) (Y og) (.agg #[Y qO])).run prog u=.ok () z/\(Instr.mapUpdate 156 (.map (some b)) (Y ⟨#[112,97,114,59]⟩) (.agg #[Y ⟨#[226,136,165]⟩])).run prog z=.ok () A/\(Instr.mapUpdate 156 (.map (some b)) (Y oi) (.agg #[Y ⟨#[226,138,160]⟩])).run prog A=.ok () C/\(Instr.mapUpdate 156 (.map (some b)) (Y ⟨#[98,110,101,59]⟩) (.agg #[Y ⟨#[61,226,131,165]⟩])).run prog C=.ok () D/\(Instr.mapUpdate 156 (.map (some b)) (Y ⟨#[84,97,98,59]⟩) (.agg #[Y ⟨#[9]⟩])).run prog D=.ok () E/\(Instr.mapUpdate 156 (.map (some b)) (Y ng) (.agg #[Y y8])).run prog E=.ok () c/\(∃F clock,Mp c b fy F clock)/\Z [b] e c/\c.heap.size=e.heap.size:=by
 have⟨g,es1,c1,r1,m1,k1,z1⟩:=tK I ⟨#[97,112,111,115,59]⟩ uH (rfl);have⟨h,es2,c2,r2,m2,k2,z2⟩:=tK m1 oj ⟨#[226,132,151]⟩ (rfl);have⟨p,es3,c3,r3,m3,k3,z3⟩:=tK m2 pd ⟨#[226,136,137]⟩ (rfl);have⟨u,es4,c4,r4,m4,k4,z4⟩:=tK m3 pg ⟨#[226,136,140]⟩ (by rfl);have⟨z,es5,c5,r5,m5,k5,z5⟩:=tK m4 og qO (rfl);have⟨A,es6,c6,r6,m6,k6,z6⟩:=tK m5 ⟨#[112,97,114,59]⟩ ⟨#[226,136,165]⟩ (rfl);have⟨C,es7,c7,r7,m7,k7,z7⟩:=tK m6 oi ⟨#[226,138,160]⟩ (by rfl);have⟨D,es8,c8,r8,m8,k8,z8⟩:=tK m7 ⟨#[98,110,101,59]⟩ ⟨#[61,226,131,165]⟩ rfl;have⟨E,es9,c9,r9,m9,k9,z9⟩:=tK m8 ⟨#[84,97,98,59]⟩ ⟨#[9]⟩ rfl;have⟨c,es10,c10,r10,m10,k10,z10⟩:=tK m9 ng y8 rfl;exact⟨g,h,p,u,z,A,C,D,E,c,r1,r2,r3,r4,r5,r6,r7,r8,r9,r10,⟨_,_,m10⟩,(((((((((k1).trans k2).trans k3).trans k4).trans k5).trans k6).trans k7).trans k8).trans k9).trans k10,by omega⟩
def ak6(w:J)(c bm j:Nat)(wr:J):Prop:=
 (∃g e,Mp wr bm (cP j) g e)/\wr.heap[c]?=some (gH #[.map (some bm),G 0] 158)/\wr.heap[c+1]?=some (gH yt 203)/\wr.heap[w.heap.size]?=some (gH #[.map none,G 0] 158)/\Z [] w wr
def aiN:gP->Nat
 | .string k=>k.size
 |_=>0
structure ak7(w:J)(nb bm it:Nat)(es:Array MapEntry)(ck:Nat)(wr:J)(seen:Array Nat)(c0 M:Nat):Prop where
 iter:wr.heap[it]?=some (.mapIter (some bm) ck seen c0)
 late:ck<=c0
 mp:Mp wr bm KV es ck
 eX:wr.heap[nb]?=some (gH #[.map (some bm),G M] 158)
 dw:wr.heap[w.heap.size]?=some (gH #[.map none,G 0] 158)
 le:M<=8
 XV:∀e∈es.toList,seen.contains e.born=true->aiN e.key<=M
 kept:Z [] w wr
 size:it<wr.heap.size
theorem al0{c:Array MapEntry}(h:c.toList.map Vm=L.map kv){e:MapEntry}(g:e∈c.toList):∃p∈L,e.key=Y p.1:=by
 have:Vm e∈L.map kv:=by grind
 have⟨p,hp,e1⟩:=List.mem_map.1 this;exact⟨p,hp,(DZ Prod.fst e1).symm⟩
theorem afg{c:Array MapEntry}(h:c.toList.map Vm=L.map kv){p:O×O}(g:p∈L):∃e∈c.toList,e.key=Y p.1:=by
 have:kv p∈c.toList.map Vm:=by grind
 have⟨e,he,e1⟩:=List.mem_map.1 this;exact⟨e,he,DZ Prod.fst e1⟩
theorem Wj(w:J):
  Calls prog 58 #[] w λe w'=>∃b,e=iA (.agg #[.map (some b),G 8])/\w.heap.size<=b/\Lk w' b (qe KV)/\Z [] w w':=by
 obtain⟨c,I⟩:∃c,c=w.alloc (.cells #[.map none,G 0] 158):=⟨_,rfl⟩;have za:c.heap.size=w.heap.size+1:=by rw[I];simp
 obtain⟨wb,D⟩:∃wb,wb=c.alloc (.map #[] 0):=⟨_,rfl⟩;have ka:Z [] w c:=by rw[I];exact(Z.refl _ _).alloc _
 have kb:Z [] c wb:=by rw[D];exact(Z.refl _ _).alloc _
 have hA:c.heap[w.heap.size]?=some (gH #[.map none,G 0] 158):=by rw[I];exact fU w _
 have af:Mp wb c.heap.size [] #[] 0:=⟨by rw[D];exact fU c _,rfl,by simp,by simp⟩;have zb:wb.heap.size=c.heap.size+1:=by rw[D];simp
 have⟨w1,w2,w3,w4,w5,w6,w7,w8,w9,w10,r1,r2,r3,r4,r5,r6,r7,r8,r9,r10,⟨es,ck,HM⟩,k10,z10⟩:=aj6 wb c.heap.size af;have ai:(Instr.makeMap 156 none).run prog c=.ok (.map (some c.heap.size)) wb:=by rw[D];rfl
 have ae:=V I.symm;have an:=D.symm;have HK:=(show Z [] w w10 from((ka.trans kb).next k10 (by grind)));have HA:=(show w10.heap[w.heap.size]?=_ from k10.at (kb.at hA (by simp)) (by grind));have Hz:=V (show w10.heap.size=w.heap.size+2 by omega);have K:=V za;clear I D ka kb hA af zb k10 za z10;go_enter func58,ntmps58;go_wp21;rw[ae.out,ai];clear ai ae an;go_wp2_with fail;obtain⟨W,hW⟩:∃W,W=(w10.alloc (.cells #[.map (some c.heap.size),G 0] 158)).alloc (.cells yt 203):=⟨_,rfl⟩;have kW:Z [] w10 W:=by rw[hW];exact((Z.refl _ _).alloc _).alloc _
 have z:W.heap[w10.heap.size]?=some (gH #[.map (some c.heap.size),G 0] 158):=by
  rw[hW,Below.heap_alloc _ _ _ (by simp)];exact fU w10 _
 have F:W.heap[w10.heap.size+1]?=some (gH yt 203):=by
  have:=fU (w10.alloc (.cells #[.map (some c.heap.size),G 0] 158)) (.cells yt 203);rw[hW];simpa using this
 have HS:Hid (ak6 w w10.heap.size c.heap.size 0 W):=⟨⟨es,ck,HM.kept kW (by simp)⟩,z,F,kW.at HA (by simp),HK.trans kW⟩;have al:yt=#[Y ⟨#[65,77,80]⟩,Y vG,Y ⟨#[97,109,112]⟩,Y vG,Y ⟨#[108,116]⟩,Y rG,Y ⟨#[103,116]⟩,Y iZ,Y ⟨#[113,117,111,116]⟩,Y qq,Y ⟨#[110,98,115,112]⟩,Y ut,Y ⟨#[99,111,112,121]⟩,Y ⟨#[194,169]⟩,Y ⟨#[110,111,116]⟩,Y ⟨#[194,172]⟩,Y ⟨#[112,97,114,97]⟩,Y ⟨#[194,182]⟩,Y qN,Y ⟨#[195,151]⟩]:=rfl;rw[al]at hW;rw[<-hW];clear hW kW z F al HM HK HA r1 r2 r3 r4 r5 r6 r7 r8 r9 r10
 go_loopw [30] (λv wr=>∃j:Nat,v=G j/\j<=10/\ak6 w w10.heap.size c.heap.size j wr) (λv _=>10-(intOf v).toNat)
 case atStart=>exact⟨0,rfl,by omega,HS.out⟩
 case round=>
  obtain⟨j,rfl,hj,h1⟩:=hrel;by_cases aa:j<10
  .have⟨⟨es1,ck1,mp1⟩,z,F,hR,hk⟩:=h1;have rc:=adv aa;have x0:wr.cell? ⟨w10.heap.size+1,j*2,none⟩=some (Y (Bx j).1):=by rw[fP F];exact rc.1
   have x1:wr.cell? ⟨w10.heap.size+1,j*2+1,none⟩=some (Y (Bx j).2):=by rw[fP F];exact rc.2
   have⟨n1,n2,n3⟩:=ajz aa;have ks:=afT aa;generalize hn:(Bx j).1=nm at *;generalize ht:(Bx j).2=tx at *;have aj:Bx j=(nm,tx):=by rw[<-hn,<-ht]
   rw[aj]at n2 ks;clear hn ht aj;obtain⟨W1,a3⟩:∃W1,W1=wr.alloc (.cells #[Y nm,Y tx] 203):=⟨_,rfl⟩;have kk:Z [] wr W1:=by rw[a3];exact(Z.refl _ _).alloc _
   have hX:W1.heap[wr.heap.size]?=some (gH #[Y nm,Y tx] 203):=by rw[a3];exact fU wr _
   have⟨W2,es2,ck2,ru2,mp2,k2,s2⟩:=tK (mp1.kept kk (by simp)) nm tx n1;have⟨W3,es3,ck3,ru3,mp3,k3,s3⟩:=tK mp2 (nm++⟨#[59]⟩) tx n2;have ap:=ja mp1.at_;have ay:=ja z;have bN:c.heap.size≠w10.heap.size:=λe=>by rw[<-e,mp1.at_]at z;simp at z
   have bG:c.heap.size≠w10.heap.size+1:=λe=>by rw[<-e,mp1.at_]at F;simp at F
   have bR:c.heap.size≠w.heap.size:=λe=>by rw[<-e,mp1.at_]at hR;simp at hR
   have a6:=kk.at z (by simp);have a7:=k2.at a6 (by grind);have a8:=k2.at hX (by simp;omega);have a0:=fP z 0;have a1:=fP a6 0;have a2:=fP a7 0;have y0:=fP hX 0;have y1:=fP hX 1;have z0:=fP a8 0;have z1:=fP a8 1;dsimp at a0 a1 a2 y0 y1 z0 z1;have HE:Hid (ak6 w w10.heap.size c.heap.size (j+1) W3):=by
    refine⟨⟨es3,ck3,by rw[ks];exact mp3⟩,k3.at a7 (by grind),k3.at (k2.at (kk.at F (by simp)) (by grind)) (by grind),k3.at (k2.at (kk.at hR (by simp)) (by grind)) (by grind),?_⟩;have aB:=K.out;exact((hk.trans kk).next k2 (by simp;omega)).next k3 (by simp;omega)
   rw[a3]at ru2;clear a1 y0 y1 mp1 z F hR hk rc n1 n2 ks kk hX mp2 k2 s2 mp3 k3 s3 a6 a7 a8 bN bG bR ap;clear a3;go_wp2;go_roundw
   case rel=>exact⟨j+1,by go_num,by omega,HE.out⟩
   case measure=>simp[intOf];omega
  .have ao:j=10:=by omega
   subst ao;have⟨⟨es1,ck1,mp1⟩,z,F,hR,hk⟩:=h1;have a0:=fP z 0;dsimp at a0;have ar:=run_range_map (P:=prog) wr 156 9 202 c.heap.size es1 ck1 underlying156 mp1.at_;have ki:Z [] wr (wr.alloc (.mapIter (some c.heap.size) ck1 #[] ck1)):=(Z.refl _ _).alloc _;have ad:Hid (ak7 w w10.heap.size c.heap.size wr.heap.size es1 ck1 (wr.alloc (.mapIter (some c.heap.size) ck1 #[] ck1)) #[] ck1 0):=
    ⟨fU wr _,ic _,mp1.kept ki (by simp),ki.at z (by simp),ki.at hR (by simp),by omega,by simp,hk.trans ki,by simp⟩
   have bI:w10.heap.size≠wr.heap.size:=by have:=ja z;omega
   have bR:w.heap.size≠wr.heap.size:=by have:=ja hR;omega
   have bM:c.heap.size≠wr.heap.size:=by have:=ja mp1.at_;omega
   have C:w.heap.size≠w10.heap.size:=by have:=Hz.out;omega
   have A:w10.heap.size≠c.heap.size:=by have:=Hz.out;have:=K.out;omega
   have ac:=(show w.heap.size<=wr.heap.size from hk.size);have Hb:=And.intro bI (And.intro bR (And.intro bM (And.intro C A)));clear mp1 z F hR hk ki bI bR bM C A;go_wp21;clear ar a0;obtain⟨E,ah⟩:∃E,E=wr.heap.size:=⟨_,rfl⟩;rw[<-ah]at ad Hb ac|-;clear ah
   go_loopw [] (λwq=>∃g c0 M,ak7 w w10.heap.size c.heap.size E es1 ck1 wq g c0 M) (λwq=>(leftOf es1 (wq.iterSeen E)).size)
   case atStart=>exact⟨_,_,_,ad.out⟩
   case round=>
    have⟨g,c0,M,h2⟩:=hrel;have⟨bI,bR,bM,C,A⟩:=Hb;have ab:wr.iterSeen E=g:=by unfold World.iterSeen;rw[h2.iter]
    rcases run_next_at (P:=prog) wr 0 E c.heap.size ck1 c0 g es1 ck1 h2.iter h2.mp.at_ h2.mp.old h2.late with⟨h0,a5⟩|⟨T,a9,wv,au,a5⟩
    .have hM:M=8:=by
      have h8:=aea;rw[List.any_eq_true]at h8;have⟨p,hp,ak⟩:=h8;have⟨e,he,hk⟩:=afg h2.mp.dh hp;have h9:=h2.XV e he (all_seen es1 g h0 e he);rw[hk]at h9;have aw:p.1.size=8:=by simpa using ak
      have ax:p.1.size<=M:=h9;have:=h2.le;omega
     subst hM;have n0:=fP h2.eX 0;have n1:=fP h2.eX 1;have d0:=fP h2.dw 0;have d1:=fP h2.dw 1;have f0:=gx h2.dw 0;have f1:=gx h2.dw 1;dsimp at n0 n1 d0 d1;have HK:Z [] w ((wr.setCell ⟨w.heap.size,0,none⟩ (.map (some c.heap.size))).setCell ⟨w.heap.size,1,none⟩ (G 8)):=(h2.kept.setCell (.inr (ic _)) _).setCell (.inr (ic _)) _;have kr:Z [w.heap.size] wr ((wr.setCell ⟨w.heap.size,0,none⟩ (.map (some c.heap.size))).setCell ⟨w.heap.size,1,none⟩ (G 8)):=((Z.refl _ _).setCell (.inl (by simp)) _).setCell (.inl (by simp)) _;have HL:=((h2.mp.kept kr (by simp;have:=K.out;omega)).lk TT);have aq:w.heap.size<=c.heap.size:=by have:=K.out;omega
     clear h2 ab h0 kr bI bR bM C A;go_wp2;refine uF (v:=.agg #[.map (some c.heap.size),G 8]) ?_ rfl ⟨_,rfl,aq,HL,HK⟩;simp[results,results58,asAddr,Result.andThen,go_sem,d0,d1]
    .have⟨he1,he2⟩:=mem_left a9;have⟨p,hp,hkey⟩:=al0 h2.mp.dh he1;have ak:p.1.size<=8:=by
      have:=List.all_eq_true.1 ahL p hp
      simpa using this
     have av:=left_shrinks es1 g T a9;obtain⟨wz,a4⟩:∃wz,wz=setBlock wv E (.mapIter (some c.heap.size) ck1 (g.push T.born) ck1):=⟨_,rfl⟩;rw[<-a4,hkey]at a5;have u:Z [] wr wv:=by rcases au with rfl|rfl;exact Z.refl _ _;exact(Z.refl _ _).drew
     have kz:Z [E] wv wz:=by rw[a4];exact DP (Z.refl _ _) (.inl (by simp)) _
     have iz:wz.heap[E]?=some (.mapIter (some c.heap.size) ck1 (g.push T.born) ck1):=by rw[a4];exact J9 (nr h2.size u.size) _
     have mz:=(h2.mp.kept u (by simp)).kept kz (by simpa using bM);have nz:=kz.at (u.at h2.eX (by simp)) (by simpa using bI);have rz:=kz.at (u.at h2.dw (by simp)) (by simpa using bR);have ag:=run_entry_at (P:=prog) wz E c.heap.size ck1 g es1 ck1 T iz mz.at_ he1 mz.dA;rw[hkey]at ag;have n1:=fP nz 1;have f1:=gx nz 1;dsimp at n1;have az:max (M:Int) (p.1.size:Int)=((max M p.1.size:Nat):Int):=by omega
     have ks:Z [w10.heap.size] wz (wz.setCell ⟨w10.heap.size,1,none⟩ (G ((max M p.1.size:Nat)))):=(Z.refl _ _).setCell (.inl (by simp)) _;have am:=gh nz 1 (G ((max M p.1.size:Nat)));have HE:Hid (ak7 w w10.heap.size c.heap.size E es1 ck1 (wz.setCell ⟨w10.heap.size,1,none⟩ (G ((max M p.1.size:Nat)))) (g.push T.born) ck1 (max M p.1.size)):=by
      refine⟨ks.at iz (by simpa using λe=>bI e.symm),ic _,mz.kept ks (by simpa using λe=>A e.symm),am,ks.at rz (by simpa using C),by have:=h2.le;omega,?_,?_,?_⟩;intro e he hc;rw[contains_push]at hc;rcases Bool.or_eq_true_iff.1 hc with h|h;have:=h2.XV e he h;omega;have e1:e.born=T.born:=by simpa using h
      have e2:e=T:=by
       have q1:=find_born e es1.toList h2.mp.dA he;have q2:=find_born T es1.toList h2.mp.dA he1;rw[e1,q2]at q1;exact(Ki q1).symm
      rw[e2,hkey];show p.1.size<=_;omega
      .have aC:=Hz.out;have aD:=ja h2.dw;exact((h2.kept.trans u).next kz (by simp;exact ac)).next ks (by simp;omega)
      exact nr h2.size (jZ u.size (jZ kz.size ks.size))
     have aA:(wz.setCell ⟨w10.heap.size,1,none⟩ (G ((max M p.1.size:Nat)))).iterSeen E=g.push T.born:=by unfold World.iterSeen;rw[HE.out.iter]
     clear h2 mz nz rz iz u kz ks am a4 he1 he2 a9 hp hkey bI bR bM C A;generalize p.1=aE at *;go_wp2;go_roundw
     case rel=>exact⟨_,_,_,HE.out⟩
     simp_all
def Bj(s:O)(i:Nat):Bool:=!(decide (bt s i=10)&&decide (0<i)&&decide (bt s (i-1)=13))
def gG(s:O)(n:Nat):List Nat:=(List.range n).filter (Bj s)
def dU(s:O)(k:Nat):Int:=if bt s k=13 then 10 else bt s k
def dq(s:O)(k:Nat):UInt8:=(dU s k).toNat.toUInt8
def vA(s:O):O:=⟨((gG s s.size).map (dq s)).toArray⟩
theorem KY(h:Bj s n=true):gG s (n+1)=gG s n++[n]:=by grind[List.range_succ,gG]
theorem XT(h:Bj s n=false):gG s (n+1)=gG s n:=by grind[List.range_succ,gG]
theorem KX(s:O)(n:Nat):(gG s n).length<=n:=by
 grind[gG]
theorem vN(s:O):(vA s).size=(gG s s.size).length:=by show(((gG s _).map _).toArray).size=_;simp
theorem ab7(s:O)(k:Nat):0<=dU s k/\dU s k<=255:=by
 have c:=bt_nonneg s k;have e:=bt_le s k;grind[dU]
theorem Px(s:O)(k:Nat):((dq s k).toNat:Int)=dU s k:=by
 have:=ab7 s k;unfold dq;simp;omega
def H8(s:O)(n:Nat):List gP:=(gG s n).map λk=> .int .u8 (dU s k)
def D8(s:O)(n:Nat):List gP:=(gG s n).map λk:Nat=> G k
theorem rR{z A:Nat}{e1 e2:TypeId}{T s2:Nat}{p u:gP}{K P:Nat}{x1 x2:List gP}(C:w.ownsRow z e1 T p K x1)(D:w.ownsRow A e2 s2 u P x2)(I:e1≠e2)(k:Nat)(e:p.ownBlock=some k):u.ownBlock≠some k:=by
 intro c;rcases C.2 with⟨h,_⟩|⟨g1,c1,u1,h,_,E,_⟩;rw[h]at e;cases e;rcases D.2 with⟨g,_⟩|⟨g2,c2,u2,g,_,F,_⟩;rw[g]at c;cases c;rw[h]at e;rw[g]at c;obtain rfl:=Ki e;obtain rfl:=Ki c;grind
def Vc:(prog.info? 3).map (λi=>(i.zero,i.size,i.bytes))=some (some (G 0),1,8):=by kernel_rfl
theorem Ni{l:List UInt8}(e:w.ownsRow base 5 1 v n (l.map λb=> .int .u8 (b.toNat:Int)))(E:l.length=n)(u:∀k,v.ownBlock=some k->w'.heap[k]?=w.heap[k]?):
  (convert 56 9 v).run prog w'=.ok (Y ⟨l.toArray⟩) w':=by
 rcases e.2 with⟨rfl,z⟩|⟨g,c,p,rfl,A,C,F⟩;have:l=[]:=TE (by omega);subst this;have:=run_convert_bytes_nil (w:=w') 56 5 underlying56 underlying5 0 0;exact this 9 underlying9;have h:=Je w' 56 9 5 ⟨g,0,none⟩ c l underlying56 underlying5 underlying9 (λj D=>by
  rw[ahr (w:=w) (by rw[js];exact u g rfl)];exact e.cells rfl j _ (by grind))
 grind
structure TR(s:O)(w:J)(k:Nat)(vb va:gP)(wr:J):Prop where
 b:wr.ownsRow w.heap.size 5 1 vb (gG s k).length (H8 s k)
 a:wr.ownsRow w.heap.size 3 1 va (gG s k).length (D8 s k)
 kept:Z [] w wr
theorem TR.more{e c:gP}(u:Bj s k=true){x:Int}(z:x=dU s k)(h:W.ownsRow w.heap.size 5 1 e ((gG s k).length+1) (H8 s k++[.int .u8 x]))(g:W.ownsRow w.heap.size 3 1 c ((gG s k).length+1) (D8 s k++[G k]))(p:Z [] w W):TR s w (k+1) e c W:=by
 refine⟨?_,?_,p⟩;unfold H8 at h|-;grind[KY];unfold D8 at g|-;grind[KY]
theorem TR.same{p g:gP}(z:Bj s k=false)(h:TR s w k p g W):TR s w (k+1) p g W:=by
 obtain⟨c,e,u⟩:=h;unfold H8 at c;unfold D8 at e;rw[<-XT z]at c e;exact⟨c,e,u⟩
theorem NR{D:Array Oper}{p:List Oper}{E:Oper}{g:Act}{Q:Exit->Act->J->Prop}{e F e2:TypeId}{z c:gP}{A:Nat}(T:(prog.info? e).map (λi=>(i.zero,i.size,i.bytes))=some (some z,1,A))(hu:prog.underlying F=some (.slice e))(hz:z.cells.size=1)(hb:A<=8)(hc:c.oneCell'=true)(a3:e≠e2)(s' x':Operand)(P:E.guard=none)(ho:E.op=.call {callee:=.builtin .append,args:=#[s',x'],argTypes:=#[F,F]}){vo:gP}{no:Nat}{xo:List gP}(h:W.ownsRow w.heap.size e 1 v n xs)(hO:W.ownsRow w.heap.size e2 1 vo no xo)(hk:Z [] w W)(hs:g.eval s'=v)(hx:g.eval x'=nX W.heap.size 1 1)(hn:n<=2000)
  (K:∀I C,C.ownsRow w.heap.size e 1 I (n+1) (xs++[c])->C.ownsRow w.heap.size e2 1 vo no xo->Z [] w C->wpList prog D Q p (g.put E.dst I) C):wpList prog D Q (E::p) g (W.alloc (gH #[c] e)):=by
 obtain⟨i0,T,a0,a1,a2⟩:=qz T;refine jB _ P s' x' F ho _ e i0 z 1 A hu T a0 a1 a2 hz (by decide) v n xs hs (h.alloc _) _ 1 1 [c] hx rfl (λj u hj=>?_) (λu hu=>by grind) (by unfold maxLen;omega) (jZ (Nat.mul_le_mul_left _ hb) (by omega)) (by have:=hk.size;grind[World.size_alloc]) λI C h3 hg _=>K I C h3 ?_ ((hk.alloc _).grown hg λk e=> .inr (h.lt k e).1);rw[js,fP (fU W _)];grind
 .refine(hO.alloc _).kept hg ?_;cases hb:vo.ownBlock<;>grind[rR]
def afr(s:O)(tv:gP)(base:Nat)(w:J)(ho:w.ownsRow base 5 1 tv s.size (lx s))(hs:s.size<=1024):
  Calls prog 59 #[tv] w λe w'=>∃av,e=iA (.tuple #[Y (vA s),av])/\w'.ownsRow w.heap.size 3 1 av ((gG s s.size).length+1) (D8 s s.size++[G s.size])/\Z [] w w':=by
 obtain⟨iu,aQ,aR,aS,aT⟩:=qz K9;obtain⟨ii,aC,az,aA,aB⟩:=qz Vc;obtain⟨ao,cp,aF⟩:=gz ho;subst aF;have K:∀(wr:J),Z [] w wr->∀j,j<s.size->∃g,ao=some ⟨g,0,none⟩/\wr.cell? ⟨g,j,none⟩=some (.int .u8 (bt s j)):=by
  intro wr hk j hj;rcases ho.2 with⟨h,h0⟩|⟨g,ar,aM,h,_,hc,_⟩;omega;have a2:ao=some ⟨g,0,none⟩:=by simpa using DZ (λv=>match v with| .slice a _ _=>a|_=>none) h
  refine⟨g,a2,?_⟩;rw[hk.cell (p:=⟨g,j,none⟩) (ja hc) (by simp)];have h1:=ho.cells (g:=g) (by rw[h];rfl) j (.int .u8 (bt s j)) (by
   unfold lx;rw[List.getElem?_map,yG (by simpa using hj)];simp only[Option.map_some];rw[show((s.data.toList[j]'(by simpa using hj)).toNat:Int)=bt s j from by unfold bt;rw[Jg hj];simp;rfl])
  rw[js]at h1;exact h1
 have HC:=V K;have H0:Hid (TR s w 0 (jD) (jD) w):=⟨pP _ _ _ _,pP _ _ _ _,Z.refl _ _⟩;clear K ho;go_enter func59,ntmps59;go_wp2_with fail
 go_loopw [4,5,10] (λvb va v wr=>∃k:Nat,v=G k/\k<=s.size/\TR s w k vb va wr) (λ_ _ v _=>s.size-(intOf v).toNat)
 case atStart=>exact⟨0,rfl,xj _,H0.out⟩
 case round=>
  obtain⟨k,rfl,hk,C⟩:=hrel;by_cases aD:k<s.size
  .obtain⟨g,a2,c1⟩:=HC.out wr C.kept k aD;subst a2;have HH:=V C;obtain⟨bo,bc,T⟩:=gz C.b;obtain⟨ax,ac,P⟩:=gz C.a;subst T P;have h0:=bt_nonneg s k;have h1:=bt_le s k;have aw:=KX s k;have F:0<k->wr.cell? ⟨g,k-1,none⟩=some (.int .u8 (bt s (k-1))):=λ_=>by
    obtain⟨g',A,F⟩:=HC.out wr C.kept (k-1) (by omega);obtain rfl:g=g':=by simpa using A
    exact F
   clear C;cases hkp:Bj s k with
   |false=>
    have hq:bt s k=10/\0<k/\bt s (k-1)=13:=by unfold Bj at hkp;simp at hkp;exact⟨hkp.1.1,hkp.1.2,hkp.2⟩
    obtain⟨c,E,z⟩:=hq;replace F:=F E;have HE:=V (HH.out.same hkp);rw[c]at c1;rw[z]at F;obtain⟨m,rfl⟩:∃m,k=m+1:=⟨k-1,by omega⟩;simp only[Nat.add_sub_cancel]at F;generalize (gG s (m+1)).length=aW at *;go_wp2;go_roundw
    case rel=>exact⟨m+1+1,by go_num,by omega,HE.out⟩
    case measure=>simp[intOf];omega
   |true=>
    have hq:∃x,x=dU s k/\((x=10/\bt s k=10/\k=0)\/(x=10/\bt s k=10/\0<k/\¬bt s (k-1)=13)\/(x=10/\bt s k=13)\/(x=bt s k/\¬bt s k=10/\¬bt s k=13)):=by
     refine⟨_,rfl,?_⟩;unfold Bj at hkp;unfold dU;simp at hkp;by_cases c:bt s k=10;by_cases E:k=0;exact .inl ⟨by simp[c],c,E⟩;exact .inr (.inl ⟨by simp[c],c,by omega,hkp.resolve_left (by simp[c,E])⟩);by_cases z:bt s k=13;exact .inr (.inr (.inl ⟨by simp[z],z⟩));exact .inr (.inr (.inr ⟨by simp[z],c,z⟩))
    obtain⟨x,hx,hq⟩:=hq;have HX:=V hx;have am:=V hkp;clear hx hkp;rcases hq with⟨rfl,c,rfl⟩|⟨rfl,c,E,z⟩|⟨rfl,z⟩|⟨rfl,c,z⟩;rw[c]at c1;clear F
    rotate_left
    replace F:=F E;rw[c]at c1;obtain⟨m,rfl⟩:∃m,k=m+1:=⟨k-1,by omega⟩;simp only[Nat.add_sub_cancel]at F z;have m0:=bt_nonneg s m;have m1:=bt_le s m
    rotate_left
    rw[z]at c1;clear F
    rotate_left
    clear F
    rotate_left
    all_goals
     go_wp2_with (at_builtin;refine NR K9 underlying56 rfl (by decide) rfl (e2:=3) (by decide) _ _ rfl rfl HH.out.b HH.out.a HH.out.kept rfl rfl (by omega) ?_);intro b0 w2 a3 ab a1;obtain⟨aL,aK,T⟩:=gz a3;subst T;have ap:=V a3;have ak:=V ab;have al:=V a1;clear a3 ab a1 c1;go_wp2_with (at_builtin;refine NR Vc underlying38 rfl (by decide) rfl (e2:=5) (by decide) _ _ rfl rfl ak.out ap.out al.out rfl rfl (by omega) ?_);intro aX w3 a4 ad ag;obtain⟨aI,aH,P⟩:=gz a4;subst P;have HE:=V (TR.more am.out HX.out ad a4 ag);clear a4 ad ag;go_wp2;go_roundw
     case rel=>exact⟨_,by go_num,by omega,HE.out⟩
     case measure=>simp[intOf];omega
  .have a1:k=s.size:=by omega
   subst a1;have HH:=V C;obtain⟨bo,bc,T⟩:=gz C.b;obtain⟨ax,ac,P⟩:=gz C.a;subst T P;have aw:=KX s s.size;have ae:H8 s s.size=((gG s s.size).map (dq s)).map λb=> .int .u8 (b.toNat:Int):=by
    unfold H8;rw[List.map_map];refine NU λk _=>?_;simp only[Function.comp];rw[Px]
   have D:=C.b;rw[ae]at D;obtain⟨wa,a0⟩:∃wa,wa=(wr.alloc (.cells #[G s.size] 3)).drew:=⟨_,rfl⟩;have ka:Z [] wr wa:=by rw[a0];exact((Z.refl [] wr).alloc _).drew
   have oa:=ka.ownsRow C.a (λ_ _=>by simp);have za:wa.heap.size=wr.heap.size+1:=by rw[a0];simp
   have aE:=C.kept.size;have a9:=V oa;have a8:Hid (∀(j:Nat)(u:gP),[Value.int .i64 (s.size:Int)][j]?=some u->wa.cell? ((⟨wr.heap.size,0,none⟩:Addr).add j)=some u):=by
    intro j u hj
    match j,hj with
    |0,hj=>
     simp at hj;subst hj;have:=fU wr (.cells #[G s.size] 3);rw[js,a0];rw[fP (w:=(wr.alloc (.cells #[G s.size] 3)).drew) (b:=wr.heap.size) this];rfl
   have ai:∀k,(Value.slice bo (gG s s.size).length bc).ownBlock=some k->some k≠(Value.slice ax (gG s s.size).length ac).ownBlock:=λk hk h=>rR C.b C.a (by decide) k hk h.symm;have au:=Ni (w':=wr.drew) D (by simp) (λ_ _=>rfl);have aa:=Ni (w':=wa) D (by simp) (λk hk=>ka.block k (D.lt k hk).2 (by simp));have a6:Hid (∀I:J,wa.grownBy I (Value.slice ax (gG s s.size).length ac).ownBlock->(convert 56 9 (.slice bo (gG s s.size).length bc)).run prog I=.ok (Y (vA s)) I):=λI A=>
    Ni (w':=I) D (by simp) (λk hk=>(A.block k (by have:=(D.lt k hk).2;omega) (ai k hk)).trans (ka.block k (D.lt k hk).2 (by simp)))
   have a7:Hid (∀I:J,wa.grownBy I (Value.slice ax (gG s s.size).length ac).ownBlock->Z [] w I):=λI A=>(C.kept.trans ka).grown A (λx hx=> .inr (C.a.lt x hx).1);have a5:=V (show w.heap.size<=wa.heap.size by omega);rw[a0]at aa a6 a7 a9 a8 a5;clear C ae D a0 ka oa za aE ai HC;have af:(⟨((gG s s.size).map (dq s)).toArray⟩:O)=vA s:=rfl;rw[af]at au aa;clear af;go_wp2_with fail
   go_region_law (refine step_append_lies _ rfl (.tmp 42) (.tmp 45) 38 rfl w.heap.size 3 ii (G 0) 1 8 underlying38 aC az aA aB rfl (by decide) _ _ _ (by simp[Act.eval]) a9.out ⟨wr.heap.size,0,none⟩ 1 1 [G s.size] (by simp[Act.eval,Act.put]) rfl a8.out (by intro u hu;simp at hu;subst hu;rfl) (by decide) (by unfold maxLen;omega) (by omega) a5.out (wr.heap.size+1) (by simp) ?_;intro g ar I aj A ay ah;have aP:=a6.out I A;have an:=V (a7.out I A);have aq:=V aj;clear aj A ay ah)
   all_goals (try go_wp2)
   all_goals (try go_ret2)
   all_goals exact⟨_,rfl,aq.out,an.out⟩
def kG(s:O)(i:Nat):Nat:=(gG s s.size++[s.size]).getD i 0
theorem abJ(s:O)(i:Nat)(h:i<=(vA s).size):(D8 s s.size++[G s.size])[i]?=some (G (kG s i)):=by
 grind[vN,D8,kG]
def vB(s:O)(c:Int)(e:gP)(b:Nat):RC:={cs:=vA s,av:=e,at_:=c,mv:=.map (some b),lg:=8}
theorem OT(s:O)(tv:gP)(base:Nat)(u:Int)(w:J)(ho:w.ownsRow base 5 1 tv s.size (lx s))(hs:s.size<=1024):
  Calls prog 44 #[tv,G u] w λe w'=>∃r b K g c,e=iA (gI r)/\w.heap.size<=r/\w.heap.size<=b/\w.heap.size<=g/\Rd w' r (vB s u K b) 0 0/\Po w' r (vB s u K b) g c (kG s)/\Lk w' b (qe KV)/\b≠r/\(∃P,w'.heap[g]?=some (gH P 3))/\Z [] w w':=by
 have⟨ao,cp,htv⟩:=gz ho;subst htv;have HO:=V ho;clear ho;go_enter func44,ntmps44;go_wp21;refine(Wj w).mono ?_;rintro e A⟨b,rfl,Hb,HL,E⟩;have k2:Z [] A (A.alloc (.cells #[Y kB,jD,G 0,G 0,G u,.map (some b),G 8,Y kB,.bool false] 161)):=(Z.refl _ _).alloc _;have HR:=fU A (.cells #[Y kB,jD,G 0,G 0,G u,.map (some b),G 8,Y kB,.bool false] 161);have CF:=afr s (.slice ao s.size cp) base _ ((E.trans k2).ownsRow HO (λ_ _=>by simp)) hs;have a0:=E.trans k2;have a1:=E.size;go_wp21;refine CF.mono ?_;rintro e w2⟨K,rfl,D,F⟩;have C:=F.at HR (by simp);have c0:=fP C 0;have c1:=fP C 1;have f0:=gx C 0;have f1:=gx C 1;dsimp at c0 c1;have⟨ax,ac,hv⟩:=gz D;subst hv;obtain⟨z,I⟩:∃z,z=(w2.setCell ⟨A.heap.size,0,none⟩ (Y (vA s))).setCell ⟨A.heap.size,1,none⟩ (.slice ax ((gG s s.size).length+1) ac):=⟨_,rfl⟩;have T:Z [A.heap.size] w2 z:=by rw[I];exact((Z.refl _ _).setCell (.inl (by simp)) _).setCell (.inl (by simp)) _
 have rz:Rd z A.heap.size (vB s u (.slice ax ((gG s s.size).length+1) ac) b) 0 0:=by
  rw[I];exact gh (gh C 0 _) 1 _
 have lV:b<A.heap.size:=HL.lt;have a3:Lk z b (qe KV):=((HL.kept ((Z.refl [] A).alloc _) (by simp)).kept F (by simp)).kept T (by simp;omega);have a2:∃g c,(w.heap.size<=g/\∃P,z.heap[g]?=some (gH P 3))/\Po z A.heap.size (vB s u (.slice ax ((gG s s.size).length+1) ac) b) g c (kG s):=by
  rcases D.2 with⟨_,h0⟩|⟨g,c,a6,h,a4,hc,_⟩;omega;have a7:A.heap.size<g:=by simp at a4;omega
  refine⟨g,c,⟨by omega,⟨_,T.at hc (by simp;omega)⟩⟩,?_,by omega,nr (ja hc) T.size,λi hi=>?_⟩;show Value.slice ax _ ac=_;rw[h];show Value.slice _ _ _=Value.slice _ ((vA s).size+1) _;grind[vN];rw[T.cell (p:=⟨g,i,none⟩) (ja hc) (by simp;omega)];have:=D.cells (g:=g) (by rw[h];rfl) i _ (abJ s i hi);grind[js]
 have⟨g,c,⟨hgl,hgt⟩,hA⟩:=a2;have a5:Z [] w z:=(a0.trans F).next T (by grind)
 have HF:Hid (∃r b K g c,iA (gI A.heap.size)=iA (gI r)/\w.heap.size<=r/\w.heap.size<=b/\w.heap.size<=g/\Rd z r (vB s u K b) 0 0/\Po z r (vB s u K b) g c (kG s)/\Lk z b (qe KV)/\b≠r/\(∃P,z.heap[g]?=some (gH P 3))/\Z [] w z):=by
  exact⟨_,b,_,g,c,rfl,a1,Hb,hgl,rz,hA,a3,by omega,hgt,a5⟩
 rw[I]at HF;go_wp2;go_ret;exact HF
structure Sp where
 k:Int
 a:Int
 b:Int
theorem VN{e:TypeId}{c p g:Nat}(h:w.ownsRow base e c (nX g n p) n xs)(u:gP):(w.setCell ⟨g,j,none⟩ u).ownsRow base e c (nX g n p) n (xs.set j u):=by
 have⟨h1,A⟩:=h;refine⟨by grind,?_⟩;rcases A with⟨A,_⟩|⟨P,C,z,K,F,I,D,E,T,h6⟩;cases A;obtain⟨rfl,rfl⟩:=K;refine .inr ⟨g,p,z.setIfInBounds j u,rfl,F,gh I j u,D,E,by grind,?_⟩;grind[List.take_set]
def lN(L:List Sp):List gP:=L.flatMap λp=>[G p.k,G p.a,G p.b]
def wu(L M:List Sp):lN (L++M)=lN L++lN M:=by simp[lN]
theorem tq(L:List Sp):(lN L).length=L.length*3:=by
 induction L with
 |nil=>rfl
 |cons p L ih=>show(Value.int .i64 p.k:: G p.a:: G p.b::lN L).length=_;grind
theorem IZ(M:List Sp)(l:Sp)(i:Nat)(c:i<3):(lN (M++[l]))[M.length*3+i]?=[Value.int .i64 l.k,G l.a,G l.b][i]?:=by
 rw[wu,Fj (by grind[tq]),tq,show M.length*3+i-M.length*3=i by omega];rfl
theorem Zy(M:List Sp)(l:Sp)(b:Int):(lN (M++[l])).set (M.length*3+2) (G b)=lN (M++[⟨l.k,l.a,b⟩]):=by
 rw[wu,wu,List.set_append_right _ _ (by grind[tq]),tq,show M.length*3+2-M.length*3=2 by omega];rfl
def wx(L:List Sp)(s:Sp):List Sp:=match L.getLast? with
 |some l=>if s.k=1/\l.k=1 then L.dropLast++[⟨l.k,l.a,s.b⟩]else L++[s]
 |none=>L++[s]
theorem abS(M:List Sp)(l s:Sp)(h:s.k=1/\l.k=1):wx (M++[l]) s=M++[⟨l.k,l.a,s.b⟩]:=by grind[wx]
def aet(M:List Sp)(l s:Sp)(h:¬(s.k=1/\l.k=1)):wx (M++[l]) s=M++[l]++[s]:=by unfold wx;simp[h]
theorem abR(L:List Sp)(s:Sp):(wx L s).length<=L.length+1:=by
 grind[wx]
def P5:(prog.info? 73).map (λi=>(i.zero,i.size,i.bytes))=some (some (.agg #[G 0,G 0,G 0]),3,24):=by kernel_rfl
def Ac(base:Nat)(w:J)(v:gP)(L:List Sp)(s:Sp)(e:Ending)(w':J):Prop:=
 ∃c,e=iA c/\w'.ownsRow base 73 3 c (wx L s).length (lN (wx L s))/\Z v.ownBlock.toList w w'
theorem QS{g:Array Oper}{e:List Oper}{p:Oper}{c:Act}{Q:Exit->Act->J->Prop}{o:Obj}{k a b:Int}(T x':Operand)(C:p.guard=none)(D:p.op=.call {callee:=.builtin .append,args:=#[T,x'],argTypes:=#[24,24]})(ho:w.ownsRow base 73 3 v n xs)(A:base<=w.heap.size)(hn:n<=5000)(hs:c.eval T=v)(E:c.eval x'=nX (w.heap.size+1) 1 1)
  (K:∀z h,h.ownsRow base 73 3 z (n+1) (xs++[G k,G a,G b])->Z v.ownBlock.toList w h->wpList prog g Q e (c.put p.dst z) h):wpList prog g Q (p::e) c ((w.alloc o).alloc (gH #[G k,G a,G b] 73)):=by
 obtain⟨i0,hi,F,I,P⟩:=qz P5;refine jB _ C T x' 24 D base 73 i0 _ 3 24 underlying24 hi F I P rfl (by decide) v n xs hs ((ho.alloc _).alloc _) _ 1 1 _ E rfl (λj u hj=>?_) (λu hu=>by simp at hu;rcases hu with rfl|rfl|rfl<;>rfl) (by unfold maxLen;omega) (by omega) (by simp;omega) λz h h3 hg _=>K z h h3 (((Z.refl _ _).alloc _|>.alloc _).grown hg (λx E=> .inl (by simp[E])));have A:=fU (w.alloc o) (gH #[G k,G a,G b] 73);simp only[Xu]at A;rw[js,fP A];grind
def T5(base:Nat)(v:gP)(s:Sp)(w:J)(h:w.ownsRow base 73 3 v 0 (lN []))(D:base<=w.heap.size):
  Calls prog 51 #[v,.agg #[G s.k,G s.a,G s.b]] w λe w'=>Ac base w v [] s e w':=by
 obtain⟨A,C,E⟩:=gz h;subst E;obtain⟨K,F,I⟩:=s;simp only;have z:=V h;clear h;go_enter func51,ntmps51;go_wp2_with (at_builtin;refine QS _ _ rfl rfl z.out D (by omega) rfl rfl ?_);intro p P g c;have u:=V (show Ac base w (.slice A 0 C) [] ⟨K,F,I⟩ (iA p) P from⟨p,rfl,g,c⟩);clear g c;go_wp2;go_ret;exact u.out
theorem Re(base:Nat)(v:gP)(M:List Sp)(l s:Sp)(w:J)(u:w.ownsRow base 73 3 v (M.length+1) (lN (M++[l])))(hb:base<=w.heap.size)(hM:M.length<=4096)(c:¬(s.k=1/\l.k=1)):
  Calls prog 51 #[v,.agg #[G s.k,G s.a,G s.b]] w λe w'=>Ac base w v (M++[l]) s e w':=by
 obtain⟨g,C,hv⟩:∃g C,v=nX g (M.length+1) C:=by
  rcases u.2 with⟨_,h0⟩|⟨g,P,T,h,_⟩
  all_goals grind
 subst hv;have hg:g<w.heap.size:=(u.lt g rfl).2;have c0:w.cell? ⟨g,M.length*3,none⟩=some (G l.k):=by
  have:=u.cells (g:=g) rfl (M.length*3) _ (by have:=IZ M l 0 (by omega);simpa using this);rw[js]at this;exact this
 obtain⟨A,sa,sb⟩:=s;simp only at c|-;have F:=V (aet M l ⟨A,sa,sb⟩ c);have K:=V u;clear u;have hq:A=1/\¬l.k=1\/¬A=1:=by
  by_cases D:A=1;grind;exact .inr D
 clear c;rcases hq with⟨rfl,hl⟩|D
 all_goals
  go_enter func51,ntmps51;go_wp2_with (at_builtin;refine QS _ _ rfl rfl K.out hb (by omega) rfl rfl ?_);intro E w3 z p;have I:=V (show Ac base w (nX g (M.length+1) C) (M++[l]) _ (iA E) w3 from⟨E,rfl,by rw[F.out,wu _ [_],N3,N3];exact z,p⟩);clear z p;go_wp2;go_ret;exact I.out
theorem Rc(base:Nat)(v:gP)(M:List Sp)(l s:Sp)(w:J)(c:w.ownsRow base 73 3 v (M.length+1) (lN (M++[l])))(hM:M.length<=4096)(A:s.k=1)(C:l.k=1):
  Calls prog 51 #[v,.agg #[G s.k,G s.a,G s.b]] w λe w'=>Ac base w v (M++[l]) s e w':=by
 have⟨sk,sa,sb⟩:=s;simp only at A|-;subst A;obtain⟨g,p,F⟩:∃g p,v=nX g (M.length+1) p:=by
  rcases c.2 with⟨_,h0⟩|⟨g,E,u,h,_⟩
  all_goals grind
 subst F;have hg:g<w.heap.size:=(c.lt g rfl).2;have I:w.cell? ⟨g,M.length*3,none⟩=some (G 1):=by
  have:=c.cells (g:=g) rfl (M.length*3) _ (by have:=IZ M l 0 (by omega);simpa using this)
  rwa [js,C]at this
 have K:w.cell? ⟨g,M.length*3+2,none⟩=some (G l.b):=by
  have:=c.cells (g:=g) rfl (M.length*3+2) _ (by have:=IZ M l 2 (by omega);simpa using this)
  rwa [js]at this
 have P:w.frozen? ⟨g,M.length*3+2,none⟩=false:=by
  rcases c.2 with⟨h,_⟩|⟨T,z,u,h,_,hc,_⟩;cases h;grind[gx]
 have D:Hid (Ac base w (nX g (M.length+1) p) (M++[l]) ⟨1,sa,sb⟩ (iA (nX g (M.length+1) p)) ((w.setCell ⟨g,M.length*3+2,none⟩ (G sb)).alloc (.cells #[G 1,G sa,G sb] 73))):=by
  refine⟨_,rfl,?_,?_⟩;rw[abS M l _ ⟨rfl,C⟩];have h2:=VN (j:=M.length*3+2) c (G sb);grind[World.ownsRow.alloc,Zy];exact((Z.refl [g] w).setCell (.inl (by simp)) _).alloc _
 go_enter func51,ntmps51;go_wp2;go_ret;exact D
def T4(base:Nat)(v:gP)(L:List Sp)(s:Sp)(w:J)(c:w.ownsRow base 73 3 v L.length (lN L))(g:base<=w.heap.size)(p:L.length<=4096):
  Calls prog 51 #[v,.agg #[G s.k,G s.a,G s.b]] w λe w'=>Ac base w v L s e w':=by
 rcases pU L with rfl|⟨M,l,rfl⟩;exact T5 base v s w c g;rw[List.concat_eq_append];simp at c p;by_cases h:s.k=1/\l.k=1;exact Rc base v M l s w c (by omega) h.1 h.2;exact Re base v M l s w c g (by omega) h
theorem Wb(p q:Addr)(w:J):
  CallsD prog 42 #[.pointer (some p),.pointer (some q)] .returning w λe h w'=>e=qs/\h=.returning/\w'=w:=by
 refine callsD_of_wpS func42 rfl λc u g=>?_;apply wpS_seq;apply wpS_region;simp[wpOpsS,go_sem,recoverD,g,ntmps42,Exit.thenS];apply wpS_seq;apply wpS_region;simp[wpOpsS,go_sem,Exit.thenS];refine wpS_cond (t:=false) (by simp[Act.eval,Array.replicate]) ?_;simp only[ZY,Tw];refine wpS_of_wp (wp_skip ?_);cases c;simp_all[bodyPostS,results,results42]
def acQ(E:Env)(a b:Nat)(s:O)(w:J):Calls prog 49 #[iG E ⟨a,b,.kE s,[]⟩] w λe w'=>e=iA (G 1)/\w'=w:=by
 simp only[iG];have c:=rX underlying184;go_enter func49,ntmps49;go_wp2;go_ret;simp
def afS(E:Env)(a b:Nat)(w:J):Calls prog 49 #[iG E ⟨a,b,.iw,[]⟩] w λe w'=>e=iA (G 0)/\w'=w:=by
 simp only[iG];have u:=wT;have g:=uy;have h:=xS;have c:=rO;have p:=zI;have z:=al9;go_enter func49,ntmps49;go_wp2;go_ret;simp
def Uz(E:Env)(f:Nat->Nat)(σ:N)(w:J)(h:RF E f σ w):Calls prog 50 #[Bp E] w λe w'=>e=iA (nV f 0)/\w'=w:=by
 have c:=(At.start h).zd;have g:=h.lt;go_enter func50,ntmps50;go_wp2;go_ret;simp
theorem AN(r:Nat)(s:O)(w:J)(hs:s.size<=1048576)(h:Gl w r):
  Calls prog 248 #[Y s] w λe w'=>e=iA (Y (nP (small s)))/\Z [] w w':=by
 go_enter func248,ntmps248;go_wp21;refine(xU s w hs).mono ?_;rintro e p⟨rfl,g⟩;go_wp21;refine(zJ r (small s) p (by grind[qH]) (h.kept (g.mono (by simp)))).mono ?_;rintro e u⟨rfl,c⟩;go_wp2;go_ret;exact⟨rfl,(g.trans c)⟩
theorem A0(r:Nat)(R:RC)(c ps:Nat)(s:O)(w:J)(h:Rd w r R c ps)(z:ps<=R.cs.size)(hs:R.cs.size<=1024):
  Calls prog 249 #[gI r,.func (.func 251) #[] #[gI w.heap.size]] (w.alloc (.cells #[Y s] 9))
   λe w'=>e=iA (Y (R.cs.extract ps (scan (jy s) R.cs ps)))/\Z [r] w w'/\Rd w' r R c (scan (jy s) R.cs ps):=by
 have A:=ja h;have k:Z [] w (w.alloc (.cells #[Y s] 9)):=(Z.refl _ _).alloc _;refine(Xj r R c ps _ _ _ _ (k.at h (by simp)) z hs (Ec _ [r] _ s (by simp) (by simp) (by grind))).mono ?_;rintro e w'⟨g,p,u⟩;exact⟨g,(k.mono (by simp)).trans p,u⟩
def MD(r:Nat)(R:RC)(u ps:Nat)(k:Nat)(c:jL)(q:Int->Bool)(w:J)(h:Rd w r R u ps)(hp:ps<=R.cs.size)(hs:R.cs.size<=1024)(hq:abC w [r] k c q):
  Calls prog 152 #[gI r,.func (.func k) #[] c] w λe w'=>e=iA (.bool (decide (ps<R.cs.size)&&q (bt R.cs ps)))/\∃n,w'=w.drewN n:=by
 have E:=hq;have t:=h.text;have p:=h.ps;have H:=h;have A:=get_bt R.cs;have F:=E.cV;have C:=(λw' (h:Rd w' r R u ps)=>pZ r R u ps w' h);by_cases e:ps=R.cs.size
 .have z:decide (ps=R.cs.size)=true:=by simp[e]
  rw[z]at C;go_enter func152,ntmps152;go_wp21
  go_quiet ((go_at_call 78;refine Jf (C _ ?_);exact H))
  go_wp2;go_ret;exact⟨by simp[e],⟨_,rfl⟩⟩
 .have g:ps<R.cs.size:=by omega
  have z:decide (ps=R.cs.size)=false:=by simp[e]
  rw[z]at C;have T:=A ps g;have K:=bt_nonneg R.cs ps;have P:=bt_le R.cs ps;have D:=(λw' h=>E.ask (bt R.cs ps) w' K P h);have I:(decide (ps<R.cs.size)&&q (bt R.cs ps))=q (bt R.cs ps):=by simp[g]
  rw[I];cases hqv:q (bt R.cs ps)
  all_goals
   rw[hqv]at D;go_enter func152,ntmps152;go_wp21
   go_quiet (first|(go_at_call 78;refine Jf (C _ ?_);exact H)|(refine Jf (D _ ?_);exact(λn=>(Z.refl _ _).drewN n) _))
   go_wp2;go_ret;exact⟨rfl,⟨_,rfl⟩⟩
def Bi(R:RC)(s:O)(ps:Nat):Bool:=decide (s.size<=R.cs.size-ps)&&((small ((R.cs.extract ps R.cs.size).extract 0 s.size)).toList==s.toList)
theorem agE(t:O)(n:Nat)(h:n<=t.size):pre t (t.extract 0 n)=true:=by
 grind[ByteArray.size_extract,pre]
def Xc(r:Nat)(R:RC)(z ps:Nat)(s:O)(w:J)(h:Rd w r R z ps)(hp:ps<=R.cs.size)(hs:R.cs.size<=1024)(a0:s.size<=1024):
  Calls prog 157 #[gI r,Y s] w λe w'=>e=iA (.bool (Bi R s ps))/\Z [r] w w'/\Rd w' r R z (if Bi R s ps=true then ps+s.size else ps):=by
 have H:=h;obtain⟨t,ht⟩:∃t,t=R.cs.extract ps R.cs.size:=⟨_,rfl⟩;have A:t.size=R.cs.size-ps:=by rw[ht];simp
 have g:=yr r R z ps w H hp hs;rw[<-ht]at g;have C:=V ht;clear ht;by_cases e1:s.size<=t.size
 .have ez:(t.extract 0 s.size).size=s.size:=by simp;omega
  cases e2:((small (t.extract 0 s.size)).toList==s.toList)
  .have I:Bi R s ps=false:=by unfold Bi;rw[<-C.out,e2];simp
   rw[I];go_enter func157,ntmps157;go_wp21;refine g.mono ?_;rintro e w1⟨rfl,q,rfl⟩;go_wp21;refine(xU _ _ (by omega)).mono ?_;rintro e T⟨rfl,c⟩;generalize small (t.extract 0 s.size)=u at *;go_wp2;go_ret;exact⟨rfl,((Z.refl [r] w).drewN q).trans (c.mono (by simp)),c.at (show Rd (w.drewN q) r R z ps from H) (by simp)⟩
  .have I:Bi R s ps=true:=by unfold Bi;rw[<-C.out,e2,<-A];simp[e1]
   rw[I];go_enter func157,ntmps157;go_wp21;refine g.mono ?_;rintro e w1⟨rfl,q,rfl⟩;go_wp21;refine(xU _ _ (by omega)).mono ?_;rintro e T⟨rfl,c⟩;have K:Rd T r R z ps:=c.at (show Rd (w.drewN q) r R z ps from H) (by simp);have F:=mU r R z ps (t.extract 0 s.size) T K hp hs (by omega);have p:=agE t s.size e1;rw[<-C.out,p]at F;have P:taken R (t.extract 0 s.size) ps=ps+s.size:=by unfold taken;rw[<-C.out,sL p,ez]
   rw[P]at F;generalize small (t.extract 0 s.size)=u at *;go_wp21;refine F.mono ?_;rintro e w3⟨rfl,D,E⟩;go_wp2;go_ret;exact⟨rfl,(((Z.refl [r] w).drewN q).trans (c.mono (by simp))).trans D,E⟩
 .have hv:Bi R s ps=false:=by unfold Bi;rw[<-A];simp[e1]
  rw[hv];go_enter func157,ntmps157;go_wp21;refine g.mono ?_;rintro e w1⟨rfl,q,rfl⟩;go_wp2;go_ret;exact⟨rfl,((Z.refl [r] w).drewN q),H⟩
def kQ(R:RC)(ps:Nat):Nat:=scan (jy qP) R.cs (ps+1)
def FD(r:Nat)(R:RC)(P ps:Nat)(w:J)(h:Rd w r R P ps)(hp:ps<R.cs.size)(hs:R.cs.size<=1024)(hg:Gl w r):
  Calls prog 328 #[gI r] w λe w'=>e=iA (Y (nP (small (R.cs.extract ps (kQ R ps)))))/\Z [r] w w'/\Rd w' r R P (kQ R ps):=by
 have p:=h.ps;have fz:=h.free 3;have HG:=hg;have E:=h.QH (ps+1);have z:=(Z.refl [r] w).setCell (p:=⟨r,3,none⟩) (.inl (by simp)) (G ((ps+1:Nat)));clear h hg;obtain⟨K,u⟩:∃K,K=w.setCell ⟨r,3,none⟩ (G ((ps+1:Nat))):=⟨_,rfl⟩;rw[<-u]at E z;have c:w.setCell ⟨r,3,none⟩ (G ((ps:Int)+1))=K:=by rw[u];congr 1
 have a0:=V c;clear u c;have C:=A0 r R P (ps+1) qP K E (by omega) hs;rw[show scan (jy qP) R.cs (ps+1)=kQ R ps from rfl]at C;have a2:kQ R ps<=R.cs.size:=qF (by omega);have a1:ps+1<=kQ R ps:=tL;generalize kQ R ps=n at *;go_enter func328,ntmps328;go_wp21;rw[a0.out];clear p fz;refine(qh _ K).mono ?_;rintro e w'⟨rfl,rfl⟩;go_wp21;refine C.mono ?_;rintro e T⟨rfl,F,g⟩;have t2:=g.text;have p2:=g.ps;have A:=z.trans F;have D:=(λq=>AN r (R.cs.extract ps n) (T.drewN q) (by simp;omega) (show Gl (T.drewN q) r from HG.kept (A.drewN q)));clear F C;generalize hm:nP (small (R.cs.extract ps n))=m at D|-;have Hm:=V hm;clear hm;go_wp21
 go_region_with (refine(D _).mono ?_;rintro e w3⟨rfl,I⟩)
 all_goals (try go_wp2)
 all_goals
  (go_ret
   exact⟨by rw[Hm.out];rfl,A.trans (((Z.refl [r] T).drewN 1).trans (I.mono (by simp))),I.at (show Rd (T.drewN 1) r R P n from g) (by simp)⟩)
theorem toList_eq{a b:O}(h:a.toList=b.toList):a=b:=by
 rw[sd,sd]at h;exact NV (Array.toList_inj.1 h)
theorem LI{a:Nat}(h:a+j<b)(e:b<=s.size):bt (s.extract a b) j=bt s (a+j):=by
 have c:j<(s.extract a b).size:=by simp;omega
 unfold bt;rw[Jg c,Jg (by omega)];rw[ByteArray.getElem_extract]
def Ia{p:O}(h:pre (s.extract ps s.size) p=true)(u:j<p.size):bt s (ps+j)=bt p j:=by
 have c:=IQ h;unfold pre at h;simp only[xh,abB,beq_iff_eq]at h;have e:=toList_eq h.2;have z:ps+j<s.size:=by simp at c;omega
 have g:=LI (s:=s.extract ps s.size) (a:=0) (b:=p.size) (j:=j) (by omega) c;rw[e,Nat.zero_add,LI (by omega) (ic _)]at g;omega
def sO(R:RC)(ps:Nat):Nat:=taken R iZ (scan (jy iZ) R.cs ps)
def Mq(h:ps<=R.cs.size):sO R ps<=R.cs.size:=Xf (qF h)
def afv:ps<=sO R ps:=jZ tL Xe
def vQ(r:Nat)(R:RC)(c ps g I:Nat)(p:Nat->Nat)(w:J)(h:Rd w r R c ps)(hA:Po w r R g I p)(hG:Gl w r)(hb:c<=R.cs.size)(hp:ps<=R.cs.size)(hs:R.cs.size<=1024):
  Calls prog 160 #[gI r] w λe w'=>e=iA (.iface 194 (.agg #[G (p c),G (p (sO R ps)),Y (nP (R.cs.extract ps (scan (jy iZ) R.cs ps)))]))/\Z [r] w w'/\Rd w' r R c (sO R ps):=by
 have C:=A0 r R c ps iZ w h hp hs;have HA:=hA;have HG:=hG;have a6:scan (jy iZ) R.cs ps<=R.cs.size:=qF hp;have D:=(λ(w2:J) (hr:Rd w2 r R c (scan (jy iZ) R.cs ps))=>mU r R c _ iZ w2 hr a6 hs (by decide));rw[show taken R iZ (scan (jy iZ) R.cs ps)=sO R ps from rfl]at D;have T:sO R ps<=R.cs.size:=Mq hp;generalize sO R ps=m at *;generalize scan (jy iZ) R.cs ps=n at *;go_enter func160,ntmps160;go_wp21;refine(qh _ w).mono ?_;rintro e w'⟨rfl,rfl⟩;go_wp21;refine C.mono ?_;rintro e w2⟨rfl,a0,a2⟩;go_wp21;refine(D _ a2).mono ?_;rintro e w3⟨rfl,a5,A⟩;have u:=a0.trans a5;have E:=rj r R c m g I p w3 A (HA.kept u) hb T hs;go_wp21;refine E.mono ?_;rintro e w4⟨rfl,K⟩;have z:=u.trans (K.mono (by simp));have a3:Hid (Rd w4 r R c m):=A.kept K (by simp);have F:=zJ r (R.cs.extract ps n) w4 (by simp;omega) (HG.kept z);go_wp21;refine F.mono ?_;rintro e w5⟨rfl,P⟩;have a1:=z.trans (P.mono (by simp));have a4:Hid (Rd w5 r R c m):=a3.kept P (by simp);go_wp2;go_ret;exact⟨rfl,a1,a4⟩
def AD(s:O):O:=
 if Lib.hasSuffix s.data.toList [45,45,33]then ⟨(Lib.trimSuffix s.data.toList [45,45,33]).toArray⟩
 else if Lib.hasSuffix s.data.toList [45,45]then ⟨(Lib.trimSuffix s.data.toList [45,45]).toArray⟩
 else if Lib.hasSuffix s.data.toList [45]then ⟨(Lib.trimSuffix s.data.toList [45]).toArray⟩else s
def Y1(s:O)(w:J)(hs:s.size<=1048576):
  Calls prog 294 #[Y s] w λe w'=>e=iA (Y (AD s))/\Z [] w w':=by
 have c:=(λw=>Tryz.strings_CutSuffix s ⟨#[45,45,33]⟩ w (by omega));have g:=(λw=>Tryz.strings_CutSuffix s ⟨#[45,45]⟩ w (by omega));have h:=(λw=>Tryz.strings_CutSuffix s ⟨#[45]⟩ w (by omega));have p:Hid (Z [] w (w.alloc (.cells #[Y ⟨#[45,45,33]⟩,Y ⟨#[45,45]⟩,Y ⟨#[45]⟩] 9))):=(Z.refl _ _).alloc _;unfold AD;simp only at c g h;cases h1:Lib.hasSuffix s.data.toList [45,45,33]
 .rw[h1]at c;cases h2:Lib.hasSuffix s.data.toList [45,45]
  .rw[h2]at g;cases h3:Lib.hasSuffix s.data.toList [45]
   .rw[h3]at h;simp only[ZY,↓reduceIte];generalize Lib.trimSuffix s.data.toList [45,45,33]=u at *;generalize Lib.trimSuffix s.data.toList [45,45]=z at *;generalize Lib.trimSuffix s.data.toList [45]=A at *;go_enter func294,ntmps294;go_wp21;refine yB 4 ?_;rw[uE];go_wp21;refine(c _).mono ?_;rintro e w'⟨rfl,rfl⟩;go_wp21;rw[uE];go_wp21;refine(g _).mono ?_;rintro e w'⟨rfl,rfl⟩;go_wp21;rw[uE];go_wp21;refine(h _).mono ?_;rintro e w'⟨rfl,rfl⟩;go_wp21;rw[uE];go_wp2;go_ret;exact⟨rfl,p⟩
   .rw[h3]at h;simp only[ZY,↓reduceIte];generalize Lib.trimSuffix s.data.toList [45,45,33]=u at *;generalize Lib.trimSuffix s.data.toList [45,45]=z at *;generalize Lib.trimSuffix s.data.toList [45]=A at *;go_enter func294,ntmps294;go_wp21;refine yB 4 ?_;rw[uE];go_wp21;refine(c _).mono ?_;rintro e w'⟨rfl,rfl⟩;go_wp21;rw[uE];go_wp21;refine(g _).mono ?_;rintro e w'⟨rfl,rfl⟩;go_wp21;rw[uE];go_wp21;refine(h _).mono ?_;rintro e w'⟨rfl,rfl⟩;go_wp2;go_ret;exact⟨rfl,p⟩
  .rw[h2]at g;simp only[ZY,↓reduceIte];generalize Lib.trimSuffix s.data.toList [45,45,33]=u at *;generalize Lib.trimSuffix s.data.toList [45,45]=z at *;go_enter func294,ntmps294;go_wp21;refine yB 4 ?_;rw[uE];go_wp21;refine(c _).mono ?_;rintro e w'⟨rfl,rfl⟩;go_wp21;rw[uE];go_wp21;refine(g _).mono ?_;rintro e w'⟨rfl,rfl⟩;go_wp2;go_ret;exact⟨rfl,p⟩
 .rw[h1]at c;simp only[↓reduceIte];generalize Lib.trimSuffix s.data.toList [45,45,33]=u at *;go_enter func294,ntmps294;go_wp21;refine yB 4 ?_;rw[uE];go_wp21;refine(c _).mono ?_;rintro e w'⟨rfl,rfl⟩;go_wp2;go_ret;exact⟨rfl,p⟩
def e1:O:=pH
def e2:O:=⟨#[45,45,33,62]⟩
def vz(R:RC)(i:Nat):Nat:=
 if i<R.cs.size then (if pre (R.cs.extract i R.cs.size) e1=true then i+3 else if pre (R.cs.extract i R.cs.size) e2=true then i+4 else vz R (i+1))else i
  termination_by R.cs.size-i
def qU(R:RC)(a i:Nat):O:=
 if i<R.cs.size then (if pre (R.cs.extract i R.cs.size) e1=true then R.cs.extract a i else if pre (R.cs.extract i R.cs.size) e2=true then R.cs.extract a i else qU R a (i+1))else AD (R.cs.extract a R.cs.size)
  termination_by R.cs.size-i
theorem ah9:i<=vz R i:=by
 fun_induction vz R i<;>omega
theorem aia(h:i<=R.cs.size):vz R i<=R.cs.size:=by
 fun_induction vz R i with
 |case1 i h1 h2=>exact mL h2 h
 |case2 i h1 h2 h3=>exact mL h3 h
 |case3 i h1 h2 h3 ih=>omega
 |case4=>exact h
theorem ab6(h:i<=R.cs.size):vz R i=R.cs.size\/(i<vz R i/\bt R.cs (vz R i-1)=62):=by
 fun_induction vz R i with
 |case1 i h1 h2=>right;exact⟨by omega,Ia h2 (by decide)⟩
 |case2 i h1 h2 h3=>right;exact⟨by omega,Ia h3 (by decide)⟩
 |case3 i h1 h2 h3 ih=>omega
 |case4 i h1=>omega
theorem ana(h:i<R.cs.size)(c:pre (R.cs.extract i R.cs.size) e1=true):vz R i=i+3:=by grind[vz]
theorem anb(h:i<R.cs.size)(c:pre (R.cs.extract i R.cs.size) e1=false)(e:pre (R.cs.extract i R.cs.size) e2=true):vz R i=i+4:=by grind[vz]
theorem anc(h:i<R.cs.size)(c:pre (R.cs.extract i R.cs.size) e1=false)(e:pre (R.cs.extract i R.cs.size) e2=false):vz R i=vz R (i+1):=by grind[vz]
theorem alv{a:Nat}(h:i<R.cs.size)(c:pre (R.cs.extract i R.cs.size) e1=true):qU R a i=R.cs.extract a i:=by grind[qU]
theorem alw{a:Nat}(h:i<R.cs.size)(c:pre (R.cs.extract i R.cs.size) e1=false)(e:pre (R.cs.extract i R.cs.size) e2=true):qU R a i=R.cs.extract a i:=by grind[qU]
theorem alx{a:Nat}(h:i<R.cs.size)(c:pre (R.cs.extract i R.cs.size) e1=false)(e:pre (R.cs.extract i R.cs.size) e2=false):qU R a i=qU R a (i+1):=by grind[qU]
theorem Fi(r:Nat)(R:RC)(z ps:Nat)(w:J)(h:Rd w r R z ps)(hp:ps<=R.cs.size)(hs:R.cs.size<=1024):
  Calls prog 246 #[gI r] w λe w'=>e=iA (Y (qU R ps ps))/\Z [r] w w'/\Rd w' r R z (vz R ps):=by
 have p0:=h.ps;have H:=h;obtain⟨ce,HE⟩:∃x,x=vz R ps:=⟨_,rfl⟩;obtain⟨ct,HT⟩:∃x,x=qU R ps ps:=⟨_,rfl⟩;rw[<-HE,<-HT];go_enter func246,ntmps246;go_wp21
 go_loopw [] (λwr=>∃i:Nat,ps<=i/\i<=R.cs.size/\vz R i=ce/\qU R ps i=ct/\Rd wr r R z i/\Z [r] w wr) (λwr=>R.cs.size-(match wr.cell? ⟨r,3,none⟩with|some v=>(intOf v).toNat|none=>0))
 case atStart=>grind[Z.refl]
 case round=>
  have⟨i,hi0,hi1,hcc,hcx,HR,HKW⟩:=hrel;have P:=V hcc;have HX:=V hcx;have t:=HR.text;have p:=HR.ps;have fz:=HR.free 3;clear hcc hcx;by_cases e:i=R.cs.size
  .have e3:decide (i=R.cs.size)=true:=by simp[e]
   have C:=pZ r R z i wr HR;rw[e3]at C;have hx:ct=AD (R.cs.extract ps R.cs.size):=by rw[<-HX.out,qU,Xx (by omega)]
   have hy:ce=i:=by rw[<-P.out,vz,Xx (by omega)]
   have Hx:=V hx;have Hy:=V hy;clear hx hy;have a3:=e;have D:=(λw'=>Y1 (R.cs.extract ps R.cs.size) w' (by simp;omega));go_wp21;refine C.mono ?_;rintro e w1⟨rfl,q,rfl⟩;go_wp21;refine(D _).mono ?_;rintro e w2⟨rfl,g⟩;go_wp2;go_ret;exact⟨by rw[Hx.out];rfl,(HKW.drewN q).trans (g.mono (by simp)),by rw[Hy.out];exact g.at (show Rd (wr.drewN q) r R z i from HR) (by simp)⟩
  .have u:i<R.cs.size:=by omega
   have e3:decide (i=R.cs.size)=false:=by simp[e]
   have C:=pZ r R z i wr HR;rw[e3]at C;have F:=(λw' (h:Rd w' r R z i)=>mU r R z i e1 w' h hi1 hs (by decide));have K:=(λw' (h:Rd w' r R z i)=>mU r R z i e2 w' h hi1 hs (by decide));cases h1:pre (R.cs.extract i R.cs.size) e1
   .have k1:taken R e1 i=i:=by unfold taken;rw[Xx (by simp[h1])]
    rw[h1,k1]at F;cases h2:pre (R.cs.extract i R.cs.size) e2
    .have k2:taken R e2 i=i:=by unfold taken;rw[Xx (by simp[h2])]
     rw[h2,k2]at K;have HS:=V (anc u h1 h2);have E:=V (alx (a:=ps) u h1 h2);unfold e1 at F;unfold e2 at K;go_wp21;refine C.mono ?_;rintro e w1⟨rfl,q,rfl⟩;go_wp21
     go_quiet (fail)
     go_wp21;refine(F _ ?_).mono ?_;exact HR;rintro e w2⟨rfl,g,I⟩;go_wp21;refine(K _ I).mono ?_;rintro e w3⟨rfl,T,c⟩;have p3:=c.ps;have f3:=c.free 3;have a0:=Rd.QH c (i+1);have A:=((HKW.drewN (q+nq)).trans (g.trans T)).setCell (p:=⟨r,3,none⟩) (.inl (by simp)) (G ((i+1:Nat)));go_wp2;go_roundw
     case rel=>grind[Hid.out]
     case measure=>
      have m1:=a0.ps;rw[show((i:Int)+1)=((i+1:Nat):Int)from by omega,m1,p];simp[intOf];omega
    .have k2:taken R e2 i=i+4:=by unfold taken;rw[sL h2];rfl
     rw[h2,k2]at K;have HS:=V (anb u h1 h2);have E:=V (alw (a:=ps) u h1 h2);unfold e1 at F;unfold e2 at K;go_wp21;refine C.mono ?_;rintro e w1⟨rfl,q,rfl⟩;go_wp21
     go_quiet (fail)
     go_wp21;refine(F _ ?_).mono ?_;exact HR;rintro e w2⟨rfl,g,I⟩;go_wp21;refine(K _ I).mono ?_;rintro e w3⟨rfl,a2,c⟩;have A:=((HKW.drewN (q+nq)).trans (g.trans a2));go_wp2;go_ret;exact⟨by rw[<-HX.out,E.out];rfl,A,by rw[<-P.out,HS.out];exact c⟩
   .have k1:taken R e1 i=i+3:=by unfold taken;rw[sL h1];rfl
    rw[h1,k1]at F;have HS:=V (ana u h1);have E:=V (alv (a:=ps) u h1);unfold e1 at F;go_wp21;refine C.mono ?_;rintro e w1⟨rfl,q,rfl⟩;go_wp21
    go_quiet (fail)
    go_wp21;refine(F _ ?_).mono ?_;exact HR;rintro e w2⟨rfl,a1,c⟩;have A:=((HKW.drewN (q+nq)).trans a1);go_wp2;go_ret;exact⟨by rw[<-HX.out,E.out];rfl,A,by rw[<-P.out,HS.out];exact c⟩
def oN(R:RC)(ps:Nat):Nat:=if pre (R.cs.extract ps R.cs.size) iZ=true then ps+1 else if pre (R.cs.extract ps R.cs.size) zZ=true then ps+2 else vz R ps
def pu(R:RC)(ps:Nat):O:=if pre (R.cs.extract ps R.cs.size) iZ=true then ⟨#[]⟩else if pre (R.cs.extract ps R.cs.size) zZ=true then ⟨#[]⟩else qU R ps ps
theorem Pz(h:ps<=R.cs.size):oN R ps<=R.cs.size:=by
 unfold oN;split;rename_i c;exact mL c h;split;rename_i c;exact mL c h;grind[aia]
theorem acd:ps<=oN R ps:=by
 grind[ah9,oN]
theorem Ur(h:ps<=R.cs.size):oN R ps=R.cs.size\/(ps<oN R ps/\bt R.cs (oN R ps-1)=62):=by
 unfold oN;split;rename_i c;exact .inr ⟨by omega,Ia (j:=0) c (by decide)⟩;split;rename_i c;exact .inr ⟨by omega,Ia c (by decide)⟩;grind[ab6]
theorem VD(s:O):(AD s).size<=s.size:=by
 have h:∀p,(ByteArray.mk (Lib.trimSuffix s.data.toList p).toArray).size<=s.size:=by
  intro p;show(Lib.trimSuffix _ p).toArray.size<=s.data.size;unfold Lib.trimSuffix;split;simp;simp
 grind[AD]
theorem Yf{a:Nat}:(qU R a i).size<=R.cs.size:=by
 fun_induction qU R a i with
 |case1=>simp;omega
 |case2=>simp;omega
 |case3=>omega
 |case4=>grind[VD,ByteArray.size_extract]
theorem RK:(pu R ps).size<=R.cs.size:=by
 unfold pu;split;exact xj _;split;exact xj _;grind[Yf]
def Oj(r:Nat)(R:RC)(p m g u:Nat)(c:Nat->Nat)(w C:J)(T:Po w r R g u c)(hG:Gl w r)(hb:p<=R.cs.size)(hm:m<=R.cs.size)(hs:R.cs.size<=1024)(I:Z [r] w C)(D:Rd C r R p m)(t:O)(ht:t.size<=1048576):
  (Calls prog 79 #[gI r] C λe A=>e=iA (.agg #[G (c p),G (c m)])/\Z [r] w A/\Rd A r R p m/\
   Calls prog 149 #[Y t] A λe F=>e=iA (Y (nP t))/\Z [r] w F/\Rd F r R p m):=by
 refine(rj r R p m g u c C D (T.kept I) hb hm hs).mono ?_;rintro e A⟨K,h⟩;have E:=I.trans (h.mono (by simp));refine⟨K,E,D.kept h (by simp),((zJ r t A ht (hG.kept E)).mono ?_)⟩;rintro e F⟨P,z⟩;exact⟨P,E.trans (z.mono (by simp)),(D.kept h (by simp)).kept z (by simp)⟩
theorem Ut(r:Nat)(R:RC)(u ps g a0:Nat)(z:Nat->Nat)(w:J)(h:Rd w r R u ps)(hA:Po w r R g a0 z)(hG:Gl w r)(hb:u<=R.cs.size)(hp:ps<=R.cs.size)(hs:R.cs.size<=1024):
  Calls prog 156 #[gI r] w λe w'=>e=iA (.iface 194 (.agg #[G (z u),G (z (oN R ps)),Y (nP (pu R ps))]))/\Z [r] w w'/\Rd w' r R u (oN R ps):=by
 have D1:=mU r R u ps iZ w h hp hs (by decide);have D2:=(λw' (h:Rd w' r R u ps)=>mU r R u ps zZ w' h hp hs (by decide));have D3:=(λw' (h:Rd w' r R u ps)=>Fi r R u ps w' h hp hs);have F:=(λA (hk:Z [r] w A) (hr:Rd A r R u (oN R ps))=>Oj r R u (oN R ps) g a0 z w A hA hG hb (Pz hp) hs hk hr (pu R ps) (jZ RK (by omega)));clear h hA hG;cases h1:pre (R.cs.extract ps R.cs.size) iZ
 .have k1:taken R iZ ps=ps:=by unfold taken;rw[Xx (by simp[h1])]
  rw[h1,k1]at D1;cases h2:pre (R.cs.extract ps R.cs.size) zZ;have k2:taken R zZ ps=ps:=by unfold taken;rw[Xx (by simp[h2])]
  rw[h2,k2]at D2;have C:oN R ps=vz R ps:=by unfold oN;rw[Xx (by simp[h1]),Xx (by simp[h2])]
  have D:pu R ps=qU R ps ps:=by unfold pu;rw[Xx (by simp[h1]),Xx (by simp[h2])]
  rw[<-C,<-D]at D3;clear h1 h2 k1 k2 C D;generalize oN R ps=m at *;generalize pu R ps=t at *;go_enter func156,ntmps156;go_wp21;refine D1.mono ?_;rintro e w1⟨rfl,I,K⟩;go_wp21;refine(D2 _ K).mono ?_;rintro e w2⟨rfl,a1,a4⟩;have a2:=I.trans a1;clear a1;go_wp21;refine(D3 _ a4).mono ?_;rintro e A⟨rfl,c,p⟩;have F3:=F A (a2.trans c) p
  rotate_left
  have k2:taken R zZ ps=ps+2:=by unfold taken;rw[sL h2];rfl
  rw[h2,k2]at D2;have C:oN R ps=ps+2:=by unfold oN;rw[Xx (by simp[h1]),sL h2]
  have D:pu R ps=⟨#[]⟩:=by unfold pu;rw[Xx (by simp[h1]),sL h2]
  rw[C,D]at F|-;clear h1 h2 k1 k2 C D D3;go_enter func156,ntmps156;go_wp21;refine D1.mono ?_;rintro e w1⟨rfl,I,K⟩;go_wp21;refine(D2 _ K).mono ?_;rintro e A⟨rfl,c,p⟩;have F3:=F A (I.trans c) p
  all_goals
   clear c p;go_wp21;refine F3.mono ?_;rintro e w4⟨rfl,P,T,E⟩;clear P T;go_wp21;refine E.mono ?_;rintro e w5⟨rfl,a3,a5⟩;go_wp2;go_ret;simp_all
 .have k1:taken R iZ ps=ps+1:=by unfold taken;rw[sL h1];rfl
  rw[h1,k1]at D1;have C:oN R ps=ps+1:=by unfold oN;rw[sL h1]
  have D:pu R ps=⟨#[]⟩:=by unfold pu;rw[sL h1]
  rw[C,D]at F|-;clear h1 k1 C D D2 D3;go_enter func156,ntmps156;go_wp21;refine D1.mono ?_;rintro e A⟨rfl,c,p⟩;have F3:=F A c p;clear c p;go_wp21;refine F3.mono ?_;rintro e w4⟨rfl,P,T,E⟩;clear P T;go_wp21;refine E.mono ?_;rintro e w5⟨rfl,a3,a5⟩;go_wp2;go_ret;simp_all
section
open Go.Shelf Go.Lib
def Tk(s:O):O:=⟨(Lib.trimS s.data.toList [32,9,10,12]).toArray⟩
def ahf(s:O)(w:J)(hs:s.size<=1048576):
  Calls prog 250 #[Y s,Y nL] w λe w'=>e=iA (Y (Tk s))/\Z [] w w':=by
 exact(Any.strings_Trim_laid Tryz.lays160 (rfl) s _ w (by omega) (by decide) (ascii_of_all (rfl))).mono λe w' ⟨c,g⟩=>⟨c,Z.Do g⟩
def dV(R:RC)(ps:Nat):Nat:=scan (λc=>!jy nL c) R.cs ps
def JA(R:RC)(ps:Nat):Nat:=scan (jy nF) R.cs (dV R ps)
def aeZ(h:ps<=R.cs.size):dV R ps<=R.cs.size:=qF h
def LY(h:ps<=R.cs.size):JA R ps<=R.cs.size:=qF (aeZ h)
def alB:ps<=JA R ps:=jZ tL tL
end
section
open Go.Shelf Go.Lib
def Yg(R:RC)(ps:Nat):O:=nP (small (R.cs.extract (dV R ps) (JA R ps)))
def dT(R:RC)(ps:Nat):Bool:=((Yg R ps).toList==[])||!((Tk (R.cs.extract (JA R ps) (scan (jy iZ) R.cs (JA R ps)))).toList==[])||!(pre (R.cs.extract (scan (jy iZ) R.cs (JA R ps)) R.cs.size) iZ)
def Om(r:Nat)(R:RC)(p ps g T:Nat)(u:Nat->Nat)(w:J)(h:Rd w r R p ps)(hA:Po w r R g T u)(hG:Gl w r)(hb:p<=R.cs.size)(E:ps<=R.cs.size)(hs:R.cs.size<=1024):
  Calls prog 158 #[gI r] w λe w'=>e=iA (.iface 196 (.agg #[G (u p),G (u (sO R (JA R ps))),Y (Yg R ps),.bool (dT R ps)]))/\Z [r] w w'/\Rd w' r R p (sO R (JA R ps)):=by
 have a0:Yg R ps=nP (small (R.cs.extract (dV R ps) (JA R ps))):=rfl;have hQ:dT R ps=(((Yg R ps).toList==[])||!((Tk (R.cs.extract (JA R ps) (scan (jy iZ) R.cs (JA R ps)))).toList==[])||!(pre (R.cs.extract (scan (jy iZ) R.cs (JA R ps)) R.cs.size) iZ)):=rfl;generalize dT R ps=qk at *;generalize Yg R ps=ah at *;have C1:=xD r R p ps nL w h E hs;rw[show scan (λc=>!jy nL c) R.cs ps=dV R ps from rfl]at C1;have C2:=(λ(w':J) (h:Rd w' r R p (dV R ps))=>A0 r R p (dV R ps) nF w' h (aeZ E) hs);rw[show scan (jy nF) R.cs (dV R ps)=JA R ps from rfl]at C2;have C3:=(λ(w':J) (h:Rd w' r R p (JA R ps))=>A0 r R p (JA R ps) iZ w' h (LY E) hs);have ag:scan (jy iZ) R.cs (JA R ps)<=R.cs.size:=qF (LY E);have D:=(λ(w2:J) (hr:Rd w2 r R p (scan (jy iZ) R.cs (JA R ps)))=>mU r R p _ iZ w2 hr ag hs (by decide));rw[show taken R iZ (scan (jy iZ) R.cs (JA R ps))=sO R (JA R ps)from rfl]at D;have a4:sO R (JA R ps)<=R.cs.size:=Mq (LY E);have h3:JA R ps<=R.cs.size:=LY E;have HA:=hA;have HG:=hG;clear h hA hG;generalize sO R (JA R ps)=m at *;generalize scan (jy iZ) R.cs (JA R ps)=n at *;generalize JA R ps=b at *;generalize dV R ps=a at *;go_enter func158,ntmps158;go_wp21;refine C1.mono ?_;rintro e w1⟨rfl,a5,aa⟩;clear C1;go_wp21;refine(qh _ w1).mono ?_;rintro e w'⟨rfl,rfl⟩;go_wp21;refine(C2 _ aa).mono ?_;rintro e w2⟨rfl,a1,ab⟩;have I:=a5.trans a1;clear a1 C2;have E1:=AN r (R.cs.extract a b) w2 (by simp;omega) (HG.kept I);rw[<-a0]at E1;clear a0;go_wp21;refine E1.mono ?_;rintro e w3⟨rfl,z⟩;have a6:=I.trans (z.mono (by simp));have ac:=ab.kept z (by simp);clear z E1;go_wp21;refine(qh _ w3).mono ?_;rintro e w'⟨rfl,rfl⟩;go_wp21;refine(C3 _ ac).mono ?_;rintro e w4⟨rfl,a2,ad⟩;have a7:=a6.trans a2;clear a2 C3;have E2:=ahf (R.cs.extract b n) w4 (by simp;omega);generalize Tk (R.cs.extract b n)=mo at E2 hQ;go_wp21;refine E2.mono ?_;rintro e w5⟨rfl,A⟩;have a8:=a7.trans (A.mono (by simp));have ae:=ad.kept A (by simp);clear A E2;go_wp21;refine(D _ ae).mono ?_;rintro e w6⟨rfl,a3,P⟩;have K:=a8.trans a3;clear a3 D;have F:=rj r R p m g T u w6 P (HA.kept K) hb a4 hs;generalize pre (R.cs.extract n R.cs.size) iZ=cl at *;go_wp21;refine F.mono ?_;rintro e w7⟨rfl,C⟩;have a9:=K.trans (C.mono (by simp));have af:=P.kept C (by simp);clear C F;have HQ:=V hQ;clear hQ;cases h1:(ah.toList==[])<;>cases h2:(mo.toList==[])<;>cases cl
 all_goals go_wp2
 all_goals go_ret
 all_goals exact⟨by rw[HQ.out,h1,h2];rfl,a9,af⟩
end
section
open Go.Shelf Go.Lib
def TL(n:Int):Int:=if n=0\/(55296<=n/\n<=57343)\/n>=1114112 then 65533 else if n=128 then 8364 else if n=133 then 8230 else if n=145 then 8216 else if n=146 then 8217 else if n=147 then 8220 else if n=148 then 8221 else if n=150 then 8211 else if n=151 then 8212 else if n=153 then 8482 else n
def sq{x n:Int}(h:x=TL n):Ending.returned (.int .i32 x)=iA (.int .i32 (TL n)):=by rw[h]
theorem aeU{n:Int}(D:¬n=0)(E:n<55296)(c:(n==128)=false)(e:(n==133)=false)(g:(n==145)=false)(h:(n==146)=false)(p:(n==147)=false)(u:(n==148)=false)(z:(n==150)=false)(A:(n==151)=false)(C:(n==153)=false):TL n=n:=by
 grind[TL]
theorem Oi(n:Int)(w:J)(h:0<=n)(p:n<=1114112):
  Calls prog 305 #[G n] w λe w'=>e=iA (.int .i32 (TL n))/\w'=w:=by
 by_cases a:n=0
 .subst a;go_enter func305,ntmps305;go_wp2;go_ret;simp[TL]
 .by_cases b:55296<=n
  .by_cases c:n<=57343
   .go_enter func305,ntmps305;go_wp2;go_ret;exact⟨sq (by grind[TL]),rfl⟩
   .by_cases g:n>=1114112
    .go_enter func305,ntmps305;go_wp2;go_ret;exact⟨sq (by grind[TL]),rfl⟩
    .go_enter func305,ntmps305;go_wp2;go_ret;exact⟨sq (by grind[TL]),rfl⟩
  .go_enter func305,ntmps305;go_wp2
   all_goals
    (go_ret
     first
     |exact⟨sq (by rw[A6 ‹(n==128)=true›];rfl),rfl⟩
     |exact⟨sq (by rw[A6 ‹(n==133)=true›];rfl),rfl⟩
     |exact⟨sq (by rw[A6 ‹(n==145)=true›];rfl),rfl⟩
     |exact⟨sq (by rw[A6 ‹(n==146)=true›];rfl),rfl⟩
     |exact⟨sq (by rw[A6 ‹(n==147)=true›];rfl),rfl⟩
     |exact⟨sq (by rw[A6 ‹(n==148)=true›];rfl),rfl⟩
     |exact⟨sq (by rw[A6 ‹(n==150)=true›];rfl),rfl⟩
     |exact⟨sq (by rw[A6 ‹(n==151)=true›];rfl),rfl⟩
     |exact⟨sq (by rw[A6 ‹(n==153)=true›];rfl),rfl⟩
     |exact⟨sq (aeU a b ‹(n==128)=false› ‹(n==133)=false› ‹(n==145)=false› ‹(n==146)=false› ‹(n==147)=false› ‹(n==148)=false› ‹(n==150)=false› ‹(n==151)=false› ‹(n==153)=false›).symm,rfl⟩)
def mh(c:Int):Int:=if 48<=c/\c<=57 then c-48 else if 97<=c/\c<=102 then c-87 else if 65<=c/\c<=70 then c-55 else 99
theorem FR(c:Int):0<=mh c/\mh c<=99:=by grind[mh]
theorem LK(c:Int)(w:J)(p:0<=c)(u:c<=255):
  Calls prog 337 #[.int .u8 c] w λe w'=>e=iA (.bool (decide (48<=c/\c<=57)))/\w'=w:=by
 by_cases g:48<=c<;>by_cases h:c<=57
 all_goals (go_wp2;go_ret;simp_all)
def aci(c:Int)(w:J)(p:0<=c)(u:c<=255):
  Calls prog 304 #[.int .u8 c] w λe w'=>e=iA (G (mh c))/\w'=w:=by
 have C:=LK c w p u;by_cases a:48<=c/\c<=57
 .rw[show decide (48<=c/\c<=57)=true from by simp[a]]at C;have e:mh c=c-48:=by unfold mh;rw[sL a]
  rw[e];clear e;have⟨a1,a2⟩:=a;go_enter func304,ntmps304;go_wp21;refine C.mono ?_;rintro e w'⟨rfl,rfl⟩;go_wp2;go_ret;simp
 .rw[show decide (48<=c/\c<=57)=false from by simp;omega]at C;by_cases b:97<=c
  .by_cases g:c<=102;have e:mh c=c-97+10:=by unfold mh;rw[Xx a,sL ⟨b,g⟩];omega
   rotate_left
   have e:mh c=99:=by unfold mh;rw[Xx a,Xx (by omega),Xx (by omega)]
   all_goals
    rw[e];clear e a;go_enter func304,ntmps304;go_wp21;refine C.mono ?_;rintro e w'⟨rfl,rfl⟩;go_wp2;go_ret;simp
  .by_cases d:65<=c
   .by_cases h:c<=70;have e:mh c=c-65+10:=by unfold mh;rw[Xx a,Xx (by omega),sL ⟨d,h⟩];omega
    rotate_left
    have e:mh c=99:=by unfold mh;rw[Xx a,Xx (by omega),Xx (by omega)]
    all_goals
     rw[e];clear e a;go_enter func304,ntmps304;go_wp21;refine C.mono ?_;rintro e w'⟨rfl,rfl⟩;go_wp2;go_ret;simp
   .have e:mh c=99:=by unfold mh;rw[Xx a,Xx (by omega),Xx (by omega)]
    rw[e];clear e a;go_enter func304,ntmps304;go_wp21;refine C.mono ?_;rintro e w'⟨rfl,rfl⟩;go_wp2;go_ret;simp
end
def yh(base:Int)(s:O)(i:Nat):Nat:=scan (λc=>decide (mh c>=base)) s i
def qg(base:Int)(s:O)(f:Nat):Nat:=
 if yh base s f=f then 0 else if yh base s f<s.size/\bt s (yh base s f)=59 then yh base s f+1 else yh base s f
def Qe(s:O):Bool:=decide (2<s.size/\(bt s 2=120\/bt s 2=88))
def tG(s:O):Nat:=if Qe s=true then qg 16 s 3 else qg 10 s 2
theorem Qn{base:Int}{f:Nat}(h:f<=s.size):qg base s f<=s.size:=by
 grind[qF,qg,yh]
theorem Y4(h:2<=s.size):tG s<=s.size:=by
 unfold tG;split;grind[Qn,Qe];grind[Qn]
def yo(base:Int)(s:O)(k:Int)(i:Nat):Int:=
 if i<s.size then (if mh (bt s i)>=base then k else yo base s (min (k*base+mh (bt s i)) 1114112) (i+1))else k
  termination_by s.size-i
theorem VG{base:Int}{k:Int}(h:¬i<s.size):yo base s k i=k:=by grind[yo]
theorem Qo{base:Int}{k:Int}(h:i<s.size)(hq:mh (bt s i)>=base):yo base s k i=k:=by grind[yo]
theorem aaW{base:Int}{k:Int}(h:i<s.size)(hq:¬mh (bt s i)>=base):yo base s (min (k*base+mh (bt s i)) 1114112) (i+1)=yo base s k i:=by grind[yo]
def OU(base:Int)(s:O)(f:Nat):O:=if qg base s f=0 then ⟨#[]⟩else Utf8.encode (TL (yo base s 0 f))
def tH(s:O):O:=if Qe s=true then OU 16 s 3 else OU 10 s 2
def RO(c:Int):(Utf8.encode c).size<=16:=by
 unfold Utf8.encode;dsimp only
 repeat' split
 all_goals first|(show 1<=16;omega)|(show 2<=16;omega)|(show 3<=16;omega)|(show 4<=16;omega)
theorem OV(s:O):(tH s).size<=16:=by
 unfold tH OU
 repeat' split
 all_goals first|exact RO _|(show 0<=16;omega)
theorem sD{t e:O}{c:Nat}{m:Int}(h:t=e)(g:n=c)(p:m=(c:Int)):Ending.returned (.tuple #[Y t,G m])=iA (.tuple #[Y e,G n]):=by grind
theorem M9(s:O)(w:J)(hs:s.size<=1048576)(h2:2<=s.size):
  Calls prog 253 #[Y s] w λe w'=>e=iA (.tuple #[Y (tH s),G (tG s)])/\w'=w:=by
 have a6:=get_bt s;obtain⟨rs,a7,ab⟩:∃rs:Int->O,(∀c,rs c=Utf8.encode c)/\∀(c:Int)(w:J),(convert 21 9 (.int .i32 c)).run prog w=.ok (Y (rs c)) w:=⟨_,λ_=>rfl,λc w=>run_convert_int_string w 21 9 .i32 c (by simp) underlying9⟩;have a0:=V a7;clear a7;have D:=(λc (h0:0<=c) (h1:c<=255)=>aci c w h0 h1);have ae:=(λn (h0:0<=n) (h1:n<=1114112)=>Oi n w h0 h1);by_cases hx:Qe s=true
 .have e:tG s=qg 16 s 3:=by unfold tG;rw[sL hx]
  have e':tH s=OU 16 s 3:=by unfold tH;rw[sL hx]
  rw[e,e'];clear e e';unfold Qe at hx;have⟨a5,a1⟩:=of_decide_eq_true hx;clear hx;obtain⟨ne,I⟩:∃x,x=qg 16 s 3:=⟨_,rfl⟩;obtain⟨nt,T⟩:∃x,x=OU 16 s 3:=⟨_,rfl⟩;have P:nt=if ne=0 then ⟨#[]⟩else Utf8.encode (TL (yo 16 s 0 3)):=by rw[T,I,OU]
  rw[<-I,<-T];have u:=V I;have A:=V P;clear I T P;rcases a1 with a1|a1
  all_goals
   go_enter func253,ntmps253;go_wp21
   go_loopw [6,7] (λnv iv wr=>wr=w/\∃(k:Int)(i:Nat),nv=G k/\iv=G i/\0<=k/\k<=1114112/\3<=i/\i<=s.size/\yh 16 s i=yh 16 s 3/\yo 16 s k i=yo 16 s 0 3) (λ_ iv _=>s.size-(intOf iv).toNat)
   case atStart=>grind
   case round=>
    obtain⟨rfl,k,i,rfl,rfl,a2,a3,a9,aa,hd,hv⟩:=hrel;have HD:=V hd;have HV:=V hv;clear hd hv;by_cases p:i<s.size
    .have hb:=a6 i p;have h0:=bt_nonneg s i;have h1:=bt_le s i;have r:=FR (bt s i);have C:=D (bt s i) h0 h1;by_cases hq:mh (bt s i)>=16
     .have e1:yh 16 s i=i:=Nj (by simpa using hq);have e2:yh 16 s 3=i:=by rw[<-HD.out,e1]
      have F:yo 16 s 0 3=k:=by rw[<-HV.out,Qo p hq]
      by_cases K:i=3
      .have g:ne=0:=by rw[u.out];unfold qg;rw[e2,sL K]
       have z:=V g;have E:=V (show nt=⟨#[]⟩ by rw[A.out,sL g]);clear e1 e2 g F;subst K;go_wp21;refine C.mono ?_;rintro e w'⟨rfl,rfl⟩;go_wp2;go_ret2;exact⟨sD E.symm z rfl,rfl⟩
      .have HG:=ae k a2 a3;by_cases a4:bt s i=59;have g:ne=i+1:=by rw[u.out];unfold qg;rw[e2,Xx K,sL ⟨p,a4⟩]
       have z:=V g;have E:=V (show nt=rs (TL k) by rw[A.out,Xx (by omega),F,a0.out]);rw[a4]at C hb h0 h1 r hq;rw[show mh 59=99 from by decide]at C;clear e1 e2 g F r hq h0 h1
       rotate_left
       have g:ne=i:=by rw[u.out];unfold qg;rw[e2,Xx K,Xx (by omega)]
       have z:=V g;have E:=V (show nt=rs (TL k) by rw[A.out,Xx (by omega),F,a0.out]);clear e1 e2 g F
       all_goals
        go_wp21;refine C.mono ?_;rintro e w'⟨rfl,rfl⟩;go_wp21;refine HG.mono ?_;rintro e w'⟨rfl,rfl⟩;go_wp2;go_ret2;exact⟨sD E.symm z rfl,rfl⟩
     .have e1:yh 16 s (i+1)=yh 16 s 3:=by rw[<-HD.out];exact(Lg p (by simpa using hq)).symm
      have HU:yo 16 s (min (k*16+mh (bt s i)) 1114112) (i+1)=yo 16 s 0 3:=by rw[aaW p hq,HV.out]
      have z:=V e1;clear e1;generalize mh (bt s i)=d at *;go_wp21;refine C.mono ?_;rintro e w'⟨rfl,rfl⟩;go_wp2
      all_goals (refine⟨⟨trivial,min (k*16+d) 1114112,i+1,?_,by go_num,by omega,by omega,by omega,by omega,z,HU⟩,?_⟩;(first|rfl|(congr 1;omega));(simp[intOf];omega))
    .have e1:yh 16 s i=i:=GU (by omega);have e2:yh 16 s 3=i:=by rw[<-HD.out,e1]
     have F:yo 16 s 0 3=k:=by rw[<-HV.out,VG p]
     have HG:=ae k a2 a3;have e0:i=s.size:=by omega
     by_cases K:i=3
     .have g:ne=0:=by rw[u.out];unfold qg;rw[e2,sL K]
      have z:=V g;have E:=V (show nt=⟨#[]⟩ by rw[A.out,sL g]);clear e1 e2 g F e0;subst K
      first
       |(exfalso;omega)
       |(go_wp2
         go_ret2;exact⟨sD E.symm z rfl,rfl⟩)
     .have g:ne=i:=by rw[u.out];unfold qg;rw[e2,Xx K,Xx (by omega)]
      have z:=V g;have E:=V (show nt=rs (TL k) by rw[A.out,Xx (by omega),F,a0.out]);clear e1 e2 g F e0;go_wp21;refine HG.mono ?_;rintro e w'⟨rfl,rfl⟩;go_wp2;go_ret2;exact⟨sD E.symm z rfl,rfl⟩
 .have e:tG s=qg 10 s 2:=by unfold tG;rw[Xx hx]
  have e':tH s=OU 10 s 2:=by unfold tH;rw[Xx hx]
  rw[e,e'];clear e e';have a5:¬(2<s.size/\(bt s 2=120\/bt s 2=88)):=by unfold Qe at hx;simpa using hx
  clear hx;obtain⟨ne,I⟩:∃x,x=qg 10 s 2:=⟨_,rfl⟩;obtain⟨nt,T⟩:∃x,x=OU 10 s 2:=⟨_,rfl⟩;have P:nt=if ne=0 then ⟨#[]⟩else Utf8.encode (TL (yo 10 s 0 2)):=by rw[T,I,OU]
  rw[<-I,<-T];have u:=V I;have A:=V P;clear I T P;by_cases hz:2<s.size
  .have a1:¬bt s 2=120:=λh=>a5 ⟨hz,.inl h⟩;have a8:¬bt s 2=88:=λh=>a5 ⟨hz,.inr h⟩;have ac:(bt s 2==120)=false:=beq_eq_false_iff_ne.2 a1;have ad:(bt s 2==88)=false:=beq_eq_false_iff_ne.2 a8;clear a5 a1 a8;go_enter func253,ntmps253;go_wp21
   go_loopw [6,7] (λnv iv wr=>wr=w/\∃(k:Int)(i:Nat),nv=G k/\iv=G i/\0<=k/\k<=1114112/\2<=i/\i<=s.size/\yh 10 s i=yh 10 s 2/\yo 10 s k i=yo 10 s 0 2) (λ_ iv _=>s.size-(intOf iv).toNat)
   case atStart=>grind
   case round=>
    obtain⟨rfl,k,i,rfl,rfl,a2,a3,a9,aa,hd,hv⟩:=hrel;have HD:=V hd;have HV:=V hv;clear hd hv;by_cases p:i<s.size
    .have hb:=a6 i p;have h0:=bt_nonneg s i;have h1:=bt_le s i;have r:=FR (bt s i);have C:=D (bt s i) h0 h1;by_cases hq:mh (bt s i)>=10
     .have e1:yh 10 s i=i:=Nj (by simpa using hq);have e2:yh 10 s 2=i:=by rw[<-HD.out,e1]
      have F:yo 10 s 0 2=k:=by rw[<-HV.out,Qo p hq]
      by_cases K:i=2
      .have g:ne=0:=by rw[u.out];unfold qg;rw[e2,sL K]
       have z:=V g;have E:=V (show nt=⟨#[]⟩ by rw[A.out,sL g]);clear e1 e2 g F;subst K;go_wp21;refine C.mono ?_;rintro e w'⟨rfl,rfl⟩;go_wp2;go_ret2;exact⟨sD E.symm z rfl,rfl⟩
      .have HG:=ae k a2 a3;by_cases a4:bt s i=59;have g:ne=i+1:=by rw[u.out];unfold qg;rw[e2,Xx K,sL ⟨p,a4⟩]
       have z:=V g;have E:=V (show nt=rs (TL k) by rw[A.out,Xx (by omega),F,a0.out]);rw[a4]at C hb h0 h1 r hq;rw[show mh 59=99 from by decide]at C;clear e1 e2 g F r hq h0 h1
       rotate_left
       have g:ne=i:=by rw[u.out];unfold qg;rw[e2,Xx K,Xx (by omega)]
       have z:=V g;have E:=V (show nt=rs (TL k) by rw[A.out,Xx (by omega),F,a0.out]);clear e1 e2 g F
       all_goals
        go_wp21;refine C.mono ?_;rintro e w'⟨rfl,rfl⟩;go_wp21;refine HG.mono ?_;rintro e w'⟨rfl,rfl⟩;go_wp2;go_ret2;exact⟨sD E.symm z rfl,rfl⟩
     .have e1:yh 10 s (i+1)=yh 10 s 2:=by rw[<-HD.out];exact(Lg p (by simpa using hq)).symm
      have HU:yo 10 s (min (k*10+mh (bt s i)) 1114112) (i+1)=yo 10 s 0 2:=by rw[aaW p hq,HV.out]
      have z:=V e1;clear e1;generalize mh (bt s i)=d at *;go_wp21;refine C.mono ?_;rintro e w'⟨rfl,rfl⟩;go_wp2
      all_goals (refine⟨⟨trivial,min (k*10+d) 1114112,i+1,?_,by go_num,by omega,by omega,by omega,by omega,z,HU⟩,?_⟩;(first|rfl|(congr 1;omega));(simp[intOf];omega))
    .have e1:yh 10 s i=i:=GU (by omega);have e2:yh 10 s 2=i:=by rw[<-HD.out,e1]
     have F:yo 10 s 0 2=k:=by rw[<-HV.out,VG p]
     have HG:=ae k a2 a3;have e0:i=s.size:=by omega
     by_cases K:i=2
     .have g:ne=0:=by rw[u.out];unfold qg;rw[e2,sL K]
      have z:=V g;have E:=V (show nt=⟨#[]⟩ by omega);clear e1 e2 g F e0;subst K
      first
       |(exfalso;omega)
       |(go_wp2
         go_ret2;exact⟨sD E.symm z rfl,rfl⟩)
     .have g:ne=i:=by rw[u.out];unfold qg;rw[e2,Xx K,Xx (by omega)]
      have z:=V g;have E:=V (show nt=rs (TL k) by rw[A.out,Xx (by omega),F,a0.out]);clear e1 e2 g F e0;go_wp21;refine HG.mono ?_;rintro e w'⟨rfl,rfl⟩;go_wp2;go_ret2;exact⟨sD E.symm z rfl,rfl⟩
  .clear a5;have n0:yh 10 s 2=2:=GU (by omega);have n1:ne=0:=by rw[u.out];unfold qg;rw[sL n0]
   have n2:nt=⟨#[]⟩:=by rw[A.out,sL n1]
   have e0:s.size=2:=by omega
   have z:=V n1;have E:=V n2;clear n0 n1 n2;go_enter func253,ntmps253;go_wp21;refine yB 1 ?_;rw[uE];go_wp2;go_ret2;exact⟨sD E.symm z rfl,rfl⟩
def quoted(R:RC)(q:O)(ps:Nat):Nat:=taken R q (scan (jy q) R.cs (ps+1))
def uj(R:RC)(ps:Nat):Nat:=
 if pre (R.cs.extract ps R.cs.size) qq=true then quoted R qq ps else if pre (R.cs.extract ps R.cs.size) uH=true then quoted R uH ps else scan (jy nF) R.cs ps
def Qw{q:O}(h:ps<R.cs.size):quoted R q ps<=R.cs.size:=Xf (qF (by omega))
def Qv{q:O}:ps<=quoted R q ps:=jZ (by omega) (jZ (tL (i:=ps+1)) Xe)
def SE{p:O}(h:pre (s.extract ps s.size) p=true)(c:ps<=s.size)(e:0<p.size):ps<s.size:=by
 have:=mL h c;omega
def adn(h:ps<=R.cs.size):uj R ps<=R.cs.size:=by
 unfold uj;split;rename_i c;exact Qw (SE c h (by decide));split;rename_i c;exact Qw (SE c h (by decide));exact qF h
def adm:ps<=uj R ps:=by
 unfold uj;split;exact Qv;split;exact Qv;exact tL
def nZ(R:RC)(ps:Nat):O:=
 if pre (R.cs.extract ps R.cs.size) qq=true then R.cs.extract (ps+1) (scan (jy qq) R.cs (ps+1))else if pre (R.cs.extract ps R.cs.size) uH=true then R.cs.extract (ps+1) (scan (jy uH) R.cs (ps+1))else R.cs.extract ps (scan (jy nF) R.cs ps)
def ER:(nZ R ps).size<=R.cs.size:=by
 unfold nZ;repeat' split
 all_goals (simp;omega)
def M8(r:Nat)(R:RC)(c ps:Nat)(q:O)(hq:q.size=1)(w w1:J)(I:Z [r] w w1)(h:Rd w1 r R c (ps+1))(D:ps+1<=R.cs.size)(hs:R.cs.size<=1024):
  Calls prog 249 #[gI r,.func (.func 251) #[] #[gI w1.heap.size]] (w1.alloc (.cells #[Y q] 9))
   λe A=>e=iA (Y (R.cs.extract (ps+1) (scan (jy q) R.cs (ps+1))))/\
    Calls prog 82 #[gI r,Y q] A λe C=>(∃b,e=iA (.bool b))/\Z [r] w C/\Rd C r R c (quoted R q ps):=by
 refine(A0 r R c (ps+1) q w1 h D hs).mono ?_;rintro e A⟨E,g,u⟩;refine⟨E,?_⟩;refine(mU r R c _ q A u (qF D) hs (by omega)).mono ?_;rintro e C⟨F,p,z⟩;exact⟨⟨_,F⟩,(I.trans g).trans p,z⟩
theorem SM(r:Nat)(R:RC)(u ps:Nat)(w:J)(h:Rd w r R u ps)(hp:ps<=R.cs.size)(hs:R.cs.size<=1024):
  Calls prog 356 #[gI r] w λe w'=>e=iA (Y (nZ R ps))/\Z [r] w w'/\Rd w' r R u (uj R ps):=by
 have hr:=ja h;obtain⟨P,C⟩:∃P,P=w.alloc (.cells #[Y qq,Y uH] 9):=⟨_,rfl⟩;have K0:Z [] w P:=by rw[C];exact(Z.refl _ _).alloc _
 have b0:P.heap[w.heap.size]?=some (gH #[Y qq,Y uH] 9):=by rw[C];exact fU w _
 have r0:Rd P r R u ps:=K0.at h (by simp);have z0:w.heap.size<P.heap.size:=ja b0;have HW:=V C.symm;clear C;have D1:=mU r R u ps qq P r0 hp hs (by decide);have D2:=(λw' (h:Rd w' r R u ps)=>mU r R u ps uH w' h hp hs (by decide));have c0:=fP b0 0;dsimp at c0;have HB:=V b0;have HZ:=V z0;clear h b0 z0 r0;cases h1:pre (R.cs.extract ps R.cs.size) qq
 .have k1:taken R qq ps=ps:=by unfold taken;rw[Xx (by simp[h1])]
  rw[h1,k1]at D1;cases h2:pre (R.cs.extract ps R.cs.size) uH
  .have k2:taken R uH ps=ps:=by unfold taken;rw[Xx (by simp[h2])]
   rw[h2,k2]at D2;have D:uj R ps=scan (jy nF) R.cs ps:=by unfold uj;rw[Xx (by simp[h1]),Xx (by simp[h2])]
   have U:=(λw' (h:Rd w' r R u ps)=>A0 r R u ps nF w' h hp hs);rw[<-D]at U;have E:nZ R ps=R.cs.extract ps (uj R ps):=by unfold nZ;rw[Xx (by simp[h1]),Xx (by simp[h2]),D]
   rw[E];clear h1 h2 k1 k2 D E;generalize uj R ps=m at *;go_enter func356,ntmps356;go_wp21;refine yB 3 ?_;rw[uE,HW.out];go_wp21;refine D1.mono ?_;rintro e A⟨rfl,g,I⟩;have c1:A.cell? ⟨w.heap.size,1,none⟩=some (Y uH):=by rw[g.cell (p:=⟨w.heap.size,1,none⟩) HZ.out (by simp;omega),fP HB.out];rfl
   have F:=(K0.mono (S':=[r]) (by simp)).trans g;clear g;go_wp21;rw[uE];go_wp21;refine(D2 _ I).mono ?_;rintro e T⟨rfl,c,a3⟩;have a1:=F.trans c;clear c;go_wp21;rw[uE];go_wp21;refine(qh _ T).mono ?_;rintro e w'⟨rfl,rfl⟩;go_wp21;refine(U _ a3).mono ?_;rintro e w3⟨rfl,a0,a6⟩;have a5:=a1.trans a0;clear a0;go_wp2;go_ret;simp_all
  .have k2:taken R uH ps=ps+1:=by unfold taken;rw[sL h2];rfl
   rw[h2,k2]at D2;have D:uj R ps=quoted R uH ps:=by unfold uj;rw[Xx (by simp[h1]),sL h2]
   have E:nZ R ps=R.cs.extract (ps+1) (scan (jy uH) R.cs (ps+1)):=by unfold nZ;rw[Xx (by simp[h1]),sL h2]
   rw[D,E];have K:=SE h2 hp (by decide);clear h1 h2 k1 k2 D E;have U:=(λA (hk:Z [r] w A) (h:Rd A r R u (ps+1))=>M8 r R u ps uH rfl w A hk h K hs);generalize R.cs.extract (ps+1) (scan (jy uH) R.cs (ps+1))=t at *;generalize quoted R uH ps=m at *;go_enter func356,ntmps356;go_wp21;refine yB 3 ?_;rw[uE,HW.out];go_wp21;refine D1.mono ?_;rintro e A⟨rfl,g,I⟩;have c1:A.cell? ⟨w.heap.size,1,none⟩=some (Y uH):=by rw[g.cell (p:=⟨w.heap.size,1,none⟩) HZ.out (by simp;omega),fP HB.out];rfl
   have F:=(K0.mono (S':=[r]) (by simp)).trans g;clear g;go_wp21;rw[uE];go_wp21;refine(D2 _ I).mono ?_;rintro e T⟨rfl,c,z⟩;have a7:=U T (F.trans c) z;clear c z;go_wp21;refine(qh _ T).mono ?_;rintro e w'⟨rfl,rfl⟩;go_wp21;refine a7.mono ?_;rintro e w3⟨rfl,HV⟩;go_wp21;refine HV.mono ?_;rintro e w4⟨⟨b,rfl⟩,a2,a4⟩;go_wp2;go_ret;simp_all
 .have k1:taken R qq ps=ps+1:=by unfold taken;rw[sL h1];rfl
  rw[h1,k1]at D1;have D:uj R ps=quoted R qq ps:=by unfold uj;rw[sL h1]
  have E:nZ R ps=R.cs.extract (ps+1) (scan (jy qq) R.cs (ps+1)):=by unfold nZ;rw[sL h1]
  rw[D,E];have K:=SE h1 hp (by decide);clear h1 k1 D E D2;have U:=(λA (hk:Z [r] w A) (h:Rd A r R u (ps+1))=>M8 r R u ps qq rfl w A hk h K hs);generalize R.cs.extract (ps+1) (scan (jy qq) R.cs (ps+1))=t at *;generalize quoted R qq ps=m at *;go_enter func356,ntmps356;go_wp21;refine yB 3 ?_;rw[uE,HW.out];go_wp21;refine D1.mono ?_;rintro e T⟨rfl,c,z⟩;have a7:=U T ((K0.mono (S':=[r]) (by simp)).trans c) z;clear c z;go_wp21;refine(qh _ T).mono ?_;rintro e w'⟨rfl,rfl⟩;go_wp21;refine a7.mono ?_;rintro e w3⟨rfl,HV⟩;go_wp21;refine HV.mono ?_;rintro e w4⟨⟨b,rfl⟩,a2,a4⟩;go_wp2;go_ret;simp_all
def U7(s:O):Bool:=decide (0<s.size)&&(decide (bt s 0=61)||decide (97<=bt s 0/\bt s 0<=122\/65<=bt s 0/\bt s 0<=90)||decide (48<=bt s 0/\bt s 0<=57))
theorem YH(s:O)(w:J):
  Calls prog 306 #[Y s] w λe w'=>e=iA (.bool (U7 s))/\w'=w:=by
 have c:=get_bt s;by_cases z:0<s.size
 .have g:=bt_nonneg s 0;have p:=bt_le s 0;have I:=c 0 z;have u:s.toList.isEmpty=false:=by
   rw[sd];cases h:s.data.toList with
   |nil=>
    exfalso;have e1:s.data.toList.length=0:=by rw[h];rfl
    rw[Ty]at e1;have e2:s.data.size=s.size:=rfl;omega
   |cons=>rfl
  have E:¬s.toList=[]:=by intro h;rw[h]at u;cases u
  have L:=MJ (bt s 0) w g p;have D:=LK (bt s 0) w g p;have C:U7 s=(decide (bt s 0=61)||decide (97<=bt s 0/\bt s 0<=122\/65<=bt s 0/\bt s 0<=90)||decide (48<=bt s 0/\bt s 0<=57)):=by unfold U7;simp[z]
  rw[C];by_cases a:bt s 0=61
  .rw[show decide (bt s 0=61)=true from by simp[a]];go_enter func306,ntmps306;go_wp2;go_ret;simp
  .rw[show decide (bt s 0=61)=false from by simp[a]];have F:(bt s 0==61)=false:=beq_eq_false_iff_ne.2 a;cases hl:decide (97<=bt s 0/\bt s 0<=122\/65<=bt s 0/\bt s 0<=90)
   .rw[hl]at L;cases hd:decide (48<=bt s 0/\bt s 0<=57)
    all_goals
     rw[hd]at D;go_enter func306,ntmps306;go_wp21;refine L.mono ?_;rintro e w'⟨rfl,rfl⟩;go_wp21;refine D.mono ?_;rintro e w'⟨rfl,rfl⟩;go_wp2;go_ret;simp
   .rw[hl]at L;go_enter func306,ntmps306;go_wp21;refine L.mono ?_;rintro e w'⟨rfl,rfl⟩;go_wp2;go_ret;simp
 .have A:s=⟨#[]⟩:=NV (Z0 (by simp_all));subst A;go_enter func306,ntmps306;go_wp2;go_ret;exact⟨rfl,rfl⟩
def ui(look:O->Option O)(s:O)(inV:Bool):Nat->Nat
 |0=>0
 |k+1=>if (look (s.extract 1 (1+(k+1)))).isSome=true then (if (inV&&decide (bt s (k+1)≠59)&&U7 (s.extract (1+(k+1)) s.size))=true then 0 else 1+(k+1))else ui look s inV k
theorem ac3:ui look s inV k<=k+1:=by
 induction k with
 |zero=>simp[ui]
 |succ k ih=>
  grind[ui]
def vh(look:O->Option O)(s:O)(inV:Bool):Nat->O
 |0=>⟨#[]⟩
 |k+1=>if (look (s.extract 1 (1+(k+1)))).isSome=true then (if (inV&&decide (bt s (k+1)≠59)&&U7 (s.extract (1+(k+1)) s.size))=true then ⟨#[]⟩else (look (s.extract 1 (1+(k+1)))).getD ⟨#[]⟩)else vh look s inV k
theorem Su(h:∀x t,look x=some t->t.size<=16):(vh look s inV k).size<=16:=by
 induction k with
 |zero=>exact xj _
 |succ k ih=>
  unfold vh;split;split;exact xj _;grind[Option.isSome_iff_exists];omega
def Wg(b lg:Nat)(look:O->Option O)(s:O)(inV:Bool)(w:J)(hL:Lk w b look)(aa:lg<=1048576)(hs:s.size<=1048576)(h1:1<=s.size):
  Calls prog 254 #[.agg #[.map (some b),G lg],Y s,.bool inV] w λe w'=>e=iA (.tuple #[Y (vh look s inV (min lg (s.size-1))),G (ui look s inV (min lg (s.size-1)))])/\Z [] w w':=by
 have a5:=get_bt s;have HL:=hL;clear hL;obtain⟨k0,D⟩:∃k0,k0=min lg (s.size-1):=⟨_,rfl⟩;have a7:min (lg:Int) ((s.size:Int)-1)=(k0:Int):=by rw[D];omega
 have a1:k0<=s.size-1:=by rw[D];exact Nat.min_le_right ..
 rw[<-D];clear D;obtain⟨m,HM⟩:∃m,m=ui look s inV k0:=⟨_,rfl⟩;rw[<-HM];obtain⟨A,HX⟩:∃A,A=vh look s inV k0:=⟨_,rfl⟩;rw[<-HX];have a6:∀wr,Z [w.heap.size] (w.alloc (.cells #[.map (some b),G lg] 158)) wr->True:=λ_ _=>trivial;clear a6;go_enter func254,ntmps254;go_wp21
 go_loopw [8] (λv wr=>∃k:Nat,v=G k/\k<=s.size-1/\ui look s inV k=m/\vh look s inV k=A/\Z [] (w.alloc (.cells #[.map (some b),G lg] 158)) wr) (λv _=>(intOf v).toNat)
 case atStart=>exact⟨k0,by rfl,a1,HM.symm,HX.symm,Z.refl _ _⟩
 case round=>
  obtain⟨k,rfl,hk,a2,a3,p⟩:=hrel;have HN:=V a2;have P:=V a3;have T:=fU w (.cells #[.map (some b),G lg] 158);have c0:=fP (p.at T (by simp)) 0;dsimp at c0;have ab:w.heap.size<wr.heap.size:=ja (p.at T (by simp));have z:Hid (Lk wr b look):=(HL.kept ((Z.refl [] w).alloc _) (by simp)).kept p (by simp);clear a2 a3 T;cases k with
  |zero=>
   have F:m=0:=HN.symm;have I:=(show A=⟨#[]⟩from P.symm);go_wp2;go_ret2;exact⟨sD I.symm F rfl,((Z.refl [] w).alloc _).trans p⟩
  |succ j=>
   have lV:=z.lt;have E:=z.run (s.extract 1 (1+(j+1))) wr rfl;have h:=z.run (s.extract 1 (1+(j+1))) wr.drew rfl;have g:=λo=>z.run (s.extract 1 (1+(j+1))) (wr.alloc o) (Below.heap_alloc wr o b lV);have c:=λo=>z.run (s.extract 1 (1+(j+1))) (wr.alloc o).drew (Below.heap_alloc wr o b lV);cases hlo:look (s.extract 1 (1+(j+1)))with
   |none=>
    rw[hlo]at E h;simp only[hlo]at g c;have a4:ui look s inV j=m:=by rw[<-HN.out,ui,Xx (by simp[hlo])]
    have a0:=(show vh look s inV j=A by rw[<-P.out,vh,Xx (by simp[hlo])]);clear hlo;simp only[Option.getD_none,Option.isSome_none]at E h g c;go_wp21;go_region
    all_goals (try go_wp2)
    exact⟨⟨j,rfl,by omega,a4,a0,(p.alloc _).drew⟩,by simp[intOf]⟩
   |some t=>
    rw[hlo]at E h;simp only[hlo]at g c;have HV:Hid (m=if (inV&&decide (bt s (j+1)≠59)&&U7 (s.extract (1+(j+1)) s.size))=true then 0 else 1+(j+1)):=by
     rw[<-HN.out,ui,sL (by simp[hlo])];exact rfl
    have C:Hid (A=if (inV&&decide (bt s (j+1)≠59)&&U7 (s.extract (1+(j+1)) s.size))=true then ⟨#[]⟩else t):=by
     rw[<-P.out,vh,sL (by simp[hlo]),hlo];exact rfl
    clear hlo;simp only[Option.getD_some,Option.isSome_some]at E h g c;have K:Hid (Z [] w (wr.alloc (.cells #[Y t] 202)).drew):=(((Z.refl [] w).alloc _).trans (p.alloc _)).drew;have hj:j+1<s.size:=by omega
    have a9:=a5 (j+1) hj;cases inV
    .have F:m=1+(j+1):=by rw[HV.out];simp
     have I:=(show A=t by rw[C.out];simp);go_wp21;go_region
     all_goals (try go_wp2)
     all_goals (try go_ret2)
     all_goals exact⟨sD I.symm F rfl,K⟩
    .by_cases u:bt s (j+1)=59
     .have F:m=1+(j+1):=by rw[HV.out];simp[u]
      have I:=(show A=t by rw[C.out];simp[u]);go_wp21;go_region
      all_goals (try go_wp2)
      all_goals (try go_ret2)
      all_goals exact⟨sD I.symm F rfl,K⟩
     .have a8:(bt s (j+1) != 59)=true:=by rw[bne_iff_ne];exact u
      have ac:=YH (s.extract (1+(j+1)) s.size) (wr.alloc (.cells #[Y t] 202)).drew;cases hg:U7 (s.extract (1+(j+1)) s.size);have F:m=1+(j+1):=by rw[HV.out];simp[hg]
      have I:=(show A=t by rw[C.out];simp[hg])
      rotate_left
      have F:m=0:=by rw[HV.out];simp[hg,u]
      have I:=(show A=⟨#[]⟩ by rw[C.out];simp[hg,u])
      all_goals
       rw[hg]at ac;clear hg u;go_wp21;go_region
       all_goals (try (go_wp21))
       all_goals (refine ac.mono ?_;rintro e w'⟨rfl,rfl⟩)
       all_goals (try go_wp2)
       all_goals (try go_ret2)
       all_goals exact⟨sD I.symm F rfl,K⟩
def mM(look:O->Option O)(lg:Nat)(s:O)(inV:Bool):Nat:=
 if pre s ⟨#[38,35]⟩=true then tG s else if pre s vG=true then ui look s inV (min lg (s.size-1))else 0
theorem ES:mM look lg s inV<=s.size:=by
 unfold mM;split;rename_i h;exact Y4 (IQ h);split;rename_i h;have c:1<=s.size:=IQ h;grind[ac3];simp
def oY(look:O->Option O)(lg:Nat)(s:O)(inV:Bool):O:=
 if pre s ⟨#[38,35]⟩=true then tH s else if pre s vG=true then vh look s inV (min lg (s.size-1))else ⟨#[]⟩
theorem zl(h:∀x t,look x=some t->t.size<=16):(oY look lg s inV).size<=16:=by
 unfold oY;split;grind[OV];split;grind[Su];exact xj _
def Wh(b lg:Nat)(look:O->Option O)(s:O)(inV:Bool)(w:J)(hL:Lk w b look)(I:lg<=1048576)(hs:s.size<=1048576):
  Calls prog 161 #[.agg #[.map (some b),G lg],Y s,.bool inV] w λe w'=>e=iA (.tuple #[Y (oY look lg s inV),G (mM look lg s inV)])/\Z [] w w':=by
 obtain⟨g,c⟩:∃g,g=w.alloc (.cells #[.map (some b),G lg] 158):=⟨_,rfl⟩;have u:g.heap[w.heap.size]?=some (gH #[.map (some b),G lg] 158):=by rw[c];exact fU w _
 have z:Z [] w g:=by rw[c];exact(Z.refl _ _).alloc _
 have T:=fP u 0;have c1:=fP u 1;dsimp at T c1;have E:=V c.symm;have P:=hL.kept z (by simp);have h:=we s ⟨#[38,35]⟩ g hs (by decide);have A:=we s vG g hs (by decide);clear c;cases h1:pre s ⟨#[38,35]⟩
 .rw[h1]at h;cases h2:pre s vG
  .rw[h2]at A;have e:mM look lg s inV=0:=by unfold mM;rw[Xx (by simp[h1]),Xx (by simp[h2])]
   have p:oY look lg s inV=⟨#[]⟩:=by unfold oY;rw[Xx (by simp[h1]),Xx (by simp[h2])]
   rw[e,p];go_enter func161,ntmps161;go_wp21;rw[E.out];refine h.mono ?_;rintro e w'⟨rfl,rfl⟩;go_wp21;refine A.mono ?_;rintro e w'⟨rfl,rfl⟩;go_wp2;go_ret2;exact⟨rfl,z⟩
  .rw[h2]at A;have K:1<=s.size:=IQ h2;have e:mM look lg s inV=ui look s inV (min lg (s.size-1)):=by unfold mM;rw[Xx (by simp[h1]),sL h2]
   have p:oY look lg s inV=vh look s inV (min lg (s.size-1)):=by unfold oY;rw[Xx (by simp[h1]),sL h2]
   rw[e,p];have C:=Wg b lg look s inV g P I hs K;generalize ui look s inV (min lg (s.size-1))=m at *;generalize vh look s inV (min lg (s.size-1))=t at *;go_enter func161,ntmps161;go_wp21;rw[E.out];refine h.mono ?_;rintro e w'⟨rfl,rfl⟩;go_wp21;refine A.mono ?_;rintro e w'⟨rfl,rfl⟩;go_wp21;refine C.mono ?_;rintro e w2⟨rfl,F⟩;have D:=z.trans F;go_wp2;go_ret2;exact⟨rfl,D⟩
 .rw[h1]at h;have K:2<=s.size:=IQ h1;have e:mM look lg s inV=tG s:=by unfold mM;rw[sL h1]
  have p:oY look lg s inV=tH s:=by unfold oY;rw[sL h1]
  rw[e,p];have C:=M9 s g hs K;generalize tG s=m at *;generalize tH s=t at *;go_enter func161,ntmps161;go_wp21;rw[E.out];refine h.mono ?_;rintro e w'⟨rfl,rfl⟩;go_wp21;refine C.mono ?_;rintro e w2⟨rfl,rfl⟩;go_wp2;go_ret2;exact⟨rfl,z⟩
def qS(look:O->Option O)(lg:Nat)(s:O):Nat:=if mM look lg s false=0 then 1 else mM look lg s false
theorem FK:0<qS look lg s:=by grind[qS]
theorem Ju(h:0<s.size):qS look lg s<=s.size:=by
 grind[ES,qS]
def qT(look:O->Option O)(lg:Nat)(s:O):O:=if mM look lg s false=0 then s.extract 0 1 else oY look lg s false
structure ad7(w:J)(g n:Nat)(A:Nat->O×O):Prop where
 lt:0<n->g<w.heap.size
 nm:∀i,i<n->w.cell? ⟨g,i*2,none⟩=some (Y (A i).1)
 vl:∀i,i<n->w.cell? ⟨g,i*2+1,none⟩=some (Y (A i).2)
theorem ad7.kept{g:Nat}{A:Nat->O×O}(h:ad7 w g n A)(e:Z S w w')(u:g∉S):ad7 w' g n A:=
 ⟨λz=>nr (h.lt z) e.size,λi c=>(e.cell (p:=⟨g,i*2,none⟩) (h.lt (by omega)) u).trans (h.nm i c),λi c=>(e.cell (p:=⟨g,i*2+1,none⟩) (h.lt (by omega)) u).trans (h.vl i c)⟩
def oB(A:Nat->O×O)(n:Nat)(s:O)(i:Nat):Bool:=if i<n then (if ((A i).1.toList==s.toList)=true then true else oB A n s (i+1))else false
  termination_by n-i
def aiy(x y:Int)(nm s:O)(g n E:Nat)(A:Nat->O×O)(w:J)(hA:ad7 w g n A)(hn:n<=1048576):
  Calls prog 329 #[.agg #[G x,G y,Y nm,nX g n E],Y s] w λe w'=>e=iA (.bool (oB A n s 0))/\Z [] w w':=by
 obtain⟨m,K⟩:∃m,m=oB A n s 0:=⟨_,rfl⟩;rw[<-K];have T:=hA;go_enter func329,ntmps329;go_wp21
 go_loopw [10] (λv wr=>∃k:Nat,v=G k/\k<=n/\oB A n s k=m/\Z [] w wr) (λv _=>n-(intOf v).toNat)
 case atStart=>exact⟨0,rfl,xj _,K.symm,(Z.refl _ _).alloc _⟩
 case round=>
  obtain⟨k,rfl,hk,I,C⟩:=hrel;have D:=V I;have p:=C;by_cases c:k<n
  .have P:=T.kept C (by simp);have a0:=P.nm k c;have a1:=P.vl k c;clear I;cases he:((A k).1.toList==s.toList)
   .have e:oB A n s (k+1)=m:=by rw[<-D.out,oB.eq_1 A n s k,sL c,Xx (by simp[he])]
    have z:=V e;have F:¬(A k).1.toList=s.toList:=by simpa using he
    clear e;have h:=p.alloc (.cells #[Y (A k).1,Y (A k).2] 292);generalize (A k).1=u at *;generalize (A k).2=v at *;go_wp2;go_roundw
    case rel=>exact⟨k+1,by go_num,by omega,z,h⟩
    case measure=>simp[intOf];omega
   .have e:m=true:=by rw[<-D.out,oB.eq_1 A n s k,sL c,sL he]
    have z:=V e;have F:(A k).1.toList=s.toList:=by simpa using he
    clear e;have h:=p.alloc (.cells #[Y (A k).1,Y (A k).2] 292);generalize (A k).1=u at *;generalize (A k).2=v at *;go_wp2;go_ret;exact⟨by rw[z.out];rfl,h⟩
  .have e:m=false:=by rw[<-D.out,oB.eq_1 A n s k,Xx c]
   have z:=V e;clear e I;go_wp2;go_ret;exact⟨by rw[z.out];rfl,p⟩
theorem Ul:(∃j,prog.info? 94=some j/\j.size≠0):=by
 have h:((prog.info? 94).map λi=>i.size)=some 2:=rfl;grind[Option.map_eq_some_iff]
def RA:liesAt prog prog.depth 94 (2 / prog.cellsOf 94) 0 94 1=true:=by kernel_rfl
theorem Ok(B b:Nat)(bs:List gP)(w:J)(h:Lib.IsBuilder 94 5 B b bs w):
  Calls prog 351 #[gI b] w λe w'=>e=qs/\Lib.BuilderAt 94 5 B b (gI b) bs w'/\Below B w w':=by
 obtain⟨j,c,g⟩:=Ul;rcases h with h|h
 .have A:=h.cell0;have E:=h.frozen0;have u:=h.used (gI b);have z:=(Below.refl B w).setCell (p:=⟨b,0,none⟩) h.1 (gI b);have D:=u.cell0;have I:=Lib.run_to_unsafe (P:=prog) w (src:=92) (dst:=98) ⟨b,0,none⟩ underlying92 underlying98 c g h.shape (show 0<2 by decide);have F:=Lib.run_from_unsafe (P:=prog) w (src:=98) (dst:=92) ⟨b,0,none⟩ underlying98 underlying92 c h.shape RA;have C:=yz (P:=prog) (w.setCell ⟨b,0,none⟩ (gI b)) (tp:=92) ⟨b,0,none⟩ underlying92 c;go_enter func351,ntmps351;go_wp2;rw[vw func369 (by rfl) (by rfl) rfl (e:=Extern.AbiNoEscape.same) rfl];rw[Lib.run_noEscape];simp only[Result.andThen];rw[Oper.upon_value];go_wp2;go_end0;grind
 .have A:=h.cell0;have u:=h;have z:=Below.refl B w;have C:=yz (P:=prog) w (tp:=92) ⟨b,0,none⟩ underlying92 c;go_enter func351,ntmps351;go_wp2;go_end0;grind
theorem Bo(B b:Nat)(bs:List gP)(s:O)(w:J)(h:Lib.IsBuilder 94 5 B b bs w)(F:bs.length+s.size<=1048576)(a2:B<=w.heap.size):
  Calls prog 326 #[gI b,Y s] w λe w'=>e=iA (.tuple #[G s.size,.nilIface])/\(Lib.BuilderAt 94 5 B b (gI b) (bs++Lib.strCells s) w'/\Below B w w'):=by
 have⟨i0,hi,hz0,hz1,hz2⟩:=qz K9;have HH:=h;go_enter func326,ntmps326;go_wp21;refine(Ok B b bs _ HH).mono ?_;rintro e w1⟨rfl,h1,lV⟩;have⟨hB,v,hbk,hown,hne⟩:=h1;have c0:=fP hbk 0;have c1:=fP hbk 1;dsimp at c0 c1;go_wp2_with (at_builtin;refine Lib.wpList_append_own_string _ rfl _ _ 56 9 rfl B 5 i0 underlying56 underlying9 hi hz0 hz1 hz2 _ _ _ rfl hown s rfl ?c3 ?c4 ?c5 ?_)
 case c3=>unfold maxLen;omega
 case c4=>omega
 case c5=>grind
 intro K P u c _;have C:b<w1.heap.size:=ja hbk;have A:P.heap[b]?=some (gH #[gI b,v] 94):=by
  rw[c.block b C (λe=>hne e.symm)];exact hbk
 have d1:=fP A 1;dsimp at d1;have f1:P.frozen? ⟨b,1,none⟩=false:=gx A 1;have HP:=Lib.BuilderAt.put (T:=94) (e:=5) hB A (bs':=bs++Lib.strCells s) (by simpa [Lib.strCells_length]using u) (by decide);have a0:=(lV.grown c (by omega) (λk hk=>(hown.lt k hk).1)).setCell (p:=⟨b,1,none⟩) hB K;obtain⟨E,I,z,D⟩:∃E I z,K=.slice E I z:=by
  rcases u.2 with⟨D,_⟩|⟨g,z,a1,D,_⟩
  all_goals grind
 subst D;go_wp2;go_ret2;simp_all
theorem agf{t:O}(h:¬t.size=0):t.toList.isEmpty=false:=by
 rw[sd];cases hh:t.data.toList with
 |nil=>exact absurd (show t.data.size=0 by simp_all) h
 |cons=>rfl
def Tf:gP->Nat
 | .string t=>t.size
 |_=>0
def MB{T e B:Nat}{bs:List gP}(h:Lib.IsBuilder T e B b bs w)(c:Z [] w w'):Lib.IsBuilder T e B b bs w':=by
 rcases h with⟨g,v,p,u,z⟩|⟨g,v,p,u,z⟩;exact .inl ⟨g,v,c.at p (by simp),c.ownsRow u (λ_ _=>by simp),z⟩;exact .inr ⟨g,v,c.at p (by simp),c.ownsRow u (λ_ _=>by simp),z⟩
def Cu(l:List UInt8)(t:O):Lib.byteCells l++Lib.strCells t=Lib.byteCells (l++t.data.toList):=by
 unfold Lib.byteCells Lib.strCells;simp
def wY(look:O->Option O)(lg:Nat)(s:O):List UInt8:=
 if s.size=0 then []else if mM look lg s true=0 then (s.extract 0 1).data.toList++wY look lg (s.extract 1 s.size)else (oY look lg s true).data.toList++wY look lg (s.extract (mM look lg s true) s.size)
  termination_by s.size
  decreasing_by all_goals (simp;omega)
def CJ(h:∀x t,look x=some t->t.size<=16)(s:O):(wY look lg s).length<=16*s.size:=by
 rw[wY];split;simp;split;have:=CJ h (s.extract 1 s.size);simp at this|-;omega;have:=CJ h (s.extract (mM look lg s true) s.size);have c:=zl (lg:=lg) (s:=s) (inV:=true) h;have e:(oY look lg s true).data.size=(oY look lg s true).size:=rfl;simp[e]at this|-;omega
  termination_by s.size
  decreasing_by all_goals (simp;omega)
def Xl(b lg:Nat)(look:O->Option O)(s:O)(w:J)(hL:Lk w b look)(a6:lg<=1048576)(hs:s.size<=1024):
  Calls prog 355 #[.agg #[.map (some b),G lg],Y s] w λe w'=>e=iA (Y ⟨(wY look lg s).toArray⟩)/\Z [] w w':=by
 obtain⟨c,p⟩:∃c,c=w.alloc (.cells #[.map (some b),G lg] 158):=⟨_,rfl⟩;have P:c.heap[w.heap.size]?=some (gH #[.map (some b),G lg] 158):=by rw[p];exact fU w _
 have HK:Z [] w c:=by rw[p];exact(Z.refl _ _).alloc _
 have z0:c.heap.size=w.heap.size+1:=by rw[p];simp
 have HL:=hL.kept HK (by simp);have HW:=V p.symm;have F:=V P;have a4:=V z0;clear p P z0;go_enter func355,ntmps355;go_wp21;rw[HW.out];have HN:=Lib.fresh_isBuilder 94 5 c;have a2:=((Below.refl c.heap.size c).alloc (ic _) (.cells #[.pointer none,jD] 94));have ez:w.heap.size+1=c.heap.size:=a4.symm
 try rw[ez]
 go_loopw [1] (λv wr=>∃(t:O)(l:List UInt8),v=Y t/\t.size<=s.size/\l.length+16*t.size<=16*s.size/\l++wY look lg t=wY look lg s/\Lib.IsBuilder 94 5 c.heap.size c.heap.size (Lib.byteCells l) wr/\Below c.heap.size c wr) (λv _=>Tf v)
 case atStart=>exact⟨s,[],rfl,ic _,by simp,rfl,HN,a2⟩
 case round=>
  obtain⟨t,l,rfl,ht,hl,a1,HI,z⟩:=hrel;have A:=V a1;have c0:=fP ((Z.Do z).at F.out (by simp)) 0;have c1:=fP ((Z.Do z).at F.out (by simp)) 1;dsimp at c0 c1;clear a1;by_cases h0:t.size=0
  .have e0:t=⟨#[]⟩:=by
    apply NV;exact Z0 h0
   subst e0;have EL:=V (show l=wY look lg s by rw[<-A.out,wY,sL (show kB.size=0 from rfl),Xt]);have S:=Tryz.Builder_String_any c.heap.size c.heap.size l wr HI z.size;go_wp21;refine S.mono ?_;rintro e w2⟨rfl,a5⟩;have a3:=HK.trans (Z.Do (z.trans a5));go_wp2;go_ret;exact⟨by rw[<-EL.out];rfl,a3⟩
  .have a8:t.toList.isEmpty=false:=agf h0;have C:=Wh b lg look t true wr (HL.kept (Z.Do z) (by simp)) a6 (by omega);have a9:=ES (look:=look) (lg:=lg) (s:=t) (inV:=true);go_wp21;refine C.mono ?_;rintro e w2⟨rfl,T⟩;have HX:=zl (lg:=lg) (s:=t) (inV:=true) HL.short;have a0:wY look lg t=if mM look lg t true=0 then (t.extract 0 1).data.toList++wY look lg (t.extract 1 t.size)else (oY look lg t true).data.toList++wY look lg (t.extract (mM look lg t true) t.size):=by rw[wY,Xx h0]
   have K:=V a0;clear a0;generalize oY look lg t true=x at *;have I:=MB HI T;have u:=z.trans (T.below z.size (by simp));generalize mM look lg t true=n at *;by_cases hn:n=0
   .have D:=(show(l++(t.extract 0 1).data.toList)++wY look lg (t.extract 1 t.size)=wY look lg s by rw[<-A.out,K.out,sL hn,vu]);subst hn;have W:=Bo c.heap.size c.heap.size (Lib.byteCells l) (t.extract 0 1) w2 I (by simp[Lib.byteCells];omega) u.size;go_wp21;refine W.mono ?_;rintro e w3⟨rfl,E,h⟩;have HR:=(show Lib.IsBuilder 94 5 c.heap.size c.heap.size (Lib.byteCells (l++(t.extract 0 1).data.toList)) w3 from .inr (by rw[<-Cu];exact E));have g:=u.trans h;go_wp2;go_roundw
    case rel=>exact⟨_,_,rfl,by simp;omega,by simp;omega,D,HR,g⟩
    case measure=>simp[Tf];omega
   .have a7:((n:Int)==0)=false:=beq_eq_false_iff_ne.2 (by omega);have D:=(show(l++x.data.toList)++wY look lg (t.extract n t.size)=wY look lg s by rw[<-A.out,K.out,Xx hn,vu]);have W:=Bo c.heap.size c.heap.size (Lib.byteCells l) x w2 I (by have:=HX;simp[Lib.byteCells];omega) u.size;go_wp21;refine W.mono ?_;rintro e w3⟨rfl,E,h⟩;have HR:=(show Lib.IsBuilder 94 5 c.heap.size c.heap.size (Lib.byteCells (l++x.data.toList)) w3 from .inr (by rw[<-Cu];exact E));have g:=u.trans h;go_wp2;go_roundw
    case rel=>exact⟨_,_,rfl,by simp;omega,by have:=HX;have e:x.data.size=x.size:=rfl;simp[e];omega,D,HR,g⟩
    case measure=>simp[Tf];omega
def nK(R:RC)(ps:Nat):Nat:=scan (λc=>!jy nL c) R.cs ps
def qJ(R:RC)(ps:Nat):Nat:=if pre (R.cs.extract (nK R ps) R.cs.size) ⟨#[61]⟩=true then uj R (nK R (nK R ps+1))else nK R ps
def Hh(h:ps<=R.cs.size):nK R ps<=R.cs.size:=qF h
def Tq:ps<=nK R ps:=tL
def adR(h:ps<=R.cs.size):qJ R ps<=R.cs.size:=by
 unfold qJ;split;rename_i c;exact adn (Hh (mL c (Hh h)));exact Hh h
theorem xY:ps<=qJ R ps:=by
 unfold qJ;split;have c:=Tq (R:=R) (ps:=ps);have e:=Tq (R:=R) (ps:=nK R ps+1);have g:=adm (R:=R) (ps:=nK R (nK R ps+1));omega;exact Tq
def tM(look:O->Option O)(lg:Nat)(R:RC)(ps:Nat):O:=if pre (R.cs.extract (nK R ps) R.cs.size) ⟨#[61]⟩=true then nP ⟨(wY look lg (nZ R (nK R (nK R ps+1)))).toArray⟩else ⟨#[]⟩
structure Nm(w:J)(r:Nat)(R:RC)(b lg:Nat)(look:O->Option O):Prop where
 lk:Lk w b look
 ne:b≠r
 mv:R.mv=.map (some b)
 dz:R.lg=lg
 le:lg<=1048576
theorem Nm.kept(h:Nm w r R b lg look)(c:Z [r] w w'):Nm w' r R b lg look:=
 ⟨h.lk.kept c (by simp[h.ne]),h.ne,h.mv,h.dz,h.le⟩
theorem adT(r:Nat)(R:RC)(c ps b lg:Nat)(look:O->Option O)(w:J)(h:Rd w r R c ps)(hN:Nm w r R b lg look)(hG:Gl w r)(hp:ps<=R.cs.size)(hs:R.cs.size<=1024):
  Calls prog 330 #[gI r] w λe w'=>e=iA (Y (tM look lg R ps))/\Z [r] w w'/\Rd w' r R c (qJ R ps):=by
 have HP:=xD r R c ps nL w h hp hs;have u:=V hN;have HG:=hG;have ha:=Hh (R:=R) hp;clear hN;cases he:pre (R.cs.extract (nK R ps) R.cs.size) ⟨#[61]⟩
 .have ev:qJ R ps=nK R ps:=by unfold qJ;rw[Xx (by simp[he])]
  have et:tM look lg R ps=⟨#[]⟩:=by unfold tM;rw[Xx (by simp[he])]
  rw[ev,et];have I:taken R ⟨#[61]⟩ (nK R ps)=nK R ps:=by unfold taken;rw[Xx (by simp[he])]
  go_enter func330,ntmps330;go_wp21;refine HP.mono ?_;rintro e w1⟨rfl,g,D⟩;have P:=mU r R c (nK R ps) ⟨#[61]⟩ w1 D ha hs (by decide);rw[he,I]at P;go_wp21;refine P.mono ?_;rintro e w2⟨rfl,z,a6⟩;have K:=g.trans z;go_wp2;go_ret;simp_all
 .have ev:qJ R ps=uj R (nK R (nK R ps+1)):=by unfold qJ;rw[sL he]
  have et:tM look lg R ps=nP ⟨(wY look lg (nZ R (nK R (nK R ps+1)))).toArray⟩:=by unfold tM;rw[sL he]
  rw[ev,et];have I:taken R ⟨#[61]⟩ (nK R ps)=nK R ps+1:=by unfold taken;rw[sL he];rfl
  have hb:nK R ps+1<=R.cs.size:=mL he ha;go_enter func330,ntmps330;go_wp21;refine HP.mono ?_;rintro e w1⟨rfl,g,D⟩;have P:=mU r R c (nK R ps) ⟨#[61]⟩ w1 D ha hs (by decide);rw[he,I]at P;go_wp21;refine P.mono ?_;rintro e w2⟨rfl,z,a3⟩;have K:=g.trans z;have a0:=xD r R c (nK R ps+1) nL w2 a3 hb hs;go_wp21;refine a0.mono ?_;rintro e w3⟨rfl,a2,E⟩;have p:=K.trans a2;have a1:Hid (Rd w3 r R c (nK R (nK R ps+1))):=E;have hc:=Hh (R:=R) hb;have mv:w3.cell? ⟨r,5,none⟩=some (.map (some b)):=by rw[E.mv,u.out.mv]
  have lv:w3.cell? ⟨r,6,none⟩=some (G lg):=by rw[E.lg,u.out.dz]
  have a7:=ER (R:=R) (ps:=nK R (nK R ps+1));have a8:=CJ (lg:=lg) u.lk.short (nZ R (nK R (nK R ps+1)));have CR:=SM r R c (nK R (nK R ps+1)) w3.drew (show Rd w3.drew r R c _ from a1) hc hs;go_wp21
  go_region_with (first
   |(go_at_call 356;refine CR.mono ?_;rintro e w4⟨rfl,A,F⟩;have a5:=F.mv;rw[u.out.mv]at a5;have a4:=F.lg;rw[u.out.dz]at a4)
   |(go_at_call 355;refine(Xl b lg look _ _ (u.kept (p.drew.trans A)).lk u.le (by omega)).mono ?_;rintro e w5⟨rfl,C⟩)
   |(go_at_call 149;refine(zJ r _ _ (by simp[ByteArray.size];omega) ((HG.kept (p.drew.trans A)).kept (C.mono (by simp)))).mono ?_;rintro e w6⟨rfl,T⟩))
  all_goals (try go_wp2)
  all_goals (try go_ret)
  all_goals exact⟨rfl,(p.drew.trans A).trans ((C.trans T).mono (by simp)),(F.kept C (by simp)).kept T (by simp)⟩
def sV(L:lu):List gP:=L.flatMap λp=>[Y p.1,Y p.2]
def N6(L M:lu):sV (L++M)=sV L++sV M:=by simp[sV]
theorem Jo(L:lu)(i:Nat)(h:i<L.length):(sV L)[i*2]?=some (Y (L[i]).1)/\(sV L)[i*2+1]?=some (Y (L[i]).2):=by
 induction L generalizing i with
 |nil=>simp at h
 |cons p L ih=>
  show(Y p.1::Value.string p.2::sV L)[i*2]?=_/\(Y p.1::Value.string p.2::sV L)[i*2+1]?=_;grind
def nth(ns:List O)(i:Nat):O×O:=(ns.getD i ⟨#[]⟩,⟨#[]⟩)
def OP(ns:List O)(s:O):Bool:=oB (nth ns) ns.length s 0
theorem OB{A B:Nat->O×O}(h:∀i,i<n->(A i).1=(B i).1)(i:Nat):oB A n s i=oB B n s i:=by
 fun_induction oB A n s i with
 |case1 i hi he=>grind[oB]
 |case2 i hi he ih=>grind[oB]
 |case3 i hi=>grind[oB]
theorem afw(x y:Int)(nm s:O)(w:J):
  Calls prog 329 #[.agg #[G x,G y,Y nm,jD],Y s] w λe w'=>e=iA (.bool false)/\Z [] w w':=by
 have g:=(Z.refl [] w).alloc (.cells #[G x,G y,Y nm,jD] 190);go_enter func329,ntmps329;go_wp21
 go_loopw [10] (λv wr=>v=G 0/\Z [] w wr) (λv _=>0)
 case atStart=>grind
 case round=>
  obtain⟨rfl,c⟩:=hrel;go_wp2;go_ret;exact⟨rfl,c⟩
def agi(L:lu)(i:Nat):O×O:=L.getD i (⟨#[]⟩,⟨#[]⟩)
theorem aaB(base:Nat)(x y:Int)(nm s:O)(u:gP)(L:lu)(w:J)(p:w.ownsRow base 292 2 u L.length (sV L))(F:L.length<=1048576):
  Calls prog 329 #[.agg #[G x,G y,Y nm,u],Y s] w λe w'=>e=iA (.bool (OP (L.map (·.1)) s))/\Z [] w w':=by
 rcases p.2 with⟨rfl,A⟩|⟨g,h,z,rfl,D,E,_⟩;have e:OP (L.map (·.1)) s=false:=by
  have:L=[]:=TE A;subst this;unfold OP;rw[oB.eq_1];simp
 rw[e];exact afw x y nm s w;have C:ad7 w g L.length (agi L):=by
  refine⟨λ_=>ja E,λi c=>?_,λi c=>?_⟩;have:=p.cells (g:=g) rfl (i*2) _ (Jo L i c).1;grind[js,agi];have:=p.cells (g:=g) rfl (i*2+1) _ (Jo L i c).2;grind[js,agi]
 have e:OP (L.map (·.1)) s=oB (agi L) L.length s 0:=by
  unfold OP;rw[C5];exact OB (λi c=>by grind[nth,agi]) 0
 rw[e];exact aiy x y nm s g L.length h _ w C F
structure DF(w:J)(base tb:Nat)(x y:Int)(nm:O)(av:gP)(L:lu):Prop where
 il:w.heap[tb]?=some (gH #[G x,G y,Y nm,av] 190)
 own:w.ownsRow base 292 2 av L.length (sV L)
theorem DF.kept{e:Nat}{x y:Int}{nm:O}{g:gP}(h:DF w base e x y nm g L)(c:Z [r] w w')(u:r<base)(p:base<=e):DF w' base e x y nm g L:=
 ⟨c.at h.il (by grind),c.ownsRow h.own (λk c=>by have:=(h.own.lt k c).1;grind)⟩
def Ag(R:RC)(ps:Nat):O:=nP (small (R.cs.extract ps (kQ R ps)))
def AZ(R:RC)(ns:List O)(ps:Nat):Bool:=!OP ns (Ag R ps)&&!decide (kQ R ps=R.cs.size)&&decide (R.at_<=(ns.length:Int))
def vI(L:lu)(c v:O):lu:=if OP (L.map (·.1)) c=true then L else L++[(c,v)]
def qK(R:RC)(look:O->Option O)(lg:Nat)(L:lu)(ps:Nat):lu:=vI L (Ag R ps) (tM look lg R (kQ R ps))
def Ew(h:ps<R.cs.size):kQ R ps<=R.cs.size:=qF (by omega)
theorem ug:ps<kQ R ps:=nr (Nat.lt_succ_self _) tL
theorem Rd.Gv{c:Nat}(h:Rd w r R c ps):w.cell? ⟨r,4,none⟩=some (G R.at_):=by rw[fP h];rfl
def afH:(prog.info? 292).map (λi=>(i.zero,i.size,i.bytes))=some (some (.agg #[Y kB,Y kB]),2,32):=by kernel_rfl
def ZI(w:J)(k:Nat)(n c:Int):Prop:=w.heap[k]?=some (gH #[G n,G c] 79)
theorem N9(r tb:Nat)(R:RC)(F ps g aw b lg:Nat)(look:O->Option O)(ax:Nat->Nat)(x y:Int)(nm:O)(av:gP)(L:lu)(w0 w:J)
  (ay:Z [r] w0 w) (a5:r<w0.heap.size) (T:w0.heap.size<=tb) (h:Rd w r R F ps) (hA:Po w r R g aw ax) (hN:Nm w r R b lg look) (hG:Gl w r) (hT:DF w w0.heap.size tb x y nm av L)
  (hb:F<=R.cs.size) (hp:ps<R.cs.size) (hs:R.cs.size<=1024) (hL:L.length<=4096):
  Calls prog 293 #[gI r,gI tb] w λe w'=>
   if AZ R (L.map (·.1)) ps=true then ∃k,e=.panicked [{v:=.iface 74 (gI k),recovered:=false}]/\ZI w' k 7 (ax F)/\w0.heap.size<=k/\Z [r] w0 w'
   else e=qs/\∃ad,DF w' w0.heap.size tb x y nm ad (qK R look lg L ps)/\Z [r] w0 w'/\Rd w' r R F (qJ R (kQ R ps)):=by
 obtain⟨i0,hi,aL,aM,aP⟩:=qz afH;have aA:=Ew (R:=R) hp;have HN:=V hN;have HG:=V hG;have HA:=V hA;have HT:=V hT;have ar:=V ay;have CN:=V (FD r R F ps w h hp hs hG);have a4:qK R look lg L ps=vI L (Ag R ps) (tM look lg R (kQ R ps)):=rfl;clear h hA hN hG hT ay;have aC:AZ R (L.map (·.1)) ps=(!OP (L.map (·.1)) (Ag R ps)&&!decide (kQ R ps=R.cs.size)&&decide (R.at_<=(L.length:Int))):=by unfold AZ;rw[C5]
 rw[aC];clear aC;obtain⟨na,aj⟩:∃na,na=Ag R ps:=⟨_,rfl⟩;have ak:nP (small (R.cs.extract ps (kQ R ps)))=na:=aj.symm;rw[ak]at CN;clear ak;rw[<-aj]at a4;rw[<-aj];obtain⟨ns,aq⟩:∃ns,ns=L.map (·.1):=⟨_,rfl⟩;rw[<-aq];have ai:=V aq;clear aj aq;obtain⟨m,hm⟩:∃m,m=kQ R ps:=⟨_,rfl⟩;rw[<-hm]at CN aA a4;rw[<-hm];clear hm;have HV:=(λw' h1 h2 h3=>adT r R F m b lg look w' h1 h2 h3 aA hs);obtain⟨vt,aD⟩:∃vt,vt=tM look lg R m:=⟨_,rfl⟩;rw[<-aD]at HV a4;clear aD;have HV:=V HV;have au:=V a4;clear a4;have⟨ao,cp,hav⟩:=gz HT.out.own;subst hav;have aT:r≠tb:=by omega
 cases hin:OP ns na
 .skip
  rcases(show m=R.cs.size\/(¬m=R.cs.size/\R.at_<=(L.length:Int))\/(¬m=R.cs.size/\¬R.at_<=(L.length:Int)) by omega)with z|⟨z,ae⟩|⟨z,ae⟩;have ec:(!false&&!decide (m=R.cs.size)&&decide (R.at_<=(L.length:Int)))=false:=by simp[z]
  have e3:decide (m=R.cs.size)=true:=by simp[z]
  rotate_left
  have ec:(!false&&!decide (m=R.cs.size)&&decide (R.at_<=(L.length:Int)))=true:=by simp[z,ae]
  have e3:decide (m=R.cs.size)=false:=by simp[z]
  rotate_left
  have ec:(!false&&!decide (m=R.cs.size)&&decide (R.at_<=(L.length:Int)))=false:=by simp[ae]
  have e3:decide (m=R.cs.size)=false:=by simp[z]
  all_goals
   rw[ec];clear ec;simp only[ZY,Tw,if_true];go_enter func293,ntmps293;go_wp21;refine CN.out.mono ?_;rintro e w1⟨rfl,K,a6⟩;have p:=V (HT.out.kept K a5 T);have am:=V (ar.out.trans K);have ap:=V a6;have an:=V K;have a0:=fP p.out.il 0;have a1:=fP p.out.il 1;have a2:=fP p.out.il 2;have a3:=fP p.out.il 3;dsimp at a0 a1 a2 a3;have CH:=aaB w0.heap.size x y nm na _ L w1 p.out.own (by omega);rw[<-ai.out,hin]at CH;have aa:=V CH;clear CH K a6 CN;go_wp21;refine aa.out.mono ?_;rintro e w2⟨rfl,A⟩;have a9:=V (an.out.trans (A.mono (by simp)));have a8:=V (am.out.trans (A.mono (by simp)));have E:=V (ap.out.kept A (by simp));have ab:=V (p.out.kept (A.mono (by simp)) a5 T);clear A aa a0 a1 a2 a3;have b3:=fP ab.out.il 3;dsimp at b3;have b4:=E.out.Gv;have C:=V (λw' (h:Rd w' r R F m)=>pZ r R F m w' h);rw[e3]at C;go_wp21
   go_quiet ((go_at_call 78;refine Jf (C.out _ ?_);exact E.out))
   clear b3 b4
  rotate_right
  .have aF:=V (HA.out.kept a9.out);have p0:w2.cell? ⟨r,1,none⟩=some (nX g (R.cs.size+1) aw):=by rw[E.out.gG,HA.out.av]
   have p1:w2.cell? ⟨r,2,none⟩=some (G F):=E.out.bg;have p2:=aF.out.at_ F hb;have aQ:=V (a8.out.drewN nq);have aK:=a8.out.size;generalize R.cs.size=sz at *;have aR:(F:Int)<(sz:Int)+1:=by omega
   go_wp21
   go_region_dies
   all_goals (try go_wp2)
   all_goals exact⟨rfl,w2.heap.size,rfl,fU (w2.drewN (nq+1)) _,aK,(a8.out.drewN (nq+1)).alloc _⟩
  all_goals
   have ac:=V (HV.out (w2.drewN nq) (show Rd (w2.drewN nq) r R F m from E.out) (HN.out.kept (a9.out.drewN _)) (HG.out.kept (a9.out.drewN _)));go_wp21;refine ac.out.mono ?_;rintro e w3⟨rfl,a7,af⟩;have ag:=V ((a8.out.drewN nq).trans a7);have ah:=V af;have D:=V ((ab.out.kept ((Z.refl [r] w2).drewN nq) a5 T).kept a7 a5 T);clear a7 af ac;have c3:=fP D.out.il 3;dsimp at c3;have az:=ja D.out.il;have aB:=ja ah.out;have aS:=ag.out.size;go_wp2_with (at_builtin;refine jB _ rfl _ _ 133 rfl w0.heap.size 292 i0 (.agg #[Y kB,Y kB]) 2 32 underlying133 hi aL aM aP rfl (by decide) _ _ _ rfl (D.out.own.alloc _) ⟨w3.heap.size,0,none⟩ 1 1 [Y na,Y vt] rfl ?c1 ?c2 ?c3 ?c4 ?c5 ?c6 ?_)
   case c1=>rfl
   case c2=>
    intro j u hj
    match j,hj with
    |0,hj=>simp at hj;subst hj;simp[Addr.add]
    |1,hj=>simp at hj;subst hj;simp[Addr.add]
   case c3=>intro u hu;simp at hu;rcases hu with rfl|rfl<;>rfl
   case c4=>unfold maxLen;omega
   case c5=>omega
   case c6=>simp;omega
   intro v' w4 P I aI;have⟨ao',c,hv⟩:=gz P;subst hv;have al:∀k,(Value.slice ao L.length cp).ownBlock=some k->k≠tb:=by
    intro k hk;rcases D.out.own.2 with⟨h,_⟩|⟨g',c,aH,h,_,hc,_⟩;rw[h]at hk;cases hk;rw[h]at hk;obtain rfl:=Ki hk;exact zB hc D.out.il (by decide)
   have aE:Z [r] w0 w4:=(ag.out.alloc _).grown I (λk hk=> .inr (D.out.own.lt k hk).1);have t4:w4.heap[tb]?=some (gH #[G x,G y,Y nm,.slice ao L.length cp] 190):=by
    rw[I.block tb (by simp;omega) (λh=>al tb h.symm rfl),Below.heap_alloc _ _ _ az];exact D.out.il
   have r4:Rd w4 r R F (qJ R m):=by
    show w4.heap[r]?=_;rw[I.block r (by simp;omega) (λh=>by have:=(D.out.own.lt r h.symm).1;omega),Below.heap_alloc _ _ _ aB];exact ah.out
   have d3:=fP t4 3;have f3:=gx t4 3;dsimp at d3;have t5:=gh t4 3 (.slice ao' (L.length+1) c);have r5:Rd (w4.setCell ⟨tb,3,none⟩ (.slice ao' (L.length+1) c)) r R F (qJ R m):=(Below.heap_setCell w4 ⟨tb,3,none⟩ _ r (by omega)).trans r4;have o5:(w4.setCell ⟨tb,3,none⟩ (.slice ao' (L.length+1) c)).ownsRow w0.heap.size 292 2 (.slice ao' (L.length+1) c) (L++[(na,vt)]).length (sV (L++[(na,vt)])):=by
    rw[N6,N3];refine rF P ?_ _;intro hk;rcases P.2 with⟨h,_⟩|⟨g',c,aH,h,_,hc,_⟩;omega;grind
   have HF:Hid (∃ad,DF (w4.setCell ⟨tb,3,none⟩ (.slice ao' (L.length+1) c)) w0.heap.size tb x y nm ad (vI L na vt)/\Z [r] w0 (w4.setCell ⟨tb,3,none⟩ (.slice ao' (L.length+1) c))/\Rd (w4.setCell ⟨tb,3,none⟩ (.slice ao' (L.length+1) c)) r R F (qJ R m)):=
    ⟨_,by rw[show vI L na vt=L++[(na,vt)] by unfold vI;rw[<-ai.out,hin];rfl];exact⟨t5,o5⟩,aE.setCell (.inr T) _,r5⟩
   clear t5 r5 o5 r4 t4 aE al P I aI c3;go_wp2;go_end0;exact⟨rfl,by rw[au.out];exact HF.out⟩
 .skip
  have ec:(!true&&!decide (m=R.cs.size)&&decide (R.at_<=(L.length:Int)))=false:=by simp
  rw[ec];clear ec;simp only[ZY,Tw,if_true];go_enter func293,ntmps293;go_wp21;refine CN.out.mono ?_;rintro e w1⟨rfl,K,a6⟩;have p:=V (HT.out.kept K a5 T);have am:=V (ar.out.trans K);have ap:=V a6;have an:=V K;have a0:=fP p.out.il 0;have a1:=fP p.out.il 1;have a2:=fP p.out.il 2;have a3:=fP p.out.il 3;dsimp at a0 a1 a2 a3;have CH:=aaB w0.heap.size x y nm na _ L w1 p.out.own (by omega);rw[<-ai.out,hin]at CH;have aa:=V CH;clear CH K a6 CN;go_wp21;refine aa.out.mono ?_;rintro e w2⟨rfl,A⟩;have a9:=V (an.out.trans (A.mono (by simp)));have a8:=V (am.out.trans (A.mono (by simp)));have E:=V (ap.out.kept A (by simp));have ab:=V (p.out.kept (A.mono (by simp)) a5 T);clear A aa a0 a1 a2 a3;have b3:=fP ab.out.il 3;dsimp at b3;have b4:=E.out.Gv;have C:=V (λw' (h:Rd w' r R F m)=>pZ r R F m w' h);go_wp21
  go_quiet ((go_at_call 78;refine Jf (C.out _ ?_);exact E.out))
  clear b3 b4;have ac:=V (HV.out (w2.drewN nq) (show Rd (w2.drewN nq) r R F m from E.out) (HN.out.kept (a9.out.drewN _)) (HG.out.kept (a9.out.drewN _)));go_wp21;refine ac.out.mono ?_;rintro e w3⟨rfl,a7,af⟩;have ag:=V ((a8.out.drewN nq).trans a7);have ah:=V af;have D:=V ((ab.out.kept ((Z.refl [r] w2).drewN nq) a5 T).kept a7 a5 T);clear a7 af ac;have HF:Hid (∃ad,DF w3 w0.heap.size tb x y nm ad (vI L na vt)/\Z [r] w0 w3/\Rd w3 r R F (qJ R m)):=
   ⟨_,by rw[show vI L na vt=L by unfold vI;rw[<-ai.out,hin];rfl];exact D.out,ag.out,ah.out⟩
  go_wp2;go_end0;exact⟨rfl,by rw[au.out];exact HF.out⟩
end
end Go.Proofs.YtdbbknopdbpfaaaGreatDoor
