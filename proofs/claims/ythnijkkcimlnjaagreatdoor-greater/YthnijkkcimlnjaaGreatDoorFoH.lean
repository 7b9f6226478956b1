import Derived.Test.YthnijkkcimlnjaaGreatDoorRdO
set_option linter.unusedSimpArgs false
set_option linter.unusedVariables false
set_option linter.defProp false
set_option maxHeartbeats 0
set_option maxRecDepth 100000
namespace Go.Proofs.YthnijkkcimlnjaaGreatDoor
open Go.RowKit Go.PlainAid Go.Extern.Stop Go.Stop Go.Extern Tryz
def FB:=@World.frozen?_alloc_old
def QI:=@cell_of_one
section
variable {A B C Q ks:List O}{D:Tn}{H:Nat->List O}{K base c cap d g h i l lg m most n:Nat}{L:List Sp}{R:RC}{S X:List Nat}{U:eG}{W w w':J}{a b v:cY}{cU:iD}{f:Bool}{look:O->Option O}{name s x:O}{o:gZ}{r:Nat->Nat}{t:cR}{σ σ':N}
def Nl(p:Pm)(X:List Nat)(j:Nat)(σ:N):Prop:=FI p X σ/\some j∉σ.cC
theorem Tr.Yt{α:Type}{p:Pm}{m:M α}{j:Nat}(h:Tr (FI p X) m (λ_=>FI p X))(u:∀σ a σ',m σ=.ok a σ'->∀x∈σ'.cC,x∈σ.cC):Tr (Nl p X j) m (λ_=>Nl p X j):=λσ ⟨e,k⟩=>by
 have q:=h σ e;cases hm:m σ with
 |ok a σ'=>
  grind[gN,Nl]
 |_=>trivial
theorem aku{pl:Nat×Nat}{k:Nd}{a:Unit}(h:xh pl k σ=.ok a σ'):σ'.cC=σ.cC:=by
 have e:∀k,pQ pl k σ=.ok a σ'->σ'.cC=σ.cC:=λk h=>by
  unfold pQ at h;split at h;split at h;cases h;rfl;grind;grind
 cases k with
 |el j=>exact(PY h).2
 |_=>exact e _ h
theorem Yk:∀(ks:List Nd){σ σ':N} {a:Unit},rB d ks σ=.ok a σ'->σ'.cC=σ.cC
 |[],σ,σ',a,h=>by cases h;rfl
 |k::r,σ,σ',a,h=>by
  unfold rB at h;rw[M.cH]at h;cases he:eE d σ with
  |ok pl σ1=>
   rw[he]at h;obtain rfl:=jC he;dsimp at h;rw[M.cH]at h;cases hp:xh pl k σ1 with
   |ok u σ2=>
    rw[hp]at h;rw[Yk r h,aku hp]
   |_=>grind
  |_=>grind
theorem V1{b:Nat}{a:Unit}(h:handOver b d σ=.ok a σ'):σ'.cC=σ.cC:=by
 unfold handOver at h;split at h;cases h;rename_i j _;split at h;cases h;have e:∀(m:M Unit)(f:Unit->M Unit),(m>>=f) σ=.ok a σ'->∃u s,m σ=.ok u s/\f u s=.ok a σ':=λm f h=>by
  grind[M.cH]
 have⟨u,s,h1,h2⟩:=e _ _ h;split at h2;cases h2;show s.cC=σ.cC;grind[Yk];grind
theorem aaI{p:Pm}{f du:Nat}(I:f∈X)(F:du∈X):Tr (λσ=>FI p X σ/\AF f (posOf σ.cC (some du)).toNat σ) (pi f du) (λ_=>FI p X):=by
 refine Tr.bind (λσ h=>Fb _ _ _ _ X F σ ⟨h.1,.inr h.2⟩) λ(last,mark)=>?_;dsimp only;have E:∀{i},i∈X->i∈last::X:=λh=>io _ h;refine Tr.bind (Og (Oo ..)) λ_=>Tr.bind (R:=λa σ=>FI p (last::X) σ/\a≠0/\σ.cC≠[]/\gL (σ.nm a)=false) (λσ h=>?_) λa=>Tr.bind (λσ ⟨h,k,P,q⟩=>Kh h k P q) λj=>Tr.bind (λσ ⟨h,k,_,q⟩=>(Ax (h.f0 (Oo ..)) h k q).mono λ_ _ g=>g.1) λ_=>Tr.bind (Bi (E I)) λe=>?_;unfold ahead;split;rename_i i z;exact⟨h,(h.o0 (j8 z)).1,De z,h.ov (j8 z)⟩;trivial;have y:du∈e::last::X:=io _ (E F);have T:Tr (Nl p (e::last::X) e) (eE du) (λj σ=>Nl p (e::last::X) e σ/\j.1≠0/\gL (σ.nm j.1)=false):=λσ h=>by
  unfold eE;split;exact⟨h,(h.1.xs du y).1,Ww (h.1.xs du y).nm⟩;trivial
 have s2:∀j:Nat×Nat,Tr (λσ=>Nl p (e::last::X) e σ/\j.1≠0/\gL (σ.nm j.1)=false) (fY j e) (λ_=>Nl p (e::last::X) e):=λj σ ⟨⟨h,u⟩,k,q⟩=>(Ax (h.f0 (Oo ..)) h k q).mono λ_ σ' g=>⟨g.1,by grind⟩;have s3:Tr (Nl p (e::last::X) e) (fB (some f)) (λ_=>Nl p (e::last::X) e):=Tr.Yt (J0 (io _ (E I))) λσ a σ' h x u=>by
  grind[fB]
 have s4:Tr (Nl p (e::last::X) e) (jk (some mark) (some e)) (λ_=>Nl p (e::last::X) e):=Tr.Yt (OB _ (Oo ..)) λσ a σ' h x u=>by
  grind[jk]
 exact Tr.bind (Tr.Yt (VZ y (Oo ..)) λσ a σ' h x u=>by grind[V1]) λ_=>Tr.bind T λj=>Tr.bind (s2 j) λ_=>Tr.bind s4 λ_=>Tr.bind (Tr.Yt (wQ _ p _) λσ a σ' h x u=>by rwa [(Q4 h).2]at u) λ_=>Tr.bind s3 λ_=>Tr.bind (PO y (Oo ..)) λ_=>Tr.pure λ_ h=>h.tail.tail
theorem zB{f:Nat}:∀{l:gZ},N.lf σ f l=true->∃A C,l=A++some f::C/\some f∉A/\∀a∈A,dG (σ.jg a)=false
 |[],h=>by cases h
 |x::r,h=>by
  unfold N.lf at h;by_cases j:x=some f;exact⟨[],r,by grind,by simp,by grind⟩;rw[cZ j]at h;by_cases e:dG (σ.jg x)=true;grind;rw[cZ e]at h;have⟨A,C,h1,h2,h3⟩:=zB h;grind
theorem MO{f:Nat}{C:gZ}:∀{A:gZ} {e:eG} {b:Nat},some f∉A->σ.ql f (A++some f::C) e=some b->some b∈A\/e=some b
 |[],e,b,_,h=>by
  grind[N.ql]
 |x::A,e,b,hn,h=>by
  rw[oW]at h;unfold N.ql at h;rw[cZ _]at h;rcases MO (λg=>hn (io _ g)) h with g|g
  all_goals grind
theorem Ej:dG aV=true:=by decide+kernel
def akA:iG aV=true:=by decide+kernel
theorem Jc(hs:ji s=false):Fp (nT s):=Fp.bind (IX (λx e=>by grind[fW]) akA) λ_=>Fp.pure _
theorem Rb(hs:ji s=false):Fp (iY s):=λp X σ h=>by
 unfold iY;cases hl:σ.jH s with
 |none=>grind[Fp.at,Fp.bind,Jc,Fp.pure]
 |some f=>
  have q:yD σ f:=h.act f (List.mem_reverse.1 (rF hl));dsimp only;split;grind[Fp.at,Fp.bind,wQ,Fp.pure];split;exact h;rename_i a0;have⟨A,C,e1,e2,e3⟩:=zB (σ:=σ) (f:=f) (l:=σ.cC.reverse) (show σ.kg f=true by grind);have e:σ.cC=C.reverse++some f::A.reverse:=by
   have:=oX List.reverse e1;rw[List.reverse_reverse]at this;rw[this];simp
  have k:=h.ch;unfold N.ns at k;rw[e,lV,oZ,qZ]at k;have F:=Eo k.2.2 q.nm (λc T=>by
   grind[Ej])
  have u:∀x∈A.reverse,∃i,x=some i/\yD σ i:=λx j=>by
   obtain⟨i,rfl,z,E⟩:=h.op x (by grind);have⟨ei,hei⟩:=Option.isSome_iff_exists.1 E;exact⟨i,rfl,z,ei,hei,by have:=F _ (List.mem_map_of_mem (f:=σ.jg) j);rw[show σ.jg (some i)=ei.name from N.rH hei]at this;omega⟩
  cases hbk:σ.jT f with
  |none=>
   dsimp only;refine Tr.bind (P:=λt=>t=σ) (R:=λ_=>FI p X) (λt ht=>?_) (λ_=>Fp.bind (wQ _) (λ_=>Fp.pure _) p X) σ rfl;subst ht;unfold vr;split;have y:li t.cC (some f)=C.reverse:=by
    unfold li;rw[e1,List.dropWhile_append_of_pos (λa ha=>by grind)];simp
   rw[y];exact h.prefix e λx j=>by
    rcases List.mem_cons.1 j with rfl|j;exact q.nm;grind
   trivial
  |some b=>
   have I:some b∈A:=by
    unfold N.jT at hbk;rw[e1]at hbk;rcases MO e2 hbk with g|g;exact g;cases g
   have⟨b',mq,hb2⟩:=u _ (List.mem_reverse.2 I);cases mq;dsimp only;refine Tr.bind (S:=λ_=>FI p X) (R:=λ_=>FI p X) (Tr.cons (aaI (f:=f) (du:=b) (X:=b::f::X) (by simp) (by simp)) (λt ht=>ht) λ_ _ g=>g.tail.tail) (λ_=>Tr.pure λ_ g=>g) σ ⟨(h.cons q).cons hb2,C.reverse,A.reverse,e,?_,u⟩;grind[FI.nd,posOf]
def Q9(hs:ji s=false):∀n,Fp (qj s n)
 |0=>Fp.pure _
 |n+1=>Fp.bind (Rb hs) λ_=>Fp.ite (Q9 hs n) (Fp.pure _)
theorem OG(hs:ji s=false):Fp (rY s):=λp X σ h=>by
 unfold rY;cases hl:σ.last with
 |none=>trivial
 |some i=>
  dsimp only;split;rename_i e;have j:=rp.1 (oY _ _▸e).1;exact h.aaS hl (by grind);exact Q9 hs _ p X σ h
def plL(l:List O):Bool:=l.all λx=>!ji x
def pl0(l:List O):Bool:=l.all λx=>!q0 x
theorem EY{l:List O}(h:pl0 l=true)(s:O)(hs:da l s=true):q0 s=false:=by
 have:=List.all_eq_true.1 h s (fW.1 hs);grind
theorem jW{l:List O}(h:plL l=true)(s:O)(hs:da l s=true):ji s=false:=by
 have:=List.all_eq_true.1 h s (fW.1 hs);grind
def Es{l:List O}{b:O->Bool}(j:plL l=true)(e:b aV=true):Fp (iI (da l) b):=IX (jW j) e
def PT{l:List O}(e:plL l=true):Fp (ly (da l)):=aep (jW e)
theorem amn{f:N->N}(h:∀σ,(f σ).nodes=σ.nodes/\(f σ).cC=σ.cC/\(f σ).act=σ.act/\(f σ).form=σ.form/\(f σ).head=σ.head/\(f σ).waiting=σ.waiting/\(f σ).mode=σ.mode/\(f σ).kept=σ.kept/\(f σ).dv=σ.dv):Fp (rO f):=λp X σ e=>by
 have⟨e1,e2,e3,e4,e5,e6,e7,e8,e9⟩:=h σ;exact e.jo e1 e2 rfl rfl rfl (λ_ g=>e3▸g) (by grind[FI.form]) e5 (by rw[e6];exact e.wt) (by grind[FI.mo])
theorem sy:Fp lr:=Fp.bind (Es (by decide+kernel) (by decide+kernel)) λ_=>Fp.pure _
def ZT:Fp rh:=λp X σ h=>by
 unfold rh;split;exact h;exact sy p X σ h
section
variable {t:cR}(ht:TA t)(hq:ji t.name=false)
include ht hq
def yq:Fp (jJ t):=Fp.bind sy λ_=>Fp.bind (tj t ht hq) λ_=>Fp.pure _
def Qc{p:Pm}{X:List Nat}:Tr (FI p X) (jJ t) (λ_=>Lp p X):=Tr.bind (sy p X) λ_=>Tr.bind (zy t ht hq) λ_=>Tr.pure λ_ h=>h
def Xk:Fp (rL t):=Fp.bind (yq ht hq) λ_=>Fp.bind (amn λ_=>⟨rfl,rfl,rfl,rfl,rfl,rfl,rfl,rfl,rfl⟩) λ_=>Fp.pure _
def KI:Fp (jQ t):=Fp.bind sy λ_=>Fp.bind (PT (by decide+kernel)) λ_=>Fp.bind (tj t ht hq) λ_=>Fp.pure _
theorem T5:Fp (mV t):=λp X σ h=>by
 unfold mV;split;exact h;exact Tr.bind (Qc ht hq) (λ_=>Tr.bind (λσ ⟨h,i,e,k⟩=>h.jo rfl rfl rfl rfl rfl (λ_ g=>g) (λj (q)=>by grind) rfl h.wt h.mo) λ_=>Tr.pure λ_ h=>h) σ h
def Mt:Fp (kQ t):=Fp.bind (Es (by decide+kernel) Ej) λ_=>Fp.bind (rK t ht hq) λ_=>Fp.pure _
def Mx:Fp (jY t):=Fp.bind (PT (by decide+kernel)) λ_=>Fp.bind (rK t ht hq) λ_=>Fp.pure _
theorem Ub:Fp (kY t):=λp X σ h=>by
 unfold kY;cases hl:σ.jH _ with
 |none=>grind[Fp.at,Fp.bind,lQ,Fp.pure]
 |some a=>
  exact Tr.bind (S:=λ_=>FI p X) (OG (by decide+kernel) p (a::X)) (λ_=>Tr.bind (wQ _ p _) λ_=>Tr.bind (J0 (Oo ..)) λ_=>Tr.bind (lQ t ht hq p (a::X)) λ_=>Tr.pure λ_ g=>g.tail) σ (h.cons (h.act a (List.mem_reverse.1 (rF hl))))
theorem Ud:Fp (mW t):=Fp.bind n4 λ_=>λp X σ h=>by
 unfold nI;split;exact Fp.at (Fp.bind (OG (by decide+kernel)) λ_=>Fp.bind (lQ t ht hq) λ_=>Fp.pure _) h;grind[Fp.at,Fp.bind,lQ,Fp.pure]
def Mv:Fp (kR t):=Fp.bind (rK t ht hq) λ_=>Fp.bind Ee λ_=>Fp.pure _
def Ys{ks:List O}(hk:plL ks=true):Fp (Gd ks t):=Fp.bind (Es hk (by decide+kernel)) λ_=>Fp.bind (yq ht hq) λ_=>Fp.pure _
theorem Ca:Fp (fZ t):=λp X σ h=>by
 unfold fZ;split;exact h;have q:Tr (Lp p X) tJ (λx σ=>FI p X σ/\∀i,x=some i->yD σ i):=λσ ⟨h,i,k,j⟩=>by
  have e:yD σ.pop i:=j;exact⟨h.aaS k j.nm,by grind⟩
 have u:∀x,Tr (λσ=>FI p X σ/\∀i,x=some i->yD σ i) (rO λσ=>{σ with form:=x}) (λ_=>FI p X):=λx σ h=>h.1.jo rfl rfl rfl rfl rfl (λ_ g=>g) h.2 rfl h.1.wt h.1.mo;exact Tr.bind (S:=λ_=>FI p X) (zy t ht hq) (λ_=>Tr.bind q λx=>Tr.bind (u x) λ_=>Tr.pure λ_ h=>h) σ h
def yZ:Fp (fA t):=Fp.bind (PT (by decide+kernel)) λ_=>Fp.bind (tj t ht hq) λ_=>Fp.pure _
def xn:Fp (eN t):=Fp.bind (PT (by decide+kernel)) λ_=>Fp.bind (PT (by decide+kernel)) λ_=>Fp.bind (tj t ht hq) λ_=>Fp.pure _
end
def abh(ht:TA t)(hq:q0 t.name=false):Fp (sY t):=Fp.bind sy λ_=>Fp.bind (us t ht hq) λ_=>Fp.pure _
def DR(ht:TA t)(hq:q0 t.name=false):Fp (im t):=Fz.pop (Fz.bind (PT (by decide+kernel)) λ_=>Fz.bind (PT (by decide+kernel)) λ_=>Fz.ret (Gb t ht hq)) λ_=>Fp.pure _
theorem xP(e:0<t.chars.size):Fp (iV t):=by
 grind[Fp.bind,n4,rC,Fp.pure,iV]
theorem zl(e:0<t.chars.size):Fp (jl t):=by
 grind[Fp.bind,rC,Fp.pure,jl]
def RU:Fp mF:=Fp.bind (Es (by decide+kernel) Ej) λ_=>Fp.ite Uy (Fp.pure _)
theorem VA(hq:ji t.name=false):Fp (ri t):=Fp.bind (IX (λx e=>by grind[fW]) Ej) λ_=>Fp.pure _
def Pa:Fp nD:=Fp.bind (Es (by decide+kernel) Ej) λ_=>Fp.pure _
def aab:Fp uk:=Fp.bind (Es (by decide+kernel) (by decide+kernel)) λ_=>Fp.pure _
theorem ajI:Fp GQ:=λp X σ h=>by
 unfold GQ;split;grind[Fp.at,Fp.bind,sy,Fp.pure];exact Fp.at (Fp.bind (Ma _ (by simp) (by decide+kernel)) λ_=>Fp.bind sy λ_=>Fp.pure _) h
def VD:Fp oC:=Fp.bind n4 λ_=>Fz.pop (Mb _ (by simp) (by decide+kernel)) λ_=>Fp.pure _
theorem aan(s:O)(h:rI s=true):ji s=false:=by
 cases hq:ji s with
 |false=>rfl
 |true=>
  have:=fW.1 hq;simp[qL,pW]at this;exfalso;rcases this with rfl|rfl|rfl|rfl|rfl|rfl|rfl|rfl|rfl|rfl|rfl|rfl|rfl|rfl|rfl|rfl|rfl|rfl<;>revert h<;>decide+kernel
theorem Z7:Fp rl:=λp X σ h=>by
 unfold rl;cases hf:σ.form with
 |none=>exact h
 |some i=>
  dsimp only;have e:=h.form i hf;have j:Tr (FI p (i::X)) (rO λσ=>{σ with form:=none}) (λ_=>FI p (i::X)):=λσ h=>h.jo rfl rfl rfl rfl rfl (λ_ g=>g) (λ_ g=>by cases g) rfl h.wt h.mo;split;exact Tr.bind (S:=λ_=>FI p X) j (λ_=>Tr.bind (λσ h=>by show FI p (i::X) (N.gJ σ);grind[FI.alx,aan,N.gJ]) λ_=>Tr.bind (J0 (Oo ..)) λ_=>Tr.pure λ_ g=>g.tail) σ (h.cons e);exact h.jo rfl rfl rfl rfl rfl (λ_ g=>g) (λ_ g=>by cases g) rfl h.wt h.mo
def GN(hq:ji t.name=false):Fp (kM t):=Fp.bind (OG hq) λ_=>Fp.pure _
theorem VI(hq:ji t.name=false):Fp (pM t):=Fp.bind (Jc hq) λ_=>Fp.pure _
def AE:Fp gP:=Fp.bind (PT (by decide+kernel)) λ_=>Fp.pure _
theorem yV:Fp dQ:=λp X σ h=>by
 unfold dQ;have j:Fp (ly (da [cD])>>=λ_=>(Pure.pure ())):=Fp.bind (PT (by decide+kernel)) λ_=>Fp.pure _;split;rename_i e;split;trivial;split;refine Tr.bind (P:=λs=>s=σ) (λs k=>?_) (λ_=>j p X) σ rfl;subst k;unfold N.current at e;cases hl:s.last with
 |none=>grind
 |some i=>rw[hl]at e;exact h.aaS hl (jW (by decide+kernel) _ e)
 grind[Fp.at];grind[Fp.at]
def PlV(j:M (Nat×Nat)):Prop:=∀p X,Tr (FI p X) j λe σ=>FI p X σ/\(e.1≠0->gL (σ.nm e.1)=false)
theorem Bn{j:M (Nat×Nat)}(q:PlV j):Fp (ja j t):=by
 unfold ja;split
 .refine λp X=>Tr.bind (q p X) λz=>Tr.bind (λσ ⟨h,y⟩=>?_) λ_=>Tr.pure λ_ h=>h;rename_i s _ _;have g:=h.ti.add (n:=.cm s) (λ_ h=>by cases h) (λ_ h=>by cases h);exact(YI (.inl ⟨_,rfl⟩) (h.nodes g Nx.add rfl rfl rfl rfl rfl rfl rfl rfl) λe k u=>by
   rcases N.wu k with⟨_,g⟩|⟨_,g⟩
   all_goals grind[N.rH]).mono λ_ _ g=>g.1
 simp
theorem Ya{p:Pm}(h:FI p X σ)(j:i≠0->gL (σ.nm i)=false):gN (λe σ=>FI p X σ/\(e.1≠0->gL (σ.nm e.1)=false)) (eE i σ):=by
 grind[eE,gN]
theorem CG{e:Nat}{own:Bool}:Fp (tf e own t):=by
 refine Fp.ite (Bn λp X=>Tr.cons xf (λ_ h=>h) λ_ _ h=>⟨h.1,λ_=>h.2.2.2⟩) (Fp.ite (Bn λp X σ h=>?_) (Fp.ite (Bn λp X σ h=>Ya h λg=>absurd rfl g) Fp.stuck));unfold mD;split;grind[Ya,FI.ov,j8];trivial
theorem Pz{l:List O}{a:O}(h:vm none l=some a)(k:ji a=true):vm none (l.filter ji)=some a:=by
 by_cases e:l=[];grind;obtain⟨j,b,rfl⟩:∃j b,l=j++[b]:=⟨l.dropLast,l.getLast e,(List.dropLast_concat_getLast e).symm⟩;grind[sE]
theorem R5:∀{l j:List O} {h:O},l.filter ji=j++[h]->∃A B,l=A++h::B/\A.filter ji=j/\∀b∈B,ji b=false:=λ{l j h} e=>by
 have e2:(l.reverse).filter ji=h::j.reverse:=by rw[List.filter_reverse,e];simp
 have k:∀{r:List O} {Q:List O},r.filter ji=h::Q->∃B A,r=B++h::A/\A.filter ji=Q/\∀b∈B,ji b=false:=by
  intro r
  induction r with
  |nil=>simp
  |cons x r ih=>
   intro Q e;by_cases q:ji x=true;rw[List.filter_cons,q]at e;cases e;exact⟨[],r,rfl,rfl,λ_ h=>by cases h⟩;grind
 have⟨B,A,h1,h2,h3⟩:=k e2;refine⟨A.reverse,B.reverse,?_,?_,λb p=>h3 b (List.mem_reverse.1 p)⟩
 all_goals grind
theorem FI.clear{p:Pm}(h:FI p X σ){Q1:List O}{a:O}(y:p.Q=Q1++[a])(F:da ks a=true)(hk:∀s,ji s=false->da ks s=false):FI p X (σ.pY (da ks))/\∃i,(σ.pY (da ks)).last=some i/\σ.nm i=a:=by
 have⟨A,B,e1,e2,e3⟩:=R5 (h.q.trans y);have:∃j x k,σ.cC=j++x::k/\σ.jg x=a/\∀b∈k,ji (σ.jg b)=false:=by
  unfold N.ns at e1;have⟨j,r,g1,g2,g3⟩:=List.map_eq_append_iff.1 e1;have⟨x,k,g4,g5,g6⟩:=List.map_eq_cons_iff.1 g3;refine⟨j,x,k,by grind,g5,λb u=>e3 _ (by grind)⟩
 have⟨j,x,k,g1,g2,g3⟩:=this;have z:N.la σ (λs=>!(da ks s||da [aG] s)) σ.cC.reverse=x::j.reverse:=by
  have q:∀B:gZ,(∀b∈B,ji (σ.jg b)=false)->N.la σ (λs=>!(da ks s||da [aG] s)) (B++x::j.reverse)=x::j.reverse:=by
   intro B
   induction B with
   |nil=>
    grind[N.la]
   |cons b B ih=>
    intro E;rw[oW];unfold N.la;grind[j9,NU]
  rw[g1,Lb,List.reverse_cons,se];exact q _ λb u=>g3 b (List.mem_reverse.1 u)
 have e:σ.pY (da ks)={σ with cC:=j++[x]}:=by
  unfold N.pY;rw[z];simp
 rw[e];refine⟨h.prefix (B:=k) (by grind) g3,?_⟩;obtain⟨i,rfl,_,_⟩:=h.op x (by grind);exact⟨i,qp _ _,g2⟩
def Nq(p:Pm)(X:List Nat)(s:O)(j:Nat)(σ:N):Prop:=FI p X σ/\some j∉σ.cC/\j≠0/\dW σ j s
def ag5{p:Pm}(h:FI p X σ)(q:name≠qR)(k:name≠aG):gN (λj σ'=>Nq p X name j σ'/\σ'.last=σ.last/\Nx σ σ') (wg name σ):=by
 have⟨g1,g2⟩:=h.U4 (e:=⟨name,[],none,[]⟩) rfl oy.nil q k;exact⟨⟨g1,h.fresh,h.pos,_,g2,rfl⟩,rfl,Nx.add⟩
def BG{p:Pm}(h:FI p X σ)(ht:TA t)(q:t.name≠aG):gN (λj σ'=>Nq p X t.name j σ'/\σ'.last=σ.last/\Nx σ σ') (fG t σ):=by
 unfold fG;split;have⟨g1,g2⟩:=h.U4 (e:=⟨t.name,t.fc,none,[]⟩) rfl ht.cU ht.name q;exact⟨⟨g1.zd,h.fresh,h.pos,_,g2,rfl⟩,rfl,λi e k=>Nx.add i e k⟩;trivial
def yT(H:Nat->List O)(i:Nat)(s:O):Nat->List O:=λx=>if x=i then H i++[s].filter Cj else H x
theorem Cq(H:Nat->List O)(i:Nat)(s:O):yT H i s i=H i++[s].filter Cj:=dd rfl
def Hn{x:Nat}(h:x≠i):yT H i s x=H x:=cZ h
theorem afX(H:Nat->List O)(i:Nat)(h:Cj s=false):yT H i s=H:=by
 grind[yT]
theorem Su(σ:N)(ks:List Nd)(j:Nat):uI σ (ks++[.el j])=uI σ ks++[σ.nm j].filter Cj:=by
 grind[uI,mq]
theorem Nu{p:Pm}{j:Nat}(T:Nq p X s j σ)(q:σ.last=some i)(I:σ.dv=false)(hk:wB (σ.nm i) s=true):gN (λ_ σ'=>(FI {p with H:=yT p.H i s} X σ'.pop/\(gL s=false->FI {p with H:=yT p.H i s,Q:=p.Q++[s].filter ji} X σ'))/\σ'.last=some j/\dW σ' j s/\σ'.cC=σ.cC++[some j]/\Nx σ σ') (fP j σ):=by
 have⟨h,E,h0,ej,hej,hen⟩:=T;have y:=tk q;have z:=h.o0 y;have⟨ei,hei⟩:=Option.isSome_iff_exists.1 z.2;unfold fP;have e1:gp σ=.ok (i,ei.kids.length) σ:=by
  unfold gp;rw[q];dsimp only;unfold placeFor;rw[I];simp only[Bool.false_and,lZ,rP];unfold eE;rw[hei]
 rw[N.rH hei]at hk;refine Tr.bind (P:=λt=>t=σ) (R:=λF t=>t=σ/\F=(i,ei.kids.length)) (λt ht=>by grind[gN]) (λF=>Tr.bind (R:=λ_ e=>FI {p with H:=yT p.H i s} X e/\(∃k,e.db j=some k/\k.name=s)/\e.cC=σ.cC/\vm none e.ns=some ei.name/\Nx σ e) (λt ht=>?_) λ_=>Tr.bind (λt ht=>?_) λ_=>Tr.pure λ_ h=>h) σ rfl;obtain⟨rfl,rfl⟩:=ht;unfold fY;rw[hei,hej];dsimp only;split;rename_i u;have n:=zO (n:=ei.kids.length) hei hej u.1;have⟨ej',g1,g2⟩:=n j ej hej;refine⟨h.tree (h.ti.put (n:=ei.kids.length) hei hej u.1 (by rw[cZ z.1,hen];exact⟨hk,by rw[<-N.rH hei];exact h.ov y⟩) (by show _=yT p.H i s i;rw[H8,Cq,<-h.ti.hb _ _ hei,<-hen,<-N.rH hej];grind[Su]) (λ_ E=>Hn E)) n rfl rfl rfl rfl rfl rfl rfl rfl rfl rfl,⟨ej',g1,g2.trans hen⟩,rfl,?_,n⟩;rw[aiP n rfl h.op];unfold N.ns;rw[Wo q,lV];show vm none (_++[t.nm i])=_;grind[sE,N.rH];trivial;have⟨h1,⟨k,g1,g2⟩,g3,g4,g5⟩:=ht;unfold kA;split;trivial;split;refine⟨⟨?_,λhv=>?_⟩,SN _ j,⟨k,g1,g2⟩,by grind,g5.trans (Nx.same rfl)⟩;rw[show∀s:N,({s with cC:=s.cC++[some j]}:N).pop=s from λs=>by simp[N.pop]];exact h1;have h2:=h1.push g1 h0 (by grind[okD]) (by grind);grind;trivial
def Nt{p:Pm}{j:Nat}(q:Nq p X s j σ)(u:σ.last=some i)(k:σ.dv=false)(hk:wB (σ.nm i) s=true)(e:Cj s=false):gN (λ_ σ'=>(FI p X σ'.pop/\(gL s=false->FI {p with Q:=p.Q++[s].filter ji} X σ'))/\σ'.last=some j/\dW σ' j s/\σ'.cC=σ.cC++[some j]/\Nx σ σ') (fP j σ):=by
 have h:=Nu q u k hk
 rwa [afX _ _ e]at h
theorem FI.Vl{p:Pm}(h:FI p X σ){q b:O->Bool}(hq:∀s,q s=true->ji s=true)(hs:σ.inScope q b=true):∃u x z,p.Q=u++x::z/\q x=true/\(∀y∈z,b y=false)/\FI {p with Q:=u} X (σ.yw q)/\okD (vm none u) x:=by
 have⟨A,x,C,h1,h2,h3,h4⟩:=ux hs;have e:σ.cC=C.reverse++x::A.reverse:=by
  have:=oX List.reverse h1;rw[List.reverse_reverse]at this;rw[this];simp
 have T:=hq _ h2;have E:σ.ns=C.reverse.map σ.jg++σ.jg x::A.reverse.map σ.jg:=by unfold N.ns;rw[e,lV,oZ]
 have j:=h.ch;rw[E,qZ]at j;refine⟨(C.reverse.map σ.jg).filter ji,σ.jg x,(A.reverse.map σ.jg).filter ji,?_,h2,λy F=>?_,?_,?_⟩;grind[q];grind;unfold N.yw;rw[h4];exact h.lists rfl rfl rfl j.1 rfl (λy F=>h.op y (by grind)) (List.nodup_append.1 (e▸h.nd)).1 h.act h.form h.head h.wt h.mo;have k:=j.2.1;cases hl:vm none (C.reverse.map σ.jg)with
 |none=>
  rw[hl]at k;have P:C.reverse.map σ.jg=[]:=by
   by_cases g:C.reverse.map σ.jg=[];exact g;have⟨a,ga,_⟩:=vn g;grind
  grind
 |some a=>
  rw[hl]at k;by_cases I:ji a=true;grind[Pz];have:=xe (by grind) k.1 k.2;rcases this with g|g;grind;rw[g];cases hz:vm none ((C.reverse.map σ.jg).filter ji)with
  |none=>exact absurd hz (by
    have⟨a',ga,_⟩:=vn (l:=(C.reverse.map σ.jg).filter ji) (by
     cases hC:C.reverse.map σ.jg with
     |nil=>grind
     |cons c l=>rw[hC]at j;rw[List.filter_cons,show c=aG from j.1.1,NU];simp)
    grind)
  |some c=>exact⟨Aw c,by decide+kernel⟩
def lq(Q:List O):O:=(vm none Q).getD ⟨#[]⟩
def Lo:O:=bY
structure OkM(m:Nat)(Q:List O)(n:Nat):Prop where
 lo:m<=1->n=0
 h2:m=2\/m=4->Q=[aG]/\n=1
 h3:m=3->Q=[aG,bZ]/\n=2
 hi:5<=m->∃Q',Q=aG::aZ::Q'/\∀y∈Q',cX y≠6
 mw:5<=m->m≠14->m≠15->cX (lq Q)=if m=16\/m=17 then 6 else m
def EM(m k:Nat):Nat:=if m=5\/m=8 then k else m
structure GO(m k:Nat)(Q:List O)(σ:N):Prop where
 ok:OkM (EM m k) Q (if m=5 then σ.cC.length-1 else σ.cC.length)
 k5:m=5->(3<=k/\k≠5/\k≠8/\k≠10)/\∃i,σ.last=some i/\ji (σ.nm i)=false
 k8:m=8->k=7\/k=11\/k=12
 cg:m≠10->Lo∉Q
 ch:m=10->∃Q1,Q=Q1++[Lo]/\Lo∉Q1/\∃i,σ.last=some i/\σ.nm i=Lo
structure PH(e:Nat)(U:eG)(H:Nat->List O):Prop where
 lo:e<=1->U=none/\∀i,H i=[]
 hi:2<=e->∃h,U=some h/\h≠0/\H 0=[aG]/\(H h=if e=2 then []else if e<=4 then [bZ]else [bZ,aZ])/\∀i,i≠0->i≠h->H i=[]
def GI(f:Bool)(σ:N):Prop:=∃U H Q,FI ⟨U,H,Q,(σ.mode,σ.kept,f)⟩ [] σ/\GO σ.mode σ.kept Q σ/\PH (EM σ.mode σ.kept) U H
def fE(m:Nat):Prop:=6<=m/\m≠8/\m≠10
theorem FI.md{p:Pm}(h:FI p X σ):σ.mode=p.mo.1/\σ.kept=p.mo.2.1/\σ.dv=p.mo.2.2:=by
 grind[mo]
theorem GO.any{k:Nat}(h:GO m k Q σ)(j:fE m):GO m k Q σ':=by
 have⟨h1,h2,h3⟩:=j;have e:EM m k=m:=by unfold EM;rw[cZ (by omega)]
 have p:=h.ok;refine⟨?_,λg=>by omega,λg=>by omega,h.cg,by grind⟩;constructor<;>grind[OkM.hi,OkM.mw]
theorem Fp.gi{α:Type}{m:M α}(e:Fp m)(h:GI f σ)(j:fE σ.mode):gN (λ_ σ'=>GI f σ'/\σ'.mode=σ.mode) (m σ):=by
 have⟨U,H,Q,h1,h2,h3⟩:=h;refine(e _ _ σ h1).mono λ_ σ' g=>?_;have⟨e1,e2,e3⟩:=g.md;refine⟨⟨U,H,Q,by grind,by grind[GO.any],by grind⟩,e1⟩
theorem Fp.gio{α:Type}{m:M α}(j:Fp m)(h:GI f σ)(k:∀a σ',m σ=.ok a σ'->σ'.cC=σ.cC/\Nx σ σ'):gN (λ_ σ'=>GI f σ'/\σ'.mode=σ.mode) (m σ):=by
 have⟨U,H,Q,h1,h2,h3⟩:=h;have g:=j _ _ σ h1;cases hr:m σ with
 |ok a σ'=>
  rw[hr]at g;have⟨e1,e2,e3⟩:=FI.md g;have⟨o1,o2⟩:=k a σ' hr;have p:σ'.last=σ.last:=by unfold N.last;rw[o1]
  have u:∀i,σ.last=some i->σ'.nm i=σ.nm i:=λi e=>o2.nm (h1.o0 (tk e)).2;refine⟨⟨U,H,Q,by rw[e1,e2];exact g,?_,by grind⟩,e1⟩;rw[e1,e2];refine⟨by grind[GO.ok],λq=>?_,h2.k8,h2.cg,λq=>?_⟩;have⟨g1,i,g2,g3⟩:=h2.k5 q;grind;grind[GO.ch]
 |_=>trivial
theorem SZ(h:ji s=false):cX s=6:=by
 have e:∀l:List O,(∀x∈l,x∈qL)->da l s=false:=λl j=>j9.2 λk=>j9.1 h (j s k);unfold cX;rw[e _ (by simp[qL]),e [dq] (by simp[qL]),e _ (by simp[qL]),e _ (by simp[qL]),e _ (by simp[qL]),e _ (by simp[qL])];rfl
theorem aeJ{e:List O}(hq:σ.ns.filter ji=aG::aZ::e)(q:∀y∈e,cX y≠6):nE σ σ.cC.reverse=cX (lq (aG::aZ::e)):=by
 have k:∀l:gZ,nE σ l=(match ((l.map σ.jg).filter ji).find? (λs=>cX s≠6)with|some s=>cX s|none=>6):=by
  intro l
  induction l with
  |nil=>rfl
  |cons x r ih=>
   grind[SZ,nE]
 rw[k,yR,List.filter_reverse];show(match (List.reverse (σ.ns.filter ji)).find? _ with|some s=>cX s|none=>6)=_
 rw[hq];by_cases j:e=[];subst j;have e2:cX aG=6:=by decide+kernel
 have p:lq [aG,aZ]=aZ:=rfl;grind;obtain⟨l,y,rfl⟩:∃l y,e=l++[y]:=⟨e.dropLast,e.getLast j,(List.dropLast_concat_getLast j).symm⟩;have e1:lq (aG::aZ::(l++[y]))=y:=by
  unfold lq;rw[show aG::aZ::(l++[y])=(aG::aZ::l)++[y]from rfl,sE];rfl
 grind
theorem Bm:∀{l:List O} {p:Option O},IV p l->IV p (l.filter ji)
 |[],_,_=>trivial
 |b::l,p,h=>by
  rw[List.filter_cons];split;exact⟨h.1,Bm h.2⟩;exact Bm (MR (l1:=[]) h (by grind))
  termination_by l=>l.length
def FI.chQ{p:Pm}(h:FI p X σ):IV none p.Q:=by rw[<-h.q];exact Bm h.ch
theorem PH.hi6{e e':Nat}(h:PH e U H)(k:5<=e)(j:5<=e'):PH e' U H:=by
 constructor<;>grind[hi]
structure GB(f:Bool)(U:eG)(H:Nat->List O)(Q:List O)(k:Nat)(m:Nat)(σ:N):Prop where
 fi:FI ⟨U,H,Q,(m,k,f)⟩ [] σ
 hi:∃Q',Q=aG::aZ::Q'/\∀y∈Q',cX y≠6
 cg:Lo∉Q
 ph:PH 6 U H
theorem GI.gb(h:GI f σ)(k:fE σ.mode):∃U H Q,GB f U H Q σ.kept σ.mode σ/\(σ.mode≠14->σ.mode≠15->cX (lq Q)=if σ.mode=16\/σ.mode=17 then 6 else σ.mode):=by
 have⟨U,H,Q,h1,h2,h3⟩:=h;have⟨b1,b2,b3⟩:=k;have e:EM σ.mode σ.kept=σ.mode:=by unfold EM;rw[cZ (by omega)]
 have j:=h2.ok;rw[e]at j h3;exact⟨U,H,Q,⟨h1,j.hi (by omega),h2.cg b3,h3.hi6 (by omega) (by omega)⟩,j.mw (by omega)⟩
theorem GB.gi{k:Nat}(h:GB f U H Q k m σ)(j:fE m)(p:m≠14->m≠15->cX (lq Q)=if m=16\/m=17 then 6 else m):GI f σ:=by
 have⟨e1,e2,_⟩:=h.fi.md;dsimp only at e1 e2;have⟨b1,b2,b3⟩:=j;have e:EM m k=m:=by unfold EM;rw[cZ (by omega)]
 refine⟨U,H,Q,by grind[fi],?_,?_⟩
 .rw[e1,e2];refine⟨?_,λg=>by omega,λg=>by omega,λ_=>h.cg,λg=>absurd g b3⟩;constructor<;>grind[hi]
 rw[e1,e2,e];exact h.ph.hi6 (by omega) (by omega)
theorem Fp.gb{α:Type}{m:M α}(e:Fp m){k md:Nat}(h:GB f U H Q k md σ):gN (λ_=>GB f U H Q k md) (m σ):=(e _ _ σ h.fi).mono λ_ _ g=>⟨g,h.hi,h.cg,h.ph⟩
theorem GB.mode{k:Nat}(h:GB f U H Q k m σ)(e:Nat):GB f U H Q k e {σ with mode:=e}:=
 ⟨h.fi.jo rfl rfl rfl rfl rfl (λ_ g=>g) h.fi.form rfl h.fi.wt (by have:=h.fi.md;grind),h.hi,h.cg,h.ph⟩
def N9{k:Nat}(e:Nat):Tr (GB f U H Q k m) (fq e) (λ_=>GB f U H Q k e):=λσ h=>h.mode e
theorem TO{k:Nat}:Tr (GB f U H Q k m) wF (λ_=>GB f U H Q k (cX (lq Q))):=λσ h=>by
 have⟨Q',e,hm⟩:=h.hi;have:nE σ σ.cC.reverse=cX (lq Q):=by rw[e];exact aeJ (h.fi.q.trans e) hm
 show GB f U H Q k _ _;grind[GB.mode]
theorem SY(s:O):cX s=6\/cX s=7\/cX s=9\/cX s=10\/cX s=11\/cX s=12\/cX s=13:=by
 grind[cX]
def ad1(h:cX s=10):s=Lo:=by
 unfold cX at h
 (repeat' split at h)<;>first|(exact absurd h (by decide))|skip
 rename_i g;exact List.mem_singleton.1 (fW.1 g)
theorem akc(h:Q≠[]):lq Q∈Q:=by
 have⟨a,h1,h2⟩:=vn h;grind[lq]
theorem GB.reset{k:Nat}(h:GB f U H Q k (cX (lq Q)) σ):GI f σ:=by
 have j:cX (lq Q)≠10:=λg=>h.cg (by
  have⟨Q',e,_⟩:=h.hi;rw[<-ad1 g];exact akc (by grind))
 have p:=SY (lq Q);refine h.gi ⟨by omega,by omega,j⟩ λ_ _=>?_;grind
theorem GB.cut{Q1 p:List O}{k:Nat}(h:GB f U H Q k m σ)(e:Q=Q1++x::p)(j:cX x≠6)(q:FI ⟨U,H,Q1,(m,k,f)⟩ [] σ'):GB f U H Q1 k m σ':=by
 have⟨Q',e1,h2⟩:=h.hi;refine⟨q,?_,λg=>h.cg (by grind),h.ph⟩;rw[e1]at e;cases Q1 with
 |nil=>
  injection e with e2 e3;exact absurd (by rw[<-e2];decide+kernel) j
 |cons a Q1=>
  rw[oW]at e;injection e with e2 e3;cases Q1 with
  |nil=>
   injection e3 with e4 e5;exact absurd (by rw[<-e4];decide+kernel) j
  |cons b Q1=>
   grind
def amh:∀s,da [aV] s=true->ji s=true:=λs h=>by rw[List.mem_singleton.1 (fW.1 h)];decide+kernel
theorem VM(h:GI f σ)(k:fE σ.mode):gN (λ_=>GI f) (pN σ):=by
 have⟨U,H,Q,h1,_⟩:=h.gb k;refine Tr.bind (R:=λb s=>if b=true then ∃j,GB f U H j σ.kept σ.mode s else s=σ) (λs e=>?_) (λb=>?_) σ rfl;subst e;unfold iI;split;rename_i e;have⟨j,x,Q2,g1,g2,_,g4,_⟩:=h1.fi.Vl amh e;refine⟨j,h1.cut g1 ?_ g4⟩;grind[cX];rfl;cases b with
 |true=>
  intro s ⟨j,e⟩;exact Tr.bind TO (λ_=>Tr.pure λ_ g=>g.reset) s e
 |false=>
  intro s e;have:=e;rw[this];exact h
theorem vX(h:GI f σ)(j:fE σ.mode):gN (λ_=>GI f) (pg σ):=by
 have⟨U,H,Q,h1,_⟩:=h.gb j;refine Tr.bind (R:=λb s=>if b=true then GB f U H Q σ.kept σ.mode s else s=σ) (λs e=>?_) (λb=>?_) σ rfl;subst e;unfold iI;split;rename_i e;exact⟨h1.fi.close (jW (by decide+kernel)) (by decide+kernel) e,h1.hi,h1.cg,h1.ph⟩;rfl
 .cases b<;>grind[Tr.bind,TO,Tr.pure,GB.reset]
def Bb(ks:List O)(m:Nat):Prop:=∀x,da ks x=true->ji x=true/\cX x≠6/\∀a,wB a x=true->cX a=m
theorem Ie{hs:List O}(e:(ks.all λx=>ji x&&decide (cX x≠6))=true)(j:∀x∈ks,∀a,wB a x=true->da hs a=true)(k:(hs.all λa=>decide (cX a=m))=true):Bb ks m:=λx p=>by
 grind[fW]
theorem Ey(h:GI f σ)(u:fE σ.mode)(q:Bb ks m)(F:m=7\/m=11\/m=12):gN (λ_ σ'=>GI f σ'/\fE σ'.mode) (ol ks m σ):=by
 have⟨U,H,Q,h1,_⟩:=h.gb u;refine Tr.bind (R:=λb s=>if b=true then ∃k,GB f U H k σ.kept σ.mode s/\cX (lq k)=m else s=σ) (λs j=>?_) (λb=>?_) σ rfl;subst j;unfold iI;split;rename_i j;have⟨k,x,Q2,g1,g2,_,g4,g5⟩:=h1.fi.Vl (λy E=>(q y E).1) j;have z:=h1.cut g1 (q x g2).2.1 g4;refine⟨k,z,?_⟩;have⟨Q',e,_⟩:=z.hi;have⟨a,ga,_⟩:=vn (l:=k) (by grind);rw[ga]at g5;unfold lq;rw[ga];exact(q x g2).2.2 a g5.1;rfl;cases b with
 |true=>
  intro s ⟨k,j,I⟩;refine Tr.bind (N9 m) (λ_=>Tr.pure λσ' g=>?_) s j;have p:fE m:=⟨by omega,by omega,by omega⟩;refine⟨g.gi p λ_ _=>by grind,?_⟩;rw[g.fi.md.1];exact p
 |false=>
  intro s j;have:=j;rw[this];exact⟨h,u⟩
theorem yI(h:GI f σ)(k:fE σ.mode)(q:Bb ks m)(p:m=7\/m=11\/m=12):gN (λ_=>GI f) (gH ks m σ):=
 Tr.bind (R:=λ_ σ'=>GI f σ'/\fE σ'.mode) (λs u=>by grind[Ey]) (λb=>by
  cases b with
  |true=>exact Tr.bind (λs ⟨e,j⟩=>(Uy.gi e j).mono λ_ _ g=>g.1) λ_=>Tr.pure λ_ g=>g
  |false=>grind[Tr.pure]) σ rfl
theorem ahi(h:x∈[dq])(a:O):wB a x=da [cJ,cM,cF] a:=by
 cases List.mem_singleton.1 h;unfold wB;rw[cZ (by decide+kernel),cZ (by decide+kernel),dd (by decide+kernel)]
theorem aej(h:x∈[dE,dF])(a:O):wB a x=da [dq] a:=by
 simp at h;unfold wB;rcases h with rfl|rfl<;>rw[cZ (by decide+kernel),cZ (by decide+kernel),cZ (by decide+kernel),dd (by decide+kernel)]
theorem PR(h:x∈[cJ,cM,cF,cO,bY])(a:O):wB a x=da [aV] a:=by
 simp at h;unfold wB;rcases h with rfl|rfl|rfl|rfl|rfl<;>rw[cZ (by decide+kernel),cZ (by decide+kernel),cZ (by decide+kernel),cZ (by decide+kernel),dd (by decide+kernel)]
theorem aey:Bb [cJ,cF,cM] 7:=Ie (hs:=[(aV)]) (by decide+kernel) (λx j a e=>by grind[PR]) (by decide+kernel)
theorem WR:Bb [cO] 7:=Ie (hs:=[(aV)]) (by decide+kernel) (λx j a e=>by grind[PR]) (by decide+kernel)
theorem akr:Bb [dq] 11:=Ie (hs:=[(cJ),(cM),(cF)]) (by decide+kernel) (λx j a e=>by grind[ahi]) (by decide+kernel)
theorem ahu:Bb [dE,dF] 12:=Ie (hs:=[(dq)]) (by decide+kernel) (λx j a e=>by grind[aej]) (by decide+kernel)
def ab0(e:M Nat)(s:O):Prop:=∀p X σ,FI p X σ->gN (λj σ'=>Nq p X s j σ'/\σ'.last=σ.last/\Nx σ σ') (e σ)
def DD(ht:TA t)(e:t.name≠aG):ab0 (fG t) t.name:=λ_ _ _ h=>BG h ht e
def NH(j:s≠qR)(e:s≠aG):ab0 (wg s) s:=λ_ _ _ h=>ag5 h j e
theorem alI{T:M Nat}(E:ab0 T s){p:Pm}(I:p.mo.2.2=false)(F:Cj s=false)(P:gL s=false):Tr (λσ=>FI p [] σ/\∃i,σ.last=some i/\wB (σ.nm i) s=true) (T>>=λj=>fP j>>=λ_=>(Pure.pure ():M Unit)) (λ_ σ'=>FI {p with Q:=p.Q++[s].filter ji} [] σ'/\∃j,σ'.last=some j/\σ'.nm j=s):=by
 refine Tr.bind (R:=λj σ=>Nq p [] s j σ/\∃i,σ.last=some i/\wB _ s=true) (λσ ⟨h,i,y,z⟩=>(E p [] σ h).mono λj σ' ⟨k,q,u⟩=>⟨k,i,by grind,by grind[Nx.nm,FI.o0,tk]⟩) λj=>Tr.bind (λσ ⟨h,i,y,z⟩=>((Nt h y (by rw[h.1.md.2.2];exact I) z F).mono λ_ σ' ⟨k,q,u,_,_⟩=>⟨k.2 P,j,q,?_⟩)) λ_=>Tr.pure λ_ g=>g;have⟨e,k1,k2⟩:=u;grind[N.nm]
theorem GB.add{f:Bool}{U:eG}{H:Nat->List O}{Q:List O}{k m:Nat}{σ σ':N}(h:GB f U H Q k m σ){s:O}(hs:cX s≠6)(e:s≠Lo)(j:FI ⟨U,H,Q++[s],(m,k,f)⟩ [] σ'):GB f U H (Q++[s]) k m σ':=by
 constructor<;>grind[hi,cg,ph]
theorem DA(Q:List O)(s:O):lq (Q++[s])=s:=by grind[sE,lq]
theorem Ox(h:Q≠[]):∃e,Q=e++[lq Q]:=by
 refine⟨Q.dropLast,?_⟩;grind[List.dropLast_concat_getLast,DA]
structure Beg(ks:List O)(s:O)(a:O):Prop where
 ha:da ks a=true
 hk:∀x,ji x=false->da ks x=false
 ok:wB a s=true
 nb:Cj s=false
 q:ji s=true
 v:gL s=false
theorem OT(y:f=false){k:Nat}(h:GB f U H Q k m σ)(q:Beg ks s (lq Q)){F:M Nat}(u:ab0 F s){α:Type}{p:M α}{R:α->N->Prop}(E:Tr (λσ'=>FI ⟨U,H,Q++[s],(m,k,f)⟩ [] σ'/\∃j,σ'.last=some j/\σ'.nm j=s) p R):gN R ((oB (da ks)>>=λ_=>(F>>=λj=>fP j>>=λ_=>(Pure.pure ():M Unit))>>=λ_=>p) σ):=by
 have⟨Q',e,_⟩:=h.hi;have⟨Q1,e1⟩:=Ox (Q:=Q) (by grind);refine Tr.bind (P:=λs=>s=σ) (R:=λ_ σ'=>FI ⟨U,H,Q,(m,k,f)⟩ [] σ'/\∃i,σ'.last=some i/\wB _ s=true) (λs z=>?_) (λ_=>Tr.bind (alI u y q.nb q.v) λ_=>?_) σ rfl;subst z;have⟨g1,i,g2,g3⟩:=h.fi.clear e1 q.ha q.hk;exact⟨g1,i,g2,by show wB (s.nm i) _=true;grind[Beg.ok]⟩;grind[Beg.q]
theorem begun{k:Nat}(h:GB false U H Q k m σ)(q:Nat)(E:cX s=q)(h6:q≠6):Tr (λσ'=>FI ⟨U,H,Q++[s],(m,k,false)⟩ [] σ'/\∃j,σ'.last=some j/\σ'.nm j=s) (fq q) (λ_ σ'=>GI false σ'/\σ'.mode=q):=λσ' ⟨p,j,F,I⟩=>by
 by_cases z:s=Lo;subst z;have u:q=10:=by rw[<-E];decide+kernel
 subst u;have hf:FI ⟨U,H,Q++[Lo],(10,k,false)⟩ [] {σ' with mode:=10}:=p.jo rfl rfl rfl rfl rfl (λ_ g=>g) p.form rfl p.wt (by have:=p.md;grind);have T:=p.md.2.1;have⟨Q',e,hq⟩:=h.hi;refine⟨⟨U,H,Q++[Lo],by grind,?_,h.ph.hi6 (by omega) ((by decide:5<=10))⟩,rfl⟩;refine⟨⟨λg=>absurd (show(10:Nat)<=1 from g) (by decide),λg=>absurd (show(10:Nat)=2\/(10:Nat)=4 from g) (by decide),λg=>absurd (show(10:Nat)=3 from g) (by decide),λ_=>⟨Q'++[Lo],by grind,λy hy=>?_⟩,λ_ _ _=>?_⟩,by grind,by grind,λg=>absurd rfl g,λ_=>⟨Q,rfl,h.cg,j,F,I⟩⟩;grind;rw[DA,E];rfl;have g:=h.add (by omega) z p;have P:=SY s;refine⟨(g.mode q).gi ⟨by omega,by omega,λe=>z (ad1 (E.trans e))⟩ λ_ _=>?_,rfl⟩;grind[DA]
theorem GI.mw(h:GI f σ)(j:fE σ.mode)(e:σ.mode<14):∃U H Q,GB f U H Q σ.kept σ.mode σ/\cX (lq Q)=σ.mode:=by
 grind[gb]
def KP(h:GI false σ)(p:fE σ.mode)(e:σ.mode<14)(ht:TA t)(q:t.name≠aG)(k:∀a,cX a=σ.mode->Beg ks t.name a)(u:cX t.name=m)(j:m≠6):gN (λ_=>GI false) (uA ks m t σ):=by
 have⟨U,H,Q,g1,g2⟩:=h.mw p e;exact OT rfl g1 (k _ g2) (DD ht q) (Tr.bind (begun g1 m u j) λ_=>Tr.pure λ_ g=>g.1)
theorem EI(h:GI false σ)(p:fE σ.mode)(e:σ.mode<14){rec:Nat->cR->M Unit}(y:name≠qR)(q:name≠aG)(k:∀a,cX a=σ.mode->Beg ks name a)(u:cX name=m)(j:m≠6)(z:∀σ',GI false σ'->σ'.mode=m->gN (λ_=>GI false) (rec m t σ')):gN (λ_=>GI false) (oH rec ks name m t σ):=by
 have⟨U,H,Q,g1,g2⟩:=h.mw p e;refine OT rfl g1 (k _ g2) (NH y q) (Tr.bind (begun g1 m u j) λ_=>Tr.bind (λσ' ⟨E,F⟩=>?_) λ_=>Tr.pure λ_ g=>g);grind[gh]
theorem MK{a:Unit}(h:fC none σ=.ok a σ'):σ'.cC=σ.cC/\Nx σ σ':=by
 grind[Nx.same,fC]
def T1(h:GI false σ)(p:fE σ.mode)(j:σ.mode<14)(ht:TA t)(q:t.name≠aG)(k:∀a,cX a=σ.mode->Beg [dq] t.name a)(u:cX t.name=13):gN (λ_=>GI false) (mU t σ):=by
 have⟨U,H,Q,g1,g2⟩:=h.mw p j;exact OT rfl g1 (k _ g2) (DD ht q) (Tr.bind (begun g1 13 u (by decide)) λ_=>Tr.bind (λσ' ⟨y,_⟩=>(Ee.gio y λ_ _ e=>MK e).mono λ_ _ g=>g.1) λ_=>Tr.pure λ_ g=>g)
theorem KG(h:GI false σ)(E:fE σ.mode)(y:σ.mode<14)(ht:TA t)(F:t.name≠aG)(z:∀a,cX a=σ.mode->Beg [aV] t.name a)(I:cX t.name=9):gN (λ_=>GI false) (kK t σ):=by
 have⟨U,H,Q,g1,g2⟩:=h.mw E y;have B:=z _ g2;have⟨Q',e,_⟩:=g1.hi;have⟨Q1,e1⟩:=Ox (Q:=Q) (by grind);have e2:[t.name].filter ji=[t.name]:=by rw[List.filter_cons,B.q];rfl
 have T:Tr (λs=>s=σ) (oB (da [aV])) (λ_ σ'=>FI ⟨U,H,Q,(σ.mode,σ.kept,false)⟩ [] σ'/\∃i,σ'.last=some i/\wB (σ'.nm i) t.name=true):=λs P=>by
  subst P;have⟨j,i,k,q⟩:=g1.fi.clear (ks:=[aV]) (Q1:=Q1) (a:=lq Q) e1 B.ha B.hk;exact⟨j,i,k,by show wB (s.nm i) _=true;rw[q];exact B.ok⟩
 have s2:Tr (λσ'=>FI ⟨U,H,Q,(σ.mode,σ.kept,false)⟩ [] σ'/\∃i,σ'.last=some i/\wB (σ'.nm i) t.name=true) (fC none) (λ_ σ'=>FI ⟨U,H,Q,(σ.mode,σ.kept,false)⟩ [] σ'/\∃i,σ'.last=some i/\wB (σ'.nm i) t.name=true):=λs ⟨j,i,k,q⟩=>by
  have:=Ee _ _ s j;cases hm2:fC none s with
  |ok a s'=>
   rw[hm2]at this;have⟨o1,o2⟩:=MK hm2;exact⟨this,i,by grind[N.last],by rw[o2.nm (j.o0 (tk k)).2];exact q⟩
  |_=>trivial
 have u:=alI (DD ht F) (p:=⟨U,H,Q,(σ.mode,σ.kept,false)⟩) rfl B.nb B.v;rw[e2]at u;exact Tr.bind (S:=λ_=>GI false) T (λ_=>Tr.bind s2 λ_=>Tr.bind u λ_=>Tr.bind (begun g1 9 I (by decide)) λ_=>Tr.pure λ_ g=>g.1) σ rfl
theorem FI.afe{p:Pm}{j:Nat}(h:FI {p with Q:=p.Q++[s].filter ji} X σ)(k:σ.cC=o++[some j])(hs:σ.nm j=s):FI p X σ.pop:=by
 have e:σ.ns=o.map σ.jg++[s]:=by unfold N.ns;rw[k,lV,<-hs];rfl
 have q:=h.ch;rw[e,qZ]at q;have hq:=h.q;rw[e,List.filter_append]at hq;have e2:σ.pop={σ with cC:=o}:=by unfold N.pop;rw[k];simp
 rw[e2];exact h.lists rfl rfl rfl q.1 (List.append_cancel_right hq) (λx u=>h.op x (by grind)) (List.nodup_append.1 (k▸h.nd)).1 h.act h.form h.head h.wt h.mo
theorem alu(h:GI false σ)(I:σ.mode=10)(ht:TA t)(u:t.name=dz):gN (λ_=>GI false) (gM t σ):=by
 have⟨U,H,Q,h1,h2,h3⟩:=h;have⟨Q1,q1,q2,i,q3,q4⟩:=h2.ch I;refine Tr.bind (P:=λs=>s=σ) (S:=λ_=>GI false) (λs T=>?_) (λ_=>Tr.bind (λs g=>g) λ_=>Tr.pure λ_ g=>g) σ rfl;subst T;refine Tr.bind (P:=λx=>x=s) (R:=λj k=>Nq ⟨U,H,Q,(s.mode,s.kept,false)⟩ [] t.name j k/\k.last=s.last/\Nx s k/\k.cC=s.cC) (λx hx=>?_) (λj=>Tr.bind (λk ⟨y,E,z,F⟩=>?_) λ_=>Tr.pure λ_ g=>g) s rfl;subst hx;have:=BG h1 ht (by rw[u];decide+kernel);cases hr:fG t x with
 |ok j k=>
  rw[hr]at this;refine⟨this.1,this.2.1,this.2.2,?_⟩;unfold fG at hr;split at hr;cases hr;rfl;grind
 |_=>trivial
 have p:k.nm i=Lo:=by rw[z.nm (h1.o0 (tk q3)).2];exact q4
 refine(Nt y (by rw[E];exact q3) (by rw[y.1.md.2.2]) (by rw[p,u];decide+kernel) (by rw[u];decide+kernel)).mono λ_ q ⟨k1,k2,k3,k4,k5⟩=>?_;have⟨m1,m2,_⟩:=k1.1.md;have ho:q.pop.cC=s.cC:=by unfold N.pop;rw[k4,F];simp
 refine⟨U,H,Q,by grind,?_,by grind⟩;rw[m1,m2];exact⟨by grind[GO.ok],by grind,h2.k8,h2.cg,λ_=>⟨Q1,q1,q2,i,by grind[N.last],(by show q.nm i=Lo;rw[k5.nm (by have⟨e,c1,_⟩:=z i _ (Option.some_get (h1.o0 (tk q3)).2).symm;grind)];exact p)⟩⟩
theorem amU(ht:TA t)(F:t.name=aV){p:Pm}:Tr (FI p []) (dZ t) (λ_=>FI {p with Q:=p.Q++[aV]} []):=by
 have s2:∀(j:Nat)(q:Nat×Nat),Tr (λσ=>(Nq p [] t.name j σ/\σ.cC≠[])/\q.1≠0/\gL (σ.nm q.1)=false) (fY q j) (λ_ σ=>Nq p [] t.name j σ/\σ.cC≠[]):=λj q σ ⟨⟨⟨y,P,z,T⟩,h5⟩,h6,hv⟩=>by
  have E:=aeA (k:=.el j) y h6 hv (by have⟨e,I,u⟩:=T;grind[KK]);show gN _ (fY q j σ);cases hr:fY q j σ with
  |ok a σ'=>
   rw[show xh q (.el j) σ=fY q j σ from rfl,hr]at E;have ho:=(PY hr).2;exact⟨⟨E.1,by grind,z,T.nx E.2⟩,by grind⟩
  |_=>trivial
 have s1:∀j,Tr (Nq p [] t.name j) gp (λq σ=>(Nq p [] t.name j σ/\σ.cC≠[])/\q.1≠0/\gL (σ.nm q.1)=false):=λj σ h=>by
  have:=xf σ h.1;cases hr:gp σ with
  |ok q σ'=>
   rw[hr]at this;obtain rfl:=qI hr;exact⟨⟨h,this.2.2.1⟩,this.2.1,this.2.2.2⟩
  |_=>trivial
 have s3:∀j,Tr (λσ=>Nq p [] t.name j σ/\σ.cC≠[]) (kA (some j)) (λ_=>FI {p with Q:=p.Q++[aV]} []):=λj σ ⟨⟨y,P,z,e,I,u⟩,h5⟩=>by
  unfold kA;split;trivial;split;have⟨a,ha,_⟩:=vn (aiO h5);have:=y.push I z (by rw[ha,u,F];exact⟨Aw a,by decide+kernel⟩) P;rw[u,F,show[aV].filter ji=[aV] by decide+kernel]at this;exact this;trivial
 exact Tr.bind (R:=Nq p [] t.name) (λσ h=>(BG h ht (by rw[F];decide+kernel)).mono λ_ _ g=>g.1) λj=>Tr.bind (Tr.bind (s1 j) λq=>Tr.bind (s2 j q) λ_=>Tr.bind (s3 j) λ_=>Tr.pure λ_ g=>g) λ_=>Tr.pure λ_ g=>g
theorem Qi(h:GI f σ)(j:fE σ.mode)(ht:TA t)(k:t.name=aV):gN (λ_=>GI f) (nJ t σ):=by
 have⟨U,H,Q,h1,_⟩:=h.gb j;have p:cX (aV)=7:=by decide+kernel
 refine Tr.bind (S:=λ_=>GI f) (λs e=>ZT.gb e) (λ_=>Tr.bind (λs e=>(amU ht k s e.fi).mono λ_ _ g=>e.add (by omega) (by simp[Lo]) g) λ_=>Tr.bind (N9 7) λ_=>Tr.pure λs g=>g.gi ⟨by decide,by decide,by decide⟩ λ_ _=>by grind[DA]) σ h1
def MA(h:GI f σ)(j:fE σ.mode)(ht:TA t)(hq:ji t.name=false):gN (λ_=>GI f) (lU t σ):=by
 have⟨U,H,Q,h1,_⟩:=h.gb j;have k:Tr (GB f U H Q σ.kept σ.mode) (rO λσ=>{σ with mode:=if σ.mode=7\/σ.mode=9\/σ.mode=11\/σ.mode=12\/σ.mode=13 then 15 else 14}) (λ_=>GI f):=λs e=>by
  show GI f {s with mode:=_};split;exact(e.mode 15).gi ⟨by decide,by decide,by decide⟩ λ_ g=>absurd rfl g;exact(e.mode 14).gi ⟨by decide,by decide,by decide⟩ λg _=>absurd rfl g
 exact Tr.bind (S:=λ_=>GI f) (λs e=>(rK t ht hq).gb e) (λ_=>Tr.bind k λ_=>Tr.pure λ_ g=>g) σ h1
def Ls(p:Pm)(o:gZ)(σ:N):Prop:=FI p [] σ/\∃j,σ.cC=o++[some j]/\yD σ j
theorem Dm(ht:TA t)(hq:ji t.name=false){p:Pm}:Tr (λσ=>FI p [] σ/\σ.cC=o) (dZ t) (λ_=>Ls p o):=by
 have I:Tr (λσ=>FI p [] σ/\σ.cC=o) (fG t) (λj σ=>Nw p [] j σ/\σ.cC=o):=λσ ⟨h,E⟩=>by
  have:=BF ht hq σ h;cases hr:fG t σ with
  |ok j σ'=>
   rw[hr]at this;refine⟨this,?_⟩;unfold fG at hr;split at hr;cases hr;exact E;grind
  |_=>trivial
 have P:∀j,Tr (λσ=>Nw p [] j σ/\σ.cC=o) gp (λe σ=>(Nw p [] j σ/\σ.cC=o)/\e.1≠0/\σ.cC≠[]/\gL _=false):=λj σ h=>by
  have:=xf σ h.1.1;cases hr:gp σ with
  |ok e σ'=>
   rw[hr]at this;obtain rfl:=qI hr;exact⟨h,this.2⟩
  |_=>trivial
 have T:∀(j:Nat)(e:Nat×Nat),Tr (λσ=>(Nw p [] j σ/\σ.cC=o)/\e.1≠0/\σ.cC≠[]/\gL _=false) _ (λ_ σ=>(Nw p [] j σ/\σ.cC=o)/\σ.cC≠[]):=λj e σ ⟨⟨⟨k,q⟩,y⟩,z,u,F⟩=>(Ax (k.f0 (Oo ..)) k z F).mono λ_ σ' g=>⟨⟨⟨g.1,by grind⟩,by grind⟩,by grind⟩;have s3:∀j,Tr (λσ=>(Nw p [] j σ/\σ.cC=o)/\σ.cC≠[]) (kA (some j)) (λ_=>Ls p o):=λj σ ⟨⟨⟨k,q⟩,y⟩,u⟩=>by
  unfold kA;split;trivial;split;have g:=k.aez (k.xs j (Oo ..)) u q;exact⟨g.tail,j,by grind,g.xs j (Oo ..)⟩;trivial
 exact Tr.bind I λj=>Tr.bind (Tr.bind (P j) λe=>Tr.bind (T j e) λ_=>Tr.bind (s3 j) λ_=>Tr.pure λ_ g=>g) λ_=>Tr.pure λ_ g=>g
def GI.set{f e:Bool}{σ σ':N}{U:eG}{H:Nat->List O}{Q:List O}{m k:Nat}(h:FI ⟨U,H,Q,(m,k,f)⟩ [] σ)(u:σ'.nodes=σ.nodes)(y:σ'.cC=σ.cC)(j:σ'.act=σ.act)(p:σ'.form=σ.form)(q:σ'.head=σ.head)(z:∀x∈σ'.waiting,0<x.2.2.size)(E:σ'.dv=e)(F:GO σ'.mode σ'.kept Q σ')(I:PH (EM σ'.mode σ'.kept) U H):GI e σ':=
 ⟨U,H,Q,h.jo u y rfl rfl rfl (λ_ g=>j▸g) (by rw[p];exact h.form) q z (by rw[E]),F,I⟩
theorem Kd(h:GI f σ)(u:3<=σ.mode/\σ.mode≠5/\σ.mode≠8/\σ.mode≠10)(ht:TA t)(hq:ji t.name=false)(b:Bool):gN (λ_=>GI f) (jV t b σ):=by
 have⟨U,H,Q,h1,h2,h3⟩:=h;have e:EM σ.mode σ.kept=σ.mode:=by unfold EM;rw[cZ (by omega)]
 have y:Tr (Ls ⟨U,H,Q,(σ.mode,σ.kept,f)⟩ σ.cC) (Aj t.name b>>=λ_=>(rO λσ=>{σ with kept:=σ.mode})>>=λ_=>fq 5>>=λ_=>(Pure.pure ())) (λ_=>GI f):=λs ⟨k,j,p,q⟩=>by
  have⟨m1,m2,m3⟩:=k.md;refine GI.set k rfl rfl rfl rfl rfl k.wt m3 ?_ ?_;refine⟨?_,λ_=>⟨by grind,j,(by unfold N.last;rw[p];exact qp _ _),q.nm⟩,by grind,λ_=>h2.cg u.2.2.2,by grind⟩;show OkM s.mode Q _;grind[GO.ok];grind[EM]
 exact Tr.bind (Dm ht hq) (λ_=>y) σ ⟨h1,rfl⟩
theorem M7(h:GI f σ)(e:σ.mode=5):gN (λ_ σ'=>GI f σ'/\σ'.mode=σ.kept) (sQ σ):=by
 have⟨U,H,Q,h1,h2,h3⟩:=h;have⟨k1,i,k2,k3⟩:=h2.k5 e;have g:=h1.aaS k2 k3;show GI f {σ.pop with mode:=σ.kept}/\_;refine⟨GI.set g rfl rfl rfl rfl rfl g.wt g.md.2.2 ?_ ?_,rfl⟩
 .constructor<;>grind[GO.ok,GO.cg,EM,N.pop]
 grind[EM]
def aei{b:O}(h:wB aZ b=true)(j:gL b=false):ji b=false\/b=aV:=by
 by_cases e:b∈qL
 .simp[qL]at e;rcases e with rfl|rfl|rfl|rfl|rfl|rfl|rfl|rfl|rfl|rfl|rfl|rfl|rfl|rfl|rfl|rfl|rfl|rfl<;>first|rfl|(revert h j;decide+kernel)
 exact .inl (j9.2 e)
theorem GB.akj{k:Nat}(h:GB f U H Q k m σ)(hs:σ.inScope (da [aZ]) dG=true):Q=[aG,aZ]:=by
 have⟨Q1,x,Q2,g1,g2,g3,_,_⟩:=h.fi.Vl (λy p=>by rw[List.mem_singleton.1 (fW.1 p)];decide+kernel) hs;cases List.mem_singleton.1 (fW.1 g2);have⟨Q',e,hm⟩:=h.hi;have j:=h.fi.chQ;cases Q' with
 |nil=>exact e
 |cons y Q''=>
  exfalso;rw[e]at j;have p:y=(aV):=by
   rcases aei j.2.2.1.1 j.2.2.1.2 with g|g;grind[SZ,List.mem_cons_self];exact g
  rw[e]at g1;have q:(aZ)∉y::Q'':=λg=>hm _ g (by decide+kernel);have:y∈Q2:=by
   cases Q1 with
   |nil=>
    grind
   |cons a Q1=>
    rw[oW]at g1;injection g1 with _ g1;cases Q1<;>grind
  grind[Ej]
def adZ{k:Nat}(h:GB f U H Q k m σ)(hs:σ.inScope (da [aZ]) dG=true):GI f {σ with mode:=16}:=by
 refine(h.mode 16).gi ⟨by decide,by decide,by decide⟩ λ_ _=>?_;rw[(h.akj hs)];decide+kernel
def Z3(h:GI f σ)(e:fE σ.mode):gN (λ_=>GI f) (rj σ):=by
 have⟨U,H,Q,h1,_⟩:=h.gb e;unfold rj;split;exact adZ h1 ‹_›;exact h
theorem Z9(h:GI f σ)(j:fE σ.mode){rec:Nat->cR->M Unit}(p:∀σ',GI f σ'->σ'.mode=16->gN (λ_=>GI f) (rec 16 t σ')):gN (λ_=>GI f) (rn rec t σ):=by
 have⟨U,H,Q,h1,_⟩:=h.gb j;unfold rn;split;rename_i k;have g:=adZ h1 k;exact Tr.bind (R:=λ_ s=>s={σ with mode:=16}) (λs e=>by subst e;rfl) (λ_=>Tr.bind (λs e=>by grind[gh]) λ_=>Tr.pure λ_ g=>g) σ rfl;exact h
theorem zw(h:GI false σ){rec:Nat->cR->M Unit}(z:∀σ',GI true σ'->σ'.mode=σ.mode->σ'.kept=σ.kept->gN (λ_=>GI true) (rec 6 t σ')):gN (λ_=>GI false) (oF rec t σ):=by
 have⟨U,H,Q,k,h2,h3⟩:=h;have y:GI true {σ with dv:=true}:=GI.set k rfl rfl rfl rfl rfl k.wt rfl ⟨h2.ok,h2.k5,h2.k8,h2.cg,h2.ch⟩ h3;have u:Tr (GI true) (rO λσ=>{σ with dv:=false}) (λ_=>GI _):=λs ⟨U,H,Q,p,j,q⟩=>GI.set p rfl rfl rfl rfl rfl p.wt rfl ⟨j.ok,j.k5,j.k8,j.cg,j.ch⟩ q;exact Tr.bind (S:=λ_=>GI _) (R:=λ_ s=>s={σ with dv:=true}) (λs e=>by subst e;rfl) (λ_=>Tr.bind (λs e=>by grind) λ_=>Tr.bind u λ_=>Tr.pure λ_ g=>g) σ rfl
theorem GI.to8(h:GI false σ)(k:σ.mode=7\/σ.mode=11\/σ.mode=12):GI false {σ with kept:=σ.mode,mode:=8}:=by
 have⟨U,H,Q,j,h2,h3⟩:=h;have e:EM σ.mode σ.kept=σ.mode:=by unfold EM;rw[cZ (by omega)]
 refine GI.set j rfl rfl rfl rfl rfl j.wt j.md.2.2 ?_ ?_;refine⟨?_,by grind,λ_=>k,λ_=>h2.cg (by omega),by grind⟩;show OkM σ.mode Q _;grind[GO.ok];grind[EM]
theorem LF(h:GI false σ)(k:σ.mode=7\/σ.mode=11\/σ.mode=12){rec:Nat->cR->M Unit}(j:∀σ',GI false σ'->σ'.mode=8->gN (λ_=>GI false) (rec 8 t σ'))(p:∀σ',GI true σ'->σ'.mode=σ.mode->σ'.kept=σ.kept->gN (λ_=>GI true) (rec 6 t σ')):gN (λ_=>GI false) (iZ rec t σ):=by
 unfold iZ;split;exact Tr.bind (R:=λ_ s=>s={σ with kept:=σ.mode}) (λs e=>by subst e;rfl) (λ_=>Tr.bind (R:=λ_ s=>s={σ with kept:=σ.mode,mode:=8}) (λs e=>by subst e;rfl) λ_=>Tr.bind (λs e=>by subst e;exact j _ (h.to8 k) rfl) λ_=>Tr.pure λ_ g=>g) σ rfl;exact Tr.bind (λs e=>by grind[zw]) (λ_=>Tr.pure λ_ g=>g) σ rfl
theorem Jk{α:Type}{c:Prop}[Decidable c]{m1 m2:M α}{R:α->N->Prop}(e:c->gN R (m1 σ))(j:¬c->gN R (m2 σ)):gN R ((if c then m1 else m2) σ):=by
 grind
theorem Wh(h:GI false σ)(ht:TA t):gN (λ_=>GI false) (jB t σ):=by
 unfold jB;cases hk:t.k with
 |gz s=>
  refine Jk (λ_=>h) λ_=>?_;split;have⟨U,H,Q,e,h2,h3⟩:=h;refine GI.set e rfl rfl rfl rfl rfl (λx j=>?_) e.md.2.2 ⟨h2.ok,h2.k5,h2.k8,h2.cg,h2.ch⟩ h3;grind[FI.wt,TA.chars];trivial
 |_=>trivial
theorem adi{rec:Nat->cR->M Unit}(p:Fp (rec 6 t)){k:Nat}:Tr (FI ⟨U,H,Q,(m,k,false)⟩ []) (oF rec t) (λ_=>FI ⟨U,H,Q,(m,k,false)⟩ []):=by
 have j:∀f e,Tr (FI ⟨U,H,Q,(m,k,f)⟩ []) (rO λσ=>{σ with dv:=e}) (λ_=>FI ⟨U,H,Q,(m,k,e)⟩ []):=λf e σ h=>h.jo rfl rfl rfl rfl rfl (λ_ g=>g) h.form rfl h.wt (by have:=h.md;grind);exact Tr.bind (j false true) λ_=>Tr.bind (p _ _) λ_=>Tr.bind (j true false) λ_=>Tr.pure λ_ g=>g
def FX{rec:Nat->cR->M Unit}(e:∀x:Nat×Nat×O,0<x.2.2.size->Fp (rec 6 (pA x))){k:Nat}:∀j:List (Nat×Nat×O),(∀x∈j,0<x.2.2.size)->Tr (FI ⟨U,H,Q,(m,k,false)⟩ []) (qD rec j) (λ_=>FI ⟨U,H,Q,(m,k,false)⟩ [])
 |[],_=>Tr.pure λ_ g=>g
 |x::r,h=>Tr.bind (adi (e x (h x (Oo ..)))) λ_=>FX e r λy p=>h y (io _ p)
def F7:∀e:List (Nat×Nat×O),(∀x∈e,0<x.2.2.size)->Fp (qF e)
 |[],_=>Fp.pure _
 |x::r,h=>Fp.bind (rC _ (h x (Oo ..))) λ_=>F7 r λy j=>h y (io _ j)
theorem Jg(h:GI false σ)(k:σ.mode=8){eC rec:Nat->cR->M Unit}(p:∀x:Nat×Nat×O,0<x.2.2.size->Fp (eC 6 (pA x)))(I:∀m σ',(m=7\/m=11\/m=12)->GI false σ'->σ'.mode=m->gN (λ_=>GI false) (rec m t σ')):gN (λ_=>GI false) (gI eC rec t σ):=by
 have⟨U,H,Q,h1,h2,h3⟩:=h;have hk:=h2.k8 k;have e:EM σ.mode σ.kept=σ.kept:=by unfold EM;rw[k];rfl
 have z:EM σ.kept σ.kept=σ.kept:=by unfold EM;split<;>rfl
 have u:Tr (λs=>s=σ) (kh eC) (λ_=>FI ⟨U,H,Q,(σ.mode,σ.kept,false)⟩ []):=λs j=>by
  subst j;unfold kh;split;exact FX p _ h1.wt s h1;exact F7 _ h1.wt _ _ s h1
 have y:Tr (FI ⟨U,H,Q,(σ.mode,σ.kept,false)⟩ []) (rO λσ=>{σ with waiting:=[],mode:=σ.kept}) (λ_ s=>GI false s/\s.mode=σ.kept):=λs j=>by
  have⟨m1,m2,m3⟩:=j.md;dsimp only at m1 m2 m3;refine⟨GI.set j rfl rfl rfl rfl rfl (λ_ g=>by cases g) m3 ?_ ?_,m2⟩
  .show GO s.kept s.kept Q _;rw[m2];have q:=h2.ok;rw[e,cZ (by omega)]at q;refine⟨?_,λg=>by omega,λg=>by omega,λ_=>h2.cg (by omega),λg=>by omega⟩;constructor<;>grind[OkM.hi,OkM.mw]
  grind
 exact Tr.bind (S:=λ_=>GI false) u (λ_=>Tr.bind y λ_=>Tr.bind (R:=λ_=>GI false) (λs ⟨E,F⟩=>by grind[gh]) λ_=>Tr.pure λ_ g=>g) σ rfl
theorem Eu(h:GI false σ)(F:σ.mode=10):gN (λ_=>GI false) (gE σ):=by
 have⟨U,H,Q,h1,h2,h3⟩:=h;have⟨Q1,q1,q2,i,q3,q4⟩:=h2.ch F;unfold gE;split;have T:FI ⟨U,H,Q1,(σ.mode,σ.kept,false)⟩ [] σ.pop:=FI.afe (p:=⟨U,H,Q1,(σ.mode,σ.kept,false)⟩) (s:=Lo) (j:=i) (o:=σ.cC.dropLast) (by
  have:[Lo].filter ji=[Lo]:=by decide+kernel
  grind) (Wo q3) q4
 have e:EM σ.mode σ.kept=10:=by unfold EM;rw[F];rfl
 have I:=h2.ok;rw[e]at I h3;have hB:GB false U H Q (σ.kept) (σ.mode) σ->True:=λ_=>trivial;have⟨Q',e1,e2⟩:=I.hi (by decide);have E:IV none Q:=h1.chQ;have q:lq Q1=aV/\∃k,Q1=aG::aZ::k/\∀y∈k,cX y≠6:=by
  have u:∃k,Q1=aG::aZ::k/\∀y∈k,cX y≠6:=by
   rw[q1]at e1;cases Q1 with
   |nil=>grind
   |cons a Q1=>
    rw[oW]at e1;injection e1 with ga e1;cases Q1 with
    |nil=>injection e1 with g _;exact absurd g (by simp[Lo])
    |cons b Q1=>
     grind
  refine⟨?_,u⟩;have⟨k,e3,_⟩:=u;rw[q1,qZ]at E;have⟨a,ga,_⟩:=vn (l:=Q1) (by grind);have:=E.2.1;rw[ga]at this;have z:wB a Lo=true:=this.1;rw[PR (x:=Lo) (by simp[Lo])]at z;unfold lq;rw[ga];exact List.mem_singleton.1 (fW.1 z)
 have P:GB false U H Q1 σ.kept σ.mode σ.pop:=⟨T,q.2,q2,h3.hi6 (by decide) (by decide)⟩;show GI false {σ.pop with mode:=7};refine(P.mode 7).gi ⟨by decide,by decide,by decide⟩ λ_ _=>?_;rw[q.1];decide+kernel;grind[gN,GI]
theorem ON(h:GI f σ)(j:σ.mode=16\/σ.mode=17){rec:Nat->cR->M Unit}(k:∀σ',GI f σ'->σ'.mode=6->gN (λ_=>GI f) (rec 6 t σ')):gN (λ_=>GI f) (oz rec t σ):=by
 have⟨U,H,Q,h1,h2⟩:=h.gb ⟨by omega,by omega,by omega⟩;have g:=(h1.mode 6).gi ⟨by decide,by decide,by decide⟩ λ_ _=>by grind
 exact Tr.bind (R:=λ_ s=>s={σ with mode:=6}) (λs e=>by subst e;rfl) (λ_=>Tr.bind (λs e=>by grind[gh]) λ_=>Tr.pure λ_ g=>g) σ rfl
theorem acV(h:GI f σ)(e:σ.mode=16):gN (λ_=>GI f) (zn σ):=by
 have⟨U,H,Q,h1,h2⟩:=h.gb ⟨by omega,by omega,by omega⟩;exact(h1.mode 17).gi ⟨by decide,by decide,by decide⟩ λ_ _=>by grind
def N0(m k:Nat)(f:Bool)(σ:N):Prop:=FI ⟨none,λ_=>[],[],(m,k,f)⟩ [] σ/\σ.cC=[]
theorem XG{k:Nat}(h:m≠5/\m≠8):EM m k=m:=by grind[EM]
theorem GI.n0(h:GI f σ)(j:σ.mode<=1):N0 σ.mode σ.kept f σ:=by
 have⟨U,H,Q,h1,h2,h3⟩:=h;have e:EM _ σ.kept=σ.mode:=XG (by omega);rw[e]at h3;have⟨g1,g2⟩:=h3.lo j;have k:=h2.ok.lo (by omega);have hq:=h1.q;unfold N.ns at hq;obtain rfl:=funext g2;grind[N0]
theorem N0.gi{k j:Nat}(h:N0 m k f σ)(p:j<=1):GI f {σ with mode:=j}:=by
 have e:EM j σ.kept=j:=XG (by omega);refine GI.set h.1 rfl rfl rfl rfl rfl h.1.wt h.1.md.2.2 ⟨?_,λg=>?_,λg=>?_,by grind,λg=>?_⟩ ?_
 .rw[h.2];constructor<;>grind
 grind;grind;grind;constructor<;>grind
theorem RK{R:N->Prop}:Tr R vi (λj σ=>R σ/\j.1=0/\∀e,σ.db 0=some e->j.2=e.kids.length):=λσ h=>by
 unfold vi eE;grind[gN]
def G9(h:GI f σ)(k:σ.mode=0):gN (λ_=>GI f) (iN t σ):=by
 have j:=h.n0 (by omega);unfold iN;cases hk:t.k with
 |dK n q=>
  refine Tr.bind RK (λp=>Tr.bind (R:=λ_=>N0 σ.mode σ.kept f) (λs e=>?_) λ_=>(λs e=>?_)) σ j;have g:=e.1.1.ti.add (n:=.dt n) (λ_ h=>by cases h) (λ_ h=>by cases h);exact(YI (.inr ⟨⟨_,rfl⟩,e.2.1⟩) (e.1.1.nodes g Nx.add rfl rfl rfl rfl rfl rfl rfl rfl) (λ_ _ g=>absurd e.2.1 g)).mono λ_ u g=>⟨g.1,g.2.trans e.1.2⟩;exact N0.gi ⟨e.1.jo rfl rfl rfl rfl rfl (λ_ g=>g) e.1.form rfl e.1.wt e.1.mo,e.2⟩ (by decide)
 |_=>exact j.gi (by decide)
theorem y8(h:GI f σ)(k:σ.mode=0){rec:Nat->cR->M Unit}(p:∀σ',GI f σ'->σ'.mode=1->gN (λ_=>GI f) (rec 1 t σ')):gN (λ_=>GI f) (fV rec t σ):=by
 have j:=h.n0 (by omega);have g:GI f {σ with fJ:=true,mode:=1}:=N0.gi (σ:={σ with fJ:=true}) ⟨j.1.jo rfl rfl rfl rfl rfl (λ_ g=>g) j.1.form rfl j.1.wt j.1.mo,j.2⟩ (by decide);exact Tr.bind (λs e=>by grind[gh]) (λ_=>Tr.pure λ_ g=>g) _ rfl
theorem GI.low{j k:Nat}(h:FI ⟨U,H,Q,(j,k,f)⟩ [] σ)(m:Nat)(q:m=2\/m=3\/m=4)(hq:Q=if m=3 then [aG,bZ]else [aG])(p:σ.cC.length=if m=3 then 2 else 1)(u:PH m U H):GI f {σ with mode:=m}:=by
 have e:EM m σ.kept=m:=XG (by omega);refine GI.set h rfl rfl rfl rfl rfl h.wt h.md.2.2 ⟨?_,λg=>?_,λg=>?_,λ_=>?_,λg=>?_⟩ ?_
 .constructor<;>grind
 all_goals grind[Lo]
theorem GI.adW(h:GI f σ)(j:2<=σ.mode/\σ.mode<=4):∃U H Q,FI ⟨U,H,Q,(σ.mode,σ.kept,f)⟩ [] σ/\OkM σ.mode Q σ.cC.length/\PH σ.mode U H:=by
 have⟨U,H,Q,h1,h2,h3⟩:=h;have e:EM σ.mode σ.kept=σ.mode:=XG (by omega);have k:=h2.ok;grind
def ad4{p:Pm}(h:FI p X σ){own:Bool}(q:name≠qR)(k:name≠aG)(u:oy cU):gN (λj σ'=>Nq p X name j σ'/\σ'.cC=σ.cC) (mL name own cU σ):=by
 unfold mL;split;split;have⟨g1,g2⟩:=h.U4 (e:=⟨name,cU,none,[]⟩) rfl u q k;exact⟨⟨g1.zd,h.fresh,h.pos,_,g2,rfl⟩,rfl⟩;trivial;have⟨g1,g2⟩:=h.U4 (e:=⟨name,[],none,[]⟩) rfl oy.nil q k;exact⟨⟨g1,h.fresh,h.pos,_,g2,rfl⟩,rfl⟩
theorem FI.one{p:Pm}(h:FI p [] σ)(hq:p.Q=[aG])(k:σ.cC.length=1):∃i,σ.cC=[some i]/\σ.nm i=aG/\p.U=some i:=by
 have⟨x,hx⟩:=List.length_eq_one_iff.1 k;obtain⟨i,rfl,u,j⟩:=h.op x (by grind);have e:=h.q;unfold N.ns at e;rw[hx,hq]at e;have e:[σ.nm i].filter ji=[(aG)]:=e;have q:=by
  have:(aG)∈[σ.nm i].filter ji:=by rw[e];simp
  exact(List.mem_singleton.1 (List.mem_filter.1 this).1).symm
 have⟨ei,hi⟩:=Option.isSome_iff_exists.1 j;exact⟨i,hx,q,h.ti.uh i ei hi (by grind[N.rH])⟩
def adS(h:σ.cC=[some i]):σ.last=some i:=by unfold N.last;rw[h];rfl
theorem alG{k:Nat}{j:Nat}(e:Nq ⟨U,H,[aG],(m,k,false)⟩ [] s j σ)(p:σ.cC.length=1)(hk:wB aG s=true)(q:Cj s=true)(hq:ji s=true)(u:gL s=false):∃i,U=some i/\gN (λ_ σ'=>FI ⟨U,yT H i s,[aG,s],(m,k,false)⟩ [] σ'/\σ'.cC.length=2) (fP j σ):=by
 have⟨i,e1,e2,e3⟩:=e.1.one rfl p;refine⟨i,e3,(Nu e (adS e1) e.1.md.2.2 (by grind)).mono λ_ σ' g=>⟨?_,by grind⟩⟩;grind
theorem J9(h:GI false σ)(q:σ.mode=2){own:Bool}(u:oy cU):gN (λ_ σ'=>GI false σ'/\σ'.mode=3) (nW own cU σ):=by
 have⟨U,H,Q,h1,h2,h3⟩:=h.adW (by omega);obtain⟨rfl,hl⟩:=h2.h2 (.inl q);rw[q]at h3;have⟨i,g1,g2,g3,g4,g5⟩:=h3.hi (by decide);have F:∀j,Tr (λs=>Nq ⟨U,H,[aG],(σ.mode,σ.kept,false)⟩ [] bZ j s/\s.cC.length=1) (rO λσ=>{σ with head:=some j}) (λ_ s=>Nq ⟨U,H,[aG],(σ.mode,σ.kept,false)⟩ [] bZ j s/\s.cC.length=1):=λj s ⟨⟨k,p,y,z⟩,E⟩=>⟨⟨k.lists rfl rfl rfl k.ch k.q k.op k.nd k.act k.form (λi hi=>by grind[HdO]) k.wt k.mo,p,y,z⟩,E⟩;have I:∀j,Tr (λs=>Nq ⟨U,H,[aG],(σ.mode,σ.kept,false)⟩ [] bZ j s/\s.cC.length=1) (fP j) (λ_ s=>FI ⟨U,yT H i bZ,[aG,bZ],(σ.mode,σ.kept,false)⟩ [] s/\s.cC.length=2):=λj s ⟨k,p⟩=>by
  have⟨i',e,g⟩:=alG k p (by decide+kernel) (by decide+kernel) (by decide+kernel) (by decide+kernel);grind
 have T:Tr (λs=>FI ⟨U,yT H i bZ,[aG,bZ],(σ.mode,σ.kept,false)⟩ [] s/\s.cC.length=2) (fq 3) (λ_ s=>GI false s/\s.mode=3):=λs ⟨k,p⟩=>by
  refine⟨GI.low k 3 (.inr (.inl rfl)) rfl p ⟨λg=>by omega,λ_=>⟨i,g1,g2,?_,?_,λx x0 xi=>?_⟩⟩,rfl⟩;grind[yT];rw[Cq,g4];decide+kernel;grind[yT]
 exact Tr.bind (P:=λs=>s=σ) (λs e=>by subst e;exact(ad4 h1 (by simp) (by simp) u).mono λ_ _ g=>⟨g.1,by grind⟩) (λj=>Tr.bind (F j) λ_=>Tr.bind (I j) λ_=>Tr.bind T λ_=>Tr.pure λ_ g=>g) σ rfl
def h0H:Nat->List O:=yT (λ_=>[]) 0 aG
theorem N0.alF{k:Nat}(h:N0 m k f σ)(u:oy cU):FI ⟨some σ.nodes.length,λ_=>[],[],(m,k,f)⟩ [] (σ.add (.el ⟨aG,cU,none,[]⟩)):=by
 exact h.1.tree (({h.1.ti with uh:=λi e j p=>by have:=h.1.ti.uh i e j p;grind}).aln (λq g=>by grind) (λ_ g=>by cases g)) Nx.add rfl rfl rfl rfl rfl rfl rfl rfl rfl rfl
def Eh(H:Nat->List O)(m k:Nat)(f:Bool)(j:Nat)(σ:N):Prop:=FI ⟨some j,H,[],(m,k,f)⟩ [] σ/\σ.cC=[]/\j≠0/\dW σ j aG
theorem J7(h:GI f σ)(hm:σ.mode=1){own:Bool}(ha:oy cU):gN (λ_ σ'=>GI f σ'/\σ'.mode=2) (nU own cU σ):=by
 have q:=h.n0 (by omega);have s1:Tr (λs=>s=σ) (mL aG own cU) (Eh (λ_=>[]) σ.mode σ.kept f):=λs e=>by
  subst e;unfold mL;split;split;exact⟨(q.alF ha).zd,q.2,q.1.pos,_,by show(s.add _).db _=_;rw[N.pc],rfl⟩;trivial;exact⟨q.alF oy.nil,q.2,q.1.pos,_,by rw[N.pc],rfl⟩
 have s2:∀(j:Nat)(p:Nat×Nat),Tr (λs=>Eh (λ_=>[]) σ.mode σ.kept f j s/\p.1=0/\∀e,s.db 0=some e->p.2=e.kids.length) (fY p j) (λ_=>Eh h0H σ.mode σ.kept f j):=λj p s ⟨⟨k,z,u,T,y,F⟩,I,P⟩=>by
  have⟨a,b⟩:=p;dsimp only at I P;subst I;unfold fY;have⟨ei,hei⟩:=Option.isSome_iff_exists.1 k.ti.rU;rw[hei,y];dsimp only;split;rename_i E;rw[P ei hei]at E|-;have n:=zO (n:=ei.kids.length) hei y E.1;have⟨ej',g1,g2⟩:=n j T y;refine⟨k.tree (k.ti.put (H':=h0H) (n:=ei.kids.length) hei y E.1 (by grind) ?_ (λ_ hx=>Hn hx)) n rfl rfl rfl rfl rfl rfl rfl rfl rfl rfl,z,u,ej',g1,g2.trans F⟩;have e0:=k.ti.hb 0 ei hei;show _=yT (λ_=>[]) 0 aG 0;grind[H8,Cq,Su,N.rH];trivial
 have s3:∀j,Tr (Eh h0H σ.mode σ.kept f j) (kA (some j)) (λ_ s=>FI ⟨some j,h0H,[aG],(σ.mode,σ.kept,f)⟩ [] s/\s.cC.length=1/\j≠0):=λj s ⟨k,z,u,e,y,F⟩=>by
  unfold kA;split;trivial;split;have g:=k.push y u (by unfold N.ns;rw[z];exact F) (by grind);grind[NU,gN];trivial
 have s4:∀j,Tr (λs=>FI ⟨some j,h0H,[aG],(σ.mode,σ.kept,f)⟩ [] s/\s.cC.length=1/\j≠0) (fq 2) (λ_ s=>GI f s/\s.mode=2):=λj s ⟨k,z,u⟩=>
  ⟨GI.low k 2 (.inl rfl) rfl z ⟨λg=>by omega,λ_=>⟨j,rfl,u,by unfold h0H;rw[Cq];decide+kernel,Hn u,λx x0 _=>Hn x0⟩⟩,rfl⟩
 exact Tr.bind s1 (λj=>Tr.bind RK λp=>Tr.bind (s2 j p) λ_=>Tr.bind (s3 j) λ_=>Tr.bind (s4 j) λ_=>Tr.pure λ_ g=>g) σ rfl
theorem FI.two{p:Pm}(h:FI p [] σ)(hq:p.Q=[aG,bZ])(q:σ.cC.length=2):∃i j,σ.cC=[some i,some j]/\σ.nm i=aG/\σ.nm j=bZ:=by
 obtain⟨x,y,k⟩:∃x y,σ.cC=[x,y]:=by
  cases ho:σ.cC with
  |nil=>grind
  |cons x l=>
   cases l<;>grind
 obtain⟨i,rfl,_,_⟩:=h.op x (by grind);obtain⟨j,rfl,_,_⟩:=h.op y (by grind);have e:=h.q;unfold N.ns at e;rw[k,hq]at e;have e:[σ.nm i,σ.nm j].filter ji=[(aG),(bZ)]:=e;grind
theorem PH.h34(h:PH 3 U H):PH 4 U H:=⟨by grind,λ_=>h.hi (by decide)⟩
theorem M5(h:GI f σ)(e:σ.mode=3):gN (λ_ σ'=>GI f σ'/\σ'.mode=4) (uj σ):=by
 have⟨U,H,Q,h1,h2,h3⟩:=h.adW (by omega);obtain⟨rfl,k⟩:=h2.h3 e;rw[e]at h3;have⟨i,j,e1,e2,e3⟩:=h1.two rfl k;exact⟨GI.low (FI.afe (o:=[some i]) (by rw[show[(bZ)].filter ji=[(bZ)] by decide+kernel];exact h1) e1 e3) 4 (.inr (.inr rfl)) rfl (by grind[N.pop]) h3.h34,rfl⟩
theorem ae8{a0:M Nat}(u:ab0 a0 aZ)(T:∀σ j σ',a0 σ=.ok j σ'->σ'.cC=σ.cC)(h:GI false σ)(k:σ.mode=4):gN (λ_ σ'=>GI false {σ' with mode:=6}) ((a0>>=λj=>fP j>>=λ_=>(Pure.pure ():M Unit)) σ):=by
 have⟨U,H,Q,h1,h2,h3⟩:=h.adW (by omega);obtain⟨rfl,P⟩:=h2.h2 (.inr k);rw[k]at h3;have⟨i,g1,g2,g3,g4,g5⟩:=h3.hi (by decide);have F:Tr (λs=>s=σ) a0 (λj s=>Nq ⟨U,H,[aG],(σ.mode,σ.kept,false)⟩ [] aZ j s/\s.cC.length=1):=λs e=>by
  subst e;have:=u _ _ s h1;cases hr:a0 s with
  |ok j p=>grind[gN]
  |_=>trivial
 have I:∀j,Tr (λs=>Nq ⟨U,H,[aG],(σ.mode,σ.kept,false)⟩ [] aZ j s/\s.cC.length=1) (fP j) (λ_ s=>GI false {s with mode:=6}):=λj s ⟨z,E⟩=>by
  have⟨i',e,g⟩:=alG z E (by decide+kernel) (by decide+kernel) (by decide+kernel) (by decide+kernel);rw[g1]at e;cases e;refine g.mono λ_ p q=>?_;have y:GB false U (yT H i aZ) [aG,aZ] σ.kept σ.mode p:=⟨q.1,⟨[],rfl,λ_ g=>by cases g⟩,j9.1 (by decide+kernel),⟨λg=>by omega,λ_=>⟨i,g1,g2,by grind[yT],by rw[Cq,g4];decide+kernel,λx x0 xi=>by grind[yT]⟩⟩⟩;exact(y.mode 6).gi ⟨by decide,by decide,by decide⟩ λ_ _=>by decide+kernel
 exact Tr.bind F (λj=>Tr.bind (I j) λ_=>Tr.pure λ_ g=>g) σ rfl
theorem TZ(h:GI false σ)(p:σ.mode=4)(ht:TA t)(q:t.name=aZ):gN (λ_=>GI false) (oe t σ):=by
 refine Tr.bind (λs e=>?_) (λ_=>Tr.bind (λs g=>g) λ_=>Tr.pure λ_ g=>g) σ rfl;subst e;refine ae8 (q▸DD ht (by grind)) (λσ j σ' k=>?_) h p;unfold fG at k;split at k;cases k;rfl;grind
theorem LY(h:GI false σ)(p:σ.mode=4){rec:Nat->cR->M Unit}(k:∀σ',GI false σ'->σ'.mode=6->gN (λ_=>GI false) (rec 6 t σ')):gN (λ_=>GI false) (kN rec t σ):=by
 refine Tr.bind (λs e=>?_) (λ_=>Tr.bind (R:=λ_ s=>GI false s/\s.mode=6) (m:=fq 6) (λs g=>⟨g,rfl⟩) λ_=>Tr.bind (λs g=>by grind[gh]) λ_=>Tr.pure λ_ g=>g) σ rfl;subst e;exact ae8 (NH (by simp) (by simp)) (λσ j σ' k=>by cases k;rfl) h p
theorem Tr.and{α:Type}{P e:N->Prop}{m:M α}{R j:α->N->Prop}(h:Tr P m R)(p:Tr e m j):Tr (λσ=>P σ/\e σ) m (λa σ=>R a σ/\j a σ):=λσ ⟨g,k⟩=>by
 have q:=h σ g;have u:=p σ k;cases hr:m σ with
 |ok a s=>grind[gN]
 |_=>trivial
theorem Pu{x:eG}:Tr (λσ=>σ.head=x) (dZ t) (λ_ σ=>σ.head=x):=by
 have k:Tr (λσ=>σ.head=x) (fG t) (λ_ σ=>σ.head=x):=λσ h=>by
  unfold fG;split;exact h;trivial
 have p:Tr (λσ=>σ.head=x) gp (λ_ σ=>σ.head=x):=λσ h=>by
  cases hr:gp σ with
  |ok a s=>obtain rfl:=qI hr;exact h
  |_=>trivial
 have q:∀e j,Tr (λσ=>σ.head=x) (fY e j) (λ_ σ=>σ.head=x):=λe j σ h=>by
  unfold fY;split;split;exact h;trivial;trivial
 have u:∀y,Tr (λσ=>σ.head=x) (kA y) (λ_ σ=>σ.head=x):=λy σ h=>by
  grind[kA,gN]
 exact Tr.bind k λj=>Tr.bind (R:=λ_ σ=>σ.head=x) (Tr.bind p λe=>Tr.bind (q e j) λ_=>Tr.bind (u _) λ_=>Tr.pure λ_ g=>g) λ_=>Tr.pure λ_ g=>g
structure Bh0(m k:Nat)(U:eG)(H:Nat->List O)(i j:Nat)(o:gZ)(σ:N):Prop where
 fi:FI ⟨U,H,[aG,bZ],(m,k,false)⟩ [] σ
 op:σ.cC=some i::some j::o
 hd:σ.head=some j
 nm:σ.nm i=aG
 ph:PH 4 U H
def Bh(σ:N):Prop:=∃k U H i j,Bh0 4 k U H i j [] σ
def Bh5(σ:N):Prop:=∃U H i j x,Bh0 5 4 U H i j [some x] σ/\yD σ x
theorem Bh0.erase{k:Nat}{j:Nat}(h:Bh0 m k U H i j o σ)(y:∀x∈o,ji (σ.jg x)=false)(q:IV (some aG) (o.map σ.jg)):FI ⟨U,H,[aG],(m,k,false)⟩ [] {σ with cC:=σ.cC.erase (some j)}/\σ.cC.erase (some j)=some i::o:=by
 have u:=h.fi.nd;rw[h.op]at u;have e:σ.cC.erase (some j)=some i::o:=by
  rw[h.op,yz (by grind),XC]
 rw[e];have p:({σ with cC:=some i::o}).ns=(aG)::o.map σ.jg:=by rw[<-h.nm];rfl
 refine⟨h.fi.lists rfl rfl rfl (by rw[p];exact⟨rfl,q⟩) ?_ (λx z=>h.fi.op x ?_) ?_ h.fi.act h.fi.form h.fi.head h.fi.wt h.fi.mo,rfl⟩
 all_goals grind[NU,Yc]
theorem N.aiK(h:σ.mode=m):({σ with mode:=m}:N)=σ:=by cases σ;grind
theorem Bh.gi(h:Bh σ):gN (λ_=>GI false) (iW σ):=by
 have⟨k,U,H,i,j,h⟩:=h;unfold iW;rw[h.hd];unfold fB;split;have⟨g,e⟩:=h.erase (λ_ g=>by cases g) trivial;have:=GI.low g 4 (.inr (.inr rfl)) rfl (by grind) h.ph
 rwa [N.aiK g.md.1]at this
 trivial
theorem Bh5.gi(h:Bh5 σ):gN (λ_=>GI false) (iW σ):=by
 have⟨U,H,i,j,x,h,hx⟩:=h;unfold iW;rw[h.hd];unfold fB;split
 .have⟨g,e⟩:=h.erase (λy g=>by cases List.mem_singleton.1 g;exact hx.nm) ⟨⟨DF hx.nm _,Ww hx.nm⟩,trivial⟩;have⟨m1,m2,m3⟩:=g.md;dsimp only at m1 m2 m3;refine GI.set g rfl rfl rfl rfl rfl g.wt m3 ?_ ?_
  .rw[m1,m2];refine⟨?_,λ_=>⟨by decide,x,?_,hx.nm⟩,by grind,λ_=>j9.1 (by decide+kernel),by grind⟩
   .show OkM 4 _ _;constructor<;>grind
   rw[e];rfl
  rw[m1,m2];exact h.ph
 trivial
theorem OP(h:GI false σ)(k:σ.mode=4){rec:Nat->cR->M Unit}(q:∀σ',Bh σ'->gN (λ_ s=>Bh s\/Bh5 s) (rec 3 t σ')):gN (λ_=>GI false) (nA rec t σ):=by
 have⟨U,H,Q,h1,h2,h3⟩:=h.adW (by omega);obtain⟨rfl,p⟩:=h2.h2 (.inr k);rw[k]at h3;have u:Tr (λs=>s=σ) pushHead (λ_=>Bh):=λs e=>by
  subst e;unfold pushHead;cases hd:s.head with
  |none=>
   unfold kA;split;trivial;trivial
  |some j=>
   unfold kA;split;trivial;split;have⟨j0,ej,g1,g2⟩:=h1.head j hd;have⟨i,e1,e2,e3⟩:=h1.one rfl p;have g:=h1.push g1 j0 (by unfold N.ns;rw[e1,g2];show wB (s.nm i) _=true/\_;rw[e2];decide+kernel) (by grind[N.rH]);rw[g2,show[bZ].filter ji=[bZ] by decide+kernel]at g;refine⟨s.kept,U,H,i,j,⟨?_,by grind,hd,e2,h3⟩⟩;grind;trivial
 exact Tr.bind (S:=λ_=>GI false) u (λ_=>Tr.bind q λ_=>Tr.bind (R:=λ_=>GI false) (λs g=>g.elim Bh.gi Bh5.gi) λ_=>Tr.pure λ_ g=>g) σ rfl
theorem akE{k:Nat}{j:Nat}(h:Bh0 4 k U H i j [] σ)(ht:TA t)(hq:ji t.name=false):gN (λ_ s=>∃x,Bh0 4 k U H i j [some x] s/\yD s x/\Bh s.pop) (dZ t σ):=by
 refine((Dm ht hq).and (Pu) σ ⟨⟨h.fi,h.op⟩,h.hd⟩).mono λ_ s ⟨⟨p,x,e,q⟩,u⟩=>?_;have z:s.pop.cC=[some i,some j]:=by show s.cC.dropLast=_;rw[e];rfl
 have y:=p.aaS (by unfold N.last;rw[e];exact qp _ _) q.nm;have⟨i',j',e1,e2,e3⟩:=y.two rfl (by grind);rw[z]at e1;cases e1;exact⟨x,⟨p,e,u,e2,h.ph⟩,q,k,U,H,i,j,⟨y,z,u,e2,h.ph⟩⟩
theorem Mc(h:Bh σ)(ht:TA t)(hq:q0 t.name=false):gN (λ_ s=>Bh s\/Bh5 s) (gM t σ):=by
 have⟨k,U,H,i,j,h⟩:=h;exact Tr.bind (P:=λs=>s=σ) (λs e=>by
  subst e;refine(xZ ht hq s ⟨h.fi,h.op,h.hd⟩).mono λ_ y ⟨p,q,u⟩=>?_;have⟨i',j',e1,e2,e3⟩:=p.two rfl (by grind);rw[q]at e1;cases e1;exact⟨k,U,H,i,j,⟨p,q,u,e2,h.ph⟩⟩) (λ_=>Tr.bind (λs g=>g) λ_=>Tr.pure λ_ g=> .inl g) σ rfl
theorem Gm(h:Bh σ)(ht:TA t)(hq:ji t.name=false)(b:Bool):gN (λ_ s=>Bh s\/Bh5 s) (jV t b σ):=by
 have⟨k,U,H,i,j,h⟩:=h;have u:Tr (λs=>∃x,Bh0 4 k U H i j [some x] s/\yD s x/\Bh s.pop) (Aj t.name b>>=λ_=>(rO λσ=>{σ with kept:=σ.mode})>>=λ_=>fq 5>>=λ_=>(Pure.pure ())) (λ_ s=>Bh s\/Bh5 s):=λs ⟨x,p,q,_⟩=>by
  exact .inr ⟨U,H,i,j,x,⟨p.fi.jo rfl rfl rfl rfl rfl (λ_ g=>g) p.fi.form rfl p.fi.wt (by show(5,s.mode,s.dv)=(5,4,false);rw[p.fi.md.1,p.fi.md.2.2]),p.op,p.hd,p.nm,p.ph⟩,q⟩
 exact Tr.bind (λs e=>by grind[akE]) (λ_=>u) σ rfl
theorem again{α:Type}{m:M α}(h:gN (λ_ s=>GI f s/\s.mode=n) (m σ)){rec:Nat->cR->M Unit}(j:∀σ',GI f σ'->σ'.mode=n->gN (λ_=>GI f) (rec n t σ')):gN (λ_=>GI f) ((m>>=λ_=>gh rec t>>=λ_=>(Pure.pure ():M Unit)) σ):=
 Tr.bind (R:=λ_ s=>GI f s/\s.mode=n) (λs e=>by grind) (λ_=>Tr.bind (λs g=>by grind[gh]) λ_=>Tr.pure λ_ g=>g) σ rfl
theorem once{α:Type}{m:M α}(h:gN (λ_ s=>GI f s/\s.mode=n) (m σ)):gN (λ_=>GI f) ((m>>=λ_=>(Pure.pure ():M Unit)) σ):=
 Tr.bind (R:=λ_ s=>GI f s/\s.mode=n) (S:=λ_=>GI f) (λs e=>by grind) (λ_=>Tr.pure λ_ g=>g.1) σ rfl
section
variable {rec:Nat->cR->M Unit}{t:cR}{f:Bool}{σ:N}
def T7(h:GI f σ)(e:σ.mode=1)(ht:TA t):gN (λ_=>GI f) (qM t σ):=once (J7 h e ht.cU)
def L5(h:GI f σ)(e:σ.mode=1)(j:∀σ',GI f σ'->σ'.mode=2->gN (λ_=>GI f) (rec 2 t σ')):gN (λ_=>GI f) (lL rec t σ):=again (J7 h e oy.nil) j
def T9(h:GI false σ)(e:σ.mode=2)(ht:TA t):gN (λ_=>GI false) (qN t σ):=once (J9 h e ht.cU)
def L7(h:GI false σ)(e:σ.mode=2)(j:∀σ',GI false σ'->σ'.mode=3->gN (λ_=>GI false) (rec 3 t σ')):gN (λ_=>GI false) (lM rec t σ):=again (J9 h e oy.nil) j
def Bx(h:GI f σ)(e:σ.mode=3)(j:∀σ',GI f σ'->σ'.mode=4->gN (λ_=>GI f) (rec 4 t σ')):gN (λ_=>GI f) (iw rec t σ):=again (M5 h e) j
def ZW(h:GI f σ)(e:σ.mode=5)(j:∀σ',GI f σ'->σ'.mode=σ.kept->gN (λ_=>GI f) (rec σ.kept t σ')):gN (λ_=>GI f) (vW rec t σ):=again (M7 h e) j
theorem zR(h:GI f σ)(j:3<=σ.mode/\σ.mode≠5/\σ.mode≠8/\σ.mode≠10)(ht:TA t)(hq:ji t.name=false):gN (λ_=>GI f) (og t σ):=Tr.bind (λs e=>by grind[Kd]) (λ_=>Tr.pure λ_ g=>g) σ rfl
theorem xq(h:GI f σ)(j:3<=σ.mode/\σ.mode≠5/\σ.mode≠8/\σ.mode≠10)(ht:TA t)(hq:ji t.name=false):gN (λ_=>GI f) (jr t σ):=Tr.bind (λs e=>by grind[Kd]) (λ_=>Tr.pure λ_ g=>g) σ rfl
theorem GI.behind{b:Bool}(h:GI f σ):GI f {σ with behind:=b}:=by
 have⟨U,H,Q,e,h2,h3⟩:=h;exact GI.set e rfl rfl rfl rfl rfl e.wt e.md.2.2 ⟨h2.ok,h2.k5,h2.k8,h2.cg,h2.ch⟩ h3
theorem Hd(h:GI f σ)(j:3<=σ.mode/\σ.mode≠5/\σ.mode≠8/\σ.mode≠10)(ht:TA t)(hq:ji t.name=false):gN (λ_=>GI f) (kT t σ):=Tr.bind (S:=λ_=>GI f) (λs e=>by grind[zR]) (λ_=>Tr.bind (R:=λ_=>GI f) (m:=rO _) (λs g=>GI.behind g) λ_=>Tr.pure λ_ g=>g) σ rfl
theorem Qk(h:Bh σ)(ht:TA t)(hq:ji t.name=false):gN (λ_ s=>Bh s\/Bh5 s) (og t σ):=Tr.bind (λs e=>by grind[Gm]) (λ_=>Tr.pure λ_ g=>g) σ rfl
theorem DT(h:Bh σ)(ht:TA t)(hq:ji t.name=false):gN (λ_ s=>Bh s\/Bh5 s) (jr t σ):=Tr.bind (λs e=>by grind[Gm]) (λ_=>Tr.pure λ_ g=>g) σ rfl
theorem AL(h:GI false σ)(j:fE σ.mode)(ht:TA t)(hq:q0 t.name=false)(k:∀σ',GI true σ'->σ'.mode=σ.mode->σ'.kept=σ.kept->gN (λ_=>GI true) (rec 6 t σ')):gN (λ_=>GI false) (ft rec t σ):=by
 refine Jk (λ_=>(Tr.bind (λs e=>by grind[gN.mono,Fp.gi,us]) (λ_=>Tr.pure λ_ g=>g) σ rfl)) λ_=>(Tr.bind (λs e=>by grind[zw]) (λ_=>Tr.pure λ_ g=>g) σ rfl)
end
def OsK(e σ:N):Prop:=σ.cC=e.cC/\Nx e σ
theorem OsK.refl(σ:N):OsK σ σ:=⟨rfl,λ_ e h=>⟨e,h,rfl⟩⟩
def On{α:Type}(m:M α):Prop:=∀e,Tr (OsK e) m (λ_=>OsK e)
def On.of{α:Type}{m:M α}(h:∀σ,gN (λ_=>OsK σ) (m σ)):On m:=λ_ σ g=>(h σ).mono λ_ _ q=>⟨q.1.trans g.1,g.2.trans q.2⟩
theorem On.pure{α:Type}(a:α):On (Pure.pure a:M α):=λ_=>Tr.pure λ_ g=>g
theorem On.bind{α k:Type}{m:M α}{f:α->M k}(h:On m)(j:∀a,On (f a)):On (m>>=f):=λe=>Tr.bind (h e) λa=>j a e
theorem On.ite{α:Type}{c:Prop}[Decidable c]{a b:M α}(e:On a)(j:On b):On (if c then a else b):=by grind
theorem On.gi{α:Type}{m:M α}(j:On m)(e:Fp m)(h:GI f σ):gN (λ_ σ'=>GI f σ'/\σ'.mode=σ.mode) (m σ):=e.gio h λa σ' k=>by
 have:=j σ σ (OsK.refl σ)
 rwa [k]at this
def NQ:On gp:=On.of λσ=>by
 cases hr:gp σ with
 |ok a s=>obtain rfl:=qI hr;exact OsK.refl _
 |_=>trivial
def ac0(i:Nat):On (eE i):=On.of λσ=>by
 cases hr:eE i σ with
 |ok a s=>obtain rfl:=jC hr;exact OsK.refl _
 |_=>trivial
theorem Tu(pl:Nat×Nat)(s:O):On (mP pl s):=On.of λσ=>by
 unfold mP;split;rename_i e j;split;split;split;rename_i k ht;split;exact⟨rfl,λi a p=>⟨a,by grind[N.db,N.jN],rfl⟩⟩;trivial;trivial;refine⟨rfl,Nx.trans (b:=σ.add (.tx s)) Nx.add (Nx.set (e0:=e) ?_ rfl)⟩;grind[N.db,N.add];trivial;trivial
def AU(t:cR):On (gw t):=On.bind NQ λ_=>On.bind (Tu _ _) λ_=>On.pure _
theorem aaW(pl:Nat×Nat)(nd:zc)(k:Nat->Nd):On (lj pl nd k):=On.of λσ=>by
 unfold lj pQ;split;rename_i j e;split;exact⟨rfl,Nx.trans Nx.add (Nx.set e rfl)⟩;trivial;trivial
theorem zm{e:M (Nat×Nat)}(j:On e):On (ja e t):=by
 grind[On.bind,aaW,On.pure,ja]
theorem acF(e:Nat)(own:Bool)(t:cR):On (tf e own t):=by
 refine On.ite (zm NQ) (On.ite (zm λj σ h=>?_) (On.ite (zm (ac0 0)) λ_ _ _=>trivial));unfold mD
 all_goals grind[gN,eE]
def Jq(i:Nat):∀L,On (lK i L)
 |[]=>On.pure _
 |a::r=>On.of λσ=>by
  unfold lK;split;trivial;rename_i e j;split;exact Jq i r σ σ (OsK.refl σ);split;trivial;exact Jq i r σ _ ⟨rfl,Nx.set j rfl⟩
def So(t:cR):On (jm t):=On.of λσ=>by
 unfold jm;split;rename_i i _;refine On.bind (On.of λs=>?_) (λ_=>On.pure _) σ σ (OsK.refl σ);unfold qE;split;exact Jq i _ s s (OsK.refl s);trivial;trivial
theorem VJ(h:GI f σ)(y:fE σ.mode)(hq:q0 t.name=true->t.name≠aG/\t.name≠aZ/\(t.name=bZ\/σ.mode=6)):gN (λ_=>GI f) (pM t σ):=by
 cases hn:ji t.name with
 |false=>grind[gN.mono,Fp.gi,VI]
 |true=>
  have⟨U,H,Q,h1,h2⟩:=h.gb y;have⟨Q',e1,e2⟩:=h1.hi;have u:t.name∉Q:=by
   intro j;have I:=Vj h1.fi.ch t.name (List.mem_filter.1 (by rw[h1.fi.q];exact j)).1;have p:q0 t.name=true:=by
    cases g:q0 t.name with
    |true=>rfl
    |false=>grind[al2]
   have⟨n1,n2,n3⟩:=hq p;rw[e1]at j;rcases List.mem_cons.1 j with g|j;grind;rcases List.mem_cons.1 j with g|j;grind;rcases n3 with g|g;exact e2 _ j (by rw[g];decide+kernel);have q:=h2 (by omega) (by omega);rw[cZ (by omega),g,e1]at q;have k:Q'≠[]:=λe=>by grind
   have⟨Q1,e3⟩:=Ox k;grind[DA]
  have z:σ.inScope (da [t.name]) iG=false:=by
   cases hi:σ.inScope (da [t.name]) iG with
   |false=>rfl
   |true=>
    have⟨A,x,C,g1,g2,_⟩:=ux hi;have E:σ.jg x=t.name:=List.mem_singleton.1 (fW.1 g2);refine absurd ?_ u;have T:x∈σ.cC:=List.mem_reverse.1 (by grind);have F:=h1.fi.q;grind[N.ns]
  exact Tr.bind (P:=λs=>s=σ) (R:=λ_ s=>s=σ) (S:=λ_=>GI f) (m:=nT t.name) (λs e=>Tr.bind (P:=λs=>s=σ) (R:=λ_ s=>s=σ) (λs e=>by subst e;unfold iI;rw[z];rfl) (λ_=>Tr.pure λ_ g=>g) s e) (λ_=>Tr.pure λ_ g=>g▸h) σ rfl
theorem Gi:∀(R:List (List O×Ru))(k:O),(rZ (some R) k=.nil/\∀p∈R,da p.1 k=false)\/∃p∈R,da p.1 k=true/\rZ (some R) k=p.2
 |[],_=> .inl ⟨rfl,by grind⟩
 |p::R,k=>by
  cases h:da p.1 k with
  |true=>exact .inr ⟨p,Oo ..,h,by show(mf _ k).getD .nil=_;grind[mf]⟩
  |false=>
   have e:rZ (some (p::R)) k=rZ (some R) k:=by show(mf _ k).getD .nil=_;unfold mf;rw[cZ (by grind)];rfl
   rcases Gi R k with⟨j,u⟩|⟨q,j,u⟩
   all_goals grind
theorem aiJ{P:Ru->Prop}(R:List (List O×Ru))(k:O)(l:List Ru)(u:∀p∈R,da p.1 k=true->P (fh (p.2::l)))(y:(∀p∈R,da p.1 k=false)->P (fh l)):P (fh (rZ (some R) k::l)):=by
 rcases Gi R k with⟨e,g⟩|⟨p,j,q,e⟩
 all_goals grind[fh]
def hdL:List O:=[dR,fM,eX]
def prL:List O:=[cO,dz,bY,cJ,cF,cM,dq,dE,dF]
inductive Ctx(f:Bool)(σ:N)(t:cR):Nat->Prop
 |own (h:σ.mode=6\/σ.mode=16\/σ.mode=17\/f=false):Ctx f σ t σ.mode
 |body (hb:fE σ.mode) (ht:∀n,t.k=.stop n->q0 n=true->n=aG\/n=aZ\/n=bZ):Ctx f σ t 6
 |any (ht:t.k=.start aG\/t.k=.dD):Ctx f σ t 6
 |head (hb:fE σ.mode) (n:O) (hn:n∈hdL) (ht:t.k=.start n):Ctx f σ t 3
 |table (hf:f=false) (hm:σ.mode=11\/σ.mode=12) (h1:∀n,t.k=.start n->n∉prL) (h2:∀n,t.k=.stop n->q0 n=true->n=bZ):Ctx f σ t 7
 |sel (hf:f=false) (hm:σ.mode=15):Ctx f σ t 14
structure Rk(eC rec:Nat->cR->M Unit)(t:cR):Prop where
 g:∀{m f σ},Ctx f σ t m->GI f σ->gN (λ_=>GI f) (rec m t σ)
 b:∀{n},t.k=.start n->n∈hdL->∀{σ},Bh σ->gN (λ_ s=>Bh s\/Bh5 s) (rec 3 t σ)
 w:∀x:Nat×Nat×O,0<x.2.2.size->Fp (eC 6 (pA x))
section
variable {lk:Bool}{eC rec:Nat->cR->M Unit}{t:cR}{σ:N}
variable {f:Bool}
def Fp.g1{α:Type}{m:M α}(j:Fp m)(h:GI f σ)(e:fE σ.mode):gN (λ_=>GI f) (m σ):=(j.gi h e).mono λ_ _ g=>g.1
def fg{α:Type}{P:α->Prop}{a:α}{l:List α}(h:P a)(e:∀x∈l,P x):∀x∈a::l,P x:=List.forall_mem_cons.2 ⟨h,e⟩
def qX{α:Type}{P:α->Prop}:∀x∈([]:List α),P x:=λ_ h=>by cases h
theorem wy{R:List (List O×Ru)}{L:List O}{k:O}(hk:(L.all λs=>R.any λp=>da p.1 s)=true)(j:∀p∈R,da p.1 k=false):k∉L:=λe=>by
 grind
abbrev GR(lk:Bool)(eC rec:Nat->cR->M Unit)(t:cR)(σ:N)(f:Bool)(r:Ru):Prop:=gN (λ_=>GI f) (jD lk eC rec r t σ)
def me{R:List (List O×Ru)}{n:O}{l:List Ru}(e:∀p∈R,da p.1 n=true->GR lk eC rec t σ f (fh (p.2::l)))(j:(∀p∈R,da p.1 n=false)->GR lk eC rec t σ f (fh l)):GR lk eC rec t σ f (fh (rZ (some R) n::l)):=aiJ R n l e j
def NT(t:cR):Prop:=(∀n,t.k≠ .start n)/\∀n,t.k≠ .stop n
def NT.st(h:NT t){P:O->Prop}(n:O)(e:t.k=.stop n)(_:q0 n=true):P n:=absurd e (h.2 n)
theorem Rt{sp:jz}(ht:TA t)(hs:∀n,t.k=.start n->n=t.name->GR lk eC rec t σ f (fh [rZ sp.start n,sp.fX,sp.dy]))(j:∀n,t.k=.stop n->n=t.name->GR lk eC rec t σ f (fh [rZ sp.stop n,sp.ik,sp.dy]))(e:NT t->0<t.chars.size->GR lk eC rec t σ f (fh [sp.blank,sp.gz,sp.dy])/\GR lk eC rec t σ f (fh [sp.gz,sp.dy]))(q:NT t->GR lk eC rec t σ f (fh [sp.dl,sp.dy]))(p:NT t->GR lk eC rec t σ f (fh [sp.dK,sp.dy]))(u:NT t->t.k=.dD\/t.k=.lost->GR lk eC rec t σ f (fh [sp.dD,sp.dy])):GR lk eC rec t σ f (dT sp t):=by
 unfold dT;have k:(∀n,t.k≠ .start n)->(∀n,t.k≠ .stop n)->NT t:=λa b=>⟨a,b⟩;cases hk:t.k with
 |start n=>exact hs n hk (by grind[cR.name])
 |stop n=>exact j n hk (by grind[cR.name])
 |gz s=>
  have g:=e (k (by simp[hk]) (by simp[hk])) (by grind[TA.chars,cR.chars]);grind
 |dl s=>grind
 |dK a b=>grind
 |_=>grind
def Vc(k:Rk eC rec t)(ht:TA t)(h:GI f σ)(e:fE σ.mode)(hk:t.k=.start t.name):GR lk eC rec t σ f (fh [rZ (some ij) t.name,.eI 116,.nothing]):=by
 refine me ?_ λj=>?_;unfold ij;refine fg (λq=>(Mv ht (jW (by decide+kernel) _ q)).g1 h e) ?_;refine fg (λq=>(Ud ht (jW (by decide+kernel) _ q)).g1 h e) ?_;refine fg (λq=>(lQ t ht (jW (by decide+kernel) _ q)).g1 h e) ?_;refine fg (λq=>(Ub ht (jW (by decide+kernel) _ q)).g1 h e) ?_;refine fg (λq=>(Ug t ht (EY (by decide+kernel) _ q)).g1 h e) ?_;refine fg (λq=>MA h e ht (jW (by decide+kernel) _ q)) ?_;refine fg (λq=>(Mx ht (jW (by decide+kernel) _ q)).g1 h e) ?_;refine fg (λq=>Hd h (by have⟨h1,h2,h3⟩:=e;omega) ht (jW (by decide+kernel) _ q)) ?_;refine fg (λq=>Qi h e ht (List.mem_singleton.1 (fW.1 q))) ?_;refine fg (λq=>(Mt ht (jW (by decide+kernel) _ q)).g1 h e) ?_;refine fg (λq=>(Ys ht (jW (by decide+kernel) _ q) (by decide+kernel)).g1 h e) ?_;refine fg (λq=>(Ys ht (jW (by decide+kernel) _ q) (by decide+kernel)).g1 h e) ?_;refine fg (λq=>(T5 ht (jW (by decide+kernel) _ q)).g1 h e) ?_;refine fg (λq=>(abh ht (EY (by decide+kernel) _ q)).g1 h e) ?_;refine fg (λq=>(KI ht (jW (by decide+kernel) _ q)).g1 h e) ?_;refine fg (λq=>(Xk ht (jW (by decide+kernel) _ q)).g1 h e) ?_;refine fg (λq=>(yq ht (jW (by decide+kernel) _ q)).g1 h e) ?_;refine fg (λq=>h) ?_;refine fg (λq=>k.g (.head e t.name (fW.1 q) hk) h) ?_;refine fg (λq=>(VR t ht).g1 h e) ?_;refine fg (λq=>(Jo t ht).g1 h e) qX;exact(rK t ht (j9.2 (wy (by decide+kernel) j))).g1 h e
theorem ZL(p:Rk eC rec t)(h:GI f σ)(j:fE σ.mode)(u:q0 t.name=true->t.name=aG\/t.name=aZ\/t.name=bZ\/σ.mode=6):GR lk eC rec t σ f (fh [rZ (some iy) t.name,.eI 118,.nothing]):=by
 refine me ?_ λk=>?_;unfold iy;refine fg (λq=>RU.g1 h j) (fg (λq=>(GN (jW (by decide+kernel) _ q)).g1 h j) ?_);refine fg (λq=>Z7.g1 h j) (fg (λq=>VD.g1 h j) ?_);refine fg (λq=>ajI.g1 h j) ?_;refine fg (λq=>aab.g1 h j) (fg (λq=>Pa.g1 h j) ?_);refine fg (λq=>(VA (jW (by decide+kernel) _ q)).g1 h j) (fg (λq=>Z9 h j λσ' g e=>p.g (e▸ .own (.inr (.inl e))) g) ?_);refine fg (λq=>Z3 h j) qX;have hk:=wy (L:=[aG,aZ]) (by decide+kernel) k;simp at hk;exact VJ h j λq=>⟨hk.1,hk.2,by grind⟩
def acr(k:Rk eC rec t)(ht:TA t)(h:GI f σ)(j:fE σ.mode)(p:∀n,t.k=.stop n->q0 n=true->n=aG\/n=aZ\/n=bZ\/σ.mode=6):GR lk eC rec t σ f (dT iA t):=
 Rt ht (λn hk e=>by subst e;exact Vc k ht h j hk) (λn hk e=>by subst e;exact ZL k h j (p _ hk)) (λ_ g=>⟨(xP g).g1 h j,(xP g).g1 h j⟩) (λ_=>CG.g1 h j) (λ_=>h) λ_ _=>h
end
section
variable {lk:Bool}{eC rec:Nat->cR->M Unit}{t:cR}{σ:N}{f:Bool}
def pL:List O:=[aG,aZ,dq,dE,dF,cJ,cM,cF,cO,bY,dz,aV]
theorem zL{n:O}(q:q0 n=true)(h:n∉pL):n=bZ:=by
 have:=fW.1 q;grind[pL]
theorem BI{n:O}{P:O->Prop}(hk:t.k=.start n):∀j,t.k=.stop j->q0 j=true->P j:=λj e=>by grind
theorem DG{n:O}{P:O->Prop}(hk:t.k=.stop n)(h:q0 n=true->P n):∀j,t.k=.stop j->q0 j=true->P j:=λj e=>by grind
theorem zr{b:M Bool}(h:gN (λ_=>GI f) (b σ)):gN (λ_=>GI f) (zq b σ):=Tr.bind (S:=λ_=>GI f) (λs e=>by grind) (λ_=>Tr.pure λ_ g=>g) σ rfl
theorem mi(j:Rk eC rec t){b:M Bool}(h:gN (λ_=>GI false) (b σ)):gN (λ_=>GI false) (tD rec b t σ):=Tr.bind (R:=λ_=>GI false) (λs e=>by grind) (λx=>by
 cases x with
 |true=>exact Tr.bind (λs g=>j.g (.own (.inr (.inr (.inr rfl)))) g) λ_=>Tr.pure λ_ g=>g
 |false=>grind[Tr.pure]) σ rfl
theorem Sv{m:M Unit}(h:GI f σ)(e:gN (λ_=>GI f) (m σ)):gN (λ_=>GI f) (Bw m t σ):=by
 grind[gN,Bw]
def acB(j:Rk eC rec t)(ht:TA t)(h:GI false σ)(z:σ.mode=13\/σ.mode=9):(σ.mode=13->GR lk eC rec t σ false (dT Fg t))/\(σ.mode=9->GR lk eC rec t σ false (dT yp t)):=by
 have u:fE σ.mode:=⟨by omega,by omega,by omega⟩;have k:=yI h u ahu (.inr (.inr rfl));have p:=yI h u WR (.inl rfl);have e:=λq=>j.g (.body u q) h;exact⟨λ_=>Rt ht (λn hk _=>me (fg (λ_=>mi j k) qX) λ_=>e (BI hk)) (λn hk _=>me (fg (λ_=>h) (fg (λ_=>Sv h (mi j k)) (fg (λ_=>Sv h (zr k)) qX))) λy=>e (DG hk λq=> .inr (.inr (zL q (wy (by decide+kernel) y))))) (λg _=>⟨e g.st,e g.st⟩) (λg=>e g.st) (λg=>e g.st) (λg _=>e g.st),
  λ_=>Rt ht (λn hk _=>me (fg (λ_=>mi j p) qX) λ_=>e (BI hk)) (λn hk _=>me (fg (λ_=>h) (fg (λ_=>mi j p) (fg (λ_=>zr p) qX))) λy=>e (DG hk λq=> .inr (.inr (zL q (wy (by decide+kernel) y))))) (λg _=>⟨e g.st,e g.st⟩) (λg=>e g.st) (λg=>e g.st) (λg _=>e g.st)⟩
theorem BA{s:O}{n:O}(q:da [s] n=true):n=s:=List.mem_singleton.1 (fW.1 q)
theorem TT(k:Rk eC rec t)(ht:TA t)(h:GI false σ)(p:σ.mode=14\/σ.mode=15):GR lk eC rec t σ false (dT zQ t):=by
 have j:fE σ.mode:=⟨by omega,by omega,by omega⟩;refine Rt ht (λn hk e=>?_) (λn hk _=>me (fg (λ_=>zr (vX h j)) (fg (λ_=>AE.g1 h j) (fg (λ_=>yV.g1 h j) qX))) λ_=>h) (λ_ g=>⟨(zl g).g1 h j,(zl g).g1 h j⟩) (λ_=>CG.g1 h j) (λ_=>h) λ_ _=>h;subst e;exact me (fg (λq=>mi k (vX h j)) (fg (λq=>zr (vX h j)) (fg (λq=>(DR ht (EY (by decide+kernel) _ q)).g1 h j) (fg (λq=>(xn ht (jW (by decide+kernel) _ q)).g1 h j) (fg (λq=>(yZ ht (jW (by decide+kernel) _ q)).g1 h j) (fg (λq=>k.g (.any (.inl (by grind[BA]))) h) qX)))))) λ_=>h
def abb(j:Rk eC rec t)(ht:TA t)(h:GI false σ)(p:σ.mode=15):GR lk eC rec t σ false (dT qx t):=
 have k:=vX h ⟨by omega,by omega,by omega⟩;have e:=j.g (.sel rfl p) h
 Rt ht (λn hk _=>me (fg (λq=>mi j k) qX) λ_=>e) (λn hk _=>me (fg (λ_=>Sv h (mi j k)) qX) λ_=>e) (λ_ _=>⟨e,e⟩) (λ_=>e) (λ_=>e) λ_ _=>e
end
section
variable {lk:Bool}{eC rec:Nat->cR->M Unit}{t:cR}{σ:N}{f:Bool}
theorem ad0{a:O}{m:Nat}(h:cX a=m)(e:m≠6):a∈(if m=13 then [dE,dF]else if m=12 then [dq]else if m=11 then [cJ,cM,cF]else if m=9 then [cO]else if m=10 then [bY]else [aV]):=by
 unfold cX at h
 repeat' split
 all_goals grind[fW]
theorem acn{ks L:List O}{s a:O}(j:a∈L)(e:(L.all λa=>da ks a&&wB a s)=true)(hk:ks.all ji=true)(hs:(!Cj s&&ji s&&!gL s)=true):Beg ks s a:=by
 constructor<;>grind[j9]
def Rk.own(j:Rk eC rec t){m:Nat}:∀σ',GI false σ'->σ'.mode=m->gN (λ_=>GI false) (rec m t σ'):=λ_ g e=>j.g (e▸ .own (.inr (.inr (.inr rfl)))) g
theorem aic(k:Rk eC rec t)(ht:TA t)(h:GI false σ)(F:σ.mode=11):GR lk eC rec t σ false (dT vB t):=by
 have u:fE σ.mode:=⟨by omega,by omega,by omega⟩;have p:=(Ey h u aey (.inl rfl)).mono λ_ _ g=>g.1;have z:=λT q2=>k.g (.table rfl (.inl F) T q2) h;have j:NT t->gN (λ_=>GI false) (jD lk eC rec (.su 7) t σ):=λg=>z (λn e=>absurd e (g.1 n)) g.st;have I:∀a,cX a=σ.mode->Beg [cJ,cF,cM] dq a:=λa E=>acn (by rw[F]at E;exact ad0 E (by decide)) (by decide+kernel) (by decide+kernel) (by decide+kernel);refine Rt ht (λn hk e=>?_) (λn hk _=>me (fg (λ_=>h) (fg (λ_=>mi k p) (fg (λ_=>Sv h (zr p)) qX))) λy=>z (λP e=>by grind) (DG hk λq=>zL q (wy (by decide+kernel) y))) (λg _=>⟨j g,j g⟩) j j λg _=>j g;subst e;refine me (fg (λq=>mi k p) (fg (λq=>EI h u (by omega) (by simp) (by simp) I (by decide+kernel) (by decide) k.own) (fg (λq=>?_) qX))) λy=>z (λP e=>by rw[hk]at e;cases e;exact wy (by decide+kernel) y) (BI hk);have e:=BA q;exact KP h u (by omega) ht (by grind) (by grind) (by rw[e];decide+kernel) (by decide)
theorem al4(p:Rk eC rec t)(ht:TA t)(h:GI false σ)(F:σ.mode=12):GR lk eC rec t σ false (dT KE t):=by
 have E:fE σ.mode:=⟨by omega,by omega,by omega⟩;have k:=(Ey h E akr (.inr (.inl rfl))).mono λ_ _ g=>g.1;have y:=λq1 q2=>p.g (.table rfl (.inr F) q1 q2) h;have j:NT t->gN (λ_=>GI false) (jD lk eC rec (.su 7) t σ):=λg=>y (λn e=>absurd e (g.1 n)) g.st;refine Rt ht (λn hk e=>?_) (λn hk _=>me (fg (λ_=>h) (fg (λ_=>Sv h (mi p k)) (fg (λ_=>mi p k) (fg (λ_=>zr k) qX)))) λu=>y (λT e=>by grind) (DG hk λq=>zL q (wy (by decide+kernel) u))) (λg _=>⟨j g,j g⟩) j j λg _=>j g;subst e;refine me (fg (λq=>mi p k) (fg (λq=>?_) qX)) λu=>y (λT e=>by rw[hk]at e;cases e;exact wy (by decide+kernel) u) (BI hk);have P:∀s∈[dE,dF],s≠aG/\cX s=13/\∀a,cX a=σ.mode->Beg [dq] s a:=λs I=>by
  simp at I;rcases I with rfl|rfl<;>exact⟨by simp,by decide+kernel,λa z=>acn (by rw[F]at z;exact ad0 z (by decide)) (by decide+kernel) (by decide+kernel) (by decide+kernel)⟩
 have⟨g1,g2,g3⟩:=P _ (fW.1 q);exact T1 h E (by omega) ht g1 g3 g2
def Un(p:Rk eC rec t)(ht:TA t)(h:GI false σ)(q:σ.mode=8):GR lk eC rec t σ false (dT iM t):=
 have j:gN _ ((if lk then stuck else gI eC rec t) σ):=Jk (λ_=>trivial) λ_=>Jg h q p.w λm σ' _ g e=>p.own σ' g e;have k:gN _ ((if lk then stuck else jB t) σ):=Jk (λ_=>trivial) λ_=>Wh h ht
 Rt ht (λ_ _ _=>j) (λ_ _ _=>j) (λ_ _=>⟨k,k⟩) (λ_=>j) (λ_=>j) λ_ _=>j
def akF(y:Rk eC rec t)(ht:TA t)(h:GI false σ)(p:σ.mode=5):GR lk eC rec t σ false (dT Fh t):=
 have q:=ZW h p λσ' g e=>y.own σ' g e;have j:=(M7 h p).mono λ_ _ g=>g.1;have k:=λu=>((AU t).gi (rC t u) h).mono λ_ _ g=>g.1
 Rt ht (λ_ _ _=>j) (λ_ _ _=>j) (λ_ g=>⟨k g,k g⟩) (λ_=>j) (λ_=>j) λ_ _=>q
end
section
variable {lk:Bool}{eC rec:Nat->cR->M Unit}{t:cR}{σ:N}{f:Bool}
def acC(h:GI f σ)(e:0<t.chars.size):gN (λ_=>GI f) (gw t σ):=((AU t).gi (rC t e) h).mono λ_ _ g=>g.1
def MV(h:GI f σ)(e:Nat)(own:Bool):gN (λ_=>GI f) (tf e own t σ):=((acF e own t).gi CG h).mono λ_ _ g=>g.1
theorem YZ(p:Rk eC rec t)(ht:TA t)(h:GI false σ)(hm:σ.mode=7\/(σ.mode=11\/σ.mode=12)/\(∀n,t.k=.start n->n∉prL)/\∀n,t.k=.stop n->q0 n=true->n=bZ):GR lk eC rec t σ false (dT B9 t):=by
 have E:σ.mode=7\/σ.mode=11\/σ.mode=12:=by omega
 have j:fE σ.mode:=⟨by omega,by omega,by omega⟩;have F:gN (λ_=>GI false) (pN σ):=VM h j;have u:(∀n,t.k=.stop n->q0 n=true->n=aG\/n=aZ\/n=bZ)->∀σ',GI true σ'->σ'.mode=σ.mode->σ'.kept=σ.kept->gN (λ_=>GI true) (rec 6 t σ'):=λq σ' g e _=>p.g (.body (by grind) q) g;have P:NT t->gN (λ_=>GI false) (iZ rec t σ):=λg=>LF h E (λσ' g e=>p.own σ' g e) (u g.st);refine Rt ht (λn hk e=>?_) (λn hk _=>me (fg (λ_=>h) (fg (λ_=>zr F) qX)) λI=>(λq=>zw h (u q)) (DG hk λq=> .inr (.inr (zL q (wy (by decide+kernel) I))))) (λg _=>⟨P g,P g⟩) (λ_=>CG.g1 h j) (λ_=>h) λg _=>(λq=>zw h (u q)) g.st;subst e;have y:∀{l:List O},(l.all λx=>da prL x)=true->da l t.name=true->σ.mode=7:=λhl q=>hm.resolve_right λg=>g.2.1 _ hk (fW.1 (List.all_eq_true.1 hl _ (fW.1 q)));have z:∀s,(!Cj s&&ji s&&!gL s&&wB aV s)=true->σ.mode=7->∀a,cX a=σ.mode->Beg [aV] s a:=λs k e a T=>by
  simp only[oY]at k;cases List.mem_singleton.1 (ad0 (m:=7) (by rwa [e]at T) (by decide));exact acn (L:=[aV]) (List.mem_singleton.2 rfl) (by show((da [aV] aV&&wB aV s)&&true)=true;rw[k.2];decide+kernel) (by decide+kernel) (by grind)
 refine me ?_ λI=>(λq=>zw h (u q)) (BI hk);refine fg (λq=>Jk (c:=xm t=true) (m1:=ft rec t) (m2:=stuck) (λ_=>AL h j ht (EY (by decide+kernel) _ q) (u (BI hk))) λ_=>trivial) ?_;refine fg (λq=>(Ca ht (jW (by decide+kernel) _ q)).g1 h j) ?_;refine fg (λq=>p.g (.head j _ (by grind[BA,hdL]) hk) h) ?_;refine fg (λq=>mi p F) ?_;refine fg (λq=>EI h j (by omega) (by simp) (by simp) (z _ (by decide+kernel) (y (by decide+kernel) q)) (by decide+kernel) (by decide) p.own) ?_;refine fg (λq=>?_) ?_
 .have k:∀s∈[cJ,cF,cM],s≠aG/\cX s=11/\(!Cj s&&ji s&&!gL s&&wB aV s)=true:=λs k=>by
   simp only[UQ,pW,pX]at k;rcases k with rfl|rfl|rfl<;>exact⟨by simp,by decide+kernel,by decide+kernel⟩
  have⟨g1,g2,g4⟩:=k _ (fW.1 q);exact KP h j (by omega) ht g1 (z _ g4 (y (by decide+kernel) q)) g2 (by decide)
 refine fg (λq=>EI h j (by omega) (by simp) (by simp) (z _ (by decide+kernel) (y (by decide+kernel) q)) (by decide+kernel) (by decide) p.own) ?_;refine fg (λq=>?_) (fg (λq=>?_) qX);have e:=BA q;exact KP h j (by omega) ht (by grind) (by rw[e];exact z _ (by decide+kernel) (y (by decide+kernel) q)) (by rw[e];decide+kernel) (by decide);have e:=BA q;exact KG h j (by omega) ht (by grind) (by rw[e];exact z _ (by decide+kernel) (y (by decide+kernel) q)) (by rw[e];decide+kernel)
theorem ajy(y:t.k≠ .lost)(j:Rk eC rec t)(ht:TA t)(h:GI false σ)(p:σ.mode=10):GR lk eC rec t σ false (dT pr t):=
 have k:=Eu h p
 Rt ht (λn hk e=>me (fg (λq=>alu h p ht (by grind[BA])) (fg (λq=>j.g (.any (.inl (by grind[BA]))) h) qX)) λz=>mi j k) (λn hk _=>me (fg (λ_=>zr k) (fg (λ_=>h) qX)) λz=>mi j k) (λ_ u=>⟨acC h u,mi j k⟩) (λ_=>MV h _ _) (λ_=>h) λ_ g=>j.g (.any (.inr (g.resolve_right y))) h
def Ro{E:Nat}{own:Bool}{u:Option (List (List O×Ru))}(hs:u=none\/u=some [([aG],.eI 149)]/\σ.mode=16)(p:Rk eC rec t)(ht:TA t)(h:GI f σ)(y:σ.mode=16\/σ.mode=17):GR lk eC rec t σ f (dT {kP E own with stop:=u} t):=by
 have k:fE σ.mode:=⟨by omega,by omega,by omega⟩;have j:=ON h y λσ' g e=>p.g (e▸ .own (.inl e)) g;refine Rt ht (λn hk _=>me (fg (λq=>p.g (.body k (BI hk)) h) qX) λz=>j) (λn hk _=>?_) (λg _=>⟨p.g (.body k g.st) h,j⟩) (λ_=>CG.g1 h k) (λ_=>h) λ_ _=>h;rcases hs with rfl|⟨rfl,g⟩;exact j;exact me (fg (λ_=>acV h g) qX) λz=>j
def aaq(p:Rk eC rec t)(ht:TA t)(h:GI false σ)(k:σ.mode=0):GR lk eC rec t σ false (dT sL t):=
 have j:=y8 h k λσ' g e=>p.own σ' g e
 Rt ht (λ_ _ _=>j) (λ_ _ _=>j) (λ_ _=>⟨h,j⟩) (λ_=>MV h _ _) (λ_=>G9 h k) λ_ _=>j
def OR(u:Rk eC rec t)(ht:TA t)(h:GI false σ)(k:σ.mode=1):GR lk eC rec t σ false (dT od t):=
 have j:=L5 h k λσ' g e=>u.own σ' g e
 Rt ht (λn hk _=>me (fg (λq=>T7 h k ht) qX) λp=>j) (λn hk _=>me (fg (λ_=>j) qX) λp=>h) (λ_ _=>⟨h,j⟩) (λ_=>MV h _ _) (λ_=>h) λ_ _=>j
end
section
variable {lk:Bool}{eC rec:Nat->cR->M Unit}{t:cR}{σ:N}{f:Bool}
theorem aii(h:GI f σ)(k:σ.mode=3)(ht:TA t)(hq:q0 t.name=false):gN (λ_=>GI f) (gM t σ):=by
 have⟨U,H,Q,h1,h2,h3⟩:=h.adW (by omega);obtain⟨rfl,p⟩:=h2.h3 k;refine Tr.bind (P:=λs=>s=σ) (R:=λ_ s=>GI f _) (S:=λ_=>GI f) (λs e=>?_) (λ_=>Tr.bind (R:=λ_=>GI f) (m:=tJ) (λs g=>g) λ_=>Tr.pure λ_ g=>g) σ rfl;subst e;refine(xZ ht hq s ⟨h1,rfl,rfl⟩).mono λ_ u ⟨j,q,_⟩=>?_;have:=GI.low j 3 (.inr (.inl rfl)) rfl (by grind) (by grind);rw[N.aiK (j.md.1.trans k)]at this;omega
theorem OS(p:Rk eC rec t)(ht:TA t)(h:GI false σ)(k:σ.mode=2):GR lk eC rec t σ false (dT jP t):=
 have j:=L7 h k λσ' g e=>p.own σ' g e
 Rt ht (λn hk _=>me (fg (λq=>T9 h k ht) (fg (λq=>p.g (.any (.inl (by grind[BA]))) h) qX)) λu=>j) (λn hk _=>me (fg (λ_=>j) qX) λu=>h) (λ_ _=>⟨h,j⟩) (λ_=>MV h _ _) (λ_=>h) λ_ _=>j
theorem adv(p:Rk eC rec t)(ht:TA t)(h:GI false σ)(k:σ.mode=3):GR lk eC rec t σ false (dT iB t):=by
 have j:=Bx h k λσ' g e=>p.own σ' g e;refine Rt ht (λn hk e=>?_) (λn hk _=>me (fg (λ_=>j) (fg (λ_=>(M5 h k).mono λ_ _ g=>g.1) qX)) λy=>h) (λ_ u=>⟨acC h u,j⟩) (λ_=>MV h _ _) (λ_=>h) λ_ _=>j;subst e;exact me (fg (λq=>xq h (by omega) ht (jW (by decide+kernel) _ q)) (fg (λq=>zR h (by omega) ht (jW (by decide+kernel) _ q)) (fg (λq=>aii h k ht (EY (by decide+kernel) _ q)) (fg (λq=>p.g (.any (.inl (by grind[BA]))) h) (fg (λ_=>h) qX))))) λy=>j
theorem Ym{P:Ru->Prop}{n:O}(hk:t.k=.start n)(u:n∈hdL)(j:n≠dR->P (.eI 106))(k:n≠dR->P (.eI 105))(p:P (.eI 104)):P (dT iB t):=by
 have e:dT iB t=fh [rZ iB.start n,iB.fX,iB.dy]:=by unfold dT;rw[hk]
 have y:∀n∈hdL,n≠(aG)/\n≠(bZ):=λn h=>by
  grind[hdL]
 rw[e];exact aiJ _ _ _ (fg (λq=>j (by grind[BA])) (fg (λq=>k (by grind[BA])) (fg (λ_=>p) (fg (λq=>absurd (BA q) (by grind)) (fg (λq=>absurd (BA q) (by grind)) qX))))) λg=>absurd u (wy (by decide+kernel) g)
theorem alY{n:O}(hk:t.k=.start n)(e:n∈hdL):q0 t.name=false/\(n≠dR->ji t.name=false):=by
 have:t.name=n:=by unfold cR.name;rw[hk]
 rw[this];refine⟨EY (by decide+kernel) _ (fW.2 e),λg=>jW (l:=[(fM),(eX)]) (by decide+kernel) _ (fW.2 ?_)⟩;grind[hdL]
def adt(ht:TA t)(h:GI f σ)(e:fE σ.mode){n:O}(hk:t.k=.start n)(j:n∈hdL):GR lk eC rec t σ f (dT iB t):=
 have hq:=alY hk j;have k:=by have⟨h1,h2,h3⟩:=e;omega
 Ym hk j (λg=>xq h k ht (hq.2 g)) (λg=>zR h k ht (hq.2 g)) ((us t ht hq.1).g1 h e)
def ads(ht:TA t)(h:Bh σ){n:O}(hk:t.k=.start n)(e:n∈hdL):gN (λ_ s=>Bh s\/Bh5 s) (jD lk eC rec (dT iB t) t σ):=
 have hq:=alY hk e
 Ym (P:=λr=>gN _ (jD lk eC rec r t σ)) hk e (λg=>DT h ht (hq.2 g)) (λg=>Qk h ht (hq.2 g)) (Mc h ht hq.1)
theorem Re(p:Rk eC rec t)(ht:TA t)(h:GI false σ)(k:σ.mode=4):GR lk eC rec t σ false (dT kJ t):=
 have j:=LY h k λσ' g e=>p.own σ' g e
 Rt ht (λn hk e=>me (fg (λq=>OP h k λσ' b=>p.b hk (fW.1 q) b) (fg (λq=>TZ h k ht (by grind[BA])) (fg (λq=>p.g (.any (.inl (by grind[BA]))) h) (fg (λ_=>h) qX)))) λy=>j) (λn hk _=>me (fg (λ_=>j) qX) λy=>h) (λ_ u=>⟨acC h u,j⟩) (λ_=>MV h _ _) (λ_=>h) λ_ _=>j
end
def ae6:∀(n:Nat)(lk:Bool)(x:Nat×Nat×O),0<x.2.2.size->Fp (dp lk n 6 (pA x))
 |0,_,_,_=>λ_ _ _ _=>trivial
 |n+1,lk,x,hx=>by
  show Fp (jD lk _ _ _ _);have e:dT iA (pA x)=.eI 114:=by show(if jn _ then _ else _)=_;split<;>rfl
  rw[e];exact xP hx
def alp{lk:Bool}{eC rec:Nat->cR->M Unit}(ht:TA t)(h:GI f σ)(hk:t.k=.start aG\/t.k=.dD):GR lk eC rec t σ f (dT iA t):=by
 rcases hk with hk|hk;have e:dT iA t=.eI 185:=by unfold dT;rw[hk];kernel_rfl
 rw[e];exact((So t).gi (Jo t ht) h).mono λ_ _ g=>g.1;unfold dT;rw[hk];exact h
theorem KX:∀(n:Nat)(lk:Bool)(t:cR),TA t->(∀{m:Nat} {f:Bool} {σ:N},Ctx f σ t m->GI f σ->gN (λ_=>GI f) (dp lk n m t σ))/\∀{nm:O},t.k=.start nm->nm∈hdL->∀{σ:N},Bh σ->gN (λ_ s=>Bh s\/Bh5 s) (dp lk n 3 t σ)
 |0,_,_,_=>⟨λ_ _=>trivial,λ_ _ _ _=>trivial⟩
 |n+1,lk,t,ht=>by
  have k:Rk (dp true n) (dp lk n) t:=⟨(KX n lk t ht).1,(KX n lk t ht).2,ae6 n true⟩;by_cases p:t.k=.lost;have e:∀m,dp lk (n+1) m t=stuck:=λm=>by
   grind[dp]
  exact⟨λ_ _=>by rw[e];trivial,λ_ _ _ _=>by grind⟩
  .refine⟨λ{m f σ} c h=>?_,λhk u σ h=>?_⟩
   .rw[xv lk n m t p];cases c with
    |own hf=>
     by_cases j:σ.mode=6\/σ.mode=16\/σ.mode=17
     .rcases j with j|j|j<;>rw[j];exact acr k ht h ⟨by omega,by omega,by omega⟩ λ_ _ _=> .inr (.inr (.inr j));exact Ro (.inr ⟨rfl,j⟩) k ht h (.inl j);exact Ro (.inl rfl) k ht h (.inr j)
     obtain rfl:f=false:=by grind
     have y:σ.mode=0\/σ.mode=1\/σ.mode=2\/σ.mode=3\/σ.mode=4\/σ.mode=5\/σ.mode=7\/σ.mode=8\/σ.mode=9\/σ.mode=10\/σ.mode=11\/σ.mode=12\/σ.mode=13\/σ.mode=14\/σ.mode=15\/18<=σ.mode:=by omega
     rcases y with j|j|j|j|j|j|j|j|j|j|j|j|j|j|j|j;rw[j];exact aaq k ht h j;rw[j];exact OR k ht h j;rw[j];exact OS k ht h j;rw[j];exact adv k ht h j;rw[j];exact Re k ht h j;rw[j];exact akF k ht h j;rw[j];exact YZ k ht h (.inl j);rw[j];exact Un k ht h j;rw[j];exact(acB k ht h (.inr j)).2 j;rw[j];exact ajy p k ht h j;rw[j];exact aic k ht h j;rw[j];exact al4 k ht h j;rw[j];exact(acB k ht h (.inl j)).1 j;rw[j];exact TT k ht h (.inl j);rw[j];exact abb k ht h j;unfold asM;rw[yS (j)];trivial
    |body hb q=>exact acr k ht h hb λz e g=>by grind
    |any q=>exact alp ht h q
    |head hb nm u hk=>exact adt ht h hb hk u
    |table hf j h1 h2=>subst hf;exact YZ k ht h (.inr ⟨j,h1,h2⟩)
    |sel hf j=>subst hf;exact TT k ht h (.inr j)
   rw[xv lk n 3 t p];exact ads ht h hk u
theorem GI.jo(h:GI f σ)(e1:σ'.nodes=σ.nodes)(e2:σ'.cC=σ.cC)(p:σ'.act=σ.act)(q:σ'.form=σ.form)(u:σ'.head=σ.head)(y:σ'.waiting=σ.waiting)(z:σ'.mode=σ.mode)(E:σ'.kept=σ.kept)(F:σ'.dv=σ.dv):GI f σ':=by
 have⟨U,H,Q,e,h2,h3⟩:=h;have k:∀i,σ'.nm i=σ.nm i:=λi=>by unfold N.nm N.db;rw[e1]
 have j:σ'.last=σ.last:=by unfold N.last;rw[e2]
 refine GI.set e e1 e2 p q u (by rw[y];exact e.wt) (F.trans e.md.2.2) ?_ (by grind);rw[z,E];exact⟨by rw[e2];exact h2.ok,by simp only[j,k];exact h2.k5,h2.k8,h2.cg,by simp only[j,k];exact h2.ch⟩
def ab5(n:Nat)(ht:TA t)(h:GI false σ):gN (λ_=>GI false) (mx (dp false n) t σ):=by
 have j:GI _ {σ with behind:=false,dk:=t.a}:=h.jo rfl rfl rfl rfl rfl rfl rfl rfl rfl;have e:gN (λ_=>GI false) ((if σ.behind&&ir t.chars xE then nh.ok () {σ with behind:=false,dk:=t.a} else gh (dp false n) t {σ with behind:=false,dk:=t.a})):=by
  split;exact j;exact(KX n _ t ht).1 (.own (.inr (.inr (.inr rfl)))) j
 have⟨a,b,k,cU⟩:=t;cases k with
 |lost=>exact h
 |_=>exact e
theorem ald(d f l a:Nat):GI false (S0 d f l a):=by
 have q:∀i e,(S0 d f l a).db i=some e->i=0/\e=⟨⟨#[]⟩,[],none,[]⟩:=λi e j=>by
  have:=N.dm j;obtain rfl:i=0:=by grind[S0]
  cases j;simp
 refine N0.gi (σ:=S0 d f l a) ⟨⟨⟨λi e j z=>?_,λi e j k hk=>?_,λi e j=>?_,by grind,λi e j=>?_,λi s u=>?_,rfl⟩,trivial,rfl,λx y=>(by cases y),Ae,λi p=>(by cases p),by grind,λi p=>(by cases p),λi p=>(by cases p),λi p=>(by cases p),rfl⟩,rfl⟩ (by decide);grind;grind;rw[(q i e j).2];rfl;grind[oy];cases i with
 |zero=>cases u
 |succ i=>grind[S0]
class XM where
 m:Nat
def NE[XM]:zc->Prop
 | .el e=>e.name.size<=5000/\e.di.length<=XM.m/\∀p∈e.di,p.1.size<=5000/\p.2.size<=66000
 | .tx _=>True
 | .cm s=>s.size<=5000
 | .dt s=>s.size<=5000
class XL where
 l:List Nat
section
variable [XM][XL]
def NG(σ:N):Prop:=σ.mj<=XM.m/\(∀n∈σ.nodes,NE n)/\∀i e,σ.db i=some e->e.ff=none->i=0\/i∈XL.l
structure TG(t:cR):Prop where
 name:t.name.size<=5000
 len:t.fc.length<=XM.m
 cU:∀p∈t.fc,p.1.size<=5000/\p.2.size<=66000
 cm:∀s,t.k=.dl s->s.size<=5000
 dt:∀n q,t.k=.dK n q->n.size<=5000
def uE{α:Type}(r:nh α):Prop:=match r with
 | .ok _ σ'=>NG σ'
 | .stop e _=>e≠0
 | .stuck=>True
def Kp{α:Type}(m:M α):Prop:=∀σ,NG σ->uE (m σ)
theorem Kp.pure{α:Type}(a:α):Kp (Pure.pure a:M α):=λ_ h=>h
theorem Kp.stuck{α:Type}:Kp (stuck:M α):=λ_ _=>trivial
theorem Kp.bind{α u:Type}{m:M α}{f:α->M u}(h:Kp m)(q:∀a,Kp (f a)):Kp (m>>=f):=by
 intro σ k;rw[M.cH];have j:=h σ k;revert j;cases m σ with
 |ok a σ'=>intro j;exact q a σ' j
 |stop e p=>simp[uE]
 |stuck=>simp[uE]
theorem Kp.ite{α:Type}{c:Prop}[Decidable c]{a b:M α}(e:Kp a)(j:Kp b):Kp (if c then a else b):=by grind
theorem Kp.at{α:Type}{m:M α}{σ:N}(h:Kp m)(e:NG σ):uE (m σ):=h σ e
theorem NG.jo{σ σ':N}(h:NG σ)(e1:σ'.nodes=σ.nodes)(e2:σ'.mj=σ.mj):NG σ':=⟨by rw[e2];exact h.1,by rw[e1];exact h.2.1,λi e j=>h.2.2 i e (by grind[N.db])⟩
def Kp.rO{f:N->N}(e1:∀σ,(f σ).nodes=σ.nodes)(e2:∀σ,(f σ).mj=σ.mj):Kp (rO f):=λσ h=>h.jo (e1 σ) (e2 σ)
theorem Kp.same{α:Type}{m:M α}(h:∀σ a σ',m σ=.ok a σ'->σ'=σ)(hs:∀σ c p,m σ≠ .stop c p):Kp m:=by
 intro σ q;have j:=h σ;have k:=hs σ;revert j k;cases m σ with
 |ok a σ'=>grind[uE]
 |stop e p=>simp
 |stuck=>simp[uE]
def NG.el{σ:N}(h:NG σ){i:Nat}{e:sZ}(j:σ.db i=some e):NE (.el e):=h.2.1 _ (qQ (N.fa j))
theorem NG.ame{σ:N}(h:NG σ){i:Nat}{n:zc}(y:NE n)(z:∀e,n=.el e->e.ff=none->i=0\/i∈XL.l):NG {σ with nodes:=σ.nodes.set i n}:=⟨h.1,λm u=>by
 rcases List.mem_or_eq_of_mem_set u with k|k;exact h.2.1 m k;grind,λj e q=>by
 have p:=h.2.2 j e;unfold N.db at q p;grind⟩
theorem NG.set{σ:N}(h:NG σ){i:Nat}{e:sZ}(j:NE (.el e))(q:e.ff=none->i=0\/i∈XL.l):NG (σ.dh i e):=h.ame j (λk p=>by grind)
theorem NG.add{σ:N}(h:NG σ){n:zc}(y:NE n)(z:∀e,n=.el e->σ.nodes.length∈XL.l):NG (σ.add n):=⟨h.1,λm u=>by
 rcases List.mem_append.1 u with p|p;exact h.2.1 m p;grind,λj e k hq=>by
 by_cases q:j<σ.nodes.length;rw[N.qo q]at k;exact h.2.2 j e k hq;by_cases e1:j=σ.nodes.length;subst e1;rw[N.pc]at k;grind;have:=N.dm k;simp[N.add]at this;omega⟩
theorem NG.ny{σ:N}(h:NG σ){n:zc}(j:NE n)(b:Bool)(k:∀e,n=.el e->σ.nodes.length∈XL.l):NG (σ.ny n b):=(h.add j k).jo rfl rfl
omit [XL] in
theorem NE.kids{e e':sZ}(h:NE (.el e))(j:e'.name=e.name)(k:e'.di=e.di):NE (.el e'):=by
 grind[NE]
theorem uE.ok{α:Type}{a:α}{σ:N}(h:NG σ):uE (.ok a σ):=h
def Kp.fn{α:Type}{f:N->nh α}(h:∀σ,NG σ->uE (f σ)):Kp (α:=α) f:=h
attribute [simp] Kp.pure Kp.stuck Kp.bind Kp.ite
@[simp] def afg{f:N->N}(h:∀σ,(f σ).nodes=σ.nodes/\(f σ).mj=σ.mj):Kp (rO f):=Kp.rO (λσ=>(h σ).1) (λσ=>(h σ).2)
def Bc(rec:Nat->cR->M Unit):Prop:=∀m t,TG t->Kp (rec m t)
omit [XM] [XL] in
@[simp] def Yo(σ:N):σ.gJ.nodes=σ.nodes/\σ.gJ.mj=σ.mj:=⟨rfl,rfl⟩
def uE.st{α:Type}{n p:Nat}:uE (α:=α) (.stop (n+1) p):=Nat.succ_ne_zero n
omit [XM] [XL] in
@[simp] def afz(σ:N)(p:O->Bool):(σ.pY p).nodes=σ.nodes/\(σ.pY p).mj=σ.mj:=⟨rfl,rfl⟩
@[simp] def ahx(pl:Nat×Nat)(j:Nat):Kp (fY pl j):=by
 intro σ h;unfold fY;split;rename_i k q e p;split;refine uE.ok (NG.set (NG.set h ?_ ?_) (NE.kids (h.el p) rfl rfl) ?_);exact NE.kids (h.el e) rfl rfl;exact h.2.2 _ k e;simp;trivial;trivial
@[simp] def ahz(pl:Nat×Nat)(k:Nd):Kp (pQ pl k):=by
 intro σ h;unfold pQ;split;rename_i j e;split;exact uE.ok (NG.set h (NE.kids (h.el e) rfl rfl) (h.2.2 _ j e));trivial;trivial
@[simp] def aks(pl:Nat×Nat)(s:O):Kp (mP pl s):=by
 intro σ h;unfold mP;split;rename_i j e;split;split;split;split;exact uE.ok (NG.ame h trivial nofun);trivial;trivial;exact uE.ok (NG.set (NG.add h (n:=.tx _) trivial nofun) (NE.kids (h.el e) rfl rfl) (h.2.2 _ j e));trivial;trivial
def uE.sk{α:Type}:uE (α:=α) .stuck:=trivial
def uE.id{α:Type}{r:nh α}(h:uE r):uE r:=h
@[simp] def alZ(p:O->Bool):Kp (ly p):=by refine Kp.rO (λσ=>?_) (λσ=>?_)<;>(unfold N.Gr;split<;>rfl)
@[simp] def IW(p:O->Bool):Kp (oB p):=afg λ_=>⟨rfl,rfl⟩
@[simp] def Ay(m:Nat):Kp (fq m):=afg λ_=>⟨rfl,rfl⟩
@[simp] def akT(of:O)(pl:Bool):Kp (Aj of pl):=afg λ_=>⟨rfl,rfl⟩
@[simp] def al3:Kp (wF):=afg λ_=>⟨rfl,rfl⟩
@[simp] theorem Yf(i:Nat):∀L:iD,(∀p∈L,p.1.size<=5000/\p.2.size<=66000)->Kp (lK i L)
 |[],_=>Kp.pure _
 |a::r,hL=>by
  intro σ h;have k:=Yf i r (λp q=>hL p (io _ q));unfold lK;split;trivial;rename_i e j;split;exact k σ h;split;simp[uE];refine k _ (h.set ?_ (h.2.2 _ e j));have⟨a1,a2,a3⟩:=h.el j;have:=h.1;grind[NE]
@[simp] def akt(pl:Nat×Nat)(k:Nd):Kp (xh pl k):=by
 cases k with
 |el j=>simp[xh]
 |tx j=>simp[xh]
 |cm j=>simp[xh]
 |dt j=>simp[xh]
@[simp] def Hu(i:Nat):Kp (eE i):=Kp.same (λ_ _ _ h=>jC h) (λσ c p=>pd _ σ c p)
@[simp] def afB:Kp (fx):=Kp.same (λ_ _ _ h=>kX h) (λσ c p=>vj σ c p)
@[simp] def nh0:(∀(x:eG),Kp (kA x)/\Kp (fC x)/\Kp (agm x)/\Kp (fB x)/\Kp (gv x)/\Kp (vr x)/\Kp (xL x)/\∀y,Kp (tU x y)/\Kp (lE x y)/\Kp (kj x y)/\Kp (jk x y))/\(∀n,Kp (yE n)/\Kp (zM n)/\Kp (ahead n)/\Kp (my n)/\Kp (placeFor n))/\Kp tJ/\Kp AZ/\(∀p b,Kp (iI p b))/\Kp vi/\Kp gp/\Kp mD:=by
 (repeat' first|with_reducible intro _|with_reducible apply And.intro)<;>(repeat' first|(with_reducible first|refine Kp.bind ?_ λ_=>?_|refine Kp.ite ?_ ?_|exact uE.st|exact uE.sk|refine Kp.at ?_ ‹_›|refine Kp.fn λσ h=>?_)|(simp[*];done)|(with_reducible refine uE.ok ?_;exact h.jo rfl rfl)|(with_reducible refine uE.id ?_;first|dsimp only|split)|delta kA|delta fC|delta agm|delta fB|delta gv|delta vr|delta xL|delta tU|delta lE|delta kj|delta jk|delta yE|delta zM|delta ahead|delta my|delta tJ|delta AZ|delta iI|delta vi|delta placeFor|delta gp|delta mD|refine Kp.ite ?_ ?_|split)
@[simp] def Tz(pl:Nat×Nat)(nd:zc)(k:Nat->Nd)(j:NE nd)(hq:∀e,nd=.el e->False):Kp (lj pl nd k):=λσ h=>ahz _ _ _ (h.add j λe h=>(hq e h).elim)
omit [XL] in
def agb(x:Nat×Nat×O):TG (pA x):=⟨yQ _,yQ _,(λ_ e=>by cases e),(λ_ h=>by cases h),(λ_ _ h=>by cases h)⟩
def N7:Ru->Bool
 | .mr _ name _=>decide (name.size<=5000)
 | .Wb r=>N7 r
 |_=>true
def spG(sp:jz):Bool:=N7 sp.blank&&N7 sp.gz&&N7 sp.dl&&N7 sp.dK&&N7 sp.dD&&N7 sp.fX&&N7 sp.ik&&N7 sp.dy&&((sp.start.getD []).all λp=>N7 p.2)&&((sp.stop.getD []).all λp=>N7 p.2)
omit [XM] [XL] in
def ah0:∀e∈tV,spG e=true:=List.all_eq_true.1 rfl
omit [XM] [XL] in
theorem Yx:∀(R:List (List O×Ru))(k:O)(r:Ru),(R.all λp=>N7 p.2)=true->mf R k=some r->N7 r=true
 |[],_,_,_,h=>by cases h
 |p::R,k,r,hR,h=>by
  rw[List.all_cons,oY]at hR;unfold mf at h;split at h;grind;exact Yx R k r hR.2 h
omit [XM] [XL] in
def ru:∀L:List Ru,(∀r∈L,N7 r=true)->N7 (fh L)=true
 |[],_=>rfl
 |x::r,h=>by
  have e:=h x (Oo ..);cases x with
  |nil=>exact ru r (λy j=>h y (io _ j))
  |_=>exact e
omit [XM] [XL] in
def Yw(R:Option (List (List O×Ru)))(k:O)(h:((R.getD []).all λp=>N7 p.2)=true):N7 (rZ R k)=true:=by
 cases R with
 |none=>rfl
 |some R=>
  show N7 ((mf R k).getD .nil)=true;cases hq:mf R k with
  |none=>rfl
  |some r=>exact Yx R k r h hq
omit [XM] [XL] in
theorem aeN{sp:jz}(h:spG sp=true)(t:cR):N7 (dT sp t)=true:=by
 unfold spG at h;simp only[oY]at h;have⟨⟨⟨⟨⟨⟨⟨⟨⟨h1,h2⟩,h3⟩,h4⟩,h5⟩,h6⟩,h7⟩,h8⟩,h9⟩,h10⟩:=h;unfold dT;split;split;exact ru _ (by grind);exact ru _ (by grind);exact ru _ (by grind);exact ru _ (by grind);exact ru _ (by simp[Yw _ _ h9,h6,h8]);exact ru _ (by simp[Yw _ _ h10,h7,h8]);exact ru _ (by grind);exact ru _ (by grind)
@[simp] def Bo(e:M (Nat×Nat))(t:cR)(j:Kp e)(ht:TG t):Kp (ja e t):=by
 unfold ja;split;rename_i s k;exact Kp.bind j λ_=>Kp.bind (Tz _ _ _ (ht.cm s k) nofun) λ_=>Kp.pure _;simp
@[simp] def Yj(d:Nat):∀ks,Kp (rB d ks)
 |[]=>Kp.pure _
 |k::r=>Kp.bind (Hu _) λ_=>Kp.bind (akt _ _) λ_=>Yj d r
@[simp] def V0(b d:Nat):Kp (handOver b d):=by
 intro σ h;unfold handOver;split;trivial;split;trivial;refine Kp.at (Kp.bind (Yj _ _) λ_=>Kp.fn λσ' e=>?_) h;split;rename_i k j;exact uE.ok (NG.set e (NE.kids (e.el j) rfl rfl) (e.2.2 _ k j));trivial
@[simp] def abR(t:cR)(ht:TG t):Kp (iN t):=by
 unfold iN;split;rename_i n q hq;exact Kp.bind (by simp) λ_=>Kp.bind (Tz _ _ _ (ht.dt n q hq) nofun) λ_=>by simp
 simp
def Kay{α:Type}(d8:α->List Nat)(r:nh α):Prop:=match r with
 | .ok a σ'=>@NG _ ⟨d8 a⟩ σ'
 | .stop e _=>e≠0
 | .stuck=>True
omit [XL] in
theorem Kay.ok{α:Type}{d8:α->List Nat}{a:α}{σ:N}(h:@NG _ ⟨d8 a⟩ σ):Kay d8 (.ok a σ):=h
def Kj{α:Type}(X:List Nat)(d8:α->List Nat)(m:M α):Prop:=∀σ,@NG _ ⟨X⟩ σ->Kay d8 (m σ)
omit [XL] in
theorem Kj.bind{α q:Type}{X:List Nat}{d8:α->List Nat}{y:q->List Nat}{m:M α}{f:α->M q}(h:Kj X d8 m)(u:∀a,Kj (d8 a) y (f a)):Kj X y (m>>=f):=by
 intro σ k;rw[M.cH];have j:=h σ k;revert j;cases m σ with
 |ok a σ'=>intro j;exact u a σ' j
 |stop e p=>simp[Kay]
 |stuck=>simp[Kay]
def Kp.k{α:Type}{m:M α}(h:Kp m):Kj XL.l (λ_=>XL.l) m:=λσ e=>by
 have j:=h σ e;cases hm:m σ<;>rw[hm]at j<;>exact j
omit [XL] in
def Kp.j{α:Type}{X:List Nat}{m:M α}(h:∀[XL],Kp m):Kj X (λ_=>X) m:=@Kp.k _ ⟨X⟩ _ _ (@h ⟨X⟩)
def Kj.p{α:Type}{m:M α}(h:Kj XL.l (λ_=>XL.l) m):Kp m:=λσ e=>by
 have j:=h σ e;cases hm:m σ<;>rw[hm]at j<;>exact j
omit [XL] in
theorem NG.mono{X d8:List Nat}{σ:N}(h:@NG _ ⟨X⟩ σ)(hs:∀i∈X,i∈d8):@NG _ ⟨d8⟩ σ:=⟨h.1,h.2.1,λi e j k=>(h.2.2 i e j k).imp id (hs i)⟩
omit [XL] in
theorem NG.cons{X:List Nat}{σ:N}(h:@NG _ ⟨X⟩ σ)(j:Nat):@NG _ ⟨j::X⟩ σ:=h.mono λ_ e=>io _ e
omit [XL] in
def DH{X a0:List Nat}(pl:Nat×Nat)(j:Nat)(z:∀i∈a0,i=j\/i∈X):Kj a0 (λ_=>X) (fY pl j):=by
 intro σ h;have p:=@ahx _ ⟨j::X⟩ pl j σ (h.mono λi E=>List.mem_cons.2 (z i E));revert p;unfold fY;split;rename_i F I P y;split;rename_i T;intro p;refine Kay.ok ⟨p.1,p.2.1,λi e q u=>?_⟩;rcases p.2.2 i e q u with k|k;exact .inl k;rcases List.mem_cons.1 k with k|k;subst k;rw[N.eB (by have:=N.dm y;simpa [N.dh]using this)]at q;cases q;cases u;exact .inr k;exact λh=>h;exact λh=>h
omit [XL] in
def YC{X:List Nat}(name:O)(e:name.size<=5000):Kj X (λj=>j::X) (wg name):=λσ h=>Kay.ok <|@NG.add _ ⟨_⟩ _ (h.cons _) (.el ⟨name,[],none,[]⟩) ⟨e,yQ _,λ_ k=>by cases k⟩ λ_ _=>Oo ..
omit [XL] in
def Wp{X:List Nat}(t:cR)(ht:TG t):Kj X (λj=>j::X) (fG t):=by
 intro σ h;unfold fG;split;exact Kay.ok <|@NG.ny _ ⟨_⟩ _ (h.cons _) (.el ⟨t.name,t.fc,none,[]⟩) ⟨ht.name,ht.len,ht.cU⟩ _ λ_ _=>Oo ..;trivial
omit [XL] in
def S4{X:List Nat}(name:O)(own:Bool)(cU:iD)(e:name.size<=5000)(q:cU.length<=XM.m)(k:∀p∈cU,p.1.size<=5000/\p.2.size<=66000):Kj X (λj=>j::X) (mL name own cU):=by
 intro σ h;unfold mL;split;split;exact Kay.ok <|@NG.ny _ ⟨_⟩ _ (h.cons _) (.el ⟨name,cU,none,[]⟩) ⟨e,q,k⟩ _ λ_ _=>Oo ..;trivial;exact YC name e σ h
omit [XL] in
def Bj{X:List Nat}(i:Nat):Kj X (λj=>j::X) (fD i):=by
 intro σ h;unfold fD;split;rename_i e k;split;trivial;exact Kay.ok <|@NG.add _ ⟨_⟩ _ (h.cons _) (.el ⟨e.name,e.di,none,[]⟩) (NE.kids (@NG.el _ ⟨_⟩ _ h _ _ k) rfl rfl) λ_ _=>Oo ..;trivial
omit [XL] in
def Oh{X:List Nat}(j:Nat):Kj X (λ_=>j::X) (iC j):=by
 intro σ h;unfold iC;split;trivial;rename_i q p;split;exact Kay.ok (h.cons j);split;trivial;rename_i k e;split;refine Kay.ok (@NG.set _ ⟨_⟩ _ (@NG.set _ ⟨_⟩ _ (h.cons j) _ _ ?_ ?_) _ _ ?_ ?_);exact NE.kids (@NG.el _ ⟨_⟩ _ h _ _ e) rfl rfl;exact(h.cons j).2.2 _ k e;exact NE.kids (@NG.el _ ⟨_⟩ _ h _ _ p) rfl rfl;exact λ_=> .inr (Oo ..);trivial
@[simp] def J8(own:Bool)(cU:iD)(q:cU.length<=XM.m)(e:∀p∈cU,p.1.size<=5000/\p.2.size<=66000):Kp (nU own cU):=
 Kj.p (Kj.bind (S4 _ _ _ (by decide) q e) λj=>Kj.bind (Kp.j (by simp)) λu=>Kj.bind (DH u j λi k=>List.mem_cons.1 k) λ_=>Kp.j (Kp.bind (by simp) λ_=>Kp.bind (Ay _) λ_=>Kp.pure _))
@[simp] def aiZ(t:cR)(ht:TG t):Kp (qM t):=Kp.bind (J8 _ _ ht.len ht.cU) λ_=>Kp.pure _
@[simp] theorem aiQ:Kp (nU false []):=J8 _ _ (yQ _) (λ_ e=>by grind)
omit [XL] in
def Ap{X:List Nat}(j:Nat):Kj (j::X) (λ_=>X) (fP j):=Kj.bind (Kp.j (by simp)) λk=>Kj.bind (DH k j λi e=>List.mem_cons.1 e) λ_=>Kp.j (Kp.bind (by simp) λ_=>Kp.pure _)
@[simp] def sT(name:O)(e:name.size<=5000):Kp (fF name):=Kj.p (Kj.bind (YC name e) λj=>Kj.bind (Ap j) λ_=>Kp.j (Kp.pure _))
@[simp] def Ga(t:cR)(ht:TG t):Kp (dZ t):=Kj.p (Kj.bind (Wp t ht) λj=>Kj.bind (Ap j) λ_=>Kp.j (Kp.pure _))
@[simp] def aeF:∀k n,Kp (DK k n)
 |0,_=>Kp.pure _
 |k+1,n=>Kj.p (Kj.bind (Kp.j (by simp)) λi=>Kj.bind (Bj i) λj=>Kj.bind (Ap j) λ_=>Kp.k (Kp.bind (by simp) λ_=>aeF k _))
@[simp] def afD:Kp iK:=λσ h=>aeF _ _ σ h
@[simp] def Kc(own:Bool)(cU:iD)(k:cU.length<=XM.m)(e:∀p∈cU,p.1.size<=5000/\p.2.size<=66000):Kp (nW own cU):=
 Kj.p (Kj.bind (S4 _ _ _ (by decide) k e) λj=>Kj.bind (Kp.j (afg λ_=>⟨rfl,rfl⟩)) λ_=>Kj.bind (Ap j) λ_=>Kp.j (Kp.bind (Ay _) λ_=>Kp.pure _))
@[simp] def ai0(t:cR)(ht:TG t):Kp (qN t):=Kp.bind (Kc _ _ ht.len ht.cU) λ_=>Kp.pure _
@[simp] theorem aiR:Kp (nW false []):=Kc _ _ (yQ _) (λ_ e=>by grind)
@[simp] def agL:Kp (fF aZ):=sT _ (by decide)
@[simp] def akZ:Kp (fF nO):=sT _ (by decide)
@[simp] def ajX:Kp (fF jM):=sT _ (by decide)
@[simp] def F8:∀e,Kp (qF e)
 |[]=>Kp.pure _
 |x::r=>Kp.bind (by repeat' first|(with_reducible first|refine Kp.bind ?_ _|refine Kp.ite ?_ ?_|exact uE.st|exact uE.sk|refine Kp.at ?_ _|refine Kp.fn _)|(simp[*])|(with_reducible refine uE.ok ?_)|(with_reducible refine uE.id ?_)|delta gw|refine Kp.ite ?_ ?_|split) λ_=>F8 r
omit [XL] in
theorem Fc(f du:Nat):∀(X:List Nat)n c last j,Kj (last::X) (λr=>r.1::X) (iQ f du n c last j)
 |X,0,_,_,_=>λσ h=>h
 |X,n+1,c,last,j=>by
  unfold iQ;refine Kj.bind (Kp.j (by simp)) λe=>?_;split;exact λσ h=>h;refine Kj.bind (Kp.j (Kp.ite (by simp) (Kp.pure _))) λ_=>λσ h=>?_;by_cases p:some e∉σ.act;rw[dd p];exact Kj.bind (Kp.j (by simp)) (λ_=>Fc f du X n _ _ _) σ h;rw[cZ p];exact Kj.bind (Bj _) (λk=>Kj.bind (Kp.j (by simp)) λ_=>Kj.bind (Kp.j (by simp)) λ_=>Kj.bind (Oh _) λ_=>Kj.bind (Kp.j (Hu _)) λq=>Kj.bind (DH q last (X:=k::X) (by simp;grind)) λ_=>Fc f du X n _ _ _) σ h
@[simp] def ak1(f du:Nat):Kp (pi f du):=Kj.p (Kj.bind (λσ h=>Fc f du _ _ _ _ _ σ (h.cons _)) λ(last,mark)=>Kj.bind (Oh last) λ_=>Kj.bind (Kp.j (by simp)) λa=>Kj.bind (Kp.j (by simp)) λj=>Kj.bind (DH j last (X:=XL.l) (by simp)) λ_=>Kj.bind (Bj f) λe=>Kj.bind (Kp.j (V0 _ _)) λ_=>Kj.bind (Kp.j (Hu _)) λj=>Kj.bind (DH j e (by simp)) λ_=>Kp.j (Kp.bind (by simp) λ_=>Kp.bind (by simp) λ_=>Kp.bind (by simp) λ_=>Kp.bind (by simp) λ_=>Kp.pure _))
@[simp] def acf(s:O):∀n,Kp (qj s n)
 |0=>Kp.pure _
 |n+1=>by
  have:=acf s n;unfold qj
  repeat' first|(with_reducible first|refine Kp.bind ?_ λ_=>?_|refine Kp.ite ?_ ?_|exact uE.st|exact uE.sk|refine Kp.at ?_ ‹_›|refine Kp.fn λσ h=>?_)|(simp[*];done)|(with_reducible refine uE.ok ?_)|(with_reducible first|dsimp|split)|delta iY|delta nT|refine Kp.ite ?_ ?_|split
section
variable {rec eC:Nat->cR->M Unit}(t:cR)
def adj(e:Bc rec)(ht:TG t):Kp (oF rec t):=Kp.bind (Kp.rO (λ_=>rfl) (λ_=>rfl)) λ_=>Kp.bind (e _ _ ht) λ_=>Kp.bind (Kp.rO (λ_=>rfl) (λ_=>rfl)) λ_=>Kp.pure _
@[simp] def FY(e:Bc rec):∀j,Kp (qD rec j)
 |[]=>Kp.pure _
 |x::r=>Kp.bind (adj _ e (agb x)) λ_=>FY e r
@[simp] def OI(e:Bc rec):Kp (kh rec):=by
 intro σ h;unfold kh;split;exact FY e _ σ h;exact F8 _ σ h
def agZ(lk:Bool)(f:Nat)(k:Bc eC)(e:Bc rec)(ht:TG t):Kp (JU lk eC rec t f)/\∀j own,Kp (tf j own t):=by
 have q:=λm=>e m t ht;have p:=λi=>Yf i _ ht.cU;refine⟨?_,λ_ _=>?_⟩
 delta JU
 all_goals
  repeat' first|(with_reducible first|refine Kp.bind ?_ λ_=>?_|refine Kp.ite ?_ ?_|exact uE.st|exact uE.sk|refine Kp.at ?_ ‹_›|refine Kp.fn λσ h=>?_)|(simp[*];done)|(with_reducible refine uE.ok ?_;exact h.jo rfl rfl)|(with_reducible refine uE.id ?_;first|dsimp only|split)|delta qE|delta GK|delta iW|delta pushHead|delta lr|delta tM|delta nT|delta rj|delta rl|delta gw|delta gh|delta rY|delta gM|delta iX|delta oe|delta iV|delta jm|delta lc|delta jJ|delta uj|delta sQ|delta rh|delta mF|delta nD|delta uk|delta GQ|delta oC|delta zn|delta gE|delta ol|delta pN|delta pg|delta gP|delta dQ|delta pu|delta dU|delta ri|delta pM|delta kM|delta rL|delta jQ|delta sY|delta mV|delta kQ|delta nJ|delta jY|delta lU|delta nI|delta kR|delta kK|delta fZ|delta mU|delta jl|delta fA|delta eN|delta jV|delta lH|delta zp|delta gH|delta og|delta jr|delta kY|delta mW|delta im|delta oD|delta endCell|delta kT|delta fV|delta lL|delta lM|delta iw|delta kN|delta nA|delta vW|delta rn|delta oz|delta oF|delta iZ|delta ft|delta gI|delta tf|delta jB|refine Kp.ite ?_ ?_|split
def acX{f:Nat}{b:M Bool}(h:wV f=some b):Kp b:=by
 unfold wV at h
 repeat' (split at h)
 all_goals (cases h<;>repeat' first|(with_reducible first|refine Kp.bind ?_ λ_=>?_|refine Kp.ite ?_ ?_|exact uE.st|exact uE.sk|refine Kp.at ?_ ‹_›|refine Kp.fn λσ h=>?_)|(simp[*];done)|(with_reducible refine uE.ok ?_;exact h.jo rfl rfl)|(with_reducible refine uE.id ?_;first|dsimp only|split)|delta oD|delta endCell|delta gE|delta zp|delta pg|delta lH|delta pN|delta ol|delta gH|delta tM|refine Kp.ite ?_ ?_|split)
end
@[simp] theorem Sj(lk:Bool)(eC rec:Nat->cR->M Unit)(t:cR)(k:Bc eC)(e:Bc rec)(ht:TG t):∀r,N7 r=true->Kp (jD lk eC rec r t)
 | .nil,_=>Kp.stuck
 | .nothing,_=>Kp.pure _
 | .eI f,_=>(agZ t lk f k e ht).1
 | .su m,_=>Kp.ite (e _ _ ht) Kp.stuck
 | .dl pf own,_=>(agZ t lk 0 k e ht).2 pf own
 | .ahead f,_=>by
  show Kp (match wV f with|some b=>tD rec b t|none=>stuck)
  cases hb:wV f with
  |none=>grind[Kp.stuck]
  |some b=>exact Kp.bind (acX hb) λ_=>Kp.ite (Kp.bind (λσ h=>e _ t ht σ h) λ_=>Kp.pure _) (Kp.pure _)
 | .ends f,_=>by
  show Kp (match wV f with|some b=>zq b|none=>stuck)
  cases hb:wV f with
  |none=>grind[Kp.stuck]
  |some b=>exact Kp.bind (acX hb) λ_=>Kp.pure _
 | .Wb r,h=>by
  intro σ j;show uE (Bw _ t σ);unfold Bw;split;exact(Sj lk eC rec t k e ht r h) σ j;exact j
 | .rM ks m,_=>Kp.ite (Kp.bind (IW _) λ_=>Kp.bind (Ga t ht) λ_=>Kp.bind (Ay _) λ_=>Kp.pure _) Kp.stuck
 | .mr ks name m,h=>Kp.ite (Kp.bind (IW _) λ_=>Kp.bind (sT _ (of_decide_eq_true h)) λ_=>Kp.bind (Ay _) λ_=>Kp.bind (λσ h=>e _ t ht σ h) λ_=>Kp.pure _) Kp.stuck
 | .item ks,_=>Kp.bind (by simp) λ_=>Kp.bind (Kp.bind (Kp.bind (by simp) λ_=>Kp.pure _) λ_=>Kp.bind (Ga t ht) λ_=>Kp.pure _) λ_=>Kp.pure _
@[simp] theorem Qq:∀(n:Nat)(lk:Bool)(m:Nat)(t:cR),TG t->Kp (dp lk n m t)
 |0,_,_,_,_=>Kp.stuck
 |n+1,lk,m,t,ht=>by
  by_cases hk:t.k=.lost;have e:dp lk (n+1) m t=stuck:=by
   have⟨a,b,k,cU⟩:=t;cases hk;rfl
  simp_all;rw[xv lk n m t hk];unfold asM;cases hs:tV[m]? with
  |none=>simp
  |some sp=>exact Sj lk _ _ t (λm t ht=>Qq n true m t ht) (λm t ht=>Qq n lk m t ht) ht _ (aeN (ah0 sp (qQ hs)) t)
@[simp] def afM(n:Nat)(t:cR)(ht:TG t):Kp (mx (dp false n) t):=by
 have e:Kp (λσ=>if σ.behind&&ir t.chars xE then nh.ok () {σ with behind:=false,dk:=t.a} else gh (dp false n) t {σ with behind:=false,dk:=t.a}):=by
  refine Kp.fn λσ h=>?_;have j:=h.jo rfl rfl;split;exact j;exact Qq n _ _ t ht _ j
 obtain⟨a,b,k,cU⟩:=t;cases k with
 |lost=>exact Kp.pure _
 |_=>exact e
end
instance :XL:=⟨[]⟩
def TkN[XM]:OA->Prop
 | .TY nm L=>nm.size<=5000/\L.length<=XM.m/\∀p∈L,p.1.size<=5000/\p.2.size<=66000
 | .fin nm L=>nm.size<=5000/\L.length<=XM.m/\∀p∈L,p.1.size<=5000/\p.2.size<=66000
 | .QN t=>t.size<=5000
 | .dtp nm _=>nm.size<=5000
 |_=>True
def afK[XM]:wO->Prop
 | .stop=>True
 | .tok k _=>TkN k
theorem yf(h:s.size<=1024):(kO s).size<=5000:=by grind[vp]
theorem ww(s:O)(a b:Nat):(s.extract a b).size<=s.size:=by grind[ByteArray.size_extract]
theorem Y1(hs:R.cs.size<=1024)(ps:Nat):(vD R ps).size<=5000:=yf (by grind[nH,ww])
theorem ZI(hs:R.cs.size<=1024)(ps:Nat):(ue R ps).size<=5000:=yf (by grind[nH,ww])
theorem ajG(hs:R.cs.size<=1024)(ps:Nat):(Vt R ps).size<=5000:=yf (by grind[nH,ww])
theorem abz(h:∀x t,look x=some t->t.size<=16)(hs:R.cs.size<=1024)(ps:Nat):(qg look lg R ps).size<=66000:=by
 unfold qg;split;have e:=vp ⟨(tN look lg (kI R (j7 R (j7 R ps+1)))).toArray⟩;have j:=zY (lg:=lg) h (kI R (j7 R (j7 R ps+1)));have k:=BR (R:=R) (ps:=j7 R (j7 R ps+1));have p:(ByteArray.mk (tN look lg _).toArray).size=(tN look lg (kI R (j7 R (j7 R ps+1)))).length:=rfl;omega;decide
theorem trimSuffix_le(s p:List UInt8):(Lib.trimSuffix s p).length<=s.length:=by unfold Lib.trimSuffix;grind
theorem NI(s:O):(ye s).size<=s.size:=by
 grind[Lib.size_eq,trimSuffix_le,ye]
theorem RE(R:RC)(a:Nat):∀(n i:Nat),R.cs.size-i<=n->(ni R a i).size<=R.cs.size
 |0,i,h=>by
  rw[ni.eq_1 R a i];grind[NI,ww]
 |n+1,i,h=>by
  rw[ni.eq_1 R a i];split;split;grind[ww];split;grind[ww];exact RE R a n (i+1) (by omega);grind[NI,ww]
def Vo(R:RC)(ps:Nat):(lG R ps).size<=R.cs.size:=by
 unfold lG;split;exact yQ _;split;exact yQ _;exact RE R _ _ _ (dr _)
theorem abF(h:∀x t,look x=some t->t.size<=16)(hs:R.cs.size<=1024){L:iD}{ps:Nat}(e:∀p∈L,p.1.size<=5000/\p.2.size<=66000):∀p∈nM R look lg L ps,p.1.size<=5000/\p.2.size<=66000:=by
 grind[ZI,abz,nM,sr]
theorem Fl{L:iD}{ps:Nat}(h:R.cs.size<=ps):gV R look lg L ps=.lost:=by
 grind[pq,gV]
section
variable [XM]
theorem aia{R:RC}{look:O->Option O}{lg:Nat}(hk:∀x t,look x=some t->t.size<=16)(hs:R.cs.size<=1024)(z:R.at_<=XM.m):∀(n:Nat){L:iD} {ps m:Nat} {j:iD},R.cs.size-ps<=n->gV R look lg L ps=.whole m j->L.length<=XM.m->(∀p∈L,p.1.size<=5000/\p.2.size<=66000)->j.length<=XM.m/\∀p∈j,p.1.size<=5000/\p.2.size<=66000:=by
 intro n
 induction n with
 |zero=>
  grind[Fl]
 |succ n ih=>
  intro L ps m j I e F k;have q:=pq (R:=R) (ps:=ps);rw[gV]at e;split at e;split at e;grind;split at e;cases e;have u:=qs (R:=R) (ps:=eK R ps);have y:=uR (R:=R) (ps:=gR R (eK R ps));by_cases E:gR R (eK R ps)=R.cs.size;grind[Fl];refine ih (by omega) e ?_ (abF hk hs k);grind[pw,nM,sr];cases e
def ai2{R:RC}{look:O->Option O}{lg:Nat}(hk:∀x t,look x=some t->t.size<=16)(hs:R.cs.size<=1024)(k:R.at_<=XM.m){ps:Nat}{j:O->iD->OA}{nm:O}(e:∀L,L.length<=XM.m->(∀p∈L,p.1.size<=5000/\p.2.size<=66000)->TkN (j nm L)):afK (qy R j nm (gV R look lg [] ps)):=by
 cases h:gV R look lg [] ps with
 |stop=>trivial
 |lost=>trivial
 |whole m L=>
  have:=aia hk hs k _ (dr _) h (yQ _) (by simp);exact e L this.1 this.2
theorem ahV{R:RC}{look:O->Option O}{lg bg ps:Nat}(hk:∀x t,look x=some t->t.size<=16)(hs:R.cs.size<=1024)(k:R.at_<=XM.m):afK (jc R look lg bg ps):=by
 unfold jc;split;exact ai2 hk hs k (λL e j=>⟨Y1 hs _,e,j⟩);split;trivial;split;trivial;exact yf (fK (ww _ _ _) hs)
theorem aka{R:RC}{look:O->Option O}{lg bg ps:Nat}(hk:∀x t,look x=some t->t.size<=16)(hs:R.cs.size<=1024)(k:R.at_<=XM.m):afK (mu R look lg bg ps):=by
 unfold mu;split;exact ai2 hk hs k (λL e j=>⟨Y1 hs _,e,j⟩);split;grind[ahV];split;exact yf (fK (Vo _ _) hs);split;exact ajG hs _;split;exact yf (fK (ww _ _ _) hs);split;exact yf (fK (ww _ _ _) hs);trivial
def akh{R:RC}{look:O->Option O}{lg ps:Nat}(hk:∀x t,look x=some t->t.size<=16)(hs:R.cs.size<=1024)(e:R.at_<=XM.m):afK (fH R look lg ps):=by
 unfold fH;split;trivial;split;split;exact aka hk hs e;trivial
 .unfold vE;split<;>trivial
theorem TkN.tg{k:OA}(h:TkN k)(a b:Nat):TG (lx a b k):=by
 cases k with
 |TY nm L=>exact⟨h.1,h.2.1,h.2.2,(λ_ h=>by cases h),(λ_ _ h=>by cases h)⟩
 |fin nm L=>exact⟨h.1,h.2.1,h.2.2,(λ_ h=>by cases h),(λ_ _ h=>by cases h)⟩
 |QN t=>exact⟨yQ _,yQ _,(λ_ j=>by cases j),(λs e=>by cases e;exact h),(λ_ _ h=>by cases h)⟩
 |dtp n q=>exact⟨yQ _,yQ _,(λ_ j=>by cases j),(λ_ h=>by cases h),(λn q e=>by cases e;exact h)⟩
 |QP=>exact⟨yQ _,yQ _,(λ_ j=>by cases j),(λ_ h=>by cases h),(λ_ _ h=>by cases h)⟩
 |UW t=>exact⟨yQ _,yQ _,(λ_ j=>by cases j),(λ_ h=>by cases h),(λ_ _ h=>by cases h)⟩
 |lost=>exact⟨yQ _,yQ _,(λ_ j=>by cases j),(λ_ h=>by cases h),(λ_ _ h=>by cases h)⟩
def alb:UY->Prop
 | .done fin _=>NG fin
 | .stop c _=>c≠0
 | .stuck=>True
def aa2{R:RC}{look:O->Option O}{lg:Nat}{cut:Nat->Nat}(hk:∀x t,look x=some t->t.size<=16)(z:R.cs.size<=1024)(y:R.at_<=XM.m):∀(n ps:Nat)(σ:N)(L:List Sp),NG σ->alb (jX R look lg cut n ps σ L):=by
 intro n
 induction n with
 |zero=>exact λ_ _ _ _=>trivial
 |succ n ih=>
  intro ps σ L q;rw[jX];have j:=akh (R:=QR R σ.jI σ.dM) (lg:=lg) (ps:=ps) hk z y;revert j;cases fH _ look lg ps with
  |stop=>exact λ_=>(by decide:(7)≠0)
  |tok k m=>
   intro j;have e:=afM rA _ (TkN.tg j (cut ps) (cut m)) (vz R σ ps (lx (cut ps) (cut m) k)) (q.jo rfl rfl);dsimp only;revert e;cases mx _ _ _ with
   |stuck=>exact λ_=>trivial
   |stop c p=>exact λh=>h
   |ok u σ2=>
    intro e;dsimp only;split;exact e;exact ih _ _ _ e
theorem alg{d f l a:Nat}(k:l<=XM.m):NG (S0 d f l a):=⟨k,λn p=>by
 have e:=by
  have:=p;exact List.mem_singleton.1 this
 rw[e];exact⟨by decide,yQ _,by grind⟩,λi e j _=> .inl (by have:=N.dm j;grind[S0])⟩
omit [XM] in
def N2(d f l:Nat)(s:O)(hs:s.size<=1024):@alb ⟨l⟩ (qv d f l s):=@aa2 ⟨l⟩ (vQ s l .nilFunc 0) _ _ _ vY (by have:=CJ s;show(qm s).size<=1024;omega) (Int.le_refl _) _ _ _ _ (@alg ⟨l⟩ _ _ _ _ (dr _))
omit [XM] in
def N1(d f l:Nat)(s:O)(hs:s.size<=1024){e:N}{L:List Sp}(h:qv d f l s=.done e L):@NG ⟨l⟩ _ e:=by
 have:=N2 d f l s hs;rw[h]at this;exact this
omit [XM] in
def TE(d f l:Nat)(s:O)(hs:s.size<=1024){c p:Nat}(h:qv d f l s=.stop c p):c≠0:=by
 have:=N2 d f l s hs;rw[h]at this;exact this
end
theorem aa8{j e:List UInt8}(p:e≠[]):∀(k:Nat)(s:List UInt8),s≠[]->Lib.replaceK j e k s≠[]
 |0,s,h=>by assumption
 |k+1,s,h=>by
  rw[Lib.replaceK];grind[List.append_eq_nil_iff]
theorem EV{s:O}(h:0<s.size):0<(kO s).size:=by
 have e2:(kO s).size=(Lib.replaceAll _ (ByteArray.mk #[0]).data.toList (ByteArray.mk #[239,191,189]).data.toList).length:=rfl;have j:s.data.toList≠[]:=λe=>by grind[Lib.size_eq]
 rw[e2];unfold Lib.replaceAll Lib.replace;grind[aa8]
theorem Rn{R:RC}{ps:Nat}(h:ps<R.cs.size):0<(ue R ps).size:=by
 have e:=qs (R:=R) (ps:=ps);refine EV ?_;grind[nH,ByteArray.size_extract]
theorem V2{A:Nat->O×O}{n:Nat}{s:O}(i:Nat)(h:kG A n s i=false):∀j,i<=j->j<n->(A j).1≠s:=by
 fun_induction kG A n s i with
 |case1 i hi he=>cases h
 |case2 i hi he ih=>
  grind
 |case3 i hi=>omega
theorem agM{ns:List O}{s:O}(h:GW ns s=false):s∉ns:=λk=>by
 have⟨j,hj,e⟩:=List.getElem_of_mem k;refine V2 0 h j (yQ _) hj ?_;grind[nth]
theorem abE{look:O->Option O}{lg:Nat}{R:RC}{L:iD}{ps:Nat}(p:ps<R.cs.size)(e:oy L):oy (nM R look lg L ps):=by
 unfold nM sr;split;exact e;rename_i j;have j:=agM (by simpa using j);refine⟨?_,λa k=>?_⟩;rw[lV];exact List.nodup_append.2 ⟨e.1,by simp,by grind⟩;rcases List.mem_append.1 k with g|g;exact e.2 a g;grind[Rn]
theorem ah9{R:RC}{look:O->Option O}{lg:Nat}:∀(n:Nat){L:iD} {ps m:Nat} {e:iD},R.cs.size-ps<=n->gV R look lg L ps=.whole m e->oy L->oy e:=by
 intro n
 induction n with
 |zero=>
  grind[Fl]
 |succ n ih=>
  grind[pq,qs,uR,abE,gV]
theorem Xa{p e:List UInt8}(q:e≠[]):∀(k:Nat)(s:List UInt8),s≠[]->(Lib.replaceK p e k s).head?=s.head?\/(Lib.replaceK p e k s).head?=e.head?
 |0,s,h=> .inl rfl
 |k+1,s,h=>by
  rw[Lib.replaceK];split;simp;cases hi:(Lib.index s p).toNat with
  |zero=>
   obtain⟨a,r,rfl⟩:=List.exists_cons_of_ne_nil q;simp
  |succ j=>
   obtain⟨a,r,rfl⟩:=List.exists_cons_of_ne_nil h;simp
theorem Ws{s:O}(h:0<s.size):(kO s).data.toList.head?=s.data.toList.head?\/(kO s).data.toList.head?=some 239:=by
 have j:s.data.toList≠[]:=λe=>by grind[Lib.size_eq]
 have e:(kO s).data.toList=Lib.replaceAll _ (ByteArray.mk #[0]).data.toList (ByteArray.mk #[239,191,189]).data.toList:=rfl;rw[e];unfold Lib.replaceAll Lib.replace;grind[Xa]
theorem Us{R:RC}{ps:Nat}(h:Do R ps=true):vD R ps≠qR:=by
 unfold Do at h;simp at h;have⟨hp,hl⟩:=h;have q:ps+1<=uC R ps:=by
  unfold uC;rw[Ih hp ?_];exact qf
  .cases hi:fp eW (bt R.cs ps)with
   |false=>rfl
   |true=>
    rw[Sw]at hi;simp at hi;rcases hi with g|g|g|g|g|g<;>(have:=amj (by omega) (by omega) g;grind)
 have u:=Y0 (R:=R) (ps:=ps) (by omega);have k:0<(small (R.cs.extract ps (uC R ps))).size:=by rw[nH,ByteArray.size_extract];omega
 intro e;unfold vD at e;have j:=Ws k;rw[e]at j;rcases j with g|g;have p:bt (small (R.cs.extract ps (uC R ps))) 0=35:=by
  revert g;generalize small (R.cs.extract ps (uC R ps))=x;intro g;have⟨⟨l⟩⟩:=x;cases l with
  |nil=>cases g
  |cons a r=>cases(je g);rfl
 grind[IL,Rr,ByteArray.size_extract,low];grind
theorem Vz(c:Int):0<(Utf8.encode c).size:=by
 unfold Utf8.encode;dsimp only
 repeat' split
 all_goals first|(show 0<1;omega)|(show 0<2;omega)|(show 0<3;omega)|(show 0<4;omega)
theorem Tc{s:O}(h:p6 s≠0):0<(p9 s).size:=by
 grind[Vz,p6,p9,Mh]
theorem JY{look:O->Option O}{s:O}{inV:Bool}(hk:∀x t,look x=some t->0<t.size):∀{k:Nat},qt look s inV k≠0->0<(rG look s inV k).size
 |0,h=>absurd rfl h
 |k+1,h=>by
  unfold qt at h;unfold rG;split;grind[Option.isSome_iff_exists];rename_i g;rw[cZ g]at h;exact JY hk h
theorem Cx{look:O->Option O}{lg:Nat}{s:O}(hk:∀x t,look x=some t->0<t.size)(hs:0<s.size):0<(oA look lg s).size:=by
 unfold oA;split;grind[ByteArray.size_extract];grind[JY,Tc,jq,lu]
def zh(k:OA):Prop:=∀a b,TA (lx a b k)
def RTa:wO->Prop
 | .tok k _=>zh k
 | .stop=>True
theorem zh.plain{k:OA}(h:∀a b,(lx a b k).fc=[]/\(lx a b k).name=⟨#[]⟩/\∀s,(lx a b k).k≠ .gz s):zh k:=λa b=>by
 have⟨h1,h2,h3⟩:=h a b;exact⟨by rw[h1];simp[oy],by grind,by grind⟩
def zh.UW{s:O}(h:0<s.size):zh (.UW s):=λa b=>⟨oy.nil,show gU≠qR by simp,λj e=>by cases e;exact h⟩
def zh.lost:zh .lost:=zh.plain λa b=>⟨rfl,rfl,λs e=>by cases e⟩
def zh.QN(s:O):zh (.QN s):=zh.plain λa b=>⟨rfl,rfl,λs e=>by cases e⟩
def zh.QP:zh .QP:=zh.plain λa b=>⟨rfl,rfl,λs e=>by cases e⟩
def zh.dtp(s:O)(q:Bool):zh (.dtp s q):=zh.plain λa b=>⟨rfl,rfl,λs e=>by cases e⟩
theorem zh.TY{nm:O}{L:iD}(k:nm≠qR)(j:oy L):zh (.TY nm L):=λa b=>⟨j,k,λs e=>by cases e⟩
theorem zh.fin{nm:O}{L:iD}(k:nm≠qR)(j:oy L):zh (.fin nm L):=λa b=>⟨j,k,λs e=>by cases e⟩
section
variable {R:RC}{look:O->Option O}{lg bg ps:Nat}(hk:∀x t,look x=some t->0<t.size)
theorem ai1{e:O->iD->OA}{nm:O}(j:∀L,oy L->zh (e nm L)):RTa (qy R e nm (gV R look lg [] ps)):=by
 cases h:gV R look lg [] ps with
 |stop=>trivial
 |lost=>exact zh.lost
 |whole m L=>exact j L (ah9 _ (dr _) h oy.nil)
include hk
theorem Vh(e:bg<R.cs.size):RTa (sP R look lg bg):=zh.UW (Cx hk (by grind[ByteArray.size_extract]))
theorem ahU(e:bg<R.cs.size):RTa (jc R look lg bg ps):=by
 unfold jc;split;grind[ai1,zh.fin,Us];split;exact zh.lost;split;grind[Vh];exact zh.QN _
theorem aj9(e:bg<R.cs.size):RTa (mu R look lg bg ps):=by
 unfold mu;split;grind[ai1,zh.TY,Us]
 repeat' split
 grind[ahU];exact zh.QN _;exact zh.dtp _ _;exact zh.QN _;exact zh.QN _;grind[Vh]
theorem aml(e:bg<R.cs.size):RTa (vE R look lg bg):=by
 unfold vE;split;exact zh.UW (EV (by grind[ByteArray.size_extract]));exact zh.UW (EV (Cx hk (by grind[ByteArray.size_extract])))
theorem akg(j:ps<=R.cs.size):RTa (fH R look lg ps):=by
 unfold fH;split;exact zh.QP
 .have e:(rV R ps).cs=R.cs:=by repeat' rfl
  grind[aml,Vh,aj9]
end
theorem ajb:KV.all (λp=>decide (0<p.2.size))=true:=by rfl
theorem aaG:∀x t,mJ KV x=some t->0<t.size:=by
 intro x t h;unfold mJ at h;obtain⟨p,hp,rfl⟩:=Option.map_eq_some_iff.1 h;exact of_decide_eq_true (List.all_eq_true.1 ajb p (List.mem_of_find?_eq_some hp))
theorem aa1{cut:Nat->Nat}(hk:∀x t,look x=some t->t.size<=16)(I:∀x t,look x=some t->0<t.size)(hz:R.cs.size<=1024):∀(n ps:Nat)(σ:N)(L:List Sp),ps<=R.cs.size->GI false σ->∀j F,jX R look lg cut n ps σ L=.done j F->GI false j:=by
 intro n
 induction n with
 |zero=>simp[jX]
 |succ n ih=>
  intro ps σ L T E j F h;rw[jX]at h;have z:=akg (R:=QR R σ.jI σ.dM) (lg:=lg) I T;have y:∀k m,fH (QR R σ.jI σ.dM) look lg ps=.tok k m->m<=R.cs.size:=λk m e=>by
   by_cases P:ps=R.cs.size;have e2:fH (QR R σ.jI σ.dM) look lg ps=.tok .QP ps:=by unfold fH;rw[dd (show ps=(QR R σ.jI σ.dM).cs.size from P)]
   grind;have:=(yd (R:=QR R σ.jI σ.dM) (lg:=lg) (ps:=ps) hk hz (by grind[QR])).1;rw[e]at this;exact this.2.1
  revert h z y;cases fH (QR R σ.jI σ.dM) look lg ps with
  |stop=>simp
  |tok k m=>
   intro h z y;dsimp only at h;have q:=ab5 rA (z (cut ps) (cut m)) (σ:=vz R σ ps (lx (cut ps) (cut m) k)) (E.jo rfl rfl rfl rfl rfl rfl rfl rfl rfl);revert h q;cases mx (dp false rA) _ _ with
   |stuck=>simp
   |stop c p=>simp
   |ok u σ2=>
    intro h q;dsimp only at h;split at h;cases h;exact q;exact ih _ _ _ (y k m rfl) q _ _ h
theorem aa4(d f l:Nat)(s:O)(hs:s.size<=1024){e:N}(h:qv d f l s=.done e L):GI false e:=
 aa1 vY aaG (by grind[CJ,vQ]) _ _ _ _ (yQ _) (ald ..) _ _ h
structure Fo where
 o:List O
 sn:List O
 nm:List O
 fr:Bool
def Ii:O:=qR
def ac5(e s:O):Prop:=(e=Ii/\s=aG)\/(e≠Ii/\wB e s=true)
inductive FoT(most:Nat)(o:List O)(p:O)(sn nm:List O):Bool->It->Fo->Prop
 |att {s t:O}:s∉nm->0<s.size->nm.length<most->FoT most o p sn nm true ⟨5,s,t⟩ ⟨o++[p],sn,nm++[s],true⟩
 |lv {f:Bool} {t:O}:o≠[]->FoT most o p sn nm f ⟨6,p,t⟩ ⟨o,sn,nm,false⟩
 |en {f:Bool} {s t:O}:ac5 p s->gL p=false->FoT most o p sn nm f ⟨4,s,t⟩ ⟨o++[p]++[s],sn++(if Cj s then [s]else []),[],true⟩
 |tx {f:Bool} {s t:O}:0<s.size->gL p=false->p≠Ii->FoT most o p sn nm f ⟨3,s,t⟩ ⟨o++[p],sn,nm,false⟩
 |dt {f:Bool} {s t:O}:p=Ii->FoT most o p sn nm f ⟨1,s,t⟩ ⟨o++[p],sn,nm,false⟩
 |cm {f:Bool} {s t:O}:gL p=false->FoT most o p sn nm f ⟨2,s,t⟩ ⟨o++[p],sn,nm,false⟩
def Ec(most:Nat):List It->Fo->Fo->Prop
 |[],x,y=>x=y
 |a::L,x,z=>∃o p e nm f y,x=⟨o++[p],e,nm,f⟩/\FoT most o p e nm f a y/\Ec most L y z
theorem Ec.app:∀{A B:List It} {x y z:Fo},Ec most A x y->Ec most B y z->Ec most (A++B) x z
 |[],_,_,_,_,h1,h2=>by grind[Ec]
 |_::_,_,_,_,_,⟨o,p,sn,nm,f,y,h0,h1,h2⟩,h3=>⟨o,p,sn,nm,f,y,h0,h1,h2.app h3⟩
theorem Ec.one{o sn nm:List O}{p:O}{a:It}{y:Fo}(h:FoT most o p sn nm f a y):Ec most [a] ⟨o++[p],sn,nm,f⟩ y:=⟨_,_,_,_,_,y,rfl,h,rfl⟩
theorem Yd{most:Nat}{o sn:List O}{p:O}:∀(cU:iD)(nm:List O),(nm++cU.map (·.1)).Nodup->(∀a∈cU,0<a.1.size)->nm.length+cU.length<=most->Ec most (cU.map λa=>⟨5,a.1,a.2⟩) ⟨o++[p],sn,nm,true⟩ ⟨o++[p],sn,nm++cU.map (·.1),true⟩
 |[],nm,_,_,_=>by simp[Ec]
 |a::cU,nm,h1,h2,h3=>by
  rw[oZ,List.append_cons]at h1;rw[sg]at h3;refine⟨_,_,_,_,_,_,rfl,.att (λk=>?_) (h2 a (Oo ..)) (by omega),?_⟩;grind;have j:=Yd (most:=most) (o:=o) (p:=p) (sn:=sn) cU (nm++[a.1]) h1 (λb e=>h2 b (io _ e)) (by grind);grind
structure Io(most h K:Nat)(r:Nat->Nat)(H:Nat->List O)(σ:N):Prop where
 ti:TI (some h) H σ
 hz:h≠0
 h0:H 0=[aG]
 hh:H h=[bZ,aZ]
 ho:∀i,i≠0->i≠h->H i=[]
 al:∀i e,σ.db i=some e->e.di.length<=most
 inv:eJ r σ
 bd:∀i,i<σ.nodes.length->r i<K
 d0:∀i e,σ.db i=some e->e.ff=none->i=0
def tp(i:Nat)(e:sZ):O:=if i=0 then Ii else e.name
def cb(h:Nat)(σ:N):Nd->List O
 | .el j=>if j=h then [aG,bZ,aZ]else (mq σ (.el j)).toList
 |_=>[]
theorem Io.low(F:Io most h K r H σ):∀(n i:Nat)(e:sZ),σ.db i=some e->r i<n->r 0<=r i
 |0,_,_,_,h=>by cases h
 |n+1,i,e,he,hn=>by
  cases hp:e.ff with
  |none=>grind[d0]
  |some p=>
   have⟨ep,h1,_⟩:=F.inv.lY.up i e p he hp;have j:=F.inv.qK.ff i e p he hp;have k:=F.low n p ep h1 (by omega);omega
theorem Io.Ci(F:Io most h K r H σ){j:Nat}{e:sZ}(p:σ.db i=some e)(q:Nd.el j∈e.kids):∃k,σ.db j=some k/\r i<r j/\j≠0:=by
 have⟨k,h1,h2⟩:=F.inv.lY.dn i e j p (uN.2 q);have u:=F.inv.qK.ff j k i h1 h2;grind[low]
theorem agE:∀{ks:List Nd},s∈uI σ ks->∃j,Nd.el j∈ks/\σ.nm j=s
 |[],h=>by cases h
 |k::ks,h=>by
  have⟨x,hx,h1⟩:=List.mem_filterMap.1 h;cases x with
  |el j=>
   have e:(if Cj _ then some _ else none)=some s:=h1;grind
  |_=>cases h1
theorem Io.hn(F:Io most h K r H σ):σ.nm h=aG:=by
 have⟨e0,he0⟩:=Option.isSome_iff_exists.1 F.inv.rU;have e:=F.ti.hb 0 e0 he0;have⟨j,h2,h3⟩:=agE (show(aG)∈uI σ e0.kids by grind[h0]);have⟨ej,h4,_⟩:=F.Ci he0 h2;have k:=F.ti.uh j ej h4 (by grind[N.rH]);grind
def Tj(a:O):wB a aG=false:=by
 unfold wB;rw[dd (by decide+kernel)]
theorem Io.ne(F:Io most h K r H σ){j:Nat}{e:sZ}(k:σ.db i=some e)(q:i≠0)(p:Nd.el j∈e.kids):j≠h:=by
 rintro rfl;have⟨ej,h1,h2⟩:=F.ti.Ci i e k _ p;rw[<-N.rH h1,F.hn,Tj]at h2;grind
theorem acA:∀{ks:List Nd},(∀j,Nd.el j∈ks->j≠h)->ks.flatMap (cb h σ)=uI σ ks
 |[],_=>rfl
 |k::ks,g=>by
  rw[XF,acA λj e=>g j (io _ e)];cases k with
  |el j=>
   grind[cb,uI]
  |_=>rfl
theorem acz(p:σ.nm h=aG):∀{ks:List Nd},(∀j,Nd.el j∈ks->j=h)->ks.flatMap (cb h σ)=(uI σ ks).flatMap λ_=>[aG,bZ,aZ]
 |[],_=>rfl
 |k::ks,g=>by
  rw[XF,acz p λj q=>g j (io _ q)];cases k with
  |el j=>
   obtain rfl:=g j (Oo ..);have e:mq σ (.el j)=some (σ.nm j):=by
    show(if Cj _ then some _ else none)=_;rw[p,dd (by decide+kernel)]
   grind[cb,uI]
  |_=>rfl
theorem Pj{p:O}{g:Nd->Tn}{c:Nd->List O}:∀(ks:List Nd),(∀u∈ks,∀o j nm f,∃q,Ec most (fQ (ED (λ_=>false) (g u))) ⟨o++[p],j,nm,f⟩ ⟨o++[p],j++c u,q,false⟩)->∀o j nm f,∃q y,Ec most (fQ (rq (λ_=>false) (ks.map g))) ⟨o++[p],j,nm,f⟩ ⟨o++[p],j++ks.flatMap c,q,y⟩
 |[],_,o,j,nm,f=>⟨nm,f,by grind[fQ,rq,Ec]⟩
 |k::ks,h,o,j,nm,f=>by
  have⟨nm1,h1⟩:=h k (Oo ..) o j nm f;have⟨nm2,f2,h2⟩:=Pj ks (λu z=>h u (io _ z)) o (j++c k) nm1 false;have e:fQ (rq (λ_=>false) ((k::ks).map g))=fQ (ED (λ_=>false) (g k))++fQ (rq (λ_=>false) (ks.map g)):=by
   rw[oZ,rq,fQ,oi];rfl
  grind[Ec.app]
theorem alJ(name:O)(cU:iD)(ks:List Tn):fQ (ED (λ_=>false) (.el name cU ks))=(⟨4,name,⟨#[]⟩⟩:It)::((cU.map λa=>(⟨5,a.1,a.2⟩:It))++(fQ (rq (λ_=>false) ks)++[⟨6,name,⟨#[]⟩⟩])):=by
 grind[ED,fQ,rE]
theorem adh(F:Io most h K r H σ):∀(k i:Nat)(e:sZ)(u:Nd),σ.db i=some e->u∈e.kids->K<=k+r i->∀o y nm f,∃a2,Ec most (fQ (ED (λ_=>false) (AN σ k u))) ⟨o++[tp i e],y,nm,f⟩ ⟨o++[tp i e],y++cb h σ u,a2,false⟩
 |0,i,e,u,he,I,hk,_,_,_,_=>by
  have:=F.bd i (N.dm he);omega
 |k+1,i,e,u,he,I,hk,o,y,nm,f=>by
  have E:(i≠0->gL e.name=false)->gL (tp i e)=false:=λg=>by
   unfold tp;split;decide+kernel;grind
  have T:=F.ti.Ci i e he u I;have q:=F.inv.lY.kd i e he u I;have a1:i≠0->tp i e≠Ii:=λg=>by unfold tp;rw[cZ g];exact(F.ti.cU i e he).2
  cases u with
  |el j=>
   have⟨ej,h1,h2⟩:=T;have⟨ej',h1',h3,h4⟩:=F.Ci he I;rw[h1]at h1';cases h1';have a0:ac5 (tp i e) ej.name:=by
    by_cases g:i=0;rw[dd g]at h2;exact .inl ⟨by grind[tp],h2⟩;rw[cZ g]at h2;exact .inr ⟨a1 g,by grind[tp]⟩
   have hv:=E λg=>by grind
   have a3:tp j ej=ej.name:=by unfold tp;rw[cZ h4]
   have z:AN σ (k+1) (.el j)=.el ej.name ej.di (ej.kids.map (AN σ k)):=by
    show(match σ.db j with|some e=>Tn.el e.name e.di (e.kids.map (AN σ k))|none=>Ck)=_
    rw[h1]
   rw[z,alJ];have⟨⟨ha,hb⟩,_⟩:=F.ti.cU j ej h1;have p1:=Yd (most:=most) (o:=o++[tp i e]) (p:=ej.name) (sn:=y++if Cj ej.name then [ej.name]else []) ej.di [] (by grind) hb (by have:=F.al j ej h1;grind);have⟨nm2,f2,p2⟩:=Pj (most:=most) (p:=ej.name) (g:=AN σ k) (c:=cb h σ) ej.kids (λu I=>by
    have:=adh F k j ej u h1 I (by omega);simp_all) (o++[tp i e]) (y++if Cj ej.name then [ej.name]else []) ([]++ej.di.map (·.1)) true
   have es:(y++if Cj ej.name then [ej.name]else [])++ej.kids.flatMap (cb h σ)=y++cb h σ (.el j):=by
    rw[se,acA λx hx=>F.ne h1 h4 hx,F.ti.hb j ej h1]
    congr 1
    by_cases g:j=h;subst g;have:=F.hn;rw[N.rH h1]at this;rw[show cb j σ (.el j)=[aG,bZ,aZ]from dd rfl,this,F.hh,dd (by decide+kernel)];rfl;rw[show cb h σ (.el j)=(mq σ (.el j)).toList from cZ g,F.ho j h4 g,xB];show _=(if Cj (σ.nm j)then some (σ.nm j)else none).toList;grind[N.nm]
   rw[es]at p2;exact⟨nm2,_,_,_,_,_,_,rfl,.en a0 hv,p1.app (p2.app (Ec.one (.lv (by simp))))⟩
  |tx c=>
   have g0:i≠0:=T.1;unfold N.eZ at q;dsimp only at q;split at q;rename_i s P;have z:AN σ (k+1) (.tx c)=.tx s:=by
    show(match σ.nodes[c]? with|some (.tx s)=>Tn.tx s|_=>Ck)=_
    rw[P]
   rw[z];refine⟨nm,?_⟩;show Ec most [⟨3,s,⟨#[]⟩⟩] _ ⟨_,y++[],nm,false⟩;rw[xB];exact Ec.one (.tx (F.ti.tx c s P) (E λ_=>T.2) (a1 g0));grind
  |cm c=>
   unfold N.eZ at q;dsimp only at q;split at q;rename_i s P;have z:AN σ (k+1) (.cm c)=.cm s:=by
    show(match σ.nodes[c]? with|some (.cm s)=>Tn.cm s|_=>Ck)=_
    rw[P]
   rw[z];refine⟨nm,?_⟩;show Ec most [⟨2,s,⟨#[]⟩⟩] _ ⟨_,y++[],nm,false⟩;rw[xB];exact Ec.one (.cm (E T));grind
  |dt c=>
   have g0:i=0:=T;unfold N.eZ at q;dsimp only at q;split at q;rename_i s P;have z:AN σ (k+1) (.dt c)=.dt s:=by
    show(match σ.nodes[c]? with|some (.dt s)=>Tn.dt s|_=>Ck)=_
    rw[P]
   rw[z];refine⟨nm,?_⟩;show Ec most [⟨1,s,⟨#[]⟩⟩] _ ⟨_,y++[],nm,false⟩;grind[Ec.one,FoT.dt,tp];grind
theorem agz(F:Io most h K r H σ){nm:O}{T:List Tn}(q:AN σ (K+1) (.el 0)=.el nm cU T):∃k u,Ec most (fQ (rq (λ_=>false) T)) ⟨[Ii],[],[],false⟩ ⟨[Ii],[aG,bZ,aZ],k,u⟩:=by
 have⟨e0,he0⟩:=Option.isSome_iff_exists.1 F.inv.rU;have y:AN σ (K+1) (.el 0)=.el e0.name e0.di (e0.kids.map (AN σ K)):=by
  show(match σ.db 0 with|some e=>Tn.el _ _ _|none=>Ck)=_
  rw[he0]
 rw[y]at q;cases q;have⟨nm2,f2,p⟩:=Pj _ (λI z=>adh F K 0 e0 I he0 z (by omega)) [] [] [] false;refine⟨nm2,f2,?_⟩;rw[acz F.hn (λj E=>?_),F.ti.hb 0 e0 he0,F.h0]at p;exact p;have⟨ej,h1,h2⟩:=F.ti.Ci 0 e0 he0 _ E;have:=F.ti.uh j ej h1 h2;grind
def GY(s:O):O:=if da [aG] s then qR else if da [bZ,aZ] s then aG else if da [dq] s then ⟨#[116,98,111,100,121,32,116,104,101,97,100,32,116,102,111,111,116]⟩else if da [dE,dF] s then dq else if da [cJ,cM,cF,cO,bY] s then aV else if da [dz] s then bY else ⟨#[]⟩
def BO:List O:=[aG,bZ,aZ,dq,dE,dF,cJ,cM,cF,cO,bY,dz]
def BE{u:O}{l:List UInt8}(e:u.toList=l)(h:s≠u):(s.toList==l)=false:=by
 rw[<-e];cases hh:s.toList==u.toList with
 |false=>rfl
 |true=>exact absurd (oE hh) h
theorem YG(h:s∉BO):GY s=⟨#[]⟩:=by
 have e:∀l,(∀x∈l,x∈BO)->da l s=false:=λl j=>j9.2 λk=>h (j s k);unfold GY;rw[e _ (by simp[BO]),e _ (by simp[BO]),e _ (by simp[BO]),e _ (by simp[BO]),e _ (by simp[BO]),e _ (by simp[BO])];rfl
def aaQ(s:O)(w:J):Calls prog 16 #[Y s] w λe w'=>e=dw (Y (GY s))/\w'=w:=by
 by_cases h:s∈BO
 .simp only[BO,UQ,pW,pX]at h;rcases h with rfl|rfl|rfl|rfl|rfl|rfl|rfl|rfl|rfl|rfl|rfl|rfl
  all_goals
   go_enter func16,ntmps16;go_wp2;go_ret;exact⟨oX (λx=>Ending.returned (Y x)) (by decide+kernel),rfl⟩
 .rw[YG h];simp only[BO,UQ,pW,pX,not_or]at h;have⟨q,u,y,z,E,F,I,P,T,j,k,p⟩:=h;replace q:=BE (l:=[104,116,109,108]) (by simp) q;replace u:=BE (l:=[104,101,97,100]) (by simp) u;replace y:=BE (l:=[98,111,100,121]) (by simp) y;replace z:=BE (l:=[116,114]) (by simp) z;replace E:=BE (l:=[116,100]) (by simp) E;replace F:=BE (l:=[116,104]) (by simp) F;replace I:=BE (l:=[116,98,111,100,121]) (by simp) I;replace P:=BE (l:=[116,104,101,97,100]) (by simp) P;replace T:=BE (l:=[116,102,111,111,116]) (by simp) T;replace j:=BE (l:=[99,97,112,116,105,111,110]) (by simp) j;replace k:=BE (l:=[99,111,108,103,114,111,117,112]) (by simp) k;replace p:=BE (l:=[99,111,108]) (by simp) p;go_enter func16,ntmps16;go_wp2;go_ret;simp
def aen(s:O):(GY s).size<=1000:=by
 unfold GY
 (repeat' split)<;>decide
def EnF(p s:O)(b:O)(e:Bool):Prop:=((p.toList==[35])=true/\(s.toList==[104,116,109,108])=true/\e=true/\b.toList.isEmpty=false/\Cj s=true)\/((p.toList==[35])=false/\(s.toList==[104,116,109,108])=false/\(b.toList==[104,116,109,108])=true/\e=true/\b.toList.isEmpty=false/\Cj s=true)\/((p.toList==[35])=false/\(s.toList==[104,116,109,108])=false/\(b.toList==[104,116,109,108])=false/\e=true/\b.toList.isEmpty=false/\Cj s=false)\/((p.toList==[35])=false/\(s.toList==[104,116,109,108])=false/\b.toList=[]/\Cj s=false)
theorem aad{p:O}(h:ac5 p s):EnF p s (GY s) (ZE p (GY s) ((GY s).size+1) 0 0):=by
 rcases h with⟨rfl,rfl⟩|⟨E,j⟩;exact .inl ⟨by simp[Ii],by simp,by decide+kernel,by decide+kernel,by decide+kernel⟩
 .refine .inr ?_;have k:(p.toList==[35])=false:=BE (u:=Ii) (by simp[Ii]) E;by_cases q:s∈BO
  .simp only[BO,UQ,pW,pX]at q;have y:∀a:O,da [a] p=true->p=a:=λa h=>by simpa using Jv h
   rcases q with rfl|rfl|rfl|rfl|rfl|rfl|rfl|rfl|rfl|rfl|rfl|rfl;rw[Tj]at j;cases j
   all_goals
    unfold wB at j
    repeat first|rw[dd (by decide+kernel)]at j|rw[cZ (by decide+kernel)]at j
   iterate 2
    refine .inl ⟨k,by simp,by decide+kernel,?_,by decide+kernel,by decide+kernel⟩;rw[y aG j];decide+kernel
   .refine .inr (.inl ⟨k,by simp,by decide+kernel,?_,by decide+kernel,by decide+kernel⟩);have z:=Jv j;simp only[UQ,pW,pX]at z;rcases z with rfl|rfl|rfl<;>decide+kernel
   all_goals
    refine .inr (.inl ⟨k,by simp,by decide+kernel,?_,by decide+kernel,by decide+kernel⟩)
    first|rw[y dq j]|rw[y aV j]|rw[y bY j]
    decide+kernel
  refine .inr (.inr ⟨k,BE (u:=aG) (by simp) (λe=>q (by rw[e];simp[BO])),by grind[YG,ByteArray.toList_mk],j9.2 (λF=>q ?_)⟩);grind[BO]
def strs(l:List O):List cY:=l.map Value.string
abbrev SR(w W:J)(v:cY)(l:List O):Prop:=W.ownsRow w.heap.size 9 1 v l.length (strs l)
structure O3(w W:J)(a b c:cY)(A B C:List O):Prop where
 ra:SR w W a A
 rb:SR w W b B
 rc:SR w W c C
 ab:∀k,a.ownBlock=some k->b.ownBlock≠some k
 bc:∀k,b.ownBlock=some k->c.ownBlock≠some k
 ca:∀k,c.ownBlock=some k->a.ownBlock≠some k
 kp:Z [] w W
def O3.rot{c:cY}(h:O3 w W a b c A B C):O3 w W b c a B C A:=⟨h.rb,h.rc,h.ra,h.bc,h.ca,h.ab,h.kp⟩
def O3.lay{e:J}{c:cY}(h:O3 w W a b c A B C)(k:Z [] W e):O3 w e a b c A B C:=
 ⟨k.ownsRow h.ra (λ_ _=>by simp),k.ownsRow h.rb (λ_ _=>by simp),k.ownsRow h.rc (λ_ _=>by simp),h.ab,h.bc,h.ca,h.kp.trans k⟩
theorem O3.ZF{c:cY}(h:O3 w W a b c A B C):O3 w (W.alloc (cV #[] 9)) a b (ky W.heap.size 0 0) A B []:=by
 have k:Z [] W (W.alloc (cV #[] 9)):=(Z.refl _ _).alloc _;refine⟨k.ownsRow h.ra (λ_ _=>by simp),k.ownsRow h.rb (λ_ _=>by simp),⟨rfl,.inr ⟨W.heap.size,0,#[],rfl,h.kp.size,aY W _,dr _,by simp,rfl,rfl⟩⟩,h.ab,λq hq e=>?_,λq hq e=>?_,h.kp.trans k⟩;have:=(h.rb.lt q hq).2;cases e;grind;have:=(h.ra.lt q e).2;cases hq;grind
theorem O3.pop{c:cY}(h:O3 w W (ky g (A.length+1) cap) b c (A++[s]) B C):O3 w W (ky g A.length cap) b c A B C:=by
 refine⟨ownsRow_pop (last:=[Y s]) (by simp[strs]) ?_,h.rb,h.rc,h.ab,h.bc,h.ca,h.kp⟩;have:=h.ra;grind[strs]
def adD:(prog.info? 9).map (λi=>(i.zero,i.size,i.bytes))=some (some (Y gU),1,16):=by kernel_rfl
theorem wh{F:Array Oper}{q:List Oper}{T:Oper}{p:Act}{Q:Exit->Act->J->Prop}(a0:T.guard=none)(s' x':Operand)(ho:T.op=.call {callee:=.builtin .append,args:=#[s',x'],argTypes:=#[46,46]}){c:cY}(h:O3 w W a b c A B C)(hs:p.eval s'=a)(hx:p.eval x'=ky W.heap.size 1 1)(hl:A.length<=1000000001)(K:∀I P,O3 w P I b c (A++[s]) B C->wpList prog F Q q (p.put T.dst I) P):wpList prog F Q (T::q) p (W.alloc (cV #[Y s] 9)):=by
 obtain⟨i0,hi,a1,a2,a3⟩:=rQ adD;have z:=h.kp.size;refine fw _ a0 s' x' 46 ho w.heap.size 9 i0 (Y gU) 1 16 underlying46 hi a1 a2 a3 rfl (by decide) a A.length (strs A) hs (h.ra.alloc _) ⟨W.heap.size,0,none⟩ 1 1 [Y s] hx rfl (λj u hj=>?_) (λu hu=>?_) (by unfold maxLen;omega) (by omega) (by grind[World.size_alloc]) λI P a5 y a4=>K I P ?_;rw[eL,aN (aY W (cV #[Y s] 9))];grind;rw[List.mem_singleton.1 hu];rfl
 .have k1:Z [] W (W.alloc (cV #[Y s] 9)):=(Z.refl _ _).alloc _;have h1:=h.lay k1;have sz:(W.alloc (cV #[Y s] 9)).heap.size=W.heap.size+1:=xD ..;have nx:∀k,I.ownBlock=some k->a.ownBlock=some k\/W.heap.size<=k:=λk hk=>by
   grind
  refine⟨?_,h1.rb.kept y ?_,h1.rc.kept y ?_,λk hk E=>?_,h.bc,λk hk E=>?_,h1.kp.grown y λk hk=> .inr (h.ra.lt k hk).1⟩;have e:strs (A++[s])=strs A++[Y s]:=by simp[strs]
  grind
  .cases E:b.ownBlock<;>grind[O3.ab]
  .cases E:c.ownBlock<;>grind[O3.ca]
  rcases nx k hk with g|g;grind[O3.ab];have:=(h.rb.lt k E).2;omega;rcases nx k E with g|g;grind[O3.ca];have:=(h.rc.lt k hk).2;omega
theorem SR.cell(h:SR w W (ky g n cap) A){j:Nat}(e:A[j]?=some s):W.cell? ⟨g,j,none⟩=some (Y s):=by
 have:=h.cells (g:=g) rfl j (Y s) (by simp[strs,e]);rw[eL]at this;exact this
theorem SR.form(h:SR w W v A)(q:A≠[]):∃g cap,v=ky g A.length cap/\A.length<=cap/\g<W.heap.size:=by
 rcases h.2 with⟨_,j⟩|⟨g,cap,e,rfl,_,p,k,_⟩
 all_goals grind
theorem aea(w:J):O3 w (((w.alloc (cV #[Y Ii] 9)).alloc (cV #[] 9)).alloc (cV #[] 9)) (ky w.heap.size 1 1) (ky (w.heap.size+1) 0 0) (ky (w.heap.size+1+1) 0 0) [Ii] [] []:=by
 have h:O3 w _ _ _ _ [Ii] [] []:=⟨⟨rfl,.inr ⟨w.heap.size,1,#[Y Ii],rfl,dr _,aY w _,dr _,by unfold maxLen;omega,rfl,rfl⟩⟩,mh _ _ _ _,mh _ _ _ _,λ_ _=>nofun,λ_=>nofun,λ_=>nofun,((Z.refl _ _).alloc _)⟩;have e:=h.rot.rot.ZF.rot.ZF;grind[World.size_alloc]
def agT(g cap:Nat)(L:List It)(most:Nat)(w:J)(hI:xJ w g 0 L.length (x7 L))(hg:g<w.heap.size)(hn:L.length<=1000000000)(hm:most<=16){aa:List O}{f':Bool}(hp:Ec most L ⟨[Ii],[],[],false⟩ ⟨[Ii],[aG,bZ,aZ],aa,f'⟩):
  Calls prog 6 #[ky g L.length cap,G most] w λe w'=>e=dw (.bool true)/\Z [] w w':=by
 have HI:=V hI;have HP:=V hp;have HS:=V (aea w);clear hI hp;go_enter func6,ntmps6;go_wp2
 go_loopw [5,6,7,8,9] (λo s n f i wr=>∃(x:Fo)(k:Nat),f=.bool x.fr/\i=G k/\k<=L.length/\(x.o.length<=k+1/\x.sn.length<=k/\x.nm.length<=k)/\Hid (Ec most (L.drop k) x ⟨[Ii],[aG,bZ,aZ],aa,f'⟩)/\Hid (O3 w wr o s n x.o x.sn x.nm)) (λ_ _ _ _ i _=>L.length-(intOf i).toNat)
 case atStart=>
  exact⟨⟨[Ii],[],[],false⟩,0,rfl,rfl,yQ _,by simp,V (by rw[List.drop_zero];exact HP.out),HS⟩
 case round=>
  obtain⟨x,k,rfl,rfl,hk,F,hq,P⟩:=hrel;clear HP HS;by_cases h1:k<L.length
  .have HC:Hid (∀W,Z [] w W->W.cell? ⟨g,k*3,none⟩=some (G (x7 L k).k)/\W.cell? ⟨g,k*3+1,none⟩=some (Y (x7 L k).s)):=V λW hW=>by
    have R:=HI.out.kept hW hg;have c0:=R.c0 k h1;have c1:=R.c1 k h1;simp only[Nat.zero_add]at c0 c1;exact⟨c0,c1⟩
   have HQ:=hq.out;rw[drop_at h1]at HQ;obtain⟨o,p,sn,nm,f,y,rfl,hT,ag⟩:=HQ;have E:=V ag;clear hq ag HI;generalize x7 L k=a at *;obtain⟨ka,I,ta⟩:=a;obtain⟨c0,c1⟩:=HC.out wr P.out.kp;dsimp only at c0 c1 F P HC|-;obtain⟨go,ac,rfl,af,al⟩:=P.out.ra.form (by simp);have ct:=P.out.ra.cell (j:=o.length) (s:=p) (by simp);obtain⟨av,cv,rfl⟩:=cP P.out.rb;obtain⟨an,cn,rfl⟩:=cP P.out.rc;have CA:=V (Rg p sN wr (by decide));simp only[XD,sg,tX]at af F;go_wp21;refine CA.out.mono ?_;rintro e W'⟨rfl,T⟩;rw[T];clear T W' CA;rw[show ZE p sN (sN.size+1) 0 0=gL p from afZ p];have a0:Hid (∀(y2:Fo)(a b c:cY)(z:Int)(W:J),z=k+1->y2.o.length<=k+1+1/\y2.sn.length<=k+1/\y2.nm.length<=k+1->Ec most (L.drop (k+1)) y2 ⟨[Ii],[aG,bZ,aZ],aa,f'⟩->O3 w W a b c y2.o y2.sn y2.nm->(∃(x:Fo)(a7:Nat),Value.bool y2.fr=.bool x.fr/\Value.int .i64 z=G a7/\a7<=L.length/\(x.o.length<=a7+1/\x.sn.length<=a7/\x.nm.length<=a7)/\Hid (Ec most (L.drop a7) x ⟨[Ii],[aG,bZ,aZ],aa,f'⟩)/\Hid (O3 w W a b c x.o x.sn x.nm))/\L.length-(intOf (G z)).toNat<L.length-(intOf (G k)).toNat):=by
    refine V ?_;rintro y2 a b c _ W rfl h2 h3 h4;exact⟨⟨y2,k+1,rfl,rfl,h1,h2,V h3,V h4⟩,by simp[intOf];omega⟩
   have HO:Hid (O3 w wr (ky go (o.length+1) ac) (.slice av sn.length cv) (.slice an nm.length cn) (o++[p]) sn nm):=V (by
    have:=P.out;rw[show(o++[p]).length=o.length+1 by simp]at this;exact this)
   have HL:=V F;have HN:=V hn;clear P F;cases hT with
   |cm hv=>
    rw[hv];go_wp21;exact a0.out ⟨o++[p],sn,nm,false⟩ _ _ _ _ _ rfl (by have:=HL.out;simp;omega) E.out HO.out
   |dt hp=>
    have ak:(p.toList==[35])=true:=by subst hp;decide+kernel
    clear hp;go_wp21;exact a0.out ⟨o++[p],sn,nm,false⟩ _ _ _ _ _ rfl (by have:=HL.out;simp;omega) E.out HO.out
   |tx hs hv hp=>
    have ak:(p.toList==[35])=false:=BE (u:=Ii) (by decide+kernel) hp;have ap:I.toList.isEmpty=false:=by
     rw[vN];cases hd:I.data.toList with
     |nil=>
       have:I.data.toList.length=0:=by rw[hd];rfl
       have e:I.data.toList.length=I.size:=rfl;omega
     |cons=>rfl
    rw[hv];go_wp21;exact a0.out ⟨o++[p],sn,nm,false⟩ _ _ _ _ _ rfl (by have:=HL.out;simp;omega) E.out HO.out
   |lv ho=>
    have hz:((o.length:Int)+1==1)=false:=beq_eq_false_iff_ne.2 (by
     have:o.length≠0:=λh=>ho (QJ h);omega)
    have F:=HL.out;go_wp21;exact a0.out ⟨o,sn,nm,false⟩ _ _ _ _ _ rfl (by have:=HL.out;simp;omega) E.out HO.out.pop
   |att h2 h3 h4=>
    have ap:I.toList.isEmpty=false:=by
     rw[vN];cases hd:I.data.toList with
     |nil=>
       have:I.data.toList.length=0:=by rw[hd];rfl
       have e:I.data.toList.length=I.size:=rfl;omega
     |cons=>rfl
    have F:=HL.out;have H2:=V h2;clear h2 h3;go_wp21
    go_loopw [12] (λi wq=>∃j:Nat,i=G j/\j<=nm.length/\Hid (O3 w wq (ky go (o.length+1) ac) (.slice av sn.length cv) (.slice an nm.length cn) (o++[p]) sn nm)) (λi _=>nm.length-(intOf i).toNat)
    case atStart=>exact⟨0,rfl,yQ _,HO⟩
    case round=>
     obtain⟨j,rfl,hj,q⟩:=hrel;have e1:=(HC.out wr q.out.kp).2;clear c0 c1 ct HO;by_cases h5:j<nm.length
     .obtain⟨gn,ai,e,_,ax⟩:=q.out.rc.form (λe=>by rw[e]at h5;cases h5);obtain⟨rfl, -,rfl⟩:=Value.slice.inj e;have cj:=q.out.rc.cell (pU h5);have az:(nm[j].toList==I.toList)=false:=by
       cases hh:nm[j].toList==I.toList with
       |false=>rfl
       |true=>exact absurd (sd h5) (λhm=>H2.out (by rw[<-oE hh];exact hm))
      generalize nm[j]=sj at *;go_wp21;go_region
      all_goals (try go_wp21)
      exact⟨⟨j+1,rfl,h5,V (q.out.lay (Z.refl _ _).drew)⟩,by simp[intOf];omega⟩
     .have h6:j=nm.length:=by omega
      subst h6;go_wp2_with (at_builtin;refine wh rfl _ _ rfl q.out.rot.rot rfl rfl (by omega) ?_);intro v' W3 a9;obtain⟨aq,ai,rfl⟩:=cP a9.ra;replace e1:=(HC.out W3 a9.kp).2;have ae:=V a9;rw[show(nm++[I]).length=nm.length+1 by simp]at ae|-;clear a9 q;go_wp21;exact a0.out ⟨o++[p],sn,nm++[I],true⟩ _ _ _ _ _ rfl (by simp;omega) E.out ae.out.rot
   |en he hv=>
    have F:=HL.out;rw[hv];have CP:=V (aaQ I wr);have CI:=V (Rg p (GY I) wr (aen I));go_wp21;refine CP.out.mono ?_;rintro e W'⟨rfl,T⟩;rw[T];clear T W' CP;go_wp21;refine CI.out.mono ?_;rintro e W'⟨rfl,T⟩;rw[T];have EF:=aad he;clear T W' CI he hv;generalize ZE p (GY I) ((GY I).size+1) 0 0=am at *;generalize GY I=pb at *;rcases EF with⟨a1,a2,a3,a4,a5⟩|⟨a1,a2,a3,a4,a5,a6⟩|⟨a1,a2,a3,a4,a5,a6⟩|⟨a1,a2,a3,a4⟩
    iterate 2
     focus
      first|rw[a5]at E|rw[a6]at E
      go_wp2_with (at_builtin;refine wh rfl _ _ rfl HO.out.rot rfl rfl (by omega) ?_);intro v1 W1 a8;obtain⟨ar,au,rfl⟩:=cP a8.ra;have e1:=(HC.out W1 a8.kp).2;have ad:=V a8;clear a8 HO c0 c1 ct;go_wp2_with (at_builtin;refine wh rfl _ _ rfl ad.out.rot.rot rfl rfl (by simp;omega) ?_);intro v2 W2 q;obtain⟨ah,aj,rfl⟩:=cP q.ra;have e2:=(HC.out _ q.ZF.kp).1;have ab:=V q.ZF;clear q ad e1;go_wp21;exact a0.out ⟨o++[p,I],sn++[I],[],true⟩ _ _ _ _ _ rfl (by simp;omega) (by have:=E.out;simpa using this) ab.out
    all_goals
     first|rw[a6]at E|rw[a4]at E
     go_wp2_with (at_builtin;refine wh rfl _ _ rfl HO.out rfl rfl (by simp;omega) ?_);intro v2 W2 q;obtain⟨ah,aj,rfl⟩:=cP q.ra;have e2:=(HC.out _ q.ZF.kp).1;have ab:=V q.ZF;clear q HO c0 c1 ct;go_wp21;exact a0.out ⟨o++[p,I],sn,[],true⟩ _ _ _ _ _ rfl (by simp;omega) (by have:=E.out;simpa using this) ab.out
  .have ao:k=L.length:=by omega
   have h3:=hq.out;rw[ao,List.drop_length]at h3;have h4:x=_:=h3;subst h4;dsimp only at P|-;obtain⟨go,ac,rfl,af,al⟩:=P.out.ra.form (by simp);obtain⟨gs,cs,rfl,aw,ay⟩:=P.out.rb.form (by simp);obtain⟨an,cn,rfl⟩:=cP P.out.rc;have s0:=P.out.rb.cell (j:=0) rfl;have s1:=P.out.rb.cell (j:=1) rfl;have s2:=P.out.rb.cell (j:=2) rfl;have HK:=V P.out.kp;clear P hq h3;go_wp2;go_ret;exact⟨rfl,HK.out⟩
def KN(w w':J):Prop:=∀(k:Nat)(c:fN)(t:TypeId),w.heap[k]?=some (cV c t)->t∈XJ->w'.heap[k]?=some (cV c t)
def KN.fS(h:Z S w w')(e:∀k∈S,∀c t,w.heap[k]?=some (cV c t)->t∉XJ):KN w w':=λk c t hk ht=>h.at hk (λj=>e k j c t hk ht)
theorem KN.row(h:KN w w'){e:TypeId}{size:Nat}{xs:List cY}(k:w.ownsRow base e size v n xs)(u:e∈XJ):w'.ownsRow base e size v n xs:=by
 refine⟨k.1,?_⟩;rcases k.2 with e1|⟨g,cap,j,e1,p,q,r⟩;grind;exact .inr ⟨g,cap,j,e1,p,h g _ _ q u,r⟩
mutual
theorem gr.kn(hk:KN w w'):∀{t:Tn} {n:Nd},gr w t n->gr w' t n
 | .el name cU ks,.el k,h=>by
  unfold gr at h|-;have⟨av,ff,kv,ns,h1,h2,h3,h4⟩:=h;exact⟨av,ff,kv,ns,⟨hk _ _ _ h1.du (by decide),hk.row h1.row (by decide),h1.le,h1.XV⟩,hk.row h2 (by decide),h3,pG.kn hk h4⟩
 | .tx _,.tx _,h=>by unfold gr at h|-;exact hk _ _ _ h (by decide)
 | .cm _,.cm _,h=>by unfold gr at h|-;exact hk _ _ _ h (by decide)
 | .dt _,.dt _,h=>by unfold gr at h|-;exact hk _ _ _ h (by decide)
 | .el _ _ _,.tx _,h=>by grind[gr]
 | .el _ _ _,.cm _,h=>by grind[gr]
 | .el _ _ _,.dt _,h=>by grind[gr]
 | .tx _,.el _,h=>by grind[gr]
 | .tx _,.cm _,h=>by grind[gr]
 | .tx _,.dt _,h=>by grind[gr]
 | .cm _,.el _,h=>by grind[gr]
 | .cm _,.tx _,h=>by grind[gr]
 | .cm _,.dt _,h=>by grind[gr]
 | .dt _,.el _,h=>by grind[gr]
 | .dt _,.tx _,h=>by grind[gr]
 | .dt _,.cm _,h=>by grind[gr]
theorem pG.kn(hk:KN w w'):∀{j:List Tn} {e:List Nd},pG w j e->pG w' j e
 |[],[],_=>by simp[pG]
 |t::j,n::e,h=>by
  unfold pG at h|-;exact⟨gr.kn hk h.1,pG.kn hk h.2⟩
 |[],_::_,h=>by grind[pG]
 |_::_,[],h=>by grind[pG]
end
def EX(d f l:Int)(n:Nat)(v:cY)(k:Nat):fN:=#[G d,G f,G l,gq,.bool true,G n,.nilIface,v,cW k]
def ais(w:J)(D:Tn)(L:List Sp)(e:Ending)(w':J):Prop:=
 ∃v k,e=dw (.tuple #[.agg #[v,cW k],.pointer none])/\gr w' D (.el k)/\w'.ownsRow w.heap.size 75 3 v L.length (gx L)/\L.length<=1024/\Z [] w w'
def Oy(s:O)(d f l:Nat)(D:Tn)(L:List Sp):Prop:=∀(e:cY)(base:Nat)(w:J),w.ownsRow base 5 1 e s.size (iq s)->Hk w->Ll w->
  Calls prog 32 #[e,.agg #[G d,G f,G l]] w (ais w D L)
def ai8(w:J)(D:Tn)(L:List Sp)(j p:cY)(wc:J):Prop:=∃e v k,j=cW e/\p=.pointer none/\w.heap.size<=e/\wc.heap[e]?=some (cV #[v,cW k] 70)/\gr wc D (.el k)/\wc.ownsRow w.heap.size 75 3 v L.length (gx L)/\L.length<=1024/\Z [] w wc
theorem I0{y:J}{e:Ending}(h:ais W D L e y)(hk:Z [] w W):∃v k,e=dw (.tuple #[.agg #[v,cW k],.pointer none])/\(∃ax n ac,v=.slice ax n ac)/\ai8 w D L (cW y.heap.size) (.pointer none) (y.alloc (cV #[v,cW k] 70))/\
  (∀j,w.heap.size<=j->W.heap[j]?=some (cV #[gq,.pointer none] 70)->y.heap[j]?=some (cV #[gq,.pointer none] 70)/\ai8 w D L (cW j) (.pointer none) ((y.setCell ⟨j,0,none⟩ v).setCell ⟨j,1,none⟩ (cW k))):=by
 obtain⟨v,k,rfl,hT,I,F,u⟩:=h;have p:=gS I hk.size;have T:=(Z.refl [] y).alloc (cV #[v,cW k] 70);have⟨ax,ac,hv⟩:=cP I;refine⟨v,k,rfl,by grind,⟨_,v,k,rfl,rfl,fK hk.size u.size,aY y _,gr.kept T hT,T.ownsRow p (λ_ _=>by simp),F,(hk.trans u).trans T⟩,?_⟩;intro j z hg;have E:=u.at hg (by simp);have kS:Z [j] y ((y.setCell ⟨j,0,none⟩ v).setCell ⟨j,1,none⟩ (cW k)):=((Z.refl _ _).setCell (.inl (by simp)) _).setCell (.inl (by simp)) _;refine⟨E,j,v,k,rfl,rfl,z,bJ (bJ E 0 _) 1 _,gr.kn (KN.fS kS (λq hq c t P ht=>?_)) hT,kS.ownsRow p (λq hq hm=>?_),F,((hk.trans u).setCell (.inr z) _).setCell (.inr z) _⟩;have e:=List.mem_singleton.1 hq;subst e;rw[E]at P;simp at P;rw[<-P.2]at ht;revert ht;decide;rcases p.2 with⟨e2,_⟩|⟨q',a0,a1,e2,_,P,_⟩;rw[e2]at hq;cases hq;rw[e2]at hq;have e3:=je hq;grind
def Hj(w:J)(e d f l:Nat)(s:O)(D:Tn)(L:List Sp)(w':J):Prop:=∃v k,w'.heap[e]?=some (cV (EX d f l s.size v k) 72)/\gr w' D (.el k)/\w'.ownsRow w.heap.size 75 3 v L.length (gx L)/\L.length<=1024/\Z [e] w w'
def Vm(u d f l:Nat)(tv:cY)(s:O)(base:Nat)(w:J)(I:w.heap[u]?=some (cV (qz ((d:Int),(f:Int),(l:Int)) tv) 72))(ho:w.ownsRow base 5 1 tv s.size (iq s))(hT:Hk w)(hg:Ll w)(hn:Oy s d f l D L):
  Calls prog 22 #[cW u] w λe w'=>e=.returned .nilIface/\Hj w u d f l s D L w':=by
 have⟨ao,cp,htv⟩:=cP ho;subst htv;have a4:=eS I;have c0:w.cell? ⟨u,0,none⟩=some (G d):=by rw[aN I];rfl
 have c1:w.cell? ⟨u,1,none⟩=some (G f):=by rw[aN I];rfl
 have c2:w.cell? ⟨u,2,none⟩=some (G l):=by rw[aN I];rfl
 have c3:w.cell? ⟨u,3,none⟩=some (.slice ao s.size cp):=by rw[aN I];rfl
 have CI:=zz u ((d:Int),(f:Int),(l:Int)) _ w I;have CR:=(λW (hk:Z [] w W)=>hn (.slice ao s.size cp) base W (hk.ownsRow ho (λ_ _=>by simp)) (hT.fr (bm:=0) (.df hk)) (hg.kept hk));have HX:=I;have HG:=aY w.drew (cV #[gq,.pointer none] 70);go_enter func22,ntmps22;go_wp21;refine CI.mono ?_;rintro e z⟨rfl,rfl⟩;go_wp21
 go_cut [3,4]from 8 to 19 (λv3 v4 wc=>ai8 z D L v3 v4 wc)
 case first=>
  go_region_with (go_at_call 32;first
   |(refine(CR _ ((Z.refl [] z).drew)).mono ?_;intro e w2 P;obtain⟨v,k,rfl,⟨ax,n,ac,rfl⟩,h1,_⟩:=I0 P ((Z.refl [] z).drew);have T:=V h1;clear h1 P)
   |(refine(CR _ (((Z.refl [] z).drew).alloc _)).mono ?_;intro e w2 P;obtain⟨v,k,rfl,⟨ax,n,ac,rfl⟩,_,h2⟩:=I0 P (((Z.refl [] z).drew).alloc _);have⟨h3,h4⟩:=h2 z.heap.size (dr _) HG;have q0:w2.cell? ⟨z.heap.size,0,none⟩=some (gq):=(by rw[aN h3];rfl);have q1:w2.cell? ⟨z.heap.size,1,none⟩=some (.pointer none):=(by rw[aN h3];rfl);have z0:=cQ h3 0;have z1:=cQ h3 1;have T:=V h4;clear h2 h3 h4 P))
  all_goals (try (go_wp21))
  all_goals (go_meet;exact T)
 case rest=>
  obtain⟨Tb,v,k,rfl,rfl,a3,hg,E,y,F,hk⟩:=hcut;have⟨ax,ac,hv⟩:=cP y;subst hv;have j:=hk.at HX (by simp);have e3:wc.cell? ⟨u,3,none⟩=some (.slice ao s.size cp):=by rw[aN j];rfl
  have e4:wc.cell? ⟨u,4,none⟩=some (.bool false):=by rw[aN j];rfl
  have e5:wc.cell? ⟨u,5,none⟩=some (G 0):=by rw[aN j];rfl
  have e7:wc.cell? ⟨u,7,none⟩=some (gq):=by rw[aN j];rfl
  have e8:wc.cell? ⟨u,8,none⟩=some (.pointer none):=by rw[aN j];rfl
  have t0:wc.cell? ⟨Tb,0,none⟩=some (.slice ax L.length ac):=by rw[aN hg];rfl
  have t1:wc.cell? ⟨Tb,1,none⟩=some (cW k):=by rw[aN hg];rfl
  have f4:=cQ j 4;have f5:=cQ j 5;have f7:=cQ j 7;have f8:=cQ j 8;have a5:Tb≠u:=by omega
  have a2:u≠Tb:=by omega
  have a1:=eS j;have HP:=And.intro j (And.intro E (And.intro y (And.intro F hk)));go_wp21
  go_cut []from 20 to 34 (λwd=>wd.heap[u]?=some (cV #[G d,G f,G l,.slice ao s.size cp,.bool true,G s.size,.nilIface,.slice ax L.length ac,cW k] 72)/\Z [u] wc wd)
  case first=>
   go_region
   all_goals (try (go_wp21))
   all_goals (go_meet;exact⟨bJ (bJ (bJ (bJ HP.1 _ _) _ _) _ _) _ _,(((((Z.refl [u] wc).setCell (.inl (by simp)) _).setCell (.inl (by simp)) _).setCell (.inl (by simp)) _).setCell (.inl (by simp)) _).drew⟩)
  case rest=>
   have⟨hx3,hk3⟩:=hcut;have⟨j,E,y,F,hk⟩:=HP;have g3:wc.cell? ⟨u,3,none⟩=some (.slice ao s.size cp):=by rw[aN hx3];rfl
   have g6:wc.cell? ⟨u,6,none⟩=some .nilIface:=by rw[aN hx3];rfl
   have y3:=cQ hx3 3;have a0:=eS hx3;have k4:=hk3.trans ((Z.refl [u] wc).setCell (p:=⟨u,3,none⟩) (.inl (by simp)) (gq));have T:Hid (Hj z u d f l s D L (wc.setCell ⟨u,3,none⟩ (gq))):=V ⟨_,k,bJ hx3 3 _,gr.kn (KN.fS k4 (λq hq c t hc ht=>by
     have e:=List.mem_singleton.1 hq;subst e;rw[j]at hc;simp at hc;rw[<-hc.2]at ht;revert ht;decide)) E,k4.ownsRow y (λq hq hm=>by
     have e:=List.mem_singleton.1 hm;subst e;have:=(y.lt _ hq).1;omega),F,(hk.mono (by simp)).trans k4⟩
   go_wp2;go_ret;exact⟨rfl,T⟩
def ahm(j d f l:Nat)(p:cY)(s:O)(base:Nat)(w:J)(I:w.heap[j]?=some (cV (qz ((d:Int),(f:Int),(l:Int)) p) 72))(F:w.ownsRow base 5 1 p s.size (iq s))(y:Hk w)(z:Ll w)(E:Oy s d f l D L):
  Calls prog 10 #[cW j] w λe w'=>e=dw (.tuple #[G 0,G 0])/\Hj w j d f l s D L w':=by
 have C:=Vm j d f l p s base w I F y z E;go_enter func10,ntmps10;go_wp21;refine C.mono ?_;rintro e P⟨rfl,q⟩;go_wp21;refine(DZ P).mono ?_;rintro e T⟨rfl,hk⟩;have u:Hid (Hj w j d f l s D L T):=by
  have⟨v,k,h1,h2,h3,h4,h5⟩:=q;exact V ⟨v,k,hk.at h1 (by simp),gr.kept hk h2,hk.ownsRow h3 (λ_ _=>by simp),h4,h5.trans (hk.mono (by simp))⟩
 go_wp2;go_ret2;exact⟨rfl,u⟩
def Ask.toW{bm:Nat}{q:O->Bool}(h:Ask bm v q w):ai5 w v q:=by
 have⟨k,lb,hv,he,ha⟩:=h.call;exact⟨k,lb,hv,he,λW hk s=>ha W (.df hk) s⟩
def ZR(base:Nat)(v:cY)(L:List Sp)(w:J)(k:w.ownsRow base 75 3 v L.length (gx L))(hL:L.length<=4096):
  Calls prog 27 #[v] w λe w'=>∃q,e=dw q/\w'.ownsRow w.heap.size 75 3 q L.length (gx L)/\Z [] w w':=by
 have⟨i0,hi,hz0,hz1,hz2⟩:=rQ Nn;rcases k.2 with⟨rfl,h0⟩|⟨g,cap,a0,rfl,a1,hg,_⟩
 .have hn:=λw=>Ch (P:=prog) w 25 75 none 0 0 0 0 underlying25;have:L=[]:=QJ h0;subst this;clear k;go_enter func27,ntmps27;go_wp2;go_ret;exact⟨_,rfl,mh _ _ _ _,Z.refl _ _⟩
 .have hn:=λw=>Ch (P:=prog) w 25 75 (some ⟨g,0,none⟩) L.length cap 0 0 underlying25;have HO:=V k;have z:=eS hg;have I:(w.alloc (.cells #[] 75)).ownsRow w.heap.size 75 3 (ky w.heap.size 0 0) 0 []:=
   ⟨rfl,.inr ⟨w.heap.size,0,#[],rfl,dr _,aY w _,dr _,yQ _,rfl,rfl⟩⟩
  clear k;go_enter func27,ntmps27;go_wp2_with (at_builtin;refine fw _ rfl _ _ 25 rfl w.heap.size 75 i0 (.agg #[G 0,G 0,G 0]) 3 24 underlying25 hi hz0 hz1 hz2 rfl (by decide) _ _ _ rfl I ⟨g,0,none⟩ L.length cap (gx L) rfl ?c1 ?c2 ?c3 ?c4 ?c5 ?c6 ?_)
  case c1=>exact pS L
  case c2=>
   intro j u hj;have:=HO.cells (g:=g) rfl j u hj;rw[eL]at this|-;rw[<-this];exact Lf _ _ _ z
  case c3=>
   intro u F;unfold gx at F;simp at F;obtain⟨p,_,h|h|h⟩:=F<;>(subst h;rfl)
  case c4=>omega
  case c5=>omega
  case c6=>simp
  intro q T E y a2;have HF:T.ownsRow w.heap.size 75 3 q L.length (gx L):=by simpa using E
  have HK:Hid (Z [] w T):=((Z.refl [] w).alloc _).grown y (λx hx=> .inr (I.lt x hx).1);go_wp2;go_ret;exact⟨_,rfl,HF,HK⟩
def Xo(j:Nat)(d f l:Int)(n k:Nat)(v:cY)(w:J)(p:w.heap[j]?=some (cV (EX d f l n v k) 72)):
  Calls prog 23 #[cW j] w λe w'=>e=dw (.tuple #[G n,.nilIface])/\Z [] w w':=by
 have u:w.cell? ⟨j,4,none⟩=some (.bool true):=by rw[aN p];rfl
 have y:w.cell? ⟨j,5,none⟩=some (G n):=by rw[aN p];rfl
 have z:w.cell? ⟨j,6,none⟩=some .nilIface:=by rw[aN p];rfl
 have q:=eS p;go_enter func23,ntmps23;go_wp21;go_region
 all_goals (try go_wp2)
 all_goals (try go_ret2)
 all_goals exact⟨rfl,(Z.refl [] w).drew⟩
def Tq(j:Nat)(d f l:Int)(n k:Nat)(v:cY)(w:J)(q:w.heap[j]?=some (cV (EX d f l n v k) 72)):
  Calls prog 11 #[cW j] w λe w'=>e=dw (.tuple #[G n,G 0,G 0])/\Z [] w w':=by
 go_enter func11,ntmps11;go_wp21;refine(Xo j d f l n k v w q).mono ?_;rintro e u⟨rfl,p⟩;go_wp21;refine(DZ u).mono ?_;rintro e y⟨rfl,hk⟩;go_wp2;go_ret3;exact⟨rfl,(p.trans hk)⟩
theorem akH(j:Nat)(d f l:Int)(n k base:Nat)(v:cY)(L:List Sp)(w:J)(u:w.heap[j]?=some (cV (EX d f l n v k) 72))(q:w.ownsRow base 75 3 v L.length (gx L))(y:L.length<=4096):
  Calls prog 14 #[cW j] w λe w'=>∃p,e=dw p/\w'.ownsRow w.heap.size 75 3 p L.length (gx L)/\Z [] w w':=by
 have I:w.cell? ⟨j,7,none⟩=some v:=by rw[aN u];rfl
 have C:=ZR base v L w q y;have⟨ao,cp,hv⟩:=cP q;subst hv;have z:=eS u;go_enter func14,ntmps14;go_wp21;refine C.mono ?_;rintro e w'⟨p,rfl,E,F⟩;go_wp2;go_ret;simp_all
def Ob(v:cY)(w:J):(ReflectliteType.typeOf #[.iface 76 v]).run prog w=.ok (.iface 144 (.agg #[fR 7 76])) w:=rfl
def Mq(w:J):(ReflectliteType.relation "AssignableTo" ReflectliteType.assignableTo #[.agg #[fR 7 76],.iface 144 (.agg #[fR 7 76])]).run prog w=.ok (.bool true) w:=by kernel_rfl
def Fi(w:J):(ReflectliteType.relation "AssignableTo" ReflectliteType.assignableTo #[.agg #[fR 7 76],.iface 144 (.agg #[fR 7 23])]).run prog w=.ok (.bool false) w:=by kernel_rfl
def Xg(p:Addr)(w:J):(ReflectliteValue.unpack (.iface 76 (.pointer (some p)))).run prog w
  =.ok (.agg #[fR 7 76,cW w.heap.size,.int .u64 150]) (w.alloc (.cells #[.pointer (some p)] 76)):=by kernel_rfl
def abf(w:J):(Rtype.elem? 78).run prog w=.ok (some 76) w:=by kernel_rfl
def amg(p:Addr)(w:J):(ReflectliteValue.mk 76 p ReflectliteValue.flagAddr).run prog w=.ok (.agg #[fR 7 76,.pointer (some p),.int .u64 406]) w:=by kernel_rfl
def aeW(a p:Addr)(W:J)(e:W.cell? a=some (.pointer (some p))):
  (ReflectliteValue.method (ReflectliteValue.valueError "reflectlite.Value.Elem" 0) ReflectliteValue.elem #[.agg #[fR 7 78,.pointer (some a),.int .u64 150]]).run prog W
   =.ok (.agg #[fR 7 76,.pointer (some p),.int .u64 406]) W:=by
 rw[rlm];simp only[Fy,Oc,Result.andThen];simp[ReflectliteValue.elem,loadVar,isAgg,underlying,underlying78,e,Result.andThen,abf,amg]
def abg(a:Addr)(w:J):(ReflectliteValue.parts (.agg #[fR 7 76,.pointer (some a),.int .u64 406])).run prog w=.ok (some (76,a,406)) w:=rfl
def aeX(a:Addr)(w:J):(ReflectliteValue.parts (.agg #[fR 7 76,.pointer (some a),.int .u64 150])).run prog w=.ok (some (76,a,150)) w:=rfl
def abe(w:J):(Rtype.directlyAssignable 76 76).run prog w=.ok true w:=by rfl
theorem akC(e b p:Addr)(j:cY)(W:J)(k:W.cell? b=some (.pointer (some p)))(ht:W.cell? e=some j)(q:W.frozen? e=false):
  (ReflectliteValue.set #[.agg #[fR 7 76,.pointer (some e),.int .u64 406],.agg #[fR 7 76,.pointer (some b),.int .u64 150]]).run prog W
   =.ok (.tuple #[]) (W.setCell e (.pointer (some p))):=by
 rw[rls];simp only[Fy,abg,aeX,Result.andThen];simp[ReflectliteValue.flagAddr,loadVar,isAgg,underlying,underlying76,k,Result.andThen,abe,storeVar,Value.cells,storeCells,Addr.add];rw[run_store prog W e _ _ rfl];grind
def ahX(v:cY)(e:TypeId)(w:J):(Instr.typeAssert (.iface 76 v) e 148 true).run prog w=.ok (.tuple #[.nilIface,.bool false]) w:=run_typeAssert_lacksB underlying148 (by kernel_rfl) (rfl) v e w
def ahY(v:cY)(e:TypeId)(w:J):(Instr.typeAssert (.iface 76 v) e 155 true).run prog w=.ok (.tuple #[.nilIface,.bool false]) w:=run_typeAssert_lacksB underlying155 (by kernel_rfl) (rfl) v e w
def DQ(v:cY)(e:TypeId)(w:J):(Instr.typeAssert (.iface 76 v) e 151 true).run prog w=.ok (.tuple #[.iface 76 v,.bool true]) w:=run_typeAssert_hasB underlying151 (by kernel_rfl) v e w
def yO(v:cY)(w:J):(Go.method 496 76 v "Unwrap").run prog w=.ok (409,v) w:=by kernel_rfl
def GC(p n:Nat)(j:Int)(k:Int)(w:J)(q:w.heap[p]?=some (cV #[G k,G j] 81))(y:n=0):
  Calls prog 409 #[fR p n] w λe w'=>e=dw (.iface 23 (G k))/\w'=w:=by
 have u:w.cell? ⟨p,0,none⟩=some (G k):=by simp[World.cell?,q]
 go_wp2;go_ret;simp
def Ri(p t:Addr)(q:cY)(w:J)(z:w.cell? ⟨0,0,none⟩=some (.iface 144 (.agg #[fR 7 54])))(j:w.cell? t=some q)(u:w.frozen? t=false):
  Calls prog 28 #[.iface 76 (.pointer (some p)),.iface 78 (.pointer (some t))] w λI w'=>I=dw (.bool true)/\w'=((((w.alloc (.cells #[.pointer (some t)] 78)).alloc (.cells (rv 78 w.heap.size) 104)).alloc (.cells (rv 78 w.heap.size) 104)).alloc (.cells #[.pointer (some p)] 76)).setCell t (.pointer (some p)):=by
 have h6:=@run_callFunc_extern prog 38 _ (λe=>ReflectliteValue.unpack (e.getD 0 (.tuple #[]))) func38 (by rfl) (by rfl) rfl rfl;have h7:=@run_callFunc_extern prog 39 _ (ReflectliteValue.methodAny (ReflectliteValue.valueError "reflectlite.Value.Type" 0) (λt _ _ _=>ReflectliteType.toType t)) func39 (by rfl) (by rfl) rfl rfl;have h8:=@run_callFunc_extern prog 40 _ (ReflectliteValue.method (ReflectliteValue.valueError "reflectlite.Value.IsNil" 0) ReflectliteValue.isNil) func40 (by rfl) (by rfl) rfl rfl;have a2:=@run_callFunc_extern prog 401 _ (ReflectliteType.abiMethod λt=>do pure (.int .u8 (<-Rtype.kind t))) func401 (by rfl) (by rfl) rfl rfl;have a4:=@run_callFunc_extern prog 422 _ (ReflectliteType.method ReflectliteType.elem) func422 (by rfl) (by rfl) rfl rfl;have a5:=@run_callFunc_extern prog 423 _ (ReflectliteType.relation "Implements" ReflectliteType.implements_) func423 (by rfl) (by rfl) rfl rfl;have T:=@run_callFunc_extern prog 42 _ ReflectliteType.typeOf func42 (by rfl) (by rfl) rfl rfl;have a3:=@run_callFunc_extern prog 420 _ (ReflectliteType.relation "AssignableTo" ReflectliteType.assignableTo) func420 (by rfl) (by rfl) rfl rfl;have a0:=@run_callFunc_extern prog 58 _ (ReflectliteValue.method (ReflectliteValue.valueError "reflectlite.Value.Elem" 0) ReflectliteValue.elem) func58 (by rfl) (by rfl) rfl rfl;have a1:=@run_callFunc_extern prog 59 _ ReflectliteValue.set func59 (by rfl) (by rfl) rfl rfl;have tO:=Ob;have mA:=A7;have E:=Mq;have aa:=Xg;have f6:=Xi;have f7:=ah3;have mK:=YS;have mE:=YR;have mI:=A8;have a9:=aeZ;have a8:=ah2;have F:=ah1;have a7:=Mr;have n8:=aeY ⟨w.heap.size,0,none⟩ t ((w.alloc (.cells #[.pointer (some t)] 78)).alloc (.cells (rv 78 w.heap.size) 104)) (by simp);have y:0<w.heap.size:=by
  rcases Fu w.heap.size with P|h;simp[World.cell?,P]at z;exact h
 have a6:((w.alloc (.cells #[.pointer (some t)] 78)).alloc (.cells (rv 78 w.heap.size) 104)).cell? ⟨0,0,none⟩=some (.iface 144 (.agg #[fR 7 54])):=by
  rw[Lf _ _ ⟨0,0,none⟩ (by simp),Lf _ _ ⟨0,0,none⟩ y];exact z
 have k:t.block<w.heap.size:=by
  rcases dH t.block w.heap.size with h|h;exact h;simp[World.cell?,UP h]at j
 have el:=aeW ⟨w.heap.size,0,none⟩ t (((w.alloc (.cells #[.pointer (some t)] 78)).alloc (.cells (rv 78 w.heap.size) 104)).alloc (.cells (rv 78 w.heap.size) 104)) (by rw[Lf _ _ ⟨w.heap.size,0,none⟩ (by simp;omega)];simp);have st:=akC t ⟨w.heap.size+1+1+1,0,none⟩ p q ((((w.alloc (.cells #[.pointer (some t)] 78)).alloc (.cells (rv 78 w.heap.size) 104)).alloc (.cells (rv 78 w.heap.size) 104)).alloc (.cells #[.pointer (some p)] 76))
  (by rw[World.cell?_alloc_at _ _ _ _ (by simp)];rfl)
  (by rw[Lf _ _ t (by simp;omega),Lf _ _ t (by simp;omega),Lf _ _ t (by simp;omega),Lf _ _ t k];exact j)
  (by rw[FB _ _ t (by simp;omega),FB _ _ t (by simp;omega),FB _ _ t (by simp;omega),FB _ _ t (Nat.ne_of_lt k)];exact u)
 go_enter func28,ntmps28;go_wp2;refine tW 1 ?_;rw[mg];go_wp2;go_ret;exact⟨rfl,rfl⟩
theorem Lv(p:Nat)(j k:Int)(t:Addr)(z:cY)(w:J)(T:w.heap[p]?=some (cV #[G k,G j] 81))(hg:w.cell? ⟨0,0,none⟩=some (.iface 144 (.agg #[fR 7 54])))(u:w.cell? t=some z)(E:w.frozen? t=false):
  Calls prog 28 #[.iface 76 (cW p),.iface 83 (.pointer (some t))] w λev w'=>ev=dw (.bool true)/\w'=((((w.alloc (.cells #[.pointer (some t)] 83)).alloc (.cells (rv 83 w.heap.size) 104)).alloc (.cells (rv 83 w.heap.size) 104)).alloc (.cells #[G k] 23)).setCell t (G k):=by
 have h6:=@run_callFunc_extern prog 38 _ (λq=>ReflectliteValue.unpack (q.getD 0 (.tuple #[]))) func38 (by rfl) (by rfl) rfl rfl;have h7:=@run_callFunc_extern prog 39 _ (ReflectliteValue.methodAny (ReflectliteValue.valueError "reflectlite.Value.Type" 0) (λt _ _ _=>ReflectliteType.toType t)) func39 (by rfl) (by rfl) rfl rfl;have h8:=@run_callFunc_extern prog 40 _ (ReflectliteValue.method (ReflectliteValue.valueError "reflectlite.Value.IsNil" 0) ReflectliteValue.isNil) func40 (by rfl) (by rfl) rfl rfl;have a6:=@run_callFunc_extern prog 401 _ (ReflectliteType.abiMethod λt=>do pure (.int .u8 (<-Rtype.kind t))) func401 (by rfl) (by rfl) rfl rfl;have a8:=@run_callFunc_extern prog 422 _ (ReflectliteType.method ReflectliteType.elem) func422 (by rfl) (by rfl) rfl rfl;have a9:=@run_callFunc_extern prog 423 _ (ReflectliteType.relation "Implements" ReflectliteType.implements_) func423 (by rfl) (by rfl) rfl rfl;have a3:=@run_callFunc_extern prog 42 _ ReflectliteType.typeOf func42 (by rfl) (by rfl) rfl rfl;have a7:=@run_callFunc_extern prog 420 _ (ReflectliteType.relation "AssignableTo" ReflectliteType.assignableTo) func420 (by rfl) (by rfl) rfl rfl;have a4:=@run_callFunc_extern prog 58 _ (ReflectliteValue.method (ReflectliteValue.valueError "reflectlite.Value.Elem" 0) ReflectliteValue.elem) func58 (by rfl) (by rfl) rfl rfl;have a5:=@run_callFunc_extern prog 59 _ ReflectliteValue.set func59 (by rfl) (by rfl) rfl rfl;have tO:=Ob;have ae:=M4;have mA:=A7;have a0:=Fi;have a1:=LN;have af:=RQ;have f6:=Vy;have f7:=agq;have mK:=YS;have mE:=YR;have mI:=A8;have ad:=acT;have ac:=agp;have a2:=ago;have ab:=LO;have x1:=ahX;have x2:=DQ;have x3:=yO;have n8:=acS ⟨w.heap.size,0,none⟩ t ((w.alloc (.cells #[.pointer (some t)] 83)).alloc (.cells (rv 83 w.heap.size) 104)) (by simp);have F:0<w.heap.size:=by
  rcases Fu w.heap.size with h0|h;grind;exact h
 have aa:((w.alloc (.cells #[.pointer (some t)] 83)).alloc (.cells (rv 83 w.heap.size) 104)).cell? ⟨0,0,none⟩=some (.iface 144 (.agg #[fR 7 54])):=by
  rw[Lf _ _ ⟨0,0,none⟩ (by simp),Lf _ _ ⟨0,0,none⟩ F];exact hg
 have y:t.block<w.heap.size:=by
  rcases dH t.block w.heap.size with h|h;exact h;simp[World.cell?,UP h]at u
 have I:=eS T;have HP:Hid ((((w.alloc (.cells #[.pointer (some t)] 83)).alloc (.cells (rv 83 w.heap.size) 104)).alloc (.cells (rv 83 w.heap.size) 104)).heap[p]?=some (cV #[G k,G j] 81)):=by
  show _=_;rw[Below.heap_alloc _ _ _ (by simp;omega),Below.heap_alloc _ _ _ (by simp;omega),Below.heap_alloc _ _ _ I];exact T
 have el:=acR ⟨w.heap.size,0,none⟩ t (((w.alloc (.cells #[.pointer (some t)] 83)).alloc (.cells (rv 83 w.heap.size) 104)).alloc (.cells (rv 83 w.heap.size) 104)) (by rw[Lf _ _ ⟨w.heap.size,0,none⟩ (by simp;omega)];simp);have st:=ajH t ⟨w.heap.size+1+1+1,0,none⟩ k z ((((w.alloc (.cells #[.pointer (some t)] 83)).alloc (.cells (rv 83 w.heap.size) 104)).alloc (.cells (rv 83 w.heap.size) 104)).alloc (.cells #[G k] 23))
  (by rw[World.cell?_alloc_at _ _ _ _ (by simp)];rfl)
  (by rw[Lf _ _ t (by simp;omega),Lf _ _ t (by simp;omega),Lf _ _ t (by simp;omega),Lf _ _ t y];exact u)
  (by rw[FB _ _ t (by simp;omega),FB _ _ t (by simp;omega),FB _ _ t (by simp;omega),FB _ _ t (Nat.ne_of_lt y)];exact E)
 go_enter func28,ntmps28;go_wp2;refine tW 2 ?_;rw[mg];go_wp2_with (go_at_call 409;refine(GC p 0 j k _ HP rfl).mono ?_;rintro e w'⟨rfl,P⟩;subst P);rw[mg];go_wp2;go_ret;exact⟨rfl,rfl⟩
def agO(p:Nat)(j k:Int)(w:J)(E:w.heap[p]?=some (cV #[G k,G j] 81)):
  Calls prog 29 #[.iface 76 (cW p),.iface 23 (G k)] w λe w'=>e=dw (.bool true)/\w'=w:=by
 have⟨i,hi,hcmp⟩:=Option.map_eq_some_iff.1 agn;have T:=@run_callFunc_extern prog 42 _ Extern.ReflectliteType.typeOf func42 (by rfl) (by rfl) rfl rfl;have y:=@run_callFunc_extern prog 421 _ Ry func421 (by rfl) (by rfl) rfl rfl;have tT:=M4;have I:=GM;have mR:=Mo;have x1:=ahY;have x2:=DQ;have x3:=yO;have z:∀w:J,(binOp .eql 54 (.iface 23 (G k)) (.iface 23 (G k))).run prog w=.ok (.bool true) w:=λw=>by
  rw[DN w k k underlying54 underlying23 hi hcmp];simp
 have F:=λw=>run_eql_iface_types (P:=prog) 76 23 (cW p) (G k) underlying54 (by decide) w;have u:Hid (w.heap[p]?=some (cV #[G k,G j] 81)):=E;go_enter func29,ntmps29;go_wp2;refine tW 2 ?_;rw[mg];go_wp2_with (go_at_call 409;refine(GC p 0 j k _ u rfl).mono ?_;rintro e w'⟨rfl,q⟩;subst q);rw[mg];go_wp2;go_ret;exact⟨rfl,rfl⟩
theorem OK(p:Addr)(t:Nat)(j:cY)(w:J)(q:errorType w)(ht:w.heap[t]?=some (cV #[j] 76)):
  Calls prog 28 #[.iface 76 (.pointer (some p)),.iface 78 (cW t)] w λk w'=>k=dw (.bool true)/\w'.heap[t]?=some (cV #[.pointer (some p)] 76)/\Z [t] w w':=by
 refine(Ri p _ j w q (QI ht) (free_of_one ht)).mono ?_;rintro e w'⟨rfl,rfl⟩;refine⟨rfl,one_setCell (v:=j) ?_,(Z.setCell ((((Z.refl _ _).alloc _).alloc _).alloc _|>.alloc _) (.inl (by simp)) _)⟩;grind[Below.heap_alloc]
theorem IA(p:Nat)(e k:Int)(t:Nat)(j:cY)(w:J)(y:w.heap[p]?=some (cV #[G k,G e] 81))(u:errorType w)(ht:w.heap[t]?=some (cV #[j] 23)):
  Calls prog 28 #[.iface 76 (cW p),.iface 83 (cW t)] w λq w'=>q=dw (.bool true)/\w'.heap[t]?=some (cV #[G k] 23)/\Z [t] w w':=by
 refine(Lv p e k _ j w y u (QI ht) (free_of_one ht)).mono ?_;grind[one_setCell,Below.heap_alloc,Z.setCell,Z.alloc,Z.refl]
def aah(p:Nat)(j k:Int)(w:J)(F:w.heap[p]?=some (cV #[G k,G j] 81))(T:errorType w):
  Calls prog 44 #[.iface 76 (cW p)] w λe w'=>e=dw (.tuple #[G k,.bool true])/\Z [] w w':=by
 have u:=pZ (pZ T (.cells #[G 0] 23)) (.cells #[.bool false] 4);have I:=eS F;have y:((w.alloc (.cells #[G 0] 23)).alloc (.cells #[.bool false] 4)).heap[p]?=some (cV #[G k,G j] 81):=by
  rw[Below.heap_alloc _ _ _ (by simp;omega),Below.heap_alloc _ _ _ I];exact F
 have q:=V y;clear F y
 go_enter_defers func44,ntmps44
 go_wp21;refine(IA p j k w.heap.size _ _ q.out u (by rw[Below.heap_alloc _ _ _ (by simp)];exact aY _ _)).mono ?_;rintro e P⟨rfl,z,hk⟩;have E:P.heap[w.heap.size+1]?=some (cV #[.bool false] 4):=by
  refine hk.at ?_ (by simp);have:=aY (w.alloc (.cells #[G 0] 23)) (.cells #[.bool false] 4)
  simpa using this
 have c1:=QI z;have c2:=QI E;have f1:=free_of_one z;have f2:=free_of_one E;have K1:Z [] w P:=((((Z.refl _ _).alloc _).alloc _).trans (S:=[w.heap.size]) hk).mono (by simp);clear hk q;have z1:=eS z;have z2:=eS E;clear z E T u;go_wp21;go_region
 all_goals go_wp2
 refine leaves_cons (f:=60) (args:=#[cW w.heap.size,cW (w.heap.size+1)]) (by simp) (by simp[go_sem]) ?_;refine(Vg ⟨w.heap.size,0,none⟩ ⟨w.heap.size+1,0,none⟩ _).mono ?_;rintro e u' a0⟨rfl,rfl,rfl⟩;have K2:Z [] w (((P.setCell ⟨w.heap.size+1,0,none⟩ (.bool true)).setCell ⟨w.heap.size,0,none⟩ (G k)).setCell ⟨w.heap.size+1,0,none⟩ (.bool true)).drew:=
  (((K1.setCell (.inr (by simp)) _).setCell (.inr (by simp)) _).setCell (.inr (by simp)) _).drew
 simp[Go.Leaves,settle,results,results44,go_sem,c1,c2];exact K2
def Te(p:Nat)(j k:Int)(w:J)(u:w.heap[p]?=some (cV #[G k,G j] 81))(q:errorType w):
  Calls prog 30 #[.iface 76 (cW p)] w λe w'=>e=dw (G k)/\Z [] w w':=by
 go_enter func30,ntmps30;go_wp21;refine(V (aah p j k w u q)).out.mono ?_;rintro e w'⟨rfl,hk⟩;go_wp2;go_ret;exact⟨rfl,hk⟩
theorem Oi(p:Nat)(y k:Int)(w:J)(hp:w.heap[p]?=some (cV #[G k,G y] 81))(hg:errorType w):
  Calls prog 20 #[.iface 76 (cW p)] w λe w'=>e=dw (.tuple #[G k,G y])/\Z [] w w':=by
 have I:=pZ (pZ hg (.cells #[.pointer none] 76)) (.cells #[G 0] 23);have HP:=V hp;have HG:=V hg;clear hp hg;go_enter func20,ntmps20;go_wp21;refine tz (by rfl) ?_;refine ln (λ(g:Unit) z=>⟨#[.iface 76 (cW p),undef,G 0,G 0,cW w.heap.size,cW (w.heap.size+1),.bool false,.iface 76 (cW p),.bool false,cd z 21 (.bool true),cd z 0 (.iface 76 (cW p)),cd z 1 (.iface 78 (cW w.heap.size)),cd z 2 (.bool true),cd z 3 (.bool true),cd z 4 (.iface 76 (cW p)),cd z 5 (cW p),cd z 6 (cW p),cd z 7 (cW p),cd z 8 (G k),cd z 9 (.iface 23 (G k)),cd z 10 (.bool true),cd z 11 (.bool true),cd z 12 (.bool true),cd z 13 (.iface 76 (cW p)),cd z 14 (G k),cd z 15 (cW p),cd z 16 (cW p),cd z 17 (cW p),cd z 18 (G k),cd z 19 (.bool true),cd z 20 (.bool true),undef,undef,undef,undef,undef,undef,undef,undef,undef,undef,undef,undef,undef,undef,undef,undef,undef,undef,undef,undef,undef,undef,undef,undef,undef],[]⟩) (λg z W=>(dn z 2=false->W=((w.alloc (.cells #[.pointer none] 76)).alloc (.cells #[G 0] 23)).drew)/\(dn z 2=true->W.heap[w.heap.size]?=some (cV #[cW p] 76)/\Z [] w W)) 22 [[],[],[0,1],[0,1,2],[0,1,2,3],[0,1,2,3],[0,1,2,3,5],[0,1,2,3,5,6],[0,1,2,3,5,6,7],[0,1,2,3,5,6,7,8],[0,1,2,3,4,5,6,7,8,9],[0,1,2,3,4,5,6,7,8,9,10],[0,1,2,3,4,5,6,7,8,9,10,11],[0,1,2,3,4,5,6,7,8,9,10,11,12],[0,1,2,3,4,5,6,7,8,9,10,11,12,13],[0,1,2,3,4,5,6,7,8,9,10,11,12],[0,1,2,3,4,5,6,7,8,9,10,11,12,15],[0,1,2,3,4,5,6,7,8,9,10,11,12,15,16],[0,1,2,3,4,5,6,7,8,9,10,11,12,15,16,17],[0,1,2,3,4,5,6,7,8,9,10,11,12,13,14,15,16,17,18],[0,1,2,3,4,5,6,7,8,9,10,11,12,13,14,15,16,17,18,19],[0,1,2,3,4,5,6,7,8,9,10,11,12,13,14,15,16,17,18,19,20]] () rfl rfl ⟨λ_=>rfl,λh=>by cases h⟩ ?_ ?_
 .repeat' first|exact iU|refine iT ?_ ?_
  all_goals
   rintro g z W q F hn;simp[yU]at F;refine jO rfl ?_;intro K' u;simp only[iL,F]
   first
   |have⟨E,K1⟩:=q.2 F.2.2.1;have j:=K1.at HP.out (by simp);have c1:=QI E;have c0:=aN j 0;have a0:=eS j;dsimp at c0;go_simp;first
    |refine u _ _ ⟨g,?_,λh=>q.1 (by rwa [iR (by decide)]at h),λh=>q.2 (by grind)⟩
    |refine(agO p y k _ j).mono ?_;rintro e w2⟨rfl,rfl⟩;refine u _ _ ⟨g,?_,λh=>q.1 (by rwa [iR (by decide)]at h),λh=>q.2 (by grind)⟩
    |refine(Te p y k _ j (Jj HG.out K1 (by simp))).mono ?_;rintro e w3⟨rfl,P⟩;refine u _ _ ⟨g,?_,λh=>(by rw[iR (by decide),F.2.2.1]at h;cases h),λ_=>⟨P.at E (by simp),K1.trans P⟩⟩
   |go_simp;refine u _ _ ⟨g,?_,λh=>q.1 (by rwa [iR (by decide)]at h),λh=>q.2 (by rwa [iR (by decide)]at h)⟩
   |obtain rfl:=q.1 F.2.2;go_simp;refine(OK ⟨p,0,none⟩ w.heap.size _ _ (Ji I) (by show((w.alloc _).alloc _).heap[w.heap.size]?=_;rw[Below.heap_alloc _ _ _ (by simp)];exact aY _ _)).mono ?_;rintro e w1⟨rfl,E,hk⟩;refine u _ _ ⟨g,?_,λh=>(by rw[mn]at h;cases h),λ_=>⟨E,(((Z.refl _ _).alloc _).alloc _).drew.next hk (by simp)⟩⟩
   simp[lF,td,iL,F]
 .rintro g W q;simp only[sv];have⟨E,K1⟩:=q.2 sB;have j:=K1.at HP.out (by simp);have c1:=QI E;have c0:=aN j 0;have c9:=aN j 1;have a0:=eS j;dsimp at c0 c9;have T:=V K1;clear q E j K1 I;go_wp21
  go_quiet (fail)
  go_wp2;go_ret2;exact⟨rfl,T.out.next ((Z.refl [] _).drewN _) (by simp)⟩
attribute [local go_sem] Oper.semAt_some
theorem errorType.kept(h:errorType w)(hk:Z S w w')(hs:0∉S):errorType w':=by
 have j:0<w.heap.size:=by
  rcases dH 0 _ with e|e;exact e;unfold errorType at h;simp[World.cell?,UP e]at h
 exact(hk.cell j hs).trans h
def Oz(s:O)(d f l c p:Nat):Prop:=∀(j:cY)(base:Nat)(w:J),w.ownsRow base 5 1 j s.size (iq s)->Hk w->Ll w->
  Calls prog 32 #[j,.agg #[G d,G f,G l]] w λe w'=>Iu w e w' (.stop c p)
def ai7(w:J)(c p:Nat)(j q:cY)(wc:J):Prop:=∃e k,j=cW e/\q=cW k/\w.heap.size<=e/\wc.heap[e]?=some (cV #[gq,.pointer none] 70)/\ic wc k c p/\Z [] w wc
theorem IZ{u:J}{p:Nat}{e:Ending}(h:Iu W e u (.stop c p))(hk:Z [] w W):∃k,e=dw (.tuple #[.agg #[gq,.pointer none],cW k])/\ai7 w c p (cW u.heap.size) (cW k) (u.alloc (cV #[gq,.pointer none] 70))/\
  (∀j,w.heap.size<=j->W.heap[j]?=some (cV #[gq,.pointer none] 70)->u.heap[j]?=some (cV #[gq,.pointer none] 70)/\ai7 w c p (cW j) (cW k) ((u.setCell ⟨j,0,none⟩ (gq)).setCell ⟨j,1,none⟩ (.pointer none))):=by
 obtain⟨k,rfl,E,q⟩:=h;have F:=(Z.refl [] u).alloc (cV #[gq,.pointer none] 70);refine⟨k,rfl,⟨_,k,rfl,rfl,fK hk.size q.size,aY u _,F.at E (by simp),(hk.trans q).trans F⟩,?_⟩;intro j y I;have z:=q.at I (by simp);have P:Z [j] u ((u.setCell ⟨j,0,none⟩ (gq)).setCell ⟨j,1,none⟩ (.pointer none)):=((Z.refl _ _).setCell (.inl (by simp)) _).setCell (.inl (by simp)) _;refine⟨z,j,k,rfl,rfl,y,bJ (bJ z 0 _) 1 _,P.at E (λT=>?_),((hk.trans q).setCell (.inr y) _).setCell (.inr y) _⟩;grind[ic]
def yj(d f l:Int)(p k:Nat):fN:=#[G d,G f,G l,gq,.bool true,G p,.iface 76 (cW k),gq,.pointer none]
def Cn(w:J)(e d f l c p k:Nat)(w':J):Prop:=w'.heap[e]?=some (cV (yj d f l p k) 72)/\ic w' k c p/\Z [e] w w'
def Vn(j d f l:Nat)(tv:cY)(s:O)(base:Nat)(w:J)(z:w.heap[j]?=some (cV (qz ((d:Int),(f:Int),(l:Int)) tv) 72))(ho:w.ownsRow base 5 1 tv s.size (iq s)){p:Nat}(hT:Hk w)(hg:Ll w)(hn:Oz s d f l c p):
  Calls prog 22 #[cW j] w λe w'=>∃k,e=dw (.iface 76 (cW k))/\Cn w j d f l c p k w':=by
 have⟨ao,cp,htv⟩:=cP ho;subst htv;have a5:=eS z;have c0:w.cell? ⟨j,0,none⟩=some (G d):=by rw[aN z];rfl
 have c1:w.cell? ⟨j,1,none⟩=some (G f):=by rw[aN z];rfl
 have c2:w.cell? ⟨j,2,none⟩=some (G l):=by rw[aN z];rfl
 have c3:w.cell? ⟨j,3,none⟩=some (.slice ao s.size cp):=by rw[aN z];rfl
 have CI:=zz j ((d:Int),(f:Int),(l:Int)) _ w z;have CR:=(λW (hk:Z [] w W)=>hn (.slice ao s.size cp) base W (hk.ownsRow ho (λ_ _=>by simp)) (hT.fr (bm:=0) (.df hk)) (hg.kept hk));have HX:=z;have HG:=aY w.drew (cV #[gq,.pointer none] 70);go_enter func22,ntmps22;go_wp21;refine CI.mono ?_;rintro e y⟨rfl,rfl⟩;go_wp21
 go_cut [3,4]from 8 to 19 (λv3 v4 wc=>ai7 y c p v3 v4 wc)
 case first=>
  go_region_with (go_at_call 32;first
   |(refine(CR _ ((Z.refl [] y).drew)).mono ?_;intro e w2 I;obtain⟨k,rfl,h1,_⟩:=IZ I ((Z.refl [] y).drew);have T:=V h1;clear h1 I)
   |(refine(CR _ (((Z.refl [] y).drew).alloc _)).mono ?_;intro e w2 I;obtain⟨k,rfl,_,h2⟩:=IZ I (((Z.refl [] y).drew).alloc _);have⟨h3,h4⟩:=h2 y.heap.size (dr _) HG;have q0:w2.cell? ⟨y.heap.size,0,none⟩=some (gq):=(by rw[aN h3];rfl);have q1:w2.cell? ⟨y.heap.size,1,none⟩=some (.pointer none):=(by rw[aN h3];rfl);have z0:=cQ h3 0;have z1:=cQ h3 1;have T:=V h4;clear h2 h3 h4 I))
  all_goals (try (go_wp21))
  all_goals (go_meet;exact T)
 case rest=>
  obtain⟨Tb,k,rfl,rfl,a3,hg,u,hk⟩:=hcut;have q:=hk.at HX (by simp);have e3:wc.cell? ⟨j,3,none⟩=some (.slice ao s.size cp):=by rw[aN q];rfl
  have e4:wc.cell? ⟨j,4,none⟩=some (.bool false):=by rw[aN q];rfl
  have e5:wc.cell? ⟨j,5,none⟩=some (G 0):=by rw[aN q];rfl
  have e7:wc.cell? ⟨j,7,none⟩=some (gq):=by rw[aN q];rfl
  have e8:wc.cell? ⟨j,8,none⟩=some (.pointer none):=by rw[aN q];rfl
  have t0:wc.cell? ⟨Tb,0,none⟩=some (gq):=by rw[aN hg];rfl
  have t1:wc.cell? ⟨Tb,1,none⟩=some (.pointer none):=by rw[aN hg];rfl
  have f4:=cQ q 4;have f5:=cQ q 5;have f7:=cQ q 7;have f8:=cQ q 8;have a6:Tb≠j:=by omega
  have a2:j≠Tb:=by omega
  have E:k≠j:=by
   rintro rfl;unfold ic at u;rw[q]at u;simp at u
  have a1:=eS q;have HP:=And.intro q (And.intro u hk);go_wp21
  go_cut []from 20 to 34 (λwd=>wd.heap[j]?=some (cV #[G d,G f,G l,.slice ao s.size cp,.bool true,G s.size,.nilIface,gq,.pointer none] 72)/\Z [j] wc wd)
  case first=>
   go_region
   all_goals (try (go_wp21))
   all_goals (go_meet;exact⟨bJ (bJ (bJ (bJ HP.1 _ _) _ _) _ _) _ _,(((((Z.refl [j] wc).setCell (.inl (by simp)) _).setCell (.inl (by simp)) _).setCell (.inl (by simp)) _).setCell (.inl (by simp)) _).drew⟩)
  case rest=>
   have⟨hx3,hk3⟩:=hcut;have⟨q,u,hk⟩:=HP;have P:ic wc k c p:=hk3.at u (by simpa using E);have g3:wc.cell? ⟨j,3,none⟩=some (.slice ao s.size cp):=by rw[aN hx3];rfl
   have g5:wc.cell? ⟨j,5,none⟩=some (G s.size):=by rw[aN hx3];rfl
   have g6:wc.cell? ⟨j,6,none⟩=some .nilIface:=by rw[aN hx3];rfl
   have s1:wc.cell? ⟨k,1,none⟩=some (G p):=by rw[aN P];rfl
   have y3:=cQ hx3 3;have y5:=cQ hx3 5;have y6:=cQ hx3 6;have a0:=eS hx3;have F:=E;have a4:j≠k:=λe=>F e.symm;have k4:=hk3.trans ((((Z.refl [j] wc).setCell (p:=⟨j,5,none⟩) (.inl (by simp)) (G p)).setCell (p:=⟨j,6,none⟩) (.inl (by simp)) (.iface 76 (cW k))).setCell (p:=⟨j,3,none⟩) (.inl (by simp)) (gq));have T:Hid (Cn y j d f l c p k (((wc.setCell ⟨j,5,none⟩ (G p)).setCell ⟨j,6,none⟩ (.iface 76 (cW k))).setCell ⟨j,3,none⟩ (gq))):=V ⟨bJ (bJ (bJ hx3 5 _) 6 _) 3 _,k4.at u (by simpa using F),(hk.mono (by simp)).trans k4⟩;go_wp2;go_ret;exact⟨k,rfl,T⟩
theorem Tl(j d f l:Nat)(u:cY)(s:O)(base:Nat)(w:J)(hx:w.heap[j]?=some (cV (qz ((d:Int),(f:Int),(l:Int)) u) 72))(ho:w.ownsRow base 5 1 u s.size (iq s)){p:Nat}(F:Hk w)(P:Ll w)(T:Oz s d f l c p)(I:errorType w)(hb:0≠j):
  Calls prog 10 #[cW j] w λe w'=>∃k,e=dw (.tuple #[G c,G p])/\Cn w j d f l c p k w':=by
 have C:=Vn j d f l u s base w hx ho F P T;have z:=I;go_enter func10,ntmps10;go_wp21;refine C.mono ?_;rintro e w1⟨k,rfl,q⟩;have y:=Oi k (p:Int) (c:Int) w1 q.2.1 (z.kept q.2.2 (by grind));go_wp21;refine y.mono ?_;rintro e w2⟨rfl,hk⟩;have E:Hid (Cn w j d f l c p k w2):=by
  have⟨h1,h2,h3⟩:=q;exact V ⟨hk.at h1 (by simp),hk.at h2 (by simp),h3.trans (hk.mono (by simp))⟩
 go_wp2;go_ret2;exact⟨k,rfl,E⟩
structure W4(w:J):Prop where
 tab:Hk w
 gl:Ll w
 er:errorType w
 el:0<w.heap.size
theorem W4.kept(h:W4 w)(hk:Z [] w w'):W4 w':=⟨h.tab.fr (bm:=0) (.df hk),h.gl.kept hk,h.er.kept hk (by simp),kL h.el hk.size⟩
attribute [local go_sem] Oper.semAt_some
def abk(j:Nat)(d f l:Int)(p k:Nat)(w:J)(q:w.heap[j]?=some (cV (yj d f l p k) 72)):
  Calls prog 23 #[cW j] w λe w'=>e=dw (.tuple #[G p,.iface 76 (cW k)])/\Z [] w w':=by
 have y:w.cell? ⟨j,4,none⟩=some (.bool true):=by rw[aN q];rfl
 have z:w.cell? ⟨j,5,none⟩=some (G p):=by rw[aN q];rfl
 have E:w.cell? ⟨j,6,none⟩=some (.iface 76 (cW k)):=by rw[aN q];rfl
 have u:=eS q;go_enter func23,ntmps23;go_wp21;go_region
 all_goals (try go_wp2)
 all_goals (try go_ret2)
 all_goals exact⟨rfl,(Z.refl [] w).drew⟩
def WQ(u:Nat)(d f l:Int)(c p k:Nat)(w:J)(P:w.heap[u]?=some (cV (yj d f l p k) 72))(z:ic w k c p)(I:errorType w):
  Calls prog 11 #[cW u] w λe w'=>e=dw (.tuple #[G p,G c,G p])/\Z [] w w':=by
 have C:=abk u d f l p k w P;have F:=I;have HS:=z;go_enter func11,ntmps11;go_wp21;refine C.mono ?_;rintro e T⟨rfl,j⟩;have E:=Oi k (p:Int) (c:Int) T (j.at HS (by simp)) (F.kept j (by simp));go_wp21;refine E.mono ?_;rintro e w2⟨rfl,y⟩;have q:=j.trans y;go_wp2;go_ret3;exact⟨rfl,q⟩
def ZS(w:J):Calls prog 27 #[gq] w λe w'=>e=dw (gq)/\w'=w:=by
 have j:=λw=>Ch w 25 75 none 0 0 0 0 underlying25;go_wp2;go_ret;simp
def Xv(j:Nat)(d f l:Int)(p k:Nat)(w:J)(q:w.heap[j]?=some (cV (yj d f l p k) 72)):
  Calls prog 14 #[cW j] w λe w'=>e=dw (gq)/\Z [] w w':=by
 have u:w.cell? ⟨j,7,none⟩=some (gq):=by rw[aN q];rfl
 go_enter func14,ntmps14;go_wp21;refine(ZS _).mono ?_;rintro e w'⟨rfl,rfl⟩;go_wp2;go_ret;exact⟨rfl,Z.refl _ _⟩
def Dg(j:Nat)(d f l:Int)(p k:Nat)(w:J)(q:w.heap[j]?=some (cV (yj d f l p k) 72)):
  Calls prog 25 #[cW j] w λe w'=>e=dw (.bool false)/\w'=w:=by
 have u:w.cell? ⟨j,8,none⟩=some (.pointer none):=by rw[aN q];rfl
 go_wp2;go_ret;simp
def abv(j:Nat)(d f l:Int)(p k:Nat)(w:J)(q:w.heap[j]?=some (cV (yj d f l p k) 72)):
  Calls prog 13 #[cW j] w λe w'=>e=dw (Y gU)/\Z [] w w':=by
 go_enter func13,ntmps13;go_wp21;refine(Dg j d f l p k w q).mono ?_;rintro e u⟨rfl,rfl⟩;go_wp2;go_ret;exact⟨rfl,Z.refl _ _⟩
def abD(v:cY)(j:Nat)(d f l:Int)(p k:Nat)(w:J)(q:w.heap[j]?=some (cV (yj d f l p k) 72)):
  Calls prog 33 #[cW j,v] w λe w'=>e=nu/\w'=w:=by
 go_enter func33,ntmps33;go_wp21;refine(Dg j d f l p k w q).mono ?_;rintro e u⟨rfl,rfl⟩;go_wp2;go_end0;simp
theorem Z.putObj(h:Z S w w')(j:w.heap.size<=l)(o:Obj):Z S w (w'.putObj l o):=h.grown (wH w' l o) (λk e=>by grind)
theorem Hi{P:Program}{g:Operand}{ps:Array Tmp}{assign body:Code}{Q:Exit->Act->J->Prop}{a:Act}{gf:Nat}{rv:cY}
  (T:a.eval g=.func (.func gf) #[rv] #[]) (E:∀p w,(callFunc gf p).run P w=.ok (.enter gf p) w)
  (F:∀y W,Z [] w W->Calls P gf #[rv,y] W λe w'=>(∃v,e=dw v)/\w'=W)
  (I:∀D W,Z [] w W->w.heap.size<=D->W.heap[D]?=some (.deferred (some []))->Q .normal {a with defers:={target:=.collected D,args:=#[]}::a.defers} W):
  (Code.rangeFunc g ps assign body).wpIn Fence.wide n P Q a w:=by
 refine Ld ?_;intro fn _;obtain⟨rec,q⟩:∃rec:Loop,rec={state:=.ready,pending:=none,fn,tmps:=a.tmps,params:=ps,assign,body,defers:=w.heap.size}:=⟨_,rfl⟩;obtain⟨k,j⟩:∃k,k=(w.alloc (.deferred (some []))).alloc (.loop rec):=⟨_,rfl⟩;have e1:=Cg (P:=P) (w:=w) fn a.tmps ps assign body;rw[<-q,<-j]at e1;have z:k.heap[w.heap.size+1]?=some (.loop rec):=by
  rw[j];have:=QE (w.alloc (.deferred (some []))) (.loop rec);rwa [xD]at this
 have D1:k.heap[w.heap.size]?=some (.deferred (some [])):=by
  rw[j];exact(Below.heap_alloc _ _ _ (by simp)).trans (QE w _)
 have u:Z [] w k:=by rw[j];exact((Z.refl _ _).alloc _).alloc _
 refine⟨w.heap.size+1,[{target:=.collected w.heap.size,args:=#[]}],k,{target:=.fn (.func gf) #[],args:=#[rv,.func (.yield (w.heap.size+1)) #[] #[]]},k,gf,
  #[rv,.func (.yield (w.heap.size+1)) #[] #[]],k,e1,?_,λ_ _=>trivial,?_,λh=>by simp[Fence.wide]at h,?_⟩
 .simp only[resolve,T];simp[go_sem]
 .simp[invoke,go_sem,E]
 refine callsIn_wide.2 ((F _ _ u).mono ?_);rintro e w'⟨⟨v,rfl⟩,rfl⟩;refine⟨none,_,by rw[Le z (by grind),q],(I w.heap.size _ (u.putObj (by omega) _) (dr _) ?_)⟩;grind[World.putObj_heap_other]
def aaF(j:Nat)(d f l:Int)(p k:Nat)(w:J)(I:w.heap[j]?=some (cV (yj d f l p k) 72)):
  Calls prog 12 #[cW j] w λe w'=>e=dw (gq)/\Z [] w w':=by
 refine(vF (n:=3)).1 ?_;refine vG func12 rfl trivial ?_ rfl;simp only[ntmps12,vI,sg,tX,Nat.reduceAdd,Nat.reduceSub,vJ,vK,vL,vM,tw,oW];have q:Z [] w (w.alloc (.cells #[gq] 24)):=(Z.refl _ _).alloc _;have F:=aY w (cV #[gq] 24);have P:=q.at I (by simp);have H0:=I
 gi_wp2_with (refine⟨trivial,?_⟩;gi_at_call 24;refine(callsIn_wide.2 (NA _ j)).mono ?_;rintro e w'⟨rfl,rfl⟩)
 obtain⟨z,E⟩:∃z,z=w.alloc (cV #[gq] 24):=⟨_,rfl⟩;rw[<-E]at q F P|-;have HZ:=(show z.heap.size=w.heap.size+1 by rw[E];simp);refine Hi (gf:=33) (rv:=cW j) rfl (Go.Proofs.enters_of func33 (by rfl) rfl) ?_ ?_;intro y W hk;exact(abD y j d f l p k W (hk.at P (by simp))).mono (λe w' h=>⟨⟨_,h.1⟩,h.2⟩)
 .intro D W hk HD u;have c0:=aN (hk.at F (by simp)) 0;dsimp at c0;have T:=q.trans hk;gi_wp2;refine⟨by simp,.inl ⟨_,_,rfl,QD u,?_⟩⟩;exact⟨_,results_tmp rfl _ _ _,rfl,T.putObj (by omega) _⟩
theorem ah5(B b:Nat)(E:cY×Bool)(l:List UInt8)(w F:J)(h:Wu w B b E l)(T:l≠[])(u:Z [] F w)(aa:F.heap.size<=B)(a0:l.length<=140737488355328):
  Calls prog 37 #[cW b] w λe w'=>e=dw (Y ⟨l.toArray⟩)/\Z [] F w':=by
 obtain⟨p,hB,v,z,y,a9⟩:∃p,WuP w B b E p l:=by
  rcases h with h|h
  all_goals grind
 have a6:l.length≠0:=by simpa using T
 obtain⟨g,cap,q,rfl,a3,hg,a8,a4,a5,P⟩:∃g cap q,v=ky g l.length cap/\B<=g/\w.heap[g]?=some (cV q 5)/\l.length<=cap/\cap<=maxLen/\q.size=cap*1/\q.toList.take (l.length*1)=Lib.byteCells l:=by
  rcases y.2 with⟨_,hz⟩|⟨g,cap,q,hv,r⟩;omega;exact⟨g,cap,q,hv,r⟩
 have c1:w.drew.cell? ⟨b,1,none⟩=some (ky g l.length cap):=by
  have:w.drew.heap[b]?=some (cV #[p,ky g l.length cap,E.1,.bool E.2] 99):=z;rw[Lib.cell_of_heap this];rfl
 have a7:=eS z;have a1:(Builtin.unsafeSliceData_ #[58] 142 #[ky g l.length cap]).run prog w.drew=.ok (cW g) w.drew:=
  Lib.run_unsafeSliceData_row _ _ _ _ _ _ (by omega)
 have a2:=by
  refine Lib.run_unsafeString_row w.drew 142 3 9 5 underlying142 rfl g q.size (by have I:w.drew.heap[g]?=some (cV q 5):=hg;simp[World.shape?,I]) l T ?_ ?_ ?_;omega;omega;intro j x hx;have:=y.cells (g:=g) rfl j (.int .u8 x.toNat) (by simp[Lib.byteCells,hx]);exact this
 have HF:Hid (Z [] F (w.drew.freeze ⟨g,0,none⟩ l.length)):=V (JL (Lib.below_freeze (Below.drew ⟨u.os,u.tape,u.output,u.size,λk hk=>u.block k hk (by simp)⟩) (p:=⟨g,0,none⟩) (by grind) _));go_enter func37,ntmps37;go_wp2;go_region
 all_goals (go_wp2;go_ret;exact⟨rfl,HF⟩)
theorem ah4(B b:Nat)(q:cY×Bool)(w w0:J)(h:Wu w B b q [])(T:Z [] w0 w):
  Calls prog 37 #[cW b] w λe w'=>e=dw (Y gU)/\Z [] w0 w':=by
 obtain⟨p,hB,v,k,y,a3⟩:∃p,WuP w B b q p []:=by
  rcases h with h|h
  all_goals grind
 have a0:=eS k;have j:=λ(W:J) (p:Option Addr)=>Lib.run_unsafeString_none (P:=prog) (w:=W) 142 3 9 p;have z:=T;rcases y.2 with⟨rfl,_⟩|⟨g,cap,F,rfl,a2,hg,hr⟩
 .have E:w.drew.cell? ⟨b,1,none⟩=some (gq):=by
   have:w.drew.heap[b]?=some (cV #[p,gq,q.1,.bool q.2] 99):=k;rw[Lib.cell_of_heap this];rfl
  have u:(Builtin.unsafeSliceData_ #[58] 142 #[gq]).run prog w.drew=.ok (.pointer none) w.drew:=Lib.run_unsafeSliceData_nil _ _ _ _ _;have hU:=j w.drew none;go_enter func37,ntmps37;go_wp2;go_region
  all_goals (go_wp2;go_ret;exact⟨rfl,z.drew⟩)
 .have E:w.drew.cell? ⟨b,1,none⟩=some (ky g 0 cap):=by
   have:w.drew.heap[b]?=some (cV #[p,ky g 0 cap,q.1,.bool q.2] 99):=k;rw[Lib.cell_of_heap this];rfl
  by_cases hc:cap=0
  .subst hc;have u:(Builtin.unsafeSliceData_ #[58] 142 #[ky g 0 0]).run prog w.drew=.ok (cW w.drew.heap.size) (w.drew.alloc (.view ⟨g,0,none⟩ 5)):=by
    have I:w.drew.heap[g]?=some (cV F 5):=hg;exact Lib.run_unsafeSliceData_zero _ _ _ 5 underlying142 ⟨g,0,none⟩ 0 _ (by simp only[World.shape?,I];rfl)
   have hU:=j (w.drew.alloc (.view ⟨g,0,none⟩ 5)) (some ⟨w.drew.heap.size,0,none⟩);have a1:=j (w.alloc (.view ⟨g,0,none⟩ 5)).drew (some ⟨w.heap.size,0,none⟩);have c0:w.cell? ⟨b,1,none⟩=some (ky g 0 0):=E;have c2:(w.drew.alloc (.view ⟨g,0,none⟩ 5)).cell? ⟨b,1,none⟩=some (ky g 0 0):=by rw[Lf _ _ _ a0];exact E
   have HF:=z.drew.alloc (.view ⟨g,0,none⟩ 5);go_enter func37,ntmps37;go_wp2;go_region
   all_goals (go_wp2;go_ret;exact⟨rfl,HF⟩)
  .have u:(Builtin.unsafeSliceData_ #[58] 142 #[ky g 0 cap]).run prog w.drew=.ok (cW g) w.drew:=Lib.run_unsafeSliceData_row _ _ _ _ _ _ hc;have hU:=j w.drew (some ⟨g,0,none⟩);go_enter func37,ntmps37;go_wp2;go_region
   all_goals (go_wp2;go_ret;exact⟨rfl,z.drew⟩)
def ah6(B b:Nat)(u:cY×Bool)(l:List UInt8)(w p:J)(h:Wu w B b u l)(j:Z [] p w)(q:p.heap.size<=B)(k:l.length<=140737488355328):
  Calls prog 37 #[cW b] w λe w'=>e=dw (Y ⟨l.toArray⟩)/\Z [] p w':=by
 by_cases y:l=[];subst y;exact ah4 B b u w p h j;exact ah5 B b u l w p h y j q k
def UJ(w:J)(k:Nat)(name:O)(cU:iD)(q:List Tn)(h:gr w (.el name cU q) (.el k))(hb:pE w)(hg:Ll w)
  (E:∀vd,(∀e∈rq vd q,yh e=true)/\uD (rq vd q)<=140737488355328):
  Calls prog 26 #[cW k] w λe w'=>e=dw (Y ⟨(XA (rq (isC pI 1) q)).1.toArray⟩)/\Z [] w w':=by
 have C1:=A4 w hb;have C2:=(λz W (T)=>XU z 1 pI W T (by decide) X4);have HT:=h;have HG:=hg;have HE:=E;go_enter func26,ntmps26;go_wp21;refine C1.mono ?_;rintro e w1⟨z,rfl,T,y,_⟩;have D2:=C2 z w1 T;go_wp21;refine D2.mono ?_;rintro e u⟨⟨v,rfl,hv⟩,F⟩;have⟨kk,lb,hvv,_⟩:=hv.call;subst hvv;have j:=y.trans F;have⟨h1,H2⟩:=HE (isC pI 1);have a0:=(Z.refl [] u).alloc (cV #[.pointer none,gq,.func (.func kk) #[] lb,.bool false] 99);have a3:=UI u.heap.size u.heap.size _ _ (rq (isC pI 1) q) u hv.toW (HG.kept j) (dr _) h1 H2;have C3:=xy a3 k name cU q (gr.kept j HT) rfl _ a0 ⟨(.inl ⟨dr _,_,aY u _,mh _ _ _ _,by simp[Value.ownBlock]⟩),yQ _,by simp⟩;go_wp21;refine C3.mono ?_;rintro e w4⟨rfl,⟨hl,hz,a2⟩,I⟩;have⟨p,vv,hbk,_⟩:=hl.cells;have a1:=eS hbk;have C4:=ah6 _ _ _ _ w4 u hl I (dr _) (fK hz H2);go_wp21;refine C4.mono ?_;rintro e w5⟨rfl,P⟩;go_wp2;go_ret;exact⟨rfl,(j.trans P)⟩
def ae7(w:J)(p k:Nat)(c:fN)(name:O)(cU:iD)(j:List Tn)(u:Zr w p c k)(h:gr w (.el name cU j) (.el k))(F:pE w)(I:Ll w)
  (q:∀y,(∀e∈rq y j,yh e=true)/\uD (rq y j)<=140737488355328):
  Calls prog 13 #[cW p] w λe w'=>e=dw (Y ⟨(XA (rq (isC pI 1) j)).1.toArray⟩)/\Z [] w w':=by
 have z:=UJ w k name cU j h F I q;have P:=u.rU;go_enter func13,ntmps13;go_wp21;refine(F4 w p k c u).mono ?_;rintro e T⟨rfl,rfl⟩;go_wp21;refine z.mono ?_;rintro e w2⟨rfl,E⟩;go_wp2;go_ret;exact⟨rfl,E⟩
def LM(s:O):gU++s=s:=by
 rfl
def UT:fN:=#[G 0,G 0,gq,Y gU,gq]
theorem yo{e:TypeId}{y:Nat}{xs:List cY}(u:w.ownsRow base e y v n xs){b:Nat}{c:fN}{t:TypeId}(E:w.heap[b]?=some (cV c t))(q:e≠t):∀k,v.ownBlock=some k->k∉[b]:=by
 intro k hk I;rcases u.2 with⟨e2,_⟩|⟨P,j,p,e2,_,F,_⟩;rw[e2]at hk;cases hk;rw[e2]at hk;have z:=je hk;grind
def EK(T:List Tn):List It:=fQ (rq (λ_=>false) T)
def Zr.of{e k:Nat}{d f l:Int}(h:w.heap[e]?=some (cV (EX d f l n v k) 72)):Zr w e (EX d f l n v k) k:=⟨h,rfl⟩
structure Told where
 c:Nat
 p:Nat
 NB:List It
 Y7:O
 sps:List Sp
def Ba(w:J)(X:Told)(e:Ending)(w':J):Prop:=∃y k j p q u,e=dw (.tuple #[.agg #[G X.c,G X.p,.slice y k j,Y X.Y7,.slice p q u],.bool true])/\w'.ownsRow w.heap.size 49 3 (.slice y k j) X.NB.length (ld X.NB)/\w'.ownsRow w.heap.size 75 3 (.slice p q u) X.sps.length (gx X.sps)/\Z [] w w'
def Y8(T:List Tn):O:=⟨(XA (rq (isC pI 1) T)).1.toArray⟩
def abV(T:List Tn):Prop:=(∀j,(∀e∈rq j T,yh e=true)/\uD (rq j T)<=140737488355328)/\(EK T).length<=1000000000
structure RdJ(n bx:Nat)(X:Told)(J3:J->Prop):Prop where
 k0:∀{W W':J},J3 W->Z [] W W'->J3 W'
 set:∀{W:J} {R:Nat} {c:fN},n<=R->J3 W->W.heap[R]?=some (cV c 27)->∀(j:Nat)(u:cY),J3 (W.setCell ⟨R,j,none⟩ u)
 stop:∀W,J3 W->Calls prog 11 #[cW bx] W λe W'=>(∃z:Int,e=dw (.tuple #[G X.p,G X.c,G z]))/\Z [] W W'
 list:∀W,J3 W->Calls prog 12 #[cW bx] W λe W'=>∃v,e=dw v/\W'.ownsRow W.heap.size 49 3 v X.NB.length (ld X.NB)/\Z [] W W'
 text:∀W,J3 W->Calls prog 13 #[cW bx] W λe W'=>e=dw (Y X.Y7)/\Z [] W W'
 amk:∀W,J3 W->Calls prog 14 #[cW bx] W λe W'=>∃v,e=dw v/\W'.ownsRow W.heap.size 75 3 v X.sps.length (gx X.sps)/\Z [] W W'
def ClJ(s:O)(d f l:Nat)(w:J)(X:Told):Prop:=∀(j:Nat)(p:cY)(base:Nat)(W:J),Z [] w W->w.heap.size<j->W.heap[j]?=some (cV (qz ((d:Int),(f:Int),(l:Int)) p) 72)->W.ownsRow base 5 1 p s.size (iq s)->
 Calls prog 10 #[cW j] W λe k=>(∃y:Int,e=dw (.tuple #[G X.c,G y]))/\(∃q,RdJ w.heap.size j X q/\q k)/\Z [j] W k
structure Kvz(w:J)(R1 R2:Nat)(J3:J->Prop)(c2:fN)(W:J):Prop where
 j:J3 W
 r1:W.heap[R1]?=some (cV UT 27)
 r2:W.heap[R2]?=some (cV c2 27)
 ne:R1≠R2
 ge:w.heap.size<=R2
 kp:Z [] w W
def Kvz.k0{p e j:Nat}{X:Told}{u:J->Prop}{c2:fN}{k:J}(h:Kvz w e j u c2 W)(q:RdJ w.heap.size p X u)(hk:Z [] W k):Kvz w e j u c2 k:=
 ⟨q.k0 h.j hk,hk.at h.r1 (by simp),hk.at h.r2 (by simp),h.ne,h.ge,h.kp.trans hk⟩
theorem Kvz.set{w:J}{p k e:Nat}{X:Told}{y:J->Prop}{c2:fN}{W:J}(h:Kvz w k e y c2 W)(q:RdJ w.heap.size p X y)(j:Nat)(u:cY):Kvz w k e y (c2.setIfInBounds j u) (W.setCell ⟨e,j,none⟩ u):=
 ⟨q.set h.ge h.j h.r2 j u,((Z.refl [e] W).setCell (.inl (by simp)) _).at h.r1 (by grind[ne]),bJ h.r2 j u,h.ne,h.ge,h.kp.setCell (.inr h.ge) _⟩
def Yu(s:O)(d f l:Nat)(w:J)(hs:s.size<=1024)(hd:4<=d/\d<=64)(hf:1<=f/\f<=32)(hl:1<=l/\l<=16){X:Told}(hc:ClJ s d f l w X):
  Calls prog 5 #[Y s,G d,G f,G l,gq] w (Ba w X):=by
 obtain⟨c,p,a0,ab,b1⟩:=X;obtain⟨w0,a7⟩:∃w0,w0=w.alloc (.cells UT 27):=⟨_,rfl⟩;have k0:Z [] w w0:=by rw[a7];exact(Z.refl _ _).alloc _
 have z0:w0.heap.size=w.heap.size+1:=by rw[a7];simp
 have r0:w0.heap[w.heap.size]?=some (cV UT 27):=by rw[a7];exact aY w _
 have CN:=V (ahn (d:Int) (f:Int) (l:Int) w0 ⟨by omega,by omega,by omega,by omega,by omega,by omega⟩);have HW:=V (show w.alloc (.cells UT 27)=w0 from a7.symm);unfold UT at HW;have HC:=V hc;have aM:=V k0;have HZ:=V z0;have HR:=V r0;clear a7 k0 z0 r0 hc;go_enter func5,ntmps5;go_wp2_with fail;rw[HW.out];refine CN.out.mono ?_;rintro e w1⟨rfl,al,aw⟩;have CW:=λ(t:O) (ht:t.size<=1024)=>aaX w0.heap.size ((d:Int),(f:Int),(l:Int)) (gq) ⟨#[]⟩ t w1.heap.size w1 al (mh _ _ _ _) (by show 0+t.size<=1024;omega) (dr _);simp only[LM]at CW;have aL:=V (CW s hs);have aK:=V CW;have aP:=V aw;have b2:=V (eS al);clear CW al aw CN;go_wp2_with fail;refine tW 2 ?_;rw[mg];by_cases h0:s.size=0;have e1:ByteArray.empty=s:=by apply kD;exact(yA h0).symm
 have hz:((ByteArray.empty).size:Int)=0:=rfl;have C0:=V (aK.out ByteArray.empty (by decide));have E1:=V e1;clear e1;go_wp2_with fail;refine C0.out.mono ?_;rintro e k⟨rfl,F⟩;rw[E1.out]at F;have ah:=V F;clear F C0;go_wp2_with fail;clear h0 hz
 rotate_left
 go_wp2_with fail;refine aL.out.mono ?_;rintro e k⟨rfl,F⟩;have ah:=V F;clear F;go_wp2_with fail;rw[mg];go_wp2_with fail
 all_goals
  have F:=ah.out;clear ah;obtain⟨tv,am,aF,ax,_⟩:=F;have ak:Z [] w0 k:=aP.out.next (S':=w0.heap.size::(gq).ownBlock.toList) ax (by simp[Value.ownBlock]);have k3:Z [] k (k.alloc (.cells #[G 0,G 0,gq,Y gU,gq] 27)):=(Z.refl _ _).alloc _;have an:=(aM.out.trans ak).trans k3;have aI:=V (aY k (.cells #[G 0,G 0,gq,Y gU,gq] 27));have CC:=V (HC.out w0.heap.size tv w1.heap.size _ an (by have:=HZ.out;omega) (k3.at am (by simp)) (k3.ownsRow aF (λ_ _=>by simp)));have ao:=V an;have aQ:=V (k3.at (ak.at HR.out (by simp)) (by simp));have ag:w0.heap.size<k.heap.size:=eS am;have ai:=V ag;clear am aF ax ak k3 an ag;go_wp2_with fail;refine CC.out.mono ?_;rintro e w3⟨⟨y,rfl⟩,⟨b4,hJ,hj⟩,a9⟩;have HJ:=V hJ;have V3:Kvz w w.heap.size k.heap.size b4 #[G 0,G 0,gq,Y gU,gq] w3:=
   ⟨hj,a9.at aQ.out (by have:=HZ.out;simp;omega),a9.at aI.out (by have:=ai.out;simp;omega),by have:=HZ.out;have:=ai.out;omega,by have:=HZ.out;have:=ai.out;omega,ao.out.next a9 (by have:=HZ.out;simp;omega)⟩
  have d0:w3.cell? ⟨k.heap.size,0,none⟩=some (G 0):=by rw[aN V3.r2];rfl
  have f0:=cQ V3.r2 0;have V4:=V3.set hJ 0 (G c);have CS:=V (hJ.stop _ V4.j);have aR:=V V4;clear hj hJ a9 V3 V4 CC;go_wp2_with fail;refine CS.out.mono ?_;rintro e w6⟨⟨z,rfl⟩,ay⟩;have V6:=aR.out.k0 HJ.out ay;have g0:w6.cell? ⟨k.heap.size,0,none⟩=some (G c):=by rw[aN V6.r2];rfl
  have g1:w6.cell? ⟨k.heap.size,1,none⟩=some (G 0):=by rw[aN V6.r2];rfl
  have y1:=cQ V6.r2 1;have V7:=V6.set HJ.out 1 (G p);have CL:=V (HJ.out.list _ V7.j);have av:=V V7;clear ay V6 V7 CS;go_wp2_with fail;refine CL.out.mono ?_;rintro e w8⟨v8,rfl,aa,az⟩;obtain⟨a8,p8,aX⟩:=cP aa;subst aX;have V8:=av.out.k0 HJ.out az;have g2:w8.cell? ⟨k.heap.size,2,none⟩=some (gq):=by rw[aN V8.r2];rfl
  have y2:=cQ V8.r2 2;have V9:=V8.set HJ.out 2 (.slice a8 a0.length p8);have aA:(w8.setCell ⟨k.heap.size,2,none⟩ (.slice a8 a0.length p8)).ownsRow w.heap.size 49 3 (.slice a8 a0.length p8) a0.length (ld a0):=((Z.refl [k.heap.size] w8).setCell (.inl (by simp)) _).ownsRow (gS aa av.out.kp.size) (yo aa V8.r2 (by decide));have CX:=V (HJ.out.text _ V9.j);have aS:=V V9;have ar:=V aA;clear aa az V8 V9 aA CL;go_wp2_with fail;refine CX.out.mono ?_;rintro e aH⟨rfl,P⟩;have a2:=aS.out.k0 HJ.out P;have g3:aH.cell? ⟨k.heap.size,3,none⟩=some (Y gU):=by rw[aN a2.r2];rfl
  have y3:=cQ a2.r2 3;have aj:=a2.set HJ.out 3 (Y ab);have ae:=((Z.refl [k.heap.size] aH).setCell (p:=⟨k.heap.size,3,none⟩) (.inl (by simp)) (Y ab)).ownsRow (P.ownsRow ar.out (λ_ _=>by simp)) (yo (P.ownsRow ar.out (λ_ _=>by simp)) a2.r2 (by decide));have CT:=V (HJ.out.amk _ aj.j);have ad:=V aj;have ap:=V ae;clear P a2 aj ae CX;go_wp2_with fail;refine CT.out.mono ?_;rintro e j⟨b3,rfl,a4,a3⟩;obtain⟨aT,aU,aB⟩:=cP a4;subst aB;have T:=ad.out.k0 HJ.out a3;have af:=a3.ownsRow ap.out (λ_ _=>by simp);have au:=V (gS a4 ad.out.kp.size);generalize hlen:a0.length=aD at *;generalize hlen2:b1.length=aE at *;have ac:=V hlen;have a1:=V hlen2;have I:=T.r2;have u:=T.r1;have m0:j.cell? ⟨k.heap.size,0,none⟩=some (G c):=by rw[aN I];rfl
  have m1:j.cell? ⟨k.heap.size,1,none⟩=some (G p):=by rw[aN I];rfl
  have m2:j.cell? ⟨k.heap.size,2,none⟩=some (.slice a8 aD p8):=by rw[aN I];rfl
  have m3:j.cell? ⟨k.heap.size,3,none⟩=some (Y ab):=by rw[aN I];rfl
  have m4:j.cell? ⟨k.heap.size,4,none⟩=some (gq):=by rw[aN I];rfl
  have y4:=cQ I 4;have u0:j.cell? ⟨w.heap.size,0,none⟩=some (G 0):=by rw[aN u];rfl
  have u1:j.cell? ⟨w.heap.size,1,none⟩=some (G 0):=by rw[aN u];rfl
  have u2:j.cell? ⟨w.heap.size,2,none⟩=some (gq):=by rw[aN u];rfl
  have u3:j.cell? ⟨w.heap.size,3,none⟩=some (Y gU):=by rw[aN u];rfl
  have u4:j.cell? ⟨w.heap.size,4,none⟩=some (gq):=by rw[aN u];rfl
  have j0:=cQ u 0;have j1:=cQ u 1;have j2:=cQ u 2;have j3:=cQ u 3;have j4:=cQ u 4;have b0:w.heap.size≠k.heap.size:=T.ne;have aC:k.heap.size≠w.heap.size:=λh=>T.ne h.symm;have E:=V T;have aq:=V af;clear T af I u a3 CT a4 hlen hlen2;go_wp2;refine nr (v:=.tuple #[.agg #[G c,G p,.slice a8 aD p8,Y ab,.slice aT aE aU],.bool true]) ?_ rfl ⟨_,_,_,_,_,_,rfl,?_,?_,?_⟩
  .simp[results,results5,asAddr,Result.andThen,go_sem,u0,u1,u2,u3,u4,b0,aC]
  have h7:=aq.out;rw[<-ac.out]at h7;rw[<-ac.out];have h5:=yo h7 E.out.r2 (by decide);have h6:=yo h7 E.out.r1 (by decide);refine Z.ownsRow (S:=[k.heap.size,w.heap.size]) (((((((Z.refl _ j).setCell (.inl (by simp)) _).setCell (.inl (by simp)) _).setCell (.inl (by simp)) _).setCell (.inl (by simp)) _).setCell (.inl (by simp)) _).setCell (.inl (by simp)) _) h7 (λq hq=>?_);have a5:=h5 q hq;have a6:=h6 q hq;simp at a5 a6|-;exact⟨a5,a6⟩;have h7:=au.out;rw[<-a1.out]at h7;rw[<-a1.out];have h5:=yo h7 E.out.r2 (by decide);have h6:=yo h7 E.out.r1 (by decide);refine Z.ownsRow (S:=[k.heap.size,w.heap.size]) (((((((Z.refl _ j).setCell (.inl (by simp)) _).setCell (.inl (by simp)) _).setCell (.inl (by simp)) _).setCell (.inl (by simp)) _).setCell (.inl (by simp)) _).setCell (.inl (by simp)) _) h7 (λq hq=>?_);have a5:=h5 q hq;have a6:=h6 q hq;simp at a5 a6|-;exact⟨a5,a6⟩;have m:=E.out.kp;have aW:=E.out.ge;exact(((((m.setCell (.inr aW) _).setCell (.inr (dr _)) _).setCell (.inr (dr _)) _).setCell (.inr (dr _)) _).setCell (.inr (dr _)) _).setCell (.inr (dr _)) _
theorem P7{b R:Nat}{c c':fN}{t:TypeId}(h:W.heap[b]?=some (cV c t))(e:W.heap[R]?=some (cV c' 27))(ht:t≠27):b∉[R]:=λj=>by
 grind
theorem Wm(s:O)(d f l:Nat)(w:J)(hs:s.size<=1024)(hd:4<=d/\d<=64)(hf:1<=f/\f<=32)(hl:1<=l/\l<=16)(hT:Hk w)(hg:Ll w){nm:O}{T:List Tn}(hn:Oy s d f l (.el nm cU T) L)(hE:abV T):
  Calls prog 5 #[Y s,G d,G f,G l,gq] w (Ba w ⟨0,s.size,EK T,Y8 T,L⟩):=
 Yu s d f l w hs hd hf hl λp tv base W hk hb hx ho=>by
  refine(ahm p d f l tv s base W hx ho (hT.fr (bm:=0) (.df hk)) (hg.kept hk) hn).mono ?_;rintro e W'⟨rfl,v,k,P,I,E,a0,y⟩;refine⟨⟨0,rfl⟩,⟨λW=>W.heap[p]?=some _/\gr W _ (.el k)/\W.ownsRow 0 75 3 v L.length _/\Z [] w W,⟨λ⟨a,b,c,e⟩ g=>⟨g.at a (by simp),gr.kept g b,g.ownsRow c (λ_ _=>by simp),e.trans g⟩,λ{W R _} hR ⟨a,b,c,e⟩ F j u=>?_,λW ⟨a,_⟩=>(Tq p d f l s.size k v W a).mono λ_ _ h=>⟨⟨0,h.1⟩,h.2⟩,λW ⟨a,b,_⟩=>adV W p k _ _ _ _ (Zr.of a) b (EK T) rfl hE.2,λW ⟨a,b,_,e⟩=>ae7 W p k _ _ _ _ (Zr.of a) b (hT.fr (bm:=0) (.df e)).1 (hg.kept e) hE.1,λW ⟨a,_,c,_⟩=>akH p d f l s.size k 0 v L W a c (by omega)⟩,P,I,gS E (yQ _),hk.next y (by grind)⟩,y⟩;have g:Z [R] W (W.setCell ⟨R,j,none⟩ u):=(Z.refl _ _).setCell (.inl (by simp)) _;exact⟨g.at a (P7 a F (by decide)),gr.kn (KN.fS g (λq hq c t z ht=>by
   have e:=List.mem_singleton.1 hq;subst e;rw[F]at z;simp at z;rw[<-z.2]at ht;revert ht;decide)) b,g.ownsRow c (yo c F (by decide)),e.setCell (.inr hR) _⟩
def Wn(s:O)(d f l:Nat)(w:J)(hs:s.size<=1024)(hd:4<=d/\d<=64)(hf:1<=f/\f<=32)(hl:1<=l/\l<=16)(T:Hk w)(hg:Ll w){p:Nat}(hn:Oz s d f l c p)(F:errorType w)(a0:0<w.heap.size):
  Calls prog 5 #[Y s,G d,G f,G l,gq] w (Ba w ⟨c,p,[],⟨#[]⟩,[]⟩):=
 Yu s d f l w hs hd hf hl λq tv base W hk hb hx ho=>by
  refine(Tl q d f l tv s base W hx ho (T.fr (bm:=0) (.df hk)) (hg.kept hk) hn (F.kept hk (by simp)) (by omega)).mono ?_;rintro e W'⟨k,rfl,E,z,y⟩;refine⟨⟨_,rfl⟩,⟨λW=>W.heap[q]?=some (cV (yj d f l p k) 72)/\ic W k c p/\Z [] w W,⟨λ⟨a,b,e⟩ g=>⟨g.at a (by simp),g.at b (by simp),e.trans g⟩,λ{W R _} P ⟨a,b,e⟩ I j u=>?_,λW ⟨a,b,e⟩=>(WQ q d f l c p k W a b (F.kept e (by simp))).mono λ_ _ h=>⟨⟨_,h.1⟩,h.2⟩,λW ⟨a,_⟩=>(aaF q d f l p k W a).mono λ_ _ h=>⟨_,h.1,mh _ _ _ _,h.2⟩,λW ⟨a,_⟩=>abv q d f l p k W a,λW ⟨a,_⟩=>(Xv q d f l p k W a).mono λ_ _ h=>⟨_,h.1,mh _ _ _ _,h.2⟩⟩,E,z,hk.next y (by simp;omega)⟩,y⟩;have g:Z [R] W (W.setCell ⟨R,j,none⟩ u):=(Z.refl _ _).setCell (.inl (by simp)) _;exact⟨g.at a (P7 a I (by decide)),g.at b (P7 b I (by decide)),e.setCell (.inr P) _⟩
mutual
def KQ:Tn->Nat
 | .el _ _ ks=>1+szS ks
 | .tx _=>1
 | .cm _=>1
 | .dt _=>1
def szS:List Tn->Nat
 |[]=>0
 |t::ts=>KQ t+szS ts
end
def DY(σ:N):Nat->Nd->List Nat
 |0,_=>[]
 |k+1,.el i=>i::(match σ.db i with
  |some e=>e.kids.flatMap (DY σ k)
  |none=>[])
 |_+1,_=>[]
def kl(σ:N)(i:Nat):Nat:=match σ.db i with
 |some e=>e.kids.length
 |none=>0
theorem YY(f:Nd->Tn)(g:Nd->List Nat)(h:Nat->Nat):∀ks:List Nd,(∀k∈ks,KQ (f k)<=1+((g k).map h).sum)->szS (ks.map f)<=ks.length+((ks.flatMap g).map h).sum
 |[],_=>by simp[szS]
 |k::ks,hk=>by
  have j:=YY f g h ks (λx e=>hk x (io _ e));grind[szS]
theorem ae2(σ:N):∀(k:Nat)(j:Nd),KQ (AN σ k j)<=1+((DY σ k j).map (kl σ)).sum
 |0,j=>by
  have e:AN σ 0 j=Ck:=by cases j<;>rfl
  grind[Ck,KQ]
 |k+1,.el i=>by
  show KQ (match σ.db i with|some e=> .el e.name e.di (e.kids.map (AN σ k))|none=>Ck)<=1+((i::(match σ.db i with|some e=>e.kids.flatMap (DY σ k)|none=>[])).map (kl σ)).sum
  cases he:σ.db i with
  |none=>grind[Ck,KQ]
  |some e=>
   have p:=YY (AN σ k) (DY σ k) (kl σ) e.kids (λx _=>ae2 σ k x);have q:kl σ i=e.kids.length:=by unfold kl;rw[he]
   grind[KQ]
 |k+1,.tx i=>by
  show KQ (match σ.nodes[i]? with|some (.tx s)=> .tx s|_=>Ck)<=_
  split<;>simp[Ck,KQ]
 |k+1,.cm i=>by
  show KQ (match σ.nodes[i]? with|some (.cm s)=> .cm s|_=>Ck)<=_
  split<;>simp[Ck,KQ]
 |k+1,.dt i=>by
  show KQ (match σ.nodes[i]? with|some (.dt s)=> .dt s|_=>Ck)<=_
  split<;>simp[Ck,KQ]
def GZ(σ:N)(j:Nat):eG:=(σ.db j).bind (·.ff)
def Qz(σ:N):Nat->Nat->eG
 |0,j=>some j
 |n+1,j=>(Qz σ n j).bind (GZ σ)
def Y9(σ:N)(n j:Nat):∀d,Qz σ (n+d) j=(Qz σ n j).bind (Qz σ d)
 |0=>by simp[Qz]
 |d+1=>by
  show(Qz σ (n+d) j).bind _=_;rw[Y9 σ n j d];cases Qz σ n j<;>simp[Qz]
theorem Kg(k:eJ r σ){j p:Nat}(h:GZ σ j=some p):r p<r j:=by
 unfold GZ at h;cases he:σ.db j with
 |none=>grind
 |some e=>rw[he]at h;exact k.qK.ff j e p he h
theorem K5(e:eJ r σ):∀(n j i:Nat),Qz σ n j=some i->r i<=r j
 |0,j,i,h=>by cases h;simp
 |n+1,j,i,h=>by
  have k:(Qz σ n j).bind _=some i:=h;cases hq:Qz σ n j with
  |none=>grind
  |some q=>
   have p:=K5 e n j q hq;grind[Kg]
theorem Qu(q:eJ r σ):∀(k:Nat)(i j:Nat),j∈DY σ k (.el i)->∃n,Qz σ n j=some i
 |0,i,j,h=>by cases h
 |k+1,i,j,h=>by
  rcases List.mem_cons.1 h with rfl|p;exact⟨0,rfl⟩
  .cases he:σ.db i with
   |none=>grind
   |some e=>
    rw[he]at p;have⟨x,hx,hj⟩:=List.mem_flatMap.1 p;cases x with
    |el c=>
     have⟨n,hn⟩:=Qu q k c j hj;have⟨ej,g1,g2⟩:=q.lY.dn i e c he (uN.2 hx);refine⟨n+1,?_⟩;show(Qz σ n j).bind _=some i;grind[GZ]
    |tx c=>cases k<;>cases hj
    |cm c=>cases k<;>cases hj
    |dt c=>cases k<;>cases hj
theorem aih(u:eJ r σ){j:Nat}(p:Qz σ n j=some c)(k:Qz σ m j=some d)(y:GZ σ c=some i)(z:GZ σ d=some i):c=d:=by
 have F:∀{n m c d:Nat},n<m->Qz σ n j=some c->Qz σ m j=some d->GZ σ c=some i->GZ σ d=some i->False:=by
  intro n m c d E p k y z;obtain⟨q,rfl⟩:∃q,m=(n+1)+q:=⟨m-(n+1),by omega⟩;rw[Y9]at k;have e:Qz σ (n+1) j=some i:=by
   show(Qz σ n j).bind (GZ σ)=some i;rw[p];exact y
  rw[e]at k;have I:=K5 u q i d k;have P:=Kg u z;omega
 grind
def zt(σ:N)(k:Nat):∀ks:List Nd,ks.flatMap (DY σ k)=(dX ks).flatMap (λc=>DY σ k (.el c))
 |[]=>rfl
 | .el c::ks=>by simp[dX];rw[zt σ k ks]
 | .tx c::ks=>by
  have e:DY σ k (.tx c)=[]:=by cases k<;>rfl
  simp[e];exact zt σ k ks
 | .cm c::ks=>by
  have e:DY σ k (.cm c)=[]:=by cases k<;>rfl
  simp[e];exact zt σ k ks
 | .dt c::ks=>by
  have e:DY σ k (.dt c)=[]:=by cases k<;>rfl
  simp[e];exact zt σ k ks
theorem Jl(p:eJ r σ)(k:Nat)(hk:∀c,(DY σ k (.el c)).Nodup):∀e:List Nat,e.Nodup->(∀c∈e,GZ σ c=some i)->(e.flatMap (λc=>DY σ k (.el c))).Nodup
 |[],_,_=>Ae
 |c::e,hn,hp=>by
  rw[si]at hn;refine List.nodup_append.2 ⟨hk c,Jl p k hk e hn.2 (λd j=>hp d (io _ j)),?_⟩;grind[Qu,aih]
theorem KZ(j:eJ r σ):∀(k i:Nat),(DY σ k (.el i)).Nodup
 |0,i=>Ae
 |k+1,i=>by
  show(i::(match σ.db i with|some e=>e.kids.flatMap (DY σ k)|none=>[])).Nodup
  cases he:σ.db i with
  |none=>simp
  |some e=>
   have q:∀c∈dX e.kids,GZ σ c=some i:=by
    intro c p;have⟨ej,g1,g2⟩:=j.lY.dn i e c he p;unfold GZ;rw[g1];exact g2
   dsimp only;rw[zt];refine List.nodup_cons.2 ⟨?_,Jl j k (λc=>KZ j k c) _ (j.lY.nd i e he) q⟩;grind[Qu,K5,Kg]
theorem Oe:∀(l:List Nat)(L:List Nat),l.Nodup->(l.map (λi=>L.getD i 0)).sum<=L.sum
 |[],_,_=>by simp
 |i::l,L,hn=>by
  rw[si]at hn;have e:=Oe l (L.set i 0) hn.2;grind[List.map_congr_left,Qp,List.set_eq_of_length_le]
theorem Uj(f g:Nat->Nat)(h:∀i,f i<=g i):∀l:List Nat,(l.map f).sum<=(l.map g).sum
 |[]=>by simp
 |i::l=>by
  have:=Uj f g h l;grind
theorem alK{l:List Nat}(h:l.Nodup):(l.map (kl σ)).sum<=wt σ:=by
 refine fK (Uj _ _ (λi=>?_) l) (Oe l _ h);unfold kl;split;rename_i e j;have k:=N.fa j;grind[ndW];simp
theorem akD(e:jS σ)(k i:Nat):KQ (AN σ k (.el i))<=1+wt σ:=by
 have⟨r,hr⟩:=e;grind[ae2,alK,KZ]
mutual
def TnG(B:Nat):Tn->Prop
 | .el name cU ks=>name.size<=5000/\cU.length<=16/\(∀p∈cU,p.1.size<=5000/\p.2.size<=66000)/\TsG B ks
 | .tx s=>s.size<=B
 | .cm s=>s.size<=5000
 | .dt s=>s.size<=5000
def TsG(B:Nat):List Tn->Prop
 |[]=>True
 |t::ts=>TnG B t/\TsG B ts
end
theorem Y5{B:Nat}(f:Nd->Tn):∀ks:List Nd,(∀k∈ks,TnG B (f k))->TsG B (ks.map f)
 |[],_=>trivial
 |k::ks,h=>⟨by grind,Y5 f ks (λx e=>h x (io _ e))⟩
def ai3{X:XM}(q:XM.m<=16)(h:NG σ):∀(k:Nat)(p:Nd),TnG (wt σ) (AN σ k p)
 |0,p=>by
  have e:AN σ 0 p=Ck:=by cases p<;>rfl
  rw[e];exact yQ _
 |k+1,.el i=>by
  show TnG (wt σ) (match σ.db i with|some e=> .el e.name e.di (e.kids.map (AN σ k))|none=>Ck)
  cases he:σ.db i with
  |none=>exact yQ _
  |some e=>
   obtain⟨u,y,z⟩:=h.el he;exact⟨u,fK y q,z,Y5 _ _ (λx _=>ai3 q h k x)⟩
 |k+1,.tx i=>by
  show TnG (wt σ) (match σ.nodes[i]? with|some (.tx s)=> .tx s|_=>Ck)
  split;rename_i s j;exact afk j;exact yQ _
 |k+1,.cm i=>by
  show TnG (wt σ) (match σ.nodes[i]? with|some (.cm s)=> .cm s|_=>Ck)
  split;rename_i s j;exact h.2.1 _ (qQ j);exact yQ _
 |k+1,.dt i=>by
  show TnG (wt σ) (match σ.nodes[i]? with|some (.dt s)=> .dt s|_=>Ck)
  split;rename_i s j;exact h.2.1 _ (qQ j);exact yQ _
mutual
theorem ajN{B:Nat}(q:B<=595500)(j:O->Bool):∀t:Tn,TnG B t->(∀e∈ED j t,yh e=true)/\uD (ED j t)<=143000000*KQ t/\(fQ (ED j t)).length<=18*KQ t
 | .el name cU ks,h=>by
  have⟨h1,h2,h3,h4⟩:=h;have⟨g1,g2,g3⟩:=Pe q j ks h4;have u:yh (.enter name cU)=true:=by
   simp only[yh,oY,afs,afr];exact⟨⟨h2,h3⟩,h1⟩
  have y:yh (.tQ name)=true:=by simpa [yh]using h1
  unfold ED KQ;split;refine⟨λe k=>?_,?_,?_⟩;grind;simp[uD,QS];omega;simp[fQ,rE];omega;refine⟨λe k=>?_,?_,?_⟩;grind;have e:uD (.enter name cU::(rq j ks++[.tQ name]))=(6000+16*6000000)+(uD (rq j ks)+6000):=by simp[uD,QS]
  omega;have e:(fQ (.enter name cU::(rq j ks++[.tQ name]))).length=(1+cU.length)+((fQ (rq j ks)).length+1):=by simp[fQ,rE];omega
  omega
 | .tx s,h=>by
  have p:s.size<=B:=h;refine⟨λe k=>?_,?_,?_⟩;rw[List.mem_singleton.1 k];simp[yh];omega;simp[ED,uD,QS,KQ];omega;simp[ED,fQ,rE,KQ]
 | .cm s,h=>by
  have p:s.size<=5000:=h;refine⟨λe k=>?_,?_,?_⟩;rw[List.mem_singleton.1 k];simp[yh];omega;simp[ED,uD,QS,KQ];simp[ED,fQ,rE,KQ]
 | .dt s,h=>by
  have p:s.size<=5000:=h;refine⟨λe k=>?_,?_,?_⟩;rw[List.mem_singleton.1 k];simp[yh];omega;simp[ED,uD,QS,KQ];simp[ED,fQ,rE,KQ]
theorem Pe{B:Nat}(p:B<=595500)(k:O->Bool):∀j:List Tn,TsG B j->(∀e∈rq k j,yh e=true)/\uD (rq k j)<=143000000*szS j/\(fQ (rq k j)).length<=18*szS j
 |[],_=>⟨(λe q=>by cases q),(by simp[rq,uD]),(by simp[rq,fQ])⟩
 |t::j,h=>by
  have⟨a1,a2,a3⟩:=ajN p k t h.1;have⟨b1,b2,b3⟩:=Pe p k j h.2;unfold rq szS;refine⟨λe q=>?_,?_,?_⟩;grind;grind[uD];grind[fQ]
end
theorem acM{X:XM}(E:XM.m<=16)(z:jS σ)(F:NG σ)(I:wt σ<=595500)(K:Nat):∃nm cU T,AN σ (K+1) (.el 0)=.el nm cU T/\abV T:=by
 obtain⟨r,q⟩:=z;obtain⟨e,y⟩:=Option.isSome_iff_exists.1 q.rU;have j:AN σ (K+1) (.el 0)=.el e.name e.di (e.kids.map (AN σ K)):=by
  show(match σ.db 0 with|some e=>Tn.el _ _ _|none=>Ck)=_
  rw[y]
 have k:=akD ⟨r,q⟩ (K+1) 0;have p:=ai3 E F (K+1) (.el 0);rw[j]at k p;have u:=p.2.2.2;have h5:1+szS _<=1+wt σ:=k;refine⟨_,_,_,j,λvd=>?_,?_⟩;grind[Pe];obtain⟨_,_,P⟩:=Pe I (λ_=>false) _ u;show(fQ _).length<=_;omega
def TXd(d f l:Nat)(s:O)(X:Told):Prop:=(∃c p,Oz s d f l c p/\X=⟨c,p,[],⟨#[]⟩,[]⟩)\/∃nm cU T L,Oy s d f l (.el nm cU T) L/\abV T/\X=⟨0,s.size,EK T,Y8 T,L⟩
abbrev TX:O->Told->Prop:=TXd 64 32 16
theorem TXd.one{f:Nat}(hs:s.size<=1024)(k:4<=d/\d<=64)(q:1<=f/\f<=32)(u:1<=l/\l<=16){X:Told}(h:TXd d f l s X):∀w,W4 w->Calls prog 5 #[Y s,G d,G f,G l,gq] w (Ba w X):=by
 intro w e;rcases h with⟨c,p,j,rfl⟩|⟨nm,cU,T,L,j,y,rfl⟩;exact Wn s d f l w hs k q u e.tab e.gl j e.er e.el;exact Wm s d f l w hs k q u e.tab e.gl j y
theorem TX.one(hs:s.size<=1024){X:Told}(h:TX s X):∀w,W4 w->Calls prog 5 #[Y s,G 64,G 32,G 16,gq] w (Ba w X):=TXd.one (d:=64) (f:=32) (l:=16) hs (by omega) (by omega) (by omega) h
theorem akI(j:eJ r σ)(k:∀i,i<σ.nodes.length->r i<K)(E:Env)(f:Nat->Nat)(w:J)(h:RF E f σ w):gr w (AN σ (K+1) (.el 0)) (.el (f 0)):=by
 obtain⟨L,rfl,u⟩:=h;obtain⟨e,p⟩:=Option.isSome_iff_exists.1 j.rU;have y:=k 0 (N.dm p);refine Px (B:=K-1) u j (λi q=>by grind) _ _ j.rU (λi q=>?_) (by omega);grind
theorem YL(h:jS σ):∃r K,eJ r σ/\∀i,i<σ.nodes.length->r i<K:=by
 obtain⟨r,e⟩:=h;obtain⟨B,j⟩:=wS r σ.nodes.length;exact⟨r,B+1,e,by grind⟩
theorem ajP(d f l:Nat)(s:O)(hs:s.size<=1024)(hd:d<=64)(hf:f<=32){j:N}(h:qv d f l s=.done j L)(hr:eJ r j)(T:∀i,i<j.nodes.length->r i<K):∃h H,Io l h K r H j:=by
 have q:=uP d f l s hs hd hf;rw[h]at q;obtain⟨_,_,_,_,_,k,_⟩:=q;have p:=N1 d f l s hs h;obtain⟨U,H,Q,I,h2,P⟩:=aa4 d f l s hs h;have he:6<=EM j.mode j.kept:=by
  unfold EM;split
  .rename_i g;rcases g with g|g
   .rcases k with k|k<;>omega
   grind[GO.k8]
  .rcases k with k|k<;>omega
 obtain⟨hh,rfl,z,E,y,F⟩:=P.hi (by omega);rw[cZ (by omega),cZ (by omega)]at y;refine⟨hh,H,I.ti,z,E,y,F,λi e u=>?_,hr,T,λi e u hp=>(p.2.2 i e u hp).elim id (λh=>by cases h)⟩;have:=p.2.1 _ (qQ (N.fa u));exact this.2.1
structure Im(l:Nat)(X:Told):Prop where
 OW:X.NB.length<=1000000000
 law:∃nm f,Ec l X.NB ⟨[Ii],[],[],false⟩ ⟨[Ii],[aG,bZ,aZ],nm,f⟩
theorem Im.ne{X:Told}(h:Im l X):X.NB≠[]:=by
 intro e;obtain⟨nm,f,h⟩:=h.law;rw[e]at h;cases(h)
def Xu{f:Nat}(hs:s.size<=1024)(z:d<=64)(I:f<=32)(hl:l<=16){j:N}(h:qv d f l s=.done j L)(q:eJ r j)(hb:∀i,i<j.nodes.length->r i<K):∃nm cU T,AN j (K+1) (.el 0)=.el nm cU T/\Im l ⟨0,s.size,EK T,Y8 T,L⟩/\TXd d f l s ⟨0,s.size,EK T,Y8 T,L⟩:=by
 have p:=uP d f l s hs z I;rw[h]at p;obtain⟨g1,g2,_⟩:=p;have hw:wt j<=595500:=by
  have h1:wt j<=AJ j:=tP _ _;have h2:=U0 (d:=d) (f:=f) (l:=l) (a:=0);have h3:=CJ s;have h4:(vQ s ((l)) .nilFunc 0).cs.size=(qm s).size:=rfl;omega
 have hK:=akI q hb;obtain⟨nm,cU,T,u,hD⟩:=acM hl g1.iv (N1 d f l s hs h) hw K;obtain⟨hh,H,F⟩:=ajP d f l s hs z I h q hb;refine⟨nm,cU,T,u,⟨hD.2,agz F u⟩,.inr ⟨nm,cU,T,L,λtv base w ho y hG=>?_,hD,rfl⟩⟩;rw[u]at hK;refine(N3 s tv base d f l w ho hs z I hl y hG).mono λe w' q=>?_;rw[h]at q;obtain⟨v,k,E,P,h1,h2,h3,h4,h5,h6⟩:=q;subst h2;exact⟨v,P 0,h1,hK E P w' h3,h4,h5,h6⟩
theorem afa{f:Nat}(hs:s.size<=1024)(j:d<=64)(k:f<=32)(y:l<=16){p:Nat}(h:qv d f l s=.stop c p):(c≠0/\p<=s.size)/\TXd d f l s ⟨c,p,[],⟨#[]⟩,[]⟩:=by
 exact⟨⟨TE d f l s hs h,P6 hs j k h⟩,.inl ⟨c,p,λE base w z u q=>((N3 s E base d f l w z hs j k y u q).mono (λe w' F=>by grind)),rfl⟩⟩
theorem Kv(u I ca E P cb n:Nat)(A B:Nat->Sp)(w:J)(hA:aaM w u I n A)(hB:aaM w E P n B)(hn:n<=140737488351232)(F:∀i,i<n->A i=B i):
  Calls prog 18 #[.slice (some ⟨u,I,none⟩) n ca,.slice (some ⟨E,P,none⟩) n cb] w λe w'=>e=dw (.bool true)/\∃q,w'=w.drewN q:=by
 have T:=V hA;have HB:=V hB;have a3:=V F;clear hA hB F;go_enter func18,ntmps18;go_wp2
 go_loopw [5] (λi wr=>∃k:Nat,k<=n/\i=G k/\∃q,wr=w.drewN q) (λi _=>n-(intOf i).toNat)
 case atStart=>exact⟨0,yQ _,rfl,0,rfl⟩
 case round=>
  obtain⟨k,hk,rfl,hq⟩:=hrel;have p:=V hq;clear hq;by_cases j:k<n
  .have a0:wr.cell? ⟨u,I+k*3,none⟩=some (G (A k).k):=by obtain⟨q,rfl⟩:=p.out;rw[aas];exact T.out.c0 k j
   have a1:wr.cell? ⟨u,I+k*3+1,none⟩=some (G (A k).a):=by obtain⟨q,rfl⟩:=p.out;rw[aas];exact T.out.c1 k j
   have a2:wr.cell? ⟨u,I+k*3+2,none⟩=some (G (A k).b):=by obtain⟨q,rfl⟩:=p.out;rw[aas];exact T.out.c2 k j
   have b0:wr.cell? ⟨E,P+k*3,none⟩=some (G (B k).k):=by obtain⟨q,rfl⟩:=p.out;rw[aas];exact HB.out.c0 k j
   have b1:wr.cell? ⟨E,P+k*3+1,none⟩=some (G (B k).a):=by obtain⟨q,rfl⟩:=p.out;rw[aas];exact HB.out.c1 k j
   have b2:wr.cell? ⟨E,P+k*3+2,none⟩=some (G (B k).b):=by obtain⟨q,rfl⟩:=p.out;rw[aas];exact HB.out.c2 k j
   rw[<-a3.out k j]at b0 b1 b2;generalize (A k).k=x at a0 b0;generalize (A k).a=y at a1 b1;generalize (A k).b=z at a2 b2;go_wp2_with fail
   go_quiet (fail)
   go_wp2;go_roundw
   case rel=>exact⟨k+1,by omega,by go_num,by grind[Hid.out,World.drewN_drewN]⟩
   case measure=>simp[intOf];omega
  .go_wp2;go_ret;exact⟨rfl,p.out⟩
theorem Ku(u I ca E P cb n:Nat)(A B:Nat->It)(w:J)(hA:xJ w u I n A)(hB:xJ w E P n B)(hn:n<=140737488351232)(F:∀i,i<n->A i=B i):
  Calls prog 17 #[.slice (some ⟨u,I,none⟩) n ca,.slice (some ⟨E,P,none⟩) n cb] w λe w'=>e=dw (.bool true)/\∃q,w'=w.drewN q:=by
 have T:=V hA;have HB:=V hB;have a3:=V F;clear hA hB F;go_enter func17,ntmps17;go_wp2
 go_loopw [5] (λi wr=>∃k:Nat,k<=n/\i=G k/\∃q,wr=w.drewN q) (λi _=>n-(intOf i).toNat)
 case atStart=>exact⟨0,yQ _,rfl,0,rfl⟩
 case round=>
  obtain⟨k,hk,rfl,hq⟩:=hrel;have p:=V hq;clear hq;by_cases j:k<n
  .have a0:wr.cell? ⟨u,I+k*3,none⟩=some (G (A k).k):=by obtain⟨q,rfl⟩:=p.out;rw[aas];exact T.out.c0 k j
   have a1:wr.cell? ⟨u,I+k*3+1,none⟩=some (Y (A k).s):=by obtain⟨q,rfl⟩:=p.out;rw[aas];exact T.out.c1 k j
   have a2:wr.cell? ⟨u,I+k*3+2,none⟩=some (Y (A k).t):=by obtain⟨q,rfl⟩:=p.out;rw[aas];exact T.out.c2 k j
   have b0:wr.cell? ⟨E,P+k*3,none⟩=some (G (B k).k):=by obtain⟨q,rfl⟩:=p.out;rw[aas];exact HB.out.c0 k j
   have b1:wr.cell? ⟨E,P+k*3+1,none⟩=some (Y (B k).s):=by obtain⟨q,rfl⟩:=p.out;rw[aas];exact HB.out.c1 k j
   have b2:wr.cell? ⟨E,P+k*3+2,none⟩=some (Y (B k).t):=by obtain⟨q,rfl⟩:=p.out;rw[aas];exact HB.out.c2 k j
   rw[<-a3.out k j]at b0 b1 b2;generalize (A k).k=x at a0 b0;generalize (A k).s=y at a1 b1;generalize (A k).t=z at a2 b2;go_wp2_with fail
   go_quiet (fail)
   go_wp2;go_roundw
   case rel=>exact⟨k+1,by omega,by go_num,by grind[Hid.out,World.drewN_drewN]⟩
   case measure=>simp[intOf];omega
  .go_wp2;go_ret;exact⟨rfl,p.out⟩
def EQ(j k:Option Addr)(c1 c2:Nat)(w:J):Calls prog 17 #[.slice j 0 c1,.slice k 0 c2] w λe w'=>e=dw (.bool true)/\Z [] w w':=by
 go_enter func17,ntmps17;go_wp2;refine tW 1 ?_;rw[mg];go_wp2;go_ret;exact⟨rfl,Z.refl _ _⟩
theorem SJ(I P:Nat)(y z:cY)(L:List It)(w:J)(q:w.ownsRow I 49 3 y L.length (ld L))(u:w.ownsRow P 49 3 z L.length (ld L))(hL:L.length<=1000000000):
  Calls prog 17 #[y,z] w λe w'=>e=dw (.bool true)/\Z [] w w':=by
 by_cases p:L.length=0;obtain⟨E,j,rfl⟩:=cP q;obtain⟨F,k,rfl⟩:=cP u;rw[p];exact EQ E F j k w;rcases q.2 with⟨_,h⟩|⟨T,j,u1,rfl,_,a0,_⟩;exact absurd h p;rcases u.2 with⟨_,h⟩|⟨g2,k,u2,rfl,_,a3,_⟩;exact absurd h p;refine(Ku T 0 j g2 0 k L.length (x7 L) (x7 L) w (JI q) (JI u) (by omega) (λ_ _=>rfl)).mono ?_;grind[Z.drewN,Z.refl]
def aaJ(L:List Sp)(i:Nat):Sp:=L.getD i ⟨0,0,0⟩
theorem TV(u:w.ownsRow base 75 3 (ky g L.length cap) L.length (gx L)):aaM w g 0 L.length (aaJ L):=by
 have q:∀(L:List Sp)(i k:Nat),i<L.length->k<3->(gx L)[i*3+k]?=[Value.int .i64 (aaJ L i).k,G (aaJ L i).a,G (aaJ L i).b][k]?:=by
  intro L
  induction L with
  |nil=>simp
  |cons p L ih=>
   intro i k j hk;show(Value.int .i64 p.k:: G p.a:: G p.b::gx L)[i*3+k]?=_;cases i with
   |zero=>
    have e:aaJ (p::L) 0=p:=rfl;grind
   |succ i=>
    have e:aaJ (p::L) (i+1)=aaJ L i:=by unfold aaJ;simp
    grind
 have c:∀i k,i<L.length->k<3->w.cell? ⟨g,i*3+k,none⟩=[Value.int .i64 (aaJ L i).k,G (aaJ L i).a,G (aaJ L i).b][k]?:=by
  intro i k j hk
  match k,hk with
  |0,hk=>have:=u.cells (g:=g) rfl (i*3+0) _ (q L i 0 j hk);grind[eL]
  |1,hk=>have:=u.cells (g:=g) rfl (i*3+1) _ (q L i 1 j hk);grind[eL]
  |2,hk=>have:=u.cells (g:=g) rfl (i*3+2) _ (q L i 2 j hk);grind[eL]
 refine⟨λi j=>?_,λi j=>?_,λi j=>?_⟩;rw[Nat.zero_add];exact c i 0 j (by omega)
 all_goals grind
def ER(j k:Option Addr)(c1 c2:Nat)(w:J):Calls prog 18 #[.slice j 0 c1,.slice k 0 c2] w λe w'=>e=dw (.bool true)/\Z [] w w':=by
 go_enter func18,ntmps18;go_wp2;refine tW 1 ?_;rw[mg];go_wp2;go_ret;exact⟨rfl,Z.refl _ _⟩
theorem SK(I P:Nat)(y z:cY)(L:List Sp)(w:J)(q:w.ownsRow I 75 3 y L.length (gx L))(u:w.ownsRow P 75 3 z L.length (gx L))(hL:L.length<=4096):
  Calls prog 18 #[y,z] w λe w'=>e=dw (.bool true)/\Z [] w w':=by
 by_cases p:L.length=0;obtain⟨E,j,rfl⟩:=cP q;obtain⟨F,k,rfl⟩:=cP u;rw[p];exact ER E F j k w;rcases q.2 with⟨_,h⟩|⟨T,j,u1,rfl,_,a0,_⟩;exact absurd h p;rcases u.2 with⟨_,h⟩|⟨g2,k,u2,rfl,_,a3,_⟩;exact absurd h p;refine(Kv T 0 j g2 0 k _ _ _ w (TV q) (TV u) (by omega) (λ_ _=>rfl)).mono ?_;grind[Z.drewN,Z.refl]
def aeP(e j:Int)(t:O)(b1 b2 b3 b4:Nat)(q u y z:cY)(I:List It)(L:List Sp)(w:J)(g1:w.ownsRow b3 49 3 q I.length (ld I))(g2:w.ownsRow b4 49 3 u I.length (ld I))(hI:I.length<=1000000000)(h1:w.ownsRow b1 75 3 y L.length (gx L))(h2:w.ownsRow b2 75 3 z L.length (gx L))(hL:L.length<=4096):
  Calls prog 7 #[.agg #[G e,G j,q,Y t,y],.agg #[G e,G j,u,Y t,z]] w λen w'=>en=dw (.bool true)/\Z [] w w':=by
 obtain⟨a1,c1,aa⟩:=cP h1;obtain⟨a2,c2,ab⟩:=cP h2;obtain⟨a3,c3,ac⟩:=cP g1;obtain⟨a4,c4,ad⟩:=cP g2;have E:Z [] w ((w.alloc (.cells #[G e,G j,q,Y t,y] 27)).alloc (.cells #[G e,G j,u,Y t,z] 27)):=((Z.refl [] w).alloc _).alloc _;have CI:=V (SJ b3 b4 q u I _ (E.ownsRow g1 (λ_ _=>by simp)) (E.ownsRow g2 (λ_ _=>by simp)) hI);have CS:=V (λW (hk:Z [] ((w.alloc (.cells #[G e,G j,q,Y t,y] 27)).alloc (.cells #[G e,G j,u,Y t,z] 27)) W)=>SK b1 b2 y z L W (hk.ownsRow (E.ownsRow h1 (λ_ _=>by simp)) (λ_ _=>by simp)) (hk.ownsRow (E.ownsRow h2 (λ_ _=>by simp)) (λ_ _=>by simp)) hL);have a0:=V (show((w.alloc (.cells #[G e,G j,q,Y t,y] 27)).alloc (.cells #[G e,G j,u,Y t,z] 27)).heap[w.heap.size]?=some (cV #[G e,G j,q,Y t,y] 27) by
  rw[Below.heap_alloc _ _ _ (by simp)];exact aY w _)
 have a5:=V (show((w.alloc (.cells #[G e,G j,q,Y t,y] 27)).alloc (.cells #[G e,G j,u,Y t,z] 27)).heap[w.heap.size+1]?=some (cV #[G e,G j,u,Y t,z] 27) by
  have:=aY (w.alloc (.cells #[G e,G j,q,Y t,y] 27)) (.cells #[G e,G j,u,Y t,z] 27)
  simpa using this)
 subst aa ab ac ad;have HK:=V E;clear h1 h2 g1 g2 E;go_enter func7,ntmps7;go_wp2_with fail;refine CI.out.mono ?_;rintro en w1⟨rfl,k⟩;have y1:=k.at a0.out (by simp);have y2:=k.at a5.out (by simp);have r4:=aN y1 4;have t4:=aN y2 4;dsimp at r4 t4;have T:=V (CS.out w1 k);have a8:=V y1;have a9:=V y2;have a6:=V (HK.out.trans k);clear k y1 y2 CS CI;go_wp2_with fail;refine T.out.mono ?_;rintro en w2⟨rfl,p⟩;have F:=p.at a8.out (by simp);have P:=p.at a9.out (by simp);have p0:=aN F 0;have p1:=aN F 1;have p3:=aN F 3;have q0:=aN P 0;have q1:=aN P 1;have q3:=aN P 3;dsimp at p0 p1 p3 q0 q1 q3;have a7:=V (a6.out.trans p);clear p F P;go_wp2;go_ret;exact⟨rfl,a7.out⟩
structure aja(s:O)(l:Nat)(X d8:Told):Prop where
 OW:X.NB.length<=1000000000
 spl:X.sps.length<=1024
 or:(X.c≠0/\X.p<=s.size/\X.NB=[]/\X.Y7=⟨#[]⟩/\X.sps=[]/\(d8.c=0\/X.p<=d8.p))\/(X.c=0/\d8=X/\Im l X)
theorem akG{f:Nat}(hs:s.size<=1024)(z:d<=64)(E:f<=32)(hl:l<=16):∃X a3,TXd d f l s X/\TX s a3/\aja s l X a3:=by
 have k:=uP d f l s hs z E;have j:=uP 64 32 16 s hs (by omega) (by omega);have I:=aa5 d f l s hs z E hl;cases h:qv d f l s with
 |stuck=>rw[h]at k;exact k.elim
 |stop c p=>
  rw[h]at I;obtain⟨⟨P,h2⟩,h3⟩:=afa hs z E hl h;cases q:qv 64 32 16 s with
  |stuck=>rw[q]at j;exact j.elim
  |stop c' p'=>
   obtain⟨-,u⟩:=afa hs (by omega) (by omega) (by omega) q;exact⟨_,_,h3,u,yQ _,yQ _,.inl ⟨P,h2,rfl,rfl,rfl,.inr (I _ _ q)⟩⟩
  |done fin L=>
   rw[q]at j;obtain⟨r,K,F,y⟩:=YL j.1.iv;obtain⟨nm,cU,T,_,_,u⟩:=Xu hs (by omega) (by omega) (by omega) q F y;exact⟨_,_,h3,u,yQ _,yQ _,by grind⟩
 |done fin L=>
  rw[h]at k I;obtain⟨q,hL⟩:=I;obtain⟨r,K,F,y⟩:=YL k.1.iv;obtain⟨nm,cU,T,hT,P,h2⟩:=Xu hs z E hl h F y;obtain⟨a2,a0,T',a1,_,u⟩:=Xu hs (by omega) (by omega) (by omega) q (afA F) y;have e:AN (qT fin) (K+1) (.el 0)=AN fin (K+1) (.el 0):=by kernel_rfl
  exact⟨_,_,h2,u,P.OW,hL,by grind⟩
def WJ(c:Int)(n k:Nat)(w:J)(h: -9223372036854775808<=c/\c<=9223372036854775807)(u:0<n)(y:n<=64):
  ∃d:Nat,k<=d/\d<n+k/\Calls prog 4 #[G c,G n] w λe w'=>e=dw (G ((d:Int)-k))/\w'=w:=by
 obtain⟨E,F⟩:=h;have j:∀d:Int,0<=d->∃m:Nat,k<=m/\m<n+k/\d.tmod n=(m:Int)-k:=λd q=>⟨d.toNat%n+k,by omega,by have:=Nat.mod_lt d.toNat u;omega,by rw[Int.tmod_eq_emod_of_nonneg q,Int.natCast_add,Int.natCast_emod,Int.toNat_of_nonneg q];omega⟩;by_cases I:c<0
 .obtain⟨m,hk,p,z⟩:=j (-(c+1)) (by omega);refine⟨m,hk,p,?_⟩;go_enter func4,ntmps4;go_wp2;go_ret;exact⟨rfl,rfl⟩
 .obtain⟨m,hk,p,z⟩:=j c (by omega);refine⟨m,hk,p,?_⟩;go_enter func4,ntmps4;go_wp2;go_ret;exact⟨rfl,rfl⟩
def SH(z:l<=16){X:Told}(j:Im l X)(b:Nat)(v:cY)(W:J)(k:W.ownsRow b 49 3 v X.NB.length (ld X.NB)):Calls prog 6 #[v,G l] W λe w'=>e=dw (.bool true)/\Z [] W w':=by
 obtain⟨nm,f,u⟩:=j.law;rcases k.2 with⟨_,q⟩|⟨g,cap,p,rfl,_,y,_⟩;exact absurd (QJ q) j.ne;exact agT g cap _ l W (JI k) (eS y) j.OW z u
def VV(s:O)(a b c:Int)(w:J)(hs:s.size<=140737488355328)(ha: -9223372036854775808<=a/\a<=9223372036854775807)(hb: -9223372036854775808<=b/\b<=9223372036854775807)(hc: -9223372036854775808<=c/\c<=9223372036854775807)(hw:W4 w):
  Calls prog 3 #[Y s,G a,G b,G c] w λe w'=>e=dw (.bool true)/\Z [] w w':=by
 by_cases am:1024<s.size
 .clear hw;go_enter func3,ntmps3;go_wp2;go_ret;exact⟨rfl,Z.refl _ _⟩
 replace hs:s.size<=1024:=by omega
 obtain⟨d,d1,d2,P1⟩:=WJ a 61 4 w ha (by decide) (by decide);obtain⟨f,f1,f2,P2⟩:=WJ b 32 1 w hb (by decide) (by decide);obtain⟨l,l1,l2,P3⟩:=WJ c 16 1 w hc (by decide) (by decide);have hd:4<=d/\d<=64:=by omega
 have hf:1<=f/\f<=32:=by omega
 have hl:1<=l/\l<=16:=by omega
 obtain⟨X,aB,hX,hY,hG⟩:=akG hs hd.2 hf.2 hl.2;have a5:=V P1;have a6:=V P2;have a7:=V P3;have a2:=V (hX.one hs hd hf hl w hw);have a3:=V (λW (hk:Z [] w W)=>TX.one hs hY W (hw.kept hk));have HG:=V hG;have e1:4+((d:Int)-4)=d:=by omega
 have e2:1+((f:Int)-1)=f:=by omega
 have e3:1+((l:Int)-1)=l:=by omega
 clear P1 P2 P3 hX hY hG hw;go_enter func3,ntmps3;go_wp2_with fail;refine a5.out.mono ?_;rintro e w1⟨rfl,rfl⟩;go_wp2_with fail;refine a6.out.mono ?_;rintro e w1⟨rfl,rfl⟩;go_wp2_with fail;refine a7.out.mono ?_;rintro e w1⟨rfl,rfl⟩;go_wp2_with fail;refine a2.out.mono ?_;rintro e wb⟨va,na,ca,ta,tb,tc,rfl,a0,a1,a8⟩;obtain⟨c0,p0,az,I,aA⟩:=X;obtain⟨c1,p1,ap,aa,aq⟩:=aB;dsimp only at a0 a1|-;obtain⟨wc,y⟩:∃wc,wc=wb.alloc (.cells #[G c0,G p0,.slice va na ca,Y I,.slice ta tb tc] 27):=⟨_,rfl⟩;have kc:Z [] wb wc:=by rw[y];exact(Z.refl _ _).alloc _
 have P:=V (show wc.heap[wb.heap.size]?=some (cV #[G c0,G p0,.slice va na ca,Y I,.slice ta tb tc] 27) by rw[y];exact aY wb _);have a4:=V (a8.trans kc);have CC:=V (a3.out wc a4.out);have ag:=V y.symm;have k:=V (kc.ownsRow a0 (λ_ _=>by simp));have q:=V (kc.ownsRow a1 (λ_ _=>by simp));clear y kc a8 a2 a3 a0 a1 a5 a6 a7;go_wp2_with fail;rw[ag.out];refine CC.out.mono ?_;rintro e wd⟨vb,nb,cb,ub,ud,uc,rfl,E,F,j⟩;dsimp only at E F|-;have u:=j.at P.out (by simp);have ah:=aN u 0;have ai:=aN u 1;have aj:=aN u 2;have ak:=aN u 3;have al:=aN u 4;dsimp at ah ai aj ak al;have av:=eS u;have aw:wb.heap.size≠wd.heap.size:=by omega
 have z:Z [] wd (wd.alloc (.cells #[G c1,G p1,.slice vb nb cb,Y aa,.slice ub ud uc] 27)):=(Z.refl _ _).alloc _;have T:=V ((a4.out.trans j).trans z);rcases HG.out.or with⟨h1,h2,h3,h4,h5,h6⟩|⟨h1,h2,h3⟩
 .try dsimp only at h1 h2 h3 h4 h5 h6
  subst h3 h4 h5;have an:na=0:=by obtain⟨_,_,e0⟩:=cP k.out;exact(Value.slice.inj e0).2.1
  have ao:tb=0:=by obtain⟨_,_,e0⟩:=cP q.out;exact(Value.slice.inj e0).2.1
  subst an ao;have ar:(c0:Int)≠0:=by omega
  have ax:(p0:Int)<=(s.size:Int):=by omega
  clear HG CC k q E F z u j P h1 h2;by_cases h7:c1=0
  .subst h7;go_wp2;go_ret;exact⟨rfl,T.out⟩
  .have au:(c1:Int)≠0:=by omega
   have ay:(p0:Int)<=(p1:Int):=by omega
   clear h6 h7;go_wp2;go_ret;exact⟨rfl,T.out⟩
 .try dsimp only at h1 h2 h3
  cases h2;subst h1;have CF:=V (SH hl.2 h3 _ _ _ (z.ownsRow (j.ownsRow k.out (λ_ _=>by simp)) (λ_ _=>by simp)));have CS:=V (λW (hk:Z [] _ W)=>aeP 0 (p0:Int) I _ _ _ _ (.slice va na ca) (.slice vb nb cb) (.slice ta tb tc) (.slice ub ud uc) _ _ W (hk.ownsRow (z.ownsRow (j.ownsRow k.out (λ_ _=>by simp)) (λ_ _=>by simp)) (λ_ _=>by simp)) (hk.ownsRow (z.ownsRow E (λ_ _=>by simp)) (λ_ _=>by simp)) HG.out.OW (hk.ownsRow (z.ownsRow (j.ownsRow q.out (λ_ _=>by simp)) (λ_ _=>by simp)) (λ_ _=>by simp)) (hk.ownsRow (z.ownsRow F (λ_ _=>by simp)) (λ_ _=>by simp)) (fK HG.out.spl (by decide)));have ac:=V (z.at u (by simp));have ad:=V (aY wd (.cells #[G 0,G p0,.slice vb nb cb,Y I,.slice ub ud uc] 27));clear HG CC k q E F z u j P h3;go_wp2_with fail;refine CF.out.mono ?_;rintro e we⟨rfl,p⟩;have x1:=p.at ac.out (by simp);have x2:=p.at ad.out (by simp);have d0:=aN x1 0;have d1:=aN x1 1;have d2:=aN x1 2;have d3:=aN x1 3;have d4:=aN x1 4;have f0:=aN x2 0;have f1:=aN x2 1;have f2:=aN x2 2;have f3:=aN x2 3;have f4:=aN x2 4;dsimp at d0 d1 d2 d3 d4 f0 f1 f2 f3 f4;have ab:=V (CS.out we p);have ae:=V (T.out.trans p);clear p x1 x2 CS CF;go_wp2_with fail;refine ab.out.mono ?_;rintro e wf⟨rfl,a9⟩;have af:=V (ae.out.trans a9);clear a9;go_wp2;go_ret;exact⟨rfl,af.out⟩
end
end Go.Proofs.YthnijkkcimlnjaaGreatDoor
