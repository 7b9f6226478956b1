import Derived.Test.YthnijkkcimlnjaaGreatDoorBdT
import Derived.Stop.Asserts
import Derived.Handy
import Derived.PlainAid
import Derived.Deep.AppendLies
import Derived.Shelf.Lay
import Derived.Shelf.Strings.SlTrimAscii
set_option linter.unusedSimpArgs false
set_option linter.unusedVariables false
set_option linter.defProp false
set_option maxHeartbeats 0
set_option maxRecDepth 100000
namespace Go.Proofs.YthnijkkcimlnjaaGreatDoor
open Go.RowKit Go.Extern.Stop Go.Stop Go.Extern Go.PlainAid Tryz
def Fy:=@Sem.run_bind
def FA:=@run_convert_bytes_back
def XB:=@Calls.quiet_of
def wI:=@dif_pos
def tP:=@Nat.le_add_right
def yz:=@List.erase_cons_tail
def XC:=@List.erase_cons_head
def XD:=@List.length_append
def oU:=@eq_of_beq
section
variable {E:Env}{L:iD}{P:nh Unit->Prop}{S:List Nat}{T:TypeId}{W w w' wr:J}{a b base c clock f g i j k m n r sz:Nat}{nm p s:O}{o:Ru}{sp:jz}{t:cR}{v v':cY}{xs:List cY}{σ σ':N}
attribute [local go_sem] Oper.semAt_some
def VX(dst:Nat)(k:Nd)(r:List Nd):rB dst (k::r)=(eE dst>>=λd=>(xh d k>>=λ_=>rB dst r)):=rfl
theorem aal(E:Env){dst:Nat}(A:b≠dst){y:sZ}(C:σ.db b=some y){k:Nd}{r:List Nd}{z:Type}{K:Unit->M z}{R:nh z}(d:R=(rB dst (k::r)>>=K) σ)(hs:R≠ .stuck)(B:σ.eZ k=true):
  ∃l σ',σ.db dst=some l/\R=(rB dst r>>=K) σ'/\(∃x,σ'.db b=some x/\x.kids=y.kids)/\σ'.nodes.length=σ.nodes.length/\
   ∀(L:Loc)(w:J),Rel E L σ w->Calls prog 169 #[place (L.dk dst) l.kids.length,(Nd.map L.dk k).val] w (λe w'=>e=nu/\ToK E L dst σ' w w'):=by
 rw[VX,M.cH,M.cH]at d;unfold eE at d;cases hd:σ.db dst with
 |none=>rw[hd]at d;exact absurd d hs
 |some l=>
  rw[hd]at d;dsimp only at d;rw[M.cH]at d;cases k with
  |el j=>
   unfold xh fY at d;dsimp only at d;cases hj:σ.db j with
   |none=>rw[hd,hj]at d;exact absurd d hs
   |some ej=>
    rw[hd,hj]at d;dsimp only at d;by_cases u:j≠dst/\l.kids.length<=l.kids.length/\l.kids.length<1048576
    .rw[dd u]at d;refine⟨l,_,rfl,?_,?_,?_,λL w h=>abm h hd hj u.1 u.2.1 u.2.2⟩
     all_goals grind[M.cH,N.eB,N.dm,N.dY,N.dh]
    rw[cZ u]at d;exact absurd d hs
  |_=>
   unfold xh pQ at d;dsimp only at d;rw[hd]at d;dsimp only at d;by_cases u:l.kids.length<1048576
   .refine⟨l,_,rfl,?_,?_,?_,λL w h=>abo h hd B (by simp) (dr _) u⟩
    all_goals grind[M.cH,N.dY,N.dh]
   rw[cZ (λq=>u q.2.2)]at d;exact absurd d hs
theorem Rel.ajw{L:Loc}(h:Rel E L σ w){l:sZ}(hi:σ.db i=some l):To E L (σ.dh i {l with kids:=[]}) w (w.setCell ⟨L.dk i,3,none⟩ (gq)):=by
 have A:=N.dm hi;have y:=h.uY hi;have B:=h.xN hi;have q:Z [L.dk i] w (w.setCell ⟨L.dk i,3,none⟩ (gq)):=(Z.refl _ w).setCell (.inl (by simp)) _;have u:=h.ktJ [i] (by grind) (by simp) q;refine h.ahP i (gq) (by rw[hi];rfl) u (.inr (by intro g z;cases z)) (by simp[N.dh]) ?_ ?_ ?_ ?_;grind[N.eB,N.dY];grind[N.eB,N.dY];intro x C d;rcases N.lh d with⟨rfl,rfl⟩|⟨e,d⟩;show El E.bs _ _ _ _ _ (if x=x then (gq)else L.kv x) _/\_;rw[dd rfl];exact⟨⟨bJ (h.th hi).du 3 _,(⟨rfl,.inl ⟨rfl,rfl⟩⟩),by simp,(h.th hi).XV⟩,u.row y (by decide),B⟩;exact(h.dy [i] (by grind) (by simp) q d (by grind)).ext (Ed.refl _ _) ((List.getElem?_eq_some_iff.1 d).1) rfl (cZ e) (h.wfn d);grind[Wf.dh,wf,Wf.ff]
def agy(b:Nat):Unit->M Unit:=λ_ σ'=>match σ'.db b with
 |some eb'=> .ok () (σ'.dh b {eb' with kids:=[]})
 |none=> .stuck
theorem VY{f:Nat->Nat}(h:RF E f σ w)(b dst:Nat)(hs:handOver b dst σ≠ .stuck):Calls prog 369 #[nV f b,nV f dst] w (gX E f σ.nodes.length w (handOver b dst σ) uV):=by
 obtain⟨R,z⟩:∃R,R=handOver b dst σ:=⟨_,rfl⟩;rw[<-z]at hs|-;obtain⟨L,rfl,X⟩:=h;obtain⟨q,HB⟩:∃q,σ.db b=some q:=by
  cases hq:σ.db b with
  |some q=>simp
  |none=>grind[handOver]
 have F:b≠dst:=by
  intro e;unfold handOver at z;rw[HB]at z;dsimp only at z;rw[dd e]at z;exact absurd z hs
 have HR:R=(rB dst q.kids>>=agy b) σ:=by
  unfold handOver at z;rw[HB]at z;dsimp only at z
  rwa [cZ F]at z
 have I:=X.th HB;have c3:=aN I.du 3;dsimp at c3;have a4:=I.le;rw[Zk]at a4;have⟨ao,cap,hkv⟩:=cP I.row;rw[Zk]at hkv;rw[hkv]at c3;obtain⟨n,hn⟩:∃n,n=q.kids.length:=⟨_,rfl⟩;have HN:=V hn;rw[<-hn]at c3 a4;have U:=V hkv;have HS:=hs;have HE:=V I;have ak:=X.fr.size;have af:=eS I.du;clear hn hkv I;go_enter func369,ntmps369;go_wp21
 go_loopw [11] (λv wr=>∃(i:Nat)(H:Loc)(l:N)(u:sZ),v=G i/\i<=n/\H.dk=L.dk/\H.kv b=L.kv b/\Rel E H l wr/\l.db b=some u/\u.kids=q.kids/\l.nodes.length=σ.nodes.length/\Fr E.bs w wr/\R=(rB dst (q.kids.drop i)>>=agy b) l) (λv _=>n-(intOf v).toNat)
 case atStart=>grind[Fr.refl]
 case round=>
  obtain⟨i,H,l,u,rfl,hi,d,D,x,mq,a2,a3,C,B⟩:=hrel;have A:=x.th mq;rw[D,a2]at A;by_cases ad:i<n
  .have h2:i<q.kids.length:=by rw[<-HN.out];exact ad
   rw[(US h2)]at B;have a1:l.eZ q.kids[i]=true:=x.wf.kids b u mq _ (by grind);have⟨ed,σ2,hd,HR3,⟨eb2,HB2,hkk2⟩,hl2,hput⟩:=aal E F mq B HS a1;obtain⟨g,ab⟩:∃g,ao=some ⟨g,0,none⟩:=by
    rcases HE.row.2 with⟨e,h0⟩|⟨g,ae,al,e,_⟩
    all_goals grind[Hid.out]
   subst ab;have hc:wr.cell? ⟨g,i,none⟩=some (Nd.map L.dk q.kids[i]).val:=by
    have:=A.row.cells (g:=g) (by rw[U.out];rfl) i (Nd.map H.dk q.kids[i]).val (by simp[h2]);rw[eL]at this;rw[<-d]
    simpa using this
   obtain⟨ty,y,a5, -, -⟩:=NF (Nd.map L.dk q.kids[i]) wr;have C1:=Uk x hd;have C2:=(λ(W:J) (hk:Z [] wr W)=>hput H W (x.dB hk));rw[d]at C1 C2;rw[a5]at hc C2;have ah:=hkk2.trans a2;have aj:=hl2.trans a3;have a7:=V C;have a6:=V d;have a8:=V D;clear C D d;generalize ed.kids.length=m at *;go_wp21;refine C1.mono ?_;rintro e W2⟨rfl, -,K⟩;have C3:=C2 W2 K;go_wp21;refine C3.mono ?_;rintro e W3⟨rfl,L2,q1,q2,Q3,q4⟩;have ag:=(a7.trans (Fr.df K)).trans q4;have Q1:=q1.trans a6;have Q2:=(q2 b F).trans a8;go_wp2;go_roundw
   case rel=>grind
   case measure=>simp[intOf];omega
  .have he:q.kids.drop i=[]:=Li (by grind[Hid.out]);rw[he]at B;have a0:R=.ok () (l.dh b {u with kids:=[]}):=by
    rw[B,M.cH];show agy b () l=_;unfold agy;rw[mq]
   have⟨L3,HP1,HP2,p3⟩:=x.ajw mq;rw[d]at HP1 HP2 p3;have c4:wr.cell? ⟨L.dk b,3,none⟩=some (.slice ao n cap):=by rw[<-d,aN A.du,U.out,<-HN.out];rfl
   have ac:=cQ A.du 3;rw[d]at ac;have a9:=C.trans p3;have aa:=V a0;have ai:=V a3;clear D d a0 C;go_wp2;go_end0;rw[aa.out];exact⟨rfl,⟨L3,HP1,HP2⟩,a9,by grind[N.mQ]⟩
attribute [local go_sem] Oper.semAt_some
theorem ZD{l:Type}{d:Nat}{R:nh l}{K:Nat->M l}(e:R=(ahead d>>=K) σ)(hs:R≠ .stuck):∃i,dA σ.cC (posOf σ.cC (some d)-1)=some i/\R=K i σ/\some d∈σ.cC:=by
 rw[M.cH]at e;unfold ahead at e;cases hq:dA _ _ with
 |none=>grind
 |some i=>
  rcases qJ _ _ with⟨u,h⟩|⟨m,h,q,y,x⟩;rw[h]at hq;cases hq;grind
theorem Uv{a:Unit}(h:iC j σ=.ok a σ'):σ'.nodes.length=σ.nodes.length:=by
 unfold iC at h;split at h;cases h;split at h;grind;split at h;cases h;split at h;grind[N.dh];grind
theorem aaV{pl:Nat×Nat}{a:Unit}(h:fY pl j σ=.ok a σ'):σ'.nodes.length=σ.nodes.length:=by
 unfold fY at h;split at h;split at h;grind[N.dh];grind;grind
theorem PS{a:Nat×Nat}(h:placeFor i σ=.ok a σ'):σ'.nodes.length=σ.nodes.length:=by
 grind[jC,kX,placeFor]
theorem At.nv{d:Nat->Nat}{e:Nat}{l:J}{f:Nat->Nat}(h:At E d e l f σ w)(hi:i<e):nV f i=nV d i:=by unfold nV;rw[h.ext i hi]
theorem aaH{C:Nat->Nat}{l:N}{w0:J}(h:RF E C l w0)(u du:Nat)(F:(l.db u).isSome=true)(D:some du∈l.cC)(hs:pi u du l≠ .stuck):
  Calls prog 348 #[Bp E,nV C u,nV C du] w0 (Leaves E C l.nodes.length w0 (pi u du l) uV):=by
 have a0:u<l.nodes.length:=N.jy (σ:=l) (i:=u) F;have U:du<l.nodes.length:=N.jy (σ:=l) (i:=du) (h.wf.cC _ D);obtain⟨R,X⟩:∃R,R=pi u du l:=⟨_,rfl⟩;rw[<-X]at hs|-;unfold pi at X;have HS:=hs;have H:=V (At.start h);have d:=V X;have HC:=(λI=>aeG h u du F D I);clear h hs X F D;go_enter func348,ntmps348;go_wp21;have I:tK u du l≠ .stuck:=λe=>HS (by grind[Hid.out,M.cH]);refine(HC I).mono ?_;rintro e w1⟨B,K⟩;have y:=d;rw[M.cH]at y;cases hr:tK u du l with
 |stuck=>grind
 |stop c p=>
  rw[hr]at B y;obtain⟨j,rfl,H2,H3⟩:=B;have H1:=V y;clear y hr I K HC d;go_wp2;exact⟨rfl,nk H1 H2 H3⟩
 |ok r σ=>
  have⟨last,mark⟩:=r;have⟨hll,x⟩:=K _ _ hr;rw[hr]at B y;obtain⟨f,h1,h2,rfl,h4,h5⟩:=B;replace H:=V (show At E C l.nodes.length w0 f σ w1 from⟨h4,h1,h2,h5,H.hw⟩);replace d:=V y;obtain⟨w,hw⟩:∃w,w=w1:=⟨_,rfl⟩;rw[<-hw]at H|-;clear h1 h2 h4 h5 y hr I K HC hw;dsimp only at hll x d;have hl:=H.lt;go_wp21;refine mE (abr E last) H d HS rfl lT ?_;clear H d;rintro(_) σ w H A d z;replace z:=z;replace x:mark<σ.nodes.length:=by rw[Uv z];exact x
  clear z;have hl:=H.lt;have⟨ia,ha,hR2,hin⟩:=ZD d HS;have CA:=H.rel.ajo (some u) (N.uu (H.rel.wf.cC _ hin));rw[ha,show oV f (some u)=nV C u from H.out.nv a0]at CA;replace d:=V hR2;clear hR2 ha hin;go_wp21;refine CA.mono ?_;rintro e w_⟨rfl,rfl⟩;clear CA;go_wp21;refine mE (Ki E (dO E) ia) H d HS rfl lT ?_;clear H d;rintro(pl) σ w H A d z;replace z:=z;replace x:mark<σ.nodes.length:=by rw[PS z];exact x
  clear z;go_wp21;refine mE (DI E pl last) H d HS rfl lT ?_;clear H d;rintro(_) σ w H A d z;replace z:=z;replace x:mark<σ.nodes.length:=by rw[aaV z];exact x
  clear z;go_wp21;refine dC (MM E u) H d HS ((by grind[At.nv,Hid.out])) lT ?_;clear H d;rintro(q) f σ w H HX A d;have a2:=HX mark x;go_wp21;refine zI (λI=>(show Calls prog 369 #[nV C du,nV f q] w (gX E f σ.nodes.length w (handOver du q σ) uV)from by rw[<-H.out.nv U];exact VY H.rel du q I)) H d HS lT ?_;clear H d;rintro(_) σ w H A d;have hl:=H.lt;go_wp21;refine mC (FW E du) H d HS ((by grind[At.nv,Hid.out])) lT ?_;clear H d;rintro(a1) σ w H A d;go_wp21;refine mC (DI E a1 q) H d HS rfl lT ?_;clear H d;rintro(_) σ w H A d;have hl:=H.lt;go_wp21;refine mC (OC E (some mark) (some q)) H d HS ((by show #[_,nV f mark,nV f q]=_;simp)) lT ?_;clear H d;rintro(_) σ w H A d;have hl:=H.lt;go_wp21;refine mC (Cp E (some u)) H d HS ((by show #[_,nV f u]=_;grind[At.nv,Hid.out])) lT ?_;clear H d;rintro(_) σ w H A d;have hl:=H.lt;go_wp21;refine mC (DE E (some u)) H d HS ((by show #[_,nV f u]=_;grind[At.nv,Hid.out])) lT ?_;clear H d;rintro(_) σ w H A d;have hl:=H.lt;go_wp21;refine mC (PQ E (some du) (some q)) H d HS ((by show #[_,nV f du,nV f q]=_;grind[At.nv,Hid.out])) lT ?_;clear H d;rintro(_) σ w H A d;go_wp2;go_end0;exact cE d H rfl
attribute [local go_sem] Oper.semAt_some
def RF.ada{g:Nat->Nat}(h:RF E g σ W)(hi:σ.de (some i)=true):(binOp .eql 68 (nV g i) (.pointer none)).run prog W=.ok (.bool false) W:=by
 obtain⟨L,rfl,d⟩:=h;have:=Br (d.de hi) (d.de (x:=none) rfl);exact this
theorem rF:∀{xs:gZ},σ.oL s xs=some i->some i∈xs
 |[],h=>by cases h
 |none::_,h=>by cases h
 |some k::r,h=>by
  unfold N.oL at h;split at h;grind;exact io _ (rF h)
theorem IG:∀{xs:gZ} {b:eG},σ.ql f xs b=some i->some i∈xs\/b=some i
 |[],b,h=> .inr h
 |x::r,b,h=>by
  unfold N.ql at h;split at h;grind
  .rcases IG h with h|h
   all_goals grind
theorem FH(E:Env)(s:O):eP E 320 (λ_=>#[Bp E,Y s]) (iY s) bV:=by
 intro f σ w h hs;obtain⟨R,U⟩:∃R,R=iY s σ:=⟨_,rfl⟩;rw[<-U]at hs|-;have F:=Dw h s;have H:=At.start h;have HS:=hs;have hl:=h.lt;cases hla:σ.jH s with
 |none=>
  have q:R=(nT s>>=λ_=>(Pure.pure false:M Bool)) σ:=by rw[U];unfold iY;rw[hla]
  have u:=V q;rw[hla]at F;clear h hs U q hla;go_enter func320,ntmps320;go_wp21;refine F.mono ?_;rintro e I⟨rfl,l⟩;replace H:=H.k0 l;clear l F;go_wp21;refine dC (Jd E s) H u HS rfl lT ?_;clear H u;rintro(_) f σ w H HX HF u;go_wp2;go_ret;exact cE u H rfl
 |some i=>
  have B:some i∈σ.act:=by have:=rF hla;simpa using this
  have z:σ.de (some i)=true:=h.wf.act _ B;rw[hla]at F;have x:=(λ(W:J) (l:Z [] w W)=>(h.dB l).alE (some i) z);have K:=(λ(W:J) (l:Z [] w W)=>(h.dB l).ada z);by_cases ho:some i∈σ.cC
  .rw[tu ho]at x;have A:=(λ(W:J) (l:Z [] w W)=>Gc (h.dB l) i z);have C:=(λ(W:J) (l:Z [] w W)=>LB (h.dB l) i z);cases hsc:σ.kg i with
   |false=>
    have q:R=.ok false σ:=by rw[U];unfold iY;rw[hla];dsimp only;rw[cZ (by grind),hsc];rfl
    have u:=V q;rw[hsc]at A;clear h hs U q hla B z ho hsc C;go_enter func320,ntmps320;go_wp21;refine F.mono ?_;rintro e I⟨rfl,d⟩;replace H:=H.k0 d;have X:=x I d;have y:=K I d;clear F x;unfold nV at y;go_wp21;refine X.mono ?_;rintro e w_⟨rfl,D⟩;subst D;clear X;go_wp21;refine(A _ d).mono ?_;rintro e w2⟨rfl,l⟩;replace H:=H.k0 l;replace d:=d.trans l;clear l A y;go_wp2;go_ret;exact cE u H rfl
   |true=>
    rw[hsc]at A;cases hbb:σ.jT i with
    |none=>
     have q:R=(vr (some i)>>=λ_=>gv (some i)>>=λ_=>(Pure.pure false:M Bool)) σ:=by rw[U];unfold iY;rw[hla];dsimp only;rw[cZ (by grind),hsc,hbb];rfl
     have u:=V q;rw[hbb]at C;clear h hs U q hla B z ho hsc hbb;go_enter func320,ntmps320;go_wp21;refine F.mono ?_;rintro e I⟨rfl,d⟩;replace H:=H.k0 d;have X:=x I d;have y:=K I d;clear F x;unfold nV at y;go_wp21;refine X.mono ?_;rintro e w_⟨rfl,D⟩;subst D;clear X;go_wp21;refine(A _ d).mono ?_;rintro e w2⟨rfl,l⟩;replace H:=H.k0 l;replace d:=d.trans l;clear l A y;go_wp21;refine(C _ d).mono ?_;rintro e w3⟨rfl,l⟩;replace H:=H.k0 l;replace d:=d.trans l;clear l C;have hl:=H.lt;go_wp21;refine mC (aed E (some i)) H u HS rfl lT ?_;clear H u;rintro(_) σ w H HF u;have hl:=H.lt;go_wp21;refine mC (Cp E (some i)) H u HS rfl lT ?_;clear H u;rintro(_) σ w H HF u;go_wp2;go_ret;exact cE u H rfl
    |some b=>
     have a0:some b∈σ.cC:=by
      rcases IG (b:=none) hbb with h|h
      simpa using h
      cases h
     have a2:σ.de (some b)=true:=N.uu (h.wf.cC _ a0);have a1:=(λ(W:J) (l:Z [] w W)=>(h.dB l).ada a2);have q:R=(pi i b>>=λ_=>(Pure.pure true:M Bool)) σ:=by rw[U];unfold iY;rw[hla];dsimp only;rw[cZ (by grind),hsc,hbb];rfl
     have u:=V q;have a4:=(λ(W:J) (l:Z [] w W) (hm:pi i b σ≠ .stuck)=>aaH (h.dB l) i b z a0 hm);rw[hbb]at C;clear h hs U q hla B z ho hsc hbb a0 a2;go_enter func320,ntmps320;go_wp21;refine F.mono ?_;rintro e I⟨rfl,d⟩;replace H:=H.k0 d;have X:=x I d;have y:=K I d;clear F x;unfold nV at y;go_wp21;refine X.mono ?_;rintro e w_⟨rfl,D⟩;subst D;clear X;go_wp21;refine(A _ d).mono ?_;rintro e w2⟨rfl,l⟩;replace H:=H.k0 l;replace d:=d.trans l;clear l A y;go_wp21;refine(C _ d).mono ?_;rintro e w3⟨rfl,l⟩;replace H:=H.k0 l;replace d:=d.trans l;clear l C;have a3:=a1 _ d;unfold nV at a3;go_wp21;refine dcH (λhm=>a4 _ d hm) H u HS lT ?_;clear H u;rintro(_) f σ w H HX HF u;go_wp2;go_ret;exact cE u H rfl
  .rw[xz ho]at x;have q:R=(gv (some i)>>=λ_=>(Pure.pure false:M Bool)) σ:=by rw[U];unfold iY;rw[hla];dsimp only;rw[dd ho]
   have u:=V q;clear h hs U q hla B z ho;go_enter func320,ntmps320;go_wp21;refine F.mono ?_;rintro e I⟨rfl,l⟩;replace H:=H.k0 l;have X:=x I l;have y:=K I l;clear l F x K;unfold nV at y;go_wp21;refine X.mono ?_;rintro e w_⟨rfl,D⟩;subst D;have hl:=H.lt;go_wp21;refine mC (Cp E (some i)) H u HS rfl lT ?_;clear H u;rintro(_) σ w H HF u;go_wp2;go_ret;exact cE u H rfl
attribute [local go_sem] Oper.semAt_some
def FG{R:nh Unit}(h:R=qj s (k+1) σ):R=(iY s>>=λb=>if b then qj s k else (Pure.pure ():M Unit)) σ:=h
theorem OH(E:Env)(s:O):eP E 277 (λ_=>#[Bp E,Y s]) (rY s) uV:=by
 intro B d w0 h HS;obtain⟨R,hR⟩:∃R,R=rY s d:=⟨_,rfl⟩;rw[<-hR]at HS|-;obtain⟨i,hi⟩:∃i,d.last=some i:=by
  cases hq:d.last with
  |some i=>simp
  |none=>grind[rY]
 have⟨ei,hei⟩:=h.wf.JN hi;have X:d.de (some i)=true:=by show(d.db i).isSome=true;rw[hei];rfl
 have I:=h.SM;rw[hi]at I;have c0:w0.cell? ⟨B i,0,none⟩=some (Y (d.nm i)):=by
  obtain⟨L,rfl,hr⟩:=h;exact hr.tI hei
 have C:=h.alD (some i) X;have H:=At.start h;have hl:=h.lt;have a3:B i<w0.heap.size:=by
  obtain⟨L,rfl,hr⟩:=h;exact hr.IC (N.dm hei)
 have x:R=if ir (d.nm i) s&&!decide (some i∈d.act)then (tJ>>=λ_=>(Pure.pure ():M Unit)) d else qj s 8 d:=by
  rw[hR];unfold rY;rw[hi]
 clear h hR hi hei X;cases hq:ir (d.nm i) s with
 |false=>
  rw[hq]at x;have l:=V (show R=qj s 8 d from x);have a2:((d.nm i).toList==s.toList)=false:=hq;clear x hq C;go_enter func277,ntmps277;go_wp21;refine I.mono ?_;rintro e w_⟨rfl,z⟩;have y:=z.symm;subst y;clear I;rw[show oV B (some i)=cW (B i)from rfl];go_wp21
  go_loopw [27] (λv wr=>∃(k:Nat)(g:Nat->Nat)(F:N),v=G k/\k<=8/\At E B d.nodes.length w0 g F wr/\R=qj s (8-k) F) (λv _=>8-(intOf v).toNat)
  case atStart=>exact⟨0,B,d,rfl,by omega,H,l⟩
  case round=>
   obtain⟨k,f,σ,rfl,a0,q,A⟩:=hrel;have a1:d.nodes.length<=σ.nodes.length:=q.le;by_cases hk:k<8
   .have D:=FG (R:=R) (σ:=σ) (s:=s) (k:=7-k) (by grind);replace H:=q;replace l:=V D;clear q A D;obtain⟨w,U⟩:∃w,w=wr:=⟨_,rfl⟩;rw[<-U]at H|-;clear U;go_wp21;refine dC (FH E s) H l HS rfl lT ?_;clear H l;rintro(b) f σ w H HX HF l;cases b with
    |false=>
     replace l:Hid (R=(Pure.pure ():M Unit) σ):=l;go_wp2;go_end0;exact cE l H rfl
    |true=>
     have K:Hid (R=qj s (7-k) σ):=l;go_wp2;go_roundw
     case rel=>exact⟨k+1,f,σ,by go_num,by omega,H,by rw[show 8-(k+1)=7-k by omega];exact K⟩
     case measure=>simp[intOf];omega
   .have e8:k=8:=by omega
    subst e8;replace H:=q;replace l:=V (show R=(Pure.pure ():M Unit) σ from A);clear q A;go_wp2;go_end0;exact cE l H rfl
 |true=>
  have a2:((d.nm i).toList==s.toList)=true:=hq;by_cases u:some i∈d.act
  .rw[hq,tu u]at x;have l:=V (show R=qj s 8 d from x);rw[tu u]at C;clear x hq u;go_enter func277,ntmps277;go_wp21;refine I.mono ?_;rintro e w_⟨rfl,z⟩;have y:=z.symm;subst y;clear I;rw[show oV B (some i)=cW (B i)from rfl];go_wp21;refine C.mono ?_;rintro e w_⟨rfl,z⟩;have y:=z.symm;subst y;go_wp21
   go_loopw [27] (λv wr=>∃(k:Nat)(g:Nat->Nat)(F:N),v=G k/\k<=8/\At E B d.nodes.length w0 g F wr/\R=qj s (8-k) F) (λv _=>8-(intOf v).toNat)
   case atStart=>exact⟨0,B,d,rfl,by omega,H,l⟩
   case round=>
    obtain⟨k,f,σ,rfl,a0,q,A⟩:=hrel;have a1:d.nodes.length<=σ.nodes.length:=q.le;by_cases hk:k<8
    .have D:=FG (R:=R) (σ:=σ) (s:=s) (k:=7-k) (by grind);replace H:=q;replace l:=V D;clear q A D;obtain⟨w,U⟩:∃w,w=wr:=⟨_,rfl⟩;rw[<-U]at H|-;clear U;go_wp21;refine dC (FH E s) H l HS rfl lT ?_;clear H l;rintro(b) f σ w H HX HF l;cases b with
     |false=>
      replace l:Hid (R=(Pure.pure ():M Unit) σ):=l;go_wp2;go_end0;exact cE l H rfl
     |true=>
      have K:Hid (R=qj s (7-k) σ):=l;go_wp2;go_roundw
      case rel=>exact⟨k+1,f,σ,by go_num,by omega,H,by rw[show 8-(k+1)=7-k by omega];exact K⟩
      case measure=>simp[intOf];omega
    .have e8:k=8:=by omega
     subst e8;replace H:=q;replace l:=V (show R=(Pure.pure ():M Unit) σ from A);clear q A;go_wp2;go_end0;exact cE l H rfl
  .rw[hq,xz u]at x;have l:=V (show R=(tJ>>=λ_=>(Pure.pure ():M Unit)) d from x);rw[xz u]at C;clear x hq u;go_enter func277,ntmps277;go_wp21;refine I.mono ?_;rintro e w_⟨rfl,z⟩;have y:=z.symm;subst y;clear I;rw[show oV B (some i)=cW (B i)from rfl];go_wp21;refine C.mono ?_;rintro e w_⟨rfl,z⟩;have y:=z.symm;subst y;go_wp21;obtain⟨w,U⟩:∃w,w=w0:=⟨_,rfl⟩;refine mC (BP E) H l HS rfl lT ?_;clear H l;rintro(_) σ w H HF l;go_wp2;go_end0;exact cE l H rfl
attribute [local go_sem] Oper.semAt_some
def ad3(g:Nat->Nat)(i:Nat)(W:J):(binOp .neq 68 (nV g i) (.pointer none)).run prog W=.ok (.bool true) W:=run_neq_pointer_nil W 68 _ Ja
def Uc(E:Env)(t:cR)(U:eY E t):eP E 199 (λ_=>#[Bp E,dJ E t]) (kY t) uV:=by
 intro F l X h D;obtain⟨R,y⟩:∃R,R=kY t l:=⟨_,rfl⟩;rw[<-y]at D|-;have x:=Dw h xH;have H:=V (At.start h);have HS:=D;have hl:=h.lt;cases hla:l.jH xH with
 |none=>
  have q:R=(dU t>>=λ_=>(Pure.pure ():M Unit)) l:=by rw[y];unfold kY;rw[hla]
  have d:=V q;rw[hla]at x;clear h D y q hla;go_enter func199,ntmps199;go_wp21;refine x.mono ?_;rintro e w⟨rfl,B⟩;replace H:=V (H.k0 B);clear B x;go_wp21;refine dC (lR E t U) H d HS rfl lT ?_;clear H d;rintro(_) f σ w H K C d;go_wp2;go_end0;exact cE d H rfl
 |some i=>
  have u:some i∈l.act:=by have:=rF hla;simpa using this
  have z:l.de (some i)=true:=h.wf.act _ u;have A:i<l.nodes.length:=N.jy (σ:=l) (i:=i) z;have q:R=(rY xH>>=λ_=>gv (some i)>>=λ_=>fB (some i)>>=λ_=>dU t>>=λ_=>(Pure.pure ():M Unit)) l:=by rw[y];unfold kY;rw[hla]
  have d:=V q;rw[hla]at x;clear h D y q hla u z;go_enter func199,ntmps199;go_wp21;refine x.mono ?_;rintro e w⟨rfl,B⟩;replace H:=V (H.k0 B);have I:=ad3 F i w;clear B x;unfold nV at I;rw[show oV F (some i)=cW (F i)from rfl];go_wp21;refine dC (OH E xH) H d HS rfl lT ?_;clear H d;rintro(_) f σ w H K C d;have hl:=H.lt;go_wp21;refine mC (Cp E (some i)) H d HS ((by show #[_,nV f i]=_;rw[H.out.nv A])) lT ?_;clear H d;rintro(_) σ w H C d;have hl:=H.lt;go_wp21;refine mC (DE E (some i)) H d HS ((by show #[_,nV f i]=_;rw[H.out.nv A])) lT ?_;clear H d;rintro(_) σ w H C d;go_wp21;refine dC (lR E t U) H d HS rfl lT ?_;clear H d;rintro(_) f σ w H K C d;go_wp2;go_end0;exact cE d H rfl
def GP(E:Env)(t:cR):eP E 211 (λ_=>#[Bp E,dJ E t]) (kM t) uV:=by
 refine dI λf σ w R d HS H=>?_;go_enter func211,ntmps211;have⟨ta,tb,tao,tn,tcp,HTG⟩:=DX E t H.rel;have h:=λw=>zV ta tb t.name tao tn tcp w;go_wp21;refine(HTG _).mono ?_;rintro e x⟨rfl,l⟩;replace H:=H.k0 l;go_wp21;refine dC (OH E t.name) H d HS rfl lT ?_;rintro(_) f σ w H u q d;go_wp2;go_end0;exact cE d H rfl
attribute [local go_sem] Oper.semAt_some
section
variable (E:Env)(t:cR)(hG:∀i,eP E 271 (λf=>#[Bp E,nV f i,dJ E t]) (qE i t) uV)
include hG
theorem VT:eP E 185 (λ_=>#[Bp E,dJ E t]) (jm t) uV:=by
 intro f σ w h HS;obtain⟨R,u⟩:∃R,R=jm t σ:=⟨_,rfl⟩;rw[<-u]at HS|-;obtain⟨i,hi⟩:∃i,dA σ.cC 0=some i:=by
  cases hq:dA σ.cC 0 with
  |some i=>simp
  |none=>grind[jm]
 have d:R=(qE i t>>=λ_=>(Pure.pure ():M Unit)) σ:=by rw[u];unfold jm;rw[hi]
 have q:=h.atO 0;rw[hi]at q;have H:=At.start h;have l:=V d;have hl:=h.lt;have z:=hG;clear h u d hi hG;go_enter func185,ntmps185;go_wp21;refine q.mono ?_;rintro e C⟨rfl,y⟩;have x:=y.symm;subst x;clear q;go_wp21;refine dC (z i) H l HS rfl lT ?_;clear H l;rintro(_) f σ w H B A l;go_wp2;go_end0;exact cE l H rfl
theorem VS:eP E 186 (λ_=>#[Bp E,dJ E t]) (lc t) uV:=by
 intro f σ w h B;obtain⟨R,z⟩:∃R,R=lc t σ:=⟨_,rfl⟩;rw[<-z]at B|-;have x:=h.atO 1;have H:=At.start h;have HS:=B;have hl:=h.lt;have C:=hG;cases hi:dA σ.cC 1 with
 |none=>
  have d:R=.ok () σ:=by rw[z];unfold lc;rw[hi]
  rw[hi]at x;have y:=V d;clear h B z d hi hG C;go_enter func186,ntmps186;go_wp21;refine x.mono ?_;rintro e U⟨rfl,q⟩;have l:=q.symm;subst l;clear x;go_wp2;go_end0;exact cE y H rfl
 |some i=>
  obtain⟨ei,u⟩:∃e,σ.db i=some e:=Option.isSome_iff_exists.1 (h.wf.cC _ (j8 hi));have c0:w.cell? ⟨f i,0,none⟩=some (Y (σ.nm i)):=by
   obtain⟨L,rfl,I⟩:=h;exact I.tI u
  have K:f i<w.heap.size:=by
   obtain⟨L,rfl,I⟩:=h;exact I.IC (N.dm u)
  have A:=ad3 f i w;rw[hi]at x;cases hq:ir (σ.nm i) aZ with
  |true=>
   have d:R=(qE i t>>=λ_=>(Pure.pure ():M Unit)) σ:=by rw[z];unfold lc;rw[hi];dsimp only;rw[hq];rfl
   have y:=V d;have F:((σ.nm i).toList==[98,111,100,121])=true:=by
    have D:(aZ:O).toList=[98,111,100,121]:=by first|rfl|decide|simp
    rw[<-D];exact hq
   clear h B z d hi hG hq u;unfold nV at A;go_enter func186,ntmps186;go_wp21;refine x.mono ?_;rintro e U⟨rfl,q⟩;have l:=q.symm;subst l;clear x;rw[show oV f (some i)=cW (f i)from rfl];go_wp21;refine dC (C i) H y HS rfl lT ?_;clear H y;rintro(_) f σ w H HX X y;go_wp2;go_end0;exact cE y H rfl
  |false=>
   have d:R=.ok () σ:=by rw[z];unfold lc;rw[hi];dsimp only;rw[hq];rfl
   have y:=V d;have F:((σ.nm i).toList==[98,111,100,121])=false:=by
    have D:(aZ:O).toList=[98,111,100,121]:=by first|rfl|decide|simp
    rw[<-D];exact hq
   clear h B z d hi hG hq u C;unfold nV at A;go_enter func186,ntmps186;go_wp21;refine x.mono ?_;rintro e U⟨rfl,q⟩;have l:=q.symm;subst l;clear x;rw[show oV f (some i)=cW (f i)from rfl];go_wp2;go_end0;exact cE y H rfl
end
def aiA(L M:iD):flat (L++M)=flat L++flat M:=oi ..
structure ak7(w:J)(v:cY)(cU:iD)(v':cY)(w':J):Prop where
 row:yC w' v' cU
 kp:Z v.ownBlock.toList w w'
 new:v'.ownBlock=v.ownBlock\/∀k,v'.ownBlock=some k->w.heap.size<=k
theorem Rel.alB{L:Loc}{w1:J}(h:Rel E L σ w){e:sZ}(hi:σ.db i=some e)(U:kF e.name=true)(hf:σ.fresh=true)(a:O×O)(a5:e.di.length<4096)(B:ak7 w (L.av i) (e.di++[a]) v' w1):
  Rel E {L with av:=λx=>if x=i then v' else L.av x} (σ.dh i {e with di:=e.di++[a]}) (w1.setCell ⟨L.dk i,1,none⟩ v')/\Fr E.bs w (w1.setCell ⟨L.dk i,1,none⟩ v'):=by
 have H:=N.dm hi;have a1:(σ.db i).isSome=true:=by rw[hi];rfl
 have⟨hEl,hAt,hAl⟩:=h.qH i _ (N.fa hi);have F:∀g,(L.av i).ownBlock=some g->∃c m,w.heap[g]?=some (.cells c 295 m):=λg U=>qd hAt U;have K:L.dk i∉(L.av i).ownBlock.toList:=by
  intro y;have a3:(L.av i).ownBlock=some (L.dk i):=by simpa using y
  exact BW hAt hEl.du (by decide) a3
 have b1:=B.kp.at hEl.du K;obtain⟨w',A⟩:∃w',w'=w1.setCell ⟨L.dk i,1,none⟩ v':=⟨_,rfl⟩;rw[<-A];have b2:w'.heap[L.dk i]?=some (cV #[Y e.name,v',ig (eM L.dk e.ff),L.kv i] 139):=by rw[A];exact bJ b1 1 v'
 have z:Z (L.dk i::(L.av i).ownBlock.toList) w w':=by rw[A];exact(B.kp.mono (λk z _=>io _ z)).setCell (.inl (by simp)) _
 have r2:yC w' v' (e.di++[a]):=by rw[A];exact xC (a:=⟨L.dk i,1,none⟩) B.row (BW B.row b1 (by decide)) v'
 have D:KT E.bs [139,295] w w':=.fS z (λk z _=>by
  rcases List.mem_cons.1 z with rfl|z;exact⟨⟨_,_,_,hEl.du,by simp⟩,h.bN i H⟩;have I:(L.av i).ownBlock=some k:=by simpa using z
  have⟨c,m,hc⟩:=F k I;exact⟨⟨_,_,_,hc,by simp⟩,h.ab i k H I⟩)
 have u:(σ.dh i {e with di:=e.di++[a]}).nodes.length=σ.nodes.length:=N.mQ _ _ _;have a0:∀j,((σ.dh i {e with di:=e.di++[a]}).db j=none↔σ.db j=none):=by
  intro j;by_cases q:j=i;grind[N.eB];grind[N.dY]
 have a4:∀j g,j<σ.nodes.length->j≠i->v'.ownBlock=some g->(L.av j).ownBlock≠some g:=by
  intro j g q l d X;rcases B.new with e1|e1;rw[e1]at d;exact h.uq i j e g hi U q (wj l) d X;grind[OM]
 have⟨C,hbl,hC⟩:=h.du;refine⟨?_,D.fr (by decide)⟩;exact
  {fr:=h.fr.trans (D.fr (by decide))
   env:=h.env
   Dz:=h.Dz
   qH:=by
    intro j nd q;rcases N.lh q with⟨rfl,rfl⟩|⟨l,q⟩
    .refine⟨⟨?_,?_,hEl.le,?_⟩,?_,?_⟩
     all_goals grind[KT.row,El.row,cP]
    have a2:=(List.getElem?_eq_some_iff.1 q).1;have hN:iS E.bs L w' j nd:=by
     refine(h.qH j nd q).kept z ?_ ?_ ?_;intro y;rcases List.mem_cons.1 y with e1|y;exact l (h.inj _ _ e1);grind[U9];grind[zD,El.du];intro g d y;rcases List.mem_cons.1 y with e1|y;grind[OM,El.du];exact h.uq i j e g hi U a2 (wj l) (by grind) d
    cases nd with
    |el e'=>grind[iS]
    |tx s=>exact hN
    |cm s=>exact hN
    |dt s=>exact hN
   inj:=h.inj
   Ar:=by grind[Ar]
   Ge:=λj q hn=>h.Ge j (by omega) ((a0 j).1 hn)
   uq:=by
    grind[N.dm,N.dY,uq]
   Eg:=by
    grind[Eg]
   wf:=h.wf.dh a1 (h.wf.ff i e hi) (h.wf.kids i e hi)
   du:=⟨C,D.at hbl (by decide),⟨hC.size,hC.low,hC.cC,hC.act,hC.head,hC.form,hC.mode,hC.kept,hC.wait,hC.Jm,hC.fJ,hC.dk,hC.behind⟩⟩
   ng:=D.row h.ng (by decide)
   oh:=D.row h.oh (by decide)
   Ic:=h.Ic,vu:=h.vu,Ep:=h.Ep
   mY:=D.row h.mY (by decide)
   MF:=h.MF
   rd:=D.at h.rd (by decide)
   TR:=h.TR
   tok:=z.ownsRow h.tok (λg d y=>by
    rcases List.mem_cons.1 y with e1|y;have⟨c,m,hc⟩:=qd h.tok d;grind[El.du];grind[zd])
   Lq:=h.Lq,bz:=h.bz,bB:=h.bB,bR:=h.bR
   bN:=by rw[u];exact h.bN
   zd:=by
    intro _ j g q d;rw[u]at q;by_cases l:j=i;subst l;simp only[if_true];intro X;rcases B.new with e1|e1;grind[zd];have:=e1 g X;have⟨c,m,hc⟩:=qd h.tok d;grind;grind[zd]
   ab:=by
    intro j g q d;rw[u]at q;by_cases l:j=i;subst l;simp only[if_true]at d;rcases B.new with e1|e1;rw[e1]at d;exact h.ab j g q d;exact fK h.bw (e1 g d);simp only[cZ l]at d;exact h.ab j g q d
   tb:=h.tb
   ME:=h.ME}
attribute [local go_sem] Oper.semAt_some
def adz:(prog.info? 295).map (λi=>(i.zero,i.size,i.bytes))=some (some (.agg #[Y gU,Y gU]),2,32):=by kernel_rfl
def Jp(i:Nat)(a:O×O)(r:iD)(σ:N):lK i (a::r) σ=(match σ.db i with
  |none=> .stuck
  |some e=>if uo e.di a.1 then lK i r σ else if σ.mj<=e.di.length then .stop 7 σ.dk else lK i r (σ.dh i {e with di:=e.di++[a]})):=rfl
theorem aib(E:Env)(t:cR)(u:eY E t){f:Nat->Nat}(h:RF E f σ w):∃x y nm d l,yv E t=#[.int .i64 x,.int .i64 y,.string nm,.slice d t.fc.length l]/\t.fc.length<=4096/\∀f σ w,RF E f σ w->yC w (.slice d t.fc.length l) t.fc:=by
 have⟨L,e,hr⟩:=h;have⟨d,l,htv⟩:=cP hr.tok;have⟨a,b,k,cU⟩:=t;cases k with
 |start n=>
  have e:=u rfl;subst e;exact⟨a,b,n,d,l,by grind[yv,cR.fc],hr.Lq,λf σ w ⟨L,_,h⟩=>by show yC w (.slice d E.ta.length l) E.ta;grind[Rel.tok]⟩
 |stop n=>
  have e:=u rfl;subst e;exact⟨a,b,n,d,l,by grind[yv,cR.fc],hr.Lq,λf σ w ⟨L,_,h⟩=>by show yC w (.slice d E.ta.length l) E.ta;grind[Rel.tok]⟩
 |gz s=>exact⟨0,0,_,none,0,rfl,yQ _,λ_ _ _ _=>mh _ _ _ _⟩
 |dl s=>exact⟨0,0,_,none,0,rfl,yQ _,λ_ _ _ _=>mh _ _ _ _⟩
 |dK n q=>exact⟨0,0,_,none,0,rfl,yQ _,λ_ _ _ _=>mh _ _ _ _⟩
 |lost=>exact⟨0,0,_,none,0,rfl,yQ _,λ_ _ _ _=>mh _ _ _ _⟩
 |dD=>exact⟨0,0,_,none,0,rfl,yQ _,λ_ _ _ _=>mh _ _ _ _⟩
def aaP{o:Oper}{ys:Nat->Option Bool}{a:Act}{e:Act->J->Prop}{Q:Exit->Act->J->Prop}{d:Prop}(s x:Operand)(t:TypeId)(l:o.op=.call {callee:=.builtin .append,args:=#[s,x],argTypes:=#[t,t]})(y:o.guard=none)(v u:cY)(hs:a.eval s=v)(z:a.eval x=u)(q:(Builtin.append_ #[t,t] o.type #[v,u]).run prog w=.ok v' w')(h:e (a.put o.dst v') w'):if Region.wanted o ys=true then Oper.wp prog o a w e Q else d:=by
 rw[dd (by unfold Region.wanted;rw[y])];unfold Oper.wp execOp;simp[l,resolve,invoke,builtin,hs,z,q];exact h
structure Ou(w:J)(v:cY)(n:Nat)(cU:iD)(v':cY)(W:J):Prop where
 app:ak7 w v cU v' W
 shape:∃ao cp,v'=.slice ao (n+1) cp
theorem Ou.at{cU:iD}(h:Ou w v n cU v' W){c:fN}(d:w.heap[k]?=some (cV c T))(e:v.ownBlock≠some k):W.heap[k]?=some (cV c T):=h.app.kp.at d (by grind)
theorem Ou.cell{cU:iD}(h:Ou w v n cU v' W){l q u:cY}(e:w.heap[k]?=some (cV #[l,v,q,u] T))(d:v.ownBlock≠some k):W.cell? ⟨k,1,none⟩=some v:=by rw[aN (h.at e d)];rfl
def Ou.free{cU:iD}(h:Ou w v n cU v' W){c:fN}(e:w.heap[k]?=some (cV c T))(d:v.ownBlock≠some k):W.frozen? ⟨k,1,none⟩=false:=cQ (h.at e d) 1
theorem Rh{d:Option Addr}{h:Nat}{cU:iD}(w W:J)(l:Z [] w W)(C:yC w (.slice d cU.length h) cU)(k:Nat)(a b:O)(B:W.heap[k]?=some (cV #[Y a,Y b] 295))(F:cU.length<=4096):
  ∃v' w',(Builtin.append_ #[136,136] 136 #[.slice d cU.length h,ky k 1 1]).run prog W=.ok v' w'/\Ou w (.slice d cU.length h) cU.length (cU++[(a,b)]) v' w':=by
 obtain⟨D,hi,y,z,A⟩:=rQ adz;have⟨v',w',h1,h2,h3,h4⟩:=yN W 0 136 136 295 D _ 2 32 underlying136 hi y z A rfl (by decide) (.slice d cU.length h) cU.length (flat cU) (l.ownsRow C (λ_ _=>by simp)) ⟨k,0,none⟩ 1 1 [Y a,Y b] rfl (λj u q=>by
  rw[eL,aN B,<-q];simp) (λu q=>by simp at q;rcases q with rfl|rfl<;>rfl) (by unfold maxLen;omega) (by omega) (yQ _)
 refine⟨v',w',h1,⟨?_,((l.mono (by simp)).grown h3 (λk l=> .inl (by grind))),?_⟩,?_⟩;grind[flat];rcases h4 with e|e;grind;exact .inr λk x=>fK l.size (e k x);grind[cP]
def GvJ(e:J)(a b:O)(q:cY)(n:Nat)(cU:iD)(x:Nat)(g:Nat×cY)(u l d:Bool)(W:J):Prop:=(l=false->Z [] e W/\(u=true->W.heap[g.1]?=some (cV #[Y a,Y b] 295)))/\(l=true->d=false->Ou e q n cU g.2 W)/\(d=true->∃h,Ou e q n cU g.2 h/\W=h.setCell ⟨x,1,none⟩ g.2)
def GvJ.EN{q:J}{a b:O}{l:cY}{cU:iD}{e:Nat}{g:Nat×cY}{z:Array Bool}(h:GvJ q a b l n cU e g (dn z 6) (dn z 7) (dn z 10) W)(u:k≠6)(x:k≠7)(d:k≠10):GvJ q a b l n cU e g (dn (z.setIfInBounds k true) 6) (dn (z.setIfInBounds k true) 7) (dn (z.setIfInBounds k true) 10) W:=by rw[iR u,iR x,iR d];exact h
theorem adn(E:Env)(t:cR)(ht:eY E t)(i:Nat):eP E 271 (λf=>#[Bp E,nV f i,dJ E t]) (qE i t) uV:=by
 intro f σ w h hs;obtain⟨R,I⟩:∃R,R=qE i t σ:=⟨_,rfl⟩;rw[<-I]at hs|-;have A:(σ.fresh&&kF (σ.nm i))=true:=by
  cases hq:(σ.fresh&&kF (σ.nm i))with
  |true=>rfl
  |false=>unfold qE at I;rw[hq]at I;exact absurd I hs
 have a2:R=lK i t.fc σ:=by rw[I];unfold qE;rw[A];rfl
 rw[oY]at A;obtain⟨a5,a3⟩:=A;obtain⟨x,y,nm,ao,cp,ap,hn,ab⟩:=aib E t ht h;have aw:∃ao n cp,E.tv=.slice ao n cp:=by
  obtain⟨L,_,F⟩:=h;obtain⟨ao,cp,e⟩:=cP F.tok;exact⟨ao,_,cp,e⟩
 have C1:=λW=>xr E t W aw;rw[ap]at C1;generalize t.fc=cU at *;have aj:=V C1;have am:=V ab;have HS:=V hs;have H:=V (At.start h);have K:=V a5;have U:=V a3;have HR:=V a2;clear C1 ab hs h a5 a3 I a2 ap aw ht;go_enter func271,ntmps271;go_wp2_with fail;refine(aj.out _).mono ?_;rintro e w1⟨rfl,aq⟩;replace H:=V (H.out.k0 aq);clear aq aj;have aF:=λ(w:J)=>xu x y nm ao cU.length cp w;go_wp2_with fail;clear aF
 go_loopw [12] (λv wr=>∃(l:Nat)(σ':N),v=.int .i64 l/\l<=cU.length/\R=lK i (cU.drop l) σ'/\At E f σ.nodes.length w f σ' wr/\σ'.fresh=true/\kF (σ'.nm i)=true) (λv _=>cU.length-(intOf v).toNat)
 case atStart=>exact⟨0,σ,rfl,yQ _,HR.out,H.out,K.out,U.out⟩
 case round=>
  clear H K U HR;obtain⟨l,σ',rfl,aM,I,a0,a5,a3⟩:=hrel;by_cases au:l<cU.length
  .obtain⟨g0,rfl,c0,c1⟩:=yC.at2 (am.out _ _ _ a0.rel) au;rw[US au]at I;obtain⟨e,he⟩:∃e,σ'.db i=some e:=by
    cases hq:σ'.db i with
    |some e=>exact⟨e,rfl⟩
    |none=>rw[Jp,hq]at I;exact absurd I HS.out
   have a2:R=(if uo e.di cU[l].1 then lK i (cU.drop (l+1)) σ' else if σ'.mj<=e.di.length then .stop 7 σ'.dk else lK i (cU.drop (l+1)) (σ'.dh i {e with di:=e.di++[cU[l]]})):=by rw[I,Jp,he]
   have av:σ'.nm i=e.name:=by unfold N.nm;rw[he]
   rw[av]at a3;have ax:cU[l]=(cU[l].1,cU[l].2):=rfl;generalize cU[l].1=a at *;generalize cU[l].2=b at *;rw[ax]at a2;have hK:Z [] wr (wr.alloc (.cells #[.string a,.string b] 295 (0,0))):=(Z.refl _ _).alloc _;have hB:=aY wr (.cells #[.string a,.string b] 295 (0,0));obtain⟨L,hL,F⟩:=(a0.k0 hK).rel;obtain⟨D,d,an⟩:=F.qH i _ (N.fa he);have C2:=V (ajU (L.dk i) e.name (L.av i) _ _ e.di a _ D.du d an);rw[hL]at C2;have HE:=V he;have X:=V a2;have HA:=V (a0.k0 hK);have HB:=V hB;have aL:=V (eS hB);have K:=V a5;have U:=V a3;clear I a2 he a0 hK hB F D d an a5 a3 av ax hL;go_wp21;refine C2.out.mono ?_;rintro e2 w2⟨rfl,ah⟩;replace HA:=V (HA.out.k0 ah);replace HB:=V (ah.at HB.out (by simp));clear ah C2 L;cases hq:uo e.di a with
   |true=>
    have a4:=V (show R=lK i (cU.drop (l+1)) σ' by rw[X.out,hq];rfl);clear hq X;go_wp2;go_roundw
    case rel=>exact⟨l+1,σ',by go_num,by omega,a4.out,HA.out,K.out,by unfold N.nm;rw[HE.out];exact U.out⟩
    case measure=>simp[intOf];omega
   |false=>
    obtain⟨L,hL,F⟩:=HA.out.rel;have D:=(F.qH i _ (N.fa HE.out)).1;have d:=(F.qH i _ (N.fa HE.out)).2.1;obtain⟨B,C,a7⟩:=cP d;have d0:w2.cell? ⟨f i,1,none⟩=some (.slice B e.di.length C):=by rw[<-hL,aN D.du,<-a7];rfl
    have d1:w2.cell? ⟨E.bB,2,none⟩=some (.int .i64 (σ'.mj:Int)):=F.low (by decide) F.Dz.2.2.1;have aH:=F.Dz.2.2.2.2.2;have ar:f i<w2.heap.size:=by rw[<-hL];exact eS D.du
    have aP:=F.lt;by_cases aa:σ'.mj<=e.di.length
    .have a4:=V (show R=.stop 7 σ'.dk by rw[X.out,hq];simp[aa]);have C3:=V (λq=>Qn (F.drewN q) 7);clear hq X F D d a7;go_wp21
     go_quiet (fail)
     go_wp21;refine(C3.out nq).mono ?_;rintro e3 w3⟨k,rfl,h1,h2⟩;have H1:=V h1;have H2:=V ((HA.out.fr.trans (Fr.drewN w2 nq)).trans h2);clear h1 h2 C3;go_wp2;exact⟨rfl,nk a4.out H1.out H2.out⟩
    .have a4:=V (show R=lK i (cU.drop (l+1)) (σ'.dh i {e with di:=e.di++[(a,b)]}) by rw[X.out,hq];simp[aa]);have a6:=V F;have ae:=V hL;have ac:=V a7;have aC:=V d0;have af:=V ar;clear hq X F D d a7 hL;have ad:=V (show w2.heap[f i]?=some (.cells #[.string e.name,.slice B e.di.length C,ig (eM L.dk e.ff),L.kv i] 139 (0,0)) by
      have:=(a6.out.qH i _ (N.fa HE.out)).1.du;rw[ae.out,ac.out]at this;rw[ae.out];exact this)
     have a9:=V (show yC w2 (.slice B e.di.length C) e.di by rw[<-ac.out];exact(a6.out.qH i _ (N.fa HE.out)).2.1);have aB:=V (a6.out.qH i _ (N.fa HE.out)).2.2;have al:=V (BW a9.out ad.out (by decide));have aA:=V (λW (hk:Z [] w2 W)=>kL af.out hk.size);have ak:=V af.out;have az:=V (λW (hk:Z [] w2 W)=>(hk.cell (p:=⟨f i,1,none⟩) af.out (by simp)).trans aC.out);have ay:=V (λW (hk:Z [] w2 W)=>(⟨by rw[aN (hk.at HB.out (by simp))];rfl,by rw[aN (hk.at HB.out (by simp))];rfl⟩:W.cell? ⟨wr.heap.size,0,none⟩=some (.string a)/\W.cell? ⟨wr.heap.size,1,none⟩=some (.string b)));have ai:=V (show e.di.length<16 by omega);go_wp21
     go_quiet (fail)
     clear d0 ar;go_wp21;refine tz (by kernel_rfl) ?_;refine ln (λ(g:Nat×cY) z=>⟨#[Bp E,nV f i,dJ E t,undef,undef,undef,undef,.pointer (some ⟨wr.heap.size,0,none⟩),dJ E t,.agg #[.int .i64 x,.int .i64 y,.string nm,.slice (some ⟨g0,0,none⟩) cU.length cp],.slice (some ⟨g0,0,none⟩) cU.length cp,.int .i64 (cU.length:Int),.int .i64 (l:Int),.bool true,.pointer (some ⟨g0,l*2,none⟩),.agg #[.string a,.string b],nV f i,.pointer (some ⟨wr.heap.size,0,none⟩),.string a,.bool false,nV f i,.pointer (some ⟨f i,0,none⟩),.pointer (some ⟨f i,1,none⟩),.slice B e.di.length C,.int .i64 (e.di.length:Int),Bp E,.pointer (some ⟨E.bB,0,none⟩),.pointer (some ⟨E.bB,0,none⟩),.pointer (some ⟨E.bB,2,none⟩),.int .i64 (σ'.mj:Int),.bool false,u31,u32,ce z 0 u33 (nV f i),ce z 1 u34 (nV f i),ce z 2 u35 (.pointer (some ⟨f i,0,none⟩)),ce z 3 u36 (.pointer (some ⟨f i,1,none⟩)),ce z 4 u37 (.slice B e.di.length C),ce z 5 u38 (.agg #[.string a,.string b]),ce z 6 u39 (.slice (some ⟨g.1,0,none⟩) 1 1),ce z 7 u40 g.2,ce z 8 u41 (.pointer (some ⟨f i,0,none⟩)),ce z 9 u42 (.pointer (some ⟨f i,1,none⟩)),u43],[]⟩) (λg z W=>GvJ w2 a b (.slice B e.di.length C) e.di.length (e.di++[(a,b)]) (f i) g (dn z 6) (dn z 7) (dn z 10) W) 11 [[],[],[1],[1,2],[1,2,3],[],[5],[1,2,3,4,5,6],[0,1,2,3,4,5,6,7],[0,1,2,3,4,5,6,7,8],[0,1,2,3,4,5,6,7,8,9]] (0,undef) (by kernel_rfl) (by kernel_rfl) ⟨λ_=>⟨((Z.refl _ _).drewN nq).drew,λh=>by cases h⟩,λh=>(by cases h),λh=>(by cases h)⟩ ?_ ?_
     .repeat' first|exact iU|refine iT ?_ ?_
      all_goals
       rintro g z W hI A hn;simp[yU]at A;refine jO rfl ?_;intro K' a1;simp only[vc,A]
       first
       |have k7:=(hI.1 (hn 7 (by decide))).1;have aE:=aA.out W k7;have cc:=az.out W k7;have⟨c2,c3⟩:=ay.out W k7;go_simp;refine a1 _ _ ⟨g,?_,hI.EN (by decide) (by decide) (by decide)⟩;simp[ug,Cv,vc,A]
       |have k7:=(hI.1 (hn 7 (by decide))).1;go_simp;refine a1 _ _ ⟨(W.heap.size,g.2),?_,λ_=>⟨k7.alloc _,λ_=>aY W _⟩,λh=>(by rw[iR (by decide),hn 7 (by decide)]at h;cases h),λh=>(by rw[iR (by decide),hn 10 (by decide)]at h;cases h)⟩;simp[ug,Cv,vc,A,hn 7 (by decide)]
       |go_simp;refine a1 _ _ ⟨g,?_,hI.EN (by decide) (by decide) (by decide)⟩;simp[ug,Cv,vc,A]
       |skip
      obtain⟨k7,h6⟩:=hI.1 (by simp[A]);obtain⟨v',w',aD,u⟩:=Rh w2 W k7 a9.out g.1 a b (h6 (by simp[A])) aB.out;refine aaP (.tmp 37) (.tmp 39) 136 rfl rfl (.slice B e.di.length C) (.slice (some ⟨g.1,0,none⟩) 1 1) rfl rfl (v':=v') (w':=w') aD ?_;refine a1 _ _ ⟨(g.1,v'),?_,λh=>(by rw[mn]at h;cases h),λ_ _=>u,λh=>(by rw[iR (by decide),hn 10 (by decide)]at h;cases h)⟩;simp[Act.put,ug,Cv,vc,A]
      all_goals have u:=hI.2.1 (by simp[A]) (by first|exact hn 10 (by decide)|simp[A])
      all_goals first
       |have aE:=u.lt2 ak.out;go_simp;refine a1 _ _ ⟨g,?_,hI.EN (by decide) (by decide) (by decide)⟩;simp[ug,Cv,vc,A]
       |skip
      obtain⟨g1,g2⟩:=g;obtain⟨aI,aK,e9⟩:=u.shape;dsimp only at e9;subst e9;have c9:=u.cell ad.out al.out;have f9:=u.free ad.out al.out;go_simp;refine a1 _ _ ⟨(g1,_),?_,λh=>(by rw[iR (by decide)]at h;simp[A]at h),λ_ h=>(by rw[mn]at h;cases h),λ_=>⟨W,u,rfl⟩⟩;simp[ug,Cv,vc,A]
     .rintro g W hI;simp only[OZ];obtain⟨W1,u,hW⟩:=hI.2.2 sB;subst hW;have ag:=a6.out.alB HE.out U.out K.out (a,b) (by have:=ai.out;omega) (v':=g.2) (w1:=W1) (by rw[ac.out];exact u.app);rw[ae.out]at ag;have a8:=V ag;clear hI ag;go_wp2;go_roundw
      case rel=>exact⟨l+1,_,by go_num,by omega,a4.out,HA.out.to ⟨_,rfl,a8.out.1⟩ (Zl (N.mQ _ _ _).symm) a8.out.2,K.out,by unfold N.nm;rw[N.eB (N.dm HE.out)];exact U.out⟩
      case measure=>simp[intOf];omega
  .have HD:=V (show R=.ok () σ' by rw[I,Li (by omega)];rfl);have HA:=V a0;clear I a0;go_wp2;go_end0;exact cE HD.out HA.out rfl
attribute [local go_sem] Oper.semAt_some
def Ue(E:Env)(t:cR)(F:eY E t):eP E 201 (λ_=>#[Bp E,dJ E t]) (mW t) uV:=by
 refine dI λf σ w R d HS H=>?_;unfold mW at d;go_enter func201,ntmps201;obtain⟨C,a0⟩:∃C,C=f:=⟨_,rfl⟩;obtain⟨I,a1⟩:∃I,I=σ.nodes.length:=⟨_,rfl⟩;obtain⟨K,a2⟩:∃K,K=w:=⟨_,rfl⟩;go_wp21;refine dC (pR E (dO E)) H d HS rfl lT ?_;rintro(_) f σ w H A z d;have⟨kb,lbb,cb,HQ⟩:=H.rel.bounds;have B:=H.lt;have y:=cb;have U:=(Z.refl [] w).drew;go_wp21
 go_cut [13]from 6 to 12 (λr wc=>r=.bool (σ.inScope (da [fu]) (dG))/\Z [] w wc)
 case first=>
  go_region_with (first
   |(go_at_call 219;refine(kH E [fu] w.drew (by simp)).mono ?_;rintro e w1⟨k1,a3,rfl,q,u⟩;have l:=U.trans u;have c1:w1.cell? ⟨E.bB,186,none⟩=some (.func (.func kb) #[] lbb):=(l.cell (p:=⟨E.bB,186,none⟩) B (by simp)).trans y;have x:=V q;have h:=V l;clear q u l)
   |(go_at_call 232;refine(uJ (H.k0 h).rel (da [fu]) dG _ _ x (HQ.k0 h)).mono ?_;rintro e w2⟨rfl,D⟩;have X:=V (h.trans D);clear D))
  all_goals (try (go_wp21))
  all_goals (go_meet;exact⟨rfl,X⟩)
 case rest=>
  obtain⟨rfl,hk⟩:=hcut;replace H:=H.k0 hk;cases hsc:σ.inScope (da [fu]) dG with
  |true=>
   replace d:Hid (R=(rY fu>>=λ_=>dU t>>=λ_=>(Pure.pure ():M Unit)) σ):=by
    refine V ?_;rw[d.out];unfold nI;rw[hsc];rfl
   go_wp21;refine dC (OH E fu) H d HS rfl lT ?_;rintro(_) f σ w H A z d;go_wp21;refine dC (lR E t F) H d HS rfl lT ?_;rintro(_) f σ w H A z d;go_wp2;go_end0;exact cE d H rfl
  |false=>
   replace d:Hid (R=(dU t>>=λ_=>(Pure.pure ():M Unit)) σ):=by
    refine V ?_;rw[d.out];unfold nI;rw[hsc];rfl
   go_wp21;refine dC (lR E t F) H d HS rfl lT ?_;rintro(_) f σ w H A z d;go_wp2;go_end0;exact cE d H rfl
def Vy(t:Addr)(w:J):(ReflectliteValue.unpack (.iface 83 (.pointer (some t)))).run prog w
  =.ok (.agg #[fR 7 83,cW w.heap.size,.int .u64 150]) (w.alloc (.cells #[.pointer (some t)] 83)):=by kernel_rfl
def Xi(t:Addr)(w:J):(ReflectliteValue.unpack (.iface 78 (.pointer (some t)))).run prog w
  =.ok (.agg #[fR 7 78,cW w.heap.size,.int .u64 150]) (w.alloc (.cells #[.pointer (some t)] 78)):=by kernel_rfl
def agq(a:Addr)(w:J):(ReflectliteValue.methodAny (ReflectliteValue.valueError "reflectlite.Value.Type" 0) (λt _ _ _=>ReflectliteType.toType t) #[.agg #[fR 7 83,.pointer (some a),.int .u64 150]]).run prog w
  =.ok (.iface 144 (.agg #[fR 7 83])) w:=rfl
def ah3(a:Addr)(w:J):(ReflectliteValue.methodAny (ReflectliteValue.valueError "reflectlite.Value.Type" 0) (λt _ _ _=>ReflectliteType.toType t) #[.agg #[fR 7 78,.pointer (some a),.int .u64 150]]).run prog w
  =.ok (.iface 144 (.agg #[fR 7 78])) w:=rfl
def YS(h:cY)(w:J):(Go.method 496 144 (.agg #[h]) "Kind").run prog w=.ok (401,h) w:=by kernel_rfl
def YR(h:cY)(w:J):(Go.method 496 144 (.agg #[h]) "Elem").run prog w=.ok (422,.agg #[h]) w:=by kernel_rfl
def A8(h:cY)(w:J):(Go.method 496 144 (.agg #[h]) "Implements").run prog w=.ok (423,.agg #[h]) w:=by kernel_rfl
def A7(h:cY)(w:J):(Go.method 496 144 (.agg #[h]) "AssignableTo").run prog w=.ok (420,.agg #[h]) w:=by kernel_rfl
def Mo(v:cY)(w:J):(Go.method 496 144 v "Comparable").run prog w=.ok (421,v) w:=by kernel_rfl
def acT(w:J):((ReflectliteType.abiMethod λt=>(λa:Nat=>Value.int IntKind.u8 (a:Int)) <$> Rtype.kind t) #[fR 7 83]).run prog w=.ok (.int .u8 22) w:=by kernel_rfl
def agp(w:J):((ReflectliteType.abiMethod λt=>(λa:Nat=>Value.int IntKind.u8 (a:Int)) <$> Rtype.kind t) #[fR 7 23]).run prog w=.ok (.int .u8 2) w:=by kernel_rfl
def aeZ(w:J):((ReflectliteType.abiMethod λt=>(λa:Nat=>Value.int IntKind.u8 (a:Int)) <$> Rtype.kind t) #[fR 7 78]).run prog w=.ok (.int .u8 22) w:=by kernel_rfl
def ah2(w:J):((ReflectliteType.abiMethod λt=>(λa:Nat=>Value.int IntKind.u8 (a:Int)) <$> Rtype.kind t) #[fR 7 76]).run prog w=.ok (.int .u8 22) w:=by kernel_rfl
def rlm(z:Sem cY)(f:TypeId->Addr->Nat->Nat->Sem cY)(v:cY):
  ReflectliteValue.method z f #[v]=(do match <-ReflectliteValue.parts v with|none=>z|some (t,a,fl)=>f t a fl (fl%32)):=rfl
def M3(a:Addr)(w:J):(ReflectliteValue.parts (.agg #[fR 7 83,.pointer (some a),.int .u64 150])).run prog w=.ok (some (83,a,150)) w:=rfl
def Oc(a:Addr)(w:J):(ReflectliteValue.parts (.agg #[fR 7 78,.pointer (some a),.int .u64 150])).run prog w=.ok (some (78,a,150)) w:=rfl
def acS(a p:Addr)(W:J)(d:W.cell? a=some (.pointer (some p))):
  (ReflectliteValue.method (ReflectliteValue.valueError "reflectlite.Value.IsNil" 0) ReflectliteValue.isNil #[.agg #[fR 7 83,.pointer (some a),.int .u64 150]]).run prog W=.ok (.bool false) W:=by
 rw[rlm];simp only[Fy,M3,Result.andThen];simp[ReflectliteValue.isNil,loadVar,isAgg,underlying,underlying83,d,Result.andThen]
def aeY(a p:Addr)(W:J)(d:W.cell? a=some (.pointer (some p))):
  (ReflectliteValue.method (ReflectliteValue.valueError "reflectlite.Value.IsNil" 0) ReflectliteValue.isNil #[.agg #[fR 7 78,.pointer (some a),.int .u64 150]]).run prog W=.ok (.bool false) W:=by
 rw[rlm];simp only[Fy,Oc,Result.andThen];simp[ReflectliteValue.isNil,loadVar,isAgg,underlying,underlying78,d,Result.andThen]
def ago(w:J):(ReflectliteType.method ReflectliteType.elem #[.agg #[fR 7 83]]).run prog w=.ok (.iface 144 (.agg #[fR 7 23])) w:=by kernel_rfl
def ah1(w:J):(ReflectliteType.method ReflectliteType.elem #[.agg #[fR 7 78]]).run prog w=.ok (.iface 144 (.agg #[fR 7 76])) w:=by kernel_rfl
def LO(w:J):(ReflectliteType.relation "Implements" ReflectliteType.implements_ #[.agg #[fR 7 23],.iface 144 (.agg #[fR 7 54])]).run prog w=.ok (.bool true) w:=by kernel_rfl
def Mr(w:J):(ReflectliteType.relation "Implements" ReflectliteType.implements_ #[.agg #[fR 7 76],.iface 144 (.agg #[fR 7 54])]).run prog w=.ok (.bool true) w:=by kernel_rfl
def M4(v:cY)(w:J):(ReflectliteType.typeOf #[.iface 23 v]).run prog w=.ok (.iface 144 (.agg #[fR 7 23])) w:=rfl
def LN(w:J):(ReflectliteType.relation "AssignableTo" ReflectliteType.assignableTo #[.agg #[fR 7 23],.iface 144 (.agg #[fR 7 23])]).run prog w=.ok (.bool true) w:=by kernel_rfl
def RQ(n:Int)(w:J):(ReflectliteValue.unpack (.iface 23 (G n))).run prog w
  =.ok (.agg #[fR 7 23,cW w.heap.size,.int .u64 130]) (w.alloc (.cells #[G n] 23)):=by kernel_rfl
def Z1(w:J):(Rtype.elem? 83).run prog w=.ok (some 23) w:=by kernel_rfl
def aly(p:Addr)(w:J):(ReflectliteValue.mk 23 p ReflectliteValue.flagAddr).run prog w=.ok (.agg #[fR 7 23,.pointer (some p),.int .u64 386]) w:=by kernel_rfl
def acR(a p:Addr)(W:J)(d:W.cell? a=some (.pointer (some p))):
  (ReflectliteValue.method (ReflectliteValue.valueError "reflectlite.Value.Elem" 0) ReflectliteValue.elem #[.agg #[fR 7 83,.pointer (some a),.int .u64 150]]).run prog W
   =.ok (.agg #[fR 7 23,.pointer (some p),.int .u64 386]) W:=by
 rw[rlm];simp only[Fy,M3,Result.andThen];simp[ReflectliteValue.elem,loadVar,isAgg,underlying,underlying83,d,Result.andThen,Z1,aly]
def rls(v x:cY):ReflectliteValue.set #[v,x]=(do
  let (some (dst,a,fl),some (src,b,_)):=(<-ReflectliteValue.parts v,<-ReflectliteValue.parts x)
   |unsupported (.noEntry "extern/(internal/reflectlite.Value).Set.zeroValue")
  if fl / ReflectliteValue.flagAddr%2==0 then unsupported (.noEntry "extern/(internal/reflectlite.Value).Set.unaddressable")
  let d <-loadVar src b
  if <-Rtype.directlyAssignable dst src then storeVar dst a d
  else if <-Rtype.implements dst src then
   if (<-Rtype.kind src)==20 then
    match d with
    | .nilIface=>unsupported (.noEntry "extern/reflectlite: a nil value of one interface type handed on as a value of another")
    |_=>storeVar dst a d
   else storeVar dst a (.iface src d)
  else panicString ("reflectlite.Set: value of type "++(<-Rtype.spelt src)++ " is not assignable to type "++(<-Rtype.spelt dst))
  pure (.tuple #[])):=rfl
def Z2(a:Addr)(w:J):(ReflectliteValue.parts (.agg #[fR 7 23,.pointer (some a),.int .u64 386])).run prog w=.ok (some (23,a,386)) w:=rfl
def acU(a:Addr)(w:J):(ReflectliteValue.parts (.agg #[fR 7 23,.pointer (some a),.int .u64 130])).run prog w=.ok (some (23,a,130)) w:=rfl
def Z0(w:J):(Rtype.directlyAssignable 23 23).run prog w=.ok true w:=by rfl
theorem ajH(d b:Addr)(n:Int)(e:cY)(W:J)(h:W.cell? b=some (G n))(q:W.cell? d=some e)(l:W.frozen? d=false):
  (ReflectliteValue.set #[.agg #[fR 7 23,.pointer (some d),.int .u64 386],.agg #[fR 7 23,.pointer (some b),.int .u64 130]]).run prog W
   =.ok (.tuple #[]) (W.setCell d (G n)):=by
 rw[rls];simp only[Fy,Z2,acU,Result.andThen];simp[ReflectliteValue.flagAddr,loadVar,isAgg,underlying,underlying23,h,Result.andThen,Z0,storeVar,Value.cells,storeCells,Addr.add];rw[run_store prog W d _ _ rfl];grind
abbrev rv(T:Nat)(b:Nat):fN:=#[fR 7 T,cW b,.int .u64 150]
def yY{P:Program}(w:J)(d:Nat){q l:TypeId}{x:Array (String×TypeId)}{i:TypeInfo}{k:IntKind}(a b:Int)
  (hi:P.underlying q=some (.interface x)) (u:P.underlying l=some (.int k)) (h:P.info? l=some i) (e:i.comparable=true):
  (Op.equalIn (d+2) q (.iface l (.int k a)) (.iface l (.int k b))).run P w=.ok (a==b) w:=by
 simp[Op.equalIn,qP hi,qP u,typeInfo,h,e]
def DN{P:Program}(w:J){l h:TypeId}{u:Array (String×TypeId)}{i:TypeInfo}{k:IntKind}(a b:Int)
  (hi:P.underlying l=some (.interface u)) (q:P.underlying h=some (.int k)) (e:P.info? h=some i) (d:i.comparable=true):
  (binOp .eql l (.iface h (.int k a)) (.iface h (.int k b))).run P w=.ok (.bool (a==b)) w:=by
 simp[binOp];simp[Op.equal,Op.maxDepth,yY w 9998 a b hi q e d]
def Ry:fN->Sem cY:=Extern.ReflectliteType.method λt=>do Rtype.noPackHeld "Comparable" t;pure (.bool (<-typeInfo t).comparable)
def GM(w:J):(Ry #[.agg #[fR 7 23]]).run prog w=.ok (.bool true) w:=by kernel_rfl
def agn:(prog.info? 23).map (·.comparable)=some true:=by kernel_rfl
def errorType(w:J):Prop:=w.cell? ⟨0,0,none⟩=some (.iface 144 (.agg #[fR 7 54]))
theorem Vg(p q:Addr)(w:J):
  CallsD prog 60 #[.pointer (some p),.pointer (some q)] .returning w λe l w'=>e=nu/\l=.returning/\w'=w:=by
 refine callsD_of_wpS func60 rfl λd u h=>?_;apply wpS_seq;apply wpS_region;simp[wpOpsS,go_sem,recoverD,h];refine wpS_cond (rfl) (wpS_of_wp (wp_skip ?_));cases d;simp_all[bodyPostS,results]
def pZ(h:errorType w)(o:Obj):errorType (w.alloc o):=by
 have:0<w.heap.size:=by
  rcases Fu w.heap.size with e|d;simp[errorType,World.cell?,e]at h;exact d
 show(w.alloc o).cell? _=_;rw[Lf _ _ _ this];exact h
section
variable {P:Program}{ops:Array Oper}{Q:Exit->Act->J->Prop}{md:Region.Mode}
end
def DZ(w:J):
  Calls prog 20 #[.nilIface] w λe w'=>e=dw (.tuple #[G 0,G 0])/\Z [] w w':=by
 go_wp2;go_ret2;exact⟨rfl,((Z.refl _ _).alloc _).alloc _⟩
def Jj(h:errorType w)(l:Z S w w')(hs:0∉S):errorType w':=by
 have:0<w.heap.size:=by
  rcases Fu w.heap.size with e|d;simp[errorType,World.cell?,e]at h;exact d
 show w'.cell? _=_;rw[l.cell this hs];exact h
def Ji(h:errorType w):errorType w.drew:=h
def qz(a:Int×Int×Int)(d:cY):fN:=#[G a.1,G a.2.1,G a.2.2,d,.bool false,G 0,.nilIface,gq,.pointer none]
def adU(d f a:Int):Prop:=4<=d/\d<=64/\1<=f/\f<=32/\1<=a/\a<=16
def agF(d f a:Int)(w:J)(h:adU d f a):
  Calls prog 19 #[G d,G f,G a] w λe w'=>e=dw (.tuple #[cW w.heap.size,.nilIface])/\w'=w.alloc (.cells (qz (d,f,a) (gq)) 72):=by
 have⟨h1,h2,h3,h4,h5,h6⟩:=h;go_enter func19,ntmps19;go_wp2;go_ret2;exact⟨rfl,rfl⟩
theorem ahn(d f a:Int)(w:J)(h:adU d f a):
  Calls prog 8 #[G d,G f,G a] w λe w'=>e=dw (.tuple #[cW w.heap.size,G 0])/\w'.heap[w.heap.size]?=some (cV (qz (d,f,a) (gq)) 72)/\Z [] w w':=by
 go_enter func8,ntmps8;go_wp21;refine(agF d f a _ h).mono ?_;rintro e z⟨rfl,rfl⟩;go_wp21;refine(DZ _).mono ?_;rintro e u⟨rfl,l⟩;have y:Z [] w u:=((Z.refl _ _).alloc _).next l (by simp)
 have q:=l.at (aY w _) (by simp);have x:Hid _:=q;go_wp2;go_ret2;simp_all
def H6:(prog.info? 5).map (λi=>(i.zero,i.size,i.bytes))=some (some (.int .u8 0),1,1):=by kernel_rfl
def zz(d:Nat)(a:Int×Int×Int)(l:cY)(w:J)(h:w.heap[d]?=some (cV (qz a l) 72)):
  Calls prog 31 #[cW d] w λe w'=>e=dw (.bool false)/\w'=w:=by
 have q:w.cell? ⟨d,4,none⟩=some (.bool false):=by rw[aN h];rfl
 go_wp2;go_ret;simp
theorem abG(x g c:Nat)(a:Int×Int×Int)(C:cY)(s t:O)(base:Nat)(w:J)(hx:w.heap[x]?=some (cV (qz a C) 72))
  (ho:w.ownsRow base 5 1 C s.size (iq s)) (ht:∀j u,(iq t)[j]?=some u->w.cell? ⟨g,j,none⟩=some u) (hl:s.size+t.size<=1024) (hb:base<=w.heap.size):
  Calls prog 21 #[cW x,ky g t.size c] w λe w'=>e=dw (.tuple #[G t.size,.nilIface])/\
   ∃z,w'.heap[x]?=some (cV (qz a z) 72)/\w'.ownsRow base 5 1 z (s++t).size (iq (s++t))/\Z (x::C.ownBlock.toList) w w'/\(z.ownBlock=C.ownBlock\/∀k,z.ownBlock=some k->w.heap.size<=k):=by
 obtain⟨i0,hi,a1,a2,a3⟩:=rQ H6;have c1:w.cell? ⟨x,3,none⟩=some C:=by rw[aN hx];rfl
 have X:∃B l,C=.slice B s.size l:=by
  rcases ho.2 with⟨rfl,h0⟩|⟨g,l,D,rfl,_⟩;grind;simp
 obtain⟨B,l,rfl⟩:=X;have H:Hid _:=hx;have HO:Hid _:=ho;have HT:Hid _:=ht;go_enter func21,ntmps21;go_wp21;refine(zz x a _ _ H).mono ?_;rintro e w1⟨rfl,rfl⟩;go_wp2_with (at_builtin;refine fw _ rfl _ _ 58 rfl base 5 i0 (.int .u8 0) 1 1 underlying58 hi a1 a2 a3 rfl (by decide) _ _ _ rfl HO ⟨g,0,none⟩ t.size c (iq t) rfl ?c1 ?c2 ?c3 ?c4 ?c5 hb ?_)
 case c1=>simp[iq]
 case c2=>grind[eL]
 case c3=>grind[Vb]
 case c4=>unfold maxLen;omega
 case c5=>omega
 intro v' F q y K;have⟨ao',d,hv⟩:=cP q;subst hv;have U:∀k,(Value.slice B s.size l).ownBlock=some k->k≠x:=by
  intro k A;rcases HO.2 with⟨h,_⟩|⟨g',d,D,h,_,hc,_⟩;rw[h]at A;cases A;rw[h]at A;obtain rfl:=je A;grind
 have I:F.heap[x]?=some (cV (qz a (.slice B s.size l)) 72):=by
  rw[y.block x (eS H.out) (λh=>U x h.symm rfl)];exact H
 have d1:F.cell? ⟨x,3,none⟩=some (.slice B s.size l):=by rw[aN I];rfl
 have d2:=cQ I 3;have h3:=bJ I 3 (.slice ao' (s.size+t.size) d);have h4:(F.setCell ⟨x,3,none⟩ (.slice ao' (s.size+t.size) d)).ownsRow base 5 1 (.slice ao' (s.size+t.size) d) (s++t).size (iq (s++t)):=by
  have a0:(s++t).size=s.size+t.size:=ByteArray.size_append;rw[a0,Ly];refine xC q ?_ _;intro A;rcases q.2 with⟨h,_⟩|⟨g',d,D,h,_,hc,_⟩;grind;grind
 have h5:Z (x::(Value.slice B s.size l).ownBlock.toList) w1 (F.setCell ⟨x,3,none⟩ (.slice ao' (s.size+t.size) d)):=
  ((Z.refl _ _).grown y (λk A=> .inl (by simp[A]))).setCell (.inl (by simp)) _
 have H3:Hid _:=h3;have H4:Hid _:=h4;have HF:Hid _:=K;go_wp2;go_ret2;exact⟨rfl,_,H3,H4,h5,HF⟩
theorem ZJ(t:O)(j:Nat)(u:cY)(h:(iq t)[j]?=some u):∃d:j<t.data.size,u=.int .u8 (t.data[j].toNat:Int):=by
 grind[iq]
theorem IM(t:O)(d j:Nat)(u:cY)(h:(iq t)[j]?=some u):(bytesRow t d)[j]?=some u:=by
 grind[ZJ,bytesRow_at]
def AQ(t:O)(d:Nat):t.size<=(bytesRow t d).size:=by
 simp[bytesRow]
theorem Ak{c:fN}{t:TypeId}{m:Nat×Nat}(h:w.heap[b]?=some (.cells c t m))(j:Nat):w.cell? ⟨b,j,none⟩=c[j]?:=by simp[World.cell?,h]
def Nf{c:fN}{t:TypeId}(h:w.heap[b]?=some (.cells c t (n,n+1)))(j:Nat)(d:j<n):w.frozen? ⟨b,j,none⟩=false:=by
 simp[World.frozen?,h];omega
theorem DB{c:fN}{t:TypeId}{m:Nat×Nat}(h:w.heap[b]?=some (.cells c t m))(j:Nat)(u:cY):(w.setCell ⟨b,j,none⟩ u).heap[b]?=some (.cells (c.setIfInBounds j u) t m):=by
 show(w.heap.modify b _)[b]?=_;grind
def Be(g sz d:Nat)(h:fN)(base n:Nat)(e:cY)(xs:List cY)(S:List Nat)(w wr:J):Prop:=
 (∃C:fN,wr.heap[g]?=some (.cells C 5 (sz,sz+1))/\C.size=sz)/\wr.heap[d]?=some (cV h 72)/\wr.ownsRow base 5 1 e n xs/\Z S w wr
theorem Be.store{d:Nat}{l:fN}{e:cY}(h:Be g sz d l base n e xs S w wr)(q:w.heap.size<=g)(y:d≠g)(x:e.ownBlock≠some g)(j:Nat)(u:cY):
  Be g sz d l base n e xs S w (wr.setCell ⟨g,j,none⟩ u):=by
 have⟨⟨C,hC,hs⟩,hx,ho,hk⟩:=h;refine⟨⟨_,DB hC j u,by grind⟩,?_,xC ho x u,hk.setCell (.inr q) u⟩;grind[Below.heap_setCell]
theorem Be.cell{d:Nat}{q:fN}{l:cY}(h:Be g sz d q base n l xs S w wr)(j:Nat)(e:j<sz):(∃v,wr.cell? ⟨g,j,none⟩=some v)/\wr.frozen? ⟨g,j,none⟩=false:=by
 have⟨⟨C,hC,hs⟩,_⟩:=h;refine⟨⟨C[j]'(by omega),?_⟩,Nf hC j e⟩;rw[Ak hC];simp
theorem aaX(y:Nat)(a:Int×Int×Int)(A:cY)(s t:O)(base:Nat)(w:J)(hx:w.heap[y]?=some (cV (qz a A) 72))
  (ho:w.ownsRow base 5 1 A s.size (iq s)) (hl:s.size+t.size<=1024) (hb:base<=w.heap.size):
  Calls prog 9 #[cW y,Y t] w λe w'=>e=dw (.tuple #[G t.size,G 0,.bool true])/\
   ∃d,w'.heap[y]?=some (cV (qz a d) 72)/\w'.ownsRow base 5 1 d (s++t).size (iq (s++t))/\Z (y::A.ownBlock.toList) w w'/\(d.ownBlock=A.ownBlock\/∀k,d.ownBlock=some k->w.heap.size<=k):=by
 have z:=run_bytes_of_string (P:=prog) w 9 58 5 t underlying9 underlying58 underlying5;obtain⟨C,U⟩:∃C,C=grownCap w t.size 0 5:=⟨_,rfl⟩;rw[<-U]at z;clear U;have a1:=AQ t C;have HR:=IM t C;generalize bytesRow t C=R at z a1 HR;obtain⟨B,q⟩:∃B,B=w.drew.alloc (.cells R 5 (R.size,R.size+1)):=⟨_,rfl⟩;rw[<-q]at z;have HB:B.heap[w.heap.size]?=some (.cells R 5 (R.size,R.size+1)):=by rw[q];exact aY w.drew _
 have K1:Z [] w B:=by rw[q];exact(Z.refl [] w).drew.alloc _
 have z1:B.heap.size=w.heap.size+1:=by rw[q];show(w.heap.push _).size=_;simp
 clear q;have a2:=eS hx;have HX:=ho.lt;have x1:=K1.at hx (by simp);have o1:=K1.ownsRow ho (λ_ _=>by simp);have K:=abG y w.heap.size C a A s t base B x1 o1 (λj u h=>by grind[Ak]) hl (by omega);have HZ:Hid (B.heap.size=w.heap.size+1):=z1;clear z1 x1 o1 hx ho;go_enter func9,ntmps9;go_wp21;refine K.mono ?_;rintro e w2⟨rfl,d,a0,X,I,H⟩;clear z K;go_wp21;refine(DZ _).mono ?_;rintro e w3⟨rfl,x⟩;have hS:w.heap.size∉y::A.ownBlock.toList:=by
  simp only[UQ,Option.mem_toList,not_or];exact⟨by omega,λh=>by grind⟩
 have D:w3.heap[w.heap.size]?=some (.cells R 5 (R.size,R.size+1)):=x.at (I.at HB hS) (by simp);have HT:Be w.heap.size R.size y (qz a d) base (s++t).size d (iq (s++t)) (y::A.ownBlock.toList) w w3:=
  ⟨⟨R,D,rfl⟩,x.at a0 (by simp),x.ownsRow X (λ_ _=>by simp),((K1.mono (by simp)).trans I).trans (x.mono (by simp))⟩
 have HN:d.ownBlock≠some w.heap.size:=by
  rcases H with h|h;grind;grind
 have HF:d.ownBlock=A.ownBlock\/∀k,d.ownBlock=some k->w.heap.size<=k:=by
  rcases H with h|h;exact .inl h;grind
 have F:=by
  have:=FA (P:=prog) w3 58 9 5 ⟨w.heap.size,0,none⟩ C t.data.toList underlying58 underlying5 underlying9 (λj hj=>by
   rw[eL,Ak D];exact HR j _ (by grind[iq]))
  simpa using this
 clear H I x a0 X D hS K1;go_wp21;clear F
 go_loopw [33] (λi wr=>∃k:Nat,k<=t.size/\i=G k/\Be w.heap.size R.size y (qz a d) base (s++t).size d (iq (s++t)) (y::A.ownBlock.toList) w wr) (λi _=>t.size-(intOf i).toNat)
 case atStart=>grind
 case round=>
  obtain⟨k,hk,rfl,l⟩:=hrel;by_cases a3:k<t.size
  .have⟨⟨v,hv⟩,hfz⟩:=l.cell k (by omega);have HS:=l.store (dr _) (by omega) HN k (.int .u8 33);go_wp2;go_roundw
   case rel=>exact⟨k+1,by omega,by go_num,HS⟩
   case measure=>simp[intOf];omega
  .go_wp2;go_ret3;exact⟨rfl,d,l.2.1,l.2.2.1,l.2.2.2,HF⟩
structure RC where
 cs:O
 av:cY
 at_:Int
 mv:cY
 lg:Int
 jI:O:=⟨#[]⟩
 plT:Bool:=false
variable {R:RC}
def wD(R:RC)(d ps:Nat):fN:=#[Y R.cs,R.av,G d,G ps,G R.at_,R.mv,G R.lg,Y R.jI,.bool R.plT]
def Rd(w:J)(r:Nat)(R:RC)(d ps:Nat):Prop:=w.heap[r]?=some (cV (wD R d ps) 164)
def Rd.text{d ps:Nat}(h:Rd w r R d ps):w.cell? ⟨r,0,none⟩=some (Y R.cs):=by rw[aN h];rfl
theorem Rd.cU{d ps:Nat}(h:Rd w r R d ps):w.cell? ⟨r,1,none⟩=some R.av:=by rw[aN h];rfl
def Rd.bg{d ps:Nat}(h:Rd w r R d ps):w.cell? ⟨r,2,none⟩=some (G d):=by rw[aN h];rfl
def Rd.ps{d ps:Nat}(h:Rd w r R d ps):w.cell? ⟨r,3,none⟩=some (G ps):=by rw[aN h];rfl
def Rd.mv{d ps:Nat}(h:Rd w r R d ps):w.cell? ⟨r,5,none⟩=some R.mv:=by rw[aN h];rfl
def Rd.lg{d ps:Nat}(h:Rd w r R d ps):w.cell? ⟨r,6,none⟩=some (G R.lg):=by rw[aN h];rfl
def Rd.jI{d ps:Nat}(h:Rd w r R d ps):w.cell? ⟨r,7,none⟩=some (Y R.jI):=by rw[aN h];rfl
def Rd.plT{d ps:Nat}(h:Rd w r R d ps):w.cell? ⟨r,8,none⟩=some (.bool R.plT):=by rw[aN h];rfl
def Rd.free{d ps:Nat}(h:Rd w r R d ps)(j:Nat):w.frozen? ⟨r,j,none⟩=false:=by unfold Rd at h;simp[World.frozen?,h]
def Rd.Oa{e ps:Nat}(h:Rd w r R e ps)(d:Nat):Rd (w.setCell ⟨r,3,none⟩ (G d)) r R e d:=bJ h 3 _
def Rd.amc{e ps:Nat}(h:Rd w r R e ps)(d:Nat):Rd (w.setCell ⟨r,2,none⟩ (G d)) r R d ps:=bJ h 2 _
theorem Rd.kept{d ps:Nat}(h:Rd w r R d ps)(e:Z S w w')(hs:r∉S):Rd w' r R d ps:=e.at h hs
def mB(r:Nat)(R:RC)(d ps:Nat)(w:J)(h:Rd w r R d ps):
  Calls prog 81 #[cW r] w λe w'=>e=dw (.bool (decide (ps=R.cs.size)))/\∃q,w'=w.drewN q:=by
 have t:=h.text;have p:=h.ps;generalize R.cs=s at t;by_cases e:ps=s.size
 .subst e;go_enter func81,ntmps81;go_wp21
  go_quiet (fail)
  go_wp2;go_ret;exact⟨by simp,⟨_,rfl⟩⟩
 .have l:((ps:Int)==(s.size:Int))=false:=beq_eq_false_iff_ne.2 (by omega);go_enter func81,ntmps81;go_wp21
  go_quiet (fail)
  go_wp2;go_ret;exact⟨by simp[e],⟨_,rfl⟩⟩
def vw(r:Nat)(R:RC)(d ps:Nat)(w:J)(h:Rd w r R d ps)(l:ps<=R.cs.size)(_hs:R.cs.size<=1024):
  Calls prog 154 #[cW r] w λe w'=>e=dw (Y (R.cs.extract ps R.cs.size))/\∃q,w'=w.drewN q:=by
 have t:=h.text;have p:=h.ps;go_enter func154,ntmps154;go_wp21
 go_quiet (fail)
 go_wp2;go_ret;exact⟨rfl,⟨_,rfl⟩⟩
def JO(c:Int)(w:J)(u:0<=c)(x:c<=255):
  Calls prog 156 #[.int .u8 c] w λe w'=>e=dw (.bool (decide (97<=c/\c<=122\/65<=c/\c<=90)))/\w'=w:=by
 by_cases d:97<=c<;>by_cases h:c<=122<;>by_cases l:65<=c<;>by_cases q:c<=90
 all_goals first|(exfalso;omega)|skip
 all_goals (go_enter func156,ntmps156;go_wp2;go_ret;exact⟨by first|(simp;done)|(simp;omega),rfl⟩)
def pre(s p:O):Bool:=decide (p.size<=s.size)&&((s.extract 0 p.size).toList==p.toList)
def JR(s p:O)(w:J)(hs:s.size<=1048576)(d:p.size<=1048576):
  Calls prog 246 #[Y s,Y p] w λe w'=>e=dw (.bool (pre s p))/\w'=w:=by
 by_cases h:p.size<=s.size
 .go_enter func246,ntmps246;go_wp2;go_ret;exact⟨by simp[pre,h],rfl⟩
 .go_enter func246,ntmps246;go_wp2;go_ret;exact⟨by simp[pre,h],rfl⟩
def sR(s p:O)(w:J)(hs:s.size<=1048576)(d:p.size<=1048576):
  Calls prog 153 #[Y s,Y p] w λe w'=>e=dw (.bool (pre s p))/\w'=w:=by
 go_enter func153,ntmps153;go_wp21;refine(JR s p w hs d).mono ?_;rintro e w'⟨rfl,rfl⟩;go_wp2;go_ret;simp
theorem E6(h:pre s p=true):p.size<=s.size:=by
 grind[pre]
def jp{ps:Nat}(h:pre (s.extract ps s.size) p=true)(d:ps<=s.size):ps+p.size<=s.size:=by
 have:=E6 h;simp at this;omega
def taken(R:RC)(p:O)(ps:Nat):Nat:=if pre (R.cs.extract ps R.cs.size) p=true then ps+p.size else ps
def Ux{ps:Nat}(h:ps<=R.cs.size):taken R p ps<=R.cs.size:=by
 unfold taken;split;rename_i d;exact jp d h;omega
theorem Uw{ps:Nat}:ps<=taken R p ps:=by grind[taken]
def js(r:Nat)(R:RC)(l ps:Nat)(s:O)(w:J)(h:Rd w r R l ps)(u:ps<=R.cs.size)(hs:R.cs.size<=1024)(B:s.size<=1024):
  Calls prog 85 #[cW r,Y s] w λe w'=>e=dw (.bool (pre (R.cs.extract ps R.cs.size) s))/\Z [r] w w'/\Rd w' r R l (taken R s ps):=by
 have H:=h;by_cases e:pre (R.cs.extract ps R.cs.size) s=true
 .have A:=jp e u;have d:taken R s ps=ps+s.size:=by unfold taken;rw[dd e]
  rw[d];go_enter func85,ntmps85;go_wp21;refine(vw r R l ps w H u hs).mono ?_;rintro e w'⟨rfl,q,rfl⟩;go_wp21;refine(sR _ s _ (by simp;omega) (by omega)).mono ?_;rintro e w'⟨rfl,rfl⟩;have p:(w.drewN q).cell? ⟨r,3,none⟩=some (G ps):=H.ps;have C:=H.free 3;have y:Hid (Z [r] w ((w.drewN q).setCell ⟨r,3,none⟩ (G ((ps+s.size:Nat))))):=((Z.refl [r] w).drewN q).setCell (.inl (by simp)) _;have z:Hid (Rd ((w.drewN q).setCell ⟨r,3,none⟩ (G ((ps+s.size:Nat)))) r R l (ps+s.size)):=Rd.Oa (w:=w.drewN q) H _;rw[e];go_wp2;go_ret;exact⟨by rw[e];rfl,y,z⟩
 .have d:taken R s ps=ps:=by unfold taken;rw[cZ e]
  rw[d];have x:pre (R.cs.extract ps R.cs.size) s=false:=by simpa using e
  go_enter func85,ntmps85;go_wp21;refine(vw r R l ps w H u hs).mono ?_;rintro e w'⟨rfl,q,rfl⟩;go_wp21;refine(sR _ s _ (by simp;omega) (by omega)).mono ?_;rintro e w'⟨rfl,rfl⟩;rw[x];go_wp2;go_ret;exact⟨by rw[x];rfl,(Z.refl [r] w).drewN q,H⟩
def scan(q:Int->Bool)(s:O)(i:Nat):Nat:=if h:i<s.size then (if q (bt s i)then i else scan q s (i+1))else i
  termination_by s.size-i
theorem DO{q:Int->Bool}(h:s.size<=i):scan q s i=i:=by grind[scan]
theorem Kw{q:Int->Bool}(h:q (bt s i)=true):scan q s i=i:=by grind[scan]
theorem Ih{q:Int->Bool}(hi:i<s.size)(h:q (bt s i)=false):scan q s i=scan q s (i+1):=by grind[scan]
theorem qf{q:Int->Bool}:i<=scan q s i:=by
 fun_induction scan q s i with
 |case1=>omega
 |case2=>omega
 |case3=>omega
theorem nF{q:Int->Bool}(h:i<=s.size):scan q s i<=s.size:=by
 fun_induction scan q s i with
 |case1=>omega
 |case2 _ _ _ ih=>omega
 |case3=>omega
theorem ahK{q:Int->Bool}:scan q s i<s.size->q (bt s (scan q s i))=true:=by
 fun_induction scan q s i with
 |case1 _ _ h=>grind
 |case2 _ _ _ ih=>exact ih
 |case3 _ h=>omega
structure Zm(w:J)(S:List Nat)(k:Nat)(caps:fN)(q:Int->Bool):Prop where
 ent:∀(args:fN)(w:J),(callFunc k args).run prog w=.ok (.enter k args) w
 ask:∀(c:Int)(w':J),0<=c->c<=255->Z S w w'->Calls prog k (#[.int .u8 c]++caps) w' λe w''=>e=dw (.bool (q c))/\∃n,w''=w'.drewN n
theorem UA(r:Nat)(R:RC)(l ps:Nat)(k:Nat)(d:fN)(q:Int->Bool)(w:J)(h:Rd w r R l ps)(hp:ps<=R.cs.size)(hs:R.cs.size<=1024)(hq:Zm w [r] k d q):
  Calls prog 252 #[cW r,.func (.func k) #[] d] w λe w'=>e=dw (Y (R.cs.extract ps (scan q R.cs ps)))/\Z [r] w w'/\Rd w' r R l (scan q R.cs ps):=by
 have z:=hq;have p0:=h.ps;have H:=h;have F:=get_bt R.cs;have U:=z.ent;go_enter func252,ntmps252;go_wp21
 go_loopw [] (λwr=>∃i:Nat,ps<=i/\i<=R.cs.size/\scan q R.cs i=scan q R.cs ps/\Rd wr r R l i/\Z [r] w wr) (λwr=>R.cs.size-(match wr.cell? ⟨r,3,none⟩with|some v=>(intOf v).toNat|none=>0))
 case atStart=>exact⟨ps,dr _,hp,rfl,H,Z.refl _ _⟩
 case round=>
  have⟨i,hi0,hi1,hsc,HR,HKW⟩:=hrel;have t:=HR.text;have p:=HR.ps;have fz:=HR.free 3;by_cases e:i=R.cs.size
  .have C:=(λw' (h:Rd w' r R l i)=>mB r R l i w' h);have e2:scan q R.cs ps=i:=by rw[<-hsc];exact DO (by omega)
   have B:decide (i=R.cs.size)=true:=by simp[e]
   rw[e2];rw[B]at C;go_wp21
   go_quiet ((go_at_call 81;refine XB (C _ ?_);exact HR))
   go_wp21
   go_quiet (fail)
   go_wp2;go_ret;exact⟨by rw[e2,e];rfl,((HKW.drewN _).drewN _),by rw[e2];exact HR⟩
  .have x:i<R.cs.size:=by omega
   have C:=(λw' (h:Rd w' r R l i)=>mB r R l i w' h);have B:decide (i=R.cs.size)=false:=by simp[e]
   rw[B]at C;have hb:=F i x;have I:=bt_nonneg R.cs i;have K:=bt_le R.cs i;by_cases u:q (bt R.cs i)=true
   .have e2:scan q R.cs ps=i:=by rw[<-hsc];exact Kw u
    rw[e2];have D:=(λw' h=>z.ask (bt R.cs i) w' I K h);rw[u]at D;go_wp21
    go_quiet (first|(go_at_call 81;refine XB (C _ ?_);exact HR)|(refine XB (D _ ?_);exact HKW.drewN _))
    go_wp21
    go_quiet (fail)
    go_wp2;go_ret;exact⟨by rw[e2];rfl,((HKW.drewN _).drewN _),by rw[e2];exact HR⟩
   .have y:q (bt R.cs i)=false:=by simpa using u
    have HS:scan q R.cs (i+1)=scan q R.cs ps:=by rw[<-hsc,Ih x y]
    have D:=(λw' h=>z.ask (bt R.cs i) w' I K h);rw[y]at D;go_wp21
    go_quiet (first|(go_at_call 81;refine XB (C _ ?_);exact HR)|(refine XB (D _ ?_);exact HKW.drewN _))
    have A:=Rd.Oa (w:=wr.drewN nq) HR (i+1);have X:=(HKW.drewN nq).setCell (p:=⟨r,3,none⟩) (.inl (by simp)) (G ((i+1:Nat)));go_wp2;go_roundw
    case rel=>grind
    case measure=>
     have m1:=A.ps;rw[show((i:Int)+1)=((i+1:Nat):Int)from by omega,m1,p];simp[intOf];omega
def fp(s:O)(c:Int):Bool:=decide (0<=Lib.indexByte s.data.toList c.toNat.toUInt8)
def Sw(s:O)(c:Int):fp s c=s.data.toList.contains c.toNat.toUInt8:=by rw[Lib.contains_iff_indexByte];rfl
theorem amj{c:Int}(d:0<=c)(e:c<=255){x:UInt8}(h:c.toNat.toUInt8=x):c=(x.toNat:Int):=by
 grind[UInt8.toNat_ofNat']
def adw{c:Int}(d:0<=c)(e:c<=255)(h:fp eA c=true):c=62:=by
 rw[Sw]at h;simp at h;exact amj d e h
def J6(b:Nat)(s:O)(c:Int)(w:J)(h:w.cell? ⟨b,0,none⟩=some (Y s)):
  Calls prog 254 #[.int .u8 c,cW b] w λe w'=>e=dw (.bool (fp s c))/\w'=w:=by
 have C:=Tryz.strings_IndexByte s c w;go_enter func254,ntmps254;go_wp21;refine C.mono ?_;rintro e w'⟨rfl,rfl⟩;generalize hx:Lib.indexByte s.data.toList c.toNat.toUInt8=x;have l:fp s c=decide (0<=x):=by unfold fp;rw[hx]
 have d:=V l;clear l;by_cases e:0<=x
 .go_wp2;go_ret;exact⟨by rw[d.out];simp[e],rfl⟩
 .go_wp2;go_ret;exact⟨by rw[d.out];simp[e],rfl⟩
def Bk(w:J)(S:List Nat)(b:Nat)(s:O)(h:w.cell? ⟨b,0,none⟩=some (Y s))(u:b<w.heap.size)(q:b∉S):Zm w S 254 #[cW b] (fp s) where
 ent:=enters_of func254 (rfl) rfl
 ask c w' _ _ hk:=(J6 b s c w' ((hk.cell u q).trans h)).mono λe x ⟨d,l⟩=>⟨d,0,l⟩
def mN(s:O)(w:J):
  Calls prog 162 #[Y s] w λe w'=>e=dw (.func (.func 254) #[] #[cW w.heap.size])/\w'=w.alloc (.cells #[Y s] 9):=by
 go_wp2;go_ret;simp
def SO(w:J)(S:List Nat):Zm w S 156 #[] (λc=>decide (97<=c/\c<=122\/65<=c/\c<=90)) where
 ent:=enters_of func156 (rfl) rfl
 ask c w' h0 d _:=(JO c w' h0 d).mono λe l ⟨d,h⟩=>⟨d,0,h⟩
def ad6(b d:Nat)(s:O)(c:Int)(w:J)(h:w.cell? ⟨b,0,none⟩=some (Y s))(l:w.cell? ⟨d,0,none⟩=some (.func (.func 254) #[] #[cW b])):
  Calls prog 335 #[.int .u8 c,cW d] w λe w'=>e=dw (.bool (!fp s c))/\w'=w:=by
 have C:=J6 b s c w h;generalize fp s c=x at C|-;go_enter func335,ntmps335;go_wp21;refine C.mono ?_;rintro e w'⟨rfl,rfl⟩;cases x
 .go_wp2;go_ret;simp
 .go_wp2;go_ret;simp
def aci(w:J)(S:List Nat)(b d:Nat)(s:O)(h:w.cell? ⟨b,0,none⟩=some (Y s))(l:w.cell? ⟨d,0,none⟩=some (.func (.func 254) #[] #[cW b]))(z:b<w.heap.size)(y:b∉S)(u:d<w.heap.size)(q:d∉S):Zm w S 335 #[cW d] (λc=>!fp s c) where
 ent:=enters_of func335 (rfl) rfl
 ask c w' _ _ hk:=(ad6 b d s c w' ((hk.cell z y).trans h) ((hk.cell u q).trans l)).mono λe A ⟨x,l⟩=>⟨x,0,l⟩
def ag9(f:Fn)(x y:fN)(w:J):
  Calls prog 298 #[.func f x y] w λe w'=>e=dw (.func (.func 335) #[] #[cW w.heap.size])/\w'=w.alloc (.cells #[.func f x y] 220):=by
 go_wp2;go_ret;simp
theorem uv(r:Nat)(R:RC)(A ps:Nat)(s:O)(w:J)(h:Rd w r R A ps)(hp:ps<=R.cs.size)(hs:R.cs.size<=1024):
  Calls prog 250 #[cW r,Y s] w λe w'=>e=nu/\Z [r] w w'/\Rd w' r R A (scan (λc=>!fp s c) R.cs ps):=by
 have hr:=eS h;have H:=h;clear h;obtain⟨q,d⟩:∃q,q=w.alloc (.cells #[Y s] 9):=⟨_,rfl⟩;obtain⟨u,l⟩:∃u,u=q.alloc (.cells #[.func (.func 254) #[] #[cW w.heap.size]] 220):=⟨_,rfl⟩;have U:q.heap.size=w.heap.size+1:=by rw[d];simp
 have z2:u.heap.size=w.heap.size+2:=by rw[l];simp[U]
 have I:q.heap[w.heap.size]?=some (cV #[Y s] 9):=by rw[d];exact aY w _
 have K:Z [r] w q:=by rw[d];exact(Z.refl _ _).alloc _
 have x:Z [] q u:=by rw[l];exact(Z.refl _ _).alloc _
 have b2:u.heap[q.heap.size]?=some (cV #[.func (.func 254) #[] #[cW w.heap.size]] 220):=by rw[l];exact aY q _
 have F:=x.at I (by simp);have y:Rd u r R A ps:=by rw[l,d];exact(((Z.refl [] w).alloc _).alloc _).at H (by simp)
 have X:Z [r] w u:=K.trans (x.mono (by simp));have hA:Zm u [r] 335 #[cW q.heap.size] (λc=>!fp s c):=
  aci u [r] w.heap.size q.heap.size s (by simp_all) (by simp_all) (by omega) (by grind) (by omega) (by grind)
 have C:=UA r R A ps _ _ _ u y hp hs hA;have B:=V d;have D:=V l;clear hA y F b2 x K I U z2 d l;go_enter func250,ntmps250;go_wp21;refine(mN s w).mono ?_;rintro e w'⟨rfl,rfl⟩;rw[<-B.out];go_wp21;refine(ag9 _ _ _ q).mono ?_;rintro e w'⟨rfl,rfl⟩;rw[<-D.out];go_wp21;refine C.mono ?_;rintro e w3⟨rfl,z,a1⟩;have a0:=X.trans z;clear z;go_wp2;go_end0;grind
structure MH(w:J)(r:Nat)(R:RC)(g cap:Nat)(cut:Nat->Nat):Prop where
 av:R.av=ky g (R.cs.size+1) cap
 ne:g≠r
 lt:g<w.heap.size
 at_:∀i,i<=R.cs.size->w.cell? ⟨g,i,none⟩=some (G (cut i))
theorem MH.kept{d:Nat}{cut:Nat->Nat}(h:MH w r R g d cut)(e:Z [r] w w'):MH w' r R g d cut:=
 ⟨h.av,h.ne,kL h.lt e.size,λi hi=>(e.cell h.lt (by simp[h.ne])).trans (h.at_ i hi)⟩
def nZ(r:Nat)(R:RC)(d ps g l:Nat)(cut:Nat->Nat)(w:J)(h:Rd w r R d ps)(hA:MH w r R g l cut)(q:d<=R.cs.size)(u:ps<=R.cs.size)(hs:R.cs.size<=1024):
  Calls prog 82 #[cW r] w λe w'=>e=dw (.agg #[G (cut d),G (cut ps)])/\Z [] w w':=by
 have a:=h.cU;rw[hA.av]at a;have p:=h.ps;have b:=h.bg;have z:=hA.at_ d q;have A:=hA.at_ ps u;have C:=eS h;have B:=hA.lt;generalize R.cs.size=n at *;generalize cut d=x at *;generalize cut ps=y at *;go_enter func82,ntmps82;go_wp21;go_region
 all_goals (try go_wp2)
 refine nr ?_ rfl ⟨rfl,((Z.refl [] w).alloc _).drew⟩;simp[results,results82,asAddr,Result.andThen,go_sem]
def Z.Av(h:Below w.heap.size w w'):Z [] w w':=⟨h.os,h.tape,h.output,h.size,λk d _=>h.block k d⟩
def Gl(w:J)(r:Nat):Prop:=(∃m,w.cell? ⟨3,0,none⟩=some (G m))/\3<w.heap.size/\r≠3
theorem Gl.kept(h:Gl w r)(d:Z [r] w w'):Gl w' r:=by
 have⟨⟨m,hm⟩,hl,hn⟩:=h;exact⟨⟨m,(d.cell hl (by grind)).trans hm⟩,kL hl d.size,hn⟩
def kO(s:O):O:=⟨(Lib.replaceAll s.data.toList (ByteArray.mk #[0]).data.toList (ByteArray.mk #[239,191,189]).data.toList).toArray⟩
theorem xb(r:Nat)(s:O)(w:J)(hs:s.size<=1048576)(h:Gl w r):
  Calls prog 152 #[Y s] w λe w'=>e=dw (Y (kO s))/\Z [] w w':=by
 have⟨⟨m,hm⟩,_,_⟩:=h;have l:=Lib.countB_le ⟨#[0]⟩ (by decide) s.size s (dr _);have C:=Tryz.strings_ReplaceAll s ⟨#[0]⟩ ⟨#[239,191,189]⟩ m w (by omega) hm (by decide) (by have:(ByteArray.mk #[239,191,189]).size=3:=rfl;grind);go_enter func152,ntmps152;go_wp21;refine C.mono ?_;rintro e w'⟨rfl,d⟩;go_wp2;go_ret;exact⟨rfl,Z.Av d⟩
def low(c:Int):Int:=if 65<=c/\c<=90 then c+32 else c
def small(s:O):O:=⟨s.data.map λb=>if 65<=b.toNat/\b.toNat<=90 then b+32 else b⟩
theorem nH(s:O):(small s).size=s.size:=Array.size_map ..
theorem Rr(s:O)(j:Nat)(h:j<s.size):bt (small s) j=low (bt s j):=by
 have d:j<(small s).size:=by rw[nH];exact h
 unfold bt low;rw[wI h,wI d];show(((small s).data[j]'d).toNat:Int)=_;have e:(small s).data[j]'d=(if 65<=(s.data[j]).toNat/\(s.data[j]).toNat<=90 then s.data[j]+32 else s.data[j]):=by simp[small]
 show _=(if 65<=((s.data[j]).toNat:Int)/\((s.data[j]).toNat:Int)<=90 then ((s.data[j]).toNat:Int)+32 else ((s.data[j]).toNat));grind[UInt8.toNat_add]
def qV(g sz:Nat)(s:O)(k:Nat)(w wr:J):Prop:=
 (∃C:fN,wr.heap[g]?=some (.cells C 5 (sz,sz+1))/\C.size=sz/\∀j,j<s.size->C[j]?=some (.int .u8 (if j<k then low (bt s j)else bt s j)))/\Z [] w wr
theorem qV.cell(h:qV g sz s k w wr)(e:s.size<=sz)(j:Nat)(d:j<s.size):wr.cell? ⟨g,j,none⟩=some (.int .u8 (if j<k then low (bt s j)else bt s j))/\wr.frozen? ⟨g,j,none⟩=false:=by
 have⟨⟨C,hC,_,h⟩,_⟩:=h;exact⟨by rw[Ak hC];grind,Nf hC j (by omega)⟩
theorem qV.EN(h:qV g sz s k w wr)(hl:low (bt s k)=bt s k):qV g sz s (k+1) w wr:=by
 grind[qV]
theorem qV.store(h:qV g sz s k w wr)(d:w.heap.size<=g)(l:k<sz):qV g sz s (k+1) w (wr.setCell ⟨g,k,none⟩ (.int .u8 (low (bt s k)))):=by
 have⟨⟨C,hC,hs,h⟩,hk⟩:=h;refine⟨⟨_,DB hC k _,by grind,λj e=>?_⟩,hk.setCell (.inr d) _⟩;grind
theorem uQ(s:O)(w:J)(hs:s.size<=1048576):
  Calls prog 244 #[Y s] w λe w'=>e=dw (Y (small s))/\Z [] w w':=by
 have l:=run_bytes_of_string (P:=prog) w 9 58 5 s underlying9 underlying58 underlying5;obtain⟨u,z⟩:∃u,u=grownCap w s.size 0 5:=⟨_,rfl⟩;rw[<-z]at l;clear z;have D:=AQ s u;have B:∀j,j<s.size->(bytesRow s u)[j]?=some (.int .u8 (bt s j)):=λj A=>by rw[bytesRow_at s u j A,<-get_bt s j A];rfl
 generalize bytesRow s u=R at l D B;obtain⟨y,h⟩:∃y,y=w.drew.alloc (.cells R 5 (R.size,R.size+1)):=⟨_,rfl⟩;rw[<-h]at l;have K:y.heap[w.heap.size]?=some (.cells R 5 (R.size,R.size+1)):=by rw[h];exact aY w.drew _
 have I:Z [] w y:=by rw[h];exact(Z.refl [] w).drew.alloc _
 clear h;have X:Hid (qV w.heap.size R.size s 0 w y):=⟨⟨R,K,rfl,λj A=>by grind⟩,I⟩;clear K I B;generalize R.size=sz at *;go_enter func244,ntmps244;go_wp21;clear l
 go_loopw [10] (λi wr=>∃k:Nat,k<=s.size/\i=G k/\qV w.heap.size sz s k w wr) (λi _=>s.size-(intOf i).toNat)
 case atStart=>exact⟨0,yQ _,rfl,X⟩
 case round=>
  obtain⟨k,hk,rfl,d⟩:=hrel;by_cases H:k<s.size
  .have⟨c1,f1⟩:=d.cell D k H;rw[cZ (by omega)]at c1;have h0:=bt_nonneg s k;have h1:=bt_le s k;by_cases a:65<=bt s k
   .by_cases b:bt s k<=90;have C:=d.store (dr _) (by omega);have q:low (bt s k)=bt s k-65+97:=by unfold low;rw[dd ⟨a,b⟩];omega
    rw[q]at C;clear q
    rotate_left
    have C:=d.EN (by grind[low])
    all_goals
     generalize bt s k=c at *;go_wp2;go_roundw
     case rel=>grind
     case measure=>simp[intOf];omega
   .have C:=d.EN (by grind[low]);generalize bt s k=c at *;go_wp2;go_roundw
    case rel=>grind
    case measure=>simp[intOf];omega
  .have e:k=s.size:=by omega
   subst e;have F:=by
    have:=FA (P:=prog) wr 58 9 5 ⟨w.heap.size,0,none⟩ u (small s).data.toList underlying58 underlying5 underlying9 (λj A=>by
     have x:j<s.size:=by have:=nH s;simp at A;have e:(small s).data.size=(small s).size:=rfl;omega
     rw[eL];have:=(d.cell D j x).1;rw[dd x]at this;rw[this,<-Rr s j x,<-get_bt (small s) j (by simp_all)];rfl)
    have e2:(small s).data.toList.length=s.size:=by simp;exact nH s
    rw[e2]at this
    simpa using this
   have U:=d.2;go_wp2;go_ret;exact⟨rfl,U⟩
theorem oK(x y:Int)(nm:O)(av:cY)(cU:iD)(w:J)(hA:yC w av cU)(hn:cU.length<=4096)(hz:∀a∈cU,a.2.size<=1048576):
  Calls prog 225 #[.agg #[G x,G y,Y nm,av]] w λe w'=>e=dw (.bool (sS cU))/\Z [] w w':=by
 have⟨ao,cp,hav⟩:=cP hA;subst hav;obtain⟨D,u⟩:∃D,D=w.alloc (cV #[G x,G y,Y nm,.slice ao cU.length cp] 193):=⟨_,rfl⟩;have h:Z [] w D:=by rw[u];exact(Z.refl _ _).alloc _
 have HA:=h.ownsRow hA (λ_ _=>by simp);have HW:=V u.symm;have HZ:=hz;clear u;obtain⟨R,K⟩:∃R,R=sS cU:=⟨_,rfl⟩;rw[<-K];have I:Hid (R=sS (cU.drop 0)):=V K;clear K;go_enter func225,ntmps225;go_wp21;rw[HW.out]
 go_loopw [8] (λv wr=>∃d:Nat,v=G d/\d<=cU.length/\R=sS (cU.drop d)/\Z [] D wr) (λv _=>cU.length-(intOf v).toNat)
 case atStart=>exact⟨0,rfl,yQ _,I,Z.refl _ _⟩
 case round=>
  obtain⟨d,rfl,a0,A,B⟩:=hrel;by_cases q:d<cU.length
  .obtain⟨g,rfl,c0,c1⟩:=yC.at2 (B.ownsRow HA (λ_ _=>by simp)) q;have hz:=HZ cU[d] (sd q);rw[US q]at A;have HD:Hid (R=if ir cU[d].1 lp then ir (Xf cU[d].2) jt else sS (cU.drop (d+1))):=V A;have F:=V B;clear B A;generalize cU[d].1=a at *;generalize cU[d].2=b at *;have C:=(λW=>uQ b W hz);have z:=F.alloc (cV #[Y a,Y b] 295);cases hq:ir a lp with
   |true=>
    have X:(a.toList==[116,121,112,101])=true:=by rw[<-hq];unfold ir;rw[vN (lp)]
    have l:=V (show R=ir (Xf b) jt by grind[Hid.out]);go_wp21;refine(C _).mono ?_;rintro e W3⟨rfl,U⟩;have H:=z.trans U;go_wp2;go_ret;refine⟨?_,h.trans H⟩;rw[l.out];unfold ir;rw[vN (jt)];rfl
   |false=>
    have X:(a.toList==[116,121,112,101])=false:=by rw[<-hq];unfold ir;rw[vN (lp)]
    have l:=V (show R=sS (cU.drop (d+1)) by grind[Hid.out]);go_wp2;go_roundw
    case rel=>exact⟨d+1,by go_num,by omega,l,z⟩
    case measure=>simp[intOf];omega
  .have HD:Hid (R=false):=V (by rw[A,Li (by omega)];rfl);have F:=V B;clear B A;go_wp2;go_ret;exact⟨by rw[HD.out];rfl,h.trans F⟩
def AM(E:Env)(rec:Nat->cR->M Unit)(hA:∀(m:Nat)(t:cR),eY E t->eP E 165 (λ_=>#[Bp E,G m,dJ E t]) (rec m t) uV)(t:cR)(z:eY E t)(K:∀a∈t.fc,a.2.size<=1048576):eP E 127 (λ_=>#[Bp E,dJ E t]) (ft rec t) uV:=by
 intro f σ w h HS;have D:∃B n C,E.tv=.slice B n C:=by
  have⟨L,_,hr⟩:=h;have⟨B,C,e⟩:=cP hr.tok;exact⟨B,_,C,e⟩
 have I:=(λW=>xr E t W D);have y:Hid (∀W,Z [] w W->Calls prog 225 #[.agg (yv E t)] W λe W'=>e=dw (.bool (sS t.fc))/\Z [] W W'):=V (by
  intro W hk;have⟨L,_,hr⟩:=h.dB hk;have⟨a,b,k,cU⟩:=t;cases k with
  |start n=>
   have e:cU=E.ta:=z rfl;subst e;exact oK a b n E.tv E.ta W hr.tok hr.Lq K
  |stop n=>
   have e:cU=E.ta:=z rfl;subst e;exact oK a b n E.tv E.ta W hr.tok hr.Lq K
  |gz s=>exact oK 0 0 _ _ [] W (mh _ _ _ _) (by simp) (by simp)
  |dl s=>exact oK 0 0 _ _ [] W (mh _ _ _ _) (by simp) (by simp)
  |dK n q=>exact oK 0 0 _ _ [] W (mh _ _ _ _) (by simp) (by simp)
  |lost=>exact oK 0 0 _ _ [] W (mh _ _ _ _) (by simp) (by simp)
  |dD=>exact oK 0 0 _ _ [] W (mh _ _ _ _) (by simp) (by simp))
 obtain⟨R,l⟩:∃R,R=(ft rec t) σ:=⟨_,rfl⟩;rw[<-l]at HS|-;unfold ft at l;have H:=At.start h;cases hq:sS t.fc with
 |true=>
  rw[hq]at y l;have u:Hid (R=(gM t>>=λ_=>(Pure.pure ():M Unit)) σ):=V l;clear l;generalize hav:yv E t=tg at *;go_enter func127,ntmps127;go_wp21;refine(I _).mono ?_;rintro e F⟨rfl,d⟩;have A:=y F d;replace H:=H.k0 d;go_wp21;refine A.mono ?_;rintro e w2⟨rfl,x⟩;replace H:=H.k0 x;go_wp21;refine dC (ut E (dO E) t z) H u HS rfl lT ?_;rintro(_) f σ w H X U u;go_wp2;go_end0;exact cE u H rfl
 |false=>
  rw[hq]at y l;have u:Hid (R=(oF rec t>>=λ_=>(Pure.pure ():M Unit)) σ):=V l;clear l;generalize hav:yv E t=tg at *;go_enter func127,ntmps127;go_wp21;refine(I _).mono ?_;rintro e F⟨rfl,d⟩;have A:=y F d;replace H:=H.k0 d;go_wp21;refine A.mono ?_;rintro e w2⟨rfl,x⟩;replace H:=H.k0 x;go_wp21;refine dC (Dd E rec hA t z) H u HS rfl lT ?_;rintro(_) f σ w H X U u;go_wp2;go_end0;exact cE u H rfl
def aaN(E:Env)(t:cR):jA E .nothing t (Pure.pure ()):=by
 intro v f σ w h d e;refine⟨91,#[],#[],d,enters_of func91 (rfl) rfl,?_⟩;go_wp2;go_end0;exact cE rfl (At.start h) rfl
def dV(E:Env)(t:cR)(k:Nat)(m:M Unit)(e:∀d w,(callFunc k d).run prog w=.ok (.enter k d) w)(h:eP E k (λ_=>#[Bp E,dJ E t]) m uV):jA E (.eI k) t m:=by
 intro v f σ w l u q;exact⟨k,#[eF E.bB],#[],u,e,h f σ w l q⟩
theorem yu(E:Env)(r:Ru)(t:cR):jA E r t stuck:=λ_ _ _ _ _ _ d=>absurd rfl d
def VK(E:Env)(t:cR):eP E 118 (λ_=>#[Bp E,dJ E t]) (pM t) uV:=by
 refine dI λf σ w R d HS H=>?_;go_enter func118,ntmps118;have⟨ta,tb,tao,tn,tcp,HTG⟩:=DX E t H.rel;have h:=λw=>zV ta tb t.name tao tn tcp w;go_wp21;refine(HTG _).mono ?_;rintro e x⟨rfl,l⟩;replace H:=H.k0 l;go_wp21;refine dC (Jd E t.name) H d HS rfl lT ?_;rintro(_) f σ w H u q d;go_wp2;go_end0;exact cE d H rfl
def xm(t:cR):Bool:=t.fc.all λa=>decide (a.2.size<=1048576)
def wV(f:Nat):Option (M Bool):=
 if f=132 then some oD else
 if f=139 then some endCell else
 if f=133 then some gE else
 if f=138 then some zp else
 if f=144 then some pg else
 if f=135 then some lH else
 if f=125 then some pN else
 none
def acY(E:Env){b:M Bool}(h:wV f=some b):gO E f (λ_=>#[Bp E]) b bV/\∀d w,(callFunc f d).run prog w=.ok (.enter f d) w:=by
 unfold wV at h;split at h;rename_i e;subst e;cases h;exact⟨O9 E,enters_of func132 (by rfl) rfl⟩;split at h;rename_i e;subst e;cases h;exact⟨Z6 E,enters_of func139 (by rfl) rfl⟩;split at h;rename_i e;subst e;cases h;exact⟨Ew E,enters_of func133 (by rfl) rfl⟩;split at h;rename_i e;subst e;cases h;exact⟨ac2 E,enters_of func138 (by rfl) rfl⟩;split at h;rename_i e;subst e;cases h;exact⟨RZ E,enters_of func144 (by rfl) rfl⟩;split at h;rename_i e;subst e;cases h;exact⟨Jf E,enters_of func135 (by rfl) rfl⟩;split at h;rename_i e;subst e;cases h;exact⟨VN E,enters_of func125 (by rfl) rfl⟩;cases h
def JU(lk:Bool)(eC rec:Nat->cR->M Unit)(t:cR)(f:Nat):M Unit:=
 if f=107 then uj else
 if f=113 then sQ else
 if f=203 then rj else
 if f=206 then nD else
 if f=207 then uk else
 if f=208 then GQ else
 if f=209 then oC else
 if f=210 then rl else
 if f=212 then mF else
 if f=149 then zn else
 if f=146 then gP else
 if f=145 then dQ else
 if f=94 then iN t else
 if f=97 then qM t else
 if f=101 then qN t else
 if f=109 then oe t else
 if f=103 then gw t else
 if f=104 then gM t else
 if f=114 then iV t else
 if f=116 then iX t else
 if f=198 then pu t else
 if f=187 then jJ t else
 if f=188 then rL t else
 if f=189 then jQ t else
 if f=190 then sY t else
 if f=191 then mV t else
 if f=193 then kQ t else
 if f=194 then nJ t else
 if f=196 then jY t else
 if f=197 then lU t else
 if f=199 then kY t else
 if f=200 then dU t else
 if f=201 then mW t else
 if f=202 then kR t else
 if f=205 then ri t else
 if f=118 then pM t else
 if f=211 then kM t else
 if f=120 then kK t else
 if f=137 then mU t else
 if f=126 then fZ t else
 if f=140 then jl t else
 if f=141 then fA t else
 if f=142 then eN t else
 if f=143 then im t else
 if f=105 then og t else
 if f=106 then jr t else
 if f=195 then kT t else
 if f=185 then jm t else
 if f=186 then lc t else
 if f=95 then fV rec t else
 if f=98 then lL rec t else
 if f=102 then lM rec t else
 if f=108 then iw rec t else
 if f=111 then kN rec t else
 if f=110 then nA rec t else
 if f=112 then vW rec t else
 if f=204 then rn rec t else
 if f=241 then oz rec t else
 if f=129 then oF rec t else
 if f=119 then iZ rec t else
 if f=127 then (if xm t then ft rec t else stuck)else
 if f=130 then (if lk then stuck else jB t)else
 if f=131 then (if lk then stuck else gI eC rec t)else
 stuck
theorem jh{a b:M Unit}(d:jA E (.eI k) t a)(e:jA E (.eI f) t b):jA E (.eI f) t (if f=k then a else b):=by
 grind
theorem mJq{a b:M Unit}(l:∀d w,(callFunc k d).run prog w=.ok (.enter k d) w)(e:eP E k (λ_=>#[Bp E,dJ E t]) a uV)(h:jA E (.eI f) t b):jA E (.eI f) t (if f=k then a else b):=jh (dV E t _ _ l e) h
section
variable (E:Env)(lk:Bool)(hl:lk=false->E.wv=none)(hi:E.Hw=7)(eC rec:Nat->cR->M Unit)
variable (hAL:∀v ws (m:Nat) (t:cR),eY E t->eP (E.lock v ws) 165 (λ_=>#[Bp E,.int .i64 (m:Int),dJ E t]) (eC m t) uV)
variable (hA:∀(m:Nat)(t:cR),eY E t->eP E 165 (λ_=>#[Bp E,.int .i64 (m:Int),dJ E t]) (rec m t) uV)
include hl hi hAL hA
theorem ag0(f:Nat)(t:cR)(d:eY E t):jA E (.eI f) t (JU lk eC rec t f):=by
 refine mJq (enters_of func107 rfl rfl) (M6 E t) <|mJq (enters_of func113 rfl rfl) (M8 E t) <|mJq (enters_of func203 rfl rfl) (Z4 E t) <|mJq (enters_of func206 rfl rfl) (Pb E t) <|mJq (enters_of func207 rfl rfl) (aac E t) <|mJq (enters_of func208 rfl rfl) (ajJ E t) <|mJq (enters_of func209 rfl rfl) (VE E (dO E) t) <|mJq (enters_of func210 rfl rfl) (Z8 E t) <|mJq (enters_of func212 rfl rfl) (RV E t) <|mJq (enters_of func149 rfl rfl) (acW E t) <|mJq (enters_of func146 rfl rfl) (AG E t) <|mJq (enters_of func145 rfl rfl) (yW E t) <|mJq (enters_of func94 rfl rfl) (Ha E t) <|mJq (enters_of func97 rfl rfl) (T8 E t d) <|mJq (enters_of func101 rfl rfl) (Ua E (dO E) t d) <|mJq (enters_of func109 rfl rfl) (T0 E (dO E) t d) <|mJq (enters_of func103 rfl rfl) (ur E (dO E) t) <|mJq (enters_of func104 rfl rfl) (ut E (dO E) t d) <|mJq (enters_of func114 rfl rfl) (O0 E (dO E) t) <|mJq (enters_of func116 rfl rfl) (pt E (dO E) t d) <|mJq (enters_of func198 rfl rfl) (Uh E (dO E) t d) <|mJq (enters_of func187 rfl rfl) (uz E (dO E) t d) <|mJq (enters_of func188 rfl rfl) (Xl E (dO E) t d) <|mJq (enters_of func189 rfl rfl) (KJ E (dO E) t d) <|mJq (enters_of func190 rfl rfl) (abj E (dO E) t d) <|mJq (enters_of func191 rfl rfl) (T6 E t d) <|mJq (enters_of func193 rfl rfl) (Mu E t d) <|mJq (enters_of func194 rfl rfl) (Qj E t d) <|mJq (enters_of func196 rfl rfl) (My E (dO E) t d) <|mJq (enters_of func197 rfl rfl) (MB E t d) <|mJq (enters_of func199 rfl rfl) (Uc E t d) <|mJq (enters_of func200 rfl rfl) (lR E t d) <|mJq (enters_of func201 rfl rfl) (Ue E t d) <|mJq (enters_of func202 rfl rfl) (Mw E (dO E) t d) <|mJq (enters_of func205 rfl rfl) (VB E t) <|mJq (enters_of func118 rfl rfl) (VK E t) <|mJq (enters_of func211 rfl rfl) (GP E t) <|mJq (enters_of func120 rfl rfl) (KH E (dO E) t d) <|mJq (enters_of func137 rfl rfl) (T4 E t d) <|mJq (enters_of func126 rfl rfl) (Cb E t d) <|mJq (enters_of func140 rfl rfl) (IR E (dO E) t) <|mJq (enters_of func141 rfl rfl) (y7 E (dO E) t d) <|mJq (enters_of func142 rfl rfl) (qO E (dO E) t d) <|mJq (enters_of func143 rfl rfl) (DS E (dO E) t d) <|mJq (enters_of func105 rfl rfl) (Gx E hi t d) <|mJq (enters_of func106 rfl rfl) (Fj E hi t d) <|mJq (enters_of func195 rfl rfl) (Hf E hi t d) <|mJq (enters_of func185 rfl rfl) (by grind[VT,adn]) <|mJq (enters_of func186 rfl rfl) (by grind[VS,adn]) <|mJq (enters_of func95 rfl rfl) (y9 E rec hA t d) <|mJq (enters_of func98 rfl rfl) (L6 E rec hA t d) <|mJq (enters_of func102 rfl rfl) (L8 E (dO E) rec hA t d) <|mJq (enters_of func108 rfl rfl) (Bz E rec hA t d) <|mJq (enters_of func111 rfl rfl) (LZ E (dO E) rec hA t d) <|mJq (enters_of func110 rfl rfl) (OQ E rec hA t d) <|mJq (enters_of func112 rfl rfl) (ZX E rec hA t d) <|mJq (enters_of func204 rfl rfl) (aaa E rec hA t d) <|mJq (enters_of func241 rfl rfl) (OO E rec hA t d) <|mJq (enters_of func129 rfl rfl) (Dd E rec hA t d) <|mJq (enters_of func119 rfl rfl) (LG E rec hA t d) ?_;by_cases e:f=127;subst e;refine dV E t _ _ (enters_of func127 (by kernel_rfl) rfl) ?_;by_cases l:xm t=true;rw[dd l];exact AM E rec hA t d (λa q=>by grind[xm]);rw[cZ l];exact λ_ _ _ _ h=>absurd rfl h;rw[cZ e];clear e;by_cases e:f=130;subst e;refine dV E t _ _ (enters_of func130 (by kernel_rfl) rfl) ?_
 (cases lk with
  |true=>exact λ_ _ _ _ h=>absurd rfl h
  |false=>grind[Wi])
 rw[cZ e];clear e;by_cases e:f=131;subst e;refine dV E t _ _ (enters_of func131 (by kernel_rfl) rfl) ?_
 (cases lk with
  |true=>exact λ_ _ _ _ h=>absurd rfl h
  |false=>grind[Jh])
 grind[yu]
end
def mD:M (Nat×Nat):=λσ=>match dA σ.cC 0 with
 |some i=>eE i σ
 |none=> .stuck
def tf(d:Nat)(own:Bool)(t:cR):M Unit:=
 if d=99/\own=true then ja gp t else
 if d=148/\own=true then ja mD t else
 if d=93/\own=false then ja (eE 0) t else
 stuck
theorem Mk{σ1:N}{pl:Nat×Nat}(h:placeFor i σ=.ok pl σ1):σ1=σ:=by
 grind[jC,kX,placeFor]
theorem pd(i:Nat)(σ:N)(c p:Nat):eE i σ≠ .stop c p:=by
 grind[eE]
theorem yK(i:Nat)(σ:N)(c p:Nat):gQ i σ≠ .stop c p:=by
 grind[pd,gQ]
theorem vj(σ:N)(c p:Nat):fx σ≠ .stop c p:=by
 grind[yK,pd,fx]
theorem Ml(E:Env):Cl E 99 true gp where
 ent:=enters_of func99 (rfl) rfl
 same:=by
  grind[Mk,gp]
 PM:=by
  intro σ c p h;unfold gp at h;split at h;grind[pd,vj,placeFor];grind
 agk:=λf σ w h d=>Ig E (dO E) f σ w h d
theorem RM(E:Env):Cl E 93 false (eE 0) where
 ent:=enters_of func93 (rfl) rfl
 same:=λ_ _ _ h=>jC h
 PM:=λσ c p=>pd 0 σ c p
 agk:=λf σ w h d=>FW E 0 f σ w h d
theorem Pq(E:Env):Cl E 148 true mD where
 ent:=enters_of func148 (rfl) rfl
 same:=by
  grind[jC,mD]
 PM:=by
  grind[pd,mD]
 agk:=by
  intro f σ w h d;unfold mD at d|-;cases hq:dA _ 0 with
  |none=>rw[hq]at d;exact absurd rfl d
  |some i=>
   rw[hq]at d;exact RW E i h hq d
theorem agf(E:Env)(d:Nat)(own:Bool)(t:cR):jA E (.dl d own) t (tf d own t):=by
 have q:∀l,Cl E d own l->jA E (.dl d own) t (ja l t):=by
  intro l u v f σ w h y x;have⟨b1,e,hb⟩:=y;exact⟨_,_,_,e,enters_of func168 (rfl) rfl,Vq E d own l u t b1 h x hb⟩
 grind[yu,RM,Pq,Ml,tf]
def jD(lk:Bool)(eC rec:Nat->cR->M Unit):Ru->cR->M Unit
 | .nil,_=>stuck
 | .nothing,_=>Pure.pure ()
 | .eI f,t=>JU lk eC rec t f
 | .su m,t=>if 0<=m then rec m.toNat t else stuck
 | .dl pf own,t=>tf pf own t
 | .ahead f,t=>match wV f with
  |some b=>tD rec b t
  |none=>stuck
 | .ends f,_=>match wV f with
  |some b=>zq b
  |none=>stuck
 | .Wb r,t=>Bw (jD lk eC rec r t) t
 | .rM ks m,t=>if 0<=m then uA ks m.toNat t else stuck
 | .mr ks name m,t=>if 0<=m then oH rec ks name m.toNat t else stuck
 | .item ks,t=>Gd ks t
section
variable (E:Env)(lk:Bool)(hl:lk=false->E.wv=none)(hi:E.Hw=7)(eC rec:Nat->cR->M Unit)
variable (hAL:∀v ws (m:Nat) (t:cR),eY E t->eP (E.lock v ws) 165 (λ_=>#[Bp E,.int .i64 (m:Int),dJ E t]) (eC m t) uV)
variable (hA:∀(m:Nat)(t:cR),eY E t->eP E 165 (λ_=>#[Bp E,.int .i64 (m:Int),dJ E t]) (rec m t) uV)
include hl hi hAL hA
theorem Sk(t:cR)(q:eY E t):∀r,jA E r t (jD lk eC rec r t)
 | .nil=>yu E _ t
 | .nothing=>aaN E t
 | .eI f=>ag0 E lk hl hi eC rec hAL hA f t q
 | .su m=>by
  show jA E (.su m) t (if 0<=m then rec m.toNat t else stuck);split;rename_i x;intro v f σ w h l d;have⟨b1,b2,e,mq,hb2⟩:=l;have y:m=((m.toNat:Nat):Int):=by omega
  rw[y]at hb2;exact⟨_,_,_,e,enters_of func174 (by rfl) rfl,af3 E rec hA t q m.toNat b1 b2 h d mq hb2⟩;grind[yu]
 | .dl pf own=>agf E pf own t
 | .ahead k=>by
  show jA E (.ahead k) t (match wV k with|some b=>tD rec b t|none=>stuck)
  cases hb:wV k with
  |none=>grind[yu]
  |some b=>
   intro v f σ w h l d;have⟨b1,b2,e,mq,hb2⟩:=l;have⟨x,he⟩:=acY E hb;exact⟨_,_,_,e,enters_of func221 (by rfl) rfl,Pd E rec hA t q b k x he b1 b2 h d mq hb2⟩
 | .ends k=>by
  show jA E (.ends k) t (match wV k with|some b=>zq b|none=>stuck)
  cases hb:wV k with
  |none=>grind[yu]
  |some b=>
   intro v f σ w h l d;have⟨b1,e,mq⟩:=l;have⟨x,he⟩:=acY E hb;exact⟨_,_,_,e,enters_of func226 (by rfl) rfl,agt E t b k x he b1 h d mq⟩
 | .Wb r=>by
  intro v f σ w h l d;have⟨b1,b2,u,e,mq,hb2,hu⟩:=l;exact⟨_,_,_,e,enters_of func231 (by rfl) rfl,Ps E t r _ (Sk t q r) b1 b2 u h d mq hb2 hu⟩
 | .rM ks m=>by
  show jA E (.rM ks m) t (if 0<=m then uA ks m.toNat t else stuck);split;rename_i x;intro v f σ w h l d;have⟨b1,b2,b3,u,e,mq,hb2,ha,hb3⟩:=l;have y:m=((m.toNat:Nat):Int):=by omega
  rw[y]at hb3;obtain⟨k,z,rfl,_,_⟩:=ha.call;exact⟨_,_,_,e,enters_of func218 (by rfl) rfl,Gy E t q ks m.toNat b1 b2 b3 k z h d mq hb2 ha hb3⟩;grind[yu]
 | .mr ks name m=>by
  show jA E (.mr ks name m) t (if 0<=m then oH rec ks name m.toNat t else stuck);split
  .rename_i x;intro v f σ w h l d;have⟨b1,b2,b3,b4,u,e,mq,hb2,ha,hb3,hb4⟩:=l;have y:m=((m.toNat:Nat):Int):=by omega
   rw[y]at hb4;obtain⟨k,z,rfl,_,_⟩:=ha.call;exact⟨_,_,_,e,enters_of func220 (by rfl) rfl,by first|exact Di E rec hA t q ks name m.toNat b1 b2 b3 b4 k z h d mq hb2 ha hb3 hb4|exact Di E rec hA t q ks name m.toNat b1 b2 b3 b4 k z h d mq hb2 hb3 hb4 ha⟩
  grind[yu]
 | .item ks=>by
  intro v f σ w h l d;have⟨b1,b2,b3,u1,u2,e,mq,hb2,ha1,hb3,ha2⟩:=l;obtain⟨C,A,rfl,_,_⟩:=ha1.call;obtain⟨D,B,rfl,_,_⟩:=ha2.call;exact⟨_,_,_,e,enters_of func275 (by rfl) rfl,Qf E t q ks b1 b2 b3 C D A B h d mq hb2 ha1 hb3 ha2⟩
end
def dp:Bool->Nat->Nat->cR->M Unit
 |_,0,_,_=>stuck
 |lk,n+1,m,t=>match t.k with
  | .lost=>stuck
  |_=>asM (jD lk (dp true n) (dp lk n)) m t
theorem akl(E:Env)(K:∃x m c,E.tv=.slice x m c)(t:cR)(h:t.k≠ .lost):aip E t:=by
 have⟨a,b,k,cU⟩:=t;cases k with
 |gz s=>exact λd e sp u y z A B C D F H I w l=>ahg E d e a b s cU sp u y z A B C D F H I w l
 |dD=>exact λd e sp u y z A B C D F H I w l=>WF E d e a b cU sp u y z A B C D F H I w l
 |start n=>exact λd e sp u y z A B C D F H I w l=>aeh E d e a b n cU sp u y z A B C D F H I w l K
 |stop n=>exact λd e sp u y z A B C D F H I w l=>ahh E d e a b n cU sp u y z A B C D F H I w l K
 |dl s=>exact λd e sp u y z A B C D F H I w l=>WB E d e a b s cU sp u y z A B C D F H I w l
 |dK n q=>exact λd e sp u y z A B C D F H I w l=>WC E d e a b n q cU sp u y z A B C D F H I w l
 |lost=>grind
theorem xv(lk:Bool)(n m:Nat)(t:cR)(h:t.k≠ .lost):dp lk (n+1) m t=asM (jD lk (dp true n) (dp lk n)) m t:=by
 simp[dp]
def Qr:∀(n:Nat)(lk:Bool)(E:Env),(lk=false->E.wv=none)->E.Hw=7->(∃x m c,E.tv=.slice x m c)->∀(m:Nat)(t:cR),eY E t->eP E 165 (λ_=>#[Bp E,G m,dJ E t]) (dp lk n m t) uV
 |0,_,_,_,_,_,_,_,_=>λ_ _ _ _ l=>absurd rfl l
 |n+1,lk,E,hl,hi,htv,m,t,q=>by
  by_cases d:t.k=.lost;have e:dp lk (n+1) m t=stuck:=by
   have⟨a,b,k,cU⟩:=t;cases d;rfl
  rw[e];exact λ_ _ _ _ l=>absurd rfl l;rw[xv lk n m t d];exact ae5 E _ t (akl E htv t d) (λr=>Sk E lk hl hi _ _ (λv ws m t q=>Qr n true (E.lock v ws) (λh=>by cases h) hi htv m t q) (Qr n lk E hl hi htv) t q r) m
theorem Zt(E:Env)(rec:Nat->cR->M Unit)(a b:Nat)(cU:iD):eP E 51 (λ_=>#[Bp E,dJ E ⟨a,b,.lost,cU⟩]) (mx rec ⟨a,b,.lost,cU⟩) uV:=by
 intro f σ w h l;have e:mx rec ⟨a,b,.lost,cU⟩ σ=.ok () σ:=rfl;rw[e];simp only[dJ];have d:=oS underlying189;have H:=V ((At.start h).k0 ((Z.refl [] w).alloc (cV #[G a,G b] 189)));clear h l e;go_enter func51,ntmps51;go_wp2;go_end0;exact cE rfl H.out rfl
section
variable (lk:Bool)(eC rec:Nat->cR->M Unit)(t:cR)
end
theorem ab6(E:Env)(hl:E.wv=none)(hi:E.Hw=7)(e:∃x m c,E.tv=.slice x m c)(n:Nat)(t:cR)(d:eY E t):eP E 51 (λ_=>#[Bp E,dJ E t]) (mx (dp false n) t) uV:=by
 have hA:=Qr n false E (λ_=>hl) hi e;have⟨a,b,k,cU⟩:=t;cases k with
 |gz s=>exact wP E _ hA _ d nofun rfl (by decide) λw=>by kernel_rfl
 |start s=>exact wP E _ hA _ d nofun rfl (by decide) λw=>by kernel_rfl
 |stop s=>exact wP E _ hA _ d nofun rfl (by decide) λw=>by kernel_rfl
 |dl s=>exact wP E _ hA _ d nofun rfl (by decide) λw=>rfl
 |dK s q=>exact wP E _ hA _ d nofun rfl (by decide) λw=>rfl
 |lost=>grind[Zt]
 |dD=>exact wP E _ hA _ d nofun rfl (by decide) λw=>rfl
theorem uL{n:O}{r:Ru}:∀{R:List (List O×Ru)},mf R n=some r->∃p∈R,da p.1 n=true/\p.2=r
 |[],h=>by cases h
 |p::R,h=>by
  unfold mf at h;by_cases d:da p.1 n=true;grind;rw[cZ d]at h;have⟨q,h1,h2⟩:=uL h;grind
theorem JS{n:O}:∀{R:List (List O×Ru)},mf R n=none->∀p∈R,da p.1 n=false
 |[],_,p,d=>by grind
 |q::R,h,p,d=>by
  unfold mf at h;by_cases e:da q.1 n=true;grind;rw[cZ e]at h;rcases List.mem_cons.1 d with rfl|d;grind;exact JS h p d
def Yq(t:cR):Bool:=match t.k with
 | .start _=>true
 |_=>false
structure tA(t:cR):Prop where
 sz:t.chars.size<=100
 sm:xm t=true
 nl:t.k≠ .lost
def Ir(σ:N)(t:cR):Prop:=Yq t=true->σ.fresh=true
theorem Ir.tag(h:Ir σ t)(hs:Yq t=true):lw σ t:=by
 refine⟨?_,h hs⟩;have⟨a,b,k,cU⟩:=t;cases k<;>first|rfl|cases hs
theorem dL(lk:Bool)(n m:Nat)(t:cR)(hl:t.k≠ .lost)(sp:jz)(hs:tV[m]?=some sp)(r:Ru)(d:dT sp t=r):dp lk (n+1) m t=jD lk (dp true n) (dp lk n) r t:=by
 grind[xv,asM]
def xS(t:cR):tf 99 true t=ja gp t:=by rfl
def RA(t:cR):tf 93 false t=ja (eE 0) t:=by rfl
theorem Ju{n:O}(h:da [s] n=true):n=s:=by grind[oE,wZ]
theorem alC{u n:O}(h:da [s,u] n=true):n=s\/n=u:=by
 grind[oE,da]
theorem Pp{d:List O}{n:O}(h:da d n=true):n∈d:=by
 grind[oE,da]
def Yn(lk:Bool)(n a b:Nat)(nm:O)(cU:iD)(e:nm=dR\/nm=fM\/nm=eX)(h:iH σ)(d:σ.fresh=true)(l:wt σ<999000):RB 1 σ (dp lk (n+1) 3 ⟨a,b,.start nm,cU⟩ σ):=by
 rcases e with rfl|rfl|rfl;rw[dL lk n 3 _ (by simp) _ rfl (.eI 104) (by kernel_rfl)];exact sV h l (⟨rfl,d⟩);rw[dL lk n 3 _ (by simp) _ rfl (.eI 105) (by kernel_rfl)];exact DV h l (⟨rfl,d⟩);rw[dL lk n 3 _ (by simp) _ rfl (.eI 106) (by kernel_rfl)];exact DU h l (⟨rfl,d⟩)
def yk{rec:Nat->cR->M Unit}(h:RB c {σ with mode:=m} (rec m t {σ with mode:=m})):RB c σ ((fq m>>=λ_=>gh rec t>>=λ_=>(Pure.pure ():M Unit)) σ):=by
 have x:RB c _ ((gh rec t>>=λ_=>(Pure.pure ())) _):=RB.tail h;show RB c σ ((gh rec t>>=λ_=>(Pure.pure ())) _);revert x;cases(gh rec t>>=λ_=>(Pure.pure ())) _ with
 |ok u σ2=>rintro⟨e,l,d,q⟩;exact⟨e,l,⟨d.dk,d.nB,d.ox,d.mj,d.wt,d.wz,d.nm⟩,q⟩
 |stop c p=>exact λh=>h
 |stuck=>exact λh=>h
theorem iH.mode(h:iH σ)(m:Nat)(d:oj m=true):iH {σ with mode:=m}:=⟨h.iv.jo rfl rfl rfl rfl rfl rfl rfl,h.ne,d⟩
theorem Cu(lk:Bool)(n:Nat)(t:cR)(y:tA t)(h:iH σ)(F:Ir σ t)(d:wt σ<999000):RB 360 σ (dp lk (n+3) 6 t σ):=by
 obtain⟨a,b,k,cU⟩:=t;cases k with
 |lost=>exact absurd rfl y.nl
 |gz s=>
  have A:dT iA ⟨a,b,.gz s,cU⟩=.eI 114:=by
   unfold dT;dsimp only;split<;>rfl
  rw[dL lk (n+2) 6 _ y.nl iA rfl _ A];exact(LD h d y.sz).mono (by omega)
 |dl s=>
  rw[dL lk (n+2) 6 _ y.nl iA rfl (.dl 99 true) rfl];show RB 360 σ (tf 99 true _ σ);rw[xS];exact RB.mono (c:=1) ((FR h.iv gp (zN h.iv h.ne) _ d).rb h.ne h.md) (by omega)
 |dK s q=>
  rw[dL lk (n+2) 6 _ y.nl iA rfl .nothing rfl];exact(qc h.iv h.bms).mono (by omega)
 |dD=>
  rw[dL lk (n+2) 6 _ y.nl iA rfl .nothing rfl];exact(qc h.iv h.bms).mono (by omega)
 |start nm=>
  have l:lw σ ⟨a,b,.start nm,cU⟩:=F.tag rfl;cases hl:mf ij nm with
  |none=>
   have A:dT iA ⟨a,b,.start nm,cU⟩=.eI 116:=by
    show fh [((mf ij nm).getD .nil),_,_]=_;rw[hl];rfl
   rw[dL lk (n+2) 6 _ y.nl iA rfl _ A];exact(Mz h d l).mono (by omega)
  |some r=>
   obtain⟨p,z,u,e⟩:=uL hl;have A:r≠ .nil->dT iA ⟨a,b,.start nm,cU⟩=r:=by
    intro C;show fh [((mf ij nm).getD .nil),_,_]=_;rw[hl];cases r<;>first|rfl|grind
   have go:∀x,r=x->x≠ .nil->RB 360 σ (jD lk (dp true (n+2)) (dp lk (n+2)) x ⟨a,b,.start nm,cU⟩ σ)->RB 360 σ (dp lk (n+3) 6 ⟨a,b,.start nm,cU⟩ σ):=by
    intro x e1 e2 B;rw[dL lk (n+2) 6 _ y.nl iA rfl x (by grind)];exact B
   unfold ij at z;simp only[UQ,pW,pX]at z;rcases z with rfl|rfl|rfl|rfl|rfl|rfl|rfl|rfl|rfl|rfl|rfl|rfl|rfl|rfl|rfl|rfl|rfl|rfl|rfl|rfl|rfl
   all_goals refine go _ e.symm (by grind) ?_
   all_goals dsimp only at u
   all_goals first
    |exact(KL h d l).mono (by omega)
    |exact(Qh h d l (Ju u)).mono (by omega)
    |exact(Cc h d l (by rcases alC u with e|e<;>(show pB nm=true;rw[e];kernel_rfl))).mono (by omega)
    |exact(Qg h d l (Ju u)).mono (by omega)
    |exact(Ql h d l).mono (by omega)
    |exact(KO h d l).mono (by omega)
    |exact(KM h d l).mono (by omega)
    |exact(Fk h d l).mono (by omega)
    |exact(MC h d l).mono (by omega)
    |exact(KF h d l).mono (by omega)
    |exact(agP h d l _ (by kernel_rfl)).mono (by omega)
    |exact(Qe h d l (Ju u)).mono (by omega)
    |exact(Xj h d l).mono (by omega)
    |exact(Hc h d l).mono (by omega)
    |exact(Uf h d l).mono (by omega)
    |exact(Ms h d l).mono (by omega)
    |exact(qc h.iv h.bms).mono (by omega)
    |exact(Sq h l.fr).mono (by omega)
    |exact(Sn h l.fr).mono (by omega)
    |exact(Yn lk (n+1) a b nm cU (by have:=Pp u;grind) h l.fr d).mono (by omega)
    |skip
 |stop nm=>
  cases hl:mf iy nm with
  |none=>
   have A:dT iA ⟨a,b,.stop nm,cU⟩=.eI 118:=by
    show fh [((mf iy nm).getD .nil),_,_]=_;rw[hl];rfl
   rw[dL lk (n+2) 6 _ y.nl iA rfl _ A];have H:da [aG] nm=false:=JS hl ([aG],.eI 204) (by unfold iy;simp);exact(RX h (by
    show nm≠_;grind[alR,wZ])).mono (by omega)
  |some r=>
   obtain⟨p,z,u,e⟩:=uL hl;have A:r≠ .nil->dT iA ⟨a,b,.stop nm,cU⟩=r:=by
    intro C;show fh [((mf iy nm).getD .nil),_,_]=_;rw[hl];cases r<;>first|rfl|grind
   have go:∀x,r=x->x≠ .nil->RB 360 σ (jD lk (dp true (n+2)) (dp lk (n+2)) x ⟨a,b,.stop nm,cU⟩ σ)->RB 360 σ (dp lk (n+3) 6 ⟨a,b,.stop nm,cU⟩ σ):=by
    intro x e1 e2 B;rw[dL lk (n+2) 6 _ y.nl iA rfl x (by grind)];exact B
   unfold iy at z;simp only[UQ,pW,pX]at z;rcases z with rfl|rfl|rfl|rfl|rfl|rfl|rfl|rfl|rfl|rfl
   all_goals refine go _ e.symm (by grind) ?_
   all_goals dsimp only at u
   exact(Pc h).mono (by omega)
   .exact(Ex (t:=⟨a,b,.stop nm,cU⟩) h d u).mono (by omega)
   exact(VF h).mono (by omega);exact(RS h d).mono (by omega);exact(ags h d).mono (by omega);exact(VH h).mono (by omega);exact(LP h).mono (by omega);exact(RR h (by
    show nm≠_;rintro rfl;revert u;simp[da,ir,vN])).mono (by omega)
   .have D:=Ju u;subst D;show RB 360 σ (rn (dp lk (n+2)) ⟨a,b,.stop _,cU⟩ σ);unfold rn;split;refine yk ?_;rw[dL lk (n+1) 16 _ y.nl uy rfl (.eI 149) (by kernel_rfl)];exact⟨(h.mode 16 rfl).iv.jo rfl rfl rfl rfl rfl rfl rfl,⟨h.ne,.inl rfl⟩,⟨rfl,rfl,rfl,rfl,afv _,λ_ h=> .inl h,λ_ _ h=>h⟩,fK (Zl (fj rfl)) (tP _ _)⟩;exact(qc h.iv h.bms).mono (by omega)
   exact(VC h).mono (by omega)
theorem agW{l:List Ru}{R:List (List O×Ru)}{lk:Bool}(d:t.k≠ .lost)(hs:tV[m]?=some sp)(e:dT sp t=fh ((mf R nm).getD .nil::l))(u:∀p∈R,p.2≠ .nil)(h:RB c σ (jD lk (dp true n) (dp lk n) (fh l) t σ))(q:∀p∈R,da p.1 nm=true->RB c σ (jD lk (dp true n) (dp lk n) p.2 t σ)):RB c σ (dp lk (n+1) m t σ):=by
 cases hl:mf R nm with
 |none=>
  rw[dL lk n m t d sp hs (fh l) (by rw[e,hl];rfl)];exact h
 |some r=>
  obtain⟨p,y,x,rfl⟩:=uL hl;rw[dL lk n m t d sp hs p.2 (by
   rw[e,hl];cases hq:p.2<;>first|rfl|grind)]
  grind
def aem{lk:Bool}(hl:t.k≠ .lost)(hs:tV[m]?=some sp)(d:RB c σ (jD lk (dp true n) (dp lk n) (dT sp t) t σ)):RB c σ (dp lk (n+1) m t σ):=by
 rw[dL lk n m t hl sp hs _ rfl];exact d
def Nc{rec:Nat->cR->M Unit}(h:iH σ)(y:∀σ',iH σ'->wt σ'=wt σ->σ'.fresh=σ.fresh->RB c σ' (rec 6 t σ')):RB c σ (oF rec t σ):=by
 have x:=RB.then (y {σ with dv:=true} ⟨h.iv.jo rfl rfl rfl rfl rfl rfl rfl,h.ne,h.md⟩ rfl rfl) (λσ=>{σ with dv:=false}) (λ_=>⟨rfl,rfl,rfl,rfl,rfl,rfl,rfl,rfl,rfl,rfl,rfl,rfl⟩);show RB c σ ((rec 6 t>>=λ_=>rO _>>=λ_=>(Pure.pure ())) _);revert x;cases(rec 6 t>>=λ_=>rO _>>=λ_=>(Pure.pure ())) _ with
 |ok u σ2=>rintro⟨e,l,d,q⟩;exact⟨e,l,⟨d.dk,d.nB,d.ox,d.mj,d.wt,d.wz,d.nm⟩,q⟩
 |stop c p=>exact λh=>h
 |stuck=>exact λh=>h
def adu{d:M Unit}(h:iH σ)(e:RB c σ (d σ)):RB c σ (Bw d t σ):=by
 unfold Bw;split;exact e;exact(qc h.iv h.bms).mono (yQ _)
theorem xY{rec:Nat->cR->M Unit}(h:iH σ)(C:wt σ<999000)(ks:List O)(d:O)(m:Nat)(u:oj m=true)(x:∀σ',iH σ'->σ'.mode=m->wt σ'<=wt σ+1->σ'.fresh=σ.fresh->RB c σ' (rec m t σ')):RB (c+1) σ (oH rec ks d m t σ):=by
 refine RB.bind (vU h.iv _) (c2:=c+1) ?_ (by omega);rintro _ A y e H D;refine RB.bind (p5 y (e.ne h.ne) (by omega) d) (c2:=c) ?_ (by omega);rintro _ B z l I⟨j,q,F⟩;refine yk (x _ ⟨z.jo rfl rfl rfl rfl rfl rfl rfl,l.ne (e.ne h.ne),u⟩ rfl ?_ ?_);grind[wt];grind[qU.fresh]
def Dt{cU:iD}(h:σ.waiting.length<4096):jB ⟨a,b,.gz s,cU⟩ σ=.ok () (if rD s then σ else {σ with waiting:=σ.waiting++[(a,b,s)]}):=by
 unfold jB;simp only;cases rD s with
 |true=>rfl
 |false=>simp[h]
theorem IU{cU:iD}(h:iH σ)(hs:s.size<=100)(z:wt σ<999000)(q:σ.waiting.length<4000)(d:σ.mode=7\/σ.mode=11\/σ.mode=12):RB 360 σ (iZ (dp false (n+4)) ⟨a,b,.gz s,cU⟩ σ):=by
 unfold iZ;split
 .refine RB.mono (c:=0) ?_ (by omega);have e:dp false (n+4) 8 ⟨a,b,.gz s,cU⟩=jB ⟨a,b,.gz s,cU⟩:=dL false (n+3) 8 _ (by grind) iM rfl (.eI 130) (by
   unfold dT;dsimp only;split<;>rfl)
  show RB 0 σ ((dp false (n+4) 8 ⟨a,b,.gz s,cU⟩>>=λ_=>(Pure.pure ():M Unit)) _);rw[e];have u:jS {σ with kept:=σ.mode,mode:=8}:=h.iv.jo rfl rfl rfl rfl rfl rfl rfl;rw[M.cH,Dt (by grind)];cases rD s with
  |true=>exact⟨u,⟨h.ne,.inr (.inr ⟨rfl,d⟩)⟩,⟨rfl,rfl,rfl,rfl,afv _,λ_ h=> .inl h,λ_ _ h=>h⟩,Zl (fj rfl)⟩
  |false=>exact⟨h.iv.jo rfl rfl rfl rfl rfl rfl rfl,⟨h.ne,.inr (.inr ⟨rfl,d⟩)⟩,⟨rfl,rfl,rfl,rfl,by simp,λx A=>by
    grind,λ_ _ h=>h⟩,Zl (fj rfl)⟩
 refine RB.tail (Nc h ?_);intro σ' l w' y;exact Cu false (n+1) ⟨a,b,.gz s,cU⟩ ⟨hs,rfl,by grind⟩ l (λh=>by cases h) (by omega)
structure CX(L:Nat)(t:cR)(σ:N):Prop where
 tg:tA t
 h:iH σ
 hf:Ir σ t
 hw:wt σ<998000
 hwt:σ.waiting.length<4000
 hl:σ.cC.length<=L
def PL(L n:Nat):Prop:=∀t σ,CX L t σ->RB 370 σ (dp false n σ.mode t σ)
theorem PL.ahead{L:Nat}(l:PL L n)(c:CX (L+1) t σ){b:M Bool}(q:uW b):RB 370 σ (tD (dp false n) b t σ):=
 have⟨tg,h,hf,hw,hwt,hl⟩:=c
 ach q h (λσ' e x w' d y _=>l t σ' ⟨tg,e,(λu=>d.trans (hf u)),by omega,by grind,by omega⟩)
def X2(n a b:Nat)(nm:O)(cU:iD)(l:nm=dE\/nm=dF)(h:iH σ)(d:lw σ ⟨a,b,.start nm,cU⟩)(e:wt σ<999000):RB 1 σ (dp false (n+1) 12 ⟨a,b,.start nm,cU⟩ σ):=by
 rcases l with rfl|rfl;rw[dL _ n 12 _ (by simp) _ rfl (.eI 137) (by kernel_rfl)];exact yr h e d;rw[dL _ n 12 _ (by simp) _ rfl (.eI 137) (by kernel_rfl)];exact yr h e d
def aky(n a b:Nat)(nm:O)(cU:iD)(e:nm∈[dE,dF,dq])(h:iH σ)(l:lw σ ⟨a,b,.start nm,cU⟩)(y:wt σ<998900):RB 2 σ (dp false (n+2) 11 ⟨a,b,.start nm,cU⟩ σ):=by
 simp at e;have d:nm=(dE)\/nm=(dF)->RB 2 σ (oH _ [(cJ),(cF),(cM)] (dq) 12 _ σ):=λx=>
  xY h (by omega) _ _ 12 rfl (λσ' u z w' q=>X2 n a b nm cU x u ⟨rfl,q.trans l.fr⟩ (by omega))
 rcases e with rfl|rfl|rfl;rw[dL _ _ 11 _ (by simp) _ rfl (.mr _ _ 12) (by kernel_rfl)];exact d (.inl rfl);rw[dL _ _ 11 _ (by simp) _ rfl (.mr _ _ 12) (by kernel_rfl)];exact d (.inr rfl);rw[dL _ _ 11 _ (by simp) _ rfl (.rM [(cJ),(cF),(cM)] 12) (by kernel_rfl)];exact(Od h (by omega) l _ 12 rfl).mono (by omega)
def agG(h:jS σ)(d:σ.cC≠[]):∃l,mD σ=.ok l σ/\AB σ l:=by
 have⟨r,hr⟩:=h;have⟨q,e,rest,h1,h2,h3,h4⟩:=hr.first d;exact⟨_,by unfold mD;rw[h2];dsimp only;unfold eE;rw[h3],e,h3,dr _⟩
def aeS{L:Nat}(hP:PL L (k+5))(c:CX (L+1) t σ)(hm:m∈[7,9,10,11,12,13,14,15,16,17])(U:m=7->σ.mode=7\/σ.mode=11\/σ.mode=12)(h7:m=11\/m=12->RB 370 σ (dp false (k+5) 7 t σ))(K:m=15->RB 370 σ (dp false (k+5) 14 t σ)):RB 370 σ (dp false (k+6) m t σ):=by
 have Ah:=λ{b}=>hP.ahead c (b:=b);obtain⟨y,h,x,hw,X,hl⟩:=c;have d:wt σ<999000:=by omega
 have l:∀{c r},RB c σ r->c<=370->RB 370 σ r:=RB.mono;have B:RB 370 σ (dp false (k+5) 6 t σ):=l (Cu false (k+2) _ y h x d) (by omega);have B2:RB 370 σ (_:nh Unit):=l (yk (rec:=dp false (k+5)) (Cu false (k+2) _ y (h.mode 6 rfl) (λD=>x D) d)) (by omega);have a0:=l (qc h.iv h.bms) (by omega);have F:RB 370 σ (oF (dp false (k+5)) t σ):=l (Nc h (λσ' A w' z=>Cu false (k+2) _ y A (λD=>z.trans (x D)) (by omega))) (by omega);have En:=λ{b} (hb:uW b)=>l (agu hb h) (by omega);have I:=λ{pm} hq=>l ((FR h.iv pm hq t d).rb h.ne h.md) (by omega);have C1:∀{a b s cU},s.size<=100->m=7->RB 370 σ (iZ (dp false (k+5)) ⟨a,b,.gz s,cU⟩ σ):=λD e=>l (IU (n:=k+1) h D d X (U e)) (by omega);have H3:∀{a b nm cU},nm=eX->σ.fresh=true->RB 370 σ (dp false (k+5) 3 ⟨a,b,.start nm,cU⟩ σ):=λe x=>l (Yn false (k+4) _ _ _ _ (.inr (.inr e)) h x d) (by omega);have I1:∀{a b nm cU H u},nm∈[dE,dF,dq]->σ.fresh=true->RB 370 σ (oH (dp false (k+5)) H u 11 ⟨a,b,.start nm,cU⟩ σ):=λe x=>l (xY (c:=2) h d _ _ 11 rfl (λσ' A m' w' z=>aky (k+3) _ _ _ _ e A ⟨rfl,z.trans x⟩ (by omega))) (by omega);have I2:∀{a b nm cU H u},nm=dE\/nm=dF->σ.fresh=true->RB 370 σ (oH (dp false (k+5)) H u 12 ⟨a,b,.start nm,cU⟩ σ):=λe x=>l (xY (c:=1) h d _ _ 12 rfl (λσ' A m' w' z=>X2 (k+4) _ _ _ _ e A ⟨rfl,z.trans x⟩ (by omega))) (by omega);have I3:∀{a b nm cU H u},nm=dz->σ.fresh=true->RB 370 σ (oH (dp false (k+5)) H u 10 ⟨a,b,.start nm,cU⟩ σ):=λe x=>l (xY (c:=1) h d _ _ 10 rfl (λσ' A m' w' z=>by
  rw[e,dL false (k+4) 10 _ (by simp) pr rfl (.eI 104) (by kernel_rfl)];exact sV A (by omega) ⟨rfl,z.trans x⟩)) (by omega)
 obtain⟨a,b,kk,cU⟩:=t;simp only[UQ,pW,pX]at hm;rcases hm with rfl|rfl|rfl|rfl|rfl|rfl|rfl|rfl|rfl|rfl
 all_goals cases kk
 all_goals first
  |exact absurd rfl y.nl
  |refine agW y.nl rfl rfl (by simp) ?_ ?_
  |refine aem y.nl rfl ?_
 all_goals generalize dp false (k+5)=rec at *
 all_goals try (unfold dT;dsimp only)
 all_goals try split
 all_goals try (simp only[List.forall_mem_cons,pW,false_implies,implies_true,and_true];and_intros)
 all_goals try intro C
 all_goals try have q:=x.tag rfl
 all_goals try exact a0
 all_goals try exact B
 all_goals try refine Ah ?_
 all_goals try refine En ?_
 all_goals try refine adu h (Ah ?_)
 all_goals try refine adu h (En ?_)
 all_goals try exact h7 (by simp)
 all_goals try exact K rfl
 all_goals try exact F
 all_goals try exact C1 y.sz rfl
 all_goals try exact I (zN h.iv h.ne)
 all_goals try exact I (O5 h.iv)
 all_goals try exact I (agG h.iv h.ne)
 all_goals try exact l (AV h d y.sz) (by omega)
 all_goals try exact l (GL h d y.sz) (by omega)
 all_goals try first
  |exact VL
  |exact O8
  |exact Et
  |exact Je
  |exact ac1
  |exact Z5
  |exact RY
 all_goals try exact I1 (Pp C) q.fr
 all_goals try exact I2 (alC C) q.fr
 all_goals try exact I3 (Ju C) q.fr
 all_goals try exact l (Od h d q _ _ rfl) (by omega)
 all_goals try exact H3 (Ju C) q.fr
 show RB 370 σ ((if xm _ then ft rec _ else stuck:M Unit) σ);rw[dd y.sm];unfold ft;split;exact l (RB.tail (sV h d q)) (by omega);exact RB.tail F;exact l (AK h d q (Ju C)) (by omega);exact l (G1 h d q) (by omega);exact l (sV h d q) (by omega);exact l (yr h d q) (by omega);exact l (Cd h d q) (by omega);exact l (wG h d q) (by omega);exact l (yt h d q) (by omega);exact l (zo h) (by omega);exact l (xX h) (by omega)
 iterate 3 exact B2
 exact l (c:=0) ⟨h.iv.jo rfl rfl rfl rfl rfl rfl rfl,⟨h.ne,.inl rfl⟩,⟨rfl,rfl,rfl,rfl,afv _,λ_ h=> .inl h,λ_ _ h=>h⟩,Zl (fj rfl)⟩ (by omega)
 all_goals exact B2
def FL(h:oj m=true):m=6\/m∈[7,9,10,11,12,13,14,15,16,17]:=by
 unfold oj at h;simp at h|-;omega
theorem Is:∀(L n:Nat),4*L+8<=n->PL L n
 |0,n,_=>by
  intro t σ c;exact absurd (List.length_eq_zero_iff.1 (by have:=c.hl;omega)) c.h.ne
 |L+1,n,hn=>by
  intro t σ c;obtain⟨k,rfl⟩:∃k,n=k+7:=⟨n-7,by omega⟩;have d:PL L (k+5):=Is L _ (by omega);have S:=λm q l=>aeS (m:=m) d c q l;rcases FL c.h.md with e|e;grind[RB.mono,Cu,CX.tg,CX.h,CX.hf,CX.hw];refine aeS (Is L (k+1+5) (by omega)) c e (λh=> .inl h) (λh=>S 7 (by simp) (λ_=> .inr h) (λh=>by grind) (λh=>by cases h)) (λ_=>S 14 (by simp) (λh=>by cases h) (λh=>by grind) (λh=>by cases h))
def HS(m:Nat)(o:gZ)(e:eG):Prop:=
 (m<=1/\o=[]/\e=none)\/(m=2/\∃h,o=[some h])\/(m=3/\∃h d,o=[some h,some d]/\e=some d)\/(m=4/\∃h d,o=[some h]/\e=some d)\/(oj m=true/\o≠[])
def B3(σ:N):Prop:=(∃d,dW σ d bZ)/\∃b,dW σ b aZ
def BH(σ:N):Prop:=6<=σ.mode\/σ.mode=5/\6<=σ.kept->B3 σ
def B3.of(h:B3 σ)(nm:∀i s,dW σ i s->dW σ' i s):B3 σ':=⟨h.1.imp λ_=>nm _ _,h.2.imp λ_=>nm _ _⟩
def BH.of(h:BH σ)(e:σ'.mode=σ.mode)(d:σ'.kept=σ.kept)(nm:∀i s,dW σ i s->dW σ' i s):BH σ':=λq=>(h (by omega)).of nm
theorem BH.low(h:σ.mode<=4):BH σ:=λq=>by omega
def MS0(σ:N):Prop:=HS σ.mode σ.cC σ.head\/(σ.mode=5/\3<=σ.kept/\2<=σ.cC.length/\HS σ.kept σ.cC.dropLast σ.head)\/(σ.mode=8/\(σ.kept=7\/σ.kept=11\/σ.kept=12)/\σ.cC≠[])
def MS(σ:N):Prop:=MS0 σ/\BH σ
def RG(c:Nat)(σ:N)(r:nh Unit):Prop:=match r with
 | .ok _ σ'=>jS σ'/\MS σ'/\Lm σ σ'/\wt σ'<=wt σ+c
 | .stop _ p=>p=σ.dk
 | .stuck=>False
theorem RG.mono{c':Nat}{r:nh Unit}(h:RG c σ r)(d:c<=c'):RG c' σ r:=by
 cases r with
 |ok a σ'=>grind[RG]
 |stop e p=>exact h
 |stuck=>exact h
def Ct(h:oj m=true):6<=m:=by have:=FL h;simp at this;omega
theorem BMs.ms(h:BMs σ)(u:B3 σ):MS σ:=by
 refine⟨?_,λ_=>u⟩;rcases h.sh with d|⟨d,l,q⟩|⟨d,l⟩;exact .inl (.inr (.inr (.inr (.inr ⟨d,h.ne⟩))));refine .inr (.inl ⟨d,?_,q,.inr (.inr (.inr (.inr ⟨l,?_⟩)))⟩);have:=Ct l;omega;intro e;have:=oX List.length e;grind;exact .inr (.inr ⟨d,l,h.ne⟩)
def RB.rg{r:nh Unit}(h:RB c σ r)(d:B3 σ):RG c σ r:=by
 cases r with
 |ok a σ'=>exact⟨h.1,h.2.1.ms (d.of h.2.2.1.nm),h.2.2.1,h.2.2.2⟩
 |stop e p=>exact h
 |stuck=>exact h
def fk.rg{r:nh Unit}{Q:Unit->N->Prop}(h:fk c σ r Q)(d:MS σ)(l:∀σ',Q () σ'->σ'.cC=σ.cC):RG c σ r:=by
 cases r with
 |ok a σ'=>
  have⟨h1,h2,h3,h4⟩:=h;refine⟨h1,⟨?_,d.2.of h2.mode h2.kept h2.nm⟩,h2.lm,h3⟩;unfold MS0;rw[h2.mode,h2.kept,h2.head,l σ' h4];exact d.1
 |stop e p=>exact h
 |stuck=>exact h
theorem po(h:jS σ)(d:MS σ):RG 0 σ ((Pure.pure ():M Unit) σ):=⟨h,d,lm0 σ,dr _⟩
theorem RG.tail{m:M Unit}(h:RG c σ (m σ)):RG c σ ((m>>=λ_=>(Pure.pure ():M Unit)) σ):=by
 rw[M.cH];revert h;cases m σ<;>exact λh=>h
def RG.from{c1 c2:Nat}{σ1:N}{r:nh Unit}(h:RG c1 σ1 r)(hl:Lm σ σ1)(y:σ1.waiting.length<=σ.waiting.length)(l:∀x∈σ1.waiting,x∈σ.waiting)(u:wt σ1<=wt σ+c2)(hs:c1+c2<=c):RG c σ r:=by
 cases r with
 |ok a σ'=>
  have⟨h1,h2,h3,h4⟩:=h;exact⟨h1,h2,⟨h3.dk.trans hl.dk,h3.nB.trans hl.nB,h3.ox.trans hl.ox,h3.mj.trans hl.mj,by have:=h3.wt;omega,λx d=>(h3.wz x d).imp (l x) id,λi s q=>h3.nm i s (hl.nm i s q)⟩,by omega⟩
 |stop e p=>exact UR h hl.dk
 |stuck=>exact h
theorem LU(h:jS σ)(l:σ.cC≠[])(t:cR)(x:σ.fresh=true)(q:MS σ):RG 0 σ (jm t σ):=by
 have z:∀(cU:iD)(i:Nat)(σ:N),∀σ',lK i cU σ=.ok () σ'->σ'.cC=σ.cC:=by
  intro cU i
  induction cU with
  |nil=>intro σ σ' e;cases e;rfl
  |cons a r ih=>
   intro σ σ' e;rw[Nj]at e;split at e;cases e;split at e;grind;split at e;cases e;have:=ih _ σ' e;exact this
 have d:=Df h l t x;cases hq:jm t σ with
 |ok u σ'=>
  rw[hq]at d;have⟨g1,g2,g3,_⟩:=d;refine⟨g1,⟨?_,q.2.of g2.mode g2.kept g2.nm⟩,g2.lm,g3⟩;have y:σ'.cC=σ.cC:=by
   unfold jm at hq;split at hq
   .rename_i i hi;rw[M.cH]at hq;cases hg:qE i t σ with
    |ok u2 σ2=>
     rw[hg]at hq;cases hq<;>grind[qE]
    |stop c p=>grind
    |stuck=>grind
   cases hq
  unfold MS0;rw[g2.mode,g2.kept,g2.head,y];exact q.1
 |stop c p=>rwa [hq]at d
 |stuck=>rw[hq]at d;exact d.elim
theorem Pr(n a b:Nat)(cU:iD)(h:jS σ)(d:σ.cC≠[])(e:σ.fresh=true)(l:MS σ):RG 0 σ (dp false (n+1) 6 ⟨a,b,.start aG,cU⟩ σ):=by
 rw[dL _ n 6 _ (by grind) _ rfl (.eI 185) (by kernel_rfl)];exact LU h d _ e l
def ae9(hi:jS σ)(d:σ.cC≠[])(l:σ.mode=6)(A:tA t)(x:Ir σ t)(z:wt σ<998000)(e:σ.waiting.length<4000)(y:4*64+8<=n)(u:370<=c)(q:B3 σ):RG c σ (dp false n 6 t σ):=by
 have h:=Is 64 n y t σ ⟨A,⟨hi,d,by rw[l];rfl⟩,x,z,e,(by have⟨r,hr⟩:=hi;exact fK hr.vu hr.MW)⟩;rw[l]at h;exact(h.rg q).mono u
theorem JC(h:jS σ)(l:σ.cC≠[])(D:wt σ<998000)(s:O)(m:Nat){rec:Nat->cR->M Unit}(A:∀σ',jS σ'->Fx σ {σ' with mode:=σ.mode}->σ'.mode=m->wt σ'<=wt σ+1->σ'.fresh=σ.fresh->(∃j,dW σ' j s)->RG c σ' (rec m t σ')):RG (c+1) σ ((fF s>>=λ_=>fq m>>=λ_=>gh rec t>>=λ_=>(Pure.pure ():M Unit)) σ):=by
 have y:=p5 h l (by omega) s;rw[M.cH];revert y;cases fF s σ with
 |ok u σ1=>
  rintro⟨B,d,x,j,q,C⟩;have z:=RG.tail (A {σ1 with mode:=m} (B.jo rfl rfl rfl rfl rfl rfl rfl) (by
   have e:({({σ1 with mode:=m})with mode:=σ.mode})=σ1:=by rw[<-d.mode]
   grind) rfl x C ⟨j,q.nm⟩)
  exact RG.from z ⟨d.dk,d.nB,d.ox,d.mj,by grind[Fx.waiting],by grind[Fx.waiting],d.nm⟩ (by grind[Fx.waiting]) (by grind[Fx.waiting]) x (dr _)
 |stop c p=>exact λh=>h
 |stuck=>simp[fk]
theorem vg(h:jS σ)(u:M (Nat×Nat))(l:∃e,u σ=.ok e σ/\AB σ e)(t:cR)(x:wt σ<999000)(d:MS σ):RG 1 σ (ja u t σ):=by
 have⟨a,b,k,cU⟩:=t;cases k with
 |dl s=>
  have⟨e,h1,h2⟩:=l;show RG 1 σ ((u>>=λe=>lj e _ .cm>>=λ_=>(Pure.pure ())) σ);rw[M.cH,h1];exact RG.tail ((E9 h h2 _ .cm (.inl ⟨s,rfl,rfl⟩) (by omega)).rg d (λ_ q=>q.cC))
 |gz s=>exact(po h d).mono (by omega)
 |start s=>exact(po h d).mono (by omega)
 |stop s=>exact(po h d).mono (by omega)
 |dK s q=>exact(po h d).mono (by omega)
 |lost=>exact(po h d).mono (by omega)
 |dD=>exact(po h d).mono (by omega)
theorem Ik{R:List (List O×Ru)}(d:sp.start=some R)(u:∀p∈R,p.2≠ .nil)(l:fh [sp.fX,sp.dy]=o){lk:Bool}{cU:iD}(hs:tV[m]?=some sp)(q:∀p∈R,da p.1 nm=true->P (jD lk (dp true n) (dp lk n) p.2 ⟨a,b,.start nm,cU⟩ σ))(h:P (jD lk (dp true n) (dp lk n) o ⟨a,b,.start nm,cU⟩ σ)):P (dp lk (n+1) m ⟨a,b,.start nm,cU⟩ σ):=by
 have e:dT sp ⟨a,b,.start nm,cU⟩=fh [((mf R nm).getD .nil),sp.fX,sp.dy]:=by
  show fh _=_;rw[d];rfl
 cases hl:mf R nm with
 |none=>
  rw[dL lk n m _ (by simp) sp hs o (by rw[e,hl,<-l];rfl)];exact h
 |some r=>
  obtain⟨p,y,x,rfl⟩:=uL hl;rw[dL lk n m _ (by simp) sp hs p.2 (by
   grind[fh])]
  grind
theorem Qm{R:List (List O×Ru)}(d:sp.stop=some R)(u:∀p∈R,p.2≠ .nil)(l:fh [sp.ik,sp.dy]=o){lk:Bool}{cU:iD}(hs:tV[m]?=some sp)(q:∀p∈R,da p.1 nm=true->P (jD lk (dp true n) (dp lk n) p.2 ⟨a,b,.stop nm,cU⟩ σ))(h:P (jD lk (dp true n) (dp lk n) o ⟨a,b,.stop nm,cU⟩ σ)):P (dp lk (n+1) m ⟨a,b,.stop nm,cU⟩ σ):=by
 have e:dT sp ⟨a,b,.stop nm,cU⟩=fh [((mf R nm).getD .nil),sp.ik,sp.dy]:=by
  show fh _=_;rw[d];rfl
 cases hl:mf R nm with
 |none=>
  rw[dL lk n m _ (by simp) sp hs o (by rw[e,hl,<-l];rfl)];exact h
 |some r=>
  obtain⟨p,y,x,rfl⟩:=uL hl;rw[dL lk n m _ (by simp) sp hs p.2 (by
   grind[fh])]
  grind
theorem Bl{d:Ru}(l:fh [sp.blank,sp.gz,sp.dy]=d)(q:fh [sp.gz,sp.dy]=o){lk:Bool}{cU:iD}(hs:tV[m]?=some sp)(e:P (jD lk (dp true n) (dp lk n) d ⟨a,b,.gz s,cU⟩ σ))(h:P (jD lk (dp true n) (dp lk n) o ⟨a,b,.gz s,cU⟩ σ)):P (dp lk (n+1) m ⟨a,b,.gz s,cU⟩ σ):=by
 cases hk:jn s with
 |true=>
  rw[dL lk n m _ (by simp) sp hs d (by
   grind[dT])]
  exact e
 |false=>
  rw[dL lk n m _ (by simp) sp hs o (by
   grind[dT])]
  exact h
def iP{r:Ru}{lk:Bool}(hl:t.k≠ .lost)(hs:tV[m]?=some sp)(e:dT sp t=r)(d:P (jD lk (dp true n) (dp lk n) r t σ)):P (dp lk (n+1) m t σ):=by
 rw[dL lk n m t hl sp hs r e];exact d
structure In4(σ:N):Prop where
 iv:jS σ
 md:σ.mode=4
 sh:∃h d,σ.cC=[some h]/\σ.head=some d
theorem In4.ms(h:In4 σ):MS σ:=by
 have⟨x,d,h1,h2⟩:=h.sh;exact⟨.inl (.inr (.inr (.inr (.inl ⟨h.md,x,d,h1,h2⟩)))),BH.low (by grind[md])⟩
theorem In4.ne(h:In4 σ):σ.cC≠[]:=by grind[sh]
def Jy(h:In4 σ)(F:tA t)(u:Ir σ t)(H:wt σ<997000)(l:σ.waiting.length<4000)(z:4*64+8<=n):RG 371 σ (kN (dp false n) t σ):=by
 refine JC h.iv h.ne (by omega) _ 6 ?_;intro σ' B e C w' D y;have q:B3 σ':=by
  have⟨x,d,_,hd⟩:=h.sh;have⟨r,hr⟩:=h.iv;exact⟨⟨d,e.nm _ _ (hr.head d hd)⟩,y⟩
 exact ae9 B (e.ne h.ne) C F (λA=>D.trans (u A)) (by omega) (by have:=e.waiting;rw[this];exact l) z (dr _) q
theorem Gn(hi:jS σ)(h:σ.cC≠[])(l:lw σ t)(b:Bool)(A:wt σ<998000):match jV t b σ with
 | .ok _ σ'=>jS σ'/\Lm σ σ'/\wt σ'<=wt σ+1/\σ'.mode=5/\σ'.kept=σ.mode/\(∃j,σ'.cC=σ.cC++[some j]/\σ.nodes.length<=j)/\σ'.head=σ.head/\(∀i s,dW σ i s->dW σ' i s)
 | .stop _ p=>p=σ.dk
 | .stuck=>False:=by
 have x:=gm hi h (by omega) t l.tag l.fr;have e:jV t b σ=(dZ t>>=λ_=>Aj _ b>>=λ_=>rO _>>=λ_=>fq 5>>=λ_=>(Pure.pure ())) σ:=rfl;rw[e,M.cH];revert x;cases dZ t σ with
 |ok u σ1=>
  rintro⟨y,d,z,j,q⟩;exact⟨y.jo rfl rfl rfl rfl rfl rfl rfl,⟨d.dk,d.nB,d.ox,d.mj,by grind[Fx.waiting],by grind[Fx.waiting],d.nm⟩,z,rfl,d.mode,⟨j,q.cC,q.new⟩,d.head,d.nm⟩
 |stop c p=>simp[fk]
 |stuck=>simp[fk]
theorem Lx{cU:iD}(h:In4 σ)(a1:nm=dR\/nm=fM\/nm=eX)(hf:σ.fresh=true)(hw:wt σ<997000):RG 2 σ (nA (dp false (n+1)) ⟨a,b,.start nm,cU⟩ σ):=by
 have⟨x,d,ho,hd⟩:=h.sh;have⟨r,hr⟩:=h.iv;have I:=hr.head d hd;have⟨ed,hed,hedn⟩:=id I;have a3:r x<r d:=hr.qK.hd d x hd (by grind);unfold nA;rw[M.cH];have e1:pushHead σ=kA (some d) σ:=by unfold pushHead;rw[hd]
 rw[e1];unfold kA;by_cases hl:σ.nB<=σ.cC.length;grind[RG]
 .rw[cZ hl,dd (show σ.jw (some d)=true by grind[N.jw])];dsimp only;have⟨g1,g2⟩:=hr.push hed (by
   grind[rk]) (by omega) (.inl h.ne)
  obtain⟨l,y⟩:∃l,l=({σ with cC:=σ.cC++[some d]}:N):=⟨_,rfl⟩;rw[<-y]at g1 g2|-;have i1:jS l:=⟨r,g1⟩;have o1:l.cC=[some x,some d]:=by rw[y];show σ.cC++[some d]=_;rw[ho];rfl
  have U:l.cC≠[]:=by rw[o1];simp
  have w1:wt l=wt σ:=by rw[y];rfl
  have H:l.fresh=true:=by rw[y];exact hf
  have a2:l.mode=4:=g2.mode.trans h.md;have C:l.head=some d:=g2.head.trans hd;have xd:x≠d:=by rintro rfl;omega
  have ht:lw l ⟨a,b,.start nm,cU⟩:=⟨rfl,H⟩;have F:∀e,jS e->Lm l e->wt e<=wt l+1->e.head=some d->dW e d bZ->MS {e with cC:=e.cC.erase (some d)}->RG 2 σ ((iW>>=λ_=>(Pure.pure ():M Unit)) e):=by
   intro e i2 D w2 h2 n2 m2;have e2:iW e=fB (some d) e:=by unfold iW;rw[h2]
   have z:=BJ i2 n2 (by simp);rw[M.cH,e2];have e3:fB (some d) e=.ok () {e with cC:=e.cC.erase (some d)}:=J4 (jF n2);rw[e3]at z|-;have⟨K,k4,k5,k6⟩:=z;refine⟨K,m2,⟨D.dk.trans g2.dk,D.nB.trans g2.nB,D.ox.trans g2.ox,D.mj.trans g2.mj,?_,by have:=D.wz;grind,λi s q=>D.nm i s (g2.nm i s q)⟩,?_⟩;show e.waiting.length<=_;have:=D.wt;grind;omega
  have A:dW l d bZ:=g2.nm _ _ I;have a0:([some x,some d]:gZ).erase (some d)=[some x]:=by
   rw[yz (by grind),XC]
  have B:∀X,RG 2 σ (((jV ⟨a,b,.start nm,cU⟩ X>>=λ_=>(Pure.pure ():M Unit))>>=λ_=>iW>>=λ_=>(Pure.pure ():M Unit)) l):=by
   intro X;have k:=Gn i1 U ht X (by omega);rw[M.cH,M.cH];revert k;cases jV ⟨a,b,.start nm,cU⟩ X l with
   |ok u e=>
    rintro⟨k1,z,K,k4,k5,⟨j,k6,k7⟩,k8,k9⟩;refine F e k1 z K (k8.trans C) (k9 _ _ A) ?_;have hj:j≠d:=by
     have:=N.dm hed;have e4:l.nodes.length=σ.nodes.length:=by rw[y]
     omega
    have he:e.cC.erase (some d)=[some x,some j]:=by
     rw[k6,o1];show([some x,some d,some j]:gZ).erase (some d)=_;rw[yz (by grind),XC]
    refine⟨.inr (.inl ⟨k4,?_,?_,?_⟩),λq=>?_⟩;grind;grind
    all_goals grind[HS]
   |stop c p=>exact λh=>UR h g2.dk
   |stuck=>simp
  rcases a1 with rfl|rfl|rfl
  .rw[dL false n 3 _ (by grind) iB rfl (.eI 104) (by kernel_rfl)];have k:=oI i1 U (by omega) ⟨a,b,.start dR,cU⟩ rfl H;show RG 2 σ ((gM ⟨a,b,.start dR,cU⟩>>=λ_=>iW>>=λ_=>(Pure.pure ():M Unit)) l);rw[M.cH];revert k;cases gM ⟨a,b,.start dR,cU⟩ l with
   |ok u e=>
    rintro⟨k1,z,K,k4,k5⟩;refine F e k1 z.lm K (z.head.trans C) (z.nm _ _ A) ?_;refine⟨.inl (.inr (.inr (.inr (.inl ⟨z.mode.trans a2,x,d,?_,z.head.trans C⟩)))),BH.low (by grind[Fx.mode])⟩;grind
   |stop c p=>exact λh=>UR h g2.dk
   |stuck=>simp[fk]
  rw[dL false n 3 _ (by grind) iB rfl (.eI 105) (by kernel_rfl)];exact B false;rw[dL false n 3 _ (by grind) iB rfl (.eI 106) (by kernel_rfl)];exact B true
theorem YW(U:4*64+8<=n)(t:cR)(l:tA t)(h:In4 σ)(z:Ir σ t)(I:wt σ<997000)(H:σ.waiting.length<4000):RG 372 σ (dp false (n+1) 4 t σ):=by
 obtain⟨k,rfl⟩:∃k,n=k+1:=⟨n-1,by omega⟩;have C:∀t,tA t->Ir σ t->RG 372 σ (kN (dp false (k+1)) t σ):=λt l z=>(Jy h l z I H U).mono (by omega);have F:RG 372 σ ((Pure.pure ():M Unit) σ):=(po h.iv h.ms).mono (by omega);have⟨a,b,kk,cU⟩:=t;cases kk with
 |lost=>exact absurd rfl l.nl
 |gz s=>
  refine Bl (sp:=kJ) (P:=RG 372 σ) rfl rfl rfl ?_ ?_;exact RG.mono (c:=s.size+1) ((mG h.iv h.ne _ (by grind[tA.sz])).rg h.ms (λ_ q=>q.cC)) (by have:=l.sz;have e:cR.chars ⟨a,b,.gz s,cU⟩=s:=rfl;grind);exact C _ l z
 |dl s=>
  refine iP l.nl (sp:=kJ) (P:=RG 372 σ) rfl rfl ?_;show RG 372 σ (tf 99 true _ σ);rw[xS];grind[RG.mono,vg,In4.iv,zN,In4.ne,In4.ms]
 |dK s q=>exact iP l.nl (sp:=kJ) (P:=RG 372 σ) rfl rfl F
 |dD=>exact iP l.nl (sp:=kJ) (P:=RG 372 σ) rfl rfl (C _ l z)
 |start nm=>
  have D:lw σ ⟨a,b,.start nm,cU⟩:=z.tag rfl;refine Ik (sp:=kJ) (P:=RG 372 σ) rfl (by simp) rfl rfl ?_ ?_
  .intro p A B;simp only[UQ,pW,pX]at A;rcases A with rfl|rfl|rfl|rfl
   all_goals dsimp only at B|-
   exact(Lx h (by have:=Pp B;grind) D.fr I).mono (by omega)
   .have e:=Ju B;subst e;show RG 372 σ (oe _ σ);unfold oe;have k1:=gm h.iv h.ne (by omega) ⟨a,b,.start aZ,cU⟩ D.tag D.fr;rw[M.cH];revert k1;cases dZ ⟨a,b,.start aZ,cU⟩ σ with
    |ok u σ1=>
     rintro⟨X,y,w1,j,q⟩;have K:B3 σ1:=by
      have⟨x,d,_,hd⟩:=h.sh;have⟨r,hr⟩:=h.iv;exact⟨⟨d,y.nm _ _ (hr.head d hd)⟩,j,q.nm⟩
     exact⟨X.jo rfl rfl rfl rfl rfl rfl rfl,⟨.inl (.inr (.inr (.inr (.inr ⟨rfl,y.ne h.ne⟩)))),λ_=>K⟩,⟨y.dk,y.nB,y.ox,y.mj,y.lm.wt,y.lm.wz,y.nm⟩,fK w1 (by omega)⟩
    |stop c p=>exact λh=>h
    |stuck=>simp[fk]
   have e:=Ju B;subst e;exact(Pr k a b cU h.iv h.ne D.fr h.ms).mono (by omega);exact F
  exact C _ l z
 |stop nm=>
  refine Qm (sp:=kJ) (P:=RG 372 σ) rfl (by simp) rfl rfl ?_ ?_;intro p A B;simp only[UQ,pW,pX]at A;subst A;exact C _ l z;exact F
structure UV(σ:N):Prop where
 iv:jS σ
 md:σ.mode=3
 sh:∃h d,σ.cC=[some h,some d]/\σ.head=some d
theorem UV.ms(h:UV σ):MS σ:=by
 have⟨x,d,h1,h2⟩:=h.sh;exact⟨.inl (.inr (.inr (.inl ⟨h.md,x,d,h1,h2⟩))),BH.low (by grind[md])⟩
theorem UV.ne(h:UV σ):σ.cC≠[]:=by grind[sh]
theorem UV.pop(h:UV σ):In4 {σ.pop with mode:=4}/\Lm σ {σ.pop with mode:=4}:=by
 have⟨x,d,h1,h2⟩:=h.sh;have⟨g1,g2⟩:=E5 h.iv (by grind);refine⟨⟨g1.jo rfl rfl rfl rfl rfl rfl rfl,rfl,x,d,?_,h2⟩,⟨rfl,rfl,rfl,rfl,afv _,λ_ h=> .inl h,λ_ _ h=>h⟩⟩;grind[N.pop]
theorem Gq(hi:jS σ)(d:σ.cC≠[])(l:lw σ t)(b:Bool)(x:wt σ<998000)(D:3<=σ.mode)(e:BH σ)(hs:HS σ.mode σ.cC σ.head):RG 1 σ ((jV t b>>=λ_=>(Pure.pure ():M Unit)) σ):=by
 refine RG.tail ?_;have k:=Gn hi d l b x;revert k;cases jV t b σ with
 |ok u σ2=>
  rintro⟨y,z,A,B,F,⟨j,H,I⟩,K,C⟩;refine⟨y,⟨.inr (.inl ⟨B,by omega,?_,?_⟩),λq=>(e (by omega)).of C⟩,z,A⟩
  all_goals grind[List.length_pos_iff]
 |stop c p=>exact λh=>h
 |stuck=>simp
def wx(h:jS σ)(d:σ.cC≠[])(e:MS σ)(hs:t.chars.size<=100)(l:wt σ<999000):RG 101 σ (gw t σ):=
 RG.mono ((mG h d t (by omega)).rg e (λ_ q=>q.cC)) (by omega)
theorem YV(I:4*64+8<=n)(t:cR)(l:tA t)(h:UV σ)(u:Ir σ t)(U:wt σ<997000)(H:σ.waiting.length<4000):RG 373 σ (dp false (n+2) 3 t σ):=by
 have⟨g4,gl⟩:=h.pop;have B:∀t,tA t->Ir σ t->RG 373 σ (iw (dp false (n+1)) t σ):=by
  intro t l u;have D:=RG.tail (YW I t l g4 (λK=>u K) U H);exact RG.from (c1:=372) (c2:=0) D gl (dr _) (λ_ h=>h) (Zl (fj rfl)) (by omega)
 have C:RG 373 σ ((Pure.pure ():M Unit) σ):=(po h.iv h.ms).mono (by omega);have y:HS σ.mode σ.cC σ.head:=by
  have⟨x,d,D,h2⟩:=h.sh;exact .inr (.inr (.inl ⟨h.md,x,d,D,h2⟩))
 have⟨a,b,kk,cU⟩:=t;cases kk with
 |lost=>exact absurd rfl l.nl
 |gz s=>
  refine Bl (sp:=iB) (P:=RG 373 σ) rfl rfl rfl ?_ ?_;exact(wx h.iv h.ne h.ms l.sz (by omega)).mono (by omega);exact B _ l u
 |dl s=>
  refine iP l.nl (sp:=iB) (P:=RG 373 σ) rfl rfl ?_;show RG 373 σ (tf 99 true _ σ);rw[xS];grind[RG.mono,vg,UV.iv,zN,UV.ne,UV.ms]
 |dK s q=>exact iP l.nl (sp:=iB) (P:=RG 373 σ) rfl rfl C
 |dD=>exact iP l.nl (sp:=iB) (P:=RG 373 σ) rfl rfl (B _ l u)
 |start nm=>
  have A:lw σ ⟨a,b,.start nm,cU⟩:=u.tag rfl;refine Ik (sp:=iB) (P:=RG 373 σ) rfl (by simp) rfl rfl ?_ ?_
  .intro p z F;simp only[UQ,pW,pX]at z;rcases z with rfl|rfl|rfl|rfl|rfl
   all_goals dsimp only at F|-
   exact(Gq h.iv h.ne A true (by omega) (by grind[UV.md]) h.ms.2 y).mono (by omega);exact(Gq h.iv h.ne A false (by omega) (by grind[UV.md]) h.ms.2 y).mono (by omega);exact RG.mono (c:=1) ((oI h.iv h.ne (by omega) _ A.tag A.fr).rg h.ms (λ_ q=>q.1)) (by omega);have e:=Ju F;subst e;exact(Pr n a b cU h.iv h.ne A.fr h.ms).mono (by omega);exact C
  exact B _ l u
 |stop nm=>
  refine Qm (sp:=iB) (P:=RG 373 σ) rfl (by simp) rfl rfl ?_ ?_;intro p z F;simp only[UQ,pW,pX]at z;rcases z with rfl|rfl;exact B _ l u;exact⟨g4.iv,g4.ms,gl,fK (Zl (fj rfl)) (tP _ _)⟩;exact C
structure Zn(σ:N):Prop where
 iv:jS σ
 md:σ.mode=2
 sh:∃h,σ.cC=[some h]
theorem Zn.ms(h:Zn σ):MS σ:=by
 have⟨x,h1⟩:=h.sh;exact⟨.inl (.inr (.inl ⟨h.md,x,h1⟩)),BH.low (by grind[md])⟩
theorem Zn.ne(h:Zn σ):σ.cC≠[]:=by grind[sh]
theorem eJ.ahO{r:Nat->Nat}(h:eJ r σ){d:Nat}(l:dW σ d bZ)(u:∀x,σ.cC.head?=some (some x)->r x<r d):eJ r {σ with head:=some d}:=
 ⟨⟨h.lY.up,h.lY.dn,h.lY.nd,h.lY.kd⟩,⟨h.qK.ff,h.qK.cC,by grind⟩,h.cC,h.act,λq e=>by cases e;exact l,h.form,h.Ln,h.vu,h.xN,h.MW,h.QQ,h.rU⟩
theorem Gk(h:Zn σ)(own:Bool)(cU:iD)(hf:own=true->σ.fresh=true)(hw:wt σ<998000){k:M Unit}(hk:∀σ',UV σ'->Lm σ σ'->σ'.waiting=σ.waiting->wt σ'<=wt σ+1->(own=false->σ'.fresh=σ.fresh)->RG c σ' (k σ')):RG (c+1) σ ((nW own cU>>=λ_=>k) σ):=by
 have⟨x,ho⟩:=h.sh;have⟨r,hr⟩:=h.iv;have⟨B,hB⟩:=wS r σ.nodes.length;have a2:x<σ.nodes.length:=hr.EW (by grind);have D:∀(z:iD)(C:Bool),(own=false->C=σ.fresh)->mL bZ own cU σ=.ok σ.nodes.length (σ.ny (.el {name:=bZ,di:=z,ff:=none,kids:=[]}) C)->RG (c+1) σ ((nW own cU>>=λ_=>k) σ):=by
  intro z C I he;have⟨g1,g2⟩:=hr.new bZ z C (B+1);obtain⟨l,y⟩:∃l,l=σ.ny (.el {name:=bZ,di:=z,ff:=none,kids:=[]}) C:=⟨_,rfl⟩;rw[<-y]at g1 g2 he;have F:l.db σ.nodes.length=some {name:=bZ,di:=z,ff:=none,kids:=[]}:=by rw[y];exact N.pc
  have o1:l.cC=σ.cC:=by rw[y];rfl
  have w1:wt l=wt σ:=by rw[y];exact D8 _ _ _
  have hh:=g1.ahO (d:=σ.nodes.length) ⟨_,F,rfl⟩ (by
   grind[vR])
  have U:some σ.nodes.length∉({l with head:=some σ.nodes.length}:N).cC:=by
   show some σ.nodes.length∉l.cC;rw[o1];intro hm;have:=hr.EW (i:=σ.nodes.length) hm;omega
  have K:=Nv (σ:={l with head:=some σ.nodes.length}) ⟨_,hh⟩ (j:=σ.nodes.length) F rfl rfl U (by grind) (by show wt l<_;omega);show RG (c+1) σ (((mL bZ own cU>>=λe=>rO (λσ=>{σ with head:=some e})>>=λ_=>fP e>>=λ_=>fq 3>>=λ_=>(Pure.pure ():M Unit))>>=λ_=>k) σ);rw[M.cH,M.cH,he];dsimp only;rw[M.cH];have hu:rO (λH:N=>{H with head:=some σ.nodes.length}) l=.ok () {l with head:=some σ.nodes.length}:=rfl;rw[hu];dsimp only;rw[M.cH];revert K;cases fP σ.nodes.length {l with head:=some σ.nodes.length} with
  |ok u σ2=>
   rintro⟨i2,A,w2,q2⟩;dsimp only;have i3:UV {σ2 with mode:=3}:=⟨i2.jo rfl rfl rfl rfl rfl rfl rfl,rfl,x,σ.nodes.length,by
    show σ2.cC=_;rw[q2.cC];grind,A.head⟩
   have a0:σ2.waiting=σ.waiting:=by rw[A.waiting];show l.waiting=_;rw[y];rfl
   have lq:Lm σ {σ2 with mode:=3}:=⟨A.dk.trans g2.dk,A.nB.trans g2.nB,A.ox.trans g2.ox,A.mj.trans g2.mj,by grind,by grind,λi s q=>A.nm i s (g2.nm i s q)⟩;have a1:wt σ2<=wt l+1:=w2;have h4:=hk {σ2 with mode:=3} i3 lq a0 (by grind[wt]) (λX=>by
    show σ2.fresh=_;rw[q2.fresh];show l.fresh=_;rw[y];exact I X)
   exact RG.from (c1:=c) (c2:=1) (σ1:={σ2 with mode:=3}) h4 lq (by grind) (by grind) (by grind[wt]) (dr _)
  |stop e p=>exact λh=>UR h g2.dk
  |stuck=>simp[fk]
 cases own with
 |true=>
  refine D cU false (λh=>by cases h) ?_;grind[mL]
 |false=>exact D [] σ.fresh (λ_=>rfl) rfl
theorem YU(D:4*64+8<=n)(t:cR)(d:tA t)(h:Zn σ)(l:Ir σ t)(I:wt σ<996000)(H:σ.waiting.length<4000):RG 374 σ (dp false (n+3) 2 t σ):=by
 have x:∀t,tA t->Ir σ t->RG 374 σ (lM (dp false (n+2)) t σ):=by
  intro t d l;refine Gk (c:=373) h false [] (λh=>by cases h) (by omega) ?_;intro σ' A K U w' B;have C:=YV D t d A (λF=>(B rfl).trans (l F)) (by omega) (by grind);refine RG.tail ?_;show RG 373 σ' (dp false (n+2) σ'.mode t σ');rw[A.md];exact C
 have y:RG 374 σ ((Pure.pure ():M Unit) σ):=(po h.iv h.ms).mono (by omega);have⟨a,b,kk,cU⟩:=t;cases kk with
 |lost=>exact absurd rfl d.nl
 |gz s=>
  refine Bl (sp:=jP) (P:=RG 374 σ) rfl rfl rfl ?_ ?_;exact y;exact x _ d l
 |dl s=>
  refine iP d.nl (sp:=jP) (P:=RG 374 σ) rfl rfl ?_;show RG 374 σ (tf 99 true _ σ);rw[xS];grind[RG.mono,vg,Zn.iv,zN,Zn.ne,Zn.ms]
 |dK s q=>exact iP d.nl (sp:=jP) (P:=RG 374 σ) rfl rfl y
 |dD=>exact iP d.nl (sp:=jP) (P:=RG 374 σ) rfl rfl (x _ d l)
 |start nm=>
  refine Ik (sp:=jP) (P:=RG 374 σ) rfl (by simp) rfl rfl ?_ ?_
  .intro p u z;simp only[UQ,pW,pX]at u;rcases u with rfl|rfl
   all_goals dsimp only at z|-
   refine RG.mono (c:=1) (Gk (c:=0) h true cU (λ_=>(l.tag rfl).fr) (by omega) (k:=(Pure.pure ():M Unit)) ?_) (by omega);grind[po,UV.iv,UV.ms];have e:=Ju z;subst e;exact(Pr (n+1) a b cU h.iv h.ne (l.tag rfl).fr h.ms).mono (by omega)
  exact x _ d l
 |stop nm=>
  refine Qm (sp:=jP) (P:=RG 374 σ) rfl (by simp) rfl rfl ?_ ?_;intro p u z;simp only[UQ,pW,pX]at u;subst u;exact x _ d l;exact y
structure XH(σ:N):Prop where
 iv:jS σ
 md:σ.mode<=1
 op:σ.cC=[]
 hd:σ.head=none
theorem XH.ms(h:XH σ):MS σ:=⟨.inl (.inl ⟨h.md,h.op,h.hd⟩),BH.low (by grind[md])⟩
theorem Gj(h:XH σ)(own:Bool)(cU:iD)(hf:own=true->σ.fresh=true)(hw:wt σ<998000){k:M Unit}(X:∀σ',Zn σ'->Lm σ σ'->σ'.waiting=σ.waiting->wt σ'<=wt σ+1->(own=false->σ'.fresh=σ.fresh)->RG c σ' (k σ')):RG (c+1) σ ((nU own cU>>=λ_=>k) σ):=by
 have⟨r,hr⟩:=h.iv;have⟨B,hB⟩:=wS r σ.nodes.length;have⟨e0,he0⟩:=Option.isSome_iff_exists.1 hr.rU;have A:=N.dm he0;have x:∀(q:iD)(u:Bool),(own=false->u=σ.fresh)->mL aG own cU σ=.ok σ.nodes.length (σ.ny (.el {name:=aG,di:=q,ff:=none,kids:=[]}) u)->RG (c+1) σ ((nU own cU>>=λ_=>k) σ):=by
  intro q u C I;have⟨g1,g2⟩:=hr.new aG q u (B+1);obtain⟨l,d⟩:∃l,l=σ.ny (.el {name:=aG,di:=q,ff:=none,kids:=[]}) u:=⟨_,rfl⟩;rw[<-d]at g1 g2 I;have z:l.db σ.nodes.length=some {name:=aG,di:=q,ff:=none,kids:=[]}:=by rw[d];exact N.pc
  have y:l.db 0=some e0:=by rw[d];show(σ.add _).db 0=_;rw[N.qo A];exact he0
  have w1:wt l=wt σ:=by rw[d];exact D8 _ _ _
  have o1:l.cC=[]:=by rw[d];exact h.op
  have U:vi l=.ok (0,e0.kids.length) l:=by unfold vi eE;rw[y]
  have⟨σ2,q1,q2,q3,q4,q5,q6,q7,q8,q9,q10⟩:=g1.put (pl:=(0,e0.kids.length)) ⟨e0,y,dr _⟩ z rfl (by
   grind[vR]) (by omega)
  have⟨e2,he2,hn2,_⟩:=q9 _ _ z;show RG (c+1) σ (((mL aG own cU>>=λe=>vi>>=λpl=>fY pl e>>=λ_=>kA (some e)>>=λ_=>fq 2>>=λ_=>(Pure.pure ():M Unit))>>=λ_=>k) σ);rw[M.cH,M.cH,I];dsimp only;rw[M.cH,U];dsimp only;rw[M.cH,q1];dsimp only;rw[M.cH];have o2:σ2.cC=[]:=q5.trans o1;have F:=g2.trans q3;unfold kA;by_cases hl:σ2.nB<=σ2.cC.length;rw[dd hl];exact F.dk;rw[cZ hl,dd (show σ2.jw (some σ.nodes.length)=true by grind[N.jw])];dsimp only;have⟨p1,p2⟩:=q2.push he2 (by grind) (by omega) (.inr ⟨hn2,by rw[F.head];exact h.hd⟩);have H:σ2.waiting=σ.waiting:=F.waiting;have i3:Zn {({σ2 with cC:=σ2.cC++[some σ.nodes.length]}:N)with mode:=2}:=⟨jS.jo ⟨_,p1⟩ rfl rfl rfl rfl rfl rfl rfl,rfl,σ.nodes.length,by grind⟩;have lq:Lm σ {({σ2 with cC:=σ2.cC++[some σ.nodes.length]}:N)with mode:=2}:=⟨F.dk,F.nB,F.ox,F.mj,by grind,by grind,F.nm⟩;have K:=X _ i3 lq H (by grind[wt]) (λD=>by
   show σ2.fresh=_;rw[q7,d];exact C D)
  exact RG.from (c1:=c) (c2:=1) K lq (by grind) (by grind) (by grind[wt]) (dr _)
 cases own with
 |true=>
  refine x cU false (λh=>by cases h) ?_;grind[mL]
 |false=>exact x [] σ.fresh (λ_=>rfl) rfl
theorem YT(A:4*64+8<=n)(t:cR)(d:tA t)(h:XH σ)(e:Ir σ t)(F:wt σ<995000)(D:σ.waiting.length<4000):RG 375 σ (dp false (n+4) 1 t σ):=by
 have u:∀t,tA t->Ir σ t->RG 375 σ (lL (dp false (n+3)) t σ):=by
  intro t d e;refine Gj (c:=374) h false [] (λh=>by cases h) (by omega) ?_;intro σ' y H I w' z;refine RG.tail ?_;show RG 374 σ' (dp false (n+3) σ'.mode t σ');rw[y.md];exact(YU A t d y (λC=>(z rfl).trans (e C)) (by omega) (by grind))
 have x:RG 375 σ ((Pure.pure ():M Unit) σ):=(po h.iv h.ms).mono (by omega);have⟨a,b,kk,cU⟩:=t;cases kk with
 |lost=>exact absurd rfl d.nl
 |gz s=>
  refine Bl (sp:=od) rfl rfl rfl (x) (u _ d e)
 |dl s=>
  refine iP d.nl (sp:=od) rfl rfl ?_;show RG 375 σ (tf 93 false _ σ);rw[RA];grind[RG.mono,vg,XH.iv,O5,XH.ms]
 |dK s q=>exact iP d.nl rfl rfl x
 |dD=>exact iP d.nl (sp:=od) rfl rfl (u _ d e)
 |start nm=>
  refine Ik rfl (by simp) rfl rfl ?_ (u _ d e);intro p l B;simp at l;subst l;refine RG.mono (c:=1) (Gj (c:=0) h true cU (λ_=>(e.tag rfl).fr) (by omega) ?_) (by omega);grind[po,Zn.iv,Zn.ms]
 |stop nm=>
  refine Qm rfl (by simp) rfl rfl ?_ (x);intro p l B;simp at l;subst l;exact u _ d e
def sL:jz:={blank:=.nothing,dl:=.dl 93 false,dK:=.eI 94,dy:=.eI 95}
theorem XH.q(h:XH σ)(q:Bool):XH {σ with fJ:=q,mode:=1}:=⟨h.iv.jo rfl rfl rfl rfl rfl rfl rfl,dr _,h.op,h.hd⟩
theorem ahL(D:4*64+8<=n)(t:cR)(d:tA t)(h:XH σ)(l:Ir σ t)(H:wt σ<995000)(y:σ.waiting.length<4000):RG 376 σ (dp false (n+5) 0 t σ):=by
 have x:∀t,tA t->Ir σ t->RG 376 σ (fV (dp false (n+4)) t σ):=by
  intro t d l;exact RG.from (c1:=375) (c2:=0) (RG.tail (YT D t d (h.q true) (λF=>l F) H y)) ⟨rfl,rfl,rfl,rfl,afv _,λ_ h=> .inl h,λ_ _ h=>h⟩ (dr _) (λ_ h=>h) (Zl (fj rfl)) (by omega)
 have⟨a,b,kk,cU⟩:=t;cases kk with
 |lost=>exact absurd rfl d.nl
 |gz s=>
  refine Bl (sp:=sL) rfl rfl rfl ?_ ?_;exact((po h.iv h.ms).mono (by omega));exact x _ d l
 |dl s=>
  refine iP d.nl (sp:=sL) rfl rfl ?_;show RG 376 σ (tf 93 false _ σ);rw[RA];grind[RG.mono,vg,XH.iv,O5,XH.ms]
 |dK s q=>
  have⟨z,h1,h2⟩:=O5 h.iv;have B:=E9 h.iv h2 (.dt s) .dt (.inr ⟨s,rfl,rfl⟩) (by omega);show RG 376 σ ((eE 0>>=λz=>lj z (.dt s) .dt>>=λ_=>(do rO _;fq 1;return ():M Unit)) σ);rw[M.cH,h1];dsimp only;rw[M.cH];revert B;cases lj z (.dt s) .dt σ with
  |ok u σ1=>
   rintro⟨I,e,U,K⟩;have C:XH σ1:=⟨I,by rw[e.mode];exact h.md,by rw[K.cC];exact h.op,by rw[e.head];exact h.hd⟩;have A:=C.q (q||!ir s aG);exact⟨A.iv,A.ms,⟨e.dk,e.nB,e.ox,e.mj,by grind[Fx.waiting],by grind[Fx.waiting],e.nm⟩,by grind[wt]⟩
  |stop c p=>exact λh=>h
  |stuck=>simp[fk]
 |dD=>exact iP d.nl (sp:=sL) rfl rfl (x _ d l)
 |start nm=>exact iP d.nl (sp:=sL) rfl rfl (x _ d l)
 |stop nm=>exact iP d.nl (sp:=sL) rfl rfl (x _ d l)
theorem U8(B:4*64+8<=n)(t:cR)(u:tA t)(hi:jS σ)(hs:HS σ.mode σ.cC σ.head)(y:BH σ)(q:Ir σ t)(C:wt σ<995000)(l:σ.waiting.length<4000):RG 380 σ (dp false (n+5) σ.mode t σ):=by
 rcases hs with⟨d,h,x⟩|⟨d,h⟩|⟨d,h⟩|⟨d,h⟩|⟨d,h⟩;have A:XH σ:=⟨hi,d,h,x⟩;rcases dH σ.mode 1 with z|z;grind[RG.mono,ahL];have e:σ.mode=1:=by omega
 grind[RG.mono,YT];rw[d];exact(YU (by omega) t u ⟨hi,d,h⟩ q (by omega) l).mono (by omega);rw[d];exact(YV (by omega) t u ⟨hi,d,h⟩ q (by omega) l).mono (by omega);rw[d];exact(YW (by omega) t u ⟨hi,d,h⟩ q (by omega) l).mono (by omega);exact((Is 64 (n+5) (by omega) t σ ⟨u,⟨hi,h,d⟩,q,by omega,l,(by have⟨r,hr⟩:=hi;exact fK hr.vu hr.MW)⟩).rg (y (.inl (Ct d)))).mono (by omega)
theorem ahM(B:4*64+8<=n)(t:cR)(d:tA t)(hi:jS σ)(y:σ.mode=5)(A:3<=σ.kept)(hl:2<=σ.cC.length)(hs:HS σ.kept σ.cC.dropLast σ.head)(x:BH σ)(D:Ir σ t)(C:wt σ<995000)(u:σ.waiting.length<4000):RG 380 σ (dp false (n+6) 5 t σ):=by
 have e:MS σ:=⟨.inr (.inl ⟨y,A,hl,hs⟩),x⟩;have mq:=λq=>(x (.inr ⟨y,by have q:6<=σ.kept\/σ.kept=5/\6<=σ.kept:=q;omega⟩)).of λ_ _ h=>h;have⟨g1,g2⟩:=E5 hi hl;have z:jS {σ.pop with mode:=σ.kept}:=g1.jo rfl rfl rfl rfl rfl rfl rfl;have lq:Lm σ {σ.pop with mode:=σ.kept}:=⟨rfl,rfl,rfl,rfl,afv _,λ_ h=> .inl h,λ_ _ h=>h⟩;have l:RG 380 σ (sQ σ):=⟨z,⟨.inl hs,mq⟩,lq,fK (Zl (fj rfl)) (tP _ _)⟩;have⟨a,b,kk,cU⟩:=t;cases kk with
 |lost=>exact absurd rfl d.nl
 |gz s=>
  refine Bl rfl rfl rfl ((wx hi (by grind) e d.sz (by omega)).mono (by omega)) ((wx hi (by grind) e d.sz (by omega)).mono (by omega))
 |dl s=>exact iP d.nl rfl rfl l
 |dK s q=>exact iP d.nl rfl rfl l
 |start nm=>exact iP d.nl rfl rfl l
 |stop nm=>exact iP d.nl rfl rfl l
 |dD=>
  exact RG.from (c2:=0) (RG.tail (U8 B _ d z hs mq (λh=>by cases h) C u)) lq (dr _) (λ_ h=>h) (Zl (fj rfl)) (by omega)
def QM(c:Nat)(σ:N)(r:nh Unit):Prop:=match r with
 | .ok _ σ'=>jS σ'/\σ'.cC≠[]/\σ'.mode=σ.mode/\σ'.kept=σ.kept/\σ'.dk=σ.dk/\σ'.nB=σ.nB/\σ'.ox=σ.ox/\σ'.mj=σ.mj/\σ'.fresh=σ.fresh/\wt σ'<=wt σ+c/\∀i s,dW σ i s->dW σ' i s
 | .stop _ p=>p=σ.dk
 | .stuck=>False
theorem QM.bind{c1 c2:Nat}{m k:M Unit}(h:QM c1 σ (m σ))(z:∀σ',jS σ'->σ'.cC≠[]->wt σ'<=wt σ+c1->QM c2 σ' (k σ'))(K:c1+c2<=c):QM c σ ((m>>=λ_=>k) σ):=by
 rw[M.cH];revert h;cases m σ with
 |ok u σ1=>
  rintro⟨l,x,A,B,C,D,F,H,I,d,q⟩;have y:=z σ1 l x d;dsimp only;revert y;cases k σ1 with
  |ok v σ2=>
   grind[QM]
  |stop e p=>grind[QM]
  |stuck=>simp[QM]
 |stop e p=>simp[QM]
 |stuck=>simp[QM]
def fk.kw{r:nh Unit}{Q:Unit->N->Prop}(h:fk c σ r Q)(d:σ.cC≠[])(l:∀σ',Q () σ'->σ'.fresh=σ.fresh):QM c σ r:=by
 cases r with
 |ok a σ'=>
  have⟨h1,f,h3,h4⟩:=h;exact⟨h1,f.ne d,f.mode,f.kept,f.dk,f.nB,f.ox,f.mj,l σ' h4,h3,f.nm⟩
 |stop e p=>exact h
 |stuck=>exact h
theorem IQ(h:jS σ)(d:σ.cC≠[])(hs:t.chars.size<=100)(e:wt σ<999000):fk 200 σ (iV t σ) (λ_ σ'=>σ'.fresh=σ.fresh):=by
 unfold iV;split;exact⟨h,Fx.refl _,tP _ _,rfl⟩;refine fk.bind (lB h d (by omega)) (c2:=101) ?_ (by omega);grind[fk.dP,fk.mono,mG,Fx.ne,Rest.fresh]
def LQ(h:jS σ)(l:σ.cC≠[])(x:Nat×Nat×O)(hs:x.2.2.size<=100)(y:wt σ<999000):QM 200 σ (oF (dp true (n+1)) (pA x) σ):=by
 have e:dp true _ 6 (pA x)=iV _:=dL true n 6 _ (by simp[pA]) _ rfl (.eI 114) (by
  unfold pA dT;dsimp only;split<;>rfl)
 have q:=IQ (σ:={σ with dv:=true}) (t:=pA x) (h.jo rfl rfl rfl rfl rfl rfl rfl) l hs y;show QM 200 σ ((dp true _ 6 _>>=λ_=>rO _>>=λ_=>(Pure.pure ())) _);rw[e,M.cH];revert q;cases iV _ _ with
 |ok u σ1=>
  rintro⟨z,d,B,A⟩;exact⟨z.jo rfl rfl rfl rfl rfl rfl rfl,d.ne l,d.mode,d.kept,d.dk,d.nB,d.ox,d.mj,A,B,d.nm⟩
 |stop c p=>exact λh=>h
 |stuck=>simp[fk]
theorem Dc:∀(xs:List (Nat×Nat×O)){σ:N},jS σ->σ.cC≠[]->(∀x∈xs,x.2.2.size<=100)->wt σ+200*xs.length<999000->QM (200*xs.length) σ (qD (dp true (n+1)) xs σ)
 |[],σ,h,hne,_,_=>⟨h,hne,rfl,rfl,rfl,rfl,rfl,rfl,rfl,tP _ _,by grind⟩
 |x::xs,σ,h,hne,hs,hw=>by
  simp at hw;refine QM.bind (LQ h hne x (hs x (Oo ..)) (by omega)) (c2:=200*xs.length) ?_ (by grind);intro σ' d l w';exact Dc xs d l (λy e=>hs y (io _ e)) (by omega)
theorem Dl:∀(xs:List (Nat×Nat×O)){σ:N},jS σ->σ.cC≠[]->(∀x∈xs,x.2.2.size<=100)->wt σ+200*xs.length<999000->QM (200*xs.length) σ (qF xs σ)
 |[],σ,h,hne,_,_=>⟨h,hne,rfl,rfl,rfl,rfl,rfl,rfl,rfl,tP _ _,by grind⟩
 |x::xs,σ,h,hne,hs,hw=>by
  simp at hw;have u:(pA x).chars.size<=100:=hs x (Oo ..);refine QM.bind (((mG h hne (pA x) (by omega)).mono (c':=200) (by omega) (λ_ _ _ _ h=>h)).kw hne (λ_ q=>q.fresh)) (c2:=200*xs.length) ?_ (by grind);intro σ' d l w';exact Dl xs d l (λy e=>hs y (io _ e)) (by omega)
theorem AP(h:jS σ)(d:σ.cC≠[])(hs:∀x∈σ.waiting,x.2.2.size<=100)(e:wt σ+200*σ.waiting.length<999000):QM (200*σ.waiting.length) σ (kh (dp true (n+1)) σ):=by
 grind[Dl,Dc,kh]
def AJ(σ:N):Nat:=wt σ+200*σ.waiting.length
structure rW(σ:N):Prop where
 iv:jS σ
 ms:MS σ
 wz:∀x∈σ.waiting,x.2.2.size<=100
def RT(c:Nat)(σ:N)(r:nh Unit):Prop:=match r with
 | .ok _ σ'=>rW σ'/\σ'.dk=σ.dk/\σ'.nB=σ.nB/\σ'.ox=σ.ox/\σ'.mj=σ.mj/\σ'.waiting.length<=σ.waiting.length+1/\AJ σ'<=AJ σ+c/\∀i s,dW σ i s->dW σ' i s
 | .stop _ p=>p=σ.dk
 | .stuck=>False
def RG.rt{r:nh Unit}(h:RG c σ r)(l:∀x∈σ.waiting,x.2.2.size<=100):RT (c+200) σ r:=by
 cases r with
 |ok a σ'=>
  have⟨h1,h2,h3,h4⟩:=h;refine⟨⟨h1,h2,λx d=>(h3.wz x d).elim (l x) id⟩,h3.dk,h3.nB,h3.ox,h3.mj,h3.wt,?_,h3.nm⟩;unfold AJ;have:=h3.wt;omega
 |stop e p=>exact h
 |stuck=>exact h
theorem ahN(hn:4*64+8<=n)(t:cR)(d:tA t)(g:rW σ)(hm:σ.mode=8)(H:σ.kept=7\/σ.kept=11\/σ.kept=12)(D:σ.cC≠[])(y:Ir σ t)(hw:AJ σ<990000)(aa:σ.waiting.length<4000):RT 580 σ (dp false (n+6) 8 t σ):=by
 have C:MS σ:=g.ms;have A:∀t,tA t->Ir σ t->RT 580 σ (gI (dp true (n+5)) (dp false (n+5)) t σ):=by
  intro t d y;have h1:=AP (n:=n+4) g.iv D g.wz (by grind[AJ]);unfold gI;rw[M.cH];revert h1;cases kh (dp true (n+4+1)) σ with
  |ok u σ1=>
   rintro⟨I,U,a3,X,F,a6,a7,a8,a9,K,B⟩;dsimp only;have i2:jS {σ1 with waiting:=[],mode:=σ1.kept}:=I.jo rfl rfl rfl rfl rfl rfl rfl;have hb:oj σ1.kept=true:=by rw[X];rcases H with e|e|e<;>(rw[e];rfl)
   have h2:=U8 hn t d (σ:={σ1 with waiting:=[],mode:=σ1.kept}) i2 (.inr (.inr (.inr (.inr ⟨hb,U⟩)))) (λ_=>(C.2 (.inl (by omega))).of B) (λhs=>a9.trans (y hs)) (by show wt σ1<_;grind[AJ]) (by simp);have h3:=RG.tail h2;show RT 580 σ ((gh (dp false (n+5)) t>>=λ_=>(Pure.pure ():M Unit)) {σ1 with waiting:=[],mode:=σ1.kept});have h4:RG 380 {σ1 with waiting:=[],mode:=σ1.kept} ((gh (dp false (n+5)) t>>=λ_=>(Pure.pure ():M Unit)) {σ1 with waiting:=[],mode:=σ1.kept}):=h3;revert h4;cases(gh (dp false (n+5)) t>>=λ_=>(Pure.pure ():M Unit)) {σ1 with waiting:=[],mode:=σ1.kept} with
   |ok v σ2=>
    rintro⟨b1,b2,l,b4⟩;have hl:σ2.waiting.length<=0+1:=l.wt;refine⟨⟨b1,b2,λx z=>(l.wz x z).elim (λh=>by cases h) id⟩,l.dk.trans F,l.nB.trans a6,l.ox.trans a7,l.mj.trans a8,by omega,?_,λi s q=>l.nm i s (B i s q)⟩;have a0:wt σ2<=wt σ1+380:=b4;grind[AJ]
   |stop c p=>exact λh=>UR h F
   |stuck=>simp[RG]
  |stop c p=>exact λh=>h
  |stuck=>simp[QM]
 have⟨a,b,kk,cU⟩:=t;cases kk with
 |lost=>exact absurd rfl d.nl
 |gz s=>
  have KC:RT 580 σ (jB ⟨a,b,.gz s,cU⟩ σ):=by
   rw[Dt (by omega)];cases rD s with
   |true=>grind[RT]
   |false=>
    refine⟨⟨g.iv.jo rfl rfl rfl rfl rfl rfl rfl,⟨.inr (.inr ⟨hm,H,D⟩),C.2⟩,?_⟩,rfl,rfl,rfl,rfl,by simp,?_,λ_ _ h=>h⟩;intro x z;rcases List.mem_append.1 (show x∈σ.waiting++[(a,b,s)]from z)with z|z;grind[rW.wz];rw[List.mem_singleton.1 z];exact d.sz;show wt σ+200*(σ.waiting++[(a,b,s)]).length<=_;grind[AJ]
  exact Bl (sp:=iM) (P:=RT 580 σ) rfl rfl rfl KC KC
 |dl s=>exact iP d.nl (sp:=iM) (P:=RT 580 σ) rfl rfl (A _ d y)
 |dK s q=>exact iP d.nl (sp:=iM) (P:=RT 580 σ) rfl rfl (A _ d y)
 |start nm=>exact iP d.nl (sp:=iM) (P:=RT 580 σ) rfl rfl (A _ d y)
 |stop nm=>exact iP d.nl (sp:=iM) (P:=RT 580 σ) rfl rfl (A _ d y)
 |dD=>exact iP d.nl (sp:=iM) (P:=RT 580 σ) rfl rfl (A _ d y)
abbrev rA:Nat:=300
theorem ajr(t:cR)(x:tA t)(g:rW σ)(u:Ir σ t)(z:AJ σ<990000)(d:σ.waiting.length<4000):RT 580 σ (dp false rA σ.mode t σ):=by
 have A:wt σ<990000:=by unfold AJ at z;omega
 rcases g.ms.1 with h|⟨e,l,q,y⟩|⟨e,l,q⟩;exact(U8 (by omega) t x g.iv h g.ms.2 u (by omega) d).rt g.wz;rw[e];exact(ahM (by omega) t x g.iv e l q y g.ms.2 u (by omega) d).rt g.wz;grind[ahN]
def RTk(σ:N)(t:cR)(r:nh Unit):Prop:=match r with
 | .ok _ σ'=>rW σ'/\σ'.nB=σ.nB/\σ'.ox=σ.ox/\σ'.mj=σ.mj/\σ'.waiting.length<=σ.waiting.length+1/\AJ σ'<=AJ σ+580/\∀i s,dW σ i s->dW σ' i s
 | .stop _ p=>p=t.a
 | .stuck=>False
theorem Y3(t:cR)(U:t.k=.lost\/tA t)(g:rW σ)(D:Ir σ t)(I:AJ σ<990000)(d:σ.waiting.length<4000):RTk σ t (mx (dp false rA) t σ):=by
 have K:t.k≠ .lost->RTk σ t ((if σ.behind&&ir t.chars xE then .ok () {σ with behind:=false,dk:=t.a} else gh (dp false rA) t {σ with behind:=false,dk:=t.a})):=by
  intro F;have e:rW {σ with behind:=false,dk:=t.a}:=⟨g.iv.jo rfl rfl rfl rfl rfl rfl rfl,g.ms,g.wz⟩;split;exact⟨e,rfl,rfl,rfl,afv _,tP _ _,λ_ _ h=>h⟩
  .have h:=ajr t (U.resolve_left F) e (λH=>D H) I d;show RTk σ t (dp false rA σ.mode t _);revert h;cases dp false rA _ t _ with
   |ok u σ'=>rintro⟨l,X,x,y,z,A,B,C⟩;exact⟨l,x,y,z,A,B,C⟩
   |stop c p=>exact λh=>h
   |stuck=>simp[RT]
 have⟨a,b,kk,cU⟩:=t;cases kk with
 |lost=>exact⟨g,rfl,rfl,rfl,afv _,tP _ _,λ_ _ h=>h⟩
 |gz s=>grind[mx]
 |dl s=>grind[mx]
 |dK s q=>grind[mx]
 |start nm=>grind[mx]
 |stop nm=>grind[mx]
 |dD=>grind[mx]
def qT(σ:N):N:={σ with nB:=64,ox:=32,mj:=16}
def LoS(σ:N):Prop:=σ.nB<=64/\σ.ox<=32/\σ.mj<=16
def Lr{α:Type}(r d:nh α):Prop:=∀a σ',r=.ok a σ'->d=.ok a (qT σ')/\LoS σ'
def Lz{α:Type}(m:M α):Prop:=∀σ,LoS σ->Lr (m σ) (m (qT σ))
theorem Lr.ok{α:Type}{a:α}(h:LoS σ):Lr (.ok a σ) (.ok a (qT σ)):=λ_ _ e=>by cases e;exact⟨rfl,h⟩
@[simp] theorem Lz.pure{α:Type}(a:α):Lz (Pure.pure a:M α):=λ_ h=>Lr.ok h
@[simp] theorem Lz.stuck{α:Type}:Lz (stuck:M α):=λ_ _ _ _ h=>by cases h
@[simp] theorem Lz.bind{α x:Type}{m:M α}{f:α->M x}(h:Lz m)(u:∀a,Lz (f a)):Lz (m>>=f):=by
 intro σ d a σ' e;rw[M.cH]at e|-;cases hm:m σ with
 |ok b σ1=>
  rw[hm]at e;obtain⟨l,q⟩:=h σ d b σ1 hm;rw[l];exact u b σ1 q a σ' e
 |_=>rw[hm]at e;cases e
@[simp] def Lz.ite{α:Type}{c:Prop}[Decidable c]{a b:M α}(d:Lz a)(e:Lz b):Lz (if c then a else b):=by split<;>assumption
def Lz.fn{α:Type}{f:N->nh α}(h:∀σ,LoS σ->Lr (f σ) (f (qT σ))):Lz (α:=α) f:=h
def Lr.id{α:Type}{r d:nh α}(h:Lr r d):Lr r d:=h
theorem Lz.at{α:Type}{m:M α}(h:Lz m)(d:LoS σ):Lr (m σ) (m (qT σ)):=h σ d
@[simp] def amm{f:N->N}(h:∀σ,f (qT σ)=qT (f σ)/\(LoS σ->LoS (f σ))):Lz (rO f):=λσ d=>by
 have:=h σ;show Lr (.ok () (f σ)) (.ok () (f (qT σ)));rw[this.1];exact Lr.ok (this.2 d)
attribute [simp] LoS
@[simp] def am7(a b c d e f g h i j k l m n o p q r):qT (N.mk a b c d e f g h i j k l m n o p q r)=N.mk a b c d e f g h i j k l m n o 64 32 16:=rfl
def Lr.n1{α:Type}{e p:Nat}{r:nh α}:Lr (.stop e p) r:=λ_ _ h=>by cases h
def Lr.n2{α:Type}{r:nh α}:Lr .stuck r:=λ_ _ h=>by cases h
def Lr.o2{α:Type}{a:α}(h:LoS σ)(e:σ'=qT σ):Lr (.ok a σ) (.ok a σ'):=by rw[e];exact Lr.ok h
section
variable (σ:N)
@[simp] def np:((qT σ).nodes=σ.nodes/\(qT σ).cC=σ.cC/\(qT σ).act=σ.act/\(qT σ).head=σ.head/\(qT σ).form=σ.form/\(qT σ).mode=σ.mode/\(qT σ).kept=σ.kept/\(qT σ).waiting=σ.waiting/\(qT σ).dv=σ.dv/\(qT σ).fJ=σ.fJ/\(qT σ).dk=σ.dk/\(qT σ).behind=σ.behind/\(qT σ).jI=σ.jI/\(qT σ).dM=σ.dM/\(qT σ).fresh=σ.fresh/\(qT σ).last=σ.last/\(qT σ).ym=σ.ym/\(qT σ).nB=64/\(qT σ).ox=32/\(qT σ).mj=16)/\(∀i,(qT σ).db i=σ.db i/\(qT σ).nm i=σ.nm i/\(qT σ).kg i=σ.kg i/\(qT σ).jT i=σ.jT i)/\(∀i,(qT σ).jg i=σ.jg i/\(qT σ).de i=σ.de i/\(qT σ).jw i=σ.jw i)/\(∀k,(qT σ).eZ k=σ.eZ k)/\(∀p b,(qT σ).inScope p b=σ.inScope p b)/\(∀p,(qT σ).current p=σ.current p)/\(∀s,(qT σ).jH s=σ.jH s)/\(∀L,oo (qT σ) L=oo σ L)/\(∀j L c,(qT σ).oM j L c=σ.oM j L c)/\(∀L,nE (qT σ) L=nE σ L)/\(∀p,(qT σ).yw p=qT (σ.yw p))/\(qT σ).gJ=qT σ.gJ:=by
 refine⟨⟨?_,?_,?_,?_,?_,?_,?_,?_,?_,?_,?_,?_,?_,?_,?_,?_,?_,?_,?_,?_⟩,λ_=>⟨?_,?_,?_,?_⟩,λ_=>⟨?_,?_,?_⟩,λ_=>?_,λ_ _=>?_,λ_=>?_,λ_=>?_,λ_=>?_,λ_ _ _=>?_,λ_=>?_,λ_=>?_,?_⟩<;>kernel_rfl
end
@[simp] def lz0:(∀x,Lz (agm x)/\Lz (fB x)/\Lz (gv x)/\Lz (vr x)/\Lz (xL x)/\∀y,Lz (tU x y)/\Lz (lE x y)/\Lz (kj x y)/\Lz (jk x y))/\(∀d,(∀j,Lz (fY d j))/\(∀k,Lz (pQ d k))/\∀s,Lz (mP d s))/\Lz tJ/\(∀p b,Lz (iI p b))/\(∀s,Lz (wg s))/\(∀t,Lz (fG t))/\(∀i,Lz (eE i)/\Lz (fD i)/\Lz (yE i)/\Lz (zM i)/\Lz (ahead i)/\Lz (iC i))/\Lz AZ/\∀n b l,Lz (mL n b l):=by
 (repeat' first|with_reducible intro _|with_reducible apply And.intro)<;>delta agm fB gv vr xL tU lE kj jk fY pQ mP tJ iI wg fG eE fD yE zM ahead iC AZ mL<;>(
 repeat' first|(with_reducible first|refine Lz.bind ?_ λ_=>?_|refine Lz.ite ?_ ?_|exact Lr.n1|exact Lr.n2|refine Lz.at ?_ ‹_›)|((with_reducible refine Lr.o2 ?_ ?_)<;>first|rfl|assumption)|split|(delta Lz;intro σ h;try simp only[np]))
@[simp] def lzu:(∀m,Lz (fq m))/\(∀p,Lz (oB p))/\(∀o p,Lz (Aj o p))/\Lz wF/\Lz (rO λσ=>σ.gJ):=by
 (repeat' first|with_reducible intro _|with_reducible apply And.intro)<;>exact amm λ_=>⟨by kernel_rfl,id⟩
@[simp] def al0(p:O->Bool):Lz (ly p):=amm λσ=>by
 show(if σ.current p then _ else _)=qT (if _ then _ else _)/\(_->LoS (if _ then _ else _));split<;>exact⟨rfl,id⟩
@[simp] def al1(x:eG):Lz (kA x):=by
 intro σ h;unfold kA;simp only[np];split;exact Lr.n1;rw[cZ (show ¬64<=_ by have:=h.1;omega)];split;exact Lr.ok h;exact Lr.n2
@[simp] def ajk(x:eG):Lz (fC x):=by
 intro σ h;unfold fC;simp only[np];split;exact Lr.n1;rw[cZ (show ¬32<=_ by have:=h.2.1;omega)];split;exact Lr.ok h;exact Lr.n2
@[simp] def Yg(i:Nat):∀L,Lz (lK i L)
 |[]=>Lz.pure _
 |a::r=>λσ h=>by
  unfold lK;simp only[np];split;exact Lr.n2;split;exact Yg i r σ h;split;exact Lr.n1;rw[cZ (show ¬16<=_ by have:=h.2.2;omega)];exact Yg i r _ h
def Sh(i:Nat)(σ:N):(gQ i (qT σ)).isOk=(gQ i σ).isOk:=by
 unfold gQ eE;simp only[np]
 (repeat' split)<;>rfl
@[simp] def jd(σ:N):(qT σ).tq=σ.tq:=by
 unfold N.tq;simp only[np,Sh]
@[simp] def amu(pl:Nat×Nat)(n:zc)(k:Nat->Nd):Lz (lj pl n k):=λσ h=>(by simp:Lz (pQ pl (k σ.nodes.length))) (σ.add n) h
@[simp] def lz2:Lz mD/\(∀j,Lz (fP j))/\Lz gp/\(∀i,Lz (my i))/\∀d k,Lz (xh d k):=by
 (repeat' first|with_reducible intro _|with_reducible apply And.intro)<;>(repeat' first|(with_reducible first|refine Lz.bind ?_ λ_=>?_|refine Lz.ite ?_ ?_|exact Lr.n1|exact Lr.n2|refine Lz.at ?_ ‹_›)|(simp[*];done)|refine Lz.bind ?_ λ_=>?_|((with_reducible refine Lr.o2 ?_ ?_)<;>first|rfl|assumption)|split|delta mD|delta my|delta xh|delta fP|delta gp|delta placeFor|delta fx|delta gQ|(delta Lz;intro σ h;try simp only[np,jd]))
def lzt(t:cR):Lz (dZ t):=Lz.bind (by simp) λ_=>Lz.bind (by simp) λ_=>Lz.pure _
@[simp] def akv:∀k n,Lz (DK k n)
 |0,_=>Lz.pure _
 |k+1,n=>by have:=akv k (n+1);unfold DK;(repeat' first|with_reducible refine Lz.bind ?_ λ_=>?_|with_reducible refine Lz.ite ?_ ?_)<;>simp[*]
@[simp] def agB(d:Nat):∀L,Lz (rB d L)
 |[]=>Lz.pure _
 |k::r=>by have:=agB d r;unfold rB;(repeat' first|with_reducible refine Lz.bind ?_ λ_=>?_|with_reducible refine Lz.ite ?_ ?_)<;>simp[*]
@[simp] def aa7(f b:Nat):∀n c l m,Lz (iQ f b n c l m)
 |0,_,_,_=>Lz.pure _
 |n+1,c,l,m=>by
  have:=aa7 f b n;unfold iQ
  repeat' first|(with_reducible first|refine Lz.bind ?_ λ_=>?_|refine Lz.ite ?_ ?_|exact Lr.n1|exact Lr.n2|refine Lz.at ?_ ‹_›)|(simp[*];done)|refine Lz.bind ?_ λ_=>?_|((with_reducible refine Lr.o2 ?_ ?_)<;>first|rfl|assumption)|split|(delta Lz;intro σ h;try simp only[np])
@[simp] def F9:∀L,Lz (qF L)
 |[]=>Lz.pure _
 |x::r=>Lz.bind (by repeat' first|(with_reducible first|refine Lz.bind ?_ λ_=>?_|refine Lz.ite ?_ ?_|exact Lr.n1|exact Lr.n2|refine Lz.at ?_ ‹_›)|(simp[*];done)|refine Lz.bind ?_ λ_=>?_|((with_reducible refine Lr.o2 ?_ ?_)<;>first|rfl|assumption)|split|delta gw|delta gp|delta placeFor|delta fx|delta gQ|(delta Lz;intro σ h;try simp only[np,jd])) λ_=>F9 r
@[simp] def acg(s:O):∀n,Lz (qj s n)
 |0=>Lz.pure _
 |n+1=>by
  have:=acg s n;unfold qj
  repeat' first|(with_reducible first|refine Lz.bind ?_ λ_=>?_|refine Lz.ite ?_ ?_|exact Lr.n1|exact Lr.n2|refine Lz.at ?_ ‹_›)|(simp[*];done)|refine Lz.bind ?_ λ_=>?_|((with_reducible refine Lr.o2 ?_ ?_)<;>first|rfl|assumption)|split|delta iY|delta nT|delta pi|delta handOver|delta tK|delta placeFor|delta fx|delta gQ|(delta Lz;intro σ h;try simp only[np,jd])
section
variable {rec eC:Nat->cR->M Unit}(t:cR)
def afy(d:∀m t,Lz (rec m t)):Lz (oF rec t):=Lz.bind (by simp) λ_=>Lz.bind (d _ _) λ_=>Lz.bind (by simp) λ_=>Lz.pure _
@[simp] def FZ(hl:∀m t,Lz (eC m t)):∀L,Lz (qD eC L)
 |[]=>Lz.pure _
 |x::r=>Lz.bind (afy _ hl) λ_=>FZ hl r
@[simp] def afY(d:∀m t,Lz (rec m t)):Lz (kh rec):=by
 intro σ h;unfold kh;simp only[np];split;exact FZ d _ σ h;exact F9 _ σ h
def ag1(e:∀m t,Lz (rec m t))(hl:∀m t,Lz (eC m t))(lk:Bool)(f:Nat):Lz (JU lk eC rec t f)/\∀d own,Lz (tf d own t):=by
 refine⟨?_,λ_ _=>?_⟩
 delta JU
 all_goals
  repeat' first|(with_reducible first|refine Lz.bind ?_ λ_=>?_|refine Lz.ite ?_ ?_|exact Lr.n1|exact Lr.n2|refine Lz.at ?_ ‹_›)|(simp[*];done)|((with_reducible refine Lr.o2 ?_ ?_)<;>first|rfl|assumption)|(with_reducible refine Lz.fn λσ h=>?_;try simp only[np])|(with_reducible refine Lr.id ?_;split)|delta qE|delta GK|delta vi|delta iW|delta pushHead|delta lr|delta tM|delta nT|delta rj|delta rl|delta gw|delta iK|delta fF|delta dZ|delta gh|delta iN|delta ja|delta rY|delta nU|delta nW|delta gM|delta iX|delta oe|delta iV|delta jm|delta lc|delta jJ|delta uj|delta sQ|delta rh|delta mF|delta nD|delta uk|delta GQ|delta oC|delta zn|delta gE|delta ol|delta pN|delta pg|delta gP|delta dQ|delta qM|delta qN|delta pu|delta dU|delta ri|delta pM|delta kM|delta rL|delta jQ|delta sY|delta mV|delta kQ|delta nJ|delta jY|delta lU|delta nI|delta kR|delta kK|delta fZ|delta mU|delta jl|delta fA|delta eN|delta jV|delta lH|delta zp|delta gH|delta og|delta jr|delta kY|delta mW|delta im|delta oD|delta endCell|delta kT|delta fV|delta lL|delta lM|delta iw|delta kN|delta nA|delta vW|delta rn|delta oz|delta oF|delta iZ|delta ft|delta gI|delta JU|delta tf|delta jB|refine Lz.ite ?_ ?_|split
def acZ{f:Nat}{b:M Bool}(h:wV f=some b):Lz b:=by
 unfold wV at h
 repeat' (split at h)
 all_goals (cases h<;>repeat' first|(with_reducible first|refine Lz.bind ?_ λ_=>?_|refine Lz.ite ?_ ?_|exact Lr.n1|exact Lr.n2|refine Lz.at ?_ ‹_›)|(simp[*];done)|((with_reducible refine Lr.o2 ?_ ?_)<;>first|rfl|assumption)|(with_reducible refine Lz.fn λσ h=>?_;try simp only[np])|(with_reducible refine Lr.id ?_;split)|delta tM|delta gE|delta ol|delta pN|delta pg|delta lH|delta zp|delta gH|delta oD|delta endCell|refine Lz.ite ?_ ?_|split)
def Sl(d:∀m t,Lz (rec m t))(hl:∀m t,Lz (eC m t))(lk:Bool):∀r,Lz (jD lk eC rec r t)
 | .nil=>Lz.stuck
 | .nothing=>Lz.pure _
 | .eI f=>(ag1 t d hl lk f).1
 | .su m=>Lz.ite (d _ _) Lz.stuck
 | .dl pf own=>(ag1 t d hl lk 0).2 pf own
 | .ahead f=>by
  show Lz (match wV f with|some b=>tD rec b t|none=>stuck)
  cases hb:wV f with
  |none=>exact Lz.stuck
  |some b=>exact Lz.bind (acZ hb) λ_=>Lz.ite (Lz.bind (λσ h=>d _ t σ h) λ_=>Lz.pure _) (Lz.pure _)
 | .ends f=>by
  show Lz (match wV f with|some b=>zq b|none=>stuck)
  cases hb:wV f with
  |none=>exact Lz.stuck
  |some b=>exact Lz.bind (acZ hb) λ_=>Lz.pure _
 | .Wb r=>λσ h=>by
  have:=Sl d hl lk r;show Lr (Bw (jD lk eC rec r t) t σ) (Bw (jD lk eC rec r t) t (qT σ));unfold Bw;simp only[np];split;exact this σ h;exact Lr.ok h
 | .rM ks m=>Lz.ite (Lz.bind (by simp) λ_=>Lz.bind (lzt t) λ_=>Lz.bind (by simp) λ_=>Lz.pure _) Lz.stuck
 | .mr ks name m=>Lz.ite (Lz.bind (by simp) λ_=>Lz.bind (Lz.bind (by simp) λ_=>Lz.bind (by simp) λ_=>Lz.pure _) λ_=>Lz.bind (by simp) λ_=>Lz.bind (λσ h=>d _ t σ h) λ_=>Lz.pure _) Lz.stuck
 | .item ks=>Lz.bind (by simp) λ_=>Lz.bind (Lz.bind (Lz.bind (by simp) λ_=>Lz.pure _) λ_=>Lz.bind (lzt t) λ_=>Lz.pure _) λ_=>Lz.pure _
end
def Qs:∀(n:Nat)(lk:Bool)m t,Lz (dp lk n m t)
 |0,_,_,_=>Lz.stuck
 |n+1,lk,m,t=>by
  obtain⟨a,b,k,cU⟩:=t;cases k with
  |lost=>exact Lz.stuck
  |_=>
   rw[xv lk n m _ (by simp)];unfold asM;cases tV[m]? with
   |none=>exact Lz.stuck
   |some sp=>exact Sl _ (Qs n lk) (Qs n true) lk _
def afN(n:Nat)(t:cR):Lz (mx (dp false n) t):=by
 have d:Lz (α:=Unit) (λσ:N=>if σ.behind&&ir t.chars xE then nh.ok () {σ with behind:=false,dk:=t.a} else gh (dp false n) t {σ with behind:=false,dk:=t.a}):=λσ h=>by
  simp only[np];split;exact Lr.ok h;exact Qs n false _ t {σ with behind:=false,dk:=t.a} h
 obtain⟨a,b,k,cU⟩:=t;cases k with
 |lost=>exact Lz.pure _
 |_=>exact d
def S0(d f l a:Nat):N:={nodes:=[.el ⟨⟨#[]⟩,[],none,[]⟩],cC:=[],act:=[],head:=none,form:=none,mode:=0,kept:=0,waiting:=[],dv:=false,fJ:=false,dk:=a,behind:=false,jI:=⟨#[]⟩,dM:=false,fresh:=false,nB:=d,ox:=f,mj:=l}
theorem acl{d:Nat}{a b:Int}{e:J}(l:Z [r] w e)(h:Rd e r R d (d+1))(q:Z [] e W)(g:W.heap[w.heap.size]?=some (cV #[G 0,G 0,Y gU] 187))(u:r≠w.heap.size):
  Z [r] w (((W.setCell ⟨w.heap.size,0,none⟩ (G a)).setCell ⟨w.heap.size,1,none⟩ (G b)).setCell ⟨w.heap.size,2,none⟩ (Y s))/\Rd (((W.setCell ⟨w.heap.size,0,none⟩ (G a)).setCell ⟨w.heap.size,1,none⟩ (G b)).setCell ⟨w.heap.size,2,none⟩ (Y s)) r R d (d+1)/\(((W.setCell ⟨w.heap.size,0,none⟩ (G a)).setCell ⟨w.heap.size,1,none⟩ (G b)).setCell ⟨w.heap.size,2,none⟩ (Y s)).heap[w.heap.size]?=some (cV #[G a,G b,Y s] 187):=by
 refine⟨?_,(h.kept q (by simp)).kept ((((Z.refl [w.heap.size] W).setCell (.inl (by simp)) _).setCell (.inl (by simp)) _).setCell (.inl (by simp)) _) (by grind),bJ (bJ (bJ g 0 _) 1 _) 2 _⟩;grind[Z.setCell,Z.trans,Z.mono]
def Cs(r:Nat)(R:RC)(d ps g D:Nat)(cut:Nat->Nat)(w:J)(h:Rd w r R d ps)(hA:MH w r R g D cut)(I:d<R.cs.size)(hs:R.cs.size<=1024):
  Calls prog 151 #[cW r] w λe w'=>e=dw (.agg #[G (cut d),G (cut (d+1)),Y (R.cs.extract d (d+1))])/\Z [r] w w'/\Rd w' r R d (d+1):=by
 have b:=h.bg;have p:=h.ps;have fz:=h.free 3;have hr:=eS h;obtain⟨z,hz⟩:∃z,z=Obj.cells #[G 0,G 0,Y gU] 187 (0,0):=⟨_,rfl⟩;obtain⟨u,l⟩:∃u,u=(w.setCell ⟨r,3,none⟩ (G ((d+1:Nat)))).alloc z:=⟨_,rfl⟩;have K0:Z [r] w u:=by rw[l];exact((Z.refl [r] w).setCell (.inl (by simp)) _).alloc _
 have R0:Rd u r R d (d+1):=by rw[l];exact((Z.refl [] _).alloc z).at (h.Oa (d+1)) (by simp)
 have G0:u.heap[w.heap.size]?=some z:=by rw[l];have:=aY (w.setCell ⟨r,3,none⟩ (G ((d+1:Nat)))) z;rwa [World.size_setCell]at this
 have C:=V (λW (hk:Z [] u W)=>nZ r R d (d+1) g D cut W (R0.kept hk (by simp)) ((hA.kept K0).kept (hk.mono (by simp))) (by omega) (by omega) hs);have HA:=V hA;have U:=V K0;have x:=V R0;have K:=V G0;have HZ:=V hz;have a0:=V (show(w.setCell ⟨r,3,none⟩ (G ((d:Int)+1))).alloc (cV #[G 0,G 0,Y gU] 187)=u from by rw[l,hz];congr 1);clear h hA K0 R0 G0 l hz;go_enter func151,ntmps151;go_wp21;rw[a0.out];have X:=V (show r≠w.heap.size by omega);clear b p fz hr;refine tz (by rfl) ?_;refine ln (λ(g:Unit) z=>⟨#[cW r,undef,cW w.heap.size,cW r,cW r,cW r,fR r 2,G d,G ((d:Int)+1),cW r,fR r 3,cd z 0 (cW r),cd z 1 (.agg #[G (cut d),G (cut (d+1))]),cd z 2 (cW r),cd z 3 (cW r),cd z 4 (cW r),cd z 5 (Y R.cs),cd z 6 (cW r),cd z 7 (cW r),cd z 8 (fR r 2),cd z 9 (G d),cd z 10 (cW r),cd z 11 (cW r),cd z 12 (fR r 3),cd z 13 (G ((d:Int)+1)),cd z 14 (Y (R.cs.extract d (d+1))),cd z 15 (.agg #[G (cut d),G (cut (d+1)),Y (R.cs.extract d (d+1))])],[]⟩) (λg z W=>if dn z 16=true then (Z [r] w W/\Rd W r R d (d+1)/\W.heap[w.heap.size]?=some (cV #[G (cut d),G (cut (d+1)),Y (R.cs.extract d (d+1))] 187))else Z [] u W) 17 [[],[0],[],[2],[3],[4],[],[6],[7],[8],[],[10],[11],[12],[5,9,13],[1,14],[0,1,2,3,4,5,6,7,8,9,10,11,12,13,14,15]] (()) rfl rfl ((Z.refl [] u).drew) ?_ ?_
 .repeat' first|exact iU|refine iT ?_ ?_
  all_goals
   rintro g z W H B hn;simp[yU]at B;refine jO rfl ?_;intro K' A;simp only[iL,B];have I:dn z 16=false:=by simp[B,hn]
   have q:Z [] u W:=by simpa [I]using H
   have c0:=(x.out.kept q (by simp)).text;have c2:=(x.out.kept q (by simp)).bg;have c3:=(x.out.kept q (by simp)).ps;have C1:=V (C.out W q);have y:=q.at (K.out.trans (oX some HZ.out)) (by simp);have q0:W.cell? ⟨w.heap.size,0,none⟩=some (G 0):=by rw[aN y];rfl
   have q1:W.cell? ⟨w.heap.size,1,none⟩=some (G 0):=by rw[aN y];rfl
   have q2:W.cell? ⟨w.heap.size,2,none⟩=some (Y gU):=by rw[aN y];rfl
   have z0:=cQ y 0;have z1:=cQ y 1;have z2:=cQ y 2;go_simp
   try (rw[dd (by omega),dd (by omega)];go_simp)
   first
   |refine A _ _ ⟨g,?_,by simpa [iR,I]using q⟩
   |refine C1.out.mono ?_;rintro e W2⟨rfl,a1⟩;refine A _ _ ⟨g,?_,by simpa [iR,I]using q.trans a1⟩
   |refine A _ _ ⟨g,?_,(dd mn).mpr (acl U.out x.out q y X.out)⟩
   simp[lF,td,iL,B]
 .rintro g W H;simp only[sv];rw[dd sB]at H;have⟨h1,h2,h3⟩:=H;have H1:=V h1;have H2:=V h2;have H3:=V h3;clear h1 h2 h3;rename_i KK F;refine F _ _ ?_;clear F KK;go_wp2;refine nr (v:=.agg #[G (cut d),G (cut (d+1)),Y (R.cs.extract d (d+1))]) ?_ rfl ⟨rfl,H1.out,H2.out⟩;have B:=aN H3.out;simp[results,results151,asAddr,Result.andThen,go_sem,B]
def aao(r:Nat)(R:RC)(d ps:Nat)(w:J)(h:Rd w r R d ps)(l:R.jI=⟨#[]⟩):
  Calls prog 83 #[cW r] w λe w'=>e=dw (.bool false)/\Z [] w w':=by
 have o:=h.jI;rw[l]at o;have q:=eS h;go_enter func83,ntmps83;go_wp2;go_ret;exact⟨rfl,Z.refl _ _⟩
theorem Tv(c:fN)(o i:Nat)(d:List cY)(h:o+d.length<=c.size)(hi:i<o\/o+d.length<=i):(fI c o d)[i]?=c[i]?:=by
 rw[<-afp,il _ _ _ h];grind
theorem WV(c:fN)(o k:Nat)(d:List cY)(h:o+d.length<=c.size)(e:k<d.length):(fI c o d)[o+k]?=d[k]?:=by
 rw[<-afp,il _ _ _ h];grind
def am8:Tryz.zeroCells179[188]?=some (gq):=by kernel_rfl
def am9:Tryz.zeroCells179[189]?=some (gq):=by kernel_rfl
def ana:Tryz.zeroCells179[190]?=some (.pointer none):=by kernel_rfl
def anb:Tryz.zeroCells179[191]?=some (.pointer none):=by kernel_rfl
def anc:Tryz.zeroCells179[192]?=some (G 0):=by kernel_rfl
def z193:Tryz.zeroCells179[193]?=some (G 0):=by kernel_rfl
def z194:Tryz.zeroCells179[194]?=some (gq):=by kernel_rfl
def ane:Tryz.zeroCells179[195]?=some (.bool false):=by kernel_rfl
def z196:Tryz.zeroCells179[196]?=some (.bool false):=by kernel_rfl
def anf:Tryz.zeroCells179[197]?=some (G 0):=by kernel_rfl
def z198:Tryz.zeroCells179[198]?=some (.bool false):=by kernel_rfl
def Yb(bs bm d r:Nat)(C:fN)(R:RC)(e ps:Nat)(h:J):Env:={bm:=bm,bB:=d,bR:=r,C0:=C,R0:=wD R e ps,Hw:=7,w0:=h,tv:=gq,ta:=[],bs:=bs}
def TD(R:RC)(d ps:Nat)(s:O)(b:Bool)(hs:s=R.jI)(e:b=R.plT):((wD R d ps).setIfInBounds 7 (Y s)).setIfInBounds 8 (.bool b)=wD R d ps:=by
 subst hs e;rfl
theorem ab3{d x:Nat}{e:sZ}(h:(S0 d f a x).db i=some e):e=⟨⟨#[]⟩,[],none,[]⟩:=by
 have:=N.fa h
 match i,this with
 |0,this=>
  have l:some (zc.el ⟨⟨#[]⟩,[],none,[]⟩)=some (.el e):=this;grind
 |i+1,this=>grind[S0]
theorem alh(d f a x:Nat):Wf (S0 d f a x) where
 cC:=λx l=>by cases l
 act:=λx l=>by cases l
 head:=rfl
 form:=rfl
 ff:=λi e h=>by rw[ab3 h];rfl
 kids:=λi e h k q=>by grind[ab3]
 rU:=rfl
theorem akf(bs bm X u r:Nat)(d f a:Nat)(w W:J)(R:RC)(y:ajf bm X u d f a (.func (.func 49) #[cW r] #[]) w W)(hR:Rd W r R 0 0)(ho:R.jI=⟨#[]⟩)(hp:R.plT=false)(hd:d<=64)(hf:f<=32)(ha:a<=16)(uI:bs<=w.heap.size)(I:bs<=r):
  ∃C fl,fl 0=u/\RF (Yb bs bm X r C R 0 0 W) fl (S0 d f a 0) W:=by
 have⟨c6,cs,v1,v2,v3,hb,hc6,hru,h1,h2,h3⟩:=y.du;have H:=hru.1;have U:c6.size=199:=by rw[hc6];simp[A0,qh]
 have F:4+cs.length<=c6.size:=by rw[H,U];decide
 have l:=λi hi=>Tv c6 4 i cs F (by omega);have q:∀i,188<=i->(fI c6 4 cs)[i]?=Tryz.zeroCells179[i]?:=λi hi=>by
  rw[l i (.inr (by omega)),hc6];simp only[rS];grind[vZ]
 have a0:u<W.heap.size:=eS y.rU;refine⟨fI c6 4 cs,λi=>if i=0 then u else W.heap.size+i,rfl,⟨⟨_,λ_=> .slice none 0 0,λ_=> .slice none 0 0,gq,gq,gq⟩,rfl,?_⟩⟩;have low:∀i v,i<4->c6[i]?=some v->(fI c6 4 cs)[i]?=some v:=λi v hi h=>(l i (.inl hi)).trans h;have c0:c6[0]?=some (G d):=by
  rw[hc6];simp[jU,rS,qh]
 have c1:c6[1]?=some (G f):=by
  rw[hc6];simp[jU,rS,qh]
 have c2:c6[2]?=some (G a):=by
  rw[hc6];simp[jU,rS,qh]
 have c3:c6[3]?=some (.func (.func 49) #[cW r] #[]):=by
  rw[hc6];simp[jU,rS,qh]
 have z:(fI c6 4 cs)[184]?=some v1:=by
  rw[l _ (.inr (by omega)),hc6];simp[jU,rS,qh]
 have A:(fI c6 4 cs)[185]?=some v2:=by
  rw[l _ (.inr (by omega)),hc6];simp[jU,rS,qh]
 have B:(fI c6 4 cs)[186]?=some v3:=by
  rw[l _ (.inr (by omega)),hc6];simp[jU,rS,qh]
 have D:(fI c6 4 cs)[187]?=some (eF u):=by
  rw[l _ (.inr (by omega)),hc6];simp[jU,rS,qh]
 exact
  {fr:=Fr.refl _
   env:={Gu:=⟨cs,λk hk=>WV c6 4 k cs F (by omega),hru⟩,Y7:=low 3 _ (by decide) c3,spec:=⟨v1,z,h1⟩,aam:=⟨v2,A,h2⟩,ZK:=⟨v3,B,h3⟩,rU:=D}
   Dz:=⟨low 0 _ (by decide) c0,low 1 _ (by decide) c1,low 2 _ (by decide) c2,hd,hf,ha⟩
   qH:=λi nd hi=>by
    match i,hi with
    |0,hi=>
     have e:nd=.el ⟨⟨#[]⟩,[],none,[]⟩:=by
      have:some (zc.el ⟨⟨#[]⟩,[],none,[]⟩)=some nd:=hi;exact(je this).symm
     subst e;exact⟨⟨y.rU,mh _ _ _ _,yQ _,⟨_,_,_,rfl⟩⟩,mh _ _ _ _,yQ _⟩
    |i+1,hi=>simp[S0]at hi
   inj:=λi j h=>by
    have h':(if i=0 then u else W.heap.size+i)=(if j=0 then u else W.heap.size+j):=h;by_cases hi:i=0<;>by_cases hj:j=0<;>simp only[hi,hj,↓reduceIte]at h'|- <;>omega
   Ar:=λi j g hi hj a2 x=>by simp[Value.ownBlock]at x
   Ge:=λi hi he=>rfl
   uq:=λi j e g h1 h2 h3 h4 h5=>by simp[Value.ownBlock]at h5
   Eg:=λi hi he=>rfl
   wf:=alh d f a 0
   du:=⟨_,hb,{size:=by grind[fU],low:=λi hi=>rfl,cC:=(q 188 (by omega)).trans am8,act:=(q 189 (by omega)).trans am9,head:=(q 190 (by omega)).trans ana,form:=(q 191 (by omega)).trans anb,mode:=(q 192 (by omega)).trans anc,kept:=(q 193 (by omega)).trans z193,wait:=(q 194 (by omega)).trans z194,Jm:=(q 195 (by omega)).trans ane,fJ:=(q 196 (by omega)).trans z196,dk:=(q 197 (by omega)).trans anf,behind:=(q 198 (by omega)).trans z198}⟩
   ng:=mh _ _ _ _
   oh:=mh _ _ _ _
   Ic:=λg x=>by simp[Value.ownBlock]at x
   vu:=yQ _
   Ep:=yQ _
   mY:=mh _ _ _ _
   MF:=yQ _
   rd:=by
    show W.heap[r]?=some (.cells (((wD R 0 0).setIfInBounds 7 (Y gU)).setIfInBounds 8 (.bool false)) _ _);rw[TD R 0 0 _ _ ho.symm hp.symm];exact hR
   TR:=by show 7+1<9;decide
   tok:=mh _ _ _ _
   Lq:=yQ _
   bz:=fK uI y.k.size
   bB:=fK uI y.new
   bR:=I
   bN:=λi hi=>by
    have a1:i<1:=hi;have:i=0:=by omega
    subst this;exact fK uI y.amZ
   zd:=λh=>by grind[S0]
   ab:=λi g hi x=>by simp[Value.ownBlock]at x
   tb:=λg x=>by
    have K:(gq).ownBlock=some g:=x;simp[Value.ownBlock]at K
   ME:=λv hv=>by cases hv}
def QU.move{l:Nat}(h:QU E l)(x:Fr E.bs E.w0 w)(A:wm E.bm w w')(z:∀(b:Nat)(u:Array MapEntry)(q:Nat),w.heap[b]?=some (Obj.map u q)->w'.heap[b]?=some (Obj.map u q)):QU {E with w0:=w'} l:=by
 have d:=(x.n E.bm).trans A;have y:∀{R:Option _} {v:cY},pF E.bm E.bB l R v E.w0->pF E.bm E.bB l R v w':=by
  intro R v h;cases R with
  |none=>exact h
  |some R=>
   have⟨b,hb⟩:=h;have⟨u,q,hat⟩:=hb.at;exact⟨b,hb.fr d ((z b u q ((x.calm (.inl hb.at)).trans hat)).trans hat.symm)⟩
 have⟨cs,h1,h2,h3⟩:=h.Gu;have⟨v1,a1,b1⟩:=h.spec;have⟨v2,a2,b2⟩:=h.aam;have⟨v3,a3,b3⟩:=h.ZK;exact⟨⟨cs,h1,h2,λm sp B=>by
  have⟨v0,v1,v2,v3,v4,v5,v6,v7,v8,v9,e,hi⟩:=h3 m sp B;exact⟨v0,v1,v2,v3,v4,v5,v6,v7,v8,v9,e,⟨hi.blank.fr d,hi.gz.fr d,hi.dl.fr d,hi.dK.fr d,hi.dD.fr d,y hi.start,y hi.stop,hi.fX.fr d,hi.ik.fr d,hi.dy.fr d⟩⟩⟩,h.Y7,⟨v1,a1,b1.fr d⟩,⟨v2,a2,b2.fr d⟩,⟨v3,a3,b3.fr d⟩,h.rU⟩
structure Lk(w:J)(b:Nat)(look:O->Option O):Prop where
 lt:b<w.heap.size
 short:∀key t,look key=some t->t.size<=16
 run:∀(key:O)(w':J),w'.heap[b]?=w.heap[b]?->(Instr.lookup 159 (.map (some b)) (Y key) true).run prog w'=.ok (.tuple #[.agg #[Y ((look key).getD ⟨#[]⟩)],.bool (look key).isSome]) w'
theorem Lk.kept{look:O->Option O}(h:Lk w b look)(q:Z S w w')(u:b∉S):Lk w' b look:=
 ⟨kL h.lt q.size,h.short,λd l e=>h.run d l (e.trans (q.block b h.lt u))⟩
open Go.ChangeMaps (setBlock)
def SL(e:MapEntry):cY×cY:=(e.key,e.val)
def kv(p:O×O):cY×cY:=(Y p.1,.agg #[Y p.2])
structure Mp(w:J)(b:Nat)(L:iD)(es:Array MapEntry)(clock:Nat):Prop where
 at_:w.heap[b]?=some (.map es clock)
 kvs:es.toList.map SL=L.map kv
 nod:(es.toList.map (·.born)).Nodup
 old:∀x∈es.toList,x.born<clock
theorem Mp.kept{d:Array MapEntry}(h:Mp w b L d clock)(l:Z S w w')(e:b∉S):Mp w' b L d clock:=⟨l.at h.at_ e,h.kvs,h.nod,h.old⟩
theorem Pf(k:O):∀(d:List MapEntry)(L:iD)(i:Nat),d.map SL=L.map kv->L.all (λp=>!(k==p.1))=true->Instr.findNow .string (Y k) d i=some none
 |[],_,_,_,_=>rfl
 |e::d,[],_,h,_=>by grind
 |e::d,p::L,i,h,hn=>by
  simp at h;simp only[List.all_cons,oY]at hn;have l:e.key=Y p.1:=oX Prod.fst h.1;unfold Instr.findNow;simp[l,Instr.sameNow,(by simpa using hn.1)];exact Pf k d L _ h.2 hn.2
theorem R6(k:O):∀(d:List MapEntry)(L:iD)(i:Nat)(p:O×O),d.map SL=L.map kv->L.find? (λp=>k==p.1)=some p->∃j,Instr.findNow .string (Y k) d i=some (some (j,.agg #[Y p.2]))
 |[],[],_,_,_,h=>by grind
 |[],_::_,_,_,h,_=>by grind
 |e::d,[],_,_,h,_=>by grind
 |e::d,q::L,i,p,h,hp=>by
  simp at h;have l:e.key=Y q.1:=oX Prod.fst h.1;have u:e.val=.agg _:=oX Prod.snd h.1;unfold Instr.findNow;cases hf:(k==q.1);simp[l,Instr.sameNow,hf];rw[List.find?_cons,hf]at hp;exact R6 k d L _ p h.2 hp;simp[Instr.sameNow];simp_all
theorem AY{a:J}(h:Z S a w)(d:b∈S\/a.heap.size<=b)(o:Obj):Z S a (setBlock w b o):=
 ⟨h.os,h.tape,h.output,by show a.heap.size<=(w.heap.setIfInBounds b o).size;rw[UL];exact h.size,λk e l=>by
  show(w.heap.setIfInBounds b o)[k]?=_;grind[Z.block]⟩
theorem Gv(h:b<w.heap.size)(o:Obj):(setBlock w b o).heap[b]?=some o:=by
 show(w.heap.setIfInBounds b o)[b]?=_;grind
theorem qe{q:Array MapEntry}(h:Mp w b L q clock)(k t:O)(B:L.all (λp=>!(k==p.1))=true):
  ∃w' u d,(Instr.mapUpdate 159 (.map (some b)) (Y k) (.agg #[Y t])).run prog w=.ok () w'/\Mp w' b (L++[(k,t)]) u d/\Z [b] w w'/\w'.heap.size=w.heap.size:=by
 refine⟨setBlock w b (.map (q.push {key:=Y k,val:=.agg #[Y t],born:=clock}) (clock+1)),_,_,?_,⟨Gv (eS h.at_) _,?_,?_,?_⟩,AY (Z.refl _ _) (.inl (by simp)) _,?_⟩;have A:(Instr.checkKey false 10000 9 (Y k)).run prog w=.ok () w:=by
  unfold Instr.checkKey;simp[(qP underlying9 _)]
 simp[Instr.mapUpdate,Lj h.at_,A,Instr.findKey,(qP underlying9 _),(Pf k q.toList L 0 h.kvs B),setObj,Sem.run,h.at_,setBlock,Result.andThen];grind[Mp.kvs,SL,kv];simp;rw[List.nodup_append];refine⟨h.nod,by simp,?_⟩;intro x l y D e;obtain⟨z,C,rfl⟩:=List.mem_map.1 l;have:=h.old z C;grind;intro x l;simp only[Array.toList_push,List.mem_append,List.mem_singleton]at l;rcases l with l|rfl;have:=h.old x l;omega;simp;show(w.heap.setIfInBounds b _).size=_;simp
def mJ(L:iD)(k:O):Option O:=(L.find? (λp=>k==p.1)).map (·.2)
def QL(w:J):(zeroValue 205).run prog w=.ok (.agg #[Y gU]) w:=by
 simp
theorem Mp.lk{d:Array MapEntry}(h:Mp w b L d clock)(hs:L.all (λp=>decide (p.2.size<=16))=true):Lk w b (mJ L) where
 lt:=eS h.at_
 short k t ht:=by
  unfold mJ at ht;grind[Option.map_eq_some_iff]
 run k w' e:=by
  have q:∀x,(Instr.checkKey x 10000 9 (Y k)).run prog w'=.ok () w':=λx=>by
   unfold Instr.checkKey;simp
  cases hf:L.find? (λp=>k==p.1)with
  |none=>
   have l:mJ L k=none:=by unfold mJ;rw[hf];rfl
   rw[l];simp[Instr.lookup,Lj (e.trans h.at_),q,Instr.findKey,(Pf k d.toList L 0 h.kvs (by grind)),QL,Result.andThen]
  |some p=>
   have⟨j,h1⟩:=R6 k d.toList L 0 p h.kvs hf;have l:mJ L k=some p.2:=by unfold mJ;rw[hf];rfl
   rw[l];simp[Instr.lookup,Lj (e.trans h.at_),q,Instr.findKey,h1,Result.andThen]
open Go.ChangeMaps (setBlock)
def kv0:iD:=[(⟨#[97,112,111,115,59]⟩,qS),(ku,⟨#[226,132,151]⟩),(lz,⟨#[226,136,137]⟩),(lA,⟨#[226,136,140]⟩),(km,nQ),(⟨#[112,97,114,59]⟩,⟨#[226,136,165]⟩),(kq,⟨#[226,138,160]⟩),(⟨#[98,110,101,59]⟩,⟨#[61,226,131,165]⟩),(⟨#[84,97,98,59]⟩,⟨#[9]⟩),(jx,xE)]
def aiN:iD:=[(⟨#[65,77,80]⟩,tY),(⟨#[97,109,112]⟩,tY),(⟨#[108,116]⟩,ou),(⟨#[103,116]⟩,eA),(⟨#[113,117,111,116]⟩,nc),(⟨#[110,98,115,112]⟩,sO),(⟨#[99,111,112,121]⟩,⟨#[194,169]⟩),(⟨#[110,111,116]⟩,⟨#[194,172]⟩),(⟨#[112,97,114,97]⟩,⟨#[194,182]⟩),(nP,⟨#[195,151]⟩)]
def kvj(j:Nat):iD:=kv0++(aiN.take j).flatMap λp=>[(p.1,p.2),(p.1++⟨#[59]⟩,p.2)]
def yX(j:Nat):O×O:=aiN.getD j (⟨#[]⟩,⟨#[]⟩)
def vy:fN:=#[Y ⟨#[65,77,80]⟩,Y tY,Y ⟨#[97,109,112]⟩,Y tY,Y ⟨#[108,116]⟩,Y ou,Y ⟨#[103,116]⟩,Y eA,Y ⟨#[113,117,111,116]⟩,Y nc,Y ⟨#[110,98,115,112]⟩,Y sO,Y ⟨#[99,111,112,121]⟩,Y ⟨#[194,169]⟩,Y ⟨#[110,111,116]⟩,Y ⟨#[194,172]⟩,Y ⟨#[112,97,114,97]⟩,Y ⟨#[194,182]⟩,Y nP,Y ⟨#[195,151]⟩]
def ahG:Bool:=(List.range 10).all λj=>(kvj j).all (λp=>!((yX j).1==p.1))&&(kvj j++[yX j]).all (λp=>!(((yX j).1++⟨#[59]⟩)==p.1))&&decide ((yX j).1.size<=8)
def aeK:ahG=true:=rfl
theorem ahF(h:j<10):(kvj j).all (λp=>!((yX j).1==p.1))=true/\(kvj j++[yX j]).all (λp=>!(((yX j).1++⟨#[59]⟩)==p.1))=true/\(yX j).1.size<=8:=by
 have:=List.all_eq_true.1 aeK j (List.mem_range.2 h);grind
def aba(h:j<10):vy[j*2]?=some (Y (yX j).1)/\vy[j*2+1]?=some (Y (yX j).2):=by
 rcases(by omega:j=0\/j=1\/j=2\/j=3\/j=4\/j=5\/j=6\/j=7\/j=8\/j=9)with rfl|rfl|rfl|rfl|rfl|rfl|rfl|rfl|rfl|rfl<;>exact⟨rfl,rfl⟩
def adM(h:j<10):kvj (j+1)=kvj j++[yX j]++[((yX j).1++⟨#[59]⟩,(yX j).2)]:=by
 rcases(by omega:j=0\/j=1\/j=2\/j=3\/j=4\/j=5\/j=6\/j=7\/j=8\/j=9)with rfl|rfl|rfl|rfl|rfl|rfl|rfl|rfl|rfl|rfl<;>rfl
def KV:iD:=kvj 10
theorem QX:KV.all (λp=>decide (p.2.size<=16))=true:=by rfl
def afG:KV.all (λp=>decide (p.1.size<=8))=true:=by rfl
def abY:KV.any (λp=>decide (p.1.size=8))=true:=by rfl
def aid(e:J)(b:Nat)(D:Mp e b [] #[] 0):∃h l q u x y z A B d:J,(Instr.mapUpdate 159 (.map (some b)) (Y ⟨#[97,112,111,115,59]⟩) (.agg #[Y qS])).run prog e=.ok () h/\(Instr.mapUpdate 159 (.map (some b)) (Y ku) (.agg #[Y ⟨#[226,132,151]⟩])).run prog h=.ok () l/\(Instr.mapUpdate 159 (.map (some b)) (Y lz) (.agg #[Y ⟨#[226,136,137]⟩])).run prog l=.ok () q/\(Instr.mapUpdate 159 (.map (some b)) (Y lA) (.agg #[Y ⟨#[226,136,140]⟩])).run prog q=.ok () u/\(Instr.mapUpdate 159 (.map (some b)) (Y km) (.agg #[Y nQ])).run prog u=.ok () x/\(Instr.mapUpdate 159 (.map (some b)) (Y ⟨#[112,97,114,59]⟩) (.agg #[Y ⟨#[226,136,165]⟩])).run prog x=.ok () y/\(Instr.mapUpdate 159 (.map (some b)) (Y kq) (.agg #[Y ⟨#[226,138,160]⟩])).run prog y=.ok () z/\(Instr.mapUpdate 159 (.map (some b)) (Y ⟨#[98,110,101,59]⟩) (.agg #[Y ⟨#[61,226,131,165]⟩])).run prog z=.ok () A/\(Instr.mapUpdate 159 (.map (some b)) (Y ⟨#[84,97,98,59]⟩) (.agg #[Y ⟨#[9]⟩])).run prog A=.ok () B/\(Instr.mapUpdate 159 (.map (some b)) (Y jx) (.agg #[Y xE])).run prog B=.ok () d/\(∃C clock,Mp d b kv0 C clock)/\Z [b] e d/\d.heap.size=e.heap.size:=by
 have⟨h,es1,c1,r1,m1,k1,z1⟩:=qe D ⟨#[97,112,111,115,59]⟩ qS (rfl);have⟨l,es2,c2,r2,m2,k2,z2⟩:=qe m1 ku ⟨#[226,132,151]⟩ (rfl);have⟨q,es3,c3,r3,m3,k3,z3⟩:=qe m2 lz ⟨#[226,136,137]⟩ (rfl);have⟨u,es4,c4,r4,m4,k4,z4⟩:=qe m3 lA ⟨#[226,136,140]⟩ (by rfl);have⟨x,es5,c5,r5,m5,k5,z5⟩:=qe m4 km nQ (rfl);have⟨y,es6,c6,r6,m6,k6,z6⟩:=qe m5 ⟨#[112,97,114,59]⟩ ⟨#[226,136,165]⟩ (rfl);have⟨z,es7,c7,r7,m7,k7,z7⟩:=qe m6 kq ⟨#[226,138,160]⟩ (by rfl);have⟨A,es8,c8,r8,m8,k8,z8⟩:=qe m7 ⟨#[98,110,101,59]⟩ ⟨#[61,226,131,165]⟩ rfl;have⟨B,es9,c9,r9,m9,k9,z9⟩:=qe m8 ⟨#[84,97,98,59]⟩ ⟨#[9]⟩ rfl;have⟨d,es10,c10,r10,m10,k10,z10⟩:=qe m9 jx xE rfl;exact⟨h,l,q,u,x,y,z,A,B,d,r1,r2,r3,r4,r5,r6,r7,r8,r9,r10,⟨_,_,m10⟩,(((((((((k1).trans k2).trans k3).trans k4).trans k5).trans k6).trans k7).trans k8).trans k9).trans k10,by omega⟩
def ajd(w:J)(d bm j:Nat)(wr:J):Prop:=
 (∃h e,Mp wr bm (kvj j) h e)/\wr.heap[d]?=some (cV #[.map (some bm),G 0] 161)/\wr.heap[d+1]?=some (cV vy 206)/\wr.heap[w.heap.size]?=some (cV #[.map none,G 0] 161)/\Z [] w wr
def agS:cY->Nat
 | .string k=>k.size
 |_=>0
structure aje(w:J)(nb bm it:Nat)(es:Array MapEntry)(ck:Nat)(wr:J)(seen:Array Nat)(c0 M:Nat):Prop where
 iter:wr.heap[it]?=some (.mapIter (some bm) ck seen c0)
 late:ck<=c0
 mp:Mp wr bm KV es ck
 nam:wr.heap[nb]?=some (cV #[.map (some bm),G M] 161)
 res:wr.heap[w.heap.size]?=some (cV #[.map none,G 0] 161)
 le:M<=8
 OW:∀e∈es.toList,seen.contains e.born=true->agS e.key<=M
 kept:Z [] w wr
 size:it<wr.heap.size
theorem aj5{d:Array MapEntry}(h:d.toList.map SL=L.map kv){e:MapEntry}(l:e∈d.toList):∃p∈L,e.key=Y p.1:=by
 have:SL e∈L.map kv:=by grind
 have⟨p,hp,e1⟩:=List.mem_map.1 this;exact⟨p,hp,(oX Prod.fst e1).symm⟩
theorem ac7{d:Array MapEntry}(h:d.toList.map SL=L.map kv){p:O×O}(l:p∈L):∃e∈d.toList,e.key=Y p.1:=by
 have:kv p∈d.toList.map SL:=by grind
 have⟨e,he,e1⟩:=List.mem_map.1 this;exact⟨e,he,oX Prod.fst e1⟩
theorem TL(w:J):
  Calls prog 61 #[] w λe w'=>∃b,e=dw (.agg #[.map (some b),G 8])/\w.heap.size<=b/\Lk w' b (mJ KV)/\Z [] w w':=by
 obtain⟨d,B⟩:∃d,d=w.alloc (.cells #[.map none,G 0] 161):=⟨_,rfl⟩;have za:d.heap.size=w.heap.size+1:=by rw[B];simp
 obtain⟨wb,z⟩:∃wb,wb=d.alloc (.map #[] 0):=⟨_,rfl⟩;have ka:Z [] w d:=by rw[B];exact(Z.refl _ _).alloc _
 have kb:Z [] d wb:=by rw[z];exact(Z.refl _ _).alloc _
 have hA:d.heap[w.heap.size]?=some (cV #[.map none,G 0] 161):=by rw[B];exact aY w _
 have ac:Mp wb d.heap.size [] #[] 0:=⟨by rw[z];exact aY d _,rfl,by simp,by simp⟩;have zb:wb.heap.size=d.heap.size+1:=by rw[z];simp
 have⟨w1,w2,w3,w4,w5,w6,w7,w8,w9,w10,r1,r2,r3,r4,r5,r6,r7,r8,r9,r10,⟨es,ck,HM⟩,k10,z10⟩:=aid wb d.heap.size ac;have af:(Instr.makeMap 159 none).run prog d=.ok (.map (some d.heap.size)) wb:=by rw[z];rfl
 have ab:=V B.symm;have ak:=z.symm;have HK:=(show Z [] w w10 from((ka.trans kb).next k10 (by grind)));have HA:=(show w10.heap[w.heap.size]?=_ from k10.at (kb.at hA (by simp)) (by grind));have Hz:=V (show w10.heap.size=w.heap.size+2 by omega);have D:=V za;clear B z ka kb hA ac zb k10 za z10;go_enter func61,ntmps61;go_wp21;rw[ab.out,af];clear af ab ak;go_wp2_with fail;obtain⟨W,hW⟩:∃W,W=(w10.alloc (.cells #[.map (some d.heap.size),G 0] 161)).alloc (.cells vy 206):=⟨_,rfl⟩;have kW:Z [] w10 W:=by rw[hW];exact((Z.refl _ _).alloc _).alloc _
 have u:W.heap[w10.heap.size]?=some (cV #[.map (some d.heap.size),G 0] 161):=by
  rw[hW,Below.heap_alloc _ _ _ (by simp)];exact aY w10 _
 have hG:W.heap[w10.heap.size+1]?=some (cV vy 206):=by
  have:=aY (w10.alloc (.cells #[.map (some d.heap.size),G 0] 161)) (.cells vy 206);rw[hW];simpa using this
 have HS:Hid (ajd w w10.heap.size d.heap.size 0 W):=⟨⟨es,ck,HM.kept kW (by simp)⟩,u,hG,kW.at HA (by simp),HK.trans kW⟩;have ai:vy=#[Y ⟨#[65,77,80]⟩,Y tY,Y ⟨#[97,109,112]⟩,Y tY,Y ⟨#[108,116]⟩,Y ou,Y ⟨#[103,116]⟩,Y eA,Y ⟨#[113,117,111,116]⟩,Y nc,Y ⟨#[110,98,115,112]⟩,Y sO,Y ⟨#[99,111,112,121]⟩,Y ⟨#[194,169]⟩,Y ⟨#[110,111,116]⟩,Y ⟨#[194,172]⟩,Y ⟨#[112,97,114,97]⟩,Y ⟨#[194,182]⟩,Y nP,Y ⟨#[195,151]⟩]:=rfl;rw[ai]at hW;rw[<-hW];clear hW kW u hG ai HM HK HA r1 r2 r3 r4 r5 r6 r7 r8 r9 r10
 go_loopw [30] (λv wr=>∃j:Nat,v=G j/\j<=10/\ajd w w10.heap.size d.heap.size j wr) (λv _=>10-(intOf v).toNat)
 case atStart=>exact⟨0,rfl,by omega,HS.out⟩
 case round=>
  obtain⟨j,rfl,hj,h1⟩:=hrel;by_cases a7:j<10
  .have⟨⟨es1,ck1,mp1⟩,u,hG,hR,hk⟩:=h1;have rc:=aba a7;have x0:wr.cell? ⟨w10.heap.size+1,j*2,none⟩=some (Y (yX j).1):=by rw[aN hG];exact rc.1
   have x1:wr.cell? ⟨w10.heap.size+1,j*2+1,none⟩=some (Y (yX j).2):=by rw[aN hG];exact rc.2
   have⟨n1,n2,n3⟩:=ahF a7;have C:=adM a7;generalize hn:(yX j).1=nm at *;generalize ht:(yX j).2=tx at *;have ag:yX j=(nm,tx):=by rw[<-hn,<-ht]
   rw[ag]at n2 C;clear hn ht ag;obtain⟨W1,H⟩:∃W1,W1=wr.alloc (.cells #[Y nm,Y tx] 206):=⟨_,rfl⟩;have kk:Z [] wr W1:=by rw[H];exact(Z.refl _ _).alloc _
   have hX:W1.heap[wr.heap.size]?=some (cV #[Y nm,Y tx] 206):=by rw[H];exact aY wr _
   have⟨W2,es2,ck2,ru2,mp2,k2,s2⟩:=qe (mp1.kept kk (by simp)) nm tx n1;have⟨W3,es3,ck3,ru3,mp3,k3,s3⟩:=qe mp2 (nm++⟨#[59]⟩) tx n2;have am:=eS mp1.at_;have av:=eS u;have bN:d.heap.size≠w10.heap.size:=λe=>by rw[<-e,mp1.at_]at u;simp at u
   have bG:d.heap.size≠w10.heap.size+1:=λe=>by rw[<-e,mp1.at_]at hG;simp at hG
   have U:d.heap.size≠w.heap.size:=λe=>by rw[<-e,mp1.at_]at hR;simp at hR
   have a3:=kk.at u (by simp);have a4:=k2.at a3 (by grind);have a5:=k2.at hX (by simp;omega);have a0:=aN u 0;have a1:=aN a3 0;have a2:=aN a4 0;have y0:=aN hX 0;have y1:=aN hX 1;have z0:=aN a5 0;have z1:=aN a5 1;dsimp at a0 a1 a2 y0 y1 z0 z1;have HE:Hid (ajd w w10.heap.size d.heap.size (j+1) W3):=by
    refine⟨⟨es3,ck3,by rw[C];exact mp3⟩,k3.at a4 (by grind),k3.at (k2.at (kk.at hG (by simp)) (by grind)) (by grind),k3.at (k2.at (kk.at hR (by simp)) (by grind)) (by grind),?_⟩;have ay:=D.out;exact((hk.trans kk).next k2 (by simp;omega)).next k3 (by simp;omega)
   rw[H]at ru2;clear a1 y0 y1 mp1 u hG hR hk rc n1 n2 C kk hX mp2 k2 s2 mp3 k3 s3 a3 a4 a5 bN bG U am;clear H;go_wp2;go_roundw
   case rel=>exact⟨j+1,by go_num,by omega,HE.out⟩
   case measure=>simp[intOf];omega
  .have al:j=10:=by omega
   subst al;have⟨⟨es1,ck1,mp1⟩,u,hG,hR,hk⟩:=h1;have a0:=aN u 0;dsimp at a0;have ao:=run_range_map (P:=prog) wr 159 9 205 d.heap.size es1 ck1 underlying159 mp1.at_;have ki:Z [] wr (wr.alloc (.mapIter (some d.heap.size) ck1 #[] ck1)):=(Z.refl _ _).alloc _;have aa:Hid (aje w w10.heap.size d.heap.size wr.heap.size es1 ck1 (wr.alloc (.mapIter (some d.heap.size) ck1 #[] ck1)) #[] ck1 0):=
    ⟨aY wr _,dr _,mp1.kept ki (by simp),ki.at u (by simp),ki.at hR (by simp),by omega,by simp,hk.trans ki,by simp⟩
   have bI:w10.heap.size≠wr.heap.size:=by have:=eS u;omega
   have U:w.heap.size≠wr.heap.size:=by have:=eS hR;omega
   have bM:d.heap.size≠wr.heap.size:=by have:=eS mp1.at_;omega
   have y:w.heap.size≠w10.heap.size:=by have:=Hz.out;omega
   have x:w10.heap.size≠d.heap.size:=by have:=Hz.out;have:=D.out;omega
   have a9:=(show w.heap.size<=wr.heap.size from hk.size);have Hb:=And.intro bI (And.intro U (And.intro bM (And.intro y x)));clear mp1 u hG hR hk ki bI U bM y x;go_wp21;clear ao a0;obtain⟨A,ae⟩:∃A,A=wr.heap.size:=⟨_,rfl⟩;rw[<-ae]at aa Hb a9|-;clear ae
   go_loopw [] (λwq=>∃l c0 M,aje w w10.heap.size d.heap.size A es1 ck1 wq l c0 M) (λwq=>(leftOf es1 (wq.iterSeen A)).size)
   case atStart=>exact⟨_,_,_,aa.out⟩
   case round=>
    have⟨l,c0,M,h2⟩:=hrel;have⟨bI,U,bM,y,x⟩:=Hb;have a8:wr.iterSeen A=l:=by unfold World.iterSeen;rw[h2.iter]
    rcases run_next_at (P:=prog) wr 0 A d.heap.size ck1 c0 l es1 ck1 h2.iter h2.mp.at_ h2.mp.old h2.late with⟨h0,X⟩|⟨F,a6,wv,ap,X⟩
    .have hM:M=8:=by
      have h8:=abY;rw[List.any_eq_true]at h8;have⟨p,hp,ah⟩:=h8;have⟨e,he,hk⟩:=ac7 h2.mp.kvs hp;have h9:=h2.OW e he (all_seen es1 l h0 e he);rw[hk]at h9;have ar:p.1.size=8:=by simpa using ah
      have au:p.1.size<=M:=h9;have:=h2.le;omega
     subst hM;have n0:=aN h2.nam 0;have n1:=aN h2.nam 1;have d0:=aN h2.res 0;have d1:=aN h2.res 1;have f0:=cQ h2.res 0;have f1:=cQ h2.res 1;dsimp at n0 n1 d0 d1;have HK:Z [] w ((wr.setCell ⟨w.heap.size,0,none⟩ (.map (some d.heap.size))).setCell ⟨w.heap.size,1,none⟩ (G 8)):=(h2.kept.setCell (.inr (dr _)) _).setCell (.inr (dr _)) _;have kr:Z [w.heap.size] wr ((wr.setCell ⟨w.heap.size,0,none⟩ (.map (some d.heap.size))).setCell ⟨w.heap.size,1,none⟩ (G 8)):=((Z.refl _ _).setCell (.inl (by simp)) _).setCell (.inl (by simp)) _;have HL:=((h2.mp.kept kr (by simp;have:=D.out;omega)).lk QX);have an:w.heap.size<=d.heap.size:=by have:=D.out;omega
     clear h2 a8 h0 kr bI U bM y x;go_wp2;refine nr (v:=.agg #[.map (some d.heap.size),G 8]) ?_ rfl ⟨_,rfl,an,HL,HK⟩;simp[results,results61,asAddr,Result.andThen,go_sem,d0,d1]
    .have⟨he1,he2⟩:=mem_left a6;have⟨p,hp,hkey⟩:=aj5 h2.mp.kvs he1;have ah:p.1.size<=8:=by
      have:=List.all_eq_true.1 afG p hp
      simpa using this
     have aq:=left_shrinks es1 l F a6;obtain⟨K,I⟩:∃K,K=setBlock wv A (.mapIter (some d.heap.size) ck1 (l.push F.born) ck1):=⟨_,rfl⟩;rw[<-I,hkey]at X;have q:Z [] wr wv:=by rcases ap with rfl|rfl;exact Z.refl _ _;exact(Z.refl _ _).drew
     have kz:Z [A] wv K:=by rw[I];exact AY (Z.refl _ _) (.inl (by simp)) _
     have iz:K.heap[A]?=some (.mapIter (some d.heap.size) ck1 (l.push F.born) ck1):=by rw[I];exact Gv (kL h2.size q.size) _
     have mz:=(h2.mp.kept q (by simp)).kept kz (by simpa using bM);have nz:=kz.at (q.at h2.nam (by simp)) (by simpa using bI);have rz:=kz.at (q.at h2.res (by simp)) (by simpa using U);have ad:=run_entry_at (P:=prog) K A d.heap.size ck1 l es1 ck1 F iz mz.at_ he1 mz.nod;rw[hkey]at ad;have n1:=aN nz 1;have f1:=cQ nz 1;dsimp at n1;have aw:max (M:Int) (p.1.size:Int)=((max M p.1.size:Nat):Int):=by omega
     have C:Z [w10.heap.size] K (K.setCell ⟨w10.heap.size,1,none⟩ (G ((max M p.1.size:Nat)))):=(Z.refl _ _).setCell (.inl (by simp)) _;have aj:=bJ nz 1 (G ((max M p.1.size:Nat)));have HE:Hid (aje w w10.heap.size d.heap.size A es1 ck1 (K.setCell ⟨w10.heap.size,1,none⟩ (G ((max M p.1.size:Nat)))) (l.push F.born) ck1 (max M p.1.size)):=by
      refine⟨C.at iz (by simpa using λe=>bI e.symm),dr _,mz.kept C (by simpa using λe=>x e.symm),aj,C.at rz (by simpa using y),by have:=h2.le;omega,?_,?_,?_⟩;intro e he hc;rw[contains_push]at hc;rcases Bool.or_eq_true_iff.1 hc with h|h;have:=h2.OW e he h;omega;have e1:e.born=F.born:=by simpa using h
      have e2:e=F:=by
       have q1:=find_born e es1.toList h2.mp.nod he;have q2:=find_born F es1.toList h2.mp.nod he1;rw[e1,q2]at q1;exact(je q1).symm
      rw[e2,hkey];show p.1.size<=_;omega
      .have az:=Hz.out;have aA:=eS h2.res;exact((h2.kept.trans q).next kz (by simp;exact a9)).next C (by simp;omega)
      exact kL h2.size (fK q.size (fK kz.size C.size))
     have ax:(K.setCell ⟨w10.heap.size,1,none⟩ (G ((max M p.1.size:Nat)))).iterSeen A=l.push F.born:=by unfold World.iterSeen;rw[HE.out.iter]
     clear h2 mz nz rz iz q kz C aj I he1 he2 a6 hp hkey bI U bM y x;generalize p.1=aB at *;go_wp2;go_roundw
     case rel=>exact⟨_,_,_,HE.out⟩
     simp_all
def yM(s:O)(i:Nat):Bool:=!(decide (bt s i=10)&&decide (0<i)&&decide (bt s (i-1)=13))
def cU(s:O)(n:Nat):List Nat:=(List.range n).filter (yM s)
def chI(s:O)(k:Nat):Int:=if bt s k=13 then 10 else bt s k
def chB(s:O)(k:Nat):UInt8:=(chI s k).toNat.toUInt8
def qm(s:O):O:=⟨((cU s s.size).map (chB s)).toArray⟩
theorem Hq(h:yM s n=true):cU s (n+1)=cU s n++[n]:=by grind[List.range_succ,cU]
theorem Va(h:yM s n=false):cU s (n+1)=cU s n:=by grind[List.range_succ,cU]
theorem Hp(s:O)(n:Nat):(cU s n).length<=n:=by
 grind[cU]
theorem uF(s:O):(qm s).size=(cU s s.size).length:=by show(((cU s _).map _).toArray).size=_;simp
theorem ZQ(s:O)(k:Nat):0<=chI s k/\chI s k<=255:=by
 have d:=bt_nonneg s k;have e:=bt_le s k;grind[chI]
theorem MQ(s:O)(k:Nat):((chB s k).toNat:Int)=chI s k:=by
 have:=ZQ s k;unfold chB;simp;omega
def Ei(s:O)(n:Nat):List cY:=(cU s n).map λk=> .int .u8 (chI s k)
def Bf(s:O)(n:Nat):List cY:=(cU s n).map λk:Nat=> G k
theorem oO{x y:Nat}{e1 e2:TypeId}{I K:Nat}{q u:cY}{F H:Nat}{U X:List cY}(z:w.ownsRow x e1 I q F U)(A:w.ownsRow y e2 K u H X)(D:e1≠e2)(k:Nat)(e:q.ownBlock=some k):u.ownBlock≠some k:=by
 intro d;rcases z.2 with⟨h,_⟩|⟨g1,c1,u1,h,_,B,_⟩;rw[h]at e;cases e;rcases A.2 with⟨l,_⟩|⟨g2,c2,u2,l,_,C,_⟩;rw[l]at d;cases d;rw[h]at e;rw[l]at d;obtain rfl:=je e;obtain rfl:=je d;grind
def Sy:(prog.info? 3).map (λi=>(i.zero,i.size,i.bytes))=some (some (G 0),1,8):=by kernel_rfl
theorem Kt{l:List UInt8}(e:w.ownsRow base 5 1 v n (l.map λb=> .int .u8 (b.toNat:Int)))(B:l.length=n)(u:∀k,v.ownBlock=some k->w'.heap[k]?=w.heap[k]?):
  (convert 58 9 v).run prog w'=.ok (Y ⟨l.toArray⟩) w':=by
 rcases e.2 with⟨rfl,x⟩|⟨g,d,q,rfl,y,z,C⟩;have:l=[]:=QJ (by omega);subst this;have:=run_convert_bytes_nil (w:=w') 58 5 underlying58 underlying5 0 0;exact this 9 underlying9;have h:=FA w' 58 9 5 ⟨g,0,none⟩ d l underlying58 underlying5 underlying9 (λj A=>by
  rw[afm (w:=w) (by rw[eL];exact u g rfl)];exact e.cells rfl j _ (by grind))
 grind
structure QV(s:O)(w:J)(k:Nat)(vb va:cY)(wr:J):Prop where
 b:wr.ownsRow w.heap.size 5 1 vb (cU s k).length (Ei s k)
 a:wr.ownsRow w.heap.size 3 1 va (cU s k).length (Bf s k)
 kept:Z [] w wr
theorem QV.more{e d:cY}(u:yM s k=true){x:Int}(y:x=chI s k)(l:W.ownsRow w.heap.size 5 1 e ((cU s k).length+1) (Ei s k++[.int .u8 x]))(h:W.ownsRow w.heap.size 3 1 d ((cU s k).length+1) (Bf s k++[G k]))(q:Z [] w W):QV s w (k+1) e d W:=by
 refine⟨?_,?_,q⟩;unfold Ei at l|-;grind[Hq];unfold Bf at h|-;grind[Hq]
theorem QV.same{q l:cY}(x:yM s k=false)(h:QV s w k q l W):QV s w (k+1) q l W:=by
 obtain⟨d,e,u⟩:=h;unfold Ei at d;unfold Bf at e;rw[<-Va x]at d e;exact⟨d,e,u⟩
theorem K9{ops:Array Oper}{l:List Oper}{y:Oper}{d:Act}{Q:Exit->Act->J->Prop}{e A e2:TypeId}{z c:cY}{q:Nat}(hi:(prog.info? e).map (λi=>(i.zero,i.size,i.bytes))=some (some z,1,q))(hu:prog.underlying A=some (.slice e))(hz:z.cells.size=1)(X:q<=8)(hc:c.oneCell'=true)(a0:e≠e2)(H U:Operand)(B:y.guard=none)(ho:y.op=.call {callee:=.builtin .append,args:=#[H,U],argTypes:=#[A,A]}){I:cY}{no:Nat}{xo:List cY}(h:W.ownsRow w.heap.size e 1 v n xs)(hO:W.ownsRow w.heap.size e2 1 I no xo)(hk:Z [] w W)(hs:d.eval H=v)(hx:d.eval U=ky W.heap.size 1 1)(hn:n<=2000)
  (K:∀v' x,x.ownsRow w.heap.size e 1 v' (n+1) (xs++[c])->x.ownsRow w.heap.size e2 1 I no xo->Z [] w x->wpList prog ops Q l (d.put y.dst v') x):wpList prog ops Q (y::l) d (W.alloc (cV #[c] e)):=by
 obtain⟨i0,hi,C,D,F⟩:=rQ hi;refine fw _ B H U A ho _ e i0 z 1 q hu hi C D F hz (by decide) v n xs hs (h.alloc _) _ 1 1 [c] hx rfl (λj u hj=>?_) (λu hu=>by grind) (by unfold maxLen;omega) (fK (Nat.mul_le_mul_left _ X) (by omega)) (by have:=hk.size;grind[World.size_alloc]) λv' x h3 hg _=>K v' x h3 ?_ ((hk.alloc _).grown hg λk e=> .inr (h.lt k e).1);rw[eL,aN (aY W _)];grind
 .refine(hO.alloc _).kept hg ?_;cases X:I.ownBlock<;>grind[oO]
def adk(s:O)(tv:cY)(base:Nat)(w:J)(ho:w.ownsRow base 5 1 tv s.size (iq s))(hs:s.size<=1024):
  Calls prog 62 #[tv] w λe w'=>∃av,e=dw (.tuple #[Y (qm s),av])/\w'.ownsRow w.heap.size 3 1 av ((cU s s.size).length+1) (Bf s s.size++[G s.size])/\Z [] w w':=by
 obtain⟨iu,aM,aP,aQ,aR⟩:=rQ H6;obtain⟨ii,aA,aw,ay,az⟩:=rQ Sy;obtain⟨ao,cp,aD⟩:=cP ho;subst aD;have D:∀(wr:J),Z [] w wr->∀j,j<s.size->∃g,ao=some ⟨g,0,none⟩/\wr.cell? ⟨g,j,none⟩=some (.int .u8 (bt s j)):=by
  intro wr K j hj;rcases ho.2 with⟨h,h0⟩|⟨g,ap,aK,h,_,hc,_⟩;omega;have a0:ao=some ⟨g,0,none⟩:=by simpa using oX (λv=>match v with| .slice a _ _=>a|_=>none) h
  refine⟨g,a0,?_⟩;rw[K.cell (p:=⟨g,j,none⟩) (eS hc) (by simp)];have h1:=ho.cells (g:=g) (by rw[h];rfl) j (.int .u8 (bt s j)) (by
   unfold iq;rw[List.getElem?_map,pU (by simpa using hj)];simp only[Option.map_some];rw[show((s.data.toList[j]'(by simpa using hj)).toNat:Int)=bt s j from by unfold bt;rw[wI hj];simp;rfl])
  rw[eL]at h1;exact h1
 have HC:=V D;have H0:Hid (QV s w 0 (gq) (gq) w):=⟨mh _ _ _ _,mh _ _ _ _,Z.refl _ _⟩;clear D ho;go_enter func62,ntmps62;go_wp2_with fail
 go_loopw [4,5,10] (λvb va v wr=>∃k:Nat,v=G k/\k<=s.size/\QV s w k vb va wr) (λ_ _ v _=>s.size-(intOf v).toNat)
 case atStart=>exact⟨0,rfl,yQ _,H0.out⟩
 case round=>
  obtain⟨k,rfl,K,y⟩:=hrel;by_cases aB:k<s.size
  .obtain⟨g,a0,c1⟩:=HC.out wr y.kept k aB;subst a0;have HH:=V y;obtain⟨bo,bc,H⟩:=cP y.b;obtain⟨ax,ac,F⟩:=cP y.a;subst H F;have h0:=bt_nonneg s k;have h1:=bt_le s k;have ar:=Hp s k;have B:0<k->wr.cell? ⟨g,k-1,none⟩=some (.int .u8 (bt s (k-1))):=λ_=>by
    obtain⟨g',q,B⟩:=HC.out wr y.kept (k-1) (by omega);obtain rfl:g=g':=by simpa using q
    exact B
   clear y;cases hkp:yM s k with
   |false=>
    have hq:bt s k=10/\0<k/\bt s (k-1)=13:=by unfold yM at hkp;simp at hkp;exact⟨hkp.1.1,hkp.1.2,hkp.2⟩
    obtain⟨d,A,l⟩:=hq;replace B:=B A;have HE:=V (HH.out.same hkp);rw[d]at c1;rw[l]at B;obtain⟨m,rfl⟩:∃m,k=m+1:=⟨k-1,by omega⟩;simp only[Nat.add_sub_cancel]at B;generalize (cU s (m+1)).length=aS at *;go_wp2;go_roundw
    case rel=>exact⟨m+1+1,by go_num,by omega,HE.out⟩
    case measure=>simp[intOf];omega
   |true=>
    have hq:∃x,x=chI s k/\((x=10/\bt s k=10/\k=0)\/(x=10/\bt s k=10/\0<k/\¬bt s (k-1)=13)\/(x=10/\bt s k=13)\/(x=bt s k/\¬bt s k=10/\¬bt s k=13)):=by
     refine⟨_,rfl,?_⟩;unfold yM at hkp;unfold chI;simp at hkp;by_cases d:bt s k=10;by_cases A:k=0;exact .inl ⟨by simp[d],d,A⟩;exact .inr (.inl ⟨by simp[d],d,by omega,hkp.resolve_left (by simp[d,A])⟩);by_cases l:bt s k=13;exact .inr (.inr (.inl ⟨by simp[l],l⟩));exact .inr (.inr (.inr ⟨by simp[l],d,l⟩))
    obtain⟨x,hx,hq⟩:=hq;have HX:=V hx;have ak:=V hkp;clear hx hkp;rcases hq with⟨rfl,d,rfl⟩|⟨rfl,d,A,l⟩|⟨rfl,l⟩|⟨rfl,d,l⟩;rw[d]at c1;clear B
    rotate_left
    replace B:=B A;rw[d]at c1;obtain⟨m,rfl⟩:∃m,k=m+1:=⟨k-1,by omega⟩;simp only[Nat.add_sub_cancel]at B l;have m0:=bt_nonneg s m;have m1:=bt_le s m
    rotate_left
    rw[l]at c1;clear B
    rotate_left
    clear B
    rotate_left
    all_goals
     go_wp2_with (at_builtin;refine K9 H6 underlying58 rfl (by decide) rfl (e2:=3) (by decide) _ _ rfl rfl HH.out.b HH.out.a HH.out.kept rfl rfl (by omega) ?_);intro aU w2 a1 a9 U;obtain⟨aI,aH,H⟩:=cP a1;subst H;have am:=V a1;have ai:=V a9;have aj:=V U;clear a1 a9 U c1;go_wp2_with (at_builtin;refine K9 Sy underlying33 rfl (by decide) rfl (e2:=5) (by decide) _ _ rfl rfl ai.out am.out aj.out rfl rfl (by omega) ?_);intro aT w3 a2 aa ae;obtain⟨aF,aE,F⟩:=cP a2;subst F;have HE:=V (QV.more ak.out HX.out aa a2 ae);clear a2 aa ae;go_wp2;go_roundw
     case rel=>exact⟨_,by go_num,by omega,HE.out⟩
     case measure=>simp[intOf];omega
  .have U:k=s.size:=by omega
   subst U;have HH:=V y;obtain⟨bo,bc,H⟩:=cP y.b;obtain⟨ax,ac,F⟩:=cP y.a;subst H F;have ar:=Hp s s.size;have ab:Ei s s.size=((cU s s.size).map (chB s)).map λb=> .int .u8 (b.toNat:Int):=by
    unfold Ei;rw[List.map_map];refine aft λk _=>?_;simp only[Function.comp];rw[MQ]
   have z:=y.b;rw[ab]at z;obtain⟨X,I⟩:∃X,X=(wr.alloc (.cells #[G s.size] 3)).drew:=⟨_,rfl⟩;have ka:Z [] wr X:=by rw[I];exact((Z.refl [] wr).alloc _).drew
   have oa:=ka.ownsRow y.a (λ_ _=>by simp);have za:X.heap.size=wr.heap.size+1:=by rw[I];simp
   have aC:=y.kept.size;have a7:=V oa;have a6:Hid (∀(j:Nat)(u:cY),[Value.int .i64 (s.size:Int)][j]?=some u->X.cell? ((⟨wr.heap.size,0,none⟩:Addr).add j)=some u):=by
    intro j u hj
    match j,hj with
    |0,hj=>
     simp at hj;subst hj;have:=aY wr (.cells #[G s.size] 3);rw[eL,I];rw[aN (w:=(wr.alloc (.cells #[G s.size] 3)).drew) (b:=wr.heap.size) this];rfl
   have ag:∀k,(Value.slice bo (cU s s.size).length bc).ownBlock=some k->some k≠(Value.slice ax (cU s s.size).length ac).ownBlock:=λk K h=>oO y.b y.a (by decide) k K h.symm;have aq:=Kt (w':=wr.drew) z (by simp) (λ_ _=>rfl);have a8:=Kt (w':=X) z (by simp) (λk K=>ka.block k (z.lt k K).2 (by simp));have a4:Hid (∀C:J,X.grownBy C (Value.slice ax (cU s s.size).length ac).ownBlock->(convert 58 9 (.slice bo (cU s s.size).length bc)).run prog C=.ok (Y (qm s)) C):=λC q=>
    Kt (w':=C) z (by simp) (λk K=>(q.block k (by have:=(z.lt k K).2;omega) (ag k K)).trans (ka.block k (z.lt k K).2 (by simp)))
   have a5:Hid (∀C:J,X.grownBy C (Value.slice ax (cU s s.size).length ac).ownBlock->Z [] w C):=λC q=>(y.kept.trans ka).grown q (λx hx=> .inr (y.a.lt x hx).1);have a3:=V (show w.heap.size<=X.heap.size by omega);rw[I]at a8 a4 a5 a7 a6 a3;clear y ab z I ka oa za aC ag HC;have ad:(⟨((cU s s.size).map (chB s)).toArray⟩:O)=qm s:=rfl;rw[ad]at aq a8;clear ad;go_wp2_with fail
   go_region_law (refine step_append_lies _ rfl (.tmp 42) (.tmp 45) 33 rfl w.heap.size 3 ii (G 0) 1 8 underlying33 aA aw ay az rfl (by decide) _ _ _ (by simp[Act.eval]) a7.out ⟨wr.heap.size,0,none⟩ 1 1 [G s.size] (by simp[Act.eval,Act.put]) rfl a6.out (by intro u hu;simp at hu;subst hu;rfl) (by decide) (by unfold maxLen;omega) (by omega) a3.out (wr.heap.size+1) (by simp) ?_;intro g ap C ah q au af;have aL:=a4.out C q;have al:=V (a5.out C q);have an:=V ah;clear ah q au af)
   all_goals (try go_wp2)
   all_goals (try go_ret2)
   all_goals exact⟨_,rfl,an.out,al.out⟩
def gy(s:O)(i:Nat):Nat:=(cU s s.size++[s.size]).getD i 0
theorem Zu(s:O)(i:Nat)(h:i<=(qm s).size):(Bf s s.size++[G s.size])[i]?=some (G (gy s i)):=by
 grind[uF,Bf,gy]
def vQ(s:O)(d:Int)(e:cY)(b:Nat):RC:={cs:=qm s,av:=e,at_:=d,mv:=.map (some b),lg:=8}
theorem Mg(s:O)(tv:cY)(base:Nat)(l:Int)(w:J)(ho:w.ownsRow base 5 1 tv s.size (iq s))(hs:s.size<=1024):
  Calls prog 47 #[tv,G l] w λe w'=>∃r b C g d,e=dw (cW r)/\w.heap.size<=r/\w.heap.size<=b/\w.heap.size<=g/\Rd w' r (vQ s l C b) 0 0/\MH w' r (vQ s l C b) g d (gy s)/\Lk w' b (mJ KV)/\b≠r/\(∃D,w'.heap[g]?=some (cV D 3))/\Z [] w w':=by
 have⟨ao,cp,htv⟩:=cP ho;subst htv;have HO:=V ho;clear ho;go_enter func47,ntmps47;go_wp21;refine(TL w).mono ?_;rintro e u⟨b,rfl,Hb,HL,z⟩;have k2:Z [] u (u.alloc (.cells #[Y gU,gq,G 0,G 0,G l,.map (some b),G 8,Y gU,.bool false] 164)):=(Z.refl _ _).alloc _;have HR:=aY u (.cells #[Y gU,gq,G 0,G 0,G l,.map (some b),G 8,Y gU,.bool false] 164);have CF:=adk s (.slice ao s.size cp) base _ ((z.trans k2).ownsRow HO (λ_ _=>by simp)) hs;have H:=z.trans k2;have I:=z.size;go_wp21;refine CF.mono ?_;rintro e w2⟨C,rfl,y,A⟩;have x:=A.at HR (by simp);have c0:=aN x 0;have c1:=aN x 1;have f0:=cQ x 0;have f1:=cQ x 1;dsimp at c0 c1;have⟨ax,ac,hv⟩:=cP y;subst hv;obtain⟨q,B⟩:∃q,q=(w2.setCell ⟨u.heap.size,0,none⟩ (Y (qm s))).setCell ⟨u.heap.size,1,none⟩ (.slice ax ((cU s s.size).length+1) ac):=⟨_,rfl⟩;have F:Z [u.heap.size] w2 q:=by rw[B];exact((Z.refl _ _).setCell (.inl (by simp)) _).setCell (.inl (by simp)) _
 have rz:Rd q u.heap.size (vQ s l (.slice ax ((cU s s.size).length+1) ac) b) 0 0:=by
  rw[B];exact bJ (bJ x 0 _) 1 _
 have mq:b<u.heap.size:=HL.lt;have U:Lk q b (mJ KV):=((HL.kept ((Z.refl [] u).alloc _) (by simp)).kept A (by simp)).kept F (by simp;omega);have K:∃g d,(w.heap.size<=g/\∃D,q.heap[g]?=some (cV D 3))/\MH q u.heap.size (vQ s l (.slice ax ((cU s s.size).length+1) ac) b) g d (gy s):=by
  rcases y.2 with⟨_,h0⟩|⟨g,d,a1,h,X,hc,_⟩;omega;have a2:u.heap.size<g:=by simp at X;omega
  refine⟨g,d,⟨by omega,⟨_,F.at hc (by simp;omega)⟩⟩,?_,by omega,kL (eS hc) F.size,λi hi=>?_⟩;show Value.slice ax _ ac=_;rw[h];show Value.slice _ _ _=Value.slice _ ((qm s).size+1) _;grind[uF];rw[F.cell (p:=⟨g,i,none⟩) (eS hc) (by simp;omega)];have:=y.cells (g:=g) (by rw[h];rfl) i _ (Zu s i hi);grind[eL]
 have⟨g,d,⟨hgl,hgt⟩,hA⟩:=K;have a0:Z [] w q:=(H.trans A).next F (by grind)
 have HF:Hid (∃r b C g d,dw (cW u.heap.size)=dw (cW r)/\w.heap.size<=r/\w.heap.size<=b/\w.heap.size<=g/\Rd q r (vQ s l C b) 0 0/\MH q r (vQ s l C b) g d (gy s)/\Lk q b (mJ KV)/\b≠r/\(∃D,q.heap[g]?=some (cV D 3))/\Z [] w q):=by
  exact⟨_,b,_,g,d,rfl,I,Hb,hgl,rz,hA,U,by omega,hgt,a0⟩
 rw[B]at HF;go_wp2;go_ret;exact HF
structure Sp where
 k:Int
 a:Int
 b:Int
structure aaM(w:J)(g off n:Nat)(A:Nat->Sp):Prop where
 c0:∀i,i<n->w.cell? ⟨g,off+i*3,none⟩=some (G (A i).k)
 c1:∀i,i<n->w.cell? ⟨g,off+i*3+1,none⟩=some (G (A i).a)
 c2:∀i,i<n->w.cell? ⟨g,off+i*3+2,none⟩=some (G (A i).b)
def aas(w:J)(q:Nat)(a:Addr):(w.drewN q).cell? a=w.cell? a:=rfl
theorem Tk{e:TypeId}{d l:Nat}(h:w.ownsRow base e d (ky g n l) n xs)(u:cY):(w.setCell ⟨g,j,none⟩ u).ownsRow base e d (ky g n l) n (xs.set j u):=by
 have⟨h1,x⟩:=h;refine⟨by grind,?_⟩;rcases x with⟨x,_⟩|⟨F,y,q,D,B,C,z,A,H,I⟩;cases x;obtain⟨rfl,rfl⟩:=D;refine .inr ⟨g,l,q.setIfInBounds j u,rfl,B,bJ C j u,z,A,by grind,?_⟩;grind[List.take_set]
def gx(L:List Sp):List cY:=L.flatMap λp=>[G p.k,G p.a,G p.b]
def sX(L M:List Sp):gx (L++M)=gx L++gx M:=by simp[gx]
theorem pS(L:List Sp):(gx L).length=L.length*3:=by
 induction L with
 |nil=>rfl
 |cons p L ih=>show(Value.int .i64 p.k:: G p.a:: G p.b::gx L).length=_;grind
theorem Ff(M:List Sp)(l:Sp)(i:Nat)(hi:i<3):(gx (M++[l]))[M.length*3+i]?=[Value.int .i64 l.k,G l.a,G l.b][i]?:=by
 rw[sX,afu (by grind[pS]),pS,show M.length*3+i-M.length*3=i by omega];rfl
theorem Xd(M:List Sp)(l:Sp)(b:Int):(gx (M++[l])).set (M.length*3+2) (G b)=gx (M++[⟨l.k,l.a,b⟩]):=by
 rw[sX,sX,List.set_append_right _ _ (by grind[pS]),pS,show M.length*3+2-M.length*3=2 by omega];rfl
def rX(L:List Sp)(s:Sp):List Sp:=match L.getLast? with
 |some l=>if s.k=1/\l.k=1 then L.dropLast++[⟨l.k,l.a,s.b⟩]else L++[s]
 |none=>L++[s]
theorem ZC(M:List Sp)(l s:Sp)(h:s.k=1/\l.k=1):rX (M++[l]) s=M++[⟨l.k,l.a,s.b⟩]:=by grind[rX]
def ace(M:List Sp)(l s:Sp)(h:¬(s.k=1/\l.k=1)):rX (M++[l]) s=M++[l]++[s]:=by unfold rX;simp[h]
theorem ML(L:List Sp)(s:Sp):(rX L s).length<=L.length+1:=by
 grind[rX]
def Nn:(prog.info? 75).map (λi=>(i.zero,i.size,i.bytes))=some (some (.agg #[G 0,G 0,G 0]),3,24):=by kernel_rfl
def xI(base:Nat)(w:J)(v:cY)(L:List Sp)(s:Sp)(e:Ending)(w':J):Prop:=
 ∃v',e=dw v'/\w'.ownsRow base 75 3 v' (rX L s).length (gx (rX L s))/\Z v.ownBlock.toList w w'
theorem Ol{ops:Array Oper}{e:List Oper}{l:Oper}{d:Act}{Q:Exit->Act->J->Prop}{o:Obj}{k a b:Int}(F H:Operand)(y:l.guard=none)(z:l.op=.call {callee:=.builtin .append,args:=#[F,H],argTypes:=#[25,25]})(ho:w.ownsRow base 75 3 v n xs)(q:base<=w.heap.size)(hn:n<=5000)(hs:d.eval F=v)(A:d.eval H=ky (w.heap.size+1) 1 1)
  (K:∀v' h,h.ownsRow base 75 3 v' (n+1) (xs++[G k,G a,G b])->Z v.ownBlock.toList w h->wpList prog ops Q e (d.put l.dst v') h):wpList prog ops Q (l::e) d ((w.alloc o).alloc (cV #[G k,G a,G b] 75)):=by
 obtain⟨i0,hi,B,C,D⟩:=rQ Nn;refine fw _ y F H 25 z base 75 i0 _ 3 24 underlying25 hi B C D rfl (by decide) v n xs hs ((ho.alloc _).alloc _) _ 1 1 _ A rfl (λj u hj=>?_) (λu I=>by simp at I;rcases I with rfl|rfl|rfl<;>rfl) (by unfold maxLen;omega) (by omega) (by simp;omega) λv' h U X _=>K v' h U (((Z.refl _ _).alloc _|>.alloc _).grown X (λx A=> .inl (by simp[A])));have q:=aY (w.alloc o) (cV #[G k,G a,G b] 75);simp only[xD]at q;rw[eL,aN q];grind
def Q8(base:Nat)(v:cY)(s:Sp)(w:J)(l:w.ownsRow base 75 3 v 0 (gx []))(z:base<=w.heap.size):
  Calls prog 54 #[v,.agg #[G s.k,G s.a,G s.b]] w λe w'=>xI base w v [] s e w':=by
 obtain⟨x,y,A⟩:=cP l;subst A;obtain⟨D,B,C⟩:=s;simp only;have u:=V l;clear l;go_enter func54,ntmps54;go_wp2_with (at_builtin;refine Ol _ _ rfl rfl u.out z (by omega) rfl rfl ?_);intro v' F h d;have q:=V (show xI base w (.slice x 0 y) [] ⟨D,B,C⟩ (dw v') F from⟨v',rfl,h,d⟩);clear h d;go_wp2;go_ret;exact q.out
theorem OE(base:Nat)(v:cY)(M:List Sp)(l s:Sp)(w:J)(u:w.ownsRow base 75 3 v (M.length+1) (gx (M++[l])))(I:base<=w.heap.size)(hM:M.length<=4096)(d:¬(s.k=1/\l.k=1)):
  Calls prog 54 #[v,.agg #[G s.k,G s.a,G s.b]] w λe w'=>xI base w v (M++[l]) s e w':=by
 obtain⟨g,z,U⟩:∃g z,v=ky g (M.length+1) z:=by
  rcases u.2 with⟨_,h0⟩|⟨g,F,H,h,_⟩
  all_goals grind
 subst U;have hg:g<w.heap.size:=(u.lt g rfl).2;have c0:w.cell? ⟨g,M.length*3,none⟩=some (G l.k):=by
  have:=u.cells (g:=g) rfl (M.length*3) _ (by have:=Ff M l 0 (by omega);simpa using this);rw[eL]at this;exact this
 obtain⟨y,X,sb⟩:=s;simp only at d|-;have B:=V (ace M l ⟨y,X,sb⟩ d);have D:=V u;clear u;have K:y=1/\¬l.k=1\/¬y=1:=by
  by_cases A:y=1;grind;exact .inr A
 clear d;rcases K with⟨rfl,hl⟩|A
 all_goals
  go_enter func54,ntmps54;go_wp2_with (at_builtin;refine Ol _ _ rfl rfl D.out I (by omega) rfl rfl ?_);intro v' w3 x q;have C:=V (show xI base w (ky g (M.length+1) z) (M++[l]) _ (dw v') w3 from⟨v',rfl,by rw[B.out,sX _ [_],XD,XD];exact x,q⟩);clear x q;go_wp2;go_ret;exact C.out
theorem OD(base:Nat)(v:cY)(M:List Sp)(l s:Sp)(w:J)(d:w.ownsRow base 75 3 v (M.length+1) (gx (M++[l])))(U:M.length<=4096)(y:s.k=1)(hl:l.k=1):
  Calls prog 54 #[v,.agg #[G s.k,G s.a,G s.b]] w λe w'=>xI base w v (M++[l]) s e w':=by
 have⟨sk,sa,sb⟩:=s;simp only at y|-;subst y;obtain⟨g,q,B⟩:∃g q,v=ky g (M.length+1) q:=by
  rcases d.2 with⟨_,I⟩|⟨g,A,u,h,_⟩
  all_goals grind
 subst B;have hg:g<w.heap.size:=(d.lt g rfl).2;have C:w.cell? ⟨g,M.length*3,none⟩=some (G 1):=by
  have:=d.cells (g:=g) rfl (M.length*3) _ (by have:=Ff M l 0 (by omega);simpa using this)
  rwa [eL,hl]at this
 have D:w.cell? ⟨g,M.length*3+2,none⟩=some (G l.b):=by
  have:=d.cells (g:=g) rfl (M.length*3+2) _ (by have:=Ff M l 2 (by omega);simpa using this)
  rwa [eL]at this
 have F:w.frozen? ⟨g,M.length*3+2,none⟩=false:=by
  rcases d.2 with⟨h,_⟩|⟨H,x,u,h,_,X,_⟩;cases h;grind[cQ]
 have z:Hid (xI base w (ky g (M.length+1) q) (M++[l]) ⟨1,sa,sb⟩ (dw (ky g (M.length+1) q)) ((w.setCell ⟨g,M.length*3+2,none⟩ (G sb)).alloc (.cells #[G 1,G sa,G sb] 75))):=by
  refine⟨_,rfl,?_,?_⟩;rw[ZC M l _ ⟨rfl,hl⟩];have K:=Tk (j:=M.length*3+2) d (G sb);grind[World.ownsRow.alloc,Xd];exact((Z.refl [g] w).setCell (.inl (by simp)) _).alloc _
 go_enter func54,ntmps54;go_wp2;go_ret;exact z
def Q7(base:Nat)(v:cY)(L:List Sp)(s:Sp)(w:J)(d:w.ownsRow base 75 3 v L.length (gx L))(q:base<=w.heap.size)(u:L.length<=4096):
  Calls prog 54 #[v,.agg #[G s.k,G s.a,G s.b]] w λe w'=>xI base w v L s e w':=by
 rcases afo L with rfl|⟨M,l,rfl⟩;exact Q8 base v s w d q;rw[List.concat_eq_append];simp at d u;by_cases h:s.k=1/\l.k=1;exact OD base v M l s w d (by omega) h.1 h.2;exact OE base v M l s w d q (by omega) h
theorem TC(p q:Addr)(w:J):
  CallsD prog 45 #[.pointer (some p),.pointer (some q)] .returning w λe l w'=>e=nu/\l=.returning/\w'=w:=by
 refine callsD_of_wpS func45 rfl λd u h=>?_;apply wpS_seq;apply wpS_region;simp[wpOpsS,go_sem,recoverD,h,ntmps45,Exit.thenS];apply wpS_seq;apply wpS_region;simp[wpOpsS,go_sem,Exit.thenS];refine wpS_cond (t:=false) (by simp[Act.eval,Array.replicate]) ?_;simp only[lZ,rP];refine wpS_of_wp (wp_skip ?_);cases d;simp_all[bodyPostS,results,results45]
def aax(E:Env)(a b:Nat)(s:O)(w:J):Calls prog 52 #[dJ E ⟨a,b,.gz s,[]⟩] w λe w'=>e=dw (G 1)/\w'=w:=by
 simp only[dJ];have d:=oS underlying187;go_enter func52,ntmps52;go_wp2;go_ret;simp
def adL(E:Env)(a b:Nat)(w:J):Calls prog 52 #[dJ E ⟨a,b,.dD,[]⟩] w λe w'=>e=dw (G 0)/\w'=w:=by
 simp only[dJ];have u:=tH;have h:=qG;have l:=uO;have d:=oN;have q:=xa;have x:=akd;go_enter func52,ntmps52;go_wp2;go_ret;simp
def RN(E:Env)(f:Nat->Nat)(σ:N)(w:J)(h:RF E f σ w):Calls prog 53 #[Bp E] w λe w'=>e=dw (nV f 0)/\w'=w:=by
 have c:=(At.start h).ZM;have d:=h.lt;go_enter func53,ntmps53;go_wp2;go_ret;simp
theorem yl(r:Nat)(s:O)(w:J)(hs:s.size<=1048576)(l:Gl w r):
  Calls prog 251 #[Y s] w λe w'=>e=dw (Y (kO (small s)))/\Z [] w w':=by
 go_enter func251,ntmps251;go_wp21;refine(uQ s w hs).mono ?_;rintro e q⟨rfl,h⟩;go_wp21;refine(xb r (small s) q (by grind[nH]) (l.kept (h.mono (by simp)))).mono ?_;rintro e u⟨rfl,d⟩;go_wp2;go_ret;exact⟨rfl,(h.trans d)⟩
theorem yx(r:Nat)(R:RC)(d ps:Nat)(s:O)(w:J)(h:Rd w r R d ps)(x:ps<=R.cs.size)(hs:R.cs.size<=1024):
  Calls prog 252 #[cW r,.func (.func 254) #[] #[cW w.heap.size]] (w.alloc (.cells #[Y s] 9))
   λe w'=>e=dw (Y (R.cs.extract ps (scan (fp s) R.cs ps)))/\Z [r] w w'/\Rd w' r R d (scan (fp s) R.cs ps):=by
 have y:=eS h;have k:Z [] w (w.alloc (.cells #[Y s] 9)):=(Z.refl _ _).alloc _;refine(UA r R d ps _ _ _ _ (k.at h (by simp)) x hs (Bk _ [r] _ s (by simp) (by simp) (by grind))).mono ?_;rintro e w'⟨l,q,u⟩;exact⟨l,(k.mono (by simp)).trans q,u⟩
def JG(r:Nat)(R:RC)(u ps:Nat)(k:Nat)(d:fN)(q:Int->Bool)(w:J)(h:Rd w r R u ps)(X:ps<=R.cs.size)(hs:R.cs.size<=1024)(K:Zm w [r] k d q):
  Calls prog 155 #[cW r,.func (.func k) #[] d] w λe w'=>e=dw (.bool (decide (ps<R.cs.size)&&q (bt R.cs ps)))/\∃n,w'=w.drewN n:=by
 have z:=K;have t:=h.text;have p:=h.ps;have H:=h;have y:=get_bt R.cs;have A:=z.ent;have C:=(λw' (h:Rd w' r R u ps)=>mB r R u ps w' h);by_cases e:ps=R.cs.size
 .have x:decide (ps=R.cs.size)=true:=by simp[e]
  rw[x]at C;go_enter func155,ntmps155;go_wp21
  go_quiet ((go_at_call 81;refine XB (C _ ?_);exact H))
  go_wp2;go_ret;exact⟨by simp[e],⟨_,rfl⟩⟩
 .have l:ps<R.cs.size:=by omega
  have x:decide (ps=R.cs.size)=false:=by simp[e]
  rw[x]at C;have U:=y ps l;have F:=bt_nonneg R.cs ps;have I:=bt_le R.cs ps;have D:=(λw' h=>z.ask (bt R.cs ps) w' F I h);have B:(decide (ps<R.cs.size)&&q (bt R.cs ps))=q (bt R.cs ps):=by simp[l]
  rw[B];cases hqv:q (bt R.cs ps)
  all_goals
   rw[hqv]at D;go_enter func155,ntmps155;go_wp21
   go_quiet (first|(go_at_call 81;refine XB (C _ ?_);exact H)|(refine XB (D _ ?_);exact(λn=>(Z.refl _ _).drewN n) _))
   go_wp2;go_ret;exact⟨rfl,⟨_,rfl⟩⟩
def yL(R:RC)(s:O)(ps:Nat):Bool:=decide (s.size<=R.cs.size-ps)&&((small ((R.cs.extract ps R.cs.size).extract 0 s.size)).toList==s.toList)
theorem aex(t:O)(n:Nat)(h:n<=t.size):pre t (t.extract 0 n)=true:=by
 grind[ByteArray.size_extract,pre]
def Uu(r:Nat)(R:RC)(y ps:Nat)(s:O)(w:J)(h:Rd w r R y ps)(hp:ps<=R.cs.size)(hs:R.cs.size<=1024)(a0:s.size<=1024):
  Calls prog 160 #[cW r,Y s] w λe w'=>e=dw (.bool (yL R s ps))/\Z [r] w w'/\Rd w' r R y (if yL R s ps=true then ps+s.size else ps):=by
 have H:=h;obtain⟨t,B⟩:∃t,t=R.cs.extract ps R.cs.size:=⟨_,rfl⟩;have z:t.size=R.cs.size-ps:=by rw[B];simp
 have l:=vw r R y ps w H hp hs;rw[<-B]at l;have A:=V B;clear B;by_cases e1:s.size<=t.size
 .have ez:(t.extract 0 s.size).size=s.size:=by simp;omega
  cases e2:((small (t.extract 0 s.size)).toList==s.toList)
  .have I:yL R s ps=false:=by unfold yL;rw[<-A.out,e2];simp
   rw[I];go_enter func160,ntmps160;go_wp21;refine l.mono ?_;rintro e w1⟨rfl,q,rfl⟩;go_wp21;refine(uQ _ _ (by omega)).mono ?_;rintro e X⟨rfl,d⟩;generalize small (t.extract 0 s.size)=u at *;go_wp2;go_ret;exact⟨rfl,((Z.refl [r] w).drewN q).trans (d.mono (by simp)),d.at (show Rd (w.drewN q) r R y ps from H) (by simp)⟩
  .have I:yL R s ps=true:=by unfold yL;rw[<-A.out,e2,<-z];simp[e1]
   rw[I];go_enter func160,ntmps160;go_wp21;refine l.mono ?_;rintro e w1⟨rfl,q,rfl⟩;go_wp21;refine(uQ _ _ (by omega)).mono ?_;rintro e X⟨rfl,d⟩;have K:Rd X r R y ps:=d.at (show Rd (w.drewN q) r R y ps from H) (by simp);have F:=js r R y ps (t.extract 0 s.size) X K hp hs (by omega);have x:=aex t s.size e1;rw[<-A.out,x]at F;have U:taken R (t.extract 0 s.size) ps=ps+s.size:=by unfold taken;rw[<-A.out,dd x,ez]
   rw[U]at F;generalize small (t.extract 0 s.size)=u at *;go_wp21;refine F.mono ?_;rintro e w3⟨rfl,C,D⟩;go_wp2;go_ret;exact⟨rfl,(((Z.refl [r] w).drewN q).trans (d.mono (by simp))).trans C,D⟩
 .have hv:yL R s ps=false:=by unfold yL;rw[<-z];simp[e1]
  rw[hv];go_enter func160,ntmps160;go_wp21;refine l.mono ?_;rintro e w1⟨rfl,q,rfl⟩;go_wp2;go_ret;exact⟨rfl,((Z.refl [r] w).drewN q),H⟩
def gR(R:RC)(ps:Nat):Nat:=scan (fp nR) R.cs (ps+1)
def Cr(r:Nat)(R:RC)(H ps:Nat)(w:J)(h:Rd w r R H ps)(hp:ps<R.cs.size)(hs:R.cs.size<=1024)(U:Gl w r):
  Calls prog 331 #[cW r] w λe w'=>e=dw (Y (kO (small (R.cs.extract ps (gR R ps)))))/\Z [r] w w'/\Rd w' r R H (gR R ps):=by
 have p:=h.ps;have fz:=h.free 3;have X:=U;have z:=h.Oa (ps+1);have x:=(Z.refl [r] w).setCell (p:=⟨r,3,none⟩) (.inl (by simp)) (G ((ps+1:Nat)));clear h U;obtain⟨F,u⟩:∃F,F=w.setCell ⟨r,3,none⟩ (G ((ps+1:Nat))):=⟨_,rfl⟩;rw[<-u]at z x;have d:w.setCell ⟨r,3,none⟩ (G ((ps:Int)+1))=F:=by rw[u];congr 1
 have K:=V d;clear u d;have C:=yx r R H (ps+1) nR F z (by omega) hs;rw[show scan (fp nR) R.cs (ps+1)=gR R ps from rfl]at C;have a1:gR R ps<=R.cs.size:=nF (by omega);have a0:ps+1<=gR R ps:=qf;generalize gR R ps=n at *;go_enter func331,ntmps331;go_wp21;rw[K.out];clear p fz;refine(mN _ F).mono ?_;rintro e w'⟨rfl,rfl⟩;go_wp21;refine C.mono ?_;rintro e I⟨rfl,A,l⟩;have t2:=l.text;have p2:=l.ps;have y:=x.trans A;have D:=(λq=>yl r (R.cs.extract ps n) (I.drewN q) (by simp;omega) (show Gl (I.drewN q) r from X.kept (y.drewN q)));clear A C;generalize hm:kO (small (R.cs.extract ps n))=m at D|-;have Hm:=V hm;clear hm;go_wp21
 go_region_with (refine(D _).mono ?_;rintro e w3⟨rfl,B⟩)
 all_goals (try go_wp2)
 all_goals
  (go_ret
   exact⟨by rw[Hm.out];rfl,y.trans (((Z.refl [r] I).drewN 1).trans (B.mono (by simp))),B.at (show Rd (I.drewN 1) r R H n from l) (by simp)⟩)
theorem toList_eq{a b:O}(h:a.toList=b.toList):a=b:=by
 grind[ByteArray.ext,Array.toList_inj,ByteArray.toList_eq]
theorem IL(h:a+j<b)(e:b<=s.size):bt (s.extract a b) j=bt s (a+j):=by
 have d:j<(s.extract a b).size:=by simp;omega
 unfold bt;grind[ByteArray.getElem_extract]
theorem Ek{ps:Nat}(h:pre (s.extract ps s.size) p=true)(d:j<p.size):bt s (ps+j)=bt p j:=by
 grind[toList_eq,ByteArray.size_extract,IL,pre]
def pC(R:RC)(ps:Nat):Nat:=taken R eA (scan (fp eA) R.cs ps)
def Js{ps:Nat}(h:ps<=R.cs.size):pC R ps<=R.cs.size:=Ux (nF h)
def ado{ps:Nat}:ps<=pC R ps:=fK qf Uw
def sF(r:Nat)(R:RC)(d ps g x:Nat)(cut:Nat->Nat)(w:J)(h:Rd w r R d ps)(hA:MH w r R g x cut)(hG:Gl w r)(hb:d<=R.cs.size)(X:ps<=R.cs.size)(hs:R.cs.size<=1024):
  Calls prog 163 #[cW r] w λe w'=>e=dw (.iface 197 (.agg #[G (cut d),G (cut (pC R ps)),Y (kO (R.cs.extract ps (scan (fp eA) R.cs ps)))]))/\Z [r] w w'/\Rd w' r R d (pC R ps):=by
 have C:=yx r R d ps eA w h X hs;have HA:=hA;have HG:=hG;have D:=(λ(w2:J) (hr:Rd w2 r R d (scan (fp eA) R.cs ps))=>js r R d _ eA w2 hr (nF X) hs (by decide));rw[show taken R eA (scan (fp eA) R.cs ps)=pC R ps from rfl]at D;have A:pC R ps<=R.cs.size:=Js X;generalize pC R ps=m at *;generalize scan (fp eA) R.cs ps=n at *;go_enter func163,ntmps163;go_wp21;refine(mN _ w).mono ?_;rintro e w'⟨rfl,rfl⟩;go_wp21;refine C.mono ?_;rintro e w2⟨rfl,B,I⟩;go_wp21;refine(D _ I).mono ?_;rintro e w3⟨rfl,U,u⟩;have l:=B.trans U;have E:=nZ r R d m g x cut w3 u (HA.kept l) hb A hs;go_wp21;refine E.mono ?_;rintro e w4⟨rfl,y⟩;have q:=l.trans (y.mono (by simp));have K:=u.kept y (by simp);have F:=xb r (R.cs.extract ps n) w4 (by simp;omega) (HG.kept q);go_wp21;refine F.mono ?_;rintro e w5⟨rfl,z⟩;have H:=q.trans (z.mono (by simp));go_wp2;go_ret;exact⟨rfl,H,(K.kept z (by simp))⟩
def ye(s:O):O:=
 if Lib.hasSuffix s.data.toList [45,45,33]then ⟨(Lib.trimSuffix s.data.toList [45,45,33]).toArray⟩
 else if Lib.hasSuffix s.data.toList [45,45]then ⟨(Lib.trimSuffix s.data.toList [45,45]).toArray⟩
 else if Lib.hasSuffix s.data.toList [45]then ⟨(Lib.trimSuffix s.data.toList [45]).toArray⟩else s
def Wr(s:O)(w:J)(hs:s.size<=1048576):
  Calls prog 297 #[Y s] w λe w'=>e=dw (Y (ye s))/\Z [] w w':=by
 have d:=(λw=>Tryz.strings_CutSuffix s ⟨#[45,45,33]⟩ w (by omega));have h:=(λw=>Tryz.strings_CutSuffix s ⟨#[45,45]⟩ w (by omega));have l:=(λw=>Tryz.strings_CutSuffix s ⟨#[45]⟩ w (by omega));have q:Hid (Z [] w (w.alloc (.cells #[Y ⟨#[45,45,33]⟩,Y ⟨#[45,45]⟩,Y ⟨#[45]⟩] 9))):=(Z.refl _ _).alloc _;unfold ye;simp only at d h l;cases h1:Lib.hasSuffix s.data.toList [45,45,33]
 .rw[h1]at d;cases h2:Lib.hasSuffix s.data.toList [45,45]
  .rw[h2]at h;cases h3:Lib.hasSuffix s.data.toList [45]
   .rw[h3]at l;simp only[lZ,↓reduceIte];generalize Lib.trimSuffix s.data.toList [45,45,33]=u at *;generalize Lib.trimSuffix s.data.toList [45,45]=x at *;generalize Lib.trimSuffix s.data.toList [45]=y at *;go_enter func297,ntmps297;go_wp21;refine tW 4 ?_;rw[mg];go_wp21;refine(d _).mono ?_;rintro e w'⟨rfl,rfl⟩;go_wp21;rw[mg];go_wp21;refine(h _).mono ?_;rintro e w'⟨rfl,rfl⟩;go_wp21;rw[mg];go_wp21;refine(l _).mono ?_;rintro e w'⟨rfl,rfl⟩;go_wp21;rw[mg];go_wp2;go_ret;exact⟨rfl,q⟩
   .rw[h3]at l;simp only[lZ,↓reduceIte];generalize Lib.trimSuffix s.data.toList [45,45,33]=u at *;generalize Lib.trimSuffix s.data.toList [45,45]=x at *;generalize Lib.trimSuffix s.data.toList [45]=y at *;go_enter func297,ntmps297;go_wp21;refine tW 4 ?_;rw[mg];go_wp21;refine(d _).mono ?_;rintro e w'⟨rfl,rfl⟩;go_wp21;rw[mg];go_wp21;refine(h _).mono ?_;rintro e w'⟨rfl,rfl⟩;go_wp21;rw[mg];go_wp21;refine(l _).mono ?_;rintro e w'⟨rfl,rfl⟩;go_wp2;go_ret;exact⟨rfl,q⟩
  .rw[h2]at h;simp only[lZ,↓reduceIte];generalize Lib.trimSuffix s.data.toList [45,45,33]=u at *;generalize Lib.trimSuffix s.data.toList [45,45]=x at *;go_enter func297,ntmps297;go_wp21;refine tW 4 ?_;rw[mg];go_wp21;refine(d _).mono ?_;rintro e w'⟨rfl,rfl⟩;go_wp21;rw[mg];go_wp21;refine(h _).mono ?_;rintro e w'⟨rfl,rfl⟩;go_wp2;go_ret;exact⟨rfl,q⟩
 .rw[h1]at d;simp only[↓reduceIte];generalize Lib.trimSuffix s.data.toList [45,45,33]=u at *;go_enter func297,ntmps297;go_wp21;refine tW 4 ?_;rw[mg];go_wp21;refine(d _).mono ?_;rintro e w'⟨rfl,rfl⟩;go_wp2;go_ret;exact⟨rfl,q⟩
def e1:O:=lX
def e2:O:=⟨#[45,45,33,62]⟩
def qY(R:RC)(i:Nat):Nat:=
 if i<R.cs.size then (if pre (R.cs.extract i R.cs.size) e1=true then i+3 else if pre (R.cs.extract i R.cs.size) e2=true then i+4 else qY R (i+1))else i
  termination_by R.cs.size-i
def ni(R:RC)(a i:Nat):O:=
 if i<R.cs.size then (if pre (R.cs.extract i R.cs.size) e1=true then R.cs.extract a i else if pre (R.cs.extract i R.cs.size) e2=true then R.cs.extract a i else ni R a (i+1))else ye (R.cs.extract a R.cs.size)
  termination_by R.cs.size-i
theorem af9:i<=qY R i:=by
 fun_induction qY R i<;>omega
theorem aga(h:i<=R.cs.size):qY R i<=R.cs.size:=by
 fun_induction qY R i with
 |case1 i h1 h2=>exact jp h2 h
 |case2 i h1 h2 h3=>exact jp h3 h
 |case3 i h1 h2 h3 ih=>omega
 |case4=>exact h
theorem ZP(h:i<=R.cs.size):qY R i=R.cs.size\/(i<qY R i/\bt R.cs (qY R i-1)=62):=by
 fun_induction qY R i with
 |case1 i h1 h2=>right;exact⟨by omega,Ek h2 (by decide)⟩
 |case2 i h1 h2 h3=>right;exact⟨by omega,Ek h3 (by decide)⟩
 |case3 i h1 h2 h3 ih=>omega
 |case4 i h1=>omega
theorem alr(h:i<R.cs.size)(d:pre (R.cs.extract i R.cs.size) e1=true):qY R i=i+3:=by grind[qY]
theorem als(h:i<R.cs.size)(d:pre (R.cs.extract i R.cs.size) e1=false)(e:pre (R.cs.extract i R.cs.size) e2=true):qY R i=i+4:=by grind[qY]
theorem alt(h:i<R.cs.size)(d:pre (R.cs.extract i R.cs.size) e1=false)(e:pre (R.cs.extract i R.cs.size) e2=false):qY R i=qY R (i+1):=by grind[qY]
theorem ajA(h:i<R.cs.size)(d:pre (R.cs.extract i R.cs.size) e1=true):ni R a i=R.cs.extract a i:=by grind[ni]
theorem ajB(h:i<R.cs.size)(d:pre (R.cs.extract i R.cs.size) e1=false)(e:pre (R.cs.extract i R.cs.size) e2=true):ni R a i=R.cs.extract a i:=by grind[ni]
theorem ajC(h:i<R.cs.size)(d:pre (R.cs.extract i R.cs.size) e1=false)(e:pre (R.cs.extract i R.cs.size) e2=false):ni R a i=ni R a (i+1):=by grind[ni]
theorem Cf(r:Nat)(R:RC)(y ps:Nat)(w:J)(h:Rd w r R y ps)(hp:ps<=R.cs.size)(hs:R.cs.size<=1024):
  Calls prog 249 #[cW r] w λe w'=>e=dw (Y (ni R ps ps))/\Z [r] w w'/\Rd w' r R y (qY R ps):=by
 have p0:=h.ps;have H:=h;obtain⟨ce,HE⟩:∃x,x=qY R ps:=⟨_,rfl⟩;obtain⟨ct,HT⟩:∃x,x=ni R ps ps:=⟨_,rfl⟩;rw[<-HE,<-HT];go_enter func249,ntmps249;go_wp21
 go_loopw [] (λwr=>∃i:Nat,ps<=i/\i<=R.cs.size/\qY R i=ce/\ni R ps i=ct/\Rd wr r R y i/\Z [r] w wr) (λwr=>R.cs.size-(match wr.cell? ⟨r,3,none⟩with|some v=>(intOf v).toNat|none=>0))
 case atStart=>grind[Z.refl]
 case round=>
  have⟨i,hi0,hi1,hcc,hcx,HR,HKW⟩:=hrel;have K:=V hcc;have HX:=V hcx;have t:=HR.text;have p:=HR.ps;have fz:=HR.free 3;clear hcc hcx;by_cases e:i=R.cs.size
  .have e3:decide (i=R.cs.size)=true:=by simp[e]
   have C:=mB r R y i wr HR;rw[e3]at C;have hx:ct=ye (R.cs.extract ps R.cs.size):=by rw[<-HX.out,ni,cZ (by omega)]
   have hy:ce=i:=by rw[<-K.out,qY,cZ (by omega)]
   have Hx:=V hx;have Hy:=V hy;clear hx hy;have a2:=e;have D:=(λw'=>Wr (R.cs.extract ps R.cs.size) w' (by simp;omega));go_wp21;refine C.mono ?_;rintro e w1⟨rfl,q,rfl⟩;go_wp21;refine(D _).mono ?_;rintro e w2⟨rfl,l⟩;go_wp2;go_ret;exact⟨by rw[Hx.out];rfl,(HKW.drewN q).trans (l.mono (by simp)),by rw[Hy.out];exact l.at (show Rd (wr.drewN q) r R y i from HR) (by simp)⟩
  .have u:i<R.cs.size:=by omega
   have e3:decide (i=R.cs.size)=false:=by simp[e]
   have C:=mB r R y i wr HR;rw[e3]at C;have B:=(λw' (h:Rd w' r R y i)=>js r R y i e1 w' h hi1 hs (by decide));have I:=(λw' (h:Rd w' r R y i)=>js r R y i e2 w' h hi1 hs (by decide));cases h1:pre (R.cs.extract i R.cs.size) e1
   .have k1:taken R e1 i=i:=by unfold taken;rw[cZ (by simp[h1])]
    rw[h1,k1]at B;cases h2:pre (R.cs.extract i R.cs.size) e2
    .have k2:taken R e2 i=i:=by unfold taken;rw[cZ (by simp[h2])]
     rw[h2,k2]at I;have HS:=V (alt u h1 h2);have A:=V (ajC (a:=ps) u h1 h2);unfold e1 at B;unfold e2 at I;go_wp21;refine C.mono ?_;rintro e w1⟨rfl,q,rfl⟩;go_wp21
     go_quiet (fail)
     go_wp21;refine(B _ ?_).mono ?_;exact HR;rintro e w2⟨rfl,l,F⟩;go_wp21;refine(I _ F).mono ?_;rintro e w3⟨rfl,U,d⟩;have p3:=d.ps;have f3:=d.free 3;have X:=Rd.Oa d (i+1);have z:=((HKW.drewN (q+nq)).trans (l.trans U)).setCell (p:=⟨r,3,none⟩) (.inl (by simp)) (G ((i+1:Nat)));go_wp2;go_roundw
     case rel=>grind[Hid.out]
     case measure=>
      have m1:=X.ps;rw[show((i:Int)+1)=((i+1:Nat):Int)from by omega,m1,p];simp[intOf];omega
    .have k2:taken R e2 i=i+4:=by unfold taken;rw[dd h2];rfl
     rw[h2,k2]at I;have HS:=V (als u h1 h2);have A:=V (ajB (a:=ps) u h1 h2);unfold e1 at B;unfold e2 at I;go_wp21;refine C.mono ?_;rintro e w1⟨rfl,q,rfl⟩;go_wp21
     go_quiet (fail)
     go_wp21;refine(B _ ?_).mono ?_;exact HR;rintro e w2⟨rfl,l,F⟩;go_wp21;refine(I _ F).mono ?_;rintro e w3⟨rfl,a1,d⟩;have z:=((HKW.drewN (q+nq)).trans (l.trans a1));go_wp2;go_ret;exact⟨by rw[<-HX.out,A.out];rfl,z,by rw[<-K.out,HS.out];exact d⟩
   .have k1:taken R e1 i=i+3:=by unfold taken;rw[dd h1];rfl
    rw[h1,k1]at B;have HS:=V (alr u h1);have A:=V (ajA (a:=ps) u h1);unfold e1 at B;go_wp21;refine C.mono ?_;rintro e w1⟨rfl,q,rfl⟩;go_wp21
    go_quiet (fail)
    go_wp21;refine(B _ ?_).mono ?_;exact HR;rintro e w2⟨rfl,a0,d⟩;have z:=((HKW.drewN (q+nq)).trans a0);go_wp2;go_ret;exact⟨by rw[<-HX.out,A.out];rfl,z,by rw[<-K.out,HS.out];exact d⟩
def kZ(R:RC)(ps:Nat):Nat:=if pre (R.cs.extract ps R.cs.size) eA=true then ps+1 else if pre (R.cs.extract ps R.cs.size) xF=true then ps+2 else qY R ps
def lG(R:RC)(ps:Nat):O:=if pre (R.cs.extract ps R.cs.size) eA=true then ⟨#[]⟩else if pre (R.cs.extract ps R.cs.size) xF=true then ⟨#[]⟩else ni R ps ps
theorem MU{ps:Nat}(h:ps<=R.cs.size):kZ R ps<=R.cs.size:=by
 unfold kZ;split;rename_i d;exact jp d h;split;rename_i d;exact jp d h;grind[aga]
theorem ZU{ps:Nat}:ps<=kZ R ps:=by
 grind[af9,kZ]
theorem Rz{ps:Nat}(h:ps<=R.cs.size):kZ R ps=R.cs.size\/(ps<kZ R ps/\bt R.cs (kZ R ps-1)=62):=by
 unfold kZ;split;rename_i d;exact .inr ⟨by omega,Ek (j:=0) d (by decide)⟩;split;rename_i d;exact .inr ⟨by omega,Ek d (by decide)⟩;grind[ZP]
theorem S9(s:O):(ye s).size<=s.size:=by
 have h:∀p,(ByteArray.mk (Lib.trimSuffix s.data.toList p).toArray).size<=s.size:=by
  intro p;show(Lib.trimSuffix _ p).toArray.size<=s.data.size;unfold Lib.trimSuffix;split;simp;simp
 grind[ye]
theorem Vs:(ni R a i).size<=R.cs.size:=by
 fun_induction ni R a i with
 |case1=>simp;omega
 |case2=>simp;omega
 |case3=>omega
 |case4=>grind[S9,ByteArray.size_extract]
theorem O2{ps:Nat}:(lG R ps).size<=R.cs.size:=by
 unfold lG;split;exact yQ _;split;exact yQ _;grind[Vs]
def LI(r:Nat)(R:RC)(h m g l:Nat)(cut:Nat->Nat)(w x:J)(hA:MH w r R g l cut)(hG:Gl w r)(F:h<=R.cs.size)(H:m<=R.cs.size)(hs:R.cs.size<=1024)(B:Z [r] w x)(y:Rd x r R h m)(t:O)(I:t.size<=1048576):
  (Calls prog 82 #[cW r] x λe u=>e=dw (.agg #[G (cut h),G (cut m)])/\Z [r] w u/\Rd u r R h m/\
   Calls prog 152 #[Y t] u λe A=>e=dw (Y (kO t))/\Z [r] w A/\Rd A r R h m):=by
 refine(nZ r R h m g l cut x y (hA.kept B) F H hs).mono ?_;rintro e u⟨C,d⟩;have z:=B.trans (d.mono (by simp));refine⟨C,z,y.kept d (by simp),((xb r t u I (hG.kept z)).mono ?_)⟩;rintro e A⟨D,q⟩;exact⟨D,z.trans (q.mono (by simp)),(y.kept d (by simp)).kept q (by simp)⟩
theorem RD(r:Nat)(R:RC)(q ps g U:Nat)(cut:Nat->Nat)(w:J)(h:Rd w r R q ps)(hA:MH w r R g U cut)(hG:Gl w r)(hb:q<=R.cs.size)(hp:ps<=R.cs.size)(hs:R.cs.size<=1024):
  Calls prog 159 #[cW r] w λe w'=>e=dw (.iface 197 (.agg #[G (cut q),G (cut (kZ R ps)),Y (kO (lG R ps))]))/\Z [r] w w'/\Rd w' r R q (kZ R ps):=by
 have I:=js r R q ps eA w h hp hs (by decide);have K:=(λw' (h:Rd w' r R q ps)=>js r R q ps xF w' h hp hs (by decide));have D3:=(λw' (h:Rd w' r R q ps)=>Cf r R q ps w' h hp hs);have F:=(λu (hk:Z [r] w u) (hr:Rd u r R q (kZ R ps))=>LI r R q (kZ R ps) g U cut w u hA hG hb (MU hp) hs hk hr (lG R ps) (fK O2 (by omega)));clear h hA hG;cases h1:pre (R.cs.extract ps R.cs.size) eA
 .have H:taken R eA ps=ps:=by unfold taken;rw[cZ (by simp[h1])]
  rw[h1,H]at I;cases h2:pre (R.cs.extract ps R.cs.size) xF;have k2:taken R xF ps=ps:=by unfold taken;rw[cZ (by simp[h2])]
  rw[h2,k2]at K;have x:kZ R ps=qY R ps:=by unfold kZ;rw[cZ (by simp[h1]),cZ (by simp[h2])]
  have y:lG R ps=ni R ps ps:=by unfold lG;rw[cZ (by simp[h1]),cZ (by simp[h2])]
  rw[<-x,<-y]at D3;clear h1 h2 H k2 x y;generalize kZ R ps=m at *;generalize lG R ps=t at *;go_enter func159,ntmps159;go_wp21;refine I.mono ?_;rintro e w1⟨rfl,A,B⟩;go_wp21;refine(K _ B).mono ?_;rintro e w2⟨rfl,X,a2⟩;have a0:=A.trans X;clear X;go_wp21;refine(D3 _ a2).mono ?_;rintro e u⟨rfl,d,l⟩;have F3:=F u (a0.trans d) l
  rotate_left
  have k2:taken R xF ps=ps+2:=by unfold taken;rw[dd h2];rfl
  rw[h2,k2]at K;have x:kZ R ps=ps+2:=by unfold kZ;rw[cZ (by simp[h1]),dd h2]
  have y:lG R ps=⟨#[]⟩:=by unfold lG;rw[cZ (by simp[h1]),dd h2]
  rw[x,y]at F|-;clear h1 h2 H k2 x y D3;go_enter func159,ntmps159;go_wp21;refine I.mono ?_;rintro e w1⟨rfl,A,B⟩;go_wp21;refine(K _ B).mono ?_;rintro e u⟨rfl,d,l⟩;have F3:=F u (A.trans d) l
  all_goals
   clear d l;go_wp21;refine F3.mono ?_;rintro e w4⟨rfl,C,D,z⟩;clear C D;go_wp21;refine z.mono ?_;rintro e w5⟨rfl,a1,a3⟩;go_wp2;go_ret;simp_all
 .have H:taken R eA ps=ps+1:=by unfold taken;rw[dd h1];rfl
  rw[h1,H]at I;have x:kZ R ps=ps+1:=by unfold kZ;rw[dd h1]
  have y:lG R ps=⟨#[]⟩:=by unfold lG;rw[dd h1]
  rw[x,y]at F|-;clear h1 H x y K D3;go_enter func159,ntmps159;go_wp21;refine I.mono ?_;rintro e u⟨rfl,d,l⟩;have F3:=F u d l;clear d l;go_wp21;refine F3.mono ?_;rintro e w4⟨rfl,C,D,z⟩;clear C D;go_wp21;refine z.mono ?_;rintro e w5⟨rfl,a1,a3⟩;go_wp2;go_ret;simp_all
section
open Go.Shelf Go.Lib
def Qw(s:O):O:=⟨(Lib.trimS s.data.toList [32,9,10,12]).toArray⟩
def afb(s:O)(w:J)(hs:s.size<=1048576):
  Calls prog 253 #[Y s,Y kU] w λe w'=>e=dw (Y (Qw s))/\Z [] w w':=by
 exact(Any.strings_Trim_laid Tryz.lays160 (rfl) s _ w (by omega) (by decide) (ascii_of_all (rfl))).mono λe w' ⟨d,h⟩=>⟨d,Z.Av h⟩
def dtA(R:RC)(ps:Nat):Nat:=scan (λc=>!fp kU c) R.cs ps
def FU(R:RC)(ps:Nat):Nat:=scan (fp jK) R.cs (dtA R ps)
def acO{ps:Nat}(h:ps<=R.cs.size):dtA R ps<=R.cs.size:=nF h
def I7{ps:Nat}(h:ps<=R.cs.size):FU R ps<=R.cs.size:=nF (acO h)
def ajF{ps:Nat}:ps<=FU R ps:=fK qf qf
end
section
open Go.Shelf Go.Lib
def Vt(R:RC)(ps:Nat):O:=kO (small (R.cs.extract (dtA R ps) (FU R ps)))
def dtQ(R:RC)(ps:Nat):Bool:=((Vt R ps).toList==[])||!((Qw (R.cs.extract (FU R ps) (scan (fp eA) R.cs (FU R ps)))).toList==[])||!(pre (R.cs.extract (scan (fp eA) R.cs (FU R ps)) R.cs.size) eA)
def LL(r:Nat)(R:RC)(d ps g B:Nat)(cut:Nat->Nat)(w:J)(h:Rd w r R d ps)(hA:MH w r R g B cut)(hG:Gl w r)(hb:d<=R.cs.size)(x:ps<=R.cs.size)(hs:R.cs.size<=1024):
  Calls prog 161 #[cW r] w λe w'=>e=dw (.iface 199 (.agg #[G (cut d),G (cut (pC R (FU R ps))),Y (Vt R ps),.bool (dtQ R ps)]))/\Z [r] w w'/\Rd w' r R d (pC R (FU R ps)):=by
 have C:Vt R ps=kO (small (R.cs.extract (dtA R ps) (FU R ps))):=rfl;have hQ:dtQ R ps=(((Vt R ps).toList==[])||!((Qw (R.cs.extract (FU R ps) (scan (fp eA) R.cs (FU R ps)))).toList==[])||!(pre (R.cs.extract (scan (fp eA) R.cs (FU R ps)) R.cs.size) eA)):=rfl;generalize dtQ R ps=qk at *;generalize Vt R ps=ac at *;have C1:=uv r R d ps kU w h x hs;rw[show scan (λc=>!fp kU c) R.cs ps=dtA R ps from rfl]at C1;have C2:=(λ(w':J) (h:Rd w' r R d (dtA R ps))=>yx r R d (dtA R ps) jK w' h (acO x) hs);rw[show scan (fp jK) R.cs (dtA R ps)=FU R ps from rfl]at C2;have C3:=(λ(w':J) (h:Rd w' r R d (FU R ps))=>yx r R d (FU R ps) eA w' h (I7 x) hs);have ab:scan (fp eA) R.cs (FU R ps)<=R.cs.size:=nF (I7 x);have D:=(λ(X:J) (hr:Rd X r R d (scan (fp eA) R.cs (FU R ps)))=>js r R d _ eA X hr ab hs (by decide));rw[show taken R eA (scan (fp eA) R.cs (FU R ps))=pC R (FU R ps)from rfl]at D;have U:pC R (FU R ps)<=R.cs.size:=Js (I7 x);have h3:FU R ps<=R.cs.size:=I7 x;have HA:=hA;have HG:=hG;clear h hA hG;generalize pC R (FU R ps)=m at *;generalize scan (fp eA) R.cs (FU R ps)=n at *;generalize FU R ps=b at *;generalize dtA R ps=a at *;go_enter func161,ntmps161;go_wp21;refine C1.mono ?_;rintro e w1⟨rfl,a0,a5⟩;clear C1;go_wp21;refine(mN _ w1).mono ?_;rintro e w'⟨rfl,rfl⟩;go_wp21;refine(C2 _ a5).mono ?_;rintro e X⟨rfl,H,a6⟩;have y:=a0.trans H;clear H C2;have E1:=yl r (R.cs.extract a b) X (by simp;omega) (HG.kept y);rw[<-C]at E1;clear C;go_wp21;refine E1.mono ?_;rintro e w3⟨rfl,l⟩;have a1:=y.trans (l.mono (by simp));have a7:=a6.kept l (by simp);clear l E1;go_wp21;refine(mN _ w3).mono ?_;rintro e w'⟨rfl,rfl⟩;go_wp21;refine(C3 _ a7).mono ?_;rintro e w4⟨rfl,I,a8⟩;have a2:=a1.trans I;clear I C3;have E2:=afb (R.cs.extract b n) w4 (by simp;omega);generalize Qw (R.cs.extract b n)=mo at E2 hQ;go_wp21;refine E2.mono ?_;rintro e w5⟨rfl,q⟩;have a3:=a2.trans (q.mono (by simp));have a9:=a8.kept q (by simp);clear q E2;go_wp21;refine(D _ a9).mono ?_;rintro e w6⟨rfl,K,A⟩;have z:=a3.trans K;clear K D;have F:=nZ r R d m g B cut w6 A (HA.kept z) hb U hs;generalize pre (R.cs.extract n R.cs.size) eA=cl at *;go_wp21;refine F.mono ?_;rintro e w7⟨rfl,u⟩;have a4:=z.trans (u.mono (by simp));have aa:=A.kept u (by simp);clear u F;have HQ:=V hQ;clear hQ;cases h1:(ac.toList==[])<;>cases h2:(mo.toList==[])<;>cases cl
 all_goals go_wp2
 all_goals go_ret
 all_goals exact⟨by rw[HQ.out,h1,h2];rfl,a4,aa⟩
end
section
open Go.Shelf Go.Lib
def QO(n:Int):Int:=if n=0\/(55296<=n/\n<=57343)\/n>=1114112 then 65533 else if n=128 then 8364 else if n=133 then 8230 else if n=145 then 8216 else if n=146 then 8217 else if n=147 then 8220 else if n=148 then 8221 else if n=150 then 8211 else if n=151 then 8212 else if n=153 then 8482 else n
def o9{x n:Int}(h:x=QO n):Ending.returned (.int .i32 x)=dw (.int .i32 (QO n)):=by rw[h]
theorem acI{n:Int}(A:¬n=0)(B:n<55296)(d:(n==128)=false)(e:(n==133)=false)(h:(n==145)=false)(l:(n==146)=false)(q:(n==147)=false)(u:(n==148)=false)(x:(n==150)=false)(y:(n==151)=false)(z:(n==153)=false):QO n=n:=by
 grind[QO]
theorem LH(n:Int)(w:J)(l:0<=n)(q:n<=1114112):
  Calls prog 308 #[G n] w λe w'=>e=dw (.int .i32 (QO n))/\w'=w:=by
 by_cases a:n=0
 .subst a;go_enter func308,ntmps308;go_wp2;go_ret;simp[QO]
 .by_cases b:55296<=n
  .by_cases d:n<=57343
   .go_enter func308,ntmps308;go_wp2;go_ret;exact⟨o9 (by grind[QO]),rfl⟩
   .by_cases h:n>=1114112
    .go_enter func308,ntmps308;go_wp2;go_ret;exact⟨o9 (by grind[QO]),rfl⟩
    .go_enter func308,ntmps308;go_wp2;go_ret;exact⟨o9 (by grind[QO]),rfl⟩
  .go_enter func308,ntmps308;go_wp2
   all_goals
    (go_ret
     first
     |exact⟨o9 (by rw[oU ‹(n==128)=true›];rfl),rfl⟩
     |exact⟨o9 (by rw[oU ‹(n==133)=true›];rfl),rfl⟩
     |exact⟨o9 (by rw[oU ‹(n==145)=true›];rfl),rfl⟩
     |exact⟨o9 (by rw[oU ‹(n==146)=true›];rfl),rfl⟩
     |exact⟨o9 (by rw[oU ‹(n==147)=true›];rfl),rfl⟩
     |exact⟨o9 (by rw[oU ‹(n==148)=true›];rfl),rfl⟩
     |exact⟨o9 (by rw[oU ‹(n==150)=true›];rfl),rfl⟩
     |exact⟨o9 (by rw[oU ‹(n==151)=true›];rfl),rfl⟩
     |exact⟨o9 (by rw[oU ‹(n==153)=true›];rfl),rfl⟩
     |exact⟨o9 (acI a b ‹(n==128)=false› ‹(n==133)=false› ‹(n==145)=false› ‹(n==146)=false› ‹(n==147)=false› ‹(n==148)=false› ‹(n==150)=false› ‹(n==151)=false› ‹(n==153)=false›).symm,rfl⟩)
def jf(c:Int):Int:=if 48<=c/\c<=57 then c-48 else if 97<=c/\c<=102 then c-87 else if 65<=c/\c<=70 then c-55 else 99
theorem CQ(c:Int):0<=jf c/\jf c<=99:=by grind[jf]
theorem IP(c:Int)(w:J)(l:0<=c)(q:c<=255):
  Calls prog 340 #[.int .u8 c] w λe w'=>e=dw (.bool (decide (48<=c/\c<=57)))/\w'=w:=by
 by_cases d:48<=c<;>by_cases h:c<=57
 all_goals (go_wp2;go_ret;simp_all)
def ZZ(c:Int)(w:J)(q:0<=c)(u:c<=255):
  Calls prog 307 #[.int .u8 c] w λe w'=>e=dw (G (jf c))/\w'=w:=by
 have C:=IP c w q u;by_cases a:48<=c/\c<=57
 .rw[show decide (48<=c/\c<=57)=true from by simp[a]]at C;have e:jf c=c-48:=by unfold jf;rw[dd a]
  rw[e];clear e;have⟨a1,a2⟩:=a;go_enter func307,ntmps307;go_wp21;refine C.mono ?_;rintro e w'⟨rfl,rfl⟩;go_wp2;go_ret;simp
 .rw[show decide (48<=c/\c<=57)=false from by simp;omega]at C;by_cases b:97<=c
  .by_cases h:c<=102;have e:jf c=c-97+10:=by unfold jf;rw[cZ a,dd ⟨b,h⟩];omega
   rotate_left
   have e:jf c=99:=by unfold jf;rw[cZ a,cZ (by omega),cZ (by omega)]
   all_goals
    rw[e];clear e a;go_enter func307,ntmps307;go_wp21;refine C.mono ?_;rintro e w'⟨rfl,rfl⟩;go_wp2;go_ret;simp
  .by_cases d:65<=c
   .by_cases l:c<=70;have e:jf c=c-65+10:=by unfold jf;rw[cZ a,cZ (by omega),dd ⟨d,l⟩];omega
    rotate_left
    have e:jf c=99:=by unfold jf;rw[cZ a,cZ (by omega),cZ (by omega)]
    all_goals
     rw[e];clear e a;go_enter func307,ntmps307;go_wp21;refine C.mono ?_;rintro e w'⟨rfl,rfl⟩;go_wp2;go_ret;simp
   .have e:jf c=99:=by unfold jf;rw[cZ a,cZ (by omega),cZ (by omega)]
    rw[e];clear e a;go_enter func307,ntmps307;go_wp21;refine C.mono ?_;rintro e w'⟨rfl,rfl⟩;go_wp2;go_ret;simp
end
def vh(base:Int)(s:O)(i:Nat):Nat:=scan (λc=>decide (jf c>=base)) s i
def mM(base:Int)(s:O)(f:Nat):Nat:=
 if vh base s f=f then 0 else if vh base s f<s.size/\bt s (vh base s f)=59 then vh base s f+1 else vh base s f
def Nz(s:O):Bool:=decide (2<s.size/\(bt s 2=120\/bt s 2=88))
def p6(s:O):Nat:=if Nz s=true then mM 16 s 3 else mM 10 s 2
theorem NK{base:Int}(h:f<=s.size):mM base s f<=s.size:=by
 grind[nF,mM,vh]
theorem Wv(h:2<=s.size):p6 s<=s.size:=by
 unfold p6;split;grind[NK,Nz];grind[NK]
def vq(base:Int)(s:O)(k:Int)(i:Nat):Int:=
 if i<s.size then (if jf (bt s i)>=base then k else vq base s (min (k*base+jf (bt s i)) 1114112) (i+1))else k
  termination_by s.size-i
theorem Td{base:Int}{k:Int}(h:¬i<s.size):vq base s k i=k:=by grind[vq]
theorem NL{base:Int}{k:Int}(h:i<s.size)(d:jf (bt s i)>=base):vq base s k i=k:=by grind[vq]
theorem YE{base:Int}{k:Int}(h:i<s.size)(d:¬jf (bt s i)>=base):vq base s (min (k*base+jf (bt s i)) 1114112) (i+1)=vq base s k i:=by grind[vq]
def Mh(base:Int)(s:O)(f:Nat):O:=if mM base s f=0 then ⟨#[]⟩else Utf8.encode (QO (vq base s 0 f))
def p9(s:O):O:=if Nz s=true then Mh 16 s 3 else Mh 10 s 2
def O7(c:Int):(Utf8.encode c).size<=16:=by
 unfold Utf8.encode;dsimp only
 repeat' split
 all_goals first|(show 1<=16;omega)|(show 2<=16;omega)|(show 3<=16;omega)|(show 4<=16;omega)
theorem Mi(s:O):(p9 s).size<=16:=by
 unfold p9 Mh
 repeat' split
 all_goals first|exact O7 _|(show 0<=16;omega)
theorem pn{t e:O}{d:Nat}{m:Int}(h:t=e)(l:n=d)(q:m=(d:Int)):Ending.returned (.tuple #[Y t,G m])=dw (.tuple #[Y e,G n]):=by grind
theorem Km(s:O)(w:J)(hs:s.size<=1048576)(h2:2<=s.size):
  Calls prog 256 #[Y s] w λe w'=>e=dw (.tuple #[Y (p9 s),G (p6 s)])/\w'=w:=by
 have a6:=get_bt s;obtain⟨rs,a7,ab⟩:∃rs:Int->O,(∀c,rs c=Utf8.encode c)/\∀(c:Int)(w:J),(convert 21 9 (.int .i32 c)).run prog w=.ok (Y (rs c)) w:=⟨_,λ_=>rfl,λc w=>run_convert_int_string w 21 9 .i32 c (by simp) underlying9⟩;have a0:=V a7;clear a7;have D:=(λc (h0:0<=c) (h1:c<=255)=>ZZ c w h0 h1);have ae:=(λn (h0:0<=n) (h1:n<=1114112)=>LH n w h0 h1);by_cases hx:Nz s=true
 .have e:p6 s=mM 16 s 3:=by unfold p6;rw[dd hx]
  have e':p9 s=Mh 16 s 3:=by unfold p9;rw[dd hx]
  rw[e,e'];clear e e';unfold Nz at hx;have⟨a5,a1⟩:=of_decide_eq_true hx;clear hx;obtain⟨U,F⟩:∃x,x=mM 16 s 3:=⟨_,rfl⟩;obtain⟨X,K⟩:∃x,x=Mh 16 s 3:=⟨_,rfl⟩;have I:X=if U=0 then ⟨#[]⟩else Utf8.encode (QO (vq 16 s 0 3)):=by rw[K,F,Mh]
  rw[<-F,<-K];have u:=V F;have z:=V I;clear F K I;rcases a1 with a1|a1
  all_goals
   go_enter func256,ntmps256;go_wp21
   go_loopw [6,7] (λnv iv wr=>wr=w/\∃(k:Int)(i:Nat),nv=G k/\iv=G i/\0<=k/\k<=1114112/\3<=i/\i<=s.size/\vh 16 s i=vh 16 s 3/\vq 16 s k i=vq 16 s 0 3) (λ_ iv _=>s.size-(intOf iv).toNat)
   case atStart=>grind
   case round=>
    obtain⟨rfl,k,i,rfl,rfl,a2,a3,a9,aa,hd,hv⟩:=hrel;have HD:=V hd;have HV:=V hv;clear hd hv;by_cases q:i<s.size
    .have hb:=a6 i q;have h0:=bt_nonneg s i;have h1:=bt_le s i;have r:=CQ (bt s i);have C:=D (bt s i) h0 h1;by_cases hq:jf (bt s i)>=16
     .have e1:vh 16 s i=i:=Kw (by simpa using hq);have e2:vh 16 s 3=i:=by rw[<-HD.out,e1]
      have B:vq 16 s 0 3=k:=by rw[<-HV.out,NL q hq]
      by_cases H:i=3
      .have l:U=0:=by rw[u.out];unfold mM;rw[e2,dd H]
       have y:=V l;have A:=V (show X=⟨#[]⟩ by rw[z.out,dd l]);clear e1 e2 l B;subst H;go_wp21;refine C.mono ?_;rintro e w'⟨rfl,rfl⟩;go_wp2;go_ret2;exact⟨pn A.symm y rfl,rfl⟩
      .have HG:=ae k a2 a3;by_cases a4:bt s i=59;have l:U=i+1:=by rw[u.out];unfold mM;rw[e2,cZ H,dd ⟨q,a4⟩]
       have y:=V l;have A:=V (show X=rs (QO k) by rw[z.out,cZ (by omega),B,a0.out]);rw[a4]at C hb h0 h1 r hq;rw[show jf 59=99 from by decide]at C;clear e1 e2 l B r hq h0 h1
       rotate_left
       have l:U=i:=by rw[u.out];unfold mM;rw[e2,cZ H,cZ (by omega)]
       have y:=V l;have A:=V (show X=rs (QO k) by rw[z.out,cZ (by omega),B,a0.out]);clear e1 e2 l B
       all_goals
        go_wp21;refine C.mono ?_;rintro e w'⟨rfl,rfl⟩;go_wp21;refine HG.mono ?_;rintro e w'⟨rfl,rfl⟩;go_wp2;go_ret2;exact⟨pn A.symm y rfl,rfl⟩
     .have e1:vh 16 s (i+1)=vh 16 s 3:=by rw[<-HD.out];exact(Ih q (by simpa using hq)).symm
      have HU:vq 16 s (min (k*16+jf (bt s i)) 1114112) (i+1)=vq 16 s 0 3:=by rw[YE q hq,HV.out]
      have y:=V e1;clear e1;generalize jf (bt s i)=d at *;go_wp21;refine C.mono ?_;rintro e w'⟨rfl,rfl⟩;go_wp2
      all_goals (refine⟨⟨trivial,min (k*16+d) 1114112,i+1,?_,by go_num,by omega,by omega,by omega,by omega,y,HU⟩,?_⟩;(first|rfl|(congr 1;omega));(simp[intOf];omega))
    .have e1:vh 16 s i=i:=DO (by omega);have e2:vh 16 s 3=i:=by rw[<-HD.out,e1]
     have B:vq 16 s 0 3=k:=by rw[<-HV.out,Td q]
     have HG:=ae k a2 a3;have e0:i=s.size:=by omega
     by_cases H:i=3
     .have l:U=0:=by rw[u.out];unfold mM;rw[e2,dd H]
      have y:=V l;have A:=V (show X=⟨#[]⟩ by rw[z.out,dd l]);clear e1 e2 l B e0;subst H
      first
       |(exfalso;omega)
       |(go_wp2
         go_ret2;exact⟨pn A.symm y rfl,rfl⟩)
     .have l:U=i:=by rw[u.out];unfold mM;rw[e2,cZ H,cZ (by omega)]
      have y:=V l;have A:=V (show X=rs (QO k) by rw[z.out,cZ (by omega),B,a0.out]);clear e1 e2 l B e0;go_wp21;refine HG.mono ?_;rintro e w'⟨rfl,rfl⟩;go_wp2;go_ret2;exact⟨pn A.symm y rfl,rfl⟩
 .have e:p6 s=mM 10 s 2:=by unfold p6;rw[cZ hx]
  have e':p9 s=Mh 10 s 2:=by unfold p9;rw[cZ hx]
  rw[e,e'];clear e e';have a5:¬(2<s.size/\(bt s 2=120\/bt s 2=88)):=by unfold Nz at hx;simpa using hx
  clear hx;obtain⟨U,F⟩:∃x,x=mM 10 s 2:=⟨_,rfl⟩;obtain⟨X,K⟩:∃x,x=Mh 10 s 2:=⟨_,rfl⟩;have I:X=if U=0 then ⟨#[]⟩else Utf8.encode (QO (vq 10 s 0 2)):=by rw[K,F,Mh]
  rw[<-F,<-K];have u:=V F;have z:=V I;clear F K I;by_cases hz:2<s.size
  .have a1:¬bt s 2=120:=λh=>a5 ⟨hz,.inl h⟩;have a8:¬bt s 2=88:=λh=>a5 ⟨hz,.inr h⟩;have ac:(bt s 2==120)=false:=beq_eq_false_iff_ne.2 a1;have ad:(bt s 2==88)=false:=beq_eq_false_iff_ne.2 a8;clear a5 a1 a8;go_enter func256,ntmps256;go_wp21
   go_loopw [6,7] (λnv iv wr=>wr=w/\∃(k:Int)(i:Nat),nv=G k/\iv=G i/\0<=k/\k<=1114112/\2<=i/\i<=s.size/\vh 10 s i=vh 10 s 2/\vq 10 s k i=vq 10 s 0 2) (λ_ iv _=>s.size-(intOf iv).toNat)
   case atStart=>grind
   case round=>
    obtain⟨rfl,k,i,rfl,rfl,a2,a3,a9,aa,hd,hv⟩:=hrel;have HD:=V hd;have HV:=V hv;clear hd hv;by_cases q:i<s.size
    .have hb:=a6 i q;have h0:=bt_nonneg s i;have h1:=bt_le s i;have r:=CQ (bt s i);have C:=D (bt s i) h0 h1;by_cases hq:jf (bt s i)>=10
     .have e1:vh 10 s i=i:=Kw (by simpa using hq);have e2:vh 10 s 2=i:=by rw[<-HD.out,e1]
      have B:vq 10 s 0 2=k:=by rw[<-HV.out,NL q hq]
      by_cases H:i=2
      .have l:U=0:=by rw[u.out];unfold mM;rw[e2,dd H]
       have y:=V l;have A:=V (show X=⟨#[]⟩ by rw[z.out,dd l]);clear e1 e2 l B;subst H;go_wp21;refine C.mono ?_;rintro e w'⟨rfl,rfl⟩;go_wp2;go_ret2;exact⟨pn A.symm y rfl,rfl⟩
      .have HG:=ae k a2 a3;by_cases a4:bt s i=59;have l:U=i+1:=by rw[u.out];unfold mM;rw[e2,cZ H,dd ⟨q,a4⟩]
       have y:=V l;have A:=V (show X=rs (QO k) by rw[z.out,cZ (by omega),B,a0.out]);rw[a4]at C hb h0 h1 r hq;rw[show jf 59=99 from by decide]at C;clear e1 e2 l B r hq h0 h1
       rotate_left
       have l:U=i:=by rw[u.out];unfold mM;rw[e2,cZ H,cZ (by omega)]
       have y:=V l;have A:=V (show X=rs (QO k) by rw[z.out,cZ (by omega),B,a0.out]);clear e1 e2 l B
       all_goals
        go_wp21;refine C.mono ?_;rintro e w'⟨rfl,rfl⟩;go_wp21;refine HG.mono ?_;rintro e w'⟨rfl,rfl⟩;go_wp2;go_ret2;exact⟨pn A.symm y rfl,rfl⟩
     .have e1:vh 10 s (i+1)=vh 10 s 2:=by rw[<-HD.out];exact(Ih q (by simpa using hq)).symm
      have HU:vq 10 s (min (k*10+jf (bt s i)) 1114112) (i+1)=vq 10 s 0 2:=by rw[YE q hq,HV.out]
      have y:=V e1;clear e1;generalize jf (bt s i)=d at *;go_wp21;refine C.mono ?_;rintro e w'⟨rfl,rfl⟩;go_wp2
      all_goals (refine⟨⟨trivial,min (k*10+d) 1114112,i+1,?_,by go_num,by omega,by omega,by omega,by omega,y,HU⟩,?_⟩;(first|rfl|(congr 1;omega));(simp[intOf];omega))
    .have e1:vh 10 s i=i:=DO (by omega);have e2:vh 10 s 2=i:=by rw[<-HD.out,e1]
     have B:vq 10 s 0 2=k:=by rw[<-HV.out,Td q]
     have HG:=ae k a2 a3;have e0:i=s.size:=by omega
     by_cases H:i=2
     .have l:U=0:=by rw[u.out];unfold mM;rw[e2,dd H]
      have y:=V l;have A:=V (show X=⟨#[]⟩ by omega);clear e1 e2 l B e0;subst H
      first
       |(exfalso;omega)
       |(go_wp2
         go_ret2;exact⟨pn A.symm y rfl,rfl⟩)
     .have l:U=i:=by rw[u.out];unfold mM;rw[e2,cZ H,cZ (by omega)]
      have y:=V l;have A:=V (show X=rs (QO k) by rw[z.out,cZ (by omega),B,a0.out]);clear e1 e2 l B e0;go_wp21;refine HG.mono ?_;rintro e w'⟨rfl,rfl⟩;go_wp2;go_ret2;exact⟨pn A.symm y rfl,rfl⟩
  .clear a5;have n0:vh 10 s 2=2:=DO (by omega);have n1:U=0:=by rw[u.out];unfold mM;rw[dd n0]
   have n2:X=⟨#[]⟩:=by rw[z.out,dd n1]
   have e0:s.size=2:=by omega
   have y:=V n1;have A:=V n2;clear n0 n1 n2;go_enter func256,ntmps256;go_wp21;refine tW 1 ?_;rw[mg];go_wp2;go_ret2;exact⟨pn A.symm y rfl,rfl⟩
end
end Go.Proofs.YthnijkkcimlnjaaGreatDoor
