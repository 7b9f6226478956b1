import Derived.Test.YtdbbknopdbpfaaaGreatDoorRelA
set_option linter.unusedSimpArgs false
set_option linter.unusedVariables false
set_option linter.defProp false
set_option maxHeartbeats 0
set_option maxRecDepth 100000
namespace Go.Proofs.YtdbbknopdbpfaaaGreatDoor
open Go.RowKit Tryz
def mV:=@beq_eq_false_iff_ne
def Jd:=@ownsRow_putObj
section
variable {A lb:jL}{D bB bD bm bs c i j n n0:Nat}{E:Env}{L:Loc}{Q:Ending->J->Prop}{S:List (Nat×gP)}{T:List Nat}{W W' w w' w0:J}{assign body:Code}{ej:wN}{f f0:Nat->Nat}{o o':Obj}{r:qQ Unit}{rs:List Ru}{s:O}{t:gF}{v:gP}{vs:List gP}{σ σ':N}
def At.zd(h:At E f0 n0 w0 f σ w):w.cell? ⟨E.bB,187,none⟩=some (nV f 0):=by
 obtain⟨L,rfl,hr⟩:=h.rel;exact hr.low (by decide) hr.env.wA
theorem ud(σ σ':N)(h:σ'.nodes=σ.nodes):σ.nodes.length<=σ'.nodes.length:=by grind
def GC(E:Env)(x:jj):kP E 178 (λf=>#[j5 E.bB 188,oV f x]) (jR x) uV:=by
 intro f σ w ⟨L,e,hr⟩ a;subst e;unfold jR at a|-;by_cases b:σ.gZ x=true;rw[sL b];exact(ago hr x b).mono (λe w' h=>h.2.ml h.1 (ud _ _ rfl));rw[Xx b]at a;exact absurd rfl a
def agm(E:Env)(x:jj):kP E 319 (λf=>#[j5 E.bB 188,oV f x]) (AG x) uV:=by
 intro f σ w ⟨L,e,hr⟩ a;subst e;unfold AG at a|-;by_cases b:σ.gZ x=true;rw[sL b];exact(ai8 hr x b).mono (λe w' h=>h.2.ml h.1 (ud _ _ rfl));rw[Xx b]at a;exact absurd rfl a
def SA(E:Env)(x y:jj):kP E 367 (λf=>#[j5 E.bB 188,oV f x,oV f y]) (pK x y) uV:=by
 intro f σ w ⟨L,e,hr⟩ b;subst e;unfold pK at b|-;by_cases a:(σ.gZ x&&σ.nk y&&decide (σ.gq.length<4096))=true;rw[sL a];simp at a;exact(VJ hr x y a.1.1 a.1.2 a.2).mono (λe w' h=>h.2.ml h.1 (ud _ _ rfl));rw[Xx a]at b;exact absurd rfl b
def FA(E:Env)(x:jj):kP E 178 (λf=>#[j5 E.bB 189,oV f x]) (kM x) uV:=by
 intro f σ w ⟨L,e,hr⟩ a;subst e;unfold kM at a|-;by_cases b:σ.gZ x=true;rw[sL b];exact(aer hr x b).mono (λe w' h=>h.2.ml h.1 (ud _ _ rfl));rw[Xx b]at a;exact absurd rfl a
def aeq(E:Env)(x:jj):kP E 319 (λf=>#[j5 E.bB 189,oV f x]) (Af x) uV:=by
 intro f σ w ⟨L,e,hr⟩ a;subst e;unfold Af at a|-;by_cases b:σ.gZ x=true;rw[sL b];exact(ahU hr x b).mono (λe w' h=>h.2.ml h.1 (ud _ _ rfl));rw[Xx b]at a;exact absurd rfl a
def ahR(E:Env)(x y:jj):kP E 267 (λf=>#[j5 E.bB 189,oV f x,oV f y]) (pY x y) uV:=by
 intro f σ w ⟨L,e,hr⟩ b;subst e;unfold pY at b|-;by_cases a:(σ.gZ x&&σ.gZ y)=true;rw[sL a];simp at a;exact(abN hr x y a.1 a.2).mono (λe w' h=>h.2.ml h.1 (ud _ _ rfl));rw[Xx a]at b;exact absurd rfl b
def Rb(E:Env)(x y:jj):kP E 367 (λf=>#[j5 E.bB 189,oV f x,oV f y]) (od x y) uV:=by
 intro f σ w ⟨L,e,hr⟩ b;subst e;unfold od at b|-;by_cases a:(σ.gZ x&&σ.gZ y&&decide (σ.act.length<4096))=true;rw[sL a];simp at a;exact(T1 hr x y a.1.1 a.1.2 a.2).mono (λe w' h=>h.2.ml h.1 (ud _ _ rfl));rw[Xx a]at b;exact absurd rfl b
def EN(E:Env):kP E 175 (λ_=>#[j5 E.bB 188]) wV oV:=agy E
theorem adL(E:Env)(j:Nat):kP E 365 (λf=>#[nV f j]) (lX j) uV:=by
 intro f σ w ⟨L,e,hr⟩ a;subst e;unfold lX at a|-;cases hj:σ.gU j with
 |none=>rw[hj]at a;exact absurd rfl a
 |some ej=>
  simp only[hj]at a|-;cases hp:ej.ji with
  |none=>
   refine(Hc hr hj hp).mono ?_;rintro e w'⟨rfl,rfl⟩;exact⟨rfl,⟨L,rfl,hr⟩,Fr.refl _,ic _⟩
  |some p=>
   simp only[hp]at a|-;cases hep:σ.gU p with
   |none=>rw[hep]at a;exact absurd rfl a
   |some ep=>
    simp only[hep]at a|-;by_cases b:j≠p/\0<=pa ep.kids (Nd.gZ j)/\(pa ep.kids (Nd.gZ j)).toNat<ep.kids.length;rw[sL b];exact(adJ hr hj hp hep b.1 b.2.2 (by omega)).mono (λe w' h=>h.2.ml h.1 (by grind[N.gW]));rw[Xx b]at a;exact absurd rfl a
theorem Ps(E:Env)(i:Nat):jk E 266 (λf=>#[nV f i]) (kq i) nV:=by
 intro f σ w ⟨L,e,hr⟩ a;subst e;unfold kq at a|-;cases hi:σ.gU i with
 |none=>rw[hi]at a;exact absurd rfl a
 |some e=>
  simp only[hi]at a|-;by_cases hg:oA e.name=true;rw[sL hg]at a;exact absurd rfl a;rw[Xx hg];refine(adF hr hi (by grind)).mono ?_;rintro l w'⟨b,d,rfl,g,k⟩;exact⟨b.gQ,d,by simp[N.add],rfl,⟨b,rfl,g⟩,k⟩
def RF.ang(h:RF E f σ w):0<σ.nodes.length:=by
 have⟨L,_,hr⟩:=h;exact N.nh hr.wf.wA
theorem af9{k:Nat}(h:i<n):nV (Ku f n k) i=nV f i:=by grind[Ku]
section
variable (E:Env)(hF:mD E)(rec:Nat->gF->M Unit)
variable (hA:∀(m:Nat)(t:gF),jo E t->jk E 162 (λ_=>#[Bp E,.int .i64 (m:Int),iG E t]) (rec m t) uV)
include hA in
def vq(t:gF)(g:jo E t):jk E 86 (λ_=>#[Bp E,iG E t]) (jF rec t) uV:=by
 intro f σ w h HS;obtain⟨R,d⟩:∃R,R=jF rec t σ:=⟨_,rfl⟩;rw[<-d]at HS|-;have a:R=(rec σ.mode t>>=λ_=>(Pure.pure ():M Unit)) σ:=by
  rw[d,M.bind_pure];rfl
 have b:=V a;have H:=At.start h;have p:=H.tf;have e:=h.lt;clear h d a;go_enter func86,ntmps86;go_wp21;refine dC (hA σ.mode t g) H b HS rfl lT ?_;clear H b;rintro(_) f σ w H l k b;go_wp2;go_end0;exact gu b H rfl
include hA in
def BF(t:gF)(d:jo E t):jk E 92 (λ_=>#[Bp E,iG E t]) (kK rec t) uV:=by
 refine dI λf σ w R a HS H=>?_;unfold kK at a;go_enter func92,ntmps92;have k:=H.aeJ;have p:=H.free 196;have l:=H.tf;have q:=H.free 192;have b:=H.lt;replace H:=(H.rT true).jm 1;go_wp21;refine dC (vq E rec hA t d) H a HS rfl lT ?_;rintro(_) f σ w H g e a;go_wp2;go_end0;exact gu a H rfl
theorem EG(own:Bool):jk E 167 (λ_=>#[Bp E,if own then E.tv else .slice none 0 0]) (rP own (if own then E.ta else [])) uV:=by
 intro f σ w h l;have⟨ao,n,cp,htv⟩:=h.tv;obtain⟨R,b⟩:∃R,R=rP own (if own then E.ta else []) σ:=⟨_,rfl⟩;rw[<-b]at l|-;have HS:=l;have H:=At.start h;have u:=h.lt;have k:=V h.ang;have x:=H.zd;have y:=H.ab4;have z:=H.free 190;unfold rP at b;cases own with
 |true=>
  rw[M.gw]at b;unfold rA at b;have e:σ.fresh=true:=by
   cases hq:σ.fresh with
   |true=>rfl
   |false=>grind
  simp only[e,if_true]at b;have a:=V b;replace H:=H.ku e fN;rw[htv]at H;rw[sL rfl,htv];clear h b;go_enter func167,ntmps167;go_wp21;refine mC (JD E 0) H a HS (by rw[af9 k.out]) lT ?_;rintro(g) σ w H d a;go_wp21;refine mC (GK E g _) H a HS (by rw[AC]) lT ?_;rintro(_) σ w H d a;go_wp21;refine mC (SH E (some _)) H a HS (by show #[_,nV _ _]=_;rw[AC]) lT ?_;rintro(_) σ w H d a;have p:=H.tf;have q:=H.free 192;replace H:=H.jm 2;go_wp2;go_end0;exact gu a H rfl
 |false=>
  rw[M.gw]at b;unfold rA at b;simp only[ZY,Tw]at b;have a:=V b;replace H:=H.Bk fN;rw[Xx (by simp)];clear h b;go_enter func167,ntmps167;go_wp21;refine mC (JD E 0) H a HS (by rw[af9 k.out]) lT ?_;rintro(g) σ w H d a;go_wp21;refine mC (GK E g _) H a HS (by rw[AC]) lT ?_;rintro(_) σ w H d a;go_wp21;refine mC (SH E (some _)) H a HS (by show #[_,nV _ _]=_;rw[AC]) lT ?_;rintro(_) σ w H d a;have p:=H.tf;have q:=H.free 192;replace H:=H.jm 2;go_wp2;go_end0;exact gu a H rfl
include hF in
theorem EH(own:Bool):jk E 172 (λ_=>#[Bp E,if own then E.tv else .slice none 0 0]) (rQ own (if own then E.ta else [])) uV:=by
 intro f σ w h k;have⟨ao,n,cp,htv⟩:=h.tv;obtain⟨R,a⟩:∃R,R=rQ own (if own then E.ta else []) σ:=⟨_,rfl⟩;rw[<-a]at k|-;have HS:=k;have H:=At.start h;have g:=h.lt;have u:=h.ang;have x:=H.zd;have y:=H.ab4;have z:=H.free 190;unfold rQ at a;cases own with
 |true=>
  rw[M.gw]at a;unfold rA at a;have e:σ.fresh=true:=by
   cases hq:σ.fresh with
   |true=>rfl
   |false=>grind
  simp only[e,if_true]at a;have d:=V a;replace H:=H.ku e fY;rw[htv]at H;rw[sL rfl,htv];clear a;go_enter func172,ntmps172;have b:=H.zP (some σ.nodes.length) (by simp[N.gZ,N.gU,N.qt,N.add]);rw[show oV (Ku f σ.nodes.length w.heap.size) (some σ.nodes.length)=gI w.heap.size from AC _ _ _]at b;rw[World.setCell_alloc_past _ _ _ _ g]at b;replace H:=b;go_wp21;refine mC (Gg E hF _) H d HS (by rw[AC]) lT ?_;rintro(_) σ w H l d;have p:=H.tf;have q:=H.free 192;replace H:=H.jm 3;go_wp2;go_end0;exact gu d H rfl
 |false=>
  rw[M.gw]at a;unfold rA at a;simp only[ZY,Tw]at a;have d:=V a;replace H:=H.Bk fY;rw[Xx (by simp)];clear a;go_enter func172,ntmps172;have b:=H.zP (some σ.nodes.length) (by simp[N.gZ,N.gU,N.qt,N.add]);rw[show oV (Ku f σ.nodes.length w.heap.size) (some σ.nodes.length)=gI w.heap.size from AC _ _ _]at b;rw[World.setCell_alloc_past _ _ _ _ g]at b;replace H:=b;go_wp21;refine mC (Gg E hF _) H d HS (by rw[AC]) lT ?_;rintro(_) σ w H l d;have p:=H.tf;have q:=H.free 192;replace H:=H.jm 3;go_wp2;go_end0;exact gu d H rfl
include hA in
def OI(t:gF)(e:jo E t):jk E 95 (λ_=>#[Bp E,iG E t]) (oF rec t) uV:=by
 refine dI λf σ w R a HS H=>?_;unfold oF at a;go_enter func95,ntmps95;go_wp21;refine dC (EG E false) H a HS (by simp) lT ?_;rintro(_) f σ w H d b a;go_wp21;refine dC (vq E rec hA t e) H a HS rfl lT ?_;rintro(_) f σ w H d b a;go_wp2;go_end0;exact gu a H rfl
include hF hA in
def OK(t:gF)(e:jo E t):jk E 99 (λ_=>#[Bp E,iG E t]) (oG rec t) uV:=by
 refine dI λf σ w R a HS H=>?_;unfold oG at a;go_enter func99,ntmps99;go_wp21;refine dC (EH E hF false) H a HS (by simp) lT ?_;rintro(_) f σ w H d b a;go_wp21;refine dC (vq E rec hA t e) H a HS rfl lT ?_;rintro(_) f σ w H d b a;go_wp2;go_end0;exact gu a H rfl
theorem WG(t:gF)(K:jo E t):jk E 94 (λ_=>#[Bp E,iG E t]) (xV t) uV:=by
 intro f σ w h y;have⟨ao,n,cp,htv⟩:=h.tv;obtain⟨R,g⟩:∃R,R=xV t σ:=⟨_,rfl⟩;rw[<-g]at y|-;have HS:=y;have H:=At.start h;have I:=h.lt;have q:=zU E t w ⟨ao,n,cp,htv⟩;unfold xV at g;cases htg:t.qw with
 |true=>
  have d:t.jh=(if true then E.ta else [])/\AY E t=#[G t.a,G t.b,Y t.name,.slice ao n cp]:=by
   have:=K htg;have⟨a,b,k,gG⟩:=t;cases k<;>simp_all[gF.qw,gF.jh,AY,gF.name]
  rw[htg,d.1]at g;rw[d.2]at q;have l:=V q;have p:=V g;have C:=V htv;have u:=λw=>zV (t.a:Int) (t.b:Int) t.name ao n cp w;clear g q htv;go_enter func94,ntmps94;go_wp21;refine l.mono ?_;rintro e P⟨rfl,x⟩;replace H:=H.k0 x;go_wp21;refine dC (EG E true) H p HS (by grind[Hid.out]) lT ?_;rintro(_) f σ w H F z p;go_wp2;go_end0;exact gu p H rfl
 |false=>
  have d:t.jh=(if false then E.ta else [])/\AY E t=#[G 0,G 0,Y kB,jD]:=by
   have⟨a,b,k,gG⟩:=t;cases k<;>simp_all[gF.qw,gF.jh,AY,gF.name]
  rw[htg,d.1]at g;rw[d.2]at q;have l:=V q;have p:=V g;have u:=λw=>zV 0 0 ⟨#[]⟩ none 0 0 w;clear g q htv;go_enter func94,ntmps94;go_wp21;refine l.mono ?_;rintro e P⟨rfl,x⟩;replace H:=H.k0 x;go_wp21;refine dC (EG E false) H p HS (by simp) lT ?_;rintro(_) f σ w H F z p;go_wp2;go_end0;exact gu p H rfl
include hF in
theorem WI(t:gF)(K:jo E t):jk E 98 (λ_=>#[Bp E,iG E t]) (xW t) uV:=by
 intro f σ w h z;have⟨ao,n,cp,htv⟩:=h.tv;obtain⟨R,g⟩:∃R,R=xW t σ:=⟨_,rfl⟩;rw[<-g]at z|-;have HS:=z;have H:=At.start h;have I:=h.lt;have q:=zU E t w ⟨ao,n,cp,htv⟩;unfold xW at g;cases htg:t.qw with
 |true=>
  have d:t.jh=(if true then E.ta else [])/\AY E t=#[G t.a,G t.b,Y t.name,.slice ao n cp]:=by
   have:=K htg;have⟨a,b,k,gG⟩:=t;cases k<;>simp_all[gF.qw,gF.jh,AY,gF.name]
  rw[htg,d.1]at g;rw[d.2]at q;have l:=V q;have p:=V g;have u:=V htv;have x:=λw=>zV (t.a:Int) (t.b:Int) t.name ao n cp w;clear g q htv;go_enter func98,ntmps98;go_wp21;refine l.mono ?_;rintro e P⟨rfl,y⟩;replace H:=H.k0 y;go_wp21;refine dC (EH E hF true) H p HS (by rw[sL rfl,u.out]) lT ?_;rintro(_) f σ w H F C p;go_wp2;go_end0;exact gu p H rfl
 |false=>
  have d:t.jh=(if false then E.ta else [])/\AY E t=#[G 0,G 0,Y kB,jD]:=by
   have⟨a,b,k,gG⟩:=t;cases k<;>simp_all[gF.qw,gF.jh,AY,gF.name]
  rw[htg,d.1]at g;rw[d.2]at q;have l:=V q;have p:=V g;have x:=λw=>zV 0 0 ⟨#[]⟩ none 0 0 w;clear g q htv;go_enter func98,ntmps98;go_wp21;refine l.mono ?_;rintro e P⟨rfl,y⟩;replace H:=H.k0 y;go_wp21;refine dC (EH E hF false) H p HS (by simp) lT ?_;rintro(_) f σ w H F C p;go_wp2;go_end0;exact gu p H rfl
def PM(t:gF):jk E 104 (λ_=>#[Bp E,iG E t]) (As) uV:=by
 refine dI λf σ w R a HS H=>?_;unfold As at a;go_enter func104,ntmps104;go_wp21;refine mC (EN E) H a HS rfl lT ?_;rintro(_) σ w H d a;have e:=H.tf;have g:=H.free 192;have b:=H.lt;replace H:=H.jm 4;go_wp2;go_end0;exact gu a H rfl
include hA in
def Er(t:gF)(e:jo E t):jk E 105 (λ_=>#[Bp E,iG E t]) (mj rec t) uV:=by
 refine dI λf σ w R a HS H=>?_;unfold mj at a;go_enter func105,ntmps105;go_wp21;refine dC (PM E t) H a HS rfl lT ?_;rintro(_) f σ w H d b a;go_wp21;refine dC (vq E rec hA t e) H a HS rfl lT ?_;rintro(_) f σ w H d b a;go_wp2;go_end0;exact gu a H rfl
include hF in
def Wy(t:gF)(d:jo E t):jk E 106 (λ_=>#[Bp E,iG E t]) (uC t) uV:=by
 refine dI λf σ w R a HS H=>?_;unfold uC at a;go_enter func106,ntmps106;go_wp21;refine dC (mq E hF t d) H a HS rfl lT ?_;rintro(_) f σ w H g e a;have k:=H.tf;have l:=H.free 192;have b:=H.lt;replace H:=H.jm 6;go_wp2;go_end0;exact gu a H rfl
include hF hA in
def OE(t:gF)(g:jo E t):jk E 108 (λ_=>#[Bp E,iG E t]) (nf rec t) uV:=by
 refine dI λf σ w R a HS H=>?_;unfold nf at a;go_enter func108,ntmps108;go_wp21;refine dC (wj E hF fR) H a HS rfl lT ?_;rintro(_) f σ w H d b a;have k:=H.tf;have l:=H.free 192;have e:=H.lt;replace H:=H.jm 6;go_wp21;refine dC (vq E rec hA t g) H a HS rfl lT ?_;rintro(_) f σ w H d b a;go_wp2;go_end0;exact gu a H rfl
def PO(t:gF):jk E 110 (λ_=>#[Bp E,iG E t]) (xv) uV:=by
 refine dI λf σ w R a HS H=>?_;unfold xv at a;go_enter func110,ntmps110;go_wp21;refine mC (EN E) H a HS rfl lT ?_;rintro(_) σ w H b a;have d:=H.tf;have g:=H.free 192;have e:=H.XZ;have k:=H.lt;replace H:=H.jm σ.kept;go_wp2;go_end0;exact gu a H rfl
include hA in
def acg(t:gF)(e:jo E t):jk E 109 (λ_=>#[Bp E,iG E t]) (Ao rec t) uV:=by
 refine dI λf σ w R a HS H=>?_;unfold Ao at a;go_enter func109,ntmps109;go_wp21;refine dC (PO E t) H a HS rfl lT ?_;rintro(_) f σ w H d b a;go_wp21;refine dC (vq E rec hA t e) H a HS rfl lT ?_;rintro(_) f σ w H d b a;go_wp2;go_end0;exact gu a H rfl
def ae7(t:gF):jk E 146 (λ_=>#[Bp E,iG E t]) (Ii) uV:=by
 refine dI λf σ w R a HS H=>?_;unfold Ii at a;go_enter func146,ntmps146;have d:=H.tf;have e:=H.free 192;have b:=H.lt;replace H:=H.jm 17;go_wp2;go_end0;exact gu a H rfl
include hA in
def Rq(t:gF)(d:jo E t):jk E 238 (λ_=>#[Bp E,iG E t]) (tR rec t) uV:=by
 refine dI λf σ w R a HS H=>?_;unfold tR at a;go_enter func238,ntmps238;have k:=H.tf;have l:=H.free 192;have b:=H.lt;replace H:=H.jm 6;go_wp21;refine dC (vq E rec hA t d) H a HS rfl lT ?_;rintro(_) f σ w H g e a;go_wp2;go_end0;exact gu a H rfl
end
def RF.Vn(h:RF E f σ w):Calls prog 170 #[j5 E.bB 188] w λe w'=>e=iA (oV f σ.last)/\w'=w:=by
 obtain⟨L,rfl,hr⟩:=h;exact Y7 hr
def RF.anw(h:RF E f σ w):Calls prog 260 #[j5 E.bB 189] w λe w'=>e=iA (G σ.act.length)/\w'=w:=by
 obtain⟨L,rfl,hr⟩:=h;exact akr hr
def RF.fh(h:RF E f σ w)(n:Int):Calls prog 239 #[j5 E.bB 189,G n] w λe w'=>e=iA (oV f (iC σ.act n))/\w'=w:=by
 obtain⟨L,rfl,hr⟩:=h;exact aoq hr n
def RF.dQ(h:RF E f σ w)(n:Int):Calls prog 239 #[j5 E.bB 188,G n] w λe w'=>e=iA (oV f (iC σ.gq n))/\w'=w:=by
 obtain⟨L,rfl,hr⟩:=h;exact anG hr n
def RF.anp(h:RF E f σ w)(x:jj)(a:σ.gZ x=true):Calls prog 313 #[j5 E.bB 188,oV f x] w λe w'=>e=iA (.bool (decide (x∈σ.gq)))/\w'=w:=by
 obtain⟨L,rfl,hr⟩:=h;exact anH hr x a
def RF.ano(h:RF E f σ w)(x:jj)(a:σ.gZ x=true):Calls prog 313 #[j5 E.bB 189,oV f x] w λe w'=>e=iA (.bool (decide (x∈σ.act)))/\w'=w:=by
 obtain⟨L,rfl,hr⟩:=h;exact am5 hr x a
def RF.alg(h:RF E f σ w)(x:jj)(a:σ.gZ x=true):Calls prog 237 #[j5 E.bB 188,oV f x] w λe w'=>e=iA (oV f (iC σ.gq (posOf σ.gq x-1)))/\w'=w:=by
 obtain⟨L,rfl,hr⟩:=h;exact AH hr x a
theorem RF.aks(h:RF E f σ w)(n:Int):σ.gZ (iC σ.act n)=true:=by
 obtain⟨L,rfl,hr⟩:=h;unfold iC;by_cases a:0<=n/\n<σ.act.length;grind[Wf.act,Rel.wf];rw[Xx a];rfl
def aiI(h:RF E f σ w)(x:jj)(b:σ.gZ x=true):
  Calls prog 265 #[Bp E,oV f x] w λe w'=>e=iA (.bool (σ.YR x))/\w'=w:=by
 have C:=h.anp x b;unfold N.YR;cases x with
 |none=>
  go_enter func265,ntmps265;go_wp2;go_ret;simp
 |some i=>
  have a:oV f (some i)=gI (f i):=rfl;rw[a]at C|-;go_enter func265,ntmps265;go_wp21;refine C.mono ?_;rintro e w'⟨rfl,rfl⟩;go_wp2;go_ret;simp
theorem D9(E:Env)(x:jj):kP E 281 (λf=>#[Bp E,oV f x]) (km x) uV:=by
 intro f σ w ⟨L,e,h⟩ l;subst e;have K:=h.low (j:=1) (by decide) h.Gv.2.1;have⟨_,_,_,_,hd,_⟩:=h.Gv;have I:=h.Ie;have d:=(λq=>akr (h.drewN q));unfold km at l|-;by_cases g:σ.sB<=σ.act.length
 .rw[sL g];have b:=(λq=>Te (h.drewN q) 6);go_enter func281,ntmps281;go_wp21
  go_quiet ((go_at_call 260;exact kV (d _)))
  go_wp21;refine(b nq).mono ?_;rintro e w'⟨k,rfl,p,F⟩;have u:=(Fr.drewN w nq).trans F;go_wp2;exact⟨rfl,k,rfl,p,u⟩
 .rw[Xx g]at l|-;have a:σ.gZ x=true:=by
   by_cases a:σ.gZ x=true;exact a;grind
  rw[sL a];have b:=(λq=>alb (h.drewN q) x a (by omega));go_enter func281,ntmps281;go_wp21
  go_quiet ((go_at_call 260;exact kV (d _)))
  go_wp21;refine(b nq).mono ?_;rintro e w'⟨rfl,C,e1,z,H⟩;have y:=(Fr.drewN w nq).trans H;go_wp2;go_end0;exact⟨rfl,⟨C,e1,z⟩,y,ic _⟩
theorem M.tail{α:Type}{m:M α}{R:qQ α}(h:R=m σ):R=(m>>=λa=>(Pure.pure a:M α)) σ:=by grind[bind_pure]
def BN(E:Env):kP E 214 (λ_=>#[Bp E]) (km none) uV:=by
 refine mI λf σ w R a HS H=>?_;go_enter func214,ntmps214;replace a:=V (M.tail a);go_wp21;refine mC (D9 E none) H a HS rfl mT ?_;rintro(_) σ w H b a;go_wp2;go_end0;exact kI a H rfl
def Xi(E:Env):kP E 280 (λ_=>#[Bp E]) zo uV:=by
 refine mI λf σ w R a HS H=>?_;unfold zo at a;go_enter func280,ntmps280;go_wp21;refine mC (aeq E none) H a HS rfl mT ?_;rintro(_) σ w H b a;go_wp2;go_end0;exact kI a H rfl
def ads{xs:kY}{x:jj}:σ.jt ((xs++[x]).reverse)=if σ.YR x then xs.length+1 else σ.jt xs.reverse:=by
 simp[N.jt]
attribute [local go_sem] Oper.semAt_some
theorem JI:∀{a:kY},(∀y∈a,(!ld (σ.mu y) fQ)=true\/y=iC σ.gq 0)->tD σ a=none
 |[],_=>rfl
 |x::a,h=>by
  unfold tD;rw[sL (by grind)];exact JI λy b=>h y (by grind)
theorem JK{y:jj}{a:kY}(hr:¬((!ld (σ.mu y) fQ)=true\/y=iC σ.gq 0)):∀{b:kY},(∀y∈b,(!ld (σ.mu y) fQ)=true\/y=iC σ.gq 0)->tD σ (b++[y]++a)=some y
 |[],_=>by
  grind[tD]
 |x::b,h=>by
  show tD σ (x::(b++[y]++a))=some y;unfold tD;rw[sL (by grind)];exact JK hr λy d=>h y (by grind)
def EJ{a:J}{s:Nat}(e:Z [] W a)(hw:Z [] w W)(hs:w.heap.size<=s)(g:a.heap[s]?=some (gH #[.pointer none,G 0] 228))(b d:gP):
  Z [s] W ((a.setCell ⟨s,0,none⟩ b).setCell ⟨s,1,none⟩ d)/\Z [] w ((a.setCell ⟨s,0,none⟩ b).setCell ⟨s,1,none⟩ d)/\((a.setCell ⟨s,0,none⟩ b).setCell ⟨s,1,none⟩ d).heap[s]?=some (gH #[b,d] 228):=
 ⟨((e.mono (by simp)).setCell (.inl (by simp)) _).setCell (.inl (by simp)) _,(((hw.trans e)).setCell (.inr hs) _).setCell (.inr hs) _,gh (gh g 0 b) 1 d⟩
def adb{a:J}{s:Nat}(g:Z [] W a)(hw:Z [] w W)(hs:w.heap.size<=s)(e:a.heap[s]?=some (gH #[.pointer none,G 0] 228))(b d:gP)(o:Obj):
  Z [s] W (((a.setCell ⟨s,0,none⟩ b).setCell ⟨s,1,none⟩ d).alloc o)/\Z [] w (((a.setCell ⟨s,0,none⟩ b).setCell ⟨s,1,none⟩ d).alloc o)/\(((a.setCell ⟨s,0,none⟩ b).setCell ⟨s,1,none⟩ d).alloc o).heap[s]?=some (gH #[b,d] 228):=by
 have⟨h1,h2,h3⟩:=EJ g hw hs e b d;exact⟨h1.alloc _,h2.alloc _,((Z.refl [] _).alloc o).at h3 (by simp)⟩
theorem iP(E:Env):mD E:=by
 intro f σ w h hs;have ar:∃pl,j7 σ=.ok pl σ:=by
  cases b:j7 σ with
  |ok pl σ1=>exact⟨pl,by rw[oJ b]⟩
  |stop c p=>
   exfalso;unfold j7 at b;split at b;split at b;unfold mG at b;split at b;split at b;grind;split at b;unfold jg at b;grind;grind;grind;cases b;split at b;unfold jg at b;grind;grind;grind
  |stuck=>grind
 have⟨dB,hpl0⟩:=ar;have a5:σ.Cx=true:=by
  cases ht:σ.Cx with
  |true=>rfl
  |false=>unfold j7 at hpl0;grind
 rw[hpl0];obtain⟨L,rfl,k⟩:=h;refine(XB (n:=3)).1 ?_;refine abz func258 rfl trivial ?_ rfl;simp only[ntmps258,abw,pG,Kk,Nat.reduceAdd,Nat.reduceSub,sR,yD,wL,yE,abu,yF];have az:=k.lt;obtain⟨z,H⟩:∃z,z=(w.alloc (gH #[Bp E] 117)).alloc (gH #[.pointer none,G 0] 228):=⟨_,rfl⟩;have ah:Z [] w z:=by rw[H];exact((Z.refl _ _).alloc _).alloc _
 have ax:z.heap[w.heap.size]?=some (gH #[Bp E] 117):=by
  have:=(ur w (gH #[Bp E] 117) (gH #[.pointer none,G 0] 228)).1
  rwa [<-H]at this
 obtain⟨w1,a6⟩:∃w1,w1=z.alloc (gH #[oV L.gQ (iC σ.gq 0)] 66):=⟨_,rfl⟩;have an:Z [] w w1:=by rw[a6];exact ah.alloc _
 have⟨b0,b1,b2⟩:=pF w (gH #[Bp E] 117) (gH #[.pointer none,G 0] 228) (gH #[oV L.gQ (iC σ.gq 0)] 66);rw[<-H,<-a6]at b0 b1 b2;have aa:z.heap.size=w.heap.size+1+1:=by rw[H];simp
 have I:w1.heap.size=w.heap.size+1+1+1:=by rw[a6];simp[aa]
 have CA:=anG (k.ir ah) 0;have aA:=k.ir an;have⟨C,HL,hC⟩:=aA.AA;have HU:=acT E.bs E.bB 188 _ C _ _ w1 HL;have HO:=(λg (hg:L.ov.ownBlock=some g)=>EV k.qv hg);have HN:=(λ(W:J) (d:Z [] w W) (i:Nat) (e:wN) (hi:σ.gU i=some e)=>(k.ir d).wU hi);have HS:=(λ(y:jj) (hy:y∈σ.gq)=>k.px hy);have HI:=V k.inj;have HE:=(λ(W:J) (d:Z [] w W) (x:jj) (hx:σ.gZ x=true)=>(k.ir d).gZ hx);have HZ:=V I;have ad:=V aa;have aw:=V H;have HW:=V a6;clear I a6 aa H;have aB:z.cell? ⟨w.heap.size,0,none⟩=some (Bp E):=by rw[fP ax];rfl
 have aD:E.bB<z.heap.size:=nr az ah.size;have aE:w.heap.size<z.heap.size:=by have:=ad.out;omega
 gi_wp2_with fail
 rw[<-aw.out];refine⟨trivial,(callsIn_wide.2 CA).mono ?_⟩;rintro e z⟨rfl,rfl⟩
 gi_wp2_with fail
 rw[<-HW.out];refine⟨trivial,(callsIn_wide.2 HU).mono ?_⟩;rintro e w'⟨rfl,rfl⟩;gi_wp2;refine Hj (by omega) (f:=iF L.gQ) (λx y e=>tk HI.out e) HL rfl [] [w.heap.size+1] (by simp) (by grind)
  (λpre W=>Z [] w W/\W.heap[w.heap.size]?=some (gH #[Bp E] 117)/\W.heap[w.heap.size+1]?=some (gH #[.pointer none,G 0] 228)/\W.heap[z.heap.size]?=some (gH #[oV L.gQ (iC σ.gq 0)] 66)/\∀y∈pre,(!ld (σ.mu y) fQ)=true\/y=iC σ.gq 0)
  (λc pre W=>c=.ret/\Z [] w W/\∃u i pl,pre=u++[some i]/\(∀y∈u,(!ld (σ.mu y) fQ)=true\/y=iC σ.gq 0)/\¬((!ld (σ.mu (some i)) fQ)=true\/some i=iC σ.gq 0)/\mG i σ=.ok pl σ/\W.heap[w.heap.size+1]?=some (gH #[gI (L.gQ pl.1),G pl.2] 228))
  ?_ ?_ ?_ (λx=>{tmps:=#[Bp E,gI w.heap.size,gI (w.heap.size+1),gI z.heap.size,kX x,undef,undef,Bp E,gI E.bB,j5 E.bB 188,oV L.gQ (iC σ.gq 0),Bp E,gI E.bB,j5 E.bB 188,wJ w1.heap.size,kX x,undef,undef,undef,undef,undef,undef,undef,undef,undef,undef,undef,undef,undef,undef,undef,undef,undef,undef,undef,undef,undef,undef,undef,undef,undef],defers:=[]}) ?assign ?body ?done ?stopx
 rintro s A B row⟨h1,h2,h3,h4,h5⟩ hg hr;have I:=HZ.out;have aa:=ad.out;exact⟨nB h1 hg hr (by omega),lB h2 hg hr (by omega),lB h3 hg hr (by omega),lB h4 hg hr (by omega),h5⟩;rintro c s A B row⟨h0,h1,u,i,pl,h2,h3,h4,h5,h6⟩ hg hr;have I:=HZ.out;exact⟨h0,nB h1 hg hr (by omega),u,i,pl,h2,h3,h4,h5,lB h6 hg hr (by omega)⟩;have d:Z [] w1 (nJ E.bB 188 (σ.gq.length) w1):=((Z.refl _ _).alloc _).alloc _;refine⟨an.trans d,d.at b0 (by simp),d.at b1 (by simp),?_,by simp⟩;rw[ad.out];exact d.at b2 (by simp)
 case assign=>
  intro l x W K hK;gi_wp2;exact hK
 case body=>
  rintro l pre y W hy⟨F,h2,B3,B4,B5⟩;obtain⟨i,e0,rfl,hi⟩:=HS y hy;have R:=k.ir F;have c0:=HN W F i e0 hi;have c1:W.cell? ⟨w.heap.size,0,none⟩=some (Bp E):=by rw[fP h2];rfl
  have c2:W.cell? ⟨z.heap.size,0,none⟩=some (oV L.gQ (iC σ.gq 0)):=by rw[fP B4];rfl
  have X:(binOp .eql 66 (gI (L.gQ i)) (oV L.gQ (iC σ.gq 0))).run prog W=.ok (.bool (decide (some i=iC σ.gq 0))) W:=by
   have ay:σ.gZ (iC σ.gq 0)=true:=by
    unfold iC;by_cases hn:(0:Int)<=0/\(0:Int)<σ.gq.length;rw[sL hn];have ao:0<σ.gq.length:=by omega
    show σ.gZ (σ.gq.getD 0 none)=true;rw[aby,yG ao];exact N.xB (R.wf.gq _ (wK ao));rw[Xx hn];rfl
   have X:=Ek (HE W F (some i) (by show(σ.gU i).isSome=true;rw[hi];rfl)) (HE W F _ ay);rw[decide_eq_decide.2 (⟨λe=>tk HI.out e,λe=>by rw[e]⟩:iF L.gQ (some i)=iF L.gQ (iC σ.gq 0)↔some i=iC σ.gq 0)]at X;exact X
  have a9:ld (σ.mu (some i)) fQ=((σ.nm i).toList==[116,97,98,108,101]):=by
   show ld (σ.nm i) _=_;unfold ld;rw[sd fQ]
  have B2:=V h2;have P:=V hi;clear h2 hi
  try dsimp only
  rw[show kX (iF L.gQ (some i))=gI (L.gQ i)from rfl];cases htb:((σ.nm i).toList==[116,97,98,108,101])with
  |false=>
   rw[htb]at a9;have HG:Hid ((!ld (σ.mu (some i)) fQ)=true\/some i=iC σ.gq 0):=V (.inl (by rw[a9];rfl));have au:((σ.nm i).toList != [116,97,98,108,101])=true:=by simp[bne,htb]
   gi_wp2;refine⟨Z.refl _ _,F,B2.out,B3,B4,λy hy=>?_⟩;grind
  |true=>
   rw[htb]at a9;have au:((σ.nm i).toList != [116,97,98,108,101])=false:=by simp[bne,htb]
   by_cases a1:some i=iC σ.gq 0
   .rw[Hl a1]at X;have HG:Hid ((!ld (σ.mu (some i)) fQ)=true\/some i=iC σ.gq 0):=V (.inr a1);gi_wp2;refine⟨Z.refl _ _,F,B2.out,B3,B4,λy hy=>?_⟩;grind
   .rw[qW a1]at X;have HG:Hid (¬((!ld (σ.mu (some i)) fQ)=true\/some i=iC σ.gq 0)):=V (by rw[a9];simp[a1]);have am:(mG i σ).isOk=true:=by
     have:=List.all_eq_true.1 a5 (some i) hy;simp only[Bool.or_eq_true,abB]at this;rcases this with(h|h)|h;exfalso;have e:ld (σ.mu (some i)) fQ=ld (σ.nm i) fQ:=rfl;grind;exact absurd h a1;exact h
    cases hp:e0.ji with
    |some p=>
     have U:∃ep,σ.gU p=some ep/\0<=pa ep.kids (Nd.gZ i)/\mG i σ=.ok (p,(pa ep.kids (Nd.gZ i)).toNat) σ:=by
      have d:=am;unfold mG at d|-;rw[P.out]at d|-;simp only[hp]at d|-;cases b:σ.gU p with
      |none=>rw[b]at d;simp[qQ.isOk]at d
      |some ep=>
       simp only[b]at d|-;by_cases aq:0<=pa ep.kids (Nd.gZ i);grind;rw[Xx aq]at d;simp[qQ.isOk]at d
     have⟨ep,U,aq,hfa⟩:=U;have CF:=WU R P.out hp U;obtain⟨q,b⟩:∃q:Nat,pa ep.kids (Nd.gZ i)=(q:Int):=⟨(pa ep.kids (Nd.gZ i)).toNat,by omega⟩;rw[b]at CF hfa;have ab:Hid (mG i σ=.ok (p,q) σ):=V (by rw[hfa];rfl);clear hfa
     gi_wp2_with fail
     refine⟨trivial,(zq l (callsIn_wide.2 CF)).mono ?_⟩;rintro e W2⟨rfl,ai,ak⟩;have a:=ak.at B3 (by simp);have d0:W2.cell? ⟨w.heap.size+1,0,none⟩=some (.pointer none):=by rw[fP a];rfl
     have d1:W2.cell? ⟨w.heap.size+1,1,none⟩=some (G 0):=by rw[fP a];rfl
     have g0:=gx a 0;have g1:=gx a 1;have aC:w.heap.size+1<W2.heap.size:=ja a;have a7:=V a;gi_wp2;have⟨t1,t2,t3⟩:=adb ak F (A5 _) a7.out (gI (L.gQ p)) (G q) (gH #[gI (L.gQ p),G q] 228);exact⟨t1,rfl,t2,pre,i,(p,q),rfl,B5,HG.out,ab.out,t3⟩
    |none=>
     have U:∃q e,iC σ.gq (posOf σ.gq (some i)-1)=some q/\σ.gU q=some e/\mG i σ=.ok (q,e.kids.length) σ:=by
      have d:=am;unfold mG at d|-;rw[P.out]at d|-;simp only[hp]at d|-;cases b:iC σ.gq (posOf σ.gq (some i)-1)with
      |none=>rw[b]at d;simp[qQ.isOk]at d
      |some q=>
       simp only[b]at d|-;unfold jg at d|-;cases hq2:σ.gU q with
       |none=>rw[hq2]at d;simp[qQ.isOk]at d
       |some e=>grind
     have⟨q,eq,af,a0,hfa⟩:=U;have CF:=ZL R P.out hp;have ab:=V hfa;have av:=(λ(W':J) (d:Z [] W W')=>(show Calls prog 237 #[j5 E.bB 188,gI (L.gQ i)] W' (λe w'=>e=iA (gI (L.gQ q))/\w'=W')from by
      have:=AH (R.ir d) (some i) (by show(σ.gU i).isSome=true;rw[P.out];rfl)
      rwa [af]at this))
     have CE:=(λ(W':J) (d:Z [] W W')=>WT (R.ir d) a0);clear hfa
     gi_wp2_with fail
     refine⟨trivial,(zq l (callsIn_wide.2 CF)).mono ?_⟩;rintro e W2⟨rfl,ai,ag⟩;have ac:Z [] W (W2.alloc (gH #[.pointer none,G 0] 228)):=ag.alloc _;have e1:W2.cell? ⟨w.heap.size,0,none⟩=some (Bp E):=by rw[fP (ag.at B2.out (by simp))];rfl
     have aF:w.heap.size<W2.heap.size:=ja (ag.at B2.out (by simp))
     gi_wp2_with fail
     refine⟨trivial,(zq l (callsIn_wide.2 (av _ ac))).mono ?_⟩;rintro e W3⟨rfl,rfl⟩
     gi_wp2_with fail
     refine⟨trivial,(zq l (callsIn_wide.2 (CE _ ac))).mono ?_⟩;rintro e W4⟨rfl,aj,a3⟩;have a8:=ac.trans a3;have a:=a8.at B3 (by simp);have d0:W4.cell? ⟨w.heap.size+1,0,none⟩=some (.pointer none):=by rw[fP a];rfl
     have d1:W4.cell? ⟨w.heap.size+1,1,none⟩=some (G 0):=by rw[fP a];rfl
     have g0:=gx a 0;have g1:=gx a 1;have a7:=V a;gi_wp2;have⟨t1,t2,t3⟩:=EJ a8 F (A5 _) a7.out (gI (L.gQ q)) (G eq.kids.length);exact⟨t1,rfl,t2,pre,i,(q,eq.kids.length),rfl,B5,HG.out,ab.out,t3⟩
 case done=>
  rintro D W HD⟨F,h2,B3,h4,h5⟩ hK;have a2:∃q e,iC σ.gq 0=some q/\σ.gU q=some e/\dB=(q,e.kids.length):=by
   have b:=hpl0;unfold j7 at b;rw[sL a5,JI h5]at b;simp only at b;cases hg:iC σ.gq 0 with
   |none=>grind
   |some q=>
    rw[hg]at b;simp only at b;unfold jg at b;grind
  obtain⟨q,eq,af,a0,rfl⟩:=a2;have c2:W.cell? ⟨z.heap.size,0,none⟩=some (gI (L.gQ q)):=by rw[fP h4,af];rfl
  have CE:=WT (k.ir F) a0;clear h2
  gi_wp2_with fail
  refine⟨trivial,(callsIn_wide.2 CE).mono ?_⟩;rintro e W4⟨rfl,aj,a3⟩;have a:=a3.at B3 (by simp);have d0:W4.cell? ⟨w.heap.size+1,0,none⟩=some (.pointer none):=by rw[fP a];rfl
  have d1:W4.cell? ⟨w.heap.size+1,1,none⟩=some (G 0):=by rw[fP a];rfl
  have g0:=gx a 0;have g1:=gx a 1;have al:=(a3.block D (Array.getElem?_eq_some_iff.1 hK).1 (by simp)).trans hK;have⟨t1,T2,T3⟩:=EJ a3 F (A5 _) a (gI (L.gQ q)) (G eq.kids.length);have a7:=V a;have a8:=((((Z.refl [w.heap.size+1] W4).setCell (p:=⟨w.heap.size+1,0,none⟩) (.inl (by simp)) (gI (L.gQ q))).setCell (p:=⟨w.heap.size+1,1,none⟩) (.inl (by simp)) (G eq.kids.length)).block D (Array.getElem?_eq_some_iff.1 al).1 (by have:=HZ.out;grind)).trans al;gi_wp2;refine⟨by simp,.inl ⟨_,_,rfl,N4 a8,?_⟩⟩;have I:=HZ.out;have hD:=HD;have ae:(World.putObj _ D (.deferred none)).heap[w.heap.size+1]?=_:=(aht (by omega)).trans T3;have a4:=T2.take (D:=D) (by omega) (.deferred none);refine⟨pV L.gQ (q,eq.kids.length),?_,rfl,⟨L,rfl,k.ir a4⟩,.ib a4,ic _⟩;simp[results,results258,asAddr,Result.andThen,go_sem,fP ae]
 case stopx=>
  rintro D c pre W HD ap⟨rfl,F,u,i,pl,rfl,h3,h4,h5,T3⟩ hK;have a2:dB=pl:=by
   have⟨rest,hrest⟩:=ap;have b:=hpl0;unfold j7 at b;rw[sL a5,<-hrest,JK h4 h3]at b;simp only at b;rw[h5]at b;cases b;rfl
  subst a2;gi_wp2;refine⟨by simp,.inl ⟨_,_,rfl,N4 hK,?_⟩⟩;have I:=HZ.out;have hD:=HD;have ae:(World.putObj _ D (.deferred none)).heap[w.heap.size+1]?=_:=(aht (by omega)).trans T3;have a4:=F.take (D:=D) (by omega) (.deferred none);refine⟨pV L.gQ dB,?_,rfl,⟨L,rfl,k.ir a4⟩,.ib a4,ic _⟩;simp[results,results258,asAddr,Result.andThen,go_sem,fP ae]
section
variable {α β:Type}{E:Env}{f0:Nat->Nat}{n0:Nat}{w0:J}{f:Nat->Nat}{σ:N}{w:J}
theorem jk.Uo{k:Nat}{args:(Nat->Nat)->jL}{m:M α}{d:(Nat->Nat)->α->gP}(D:jk E k args m d)(H:At E f0 n0 w0 f σ w){R:qQ β}{K:α->M β}(b:R=(m>>=K) σ)(hs:R≠ .stuck){A:jL}(hA:args f=A){Q:Ending->J->Prop}
  (x:∀c p j w',R=.stop c p->kZ w' j c p->Fr E.bs w0 w'->Q (rW j) w')
  (u:∀a g σ' w',At E f0 n0 w0 g σ' w'->XF σ.nodes.length f g->Fr E.bs w w'->R=K a σ'->m σ=.ok a σ'->Q (iA (d g a)) w'):Calls prog k A w Q:=by
 rw[M.gw]at b;have C:m σ≠ .stuck:=λe=>hs (by grind);have h:=D f σ w H.rel C;rw[hA]at h;refine h.mono ?_;intro e w' l;cases hr:m σ with
 |ok a σ'=>
  rw[hr]at l b;obtain⟨g,y,q,rfl,I,z⟩:=l;exact u a g σ' w' (H.go I y q z) y z b hr
 |stop c p=>
  rw[hr]at l b;obtain⟨j,rfl,q,F⟩:=l;exact x c p j w' b q (H.fr.trans F)
 |stuck=>exact absurd hr C
theorem kP.Uo{k:Nat}{args:(Nat->Nat)->jL}{m:M α}{d:(Nat->Nat)->α->gP}(D:kP E k args m d)(H:At E f0 n0 w0 f σ w){R:qQ β}{K:α->M β}(b:R=(m>>=K) σ)(hs:R≠ .stuck){A:jL}(hA:args f=A){Q:Ending->J->Prop}
  (q:∀c p j w',R=.stop c p->kZ w' j c p->Fr E.bs w0 w'->Q (rW j) w')
  (l:∀a σ' w',At E f0 n0 w0 f σ' w'->Fr E.bs w w'->R=K a σ'->m σ=.ok a σ'->Q (iA (d f a)) w'):Calls prog k A w Q:=by
 rw[M.gw]at b;have x:m σ≠ .stuck:=λe=>hs (by grind);have h:=D f σ w H.rel x;rw[hA]at h;refine h.mono ?_;intro e w' g;cases hr:m σ with
 |ok a σ'=>
  rw[hr]at g b;obtain⟨rfl,C,u,F⟩:=g;exact l a σ' w' (H.to C F u) u b hr
 |stop c p=>
  rw[hr]at g b;obtain⟨j,rfl,y,z⟩:=g;exact q c p j w' b y (H.fr.trans z)
 |stuck=>exact absurd hr x
def mE{k:Nat}{args:(Nat->Nat)->jL}{m:M α}{b:(Nat->Nat)->α->gP}(D:kP E k args m b)(H:Hid (At E f0 n0 w0 f σ w)){R:qQ β}{K:α->M β}(u:Hid (R=(m>>=K) σ))(hs:Hid (R≠ .stuck)){A:jL}(hA:args f=A){Q:Ending->J->Prop}
  (e:∀c p j w',Hid (R=.stop c p/\kZ w' j c p/\Fr E.bs w0 w')->Q (rW j) w')
  (d:∀a σ' w',Hid (At E f0 n0 w0 f σ' w')->Hid (Fr E.bs w w')->Hid (R=K a σ')->Hid (m σ=.ok a σ')->Q (iA (b f a)) w'):Calls prog k A w Q:=kP.Uo D H u hs hA (λc p j w' g l q=>e c p j w' ⟨g,l,q⟩) d
end
def ahQ(h:RF E f σ w)(x y:jj)(hs:pY x y σ≠ .stuck):
  Calls prog 267 #[j5 E.bB 189,oV f x,oV f y] w λe w'=>e=qs/\pY x y σ=.ok () {σ with act:=ox σ.act x y}/\RF E f {σ with act:=ox σ.act x y} w'/\Fr E.bs w w':=by
 have:=ahR E x y f σ w h hs;unfold pY at this hs|-;by_cases a:(σ.gZ x&&σ.gZ y)=true;rw[sL a]at this|-;exact this.mono (λe w' h=>⟨h.1,rfl,h.2.1,h.2.2.1⟩);rw[Xx a]at hs;exact absurd rfl hs
theorem Wm(xs:kY)(x y:jj):(ox xs x y).length=xs.length:=by
 grind[ox]
theorem Vf(h:jT j σ=.ok () σ'):σ'.act=σ.act:=by
 unfold jT at h;rw[M.gw]at h;cases a:ky σ with
 |stuck=>grind
 |stop c p=>grind
 |ok pl σ1=>
  have e1:σ1=σ:=by
   unfold ky at a;cases hl:σ.last with
   |none=>grind
   |some i=>
    rw[hl]at a;have a:placeFor i σ=.ok pl σ1:=a;unfold placeFor at a;split at a;exact oJ a;exact ny a
  rw[e1]at a;rw[a]at h;simp only at h;rw[M.gw]at h;cases h2:kD pl j σ with
  |stuck=>grind
  |stop c p=>grind
  |ok u σ2=>
   have e2:σ2.act=σ.act:=by
    unfold kD at h2;split at h2;split at h2;cases h2;rfl;grind;cases h2
   rw[h2]at h;simp only at h;rw[M.gw]at h;cases h3:oH (some j) σ2 with
   |stuck=>grind
   |stop c p=>grind
   |ok u σ3=>
    rw[h3]at h;have d:σ3.act=σ2.act:=by
     unfold oH at h3;split at h3;cases h3;grind
    have:σ3=σ':=by
     have b:(qQ.ok () σ3:qQ Unit)=.ok () σ':=h;cases b;rfl
    grind
theorem tm(E:Env)(hF:mD E):jk E 181 (λ_=>#[Bp E]) mx uV:=by
 intro f σ w X HS;obtain⟨R,hR⟩:∃R,R=mx σ:=⟨_,rfl⟩;rw[<-hR]at HS|-;have H:=At.start X;have a6:R=KE (σ.act.length-σ.Cs) σ.Cs σ:=hR;have z:=V a6;have C1:=X.anw;have ap:=X.lt;have az:σ.act.length<=4096:=by have⟨L,_,hr⟩:=X;exact hr.Ie
 have aq:σ.Cs<=σ.act.length:=by
  have:∀U:kY,σ.jt U<=U.length:=by
   intro U
   induction U with
   |nil=>simp[N.jt]
   |cons x U ih=>
    show(if σ.YR x then U.length+1 else σ.jt U)<=U.length+1;split<;>omega
  have:=this σ.act.reverse
  rwa [List.length_reverse]at this
 clear hR a6;go_enter func181,ntmps181;go_wp21;refine C1.mono ?_;rintro e w⟨rfl,rfl⟩;go_wp21;rename_i K a0;have a3:∀(u8 u9 aa ab ac ad ae af ag ah ai aj ak al am:gP),K {tmps:=#[Bp E,undef,G σ.Cs,undef,Bp E,gI E.bB,j5 E.bB 189,G σ.act.length,u8,u9,aa,ab,ac,ad,ae,af,ag,ah,ai,aj,ak,al,am,undef,undef,undef,undef,undef,undef,undef,undef,undef,undef,undef,undef,undef,undef,undef,undef,undef,undef,undef,undef,undef,undef,undef,undef,undef,undef],defers:=[]} w:=by
  intro u8 u9 aa ab ac ad ae af ag ah ai aj ak al am;refine a0 _ _ ?_;have ay:=aq;clear a0 C1;go_wp21
  go_loopw [2,3] (λv v3 wr=>∃(k n:Nat)(g:Nat->Nat)(l:N),v=G n/\n+k=σ.act.length/\At E f σ.nodes.length w g l wr/\R=KE k n l/\l.act.length=σ.act.length) (λv _ _=>σ.act.length-(intOf v).toNat)
  case atStart=>exact⟨σ.act.length-σ.Cs,σ.Cs,f,σ,rfl,by omega,H,z,rfl⟩
  case round=>
   obtain⟨k,n,g,l,rfl,aA,H,a5,a4⟩:=hrel;have z:=V a5;have I:=H.rel.anw;rw[a4]at I;have ap:=H.lt;clear a5;cases k with
   |zero=>
    have e0:(n:Int)=(σ.act.length:Int):=by omega
    have a1:((n:Int)<(σ.act.length:Int))=False:=by simp;omega
    go_wp21;refine I.mono ?_;rintro e w'⟨rfl,rfl⟩;go_wp2;go_end0;exact gu z H rfl
   |succ k=>
    have a1:(n:Int)<(σ.act.length:Int):=by omega
    have u:∃a,iC l.act (n:Int)=some a:=by
     cases hg:iC l.act (n:Int)with
     |some i=>simp
     |none=>
      exfalso;apply HS;rw[z.out];unfold KE;rw[M.gw];unfold DG;rw[hg]
    have⟨a,u⟩:=u;have y:=H.rel.aks (n:Int);have q:=H.rel.fh (n:Int);rw[u]at q y;have ao:=V (N.nh y);replace z:Hid (R=(kq a>>=λj=>(do
      jT j
      si a
      KE k (n+1):M Unit)) l):=by
     refine V (z.trans ?_);show(DG n>>=_) l=_;rw[M.gw];unfold DG;rw[u]
    clear u y;go_wp21;refine I.mono ?_;rintro e wr⟨rfl,rfl⟩;go_wp21;refine q.mono ?_;rintro e wr⟨rfl,rfl⟩;rw[show oV g (some a)=gI (g a)from rfl];clear q I;go_wp21;refine jk.Uo (Ps E a) H z HS rfl ?_ ?_
    .intro c p j ws H1 H2 H3;go_wp2;exact⟨rfl,qx H1 H2 H3⟩
    rintro j g2 av w2 h1 h0 h2 h3 F;have HX:=V h0;have HJ:Hid (av.act=l.act):=by
     unfold kq at F;split at F;split at F;cases F;cases F;rfl;cases F
    clear F;replace H:=h1;replace z:=V h3;clear h1 h0 h2 h3;go_wp21;refine kP.Uo (Gg E hF j) H z HS rfl ?_ ?_
    .intro c p j ws H1 H2 H3;go_wp2;exact⟨rfl,qx H1 H2 H3⟩
    rintro⟨⟩ C w3 h1 h2 h3 F;have an:Hid (C.act=l.act):=V ((Vf F).trans HJ);clear F;replace H:=h1;replace z:=V h3;have aw:=h1.lt;clear h1 h2 h3;have a8:pY (some a) C.last C≠ .stuck:=by
     intro au;apply HS;rw[z.out,M.gw];unfold si;rw[au]
    have CL:=(H.k0 ((Z.refl _ w3).drew)).rel.Vn;have a2:=ahQ (H.k0 ((Z.refl _ w3).drew)).rel (some a) C.last a8;rw[show oV g2 (some a)=gI (g a)from by show gI (g2 a)=_;rw[HX.out a ao.out]]at a2;clear a8;go_wp21
    go_region_with (first
     |(go_at_call 170;refine CL.mono ?_;rintro e w4⟨rfl,rfl⟩)
     |(go_at_call 267;refine a2.mono ?_;rintro e w5⟨rfl,q1,q2,q3⟩;have HZ:=V ((H.k0 ((Z.refl _ w3).drew)).to q2 (ud _ _ rfl) q3);have HQ:=V q1;clear q1 q2 q3))
    all_goals (try (go_wp21))
    all_goals refine⟨⟨k,n+1,g2,_,by simp,by omega,HZ,?_,?_⟩,by simp[intOf];omega⟩
    rw[z.out,M.gw];unfold si;rw[HQ.out];show(ox C.act (some a) C.last).length=σ.act.length;rw[Wm,an.out];exact a4
 clear a0 H z C1
 go_loopw [2] (λv wr=>∃k:Nat,k<=σ.act.length/\v=G k/\σ.jt (σ.act.take k).reverse=σ.Cs/\wr=w) (λv _=>(intOf v).toNat)
 case atStart=>grind[N.Cs]
 case round=>
  obtain⟨k,hk,rfl,d,rfl⟩:=hrel;cases k with
  |zero=>
   have hz:σ.Cs=0:=by rw[<-d];rfl
   have HZ:=V hz;clear hz d;go_wp2;have:=a3;rw[HZ.out]at this;simp_all
  |succ k=>
   have a7:k<σ.act.length:=by omega
   have e1:σ.act.take (k+1)=σ.act.take k++[σ.act[k]]:=by rw[yH,yG a7];rfl
   rw[e1,ads]at d;have hg:iC σ.act ((k:Int))=σ.act[k]:=by
    unfold iC;rw[sL (by omega)];simp[List.getD,a7]
   have q:=X.fh (k:Int);have y:=X.aks (k:Int);rw[hg]at q y;have P:=aiI X _ y;have e2:((k+1:Nat):Int)-1=(k:Int):=by omega
   have ax:(0:Int)<((k+1:Nat):Int):=by omega
   have a9:(σ.act.take k).length=k:=by simp;omega
   rw[a9]at d;clear e1 hg y a9;generalize hM:σ.YR σ.act[k]=b at P d;clear hM;generalize oV f σ.act[k]=vv at q P;cases b with
   |true=>
    go_wp21;refine q.mono ?_;rintro e w⟨rfl,rfl⟩;go_wp21;refine P.mono ?_;rintro e w⟨rfl,rfl⟩;go_wp21;have:=a3;have ar:k+1=σ.Cs:=by simpa using d
    rw[<-ar]at this;exact this _ _ _ _ _ _ _ _ _ _ _ _ _ _ _
   |false=>
    go_wp21;refine q.mono ?_;rintro e w⟨rfl,rfl⟩;go_wp21;refine P.mono ?_;rintro e w⟨rfl,rfl⟩;go_wp21;exact⟨⟨k,by omega,rfl,by simpa using d,trivial⟩,by simp[intOf]⟩
theorem vK(p q:O->Bool)(σ:N):lK p q σ=.ok (σ.inScope p q) (σ.close p q):=by
 grind[lK,N.close]
def FO(h:RF E f σ w){d g:Nat}{a b:jL}{p q:O->Bool}(k:Ask E.bm (.func (.func d) #[] a) p w)(l:Ask E.bm (.func (.func g) #[] b) q w):
  Calls prog 219 #[Bp E,.func (.func d) #[] a,.func (.func g) #[] b] w λe w'=>e=iA (.bool (σ.inScope p q))/\RF E f (σ.close p q) w'/\Fr E.bs w w':=by
 have:=Al h k l;rw[vK]at this;exact this.mono (λe w' h=>⟨h.1,h.2.1,h.2.2.1⟩)
theorem zD(σ:N)(p q:O->Bool):σ.nodes.length<=(σ.close p q).nodes.length:=by
 grind[N.close,N.CG]
def Hd(E:Env)(t:gF)(h:RF E f σ w):∃a b d n g,∀w,Calls prog 168 #[iG E t] w λe w'=>e=iA (.agg #[G a,G b,Y t.name,.slice d n g])/\Z [] w w':=by
 have⟨d,n,g,htv⟩:=h.tv;have C:=λw=>zU E t w ⟨d,n,g,htv⟩;have⟨a,b,k,gG⟩:=t;cases k<;>simp[AY,htv]at C|-
 all_goals exact⟨_,_,_,_,_,C⟩
def RS(E:Env)(t:gF):jk E 203 (λ_=>#[Bp E,iG E t]) (tY) uV:=by
 refine dI λf σ w R k HS H=>?_;unfold tY at k;go_enter func203,ntmps203;have⟨kb,lbb,cb,HQ⟩:=H.rel.bounds;have x:=H.lt;have u:=cb;have C:=(Z.refl [] w).drew;replace k:Hid (R=.ok () (σ.close (gO [nD,nE]) (iI))):=by
  have:=k;rw[M.gw,vK]at this;exact V this
 go_wp21
 go_region_with (first
   |(go_at_call 270;refine(JN E _).mono ?_;rintro e K⟨U,I,rfl,d,g⟩;have b:=C.trans g;have P:K.cell? ⟨E.bB,186,none⟩=some (.func (.func kb) #[] lbb):=(b.cell (p:=⟨E.bB,186,none⟩) x (by simp)).trans u;have l:=V d;have a:=V b;clear d g b)
   |(go_at_call 219;refine(FO (p:=gO [nD,nE]) (q:=iI) (H.k0 a).rel l (HQ.k0 a)).mono ?_;rintro e X⟨rfl,y,z⟩;have F:=V ((H.k0 a).to y (zD _ _ _) z);clear y z))
 all_goals (try (go_wp21))
 all_goals go_wp2
 all_goals go_end0
 all_goals exact gu k F rfl
def L9(E:Env)(s:O):jk E 210 (λ_=>#[Bp E,Y s]) (tj s) uV:=by
 refine dI λf σ w R k HS H=>?_;unfold tj at k;go_enter func210,ntmps210;have⟨kb,lbb,cb,HQ⟩:=H.rel.Lh;have x:=H.lt;have u:=cb;have C:=(Z.refl [] w).drew;replace k:Hid (R=.ok () (σ.close (gO [s]) (kT))):=by
  have:=k;rw[M.gw,vK]at this;exact V this
 go_wp21
 go_region_with (first
   |(go_at_call 216;refine(oC E [s] w.drew (by simp)).mono ?_;rintro e K⟨U,I,rfl,d,g⟩;have b:=C.trans g;have P:K.cell? ⟨E.bB,184,none⟩=some (.func (.func kb) #[] lbb):=(b.cell (p:=⟨E.bB,184,none⟩) x (by simp)).trans u;have l:=V d;have a:=V b;clear d g b)
   |(go_at_call 219;refine(FO (p:=gO [s]) (q:=kT) (H.k0 a).rel l (HQ.k0 a)).mono ?_;rintro e X⟨rfl,y,z⟩;have F:=V ((H.k0 a).to y (zD _ _ _) z);clear y z))
 all_goals (try (go_wp21))
 all_goals go_wp2
 all_goals go_end0
 all_goals exact gu k F rfl
def acn(E:Env)(t:gF):jk E 200 (λ_=>#[Bp E,iG E t]) (xn) uV:=by
 refine dI λf σ w R b HS H=>?_;unfold xn at b;go_enter func200,ntmps200;have⟨kb,lbb,cb,HQ⟩:=H.rel.bounds;have y:=H.lt;have u:=cb;have z:=(Z.refl [] w).drew;go_wp21
 go_cut [11]from 4 to 10 (λr wc=>r=.bool (σ.inScope (gO [fR]) (iI))/\At E f σ.nodes.length w f (σ) wc)
 case first=>
  go_region_with (first
   |(go_at_call 216;refine(oC E [fR] w.drew (by simp)).mono ?_;rintro e K⟨k1,I,rfl,g,k⟩;have d:=z.trans k;have P:K.cell? ⟨E.bB,186,none⟩=some (.func (.func kb) #[] lbb):=(d.cell (p:=⟨E.bB,186,none⟩) y (by simp)).trans u;have q:=V g;have a:=V d;clear g k d)
   |(go_at_call 229;refine(xN (H.k0 a).rel (gO [fR]) (iI) _ _ q (HQ.k0 a)).mono ?_;rintro e w2⟨rfl,l⟩;have C:=V ((H.k0 a).k0 l);clear l))
  all_goals (try (go_wp21))
  all_goals (go_meet;exact⟨rfl,C⟩)
 case rest=>
  obtain⟨rfl,x⟩:=hcut;replace H:=x;cases hc:σ.inScope (gO [fR]) iI with
  |true=>
   replace b:Hid (R=.ok () {σ with mode:=16}):=by
    have:=b;rw[sL hc]at this;exact V this
   have U:=H.tf;have X:=H.free 192;have F:=H.lt;replace H:=H.jm 16;go_wp2;go_end0;exact gu b H rfl
  |false=>
   replace b:Hid (R=.ok () σ):=by
    have:=b;rw[Xx (by simp[hc])]at this;exact V this
   go_wp2;go_end0;exact gu b H rfl
def acu(E:Env)(rec:Nat->gF->M Unit)(hA:∀(m:Nat)(t:gF),jo E t->jk E 162 (λ_=>#[Bp E,G m,iG E t]) (rec m t) uV)(t:gF)(I:jo E t):jk E 201 (λ_=>#[Bp E,iG E t]) (xu rec t) uV:=by
 refine dI λf σ w R a HS H=>?_;unfold xu at a;go_enter func201,ntmps201;have⟨kb,lbb,cb,HQ⟩:=H.rel.bounds;have y:=H.lt;have u:=cb;have z:=(Z.refl [] w).drew;go_wp21
 go_cut [11]from 4 to 10 (λr wc=>r=.bool (σ.inScope (gO [fR]) (iI))/\At E f σ.nodes.length w f (σ) wc)
 case first=>
  go_region_with (first
   |(go_at_call 216;refine(oC E [fR] w.drew (by simp)).mono ?_;rintro e P⟨k1,K,rfl,g,k⟩;have d:=z.trans k;have c1:P.cell? ⟨E.bB,186,none⟩=some (.func (.func kb) #[] lbb):=(d.cell (p:=⟨E.bB,186,none⟩) y (by simp)).trans u;have q:=V g;have b:=V d;clear g k d)
   |(go_at_call 229;refine(xN (H.k0 b).rel (gO [fR]) (iI) _ _ q (HQ.k0 b)).mono ?_;rintro e w2⟨rfl,l⟩;have C:=V ((H.k0 b).k0 l);clear l))
  all_goals (try (go_wp21))
  all_goals (go_meet;exact⟨rfl,C⟩)
 case rest=>
  obtain⟨rfl,x⟩:=hcut;replace H:=x;cases hc:σ.inScope (gO [fR]) iI with
  |true=>
   replace a:Hid (R=(jF rec t>>=λ_=>(Pure.pure ():M Unit)) {σ with mode:=16}):=by
    have:=a;rw[sL hc]at this;exact V this
   have c2:=H.tf;have f2:=H.free 192;have F:=H.lt;replace H:=H.jm 16;go_wp21;refine dC (vq E rec hA t I) H a HS rfl lT ?_;rintro(_) f σ w H X U a;go_wp2;go_end0;exact gu a H rfl
  |false=>
   replace a:Hid (R=.ok () σ):=by
    have:=a;rw[Xx (by simp[hc])]at this;exact V this
   go_wp2;go_end0;exact gu a H rfl
def sI(E:Env)(hF:mD E)(t:gF)(e:jo E t):jk E 113 (λ_=>#[Bp E,iG E t]) (mi t) uV:=by
 refine dI λf σ w R a HS H=>?_;go_enter func113,ntmps113;go_wp21;refine dC (tm E hF) H a HS rfl lT ?_;rintro(_) f σ w H d b a;go_wp21;refine dC (mq E hF t e) H a HS rfl lT ?_;rintro(_) f σ w H d b a;go_wp2;go_end0;exact gu a H rfl
def WQ(E:Env)(hF:mD E)(t:gF)(e:jo E t):jk E 195 (λ_=>#[Bp E,iG E t]) (sK t) uV:=by
 refine dI λf σ w R a HS H=>?_;go_enter func195,ntmps195;go_wp21;refine dC (tm E hF) H a HS rfl lT ?_;rintro(_) f σ w H d b a;go_wp21;refine dC (xA E hF t e) H a HS rfl lT ?_;rintro(_) f σ w H d b a;go_wp2;go_end0;exact gu a H rfl
def RE(E:Env)(hF:mD E)(t:gF):jk E 111 (λ_=>#[Bp E,iG E t]) (nw t) uV:=by
 refine dI λf σ w R a HS H=>?_;unfold nw at a;go_enter func111,ntmps111;have C:=ME E t w;cases hn:uY t.chars with
 |true=>
  rw[hn]at C a;replace a:Hid (R=.ok () σ):=a;go_wp21;refine C.mono ?_;rintro e w⟨rfl,b⟩;replace H:=H.k0 b;go_wp2;go_end0;exact gu a H rfl
 |false=>
  rw[hn]at C a;replace a:=a;go_wp21;refine C.mono ?_;rintro e w⟨rfl,b⟩;replace H:=H.k0 b;go_wp21;refine dC (tm E hF) H a HS rfl lT ?_;rintro(_) f σ w H g d a;go_wp21;refine dC (xy E hF t) H a HS rfl lT ?_;rintro(_) f σ w H g d a;go_wp2;go_end0;exact gu a H rfl
def LN(E:Env)(hF:mD E)(t:gF):jk E 137 (λ_=>#[Bp E,iG E t]) (oz t) uV:=by
 refine dI λf σ w R a HS H=>?_;unfold oz at a;go_enter func137,ntmps137;have C:=ME E t w;cases hn:uY t.chars with
 |true=>
  rw[hn]at C a;replace a:Hid (R=.ok () σ):=a;go_wp21;refine C.mono ?_;rintro e w⟨rfl,b⟩;replace H:=H.k0 b;go_wp2;go_end0;exact gu a H rfl
 |false=>
  rw[hn]at C a;replace a:Hid (R=(jK t>>=λ_=>(pure ():M Unit)) σ):=a;go_wp21;refine C.mono ?_;rintro e w⟨rfl,b⟩;replace H:=H.k0 b;go_wp21;refine dC (xy E hF t) H a HS rfl lT ?_;rintro(_) f σ w H g d a;go_wp2;go_end0;exact gu a H rfl
def Nv(E:Env)(hF:mD E)(t:gF)(l:jo E t):jk E 186 (λ_=>#[Bp E,iG E t]) (oD t) uV:=by
 refine dI λf σ w R a HS H=>?_;unfold oD at a;go_enter func186,ntmps186;go_wp21;refine Ck (λk=>zC H.rel k) H a HS lT ?_;rintro(_) σ w H g a;go_wp21;refine(JN E _).mono ?_;rintro e w⟨u,p,rfl,b,d⟩;replace H:=H.k0 d;go_wp21;refine Ck (λ_=>xE H.rel b) H a HS lT ?_;rintro(_) σ w H g a;go_wp21;refine dC (mq E hF t l) H a HS rfl lT ?_;rintro(_) f σ w H q g a;go_wp2;go_end0;exact gu a H rfl
def adD(E:Env)(hF:mD E)(t:gF)(e:jo E t):jk E 187 (λ_=>#[Bp E,iG E t]) (xJ t) uV:=by
 refine dI λf σ w R a HS H=>?_;unfold xJ at a;go_enter func187,ntmps187;go_wp21;refine Ck (λd=>zC H.rel d) H a HS lT ?_;rintro(_) σ w H b a;go_wp21;refine dC (xA E hF t e) H a HS rfl lT ?_;rintro(_) f σ w H g b a;go_wp2;go_end0;exact gu a H rfl
def Pc(E:Env)(hF:mD E)(t:gF)(k:jo E t):jk E 193 (λ_=>#[Bp E,iG E t]) (pE t) uV:=by
 refine dI λf σ w R a HS H=>?_;unfold pE at a;go_enter func193,ntmps193;go_wp21;refine(oC E [gL] _ (by decide)).mono ?_;rintro e w⟨q,l,rfl,b,d⟩;replace H:=H.k0 d;go_wp21;refine Ck (λ_=>xE H.rel b) H a HS lT ?_;rintro(_) σ w H g a;go_wp21;refine dC (sI E hF t k) H a HS rfl lT ?_;rintro(_) f σ w H p g a;go_wp2;go_end0;exact gu a H rfl
def BC(E:Env)(hF:mD E)(t:gF)(k:jo E t):jk E 138 (λ_=>#[Bp E,iG E t]) (kg t) uV:=by
 refine dI λf σ w R a HS H=>?_;unfold kg at a;go_enter func138,ntmps138;go_wp21;refine(vS E _).mono ?_;rintro e w⟨q,l,rfl,b,d⟩;replace H:=H.k0 d;go_wp21;refine Ck (λ_=>xE H.rel b) H a HS lT ?_;rintro(_) σ w H g a;go_wp21;refine dC (mq E hF t k) H a HS rfl lT ?_;rintro(_) f σ w H p g a;go_wp2;go_end0;exact gu a H rfl
def uD(E:Env)(hF:mD E)(t:gF)(p:jo E t):jk E 139 (λ_=>#[Bp E,iG E t]) (ju t) uV:=by
 refine dI λf σ w R a HS H=>?_;unfold ju at a;go_enter func139,ntmps139;go_wp21;refine(vS E _).mono ?_;rintro e w⟨y,q,rfl,b,g⟩;replace H:=H.k0 g;go_wp21;refine Ck (λ_=>xE H.rel b) H a HS lT ?_;rintro(_) σ w H l a;go_wp21;refine(sC E _).mono ?_;rintro e w⟨z,u,rfl,d,k⟩;replace H:=H.k0 k;go_wp21;refine Ck (λ_=>xE H.rel d) H a HS lT ?_;rintro(_) σ w H l a;go_wp21;refine dC (mq E hF t p) H a HS rfl lT ?_;rintro(_) f σ w H x l a;go_wp2;go_end0;exact gu a H rfl
def GY(E:Env)(hF:mD E)(t:gF)(d:jo E t):jk E 140 (λ_=>#[Bp E,iG E t]) (lW t) uV:=by
 refine dI λf σ w R a HS H=>?_;unfold lW at a;go_enter func140,ntmps140;go_wp21;refine dC (uD E hF t d) H a HS rfl lT ?_;rintro(_) f σ w H e b a;go_wp21;refine mC (EN E) H a HS rfl lT ?_;rintro(_) σ w H b a;go_wp2;go_end0;exact gu a H rfl
def DA(E:Env)(t:gF):jk E 143 (λ_=>#[Bp E,iG E t]) (mF) uV:=by
 refine dI λf σ w R a HS H=>?_;unfold mF at a;go_enter func143,ntmps143;go_wp21;refine(vS E _).mono ?_;rintro e w⟨l,g,rfl,b,d⟩;replace H:=H.k0 d;go_wp21;refine Ck (λ_=>xE H.rel b) H a HS lT ?_;rintro(_) σ w H k a;go_wp2;go_end0;exact gu a H rfl
def Pa(E:Env)(hF:mD E)(t:gF)(d:jo E t):jk E 199 (λ_=>#[Bp E,iG E t]) (pD t) uV:=by
 refine dI λf σ w R a HS H=>?_;unfold pD at a;go_enter func199,ntmps199;go_wp21;refine dC (sI E hF t d) H a HS rfl lT ?_;rintro(_) f σ w H e b a;go_wp21;refine mC (BN E) H a HS rfl lT ?_;rintro(_) σ w H b a;go_wp2;go_end0;exact gu a H rfl
def Nt(E:Env)(hF:mD E)(t:gF)(k:jo E t):jk E 117 (λ_=>#[Bp E,iG E t]) (pA t) uV:=by
 refine dI λf σ w R a HS H=>?_;unfold pA at a;go_enter func117,ntmps117;go_wp21;refine(QM E _).mono ?_;rintro e w⟨y,l,rfl,b,d⟩;replace H:=H.k0 d;go_wp21;refine Ck (λ_=>Ig H.rel b) H a HS lT ?_;rintro(_) σ w H g a;go_wp21;refine mC (BN E) H a HS rfl lT ?_;rintro(_) σ w H g a;go_wp21;refine dC (mq E hF t k) H a HS rfl lT ?_;rintro(_) f σ w H p g a;have q:=H.tf;have u:=H.free 192;have x:=H.lt;replace H:=H.jm 9;go_wp2;go_end0;exact gu a H rfl
def acw(E:Env)(t:gF):jk E 204 (λ_=>#[Bp E,iG E t]) (Au) uV:=by
 refine dI λf σ w R d HS H=>?_;unfold Au at d;go_enter func204,ntmps204;go_wp21;refine(oC E [lF] _ (by decide)).mono ?_;rintro e w⟨u,l,rfl,a,k⟩;replace H:=H.k0 k;go_wp21;refine(OQ H.rel).mono ?_;rintro e w⟨x,p,rfl,g,b⟩;replace H:=H.k0 b;replace a:=a.k0 b;go_wp21;refine Ck (λ_=>Al H.rel a g) H d HS lT ?_;rintro(_) σ w H q d;go_wp2;go_end0;exact gu d H rfl
def Yq(E:Env)(hF:mD E)(t:gF):jk E 206 (λ_=>#[Bp E,iG E t]) (uQ) uV:=by
 refine dI λf σ w R a HS H=>?_;unfold uQ at a;go_enter func206,ntmps206;go_wp21;refine dC (tm E hF) H a HS rfl lT ?_;rintro(_) f σ w H d b a;go_wp21;refine dC (wj E hF jW) H a HS rfl lT ?_;rintro(_) f σ w H d b a;go_wp21;refine mC (EN E) H a HS rfl lT ?_;rintro(_) σ w H b a;go_wp2;go_end0;exact gu a H rfl
def Yn(E:Env)(t:gF):jk E 202 (λ_=>#[Bp E,iG E t]) (yi t) uV:=by
 refine dI λf σ w R y HS H=>?_;unfold yi at y;go_enter func202,ntmps202;have⟨kb,lbb,cb,HQ⟩:=H.rel.bounds;have d:=H.lt;have g:=cb;have k:=(Z.refl [] w).drew;have⟨ta,tb,tao,tn,tcp,HTG⟩:=Hd E t H.rel;have P:=λw=>Cy ta tb t.name tao tn tcp w;replace y:Hid (R=.ok () (σ.close (gO [t.name]) (iI))):=by
  have:=y;rw[M.gw,vK]at this;exact V this
 go_wp21
 go_region_with (first
   |(go_at_call 168;refine(HTG _).mono ?_;rintro e C⟨rfl,x⟩;have k:=V (k.trans x);have c3:C.cell? ⟨E.bB,186,none⟩=some (.func (.func kb) #[] lbb):=(k.cell (p:=⟨E.bB,186,none⟩) d (by simp)).trans g;have U:E.bB<C.heap.size:=nr d k.size;clear x)
   |(go_at_call 216;refine(oC E [t.name] C (by simp)).mono ?_;rintro e w1⟨k1,X,rfl,l,u⟩;have b:=k.trans u;have c1:w1.cell? ⟨E.bB,186,none⟩=some (.func (.func kb) #[] lbb):=(b.cell (p:=⟨E.bB,186,none⟩) d (by simp)).trans g;have z:=V l;have a:=V b;clear l u b)
   |(go_at_call 219;refine(FO (p:=gO [t.name]) (q:=iI) (H.k0 a).rel z (HQ.k0 a)).mono ?_;rintro e w2⟨rfl,F,I⟩;have K:=V ((H.k0 a).to F (zD _ _ _) I);clear F I))
 all_goals (try (go_wp21))
 all_goals go_wp2
 all_goals go_end0
 all_goals exact gu y K rfl
def F5(E:Env)(rec:Nat->gF->M Unit)(hA:∀(m:Nat)(t:gF),jo E t->jk E 162 (λ_=>#[Bp E,G m,iG E t]) (rec m t) uV)(t:gF)(g:jo E t):jk E 126 (λ_=>#[Bp E,iG E t]) (qC rec t) uV:=by
 refine dI λf σ w R a HS H=>?_;unfold qC at a;go_enter func126,ntmps126;have b:=H.aeI;have d:=H.free 195;have e:=H.lt;replace H:=H.zO true;go_wp21;refine dC (hA 6 t g) H a HS rfl lT ?_;rintro(_) f σ w H l k a;have b:=H.aeI;have d:=H.free 195;have e:=H.lt;replace H:=H.zO false;go_wp2;go_end0;exact gu a H rfl
def Oh(E:Env)(rec:Nat->gF->M Unit)(hA:∀(m:Nat)(t:gF),jo E t->jk E 162 (λ_=>#[Bp E,G m,iG E t]) (rec m t) uV)(t:gF)(g:jo E t):jk E 116 (λ_=>#[Bp E,iG E t]) (nM rec t) uV:=by
 refine dI λf σ w R a HS H=>?_;unfold nM at a;go_enter func116,ntmps116;go_wp21;refine(DX E _).mono ?_;rintro e w⟨F,p,rfl,b,d⟩;replace H:=H.k0 d;have C:=Df H.rel b;cases hc:σ.current Cw with
 |true=>
  rw[hc]at C;replace a:Hid (R=(jF rec t>>=λ_=>(pure ():M Unit)) {σ with kept:=σ.mode,mode:=8}):=by
   have:=a;rw[sL hc]at this;exact V this
  go_wp21;refine C.mono ?_;rintro e w⟨rfl,rfl⟩;have q:=H.tf;have x:=H.free 192;have u:=H.XZ;have y:=H.free 193;have z:=H.lt;replace H:=(H.zQ σ.mode).jm 8;go_wp21;refine dC (vq E rec hA t g) H a HS rfl lT ?_;rintro(_) f σ w H l k a;go_wp2;go_end0;exact gu a H rfl
 |false=>
  rw[hc]at C;replace a:Hid (R=(qC rec t>>=λ_=>(pure ():M Unit)) σ):=by
   have:=a;rw[Xx (by simp[hc])]at this;exact V this
  go_wp21;refine C.mono ?_;rintro e w⟨rfl,rfl⟩;go_wp21;refine dC (F5 E rec hA t g) H a HS rfl lT ?_;rintro(_) f σ w H l k a;go_wp2;go_end0;exact gu a H rfl
def Ip(h:RF E f σ w){k:Nat}{ks:List O}(m:Nat)(q:Ask E.bm (.func (.func k) #[] lb) (gO ks) w)(hs:(rD ks m) σ≠ .stuck):Calls prog 227 #[Bp E,.func (.func k) #[] lb,G m] w (kO E f σ.nodes.length w ((rD ks m) σ) bV):=by
 have l:=q;obtain⟨R,g⟩:∃R,R=(rD ks m) σ:=⟨_,rfl⟩;rw[<-g]at hs|-;unfold rD at g;have HS:=hs;have H:=At.start h;have a:=V g;clear g;go_enter func227,ntmps227;go_wp21;refine(yw E _).mono ?_;rintro e w⟨F,u,rfl,p,d⟩;replace H:=H.k0 d;replace l:=l.k0 d;go_wp21;refine Ck (λ_=>Al H.rel l p) H a HS mT ?_;rintro(b) σ w H x a;cases b with
 |false=>
  replace a:Hid (R=.ok false σ):=a;go_wp2;go_ret;exact kI a H rfl
 |true=>
  replace a:Hid (R=.ok true {σ with mode:=m}):=a;have y:=H.tf;have z:=H.free 192;have C:=H.lt;replace H:=H.jm m;go_wp2;go_ret;exact kI a H rfl
def Bf(h:RF E f σ w){k:Nat}{ks:List O}(m:Nat)(l:Ask E.bm (.func (.func k) #[] lb) (gO ks) w)(hs:(lL ks m) σ≠ .stuck):Calls prog 226 #[Bp E,.func (.func k) #[] lb,G m] w (kO E f σ.nodes.length w ((lL ks m) σ) bV):=by
 have e:=l;obtain⟨R,d⟩:∃R,R=(lL ks m) σ:=⟨_,rfl⟩;rw[<-d]at hs|-;unfold lL at d;have HS:=hs;have H:=At.start h;have a:=V d;clear d;go_enter func226,ntmps226;go_wp21;refine Ck (λp=>Ip H.rel m e p) H a HS mT ?_;rintro(b) σ w H g a;cases b with
 |false=>
  replace a:Hid (R=.ok false σ):=a;go_wp2;go_ret;exact kI a H rfl
 |true=>
  replace a:Hid (R=(zo>>=λ_=>(pure true:M Bool)) σ):=a;go_wp21;refine mC (Xi E) H a HS rfl mT ?_;rintro(_) σ w H g a;go_wp2;go_ret;exact kI a H rfl
def Yz(E:Env):kP E 122 (λ_=>#[Bp E]) uR bV:=by
 refine mI λf σ w R a HS H=>?_;unfold uR at a;go_enter func122,ntmps122;go_wp21;refine(QM E _).mono ?_;rintro e w⟨x,q,rfl,g,l⟩;replace H:=H.k0 l;go_wp21;refine(yw E _).mono ?_;rintro e w⟨y,u,rfl,k,d⟩;replace H:=H.k0 d;replace g:=g.k0 d;go_wp21;refine Ck (λ_=>Al H.rel g k) H a HS mT ?_;rintro(b) σ w H p a;cases b with
 |false=>
  replace a:Hid (R=.ok false σ):=a;go_wp2;go_ret;exact kI a H rfl
 |true=>
  replace a:Hid (R=(yq>>=λ_=>(pure true:M Bool)) σ):=a;go_wp21;refine Ck (λ_=>aa5 H.rel) H a HS mT ?_;rintro(_) σ w H p a;go_wp2;go_ret;exact kI a H rfl
def RQ(E:Env):kP E 129 (λ_=>#[Bp E]) tX bV:=by
 refine mI λf σ w R a HS H=>?_;unfold tX at a;go_enter func129,ntmps129;replace a:=V (M.tail a);go_wp21;refine(oC E [fZ] _ (by decide)).mono ?_;rintro e w⟨q,l,rfl,d,g⟩;replace H:=H.k0 g;go_wp21;refine Ck (λk=>Bf H.rel 7 d k) H a HS mT ?_;rintro(b) σ w H p a;go_wp2;go_ret;exact kI a H rfl
def Mb(E:Env):kP E 132 (λ_=>#[Bp E]) qB bV:=by
 refine mI λf σ w R a HS H=>?_;unfold qB at a;go_enter func132,ntmps132;replace a:=V (M.tail a);go_wp21;refine(NF E _).mono ?_;rintro e w⟨q,l,rfl,d,g⟩;replace H:=H.k0 g;go_wp21;refine Ck (λk=>Ip H.rel 7 d k) H a HS mT ?_;rintro(b) σ w H p a;go_wp2;go_ret;exact kI a H rfl
def afc(E:Env):kP E 135 (λ_=>#[Bp E]) Ej bV:=by
 refine mI λf σ w R a HS H=>?_;unfold Ej at a;go_enter func135,ntmps135;replace a:=V (M.tail a);go_wp21;refine(aa6 E _).mono ?_;rintro e w⟨q,l,rfl,d,g⟩;replace H:=H.k0 g;go_wp21;refine Ck (λk=>Ip H.rel 11 d k) H a HS mT ?_;rintro(b) σ w H p a;go_wp2;go_ret;exact kI a H rfl
def acp(E:Env):kP E 136 (λ_=>#[Bp E]) endCell bV:=by
 refine mI λf σ w R a HS H=>?_;unfold endCell at a;go_enter func136,ntmps136;replace a:=V (M.tail a);go_wp21;refine(ab5 E _).mono ?_;rintro e w⟨q,l,rfl,d,g⟩;replace H:=H.k0 g;go_wp21;refine Ck (λk=>Bf H.rel 12 d k) H a HS mT ?_;rintro(b) σ w H p a;go_wp2;go_ret;exact kI a H rfl
def Il(E:Env):kP E 130 (λ_=>#[Bp E]) lc bV:=by
 refine mI λf σ w R a HS H=>?_;unfold lc at a;go_enter func130,ntmps130;go_wp21;refine(oC E [fS] _ (by decide)).mono ?_;rintro e w⟨u,g,rfl,b,d⟩;replace H:=H.k0 d;have C:=Df H.rel b;cases hc:σ.current (gO [fS])with
 |true=>
  rw[hc]at C;replace a:Hid (R=(wV>>=λ_=>(do jq 7;return true:M Bool)) σ):=by
   have:=a;rw[sL hc]at this;exact V this
  go_wp21;refine C.mono ?_;rintro e w⟨rfl,rfl⟩;go_wp21;refine mC (EN E) H a HS rfl mT ?_;rintro(_) σ w H k a;have l:=H.tf;have p:=H.free 192;have q:=H.lt;replace H:=H.jm 7;go_wp2;go_ret;exact kI a H rfl
 |false=>
  rw[hc]at C;replace a:Hid (R=.ok false σ):=by
   have:=a;rw[Xx (by simp[hc])]at this;exact V this
  go_wp21;refine C.mono ?_;rintro e w⟨rfl,rfl⟩;go_wp2;go_ret;exact kI a H rfl
def RF.alM(h:RF E f σ w):σ.gZ σ.form=true:=by have⟨L,_,hr⟩:=h;exact hr.wf.form
theorem RF.MI(h:RF E f σ w):σ.gZ σ.last=true:=by
 have⟨L,_,hr⟩:=h;unfold N.last;rcases yv σ.gq with a|⟨b,y,a⟩;rw[a];rfl;rw[a,xO];exact N.xB (hr.wf.gq y (by grind))
theorem ai3(E:Env)(a:gP)(p:O->Bool)(w:J)(b:Ask E.bm a p w):
  Calls prog 235 #[a] w (zv E (λs=>!p s) w):=by
 refine(ai1 E.bm a p w b).mono ?_;grind[Ask.call]
def WD(E:Env)(t:gF)(l:jo E t):jk E 188 (λ_=>#[Bp E,iG E t]) (sG t) uV:=by
 refine dI λf σ w R a HS H=>?_;unfold sG at a;go_enter func188,ntmps188;have d:=H.XY;have y:=H.lt;cases hf:σ.form with
 |some i=>
  rw[hf]at d a;replace a:Hid (R=.ok () σ):=a;go_wp2;go_end0;exact gu a H rfl
 |none=>
  rw[hf]at d a;replace a:=a;go_wp21;refine dC (xI E (iP E) t l) H a HS rfl lT ?_;rintro(_) f σ w H q p a;have b:=H.rel.MI;have C:=H.rel.Vn;have u:=H.XY;have x:=H.free 191;have k:=H.lt;have g:=H.wG σ.last b;go_wp21;refine C.mono ?_;rintro e w⟨rfl,rfl⟩;replace H:=g;go_wp2;go_end0;exact gu a H rfl
def Fc(E:Env)(t:gF)(C:jo E t):jk E 123 (λ_=>#[Bp E,iG E t]) (lA t) uV:=by
 refine dI λf σ w R a HS H=>?_;unfold lA at a;go_enter func123,ntmps123;have d:=H.XY;have hl:=H.lt;cases hf:σ.form with
 |some i=>
  rw[hf]at d a;replace a:Hid (R=.ok () σ):=a;rw[show oV f (some i)=gI (f i)from rfl]at d;go_wp2;go_end0;exact gu a H rfl
 |none=>
  rw[hf]at d a;replace a:Hid (R=(iL t>>=λ_=>(do let x <-wV;uL λσ=>{σ with form:=x};return ():M Unit)) σ):=a;rw[show oV f none=.pointer none from rfl]at d;go_wp21;refine dC (mq E (iP E) t C) H a HS rfl lT ?_;rintro(_) f σ w H K I a;have e:=H.rel.MI;go_wp21;refine kP.Uo (EN E) H a HS rfl ?_ ?_
  .intro c p j ws b q u;have l:=V b;clear b;go_wp2;exact⟨rfl,qx l q u⟩
  rintro x g w b X y k;have F:g.gZ x=true:=by
   unfold wV at k;cases k;exact e
  have P:=b.XY;have U:=b.free 191;have z:=b.lt;replace H:=b.wG x F;replace a:=y;clear b;go_wp2;go_end0;exact gu a H rfl
def S9(E:Env)(t:gF)(g:jo E t):jk E 191 (λ_=>#[Bp E,iG E t]) (rV t) uV:=by
 refine dI λf σ w R a HS H=>?_;unfold rV at a;go_enter func191,ntmps191;have d:=H.aeJ;have e:=H.lt;cases hq:σ.jA with
 |true=>
  rw[hq]at d;replace a:=by
   have:=a;rw[M.gw]at this;unfold xm at this;rw[hq]at this;exact V this
  go_wp21;refine dC (mq E (iP E) t g) H a HS rfl lT ?_;rintro(_) f σ w H k b a;have l:=H.tf;have p:=H.free 192;have e:=H.lt;replace H:=H.jm 7;go_wp2;go_end0;exact gu a H rfl
 |false=>
  rw[hq]at d;replace a:=by
   have:=a;rw[M.gw]at this;unfold xm at this;rw[hq]at this;exact V this
  go_wp21;refine Ck (λq=>zC H.rel q) H a HS lT ?_;rintro(_) σ w H b a;go_wp21;refine dC (mq E (iP E) t g) H a HS rfl lT ?_;rintro(_) f σ w H k b a;have l:=H.tf;have p:=H.free 192;have e:=H.lt;replace H:=H.jm 7;go_wp2;go_end0;exact gu a H rfl
def Pf(E:Env)(t:gF)(q:jo E t):jk E 194 (λ_=>#[Bp E,iG E t]) (qy t) uV:=by
 refine dI λf σ w R a HS H=>?_;unfold qy at a;go_enter func194,ntmps194;go_wp21;refine dC (sI E (iP E) t q) H a HS rfl lT ?_;rintro(_) f σ w H C z a;have p:=H.tf;have F:=H.free 192;have I:=H.lt;have k:=H.jm 15;have l:=H.jm 14;replace a:Hid (R=.ok () {σ with mode:=if σ.mode=7\/σ.mode=9\/σ.mode=11\/σ.mode=12\/σ.mode=13 then 15 else 14}):=a;generalize d:σ.mode=b at p a;have g:=d;have e:=a;by_cases d:b=7\/b=9\/b=11\/b=12\/b=13
 .rw[sL d]at e;replace a:=e;rcases d with rfl|rfl|rfl|rfl|rfl
  all_goals go_wp2
  all_goals go_end0
  all_goals exact gu a k rfl
 .rw[Xx d]at e;replace a:=e;have K:((b:Int)==7)=false:=by rw[mV];omega
  have P:((b:Int)==9)=false:=by rw[mV];omega
  have u:((b:Int)==11)=false:=by rw[mV];omega
  have x:((b:Int)==12)=false:=by rw[mV];omega
  have y:((b:Int)==13)=false:=by rw[mV];omega
  go_wp2;go_end0;exact gu a l rfl
def alF(E:Env)(t:gF):jk E 205 (λ_=>#[Bp E,iG E t]) Ov uV:=by
 refine dI λf σ w R a HS H=>?_;unfold Ov at a;go_enter func205,ntmps205;go_wp21;refine(oC E [oh] _ (by decide)).mono ?_;rintro e w⟨z,u,rfl,d,l⟩;replace H:=H.k0 l;go_wp21;refine(Bc H.rel).mono ?_;rintro e w⟨F,x,rfl,g,b⟩;replace H:=H.k0 b;have C:=xN H.rel _ _ _ _ (d.k0 b) g;cases hc:σ.inScope (gO [oh]) FH with
 |true=>
  rw[hc]at C;replace a:Hid (R=(pt>>=λ_=>(pure ():M Unit)) σ):=by
   have:=a;rw[sL hc]at this;exact V this
  go_wp21;refine C.mono ?_;rintro e w⟨rfl,k⟩;replace H:=H.k0 k;go_wp21;refine Ck (λp=>zC H.rel p) H a HS lT ?_;rintro(_) σ w H q a;go_wp2;go_end0;exact gu a H rfl
 |false=>
  rw[hc]at C;replace a:Hid (R=(j8 oh>>=λ_=>(do pt;return ():M Unit)) σ):=by
   have:=a;rw[Xx (by simp[hc])]at this;exact V this
  go_wp21;refine C.mono ?_;rintro e w⟨rfl,k⟩;replace H:=H.k0 k;go_wp21;refine dC (wj E (iP E) oh) H a HS rfl lT ?_;rintro(_) f σ w H y q a;go_wp21;refine Ck (λp=>zC H.rel p) H a HS lT ?_;rintro(_) σ w H q a;go_wp2;go_end0;exact gu a H rfl
def UK(E:Env):kP E 141 (λ_=>#[Bp E]) rh bV:=by
 refine mI λf σ w R d HS H=>?_;unfold rh at d;go_enter func141,ntmps141;go_wp21;refine(oC E [iX] _ (by decide)).mono ?_;rintro e w⟨X,F,rfl,a,z⟩;replace H:=H.k0 z;go_wp21;refine(vS E _).mono ?_;rintro e w⟨k3,I,rfl,g,l⟩;replace H:=H.k0 l;replace a:=a.k0 l;go_wp21;refine(sC E _).mono ?_;rintro e w⟨k4,K,rfl,u,k⟩;replace H:=H.k0 k;replace a:=a.k0 k;replace g:=g.k0 k;go_wp21;refine(Zg E _ _ _ _ _ g u).mono ?_;rintro e w⟨k5,P,rfl,x,p⟩;replace H:=H.k0 p;replace a:=a.k0 p;go_wp21;refine(ai3 E _ _ _ x).mono ?_;rintro e w⟨k6,U,rfl,y,q⟩;replace H:=H.k0 q;replace a:=a.k0 q;go_wp21;refine Ck (λ_=>Al H.rel a y) H d HS mT ?_;rintro(b) σ w H C d;cases b with
 |false=>
  go_wp2;go_ret;exact kI d H rfl
 |true=>
  replace d:=d;go_wp21;refine Ck (λ_=>aa5 H.rel) H d HS mT ?_;rintro(_) σ w H C d;go_wp2;go_ret;exact kI d H rfl
def ZS:O->Bool:=λs=>kT s&&!gO [kA,oh] s
def vp(ks:List O)(m:Nat)(t:gF):M Unit:=do
 th (gO ks)
 iL t
 jq m
 return ()
def p9(rec:Nat->gF->M Unit)(ks:List O)(a:O)(m:Nat)(t:gF):M Unit:=do
 th (gO ks)
 j8 a
 jq m
 jF rec t
 return ()
def Gm(ks:List O)(t:gF):M Unit:=do
 let _ <-lK (gO ks) ZS
 mQ t
 return ()
def ya(rec:Nat->gF->M Unit)(b:M Bool)(t:gF):M Unit:=do
 let x <-b
 if x then (do jF rec t;return ())else return ()
def DJ(b:M Bool):M Unit:=do
 let _ <-b
 return ()
def Ask.dX{p:O->Bool}(h:Ask bm v p w)(a:Fr bs w w'):Ask bm v p w':=h.fr (a.n bm)
def ah3(E:Env)(rec:Nat->gF->M Unit)(hA:∀(m:Nat)(t:gF),jo E t->jk E 162 (λ_=>#[Bp E,G m,iG E t]) (rec m t) uV)(t:gF)(k:jo E t)(m e g:Nat)(h:RF E f σ w)(hs:rec m t σ≠ .stuck)(lV:box w e (iD E.bB) 117)(d:box w g (G m) 173):
  Calls prog 171 #[iG E t,iD e,iD g] w (Leaves E f σ.nodes.length w (rec m t σ) uV):=by
 obtain⟨R,b⟩:∃R,R=rec m t σ:=⟨_,rfl⟩;rw[<-b]at hs|-;have HS:=hs;have H:=V (At.start h);have a:=V (M.tail b);clear h hs b;have q:=fP (box.fr (V lV).out (H.out.fr.n E.bm) (by decide)) 0;have u:=fP (box.fr (V d).out (H.out.fr.n E.bm) (by decide)) 0;go_enter func171,ntmps171;go_wp21;refine dC (hA m t k) H a HS rfl lT ?_;rintro(_) f σ w H p l a;go_wp2;go_end0;exact gu a H rfl
def Ke(E:Env)(t:gF)(K:jo E t)(ks:List O)(m u x y:Nat)(k:Nat)(lb:jL)(h:RF E f σ w)(hs:(vp ks m t) σ≠ .stuck)(lV:box w u (iD E.bB) 117)(e:box w x (.func (.func k) #[] lb) 85)(I:Ask E.bm (.func (.func k) #[] lb) (gO ks) w)(g:box w y (G m) 173):
  Calls prog 215 #[iG E t,iD u,iD x,iD y] w (Leaves E f σ.nodes.length w ((vp ks m t) σ) uV):=by
 have a:=V lV;clear lV;have l:=V e;clear e;have p:=V g;clear g;obtain⟨R,q⟩:∃R,R=(vp ks m t) σ:=⟨_,rfl⟩;rw[<-q]at hs|-;have H:=V (At.start h);have b:=V q;clear q;have d:=fP (box.fr a.out (H.out.fr.n E.bm) (by decide)) 0;have C:=fP (box.fr l.out (H.out.fr.n E.bm) (by decide)) 0;dsimp at d C;go_enter func215,ntmps215;go_wp21;refine Ck (λ_=>Ig H.rel (I.dX H.fr)) H b hs lT ?_;rintro(_) σ w H z b;have d:=fP (box.fr a.out (H.out.fr.n E.bm) (by decide)) 0;dsimp at d;go_wp21;refine dC (mq E (iP E) t K) H b hs rfl lT ?_;rintro(_) f σ w H P z b;have d:=fP (box.fr a.out (H.out.fr.n E.bm) (by decide)) 0;have F:=fP (box.fr p.out (H.out.fr.n E.bm) (by decide)) 0;dsimp at d F;have U:=H.tf;have X:=H.free 192;have hl:=H.lt;replace H:=V (H.jm m);go_wp2;go_end0;exact gu b H rfl
def Gb(E:Env)(rec:Nat->gF->M Unit)(hA:∀(m:Nat)(t:gF),jo E t->jk E 162 (λ_=>#[Bp E,G m,iG E t]) (rec m t) uV)(t:gF)(ht:jo E t)(ks:List O)(a:O)(m C F I K:Nat)(k:Nat)(lb:jL)(h:RF E f σ w)(hs:(p9 rec ks a m t) σ≠ .stuck)(lV:box w C (iD E.bB) 117)(g:box w F (.func (.func k) #[] lb) 85)(ha:Ask E.bm (.func (.func k) #[] lb) (gO ks) w)(l:box w I (Y a) 9)(p:box w K (G m) 173):
  Calls prog 217 #[iG E t,iD C,iD F,iD I,iD K] w (Leaves E f σ.nodes.length w ((p9 rec ks a m t) σ) uV):=by
 have d:=V lV;clear lV;have q:=V g;clear g;have u:=V l;clear l;have x:=V p;clear p;obtain⟨R,y⟩:∃R,R=(p9 rec ks a m t) σ:=⟨_,rfl⟩;rw[<-y]at hs|-;have H:=V (At.start h);have b:=V y;clear y;have e:=fP (box.fr d.out (H.out.fr.n E.bm) (by decide)) 0;have U:=fP (box.fr q.out (H.out.fr.n E.bm) (by decide)) 0;dsimp at e U;go_enter func217,ntmps217;go_wp21;refine Ck (λ_=>Ig H.rel (ha.dX H.fr)) H b hs lT ?_;rintro(_) σ w H z b;have e:=fP (box.fr d.out (H.out.fr.n E.bm) (by decide)) 0;have X:=fP (box.fr u.out (H.out.fr.n E.bm) (by decide)) 0;dsimp at e X;go_wp21;refine dC (wj E (iP E) a) H b hs rfl lT ?_;rintro(_) f σ w H P z b;have e:=fP (box.fr d.out (H.out.fr.n E.bm) (by decide)) 0;have c5:=fP (box.fr x.out (H.out.fr.n E.bm) (by decide)) 0;dsimp at e c5;have c4:=H.tf;have f4:=H.free 192;have hl:=H.lt;replace H:=V (H.jm m);go_wp21;refine dC (vq E rec hA t ht) H b hs rfl lT ?_;rintro(_) f σ w H P z b;go_wp2;go_end0;exact gu b H rfl
def S3(E:Env)(t:gF)(ht:jo E t)(ks:List O)(F I K:Nat)(P U:Nat)(g k:jL)(h:RF E f σ w)(hs:(Gm ks t) σ≠ .stuck)(lV:box w F (iD E.bB) 117)(d:box w I (.func (.func P) #[] g) 85)(z:Ask E.bm (.func (.func P) #[] g) (gO ks) w)(e:box w K (.func (.func U) #[] k) 85)(C:Ask E.bm (.func (.func U) #[] k) ZS w):
  Calls prog 272 #[iG E t,iD F,iD I,iD K] w (Leaves E f σ.nodes.length w ((Gm ks t) σ) uV):=by
 have b:=V lV;clear lV;have u:=V d;clear d;have x:=V e;clear e;have p:=z;have q:=C;obtain⟨R,l⟩:∃R,R=(Gm ks t) σ:=⟨_,rfl⟩;rw[<-l]at hs|-;unfold Gm at l;have HS:=hs;have H:=V (At.start h);have a:=V l;clear l;have y:=fP (box.fr b.out (H.out.fr.n E.bm) (by decide)) 0;have c2:=fP (box.fr u.out (H.out.fr.n E.bm) (by decide)) 0;have c3:=fP (box.fr x.out (H.out.fr.n E.bm) (by decide)) 0;dsimp at y c2 c3;go_enter func272,ntmps272;go_wp21;refine Ck (λ_=>Al H.rel (p.dX H.fr) (q.dX H.fr)) H a HS lT ?_;rintro(_) σ w H X a;have y:=fP (box.fr b.out (H.out.fr.n E.bm) (by decide)) 0;dsimp at y;go_wp21;refine dC (xI E (iP E) t ht) H a HS rfl lT ?_;rintro(_) f σ w H HX X a;go_wp2;go_end0;exact gu a H rfl
def aiq(E:Env)(t:gF)(b:M Bool)(k:Nat)(u:kP E k (λ_=>#[Bp E]) b bV)(q:∀a w,(callFunc k a).run prog w=.ok (.enter k a) w)(l:Nat)(h:RF E f σ w)(hs:(DJ b) σ≠ .stuck)(lV:box w l (.func (.func k) #[iD E.bB] #[]) 63):
  Calls prog 223 #[iG E t,iD l] w (Leaves E f σ.nodes.length w ((DJ b) σ) uV):=by
 have g:=V lV;clear lV;obtain⟨R,d⟩:∃R,R=(DJ b) σ:=⟨_,rfl⟩;rw[<-d]at hs|-;unfold DJ at d;have HS:=hs;have H:=V (At.start h);have e:=V d;clear d;have p:=fP (box.fr g.out (H.out.fr.n E.bm) (by decide)) 0;dsimp at p;go_enter func223,ntmps223;go_wp21;refine mC (u) H e HS rfl lT ?_;rintro(_) σ w H x e;go_wp2;go_end0;exact gu e H rfl
def RV(E:Env)(rec:Nat->gF->M Unit)(hA:∀(m:Nat)(t:gF),jo E t->jk E 162 (λ_=>#[Bp E,G m,iG E t]) (rec m t) uV)(t:gF)(K:jo E t)(b:M Bool)(k:Nat)(I:kP E k (λ_=>#[Bp E]) b bV)(F:∀d w,(callFunc k d).run prog w=.ok (.enter k d) w)(q u:Nat)(h:RF E f σ w)(hs:(ya rec b t) σ≠ .stuck)(lV:box w q (iD E.bB) 117)(e:box w u (.func (.func k) #[iD E.bB] #[]) 63):
  Calls prog 218 #[iG E t,iD u,iD q] w (Leaves E f σ.nodes.length w ((ya rec b t) σ) uV):=by
 have l:=V lV;clear lV;have p:=V e;clear e;obtain⟨R,g⟩:∃R,R=(ya rec b t) σ:=⟨_,rfl⟩;rw[<-g]at hs|-;unfold ya at g;have HS:=hs;have H:=V (At.start h);have a:=V g;clear g;have z:=fP (box.fr p.out (H.out.fr.n E.bm) (by decide)) 0;dsimp at z;go_enter func218,ntmps218;go_wp21;refine mC (I) H a HS rfl lT ?_;rintro(y) σ w H x a;have C:=fP (box.fr l.out (H.out.fr.n E.bm) (by decide)) 0;dsimp at C;cases y with
 |true=>
  replace a:Hid (R=(jF rec t>>=λ_=>(pure ():M Unit)) σ):=a;go_wp21;refine dC (vq E rec hA t K) H a HS rfl lT ?_;rintro(_) f σ w H P x a;go_wp2;go_end0;exact gu a H rfl
 |false=>
  replace a:Hid (R=.ok () σ):=a;go_wp2;go_end0;exact gu a H rfl
theorem nU.lf(h:nU σ)(h1:σ'.nodes=σ.nodes)(l:σ'.gq=σ.gq)(K:σ'.act=σ.act)(P:σ'.head=σ.head)(h5:σ'.form=σ.form)(R:σ'.qZ=σ.qZ)(U:σ'.sB=σ.sB):nU σ':=by
 have⟨r,h⟩:=h;have b:∀i,σ'.gU i=σ.gU i:=λi=>by unfold N.gU;rw[h1]
 have hk:∀k,σ'.jr k=σ.jr k:=λk=>by
  cases k with
  |el i=>grind[N.jr]
  |tx i=>grind[N.jr]
  |cm i=>grind[N.jr]
  |dt i=>grind[N.jr]
 have C:∀x,σ'.nk x=σ.nk x:=λx=>by
  cases x with
  |none=>rfl
  |some i=>grind[N.nk]
 have X:∀i s,iV σ i s->iV σ' i s:=λi s ⟨e,u,g⟩=>⟨e,by grind,g⟩;refine⟨r,⟨⟨?_,?_,?_,?_⟩,⟨?_,?_,?_⟩,?_,?_,?_,?_,?_,?_,?_,?_,?_,?_⟩⟩;intro i e p a H;rw[b]at a;have⟨ep,u,g⟩:=h.pc.up i e p a H;grind;intro i e j a hj;rw[b]at a;have⟨ep,u,g⟩:=h.pc.dn i e j a hj;grind;intro i e a;rw[b]at a;exact h.pc.nd i e a;intro i e a k F;rw[b]at a;rw[hk];exact h.pc.kd i e a k F;intro i e p a H;rw[b]at a;exact h.uK.ji i e p a H;rw[l];exact h.uK.gq;rw[l,P];exact h.uK.hd;rw[l];intro x I;rw[C];exact h.gq x I;rw[K];intro i a;have⟨e,u,g⟩:=h.act i a;grind;rw[P];exact λd y=>X _ _ (h.head d y);rw[h5];exact λd y=>X _ _ (h.form d y);rw[l];intro x q I;have⟨z,u,g⟩:=h.Pw x q I;grind;rw[l,R];exact h.yK;rw[K,U];exact h.Br;rw[R];exact h.TM;rw[U];exact h.XH;rw[b];exact h.wA
def nU.SU(h:nU σ)(x:jj)(a:∀d,x=some d->iV σ d iQ):nU {σ with form:=x}:=by
 have⟨r,h⟩:=h;exact⟨r,⟨⟨h.pc.up,h.pc.dn,h.pc.nd,h.pc.kd⟩,⟨h.uK.ji,h.uK.gq,h.uK.hd⟩,h.gq,h.act,h.head,a,h.Pw,h.yK,h.Br,h.TM,h.XH,h.wA⟩⟩
def rC(m:Nat):Bool:=decide (m=6)||decide (m=7)||(decide (9<=m)&&decide (m<=17))
structure dx(σ:N):Prop where
 ne:σ.gq≠[]
 sh:rC σ.mode=true\/(σ.mode=5/\rC σ.kept=true/\2<=σ.gq.length)\/(σ.mode=8/\(σ.kept=7\/σ.kept=11\/σ.kept=12))
theorem iV.nodes(h:iV σ i s)(e:σ'.nodes=σ.nodes):iV σ' i s:=by
 unfold iV N.gU at h|-;grind
structure Lm(σ σ':N):Prop where
 gQ:σ'.gQ=σ.gQ
 qZ:σ'.qZ=σ.qZ
 sB:σ'.sB=σ.sB
 qu:σ'.qu=σ.qu
 wt:σ'.waiting.length<=σ.waiting.length+1
 wz:∀x∈σ'.waiting,x∈σ.waiting\/x.2.2.size<=100
 nm:∀i s,iV σ i s->iV σ' i s
theorem Fx.lm(h:Fx σ σ'):Lm σ σ':=⟨h.gQ,h.qZ,h.sB,h.qu,by grind[waiting],by grind[waiting],h.nm⟩
def RB(c:Nat)(σ:N)(r:qQ Unit):Prop:=match r with
 | .ok _ σ'=>nU σ'/\dx σ'/\Lm σ σ'/\wt σ'<=wt σ+c
 | .stop _ p=>p=σ.gQ
 | .stuck=>False
theorem RB.mono{c':Nat}(h:RB c σ r)(b:c<=c'):RB c' σ r:=by
 cases r with
 |ok a σ'=>grind[RB]
 |stop e p=>exact h
 |stuck=>exact h
theorem jH.rb{Q:Unit->N->Prop}(h:jH c σ r Q)(b:σ.gq≠[])(d:rC σ.mode=true):RB c σ r:=by
 cases r with
 |ok a σ'=>
  have⟨h1,h2,h3,_⟩:=h;exact⟨h1,⟨h2.ne b,.inl (by rw[h2.mode];exact d)⟩,h2.lm,h3⟩
 |stop e p=>exact h
 |stuck=>exact h
theorem RB.bind{α:Type}{c1 c2:Nat}{x:M α}{k:α->M Unit}{Q:α->N->Prop}(h:jH c1 σ (x σ) Q)(H:∀a σ',nU σ'->Fx σ σ'->wt σ'<=wt σ+c1->Q a σ'->RB c2 σ' (k a σ'))(K:c1+c2<=c):RB c σ ((x>>=k) σ):=by
 rw[M.gw];cases hm:x σ with
 |ok a σ'=>
  rw[hm]at h;obtain⟨z,d,C,F⟩:=h;have l:=H a σ' z d C F;dsimp only;cases hk2:k a σ' with
  |ok b σ2=>
   rw[hk2]at l;obtain⟨u,y,g,I⟩:=l;exact⟨u,y,⟨g.gQ.trans d.gQ,g.qZ.trans d.qZ,g.sB.trans d.sB,g.qu.trans d.qu,by have:=g.wt;rw[d.waiting]at this;exact this,by have:=g.wz;rw[d.waiting]at this;exact this,λi s q=>g.nm i s (d.nm i s q)⟩,by omega⟩
  |stop e p=>
   rw[hk2]at l;exact Tu l d.gQ
  |stuck=>rw[hk2]at l;exact l
 |stop e p=>rw[hm]at h;exact h
 |stuck=>rw[hm]at h;exact h
theorem SN(h:nU σ)(a:σ.gq≠[])(m:Nat)(b:rC m=true):RB 0 σ ((jq m>>=λ_=>(Pure.pure ():M Unit)) σ):=
 ⟨h.lf rfl rfl rfl rfl rfl rfl rfl,⟨a,.inl b⟩,⟨rfl,rfl,rfl,rfl,A5 _,by grind,λ_ _ h=>h⟩,ZX (jx rfl)⟩
theorem tI(h:nU σ)(a:dx σ):RB 0 σ ((Pure.pure ():M Unit) σ):=⟨h,a,⟨rfl,rfl,rfl,rfl,A5 _,by grind,by grind⟩,ic _⟩
structure td(σ:N):Prop where
 iv:nU σ
 ne:σ.gq≠[]
 md:rC σ.mode=true
def td.next(h:td σ)(i:nU σ')(f:Fx σ σ'):td σ':=⟨i,f.ne h.ne,by rw[f.mode];exact h.md⟩
theorem td.bU(h:td σ):dx σ:=⟨h.ne,.inl h.md⟩
structure po(σ:N)(t:gF):Prop where
 tag:t.qw=true
 fr:σ.fresh=true
theorem vM(h:nU σ):jH 0 σ (pt σ) (λ_ σ'=>ww σ σ'):=
 jH.iM ((yf h _ _ (by kernel_rfl)).mono (ic _) (λ_ _ _ _ h=>h.1))
theorem ql(h:nU σ)(b:σ.gq≠[])(d:po σ t)(hw:wt σ<999900):jH 33 σ (mi t σ) (λ_ σ'=>∃a j,Jl a t.name j σ'/\σ.gq <+:a.gq/\a.act.length=σ.act.length):=by
 refine jH.bind (pj h b (by omega)) (c2:=1) ?_ (by omega);grind[jH.iM,jH.mono,kC,Fx.ne,po.tag,po.fr]
theorem vm(h:nU σ)(b:σ.gq≠[])(d:po σ t)(hw:wt σ<999000):jH 1 σ (mQ t σ) (λ_ σ'=>∃a j,Jl a t.name j σ'):=by
 refine jH.bind (vM h) (c2:=1) ?_ (by omega);rintro _ a g e l k;refine jH.iM ((kC g (e.ne b) (by omega) t d.tag (k.fresh.trans d.fr)).mono (ic _) ?_);grind
section
variable {σ:N}{t:gF}(h:td σ)(hw:wt σ<999000)
include h hw
def Pd(a:po σ t):RB 33 σ (mi t σ):=(ql h.iv h.ne a (by omega)).rb h.ne h.md
def O6(a:po σ t):RB 1 σ (mQ t σ):=(vm h.iv h.ne a hw).rb h.ne h.md
theorem WN(d:po σ t):RB 1 σ (wI t σ):=by
 refine RB.bind (vm h.iv h.ne d hw) (c2:=0) ?_ (by omega);rintro _ e a b _ _;exact⟨a.lf rfl rfl rfl rfl rfl rfl rfl,⟨(h.next a b).ne,.inl (h.next a b).md⟩,⟨rfl,rfl,rfl,rfl,A5 _,by grind,λ_ _ h=>h⟩,ZX (jx rfl)⟩
theorem KI(a:po σ t):RB 1 σ (oD t σ):=by
 have:jH 1 σ (oD t σ) (λ_ _=>True):=by
  refine jH.bind (vM h.iv) (c2:=1) ?_ (by omega);rintro _ p e b u k;refine jH.bind (vT e _ (by kernel_rfl)) (c2:=1) ?_ (by omega);rintro _ q g d x l;exact jH.iM ((kC g (d.ne (b.ne h.ne)) (by omega) t a.tag (l.fresh.trans (k.fresh.trans a.fr))).mono (ic _) (λ_ _ _ _ _=>trivial))
 grind[jH.rb,td.ne,td.md]
theorem ZE(a:po σ t):RB 1 σ (xJ t σ):=by
 have:jH 1 σ (xJ t σ) (λ_ _=>True):=by
  refine jH.bind (vM h.iv) (c2:=1) ?_ (by omega);rintro _ g d b k e;exact jH.iM ((rK d (b.ne h.ne) (by omega) t a.tag (e.fresh.trans a.fr)).mono (ic _) (λ_ _ _ _ _=>trivial))
 grind[jH.rb,td.ne,td.md]
theorem SZ(g:po σ t)(p:t.name=iQ):RB 1 σ (sG t σ):=by
 unfold sG;cases hf:σ.form with
 |some d=>exact(tI h.iv h.bU).mono (by omega)
 |none=>
  refine RB.bind (vm h.iv h.ne g hw) (c2:=0) ?_ (by omega);rintro _ l a b _⟨k,j,q⟩;refine⟨a.SU _ ?_,⟨(h.next a b).ne,.inl (h.next a b).md⟩,⟨rfl,rfl,rfl,rfl,A5 _,by grind,λ_ _ h=>h⟩,ZX (jx rfl)⟩;intro d e;rw[Gt q]at e;grind[Jl.nm]
theorem Nr(a:po σ t):RB 33 σ (pz t σ):=by
 have:jH 33 σ (pz t σ) (λ_ _=>True):=by
  refine jH.bind (yf h.iv _ iI (by kernel_rfl)) (c2:=33) ?_ (by omega);rintro _ g d b k⟨e,_⟩;exact jH.iM ((ql d (b.ne h.ne) ⟨a.tag,e.fresh.trans a.fr⟩ (by omega)).mono (ic _) (λ_ _ _ _ _=>trivial))
 grind[jH.rb,td.ne,td.md]
theorem Pg(b:po σ t):RB 1 σ (rV t σ):=by
 have e:jH 0 σ (xm σ) (λ_ σ'=>ww σ σ'):=by
  unfold xm;split;exact⟨h.iv,Fx.refl _,ic _,ww.refl _⟩;grind[vM,td.iv]
 refine RB.bind e (c2:=1) ?_ (by omega);rintro _ p g a u l;refine RB.bind (kC g (a.ne h.ne) (by omega) t b.tag (l.fresh.trans b.fr)) (c2:=0) ?_ (by omega);rintro _ q k d x _;exact SN k (d.ne (a.ne h.ne)) 7 rfl
theorem J5(e:po σ t)(b:Bool):RB 1 σ (ou t b σ):=by
 refine RB.bind (kC h.iv h.ne (by omega) t e.tag e.fr) (c2:=0) ?_ (by omega);rintro _ a g d _⟨j,q⟩;refine⟨g.lf rfl rfl rfl rfl rfl rfl rfl,⟨d.ne h.ne,.inr (.inl ⟨rfl,?_,?_⟩)⟩,⟨rfl,rfl,rfl,rfl,A5 _,by grind,λ_ _ h=>h⟩,ZX (jx rfl)⟩;show rC a.mode=true;rw[d.mode];exact h.md;grind[Gu,td.ne]
theorem Nz(a:po σ t):RB 33 σ (pE t σ):=by
 have:jH 33 σ (pE t σ) (λ_ _=>True):=by
  unfold pE;refine jH.bind (vT h.iv _ (by kernel_rfl)) (c2:=33) ?_ (by omega);rintro _ g d b k e;exact jH.iM ((ql d (b.ne h.ne) ⟨a.tag,e.fresh.trans a.fr⟩ (by omega)).mono (ic _) (λ_ _ _ _ _=>trivial))
 grind[jH.rb,td.ne,td.md]
theorem NA(b:po σ t):RB 33 σ (qy t σ):=by
 refine RB.bind (ql h.iv h.ne b (by omega)) (c2:=0) ?_ (by omega);rintro _ e d a _ _;refine⟨d.lf rfl rfl rfl rfl rfl rfl rfl,⟨a.ne h.ne,.inl ?_⟩,⟨rfl,rfl,rfl,rfl,A5 _,by grind,λ_ _ h=>h⟩,ZX (jx rfl)⟩;show rC (if _ then 15 else 14)=true;split<;>rfl
theorem Tc(a:po σ t):RB 33 σ (sK t σ):=by
 have:jH 33 σ (sK t σ) (λ_ _=>True):=by
  refine jH.bind (pj h.iv h.ne (by omega)) (c2:=1) ?_ (by omega);rintro _ g d b p⟨k,l,e⟩;exact jH.iM ((rK d (b.ne h.ne) (by omega) t a.tag (e.trans a.fr)).mono (ic _) (λ_ _ _ _ _=>trivial))
 grind[jH.rb,td.ne,td.md]
omit h hw in
def oy(d:nU σ)(b:σ.gq≠[])(k:po σ t)(g:sN t.name=true)(hw:wt σ<999900):jH 33 σ (jb t σ) (λ_ _=>True):=by
 unfold jb;refine jH.bind (ql d b k hw) (c2:=0) ?_ (by omega);rintro _ a l u x⟨p,j,q,_⟩;have e:JV a=.ok j a:=by unfold JV;rw[Gt q]
 rw[M.gw,e];dsimp only;exact jH.iM ((aes l q.nm g).mono (ic _) (λ_ _ _ _ _=>trivial))
def Fe(b:po σ t)(a:sN t.name=true):RB 33 σ (jb t σ):=(oy h.iv h.ne b a (by omega)).rb h.ne h.md
theorem S4(k:po σ t)(q:t.name=uI):RB 330 σ (qj t σ):=by
 have b:sN t.name=true:=by rw[q];kernel_rfl
 unfold qj;cases hl:σ.oO uI with
 |none=>
  dsimp only;exact RB.mono (c:=33) ((jH.iM (Q:=λ_ _=>True) (oy h.iv h.ne k b (by omega))).rb h.ne h.md) (by omega)
 |some a=>
  dsimp only;have⟨hm,hnm⟩:=zi σ uI hl;have⟨r,hr⟩:=id h.iv;have⟨ea,hea,hfa⟩:=hr.act a (List.mem_reverse.1 hm);have d:=Yh hea;have:jH 330 σ ((xf uI>>=λ_=>kM (some a)>>=λ_=>jR (some a)>>=λ_=>jb t>>=λ_=>(Pure.pure ():M Unit)) σ) (λ_ _=>True):=by
   refine jH.bind (Hw h.iv h.ne (by grind) (by omega)) (c2:=33) ?_ (by omega);rintro _ I u g R C;refine jH.bind (Ae u (x:=some a) (nA (g.nm _ _ d))) (c2:=33) ?_ (by omega);rintro _ K y l U F;refine jH.bind (EE y (l.nm _ _ (g.nm _ _ d)) (by rw[ry hnm];intro e;cases e)) (c2:=33) ?_ (by omega);rintro _ P z p X H;exact jH.iM (oy z (p.ne (l.ne (g.ne h.ne))) ⟨k.tag,by rw[H.fresh,F.fresh,C];exact k.fr⟩ b (by omega))
  grind[jH.rb,td.ne,td.md]
end
theorem Rel.aln(h:Rel E L σ w)(s:O)(p:Bool):Rel E L {σ with nW:=s,iU:=p} ((w.setCell ⟨E.bR,E.Iu,none⟩ (Y s)).setCell ⟨E.bR,E.Iu+1,none⟩ (.bool p)):=by
 have d:Z [E.bR] w ((w.setCell ⟨E.bR,E.Iu,none⟩ (Y s)).setCell ⟨E.bR,E.Iu+1,none⟩ (.bool p)):=((Z.refl _ w).setCell (.inl (by simp)) _).setCell (.inl (by simp)) _;have b:KT E.bs [161] w _:=.j9 d (λk d _=>by simp at d;subst d;exact⟨⟨_,_,_,h.rd,by simp⟩,h.bR⟩);obtain⟨C,l,a⟩:=h.il;have e:=gh (gh h.rd E.Iu (Y s)) (E.Iu+1) (.bool p);have u:=h.Wp;exact {h with
  fr:=h.fr.trans (b.fr (by decide))
  uz:=λi x q=>(h.uz i x q).kt b (by decide)
  inj:=h.inj,Dk:=h.Dk,JS:=h.JS,uq:=h.uq,H6:=h.H6
  wf:=⟨h.wf.gq,h.wf.act,h.wf.head,h.wf.form,h.wf.ji,h.wf.kids,h.wf.wA⟩
  il:=⟨C,b.at l (by decide),⟨a.size,a.low,a.gq,a.act,a.head,a.form,a.mode,a.kept,a.wait,a.Mi,a.jA,a.gQ,a.behind⟩⟩
  qv:=b.row h.qv (by decide)
  ru:=b.row h.ru (by decide)
  JY:=h.JY,yK:=h.yK,Ie:=h.Ie
  qm:=b.row h.qm (by decide)
  bz:=h.bz,bB:=h.bB,bR:=h.bR,bN:=h.bN
  rd:=by
   rw[e]
   congr 2
   apply Array.ext_getElem?;intro i;by_cases g:E.Iu+1=i;grind;rw[Array.getElem?_setIfInBounds_ne g,Array.getElem?_setIfInBounds_ne g];grind
  tok:=b.row h.tok (by decide)
  Ph:=h.Ph,BI:=h.BI,ab:=h.ab,tb:=h.tb,Pk:=h.Pk}
theorem Rel.yp(h:Rel E L σ w):w.cell? ⟨E.bR,E.Iu,none⟩=some (Y σ.nW)/\w.cell? ⟨E.bR,E.Iu+1,none⟩=some (.bool σ.iU)/\(∀j,w.frozen? ⟨E.bR,j,none⟩=false)/\E.bR<w.heap.size:=by
 have a:=h.Wp;refine⟨?_,?_,λj=>gx h.rd j,ja h.rd⟩;rw[fP h.rd];grind;rw[fP h.rd];grind
theorem abX(E:Env)(g:E.Iu=7)(h:RF E f σ w)(s:O)(p:Bool):
  Calls prog 46 #[gI E.bR,Y s,.bool p] w λe w'=>e=qs/\RF E f {σ with nW:=s,iU:=p} w'/\Fr E.bs w w':=by
 obtain⟨L,rfl,hr⟩:=h;have⟨c1,c2,fz,hl⟩:=hr.yp;have d:=hr.aln s p;have b:Fr E.bs w ((w.setCell ⟨E.bR,E.Iu,none⟩ (Y s)).setCell ⟨E.bR,E.Iu+1,none⟩ (.bool p)):=.j9 (((Z.refl [E.bR] w).setCell (.inl (by simp)) _).setCell (.inl (by simp)) _) (λk a=>by simp at a;subst a;exact⟨⟨_,_,_,hr.rd,by decide⟩,hr.bR⟩);rw[g]at c1 c2 d b;have l:=fz 8;go_enter func46,ntmps46;go_wp2;go_end0;grind[RF]
def At.c3(h:At E f0 n0 w0 f σ w):w.cell? ⟨E.bB,3,none⟩=some (.func (.func 46) #[gI E.bR] #[]):=by
 obtain⟨L,rfl,hr⟩:=h.rel;exact hr.low (by decide) hr.env.Xg
def M2(E:Env)(z:E.Iu=7)(t:gF)(I:jo E t)(a:Bool):jk E 176 (λ_=>#[Bp E,iG E t,.bool a]) (ou t a) uV:=by
 refine dI λf σ w R k HS H=>?_;unfold ou at k;go_enter func176,ntmps176;go_wp21;refine dC (mq E (iP E) t I) H k HS rfl lT ?_;rintro(_) f σ w H U P k;have⟨ta,tb,tao,tn,tcp,HTG⟩:=Hd E t H.rel;have y:=λw=>Cy ta tb t.name tao tn tcp w;have x:=H.c3;have C:=H.lt;have l:=x;go_wp21
 go_region_with (first
  |(go_at_call 168;refine(HTG _).mono ?_;rintro e K⟨rfl,g⟩;have d:=V (((Z.refl [] w).drew).trans g);have d3:K.cell? ⟨E.bB,3,none⟩=_:=(d.cell (p:=⟨E.bB,3,none⟩) C (by simp)).trans l;clear g)
  |(go_at_call 46;refine(abX E z (H.k0 d).rel t.name a).mono ?_;rintro e w4⟨rfl,q,u⟩;have b:=V ((H.k0 d).to q (ud _ _ rfl) u);clear q u))
 all_goals
  have X:=b.tf;have f2:=b.free 192;have c4:=b.XZ;have f4:=b.free 193;have F:=b.lt;replace b:=(b.zQ σ.mode).jm 5;go_wp2;go_end0;exact gu k b rfl
theorem Kd(E:Env)(b:E.Iu=7)(t:gF)(d:jo E t):jk E 102 (λ_=>#[Bp E,iG E t]) (sJ t) uV:=by
 refine dI λf σ w R a HS H=>?_;go_enter func102,ntmps102;go_wp21;refine dC (M2 E b t d _) H a HS rfl lT ?_;rintro(_) f σ w H g e a;go_wp2;go_end0;exact gu a H rfl
theorem I4(E:Env)(b:E.Iu=7)(t:gF)(d:jo E t):jk E 103 (λ_=>#[Bp E,iG E t]) (nR t) uV:=by
 refine dI λf σ w R a HS H=>?_;go_enter func103,ntmps103;go_wp21;refine dC (M2 E b t d true) H a HS rfl lT ?_;rintro(_) f σ w H g e a;go_wp2;go_end0;exact gu a H rfl
theorem KL(E:Env)(b:E.Iu=7)(t:gF)(d:jo E t):jk E 192 (λ_=>#[Bp E,iG E t]) (pO t) uV:=by
 refine dI λf σ w R a HS H=>?_;go_enter func192,ntmps192;go_wp21;refine dC (Kd E b t d) H a HS rfl lT ?_;rintro(_) f σ w H g e a;have k:=H.aeK;have l:=H.free 198;replace H:=H.uk true;go_wp2;go_end0;exact gu a H rfl
def agk(h:RF E f σ w)(x:jj)(hs:jR x σ≠ .stuck):
  Calls prog 178 #[j5 E.bB 188,oV f x] w λe w'=>e=qs/\jR x σ=.ok () {σ with gq:=σ.gq.erase x}/\RF E f {σ with gq:=σ.gq.erase x} w'/\Fr E.bs w w':=by
 have:=GC E x f σ w h hs;unfold jR at this hs|-;by_cases a:σ.gZ x=true;rw[sL a]at this|-;exact this.mono (λe w' h=>⟨h.1,rfl,h.2.1,h.2.2.1⟩);rw[Xx a]at hs;exact absurd rfl hs
def Rs(E:Env)(rec:Nat->gF->M Unit)(hA:∀(m:Nat)(t:gF),jo E t->jk E 162 (λ_=>#[Bp E,G m,iG E t]) (rec m t) uV)(t:gF)(I:jo E t):jk E 107 (λ_=>#[Bp E,iG E t]) (tU rec t) uV:=by
 refine dI λf σ w R b HS H=>?_;unfold tU at b;go_enter func107,ntmps107;have z:=H.ab4;have C:=H.lt;go_wp21;refine Ck (λF=>(show Calls prog 177 #[Bp E,oV f σ.head] w (kO E f σ.nodes.length w (pushHead σ) uV)from SH E σ.head f σ w H.rel F)) H b HS lT ?_;rintro(_) σ w H u b;go_wp21;refine dC (hA 3 t I) H b HS rfl lT ?_;rintro(_) f σ w H K u b;have z:=H.ab4;have C:=H.lt;have g:jR σ.head σ≠ .stuck:=by
  intro k;apply HS;rw[b.out,M.gw];unfold nC;rw[k]
 have d:=agk (H.k0 ((Z.refl _ w).drew)).rel σ.head g;go_wp21
 go_region_with (go_at_call 178;refine d.mono ?_;rintro e P⟨rfl,l,p,q⟩;have y:=V ((H.k0 ((Z.refl _ w).drew)).to p (ud _ _ rfl) q);have x:=V l;clear l p q)
 all_goals
  go_wp2;go_end0;refine gu (σ:={σ with gq:=σ.gq.erase σ.head}) (a:=()) ?_ y rfl;rw[b.out,M.gw];unfold nC;rw[x.out];rfl
def UH(E:Env)(i:Nat)(h:RF E f σ w)(x:iC σ.gq 0=some i)(hs:jg i σ≠ .stuck):Calls prog 145 #[Bp E] w (kO E f σ.nodes.length w (jg i σ) pV):=by
 obtain⟨R,q⟩:∃R,R=jg i σ:=⟨_,rfl⟩;have g:=(h.ir ((Z.refl _ w).alloc XI)).dQ 0;rw[x]at g;have k:=(show Calls prog 239 #[j5 E.bB 188,G 0] (w.alloc XI) (λe w'=>e=iA (gI (f i))/\w'=w.alloc XI)from g);rw[<-q]at hs|-;have HS:=hs;have H:=(At.start h).k0 ((Z.refl _ w).alloc XI);have l:=V (M.tail q);have K:=fU w XI;have X:=h.lt;clear h hs q x g;go_enter func145,ntmps145;go_wp21;refine k.mono ?_;rintro e w'⟨rfl,rfl⟩;go_wp21;refine kP.call (JD E i) H l HS rfl ?_ ?_
 .intro c p j ws b F I;have C:=V b;clear b;go_wp2;exact⟨rfl,vR C F I⟩
 rintro d a0 w1 b y z;have a:=y.cell K (by decide);have P:=fP a 0;have U:=fP a 1;have f0:=gx a 0;have f1:=gx a 1;dsimp at P U;replace H:=((b.side a (by decide) (ic _) 0 (gI (f d.1))).side (gh a 0 _) (by decide) (ic _) 1 (G d.2));replace l:=V z;have u:=V (gh (gh a 0 (gI (f d.1))) 1 (G d.2));clear b y z;go_wp2;refine uF (v:=pV f d) ?_ rfl (kI l H rfl);simp[results,results145,asAddr,Result.andThen,go_sem,fP u.out]
attribute [local go_sem] Oper.semAt_some
theorem aa2(E:Env)(h:RF E f σ W)(s:O)(c:Bool)(k:Nat)(hb:W.heap[k]?=some (gH #[Y s] (if c then 232 else 236)))(H:∀i,i<σ.nodes.length->f i<k)(x:E.bs<=k)(pl:Nat×Nat)(b:oR pl (if c then .cm s else .dt s) (if c then Nd.cm else Nd.dt) σ=.ok () σ'):
  Calls prog 166 #[pV f pl,((if c then Nd.cm else Nd.dt) k).val] W λe W'=>e=qs/\∃g,XF σ.nodes.length f g/\σ.nodes.length<=σ'.nodes.length/\RF E g σ' W'/\Fr E.bs W W':=by
 obtain⟨L,rfl,hr⟩:=h;obtain⟨p,d⟩:∃p:A8,p=if c then .cm s else .dt s:=⟨_,rfl⟩
 obtain⟨u,a⟩:∃u:Nat->Nd,u=if c then Nd.cm else Nd.dt:=⟨_,rfl⟩
 rw[<-d,<-a]at b;rw[<-a];have I:∀e,p≠ .el e:=by intro e;rw[d];cases c<;>simp
 have F:∀i j,u i≠ .el j:=by intro i j;rw[a];cases c<;>simp
 have K:=by
  refine hr.akt p k (jD) (jD) σ.fresh (Z.refl _ _) H x ?_ rfl (λe X=>absurd X (I e)) (λ_ _ _ _ _ l=>by cases l) (λ_ _ _ _ _ _ l=>by cases l) (λ_=>rfl) (λhf=>⟨hf,λ_ _=>by simp[Value.ownBlock]⟩) (λ_ l=>by cases l);rw[d];cases c with
  |true=>show _=_;grind[Loc.new]
  |false=>show _=_;grind[Loc.new]
 unfold oR vk at b;cases q:(σ.add p).gU pl.1 with
 |none=>rw[q]at b;cases b
 |some ei=>
  rw[q]at b;dsimp only at b;split at b;rename_i y;cases b;have z:pl.1<σ.nodes.length:=by
   have l:=N.io q;have h2:(σ.add p).nodes.length=σ.nodes.length+1:=by simp[N.add]
   rcases D0 pl.1 σ.nodes.length with h|h;exact h;grind[N.su]
  have C:=WV K q y.1 (F _) y.2.1 y.2.2;have e1:place ((L.new σ.nodes.length k (jD) (jD)).gQ pl.1) pl.2=pV L.gQ pl:=by rw[Loc.Cl z]
  have e2:(Nd.map (L.new σ.nodes.length k (jD) (jD)).gQ (u σ.nodes.length))=u k:=by
   rw[a];cases c;show Nd.dt _=Nd.dt k;rw[Loc.vg];show Nd.cm _=Nd.cm k;rw[Loc.vg]
  rw[e1,e2]at C;refine C.mono ?_;rintro e W'⟨rfl,P,R,U,hF⟩;refine⟨rfl,P.gQ,λi q=>?_,?_,⟨P,rfl,U⟩,hF⟩;rw[R];grind[Loc.Cl];grind[N.oK,N.add];cases b
structure Fv(E:Env)(pf:Nat)(own:Bool)(pm:M (Nat×Nat)):Prop where
 cV:∀args w,(callFunc pf args).run prog w=.ok (.enter pf args) w
 same:∀σ pl σ1,pm σ=.ok pl σ1->σ1=σ
 Sx:∀σ c p,pm σ≠ .stop c p
 aii:∀f σ w,RF E f σ w->pm σ≠ .stuck->Calls prog pf #[iD (if own then E.bB else f 0)] w (kO E f σ.nodes.length w (pm σ) pV)
def nj(b:M (Nat×Nat))(t:gF):M Unit:=match t.k with
 | .gV s=>do
  let a <-b
  oR a (.cm s) .cm
  return ()
 |_=>return ()
def bJ(E:Env)(f:Nat->Nat)(σ:N)(T:TypeId)(s:O)(v:gP)(W:J):Prop:=∃k,v=gI k/\W.heap[k]?=some (gH #[Y s] T)/\(∀i,i<σ.nodes.length->f i<k)/\E.bs<=k
theorem bJ.fr(h:bJ E f σ 232 s v W)(a:Fr E.bs W W'):bJ E f σ 232 s v W':=by
 have⟨k,e,h1,h2⟩:=h;exact⟨k,e,a.Bd h1 (by decide),h2⟩
def bJ.E5(h:bJ E f σ 236 s v W)(a:Fr E.bs W W'):bJ E f σ 236 s v W':=by
 have⟨k,e,h1,h2⟩:=h;exact⟨k,e,a.Bd h1 (by decide),h2⟩
theorem bJ.new{T:TypeId}(h:RF E f σ W)(s:O):bJ E f σ T s (gI W.heap.size) (W.alloc (gH #[Y s] T)):=by
 obtain⟨L,rfl,hr⟩:=h;exact⟨_,rfl,fU W _,λi a=>hr.LB a,hr.bw⟩
theorem Yd(E:Env)(pf:Nat)(own:Bool)(I:M (Nat×Nat))(U:Fv E pf own I)(t:gF)(b1:Nat)(h:RF E f σ w)(hs:nj I t σ≠ .stuck)(lV:box w b1 (.func (.func pf) #[iD (if own then E.bB else f 0)] #[]) 206):
  Calls prog 165 #[iG E t,iD b1] w (Leaves E f σ.nodes.length w (nj I t σ) uV):=by
 have R:=V (At.start h);have⟨a,b,k,gG⟩:=t;cases k with
 |gV s=>
  have hx:∃l σ',I σ=.ok l σ/\oR l (.cm s) .cm σ=.ok () σ'/\nj I ⟨a,b,.gV s,gG⟩ σ=.ok () σ':=by
   have e0:nj I ⟨a,b,.gV s,gG⟩ σ=(I>>=λl=>oR l (.cm s) .cm>>=λ_=>(Pure.pure ():M Unit)) σ:=rfl;rw[M.gw]at e0;cases hq:I σ with
   |ok l σ1=>
    obtain rfl:=U.same _ _ _ hq;rw[hq]at e0;cases hq2:oR l (.cm s) .cm σ1 with
    |ok u σ'=>exact⟨l,σ',rfl,hq2,by rw[e0];dsimp only;rw[M.gw,hq2];rfl⟩
    |stop c p=>
     exfalso;unfold oR vk at hq2;grind
    |stuck=>exact absurd (by rw[e0];dsimp only;rw[M.gw,hq2]) hs
   |stop c p=>exact absurd hq (U.Sx _ _ _)
   |stuck=>grind
  have⟨l,σ',hq1,hq2,hq3⟩:=hx;rw[hq3];have K:=λW (hW:RF E f σ W)=>U.aii f σ W hW (by grind);rw[hq1]at K;have eg:=U.cV;simp only[iG];have d:=rX underlying194;obtain⟨C,y⟩:∃C,C=w.alloc (gH #[G a,G b,Y s] 194):=⟨_,rfl⟩;have P:Z [] w C:=by rw[y];exact(Z.refl _ _).alloc _
  have a0:C.heap[w.heap.size]?=some (gH #[G a,G b,Y s] 194):=by rw[y];exact fU w _
  have F:=P.at lV (by simp);have HC:=V (λW (hF:Fr E.bs C W)=>(⟨by rw[fP (hF.Bd F (by decide))];rfl,by rw[fP (hF.Bd a0 (by decide))];rfl⟩:W.cell? ⟨b1,0,none⟩=some (.func (.func pf) #[iD (if own then E.bB else f 0)] #[])/\W.cell? ⟨w.heap.size,2,none⟩=some (Y s)));have HW:=V y.symm;have HA:=V (R.out.k0 P);have a3:=V K;have a2:=V eg;have a4:=V hq2;have HN:=V (λi (hi:i<σ.nodes.length)=>(show f i<C.heap.size by
   have⟨L,e,hr⟩:=(R.out.k0 P).rel;rw[<-e];exact hr.LB hi))
  have wO:=V (show E.bs<=C.heap.size by
   have⟨L,e,hr⟩:=(R.out.k0 P).rel;exact hr.bw)
  clear h hs lV U hq1 hq2 hq3 K eg a0 F P y R;go_enter func165,ntmps165;go_wp21;rw[HW.out];refine Xz (by rfl) ?_;refine oT (λ(g:gP) z=>⟨#[.iface 194 (.agg #[G a,G b,Y s]),iD b1,undef,gI w.heap.size,.bool true,.tuple #[.agg #[G a,G b,Y s],.bool true],.iface 194 (.agg #[G a,G b,Y s]),.tuple #[.agg #[G a,G b,Y s],.bool true],.agg #[G a,G b,Y s],.bool true,.bool true,cd z 0 (.func (.func pf) #[iD (if own then E.bB else f 0)] #[]),cd z 1 (pV f l),cd z 2 (j5 w.heap.size 2),cd z 3 (Y s),cd z 4 (.agg #[Y s]),cd z 5 (g),cd z 6 (.iface 230 g),cd z 7 (.tuple #[])],[]⟩) (λg z W=>if dn z 7=true then (∃f',XF σ.nodes.length f f'/\σ.nodes.length<=σ'.nodes.length/\RF E f' σ' W/\Fr E.bs C W)else (RF E f σ W/\Fr E.bs C W/\(dn z 5=true->bJ E f σ 232 s g W))) 8 [[],[0],[],[2],[3],[4],[5],[0,1,2,3,4,5,6]] (undef) rfl (by rfl) (⟨HA.out.rel.ir (Z.refl _ _).drew,Fr.ib (Z.refl _ _).drew,λh=>by cases h⟩) ?_ ?_
  .repeat' first|exact mg|refine mf ?_ ?_
   all_goals
    rintro g z W hI X hn;simp[Bs]at X;refine N2 rfl ?_;intro K' x;simp only[lH,X];have hb:dn z 7=false:=by simp[X,hn]
    have q:=(Xx (by simp[hb])).mp hI;have⟨cc,c2⟩:=HC.out W q.2.1;have eg:=a2.out;go_simp
    first
    |refine x _ _ ⟨g,?_,(Xx (by simp[lY,hb])).mpr ⟨q.1,q.2.1,qA q.2.2 (by decide)⟩⟩
    |refine(a3.out W q.1).mono ?_;rintro e W2⟨rfl,a5,a1,_⟩;refine x _ _ ⟨g,?_,(Xx (by simp[lY,hb])).mpr ⟨a5,q.2.1.trans a1,qA (λh=>(q.2.2 h).fr a1) (by decide)⟩⟩
    |have ka:Z [] W (W.alloc (gH #[Y s] 232)):=(Z.refl _ _).alloc _;refine x _ _ ⟨_,?_,(Xx (by simp[lY,hb])).mpr ⟨q.1.ir ka,q.2.1.trans (.ib ka),λ_=>bJ.new q.1 s⟩⟩;have h9:dn z 6=false:=(by simp[hn]);simp[pr,wy,lH,aku,X,h9]
    |obtain⟨k,rfl,P,k2,k3⟩:=q.2.2 (by simp[X]);refine(aa2 E q.1 s true k P k2 k3 l a4.out).mono ?_;rintro e W2⟨rfl,f',g1,g2,g3,g4⟩;refine x _ _ ⟨gI k,?_,(sL pX).mpr ⟨f',g1,g2,g3,q.2.1.trans g4⟩⟩
    all_goals simp[pr,wy,lH,X]
  .rintro g W hI;have⟨f2,g1,g2,g3,g4⟩:=(sL vO).mp hI;simp only[vJ];have G3:=V g3;have G4:=V (HA.out.fr.trans g4);clear hI g3 g4;go_wp2
   all_goals go_end0
   all_goals exact⟨f2,g1,g2,rfl,G3.out,G4.out⟩
 |_=>
  change Calls _ _ _ _ (Leaves E f _ w (.ok () σ) uV);simp only[iG];have d:=uy;have H:=V (R.out.k0 ((Z.refl [] w).alloc (gH #[G 0,G 0,Y kB] 194)));clear h hs lV U R;go_enter func165,ntmps165;go_wp2;go_end0;exact gu rfl H.out rfl
theorem RB.tail{m:M Unit}(h:RB c σ (m σ)):RB c σ ((m>>=λ_=>(Pure.pure ():M Unit)) σ):=by
 rw[M.gw];revert h;cases m σ<;>exact λh=>h
def RB.then{m:M Unit}(h:RB c σ (m σ))(g:N->N)(hg:∀σ,(g σ).nodes=σ.nodes/\(g σ).gq=σ.gq/\(g σ).act=σ.act/\(g σ).head=σ.head/\(g σ).form=σ.form/\(g σ).qZ=σ.qZ/\(g σ).sB=σ.sB/\(g σ).mode=σ.mode/\(g σ).kept=σ.kept/\(g σ).gQ=σ.gQ/\(g σ).qu=σ.qu/\(g σ).waiting=σ.waiting):RB c σ ((m>>=λ_=>uL g>>=λ_=>(Pure.pure ():M Unit)) σ):=by
 rw[M.gw];revert h;cases m σ with
 |ok a σ1=>
  rintro⟨R,C,b,U⟩;obtain⟨k,x,F,H,I,y,z,K,P,l,u,d⟩:=hg σ1;refine⟨R.lf k x F H I y z,⟨by rw[x];exact C.ne,?_⟩,⟨l.trans b.gQ,y.trans b.qZ,z.trans b.sB,u.trans b.qu,by rw[d];exact b.wt,by rw[d];exact b.wz,λi s q=>(b.nm i s q).nodes k⟩,by rw[jx k];exact U⟩;rw[K,P,x];exact C.sh
 |stop e p=>exact λh=>h
 |stuck=>exact λh=>h
theorem anD{a b:O}(h:ld a b=false):a≠b:=by
 rintro rfl;unfold ld at h;simp at h
def PY(i:Nat)(a:O×O)(r:lu)(σ:N):p6 i (a::r) σ=(match σ.gU i with
  |none=> .stuck
  |some e=>if xx e.gR a.1 then p6 i r σ else if σ.qu<=e.gR.length then .stop 7 σ.gQ else p6 i r (σ.gW i {e with gR:=e.gR++[a]})):=rfl
theorem Ir:∀(gG:lu){σ:N},nU σ->(σ.gU i).isSome=true->jH 0 σ (p6 i gG σ) (λ_ _=>True)
 |[],σ,h,_=>⟨h,Fx.refl _,ic _,trivial⟩
 |a::r,σ,h,hi=>by
  have⟨e,he⟩:=Option.isSome_iff_exists.1 hi;have l:p6 i (a::r) σ=(if xx e.gR a.1 then p6 i r σ else if σ.qu<=e.gR.length then .stop 7 σ.gQ else p6 i r (σ.gW i {e with gR:=e.gR++[a]})):=by
   rw[PY,he]
  rw[l];split;exact Ir r h hi
  .split;rfl
   .have⟨rr,hr⟩:=h;have b:=N.io he;have d:=hr.alike (σ':=σ.gW i {e with gR:=e.gR++[a]}) (λj ej g=>by
     grind[N.jc,N.iK]) (λj ej g=>by
     grind[N.iK]) (λj ej g k F=>by
     grind[N.mr,N.jc,cX.kd,jJ.pc,N.iK])
    have hw:=by
     have:=tu (e':={e with gR:=e.gR++[a]}) he;dsimp only at this;omega
    have z:=Ir r ⟨rr,d.1⟩ (by rw[N.jc b];rfl);revert z;cases p6 i r (σ.gW i {e with gR:=e.gR++[a]})with
    |ok u σ2=>rintro⟨q,x,C,y⟩;exact⟨q,d.2.trans x,by omega,y⟩
    |stop c p=>exact λh=>h
    |stuck=>simp[jH]
theorem U6(h:nU σ)(b:iV σ i s)(hg:oA s=true)(t:gF)(a:σ.fresh=true):jH 0 σ (uW i t σ) (λ_ _=>True):=by
 grind[jJ.VC,Ir,nA,uW]
def F8(h:nU σ)(a:σ.gq≠[])(t:gF)(b:σ.fresh=true):jH 0 σ (nN t σ) (λ_ _=>True):=by
 have⟨r,hr⟩:=id h;have⟨q,e,rest,h1,h2,h3,h4⟩:=hr.first a;unfold nN;rw[h2];exact jH.iM (U6 h ⟨e,h3,h4⟩ (by kernel_rfl) t b)
theorem R5(h:nU σ)(t:gF)(d:σ.fresh=true):jH 0 σ (p5 t σ) (λ_ _=>True):=by
 unfold p5;cases hq:iC σ.gq 1 with
 |none=>exact⟨h,Fx.refl _,ic _,trivial⟩
 |some i=>
  dsimp only;split;rename_i b;have⟨r,hr⟩:=id h;have g:some i∈σ.gq:=by
   rw[show(1:Int)=((1:Nat):Int)from rfl,ri,aby]at hq;cases hx:σ.gq[1]? with
   |none=>grind
   |some y=>grind
  have⟨j,e,e1,he⟩:=lD (hr.gq _ g);cases e1;have a:=Yh he;rw[ry b]at a;exact jH.iM (U6 h a (by kernel_rfl) t d);exact⟨h,Fx.refl _,ic _,trivial⟩
section
variable {σ:N}{t:gF}(h:td σ)(hw:wt σ<999000)
include h hw
theorem S5(d:po σ t)(k:t.name=iJ):RB 360 σ (sH t σ):=by
 have a:sN t.name=true:=by rw[k];kernel_rfl
 have:jH 360 σ (sH t σ) (λ_ _=>True):=by
  unfold sH;refine jH.bind (pj h.iv h.ne (by omega)) (c2:=325) ?_ (by omega);rintro _ p e b C⟨u,x,y⟩;unfold um;split;refine jH.bind (c1:=288) (Hw e (b.ne h.ne) (by grind) (by omega)) (c2:=33) ?_ (by omega);rintro _ q l g F z;exact jH.iM (Q:=λ_ _=>True) (oy l (g.ne (b.ne h.ne)) ⟨d.tag,by grind[po.fr]⟩ a (by omega));exact jH.mono (c:=33) (jH.iM (Q:=λ_ _=>True) (oy e (b.ne h.ne) ⟨d.tag,by grind[po.fr]⟩ a (by omega))) (by omega) (λ_ _ _ _ h=>h)
 grind[jH.rb,td.ne,td.md]
theorem Ny(a:po σ t):RB 33 σ (pD t σ):=by
 have:jH 33 σ (pD t σ) (λ_ _=>True):=by
  refine jH.bind (ql h.iv h.ne a (by omega)) (c2:=0) ?_ (by omega);rintro _ d b e g _;exact jH.iM ((xk b none (λ_ h=>by cases h)).mono (ic _) (λ_ _ _ _ _=>trivial))
 grind[jH.rb,td.ne,td.md]
theorem aiK(a:po σ t)(ks:List O)(d:gO ks fN=false):RB 1 σ (Gm ks t σ):=by
 have:jH 1 σ (Gm ks t σ) (λ_ _=>True):=by
  refine jH.bind (yf h.iv (gO ks) ZS d) (c2:=1) ?_ (by omega);rintro _ k e b l⟨g,_⟩;exact jH.iM ((vm e (b.ne h.ne) ⟨a.tag,g.fresh.trans a.fr⟩ (by omega)).mono (ic _) (λ_ _ _ _ _=>trivial))
 grind[jH.rb,td.ne,td.md]
def G9(a:po σ t):RB 1 σ (sJ t σ):=RB.tail (J5 h hw a _)
def G1(a:po σ t):RB 1 σ (nR t σ):=RB.tail (J5 h hw a true)
def I5(a:po σ t):RB 1 σ (pO t σ):=RB.then (G9 h hw a) _ (λ_=>⟨rfl,rfl,rfl,rfl,rfl,rfl,rfl,rfl,rfl,rfl,rfl,rfl⟩)
omit hw in
def U5(a:σ.fresh=true):RB 0 σ (nN t σ):=(F8 h.iv h.ne t a).rb h.ne h.md
omit hw in
def U3(a:σ.fresh=true):RB 0 σ (p5 t σ):=(R5 h.iv t a).rb h.ne h.md
omit hw in
def Yo:RB 0 σ (xn σ):=by
 unfold xn;split;exact⟨h.iv.lf rfl rfl rfl rfl rfl rfl rfl,⟨h.ne,.inl rfl⟩,⟨rfl,rfl,rfl,rfl,A5 _,λ_ h=> .inl h,λ_ _ h=>h⟩,ZX (jx rfl)⟩;exact tI h.iv h.bU
omit hw in
def LR(p b:O->Bool)(a:p fN=false):RB 0 σ ((lK p b>>=λ_=>(Pure.pure ():M Unit)) σ):=
 (jH.iM (Q:=λ_ _=>True) ((yf h.iv p b a).mono (ic _) (λ_ _ _ _ _=>trivial))).rb h.ne h.md
omit hw in
def UD(a:t.name≠fN):RB 0 σ (yi t σ):=LR h _ _ (by
 rw[zG];cases hx:ld fN t.name with
 |false=>rfl
 |true=>exact absurd (ry hx).symm a)
omit hw in
def Ou:RB 0 σ (tY σ):=LR h _ _ (by kernel_rfl)
omit hw in
def Yt:RB 0 σ (Au σ):=LR h _ _ (by kernel_rfl)
omit hw in
def UI(a:t.name≠fN):RB 0 σ (wC t σ):=(jH.iM (Q:=λ_ _=>True) ((FY h.iv a).mono (ic _) (λ_ _ _ _ _=>trivial))).rb h.ne h.md
theorem aip:RB 1 σ (Ov σ):=by
 have:jH 1 σ (Ov σ) (λ_ _=>True):=by
  unfold Ov;split;grind[jH.mono,jH.iM,vM,td.iv];refine jH.bind (tF h.iv h.ne (by omega) oh) (c2:=0) ?_ (by omega);grind[jH.iM,jH.mono,vM]
 grind[jH.rb,td.ne,td.md]
def UE:RB 33 σ (uQ σ):=by
 have:jH 33 σ (uQ σ) (λ_ _=>True):=by
  unfold uQ;refine jH.bind (pj h.iv h.ne (by omega)) (c2:=1) ?_ (by omega);rintro _ e b a l _;refine jH.bind (tF b (a.ne h.ne) (by omega) jW) (c2:=0) ?_ (by omega);rintro _ g d k p⟨j,q,_⟩;exact jH.iM ((zN d (Gu q (a.ne h.ne))).mono (ic _) (λ_ _ _ _ _=>trivial))
 exact this.rb h.ne h.md
omit hw in
def Yr:RB 0 σ (xq σ):=by
 unfold xq;cases hf:σ.form with
 |none=>exact tI h.iv h.bU
 |some i=>
  dsimp only;have l:iV σ i iQ:=by obtain⟨r,hr⟩:=h.iv;exact hr.form i hf
  have b:nU {σ with form:=none}:=h.iv.SU none (λ_ h=>by cases h);split
  .obtain⟨g,a,z⟩:=LX b vj (by kernel_rfl);have k:=EE g (i:=i) (s:=iQ) (a.nm _ _ l) (by intro e;cases e);show RB 0 σ ((jR (some i)>>=λ_=>(Pure.pure ():M Unit)) (({σ with form:=none}:N).mn));rw[M.gw];revert k;have d:({σ with form:=none}:N).mn={({σ with form:=none}:N)with gq:=(N.oE {σ with form:=none} vj ({σ with form:=none}:N).gq.reverse).reverse}:=rfl;rw[d];cases jR (some i) _ with
   |ok u σ2=>
    rintro⟨q,x,C,y⟩;have F:=a.trans x;refine⟨q,⟨F.ne h.ne,.inl ?_⟩,⟨F.gQ,F.qZ,F.sB,F.qu,?_,by rw[F.waiting];exact λ_ h=> .inl h,F.nm⟩,?_⟩;rw[F.mode];exact h.md;rw[F.waiting];show σ.waiting.length<=_;omega;rw[jx y.nodes];exact ZX (jx rfl)
   |stop c p=>exact λh=>h
   |stuck=>exact λh=>h
  exact⟨b,⟨h.ne,.inl h.md⟩,⟨rfl,rfl,rfl,rfl,A5 _,λ_ h=> .inl h,λ_ _ h=>h⟩,ZX (jx rfl)⟩
def Im(a:sN t.name=true):RB 288 σ (pJ t σ):=(jH.iM (Q:=λ_ _=>True) ((Hw h.iv h.ne a (by omega)).mono (ic _) (λ_ _ _ _ _=>trivial))).rb h.ne h.md
omit hw in
def RU:RB 0 σ (sx σ):=by
 have:jH 0 σ (sx σ) (λ_ _=>True):=by
  unfold sx;refine jH.bind (yf h.iv (gO [ie]) iI (by kernel_rfl)) (c2:=0) ?_ (by omega);rintro b d a e g _;cases b with
  |true=>exact(NM a).mono (ic _) (λ_ _ _ _ _=>trivial)
  |false=>exact⟨a,Fx.refl _,ic _,trivial⟩
 exact this.rb h.ne h.md
theorem DM(hs:t.chars.size<=100):RB 101 σ (jK t σ):=((qc h.iv h.ne t (by omega)).mono (by omega) (λ_ _ _ _ h=>h)).rb h.ne h.md
theorem Of(hs:t.chars.size<=100):RB 200 σ (nw t σ):=by
 unfold nw;split;grind[RB.mono,tI,td.iv,td.bU];have:jH 200 σ ((mx>>=λ_=>jK t>>=λ_=>(Pure.pure ():M Unit)) σ) (λ_ _=>True):=by
  refine jH.bind (pj h.iv h.ne (by omega)) (c2:=101) ?_ (by omega);rintro _ d b a e _;exact jH.iM ((qc b (a.ne h.ne) t (by omega)).mono (by omega) (λ_ _ _ _ _=>trivial))
 grind[jH.rb,td.ne,td.md]
theorem Kn(hs:t.chars.size<=100):RB 101 σ (oz t σ):=by
 unfold oz;grind[RB.tail,DM,RB.mono,tI,td.iv,td.bU]
end
def Jy(h:nU σ)(g:M (Nat×Nat))(e:∃d,g σ=.ok d σ/\Dy σ d)(t:gF)(hw:wt σ<999000):jH 1 σ (nj g t σ) (λ_ _=>True):=by
 have⟨a,b,k,gG⟩:=t;cases k with
 |gV s=>
  have⟨d,h1,h2⟩:=e;show jH 1 σ ((g>>=λd=>oR d _ .cm>>=λ_=>(Pure.pure ())) σ) _;rw[M.gw,h1];exact jH.iM ((IU h h2 _ .cm (.inl ⟨s,rfl,rfl⟩) (by omega)).mono (ic _) (λ_ _ _ _ _=>trivial))
 |kE s=>exact⟨h,Fx.refl _,A5 _,trivial⟩
 |start s=>exact⟨h,Fx.refl _,A5 _,trivial⟩
 |stop s=>exact⟨h,Fx.refl _,A5 _,trivial⟩
 |iH s q=>exact⟨h,Fx.refl _,A5 _,trivial⟩
 |lost=>exact⟨h,Fx.refl _,A5 _,trivial⟩
 |iw=>exact⟨h,Fx.refl _,A5 _,trivial⟩
theorem Cp(h:nU σ)(b:σ.gq≠[]):∃a,ky σ=.ok a σ/\Dy σ a:=by
 have⟨r,h⟩:=h;grind[IL]
theorem RM(h:nU σ):∃a,jg 0 σ=.ok a σ/\Dy σ a:=by
 have⟨e,he⟩:=Option.isSome_iff_exists.1 h.wA;exact⟨_,by unfold jg;rw[he],e,he,ic _⟩
def EB(σ:N)(r:qQ Bool):Prop:=match r with
 | .ok x σ'=>nU σ'/\σ'.gq≠[]/\rC σ'.mode=true/\(Lm σ σ'/\σ'.waiting=σ.waiting)/\wt σ'<=wt σ/\σ'.fresh=σ.fresh/\(x=true->σ'.gq.length<σ.gq.length)/\(x=false->σ'=σ)
 | .stop _ _=>False
 | .stuck=>False
theorem fA(σ:N):Lm σ σ:=⟨rfl,rfl,rfl,rfl,A5 _,by grind,by grind⟩
theorem EB.no(h:td σ):EB σ (.ok false σ):=⟨h.iv,h.ne,h.md,⟨fA σ,rfl⟩,ic _,rfl,by grind,λ_=>rfl⟩
def EB.VK(h:td σ)(p b:O->Bool)(X:p fN=false){k:Bool->M Bool}(U:k false=Pure.pure false)(ht:∀a,nU a->a.gq≠[]->∃d,k true a=.ok true d/\nU d/\d.gq=a.gq/\rC d.mode=true/\d.gQ=a.gQ/\d.qZ=a.qZ/\d.sB=a.sB/\d.qu=a.qu/\d.waiting=a.waiting/\d.nodes=a.nodes/\d.fresh=a.fresh):EB σ ((lK p b>>=k) σ):=by
 have R:=yf h.iv p b X;rw[M.gw];revert R;cases hq:lK p b σ with
 |ok x a=>
  rintro⟨i1,g,w1,q1,q2,q3⟩;dsimp only;cases x with
  |false=>
   rw[U];have e:=q3 rfl;subst e;exact EB.no h
  |true=>
   obtain⟨d,e,C,y,F,H,I,K,P,u,z,l⟩:=ht a i1 (g.ne h.ne);rw[e];refine⟨C,by rw[y];exact g.ne h.ne,F,⟨⟨H.trans g.gQ,I.trans g.qZ,K.trans g.sB,P.trans g.qu,?_,by rw[u,g.waiting];exact λ_ h=> .inl h,λi s q=>(g.nm i s q).nodes z⟩,u.trans g.waiting⟩,?_,l.trans q1.fresh,?_,λh=>by cases h⟩;rw[u,g.waiting];omega;rw[jx z];exact w1;intro _;rw[y];exact q2 rfl
 |stop c p=>unfold lK at hq;split at hq<;>cases hq
 |stuck=>exact λh=>h.elim
def Ei(h:td σ)(ks:List O)(m:Nat)(b:gO ks fN=false)(d:rC m=true):EB σ (rD ks m σ):=by
 refine EB.VK h _ _ b rfl ?_;intro a g e;exact⟨{a with mode:=m},rfl,g.lf rfl rfl rfl rfl rfl rfl rfl,rfl,d,rfl,rfl,rfl,rfl,rfl,rfl,rfl⟩
theorem zE(h:td σ)(ks:List O)(m:Nat)(C:gO ks fN=false)(F:rC m=true):EB σ (lL ks m σ):=by
 have z:=Ei h ks m C F;unfold lL;rw[M.gw];revert z;cases rD ks m σ with
 |ok x σ1=>
  rintro⟨d,g,e,⟨a,q⟩,l,k,b,u⟩;cases x with
  |false=>exact⟨d,g,e,⟨a,q⟩,l,k,b,u⟩
  |true=>
   obtain⟨y,H,I,K⟩:=NM d;exact⟨y,g,e,⟨⟨a.gQ,a.qZ,a.sB,a.qu,a.wt,a.wz,a.nm⟩,q⟩,l,k,b,by grind⟩
 |stop c p=>grind
 |stuck=>grind
theorem Xo(s:O):rC (gJ s)=true:=by
 grind[rC,gJ]
theorem J7(σ:N):∀a:kY,rC (rB σ a)=true
 |[]=>rfl
 |x::a=>by
  unfold rB;split;exact J7 σ a;grind[Xo]
def Wo(h:td σ)(p b:O->Bool)(e:p fN=false):EB σ ((lK p b>>=λb=>if b then (do yq;return true)else return false) σ):=by
 refine EB.VK h p b e rfl ?_;intro a g d;exact⟨{a with mode:=rB a _},rfl,g.lf rfl rfl rfl rfl rfl rfl rfl,rfl,J7 _ _,rfl,rfl,rfl,rfl,rfl,rfl,rfl⟩
theorem FX(h:td σ):EB σ (lc σ):=by
 unfold lc;split;rename_i d;have e:=yO h.iv _ (by kernel_rfl) d;obtain⟨a,b⟩:=IP h.iv e;refine⟨a.lf rfl rfl rfl rfl rfl rfl rfl,b.ne h.ne,rfl,⟨⟨rfl,rfl,rfl,rfl,A5 _,λ_ h=> .inl h,λ_ _ h=>h⟩,rfl⟩,ZX (jx rfl),rfl,λ_=>?_,by grind⟩;show σ.gq.dropLast.length<_;simp;omega;grind[EB.no]
structure x8(b:M Bool):Prop where
 ok:∀σ,td σ->EB σ (b σ)
def RP:x8 tX:=⟨λ_ h=>zE h _ _ (by kernel_rfl) rfl⟩
def aco:x8 endCell:=⟨λ_ h=>zE h _ _ (by kernel_rfl) rfl⟩
def afb:x8 Ej:=⟨λ_ h=>Ei h _ _ (by kernel_rfl) rfl⟩
def Ma:x8 qB:=⟨λ_ h=>Ei h _ _ (by kernel_rfl) rfl⟩
def Yx:x8 uR:=⟨λ_ h=>Wo h _ _ (by kernel_rfl)⟩
def UJ:x8 rh:=⟨λ_ h=>Wo h _ _ (by kernel_rfl)⟩
def Ij:x8 lc:=⟨λ_ h=>FX h⟩
def air{b:M Bool}(d:x8 b)(h:td σ):RB 0 σ (DJ b σ):=by
 have a:=d.ok σ h;unfold DJ;rw[M.gw];revert a;cases b σ with
 |ok x σ1=>rintro⟨e,l,k,⟨g,C⟩,q,z,u,y⟩;exact⟨e,⟨l,.inl k⟩,g,q⟩
 |stop c p=>simp[EB]
 |stuck=>simp[EB]
theorem Lm.trans{a b c:N}(h:Lm a b)(hw:b.waiting=a.waiting)(k:Lm b c):Lm a c:=⟨k.gQ.trans h.gQ,k.qZ.trans h.qZ,k.sB.trans h.sB,k.qu.trans h.qu,by have:=k.wt;grind,by grind[wz],λi s q=>k.nm i s (h.nm i s q)⟩
def aev{b:M Bool}(H:x8 b)(h:td σ){rec:Nat->gF->M Unit}(hr:∀σ',td σ'->σ'.gq.length<σ.gq.length->wt σ'<=wt σ->σ'.fresh=σ.fresh->σ'.waiting=σ.waiting->σ'.qZ=σ.qZ->RB c σ' (rec σ'.mode t σ')):RB c σ (ya rec b t σ):=by
 have C:=H.ok σ h;unfold ya;rw[M.gw];revert C;cases b σ with
 |ok x σ1=>
  rintro⟨d,g,e,⟨a,k⟩,K,I,l,P⟩;cases x with
  |false=>exact⟨d,⟨g,.inl e⟩,a,by omega⟩
  |true=>
   have F:RB c σ1 ((jF rec t>>=λ_=>(Pure.pure ())) σ1):=RB.tail (hr σ1 ⟨d,g,e⟩ (l rfl) K I k a.qZ);show RB c σ ((jF rec t>>=λ_=>(Pure.pure ())) σ1);revert F;cases(jF rec t>>=λ_=>(Pure.pure ())) σ1 with
   |ok u σ2=>rintro⟨q,y,z,R⟩;exact⟨q,y,a.trans k z,by omega⟩
   |stop c p=>exact λh=>Tu h a.gQ
   |stuck=>simp[RB]
 |stop c p=>simp[EB]
 |stuck=>simp[EB]
section
variable {σ:N}{t:gF}(h:td σ)(hw:wt σ<999000)
include h hw
theorem QK(a:po σ t)(ks:List O)(m:Nat)(k:rC m=true):RB 1 σ (vp ks m t σ):=by
 refine RB.bind (yN h.iv _) (c2:=1) ?_ (by omega);rintro _ g d b l e;refine RB.bind (kC d (b.ne h.ne) (by omega) t a.tag (e.fresh.trans a.fr)) (c2:=0) ?_ (by omega);grind[SN,Fx.ne,td.ne]
def KF(d:po σ t):RB 1 σ (pA t σ):=by
 refine RB.bind (yN h.iv _) (c2:=1) ?_ (by omega);rintro _ u g a z p;refine RB.bind (xk g none (λ_ h=>by cases h)) (c2:=1) ?_ (by omega);rintro _ x k b C q;refine RB.bind (kC k (b.ne (a.ne h.ne)) (by omega) t d.tag (q.fresh.trans (p.fresh.trans d.fr))) (c2:=0) ?_ (by omega);rintro _ y l e F _;exact SN l (e.ne (b.ne (a.ne h.ne))) 9 rfl
def AV(e:po σ t):RB 1 σ (rq t σ):=by
 refine RB.bind (yN h.iv _) (c2:=1) ?_ (by omega);rintro _ H y d I F;refine RB.bind (kC y (d.ne h.ne) (by omega) t e.tag (F.fresh.trans e.fr)) (c2:=0) ?_ (by omega);rintro _ b z g K _;have C:nU {b with mode:=13}:=z.lf rfl rfl rfl rfl rfl rfl rfl;have x:=(jH.iM (Q:=λ_ _=>True) ((xk C none (λ_ h=>by cases h)).mono (ic _) (λ_ _ _ _ _=>trivial))).rb (g.ne (d.ne h.ne)) rfl;show RB 0 b ((km none>>=λ_=>(Pure.pure ())) _);revert x;cases(km none>>=λ_=>(Pure.pure ())) _ with
 |ok u σ4=>rintro⟨k,l,a,q⟩;exact⟨k,l,⟨a.gQ,a.qZ,a.sB,a.qu,a.wt,a.wz,a.nm⟩,q⟩
 |stop c p=>exact λh=>h
 |stuck=>exact λh=>h
theorem DC(e:po σ t)(y:t.name=iQ):RB 1 σ (lA t σ):=by
 unfold lA;cases hf:σ.form with
 |some d=>exact(tI h.iv h.bU).mono (by omega)
 |none=>
  refine RB.bind (kC h.iv h.ne (by omega) t e.tag e.fr) (c2:=0) ?_ (by omega);rintro _ a l b z⟨j,q⟩;refine RB.bind (zN l (Gu q h.ne)) (c2:=0) ?_ (by omega);rintro x u p g C⟨rfl,rfl⟩;refine⟨p.SU _ ?_,⟨g.ne (b.ne h.ne),.inl ?_⟩,⟨rfl,rfl,rfl,rfl,A5 _,by grind,λ_ _ h=>h⟩,ZX (jx rfl)⟩;intro d k;rw[Gt q]at k;grind[Fx.nm,Jl.nm];show rC a.mode=true;rw[b.mode];exact h.md
def wm(a:po σ t):RB 1 σ (kN t σ):=(rK h.iv h.ne (by omega) t a.tag a.fr).rb h.ne h.md
theorem AW(a:po σ t):RB 1 σ (kg t σ):=by
 have:jH 1 σ (kg t σ) (λ_ _=>True):=by
  refine jH.bind (vT h.iv _ (by kernel_rfl)) (c2:=1) ?_ (by omega);rintro _ g d b k e;exact jH.iM ((kC d (b.ne h.ne) (by omega) t a.tag (e.fresh.trans a.fr)).mono (ic _) (λ_ _ _ _ _=>trivial))
 grind[jH.rb,td.ne,td.md]
theorem sP(a:po σ t):jH 1 σ (ju t σ) (λ_ σ'=>2<=σ'.gq.length):=by
 refine jH.bind (vT h.iv _ (by kernel_rfl)) (c2:=1) ?_ (by omega);rintro _ p e b u k;refine jH.bind (vT e _ (by kernel_rfl)) (c2:=1) ?_ (by omega);rintro _ q g d x l;refine jH.iM ((kC g (d.ne (b.ne h.ne)) (by omega) t a.tag (l.fresh.trans (k.fresh.trans a.fr))).mono (ic _) ?_);grind[Gu,Fx.ne,td.ne]
def zn(a:po σ t):RB 1 σ (ju t σ):=(sP h hw a).rb h.ne h.md
theorem Ff(a:po σ t):RB 1 σ (lW t σ):=by
 have:jH 1 σ (lW t σ) (λ_ _=>True):=by
  refine jH.bind (sP h hw a) (c2:=0) ?_ (by omega);rintro _ e b g k d;exact jH.iM ((zN b d).mono (ic _) (λ_ _ _ _ _=>trivial))
 grind[jH.rb,td.ne,td.md]
omit hw in
def BW:RB 0 σ (mF σ):=(jH.iM (Q:=λ_ _=>True) ((vT h.iv (gO [gL]) (by kernel_rfl)).mono (ic _) (λ_ _ _ _ _=>trivial))).rb h.ne h.md
omit hw in
theorem Av:RB 0 σ (jf σ):=by
 have d:∀b,nU b->jH 0 b ((pM (gO [gp])>>=λ_=>(Pure.pure ():M Unit)) b) (λ_ _=>True):=λb l=>
  jH.iM (Q:=λ_ _=>True) ((vT l (gO [gp]) (by kernel_rfl)).mono (ic _) (λ_ _ _ _ _=>trivial))
 have:jH 0 σ (jf σ) (λ_ _=>True):=by
  unfold jf;split;rename_i g;have k:=yO h.iv _ (by kernel_rfl) g;have⟨r,hr⟩:=id h.iv;have⟨i,e,h1,h2,h3,h4⟩:=Sl hr h.ne;rw[List.getLast?_eq_getElem?]at h3;have⟨a,ha1,ha2⟩:=hr.Ua h3 (by omega);have hg:iC σ.gq (posOf σ.gq σ.last-1)=some a:=by
   rw[h1];unfold ahead at ha1;split at ha1;grind;cases ha1
  rw[hg];dsimp only;split;refine jH.bind (zN h.iv k) (c2:=0) ?_ (by omega);grind;exact d σ h.iv;exact d σ h.iv
 exact this.rb h.ne h.md
end
def alY(v:gP):Prop:=v=.nilFunc\/∃k a l,v=.func k a l
def tZ:List gP->gP
 |[]=> .func (.func 88) #[] #[]
 | .nilFunc::r=>tZ r
 |v::_=>v
theorem UQ(g x:Nat)(vs:List gP)(w:J)(hg:w.heap[g]?=some (gH vs.toArray 164))(hv:∀v∈vs,alY v)(X:vs.length<=4096):
  Calls prog 307 #[nX g vs.length x] w λe w'=>e=iA (tZ vs)/\w'=w:=by
 obtain⟨m,U⟩:∃m,m=tZ vs:=⟨_,rfl⟩;rw[<-U];have I:=hv;have F:=V hg;obtain⟨n,p⟩:∃n,n=vs.length:=⟨_,rfl⟩;rw[<-p]at X|-;have H:=V p;clear hg p;go_enter func307,ntmps307;go_wp21
 go_loopw [7] (λv wr=>∃k:Nat,v=G k/\k<=n/\tZ (vs.drop k)=m/\wr=w) (λv _=>n-(intOf v).toNat)
 case atStart=>grind
 case round=>
  obtain⟨k,rfl,hk,d,rfl⟩:=hrel;have HF:=d;by_cases z:k<n
  .have b:k<vs.length:=by rw[<-H.out];exact z
   have R:=NW b;have P:wr.cell? ⟨g,k,none⟩=some vs[k]:=by rw[fP F.out];simp[b]
   have C:=I vs[k] (wK b);rw[R]at d;generalize vs[k]=u at d P C;rcases C with rfl|⟨f,a,l,rfl⟩
   .have q:=V d;clear d;go_wp21;rename_i K y;refine y _ _ ?_;simp only[Bool.not_true];go_wp2;go_roundw
    case rel=>exact⟨k+1,by go_num,by omega,q,trivial⟩
    case measure=>simp[intOf];omega
   .have q:=V d;clear d;go_wp21;rename_i K y;refine y _ _ ?_;simp only[Bool.not_false];go_wp2;go_ret;exact⟨by rw[<-q.out];rfl,rfl⟩
  .rw[(List.drop_eq_nil_of_le (by grind[Hid.out]))]at d;have q:=V d;clear d;go_wp2;go_ret;exact⟨by rw[<-q.out];rfl,rfl⟩
def jv:List Ru->Ru
 |[]=> .nothing
 | .nil::r=>jv r
 |x::_=>x
def ux:Option (List (List O×Ru))->O->Ru
 |none,_=> .nil
 |some R,k=>(oZ R k).getD .nil
def iS(sp:nc)(t:gF):Ru:=match t.k with
 | .kE s=>if mJ s then jv [sp.blank,sp.kE,sp.iy]else jv [sp.kE,sp.iy]
 | .gV _=>jv [sp.gV,sp.iy]
 | .iH _ _=>jv [sp.iH,sp.iy]
 | .start n=>jv [ux sp.start n,sp.jS,sp.iy]
 | .stop n=>jv [ux sp.stop n,sp.kR,sp.iy]
 | .lost=>jv [sp.iw,sp.iy]
 | .iw=>jv [sp.iw,sp.iy]
theorem oI.eA{r:Ru}(h:oI bm bB bD r v w):(r=.nil/\v=.nilFunc)\/(r≠ .nil/\∃k a l,v=.func k a l):=by
 cases r with
 |nil=>exact .inl ⟨rfl,h⟩
 |nothing=>exact .inr ⟨by simp,_,_,_,h⟩
 |iq f=>exact .inr ⟨by simp,_,_,_,h⟩
 |o9 m=>have⟨b1,b2,e,_⟩:=h;grind
 |gV pf own=>have⟨b1,e,_⟩:=h;grind
 |ahead f=>have⟨b1,b2,e,_⟩:=h;grind
 |ends f=>have⟨b1,e,_⟩:=h;grind
 |Sc r=>have⟨b1,b2,u,e,_⟩:=h;grind
 |sZ ks m=>have⟨b1,b2,b3,u,e,_⟩:=h;grind
 |oX ks n m=>have⟨b1,b2,b3,b4,u,e,_⟩:=h;grind
 |item ks=>have⟨b1,b2,b3,u1,u2,e,_⟩:=h;grind
theorem oI.fv{r:Ru}(h:oI bm bB bD r v w):alY v:=by
 rcases h.eA with⟨_,e⟩|⟨_,e⟩;exact .inl e;exact .inr e
inductive x7(bm bB bD:Nat)(w:J):List Ru->List gP->Prop
 |nil:x7 bm bB bD w [] []
 |cons {r:Ru} {v:gP} {rs:List Ru} {vs:List gP} (h:oI bm bB bD r v w) (t:x7 bm bB bD w rs vs):x7 bm bB bD w (r::rs) (v::vs)
theorem x7.first(h:x7 bm bB bD w rs vs):oI bm bB bD (jv rs) (tZ vs) w:=by
 induction h with
 |nil=>rfl
 |@cons r v rs vs h t ih=>
  rcases h.eA with⟨rfl,rfl⟩|⟨hr,k,a,l,rfl⟩
  all_goals grind[jv,tZ]
theorem x7.eA(h:x7 bm bB bD w rs vs):∀v∈vs,alY v:=by
 induction h with
 |nil=>simp
 |cons h t ih=>grind[oI.fv]
def vP(h:x7 bm bB bD w rs vs)(a:vs.length<=4096){g:Nat}(hg:W.heap.size=g):
  Calls prog 307 #[nX g vs.length vs.length] (W.alloc (gH vs.toArray 164)) λe w'=>e=iA (tZ vs)/\w'=W.alloc (gH vs.toArray 164):=by
 subst hg;exact UQ _ _ vs _ (fU _ _) h.eA a
def alq(h:v.oneCell'=true):v.cells=#[v]:=by
 cases v<;>first|rfl|(simp[Value.oneCell']at h)
def xX{a b d e g k l p q u:gP}(h:∀v∈[a,b,d,e,g,k,l,p,q,u],v.oneCell'=true):a.cells=#[a]/\b.cells=#[b]/\d.cells=#[d]/\e.cells=#[e]/\g.cells=#[g]/\k.cells=#[k]/\l.cells=#[l]/\p.cells=#[p]/\q.cells=#[q]/\u.cells=#[u]:=by
 refine⟨?_,?_,?_,?_,?_,?_,?_,?_,?_,?_⟩<;>exact alq (h _ (by simp))
def I8(w:J)(o a:Obj):((w.alloc o).alloc a).heap[w.heap.size]?=some o:=(Below.heap_alloc _ _ _ (by simp)).trans (fU w _)
def ai9(E:Env)(bB bD a b:Nat)(s:O)(gG:lu)(sp:nc)(u l x y z C F H I p:gP)(w:J)(h:lG E.bm bB bD sp u l x y z C F H I p w):
  Calls prog 255 #[.agg #[u,l,x,y,z,C,F,H,I,p],iG E ⟨a,b,.kE s,gG⟩] w λe w'=>∃v,e=iA v/\oI E.bm bB bD (iS sp ⟨a,b,.kE s,gG⟩) v w/\Z [] w w':=by
 have⟨k0,k1,k2,k3,k4,k5,k6,k7,k8,k9⟩:=xX h.one;have k:=V h;clear h;have HG:=V (λo=>I8 w (gH #[u,l,x,y,z,C,F,H,I,p] 168) o);have U:=V (fU w (gH #[u,l,x,y,z,C,F,H,I,p] 168));have K:=V (λo=>((Z.refl [] w).alloc (gH #[u,l,x,y,z,C,F,H,I,p] 168)).alloc o);have X:=V ((Z.refl [] w).alloc (gH #[u,l,x,y,z,C,F,H,I,p] 168));simp only[iG];have R:=rX underlying184;have HB:=V (λW=>MA s W);go_enter func255,ntmps255;go_wp21;refine(HB.out _).mono ?_;rintro e w1⟨rfl,q⟩;have P:=q.at (HG.out _) (by simp);have HK:=V ((K.out _).trans q);have q0:=fP P 0;have q1:=fP P 1;have q9:=fP P 9;dsimp at q0 q1 q9;clear P q HG U K X HB;have f0:=k.out.blank.fv;have f1:=k.out.kE.fv;have f9:=k.out.iy.fv;cases hb:mJ s with
 |true=>
  have hr:iS sp ⟨a,b,.kE s,gG⟩=jv [sp.blank,sp.kE,sp.iy]:=by simp[iS,hb]
  have d:Hid (x7 E.bm bB bD w _ [u,l,p]):=V (.cons k.out.blank (.cons k.out.kE (.cons k.out.iy (.nil))));have HR:=V hr;clear hr hb;rcases f0 with rfl|⟨k0,a0,l0,rfl⟩
  all_goals rcases f1 with rfl|⟨k1,a1,l1,rfl⟩
  all_goals rcases f9 with rfl|⟨k9,a9,l9,rfl⟩
  all_goals go_wp21
  all_goals refine(vP d.out (by simp) (by simp)).mono ?_
  all_goals rintro e w3⟨rfl,rfl⟩
  all_goals have g:=V d.out.first
  all_goals simp only[tZ]at g|-
  all_goals go_wp2
  all_goals go_ret
  all_goals exact⟨_,rfl,HR.out▸g.out,HK.out.alloc _⟩
 |false=>
  have hr:iS sp ⟨a,b,.kE s,gG⟩=jv [sp.kE,sp.iy]:=by simp[iS,hb]
  have d:Hid (x7 E.bm bB bD w _ [l,p]):=V (.cons k.out.kE (.cons k.out.iy (.nil)));have HR:=V hr;clear hr hb;rcases f1 with rfl|⟨k1,a1,l1,rfl⟩
  all_goals rcases f9 with rfl|⟨k9,a9,l9,rfl⟩
  all_goals go_wp21
  all_goals refine(vP d.out (by simp) (by simp)).mono ?_
  all_goals rintro e w3⟨rfl,rfl⟩
  all_goals have g:=V d.out.first
  all_goals simp only[tZ]at g|-
  all_goals go_wp2
  all_goals go_ret
  all_goals exact⟨_,rfl,HR.out▸g.out,HK.out.alloc _⟩
def Zc(E:Env)(bB bD a b:Nat)(gG:lu)(sp:nc)(y z C F q H I K P u:gP)(w:J)(h:lG E.bm bB bD sp y z C F q H I K P u w):
  Calls prog 255 #[.agg #[y,z,C,F,q,H,I,K,P,u],iG E ⟨a,b,.iw,gG⟩] w λe w'=>∃v,e=iA v/\oI E.bm bB bD (iS sp ⟨a,b,.iw,gG⟩) v w/\Z [] w w':=by
 have U:=V h;clear h;have HG:=V (λo=>I8 w (gH #[y,z,C,F,q,H,I,K,P,u] 168) o);have k:=V (fU w (gH #[y,z,C,F,q,H,I,K,P,u] 168));have a0:=V (λo=>((Z.refl [] w).alloc (gH #[y,z,C,F,q,H,I,K,P,u] 168)).alloc o);have a1:=V ((Z.refl [] w).alloc (gH #[y,z,C,F,q,H,I,K,P,u] 168));simp only[iG];have X:=wT;have l:=uy;have p:=xS;have g:=rO;have x:=zI;have q4:=fP k.out 4;have q9:=fP k.out 9;dsimp at q4 q9;clear HG k a0;have d:Hid (x7 E.bm bB bD w _ [q,u]):=V (.cons U.out.iw (.cons U.out.iy (.nil)));have f4:=U.out.iw.fv;have f9:=U.out.iy.fv;go_enter func255,ntmps255;rcases f4 with rfl|⟨k4,a4,l4,rfl⟩
 all_goals rcases f9 with rfl|⟨k9,a9,l9,rfl⟩
 all_goals go_wp21
 all_goals refine(vP d.out (by simp) (by simp)).mono ?_
 all_goals rintro e w3⟨rfl,rfl⟩
 all_goals have R:=V d.out.first
 all_goals simp only[tZ]at R|-
 all_goals go_wp2
 all_goals go_ret
 all_goals exact⟨_,rfl,R.out,a1.out.alloc _⟩
def QX(w:J):(zeroValue 164).run prog w=.ok .nilFunc w:=by simp
theorem Vr{R:Option (List (List O×Ru))}(h:sU bm bB bD R v w)(n:O):
  ∃u,(∀w',Z [] w w'->(Instr.lookup 166 v (Y n) false).run prog w'=.ok u w')/\oI bm bB bD (ux R n) u w:=by
 cases R with
 |none=>
  obtain rfl:=h;refine⟨.nilFunc,λw' _=>?_,rfl⟩;have d:∀x,(Instr.checkKey x 10000 9 (Y n)).run prog w'=.ok () w':=λx=>rfl;simp[Instr.lookup,d,Instr.findKey,Instr.findNow,Result.andThen]
 |some R=>
  obtain⟨b,L,rfl,a,hr⟩:=h;refine⟨(Bw L n).getD .nilFunc,λw' e=>IY (by simp) QX (a.keeps (e.block b a.lt (by simp))) n,?_⟩;grind[oI,ux]
def agq(E:Env)(bB bD a b:Nat)(n:O)(gG:lu)(sp:nc)(l p q y z k C d F g:gP)(w:J)(h:lG E.bm bB bD sp l p q y z k C d F g w)(H:∃x m c,E.tv=.slice x m c):
  Calls prog 255 #[.agg #[l,p,q,y,z,k,C,d,F,g],iG E ⟨a,b,.start n,gG⟩] w λe w'=>∃v,e=iA v/\oI E.bm bB bD (iS sp ⟨a,b,.start n,gG⟩) v w/\Z [] w w':=by
 have⟨k0,k1,k2,k3,k4,k5,k6,k7,k8,k9⟩:=xX h.one;have HI:=V h;clear h;have HG:=V (λo=>I8 w (gH #[l,p,q,y,z,k,C,d,F,g] 168) o);have a4:=V (fU w (gH #[l,p,q,y,z,k,C,d,F,g] 168));have P:=V (λo=>((Z.refl [] w).alloc (gH #[l,p,q,y,z,k,C,d,F,g] 168)).alloc o);have a6:=V ((Z.refl [] w).alloc (gH #[l,p,q,y,z,k,C,d,F,g] 168));simp only[iG];have⟨x0,m0,c0,H⟩:=H;rw[H];clear H;have a3:=wT;have X:=uy;have a0:=xS;have K:=rX underlying192;have⟨u,hlk,hu⟩:=Vr HI.out.start n;have a8:=V hlk;have U:=hlk ((w.alloc (gH #[l,p,q,y,z,k,C,d,F,g] 168)).alloc (gH #[G a,G b,Y n,.slice x0 m0 c0] 192)) (P.out _);have gB:=HG.out (gH #[G a,G b,Y n,.slice x0 m0 c0] 192);have gT:=fU (w.alloc (gH #[l,p,q,y,z,k,C,d,F,g] 168)) (gH #[G a,G b,Y n,.slice x0 m0 c0] 192);have a2:=V (P.out (gH #[G a,G b,Y n,.slice x0 m0 c0] 192));obtain⟨W,R⟩:∃W,W=((w.alloc (gH #[l,p,q,y,z,k,C,d,F,g] 168)).alloc (gH #[G a,G b,Y n,.slice x0 m0 c0] 192)):=⟨_,rfl⟩;have hz:(w.alloc (gH #[l,p,q,y,z,k,C,d,F,g] 168)).heap.size=w.heap.size+1:=by simp
 rw[hz]at gT;have q5:W.cell? ⟨w.heap.size,5,none⟩=some k:=by rw[R,fP gB];rfl
 have q7:W.cell? ⟨w.heap.size,7,none⟩=some d:=by rw[R,fP gB];rfl
 have q9:W.cell? ⟨w.heap.size,9,none⟩=some g:=by rw[R,fP gB];rfl
 have qn:W.cell? ⟨w.heap.size+1,2,none⟩=some (Y n):=by rw[R,fP gT];rfl
 rw[<-R]at a2 U;have HW:=V R.symm;clear gB gT HG a4 P a6 hlk R hz a8;have hr:iS sp ⟨a,b,.start n,gG⟩=jv [ux sp.start n,sp.jS,sp.iy]:=rfl;have I:Hid (x7 E.bm bB bD w _ [u,d,g]):=V (.cons hu (.cons HI.out.jS (.cons HI.out.iy (.nil))));have HR:=V hr;clear hr;have f5:=hu.fv;have f7:=HI.out.jS.fv;have f9:=HI.out.iy.fv;clear hu;go_enter func255,ntmps255;go_wp21;rw[HW.out];go_wp21;rw[U];clear U;rcases f5 with rfl|⟨k5,a5,l5,rfl⟩
 all_goals rcases f7 with rfl|⟨k7,a7,l7,rfl⟩
 all_goals rcases f9 with rfl|⟨k9,a9,l9,rfl⟩
 all_goals go_wp2_with fail
 all_goals refine(vP I.out (by simp) (by simp)).mono ?_
 all_goals rintro e w3⟨rfl,rfl⟩
 all_goals have a1:=V I.out.first
 all_goals simp only[tZ]at a1|-
 all_goals go_wp2
 all_goals go_ret
 all_goals exact⟨_,rfl,HR.out▸a1.out,a2.out.alloc _⟩
def aja(E:Env)(bB bD a b:Nat)(n:O)(gG:lu)(sp:nc)(l p q y z C k F d g:gP)(w:J)(h:lG E.bm bB bD sp l p q y z C k F d g w)(H:∃x m c,E.tv=.slice x m c):
  Calls prog 255 #[.agg #[l,p,q,y,z,C,k,F,d,g],iG E ⟨a,b,.stop n,gG⟩] w λe w'=>∃v,e=iA v/\oI E.bm bB bD (iS sp ⟨a,b,.stop n,gG⟩) v w/\Z [] w w':=by
 have⟨k0,k1,k2,k3,k4,k5,k6,k7,k8,k9⟩:=xX h.one;have HI:=V h;clear h;have HG:=V (λo=>I8 w (gH #[l,p,q,y,z,C,k,F,d,g] 168) o);have a6:=V (fU w (gH #[l,p,q,y,z,C,k,F,d,g] 168));have P:=V (λo=>((Z.refl [] w).alloc (gH #[l,p,q,y,z,C,k,F,d,g] 168)).alloc o);have a7:=V ((Z.refl [] w).alloc (gH #[l,p,q,y,z,C,k,F,d,g] 168));simp only[iG];have⟨x0,m0,c0,H⟩:=H;rw[H];clear H;have a4:=wT;have X:=uy;have a0:=xS;have K:=rO;have a1:=rX underlying193;have⟨u,hlk,hu⟩:=Vr HI.out.stop n;have aa:=V hlk;have U:=hlk ((w.alloc (gH #[l,p,q,y,z,C,k,F,d,g] 168)).alloc (gH #[G a,G b,Y n,.slice x0 m0 c0] 193)) (P.out _);have gB:=HG.out (gH #[G a,G b,Y n,.slice x0 m0 c0] 193);have gT:=fU (w.alloc (gH #[l,p,q,y,z,C,k,F,d,g] 168)) (gH #[G a,G b,Y n,.slice x0 m0 c0] 193);have a3:=V (P.out (gH #[G a,G b,Y n,.slice x0 m0 c0] 193));obtain⟨W,R⟩:∃W,W=((w.alloc (gH #[l,p,q,y,z,C,k,F,d,g] 168)).alloc (gH #[G a,G b,Y n,.slice x0 m0 c0] 193)):=⟨_,rfl⟩;have hz:(w.alloc (gH #[l,p,q,y,z,C,k,F,d,g] 168)).heap.size=w.heap.size+1:=by simp
 rw[hz]at gT;have q6:W.cell? ⟨w.heap.size,6,none⟩=some k:=by rw[R,fP gB];rfl
 have q8:W.cell? ⟨w.heap.size,8,none⟩=some d:=by rw[R,fP gB];rfl
 have q9:W.cell? ⟨w.heap.size,9,none⟩=some g:=by rw[R,fP gB];rfl
 have qn:W.cell? ⟨w.heap.size+1,2,none⟩=some (Y n):=by rw[R,fP gT];rfl
 rw[<-R]at a3 U;have HW:=V R.symm;clear gB gT HG a6 P a7 hlk R hz aa;have hr:iS sp ⟨a,b,.stop n,gG⟩=jv [ux sp.stop n,sp.kR,sp.iy]:=rfl;have I:Hid (x7 E.bm bB bD w _ [u,d,g]):=V (.cons hu (.cons HI.out.kR (.cons HI.out.iy (.nil))));have HR:=V hr;clear hr;have f5:=hu.fv;have f8:=HI.out.kR.fv;have f9:=HI.out.iy.fv;clear hu;go_enter func255,ntmps255;go_wp21;rw[HW.out];go_wp21;rw[U];clear U;rcases f5 with rfl|⟨k5,a5,l5,rfl⟩
 all_goals rcases f8 with rfl|⟨k8,a8,l8,rfl⟩
 all_goals rcases f9 with rfl|⟨k9,a9,l9,rfl⟩
 all_goals go_wp2_with fail
 all_goals refine(vP I.out (by simp) (by simp)).mono ?_
 all_goals rintro e w3⟨rfl,rfl⟩
 all_goals have a2:=V I.out.first
 all_goals simp only[tZ]at a2|-
 all_goals go_wp2
 all_goals go_ret
 all_goals exact⟨_,rfl,HR.out▸a2.out,a3.out.alloc _⟩
def Y9(E:Env)(bB bD a b:Nat)(s:O)(gG:lu)(sp:nc)(p q k u x y z C F l:gP)(w:J)(h:lG E.bm bB bD sp p q k u x y z C F l w):
  Calls prog 255 #[.agg #[p,q,k,u,x,y,z,C,F,l],iG E ⟨a,b,.gV s,gG⟩] w λe w'=>∃v,e=iA v/\oI E.bm bB bD (iS sp ⟨a,b,.gV s,gG⟩) v w/\Z [] w w':=by
 have⟨k0,k1,k2,k3,k4,k5,k6,k7,k8,k9⟩:=xX h.one;have K:=V h;clear h;have HG:=V (λo=>I8 w (gH #[p,q,k,u,x,y,z,C,F,l] 168) o);have R:=V (fU w (gH #[p,q,k,u,x,y,z,C,F,l] 168));have I:=V (λo=>((Z.refl [] w).alloc (gH #[p,q,k,u,x,y,z,C,F,l] 168)).alloc o);have U:=V ((Z.refl [] w).alloc (gH #[p,q,k,u,x,y,z,C,F,l] 168));simp only[iG];have P:=wT;have g:=rX underlying194;have gB:=HG.out (gH #[G a,G b,Y s] 194);have X:=V (I.out (gH #[G a,G b,Y s] 194));have q2:=fP gB 2;have q9:=fP gB 9;dsimp at q2 q9;clear gB HG R I U;have d:Hid (x7 E.bm bB bD w _ [k,l]):=V (.cons K.out.gV (.cons K.out.iy (.nil)));have f2:=K.out.gV.fv;have f9:=K.out.iy.fv;go_enter func255,ntmps255;rcases f2 with rfl|⟨k2,a2,l2,rfl⟩
 all_goals rcases f9 with rfl|⟨k9,a9,l9,rfl⟩
 all_goals go_wp21
 all_goals refine(vP d.out (by simp) (by simp)).mono ?_
 all_goals rintro e w3⟨rfl,rfl⟩
 all_goals have H:=V d.out.first
 all_goals simp only[tZ]at H|-
 all_goals go_wp2
 all_goals go_ret
 all_goals exact⟨_,rfl,H.out,X.out.alloc _⟩
def Za(E:Env)(bB bD a b:Nat)(n:O)(q:Bool)(gG:lu)(sp:nc)(u x y l z C F H I p:gP)(w:J)(h:lG E.bm bB bD sp u x y l z C F H I p w):
  Calls prog 255 #[.agg #[u,x,y,l,z,C,F,H,I,p],iG E ⟨a,b,.iH n q,gG⟩] w λe w'=>∃v,e=iA v/\oI E.bm bB bD (iS sp ⟨a,b,.iH n q,gG⟩) v w/\Z [] w w':=by
 have⟨k0,k1,k2,k3,k4,k5,k6,k7,k8,k9⟩:=xX h.one;have R:=V h;clear h;have HG:=V (λo=>I8 w (gH #[u,x,y,l,z,C,F,H,I,p] 168) o);have X:=V (fU w (gH #[u,x,y,l,z,C,F,H,I,p] 168));have P:=V (λo=>((Z.refl [] w).alloc (gH #[u,x,y,l,z,C,F,H,I,p] 168)).alloc o);have a0:=V ((Z.refl [] w).alloc (gH #[u,x,y,l,z,C,F,H,I,p] 168));simp only[iG];have U:=wT;have g:=uy;have k:=rX underlying196;have gB:=HG.out (gH #[G a,G b,Y n,.bool q] 196);have a1:=V (P.out (gH #[G a,G b,Y n,.bool q] 196));have q3:=fP gB 3;have q9:=fP gB 9;dsimp at q3 q9;clear gB HG X P a0;have d:Hid (x7 E.bm bB bD w _ [l,p]):=V (.cons R.out.iH (.cons R.out.iy (.nil)));have f3:=R.out.iH.fv;have f9:=R.out.iy.fv;go_enter func255,ntmps255;rcases f3 with rfl|⟨k3,a3,l3,rfl⟩
 all_goals rcases f9 with rfl|⟨k9,a9,l9,rfl⟩
 all_goals go_wp21
 all_goals refine(vP d.out (by simp) (by simp)).mono ?_
 all_goals rintro e w3⟨rfl,rfl⟩
 all_goals have K:=V d.out.first
 all_goals simp only[tZ]at K|-
 all_goals go_wp2
 all_goals go_ret
 all_goals exact⟨_,rfl,K.out,a1.out.alloc _⟩
def Leaves.k0{α:Type}{r:qQ α}{b:(Nat->Nat)->α->gP}{e:Ending}(h:Leaves E f n w' r b e W)(d:Z [] w w'):Leaves E f n w r b e W:=by
 cases r with
 |ok a σ'=>have⟨g,h1,h2,h3,h4,h5⟩:=h;exact⟨g,h1,h2,h3,h4,(Fr.ib d).trans h5⟩
 |stop c p=>have⟨k,h1,h2,h3⟩:=h;exact⟨k,h1,h2,(Fr.ib d).trans h3⟩
 |stuck=>exact h
def akn(E:Env)(t:gF):Prop:=∀(bB bD:Nat)(a:nc)(b d g k l p q u x y:gP)(w:J),lG E.bm bB bD a b d g k l p q u x y w->
  Calls prog 255 #[.agg #[b,d,g,k,l,p,q,u,x,y],iG E t] w λe w'=>∃v,e=iA v/\oI E.bm bB bD (iS a t) v w/\Z [] w w'
def ni(E:Env)(r:Ru)(t:gF)(m:M Unit):Prop:=∀v f σ w,RF E f σ w->oI E.bm E.bB (f 0) r v w->m σ≠ .stuck->
  ∃k bs b,v=.func (.func k) bs b/\(∀a w,(callFunc k a).run prog w=.ok (.enter k a) w)/\Calls prog k (bs++#[iG E t]++b) w (Leaves E f σ.nodes.length w (m σ) uV)
def db(a:Ru->gF->M Unit)(m:Nat)(t:gF):M Unit:=match yV[m]? with
 |some sp=>a (iS sp t) t
 |none=>stuck
theorem RF.J8(h:RF E f σ w){m:Nat}{sp:nc}(F:yV[m]?=some sp):∃d g k l p q u x y z,lG E.bm E.bB (f 0) sp d g k l p q u x y z w/\
  (∀j,j<10->w.cell? ⟨E.bB,4+m*10+j,none⟩=[d,g,k,l,p,q,u,x,y,z][j]?):=by
 obtain⟨L,rfl,hr⟩:=h;have⟨cs,hcs,hlen,hru⟩:=hr.env.J8;have⟨d,g,k,l,p,q,u,x,y,z,e,hi⟩:=hru m sp F;have H:m<18:=(List.getElem?_eq_some_iff.1 F).1;refine⟨d,g,k,l,p,q,u,x,y,z,?_,?_⟩
 .have a:=hr.fr.n E.bm;have I:∀{R:Option _} {v:gP},sU E.bm E.bB (L.gQ 0) R v E.w0->sU E.bm E.bB (L.gQ 0) R v w:=by
   intro R v h;cases R with
   |none=>exact h
   |some R=>have⟨b,hb⟩:=h;exact⟨b,hb.fr a (hr.fr.calm (.inl hb.at))⟩
  exact⟨hi.blank.fr a,hi.kE.fr a,hi.gV.fr a,hi.iH.fr a,hi.iw.fr a,I hi.start,I hi.stop,hi.jS.fr a,hi.kR.fr a,hi.iy.fr a⟩
 intro j K;have⟨C,hb,hC⟩:=hr.il;rw[fP hb,hC.low _ (by omega),<-e];grind
def aha(E:Env)(x:Ru->gF->M Unit)(t:gF)(X:akn E t)(hR:∀r,ni E r t (x r t))(m:Nat):jk E 162 (λ_=>#[Bp E,G m,iG E t]) (db x m t) uV:=by
 intro f σ w h d;unfold db at d|-;cases hm:yV[m]? with
 |none=>rw[hm]at d;exact absurd rfl d
 |some sp=>
  rw[hm]at d;simp only[]at d|-;have z:m<18:=(List.getElem?_eq_some_iff.1 hm).1;have⟨v0,v1,v2,v3,v4,v5,v6,v7,v8,v9,hi,hc⟩:=h.J8 hm;have q0:w.cell? ⟨E.bB,4+m*10,none⟩=some v0:=hc 0 (by decide);have q2:w.cell? ⟨E.bB,4+m*10+2,none⟩=some v2:=hc 2 (by decide);have q8:w.cell? ⟨E.bB,4+m*10+8,none⟩=some v8:=hc 8 (by decide);have a1:=h.lt;have C:=X _ _ _ _ _ _ _ _ _ _ _ _ _ w hi;have y:=(λv w' (l:Z [] w w') (u:oI E.bm E.bB (f 0) (iS sp t) v w)=>hR (iS sp t) v f σ w' (h.ir l) (u.fr (.ib l)) d);generalize hZ:x (iS sp t) t σ=a2 at y|-;generalize iG E t=tv at *;go_enter func162,ntmps162;go_wp21;refine C.mono ?_;rintro e w1⟨v,rfl,u,l⟩;obtain⟨k,bs,cs,rfl,a0,b⟩:=y v w1 l u;have I:=b.mono (λe W q=>q.k0 l);go_wp21;refine I.mono ?_;intro e W q;cases a2 with
  |ok a σ'=>
   obtain⟨g,K,P,rfl,R,U⟩:=q;go_wp2;go_end0;exact(V ⟨g,K,P,rfl,R,U⟩)
  |stop c p=>
   obtain⟨j,rfl,F,H⟩:=q;go_wp2;exact⟨rfl,qx rfl F H⟩
  |stuck=>exact q.elim
def qR(rec:Nat->gF->M Unit)(t:gF):M Unit:=match t.k with
 | .lost=>Pure.pure ()
 |_=>λσ=>if σ.behind&&ld t.chars y8 then .ok () {σ with behind:=false,gQ:=t.a} else jF rec t {σ with behind:=false,gQ:=t.a}
def afi(s:O):ld s y8=(s.toList==[10]):=by
 simp[ld]
def Un(a b:Int)(w:J):Calls prog 427 #[.agg #[G a,G b]] w λe w'=>e=iA (.tuple #[G a,G b])/\Z [] w w':=by
 go_enter func427,ntmps427;go_wp21;go_region
 all_goals (try go_wp2)
 all_goals (try go_ret2)
 all_goals exact⟨rfl,((Z.refl [] w).alloc _).drew⟩
theorem zy(E:Env)(rec:Nat->gF->M Unit)(hA:∀(m:Nat)(t:gF),jo E t->jk E 162 (λ_=>#[Bp E,G m,iG E t]) (rec m t) uV)(t:gF)(ht:jo E t)(hk:t.k≠ .lost){T:TypeId}(l:iG E t=.iface T v)(hT:T≠186)
  (y:∀w,(Go.method 493 T v "Bytes").run prog w=.ok (427,.agg #[G t.a,G t.b]) w):jk E 48 (λ_=>#[Bp E,iG E t]) (qR rec t) uV:=by
 have u:=V (vq E rec hA t ht);intro f σ w h F;obtain⟨R,b⟩:∃R,R=qR rec t σ:=⟨_,rfl⟩;rw[<-b]at F|-;replace b:=b.trans (show qR rec t σ=if σ.behind&&ld t.chars y8 then .ok () {σ with behind:=false,gQ:=t.a} else jF rec t {σ with behind:=false,gQ:=t.a} by
  grind[qR])
 have HS:=V F;have H:=V (At.start h);have P:=H.out.aeK;have a0:=h.lt;have f1:=H.out.free 198;have f2:=H.out.free 197;have c2:=H.out.X0;have x:=λw=>Ak E t w;simp only[l]at x u|-;have p:=λ(v:gP) (xT:TypeId) (w:J)=>NE (z:=.agg #[G 0,G 0]) underlying186 rfl hT v xT w;have I:=V x;clear h F x l ht hk hT;have K:Hid (∀o,Z [] w (w.alloc o)):=V (λo=>(Z.refl [] w).alloc o);have q:=V (λw=>Un (t.a:Int) (t.b:Int) w);replace H:=V ((H.out.uk false).k0 ((Z.refl [] _).alloc (gH #[G 0,G 0] 186)));cases hb:σ.behind with
 |false=>
  have g:R=(jF rec t>>=λ_=>(Pure.pure ():M Unit)) {σ with behind:=false,gQ:=t.a}:=by rw[b,hb,M.bind_pure];rfl
  have d:=V g;rw[hb]at P;clear b g hb K;go_enter func48,ntmps48;go_wp21;refine(q.out _).mono ?_;rintro e w1⟨rfl,a⟩;replace H:=V (H.out.k0 a);clear a;have U:=H.out.X0;have X:=H.out.free 197;have l3:=H.out.lt;replace H:=V (H.out.Fa t.a);go_wp21;refine dC (u.out) H d HS rfl lT ?_;clear H d;rintro(_) f σ w H HX HF d;go_wp2;go_end0;exact gu d.out H.out rfl
 |true=>
  rw[hb]at P b;simp only[Bool.true_and]at b;clear hb K;cases hn:ld (gF.chars t) y8 with
  |false=>
   rw[hn]at b;have g:R=(jF rec t>>=λ_=>(Pure.pure ():M Unit)) {σ with behind:=false,gQ:=t.a}:=by rw[b,M.bind_pure];rfl
   have d:=V g;have C:=(afi (gF.chars t)).symm.trans hn;clear b g hn;go_enter func48,ntmps48;go_wp21;refine(q.out _).mono ?_;rintro e w1⟨rfl,a⟩;replace H:=V (H.out.k0 a);clear a;have U:=H.out.X0;have X:=H.out.free 197;have l3:=H.out.lt;replace H:=V (H.out.Fa t.a);go_wp21;refine(I.out _).mono ?_;rintro e w2⟨rfl,k⟩;replace H:=V (H.out.k0 k);clear k;go_wp21;refine dC (u.out) H d HS rfl lT ?_;clear H d;rintro(_) f σ w H HX HF d;go_wp2;go_end0;exact gu d.out H.out rfl
  |true=>
   rw[hn]at b;simp only[]at b;have d:=V b;have C:=(afi (gF.chars t)).symm.trans hn;clear b hn;go_enter func48,ntmps48;go_wp21;refine(q.out _).mono ?_;rintro e w1⟨rfl,a⟩;replace H:=V (H.out.k0 a);clear a;have U:=H.out.X0;have X:=H.out.free 197;have l3:=H.out.lt;replace H:=V (H.out.Fa t.a);go_wp21;refine(I.out _).mono ?_;rintro e w2⟨rfl,k⟩;replace H:=V (H.out.k0 k);clear k;go_wp2;go_end0;exact gu d.out H.out rfl
def SY(t:gF)(σ:N):rq t σ=(vp [gN] 13 t>>=λ_=>(do km none;return ():M Unit)) σ:=by
 unfold rq vp;rw[M.gw,M.gw,M.gw];cases th _ σ with
 |ok a σ1=>
  simp only;rw[M.gw,M.gw];cases iL t σ1 with
  |ok a σ2=>rfl
  |stop c p=>rfl
  |stuck=>rfl
 |stop c p=>rfl
 |stuck=>rfl
def WB(E:Env)(t:gF)(U:jo E t):jk E 134 (λ_=>#[Bp E,iG E t]) (rq t) uV:=by
 intro f σ w h HS;obtain⟨R,b⟩:∃R,R=rq t σ:=⟨_,rfl⟩;rw[<-b]at HS|-;rw[SY]at b;have H:=At.start h;have a:=V b;have I:=Go.Proofs.enters_of func215 (by rfl) rfl;clear b;go_enter func134,ntmps134;go_wp21;refine(aa6 E _).mono ?_;rintro e w⟨k1,a0,rfl,d,l⟩;replace H:=H.k0 l;go_wp21;refine(Ds E.bm E.bB 0 [gN] 13 _ _ d).mono ?_;rintro e w⟨⟨v,rfl,z,C,F,u,rfl,lV,g,q,k⟩,K⟩;obtain⟨X,p,rfl,_,_⟩:=q.call;replace H:=H.k0 K;have x:=(λP=>Ke E t U [gN] 13 z C F X p H.rel P lV g q k);go_wp21;refine fp (x) H a HS lT ?_;rintro(_) f σ w H HX y a;go_wp21;refine mC (BN E) H a HS rfl lT ?_;rintro(_) σ w H y a;go_wp2;go_end0;exact gu a H rfl
def alS:(prog.info? 121).map (λi=>(i.zero,i.size,i.bytes))=some (some .nilIface,1,16):=by kernel_rfl
theorem Rel.anW(h:Rel E L σ w){C:jL}(k:jG E L σ C)(v':gP)(e:List (Nat×Nat×O))(b:w'.heap[E.bB]?=some (gH (C.setIfInBounds 194 v') 176))(a:KT E.bs [176,121] w w')(d:w'.ownsRow E.bs 121 1 v' e.length (e.map RH))(g:e.length<=4096)(p:E.wv=none):Rel E {L with wv:=v'} {σ with waiting:=e} w':=
 {fr:=h.fr.trans (a.fr (by decide))
  env:=h.env
  Gv:=h.Gv
  uz:=λi q l=>((h.uz i q l).kt a (by decide)).loc rfl rfl rfl
  inj:=h.inj,Dk:=h.Dk,JS:=h.JS,uq:=h.uq,H6:=h.H6
  wf:=⟨h.wf.gq,h.wf.act,h.wf.head,h.wf.form,h.wf.ji,h.wf.kids,h.wf.wA⟩
  il:=⟨_,b,k.agZ v' e⟩
  qv:=a.row h.qv (by decide)
  ru:=a.row h.ru (by decide)
  JY:=h.JY,yK:=h.yK,Ie:=h.Ie
  qm:=d
  Pl:=g
  rd:=a.at h.rd (by decide)
  Wp:=h.Wp
  tok:=a.row h.tok (by decide)
  Ph:=h.Ph,bz:=h.bz,bB:=h.bB,bR:=h.bR,bN:=h.bN,BI:=h.BI,ab:=h.ab,tb:=h.tb,Pk:=λv u=>by grind}
theorem YT(E:Env)(a3:E.wv=none)(t:gF):jk E 127 (λ_=>#[Bp E,iG E t]) (oq t) uV:=by
 intro f σ w h z;have⟨a,b,k,gG⟩:=t;cases k with
 |kE s=>
  have I:=ME E ⟨a,b,.kE s,gG⟩ w;cases hn:uY s with
  |true=>
   have hm:oq ⟨a,b,.kE s,gG⟩ σ=.ok () σ:=by unfold oq;simp only;rw[hn];rfl
   rw[hm];have p:uY (gF.chars ⟨a,b,.kE s,gG⟩)=true:=hn;rw[p]at I;have H:=At.start h;clear p;go_enter func127,ntmps127;go_wp21;refine I.mono ?_;rintro e w⟨rfl,g⟩;replace H:=H.k0 g;go_wp2;go_end0;exact gu rfl H rfl
  |false=>
   have X:σ.waiting.length<4096:=by
    by_cases hl:σ.waiting.length<4096;exact hl;exfalso;apply z;unfold oq;simp_all
   have hm:oq ⟨a,b,.kE s,gG⟩ σ=.ok () {σ with waiting:=σ.waiting++[(a,b,s)]}:=by unfold oq;simp only;rw[hn];simp[X]
   rw[hm];have p:uY (gF.chars ⟨a,b,.kE s,gG⟩)=false:=hn;rw[p]at I;obtain⟨L,rfl,HR⟩:=h;clear p;rw[show iG E ⟨a,b,.kE s,gG⟩=.iface 184 (.agg #[G a,G b,Y s])from rfl]at I|-;go_enter func127,ntmps127;go_wp21;refine I.mono ?_;rintro e w0⟨rfl,g⟩;have hr:=HR.ir g;have HF:=Fr.ib (bs:=E.bs) g;have c1:=hr.ah8;have a9:=hr.lt;have⟨C,HBB,p⟩:=hr.il;obtain⟨i0,hi,a4,a5,a6⟩:=qz alS;have⟨ao,cap,hwv⟩:=gz hr.qm;rw[hwv]at c1;have P:Z [] w0 (w0.alloc (gH #[RH (a,b,s)] 121)):=(Z.refl _ _).alloc _;have HO:=P.ownsRow hr.qm (λ_ _=>by simp);rw[hwv]at HO;have x:(Value.slice ao σ.waiting.length cap).ownBlock≠some E.bB:=by rw[<-hwv];exact EW hr.qm HBB (by decide)
   have a2:=V (fU w0 (gH #[RH (a,b,s)] 121));have l:=V hr;have K:=V p;have R:=V hwv;clear hr p hwv;go_wp2_with (at_builtin;refine jB _ rfl _ _ 174 rfl E.bs 121 i0 .nilIface 1 16 underlying174 hi a4 a5 a6 rfl (by decide) (.slice ao σ.waiting.length cap) σ.waiting.length (σ.waiting.map RH) rfl HO ⟨w0.heap.size,0,none⟩ 1 1 [RH (a,b,s)] rfl rfl (λk u hu=>by rw[js,fP a2.out,<-hu];simp) (λu hu=>by simp at hu;subst hu;rfl) (by unfold maxLen;omega) (by omega) (by have h7:=l.bz;have h8:=l.fr.size;simp;omega) ?_);intro v' w2 d y a7;have K2:Z (Value.slice ao σ.waiting.length cap).ownBlock.toList w0 w2:=(P.mono (by simp)).grown y (λk g=> .inl (by rw[g];simp));have U:w2.heap[E.bB]?=some (gH C 176):=K2.at HBB (by simpa using x);have⟨ao',cap',hv⟩:=gz d;subst hv;have d1:w2.cell? ⟨E.bB,194,none⟩=some (.slice ao σ.waiting.length cap):=by rw[fP U,K.out.wait,R.out]
   have d2:=gx U 194;have a8:=ja U;have h3:=gh U 194 (.slice ao' (σ.waiting.length+1) cap');have a0:(Value.slice ao' (σ.waiting.length+1) cap').ownBlock≠some E.bB:=EW d U (by decide);have h4:=rF (a:=⟨E.bB,194,none⟩) d a0 (.slice ao' (σ.waiting.length+1) cap');have h5:Z (E.bB::(Value.slice ao σ.waiting.length cap).ownBlock.toList) w0 (w2.setCell ⟨E.bB,194,none⟩ (.slice ao' (σ.waiting.length+1) cap')):=(K2.mono (λk g _=>abv _ g)).setCell (.inl (by simp)) _;have kt:KT E.bs [176,121] w0 (w2.setCell ⟨E.bB,194,none⟩ (.slice ao' (σ.waiting.length+1) cap')):=.j9 h5 (λk g _=>by
    rcases List.mem_cons.1 g with rfl|g;exact⟨⟨_,_,_,HBB,by simp⟩,l.bB⟩;have F:=l.qm;rw[R.out]at F;obtain⟨c,m,hc⟩:=tJ F (by simpa using g);exact⟨⟨_,_,_,hc,by simp⟩,(F.lt k (by simpa using g)).1⟩)
   have HZ:=l.anW K (.slice ao' (σ.waiting.length+1) cap') (σ.waiting++[(a,b,s)]) h3 kt (by simpa using h4) (by simp;omega) a3;have a1:=HF.trans (kt.fr (by decide));go_wp2;go_end0;exact⟨L.gQ,λ_ _=>rfl,ic _,rfl,⟨{L with wv:=.slice ao' (σ.waiting.length+1) cap'},rfl,HZ⟩,a1⟩
 |start s=>exact absurd rfl z
 |stop s=>exact absurd rfl z
 |gV s=>exact absurd rfl z
 |iH s q=>exact absurd rfl z
 |lost=>exact absurd rfl z
 |iw=>exact absurd rfl z
def Pp{α:Type}(n:Nat)(P:Program)(g:Nat)(lb:jL)(b:α->jL)(Kp:J->J->Prop)(S Sp:List α->Prop)(q:Nat)(w:J):Prop:=
 ∀(l:Nat)(p d:List α->J->Prop)(W:J),Below w.heap.size w W->OwnFrom W.heap.size p->OwnFrom W.heap.size d->
  (∀pre x a,p pre a->pre.length<q->YieldAt Fence.wide (n-1) P l (b x) a λe W'=>(e=iA (.bool true)/\p (pre++[x]) W'/\Kp a W'/\KeepsFrom W.heap.size a W')\/(e=iA (.bool false)/\d (pre++[x]) W'/\KeepsFrom W.heap.size a W'))->
  p [] W->CallsIn Fence.wide n P g (#[.func (.yield l) #[] #[]]++lb) W λe W'=>(∃v,e=iA v)/\((∃k,S k/\p k W')\/(∃pre,Sp pre/\d pre W'))
theorem M3{A B:J}{row:jj}{a k:Nat}(hg:A.grownBy B row)(hr:∀r,row=some r->a<=r/\∃o:Obj,A.heap[r]?=some o/\o.isCells=false)(h:A.heap[k]?=some o)(b:k<a):B.heap[k]?=some o:=
 (hg.block k (Array.getElem?_eq_some_iff.1 h).1 (λe=>by grind)).trans h
theorem wo{b l:Nat}{a:J}(g:l<b)(h:KeepsFrom (l-1) (W.putObj l o) a):KeepsFrom b W (a.putObj l o'):=by
 refine⟨?_,λk q e p d=>?_⟩;have:=h.size;simp_all;grind[World.putObj_heap_other,KeepsFrom.same]
theorem Xp{α:Type}{P:Program}{g:Operand}{ps:Array Tmp}{Q:Exit->Act->J->Prop}{a:Act}
  (h1:1<=n) {gf:Nat} (hg:a.eval g=.func (.func gf) #[] lb) (eg:∀a2 w,(callFunc gf a2).run P w=.ok (.enter gf a2) w)
  {u:α->jL} {Kp:J->J->Prop} {S Sp:List α->Prop} {ap:Nat} (ac:Pp (n-1) P gf lb u Kp S Sp ap w0)
  (a9:∀{A B C:J},Kp A B->Kp B C->Kp A C) (a8:∀(W:J)(l:Nat)(o o':Obj),w.heap.size<=l->W.heap[l]?=some o->o.isCells=false->o.isWalk=false->Kp W (W.putObj l o')) (aa:Below w0.heap.size w0 w) (an:∀x,(u x).size=ps.size)
  (I:List α->J->Prop) (Ix:Code->List α->J->Prop) (hI:OwnFrom w.heap.size I) (U:∀c,OwnFrom w.heap.size (Ix c)) (h0:I [] w) (a4:α->Act)
  (X:∀(l:Nat)(x:α)(W:J)(K:Act->J->Prop),K (a4 x) W->assign.wpIn (Fence.wide.inRound l) (n-1-1) P (Exit.then K (λ_ _ _=>False)) {tmps:=(ps.zip (u x)).foldl (λt (p,v)=>t.setIfInBounds p v) a.tmps,defers:=[]} W)
  (a5:∀(l:Nat)(pre:List α)(x:α)(W:J),I pre W->pre.length<ap->body.wpIn (Fence.wide.inRound l) (n-1-1) P (ownPostG w.heap.size Kp I Ix (pre++[x]) W) (a4 x) W)
  (a6:∀(D:Nat)(xs:List α)(W:J),w.heap.size<=D->S xs->I xs W->W.heap[D]?=some (.deferred (some []))->Q .normal {a with defers:={target:=.collected D,args:=#[]}::a.defers} W)
  (a7:∀(D:Nat)(c:Code)(pre:List α)(W:J),w.heap.size<=D->Sp pre->Ix c pre W->W.heap[D]?=some (.deferred (some []))->c.wpIn Fence.wide n P Q {a with defers:={target:=.collected D,args:=#[]}::a.defers} W):
  (Code.rangeFunc g ps assign body).wpIn Fence.wide n P Q a w:=by
 refine XC ?_;intro fn ah;obtain⟨rec,k⟩:∃rec:LoopState->Option Code->Loop,rec=λst pe=>{state:=st,pending:=pe,fn,tmps:=a.tmps,params:=ps,assign,body,defers:=w.heap.size}:=⟨_,rfl⟩;obtain⟨F,y⟩:∃F,(w.alloc (.deferred (some []))).alloc (.loop (rec .ready none))=F:=⟨_,rfl⟩;have ao:F.heap.size=w.heap.size+2:=by rw[<-y];simp
 have af:F.heap[w.heap.size+1]?=some (.loop (rec .ready none)):=by
  rw[<-y];have:=Da (w.alloc (.deferred (some []))) (.loop (rec .ready none));rwa [Xu]at this
 have ae:F.heap[w.heap.size]?=some (.deferred (some [])):=by
  rw[<-y];exact(Below.heap_alloc _ _ _ (by simp)).trans (Da w _)
 have ad:I [] F:=by rw[<-y];exact hI.alloc _ (hI.alloc _ h0)
 have lV:Below w0.heap.size w0 F:=by
  rw[<-y];exact aa.trans ((((Below.refl _ w).alloc (ic _) _).alloc (by simp) _).mono aa.size)
 refine⟨w.heap.size+1,[{target:=.collected w.heap.size,args:=#[]}],F,{target:=.fn (.func gf) lb,args:=#[.func (.yield (w.heap.size+1)) #[] #[]]},F,gf,
  #[.func (.yield (w.heap.size+1)) #[] #[]]++lb,F,?_,?_,?_,?_,λ_=>h1,?_⟩
 rw[<-y,k];exact QW _ _ _ _ _
 .simp only[resolve,hg];simp[go_sem]
 intro f' am;trivial
 .simp[invoke,go_sem,eg]
 have lo:∀{A B:J} {row:jj},(∀r,row=some r->F.heap.size<=r/\∃o:Obj,A.heap[r]?=some o/\o.isCells=false)->(∀r,row=some r->w.heap.size<=r/\∃o:Obj,A.heap[r]?=some o/\o.isCells=false):=
  λhr r e=>⟨by grind,(hr r e).2⟩
 refine(ac (w.heap.size+1)
  (λpre W=>I pre W/\W.heap[w.heap.size+1]?=some (.loop (rec .ready none))/\W.heap[w.heap.size]?=some (.deferred (some [])))
  (λpre W=>∃c,Ix c pre W/\W.heap[w.heap.size+1]?=some (.loop (rec .done (some c)))/\W.heap[w.heap.size]?=some (.deferred (some [])))
  F lV
  (λs A B row hs q hr=>⟨hI s A B row hs.1 q (lo (B:=B) hr),M3 q hr hs.2.1 (by omega),M3 q hr hs.2.2 (by omega)⟩)
  (λs A B row hs q hr=>by
   have⟨c,hc,z,hk⟩:=hs;exact⟨c,U c s A B row hc q (lo (B:=B) hr),M3 q hr z (by omega),M3 q hr hk (by omega)⟩)
  ?_ ⟨ad,af,ae⟩).mono ?_
 .rintro pre x W⟨hi,z,hk⟩ ab;have ak:w.heap.size+1<W.heap.size:=(Array.getElem?_eq_some_iff.1 z).1;have hy:=run_yield (P:=P) (args:=u x) z (by grind);rw[k]at hy;refine⟨fn,_,assign,body,hy,roundIn_of_wpIn ah (X _ x W _ ?_)⟩;refine⟨_,run_beginRound z (by rw[k]),?_⟩;have aj:(W.putObj (w.heap.size+1) (.loop {rec .ready none with state:=.busy})).heap[w.heap.size+1]?=some (.loop {rec .ready none with state:=.busy}):=vF ak;have ai:(W.putObj (w.heap.size+1) (.loop {rec .ready none with state:=.busy})).heap[w.heap.size]?=some (.deferred (some [])):=(aht (by omega)).trans hk;have al:Kp W (W.putObj (w.heap.size+1) (.loop {rec .ready none with state:=.busy})):=a8 _ _ _ _ (by omega) z rfl rfl;refine C8 (a5 _ pre x _ (hI.putObj _ hi (by omega) z rfl) ab) ?_;have a1:∀(b:Option Code)(H:J),KeepsFrom w.heap.size (W.putObj (w.heap.size+1) (.loop {rec .ready none with state:=.busy})) H->
    (Instr.endRound (w.heap.size+1) b).run P H=.ok (.bool b.isNone) (H.putObj (w.heap.size+1) (.loop (rec (if b.isNone then .ready else .done) b)))/\
    H.heap[w.heap.size+1]?=some (.loop {rec .ready none with state:=.busy})/\
    (H.putObj (w.heap.size+1) (.loop (rec (if b.isNone then .ready else .done) b))).heap[w.heap.size+1]?=some (.loop (rec (if b.isNone then .ready else .done) b))/\
    (H.putObj (w.heap.size+1) (.loop (rec (if b.isNone then .ready else .done) b))).heap[w.heap.size]?=some (.deferred (some [])):=λb H a0=>by
   have d:=a0.same _ _ (by omega) aj rfl;have:=run_endRound (P:=P) b d;rw[k]at this|-;exact⟨this,by grind,vF (Array.getElem?_eq_some_iff.1 d).1,(aht (by omega)).trans (a0.same _ _ (ic _) ai rfl)⟩
  rintro e a3 H R;cases e with
  |normal=>
   have⟨a0,hkp3,hi3⟩:=R;have⟨hr,d,hl4,hk4⟩:=a1 none H a0;exact⟨_,_,hr,.inl ⟨rfl,⟨hI.putObj _ hi3 (by omega) d rfl,hl4,hk4⟩,a9 (a9 al hkp3) (a8 _ _ _ _ (by omega) d rfl rfl),wo (by omega) a0⟩⟩
  |ret=>
   have⟨hr,d,hl4,hk4⟩:=a1 (some .ret) H R.1;exact⟨_,_,hr,.inr ⟨rfl,⟨.ret,(U _).putObj _ R.2 (by omega) d rfl,hl4,hk4⟩,wo (by omega) R.1⟩⟩
  |exit id=>
   have⟨hr,d,hl4,hk4⟩:=a1 (some (.exit id)) H R.1;exact⟨_,_,hr,.inr ⟨rfl,⟨.exit id,(U _).putObj _ R.2 (by omega) d rfl,hl4,hk4⟩,wo (by omega) R.1⟩⟩
  |goto t=>
   have⟨hr,d,hl4,hk4⟩:=a1 (some (.goto t)) H R.1;exact⟨_,_,hr,.inr ⟨rfl,⟨.goto t,(U _).putObj _ R.2 (by omega) d rfl,hl4,hk4⟩,wo (by omega) R.1⟩⟩
  |panic ch=>exact R.elim
  |outgrown=>exact R.elim
 rintro e W2⟨⟨v,rfl⟩,(⟨xs,hS,hi,z,hk⟩|⟨pre,ag,c,hi,z,hk⟩)⟩;exact⟨none,_,by have:=iT (P:=P) z (by grind);rw[k]at this;exact this,a6 _ xs _ (ic _) hS (hI.putObj _ hi (by omega) z rfl) ((aht (by omega)).trans hk)⟩;exact⟨some c,_,by have:=iT (P:=P) z (by grind);rw[k]at this;exact this,a7 _ c pre _ (ic _) ag ((U c).putObj _ hi (by omega) z rfl) ((aht (by omega)).trans hk)⟩
section
attribute [local go_sem] Oper.semAt_some
attribute [local go_sem] rE
attribute [local simp] rE
def BP:kY->List Nat
 |[]=>[]
 |none::_=>[]
 |some i::r=>i::BP r
def KC(T:List Nat)(W W':J):Prop:=W.heap.size<=W'.heap.size/\∀(k:Nat)(c:jL)(t:TypeId)(m:Nat×Nat),k∉T->W.heap[k]?=some (.cells c t m)->W'.heap[k]?=some (.cells c t m)
theorem KC.trans{A B C:J}(h:KC T A B)(k:KC T B C):KC T A C:=⟨jZ h.1 k.1,λi c t m a b=>k.2 i c t m a (h.2 i c t m a b)⟩
def KC.put(W:J)(l:Nat)(o o':Obj)(a:W.heap[l]?=some o)(d:o.isCells=false):KC T W (W.putObj l o'):=
 ⟨by simp,λk c t m _ b=>(aht (λe=>by subst e;rw[b]at a;cases a;cases d)).trans b⟩
def adu{m g e:Nat}{P:Program}{l:Nat}{f:FuncId}{a:jL}{R:Ending->J->Prop}(h:RoundIn Fence.wide m P l f a assign body w R):RoundIn (Fence.wide.inRound e) g P l f a assign body w R:=⟨h.1,λc b _=>h.2 c b (λd h=>by cases h)⟩
def aam{ys:kY}:∀{a:List Nat},a.map some <+:ys->a <+:BP ys
 |[],_=>List.nil_prefix
 |p::a,h=>by
  have⟨r,hr⟩:=h;subst hr;exact(List.prefix_cons_inj p).2 (aam ⟨r,rfl⟩)
def aaj:∀{a:List Nat},BP (a.map some)=a
 |[]=>rfl
 |p::a=>by show p::BP (a.map some)=_;rw[aaj]
def Uj{r:kY}:∀{a:List Nat},BP (a.map some++none::r)=a
 |[]=>rfl
 |p::a=>by show p::BP (a.map some++none::r)=_;rw[Uj]
theorem aeD(m:Nat)(hm:5<=m)(base bB:Nat)(tB:TypeId)(C:jL)(v:gP)(xs:kY)(s:Nat)(T:List Nat)(w:J)(h:yM base bB 189 tB C v xs w)
  (hs:w.heap[s]?=some (gH #[gI bB] 117)) (hT:∀k∈T,k≠bB/\v.ownBlock≠some k/\k<w.heap.size):
  Pp m prog 343 #[gI s] (λx:{x:Nat // some x∈xs}=>#[kX (some x.1)]) (KC T) (λys=>ys.map (·.1)=BP xs.reverse) (λpre=>pre.map (·.1) <+:BP xs.reverse) xs.length w:=by
 intro l az Jx W hB HJ a7 HY H0;have ab:=ja h.il;have L1:yM base bB 189 tB C v xs W:=by
  refine h.IC (K:=bB::v.ownBlock.toList) (λk a=>hB.block k ?_) (by simp) (λk a=>by simp[a]);rcases List.mem_cons.1 a with rfl|a;exact ab;exact(h.row.lt k (by grind)).2
 have ap:=ja hs;have ae:=(hB.block s ap).trans hs;have ad:w.heap.size<=W.heap.size:=hB.size;have an:bB<W.heap.size:=nr ab ad;obtain⟨g,F⟩:∃g,g=W.alloc (gH #[.func (.yield l) #[] #[]] 282):=⟨_,rfl⟩;have a8:Z [] W g:=by rw[F];exact(Z.refl [] W).alloc _
 have ah:g.heap[W.heap.size]?=some (gH #[.func (.yield l) #[] #[]] 282):=by rw[F];exact fU W _
 have z1:g.heap.size=W.heap.size+1:=by rw[F];simp
 have HL:yM base bB 189 tB C v xs g:=L1.IC (lw.j9 (K:=bB::v.ownBlock.toList) a8 (λk a=>⟨by
  rcases List.mem_cons.1 a with rfl|a;exact an;exact(L1.row.lt k (by grind)).2,by simp⟩)) (by simp) (λk a=>by simp[a])
 have c1:(W.alloc (gH #[.func (.yield l) #[] #[]] 282)).cell? ⟨s,0,none⟩=some (gI bB):=by rw[<-F,fP (a8.at ae (by simp))];rfl
 have HU:=acT base bB 189 tB C v xs g HL;refine abz func343 rfl trivial ?_ rfl;simp only[ntmps343,abw,pG,Kk,Nat.reduceAdd,Nat.reduceSub,sR,yD,wL,yE,abu,yF];have HW:=V F.symm;have HZ:=V z1;have HT:=hT;clear F z1 L1 ae h hB hs
 gi_wp2_with fail
 rw[HW.out];refine⟨λ_=>by omega,(callsIn_wide.2 HU).mono ?_⟩;rintro e w'⟨rfl,rfl⟩;gi_wp2;have ak:=HL;obtain⟨u,a1⟩:∃u,u=nJ bB 189 (xs.length:Int) g:=⟨_,rfl⟩;have k2:Z [] g u:=by rw[a1];exact((Z.refl _ _).alloc _).alloc _
 have aq:u.heap.size=g.heap.size+2:=by rw[a1];simp
 have X:yM base bB 189 tB C v xs u:=HL.IC (lw.j9 (K:=bB::v.ownBlock.toList) k2 (λk a=>⟨by
  rcases List.mem_cons.1 a with rfl|a;grind;exact(HL.row.lt k (by simpa using a)).2,by simp⟩)) (by simp) (λk a=>by simp[a])
 have⟨b0,b1⟩:=(⟨(Below.heap_alloc _ _ _ (by simp)).trans (fU g _),by
   have:=fU (g.alloc (gH #[j5 bB 189] 273)) (gH #[G xs.length] 3);simp_all⟩:(nJ bB 189 (xs.length:Int) g).heap[g.heap.size]?=some (gH #[j5 bB 189] 273)/\(nJ bB 189 (xs.length:Int) g).heap[g.heap.size+1]?=some (gH #[G xs.length] 3))
 rw[<-a1]at b0 b1|-;have av:=HZ.out;have gY:=k2.at ah (by simp);obtain⟨K,U⟩:∃K,K=bB::g.heap.size::v.ownBlock.toList:=⟨_,rfl⟩;have aa:∀k∈K,k<u.heap.size/\k∉T/\∃c t m,u.heap[k]?=some (.cells c t m):=by
  intro k a;rw[U]at a;rcases List.mem_cons.1 a with rfl|a;exact⟨ja X.il,λe=>(HT _ e).1 rfl,_,_,_,X.il⟩;rcases List.mem_cons.1 a with rfl|a;grind;have ao:v.ownBlock=some k:=by simpa using a
  have⟨c,m',hc⟩:=tJ X.row ao;grind
 have ar:=Xk (m-1) (by omega) base bB 189 tB C v xs xs.length g.heap.size K u X (ic _) (by rw[U];simp) (by rw[U];simp) (by grind) (by omega) b1 b0;have ay:∀k∈T,k<W.heap.size:=λk a=>nr (HT k a).2.2 ad;have a3:=V aa;have a5:=(show u.heap.size=W.heap.size+1+2 by omega);have ax:az [] u:=by
  have P:az [] g:=HJ [] W g none H0 (by rw[<-HW.out];exact World.grownBy_alloc W _ none) (λr e=>by cases e);rw[a1];refine HJ [] (g.alloc _) _ none ?_ (World.grownBy_alloc _ _ none) (λr e=>by cases e);exact HJ [] g _ none P (World.grownBy_alloc _ _ none) (λr e=>by cases e)
 clear U b0 b1 HU HL ak X k2 a1 aa c1 aq av;obtain⟨I,hI⟩:∃I:List {x:jj // x∈xs}->J->Prop,I=(λzs W'=>u.heap.size<=W'.heap.size/\lw K u W'/\W'.heap[W.heap.size]?=some (gH #[.func (.yield l) #[] #[]] 282)/\∃b:List {x:Nat // some x∈xs},zs.map (·.1)=b.map (λp=>some p.1)/\az b W'):=⟨_,rfl⟩;obtain⟨Ix,a9⟩:∃Ix:Code->List {x:jj // x∈xs}->J->Prop,Ix=(λc zs W'=>c=.ret/\((∃b:List {x:Nat // some x∈xs},zs.map (·.1)=b.map (λp=>some p.1)++[none]/\az b W')\/(∃b:List {x:Nat // some x∈xs},zs.map (·.1)=b.map (λp=>some p.1)/\Jx b W'))):=⟨_,rfl⟩;have HI:=V hI;have a2:=V a9;clear hI a9;refine wpIn_rangeFunc_ownG rfl (by omega) (gf:=348) rfl trivial (Go.Proofs.enters_of func348 (by rfl) rfl) ar lw.trans (λW l o o' hl P R h3=>lw.put (w:=u) (λk a=>(a3.out k a).1) W l o o' hl P R h3) (Below.refl _ _) (λ_=>rfl)
  I Ix
  ?_ ?_ ?_ (λx=>{tmps:=#[.func (.yield l) #[] #[],gI s,gI W.heap.size,kX x.1,gI bB,gI bB,j5 bB 189,wJ g.heap.size,kX x.1,undef,undef,undef,undef,undef,undef,undef,undef],defers:=[]}) ?assign ?body ?done ?stop
 rw[HI.out];rintro zs A B row⟨P,R,h3,b,h4,h5⟩ hg hr;have hz:=a5;refine⟨jZ P hg.size,λk a=>?_,M3 hg hr h3 (by omega),b,h4,HJ b A B row h5 hg (λr e=>⟨by grind,(hr r e).2⟩)⟩;rw[hg.block k (nr (a3.out k a).1 P) (λe=>by have:=(hr k e.symm).1;have:=(a3.out k a).1;omega)];exact R k a;rw[a2.out];rintro c zs A B row⟨P,R⟩ hg hr;have hz:=a5;refine⟨P,R.imp (λ⟨b,h4,h5⟩=>⟨b,h4,HJ b A B row h5 hg (λr e=>⟨by grind,(hr r e).2⟩)⟩) (λ⟨b,h4,h5⟩=>⟨b,h4,a7 b A B row h5 hg (λr e=>⟨by grind,(hr r e).2⟩)⟩)⟩;rw[HI.out];grind[lw]
 case assign=>
  intro l2 x W' KK am;gi_wp2;exact am
 case body=>
  rintro l2 pre⟨x,hx⟩ W' q aw;rw[HI.out]at q;have⟨hz,hkb,hbx,b,d,hj⟩:=q;have cy:=fP hbx 0;dsimp at cy;cases x with
  |none=>
   have HP:=V d;have aj:=V hj;clear d hj hz hkb hbx;gi_wp2;refine⟨KeepsFrom.refl _ _,?_⟩;rw[a2.out];exact⟨rfl,.inl ⟨b,by rw[rZ,HP.out];rfl,aj.out⟩⟩
  |some i=>
   have au:=HY b ⟨i,hx⟩ W' hj (by have:=DZ List.length d;grind);have a6:Hid (∀z,KC T W' z->lw K u z/\z.heap[W.heap.size]?=some (gH #[.func (.yield l) #[] #[]] 282)/\u.heap.size<=z.heap.size/\lw K W' z):=V (by
    intro z H;have ag:∀k∈K,z.heap[k]?=u.heap[k]?:=by
     intro k a;have⟨_,R,c,t,mm,h3⟩:=a3.out k a;have h4:=(hkb k a).trans h3;rw[H.2 k c t mm R h4,h3]
    exact⟨ag,H.2 _ _ _ _ (λe=>by grind) hbx,jZ hz H.1,λk a=>(ag k a).trans (hkb k a).symm⟩)
   have⟨fn,tmps,assign,body,hyy,HRR⟩:=au;have HP:=V d;clear d hj hz hkb hbx
   gi_wp2_with fail
   refine⟨λ_=>by omega,(adu HRR).mono ?_⟩;rintro e z (⟨rfl,ac,H,y⟩|⟨rfl,af,y⟩)
   .have⟨p1,p2,p3,P4⟩:=a6.out z H;have ai:Hid (I (pre++[⟨some i,hx⟩]) z):=V (by rw[HI.out];exact⟨p3,p1,p2,b++[⟨i,hx⟩],by rw[rZ,rZ,HP.out];rfl,ac⟩);have a4:=(show KeepsFrom u.heap.size W' z from⟨y.size,λk o a P R=>y.same k o (by omega) P R⟩);clear ac H y p1 p2 p3 HRR a6;gi_wp2;exact⟨a4,P4,ai.out⟩
   .have al:Hid (Ix .ret (pre++[⟨some i,hx⟩]) z):=V (by rw[a2.out];exact⟨rfl,.inr ⟨b++[⟨i,hx⟩],by rw[rZ,rZ,HP.out];rfl,af⟩⟩);have a4:=(show KeepsFrom u.heap.size W' z from⟨y.size,λk o a P R=>y.same k o (by omega) P R⟩);clear af y HRR a6;gi_wp2;exact⟨a4,al.out⟩
 case done=>
  rintro D zs W' HD hS q U;rw[HI.out]at q;have⟨_,_,_,b,d,HJ3⟩:=q;have HE:Hid (b.map (·.1)=BP xs.reverse):=V (by
   rw[List.take_length]at hS;rw[<-hS,d,show(b.map λp=>some p.1)=(b.map (·.1)).map some by simp,aaj])
  clear d hS;gi_wp2;refine⟨by simp,.inl ⟨_,_,rfl,N4 U,?_⟩⟩;refine⟨.tuple #[],by simp[results,results343,go_sem],⟨_,rfl⟩,.inl ⟨b,HE.out,?_⟩⟩;exact HJ b W' _ (some D) HJ3 (nG _ D (.deferred none)) (λr e=>by cases e;exact⟨by omega,_,U,rfl⟩)
 case stop=>
  rintro D c zs W' HD a0 q U;rw[a2.out]at q;obtain⟨rfl,q⟩:=q;have HE:Hid ((∃ys:List {x:Nat // some x∈xs},ys.map (·.1)=BP xs.reverse/\az ys W')\/(∃pre:List {x:Nat // some x∈xs},pre.map (·.1) <+:BP xs.reverse/\Jx pre W')):=V (by
   rw[List.take_length]at a0;rcases q with⟨b,d,hj⟩|⟨b,d,hj⟩;refine .inl ⟨b,?_,hj⟩;have⟨r,hr⟩:=a0;rw[<-hr,d,show(b.map λp=>some p.1)=(b.map (·.1)).map some by simp,vu];exact Uj.symm;refine .inr ⟨b,?_,hj⟩;rw[d,show(b.map λp=>some p.1)=(b.map (·.1)).map some by simp]at a0;exact aam a0)
  clear q a0;gi_wp2;refine⟨by simp,.inl ⟨_,_,rfl,N4 U,?_⟩⟩;refine⟨.tuple #[],by simp[results,results343,go_sem],⟨_,rfl⟩,?_⟩;have hb:D>=W.heap.size:=by have:=HD;have:=a5;omega
  rcases HE.out with⟨ys,e1,e2⟩|⟨pre,e1,e2⟩;exact .inl ⟨ys,e1,HJ ys W' _ (some D) e2 (nG _ D (.deferred none)) (λr e=>by cases e;exact⟨hb,_,U,rfl⟩)⟩;exact .inr ⟨pre,e1,a7 pre W' _ (some D) e2 (nG _ D (.deferred none)) (λr e=>by cases e;exact⟨hb,_,U,rfl⟩)⟩
end
section
attribute [local go_sem] Oper.semAt_some
attribute [local go_sem] rE
attribute [local simp] rE
def Pv(s:Nat):gP:=.func (.func 343) #[] #[gI s]
def LC(bB:Nat)(w:J):
  Calls prog 316 #[gI bB] w λe w'=>e=iA (Pv w.heap.size)/\w'=w.alloc (gH #[gI bB] 117):=by
 go_wp2;go_ret;simp[Pv]
def aal:∀(a:kY),BP (a.map (Option.map f))=(BP a).map f
 |[]=>rfl
 |none::_=>rfl
 |some i::r=>by show f i::BP _=f i::(BP r).map f;rw[aal]
def alp(T:List Nat)(I:List Nat->J->Prop)(b:Code->List Nat->J->Prop)(a:List Nat)(W:J):Exit->Act->J->Prop
 | .normal,_,W'=>Z T W W'/\I a W'
 | .ret,_,W'=>Z T W W'/\b .ret a W'
 | .exit id,_,W'=>Z T W W'/\b (.exit id) a W'
 | .goto t,_,W'=>Z T W W'/\b (.goto t) a W'
 | .panic _,_,_=>False
 | .outgrown,_,_=>False
def Z.kc(h:Z T W W'):KC T W W':=⟨h.size,λk c t m b a=>(h.block k (Array.getElem?_eq_some_iff.1 a).1 b).trans a⟩
theorem Z.kf{B:Nat}(h:Z T W W')(b:∀k∈T,k<B):KeepsFrom B W W':=⟨h.size,λk o d a _=>(h.block k (Array.getElem?_eq_some_iff.1 a).1 (λe=>by grind)).trans a⟩
theorem IR(b:∀i j,f i=f j->i=j):∀{d a:List Nat},d.map f=a.map f->d=a
 |[],[],_=>rfl
 |[],_::_,h=>by grind
 |_::_,[],h=>by grind
 |x::xs,y::a,h=>by
  simp at h;rw[b x y h.1,IR b h.2]
theorem ajm(b:∀i j,f i=f j->i=j){a ys:List Nat}(h:a.map f <+:ys.map f):a <+:ys:=by
 have⟨t,ht⟩:=h;have d:a.length<=ys.length:=by have:=DZ List.length ht;simp at this;omega
 have e:a.map f=(ys.take a.length).map f:=by rw[lp,<-ht];simp
 grind[IR,List.take_append_drop]
theorem abq(hn:7<=n){w1:J}(hr:Rel E L σ w1)
  {g:Operand} {p:Tmp} {Q:Exit->Act->J->Prop} {a:Act} (hg:a.eval g=Pv w1.heap.size)
  (T:List Nat) (hT:∀k∈T,k≠E.bB/\L.cv.ownBlock≠some k/\k<w1.heap.size)
  (I:List Nat->J->Prop) (Ix:Code->List Nat->J->Prop)
  (hI:OwnFrom (w1.heap.size+1) I) (a2:∀c,OwnFrom (w1.heap.size+1) (Ix c)) (h0:I [] (w1.alloc (gH #[Bp E] 117))) (d:Nat->Act)
  (q:∀(l:Nat)(x:Nat)(W:J)(K:Act->J->Prop),K (d x) W->assign.wpIn (Fence.wide.inRound l) (n-1-1) prog (Exit.then K (λ_ _ _=>False)) {tmps:=a.tmps.setIfInBounds p (kX (some x)),defers:=[]} W)
  (R:∀(l:Nat)(pre:List Nat)(i:Nat)(W:J),some i∈σ.act->I pre W->pre.length<σ.act.length->body.wpIn (Fence.wide.inRound l) (n-1-1) prog (alp T I Ix (pre++[i]) W) (d (L.gQ i)) W)
  (a4:∀(D:Nat)(W:J),w1.heap.size+1<=D->I (BP σ.act.reverse) W->W.heap[D]?=some (.deferred (some []))->Q .normal {a with defers:={target:=.collected D,args:=#[]}::a.defers} W)
  (X:∀(D:Nat)(c:Code)(pre:List Nat)(W:J),w1.heap.size+1<=D->pre <+:BP σ.act.reverse->Ix c pre W->W.heap[D]?=some (.deferred (some []))->c.wpIn Fence.wide n prog Q {a with defers:={target:=.collected D,args:=#[]}::a.defers} W):
  (Code.rangeFunc g #[p] assign body).wpIn Fence.wide n prog Q a (w1.alloc (gH #[Bp E] 117)):=by
 have k1:Z [] w1 (w1.alloc (gH #[Bp E] 117)):=(Z.refl _ _).alloc _;have a5:=hr.ir k1;have⟨C,hL,hC⟩:=a5.Kw;have a0:(w1.alloc (gH #[Bp E] 117)).heap.size=w1.heap.size+1:=by simp
 have a7:=hr.inj;have a6:=aeD (n-1) (by omega) E.bs E.bB _ C L.cv _ w1.heap.size T _ hL (fU w1 _) (λk hk=>⟨(hT k hk).1,(hT k hk).2.1,by grind⟩);have a1:∀x:{x:Nat // some x∈σ.act.map (iF L.gQ)},∃i,some i∈σ.act/\L.gQ i=x.1:=by
  rintro⟨x,hx⟩;have⟨y,hy,e⟩:=List.mem_map.1 hx;cases y with
  |none=>cases e
  |some i=>grind
 have a9:BP (σ.act.map (iF L.gQ)).reverse=(BP σ.act.reverse).map L.gQ:=by
  rw[<-qX];exact aal _
 refine Xp (by omega) (gf:=343) hg (Go.Proofs.enters_of func343 (by rfl) rfl) a6 KC.trans (λW l o o' _ F H _=>KC.put W l o o' F H) (Below.refl _ _) (λ_=>rfl)
  (λpre W=>∃b,pre.map (·.1)=b.map L.gQ/\I b W) (λc pre W=>∃b,pre.map (·.1)=b.map L.gQ/\Ix c b W) ?_ ?_ ?_ (λx=>d x.1) ?_ ?_ ?_ ?_
 rintro s A B row⟨b,F,H⟩ U z;rw[a0]at z;exact⟨b,F,hI b A B row H U z⟩;rintro c s A B row⟨b,F,H⟩ U z;rw[a0]at z;exact⟨b,F,a2 c b A B row H U z⟩;grind;intro l x W K hK
 simpa using q l x.1 W K hK
 .rintro l pre x W⟨b,F,H⟩ a8;have⟨i,hi,ei⟩:=a1 x;have hb:=R l b i W hi H (by have:=DZ List.length F;grind);rw[ei]at hb;have P:∀k∈T,k<(w1.alloc (gH #[Bp E] 117)).heap.size:=λk hk=>by grind
  have e2:(pre++[x]).map (·.1)=(b++[i]).map L.gQ:=by rw[rZ,rZ,F,List.map_singleton,List.map_singleton,ei]
  refine C8 hb ?_;rintro e a3 W3 u;cases e with
  |normal=>exact⟨u.1.kf P,u.1.kc,_,e2,u.2⟩
  |ret=>exact⟨u.1.kf P,_,e2,u.2⟩
  |exit id=>exact⟨u.1.kf P,_,e2,u.2⟩
  |goto t=>exact⟨u.1.kf P,_,e2,u.2⟩
  |panic ch=>exact u.elim
  |outgrown=>exact u.elim
 grind[IR];rintro D c pre W hD aa⟨b,F,H⟩ hK;rw[a0]at hD;exact X D c b W hD (ajm a7 (by grind)) H hK
end
section
attribute [local go_sem] Oper.semAt_some
attribute [local go_sem] rE
attribute [local simp] rE
def Gq:∀{a:kY},(∀i∈BP a,ld (σ.nm i) s=false)->σ.rN s a=none
 |[],_=>rfl
 |none::_,_=>rfl
 |some i::r,h=>by
  show(if ld (σ.nm i) s then some i else σ.rN s r)=none;rw[h i (by simp[BP])];simp only[ZY,↓reduceIte];exact Gq λj b=>h j (by simp[BP,b])
theorem Gr(b:ld (σ.nm i) s=true):∀{a:kY} {pre:List Nat},pre++[i] <+:BP a->(∀j∈pre,ld (σ.nm j) s=false)->σ.rN s a=some i
 |[],pre,h,_=>by have⟨r,hr⟩:=h;simp[BP]at hr
 |none::_,pre,h,_=>by have⟨r,hr⟩:=h;simp[BP]at hr
 |some k::r,[],h,_=>by
  have⟨t,ht⟩:=h;have e:i=k:=by simp[BP]at ht;exact ht.1
  grind[N.rN]
 |some k::r,p::pre,h,hp=>by
  have⟨t,ht⟩:=h;have e:p=k/\pre++[i]++t=BP r:=by simpa [BP]using ht
  obtain⟨rfl,e2⟩:=e;show(if ld (σ.nm p) s then some p else σ.rN s r)=_;rw[hp p (by simp)];simp only[ZY,↓reduceIte];exact Gr b ⟨t,e2⟩ (λj d=>hp j (by simp[d]))
def Ai(W:J){b:Nat}(h:b≠D):(W.putObj D o).cell? ⟨b,0,none⟩=W.cell? ⟨b,0,none⟩:=ahr (aht h)
theorem Gs(h:RF E f σ w)(s:O):
  Calls prog 273 #[Bp E,Y s] w λe w'=>e=iA (oV f (σ.oO s))/\Z [] w w':=by
 obtain⟨L,rfl,hr⟩:=h;refine(XB (n:=9)).1 ?_;refine abz func273 rfl trivial ?_ rfl;simp only[ntmps273,abw,pG,Kk,Nat.reduceAdd,Nat.reduceSub,sR,yD,wL,yE,abu,yF];obtain⟨p,b⟩:∃p,p=(w.alloc (gH #[Y s] 9)).alloc (gH #[.pointer none] 66):=⟨_,rfl⟩;have I:Z [] w p:=by rw[b];exact((Z.refl _ _).alloc _).alloc _
 have B0:p.heap[w.heap.size]?=some (gH #[Y s] 9):=by rw[b];exact(Below.heap_alloc _ _ _ (by simp)).trans (fU w _)
 have B1:p.heap[w.heap.size+1]?=some (gH #[.pointer none] 66):=by rw[b];have:=fU (w.alloc (gH #[Y s] 9)) (gH #[.pointer none] 66);rwa [Xu]at this
 have d:p.heap.size=w.heap.size+1+1:=by rw[b];simp
 have a0:=hr.ir I;have a4:=hr.lt;have HB:=LC E.bB p;have HN:=(λ(W:J) (U:Z [] w W) (i:Nat) (e:wN) (R:σ.gU i=some e)=>(hr.ir U).wU R);have HA:=(λ(i:Nat) (R:some i∈σ.act)=>hr.wf.act (some i) R);have HO:=(λg (hg:L.cv.ownBlock=some g)=>(hr.ru.lt g hg).2);have HZ:=V d;have HW:=V b;clear d b
 gi_wp2_with fail
 rw[<-HW.out];refine(callsIn_wide.2 HB).mono ?_;rintro e w'⟨rfl,rfl⟩;gi_wp2;refine abq (by omega) a0 rfl [w.heap.size+1] ?_
  (λpre W=>Z [] w W/\W.heap[w.heap.size]?=some (gH #[Y s] 9)/\W.heap[w.heap.size+1]?=some (gH #[.pointer none] 66)/\∀i∈pre,ld (σ.nm i) s=false)
  (λc pre W=>c=.ret/\Z [] w W/\∃a i,pre=a++[i]/\(∀j∈a,ld (σ.nm j) s=false)/\ld (σ.nm i) s=true/\W.heap[w.heap.size+1]?=some (gH #[gI (L.gQ i)] 66))
  ?_ ?_ ?_ (λx=>{tmps:=#[Bp E,Y s,undef,gI w.heap.size,gI (w.heap.size+1),kX (some x),Bp E,Pv p.heap.size,kX (some x),undef,undef,undef,undef,undef,undef,undef],defers:=[]}) ?assign ?body ?done ?stop
 grind;rintro pre A B row⟨h1,h2,q,F⟩ hg hr;have d:=HZ.out;exact⟨nB h1 hg hr (by omega),lB h2 hg hr (by omega),lB q hg hr (by omega),F⟩;rintro c pre A B row⟨h0,h1,a,i,h2,q,F,h5⟩ hg hr;have d:=HZ.out;exact⟨h0,nB h1 hg hr (by omega),a,i,h2,q,F,lB h5 hg hr (by omega)⟩;have U:Z [] p (p.alloc (gH #[Bp E] 117)):=(Z.refl _ _).alloc _;exact⟨I.trans U,U.at B0 (by simp),U.at B1 (by simp),by simp⟩
 case assign=>
  intro l x W K P;gi_wp2;exact P
 case body=>
  rintro l pre i W R⟨u,B2,B3,B4⟩ _;have a2:=HA i R;obtain⟨e0,a1⟩:∃e0,σ.gU i=some e0:=Option.isSome_iff_exists.1 a2;have c0:=HN W u i e0 a1;have c1:=fP B2 0;have C:=fP B3 0;have f3:=gx B3 0;dsimp at c1 C;rw[show kX (some (L.gQ i))=gI (L.gQ i)from rfl];gi_wp2;refine Cr l (by kernel_rfl) (by kernel_rfl) (by rfl) ?_
  repeat (gi_big_quiet_step (fail))
  refine wpQuietIn_nil ?_;intro _ a3;have⟨nq,hw''⟩:=a3;subst hw'';cases hq:ld (σ.nm i) s with
  |true=>
   have HQ:=hq;have H:((σ.nm i).toList==s.toList)=true:=hq;rw[H];gi_wp2;refine⟨((Z.refl [w.heap.size+1] W).drewN nq).setCell (.inl (by simp)) _,rfl,(u.drewN nq).setCell (.inr (by simp)) _,pre,i,rfl,B4,HQ,?_⟩;exact gh (show(W.drewN nq).heap[w.heap.size+1]?=_ from B3) 0 _
  |false=>
   have HQ:=hq;have H:((σ.nm i).toList==s.toList)=false:=hq;rw[H];gi_wp2;refine⟨(Z.refl _ W).drewN nq,u.drewN nq,B2,B3,λy hy=>?_⟩;grind
 case done=>
  rintro D W HD⟨u,h2,q,F⟩ P;have C:=fP q 0;have f3:=gx q 0;dsimp at C;have k:σ.oO s=none:=Gq F;have z:=V k;have HS:=V (qG q 0 (.pointer none) rfl);clear k;gi_wp2;rw[HS.out];refine⟨by simp,.inl ⟨_,_,rfl,N4 P,?_⟩⟩;have d:=HZ.out;have hD:=HD;have c4:(W.putObj D (.deferred none)).cell? ⟨w.heap.size+1,0,none⟩=some (.pointer none):=by rw[<-C];exact Ai W (by omega)
  exact⟨.pointer none,by simp[results,results273,asAddr,Result.andThen,go_sem,c4],by rw[z.out];rfl,u.take (by omega) _⟩
 case stop=>
  rintro D c pre W HD X⟨rfl,u,a,i,rfl,q,F,h5⟩ P;have k:σ.oO s=some i:=Gr F X q;have z:=V k;have C:=fP h5 0;dsimp at C;clear k;gi_wp2;refine⟨by simp,.inl ⟨_,_,rfl,N4 P,?_⟩⟩;have d:=HZ.out;have hD:=HD;have c4:(W.putObj D (.deferred none)).cell? ⟨w.heap.size+1,0,none⟩=some (gI (L.gQ i)):=by rw[<-C];exact Ai W (by omega)
  exact⟨gI (L.gQ i),by simp[results,results273,asAddr,Result.andThen,go_sem,c4],by rw[z.out];rfl,u.take (by omega) _⟩
end
theorem acC(L:lu)(i:Nat)(h:i<L.length):(flat L)[i*2]?=some (Y (L[i]).1)/\(flat L)[i*2+1]?=some (Y (L[i]).2):=by
 induction L generalizing i with
 |nil=>simp at h
 |cons a L ih=>
  cases i with
  |zero=>simp[flat]
  |succ i=>
   grind[flat]
theorem Ad.dP{a:Option Addr}{d:Nat}{gG:lu}(h:Ad w (.slice a gG.length d) gG){k:Nat}(p:k<gG.length):∃g,a=some ⟨g,0,none⟩/\w.cell? ⟨g,k*2,none⟩=some (Y gG[k].1)/\w.cell? ⟨g,k*2+1,none⟩=some (Y gG[k].2):=by
 obtain⟨g,hg⟩:∃g,a=some ⟨g,0,none⟩:=by
  rcases h.2 with⟨e,u⟩|⟨q,b,l,e,_⟩
  all_goals grind
 have⟨f0,f1⟩:=acC gG k p;grind[World.ownsRow.cellAt]
def amW(w:J)(k:Nat)(d:jL)(q:O×O->Bool)(gG:lu):Prop:=
 (∀b w,(callFunc k b).run prog w=.ok (.enter k b) w)/\∀W,Z [] w W->∀a∈gG,Calls prog k (#[.agg #[Y a.1,Y a.2]]++d) W λe W'=>e=iA (.bool (q a))/\Z [] W W'
theorem Rm(k:Nat)(p:jL)(q:O×O->Bool)(K:gP)(gG:lu)(w:J)(hA:Ad w K gG)(hn:gG.length<=4096)(hq:amW w k p q gG):
  Calls prog 363 #[K,.func (.func k) #[] p] w λe w'=>∃n:Int,e=iA (G n)/\decide (0<=n)=gG.any q/\Z [] w w':=by
 have⟨ao,cp,hav⟩:=gz hA;subst hav;have⟨hcf,HC⟩:=hq;have P:=V hA;clear hA;go_enter func363,ntmps363;go_wp21
 go_loopw [8] (λv wr=>∃d:Nat,v=G d/\d<=gG.length/\(∀a∈gG.take d,q a=false)/\Z [] w wr) (λv _=>gG.length-(intOf v).toNat)
 case atStart=>grind[Z.refl]
 case round=>
  obtain⟨d,rfl,a0,z,C⟩:=hrel;by_cases l:d<gG.length
  .obtain⟨g,rfl,c0,c1⟩:=Ad.dP (C.ownsRow P (λ_ _=>by simp)) l;have D:=HC wr C gG[d] (wK l);have HN:=V z;have H:=V C;have F:gG.take (d+1)=gG.take d++[gG[d]]:=by rw[yH,yG l];rfl
   have U:=V F;have u:∀b,q gG[d]=b->(b=true->gG.any q=true):=λb X h=>List.any_eq_true.2 ⟨gG[d],wK l,by rw[X,h]⟩;generalize hqq:q gG[d]=b at D u;have HQ:=hqq;have HY:=V (u b rfl);clear z C F;generalize gG[d].1=x at *;generalize gG[d].2=y at *;go_wp21;refine D.mono ?_;rintro e W3⟨rfl,I⟩;have R:=H.trans I;cases b with
   |true=>
    go_wp2;go_ret;simp_all
   |false=>
    go_wp2;go_roundw
    case rel=>
     grind[Hid.out]
    case measure=>simp[intOf];omega
  .have HF:Hid (gG.any q=false):=V (by
    grind)
   have H:=V C;clear C z;go_wp2;go_ret;exact⟨-1,rfl,by grind[Hid.out],H⟩
def Bb(k:Nat)(a:jL)(q:O×O->Bool)(b:gP)(gG:lu)(w:J)(hA:Ad w b gG)(p:gG.length<=4096)(u:amW w k a q gG):
  Calls prog 341 #[b,.func (.func k) #[] a] w λe w'=>e=iA (.bool (gG.any q))/\Z [] w w':=by
 go_enter func341,ntmps341;go_wp21;refine(Rm k a q b gG w hA p u).mono ?_;rintro e x⟨n,rfl,d,l⟩;have g:=V d;clear d;go_wp2
 all_goals go_ret
 all_goals exact⟨by rw[<-g.out];rfl,l⟩
def aix(b:Nat)(s:O)(a:O×O)(w:J)(g:w.cell? ⟨b,0,none⟩=some (Y s))(d:b<w.heap.size):
  Calls prog 342 #[.agg #[Y a.1,Y a.2],gI b] w λe w'=>e=iA (.bool (ld a.1 s))/\Z [] w w':=by
 go_wp2;go_ret;exact⟨rfl,((Z.refl [] w).alloc _)⟩
def alQ(k:Nat)(g:O)(l:gP)(F kv:gP)(gG:lu)(s:O)(w:J)(y:w.heap[k]?=some (gH #[Y g,l,F,kv] 136))(hA:Ad w l gG)(z:gG.length<=4096):
  Calls prog 314 #[gI k,Y s] w λe w'=>e=iA (.bool (xx gG s))/\Z [] w w':=by
 obtain⟨p,b⟩:∃p,p=w.alloc (gH #[Y s] 9):=⟨_,rfl⟩;have d:Z [] w p:=by rw[b];exact(Z.refl _ _).alloc _
 have H:(w.alloc (gH #[Y s] 9)).cell? ⟨k,1,none⟩=some l:=by rw[<-b,fP (d.at y (by simp))];rfl
 have C:=Bb 342 #[gI w.heap.size] (λa=>ld a.1 s) l gG p (d.ownsRow hA (λ_ _=>by simp)) z ⟨enters_of func342 (by rfl) rfl,λW u a _=>aix w.heap.size s a W (by rw[fP (u.at (by rw[b];exact fU w _) (by simp))];rfl) (ja (u.at (by rw[b];exact fU w _) (by simp)))⟩;have⟨ao,cp,hav⟩:=gz hA;subst hav;have x:=V b.symm;clear b;go_enter func314,ntmps314;go_wp21;rw[x.out];refine C.mono ?_;rintro e I⟨rfl,q⟩;go_wp2;go_ret;exact⟨rfl,(d.trans q)⟩
def sY(a b:O×O):Bool:=ld a.1 b.1&&ld a.2 b.2
theorem aex(x:O×O)(av:gP)(gG:lu)(w:J)(hA:Ad w av gG)(hn:gG.length<=4096):
  Calls prog 368 #[av,.agg #[Y x.1,Y x.2]] w λe w'=>∃n:Int,e=iA (G n)/\decide (0<=n)=gG.any (λy=>sY x y)/\Z [] w w':=by
 have⟨ao,cp,hav⟩:=gz hA;subst hav;obtain⟨K,k⟩:∃K,K=w.alloc (gH #[Y x.1,Y x.2] 292):=⟨_,rfl⟩;have p:Z [] w K:=by rw[k];exact(Z.refl _ _).alloc _
 have b1:K.heap[w.heap.size]?=some (gH #[Y x.1,Y x.2] 292):=by rw[k];exact fU w _
 have HA:=p.ownsRow hA (λ_ _=>by simp);have HW:=V k.symm;have C:=V b1;clear k b1;go_enter func368,ntmps368;go_wp21;rw[HW.out]
 go_loopw [8] (λv wr=>∃b:Nat,v=G b/\b<=gG.length/\(∀a∈gG.take b,sY x a=false)/\Z [] K wr) (λv _=>gG.length-(intOf v).toNat)
 case atStart=>grind[Z.refl]
 case round=>
  obtain⟨b,rfl,a0,z,q⟩:=hrel;by_cases u:b<gG.length
  .obtain⟨g,rfl,c0,c1⟩:=Ad.dP (q.ownsRow HA (λ_ _=>by simp)) u;have d0:=fP (q.at C.out (by simp)) 0;have d1:=fP (q.at C.out (by simp)) 1;dsimp at d0 d1;have HN:=V z;have F:=V q;have I:gG.take (b+1)=gG.take b++[gG[b]]:=by rw[yH,yG u];rfl
   have H:=V I;have HY:=V (λ(h:sY x gG[b]=true)=>List.any_eq_true.2 ⟨gG[b],wK u,h⟩);have HP:=(show sY x gG[b]=(ld x.1 gG[b].1&&ld x.2 gG[b].2)from rfl);clear z q I;generalize gG[b]=y at *;have⟨y0,y1⟩:=y;obtain⟨U,X⟩:=x;simp only[]at *;have l:∀(R:Bool),(ld U y0&&ld X y1)=R->sY (U,X) (y0,y1)=R:=λR h=>h;by_cases e0:U.toList=y0.toList
   .by_cases e1:X.toList=y1.toList
    .have P:=V (l true (by unfold ld;grind));go_wp2_with fail;go_region
     all_goals (try go_wp2)
     all_goals (try go_ret)
     all_goals exact⟨(b:Int),rfl,by grind[Hid.out],p.trans F.drew⟩
    .have P:=V (l false (by unfold ld;grind));go_wp21;go_region
     all_goals (try go_wp2)
     all_goals (try go_roundw)
     all_goals first
      |(case rel=>
        refine⟨b+1,by go_num,by omega,λa d=>?_,F.drew⟩;rw[H.out]at d;rcases List.mem_append.1 d with d|d;exact HN a d;rw[List.mem_singleton.1 d];exact P)
      |(case measure=>simp[intOf];omega)
      |skip
   .have P:=V (l false (by grind[ld]));go_wp21;go_region
    all_goals (try go_wp2)
    all_goals (try go_roundw)
    all_goals first
     |(case rel=>
       refine⟨b+1,by go_num,by omega,λa d=>?_,F.drew⟩;rw[H.out]at d;rcases List.mem_append.1 d with d|d;exact HN a d;rw[List.mem_singleton.1 d];exact P)
     |(case measure=>simp[intOf];omega)
     |skip
  .have HF:Hid (gG.any (λy=>sY x y)=false):=V (by
    grind)
   have F:=V q;clear q z;go_wp2;go_ret;exact⟨-1,rfl,by grind[Hid.out],p.trans F⟩
def Ue(x:O×O)(b:gP)(gG:lu)(w:J)(hA:Ad w b gG)(l:gG.length<=4096):
  Calls prog 347 #[b,.agg #[Y x.1,Y x.2]] w λe w'=>e=iA (.bool (gG.any λy=>sY x y))/\Z [] w w':=by
 have a:=(Z.refl [] w).alloc (gH #[Y x.1,Y x.2] 292);have C:=aex x b gG _ (a.ownsRow hA (λ_ _=>by simp)) l;have⟨ao,cp,hav⟩:=gz hA;subst hav;go_enter func347,ntmps347;go_wp21;refine C.mono ?_;rintro e p⟨n,rfl,d,k⟩;have g:=V d;clear d;go_wp2
 all_goals go_ret
 all_goals exact⟨by rw[<-g.out];rfl,(a.trans k)⟩
def af0(b k:Nat)(u:O)(x pv kv:gP)(gG:lu)(a:O×O)(w:J)(X:w.heap[b]?=some (gH #[gI k] 66))(F:w.heap[k]?=some (gH #[Y u,x,pv,kv] 136))(hA:Ad w x gG)(hn:gG.length<=4096):
  Calls prog 346 #[.agg #[Y a.1,Y a.2],gI b] w λe w'=>e=iA (.bool (!(gG.any λy=>sY a y)))/\Z [] w w':=by
 obtain⟨l,g⟩:∃l,l=w.alloc (gH #[Y a.1,Y a.2] 292):=⟨_,rfl⟩;have d:Z [] w l:=by rw[g];exact(Z.refl _ _).alloc _
 have z:l.heap[w.heap.size]?=some (gH #[Y a.1,Y a.2] 292):=by rw[g];exact fU w _
 have K:=fP z 0;have P:=fP z 1;have R:=fP (d.at X (by simp)) 0;have U:=fP (d.at F (by simp)) 1;dsimp at K P R U;have a0:k<l.heap.size:=ja (d.at F (by simp));have C:=(λq=>Ue a x gG (l.drewN q) ((d.drewN q).ownsRow hA (λ_ _=>by simp)) hn);have⟨ao,cp,hav⟩:=gz hA;subst hav;have I:=V g.symm;clear g;go_enter func346,ntmps346;go_wp21;rw[I.out]
 go_region_with (go_at_call 347;refine(C 1).mono ?_;rintro e w2⟨rfl,p⟩;have H:=V ((d.drewN 1).trans p);clear p)
 all_goals (try go_wp2)
 all_goals (try go_ret)
 all_goals exact⟨rfl,H⟩
def aic(E:Env)(x:Nat×Nat×O):iG E (ol x)=RH x:=rfl
def VE(E:Env)(x:Nat×Nat×O)(w:J):Calls prog 225 #[RH x] w λe w'=>e=iA (.bool (!mJ x.2.2))/\Z [] w w':=by
 have a:=Ak E (ol x) w;rw[aic]at a;have k:=(λW=>MA x.2.2 W);have l:(ol x).chars=x.2.2:=rfl;rw[l]at a;generalize RH x=v at *;generalize x.2.2=s at *;go_enter func225,ntmps225;go_wp21;refine a.mono ?_;rintro e p⟨rfl,b⟩;go_wp21;refine(k p).mono ?_;rintro e q⟨rfl,g⟩;have d:=b.trans g;go_wp2;go_ret;exact⟨rfl,d⟩
theorem ala.at{base:Nat}{a:Option Addr}{d:Nat}{xs:List (Nat×Nat×O)}(h:w.ownsRow base 121 1 (.slice a xs.length d) xs.length (xs.map RH)){k:Nat}(p:k<xs.length):∃g,a=some ⟨g,0,none⟩/\w.cell? ⟨g,k,none⟩=some (RH xs[k]):=by
 obtain⟨g,hg⟩:∃g,a=some ⟨g,0,none⟩:=by
  rcases h.2 with⟨e,u⟩|⟨q,b,l,e,_⟩
  all_goals grind
 subst hg;exact⟨g,rfl,by rw[h.cellAt k (by omega)];simp[p]⟩
theorem Tj(E:Env)(base:Nat)(H:gP)(xs:List (Nat×Nat×O))(w:J)(hA:w.ownsRow base 121 1 H xs.length (xs.map RH))(hn:xs.length<=4096):
  Calls prog 287 #[H,.func (.func 225) #[] #[]] w λe w'=>∃n:Int,e=iA (G n)/\decide (0<=n)=(xs.any λx=>!mJ x.2.2)/\Z [] w w':=by
 have⟨ao,cp,hav⟩:=gz hA;subst hav;have a0:=enters_of func225 (by rfl) rfl;have K:=(λW x=>VE E x W);have I:=V hA;clear hA;go_enter func287,ntmps287;go_wp21
 go_loopw [8] (λv wr=>∃d:Nat,v=G d/\d<=xs.length/\(∀a∈xs.take d,(!mJ a.2.2)=false)/\Z [] w wr) (λv _=>xs.length-(intOf v).toNat)
 case atStart=>exact⟨0,rfl,xj _,by simp,Z.refl _ _⟩
 case round=>
  obtain⟨d,rfl,a1,l,q⟩:=hrel;by_cases u:d<xs.length
  .obtain⟨g,rfl,U⟩:=ala.at (q.ownsRow I (λ_ _=>by simp)) u;have D:=K wr xs[d];have R:=V l;have y:=V q;have C:=V (show xs.take (d+1)=xs.take d++[xs[d]] by simp);have k:∀b,(!mJ xs[d].2.2)=b->(b=true->(xs.any λx=>!mJ x.2.2)=true):=λb X h=>List.any_eq_true.2 ⟨xs[d],wK u,by rw[X,h]⟩;generalize hqq:(!mJ xs[d].2.2)=b at D k;have HQ:=hqq;have HY:=V (k b rfl);clear l q;rw[show RH xs[d]=.iface 184 (.agg #[G (xs[d].1),G (xs[d].2.1),Y xs[d].2.2])from rfl]at U D;go_wp21;refine D.mono ?_;rintro e W3⟨rfl,F⟩;have z:=y.trans F;cases b with
   |true=>
    go_wp2;go_ret;simp_all
   |false=>
    go_wp2;go_roundw
    case rel=>
     refine⟨d+1,by go_num,by omega,λa p=>?_,z⟩;rw[C.out]at p;rcases List.mem_append.1 p with p|p;exact R a p;grind
    case measure=>simp[intOf];omega
  .have P:Hid ((xs.any λx=>!mJ x.2.2)=false):=V (by
    grind)
   have y:=V q;clear q l;go_wp2;go_ret;exact⟨-1,rfl,by rw[P.out];rfl,y⟩
def KO(E:Env)(base:Nat)(a:gP)(xs:List (Nat×Nat×O))(w:J)(hA:w.ownsRow base 121 1 a xs.length (xs.map RH))(k:xs.length<=4096):
  Calls prog 224 #[a,.func (.func 225) #[] #[]] w λe w'=>e=iA (.bool (xs.any λx=>!mJ x.2.2))/\Z [] w w':=by
 have C:=Tj E base a xs w hA k;go_enter func224,ntmps224;go_wp21;refine C.mono ?_;rintro e l⟨n,rfl,b,g⟩;have d:=V b;clear b;go_wp2
 all_goals go_ret
 all_goals exact⟨by rw[<-d.out];rfl,g⟩
attribute [local go_sem] Oper.semAt_some
def lM(a rec:Nat->gF->M Unit)(t:gF):M Unit:=do
 oM a
 uL λσ=>{σ with waiting:=[],mode:=σ.kept}
 jF rec t
 return ()
def Env.lock(E:Env)(v:gP)(a:List (Nat×Nat×O)):Env:={E with wv:=some (v,a)}
def Rel.lock(h:Rel E L σ w):Rel (E.lock L.wv σ.waiting) L σ w:=by
 have⟨C,hb,hC⟩:=h.il;exact
  {fr:=h.fr,env:=⟨h.env.J8,h.env.Xg,h.env.spec,h.env.acF,h.env.ab2,h.env.wA⟩,Gv:=h.Gv,uz:=h.uz,inj:=h.inj,Dk:=h.Dk,JS:=h.JS,uq:=h.uq,H6:=h.H6,wf:=h.wf
   il:=⟨C,hb,⟨hC.size,hC.low,hC.gq,hC.act,hC.head,hC.form,hC.mode,hC.kept,hC.wait,hC.Mi,hC.jA,hC.gQ,hC.behind⟩⟩
   qv:=h.qv,ru:=h.ru,JY:=h.JY,yK:=h.yK,Ie:=h.Ie,qm:=h.qm,Pl:=h.Pl,rd:=h.rd,Wp:=h.Wp,tok:=h.tok,Ph:=h.Ph,bz:=h.bz,bB:=h.bB,bR:=h.bR,bN:=h.bN,BI:=h.BI,ab:=h.ab,tb:=h.tb
   Pk:=λp a=>by cases a;simp}
theorem Rel.unlock{b:List (Nat×Nat×O)}(h:Rel (E.lock v b) L σ w)(a:E.wv=none):Rel E L σ w:=by
 have⟨C,hb,hC⟩:=h.il;exact
  {fr:=h.fr,env:=⟨h.env.J8,h.env.Xg,h.env.spec,h.env.acF,h.env.ab2,h.env.wA⟩,Gv:=h.Gv,uz:=h.uz,inj:=h.inj,Dk:=h.Dk,JS:=h.JS,uq:=h.uq,H6:=h.H6,wf:=h.wf
   il:=⟨C,hb,⟨hC.size,hC.low,hC.gq,hC.act,hC.head,hC.form,hC.mode,hC.kept,hC.wait,hC.Mi,hC.jA,hC.gQ,hC.behind⟩⟩
   qv:=h.qv,ru:=h.ru,JY:=h.JY,yK:=h.yK,Ie:=h.Ie,qm:=h.qm,Pl:=h.Pl,rd:=h.rd,Wp:=h.Wp,tok:=h.tok,Ph:=h.Ph,bz:=h.bz,bB:=h.bB,bR:=h.bR,bN:=h.bN,BI:=h.BI,ab:=h.ab,tb:=h.tb
   Pk:=λp d=>by grind}
def At.unlock{b:List (Nat×Nat×O)}(h:At (E.lock v b) f0 n0 w0 f σ w)(a:E.wv=none):At E f0 n0 w0 f σ w:=by
 have⟨L,e,hr⟩:=h.rel;exact⟨⟨L,e,hr.unlock a⟩,h.ext,h.le,h.fr,h.hw⟩
theorem M.Pt{α β b:Type}(m:M α)(k:α->M β)(g:β->M b)(σ:N):((m>>=k)>>=g) σ=(m>>=λa=>k a>>=g) σ:=by
 grind[gw]
theorem Rel.Sw(h:Rel E L σ w)(b:E.wv=none):Rel E {L with wv:=jD} {σ with waiting:=[]} (w.setCell ⟨E.bB,194,none⟩ (jD)):=by
 have⟨C,hb,hC⟩:=h.il;have a:Z [E.bB] w (w.setCell ⟨E.bB,194,none⟩ (jD)):=(Z.refl _ w).setCell (.inl (by simp)) _;have d:KT E.bs [176,121] w _:=.j9 a (λk a _=>by grind[bB]);grind[anW,gh,World.ownsRow_nil]
def At.Sw(h:At E f0 n0 w0 f σ w)(b:E.wv=none):At E f0 n0 w0 f {σ with waiting:=[]} (w.setCell ⟨E.bB,194,none⟩ (jD)):=by
 have⟨L,e,hr⟩:=h.rel;refine h.to ⟨{L with wv:=jD},e,hr.Sw b⟩ (ic _) ?_;have⟨C,hb,hC⟩:=hr.il;have a:Z [E.bB] w (w.setCell ⟨E.bB,194,none⟩ (jD)):=(Z.refl _ w).setCell (.inl (by simp)) _;exact .j9 a (λk a=>by simp at a;subst a;exact⟨⟨_,_,_,hb,by decide⟩,hr.bB⟩)
def LZ(a:Nat->gF->M Unit)(b:Bool)(x:Nat×Nat×O):M Unit:=if b then qC a (ol x)else jK (ol x)
def sr(a:Nat->gF->M Unit)(b:Bool):List (Nat×Nat×O)->M Unit
 |[]=>pure ()
 |x::r=>do
  LZ a b x
  sr a b r
def FU(a:Nat->gF->M Unit)(b:Bool)(x:Nat×Nat×O)(r:List (Nat×Nat×O)):sr a b (x::r)=(LZ a b x>>=λ_=>sr a b r):=rfl
def PC(a:Nat->gF->M Unit):∀b,sr a true b=uv a b
 |[]=>rfl
 |x::r=>by unfold sr uv;rw[PC a r];rfl
def PB(a:Nat->gF->M Unit):∀b,sr a false b=uw b
 |[]=>rfl
 |x::r=>by unfold sr uw;rw[PB a r];rfl
theorem Md(E:Env)(a3:E.wv=none)(a rec:Nat->gF->M Unit)(aa:∀v ws (m:Nat) (t:gF),jo E t->jk (E.lock v ws) 162 (λ_=>#[Bp E,G m,iG E t]) (a m t) uV)(hA:∀(m:Nat)(t:gF),jo E t->jk E 162 (λ_=>#[Bp E,G m,iG E t]) (rec m t) uV)(t:gF)(ht:jo E t):jk E 128 (λ_=>#[Bp E,iG E t]) (lM a rec t) uV:=by
 intro f σ w h HS;have⟨L,hL,hr⟩:=h;obtain⟨R,F⟩:∃R,R=lM a rec t σ:=⟨_,rfl⟩;rw[<-F]at HS|-;obtain⟨fo,a5⟩:∃fo,fo=σ.waiting.any λx=>!mJ x.2.2:=⟨_,rfl⟩;obtain⟨b,a2⟩:∃b,b=σ.waiting:=⟨_,rfl⟩;obtain⟨v0,a1⟩:∃v0,v0=L.wv:=⟨_,rfl⟩;have ab:R=(sr a fo b>>=λ_=>(do
   uL λσ=>{σ with waiting:=[],mode:=σ.kept}
   jF rec t
   return ():M Unit)) σ:=by
  rw[F];unfold lM;rw[M.gw,M.gw];have e1:oM a σ=sr a fo b σ:=by
   unfold oM;rw[<-a5,a2];cases fo;rw[PB];rfl;rw[PC];rfl
  rw[e1]
 have a6:=hr.lock;rw[<-a1,<-a2]at a6;have H:=At.start (E:=E.lock v0 b) ⟨L,hL,a6⟩;have C1:=KO E E.bs L.wv σ.waiting w hr.qm hr.Pl;rw[<-a5,<-a1]at C1;have a7:=hr.qm;rw[<-a1,<-a2]at a7;have⟨ao,cp,hsh⟩:=gz a7;have ai:b.length<=4096:=by rw[a2];exact hr.Pl
 have c0:=hr.ah8;rw[<-a1,hsh]at c0;rw[hsh]at C1;have K:=hr.lt;have ah:∀(fn:Fn)(first a9:jL)(w:J),(Instr.makeFunc fn first a9).run prog w=.ok (.func fn first a9) w:=λ_ _ _ _=>rfl;have ag:=enters_of func100 (by rfl) rfl;have af:=enters_of func126 (by rfl) rfl;have l:=V ab;have a8:=V hsh;have HE:∀x:Nat×Nat×O,jk (E.lock v0 b) (if fo then 126 else 100) (λ_=>#[Bp E,RH x]) (LZ a fo x) uV:=by
  intro x;cases fo with
  |true=>exact F5 (E.lock v0 b) a (λm t ht=>aa v0 b m t ht) (ol x) (λh=>by cases h)
  |false=>exact xy (E.lock v0 b) (iP _) (ol x)
 have HA:=hA;clear F ab a6 a7 hsh hr hL hA aa a5 a2 a1;cases fo with
 |true=>
  have a4:Hid (∀x:Nat×Nat×O,jk (E.lock v0 b) 126 (λ_=>#[Bp E,RH x]) (LZ a true x) uV):=HE;clear HE;go_enter func128,ntmps128;go_wp21;refine C1.mono ?_;rintro e w1⟨rfl,y⟩;have c1:=(y.cell (p:=⟨E.bB,194,none⟩) K (by simp)).trans c0;have X:E.bB<w1.heap.size:=nr K y.size;replace H:=H.k0 y;clear y C1;go_wp21
  go_loopw [21] (λv wr=>∃(k:Nat)(g:Nat->Nat)(σ':N),v=G k/\k<=b.length/\R=(sr a true (b.drop k)>>=λ_=>(do
   uL λσ=>{σ with waiting:=[],mode:=σ.kept}
   jF rec t
   return ():M Unit)) σ'/\At (E.lock v0 b) f σ.nodes.length w g σ' wr) (λv _=>b.length-(intOf v).toNat)
  case atStart=>exact⟨0,f,σ,rfl,xj _,l,H⟩
  case round=>
   clear H l c0 c1 K X;obtain⟨k,g,σ',rfl,ac,F,q⟩:=hrel;by_cases a0:k<b.length
   .have⟨L',hL',hr'⟩:=q.rel;have⟨e1,e2⟩:=hr'.Pk _ rfl;have d:=hr'.qm;rw[e1,e2]at d;dsimp only at d;rw[a8.out]at d;obtain⟨gb,rfl,c5⟩:=ala.at d a0;rw[NW a0]at F;have u:R=(LZ a true b[k]>>=λ_=>sr a true (b.drop (k+1))>>=λ_=>(do
      uL λσ=>{σ with waiting:=[],mode:=σ.kept}
      jF rec t
      return ():M Unit)) σ':=by
     rw[F,FU,M.Pt]
    replace H:=q;have l:=V u;have U:=a4 b[k];clear F u q d e1 e2 hr' hL';rw[show RH b[k]=.iface 184 (.agg #[G (b[k].1),G (b[k].2.1),Y b[k].2.2])from rfl]at c5 U;go_wp21;refine dC (U) H l HS rfl (λ_ _ _ _ h=>And.intro rfl (lS h)) ?_;clear H l;rintro(_) f σ w H HX HF l;go_wp2;go_roundw
    case rel=>exact⟨k+1,f,σ,by go_num,by omega,l,H⟩
    case measure=>simp[intOf];omega
   .have u:R=(jF rec t>>=λ_=>(Pure.pure ():M Unit)) {σ' with waiting:=[],mode:=σ'.kept}:=by
     rw[F,QT (by omega)];rfl
    have P:=(q.unlock a3);obtain⟨z,C,c4⟩:∃z C,wr.cell? ⟨E.bB,194,none⟩=some (.slice z σ'.waiting.length C):=by
     have⟨L4,_,hr4⟩:=P.rel;have⟨z,C,e4⟩:=gz hr4.qm;grind[Rel.ah8]
    have f4:=P.free 194;have ad:=P.lt;have I:=P.Sw a3;have c5:=I.XZ;have c6:=I.tf;have f6:=I.free 192;have ae:=I.lt;have H:=I.jm σ'.kept;have l:=V u;clear F u q P I;go_wp21;refine dC (vq E rec HA t ht) H l HS rfl (λ_ _ _ _ h=>And.intro rfl (lS h)) ?_;clear H l;rintro(_) f σ w H HX HF l;go_wp2;go_end0;exact gu l H rfl
 |false=>
  have a4:Hid (∀x:Nat×Nat×O,jk (E.lock v0 b) 100 (λ_=>#[Bp E,RH x]) (LZ a false x) uV):=HE;clear HE;go_enter func128,ntmps128;go_wp21;refine C1.mono ?_;rintro e w1⟨rfl,y⟩;have c1:=(y.cell (p:=⟨E.bB,194,none⟩) K (by simp)).trans c0;have X:E.bB<w1.heap.size:=nr K y.size;replace H:=H.k0 y;clear y C1;go_wp21
  go_loopw [21] (λv wr=>∃(k:Nat)(g:Nat->Nat)(σ':N),v=G k/\k<=b.length/\R=(sr a false (b.drop k)>>=λ_=>(do
   uL λσ=>{σ with waiting:=[],mode:=σ.kept}
   jF rec t
   return ():M Unit)) σ'/\At (E.lock v0 b) f σ.nodes.length w g σ' wr) (λv _=>b.length-(intOf v).toNat)
  case atStart=>exact⟨0,f,σ,rfl,xj _,l,H⟩
  case round=>
   clear H l c0 c1 K X;obtain⟨k,g,σ',rfl,ac,F,q⟩:=hrel;by_cases a0:k<b.length
   .have⟨L',hL',hr'⟩:=q.rel;have⟨e1,e2⟩:=hr'.Pk _ rfl;have d:=hr'.qm;rw[e1,e2]at d;dsimp only at d;rw[a8.out]at d;obtain⟨gb,rfl,c5⟩:=ala.at d a0;rw[NW a0]at F;have u:R=(LZ a false b[k]>>=λ_=>sr a false (b.drop (k+1))>>=λ_=>(do
      uL λσ=>{σ with waiting:=[],mode:=σ.kept}
      jF rec t
      return ():M Unit)) σ':=by
     rw[F,FU,M.Pt]
    replace H:=q;have l:=V u;have U:=a4 b[k];clear F u q d e1 e2 hr' hL';rw[show RH b[k]=.iface 184 (.agg #[G (b[k].1),G (b[k].2.1),Y b[k].2.2])from rfl]at c5 U;go_wp21;refine dC (U) H l HS rfl (λ_ _ _ _ h=>And.intro rfl (lS h)) ?_;clear H l;rintro(_) f σ w H HX HF l;go_wp2;go_roundw
    case rel=>exact⟨k+1,f,σ,by go_num,by omega,l,H⟩
    case measure=>simp[intOf];omega
   .have u:R=(jF rec t>>=λ_=>(Pure.pure ():M Unit)) {σ' with waiting:=[],mode:=σ'.kept}:=by
     rw[F,QT (by omega)];rfl
    have P:=(q.unlock a3);obtain⟨z,C,c4⟩:∃z C,wr.cell? ⟨E.bB,194,none⟩=some (.slice z σ'.waiting.length C):=by
     have⟨L4,_,hr4⟩:=P.rel;have⟨z,C,e4⟩:=gz hr4.qm;grind[Rel.ah8]
    have f4:=P.free 194;have ad:=P.lt;have I:=P.Sw a3;have c5:=I.XZ;have c6:=I.tf;have f6:=I.free 192;have ae:=I.lt;have H:=I.jm σ'.kept;have l:=V u;clear F u q P I;go_wp21;refine dC (vq E rec HA t ht) H l HS rfl (λ_ _ _ _ h=>And.intro rfl (lS h)) ?_;clear H l;rintro(_) f σ w H HX HF l;go_wp2;go_end0;exact gu l H rfl
attribute [local go_sem] Oper.semAt_some
def Kv(a:M Unit)(t:gF):M Unit:=λσ=>if σ.inScope (gO [t.name]) Cv then a σ else .ok () σ
def TP(E:Env)(v:gP)(p:O->Bool)(W:J):Prop:=∃k lb,v=.func (.func k) #[] lb/\Ask E.bm v p W
def TP.k{E:Env}{v:gP}{p:O->Bool}{W W':J}(h:TP E v p W)(a:Z [] W W'):TP E v p W':=by
 have⟨k,lb,e,ha⟩:=h;exact⟨k,lb,e,ha.k0 a⟩
def dK(s:O)(v:gP)(W:J):Prop:=∃g,v=nX g 1 1/\W.heap[g]?=some (gH #[Y s] 9)
def dK.k{s:O}{v:gP}{W W':J}(h:dK s v W)(a:Z [] W W'):dK s v W':=by
 have⟨g,e,hb⟩:=h;exact⟨g,e,a.at hb (by simp)⟩
structure fK(E:Env)(t:gF)(σ:N)(ta tb:Int)(tao:Option Addr)(tn tcp:Nat)(W0:J)(z0 z1 z2 z3 z4 z5 z6 z7:Bool)(s4 s5 s6 s7 s8 s9 s10 s11:gP)(W:J):Prop where
 f0:z0=true->s4=iD E.bB
 f1:z1=true->s5=iG E t
 f2:z2=true->s6=.agg #[G ta,G tb,Y t.name,.slice tao tn tcp]
 f3:z3=true->s7=Y t.name
 f4:z4=true->dK t.name s8 W
 f5:z5=true->TP E s9 (gO [t.name]) W
 f6:z6=true->TP E s10 Cv W
 f7:z7=true->s11=.bool (σ.inScope (gO [t.name]) Cv)
 d2:z2=true->z1=true
 d3:z3=true->z2=true
 d4:z4=true->z3=true
 d5:z5=true->z4=true
 d7:z7=true->z0=true/\z5=true/\z6=true
 wi:Z [] W0 W
theorem Sb(E:Env)(t:gF)(r:Ru)(U:M Unit)(hr:ni E r t U)(b1 b2:Nat)(u:gP)(h:RF E f σ w)(hs:Kv U t σ≠ .stuck)(lV:box w b1 (iD E.bB) 117)(P:box w b2 u 164)(hu:oI E.bm E.bB (f 0) r u w):
  Calls prog 228 #[iG E t,iD b1,iD b2] w (Leaves E f σ.nodes.length w (Kv U t σ) uV):=by
 obtain⟨R,hR⟩:∃R,R=Kv U t σ:=⟨_,rfl⟩;rw[<-hR]at hs|-;have⟨ta,tb,tao,tn,tcp,HTG⟩:=Hd E t h;have a3:=(λw=>Cy ta tb t.name tao tn tcp w);have X:=V h;have HS:=hs;have HR:=V hR;have a1:=V P;have HU:=hu;have a8:=hr;have a2:=(λW (hk:Z [] w W)=>(by rw[fP (hk.at lV (by simp))];rfl:W.cell? ⟨b1,0,none⟩=some (iD E.bB)));clear h hR P;go_enter func228,ntmps228;go_wp21;refine Xz (by rfl) ?_
 try (change wpAny _ _ _ _ _ _ _ (World.drew _))
 refine Jb (I:=λq ac W=>∃z0 z1 z2 z3 z4 z5 z6 z7 s4 s5 s6 s7 s8 s9 y z,q=#[z0,z1,z2,z3,z4,z5,z6,z7]/\ac=⟨#[iG E t,iD b1,iD b2,undef,s4,s5,s6,s7,s8,s9,y,z,undef,undef,undef],[]⟩/\fK E t σ ta tb tao tn tcp w z0 z1 z2 z3 z4 z5 z6 z7 s4 s5 s6 s7 s8 s9 y z W) ?_ ?_ _ _ _ _ ?_ ?_
 .rintro q a W k⟨z0,z1,z2,z3,z4,z5,z6,z7,s4,s5,s6,s7,s8,s9,y,z,rfl,rfl,b⟩ hi;simp only[Region.ready,Xv,Xy]at hi;have⟨a0,hc⟩:=hi;have a0:k<8:=a0;obtain rfl|rfl|rfl|rfl|rfl|rfl|rfl|rfl:k=0\/k=1\/k=2\/k=3\/k=4\/k=5\/k=6\/k=7:=by omega
  all_goals simp[Region.binds]at hc
  .refine N2 rfl ?_;intro F l;have ad:z0=false:=by simp[hc]
   have cc:=a2 W b.wi;go_simp;refine l _ _ ⟨_,_,_,_,_,_,_,_,_,_,_,_,_,_,_,_,rfl,rfl,?_⟩;exact {b with f0:=(λ_=>rfl),d7:=(λhh=>by have h2:=(b.d7 hh).1;grind)}
  .refine N2 rfl ?_;intro F l;have lV:z1=false:=by simp[hc]
   go_simp;refine l _ _ ⟨_,_,_,_,_,_,_,_,_,_,_,_,_,_,_,_,rfl,rfl,?_⟩;exact {b with f1:=(λ_=>rfl),d2:=(λ_=>rfl)}
  .refine N2 rfl ?_;intro F l;have P:z2=false:=by simp[hc]
   have e1:=b.f1 (by simp[hc]);subst e1;go_simp;refine(HTG W).mono ?_;rintro e W2⟨rfl,d⟩;refine l _ _ ⟨_,_,_,_,_,_,_,_,_,_,_,_,_,_,_,_,rfl,rfl,?_⟩;exact {b with f2:=(λ_=>rfl),f4:=(λh=>(b.f4 h).k d),f5:=(λh=>(b.f5 h).k d),f6:=(λh=>(b.f6 h).k d),d2:=(λ_=>by simp[hc]),d3:=(λ_=>rfl),wi:=(b.wi.trans d)}
  .refine N2 rfl ?_;intro F l;have ae:z3=false:=by simp[hc]
   have e2:=b.f2 (by simp[hc]);subst e2;have aj:=a3;go_simp;refine l _ _ ⟨_,_,_,_,_,_,_,_,_,_,_,_,_,_,_,_,rfl,rfl,?_⟩;exact {b with f3:=(λ_=>rfl),d3:=(λ_=>by simp[hc]),d4:=(λ_=>rfl)}
  .refine N2 rfl ?_;intro F l;have af:z4=false:=by simp[hc]
   have e3:=b.f3 (by simp[hc]);subst e3;go_simp;have ka:Z [] W (W.alloc (gH #[Y t.name] 9)):=(Z.refl _ _).alloc _;refine l _ _ ⟨_,_,_,_,_,_,_,_,_,_,_,_,_,_,_,_,rfl,rfl,?_⟩;exact {b with f4:=(λ_=>⟨_,rfl,fU W _⟩),f5:=(λh=>(b.f5 h).k ka),f6:=(λh=>(b.f6 h).k ka),d4:=(λ_=>by simp[hc]),d5:=(λ_=>rfl),wi:=(b.wi.trans ka)}
  .refine N2 rfl ?_;intro F l;have ag:z5=false:=by simp[hc]
   have e4:=b.f4 (by simp[hc]);have⟨g,e4,hg⟩:=b.f4 (by simp[hc]);subst e4;go_simp;refine(Si E.bm g 1 [t.name] W hg (by simp)).mono ?_;rintro e W2⟨⟨v,rfl,ha⟩,d⟩;refine l _ _ ⟨_,_,_,_,_,_,_,_,_,_,_,_,_,_,_,_,rfl,rfl,?_⟩;exact {b with f4:=(λ_=>⟨g,rfl,d.at hg (by simp)⟩),f5:=(λ_=>(by have⟨k,lb,e,_,_⟩:=ha.call;exact⟨k,lb,e,ha⟩)),f6:=(λh=>(b.f6 h).k d),d5:=(λ_=>by simp[hc]),d7:=(λhh=>by have h2:=(b.d7 hh).2.1;grind),wi:=(b.wi.trans d)}
  .refine N2 rfl ?_;intro F l;have ah:z6=false:=by simp[hc]
   go_simp;refine(yw E W).mono ?_;rintro e W2⟨k,lb,rfl,ha,d⟩;refine l _ _ ⟨_,_,_,_,_,_,_,_,_,_,_,_,_,_,_,_,rfl,rfl,?_⟩;exact {b with f4:=(λh=>(b.f4 h).k d),f5:=(λh=>(b.f5 h).k d),f6:=(λ_=>⟨k,lb,rfl,ha⟩),d7:=(λhh=>by have h2:=(b.d7 hh).2.2;grind),wi:=(b.wi.trans d)}
  .refine N2 rfl ?_;intro F l;have ai:z7=false:=by simp[hc]
   have e0:=b.f0 (by simp[hc]);subst e0;have a5:=b.f5 (by simp[hc]);have a6:=b.f6 (by simp[hc]);go_simp;refine(xN (X.ir b.wi) (gO [t.name]) Cv _ _ a5.choose_spec.choose_spec.2 a6.choose_spec.choose_spec.2).mono ?_;rintro e W2⟨rfl,d⟩;refine l _ _ ⟨_,_,_,_,_,_,_,_,_,_,_,_,_,_,_,_,rfl,rfl,?_⟩;exact {b with f4:=(λh=>(b.f4 h).k d),f5:=(λh=>(b.f5 h).k d),f6:=(λh=>(b.f6 h).k d),f7:=(λ_=>rfl),d7:=(λ_=>by simp[hc]),wi:=(b.wi.trans d)}
 .rintro q a W⟨z0,z1,z2,z3,z4,z5,z6,z7,s4,s5,s6,s7,s8,s9,y,z,rfl,rfl,b⟩ hr;simp only[Region.ready,abx,Xy]at hr;have q0:=hr 0 (by decide);simp[Region.binds]at q0;subst q0;have q1:=hr 1 (by decide);simp[Region.binds]at q1;subst q1;have q2:=hr 2 (by decide);simp[Region.binds]at q2;subst q2;have q3:=hr 3 (by decide);simp[Region.binds]at q3;subst q3;have q4:=hr 4 (by decide);simp[Region.binds]at q4;subst q4;have q5:=hr 5 (by decide);simp[Region.binds]at q5;subst q5;have q6:=hr 6 (by decide);simp[Region.binds]at q6;subst q6;have q7:=hr 7 (by decide);simp[Region.binds]at q7;subst q7;have e7:=b.f7 rfl;subst e7;have H:=(At.start X).k0 b.wi;have C:=V b.wi;clear b;cases hq:σ.inScope (gO [t.name]) Cv with
  |false=>
   have a7:=(show R=.ok () σ by rw[HR.out];unfold Kv;rw[hq];rfl);go_wp2;go_end0;exact gu a7 H rfl
  |true=>
   have K:R=U σ:=by rw[HR.out];unfold Kv;rw[hq];rfl
   have aa:U σ≠ .stuck:=by rw[<-K];exact HS
   have ab:=oI.fr HU (Fr.n (bs:=E.bs) (.ib C) E.bm);have⟨k,bs,cs,hv,eg,HC⟩:=a8 u f σ W H.rel ab aa;subst hv;have c2:=fP (C.out.at a1.out (by simp)) 0;dsimp at c2;have a9:=V K;clear K;go_wp21;refine HC.mono ?_;intro e W2 hL;have HL:=V hL;have a4:=Fr.ib (bs:=E.bs) C;clear hL;have x:=V a9;cases hrr:U σ with
   |ok a σ2=>
    rw[hrr]at HL x;obtain⟨g,g1,g2,rfl,g4,g5⟩:=HL;have HG:=H.go g4 g1 g2 g5;go_wp2;go_end0;exact gu x HG rfl
   |stop c p=>
    rw[hrr]at HL x;obtain⟨j,rfl,G2,g3⟩:=HL;have G3:=a4.trans g3;go_wp2;exact⟨rfl,qx x G2 G3⟩
   |stuck=>grind
 decide;exact⟨_,_,_,_,_,_,_,_,_,_,_,_,_,_,_,_,rfl,rfl,⟨(by simp),(by simp),(by simp),(by simp),(by simp),(by simp),(by simp),(by simp),(by simp),(by simp),(by simp),(by simp),(by simp),((Z.refl _ _).drew)⟩⟩
def MK{n:O}{a p k:gP}(h:w.heap[i]?=some (gH #[Y n,a,p,k] 136)):w.cell? ⟨i,0,none⟩=some (Y n)/\w.cell? ⟨i,1,none⟩=some a/\i<w.heap.size:=⟨by rw[fP h];rfl,by rw[fP h];rfl,ja h⟩
def acN(i j:Nat)(n1 n2:O)(a1 p1 k1 a2 p2 k2:gP)(b d:lu)(w:J)(hi:w.heap[i]?=some (gH #[Y n1,a1,p1,k1] 136))(hj:w.heap[j]?=some (gH #[Y n2,a2,p2,k2] 136))(P:Ad w a1 b)(R:Ad w a2 d)(ae:b.length<=4096)(af:d.length<=4096):
  Calls prog 318 #[gI i,gI j] w λe w'=>e=iA (.bool (ld n1 n2&&(b.length==d.length)&&b.all λx=>d.any λy=>sY x y))/\Z [] w w':=by
 have X:∀(fn:Fn)(first a3:jL)(w:J),(Instr.makeFunc fn first a3).run prog w=.ok (.func fn first a3) w:=λ_ _ _ _=>rfl;obtain⟨H,F⟩:∃H,H=w.alloc (gH #[gI j] 66):=⟨_,rfl⟩;have kk:Z [] w H:=by rw[F];exact(Z.refl _ _).alloc _
 have b1:H.heap[w.heap.size]?=some (gH #[gI j] 66):=by rw[F];exact fU w _
 have⟨c0,c1,l1⟩:=MK (kk.at hi (by simp));have⟨d0,d1,l2⟩:=MK (kk.at hj (by simp));have e0:H.cell? ⟨w.heap.size,0,none⟩=some (gI j):=by rw[fP b1];rfl
 have C:=V (λW (l:Z [] H W)=>Bb 346 #[gI w.heap.size] (λa=>!(d.any λy=>sY a y)) a1 b W ((kk.trans l).ownsRow P (λ_ _=>by simp)) ae ⟨enters_of func346 (by rfl) rfl,λW2 k a _=>af0 w.heap.size j n2 a2 p2 k2 d a W2 ((l.trans k).at b1 (by simp)) (((kk.trans l).trans k).at hj (by simp)) (((kk.trans l).trans k).ownsRow R (λ_ _=>by simp)) af⟩);have a0:=V (ja b1);have I:(!(b.any λa=>!(d.any λy=>sY a y)))=b.all λx=>d.any λy=>sY x y:=by
  rw[List.not_any_eq_all_not];simp
 have⟨ao1,cp1,hav1⟩:=gz P;have⟨ao2,cp2,hav2⟩:=gz R;subst hav1 hav2;have HW:=V F.symm;have K:=V kk;have a7:=V I;clear hi hj P R F kk b1 I;cases hq:ld n1 n2 with
 |false=>
  have u:(n1.toList==n2.toList)=false:=hq;clear hq;go_enter func318,ntmps318;go_wp21;rw[HW.out]
  go_quiet (fail)
  go_wp2;go_ret;exact⟨rfl,K.out.drewN _⟩
 |true=>
  have u:(n1.toList==n2.toList)=true:=hq;clear hq;by_cases hl:b.length=d.length
  .have q:((b.length:Int)==(d.length:Int))=true:=by rw[hl];simp
   have aa:=V (show(b.length==d.length)=true by rw[hl];simp);clear hl;go_enter func318,ntmps318;go_wp21;rw[HW.out];obtain⟨bx,a6⟩:∃bx,bx=w.heap.size:=⟨_,rfl⟩;rw[<-a6]at e0 C a0|-;clear a6;have HC:=V (λ(W:J) (l:Z [] H W)=>(⟨(l.cell (p:=⟨i,0,none⟩) l1 (by simp)).trans c0,(l.cell (p:=⟨i,1,none⟩) l1 (by simp)).trans c1,(l.cell (p:=⟨j,0,none⟩) l2 (by simp)).trans d0,(l.cell (p:=⟨j,1,none⟩) l2 (by simp)).trans d1,(l.cell (p:=⟨bx,0,none⟩) a0.out (by simp)).trans e0⟩:_/\_/\_/\_/\_));have ac:=V u;have a9:=V q;have ab:=V X;clear c0 c1 d0 d1 e0 u q X;refine Xz (by rfl) ?_;refine oT (λ(g:Unit) z=>⟨#[gI i,gI j,undef,gI bx,ce z 31 (.bool false) (.bool (!(b.any λa=>!(d.any λy=>sY a y)))),cd z 0 (gI i),cd z 1 (gI i),cd z 2 (gI i),cd z 3 (Y n1),cd z 4 (gI j),cd z 5 (gI j),cd z 6 (gI j),cd z 7 (Y n2),cd z 8 (.bool true),cd z 9 (.bool true),cd z 10 (gI i),cd z 11 (gI i),cd z 12 (j5 i 1),cd z 13 (.slice ao1 b.length cp1),cd z 14 (G b.length),cd z 15 (gI j),cd z 16 (gI j),cd z 17 (j5 j 1),cd z 18 (.slice ao2 d.length cp2),cd z 19 (G d.length),cd z 20 (.bool true),cd z 21 (.bool true),cd z 22 (.bool true),cd z 23 (gI i),cd z 24 (gI i),cd z 25 (j5 i 1),cd z 26 (.slice ao1 b.length cp1),cd z 27 (.func (.func 346) #[] #[gI bx]),cd z 28 (.bool (b.any λa=>!(d.any λy=>sY a y))),cd z 29 (.bool (!(b.any λa=>!(d.any λy=>sY a y)))),cd z 30 (.bool (!(b.any λa=>!(d.any λy=>sY a y))))],[]⟩) (λg z W=>Z [] H W) 32 [[],[0],[1],[2],[],[4],[5],[6],[3,7],[8],[9],[9,10],[9,11],[9,12],[9,13],[9],[9,15],[9,16],[9,17],[9,18],[9,14,19],[9,20],[21],[22],[22,23],[22,24],[22,25],[22],[22,26,27],[22,28],[22,29],[30]] (()) rfl rfl ((Z.refl [] H).drew) ?_ ?_
   .repeat' first|exact mg|refine mf ?_ ?_
    all_goals
     rintro g z W U hc _;simp[Bs]at hc;refine N2 rfl ?_;intro K' a4;simp only[lH,hc];have⟨c0,c1,d0,d1,e0⟩:=HC.out W U;have u:=ac.out;have q:=a9.out;have X:=ab.out;have C1:=V (C.out W U);go_simp
     first
     |refine a4 _ _ ⟨g,?_,U⟩
     |refine C1.out.mono ?_;rintro e W2⟨rfl,k⟩;refine a4 _ _ ⟨g,?_,U.trans k⟩
     simp[pr,wy,lH,xl,FJ,hc]
   .rintro g W U;simp only[vJ,RD];have a8:=V U;clear U;rename_i KK a5;refine a5 _ _ ?_;clear a5 KK;go_wp2;go_ret;exact⟨by rw[aa.out,<-a7.out];rfl,K.out.trans a8.out⟩
  .have q:((b.length:Int)==(d.length:Int))=false:=beq_eq_false_iff_ne.2 (by omega);have ad:(b.length==d.length)=false:=beq_eq_false_iff_ne.2 hl;go_enter func318,ntmps318;go_wp21;rw[HW.out]
   go_quiet (fail)
   go_wp2;go_ret;exact⟨by rw[ad];rfl,K.out.drewN _⟩
section
attribute [local go_sem] Oper.semAt_some
attribute [local go_sem] rE
attribute [local simp] rE
def N.vD(σ:N)(j:Nat)(c:jj×Nat)(i:Nat):jj×Nat:=if σ.acX i j then (some i,c.2+1)else c
def Cj(σ:N)(j:Nat):∀(a:kY)(c:jj×Nat),σ.ue j a c=(BP a).foldl (σ.vD j) c
 |[],_=>rfl
 |none::_,_=>rfl
 |some i::r,c=>by
  show(if σ.acX i j then σ.ue j r _ else σ.ue j r c)=(BP r).foldl _ _;unfold N.vD;split<;>exact Cj σ j r _
theorem ML(σ:N)(j:Nat):∀(a:List Nat)(c:jj×Nat),(a.foldl (σ.vD j) c).2<=c.2+a.length
 |[],c=>by simp
 |x::a,c=>by
  have h:=ML σ j a (σ.vD j c x);grind[N.vD]
theorem aak:∀(a:kY),(BP a).length<=a.length
 |[]=>ic _
 |none::_=>xj _
 |some _::r=>by have:=aak r;grind[BP]
def Rel.anz(h:Rel E L σ w){a b:wN}(d:σ.gU i=some a)(g:σ.gU j=some b):
  Calls prog 318 #[gI (L.gQ i),gI (L.gQ j)] w λe w'=>e=iA (.bool (σ.acX i j))/\Z [] w w':=by
 have⟨h1,h2,h3⟩:=h.uz i _ (N.jp d);have⟨g1,g2,g3⟩:=h.uz j _ (N.jp g);refine(acN _ _ _ _ _ _ _ _ _ _ _ _ w h1.il g1.il h2 g2 h3 g3).mono ?_;rintro e w'⟨rfl,k⟩;refine⟨?_,k⟩;unfold N.acX;rw[d,g];rfl
def EQ{k:Nat}{c:jL}{t:TypeId}{m:Nat×Nat}(a:w.heap[D]?=some o)(b:o.isCells=false)(h:w.heap[k]?=some (.cells c t m)):(w.putObj D o').heap[k]?=some (.cells c t m):=
 (aht (λe=>by subst e;rw[a]at h;cases h;cases b)).trans h
def me.ajt{nd:A8}(h:me bs L w i nd)(a:w.heap[D]?=some o)(b:o.isCells=false):me bs L (w.putObj D o') i nd:=by
 cases nd with
 |el e=>exact⟨⟨EQ a b h.1.il,Jd h.1.row o' a b,h.1.le,h.1.aG⟩,Jd h.2.1 o' a b,h.2.2⟩
 |tx s=>exact EQ a b h
 |cm s=>exact EQ a b h
 |dt s=>exact EQ a b h
theorem Fr.take(h:Fr bs w W)(a:w.heap.size<=D)(o:Obj):Fr bs w (W.putObj D o):=by
 have⟨S,hk,hS⟩:=h;exact⟨S,hk.grown (nG W D o) (λk e=>by grind),hS⟩
def Rel.ajt(h:Rel E L σ w)(a:w.heap[D]?=some o)(b:o.isCells=false)(d:E.w0.heap.size<=D):Rel E L σ (w.putObj D o'):=by
 have⟨C,hb,hC⟩:=h.il;exact
  {fr:=h.fr.take d o'
   env:=h.env
   Gv:=h.Gv
   uz:=λi g e=>(h.uz i g e).ajt a b
   inj:=h.inj,Dk:=h.Dk,JS:=h.JS,uq:=h.uq,H6:=h.H6,wf:=h.wf
   il:=⟨C,EQ a b hb,hC⟩
   qv:=Jd h.qv o' a b
   ru:=Jd h.ru o' a b
   JY:=h.JY,yK:=h.yK,Ie:=h.Ie
   qm:=Jd h.qm o' a b
   Pl:=h.Pl
   rd:=EQ a b h.rd
   Wp:=h.Wp
   tok:=Jd h.tok o' a b
   Ph:=h.Ph,bz:=h.bz,bB:=h.bB,bR:=h.bR,bN:=h.bN,BI:=h.BI,ab:=h.ab,tb:=h.tb,Pk:=h.Pk}
def Fr.other(h:Fr bs w W)(b:w.heap[D]?=some o)(e:o.isCells=false):W.heap[D]?=some o:=by
 have⟨S,hk,hS⟩:=h;have a:D<w.heap.size:=(Array.getElem?_eq_some_iff.1 b).1;refine(hk.block D a λd=>?_).trans b;have⟨⟨c,t,m,h3,_⟩,_⟩:=hS D d a;rw[b]at h3;cases h3;cases e
theorem af5{α β:Type}{k:Nat}{m:M α}{b:(Nat->Nat)->α->gP}(C:m σ≠ .stuck->Calls prog k A w (kO E f σ.nodes.length w (m σ) b))(H:At E f0 n0 w0 f σ w){R:qQ β}{K:α->M β}(d:R=(m>>=K) σ)(hs:R≠ .stuck)
  (l:∀c p j w',R=.stop c p->kZ w' j c p->Fr E.bs w0 w'->Fr E.bs w w'->Q (rW j) w')
  (x:∀a σ' w',At E f0 n0 w0 f σ' w'->Fr E.bs w w'->R=K a σ'->Q (iA (b f a)) w'):Calls prog k A w Q:=by
 rw[M.gw]at d;refine(C (λe=>hs (by grind))).mono ?_;intro e w' g;cases hr:m σ with
 |ok a σ'=>
  rw[hr]at g d;obtain⟨rfl,y,z,F⟩:=g;grind[At.to]
 |stop c p=>
  rw[hr]at g d;obtain⟨j,rfl,u,q⟩:=g;exact l c p j w' d u (H.fr.trans q) q
 |stuck=>grind
def Vs{b:J}{a:N}(H:At E f n w f a b)(g:b.heap[D]?=some (.deferred (some [])))(d:w.heap.size<=D)(hr:r=.ok () a):kO E f n w r uV (qs) (b.putObj D (.deferred none)):=by
 subst hr;have⟨L,e,hr⟩:=H.rel;exact⟨rfl,⟨L,e,hr.ajt g rfl (jZ H.hw d)⟩,H.fr.take d _,H.le⟩
def MO{p k:Nat}{a:J}(hs:kZ a k c p)(e:Fr E.bs w a)(d:a.heap[D]?=some (.deferred (some [])))(b:w.heap.size<=D)(hr:r=.stop c p):kO E f n w r uV (rW k) (a.putObj D (.deferred none)):=by
 subst hr;exact⟨k,rfl,EQ d rfl hs,e.take b _⟩
def abL(h:Rel E L σ w)(x:jj)(l:σ.gZ x=true):
  Calls prog 178 #[j5 E.bB 189,oV L.gQ x] w λe w'=>e=qs/\RF E L.gQ {σ with act:=σ.act.erase x} w'/\Fr E.bs w w'/\Z (E.bB::L.cv.ownBlock.toList) w w':=by
 have⟨C,hL,hC⟩:=h.Kw;refine(Ch E.bs E.bB 189 _ C _ _ _ w hL h.cF (h.gZ l)).mono ?_;rintro e w'⟨rfl,a⟩;have⟨_,_,hk,_⟩:=id a;obtain⟨b,d,g,k⟩:=h.Cz hL hC (by rw[<-xL h.inj];exact a) λy p=>h.wf.act y (wZ p);exact⟨rfl,⟨b,d,g⟩,k,hk⟩
theorem am7(h:RF E f σ w)(j:Nat)(ao:σ.gU j=some ej)(hs:Lx j σ≠ .stuck):Calls prog 275 #[Bp E,nV f j] w (kO E f σ.nodes.length w (Lx j σ) uV):=by
 have H:=At.start h;obtain⟨L,rfl,hr⟩:=h;refine(XB (n:=9)).1 ?_;refine abz func275 rfl trivial ?_ rfl;simp only[ntmps275,abw,pG,Kk,Nat.reduceAdd,Nat.reduceSub,sR,yD,wL,yE,abu,yF];obtain⟨w1,X⟩:∃w1,w1=((w.alloc (gH #[nV L.gQ j] 66)).alloc (gH #[.pointer none] 66)).alloc (gH #[G 0] 3):=⟨_,rfl⟩;have a7:Z [] w w1:=by rw[X];exact(((Z.refl _ _).alloc _).alloc _).alloc _
 have⟨B0,B1,B2⟩:=pF w (gH #[nV L.gQ j] 66) (gH #[.pointer none] 66) (gH #[G 0] 3);rw[<-X]at B0 B1 B2;have u:w1.heap.size=w.heap.size+1+1+1:=by rw[X];simp
 have af:=hr.ir a7;have aw:=hr.lt;have av:=hr.Ie;have HB:=LC E.bB w1;have ae:=(λ(W:J) (hk:Z [] w W) (i:Nat) (e:wN) (hi:σ.gU i=some e)=>(hr.ir hk).anz hi ao);have ah:=(λ(W:J) (hk:Z [] w W)=>hr.ir hk);have HA:=(λ(i:Nat) (hi:some i∈σ.act)=>hr.wf.act (some i) hi);have HO:=(λg (hg:L.cv.ownBlock=some g)=>(hr.ru.lt g hg).2);have HZ:=V u;have HW:=V X;have HS:=hs;clear u X
 gi_wp2_with fail
 rw[<-HW.out];refine(callsIn_wide.2 HB).mono ?_;rintro e w'⟨rfl,rfl⟩;gi_wp2;refine abq (by omega) af rfl [w.heap.size+1,w.heap.size+1+1] ?_
  (λpre W=>Z [] w W/\W.heap[w.heap.size]?=some (gH #[nV L.gQ j] 66)/\W.heap[w.heap.size+1]?=some (gH #[oV L.gQ (pre.foldl (σ.vD j) (none,0)).1] 66)/\W.heap[w.heap.size+1+1]?=some (gH #[G ((pre.foldl (σ.vD j) (none,0)).2)] 3))
  (λ_ _ _=>False)
  ?_ ?_ ?_ (λx=>{tmps:=#[Bp E,nV L.gQ j,undef,gI w.heap.size,gI (w.heap.size+1),gI (w.heap.size+1+1),kX (some x),Bp E,Pv w1.heap.size,kX (some x),undef,undef,undef,undef,undef,undef,undef,undef,undef,undef,undef,undef,undef,undef,undef,undef],defers:=[]}) ?assign ?body ?done ?stop
 grind;rintro pre A B row⟨h1,h2,P,h4⟩ hg hr;have u:=HZ.out;exact⟨nB h1 hg hr (by omega),lB h2 hg hr (by omega),lB P hg hr (by omega),lB h4 hg hr (by omega)⟩;rintro c pre A B row h _ _;exact h;have hk:Z [] w1 (w1.alloc (gH #[Bp E] 117)):=(Z.refl _ _).alloc _;exact⟨a7.trans hk,hk.at B0 (by simp),hk.at B1 (by simp),hk.at B2 (by simp)⟩
 case assign=>
  intro l x W K hK;gi_wp2;exact hK
 case body=>
  rintro l pre i W hi⟨HK,B3,B4,B5⟩ aq;have au:(pre.foldl (σ.vD j) (none,0)).2<=4096:=by have:=ML σ j pre (none,0);simp at this;omega
  have a3:=HA i hi;obtain⟨e0,an⟩:∃e0,σ.gU i=some e0:=Option.isSome_iff_exists.1 a3;have C:=ae W HK i e0 an;have c1:=fP B3 0;dsimp at c1;have a0:=V (show(pre++[i]).foldl (σ.vD j) (none,0)=σ.vD j (pre.foldl (σ.vD j) (none,0)) i by simp);rw[show kX (some (L.gQ i))=gI (L.gQ i)from rfl];generalize pre.foldl (σ.vD j) (none,0)=c at *
  gi_wp2_with fail
  refine(zq l (callsIn_wide.2 C)).mono ?_;rintro e W3⟨rfl,U⟩;have G3:=U.at B3 (by simp);have G4:=U.at B4 (by simp);have G5:=U.at B5 (by simp);have d4:=fP G4 0;have d5:=fP G5 0;have f4:=gx G4 0;have f5:=gx G5 0;dsimp at d4 d5;have a8:=HK.trans U;have a9:=U.mono (S':=[w.heap.size+1,w.heap.size+1+1]) (by simp);cases hq:σ.acX i j with
  |true=>
   have HQ:=V (show σ.vD j c i=(some i,c.2+1) by unfold N.vD;rw[hq];rfl);gi_wp2;have k6:Z [w.heap.size+1,w.heap.size+1+1] W3 ((W3.setCell ⟨w.heap.size+1,0,none⟩ (gI (L.gQ i))).setCell ⟨w.heap.size+1+1,0,none⟩ (G ((c.2:Int)+1))):=((Z.refl _ W3).setCell (.inl (by simp)) _).setCell (.inl (by simp)) _;refine⟨a9.trans k6,((a8.setCell (.inr (by simp)) _).setCell (.inr (by simp;omega)) _),k6.at G3 (by simp;omega),?_,?_⟩;rw[a0.out,HQ.out];exact(Below.heap_setCell _ _ _ _ (by simp)).trans (gh G4 0 _);rw[a0.out,HQ.out];exact gh ((Below.heap_setCell _ _ _ _ (by simp)).trans G5) 0 _
  |false=>
   have HQ:=V (show σ.vD j c i=c by unfold N.vD;rw[hq];rfl);gi_wp2;exact⟨a9,a8,G3,by rw[a0.out,HQ.out];exact G4,by rw[a0.out,HQ.out];exact G5⟩
 case done=>
  rintro D W HD⟨aa,a6,P,h4⟩ y;rw[<-Cj]at P h4;have ay:(σ.ue j σ.act.reverse (none,0)).2<=4096:=by
   rw[Cj];have a1:=ML σ j (BP σ.act.reverse) (none,0);have a2:=aak σ.act.reverse;simp at a1 a2;omega
  obtain⟨R,z⟩:∃R,R=Lx j σ:=⟨_,rfl⟩;have hs:=HS;rw[<-z]at hs;have F:R=if 3<=(σ.ue j σ.act.reverse (none,0)).2 then (kM (σ.ue j σ.act.reverse (none,0)).1>>=λ_=>(km (some j)>>=λ_=>(Pure.pure ():M Unit))) σ else (km (some j)>>=λ_=>(Pure.pure ():M Unit)) σ:=z
  generalize σ.ue j σ.act.reverse (none,0)=c at *;have c1:=fP a6 0;have c2:=fP P 0;have c3:=fP h4 0;dsimp at c1 c2 c3;replace H:=H.k0 aa;replace HS:=hs;by_cases P:3<=c.2
  .rw[sL P]at F;have HR:=V F;clear F;have a3:σ.gZ c.1=true:=by
    cases hq:σ.gZ c.1 with
    |true=>rfl
    |false=>
     refine absurd ?_ HS;rw[HR.out,M.gw];unfold kM;rw[hq];rfl
   have ag:Hid (R=(km (some j)>>=λ_=>(Pure.pure ():M Unit)) {σ with act:=σ.act.erase c.1}):=by
    refine V ?_;rw[HR.out,M.gw];unfold kM;rw[a3];rfl
   have ab:=abL (ah _ aa.drew) c.1 a3;have ax:=H.lt
   gi_wp2_with fail
   refine wpIn_wide.2 ?_;rename_i K am _;refine wp_mono (Q:=Exit.then (λa W'=>∃d e b,a={tmps:=#[Bp E,nV L.gQ j,undef,gI w.heap.size,gI (w.heap.size+1),gI (w.heap.size+1+1),undef,Bp E,Pv w1.heap.size,undef,undef,undef,undef,undef,undef,undef,G c.2,b,Bp E,d,j5 E.bB 189,oV L.gQ c.1,e,undef,undef,undef],defers:=[{target:=Target.collected D,args:=#[]}]}/\At E L.gQ σ.nodes.length w L.gQ {σ with act:=σ.act.erase c.1} W'/\Fr E.bs W W'/\Z (E.bB::L.cv.ownBlock.toList) W W') (λ_ _ _=>False)) ?_ ?_
   .go_region_with (go_at_call 178;refine ab.mono ?_;rintro e w5⟨rfl,q2,q3,q4⟩;have ai:=V ((H.k0 ((Z.refl _ W).drew)).to q2 (ud _ _ rfl) q3);have ac:=V q3;have ad:=V (((Z.refl _ W).drew).trans q4);clear q2 q3 q4)
    all_goals exact⟨_,_,_,rfl,ai.out,(Fr.ib ((Z.refl _ W).drew)).trans ac.out,ad.out⟩
   .intro e a W' hq;cases e with
    |normal=>
     obtain⟨d,e,b,rfl,aj,ak,al⟩:=hq;have b2:W'.heap[w.heap.size]?=some (gH #[nV L.gQ j] 66):=by
      refine al.at a6 λhm=>?_;rcases List.mem_cons.1 hm with hm|hm;omega;grind
     have c1:=fP b2 0;dsimp at c1;have k:=Fr.other (o:=.deferred (some [])) ak y rfl;replace H:=aj;replace y:=k;replace HR:=ag;refine am _ _ ?_
     gi_wp2_with fail
     refine callsIn_wide.2 ?_;refine af5 (λhs=>D9 E (some j) _ _ _ H.rel hs) H HR.out HS ?_ ?_;intro c p q ws h1 h2 P h4;have k:=Fr.other (o:=.deferred (some [])) h4 y rfl;refine⟨by simp,.inl ⟨_,_,rfl,N4 k,?_⟩⟩;have u:=HZ.out;have hD:=HD;exact MO h2 P k (by omega) (z.symm.trans h1)
     .rintro a ap w2 a4 h2 a5;have k:=Fr.other (o:=.deferred (some [])) h2 y rfl;have I:=k;gi_wp2;refine⟨by simp,.inl ⟨_,_,rfl,N4 I,?_⟩⟩;have u:=HZ.out;have hD:=HD;refine⟨.tuple #[],?_,Vs a4 I (by omega) (z.symm.trans a5)⟩;simp[results,results275,go_sem]
    |_=>exact hq.elim
  .rw[Xx P]at F;have HR:=V F;clear F
   gi_wp2_with fail
   refine callsIn_wide.2 ?_;refine af5 (λhs=>D9 E (some j) _ _ _ H.rel hs) H HR.out HS ?_ ?_;intro c p q ws h1 h2 P h4;have k:=Fr.other (o:=.deferred (some [])) h4 y rfl;refine⟨by simp,.inl ⟨_,_,rfl,N4 k,?_⟩⟩;have u:=HZ.out;have hD:=HD;exact MO h2 P k (by omega) (z.symm.trans h1)
   .rintro a ap w2 a4 h2 a5;have k:=Fr.other (o:=.deferred (some [])) h2 y rfl;have I:=k;gi_wp2;refine⟨by simp,.inl ⟨_,_,rfl,N4 I,?_⟩⟩;have u:=HZ.out;have hD:=HD;refine⟨.tuple #[],?_,Vs a4 I (by omega) (z.symm.trans a5)⟩;simp[results,results275,go_sem]
 case stop=>rintro D c pre W hD ar h;exact h.elim
end
def Gj(σ:N)(x:jj)(a:Nat):∀b:kY,({σ with form:=x}:N).oo a b=σ.oo a b
 |[]=>rfl
 |y::r=>by
  unfold N.oo;rw[Gj σ x a r];rfl
def O8(E:Env)(t:gF)(K:jo E t):jk E 190 (λ_=>#[Bp E,iG E t]) (pz t) uV:=by
 refine dI λf σ w R d HS H=>?_;unfold pz at d;go_enter func190,ntmps190;have⟨kb,lbb,cb,HQ⟩:=H.rel.bounds;have y:=H.lt;have u:=cb;have F:=(Z.refl [] w).drew;go_wp21
 go_cut [11]from 4 to 10 (λr wc=>r=.bool (σ.inScope (gO [ik]) (iI))/\At E f σ.nodes.length w f (σ.close (gO [ik]) (iI)) wc)
 case first=>
  go_region_with (first
   |(go_at_call 216;refine(oC E [ik] w.drew (by simp)).mono ?_;rintro e U⟨k1,P,rfl,g,k⟩;have b:=F.trans k;have c1:U.cell? ⟨E.bB,186,none⟩=some (.func (.func kb) #[] lbb):=(b.cell (p:=⟨E.bB,186,none⟩) y (by simp)).trans u;have l:=V g;have a:=V b;clear g k b)
   |(go_at_call 219;refine(FO (p:=gO [ik]) (q:=iI) (H.k0 a).rel l (HQ.k0 a)).mono ?_;rintro e w2⟨rfl,z,C⟩;have I:=V ((H.k0 a).to z (zD _ _ _) C);clear z C))
  all_goals (try (go_wp21))
  all_goals (go_meet;exact⟨rfl,I⟩)
 case rest=>
  obtain⟨rfl,x⟩:=hcut;replace H:=x;replace d:Hid (R=(mi t>>=λ_=>(pure ():M Unit)) (σ.close (gO [ik]) iI)):=by
   have:=d;rw[M.gw,vK]at this;exact V this
  go_wp21;refine dC (sI E (iP E) t K) H d HS rfl lT ?_;rintro(_) f σ w H HX X d;go_wp2;go_end0;exact gu d H rfl
def UG(E:Env)(t:gF):jk E 209 (λ_=>#[Bp E,iG E t]) (sx) uV:=by
 refine dI λf σ w R b HS H=>?_;unfold sx at b;go_enter func209,ntmps209;have⟨kb,lbb,cb,HQ⟩:=H.rel.bounds;have z:=H.lt;have l:=cb;have F:=(Z.refl [] w).drew;go_wp21
 go_cut [11]from 4 to 10 (λr wc=>r=.bool (σ.inScope (gO [ie]) (iI))/\At E f σ.nodes.length w f (σ.close (gO [ie]) (iI)) wc)
 case first=>
  go_region_with (first
   |(go_at_call 216;refine(oC E [ie] w.drew (by simp)).mono ?_;rintro e X⟨k1,U,rfl,u,y⟩;have k:=F.trans y;have c1:X.cell? ⟨E.bB,186,none⟩=some (.func (.func kb) #[] lbb):=(k.cell (p:=⟨E.bB,186,none⟩) z (by simp)).trans l;have C:=V u;have g:=V k;clear u y k)
   |(go_at_call 219;refine(FO (p:=gO [ie]) (q:=iI) (H.k0 g.out).rel C.out (HQ.k0 g.out)).mono ?_;rintro e w2⟨rfl,I,K⟩;have P:=V ((H.k0 g.out).to I (zD _ _ _) K);clear I K))
  all_goals (try (go_wp21))
  all_goals (go_meet;exact⟨rfl,P.out⟩)
 case rest=>
  obtain⟨rfl,x⟩:=hcut;replace H:=x;clear x HQ l F cb z;have d:=b.out;rw[M.gw,vK]at d;simp only at d;cases hc:σ.inScope (gO [ie]) iI with
  |true=>
   rw[hc]at d;replace b:Hid (R=(zo>>=λa=>(pure a:M Unit)) (σ.close (gO [ie]) iI)):=V (M.tail (by simpa using d));clear hc d;go_wp21;refine mC (Xi E) H b HS rfl lT ?_;clear H b;rintro(_) σ w H HF b;go_wp2;go_end0;exact gu b.out H rfl
  |false=>
   rw[hc]at d;replace b:Hid (R=.ok () (σ.close (gO [ie]) iI)):=V (show R=(pure ():M Unit) (σ.close (gO [ie]) iI)from by simpa using d);clear hc d;go_wp2;go_end0;exact gu b.out H rfl
def acr(E:Env)(t:gF):jk E 207 (λ_=>#[Bp E,iG E t]) xq uV:=by
 refine dI λf σ w R a HS H=>?_;unfold xq at a;go_enter func207,ntmps207;have g:=H.XY;have x:=H.free 191;have y:=H.lt;cases hf:σ.form with
 |none=>
  rw[hf]at g a;replace a:Hid (R=.ok () σ):=a;rw[show oV f none=.pointer none from rfl]at g;have p:=H.wG none rfl;rw[show({σ with form:=none}:N)=σ from by rw[<-hf]]at p;replace H:=p;go_wp2;go_end0;exact gu a H rfl
 |some i=>
  have q:=H.rel.alM;rw[hf]at g a q;rw[show oV f (some i)=gI (f i)from rfl]at g;replace H:=H.wG none rfl;have C:=JR H.rel i q;have d:({σ with form:=none}:N).pi i=σ.pi i:=Gj σ none i _;rw[d]at C;cases hc:σ.pi i with
  |true=>
   rw[hc]at C;have k:=V C;have b:=a;simp only[hc,if_true]at b;replace a:Hid (R=(uL (λσ=>σ.mn)>>=λ_=>(do jR (some i);return ():M Unit)) {σ with form:=none}):=V b;clear C b;go_wp21;refine k.mono ?_;rintro e w⟨rfl,l⟩;replace H:=H.k0 l;go_wp21;refine Ck (λ_=>OG H.rel) H a HS lT ?_;rintro(_) σ w H u a;go_wp21;refine mC (GC E (some i)) H a HS rfl lT ?_;rintro(_) σ w H u a;go_wp2;go_end0;exact gu a H rfl
  |false=>
   rw[hc]at C;have k:=V C;have b:=a;simp only[hc,ZY,Tw]at b;replace a:Hid (R=.ok () {σ with form:=none}):=V b;clear C b;go_wp21;refine k.mono ?_;rintro e w⟨rfl,l⟩;replace H:=H.k0 l;go_wp2;go_end0;exact gu a H rfl
attribute [local go_sem] Oper.semAt_some
theorem RF.wf(h:RF E f σ w):Wf σ:=by have⟨L,_,hr⟩:=h;exact hr.wf
theorem nY{xs:kY}{n:Int}(h:iC xs n=some i):some i∈xs:=by
 grind[iC]
def Wf.MI(h:Wf σ)(a:σ.last=some i):∃e,σ.gU i=some e:=by
 exact Option.isSome_iff_exists.1 (h.gq _ (nY a))
theorem acU{β:Type}{R:qQ β}{K:Nat->M β}(a:R=(JV>>=K) σ)(hs:R≠ .stuck):∃i,σ.last=some i/\R=K i σ:=by
 grind[M.gw,JV]
def pC(E:Env)(t:gF)(g:jo E t):jk E 197 (λ_=>#[Bp E,iG E t]) (jb t) uV:=by
 refine dI λf σ w R a HS H=>?_;go_enter func197,ntmps197;go_wp21;refine dC (sI E (iP E) t g) H a HS rfl lT ?_;rintro(_) f σ w H k b a;have⟨i,hi,hR2⟩:=acU a HS;have⟨e,he⟩:=H.rel.wf.MI hi;replace a:=V hR2;clear hR2;go_wp21;refine H.rel.Vn.mono ?_;rintro e l⟨rfl,rfl⟩;go_wp21;refine Ck (λd=>(am7 H.rel i he d)) H a HS lT ?_;rintro(_) σ w H b a;go_wp2;go_end0;exact gu a H rfl
attribute [local go_sem] Oper.semAt_some
def RF.amr(h:RF E f σ w)(x:jj)(a:σ.gZ x=true):Calls prog 237 #[j5 E.bB 188,oV f x] w λe w'=>e=iA (oV f (iC σ.gq (posOf σ.gq x-1)))/\w'=w:=by
 obtain⟨L,rfl,hr⟩:=h;exact AH hr x a
theorem Bu(E:Env)(t:gF):jk E 142 (λ_=>#[Bp E,iG E t]) jf uV:=by
 intro f σ w h hs;obtain⟨R,hR⟩:∃R,R=jf σ:=⟨_,rfl⟩;rw[<-hR]at hs|-;have HS:=V hs;have u:=V h;have a0:=V (λW (hk:Z [] w W)=>nr h.lt hk.size);cases hcu:σ.current (gO [gL])with
 |false=>
  have d:=V (show R=(pM (gO [gp])>>=λ_=>(Pure.pure ():M Unit)) σ by rw[hR];grind[jf]);have K:=V hcu;clear h hs hR hcu;go_enter func142,ntmps142;go_wp21;refine Xz (by rfl) ?_;refine oT (λ(g:gP) z=>⟨#[Bp E,iG E t,undef,undef,cd z 0 (Bp E),cd z 1 (g),cd z 2 (.bool false),cd z 3 (.bool false),undef,undef,undef,undef,undef,undef,undef,undef,undef,undef,undef,undef,undef,cd z 17 (.bool false),undef,undef,undef,undef,undef,undef,undef],[]⟩) (λg z W=>Z [] w W/\(dn z 1=true->TP E g (gO [gL]) W)) 18 [[],[],[0,1],[2],[3],[3],[3],[3],[3],[3],[3],[3],[3],[3],[3],[3],[3],[3]] (undef) rfl (by rfl) (⟨(Z.refl _ _).drew,λh=>by cases h⟩) ?_ ?_
  .repeat' first|exact mg|refine mf ?_ ?_
   all_goals
    rintro g z W a y hn;simp[Bs]at y;refine N2 rfl ?_;intro K' b;simp only[lH,y];have a8:=a0.out W a.1;go_simp
    first
    |refine b _ _ ⟨g,?_,a.1,qA a.2 (by decide)⟩
    |refine(vS E W).mono ?_;rintro e P⟨k,lb,rfl,I,q⟩;refine b _ _ ⟨_,?_,a.1.trans q,λ_=>⟨k,lb,rfl,I⟩⟩
    |refine(Df (u.out.ir a.1) (a.2 y.2.1).choose_spec.choose_spec.2).mono ?_;rintro e P⟨rfl,rfl⟩;rw[K.out];refine b _ _ ⟨g,?_,a.1,qA a.2 (by decide)⟩
    simp[pr,wy,lH,y]
  .rintro g W a;simp only[vJ];have H:=V ((At.start u.out).k0 a.1);clear a;go_wp21;refine(sC E _).mono ?_;rintro e w1⟨k1,a3,rfl,l,p⟩;replace H:=V (H.out.k0 p);have x:=V l;clear l p;go_wp21;refine Ck (λ_=>xE H.out.rel x.out) H d HS lT ?_;clear H d;rintro(_) σ w H HF d;go_wp2;go_end0;exact gu d.out H.out rfl
 |true=>
  obtain⟨i,X⟩:∃i,iC σ.gq (posOf σ.gq σ.last-1)=some i:=by
   cases hq:iC σ.gq (posOf σ.gq σ.last-1)with
   |some i=>simp
   |none=>unfold jf at hR;grind
  have a1:=V (show R=(if ld (σ.nm i) gp then (do
    let _ <-wV
    pM (gO [gp])
    return ():M Unit) σ else (do pM (gO [gp]);return ():M Unit) σ) by rw[hR];grind[jf])
  have a2:some i∈σ.gq:=nY X;obtain⟨ei,U⟩:∃e,σ.gU i=some e:=Option.isSome_iff_exists.1 (h.wf.gq _ a2);have C:σ.gZ σ.last=true:=by
   cases hl:σ.last with
   |none=>rfl
   |some j=>exact N.xB (h.wf.gq _ (nY hl))
  have a5:=V C;have a4:=V X;have a7:=V (λW (hk:Z [] w W)=>(by
   have⟨L,e,hr⟩:=h.ir hk;rw[<-e];exact hr.wU U:W.cell? ⟨f i,0,none⟩=some (Y (σ.nm i))))
  have a6:=V (λW (hk:Z [] w W)=>(by
   have⟨L,e,hr⟩:=h.ir hk;rw[<-e];exact hr.LB (N.io U):f i<W.heap.size))
  have K:=V hcu;clear h hs hR hcu X a2 U C;go_enter func142,ntmps142;go_wp21;refine Xz (by rfl) ?_;refine oT (λ(g:gP×gP) z=>⟨#[Bp E,iG E t,undef,undef,cd z 0 (Bp E),cd z 1 (g.1),cd z 2 (.bool true),cd z 3 (.bool true),cd z 4 (g.2),cd z 5 (Bp E),cd z 6 (gI E.bB),cd z 7 (j5 E.bB 188),cd z 8 (Bp E),cd z 9 (gI E.bB),cd z 10 (j5 E.bB 188),cd z 11 (oV f σ.last),cd z 12 (nV f i),cd z 13 (gI (f i)),cd z 14 (gI (f i)),cd z 15 (Y (σ.nm i)),cd z 16 (.bool (gO [gp] (σ.nm i))),cd z 17 (.bool (gO [gp] (σ.nm i))),undef,undef,undef,undef,undef,undef,undef],[]⟩) (λg z W=>Z [] w W/\(dn z 1=true->TP E g.1 (gO [gL]) W)/\(dn z 4=true->TP E g.2 (gO [gp]) W)) 18 [[],[],[0,1],[2],[3],[3],[3,5],[3,6],[3],[3,8],[3,9],[3,10],[3,7,11],[3,12],[3,13],[3,14],[3,4,15],[3,16]] ((undef,undef)) rfl (by rfl) (⟨(Z.refl _ _).drew,λh=>(by cases h),λh=>(by cases h)⟩) ?_ ?_
  .repeat' first|exact mg|refine mf ?_ ?_
   all_goals
    rintro g z W a y hn;simp[Bs]at y;refine N2 rfl ?_;intro K' b;simp only[lH,y];have a8:=a0.out W a.1;have a9:=a6.out W a.1;have cc:=a7.out W a.1;go_simp
    first
    |refine b _ _ ⟨g,?_,a.1,qA a.2.1 (by decide),qA a.2.2 (by decide)⟩
    |refine(vS E W).mono ?_;rintro e P⟨k,lb,rfl,I,q⟩;refine b _ _ ⟨(.func (.func k) #[] lb,g.2),?_,a.1.trans q,λ_=>⟨k,lb,rfl,I⟩,qA (λh=>(a.2.2 h).k q) (by decide)⟩
    |refine(sC E W).mono ?_;rintro e P⟨k,lb,rfl,I,q⟩;refine b _ _ ⟨(g.1,.func (.func k) #[] lb),?_,a.1.trans q,qA (λh=>(a.2.1 h).k q) (by decide),λ_=>⟨k,lb,rfl,I⟩⟩
    |refine(Df (u.out.ir a.1) (a.2.1 y.2.1).choose_spec.choose_spec.2).mono ?_;rintro e P⟨rfl,rfl⟩;rw[K.out];refine b _ _ ⟨g,?_,a.1,qA a.2.1 (by decide),qA a.2.2 (by decide)⟩
    |refine(u.out.ir a.1).Vn.mono ?_;rintro e P⟨rfl,rfl⟩;refine b _ _ ⟨g,?_,a.1,qA a.2.1 (by decide),qA a.2.2 (by decide)⟩
    |refine((u.out.ir a.1).amr σ.last a5.out).mono ?_;rintro e P⟨rfl,rfl⟩;rw[a4.out,show oV f (some i)=nV f i from rfl];refine b _ _ ⟨g,?_,a.1,qA a.2.1 (by decide),qA a.2.2 (by decide)⟩
    |have⟨k,lb,e4,I⟩:=a.2.2 (by simp[y]);rw[e4]at I;have⟨k2,lb2,e5,eg,hcl⟩:=I.call;cases e5;simp only[e4];go_simp;refine(hcl W (x9.refl _ _) _).mono ?_;rintro e P⟨rfl,rfl⟩;refine b _ _ ⟨g,?_,a.1,qA a.2.1 (by decide),qA a.2.2 (by decide)⟩;simp[wy,pr,lH,y,e4]
    all_goals simp[pr,wy,lH,y]
  .rintro g W a;simp only[vJ];have H:=V ((At.start u.out).k0 a.1);clear a;cases hq:gO [gp] (σ.nm i)with
   |false=>
    have F:ld (σ.nm i) gp=false:=by simpa [gO]using hq
    replace d:=V (show R=(pM (gO [gp])>>=λ_=>(Pure.pure ():M Unit)) σ by rw[a1.out,F];rfl);clear hq F;go_wp21;refine(sC E _).mono ?_;rintro e w1⟨k1,a3,rfl,l,p⟩;replace H:=V (H.out.k0 p);have x:=V l;clear l p;go_wp21;refine Ck (λ_=>xE H.out.rel x.out) H d HS lT ?_;clear H d;rintro(_) σ w H HF d;go_wp2;go_end0;exact gu d.out H.out rfl
   |true=>
    have F:ld (σ.nm i) gp=true:=by simpa [gO]using hq
    replace d:=V (show R=(wV>>=λ_=>pM (gO [gp])>>=λ_=>(Pure.pure ():M Unit)) σ by rw[a1.out,F];rfl);clear hq F;have aa:=H.out.lt;go_wp21;refine mC (agy E) H d HS rfl lT ?_;clear H d;rintro(_) σ w H HF d;go_wp21;refine(sC E _).mono ?_;rintro e w1⟨k1,a3,rfl,l,p⟩;replace H:=V (H.out.k0 p);have x:=V l;clear l p;go_wp21;refine Ck (λ_=>xE H.out.rel x.out) H d HS lT ?_;clear H d;rintro(_) σ w H HF d;go_wp2;go_end0;exact gu d.out H.out rfl
attribute [local go_sem] Oper.semAt_some
theorem KH(E:Env)(t:gF):jk E 91 (λ_=>#[Bp E,iG E t]) (nI t) uV:=by
 intro f σ w h hs;have X:=V (At.start h);have⟨a,b,k,gG⟩:=t;cases k with
 |iH n q=>
  have hx:∃y σ',jg 0 σ=.ok y σ/\oR y (.dt n) .dt σ=.ok () σ'/\nI ⟨a,b,.iH n q,gG⟩ σ=.ok () {σ' with jA:=q||!ld n fN,mode:=1}:=by
   have e0:nI ⟨a,b,.iH n q,gG⟩ σ=(jg 0>>=λy=>oR y (.dt n) .dt>>=λ_=>(do uL λσ=>{σ with jA:=q||!ld n fN};jq 1;return ():M Unit)) σ:=rfl;rw[M.gw]at e0;cases hq:jg 0 σ with
   |ok y σ1=>
    obtain rfl:=ny hq;rw[hq]at e0;cases d:oR y (.dt n) .dt σ1 with
    |ok u σ'=>exact⟨y,σ',rfl,d,by rw[e0];dsimp only;rw[M.gw,d];rfl⟩
    |stop c p=>
     exfalso;unfold oR vk at d;grind
    |stuck=>exact absurd (by rw[e0];dsimp only;rw[M.gw,d]) hs
   |stop c p=>
    exfalso;unfold jg at hq;grind
   |stuck=>grind
  have⟨y,σ',hq1,d,hq3⟩:=hx;obtain⟨R,hR⟩:∃R,R=nI ⟨a,b,.iH n q,gG⟩ σ:=⟨_,rfl⟩;rw[<-hR];have l:=V (hR.trans hq3);have P:=λW (hW:RF E f σ W)=>JD E 0 f σ W hW (by grind);rw[hq1]at P;simp only[iG];have x:=rX underlying196;obtain⟨I,F⟩:∃I,I=w.alloc (gH #[G a,G b,Y n,.bool q] 196):=⟨_,rfl⟩;have k1:Z [] w I:=by rw[F];exact(Z.refl _ _).alloc _
  have K:I.heap[w.heap.size]?=some (gH #[G a,G b,Y n,.bool q] 196):=by rw[F];exact fU w _
  have a3:=V K;have HC:=V (λW (hF:Fr E.bs I W)=>(by rw[fP (hF.Bd K (by decide))];rfl:W.cell? ⟨w.heap.size,2,none⟩=some (Y n)));have a0:=V (λW (hW:RF E f σ W)=>(show W.cell? ⟨E.bB,187,none⟩=some (nV f 0) by have h1:=(At.start hW).zd;exact h1));have a4:=V (λW (hF:Fr E.bs I W)=>(nr (X.out.k0 k1).lt hF.size:E.bB<W.heap.size));have HW:=V F.symm;have HA:=V (X.out.k0 k1);have a5:=V P;have a6:=V d;clear h hs hq1 d hq3 P K k1 F X hR;go_enter func91,ntmps91;go_wp21;rw[HW.out];refine Xz (by rfl) ?_;refine oT (λ(g:gP) z=>⟨#[Bp E,.iface 196 (.agg #[G a,G b,Y n,.bool q]),undef,undef,gI w.heap.size,.bool true,.tuple #[.agg #[G a,G b,Y n,.bool q],.bool true],.iface 196 (.agg #[G a,G b,Y n,.bool q]),.tuple #[.agg #[G a,G b,Y n,.bool q],.bool true],.agg #[G a,G b,Y n,.bool q],.bool true,.bool true,cd z 0 (Bp E),cd z 1 (gI E.bB),cd z 2 (j5 E.bB 187),cd z 3 (nV f 0),cd z 4 (pV f y),cd z 5 (j5 w.heap.size 2),cd z 6 (Y n),cd z 7 (.agg #[Y n]),cd z 8 (g),cd z 9 (.iface 234 g),cd z 10 (.tuple #[]),undef,undef,undef,undef,undef,undef,undef,undef,undef,undef,undef,undef,undef],[]⟩) (λg z W=>if dn z 10=true then (∃f',XF σ.nodes.length f f'/\σ.nodes.length<=σ'.nodes.length/\RF E f' σ' W/\Fr E.bs I W)else (RF E f σ W/\Fr E.bs I W/\(dn z 8=true->bJ E f σ 236 n g W))) 11 [[],[0],[1],[2],[3],[],[5],[6],[7],[8],[0,1,2,3,4,5,6,7,8,9]] (undef) rfl rfl (⟨HA.out.rel.ir (Z.refl _ _).drew,Fr.ib (Z.refl _ _).drew,λh=>by cases h⟩) ?_ ?_
  .repeat' first|exact mg|refine mf ?_ ?_
   all_goals
    rintro g z W hI U hn;simp[Bs]at U;refine N2 rfl ?_;intro K' C;simp only[lH,U];have hb:dn z 10=false:=by simp[U,hn]
    have q:=(Xx (by simp[hb])).mp hI;have a9:=a4.out W q.2.1;have cc:=a0.out W q.1;have c2:=HC.out W q.2.1;go_simp
    first
    |refine C _ _ ⟨g,?_,(Xx (by simp[lY,hb])).mpr ⟨q.1,q.2.1,qA q.2.2 (by decide)⟩⟩
    |refine(a5.out W q.1).mono ?_;rintro e W2⟨rfl,a8,a2,_⟩;refine C _ _ ⟨g,?_,(Xx (by simp[lY,hb])).mpr ⟨a8,q.2.1.trans a2,qA (λh=>(q.2.2 h).E5 a2) (by decide)⟩⟩
    |have ka:Z [] W (W.alloc (gH #[Y n] 236)):=(Z.refl _ _).alloc _;refine C _ _ ⟨_,?_,(Xx (by simp[lY,hb])).mpr ⟨q.1.ir ka,q.2.1.trans (.ib ka),λ_=>bJ.new q.1 n⟩⟩;have h9:dn z 9=false:=(by simp[hn]);simp[pr,wy,lH,aku,U,h9]
    |obtain⟨k,rfl,k1,k2,k3⟩:=q.2.2 (by simp[U]);refine(aa2 E q.1 n false k k1 k2 k3 y a6.out).mono ?_;rintro e W2⟨rfl,f',g1,g2,g3,g4⟩;refine C _ _ ⟨gI k,?_,(sL pX).mpr ⟨f',g1,g2,g3,q.2.1.trans g4⟩⟩
    all_goals simp[pr,wy,lH,U]
  .rintro g W hI;have⟨f2,g1,g2,g3,g4⟩:=(sL vO).mp hI;simp only[vJ];have H:=V (HA.out.go g3 g1 g2 g4);have a1:=V (g4.Bd a3.out (by decide));clear hI g3 g4 HC a0;have c0:W.cell? ⟨w.heap.size,2,none⟩=some (Y n):=by rw[fP a1.out];rfl
   have c4:W.cell? ⟨w.heap.size,3,none⟩=some (.bool q):=by rw[fP a1.out];rfl
   have c1:=H.out.aeJ;have f1:=H.out.free 196;have c2:=H.out.tf;have f2:=H.out.free 192;have a7:=H.out.lt;cases q with
   |true=>
    have HF:=V ((H.out.rT true).jm 1);clear H;go_wp2;go_end0;exact gu l.out HF.out rfl
   |false=>
    cases hq:ld n fN with
    |true=>
     have d:(n.toList==[104,116,109,108])=true:=by
      have e4:(fN:O).toList=[104,116,109,108]:=by first|rfl|decide|simp
      rw[<-e4];exact hq
     have HF:=V ((H.out.rT false).jm 1);rw[hq]at l;clear H hq;go_wp2;go_end0;exact gu l.out HF.out rfl
    |false=>
     have d:(n.toList==[104,116,109,108])=false:=by
      have e4:(fN:O).toList=[104,116,109,108]:=by first|rfl|decide|simp
      rw[<-e4];exact hq
     have HF:=V ((H.out.rT true).jm 1);rw[hq]at l;clear H hq;go_wp2;go_end0;exact gu l.out HF.out rfl
 |_=>
  change Calls _ _ _ _ (Leaves E f _ w (.ok () {σ with mode:=1}) uV);simp only[iG];have x:=xS;have H:=V (X.out.k0 ((Z.refl [] w).alloc (gH #[G 0,G 0,Y kB,.bool false] 196)));have c2:=H.out.tf;have f2:=H.out.free 192;have a7:=H.out.lt;replace H:=V (H.out.jm 1);clear h hs X;go_enter func91,ntmps91;go_wp2;go_end0;exact gu rfl H.out rfl
def ac7(h:Rel E L σ w)(x:jj)(b:σ.gZ x=true):
  Calls prog 178 #[j5 E.bB 188,kX (iF L.gQ x)] w λe w'=>e=qs/\cO E L {σ with gq:=σ.gq.erase x} w w':=by
 have⟨C,hL,hC⟩:=h.AA;refine(Ch E.bs E.bB 188 _ C _ _ _ w hL h.cH (h.gZ b)).mono ?_;rintro e w'⟨rfl,a⟩;exact⟨rfl,h.Tm hL hC (by rw[<-xL h.inj];exact a) λy d=>h.wf.gq y (wZ d)⟩
theorem Y8(h:Rel E L σ w)(x y:jj)(b:σ.gZ x=true)(d:σ.nk y=true):
  Calls prog 267 #[j5 E.bB 188,kX (iF L.gQ x),kX (iF L.gQ y)] w λe w'=>e=qs/\cO E L {σ with gq:=ox σ.gq x y} w w':=by
 have⟨C,hL,hC⟩:=h.AA;refine(ID E.bs E.bB 188 _ C _ _ _ _ w hL h.cH (h.gZ b)).mono ?_;rintro e w'⟨rfl,a⟩;exact⟨rfl,h.Tm hL hC (by rw[<-Nb h.inj];exact a) λz g=>by grind[Nc,Wf.gq,Rel.wf]⟩
def abM(h:Rel E L σ w)(x:jj)(b:σ.gZ x=true):
  Calls prog 178 #[j5 E.bB 189,kX (iF L.gQ x)] w λe w'=>e=qs/\cO E L {σ with act:=σ.act.erase x} w w':=by
 have⟨C,hL,hC⟩:=h.Kw;refine(Ch E.bs E.bB 189 _ C _ _ _ w hL h.cF (h.gZ b)).mono ?_;rintro e w'⟨rfl,a⟩;exact⟨rfl,h.Tl hL hC (by rw[<-xL h.inj];exact a) λy d=>h.wf.act y (wZ d)⟩
theorem XN(h:Rel E L σ w)(x y:jj)(b:σ.gZ x=true)(d:σ.gZ y=true):
  Calls prog 267 #[j5 E.bB 189,kX (iF L.gQ x),kX (iF L.gQ y)] w λe w'=>e=qs/\cO E L {σ with act:=ox σ.act x y} w w':=by
 have⟨C,hL,hC⟩:=h.Kw;refine(ID E.bs E.bB 189 _ C _ _ _ _ w hL h.cF (h.gZ b)).mono ?_;rintro e w'⟨rfl,a⟩;exact⟨rfl,h.Tl hL hC (by rw[<-Nb h.inj];exact a) λz g=>by grind[Nc,Wf.act,Rel.wf]⟩
theorem Rel.akT(h:Rel E L σ w)(i:Nat)(a:gP)(P:(σ.gU i).isSome=true)(q:KT E.bs [136,138,277] w w')(p:a.ownBlock=(L.kv i).ownBlock\/∀g,a.ownBlock=some g->w.heap.size<=g)
  (b:σ'.nodes.length=σ.nodes.length) (U:∀j y,σ'.gU j=some y->∃e,σ.gU j=some e/\y.name=e.name) (X:∀j,σ'.gU j=none->σ.gU j=none)
  (u:∀j F,σ'.nodes[j]?=some F->me E.bs {L with kv:=λx=>if x=i then a else L.kv x} w' j F) (wf:Wf σ')
  (s0:σ'.gq=σ.gq:=by rfl) (s9:σ'.act=σ.act:=by rfl) (s1:σ'.head=σ.head:=by rfl) (s2:σ'.form=σ.form:=by rfl) (s3:σ'.mode=σ.mode:=by rfl) (s4:σ'.kept=σ.kept:=by rfl) (s5:σ'.im=σ.im:=by rfl) (s6:σ'.jA=σ.jA:=by rfl) (s7:σ'.gQ=σ.gQ:=by rfl) (s8:σ'.behind=σ.behind:=by rfl) (sw:σ'.waiting=σ.waiting:=by rfl) (so:σ'.nW=σ.nW:=by rfl) (sp:σ'.iU=σ.iU:=by rfl) (sf:σ'.fresh=σ.fresh:=by rfl) (H:σ'.qZ=σ.qZ:=by rfl) (I:σ'.sB=σ.sB:=by rfl) (K:σ'.qu=σ.qu:=by rfl):cO E L σ' w w':=by
 have z:∀j g,j<σ.nodes.length->j≠i->a.ownBlock=some g->(L.kv j).ownBlock≠some g:=by
  intro j g R l hg d;rcases p with e|e;rw[e]at hg;exact h.Dk i j g (N.nh (i:=i) P) R (yZ l) hg d;grind[Ay]
 refine⟨{L with kv:=λx=>if x=i then a else L.kv x},rfl,h.abp q (λ_ _=>rfl) rfl rfl rfl u h.inj ?_ ?_ ?_ ?_ wf ?_ (ZX b) s0 s9 s1 s2 s3 s4 s5 s6 s7 s8 sw so sp H I K,q.fr (by decide),λk v C=>⟨q.at C.1 (by decide),C.2⟩⟩
 all_goals grind[Dk,JS,uq,H6,BI]
theorem adH(h:Rel E L σ w){a:wN}(p:σ.gU i=some a)(y:σ.gU j=some ej)(l:j≠i)(hn:n<=a.kids.length)(hl:a.kids.length<1048576):
  Calls prog 166 #[place (L.gQ i) n,(Nd.el (L.gQ j)).val] w λe w'=>e=qs/\cO E L ((σ.gW i {a with kids:=ins a.kids n (.el j)}).gW j {ej with ji:=some i}) w w':=by
 have u:=N.io p;have P:=N.io y;have b:(σ.gU i).isSome=true:=by rw[p];rfl
 have z:(σ.gU j).isSome=true:=by rw[y];rfl
 have aI:=h.yb p;have lI:=h.Br p;have aJ:=h.yb y;have lJ:=h.Br y;refine(Zs E.bs _ n _ _ _ _ _ _ _ _ _ _ _ w (h.wB p) (h.wB y) (λe=>l (h.inj _ _ e)) (λg hg=>h.Dk j i g P u l hg) (by grind) (by grind) h.bw).mono ?_;rintro e w'⟨rfl,⟨H,E1,f1⟩,E2,X⟩;have U:∀s∈L.gQ j::L.gQ i::(L.kv i).ownBlock.toList,∃x∈[j,i],s=L.gQ x\/(L.kv x).ownBlock=some s:=by
  intro s I;rcases List.mem_cons.1 I with rfl|I;simp;rcases List.mem_cons.1 I with rfl|I;simp;grind
 have kt:=h.cM [j,i] (by grind) U X;have K:((σ.gW i {a with kids:=ins a.kids n (.el j)}).gU j).isSome=true:=by rw[N.iK l];exact z
 have q:∀x e,x<σ.nodes.length->Ad w (L.av x) e->Ad w' (L.av x) e:=λx e _ ha=>kt.row ha (by decide);refine⟨rfl,h.akT i H b kt f1 (by grind[N.gW]) ?_ ?_ ?_ ?_⟩;intro x e' d;by_cases F:x=j;grind[N.jc,N.gW];grind[N.jc,N.iK];intro x d;by_cases F:x=j;grind[N.jc,N.gW];grind[N.jc,N.iK];intro x nd d;rcases N.oP d with⟨rfl,rfl⟩|⟨F,d⟩;grind[me];rcases N.oP d with⟨rfl,rfl⟩|⟨R,d⟩;show El E.bs w' _ _ _ _ (if x=x then H else L.kv x) _/\_;rw[sL rfl];refine⟨?_,q x _ u aI,lI⟩;rw[Gc];exact E1;have hN:=h.iy [j,i] (by grind) U X d (by grind);exact hN.ext (σ:=σ) (Jk.refl _ _) ((List.getElem?_eq_some_iff.1 d).1) rfl (Xx R) (h.eZ d);refine(h.wf.gW (e:={a with kids:=ins a.kids n (.el j)}) b (h.wf.ji i a p) ?_).gW K ?_ ?_;intro k C;rcases Gd C with C|rfl;grind[Wf.kids,Rel.wf];exact z;rw[N.rL b];exact b;grind[N.mr,Wf.kids,Rel.wf]
theorem ZM(h:Rel E L σ w){p:Nat}{a:wN}(q:σ.gU j=some ej)(u:ej.ji=some p)(k:σ.gU p=some a)(d:j≠p)(hn:n<a.kids.length)(P:pa a.kids (Nd.gZ j)=(n:Int)):
  Calls prog 365 #[gI (L.gQ j)] w λe w'=>e=qs/\cO E L ((σ.gW p {a with kids:=a.kids.eraseIdx n}).gW j {ej with ji:=none}) w w':=by
 have F:=N.io k;have C:=N.io q;have I:=h.wB q;rw[u]at I;have aP:=h.yb k;have lP:=h.Br k;have aJ:=h.yb q;have lJ:=h.Br q;refine(Kf E.bs _ _ n _ _ _ _ _ _ _ _ _ w I (h.wB k) ?_ (λe=>d (h.inj _ _ e)) (λg hg=>h.Dk j p g C F d hg) (by grind) (by rw[M7 h.inj];omega)).mono ?_;grind[Rel.acO,Wf.kids,Rel.wf];rintro e w'⟨rfl,⟨l,E1,R⟩,E2,K⟩;have X:=h.cM [j,p] (by grind) (by grind) K;have z:((σ.gW p {a with kids:=a.kids.eraseIdx n}).gU j).isSome=true:=by rw[N.iK d];exact(by rw[q];rfl)
 refine⟨rfl,h.akT p l (by rw[k];rfl) X (.inl R) (by grind[N.gW]) ?_ ?_ ?_ ?_⟩;intro x e' b;by_cases y:x=j;grind[N.jc,N.gW];grind[N.jc,N.iK];intro x b;by_cases y:x=j;grind[N.jc,N.gW];grind[N.jc,N.iK];intro x nd b;rcases N.oP b with⟨rfl,rfl⟩|⟨y,b⟩;show El E.bs w' _ _ _ _ (if x=p then l else L.kv x) _/\_;grind[KT.row];rcases N.oP b with⟨rfl,rfl⟩|⟨H,b⟩;show El E.bs w' _ _ _ _ (if x=x then l else L.kv x) _/\_;grind[map_eraseIdx,KT.row];have U:=h.iy [j,p] (by grind) (by grind) K b (by grind);exact U.ext (σ:=σ) (Jk.refl _ _) ((List.getElem?_eq_some_iff.1 b).1) rfl (Xx H) (h.eZ b)
 .refine(h.wf.gW (e:={a with kids:=a.kids.eraseIdx n}) (by rw[k];rfl) (h.wf.ji p a k) ?_).gW z rfl ?_
  all_goals grind[Wf.kids,Rel.wf,List.mem_of_mem_eraseIdx,N.mr]
theorem ZK(h:Rel E L σ w){e:wN}(b:σ.gU i=some e)(hg:oA e.name=false):
  Calls prog 266 #[gI (L.gQ i)] w λd w'=>∃a,Jk σ.nodes.length L a/\d=iA (gI (a.gQ σ.nodes.length))/\Rel E a (σ.add (.el {name:=e.name,gR:=e.gR,ji:=none,kids:=[]})) w'/\Fr E.bs w w'/\∀k v,Sd L w k v->Sd a w' k v:=by
 have z:=h.yb b;have F:=h.Br b;refine(Lz E.bs _ _ _ _ _ _ w (h.wB b)).mono ?_;rintro d w'⟨rfl,C,p⟩;have l:=N.io b;refine⟨L.new _ w.heap.size (L.av i) (jD),λj y=>Loc.Cl y,by simp[Loc.new],(h.add _ _ _ _ _ p (ic _) ?_ rfl (λd x=>by grind) ?_ ?_ (λq=>absurd rfl (q _)) ?_ (λg hg=>h.ab i g l hg)),.ib p,λk v u=>⟨p.at u.1 (by simp),u.2⟩⟩
 .constructor<;>grind[Loc.vg,Loc.Dn,Loc.Lc,Z.ownsRow]
 all_goals grind[Rel.uq,Rel.BI]
theorem Rel.aoD(h:Rel E L σ w){k:Nat}(hs:Sd L w k v)(q:E.bs<=k)(y:E.w0.heap.size<=k)(u:gP):Rel E L σ (w.setCell ⟨k,0,none⟩ u)/\Sd L (w.setCell ⟨k,0,none⟩ u) k u/\(∀j x,j≠k->Sd L w j x->Sd L (w.setCell ⟨k,0,none⟩ u) j x)/\Fr E.bs w (w.setCell ⟨k,0,none⟩ u):=by
 have b:Z [k] w (w.setCell ⟨k,0,none⟩ u):=(Z.refl _ w).setCell (.inl (by simp)) _;have a:KT E.bs [66] w _:=.j9 b (λj e _=>by
  rw[List.mem_singleton.1 e];exact⟨⟨_,_,_,hs.1,by simp⟩,q⟩)
 obtain⟨C,p,d⟩:=h.il;exact⟨({h with
  fr:=h.fr.trans (a.fr (by decide))
  uz:=λi H z=>((h.uz i H z).kt a (by decide)).loc rfl rfl rfl
  il:=⟨C,a.at p (by decide),d⟩
  qv:=b.ownsRow h.qv (λg hg F=>hs.2.1 (by grind))
  ru:=b.ownsRow h.ru (λg hg F=>hs.2.2 (by grind))
  qm:=a.row h.qm (by decide)
  rd:=a.at h.rd (by decide)
  tok:=a.row h.tok (by decide)}),⟨gh hs.1 0 u,hs.2⟩,λj x e l=>⟨b.at l.1 (by grind),l.2⟩,a.fr (by decide)⟩
def SF(E:Env)(f:Nat->Nat)(σ:N)(w:J)(S:List (Nat×gP)):Prop:=∃L,L.gQ=f/\Rel E L σ w/\∀p∈S,Sd L w p.1 p.2
def SF.rf(h:SF E f σ w S):RF E f σ w:=by have⟨L,e,hr,_⟩:=h;exact⟨L,e,hr⟩
theorem SF.at(h:SF E f σ w S){k:Nat}(a:(k,v)∈S):w.heap[k]?=some (gH #[v] 66):=by
 have⟨L,e,hr,hs⟩:=h;exact(hs _ a).1
def SF.ir(h:SF E f σ w S)(a:Z [] w w'):SF E f σ w' S:=by
 have⟨L,e,hr,hs⟩:=h;exact⟨L,e,hr.ir a,λp b=>⟨a.at (hs p b).1 (by simp),(hs p b).2⟩⟩
def Z5{α:Type}(E:Env)(f:Nat->Nat)(n:Nat)(S:List (Nat×gP))(w:J)(r:qQ α)(b:(Nat->Nat)->α->gP)(e:Ending)(w':J):Prop:=match r with
 | .ok a σ'=>∃g,XF n f g/\n<=σ'.nodes.length/\e=iA (b g a)/\SF E g σ' w' S/\Fr E.bs w w'
 |_=>False
def aki{α:Type}(E:Env)(k:Nat)(args:(Nat->Nat)->jL)(m:M α)(a:(Nat->Nat)->α->gP):Prop:=
 ∀f σ w S,SF E f σ w S->m σ≠ .stuck->Calls prog k (args f) w (Z5 E f σ.nodes.length S w (m σ) a)
theorem anS{α β:Type}{k:Nat}{args:(Nat->Nat)->jL}{m:M α}{b:(Nat->Nat)->α->gP}(D:aki E k args m b)(H:SF E f σ w S){R:qQ β}{K:α->M β}(d:R=(m>>=K) σ)(hs:R≠ .stuck)(hA:A=args f)
  (l:∀a g σ' w',XF σ.nodes.length f g->σ.nodes.length<=σ'.nodes.length->SF E g σ' w' S->Fr E.bs w w'->R=K a σ'->m σ=.ok a σ'->Q (iA (b g a)) w'):Calls prog k A w Q:=by
 subst hA;rw[M.gw]at d;refine(D f σ w S H (λe=>hs (by grind))).mono ?_;grind[Z5]
def Q4{α:Type}(E:Env)(f:Nat->Nat)(n:Nat)(S:List (Nat×gP))(w:J)(r:qQ α)(b:(Nat->Nat)->α->gP)(e:Ending)(w':J):Prop:=match r with
 | .ok a σ'=>n<=σ'.nodes.length/\e=iA (b f a)/\SF E f σ' w' S/\Fr E.bs w w'
 |_=>False
def BK{α:Type}(E:Env)(k:Nat)(args:(Nat->Nat)->jL)(m:M α)(a:(Nat->Nat)->α->gP):Prop:=
 ∀f σ w S,SF E f σ w S->m σ≠ .stuck->Calls prog k (args f) w (Q4 E f σ.nodes.length S w (m σ) a)
theorem Eu{α β:Type}{k:Nat}{args:(Nat->Nat)->jL}{m:M α}{b:(Nat->Nat)->α->gP}(D:BK E k args m b)(H:SF E f σ w S){R:qQ β}{K:α->M β}(d:R=(m>>=K) σ)(hs:R≠ .stuck)(hA:A=args f)
  (g:∀a σ' w',σ.nodes.length<=σ'.nodes.length->SF E f σ' w' S->Fr E.bs w w'->R=K a σ'->m σ=.ok a σ'->Q (iA (b f a)) w'):Calls prog k A w Q:=by
 subst hA;rw[M.gw]at d;refine(D f σ w S H (λe=>hs (by grind))).mono ?_;grind[Q4]
theorem cO.ls(h:cO E L σ' w w')(hs:∀p∈S,Sd L w p.1 p.2)(b:n<=σ'.nodes.length){e:Ending}(a:e=qs):Q4 E L.gQ n S w (.ok () σ') uV e w':=by
 have⟨L',h1,h2,h3,h4⟩:=h;exact⟨b,a,⟨L',h1,h2,by grind⟩,h3⟩
def agl(E:Env)(x:jj):BK E 178 (λf=>#[j5 E.bB 188,oV f x]) (jR x) uV:=by
 rintro f σ w S⟨L,rfl,hr,d⟩ a;unfold jR at a|-;by_cases b:σ.gZ x=true;rw[sL b];exact(ac7 hr x b).mono (λe w' h=>h.2.ls d (ud _ _ rfl) h.1);rw[Xx b]at a;exact absurd rfl a
def aeo(E:Env)(x:jj):BK E 178 (λf=>#[j5 E.bB 189,oV f x]) (kM x) uV:=by
 rintro f σ w S⟨L,rfl,hr,d⟩ a;unfold kM at a|-;by_cases b:σ.gZ x=true;rw[sL b];exact(abM hr x b).mono (λe w' h=>h.2.ls d (ud _ _ rfl) h.1);rw[Xx b]at a;exact absurd rfl a
def ai7(E:Env)(x y:jj):BK E 267 (λf=>#[j5 E.bB 188,oV f x,oV f y]) (yR x y) uV:=by
 rintro f σ w S⟨L,rfl,hr,d⟩ b;unfold yR at b|-;by_cases a:(σ.gZ x&&σ.nk y)=true;rw[sL a];simp at a;exact(Y8 hr x y a.1 a.2).mono (λe w' h=>h.2.ls d (ud _ _ rfl) h.1);rw[Xx a]at b;exact absurd rfl b
def ahT(E:Env)(x y:jj):BK E 267 (λf=>#[j5 E.bB 189,oV f x,oV f y]) (pY x y) uV:=by
 rintro f σ w S⟨L,rfl,hr,d⟩ b;unfold pY at b|-;by_cases a:(σ.gZ x&&σ.gZ y)=true;rw[sL a];simp at a;exact(XN hr x y a.1 a.2).mono (λe w' h=>h.2.ls d (ud _ _ rfl) h.1);rw[Xx a]at b;exact absurd rfl b
theorem adN(E:Env)(j:Nat):BK E 365 (λf=>#[nV f j]) (lX j) uV:=by
 rintro f σ w S⟨L,rfl,hr,d⟩ a;unfold lX at a|-;cases hj:σ.gU j with
 |none=>rw[hj]at a;exact absurd rfl a
 |some ej=>
  simp only[hj]at a|-;cases hp:ej.ji with
  |none=>
   refine(Hc hr hj hp).mono ?_;rintro e w'⟨rfl,rfl⟩;exact⟨ic _,rfl,⟨L,rfl,hr,d⟩,Fr.refl _⟩
  |some p=>
   simp only[hp]at a|-;cases hep:σ.gU p with
   |none=>rw[hep]at a;exact absurd rfl a
   |some ep=>
    simp only[hep]at a|-;by_cases b:j≠p/\0<=pa ep.kids (Nd.gZ j)/\(pa ep.kids (Nd.gZ j)).toNat<ep.kids.length;rw[sL b];exact(ZM hr hj hp hep b.1 b.2.2 (by omega)).mono (λe w' h=>h.2.ls d (by grind[N.gW]) h.1);rw[Xx b]at a;exact absurd rfl a
theorem abW(E:Env)(i:Nat):aki E 266 (λf=>#[nV f i]) (kq i) nV:=by
 rintro f σ w S⟨L,rfl,hr,q⟩ a;unfold kq at a|-;cases hi:σ.gU i with
 |none=>rw[hi]at a;exact absurd rfl a
 |some e=>
  simp only[hi]at a|-;by_cases hg:oA e.name=true;rw[sL hg]at a;exact absurd rfl a;rw[Xx hg];refine(ZK hr hi (by grind)).mono ?_;rintro l w'⟨b,d,rfl,g,k,p⟩;exact⟨b.gQ,d,by simp[N.add],rfl,⟨b,rfl,g,by grind⟩,k⟩
def aio(E:Env)(i:Nat):BK E 90 (λf=>#[nV f i]) (jg i) pV:=by
 rintro f σ w S⟨L,rfl,hr,d⟩ a;unfold jg at a|-;cases he:σ.gU i with
 |none=>rw[he]at a;exact absurd rfl a
 |some e=>
  refine(WT hr he).mono ?_;rintro g w'⟨rfl,k,b⟩;exact⟨ic _,rfl,SF.ir ⟨L,rfl,hr,d⟩ b,.ib b⟩
def ajr(E:Env)(pl:Nat×Nat)(j:Nat):BK E 166 (λf=>#[pV f pl,.iface 66 (nV f j)]) (kD pl j) uV:=by
 rintro f σ w S⟨L,rfl,hr,d⟩ a;unfold kD at a|-;cases h1:σ.gU pl.1 with
 |none=>rw[h1]at a;exact absurd rfl a
 |some ei=>
  cases h2:σ.gU j with
  |none=>rw[h1,h2]at a;exact absurd rfl a
  |some ej=>
   simp only[h1,h2]at a|-;by_cases b:j≠pl.1/\pl.2<=ei.kids.length/\ei.kids.length<1048576;rw[sL b];exact(adH hr h1 h2 b.1 b.2.1 b.2.2).mono (λe w' h=>h.2.ls d (by simp[N.gW]) h.1);rw[Xx b]at a;exact absurd rfl a
def eG{α:Type}(m:M α):Prop:=∀σ a σ',m σ=.ok a σ'->∀i,σ.gZ (some i)=true->σ'.gZ (some i)=true
theorem Yj(x:jj):eG (jR x):=by
 intro σ a σ' h i b;unfold jR at h;split at h;cases h;exact b;grind
theorem L6(x:jj):eG (kM x):=by
 intro σ a σ' h i b;unfold kM at h;split at h;cases h;exact b;grind
theorem PF(x y:jj):eG (yR x y):=by
 intro σ a σ' h i b;unfold yR at h;split at h;cases h;exact b;grind
theorem PD(x y:jj):eG (pY x y):=by
 intro σ a σ' h i b;unfold pY at h;split at h;cases h;exact b;grind
theorem PE(j:Nat):eG (jg j):=by
 grind[eG,jg]
theorem UA(j:Nat):eG (kq j):=by
 intro σ a σ' h i b;grind[N.Cd,kq]
theorem K5{e:wN}(b:σ.gU j=some ej)(a:σ.gZ (some i)=true):(σ.gW j e).gZ (some i)=true:=by
 grind[N.rL]
theorem PG(pl:Nat×Nat)(j:Nat):eG (kD pl j):=by
 intro σ a σ' h i b;grind[K5,N.iK,kD]
theorem JB(j:Nat):eG (lX j):=by
 intro σ a σ' h i b;unfold lX at h;grind[K5,N.iK]
theorem SF.set{E:Env}{f:Nat->Nat}{σ:N}{w:J}{S:List (Nat×gP)}(h:SF E f σ w S){k:Nat}{v:gP}(d:(k,v)∈S)(b:E.bs<=k)(a:E.w0.heap.size<=k)(u:gP)(S':List (Nat×gP))(g:∀p∈S',p=(k,u)\/(p.1≠k/\p∈S)):SF E f σ (w.setCell ⟨k,0,none⟩ u) S'/\Fr E.bs w (w.setCell ⟨k,0,none⟩ u):=by
 have⟨L,e,hr,hs⟩:=h;have⟨h1,h2,h3,h4⟩:=hr.aoD (hs _ d) b a u;grind[SF]
section
variable {W W':J}{row:jj}(hg:W.grownBy W' row){B:Nat}(hr:∀r,row=some r->B<=r/\∃o:Obj,W.heap[r]?=some o/\o.isCells=false)
include hg hr
def rJ{k:Nat}{c:jL}{t:TypeId}{m:Nat×Nat}(h:W.heap[k]?=some (.cells c t m)):W'.heap[k]?=some (.cells c t m):=by
 refine(hg.block k (Array.getElem?_eq_some_iff.1 h).1 (λe=>?_)).trans h;have⟨_,o,ho,hc⟩:=hr k e.symm;rw[h]at ho;cases ho;cases hc
def xM{base:Nat}{e:TypeId}{a:Nat}{v:gP}{k:Nat}{xs:List gP}(h:W.ownsRow base e a v k xs):W'.ownsRow base e a v k xs:=by
 refine h.kept hg ?_;rcases h.2 with⟨rfl,_⟩|⟨g,d,l,rfl,_,b,_⟩;exact .inl rfl;refine .inr λp=>?_;have⟨_,o,ho,hc⟩:=hr g (by simpa [Value.ownBlock]using p.symm);rw[b]at ho;cases ho;cases hc
def Fr.grown{bs:Nat}{w:J}(h:Fr bs w W)(a:w.heap.size<=B):Fr bs w W':=by
 have⟨S,hk,hS⟩:=h;exact⟨S,hk.grown hg (λk e=> .inr (jZ a (hr k e).1)),hS⟩
def Rel.grown{E:Env}{L:Loc}{σ:N}(h:Rel E L σ W)(d:E.w0.heap.size<=B):Rel E L σ W':=by
 have⟨C,hb,hC⟩:=h.il;exact
  {fr:=Fr.grown hg hr h.fr d
   env:=h.env
   Gv:=h.Gv
   uz:=λi b g=>by
    have a:=h.uz i b g;cases b with
    |el e=>exact⟨⟨rJ hg hr a.1.il,xM hg hr a.1.row,a.1.le,a.1.aG⟩,xM hg hr a.2.1,a.2.2⟩
    |tx s=>exact rJ hg hr a
    |cm s=>exact rJ hg hr a
    |dt s=>exact rJ hg hr a
   inj:=h.inj,Dk:=h.Dk,JS:=h.JS,uq:=h.uq,H6:=h.H6,wf:=h.wf
   il:=⟨C,rJ hg hr hb,hC⟩
   qv:=xM hg hr h.qv
   ru:=xM hg hr h.ru
   JY:=h.JY,yK:=h.yK,Ie:=h.Ie
   qm:=xM hg hr h.qm
   Pl:=h.Pl
   rd:=rJ hg hr h.rd
   Wp:=h.Wp
   tok:=xM hg hr h.tok
   Ph:=h.Ph,bz:=h.bz,bB:=h.bB,bR:=h.bR,bN:=h.bN,BI:=h.BI,ab:=h.ab,tb:=h.tb,Pk:=h.Pk}
def SF.grown{E:Env}{f:Nat->Nat}{σ:N}{S:List (Nat×gP)}(h:SF E f σ W S)(b:E.w0.heap.size<=B):SF E f σ W' S:=by
 have⟨L,e,h1,h2⟩:=h;exact⟨L,e,h1.grown hg hr b,λp a=>⟨rJ hg hr (h2 p a).1,(h2 p a).2⟩⟩
end
def Fr.qd(h:Fr bs w W)(B:Nat):KeepsFrom B w W:=⟨h.size,λ_ _ _ a b=>h.other a b⟩
theorem Fr.at(h:Fr bs w W){k:Nat}{c:jL}{t:TypeId}{m:Nat×Nat}(a:w.heap[k]?=some (.cells c t m))(b:t∉abF):W.heap[k]?=some (.cells c t m):=by
 have⟨S,hkk,hS⟩:=h;grind[Z.block]
end
end Go.Proofs.YtdbbknopdbpfaaaGreatDoor
