import Derived.Test.YthcohfdidcdchaaGreatDoorOfE
import Derived.Deep.AppendLies
import Derived.Shelf.Lay
import Derived.Shelf.Strings.SlTrimAscii
import Derived.RegionDies
set_option linter.unusedSimpArgs false
set_option linter.unusedVariables false
set_option linter.defProp false
set_option maxHeartbeats 0
set_option maxRecDepth 100000
namespace Go.Proofs.YthcohfdidcdchaaGreatDoor
open Go.RowKit Go.PlainAid Tryz
def Qz:=@dif_pos
def GM:=@Nat.le_add_right
def Wv:=@eq_of_beq
def yD:=@Array.eq_empty_of_size_eq_zero
section
variable {L : la} {P : pM Unit->Prop} {R : RC} {S X : List Nat} {b c clock f g i k lg m n ps sz : Nat} {base : Int} {e : yp} {inV : Bool} {look : fY->Option fY} {nm s : fY} {r : pM Unit} {sp : lE} {t : gy} {w w' wr : gm} {σ σ' : Ab}
def Kept.B9 (h:Below w.heap.size w w'):Kept [] w w':=⟨h.os,h.tape,h.output,h.size,λk a _=>h.block k a⟩
def Gl (w:gm) (r:Nat):Prop:=(∃m,w.cell? ⟨3,0,none⟩=some (fV m))/\3 < w.heap.size/\r≠3
theorem Gl.kept {r : Nat} (h:Gl w r) (a:Kept [r] w w'):Gl w' r:=by
 have⟨⟨m,hm⟩,hl,hn⟩:=h;exact⟨⟨m,(a.cell (p:=⟨3,0,none⟩) hl (by grind)).trans hm⟩,lU hl a.size,hn⟩
def ph (s:fY):fY:=⟨(Lib.replaceAll s.data.toList (ByteArray.mk #[0]).data.toList (ByteArray.mk #[239,191,189]).data.toList).toArray⟩
theorem y7 (r:Nat) (s:fY) (w:gm) (j:s.size<=1048576) (d:Gl w r):
  Calls prog 149 #[gu s] w λe w'=>e=ig (gu (ph s))/\Kept [] w w':=by
 have⟨⟨m,hm⟩,_,_⟩:=d;have h:=Lib.countB_le ⟨#[0]⟩ (by decide) s.size s (gL _);have C:=Tryz.strings_ReplaceAll s ⟨#[0]⟩ ⟨#[239,191,189]⟩ m w (by omega) hm (by decide) (by have:(ByteArray.mk #[239,191,189]).size=3:=rfl;grind);go_enter func149,ntmps149;go_wp21;refine C.mono ?_;rintro e w' ⟨rfl,a⟩;go_wp2;go_ret;exact⟨rfl,Kept.B9 a⟩
def low (c:Int):Int:=if 65<=c/\c<=90 then c+32 else c
def small (s:fY):fY:=⟨s.data.map λb=>if 65<=b.toNat/\b.toNat<=90 then b+32 else b⟩
def tw (s:fY):(small s).size=s.size:=Array.size_map ..
theorem aaW (s:fY) (j:Nat) (h:j < s.size):bt (small s) j=low (bt s j):=by
 have l:j < s.data.size:=h;have a:j < (small s).size:=by rw[tw];exact h
 unfold bt low;rw[Qz h,Qz a];show(((small s).data[j]'a).toNat:Int)=_;have e:(small s).data[j]'a=(if 65<=(s.data[j]).toNat/\(s.data[j]).toNat<=90 then s.data[j]+32 else s.data[j]):=by simp[small]
 rw[e];show _=(if 65<=((s.data[j]).toNat:Int)/\((s.data[j]).toNat:Int)<=90 then ((s.data[j]).toNat:Int)+32 else ((s.data[j]).toNat:Int));by_cases d:65<=(s.data[j]).toNat/\(s.data[j]).toNat<=90
 .rw[gv d,gv (by omega),UInt8.toNat_add];grind
 grind
def tY (g sz:Nat) (s:fY) (k:Nat) (w wr:gm):Prop:=
 (∃C:jA,wr.heap[g]?=some (.cells C 5 (sz,sz+1))/\C.size=sz/\∀j,j < s.size->C[j]?=some (.int .u8 (if j < k then low (bt s j)else bt s j)))/\Kept [] w wr
theorem tY.cell (h:tY g sz s k w wr) (d:s.size<=sz) (j:Nat) (a:j < s.size):wr.cell? ⟨g,j,none⟩=some (.int .u8 (if j < k then low (bt s j)else bt s j))/\wr.frozen? ⟨g,j,none⟩=false:=by
 have⟨⟨C,hC,_,h⟩,_⟩:=h;exact⟨by rw[BQ hC];grind,Ny hC j (by omega)⟩
theorem tY.ab2 (h:tY g sz s k w wr) (hl:low (bt s k)=bt s k):tY g sz s (k+1) w wr:=by
 grind[tY]
theorem tY.store (h:tY g sz s k w wr) (a:w.heap.size<=g) (l:k < sz):tY g sz s (k+1) w (wr.setCell ⟨g,k,none⟩ (.int .u8 (low (bt s k)))):=by
 have⟨⟨C,hC,hs,h⟩,hk⟩:=h;refine⟨⟨_,Fe hC k _,by grind,λj d=>?_⟩,hk.setCell (.inr a) _⟩;grind
theorem xf (s:fY) (w:gm) (O:s.size<=1048576):
  Calls prog 241 #[gu s] w λe w'=>e=ig (gu (small s))/\Kept [] w w':=by
 have l:=run_bytes_of_string (P:=prog) w 9 55 5 s underlying9 underlying55 underlying5;obtain⟨o,x⟩:∃o,o=grownCap w s.size 0 5:=⟨_,rfl⟩;rw[<-x]at l;clear x;have B:=Cq s o;have z:∀j,j < s.size->(bytesRow s o)[j]?=some (.int .u8 (bt s j)):=λj y=>by rw[bytesRow_at s o j y,<-get_bt s j y];rfl
 generalize bytesRow s o=R at l B z;obtain⟨u,h⟩:∃u,u=w.drew.alloc (.cells R 5 (R.size,R.size+1)):=⟨_,rfl⟩;rw[<-h]at l;have G:u.heap[w.heap.size]?=some (.cells R 5 (R.size,R.size+1)):=by rw[h];exact fP w.drew _
 have F:Kept [] w u:=by rw[h];exact(Kept.refl [] w).drew.alloc _
 clear h;have I:Hid (tY w.heap.size R.size s 0 w u):=⟨⟨R,G,rfl,λj y=>by grind⟩,F⟩;clear G F z;generalize R.size=sz at *;go_enter func241,ntmps241;go_wp21;clear l
 go_loopw [10] (λi wr=>∃k:Nat,k<=s.size/\i=fV k/\tY w.heap.size sz s k w wr) (λi _=>s.size - (intOf i).toNat)
 case atStart=>exact⟨0,iM _,rfl,I⟩
 case round=>
  obtain⟨k,N,rfl,d⟩:=hrel;by_cases D:k < s.size
  .have⟨c1,f1⟩:=d.cell B k D;rw[gH (by omega)]at c1;have J:=bt_nonneg s k;have K:=bt_le s k;by_cases a:65<=bt s k
   .by_cases b:bt s k<=90;have A:=d.store (gL _) (by omega);have p:low (bt s k)=bt s k - 65+97:=by unfold low;rw[gv ⟨a,b⟩];omega
    rw[p]at A;clear p
    rotate_left
    have A:=d.ab2 (by unfold low;omega)
    all_goals
     generalize bt s k=c at *;go_wp2;go_roundw
     case rel=>grind
     case measure=>simp[intOf];omega
   .have A:=d.ab2 (by unfold low;omega);generalize bt s k=c at *;go_wp2;go_roundw
    case rel=>grind
    case measure=>simp[intOf];omega
  .have e:k=s.size:=by omega
   subst e;have C:(convert 55 9 (oo w.heap.size s.size o)).run prog wr= .ok (gu (small s)) wr:=by
    have:=aiu (P:=prog) wr 55 9 5 ⟨w.heap.size,0,none⟩ o (small s).data.toList underlying55 underlying5 underlying9 (λj y=>by
     have q:j < s.size:=by have:=tw s;simp at y;have e:(small s).data.size=(small s).size:=rfl;omega
     rw[jj];have:=(d.cell B j q).1;rw[gv q]at this;rw[this,<-aaW s j q,<-get_bt (small s) j (by simp_all)];rfl)
    have e2:(small s).data.toList.length=s.size:=by simp;exact tw s
    rw[e2]at this
    simpa using this
   have H:=d.2;go_wp2;go_ret;exact⟨rfl,H⟩
def qT (x y:Int) (nm:fY) (K:gG) (gx:la) (w:gm) (hA:zr w K gx) (Z:gx.length<=4096) (J:∀a∈gx,a.2.size<=1048576):
  Calls prog 222 #[.agg #[fV x,fV y,gu nm,K]] w λe w'=>e=ig (.bool (vr gx))/\Kept [] w w':=by
 have⟨ao,cp,hav⟩:=gw hA;subst hav;obtain⟨A,o⟩:∃A,A=w.alloc (gz #[fV x,fV y,gu nm,.slice ao gx.length cp] 189):=⟨_,rfl⟩;have h:Kept [] w A:=by rw[o];exact(Kept.refl _ _).alloc _
 have N:=h.ownsRow hA (λ_ _=>by simp);have O:=fM o.symm;have Q:=J;clear o;obtain⟨R,G⟩:∃R,R=vr gx:=⟨_,rfl⟩;rw[<-G];have F:Hid (R=vr (gx.drop 0)):=fM G;clear G;go_enter func222,ntmps222;go_wp21;rw[O.out]
 go_loopw [8] (λv wr=>∃d:Nat,v=fV d/\d<=gx.length/\R=vr (gx.drop d)/\Kept [] A wr) (λv _=>gx.length - (intOf v).toNat)
 case atStart=>exact⟨0,rfl,iM _,F,Kept.refl _ _⟩
 case round=>
  obtain⟨d,rfl,T,q,u⟩:=hrel;by_cases l:d < gx.length
  .obtain⟨g,rfl,V,Y⟩:=zr.at2 (u.ownsRow N (λ_ _=>by simp)) l;have J:=Q gx[d] (uG l);rw[Dc l]at q;have z:Hid (R=if kJ gx[d].1 ol then kJ (VU gx[d].2) lX else vr (gx.drop (d+1))):=fM q;have B:=fM u;clear u q;generalize gx[d].1=a at *;generalize gx[d].2=b at *;have C:=(λW=>xf b W J);have p:=B.alloc (gz #[gu a,gu b] 293);cases hq:kJ a ol with
   |true=>
    have I:(a.toList==[116,121,112,101])=true:=by rw[<-hq];unfold kJ;rw[sK (ol)]
    have j:=fM (show R=kJ (VU b) lX by rw[z.out,hq];rfl);go_wp21;refine(C _).mono ?_;rintro e U ⟨rfl,H⟩;have D:=p.trans H;go_wp2;go_ret;refine⟨?_,h.trans D⟩;rw[j.out];unfold kJ;rw[sK (lX)];rfl
   |false=>
    have I:(a.toList==[116,121,112,101])=false:=by rw[<-hq];unfold kJ;rw[sK (ol)]
    have j:=fM (show R=vr (gx.drop (d+1)) by rw[z.out,hq];rfl);go_wp2;go_roundw
    case rel=>exact⟨d+1,by go_num,by omega,j,p⟩
    case measure=>simp[intOf];omega
  .have z:Hid (R=false):=fM (by rw[q,Iu (by omega)];rfl);have B:=fM u;clear u q;go_wp2;go_ret;exact⟨by rw[z.out];rfl,h.trans B⟩
def Cl (E:Env) (rec:Nat->gy->M Unit) (hA:∀(m:Nat) (t:gy),jd E t->iZ E 162 (λ_=>#[Bp E,fV m,iy E t]) (rec m t) uV) (t:gy) (u:jd E t) (D:∀a∈t.jh,a.2.size<=1048576):iZ E 124 (λ_=>#[Bp E,iy E t]) (jV rec t) uV:=by
 intro f σ w h HS;have A:∃y n z,E.tv= .slice y n z:=by
  have⟨L,_,hr⟩:=h;have⟨y,z,e⟩:=gw hr.tok;exact⟨y,_,z,e⟩
 have C:=(λW=>zh E t W A);have p:Hid (∀W,Kept [] w W->Calls prog 222 #[.agg (Ae E t)] W λe I=>e=ig (.bool (vr t.jh))/\Kept [] W I):=fM (by
  intro W J;have⟨L,_,hr⟩:=h.ib J;have⟨a,b,k,gx⟩:=t;cases k with
  |start n=>
   have e:gx=E.ta:=u rfl;subst e;exact qT a b n E.tv E.ta W hr.tok hr.MY D
  |stop n=>
   have e:gx=E.ta:=u rfl;subst e;exact qT a b n E.tv E.ta W hr.tok hr.MY D
  |kg s=>exact qT 0 0 _ _ [] W (pk _ _ _ _) (by simp) (by simp)
  |gM s=>exact qT 0 0 _ _ [] W (pk _ _ _ _) (by simp) (by simp)
  |iE n q=>exact qT 0 0 _ _ [] W (pk _ _ _ _) (by simp) (by simp)
  |lost=>exact qT 0 0 _ _ [] W (pk _ _ _ _) (by simp) (by simp)
  |ie=>exact qT 0 0 _ _ [] W (pk _ _ _ _) (by simp) (by simp))
 obtain⟨R,j⟩:∃R,R=(jV rec t) σ:=⟨_,rfl⟩;rw[<-j]at HS|-;unfold jV at j;have H:=At.start h;cases hq:vr t.jh with
 |true=>
  rw[hq]at p j;have l:Hid (R=(ln t>>=λ_=>(Pure.pure ():M Unit)) σ):=fM j;clear j;generalize hav:Ae E t=K at *;go_enter func124,ntmps124;go_wp21;refine(C _).mono ?_;rintro e B ⟨rfl,d⟩;have x:=p B d;replace H:=H.k0 d;go_wp21;refine x.mono ?_;rintro e N ⟨rfl,o⟩;replace H:=H.k0 o;go_wp21;refine dC (wN E (iF E) t u) H l HS rfl lT ?_;rintro(_) f σ w H G F l;go_wp2;go_end0;exact ga l H rfl
 |false=>
  rw[hq]at p j;have l:Hid (R=(th rec t>>=λ_=>(Pure.pure ():M Unit)) σ):=fM j;clear j;generalize hav:Ae E t=K at *;go_enter func124,ntmps124;go_wp21;refine(C _).mono ?_;rintro e B ⟨rfl,d⟩;have x:=p B d;replace H:=H.k0 d;go_wp21;refine x.mono ?_;rintro e N ⟨rfl,o⟩;replace H:=H.k0 o;go_wp21;refine dC (ED E rec hA t u) H l HS rfl lT ?_;rintro(_) f σ w H G F l;go_wp2;go_end0;exact ga l H rfl
def Zy (E:Env) (t:gy):mn E .nothing t (Pure.pure ()):=by
 intro v f σ w h a d;refine⟨88,#[],#[],a,enters_of func88 (by rfl) rfl,?_⟩;have H:=At.start h;show Calls prog 88 #[iy E t] w _;generalize iy E t=j;go_enter func88,ntmps88;go_wp2;go_end0;exact ga rfl H rfl
def iN (E:Env) (t:gy) (k:Nat) (m:M Unit) (d:∀a w,(callFunc k a).run prog w= .ok (.enter k a) w) (h:iZ E k (λ_=>#[Bp E,iy E t]) m uV):mn E (.hH k) t m:=by
 intro v f σ w j o l;exact⟨k,#[iq E.bB],#[],o,d,h f σ w j l⟩
def Ad (E:Env) (r:Ru) (t:gy):mn E r t stuck:=λ_ _ _ _ _ _ a=>absurd rfl a
def UX (E:Env) (t:gy):iZ E 115 (λ_=>#[Bp E,iy E t]) (vI t) uV:=by
 refine dI λf σ w R a HS H=>?_;unfold vI at a;go_enter func115,ntmps115;have⟨ta,tb,tao,tn,tcp,HTG⟩:=FC E t H.rel;have d:=λw=>Bu ta tb t.name tao tn tcp w;go_wp21;refine(HTG _).mono ?_;rintro e o ⟨rfl,h⟩;replace H:=H.k0 h;go_wp21;refine dC (J5 E t.name) H a HS rfl lT ?_;rintro(_) f σ w H l j a;go_wp2;go_end0;exact ga a H rfl
def xJ (t:gy):Bool:=t.jh.all λa=>decide (a.2.size<=1048576)
def yQ (f:Nat):Option (M Bool):=
 if f=129 then some qN else
 if f=136 then some endCell else
 if f=130 then some lc else
 if f=135 then some AZ else
 if f=141 then some tJ else
 if f=132 then some oH else
 if f=122 then some vJ else
 none
def abn (E:Env) {b:M Bool} (h:yQ f=some b):kj E f (λ_=>#[Bp E]) b bV/\∀a w,(callFunc f a).run prog w= .ok (.enter f a) w:=by
 unfold yQ at h;split at h
 .rename_i e;subst e;cases h;exact⟨OZ E,enters_of func129 (by rfl) rfl⟩
 split at h
 .rename_i e;subst e;cases h;exact⟨Y0 E,enters_of func136 (by rfl) rfl⟩
 split at h
 .rename_i e;subst e;cases h;exact⟨F7 E,enters_of func130 (by rfl) rfl⟩
 split at h
 .rename_i e;subst e;cases h;exact⟨abq E,enters_of func135 (by rfl) rfl⟩
 split at h
 .rename_i e;subst e;cases h;exact⟨Ry E,enters_of func141 (by rfl) rfl⟩
 split at h
 .rename_i e;subst e;cases h;exact⟨J7 E,enters_of func132 (by rfl) rfl⟩
 split at h
 .rename_i e;subst e;cases h;exact⟨UZ E,enters_of func122 (by rfl) rfl⟩
 cases h
def KQ (lk:Bool) (vc rec:Nat->gy->M Unit) (t:gy) (f:Nat):M Unit:=
 if f=104 then yf else
 if f=110 then wK else
 if f=200 then wH else
 if f=203 then qP else
 if f=204 then yg else
 if f=205 then Mo else
 if f=206 then uc else
 if f=207 then wI else
 if f=209 then qv else
 if f=146 then Dq else
 if f=143 then kY else
 if f=142 then iT else
 if f=91 then mN t else
 if f=94 then vh t else
 if f=98 then vi t else
 if f=106 then rR t else
 if f=100 then jZ t else
 if f=101 then ln t else
 if f=111 then mu t else
 if f=113 then lr t else
 if f=195 then qA t else
 if f=184 then mF t else
 if f=185 then uv t else
 if f=186 then mO t else
 if f=187 then vD t else
 if f=188 then rS t else
 if f=190 then nW t else
 if f=191 then p9 t else
 if f=193 then nY t else
 if f=194 then oR t else
 if f=196 then pG t else
 if f=197 then iP t else
 if f=198 then qz t else
 if f=199 then nX t else
 if f=202 then vH t else
 if f=115 then vI t else
 if f=208 then nP t else
 if f=117 then nK t else
 if f=134 then pF t else
 if f=123 then kP t else
 if f=137 then nF t else
 if f=138 then ju t else
 if f=139 then iX t else
 if f=140 then lh t else
 if f=102 then rU t else
 if f=103 then mZ t else
 if f=192 then pa t else
 if f=182 then oe t else
 if f=183 then pw t else
 if f=92 then j9 rec t else
 if f=95 then nQ rec t else
 if f=99 then nR rec t else
 if f=105 then lu rec t else
 if f=108 then mc rec t else
 if f=107 then td rec t else
 if f=109 then zz rec t else
 if f=201 then wJ rec t else
 if f=238 then sZ rec t else
 if f=126 then th rec t else
 if f=116 then nO rec t else
 if f=124 then (if xJ t then jV rec t else stuck)else
 if f=127 then (if lk then stuck else og t)else
 if f=128 then (if lk then stuck else lG vc rec t)else
 stuck
theorem lF {E : Env} {a b:M Unit} (d:mn E (.hH k) t a) (h:mn E (.hH f) t b):mn E (.hH f) t (if f=k then a else b):=by
 grind
section
variable (E:Env) (lk:Bool) (hl:lk=false->E.wv=none) (hi:E.Gd=7) (vc rec:Nat->gy->M Unit)
variable (hAL:∀v ws (m:Nat) (t:gy),jd E t->iZ (E.lock v ws) 162 (λ_=>#[Bp E,.int .i64 (m:Int),iy E t]) (vc m t) uV)
variable (hA:∀(m:Nat) (t:gy),jd E t->iZ E 162 (λ_=>#[Bp E,.int .i64 (m:Int),iy E t]) (rec m t) uV)
include hl hi hAL hA
theorem aeX (f:Nat) (t:gy) (d:jd E t):mn E (.hH f) t (KQ lk vc rec t f):=by
 unfold KQ;refine lF (iN E t _ _ (enters_of func104 (by rfl) rfl) (Nq E t)) ?_;refine lF (iN E t _ _ (enters_of func110 (by rfl) rfl) (Nr E t)) ?_;refine lF (iN E t _ _ (enters_of func200 (by rfl) rfl) (YY E t)) ?_;refine lF (iN E t _ _ (enters_of func203 (by rfl) rfl) (O0 E t)) ?_;refine lF (iN E t _ _ (enters_of func204 (by rfl) rfl) (Y3 E t)) ?_;refine lF (iN E t _ _ (enters_of func205 (by rfl) rfl) (ahx E t)) ?_;refine lF (iN E t _ _ (enters_of func206 (by rfl) rfl) (UR E (iF E) t)) ?_;refine lF (iN E t _ _ (enters_of func207 (by rfl) rfl) (Y1 E t)) ?_;refine lF (iN E t _ _ (enters_of func209 (by rfl) rfl) (Rt E t)) ?_;refine lF (iN E t _ _ (enters_of func146 (by rfl) rfl) (abl E t)) ?_;refine lF (iN E t _ _ (enters_of func143 (by rfl) rfl) (Ci E t)) ?_;refine lF (iN E t _ _ (enters_of func142 (by rfl) rfl) (AC E t)) ?_;refine lF (iN E t _ _ (enters_of func91 (by rfl) rfl) (IR E t)) ?_;refine lF (iN E t _ _ (enters_of func94 (by rfl) rfl) (Tw E t d)) ?_;refine lF (iN E t _ _ (enters_of func98 (by rfl) rfl) (Ty E (iF E) t d)) ?_;refine lF (iN E t _ _ (enters_of func106 (by rfl) rfl) (Tt E (iF E) t d)) ?_;refine lF (iN E t _ _ (enters_of func100 (by rfl) rfl) (wM E (iF E) t)) ?_;refine lF (iN E t _ _ (enters_of func101 (by rfl) rfl) (wN E (iF E) t d)) ?_;refine lF (iN E t _ _ (enters_of func111 (by rfl) rfl) (OR E (iF E) t)) ?_;refine lF (iN E t _ _ (enters_of func113 (by rfl) rfl) (rT E (iF E) t d)) ?_;refine lF (iN E t _ _ (enters_of func195 (by rfl) rfl) (TC E (iF E) t d)) ?_;refine lF (iN E t _ _ (enters_of func184 (by rfl) rfl) (wT E (iF E) t d)) ?_;refine lF (iN E t _ _ (enters_of func185 (by rfl) rfl) (V2 E (iF E) t d)) ?_;refine lF (iN E t _ _ (enters_of func186 (by rfl) rfl) (Lu E (iF E) t d)) ?_;refine lF (iN E t _ _ (enters_of func187 (by rfl) rfl) (ZW E (iF E) t d)) ?_;refine lF (iN E t _ _ (enters_of func188 (by rfl) rfl) (Tv E t d)) ?_;refine lF (iN E t _ _ (enters_of func190 (by rfl) rfl) (MR E t d)) ?_;refine lF (iN E t _ _ (enters_of func191 (by rfl) rfl) (Qb E t d)) ?_;refine lF (iN E t _ _ (enters_of func193 (by rfl) rfl) (MU E (iF E) t d)) ?_;refine lF (iN E t _ _ (enters_of func194 (by rfl) rfl) (MW E t d)) ?_;refine lF (iN E t _ _ (enters_of func196 (by rfl) rfl) (Tz E t d)) ?_;refine lF (iN E t _ _ (enters_of func197 (by rfl) rfl) (oQ E t d)) ?_;refine lF (iN E t _ _ (enters_of func198 (by rfl) rfl) (TA E t d)) ?_;refine lF (iN E t _ _ (enters_of func199 (by rfl) rfl) (MT E (iF E) t d)) ?_;refine lF (iN E t _ _ (enters_of func202 (by rfl) rfl) (UP E t)) ?_;refine lF (iN E t _ _ (enters_of func115 (by rfl) rfl) (UX E t)) ?_;refine lF (iN E t _ _ (enters_of func208 (by rfl) rfl) (ID E t)) ?_;refine lF (iN E t _ _ (enters_of func117 (by rfl) rfl) (Lt E (iF E) t d)) ?_;refine lF (iN E t _ _ (enters_of func134 (by rfl) rfl) (Tu E t d)) ?_;refine lF (iN E t _ _ (enters_of func123 (by rfl) rfl) (DR E t d)) ?_;refine lF (iN E t _ _ (enters_of func137 (by rfl) rfl) (JK E (iF E) t)) ?_;refine lF (iN E t _ _ (enters_of func138 (by rfl) rfl) (AG E (iF E) t d)) ?_;refine lF (iN E t _ _ (enters_of func139 (by rfl) rfl) (tQ E (iF E) t d)) ?_;refine lF (iN E t _ _ (enters_of func140 (by rfl) rfl) (Fy E (iF E) t d)) ?_;refine lF (iN E t _ _ (enters_of func102 (by rfl) rfl) (by exact Im E hi t d)) ?_;refine lF (iN E t _ _ (enters_of func103 (by rfl) rfl) (by exact GD E hi t d)) ?_;refine lF (iN E t _ _ (enters_of func192 (by rfl) rfl) (by exact IV E hi t d)) ?_;refine lF (iN E t _ _ (enters_of func182 (by rfl) rfl) (by exact U4 E t (λi=>abG E t d i))) ?_;refine lF (iN E t _ _ (enters_of func183 (by rfl) rfl) (by exact U3 E t (λi=>abG E t d i))) ?_;refine lF (iN E t _ _ (enters_of func92 (by rfl) rfl) (AH E rec hA t d)) ?_;refine lF (iN E t _ _ (enters_of func95 (by rfl) rfl) (Mx E rec hA t d)) ?_;refine lF (iN E t _ _ (enters_of func99 (by rfl) rfl) (My E (iF E) rec hA t d)) ?_;refine lF (iN E t _ _ (enters_of func105 (by rfl) rfl) (Dw E rec hA t d)) ?_;refine lF (iN E t _ _ (enters_of func108 (by rfl) rfl) (Mv E (iF E) rec hA t d)) ?_;refine lF (iN E t _ _ (enters_of func107 (by rfl) rfl) (OM E rec hA t d)) ?_;refine lF (iN E t _ _ (enters_of func109 (by rfl) rfl) (YS E rec hA t d)) ?_;refine lF (iN E t _ _ (enters_of func201 (by rfl) rfl) (Y2 E rec hA t d)) ?_;refine lF (iN E t _ _ (enters_of func238 (by rfl) rfl) (OL E rec hA t d)) ?_;refine lF (iN E t _ _ (enters_of func126 (by rfl) rfl) (ED E rec hA t d)) ?_;refine lF (iN E t _ _ (enters_of func116 (by rfl) rfl) (Mf E rec hA t d)) ?_;by_cases e:f=124
 .rw[gv e];subst e;refine iN E t _ _ (enters_of func124 (by rfl) rfl) ?_;by_cases j:xJ t=true
  .rw[gv j];exact Cl E rec hA t d (λa l=>by unfold xJ at j;grind)
  .rw[gH j];exact λ_ _ _ _ h=>absurd rfl h
 rw[gH e];clear e;by_cases e:f=127
 .rw[gv e];subst e;refine iN E t _ _ (enters_of func127 (by rfl) rfl) ?_
  (cases lk with
   |true=>exact λ_ _ _ _ h=>absurd rfl h
   |false=>exact Ve E (hl rfl) t)
 rw[gH e];clear e;by_cases e:f=128
 .rw[gv e];subst e;refine iN E t _ _ (enters_of func128 (by rfl) rfl) ?_
  (cases lk with
   |true=>exact λ_ _ _ _ h=>absurd rfl h
   |false=>exact J8 E (hl rfl) vc rec hAL hA t d)
 rw[gH e];grind[mn,stuck]
end
def qO:M (Nat×Nat):=λσ=>match io σ.gq 0 with
 |some i=>jr i σ
 |none=> .stuck
def xu (a:Nat) (own:Bool) (t:gy):M Unit:=
 if a=96/\own=true then nB mD t else
 if a=145/\own=true then nB qO t else
 if a=90/\own=false then nB (jr 0) t else
 stuck
def MI {σ1 : Ab} {pl : Nat×Nat} (h:placeFor i σ= .ok pl σ1):σ1=σ:=by
 unfold placeFor at h;split at h
 .exact pt h
 .exact pX h
theorem rG (i:Nat) (σ:Ab) (c p:Nat):jr i σ≠ .stop c p:=by
 grind[jr]
theorem Au (i:Nat) (σ:Ab) (c p:Nat):lM i σ≠ .stop c p:=by
 intro h;unfold lM at h;split at h
 .split at h
  .grind
  .split at h
   .exact rG _ _ _ _ h
   grind
 grind
theorem xx (σ:Ab) (c p:Nat):jK σ≠ .stop c p:=by
 intro h;unfold jK at h;split at h
 .split at h
  .exact Au _ _ _ _ h
  .cases h
  .split at h
   .exact rG _ _ _ _ h
   grind
 grind
theorem MJ (E:Env):D9 E 96 true mD where
 ent:=enters_of func96 (by rfl) rfl
 same:=by
  intro σ j d h;unfold mD at h;split at h
  .exact MI h
  grind
 PB:=by
  intro σ c p h;unfold mD at h;split at h
  .unfold placeFor at h;split at h
   .exact xx _ _ _ h
   .exact rG _ _ _ _ h
  grind
 aen:=λf σ w h a=>Jg E (iF E) f σ w h a
def Rm (E:Env):D9 E 90 false (jr 0) where
 ent:=enters_of func90 (by rfl) rfl
 same:=λ_ _ _ h=>pX h
 PB:=λσ c p=>rG 0 σ c p
 aen:=λf σ w h a=>Hf E 0 f σ w h a
theorem Pc (E:Env):D9 E 145 true qO where
 ent:=enters_of func145 (by rfl) rfl
 same:=by
  intro σ j d h;unfold qO at h;split at h
  .exact pX h
  grind
 PB:=by
  intro σ c p h;unfold qO at h;split at h
  .exact rG _ _ _ _ h
  grind
 aen:=by
  intro f σ w h a;unfold qO at a|-;cases hq:io σ.gq 0 with
  |none=>rw[hq]at a;exact absurd rfl a
  |some i=>
   rw[hq]at a;exact Rv E i h hq a
def aei (E:Env) (d:Nat) (own:Bool) (t:gy):mn E (.gM d own) t (xu d own t):=by
 have a:∀j,D9 E d own j->mn E (.gM d own) t (nB j t):=by
  intro j l v f σ w h p o;have⟨b1,e,hb⟩:=p;exact⟨_,_,_,e,enters_of func165 (by rfl) rfl,UG E d own j l t b1 h o hb⟩
 unfold xu;split
 .rename_i e;have⟨e1,e2⟩:=e;subst e1;subst e2;exact a _ (MJ E)
 split
 .rename_i e;have⟨e1,e2⟩:=e;subst e1;subst e2;exact a _ (Pc E)
 split
 .rename_i e;have⟨e1,e2⟩:=e;subst e1;subst e2;exact a _ (Rm E)
 exact Ad E _ t
def oW (lk:Bool) (vc rec:Nat->gy->M Unit):Ru->gy->M Unit
 | .nil,_=>stuck
 | .nothing,_=>Pure.pure ()
 | .hH f,t=>KQ lk vc rec t f
 | .pO m,t=>if 0<=m then rec m.toNat t else stuck
 | .gM pf own,t=>xu pf own t
 | .ahead f,t=>match yQ f with
  |some b=>xl rec b t
  |none=>stuck
 | .ends f,_=>match yQ f with
  |some b=>Cs b
  |none=>stuck
 | .LZ r,t=>IG (oW lk vc rec r t) t
 | .qF ks m,t=>if 0<=m then vE ks m.toNat t else stuck
 | .nj ks name m,t=>if 0<=m then ql rec ks name m.toNat t else stuck
 | .item ks,t=>Hu ks t
section
variable (E:Env) (lk:Bool) (hl:lk=false->E.wv=none) (hi:E.Gd=7) (vc rec:Nat->gy->M Unit)
variable (hAL:∀v ws (m:Nat) (t:gy),jd E t->iZ (E.lock v ws) 162 (λ_=>#[Bp E,.int .i64 (m:Int),iy E t]) (vc m t) uV)
variable (hA:∀(m:Nat) (t:gy),jd E t->iZ E 162 (λ_=>#[Bp E,.int .i64 (m:Int),iy E t]) (rec m t) uV)
include hl hi hAL hA
def RU (t:gy) (j:jd E t):∀r,mn E r t (oW lk vc rec r t)
 | .nil=>Ad E _ t
 | .nothing=>Zy E t
 | .hH f=>aeX E lk hl hi vc rec hAL hA f t j
 | .pO m=>by
  show mn E (.pO m) t (if 0<=m then rec m.toNat t else stuck);split
  .rename_i l;intro v f σ w h d a;have⟨b1,b2,e,hb1,hb2⟩:=d;have o:m=((m.toNat:Nat):Int):=by omega
   rw[o]at hb2;exact⟨_,_,_,e,enters_of func171 (by rfl) rfl,ad5 E rec hA t j m.toNat b1 b2 h a hb1 hb2⟩
  .exact Ad E _ t
 | .gM pf own=>aei E pf own t
 | .ahead k=>by
  show mn E (.ahead k) t (match yQ k with|some b=>xl rec b t|none=>stuck)
  cases hb:yQ k with
  |none=>exact Ad E _ t
  |some b=>
   intro v f σ w h d a;have⟨b1,b2,e,hb1,hb2⟩:=d;have⟨l,he⟩:=abn E hb;exact⟨_,_,_,e,enters_of func218 (by rfl) rfl,O3 E rec hA t j b k l he b1 b2 h a hb1 hb2⟩
 | .ends k=>by
  show mn E (.ends k) t (match yQ k with|some b=>Cs b|none=>stuck)
  cases hb:yQ k with
  |none=>exact Ad E _ t
  |some b=>
   intro v f σ w h d a;have⟨b1,e,hb1⟩:=d;have⟨l,he⟩:=abn E hb;exact⟨_,_,_,e,enters_of func223 (by rfl) rfl,aev E t b k l he b1 h a hb1⟩
 | .LZ r=>by
  intro v f σ w h d a;have⟨b1,b2,u,e,hb1,hb2,hu⟩:=d;exact⟨_,_,_,e,enters_of func228 (by rfl) rfl,Pe E t r _ (RU t j r) b1 b2 u h a hb1 hb2 hu⟩
 | .qF ks m=>by
  show mn E (.qF ks m) t (if 0<=m then vE ks m.toNat t else stuck);split
  .rename_i l;intro v f σ w h d a;have⟨b1,b2,b3,u,e,hb1,hb2,ha,hb3⟩:=d;have o:m=((m.toNat:Nat):Int):=by omega
   rw[o]at hb3;obtain⟨k,p,rfl,_,_⟩:=ha.call;exact⟨_,_,_,e,enters_of func215 (by rfl) rfl,Io E t j ks m.toNat b1 b2 b3 k p h a hb1 hb2 ha hb3⟩
  .exact Ad E _ t
 | .nj ks name m=>by
  show mn E (.nj ks name m) t (if 0<=m then ql rec ks name m.toNat t else stuck);split
  .rename_i l;intro v f σ w h d a;have⟨b1,b2,b3,b4,u,e,hb1,hb2,ha,hb3,hb4⟩:=d;have o:m=((m.toNat:Nat):Int):=by omega
   rw[o]at hb4;obtain⟨k,p,rfl,_,_⟩:=ha.call;exact⟨_,_,_,e,enters_of func217 (by rfl) rfl,by first|exact EG E rec hA t j ks name m.toNat b1 b2 b3 b4 k p h a hb1 hb2 ha hb3 hb4|exact EG E rec hA t j ks name m.toNat b1 b2 b3 b4 k p h a hb1 hb2 hb3 hb4 ha⟩
  .exact Ad E _ t
 | .item ks=>by
  intro v f σ w h d a;have⟨b1,b2,b3,u1,u2,e,hb1,hb2,ha1,hb3,ha2⟩:=d;obtain⟨y,q,rfl,_,_⟩:=ha1.call;obtain⟨z,x,rfl,_,_⟩:=ha2.call;exact⟨_,_,_,e,enters_of func272 (by rfl) rfl,P6 E t j ks b1 b2 b3 y z q x h a hb1 hb2 ha1 hb3 ha2⟩
end
def gQ:Bool->Nat->Nat->gy->M Unit
 |_,0,_,_=>stuck
 |lk,n+1,m,t=>match t.k with
  | .lost=>stuck
  |_=>asM (oW lk (gQ true n) (gQ lk n)) m t
theorem ah4 (E:Env) (G:∃x m c,E.tv= .slice x m c) (t:gy) (h:t.k≠ .lost):agk E t:=by
 have⟨a,b,k,gx⟩:=t;cases k with
 |kg s=>exact λd j sp o p u y z A B C D F w l=>afb E d j a b s gx sp o p u y z A B C D F w l
 |ie=>exact λd j sp o p u y z A B C D F w l=>Vx E d j a b gx sp o p u y z A B C D F w l
 |start n=>exact λd j sp o p u y z A B C D F w l=>acA E d j a b n gx sp o p u y z A B C D F w l G
 |stop n=>exact λd j sp o p u y z A B C D F w l=>afc E d j a b n gx sp o p u y z A B C D F w l G
 |gM s=>exact λd j sp o p u y z A B C D F w l=>Vu E d j a b s gx sp o p u y z A B C D F w l
 |iE n q=>exact λd j sp o p u y z A B C D F w l=>Vv E d j a b n q gx sp o p u y z A B C D F w l
 |lost=>grind
def FE (lk:Bool) (n m:Nat) (t:gy) (h:t.k≠ .lost):gQ lk (n+1) m t=asM (oW lk (gQ true n) (gQ lk n)) m t:=by
 simp[gQ]
def Qi:∀(n:Nat) (lk:Bool) (E:Env),(lk=false->E.wv=none)->E.Gd=7->(∃x m c,E.tv= .slice x m c)->∀(m:Nat) (t:gy),jd E t->iZ E 162 (λ_=>#[Bp E,fV m,iy E t]) (gQ lk n m t) uV
 |0,_,_,_,_,_,_,_,_=>λ_ _ _ _ j=>absurd rfl j
 |n+1,lk,E,hl,hi,htv,m,t,l=>by
  by_cases d:t.k= .lost
  .have e:gQ lk (n+1) m t=stuck:=by
    have⟨a,b,k,gx⟩:=t;cases d;rfl
   rw[e];exact λ_ _ _ _ j=>absurd rfl j
  .rw[FE lk n m t d];exact adg E _ t (ah4 E htv t d) (λr=>RU E lk hl hi (gQ true n) (gQ lk n) (λv ws m t l=>Qi n true (E.lock v ws) (λh=>by cases h) hi htv m t l) (Qi n lk E hl hi htv) t l r) m
def Yq (E:Env) (rec:Nat->gy->M Unit) (a b:Nat) (gx:la):iZ E 48 (λ_=>#[Bp E,iy E ⟨a,b,.lost,gx⟩]) (uE rec ⟨a,b,.lost,gx⟩) uV:=by
 intro f σ w h l;have j:uE rec ⟨a,b,.lost,gx⟩ σ= .ok () σ:=rfl;rw[j];simp only[iy];have d:=ri underlying185;have H:=fM ((At.start h).k0 ((Kept.refl [] w).alloc (gz #[fV a,fV b] 185)));clear h l j;go_enter func48,ntmps48;go_wp2;go_end0;exact ga rfl H.out rfl
section
variable (lk:Bool) (vc rec:Nat->gy->M Unit) (t:gy)
end
def aaC (E:Env) (hl:E.wv=none) (hi:E.Gd=7) (h:∃x m c,E.tv= .slice x m c) (n:Nat) (t:gy) (d:jd E t):iZ E 48 (λ_=>#[Bp E,iy E t]) (uE (gQ false n) t) uV:=by
 have hA:=Qi n false E (λ_=>hl) hi h;have⟨a,b,k,gx⟩:=t;cases k with
 |kg s=>exact yL E _ hA _ d nofun rfl (by decide) λw=>by kernel_rfl
 |start s=>exact yL E _ hA _ d nofun rfl (by decide) λw=>by generalize E.tv=x;kernel_rfl
 |stop s=>exact yL E _ hA _ d nofun rfl (by decide) λw=>by generalize E.tv=x;kernel_rfl
 |gM s=>exact yL E _ hA _ d nofun rfl (by decide) λw=>by kernel_rfl
 |iE s q=>exact yL E _ hA _ d nofun rfl (by decide) λw=>by kernel_rfl
 |lost=>exact Yq E _ a b gx
 |ie=>exact yL E _ hA _ d nofun rfl (by decide) λw=>by kernel_rfl
theorem wZ {n : fY} {r : Ru}:∀{R:List (List fY×Ru)},oq R n=some r->∃p∈R,gZ p.1 n=true/\p.2=r
 |[],h=>by cases h
 |p::R,h=>by
  unfold oq at h;by_cases a:gZ p.1 n=true
  .grind
  .rw[gH a]at h;have⟨q,h1,h2⟩:=wZ h;grind
theorem KO {n : fY}:∀{R:List (List fY×Ru)},oq R n=none->∀p∈R,gZ p.1 n=false
 |[],_,p,a=>by cases a
 |q::R,h,p,a=>by
  unfold oq at h;by_cases d:gZ q.1 n=true
  .grind
  .rw[gH d]at h;rcases List.mem_cons.1 a with rfl|a
   .grind
   .exact KO h p a
def Xj (t:gy):Bool:=match t.k with
 | .start _=>true
 |_=>false
structure vS (t:gy):Prop where
 sz:t.chars.size<=100
 sm:xJ t=true
 nl:t.k≠ .lost
def Jq (σ:Ab) (t:gy):Prop:=Xj t=true->σ.fresh=true
def Jq.tag (h:Jq σ t) (d:Xj t=true):oD σ t:=by
 refine⟨?_,h d⟩;have⟨a,b,k,gx⟩:=t;cases k<;>first|rfl|cases d
theorem iC (lk:Bool) (n m:Nat) (t:gy) (hl:t.k≠ .lost) (sp:lE) (d:ut[m]?=some sp) (r:Ru) (a:jQ sp t=r):gQ lk (n+1) m t=oW lk (gQ true n) (gQ lk n) r t:=by
 rw[FE lk n m t hl];grind[asM]
def zx (t:gy):xu 96 true t=nB mD t:=by rfl
def Rg (t:gy):xu 90 false t=nB (jr 0) t:=by rfl
def Kq {n : fY} (h:gZ [s] n=true):n=s:=by rw[yV]at h;exact su h
def ai5 {u n : fY} (h:gZ [s,u] n=true):n=s\/n=u:=by
 unfold gZ at h;simp only[List.any_cons,List.any_nil,Bool.or_false,Bool.or_eq_true]at h;rcases h with h|h
 .exact .inl (su h)
 .exact .inr (su h)
def Pb {a : List fY} {n : fY} (h:gZ a n=true):n∈a:=by
 unfold gZ at h;rw[List.any_eq_true]at h;have⟨x,h1,h2⟩:=h;rw[su h2];exact h1
def Xe (lk:Bool) (n a b:Nat) (nm:fY) (gx:la) (d:nm=iS\/nm=jp\/nm=iK) (h:sB σ) (o:σ.fresh=true) (l:wt σ < 999000):RB 1 σ (gQ lk (n+1) 3 ⟨a,b,.start nm,gx⟩ σ):=by
 have j:oD σ ⟨a,b,.start nm,gx⟩:=⟨rfl,o⟩;rcases d with rfl|rfl|rfl
 .rw[iC lk n 3 _ (by simp) lZ rfl (.hH 101) (by kernel_rfl)];exact vy h l j
 .rw[iC lk n 3 _ (by simp) lZ rfl (.hH 102) (by kernel_rfl)];exact FA h l j
 .rw[iC lk n 3 _ (by simp) lZ rfl (.hH 103) (by kernel_rfl)];exact Fz h l j
def zU {rec:Nat->gy->M Unit} (h:RB c {σ with mode:=m} (rec m t {σ with mode:=m})):RB c σ ((jF m>>=λ_=>jX rec t>>=λ_=>(Pure.pure ():M Unit)) σ):=by
 have o:RB c {σ with mode:=m} ((jX rec t>>=λ_=>(Pure.pure ():M Unit)) {σ with mode:=m}):=RB.tail h;show RB c σ ((jX rec t>>=λ_=>(Pure.pure ():M Unit)) {σ with mode:=m});revert o;cases(jX rec t>>=λ_=>(Pure.pure ():M Unit)) {σ with mode:=m} with
 |ok u σ2=>rintro⟨d,j,a,l⟩;exact⟨d,j,⟨a.gI,a.qu,a.rH,a.pP,a.wt,a.wz,a.nm⟩,l⟩
 |stop c p=>exact λh=>h
 |stuck=>exact λh=>h
def sB.mode (h:sB σ) (m:Nat) (a:qG m=true):sB {σ with mode:=m}:=⟨h.iv.mg rfl rfl rfl rfl rfl rfl rfl,h.ne,a⟩
def Eh (lk:Bool) (n:Nat) (t:gy) (u:vS t) (h:sB σ) (F:Jq σ t) (d:wt σ < 999000):RB 360 σ (gQ lk (n+3) 6 t σ):=by
 obtain⟨a,b,k,gx⟩:=t;cases k with
 |lost=>exact absurd rfl u.nl
 |kg s=>
  have x:jQ kO ⟨a,b,.kg s,gx⟩= .hH 111:=by
   unfold jQ;dsimp only;split<;>rfl
  rw[iC lk (n+2) 6 _ u.nl kO rfl _ x];exact(Me h d u.sz).mono (by omega)
 |gM s=>
  rw[iC lk (n+2) 6 _ u.nl kO rfl (.gM 96 true) rfl];show RB 360 σ (xu 96 true _ σ);rw[zx];exact RB.mono (c:=1) ((G9 h.iv mD (Bj h.iv h.ne) _ d).rb h.ne h.md) (by omega)
 |iE s q=>
  rw[iC lk (n+2) 6 _ u.nl kO rfl .nothing rfl];exact(sS h.iv h.bms).mono (by omega)
 |ie=>
  rw[iC lk (n+2) 6 _ u.nl kO rfl .nothing rfl];exact(sS h.iv h.bms).mono (by omega)
 |start nm=>
  have j:oD σ ⟨a,b,.start nm,gx⟩:=F.tag rfl;cases hl:oq mB nm with
  |none=>
   have x:jQ kO ⟨a,b,.start nm,gx⟩= .hH 113:=by
    show kD [((oq mB nm).getD .nil),_,_]=_;rw[hl];rfl
   rw[iC lk (n+2) 6 _ u.nl kO rfl _ x];exact(MV h d j).mono (by omega)
  |some r=>
   obtain⟨p,z,l,e⟩:=wZ hl;have x:r≠ .nil->jQ kO ⟨a,b,.start nm,gx⟩=r:=by
    intro y;show kD [((oq mB nm).getD .nil),_,_]=_;rw[hl];cases r<;>first|rfl|exact absurd rfl y
   have go:∀o,r=o->o≠ .nil->RB 360 σ (oW lk (gQ true (n+2)) (gQ lk (n+2)) o ⟨a,b,.start nm,gx⟩ σ)->RB 360 σ (gQ lk (n+3) 6 ⟨a,b,.start nm,gx⟩ σ):=by
    intro o e1 e2 B;rw[iC lk (n+2) 6 _ u.nl kO rfl o (by rw[<-e1];exact x (by rw[e1];exact e2))];exact B
   unfold mB at z;simp only[kU,Al,yC]at z;rcases z with rfl|rfl|rfl|rfl|rfl|rfl|rfl|rfl|rfl|rfl|rfl|rfl|rfl|rfl|rfl|rfl|rfl|rfl|rfl|rfl|rfl
   all_goals refine go _ e.symm (by intro A;cases A) ?_
   all_goals dsimp only at l
   all_goals first
    |exact(Lv h d j).mono (by omega)
    |exact(P9 h d j (Kq l)).mono (by omega)
    |exact(DS h d j (by rcases ai5 l with e|e<;>(show rY nm=true;rw[e];kernel_rfl))).mono (by omega)
    |exact(P7 h d j (Kq l)).mono (by omega)
    |exact(Qc h d j).mono (by omega)
    |exact(Lx h d j).mono (by omega)
    |exact(Lw h d j).mono (by omega)
    |exact(GF h d j).mono (by omega)
    |exact(MX h d j).mono (by omega)
    |exact(Ls h d j).mono (by omega)
    |exact(aeN h d j _ (by kernel_rfl)).mono (by omega)
    |exact(P5 h d j (Kq l)).mono (by omega)
    |exact(V1 h d j).mono (by omega)
    |exact(IU h d j).mono (by omega)
    |exact(TB h d j).mono (by omega)
    |exact(MQ h d j).mono (by omega)
    |exact(sS h.iv h.bms).mono (by omega)
    |exact(RY h j.fr).mono (by omega)
    |exact(RX h j.fr).mono (by omega)
    |exact(Xe lk (n+1) a b nm gx (by have:=Pb l;simp at this;exact this) h j.fr d).mono (by omega)
    |skip
 |stop nm=>
  cases hl:oq my nm with
  |none=>
   have x:jQ kO ⟨a,b,.stop nm,gx⟩= .hH 115:=by
    show kD [((oq my nm).getD .nil),_,_]=_;rw[hl];rfl
   rw[iC lk (n+2) 6 _ u.nl kO rfl _ x];have D:gZ [fO] nm=false:=KO hl ([fO],.hH 201) (by unfold my;simp);exact(Rw h (by
    show nm≠_;rintro rfl;rw[yV]at D;exact aji D rfl)).mono (by omega)
  |some r=>
   obtain⟨p,z,l,e⟩:=wZ hl;have x:r≠ .nil->jQ kO ⟨a,b,.stop nm,gx⟩=r:=by
    intro y;show kD [((oq my nm).getD .nil),_,_]=_;rw[hl];cases r<;>first|rfl|exact absurd rfl y
   have go:∀o,r=o->o≠ .nil->RB 360 σ (oW lk (gQ true (n+2)) (gQ lk (n+2)) o ⟨a,b,.stop nm,gx⟩ σ)->RB 360 σ (gQ lk (n+3) 6 ⟨a,b,.stop nm,gx⟩ σ):=by
    intro o e1 e2 B;rw[iC lk (n+2) 6 _ u.nl kO rfl o (by rw[<-e1];exact x (by rw[e1];exact e2))];exact B
   unfold my at z;simp only[kU,Al,yC]at z;rcases z with rfl|rfl|rfl|rfl|rfl|rfl|rfl|rfl|rfl|rfl
   all_goals refine go _ e.symm (by intro A;cases A) ?_
   all_goals dsimp only at l
   .exact(O1 h).mono (by omega)
   .exact(F8 (t:=⟨a,b,.stop nm,gx⟩) h d l).mono (by omega)
   .exact(US h).mono (by omega)
   .exact(Rs h d).mono (by omega)
   .exact(aeu h d).mono (by omega)
   .exact(UV h).mono (by omega)
   .exact(Mn h).mono (by omega)
   .exact(Rr h (by
     show nm≠_;rintro rfl;revert l;simp[gZ,kJ,sK])).mono (by omega)
   .have C:=Kq l;subst C;show RB 360 σ (wJ (gQ lk (n+2)) ⟨a,b,.stop _,gx⟩ σ);unfold wJ;split
    .refine zU ?_;rw[iC lk (n+1) 16 _ u.nl wS rfl (.hH 146) (by kernel_rfl)];exact⟨(h.mode 16 rfl).iv.mg rfl rfl rfl rfl rfl rfl rfl,⟨h.ne,.inl rfl⟩,⟨rfl,rfl,rfl,rfl,sy _,λ_ h=> .inl h,λ_ _ h=>h⟩,jH (LN (jl rfl)) (GM _ _)⟩
    .exact(sS h.iv h.bms).mono (by omega)
   .exact(UQ h).mono (by omega)
def aeV {l : List Ru} {R : List (List fY×Ru)} {lk : Bool} (j:t.k≠ .lost) (h:ut[m]?=some sp) (e:jQ sp t=kD ((oq R nm).getD .nil::l)) (u:∀p∈R,p.2≠ .nil) (q:RB c σ (oW lk (gQ true n) (gQ lk n) (kD l) t σ)) (o:∀p∈R,gZ p.1 nm=true->RB c σ (oW lk (gQ true n) (gQ lk n) p.2 t σ)):RB c σ (gQ lk (n+1) m t σ):=by
 cases hl:oq R nm with
 |none=>
  rw[iC lk n m t j sp h (kD l) (by rw[e,hl];rfl)];exact q
 |some r=>
  obtain⟨p,d,x,rfl⟩:=wZ hl;have a:=u p d;rw[iC lk n m t j sp h p.2 (by
   rw[e,hl];show kD (p.2::_)=p.2;cases hq:p.2<;>first|rfl|exact absurd hq a)]
  exact o p d x
def acB {lk : Bool} (hl:t.k≠ .lost) (d:ut[m]?=some sp) (a:RB c σ (oW lk (gQ true n) (gQ lk n) (jQ sp t) t σ)):RB c σ (gQ lk (n+1) m t σ):=by
 rw[iC lk n m t hl sp d _ rfl];exact a
def Nx {rec:Nat->gy->M Unit} (h:sB σ) (x:∀σ',sB σ'->wt σ'=wt σ->σ'.fresh=σ.fresh->RB c σ' (rec 6 t σ')):RB c σ (th rec t σ):=by
 have o:=x {σ with iL:=true} ⟨h.iv.mg rfl rfl rfl rfl rfl rfl rfl,h.ne,h.md⟩ rfl rfl;have q:=RB.then o (λσ=>{σ with iL:=false}) (λ_=>⟨rfl,rfl,rfl,rfl,rfl,rfl,rfl,rfl,rfl,rfl,rfl,rfl⟩);show RB c σ ((rec 6 t>>=λ_=>wU (λσ=>{σ with iL:=false})>>=λ_=>(Pure.pure ():M Unit)) {σ with iL:=true});revert q;cases(rec 6 t>>=λ_=>wU (λσ=>{σ with iL:=false})>>=λ_=>(Pure.pure ():M Unit)) {σ with iL:=true} with
 |ok u σ2=>rintro⟨d,j,a,l⟩;exact⟨d,j,⟨a.gI,a.qu,a.rH,a.pP,a.wt,a.wz,a.nm⟩,l⟩
 |stop c p=>exact λh=>h
 |stuck=>exact λh=>h
def abK {a:M Unit} (h:sB σ) (d:RB c σ (a σ)):RB c σ (IG a t σ):=by
 unfold IG;split
 .exact d
 .exact(sS h.iv h.bms).mono (iM _)
theorem zF {rec:Nat->gy->M Unit} (h:sB σ) (C:wt σ < 999000) (ks:List fY) (a:fY) (m:Nat) (p:qG m=true) (u:∀σ',sB σ'->σ'.mode=m->wt σ'<=wt σ+1->σ'.fresh=σ.fresh->RB c σ' (rec m t σ')):RB (c+1) σ (ql rec ks a m t σ):=by
 unfold ql;refine RB.bind (yc h.iv (gZ ks)) (c2:=c+1) ?_ (by omega);rintro _ B x l D z;refine RB.bind (sQ x (l.ne h.ne) (by omega) a) (c2:=c) ?_ (by omega);rintro _ d y o F ⟨j,q,A⟩;refine zU (u {d with mode:=m} ⟨y.mg rfl rfl rfl rfl rfl rfl rfl,o.ne (l.ne h.ne),p⟩ rfl ?_ ?_)
 .grind[wt]
 .show d.fresh=_;rw[A,z.fresh]
def ER {a : Nat} {gx : la} (h:σ.waiting.length < 4096):og ⟨a,b,.kg s,gx⟩ σ= .ok () (if uh s then σ else {σ with waiting:=σ.waiting++[(a,b,s)]}):=by
 unfold og;simp only;cases uh s with
 |true=>rfl
 |false=>simp[h]
def JL {a : Nat} {gx : la} (h:sB σ) (l:s.size<=100) (y:wt σ < 999000) (p:σ.waiting.length < 4000) (d:σ.mode=7\/σ.mode=11\/σ.mode=12):RB 360 σ (nO (gQ false (n+4)) ⟨a,b,.kg s,gx⟩ σ):=by
 unfold nO;split
 .show RB 360 σ ((jX (gQ false (n+4)) ⟨a,b,.kg s,gx⟩>>=λ_=>(Pure.pure ():M Unit)) {σ with kept:=σ.mode,mode:=8});refine RB.mono (c:=0) ?_ (by omega);have e:gQ false (n+4) 8 ⟨a,b,.kg s,gx⟩=og ⟨a,b,.kg s,gx⟩:=iC false (n+3) 8 _ (by intro e;cases e) ld rfl (.hH 127) (by
   unfold jQ;dsimp only;split<;>rfl)
  show RB 0 σ ((gQ false (n+4) 8 ⟨a,b,.kg s,gx⟩>>=λ_=>(Pure.pure ():M Unit)) {σ with kept:=σ.mode,mode:=8});rw[e];have q:ni {σ with kept:=σ.mode,mode:=8}:=h.iv.mg rfl rfl rfl rfl rfl rfl rfl;rw[M.gn,ER (show({σ with kept:=σ.mode,mode:=8}:Ab).waiting.length < 4096 by show σ.waiting.length < 4096;omega)];cases uh s with
  |true=>exact⟨q,⟨h.ne,.inr (.inr ⟨rfl,d⟩)⟩,⟨rfl,rfl,rfl,rfl,sy _,λ_ h=> .inl h,λ_ _ h=>h⟩,LN (jl rfl)⟩
  |false=>exact⟨h.iv.mg rfl rfl rfl rfl rfl rfl rfl,⟨h.ne,.inr (.inr ⟨rfl,d⟩)⟩,⟨rfl,rfl,rfl,rfl,by show(σ.waiting++[(a,b,s)]).length<=_;simp,λx j=>by
    rcases List.mem_append.1 (show x∈σ.waiting++[(a,b,s)]from j)with j|j
    .exact .inl j
    .rw[List.mem_singleton.1 j];exact .inr l,λ_ _ h=>h⟩,LN (jl rfl)⟩
 .refine RB.tail (Nx h ?_);intro σ' o w' u;exact Eh false (n+1) ⟨a,b,.kg s,gx⟩ ⟨l,rfl,by intro e;cases e⟩ o (λh=>by cases h) (by omega)
structure CX (L:Nat) (t:gy) (σ:Ab):Prop where
 tg:vS t
 h:sB σ
 hf:Jq σ t
 hw:wt σ < 998000
 hwt:σ.waiting.length < 4000
 hl:σ.gq.length<=L
def PL (L n:Nat):Prop:=∀t σ,CX L t σ->RB 370 σ (gQ false n σ.mode t σ)
def PL.ahead {L : Nat} (j:PL L n) (c:CX (L+1) t σ) {b:M Bool} (l:xj b):RB 370 σ (xl (gQ false n) b t σ):=
 have⟨tg,h,hf,hw,hwt,hl⟩:=c
 aaM l h (λσ' d q w' a p _=>j t σ' ⟨tg,d,(λo=>a.trans (hf o)),by omega,by rw[p];exact hwt,by omega⟩)
def WS (n a b:Nat) (nm:fY) (gx:la) (l:nm=il\/nm=im) (h:sB σ) (d:oD σ ⟨a,b,.start nm,gx⟩) (j:wt σ < 999000):RB 1 σ (gQ false (n+1) 12 ⟨a,b,.start nm,gx⟩ σ):=by
 rcases l with rfl|rfl
 .rw[iC false n 12 _ (by simp) Bn rfl (.hH 134) (by kernel_rfl)];exact Aa h j d
 .rw[iC false n 12 _ (by simp) Bn rfl (.hH 134) (by kernel_rfl)];exact Aa h j d
def aih (n a b:Nat) (nm:fY) (gx:la) (j:nm∈[il,im,gX]) (h:sB σ) (l:oD σ ⟨a,b,.start nm,gx⟩) (u:wt σ < 998900):RB 2 σ (gQ false (n+2) 11 ⟨a,b,.start nm,gx⟩ σ):=by
 simp only[kU,Al,yC]at j;have d:nm=il\/nm=im->RB 2 σ (ql (gQ false (n+1)) [fW,fX,fZ] gX 12 ⟨a,b,.start nm,gx⟩ σ):=λq=>
  zF (c:=1) h (by omega) _ _ 12 rfl (λσ' p x w' o=>WS n a b nm gx q p ⟨rfl,o.trans l.fr⟩ (by omega))
 rcases j with rfl|rfl|rfl
 .rw[iC false (n+1) 11 _ (by simp) pE rfl (.nj [fW,fX,fZ] gX 12) (by kernel_rfl)];exact d (.inl rfl)
 .rw[iC false (n+1) 11 _ (by simp) pE rfl (.nj [fW,fX,fZ] gX 12) (by kernel_rfl)];exact d (.inr rfl)
 .rw[iC false (n+1) 11 _ (by simp) pE rfl (.qF [fW,fX,fZ] 12) (by kernel_rfl)];exact(Od h (by omega) l _ 12 rfl).mono (by omega)
def aeE (h:ni σ) (a:σ.gq≠[]):∃d,qO σ= .ok d σ/\Ch σ d:=by
 have⟨r,hr⟩:=h;have⟨q,e,rest,h1,h2,h3,h4⟩:=hr.first a;exact⟨_,by unfold qO;rw[h2];dsimp only;unfold jr;rw[h3],e,h3,gL _⟩
def ac1 {L : Nat} (Z:PL L (k+5)) (c:CX (L+1) t σ) (K:m∈[7,9,10,11,12,13,14,15,16,17]) (G:m=7->σ.mode=7\/σ.mode=11\/σ.mode=12) (Y:m=11\/m=12->RB 370 σ (gQ false (k+5) 7 t σ)) (D:m=15->RB 370 σ (gQ false (k+5) 14 t σ)):RB 370 σ (gQ false (k+6) m t σ):=by
 have I:=λ{b}=>Z.ahead c (b:=b);obtain⟨p,h,o,hw,H,hl⟩:=c;have d:wt σ < 999000:=by omega
 have j:∀{c r},RB c σ r->c<=370->RB 370 σ r:=RB.mono;have B:RB 370 σ (gQ false (k+5) 6 t σ):=j (Eh false (k+2) _ p h o d) (by omega);have J:RB 370 σ (_:pM Unit):=j (zU (rec:=gQ false (k+5)) (Eh false (k+2) _ p (h.mode 6 rfl) (λz=>o z) d)) (by omega);have N:=j (sS h.iv h.bms) (by omega);have F:RB 370 σ (th (gQ false (k+5)) t σ):=j (Nx h (λσ' x w' q=>Eh false (k+2) _ p x (λz=>q.trans (o z)) (by omega))) (by omega);have En:=λ{b} (hb:xj b)=>j (aew hb h) (by omega);have C:=λ{pm} hq=>j ((G9 h.iv pm hq t d).rb h.ne h.md) (by omega);have Q:∀{a b s gx},s.size<=100->m=7->RB 370 σ (nO (gQ false (k+5)) ⟨a,b,.kg s,gx⟩ σ):=λz e=>j (JL (n:=k+1) h z d H (G e)) (by omega);have T:∀{a b nm gx},nm=iK->σ.fresh=true->RB 370 σ (gQ false (k+5) 3 ⟨a,b,.start nm,gx⟩ σ):=λe o=>j (Xe false (k+4) _ _ _ _ (.inr (.inr e)) h o d) (by omega);have U:∀{a b nm gx A u},nm∈[il,im,gX]->σ.fresh=true->RB 370 σ (ql (gQ false (k+5)) A u 11 ⟨a,b,.start nm,gx⟩ σ):=λe o=>j (zF (c:=2) h d _ _ 11 rfl (λσ' x O w' q=>aih (k+3) _ _ _ _ e x ⟨rfl,q.trans o⟩ (by omega))) (by omega);have V:∀{a b nm gx A u},nm=il\/nm=im->σ.fresh=true->RB 370 σ (ql (gQ false (k+5)) A u 12 ⟨a,b,.start nm,gx⟩ σ):=λe o=>j (zF (c:=1) h d _ _ 12 rfl (λσ' x O w' q=>WS (k+4) _ _ _ _ e x ⟨rfl,q.trans o⟩ (by omega))) (by omega);have W:∀{a b nm gx A u},nm=ic->σ.fresh=true->RB 370 σ (ql (gQ false (k+5)) A u 10 ⟨a,b,.start nm,gx⟩ σ):=λe o=>j (zF (c:=1) h d _ _ 10 rfl (λσ' x O w' q=>by
  rw[e,iC false (k+4) 10 _ (by simp) rP rfl (.hH 101) (by kernel_rfl)];exact vy x (by omega) ⟨rfl,q.trans o⟩)) (by omega)
 obtain⟨a,b,kk,gx⟩:=t;simp only[kU,Al,yC]at K;rcases K with rfl|rfl|rfl|rfl|rfl|rfl|rfl|rfl|rfl|rfl
 all_goals cases kk
 all_goals first
  |exact absurd rfl p.nl
  |refine aeV p.nl rfl rfl (by simp) ?_ ?_
  |refine acB p.nl rfl ?_
 all_goals generalize gQ false (k+5)=rec at *
 all_goals try (unfold jQ;dsimp only)
 all_goals try split
 all_goals try (simp only[List.forall_mem_cons,Al,false_implies,implies_true,and_true];and_intros)
 all_goals try intro y
 all_goals try have l:=o.tag rfl
 all_goals try exact N
 all_goals try exact B
 all_goals try refine I ?_
 all_goals try refine En ?_
 all_goals try refine abK h (I ?_)
 all_goals try refine abK h (En ?_)
 all_goals try exact Y (by simp)
 all_goals try exact D rfl
 all_goals try exact F
 all_goals try exact Q p.sz rfl
 all_goals try exact C (Bj h.iv h.ne)
 all_goals try exact C (OV h.iv)
 all_goals try exact C (aeE h.iv h.ne)
 all_goals try exact j (Cu h d p.sz) (by omega)
 all_goals try exact j (IA h d p.sz) (by omega)
 all_goals try first
  |exact UY
  |exact OY
  |exact F5
  |exact J6
  |exact abp
  |exact YZ
  |exact Rx
 all_goals try exact U (Pb y) l.fr
 all_goals try exact V (ai5 y) l.fr
 all_goals try exact W (Kq y) l.fr
 all_goals try exact j (Od h d l _ _ rfl) (by omega)
 all_goals try exact T (Kq y) l.fr
 .show RB 370 σ ((if xJ _ then jV rec _ else stuck:M Unit) σ);rw[gv p.sm];unfold jV;split
  .exact j (RB.tail (vy h d l)) (by omega)
  .exact RB.tail F
 .exact j (Ck h d l (Kq y)) (by omega)
 .exact j (IQ h d l) (by omega)
 .exact j (vy h d l) (by omega)
 .exact j (Aa h d l) (by omega)
 .exact j (DT h d l) (by omega)
 .exact j (yA h d l) (by omega)
 .exact j (Ac h d l) (by omega)
 .exact j (AY h) (by omega)
 .exact j (zC h) (by omega)
 iterate 3 exact J
 .exact j (c:=0) ⟨h.iv.mg rfl rfl rfl rfl rfl rfl rfl,⟨h.ne,.inl rfl⟩,⟨rfl,rfl,rfl,rfl,sy _,λ_ h=> .inl h,λ_ _ h=>h⟩,LN (jl rfl)⟩ (by omega)
 all_goals exact J
def GX (h:qG m=true):m=6\/m∈[7,9,10,11,12,13,14,15,16,17]:=by
 unfold qG at h;simp at h|-;omega
def Jr:∀(L n:Nat),4*L+8<=n->PL L n
 |0,n,_=>by
  intro t σ c;exact absurd (List.length_eq_zero_iff.1 (by have:=c.hl;omega)) c.h.ne
 |L+1,n,hn=>by
  intro t σ c;obtain⟨k,rfl⟩:∃k,n=k+7:=⟨n - 7,by omega⟩;have a:PL L (k+5):=Jr L _ (by omega);have S:=λm j d=>ac1 (m:=m) a c j d;rcases GX c.h.md with e|e
  .rw[e];exact(Eh false (k+4) t c.tg c.h c.hf (by have:=c.hw;omega)).mono (by omega)
  .refine ac1 (Jr L (k+1+5) (by omega)) c e (λh=> .inl h) (λh=>S 7 (by simp) (λ_=> .inr h) (λh=>by cases h<;>contradiction) (λh=>by cases h)) (λ_=>S 14 (by simp) (λh=>by cases h) (λh=>by cases h<;>contradiction) (λh=>by cases h))
def HS (m:Nat) (o:kG) (a:iY):Prop:=
 (m<=1/\o=[]/\a=none)\/(m=2/\∃h,o=[some h])\/(m=3/\∃h d,o=[some h,some d]/\a=some d)\/(m=4/\∃h d,o=[some h]/\a=some d)\/(qG m=true/\o≠[])
def B3 (σ:Ab):Prop:=(∃d,iV σ d gJ)/\∃b,iV σ b gr
def BH (σ:Ab):Prop:=6<=σ.mode\/σ.mode=5/\6<=σ.kept->B3 σ
def B3.of (h:B3 σ) (nm:∀i s,iV σ i s->iV σ' i s):B3 σ':=⟨h.1.imp λ_=>nm _ _,h.2.imp λ_=>nm _ _⟩
def BH.of (h:BH σ) (d:σ'.mode=σ.mode) (a:σ'.kept=σ.kept) (nm:∀i s,iV σ i s->iV σ' i s):BH σ':=λq=>(h (by omega)).of nm
def BH.low (h:σ.mode<=4):BH σ:=λq=>by omega
def MS0 (σ:Ab):Prop:=HS σ.mode σ.gq σ.head\/(σ.mode=5/\3<=σ.kept/\2<=σ.gq.length/\HS σ.kept σ.gq.dropLast σ.head)\/(σ.mode=8/\(σ.kept=7\/σ.kept=11\/σ.kept=12)/\σ.gq≠[])
def MS (σ:Ab):Prop:=MS0 σ/\BH σ
def RG (c:Nat) (σ:Ab) (r:pM Unit):Prop:=match r with
 | .ok _ σ'=>ni σ'/\MS σ'/\Lm σ σ'/\wt σ'<=wt σ+c
 | .stop _ p=>p=σ.gI
 | .stuck=>False
theorem RG.mono {c' : Nat} (h:RG c σ r) (d:c<=c'):RG c' σ r:=by
 cases r with
 |ok a σ'=>grind[RG]
 |stop e p=>exact h
 |stuck=>exact h
def Eg (h:qG m=true):6<=m:=by have:=GX h;simp at this;omega
theorem BMs.ms (h:BMs σ) (l:B3 σ):MS σ:=by
 refine⟨?_,λ_=>l⟩;rcases h.sh with a|⟨a,d,j⟩|⟨a,d⟩
 .exact .inl (.inr (.inr (.inr (.inr ⟨a,h.ne⟩))))
 .refine .inr (.inl ⟨a,?_,j,.inr (.inr (.inr (.inr ⟨d,?_⟩)))⟩)
  .have:=Eg d;omega
  .intro e;have:=si List.length e;grind
 .exact .inr (.inr ⟨a,d,h.ne⟩)
def RB.rg (h:RB c σ r) (d:B3 σ):RG c σ r:=by
 cases r with
 |ok a σ'=>exact⟨h.1,h.2.1.ms (d.of h.2.2.1.nm),h.2.2.1,h.2.2.2⟩
 |stop e p=>exact h
 |stuck=>exact h
def jE.rg {Q : Unit->Ab->Prop} (h:jE c σ r Q) (d:MS σ) (j:∀σ',Q () σ'->σ'.gq=σ.gq):RG c σ r:=by
 cases r with
 |ok a σ'=>
  have⟨h1,h2,h3,h4⟩:=h;refine⟨h1,⟨?_,d.2.of h2.mode h2.kept h2.nm⟩,h2.lm,h3⟩;unfold MS0;rw[h2.mode,h2.kept,h2.head,j σ' h4];exact d.1
 |stop e p=>exact h
 |stuck=>exact h
def rO (h:ni σ) (a:MS σ):RG 0 σ ((Pure.pure ():M Unit) σ):=⟨h,a,lm0 σ,gL _⟩
def RG.tail {m:M Unit} (h:RG c σ (m σ)):RG c σ ((m>>=λ_=>(Pure.pure ():M Unit)) σ):=by
 rw[M.gn];revert h;cases m σ<;>exact λh=>h
def RG.from {c1 c2 : Nat} {σ1 : Ab} (h:RG c1 σ1 r) (hl:Lm σ σ1) (u:σ1.waiting.length<=σ.waiting.length) (j:∀x∈σ1.waiting,x∈σ.waiting) (l:wt σ1<=wt σ+c2) (o:c1+c2<=c):RG c σ r:=by
 cases r with
 |ok a σ'=>
  have⟨h1,h2,h3,h4⟩:=h;exact⟨h1,h2,⟨h3.gI.trans hl.gI,h3.qu.trans hl.qu,h3.rH.trans hl.rH,h3.pP.trans hl.pP,by have:=h3.wt;omega,λx d=>(h3.wz x d).imp (j x) id,λi s q=>h3.nm i s (hl.nm i s q)⟩,by omega⟩
 |stop e p=>exact wo h hl.gI
 |stuck=>exact h
theorem Ms (h:ni σ) (j:σ.gq≠[]) (t:gy) (o:σ.fresh=true) (l:MS σ):RG 0 σ (oe t σ):=by
 have x:∀(gx:la) (i:Nat) (σ:Ab),∀σ',qj i gx σ= .ok () σ'->σ'.gq=σ.gq:=by
  intro gx i
  induction gx with
  |nil=>intro σ σ' e;cases e;rfl
  |cons a r ih=>
   intro σ σ' e;rw[NC]at e;split at e
   .cases e
   .split at e
    .grind
    .split at e
     .cases e
     .have:=ih _ σ' e;exact this
 have d:=EE h j t o;cases hq:oe t σ with
 |ok u σ'=>
  rw[hq]at d;have⟨g1,g2,g3,_⟩:=d;refine⟨g1,⟨?_,l.2.of g2.mode g2.kept g2.nm⟩,g2.lm,g3⟩;have q:σ'.gq=σ.gq:=by
   unfold oe at hq;split at hq
   .rename_i i hi;rw[M.gn]at hq;cases hg:vK i t σ with
    |ok u2 σ2=>
     rw[hg]at hq;cases hq;unfold vK at hg;grind
    |stop c p=>grind
    |stuck=>grind
   .cases hq
  unfold MS0;rw[g2.mode,g2.kept,g2.head,q];exact l.1
 |stop c p=>rwa [hq]at d
 |stuck=>rw[hq]at d;exact d.elim
def Pd (n a b:Nat) (gx:la) (h:ni σ) (d:σ.gq≠[]) (j:σ.fresh=true) (l:MS σ):RG 0 σ (gQ false (n+1) 6 ⟨a,b,.start fO,gx⟩ σ):=by
 rw[iC false n 6 _ (by intro e;cases e) kO rfl (.hH 182) (by kernel_rfl)];exact Ms h d _ j l
def adi (hi:ni σ) (a:σ.gq≠[]) (j:σ.mode=6) (x:vS t) (p:Jq σ t) (u:wt σ < 998000) (d:σ.waiting.length < 4000) (q:4*64+8<=n) (o:370<=c) (l:B3 σ):RG c σ (gQ false n 6 t σ):=by
 have hl:σ.gq.length<=64:=by have⟨r,hr⟩:=hi;exact jH hr.x7 hr.QE
 have h:=Jr 64 n q t σ ⟨x,⟨hi,a,by rw[j];rfl⟩,p,u,d,hl⟩;rw[j]at h;exact(h.rg l).mono o
theorem Ku (h:ni σ) (d:σ.gq≠[]) (C:wt σ < 998000) (s:fY) (m:Nat) {rec:Nat->gy->M Unit} (z:∀σ',ni σ'->Fx σ {σ' with mode:=σ.mode}->σ'.mode=m->wt σ'<=wt σ+1->σ'.fresh=σ.fresh->(∃j,iV σ' j s)->RG c σ' (rec m t σ')):RG (c+1) σ ((jW s>>=λ_=>jF m>>=λ_=>jX rec t>>=λ_=>(Pure.pure ():M Unit)) σ):=by
 have o:=sQ h d (by omega) s;rw[M.gn];revert o;cases jW s σ with
 |ok u σ1=>
  rintro⟨A,a,l,j,q,B⟩;dsimp only;have y:=RG.tail (z {σ1 with mode:=m} (A.mg rfl rfl rfl rfl rfl rfl rfl) (by
   have e:({({σ1 with mode:=m}:Ab)with mode:=σ.mode}:Ab)=σ1:=by rw[<-a.mode]
   grind) rfl l B ⟨j,q.nm⟩)
  exact RG.from (c1:=c) (c2:=1) (σ1:={σ1 with mode:=m}) y ⟨a.gI,a.qu,a.rH,a.pP,by show σ1.waiting.length<=_;rw[a.waiting];omega,by show∀x∈σ1.waiting,_;rw[a.waiting];grind,a.nm⟩ (by show σ1.waiting.length<=_;rw[a.waiting];omega) (by show∀x∈σ1.waiting,_;rw[a.waiting];simp) l (gL _)
 |stop c p=>exact λh=>h
 |stuck=>simp[jE]
def xv (h:ni σ) (o:M (Nat×Nat)) (l:∃j,o σ= .ok j σ/\Ch σ j) (t:gy) (p:wt σ < 999000) (d:MS σ):RG 1 σ (nB o t σ):=by
 have⟨a,b,k,gx⟩:=t;cases k with
 |gM s=>
  have⟨j,h1,h2⟩:=l;show RG 1 σ ((o>>=λj=>o0 j (.cm s) .cm>>=λ_=>(Pure.pure ():M Unit)) σ);rw[M.gn,h1];dsimp only;exact RG.tail ((Gt h h2 (.cm s) .cm (.inl ⟨s,rfl,rfl⟩) (by omega)).rg d (λ_ q=>q.gq))
 |kg s=>exact(rO h d).mono (by omega)
 |start s=>exact(rO h d).mono (by omega)
 |stop s=>exact(rO h d).mono (by omega)
 |iE s q=>exact(rO h d).mono (by omega)
 |lost=>exact(rO h d).mono (by omega)
 |ie=>exact(rO h d).mono (by omega)
theorem Jk {R : List (List fY×Ru)} (d:sp.start=some R) (q:∀p∈R,p.2≠ .nil) {o : Ru} (x:kD [sp.jP,sp.ik]=o) {lk : Bool} {a : Nat} {gx : la} (j:ut[m]?=some sp) (z:∀p∈R,gZ p.1 nm=true->P (oW lk (gQ true n) (gQ lk n) p.2 ⟨a,b,.start nm,gx⟩ σ)) (l:P (oW lk (gQ true n) (gQ lk n) o ⟨a,b,.start nm,gx⟩ σ)):P (gQ lk (n+1) m ⟨a,b,.start nm,gx⟩ σ):=by
 have h:jQ sp ⟨a,b,.start nm,gx⟩=kD [((oq R nm).getD .nil),sp.jP,sp.ik]:=by
  show kD [Cy sp.start nm,sp.jP,sp.ik]=_;rw[d];rfl
 cases hl:oq R nm with
 |none=>
  rw[iC lk n m _ (by simp) sp j o (by rw[h,hl,<-x];rfl)];exact l
 |some r=>
  obtain⟨p,y,A,rfl⟩:=wZ hl;have u:=q p y;rw[iC lk n m _ (by simp) sp j p.2 (by
   rw[h,hl];simp[kD])]
  grind
theorem Qd {R : List (List fY×Ru)} (d:sp.stop=some R) (q:∀p∈R,p.2≠ .nil) {o : Ru} (x:kD [sp.j8,sp.ik]=o) {lk : Bool} {a : Nat} {gx : la} (j:ut[m]?=some sp) (z:∀p∈R,gZ p.1 nm=true->P (oW lk (gQ true n) (gQ lk n) p.2 ⟨a,b,.stop nm,gx⟩ σ)) (l:P (oW lk (gQ true n) (gQ lk n) o ⟨a,b,.stop nm,gx⟩ σ)):P (gQ lk (n+1) m ⟨a,b,.stop nm,gx⟩ σ):=by
 have h:jQ sp ⟨a,b,.stop nm,gx⟩=kD [((oq R nm).getD .nil),sp.j8,sp.ik]:=by
  show kD [Cy sp.stop nm,sp.j8,sp.ik]=_;rw[d];rfl
 cases hl:oq R nm with
 |none=>
  rw[iC lk n m _ (by simp) sp j o (by rw[h,hl,<-x];rfl)];exact l
 |some r=>
  obtain⟨p,y,A,rfl⟩:=wZ hl;have u:=q p y;rw[iC lk n m _ (by simp) sp j p.2 (by
   rw[h,hl];simp[kD])]
  grind
theorem Dn {d o : Ru} (p:kD [sp.blank,sp.kg,sp.ik]=d) (q:kD [sp.kg,sp.ik]=o) {lk : Bool} {a : Nat} {gx : la} (h:ut[m]?=some sp) (j:P (oW lk (gQ true n) (gQ lk n) d ⟨a,b,.kg s,gx⟩ σ)) (l:P (oW lk (gQ true n) (gQ lk n) o ⟨a,b,.kg s,gx⟩ σ)):P (gQ lk (n+1) m ⟨a,b,.kg s,gx⟩ σ):=by
 cases hk:mq s with
 |true=>
  rw[iC lk n m _ (by simp) sp h d (by
   grind[jQ])]
  exact j
 |false=>
  rw[iC lk n m _ (by simp) sp h o (by
   grind[jQ])]
  exact l
def jy {r : Ru} {lk : Bool} (hl:t.k≠ .lost) (h:ut[m]?=some sp) (d:jQ sp t=r) (a:P (oW lk (gQ true n) (gQ lk n) r t σ)):P (gQ lk (n+1) m t σ):=by
 rw[iC lk n m t hl sp h r d];exact a
structure In4 (σ:Ab):Prop where
 iv:ni σ
 md:σ.mode=4
 sh:∃h d,σ.gq=[some h]/\σ.head=some d
def In4.ms (h:In4 σ):MS σ:=by
 have⟨x,d,h1,h2⟩:=h.sh;exact⟨.inl (.inr (.inr (.inr (.inl ⟨h.md,x,d,h1,h2⟩)))),BH.low (by have:=h.md;omega)⟩
theorem In4.ne (h:In4 σ):σ.gq≠[]:=by have⟨x,d,h1,_⟩:=h.sh;grind
def Kr (h:In4 σ) (C:vS t) (p:Jq σ t) (D:wt σ < 997000) (l:σ.waiting.length < 4000) (u:4*64+8<=n):RG 371 σ (mc (gQ false n) t σ):=by
 unfold mc;refine Ku (c:=370) h.iv h.ne (by omega) gr 6 ?_;intro σ' z j A w' B q;have o:B3 σ':=by
  have⟨x,d,_,hd⟩:=h.sh;have⟨r,hr⟩:=h.iv;exact⟨⟨d,j.nm _ _ (hr.head d hd)⟩,q⟩
 have a:σ'.waiting.length < 4000:=by have:=j.waiting;have e:σ'.waiting=σ.waiting:=this;rw[e];exact l
 exact adi z (j.ne h.ne) A C (λy=>B.trans (p y)) (by omega) a u (gL _) o
theorem Ic (hi:ni σ) (d:σ.gq≠[]) (h:oD σ t) (b:Bool) (z:wt σ < 998000):match nD t b σ with
 | .ok _ σ'=>ni σ'/\Lm σ σ'/\wt σ'<=wt σ+1/\σ'.mode=5/\σ'.kept=σ.mode/\(∃j,σ'.gq=σ.gq++[some j]/\σ.nodes.length<=j)/\σ'.head=σ.head/\(∀i s,iV σ i s->iV σ' i s)
 | .stop _ p=>p=σ.gI
 | .stuck=>False:=by
 have l:=jT hi d (by omega) t h.tag h.fr;have e:nD t b σ=(jg t>>=λ_=>I6 t.name b>>=λ_=>wU (λσ=>{σ with kept:=σ.mode})>>=λ_=>jF 5>>=λ_=>(Pure.pure ():M Unit)) σ:=rfl;rw[e,M.gn];revert l;cases jg t σ with
 |ok u σ1=>
  rintro⟨o,a,y,j,q⟩;exact⟨o.mg rfl rfl rfl rfl rfl rfl rfl,⟨a.gI,a.qu,a.rH,a.pP,by show σ1.waiting.length<=_;rw[a.waiting];omega,by show∀x∈σ1.waiting,_;rw[a.waiting];grind,a.nm⟩,y,rfl,a.mode,⟨j,q.gq,q.new⟩,a.head,a.nm⟩
 |stop c p=>simp[jE]
 |stuck=>simp[jE]
theorem L8 {a : Nat} {gx : la} (h:In4 σ) (O:nm=iS\/nm=jp\/nm=iK) (hf:σ.fresh=true) (hw:wt σ < 997000):RG 2 σ (td (gQ false (n+1)) ⟨a,b,.start nm,gx⟩ σ):=by
 have⟨x,d,ho,hd⟩:=h.sh;have⟨r,hr⟩:=h.iv;have H:=hr.head d hd;have⟨ed,hed,hedn⟩:=id H;have a0:r x < r d:=hr.ur.hd d x hd (by grind);unfold td;rw[M.gn];have e1:pushHead σ=uo (some d) σ:=by unfold pushHead;rw[hd]
 rw[e1];unfold uo;by_cases hl:σ.qu<=σ.gq.length
 .grind[RG]
 .rw[gH hl,gv (show σ.mW (some d)=true by grind[Ab.mW])];dsimp only;have⟨g1,g2⟩:=hr.push hed (by
   grind[rk]) (by omega) (.inl h.ne)
  obtain⟨o,y⟩:∃o,o=({σ with gq:=σ.gq++[some d]}:Ab):=⟨_,rfl⟩;rw[<-y]at g1 g2|-;have V:ni o:=⟨r,g1⟩;have o1:o.gq=[some x,some d]:=by rw[y];show σ.gq++[some d]=_;rw[ho];rfl
  have J:o.gq≠[]:=by rw[o1];simp
  have w1:wt o=wt σ:=by rw[y];rfl
  have G:o.fresh=true:=by rw[y];exact hf
  have U:o.mode=4:=g2.mode.trans h.md;have C:o.head=some d:=g2.head.trans hd;have xd:x≠d:=by rintro rfl;omega
  have ht:oD o ⟨a,b,.start nm,gx⟩:=⟨rfl,G⟩;have F:∀l,ni l->Lm o l->wt l<=wt o+1->l.head=some d->iV l d gJ->MS {l with gq:=l.gq.erase (some d)}->RG 2 σ ((oY>>=λ_=>(Pure.pure ():M Unit)) l):=by
   intro l i2 D w2 h2 Z m2;have e2:oY l=kq (some d) l:=by unfold oY;rw[h2]
   have z:=DA i2 Z (by simp);rw[M.gn,e2];have e3:kq (some d) l= .ok () {l with gq:=l.gq.erase (some d)}:=KY (mw Z);rw[e3]at z|-;have⟨I,T,W,Y⟩:=z;refine⟨I,m2,⟨D.gI.trans g2.gI,D.qu.trans g2.qu,D.rH.trans g2.rH,D.pP.trans g2.pP,?_,by have:=D.wz;grind,λi s q=>D.nm i s (g2.nm i s q)⟩,?_⟩
   .show l.waiting.length<=_;have:=D.wt;grind
   .omega
  have A:iV o d gJ:=g2.nm _ _ H;have N:([some x,some d]:kG).erase (some d)=[some x]:=by
   rw[List.erase_cons_tail (by grind),List.erase_cons_head]
  have B:∀K,RG 2 σ (((nD ⟨a,b,.start nm,gx⟩ K>>=λ_=>(Pure.pure ():M Unit))>>=λ_=>oY>>=λ_=>(Pure.pure ():M Unit)) o):=by
   intro K;have k:=Ic V J ht K (by omega);rw[M.gn,M.gn];revert k;cases nD ⟨a,b,.start nm,gx⟩ K o with
   |ok u l=>
    rintro⟨Q,z,I,T,W,⟨j,Y,k7⟩,k8,k9⟩;refine F l Q z I (k8.trans C) (k9 _ _ A) ?_;have hj:j≠d:=by
     have:=Ab.gW hed;have e4:o.nodes.length=σ.nodes.length:=by rw[y]
     omega
    have he:l.gq.erase (some d)=[some x,some j]:=by
     rw[Y,o1];show([some x,some d,some j]:kG).erase (some d)=_;rw[List.erase_cons_tail (by grind),List.erase_cons_head]
    refine⟨.inr (.inl ⟨T,?_,?_,?_⟩),λq=>?_⟩
    .grind
    .grind
    all_goals grind[HS]
   |stop c p=>exact λh=>wo h g2.gI
   |stuck=>simp
  rcases O with rfl|rfl|rfl
  .rw[iC false n 3 _ (by intro e;cases e) lZ rfl (.hH 101) (by kernel_rfl)];have k:=qR V J (by omega) ⟨a,b,.start iS,gx⟩ rfl G;show RG 2 σ ((ln ⟨a,b,.start iS,gx⟩>>=λ_=>oY>>=λ_=>(Pure.pure ():M Unit)) o);rw[M.gn];revert k;cases ln ⟨a,b,.start iS,gx⟩ o with
   |ok u l=>
    rintro⟨Q,z,I,T,W⟩;refine F l Q z.lm I (z.head.trans C) (z.nm _ _ A) ?_;refine⟨.inl (.inr (.inr (.inr (.inl ⟨z.mode.trans U,x,d,?_,z.head.trans C⟩)))),BH.low (by show l.mode<=4;have:=z.mode;omega)⟩;grind
   |stop c p=>exact λh=>wo h g2.gI
   |stuck=>simp[jE]
  .rw[iC false n 3 _ (by intro e;cases e) lZ rfl (.hH 102) (by kernel_rfl)];exact B false
  .rw[iC false n 3 _ (by intro e;cases e) lZ rfl (.hH 103) (by kernel_rfl)];exact B true
theorem XQ (I:4*64+8<=n) (t:gy) (l:vS t) (h:In4 σ) (y:Jq σ t) (G:wt σ < 997000) (F:σ.waiting.length < 4000):RG 372 σ (gQ false (n+1) 4 t σ):=by
 obtain⟨k,rfl⟩:∃k,n=k+1:=⟨n - 1,by omega⟩;have B:∀t,vS t->Jq σ t->RG 372 σ (mc (gQ false (k+1)) t σ):=λt l y=>(Kr h l y G F I).mono (by omega);have D:RG 372 σ ((Pure.pure ():M Unit) σ):=(rO h.iv h.ms).mono (by omega);have⟨a,b,kk,gx⟩:=t;cases kk with
 |lost=>exact absurd rfl l.nl
 |kg s=>
  refine Dn (sp:=mM) (P:=RG 372 σ) rfl rfl rfl ?_ ?_
  .exact RG.mono (c:=s.size+1) ((py h.iv h.ne _ (by have:=l.sz;omega)).rg h.ms (λ_ q=>q.gq)) (by have:=l.sz;have e:gy.chars ⟨a,b,.kg s,gx⟩=s:=rfl;grind)
  .exact B _ l y
 |gM s=>
  refine jy l.nl (sp:=mM) (P:=RG 372 σ) rfl rfl ?_;show RG 372 σ (xu 96 true _ σ);rw[zx];exact RG.mono (c:=1) (xv h.iv mD (Bj h.iv h.ne) _ (by omega) h.ms) (by omega)
 |iE s q=>exact jy l.nl (sp:=mM) (P:=RG 372 σ) rfl rfl D
 |ie=>exact jy l.nl (sp:=mM) (P:=RG 372 σ) rfl rfl (B _ l y)
 |start nm=>
  have C:oD σ ⟨a,b,.start nm,gx⟩:=y.tag rfl;refine Jk (sp:=mM) (P:=RG 372 σ) rfl (by simp) rfl rfl ?_ ?_
  .intro p z A;simp only[kU,Al,yC]at z;rcases z with rfl|rfl|rfl|rfl
   all_goals dsimp only at A|-
   .exact(L8 h (by have:=Pb A;grind) C.fr G).mono (by omega)
   .have e:=Kq A;subst e;show RG 372 σ (rR _ σ);unfold rR;have K:=jT h.iv h.ne (by omega) ⟨a,b,.start gr,gx⟩ C.tag C.fr;rw[M.gn];revert K;cases jg ⟨a,b,.start gr,gx⟩ σ with
    |ok u σ1=>
     rintro⟨J,o,N,j,q⟩;have H:B3 σ1:=by
      have⟨x,d,_,hd⟩:=h.sh;have⟨r,hr⟩:=h.iv;exact⟨⟨d,o.nm _ _ (hr.head d hd)⟩,j,q.nm⟩
     exact⟨J.mg rfl rfl rfl rfl rfl rfl rfl,⟨.inl (.inr (.inr (.inr (.inr ⟨rfl,o.ne h.ne⟩)))),λ_=>H⟩,⟨o.gI,o.qu,o.rH,o.pP,o.lm.wt,o.lm.wz,o.nm⟩,jH N (by omega)⟩
    |stop c p=>exact λh=>h
    |stuck=>simp[jE]
   .have e:=Kq A;subst e;exact(Pd k a b gx h.iv h.ne C.fr h.ms).mono (by omega)
   .exact D
  .exact B _ l y
 |stop nm=>
  refine Qd (sp:=mM) (P:=RG 372 σ) rfl (by simp) rfl rfl ?_ ?_
  .intro p z A;simp only[kU,Al,yC]at z;subst z;exact B _ l y
  .exact D
structure In3 (σ:Ab):Prop where
 iv:ni σ
 md:σ.mode=3
 sh:∃h d,σ.gq=[some h,some d]/\σ.head=some d
def In3.ms (h:In3 σ):MS σ:=by
 have⟨x,d,h1,h2⟩:=h.sh;exact⟨.inl (.inr (.inr (.inl ⟨h.md,x,d,h1,h2⟩))),BH.low (by have:=h.md;omega)⟩
theorem In3.ne (h:In3 σ):σ.gq≠[]:=by have⟨x,d,h1,_⟩:=h.sh;grind
theorem In3.pop (h:In3 σ):In4 {σ.pop with mode:=4}/\Lm σ {σ.pop with mode:=4}:=by
 have⟨x,d,h1,h2⟩:=h.sh;have⟨g1,g2⟩:=Gq h.iv (by grind);refine⟨⟨g1.mg rfl rfl rfl rfl rfl rfl rfl,rfl,x,d,?_,h2⟩,⟨rfl,rfl,rfl,rfl,sy _,λ_ h=> .inl h,λ_ _ h=>h⟩⟩;grind[Ab.pop]
theorem Ig (hi:ni σ) (a:σ.gq≠[]) (l:oD σ t) (b:Bool) (o:wt σ < 998000) (C:3<=σ.mode) (d:BH σ) (D:HS σ.mode σ.gq σ.head):RG 1 σ ((nD t b>>=λ_=>(Pure.pure ():M Unit)) σ):=by
 refine RG.tail ?_;have k:=Ic hi a l b o;revert k;cases nD t b σ with
 |ok u σ2=>
  rintro⟨x,y,z,A,F,⟨j,G,H⟩,I,B⟩;refine⟨x,⟨.inr (.inl ⟨A,by omega,?_,?_⟩),λq=>(d (by omega)).of B⟩,y,z⟩
  .have:0 < σ.gq.length:=List.length_pos_iff.2 a;grind
  grind
 |stop c p=>exact λh=>h
 |stuck=>simp
def yv (h:ni σ) (a:σ.gq≠[]) (d:MS σ) (j:t.chars.size<=100) (l:wt σ < 999000):RG 101 σ (jZ t σ):=
 RG.mono (c:=t.chars.size+1) ((py h a t (by omega)).rg d (λ_ q=>q.gq)) (by omega)
def XP (F:4*64+8<=n) (t:gy) (j:vS t) (h:In3 σ) (l:Jq σ t) (H:wt σ < 997000) (D:σ.waiting.length < 4000):RG 373 σ (gQ false (n+2) 3 t σ):=by
 have⟨g4,gl⟩:=h.pop;have z:∀t,vS t->Jq σ t->RG 373 σ (lu (gQ false (n+1)) t σ):=by
  intro t j l;have B:=RG.tail (XQ F t j g4 (λG=>l G) H D);exact RG.from (c1:=372) (c2:=0) B gl (gL _) (λ_ h=>h) (LN (jl rfl)) (by omega)
 have A:RG 373 σ ((Pure.pure ():M Unit) σ):=(rO h.iv h.ms).mono (by omega);have o:HS σ.mode σ.gq σ.head:=by
  have⟨x,d,B,h2⟩:=h.sh;exact .inr (.inr (.inl ⟨h.md,x,d,B,h2⟩))
 have⟨a,b,kk,gx⟩:=t;cases kk with
 |lost=>exact absurd rfl j.nl
 |kg s=>
  refine Dn (sp:=lZ) (P:=RG 373 σ) rfl rfl rfl ?_ ?_
  .exact(yv h.iv h.ne h.ms j.sz (by omega)).mono (by omega)
  .exact z _ j l
 |gM s=>
  refine jy j.nl (sp:=lZ) (P:=RG 373 σ) rfl rfl ?_;show RG 373 σ (xu 96 true _ σ);rw[zx];exact RG.mono (c:=1) (xv h.iv mD (Bj h.iv h.ne) _ (by omega) h.ms) (by omega)
 |iE s q=>exact jy j.nl (sp:=lZ) (P:=RG 373 σ) rfl rfl A
 |ie=>exact jy j.nl (sp:=lZ) (P:=RG 373 σ) rfl rfl (z _ j l)
 |start nm=>
  have y:oD σ ⟨a,b,.start nm,gx⟩:=l.tag rfl;refine Jk (sp:=lZ) (P:=RG 373 σ) rfl (by simp) rfl rfl ?_ ?_
  .intro p u C;simp only[kU,Al,yC]at u;rcases u with rfl|rfl|rfl|rfl|rfl
   all_goals dsimp only at C|-
   .exact(Ig h.iv h.ne y true (by omega) (by rw[h.md];omega) h.ms.2 o).mono (by omega)
   .exact(Ig h.iv h.ne y false (by omega) (by rw[h.md];omega) h.ms.2 o).mono (by omega)
   .exact RG.mono (c:=1) ((qR h.iv h.ne (by omega) _ y.tag y.fr).rg h.ms (λ_ q=>q.1)) (by omega)
   .have e:=Kq C;subst e;exact(Pd n a b gx h.iv h.ne y.fr h.ms).mono (by omega)
   .exact A
  .exact z _ j l
 |stop nm=>
  refine Qd (sp:=lZ) (P:=RG 373 σ) rfl (by simp) rfl rfl ?_ ?_
  .intro p u C;simp only[kU,Al,yC]at u;rcases u with rfl|rfl
   .exact z _ j l
   .exact⟨g4.iv,g4.ms,gl,jH (LN (jl rfl)) (GM _ _)⟩
  .exact A
structure In2 (σ:Ab):Prop where
 iv:ni σ
 md:σ.mode=2
 sh:∃h,σ.gq=[some h]
def In2.ms (h:In2 σ):MS σ:=by
 have⟨x,h1⟩:=h.sh;exact⟨.inl (.inr (.inl ⟨h.md,x,h1⟩)),BH.low (by have:=h.md;omega)⟩
theorem In2.ne (h:In2 σ):σ.gq≠[]:=by have⟨x,h1⟩:=h.sh;grind
theorem jx.afF {r : Nat->Nat} (h:jx r σ) {d : Nat} (l:iV σ d gJ) (o:∀x,σ.gq.head?=some (some x)->r x < r d):jx r {σ with head:=some d}:=
 ⟨⟨h.oA.up,h.oA.dn,h.oA.nd,h.oA.kd⟩,⟨h.ur.je,h.ur.gq,λj x a p=>by grind⟩,h.gq,h.act,λj a=>by cases a;exact l,h.form,h.Mc,h.x7,h.AB,h.QE,h.Ui,h.ye⟩
theorem Ib (h:In2 σ) (own:Bool) (gx:la) (hf:own=true->σ.fresh=true) (hw:wt σ < 998000) {k:M Unit} (U:∀σ',In3 σ'->Lm σ σ'->σ'.waiting=σ.waiting->wt σ'<=wt σ+1->(own=false->σ'.fresh=σ.fresh)->RG c σ' (k σ')):RG (c+1) σ ((qX own gx>>=λ_=>k) σ):=by
 have⟨x,ho⟩:=h.sh;have⟨r,hr⟩:=h.iv;have⟨B,hB⟩:=AU r σ.nodes.length;have Z:x < σ.nodes.length:=hr.Gm (by grind);have A:∀(o:la) (z:Bool),(own=false->z=σ.fresh)->sv gJ own gx σ= .ok σ.nodes.length (σ.pN (.el {name:=gJ,gO:=o,je:=none,kids:=[]}) z)->RG (c+1) σ ((qX own gx>>=λ_=>k) σ):=by
  intro o z F K;have⟨g1,g2⟩:=hr.new gJ o z (B+1);obtain⟨a,l⟩:∃a,a=σ.pN (.el {name:=gJ,gO:=o,je:=none,kids:=[]}) z:=⟨_,rfl⟩;rw[<-l]at g1 g2 K;have C:a.gV σ.nodes.length=some {name:=gJ,gO:=o,je:=none,kids:=[]}:=by rw[l];exact Ab.sN
  have o1:a.gq=σ.gq:=by rw[l];rfl
  have w1:wt a=wt σ:=by rw[l];exact FK _ _ _
  have T:=g1.afF (d:=σ.nodes.length) ⟨_,C,rfl⟩ (by
   grind[x9])
  have H:some σ.nodes.length∉({a with head:=some σ.nodes.length}:Ab).gq:=by
   show some σ.nodes.length∉a.gq;rw[o1];intro V;have:=hr.Gm (i:=σ.nodes.length) V;omega
  have G:=NF (σ:={a with head:=some σ.nodes.length}) ⟨_,T⟩ (j:=σ.nodes.length) C rfl rfl H (by grind) (by show wt a < _;omega);show RG (c+1) σ (((sv gJ own gx>>=λe=>wU (λσ=>{σ with head:=some e})>>=λ_=>lN e>>=λ_=>jF 3>>=λ_=>(Pure.pure ():M Unit))>>=λ_=>k) σ);rw[M.gn,M.gn,K];dsimp only;rw[M.gn];have W:wU (λD:Ab=>{D with head:=some σ.nodes.length}) a= .ok () {a with head:=some σ.nodes.length}:=rfl;rw[W];dsimp only;rw[M.gn];revert G;cases lN σ.nodes.length {a with head:=some σ.nodes.length} with
  |ok u σ2=>
   rintro⟨i2,y,w2,O⟩;dsimp only;have i3:In3 {σ2 with mode:=3}:=⟨i2.mg rfl rfl rfl rfl rfl rfl rfl,rfl,x,σ.nodes.length,by
    show σ2.gq=_;rw[O.gq];grind,y.head⟩
   have J:σ2.waiting=σ.waiting:=by rw[y.waiting];show a.waiting=_;rw[l];rfl
   have N:Lm σ {σ2 with mode:=3}:=⟨y.gI.trans g2.gI,y.qu.trans g2.qu,y.rH.trans g2.rH,y.pP.trans g2.pP,by grind,by grind,λi s q=>y.nm i s (g2.nm i s q)⟩;have Y:wt σ2<=wt a+1:=w2;have Q:=U {σ2 with mode:=3} i3 N J (by grind[wt]) (λI=>by
    show σ2.fresh=_;rw[O.fresh];show a.fresh=_;rw[l];exact F I)
   exact RG.from (c1:=c) (c2:=1) (σ1:={σ2 with mode:=3}) Q N (by grind) (by grind) (by grind[wt]) (gL _)
  |stop e p=>exact λh=>wo h g2.gI
  |stuck=>simp[jE]
 cases own with
 |true=>
  refine A gx false (λh=>by cases h) ?_;grind[sv]
 |false=>exact A [] σ.fresh (λ_=>rfl) rfl
theorem XO (C:4*64+8<=n) (t:gy) (d:vS t) (h:In2 σ) (j:Jq σ t) (I:wt σ < 996000) (F:σ.waiting.length < 4000):RG 374 σ (gQ false (n+3) 2 t σ):=by
 have u:∀t,vS t->Jq σ t->RG 374 σ (nR (gQ false (n+2)) t σ):=by
  intro t d j;refine Ib (c:=373) h false [] (λh=>by cases h) (by omega) (k:=jX (gQ false (n+2)) t>>=λ_=>(Pure.pure ():M Unit)) ?_;intro σ' l G H w' z;have B:=XP C t d l (λD=>(z rfl).trans (j D)) (by omega) (by grind);refine RG.tail ?_;show RG 373 σ' (gQ false (n+2) σ'.mode t σ');rw[l.md];exact B
 have x:RG 374 σ ((Pure.pure ():M Unit) σ):=(rO h.iv h.ms).mono (by omega);have⟨a,b,kk,gx⟩:=t;cases kk with
 |lost=>exact absurd rfl d.nl
 |kg s=>
  refine Dn (sp:=lK) (P:=RG 374 σ) rfl rfl rfl ?_ ?_
  .exact x
  .exact u _ d j
 |gM s=>
  refine jy d.nl (sp:=lK) (P:=RG 374 σ) rfl rfl ?_;show RG 374 σ (xu 96 true _ σ);rw[zx];exact RG.mono (c:=1) (xv h.iv mD (Bj h.iv h.ne) _ (by omega) h.ms) (by omega)
 |iE s q=>exact jy d.nl (sp:=lK) (P:=RG 374 σ) rfl rfl x
 |ie=>exact jy d.nl (sp:=lK) (P:=RG 374 σ) rfl rfl (u _ d j)
 |start nm=>
  have A:oD σ ⟨a,b,.start nm,gx⟩:=j.tag rfl;refine Jk (sp:=lK) (P:=RG 374 σ) rfl (by simp) rfl rfl ?_ ?_
  .intro p o y;simp only[kU,Al,yC]at o;rcases o with rfl|rfl
   all_goals dsimp only at y|-
   .refine RG.mono (c:=1) (Ib (c:=0) h true gx (λ_=>A.fr) (by omega) (k:=(Pure.pure ():M Unit)) ?_) (by omega);intro σ' l G H w' z;exact rO l.iv l.ms
   .have e:=Kq y;subst e;exact(Pd (n+1) a b gx h.iv h.ne A.fr h.ms).mono (by omega)
  .exact u _ d j
 |stop nm=>
  refine Qd (sp:=lK) (P:=RG 374 σ) rfl (by simp) rfl rfl ?_ ?_
  .intro p o y;simp only[kU,Al,yC]at o;subst o;exact u _ d j
  .exact x
structure In1 (σ:Ab):Prop where
 iv:ni σ
 md:σ.mode<=1
 op:σ.gq=[]
 hd:σ.head=none
def In1.ms (h:In1 σ):MS σ:=⟨.inl (.inl ⟨h.md,h.op,h.hd⟩),BH.low (by have:=h.md;omega)⟩
theorem Ia (h:In1 σ) (own:Bool) (gx:la) (N:own=true->σ.fresh=true) (O:wt σ < 998000) {k:M Unit} (H:∀σ',In2 σ'->Lm σ σ'->σ'.waiting=σ.waiting->wt σ'<=wt σ+1->(own=false->σ'.fresh=σ.fresh)->RG c σ' (k σ')):RG (c+1) σ ((qW own gx>>=λ_=>k) σ):=by
 have⟨r,hr⟩:=h.iv;have⟨B,hB⟩:=AU r σ.nodes.length;have⟨e0,he0⟩:=Option.isSome_iff_exists.1 hr.ye;have u:=Ab.gW he0;have o:∀(j:la) (l:Bool),(own=false->l=σ.fresh)->sv fO own gx σ= .ok σ.nodes.length (σ.pN (.el {name:=fO,gO:=j,je:=none,kids:=[]}) l)->RG (c+1) σ ((qW own gx>>=λ_=>k) σ):=by
  intro j l x A;have⟨g1,g2⟩:=hr.new fO j l (B+1);obtain⟨d,a⟩:∃d,d=σ.pN (.el {name:=fO,gO:=j,je:=none,kids:=[]}) l:=⟨_,rfl⟩;rw[<-a]at g1 g2 A;have q:d.gV σ.nodes.length=some {name:=fO,gO:=j,je:=none,kids:=[]}:=by rw[a];exact Ab.sN
  have p:d.gV 0=some e0:=by rw[a];show(σ.add _).gV 0=_;rw[Ab.sr u];exact he0
  have T:wt d=wt σ:=by rw[a];exact FK _ _ _
  have J:d.gq=[]:=by rw[a];exact h.op
  have G:AW d= .ok (0,e0.kids.length) d:=by unfold AW jr;rw[p]
  have⟨σ2,q1,q2,q3,q4,q5,q6,q7,q8,q9,q10⟩:=g1.put (pl:=(0,e0.kids.length)) ⟨e0,p,gL _⟩ q rfl (by
   grind[x9]) (by omega)
  have⟨e2,he2,hn2,_⟩:=q9 _ _ q;show RG (c+1) σ (((sv fO own gx>>=λe=>AW>>=λK=>mL K e>>=λ_=>uo (some e)>>=λ_=>jF 2>>=λ_=>(Pure.pure ():M Unit))>>=λ_=>k) σ);rw[M.gn,M.gn,A];dsimp only;rw[M.gn,G];dsimp only;rw[M.gn,q1];dsimp only;rw[M.gn];have Q:σ2.gq=[]:=q5.trans J;have F:=g2.trans q3;unfold uo;by_cases hl:σ2.qu<=σ2.gq.length
  .rw[gv hl];exact F.gI
  .rw[gH hl,gv (show σ2.mW (some σ.nodes.length)=true by grind[Ab.mW])];dsimp only;have⟨p1,p2⟩:=q2.push he2 (by grind) (by omega) (.inr ⟨hn2,by rw[F.head];exact h.hd⟩);have z:σ2.waiting=σ.waiting:=F.waiting;have I:In2 {({σ2 with gq:=σ2.gq++[some σ.nodes.length]}:Ab)with mode:=2}:=⟨ni.mg ⟨_,p1⟩ rfl rfl rfl rfl rfl rfl rfl,rfl,σ.nodes.length,by grind⟩;have C:Lm σ {({σ2 with gq:=σ2.gq++[some σ.nodes.length]}:Ab)with mode:=2}:=⟨F.gI,F.qu,F.rH,F.pP,by grind,by grind,F.nm⟩;have D:=H _ I C z (by grind[wt]) (λy=>by
    show σ2.fresh=_;rw[q7,a];exact x y)
   exact RG.from (c1:=c) (c2:=1) D C (by grind) (by grind) (by grind[wt]) (gL _)
 cases own with
 |true=>
  refine o gx false (λh=>by cases h) ?_;grind[sv]
 |false=>exact o [] σ.fresh (λ_=>rfl) rfl
theorem XN (A:4*64+8<=n) (t:gy) (d:vS t) (h:In1 σ) (j:Jq σ t) (I:wt σ < 995000) (F:σ.waiting.length < 4000):RG 375 σ (gQ false (n+4) 1 t σ):=by
 have u:∀t,vS t->Jq σ t->RG 375 σ (nQ (gQ false (n+3)) t σ):=by
  intro t d j;refine Ia (c:=374) h false [] (λh=>by cases h) (by omega) (k:=jX (gQ false (n+3)) t>>=λ_=>(Pure.pure ():M Unit)) ?_;intro σ' l G H w' y;have z:=XO A t d l (λC=>(y rfl).trans (j C)) (by omega) (by grind);refine RG.tail ?_;show RG 374 σ' (gQ false (n+3) σ'.mode t σ');rw[l.md];exact z
 have x:RG 375 σ ((Pure.pure ():M Unit) σ):=(rO h.iv h.ms).mono (by omega);have⟨a,b,kk,gx⟩:=t;cases kk with
 |lost=>exact absurd rfl d.nl
 |kg s=>
  refine Dn (sp:=lH) (P:=RG 375 σ) rfl rfl rfl ?_ ?_
  .exact x
  .exact u _ d j
 |gM s=>
  refine jy d.nl (sp:=lH) (P:=RG 375 σ) rfl rfl ?_;show RG 375 σ (xu 90 false _ σ);rw[Rg];exact RG.mono (c:=1) (xv h.iv (jr 0) (OV h.iv) _ (by omega) h.ms) (by omega)
 |iE s q=>exact jy d.nl (sp:=lH) (P:=RG 375 σ) rfl rfl x
 |ie=>exact jy d.nl (sp:=lH) (P:=RG 375 σ) rfl rfl (u _ d j)
 |start nm=>
  have D:oD σ ⟨a,b,.start nm,gx⟩:=j.tag rfl;refine Jk (sp:=lH) (P:=RG 375 σ) rfl (by simp) rfl rfl ?_ ?_
  .intro p o B;simp only[kU,Al,yC]at o;subst o;refine RG.mono (c:=1) (Ia (c:=0) h true gx (λ_=>D.fr) (by omega) (k:=(Pure.pure ():M Unit)) ?_) (by omega);intro σ' l G H w' y;exact rO l.iv l.ms
  .exact u _ d j
 |stop nm=>
  refine Qd (sp:=lH) (P:=RG 375 σ) rfl (by simp) rfl rfl ?_ ?_
  .intro p o B;simp only[kU,Al,yC]at o;subst o;exact u _ d j
  .exact x
def tC:lE:={blank:= .nothing,gM:= .gM 90 false,iE:= .hH 91,ik:= .hH 92}
def In1.q (h:In1 σ) (q:Bool):In1 {σ with jJ:=q,mode:=1}:=⟨h.iv.mg rfl rfl rfl rfl rfl rfl rfl,gL _,h.op,h.hd⟩
theorem afC (G:4*64+8<=n) (t:gy) (d:vS t) (h:In1 σ) (l:Jq σ t) (I:wt σ < 995000) (z:σ.waiting.length < 4000):RG 376 σ (gQ false (n+5) 0 t σ):=by
 have o:∀t,vS t->Jq σ t->RG 376 σ (j9 (gQ false (n+4)) t σ):=by
  intro t d l;have y:=RG.tail (XN G t d (h.q true) (λH=>l H) I z);exact RG.from (c1:=375) (c2:=0) y ⟨rfl,rfl,rfl,rfl,sy _,λ_ h=> .inl h,λ_ _ h=>h⟩ (gL _) (λ_ h=>h) (LN (jl rfl)) (by omega)
 have C:RG 376 σ ((Pure.pure ():M Unit) σ):=(rO h.iv h.ms).mono (by omega);have⟨a,b,kk,gx⟩:=t;cases kk with
 |lost=>exact absurd rfl d.nl
 |kg s=>
  refine Dn (sp:=tC) (P:=RG 376 σ) rfl rfl rfl ?_ ?_
  .exact C
  .exact o _ d l
 |gM s=>
  refine jy d.nl (sp:=tC) (P:=RG 376 σ) rfl rfl ?_;show RG 376 σ (xu 90 false _ σ);rw[Rg];exact RG.mono (c:=1) (xv h.iv (jr 0) (OV h.iv) _ (by omega) h.ms) (by omega)
 |iE s q=>
  refine jy d.nl (sp:=tC) (P:=RG 376 σ) rfl rfl ?_;have⟨A,y,h2⟩:=OV h.iv;have D:=Gt h.iv h2 (.dt s) .dt (.inr ⟨s,rfl,rfl⟩) (by omega);show RG 376 σ ((jr 0>>=λA=>o0 A (.dt s) .dt>>=λ_=>(do wU λσ=>{σ with jJ:=q||!kJ s fO};jF 1;return ():M Unit)) σ);rw[M.gn,y];dsimp only;rw[M.gn];revert D;cases o0 A (.dt s) .dt σ with
  |ok u σ1=>
   rintro⟨J,j,N,K⟩;have F:In1 σ1:=⟨J,by rw[j.mode];exact h.md,by rw[K.gq];exact h.op,by rw[j.head];exact h.hd⟩;have B:=F.q (q||!kJ s fO);exact⟨B.iv,B.ms,⟨j.gI,j.qu,j.rH,j.pP,by show σ1.waiting.length<=_;rw[j.waiting];omega,by show∀x∈σ1.waiting,_;rw[j.waiting];grind,j.nm⟩,by grind[wt]⟩
  |stop c p=>exact λh=>h
  |stuck=>simp[jE]
 |ie=>exact jy d.nl (sp:=tC) (P:=RG 376 σ) rfl rfl (o _ d l)
 |start nm=>exact jy d.nl (sp:=tC) (P:=RG 376 σ) rfl rfl (o _ d l)
 |stop nm=>exact jy d.nl (sp:=tC) (P:=RG 376 σ) rfl rfl (o _ d l)
def Ut (y:4*64+8<=n) (t:gy) (l:vS t) (hi:ni σ) (z:HS σ.mode σ.gq σ.head) (u:BH σ) (j:Jq σ t) (p:wt σ < 995000) (d:σ.waiting.length < 4000):RG 380 σ (gQ false (n+5) σ.mode t σ):=by
 rcases z with⟨a,h,q⟩|⟨a,h⟩|⟨a,h⟩|⟨a,h⟩|⟨a,h⟩
 .have o:In1 σ:=⟨hi,a,h,q⟩;rcases pJ σ.mode 1 with x|x
  .have e:σ.mode=0:=by omega
   rw[e];exact(afC y t l o j p d).mono (by omega)
  .have e:σ.mode=1:=by omega
   rw[e];exact(XN (n:=n+1) (by omega) t l o j p d).mono (by omega)
 .rw[a];exact(XO (n:=n+2) (by omega) t l ⟨hi,a,h⟩ j (by omega) d).mono (by omega)
 .rw[a];exact(XP (n:=n+3) (by omega) t l ⟨hi,a,h⟩ j (by omega) d).mono (by omega)
 .rw[a];exact(XQ (n:=n+4) (by omega) t l ⟨hi,a,h⟩ j (by omega) d).mono (by omega)
 .have hl:σ.gq.length<=64:=by have⟨r,hr⟩:=hi;exact jH hr.x7 hr.QE
  exact((Jr 64 (n+5) (by omega) t σ ⟨l,⟨hi,h,a⟩,j,by omega,d,hl⟩).rg (u (.inl (Eg a)))).mono (by omega)
def afD (F:4*64+8<=n) (t:gy) (d:vS t) (hi:ni σ) (z:σ.mode=5) (D:3<=σ.kept) (hl:2<=σ.gq.length) (u:HS σ.kept σ.gq.dropLast σ.head) (y:BH σ) (H:Jq σ t) (G:wt σ < 995000) (x:σ.waiting.length < 4000):RG 380 σ (gQ false (n+6) 5 t σ):=by
 have l:MS σ:=⟨.inr (.inl ⟨z,D,hl,u⟩),y⟩;have j:BH {σ.pop with mode:=σ.kept}:=λq=>(y (.inr ⟨z,by have q:6<=σ.kept\/σ.kept=5/\6<=σ.kept:=q;omega⟩)).of λ_ _ h=>h;have o:σ.gq≠[]:=by intro e;rw[e]at hl;simp at hl
 have⟨g1,g2⟩:=Gq hi hl;have A:ni {σ.pop with mode:=σ.kept}:=g1.mg rfl rfl rfl rfl rfl rfl rfl;have B:Lm σ {σ.pop with mode:=σ.kept}:=⟨rfl,rfl,rfl,rfl,sy _,λ_ h=> .inl h,λ_ _ h=>h⟩;have p:RG 380 σ (wK σ):=⟨A,⟨.inl u,j⟩,B,jH (LN (jl rfl)) (GM _ _)⟩;have⟨a,b,kk,gx⟩:=t;cases kk with
 |lost=>exact absurd rfl d.nl
 |kg s=>
  refine Dn (sp:=rQ) (P:=RG 380 σ) rfl rfl rfl ?_ ?_
  .exact(yv hi o l d.sz (by omega)).mono (by omega)
  .exact(yv hi o l d.sz (by omega)).mono (by omega)
 |gM s=>exact jy d.nl (sp:=rQ) (P:=RG 380 σ) rfl rfl p
 |iE s q=>exact jy d.nl (sp:=rQ) (P:=RG 380 σ) rfl rfl p
 |start nm=>exact jy d.nl (sp:=rQ) (P:=RG 380 σ) rfl rfl p
 |stop nm=>exact jy d.nl (sp:=rQ) (P:=RG 380 σ) rfl rfl p
 |ie=>
  refine jy d.nl (sp:=rQ) (P:=RG 380 σ) rfl rfl ?_;have C:=RG.tail (Ut F ⟨a,b,.ie,gx⟩ d (σ:={σ.pop with mode:=σ.kept}) A u j (λh=>by cases h) G x);exact RG.from (c1:=380) (c2:=0) (σ1:={σ.pop with mode:=σ.kept}) C B (gL _) (λ_ h=>h) (LN (jl rfl)) (by omega)
def Yk (c:Nat) (σ:Ab) (r:pM Unit):Prop:=match r with
 | .ok _ σ'=>ni σ'/\σ'.gq≠[]/\σ'.mode=σ.mode/\σ'.kept=σ.kept/\σ'.gI=σ.gI/\σ'.qu=σ.qu/\σ'.rH=σ.rH/\σ'.pP=σ.pP/\σ'.fresh=σ.fresh/\wt σ'<=wt σ+c/\∀i s,iV σ i s->iV σ' i s
 | .stop _ p=>p=σ.gI
 | .stuck=>False
theorem Yk.bind {c1 c2 : Nat} {m k:M Unit} (h:Yk c1 σ (m σ)) (q:∀σ',ni σ'->σ'.gq≠[]->wt σ'<=wt σ+c1->Yk c2 σ' (k σ')) (F:c1+c2<=c):Yk c σ ((m>>=λ_=>k) σ):=by
 rw[M.gn];revert h;cases m σ with
 |ok u σ1=>
  rintro⟨d,l,x,y,z,A,B,C,D,a,j⟩;have o:=q σ1 d l a;dsimp only;revert o;cases k σ1 with
  |ok v σ2=>
   grind[Yk]
  |stop e p=>grind[Yk]
  |stuck=>simp[Yk]
 |stop e p=>simp[Yk]
 |stuck=>simp[Yk]
def jE.kw {Q : Unit->Ab->Prop} (h:jE c σ r Q) (d:σ.gq≠[]) (j:∀σ',Q () σ'->σ'.fresh=σ.fresh):Yk c σ r:=by
 cases r with
 |ok a σ'=>
  have⟨h1,f,h3,h4⟩:=h;exact⟨h1,f.ne d,f.mode,f.kept,f.gI,f.qu,f.rH,f.pP,j σ' h4,h3,f.nm⟩
 |stop e p=>exact h
 |stuck=>exact h
def JI (h:ni σ) (a:σ.gq≠[]) (u:t.chars.size<=100) (x:wt σ < 999000):jE 200 σ (mu t σ) (λ_ σ'=>σ'.fresh=σ.fresh):=by
 unfold mu;split
 .exact⟨h,Fx.refl _,GM _ _,rfl⟩
 .refine jE.bind (oz h a (by omega)) (c2:=101) ?_ (by omega);rintro _ o j d y ⟨_,_,l⟩;refine jE.iB (Q:=λ_ σ'=>σ'.fresh=σ.fresh) ((py j (d.ne a) t (by omega)).mono (by omega) ?_);intro _ p _ _ q;exact q.fresh.trans l
def Mq (h:ni σ) (d:σ.gq≠[]) (x:Nat×Nat×fY) (l:x.2.2.size<=100) (o:wt σ < 999000):Yk 200 σ (th (gQ true (n+1)) (rX x) σ):=by
 have e:gQ true (n+1) 6 (rX x)=mu (rX x):=iC true n 6 _ (by simp[rX]) kO rfl (.hH 111) (by
  unfold rX jQ;dsimp only;split<;>rfl)
 have j:=JI (σ:={σ with iL:=true}) (t:=rX x) (h.mg rfl rfl rfl rfl rfl rfl rfl) d l o;show Yk 200 σ ((gQ true (n+1) 6 (rX x)>>=λ_=>wU (λσ=>{σ with iL:=false})>>=λ_=>(Pure.pure ():M Unit)) {σ with iL:=true});rw[e,M.gn];revert j;cases mu (rX x) {σ with iL:=true} with
 |ok u σ1=>
  rintro⟨q,a,z,y⟩;exact⟨q.mg rfl rfl rfl rfl rfl rfl rfl,a.ne d,a.mode,a.kept,a.gI,a.qu,a.rH,a.pP,y,z,a.nm⟩
 |stop c p=>exact λh=>h
 |stuck=>simp[jE]
theorem EA:∀(a:List (Nat×Nat×fY)) {σ:Ab},ni σ->σ.gq≠[]->(∀x∈a,x.2.2.size<=100)->wt σ+200*a.length < 999000->Yk (200*a.length) σ (tK (gQ true (n+1)) a σ)
 |[],σ,h,hne,_,_=>⟨h,hne,rfl,rfl,rfl,rfl,rfl,rfl,rfl,GM _ _,λ_ _ h=>h⟩
 |x::a,σ,h,hne,hs,hw=>by
  simp only[rn]at hw;refine Yk.bind (m:=th (gQ true (n+1)) (rX x)) (k:=tK (gQ true (n+1)) a) (Mq h hne x (hs x (kK ..)) (by omega)) (c2:=200*a.length) ?_ (by grind);intro σ' d l w';exact EA a d l (λy j=>hs y (nc _ j)) (by omega)
theorem EJ:∀(a:List (Nat×Nat×fY)) {σ:Ab},ni σ->σ.gq≠[]->(∀x∈a,x.2.2.size<=100)->wt σ+200*a.length < 999000->Yk (200*a.length) σ (tL a σ)
 |[],σ,h,hne,_,_=>⟨h,hne,rfl,rfl,rfl,rfl,rfl,rfl,rfl,GM _ _,λ_ _ h=>h⟩
 |x::a,σ,h,hne,hs,hw=>by
  simp only[rn]at hw;have p:(rX x).chars.size<=100:=hs x (kK ..);have j:Yk 200 σ (jZ (rX x) σ):=((py h hne (rX x) (by omega)).mono (c':=200) (by omega) (λ_ _ _ _ h=>h)).kw hne (λ_ q=>q.fresh);refine Yk.bind (m:=jZ (rX x)) (k:=tL a) j (c2:=200*a.length) ?_ (by grind);intro σ' d o w';exact EJ a d o (λy l=>hs y (nc _ l)) (by omega)
def Cp (h:ni σ) (a:σ.gq≠[]) (d:∀x∈σ.waiting,x.2.2.size<=100) (j:wt σ+200*σ.waiting.length < 999000):Yk (200*σ.waiting.length) σ (oc (gQ true (n+1)) σ):=by
 unfold oc;split
 .exact EA σ.waiting h a d j
 .exact EJ σ.waiting h a d j
def FV (σ:Ab):Nat:=wt σ+200*σ.waiting.length
structure yK (σ:Ab):Prop where
 iv:ni σ
 ms:MS σ
 wz:∀x∈σ.waiting,x.2.2.size<=100
def RT (c:Nat) (σ:Ab) (r:pM Unit):Prop:=match r with
 | .ok _ σ'=>yK σ'/\σ'.gI=σ.gI/\σ'.qu=σ.qu/\σ'.rH=σ.rH/\σ'.pP=σ.pP/\σ'.waiting.length<=σ.waiting.length+1/\FV σ'<=FV σ+c/\∀i s,iV σ i s->iV σ' i s
 | .stop _ p=>p=σ.gI
 | .stuck=>False
def RG.rt (h:RG c σ r) (j:∀x∈σ.waiting,x.2.2.size<=100):RT (c+200) σ r:=by
 cases r with
 |ok a σ'=>
  have⟨h1,h2,h3,h4⟩:=h;refine⟨⟨h1,h2,λx d=>(h3.wz x d).elim (j x) id⟩,h3.gI,h3.qu,h3.rH,h3.pP,h3.wt,?_,h3.nm⟩;unfold FV;have:=h3.wt;omega
 |stop e p=>exact h
 |stuck=>exact h
theorem afE (hn:4*64+8<=n) (t:gy) (d:vS t) (g:yK σ) (hm:σ.mode=8) (D:σ.kept=7\/σ.kept=11\/σ.kept=12) (B:σ.gq≠[]) (l:Jq σ t) (F:FV σ < 990000) (aa:σ.waiting.length < 4000):RT 580 σ (gQ false (n+6) 8 t σ):=by
 have A:MS σ:=g.ms;have y:∀t,vS t->Jq σ t->RT 580 σ (lG (gQ true (n+5)) (gQ false (n+5)) t σ):=by
  intro t d l;have W:=Cp (n:=n+4) g.iv B g.wz (by unfold FV at F;omega);unfold lG;rw[M.gn];revert W;cases oc (gQ true (n+4+1)) σ with
  |ok u σ1=>
   rintro⟨G,I,a3,J,C,K,N,O,Q,H,z⟩;dsimp only;have i2:ni {σ1 with waiting:=[],mode:=σ1.kept}:=G.mg rfl rfl rfl rfl rfl rfl rfl;have hb:qG σ1.kept=true:=by rw[J];rcases D with e|e|e<;>(rw[e];rfl)
   have Y:=Ut hn t d (σ:={σ1 with waiting:=[],mode:=σ1.kept}) i2 (.inr (.inr (.inr (.inr ⟨hb,I⟩)))) (λ_=>(A.2 (.inl (by omega))).of z) (λhs=>Q.trans (l hs)) (by show wt σ1 < _;unfold FV at F;omega) (by simp);have Z:=RG.tail Y;show RT 580 σ ((jX (gQ false (n+5)) t>>=λ_=>(Pure.pure ():M Unit)) {σ1 with waiting:=[],mode:=σ1.kept});have h4:RG 380 {σ1 with waiting:=[],mode:=σ1.kept} ((jX (gQ false (n+5)) t>>=λ_=>(Pure.pure ():M Unit)) {σ1 with waiting:=[],mode:=σ1.kept}):=Z;revert h4;cases(jX (gQ false (n+5)) t>>=λ_=>(Pure.pure ():M Unit)) {σ1 with waiting:=[],mode:=σ1.kept} with
   |ok v σ2=>
    rintro⟨T,U,j,V⟩;have hl:σ2.waiting.length<=0+1:=j.wt;refine⟨⟨T,U,λx o=>(j.wz x o).elim (λh=>by cases h) id⟩,j.gI.trans C,j.qu.trans K,j.rH.trans N,j.pP.trans O,by omega,?_,λi s q=>j.nm i s (z i s q)⟩;have a0:wt σ2<=wt σ1+380:=V;grind[FV]
   |stop c p=>exact λh=>wo h C
   |stuck=>simp[RG]
  |stop c p=>exact λh=>h
  |stuck=>simp[Yk]
 have⟨a,b,kk,gx⟩:=t;cases kk with
 |lost=>exact absurd rfl d.nl
 |kg s=>
  have KC:RT 580 σ (og ⟨a,b,.kg s,gx⟩ σ):=by
   rw[ER (by omega)];cases uh s with
   |true=>grind[RT]
   |false=>
    refine⟨⟨g.iv.mg rfl rfl rfl rfl rfl rfl rfl,⟨.inr (.inr ⟨hm,D,B⟩),A.2⟩,?_⟩,rfl,rfl,rfl,rfl,by simp,?_,λ_ _ h=>h⟩
    .intro x o;rcases List.mem_append.1 (show x∈σ.waiting++[(a,b,s)]from o)with o|o
     .exact g.wz x o
     .rw[List.mem_singleton.1 o];exact d.sz
    .show wt σ+200*(σ.waiting++[(a,b,s)]).length<=_;grind[FV]
  exact Dn (sp:=ld) (P:=RT 580 σ) rfl rfl rfl KC KC
 |gM s=>exact jy d.nl (sp:=ld) (P:=RT 580 σ) rfl rfl (y _ d l)
 |iE s q=>exact jy d.nl (sp:=ld) (P:=RT 580 σ) rfl rfl (y _ d l)
 |start nm=>exact jy d.nl (sp:=ld) (P:=RT 580 σ) rfl rfl (y _ d l)
 |stop nm=>exact jy d.nl (sp:=ld) (P:=RT 580 σ) rfl rfl (y _ d l)
 |ie=>exact jy d.nl (sp:=ld) (P:=RT 580 σ) rfl rfl (y _ d l)
abbrev ug:Nat:=300
def ahe (t:gy) (p:vS t) (g:yK σ) (o:Jq σ t) (q:FV σ < 990000) (a:σ.waiting.length < 4000):RT 580 σ (gQ false ug σ.mode t σ):=by
 have x:wt σ < 990000:=by unfold FV at q;omega
 rcases g.ms.1 with h|⟨d,j,l,u⟩|⟨d,j,l⟩
 .exact(Ut (n:=295) (by omega) t p g.iv h g.ms.2 o (by omega) a).rt g.wz
 .rw[d];exact(afD (n:=294) (by omega) t p g.iv d j l u g.ms.2 o (by omega) a).rt g.wz
 .rw[d];exact afE (n:=294) (by omega) t p g d j l o q a
def RTk (σ:Ab) (t:gy) (r:pM Unit):Prop:=match r with
 | .ok _ σ'=>yK σ'/\σ'.qu=σ.qu/\σ'.rH=σ.rH/\σ'.pP=σ.pP/\σ'.waiting.length<=σ.waiting.length+1/\FV σ'<=FV σ+580/\∀i s,iV σ i s->iV σ' i s
 | .stop _ p=>p=t.a
 | .stuck=>False
theorem af3 (t:gy) (J:t.k= .lost\/vS t) (g:yK σ) (D:Jq σ t) (H:FV σ < 990000) (d:σ.waiting.length < 4000):RTk σ t (uE (gQ false ug) t σ):=by
 have I:t.k≠ .lost->RTk σ t ((if σ.behind&&kJ t.chars yo then .ok () {σ with behind:=false,gI:=t.a} else jX (gQ false ug) t {σ with behind:=false,gI:=t.a}):pM Unit):=by
  intro F;have j:vS t:=J.resolve_left F;have l:yK {σ with behind:=false,gI:=t.a}:=⟨g.iv.mg rfl rfl rfl rfl rfl rfl rfl,g.ms,g.wz⟩;split
  .exact⟨l,rfl,rfl,rfl,sy _,GM _ _,λ_ _ h=>h⟩
  .have h:=ahe t j l (λG=>D G) H d;show RTk σ t (gQ false ug σ.mode t {σ with behind:=false,gI:=t.a});revert h;cases gQ false ug ({σ with behind:=false,gI:=t.a}:Ab).mode t {σ with behind:=false,gI:=t.a} with
   |ok u σ'=>rintro⟨o,K,x,y,z,A,B,C⟩;exact⟨o,x,y,z,A,B,C⟩
   |stop c p=>exact λh=>h
   |stuck=>simp[RT]
 have⟨a,b,kk,gx⟩:=t;cases kk with
 |lost=>exact⟨g,rfl,rfl,rfl,sy _,GM _ _,λ_ _ h=>h⟩
 |kg s=>grind[uE]
 |gM s=>grind[uE]
 |iE s q=>grind[uE]
 |start nm=>grind[uE]
 |stop nm=>grind[uE]
 |ie=>grind[uE]
def NV (σ:Ab) (i:Nat):Prop:=∃e,σ.gV i=some e/\jU e.name=false
def Um (X:List Nat) (σ:Ab) (i:Nat):Prop:=some i∈σ.gq\/some i∈σ.act\/σ.head=some i\/i=0\/i∈X
def VI (X:List Nat) (σ:Ab):Prop:=(∀i e,σ.gV i=some e->jU e.name=true->e.kids=[])/\∀i,Um X σ i->NV σ i
def I0 {α:Type} (Y:α->List Nat):pM α->Prop
 | .ok a σ=>VI (Y a) σ
 |_=>True
def Vj {α:Type} (X:List Nat) (Y:α->List Nat) (m:M α):Prop:=∀σ,VI X σ->I0 Y (m σ)
def Vp {α:Type} (m:M α):Prop:=∀X,Vj X (λ_=>X) m
def Vj.bind {α l:Type} {Y:α->List Nat} {Z:l->List Nat} {m:M α} {f:α->M l} (h:Vj X Y m) (o:∀a,Vj (Y a) Z (f a)):Vj X Z (m>>=f):=by
 intro σ j;rw[M.gn];have d:=h σ j;revert d;cases m σ with
 |ok a σ'=>intro d;exact o a σ' d
 |stop e p=>simp[I0]
 |stuck=>simp[I0]
def Vp.pure {α:Type} (a:α):Vp (Pure.pure a:M α):=λ_ _ h=>h
def Vp.stuck {α:Type}:Vp (stuck:M α):=λ_ _ _=>trivial
def Vp.bind {α j:Type} {m:M α} {f:α->M j} (h:Vp m) (d:∀a,Vp (f a)):Vp (m>>=f):=λX=>Vj.bind (h X) λa=>d a X
theorem Vp.ite {α:Type} {c : Prop} [Decidable c] {a b:M α} (d:Vp a) (h:Vp b):Vp (if c then a else b):=by grind
def Vp.at {α:Type} {m:M α} (h:Vp m) (a:VI X σ):I0 (λ_=>X) (m σ):=h X σ a
def Vp.fn {α:Type} {f:Ab->pM α} (h:∀X σ,VI X σ->I0 (λ_=>X) (f σ)):Vp (α:=α) f:=h
def I0.ok {α:Type} {Y:α->List Nat} {a:α} (h:VI (Y a) σ):I0 Y (.ok a σ):=h
attribute [simp] Vp.pure Vp.stuck Vp.bind Vp.ite
theorem VI.sub {Y : List Nat} (h:VI X σ) (a:∀i∈Y,Um X σ i):VI Y σ:=⟨h.1,λi hi=>h.2 i (by
 grind[Um])⟩
theorem VI.cons {X:List Nat} {σ:Ab} (h:VI X σ) {j:Nat} (a:Um X σ j):VI (j::X) σ:=h.sub λi hi=>by
 grind[Um]
def VI.tail {j : Nat} (h:VI (j::X) σ):VI X σ:=h.sub λ_ hi=> .inr (.inr (.inr (.inr (nc _ hi))))
theorem VI.lists (h:VI X σ) (e1:σ'.nodes=σ.nodes) (e2:∀i,some i∈σ'.gq->Um X σ i) (a:∀i,some i∈σ'.act->Um X σ i) (d:∀i,σ'.head=some i->Um X σ i):VI X σ':=by
 have e:∀i,σ'.gV i=σ.gV i:=λi=>by unfold Ab.gV;rw[e1]
 refine⟨λi e j=>h.1 i e (by grind),λi hi=>?_⟩;unfold NV;rw[e];refine h.2 i ?_;grind[Um]
def VI.mg (h:VI X σ) (e1:σ'.nodes=σ.nodes) (e2:∀x,x∈σ'.gq->x∈σ.gq) (a:∀x,x∈σ'.act->x∈σ.act) (d:σ'.head=σ.head):VI X σ':=h.lists e1 (λ_ hi=> .inl (e2 _ hi)) (λ_ hi=> .inr (.inl (a _ hi))) (λ_ hi=> .inr (.inr (.inl (d▸hi))))
def Yp (σ σ':Ab):Prop:=σ'.nodes=σ.nodes/\(∀x,x∈σ'.gq->x∈σ.gq)/\(∀x,x∈σ'.act->x∈σ.act)/\σ'.head=σ.head
def VI.sml (h:VI X σ) (s:Yp σ σ'):VI X σ':=h.mg s.1 s.2.1 s.2.2.1 s.2.2.2
def Yp.o {o : kG} (h:∀x,x∈o->x∈σ.gq):Yp σ {σ with gq:=o}:=⟨rfl,h,λ_ h=>h,rfl⟩
def Yp.a {o : kG} (h:∀x,x∈o->x∈σ.act):Yp σ {σ with act:=o}:=⟨rfl,λ_ h=>h,h,rfl⟩
@[simp] def air {f : Ab->Ab} (h:∀σ,Yp σ (f σ)):Vp (wU f):=λ_ σ a=>a.sml (h σ)
theorem Ol (σ:Ab) (p:fY->Bool):∀(l:kG) x,x∈Ab.zl σ p l->x∈l
 |[],_,h=>h
 |y::r,x,h=>by
  unfold Ab.zl at h;split at h
  .grind
  .exact nc _ (Ol σ p r x h)
def F4 (σ:Ab) (p:fY->Bool):∀(l:kG) x,x∈Ab.pS σ p l->x∈l
 |[],_,h=>h
 |y::r,x,h=>by
  unfold Ab.pS at h;split at h
  .exact nc _ (F4 σ p r x h)
  omega
@[simp] def XC (σ:Ab):Yp σ σ.pop:= .o λ_ h=>(List.dropLast_subset _ h)
@[simp] def adl (σ:Ab) (p:fY->Bool):Yp σ (σ.FG p):= .o λx h=>List.mem_reverse.1 (Ol σ p _ x (List.mem_reverse.1 h))
@[simp] def Rb (σ:Ab) (p:fY->Bool):Yp σ (σ.wF p):= .o λx h=>List.mem_reverse.1 (F4 σ _ _ x (List.mem_reverse.1 h))
@[simp] def agy (σ:Ab):Yp σ σ.me:= .o λx h=>List.mem_reverse.1 (F4 σ _ _ x (List.mem_reverse.1 h))
def Yp.VQ (e1:σ'.nodes=σ.nodes) (e2:σ'.gq=σ.gq) (a:σ'.act=σ.act) (d:σ'.head=σ.head):Yp σ σ':=⟨e1,λ_ h=>e2▸h,λ_ h=>a▸h,d⟩
@[simp] def ZD (σ:Ab) (p:fY->Bool):Yp σ (σ.Fi p):=by unfold Ab.Fi;split;exact XC σ;simp[Yp]
def Ns {l : kG} {y : iY}:∀x,x∈l.erase y->x∈l:=λ_ h=>Qw h
def KH (h:σ.last=some i):some i∈σ.gq:=pu h
theorem VI.gS (h:VI X σ) {e0 : yp} (o:σ.gV i=some e0) (x:e.name=e0.name) (u:jU e.name=true->e.kids=[]):VI X (σ.gS i e):=by
 have a:=Ab.gW o;refine⟨λj d l q=>?_,λj p=>?_⟩
 .by_cases e1:i=j
  .subst e1;rw[Ab.iR a]at l;grind
  .rw[Ab.iG (wB e1)]at l;exact h.1 j d l q
 .have⟨d,h1,h2⟩:=h.2 j p;by_cases e1:i=j
  .subst e1;rw[o]at h1;cases h1;exact⟨e,Ab.iR a,by grind⟩
  .exact⟨d,by grind[Ab.gV,Ab.gS],h2⟩
theorem VI.nv (h:VI X σ) (hi:Um X σ i) (a:σ.gV i=some e):jU e.name=false:=by
 have⟨e',h1,h2⟩:=h.2 i hi;grind
theorem VI.add {X:List Nat} {σ:Ab} (h:VI X σ) {n:AJ} (o:∀e,n= .el e->e.kids=[]):VI X (σ.add n):=by
 refine⟨λj e a l=>?_,λj d=>?_⟩
 .by_cases d:j < σ.nodes.length
  .rw[Ab.sr d]at a;exact h.1 j e a l
  .by_cases e1:j=σ.nodes.length
   .subst e1;rw[Ab.sN]at a;grind
   .have:=Ab.gW a;simp[Ab.add]at this;omega
 .have⟨e',h1,h2⟩:=h.2 j d;exact⟨e',by grind[Ab.gV,Ab.add],h2⟩
theorem VI.tW (h:VI X σ) (j:e.kids=[]) (d:jU e.name=false):VI (σ.nodes.length::X) (σ.add (.el e)):=by
 have a:=h.add (n:= .el e) (λ_ h=>by grind);refine⟨a.1,λi hi=>?_⟩;rcases hi with g|g|g|g|g
 .exact a.2 i (.inl g)
 .exact a.2 i (.inr (.inl g))
 .exact a.2 i (.inr (.inr (.inl g)))
 .exact a.2 i (.inr (.inr (.inr (.inl g))))
 .rcases List.mem_cons.1 g with rfl|g
  .exact⟨e,by rw[Ab.sN],d⟩
  .exact a.2 i (.inr (.inr (.inr (.inr g))))
def Uj (h:i∈X):Um X σ i:= .inr (.inr (.inr (.inr h)))
def inO (h:some i∈σ.gq):Um X σ i:= .inl h
def in0:Um X σ 0:= .inr (.inr (.inr (.inl rfl)))
def yS (h:VI X σ) (hi:Um X σ i):I0 (λa=>a.1::X) (jr i σ):=by
 unfold jr;split
 .exact h.cons hi
 .trivial
def O2 (hi:i∈X):Vj X (λa=>a.1::X) (jr i):=λ_ h=>yS h (Uj hi)
theorem RR (h:VI X σ):I0 (λu=>u.1::X) (lM i σ):=by
 unfold lM;split
 .split
  .split
   .rename_i d a;split
    .rename_i l;refine⟨h.1,λj o=>?_⟩;by_cases e:j∈X
     .exact h.2 j (Uj e)
     .rcases o with g|g|g|g|g
      .exact h.2 j (.inl g)
      .exact h.2 j (.inr (.inl g))
      .exact h.2 j (.inr (.inr (.inl g)))
      .exact h.2 j (.inr (.inr (.inr (.inl g))))
      .rcases List.mem_cons.1 g with rfl|g
       .refine⟨d,a,?_⟩;cases hv:jU d.name with
        |false=>rfl
        |true=>
         rw[h.1 _ _ a hv]at l;exact absurd l (show ¬(0:Int)<= -1 by decide)
       grind
    .trivial
   .trivial
  .split
   .rename_i q p;exact yS h (inO (pu p))
   .trivial
 .trivial
def Kh (h:VI X σ):I0 (λd=>d.1::X) (jK σ):=by
 unfold jK;split
 .split
  .exact RR h
  .trivial
  .split
   .rename_i q a;exact yS h (inO (pu a))
   .trivial
 .trivial
def Ih (h:VI X σ) (hi:Um X σ i):I0 (λa=>a.1::X) (placeFor i σ):=by
 unfold placeFor;split
 .exact Kh h
 .exact yS h hi
def Fh:Vj X (λa=>a.1::X) mD:=λσ h=>by
 unfold mD;split
 .rename_i i hi;exact Ih h (inO (KH hi))
 .trivial
def JT:Vj X (λa=>a.1::X) AW:=λσ h=>yS h in0
def UU:Vj X (λa=>a.1::X) qO:=λσ h=>by
 unfold qO;split
 .rename_i i hi;exact yS h (inO (pu hi))
 .trivial
theorem zS (pl:Nat×Nat) (j:Nat):Vj (pl.1::X) (λ_=>X) (mL pl j):=by
 intro σ h;unfold mL;split
 .rename_i a d l o;have p:=h.nv (Uj (kK ..)) l;split
  .rename_i q;refine I0.ok (VI.gS (e0:=d) (VI.gS (e:={a with kids:=ins a.kids pl.2 (.el j)}) h.tail l rfl (λh=>by grind)) ?_ rfl ?_)
   .rw[Ab.iG q.1];exact o
   .exact λp=>h.1 _ d o p
  .trivial
 .trivial
theorem Jh (pl:Nat×Nat) (k:Nd):Vj (pl.1::X) (λ_=>X) (ym pl k):=by
 intro σ h;unfold ym;split
 .rename_i d a;have j:=h.nv (Uj (kK ..)) a;split
  .exact I0.ok (VI.gS h.tail a rfl (λh=>by grind))
  .trivial
 .trivial
theorem VK (pl:Nat×Nat) (s:fY):Vj (pl.1::X) (λ_=>X) (sF pl s):=by
 intro σ h;unfold sF;split
 .rename_i j l;have q:=h.nv (Uj (kK ..)) l;split
  .split
   .split
    .rename_i a o;split
     .have e:∀i,(σ.ot _ (a++s)).gV i=σ.gV i:=λi=>Ab.sI o i;refine I0.ok ⟨λi d p=>h.1 i d (by grind),λi hi=>?_⟩;have⟨d,g1,g2⟩:=h.tail.2 i hi;grind[NV]
     .trivial
    .trivial
   .exact I0.ok (VI.gS (e0:=j) (VI.add (n:= .tx s) h.tail (λ_ h=>by cases h)) (by grind[Ab.gV,Ab.add]) rfl (λh=>by grind))
  .trivial
 .trivial
def aie (pl:Nat×Nat) (k:Nd):Vj (pl.1::X) (λ_=>X) (Fl pl k):=by
 cases k with
 |el j=>exact zS _ _
 |tx j=>exact Jh _ _
 |cm j=>exact Jh _ _
 |dt j=>exact Jh _ _
def SX (pl:Nat×Nat) (nd:AJ) (k:Nat->Nd) (a:∀e,nd= .el e->False):Vj (pl.1::X) (λ_=>X) (o0 pl nd k):=λσ h=>Jh pl _ _ (h.add λe h=>(a e h).elim)
@[simp] def TV {f : Ab->Ab} (h:∀σ,(f σ).nodes=σ.nodes/\(f σ).gq=σ.gq/\(f σ).act=σ.act/\(f σ).head=σ.head):Vp (wU f):=air λσ=> .VQ (h σ).1 (h σ).2.1 (h σ).2.2.1 (h σ).2.2.2
theorem PK (j:Nat):Vj (j::X) (λ_=>X) (uo (some j)):=by
 intro σ h;unfold uo;split
 .trivial
 .split
  .refine I0.ok (VI.tail (j:=j) (h.lists rfl (λi hi=>?_) (λi hi=> .inr (.inl hi)) (λi hi=> .inr (.inr (.inl hi)))));grind[Um]
  .trivial
def Vza {α:Type} (X:List Nat):pM α->Prop
 | .ok _ σ=>VI X σ.pop
 |_=>True
def Vz {α:Type} (X:List Nat) (m:M α):Prop:=∀σ,VI X σ->Vza X (m σ)
def afo (x:iY):Vz X (uo x):=by
 intro σ h;unfold uo;split
 .trivial
 .split
  .exact h.lists rfl (λi hi=> .inl (by simpa [Ab.pop]using hi)) (λi hi=> .inr (.inl hi)) (λi hi=> .inr (.inr (.inl hi)))
  .trivial
def Vj.z {α q:Type} {Y:α->List Nat} {Z : List Nat} {m:M α} {f:α->M q} (h:Vj X Y m) (p:∀a,Vz (Y a) (f a)) (o:∀a i,i∈Z->i∈Y a):∀σ,VI X σ->Vza Z ((m>>=f) σ):=by
 intro σ j;rw[M.gn];have d:=h σ j;revert d;cases m σ with
 |ok a σ'=>
  intro d;have l:=p a σ' d;dsimp only;revert l;cases f a σ' with
  |ok b σ2=>exact λh=>h.sub λi hi=>Uj (o a i hi)
  |_=>simp[Vza]
 |_=>simp[Vza]
def Vz.ret {α d:Type} {m:M α} {b:d} (h:Vz X m):Vz X (m>>=λ_=>(Pure.pure b:M d)):=by
 intro σ a;have j:=h σ a;rw[M.gn];revert j;cases m σ<;>exact λh=>h
def Vz.pop {α o:Type} {m:M α} {b:iY->M o} (h:∀X,Vz X m) (l:∀x,Vp (b x)):Vp (m>>=λ_=>x8>>=b):=by
 intro X σ d;have j:=h X σ d;rw[M.gn];revert j;cases m σ with
 |ok a σ'=>exact λh=>l _ X _ h
 |_=>simp[I0]
def NE (j:Nat):Vz X (lN j):=Vj.z Fh (λa=>Vj.z (X:=a.1::X) (Z:=a.1::X) (λσ h=>by
 have d:=zS (X:=a.1::X) a j σ (h.cons (Uj (kK ..)));exact d) (λ_=>Vz.ret (afo _)) (λ_ _ h=>h)) (λ_ _ h=>nc _ h)
def BX (j:Nat):Vj (j::X) (λ_=>X) (lN j):=Vj.bind Fh λa=>Vj.bind (zS a j) λ_=>Vj.bind (PK j) λ_=>Vp.pure _ X
def Xy (a:fY) (d:jU a=false):Vj X (λj=>j::X) (CJ a):=λσ h=>I0.ok (h.tW rfl d)
theorem ae1 (a:fY):Vj X (λ_=>X) (CJ a):=λσ h=>I0.ok (h.add λe d=>by grind)
def VI.BU {n : AJ} {b : Bool} (h:VI X (σ.add n)):VI X (σ.pN n b):=h
def Vm (t:gy) (a:jU t.name=false):Vj X (λj=>j::X) (nC t):=by
 intro σ h;unfold nC;split
 .exact I0.ok (h.tW (e:=⟨t.name,t.jh,none,[]⟩) rfl a).BU
 .trivial
theorem Vk (t:gy):Vj X (λ_=>X) (nC t):=by
 intro σ h;unfold nC;split
 .exact I0.ok (h.add (n:= .el ⟨t.name,t.jh,none,[]⟩) λe a=>by grind).BU
 .trivial
def Sv (a:fY) (own:Bool) (gx:la) (d:jU a=false):Vj X (λj=>j::X) (sv a own gx):=by
 intro σ h;unfold sv;split
 .split
  .exact I0.ok (h.tW (e:=⟨a,gx,none,[]⟩) rfl d).BU
  .trivial
 .exact Xy a d σ h
def Dj (i:Nat) (hi:i∈X):Vj X (λj=>j::X) (kB i):=by
 intro σ h;unfold kB;split
 .rename_i e a;split
  .trivial
  .exact I0.ok (h.tW (e:=⟨e.name,e.gO,none,[]⟩) rfl (show jU e.name=false from h.nv (Uj hi) a))
 .trivial
def Oi (j:Nat):Vp (lQ j):=by
 intro X σ h;unfold lQ;split
 .trivial
 .rename_i l o;split
  .exact h
  .split
   .trivial
   .rename_i p _ a q;split
    .rename_i u;refine I0.ok (VI.gS (e0:=l) (VI.gS (e:={a with kids:=a.kids.eraseIdx (qE a.kids (Nd.gR j)).toNat}) h q rfl (λd=>?_)) ?_ rfl (λd=>h.1 _ l o d))
     .show a.kids.eraseIdx _=[];rw[h.1 _ a q d];rfl
     .rw[Ab.iG u.1];exact o
    .trivial
def ahI (t:gy):Vz X (jg t):=Vj.z (Vk t) (λj=>Vz.ret (NE j)) (λ_ _ h=>h)
def ai9 (a:fY):Vz X (jW a):=Vj.z (ae1 a) (λj=>Vz.ret (NE j)) (λ_ _ h=>h)
@[simp] def A7 (t:gy) (a:jU t.name=false):Vp (jg t):=λX=>Vj.bind (Vm t a) λj=>Vj.bind (BX j) λ_=>Vp.pure _ X
@[simp] def MA (a:fY) (d:jU a=false):Vp (jW a):=λX=>Vj.bind (Xy a d) λj=>Vj.bind (BX j) λ_=>Vp.pure _ X
@[simp] def aeK (t:gy):Vp (ln t):=Vz.pop (λ_=>ahI t) λ_=>Vp.pure _
@[simp] def Ph (t:gy):Vp (jZ t):=λX=>Vj.bind Fh λa=>Vj.bind (VK a _) λ_=>Vp.pure _ X
@[simp] def ajp:Vp x8:=λ_ σ h=>h.sml (XC σ)
@[simp] def JO (p b:fY->Bool):Vp (mV p b):=λX σ h=>by
 unfold mV;split
 .exact h.sml (adl σ p)
 .exact h
@[simp] def Nc:Vp oE:=Vp.bind (JO _ _) λ_=>Vp.pure _
@[simp] def SL (p:fY->Bool):Vp (pZ p):=air λσ=>ZD σ p
@[simp] def JN (p:fY->Bool):Vp (ub p):=air λσ=>Rb σ p
@[simp] def Cd (m:Nat):Vp (jF m):=TV λ_=>⟨rfl,rfl,rfl,rfl⟩
def Vp.o {c : Ab->Bool} {f : Ab->kG} (h:∀σ x,x∈f σ->x∈σ.gq):Vp (α:=Unit) λσ=>if c σ then .ok () {σ with gq:=f σ} else .stuck:=λX σ a=>by
 dsimp only;split
 .exact a.sml (.o (h σ))
 .trivial
def Vp.a {c : Ab->Bool} {f : Ab->kG} (h:∀σ x,x∈f σ->x∈σ.act):Vp (α:=Unit) λσ=>if c σ then .ok () {σ with act:=f σ} else .stuck:=λX σ a=>by
 dsimp only;split
 .exact a.sml (.a (h σ))
 .trivial
@[simp] def KZ (x:iY):Vp (kq x):=Vp.o (f:=λσ=>σ.gq.erase x) λ_=>Ns
@[simp] def AN (x:iY):Vp (kM x):=Vp.a (f:=λσ=>σ.act.erase x) λ_=>Ns
@[simp] def acw (x:iY):Vp (zP x):=Vp.o (f:=λσ=>oh σ.gq x) λ_ _=>Ca
@[simp] def aiQ (x:iY):Vp (AO x):=Vp.a (f:=λσ=>oh σ.act x) λ_ _=>Ca
theorem VI.oG (h:VI X σ) {o : kG} {j : Nat} (a:Um X σ j) (d:∀x,x∈o->x∈σ.gq\/x=some j):VI X {σ with gq:=o}:=h.lists rfl (λi hi=>by
 grind[Um]) (λi hi=> .inr (.inl hi)) (λi hi=> .inr (.inr (.inl hi)))
theorem VI.aG (h:VI X σ) {o : kG} {j : Nat} (a:Um X σ j) (d:∀x,x∈o->x∈σ.act\/x=some j):VI X {σ with act:=o}:=h.lists rfl (λi hi=> .inl hi) (λi hi=>by
 grind[Um]) (λi hi=> .inr (.inr (.inl hi)))
def ae9 (x:iY) (j:Nat) (a:j∈X):Vj X (λ_=>X) (yk x (some j)):=λσ h=>by
 unfold yk;split
 .exact h.oG (Uj a) λ_ h=>y9 h
 .trivial
def QP (h:VI X σ) (x:iY) {j : Nat} (a:Um X σ j):I0 (λ_=>X) (qg x (some j) σ):=by
 unfold qg;split
 .exact h.aG a λ_ h=>y9 h
 .trivial
def PG (x:iY) (j:Nat) (a:j∈X):Vj X (λ_=>X) (oZ x (some j)):=λσ h=>by
 unfold oZ;split
 .exact h.oG (Uj a) λ_ h=>vC h
 .trivial
def Oy (x:iY) (j:Nat) (a:j∈X):Vj X (λ_=>X) (oU x (some j)):=λσ h=>by
 unfold oU;split
 .exact h.aG (Uj a) λ_ h=>vC h
 .trivial
theorem Ju (j:Nat) (a:j∈X):Vj X (λ_=>X) (kA (some j)):=λσ h=>by
 unfold kA;split
 .trivial
 .split
  .exact h.aG (Uj a) λx d=>by grind
  .trivial
@[simp] theorem aiw:Vp (kA none):=λX σ h=>by
 unfold kA;split
 .trivial
 .split
  .exact h.lists rfl (λi hi=> .inl hi) (λi hi=> .inr (.inl (by grind))) (λi hi=> .inr (.inr (.inl hi)))
  .trivial
@[simp] theorem QO (n:Nat):Vp (po n):=λX σ h=>by
 unfold po;cases hl:σ.last with
 |none=>
  unfold qg;split
  .refine h.lists rfl (λi hi=> .inl hi) (λi hi=>?_) (λi hi=> .inr (.inr (.inl hi)));rcases y9 hi with g|g
   all_goals grind[Um]
  .trivial
 |some i=>exact QP h _ (inO (KH hl))
def adY (n:Nat):Vj X (λi=>i::X) (Cn n):=λσ h=>by
 unfold Cn;split
 .rename_i i hi;exact h.cons (.inr (.inl (pu hi)))
 .trivial
def afe (n:Nat):Vj X (λi=>i::X) (CV n):=λσ h=>by
 unfold CV;split
 .rename_i i hi;exact h.cons (inO (pu hi))
 .trivial
def ad0 (n:Nat):Vj X (λi=>i::X) (ahead n):=λσ h=>by
 unfold ahead;split
 .rename_i i hi;exact h.cons (inO (pu hi))
 .trivial
def aeS:Vj X (λi=>i::X) EX:=λσ h=>by
 unfold EX;split
 .rename_i i hi;exact h.cons (inO (KH hi))
 .trivial
def Vj.tl {α:Type} {j : Nat} {m:M α} (h:Vp m):Vj (j::X) (λ_=>X) m:=λσ a=>h X σ a.tail
def ag9 (i:Nat):Vj (i::X) (λ_=>X) (Jv i):=by
 intro σ h;unfold Jv;dsimp only;split
 .exact Vj.bind (AN _ (i::X)) (λ_=>Vj.bind (Ju i (kK ..)) λ_=>Vj.tl (Vp.pure _)) σ h
 .exact Vj.bind (Ju i (kK ..)) (λ_=>Vj.tl (Vp.pure _)) σ h
@[simp] def acS:∀k n,Vp (IM k n)
 |0,_=>Vp.pure _
 |k+1,n=>λX=>Vj.bind (adY n) λi=>Vj.bind (Dj i (kK ..)) λj=>Vj.bind (BX j) λ_=>Vj.tl (Vp.bind (QO _) λ_=>acS k (n+1))
@[simp] def C7:Vp lz:=λX σ h=>acS _ _ X σ h
@[simp] def Xa (i:Nat):∀L:la,Vp (qj i L)
 |[]=>Vp.pure _
 |a::r=>by
  intro X σ h;have j:=Xa i r X;unfold qj;split
  .trivial
  .rename_i e d;split
   .exact j σ h
   .split
    .trivial
    .exact j _ (h.gS d rfl (λl=>h.1 i e d l))
@[simp] def ajN (i:Nat) (t:gy):Vp (vK i t):=by
 intro X σ h;unfold vK;split
 .exact Xa i _ X σ h
 .trivial
def Xc (d:Nat) (a:d∈X):∀h,Vj X (λ_=>X) (yi d h)
 |[]=>Vp.pure _ X
 |k::r=>Vj.bind (O2 a) λj=>Vj.bind (aie j k) λ_=>Xc d a r
def Va (b d:Nat) (j:d∈X):Vj X (λ_=>X) (handOver b d):=by
 intro σ h;unfold handOver;split
 .trivial
 .split
  .trivial
  .refine Vj.bind (Xc d j _) (λ_ σ' a=>?_) σ h;split
   .rename_i o l;exact I0.ok (a.gS l rfl λ_=>rfl)
   .trivial
def Vp.j {α:Type} {m:M α} (h:Vp m):Vj X (λ_=>X) m:=h X
def Gx (f l:Nat):∀(X:List Nat) n c last j,last∈X->Vj X (λ_=>X) (lB f l n c last j)
 |X,0,_,_,_,_=>λσ h=>h
 |X,n+1,c,last,j,hl=>by
  unfold lB;refine Vj.bind (afe _) λe=>?_;split
  .exact λσ h=>h.tail
  .refine Vj.bind (Vp.j (Vp.ite (AN _) (Vp.pure _))) λ_=>λσ h=>?_;by_cases o:some e∉σ.act
   .rw[gv o];exact Vj.bind (Vp.j (KZ _)) (λ_=>λσ h=>Gx f l X n _ _ _ hl σ h.tail) σ h
   .rw[gH o];refine Vj.bind (Dj e (kK ..)) (λd=>Vj.bind (ae9 _ _ (kK ..)) λ_=>Vj.bind (λσ h=>QP h _ (Uj (kK ..))) λ_=>Vj.bind (Vp.j (Oi _)) λ_=>Vj.bind (O2 (kK ..)) λq=>Vj.bind (zS q last) λ_=>λσ h=>?_) σ h;have p:=Gx f l (d::e::X) n (c+1) d (if last=l then d else j) (kK ..) σ h;revert p;cases lB f l n (c+1) d (if last=l then d else j) σ with
    |ok a σ'=>exact λh=>VI.tail (VI.tail h)
    |_=>simp[I0]
def Zu (f d:Nat) (p:f∈X) (o:d∈X):Vj X (λ_=>X) (sR f d):=by
 refine Vj.bind (λσ h=>Gx f d X _ _ _ _ o σ h) λ(last,mark)=>Vj.bind (Vp.j (Oi last)) λ_=>Vj.bind (ad0 f) λa=>Vj.bind (λσ h=>Ih h (Uj (kK ..))) λl=>Vj.bind (zS l last) λ_=>Vj.bind (λσ h=>Dj f p σ h.tail) λj=>Vj.bind (Va d j (kK ..)) λ_=>Vj.bind (O2 (nc _ o)) λl=>Vj.bind (zS l j) λ_=>Vj.bind (Oy _ _ (kK ..)) λ_=>Vj.bind (Vp.j (AN _)) λ_=>Vj.bind (Vp.j (KZ _)) λ_=>Vj.bind (PG _ _ (kK ..)) λ_=>Vj.tl (Vp.pure _)
@[simp] def ajB:jU fO=false:=by decide+kernel
@[simp] def ajA:jU gJ=false:=by decide+kernel
@[simp] def aky:jU gr=false:=by decide+kernel
@[simp] def vP:jU nf=false:=by decide+kernel
def Ea (rec:Nat->gy->M Unit):Prop:=∀m t,Vp (rec m t)
@[simp] def Jm (rec:Nat->gy->M Unit) (t:gy) (a:Ea rec):Vp (jX rec t):=λX σ h=>a _ _ X σ h
def VH:Vp pushHead:=λX σ h=>by
 unfold pushHead;cases hh:σ.head with
 |none=>
  unfold uo;split
  .trivial
  .split
   .rename_i g;cases g
   .trivial
 |some i=>exact PK i σ (h.cons (.inr (.inr (.inl hh))))
@[simp] def PE:Vp oY:=λX σ h=>KZ _ X σ h
@[simp] def ad8 (rec:Nat->gy->M Unit) (t:gy) (a:Ea rec):Vp (td rec t):=Vp.bind VH λ_=>Vp.bind (a _ _) λ_=>Vp.bind PE λ_=>Vp.pure _
@[simp] def aiy (of:fY) (pl:Bool):Vp (I6 of pl):=TV λ_=>⟨rfl,rfl,rfl,rfl⟩
@[simp] def aiA:Vp wG:=λX σ h=>by unfold wG;split;exact h;exact Nc X σ h
@[simp] def abC (rec:Nat->gy->M Unit) (t:gy) (a:Ea rec):Vp (th rec t):=Vp.bind (TV λ_=>⟨rfl,rfl,rfl,rfl⟩) λ_=>Vp.bind (a _ _) λ_=>Vp.bind (TV λ_=>⟨rfl,rfl,rfl,rfl⟩) λ_=>Vp.pure _
@[simp] def ahQ (t:gy):Vp (og t):=by
 unfold og;split
 .refine Vp.ite (Vp.pure _) (Vp.fn λX σ h=>?_);split
  .exact h.sml (.VQ rfl rfl rfl rfl)
  .trivial
 simp
@[simp] def Hh (rec:Nat->gy->M Unit) (a:Ea rec):∀d,Vp (tK rec d)
 |[]=>Vp.pure _
 |x::r=>Vp.bind (abC rec _ a) λ_=>Hh rec a r
@[simp] def Hr:∀a,Vp (tL a)
 |[]=>Vp.pure _
 |x::r=>Vp.bind (Ph _) λ_=>Hr r
@[simp] def OD (rec:Nat->gy->M Unit) (a:Ea rec):Vp (oc rec):=by
 intro X σ h;unfold oc;split
 .exact Hh rec a _ X σ h
 .exact Hr _ X σ h
@[simp] def aao (vc rec:Nat->gy->M Unit) (t:gy) (a:Ea vc) (d:Ea rec):Vp (lG vc rec t):=
 Vp.bind (OD vc a) λ_=>Vp.bind (TV λ_=>⟨rfl,rfl,rfl,rfl⟩) λ_=>Vp.bind (Jm rec t d) λ_=>Vp.pure _
@[simp] def ajs:Vp xF:=TV λ_=>⟨rfl,rfl,rfl,rfl⟩
def Dp (d:M (Nat×Nat)) (t:gy) (h:∀X,Vj X (λa=>a.1::X) d):Vp (nB d t):=by
 unfold nB;split
 .exact λX=>Vj.bind (h X) λa=>Vj.bind (SX a _ _ nofun) λ_=>Vp.pure _ X
 simp
@[simp] def aej (a:Nat) (own:Bool) (t:gy):Vp (xu a own t):=by
 unfold xu;exact Vp.ite (Dp _ _ λ_=>Fh) (Vp.ite (Dp _ _ λ_=>UU) (Vp.ite (Dp _ _ λ_=>JT) Vp.stuck))
@[simp] def aar (t:gy):Vp (mN t):=by
 unfold mN;split
 .exact λX=>Vj.bind JT λa=>Vj.bind (SX a _ _ nofun) λ_=>(by simp:Vp _) X
 .simp
@[simp] def ah5 (own:Bool) (gx:la):Vp (qW own gx):=λX=>Vj.bind (Sv _ _ _ ajB) λj=>Vj.bind JT λa=>Vj.bind (zS a j) λ_=>Vj.bind (PK j) λ_=>Vp.bind (Cd _) (λ_=>Vp.pure _) X
@[simp] theorem ah6 (own:Bool) (gx:la):Vp (qX own gx):=λX=>Vj.bind (Sv _ _ _ ajA) λj=>Vj.bind (Y:=λ_=>j::X) (λσ h=>VI.lists h (σ':={σ with head:=some j}) rfl (λ_ hi=> .inl hi) (λ_ hi=> .inr (.inl hi)) (λi hi=>by grind[Um])) λ_=>Vj.bind (BX j) λ_=>Vp.bind (Cd _) (λ_=>Vp.pure _) X
@[simp] def ahw:Vp uc:=Vp.bind C7 λ_=>Vz.pop (λ_=>ai9 _) λ_=>Vp.pure _
def Vp.z {α j:Type} {m:M α} {f:α->M j} (h:Vp m) (d:∀a,Vz X (f a)):Vz X (m>>=f):=Vj.z (h X) d (λ_ _ h=>h)
@[simp] def XT (t:gy):Vp (lh t):=Vz.pop (λX=>Vp.z (SL _) λ_=>Vp.z (SL _) λ_=>Vz.ret (ahI t)) λ_=>Vp.pure _
@[simp] def V0 (t:gy):Vp (kP t):=by
 intro X σ h;unfold kP;split
 .exact h
 .refine Vz.pop (λ_=>ahI t) (λx=>Vp.bind (TV ?_) λ_=>Vp.pure _) X σ h;simp
@[simp] def Qa (t:gy) (a:jU t.name=false):Vp (lr t):=Vp.bind C7 λ_=>Vp.bind (A7 t a) λ_=>Vp.pure _
@[simp] def XS (t:gy) (a:jU t.name=false):Vp (iP t):=Vp.bind (Qa t a) λ_ X=>Vj.bind aeS λi=>Vj.bind (ag9 i) λ_=>Vp.pure _ X
@[simp] def PY (t:gy) (a:jU t.name=false):Vp (mF t):=Vp.bind Nc λ_=>Vp.bind (A7 t a) λ_=>Vp.pure _
@[simp] def UW (s:fY):Vp (ud s):=Vp.bind (JO _ _) λ_=>Vp.pure _
@[simp] theorem QW (s:fY):Vp (mr s):=by
 intro X σ h;unfold mr;split
 .exact Vp.at (Vp.bind (UW s) λ_=>Vp.pure _) h
 .rename_i f _;split
  .exact Vp.at (Vp.bind (AN _) λ_=>Vp.pure _) h
  .rename_i p;split
   .exact h
   .split
    .exact Vp.at (Vp.bind (acw _) λ_=>Vp.bind (AN _) λ_=>Vp.pure _) h
    .rename_i b o;have j:some f∈σ.gq:=Classical.not_not.1 p;have d:some b∈σ.gq:=by
      rcases Dm o with g|g
      .grind
      .cases g
     refine Vj.bind (Y:=λ_=>X) (λσ h=>?_) (λ_=>Vp.pure _ X) σ ((h.cons (inO j)).cons (inO d));have l:=Zu (X:=b::f::X) f b (by simp) (by simp) σ h;revert l;cases sR f b σ with
     |ok a σ'=>exact λh=>VI.tail (VI.tail h)
     |_=>simp[I0]
@[simp] def QU (s:fY):∀n,Vp (sY s n)
 |0=>Vp.pure _
 |n+1=>Vp.bind (QW _) λ_=>Vp.ite (QU s n) (Vp.pure _)
@[simp] def ajE (s:fY):Vp (ww s):=by
 intro X σ h;unfold ww;split
 .trivial
 .split
  .exact Vp.at (Vp.bind ajp λ_=>Vp.pure _) h
  .exact QU s _ X σ h
@[simp] def vh1:Vp wH/\Vp qP/\Vp yg/\Vp wI/\Vp Dq/\Vp vJ/\Vp kY/\Vp tJ/\(∀(rec:Nat->gy->M Unit) (t:gy) (a:Ea rec),Vp (j9 rec t)/\Vp (wJ rec t)/\Vp (sZ rec t)/\Vp (nO rec t))/\(∀(t:gy),Vp (oe t)/\Vp (pw t)/\Vp (vH t))/\(∀(d:List fY) (m:Nat),Vp (qH d m))/\Vp xM/\Vp yf/\Vp wK/\Vp lc/\Vp iT/\(∀(rec:Nat->gy->M Unit) (t:gy) (a:Ea rec),Vp (nQ rec t))/\(∀(t:gy),Vp (vI t)/\Vp (vh t)/\Vp (vi t)/\Vp (nP t)/\Vp (mu t)/\Vp (nF t))/\(∀(t:gy),Vp (qA t)/\Vp (vD t))/\Vp Mo:=by
 (repeat' first|with_reducible intro _|with_reducible apply And.intro)<;>delta wH qP yg wI Dq vJ kY tJ j9 wJ sZ nO oe pw vH qH xM yf wK lc iT nQ vI vh vi nP mu nF qA vD Mo<;>(repeat' first|with_reducible refine Vp.bind ?_ λ_=>?_|with_reducible refine Vp.ite ?_ ?_)<;>first|(simp[*];done)|(refine Vp.fn λX σ h=>?_;(repeat' split)<;>first|exact h|exact trivial|exact h.sml (.VQ rfl rfl rfl rfl)|exact Vp.at (by(repeat' first|with_reducible refine Vp.bind ?_ λ_=>?_|with_reducible refine Vp.ite ?_ ?_)<;>simp[*]) h)
def S0 (d f l a:Nat):Ab:={nodes:=[.el ⟨⟨#[]⟩,[],none,[]⟩],gq:=[],act:=[],head:=none,form:=none,mode:=0,kept:=0,waiting:=[],iL:=false,jJ:=false,gI:=a,behind:=false,nT:=⟨#[]⟩,iU:=false,fresh:=false,qu:=d,rH:=f,pP:=l}
theorem aaR {r : Nat} {d : Nat} {a b : Int} {h W : gm} (j:Kept [r] w h) (l:Rd h r R d (d+1)) (q:Kept [] h W) (g:W.heap[w.heap.size]?=some (gz #[fV 0,fV 0,gu jB] 183)) (p:r≠w.heap.size):
  Kept [r] w (((W.setCell ⟨w.heap.size,0,none⟩ (fV a)).setCell ⟨w.heap.size,1,none⟩ (fV b)).setCell ⟨w.heap.size,2,none⟩ (gu s))/\Rd (((W.setCell ⟨w.heap.size,0,none⟩ (fV a)).setCell ⟨w.heap.size,1,none⟩ (fV b)).setCell ⟨w.heap.size,2,none⟩ (gu s)) r R d (d+1)/\(((W.setCell ⟨w.heap.size,0,none⟩ (fV a)).setCell ⟨w.heap.size,1,none⟩ (fV b)).setCell ⟨w.heap.size,2,none⟩ (gu s)).heap[w.heap.size]?=some (gz #[fV a,fV b,gu s] 183):=by
 have o:Kept [w.heap.size] W (((W.setCell ⟨w.heap.size,0,none⟩ (fV a)).setCell ⟨w.heap.size,1,none⟩ (fV b)).setCell ⟨w.heap.size,2,none⟩ (gu s)):=(((Kept.refl [w.heap.size] W).setCell (.inl (by simp)) _).setCell (.inl (by simp)) _).setCell (.inl (by simp)) _;refine⟨?_,(l.kept q (by simp)).kept o (by grind),fR (fR (fR g 0 _) 1 _) 2 _⟩;exact((((j.trans (q.mono (by simp))).setCell (.inr (gL _)) _).setCell (.inr (gL _)) _).setCell (.inr (gL _)) _)
def Ef (r:Nat) (R:RC) (a ps g A:Nat) (d:Nat->Nat) (w:gm) (h:Rd w r R a ps) (hA:M5 w r R g A d) (F:a < R.cs.size) (hs:R.cs.size<=1024):
  Calls prog 148 #[gE r] w λe w'=>e=ig (.agg #[fV (d a),fV (d (a+1)),gu (R.cs.extract a (a+1))])/\Kept [r] w w'/\Rd w' r R a (a+1):=by
 have b:=h.bg;have p:=h.ps;have fz:=h.free 3;have hr:=iQ h;obtain⟨z,Q⟩:∃z,z=Obj.cells #[fV 0,fV 0,gu jB] 183 (0,0):=⟨_,rfl⟩;obtain⟨l,j⟩:∃l,l=(w.setCell ⟨r,3,none⟩ (fV ((a+1:Nat)))).alloc z:=⟨_,rfl⟩;have K:Kept [r] w l:=by rw[j];exact((Kept.refl [r] w).setCell (.inl (by simp)) _).alloc _
 have N:Rd l r R a (a+1):=by rw[j];exact((Kept.refl [] _).alloc z).at (h.Oa (a+1)) (by simp)
 have T:l.heap[w.heap.size]?=some z:=by rw[j];have:=fP (w.setCell ⟨r,3,none⟩ (fV ((a+1:Nat)))) z;rwa [World.size_setCell]at this
 have C:=fM (λW (U:Kept [] l W)=>qw r R a (a+1) g A d W (N.kept U (by simp)) ((hA.kept K).kept (U.mono (by simp))) (by omega) (by omega) hs);have HA:=fM hA;have H:=fM K;have o:=fM N;have G:=fM T;have HZ:=fM Q;have J:=fM (show(w.setCell ⟨r,3,none⟩ (fV ((a:Int)+1))).alloc (gz #[fV 0,fV 0,gu jB] 183)=l from by rw[j,Q];congr 1);clear h hA K N T j Q;go_enter func148,ntmps148;go_wp21;rw[J.out];have I:=fM (show r≠w.heap.size by omega);clear b p fz hr;refine vR (by rfl) ?_;refine qp (λ(g:Unit) z=>⟨#[gE r,undef,gE w.heap.size,gE r,gE r,gE r,jG r 2,fV a,fV ((a:Int)+1),gE r,jG r 3,cd z 0 (gE r),cd z 1 (.agg #[fV (d a),fV (d (a+1))]),cd z 2 (gE r),cd z 3 (gE r),cd z 4 (gE r),cd z 5 (gu R.cs),cd z 6 (gE r),cd z 7 (gE r),cd z 8 (jG r 2),cd z 9 (fV a),cd z 10 (gE r),cd z 11 (gE r),cd z 12 (jG r 3),cd z 13 (fV ((a:Int)+1)),cd z 14 (gu (R.cs.extract a (a+1))),cd z 15 (.agg #[fV (d a),fV (d (a+1)),gu (R.cs.extract a (a+1))])],[]⟩) (λg z W=>if dn z 16=true then (Kept [r] w W/\Rd W r R a (a+1)/\W.heap[w.heap.size]?=some (gz #[fV (d a),fV (d (a+1)),gu (R.cs.extract a (a+1))] 183))else Kept [] l W) 17 [[],[0],[],[2],[3],[4],[],[6],[7],[8],[],[10],[11],[12],[5,9,13],[1,14],[0,1,2,3,4,5,6,7,8,9,10,11,12,13,14,15]] (()) rfl rfl ((Kept.refl [] l).drew) ?_ ?_
 .repeat' first|exact nu|refine nr ?_ ?_
  all_goals
   rintro g z W D y hn;simp[Dh]at y;refine jY rfl ?_;intro K' x;simp only[lC,y];have F:dn z 16=false:=by simp[y,hn]
   have q:Kept [] l W:=by simpa [F]using D
   have c0:=(o.out.kept q (by simp)).text;have c2:=(o.out.kept q (by simp)).bg;have c3:=(o.out.kept q (by simp)).ps;have V:=fM (C.out W q);have u:=q.at (G.out.trans (si some HZ.out)) (by simp);have q0:W.cell? ⟨w.heap.size,0,none⟩=some (fV 0):=by rw[fN u];rfl
   have q1:W.cell? ⟨w.heap.size,1,none⟩=some (fV 0):=by rw[fN u];rfl
   have q2:W.cell? ⟨w.heap.size,2,none⟩=some (gu jB):=by rw[fN u];rfl
   have z0:=gh u 0;have z1:=gh u 1;have z2:=gh u 2;go_simp
   try (rw[gv (by omega),gv (by omega)];go_simp)
   first
   |refine x _ _ ⟨g,?_,by simpa [pr,F]using q⟩
   |refine V.out.mono ?_;rintro e W2 ⟨rfl,O⟩;refine x _ _ ⟨g,?_,by simpa [pr,F]using q.trans O⟩
   |refine x _ _ ⟨g,?_,(gv sM).mpr (aaR H.out o.out q u I.out)⟩
   simp[pn,wx,lC,y]
 .rintro g W D;simp only[vW];rw[gv yt]at D;have⟨h1,h2,h3⟩:=D;have Y:=fM h1;have Z:=fM h2;have H3:=fM h3;clear h1 h2 h3;rename_i KK B;refine B _ _ ?_;clear B KK;go_wp2;refine ou (v:= .agg #[fV (d a),fV (d (a+1)),gu (R.cs.extract a (a+1))]) ?_ rfl ⟨rfl,Y.out,Z.out⟩;have y:=fN H3.out;simp[results,results148,asAddr,Result.andThen,go_sem,y]
def Ze (r:Nat) (R:RC) (a ps:Nat) (w:gm) (h:Rd w r R a ps) (d:R.nT=⟨#[]⟩):
  Calls prog 80 #[gE r] w λe w'=>e=ig (.bool false)/\Kept [] w w':=by
 have o:=h.nT;rw[d]at o;have j:=iQ h;go_enter func80,ntmps80;go_wp2;go_ret;exact⟨rfl,Kept.refl _ _⟩
theorem SQ (c:jA) (o i:Nat) (a:List gG) (h:o+a.length<=c.size) (hi:i < o\/o+a.length<=i):(jo c o a)[i]?=c[i]?:=by
 rw[<-Yd,kE _ _ _ h,<-Yd];grind
theorem VL (c:jA) (o k:Nat) (a:List gG) (h:o+a.length<=c.size) (d:k < a.length):(jo c o a)[o+k]?=a[k]?:=by
 rw[<-Yd,kE _ _ _ h];grind
def ake:Tryz.zeroCells175[188]?=some (ji):=by kernel_rfl
def akf:Tryz.zeroCells175[189]?=some (ji):=by kernel_rfl
def akg:Tryz.zeroCells175[190]?=some (.pointer none):=by kernel_rfl
def akh:Tryz.zeroCells175[191]?=some (.pointer none):=by kernel_rfl
def aki:Tryz.zeroCells175[192]?=some (fV 0):=by kernel_rfl
def z193:Tryz.zeroCells175[193]?=some (fV 0):=by kernel_rfl
def z194:Tryz.zeroCells175[194]?=some (ji):=by kernel_rfl
def akj:Tryz.zeroCells175[195]?=some (.bool false):=by kernel_rfl
def z196:Tryz.zeroCells175[196]?=some (.bool false):=by kernel_rfl
def akk:Tryz.zeroCells175[197]?=some (fV 0):=by kernel_rfl
def z198:Tryz.zeroCells175[198]?=some (.bool false):=by kernel_rfl
def WW (bs bm a r:Nat) (C:jA) (R:RC) (d ps:Nat) (h:gm):Env:={bm:=bm,bB:=a,bR:=r,C0:=C,R0:=xE R d ps,Gd:=7,w0:=h,tv:=ji,ta:=[],bs:=bs}
def S5 (R:RC) (a ps:Nat) (s:fY) (b:Bool) (h:s=R.nT) (d:b=R.plT):((xE R a ps).setIfInBounds 7 (gu s)).setIfInBounds 8 (.bool b)=xE R a ps:=by
 subst h d;rfl
theorem aaz {d a x : Nat} (h:(S0 d f a x).gV i=some e):e=⟨⟨#[]⟩,[],none,[]⟩:=by
 have:=Ab.jn h
 match i,this with
 |0,this=>
  have j:some (AJ.el ⟨⟨#[]⟩,[],none,[]⟩)=some (.el e):=this;grind
 |i+1,this=>simp[S0]at this
def aiO (d f a x:Nat):Wf (S0 d f a x) where
 gq:=λx j=>by cases j
 act:=λx j=>by cases j
 head:=rfl
 form:=rfl
 je:=λi e h=>by rw[aaz h];rfl
 kids:=λi e h k l=>by rw[aaz h]at l;cases l
 ye:=rfl
def ahZ (bs bm J p r:Nat) (d f a:Nat) (w W:gm) (R:RC) (x:ag4 bm J p d f a (.func (.func 46) #[gE r] #[]) w W) (hR:Rd W r R 0 0) (ho:R.nT=⟨#[]⟩) (hp:R.plT=false) (hd:d<=64) (hf:f<=32) (ha:a<=16) (q:bs<=w.heap.size) (H:bs<=r):
  ∃C K,K 0=p/\RF (WW bs bm J r C R 0 0 W) K (S0 d f a 0) W:=by
 have⟨c6,cs,v1,v2,v3,hb,hc6,hru,N,O,Q⟩:=x.iw;have F:=hru.1;have G:c6.size=199:=by rw[hc6];simp[Cz,sW]
 have D:4+cs.length<=c6.size:=by rw[F,G];decide
 have l:∀i,i < 4\/184<=i->(jo c6 4 cs)[i]?=c6[i]?:=λi hi=>SQ c6 4 i cs D (by omega);have o:∀i,188<=i->(jo c6 4 cs)[i]?=Tryz.zeroCells175[i]?:=λi hi=>by
  rw[l i (.inr (by omega)),hc6];simp only[DZ];rw[gH (by omega),gH (by omega),gH (by omega),yj _ _ _ _ _ _ _ (by omega) (by omega)]
 have a0:p < W.heap.size:=iQ x.ye;refine⟨jo c6 4 cs,λi=>if i=0 then p else W.heap.size+i,rfl,⟨⟨_,λ_=> .slice none 0 0,λ_=> .slice none 0 0,ji,ji,ji⟩,rfl,?_⟩⟩;have low:∀i v,i < 4->c6[i]?=some v->(jo c6 4 cs)[i]?=some v:=λi v hi h=>(l i (.inl hi)).trans h;have V:c6[0]?=some (fV d):=by
  rw[hc6];simp[mX,DZ,sW]
 have Y:c6[1]?=some (fV f):=by
  rw[hc6];simp[mX,DZ,sW]
 have Z:c6[2]?=some (fV a):=by
  rw[hc6];simp[mX,DZ,sW]
 have c3:c6[3]?=some (.func (.func 46) #[gE r] #[]):=by
  rw[hc6];simp[mX,DZ,sW]
 have y:(jo c6 4 cs)[184]?=some v1:=by
  rw[l _ (.inr (by omega)),hc6];simp[mX,DZ,sW]
 have z:(jo c6 4 cs)[185]?=some v2:=by
  rw[l _ (.inr (by omega)),hc6];simp[mX,DZ,sW]
 have A:(jo c6 4 cs)[186]?=some v3:=by
  rw[l _ (.inr (by omega)),hc6];simp[mX,DZ,sW]
 have B:(jo c6 4 cs)[187]?=some (iq p):=by
  rw[l _ (.inr (by omega)),hc6];simp[mX,DZ,sW]
 exact
  {fr:=Fr.refl _
   env:={Ij:=⟨cs,λk hk=>VL c6 4 k cs D (by omega),hru⟩,X1:=low 3 _ (by decide) c3,spec:=⟨v1,y,N⟩,Zd:=⟨v2,z,O⟩,YI:=⟨v3,A,Q⟩,ye:=B}
   Fb:=⟨low 0 _ (by decide) V,low 1 _ (by decide) Y,low 2 _ (by decide) Z,hd,hf,ha⟩
   tX:=λi U hi=>by
    match i,hi with
    |0,hi=>
     have e:U= .el ⟨⟨#[]⟩,[],none,[]⟩:=by
      have:some (AJ.el ⟨⟨#[]⟩,[],none,[]⟩)=some U:=hi;exact(jv this).symm
     subst e;exact⟨⟨x.ye,pk _ _ _ _,iM _,⟨_,_,_,rfl⟩⟩,pk _ _ _ _,iM _⟩
    |i+1,hi=>simp[S0]at hi
   inj:=λi j h=>by
    have h':(if i=0 then p else W.heap.size+i)=(if j=0 then p else W.heap.size+j):=h;by_cases hi:i=0<;>by_cases T:j=0<;>simp only[hi,T,↓reduceIte]at h'|- <;>omega
   BZ:=λi j g hi T a2 u=>by simp[Value.ownBlock]at u
   Hw:=λi hi he=>rfl
   uq:=λi j e g N O Q h4 h5=>by simp[Value.ownBlock]at h5
   FX:=λi hi he=>rfl
   wf:=aiO d f a 0
   iw:=⟨_,hb,{size:=by rw[js];exact G,low:=λi hi=>rfl,gq:=(o 188 (by omega)).trans ake,act:=(o 189 (by omega)).trans akf,head:=(o 190 (by omega)).trans akg,form:=(o 191 (by omega)).trans akh,mode:=(o 192 (by omega)).trans aki,kept:=(o 193 (by omega)).trans z193,wait:=(o 194 (by omega)).trans z194,Kg:=(o 195 (by omega)).trans akj,jJ:=(o 196 (by omega)).trans z196,gI:=(o 197 (by omega)).trans akk,behind:=(o 198 (by omega)).trans z198}⟩
   pR:=pk _ _ _ _
   qB:=pk _ _ _ _
   H9:=λg u=>by simp[Value.ownBlock]at u
   x7:=iM _
   F0:=iM _
   pI:=pk _ _ _ _
   M1:=iM _
   rd:=by
    show W.heap[r]?=some (.cells (((xE R 0 0).setIfInBounds 7 (gu jB)).setIfInBounds 8 (.bool false)) _ _);rw[S5 R 0 0 _ _ ho.symm hp.symm];exact hR
   Tk:=by show 7+1 < 9;decide
   tok:=pk _ _ _ _
   MY:=iM _
   bz:=jH q x.k.size
   bB:=jH q x.new
   bR:=H
   bN:=λi hi=>by
    have a1:i < 1:=hi;have:i=0:=by omega
    subst this;exact jH q x.aj7
   BU:=λh=>by simp[S0]at h
   ab:=λi g hi u=>by simp[Value.ownBlock]at u
   tb:=λg u=>by
    have I:(ji).ownBlock=some g:=u;simp[Value.ownBlock]at I
   M0:=λv hv=>by cases hv}
def QG.move {E : Env} {d : Nat} (h:QG E d) (o:Fr E.bs E.w0 w) (u:xk E.bm w w') (q:∀(b:Nat) (l:Array MapEntry) (j:Nat),w.heap[b]?=some (Obj.map l j)->w'.heap[b]?=some (Obj.map l j)):QG {E with w0:=w'} d:=by
 have a:xk E.bm E.w0 w':=(o.n E.bm).trans u;have p:∀{R:Option (List (List fY×Ru))} {v:gG},sn E.bm E.bB d R v E.w0->sn E.bm E.bB d R v w':=by
  intro R v h;cases R with
  |none=>exact h
  |some R=>
   have⟨b,hb⟩:=h;have⟨l,j,hat⟩:=hb.at;have e1:=(o.calm (.inl hb.at)).trans hat;exact⟨b,hb.fr a ((q b l j e1).trans hat.symm)⟩
 have⟨cs,h1,h2,h3⟩:=h.Ij;have⟨v1,a1,b1⟩:=h.spec;have⟨v2,a2,b2⟩:=h.Zd;have⟨v3,a3,b3⟩:=h.YI;exact⟨⟨cs,h1,h2,λm sp x=>by
  have⟨v0,v1,v2,v3,v4,v5,v6,v7,v8,v9,e,hi⟩:=h3 m sp x;exact⟨v0,v1,v2,v3,v4,v5,v6,v7,v8,v9,e,⟨hi.blank.fr a,hi.kg.fr a,hi.gM.fr a,hi.iE.fr a,hi.ie.fr a,p hi.start,p hi.stop,hi.jP.fr a,hi.j8.fr a,hi.ik.fr a⟩⟩⟩,h.X1,⟨v1,a1,b1.fr a⟩,⟨v2,a2,b2.fr a⟩,⟨v3,a3,b3.fr a⟩,h.ye⟩
structure Lk (w:gm) (b:Nat) (look:fY->Option fY):Prop where
 lt:b < w.heap.size
 short:∀key t,look key=some t->t.size<=16
 run:∀(key:fY) (w':gm),w'.heap[b]?=w.heap[b]?->(Instr.lookup 155 (.map (some b)) (gu key) true).run prog w'= .ok (.tuple #[.agg #[gu ((look key).getD ⟨#[]⟩)],.bool (look key).isSome]) w'
def Lk.kept (h:Lk w b look) (j:Kept S w w') (l:b∉S):Lk w' b look:=
 ⟨lU h.lt j.size,h.short,λa d e=>h.run a d (e.trans (j.block b h.lt l))⟩
open Go.ChangeMaps (setBlock)
def Sh (e:MapEntry):gG×gG:=(e.key,e.val)
def kv (p:fY×fY):gG×gG:=(gu p.1,.agg #[gu p.2])
structure Mp (w:gm) (b:Nat) (L:la) (es:Array MapEntry) (clock:Nat):Prop where
 at_:w.heap[b]?=some (.map es clock)
 kvs:es.toList.map Sh=L.map kv
 nod:(es.toList.map (·.born)).Nodup
 old:∀x∈es.toList,x.born < clock
def Mp.kept {a:Array MapEntry} (h:Mp w b L a clock) (j:Kept S w w') (d:b∉S):Mp w' b L a clock:=⟨j.at h.at_ d,h.kvs,h.nod,h.old⟩
def O5 (k:fY):∀(a:List MapEntry) (L:la) (i:Nat),a.map Sh=L.map kv->L.all (λp=>!(k==p.1))=true->Instr.findNow .string (gu k) a i=some none
 |[],_,_,_,_=>rfl
 |e::a,[],_,h,_=>by simp at h
 |e::a,p::L,i,h,hn=>by
  simp only[yH,Ub]at h;simp only[List.all_cons,pW]at hn;have j:e.key=gu p.1:=si Prod.fst h.1;have d:(k==p.1)=false:=by simpa using hn.1
  unfold Instr.findNow;simp only[j,Instr.sameNow,d];exact O5 k a L (i+1) h.2 hn.2
theorem RD (k:fY):∀(a:List MapEntry) (L:la) (i:Nat) (p:fY×fY),a.map Sh=L.map kv->L.find? (λp=>k==p.1)=some p->∃j,Instr.findNow .string (gu k) a i=some (some (j,.agg #[gu p.2]))
 |[],[],_,_,_,h=>by simp at h
 |[],_::_,_,_,h,_=>by simp at h
 |e::a,[],_,_,h,_=>by simp at h
 |e::a,q::L,i,p,h,hp=>by
  simp only[yH,Ub]at h;have d:e.key=gu q.1:=si Prod.fst h.1;have l:e.val= .agg #[gu q.2]:=si Prod.snd h.1;unfold Instr.findNow;cases hf:(k==q.1)
  .simp only[d,Instr.sameNow,hf];rw[List.find?_cons,hf]at hp;exact RD k a L (i+1) p h.2 hp
  .simp only[d,Instr.sameNow,hf];simp_all
theorem Cx {a : gm} (h:Kept S a w) (l:b∈S\/a.heap.size<=b) (o:Obj):Kept S a (setBlock w b o):=
 ⟨h.os,h.tape,h.output,by show a.heap.size<=(w.heap.setIfInBounds b o).size;rw[Uc];exact h.size,λk d j=>by
  show(w.heap.setIfInBounds b o)[k]?=_;rw[FQ (by grind)];exact h.block k d j⟩
theorem Ik (h:b < w.heap.size) (o:Obj):(setBlock w b o).heap[b]?=some o:=by
 show(w.heap.setIfInBounds b o)[b]?=_;grind
theorem sU {j:Array MapEntry} (h:Mp w b L j clock) (k t:fY) (A:L.all (λp=>!(k==p.1))=true):
  ∃w' l a,(Instr.mapUpdate 155 (.map (some b)) (gu k) (.agg #[gu t])).run prog w= .ok () w'/\Mp w' b (L++[(k,t)]) l a/\Kept [b] w w'/\w'.heap.size=w.heap.size:=by
 have hl:=iQ h.at_;refine⟨setBlock w b (.map (j.push {key:=gu k,val:= .agg #[gu t],born:=clock}) (clock+1)),_,_,?_,⟨Ik hl _,?_,?_,?_⟩,Cx (Kept.refl _ _) (.inl (by simp)) _,?_⟩
 .have u:=O5 k j.toList L 0 h.kvs A;have o:(underlying 9).run prog w= .ok .string w:=qq underlying9 _;have q:(Instr.checkKey false 10000 9 (gu k)).run prog w= .ok () w:=by
   unfold Instr.checkKey;simp[o]
  simp[Instr.mapUpdate,qq underlying155,LR h.at_,q,Instr.findKey,o,u,setObj,Sem.run,h.at_,setBlock,Result.andThen]
 .simp[h.kvs,Sh,kv]
 .simp only[Array.toList_push,se,yH,List.map_nil];rw[List.nodup_append];refine⟨h.nod,by simp,?_⟩;intro x d y C e;obtain⟨z,B,rfl⟩:=List.mem_map.1 d;have:=h.old z B;grind
 .intro x d;simp only[Array.toList_push,List.mem_append,List.mem_singleton]at d;rcases d with d|rfl
  .have:=h.old x d;omega
  simp
 .show(w.heap.setIfInBounds b _).size=_;simp
def qm (L:la) (k:fY):Option fY:=(L.find? (λp=>k==p.1)).map (·.2)
def QC (w:gm):(zeroValue 202).run prog w= .ok (.agg #[gu jB]) w:=by
 simp
theorem Mp.lk {a:Array MapEntry} (h:Mp w b L a clock) (A:L.all (λp=>decide (p.2.size<=16))=true):Lk w b (qm L) where
 lt:=iQ h.at_
 short k t ht:=by
  unfold qm at ht;obtain⟨p,u,rfl⟩:=Option.map_eq_some_iff.1 ht;grind
 run k w' e:=by
  have o:w'.heap[b]?=some (.map a clock):=e.trans h.at_;have y:(underlying 9).run prog w'= .ok .string w':=qq underlying9 _;have q:∀x,(Instr.checkKey x 10000 9 (gu k)).run prog w'= .ok () w':=λx=>by
   unfold Instr.checkKey;simp
  cases hf:L.find? (λp=>k==p.1)with
  |none=>
   have z:L.all (λp=>!(k==p.1))=true:=by
    rw[LV];intro p u;have:=List.find?_eq_none.1 hf p u
    simpa using this
   have d:=O5 k a.toList L 0 h.kvs z;have l:qm L k=none:=by unfold qm;rw[hf];rfl
   rw[l];simp[Instr.lookup,qq underlying155,LR o,q,Instr.findKey,y,d,QC,Result.andThen]
  |some p=>
   have⟨j,d⟩:=RD k a.toList L 0 p h.kvs hf;have l:qm L k=some p.2:=by unfold qm;rw[hf];rfl
   rw[l];simp[Instr.lookup,qq underlying155,LR o,q,Instr.findKey,y,d,Result.andThen]
open Go.ChangeMaps (setBlock)
def kv0:la:=[(⟨#[97,112,111,115,59]⟩,tV),(nA,⟨#[226,132,151]⟩),(ox,⟨#[226,136,137]⟩),(oy,⟨#[226,136,140]⟩),(nw,qe),(⟨#[112,97,114,59]⟩,⟨#[226,136,165]⟩),(ny,⟨#[226,138,160]⟩),(⟨#[98,110,101,59]⟩,⟨#[61,226,131,165]⟩),(⟨#[84,97,98,59]⟩,⟨#[9]⟩),(mh,yo)]
def agI:la:=[(⟨#[65,77,80]⟩,uK),(⟨#[97,109,112]⟩,uK),(⟨#[108,116]⟩,qJ),(⟨#[103,116]⟩,iO),(⟨#[113,117,111,116]⟩,nZ),(⟨#[110,98,115,112]⟩,tG),(⟨#[99,111,112,121]⟩,⟨#[194,169]⟩),(⟨#[110,111,116]⟩,⟨#[194,172]⟩),(⟨#[112,97,114,97]⟩,⟨#[194,182]⟩),(qd,⟨#[195,151]⟩)]
def kvj (j:Nat):la:=kv0++(agI.take j).flatMap λp=>[(p.1,p.2),(p.1++⟨#[59]⟩,p.2)]
def AE (j:Nat):fY×fY:=agI.getD j (⟨#[]⟩,⟨#[]⟩)
def xH:jA:=#[gu ⟨#[65,77,80]⟩,gu uK,gu ⟨#[97,109,112]⟩,gu uK,gu ⟨#[108,116]⟩,gu qJ,gu ⟨#[103,116]⟩,gu iO,gu ⟨#[113,117,111,116]⟩,gu nZ,gu ⟨#[110,98,115,112]⟩,gu tG,gu ⟨#[99,111,112,121]⟩,gu ⟨#[194,169]⟩,gu ⟨#[110,111,116]⟩,gu ⟨#[194,172]⟩,gu ⟨#[112,97,114,97]⟩,gu ⟨#[194,182]⟩,gu qd,gu ⟨#[195,151]⟩]
def afz:Bool:=(List.range 10).all λj=>(kvj j).all (λp=>!((AE j).1==p.1))&&(kvj j++[AE j]).all (λp=>!(((AE j).1++⟨#[59]⟩)==p.1))&&decide ((AE j).1.size<=8)
def acV:afz=true:=rfl
theorem afy {j : Nat} (h:j < 10):(kvj j).all (λp=>!((AE j).1==p.1))=true/\(kvj j++[AE j]).all (λp=>!(((AE j).1++⟨#[59]⟩)==p.1))=true/\(AE j).1.size<=8:=by
 have:=List.all_eq_true.1 acV j (List.mem_range.2 h);grind
def ZQ {j : Nat} (h:j < 10):xH[j*2]?=some (gu (AE j).1)/\xH[j*2+1]?=some (gu (AE j).2):=by
 rcases(by omega:j=0\/j=1\/j=2\/j=3\/j=4\/j=5\/j=6\/j=7\/j=8\/j=9)with rfl|rfl|rfl|rfl|rfl|rfl|rfl|rfl|rfl|rfl<;>exact⟨rfl,rfl⟩
def ab6 {j : Nat} (h:j < 10):kvj (j+1)=kvj j++[AE j]++[((AE j).1++⟨#[59]⟩,(AE j).2)]:=by
 rcases(by omega:j=0\/j=1\/j=2\/j=3\/j=4\/j=5\/j=6\/j=7\/j=8\/j=9)with rfl|rfl|rfl|rfl|rfl|rfl|rfl|rfl|rfl|rfl<;>rfl
def KV:la:=kvj 10
def QI:KV.all (λp=>decide (p.2.size<=16))=true:=by rfl
def adN:KV.all (λp=>decide (p.1.size<=8))=true:=by rfl
def aaw:KV.any (λp=>decide (p.1.size=8))=true:=by rfl
def af4 (d:gm) (b:Nat) (A:Mp d b [] #[] 0):∃h j l o p q u x y a:gm,(Instr.mapUpdate 155 (.map (some b)) (gu ⟨#[97,112,111,115,59]⟩) (.agg #[gu tV])).run prog d= .ok () h/\(Instr.mapUpdate 155 (.map (some b)) (gu nA) (.agg #[gu ⟨#[226,132,151]⟩])).run prog h= .ok () j/\(Instr.mapUpdate 155 (.map (some b)) (gu ox) (.agg #[gu ⟨#[226,136,137]⟩])).run prog j= .ok () l/\(Instr.mapUpdate 155 (.map (some b)) (gu oy) (.agg #[gu ⟨#[226,136,140]⟩])).run prog l= .ok () o/\(Instr.mapUpdate 155 (.map (some b)) (gu nw) (.agg #[gu qe])).run prog o= .ok () p/\(Instr.mapUpdate 155 (.map (some b)) (gu ⟨#[112,97,114,59]⟩) (.agg #[gu ⟨#[226,136,165]⟩])).run prog p= .ok () q/\(Instr.mapUpdate 155 (.map (some b)) (gu ny) (.agg #[gu ⟨#[226,138,160]⟩])).run prog q= .ok () u/\(Instr.mapUpdate 155 (.map (some b)) (gu ⟨#[98,110,101,59]⟩) (.agg #[gu ⟨#[61,226,131,165]⟩])).run prog u= .ok () x/\(Instr.mapUpdate 155 (.map (some b)) (gu ⟨#[84,97,98,59]⟩) (.agg #[gu ⟨#[9]⟩])).run prog x= .ok () y/\(Instr.mapUpdate 155 (.map (some b)) (gu mh) (.agg #[gu yo])).run prog y= .ok () a/\(∃z clock,Mp a b kv0 z clock)/\Kept [b] d a/\a.heap.size=d.heap.size:=by
 have⟨h,es1,c1,r1,m1,k1,z1⟩:=sU (w:=d) A ⟨#[97,112,111,115,59]⟩ tV (by rfl);have⟨j,es2,c2,r2,m2,k2,z2⟩:=sU (w:=h) m1 nA ⟨#[226,132,151]⟩ (by rfl);have⟨l,es3,c3,r3,m3,k3,z3⟩:=sU (w:=j) m2 ox ⟨#[226,136,137]⟩ (by rfl);have⟨o,es4,c4,r4,m4,k4,z4⟩:=sU (w:=l) m3 oy ⟨#[226,136,140]⟩ (by rfl);have⟨p,es5,c5,r5,m5,k5,z5⟩:=sU (w:=o) m4 nw qe (by rfl);have⟨q,es6,c6,r6,m6,k6,z6⟩:=sU (w:=p) m5 ⟨#[112,97,114,59]⟩ ⟨#[226,136,165]⟩ (by rfl);have⟨u,es7,c7,r7,m7,k7,z7⟩:=sU (w:=q) m6 ny ⟨#[226,138,160]⟩ (by rfl);have⟨x,es8,c8,r8,m8,k8,z8⟩:=sU (w:=u) m7 ⟨#[98,110,101,59]⟩ ⟨#[61,226,131,165]⟩ rfl;have⟨y,es9,c9,r9,m9,k9,z9⟩:=sU (w:=x) m8 ⟨#[84,97,98,59]⟩ ⟨#[9]⟩ rfl;have⟨a,es10,c10,r10,m10,k10,z10⟩:=sU (w:=y) m9 mh yo rfl;exact⟨h,j,l,o,p,q,u,x,y,a,r1,r2,r3,r4,r5,r6,r7,r8,r9,r10,⟨_,_,m10⟩,(((((((((k1).trans k2).trans k3).trans k4).trans k5).trans k6).trans k7).trans k8).trans k9).trans k10,by omega⟩
def ag2 (w:gm) (a bm j:Nat) (wr:gm):Prop:=
 (∃h d,Mp wr bm (kvj j) h d)/\wr.heap[a]?=some (gz #[.map (some bm),fV 0] 157)/\wr.heap[a+1]?=some (gz xH 203)/\wr.heap[w.heap.size]?=some (gz #[.map none,fV 0] 157)/\Kept [] w wr
def aeQ:gG->Nat
 | .string k=>k.size
 |_=>0
structure ag3 (w:gm) (nb bm it:Nat) (es:Array MapEntry) (ck:Nat) (wr:gm) (seen:Array Nat) (c0 M:Nat):Prop where
 iter:wr.heap[it]?=some (.mapIter (some bm) ck seen c0)
 late:ck<=c0
 mp:Mp wr bm KV es ck
 nam:wr.heap[nb]?=some (gz #[.map (some bm),fV M] 157)
 res:wr.heap[w.heap.size]?=some (gz #[.map none,fV 0] 157)
 le:M<=8
 Uv:∀e∈es.toList,seen.contains e.born=true->aeQ e.key<=M
 kept:Kept [] w wr
 size:it < wr.heap.size
def ahR {a:Array MapEntry} (h:a.toList.map Sh=L.map kv) {e:MapEntry} (d:e∈a.toList):∃p∈L,e.key=gu p.1:=by
 have:Sh e∈L.map kv:=by rw[<-h];exact List.mem_map.2 ⟨e,d,rfl⟩
 have⟨p,hp,e1⟩:=List.mem_map.1 this;exact⟨p,hp,(si Prod.fst e1).symm⟩
def abu {a:Array MapEntry} (h:a.toList.map Sh=L.map kv) {p : fY×fY} (d:p∈L):∃e∈a.toList,e.key=gu p.1:=by
 have:kv p∈a.toList.map Sh:=by rw[h];exact List.mem_map.2 ⟨p,d,rfl⟩
 have⟨e,he,e1⟩:=List.mem_map.1 this;exact⟨e,he,si Prod.fst e1⟩
theorem Te (w:gm):
  Calls prog 58 #[] w λe w'=>∃b,e=ig (.agg #[.map (some b),fV 8])/\w.heap.size<=b/\Lk w' b (qm KV)/\Kept [] w w':=by
 obtain⟨a,A⟩:∃a,a=w.alloc (.cells #[.map none,fV 0] 157):=⟨_,rfl⟩;have za:a.heap.size=w.heap.size+1:=by rw[A];simp
 obtain⟨Y,x⟩:∃Y,Y=a.alloc (.map #[] 0):=⟨_,rfl⟩;have ka:Kept [] w a:=by rw[A];exact(Kept.refl _ _).alloc _
 have kb:Kept [] a Y:=by rw[x];exact(Kept.refl _ _).alloc _
 have hA:a.heap[w.heap.size]?=some (gz #[.map none,fV 0] 157):=by rw[A];exact fP w _
 have a6:Mp Y a.heap.size [] #[] 0:=⟨by rw[x];exact fP a _,rfl,by simp,by simp⟩;have zb:Y.heap.size=a.heap.size+1:=by rw[x];simp
 have⟨w1,w2,w3,w4,w5,w6,w7,w8,w9,w10,r1,r2,r3,r4,r5,r6,r7,r8,r9,r10,⟨es,ck,HM⟩,k10,z10⟩:=af4 Y a.heap.size a6;have a9:(Instr.makeMap 155 none).run prog a= .ok (.map (some a.heap.size)) Y:=by rw[x];rfl
 have a5:=fM A.symm;have ae:=x.symm;have HK:=(show Kept [] w w10 from((ka.trans kb).next k10 (by grind)));have HA:=(show w10.heap[w.heap.size]?=_ from k10.at (kb.at hA (by simp)) (by grind));have Hz:=fM (show w10.heap.size=w.heap.size+2 by omega);have C:=fM za;clear A x ka kb hA a6 zb k10 za z10;go_enter func58,ntmps58;go_wp21;rw[a5.out,a9];clear a9 a5 ae;go_wp2_with fail;obtain⟨W,hW⟩:∃W,W=(w10.alloc (.cells #[.map (some a.heap.size),fV 0] 157)).alloc (.cells xH 203):=⟨_,rfl⟩;have kW:Kept [] w10 W:=by rw[hW];exact((Kept.refl _ _).alloc _).alloc _
 have o:W.heap[w10.heap.size]?=some (gz #[.map (some a.heap.size),fV 0] 157):=by
  rw[hW,Below.heap_alloc _ _ _ (by simp)];exact fP w10 _
 have z:W.heap[w10.heap.size+1]?=some (gz xH 203):=by
  have:=fP (w10.alloc (.cells #[.map (some a.heap.size),fV 0] 157)) (.cells xH 203);rw[hW];simpa using this
 have HS:Hid (ag2 w w10.heap.size a.heap.size 0 W):=⟨⟨es,ck,HM.kept kW (by simp)⟩,o,z,kW.at HA (by simp),HK.trans kW⟩;have ac:xH=#[gu ⟨#[65,77,80]⟩,gu uK,gu ⟨#[97,109,112]⟩,gu uK,gu ⟨#[108,116]⟩,gu qJ,gu ⟨#[103,116]⟩,gu iO,gu ⟨#[113,117,111,116]⟩,gu nZ,gu ⟨#[110,98,115,112]⟩,gu tG,gu ⟨#[99,111,112,121]⟩,gu ⟨#[194,169]⟩,gu ⟨#[110,111,116]⟩,gu ⟨#[194,172]⟩,gu ⟨#[112,97,114,97]⟩,gu ⟨#[194,182]⟩,gu qd,gu ⟨#[195,151]⟩]:=rfl;rw[ac]at hW;rw[<-hW];clear hW kW o z ac HM HK HA r1 r2 r3 r4 r5 r6 r7 r8 r9 r10
 go_loopw [30] (λv wr=>∃j:Nat,v=fV j/\j<=10/\ag2 w w10.heap.size a.heap.size j wr) (λv _=>10 - (intOf v).toNat)
 case atStart=>exact⟨0,rfl,by omega,HS.out⟩
 case round=>
  obtain⟨j,rfl,hj,h1⟩:=hrel;by_cases U:j < 10
  .have⟨⟨es1,ck1,mp1⟩,o,z,hR,hk⟩:=h1;have rc:=ZQ U;have x0:wr.cell? ⟨w10.heap.size+1,j*2,none⟩=some (gu (AE j).1):=by rw[fN z];exact rc.1
   have x1:wr.cell? ⟨w10.heap.size+1,j*2+1,none⟩=some (gu (AE j).2):=by rw[fN z];exact rc.2
   have⟨n1,n2,n3⟩:=afy U;have B:=ab6 U;generalize hn:(AE j).1=nm at *;generalize ht:(AE j).2=tx at *;have aa:AE j=(nm,tx):=by rw[<-hn,<-ht]
   rw[aa]at n2 B;clear hn ht aa;obtain⟨W1,F⟩:∃W1,W1=wr.alloc (.cells #[gu nm,gu tx] 203):=⟨_,rfl⟩;have kk:Kept [] wr W1:=by rw[F];exact(Kept.refl _ _).alloc _
   have hX:W1.heap[wr.heap.size]?=some (gz #[gu nm,gu tx] 203):=by rw[F];exact fP wr _
   have⟨W2,es2,ck2,ru2,mp2,k2,s2⟩:=sU (mp1.kept kk (by simp)) nm tx n1;have⟨W3,es3,ck3,ru3,mp3,k3,s3⟩:=sU mp2 (nm++⟨#[59]⟩) tx n2;have ag:=iQ mp1.at_;have ao:=iQ o;have bN:a.heap.size≠w10.heap.size:=λe=>by rw[<-e,mp1.at_]at o;simp at o
   have bG:a.heap.size≠w10.heap.size+1:=λe=>by rw[<-e,mp1.at_]at z;simp at z
   have I:a.heap.size≠w.heap.size:=λe=>by rw[<-e,mp1.at_]at hR;simp at hR
   have N:=kk.at o (by simp);have O:=k2.at N (by grind);have Q:=k2.at hX (by simp;omega);have a0:=fN o 0;have a1:=fN N 0;have a2:=fN O 0;have y0:=fN hX 0;have y1:=fN hX 1;have z0:=fN Q 0;have z1:=fN Q 1;dsimp at a0 a1 a2 y0 y1 z0 z1;have HE:Hid (ag2 w w10.heap.size a.heap.size (j+1) W3):=by
    refine⟨⟨es3,ck3,by rw[B];exact mp3⟩,k3.at O (by grind),k3.at (k2.at (kk.at z (by simp)) (by grind)) (by grind),k3.at (k2.at (kk.at hR (by simp)) (by grind)) (by grind),?_⟩;have ar:=C.out;exact((hk.trans kk).next k2 (by simp;omega)).next k3 (by simp;omega)
   rw[F]at ru2;clear a1 y0 y1 mp1 o z hR hk rc n1 n2 B kk hX mp2 k2 s2 mp3 k3 s3 N O Q bN bG I ag;clear F;go_wp2;go_roundw
   case rel=>exact⟨j+1,by go_num,by omega,HE.out⟩
   case measure=>simp[intOf];omega
  .have af:j=10:=by omega
   subst af;have⟨⟨es1,ck1,mp1⟩,o,z,hR,hk⟩:=h1;have a0:=fN o 0;dsimp at a0;have ai:=run_range_map (P:=prog) wr 155 9 202 a.heap.size es1 ck1 underlying155 mp1.at_;have ki:Kept [] wr (wr.alloc (.mapIter (some a.heap.size) ck1 #[] ck1)):=(Kept.refl _ _).alloc _;have a4:Hid (ag3 w w10.heap.size a.heap.size wr.heap.size es1 ck1 (wr.alloc (.mapIter (some a.heap.size) ck1 #[] ck1)) #[] ck1 0):=
    ⟨fP wr _,gL _,mp1.kept ki (by simp),ki.at o (by simp),ki.at hR (by simp),by omega,by simp,hk.trans ki,by simp⟩
   have K:w10.heap.size≠wr.heap.size:=by have:=iQ o;omega
   have I:w.heap.size≠wr.heap.size:=by have:=iQ hR;omega
   have Z:a.heap.size≠wr.heap.size:=by have:=iQ mp1.at_;omega
   have u:w.heap.size≠w10.heap.size:=by have:=Hz.out;omega
   have q:w10.heap.size≠a.heap.size:=by have:=Hz.out;have:=C.out;omega
   have a3:=(show w.heap.size<=wr.heap.size from hk.size);have Hb:=And.intro K (And.intro I (And.intro Z (And.intro u q)));clear mp1 o z hR hk ki K I Z u q;go_wp21;clear ai a0;obtain⟨y,a8⟩:∃y,y=wr.heap.size:=⟨_,rfl⟩;rw[<-a8]at a4 Hb a3|-;clear a8
   go_loopw [] (λwq=>∃d c0 M,ag3 w w10.heap.size a.heap.size y es1 ck1 wq d c0 M) (λwq=>(leftOf es1 (wq.iterSeen y)).size)
   case atStart=>exact⟨_,_,_,a4.out⟩
   case round=>
    have⟨d,c0,M,h2⟩:=hrel;have⟨K,I,Z,u,q⟩:=Hb;have V:wr.iterSeen y=d:=by unfold World.iterSeen;rw[h2.iter]
    rcases run_next_at (P:=prog) wr 0 y a.heap.size ck1 c0 d es1 ck1 h2.iter h2.mp.at_ h2.mp.old h2.late with⟨h0,J⟩|⟨D,T,wv,aj,J⟩
    .have hM:M=8:=by
      have h8:=aaw;rw[List.any_eq_true]at h8;have⟨p,hp,ab⟩:=h8;have⟨e,he,hk⟩:=abu h2.mp.kvs hp;have h9:=h2.Uv e he (all_seen es1 d h0 e he);rw[hk]at h9;have al:p.1.size=8:=by simpa using ab
      have an:p.1.size<=M:=h9;have:=h2.le;omega
     subst hM;have n0:=fN h2.nam 0;have n1:=fN h2.nam 1;have d0:=fN h2.res 0;have d1:=fN h2.res 1;have f0:=gh h2.res 0;have f1:=gh h2.res 1;dsimp at n0 n1 d0 d1;have HK:Kept [] w ((wr.setCell ⟨w.heap.size,0,none⟩ (.map (some a.heap.size))).setCell ⟨w.heap.size,1,none⟩ (fV 8)):=(h2.kept.setCell (.inr (gL _)) _).setCell (.inr (gL _)) _;have kr:Kept [w.heap.size] wr ((wr.setCell ⟨w.heap.size,0,none⟩ (.map (some a.heap.size))).setCell ⟨w.heap.size,1,none⟩ (fV 8)):=((Kept.refl _ _).setCell (.inl (by simp)) _).setCell (.inl (by simp)) _;have HL:=((h2.mp.kept kr (by simp;have:=C.out;omega)).lk QI);have ah:w.heap.size<=a.heap.size:=by have:=C.out;omega
     clear h2 V h0 kr K I Z u q;go_wp2;refine ou (v:= .agg #[.map (some a.heap.size),fV 8]) ?_ rfl ⟨_,rfl,ah,HL,HK⟩;simp[results,results58,asAddr,Result.andThen,go_sem,d0,d1]
    .have⟨he1,he2⟩:=mem_left T;have⟨p,hp,hkey⟩:=ahR h2.mp.kvs he1;have ab:p.1.size<=8:=by
      have:=List.all_eq_true.1 adN p hp
      simpa using this
     have ak:=left_shrinks es1 d D T;obtain⟨H,G⟩:∃H,H=setBlock wv y (.mapIter (some a.heap.size) ck1 (d.push D.born) ck1):=⟨_,rfl⟩;rw[<-G,hkey]at J;have l:Kept [] wr wv:=by rcases aj with rfl|rfl;exact Kept.refl _ _;exact(Kept.refl _ _).drew
     have kz:Kept [y] wv H:=by rw[G];exact Cx (Kept.refl _ _) (.inl (by simp)) _
     have iz:H.heap[y]?=some (.mapIter (some a.heap.size) ck1 (d.push D.born) ck1):=by rw[G];exact Ik (lU h2.size l.size) _
     have mz:=(h2.mp.kept l (by simp)).kept kz (by simpa using Z);have nz:=kz.at (l.at h2.nam (by simp)) (by simpa using K);have rz:=kz.at (l.at h2.res (by simp)) (by simpa using I);have a7:=run_entry_at (P:=prog) H y a.heap.size ck1 d es1 ck1 D iz mz.at_ he1 mz.nod;rw[hkey]at a7;have n1:=fN nz 1;have f1:=gh nz 1;dsimp at n1;have ap:max (M:Int) (p.1.size:Int)=((max M p.1.size:Nat):Int):=by omega
     have B:Kept [w10.heap.size] H (H.setCell ⟨w10.heap.size,1,none⟩ (fV ((max M p.1.size:Nat)))):=(Kept.refl _ _).setCell (.inl (by simp)) _;have ad:=fR nz 1 (fV ((max M p.1.size:Nat)));have HE:Hid (ag3 w w10.heap.size a.heap.size y es1 ck1 (H.setCell ⟨w10.heap.size,1,none⟩ (fV ((max M p.1.size:Nat)))) (d.push D.born) ck1 (max M p.1.size)):=by
      refine⟨B.at iz (by simpa using λe=>K e.symm),gL _,mz.kept B (by simpa using λe=>q e.symm),ad,B.at rz (by simpa using u),by have:=h2.le;omega,?_,?_,?_⟩
      .intro e he hc;rw[contains_push]at hc;rcases Bool.or_eq_true_iff.1 hc with h|h
       .have:=h2.Uv e he h;omega
       .have e1:e.born=D.born:=by simpa using h
        have e2:e=D:=by
         have q1:=find_born e es1.toList h2.mp.nod he;have q2:=find_born D es1.toList h2.mp.nod he1;rw[e1,q2]at q1;exact(jv q1).symm
        rw[e2,hkey];show p.1.size<=_;omega
      .have au:=Hz.out;have av:=iQ h2.res;exact((h2.kept.trans l).next kz (by simp;exact a3)).next B (by simp;omega)
      .exact lU h2.size (jH l.size (jH kz.size B.size))
     have aq:(H.setCell ⟨w10.heap.size,1,none⟩ (fV ((max M p.1.size:Nat)))).iterSeen y=d.push D.born:=by unfold World.iterSeen;rw[HE.out.iter]
     clear h2 mz nz rz iz l kz B ad G he1 he2 T hp hkey K I Z u q;generalize p.1=aw at *;go_wp2;go_roundw
     case rel=>exact⟨_,_,_,HE.out⟩
     simp_all
def vL (s:fY) (i:Nat):Bool:=!(decide (bt s i=10)&&decide (0 < i)&&decide (bt s (i - 1)=13))
def gx (s:fY) (n:Nat):List Nat:=(List.range n).filter (vL s)
def UA (s:fY) (k:Nat):Int:=if bt s k=13 then 10 else bt s k
def chB (s:fY) (k:Nat):UInt8:=(UA s k).toNat.toUInt8
def uC (s:fY):fY:=⟨((gx s s.size).map (chB s)).toArray⟩
def BO (h:vL s n=true):gx s (n+1)=gx s n++[n]:=by unfold gx;rw[List.range_succ,List.filter_append];simp[h]
def OJ (h:vL s n=false):gx s (n+1)=gx s n:=by unfold gx;rw[List.range_succ,List.filter_append];simp[h]
theorem I7 (s:fY) (n:Nat):(gx s n).length<=n:=by
 grind[gx]
def uO (s:fY):(uC s).size=(gx s s.size).length:=by show(((gx s s.size).map (chB s)).toArray).size=_;simp
theorem YM (s:fY) (k:Nat):0<=UA s k/\UA s k<=255:=by
 have a:=bt_nonneg s k;have d:=bt_le s k;grind[UA]
def Nb (s:fY) (k:Nat):((chB s k).toNat:Int)=UA s k:=by
 have:=YM s k;unfold chB;simp;omega
def vU (s:fY) (n:Nat):List gG:=(gx s n).map λk=> .int .u8 (UA s k)
def qK (s:fY) (n:Nat):List gG:=(gx s n).map λk:Nat=> fV k
theorem nI {l o : Nat} {e1 e2 : TypeId} {B C : Nat} {v1 v2 : gG} {z A : Nat} {D F : List gG} (p:w.ownsRow l e1 B v1 z D) (q:w.ownsRow o e2 C v2 A F) (y:e1≠e2) (k:Nat) (d:v1.ownBlock=some k):v2.ownBlock≠some k:=by
 intro a;rcases p.2 with⟨h,_⟩|⟨I,G,K,h,_,u,_⟩
 .rw[h]at d;cases d
 rcases q.2 with⟨j,_⟩|⟨J,H,N,j,_,x,_⟩
 .rw[j]at a;cases a
 rw[h]at d;rw[j]at a;obtain rfl:=jv d;obtain rfl:=jv a;grind
def abT:(prog.info? 3).map (λi=>(i.zero,i.size,i.bytes))=some (some (fV 0),1,8):=by kernel_rfl
theorem Ln {base : Nat} {v : gG} {l:List UInt8} (o:w.ownsRow base 5 1 v n (l.map λb=> .int .u8 (b.toNat:Int))) (A:l.length=n) (q:∀k,v.ownBlock=some k->w'.heap[k]?=w.heap[k]?):
  (convert 55 9 v).run prog w'= .ok (gu ⟨l.toArray⟩) w':=by
 rcases o.2 with⟨rfl,u⟩|⟨g,d,p,rfl,x,y,B⟩
 .have:l=[]:=QB (by omega);subst this;have:=run_convert_bytes_nil (P:=prog) (w:=w') 55 5 underlying55 underlying5 0 0;exact this 9 underlying9
 .have h:=aiu (P:=prog) w' 55 9 5 ⟨g,0,none⟩ d l underlying55 underlying5 underlying9 (λj z=>by
   rw[adv (w:=w) (a:=(⟨g,0,none⟩:Addr).add j) (by rw[jj];exact q g rfl)];exact o.cells (g:=g) rfl j _ (by grind))
  grind
structure Ul (s:fY) (w:gm) (k:Nat) (vb va:gG) (wr:gm):Prop where
 b:wr.ownsRow w.heap.size 5 1 vb (gx s k).length (vU s k)
 a:wr.ownsRow w.heap.size 3 1 va (gx s k).length (qK s k)
 kept:Kept [] w wr
theorem abD (s:fY) (tv:gG) (base:Nat) (w:gm) (ho:w.ownsRow base 5 1 tv s.size (kR s)) (hs:s.size<=1024):
  Calls prog 59 #[tv] w λe w'=>∃av,e=ig (.tuple #[gu (uC s),av])/\w'.ownsRow w.heap.size 3 1 av ((gx s s.size).length+1) (qK s s.size++[fV s.size])/\Kept [] w w':=by
 have⟨iu,hiu,hu0,hu1,hu2⟩:=uH Pf;obtain⟨ii,a3,a0,a1,a2⟩:=uH abT;have⟨ao,cp,htv⟩:=gw ho;subst htv;have HC:∀(wr:gm),Kept [] w wr->∀j,j < s.size->∃g,ao=some ⟨g,0,none⟩/\wr.cell? ⟨g,j,none⟩=some (.int .u8 (bt s j)):=by
  intro wr hk j l;rcases ho.2 with⟨h,h0⟩|⟨g,an,aD,h,_,hc,_⟩
  .omega
  .have a6:ao=some ⟨g,0,none⟩:=by simpa using si (λv=>match v with| .slice a _ _=>a|_=>none) h
   refine⟨g,a6,?_⟩;rw[hk.cell (p:=⟨g,j,none⟩) (iQ hc) (by simp)];have h1:=ho.cells (g:=g) (by rw[h];rfl) j (.int .u8 (bt s j)) (by
    unfold kR;rw[List.getElem?_map,qs (by simp_all)];simp only[Option.map_some];rw[show((s.data.toList[j]'(by simp_all)).toNat:Int)=bt s j from by unfold bt;rw[Qz l];rfl])
   rwa [jj]at h1
 have H0:Hid (Ul s w 0 (ji) (ji) w):=⟨pk _ _ _ _,pk _ _ _ _,Kept.refl _ _⟩;clear ho;go_enter func59,ntmps59;go_wp21
 go_loopw [4,5,10] (λvb va v wr=>∃k:Nat,v=fV k/\k<=s.size/\Ul s w k vb va wr) (λ_ _ v _=>s.size - (intOf v).toNat)
 case atStart=>exact⟨0,rfl,iM _,H0⟩
 case round=>
  obtain⟨k,rfl,hk,W⟩:=hrel;by_cases aA:k < s.size
  .have⟨g,a6,c1⟩:=HC wr W.kept k aA;subst a6;have q:=W;have⟨bo,bc,hvb⟩:=gw W.b;have⟨ax,ac,hva⟩:=gw W.a;subst hvb hva;have h0:=bt_nonneg s k;have h1:=bt_le s k;have aq:=I7 s k;by_cases N:bt s k=10
   .by_cases ay:k=0
    .subst ay;have I:vL s 0=true:=by unfold vL;simp
     have C:UA s 0=10:=by unfold UA;rw[N];rfl
     rw[N]at c1;have hy:=BO I;have Z:=fM hy;have Q:=fM C;clear hy C;go_wp2_with (at_builtin;refine ij _ rfl _ _ 55 rfl w.heap.size 5 iu (.int .u8 0) 1 1 underlying55 hiu hu0 hu1 hu2 rfl (by decide) _ _ _ rfl (q.b.alloc _) ⟨wr.heap.size,0,none⟩ 1 1 [.int .u8 10] rfl ?c1 ?J ?c3 ?c4 ?c5 ?c6 ?_)
     case c1=>rfl
     case J=>
      intro j u l
      match j,l with
      |0,l=>simp at l;subst l;simp[Addr.add]
     case c3=>intro u z;simp at z;subst z;rfl
     case c4=>unfold maxLen;omega
     case c5=>omega
     case c6=>have:=q.kept.size;simp;omega
     intro aa H y D a7;have⟨bo',bc',hvb⟩:=gw y;subst hvb;have A:Kept [] w H:=(q.kept.alloc _).grown D (λx d=> .inr (q.b.lt x d).1);have o:H.ownsRow w.heap.size 3 1 (.slice ax (gx s 0).length ac) (gx s 0).length (qK s 0):=by
      have T:Kept (Value.slice bo (gx s 0).length bc).ownBlock.toList (wr.alloc (.cells #[.int .u8 10] 5)) H:=(Kept.refl _ _).grown D (λx d=> .inl (by simp[d]));exact T.ownsRow (q.a.alloc _) (λx d=>by simp;exact λU=>nI q.b q.a (by decide) x U d)
     have B:=fM y;clear y;go_wp2_with (at_builtin;refine ij _ rfl _ _ 37 rfl w.heap.size 3 ii (fV 0) 1 8 underlying37 a3 a0 a1 a2 rfl (by decide) _ _ _ rfl (o.alloc _) ⟨H.heap.size,0,none⟩ 1 1 [fV ((0:Nat))] rfl ?c1 ?J ?c3 ?c4 ?c5 ?c6 ?_)
     case c1=>rfl
     case J=>
      intro j u l
      match j,l with
      |0,l=>simp at l;subst l;simp[Addr.add]
     case c3=>intro u z;simp at z;subst z;rfl
     case c4=>unfold maxLen;omega
     case c5=>omega
     case c6=>have:=A.size;simp;omega
     intro a9 w3 G F a8;have⟨ao',ac',hva⟩:=gw G;subst hva;have HE:Hid (Ul s w (0+1) (.slice bo' ((gx s 0).length+1) bc') (.slice ao' ((gx s 0).length+1) ac') w3):=by
      have T:Kept (Value.slice ax (gx s 0).length ac).ownBlock.toList (H.alloc (.cells #[fV ((0:Nat))] 3)) w3:=(Kept.refl _ _).grown F (λx d=> .inl (by simp[d]));refine⟨?_,?_,(A.alloc _).grown F (λx d=> .inr (o.lt x d).1)⟩
      .unfold vU;rw[Z.out,se,oj];have:=T.ownsRow (B.alloc _) (λx d=>by simp;exact λU=>nI o B (by decide) x U d)
       simpa [vU,Q.out]using this
      .unfold qK;rw[Z.out,se,oj]
       simpa [qK]using G
     generalize (gx s 0).length=a5 at *;go_wp2;go_roundw
     case rel=>exact⟨0+1,by go_num,by omega,HE⟩
     case measure=>simp[intOf];omega
    .have J:wr.cell? ⟨g,k - 1,none⟩=some (.int .u8 (bt s (k - 1))):=by
      have⟨g',K,J⟩:=HC wr q.kept (k - 1) (by omega);obtain rfl:g=g':=by simpa using K
      exact J
     obtain⟨m,rfl⟩:∃m,k=m+1:=⟨k - 1,by omega⟩;simp only[Wt]at J;by_cases O:bt s m=13
     .have I:vL s (m+1)=false:=by unfold vL;simp[N,O]
      have HE:Hid (Ul s w (m+1+1) (.slice bo (gx s (m+1)).length bc) (.slice ax (gx s (m+1)).length ac) wr):=by
       have:=q;refine⟨?_,?_,this.kept⟩
       .have h:=this.b;unfold vU at h|-;rw[OJ I];exact h
       .have h:=this.a;unfold qK at h|-;rw[OJ I];exact h
      rw[N]at c1;rw[O]at J;generalize (gx s (m+1)).length=a5 at *;go_wp2;go_roundw
      case rel=>exact⟨m+1+1,by go_num,by omega,HE⟩
      case measure=>simp[intOf];omega
     .have I:vL s (m+1)=true:=by unfold vL;simp[O]
      have C:UA s (m+1)=10:=by unfold UA;rw[N];rfl
      have aC:¬bt s m=13:=O;rw[N]at c1;have m0:=bt_nonneg s m;have m1:=bt_le s m;have hy:=BO I;have Z:=fM hy;have Q:=fM C;clear hy C;go_wp2_with (at_builtin;refine ij _ rfl _ _ 55 rfl w.heap.size 5 iu (.int .u8 0) 1 1 underlying55 hiu hu0 hu1 hu2 rfl (by decide) _ _ _ rfl (q.b.alloc _) ⟨wr.heap.size,0,none⟩ 1 1 [.int .u8 10] rfl ?c1 ?J ?c3 ?c4 ?c5 ?c6 ?_)
      case c1=>rfl
      case J=>
       intro j u l
       match j,l with
       |0,l=>simp at l;subst l;simp[Addr.add]
      case c3=>intro u z;simp at z;subst z;rfl
      case c4=>unfold maxLen;omega
      case c5=>omega
      case c6=>have:=q.kept.size;simp;omega
      intro aa H y D a7;have⟨bo',bc',hvb⟩:=gw y;subst hvb;have A:Kept [] w H:=(q.kept.alloc _).grown D (λx d=> .inr (q.b.lt x d).1);have o:H.ownsRow w.heap.size 3 1 (.slice ax (gx s (m+1)).length ac) (gx s (m+1)).length (qK s (m+1)):=by
       have T:Kept (Value.slice bo (gx s (m+1)).length bc).ownBlock.toList (wr.alloc (.cells #[.int .u8 10] 5)) H:=(Kept.refl _ _).grown D (λx d=> .inl (by simp[d]));exact T.ownsRow (q.a.alloc _) (λx d=>by simp;exact λU=>nI q.b q.a (by decide) x U d)
      have B:=fM y;clear y;go_wp2_with (at_builtin;refine ij _ rfl _ _ 37 rfl w.heap.size 3 ii (fV 0) 1 8 underlying37 a3 a0 a1 a2 rfl (by decide) _ _ _ rfl (o.alloc _) ⟨H.heap.size,0,none⟩ 1 1 [fV (((m+1):Nat):Int)] rfl ?c1 ?J ?c3 ?c4 ?c5 ?c6 ?_)
      case c1=>rfl
      case J=>
       intro j u l
       match j,l with
       |0,l=>simp at l;subst l;simp[Addr.add]
      case c3=>intro u z;simp at z;subst z;rfl
      case c4=>unfold maxLen;omega
      case c5=>omega
      case c6=>have:=A.size;simp;omega
      intro a9 w3 G F a8;have⟨ao',ac',hva⟩:=gw G;subst hva;have HE:Hid (Ul s w ((m+1)+1) (.slice bo' ((gx s (m+1)).length+1) bc') (.slice ao' ((gx s (m+1)).length+1) ac') w3):=by
       have T:Kept (Value.slice ax (gx s (m+1)).length ac).ownBlock.toList (H.alloc (.cells #[fV (((m+1):Nat):Int)] 3)) w3:=(Kept.refl _ _).grown F (λx d=> .inl (by simp[d]));refine⟨?_,?_,(A.alloc _).grown F (λx d=> .inr (o.lt x d).1)⟩
       .unfold vU;rw[Z.out,se,oj];have:=T.ownsRow (B.alloc _) (λx d=>by simp;exact λU=>nI o B (by decide) x U d)
        simpa [vU,Q.out]using this
       .unfold qK;rw[Z.out,se,oj]
        simpa [qK]using G
      generalize (gx s (m+1)).length=a5 at *;go_wp2;go_roundw
      case rel=>exact⟨(m+1)+1,by go_num,by omega,HE⟩
      case measure=>simp[intOf];omega
   .by_cases O:bt s k=13
    .have I:vL s k=true:=by unfold vL;simp[N]
     have C:UA s k=10:=by unfold UA;rw[O];rfl
     rw[O]at c1;have hy:=BO I;have Z:=fM hy;have Q:=fM C;clear hy C;go_wp2_with (at_builtin;refine ij _ rfl _ _ 55 rfl w.heap.size 5 iu (.int .u8 0) 1 1 underlying55 hiu hu0 hu1 hu2 rfl (by decide) _ _ _ rfl (q.b.alloc _) ⟨wr.heap.size,0,none⟩ 1 1 [.int .u8 10] rfl ?c1 ?J ?c3 ?c4 ?c5 ?c6 ?_)
     case c1=>rfl
     case J=>
      intro j u l
      match j,l with
      |0,l=>simp at l;subst l;simp[Addr.add]
     case c3=>intro u z;simp at z;subst z;rfl
     case c4=>unfold maxLen;omega
     case c5=>omega
     case c6=>have:=q.kept.size;simp;omega
     intro aa H y D a7;have⟨bo',bc',hvb⟩:=gw y;subst hvb;have A:Kept [] w H:=(q.kept.alloc _).grown D (λx d=> .inr (q.b.lt x d).1);have o:H.ownsRow w.heap.size 3 1 (.slice ax (gx s k).length ac) (gx s k).length (qK s k):=by
      have T:Kept (Value.slice bo (gx s k).length bc).ownBlock.toList (wr.alloc (.cells #[.int .u8 10] 5)) H:=(Kept.refl _ _).grown D (λx d=> .inl (by simp[d]));exact T.ownsRow (q.a.alloc _) (λx d=>by simp;exact λU=>nI q.b q.a (by decide) x U d)
     have B:=fM y;clear y;go_wp2_with (at_builtin;refine ij _ rfl _ _ 37 rfl w.heap.size 3 ii (fV 0) 1 8 underlying37 a3 a0 a1 a2 rfl (by decide) _ _ _ rfl (o.alloc _) ⟨H.heap.size,0,none⟩ 1 1 [fV ((k:Nat))] rfl ?c1 ?J ?c3 ?c4 ?c5 ?c6 ?_)
     case c1=>rfl
     case J=>
      intro j u l
      match j,l with
      |0,l=>simp at l;subst l;simp[Addr.add]
     case c3=>intro u z;simp at z;subst z;rfl
     case c4=>unfold maxLen;omega
     case c5=>omega
     case c6=>have:=A.size;simp;omega
     intro a9 w3 G F a8;have⟨ao',ac',hva⟩:=gw G;subst hva;have HE:Hid (Ul s w (k+1) (.slice bo' ((gx s k).length+1) bc') (.slice ao' ((gx s k).length+1) ac') w3):=by
      have T:Kept (Value.slice ax (gx s k).length ac).ownBlock.toList (H.alloc (.cells #[fV ((k:Nat))] 3)) w3:=(Kept.refl _ _).grown F (λx d=> .inl (by simp[d]));refine⟨?_,?_,(A.alloc _).grown F (λx d=> .inr (o.lt x d).1)⟩
      .unfold vU;rw[Z.out,se,oj];have:=T.ownsRow (B.alloc _) (λx d=>by simp;exact λU=>nI o B (by decide) x U d)
       simpa [vU,Q.out]using this
      .unfold qK;rw[Z.out,se,oj]
       simpa [qK]using G
     generalize (gx s k).length=a5 at *;go_wp2;go_roundw
     case rel=>exact⟨k+1,by go_num,by omega,HE⟩
     case measure=>simp[intOf];omega
    .have I:vL s k=true:=by unfold vL;simp[N]
     have C:UA s k=bt s k:=by unfold UA;rw[gH O]
     have hy:=BO I;have Z:=fM hy;have Q:=fM C;clear hy C;go_wp2_with (at_builtin;refine ij _ rfl _ _ 55 rfl w.heap.size 5 iu (.int .u8 0) 1 1 underlying55 hiu hu0 hu1 hu2 rfl (by decide) _ _ _ rfl (q.b.alloc _) ⟨wr.heap.size,0,none⟩ 1 1 [.int .u8 (bt s k)] rfl ?c1 ?J ?c3 ?c4 ?c5 ?c6 ?_)
     case c1=>rfl
     case J=>
      intro j u l
      match j,l with
      |0,l=>simp at l;subst l;simp[Addr.add]
     case c3=>intro u z;simp at z;subst z;rfl
     case c4=>unfold maxLen;omega
     case c5=>omega
     case c6=>have:=q.kept.size;simp;omega
     intro aa H y D a7;have⟨bo',bc',hvb⟩:=gw y;subst hvb;have A:Kept [] w H:=(q.kept.alloc _).grown D (λx d=> .inr (q.b.lt x d).1);have o:H.ownsRow w.heap.size 3 1 (.slice ax (gx s k).length ac) (gx s k).length (qK s k):=by
      have T:Kept (Value.slice bo (gx s k).length bc).ownBlock.toList (wr.alloc (.cells #[.int .u8 (bt s k)] 5)) H:=(Kept.refl _ _).grown D (λx d=> .inl (by simp[d]));exact T.ownsRow (q.a.alloc _) (λx d=>by simp;exact λU=>nI q.b q.a (by decide) x U d)
     have B:=fM y;clear y;go_wp2_with (at_builtin;refine ij _ rfl _ _ 37 rfl w.heap.size 3 ii (fV 0) 1 8 underlying37 a3 a0 a1 a2 rfl (by decide) _ _ _ rfl (o.alloc _) ⟨H.heap.size,0,none⟩ 1 1 [fV ((k:Nat))] rfl ?c1 ?J ?c3 ?c4 ?c5 ?c6 ?_)
     case c1=>rfl
     case J=>
      intro j u l
      match j,l with
      |0,l=>simp at l;subst l;simp[Addr.add]
     case c3=>intro u z;simp at z;subst z;rfl
     case c4=>unfold maxLen;omega
     case c5=>omega
     case c6=>have:=A.size;simp;omega
     intro a9 w3 G F a8;have⟨ao',ac',hva⟩:=gw G;subst hva;have HE:Hid (Ul s w (k+1) (.slice bo' ((gx s k).length+1) bc') (.slice ao' ((gx s k).length+1) ac') w3):=by
      have T:Kept (Value.slice ax (gx s k).length ac).ownBlock.toList (H.alloc (.cells #[fV ((k:Nat))] 3)) w3:=(Kept.refl _ _).grown F (λx d=> .inl (by simp[d]));refine⟨?_,?_,(A.alloc _).grown F (λx d=> .inr (o.lt x d).1)⟩
      .unfold vU;rw[Z.out,se,oj];have:=T.ownsRow (B.alloc _) (λx d=>by simp;exact λU=>nI o B (by decide) x U d)
       simpa [vU,Q.out]using this
      .unfold qK;rw[Z.out,se,oj]
       simpa [qK]using G
     generalize (gx s k).length=a5 at *;go_wp2;go_roundw
     case rel=>exact⟨k+1,by go_num,by omega,HE⟩
     case measure=>simp[intOf];omega
  .have az:k=s.size:=by omega
   subst az;have q:=W;have⟨bo,bc,hvb⟩:=gw W.b;have⟨ax,ac,hva⟩:=gw W.a;subst hvb hva;have aq:=I7 s s.size;have au:vU s s.size=((gx s s.size).map (chB s)).map λb=> .int .u8 (b.toNat:Int):=by
    unfold vU;rw[nN];refine Wq λk _=>?_;simp only[Function.comp];rw[Nb]
   have V:=W.b;rw[au]at V;obtain⟨wa,a4⟩:∃wa,wa=(wr.alloc (.cells #[fV s.size] 3)).drew:=⟨_,rfl⟩;have ka:Kept [] wr wa:=by rw[a4];exact((Kept.refl [] wr).alloc _).drew
   have ag:=ka.ownsRow W.a (λ_ _=>by simp);have za:wa.heap.size=wr.heap.size+1:=by rw[a4];simp
   have aF:=W.kept.size;have af:Hid (∀(j:Nat) (u:gG),[Value.int .i64 (s.size:Int)][j]?=some u->wa.cell? ((⟨wr.heap.size,0,none⟩:Addr).add j)=some u):=by
    intro j u l
    match j,l with
    |0,l=>
     simp at l;subst l;have:=fP wr (.cells #[fV s.size] 3);rw[jj,a4];simp
   have aB:∀k,(Value.slice bo (gx s s.size).length bc).ownBlock=some k->some k≠(Value.slice ax (gx s s.size).length ac).ownBlock:=λk hk h=>nI W.b W.a (by decide) k hk h.symm;have ap:=Ln (w':=wr.drew) V (by simp) (λ_ _=>rfl);have ah:=Ln (w':=wa) V (by simp) (λk hk=>ka.block k (V.lt k hk).2 (by simp));have ad:Hid (∀Y:gm,wa.grownBy Y (Value.slice ax (gx s s.size).length ac).ownBlock->(convert 55 9 (.slice bo (gx s s.size).length bc)).run prog Y= .ok (gu (uC s)) Y):=λY K=>
    Ln (w':=Y) V (by simp) (λk hk=>(K.block k (by have:=(V.lt k hk).2;omega) (aB k hk)).trans (ka.block k (V.lt k hk).2 (by simp)))
   have ae:Hid (∀Y:gm,wa.grownBy Y (Value.slice ax (gx s s.size).length ac).ownBlock->Kept [] w Y):=λY K=>(W.kept.trans ka).grown K (λx d=> .inr (W.a.lt x d).1);have ab:=(show w.heap.size<=wa.heap.size by omega);rw[a4]at ah ad ae ag af ab;have aw:(⟨((gx s s.size).map (chB s)).toArray⟩:fY)=uC s:=rfl;rw[aw]at ap ah;go_wp21
   go_region_law (refine step_append_lies _ rfl (.tmp 42) (.tmp 45) 37 rfl w.heap.size 3 ii (fV 0) 1 8 underlying37 a3 a0 a1 a2 rfl (by decide) _ _ _ (by rfl) ag ⟨wr.heap.size,0,none⟩ 1 1 [fV s.size] (by rfl) rfl af (by intro u z;simp at z;subst z;rfl) (by decide) (by unfold maxLen;omega) (by omega) ab (wr.heap.size+1) (by simp) ?_;intro g an Y aj K ar ai;have aE:=ad Y K;have ak:=fM (ae Y K);have al:=fM aj;clear aj K ar ai)
   all_goals (try go_wp2)
   all_goals (try go_ret2)
   all_goals exact⟨_,rfl,al,ak⟩
def j5 (s:fY) (i:Nat):Nat:=(gx s s.size++[s.size]).getD i 0
theorem Yr (s:fY) (i:Nat) (h:i<=(uC s).size):(qK s s.size++[fV s.size])[i]?=some (fV (j5 s i)):=by
 rw[uO]at h;grind[qK,j5]
def uZ (s:fY) (a:Int) (d:gG) (b:Nat):RC:={cs:=uC s,av:=d,at_:=a,mv:= .map (some b),lg:=8}
def MF (s:fY) (T:gG) (base:Nat) (d:Int) (w:gm) (J:w.ownsRow base 5 1 T s.size (kR s)) (hs:s.size<=1024):
  Calls prog 44 #[T,fV d] w λe w'=>∃r b z g a,e=ig (gE r)/\w.heap.size<=r/\w.heap.size<=b/\w.heap.size<=g/\Rd w' r (uZ s d z b) 0 0/\M5 w' r (uZ s d z b) g a (j5 s)/\Lk w' b (qm KV)/\b≠r/\(∃B,w'.heap[g]?=some (gz B 3))/\Kept [] w w':=by
 have⟨ao,cp,htv⟩:=gw J;subst htv;have W:=fM J;clear J;go_enter func44,ntmps44;go_wp21;refine(Te w).mono ?_;rintro e l ⟨b,rfl,Z,O,u⟩;have Q:Kept [] l (l.alloc (.cells #[gu jB,ji,fV 0,fV 0,fV d,.map (some b),fV 8,gu jB,.bool false] 160)):=(Kept.refl _ _).alloc _;have Y:=fP l (.cells #[gu jB,ji,fV 0,fV 0,fV d,.map (some b),fV 8,gu jB,.bool false] 160);have V:=abD s (.slice ao s.size cp) base _ ((u.trans Q).ownsRow W (λ_ _=>by simp)) hs;have D:=u.trans Q;have A:=u.size;go_wp21;refine V.mono ?_;rintro e U ⟨z,rfl,q,x⟩;have o:=x.at Y (by simp);have c0:=fN o 0;have c1:=fN o 1;have f0:=gh o 0;have f1:=gh o 1;dsimp at c0 c1;have⟨ax,ac,hv⟩:=gw q;subst hv;obtain⟨j,y⟩:∃j,j=(U.setCell ⟨l.heap.size,0,none⟩ (gu (uC s))).setCell ⟨l.heap.size,1,none⟩ (.slice ax ((gx s s.size).length+1) ac):=⟨_,rfl⟩;have C:Kept [l.heap.size] U j:=by rw[y];exact((Kept.refl _ _).setCell (.inl (by simp)) _).setCell (.inl (by simp)) _
 have rz:Rd j l.heap.size (uZ s d (.slice ax ((gx s s.size).length+1) ac) b) 0 0:=by
  rw[y];exact fR (fR o 0 _) 1 _
 have a1:b < l.heap.size:=O.lt;have G:Lk j b (qm KV):=((O.kept ((Kept.refl [] l).alloc _) (by simp)).kept x (by simp)).kept C (by simp;omega);have F:∃g a,(w.heap.size<=g/\∃B,j.heap[g]?=some (gz B 3))/\M5 j l.heap.size (uZ s d (.slice ax ((gx s s.size).length+1) ac) b) g a (j5 s):=by
  rcases q.2 with⟨_,h0⟩|⟨g,a,a0,h,H,I,_⟩
  .omega
  .have a2:l.heap.size < g:=by simp at H;omega
   refine⟨g,a,⟨by omega,⟨_,C.at I (by simp;omega)⟩⟩,?_,by omega,lU (iQ I) C.size,λi hi=>?_⟩
   .show Value.slice ax _ ac=_;rw[h];show Value.slice _ _ _=Value.slice _ ((uC s).size+1) _;rw[uO]
   .rw[C.cell (p:=⟨g,i,none⟩) (iQ I) (by simp;omega)];have:=q.cells (g:=g) (by rw[h];rfl) i _ (Yr s i hi);rw[jj]at this;omega
 have⟨g,a,⟨hgl,hgt⟩,hA⟩:=F;have K:Kept [] w j:=(D.trans x).next C (by simp;exact A)
 have N:Hid (∃r b z g a,ig (gE l.heap.size)=ig (gE r)/\w.heap.size<=r/\w.heap.size<=b/\w.heap.size<=g/\Rd j r (uZ s d z b) 0 0/\M5 j r (uZ s d z b) g a (j5 s)/\Lk j b (qm KV)/\b≠r/\(∃B,j.heap[g]?=some (gz B 3))/\Kept [] w j):=by
  exact⟨_,b,_,g,a,rfl,A,Z,hgl,rz,hA,G,by omega,hgt,K⟩
 rw[y]at N;go_wp2;go_ret;exact N
structure Sp where
 k:Int
 a:Int
 b:Int
theorem SH {base : Nat} {e : TypeId} {a d j : Nat} {xs : List gG} (h:w.ownsRow base e a (oo g n d) n xs) (u:gG):(w.setCell ⟨g,j,none⟩ u).ownsRow base e a (oo g n d) n (xs.set j u):=by
 have⟨h1,o⟩:=h;refine⟨by grind,?_⟩;rcases o with⟨o,_⟩|⟨C,p,l,q,A,B,x,y,D,z⟩
 .cases o
 .simp only[Value.slice.injEq,Option.some.injEq,Addr.mk.injEq,and_true,true_and]at q;obtain⟨rfl,rfl⟩:=q;refine .inr ⟨g,d,l.setIfInBounds j u,rfl,A,fR B j u,x,y,by grind,?_⟩;rw[Array.toList_setIfInBounds,List.take_set,z]
def lp (L:List Sp):List gG:=L.flatMap λp=>[fV p.k,fV p.a,fV p.b]
def qy (L M:List Sp):lp (L++M)=lp L++lp M:=by simp[lp]
theorem sH (L:List Sp):(lp L).length=L.length*3:=by
 induction L with
 |nil=>rfl
 |cons p L ih=>show(Value.int .i64 p.k:: fV p.a:: fV p.b::lp L).length=_;grind
def Gz (M:List Sp) (l:Sp) (i:Nat) (hi:i < 3):(lp (M++[l]))[M.length*3+i]?=[Value.int .i64 l.k,fV l.a,fV l.b][i]?:=by
 rw[qy,GJ (by rw[sH];omega),sH,show M.length*3+i - M.length*3=i by omega];rfl
def VS (M:List Sp) (l:Sp) (b:Int):(lp (M++[l])).set (M.length*3+2) (fV b)=lp (M++[⟨l.k,l.a,b⟩]):=by
 rw[qy,qy,List.set_append_right _ _ (by rw[sH];omega),sH,show M.length*3+2 - M.length*3=2 by omega];rfl
def tH (L:List Sp) (s:Sp):List Sp:=match L.getLast? with
 |some l=>if s.k=1/\l.k=1 then L.dropLast++[⟨l.k,l.a,s.b⟩]else L++[s]
 |none=>L++[s]
def Yz (s:Sp):tH [] s=[s]:=rfl
def YA (M:List Sp) (l s:Sp) (h:s.k=1/\l.k=1):tH (M++[l]) s=M++[⟨l.k,l.a,s.b⟩]:=by unfold tH;simp[h]
def aaK (M:List Sp) (l s:Sp) (h:¬(s.k=1/\l.k=1)):tH (M++[l]) s=M++[l]++[s]:=by unfold tH;simp[h]
theorem Yy (L:List Sp) (s:Sp):(tH L s).length<=L.length+1:=by
 grind[tH]
def Gf:(prog.info? 72).map (λi=>(i.zero,i.size,i.bytes))=some (some (.agg #[fV 0,fV 0,fV 0]),3,24):=by kernel_rfl
def ya (base:Nat) (w:gm) (v:gG) (L:List Sp) (s:Sp) (e:Ending) (w':gm):Prop:=
 ∃a,e=ig a/\w'.ownsRow base 72 3 a (tH L s).length (lp (tH L s))/\Kept v.ownBlock.toList w w'
theorem QT (base:Nat) (v:gG) (s:Sp) (w:gm) (o:w.ownsRow base 72 3 v 0 (lp [])) (h:base<=w.heap.size):
  Calls prog 51 #[v,.agg #[fV s.k,fV s.a,fV s.b]] w λe w'=>ya base w v [] s e w':=by
 obtain⟨I,hi,q,y,z⟩:=uH Gf;have⟨ao,cp,hv⟩:=gw o;subst hv;have⟨sk,sa,sb⟩:=s;have a:tH [] ⟨sk,sa,sb⟩=[]++[⟨sk,sa,sb⟩]:=Yz _;simp only;have N:=o;have D:=fM a;have J:Kept [] w (w.alloc (.cells #[fV sk,fV sa,fV sb] 72)):=(Kept.refl _ _).alloc _;have d:=J.ownsRow o (λ_ _=>by simp);clear a;have A:w.heap.size < w.heap.size+1:=by omega
 go_enter func51,ntmps51;go_wp2_with (at_builtin;refine ij _ rfl _ _ 24 rfl base 72 I (.agg #[fV 0,fV 0,fV 0]) 3 24 underlying24 hi q y z rfl (by decide) _ _ _ rfl (d.alloc _) ⟨w.heap.size+1,0,none⟩ 1 1 [fV sk,fV sa,fV sb] rfl ?c1 ?c2 ?c3 ?c4 ?c5 ?c6 ?_)
 case c1=>rfl
 case c2=>
  intro j u O;have h:=fP (w.alloc (.cells #[fV sk,fV sa,fV sb] 72)) (.cells #[fV sk,fV sa,fV sb] 72);simp only[xW]at h;rw[jj,fN h];grind
 case c3=>intro u B;simp at B;rcases B with rfl|rfl|rfl<;>rfl
 case c4=>unfold maxLen;omega
 case c5=>omega
 case c6=>simp;omega
 intro C K p l G;have F:Hid (ya base w (.slice ao 0 cp) [] ⟨sk,sa,sb⟩ (ig C) K):=by
  refine⟨C,rfl,?_,?_⟩
  .rw[D.out,qy,oj];exact p
  .exact((Kept.refl _ _).alloc _|>.alloc _).grown l (λx H=> .inl (by simp[H]))
 go_wp2;go_ret;exact F
theorem OA (base:Nat) (v:gG) (M:List Sp) (l s:Sp) (w:gm) (z:w.ownsRow base 72 3 v (M.length+1) (lp (M++[l]))) (A:base<=w.heap.size) (hM:M.length<=4096) (p:¬(s.k=1/\l.k=1)):
  Calls prog 51 #[v,.agg #[fV s.k,fV s.a,fV s.b]] w λe w'=>ya base w v (M++[l]) s e w':=by
 obtain⟨W,hi,D,F,G⟩:=uH Gf;obtain⟨g,I,N⟩:∃g I,v=oo g (M.length+1) I:=by
  rcases z.2 with⟨_,h0⟩|⟨g,Z,a0,h,_⟩
  all_goals grind
 have hg:g < w.heap.size:=by subst N;exact(z.lt g rfl).2
 have c0:w.cell? ⟨g,M.length*3,none⟩=some (fV l.k):=by
  subst N;have:=z.cells (g:=g) rfl (M.length*3) _ (by have:=Gz M l 0 (by omega);simpa using this)
  rwa [jj]at this
 obtain⟨U,a1⟩:∃U:Option Addr,U=some ⟨g,0,none⟩:=⟨_,rfl⟩;have⟨sk,sa,sb⟩:=s;simp only at p|-;have a:tH (M++[l]) ⟨sk,sa,sb⟩=(M++[l])++[⟨sk,sa,sb⟩]:=aaK M l _ p;subst N;by_cases V:sk=1
 .have hl:¬l.k=1:=λh=>p ⟨V,h⟩;subst V;clear p;have Y:=z;have J:=fM a;have Q:Kept [] w (w.alloc (.cells #[fV 1,fV sa,fV sb] 72)):=(Kept.refl _ _).alloc _;have q:=Q.ownsRow z (λ_ _=>by simp);clear a;have B:w.heap.size < w.heap.size+1:=by omega
  go_enter func51,ntmps51;go_wp2_with (at_builtin;refine ij _ rfl _ _ 24 rfl base 72 W (.agg #[fV 0,fV 0,fV 0]) 3 24 underlying24 hi D F G rfl (by decide) _ _ _ rfl (q.alloc _) ⟨w.heap.size+1,0,none⟩ 1 1 [fV 1,fV sa,fV sb] rfl ?c1 ?c2 ?c3 ?c4 ?c5 ?c6 ?_)
  case c1=>rfl
  case c2=>
   intro j u hj;have A:=fP (w.alloc (.cells #[fV 1,fV sa,fV sb] 72)) (.cells #[fV 1,fV sa,fV sb] 72);simp only[xW]at A;rw[jj,fN A];grind
  case c3=>intro u C;simp at C;rcases C with rfl|rfl|rfl<;>rfl
  case c4=>unfold maxLen;omega
  case c5=>omega
  case c6=>simp;omega
  intro H T o d y;have K:Hid (ya base w (oo g (M.length+1) I) (M++[l]) ⟨1,sa,sb⟩ (ig H) T):=by
   refine⟨H,rfl,?_,?_⟩
   .rw[J.out,qy,oj];rw[show(M++[l]).length+[(⟨1,sa,sb⟩:Sp)].length=M.length+1+1 from by simp];exact o
   .exact((Kept.refl _ _).alloc _|>.alloc _).grown d (λx O=> .inl (by simp[O]))
  clear o d y;go_wp2;go_ret;exact K
 .skip
  have Y:=z;have J:=fM a;have Q:Kept [] w (w.alloc (.cells #[fV sk,fV sa,fV sb] 72)):=(Kept.refl _ _).alloc _;have q:=Q.ownsRow z (λ_ _=>by simp);clear a;have B:w.heap.size < w.heap.size+1:=by omega
  go_enter func51,ntmps51;go_wp2_with (at_builtin;refine ij _ rfl _ _ 24 rfl base 72 W (.agg #[fV 0,fV 0,fV 0]) 3 24 underlying24 hi D F G rfl (by decide) _ _ _ rfl (q.alloc _) ⟨w.heap.size+1,0,none⟩ 1 1 [fV sk,fV sa,fV sb] rfl ?c1 ?c2 ?c3 ?c4 ?c5 ?c6 ?_)
  case c1=>rfl
  case c2=>
   intro j u hj;have A:=fP (w.alloc (.cells #[fV sk,fV sa,fV sb] 72)) (.cells #[fV sk,fV sa,fV sb] 72);simp only[xW]at A;rw[jj,fN A];grind
  case c3=>intro u C;simp at C;rcases C with rfl|rfl|rfl<;>rfl
  case c4=>unfold maxLen;omega
  case c5=>omega
  case c6=>simp;omega
  intro H T o d y;have K:Hid (ya base w (oo g (M.length+1) I) (M++[l]) ⟨sk,sa,sb⟩ (ig H) T):=by
   refine⟨H,rfl,?_,?_⟩
   .rw[J.out,qy,oj];rw[show(M++[l]).length+[(⟨sk,sa,sb⟩:Sp)].length=M.length+1+1 from by simp];exact o
   .exact((Kept.refl _ _).alloc _|>.alloc _).grown d (λx O=> .inl (by simp[O]))
  clear o d y;go_wp2;go_ret;exact K
theorem Oz (base:Nat) (v:gG) (M:List Sp) (l s:Sp) (w:gm) (a:w.ownsRow base 72 3 v (M.length+1) (lp (M++[l]))) (H:M.length<=4096) (u:s.k=1) (hl:l.k=1):
  Calls prog 51 #[v,.agg #[fV s.k,fV s.a,fV s.b]] w λe w'=>ya base w v (M++[l]) s e w':=by
 have⟨sk,sa,sb⟩:=s;simp only at u|-;subst u;obtain⟨g,d,A⟩:∃g d,v=oo g (M.length+1) d:=by
  rcases a.2 with⟨_,G⟩|⟨g,y,o,h,_⟩
  all_goals grind
 subst A;have I:g < w.heap.size:=(a.lt g rfl).2;have B:w.cell? ⟨g,M.length*3,none⟩=some (fV 1):=by
  have:=a.cells (g:=g) rfl (M.length*3) _ (by have:=Gz M l 0 (by omega);simpa using this)
  rwa [jj,hl]at this
 have C:w.cell? ⟨g,M.length*3+2,none⟩=some (fV l.b):=by
  have:=a.cells (g:=g) rfl (M.length*3+2) _ (by have:=Gz M l 2 (by omega);simpa using this)
  rwa [jj]at this
 have D:w.frozen? ⟨g,M.length*3+2,none⟩=false:=by
  rcases a.2 with⟨h,_⟩|⟨F,p,o,h,_,z,_⟩
  .cases h
  .simp only[Value.slice.injEq,Option.some.injEq,Addr.mk.injEq,and_true,true_and]at h;obtain⟨rfl,rfl⟩:=h;exact gh z _
 have x:Hid (ya base w (oo g (M.length+1) d) (M++[l]) ⟨1,sa,sb⟩ (ig (oo g (M.length+1) d)) ((w.setCell ⟨g,M.length*3+2,none⟩ (fV sb)).alloc (.cells #[fV 1,fV sa,fV sb] 72))):=by
  refine⟨_,rfl,?_,?_⟩
  .rw[YA M l _ ⟨rfl,hl⟩];have q:=SH (j:=M.length*3+2) a (fV sb);rw[VS]at q
   simpa using q.alloc _
  .exact((Kept.refl [g] w).setCell (.inl (by simp)) _).alloc _
 go_enter func51,ntmps51;go_wp2;go_ret;exact x
def QS (base:Nat) (v:gG) (L:List Sp) (s:Sp) (w:gm) (a:w.ownsRow base 72 3 v L.length (lp L)) (j:base<=w.heap.size) (d:L.length<=4096):
  Calls prog 51 #[v,.agg #[fV s.k,fV s.a,fV s.b]] w λe w'=>ya base w v L s e w':=by
 rcases adx L with rfl|⟨M,l,rfl⟩
 .exact QT base v s w a j
 .rw[List.concat_eq_append]at a d|-;simp only[oj,rn,uI,Iy]at a d;by_cases h:s.k=1/\l.k=1
  .exact Oz base v M l s w a (by omega) h.1 h.2
  .exact OA base v M l s w a j (by omega) h
theorem S4 (p q:Addr) (w:gm):
  CallsD prog 42 #[.pointer (some p),.pointer (some q)] .returning w λe h w'=>e=pL/\h= .returning/\w'=w:=by
 refine callsD_of_wpS func42 rfl λa j d=>?_;apply wpS_seq;apply wpS_region;simp[wpOpsS,go_sem,recoverD,d,ntmps42,Exit.thenS];apply wpS_seq;apply wpS_region;simp[wpOpsS,go_sem,Exit.thenS];refine wpS_cond (t:=false) (by simp[Act.eval,Array.replicate]) ?_;simp only[ru,rj];refine wpS_of_wp (wp_skip ?_);cases a;simp_all[bodyPostS,results,results42]
def Zk (E:Env) (a b:Nat) (s:fY) (w:gm):Calls prog 49 #[iy E ⟨a,b,.kg s,[]⟩] w λe w'=>e=ig (fV 1)/\w'=w:=by
 simp only[iy];have d:=ri underlying183;go_enter func49,ntmps49;go_wp2;go_ret;simp
def ab5 (E:Env) (a b:Nat) (w:gm):Calls prog 49 #[iy E ⟨a,b,.ie,[]⟩] w λe w'=>e=ig (fV 0)/\w'=w:=by
 simp only[iy];have o:=vZ;have h:=tM;have j:=xe;have d:=qV;have l:=yZ;have p:=ahX;go_enter func49,ntmps49;go_wp2;go_ret;simp
def Rn (E:Env) (f:Nat->Nat) (σ:Ab) (w:gm) (h:RF E f σ w):Calls prog 50 #[Bp E] w λe w'=>e=ig (nV f 0)/\w'=w:=by
 have c:=(At.start h).yr;have a:=h.lt;go_enter func50,ntmps50;go_wp2;go_ret;simp
def zV (r:Nat) (s:fY) (w:gm) (j:s.size<=1048576) (o:Gl w r):
  Calls prog 248 #[gu s] w λe w'=>e=ig (gu (ph (small s)))/\Kept [] w w':=by
 have l:=o;go_enter func248,ntmps248;go_wp21;refine(xf s w j).mono ?_;rintro e p ⟨rfl,h⟩;have C:=y7 r (small s) p (by rw[tw];exact j) (l.kept (h.mono (by simp)));go_wp21;refine C.mono ?_;rintro e q ⟨rfl,d⟩;have a:=h.trans d;go_wp2;go_ret;exact⟨rfl,a⟩
theorem Ai (r:Nat) (R:RC) (a ps:Nat) (s:fY) (w:gm) (h:Rd w r R a ps) (o:ps<=R.cs.size) (p:R.cs.size<=1024):
  Calls prog 249 #[gE r,.func (.func 251) #[] #[gE w.heap.size]] (w.alloc (.cells #[gu s] 9))
   λe w'=>e=ig (gu (R.cs.extract ps (scan (jq s) R.cs ps)))/\Kept [r] w w'/\Rd w' r R a (scan (jq s) R.cs ps):=by
 have q:=iQ h;have k:Kept [] w (w.alloc (.cells #[gu s] 9)):=(Kept.refl _ _).alloc _;have b:=fP w (.cells #[gu s] 9);refine(TT r R a ps _ _ _ _ (k.at h (by simp)) o p (Dk _ [r] w.heap.size s (by simp) (by simp) (by grind))).mono ?_;rintro e w' ⟨d,j,l⟩;exact⟨d,(k.mono (by simp)).trans j,l⟩
def Ky (r:Nat) (R:RC) (j ps:Nat) (k:Nat) (a:jA) (q:Int->Bool) (w:gm) (h:Rd w r R j ps) (I:ps<=R.cs.size) (J:R.cs.size<=1024) (F:Yi w [r] k a q):
  Calls prog 152 #[gE r,.func (.func k) #[] a] w λe w'=>e=ig (.bool (decide (ps < R.cs.size)&&q (bt R.cs ps)))/\∃n,w'=w.drewN n:=by
 have u:=F;have t:=h.text;have p:=h.ps;have H:=h;have o:=get_bt R.cs;have x:=u.ent;have C:=(λw' (h:Rd w' r R j ps)=>pq r R j ps w' h);by_cases e:ps=R.cs.size
 .have l:decide (ps=R.cs.size)=true:=by simp[e]
  rw[l]at C;go_enter func152,ntmps152;go_wp21
  go_quiet ((go_at_call 78;refine rl (C _ ?_);exact H))
  go_wp2;go_ret;exact⟨by simp[e],⟨_,rfl⟩⟩
 .have d:ps < R.cs.size:=by omega
  have l:decide (ps=R.cs.size)=false:=by simp[e]
  rw[l]at C;have G:=o ps d;have A:=bt_nonneg R.cs ps;have B:=bt_le R.cs ps;have D:=(λw' h=>u.ask (bt R.cs ps) w' A B h);have z:(decide (ps < R.cs.size)&&q (bt R.cs ps))=q (bt R.cs ps):=by simp[d]
  rw[z];have y:Hid (∀n,Kept [r] w (w.drewN n)):=λn=>(Kept.refl _ _).drewN n;cases hqv:q (bt R.cs ps)
  all_goals
   rw[hqv]at D;go_enter func152,ntmps152;go_wp21
   go_quiet (first|(go_at_call 78;refine rl (C _ ?_);exact H)|(refine rl (D _ ?_);exact y _))
   go_wp2;go_ret;exact⟨rfl,⟨_,rfl⟩⟩
def Av (R:RC) (s:fY) (ps:Nat):Bool:=decide (s.size<=R.cs.size - ps)&&((small ((R.cs.extract ps R.cs.size).extract 0 s.size)).toList==s.toList)
theorem acI (t:fY) (n:Nat) (h:n<=t.size):pre t (t.extract 0 n)=true:=by
 have e:(t.extract 0 n).size=n:=by simp;omega
 grind[pre]
def TO (r:Nat) (R:RC) (l ps:Nat) (s:fY) (w:gm) (h:Rd w r R l ps) (G:ps<=R.cs.size) (I:R.cs.size<=1024) (N:s.size<=1024):
  Calls prog 157 #[gE r,gu s] w λe w'=>e=ig (.bool (Av R s ps))/\Kept [r] w w'/\Rd w' r R l (if Av R s ps=true then ps+s.size else ps):=by
 have H:=h;obtain⟨t,x⟩:∃t,t=R.cs.extract ps R.cs.size:=⟨_,rfl⟩;have o:t.size=R.cs.size - ps:=by rw[x];simp
 have d:=xG r R l ps w H G I;rw[<-x]at d;have p:=fM x;clear x;by_cases e1:s.size<=t.size
 .have K:(t.extract 0 s.size).size=s.size:=by simp;omega
  cases e2:((small (t.extract 0 s.size)).toList==s.toList)
  .have B:Av R s ps=false:=by unfold Av;rw[<-p.out,e2];simp
   rw[B];go_enter func157,ntmps157;go_wp21;refine d.mono ?_;rintro e J ⟨rfl,q,rfl⟩;go_wp21;refine(xf _ _ (by omega)).mono ?_;rintro e F ⟨rfl,a⟩;generalize small (t.extract 0 s.size)=u at *;go_wp2;go_ret;exact⟨rfl,((Kept.refl [r] w).drewN q).trans (a.mono (by simp)),a.at (show Rd (w.drewN q) r R l ps from H) (by simp)⟩
  .have B:Av R s ps=true:=by unfold Av;rw[<-p.out,e2,<-o];simp[e1]
   rw[B];go_enter func157,ntmps157;go_wp21;refine d.mono ?_;rintro e J ⟨rfl,q,rfl⟩;go_wp21;refine(xf _ _ (by omega)).mono ?_;rintro e F ⟨rfl,a⟩;have C:Rd F r R l ps:=a.at (show Rd (w.drewN q) r R l ps from H) (by simp);have A:=lR r R l ps (t.extract 0 s.size) F C G I (by omega);have j:=acI t s.size e1;rw[<-p.out,j]at A;have D:taken R (t.extract 0 s.size) ps=ps+s.size:=by unfold taken;rw[<-p.out,gv j,K]
   rw[D]at A;generalize small (t.extract 0 s.size)=u at *;go_wp21;refine A.mono ?_;rintro e Q ⟨rfl,y,z⟩;go_wp2;go_ret;exact⟨rfl,(((Kept.refl [r] w).drewN q).trans (a.mono (by simp))).trans y,z⟩
 .have O:Av R s ps=false:=by unfold Av;rw[<-o];simp[e1]
  rw[O];go_enter func157,ntmps157;go_wp21;refine d.mono ?_;rintro e J ⟨rfl,q,rfl⟩;go_wp2;go_ret;exact⟨rfl,((Kept.refl [r] w).drewN q),H⟩
def ky (R:RC) (ps:Nat):Nat:=scan (jq qf) R.cs (ps+1)
def Ee (r:Nat) (R:RC) (A ps:Nat) (w:gm) (h:Rd w r R A ps) (Q:ps < R.cs.size) (O:R.cs.size<=1024) (G:Gl w r):
  Calls prog 328 #[gE r] w λe w'=>e=ig (gu (ph (small (R.cs.extract ps (ky R ps)))))/\Kept [r] w w'/\Rd w' r R A (ky R ps):=by
 have p:=h.ps;have J:=h.free 3;have H:=G;have u:=h.Oa (ps+1);have l:=(Kept.refl [r] w).setCell (p:=⟨r,3,none⟩) (.inl (by simp)) (fV ((ps+1:Nat)));clear h G;obtain⟨z,j⟩:∃z,z=w.setCell ⟨r,3,none⟩ (fV ((ps+1:Nat))):=⟨_,rfl⟩;rw[<-j]at u l;have a:w.setCell ⟨r,3,none⟩ (fV ((ps:Int)+1))=z:=by rw[j];congr 1
 have F:=fM a;clear j a;have C:=Ai r R A (ps+1) qf z u (by omega) O;rw[show scan (jq qf) R.cs (ps+1)=ky R ps from rfl]at C;have N:ky R ps<=R.cs.size:=p6 (by omega);have K:ps+1<=ky R ps:=us;generalize ky R ps=n at *;go_enter func328,ntmps328;go_wp21;rw[F.out];clear p J;refine(pD _ z).mono ?_;rintro e w' ⟨rfl,rfl⟩;go_wp21;refine C.mono ?_;rintro e B ⟨rfl,x,d⟩;have U:=d.text;have T:=d.ps;have o:=l.trans x;have D:=(λq=>zV r (R.cs.extract ps n) (B.drewN q) (by simp;omega) (show Gl (B.drewN q) r from H.kept (o.drewN q)));clear x C;generalize hm:ph (small (R.cs.extract ps n))=m at D|-;have I:=fM hm;clear hm;go_wp21
 go_region_with (refine(D _).mono ?_;rintro e V ⟨rfl,y⟩)
 all_goals (try go_wp2)
 all_goals
  (go_ret
   exact⟨by rw[I.out];rfl,o.trans (((Kept.refl [r] B).drewN 1).trans (y.mono (by simp))),y.at (show Rd (B.drewN 1) r R A n from d) (by simp)⟩)
def toList_eq {a b : fY} (h:a.toList=b.toList):a=b:=by
 rw[sK,sK]at h;exact Qx (Array.toList_inj.1 h)
def OO {a j : Nat} (h:a+j < b) (l:b<=s.size):bt (s.extract a b) j=bt s (a+j):=by
 have d:j < (s.extract a b).size:=by simp;omega
 unfold bt;rw[Qz d,Qz (by omega)];rw[ByteArray.getElem_extract]
def FY {p : fY} {j : Nat} (h:pre (s.extract ps s.size) p=true) (o:j < p.size):bt s (ps+j)=bt p j:=by
 have d:=Gr h;unfold pre at h;simp only[pW,BC,beq_iff_eq]at h;have e:=toList_eq h.2;have q:ps+j < s.size:=by simp at d;omega
 have l:=OO (s:=s.extract ps s.size) (a:=0) (b:=p.size) (j:=j) (by omega) d;rw[e,Iy,OO (by omega) (gL _)]at l;omega
def rZ (R:RC) (ps:Nat):Nat:=taken R iO (scan (jq iO) R.cs ps)
def Kn (h:ps<=R.cs.size):rZ R ps<=R.cs.size:=TR (p6 h)
def abH:ps<=rZ R ps:=jH us TQ
def uT (r:Nat) (R:RC) (a ps g p:Nat) (d:Nat->Nat) (w:gm) (h:Rd w r R a ps) (hA:M5 w r R g p d) (U:Gl w r) (V:a<=R.cs.size) (J:ps<=R.cs.size) (K:R.cs.size<=1024):
  Calls prog 160 #[gE r] w λe w'=>e=ig (.iface 193 (.agg #[fV (d a),fV (d (rZ R ps)),gu (ph (R.cs.extract ps (scan (jq iO) R.cs ps)))]))/\Kept [r] w w'/\Rd w' r R a (rZ R ps):=by
 have C:=Ai r R a ps iO w h J K;have Q:=hA;have T:=U;have I:scan (jq iO) R.cs ps<=R.cs.size:=p6 J;have D:=(λ(N:gm) (W:Rd N r R a (scan (jq iO) R.cs ps))=>lR r R a _ iO N W I K (by decide));rw[show taken R iO (scan (jq iO) R.cs ps)=rZ R ps from rfl]at D;have x:rZ R ps<=R.cs.size:=Kn J;generalize rZ R ps=m at *;generalize scan (jq iO) R.cs ps=n at *;go_enter func160,ntmps160;go_wp21;refine(pD _ w).mono ?_;rintro e w' ⟨rfl,rfl⟩;go_wp21;refine C.mono ?_;rintro e N ⟨rfl,y,A⟩;go_wp21;refine(D _ A).mono ?_;rintro e Y ⟨rfl,H,o⟩;have j:=y.trans H;have E:=qw r R a m g p d Y o (Q.kept j) V x K;go_wp21;refine E.mono ?_;rintro e O ⟨rfl,q⟩;have l:=j.trans (q.mono (by simp));have B:Hid (Rd O r R a m):=o.kept q (by simp);have F:=y7 r (R.cs.extract ps n) O (by simp;omega) (T.kept l);go_wp21;refine F.mono ?_;rintro e Z ⟨rfl,u⟩;have z:=l.trans (u.mono (by simp));have G:Hid (Rd Z r R a m):=B.kept u (by simp);go_wp2;go_ret;exact⟨rfl,z,G⟩
def zN (s:fY):fY:=
 if Lib.hasSuffix s.data.toList [45,45,33]then ⟨(Lib.trimSuffix s.data.toList [45,45,33]).toArray⟩
 else if Lib.hasSuffix s.data.toList [45,45]then ⟨(Lib.trimSuffix s.data.toList [45,45]).toArray⟩
 else if Lib.hasSuffix s.data.toList [45]then ⟨(Lib.trimSuffix s.data.toList [45]).toArray⟩else s
def Vn (s:fY) (w:gm) (q:s.size<=1048576):
  Calls prog 294 #[gu s] w λe w'=>e=ig (gu (zN s))/\Kept [] w w':=by
 have a:=(λw=>Tryz.strings_CutSuffix s ⟨#[45,45,33]⟩ w (by omega));have d:=(λw=>Tryz.strings_CutSuffix s ⟨#[45,45]⟩ w (by omega));have h:=(λw=>Tryz.strings_CutSuffix s ⟨#[45]⟩ w (by omega));have j:Hid (Kept [] w (w.alloc (.cells #[gu ⟨#[45,45,33]⟩,gu ⟨#[45,45]⟩,gu ⟨#[45]⟩] 9))):=(Kept.refl _ _).alloc _;unfold zN;simp only at a d h;cases h1:Lib.hasSuffix s.data.toList [45,45,33]
 .rw[h1]at a;cases h2:Lib.hasSuffix s.data.toList [45,45]
  .rw[h2]at d;cases h3:Lib.hasSuffix s.data.toList [45]
   .rw[h3]at h;simp only[ru,↓reduceIte];generalize Lib.trimSuffix s.data.toList [45,45,33]=l at *;generalize Lib.trimSuffix s.data.toList [45,45]=o at *;generalize Lib.trimSuffix s.data.toList [45]=p at *;go_enter func294,ntmps294;go_wp21;refine xO 4 ?_;rw[pj];go_wp21;refine(a _).mono ?_;rintro e w' ⟨rfl,rfl⟩;go_wp21;rw[pj];go_wp21;refine(d _).mono ?_;rintro e w' ⟨rfl,rfl⟩;go_wp21;rw[pj];go_wp21;refine(h _).mono ?_;rintro e w' ⟨rfl,rfl⟩;go_wp21;rw[pj];go_wp2;go_ret;exact⟨rfl,j⟩
   .rw[h3]at h;simp only[ru,↓reduceIte];generalize Lib.trimSuffix s.data.toList [45,45,33]=l at *;generalize Lib.trimSuffix s.data.toList [45,45]=o at *;generalize Lib.trimSuffix s.data.toList [45]=p at *;go_enter func294,ntmps294;go_wp21;refine xO 4 ?_;rw[pj];go_wp21;refine(a _).mono ?_;rintro e w' ⟨rfl,rfl⟩;go_wp21;rw[pj];go_wp21;refine(d _).mono ?_;rintro e w' ⟨rfl,rfl⟩;go_wp21;rw[pj];go_wp21;refine(h _).mono ?_;rintro e w' ⟨rfl,rfl⟩;go_wp2;go_ret;exact⟨rfl,j⟩
  .rw[h2]at d;simp only[ru,↓reduceIte];generalize Lib.trimSuffix s.data.toList [45,45,33]=l at *;generalize Lib.trimSuffix s.data.toList [45,45]=o at *;go_enter func294,ntmps294;go_wp21;refine xO 4 ?_;rw[pj];go_wp21;refine(a _).mono ?_;rintro e w' ⟨rfl,rfl⟩;go_wp21;rw[pj];go_wp21;refine(d _).mono ?_;rintro e w' ⟨rfl,rfl⟩;go_wp2;go_ret;exact⟨rfl,j⟩
 .rw[h1]at a;simp only[↓reduceIte];generalize Lib.trimSuffix s.data.toList [45,45,33]=l at *;go_enter func294,ntmps294;go_wp21;refine xO 4 ?_;rw[pj];go_wp21;refine(a _).mono ?_;rintro e w' ⟨rfl,rfl⟩;go_wp2;go_ret;exact⟨rfl,j⟩
def e1:fY:=oT
def e2:fY:=⟨#[45,45,33,62]⟩
def uB (R:RC) (i:Nat):Nat:=
 if i < R.cs.size then (if pre (R.cs.extract i R.cs.size) e1=true then i+3 else if pre (R.cs.extract i R.cs.size) e2=true then i+4 else uB R (i+1))else i
  termination_by R.cs.size - i
def qi (R:RC) (a i:Nat):fY:=
 if i < R.cs.size then (if pre (R.cs.extract i R.cs.size) e1=true then R.cs.extract a i else if pre (R.cs.extract i R.cs.size) e2=true then R.cs.extract a i else qi R a (i+1))else zN (R.cs.extract a R.cs.size)
  termination_by R.cs.size - i
def aec:i<=uB R i:=by
 fun_induction uB R i<;>omega
def aed (h:i<=R.cs.size):uB R i<=R.cs.size:=by
 fun_induction uB R i with
 |case1 i h1 h2=>exact lO (p:=e1) h2 h
 |case2 i h1 h2 h3=>exact lO (p:=e2) h3 h
 |case3 i h1 h2 h3 ih=>omega
 |case4=>exact h
def YL (h:i<=R.cs.size):uB R i=R.cs.size\/(i < uB R i/\bt R.cs (uB R i - 1)=62):=by
 fun_induction uB R i with
 |case1 i h1 h2=>right;exact⟨by omega,FY (p:=e1) (j:=2) h2 (by decide)⟩
 |case2 i h1 h2 h3=>right;exact⟨by omega,FY (p:=e2) (j:=3) h3 (by decide)⟩
 |case3 i h1 h2 h3 ih=>omega
 |case4 i h1=>omega
theorem aiT (h:i < R.cs.size) (a:pre (R.cs.extract i R.cs.size) e1=true):uB R i=i+3:=by grind[uB]
theorem aiU (h:i < R.cs.size) (a:pre (R.cs.extract i R.cs.size) e1=false) (d:pre (R.cs.extract i R.cs.size) e2=true):uB R i=i+4:=by grind[uB]
theorem aiV (h:i < R.cs.size) (a:pre (R.cs.extract i R.cs.size) e1=false) (d:pre (R.cs.extract i R.cs.size) e2=false):uB R i=uB R (i+1):=by grind[uB]
theorem ahn {a : Nat} (h:i < R.cs.size) (d:pre (R.cs.extract i R.cs.size) e1=true):qi R a i=R.cs.extract a i:=by grind[qi]
theorem aho {a : Nat} (h:i < R.cs.size) (d:pre (R.cs.extract i R.cs.size) e1=false) (j:pre (R.cs.extract i R.cs.size) e2=true):qi R a i=R.cs.extract a i:=by grind[qi]
theorem ahp {a : Nat} (h:i < R.cs.size) (d:pre (R.cs.extract i R.cs.size) e1=false) (j:pre (R.cs.extract i R.cs.size) e2=false):qi R a i=qi R a (i+1):=by grind[qi]
def DW (r:Nat) (R:RC) (y ps:Nat) (w:gm) (h:Rd w r R y ps) (hp:ps<=R.cs.size) (hs:R.cs.size<=1024):
  Calls prog 246 #[gE r] w λe w'=>e=ig (gu (qi R ps ps))/\Kept [r] w w'/\Rd w' r R y (uB R ps):=by
 have p0:=h.ps;have H:=h;obtain⟨ce,W⟩:∃x,x=uB R ps:=⟨_,rfl⟩;obtain⟨Z,Y⟩:∃x,x=qi R ps ps:=⟨_,rfl⟩;rw[<-W,<-Y];go_enter func246,ntmps246;go_wp21
 go_loopw [] (λwr=>∃i:Nat,ps<=i/\i<=R.cs.size/\uB R i=ce/\qi R ps i=Z/\Rd wr r R y i/\Kept [r] w wr) (λwr=>R.cs.size - (match wr.cell? ⟨r,3,none⟩with|some v=>(intOf v).toNat|none=>0))
 case atStart=>exact⟨ps,gL _,hp,W.symm,Y.symm,H,Kept.refl _ _⟩
 case round=>
  have⟨i,hi0,hi1,hcc,hcx,HR,HKW⟩:=hrel;have G:=fM hcc;have I:=fM hcx;have t:=HR.text;have p:=HR.ps;have fz:=HR.free 3;clear hcc hcx;by_cases e:i=R.cs.size
  .have K:decide (i=R.cs.size)=true:=by simp[e]
   have C:=pq r R y i wr HR;rw[K]at C;have hx:Z=zN (R.cs.extract ps R.cs.size):=by rw[<-I.out,qi,gH (by omega)]
   have hy:ce=i:=by rw[<-G.out,uB,gH (by omega)]
   have Hx:=fM hx;have Hy:=fM hy;clear hx hy;have a0:=e;have D:=(λw'=>Vn (R.cs.extract ps R.cs.size) w' (by simp;omega));go_wp21;refine C.mono ?_;rintro e U ⟨rfl,q,rfl⟩;go_wp21;refine(D _).mono ?_;rintro e V ⟨rfl,j⟩;go_wp2;go_ret;exact⟨by rw[Hx.out];rfl,(HKW.drewN q).trans (j.mono (by simp)),by rw[Hy.out];exact j.at (show Rd (wr.drewN q) r R y i from HR) (by simp)⟩
  .have l:i < R.cs.size:=by omega
   have K:decide (i=R.cs.size)=false:=by simp[e]
   have C:=pq r R y i wr HR;rw[K]at C;have z:=(λw' (h:Rd w' r R y i)=>lR r R y i e1 w' h hi1 hs (by decide));have B:=(λw' (h:Rd w' r R y i)=>lR r R y i e2 w' h hi1 hs (by decide));cases h1:pre (R.cs.extract i R.cs.size) e1
   .have Q:taken R e1 i=i:=by unfold taken;rw[gH (by simp[h1])]
    rw[h1,Q]at z;cases h2:pre (R.cs.extract i R.cs.size) e2
    .have T:taken R e2 i=i:=by unfold taken;rw[gH (by simp[h2])]
     rw[h2,T]at B;have HS:=fM (aiV l h1 h2);have u:=fM (ahp (a:=ps) l h1 h2);unfold e1 at z;unfold e2 at B;go_wp21;refine C.mono ?_;rintro e U ⟨rfl,q,rfl⟩;go_wp21
     go_quiet (fail)
     go_wp21;refine(z _ ?_).mono ?_
     .exact HR
     rintro e V ⟨rfl,j,A⟩;go_wp21;refine(B _ A).mono ?_;rintro e w3 ⟨rfl,J,d⟩;have p3:=d.ps;have f3:=d.free 3;have F:=Rd.Oa d (i+1);have o:=((HKW.drewN (q+nq)).trans (j.trans J)).setCell (p:=⟨r,3,none⟩) (.inl (by simp)) (fV ((i+1:Nat)));go_wp2;go_roundw
     case rel=>exact⟨i+1,by omega,by omega,by rw[<-HS.out,G.out],by rw[<-u.out,I.out],F,o⟩
     case measure=>
      have m1:=F.ps;rw[show((i:Int)+1)=((i+1:Nat):Int)from by omega,m1,p];simp[intOf];omega
    .have T:taken R e2 i=i+4:=by unfold taken;rw[gv h2];rfl
     rw[h2,T]at B;have HS:=fM (aiU l h1 h2);have u:=fM (aho (a:=ps) l h1 h2);unfold e1 at z;unfold e2 at B;go_wp21;refine C.mono ?_;rintro e U ⟨rfl,q,rfl⟩;go_wp21
     go_quiet (fail)
     go_wp21;refine(z _ ?_).mono ?_
     .exact HR
     rintro e V ⟨rfl,j,A⟩;go_wp21;refine(B _ A).mono ?_;rintro e w3 ⟨rfl,O,d⟩;have o:=((HKW.drewN (q+nq)).trans (j.trans O));go_wp2;go_ret;exact⟨by rw[<-I.out,u.out];rfl,o,by rw[<-G.out,HS.out];exact d⟩
   .have Q:taken R e1 i=i+3:=by unfold taken;rw[gv h1];rfl
    rw[h1,Q]at z;have HS:=fM (aiT l h1);have u:=fM (ahn (a:=ps) l h1);unfold e1 at z;go_wp21;refine C.mono ?_;rintro e U ⟨rfl,q,rfl⟩;go_wp21
    go_quiet (fail)
    go_wp21;refine(z _ ?_).mono ?_
    .exact HR
    rintro e V ⟨rfl,N,d⟩;have o:=((HKW.drewN (q+nq)).trans N);go_wp2;go_ret;exact⟨by rw[<-I.out,u.out];rfl,o,by rw[<-G.out,HS.out];exact d⟩
def od (R:RC) (ps:Nat):Nat:=if pre (R.cs.extract ps R.cs.size) iO=true then ps+1 else if pre (R.cs.extract ps R.cs.size) zq=true then ps+2 else uB R ps
def oF (R:RC) (ps:Nat):fY:=if pre (R.cs.extract ps R.cs.size) iO=true then ⟨#[]⟩else if pre (R.cs.extract ps R.cs.size) zq=true then ⟨#[]⟩else qi R ps ps
def Nf (h:ps<=R.cs.size):od R ps<=R.cs.size:=by
 unfold od;split
 .rename_i a;exact lO a h
 .split
  .rename_i a;exact lO a h
  .exact aed h
def YQ:ps<=od R ps:=by
 unfold od;split
 .omega
 .split
  .omega
  .exact aec
def Rf (h:ps<=R.cs.size):od R ps=R.cs.size\/(ps < od R ps/\bt R.cs (od R ps - 1)=62):=by
 unfold od;split
 .rename_i a;exact .inr ⟨by omega,FY (j:=0) a (by decide)⟩
 .split
  .rename_i a;exact .inr ⟨by omega,FY (j:=1) a (by decide)⟩
  .exact YL h
theorem Sz (s:fY):(zN s).size<=s.size:=by
 have h:∀p,(ByteArray.mk (Lib.trimSuffix s.data.toList p).toArray).size<=s.size:=by
  intro p;show(Lib.trimSuffix s.data.toList p).toArray.size<=s.data.size;unfold Lib.trimSuffix;split
  .simp
  .simp
 grind[zN]
def UI {a : Nat}:(qi R a i).size<=R.cs.size:=by
 fun_induction qi R a i with
 |case1=>simp;omega
 |case2=>simp;omega
 |case3=>omega
 |case4=>exact jH (Sz _) (by simp)
def OT:(oF R ps).size<=R.cs.size:=by
 unfold oF;split
 .exact iM _
 .split
  .exact iM _
  .exact UI
def Mh (r:Nat) (R:RC) (h m g j:Nat) (a:Nat->Nat) (w p:gm) (hA:M5 w r R g j a) (B:Gl w r) (C:h<=R.cs.size) (D:m<=R.cs.size) (F:R.cs.size<=1024) (y:Kept [r] w p) (q:Rd p r R h m) (t:fY) (G:t.size<=1048576):
  (Calls prog 79 #[gE r] p λe o=>e=ig (.agg #[fV (a h),fV (a m)])/\Kept [r] w o/\Rd o r R h m/\
   Calls prog 149 #[gu t] o λe x=>e=ig (gu (ph t))/\Kept [r] w x/\Rd x r R h m):=by
 refine(qw r R h m g j a p q (hA.kept y) C D F).mono ?_;rintro e o ⟨z,d⟩;have u:=y.trans (d.mono (by simp));refine⟨z,u,q.kept d (by simp),?_⟩;refine(y7 r t o G (B.kept u)).mono ?_;rintro e x ⟨A,l⟩;exact⟨A,u.trans (l.mono (by simp)),(q.kept d (by simp)).kept l (by simp)⟩
theorem Rh (r:Nat) (R:RC) (j ps g G:Nat) (l:Nat->Nat) (w:gm) (h:Rd w r R j ps) (hA:M5 w r R g G l) (W:Gl w r) (Y:j<=R.cs.size) (N:ps<=R.cs.size) (O:R.cs.size<=1024):
  Calls prog 156 #[gE r] w λe w'=>e=ig (.iface 193 (.agg #[fV (l j),fV (l (od R ps)),gu (ph (oF R ps))]))/\Kept [r] w w'/\Rd w' r R j (od R ps):=by
 have C:=lR r R j ps iO w h N O (by decide);have D:=(λw' (h:Rd w' r R j ps)=>lR r R j ps zq w' h N O (by decide));have J:=(λw' (h:Rd w' r R j ps)=>DW r R j ps w' h N O);have F:=(λo (Z:Kept [r] w o) (hr:Rd o r R j (od R ps))=>Mh r R j (od R ps) g G l w o hA W Y (Nf N) O Z hr (oF R ps) (jH OT (by omega)));clear h hA W;cases h1:pre (R.cs.extract ps R.cs.size) iO
 .have B:taken R iO ps=ps:=by unfold taken;rw[gH (by simp[h1])]
  rw[h1,B]at C;cases h2:pre (R.cs.extract ps R.cs.size) zq;have I:taken R zq ps=ps:=by unfold taken;rw[gH (by simp[h2])]
  rw[h2,I]at D;have p:od R ps=uB R ps:=by unfold od;rw[gH (by simp[h1]),gH (by simp[h2])]
  have q:oF R ps=qi R ps ps:=by unfold oF;rw[gH (by simp[h1]),gH (by simp[h2])]
  rw[<-p,<-q]at J;clear h1 h2 B I p q;generalize od R ps=m at *;generalize oF R ps=t at *;go_enter func156,ntmps156;go_wp21;refine C.mono ?_;rintro e w1 ⟨rfl,x,y⟩;go_wp21;refine(D _ y).mono ?_;rintro e w2 ⟨rfl,H,U⟩;have Q:=x.trans H;clear H;go_wp21;refine(J _ U).mono ?_;rintro e o ⟨rfl,a,d⟩;have K:=F o (Q.trans a) d
  rotate_left
  have I:taken R zq ps=ps+2:=by unfold taken;rw[gv h2];rfl
  rw[h2,I]at D;have p:od R ps=ps+2:=by unfold od;rw[gH (by simp[h1]),gv h2]
  have q:oF R ps=⟨#[]⟩:=by unfold oF;rw[gH (by simp[h1]),gv h2]
  rw[p,q]at F|-;clear h1 h2 B I p q J;go_enter func156,ntmps156;go_wp21;refine C.mono ?_;rintro e w1 ⟨rfl,x,y⟩;go_wp21;refine(D _ y).mono ?_;rintro e o ⟨rfl,a,d⟩;have K:=F o (x.trans a) d
  all_goals
   clear a d;go_wp21;refine K.mono ?_;rintro e w4 ⟨rfl,z,A,u⟩;clear z A;go_wp21;refine u.mono ?_;rintro e w5 ⟨rfl,T,V⟩;go_wp2;go_ret;simp_all
 .have B:taken R iO ps=ps+1:=by unfold taken;rw[gv h1];rfl
  rw[h1,B]at C;have p:od R ps=ps+1:=by unfold od;rw[gv h1]
  have q:oF R ps=⟨#[]⟩:=by unfold oF;rw[gv h1]
  rw[p,q]at F|-;clear h1 B p q D J;go_enter func156,ntmps156;go_wp21;refine C.mono ?_;rintro e o ⟨rfl,a,d⟩;have K:=F o a d;clear a d;go_wp21;refine K.mono ?_;rintro e w4 ⟨rfl,z,A,u⟩;clear z A;go_wp21;refine u.mono ?_;rintro e w5 ⟨rfl,T,V⟩;go_wp2;go_ret;simp_all
section
open Go.Shelf Go.Lib
def Ql (s:fY):fY:=⟨(Lib.trimS s.data.toList [32,9,10,12]).toArray⟩
def adj (s:fY) (w:gm) (j:s.size<=1048576):
  Calls prog 250 #[gu s,gu mU] w λe w'=>e=ig (gu (Ql s))/\Kept [] w w':=by
 have a:=Any.strings_Trim_laid Tryz.lays160 (by kernel_rfl) s mU w (by omega) (by decide) (ascii_of_all (by decide));exact a.mono λe w' ⟨d,h⟩=>⟨d,Kept.B9 h⟩
def dtA (R:RC) (ps:Nat):Nat:=scan (λc=>!jq mU c) R.cs ps
def Hc (R:RC) (ps:Nat):Nat:=scan (jq mJ) R.cs (dtA R ps)
def abe (h:ps<=R.cs.size):dtA R ps<=R.cs.size:=p6 h
def JX (h:ps<=R.cs.size):Hc R ps<=R.cs.size:=p6 (abe h)
def aht:ps<=Hc R ps:=jH us us
end
section
open Go.Shelf Go.Lib
def UJ (R:RC) (ps:Nat):fY:=ph (small (R.cs.extract (dtA R ps) (Hc R ps)))
def dtQ (R:RC) (ps:Nat):Bool:=((UJ R ps).toList==[])||!((Ql (R.cs.extract (Hc R ps) (scan (jq iO) R.cs (Hc R ps)))).toList==[])||!(pre (R.cs.extract (scan (jq iO) R.cs (Hc R ps)) R.cs.size) iO)
def Mk (r:Nat) (R:RC) (d ps g z:Nat) (j:Nat->Nat) (w:gm) (h:Rd w r R d ps) (hA:M5 w r R g z j) (hG:Gl w r) (hb:d<=R.cs.size) (q:ps<=R.cs.size) (I:R.cs.size<=1024):
  Calls prog 158 #[gE r] w λe w'=>e=ig (.iface 195 (.agg #[fV (j d),fV (j (rZ R (Hc R ps))),gu (UJ R ps),.bool (dtQ R ps)]))/\Kept [r] w w'/\Rd w' r R d (rZ R (Hc R ps)):=by
 have A:UJ R ps=ph (small (R.cs.extract (dtA R ps) (Hc R ps))):=rfl;have hQ:dtQ R ps=(((UJ R ps).toList==[])||!((Ql (R.cs.extract (Hc R ps) (scan (jq iO) R.cs (Hc R ps)))).toList==[])||!(pre (R.cs.extract (scan (jq iO) R.cs (Hc R ps)) R.cs.size) iO)):=rfl;generalize dtQ R ps=qk at *;generalize UJ R ps=a6 at *;have K:=wQ r R d ps mU w h q I;rw[show scan (λc=>!jq mU c) R.cs ps=dtA R ps from rfl]at K;have N:=(λ(w':gm) (h:Rd w' r R d (dtA R ps))=>Ai r R d (dtA R ps) mJ w' h (abe q) I);rw[show scan (jq mJ) R.cs (dtA R ps)=Hc R ps from rfl]at N;have C3:=(λ(w':gm) (h:Rd w' r R d (Hc R ps))=>Ai r R d (Hc R ps) iO w' h (JX q) I);have a5:scan (jq iO) R.cs (Hc R ps)<=R.cs.size:=p6 (JX q);have D:=(λ(J:gm) (hr:Rd J r R d (scan (jq iO) R.cs (Hc R ps)))=>lR r R d _ iO J hr a5 I (by decide));rw[show taken R iO (scan (jq iO) R.cs (Hc R ps))=rZ R (Hc R ps)from rfl]at D;have H:rZ R (Hc R ps)<=R.cs.size:=Kn (JX q);have h3:Hc R ps<=R.cs.size:=JX q;have HA:=hA;have HG:=hG;clear h hA hG;generalize rZ R (Hc R ps)=m at *;generalize scan (jq iO) R.cs (Hc R ps)=n at *;generalize Hc R ps=b at *;generalize dtA R ps=a at *;go_enter func158,ntmps158;go_wp21;refine K.mono ?_;rintro e w1 ⟨rfl,T,Z⟩;clear K;go_wp21;refine(pD _ w1).mono ?_;rintro e w' ⟨rfl,rfl⟩;go_wp21;refine(N _ Z).mono ?_;rintro e J ⟨rfl,B,a0⟩;have u:=T.trans B;clear B N;have O:=zV r (R.cs.extract a b) J (by simp;omega) (HG.kept u);rw[<-A]at O;clear A;go_wp21;refine O.mono ?_;rintro e w3 ⟨rfl,l⟩;have U:=u.trans (l.mono (by simp));have a1:=a0.kept l (by simp);clear l O;go_wp21;refine(pD _ w3).mono ?_;rintro e w' ⟨rfl,rfl⟩;go_wp21;refine(C3 _ a1).mono ?_;rintro e w4 ⟨rfl,C,a2⟩;have V:=U.trans C;clear C C3;have Q:=adj (R.cs.extract b n) w4 (by simp;omega);generalize Ql (R.cs.extract b n)=mo at Q hQ;go_wp21;refine Q.mono ?_;rintro e w5 ⟨rfl,o⟩;have W:=V.trans (o.mono (by simp));have a3:=a2.kept o (by simp);clear o Q;go_wp21;refine(D _ a3).mono ?_;rintro e w6 ⟨rfl,G,y⟩;have x:=W.trans G;clear G D;have F:=qw r R d m g z j w6 y (HA.kept x) hb H I;generalize pre (R.cs.extract n R.cs.size) iO=cl at *;go_wp21;refine F.mono ?_;rintro e w7 ⟨rfl,p⟩;have Y:=x.trans (p.mono (by simp));have a4:=y.kept p (by simp);clear p F;have HQ:=fM hQ;clear hQ;cases h1:(a6.toList==[])<;>cases h2:(mo.toList==[])<;>cases cl
 all_goals go_wp2
 all_goals go_ret
 all_goals exact⟨by rw[HQ.out,h1,h2];rfl,Y,a4⟩
end
section
open Go.Shelf Go.Lib
def QD (n:Int):Int:=if n=0\/(55296<=n/\n<=57343)\/n>=1114112 then 65533 else if n=128 then 8364 else if n=133 then 8230 else if n=145 then 8216 else if n=146 then 8217 else if n=147 then 8220 else if n=148 then 8221 else if n=150 then 8211 else if n=151 then 8212 else if n=153 then 8482 else n
def rD {x n : Int} (h:x=QD n):Ending.returned (.int .i32 x)=ig (.int .i32 (QD n)):=by rw[h]
theorem aa8 {n : Int} (x:¬n=0) (y:n < 55296) (a:(n==128)=false) (d:(n==133)=false) (h:(n==145)=false) (j:(n==146)=false) (l:(n==147)=false) (o:(n==148)=false) (p:(n==150)=false) (q:(n==151)=false) (u:(n==153)=false):QD n=n:=by
 grind[QD]
theorem Mg (n:Int) (w:gm) (j:0<=n) (l:n<=1114112):
  Calls prog 305 #[fV n] w λe w'=>e=ig (.int .i32 (QD n))/\w'=w:=by
 by_cases a:n=0
 .subst a;go_enter func305,ntmps305;go_wp2;go_ret;simp[QD]
 .by_cases b:55296<=n
  .by_cases d:n<=57343
   .go_enter func305,ntmps305;go_wp2;go_ret;exact⟨rD (by unfold QD;omega),rfl⟩
   .by_cases h:n>=1114112
    .go_enter func305,ntmps305;go_wp2;go_ret;exact⟨rD (by unfold QD;omega),rfl⟩
    .go_enter func305,ntmps305;go_wp2;go_ret;exact⟨rD (by grind[QD]),rfl⟩
  .go_enter func305,ntmps305;go_wp2
   all_goals
    (go_ret
     first
     |exact⟨rD (by rw[Wv ‹(n==128)=true›];rfl),rfl⟩
     |exact⟨rD (by rw[Wv ‹(n==133)=true›];rfl),rfl⟩
     |exact⟨rD (by rw[Wv ‹(n==145)=true›];rfl),rfl⟩
     |exact⟨rD (by rw[Wv ‹(n==146)=true›];rfl),rfl⟩
     |exact⟨rD (by rw[Wv ‹(n==147)=true›];rfl),rfl⟩
     |exact⟨rD (by rw[Wv ‹(n==148)=true›];rfl),rfl⟩
     |exact⟨rD (by rw[Wv ‹(n==150)=true›];rfl),rfl⟩
     |exact⟨rD (by rw[Wv ‹(n==151)=true›];rfl),rfl⟩
     |exact⟨rD (by rw[Wv ‹(n==153)=true›];rfl),rfl⟩
     |exact⟨rD (aa8 a b ‹(n==128)=false› ‹(n==133)=false› ‹(n==145)=false› ‹(n==146)=false› ‹(n==147)=false› ‹(n==148)=false› ‹(n==150)=false› ‹(n==151)=false› ‹(n==153)=false›).symm,rfl⟩)
def lj (c:Int):Int:=if 48<=c/\c<=57 then c - 48 else if 97<=c/\c<=102 then c - 87 else if 65<=c/\c<=70 then c - 55 else 99
theorem Eo (c:Int):0<=lj c/\lj c<=99:=by grind[lj]
theorem JH (c:Int) (w:gm) (h:0<=c) (j:c<=255):
  Calls prog 337 #[.int .u8 c] w λe w'=>e=ig (.bool (decide (48<=c/\c<=57)))/\w'=w:=by
 by_cases a:48<=c<;>by_cases d:c<=57
 all_goals first|(exfalso;omega)|skip
 all_goals (go_enter func337,ntmps337;go_wp2;go_ret;simp_all)
def YU (c:Int) (w:gm) (l:0<=c) (o:c<=255):
  Calls prog 304 #[.int .u8 c] w λe w'=>e=ig (fV (lj c))/\w'=w:=by
 have C:=JH c w l o;by_cases a:48<=c/\c<=57
 .rw[show decide (48<=c/\c<=57)=true from by simp[a]]at C;have e:lj c=c - 48:=by unfold lj;rw[gv a]
  rw[e];clear e;have⟨a1,a2⟩:=a;go_enter func304,ntmps304;go_wp21;refine C.mono ?_;rintro e w' ⟨rfl,rfl⟩;go_wp2;go_ret;simp
 .rw[show decide (48<=c/\c<=57)=false from by simp;omega]at C;by_cases b:97<=c
  .by_cases h:c<=102;have e:lj c=c - 97+10:=by unfold lj;rw[gH a,gv ⟨b,h⟩];omega
   rotate_left
   have e:lj c=99:=by unfold lj;rw[gH a,gH (by omega),gH (by omega)]
   all_goals
    rw[e];clear e a;go_enter func304,ntmps304;go_wp21;refine C.mono ?_;rintro e w' ⟨rfl,rfl⟩;go_wp2;go_ret;simp
  .by_cases d:65<=c
   .by_cases j:c<=70;have e:lj c=c - 65+10:=by unfold lj;rw[gH a,gH (by omega),gv ⟨d,j⟩];omega
    rotate_left
    have e:lj c=99:=by unfold lj;rw[gH a,gH (by omega),gH (by omega)]
    all_goals
     rw[e];clear e a;go_enter func304,ntmps304;go_wp21;refine C.mono ?_;rintro e w' ⟨rfl,rfl⟩;go_wp2;go_ret;simp
   .have e:lj c=99:=by unfold lj;rw[gH a,gH (by omega),gH (by omega)]
    rw[e];clear e a;go_enter func304,ntmps304;go_wp21;refine C.mono ?_;rintro e w' ⟨rfl,rfl⟩;go_wp2;go_ret;simp
end
def xw (base:Int) (s:fY) (i:Nat):Nat:=scan (λc=>decide (lj c>=base)) s i
def pC (base:Int) (s:fY) (f:Nat):Nat:=
 if xw base s f=f then 0 else if xw base s f < s.size/\bt s (xw base s f)=59 then xw base s f+1 else xw base s f
def NI (s:fY):Bool:=decide (2 < s.size/\(bt s 2=120\/bt s 2=88))
def vA (s:fY):Nat:=if NI s=true then pC 16 s 3 else pC 10 s 2
theorem NR (h:f<=s.size):pC base s f<=s.size:=by
 have:=p6 (q:=λc=>decide (lj c>=base)) h;unfold pC;grind[xw]
def Vq (h:2<=s.size):vA s<=s.size:=by
 unfold vA;split
 .rename_i a;unfold NI at a;simp at a;exact NR (by omega)
 .exact NR h
def xB (base:Int) (s:fY) (k:Int) (i:Nat):Int:=
 if i < s.size then (if lj (bt s i)>=base then k else xB base s (min (k*base+lj (bt s i)) 1114112) (i+1))else k
  termination_by s.size - i
def SB {k : Int} (h:¬i < s.size):xB base s k i=k:=by rw[xB,gH h]
theorem NS {k : Int} (h:i < s.size) (a:lj (bt s i)>=base):xB base s k i=k:=by grind[xB]
theorem Xz {k : Int} (h:i < s.size) (a:¬lj (bt s i)>=base):xB base s (min (k*base+lj (bt s i)) 1114112) (i+1)=xB base s k i:=by grind[xB]
def PC (base:Int) (s:fY) (f:Nat):fY:=if pC base s f=0 then ⟨#[]⟩else Utf8.encode (QD (xB base s 0 f))
def vB (s:fY):fY:=if NI s=true then PC 16 s 3 else PC 10 s 2
def OX (c:Int):(Utf8.encode c).size<=16:=by
 unfold Utf8.encode;dsimp only;generalize (if Utf8.valid c=true then c.toNat else Utf8.runeError)=k
 repeat' split
 all_goals first|(show 1<=16;omega)|(show 2<=16;omega)|(show 3<=16;omega)|(show 4<=16;omega)
def MG (s:fY):(vB s).size<=16:=by
 unfold vB PC
 repeat' split
 all_goals first|exact OX _|(show 0<=16;omega)
theorem rN {t d : fY} {a : Nat} {m : Int} (h:t=d) (j:n=a) (l:m=(a:Int)):Ending.returned (.tuple #[gu t,fV m])=ig (.tuple #[gu d,fV n]):=by grind
theorem Le (s:fY) (w:gm) (hs:s.size<=1048576) (h2:2<=s.size):
  Calls prog 253 #[gu s] w λe w'=>e=ig (.tuple #[gu (vB s),fV (vA s)])/\w'=w:=by
 have a0:=get_bt s;obtain⟨Y,a1,a5⟩:∃Y:Int->fY,(∀c,Y c=Utf8.encode c)/\∀(c:Int) (w:gm),(convert 21 9 (.int .i32 c)).run prog w= .ok (gu (Y c)) w:=⟨_,λ_=>rfl,λc w=>run_convert_int_string w 21 9 .i32 c (by simp) underlying9⟩;have I:=fM a1;clear a1;have D:=(λc (N:0<=c) (O:c<=255)=>YU c w N O);have G:=(λn (N:0<=n) (O:n<=1114112)=>Mg n w N O);by_cases W:NI s=true
 .have e:vA s=pC 16 s 3:=by unfold vA;rw[gv W]
  have e':vB s=PC 16 s 3:=by unfold vB;rw[gv W]
  rw[e,e'];clear e e';unfold NI at W;have⟨V,K⟩:=of_decide_eq_true W;clear W;obtain⟨F,y⟩:∃x,x=pC 16 s 3:=⟨_,rfl⟩;obtain⟨H,B⟩:∃x,x=PC 16 s 3:=⟨_,rfl⟩;have A:H=if F=0 then ⟨#[]⟩else Utf8.encode (QD (xB 16 s 0 3)):=by rw[B,y,PC]
  rw[<-y,<-B];have l:=fM y;have p:=fM A;clear y B A;rcases K with K|K
  all_goals
   go_enter func253,ntmps253;go_wp21
   go_loopw [6,7] (λnv iv wr=>wr=w/\∃(k:Int) (i:Nat),nv=fV k/\iv=fV i/\0<=k/\k<=1114112/\3<=i/\i<=s.size/\xw 16 s i=xw 16 s 3/\xB 16 s k i=xB 16 s 0 3) (λ_ iv _=>s.size - (intOf iv).toNat)
   case atStart=>grind
   case round=>
    obtain⟨rfl,k,i,rfl,rfl,Q,T,a3,a4,hd,hv⟩:=hrel;have Z:=fM hd;have HV:=fM hv;clear hd hv;by_cases j:i < s.size
    .have hb:=a0 i j;have N:=bt_nonneg s i;have O:=bt_le s i;have r:=Eo (bt s i);have C:=D (bt s i) N O;by_cases J:lj (bt s i)>=16
     .have e1:xw 16 s i=i:=Lo (by simpa using J);have e2:xw 16 s 3=i:=by rw[<-Z.out,e1]
      have u:xB 16 s 0 3=k:=by rw[<-HV.out,NS j J]
      by_cases z:i=3
      .have a:F=0:=by rw[l.out];unfold pC;rw[e2,gv z]
       have o:=fM a;have q:=fM (show H=⟨#[]⟩ by rw[p.out,gv a]);clear e1 e2 a u;subst z;go_wp21;refine C.mono ?_;rintro e w' ⟨rfl,rfl⟩;go_wp2;go_ret2;exact⟨rN q.symm o rfl,rfl⟩
      .have HG:=G k Q T;by_cases U:bt s i=59;have a:F=i+1:=by rw[l.out];unfold pC;rw[e2,gH z,gv ⟨j,U⟩]
       have o:=fM a;have q:=fM (show H=Y (QD k) by rw[p.out,gH (by omega),u,I.out]);rw[U]at C hb N O r J;rw[show lj 59=99 from by decide]at C;clear e1 e2 a u r J N O
       rotate_left
       have a:F=i:=by rw[l.out];unfold pC;rw[e2,gH z,gH (by omega)]
       have o:=fM a;have q:=fM (show H=Y (QD k) by rw[p.out,gH (by omega),u,I.out]);clear e1 e2 a u
       all_goals
        go_wp21;refine C.mono ?_;rintro e w' ⟨rfl,rfl⟩;go_wp21;refine HG.mono ?_;rintro e w' ⟨rfl,rfl⟩;go_wp2;go_ret2;exact⟨rN q.symm o rfl,rfl⟩
     .have e1:xw 16 s (i+1)=xw 16 s 3:=by rw[<-Z.out];exact(PV j (by simpa using J)).symm
      have HU:xB 16 s (min (k*16+lj (bt s i)) 1114112) (i+1)=xB 16 s 0 3:=by rw[Xz j J,HV.out]
      have o:=fM e1;clear e1;generalize lj (bt s i)=d at *;go_wp21;refine C.mono ?_;rintro e w' ⟨rfl,rfl⟩;go_wp2
      all_goals (refine⟨⟨trivial,min (k*16+d) 1114112,i+1,?_,by go_num,by omega,by omega,by omega,by omega,o,HU⟩,?_⟩;(first|rfl|(congr 1;omega));(simp[intOf];omega))
    .have e1:xw 16 s i=i:=Fu (by omega);have e2:xw 16 s 3=i:=by rw[<-Z.out,e1]
     have u:xB 16 s 0 3=k:=by rw[<-HV.out,SB j]
     have HG:=G k Q T;have e0:i=s.size:=by omega
     by_cases z:i=3
     .have a:F=0:=by rw[l.out];unfold pC;rw[e2,gv z]
      have o:=fM a;have q:=fM (show H=⟨#[]⟩ by rw[p.out,gv a]);clear e1 e2 a u e0;subst z
      first
       |(exfalso;omega)
       |(go_wp2
         go_ret2;exact⟨rN q.symm o rfl,rfl⟩)
     .have a:F=i:=by rw[l.out];unfold pC;rw[e2,gH z,gH (by omega)]
      have o:=fM a;have q:=fM (show H=Y (QD k) by rw[p.out,gH (by omega),u,I.out]);clear e1 e2 a u e0;go_wp21;refine HG.mono ?_;rintro e w' ⟨rfl,rfl⟩;go_wp2;go_ret2;exact⟨rN q.symm o rfl,rfl⟩
 .have e:vA s=pC 10 s 2:=by unfold vA;rw[gH W]
  have e':vB s=PC 10 s 2:=by unfold vB;rw[gH W]
  rw[e,e'];clear e e';have V:¬(2 < s.size/\(bt s 2=120\/bt s 2=88)):=by unfold NI at W;simpa using W
  clear W;obtain⟨F,y⟩:∃x,x=pC 10 s 2:=⟨_,rfl⟩;obtain⟨H,B⟩:∃x,x=PC 10 s 2:=⟨_,rfl⟩;have A:H=if F=0 then ⟨#[]⟩else Utf8.encode (QD (xB 10 s 0 2)):=by rw[B,y,PC]
  rw[<-y,<-B];have l:=fM y;have p:=fM A;clear y B A;by_cases hz:2 < s.size
  .have K:¬bt s 2=120:=λh=>V ⟨hz,.inl h⟩;have a2:¬bt s 2=88:=λh=>V ⟨hz,.inr h⟩;have a6:(bt s 2==120)=false:=beq_eq_false_iff_ne.2 K;have a7:(bt s 2==88)=false:=beq_eq_false_iff_ne.2 a2;clear V K a2;go_enter func253,ntmps253;go_wp21
   go_loopw [6,7] (λnv iv wr=>wr=w/\∃(k:Int) (i:Nat),nv=fV k/\iv=fV i/\0<=k/\k<=1114112/\2<=i/\i<=s.size/\xw 10 s i=xw 10 s 2/\xB 10 s k i=xB 10 s 0 2) (λ_ iv _=>s.size - (intOf iv).toNat)
   case atStart=>grind
   case round=>
    obtain⟨rfl,k,i,rfl,rfl,Q,T,a3,a4,hd,hv⟩:=hrel;have Z:=fM hd;have HV:=fM hv;clear hd hv;by_cases j:i < s.size
    .have hb:=a0 i j;have N:=bt_nonneg s i;have O:=bt_le s i;have r:=Eo (bt s i);have C:=D (bt s i) N O;by_cases J:lj (bt s i)>=10
     .have e1:xw 10 s i=i:=Lo (by simpa using J);have e2:xw 10 s 2=i:=by rw[<-Z.out,e1]
      have u:xB 10 s 0 2=k:=by rw[<-HV.out,NS j J]
      by_cases z:i=2
      .have a:F=0:=by rw[l.out];unfold pC;rw[e2,gv z]
       have o:=fM a;have q:=fM (show H=⟨#[]⟩ by rw[p.out,gv a]);clear e1 e2 a u;subst z;go_wp21;refine C.mono ?_;rintro e w' ⟨rfl,rfl⟩;go_wp2;go_ret2;exact⟨rN q.symm o rfl,rfl⟩
      .have HG:=G k Q T;by_cases U:bt s i=59;have a:F=i+1:=by rw[l.out];unfold pC;rw[e2,gH z,gv ⟨j,U⟩]
       have o:=fM a;have q:=fM (show H=Y (QD k) by rw[p.out,gH (by omega),u,I.out]);rw[U]at C hb N O r J;rw[show lj 59=99 from by decide]at C;clear e1 e2 a u r J N O
       rotate_left
       have a:F=i:=by rw[l.out];unfold pC;rw[e2,gH z,gH (by omega)]
       have o:=fM a;have q:=fM (show H=Y (QD k) by rw[p.out,gH (by omega),u,I.out]);clear e1 e2 a u
       all_goals
        go_wp21;refine C.mono ?_;rintro e w' ⟨rfl,rfl⟩;go_wp21;refine HG.mono ?_;rintro e w' ⟨rfl,rfl⟩;go_wp2;go_ret2;exact⟨rN q.symm o rfl,rfl⟩
     .have e1:xw 10 s (i+1)=xw 10 s 2:=by rw[<-Z.out];exact(PV j (by simpa using J)).symm
      have HU:xB 10 s (min (k*10+lj (bt s i)) 1114112) (i+1)=xB 10 s 0 2:=by rw[Xz j J,HV.out]
      have o:=fM e1;clear e1;generalize lj (bt s i)=d at *;go_wp21;refine C.mono ?_;rintro e w' ⟨rfl,rfl⟩;go_wp2
      all_goals (refine⟨⟨trivial,min (k*10+d) 1114112,i+1,?_,by go_num,by omega,by omega,by omega,by omega,o,HU⟩,?_⟩;(first|rfl|(congr 1;omega));(simp[intOf];omega))
    .have e1:xw 10 s i=i:=Fu (by omega);have e2:xw 10 s 2=i:=by rw[<-Z.out,e1]
     have u:xB 10 s 0 2=k:=by rw[<-HV.out,SB j]
     have HG:=G k Q T;have e0:i=s.size:=by omega
     by_cases z:i=2
     .have a:F=0:=by rw[l.out];unfold pC;rw[e2,gv z]
      have o:=fM a;have q:=fM (show H=⟨#[]⟩ by omega);clear e1 e2 a u e0;subst z
      first
       |(exfalso;omega)
       |(go_wp2
         go_ret2;exact⟨rN q.symm o rfl,rfl⟩)
     .have a:F=i:=by rw[l.out];unfold pC;rw[e2,gH z,gH (by omega)]
      have o:=fM a;have q:=fM (show H=Y (QD k) by rw[p.out,gH (by omega),u,I.out]);clear e1 e2 a u e0;go_wp21;refine HG.mono ?_;rintro e w' ⟨rfl,rfl⟩;go_wp2;go_ret2;exact⟨rN q.symm o rfl,rfl⟩
  .clear V;have n0:xw 10 s 2=2:=Fu (by omega);have n1:F=0:=by rw[l.out];unfold pC;rw[gv n0]
   have n2:H=⟨#[]⟩:=by rw[p.out,gv n1]
   have e0:s.size=2:=by omega
   have o:=fM n1;have q:=fM n2;clear n0 n1 n2;go_enter func253,ntmps253;go_wp21;refine xO 1 ?_;rw[pj];go_wp2;go_ret2;exact⟨rN q.symm o rfl,rfl⟩
def quoted (R:RC) (q:fY) (ps:Nat):Nat:=taken R q (scan (jq q) R.cs (ps+1))
def tq (R:RC) (ps:Nat):Nat:=
 if pre (R.cs.extract ps R.cs.size) nZ=true then quoted R nZ ps else if pre (R.cs.extract ps R.cs.size) tV=true then quoted R tV ps else scan (jq mJ) R.cs ps
def NZ {q : fY} (h:ps < R.cs.size):quoted R q ps<=R.cs.size:=TR (p6 (by omega))
def NY {q : fY}:ps<=quoted R q ps:=jH (by omega) (jH (us (i:=ps+1)) TQ)
def PI {p : fY} (h:pre (s.extract ps s.size) p=true) (a:ps<=s.size) (d:0 < p.size):ps < s.size:=by
 have:=lO h a;omega
def ZK (h:ps<=R.cs.size):tq R ps<=R.cs.size:=by
 unfold tq;split
 .rename_i a;exact NZ (PI a h (by decide))
 .split
  .rename_i a;exact NZ (PI a h (by decide))
  .exact p6 h
def ZJ:ps<=tq R ps:=by
 unfold tq;split
 .exact NY
 .split
  .exact NY
  .exact us
def nk (R:RC) (ps:Nat):fY:=
 if pre (R.cs.extract ps R.cs.size) nZ=true then R.cs.extract (ps+1) (scan (jq nZ) R.cs (ps+1))else if pre (R.cs.extract ps R.cs.size) tV=true then R.cs.extract (ps+1) (scan (jq tV) R.cs (ps+1))else R.cs.extract ps (scan (jq mJ) R.cs ps)
def DI:(nk R ps).size<=R.cs.size:=by
 unfold nk;repeat' split
 all_goals (simp;omega)
def Ld (r:Nat) (R:RC) (a ps:Nat) (q:fY) (C:q.size=1) (w w1:gm) (B:Kept [r] w w1) (h:Rd w1 r R a (ps+1)) (x:ps+1<=R.cs.size) (y:R.cs.size<=1024):
  Calls prog 249 #[gE r,.func (.func 251) #[] #[gE w1.heap.size]] (w1.alloc (.cells #[gu q] 9))
   λe p=>e=ig (gu (R.cs.extract (ps+1) (scan (jq q) R.cs (ps+1))))/\
    Calls prog 82 #[gE r,gu q] p λe u=>(∃b,e=ig (.bool b))/\Kept [r] w u/\Rd u r R a (quoted R q ps):=by
 refine(Ai r R a (ps+1) q w1 h x y).mono ?_;rintro e p ⟨z,d,l⟩;refine⟨z,?_⟩;refine(lR r R a _ q p l (p6 x) y (by omega)).mono ?_;rintro e u ⟨A,j,o⟩;exact⟨⟨_,A⟩,(B.trans d).trans j,o⟩
theorem PR (r:Nat) (R:RC) (j ps:Nat) (w:gm) (h:Rd w r R j ps) (I:ps<=R.cs.size) (J:R.cs.size<=1024):
  Calls prog 356 #[gE r] w λe w'=>e=ig (gu (nk R ps))/\Kept [r] w w'/\Rd w' r R j (tq R ps):=by
 have hr:=iQ h;obtain⟨B,q⟩:∃B,B=w.alloc (.cells #[gu nZ,gu tV] 9):=⟨_,rfl⟩;have N:Kept [] w B:=by rw[q];exact(Kept.refl _ _).alloc _
 have O:B.heap[w.heap.size]?=some (gz #[gu nZ,gu tV] 9):=by rw[q];exact fP w _
 have r0:Rd B r R j ps:=N.at h (by simp);have z0:w.heap.size < B.heap.size:=iQ O;have HW:=fM q.symm;clear q;have F:=lR r R j ps nZ B r0 I J (by decide);have G:=(λw' (h:Rd w' r R j ps)=>lR r R j ps tV w' h I J (by decide));have c0:=fN O 0;dsimp at c0;have HB:=fM O;have HZ:=fM z0;clear h O z0 r0;cases h1:pre (R.cs.extract ps R.cs.size) nZ
 .have D:taken R nZ ps=ps:=by unfold taken;rw[gH (by simp[h1])]
  rw[h1,D]at F;cases h2:pre (R.cs.extract ps R.cs.size) tV
  .have K:taken R tV ps=ps:=by unfold taken;rw[gH (by simp[h2])]
   rw[h2,K]at G;have u:tq R ps=scan (jq mJ) R.cs ps:=by unfold tq;rw[gH (by simp[h1]),gH (by simp[h2])]
   have U:=(λw' (h:Rd w' r R j ps)=>Ai r R j ps mJ w' h I J);rw[<-u]at U;have x:nk R ps=R.cs.extract ps (tq R ps):=by unfold nk;rw[gH (by simp[h1]),gH (by simp[h2]),u]
   rw[x];clear h1 h2 D K u x;generalize tq R ps=m at *;go_enter func356,ntmps356;go_wp21;refine xO 3 ?_;rw[pj,HW.out];go_wp21;refine F.mono ?_;rintro e o ⟨rfl,d,z⟩;have c1:o.cell? ⟨w.heap.size,1,none⟩=some (gu tV):=by rw[d.cell (p:=⟨w.heap.size,1,none⟩) HZ.out (by simp;omega),fN HB.out];rfl
   have y:=(N.mono (S':=[r]) (by simp)).trans d;clear d;go_wp21;rw[pj];go_wp21;refine(G _ z).mono ?_;rintro e C ⟨rfl,a,W⟩;have Q:=y.trans a;clear a;go_wp21;rw[pj];go_wp21;refine(pD _ C).mono ?_;rintro e w' ⟨rfl,rfl⟩;go_wp21;refine(U _ W).mono ?_;rintro e w3 ⟨rfl,H,a1⟩;have a0:=Q.trans H;clear H;go_wp2;go_ret;simp_all
  .have K:taken R tV ps=ps+1:=by unfold taken;rw[gv h2];rfl
   rw[h2,K]at G;have u:tq R ps=quoted R tV ps:=by unfold tq;rw[gH (by simp[h1]),gv h2]
   have x:nk R ps=R.cs.extract (ps+1) (scan (jq tV) R.cs (ps+1)):=by unfold nk;rw[gH (by simp[h1]),gv h2]
   rw[u,x];have A:=PI h2 I (by decide);clear h1 h2 D K u x;have U:=(λo (hk:Kept [r] w o) (h:Rd o r R j (ps+1))=>Ld r R j ps tV rfl w o hk h A J);generalize R.cs.extract (ps+1) (scan (jq tV) R.cs (ps+1))=t at *;generalize quoted R tV ps=m at *;go_enter func356,ntmps356;go_wp21;refine xO 3 ?_;rw[pj,HW.out];go_wp21;refine F.mono ?_;rintro e o ⟨rfl,d,z⟩;have c1:o.cell? ⟨w.heap.size,1,none⟩=some (gu tV):=by rw[d.cell (p:=⟨w.heap.size,1,none⟩) HZ.out (by simp;omega),fN HB.out];rfl
   have y:=(N.mono (S':=[r]) (by simp)).trans d;clear d;go_wp21;rw[pj];go_wp21;refine(G _ z).mono ?_;rintro e C ⟨rfl,a,l⟩;have V:=U C (y.trans a) l;clear a l;go_wp21;refine(pD _ C).mono ?_;rintro e w' ⟨rfl,rfl⟩;go_wp21;refine V.mono ?_;rintro e w3 ⟨rfl,Z⟩;go_wp21;refine Z.mono ?_;rintro e w4 ⟨⟨b,rfl⟩,T,Y⟩;go_wp2;go_ret;simp_all
 .have D:taken R nZ ps=ps+1:=by unfold taken;rw[gv h1];rfl
  rw[h1,D]at F;have u:tq R ps=quoted R nZ ps:=by unfold tq;rw[gv h1]
  have x:nk R ps=R.cs.extract (ps+1) (scan (jq nZ) R.cs (ps+1)):=by unfold nk;rw[gv h1]
  rw[u,x];have A:=PI h1 I (by decide);clear h1 D u x G;have U:=(λo (hk:Kept [r] w o) (h:Rd o r R j (ps+1))=>Ld r R j ps nZ rfl w o hk h A J);generalize R.cs.extract (ps+1) (scan (jq nZ) R.cs (ps+1))=t at *;generalize quoted R nZ ps=m at *;go_enter func356,ntmps356;go_wp21;refine xO 3 ?_;rw[pj,HW.out];go_wp21;refine F.mono ?_;rintro e C ⟨rfl,a,l⟩;have V:=U C ((N.mono (S':=[r]) (by simp)).trans a) l;clear a l;go_wp21;refine(pD _ C).mono ?_;rintro e w' ⟨rfl,rfl⟩;go_wp21;refine V.mono ?_;rintro e w3 ⟨rfl,Z⟩;go_wp21;refine Z.mono ?_;rintro e w4 ⟨⟨b,rfl⟩,T,Y⟩;go_wp2;go_ret;simp_all
def R3 (s:fY):Bool:=decide (0 < s.size)&&(decide (bt s 0=61)||decide (97<=bt s 0/\bt s 0<=122\/65<=bt s 0/\bt s 0<=90)||decide (48<=bt s 0/\bt s 0<=57))
theorem U5 (s:fY) (w:gm):
  Calls prog 306 #[gu s] w λe w'=>e=ig (.bool (R3 s))/\w'=w:=by
 have d:=get_bt s;by_cases p:0 < s.size
 .have j:=bt_nonneg s 0;have l:=bt_le s 0;have z:=d 0 p;have o:s.toList.isEmpty=false:=by
   rw[sK];cases h:s.data.toList with
   |nil=>
    exfalso;have e1:s.data.toList.length=0:=by rw[h];rfl
    rw[Qt]at e1;have e2:s.data.size=s.size:=rfl;omega
   |cons=>rfl
  have x:¬s.toList=[]:=by intro h;rw[h]at o;cases o
  have L:=KI (bt s 0) w j l;have D:=JH (bt s 0) w j l;have u:R3 s=(decide (bt s 0=61)||decide (97<=bt s 0/\bt s 0<=122\/65<=bt s 0/\bt s 0<=90)||decide (48<=bt s 0/\bt s 0<=57)):=by unfold R3;simp[p]
  rw[u];by_cases a:bt s 0=61
  .rw[show decide (bt s 0=61)=true from by simp[a]];go_enter func306,ntmps306;go_wp2;go_ret;simp
  .rw[show decide (bt s 0=61)=false from by simp[a]];have y:(bt s 0==61)=false:=beq_eq_false_iff_ne.2 a;cases hl:decide (97<=bt s 0/\bt s 0<=122\/65<=bt s 0/\bt s 0<=90)
   .rw[hl]at L;cases hd:decide (48<=bt s 0/\bt s 0<=57)
    all_goals
     rw[hd]at D;go_enter func306,ntmps306;go_wp21;refine L.mono ?_;rintro e w' ⟨rfl,rfl⟩;go_wp21;refine D.mono ?_;rintro e w' ⟨rfl,rfl⟩;go_wp2;go_ret;simp
   .rw[hl]at L;go_enter func306,ntmps306;go_wp21;refine L.mono ?_;rintro e w' ⟨rfl,rfl⟩;go_wp2;go_ret;simp
 .have q:s=⟨#[]⟩:=Qx (yD (by simp_all));subst q;go_enter func306,ntmps306;go_wp2;go_ret;exact⟨rfl,rfl⟩
def uW (look:fY->Option fY) (s:fY) (inV:Bool):Nat->Nat
 |0=>0
 |k+1=>if (look (s.extract 1 (1+(k+1)))).isSome=true then (if (inV&&decide (bt s (k+1)≠59)&&R3 (s.extract (1+(k+1)) s.size))=true then 0 else 1+(k+1))else uW look s inV k
theorem Zw:uW look s inV k<=k+1:=by
 induction k with
 |zero=>simp[uW]
 |succ k ih=>
  grind[uW]
def wg (look:fY->Option fY) (s:fY) (inV:Bool):Nat->fY
 |0=>⟨#[]⟩
 |k+1=>if (look (s.extract 1 (1+(k+1)))).isSome=true then (if (inV&&decide (bt s (k+1)≠59)&&R3 (s.extract (1+(k+1)) s.size))=true then ⟨#[]⟩else (look (s.extract 1 (1+(k+1)))).getD ⟨#[]⟩)else wg look s inV k
theorem Py (h:∀x t,look x=some t->t.size<=16):(wg look s inV k).size<=16:=by
 induction k with
 |zero=>exact iM _
 |succ k ih=>
  unfold wg;split
  .split
   .exact iM _
   .rename_i a _;have⟨t,ht⟩:=Option.isSome_iff_exists.1 a;grind
  omega
def Ta (b lg:Nat) (look:fY->Option fY) (s:fY) (inV:Bool) (w:gm) (hL:Lk w b look) (a3:lg<=1048576) (hs:s.size<=1048576) (h1:1<=s.size):
  Calls prog 254 #[.agg #[.map (some b),fV lg],gu s,.bool inV] w λe w'=>e=ig (.tuple #[gu (wg look s inV (min lg (s.size - 1))),fV (uW look s inV (min lg (s.size - 1)))])/\Kept [] w w':=by
 have V:=get_bt s;have HL:=hL;clear hL;obtain⟨H,y⟩:∃H,H=min lg (s.size - 1):=⟨_,rfl⟩;have a0:min (lg:Int) ((s.size:Int) - 1)=(H:Int):=by rw[y];omega
 have K:H<=s.size - 1:=by rw[y];exact Nat.min_le_right ..
 rw[<-y];clear y;obtain⟨m,Y⟩:∃m,m=uW look s inV H:=⟨_,rfl⟩;rw[<-Y];obtain⟨u,Z⟩:∃u,u=wg look s inV H:=⟨_,rfl⟩;rw[<-Z];have W:∀wr,Kept [w.heap.size] (w.alloc (.cells #[.map (some b),fV lg] 157)) wr->True:=λ_ _=>trivial;clear W;go_enter func254,ntmps254;go_wp21
 go_loopw [8] (λv wr=>∃k:Nat,v=fV k/\k<=s.size - 1/\uW look s inV k=m/\wg look s inV k=u/\Kept [] (w.alloc (.cells #[.map (some b),fV lg] 157)) wr) (λv _=>(intOf v).toNat)
 case atStart=>exact⟨H,by rfl,K,Y.symm,Z.symm,Kept.refl _ _⟩
 case round=>
  obtain⟨k,rfl,hk,N,O,l⟩:=hrel;have T:=fM N;have D:=fM O;have F:=fP w (.cells #[.map (some b),fV lg] 157);have c0:=fN (l.at F (by simp)) 0;dsimp at c0;have a4:w.heap.size < wr.heap.size:=iQ (l.at F (by simp));have q:Hid (Lk wr b look):=(HL.kept ((Kept.refl [] w).alloc _) (by simp)).kept l (by simp);clear N O F;cases k with
  |zero=>
   have A:m=0:=T.symm;have B:=(show u=⟨#[]⟩from D.symm);go_wp2;go_ret2;exact⟨rN B.symm A rfl,((Kept.refl [] w).alloc _).trans l⟩
  |succ j=>
   have J:=q.lt;have z:=q.run (s.extract 1 (1+(j+1))) wr rfl;have h:=q.run (s.extract 1 (1+(j+1))) wr.drew rfl;have d:=λo=>q.run (s.extract 1 (1+(j+1))) (wr.alloc o) (Below.heap_alloc wr o b J);have a:=λo=>q.run (s.extract 1 (1+(j+1))) (wr.alloc o).drew (Below.heap_alloc wr o b J);cases hlo:look (s.extract 1 (1+(j+1)))with
   |none=>
    rw[hlo]at z h;simp only[hlo]at d a;have U:uW look s inV j=m:=by rw[<-T.out,uW,gH (by simp[hlo])]
    have I:=(show wg look s inV j=u by rw[<-D.out,wg,gH (by simp[hlo])]);clear hlo;simp only[Option.getD_none,Option.isSome_none]at z h d a;go_wp21;go_region
    all_goals (try go_wp2)
    exact⟨⟨j,rfl,by omega,U,I,(l.alloc _).drew⟩,by simp[intOf]⟩
   |some t=>
    rw[hlo]at z h;simp only[hlo]at d a;have Q:Hid (m=if (inV&&decide (bt s (j+1)≠59)&&R3 (s.extract (1+(j+1)) s.size))=true then 0 else 1+(j+1)):=by
     rw[<-T.out,uW,gv (by simp[hlo])];exact rfl
    have x:Hid (u=if (inV&&decide (bt s (j+1)≠59)&&R3 (s.extract (1+(j+1)) s.size))=true then ⟨#[]⟩else t):=by
     rw[<-D.out,wg,gv (by simp[hlo]),hlo];exact rfl
    clear hlo;simp only[Option.getD_some,Option.isSome_some]at z h d a;have C:Hid (Kept [] w (wr.alloc (.cells #[gu t] 202)).drew):=(((Kept.refl [] w).alloc _).trans (l.alloc _)).drew;have hj:j+1 < s.size:=by omega
    have a2:=V (j+1) hj;cases inV
    .have A:m=1+(j+1):=by rw[Q.out];simp
     have B:=(show u=t by rw[x.out];simp);go_wp21;go_region
     all_goals (try go_wp2)
     all_goals (try go_ret2)
     all_goals exact⟨rN B.symm A rfl,C⟩
    .by_cases p:bt s (j+1)=59
     .have A:m=1+(j+1):=by rw[Q.out];simp[p]
      have B:=(show u=t by rw[x.out];simp[p]);go_wp21;go_region
      all_goals (try go_wp2)
      all_goals (try go_ret2)
      all_goals exact⟨rN B.symm A rfl,C⟩
     .have a1:(bt s (j+1) != 59)=true:=by rw[bne_iff_ne];exact p
      have G:=U5 (s.extract (1+(j+1)) s.size) (wr.alloc (.cells #[gu t] 202)).drew;cases hg:R3 (s.extract (1+(j+1)) s.size);have A:m=1+(j+1):=by rw[Q.out];simp[hg]
      have B:=(show u=t by rw[x.out];simp[hg])
      rotate_left
      have A:m=0:=by rw[Q.out];simp[hg,p]
      have B:=(show u=⟨#[]⟩ by rw[x.out];simp[hg,p])
      all_goals
       rw[hg]at G;clear hg p;go_wp21;go_region
       all_goals (try (go_wp21))
       all_goals (refine G.mono ?_;rintro e w' ⟨rfl,rfl⟩)
       all_goals (try go_wp2)
       all_goals (try go_ret2)
       all_goals exact⟨rN B.symm A rfl,C⟩
def mj (look:fY->Option fY) (lg:Nat) (s:fY) (inV:Bool):Nat:=
 if pre s ⟨#[38,35]⟩=true then vA s else if pre s uK=true then uW look s inV (min lg (s.size - 1))else 0
def DJ:mj look lg s inV<=s.size:=by
 unfold mj;split
 .rename_i h;exact Vq (Gr h)
 .split
  .rename_i h;have a:1<=s.size:=Gr h;have d:=Zw (look:=look) (s:=s) (inV:=inV) (k:=min lg (s.size - 1));omega
  simp
def oN (look:fY->Option fY) (lg:Nat) (s:fY) (inV:Bool):fY:=
 if pre s ⟨#[38,35]⟩=true then vB s else if pre s uK=true then wg look s inV (min lg (s.size - 1))else ⟨#[]⟩
def yx (h:∀x t,look x=some t->t.size<=16):(oN look lg s inV).size<=16:=by
 unfold oN;split
 .exact MG s
 .split
  .exact Py h
  .exact iM _
def Tc (b lg:Nat) (look:fY->Option fY) (s:fY) (inV:Bool) (w:gm) (G:Lk w b look) (z:lg<=1048576) (q:s.size<=1048576):
  Calls prog 161 #[.agg #[.map (some b),fV lg],gu s,.bool inV] w λe w'=>e=ig (.tuple #[gu (oN look lg s inV),fV (mj look lg s inV)])/\Kept [] w w':=by
 obtain⟨d,a⟩:∃d,d=w.alloc (.cells #[.map (some b),fV lg] 157):=⟨_,rfl⟩;have l:d.heap[w.heap.size]?=some (gz #[.map (some b),fV lg] 157):=by rw[a];exact fP w _
 have o:Kept [] w d:=by rw[a];exact(Kept.refl _ _).alloc _
 have D:=fN l 0;have F:=fN l 1;dsimp at D F;have x:=fM a.symm;have B:=G.kept o (by simp);have h:=vq s ⟨#[38,35]⟩ d q (by decide);have p:=vq s uK d q (by decide);clear a;cases h1:pre s ⟨#[38,35]⟩
 .rw[h1]at h;cases h2:pre s uK
  .rw[h2]at p;have e:mj look lg s inV=0:=by unfold mj;rw[gH (by simp[h1]),gH (by simp[h2])]
   have j:oN look lg s inV=⟨#[]⟩:=by unfold oN;rw[gH (by simp[h1]),gH (by simp[h2])]
   rw[e,j];go_enter func161,ntmps161;go_wp21;rw[x.out];refine h.mono ?_;rintro e w' ⟨rfl,rfl⟩;go_wp21;refine p.mono ?_;rintro e w' ⟨rfl,rfl⟩;go_wp2;go_ret2;exact⟨rfl,o⟩
  .rw[h2]at p;have A:1<=s.size:=Gr h2;have e:mj look lg s inV=uW look s inV (min lg (s.size - 1)):=by unfold mj;rw[gH (by simp[h1]),gv h2]
   have j:oN look lg s inV=wg look s inV (min lg (s.size - 1)):=by unfold oN;rw[gH (by simp[h1]),gv h2]
   rw[e,j];have C:=Ta b lg look s inV d B z q A;generalize uW look s inV (min lg (s.size - 1))=m at *;generalize wg look s inV (min lg (s.size - 1))=t at *;go_enter func161,ntmps161;go_wp21;rw[x.out];refine h.mono ?_;rintro e w' ⟨rfl,rfl⟩;go_wp21;refine p.mono ?_;rintro e w' ⟨rfl,rfl⟩;go_wp21;refine C.mono ?_;rintro e H ⟨rfl,y⟩;have u:=o.trans y;go_wp2;go_ret2;exact⟨rfl,u⟩
 .rw[h1]at h;have A:2<=s.size:=Gr h1;have e:mj look lg s inV=vA s:=by unfold mj;rw[gv h1]
  have j:oN look lg s inV=vB s:=by unfold oN;rw[gv h1]
  rw[e,j];have C:=Le s d q A;generalize vA s=m at *;generalize vB s=t at *;go_enter func161,ntmps161;go_wp21;rw[x.out];refine h.mono ?_;rintro e w' ⟨rfl,rfl⟩;go_wp21;refine C.mono ?_;rintro e H ⟨rfl,rfl⟩;go_wp2;go_ret2;exact⟨rfl,o⟩
def qh (look:fY->Option fY) (lg:Nat) (s:fY):Nat:=if mj look lg s false=0 then 1 else mj look lg s false
theorem Ej:0 < qh look lg s:=by grind[qh]
def GY (h:0 < s.size):qh look lg s<=s.size:=by
 unfold qh;split
 .omega
 .exact DJ
def sD (look:fY->Option fY) (lg:Nat) (s:fY):fY:=if mj look lg s false=0 then s.extract 0 1 else oN look lg s false
structure aat (w:gm) (g n:Nat) (A:Nat->fY×fY):Prop where
 lt:0 < n->g < w.heap.size
 nm:∀i,i < n->w.cell? ⟨g,i*2,none⟩=some (gu (A i).1)
 vl:∀i,i < n->w.cell? ⟨g,i*2+1,none⟩=some (gu (A i).2)
def aat.kept {A : Nat->fY×fY} (h:aat w g n A) (a:Kept S w w') (d:g∉S):aat w' g n A:=
 ⟨λj=>lU (h.lt j) a.size,λi hi=>(a.cell (p:=⟨g,i*2,none⟩) (h.lt (by omega)) d).trans (h.nm i hi),λi hi=>(a.cell (p:=⟨g,i*2+1,none⟩) (h.lt (by omega)) d).trans (h.vl i hi)⟩
def oI (A:Nat->fY×fY) (n:Nat) (s:fY) (i:Nat):Bool:=if i < n then (if ((A i).1.toList==s.toList)=true then true else oI A n s (i+1))else false
  termination_by n - i
def aeC (x y:Int) (nm s:fY) (g n p:Nat) (A:Nat->fY×fY) (w:gm) (hA:aat w g n A) (I:n<=1048576):
  Calls prog 329 #[.agg #[fV x,fV y,gu nm,oo g n p],gu s] w λe w'=>e=ig (.bool (oI A n s 0))/\Kept [] w w':=by
 obtain⟨m,B⟩:∃m,m=oI A n s 0:=⟨_,rfl⟩;rw[<-B];have D:=hA;go_enter func329,ntmps329;go_wp21
 go_loopw [10] (λv wr=>∃k:Nat,v=fV k/\k<=n/\oI A n s k=m/\Kept [] w wr) (λv _=>n - (intOf v).toNat)
 case atStart=>exact⟨0,rfl,iM _,B.symm,(Kept.refl _ _).alloc _⟩
 case round=>
  obtain⟨k,rfl,H,z,l⟩:=hrel;have o:=fM z;have h:=l;by_cases a:k < n
  .have C:=D.kept l (by simp);have F:=C.nm k a;have G:=C.vl k a;clear z;cases he:((A k).1.toList==s.toList)
   .have e:oI A n s (k+1)=m:=by rw[<-o.out,oI.eq_1 A n s k,gv a,gH (by simp[he])]
    have j:=fM e;have q:¬(A k).1.toList=s.toList:=by simpa using he
    clear e;have d:=h.alloc (.cells #[gu (A k).1,gu (A k).2] 293);generalize (A k).1=u at *;generalize (A k).2=v at *;go_wp2;go_roundw
    case rel=>exact⟨k+1,by go_num,by omega,j,d⟩
    case measure=>simp[intOf];omega
   .have e:m=true:=by rw[<-o.out,oI.eq_1 A n s k,gv a,gv he]
    have j:=fM e;have q:(A k).1.toList=s.toList:=by simpa using he
    clear e;have d:=h.alloc (.cells #[gu (A k).1,gu (A k).2] 293);generalize (A k).1=u at *;generalize (A k).2=v at *;go_wp2;go_ret;exact⟨by rw[j.out];rfl,d⟩
  .have e:m=false:=by rw[<-o.out,oI.eq_1 A n s k,gH a]
   have j:=fM e;clear e z;go_wp2;go_ret;exact⟨by rw[j.out];rfl,h⟩
theorem Q8:(∃j,prog.info? 93=some j/\j.size≠0):=by
 have h:((prog.info? 93).map λi=>i.size)=some 2:=by kernel_rfl
 have⟨j,hj,h2⟩:=Option.map_eq_some_iff.1 h;grind
def OQ:liesAt prog prog.depth 93 (2 / prog.cellsOf 93) 0 93 1=true:=by kernel_rfl
theorem Mi (B b:Nat) (bs:List gG) (w:gm) (h:Lib.IsBuilder 93 5 B b bs w):
  Calls prog 351 #[gE b] w λe w'=>e=pL/\Lib.BuilderAt 93 5 B b (gE b) bs w'/\Below B w w':=by
 obtain⟨j,a,d⟩:=Q8;rcases h with h|h
 .have q:=h.cell0;have y:=h.frozen0;have l:=h.used (gE b);have o:=(Below.refl B w).setCell (p:=⟨b,0,none⟩) h.1 (gE b);have x:=l.cell0;have A:=Lib.run_to_unsafe (P:=prog) w (src:=91) (dst:=97) ⟨b,0,none⟩ underlying91 underlying97 a d h.shape (show 0 < 2 by decide);have z:=Lib.run_from_unsafe (P:=prog) w (src:=97) (dst:=91) ⟨b,0,none⟩ underlying97 underlying91 a h.shape OQ;have u:=DX (P:=prog) (w.setCell ⟨b,0,none⟩ (gE b)) (tp:=91) ⟨b,0,none⟩ underlying91 a;go_enter func351,ntmps351;go_wp2;rw[Ya func369 (by rfl) (by rfl) rfl (e:=Extern.AbiNoEscape.same) rfl];rw[Lib.run_noEscape];simp only[Result.andThen];rw[Oper.upon_value];go_wp2;go_end0;grind
 .have q:=h.cell0;have l:=h;have o:=Below.refl B w;have u:=DX (P:=prog) w (tp:=91) ⟨b,0,none⟩ underlying91 a;go_enter func351,ntmps351;go_wp2;go_end0;grind
theorem Az (B b:Nat) (bs:List gG) (s:fY) (w:gm) (h:Lib.IsBuilder 93 5 B b bs w) (y:bs.length+s.size<=1048576) (N:B<=w.heap.size):
  Calls prog 326 #[gE b,gu s] w λe w'=>e=ig (.tuple #[fV s.size,.nilIface])/\(Lib.BuilderAt 93 5 B b (gE b) (bs++Lib.strCells s) w'/\Below B w w'):=by
 have⟨i0,hi,hz0,hz1,hz2⟩:=uH Pf;have F:=h;go_enter func326,ntmps326;go_wp21;refine(Mi B b bs _ F).mono ?_;rintro e Q ⟨rfl,K,o⟩;have⟨hB,v,hbk,hown,hne⟩:=K;have G:=fN hbk 0;have H:=fN hbk 1;dsimp at G H;go_wp2_with (at_builtin;refine Lib.wpList_append_own_string _ rfl _ _ 55 9 rfl B 5 i0 underlying55 underlying9 hi hz0 hz1 hz2 _ _ _ rfl hown s rfl ?c3 ?c4 ?c5 ?_)
 case c3=>unfold maxLen;omega
 case c4=>omega
 case c5=>grind
 intro A C d a _;have q:b < Q.heap.size:=iQ hbk;have l:C.heap[b]?=some (gz #[gE b,v] 93):=by
  rw[a.block b q (λe=>hne e.symm)];exact hbk
 have J:=fN l 1;dsimp at J;have V:C.frozen? ⟨b,1,none⟩=false:=gh l 1;have U:=Lib.BuilderAt.put (T:=93) (e:=5) hB l (bs':=bs++Lib.strCells s) (by simpa [Lib.strCells_length]using d) (by decide);have D:=(o.grown a (by omega) (λk O=>(hown.lt k O).1)).setCell (p:=⟨b,1,none⟩) hB A;obtain⟨x,z,j,u⟩:∃x z j,A= .slice x z j:=by
  rcases d.2 with⟨u,_⟩|⟨g,j,I,u,_⟩
  all_goals grind
 subst u;go_wp2;go_ret2;simp_all
theorem acp {t : fY} (h:¬t.size=0):t.toList.isEmpty=false:=by
 rw[sK];cases hh:t.data.toList with
 |nil=>exact absurd (show t.data.size=0 by simp_all) h
 |cons=>rfl
def Qf:gG->Nat
 | .string t=>t.size
 |_=>0
def Kw {T e B : Nat} {bs : List gG} (h:Lib.IsBuilder T e B b bs w) (a:Kept [] w w'):Lib.IsBuilder T e B b bs w':=by
 rcases h with⟨d,v,j,l,o⟩|⟨d,v,j,l,o⟩
 .exact .inl ⟨d,v,a.at j (by simp),a.ownsRow l (λ_ _=>by simp),o⟩
 .exact .inr ⟨d,v,a.at j (by simp),a.ownsRow l (λ_ _=>by simp),o⟩
def Bq (l:List UInt8) (t:fY):Lib.byteCells l++Lib.strCells t=Lib.byteCells (l++t.data.toList):=by
 unfold Lib.byteCells Lib.strCells;simp
def wh (look:fY->Option fY) (lg:Nat) (s:fY):List UInt8:=
 if s.size=0 then []else if mj look lg s true=0 then (s.extract 0 1).data.toList++wh look lg (s.extract 1 s.size)else (oN look lg s true).data.toList++wh look lg (s.extract (mj look lg s true) s.size)
  termination_by s.size
  decreasing_by all_goals (simp;omega)
def Bx (h:∀x t,look x=some t->t.size<=16) (s:fY):(wh look lg s).length<=16*s.size:=by
 rw[wh];split
 .simp
 .split
  .have:=Bx h (s.extract 1 s.size);simp at this|-;omega
  .have:=Bx h (s.extract (mj look lg s true) s.size);have a:=yx (lg:=lg) (s:=s) (inV:=true) h;have e:(oN look lg s true).data.size=(oN look lg s true).size:=rfl;simp[e]at this|-;omega
  termination_by s.size
  decreasing_by all_goals (simp;omega)
def TW (b lg:Nat) (look:fY->Option fY) (s:fY) (w:gm) (hL:Lk w b look) (T:lg<=1048576) (hs:s.size<=1024):
  Calls prog 355 #[.agg #[.map (some b),fV lg],gu s] w λe w'=>e=ig (gu ⟨(wh look lg s).toArray⟩)/\Kept [] w w':=by
 obtain⟨a,j⟩:∃a,a=w.alloc (.cells #[.map (some b),fV lg] 157):=⟨_,rfl⟩;have D:a.heap[w.heap.size]?=some (gz #[.map (some b),fV lg] 157):=by rw[j];exact fP w _
 have HK:Kept [] w a:=by rw[j];exact(Kept.refl _ _).alloc _
 have z0:a.heap.size=w.heap.size+1:=by rw[j];simp
 have HL:=hL.kept HK (by simp);have HW:=fM j.symm;have z:=fM D;have N:=fM z0;clear j D z0;go_enter func355,ntmps355;go_wp21;rw[HW.out];have HN:=Lib.fresh_isBuilder 93 5 a;have I:=((Below.refl a.heap.size a).alloc (gL _) (.cells #[.pointer none,ji] 93));have ez:w.heap.size+1=a.heap.size:=N.symm
 try rw[ez]
 go_loopw [1] (λv wr=>∃(t:fY) (l:List UInt8),v=gu t/\t.size<=s.size/\l.length+16*t.size<=16*s.size/\l++wh look lg t=wh look lg s/\Lib.IsBuilder 93 5 a.heap.size a.heap.size (Lib.byteCells l) wr/\Below a.heap.size a wr) (λv _=>Qf v)
 case atStart=>exact⟨s,[],rfl,gL _,by simp,rfl,HN,I⟩
 case round=>
  obtain⟨t,l,rfl,ht,hl,H,Z,p⟩:=hrel;have q:=fM H;have c0:=fN ((Kept.B9 p).at z.out (by simp)) 0;have c1:=fN ((Kept.B9 p).at z.out (by simp)) 1;dsimp at c0 c1;clear H;by_cases O:t.size=0
  .have e0:t=⟨#[]⟩:=by
    apply Qx;exact yD O
   subst e0;have EL:=fM (show l=wh look lg s by rw[<-q.out,wh,gv (show jB.size=0 from rfl),FO]);have S:=Tryz.Builder_String_any a.heap.size a.heap.size l wr Z p.size;go_wp21;refine S.mono ?_;rintro e V ⟨rfl,Q⟩;have J:=HK.trans (Kept.B9 (p.trans Q));go_wp2;go_ret;exact⟨by rw[<-EL.out];rfl,J⟩
  .have a1:t.toList.isEmpty=false:=acp O;have C:=Tc b lg look t true wr (HL.kept (Kept.B9 p) (by simp)) T (by omega);have a2:=DJ (look:=look) (lg:=lg) (s:=t) (inV:=true);go_wp21;refine C.mono ?_;rintro e V ⟨rfl,F⟩;have HX:=yx (lg:=lg) (s:=t) (inV:=true) HL.short;have G:wh look lg t=if mj look lg t true=0 then (t.extract 0 1).data.toList++wh look lg (t.extract 1 t.size)else (oN look lg t true).data.toList++wh look lg (t.extract (mj look lg t true) t.size):=by rw[wh,gH O]
   have B:=fM G;clear G;generalize oN look lg t true=x at *;have A:=Kw Z F;have o:=p.trans (F.below p.size (by simp));generalize mj look lg t true=n at *;by_cases U:n=0
   .have u:=(show(l++(t.extract 0 1).data.toList)++wh look lg (t.extract 1 t.size)=wh look lg s by rw[<-q.out,B.out,gv U,wA]);subst U;have W:=Az a.heap.size a.heap.size (Lib.byteCells l) (t.extract 0 1) V A (by simp[Lib.byteCells];omega) o.size;go_wp21;refine W.mono ?_;rintro e Y ⟨rfl,y,h⟩;have K:=(show Lib.IsBuilder 93 5 a.heap.size a.heap.size (Lib.byteCells (l++(t.extract 0 1).data.toList)) Y from .inr (by rw[<-Bq];exact y));have d:=o.trans h;go_wp2;go_roundw
    case rel=>exact⟨_,_,rfl,by simp;omega,by simp;omega,u,K,d⟩
    case measure=>simp[Qf];omega
   .have a0:((n:Int)==0)=false:=beq_eq_false_iff_ne.2 (by omega);have u:=(show(l++x.data.toList)++wh look lg (t.extract n t.size)=wh look lg s by rw[<-q.out,B.out,gH U,wA]);have W:=Az a.heap.size a.heap.size (Lib.byteCells l) x V A (by have:=HX;simp[Lib.byteCells];omega) o.size;go_wp21;refine W.mono ?_;rintro e Y ⟨rfl,y,h⟩;have K:=(show Lib.IsBuilder 93 5 a.heap.size a.heap.size (Lib.byteCells (l++x.data.toList)) Y from .inr (by rw[<-Bq];exact y));have d:=o.trans h;go_wp2;go_roundw
    case rel=>exact⟨_,_,rfl,by simp;omega,by have:=HX;have e:x.data.size=x.size:=rfl;simp[e];omega,u,K,d⟩
    case measure=>simp[Qf];omega
def mQ (R:RC) (ps:Nat):Nat:=scan (λc=>!jq mU c) R.cs ps
def qc (R:RC) (ps:Nat):Nat:=if pre (R.cs.extract (mQ R ps) R.cs.size) ⟨#[61]⟩=true then tq R (mQ R (mQ R ps+1))else mQ R ps
def FH (h:ps<=R.cs.size):mQ R ps<=R.cs.size:=p6 h
def Qp:ps<=mQ R ps:=us
def aaa (h:ps<=R.cs.size):qc R ps<=R.cs.size:=by
 unfold qc;split
 .rename_i a;exact ZK (FH (lO a (FH h)))
 .exact FH h
def zn:ps<=qc R ps:=by
 unfold qc;split
 .have a:=Qp (R:=R) (ps:=ps);have d:=Qp (R:=R) (ps:=mQ R ps+1);have h:=ZJ (R:=R) (ps:=mQ R (mQ R ps+1));omega
 .exact Qp
def sV (look:fY->Option fY) (lg:Nat) (R:RC) (ps:Nat):fY:=if pre (R.cs.extract (mQ R ps) R.cs.size) ⟨#[61]⟩=true then ph ⟨(wh look lg (nk R (mQ R (mQ R ps+1)))).toArray⟩else ⟨#[]⟩
structure Nm (w:gm) (r:Nat) (R:RC) (b lg:Nat) (look:fY->Option fY):Prop where
 lk:Lk w b look
 ne:b≠r
 mv:R.mv= .map (some b)
 lgv:R.lg=lg
 le:lg<=1048576
def Nm.kept {r : Nat} (h:Nm w r R b lg look) (a:Kept [r] w w'):Nm w' r R b lg look:=
 ⟨h.lk.kept a (by simp[h.ne]),h.ne,h.mv,h.lgv,h.le⟩
theorem aac (r:Nat) (R:RC) (a ps b lg:Nat) (look:fY->Option fY) (w:gm) (h:Rd w r R a ps) (W:Nm w r R b lg look) (hG:Gl w r) (Z:ps<=R.cs.size) (D:R.cs.size<=1024):
  Calls prog 330 #[gE r] w λe w'=>e=ig (gu (sV look lg R ps))/\Kept [r] w w'/\Rd w' r R a (qc R ps):=by
 have V:=wQ r R a ps mU w h Z D;have l:=fM W;have HG:=hG;have K:=FH (R:=R) Z;clear W;cases he:pre (R.cs.extract (mQ R ps) R.cs.size) ⟨#[61]⟩
 .have J:qc R ps=mQ R ps:=by unfold qc;rw[gH (by simp[he])]
  have I:sV look lg R ps=⟨#[]⟩:=by unfold sV;rw[gH (by simp[he])]
  rw[J,I];have z:taken R ⟨#[61]⟩ (mQ R ps)=mQ R ps:=by unfold taken;rw[gH (by simp[he])]
  go_enter func330,ntmps330;go_wp21;refine V.mono ?_;rintro e U ⟨rfl,d,u⟩;have B:=lR r R a (mQ R ps) ⟨#[61]⟩ U u K D (by decide);rw[he,z]at B;go_wp21;refine B.mono ?_;rintro e w2 ⟨rfl,o,a0⟩;have A:=d.trans o;go_wp2;go_ret;simp_all
 .have J:qc R ps=tq R (mQ R (mQ R ps+1)):=by unfold qc;rw[gv he]
  have I:sV look lg R ps=ph ⟨(wh look lg (nk R (mQ R (mQ R ps+1)))).toArray⟩:=by unfold sV;rw[gv he]
  rw[J,I];have z:taken R ⟨#[61]⟩ (mQ R ps)=mQ R ps+1:=by unfold taken;rw[gv he];rfl
  have Y:mQ R ps+1<=R.cs.size:=lO he K;go_enter func330,ntmps330;go_wp21;refine V.mono ?_;rintro e U ⟨rfl,d,u⟩;have B:=lR r R a (mQ R ps) ⟨#[61]⟩ U u K D (by decide);rw[he,z]at B;go_wp21;refine B.mono ?_;rintro e w2 ⟨rfl,o,O⟩;have A:=d.trans o;have G:=wQ r R a (mQ R ps+1) mU w2 O Y D;go_wp21;refine G.mono ?_;rintro e F ⟨rfl,N,x⟩;have j:=A.trans N;have H:Hid (Rd F r R a (mQ R (mQ R ps+1))):=x;have hc:=FH (R:=R) Y;have mv:F.cell? ⟨r,5,none⟩=some (.map (some b)):=by rw[x.mv,l.out.mv]
  have lv:F.cell? ⟨r,6,none⟩=some (fV lg):=by rw[x.lg,l.out.lgv]
  have a1:=DI (R:=R) (ps:=mQ R (mQ R ps+1));have a2:=Bx (lg:=lg) l.lk.short (nk R (mQ R (mQ R ps+1)));have CR:=PR r R a (mQ R (mQ R ps+1)) F.drew (show Rd F.drew r R a _ from H) hc D;go_wp21
  go_region_with (first
   |(go_at_call 356;refine CR.mono ?_;rintro e w4 ⟨rfl,p,y⟩;have T:=y.mv;rw[l.out.mv]at T;have Q:=y.lg;rw[l.out.lgv]at Q)
   |(go_at_call 355;refine(TW b lg look _ _ (l.kept (j.drew.trans p)).lk l.le (by omega)).mono ?_;rintro e w5 ⟨rfl,q⟩)
   |(go_at_call 149;refine(y7 r _ _ (by simp[ByteArray.size];omega) ((HG.kept (j.drew.trans p)).kept (q.mono (by simp)))).mono ?_;rintro e w6 ⟨rfl,C⟩))
  all_goals (try go_wp2)
  all_goals (try go_ret)
  all_goals exact⟨rfl,(j.drew.trans p).trans ((q.trans C).mono (by simp)),(y.kept q (by simp)).kept C (by simp)⟩
def sq (L:la):List gG:=L.flatMap λp=>[gu p.1,gu p.2]
def L0 (L M:la):sq (L++M)=sq L++sq M:=by simp[sq]
theorem GR (L:la) (i:Nat) (h:i < L.length):(sq L)[i*2]?=some (gu (L[i]).1)/\(sq L)[i*2+1]?=some (gu (L[i]).2):=by
 induction L generalizing i with
 |nil=>simp at h
 |cons p L ih=>
  show(gu p.1::Value.string p.2::sq L)[i*2]?=_/\(gu p.1::Value.string p.2::sq L)[i*2+1]?=_;grind
def nth (ns:List fY) (i:Nat):fY×fY:=(ns.getD i ⟨#[]⟩,⟨#[]⟩)
def Pl (ns:List fY) (s:fY):Bool:=oI (nth ns) ns.length s 0
theorem Mt {A B : Nat->fY×fY} (h:∀i,i < n->(A i).1=(B i).1) (i:Nat):oI A n s i=oI B n s i:=by
 fun_induction oI A n s i with
 |case1 i hi he=>grind[oI]
 |case2 i hi he ih=>grind[oI]
 |case3 i hi=>grind[oI]
def abI (x y:Int) (nm s:fY) (w:gm):
  Calls prog 329 #[.agg #[fV x,fV y,gu nm,ji],gu s] w λe w'=>e=ig (.bool false)/\Kept [] w w':=by
 have d:=(Kept.refl [] w).alloc (.cells #[fV x,fV y,gu nm,ji] 189);go_enter func329,ntmps329;go_wp21
 go_loopw [10] (λv wr=>v=fV 0/\Kept [] w wr) (λv _=>0)
 case atStart=>exact⟨rfl,d⟩
 case round=>
  obtain⟨rfl,a⟩:=hrel;go_wp2;go_ret;exact⟨rfl,a⟩
def acr (L:la) (i:Nat):fY×fY:=L.getD i (⟨#[]⟩,⟨#[]⟩)
theorem Xd (base:Nat) (x y:Int) (nm s:fY) (h:gG) (L:la) (w:gm) (d:w.ownsRow base 293 2 h L.length (sq L)) (q:L.length<=1048576):
  Calls prog 329 #[.agg #[fV x,fV y,gu nm,h],gu s] w λe w'=>e=ig (.bool (Pl (L.map (·.1)) s))/\Kept [] w w':=by
 rcases d.2 with⟨rfl,l⟩|⟨g,a,j,rfl,o,p,_⟩
 .have e:Pl (L.map (·.1)) s=false:=by
   have:L=[]:=QB l;subst this;unfold Pl;rw[oI.eq_1];simp
  rw[e];exact abI x y nm s w
 .have hA:aat w g L.length (acr L):=by
   refine⟨λ_=>iQ p,λi hi=>?_,λi hi=>?_⟩
   .have:=d.cells (g:=g) rfl (i*2) _ (GR L i hi).1;rw[jj]at this;grind[acr]
   .have:=d.cells (g:=g) rfl (i*2+1) _ (GR L i hi).2;rw[jj]at this;grind[acr]
  have e:Pl (L.map (·.1)) s=oI (acr L) L.length s 0:=by
   unfold Pl;rw[wm];exact Mt (λi hi=>by simp[nth,acr,hi]) 0
  rw[e];exact aeC x y nm s g L.length a _ w hA q
structure Cm (w:gm) (base tb:Nat) (x y:Int) (nm:fY) (av:gG) (L:la):Prop where
 iw:w.heap[tb]?=some (gz #[fV x,fV y,gu nm,av] 189)
 own:w.ownsRow base 293 2 av L.length (sq L)
theorem Cm.kept {base d r : Nat} {x y : Int} {j : gG} (h:Cm w base d x y nm j L) (a:Kept [r] w w') (o:r < base) (l:base<=d):Cm w' base d x y nm j L:=
 ⟨a.at h.iw (by grind),a.ownsRow h.own (λk a=>by have:=(h.own.lt k a).1;grind)⟩
def BP (R:RC) (ps:Nat):fY:=ph (small (R.cs.extract ps (ky R ps)))
def Af (R:RC) (ns:List fY) (ps:Nat):Bool:=!Pl ns (BP R ps)&&!decide (ky R ps=R.cs.size)&&decide (R.at_<=(ns.length:Int))
def vT (L:la) (a v:fY):la:=if Pl (L.map (·.1)) a=true then L else L++[(a,v)]
def rV (R:RC) (look:fY->Option fY) (lg:Nat) (L:la) (ps:Nat):la:=vT L (BP R ps) (sV look lg R (ky R ps))
def KR (h:ps < R.cs.size):ky R ps<=R.cs.size:=p6 (by omega)
def xz:ps < ky R ps:=lU (Nat.lt_succ_self _) us
def Rd.Fb {r : Nat} {a : Nat} (h:Rd w r R a ps):w.cell? ⟨r,4,none⟩=some (fV R.at_):=by rw[fN h];rfl
def abS:(prog.info? 293).map (λi=>(i.zero,i.size,i.bytes))=some (some (.agg #[gu jB,gu jB]),2,32):=by kernel_rfl
def Wb (w:gm) (k:Nat) (n a:Int):Prop:=w.heap[k]?=some (gz #[fV n,fV a] 78)
theorem L7 (r J:Nat) (R:RC) (z ps g ah b lg:Nat) (look:fY->Option fY) (ai:Nat->Nat) (x y:Int) (nm:fY) (av:gG) (L:la) (K w:gm)
  (aj:Kept [r] K w) (H:r < K.heap.size) (F:K.heap.size<=J) (h:Rd w r R z ps) (hA:M5 w r R g ah ai) (hN:Nm w r R b lg look) (hG:Gl w r) (hT:Cm w K.heap.size J x y nm av L)
  (hb:z<=R.cs.size) (hp:ps < R.cs.size) (hs:R.cs.size<=1024) (hL:L.length<=4096):
  Calls prog 293 #[gE r,gE J] w λe w'=>
   if Af R (L.map (·.1)) ps=true then ∃k,e= .panicked [{v:= .iface 73 (gE k),recovered:=false}]/\Wb w' k 7 (ai z)/\K.heap.size<=k/\Kept [r] K w'
   else e=pL/\∃Y,Cm w' K.heap.size J x y nm Y (rV R look lg L ps)/\Kept [r] K w'/\Rd w' r R z (qc R (ky R ps)):=by
 obtain⟨i0,hi,az,aA,aB⟩:=uH abS;have al:=KR (R:=R) hp;have HN:=fM hN;have HG:=fM hG;have HA:=fM hA;have HT:=fM hT;have af:=fM aj;have CN:=fM (Ee r R z ps w h hp hs hG);have G:rV R look lg L ps=vT L (BP R ps) (sV look lg R (ky R ps)):=rfl;clear h hA hN hG hT aj;have ap:Af R (L.map (·.1)) ps=(!Pl (L.map (·.1)) (BP R ps)&&!decide (ky R ps=R.cs.size)&&decide (R.at_<=(L.length:Int))):=by unfold Af;rw[wm]
 rw[ap];clear ap;obtain⟨O,a8⟩:∃O,O=BP R ps:=⟨_,rfl⟩;have a9:ph (small (R.cs.extract ps (ky R ps)))=O:=a8.symm;rw[a9]at CN;clear a9;rw[<-a8]at G;rw[<-a8];obtain⟨ns,ae⟩:∃ns,ns=L.map (·.1):=⟨_,rfl⟩;rw[<-ae];have a7:=fM ae;clear a8 ae;obtain⟨m,hm⟩:∃m,m=ky R ps:=⟨_,rfl⟩;rw[<-hm]at CN al G;rw[<-hm];clear hm;have HV:=(λw' h1 h2 h3=>aac r R z m b lg look w' h1 h2 h3 al hs);obtain⟨vt,aq⟩:∃vt,vt=sV look lg R m:=⟨_,rfl⟩;rw[<-aq]at HV G;clear aq;have HV:=fM HV;have ag:=fM G;clear G;have⟨ao,cp,hav⟩:=gw HT.out.own;subst hav;have aF:r≠J:=by omega
 cases hin:Pl ns O
 .skip
  rcases(show m=R.cs.size\/(¬m=R.cs.size/\R.at_<=(L.length:Int))\/(¬m=R.cs.size/\¬R.at_<=(L.length:Int)) by omega)with l|⟨l,Z⟩|⟨l,Z⟩;have ec:(!false&&!decide (m=R.cs.size)&&decide (R.at_<=(L.length:Int)))=false:=by simp[l]
  have e3:decide (m=R.cs.size)=true:=by simp[l]
  rotate_left
  have ec:(!false&&!decide (m=R.cs.size)&&decide (R.at_<=(L.length:Int)))=true:=by simp[l,Z]
  have e3:decide (m=R.cs.size)=false:=by simp[l]
  rotate_left
  have ec:(!false&&!decide (m=R.cs.size)&&decide (R.at_<=(L.length:Int)))=false:=by simp[Z]
  have e3:decide (m=R.cs.size)=false:=by simp[l]
  all_goals
   rw[ec];clear ec;simp only[ru,rj,vo];go_enter func293,ntmps293;go_wp21;refine CN.out.mono ?_;rintro e w1 ⟨rfl,B,I⟩;have d:=fM (HT.out.kept B H F);have ab:=fM (af.out.trans B);have ad:=fM I;have ac:=fM B;have a0:=fN d.out.iw 0;have a1:=fN d.out.iw 1;have a2:=fN d.out.iw 2;have a3:=fN d.out.iw 3;dsimp at a0 a1 a2 a3;have CH:=Xd K.heap.size x y nm O _ L w1 d.out.own (by omega);rw[<-a7.out,hin]at CH;have U:=fM CH;clear CH B I CN;go_wp21;refine U.out.mono ?_;rintro e w2 ⟨rfl,o⟩;have T:=fM (ac.out.trans (o.mono (by simp)));have Q:=fM (ab.out.trans (o.mono (by simp)));have q:=fM (ad.out.kept o (by simp));have V:=fM (d.out.kept (o.mono (by simp)) H F);clear o U a0 a1 a2 a3;have b3:=fN V.out.iw 3;dsimp at b3;have b4:=q.out.Fb;have C:=fM (λw' (h:Rd w' r R z m)=>pq r R z m w' h);rw[e3]at C;go_wp21
   go_quiet ((go_at_call 78;refine rl (C.out _ ?_);exact q.out))
   clear b3 b4
  rotate_right
  .have au:=fM (HA.out.kept T.out);have p0:w2.cell? ⟨r,1,none⟩=some (oo g (R.cs.size+1) ah):=by rw[q.out.gx,HA.out.av]
   have p1:w2.cell? ⟨r,2,none⟩=some (fV z):=q.out.bg;have p2:=au.out.at_ z hb;have aC:=fM (Q.out.drewN nq);have ay:=Q.out.size;generalize R.cs.size=sz at *;have aD:(z:Int) < (sz:Int)+1:=by omega
   go_wp21
   go_region_dies
   all_goals (try go_wp2)
   all_goals exact⟨rfl,w2.heap.size,rfl,fP (w2.drewN (nq+1)) _,ay,(Q.out.drewN (nq+1)).alloc _⟩
  all_goals
   have W:=fM (HV.out (w2.drewN nq) (show Rd (w2.drewN nq) r R z m from q.out) (HN.out.kept (T.out.drewN _)) (HG.out.kept (T.out.drewN _)));go_wp21;refine W.out.mono ?_;rintro e w3 ⟨rfl,N,a4⟩;have a5:=fM ((Q.out.drewN nq).trans N);have a6:=fM a4;have p:=fM ((V.out.kept ((Kept.refl [r] w2).drewN nq) H F).kept N H F);clear N a4 W;have c3:=fN p.out.iw 3;dsimp at c3;have ak:=iQ p.out.iw;have an:=iQ a6.out;have aE:=a5.out.size;go_wp2_with (at_builtin;refine ij _ rfl _ _ 132 rfl K.heap.size 293 i0 (.agg #[gu jB,gu jB]) 2 32 underlying132 hi az aA aB rfl (by decide) _ _ _ rfl (p.out.own.alloc _) ⟨w3.heap.size,0,none⟩ 1 1 [gu O,gu vt] rfl ?c1 ?c2 ?c3 ?c4 ?c5 ?c6 ?_)
   case c1=>rfl
   case c2=>
    intro j u hj
    match j,hj with
    |0,hj=>simp at hj;subst hj;simp[Addr.add]
    |1,hj=>simp at hj;subst hj;simp[Addr.add]
   case c3=>intro u hu;simp at hu;rcases hu with rfl|rfl<;>rfl
   case c4=>unfold maxLen;omega
   case c5=>omega
   case c6=>simp;omega
   intro v' w4 D A ax;have⟨ao',a,hv⟩:=gw D;subst hv;have aa:∀k,(Value.slice ao L.length cp).ownBlock=some k->k≠J:=by
    intro k hk;rcases p.out.own.2 with⟨h,_⟩|⟨g',a,aw,h,_,hc,_⟩
    .rw[h]at hk;cases hk
    .rw[h]at hk;obtain rfl:=jv hk;exact yN hc p.out.iw (by decide)
   have ar:Kept [r] K w4:=(a5.out.alloc _).grown A (λk hk=> .inr (p.out.own.lt k hk).1);have t4:w4.heap[J]?=some (gz #[fV x,fV y,gu nm,.slice ao L.length cp] 189):=by
    rw[A.block J (by simp;omega) (λh=>aa J h.symm rfl),Below.heap_alloc _ _ _ ak];exact p.out.iw
   have r4:Rd w4 r R z (qc R m):=by
    show w4.heap[r]?=_;rw[A.block r (by simp;omega) (λh=>by have:=(p.out.own.lt r h.symm).1;omega),Below.heap_alloc _ _ _ an];exact a6.out
   have d3:=fN t4 3;have f3:=gh t4 3;dsimp at d3;have t5:=fR t4 3 (.slice ao' (L.length+1) a);have r5:Rd (w4.setCell ⟨J,3,none⟩ (.slice ao' (L.length+1) a)) r R z (qc R m):=(Below.heap_setCell w4 ⟨J,3,none⟩ _ r (by omega)).trans r4;have o5:(w4.setCell ⟨J,3,none⟩ (.slice ao' (L.length+1) a)).ownsRow K.heap.size 293 2 (.slice ao' (L.length+1) a) (L++[(O,vt)]).length (sq (L++[(O,vt)])):=by
    rw[L0,oj];refine rq D ?_ _;intro hk;rcases D.2 with⟨h,_⟩|⟨g',a,aw,h,_,hc,_⟩
    .omega
    .grind
   have HF:Hid (∃Y,Cm (w4.setCell ⟨J,3,none⟩ (.slice ao' (L.length+1) a)) K.heap.size J x y nm Y (vT L O vt)/\Kept [r] K (w4.setCell ⟨J,3,none⟩ (.slice ao' (L.length+1) a))/\Rd (w4.setCell ⟨J,3,none⟩ (.slice ao' (L.length+1) a)) r R z (qc R m)):=
    ⟨_,by rw[show vT L O vt=L++[(O,vt)] by unfold vT;rw[<-a7.out,hin];rfl];exact⟨t5,o5⟩,ar.setCell (.inr F) _,r5⟩
   clear t5 r5 o5 r4 t4 ar aa D A ax c3;go_wp2;go_end0;exact⟨rfl,by rw[ag.out];exact HF.out⟩
 .skip
  have ec:(!true&&!decide (m=R.cs.size)&&decide (R.at_<=(L.length:Int)))=false:=by simp
  rw[ec];clear ec;simp only[ru,rj,vo];go_enter func293,ntmps293;go_wp21;refine CN.out.mono ?_;rintro e w1 ⟨rfl,B,I⟩;have d:=fM (HT.out.kept B H F);have ab:=fM (af.out.trans B);have ad:=fM I;have ac:=fM B;have a0:=fN d.out.iw 0;have a1:=fN d.out.iw 1;have a2:=fN d.out.iw 2;have a3:=fN d.out.iw 3;dsimp at a0 a1 a2 a3;have CH:=Xd K.heap.size x y nm O _ L w1 d.out.own (by omega);rw[<-a7.out,hin]at CH;have U:=fM CH;clear CH B I CN;go_wp21;refine U.out.mono ?_;rintro e w2 ⟨rfl,o⟩;have T:=fM (ac.out.trans (o.mono (by simp)));have Q:=fM (ab.out.trans (o.mono (by simp)));have q:=fM (ad.out.kept o (by simp));have V:=fM (d.out.kept (o.mono (by simp)) H F);clear o U a0 a1 a2 a3;have b3:=fN V.out.iw 3;dsimp at b3;have b4:=q.out.Fb;have C:=fM (λw' (h:Rd w' r R z m)=>pq r R z m w' h);go_wp21
  go_quiet ((go_at_call 78;refine rl (C.out _ ?_);exact q.out))
  clear b3 b4;have W:=fM (HV.out (w2.drewN nq) (show Rd (w2.drewN nq) r R z m from q.out) (HN.out.kept (T.out.drewN _)) (HG.out.kept (T.out.drewN _)));go_wp21;refine W.out.mono ?_;rintro e w3 ⟨rfl,N,a4⟩;have a5:=fM ((Q.out.drewN nq).trans N);have a6:=fM a4;have p:=fM ((V.out.kept ((Kept.refl [r] w2).drewN nq) H F).kept N H F);clear N a4 W;have HF:Hid (∃Y,Cm w3 K.heap.size J x y nm Y (vT L O vt)/\Kept [r] K w3/\Rd w3 r R z (qc R m)):=
   ⟨_,by rw[show vT L O vt=L by unfold vT;rw[<-a7.out,hin];rfl];exact p.out,a5.out,a6.out⟩
  go_wp2;go_end0;exact⟨rfl,by rw[ag.out];exact HF.out⟩
end
end Go.Proofs.YthcohfdidcdchaaGreatDoor
