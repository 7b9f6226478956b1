import Derived.Test.YtlhhgenpcjjajaaGreatDoorAtB
import Derived.Ground.NamesProg
import Derived.Shelf.Lay
import Derived.Shelf.Strings.SlTrimAscii
import Derived.RegionDies
set_option linter.unusedSimpArgs false
set_option linter.unusedVariables false
set_option linter.defProp false
set_option maxHeartbeats 0
set_option maxRecDepth 100000
namespace Go.Proofs.YtlhhgenpcjjajaaGreatDoor
open Go.RowKit Go.PlainAid Tryz
def ve:=@ByteArray.ext
def Ag:=@eq_of_beq
def yA:=@Array.length_toList
def Ga:=@Array.eq_empty_of_size_eq_zero
def Pu:=@Lib.run_neq_ptr_same
def DE:=@Lib.size_eq
section
variable {R : RC} {a b bg f g i lg n ps r sz : Nat} {inV : Bool} {look : gz->Option gz} {s : gz} {v : gQ} {w w' wr : gx}
attribute [local go_sem] Oper.semAt_some
def Sb (E:Env) (t:gO) (B:ji E t):je E 207 (λ_=>#[Bp E,iJ E t]) (tG t) uV:=by
 refine dI λf d w R c HS H=>?_;unfold tG at c;go_enter func207,ntmps207;obtain⟨z,I⟩:∃z,z=f:=⟨_,rfl⟩;obtain⟨C,K⟩:∃C,C=d.nodes.length:=⟨_,rfl⟩;obtain⟨D,L⟩:∃D,D=w:=⟨_,rfl⟩
 go_wp21
 refine dC (sH E (iO E)) H c HS rfl lT ?_;rintro(_) f d w H x u c;have⟨kb,lbb,cb,HQ⟩:=H.rel.bounds;have y:=H.lt;have q:=cb;have F:=(Kept.refl [] w).drew
 go_wp21
 go_cut [13]from 6 to 12 (λr wc=>r= .bool (d.inScope (im [iK]) (iS))/\Kept [] w wc)
 case first=>
  go_region_with (first
   |(go_at_call 225;refine(nN E [iK] w.drew (by simp)).mono ?_;rintro e O ⟨Q,N,rfl,k,l⟩;have j:=F.trans l;have P:O.cell? ⟨E.bB,186,none⟩=some (.func (.func kb) #[] lbb):=(j.cell (p:=⟨E.bB,186,none⟩) y (by simp)).trans q;have o:=fV k;have h:=fV j;clear k l j)
   |(go_at_call 238;refine(wL (H.k0 h).rel (im [iK]) iS _ _ o (HQ.k0 h)).mono ?_;rintro e S ⟨rfl,A⟩;have G:=fV (h.trans A);clear A))
  all_goals (try (go_wp21))
  all_goals (go_meet;exact⟨rfl,G⟩)
 case rest=>
  obtain⟨rfl,J⟩:=hcut;replace H:=H.k0 J;cases hsc:d.inScope (im [iK]) iS with
  |true=>
   replace c:Hid (R=(xS iK>>=λ_=>ja t>>=λ_=>(Pure.pure ():M Unit)) d):=by
    refine fV ?_;rw[c.out];unfold abr;rw[hsc];rfl
   go_wp21
   refine dC (NJ E iK) H c HS rfl lT ?_;rintro(_) f d w H x u c
   go_wp21
   refine dC (oO E t B) H c HS rfl lT ?_;rintro(_) f d w H x u c;go_wp2;go_end0;exact gw c H rfl
  |false=>
   replace c:Hid (R=(ja t>>=λ_=>(Pure.pure ():M Unit)) d):=by
    refine fV ?_;rw[c.out];unfold abr;rw[hsc];rfl
   go_wp21
   refine dC (oO E t B) H c HS rfl lT ?_;rintro(_) f d w H x u c;go_wp2;go_end0;exact gw c H rfl
def Kept.BV (h:Below w.heap.size w w'):Kept [] w w':=⟨h.os,h.tape,h.output,h.size,λk c _=>h.block k c⟩
def Gl (w:gx) (r:Nat):Prop:=(∃m,w.cell? ⟨3,0,none⟩=some (gh m))/\3 < w.heap.size/\r≠3
theorem Gl.kept (h:Gl w r) (c:Kept [r] w w'):Gl w' r:=by
 have⟨⟨m,hm⟩,hl,hn⟩:=h;exact⟨⟨m,(c.cell (p:=⟨3,0,none⟩) hl (by grind)).trans hm⟩,mi hl c.size,hn⟩
def pc (s:gz):gz:=⟨(Lib.replaceAll s.data.toList (ByteArray.mk #[0]).data.toList (ByteArray.mk #[239,191,189]).data.toList).toArray⟩
theorem yV (r:Nat) (s:gz) (w:gx) (j:s.size<=1048576) (d:Gl w r):
  Calls prog 158 #[gH s] w λe w'=>e=iw (gH (pc s))/\Kept [] w w':=by
 have⟨⟨m,hm⟩,_,_⟩:=d;have h:=Lib.countB_le ⟨#[0]⟩ (by decide) s.size s (gW _);have C:=Tryz.strings_ReplaceAll s ⟨#[0]⟩ ⟨#[239,191,189]⟩ m w (by omega) hm (by decide) (by have:(ByteArray.mk #[239,191,189]).size=3:=rfl;grind);go_enter func158,ntmps158
 go_wp21
 refine C.mono ?_;rintro e w' ⟨rfl,c⟩;go_wp2;go_ret;exact⟨rfl,Kept.BV c⟩
def low (c:Int):Int:=if 65<=c/\c<=90 then c+32 else c
def small (s:gz):gz:=⟨s.data.map λb=>if 65<=b.toNat/\b.toNat<=90 then b+32 else b⟩
def tj (s:gz):(small s).size=s.size:=Array.size_map ..
theorem YZ (s:gz) (j:Nat) (h:j < s.size):bt (small s) j=low (bt s j):=by
 have k:j < s.data.size:=h;have c:j < (small s).size:=by rw[tj];exact h
 unfold bt low;rw[xF h,xF c];show(((small s).data[j]'c).toNat:Int)=_;have e:(small s).data[j]'c=(if 65<=(s.data[j]).toNat/\(s.data[j]).toNat<=90 then s.data[j]+32 else s.data[j]):=by simp[small]
 rw[e];show _=(if 65<=((s.data[j]).toNat:Int)/\((s.data[j]).toNat:Int)<=90 then ((s.data[j]).toNat:Int)+32 else ((s.data[j]).toNat:Int))
 by_cases d:65<=(s.data[j]).toNat/\(s.data[j]).toNat<=90
 .rw[gJ d,gJ (by omega),UInt8.toNat_add]
  grind
 grind
def tM (g sz:Nat) (s:gz) (k:Nat) (w wr:gx):Prop:=
 (∃C:jN,wr.heap[g]?=some (.cells C 5 (sz,sz+1))/\C.size=sz/\∀j,j < s.size->C[j]?=some (.int .u8 (if j < k then low (bt s j)else bt s j)))/\Kept [] w wr
theorem tM.cell {k : Nat} (h:tM g sz s k w wr) (d:s.size<=sz) (j:Nat) (c:j < s.size):wr.cell? ⟨g,j,none⟩=some (.int .u8 (if j < k then low (bt s j)else bt s j))/\wr.frozen? ⟨g,j,none⟩=false:=by
 have⟨⟨C,hC,_,h⟩,_⟩:=h;exact⟨by rw[BL hC];grind,MH hC j (by omega)⟩
theorem tM.Z1 {k : Nat} (h:tM g sz s k w wr) (hl:low (bt s k)=bt s k):tM g sz s (k+1) w wr:=by
 grind[tM]
theorem tM.store {k : Nat} (h:tM g sz s k w wr) (c:w.heap.size<=g) (e:k < sz):tM g sz s (k+1) w (wr.setCell ⟨g,k,none⟩ (.int .u8 (low (bt s k)))):=by
 have⟨⟨C,hC,hs,h⟩,hk⟩:=h;refine⟨⟨_,Ey hC k _,by grind,λj d=>?_⟩,hk.setCell (.inr c) _⟩
 grind
theorem wQ (s:gz) (w:gx) (N:s.size<=1048576):
  Calls prog 250 #[gH s] w λe w'=>e=iw (gH (small s))/\Kept [] w w':=by
 have l:=run_bytes_of_string (P:=prog) w 9 55 5 s underlying9 underlying55 underlying5;obtain⟨o,x⟩:∃o,o=grownCap w s.size 0 5:=⟨_,rfl⟩;rw[<-x]at l;clear x;have B:=Ch s o;have z:∀j,j < s.size->(bytesRow s o)[j]?=some (.int .u8 (bt s j)):=λj y=>by rw[bytesRow_at s o j y,<-get_bt s j y];rfl
 generalize bytesRow s o=R at l B z;obtain⟨u,h⟩:∃u,u=w.drew.alloc (.cells R 5 (R.size,R.size+1)):=⟨_,rfl⟩;rw[<-h]at l;have G:u.heap[w.heap.size]?=some (.cells R 5 (R.size,R.size+1)):=by rw[h];exact fX w.drew _
 have F:Kept [] w u:=by rw[h];exact(Kept.refl [] w).drew.alloc _
 clear h;have I:Hid (tM w.heap.size R.size s 0 w u):=⟨⟨R,G,rfl,λj y=>by grind⟩,F⟩;clear G F z;generalize R.size=sz at *;go_enter func250,ntmps250
 go_wp21
 clear l
 go_loopw [10] (λi wr=>∃k:Nat,k<=s.size/\i=gh k/\tM w.heap.size sz s k w wr) (λi _=>s.size - (intOf i).toNat)
 case atStart=>exact⟨0,iN _,rfl,I⟩
 case round=>
  obtain⟨k,L,rfl,d⟩:=hrel
  by_cases D:k < s.size
  .have⟨c1,f1⟩:=d.cell B k D;rw[gV (by omega)]at c1;have J:=bt_nonneg s k;have K:=bt_le s k
   by_cases a:65<=bt s k
   .by_cases b:bt s k<=90
    have A:=d.store (gW _) (by omega);have p:low (bt s k)=bt s k - 65+97:=by unfold low;rw[gJ ⟨a,b⟩];omega
    rw[p]at A;clear p
    rotate_left
    have A:=d.Z1 (by unfold low;omega)
    all_goals
     generalize bt s k=c at *;go_wp2;go_roundw
     case rel=>grind
     case measure=>simp[intOf];omega
   .have A:=d.Z1 (by unfold low;omega);generalize bt s k=c at *;go_wp2;go_roundw
    case rel=>grind
    case measure=>simp[intOf];omega
  .have e:k=s.size:=by omega
   subst e;have C:(convert 55 9 (oe w.heap.size s.size o)).run prog wr= .ok (gH (small s)) wr:=by
    have:=UK (P:=prog) wr 55 9 5 ⟨w.heap.size,0,none⟩ o (small s).data.toList underlying55 underlying5 underlying9 (λj y=>by
     have q:j < s.size:=by have:=tj s;simp at y;have e:(small s).data.size=(small s).size:=rfl;omega
     rw[jg];have:=(d.cell B j q).1;rw[gJ q]at this;rw[this,<-YZ s j q,<-get_bt (small s) j (by simp_all)];rfl)
    have e2:(small s).data.toList.length=s.size:=by simp;exact tj s
    rw[e2]at this
    simpa using this
   have H:=d.2;go_wp2;go_ret;exact⟨rfl,H⟩
def qY (x y:Int) (nm:gz) (av:gQ) (gM:lZ) (w:gx) (hA:zn w av gM) (Q:gM.length<=4096) (H:∀a∈gM,a.2.size<=1048576):
  Calls prog 231 #[.agg #[gh x,gh y,gH nm,av]] w λe w'=>e=iw (.bool (vm gM))/\Kept [] w w':=by
 have⟨ao,cp,hav⟩:=gF hA;subst hav;obtain⟨u,k⟩:∃u,u=w.alloc (gL #[gh x,gh y,gH nm,.slice ao gM.length cp] 194):=⟨_,rfl⟩;have d:Kept [] w u:=by rw[k];exact(Kept.refl _ _).alloc _
 have I:=d.ownsRow hA (λ_ _=>by simp);have J:=fV k.symm;have K:=H;clear k;obtain⟨R,D⟩:∃R,R=vm gM:=⟨_,rfl⟩;rw[<-D];have B:Hid (R=vm (gM.drop 0)):=fV D;clear D;go_enter func231,ntmps231
 go_wp21
 rw[J.out]
 go_loopw [8] (λv wr=>∃c:Nat,v=gh c/\c<=gM.length/\R=vm (gM.drop c)/\Kept [] u wr) (λv _=>gM.length - (intOf v).toNat)
 case atStart=>exact⟨0,rfl,iN _,B,Kept.refl _ _⟩
 case round=>
  obtain⟨c,rfl,L,o,p⟩:=hrel
  by_cases j:c < gM.length
  .obtain⟨g,rfl,O,P⟩:=zn.at2 (p.ownsRow I (λ_ _=>by simp)) j;have H:=K gM[c] (uw j);rw[DD j]at o;have q:Hid (R=if la gM[c].1 oq then la (Us gM[c].2) lX else vm (gM.drop (c+1))):=fV o;have z:=fV p;clear p o;generalize gM[c].1=a at *;generalize gM[c].2=b at *;have C:=(λW=>wQ b W H);have l:=z.alloc (gL #[gH a,gH b] 299);cases hq:la a oq with
   |true=>
    have G:(a.toList==[116,121,112,101])=true:=by rw[<-hq];unfold la;rw[tJ (oq)]
    have h:=fV (show R=la (Us b) lX by rw[q.out,hq];rfl)
    go_wp21
    refine(C _).mono ?_;rintro e N ⟨rfl,F⟩;have A:=l.trans F;go_wp2;go_ret;refine⟨?_,d.trans A⟩;rw[h.out];unfold la;rw[tJ (lX)];rfl
   |false=>
    have G:(a.toList==[116,121,112,101])=false:=by rw[<-hq];unfold la;rw[tJ (oq)]
    have h:=fV (show R=vm (gM.drop (c+1)) by rw[q.out,hq];rfl);go_wp2;go_roundw
    case rel=>exact⟨c+1,by go_num,by omega,h,l⟩
    case measure=>simp[intOf];omega
  .have q:Hid (R=false):=fV (by rw[o,Hk (by omega)];rfl);have z:=fV p;clear p o;go_wp2;go_ret;exact⟨by rw[q.out];rfl,d.trans z⟩
def Ce (E:Env) (rec:Nat->gO->M Unit) (hA:∀(m:Nat) (t:gO),ji E t->je E 171 (λ_=>#[Bp E,gh m,iJ E t]) (rec m t) uV) (t:gO) (u:ji E t) (D:∀a∈t.jx,a.2.size<=1048576):je E 133 (λ_=>#[Bp E,iJ E t]) (lj rec t) uV:=by
 intro f o w h HS;have A:∃y n z,E.tv= .slice y n z:=by
  have⟨L,_,hr⟩:=h;have⟨y,z,e⟩:=gF hr.tok;exact⟨y,_,z,e⟩
 have C:=(λW=>ze E t W A);have p:Hid (∀W,Kept [] w W->Calls prog 231 #[.agg (zY E t)] W λe I=>e=iw (.bool (vm t.jx))/\Kept [] W I):=fV (by
  intro W J;have⟨L,_,hr⟩:=h.io J;have⟨a,b,k,gM⟩:=t;cases k with
  |start n=>
   have e:gM=E.ta:=u rfl;subst e;exact qY a b n E.tv E.ta W hr.tok hr.Md D
  |stop n=>
   have e:gM=E.ta:=u rfl;subst e;exact qY a b n E.tv E.ta W hr.tok hr.Md D
  |jM s=>exact qY 0 0 _ _ [] W (od _ _ _ _) (by simp) (by simp)
  |gR s=>exact qY 0 0 _ _ [] W (od _ _ _ _) (by simp) (by simp)
  |iy n q=>exact qY 0 0 _ _ [] W (od _ _ _ _) (by simp) (by simp)
  |lost=>exact qY 0 0 _ _ [] W (od _ _ _ _) (by simp) (by simp)
  |iR=>exact qY 0 0 _ _ [] W (od _ _ _ _) (by simp) (by simp))
 obtain⟨R,d⟩:∃R,R=(lj rec t) o:=⟨_,rfl⟩;rw[<-d]at HS|-;unfold lj at d;have H:=At.start h;cases hq:vm t.jx with
 |true=>
  rw[hq]at p d;have j:Hid (R=(lL t>>=λ_=>(Pure.pure ():M Unit)) o):=fV d;clear d;generalize hav:zY E t=K at *;go_enter func133,ntmps133
  go_wp21
  refine(C _).mono ?_;rintro e B ⟨rfl,c⟩;have x:=p B c;replace H:=H.k0 c
  go_wp21
  refine x.mono ?_;rintro e N ⟨rfl,l⟩;replace H:=H.k0 l
  go_wp21
  refine dC (wB E (iO E) t u) H j HS rfl lT ?_;rintro(_) f o w H G F j;go_wp2;go_end0;exact gw j H rfl
 |false=>
  rw[hq]at p d;have j:Hid (R=(uK rec t>>=λ_=>(Pure.pure ():M Unit)) o):=fV d;clear d;generalize hav:zY E t=K at *;go_enter func133,ntmps133
  go_wp21
  refine(C _).mono ?_;rintro e B ⟨rfl,c⟩;have x:=p B c;replace H:=H.k0 c
  go_wp21
  refine x.mono ?_;rintro e N ⟨rfl,l⟩;replace H:=H.k0 l
  go_wp21
  refine dC (Ec E rec hA t u) H j HS rfl lT ?_;rintro(_) f o w H G F j;go_wp2;go_end0;exact gw j H rfl
def TD (E:Env) (t:gO):je E 124 (λ_=>#[Bp E,iJ E t]) (yM t) uV:=by
 refine dI λf j w R c HS H=>?_;unfold yM at c;go_enter func124,ntmps124;have⟨ta,tb,tao,tn,tcp,HTG⟩:=EU E t H.rel;have d:=λw=>Br ta tb t.name tao tn tcp w
 go_wp21
 refine(HTG _).mono ?_;rintro e o ⟨rfl,h⟩;replace H:=H.k0 h
 go_wp21
 refine dC (Jk E t.name) H c HS rfl lT ?_;rintro(_) f j w H l k c;go_wp2;go_end0;exact gw c H rfl
def xv (t:gO):Bool:=t.jx.all λa=>decide (a.2.size<=1048576)
def DX (f:Nat):Option (M Bool):=
 if f=138 then some uG else
 if f=145 then some endCell else
 if f=139 then some nf else
 if f=144 then some Fw else
 if f=150 then some wI else
 if f=141 then some rJ else
 if f=131 then some yN else
 none
def Zt (E:Env) {b:M Bool} (h:DX f=some b):kF E f (λ_=>#[Bp E]) b bV/\∀c w,(callFunc f c).run prog w= .ok (.enter f c) w:=by
 unfold DX at h;split at h
 .rename_i e;subst e;cases h;exact⟨N6 E,enters_of func138 (by rfl) rfl⟩
 split at h
 .rename_i e;subst e;cases h;exact⟨WZ E,enters_of func145 (by rfl) rfl⟩
 split at h
 .rename_i e;subst e;cases h;exact⟨Ft E,enters_of func139 (by rfl) rfl⟩
 split at h
 .rename_i e;subst e;cases h;exact⟨Zu E,enters_of func144 (by rfl) rfl⟩
 split at h
 .rename_i e;subst e;cases h;exact⟨Qo E,enters_of func150 (by rfl) rfl⟩
 split at h
 .rename_i e;subst e;cases h;exact⟨Jl E,enters_of func141 (by rfl) rfl⟩
 split at h
 .rename_i e;subst e;cases h;exact⟨TE E,enters_of func131 (by rfl) rfl⟩
 cases h
def Q7 (lk:Bool) (uU rec:Nat->gO->M Unit) (t:gO) (f:Nat):M Unit:=
 if f=113 then BO else
 if f=119 then zC else
 if f=209 then zx else
 if f=212 then uH else
 if f=213 then BP else
 if f=214 then Qn else
 if f=215 then vC else
 if f=216 then zz else
 if f=218 then tw else
 if f=155 then Jj else
 if f=152 then nu else
 if f=151 then jn else
 if f=100 then oX t else
 if f=103 then y8 t else
 if f=107 then y9 t else
 if f=115 then abp t else
 if f=109 then kC t else
 if f=110 then lL t else
 if f=120 then oh t else
 if f=122 then lQ t else
 if f=204 then tI t else
 if f=193 then nE t else
 if f=194 then xy t else
 if f=195 then oP t else
 if f=196 then yc t else
 if f=197 then abq t else
 if f=199 then pK t else
 if f=200 then tk t else
 if f=202 then pM t else
 if f=203 then rp t else
 if f=205 then rT t else
 if f=206 then ja t else
 if f=207 then tG t else
 if f=208 then pL t else
 if f=211 then yK t else
 if f=124 then yM t else
 if f=217 then qo t else
 if f=126 then pY t else
 if f=143 then rS t else
 if f=132 then mH t else
 if f=146 then pP t else
 if f=147 then kA t else
 if f=148 then jB t else
 if f=149 then mf t else
 if f=111 then vc t else
 if f=112 then pB t else
 if f=201 then qt t else
 if f=191 then pn t else
 if f=192 then qT t else
 if f=101 then mc rec t else
 if f=104 then tz rec t else
 if f=108 then tA rec t else
 if f=114 then n4 rec t else
 if f=117 then pH rec t else
 if f=116 then uC rec t else
 if f=118 then DT rec t else
 if f=210 then zA rec t else
 if f=247 then wW rec t else
 if f=135 then uK rec t else
 if f=125 then qR rec t else
 if f=133 then (if xv t then lj rec t else stuck)else
 if f=136 then (if lk then stuck else pr t)else
 if f=137 then (if lk then stuck else oU uU rec t)else
 stuck
theorem lF {E : Env} {t : gO} {k : Nat} {a b:M Unit} (c:mu E (.ik k) t a) (d:mu E (.ik f) t b):mu E (.ik f) t (if f=k then a else b):=by
 grind
section
variable (E:Env) (lk:Bool) (hl:lk=false->E.wv=none) (hi:E.FB=7) (uU rec:Nat->gO->M Unit)
variable (hAL:∀v ws (m:Nat) (t:gO),ji E t->je (E.lock v ws) 171 (λ_=>#[Bp E,.int .i64 (m:Int),iJ E t]) (uU m t) uV)
variable (hA:∀(m:Nat) (t:gO),ji E t->je E 171 (λ_=>#[Bp E,.int .i64 (m:Int),iJ E t]) (rec m t) uV)
include hl hi hAL hA
theorem acB (f:Nat) (t:gO) (c:ji E t):mu E (.ik f) t (Q7 lk uU rec t f):=by
 unfold Q7;refine lF (iV E t _ _ (enters_of func113 (by rfl) rfl) (MC E t)) ?_;refine lF (iV E t _ _ (enters_of func119 (by rfl) rfl) (MD E t)) ?_;refine lF (iV E t _ _ (enters_of func209 (by rfl) rfl) (WY E t)) ?_;refine lF (iV E t _ _ (enters_of func212 (by rfl) rfl) (N7 E t)) ?_;refine lF (iV E t _ _ (enters_of func213 (by rfl) rfl) (Xc E t)) ?_;refine lF (iV E t _ _ (enters_of func214 (by rfl) rfl) (aeX E t)) ?_;refine lF (iV E t _ _ (enters_of func215 (by rfl) rfl) (Tz E (iO E) t)) ?_;refine lF (iV E t _ _ (enters_of func216 (by rfl) rfl) (Xa E t)) ?_;refine lF (iV E t _ _ (enters_of func218 (by rfl) rfl) (Qk E t)) ?_;refine lF (iV E t _ _ (enters_of func155 (by rfl) rfl) (Zr E t)) ?_;refine lF (iV E t _ _ (enters_of func152 (by rfl) rfl) (Cb E t)) ?_;refine lF (iV E t _ _ (enters_of func151 (by rfl) rfl) (AD E t)) ?_;refine lF (iV E t _ _ (enters_of func100 (by rfl) rfl) (Ia E t)) ?_;refine lF (iV E t _ _ (enters_of func103 (by rfl) rfl) (R8 E t c)) ?_;refine lF (iV E t _ _ (enters_of func107 (by rfl) rfl) (R9 E (iO E) t c)) ?_;refine lF (iV E t _ _ (enters_of func115 (by rfl) rfl) (R5 E (iO E) t c)) ?_;refine lF (iV E t _ _ (enters_of func109 (by rfl) rfl) (wA E (iO E) t)) ?_;refine lF (iV E t _ _ (enters_of func110 (by rfl) rfl) (wB E (iO E) t c)) ?_;refine lF (iV E t _ _ (enters_of func120 (by rfl) rfl) (NY E (iO E) t)) ?_;refine lF (iV E t _ _ (enters_of func122 (by rfl) rfl) (rU E (iO E) t c)) ?_;refine lF (iV E t _ _ (enters_of func204 (by rfl) rfl) (Se E (iO E) t c)) ?_;refine lF (iV E t _ _ (enters_of func193 (by rfl) rfl) (wF E (iO E) t c)) ?_;refine lF (iV E t _ _ (enters_of func194 (by rfl) rfl) (Uy E (iO E) t c)) ?_;refine lF (iV E t _ _ (enters_of func195 (by rfl) rfl) (Ky E (iO E) t c)) ?_;refine lF (iV E t _ _ (enters_of func196 (by rfl) rfl) (X2 E (iO E) t c)) ?_;refine lF (iV E t _ _ (enters_of func197 (by rfl) rfl) (R7 E t c)) ?_;refine lF (iV E t _ _ (enters_of func199 (by rfl) rfl) (L7 E t c)) ?_;refine lF (iV E t _ _ (enters_of func200 (by rfl) rfl) (O7 E t c)) ?_;refine lF (iV E t _ _ (enters_of func202 (by rfl) rfl) (L9 E (iO E) t c)) ?_;refine lF (iV E t _ _ (enters_of func203 (by rfl) rfl) (Mb E t c)) ?_;refine lF (iV E t _ _ (enters_of func205 (by rfl) rfl) (Sa E t c)) ?_;refine lF (iV E t _ _ (enters_of func206 (by rfl) rfl) (oO E t c)) ?_;refine lF (iV E t _ _ (enters_of func207 (by rfl) rfl) (Sb E t c)) ?_;refine lF (iV E t _ _ (enters_of func208 (by rfl) rfl) (L8 E (iO E) t c)) ?_;refine lF (iV E t _ _ (enters_of func211 (by rfl) rfl) (Tw E t)) ?_;refine lF (iV E t _ _ (enters_of func124 (by rfl) rfl) (TD E t)) ?_;refine lF (iV E t _ _ (enters_of func217 (by rfl) rfl) (Hp E t)) ?_;refine lF (iV E t _ _ (enters_of func126 (by rfl) rfl) (Kw E (iO E) t c)) ?_;refine lF (iV E t _ _ (enters_of func143 (by rfl) rfl) (R6 E t c)) ?_;refine lF (iV E t _ _ (enters_of func132 (by rfl) rfl) (Dx E t c)) ?_;refine lF (iV E t _ _ (enters_of func146 (by rfl) rfl) (I5 E (iO E) t)) ?_;refine lF (iV E t _ _ (enters_of func147 (by rfl) rfl) (AJ E (iO E) t c)) ?_;refine lF (iV E t _ _ (enters_of func148 (by rfl) rfl) (tH E (iO E) t c)) ?_;refine lF (iV E t _ _ (enters_of func149 (by rfl) rfl) (EN E (iO E) t c)) ?_;refine lF (iV E t _ _ (enters_of func111 (by rfl) rfl) (by exact Hd E hi t c)) ?_;refine lF (iV E t _ _ (enters_of func112 (by rfl) rfl) (by exact FY E hi t c)) ?_;refine lF (iV E t _ _ (enters_of func201 (by rfl) rfl) (by exact Ic E hi t c)) ?_;refine lF (iV E t _ _ (enters_of func191 (by rfl) rfl) (by exact TJ E t (λi=>ZJ E t c i))) ?_;refine lF (iV E t _ _ (enters_of func192 (by rfl) rfl) (by exact TI E t (λi=>ZJ E t c i))) ?_;refine lF (iV E t _ _ (enters_of func101 (by rfl) rfl) (AK E rec hA t c)) ?_;refine lF (iV E t _ _ (enters_of func104 (by rfl) rfl) (LJ E rec hA t c)) ?_;refine lF (iV E t _ _ (enters_of func108 (by rfl) rfl) (LK E (iO E) rec hA t c)) ?_;refine lF (iV E t _ _ (enters_of func114 (by rfl) rfl) (Dd E rec hA t c)) ?_;refine lF (iV E t _ _ (enters_of func117 (by rfl) rfl) (LH E (iO E) rec hA t c)) ?_;refine lF (iV E t _ _ (enters_of func116 (by rfl) rfl) (NT E rec hA t c)) ?_;refine lF (iV E t _ _ (enters_of func118 (by rfl) rfl) (WS E rec hA t c)) ?_;refine lF (iV E t _ _ (enters_of func210 (by rfl) rfl) (Xb E rec hA t c)) ?_;refine lF (iV E t _ _ (enters_of func247 (by rfl) rfl) (NS E rec hA t c)) ?_;refine lF (iV E t _ _ (enters_of func135 (by rfl) rfl) (Ec E rec hA t c)) ?_;refine lF (iV E t _ _ (enters_of func125 (by rfl) rfl) (Lq E rec hA t c)) ?_
 by_cases e:f=133
 .rw[gJ e];subst e;refine iV E t _ _ (enters_of func133 (by rfl) rfl) ?_
  by_cases h:xv t=true
  .rw[gJ h];exact Ce E rec hA t c (λa j=>by unfold xv at h;grind)
  .rw[gV h];exact λ_ _ _ _ d=>absurd rfl d
 rw[gV e];clear e
 by_cases e:f=136
 .rw[gJ e];subst e;refine iV E t _ _ (enters_of func136 (by rfl) rfl) ?_
  (cases lk with
   |true=>exact λ_ _ _ _ d=>absurd rfl d
   |false=>exact TV E (hl rfl) t)
 rw[gV e];clear e
 by_cases e:f=137
 .rw[gJ e];subst e;refine iV E t _ _ (enters_of func137 (by rfl) rfl) ?_
  (cases lk with
   |true=>exact λ_ _ _ _ d=>absurd rfl d
   |false=>exact Jm E (hl rfl) uU rec hAL hA t c)
 rw[gV e]
 grind[mu,stuck]
end
def qS:M (Nat×Nat):=λc=>match iE c.gG 0 with
 |some i=>jC i c
 |none=> .stuck
def tQ (c:Nat) (own:Bool) (t:gO):M Unit:=
 if c=105/\own=true then ol mh t else
 if c=154/\own=true then ol qS t else
 if c=99/\own=false then ol (jC 0) t else
 stuck
def LU {σ σ1 : Ab} {pl : Nat×Nat} (h:placeFor i σ= .ok pl σ1):σ1=σ:=by
 unfold placeFor at h;split at h
 .exact pk h
 .exact pQ h
theorem rI (i:Nat) (σ:Ab) (c p:Nat):jC i σ≠ .stop c p:=by
 grind[jC]
theorem As (i:Nat) (σ:Ab) (c p:Nat):ng i σ≠ .stop c p:=by
 intro h;unfold ng at h;split at h
 .split at h
  .grind
  .split at h
   .exact rI _ _ _ _ h
   grind
 grind
theorem xe (σ:Ab) (c p:Nat):ku σ≠ .stop c p:=by
 intro h;unfold ku at h;split at h
 .split at h
  .exact As _ _ _ _ h
  .cases h
  .split at h
   .exact rI _ _ _ _ h
   grind
 grind
theorem LV (E:Env):DI E 105 true mh where
 Zw:=enters_of func105 (by rfl) rfl
 same:=by
  intro d k j h;unfold mh at h;split at h
  .exact LU h
  grind
 OI:=by
  intro d c p h;unfold mh at h;split at h
  .unfold placeFor at h;split at h
   .exact xe _ _ _ h
   .exact rI _ _ _ _ h
  grind
 ab4:=λf d w h e=>Iv E (iO E) f d w h e
def Qd (E:Env):DI E 99 false (jC 0) where
 Zw:=enters_of func99 (by rfl) rfl
 same:=λ_ _ _ h=>pQ h
 OI:=λd c p=>rI 0 d c p
 ab4:=λf d w h e=>Gx E 0 f d w h e
theorem Oj (E:Env):DI E 154 true qS where
 Zw:=enters_of func154 (by rfl) rfl
 same:=by
  intro e k j h;unfold qS at h;split at h
  .exact pQ h
  grind
 OI:=by
  intro e c p h;unfold qS at h;split at h
  .exact rI _ _ _ _ h
  grind
 ab4:=by
  intro f e w h d;unfold qS at d|-;cases hq:iE e.gG 0 with
  |none=>rw[hq]at d;exact absurd rfl d
  |some i=>
   rw[hq]at d;exact Ql E i h hq d
def ab1 (E:Env) (d:Nat) (own:Bool) (t:gO):mu E (.gR d own) t (tQ d own t):=by
 have c:∀j,DI E d own j->mu E (.gR d own) t (ol j t):=by
  intro j k v f p w h o l;have⟨b1,e,hb⟩:=o;exact⟨_,_,_,e,enters_of func174 (by rfl) rfl,Tl E d own j k t b1 h l hb⟩
 unfold tQ;split
 .rename_i e;have⟨e1,e2⟩:=e;subst e1;subst e2;exact c _ (LV E)
 split
 .rename_i e;have⟨e1,e2⟩:=e;subst e1;subst e2;exact c _ (Oj E)
 split
 .rename_i e;have⟨e1,e2⟩:=e;subst e1;subst e2;exact c _ (Qd E)
 exact zX E _ t
def oo (lk:Bool) (uU rec:Nat->gO->M Unit):Ru->gO->M Unit
 | .nil,_=>stuck
 | .nothing,_=>Pure.pure ()
 | .ik f,t=>Q7 lk uU rec t f
 | .pO m,t=>if 0<=m then rec m.toNat t else stuck
 | .gR pf own,t=>tQ pf own t
 | .ahead f,t=>match DX f with
  |some b=>ym rec b t
  |none=>stuck
 | .ends f,_=>match DX f with
  |some b=>D5 b
  |none=>stuck
 | .Om r,t=>LG (oo lk uU rec r t) t
 | .sA ks m,t=>if 0<=m then vy ks m.toNat t else stuck
 | .ot ks name m,t=>if 0<=m then tS rec ks name m.toNat t else stuck
 | .item ks,t=>GL ks t
section
variable (E:Env) (lk:Bool) (hl:lk=false->E.wv=none) (hi:E.FB=7) (uU rec:Nat->gO->M Unit)
variable (hAL:∀v ws (m:Nat) (t:gO),ji E t->je (E.lock v ws) 171 (λ_=>#[Bp E,.int .i64 (m:Int),iJ E t]) (uU m t) uV)
variable (hA:∀(m:Nat) (t:gO),ji E t->je E 171 (λ_=>#[Bp E,.int .i64 (m:Int),iJ E t]) (rec m t) uV)
include hl hi hAL hA
def QB (t:gO) (j:ji E t):∀r,mu E r t (oo lk uU rec r t)
 | .nil=>zX E _ t
 | .nothing=>XD E t
 | .ik f=>acB E lk hl hi uU rec hAL hA f t j
 | .pO m=>by
  show mu E (.pO m) t (if 0<=m then rec m.toNat t else stuck);split
  .rename_i l;intro v f o w h d c;have⟨b1,b2,e,hb1,hb2⟩:=d;have p:m=((m.toNat:Nat):Int):=by omega
   rw[p]at hb2;exact⟨_,_,_,e,enters_of func180 (by rfl) rfl,abP E rec hA t j m.toNat b1 b2 h c hb1 hb2⟩
  .exact zX E _ t
 | .gR pf own=>ab1 E pf own t
 | .ahead k=>by
  show mu E (.ahead k) t (match DX k with|some b=>ym rec b t|none=>stuck)
  cases hb:DX k with
  |none=>exact zX E _ t
  |some b=>
   intro v f o w h d c;have⟨b1,b2,e,hb1,hb2⟩:=d;have⟨l,he⟩:=Zt E hb;exact⟨_,_,_,e,enters_of func227 (by rfl) rfl,Oa E rec hA t j b k l he b1 b2 h c hb1 hb2⟩
 | .ends k=>by
  show mu E (.ends k) t (match DX k with|some b=>D5 b|none=>stuck)
  cases hb:DX k with
  |none=>exact zX E _ t
  |some b=>
   intro v f o w h d c;have⟨b1,e,hb1⟩:=d;have⟨l,he⟩:=Zt E hb;exact⟨_,_,_,e,enters_of func232 (by rfl) rfl,acd E t b k l he b1 h c hb1⟩
 | .Om r=>by
  intro v f o w h d c;have⟨b1,b2,u,e,hb1,hb2,hu⟩:=d;exact⟨_,_,_,e,enters_of func237 (by rfl) rfl,Ol E t r _ (QB t j r) b1 b2 u h c hb1 hb2 hu⟩
 | .sA ks m=>by
  show mu E (.sA ks m) t (if 0<=m then vy ks m.toNat t else stuck);split
  .rename_i l;intro v f o w h d c;have⟨b1,b2,b3,u,e,hb1,hb2,ha,hb3⟩:=d;have p:m=((m.toNat:Nat):Int):=by omega
   rw[p]at hb3;obtain⟨k,q,rfl,_,_⟩:=ha.call;exact⟨_,_,_,e,enters_of func224 (by rfl) rfl,Hf E t j ks m.toNat b1 b2 b3 k q h c hb1 hb2 ha hb3⟩
  .exact zX E _ t
 | .ot ks name m=>by
  show mu E (.ot ks name m) t (if 0<=m then tS rec ks name m.toNat t else stuck);split
  .rename_i l;intro v f o w h d c;have⟨b1,b2,b3,b4,u,e,hb1,hb2,ha,hb3,hb4⟩:=d;have p:m=((m.toNat:Nat):Int):=by omega
   rw[p]at hb4;obtain⟨k,q,rfl,_,_⟩:=ha.call;exact⟨_,_,_,e,enters_of func226 (by rfl) rfl,by first|exact Ef E rec hA t j ks name m.toNat b1 b2 b3 b4 k q h c hb1 hb2 ha hb3 hb4|exact Ef E rec hA t j ks name m.toNat b1 b2 b3 b4 k q h c hb1 hb2 hb3 hb4 ha⟩
  .exact zX E _ t
 | .item ks=>by
  intro v f o w h d c;have⟨b1,b2,b3,u1,u2,e,hb1,hb2,ha1,hb3,ha2⟩:=d;obtain⟨z,x,rfl,_,_⟩:=ha1.call;obtain⟨A,y,rfl,_,_⟩:=ha2.call;exact⟨_,_,_,e,enters_of func281 (by rfl) rfl,O4 E t j ks b1 b2 b3 z A x y h c hb1 hb2 ha1 hb3 ha2⟩
end
def ie:Bool->Nat->Nat->gO->M Unit
 |_,0,_,_=>stuck
 |lk,n+1,m,t=>match t.k with
  | .lost=>stuck
  |_=>asM (oo lk (ie true n) (ie lk n)) m t
theorem aft (E:Env) (G:∃x m c,E.tv= .slice x m c) (t:gO) (h:t.k≠ .lost):adX E t:=by
 have⟨a,b,k,gM⟩:=t;cases k with
 |jM s=>exact λd e l o p u y z A B C D F w j=>acM E d e a b s gM l o p u y z A B C D F w j
 |iR=>exact λd e l o p u y z A B C D F w j=>Uc E d e a b gM l o p u y z A B C D F w j
 |start n=>exact λd e l o p u y z A B C D F w j=>aas E d e a b n gM l o p u y z A B C D F w j G
 |stop n=>exact λd e l o p u y z A B C D F w j=>acN E d e a b n gM l o p u y z A B C D F w j G
 |gR s=>exact λd e l o p u y z A B C D F w j=>T9 E d e a b s gM l o p u y z A B C D F w j
 |iy n q=>exact λd e l o p u y z A B C D F w j=>Ua E d e a b n q gM l o p u y z A B C D F w j
 |lost=>grind
def KJ (lk:Bool) (n m:Nat) (t:gO) (h:t.k≠ .lost):ie lk (n+1) m t=asM (oo lk (ie true n) (ie lk n)) m t:=by
 simp[ie]
def Pe:∀(n:Nat) (lk:Bool) (E:Env),(lk=false->E.wv=none)->E.FB=7->(∃x m c,E.tv= .slice x m c)->∀(m:Nat) (t:gO),ji E t->je E 171 (λ_=>#[Bp E,gh m,iJ E t]) (ie lk n m t) uV
 |0,_,_,_,_,_,_,_,_=>λ_ _ _ _ j=>absurd rfl j
 |n+1,lk,E,hl,hi,htv,m,t,l=>by
  by_cases d:t.k= .lost
  .have e:ie lk (n+1) m t=stuck:=by
    have⟨a,b,k,gM⟩:=t;cases d;rfl
   rw[e];exact λ_ _ _ _ j=>absurd rfl j
  .rw[KJ lk n m t d];exact aa7 E _ t (aft E htv t d) (λr=>QB E lk hl hi (ie true n) (ie lk n) (λv ws m t l=>Pe n true (E.lock v ws) (λh=>by cases h) hi htv m t l) (Pe n lk E hl hi htv) t l r) m
def Wn (E:Env) (rec:Nat->gO->M Unit) (a b:Nat) (gM:lZ):je E 57 (λ_=>#[Bp E,iJ E ⟨a,b,.lost,gM⟩]) (qJ rec ⟨a,b,.lost,gM⟩) uV:=by
 intro f e w h j;have d:qJ rec ⟨a,b,.lost,gM⟩ e= .ok () e:=rfl;rw[d];simp only[iJ];have c:=ru underlying190;have H:=fV ((At.start h).k0 ((Kept.refl [] w).alloc (gL #[gh a,gh b] 190)));clear h j d;go_enter func57,ntmps57;go_wp2;go_end0;exact gw rfl H.out rfl
section
variable (lk:Bool) (uU rec:Nat->gO->M Unit) (t:gO)
end
def YF (E:Env) (hl:E.wv=none) (hi:E.FB=7) (e:∃x m c,E.tv= .slice x m c) (n:Nat) (t:gO) (d:ji E t):je E 57 (λ_=>#[Bp E,iJ E t]) (qJ (ie false n) t) uV:=by
 have hA:=Pe n false E (λ_=>hl) hi e;have⟨a,b,k,gM⟩:=t;cases k with
 |jM s=>exact yF E _ hA _ d nofun rfl (by decide) λw=>by kernel_rfl
 |start s=>exact yF E _ hA _ d nofun rfl (by decide) λw=>by generalize E.tv=x;kernel_rfl
 |stop s=>exact yF E _ hA _ d nofun rfl (by decide) λw=>by generalize E.tv=x;kernel_rfl
 |gR s=>exact yF E _ hA _ d nofun rfl (by decide) λw=>by kernel_rfl
 |iy s q=>exact yF E _ hA _ d nofun rfl (by decide) λw=>by kernel_rfl
 |lost=>exact Wn E _ a b gM
 |iR=>exact yF E _ hA _ d nofun rfl (by decide) λw=>by kernel_rfl
def zS (r:Nat) (s:gz) (w:gx) (j:s.size<=1048576) (l:Gl w r):
  Calls prog 257 #[gH s] w λe w'=>e=iw (gH (pc (small s)))/\Kept [] w w':=by
 have k:=l;go_enter func257,ntmps257
 go_wp21
 refine(wQ s w j).mono ?_;rintro e o ⟨rfl,h⟩;have C:=yV r (small s) o (by rw[tj];exact j) (k.kept (h.mono (by simp)))
 go_wp21
 refine C.mono ?_;rintro e p ⟨rfl,d⟩;have c:=h.trans d;go_wp2;go_ret;exact⟨rfl,c⟩
theorem Ad (r:Nat) (R:RC) (bg ps:Nat) (s:gz) (w:gx) (h:Rd w r R bg ps) (l:ps<=R.cs.size) (o:R.cs.size<=1024):
  Calls prog 258 #[gN r,.func (.func 260) #[] #[gN w.heap.size]] (w.alloc (.cells #[gH s] 9))
   λe w'=>e=iw (gH (R.cs.extract ps (scan (ju s) R.cs ps)))/\Kept [r] w w'/\Rd w' r R bg (scan (ju s) R.cs ps):=by
 have p:=iX h;have k:Kept [] w (w.alloc (.cells #[gH s] 9)):=(Kept.refl _ _).alloc _;have b:=fX w (.cells #[gH s] 9);refine(Sw r R bg ps _ _ _ _ (k.at h (by simp)) l o (C5 _ [r] w.heap.size s (by simp) (by simp) (by grind))).mono ?_;rintro e w' ⟨c,d,j⟩;exact⟨c,(k.mono (by simp)).trans d,j⟩
def JG (r:Nat) (R:RC) (bg ps:Nat) (k:Nat) (c:jN) (q:Int->Bool) (w:gx) (h:Rd w r R bg ps) (G:ps<=R.cs.size) (I:R.cs.size<=1024) (B:Wh w [r] k c q):
  Calls prog 161 #[gN r,.func (.func k) #[] c] w λe w'=>e=iw (.bool (decide (ps < R.cs.size)&&q (bt R.cs ps)))/\∃n,w'=w.drewN n:=by
 have o:=B;have t:=h.text;have p:=h.ps;have H:=h;have l:=get_bt R.cs;have u:=o.Zw;have C:=(λw' (h:Rd w' r R bg ps)=>pi r R bg ps w' h)
 by_cases e:ps=R.cs.size
 .have j:decide (ps=R.cs.size)=true:=by simp[e]
  rw[j]at C;go_enter func161,ntmps161
  go_wp21
  go_quiet ((go_at_call 87;refine yz (C _ ?_);exact H))
  go_wp2;go_ret;exact⟨by simp[e],⟨_,rfl⟩⟩
 .have d:ps < R.cs.size:=by omega
  have j:decide (ps=R.cs.size)=false:=by simp[e]
  rw[j]at C;have F:=l ps d;have z:=bt_nonneg R.cs ps;have A:=bt_le R.cs ps;have D:=(λw' h=>o.ask (bt R.cs ps) w' z A h);have y:(decide (ps < R.cs.size)&&q (bt R.cs ps))=q (bt R.cs ps):=by simp[d]
  rw[y];have x:Hid (∀n,Kept [r] w (w.drewN n)):=λn=>(Kept.refl _ _).drewN n;cases hqv:q (bt R.cs ps)
  all_goals
   rw[hqv]at D;go_enter func161,ntmps161
   go_wp21
   go_quiet (first|(go_at_call 87;refine yz (C _ ?_);exact H)|(refine yz (D _ ?_);exact x _))
   go_wp2;go_ret;exact⟨rfl,⟨_,rfl⟩⟩
def Au (R:RC) (s:gz) (ps:Nat):Bool:=decide (s.size<=R.cs.size - ps)&&((small ((R.cs.extract ps R.cs.size).extract 0 s.size)).toList==s.toList)
theorem aaA (t:gz) (n:Nat) (h:n<=t.size):pre t (t.extract 0 n)=true:=by
 have e:(t.extract 0 n).size=n:=by simp;omega
 grind[pre]
def So (r:Nat) (R:RC) (bg ps:Nat) (s:gz) (w:gx) (h:Rd w r R bg ps) (D:ps<=R.cs.size) (F:R.cs.size<=1024) (J:s.size<=1024):
  Calls prog 166 #[gN r,gH s] w λe w'=>e=iw (.bool (Au R s ps))/\Kept [r] w w'/\Rd w' r R bg (if Au R s ps=true then ps+s.size else ps):=by
 have H:=h;obtain⟨t,o⟩:∃t,t=R.cs.extract ps R.cs.size:=⟨_,rfl⟩;have k:t.size=R.cs.size - ps:=by rw[o];simp
 have d:=xo r R bg ps w H D F;rw[<-o]at d;have l:=fV o;clear o
 by_cases e1:s.size<=t.size
 .have I:(t.extract 0 s.size).size=s.size:=by simp;omega
  cases e2:((small (t.extract 0 s.size)).toList==s.toList)
  .have z:Au R s ps=false:=by unfold Au;rw[<-l.out,e2];simp
   rw[z];go_enter func166,ntmps166
   go_wp21
   refine d.mono ?_;rintro e G ⟨rfl,q,rfl⟩
   go_wp21
   refine(wQ _ _ (by omega)).mono ?_;rintro e C ⟨rfl,c⟩;generalize small (t.extract 0 s.size)=u at *;go_wp2;go_ret;exact⟨rfl,((Kept.refl [r] w).drewN q).trans (c.mono (by simp)),c.at (show Rd (w.drewN q) r R bg ps from H) (by simp)⟩
  .have z:Au R s ps=true:=by unfold Au;rw[<-l.out,e2,<-k];simp[e1]
   rw[z];go_enter func166,ntmps166
   go_wp21
   refine d.mono ?_;rintro e G ⟨rfl,q,rfl⟩
   go_wp21
   refine(wQ _ _ (by omega)).mono ?_;rintro e C ⟨rfl,c⟩;have A:Rd C r R bg ps:=c.at (show Rd (w.drewN q) r R bg ps from H) (by simp);have y:=lR r R bg ps (t.extract 0 s.size) C A D F (by omega);have j:=aaA t s.size e1;rw[<-l.out,j]at y;have B:taken R (t.extract 0 s.size) ps=ps+s.size:=by unfold taken;rw[<-l.out,gJ j,I]
   rw[B]at y;generalize small (t.extract 0 s.size)=u at *
   go_wp21
   refine y.mono ?_;rintro e L ⟨rfl,p,x⟩;go_wp2;go_ret;exact⟨rfl,(((Kept.refl [r] w).drewN q).trans (c.mono (by simp))).trans p,x⟩
 .have K:Au R s ps=false:=by unfold Au;rw[<-k];simp[e1]
  rw[K];go_enter func166,ntmps166
  go_wp21
  refine d.mono ?_;rintro e G ⟨rfl,q,rfl⟩;go_wp2;go_ret;exact⟨rfl,((Kept.refl [r] w).drewN q),H⟩
def kJ (R:RC) (ps:Nat):Nat:=scan (ju p9) R.cs (ps+1)
def DM (r:Nat) (R:RC) (bg ps:Nat) (w:gx) (h:Rd w r R bg ps) (L:ps < R.cs.size) (K:R.cs.size<=1024) (B:Gl w r):
  Calls prog 337 #[gN r] w λe w'=>e=iw (gH (pc (small (R.cs.extract ps (kJ R ps)))))/\Kept [r] w w'/\Rd w' r R bg (kJ R ps):=by
 have p:=h.ps;have H:=h.free 3;have F:=B;have o:=h.Ng (ps+1);have k:=(Kept.refl [r] w).setCell (p:=⟨r,3,none⟩) (.inl (by simp)) (gh ((ps+1:Nat)));clear h B;obtain⟨y,j⟩:∃y,y=w.setCell ⟨r,3,none⟩ (gh ((ps+1:Nat))):=⟨_,rfl⟩;rw[<-j]at o k;have c:w.setCell ⟨r,3,none⟩ (gh ((ps:Int)+1))=y:=by rw[j];congr 1
 have A:=fV c;clear j c;have C:=Ad r R bg (ps+1) p9 y o (by omega) K;rw[show scan (ju p9) R.cs (ps+1)=kJ R ps from rfl]at C;have J:kJ R ps<=R.cs.size:=pW (by omega);have I:ps+1<=kJ R ps:=tZ;generalize kJ R ps=n at *;go_enter func337,ntmps337
 go_wp21
 rw[A.out];clear p H;refine(py _ y).mono ?_;rintro e w' ⟨rfl,rfl⟩
 go_wp21
 refine C.mono ?_;rintro e z ⟨rfl,u,d⟩;have O:=d.text;have N:=d.ps;have l:=k.trans u;have D:=(λq=>zS r (R.cs.extract ps n) (z.drewN q) (by simp;omega) (show Gl (z.drewN q) r from F.kept (l.drewN q)));clear u C;generalize hm:pc (small (R.cs.extract ps n))=m at D|-;have G:=fV hm;clear hm
 go_wp21
 go_region_with (refine(D _).mono ?_;rintro e P ⟨rfl,x⟩)
 all_goals (try go_wp2)
 all_goals
  (go_ret
   exact⟨by rw[G.out];rfl,l.trans (((Kept.refl [r] z).drewN 1).trans (x.mono (by simp))),x.at (show Rd (z.drewN 1) r R bg n from d) (by simp)⟩)
def toList_eq {a b : gz} (h:a.toList=b.toList):a=b:=by
 rw[tJ,tJ]at h;exact ve (Array.toList_inj.1 h)
def NV {j : Nat} (h:a+j < b) (d:b<=s.size):bt (s.extract a b) j=bt s (a+j):=by
 have c:j < (s.extract a b).size:=by simp;omega
 unfold bt;rw[xF c,xF (by omega)];rw[ByteArray.getElem_extract]
def Fm {p : gz} {j : Nat} (h:pre (s.extract ps s.size) p=true) (k:j < p.size):bt s (ps+j)=bt p j:=by
 have c:=FO h;unfold pre at h;simp only[sq,BG,beq_iff_eq]at h;have e:=toList_eq h.2;have l:ps+j < s.size:=by simp at c;omega
 have d:=NV (s:=s.extract ps s.size) (a:=0) (b:=p.size) (j:=j) (by omega) c;rw[e,BA,NV (by omega) (gW _)]at d;omega
def sd (R:RC) (ps:Nat):Nat:=taken R iW (scan (ju iW) R.cs ps)
def Jw (h:ps<=R.cs.size):sd R ps<=R.cs.size:=Ss (pW h)
def ZK:ps<=sd R ps:=j7 tZ Sr
def uP (r:Nat) (R:RC) (bg ps g l:Nat) (c:Nat->Nat) (w:gx) (h:Rd w r R bg ps) (hA:Mi w r R g l c) (O:Gl w r) (P:bg<=R.cs.size) (H:ps<=R.cs.size) (I:R.cs.size<=1024):
  Calls prog 169 #[gN r] w λe w'=>e=iw (.iface 198 (.agg #[gh (c bg),gh (c (sd R ps)),gH (pc (R.cs.extract ps (scan (ju iW) R.cs ps)))]))/\Kept [r] w w'/\Rd w' r R bg (sd R ps):=by
 have C:=Ad r R bg ps iW w h H I;have L:=hA;have N:=O;have G:scan (ju iW) R.cs ps<=R.cs.size:=pW H;have D:=(λ(J:gx) (Q:Rd J r R bg (scan (ju iW) R.cs ps))=>lR r R bg _ iW J Q G I (by decide));rw[show taken R iW (scan (ju iW) R.cs ps)=sd R ps from rfl]at D;have q:sd R ps<=R.cs.size:=Jw H;generalize sd R ps=m at *;generalize scan (ju iW) R.cs ps=n at *;go_enter func169,ntmps169
 go_wp21
 refine(py _ w).mono ?_;rintro e w' ⟨rfl,rfl⟩
 go_wp21
 refine C.mono ?_;rintro e J ⟨rfl,u,y⟩
 go_wp21
 refine(D _ y).mono ?_;rintro e S ⟨rfl,B,k⟩;have d:=u.trans B;have E:=qp r R bg m g l c S k (L.kept d) P q I
 go_wp21
 refine E.mono ?_;rintro e K ⟨rfl,o⟩;have j:=d.trans (o.mono (by simp));have z:Hid (Rd K r R bg m):=k.kept o (by simp);have F:=yV r (R.cs.extract ps n) K (by simp;omega) (N.kept j)
 go_wp21
 refine F.mono ?_;rintro e T ⟨rfl,p⟩;have x:=j.trans (p.mono (by simp));have A:Hid (Rd T r R bg m):=z.kept p (by simp);go_wp2;go_ret;exact⟨rfl,x,A⟩
def zM (s:gz):gz:=
 if Lib.hasSuffix s.data.toList [45,45,33]then ⟨(Lib.trimSuffix s.data.toList [45,45,33]).toArray⟩
 else if Lib.hasSuffix s.data.toList [45,45]then ⟨(Lib.trimSuffix s.data.toList [45,45]).toArray⟩
 else if Lib.hasSuffix s.data.toList [45]then ⟨(Lib.trimSuffix s.data.toList [45]).toArray⟩else s
def T1 (s:gz) (w:gx) (p:s.size<=1048576):
  Calls prog 303 #[gH s] w λe w'=>e=iw (gH (zM s))/\Kept [] w w':=by
 have c:=(λw=>Tryz.strings_CutSuffix s ⟨#[45,45,33]⟩ w (by omega));have d:=(λw=>Tryz.strings_CutSuffix s ⟨#[45,45]⟩ w (by omega));have h:=(λw=>Tryz.strings_CutSuffix s ⟨#[45]⟩ w (by omega));have j:Hid (Kept [] w (w.alloc (.cells #[gH ⟨#[45,45,33]⟩,gH ⟨#[45,45]⟩,gH ⟨#[45]⟩] 9))):=(Kept.refl _ _).alloc _;unfold zM;simp only at c d h;cases h1:Lib.hasSuffix s.data.toList [45,45,33]
 .rw[h1]at c;cases h2:Lib.hasSuffix s.data.toList [45,45]
  .rw[h2]at d;cases h3:Lib.hasSuffix s.data.toList [45]
   .rw[h3]at h;simp only[uz,↓reduceIte];generalize Lib.trimSuffix s.data.toList [45,45,33]=k at *;generalize Lib.trimSuffix s.data.toList [45,45]=l at *;generalize Lib.trimSuffix s.data.toList [45]=o at *;go_enter func303,ntmps303
    go_wp21
    refine uj 4 ?_;rw[nU]
    go_wp21
    refine(c _).mono ?_;rintro e w' ⟨rfl,rfl⟩
    go_wp21
    rw[nU]
    go_wp21
    refine(d _).mono ?_;rintro e w' ⟨rfl,rfl⟩
    go_wp21
    rw[nU]
    go_wp21
    refine(h _).mono ?_;rintro e w' ⟨rfl,rfl⟩
    go_wp21
    rw[nU];go_wp2;go_ret;exact⟨rfl,j⟩
   .rw[h3]at h;simp only[uz,↓reduceIte];generalize Lib.trimSuffix s.data.toList [45,45,33]=k at *;generalize Lib.trimSuffix s.data.toList [45,45]=l at *;generalize Lib.trimSuffix s.data.toList [45]=o at *;go_enter func303,ntmps303
    go_wp21
    refine uj 4 ?_;rw[nU]
    go_wp21
    refine(c _).mono ?_;rintro e w' ⟨rfl,rfl⟩
    go_wp21
    rw[nU]
    go_wp21
    refine(d _).mono ?_;rintro e w' ⟨rfl,rfl⟩
    go_wp21
    rw[nU]
    go_wp21
    refine(h _).mono ?_;rintro e w' ⟨rfl,rfl⟩;go_wp2;go_ret;exact⟨rfl,j⟩
  .rw[h2]at d;simp only[uz,↓reduceIte];generalize Lib.trimSuffix s.data.toList [45,45,33]=k at *;generalize Lib.trimSuffix s.data.toList [45,45]=l at *;go_enter func303,ntmps303
   go_wp21
   refine uj 4 ?_;rw[nU]
   go_wp21
   refine(c _).mono ?_;rintro e w' ⟨rfl,rfl⟩
   go_wp21
   rw[nU]
   go_wp21
   refine(d _).mono ?_;rintro e w' ⟨rfl,rfl⟩;go_wp2;go_ret;exact⟨rfl,j⟩
 .rw[h1]at c;simp only[↓reduceIte];generalize Lib.trimSuffix s.data.toList [45,45,33]=k at *;go_enter func303,ntmps303
  go_wp21
  refine uj 4 ?_;rw[nU]
  go_wp21
  refine(c _).mono ?_;rintro e w' ⟨rfl,rfl⟩;go_wp2;go_ret;exact⟨rfl,j⟩
def e1:gz:=oS
def e2:gz:=⟨#[45,45,33,62]⟩
def ut (R:RC) (i:Nat):Nat:=
 if i < R.cs.size then (if pre (R.cs.extract i R.cs.size) e1=true then i+3 else if pre (R.cs.extract i R.cs.size) e2=true then i+4 else ut R (i+1))else i
  termination_by R.cs.size - i
def qf (R:RC) (a i:Nat):gz:=
 if i < R.cs.size then (if pre (R.cs.extract i R.cs.size) e1=true then R.cs.extract a i else if pre (R.cs.extract i R.cs.size) e2=true then R.cs.extract a i else qf R a (i+1))else zM (R.cs.extract a R.cs.size)
  termination_by R.cs.size - i
def abV:i<=ut R i:=by
 fun_induction ut R i<;>omega
def abW (h:i<=R.cs.size):ut R i<=R.cs.size:=by
 fun_induction ut R i with
 |case1 i h1 h2=>exact lN (p:=e1) h2 h
 |case2 i h1 h2 h3=>exact lN (p:=e2) h3 h
 |case3 i h1 h2 h3 ih=>omega
 |case4=>exact h
def WJ (h:i<=R.cs.size):ut R i=R.cs.size\/(i < ut R i/\bt R.cs (ut R i - 1)=62):=by
 fun_induction ut R i with
 |case1 i h1 h2=>right;exact⟨by omega,Fm (p:=e1) (j:=2) h2 (by decide)⟩
 |case2 i h1 h2 h3=>right;exact⟨by omega,Fm (p:=e2) (j:=3) h3 (by decide)⟩
 |case3 i h1 h2 h3 ih=>omega
 |case4 i h1=>omega
theorem af6 (h:i < R.cs.size) (c:pre (R.cs.extract i R.cs.size) e1=true):ut R i=i+3:=by grind[ut]
theorem af7 (h:i < R.cs.size) (c:pre (R.cs.extract i R.cs.size) e1=false) (d:pre (R.cs.extract i R.cs.size) e2=true):ut R i=i+4:=by grind[ut]
theorem af8 (h:i < R.cs.size) (c:pre (R.cs.extract i R.cs.size) e1=false) (d:pre (R.cs.extract i R.cs.size) e2=false):ut R i=ut R (i+1):=by grind[ut]
theorem aeQ (h:i < R.cs.size) (c:pre (R.cs.extract i R.cs.size) e1=true):qf R a i=R.cs.extract a i:=by grind[qf]
theorem aeR (h:i < R.cs.size) (c:pre (R.cs.extract i R.cs.size) e1=false) (d:pre (R.cs.extract i R.cs.size) e2=true):qf R a i=R.cs.extract a i:=by grind[qf]
theorem aeS (h:i < R.cs.size) (c:pre (R.cs.extract i R.cs.size) e1=false) (d:pre (R.cs.extract i R.cs.size) e2=false):qf R a i=qf R a (i+1):=by grind[qf]
def DC (r:Nat) (R:RC) (bg ps:Nat) (w:gx) (h:Rd w r R bg ps) (Z:ps<=R.cs.size) (T:R.cs.size<=1024):
  Calls prog 255 #[gN r] w λe w'=>e=iw (gH (qf R ps ps))/\Kept [r] w w'/\Rd w' r R bg (ut R ps):=by
 have p0:=h.ps;have H:=h;obtain⟨ce,P⟩:∃x,x=ut R ps:=⟨_,rfl⟩;obtain⟨S,Q⟩:∃x,x=qf R ps ps:=⟨_,rfl⟩;rw[<-P,<-Q];go_enter func255,ntmps255
 go_wp21
 go_loopw [] (λwr=>∃i:Nat,ps<=i/\i<=R.cs.size/\ut R i=ce/\qf R ps i=S/\Rd wr r R bg i/\Kept [r] w wr) (λwr=>R.cs.size - (match wr.cell? ⟨r,3,none⟩with|some v=>(intOf v).toNat|none=>0))
 case atStart=>exact⟨ps,gW _,Z,P.symm,Q.symm,H,Kept.refl _ _⟩
 case round=>
  have⟨i,hi0,hi1,hcc,hcx,HR,HKW⟩:=hrel;have A:=fV hcc;have B:=fV hcx;have t:=HR.text;have p:=HR.ps;have fz:=HR.free 3;clear hcc hcx
  by_cases e:i=R.cs.size
  .have G:decide (i=R.cs.size)=true:=by simp[e]
   have C:=pi r R bg i wr HR;rw[G]at C;have U:S=zM (R.cs.extract ps R.cs.size):=by rw[<-B.out,qf,gV (by omega)]
   have V:ce=i:=by rw[<-A.out,ut,gV (by omega)]
   have W:=fV U;have X:=fV V;clear U V;have Y:=e;have D:=(λw'=>T1 (R.cs.extract ps R.cs.size) w' (by simp;omega))
   go_wp21
   refine C.mono ?_;rintro e N ⟨rfl,q,rfl⟩
   go_wp21
   refine(D _).mono ?_;rintro e O ⟨rfl,d⟩;go_wp2;go_ret;exact⟨by rw[W.out];rfl,(HKW.drewN q).trans (d.mono (by simp)),by rw[X.out];exact d.at (show Rd (wr.drewN q) r R bg i from HR) (by simp)⟩
  .have j:i < R.cs.size:=by omega
   have G:decide (i=R.cs.size)=false:=by simp[e]
   have C:=pi r R bg i wr HR;rw[G]at C;have o:=(λw' (h:Rd w' r R bg i)=>lR r R bg i e1 w' h hi1 T (by decide));have y:=(λw' (h:Rd w' r R bg i)=>lR r R bg i e2 w' h hi1 T (by decide));cases h1:pre (R.cs.extract i R.cs.size) e1
   .have K:taken R e1 i=i:=by unfold taken;rw[gV (by simp[h1])]
    rw[h1,K]at o;cases h2:pre (R.cs.extract i R.cs.size) e2
    .have L:taken R e2 i=i:=by unfold taken;rw[gV (by simp[h2])]
     rw[h2,L]at y;have HS:=fV (af8 j h1 h2);have l:=fV (aeS (a:=ps) j h1 h2);unfold e1 at o;unfold e2 at y
     go_wp21
     refine C.mono ?_;rintro e N ⟨rfl,q,rfl⟩
     go_wp21
     go_quiet (fail)
     go_wp21
     refine(o _ ?_).mono ?_
     .exact HR
     rintro e O ⟨rfl,d,u⟩
     go_wp21
     refine(y _ u).mono ?_;rintro e w3 ⟨rfl,F,c⟩;have p3:=c.ps;have f3:=c.free 3;have z:=Rd.Ng c (i+1);have k:=((HKW.drewN (q+nq)).trans (d.trans F)).setCell (p:=⟨r,3,none⟩) (.inl (by simp)) (gh ((i+1:Nat)));go_wp2;go_roundw
     case rel=>exact⟨i+1,by omega,by omega,by rw[<-HS.out,A.out],by rw[<-l.out,B.out],z,k⟩
     case measure=>
      have m1:=z.ps;rw[show((i:Int)+1)=((i+1:Nat):Int)from by omega,m1,p];simp[intOf];omega
    .have L:taken R e2 i=i+4:=by unfold taken;rw[gJ h2];rfl
     rw[h2,L]at y;have HS:=fV (af7 j h1 h2);have l:=fV (aeR (a:=ps) j h1 h2);unfold e1 at o;unfold e2 at y
     go_wp21
     refine C.mono ?_;rintro e N ⟨rfl,q,rfl⟩
     go_wp21
     go_quiet (fail)
     go_wp21
     refine(o _ ?_).mono ?_
     .exact HR
     rintro e O ⟨rfl,d,u⟩
     go_wp21
     refine(y _ u).mono ?_;rintro e w3 ⟨rfl,J,c⟩;have k:=((HKW.drewN (q+nq)).trans (d.trans J));go_wp2;go_ret;exact⟨by rw[<-B.out,l.out];rfl,k,by rw[<-A.out,HS.out];exact c⟩
   .have K:taken R e1 i=i+3:=by unfold taken;rw[gJ h1];rfl
    rw[h1,K]at o;have HS:=fV (af6 j h1);have l:=fV (aeQ (a:=ps) j h1);unfold e1 at o
    go_wp21
    refine C.mono ?_;rintro e N ⟨rfl,q,rfl⟩
    go_wp21
    go_quiet (fail)
    go_wp21
    refine(o _ ?_).mono ?_
    .exact HR
    rintro e O ⟨rfl,I,c⟩;have k:=((HKW.drewN (q+nq)).trans I);go_wp2;go_ret;exact⟨by rw[<-B.out,l.out];rfl,k,by rw[<-A.out,HS.out];exact c⟩
def oj (R:RC) (ps:Nat):Nat:=if pre (R.cs.extract ps R.cs.size) iW=true then ps+1 else if pre (R.cs.extract ps R.cs.size) zl=true then ps+2 else ut R ps
def oB (R:RC) (ps:Nat):gz:=if pre (R.cs.extract ps R.cs.size) iW=true then ⟨#[]⟩else if pre (R.cs.extract ps R.cs.size) zl=true then ⟨#[]⟩else qf R ps ps
def Mt (h:ps<=R.cs.size):oj R ps<=R.cs.size:=by
 unfold oj;split
 .rename_i c;exact lN c h
 .split
  .rename_i c;exact lN c h
  .exact abW h
def WO:ps<=oj R ps:=by
 unfold oj;split
 .omega
 .split
  .omega
  .exact abV
def P7 (h:ps<=R.cs.size):oj R ps=R.cs.size\/(ps < oj R ps/\bt R.cs (oj R ps - 1)=62):=by
 unfold oj;split
 .rename_i c;exact .inr ⟨by omega,Fm (j:=0) c (by decide)⟩
 .split
  .rename_i c;exact .inr ⟨by omega,Fm (j:=1) c (by decide)⟩
  .exact WJ h
theorem Rf (s:gz):(zM s).size<=s.size:=by
 have h:∀p,(ByteArray.mk (Lib.trimSuffix s.data.toList p).toArray).size<=s.size:=by
  intro p;show(Lib.trimSuffix s.data.toList p).toArray.size<=s.data.size;unfold Lib.trimSuffix;split
  .simp
  .simp
 grind[zM]
def Tp:(qf R a i).size<=R.cs.size:=by
 fun_induction qf R a i with
 |case1=>simp;omega
 |case2=>simp;omega
 |case3=>omega
 |case4=>exact j7 (Rf _) (by simp)
def N0:(oB R ps).size<=R.cs.size:=by
 unfold oB;split
 .exact iN _
 .split
  .exact iN _
  .exact Tp
def Ls (r:Nat) (R:RC) (bg m g h:Nat) (c:Nat->Nat) (w l:gx) (hA:Mi w r R g h c) (z:Gl w r) (A:bg<=R.cs.size) (B:m<=R.cs.size) (C:R.cs.size<=1024) (u:Kept [r] w l) (o:Rd l r R bg m) (t:gz) (D:t.size<=1048576):
  (Calls prog 88 #[gN r] l λe k=>e=iw (.agg #[gh (c bg),gh (c m)])/\Kept [r] w k/\Rd k r R bg m/\
   Calls prog 158 #[gH t] k λe q=>e=iw (gH (pc t))/\Kept [r] w q/\Rd q r R bg m):=by
 refine(qp r R bg m g h c l o (hA.kept u) A B C).mono ?_;rintro e k ⟨x,d⟩;have p:=u.trans (d.mono (by simp));refine⟨x,p,o.kept d (by simp),?_⟩;refine(yV r t k D (z.kept p)).mono ?_;rintro e q ⟨y,j⟩;exact⟨y,p.trans (j.mono (by simp)),(o.kept d (by simp)).kept j (by simp)⟩
theorem P9 (r:Nat) (R:RC) (bg ps g C:Nat) (j:Nat->Nat) (w:gx) (h:Rd w r R bg ps) (hA:Mi w r R g C j) (Q:Gl w r) (S:bg<=R.cs.size) (J:ps<=R.cs.size) (K:R.cs.size<=1024):
  Calls prog 165 #[gN r] w λe w'=>e=iw (.iface 198 (.agg #[gh (j bg),gh (j (oj R ps)),gH (pc (oB R ps))]))/\Kept [r] w w'/\Rd w' r R bg (oj R ps):=by
 have A:=lR r R bg ps iW w h J K (by decide);have B:=(λw' (h:Rd w' r R bg ps)=>lR r R bg ps zl w' h J K (by decide));have H:=(λw' (h:Rd w' r R bg ps)=>DC r R bg ps w' h J K);have F:=(λk (T:Kept [r] w k) (U:Rd k r R bg (oj R ps))=>Ls r R bg (oj R ps) g C j w k hA Q S (Mt J) K T U (oB R ps) (j7 N0 (by omega)));clear h hA Q;cases h1:pre (R.cs.extract ps R.cs.size) iW
 .have z:taken R iW ps=ps:=by unfold taken;rw[gV (by simp[h1])]
  rw[h1,z]at A;cases h2:pre (R.cs.extract ps R.cs.size) zl;have G:taken R zl ps=ps:=by unfold taken;rw[gV (by simp[h2])]
  rw[h2,G]at B;have l:oj R ps=ut R ps:=by unfold oj;rw[gV (by simp[h1]),gV (by simp[h2])]
  have o:oB R ps=qf R ps ps:=by unfold oB;rw[gV (by simp[h1]),gV (by simp[h2])]
  rw[<-l,<-o]at H;clear h1 h2 z G l o;generalize oj R ps=m at *;generalize oB R ps=t at *;go_enter func165,ntmps165
  go_wp21
  refine A.mono ?_;rintro e V ⟨rfl,q,u⟩
  go_wp21
  refine(B _ u).mono ?_;rintro e Y ⟨rfl,D,O⟩;have L:=q.trans D;clear D
  go_wp21
  refine(H _ O).mono ?_;rintro e k ⟨rfl,c,d⟩;have I:=F k (L.trans c) d
  rotate_left
  have G:taken R zl ps=ps+2:=by unfold taken;rw[gJ h2];rfl
  rw[h2,G]at B;have l:oj R ps=ps+2:=by unfold oj;rw[gV (by simp[h1]),gJ h2]
  have o:oB R ps=⟨#[]⟩:=by unfold oB;rw[gV (by simp[h1]),gJ h2]
  rw[l,o]at F|-;clear h1 h2 z G l o H;go_enter func165,ntmps165
  go_wp21
  refine A.mono ?_;rintro e V ⟨rfl,q,u⟩
  go_wp21
  refine(B _ u).mono ?_;rintro e k ⟨rfl,c,d⟩;have I:=F k (q.trans c) d
  all_goals
   clear c d
   go_wp21
   refine I.mono ?_;rintro e W ⟨rfl,x,y,p⟩;clear x y
   go_wp21
   refine p.mono ?_;rintro e X ⟨rfl,N,P⟩;go_wp2;go_ret
   simp_all
 .have z:taken R iW ps=ps+1:=by unfold taken;rw[gJ h1];rfl
  rw[h1,z]at A;have l:oj R ps=ps+1:=by unfold oj;rw[gJ h1]
  have o:oB R ps=⟨#[]⟩:=by unfold oB;rw[gJ h1]
  rw[l,o]at F|-;clear h1 z l o B H;go_enter func165,ntmps165
  go_wp21
  refine A.mono ?_;rintro e k ⟨rfl,c,d⟩;have I:=F k c d;clear c d
  go_wp21
  refine I.mono ?_;rintro e W ⟨rfl,x,y,p⟩;clear x y
  go_wp21
  refine p.mono ?_;rintro e X ⟨rfl,N,P⟩;go_wp2;go_ret
  simp_all
section
open Go.Shelf Go.Lib
def Ph (s:gz):gz:=⟨(Lib.trimS s.data.toList [32,9,10,12]).toArray⟩
def aba (s:gz) (w:gx) (j:s.size<=1048576):
  Calls prog 259 #[gH s,gH mZ] w λe w'=>e=iw (gH (Ph s))/\Kept [] w w':=by
 have c:=Any.strings_Trim_laid Tryz.lays160 (by kernel_rfl) s mZ w (by omega) (by decide) (ascii_of_all (by decide));exact c.mono λe w' ⟨d,h⟩=>⟨d,Kept.BV h⟩
def dtA (R:RC) (ps:Nat):Nat:=scan (λc=>!ju mZ c) R.cs ps
def Gv (R:RC) (ps:Nat):Nat:=scan (ju mN) R.cs (dtA R ps)
def Zl (h:ps<=R.cs.size):dtA R ps<=R.cs.size:=pW h
def Jd (h:ps<=R.cs.size):Gv R ps<=R.cs.size:=pW (Zl h)
def aeU:ps<=Gv R ps:=j7 tZ tZ
end
section
open Go.Shelf Go.Lib
def Tq (R:RC) (ps:Nat):gz:=pc (small (R.cs.extract (dtA R ps) (Gv R ps)))
def dtQ (R:RC) (ps:Nat):Bool:=((Tq R ps).toList==[])||!((Ph (R.cs.extract (Gv R ps) (scan (ju iW) R.cs (Gv R ps)))).toList==[])||!(pre (R.cs.extract (scan (ju iW) R.cs (Gv R ps)) R.cs.size) iW)
def Lv (r:Nat) (R:RC) (bg ps g x:Nat) (d:Nat->Nat) (w:gx) (h:Rd w r R bg ps) (hA:Mi w r R g x d) (hG:Gl w r) (hb:bg<=R.cs.size) (o:ps<=R.cs.size) (G:R.cs.size<=1024):
  Calls prog 167 #[gN r] w λe w'=>e=iw (.iface 200 (.agg #[gh (d bg),gh (d (sd R (Gv R ps))),gH (Tq R ps),.bool (dtQ R ps)]))/\Kept [r] w w'/\Rd w' r R bg (sd R (Gv R ps)):=by
 have y:Tq R ps=pc (small (R.cs.extract (dtA R ps) (Gv R ps))):=rfl;have Z:dtQ R ps=(((Tq R ps).toList==[])||!((Ph (R.cs.extract (Gv R ps) (scan (ju iW) R.cs (Gv R ps)))).toList==[])||!(pre (R.cs.extract (scan (ju iW) R.cs (Gv R ps)) R.cs.size) iW)):=rfl;generalize dtQ R ps=qk at *;generalize Tq R ps=a1 at *;have I:=wD r R bg ps mZ w h o G;rw[show scan (λc=>!ju mZ c) R.cs ps=dtA R ps from rfl]at I;have J:=(λ(w':gx) (h:Rd w' r R bg (dtA R ps))=>Ad r R bg (dtA R ps) mN w' h (Zl o) G);rw[show scan (ju mN) R.cs (dtA R ps)=Gv R ps from rfl]at J;have C3:=(λ(w':gx) (h:Rd w' r R bg (Gv R ps))=>Ad r R bg (Gv R ps) iW w' h (Jd o) G);have a0:scan (ju iW) R.cs (Gv R ps)<=R.cs.size:=pW (Jd o);have D:=(λ(H:gx) (hr:Rd H r R bg (scan (ju iW) R.cs (Gv R ps)))=>lR r R bg _ iW H hr a0 G (by decide));rw[show taken R iW (scan (ju iW) R.cs (Gv R ps))=sd R (Gv R ps)from rfl]at D;have C:sd R (Gv R ps)<=R.cs.size:=Jw (Jd o);have h3:Gv R ps<=R.cs.size:=Jd o;have HA:=hA;have HG:=hG;clear h hA hG;generalize sd R (Gv R ps)=m at *;generalize scan (ju iW) R.cs (Gv R ps)=n at *;generalize Gv R ps=b at *;generalize dtA R ps=a at *;go_enter func167,ntmps167
 go_wp21
 refine I.mono ?_;rintro e w1 ⟨rfl,N,T⟩;clear I
 go_wp21
 refine(py _ w1).mono ?_;rintro e w' ⟨rfl,rfl⟩
 go_wp21
 refine(J _ T).mono ?_;rintro e H ⟨rfl,z,U⟩;have p:=N.trans z;clear z J;have K:=zS r (R.cs.extract a b) H (by simp;omega) (HG.kept p);rw[<-y]at K;clear y
 go_wp21
 refine K.mono ?_;rintro e w3 ⟨rfl,j⟩;have O:=p.trans (j.mono (by simp));have V:=U.kept j (by simp);clear j K
 go_wp21
 refine(py _ w3).mono ?_;rintro e w' ⟨rfl,rfl⟩
 go_wp21
 refine(C3 _ V).mono ?_;rintro e w4 ⟨rfl,A,W⟩;have P:=O.trans A;clear A C3;have L:=aba (R.cs.extract b n) w4 (by simp;omega);generalize Ph (R.cs.extract b n)=mo at L Z
 go_wp21
 refine L.mono ?_;rintro e w5 ⟨rfl,k⟩;have Q:=P.trans (k.mono (by simp));have X:=W.kept k (by simp);clear k L
 go_wp21
 refine(D _ X).mono ?_;rintro e w6 ⟨rfl,B,u⟩;have q:=Q.trans B;clear B D;have F:=qp r R bg m g x d w6 u (HA.kept q) hb C G;generalize pre (R.cs.extract n R.cs.size) iW=cl at *
 go_wp21
 refine F.mono ?_;rintro e w7 ⟨rfl,l⟩;have S:=q.trans (l.mono (by simp));have Y:=u.kept l (by simp);clear l F;have HQ:=fV Z;clear Z;cases h1:(a1.toList==[])<;>cases h2:(mo.toList==[])<;>cases cl
 all_goals go_wp2
 all_goals go_ret
 all_goals exact⟨by rw[HQ.out,h1,h2];rfl,S,Y⟩
end
section
open Go.Shelf Go.Lib
def Px (n:Int):Int:=if n=0\/(55296<=n/\n<=57343)\/n>=1114112 then 65533 else if n=128 then 8364 else if n=133 then 8230 else if n=145 then 8216 else if n=146 then 8217 else if n=147 then 8220 else if n=148 then 8221 else if n=150 then 8211 else if n=151 then 8212 else if n=153 then 8482 else n
def rE {x n : Int} (h:x=Px n):Ending.returned (.int .i32 x)=iw (.int .i32 (Px n)):=by rw[h]
theorem Zb {n : Int} (q:¬n=0) (u:n < 55296) (c:(n==128)=false) (d:(n==133)=false) (e:(n==145)=false) (h:(n==146)=false) (j:(n==147)=false) (k:(n==148)=false) (l:(n==150)=false) (o:(n==151)=false) (p:(n==153)=false):Px n=n:=by
 grind[Px]
theorem Lr (n:Int) (w:gx) (h:0<=n) (j:n<=1114112):
  Calls prog 314 #[gh n] w λe w'=>e=iw (.int .i32 (Px n))/\w'=w:=by
 by_cases a:n=0
 .subst a;go_enter func314,ntmps314;go_wp2;go_ret;simp[Px]
 .by_cases b:55296<=n
  .by_cases c:n<=57343
   .go_enter func314,ntmps314;go_wp2;go_ret;exact⟨rE (by unfold Px;omega),rfl⟩
   .by_cases d:n>=1114112
    .go_enter func314,ntmps314;go_wp2;go_ret;exact⟨rE (by unfold Px;omega),rfl⟩
    .go_enter func314,ntmps314;go_wp2;go_ret;exact⟨rE (by grind[Px]),rfl⟩
  .go_enter func314,ntmps314;go_wp2
   all_goals
    (go_ret
     first
     |exact⟨rE (by rw[Ag ‹(n==128)=true›];rfl),rfl⟩
     |exact⟨rE (by rw[Ag ‹(n==133)=true›];rfl),rfl⟩
     |exact⟨rE (by rw[Ag ‹(n==145)=true›];rfl),rfl⟩
     |exact⟨rE (by rw[Ag ‹(n==146)=true›];rfl),rfl⟩
     |exact⟨rE (by rw[Ag ‹(n==147)=true›];rfl),rfl⟩
     |exact⟨rE (by rw[Ag ‹(n==148)=true›];rfl),rfl⟩
     |exact⟨rE (by rw[Ag ‹(n==150)=true›];rfl),rfl⟩
     |exact⟨rE (by rw[Ag ‹(n==151)=true›];rfl),rfl⟩
     |exact⟨rE (by rw[Ag ‹(n==153)=true›];rfl),rfl⟩
     |exact⟨rE (Zb a b ‹(n==128)=false› ‹(n==133)=false› ‹(n==145)=false› ‹(n==146)=false› ‹(n==147)=false› ‹(n==148)=false› ‹(n==150)=false› ‹(n==151)=false› ‹(n==153)=false›).symm,rfl⟩)
def ly (c:Int):Int:=if 48<=c/\c<=57 then c - 48 else if 97<=c/\c<=102 then c - 87 else if 65<=c/\c<=70 then c - 55 else 99
theorem DU (c:Int):0<=ly c/\ly c<=99:=by grind[ly]
theorem I3 (c:Int) (w:gx) (j:0<=c) (k:c<=255):
  Calls prog 346 #[.int .u8 c] w λe w'=>e=iw (.bool (decide (48<=c/\c<=57)))/\w'=w:=by
 by_cases d:48<=c<;>by_cases h:c<=57
 all_goals first|(exfalso;omega)|skip
 all_goals (go_enter func346,ntmps346;go_wp2;go_ret;simp_all)
def WU (c:Int) (w:gx) (k:0<=c) (l:c<=255):
  Calls prog 313 #[.int .u8 c] w λe w'=>e=iw (gh (ly c))/\w'=w:=by
 have C:=I3 c w k l
 by_cases a:48<=c/\c<=57
 .rw[show decide (48<=c/\c<=57)=true from by simp[a]]at C;have e:ly c=c - 48:=by unfold ly;rw[gJ a]
  rw[e];clear e;have⟨a1,a2⟩:=a;go_enter func313,ntmps313
  go_wp21
  refine C.mono ?_;rintro e w' ⟨rfl,rfl⟩;go_wp2;go_ret;simp
 .rw[show decide (48<=c/\c<=57)=false from by simp;omega]at C
  by_cases b:97<=c
  .by_cases h:c<=102
   have e:ly c=c - 97+10:=by unfold ly;rw[gV a,gJ ⟨b,h⟩];omega
   rotate_left
   have e:ly c=99:=by unfold ly;rw[gV a,gV (by omega),gV (by omega)]
   all_goals
    rw[e];clear e a;go_enter func313,ntmps313
    go_wp21
    refine C.mono ?_;rintro e w' ⟨rfl,rfl⟩;go_wp2;go_ret;simp
  .by_cases d:65<=c
   .by_cases j:c<=70
    have e:ly c=c - 65+10:=by unfold ly;rw[gV a,gV (by omega),gJ ⟨d,j⟩];omega
    rotate_left
    have e:ly c=99:=by unfold ly;rw[gV a,gV (by omega),gV (by omega)]
    all_goals
     rw[e];clear e a;go_enter func313,ntmps313
     go_wp21
     refine C.mono ?_;rintro e w' ⟨rfl,rfl⟩;go_wp2;go_ret;simp
   .have e:ly c=99:=by unfold ly;rw[gV a,gV (by omega),gV (by omega)]
    rw[e];clear e a;go_enter func313,ntmps313
    go_wp21
    refine C.mono ?_;rintro e w' ⟨rfl,rfl⟩;go_wp2;go_ret;simp
end
def xa (base:Int) (s:gz) (i:Nat):Nat:=scan (λc=>decide (ly c>=base)) s i
def pw (base:Int) (s:gz) (f:Nat):Nat:=
 if xa base s f=f then 0 else if xa base s f < s.size/\bt s (xa base s f)=59 then xa base s f+1 else xa base s f
def MN (s:gz):Bool:=decide (2 < s.size/\(bt s 2=120\/bt s 2=88))
def vu (s:gz):Nat:=if MN s=true then pw 16 s 3 else pw 10 s 2
theorem MW {base : Int} (h:f<=s.size):pw base s f<=s.size:=by
 have:=pW (q:=λc=>decide (ly c>=base)) h;unfold pw;grind[xa]
def T5 (h:2<=s.size):vu s<=s.size:=by
 unfold vu;split
 .rename_i c;unfold MN at c;simp at c;exact MW (by omega)
 .exact MW h
def xk (base:Int) (s:gz) (k:Int) (i:Nat):Int:=
 if i < s.size then (if ly (bt s i)>=base then k else xk base s (min (k*base+ly (bt s i)) 1114112) (i+1))else k
  termination_by s.size - i
def Rh {base : Int} {k : Int} (h:¬i < s.size):xk base s k i=k:=by rw[xk,gV h]
theorem MX {base : Int} {k : Int} (h:i < s.size) (c:ly (bt s i)>=base):xk base s k i=k:=by grind[xk]
theorem Vw {base : Int} {k : Int} (h:i < s.size) (c:¬ly (bt s i)>=base):xk base s (min (k*base+ly (bt s i)) 1114112) (i+1)=xk base s k i:=by grind[xk]
def OJ (base:Int) (s:gz) (f:Nat):gz:=if pw base s f=0 then ⟨#[]⟩else Utf8.encode (Px (xk base s 0 f))
def vw (s:gz):gz:=if MN s=true then OJ 16 s 3 else OJ 10 s 2
def N5 (c:Int):(Utf8.encode c).size<=16:=by
 unfold Utf8.encode;dsimp only;generalize (if Utf8.valid c=true then c.toNat else Utf8.runeError)=k
 repeat' split
 all_goals first|(show 1<=16;omega)|(show 2<=16;omega)|(show 3<=16;omega)|(show 4<=16;omega)
def LQ (s:gz):(vw s).size<=16:=by
 unfold vw OJ
 repeat' split
 all_goals first|exact N5 _|(show 0<=16;omega)
theorem rO {t d : gz} {c : Nat} {m : Int} (h:t=d) (e:n=c) (j:m=(c:Int)):Ending.returned (.tuple #[gH t,gh m])=iw (.tuple #[gH d,gh n]):=by grind
theorem Kf (s:gz) (w:gx) (hs:s.size<=1048576) (h2:2<=s.size):
  Calls prog 262 #[gH s] w λe w'=>e=iw (.tuple #[gH (vw s),gh (vu s)])/\w'=w:=by
 have a0:=get_bt s;obtain⟨V,a1,a5⟩:∃V:Int->gz,(∀c,V c=Utf8.encode c)/\∀(c:Int) (w:gx),(convert 21 9 (.int .i32 c)).run prog w= .ok (gH (V c)) w:=⟨_,λ_=>rfl,λc w=>run_convert_int_string w 21 9 .i32 c (by simp) underlying9⟩;have J:=fV a1;clear a1;have D:=(λc (N:0<=c) (O:c<=255)=>WU c w N O);have G:=(λn (N:0<=n) (O:n<=1114112)=>Lr n w N O)
 by_cases U:MN s=true
 .have e:vu s=pw 16 s 3:=by unfold vu;rw[gJ U]
  have e':vw s=OJ 16 s 3:=by unfold vw;rw[gJ U]
  rw[e,e'];clear e e';unfold MN at U;have⟨T,L⟩:=of_decide_eq_true U;clear U;obtain⟨H,z⟩:∃x,x=pw 16 s 3:=⟨_,rfl⟩;obtain⟨I,F⟩:∃x,x=OJ 16 s 3:=⟨_,rfl⟩;have B:I=if H=0 then ⟨#[]⟩else Utf8.encode (Px (xk 16 s 0 3)):=by rw[F,z,OJ]
  rw[<-z,<-F];have o:=fV z;have q:=fV B;clear z F B;rcases L with L|L
  all_goals
   go_enter func262,ntmps262
   go_wp21
   go_loopw [6,7] (λnv Z wr=>wr=w/\∃(k:Int) (i:Nat),nv=gh k/\Z=gh i/\0<=k/\k<=1114112/\3<=i/\i<=s.size/\xa 16 s i=xa 16 s 3/\xk 16 s k i=xk 16 s 0 3) (λ_ Z _=>s.size - (intOf Z).toNat)
   case atStart=>grind
   case round=>
    obtain⟨rfl,k,i,rfl,rfl,P,Q,a3,a4,hd,hv⟩:=hrel;have W:=fV hd;have Y:=fV hv;clear hd hv
    by_cases l:i < s.size
    .have hb:=a0 i l;have N:=bt_nonneg s i;have O:=bt_le s i;have r:=DU (bt s i);have C:=D (bt s i) N O
     by_cases K:ly (bt s i)>=16
     .have e1:xa 16 s i=i:=Kr (by simpa using K);have e2:xa 16 s 3=i:=by rw[<-W.out,e1]
      have y:xk 16 s 0 3=k:=by rw[<-Y.out,MX l K]
      by_cases A:i=3
      .have j:H=0:=by rw[o.out];unfold pw;rw[e2,gJ A]
       have p:=fV j;have u:=fV (show I=⟨#[]⟩ by rw[q.out,gJ j]);clear e1 e2 j y;subst A
       go_wp21
       refine C.mono ?_;rintro e w' ⟨rfl,rfl⟩;go_wp2;go_ret2;exact⟨rO u.symm p rfl,rfl⟩
      .have X:=G k P Q
       by_cases S:bt s i=59
       have j:H=i+1:=by rw[o.out];unfold pw;rw[e2,gV A,gJ ⟨l,S⟩]
       have p:=fV j;have u:=fV (show I=V (Px k) by rw[q.out,gV (by omega),y,J.out]);rw[S]at C hb N O r K;rw[show ly 59=99 from by decide]at C;clear e1 e2 j y r K N O
       rotate_left
       have j:H=i:=by rw[o.out];unfold pw;rw[e2,gV A,gV (by omega)]
       have p:=fV j;have u:=fV (show I=V (Px k) by rw[q.out,gV (by omega),y,J.out]);clear e1 e2 j y
       all_goals
        go_wp21
        refine C.mono ?_;rintro e w' ⟨rfl,rfl⟩
        go_wp21
        refine X.mono ?_;rintro e w' ⟨rfl,rfl⟩;go_wp2;go_ret2;exact⟨rO u.symm p rfl,rfl⟩
     .have e1:xa 16 s (i+1)=xa 16 s 3:=by rw[<-W.out];exact(OZ l (by simpa using K)).symm
      have HU:xk 16 s (min (k*16+ly (bt s i)) 1114112) (i+1)=xk 16 s 0 3:=by rw[Vw l K,Y.out]
      have p:=fV e1;clear e1;generalize ly (bt s i)=d at *
      go_wp21
      refine C.mono ?_;rintro e w' ⟨rfl,rfl⟩;go_wp2
      all_goals (refine⟨⟨trivial,min (k*16+d) 1114112,i+1,?_,by go_num,by omega,by omega,by omega,by omega,p,HU⟩,?_⟩;(first|rfl|(congr 1;omega));(simp[intOf];omega))
    .have e1:xa 16 s i=i:=EJ (by omega);have e2:xa 16 s 3=i:=by rw[<-W.out,e1]
     have y:xk 16 s 0 3=k:=by rw[<-Y.out,Rh l]
     have X:=G k P Q;have e0:i=s.size:=by omega
     by_cases A:i=3
     .have j:H=0:=by rw[o.out];unfold pw;rw[e2,gJ A]
      have p:=fV j;have u:=fV (show I=⟨#[]⟩ by rw[q.out,gJ j]);clear e1 e2 j y e0;subst A
      first
       |(exfalso;omega)
       |(go_wp2
         go_ret2;exact⟨rO u.symm p rfl,rfl⟩)
     .have j:H=i:=by rw[o.out];unfold pw;rw[e2,gV A,gV (by omega)]
      have p:=fV j;have u:=fV (show I=V (Px k) by rw[q.out,gV (by omega),y,J.out]);clear e1 e2 j y e0
      go_wp21
      refine X.mono ?_;rintro e w' ⟨rfl,rfl⟩;go_wp2;go_ret2;exact⟨rO u.symm p rfl,rfl⟩
 .have e:vu s=pw 10 s 2:=by unfold vu;rw[gV U]
  have e':vw s=OJ 10 s 2:=by unfold vw;rw[gV U]
  rw[e,e'];clear e e';have T:¬(2 < s.size/\(bt s 2=120\/bt s 2=88)):=by unfold MN at U;simpa using U
  clear U;obtain⟨H,z⟩:∃x,x=pw 10 s 2:=⟨_,rfl⟩;obtain⟨I,F⟩:∃x,x=OJ 10 s 2:=⟨_,rfl⟩;have B:I=if H=0 then ⟨#[]⟩else Utf8.encode (Px (xk 10 s 0 2)):=by rw[F,z,OJ]
  rw[<-z,<-F];have o:=fV z;have q:=fV B;clear z F B
  by_cases hz:2 < s.size
  .have L:¬bt s 2=120:=λh=>T ⟨hz,.inl h⟩;have a2:¬bt s 2=88:=λh=>T ⟨hz,.inr h⟩;have a6:(bt s 2==120)=false:=beq_eq_false_iff_ne.2 L;have a7:(bt s 2==88)=false:=beq_eq_false_iff_ne.2 a2;clear T L a2;go_enter func262,ntmps262
   go_wp21
   go_loopw [6,7] (λnv Z wr=>wr=w/\∃(k:Int) (i:Nat),nv=gh k/\Z=gh i/\0<=k/\k<=1114112/\2<=i/\i<=s.size/\xa 10 s i=xa 10 s 2/\xk 10 s k i=xk 10 s 0 2) (λ_ Z _=>s.size - (intOf Z).toNat)
   case atStart=>grind
   case round=>
    obtain⟨rfl,k,i,rfl,rfl,P,Q,a3,a4,hd,hv⟩:=hrel;have W:=fV hd;have Y:=fV hv;clear hd hv
    by_cases l:i < s.size
    .have hb:=a0 i l;have N:=bt_nonneg s i;have O:=bt_le s i;have r:=DU (bt s i);have C:=D (bt s i) N O
     by_cases K:ly (bt s i)>=10
     .have e1:xa 10 s i=i:=Kr (by simpa using K);have e2:xa 10 s 2=i:=by rw[<-W.out,e1]
      have y:xk 10 s 0 2=k:=by rw[<-Y.out,MX l K]
      by_cases A:i=2
      .have j:H=0:=by rw[o.out];unfold pw;rw[e2,gJ A]
       have p:=fV j;have u:=fV (show I=⟨#[]⟩ by rw[q.out,gJ j]);clear e1 e2 j y;subst A
       go_wp21
       refine C.mono ?_;rintro e w' ⟨rfl,rfl⟩;go_wp2;go_ret2;exact⟨rO u.symm p rfl,rfl⟩
      .have X:=G k P Q
       by_cases S:bt s i=59
       have j:H=i+1:=by rw[o.out];unfold pw;rw[e2,gV A,gJ ⟨l,S⟩]
       have p:=fV j;have u:=fV (show I=V (Px k) by rw[q.out,gV (by omega),y,J.out]);rw[S]at C hb N O r K;rw[show ly 59=99 from by decide]at C;clear e1 e2 j y r K N O
       rotate_left
       have j:H=i:=by rw[o.out];unfold pw;rw[e2,gV A,gV (by omega)]
       have p:=fV j;have u:=fV (show I=V (Px k) by rw[q.out,gV (by omega),y,J.out]);clear e1 e2 j y
       all_goals
        go_wp21
        refine C.mono ?_;rintro e w' ⟨rfl,rfl⟩
        go_wp21
        refine X.mono ?_;rintro e w' ⟨rfl,rfl⟩;go_wp2;go_ret2;exact⟨rO u.symm p rfl,rfl⟩
     .have e1:xa 10 s (i+1)=xa 10 s 2:=by rw[<-W.out];exact(OZ l (by simpa using K)).symm
      have HU:xk 10 s (min (k*10+ly (bt s i)) 1114112) (i+1)=xk 10 s 0 2:=by rw[Vw l K,Y.out]
      have p:=fV e1;clear e1;generalize ly (bt s i)=d at *
      go_wp21
      refine C.mono ?_;rintro e w' ⟨rfl,rfl⟩;go_wp2
      all_goals (refine⟨⟨trivial,min (k*10+d) 1114112,i+1,?_,by go_num,by omega,by omega,by omega,by omega,p,HU⟩,?_⟩;(first|rfl|(congr 1;omega));(simp[intOf];omega))
    .have e1:xa 10 s i=i:=EJ (by omega);have e2:xa 10 s 2=i:=by rw[<-W.out,e1]
     have y:xk 10 s 0 2=k:=by rw[<-Y.out,Rh l]
     have X:=G k P Q;have e0:i=s.size:=by omega
     by_cases A:i=2
     .have j:H=0:=by rw[o.out];unfold pw;rw[e2,gJ A]
      have p:=fV j;have u:=fV (show I=⟨#[]⟩ by omega);clear e1 e2 j y e0;subst A
      first
       |(exfalso;omega)
       |(go_wp2
         go_ret2;exact⟨rO u.symm p rfl,rfl⟩)
     .have j:H=i:=by rw[o.out];unfold pw;rw[e2,gV A,gV (by omega)]
      have p:=fV j;have u:=fV (show I=V (Px k) by rw[q.out,gV (by omega),y,J.out]);clear e1 e2 j y e0
      go_wp21
      refine X.mono ?_;rintro e w' ⟨rfl,rfl⟩;go_wp2;go_ret2;exact⟨rO u.symm p rfl,rfl⟩
  .clear T;have n0:xa 10 s 2=2:=EJ (by omega);have n1:H=0:=by rw[o.out];unfold pw;rw[gJ n0]
   have n2:I=⟨#[]⟩:=by rw[q.out,gJ n1]
   have e0:s.size=2:=by omega
   have p:=fV n1;have u:=fV n2;clear n0 n1 n2;go_enter func262,ntmps262
   go_wp21
   refine uj 1 ?_;rw[nU];go_wp2;go_ret2;exact⟨rO u.symm p rfl,rfl⟩
def quoted (R:RC) (q:gz) (ps:Nat):Nat:=taken R q (scan (ju q) R.cs (ps+1))
def tf (R:RC) (ps:Nat):Nat:=
 if pre (R.cs.extract ps R.cs.size) pD=true then quoted R pD ps else if pre (R.cs.extract ps R.cs.size) tK=true then quoted R tK ps else scan (ju mN) R.cs ps
def M3 {q : gz} (h:ps < R.cs.size):quoted R q ps<=R.cs.size:=Ss (pW (by omega))
def M2 {q : gz}:ps<=quoted R q ps:=j7 (by omega) (j7 (tZ (i:=ps+1)) Sr)
def OO {p : gz} (h:pre (s.extract ps s.size) p=true) (c:ps<=s.size) (d:0 < p.size):ps < s.size:=by
 have:=lN h c;omega
def XP (h:ps<=R.cs.size):tf R ps<=R.cs.size:=by
 unfold tf;split
 .rename_i c;exact M3 (OO c h (by decide))
 .split
  .rename_i c;exact M3 (OO c h (by decide))
  .exact pW h
def XO:ps<=tf R ps:=by
 unfold tf;split
 .exact M2
 .split
  .exact M2
  .exact tZ
def nw (R:RC) (ps:Nat):gz:=
 if pre (R.cs.extract ps R.cs.size) pD=true then R.cs.extract (ps+1) (scan (ju pD) R.cs (ps+1))else if pre (R.cs.extract ps R.cs.size) tK=true then R.cs.extract (ps+1) (scan (ju tK) R.cs (ps+1))else R.cs.extract ps (scan (ju mN) R.cs ps)
def Dp:(nw R ps).size<=R.cs.size:=by
 unfold nw;repeat' split
 all_goals (simp;omega)
def Ke (r:Nat) (R:RC) (bg ps:Nat) (q:gz) (A:q.size=1) (w w1:gx) (z:Kept [r] w w1) (h:Rd w1 r R bg (ps+1)) (p:ps+1<=R.cs.size) (u:R.cs.size<=1024):
  Calls prog 258 #[gN r,.func (.func 260) #[] #[gN w1.heap.size]] (w1.alloc (.cells #[gH q] 9))
   λe l=>e=iw (gH (R.cs.extract (ps+1) (scan (ju q) R.cs (ps+1))))/\
    Calls prog 91 #[gN r,gH q] l λe o=>(∃b,e=iw (.bool b))/\Kept [r] w o/\Rd o r R bg (quoted R q ps):=by
 refine(Ad r R bg (ps+1) q w1 h p u).mono ?_;rintro e l ⟨x,c,j⟩;refine⟨x,?_⟩;refine(lR r R bg _ q l j (pW p) u (by omega)).mono ?_;rintro e o ⟨y,d,k⟩;exact⟨⟨_,y⟩,(z.trans c).trans d,k⟩
theorem OT (r:Nat) (R:RC) (bg ps:Nat) (w:gx) (h:Rd w r R bg ps) (G:ps<=R.cs.size) (H:R.cs.size<=1024):
  Calls prog 365 #[gN r] w λe w'=>e=iw (gH (nw R ps))/\Kept [r] w w'/\Rd w' r R bg (tf R ps):=by
 have hr:=iX h;obtain⟨z,l⟩:∃z,z=w.alloc (.cells #[gH pD,gH tK] 9):=⟨_,rfl⟩;have J:Kept [] w z:=by rw[l];exact(Kept.refl _ _).alloc _
 have K:z.heap[w.heap.size]?=some (gL #[gH pD,gH tK] 9):=by rw[l];exact fX w _
 have Y:Rd z r R bg ps:=J.at h (by simp);have z0:w.heap.size < z.heap.size:=iX K;have S:=fV l.symm;clear l;have C:=lR r R bg ps pD z Y G H (by decide);have D:=(λw' (h:Rd w' r R bg ps)=>lR r R bg ps tK w' h G H (by decide));have c0:=fW K 0;dsimp at c0;have W:=fV K;have X:=fV z0;clear h K z0 Y;cases h1:pre (R.cs.extract ps R.cs.size) pD
 .have B:taken R pD ps=ps:=by unfold taken;rw[gV (by simp[h1])]
  rw[h1,B]at C;cases h2:pre (R.cs.extract ps R.cs.size) tK
  .have I:taken R tK ps=ps:=by unfold taken;rw[gV (by simp[h2])]
   rw[h2,I]at D;have o:tf R ps=scan (ju mN) R.cs ps:=by unfold tf;rw[gV (by simp[h1]),gV (by simp[h2])]
   have U:=(λw' (h:Rd w' r R bg ps)=>Ad r R bg ps mN w' h G H);rw[<-o]at U;have q:nw R ps=R.cs.extract ps (tf R ps):=by unfold nw;rw[gV (by simp[h1]),gV (by simp[h2]),o]
   rw[q];clear h1 h2 B I o q;generalize tf R ps=m at *;go_enter func365,ntmps365
   go_wp21
   refine uj 3 ?_;rw[nU,S.out]
   go_wp21
   refine C.mono ?_;rintro e k ⟨rfl,d,x⟩;have c1:k.cell? ⟨w.heap.size,1,none⟩=some (gH tK):=by rw[d.cell (p:=⟨w.heap.size,1,none⟩) X.out (by simp;omega),fW W.out];rfl
   have u:=(J.mono (S':=[r]) (by simp)).trans d;clear d
   go_wp21
   rw[nU]
   go_wp21
   refine(D _ x).mono ?_;rintro e A ⟨rfl,c,O⟩;have L:=u.trans c;clear c
   go_wp21
   rw[nU]
   go_wp21
   refine(py _ A).mono ?_;rintro e w' ⟨rfl,rfl⟩
   go_wp21
   refine(U _ O).mono ?_;rintro e Z ⟨rfl,F,a1⟩;have a0:=L.trans F;clear F;go_wp2;go_ret
   simp_all
  .have I:taken R tK ps=ps+1:=by unfold taken;rw[gJ h2];rfl
   rw[h2,I]at D;have o:tf R ps=quoted R tK ps:=by unfold tf;rw[gV (by simp[h1]),gJ h2]
   have q:nw R ps=R.cs.extract (ps+1) (scan (ju tK) R.cs (ps+1)):=by unfold nw;rw[gV (by simp[h1]),gJ h2]
   rw[o,q];have y:=OO h2 G (by decide);clear h1 h2 B I o q;have U:=(λk (T:Kept [r] w k) (h:Rd k r R bg (ps+1))=>Ke r R bg ps tK rfl w k T h y H);generalize R.cs.extract (ps+1) (scan (ju tK) R.cs (ps+1))=t at *;generalize quoted R tK ps=m at *;go_enter func365,ntmps365
   go_wp21
   refine uj 3 ?_;rw[nU,S.out]
   go_wp21
   refine C.mono ?_;rintro e k ⟨rfl,d,x⟩;have c1:k.cell? ⟨w.heap.size,1,none⟩=some (gH tK):=by rw[d.cell (p:=⟨w.heap.size,1,none⟩) X.out (by simp;omega),fW W.out];rfl
   have u:=(J.mono (S':=[r]) (by simp)).trans d;clear d
   go_wp21
   rw[nU]
   go_wp21
   refine(D _ x).mono ?_;rintro e A ⟨rfl,c,j⟩;have V:=U A (u.trans c) j;clear c j
   go_wp21
   refine(py _ A).mono ?_;rintro e w' ⟨rfl,rfl⟩
   go_wp21
   refine V.mono ?_;rintro e Z ⟨rfl,Q⟩
   go_wp21
   refine Q.mono ?_;rintro e w4 ⟨⟨b,rfl⟩,N,P⟩;go_wp2;go_ret
   simp_all
 .have B:taken R pD ps=ps+1:=by unfold taken;rw[gJ h1];rfl
  rw[h1,B]at C;have o:tf R ps=quoted R pD ps:=by unfold tf;rw[gJ h1]
  have q:nw R ps=R.cs.extract (ps+1) (scan (ju pD) R.cs (ps+1)):=by unfold nw;rw[gJ h1]
  rw[o,q];have y:=OO h1 G (by decide);clear h1 B o q D;have U:=(λk (T:Kept [r] w k) (h:Rd k r R bg (ps+1))=>Ke r R bg ps pD rfl w k T h y H);generalize R.cs.extract (ps+1) (scan (ju pD) R.cs (ps+1))=t at *;generalize quoted R pD ps=m at *;go_enter func365,ntmps365
  go_wp21
  refine uj 3 ?_;rw[nU,S.out]
  go_wp21
  refine C.mono ?_;rintro e A ⟨rfl,c,j⟩;have V:=U A ((J.mono (S':=[r]) (by simp)).trans c) j;clear c j
  go_wp21
  refine(py _ A).mono ?_;rintro e w' ⟨rfl,rfl⟩
  go_wp21
  refine V.mono ?_;rintro e Z ⟨rfl,Q⟩
  go_wp21
  refine Q.mono ?_;rintro e w4 ⟨⟨b,rfl⟩,N,P⟩;go_wp2;go_ret
  simp_all
def QG (s:gz):Bool:=decide (0 < s.size)&&(decide (bt s 0=61)||decide (97<=bt s 0/\bt s 0<=122\/65<=bt s 0/\bt s 0<=90)||decide (48<=bt s 0/\bt s 0<=57))
theorem TL (s:gz) (w:gx):
  Calls prog 315 #[gH s] w λe w'=>e=iw (.bool (QG s))/\w'=w:=by
 have c:=get_bt s
 by_cases l:0 < s.size
 .have d:=bt_nonneg s 0;have j:=bt_le s 0;have x:=c 0 l;have k:s.toList.isEmpty=false:=by
   rw[tJ];cases h:s.data.toList with
   |nil=>
    exfalso;have e1:s.data.toList.length=0:=by rw[h];rfl
    rw[yA]at e1;have e2:s.data.size=s.size:=rfl;omega
   |cons=>rfl
  have q:¬s.toList=[]:=by intro h;rw[h]at k;cases k
  have L:=JO (bt s 0) w d j;have D:=I3 (bt s 0) w d j;have p:QG s=(decide (bt s 0=61)||decide (97<=bt s 0/\bt s 0<=122\/65<=bt s 0/\bt s 0<=90)||decide (48<=bt s 0/\bt s 0<=57)):=by unfold QG;simp[l]
  rw[p]
  by_cases a:bt s 0=61
  .rw[show decide (bt s 0=61)=true from by simp[a]];go_enter func315,ntmps315;go_wp2;go_ret;simp
  .rw[show decide (bt s 0=61)=false from by simp[a]];have u:(bt s 0==61)=false:=beq_eq_false_iff_ne.2 a;cases hl:decide (97<=bt s 0/\bt s 0<=122\/65<=bt s 0/\bt s 0<=90)
   .rw[hl]at L;cases hd:decide (48<=bt s 0/\bt s 0<=57)
    all_goals
     rw[hd]at D;go_enter func315,ntmps315
     go_wp21
     refine L.mono ?_;rintro e w' ⟨rfl,rfl⟩
     go_wp21
     refine D.mono ?_;rintro e w' ⟨rfl,rfl⟩;go_wp2;go_ret;simp
   .rw[hl]at L;go_enter func315,ntmps315
    go_wp21
    refine L.mono ?_;rintro e w' ⟨rfl,rfl⟩;go_wp2;go_ret;simp
 .have o:s=⟨#[]⟩:=ve (Ga (by simp_all));subst o;go_enter func315,ntmps315;go_wp2;go_ret;exact⟨rfl,rfl⟩
def uR (look:gz->Option gz) (s:gz) (inV:Bool):Nat->Nat
 |0=>0
 |k+1=>if (look (s.extract 1 (1+(k+1)))).isSome=true then (if (inV&&decide (bt s (k+1)≠59)&&QG (s.extract (1+(k+1)) s.size))=true then 0 else 1+(k+1))else uR look s inV k
theorem XB {k : Nat}:uR look s inV k<=k+1:=by
 induction k with
 |zero=>simp[uR]
 |succ k ih=>
  grind[uR]
def vX (look:gz->Option gz) (s:gz) (inV:Bool):Nat->gz
 |0=>⟨#[]⟩
 |k+1=>if (look (s.extract 1 (1+(k+1)))).isSome=true then (if (inV&&decide (bt s (k+1)≠59)&&QG (s.extract (1+(k+1)) s.size))=true then ⟨#[]⟩else (look (s.extract 1 (1+(k+1)))).getD ⟨#[]⟩)else vX look s inV k
theorem OE {k : Nat} (h:∀x t,look x=some t->t.size<=16):(vX look s inV k).size<=16:=by
 induction k with
 |zero=>exact iN _
 |succ k ih=>
  unfold vX;split
  .split
   .exact iN _
   .rename_i c _;have⟨t,ht⟩:=Option.isSome_iff_exists.1 c
    grind
  omega
def RM (b lg:Nat) (look:gz->Option gz) (s:gz) (inV:Bool) (w:gx) (W:Lk w b look) (a1:lg<=1048576) (hs:s.size<=1048576) (h1:1<=s.size):
  Calls prog 263 #[.agg #[.map (some b),gh lg],gH s,.bool inV] w λe w'=>e=iw (.tuple #[gH (vX look s inV (min lg (s.size - 1))),gh (uR look s inV (min lg (s.size - 1)))])/\Kept [] w w':=by
 have S:=get_bt s;have Z:=W;clear W;obtain⟨H,y⟩:∃H,H=min lg (s.size - 1):=⟨_,rfl⟩;have X:min (lg:Int) ((s.size:Int) - 1)=(H:Int):=by rw[y];omega
 have K:H<=s.size - 1:=by rw[y];exact Nat.min_le_right ..
 rw[<-y];clear y;obtain⟨m,U⟩:∃m,m=uR look s inV H:=⟨_,rfl⟩;rw[<-U];obtain⟨u,V⟩:∃u,u=vX look s inV H:=⟨_,rfl⟩;rw[<-V];have T:∀wr,Kept [w.heap.size] (w.alloc (.cells #[.map (some b),gh lg] 162)) wr->True:=λ_ _=>trivial;clear T;go_enter func263,ntmps263
 go_wp21
 go_loopw [8] (λv wr=>∃k:Nat,v=gh k/\k<=s.size - 1/\uR look s inV k=m/\vX look s inV k=u/\Kept [] (w.alloc (.cells #[.map (some b),gh lg] 162)) wr) (λv _=>(intOf v).toNat)
 case atStart=>exact⟨H,by rfl,K,U.symm,V.symm,Kept.refl _ _⟩
 case round=>
  obtain⟨k,rfl,hk,L,N,l⟩:=hrel;have P:=fV L;have D:=fV N;have F:=fX w (.cells #[.map (some b),gh lg] 162);have c0:=fW (l.at F (by simp)) 0;dsimp at c0;have a2:w.heap.size < wr.heap.size:=iX (l.at F (by simp));have q:Hid (Lk wr b look):=(Z.kept ((Kept.refl [] w).alloc _) (by simp)).kept l (by simp);clear L N F;cases k with
  |zero=>
   have A:m=0:=P.symm;have B:=(show u=⟨#[]⟩from D.symm);go_wp2;go_ret2;exact⟨rO B.symm A rfl,((Kept.refl [] w).alloc _).trans l⟩
  |succ j=>
   have J:=q.lt;have z:=q.run (s.extract 1 (1+(j+1))) wr rfl;have h:=q.run (s.extract 1 (1+(j+1))) wr.drew rfl;have d:=λo=>q.run (s.extract 1 (1+(j+1))) (wr.alloc o) (Below.heap_alloc wr o b J);have c:=λo=>q.run (s.extract 1 (1+(j+1))) (wr.alloc o).drew (Below.heap_alloc wr o b J);cases hlo:look (s.extract 1 (1+(j+1)))with
   |none=>
    rw[hlo]at z h;simp only[hlo]at d c;have Q:uR look s inV j=m:=by rw[<-P.out,uR,gV (by simp[hlo])]
    have I:=(show vX look s inV j=u by rw[<-D.out,vX,gV (by simp[hlo])]);clear hlo;simp only[Option.getD_none,Option.isSome_none]at z h d c
    go_wp21
    go_region
    all_goals (try go_wp2)
    exact⟨⟨j,rfl,by omega,Q,I,(l.alloc _).drew⟩,by simp[intOf]⟩
   |some t=>
    rw[hlo]at z h;simp only[hlo]at d c;have O:Hid (m=if (inV&&decide (bt s (j+1)≠59)&&QG (s.extract (1+(j+1)) s.size))=true then 0 else 1+(j+1)):=by
     rw[<-P.out,uR,gJ (by simp[hlo])];exact rfl
    have x:Hid (u=if (inV&&decide (bt s (j+1)≠59)&&QG (s.extract (1+(j+1)) s.size))=true then ⟨#[]⟩else t):=by
     rw[<-D.out,vX,gJ (by simp[hlo]),hlo];exact rfl
    clear hlo;simp only[Option.getD_some,Option.isSome_some]at z h d c;have C:Hid (Kept [] w (wr.alloc (.cells #[gH t] 207)).drew):=(((Kept.refl [] w).alloc _).trans (l.alloc _)).drew;have hj:j+1 < s.size:=by omega
    have a0:=S (j+1) hj;cases inV
    .have A:m=1+(j+1):=by rw[O.out];simp
     have B:=(show u=t by rw[x.out];simp)
     go_wp21
     go_region
     all_goals (try go_wp2)
     all_goals (try go_ret2)
     all_goals exact⟨rO B.symm A rfl,C⟩
    .by_cases p:bt s (j+1)=59
     .have A:m=1+(j+1):=by rw[O.out];simp[p]
      have B:=(show u=t by rw[x.out];simp[p])
      go_wp21
      go_region
      all_goals (try go_wp2)
      all_goals (try go_ret2)
      all_goals exact⟨rO B.symm A rfl,C⟩
     .have Y:(bt s (j+1) != 59)=true:=by rw[bne_iff_ne];exact p
      have G:=TL (s.extract (1+(j+1)) s.size) (wr.alloc (.cells #[gH t] 207)).drew;cases hg:QG (s.extract (1+(j+1)) s.size);have A:m=1+(j+1):=by rw[O.out];simp[hg]
      have B:=(show u=t by rw[x.out];simp[hg])
      rotate_left
      have A:m=0:=by rw[O.out];simp[hg,p]
      have B:=(show u=⟨#[]⟩ by rw[x.out];simp[hg,p])
      all_goals
       rw[hg]at G;clear hg p
       go_wp21
       go_region
       all_goals (try (go_wp21))
       all_goals (refine G.mono ?_;rintro e w' ⟨rfl,rfl⟩)
       all_goals (try go_wp2)
       all_goals (try go_ret2)
       all_goals exact⟨rO B.symm A rfl,C⟩
def mr (look:gz->Option gz) (lg:Nat) (s:gz) (inV:Bool):Nat:=
 if pre s ⟨#[38,35]⟩=true then vu s else if pre s uA=true then uR look s inV (min lg (s.size - 1))else 0
def Dq:mr look lg s inV<=s.size:=by
 unfold mr;split
 .rename_i h;exact T5 (FO h)
 .split
  .rename_i h;have c:1<=s.size:=FO h;have d:=XB (look:=look) (s:=s) (inV:=inV) (k:=min lg (s.size - 1));omega
  simp
def oK (look:gz->Option gz) (lg:Nat) (s:gz) (inV:Bool):gz:=
 if pre s ⟨#[38,35]⟩=true then vw s else if pre s uA=true then vX look s inV (min lg (s.size - 1))else ⟨#[]⟩
def yt (h:∀x t,look x=some t->t.size<=16):(oK look lg s inV).size<=16:=by
 unfold oK;split
 .exact LQ s
 .split
  .exact OE h
  .exact iN _
def RN (b lg:Nat) (look:gz->Option gz) (s:gz) (inV:Bool) (w:gx) (F:Lk w b look) (y:lg<=1048576) (p:s.size<=1048576):
  Calls prog 170 #[.agg #[.map (some b),gh lg],gH s,.bool inV] w λe w'=>e=iw (.tuple #[gH (oK look lg s inV),gh (mr look lg s inV)])/\Kept [] w w':=by
 obtain⟨d,c⟩:∃d,d=w.alloc (.cells #[.map (some b),gh lg] 162):=⟨_,rfl⟩;have k:d.heap[w.heap.size]?=some (gL #[.map (some b),gh lg] 162):=by rw[c];exact fX w _
 have l:Kept [] w d:=by rw[c];exact(Kept.refl _ _).alloc _
 have B:=fW k 0;have D:=fW k 1;dsimp at B D;have u:=fV c.symm;have A:=F.kept l (by simp);have h:=vk s ⟨#[38,35]⟩ d p (by decide);have o:=vk s uA d p (by decide);clear c;cases h1:pre s ⟨#[38,35]⟩
 .rw[h1]at h;cases h2:pre s uA
  .rw[h2]at o;have e:mr look lg s inV=0:=by unfold mr;rw[gV (by simp[h1]),gV (by simp[h2])]
   have j:oK look lg s inV=⟨#[]⟩:=by unfold oK;rw[gV (by simp[h1]),gV (by simp[h2])]
   rw[e,j];go_enter func170,ntmps170
   go_wp21
   rw[u.out];refine h.mono ?_;rintro e w' ⟨rfl,rfl⟩
   go_wp21
   refine o.mono ?_;rintro e w' ⟨rfl,rfl⟩;go_wp2;go_ret2;exact⟨rfl,l⟩
  .rw[h2]at o;have z:1<=s.size:=FO h2;have e:mr look lg s inV=uR look s inV (min lg (s.size - 1)):=by unfold mr;rw[gV (by simp[h1]),gJ h2]
   have j:oK look lg s inV=vX look s inV (min lg (s.size - 1)):=by unfold oK;rw[gV (by simp[h1]),gJ h2]
   rw[e,j];have C:=RM b lg look s inV d A y p z;generalize uR look s inV (min lg (s.size - 1))=m at *;generalize vX look s inV (min lg (s.size - 1))=t at *;go_enter func170,ntmps170
   go_wp21
   rw[u.out];refine h.mono ?_;rintro e w' ⟨rfl,rfl⟩
   go_wp21
   refine o.mono ?_;rintro e w' ⟨rfl,rfl⟩
   go_wp21
   refine C.mono ?_;rintro e G ⟨rfl,x⟩;have q:=l.trans x;go_wp2;go_ret2;exact⟨rfl,q⟩
 .rw[h1]at h;have z:2<=s.size:=FO h1;have e:mr look lg s inV=vu s:=by unfold mr;rw[gJ h1]
  have j:oK look lg s inV=vw s:=by unfold oK;rw[gJ h1]
  rw[e,j];have C:=Kf s d p z;generalize vu s=m at *;generalize vw s=t at *;go_enter func170,ntmps170
  go_wp21
  rw[u.out];refine h.mono ?_;rintro e w' ⟨rfl,rfl⟩
  go_wp21
  refine C.mono ?_;rintro e G ⟨rfl,rfl⟩;go_wp2;go_ret2;exact⟨rfl,l⟩
def qe (look:gz->Option gz) (lg:Nat) (s:gz):Nat:=if mr look lg s false=0 then 1 else mr look lg s false
theorem DP:0 < qe look lg s:=by grind[qe]
def Gs (h:0 < s.size):qe look lg s<=s.size:=by
 unfold qe;split
 .omega
 .exact Dq
def sC (look:gz->Option gz) (lg:Nat) (s:gz):gz:=if mr look lg s false=0 then s.extract 0 1 else oK look lg s false
structure Yy (w:gx) (g n:Nat) (A:Nat->gz×gz):Prop where
 lt:0 < n->g < w.heap.size
 nm:∀i,i < n->w.cell? ⟨g,i*2,none⟩=some (gH (A i).1)
 vl:∀i,i < n->w.cell? ⟨g,i*2+1,none⟩=some (gH (A i).2)
def Yy.kept {A : Nat->gz×gz} {S : List Nat} (h:Yy w g n A) (c:Kept S w w') (d:g∉S):Yy w' g n A:=
 ⟨λe=>mi (h.lt e) c.size,λi hi=>(c.cell (p:=⟨g,i*2,none⟩) (h.lt (by omega)) d).trans (h.nm i hi),λi hi=>(c.cell (p:=⟨g,i*2+1,none⟩) (h.lt (by omega)) d).trans (h.vl i hi)⟩
def oC (A:Nat->gz×gz) (n:Nat) (s:gz) (i:Nat):Bool:=if i < n then (if ((A i).1.toList==s.toList)=true then true else oC A n s (i+1))else false
  termination_by n - i
def acj (x y:Int) (nm s:gz) (g n p:Nat) (A:Nat->gz×gz) (w:gx) (hA:Yy w g n A) (I:n<=1048576):
  Calls prog 338 #[.agg #[gh x,gh y,gH nm,oe g n p],gH s] w λe w'=>e=iw (.bool (oC A n s 0))/\Kept [] w w':=by
 obtain⟨m,B⟩:∃m,m=oC A n s 0:=⟨_,rfl⟩;rw[<-B];have D:=hA;go_enter func338,ntmps338
 go_wp21
 go_loopw [10] (λv wr=>∃k:Nat,v=gh k/\k<=n/\oC A n s k=m/\Kept [] w wr) (λv _=>n - (intOf v).toNat)
 case atStart=>exact⟨0,rfl,iN _,B.symm,(Kept.refl _ _).alloc _⟩
 case round=>
  obtain⟨k,rfl,H,z,l⟩:=hrel;have o:=fV z;have h:=l
  by_cases c:k < n
  .have C:=D.kept l (by simp);have F:=C.nm k c;have G:=C.vl k c;clear z;cases he:((A k).1.toList==s.toList)
   .have e:oC A n s (k+1)=m:=by rw[<-o.out,oC.eq_1 A n s k,gJ c,gV (by simp[he])]
    have j:=fV e;have q:¬(A k).1.toList=s.toList:=by simpa using he
    clear e;have d:=h.alloc (.cells #[gH (A k).1,gH (A k).2] 299);generalize (A k).1=u at *;generalize (A k).2=v at *;go_wp2;go_roundw
    case rel=>exact⟨k+1,by go_num,by omega,j,d⟩
    case measure=>simp[intOf];omega
   .have e:m=true:=by rw[<-o.out,oC.eq_1 A n s k,gJ c,gJ he]
    have j:=fV e;have q:(A k).1.toList=s.toList:=by simpa using he
    clear e;have d:=h.alloc (.cells #[gH (A k).1,gH (A k).2] 299);generalize (A k).1=u at *;generalize (A k).2=v at *;go_wp2;go_ret;exact⟨by rw[j.out];rfl,d⟩
  .have e:m=false:=by rw[<-o.out,oC.eq_1 A n s k,gV c]
   have j:=fV e;clear e z;go_wp2;go_ret;exact⟨by rw[j.out];rfl,h⟩
theorem PV:(∃j,prog.info? 98=some j/\j.size≠0):=by
 have h:((prog.info? 98).map λi=>i.size)=some 2:=by kernel_rfl
 have⟨j,hj,h2⟩:=Option.map_eq_some_iff.1 h
 grind
def NX:liesAt prog prog.depth 98 (2 / prog.cellsOf 98) 0 98 1=true:=by kernel_rfl
theorem Lt (B b:Nat) (bs:List gQ) (w:gx) (h:Lib.IsBuilder 98 5 B b bs w):
  Calls prog 360 #[gN b] w λe w'=>e=pE/\Lib.BuilderAt 98 5 B b (gN b) bs w'/\Below B w w':=by
 obtain⟨j,c,d⟩:=PV;rcases h with h|h
 .have o:=h.cell0;have x:=h.frozen0;have k:=h.used (gN b);have l:=(Below.refl B w).setCell (p:=⟨b,0,none⟩) h.1 (gN b);have u:=k.cell0;have z:=Lib.run_to_unsafe (P:=prog) w (src:=96) (dst:=102) ⟨b,0,none⟩ underlying96 underlying102 c d h.shape (show 0 < 2 by decide);have y:=Lib.run_from_unsafe (P:=prog) w (src:=102) (dst:=96) ⟨b,0,none⟩ underlying102 underlying96 c h.shape NX;have q:=Pu (P:=prog) (w.setCell ⟨b,0,none⟩ (gN b)) (tp:=96) ⟨b,0,none⟩ underlying96 c;go_enter func360,ntmps360;go_wp2;rw[V1 func378 (by rfl) (by rfl) rfl (e:=Extern.AbiNoEscape.same) rfl];rw[Lib.run_noEscape];simp only[Result.andThen];rw[Oper.upon_value];go_wp2;go_end0
  grind
 .have o:=h.cell0;have k:=h;have l:=Below.refl B w;have q:=Pu (P:=prog) w (tp:=96) ⟨b,0,none⟩ underlying96 c;go_enter func360,ntmps360;go_wp2;go_end0
  grind
theorem AA (B b:Nat) (bs:List gQ) (s:gz) (w:gx) (h:Lib.IsBuilder 98 5 B b bs w) (y:bs.length+s.size<=1048576) (L:B<=w.heap.size):
  Calls prog 335 #[gN b,gH s] w λe w'=>e=iw (.tuple #[gh s.size,.nilIface])/\(Lib.BuilderAt 98 5 B b (gN b) (bs++Lib.strCells s) w'/\Below B w w'):=by
 have⟨i0,hi,hz0,hz1,hz2⟩:=ux On;have F:=h;go_enter func335,ntmps335
 go_wp21
 refine(Lt B b bs _ F).mono ?_;rintro e O ⟨rfl,K,o⟩;have⟨hB,v,hbk,hown,hne⟩:=K;have G:=fW hbk 0;have H:=fW hbk 1;dsimp at G H;go_wp2_with (at_builtin;refine Lib.wpList_append_own_string _ rfl _ _ 55 9 rfl B 5 i0 underlying55 underlying9 hi hz0 hz1 hz2 _ _ _ rfl hown s rfl ?c3 ?c4 ?c5 ?_)
 case c3=>unfold maxLen;omega
 case c4=>omega
 case c5=>grind
 intro A C d c _;have q:b < O.heap.size:=iX hbk;have l:C.heap[b]?=some (gL #[gN b,v] 98):=by
  rw[c.block b q (λe=>hne e.symm)];exact hbk
 have J:=fW l 1;dsimp at J;have Q:C.frozen? ⟨b,1,none⟩=false:=gu l 1;have P:=Lib.BuilderAt.put (T:=98) (e:=5) hB l (bs':=bs++Lib.strCells s) (by simpa [Lib.strCells_length]using d) (by decide);have D:=(o.grown c (by omega) (λk N=>(hown.lt k N).1)).setCell (p:=⟨b,1,none⟩) hB A;obtain⟨x,z,j,u⟩:∃x z j,A= .slice x z j:=by
  rcases d.2 with⟨u,_⟩|⟨g,j,I,u,_⟩
  all_goals grind
 subst u;go_wp2;go_ret2
 simp_all
theorem aaj {t : gz} (h:¬t.size=0):t.toList.isEmpty=false:=by
 rw[tJ];cases hh:t.data.toList with
 |nil=>exact absurd (show t.data.size=0 by simp_all) h
 |cons=>rfl
def Pb:gQ->Nat
 | .string t=>t.size
 |_=>0
def JF {T e B : Nat} {bs : List gQ} (h:Lib.IsBuilder T e B b bs w) (c:Kept [] w w'):Lib.IsBuilder T e B b bs w':=by
 rcases h with⟨d,v,j,k,l⟩|⟨d,v,j,k,l⟩
 .exact .inl ⟨d,v,c.at j (by simp),c.ownsRow k (λ_ _=>by simp),l⟩
 .exact .inr ⟨d,v,c.at j (by simp),c.ownsRow k (λ_ _=>by simp),l⟩
def Bm (l:List UInt8) (t:gz):Lib.byteCells l++Lib.strCells t=Lib.byteCells (l++t.data.toList):=by
 unfold Lib.byteCells Lib.strCells;simp
def vY (look:gz->Option gz) (lg:Nat) (s:gz):List UInt8:=
 if s.size=0 then []else if mr look lg s true=0 then (s.extract 0 1).data.toList++vY look lg (s.extract 1 s.size)else (oK look lg s true).data.toList++vY look lg (s.extract (mr look lg s true) s.size)
  termination_by s.size
  decreasing_by all_goals (simp;omega)
def Bu (h:∀x t,look x=some t->t.size<=16) (s:gz):(vY look lg s).length<=16*s.size:=by
 rw[vY];split
 .simp
 .split
  .have:=Bu h (s.extract 1 s.size);simp at this|-;omega
  .have:=Bu h (s.extract (mr look lg s true) s.size);have c:=yt (lg:=lg) (s:=s) (inV:=true) h;have e:(oK look lg s true).data.size=(oK look lg s true).size:=rfl;simp[e]at this|-;omega
  termination_by s.size
  decreasing_by all_goals (simp;omega)
def Sy (b lg:Nat) (look:gz->Option gz) (s:gz) (w:gx) (hL:Lk w b look) (O:lg<=1048576) (hs:s.size<=1024):
  Calls prog 364 #[.agg #[.map (some b),gh lg],gH s] w λe w'=>e=iw (gH ⟨(vY look lg s).toArray⟩)/\Kept [] w w':=by
 obtain⟨c,j⟩:∃c,c=w.alloc (.cells #[.map (some b),gh lg] 162):=⟨_,rfl⟩;have B:c.heap[w.heap.size]?=some (gL #[.map (some b),gh lg] 162):=by rw[j];exact fX w _
 have V:Kept [] w c:=by rw[j];exact(Kept.refl _ _).alloc _
 have Z:c.heap.size=w.heap.size+1:=by rw[j];simp
 have X:=hL.kept V (by simp);have HW:=fV j.symm;have y:=fV B;have K:=fV Z;clear j B Z;go_enter func364,ntmps364
 go_wp21
 rw[HW.out];have HN:=Lib.fresh_isBuilder 98 5 c;have H:=((Below.refl c.heap.size c).alloc (gW _) (.cells #[.pointer none,jc] 98));have ez:w.heap.size+1=c.heap.size:=K.symm
 try rw[ez]
 go_loopw [1] (λv wr=>∃(t:gz) (l:List UInt8),v=gH t/\t.size<=s.size/\l.length+16*t.size<=16*s.size/\l++vY look lg t=vY look lg s/\Lib.IsBuilder 98 5 c.heap.size c.heap.size (Lib.byteCells l) wr/\Below c.heap.size c wr) (λv _=>Pb v)
 case atStart=>exact⟨s,[],rfl,gW _,by simp,rfl,HN,H⟩
 case round=>
  obtain⟨t,l,rfl,ht,hl,G,U,o⟩:=hrel;have p:=fV G;have c0:=fW ((Kept.BV o).at y.out (by simp)) 0;have c1:=fW ((Kept.BV o).at y.out (by simp)) 1;dsimp at c0 c1;clear G
  by_cases L:t.size=0
  .have e0:t=⟨#[]⟩:=by
    apply ve;exact Ga L
   subst e0;have EL:=fV (show l=vY look lg s by rw[<-p.out,vY,gJ (show jz.size=0 from rfl),Cw]);have S:=Tryz.Builder_String_any c.heap.size c.heap.size l wr U o.size
   go_wp21
   refine S.mono ?_;rintro e Q ⟨rfl,N⟩;have I:=V.trans (Kept.BV (o.trans N));go_wp2;go_ret;exact⟨by rw[<-EL.out];rfl,I⟩
  .have a1:t.toList.isEmpty=false:=aaj L;have C:=RN b lg look t true wr (X.kept (Kept.BV o) (by simp)) O (by omega);have a2:=Dq (look:=look) (lg:=lg) (s:=t) (inV:=true)
   go_wp21
   refine C.mono ?_;rintro e Q ⟨rfl,D⟩;have Y:=yt (lg:=lg) (s:=t) (inV:=true) X.short;have F:vY look lg t=if mr look lg t true=0 then (t.extract 0 1).data.toList++vY look lg (t.extract 1 t.size)else (oK look lg t true).data.toList++vY look lg (t.extract (mr look lg t true) t.size):=by rw[vY,gV L]
   have A:=fV F;clear F;generalize oK look lg t true=x at *;have z:=JF U D;have k:=o.trans (D.below o.size (by simp));generalize mr look lg t true=n at *
   by_cases P:n=0
   .have q:=(show(l++(t.extract 0 1).data.toList)++vY look lg (t.extract 1 t.size)=vY look lg s by rw[<-p.out,A.out,gJ P,wm]);subst P;have W:=AA c.heap.size c.heap.size (Lib.byteCells l) (t.extract 0 1) Q z (by simp[Lib.byteCells];omega) k.size
    go_wp21
    refine W.mono ?_;rintro e T ⟨rfl,u,h⟩;have J:=(show Lib.IsBuilder 98 5 c.heap.size c.heap.size (Lib.byteCells (l++(t.extract 0 1).data.toList)) T from .inr (by rw[<-Bm];exact u));have d:=k.trans h;go_wp2;go_roundw
    case rel=>exact⟨_,_,rfl,by simp;omega,by simp;omega,q,J,d⟩
    case measure=>simp[Pb];omega
   .have a0:((n:Int)==0)=false:=beq_eq_false_iff_ne.2 (by omega);have q:=(show(l++x.data.toList)++vY look lg (t.extract n t.size)=vY look lg s by rw[<-p.out,A.out,gV P,wm]);have W:=AA c.heap.size c.heap.size (Lib.byteCells l) x Q z (by have:=Y;simp[Lib.byteCells];omega) k.size
    go_wp21
    refine W.mono ?_;rintro e T ⟨rfl,u,h⟩;have J:=(show Lib.IsBuilder 98 5 c.heap.size c.heap.size (Lib.byteCells (l++x.data.toList)) T from .inr (by rw[<-Bm];exact u));have d:=k.trans h;go_wp2;go_roundw
    case rel=>exact⟨_,_,rfl,by simp;omega,by have:=Y;have e:x.data.size=x.size:=rfl;simp[e];omega,q,J,d⟩
    case measure=>simp[Pb];omega
def mY (R:RC) (ps:Nat):Nat:=scan (λc=>!ju mZ c) R.cs ps
def pZ (R:RC) (ps:Nat):Nat:=if pre (R.cs.extract (mY R ps) R.cs.size) ⟨#[61]⟩=true then tf R (mY R (mY R ps+1))else mY R ps
def EX (h:ps<=R.cs.size):mY R ps<=R.cs.size:=pW h
def Pm:ps<=mY R ps:=tZ
def Yj (h:ps<=R.cs.size):pZ R ps<=R.cs.size:=by
 unfold pZ;split
 .rename_i c;exact XP (EX (lN c (EX h)))
 .exact EX h
def zg:ps<=pZ R ps:=by
 unfold pZ;split
 .have c:=Pm (R:=R) (ps:=ps);have d:=Pm (R:=R) (ps:=mY R ps+1);have e:=XO (R:=R) (ps:=mY R (mY R ps+1));omega
 .exact Pm
def sU (look:gz->Option gz) (lg:Nat) (R:RC) (ps:Nat):gz:=if pre (R.cs.extract (mY R ps) R.cs.size) ⟨#[61]⟩=true then pc ⟨(vY look lg (nw R (mY R (mY R ps+1)))).toArray⟩else ⟨#[]⟩
structure Nm (w:gx) (r:Nat) (R:RC) (b lg:Nat) (look:gz->Option gz):Prop where
 lk:Lk w b look
 ne:b≠r
 mv:R.mv= .map (some b)
 lgv:R.lg=lg
 le:lg<=1048576
def Nm.kept (h:Nm w r R b lg look) (c:Kept [r] w w'):Nm w' r R b lg look:=
 ⟨h.lk.kept c (by simp[h.ne]),h.ne,h.mv,h.lgv,h.le⟩
theorem Yl (r:Nat) (R:RC) (bg ps b lg:Nat) (look:gz->Option gz) (w:gx) (h:Rd w r R bg ps) (Q:Nm w r R b lg look) (Y:Gl w r) (T:ps<=R.cs.size) (B:R.cs.size<=1024):
  Calls prog 339 #[gN r] w λe w'=>e=iw (gH (sU look lg R ps))/\Kept [r] w w'/\Rd w' r R bg (pZ R ps):=by
 have P:=wD r R bg ps mZ w h T B;have j:=fV Q;have W:=Y;have I:=EX (R:=R) T;clear Q;cases he:pre (R.cs.extract (mY R ps) R.cs.size) ⟨#[61]⟩
 .have H:pZ R ps=mY R ps:=by unfold pZ;rw[gV (by simp[he])]
  have G:sU look lg R ps=⟨#[]⟩:=by unfold sU;rw[gV (by simp[he])]
  rw[H,G];have x:taken R ⟨#[61]⟩ (mY R ps)=mY R ps:=by unfold taken;rw[gV (by simp[he])]
  go_enter func339,ntmps339
  go_wp21
  refine P.mono ?_;rintro e O ⟨rfl,c,p⟩;have z:=lR r R bg (mY R ps) ⟨#[61]⟩ O p I B (by decide);rw[he,x]at z
  go_wp21
  refine z.mono ?_;rintro e U ⟨rfl,k,X⟩;have y:=c.trans k;go_wp2;go_ret
  simp_all
 .have H:pZ R ps=tf R (mY R (mY R ps+1)):=by unfold pZ;rw[gJ he]
  have G:sU look lg R ps=pc ⟨(vY look lg (nw R (mY R (mY R ps+1)))).toArray⟩:=by unfold sU;rw[gJ he]
  rw[H,G];have x:taken R ⟨#[61]⟩ (mY R ps)=mY R ps+1:=by unfold taken;rw[gJ he];rfl
  have S:mY R ps+1<=R.cs.size:=lN he I;go_enter func339,ntmps339
  go_wp21
  refine P.mono ?_;rintro e O ⟨rfl,c,p⟩;have z:=lR r R bg (mY R ps) ⟨#[61]⟩ O p I B (by decide);rw[he,x]at z
  go_wp21
  refine z.mono ?_;rintro e U ⟨rfl,k,K⟩;have y:=c.trans k;have D:=wD r R bg (mY R ps+1) mZ U K S B
  go_wp21
  refine D.mono ?_;rintro e C ⟨rfl,J,q⟩;have d:=y.trans J;have F:Hid (Rd C r R bg (mY R (mY R ps+1))):=q;have Z:=EX (R:=R) S;have mv:C.cell? ⟨r,5,none⟩=some (.map (some b)):=by rw[q.mv,j.out.mv]
  have lv:C.cell? ⟨r,6,none⟩=some (gh lg):=by rw[q.lg,j.out.lgv]
  have a0:=Dp (R:=R) (ps:=mY R (mY R ps+1));have a1:=Bu (lg:=lg) j.lk.short (nw R (mY R (mY R ps+1)));have V:=OT r R bg (mY R (mY R ps+1)) C.drew (show Rd C.drew r R bg _ from F) Z B
  go_wp21
  go_region_with (first
   |(go_at_call 365;refine V.mono ?_;rintro e w4 ⟨rfl,l,u⟩;have N:=u.mv;rw[j.out.mv]at N;have L:=u.lg;rw[j.out.lgv]at L)
   |(go_at_call 364;refine(Sy b lg look _ _ (j.kept (d.drew.trans l)).lk j.le (by omega)).mono ?_;rintro e w5 ⟨rfl,o⟩)
   |(go_at_call 158;refine(yV r _ _ (by simp[ByteArray.size];omega) ((W.kept (d.drew.trans l)).kept (o.mono (by simp)))).mono ?_;rintro e w6 ⟨rfl,A⟩))
  all_goals (try go_wp2)
  all_goals (try go_ret)
  all_goals exact⟨rfl,(d.drew.trans l).trans ((o.trans A).mono (by simp)),(u.kept o (by simp)).kept A (by simp)⟩
def sv (L:lZ):List gQ:=L.flatMap λp=>[gH p.1,gH p.2]
def Ld (L M:lZ):sv (L++M)=sv L++sv M:=by simp[sv]
theorem Gj (L:lZ) (i:Nat) (h:i < L.length):(sv L)[i*2]?=some (gH (L[i]).1)/\(sv L)[i*2+1]?=some (gH (L[i]).2):=by
 induction L generalizing i with
 |nil=>simp at h
 |cons p L ih=>
  show(gH p.1::Value.string p.2::sv L)[i*2]?=_/\(gH p.1::Value.string p.2::sv L)[i*2+1]?=_
  grind
def nth (ns:List gz) (i:Nat):gz×gz:=(ns.getD i ⟨#[]⟩,⟨#[]⟩)
def Ou (ns:List gz) (s:gz):Bool:=oC (nth ns) ns.length s 0
theorem LD {A B : Nat->gz×gz} (h:∀i,i < n->(A i).1=(B i).1) (i:Nat):oC A n s i=oC B n s i:=by
 fun_induction oC A n s i with
 |case1 i hi he=>grind[oC]
 |case2 i hi he ih=>grind[oC]
 |case3 i hi=>grind[oC]
def ZL (x y:Int) (nm s:gz) (w:gx):
  Calls prog 338 #[.agg #[gh x,gh y,gH nm,jc],gH s] w λe w'=>e=iw (.bool false)/\Kept [] w w':=by
 have d:=(Kept.refl [] w).alloc (.cells #[gh x,gh y,gH nm,jc] 194);go_enter func338,ntmps338
 go_wp21
 go_loopw [10] (λv wr=>v=gh 0/\Kept [] w wr) (λv _=>0)
 case atStart=>exact⟨rfl,d⟩
 case round=>
  obtain⟨rfl,c⟩:=hrel;go_wp2;go_ret;exact⟨rfl,c⟩
def aal (L:lZ) (i:Nat):gz×gz:=L.getD i (⟨#[]⟩,⟨#[]⟩)
theorem Vf (base:Nat) (x y:Int) (nm s:gz) (av:gQ) (L:lZ) (w:gx) (d:w.ownsRow base 299 2 av L.length (sv L)) (o:L.length<=1048576):
  Calls prog 338 #[.agg #[gh x,gh y,gH nm,av],gH s] w λe w'=>e=iw (.bool (Ou (L.map (·.1)) s))/\Kept [] w w':=by
 rcases d.2 with⟨rfl,j⟩|⟨g,c,h,rfl,k,l,_⟩
 .have e:Ou (L.map (·.1)) s=false:=by
   have:L=[]:=UM j;subst this;unfold Ou;rw[oC.eq_1];simp
  rw[e];exact ZL x y nm s w
 .have hA:Yy w g L.length (aal L):=by
   refine⟨λ_=>iX l,λi hi=>?_,λi hi=>?_⟩
   .have:=d.cells (g:=g) rfl (i*2) _ (Gj L i hi).1;rw[jg]at this
    grind[aal]
   .have:=d.cells (g:=g) rfl (i*2+1) _ (Gj L i hi).2;rw[jg]at this
    grind[aal]
  have e:Ou (L.map (·.1)) s=oC (aal L) L.length s 0:=by
   unfold Ou;rw[Cy];exact LD (λi hi=>by simp[nth,aal,hi]) 0
  rw[e];exact acj x y nm s g L.length c _ w hA o
structure Cg (w:gx) (base tb:Nat) (x y:Int) (nm:gz) (av:gQ) (L:lZ):Prop where
 iC:w.heap[tb]?=some (gL #[gh x,gh y,gH nm,av] 194)
 own:w.ownsRow base 299 2 av L.length (sv L)
theorem Cg.kept {base d : Nat} {x y : Int} {nm : gz} {av : gQ} {L : lZ} (h:Cg w base d x y nm av L) (c:Kept [r] w w') (j:r < base) (e:base<=d):Cg w' base d x y nm av L:=
 ⟨c.at h.iC (by grind),c.ownsRow h.own (λk c=>by have:=(h.own.lt k c).1;grind)⟩
def BK (R:RC) (ps:Nat):gz:=pc (small (R.cs.extract ps (kJ R ps)))
def zZ (R:RC) (ns:List gz) (ps:Nat):Bool:=!Ou ns (BK R ps)&&!decide (kJ R ps=R.cs.size)&&decide (R.at_<=(ns.length:Int))
def vN (L:lZ) (c v:gz):lZ:=if Ou (L.map (·.1)) c=true then L else L++[(c,v)]
def rV (R:RC) (look:gz->Option gz) (lg:Nat) (L:lZ) (ps:Nat):lZ:=vN L (BK R ps) (sU look lg R (kJ R ps))
def JU (h:ps < R.cs.size):kJ R ps<=R.cs.size:=pW (by omega)
def xi:ps < kJ R ps:=mi (Nat.lt_succ_self _) tZ
def Rd.vM (h:Rd w r R bg ps):w.cell? ⟨r,4,none⟩=some (gh R.at_):=by rw[fW h];rfl
def ZT:(prog.info? 299).map (λi=>(i.zero,i.size,i.bytes))=some (some (.agg #[gH jz,gH jz]),2,32):=by kernel_rfl
def UA (w:gx) (k:Nat) (n c:Int):Prop:=w.heap[k]?=some (gL #[gh n,gh c] 83)
theorem Lh (r I:Nat) (R:RC) (bg ps g ag b lg:Nat) (look:gz->Option gz) (ah:Nat->Nat) (x y:Int) (nm:gz) (av:gQ) (L:lZ) (J w:gx)
  (ai:Kept [r] J w) (G:r < J.heap.size) (D:J.heap.size<=I) (h:Rd w r R bg ps) (hA:Mi w r R g ag ah) (hN:Nm w r R b lg look) (hG:Gl w r) (hT:Cg w J.heap.size I x y nm av L)
  (hb:bg<=R.cs.size) (hp:ps < R.cs.size) (hs:R.cs.size<=1024) (hL:L.length<=4096):
  Calls prog 302 #[gN r,gN I] w λe w'=>
   if zZ R (L.map (·.1)) ps=true then ∃k,e= .panicked [{v:= .iface 78 (gN k),recovered:=false}]/\UA w' k 7 (ah bg)/\J.heap.size<=k/\Kept [r] J w'
   else e=pE/\∃U,Cg w' J.heap.size I x y nm U (rV R look lg L ps)/\Kept [r] J w'/\Rd w' r R bg (pZ R (kJ R ps)):=by
 obtain⟨i0,hi,ax,ay,az⟩:=ux ZT;have ak:=JU (R:=R) hp;have HN:=fV hN;have HG:=fV hG;have HA:=fV hA;have HT:=fV hT;have ae:=fV ai;have CN:=fV (DM r R bg ps w h hp hs hG);have F:rV R look lg L ps=vN L (BK R ps) (sU look lg R (kJ R ps)):=rfl;clear h hA hN hG hT ai;have am:zZ R (L.map (·.1)) ps=(!Ou (L.map (·.1)) (BK R ps)&&!decide (kJ R ps=R.cs.size)&&decide (R.at_<=(L.length:Int))):=by unfold zZ;rw[Cy]
 rw[am];clear am;obtain⟨N,a7⟩:∃N,N=BK R ps:=⟨_,rfl⟩;have a8:pc (small (R.cs.extract ps (kJ R ps)))=N:=a7.symm;rw[a8]at CN;clear a8;rw[<-a7]at F;rw[<-a7];obtain⟨ns,ad⟩:∃ns,ns=L.map (·.1):=⟨_,rfl⟩;rw[<-ad];have a6:=fV ad;clear a7 ad;obtain⟨m,hm⟩:∃m,m=kJ R ps:=⟨_,rfl⟩;rw[<-hm]at CN ak F;rw[<-hm];clear hm;have HV:=(λw' h1 h2 h3=>Yl r R bg m b lg look w' h1 h2 h3 ak hs);obtain⟨Y,an⟩:∃Y,Y=sU look lg R m:=⟨_,rfl⟩;rw[<-an]at HV F;clear an;have HV:=fV HV;have af:=fV F;clear F;have⟨ao,cp,hav⟩:=gF HT.out.own;subst hav;have aD:r≠I:=by omega
 cases hin:Ou ns N
 .skip
  rcases(show m=R.cs.size\/(¬m=R.cs.size/\R.at_<=(L.length:Int))\/(¬m=R.cs.size/\¬R.at_<=(L.length:Int)) by omega)with l|⟨l,V⟩|⟨l,V⟩;have ec:(!false&&!decide (m=R.cs.size)&&decide (R.at_<=(L.length:Int)))=false:=by simp[l]
  have e3:decide (m=R.cs.size)=true:=by simp[l]
  rotate_left
  have ec:(!false&&!decide (m=R.cs.size)&&decide (R.at_<=(L.length:Int)))=true:=by simp[l,V]
  have e3:decide (m=R.cs.size)=false:=by simp[l]
  rotate_left
  have ec:(!false&&!decide (m=R.cs.size)&&decide (R.at_<=(L.length:Int)))=false:=by simp[V]
  have e3:decide (m=R.cs.size)=false:=by simp[l]
  all_goals
   rw[ec];clear ec;simp only[uz,Bz,yy];go_enter func302,ntmps302
   go_wp21
   refine CN.out.mono ?_;rintro e w1 ⟨rfl,A,H⟩;have d:=fV (HT.out.kept A G D);have aa:=fV (ae.out.trans A);have ac:=fV H;have ab:=fV A;have a0:=fW d.out.iC 0;have a1:=fW d.out.iC 1;have a2:=fW d.out.iC 2;have a3:=fW d.out.iC 3;dsimp at a0 a1 a2 a3;have CH:=Vf J.heap.size x y nm N _ L w1 d.out.own (by omega);rw[<-a6.out,hin]at CH;have Q:=fV CH;clear CH A H CN
   go_wp21
   refine Q.out.mono ?_;rintro e X ⟨rfl,o⟩;have P:=fV (ab.out.trans (o.mono (by simp)));have O:=fV (aa.out.trans (o.mono (by simp)));have q:=fV (ac.out.kept o (by simp));have S:=fV (d.out.kept (o.mono (by simp)) G D);clear o Q a0 a1 a2 a3;have b3:=fW S.out.iC 3;dsimp at b3;have b4:=q.out.vM;have C:=fV (λw' (h:Rd w' r R bg m)=>pi r R bg m w' h);rw[e3]at C
   go_wp21
   go_quiet ((go_at_call 87;refine yz (C.out _ ?_);exact q.out))
   clear b3 b4
  rotate_right
  .have aq:=fV (HA.out.kept P.out);have p0:X.cell? ⟨r,1,none⟩=some (oe g (R.cs.size+1) ag):=by rw[q.out.gM,HA.out.av]
   have p1:X.cell? ⟨r,2,none⟩=some (gh bg):=q.out.bg;have p2:=aq.out.at_ bg hb;have aA:=fV (O.out.drewN nq);have aw:=O.out.size;generalize R.cs.size=sz at *;have aB:(bg:Int) < (sz:Int)+1:=by omega
   go_wp21
   go_region_dies
   all_goals (try go_wp2)
   all_goals exact⟨rfl,X.heap.size,rfl,fX (X.drewN (nq+1)) _,aw,(O.out.drewN (nq+1)).alloc _⟩
  all_goals
   have T:=fV (HV.out (X.drewN nq) (show Rd (X.drewN nq) r R bg m from q.out) (HN.out.kept (P.out.drewN _)) (HG.out.kept (P.out.drewN _)))
   go_wp21
   refine T.out.mono ?_;rintro e w3 ⟨rfl,K,W⟩;have a4:=fV ((O.out.drewN nq).trans K);have a5:=fV W;have p:=fV ((S.out.kept ((Kept.refl [r] X).drewN nq) G D).kept K G D);clear K W T;have c3:=fW p.out.iC 3;dsimp at c3;have aj:=iX p.out.iC;have al:=iX a5.out;have aC:=a4.out.size;go_wp2_with (at_builtin;refine iA _ rfl _ _ 137 rfl J.heap.size 299 i0 (.agg #[gH jz,gH jz]) 2 32 underlying137 hi ax ay az rfl (by decide) _ _ _ rfl (p.out.own.alloc _) ⟨w3.heap.size,0,none⟩ 1 1 [gH N,gH Y] rfl ?c1 ?c2 ?c3 ?c4 ?c5 ?c6 ?_)
   case c1=>rfl
   case c2=>
    intro j u hj
    match j,hj with
    |0,hj=>simp at hj;subst hj;simp[Addr.add]
    |1,hj=>simp at hj;subst hj;simp[Addr.add]
   case c3=>intro u hu;simp at hu;rcases hu with rfl|rfl<;>rfl
   case c4=>unfold maxLen;omega
   case c5=>omega
   case c6=>simp;omega
   intro v' Z B z au;have⟨ao',c,hv⟩:=gF B;subst hv;have a9:∀k,(Value.slice ao L.length cp).ownBlock=some k->k≠I:=by
    intro k hk;rcases p.out.own.2 with⟨h,_⟩|⟨g',c,ar,h,_,hc,_⟩
    .rw[h]at hk;cases hk
    .rw[h]at hk;obtain rfl:=jy hk;exact yH hc p.out.iC (by decide)
   have ap:Kept [r] J Z:=(a4.out.alloc _).grown z (λk hk=> .inr (p.out.own.lt k hk).1);have t4:Z.heap[I]?=some (gL #[gh x,gh y,gH nm,.slice ao L.length cp] 194):=by
    rw[z.block I (by simp;omega) (λh=>a9 I h.symm rfl),Below.heap_alloc _ _ _ aj];exact p.out.iC
   have r4:Rd Z r R bg (pZ R m):=by
    show Z.heap[r]?=_;rw[z.block r (by simp;omega) (λh=>by have:=(p.out.own.lt r h.symm).1;omega),Below.heap_alloc _ _ _ al];exact a5.out
   have d3:=fW t4 3;have f3:=gu t4 3;dsimp at d3;have t5:=gm t4 3 (.slice ao' (L.length+1) c);have r5:Rd (Z.setCell ⟨I,3,none⟩ (.slice ao' (L.length+1) c)) r R bg (pZ R m):=(Below.heap_setCell Z ⟨I,3,none⟩ _ r (by omega)).trans r4;have o5:(Z.setCell ⟨I,3,none⟩ (.slice ao' (L.length+1) c)).ownsRow J.heap.size 299 2 (.slice ao' (L.length+1) c) (L++[(N,Y)]).length (sv (L++[(N,Y)])):=by
    rw[Ld,mJ];refine zk B ?_ _;intro hk;rcases B.2 with⟨h,_⟩|⟨g',c,ar,h,_,hc,_⟩
    .omega
    .grind
   have HF:Hid (∃U,Cg (Z.setCell ⟨I,3,none⟩ (.slice ao' (L.length+1) c)) J.heap.size I x y nm U (vN L N Y)/\Kept [r] J (Z.setCell ⟨I,3,none⟩ (.slice ao' (L.length+1) c))/\Rd (Z.setCell ⟨I,3,none⟩ (.slice ao' (L.length+1) c)) r R bg (pZ R m)):=
    ⟨_,by rw[show vN L N Y=L++[(N,Y)] by unfold vN;rw[<-a6.out,hin];rfl];exact⟨t5,o5⟩,ap.setCell (.inr D) _,r5⟩
   clear t5 r5 o5 r4 t4 ap a9 B z au c3;go_wp2;go_end0;exact⟨rfl,by rw[af.out];exact HF.out⟩
 .skip
  have ec:(!true&&!decide (m=R.cs.size)&&decide (R.at_<=(L.length:Int)))=false:=by simp
  rw[ec];clear ec;simp only[uz,Bz,yy];go_enter func302,ntmps302
  go_wp21
  refine CN.out.mono ?_;rintro e w1 ⟨rfl,A,H⟩;have d:=fV (HT.out.kept A G D);have aa:=fV (ae.out.trans A);have ac:=fV H;have ab:=fV A;have a0:=fW d.out.iC 0;have a1:=fW d.out.iC 1;have a2:=fW d.out.iC 2;have a3:=fW d.out.iC 3;dsimp at a0 a1 a2 a3;have CH:=Vf J.heap.size x y nm N _ L w1 d.out.own (by omega);rw[<-a6.out,hin]at CH;have Q:=fV CH;clear CH A H CN
  go_wp21
  refine Q.out.mono ?_;rintro e X ⟨rfl,o⟩;have P:=fV (ab.out.trans (o.mono (by simp)));have O:=fV (aa.out.trans (o.mono (by simp)));have q:=fV (ac.out.kept o (by simp));have S:=fV (d.out.kept (o.mono (by simp)) G D);clear o Q a0 a1 a2 a3;have b3:=fW S.out.iC 3;dsimp at b3;have b4:=q.out.vM;have C:=fV (λw' (h:Rd w' r R bg m)=>pi r R bg m w' h)
  go_wp21
  go_quiet ((go_at_call 87;refine yz (C.out _ ?_);exact q.out))
  clear b3 b4;have T:=fV (HV.out (X.drewN nq) (show Rd (X.drewN nq) r R bg m from q.out) (HN.out.kept (P.out.drewN _)) (HG.out.kept (P.out.drewN _)))
  go_wp21
  refine T.out.mono ?_;rintro e w3 ⟨rfl,K,W⟩;have a4:=fV ((O.out.drewN nq).trans K);have a5:=fV W;have p:=fV ((S.out.kept ((Kept.refl [r] X).drewN nq) G D).kept K G D);clear K W T;have HF:Hid (∃U,Cg w3 J.heap.size I x y nm U (vN L N Y)/\Kept [r] J w3/\Rd w3 r R bg (pZ R m)):=
   ⟨_,by rw[show vN L N Y=L by unfold vN;rw[<-a6.out,hin];rfl];exact p.out,a4.out,a5.out⟩
  go_wp2;go_end0;exact⟨rfl,by rw[af.out];exact HF.out⟩
inductive IM where
 |stop
 |lost
 |whole (e:Nat) (L:lZ)
def jj (R:RC) (ps:Nat):Nat:=scan (λc=>!ju ⟨#[32,9,10,12,47]⟩ c) R.cs ps
def XY (h:ps<=R.cs.size):jj R ps<=R.cs.size:=pW h
def tE:ps<=jj R ps:=tZ
def mg (R:RC) (look:gz->Option gz) (lg:Nat) (L:lZ) (ps:Nat):IM:=
 if h:jj R ps < R.cs.size then
  if pre (R.cs.extract (jj R ps) R.cs.size) iW=true then .whole (jj R ps+1) L
  else if zZ R (L.map (·.1)) (jj R ps)=true then .stop
  else mg R look lg (rV R look lg L (jj R ps)) (pZ R (kJ R (jj R ps)))
 else .lost
  termination_by R.cs.size - ps
  decreasing_by
 have c:=tE (R:=R) (ps:=ps);have d:=xi (R:=R) (ps:=jj R ps);have e:=zg (R:=R) (ps:=kJ R (jj R ps));omega
def zc (R:RC) (ps:Nat):Nat:=scan (ju jp) R.cs ps
def adA (h:ps<=R.cs.size):zc R ps<=R.cs.size:=pW h
def adz:ps<=zc R ps:=tZ
theorem Hj {L : lZ}:(rV R look lg L ps).length<=L.length+1:=by
 unfold rV vN;grind
def zd (R:RC) (ps:Nat):gz:=pc (small (R.cs.extract ps (zc R ps)))
def Rd.rj (h:Rd w r R bg ps) {p : Addr} (c:p.block≠r) (u:gQ):Rd (w.setCell p u) r R bg ps:=(Below.heap_setCell w p u r (λe=>c e.symm)).trans h
theorem Yb {base : Nat} {e : TypeId} {xs : List gQ} (o:w.ownsRow base e sz v n xs) {c : jN} {t : TypeId} (p:w.heap[b]?=some (gL c t)) (l:e≠t):∀k,v.ownBlock=some k->k≠b:=by
 rintro k d rfl;rcases o.2 with⟨e2,_⟩|⟨u,h,j,e2,_,q,_⟩
 .rw[e2]at d;cases d
 .rw[e2]at d;obtain rfl:=jy d
  grind
def US (w:gx) (r:Nat) (R:RC) (bg:Nat) (c:Nat->Nat) (nm:gz) (e:Ending) (w':gx):IM->Prop
 | .stop=>∃k,e= .panicked [{v:= .iface 78 (gN k),recovered:=false}]/\UA w' k 7 (c bg)/\w.heap.size<=k/\Kept [r] w w'
 | .lost=>e=iw (.tuple #[.agg #[gh 0,gh 0,gH jz,jc],.bool false])/\Kept [r] w w'/\Rd w' r R bg R.cs.size
 | .whole m L=>(∃d h,e=iw (.tuple #[.agg #[gh (c bg),gh (c m),gH nm,.slice d L.length h],.bool true])/\w'.ownsRow w.heap.size 299 2 (.slice d L.length h) L.length (sv L))/\Kept [r] w w'/\Rd w' r R bg m
theorem VQ (r:Nat) (R:RC) (bg ps g a1 b lg:Nat) (look:gz->Option gz) (D:Nat->Nat) (w:gx) (h:Rd w r R bg ps) (hA:Mi w r R g a1 D) (hN:Nm w r R b lg look) (hG:Gl w r)
  (hb:bg<=R.cs.size) (hp:ps<=R.cs.size) (hs:R.cs.size<=1024):
  Calls prog 253 #[gN r] w λe w'=>US w r R bg D (zd R ps) e w' (mg R look lg [] (zc R ps)):=by
 obtain⟨O,HO⟩:∃O,O=mg R look lg [] (zc R ps):=⟨_,rfl⟩;rw[<-HO];obtain⟨nm,a4⟩:∃nm,nm=zd R ps:=⟨_,rfl⟩;rw[<-a4];have Y:pc (small (R.cs.extract ps (scan (ju jp) R.cs ps)))=nm:=a4.symm;have aw:=fV Y;clear a4 Y;have hr:=iX h;obtain⟨A,P⟩:∃A,A=w.alloc (.cells #[gh 0,gh 0,gH jz,jc] 194):=⟨_,rfl⟩;have ad:A.heap[w.heap.size]?=some (gL #[gh 0,gh 0,gH jz,jc] 194):=by rw[P];exact fX w _
 have C:Kept [] w A:=by rw[P];exact(Kept.refl _ _).alloc _
 have z0:A.heap.size=w.heap.size+1:=by rw[P];simp
 have ah:=h.kept C (by simp);have ha:=adA (R:=R) hp;have CU:=Ad r R bg ps jp A ah hp hs;have HA:=hA.kept (C.mono (by simp));have HN:=hN.kept (C.mono (by simp));have HG:=hG.kept (C.mono (by simp));have HW:=fV P.symm;have aj:(R.cs.extract ps (scan (ju jp) R.cs ps)).size<=1048576:=by simp;omega
 have H:=fV z0;clear h hA hN hG P z0 ah;go_enter func253,ntmps253
 go_wp21
 rw[HW.out];refine(py _ A).mono ?_;rintro e w1 ⟨rfl,rfl⟩
 go_wp21
 refine CU.mono ?_;rintro e w2 ⟨rfl,a9,an⟩;have ay:Hid (Rd w2 r R bg (zc R ps)):=an;have CR:=zS r _ w2 aj (HG.kept a9);clear an CU aj
 go_wp21
 refine CR.mono ?_;rintro e I ⟨rfl,a2⟩;have aa:=a9.trans (a2.mono (by simp));have az:=ay.out.kept a2 (by simp);clear a2 CR;rw[aw.out];obtain⟨w4,U⟩:∃w4,w4=I.alloc (.cells #[gh 0,gh 0,gH nm,jc] 194):=⟨_,rfl⟩;have a7:Kept [] I w4:=by rw[U];exact(Kept.refl _ _).alloc _
 have aC:Hid (Cg w4 A.heap.size I.heap.size 0 0 nm (jc) []):=⟨by rw[U];exact fX I _,od _ _ _ _⟩;have ar:=aa.trans (a7.mono (by simp));have aA:=az.kept a7 (by simp);have j:=aa.size;have aE:=fV U.symm;clear a7 U
 go_wp21
 rw[aE.out]
 go_loopw [] (λwr=>∃(i:Nat) (av:gQ) (L:lZ),i<=R.cs.size/\L.length<=i/\mg R look lg L i=O/\Cg wr A.heap.size I.heap.size 0 0 nm av L/\Kept [r] A wr/\Rd wr r R bg i) (λwr=>R.cs.size - (match wr.cell? ⟨r,3,none⟩with|some v=>(intOf v).toNat|none=>0))
 case atStart=>exact⟨zc R ps,_,[],ha,iN _,HO.symm,aC.out,ar,aA⟩
 case round=>
  have⟨i,av,L,hi,hLi,htg,HT,HKW,hrd⟩:=hrel;have S:=fV htg;have CP:=wD r R bg i ⟨#[32,9,10,12,47]⟩ wr hrd hi hs;have P0:=hrd.ps;have al:=XY (R:=R) hi;have aL:=tE (R:=R) (ps:=i);clear htg hrd
  go_wp21
  refine CP.mono ?_;rintro e V ⟨rfl,a3,a5⟩;have a0:Hid (Rd V r R bg (jj R i)):=a5;have Q:=HKW.trans a3;have af:=HT.kept a3 (by have:=H.out;omega) j;have CE:=pi r R bg (jj R i) V a5;clear a3 a5 CP
  by_cases J:jj R i=R.cs.size
  .have X:O= .lost:=by rw[<-S.out,mg,dif_neg (by omega)]
   have EO:=fV X;have e3:decide (jj R i=R.cs.size)=true:=by simp[J]
   rw[e3]at CE;have G:=fV CE;have l:=Q.at ad (by simp;omega);have d0:=fW l 0;have d1:=fW l 1;have d2:=fW l 2;have d3:=fW l 3;have f0:=gu l 0;have f1:=gu l 1;have f2:=gu l 2;have f3:=gu l 3;dsimp at d0 d1 d2 d3;clear CE e3 X l
   go_wp21
   refine G.out.mono ?_;rintro e w6 ⟨rfl,q,rfl⟩;go_wp2;have ab:=(C.mono (S':=[r]) (by simp)).trans Q;have y:w.heap.size≠r:=by omega
   rw[EO.out];refine oR (v:= .tuple #[.agg #[gh 0,gh 0,gH jz,jc],.bool false]) ?_ rfl ⟨rfl,?_,?_⟩
   .simp[results,results253,asAddr,Result.andThen,go_sem,d0,d1,d2,d3]
   .exact((((ab.drewN q).setCell (.inr (gW _)) _).setCell (.inr (gW _)) _).setCell (.inr (gW _)) _).setCell (.inr (gW _)) _
   .have h6:Rd (V.drewN q) r R bg R.cs.size:=by rw[<-J];exact a0.out
    exact(((h6.rj y _).rj y _).rj y _).rj y _
  .have e3:decide (jj R i=R.cs.size)=false:=by simp[J]
   have K:jj R i < R.cs.size:=by omega
   rw[e3]at CE;have G:=fV CE;clear CE e3;cases hgt:pre (R.cs.extract (jj R i) R.cs.size) iW
   .have N:taken R iW (jj R i)=jj R i:=by unfold taken;rw[gV (by simp[hgt])]
    have B:=λq=>lR r R bg (jj R i) iW (V.drewN q) (show Rd (V.drewN q) r R bg _ from a0.out) al hs (by decide);rw[hgt,N]at B;clear N
    go_wp21
    refine G.out.mono ?_;rintro e w6 ⟨rfl,q,rfl⟩
    go_wp21
    refine(B q).mono ?_;rintro e w7 ⟨rfl,F,ap⟩;have z:=(Q.drewN q).trans F;have ai:=(af.kept ((Kept.refl [r] V).drewN q) (by have:=H.out;omega) j).kept F (by have:=H.out;omega) j;have CA:=Lh r I.heap.size R bg (jj R i) g a1 b lg look D 0 0 nm av L A w7 z (by have:=H.out;omega) j ap (HA.kept z) (HN.kept z) (HG.kept z) ai hb K hs (by omega);clear F ap ai B G
    go_wp21
    refine CA.mono ?_;intro e w8 x
    by_cases T:zZ R (L.map (·.1)) (jj R i)=true
    .rw[gJ T]at x;obtain⟨k,rfl,aq,aM,d⟩:=x;have X:O= .stop:=by rw[<-S.out,mg,xF K,gV (by simp[hgt]),gJ T]
     have HF:Hid (US w r R bg D nm (.panicked [{v:= .iface 78 (gN k),recovered:=false}]) w8 O):=by
      rw[X];exact⟨k,rfl,aq,by have:=H.out;omega,(C.mono (S':=[r]) (by simp)).trans d⟩
     clear aq d X CA;go_wp2;exact⟨rfl,HF.out⟩
    .rw[gV T]at x;obtain⟨rfl,aF,c,d,a6⟩:=x;have ag:mg R look lg (rV R look lg L (jj R i)) (pZ R (kJ R (jj R i)))=O:=by
      rw[<-S.out,mg.eq_1 R look lg L i,xF K,gV (by simp[hgt]),gV T]
     have aG:=Hj (R:=R) (look:=look) (lg:=lg) (L:=L) (ps:=jj R i);have h2:=xi (R:=R) (ps:=jj R i);have h3:=zg (R:=R) (ps:=kJ R (jj R i));have h4:=Yj (R:=R) (JU (R:=R) K);have ae:Hid (∃(i':Nat) (av:gQ) (L:lZ),i'<=R.cs.size/\L.length<=i'/\mg R look lg L i'=O/\Cg w8 A.heap.size I.heap.size 0 0 nm av L/\Kept [r] A w8/\Rd w8 r R bg i'):=
      ⟨_,aF,_,h4,by omega,ag,c,d,a6⟩
     have P8:=a6.ps;have am:R.cs.size - pZ R (kJ R (jj R i)) < R.cs.size - i:=by omega
     clear c d a6 ag aG CA h2 h3 h4;go_wp2;go_roundw
     case rel=>exact ae.out
     case measure=>rw[P8,P0];simpa [intOf]using am
   .have N:taken R iW (jj R i)=jj R i+1:=by unfold taken;rw[gJ hgt];rfl
    have B:=λq=>lR r R bg (jj R i) iW (V.drewN q) (show Rd (V.drewN q) r R bg _ from a0.out) al hs (by decide);rw[hgt,N]at B;have X:O= .whole (jj R i+1) L:=by rw[<-S.out,mg,xF K,gJ hgt]
    have EO:=fV X;clear N X
    go_wp21
    refine G.out.mono ?_;rintro e w6 ⟨rfl,q,rfl⟩
    go_wp21
    refine(B q).mono ?_;rintro e w7 ⟨rfl,F,ac⟩;have z:=(Q.drewN q).trans F;have aD:=(af.kept ((Kept.refl [r] V).drewN q) (by have:=H.out;omega) j).kept F (by have:=H.out;omega) j;have a8:=qp r R bg (jj R i+1) g a1 D w7 ac (HA.kept z) hb (by omega) hs;clear F B G
    go_wp21
    refine a8.mono ?_;rintro e w8 ⟨rfl,d⟩;have au:=(C.mono (S':=[r]) (by simp)).trans (z.trans (d.mono (by simp)));have c:=aD.kept (d.mono (by simp)) (r:=r) (by have:=H.out;omega) j;have aB:=ac.kept d (by simp);have o:=(z.trans (d.mono (by simp))).at ad (by simp;omega);have⟨ao,cp,hav⟩:=gF c.own;subst hav;have t0:=fW c.iC 0;have t1:=fW c.iC 1;have t2:=fW c.iC 2;have t3:=fW c.iC 3;have g0:=gu c.iC 0;have g1:=gu c.iC 1;have d0:=fW o 0;have d1:=fW o 1;have d2:=fW o 2;have d3:=fW o 3;have f0:=gu o 0;have f1:=gu o 1;have f2:=gu o 2;have f3:=gu o 3;dsimp at t0 t1 t2 t3 d0 d1 d2 d3;have aH:w.heap.size≠I.heap.size:=by have:=j;have:=H.out;omega
    have aI:I.heap.size≠w.heap.size:=λh=>aH h.symm;have ax:=c.own;have aJ:=Yb c.own c.iC (by decide);clear c o d a8;go_wp2;rw[EO.out];have y:w.heap.size≠r:=by omega
    have Z:I.heap.size≠r:=by have:=j;have:=H.out;omega
    have ak:w.heap.size<=I.heap.size:=by have:=j;have:=H.out;omega
    refine oR (v:= .tuple #[.agg #[gh (D bg),gh (D (jj R i+1)),gH nm,.slice ao L.length cp],.bool true]) ?_ rfl ⟨⟨_,_,rfl,?_⟩,?_,?_⟩
    .simp[results,results253,asAddr,Result.andThen,go_sem,d0,d1,d2,d3]
    .have aK:∀(p:Addr) (u:gQ) (W:gx),(p.block=w.heap.size\/p.block=I.heap.size)->W.ownsRow A.heap.size 299 2 (.slice ao L.length cp) L.length (sv L)->(W.setCell p u).ownsRow A.heap.size 299 2 (.slice ao L.length cp) L.length (sv L):=by
      intro p u W hp ho;refine zk ho ?_ u;intro e;rcases hp with hp|hp
      .have:=(ax.lt _ e).1;have:=H.out;omega
      .grind
     refine jR (base:=A.heap.size) ?_ (by have:=H.out;omega)
     grind
    .exact(((((au.setCell (.inr ak) _).setCell (.inr ak) _).setCell (.inr (gW _)) _).setCell (.inr (gW _)) _).setCell (.inr (gW _)) _).setCell (.inr (gW _)) _
    .exact(((((aB.rj Z _).rj Z _).rj y _).rj y _).rj y _).rj y _
def QP (R:RC) (ps:Nat):Bool:=decide (ps < R.cs.size)&&decide (97<=bt R.cs ps/\bt R.cs ps<=122\/65<=bt R.cs ps/\bt R.cs ps<=90)
def Ck (r:Nat) (R:RC) (bg ps:Nat) (w:gx) (h:Rd w r R bg ps) (c:ps<=R.cs.size) (d:R.cs.size<=1024):
  Calls prog 161 #[gN r,.func (.func 162) #[] #[]] w λe w'=>e=iw (.bool (QP R ps))/\∃n,w'=w.drewN n:=
 JG r R bg ps _ _ _ w h c d (QZ w [r])
theorem acg (s:gz) (a:Nat) (h:a < s.size):(s.extract a s.size).extract 0 1=s.extract a (a+1):=by
 apply ve;simp only[ByteArray.data_extract,Array.extract_extract]
 grind
theorem VC {a b : Int} {W : gx} (c:Kept [r] w W) (d:Rd W r R bg ps) (g:W.heap[w.heap.size]?=some (gL #[gh 0,gh 0,gH jz] 188)) (h:r≠w.heap.size):
  Kept [r] w (((W.setCell ⟨w.heap.size,0,none⟩ (gh a)).setCell ⟨w.heap.size,1,none⟩ (gh b)).setCell ⟨w.heap.size,2,none⟩ (gH s))/\Rd (((W.setCell ⟨w.heap.size,0,none⟩ (gh a)).setCell ⟨w.heap.size,1,none⟩ (gh b)).setCell ⟨w.heap.size,2,none⟩ (gH s)) r R bg ps/\(((W.setCell ⟨w.heap.size,0,none⟩ (gh a)).setCell ⟨w.heap.size,1,none⟩ (gh b)).setCell ⟨w.heap.size,2,none⟩ (gH s)).heap[w.heap.size]?=some (gL #[gh a,gh b,gH s] 188):=by
 have e:Kept [w.heap.size] W (((W.setCell ⟨w.heap.size,0,none⟩ (gh a)).setCell ⟨w.heap.size,1,none⟩ (gh b)).setCell ⟨w.heap.size,2,none⟩ (gH s)):=(((Kept.refl [w.heap.size] W).setCell (.inl (by simp)) _).setCell (.inl (by simp)) _).setCell (.inl (by simp)) _;exact⟨((c.setCell (.inr (gW _)) _).setCell (.inr (gW _)) _).setCell (.inr (gW _)) _,d.kept e (by grind),gm (gm (gm g 0 _) 1 _) 2 _⟩
def DQ (r:Nat) (R:RC) (bg ps g q b lg:Nat) (look:gz->Option gz) (c:Nat->Nat) (w:gx) (h:Rd w r R bg ps) (hA:Mi w r R g q c) (F:Nm w r R b lg look) (hb:bg < R.cs.size) (hs:R.cs.size<=1024):
  Calls prog 93 #[gN r] w λe w'=>e=iw (.agg #[gh (c bg),gh (c (bg+qe look lg (R.cs.extract bg R.cs.size))),gH (sC look lg (R.cs.extract bg R.cs.size))])/\Kept [r] w w'/\Rd w' r R bg (bg+qe look lg (R.cs.extract bg R.cs.size)):=by
 have t1:=h.text;have b1:=h.bg;have m1:=h.mv;have l1:=h.lg;rw[F.mv]at m1;rw[F.lgv]at l1;have hr:=iX h;have S:(R.cs.extract bg R.cs.size).size=R.cs.size - bg:=by simp
 have T:=Dq (look:=look) (lg:=lg) (s:=R.cs.extract bg R.cs.size) (inV:=false);rw[S]at T;have C1:=(λW (l:Kept [] w W)=>RN b lg look (R.cs.extract bg R.cs.size) false W (F.lk.kept l (by simp)) F.le (by omega));have C2:=(λW (l:Kept [] w W)=>DN r R bg ps g q c W (h.kept l (by simp)) (hA.kept (l.mono (by simp))) hb hs);have y:=(Kept.refl [] w).alloc (gL #[gh 0,gh 0,gH jz] 188);have L:=fX w (gL #[gh 0,gh 0,gH jz] 188);have k:=(show w.heap.size≠r by omega);have HR:=h;have HA:=hA;have K:=fV (acg R.cs bg hb);have HS:=fV (show qe look lg (R.cs.extract bg R.cs.size)=if mr look lg (R.cs.extract bg R.cs.size) false=0 then 1 else mr look lg (R.cs.extract bg R.cs.size) false from rfl);have Z:=fV (show sC look lg (R.cs.extract bg R.cs.size)=if mr look lg (R.cs.extract bg R.cs.size) false=0 then (R.cs.extract bg R.cs.size).extract 0 1 else oK look lg (R.cs.extract bg R.cs.size) false from rfl);generalize qe look lg (R.cs.extract bg R.cs.size)=cz at *;generalize sC look lg (R.cs.extract bg R.cs.size)=ct at *;generalize mr look lg (R.cs.extract bg R.cs.size) false=n at *;generalize oK look lg (R.cs.extract bg R.cs.size) false=H at *;go_enter func93,ntmps93
 go_wp21
 go_cut [3,4]from 5 to 21 (λtv nv wc=>tv=gH H/\nv=gh n/\Kept [] w wc/\wc.heap[w.heap.size]?=some (gL #[gh 0,gh 0,gH jz] 188))
 case first=>
  go_region_with (go_at_call 170;refine(C1 _ y.drew).mono ?_;rintro e w1 ⟨rfl,u⟩;have P:=fV ((y.drew).trans u);have N:=fV ((((Kept.refl [] _).drew).trans u).at L (by simp));clear u)
  all_goals (try (go_wp21))
  all_goals (go_meet;exact⟨rfl,rfl,P,N⟩)
 case rest=>
  obtain⟨rfl,rfl,l,hg⟩:=hcut;have HK:=l;have HG:=hg;have G:=HR.kept l (by simp)
  by_cases D:n=0
  .have I:=C2 wc l;have B:cz=1:=by rw[HS.out,gJ D]
   have C:ct=R.cs.extract bg (bg+1):=by rw[Z.out,gJ D,K.out]
   have x:=fV B;have J:=fV C;clear B C;subst D
   go_wp21
   refine I.mono ?_;rintro e w2 ⟨rfl,j,U⟩;have d:=j.at HG (by simpa using k);have V:=fW d 0;have X:=fW d 1;have Y:=fW d 2;have z0:=gu d 0;have z1:=gu d 1;have z2:=gu d 2;dsimp at V X Y;have o:=VC (a:=(c bg:Int)) (b:=(c (bg+1):Int)) (s:=R.cs.extract bg (bg+1)) ((HK.mono (by simp)).trans j) U d (λe=>k e.symm);go_wp2;refine oR (v:= .agg #[gh (c bg),gh (c (bg+1)),gH (R.cs.extract bg (bg+1))]) ?_ rfl ⟨by rw[x.out,J.out],o.1,by rw[x.out];exact o.2.1⟩;have Q:=fW o.2.2;simp[results,results93,asAddr,Result.andThen,go_sem,Q]
  .have B:cz=n:=by rw[HS.out,gV D]
   have C:ct=H:=by rw[Z.out,gV D]
   have x:=fV B;have J:=fV C;have a0:((n:Int)==0)=false:=beq_eq_false_iff_ne.2 (by omega);have b2:=G.bg;have f2:=G.free 3;have p2:=G.ps;have z:=(l.mono (S':=[r]) (by simp)).setCell (p:=⟨r,3,none⟩) (.inl (by simp)) (gh ((bg+n:Nat)));have A:=G.Ng (bg+n);have O:=(((Kept.refl [r] wc).setCell (p:=⟨r,3,none⟩) (.inl (by simp)) (gh ((bg+n:Nat))))).at hg (by simpa using k);have I:=qp r R bg (bg+n) g q c _ A (HA.kept z) (by omega) (by omega) hs;clear B C
   go_wp21
   refine I.mono ?_;rintro e w2 ⟨rfl,j⟩;have d:=j.at O (by simp);have V:=fW d 0;have X:=fW d 1;have Y:=fW d 2;have z0:=gu d 0;have z1:=gu d 1;have z2:=gu d 2;dsimp at V X Y;have o:=VC (a:=(c bg:Int)) (b:=(c (bg+n):Int)) (s:=H) (z.trans (j.mono (by simp))) (A.kept j (by simp)) d (λe=>k e.symm);go_wp2;refine oR (v:= .agg #[gh (c bg),gh (c (bg+n)),gH H]) ?_ rfl ⟨by rw[x.out,J.out],o.1,by rw[x.out];exact o.2.1⟩;have Q:=fW o.2.2;simp[results,results93,asAddr,Result.andThen,go_sem,Q]
inductive UR where
 |Xe
 |Y7 (t:gz)
 |Uw (nm:gz) (L:lZ)
 |fin (nm:gz) (L:lZ)
 |Yu (t:gz)
 |dtp (nm:gz) (q:Bool)
 |lost
inductive AP where
 |stop
 |tok (kd:UR) (e:Nat)
def Wi (base:Nat) (a b:Int) (v:gQ) (w:gx):UR->Prop
 | .Xe=>v= .iface 186 (.agg #[gh a,gh b])
 | .Y7 t=>v= .iface 188 (.agg #[gh a,gh b,gH t])
 | .Uw nm L=>∃c d,v= .iface 196 (.agg #[gh a,gh b,gH nm,.slice c L.length d])/\w.ownsRow base 299 2 (.slice c L.length d) L.length (sv L)
 | .fin nm L=>∃c d,v= .iface 197 (.agg #[gh a,gh b,gH nm,.slice c L.length d])/\w.ownsRow base 299 2 (.slice c L.length d) L.length (sv L)
 | .Yu t=>v= .iface 198 (.agg #[gh a,gh b,gH t])
 | .dtp nm q=>v= .iface 200 (.agg #[gh a,gh b,gH nm,.bool q])
 | .lost=>v= .iface 190 (.agg #[gh a,gh b])
def Wi.base {base c : Nat} {a b : Int} {k : UR} (h:Wi base a b v w k) (d:c<=base):Wi c a b v w k:=by
 cases k with
 |Uw nm L=>have⟨ao,cp,h1,h2⟩:=h;exact⟨ao,cp,h1,jR h2 d⟩
 |fin nm L=>have⟨ao,cp,h1,h2⟩:=h;exact⟨ao,cp,h1,jR h2 d⟩
 |_=>exact h
def oA (w:gx) (r:Nat) (R:RC) (bg:Nat) (c:Nat->Nat) (e:Ending) (w':gx):AP->Prop
 | .stop=>∃k,e= .panicked [{v:= .iface 78 (gN k),recovered:=false}]/\UA w' k 7 (c bg)/\w.heap.size<=k/\Kept [r] w w'
 | .tok kd m=>(∃v,e=iw v/\Wi w.heap.size (c bg) (c m) v w' kd)/\Kept [r] w w'/\Rd w' r R bg m
def oA.back {w1 : gx} {c : Nat->Nat} {e : Ending} {T : AP} (h:oA w1 r R bg c e w' T) (d:Kept [r] w w1):oA w r R bg c e w' T:=by
 cases T with
 |stop=>have⟨k,h1,h2,h3,h4⟩:=h;exact⟨k,h1,h2,j7 d.size h3,d.trans h4⟩
 |tok kd m=>have⟨⟨v,h1,h2⟩,h3,h4⟩:=h;exact⟨⟨v,h1,h2.base d.size⟩,d.trans h3,h4⟩
def uh (R:RC) (c:gz->lZ->UR) (nm:gz):IM->AP
 | .stop=> .stop
 | .lost=> .tok .lost R.cs.size
 | .whole m L=> .tok (c nm L) m
structure UQ (w:gx) (r:Nat) (R:RC) (g cap b lg:Nat) (look:gz->Option gz) (cut:Nat->Nat):Prop where
 gM:Mi w r R g cap cut
 XC:Nm w r R b lg look
 gl:Gl w r
 small:R.cs.size<=1024
def UQ.kept {c : Nat} {d : Nat->Nat} (h:UQ w r R g c b lg look d) (e:Kept [r] w w'):UQ w' r R g c b lg look d:=
 ⟨h.gM.kept e,h.XC.kept e,h.gl.kept e,h.small⟩
def Uz (r:Nat) (R:RC) (bg ps g j b lg:Nat) (look:gz->Option gz) (c:Nat->Nat) (w:gx) (h:Rd w r R bg ps) (o:UQ w r R g j b lg look c) (G:bg<=R.cs.size) (S:ps<=R.cs.size):
  Calls prog 163 #[gN r] w λe w'=>oA w r R bg c e w' (uh R .Uw (zd R ps) (mg R look lg [] (zc R ps))):=by
 have C:=VQ r R bg ps g j b lg look c w h o.gM o.XC o.gl G S o.small;have F:=o;generalize zd R ps=nm at C|-;generalize mg R look lg [] (zc R ps)=O at C|-;cases O with
 |stop=>
  go_enter func163,ntmps163
  go_wp21
  refine C.mono ?_;rintro e l ⟨k,rfl,I,N,J⟩;go_wp2;exact⟨rfl,k,rfl,I,N,J⟩
 |lost=>
  go_enter func163,ntmps163
  go_wp21
  refine C.mono ?_;rintro e l ⟨rfl,K,D⟩;have q:Kept [] l (l.alloc (.cells #[gh 0,gh 0,gH jz,jc] 194)):=(Kept.refl _ _).alloc _;have u:=D.kept q (by simp);have d:=K.trans (q.mono (by simp));have H:=qp r R bg R.cs.size g j c _ u (F.kept d).gM G (gW _) F.small
  go_wp21
  refine H.mono ?_;rintro e T ⟨rfl,p⟩;have x:=d.trans (p.mono (by simp));have z:=u.kept p (by simp);go_wp2;go_ret;exact⟨⟨_,rfl,rfl⟩,x,z⟩
 |whole m L=>
  go_enter func163,ntmps163
  go_wp21
  refine C.mono ?_;rintro e l ⟨⟨A,B,rfl,Q⟩,P,D⟩;have q:Kept [] l (l.alloc (.cells #[gh (c bg),gh (c m),gH nm,.slice A L.length B] 194)):=(Kept.refl _ _).alloc _;have u:=D.kept q (by simp);have d:=P.trans (q.mono (by simp));have y:=Q.alloc (.cells #[gh (c bg),gh (c m),gH nm,.slice A L.length B] 194);go_wp2;go_ret;exact⟨⟨_,rfl,A,B,rfl,y⟩,d,u⟩
def Zv (r:Nat) (R:RC) (bg ps g j b lg:Nat) (look:gz->Option gz) (c:Nat->Nat) (w:gx) (h:Rd w r R bg ps) (o:UQ w r R g j b lg look c) (G:bg<=R.cs.size) (S:ps<=R.cs.size):
  Calls prog 254 #[gN r] w λe w'=>oA w r R bg c e w' (uh R .fin (zd R ps) (mg R look lg [] (zc R ps))):=by
 have C:=VQ r R bg ps g j b lg look c w h o.gM o.XC o.gl G S o.small;have F:=o;generalize zd R ps=nm at C|-;generalize mg R look lg [] (zc R ps)=O at C|-;cases O with
 |stop=>
  go_enter func254,ntmps254
  go_wp21
  refine C.mono ?_;rintro e l ⟨k,rfl,I,N,J⟩;go_wp2;exact⟨rfl,k,rfl,I,N,J⟩
 |lost=>
  go_enter func254,ntmps254
  go_wp21
  refine C.mono ?_;rintro e l ⟨rfl,K,D⟩;have q:Kept [] l (l.alloc (.cells #[gh 0,gh 0,gH jz,jc] 194)):=(Kept.refl _ _).alloc _;have u:=D.kept q (by simp);have d:=K.trans (q.mono (by simp));have H:=qp r R bg R.cs.size g j c _ u (F.kept d).gM G (gW _) F.small
  go_wp21
  refine H.mono ?_;rintro e T ⟨rfl,p⟩;have x:=d.trans (p.mono (by simp));have z:=u.kept p (by simp);go_wp2;go_ret;exact⟨⟨_,rfl,rfl⟩,x,z⟩
 |whole m L=>
  go_enter func254,ntmps254
  go_wp21
  refine C.mono ?_;rintro e l ⟨⟨A,B,rfl,Q⟩,P,D⟩;have q:Kept [] l (l.alloc (.cells #[gh (c bg),gh (c m),gH nm,.slice A L.length B] 194)):=(Kept.refl _ _).alloc _;have u:=D.kept q (by simp);have d:=P.trans (q.mono (by simp));have y:=Q.alloc (.cells #[gh (c bg),gh (c m),gH nm,.slice A L.length B] 194);go_wp2;go_ret;exact⟨⟨_,rfl,A,B,rfl,y⟩,d,u⟩
def wx (R:RC) (look:gz->Option gz) (lg bg:Nat):AP:= .tok (.Y7 (sC look lg (R.cs.extract bg R.cs.size))) (bg+qe look lg (R.cs.extract bg R.cs.size))
def nj (R:RC) (look:gz->Option gz) (lg bg ps:Nat):AP:=
 if QP R ps=true then uh R .fin (zd R ps) (mg R look lg [] (zc R ps))
 else if pre (R.cs.extract ps R.cs.size) iW=true then .tok .lost (ps+1)
 else if ps=R.cs.size then wx R look lg bg
 else .tok (.Yu (pc (R.cs.extract ps (scan (ju iW) R.cs ps)))) (sd R ps)
def Ll (r:Nat) (R:RC) (bg ps g l b lg:Nat) (look:gz->Option gz) (c:Nat->Nat) (w:gx) (h:Rd w r R bg ps) (hO:UQ w r R g l b lg look c) (hb:bg < R.cs.size) (N:ps<=R.cs.size):
  Calls prog 164 #[gN r] w λe w'=>oA w r R bg c e w' (nj R look lg bg ps):=by
 have J:=hO;have HR:=h;have O:=hO.small;have H:=Ck r R bg ps w h N O;have a1:∀(fn:Fn) (first l:jN) (w:gx),(Instr.makeFunc fn first l).run prog w= .ok (.func fn first l) w:=λ_ _ _ _=>rfl;cases hl:QP R ps
 .rw[hl]at H;have p:=fV H;have I:=λq=>lR r R bg ps iW (w.drewN q) (show Rd (w.drewN q) r R bg ps from HR) N O (by decide);clear H;cases hgt:pre (R.cs.extract ps R.cs.size) iW
  .have G:taken R iW ps=ps:=by unfold taken;rw[gV (by simp[hgt])]
   rw[hgt,G]at I;have A:=fV I;clear I
   by_cases o:ps=R.cs.size
   .have D:nj R look lg bg ps=wx R look lg bg:=by unfold nj;rw[gV (by simp[hl]),gV (by simp[hgt]),gJ o]
    rw[D];have Y:decide (ps=R.cs.size)=true:=by simp[o]
    go_enter func164,ntmps164
    go_wp21
    refine p.mono ?_;rintro e P ⟨rfl,q,rfl⟩
    go_wp21
    refine(A q).mono ?_;rintro e B ⟨rfl,x,j⟩;have d:=((Kept.refl [r] w).drewN q).trans x;have u:=pi r R bg ps B j;rw[Y]at u
    go_wp21
    refine u.mono ?_;rintro e w3 ⟨rfl,z,rfl⟩;have C:=DQ r R bg ps g l b lg look c (B.drewN z) (show Rd (B.drewN z) r R bg ps from j) (J.kept (d.drewN z)).gM (J.kept (d.drewN z)).XC hb O
    go_wp21
    refine C.mono ?_;rintro e Q ⟨rfl,y,F⟩;have S:=(show oA w r R bg c (iw (.iface 188 (.agg #[gh (c bg),gh (c (bg+qe look lg (R.cs.extract bg R.cs.size))),gH (sC look lg (R.cs.extract bg R.cs.size))]))) Q (wx R look lg bg)from⟨⟨_,rfl,rfl⟩,(d.drewN z).trans y,F⟩);go_wp2;go_ret;exact S
   .have D:nj R look lg bg ps= .tok (.Yu (pc (R.cs.extract ps (scan (ju iW) R.cs ps)))) (sd R ps):=by unfold nj;rw[gV (by simp[hl]),gV (by simp[hgt]),gV o]
    rw[D];have Y:decide (ps=R.cs.size)=false:=by simp[o]
    go_enter func164,ntmps164
    go_wp21
    refine p.mono ?_;rintro e P ⟨rfl,q,rfl⟩
    go_wp21
    refine(A q).mono ?_;rintro e B ⟨rfl,x,j⟩;have d:=((Kept.refl [r] w).drewN q).trans x;have u:=pi r R bg ps B j;rw[Y]at u
    go_wp21
    refine u.mono ?_;rintro e w3 ⟨rfl,z,rfl⟩;have K:=J.kept (d.drewN z);have C:=uP r R bg ps g l c (B.drewN z) (show Rd (B.drewN z) r R bg ps from j) K.gM K.gl (by omega) N O
    go_wp21
    refine C.mono ?_;rintro e Q ⟨rfl,y,X⟩;have V:=(d.drewN z).trans y;go_wp2;go_ret;exact⟨⟨_,rfl,rfl⟩,V,X⟩
  .have G:taken R iW ps=ps+1:=by unfold taken;rw[gJ hgt];rfl
   have a0:ps+1<=R.cs.size:=lN hgt N;rw[hgt,G]at I;have A:=fV I;have D:nj R look lg bg ps= .tok .lost (ps+1):=by unfold nj;rw[gV (by simp[hl]),gJ hgt]
   rw[D];clear I;go_enter func164,ntmps164
   go_wp21
   refine p.mono ?_;rintro e P ⟨rfl,q,rfl⟩
   go_wp21
   refine(A q).mono ?_;rintro e B ⟨rfl,x,j⟩;have d:=((Kept.refl [r] w).drewN q).trans x;have CP:=qp r R bg (ps+1) g l c B j (J.kept d).gM (by omega) a0 O
   go_wp21
   refine CP.mono ?_;rintro e w3 ⟨rfl,L⟩;have U:=d.trans (L.mono (by simp));have W:=j.kept L (by simp);go_wp2;go_ret;exact⟨⟨_,rfl,rfl⟩,U,W⟩
 .rw[hl]at H;have p:=fV H;have D:nj R look lg bg ps=uh R .fin (zd R ps) (mg R look lg [] (zc R ps)):=by unfold nj;rw[gJ hl]
  rw[D];have C:=(λq=>Zv r R bg ps g l b lg look c (w.drewN q) (show Rd (w.drewN q) r R bg ps from HR) (J.kept ((Kept.refl [r] w).drewN q)) (by omega) N);generalize uh R .fin (zd R ps) (mg R look lg [] (zc R ps))=T at C|-;clear H;cases T with
  |stop=>
   go_enter func164,ntmps164
   go_wp21
   refine p.mono ?_;rintro e P ⟨rfl,q,rfl⟩
   go_wp21
   refine(C q).mono ?_;rintro e P ⟨k,rfl,H2,h3,h4⟩;have H4:=((Kept.refl [r] w).drewN q).trans h4;have Z:w.heap.size<=k:=h3;go_wp2;exact⟨rfl,k,rfl,H2,Z,H4⟩
  |tok kd m=>
   go_enter func164,ntmps164
   go_wp21
   refine p.mono ?_;rintro e P ⟨rfl,q,rfl⟩
   go_wp21
   refine(C q).mono ?_;rintro e Q ⟨⟨v,rfl,hv⟩,y,F⟩;have S:=(show oA w r R bg c (iw v) Q (.tok kd m)from⟨⟨v,rfl,hv⟩,((Kept.refl [r] w).drewN q).trans y,F⟩);go_wp2;go_ret;exact S
def isQ (R:RC) (ps:Nat):Bool:=decide (ps < R.cs.size)&&ju ⟨#[63]⟩ (bt R.cs ps)
def rL (R:RC) (look:gz->Option gz) (lg bg ps:Nat):AP:=
 if QP R ps=true then uh R .Uw (zd R ps) (mg R look lg [] (zc R ps))
 else if pre (R.cs.extract ps R.cs.size) ⟨#[47]⟩=true then nj R look lg bg (ps+1)
 else if pre (R.cs.extract ps R.cs.size) ⟨#[33,45,45]⟩=true then .tok (.Yu (pc (oB R (ps+3)))) (oj R (ps+3))
 else if Au R lY ps=true then .tok (.dtp (Tq R (ps+8)) (dtQ R (ps+8))) (sd R (Gv R (ps+8)))
 else if pre (R.cs.extract ps R.cs.size) ⟨#[33]⟩=true then .tok (.Yu (pc (R.cs.extract (ps+1) (scan (ju iW) R.cs (ps+1))))) (sd R (ps+1))
 else if isQ R ps=true then .tok (.Yu (pc (R.cs.extract ps (scan (ju iW) R.cs ps)))) (sd R ps)
 else wx R look lg bg
theorem QN (h:Au R s ps=true) (c:ps<=R.cs.size):ps+s.size<=R.cs.size:=by
 unfold Au at h;grind
theorem ZZ (r:Nat) (R:RC) (bg ps:Nat) (w:gx) (h:Rd w r R bg ps) (d:ps<=R.cs.size) (j:R.cs.size<=1024):
  Calls prog 161 #[gN r,.func (.func 260) #[] #[gN w.heap.size]] (w.alloc (.cells #[gH ⟨#[63]⟩] 9))
   λe w'=>e=iw (.bool (isQ R ps))/\Kept [r] w w'/\Rd w' r R bg ps:=by
 have l:=iX h;have k:Kept [] w (w.alloc (.cells #[gH ⟨#[63]⟩] 9)):=(Kept.refl _ _).alloc _;have b:=fX w (.cells #[gH ⟨#[63]⟩] 9);refine(JG r R bg ps _ _ _ _ (k.at h (by simp)) d j (C5 _ [r] w.heap.size ⟨#[63]⟩ (by simp) (by simp) (by grind))).mono ?_;rintro e w' ⟨c,n,rfl⟩;exact⟨c,(k.mono (by simp)).drewN n,k.at h (by simp)⟩
def NU (r:Nat) (R:RC) (bg ps g y b lg:Nat) (look:gz->Option gz) (j:Nat->Nat) (w:gx) (h:Rd w r R bg ps) (K:UQ w r R g y b lg look j) (hb:bg < R.cs.size) (z:ps<=R.cs.size):
  Calls prog 92 #[gN r] w λe w'=>oA w r R bg j e w' (rL R look lg bg ps):=by
 have B:=K.small;have V:=Ck r R bg ps w h z B;obtain⟨T,o⟩:∃T,rL R look lg bg ps=T:=⟨_,rfl⟩;rw[o];unfold rL at o;go_enter func92,ntmps92
 go_wp21
 refine V.mono ?_;rintro e w1 ⟨rfl,q,rfl⟩;have C:=(Kept.refl [r] w).drewN q;have L:Rd (w.drewN q) r R bg ps:=h;cases c0:QP R ps with
 |true=>
  rw[gJ c0]at o;have c:=K.kept C;have x:=Uz r R bg ps g y b lg look j (w.drewN q) L c (by omega) z;rw[o]at x;cases T with
  |stop=>
   go_wp21
   refine x.mono ?_;rintro e A ⟨k,rfl,W,X,Y⟩;have F:=oA.back (show oA (w.drewN q) r R bg j _ A .stop from⟨k,rfl,W,X,Y⟩) C;go_wp2;exact⟨rfl,F⟩
  |tok kd m=>
   go_wp21
   refine x.mono ?_;rintro e A ⟨⟨v,rfl,Z⟩,l,d⟩;have F:=oA.back (show oA (w.drewN q) r R bg j (iw v) A (.tok kd m)from⟨⟨v,rfl,Z⟩,l,d⟩) C;go_wp2;go_ret;exact F
 |false=>
  rw[gV (by simp[c0])]at o;have O:=lR r R bg ps ⟨#[47]⟩ (w.drewN q) L z B (by decide)
  go_wp21
  refine O.mono ?_;rintro e N ⟨rfl,l,d⟩;have D:=C.trans l;unfold taken at d;cases c1:pre (R.cs.extract ps R.cs.size) ⟨#[47]⟩with
  |true=>
   rw[gJ c1]at o d;have c:=K.kept D;have x:=Ll r R bg (ps+1) g y b lg look j N d c hb (lN c1 z);rw[o]at x;cases T with
   |stop=>
    go_wp21
    refine x.mono ?_;rintro e A ⟨k,rfl,W,X,Y⟩;have F:=oA.back (show oA N r R bg j _ A .stop from⟨k,rfl,W,X,Y⟩) D;go_wp2;exact⟨rfl,F⟩
   |tok kd m=>
    go_wp21
    refine x.mono ?_;rintro e A ⟨⟨v,rfl,Z⟩,l,d⟩;have F:=oA.back (show oA N r R bg j (iw v) A (.tok kd m)from⟨⟨v,rfl,Z⟩,l,d⟩) D;go_wp2;go_ret;exact F
  |false=>
   rw[gV (by simp[c1])]at o d;have P:=lR r R bg ps ⟨#[33,45,45]⟩ N d z B (by decide)
   go_wp21
   refine P.mono ?_;rintro e w3 ⟨rfl,l,d⟩;have G:=D.trans l;unfold taken at d;cases c2:pre (R.cs.extract ps R.cs.size) ⟨#[33,45,45]⟩with
   |true=>
    rw[gJ c2]at o d;have c:=K.kept G;have x:=(P9 r R bg (ps+3) g y j w3 d c.gM c.gl (by omega) (lN c2 z) B);subst o
    go_wp21
    refine x.mono ?_;rintro e A ⟨rfl,l,u⟩;have p:=G.trans l;go_wp2;go_ret;exact⟨⟨_,rfl,rfl⟩,p,u⟩
   |false=>
    rw[gV (by simp[c2])]at o d;have Q:=So r R bg ps lY w3 d z B (by decide)
    go_wp21
    refine Q.mono ?_;rintro e w4 ⟨rfl,l,d⟩;have H:=G.trans l;cases c3:Au R lY ps with
    |true=>
     rw[gJ c3]at o d;have c:=K.kept H;have x:=(Lv r R bg (ps+8) g y j w4 d c.gM c.gl (by omega) (QN c3 z) B);subst o
     go_wp21
     refine x.mono ?_;rintro e A ⟨rfl,l,u⟩;have p:=H.trans l;go_wp2;go_ret;exact⟨⟨_,rfl,rfl⟩,p,u⟩
    |false=>
     rw[gV (by simp[c3])]at o d;have S:=lR r R bg ps ⟨#[33]⟩ w4 d z B (by decide)
     go_wp21
     refine S.mono ?_;rintro e w5 ⟨rfl,l,d⟩;have I:=H.trans l;unfold taken at d;cases c4:pre (R.cs.extract ps R.cs.size) ⟨#[33]⟩with
     |true=>
      rw[gJ c4]at o d;have c:=K.kept I;have x:=(uP r R bg (ps+1) g y j w5 d c.gM c.gl (by omega) (lN c4 z) B);subst o
      go_wp21
      refine x.mono ?_;rintro e A ⟨rfl,l,u⟩;have p:=I.trans l;go_wp2;go_ret;exact⟨⟨_,rfl,rfl⟩,p,u⟩
     |false=>
      rw[gV (by simp[c4])]at o d
      go_wp21
      refine(py _ _).mono ?_;rintro e wq ⟨rfl,rfl⟩;have U:=ZZ r R bg ps w5 d z B
      go_wp21
      refine U.mono ?_;rintro e w6 ⟨rfl,l,d⟩;have J:=I.trans l;have c:=K.kept J;cases c5:isQ R ps with
      |true=>
       rw[gJ c5]at o;have x:=(uP r R bg ps g y j w6 d c.gM c.gl (by omega) z B);subst o
       go_wp21
       refine x.mono ?_;rintro e A ⟨rfl,l,u⟩;have p:=J.trans l;go_wp2;go_ret;exact⟨⟨_,rfl,rfl⟩,p,u⟩
      |false=>
       rw[gV (by simp[c5])]at o;have x:=(DQ r R bg ps g y b lg look j w6 d c.gM c.XC hb B);subst o
       go_wp21
       refine x.mono ?_;rintro e A ⟨rfl,l,u⟩;have p:=J.trans l;go_wp2;go_ret;exact⟨⟨_,rfl,rfl⟩,p,u⟩
def xM (t:gz):gz:=⟨(Lib.trimPrefix t.data.toList [60,47]).toArray⟩
def Lu (t:gz):Bool:=Lib.hasPrefix t.data.toList [60,47]
theorem Io (t:gz):(xM t).size<=t.size:=by
 have e1:t.size=t.data.toList.length:=DE t;have e2:(xM t).size=(Lib.trimPrefix t.data.toList [60,47]).length:=by
  rw[DE];simp[xM]
 rw[e1,e2];unfold Lib.trimPrefix
 grind
def Ot (R:RC) (nm:gz) (ps:Nat):Bool:=
 Lu (R.cs.extract ps R.cs.size)&&decide (nm.size < (xM (R.cs.extract ps R.cs.size)).size)&&((small ((xM (R.cs.extract ps R.cs.size)).extract 0 nm.size)).toList==nm.toList)&&ju jp (bt (xM (R.cs.extract ps R.cs.size)) nm.size)
def Gg (v:gQ) (W:gx):Prop:=∃b,v= .func (.func 260) #[] #[gN b]/\b < W.heap.size/\W.cell? ⟨b,0,none⟩=some (gH jp)
def Gg.k {W c : gx} (h:Gg v W) (d:Kept [] W c):Gg v c:=by
 have⟨b,h1,h2,h3⟩:=h;exact⟨b,h1,mi h2 d.size,(d.cell (p:=⟨b,0,none⟩) h2 (by simp)).trans h3⟩
def Gg.new (W:gx):Gg (.func (.func 260) #[] #[gN W.heap.size]) (W.alloc (.cells #[gH jp] 9)):=by
 simp[Gg]
def afb (r:Nat) (R:RC) (bg ps:Nat) (nm:gz) (w:gx) (h:Rd w r R bg ps) (D:ps<=R.cs.size) (F:R.cs.size<=1024) (A:Lu (R.cs.extract ps R.cs.size)=false):
  Calls prog 156 #[gN r,gH nm] w λe w'=>e=iw (.bool false)/\Kept [] w w':=by
 have o:=fV (xo r R bg ps w h D F);have H:=Io (R.cs.extract ps R.cs.size);have j:(R.cs.extract ps R.cs.size).size=R.cs.size - ps:=by simp
 rw[j]at H;clear h j;generalize R.cs.extract ps R.cs.size=t at *;have k:=fV (λw=>Tryz.strings_CutPrefix t qm w);simp only at k;rw[show(⟨(Lib.trimPrefix t.data.toList [60,47]).toArray⟩:gz)=xM t from rfl,show Lib.hasPrefix t.data.toList [60,47]=Lu t from rfl]at k;generalize xM t=s at *;rw[A]at k;obtain⟨u,G⟩:∃u:gz,u=⟨#[]⟩:=⟨_,rfl⟩;obtain⟨c,y⟩:∃c:Int,c=0:=⟨_,rfl⟩;clear A G y;go_enter func156,ntmps156
 go_wp21
 refine o.out.mono ?_;rintro e K ⟨rfl,q,rfl⟩
 go_wp21
 refine(k.out _).mono ?_;rintro e w' ⟨rfl,rfl⟩
 go_wp21
 refine vL (by rfl) ?_;refine qj (λ(g:Unit) z=>⟨#[gN r,gH nm,undef,undef,.bool false,gH s,.bool false,gh nm.size,.tuple #[gH s,.bool false],gN r,gH t,.tuple #[gH s,.bool false],gH s,.bool false,gH nm,gh nm.size,cd z 0 (.bool false),cd z 1 (.bool false),undef,undef,undef,undef,cd z 6 (.bool false),cd z 7 (.bool false),undef,undef,undef,undef,undef,undef,cd z 14 (.bool false),cd z 15 (.bool false),undef,undef,undef,undef,undef,cd z 21 (.bool false)],[]⟩) (λg z W=>Kept [] w W) 23 [[],[0],[1],[1],[1],[1],[1],[6],[7],[7],[7],[7],[7],[7],[7],[14],[15],[15],[15],[15],[15],[15],[21]] (()) rfl (by rfl) (((Kept.refl [] w).drewN q).drew) ?_ ?_
 .repeat' first|exact nC|refine nA ?_ ?_
  all_goals
   rintro g z W l x J;simp[CZ]at x;refine j9 rfl ?_;intro I p;simp only[lD,x];go_simp
   first
   |refine p _ _ ⟨g,?_,l⟩
   simp[pg,wg,lD,x]
 .rintro g W l;simp only[vR];have B:=fV l;clear l;rename_i C d;refine d _ _ ?_;clear d C;go_wp2;go_ret;exact⟨rfl,B.out⟩
def afc (r:Nat) (R:RC) (bg ps:Nat) (nm:gz) (w:gx) (h:Rd w r R bg ps) (F:ps<=R.cs.size) (G:R.cs.size<=1024) (A:Lu (R.cs.extract ps R.cs.size)=true) (hl:¬nm.size < (xM (R.cs.extract ps R.cs.size)).size):
  Calls prog 156 #[gN r,gH nm] w λe w'=>e=iw (.bool false)/\Kept [] w w':=by
 have o:=fV (xo r R bg ps w h F G);have I:=Io (R.cs.extract ps R.cs.size);have j:(R.cs.extract ps R.cs.size).size=R.cs.size - ps:=by simp
 rw[j]at I;clear h j;generalize R.cs.extract ps R.cs.size=t at *;have k:=fV (λw=>Tryz.strings_CutPrefix t qm w);simp only at k;rw[show(⟨(Lib.trimPrefix t.data.toList [60,47]).toArray⟩:gz)=xM t from rfl,show Lib.hasPrefix t.data.toList [60,47]=Lu t from rfl]at k;generalize xM t=s at *;rw[A]at k;obtain⟨u,H⟩:∃u:gz,u=⟨#[]⟩:=⟨_,rfl⟩;obtain⟨c,y⟩:∃c:Int,c=0:=⟨_,rfl⟩;have B:=fV (eq_false (show ¬(nm.size:Int) < (s.size:Int) by omega));clear A H y;go_enter func156,ntmps156
 go_wp21
 refine o.out.mono ?_;rintro e L ⟨rfl,q,rfl⟩
 go_wp21
 refine(k.out _).mono ?_;rintro e w' ⟨rfl,rfl⟩
 go_wp21
 refine vL (by rfl) ?_;refine qj (λ(g:Unit) z=>⟨#[gN r,gH nm,undef,undef,.bool false,gH s,.bool true,gh nm.size,.tuple #[gH s,.bool true],gN r,gH t,.tuple #[gH s,.bool true],gH s,.bool true,gH nm,gh nm.size,cd z 0 (.bool true),cd z 1 (.bool true),cd z 2 (gH s),cd z 3 (gh s.size),cd z 4 (gh nm.size),cd z 5 (.bool false),cd z 6 (.bool false),cd z 7 (.bool false),undef,undef,undef,undef,undef,undef,cd z 14 (.bool false),cd z 15 (.bool false),undef,undef,undef,undef,undef,cd z 21 (.bool false)],[]⟩) (λg z W=>Kept [] w W) 23 [[],[0],[1],[1,2],[1],[1,3,4],[1,5],[6],[7],[7],[7],[7],[7],[7],[7],[14],[15],[15],[15],[15],[15],[15],[21]] (()) rfl (by rfl) (((Kept.refl [] w).drewN q).drew) ?_ ?_
 .repeat' first|exact nC|refine nA ?_ ?_
  all_goals
   rintro g z W l x K;simp[CZ]at x;refine j9 rfl ?_;intro J p;simp only[lD,x]
   try simp only[B.out]
   go_simp
   first
   |refine p _ _ ⟨g,?_,l⟩
   simp[pg,wg,lD,x]
 .rintro g W l;simp only[vR];have C:=fV l;clear l;rename_i D d;refine d _ _ ?_;clear d D;go_wp2;go_ret;exact⟨rfl,C.out⟩
def afd (r:Nat) (R:RC) (bg ps:Nat) (nm:gz) (w:gx) (h:Rd w r R bg ps) (I:ps<=R.cs.size) (J:R.cs.size<=1024) (C:Lu (R.cs.extract ps R.cs.size)=true) (hl:nm.size < (xM (R.cs.extract ps R.cs.size)).size) (P:((small ((xM (R.cs.extract ps R.cs.size)).extract 0 nm.size)).toList==nm.toList)=false):
  Calls prog 156 #[gN r,gH nm] w λe w'=>e=iw (.bool false)/\Kept [] w w':=by
 have p:=fV (xo r R bg ps w h I J);have K:=Io (R.cs.extract ps R.cs.size);have l:(R.cs.extract ps R.cs.size).size=R.cs.size - ps:=by simp
 rw[l]at K;clear h l;generalize R.cs.extract ps R.cs.size=t at *;have o:=fV (λw=>Tryz.strings_CutPrefix t qm w);simp only at o;rw[show(⟨(Lib.trimPrefix t.data.toList [60,47]).toArray⟩:gz)=xM t from rfl,show Lib.hasPrefix t.data.toList [60,47]=Lu t from rfl]at o;generalize xM t=s at *;rw[C]at o;have H:(s.extract 0 nm.size).size=nm.size:=by simp;omega
 have x:=fV (λW=>wQ (s.extract 0 nm.size) W (by omega));have D:=fV (eq_true (show(nm.size:Int) < (s.size:Int) by omega));clear H;generalize small (s.extract 0 nm.size)=u at *;obtain⟨c,A⟩:∃c:Int,c=0:=⟨_,rfl⟩;clear C A;go_enter func156,ntmps156
 go_wp21
 refine p.out.mono ?_;rintro e S ⟨rfl,q,rfl⟩
 go_wp21
 refine(o.out _).mono ?_;rintro e w' ⟨rfl,rfl⟩
 go_wp21
 refine vL (by rfl) ?_;refine qj (λ(g:Unit) z=>⟨#[gN r,gH nm,undef,undef,.bool false,gH s,.bool true,gh nm.size,.tuple #[gH s,.bool true],gN r,gH t,.tuple #[gH s,.bool true],gH s,.bool true,gH nm,gh nm.size,cd z 0 (.bool true),cd z 1 (.bool true),cd z 2 (gH s),cd z 3 (gh s.size),cd z 4 (gh nm.size),cd z 5 (.bool true),cd z 6 (.bool true),cd z 7 (.bool true),cd z 8 (gH s),cd z 9 (gh nm.size),cd z 10 (gH (s.extract 0 nm.size)),cd z 11 (gH u),cd z 12 (gH nm),cd z 13 (.bool false),cd z 14 (.bool false),cd z 15 (.bool false),undef,undef,undef,undef,undef,cd z 21 (.bool false)],[]⟩) (λg z W=>Kept [] w W) 23 [[],[0],[1],[1,2],[1],[1,3,4],[1,5],[6],[7],[7],[7,8,9],[7,10],[7],[7,11,12],[7,13],[14],[15],[15],[15],[15],[15],[15],[21]] (()) rfl (by rfl) (((Kept.refl [] w).drewN q).drew) ?_ ?_
 .repeat' first|exact nC|refine nA ?_ ?_
  all_goals
   rintro g z W d y Q;simp[CZ]at y;refine j9 rfl ?_;intro L j;simp only[lD,y]
   try simp only[D.out]
   go_simp
   try (rw[gJ (by omega)];go_simp)
   first
   |refine j _ _ ⟨g,?_,d⟩
   |refine(x.out W).mono ?_;rintro O N ⟨rfl,B⟩;refine j _ _ ⟨g,?_,d.trans B⟩
   simp[pg,wg,lD,y]
 .rintro g W d;simp only[vR];have F:=fV d;clear d;rename_i G k;refine k _ _ ?_;clear k G;go_wp2;go_ret;exact⟨rfl,F.out⟩
end
end Go.Proofs.YtlhhgenpcjjajaaGreatDoor
