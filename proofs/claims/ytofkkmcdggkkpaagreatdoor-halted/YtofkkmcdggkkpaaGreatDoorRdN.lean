import Derived.Test.YtofkkmcdggkkpaaGreatDoorIvR
import Derived.Lib.Builder
import Derived.RegionDies
import Derived.Lib.UnsafeStr
set_option linter.unusedSimpArgs false
set_option linter.unusedVariables false
set_option linter.defProp false
set_option maxHeartbeats 0
set_option maxRecDepth 100000
namespace Go.Proofs.YtofkkmcdggkkpaaGreatDoor
open Go.RowKit Go.PlainAid Tryz
def Kn:=@Lib.size_eq
section
variable {C : jM} {L : lh} {R : RC} {b bB bg bm bs cap g i lg n ps r : Nat} {cut : Nat->Nat} {inV : Bool} {look : gy->Option gy} {s : gy} {v : gO} {w w' wl : gv} {σ : Ab}
def we (base:Int) (s:gy) (i:Nat):Nat:=scan (λc=>decide (kY c>=base)) s i
def oM (base:Int) (s:gy) (f:Nat):Nat:=
 if we base s f=f then 0 else if we base s f < s.size/\bt s (we base s f)=59 then we base s f+1 else we base s f
def Mb (s:gy):Bool:=decide (2 < s.size/\(bt s 2=120\/bt s 2=88))
def uy (s:gy):Nat:=if Mb s=true then oM 16 s 3 else oM 10 s 2
theorem Mf {base : Int} {f : Nat} (h:f<=s.size):oM base s f<=s.size:=by
 have:=pz (q:=λc=>decide (kY c>=base)) h;unfold oM;grind[we]
def SS (h:2<=s.size):uy s<=s.size:=by
 unfold uy;split
 .rename_i a;unfold Mb at a;simp at a;exact Mf (by omega)
 .exact Mf h
def wx (base:Int) (s:gy) (k:Int) (i:Nat):Int:=
 if i < s.size then (if kY (bt s i)>=base then k else wx base s (min (k*base+kY (bt s i)) 1114112) (i+1))else k
  termination_by s.size - i
def Qm {base : Int} {k : Int} (h:¬i < s.size):wx base s k i=k:=by rw[wx,gQ h]
theorem Mg {base : Int} {k : Int} (h:i < s.size) (a:kY (bt s i)>=base):wx base s k i=k:=by grind[wx]
theorem Uz {base : Int} {k : Int} (h:i < s.size) (a:¬kY (bt s i)>=base):wx base s (min (k*base+kY (bt s i)) 1114112) (i+1)=wx base s k i:=by grind[wx]
def NX (base:Int) (s:gy) (f:Nat):gy:=if oM base s f=0 then ⟨#[]⟩else Utf8.encode (OH (wx base s 0 f))
def uz (s:gy):gy:=if Mb s=true then NX 16 s 3 else NX 10 s 2
def Ng (c:Int):(Utf8.encode c).size<=16:=by
 unfold Utf8.encode;dsimp only;generalize (if Utf8.valid c=true then c.toNat else Utf8.runeError)=k
 repeat' split
 all_goals first|(show 1<=16;omega)|(show 2<=16;omega)|(show 3<=16;omega)|(show 4<=16;omega)
def Lg (s:gy):(uz s).size<=16:=by
 unfold uz NX
 repeat' split
 all_goals first|exact Ng _|(show 0<=16;omega)
theorem qW {t c : gy} {a : Nat} {m : Int} (h:t=c) (d:n=a) (e:m=(a:Int)):Ending.returned (.tuple #[gH t,gn m])=iq (.tuple #[gH c,gn n]):=by grind
theorem JB (s:gy) (w:gv) (hs:s.size<=1048576) (h2:2<=s.size):
  Calls prog 243 #[gH s] w λe w'=>e=iq (.tuple #[gH (uz s),gn (uy s)])/\w'=w:=by
 have Y:=get_bt s;obtain⟨Q,a0,a4⟩:∃Q:Int->gy,(∀c,Q c=Utf8.encode c)/\∀(c:Int) (w:gv),(convert 21 9 (.int .i32 c)).run prog w= .ok (gH (Q c)) w:=⟨_,λ_=>rfl,λc w=>run_convert_int_string w 21 9 .i32 c (by simp) underlying9⟩;have B:=fU a0;clear a0;have D:=(λc (H:0<=c) (I:c<=255)=>VL c w H I);have G:=(λn (H:0<=n) (I:n<=1114112)=>KL n w H I)
 by_cases P:Mb s=true
 .have e:uy s=oM 16 s 3:=by unfold uy;rw[gF P]
  have X:uz s=NX 16 s 3:=by unfold uz;rw[gF P]
  rw[e,X];clear e X;unfold Mb at P;have⟨O,F⟩:=of_decide_eq_true P;clear P;obtain⟨z,q⟩:∃x,x=oM 16 s 3:=⟨_,rfl⟩;obtain⟨A,y⟩:∃x,x=NX 16 s 3:=⟨_,rfl⟩;have u:A=if z=0 then ⟨#[]⟩else Utf8.encode (OH (wx 16 s 0 3)):=by rw[y,q,NX]
  rw[<-q,<-y];have j:=fU q;have m:=fU u;clear q y u;rcases F with F|F
  all_goals
   go_enter func243,ntmps243
   go_wp21
   go_loopw [6,7] (λnv V wr=>wr=w/\∃(k:Int) (i:Nat),nv=gn k/\V=gn i/\0<=k/\k<=1114112/\3<=i/\i<=s.size/\we 16 s i=we 16 s 3/\wx 16 s k i=wx 16 s 0 3) (λ_ V _=>s.size - (intOf V).toNat)
   case atStart=>grind
   case round=>
    obtain⟨rfl,k,i,rfl,rfl,J,K,a2,a3,Z,hv⟩:=hrel;have S:=fU Z;have U:=fU hv;clear Z hv
    by_cases f:i < s.size
    .have hb:=Y i f;have H:=bt_nonneg s i;have I:=bt_le s i;have r:=Dt (bt s i);have C:=D (bt s i) H I
     by_cases E:kY (bt s i)>=16
     .have e1:we 16 s i=i:=JO (by simpa using E);have e2:we 16 s 3=i:=by rw[<-S.out,e1]
      have p:wx 16 s 0 3=k:=by rw[<-U.out,Mg f E]
      by_cases t:i=3
      .have a:z=0:=by rw[j.out];unfold oM;rw[e2,gF t]
       have l:=fU a;have o:=fU (show A=⟨#[]⟩ by rw[m.out,gF a]);clear e1 e2 a p;subst t
       go_wp21
       refine C.mono ?_;rintro e w' ⟨rfl,rfl⟩;go_wp2;go_ret2;exact⟨qW o.symm l rfl,rfl⟩
      .have T:=G k J K
       by_cases N:bt s i=59
       have a:z=i+1:=by rw[j.out];unfold oM;rw[e2,gQ t,gF ⟨f,N⟩]
       have l:=fU a;have o:=fU (show A=Q (OH k) by rw[m.out,gQ (by omega),p,B.out]);rw[N]at C hb H I r E;rw[show kY 59=99 from by decide]at C;clear e1 e2 a p r E H I
       rotate_left
       have a:z=i:=by rw[j.out];unfold oM;rw[e2,gQ t,gQ (by omega)]
       have l:=fU a;have o:=fU (show A=Q (OH k) by rw[m.out,gQ (by omega),p,B.out]);clear e1 e2 a p
       all_goals
        go_wp21
        refine C.mono ?_;rintro e w' ⟨rfl,rfl⟩
        go_wp21
        refine T.mono ?_;rintro e w' ⟨rfl,rfl⟩;go_wp2;go_ret2;exact⟨qW o.symm l rfl,rfl⟩
     .have e1:we 16 s (i+1)=we 16 s 3:=by rw[<-S.out];exact(Oc f (by simpa using E)).symm
      have HU:wx 16 s (min (k*16+kY (bt s i)) 1114112) (i+1)=wx 16 s 0 3:=by rw[Uz f E,U.out]
      have l:=fU e1;clear e1;generalize kY (bt s i)=d at *
      go_wp21
      refine C.mono ?_;rintro e w' ⟨rfl,rfl⟩;go_wp2
      all_goals (refine⟨⟨trivial,min (k*16+d) 1114112,i+1,?_,by go_num,by omega,by omega,by omega,by omega,l,HU⟩,?_⟩;(first|rfl|(congr 1;omega));(simp[intOf];omega))
    .have e1:we 16 s i=i:=D9 (by omega);have e2:we 16 s 3=i:=by rw[<-S.out,e1]
     have p:wx 16 s 0 3=k:=by rw[<-U.out,Qm f]
     have T:=G k J K;have W:i=s.size:=by omega
     by_cases t:i=3
     .have a:z=0:=by rw[j.out];unfold oM;rw[e2,gF t]
      have l:=fU a;have o:=fU (show A=⟨#[]⟩ by rw[m.out,gF a]);clear e1 e2 a p W;subst t
      first
       |(exfalso;omega)
       |(go_wp2
         go_ret2;exact⟨qW o.symm l rfl,rfl⟩)
     .have a:z=i:=by rw[j.out];unfold oM;rw[e2,gQ t,gQ (by omega)]
      have l:=fU a;have o:=fU (show A=Q (OH k) by rw[m.out,gQ (by omega),p,B.out]);clear e1 e2 a p W
      go_wp21
      refine T.mono ?_;rintro e w' ⟨rfl,rfl⟩;go_wp2;go_ret2;exact⟨qW o.symm l rfl,rfl⟩
 .have e:uy s=oM 10 s 2:=by unfold uy;rw[gQ P]
  have X:uz s=NX 10 s 2:=by unfold uz;rw[gQ P]
  rw[e,X];clear e X;have O:¬(2 < s.size/\(bt s 2=120\/bt s 2=88)):=by unfold Mb at P;simpa using P
  clear P;obtain⟨z,q⟩:∃x,x=oM 10 s 2:=⟨_,rfl⟩;obtain⟨A,y⟩:∃x,x=NX 10 s 2:=⟨_,rfl⟩;have u:A=if z=0 then ⟨#[]⟩else Utf8.encode (OH (wx 10 s 0 2)):=by rw[y,q,NX]
  rw[<-q,<-y];have j:=fU q;have m:=fU u;clear q y u
  by_cases hz:2 < s.size
  .have F:¬bt s 2=120:=λh=>O ⟨hz,.inl h⟩;have a1:¬bt s 2=88:=λh=>O ⟨hz,.inr h⟩;have a5:(bt s 2==120)=false:=beq_eq_false_iff_ne.2 F;have a6:(bt s 2==88)=false:=beq_eq_false_iff_ne.2 a1;clear O F a1;go_enter func243,ntmps243
   go_wp21
   go_loopw [6,7] (λnv V wr=>wr=w/\∃(k:Int) (i:Nat),nv=gn k/\V=gn i/\0<=k/\k<=1114112/\2<=i/\i<=s.size/\we 10 s i=we 10 s 2/\wx 10 s k i=wx 10 s 0 2) (λ_ V _=>s.size - (intOf V).toNat)
   case atStart=>grind
   case round=>
    obtain⟨rfl,k,i,rfl,rfl,J,K,a2,a3,Z,hv⟩:=hrel;have S:=fU Z;have U:=fU hv;clear Z hv
    by_cases f:i < s.size
    .have hb:=Y i f;have H:=bt_nonneg s i;have I:=bt_le s i;have r:=Dt (bt s i);have C:=D (bt s i) H I
     by_cases E:kY (bt s i)>=10
     .have e1:we 10 s i=i:=JO (by simpa using E);have e2:we 10 s 2=i:=by rw[<-S.out,e1]
      have p:wx 10 s 0 2=k:=by rw[<-U.out,Mg f E]
      by_cases t:i=2
      .have a:z=0:=by rw[j.out];unfold oM;rw[e2,gF t]
       have l:=fU a;have o:=fU (show A=⟨#[]⟩ by rw[m.out,gF a]);clear e1 e2 a p;subst t
       go_wp21
       refine C.mono ?_;rintro e w' ⟨rfl,rfl⟩;go_wp2;go_ret2;exact⟨qW o.symm l rfl,rfl⟩
      .have T:=G k J K
       by_cases N:bt s i=59
       have a:z=i+1:=by rw[j.out];unfold oM;rw[e2,gQ t,gF ⟨f,N⟩]
       have l:=fU a;have o:=fU (show A=Q (OH k) by rw[m.out,gQ (by omega),p,B.out]);rw[N]at C hb H I r E;rw[show kY 59=99 from by decide]at C;clear e1 e2 a p r E H I
       rotate_left
       have a:z=i:=by rw[j.out];unfold oM;rw[e2,gQ t,gQ (by omega)]
       have l:=fU a;have o:=fU (show A=Q (OH k) by rw[m.out,gQ (by omega),p,B.out]);clear e1 e2 a p
       all_goals
        go_wp21
        refine C.mono ?_;rintro e w' ⟨rfl,rfl⟩
        go_wp21
        refine T.mono ?_;rintro e w' ⟨rfl,rfl⟩;go_wp2;go_ret2;exact⟨qW o.symm l rfl,rfl⟩
     .have e1:we 10 s (i+1)=we 10 s 2:=by rw[<-S.out];exact(Oc f (by simpa using E)).symm
      have HU:wx 10 s (min (k*10+kY (bt s i)) 1114112) (i+1)=wx 10 s 0 2:=by rw[Uz f E,U.out]
      have l:=fU e1;clear e1;generalize kY (bt s i)=d at *
      go_wp21
      refine C.mono ?_;rintro e w' ⟨rfl,rfl⟩;go_wp2
      all_goals (refine⟨⟨trivial,min (k*10+d) 1114112,i+1,?_,by go_num,by omega,by omega,by omega,by omega,l,HU⟩,?_⟩;(first|rfl|(congr 1;omega));(simp[intOf];omega))
    .have e1:we 10 s i=i:=D9 (by omega);have e2:we 10 s 2=i:=by rw[<-S.out,e1]
     have p:wx 10 s 0 2=k:=by rw[<-U.out,Qm f]
     have T:=G k J K;have W:i=s.size:=by omega
     by_cases t:i=2
     .have a:z=0:=by rw[j.out];unfold oM;rw[e2,gF t]
      have l:=fU a;have o:=fU (show A=⟨#[]⟩ by omega);clear e1 e2 a p W;subst t
      first
       |(exfalso;omega)
       |(go_wp2
         go_ret2;exact⟨qW o.symm l rfl,rfl⟩)
     .have a:z=i:=by rw[j.out];unfold oM;rw[e2,gQ t,gQ (by omega)]
      have l:=fU a;have o:=fU (show A=Q (OH k) by rw[m.out,gQ (by omega),p,B.out]);clear e1 e2 a p W
      go_wp21
      refine T.mono ?_;rintro e w' ⟨rfl,rfl⟩;go_wp2;go_ret2;exact⟨qW o.symm l rfl,rfl⟩
  .clear O;have n0:we 10 s 2=2:=D9 (by omega);have n1:z=0:=by rw[j.out];unfold oM;rw[gF n0]
   have n2:A=⟨#[]⟩:=by rw[m.out,gF n1]
   have W:s.size=2:=by omega
   have l:=fU n1;have o:=fU n2;clear n0 n1 n2;go_enter func243,ntmps243
   go_wp21
   refine vq 1 ?_;rw[oU];go_wp2;go_ret2;exact⟨qW o.symm l rfl,rfl⟩
def quoted (R:RC) (q:gy) (ps:Nat):Nat:=taken R q (scan (jr q) R.cs (ps+1))
def sn (R:RC) (ps:Nat):Nat:=
 if pre (R.cs.extract ps R.cs.size) tD=true then quoted R tD ps else if pre (R.cs.extract ps R.cs.size) sL=true then quoted R sL ps else scan (jr mh) R.cs ps
def Mn {q : gy} (h:ps < R.cs.size):quoted R q ps<=R.cs.size:=Rq (pz (by omega))
def Mm {q : gy}:ps<=quoted R q ps:=jP (by omega) (jP (td (i:=ps+1)) Rp)
def N3 {p : gy} (h:pre (s.extract ps s.size) p=true) (a:ps<=s.size) (c:0 < p.size):ps < s.size:=by
 have:=ly h a;omega
def WJ (h:ps<=R.cs.size):sn R ps<=R.cs.size:=by
 unfold sn;split
 .rename_i a;exact Mn (N3 a h (by decide))
 .split
  .rename_i a;exact Mn (N3 a h (by decide))
  .exact pz h
def WH:ps<=sn R ps:=by
 unfold sn;split
 .exact Mm
 .split
  .exact Mm
  .exact td
def mP (R:RC) (ps:Nat):gy:=
 if pre (R.cs.extract ps R.cs.size) tD=true then R.cs.extract (ps+1) (scan (jr tD) R.cs (ps+1))else if pre (R.cs.extract ps R.cs.size) sL=true then R.cs.extract (ps+1) (scan (jr sL) R.cs (ps+1))else R.cs.extract ps (scan (jr mh) R.cs ps)
def Cq:(mP R ps).size<=R.cs.size:=by
 unfold mP;repeat' split
 all_goals (simp;omega)
def JA (r:Nat) (R:RC) (bg ps:Nat) (q:gy) (u:q.size=1) (w w1:gv) (t:Kept [r] w w1) (h:Rd w1 r R bg (ps+1)) (l:ps+1<=R.cs.size) (m:R.cs.size<=1024):
  Calls prog 239 #[gJ r,.func (.func 241) #[] #[gJ w1.heap.size]] (w1.alloc (.cells #[gH q] 9))
   λe j=>e=iq (gH (R.cs.extract (ps+1) (scan (jr q) R.cs (ps+1))))/\
    Calls prog 72 #[gJ r,gH q] j λe k=>(∃b,e=iq (.bool b))/\Kept [r] w k/\Rd k r R bg (quoted R q ps):=by
 refine(zp r R bg (ps+1) q w1 h l m).mono ?_;rintro e j ⟨o,a,d⟩;refine⟨o,?_⟩;refine(lA r R bg _ q j d (pz l) m (by omega)).mono ?_;rintro e k ⟨p,c,f⟩;exact⟨⟨_,p⟩,(t.trans a).trans c,f⟩
theorem N9 (r:Nat) (R:RC) (bg ps:Nat) (w:gv) (h:Rd w r R bg ps) (E:ps<=R.cs.size) (F:R.cs.size<=1024):
  Calls prog 349 #[gJ r] w λe w'=>e=iq (gH (mP R ps))/\Kept [r] w w'/\Rd w' r R bg (sn R ps):=by
 have hr:=jk h;obtain⟨x,j⟩:∃x,x=w.alloc (.cells #[gH tD,gH sL] 9):=⟨_,rfl⟩;have H:Kept [] w x:=by rw[j];exact(Kept.refl _ _).alloc _
 have I:x.heap[w.heap.size]?=some (gI #[gH tD,gH sL] 9):=by rw[j];exact fY w _
 have X:Rd x r R bg ps:=H.at h (by simp);have Z:w.heap.size < x.heap.size:=jk I;have Q:=fU j.symm;clear j;have A:=lA r R bg ps tD x X E F (by decide);have B:=(λw' (h:Rd w' r R bg ps)=>lA r R bg ps sL w' h E F (by decide));have c0:=fW I 0;dsimp at c0;have T:=fU I;have W:=fU Z;clear h I Z X;cases h1:pre (R.cs.extract ps R.cs.size) tD
 .have z:taken R tD ps=ps:=by unfold taken;rw[gQ (by simp[h1])]
  rw[h1,z]at A;cases h2:pre (R.cs.extract ps R.cs.size) sL
  .have G:taken R sL ps=ps:=by unfold taken;rw[gQ (by simp[h2])]
   rw[h2,G]at B;have k:sn R ps=scan (jr mh) R.cs ps:=by unfold sn;rw[gQ (by simp[h1]),gQ (by simp[h2])]
   have U:=(λw' (h:Rd w' r R bg ps)=>zp r R bg ps mh w' h E F);rw[<-k]at U;have l:mP R ps=R.cs.extract ps (sn R ps):=by unfold mP;rw[gQ (by simp[h1]),gQ (by simp[h2]),k]
   rw[l];clear h1 h2 z G k l;generalize sn R ps=m at *;go_enter func349,ntmps349
   go_wp21
   refine vq 3 ?_;rw[oU,Q.out]
   go_wp21
   refine A.mono ?_;rintro e f ⟨rfl,c,q⟩;have c1:f.cell? ⟨w.heap.size,1,none⟩=some (gH sL):=by rw[c.cell (p:=⟨w.heap.size,1,none⟩) W.out (by simp;omega),fW T.out];rfl
   have o:=(H.mono (S':=[r]) (by simp)).trans c;clear c
   go_wp21
   rw[oU]
   go_wp21
   refine(B _ q).mono ?_;rintro e y ⟨rfl,a,N⟩;have J:=o.trans a;clear a
   go_wp21
   rw[oU]
   go_wp21
   refine(oN _ y).mono ?_;rintro e w' ⟨rfl,rfl⟩
   go_wp21
   refine(U _ N).mono ?_;rintro e Y ⟨rfl,D,a1⟩;have a0:=J.trans D;clear D;go_wp2;go_ret
   simp_all
  .have G:taken R sL ps=ps+1:=by unfold taken;rw[gF h2];rfl
   rw[h2,G]at B;have k:sn R ps=quoted R sL ps:=by unfold sn;rw[gQ (by simp[h1]),gF h2]
   have l:mP R ps=R.cs.extract (ps+1) (scan (jr sL) R.cs (ps+1)):=by unfold mP;rw[gQ (by simp[h1]),gF h2]
   rw[k,l];have u:=N3 h2 E (by decide);clear h1 h2 z G k l;have U:=(λf (S:Kept [r] w f) (h:Rd f r R bg (ps+1))=>JA r R bg ps sL rfl w f S h u F);generalize R.cs.extract (ps+1) (scan (jr sL) R.cs (ps+1))=t at *;generalize quoted R sL ps=m at *;go_enter func349,ntmps349
   go_wp21
   refine vq 3 ?_;rw[oU,Q.out]
   go_wp21
   refine A.mono ?_;rintro e f ⟨rfl,c,q⟩;have c1:f.cell? ⟨w.heap.size,1,none⟩=some (gH sL):=by rw[c.cell (p:=⟨w.heap.size,1,none⟩) W.out (by simp;omega),fW T.out];rfl
   have o:=(H.mono (S':=[r]) (by simp)).trans c;clear c
   go_wp21
   rw[oU]
   go_wp21
   refine(B _ q).mono ?_;rintro e y ⟨rfl,a,d⟩;have V:=U y (o.trans a) d;clear a d
   go_wp21
   refine(oN _ y).mono ?_;rintro e w' ⟨rfl,rfl⟩
   go_wp21
   refine V.mono ?_;rintro e Y ⟨rfl,P⟩
   go_wp21
   refine P.mono ?_;rintro e w4 ⟨⟨b,rfl⟩,K,O⟩;go_wp2;go_ret
   simp_all
 .have z:taken R tD ps=ps+1:=by unfold taken;rw[gF h1];rfl
  rw[h1,z]at A;have k:sn R ps=quoted R tD ps:=by unfold sn;rw[gF h1]
  have l:mP R ps=R.cs.extract (ps+1) (scan (jr tD) R.cs (ps+1)):=by unfold mP;rw[gF h1]
  rw[k,l];have u:=N3 h1 E (by decide);clear h1 z k l B;have U:=(λf (S:Kept [r] w f) (h:Rd f r R bg (ps+1))=>JA r R bg ps tD rfl w f S h u F);generalize R.cs.extract (ps+1) (scan (jr tD) R.cs (ps+1))=t at *;generalize quoted R tD ps=m at *;go_enter func349,ntmps349
  go_wp21
  refine vq 3 ?_;rw[oU,Q.out]
  go_wp21
  refine A.mono ?_;rintro e y ⟨rfl,a,d⟩;have V:=U y ((H.mono (S':=[r]) (by simp)).trans a) d;clear a d
  go_wp21
  refine(oN _ y).mono ?_;rintro e w' ⟨rfl,rfl⟩
  go_wp21
  refine V.mono ?_;rintro e Y ⟨rfl,P⟩
  go_wp21
  refine P.mono ?_;rintro e w4 ⟨⟨b,rfl⟩,K,O⟩;go_wp2;go_ret
  simp_all
def PJ (s:gy):Bool:=decide (0 < s.size)&&(decide (bt s 0=61)||decide (97<=bt s 0/\bt s 0<=122\/65<=bt s 0/\bt s 0<=90)||decide (48<=bt s 0/\bt s 0<=57))
theorem SB (s:gy) (w:gv):
  Calls prog 297 #[gH s] w λe w'=>e=iq (.bool (PJ s))/\w'=w:=by
 have c:=get_bt s
 by_cases k:0 < s.size
 .have d:=bt_nonneg s 0;have f:=bt_le s 0;have q:=c 0 k;have j:s.toList.isEmpty=false:=by
   rw[sJ];cases h:s.data.toList with
   |nil=>
    exfalso;have e1:s.data.toList.length=0:=by rw[h];rfl
    rw[Array.length_toList]at e1;have e2:s.data.size=s.size:=rfl;omega
   |cons=>rfl
  have o:¬s.toList=[]:=by intro h;rw[h]at j;cases j
  have L:=Je (bt s 0) w d f;have D:=Ie (bt s 0) w d f;have m:PJ s=(decide (bt s 0=61)||decide (97<=bt s 0/\bt s 0<=122\/65<=bt s 0/\bt s 0<=90)||decide (48<=bt s 0/\bt s 0<=57)):=by unfold PJ;simp[k]
  rw[m]
  by_cases a:bt s 0=61
  .rw[show decide (bt s 0=61)=true from by simp[a]];go_enter func297,ntmps297;go_wp2;go_ret;simp
  .rw[show decide (bt s 0=61)=false from by simp[a]];have p:(bt s 0==61)=false:=beq_eq_false_iff_ne.2 a;cases hl:decide (97<=bt s 0/\bt s 0<=122\/65<=bt s 0/\bt s 0<=90)
   .rw[hl]at L;cases hd:decide (48<=bt s 0/\bt s 0<=57)
    all_goals
     rw[hd]at D;go_enter func297,ntmps297
     go_wp21
     refine L.mono ?_;rintro e w' ⟨rfl,rfl⟩
     go_wp21
     refine D.mono ?_;rintro e w' ⟨rfl,rfl⟩;go_wp2;go_ret;simp
   .rw[hl]at L;go_enter func297,ntmps297
    go_wp21
    refine L.mono ?_;rintro e w' ⟨rfl,rfl⟩;go_wp2;go_ret;simp
 .have l:s=⟨#[]⟩:=Kv (Array.eq_empty_of_size_eq_zero (by simp_all));subst l;go_enter func297,ntmps297;go_wp2;go_ret;exact⟨rfl,rfl⟩
def tV (look:gy->Option gy) (s:gy) (inV:Bool):Nat->Nat
 |0=>0
 |k+1=>if (look (s.extract 1 (1+(k+1)))).isSome=true then (if (inV&&decide (bt s (k+1)≠59)&&PJ (s.extract (1+(k+1)) s.size))=true then 0 else 1+(k+1))else tV look s inV k
theorem Wq {k : Nat}:tV look s inV k<=k+1:=by
 induction k with
 |zero=>simp[tV]
 |succ k ih=>
  grind[tV]
def vj (look:gy->Option gy) (s:gy) (inV:Bool):Nat->gy
 |0=>⟨#[]⟩
 |k+1=>if (look (s.extract 1 (1+(k+1)))).isSome=true then (if (inV&&decide (bt s (k+1)≠59)&&PJ (s.extract (1+(k+1)) s.size))=true then ⟨#[]⟩else (look (s.extract 1 (1+(k+1)))).getD ⟨#[]⟩)else vj look s inV k
theorem NT {k : Nat} (h:∀x t,look x=some t->t.size<=16):(vj look s inV k).size<=16:=by
 induction k with
 |zero=>exact iO _
 |succ k ih=>
  unfold vj;split
  .split
   .exact iO _
   .rename_i a _;have⟨t,ht⟩:=Option.isSome_iff_exists.1 a
    grind
  omega
def QK (b lg:Nat) (look:gy->Option gy) (s:gy) (inV:Bool) (w:gv) (V:Lk w b look) (a1:lg<=1048576) (hs:s.size<=1048576) (h1:1<=s.size):
  Calls prog 244 #[.agg #[.map (some b),gn lg],gH s,.bool inV] w λe w'=>e=iq (.tuple #[gH (vj look s inV (min lg (s.size - 1))),gn (tV look s inV (min lg (s.size - 1)))])/\Kept [] w w':=by
 have Q:=get_bt s;have Y:=V;clear V;obtain⟨E,u⟩:∃E,E=min lg (s.size - 1):=⟨_,rfl⟩;have W:min (lg:Int) ((s.size:Int) - 1)=(E:Int):=by rw[u];omega
 have I:E<=s.size - 1:=by rw[u];exact Nat.min_le_right ..
 rw[<-u];clear u;obtain⟨m,T⟩:∃m,m=tV look s inV E:=⟨_,rfl⟩;rw[<-T];obtain⟨p,U⟩:∃p,p=vj look s inV E:=⟨_,rfl⟩;rw[<-U];have S:∀wr,Kept [w.heap.size] (w.alloc (.cells #[.map (some b),gn lg] 129)) wr->True:=λ_ _=>trivial;clear S;go_enter func244,ntmps244
 go_wp21
 go_loopw [8] (λv wr=>∃k:Nat,v=gn k/\k<=s.size - 1/\tV look s inV k=m/\vj look s inV k=p/\Kept [] (w.alloc (.cells #[.map (some b),gn lg] 129)) wr) (λv _=>(intOf v).toNat)
 case atStart=>exact⟨E,by rfl,I,T.symm,U.symm,Kept.refl _ _⟩
 case round=>
  obtain⟨k,rfl,hk,J,K,f⟩:=hrel;have O:=fU J;have B:=fU K;have D:=fY w (.cells #[.map (some b),gn lg] 129);have Z:=fW (f.at D (by simp)) 0;dsimp at Z;have a2:w.heap.size < wr.heap.size:=jk (f.at D (by simp));have l:Hid (Lk wr b look):=(Y.kept ((Kept.refl [] w).alloc _) (by simp)).kept f (by simp);clear J K D;cases k with
  |zero=>
   have y:m=0:=O.symm;have z:=(show p=⟨#[]⟩from B.symm);go_wp2;go_ret2;exact⟨qW z.symm y rfl,((Kept.refl [] w).alloc _).trans f⟩
  |succ j=>
   have H:=l.lt;have x:=l.run (s.extract 1 (1+(j+1))) wr rfl;have d:=l.run (s.extract 1 (1+(j+1))) wr.drew rfl;have c:=λo=>l.run (s.extract 1 (1+(j+1))) (wr.alloc o) (Below.heap_alloc wr o b H);have a:=λo=>l.run (s.extract 1 (1+(j+1))) (wr.alloc o).drew (Below.heap_alloc wr o b H);cases hlo:look (s.extract 1 (1+(j+1)))with
   |none=>
    rw[hlo]at x d;simp only[hlo]at c a;have P:tV look s inV j=m:=by rw[<-O.out,tV,gQ (by simp[hlo])]
    have F:=(show vj look s inV j=p by rw[<-B.out,vj,gQ (by simp[hlo])]);clear hlo;simp only[Option.getD_none,Option.isSome_none]at x d c a
    go_wp21
    go_region
    all_goals (try go_wp2)
    exact⟨⟨j,rfl,by omega,P,F,(f.alloc _).drew⟩,by simp[intOf]⟩
   |some t=>
    rw[hlo]at x d;simp only[hlo]at c a;have N:Hid (m=if (inV&&decide (bt s (j+1)≠59)&&PJ (s.extract (1+(j+1)) s.size))=true then 0 else 1+(j+1)):=by
     rw[<-O.out,tV,gF (by simp[hlo])];exact rfl
    have q:Hid (p=if (inV&&decide (bt s (j+1)≠59)&&PJ (s.extract (1+(j+1)) s.size))=true then ⟨#[]⟩else t):=by
     rw[<-B.out,vj,gF (by simp[hlo]),hlo];exact rfl
    clear hlo;simp only[Option.getD_some,Option.isSome_some]at x d c a;have A:Hid (Kept [] w (wr.alloc (.cells #[gH t] 185)).drew):=(((Kept.refl [] w).alloc _).trans (f.alloc _)).drew;have hj:j+1 < s.size:=by omega
    have a0:=Q (j+1) hj;cases inV
    .have y:m=1+(j+1):=by rw[N.out];simp
     have z:=(show p=t by rw[q.out];simp)
     go_wp21
     go_region
     all_goals (try go_wp2)
     all_goals (try go_ret2)
     all_goals exact⟨qW z.symm y rfl,A⟩
    .by_cases h:bt s (j+1)=59
     .have y:m=1+(j+1):=by rw[N.out];simp[h]
      have z:=(show p=t by rw[q.out];simp[h])
      go_wp21
      go_region
      all_goals (try go_wp2)
      all_goals (try go_ret2)
      all_goals exact⟨qW z.symm y rfl,A⟩
     .have X:(bt s (j+1) != 59)=true:=by rw[bne_iff_ne];exact h
      have G:=SB (s.extract (1+(j+1)) s.size) (wr.alloc (.cells #[gH t] 185)).drew;cases hg:PJ (s.extract (1+(j+1)) s.size);have y:m=1+(j+1):=by rw[N.out];simp[hg]
      have z:=(show p=t by rw[q.out];simp[hg])
      rotate_left
      have y:m=0:=by rw[N.out];simp[hg,h]
      have z:=(show p=⟨#[]⟩ by rw[q.out];simp[hg,h])
      all_goals
       rw[hg]at G;clear hg h
       go_wp21
       go_region
       all_goals (try (go_wp21))
       all_goals (refine G.mono ?_;rintro e w' ⟨rfl,rfl⟩)
       all_goals (try go_wp2)
       all_goals (try go_ret2)
       all_goals exact⟨qW z.symm y rfl,A⟩
def lQ (look:gy->Option gy) (lg:Nat) (s:gy) (inV:Bool):Nat:=
 if pre s ⟨#[38,35]⟩=true then uy s else if pre s BQ=true then tV look s inV (min lg (s.size - 1))else 0
def Cs:lQ look lg s inV<=s.size:=by
 unfold lQ;split
 .rename_i h;exact SS (EZ h)
 .split
  .rename_i h;have a:1<=s.size:=EZ h;have c:=Wq (look:=look) (s:=s) (inV:=inV) (k:=min lg (s.size - 1));omega
  simp
def og (look:gy->Option gy) (lg:Nat) (s:gy) (inV:Bool):gy:=
 if pre s ⟨#[38,35]⟩=true then uz s else if pre s BQ=true then vj look s inV (min lg (s.size - 1))else ⟨#[]⟩
def xD (h:∀x t,look x=some t->t.size<=16):(og look lg s inV).size<=16:=by
 unfold og;split
 .exact Lg s
 .split
  .exact NT h
  .exact iO _
def QL (b lg:Nat) (look:gy->Option gy) (s:gy) (inV:Bool) (w:gv) (B:Lk w b look) (u:lg<=1048576) (l:s.size<=1048576):
  Calls prog 152 #[.agg #[.map (some b),gn lg],gH s,.bool inV] w λe w'=>e=iq (.tuple #[gH (og look lg s inV),gn (lQ look lg s inV)])/\Kept [] w w':=by
 obtain⟨c,a⟩:∃c,c=w.alloc (.cells #[.map (some b),gn lg] 129):=⟨_,rfl⟩;have h:c.heap[w.heap.size]?=some (gI #[.map (some b),gn lg] 129):=by rw[a];exact fY w _
 have j:Kept [] w c:=by rw[a];exact(Kept.refl _ _).alloc _
 have z:=fW h 0;have A:=fW h 1;dsimp at z A;have p:=fU a.symm;have y:=B.kept j (by simp);have d:=ur s ⟨#[38,35]⟩ c l (by decide);have k:=ur s BQ c l (by decide);clear a;cases h1:pre s ⟨#[38,35]⟩
 .rw[h1]at d;cases h2:pre s BQ
  .rw[h2]at k;have e:lQ look lg s inV=0:=by unfold lQ;rw[gQ (by simp[h1]),gQ (by simp[h2])]
   have f:og look lg s inV=⟨#[]⟩:=by unfold og;rw[gQ (by simp[h1]),gQ (by simp[h2])]
   rw[e,f];go_enter func152,ntmps152
   go_wp21
   rw[p.out];refine d.mono ?_;rintro e w' ⟨rfl,rfl⟩
   go_wp21
   refine k.mono ?_;rintro e w' ⟨rfl,rfl⟩;go_wp2;go_ret2;exact⟨rfl,j⟩
  .rw[h2]at k;have x:1<=s.size:=EZ h2;have e:lQ look lg s inV=tV look s inV (min lg (s.size - 1)):=by unfold lQ;rw[gQ (by simp[h1]),gF h2]
   have f:og look lg s inV=vj look s inV (min lg (s.size - 1)):=by unfold og;rw[gQ (by simp[h1]),gF h2]
   rw[e,f];have C:=QK b lg look s inV c y u l x;generalize tV look s inV (min lg (s.size - 1))=m at *;generalize vj look s inV (min lg (s.size - 1))=t at *;go_enter func152,ntmps152
   go_wp21
   rw[p.out];refine d.mono ?_;rintro e w' ⟨rfl,rfl⟩
   go_wp21
   refine k.mono ?_;rintro e w' ⟨rfl,rfl⟩
   go_wp21
   refine C.mono ?_;rintro e D ⟨rfl,q⟩;have o:=j.trans q;go_wp2;go_ret2;exact⟨rfl,o⟩
 .rw[h1]at d;have x:2<=s.size:=EZ h1;have e:lQ look lg s inV=uy s:=by unfold lQ;rw[gF h1]
  have f:og look lg s inV=uz s:=by unfold og;rw[gF h1]
  rw[e,f];have C:=JB s c l x;generalize uy s=m at *;generalize uz s=t at *;go_enter func152,ntmps152
  go_wp21
  rw[p.out];refine d.mono ?_;rintro e w' ⟨rfl,rfl⟩
  go_wp21
  refine C.mono ?_;rintro e D ⟨rfl,rfl⟩;go_wp2;go_ret2;exact⟨rfl,j⟩
def pH (look:gy->Option gy) (lg:Nat) (s:gy):Nat:=if lQ look lg s false=0 then 1 else lQ look lg s false
theorem Dp:0 < pH look lg s:=by grind[pH]
def FP (h:0 < s.size):pH look lg s<=s.size:=by
 unfold pH;split
 .omega
 .exact Cs
def rK (look:gy->Option gy) (lg:Nat) (s:gy):gy:=if lQ look lg s false=0 then s.extract 0 1 else og look lg s false
structure Xu (w:gv) (g n:Nat) (A:Nat->gy×gy):Prop where
 lt:0 < n->g < w.heap.size
 nm:∀i,i < n->w.cell? ⟨g,i*2,none⟩=some (gH (A i).1)
 vl:∀i,i < n->w.cell? ⟨g,i*2+1,none⟩=some (gH (A i).2)
def Xu.kept {A : Nat->gy×gy} {S : List Nat} (h:Xu w g n A) (c:Kept S w w') (d:g∉S):Xu w' g n A:=
 ⟨λe=>lV (h.lt e) c.size,λi a=>(c.cell (p:=⟨g,i*2,none⟩) (h.lt (by omega)) d).trans (h.nm i a),λi a=>(c.cell (p:=⟨g,i*2+1,none⟩) (h.lt (by omega)) d).trans (h.vl i a)⟩
def nW (A:Nat->gy×gy) (n:Nat) (s:gy) (i:Nat):Bool:=if i < n then (if ((A i).1.toList==s.toList)=true then true else nW A n s (i+1))else false
  termination_by n - i
def aaY (x y:Int) (nm s:gy) (g n cap:Nat) (A:Nat->gy×gy) (w:gv) (z:Xu w g n A) (F:n<=1048576):
  Calls prog 320 #[.agg #[gn x,gn y,gH nm,oY g n cap],gH s] w λe w'=>e=iq (.bool (nW A n s 0))/\Kept [] w w':=by
 obtain⟨m,p⟩:∃m,m=nW A n s 0:=⟨_,rfl⟩;rw[<-p];have t:=z;go_enter func320,ntmps320
 go_wp21
 go_loopw [10] (λv wr=>∃k:Nat,v=gn k/\k<=n/\nW A n s k=m/\Kept [] w wr) (λv _=>n - (intOf v).toNat)
 case atStart=>exact⟨0,rfl,iO _,p.symm,(Kept.refl _ _).alloc _⟩
 case round=>
  obtain⟨k,rfl,E,o,h⟩:=hrel;have j:=fU o;have d:=h
  by_cases a:k < n
  .have q:=t.kept h (by simp);have B:=q.nm k a;have D:=q.vl k a;clear o;cases he:((A k).1.toList==s.toList)
   .have e:nW A n s (k+1)=m:=by rw[<-j.out,nW.eq_1 A n s k,gF a,gQ (by simp[he])]
    have f:=fU e;have l:¬(A k).1.toList=s.toList:=by simpa using he
    clear e;have c:=d.alloc (.cells #[gH (A k).1,gH (A k).2] 275);generalize (A k).1=u at *;generalize (A k).2=v at *;go_wp2;go_roundw
    case rel=>exact⟨k+1,by go_num,by omega,f,c⟩
    case measure=>simp[intOf];omega
   .have e:m=true:=by rw[<-j.out,nW.eq_1 A n s k,gF a,gF he]
    have f:=fU e;have l:(A k).1.toList=s.toList:=by simpa using he
    clear e;have c:=d.alloc (.cells #[gH (A k).1,gH (A k).2] 275);generalize (A k).1=u at *;generalize (A k).2=v at *;go_wp2;go_ret;exact⟨by rw[f.out];rfl,c⟩
  .have e:m=false:=by rw[<-j.out,nW.eq_1 A n s k,gQ a]
   have f:=fU e;clear e o;go_wp2;go_ret;exact⟨by rw[f.out];rfl,d⟩
theorem O2:(∃j,prog.info? 307=some j/\j.size≠0):=by
 have h:((prog.info? 307).map λi=>i.size)=some 2:=by kernel_rfl
 have⟨j,hj,h2⟩:=Option.map_eq_some_iff.1 h
 grind
def M6:liesAt prog prog.depth 307 (2 / prog.cellsOf 307) 0 307 1=true:=by kernel_rfl
theorem KO (B b:Nat) (bs:List gO) (w:gv) (h:Lib.IsBuilder 307 5 B b bs w):
  Calls prog 344 #[gJ b] w λe w'=>e=p8/\Lib.BuilderAt 307 5 B b (gJ b) bs w'/\Below B w w':=by
 obtain⟨j,a,c⟩:=O2;rcases h with h|h
 .have k:=h.cell0;have o:=h.frozen0;have d:=h.used (gJ b);have f:=(Below.refl B w).setCell (p:=⟨b,0,none⟩) h.1 (gJ b);have m:=d.cell0;have t:=Lib.run_to_unsafe (P:=prog) w (src:=305) (dst:=74) ⟨b,0,none⟩ underlying305 underlying74 a c h.shape (show 0 < 2 by decide);have q:=Lib.run_from_unsafe (P:=prog) w (src:=74) (dst:=305) ⟨b,0,none⟩ underlying74 underlying305 a h.shape M6;have l:=Lib.run_neq_ptr_same (P:=prog) (w.setCell ⟨b,0,none⟩ (gJ b)) (tp:=305) ⟨b,0,none⟩ underlying305 a;go_enter func344,ntmps344;go_wp2;rw[run_callFunc_extern func362 (by rfl) (by rfl) rfl (e:=Extern.AbiNoEscape.same) rfl];rw[Lib.run_noEscape];simp only[Result.andThen];rw[Oper.upon_value];go_wp2;go_end0
  grind
 .have k:=h.cell0;have d:=h;have f:=Below.refl B w;have l:=Lib.run_neq_ptr_same (P:=prog) w (tp:=305) ⟨b,0,none⟩ underlying305 a;go_enter func344,ntmps344;go_wp2;go_end0
  grind
theorem zJ (B b:Nat) (bs:List gO) (s:gy) (w:gv) (h:Lib.IsBuilder 307 5 B b bs w) (o:bs.length+s.size<=1048576) (G:B<=w.heap.size):
  Calls prog 316 #[gJ b,gH s] w λe w'=>e=iq (.tuple #[gn s.size,.nilIface])/\(Lib.BuilderAt 307 5 B b (gJ b) (bs++Lib.strCells s) w'/\Below B w w'):=by
 have⟨i0,hi,hz0,hz1,hz2⟩:=tz NA;have y:=h;go_enter func316,ntmps316
 go_wp21
 refine(KO B b bs _ y).mono ?_;rintro e I ⟨rfl,F,f⟩;have⟨hB,v,hbk,hown,hne⟩:=F;have z:=fW hbk 0;have A:=fW hbk 1;dsimp at z A;go_wp2_with (at_builtin;refine Lib.wpList_append_own_string _ rfl _ _ 50 9 rfl B 5 i0 underlying50 underlying9 hi hz0 hz1 hz2 _ _ _ rfl hown s rfl ?c3 ?c4 ?c5 ?_)
 case c3=>unfold maxLen;omega
 case c4=>omega
 case c5=>grind
 intro t u c a _;have j:b < I.heap.size:=jk hbk;have d:u.heap[b]?=some (gI #[gJ b,v] 307):=by
  rw[a.block b j (λe=>hne e.symm)];exact hbk
 have E:=fW d 1;dsimp at E;have K:u.frozen? ⟨b,1,none⟩=false:=gE d 1;have J:=Lib.BuilderAt.put (T:=307) (e:=5) hB d (bs':=bs++Lib.strCells s) (by simpa [Lib.strCells_length]using c) (by decide);have x:=(f.grown a (by omega) (λk H=>(hown.lt k H).1)).setCell (p:=⟨b,1,none⟩) hB t;obtain⟨m,q,cap,l⟩:∃m q cap,t= .slice m q cap:=by
  rcases c.2 with⟨l,_⟩|⟨g,cap,D,l,_⟩
  all_goals grind
 subst l;go_wp2;go_ret2
 simp_all
theorem Zb {t : gy} (h:¬t.size=0):t.toList.isEmpty=false:=by
 rw[sJ];cases hh:t.data.toList with
 |nil=>exact absurd (show t.data.size=0 by simp_all) h
 |cons=>rfl
def Oo:gO->Nat
 | .string t=>t.size
 |_=>0
def I6 {T e B : Nat} {bs : List gO} (h:Lib.IsBuilder T e B b bs w) (a:Kept [] w w'):Lib.IsBuilder T e B b bs w':=by
 rcases h with⟨c,v,d,f,j⟩|⟨c,v,d,f,j⟩
 .exact .inl ⟨c,v,a.at d (by simp),a.ownsRow f (λ_ _=>by simp),j⟩
 .exact .inr ⟨c,v,a.at d (by simp),a.ownsRow f (λ_ _=>by simp),j⟩
def AC (l:List UInt8) (t:gy):Lib.byteCells l++Lib.strCells t=Lib.byteCells (l++t.data.toList):=by
 unfold Lib.byteCells Lib.strCells;simp
def vk (look:gy->Option gy) (lg:Nat) (s:gy):List UInt8:=
 if s.size=0 then []else if lQ look lg s true=0 then (s.extract 0 1).data.toList++vk look lg (s.extract 1 s.size)else (og look lg s true).data.toList++vk look lg (s.extract (lQ look lg s true) s.size)
  termination_by s.size
  decreasing_by all_goals (simp;omega)
def AK (h:∀x t,look x=some t->t.size<=16) (s:gy):(vk look lg s).length<=16*s.size:=by
 rw[vk];split
 .simp
 .split
  .have:=AK h (s.extract 1 s.size);simp at this|-;omega
  .have:=AK h (s.extract (lQ look lg s true) s.size);have a:=xD (lg:=lg) (s:=s) (inV:=true) h;have e:(og look lg s true).data.size=(og look lg s true).size:=rfl;simp[e]at this|-;omega
  termination_by s.size
  decreasing_by all_goals (simp;omega)
def Rx (b lg:Nat) (look:gy->Option gy) (s:gy) (w:gv) (hL:Lk w b look) (J:lg<=1048576) (hs:s.size<=1024):
  Calls prog 348 #[.agg #[.map (some b),gn lg],gH s] w λe w'=>e=iq (gH ⟨(vk look lg s).toArray⟩)/\Kept [] w w':=by
 obtain⟨a,f⟩:∃a,a=w.alloc (.cells #[.map (some b),gn lg] 129):=⟨_,rfl⟩;have y:a.heap[w.heap.size]?=some (gI #[.map (some b),gn lg] 129):=by rw[f];exact fY w _
 have Q:Kept [] w a:=by rw[f];exact(Kept.refl _ _).alloc _
 have V:a.heap.size=w.heap.size+1:=by rw[f];simp
 have T:=hL.kept Q (by simp);have Z:=fU f.symm;have p:=fU y;have G:=fU V;clear f y V;go_enter func348,ntmps348
 go_wp21
 rw[Z.out];have Y:=Lib.fresh_isBuilder 307 5 a;have D:=((Below.refl a.heap.size a).alloc (ig _) (.cells #[.pointer none,jX] 307));have ez:w.heap.size+1=a.heap.size:=G.symm
 try rw[ez]
 go_loopw [1] (λv wr=>∃(t:gy) (l:List UInt8),v=gH t/\t.size<=s.size/\l.length+16*t.size<=16*s.size/\l++vk look lg t=vk look lg s/\Lib.IsBuilder 307 5 a.heap.size a.heap.size (Lib.byteCells l) wr/\Below a.heap.size a wr) (λv _=>Oo v)
 case atStart=>exact⟨s,[],rfl,ig _,by simp,rfl,Y,D⟩
 case round=>
  obtain⟨t,l,rfl,ht,hl,B,P,j⟩:=hrel;have k:=fU B;have c0:=fW ((Kept.Ba j).at p.out (by simp)) 0;have c1:=fW ((Kept.Ba j).at p.out (by simp)) 1;dsimp at c0 c1;clear B
  by_cases H:t.size=0
  .have e0:t=⟨#[]⟩:=by
    apply Kv;exact Array.eq_empty_of_size_eq_zero H
   subst e0;have X:=fU (show l=vk look lg s by rw[<-k.out,vk,gF (show kI.size=0 from rfl),U2]);have S:=Tryz.Builder_String_any a.heap.size a.heap.size l wr P j.size
   go_wp21
   refine S.mono ?_;rintro e N ⟨rfl,I⟩;have E:=Q.trans (Kept.Ba (j.trans I));go_wp2;go_ret;exact⟨by rw[<-X.out];rfl,E⟩
  .have a1:t.toList.isEmpty=false:=Zb H;have C:=QL b lg look t true wr (T.kept (Kept.Ba j) (by simp)) J (by omega);have a2:=Cs (look:=look) (lg:=lg) (s:=t) (inV:=true)
   go_wp21
   refine C.mono ?_;rintro e N ⟨rfl,z⟩;have U:=xD (lg:=lg) (s:=t) (inV:=true) T.short;have A:vk look lg t=if lQ look lg t true=0 then (t.extract 0 1).data.toList++vk look lg (t.extract 1 t.size)else (og look lg t true).data.toList++vk look lg (t.extract (lQ look lg t true) t.size):=by rw[vk,gQ H]
   have u:=fU A;clear A;generalize og look lg t true=x at *;have q:=I6 P z;have h:=j.trans (z.below j.size (by simp));generalize lQ look lg t true=n at *
   by_cases K:n=0
   .have m:=(show(l++(t.extract 0 1).data.toList)++vk look lg (t.extract 1 t.size)=vk look lg s by rw[<-k.out,u.out,gF K,xq]);subst K;have W:=zJ a.heap.size a.heap.size (Lib.byteCells l) (t.extract 0 1) N q (by simp[Lib.byteCells];omega) h.size
    go_wp21
    refine W.mono ?_;rintro e O ⟨rfl,o,d⟩;have F:=(show Lib.IsBuilder 307 5 a.heap.size a.heap.size (Lib.byteCells (l++(t.extract 0 1).data.toList)) O from .inr (by rw[<-AC];exact o));have c:=h.trans d;go_wp2;go_roundw
    case rel=>exact⟨_,_,rfl,by simp;omega,by simp;omega,m,F,c⟩
    case measure=>simp[Oo];omega
   .have a0:((n:Int)==0)=false:=beq_eq_false_iff_ne.2 (by omega);have m:=(show(l++x.data.toList)++vk look lg (t.extract n t.size)=vk look lg s by rw[<-k.out,u.out,gQ K,xq]);have W:=zJ a.heap.size a.heap.size (Lib.byteCells l) x N q (by have:=U;simp[Lib.byteCells];omega) h.size
    go_wp21
    refine W.mono ?_;rintro e O ⟨rfl,o,d⟩;have F:=(show Lib.IsBuilder 307 5 a.heap.size a.heap.size (Lib.byteCells (l++x.data.toList)) O from .inr (by rw[<-AC];exact o));have c:=h.trans d;go_wp2;go_roundw
    case rel=>exact⟨_,_,rfl,by simp;omega,by have:=U;have e:x.data.size=x.size:=rfl;simp[e];omega,m,F,c⟩
    case measure=>simp[Oo];omega
def mw (R:RC) (ps:Nat):Nat:=scan (λc=>!jr mx c) R.cs ps
def pC (R:RC) (ps:Nat):Nat:=if pre (R.cs.extract (mw R ps) R.cs.size) ⟨#[61]⟩=true then sn R (mw R (mw R ps+1))else mw R ps
def Eh (h:ps<=R.cs.size):mw R ps<=R.cs.size:=pz h
def OA:ps<=mw R ps:=td
def Xi (h:ps<=R.cs.size):pC R ps<=R.cs.size:=by
 unfold pC;split
 .rename_i a;exact WJ (Eh (ly a (Eh h)))
 .exact Eh h
def yA:ps<=pC R ps:=by
 unfold pC;split
 .have a:=OA (R:=R) (ps:=ps);have c:=OA (R:=R) (ps:=mw R ps+1);have d:=WH (R:=R) (ps:=mw R (mw R ps+1));omega
 .exact OA
def sd (look:gy->Option gy) (lg:Nat) (R:RC) (ps:Nat):gy:=if pre (R.cs.extract (mw R ps) R.cs.size) ⟨#[61]⟩=true then oA ⟨(vk look lg (mP R (mw R (mw R ps+1)))).toArray⟩else ⟨#[]⟩
structure Nm (w:gv) (r:Nat) (R:RC) (b lg:Nat) (look:gy->Option gy):Prop where
 lk:Lk w b look
 ne:b≠r
 mv:R.mv= .map (some b)
 lgv:R.lg=lg
 le:lg<=1048576
def Nm.kept (h:Nm w r R b lg look) (a:Kept [r] w w'):Nm w' r R b lg look:=
 ⟨h.lk.kept a (by simp[h.ne]),h.ne,h.mv,h.lgv,h.le⟩
theorem Xk (r:Nat) (R:RC) (bg ps b lg:Nat) (look:gy->Option gy) (w:gv) (h:Rd w r R bg ps) (N:Nm w r R b lg look) (V:Gl w r) (P:ps<=R.cs.size) (x:R.cs.size<=1024):
  Calls prog 321 #[gJ r] w λe w'=>e=iq (gH (sd look lg R ps))/\Kept [r] w w'/\Rd w' r R bg (pC R ps):=by
 have K:=vC r R bg ps mx w h P x;have d:=fU N;have T:=V;have E:=Eh (R:=R) P;clear N;cases he:pre (R.cs.extract (mw R ps) R.cs.size) ⟨#[61]⟩
 .have D:pC R ps=mw R ps:=by unfold pC;rw[gQ (by simp[he])]
  have B:sd look lg R ps=⟨#[]⟩:=by unfold sd;rw[gQ (by simp[he])]
  rw[D,B];have p:taken R ⟨#[61]⟩ (mw R ps)=mw R ps:=by unfold taken;rw[gQ (by simp[he])]
  go_enter func321,ntmps321
  go_wp21
  refine K.mono ?_;rintro e J ⟨rfl,a,l⟩;have t:=lA r R bg (mw R ps) ⟨#[61]⟩ J l E x (by decide);rw[he,p]at t
  go_wp21
  refine t.mono ?_;rintro e Q ⟨rfl,f,U⟩;have q:=a.trans f;go_wp2;go_ret
  simp_all
 .have D:pC R ps=sn R (mw R (mw R ps+1)):=by unfold pC;rw[gF he]
  have B:sd look lg R ps=oA ⟨(vk look lg (mP R (mw R (mw R ps+1)))).toArray⟩:=by unfold sd;rw[gF he]
  rw[D,B];have p:taken R ⟨#[61]⟩ (mw R ps)=mw R ps+1:=by unfold taken;rw[gF he];rfl
  have O:mw R ps+1<=R.cs.size:=ly he E;go_enter func321,ntmps321
  go_wp21
  refine K.mono ?_;rintro e J ⟨rfl,a,l⟩;have t:=lA r R bg (mw R ps) ⟨#[61]⟩ J l E x (by decide);rw[he,p]at t
  go_wp21
  refine t.mono ?_;rintro e Q ⟨rfl,f,G⟩;have q:=a.trans f;have z:=vC r R bg (mw R ps+1) mx Q G O x
  go_wp21
  refine z.mono ?_;rintro e y ⟨rfl,F,m⟩;have c:=q.trans F;have A:Hid (Rd y r R bg (mw R (mw R ps+1))):=m;have W:=Eh (R:=R) O;have mv:y.cell? ⟨r,5,none⟩=some (.map (some b)):=by rw[m.mv,d.out.mv]
  have Z:y.cell? ⟨r,6,none⟩=some (gn lg):=by rw[m.lg,d.out.lgv]
  have X:=Cq (R:=R) (ps:=mw R (mw R ps+1));have Y:=AK (lg:=lg) d.lk.short (mP R (mw R (mw R ps+1)));have S:=N9 r R bg (mw R (mw R ps+1)) y.drew (show Rd y.drew r R bg _ from A) W x
  go_wp21
  go_region_with (first
   |(go_at_call 349;refine S.mono ?_;rintro e w4 ⟨rfl,j,o⟩;have I:=o.mv;rw[d.out.mv]at I;have H:=o.lg;rw[d.out.lgv]at H)
   |(go_at_call 348;refine(Rx b lg look _ _ (d.kept (c.drew.trans j)).lk d.le (by omega)).mono ?_;rintro e w5 ⟨rfl,k⟩)
   |(go_at_call 140;refine(yk r _ _ (by simp[ByteArray.size];omega) ((T.kept (c.drew.trans j)).kept (k.mono (by simp)))).mono ?_;rintro e w6 ⟨rfl,u⟩))
  all_goals (try go_wp2)
  all_goals (try go_ret)
  all_goals exact⟨rfl,(c.drew.trans j).trans ((k.trans u).mono (by simp)),(o.kept k (by simp)).kept u (by simp)⟩
def rE (L:lh):List gO:=L.flatMap λp=>[gH p.1,gH p.2]
def Kw (L M:lh):rE (L++M)=rE L++rE M:=by simp[rE]
theorem FG (L:lh) (i:Nat) (h:i < L.length):(rE L)[i*2]?=some (gH (L[i]).1)/\(rE L)[i*2+1]?=some (gH (L[i]).2):=by
 induction L generalizing i with
 |nil=>simp at h
 |cons p L ih=>
  show(gH p.1::Value.string p.2::rE L)[i*2]?=_/\(gH p.1::Value.string p.2::rE L)[i*2+1]?=_
  grind
def nth (ns:List gy) (i:Nat):gy×gy:=(ns.getD i ⟨#[]⟩,⟨#[]⟩)
def NE (ns:List gy) (s:gy):Bool:=nW (nth ns) ns.length s 0
theorem KZ {A B : Nat->gy×gy} (h:∀i,i < n->(A i).1=(B i).1) (i:Nat):nW A n s i=nW B n s i:=by
 fun_induction nW A n s i with
 |case1 i hi he=>grind[nW]
 |case2 i hi he ih=>grind[nW]
 |case3 i hi=>grind[nW]
def YD (x y:Int) (nm s:gy) (w:gv):
  Calls prog 320 #[.agg #[gn x,gn y,gH nm,jX],gH s] w λe w'=>e=iq (.bool false)/\Kept [] w w':=by
 have c:=(Kept.refl [] w).alloc (.cells #[gn x,gn y,gH nm,jX] 173);go_enter func320,ntmps320
 go_wp21
 go_loopw [10] (λv wr=>v=gn 0/\Kept [] w wr) (λv _=>0)
 case atStart=>exact⟨rfl,c⟩
 case round=>
  obtain⟨rfl,a⟩:=hrel;go_wp2;go_ret;exact⟨rfl,a⟩
def Zd (L:lh) (i:Nat):gy×gy:=L.getD i (⟨#[]⟩,⟨#[]⟩)
theorem Ui (base:Nat) (x y:Int) (nm s:gy) (d:gO) (L:lh) (w:gv) (c:w.ownsRow base 275 2 d L.length (rE L)) (m:L.length<=1048576):
  Calls prog 320 #[.agg #[gn x,gn y,gH nm,d],gH s] w λe w'=>e=iq (.bool (NE (L.map (·.1)) s))/\Kept [] w w':=by
 rcases c.2 with⟨rfl,h⟩|⟨g,cap,f,rfl,k,l,_⟩
 .have e:NE (L.map (·.1)) s=false:=by
   have:L=[]:=Xn h;subst this;unfold NE;rw[nW.eq_1];simp
  rw[e];exact YD x y nm s w
 .have j:Xu w g L.length (Zd L):=by
   refine⟨λ_=>jk l,λi a=>?_,λi a=>?_⟩
   .have:=c.cells (g:=g) rfl (i*2) _ (FG L i a).1;rw[iY]at this
    grind[Zd]
   .have:=c.cells (g:=g) rfl (i*2+1) _ (FG L i a).2;rw[iY]at this
    grind[Zd]
  have e:NE (L.map (·.1)) s=nW (Zd L) L.length s 0:=by
   unfold NE;rw[BP];exact KZ (λi a=>by simp[nth,Zd,a]) 0
  rw[e];exact aaY x y nm s g L.length cap _ w j m
structure Bo (w:gv) (base tb:Nat) (x y:Int) (nm:gy) (av:gO) (L:lh):Prop where
 ir:w.heap[tb]?=some (gI #[gn x,gn y,gH nm,av] 173)
 own:w.ownsRow base 275 2 av L.length (rE L)
theorem Bo.kept {base c : Nat} {x y : Int} {nm : gy} {d : gO} (h:Bo w base c x y nm d L) (a:Kept [r] w w') (f:r < base) (e:base<=c):Bo w' base c x y nm d L:=
 ⟨a.at h.ir (by grind),a.ownsRow h.own (λk a=>by have:=(h.own.lt k a).1;grind)⟩
def AV (R:RC) (ps:Nat):gy:=oA (small (R.cs.extract ps (kj R ps)))
def zm (R:RC) (ns:List gy) (ps:Nat):Bool:=!NE ns (AV R ps)&&!decide (kj R ps=R.cs.size)&&decide (R.at_<=(ns.length:Int))
def uW (L:lh) (a v:gy):lh:=if NE (L.map (·.1)) a=true then L else L++[(a,v)]
def ri (R:RC) (look:gy->Option gy) (lg:Nat) (L:lh) (ps:Nat):lh:=uW L (AV R ps) (sd look lg R (kj R ps))
def Jk (h:ps < R.cs.size):kj R ps<=R.cs.size:=pz (by omega)
def wu:ps < kj R ps:=lV (Nat.lt_succ_self _) td
def Rd.DU (h:Rd w r R bg ps):w.cell? ⟨r,4,none⟩=some (gn R.at_):=by rw[fW h];rfl
def YM:(prog.info? 275).map (λi=>(i.zero,i.size,i.bytes))=some (some (.agg #[gH kI,gH kI]),2,32):=by kernel_rfl
def Ty (w:gv) (k:Nat) (n a:Int):Prop:=w.heap[k]?=some (gI #[gn n,gn a] 67)
theorem KB (r E:Nat) (R:RC) (bg ps g cap b lg:Nat) (look:gy->Option gy) (cut:Nat->Nat) (x y:Int) (nm:gy) (av:gO) (L:lh) (F w:gv)
  (ac:Kept [r] F w) (B:r < F.heap.size) (z:F.heap.size<=E) (h:Rd w r R bg ps) (hA:LD w r R g cap cut) (hN:Nm w r R b lg look) (hG:Gl w r) (hT:Bo w F.heap.size E x y nm av L)
  (hb:bg<=R.cs.size) (hp:ps < R.cs.size) (hs:R.cs.size<=1024) (hL:L.length<=4096):
  Calls prog 284 #[gJ r,gJ E] w λe w'=>
   if zm R (L.map (·.1)) ps=true then ∃k,e= .panicked [{v:= .iface 62 (gJ k),recovered:=false}]/\Ty w' k 7 (cut bg)/\F.heap.size<=k/\Kept [r] F w'
   else e=p8/\∃P,Bo w' F.heap.size E x y nm P (ri R look lg L ps)/\Kept [r] F w'/\Rd w' r R bg (pC R (kj R ps)):=by
 obtain⟨i0,hi,an,ap,aq⟩:=tz YM;have ae:=Jk (R:=R) hp;have HN:=fU hN;have HG:=fU hG;have HA:=fU hA;have HT:=fU hT;have aa:=fU ac;have CN:=fU (Dk r R bg ps w h hp hs hG);have A:ri R look lg L ps=uW L (AV R ps) (sd look lg R (kj R ps)):=rfl;clear h hA hN hG hT ac;have ag:zm R (L.map (·.1)) ps=(!NE (L.map (·.1)) (AV R ps)&&!decide (kj R ps=R.cs.size)&&decide (R.at_<=(L.length:Int))):=by unfold zm;rw[BP]
 rw[ag];clear ag;obtain⟨H,Z⟩:∃H,H=AV R ps:=⟨_,rfl⟩;have a4:oA (small (R.cs.extract ps (kj R ps)))=H:=Z.symm;rw[a4]at CN;clear a4;rw[<-Z]at A;rw[<-Z];obtain⟨ns,a9⟩:∃ns,ns=L.map (·.1):=⟨_,rfl⟩;rw[<-a9];have Y:=fU a9;clear Z a9;obtain⟨m,hm⟩:∃m,m=kj R ps:=⟨_,rfl⟩;rw[<-hm]at CN ae A;rw[<-hm];clear hm;have HV:=(λw' h1 h2 h3=>Xk r R bg m b lg look w' h1 h2 h3 ae hs);obtain⟨U,ah⟩:∃U,U=sd look lg R m:=⟨_,rfl⟩;rw[<-ah]at HV A;clear ah;have HV:=fU HV;have ab:=fU A;clear A;have⟨ao,cp,hav⟩:=gG HT.out.own;subst hav;have ax:r≠E:=by omega
 cases hin:NE ns H
 .skip
  rcases(show m=R.cs.size\/(¬m=R.cs.size/\R.at_<=(L.length:Int))\/(¬m=R.cs.size/\¬R.at_<=(L.length:Int)) by omega)with d|⟨d,Q⟩|⟨d,Q⟩;have ec:(!false&&!decide (m=R.cs.size)&&decide (R.at_<=(L.length:Int)))=false:=by simp[d]
  have e3:decide (m=R.cs.size)=true:=by simp[d]
  rotate_left
  have ec:(!false&&!decide (m=R.cs.size)&&decide (R.at_<=(L.length:Int)))=true:=by simp[d,Q]
  have e3:decide (m=R.cs.size)=false:=by simp[d]
  rotate_left
  have ec:(!false&&!decide (m=R.cs.size)&&decide (R.at_<=(L.length:Int)))=false:=by simp[Q]
  have e3:decide (m=R.cs.size)=false:=by simp[d]
  all_goals
   rw[ec];clear ec;simp only[wR,AM,xK];go_enter func284,ntmps284
   go_wp21
   refine CN.out.mono ?_;rintro e w1 ⟨rfl,q,D⟩;have c:=fU (HT.out.kept q B z);have a6:=fU (aa.out.trans q);have a8:=fU D;have a7:=fU q;have a0:=fW c.out.ir 0;have a1:=fW c.out.ir 1;have a2:=fW c.out.ir 2;have a3:=fW c.out.ir 3;dsimp at a0 a1 a2 a3;have CH:=Ui F.heap.size x y nm H _ L w1 c.out.own (by omega);rw[<-Y.out,hin]at CH;have K:=fU CH;clear CH q D CN
   go_wp21
   refine K.out.mono ?_;rintro e T ⟨rfl,f⟩;have J:=fU (a7.out.trans (f.mono (by simp)));have I:=fU (a6.out.trans (f.mono (by simp)));have o:=fU (a8.out.kept f (by simp));have N:=fU (c.out.kept (f.mono (by simp)) B z);clear f K a0 a1 a2 a3;have b3:=fW N.out.ir 3;dsimp at b3;have b4:=o.out.DU;have C:=fU (λw' (h:Rd w' r R bg m)=>oD r R bg m w' h);rw[e3]at C
   go_wp21
   go_quiet ((go_at_call 68;refine xL (C.out _ ?_);exact o.out))
   clear b3 b4
  rotate_right
  .have aj:=fU (HA.out.kept J.out);have p0:T.cell? ⟨r,1,none⟩=some (oY g (R.cs.size+1) cap):=by rw[o.out.gL,HA.out.av]
   have p1:T.cell? ⟨r,2,none⟩=some (gn bg):=o.out.bg;have p2:=aj.out.at_ bg hb;have ar:=fU (I.out.drewN nq);have am:=I.out.size;generalize R.cs.size=sz at *;have au:(bg:Int) < (sz:Int)+1:=by omega
   go_wp21
   go_region_dies
   all_goals (try go_wp2)
   all_goals exact⟨rfl,T.heap.size,rfl,fY (T.drewN (nq+1)) _,am,(I.out.drewN (nq+1)).alloc _⟩
  all_goals
   have O:=fU (HV.out (T.drewN nq) (show Rd (T.drewN nq) r R bg m from o.out) (HN.out.kept (J.out.drewN _)) (HG.out.kept (J.out.drewN _)))
   go_wp21
   refine O.out.mono ?_;rintro e w3 ⟨rfl,G,S⟩;have W:=fU ((I.out.drewN nq).trans G);have X:=fU S;have l:=fU ((N.out.kept ((Kept.refl [r] T).drewN nq) B z).kept G B z);clear G S O;have c3:=fW l.out.ir 3;dsimp at c3;have ad:=jk l.out.ir;have af:=jk X.out;have aw:=W.out.size;go_wp2_with (at_builtin;refine iw _ rfl _ _ 139 rfl F.heap.size 275 i0 (.agg #[gH kI,gH kI]) 2 32 underlying139 hi an ap aq rfl (by decide) _ _ _ rfl (l.out.own.alloc _) ⟨w3.heap.size,0,none⟩ 1 1 [gH H,gH U] rfl ?c1 ?c2 ?c3 ?c4 ?c5 ?c6 ?_)
   case c1=>rfl
   case c2=>
    intro j u hj
    match j,hj with
    |0,hj=>simp at hj;subst hj;simp[Addr.add]
    |1,hj=>simp at hj;subst hj;simp[Addr.add]
   case c3=>intro u hu;simp at hu;rcases hu with rfl|rfl<;>rfl
   case c4=>unfold maxLen;omega
   case c5=>omega
   case c6=>simp;omega
   intro v' V t p al;have⟨ao',a,hv⟩:=gG t;subst hv;have a5:∀k,(Value.slice ao L.length cp).ownBlock=some k->k≠E:=by
    intro k hk;rcases l.out.own.2 with⟨h,_⟩|⟨g',a,ak,h,_,hc,_⟩
    .rw[h]at hk;cases hk
    .rw[h]at hk;obtain rfl:=jL hk;exact xW hc l.out.ir (by decide)
   have ai:Kept [r] F V:=(W.out.alloc _).grown p (λk hk=> .inr (l.out.own.lt k hk).1);have t4:V.heap[E]?=some (gI #[gn x,gn y,gH nm,.slice ao L.length cp] 173):=by
    rw[p.block E (by simp;omega) (λh=>a5 E h.symm rfl),Below.heap_alloc _ _ _ ad];exact l.out.ir
   have r4:Rd V r R bg (pC R m):=by
    show V.heap[r]?=_;rw[p.block r (by simp;omega) (λh=>by have:=(l.out.own.lt r h.symm).1;omega),Below.heap_alloc _ _ _ af];exact X.out
   have d3:=fW t4 3;have f3:=gE t4 3;dsimp at d3;have t5:=gg t4 3 (.slice ao' (L.length+1) a);have r5:Rd (V.setCell ⟨E,3,none⟩ (.slice ao' (L.length+1) a)) r R bg (pC R m):=(Below.heap_setCell V ⟨E,3,none⟩ _ r (by omega)).trans r4;have o5:(V.setCell ⟨E,3,none⟩ (.slice ao' (L.length+1) a)).ownsRow F.heap.size 275 2 (.slice ao' (L.length+1) a) (L++[(H,U)]).length (rE (L++[(H,U)])):=by
    rw[Kw,p6];refine yB t ?_ _;intro hk;rcases t.2 with⟨h,_⟩|⟨g',a,ak,h,_,hc,_⟩
    .omega
    .grind
   have HF:Hid (∃P,Bo (V.setCell ⟨E,3,none⟩ (.slice ao' (L.length+1) a)) F.heap.size E x y nm P (uW L H U)/\Kept [r] F (V.setCell ⟨E,3,none⟩ (.slice ao' (L.length+1) a))/\Rd (V.setCell ⟨E,3,none⟩ (.slice ao' (L.length+1) a)) r R bg (pC R m)):=
    ⟨_,by rw[show uW L H U=L++[(H,U)] by unfold uW;rw[<-Y.out,hin];rfl];exact⟨t5,o5⟩,ai.setCell (.inr z) _,r5⟩
   clear t5 r5 o5 r4 t4 ai a5 t p al c3;go_wp2;go_end0;exact⟨rfl,by rw[ab.out];exact HF.out⟩
 .skip
  have ec:(!true&&!decide (m=R.cs.size)&&decide (R.at_<=(L.length:Int)))=false:=by simp
  rw[ec];clear ec;simp only[wR,AM,xK];go_enter func284,ntmps284
  go_wp21
  refine CN.out.mono ?_;rintro e w1 ⟨rfl,q,D⟩;have c:=fU (HT.out.kept q B z);have a6:=fU (aa.out.trans q);have a8:=fU D;have a7:=fU q;have a0:=fW c.out.ir 0;have a1:=fW c.out.ir 1;have a2:=fW c.out.ir 2;have a3:=fW c.out.ir 3;dsimp at a0 a1 a2 a3;have CH:=Ui F.heap.size x y nm H _ L w1 c.out.own (by omega);rw[<-Y.out,hin]at CH;have K:=fU CH;clear CH q D CN
  go_wp21
  refine K.out.mono ?_;rintro e T ⟨rfl,f⟩;have J:=fU (a7.out.trans (f.mono (by simp)));have I:=fU (a6.out.trans (f.mono (by simp)));have o:=fU (a8.out.kept f (by simp));have N:=fU (c.out.kept (f.mono (by simp)) B z);clear f K a0 a1 a2 a3;have b3:=fW N.out.ir 3;dsimp at b3;have b4:=o.out.DU;have C:=fU (λw' (h:Rd w' r R bg m)=>oD r R bg m w' h)
  go_wp21
  go_quiet ((go_at_call 68;refine xL (C.out _ ?_);exact o.out))
  clear b3 b4;have O:=fU (HV.out (T.drewN nq) (show Rd (T.drewN nq) r R bg m from o.out) (HN.out.kept (J.out.drewN _)) (HG.out.kept (J.out.drewN _)))
  go_wp21
  refine O.out.mono ?_;rintro e w3 ⟨rfl,G,S⟩;have W:=fU ((I.out.drewN nq).trans G);have X:=fU S;have l:=fU ((N.out.kept ((Kept.refl [r] T).drewN nq) B z).kept G B z);clear G S O;have HF:Hid (∃P,Bo w3 F.heap.size E x y nm P (uW L H U)/\Kept [r] F w3/\Rd w3 r R bg (pC R m)):=
   ⟨_,by rw[show uW L H U=L by unfold uW;rw[<-Y.out,hin];rfl];exact l.out,W.out,X.out⟩
  go_wp2;go_end0;exact⟨rfl,by rw[ab.out];exact HF.out⟩
inductive Hq where
 |stop
 |lost
 |whole (e:Nat) (L:lh)
def jf (R:RC) (ps:Nat):Nat:=scan (λc=>!jr ⟨#[32,9,10,12,47]⟩ c) R.cs ps
def WS (h:ps<=R.cs.size):jf R ps<=R.cs.size:=pz h
def sF:ps<=jf R ps:=td
def lM (R:RC) (look:gy->Option gy) (lg:Nat) (L:lh) (ps:Nat):Hq:=
 if h:jf R ps < R.cs.size then
  if pre (R.cs.extract (jf R ps) R.cs.size) jI=true then .whole (jf R ps+1) L
  else if zm R (L.map (·.1)) (jf R ps)=true then .stop
  else lM R look lg (ri R look lg L (jf R ps)) (pC R (kj R (jf R ps)))
 else .lost
  termination_by R.cs.size - ps
  decreasing_by
 have a:=sF (R:=R) (ps:=ps);have c:=wu (R:=R) (ps:=jf R ps);have d:=yA (R:=R) (ps:=kj R (jf R ps));omega
def yv (R:RC) (ps:Nat):Nat:=scan (jr jn) R.cs ps
def ab8 (h:ps<=R.cs.size):yv R ps<=R.cs.size:=pz h
def ab7:ps<=yv R ps:=td
theorem Gv:(ri R look lg L ps).length<=L.length+1:=by
 unfold ri uW;grind
def yw (R:RC) (ps:Nat):gy:=oA (small (R.cs.extract ps (yv R ps)))
def Rd.qy (h:Rd w r R bg ps) {p : Addr} (a:p.block≠r) (u:gO):Rd (w.setCell p u) r R bg ps:=(Below.heap_setCell w p u r (λe=>a e.symm)).trans h
theorem Xc {base : Nat} {e : TypeId} {l : Nat} {xs : List gO} (j:w.ownsRow base e l v n xs) {c : jM} {t : TypeId} (m:w.heap[b]?=some (gI c t)) (h:e≠t):∀k,v.ownBlock=some k->k≠b:=by
 rintro k a rfl;rcases j.2 with⟨e2,_⟩|⟨p,d,f,e2,_,o,_⟩
 .rw[e2]at a;cases a
 .rw[e2]at a;obtain rfl:=jL a
  grind
def TP (w:gv) (r:Nat) (R:RC) (bg:Nat) (cut:Nat->Nat) (nm:gy) (e:Ending) (w':gv):Hq->Prop
 | .stop=>∃k,e= .panicked [{v:= .iface 62 (gJ k),recovered:=false}]/\Ty w' k 7 (cut bg)/\w.heap.size<=k/\Kept [r] w w'
 | .lost=>e=iq (.tuple #[.agg #[gn 0,gn 0,gH kI,jX],.bool false])/\Kept [r] w w'/\Rd w' r R bg R.cs.size
 | .whole m L=>(∃a c,e=iq (.tuple #[.agg #[gn (cut bg),gn (cut m),gH nm,.slice a L.length c],.bool true])/\w'.ownsRow w.heap.size 275 2 (.slice a L.length c) L.length (rE L))/\Kept [r] w w'/\Rd w' r R bg m
theorem UR (r:Nat) (R:RC) (bg ps g cap b lg:Nat) (look:gy->Option gy) (cut:Nat->Nat) (w:gv) (h:Rd w r R bg ps) (hA:LD w r R g cap cut) (hN:Nm w r R b lg look) (hG:Gl w r)
  (hb:bg<=R.cs.size) (hp:ps<=R.cs.size) (hs:R.cs.size<=1024):
  Calls prog 234 #[gJ r] w λe w'=>TP w r R bg cut (yw R ps) e w' (lM R look lg [] (yv R ps)):=by
 obtain⟨O,HO⟩:∃O,O=lM R look lg [] (yv R ps):=⟨_,rfl⟩;rw[<-HO];obtain⟨nm,Y⟩:∃nm,nm=yw R ps:=⟨_,rfl⟩;rw[<-Y];have S:oA (small (R.cs.extract ps (scan (jr jn) R.cs ps)))=nm:=Y.symm;have am:=fU S;clear Y S;have hr:=jk h;obtain⟨t,H⟩:∃t,t=w.alloc (.cells #[gn 0,gn 0,gH kI,jX] 173):=⟨_,rfl⟩;have a7:t.heap[w.heap.size]?=some (gI #[gn 0,gn 0,gH kI,jX] 173):=by rw[H];exact fY w _
 have y:Kept [] w t:=by rw[H];exact(Kept.refl _ _).alloc _
 have z0:t.heap.size=w.heap.size+1:=by rw[H];simp
 have ab:=h.kept y (by simp);have ha:=ab8 (R:=R) hp;have CU:=zp r R bg ps jn t ab hp hs;have HA:=hA.kept (y.mono (by simp));have HN:=hN.kept (y.mono (by simp));have HG:=hG.kept (y.mono (by simp));have HW:=fU H.symm;have ad:(R.cs.extract ps (scan (jr jn) R.cs ps)).size<=1048576:=by simp;omega
 have B:=fU z0;clear h hA hN hG H z0 ab;go_enter func234,ntmps234
 go_wp21
 rw[HW.out];refine(oN _ t).mono ?_;rintro e w1 ⟨rfl,rfl⟩
 go_wp21
 refine CU.mono ?_;rintro e w2 ⟨rfl,a3,ah⟩;have ap:Hid (Rd w2 r R bg (yv R ps)):=ah;have CR:=zg r _ w2 ad (HG.kept a3);clear ah CU ad
 go_wp21
 refine CR.mono ?_;rintro e D ⟨rfl,V⟩;have a4:=a3.trans (V.mono (by simp));have aq:=ap.out.kept V (by simp);clear V CR;rw[am.out];obtain⟨w4,N⟩:∃w4,w4=D.alloc (.cells #[gn 0,gn 0,gH nm,jX] 173):=⟨_,rfl⟩;have a1:Kept [] D w4:=by rw[N];exact(Kept.refl _ _).alloc _
 have aw:Hid (Bo w4 t.heap.size D.heap.size 0 0 nm (jX) []):=⟨by rw[N];exact fY D _,oX _ _ _ _⟩;have ak:=a4.trans (a1.mono (by simp));have ar:=aq.kept a1 (by simp);have d:=a4.size;have ay:=fU N.symm;clear a1 N
 go_wp21
 rw[ay.out]
 go_loopw [] (λwr=>∃(i:Nat) (av:gO) (L:lh),i<=R.cs.size/\L.length<=i/\lM R look lg L i=O/\Bo wr t.heap.size D.heap.size 0 0 nm av L/\Kept [r] t wr/\Rd wr r R bg i) (λwr=>R.cs.size - (match wr.cell? ⟨r,3,none⟩with|some v=>(intOf v).toNat|none=>0))
 case atStart=>exact⟨yv R ps,_,[],ha,iO _,HO.symm,aw.out,ak,ar⟩
 case round=>
  have⟨i,av,L,hi,hLi,htg,HT,HKW,hrd⟩:=hrel;have J:=fU htg;have CP:=vC r R bg i ⟨#[32,9,10,12,47]⟩ wr hrd hi hs;have P0:=hrd.ps;have af:=WS (R:=R) hi;have aF:=sF (R:=R) (ps:=i);clear htg hrd
  go_wp21
  refine CP.mono ?_;rintro e P ⟨rfl,X,Z⟩;have U:Hid (Rd P r R bg (jf R i)):=Z;have I:=HKW.trans X;have a9:=HT.kept X (by have:=B.out;omega) d;have CE:=oD r R bg (jf R i) P Z;clear X Z CP
  by_cases E:jf R i=R.cs.size
  .have Q:O= .lost:=by rw[<-J.out,lM,dif_neg (by omega)]
   have EO:=fU Q;have e3:decide (jf R i=R.cs.size)=true:=by simp[E]
   rw[e3]at CE;have A:=fU CE;have f:=I.at a7 (by simp;omega);have d0:=fW f 0;have d1:=fW f 1;have d2:=fW f 2;have d3:=fW f 3;have f0:=gE f 0;have f1:=gE f 1;have f2:=gE f 2;have f3:=gE f 3;dsimp at d0 d1 d2 d3;clear CE e3 Q f
   go_wp21
   refine A.out.mono ?_;rintro e w6 ⟨rfl,q,rfl⟩;go_wp2;have a5:=(y.mono (S':=[r]) (by simp)).trans I;have m:w.heap.size≠r:=by omega
   rw[EO.out];refine qf (v:= .tuple #[.agg #[gn 0,gn 0,gH kI,jX],.bool false]) ?_ rfl ⟨rfl,?_,?_⟩
   .simp[results,results234,asAddr,Result.andThen,go_sem,d0,d1,d2,d3]
   .exact((((a5.drewN q).setCell (.inr (ig _)) _).setCell (.inr (ig _)) _).setCell (.inr (ig _)) _).setCell (.inr (ig _)) _
   .have h6:Rd (P.drewN q) r R bg R.cs.size:=by rw[<-E];exact U.out
    exact(((h6.qy m _).qy m _).qy m _).qy m _
  .have e3:decide (jf R i=R.cs.size)=false:=by simp[E]
   have F:jf R i < R.cs.size:=by omega
   rw[e3]at CE;have A:=fU CE;clear CE e3;cases hgt:pre (R.cs.extract (jf R i) R.cs.size) jI
   .have G:taken R jI (jf R i)=jf R i:=by unfold taken;rw[gQ (by simp[hgt])]
    have x:=λq=>lA r R bg (jf R i) jI (P.drewN q) (show Rd (P.drewN q) r R bg _ from U.out) af hs (by decide);rw[hgt,G]at x;clear G
    go_wp21
    refine A.out.mono ?_;rintro e w6 ⟨rfl,q,rfl⟩
    go_wp21
    refine(x q).mono ?_;rintro e w7 ⟨rfl,z,ai⟩;have o:=(I.drewN q).trans z;have ac:=(a9.kept ((Kept.refl [r] P).drewN q) (by have:=B.out;omega) d).kept z (by have:=B.out;omega) d;have CA:=KB r D.heap.size R bg (jf R i) g cap b lg look cut 0 0 nm av L t w7 o (by have:=B.out;omega) d ai (HA.kept o) (HN.kept o) (HG.kept o) ac hb F hs (by omega);clear z ai ac x A
    go_wp21
    refine CA.mono ?_;intro e w8 l
    by_cases K:zm R (L.map (·.1)) (jf R i)=true
    .rw[gF K]at l;obtain⟨k,rfl,aj,aG,c⟩:=l;have Q:O= .stop:=by rw[<-J.out,lM,xM F,gQ (by simp[hgt]),gF K]
     have HF:Hid (TP w r R bg cut nm (.panicked [{v:= .iface 62 (gJ k),recovered:=false}]) w8 O):=by
      rw[Q];exact⟨k,rfl,aj,by have:=B.out;omega,(y.mono (S':=[r]) (by simp)).trans c⟩
     clear aj c Q CA;go_wp2;exact⟨rfl,HF.out⟩
    .rw[gQ K]at l;obtain⟨rfl,az,a,c,a0⟩:=l;have aa:lM R look lg (ri R look lg L (jf R i)) (pC R (kj R (jf R i)))=O:=by
      rw[<-J.out,lM.eq_1 R look lg L i,xM F,gQ (by simp[hgt]),gQ K]
     have aA:=Gv (R:=R) (look:=look) (lg:=lg) (L:=L) (ps:=jf R i);have h2:=wu (R:=R) (ps:=jf R i);have h3:=yA (R:=R) (ps:=kj R (jf R i));have h4:=Xi (R:=R) (Jk (R:=R) F);have a8:Hid (∃(i':Nat) (av:gO) (L:lh),i'<=R.cs.size/\L.length<=i'/\lM R look lg L i'=O/\Bo w8 t.heap.size D.heap.size 0 0 nm av L/\Kept [r] t w8/\Rd w8 r R bg i'):=
      ⟨_,az,_,h4,by omega,aa,a,c,a0⟩
     have P8:=a0.ps;have ag:R.cs.size - pC R (kj R (jf R i)) < R.cs.size - i:=by omega
     clear a c a0 aa aA CA h2 h3 h4;go_wp2;go_roundw
     case rel=>exact a8.out
     case measure=>rw[P8,P0];simpa [intOf]using ag
   .have G:taken R jI (jf R i)=jf R i+1:=by unfold taken;rw[gF hgt];rfl
    have x:=λq=>lA r R bg (jf R i) jI (P.drewN q) (show Rd (P.drewN q) r R bg _ from U.out) af hs (by decide);rw[hgt,G]at x;have Q:O= .whole (jf R i+1) L:=by rw[<-J.out,lM,xM F,gF hgt]
    have EO:=fU Q;clear G Q
    go_wp21
    refine A.out.mono ?_;rintro e w6 ⟨rfl,q,rfl⟩
    go_wp21
    refine(x q).mono ?_;rintro e w7 ⟨rfl,z,a6⟩;have o:=(I.drewN q).trans z;have ax:=(a9.kept ((Kept.refl [r] P).drewN q) (by have:=B.out;omega) d).kept z (by have:=B.out;omega) d;have a2:=pS r R bg (jf R i+1) g cap cut w7 a6 (HA.kept o) hb (by omega) hs;clear z x A
    go_wp21
    refine a2.mono ?_;rintro e w8 ⟨rfl,c⟩;have al:=(y.mono (S':=[r]) (by simp)).trans (o.trans (c.mono (by simp)));have a:=ax.kept (c.mono (by simp)) (r:=r) (by have:=B.out;omega) d;have au:=a6.kept c (by simp);have j:=(o.trans (c.mono (by simp))).at a7 (by simp;omega);have⟨ao,cp,hav⟩:=gG a.own;subst hav;have t0:=fW a.ir 0;have t1:=fW a.ir 1;have t2:=fW a.ir 2;have t3:=fW a.ir 3;have g0:=gE a.ir 0;have g1:=gE a.ir 1;have d0:=fW j 0;have d1:=fW j 1;have d2:=fW j 2;have d3:=fW j 3;have f0:=gE j 0;have f1:=gE j 1;have f2:=gE j 2;have f3:=gE j 3;dsimp at t0 t1 t2 t3 d0 d1 d2 d3;have aB:w.heap.size≠D.heap.size:=by have:=d;have:=B.out;omega
    have aC:D.heap.size≠w.heap.size:=λh=>aB h.symm;have an:=a.own;have aD:=Xc a.own a.ir (by decide);clear a j c a2;go_wp2;rw[EO.out];have m:w.heap.size≠r:=by omega
    have T:D.heap.size≠r:=by have:=d;have:=B.out;omega
    have ae:w.heap.size<=D.heap.size:=by have:=d;have:=B.out;omega
    refine qf (v:= .tuple #[.agg #[gn (cut bg),gn (cut (jf R i+1)),gH nm,.slice ao L.length cp],.bool true]) ?_ rfl ⟨⟨_,_,rfl,?_⟩,?_,?_⟩
    .simp[results,results234,asAddr,Result.andThen,go_sem,d0,d1,d2,d3]
    .have aE:∀(p:Addr) (u:gO) (W:gv),(p.block=w.heap.size\/p.block=D.heap.size)->W.ownsRow t.heap.size 275 2 (.slice ao L.length cp) L.length (rE L)->(W.setCell p u).ownsRow t.heap.size 275 2 (.slice ao L.length cp) L.length (rE L):=by
      intro p u W hp ho;refine yB ho ?_ u;intro e;rcases hp with hp|hp
      .have:=(an.lt _ e).1;have:=B.out;omega
      .grind
     refine jW (base:=t.heap.size) ?_ (by have:=B.out;omega)
     grind
    .exact(((((al.setCell (.inr ae) _).setCell (.inr ae) _).setCell (.inr (ig _)) _).setCell (.inr (ig _)) _).setCell (.inr (ig _)) _).setCell (.inr (ig _)) _
    .exact(((((au.qy T _).qy T _).qy m _).qy m _).qy m _).qy m _
def PW (R:RC) (ps:Nat):Bool:=decide (ps < R.cs.size)&&decide (97<=bt R.cs ps/\bt R.cs ps<=122\/65<=bt R.cs ps/\bt R.cs ps<=90)
def Bx (r:Nat) (R:RC) (bg ps:Nat) (w:gv) (h:Rd w r R bg ps) (a:ps<=R.cs.size) (c:R.cs.size<=1024):
  Calls prog 143 #[gJ r,.func (.func 144) #[] #[]] w λe w'=>e=iq (.bool (PW R ps))/\∃n,w'=w.drewN n:=
 I7 r R bg ps _ _ _ w h a c (P7 w [r])
theorem aaU (s:gy) (a:Nat) (h:a < s.size):(s.extract a s.size).extract 0 1=s.extract a (a+1):=by
 apply Kv;simp only[ByteArray.data_extract,Array.extract_extract]
 grind
theorem UD {a b : Int} {W : gv} (c:Kept [r] w W) (d:Rd W r R bg ps) (g:W.heap[w.heap.size]?=some (gI #[gn 0,gn 0,gH kI] 167)) (f:r≠w.heap.size):
  Kept [r] w (((W.setCell ⟨w.heap.size,0,none⟩ (gn a)).setCell ⟨w.heap.size,1,none⟩ (gn b)).setCell ⟨w.heap.size,2,none⟩ (gH s))/\Rd (((W.setCell ⟨w.heap.size,0,none⟩ (gn a)).setCell ⟨w.heap.size,1,none⟩ (gn b)).setCell ⟨w.heap.size,2,none⟩ (gH s)) r R bg ps/\(((W.setCell ⟨w.heap.size,0,none⟩ (gn a)).setCell ⟨w.heap.size,1,none⟩ (gn b)).setCell ⟨w.heap.size,2,none⟩ (gH s)).heap[w.heap.size]?=some (gI #[gn a,gn b,gH s] 167):=by
 have e:Kept [w.heap.size] W (((W.setCell ⟨w.heap.size,0,none⟩ (gn a)).setCell ⟨w.heap.size,1,none⟩ (gn b)).setCell ⟨w.heap.size,2,none⟩ (gH s)):=(((Kept.refl [w.heap.size] W).setCell (.inl (by simp)) _).setCell (.inl (by simp)) _).setCell (.inl (by simp)) _;exact⟨((c.setCell (.inr (ig _)) _).setCell (.inr (ig _)) _).setCell (.inr (ig _)) _,d.kept e (by grind),gg (gg (gg g 0 _) 1 _) 2 _⟩
def Dq (r:Nat) (R:RC) (bg ps g cap b lg:Nat) (look:gy->Option gy) (cut:Nat->Nat) (w:gv) (h:Rd w r R bg ps) (Y:LD w r R g cap cut) (z:Nm w r R b lg look) (Z:bg < R.cs.size) (hs:R.cs.size<=1024):
  Calls prog 74 #[gJ r] w λe w'=>e=iq (.agg #[gn (cut bg),gn (cut (bg+pH look lg (R.cs.extract bg R.cs.size))),gH (rK look lg (R.cs.extract bg R.cs.size))])/\Kept [r] w w'/\Rd w' r R bg (bg+pH look lg (R.cs.extract bg R.cs.size)):=by
 have t1:=h.text;have b1:=h.bg;have m1:=h.mv;have l1:=h.lg;rw[z.mv]at m1;rw[z.lgv]at l1;have hr:=jk h;have N:(R.cs.extract bg R.cs.size).size=R.cs.size - bg:=by simp
 have O:=Cs (look:=look) (lg:=lg) (s:=R.cs.extract bg R.cs.size) (inV:=false);rw[N]at O;have C1:=(λW (j:Kept [] w W)=>QL b lg look (R.cs.extract bg R.cs.size) false W (z.lk.kept j (by simp)) z.le (by omega));have C2:=(λW (j:Kept [] w W)=>Dl r R bg ps g cap cut W (h.kept j (by simp)) (Y.kept (j.mono (by simp))) Z hs);have o:=(Kept.refl [] w).alloc (gI #[gn 0,gn 0,gH kI] 167);have G:=fY w (gI #[gn 0,gn 0,gH kI] 167);have f:=(show w.heap.size≠r by omega);have HR:=h;have HA:=Y;have F:=fU (aaU R.cs bg Z);have HS:=fU (show pH look lg (R.cs.extract bg R.cs.size)=if lQ look lg (R.cs.extract bg R.cs.size) false=0 then 1 else lQ look lg (R.cs.extract bg R.cs.size) false from rfl);have U:=fU (show rK look lg (R.cs.extract bg R.cs.size)=if lQ look lg (R.cs.extract bg R.cs.size) false=0 then (R.cs.extract bg R.cs.size).extract 0 1 else og look lg (R.cs.extract bg R.cs.size) false from rfl);generalize pH look lg (R.cs.extract bg R.cs.size)=X at *;generalize rK look lg (R.cs.extract bg R.cs.size)=V at *;generalize lQ look lg (R.cs.extract bg R.cs.size) false=n at *;generalize og look lg (R.cs.extract bg R.cs.size) false=B at *;go_enter func74,ntmps74
 go_wp21
 go_cut [3,4]from 5 to 21 (λtv nv wc=>tv=gH B/\nv=gn n/\Kept [] w wc/\wc.heap[w.heap.size]?=some (gI #[gn 0,gn 0,gH kI] 167))
 case first=>
  go_region_with (go_at_call 152;refine(C1 _ o.drew).mono ?_;rintro e w1 ⟨rfl,l⟩;have J:=fU ((o.drew).trans l);have H:=fU ((((Kept.refl [] _).drew).trans l).at G (by simp));clear l)
  all_goals (try (go_wp21))
  all_goals (go_meet;exact⟨rfl,rfl,J,H⟩)
 case rest=>
  obtain⟨rfl,rfl,j,hg⟩:=hcut;have HK:=j;have HG:=hg;have A:=HR.kept j (by simp)
  by_cases y:n=0
  .have D:=C2 wc j;have u:X=1:=by rw[HS.out,gF y]
   have x:V=R.cs.extract bg (bg+1):=by rw[U.out,gF y,F.out]
   have m:=fU u;have E:=fU x;clear u x;subst y
   go_wp21
   refine D.mono ?_;rintro e w2 ⟨rfl,d,P⟩;have c:=d.at HG (by simpa using f);have Q:=fW c 0;have S:=fW c 1;have T:=fW c 2;have z0:=gE c 0;have z1:=gE c 1;have z2:=gE c 2;dsimp at Q S T;have k:=UD (a:=(cut bg:Int)) (b:=(cut (bg+1):Int)) (s:=R.cs.extract bg (bg+1)) ((HK.mono (by simp)).trans d) P c (λe=>f e.symm);go_wp2;refine qf (v:= .agg #[gn (cut bg),gn (cut (bg+1)),gH (R.cs.extract bg (bg+1))]) ?_ rfl ⟨by rw[m.out,E.out],k.1,by rw[m.out];exact k.2.1⟩;have K:=fW k.2.2;simp[results,results74,asAddr,Result.andThen,go_sem,K]
  .have u:X=n:=by rw[HS.out,gQ y]
   have x:V=B:=by rw[U.out,gQ y]
   have m:=fU u;have E:=fU x;have a0:((n:Int)==0)=false:=beq_eq_false_iff_ne.2 (by omega);have b2:=A.bg;have f2:=A.free 3;have p2:=A.ps;have q:=(j.mono (S':=[r]) (by simp)).setCell (p:=⟨r,3,none⟩) (.inl (by simp)) (gn ((bg+n:Nat)));have t:=A.Mx (bg+n);have I:=(((Kept.refl [r] wc).setCell (p:=⟨r,3,none⟩) (.inl (by simp)) (gn ((bg+n:Nat))))).at hg (by simpa using f);have D:=pS r R bg (bg+n) g cap cut _ t (HA.kept q) (by omega) (by omega) hs;clear u x
   go_wp21
   refine D.mono ?_;rintro e w2 ⟨rfl,d⟩;have c:=d.at I (by simp);have Q:=fW c 0;have S:=fW c 1;have T:=fW c 2;have z0:=gE c 0;have z1:=gE c 1;have z2:=gE c 2;dsimp at Q S T;have k:=UD (a:=(cut bg:Int)) (b:=(cut (bg+n):Int)) (s:=B) (q.trans (d.mono (by simp))) (t.kept d (by simp)) c (λe=>f e.symm);go_wp2;refine qf (v:= .agg #[gn (cut bg),gn (cut (bg+n)),gH B]) ?_ rfl ⟨by rw[m.out,E.out],k.1,by rw[m.out];exact k.2.1⟩;have K:=fW k.2.2;simp[results,results74,asAddr,Result.andThen,go_sem,K]
inductive RW where
 |VX
 |X8 (t:gy)
 |Tt (nm:gy) (L:lh)
 |fin (nm:gy) (L:lh)
 |Xq (t:gy)
 |dtp (nm:gy) (q:Bool)
 |lost
inductive zX where
 |stop
 |tok (kd:RW) (e:Nat)
def Ve (base:Nat) (a b:Int) (v:gO) (w:gv):RW->Prop
 | .VX=>v= .iface 165 (.agg #[gn a,gn b])
 | .X8 t=>v= .iface 167 (.agg #[gn a,gn b,gH t])
 | .Tt nm L=>∃c d,v= .iface 175 (.agg #[gn a,gn b,gH nm,.slice c L.length d])/\w.ownsRow base 275 2 (.slice c L.length d) L.length (rE L)
 | .fin nm L=>∃c d,v= .iface 176 (.agg #[gn a,gn b,gH nm,.slice c L.length d])/\w.ownsRow base 275 2 (.slice c L.length d) L.length (rE L)
 | .Xq t=>v= .iface 177 (.agg #[gn a,gn b,gH t])
 | .dtp nm q=>v= .iface 179 (.agg #[gn a,gn b,gH nm,.bool q])
 | .lost=>v= .iface 169 (.agg #[gn a,gn b])
def Ve.base {base c : Nat} {a b : Int} {k : RW} (h:Ve base a b v w k) (d:c<=base):Ve c a b v w k:=by
 cases k with
 |Tt nm L=>have⟨ao,cp,h1,h2⟩:=h;exact⟨ao,cp,h1,jW h2 d⟩
 |fin nm L=>have⟨ao,cp,h1,h2⟩:=h;exact⟨ao,cp,h1,jW h2 d⟩
 |_=>exact h
def nR (w:gv) (r:Nat) (R:RC) (bg:Nat) (cut:Nat->Nat) (e:Ending) (w':gv):zX->Prop
 | .stop=>∃k,e= .panicked [{v:= .iface 62 (gJ k),recovered:=false}]/\Ty w' k 7 (cut bg)/\w.heap.size<=k/\Kept [r] w w'
 | .tok kd m=>(∃v,e=iq v/\Ve w.heap.size (cut bg) (cut m) v w' kd)/\Kept [r] w w'/\Rd w' r R bg m
def nR.back {w1 : gv} {e : Ending} {T : zX} (h:nR w1 r R bg cut e w' T) (a:Kept [r] w w1):nR w r R bg cut e w' T:=by
 cases T with
 |stop=>have⟨k,h1,h2,h3,h4⟩:=h;exact⟨k,h1,h2,jP a.size h3,a.trans h4⟩
 |tok kd m=>have⟨⟨v,h1,h2⟩,h3,h4⟩:=h;exact⟨⟨v,h1,h2.base a.size⟩,a.trans h3,h4⟩
def tj (R:RC) (a:gy->lh->RW) (nm:gy):Hq->zX
 | .stop=> .stop
 | .lost=> .tok .lost R.cs.size
 | .whole m L=> .tok (a nm L) m
structure TO (w:gv) (r:Nat) (R:RC) (g cap b lg:Nat) (look:gy->Option gy) (cut:Nat->Nat):Prop where
 gL:LD w r R g cap cut
 Wr:Nm w r R b lg look
 gl:Gl w r
 small:R.cs.size<=1024
def TO.kept (h:TO w r R g cap b lg look cut) (a:Kept [r] w w'):TO w' r R g cap b lg look cut:=
 ⟨h.gL.kept a,h.Wr.kept a,h.gl.kept a,h.small⟩
def Tw (r:Nat) (R:RC) (bg ps g cap b lg:Nat) (look:gy->Option gy) (cut:Nat->Nat) (w:gv) (h:Rd w r R bg ps) (d:TO w r R g cap b lg look cut) (z:bg<=R.cs.size) (I:ps<=R.cs.size):
  Calls prog 145 #[gJ r] w λe w'=>nR w r R bg cut e w' (tj R .Tt (yw R ps) (lM R look lg [] (yv R ps))):=by
 have C:=UR r R bg ps g cap b lg look cut w h d.gL d.Wr d.gl z I d.small;have y:=d;generalize yw R ps=nm at C|-;generalize lM R look lg [] (yv R ps)=O at C|-;cases O with
 |stop=>
  go_enter func145,ntmps145
  go_wp21
  refine C.mono ?_;rintro e c ⟨k,rfl,B,F,D⟩;go_wp2;exact⟨rfl,k,rfl,B,F,D⟩
 |lost=>
  go_enter func145,ntmps145
  go_wp21
  refine C.mono ?_;rintro e c ⟨rfl,E,x⟩;have j:Kept [] c (c.alloc (.cells #[gn 0,gn 0,gH kI,jX] 173)):=(Kept.refl _ _).alloc _;have l:=x.kept j (by simp);have a:=E.trans (j.mono (by simp));have A:=pS r R bg R.cs.size g cap cut _ l (y.kept a).gL z (ig _) y.small
  go_wp21
  refine A.mono ?_;rintro e J ⟨rfl,f⟩;have o:=a.trans (f.mono (by simp));have q:=l.kept f (by simp);go_wp2;go_ret;exact⟨⟨_,rfl,rfl⟩,o,q⟩
 |whole m L=>
  go_enter func145,ntmps145
  go_wp21
  refine C.mono ?_;rintro e c ⟨⟨t,u,rfl,H⟩,G,x⟩;have j:Kept [] c (c.alloc (.cells #[gn (cut bg),gn (cut m),gH nm,.slice t L.length u] 173)):=(Kept.refl _ _).alloc _;have l:=x.kept j (by simp);have a:=G.trans (j.mono (by simp));have p:=H.alloc (.cells #[gn (cut bg),gn (cut m),gH nm,.slice t L.length u] 173);go_wp2;go_ret;exact⟨⟨_,rfl,t,u,rfl,p⟩,a,l⟩
def Yo (r:Nat) (R:RC) (bg ps g cap b lg:Nat) (look:gy->Option gy) (cut:Nat->Nat) (w:gv) (h:Rd w r R bg ps) (d:TO w r R g cap b lg look cut) (z:bg<=R.cs.size) (I:ps<=R.cs.size):
  Calls prog 235 #[gJ r] w λe w'=>nR w r R bg cut e w' (tj R .fin (yw R ps) (lM R look lg [] (yv R ps))):=by
 have C:=UR r R bg ps g cap b lg look cut w h d.gL d.Wr d.gl z I d.small;have y:=d;generalize yw R ps=nm at C|-;generalize lM R look lg [] (yv R ps)=O at C|-;cases O with
 |stop=>
  go_enter func235,ntmps235
  go_wp21
  refine C.mono ?_;rintro e c ⟨k,rfl,B,F,D⟩;go_wp2;exact⟨rfl,k,rfl,B,F,D⟩
 |lost=>
  go_enter func235,ntmps235
  go_wp21
  refine C.mono ?_;rintro e c ⟨rfl,E,x⟩;have j:Kept [] c (c.alloc (.cells #[gn 0,gn 0,gH kI,jX] 173)):=(Kept.refl _ _).alloc _;have l:=x.kept j (by simp);have a:=E.trans (j.mono (by simp));have A:=pS r R bg R.cs.size g cap cut _ l (y.kept a).gL z (ig _) y.small
  go_wp21
  refine A.mono ?_;rintro e J ⟨rfl,f⟩;have o:=a.trans (f.mono (by simp));have q:=l.kept f (by simp);go_wp2;go_ret;exact⟨⟨_,rfl,rfl⟩,o,q⟩
 |whole m L=>
  go_enter func235,ntmps235
  go_wp21
  refine C.mono ?_;rintro e c ⟨⟨t,u,rfl,H⟩,G,x⟩;have j:Kept [] c (c.alloc (.cells #[gn (cut bg),gn (cut m),gH nm,.slice t L.length u] 173)):=(Kept.refl _ _).alloc _;have l:=x.kept j (by simp);have a:=G.trans (j.mono (by simp));have p:=H.alloc (.cells #[gn (cut bg),gn (cut m),gH nm,.slice t L.length u] 173);go_wp2;go_ret;exact⟨⟨_,rfl,t,u,rfl,p⟩,a,l⟩
def vx (R:RC) (look:gy->Option gy) (lg bg:Nat):zX:= .tok (.X8 (rK look lg (R.cs.extract bg R.cs.size))) (bg+pH look lg (R.cs.extract bg R.cs.size))
def mJ (R:RC) (look:gy->Option gy) (lg bg ps:Nat):zX:=
 if PW R ps=true then tj R .fin (yw R ps) (lM R look lg [] (yv R ps))
 else if pre (R.cs.extract ps R.cs.size) jI=true then .tok .lost (ps+1)
 else if ps=R.cs.size then vx R look lg bg
 else .tok (.Xq (oA (R.cs.extract ps (scan (jr jI) R.cs ps)))) (rp R ps)
def KF (r:Nat) (R:RC) (bg ps g cap b lg:Nat) (look:gy->Option gy) (cut:Nat->Nat) (w:gv) (h:Rd w r R bg ps) (Z:TO w r R g cap b lg look cut) (hb:bg < R.cs.size) (H:ps<=R.cs.size):
  Calls prog 146 #[gJ r] w λe w'=>nR w r R bg cut e w' (mJ R look lg bg ps):=by
 have E:=Z;have X:=h;have I:=Z.small;have B:=Bx r R bg ps w h H I;have a0:∀(Y:Fn) (first cap:jM) (w:gv),(Instr.makeFunc Y first cap).run prog w= .ok (.func Y first cap) w:=λ_ _ _ _=>rfl;cases hl:PW R ps
 .rw[hl]at B;have f:=fU B;have D:=λq=>lA r R bg ps jI (w.drewN q) (show Rd (w.drewN q) r R bg ps from X) H I (by decide);clear B;cases hgt:pre (R.cs.extract ps R.cs.size) jI
  .have A:taken R jI ps=ps:=by unfold taken;rw[gQ (by simp[hgt])]
   rw[hgt,A]at D;have t:=fU D;clear D
   by_cases d:ps=R.cs.size
   .have y:mJ R look lg bg ps=vx R look lg bg:=by unfold mJ;rw[gQ (by simp[hl]),gQ (by simp[hgt]),gF d]
    rw[y];have U:decide (ps=R.cs.size)=true:=by simp[d]
    go_enter func146,ntmps146
    go_wp21
    refine f.mono ?_;rintro e J ⟨rfl,q,rfl⟩
    go_wp21
    refine(t q).mono ?_;rintro e u ⟨rfl,l,c⟩;have a:=((Kept.refl [r] w).drewN q).trans l;have j:=oD r R bg ps u c;rw[U]at j
    go_wp21
    refine j.mono ?_;rintro e w3 ⟨rfl,p,rfl⟩;have x:=Dq r R bg ps g cap b lg look cut (u.drewN p) (show Rd (u.drewN p) r R bg ps from c) (E.kept (a.drewN p)).gL (E.kept (a.drewN p)).Wr hb I
    go_wp21
    refine x.mono ?_;rintro e K ⟨rfl,o,z⟩;have N:=(show nR w r R bg cut (iq (.iface 167 (.agg #[gn (cut bg),gn (cut (bg+pH look lg (R.cs.extract bg R.cs.size))),gH (rK look lg (R.cs.extract bg R.cs.size))]))) K (vx R look lg bg)from⟨⟨_,rfl,rfl⟩,(a.drewN p).trans o,z⟩);go_wp2;go_ret;exact N
   .have y:mJ R look lg bg ps= .tok (.Xq (oA (R.cs.extract ps (scan (jr jI) R.cs ps)))) (rp R ps):=by unfold mJ;rw[gQ (by simp[hl]),gQ (by simp[hgt]),gQ d]
    rw[y];have U:decide (ps=R.cs.size)=false:=by simp[d]
    go_enter func146,ntmps146
    go_wp21
    refine f.mono ?_;rintro e J ⟨rfl,q,rfl⟩
    go_wp21
    refine(t q).mono ?_;rintro e u ⟨rfl,l,c⟩;have a:=((Kept.refl [r] w).drewN q).trans l;have j:=oD r R bg ps u c;rw[U]at j
    go_wp21
    refine j.mono ?_;rintro e w3 ⟨rfl,p,rfl⟩;have F:=E.kept (a.drewN p);have x:=tR r R bg ps g cap cut (u.drewN p) (show Rd (u.drewN p) r R bg ps from c) F.gL F.gl (by omega) H I
    go_wp21
    refine x.mono ?_;rintro e K ⟨rfl,o,S⟩;have P:=(a.drewN p).trans o;go_wp2;go_ret;exact⟨⟨_,rfl,rfl⟩,P,S⟩
  .have A:taken R jI ps=ps+1:=by unfold taken;rw[gF hgt];rfl
   have W:ps+1<=R.cs.size:=ly hgt H;rw[hgt,A]at D;have t:=fU D;have y:mJ R look lg bg ps= .tok .lost (ps+1):=by unfold mJ;rw[gQ (by simp[hl]),gF hgt]
   rw[y];clear D;go_enter func146,ntmps146
   go_wp21
   refine f.mono ?_;rintro e J ⟨rfl,q,rfl⟩
   go_wp21
   refine(t q).mono ?_;rintro e u ⟨rfl,l,c⟩;have a:=((Kept.refl [r] w).drewN q).trans l;have CP:=pS r R bg (ps+1) g cap cut u c (E.kept a).gL (by omega) W I
   go_wp21
   refine CP.mono ?_;rintro e w3 ⟨rfl,G⟩;have O:=a.trans (G.mono (by simp));have Q:=c.kept G (by simp);go_wp2;go_ret;exact⟨⟨_,rfl,rfl⟩,O,Q⟩
 .rw[hl]at B;have f:=fU B;have y:mJ R look lg bg ps=tj R .fin (yw R ps) (lM R look lg [] (yv R ps)):=by unfold mJ;rw[gF hl]
  rw[y];have x:=(λq=>Yo r R bg ps g cap b lg look cut (w.drewN q) (show Rd (w.drewN q) r R bg ps from X) (E.kept ((Kept.refl [r] w).drewN q)) (by omega) H);generalize tj R .fin (yw R ps) (lM R look lg [] (yv R ps))=T at x|-;clear B;cases T with
  |stop=>
   go_enter func146,ntmps146
   go_wp21
   refine f.mono ?_;rintro e J ⟨rfl,q,rfl⟩
   go_wp21
   refine(x q).mono ?_;rintro e J ⟨k,rfl,H2,h3,h4⟩;have H4:=((Kept.refl [r] w).drewN q).trans h4;have V:w.heap.size<=k:=h3;go_wp2;exact⟨rfl,k,rfl,H2,V,H4⟩
  |tok kd m=>
   go_enter func146,ntmps146
   go_wp21
   refine f.mono ?_;rintro e J ⟨rfl,q,rfl⟩
   go_wp21
   refine(x q).mono ?_;rintro e K ⟨⟨v,rfl,hv⟩,o,z⟩;have N:=(show nR w r R bg cut (iq v) K (.tok kd m)from⟨⟨v,rfl,hv⟩,((Kept.refl [r] w).drewN q).trans o,z⟩);go_wp2;go_ret;exact N
def isQ (R:RC) (ps:Nat):Bool:=decide (ps < R.cs.size)&&jr ⟨#[63]⟩ (bt R.cs ps)
def qT (R:RC) (look:gy->Option gy) (lg bg ps:Nat):zX:=
 if PW R ps=true then tj R .Tt (yw R ps) (lM R look lg [] (yv R ps))
 else if pre (R.cs.extract ps R.cs.size) ⟨#[47]⟩=true then mJ R look lg bg (ps+1)
 else if pre (R.cs.extract ps R.cs.size) ⟨#[33,45,45]⟩=true then .tok (.Xq (oA (nT R (ps+3)))) (nH R (ps+3))
 else if zD R lE ps=true then .tok (.dtp (Sg R (ps+8)) (dtQ R (ps+8))) (rp R (FU R (ps+8)))
 else if pre (R.cs.extract ps R.cs.size) ⟨#[33]⟩=true then .tok (.Xq (oA (R.cs.extract (ps+1) (scan (jr jI) R.cs (ps+1))))) (rp R (ps+1))
 else if isQ R ps=true then .tok (.Xq (oA (R.cs.extract ps (scan (jr jI) R.cs ps)))) (rp R ps)
 else vx R look lg bg
theorem PU (h:zD R s ps=true) (a:ps<=R.cs.size):ps+s.size<=R.cs.size:=by
 unfold zD at h;grind
theorem YR (r:Nat) (R:RC) (bg ps:Nat) (w:gv) (h:Rd w r R bg ps) (c:ps<=R.cs.size) (d:R.cs.size<=1024):
  Calls prog 143 #[gJ r,.func (.func 241) #[] #[gJ w.heap.size]] (w.alloc (.cells #[gH ⟨#[63]⟩] 9))
   λe w'=>e=iq (.bool (isQ R ps))/\Kept [r] w w'/\Rd w' r R bg ps:=by
 have f:=jk h;have k:Kept [] w (w.alloc (.cells #[gH ⟨#[63]⟩] 9)):=(Kept.refl _ _).alloc _;have b:=fY w (.cells #[gH ⟨#[63]⟩] 9);refine(I7 r R bg ps _ _ _ _ (k.at h (by simp)) c d (BX _ [r] w.heap.size ⟨#[63]⟩ (by simp) (by simp) (by grind))).mono ?_;rintro e w' ⟨a,n,rfl⟩;exact⟨a,(k.mono (by simp)).drewN n,k.at h (by simp)⟩
def M4 (r:Nat) (R:RC) (bg ps g cap b lg:Nat) (look:gy->Option gy) (cut:Nat->Nat) (w:gv) (h:Rd w r R bg ps) (F:TO w r R g cap b lg look cut) (W:bg < R.cs.size) (p:ps<=R.cs.size):
  Calls prog 73 #[gJ r] w λe w'=>nR w r R bg cut e w' (qT R look lg bg ps):=by
 have u:=F.small;have P:=Bx r R bg ps w h p u;obtain⟨T,f⟩:∃T,qT R look lg bg ps=T:=⟨_,rfl⟩;rw[f];unfold qT at f;go_enter func73,ntmps73
 go_wp21
 refine P.mono ?_;rintro e w1 ⟨rfl,q,rfl⟩;have x:=(Kept.refl [r] w).drewN q;have G:Rd (w.drewN q) r R bg ps:=h;cases c0:PW R ps with
 |true=>
  rw[gF c0]at f;have a:=F.kept x;have o:=Tw r R bg ps g cap b lg look cut (w.drewN q) G a (by omega) p;rw[f]at o;cases T with
  |stop=>
   go_wp21
   refine o.mono ?_;rintro e t ⟨k,rfl,Q,S,U⟩;have z:=nR.back (show nR (w.drewN q) r R bg cut _ t .stop from⟨k,rfl,Q,S,U⟩) x;go_wp2;exact⟨rfl,z⟩
  |tok kd m=>
   go_wp21
   refine o.mono ?_;rintro e t ⟨⟨v,rfl,V⟩,d,c⟩;have z:=nR.back (show nR (w.drewN q) r R bg cut (iq v) t (.tok kd m)from⟨⟨v,rfl,V⟩,d,c⟩) x;go_wp2;go_ret;exact z
 |false=>
  rw[gQ (by simp[c0])]at f;have I:=lA r R bg ps ⟨#[47]⟩ (w.drewN q) G p u (by decide)
  go_wp21
  refine I.mono ?_;rintro e H ⟨rfl,d,c⟩;have y:=x.trans d;unfold taken at c;cases c1:pre (R.cs.extract ps R.cs.size) ⟨#[47]⟩with
  |true=>
   rw[gF c1]at f c;have a:=F.kept y;have o:=KF r R bg (ps+1) g cap b lg look cut H c a W (ly c1 p);rw[f]at o;cases T with
   |stop=>
    go_wp21
    refine o.mono ?_;rintro e t ⟨k,rfl,Q,S,U⟩;have z:=nR.back (show nR H r R bg cut _ t .stop from⟨k,rfl,Q,S,U⟩) y;go_wp2;exact⟨rfl,z⟩
   |tok kd m=>
    go_wp21
    refine o.mono ?_;rintro e t ⟨⟨v,rfl,V⟩,d,c⟩;have z:=nR.back (show nR H r R bg cut (iq v) t (.tok kd m)from⟨⟨v,rfl,V⟩,d,c⟩) y;go_wp2;go_ret;exact z
  |false=>
   rw[gQ (by simp[c1])]at f c;have J:=lA r R bg ps ⟨#[33,45,45]⟩ H c p u (by decide)
   go_wp21
   refine J.mono ?_;rintro e X ⟨rfl,d,c⟩;have A:=y.trans d;unfold taken at c;cases c2:pre (R.cs.extract ps R.cs.size) ⟨#[33,45,45]⟩with
   |true=>
    rw[gF c2]at f c;have a:=F.kept A;have o:=(O8 r R bg (ps+3) g cap cut X c a.gL a.gl (by omega) (ly c2 p) u);subst f
    go_wp21
    refine o.mono ?_;rintro e t ⟨rfl,d,l⟩;have j:=A.trans d;go_wp2;go_ret;exact⟨⟨_,rfl,rfl⟩,j,l⟩
   |false=>
    rw[gQ (by simp[c2])]at f c;have K:=Rn r R bg ps lE X c p u (by decide)
    go_wp21
    refine K.mono ?_;rintro e Y ⟨rfl,d,c⟩;have B:=A.trans d;cases c3:zD R lE ps with
    |true=>
     rw[gF c3]at f c;have a:=F.kept B;have o:=(KQ r R bg (ps+8) g cap cut Y c a.gL a.gl (by omega) (PU c3 p) u);subst f
     go_wp21
     refine o.mono ?_;rintro e t ⟨rfl,d,l⟩;have j:=B.trans d;go_wp2;go_ret;exact⟨⟨_,rfl,rfl⟩,j,l⟩
    |false=>
     rw[gQ (by simp[c3])]at f c;have N:=lA r R bg ps ⟨#[33]⟩ Y c p u (by decide)
     go_wp21
     refine N.mono ?_;rintro e Z ⟨rfl,d,c⟩;have D:=B.trans d;unfold taken at c;cases c4:pre (R.cs.extract ps R.cs.size) ⟨#[33]⟩with
     |true=>
      rw[gF c4]at f c;have a:=F.kept D;have o:=(tR r R bg (ps+1) g cap cut Z c a.gL a.gl (by omega) (ly c4 p) u);subst f
      go_wp21
      refine o.mono ?_;rintro e t ⟨rfl,d,l⟩;have j:=D.trans d;go_wp2;go_ret;exact⟨⟨_,rfl,rfl⟩,j,l⟩
     |false=>
      rw[gQ (by simp[c4])]at f c
      go_wp21
      refine(oN _ _).mono ?_;rintro e wq ⟨rfl,rfl⟩;have O:=YR r R bg ps Z c p u
      go_wp21
      refine O.mono ?_;rintro e w6 ⟨rfl,d,c⟩;have E:=D.trans d;have a:=F.kept E;cases c5:isQ R ps with
      |true=>
       rw[gF c5]at f;have o:=(tR r R bg ps g cap cut w6 c a.gL a.gl (by omega) p u);subst f
       go_wp21
       refine o.mono ?_;rintro e t ⟨rfl,d,l⟩;have j:=E.trans d;go_wp2;go_ret;exact⟨⟨_,rfl,rfl⟩,j,l⟩
      |false=>
       rw[gQ (by simp[c5])]at f;have o:=(Dq r R bg ps g cap b lg look cut w6 c a.gL a.Wr W u);subst f
       go_wp21
       refine o.mono ?_;rintro e t ⟨rfl,d,l⟩;have j:=E.trans d;go_wp2;go_ret;exact⟨⟨_,rfl,rfl⟩,j,l⟩
def wT (t:gy):gy:=⟨(Lib.trimPrefix t.data.toList [60,47]).toArray⟩
def KP (t:gy):Bool:=Lib.hasPrefix t.data.toList [60,47]
theorem GV (t:gy):(wT t).size<=t.size:=by
 have e1:t.size=t.data.toList.length:=Kn t;have e2:(wT t).size=(Lib.trimPrefix t.data.toList [60,47]).length:=by
  rw[Kn];simp[wT]
 rw[e1,e2];unfold Lib.trimPrefix
 grind
def ND (R:RC) (nm:gy) (ps:Nat):Bool:=
 KP (R.cs.extract ps R.cs.size)&&decide (nm.size < (wT (R.cs.extract ps R.cs.size)).size)&&((small ((wT (R.cs.extract ps R.cs.size)).extract 0 nm.size)).toList==nm.toList)&&jr jn (bt (wT (R.cs.extract ps R.cs.size)) nm.size)
def FE (v:gO) (W:gv):Prop:=∃b,v= .func (.func 241) #[] #[gJ b]/\b < W.heap.size/\W.cell? ⟨b,0,none⟩=some (gH jn)
def FE.k {v:gO} {W a:gv} (h:FE v W) (c:Kept [] W a):FE v a:=by
 have⟨b,h1,h2,h3⟩:=h;exact⟨b,h1,lV h2 c.size,(c.cell (p:=⟨b,0,none⟩) h2 (by simp)).trans h3⟩
def FE.new (W:gv):FE (.func (.func 241) #[] #[gJ W.heap.size]) (W.alloc (.cells #[gH jn] 9)):=by
 simp[FE]
def adF (r:Nat) (R:RC) (bg ps:Nat) (nm:gy) (w:gv) (h:Rd w r R bg ps) (A:ps<=R.cs.size) (B:R.cs.size<=1024) (p:KP (R.cs.extract ps R.cs.size)=false):
  Calls prog 138 #[gJ r,gH nm] w λe w'=>e=iq (.bool false)/\Kept [] w w':=by
 have k:=fU (wB r R bg ps w h A B);have E:=GV (R.cs.extract ps R.cs.size);have d:(R.cs.extract ps R.cs.size).size=R.cs.size - ps:=by simp
 rw[d]at E;clear h d;generalize R.cs.extract ps R.cs.size=t at *;have f:=fU (λw=>Tryz.strings_CutPrefix t ⟨#[60,47]⟩ w);simp only at f;rw[show(⟨(Lib.trimPrefix t.data.toList [60,47]).toArray⟩:gy)=wT t from rfl,show Lib.hasPrefix t.data.toList [60,47]=KP t from rfl]at f;generalize wT t=s at *;rw[p]at f;obtain⟨u,D⟩:∃u:gy,u=⟨#[]⟩:=⟨_,rfl⟩;obtain⟨c,o⟩:∃c:Int,c=0:=⟨_,rfl⟩;clear p D o;go_enter func138,ntmps138
 go_wp21
 refine k.out.mono ?_;rintro e H ⟨rfl,q,rfl⟩
 go_wp21
 refine(f.out _).mono ?_;rintro e w' ⟨rfl,rfl⟩
 go_wp21
 refine tC (by rfl) ?_;refine pN (λ(g:Unit) z=>⟨#[gJ r,gH nm,undef,undef,.bool false,gH s,.bool false,gn nm.size,.tuple #[gH s,.bool false],gJ r,gH t,.tuple #[gH s,.bool false],gH s,.bool false,gH nm,gn nm.size,cd z 0 (.bool false),cd z 1 (.bool false),undef,undef,undef,undef,cd z 6 (.bool false),cd z 7 (.bool false),undef,undef,undef,undef,undef,undef,cd z 14 (.bool false),cd z 15 (.bool false),undef,undef,undef,undef,undef,cd z 21 (.bool false)],[]⟩) (λg z W=>Kept [] w W) 23 [[],[0],[1],[1],[1],[1],[1],[6],[7],[7],[7],[7],[7],[7],[7],[14],[15],[15],[15],[15],[15],[15],[21]] (()) rfl (by rfl) (((Kept.refl [] w).drewN q).drew) ?_ ?_
 .repeat' first|exact mV|refine mU ?_ ?_
  all_goals
   rintro g z W j m G;simp[BV]at m;refine kP rfl ?_;intro F l;simp only[ld,m];go_simp
   first
   |refine l _ _ ⟨g,?_,j⟩
   simp[oB,vo,ld,m]
 .rintro g W j;simp only[vc];have x:=fU j;clear j;rename_i y a;refine a _ _ ?_;clear a y;go_wp2;go_ret;exact⟨rfl,x.out⟩
def adG (r:Nat) (R:RC) (bg ps:Nat) (nm:gy) (w:gv) (h:Rd w r R bg ps) (B:ps<=R.cs.size) (D:R.cs.size<=1024) (p:KP (R.cs.extract ps R.cs.size)=true) (H:¬nm.size < (wT (R.cs.extract ps R.cs.size)).size):
  Calls prog 138 #[gJ r,gH nm] w λe w'=>e=iq (.bool false)/\Kept [] w w':=by
 have k:=fU (wB r R bg ps w h B D);have F:=GV (R.cs.extract ps R.cs.size);have d:(R.cs.extract ps R.cs.size).size=R.cs.size - ps:=by simp
 rw[d]at F;clear h d;generalize R.cs.extract ps R.cs.size=t at *;have f:=fU (λw=>Tryz.strings_CutPrefix t ⟨#[60,47]⟩ w);simp only at f;rw[show(⟨(Lib.trimPrefix t.data.toList [60,47]).toArray⟩:gy)=wT t from rfl,show Lib.hasPrefix t.data.toList [60,47]=KP t from rfl]at f;generalize wT t=s at *;rw[p]at f;obtain⟨u,E⟩:∃u:gy,u=⟨#[]⟩:=⟨_,rfl⟩;obtain⟨c,o⟩:∃c:Int,c=0:=⟨_,rfl⟩;have x:=fU (eq_false (show ¬(nm.size:Int) < (s.size:Int) by omega));clear p E o;go_enter func138,ntmps138
 go_wp21
 refine k.out.mono ?_;rintro e J ⟨rfl,q,rfl⟩
 go_wp21
 refine(f.out _).mono ?_;rintro e w' ⟨rfl,rfl⟩
 go_wp21
 refine tC (by rfl) ?_;refine pN (λ(g:Unit) z=>⟨#[gJ r,gH nm,undef,undef,.bool false,gH s,.bool true,gn nm.size,.tuple #[gH s,.bool true],gJ r,gH t,.tuple #[gH s,.bool true],gH s,.bool true,gH nm,gn nm.size,cd z 0 (.bool true),cd z 1 (.bool true),cd z 2 (gH s),cd z 3 (gn s.size),cd z 4 (gn nm.size),cd z 5 (.bool false),cd z 6 (.bool false),cd z 7 (.bool false),undef,undef,undef,undef,undef,undef,cd z 14 (.bool false),cd z 15 (.bool false),undef,undef,undef,undef,undef,cd z 21 (.bool false)],[]⟩) (λg z W=>Kept [] w W) 23 [[],[0],[1],[1,2],[1],[1,3,4],[1,5],[6],[7],[7],[7],[7],[7],[7],[7],[14],[15],[15],[15],[15],[15],[15],[21]] (()) rfl (by rfl) (((Kept.refl [] w).drewN q).drew) ?_ ?_
 .repeat' first|exact mV|refine mU ?_ ?_
  all_goals
   rintro g z W j m I;simp[BV]at m;refine kP rfl ?_;intro G l;simp only[ld,m]
   try simp only[x.out]
   go_simp
   first
   |refine l _ _ ⟨g,?_,j⟩
   simp[oB,vo,ld,m]
 .rintro g W j;simp only[vc];have y:=fU j;clear j;rename_i A a;refine a _ _ ?_;clear a A;go_wp2;go_ret;exact⟨rfl,y.out⟩
def adH (r:Nat) (R:RC) (bg ps:Nat) (nm:gy) (w:gv) (h:Rd w r R bg ps) (F:ps<=R.cs.size) (G:R.cs.size<=1024) (y:KP (R.cs.extract ps R.cs.size)=true) (O:nm.size < (wT (R.cs.extract ps R.cs.size)).size) (N:((small ((wT (R.cs.extract ps R.cs.size)).extract 0 nm.size)).toList==nm.toList)=false):
  Calls prog 138 #[gJ r,gH nm] w λe w'=>e=iq (.bool false)/\Kept [] w w':=by
 have l:=fU (wB r R bg ps w h F G);have H:=GV (R.cs.extract ps R.cs.size);have j:(R.cs.extract ps R.cs.size).size=R.cs.size - ps:=by simp
 rw[j]at H;clear h j;generalize R.cs.extract ps R.cs.size=t at *;have k:=fU (λw=>Tryz.strings_CutPrefix t ⟨#[60,47]⟩ w);simp only at k;rw[show(⟨(Lib.trimPrefix t.data.toList [60,47]).toArray⟩:gy)=wT t from rfl,show Lib.hasPrefix t.data.toList [60,47]=KP t from rfl]at k;generalize wT t=s at *;rw[y]at k;have E:(s.extract 0 nm.size).size=nm.size:=by simp;omega
 have m:=fU (λW=>vP (s.extract 0 nm.size) W (by omega));have A:=fU (eq_true (show(nm.size:Int) < (s.size:Int) by omega));clear E;generalize small (s.extract 0 nm.size)=u at *;obtain⟨c,p⟩:∃c:Int,c=0:=⟨_,rfl⟩;clear y p;go_enter func138,ntmps138
 go_wp21
 refine l.out.mono ?_;rintro e Q ⟨rfl,q,rfl⟩
 go_wp21
 refine(k.out _).mono ?_;rintro e w' ⟨rfl,rfl⟩
 go_wp21
 refine tC (by rfl) ?_;refine pN (λ(g:Unit) z=>⟨#[gJ r,gH nm,undef,undef,.bool false,gH s,.bool true,gn nm.size,.tuple #[gH s,.bool true],gJ r,gH t,.tuple #[gH s,.bool true],gH s,.bool true,gH nm,gn nm.size,cd z 0 (.bool true),cd z 1 (.bool true),cd z 2 (gH s),cd z 3 (gn s.size),cd z 4 (gn nm.size),cd z 5 (.bool true),cd z 6 (.bool true),cd z 7 (.bool true),cd z 8 (gH s),cd z 9 (gn nm.size),cd z 10 (gH (s.extract 0 nm.size)),cd z 11 (gH u),cd z 12 (gH nm),cd z 13 (.bool false),cd z 14 (.bool false),cd z 15 (.bool false),undef,undef,undef,undef,undef,cd z 21 (.bool false)],[]⟩) (λg z W=>Kept [] w W) 23 [[],[0],[1],[1,2],[1],[1,3,4],[1,5],[6],[7],[7],[7,8,9],[7,10],[7],[7,11,12],[7,13],[14],[15],[15],[15],[15],[15],[15],[21]] (()) rfl (by rfl) (((Kept.refl [] w).drewN q).drew) ?_ ?_
 .repeat' first|exact mV|refine mU ?_ ?_
  all_goals
   rintro g z W a o P;simp[BV]at o;refine kP rfl ?_;intro I d;simp only[ld,o]
   try simp only[A.out]
   go_simp
   try (rw[gF (by omega)];go_simp)
   first
   |refine d _ _ ⟨g,?_,a⟩
   |refine(m.out W).mono ?_;rintro K J ⟨rfl,x⟩;refine d _ _ ⟨g,?_,a.trans x⟩
   simp[oB,vo,ld,o]
 .rintro g W a;simp only[vc];have B:=fU a;clear a;rename_i D f;refine f _ _ ?_;clear f D;go_wp2;go_ret;exact⟨rfl,B.out⟩
def adI (r:Nat) (R:RC) (bg ps:Nat) (nm:gy) (w:gv) (h:Rd w r R bg ps) (Q:ps<=R.cs.size) (S:R.cs.size<=1024) (F:KP (R.cs.extract ps R.cs.size)=true) (P:nm.size < (wT (R.cs.extract ps R.cs.size)).size) (X:((small ((wT (R.cs.extract ps R.cs.size)).extract 0 nm.size)).toList==nm.toList)=true):
  Calls prog 138 #[gJ r,gH nm] w λe w'=>e=iq (.bool (jr jn (bt (wT (R.cs.extract ps R.cs.size)) nm.size)))/\Kept [] w w':=by
 have p:=fU (wB r R bg ps w h Q S);have T:=GV (R.cs.extract ps R.cs.size);have k:(R.cs.extract ps R.cs.size).size=R.cs.size - ps:=by simp
 rw[k]at T;clear h k;generalize R.cs.extract ps R.cs.size=t at *;have m:=fU (λw=>Tryz.strings_CutPrefix t ⟨#[60,47]⟩ w);simp only at m;rw[show(⟨(Lib.trimPrefix t.data.toList [60,47]).toArray⟩:gy)=wT t from rfl,show Lib.hasPrefix t.data.toList [60,47]=KP t from rfl]at m;generalize wT t=s at *;rw[F]at m;have K:(s.extract 0 nm.size).size=nm.size:=by simp;omega
 have x:=fU (λW=>vP (s.extract 0 nm.size) W (by omega));have G:=fU (eq_true (show(nm.size:Int) < (s.size:Int) by omega));clear K;generalize small (s.extract 0 nm.size)=u at *;have V:=get_bt s nm.size P;have N:=bt_nonneg s nm.size;have O:=bt_le s nm.size;clear F;generalize bt s nm.size=c at *;go_enter func138,ntmps138
 go_wp21
 refine p.out.mono ?_;rintro e Z ⟨rfl,q,rfl⟩
 go_wp21
 refine(m.out _).mono ?_;rintro e w' ⟨rfl,rfl⟩
 go_wp21
 refine tC (by rfl) ?_;refine pN (λ(g:gO) z=>⟨#[gJ r,gH nm,undef,undef,ce z 22 (.bool false) (.bool (jr jn c)),gH s,.bool true,gn nm.size,.tuple #[gH s,.bool true],gJ r,gH t,.tuple #[gH s,.bool true],gH s,.bool true,gH nm,gn nm.size,cd z 0 (.bool true),cd z 1 (.bool true),cd z 2 (gH s),cd z 3 (gn s.size),cd z 4 (gn nm.size),cd z 5 (.bool true),cd z 6 (.bool true),cd z 7 (.bool true),cd z 8 (gH s),cd z 9 (gn nm.size),cd z 10 (gH (s.extract 0 nm.size)),cd z 11 (gH u),cd z 12 (gH nm),cd z 13 (.bool true),cd z 14 (.bool true),cd z 15 (.bool true),cd z 16 (g),cd z 17 (gH s),cd z 18 (gn nm.size),cd z 19 (.int .u8 c),cd z 20 (.bool (jr jn c)),cd z 21 (.bool (jr jn c))],[]⟩) (λg z W=>Kept [] w W/\(dn z 16=true->FE g W)) 23 [[],[0],[1],[1,2],[1],[1,3,4],[1,5],[6],[7],[7],[7,8,9],[7,10],[7],[7,11,12],[7,13],[14],[15],[15],[15],[15,17,18],[15,16,19],[15,20],[21]] (undef) rfl rfl (⟨((Kept.refl [] w).drewN q).drew,λh=>by cases h⟩) ?_ ?_
 .repeat' first|exact mV|refine mU ?_ ?_
  all_goals
   rintro g z W a o Y;simp[BV]at o;refine kP rfl ?_;intro U d;simp only[ld,o]
   try simp only[G.out]
   go_simp
   try (rw[gF (by omega)];go_simp)
   first
   |refine d _ _ ⟨g,?_,a.1,λh=>a.2 (by simpa [oE]using h)⟩
   |refine(x.out W).mono ?_;rintro D B ⟨rfl,l⟩;refine d _ _ ⟨g,?_,a.1.trans l,λh=>(a.2 (by simpa [oE]using h)).k l⟩
   |refine(oN _ W).mono ?_;rintro D B ⟨rfl,rfl⟩;refine d _ _ ⟨_,?_,a.1.alloc _,λ_=>FE.new W⟩
   |obtain⟨J,rfl,A,y⟩:=a.2 (by simp[o]);have f:=BX W [] J _ y A (by simp);have E:=f.Yp;go_simp;refine(f.ask c W N O (Kept.refl _ _)).mono ?_;rintro D B ⟨rfl,nq,rfl⟩;refine d _ _ ⟨_,?_,a.1.drewN nq,λh=>(a.2 (by simpa [oE]using h)).k ((Kept.refl [] W).drewN nq)⟩
   simp[oB,vo,ld,T6,acz,o]
 .rintro g W a;simp only[vc,X4];have H:=fU a.1;clear a;rename_i I j;refine j _ _ ?_;clear j I;go_wp2;go_ret;exact⟨rfl,H.out⟩
def zn (R:RC) (look:gy->Option gy) (lg bg:Nat):zX:=
 if R.Zl=true then .tok (.X8 (oA (R.cs.extract bg (bg+1)))) (bg+1)
 else .tok (.X8 (oA (rK look lg (R.cs.extract bg R.cs.size)))) (bg+pH look lg (R.cs.extract bg R.cs.size))
def vX (h:∀x t,look x=some t->t.size<=16):(rK look lg s).size<=16:=by
 unfold rK;split
 .simp;omega
 .exact xD h
def J8 (r:Nat) (R:RC) (bg ps d:Nat) (c:gy) (pl:Bool) (cut:Nat->Nat) (w:gv) (h:Rd w r R bg ps) (K:Gl w r) (x:R.Zl=pl) (y:c.size<=1048576) (F:Nat) (D:F=(if pl then 139 else 74))
  (C:Calls prog F #[gJ r] w λe w'=>e=iq (.agg #[gn (cut bg),gn (cut d),gH c])/\Kept [r] w w'/\Rd w' r R bg d):
  Calls prog 71 #[gJ r] w λe w'=>nR w r R bg cut e w' (.tok (.X8 (oA c)) d):=by
 have p:=h.Zl;rw[x]at p;have T:=jk h;have H:=C;have I:=K;have o:=(λW (N:Gl W r)=>yk r c W y N);generalize oA c=E at *;have O:∀(B:Fn) (first cap:jM) (w:gv),(Instr.makeFunc B first cap).run prog w= .ok (.func B first cap) w:=λ_ _ _ _=>rfl;cases pl
 all_goals
  simp only[wR,↓reduceIte]at D;subst D;go_enter func71,ntmps71
  go_wp21
  refine H.mono ?_;rintro e f ⟨rfl,a,j⟩;have A:=(Kept.refl [] f).alloc (.cells #[gn (cut bg),gn (cut d),gH c] 167);have G:=fY f (.cells #[gn (cut bg),gn (cut d),gH c] 167);have u:f.heap.size≠r:=by have:=jk j;omega
  have q:=o _ (I.kept (a.trans (A.mono (by simp))));have J:=a.size
  go_wp21
  refine q.mono ?_;rintro e z ⟨rfl,k⟩;have l:=k.at G (by simp);have P:=fW l 0;have Q:=fW l 1;have S:=fW l 2;have U:=gE l 2;dsimp at P Q S;have KW:Kept [] f z:=A.trans k;have m:Kept [r] w (z.setCell ⟨f.heap.size,2,none⟩ (gH E)):=(a.trans (KW.mono (by simp))).setCell (.inr J) _;have t:Rd (z.setCell ⟨f.heap.size,2,none⟩ (gH E)) r R bg d:=(j.kept KW (by simp)).qy u _;go_wp2;go_ret;exact⟨⟨_,rfl,rfl⟩,m,t⟩
theorem TD (r:Nat) (R:RC) (bg ps g cap b lg:Nat) (look:gy->Option gy) (cut:Nat->Nat) (w:gv) (h:Rd w r R bg ps) (a:TO w r R g cap b lg look cut) (c:bg < R.cs.size):
  Calls prog 71 #[gJ r] w λe w'=>nR w r R bg cut e w' (zn R look lg bg):=by
 unfold zn;split
 .rename_i d;exact J8 r R bg ps (bg+1) _ true cut w h a.gl d (by have:=a.small;simp;omega) _ rfl (Dl r R bg ps g cap cut w h a.gL c a.small)
 .rename_i d;exact J8 r R bg ps _ _ false cut w h a.gl (by grind) (jP (vX a.Wr.lk.short) (by decide)) _ rfl (Dq r R bg ps g cap b lg look cut w h a.gL a.Wr c a.small)
def V9 (r:Nat) (R:RC) (bg ps:Nat) (nm:gy) (w:gv) (h:Rd w r R bg ps) (c:ps<=R.cs.size) (d:R.cs.size<=1024):
  Calls prog 138 #[gJ r,gH nm] w λe w'=>e=iq (.bool (ND R nm ps))/\Kept [] w w':=by
 unfold ND;cases ho:KP (R.cs.extract ps R.cs.size)
 .exact adF r R bg ps nm w h c d ho
 .by_cases a:nm.size < (wT (R.cs.extract ps R.cs.size)).size
  .rw[vp a];cases he:((small ((wT (R.cs.extract ps R.cs.size)).extract 0 nm.size)).toList==nm.toList)
   .exact adH r R bg ps nm w h c d ho a he
   .have:=adI r R bg ps nm w h c d ho a he
    simpa using this
  .rw[xo a];exact adG r R bg ps nm w h c d ho a
def tP (R:RC) (ps:Nat):RC:={R with nD:=if ND R R.nD ps=true then ⟨#[]⟩else R.nD}
def Rd.setOf (h:Rd w r R bg ps) (s:gy):Rd (w.setCell ⟨r,7,none⟩ (gH s)) r {R with nD:=s} bg ps:=gg h 7 _
def TO.setOf (h:TO w r R g cap b lg look cut) (s:gy):TO w r {R with nD:=s} g cap b lg look cut:=
 ⟨⟨h.gL.av,h.gL.ne,h.gL.lt,h.gL.at_⟩,⟨h.Wr.lk,h.Wr.ne,h.Wr.mv,h.Wr.lgv,h.Wr.le⟩,h.gl,h.small⟩
theorem YI (r:Nat) (R:RC) (bg ps:Nat) (w:gv) (h:Rd w r R bg ps) (u:ps<=R.cs.size) (x:R.cs.size<=1024):
  Calls prog 70 #[gJ r] w λe w'=>e=iq (.bool (!((tP R ps).nD.toList==[])))/\Kept [r] w w'/\Rd w' r (tP R ps) bg ps:=by
 by_cases f:R.nD=⟨#[]⟩
 .have e1:tP R ps=R:=by
   have⟨cs,av,at_,mv,lg,nD,Zl⟩:=R;simp only at f;subst f;simp[tP]
  rw[e1,f];refine(V6 r R bg ps w h f).mono ?_;rintro e w' ⟨rfl,a⟩;exact⟨by simp,a.mono (by simp),h.kept a (by simp)⟩
 .have k:(R.nD.toList==[])=false:=by
   cases hq:(R.nD.toList==[])with
   |false=>rfl
   |true=>
    exfalso;apply f;have t:R.nD.toList=[]:=by simpa using hq
    rw[sJ]at t;apply Kv
    grind
  have o:=h.nD;have B:=jk h;have C:=V9 r R bg ps R.nD w h u x;have l:=h;unfold tP;cases hE:ND R R.nD ps
  .rw[hE]at C;have j:=fU (show(!((if false=true then kI else R.nD).toList==[]))=true by simp[k]);have m:Hid (∀W,Rd W r R bg ps->Rd W r {R with nD:=if false=true then ⟨#[]⟩else R.nD} bg ps):=λW h=>h;rw[j.out];go_enter func70,ntmps70
   go_wp21
   refine C.mono ?_;rintro e z ⟨rfl,a⟩;have d:=l.kept a (by simp);have y:=d.nD;have q:=a.mono (S':=[r]) (by simp);go_wp2;go_ret
   simp_all
  .rw[hE]at C;have m:Hid (∀W,Rd W r R bg ps->Rd (W.setCell ⟨r,7,none⟩ (gH kI)) r {R with nD:=if true=true then ⟨#[]⟩else R.nD} bg ps):=λW h=>h.setOf _;have j:=fU (show(!((if true=true then kI else R.nD).toList==[]))=false by simp);rw[j.out];go_enter func70,ntmps70
   go_wp21
   refine C.mono ?_;rintro e z ⟨rfl,a⟩;have c:=l.kept a (by simp);have y:=c.nD;have A:=c.free 7;have q:=(a.mono (S':=[r]) (by simp)).setCell (p:=⟨r,7,none⟩) (.inl (by simp)) (gH kI);have d:=m _ c;go_wp2;go_ret
   simp_all
def kV (R:RC) (look:gy->Option gy) (lg ps:Nat):zX:=
 if ps=R.cs.size then .tok .VX ps
 else if ((tP R ps).nD.toList==[])=true then (if pre (R.cs.extract ps R.cs.size) Ep=true then qT (tP R ps) look lg ps (ps+1)else vx (tP R ps) look lg ps)
 else zn (tP R ps) look lg ps
def As (R:RC) (ps:Nat):RC:=if ps=R.cs.size then R else tP R ps
def adU (r:Nat) (R:RC) (bg ps g cap b lg:Nat) (look:gy->Option gy) (cut:Nat->Nat) (w:gv) (h:Rd w r R bg ps) (hO:TO w r R g cap b lg look cut) (hp:ps<=R.cs.size):
  Calls prog 37 #[gJ r] w λe w'=>nR w r (As R ps) ps cut e w' (kV R look lg ps):=by
 have hs:=hO.small;have p2:=h.bg;have p3:=h.ps;have f2:=h.free 2;obtain⟨u,J⟩:∃u,u=w.setCell ⟨r,2,none⟩ (gn ps):=⟨_,rfl⟩;have D:Rd u r R ps ps:=by rw[J];exact h.ae8 ps
 have y:Kept [r] w u:=by rw[J];exact(Kept.refl _ _).setCell (.inl (by simp)) _
 have V:=fU J.symm;have HO:=hO.kept y;have U:=oD r R ps ps u D;clear h hO J
 by_cases f:ps=R.cs.size
 .have Y:kV R look lg ps= .tok .VX ps:=by unfold kV;rw[gF f]
  have X:As R ps=R:=by unfold As;rw[gF f]
  rw[Y,X];have W:decide (ps=R.cs.size)=true:=by simp[f]
  rw[W]at U;have x:=fU U;clear U Y W f X;go_enter func37,ntmps37
  go_wp21
  rw[V.out];refine x.mono ?_;rintro e K ⟨rfl,q,rfl⟩;have CP:=pS r R ps ps g cap cut (u.drewN q) (show Rd (u.drewN q) r R ps ps from D) (HO.kept ((Kept.refl [r] u).drewN q)).gL hp hp hs
  go_wp21
  refine CP.mono ?_;rintro e G ⟨rfl,a⟩;have d:=(y.drewN q).trans (a.mono (by simp));have j:Hid (Rd G r R ps ps):=a.at (show Rd (u.drewN q) r R ps ps from D) (by simp);clear a CP;go_wp2;go_ret;exact⟨⟨_,rfl,rfl⟩,d,j⟩
 .have W:decide (ps=R.cs.size)=false:=by simp[f]
  rw[W]at U;have x:=fU U;clear U W;have X:As R ps=tP R ps:=by unfold As;rw[gQ f]
  have Y:kV R look lg ps=if ((tP R ps).nD.toList==[])=true then (if pre ((tP R ps).cs.extract ps (tP R ps).cs.size) Ep=true then qT (tP R ps) look lg ps (ps+1)else vx (tP R ps) look lg ps)else zn (tP R ps) look lg ps:=by unfold kV;rw[gQ f];rfl
  have O:=(λq=>YI r R ps ps (u.drewN q) (show Rd (u.drewN q) r R ps ps from D) hp hs);have B:TO u r (tP R ps) g cap b lg look cut:=HO.setOf _;have P:ps < (tP R ps).cs.size:=by show ps < R.cs.size;omega
  have a2:(tP R ps).cs.size<=1024:=hs;rw[Y,X];clear Y X f hp hs HO D;generalize tP R ps=l at *;clear R;have N:=λK (E:Rd K r l ps ps)=>lA r l ps ps Ep K E (by omega) a2 (by decide);cases ho:(l.nD.toList==[])
  .rw[ho]at O;rw[gQ (by simp)];have HT:=(λw' h1 E=>TD r l ps ps g cap b lg look cut w' h1 E P);generalize zn l look lg ps=T at HT|-;clear ho N;cases T with
   |stop=>
    go_enter func37,ntmps37
    go_wp21
    rw[V.out];refine x.mono ?_;rintro e K ⟨rfl,q,rfl⟩
    go_wp21
    refine(O q).mono ?_;rintro e G ⟨rfl,a,c⟩;have d:=((Kept.refl [r] u).drewN q).trans a;have j:=fU c;clear a c;have A:=HT G j (B.kept d);have z:=y.trans d
    go_wp21
    refine A.mono ?_;rintro e S ⟨k,rfl,E,Z,h4⟩;have I:=nR.back (show nR G r l ps cut _ S .stop from⟨k,rfl,E,Z,h4⟩) z;clear E Z h4 A;go_wp2;exact⟨rfl,I⟩
   |tok kd m=>
    go_enter func37,ntmps37
    go_wp21
    rw[V.out];refine x.mono ?_;rintro e K ⟨rfl,q,rfl⟩
    go_wp21
    refine(O q).mono ?_;rintro e G ⟨rfl,a,c⟩;have d:=((Kept.refl [r] u).drewN q).trans a;have j:=fU c;clear a c;have A:=HT G j (B.kept d);have z:=y.trans d
    go_wp21
    refine A.mono ?_;rintro e S ⟨⟨v,rfl,hv⟩,hk,hr⟩;have I:=nR.back (show nR G r l ps cut (iq v) S (.tok kd m)from⟨⟨v,rfl,hv⟩,hk,hr⟩) z;clear hv hk hr A;go_wp2;go_ret;exact I
  .rw[ho]at O;rw[gF rfl];cases hl:pre (l.cs.extract ps l.cs.size) Ep
   .rw[gQ (by simp)];have F:taken l Ep ps=ps:=by unfold taken;rw[gQ (by simp[hl])]
    rw[hl,F]at N;have H:=fU N;clear N F hl ho;go_enter func37,ntmps37
    go_wp21
    rw[V.out];refine x.mono ?_;rintro e K ⟨rfl,q,rfl⟩
    go_wp21
    refine(O q).mono ?_;rintro e G ⟨rfl,a,c⟩;have d:=((Kept.refl [r] u).drewN q).trans a;have j:=fU c;clear a c
    go_wp21
    refine(H _ j).mono ?_;rintro e Q ⟨rfl,p,t⟩;have o:=d.trans p;have A:=Dq r l ps ps g cap b lg look cut Q t (B.kept o).gL (B.kept o).Wr P a2;clear p t
    go_wp21
    refine A.mono ?_;rintro e w5 ⟨rfl,a0,a1⟩;have I:=(show nR w r l ps cut (iq (.iface 167 (.agg #[gn (cut ps),gn (cut (ps+pH look lg (l.cs.extract ps l.cs.size))),gH (rK look lg (l.cs.extract ps l.cs.size))]))) w5 (vx l look lg ps)from⟨⟨_,rfl,rfl⟩,y.trans (o.trans a0),a1⟩);clear a0 a1 A;go_wp2;go_ret;exact I
   .rw[gF rfl];have F:taken l Ep ps=ps+1:=by unfold taken;rw[gF hl];rfl
    have a3:ps+1<=l.cs.size:=ly hl (by omega);rw[hl,F]at N;have H:=fU N;have HL:=(λw' h1 E=>M4 r l ps (ps+1) g cap b lg look cut w' h1 E P a3);generalize qT l look lg ps (ps+1)=T at HL|-;clear N F hl ho;cases T with
    |stop=>
     go_enter func37,ntmps37
     go_wp21
     rw[V.out];refine x.mono ?_;rintro e K ⟨rfl,q,rfl⟩
     go_wp21
     refine(O q).mono ?_;rintro e G ⟨rfl,a,c⟩;have d:=((Kept.refl [r] u).drewN q).trans a;have j:=fU c;clear a c
     go_wp21
     refine(H _ j).mono ?_;rintro e Q ⟨rfl,p,t⟩;have o:=d.trans p;have A:=HL Q t (B.kept o);have z:=y.trans o;clear p t
     go_wp21
     refine A.mono ?_;rintro e S ⟨k,rfl,E,Z,h4⟩;have I:=nR.back (show nR Q r l ps cut _ S .stop from⟨k,rfl,E,Z,h4⟩) z;clear E Z h4 A;go_wp2;exact⟨rfl,I⟩
    |tok kd m=>
     go_enter func37,ntmps37
     go_wp21
     rw[V.out];refine x.mono ?_;rintro e K ⟨rfl,q,rfl⟩
     go_wp21
     refine(O q).mono ?_;rintro e G ⟨rfl,a,c⟩;have d:=((Kept.refl [r] u).drewN q).trans a;have j:=fU c;clear a c
     go_wp21
     refine(H _ j).mono ?_;rintro e Q ⟨rfl,p,t⟩;have o:=d.trans p;have A:=HL Q t (B.kept o);have z:=y.trans o;clear p t
     go_wp21
     refine A.mono ?_;rintro e S ⟨⟨v,rfl,hv⟩,hk,hr⟩;have I:=nR.back (show nR Q r l ps cut (iq v) S (.tok kd m)from⟨⟨v,rfl,hv⟩,hk,hr⟩) z;clear hv hk hr A;go_wp2;go_ret;exact I
def Pt (bs bm bB r:Nat) (C:jM) (R:RC) (bg ps:Nat) (d:gv) (c:gO) (a:lh):Env:={Uf bs bm bB r C R bg ps d with tv:=c,ta:=a}
def QR (R:RC) (o:gy) (p:Bool):RC:={R with nD:=o,Zl:=p}
def Mo (R:RC) (bg ps:Nat) (o:gy) (p:Bool):((wy R bg ps).setIfInBounds 7 (gH o)).setIfInBounds 8 (.bool p)=wy (QR R o p) bg ps:=rfl
def RF.rdV {d : gv} {c : gO} {a : lh} {f : Nat->Nat} (h:RF (Pt bs bm bB r C R bg ps d c a) f σ w):Rd w r (QR R σ.nD σ.iZ) bg ps:=by
 have⟨L,_,hr⟩:=h;have e:w.heap[r]?=some (gI (((wy R bg ps).setIfInBounds 7 (gH σ.nD)).setIfInBounds 8 (.bool σ.iZ)) 132):=hr.rd
 rwa [Mo]at e
theorem RF.UU {w0 : gv} {tv : gO} {ta : lh} {f : Nat->Nat} (h:RF (Pt bs bm bB r C R bg ps w0 tv ta) f σ w) (T:List TypeId) (j:KT bs T w w') (W:∀t∈Vi,t∈T->t=132) (hM:∀t∈T,t∈Hl) {l p : Nat} {o : gy} (Y:Rd w' r (QR R o σ.iZ) l p)
  (d:gO) (q:lh) (N:yF w' d q) (I:q.length<=4096) (P:Bool) (G:P=true->∀g,d.ownBlock=some g->w.heap.size<=g) (O:∀g,d.ownBlock=some g->bs<=g):
  RF (Pt bs bm bB r C R l p w' d q) f {σ with fresh:=P,nD:=o} w':=by
 have⟨L,e,h⟩:=h;have z:∀t∈Vi,t≠132->t∉T:=λt U K J=>K (W t U J);have⟨C',hbl,hC⟩:=h.ir;have u:vT bm w w':=by
  have⟨S,hk,hS⟩:=j;exact⟨S,hk,λk h1 Q=>by grind⟩
 have y:∀(b:Nat) (D:Array MapEntry) (B:Nat),w.heap[b]?=some (Obj.map D B)->w'.heap[b]?=some (Obj.map D B):=by
  intro b D B F;have⟨S,hk,hS⟩:=j;have x:b < w.heap.size:=(Array.getElem?_eq_some_iff.1 F).1;refine(hk.block b x λJ=>?_).trans F;have⟨⟨c,t,m,E,_⟩,_⟩:=hS b J x;rw[F]at E;cases E
 refine⟨L,e,?_⟩;have a:=OK.move (w:=w) (w':=w') h.env h.fr u y;exact
  {fr:=Fr.refl _
   env:=⟨a.Gn,a.txt,a.spec,a.V5,a.VA,a.xf⟩
   DU:=h.DU
   sN:=λi Z H=>(h.sN i Z H).kt j (λt U=>z t (by revert t;decide) (by revert t;decide))
   inj:=h.inj
   A8:=h.A8
   Ga:=h.Ga
   uq:=h.uq
   Eu:=h.Eu
   wf:=⟨h.wf.gz,h.wf.act,h.wf.head,h.wf.form,h.wf.je,h.wf.kids,h.wf.xf⟩
   ir:=⟨C',j.at hbl (z _ (by decide) (by decide)),⟨hC.size,hC.low,hC.gz,hC.act,hC.head,hC.form,hC.mode,hC.kept,hC.wait,hC.IL,hC.jN,hC.gP,hC.behind⟩⟩
   o0:=j.row h.o0 (z _ (by decide) (by decide))
   pX:=j.row h.pX (z _ (by decide) (by decide))
   Gd:=h.Gd
   wV:=h.wV
   Ey:=h.Ey
   oS:=j.row h.oS (z _ (by decide) (by decide))
   LB:=h.LB
   rd:=by
    show w'.heap[r]?=some (.cells (((wy R l p).setIfInBounds 7 (gH o)).setIfInBounds 8 (.bool σ.iZ)) _ _);rw[Mo];exact Y
   QS:=by show 7+1 < 9;decide
   tok:=N
   Ly:=I
   bz:=jP (jP h.bz h.fr.size) j.size
   bB:=h.bB
   bR:=h.bR
   bN:=h.bN
   De:=λQ i g H X A=>by
    have E:=G Q g X;have h4:g < w.heap.size:=by
     cases hel:σ.hU i with
     |none=>rw[h.Eu i H hel]at A;cases A
     |some el=>
      have V:=h.sN i (.el el) (Ab.jo hel);exact(V.2.1.lt g A).2
    omega
   ab:=h.ab
   tb:=O
   LA:=λv A=>by cases A}
structure TkW (a b:Nat) (kd:Int) (T:TypeId) (x:gO):Prop where
 ie:∀w,(Go.method 489 T x "Bytes").run prog w= .ok (419,.agg #[gn a,gn b]) w
 nil:∀w,(nilAhead 489 T x "Bytes").run prog w= .ok (some false) w
 kind:∀w,Calls prog 39 #[.iface T x] w λe w'=>e=iq (gn kd)/\w'=w
def qg (a b:Nat):RW->gM
 | .VX=>⟨a,b,.im,[]⟩
 | .X8 t=>⟨a,b,.ke t,[]⟩
 | .Tt nm L=>⟨a,b,.start nm,L⟩
 | .fin nm L=>⟨a,b,.stop nm,L⟩
 | .Xq t=>⟨a,b,.gR t,[]⟩
 | .dtp nm q=>⟨a,b,.iM nm q,[]⟩
 | .lost=>⟨a,b,.lost,[]⟩
def vB:RW->Nat
 | .VX=>0
 | .X8 _=>1
 | .Tt _ _=>2
 | .fin _ _=>3
 | .Xq _=>4
 | .dtp _ _=>5
 | .lost=>6
def PZ (a b:Int) (n:gy) (x:Option Addr) (m c:Nat) (w:gv):Calls prog 39 #[.iface 175 (.agg #[gn a,gn b,gH n,.slice x m c])] w λe w'=>e=iq (gn 2)/\w'=w:=by
 have f:=vh;have d:=qC underlying175;go_enter func39,ntmps39;go_wp2;go_ret;simp
def SO (a b:Int) (n:gy) (x:Option Addr) (m c:Nat) (w:gv):Calls prog 39 #[.iface 176 (.agg #[gn a,gn b,gH n,.slice x m c])] w λe w'=>e=iq (gn 3)/\w'=w:=by
 have h:=vh;have d:=qw;have f:=qC underlying176;go_enter func39,ntmps39;go_wp2;go_ret;simp
def Wg (a b:Int) (n:gy) (w:gv):Calls prog 39 #[.iface 177 (.agg #[gn a,gn b,gH n])] w λe w'=>e=iq (gn 4)/\w'=w:=by
 have h:=vh;have c:=qw;have f:=yj;have d:=qC underlying177;go_enter func39,ntmps39;go_wp2;go_ret;simp
def Wh (a b:Int) (n:gy) (q:Bool) (w:gv):Calls prog 39 #[.iface 179 (.agg #[gn a,gn b,gH n,.bool q])] w λe w'=>e=iq (gn 5)/\w'=w:=by
 have j:=vh;have c:=qw;have h:=yj;have d:=sD;have f:=qC underlying179;go_enter func39,ntmps39;go_wp2;go_ret;simp
def SN (a b:Int) (w:gv):Calls prog 39 #[.iface 169 (.agg #[gn a,gn b])] w λe w'=>e=iq (gn 6)/\w'=w:=by
 have j:=vh;have c:=qw;have h:=yj;have d:=sD;have f:=vO;have k:=qC underlying169;go_enter func39,ntmps39;go_wp2;go_ret;simp
theorem Ve.is {base a : Nat} {k : RW} (h:Ve base (a:Int) (b:Int) v w k) (u:(qg a b k).gU.length<=4096):
  ∃T x o,v= .iface T x/\(∀E:Env,E.tv=o->iF E (qg a b k)= .iface T x)/\TkW a b (vB k) T x/\(∃y m c,o= .slice y m c)/\yF w o (qg a b k).gU/\(∀g,o.ownBlock=some g->base<=g):=by
 have e:∀g,(jX).ownBlock=some g->base<=g:=λg l=>by simp[Value.ownBlock]at l
 cases k with
 |VX=>exact⟨_,_,jX,h,λ_ _=>rfl,⟨λw=>by kernel_rfl,λw=>by kernel_rfl,λw=>YW (Uf 0 0 0 0 #[] ⟨⟨#[]⟩,.nilFunc,0,.nilFunc,0,⟨#[]⟩,false⟩ 0 0 w) a b w⟩,⟨_,_,_,rfl⟩,oX _ _ _ _,e⟩
 |X8 t=>exact⟨_,_,jX,h,λ_ _=>rfl,⟨λw=>by kernel_rfl,λw=>by kernel_rfl,λw=>We (Uf 0 0 0 0 #[] ⟨⟨#[]⟩,.nilFunc,0,.nilFunc,0,⟨#[]⟩,false⟩ 0 0 w) a b t w⟩,⟨_,_,_,rfl⟩,oX _ _ _ _,e⟩
 |Xq t=>exact⟨_,_,jX,h,λ_ _=>rfl,⟨λw=>by kernel_rfl,λw=>by kernel_rfl,λw=>Wg a b t w⟩,⟨_,_,_,rfl⟩,oX _ _ _ _,e⟩
 |dtp n q=>exact⟨_,_,jX,h,λ_ _=>rfl,⟨λw=>by kernel_rfl,λw=>by kernel_rfl,λw=>Wh a b n q w⟩,⟨_,_,_,rfl⟩,oX _ _ _ _,e⟩
 |lost=>exact⟨_,_,jX,h,λ_ _=>rfl,⟨λw=>by kernel_rfl,λw=>by kernel_rfl,λw=>SN a b w⟩,⟨_,_,_,rfl⟩,oX _ _ _ _,e⟩
 |Tt n L=>
  obtain⟨f,j,rfl,d⟩:=h;refine⟨_,_,.slice f L.length j,rfl,λE p=>?_,⟨λw=>by kernel_rfl,λw=>by kernel_rfl,λw=>PZ a b n f L.length j w⟩,⟨_,_,_,rfl⟩,jW d (iO _),λg l=>(d.lt g l).1⟩
  grind[iF,qg]
 |fin n L=>
  obtain⟨f,j,rfl,d⟩:=h;refine⟨_,_,.slice f L.length j,rfl,λE p=>?_,⟨λw=>by kernel_rfl,λw=>by kernel_rfl,λw=>SO a b n f L.length j w⟩,⟨_,_,_,rfl⟩,jW d (iO _),λg l=>(d.lt g l).1⟩
  grind[iF,qg]
theorem Mv (a c:List UInt8):∀(k:Nat) (s:List UInt8),(Lib.replaceK a c k s).length<=s.length+k*c.length
 |0,s=>by simp[Lib.replaceK]
 |k+1,s=>by
  rw[Lib.replaceK];split
  .omega
  .have h:=Mv a c k (s.drop ((Lib.index s a).toNat+a.length))
   grind
theorem ww (s:gy):(oA s).size<=4*s.size+3:=by
 have e1:s.size=s.data.toList.length:=Kn s;have e2:(oA s).size=(Lib.replaceAll s.data.toList (ByteArray.mk #[0]).data.toList (ByteArray.mk #[239,191,189]).data.toList).length:=by
  rw[Kn];simp[oA]
 rw[e1,e2];unfold Lib.replaceAll Lib.replace;split
 .omega
 .have a:=Mv (ByteArray.mk #[0]).data.toList (ByteArray.mk #[239,191,189]).data.toList (Lib.replaceNum s.data.toList (ByteArray.mk #[0]).data.toList (-1)) s.data.toList;have c:Lib.replaceNum s.data.toList (ByteArray.mk #[0]).data.toList (-1)=Lib.count s.data.toList (ByteArray.mk #[0]).data.toList:=by
   unfold Lib.replaceNum;rw[gF (.inl (by decide))]
  have d:=Lib.count_le s.data.toList (ByteArray.mk #[0]).data.toList
  grind
def XE:RW->Prop
 | .X8 t=>t.size<=100
 | .Tt _ L=>L.length<=1024/\∀p∈L,p.2.size<=1048576
 | .fin _ L=>L.length<=1024/\∀p∈L,p.2.size<=1048576
 |_=>True
def zv (R:RC) (bg:Nat):zX->Prop
 | .stop=>True
 | .tok kd m=>bg < m/\m<=R.cs.size/\1<=vB kd/\(vB kd≠1->m=R.cs.size\/bt R.cs (m - 1)=62)/\XE kd
def XW (h:pre (R.cs.extract ps R.cs.size) jI=true):bt R.cs ps=62:=by
 have:=Ew (j:=0) h (by decide);rw[Nat.add_zero]at this;exact this.trans rfl
theorem SC (h:ps<=R.cs.size):rp R ps=R.cs.size\/(ps < rp R ps/\bt R.cs (rp R ps - 1)=62):=by
 unfold rp taken;split
 .rename_i c;right;have t:ps<=scan (jr jI) R.cs ps:=td;have e:(ByteArray.mk #[62]).size=1:=rfl;rw[e];exact⟨by omega,by rw[Kl];exact XW c⟩
 .rename_i c;left;rcases rC (scan (jr jI) R.cs ps) R.cs.size with d|m
  .exfalso;apply c;have k:=YH (bt_nonneg _ _) (bt_le _ _) (abQ d);have p:(R.cs.extract (scan (jr jI) R.cs ps) R.cs.size).size=R.cs.size - scan (jr jI) R.cs ps:=by simp
   generalize scan (jr jI) R.cs ps=i at *;unfold pre;have f:(ByteArray.mk #[62]).size=1:=rfl;rw[f];have j:bt ((R.cs.extract i R.cs.size).extract 0 1) 0=62:=by
    rw[M5 (by omega) (by omega),Db];rw[M5 (by omega) (ig _),Nat.add_zero];exact k
   have a:((R.cs.extract i R.cs.size).extract 0 1).size=1:=by simp;omega
   rw[p];have u:(R.cs.extract i R.cs.size).extract 0 1=jI:=by
    generalize (R.cs.extract i R.cs.size).extract 0 1=X at j a;have⟨⟨l⟩⟩:=X
    match l,a with
    |[x],_=>
     have:(x.toNat:Int)=62:=j;have o:x=62:=by apply UInt8.toNat_inj.1;show x.toNat=62;omega
     rw[o]
   grind
  .have:=pz (q:=jr jI) h;omega
def OB (h:∀x t,look x=some t->t.size<=16) (f:R.cs.size<=1024) (ps:Nat):(sd look lg R ps).size<=1048576:=by
 unfold sd;split
 .have a:=ww ⟨(vk look lg (mP R (mw R (mw R ps+1)))).toArray⟩;have c:=AK (lg:=lg) h (mP R (mw R (mw R ps+1)));have d:=Cq (R:=R) (ps:=mw R (mw R ps+1));have e:(ByteArray.mk (vk look lg (mP R (mw R (mw R ps+1)))).toArray).size=(vk look lg (mP R (mw R (mw R ps+1)))).length:=by simp[ByteArray.size]
  omega
 .decide
theorem Lz (h:∀x t,look x=some t->t.size<=16) (e:R.cs.size<=1024) (c:∀p∈L,p.2.size<=1048576):∀p∈ri R look lg L ps,p.2.size<=1048576:=by
 unfold ri uW;split
 .exact c
 .intro p d;rcases List.mem_append.1 d with a|a
  .grind
  .obtain rfl:=List.mem_singleton.1 a;exact OB h e _
theorem Rl (j:∀x t,look x=some t->t.size<=16) (l:R.cs.size<=1024):∀(n:Nat) {L:lh} {ps m:Nat} {c:lh},R.cs.size - ps<=n->lM R look lg L ps= .whole m c->L.length<=ps->(∀p∈L,p.2.size<=1048576)->ps < m/\m<=R.cs.size/\bt R.cs (m - 1)=62/\c.length<=m/\∀p∈c,p.2.size<=1048576:=by
 intro n
 induction n with
 |zero=>
  intro L ps m c k a;have e:=sF (R:=R) (ps:=ps);rw[lM,dif_neg (by omega)]at a;cases a
 |succ n ih=>
  intro L ps m c k a y d;have e:=sF (R:=R) (ps:=ps);rw[lM]at a;split at a
  .split at a
   .rename_i h f;obtain⟨rfl,rfl⟩:=Hq.whole.inj a;exact⟨by omega,by omega,by rw[Kl];exact XW f,by omega,d⟩
   .split at a
    .cases a
    .have o:=wu (R:=R) (ps:=jf R ps);have q:=yA (R:=R) (ps:=kj R (jf R ps));have u:=Gv (R:=R) (look:=look) (lg:=lg) (L:=L) (ps:=jf R ps);have:=ih (by omega) a (by omega) (Lz j l d)
     grind
  grind
theorem Rm (d:∀x t,look x=some t->t.size<=16) (f:R.cs.size<=1024) {a : gy->lh->RW} {nm : gy} (c:bg < R.cs.size) (k:bg < ps) (e:∀L,1<=vB (a nm L)/\(L.length<=1024->(∀p∈L,p.2.size<=1048576)->XE (a nm L))):zv R bg (tj R a nm (lM R look lg [] (yv R ps))):=by
 have j:=ab7 (R:=R) (ps:=ps);cases h:lM R look lg [] (yv R ps)with
 |stop=>trivial
 |lost=>exact⟨c,ig _,by decide,λ_=> .inl rfl,trivial⟩
 |whole m L=>
  have:=Rl d f _ (ig _) h (iO _) (by simp)
  grind[zv,tj]
def ZM (d:∀x t,look x=some t->t.size<=16) (f:R.cs.size<=1024) (nm:gy) (c:bg < R.cs.size) (e:bg < ps):zv R bg (tj R .Tt nm (lM R look lg [] (yv R ps))):=Rm d f c e (λL=>⟨(by decide:1<=2),λa b=>⟨a,b⟩⟩)
def Yv (d:∀x t,look x=some t->t.size<=16) (f:R.cs.size<=1024) (nm:gy) (c:bg < R.cs.size) (e:bg < ps):zv R bg (tj R .fin nm (lM R look lg [] (yv R ps))):=Rm d f c e (λL=>⟨(by decide:1<=3),λa b=>⟨a,b⟩⟩)
def Ex (a:∀x t,look x=some t->t.size<=16) (e:bg < R.cs.size):zv R bg (vx R look lg bg):=by
 have c:=Dp (look:=look) (lg:=lg) (s:=R.cs.extract bg R.cs.size);have d:=FP (look:=look) (lg:=lg) (s:=R.cs.extract bg R.cs.size) (by simp;omega);have f:(R.cs.extract bg R.cs.size).size=R.cs.size - bg:=by simp
 exact⟨by omega,by omega,ig _,λh=>absurd rfl h,jP (vX a) (by decide)⟩
theorem ZT (d:∀x t,look x=some t->t.size<=16) (j:bg < R.cs.size):zv R bg (zn R look lg bg):=by
 have e:=Dp (look:=look) (lg:=lg) (s:=R.cs.extract bg R.cs.size);have f:=FP (look:=look) (lg:=lg) (s:=R.cs.extract bg R.cs.size) (by simp;omega);have k:(R.cs.extract bg R.cs.size).size=R.cs.size - bg:=by simp
 unfold zn;split
 .refine⟨by omega,by omega,ig _,λh=>absurd rfl h,?_⟩;have a:=ww (R.cs.extract bg (bg+1));have c:(R.cs.extract bg (bg+1)).size=1:=by simp;omega
  grind[XE]
 .refine⟨by omega,by omega,ig _,λh=>absurd rfl h,?_⟩;have a:=ww (rK look lg (R.cs.extract bg R.cs.size));have c:=vX (look:=look) (lg:=lg) (s:=R.cs.extract bg R.cs.size) d
  grind[XE]
def yY {k : RW} (f:bg < ps) (a:ps<=R.cs.size) (d:1<=vB k) (c:XE k):zv R bg (.tok k (rp R ps)):=by
 have e:=YC (R:=R) (ps:=ps);refine⟨by omega,IU a,d,λ_=>?_,c⟩;rcases SC a with h|⟨_,h⟩
 all_goals omega
def Tp (c:∀x t,look x=some t->t.size<=16) (f:R.cs.size<=1024) (a:bg < R.cs.size) (d:bg < ps) (e:ps<=R.cs.size):zv R bg (mJ R look lg bg ps):=by
 unfold mJ;split
 .exact Yv c f _ a d
 .split
  .rename_i h;have:ps+1<=R.cs.size:=ly h e;exact⟨by omega,this,by decide,λ_=> .inr (by rw[Kl];exact XW h),trivial⟩
  .split
   .exact Ex c a
   .exact yY d e (show 1<=4 by decide) trivial
def Wm (d:∀x t,look x=some t->t.size<=16) (j:R.cs.size<=1024) (c:bg < R.cs.size) (f:bg < ps) (a:ps<=R.cs.size):zv R bg (qT R look lg bg ps):=by
 unfold qT;split
 .exact ZM d j _ c f
 split
 .rename_i h;exact Tp d j c (by omega) (ly h a)
 split
 .rename_i h;have e:ps+3<=R.cs.size:=ly h a;have l:=VH (R:=R) (ps:=ps+3);refine⟨by omega,LK e,(show 1<=4 by decide),λ_=>?_,trivial⟩;rcases O6 e with h|⟨_,h⟩
  all_goals omega
 split
 .rename_i h;have k:ps+8<=R.cs.size:=PU h a;have:=adq (R:=R) (ps:=ps+8);exact yY (by omega) (Ir k) (show 1<=5 by decide) trivial
 split
 .rename_i h;exact yY (by omega) (ly h a) (show 1<=4 by decide) trivial
 split
 .exact yY f a (show 1<=4 by decide) trivial
 .exact Ex d c
def Jl (d:∀x t,look x=some t->t.size<=16) (f:R.cs.size<=1024) (e:ps < R.cs.size):zv R ps (kV R look lg ps)/\(∀c m,kV R look lg ps= .tok c m->vB c≠1->bt R.cs ps=60):=by
 unfold kV;rw[gQ (by omega)];split
 .split
  .rename_i h;refine⟨Wm (R:=tP R ps) d f e (by omega) (ly h (by omega)),λ_ _ _ _=>?_⟩;have:=Ew (j:=0) h (by decide);rw[Nat.add_zero]at this;exact this.trans rfl
  .refine⟨Ex (R:=tP R ps) d e,λc m h a=>?_⟩;unfold vx at h;obtain⟨rfl,_⟩:=zX.tok.inj h;exact absurd rfl a
 .refine⟨ZT (R:=tP R ps) d e,λc m h a=>?_⟩;unfold zn at h;split at h
  .obtain⟨rfl,_⟩:=zX.tok.inj h;exact absurd rfl a
  .obtain⟨rfl,_⟩:=zX.tok.inj h;exact absurd rfl a
def Qh:kV R look lg R.cs.size= .tok .VX R.cs.size:=by simp[kV]
def XE.tok {k : RW} (h:XE k) (a b:Nat):(qg a b k).k= .lost\/uU (qg a b k):=by
 cases k with
 |lost=>simp[qg]
 |X8 t=>exact .inr ⟨h,rfl,by simp[qg]⟩
 |Tt nm L=>exact .inr ⟨(by decide:(0:Nat)<=100),by unfold wD;exact List.all_eq_true.2 (λp c=>vp (h.2 p c)),by simp[qg]⟩
 |fin nm L=>exact .inr ⟨(by decide:(0:Nat)<=100),by unfold wD;exact List.all_eq_true.2 (λp c=>vp (h.2 p c)),by simp[qg]⟩
 |VX=>exact .inr ⟨(by decide:(0:Nat)<=100),rfl,by simp[qg]⟩
 |Xq t=>exact .inr ⟨(by decide:(0:Nat)<=100),rfl,by simp[qg]⟩
 |dtp n q=>exact .inr ⟨(by decide:(0:Nat)<=100),rfl,by simp[qg]⟩
def XE.len {k : RW} (h:XE k) (a b:Nat):(qg a b k).gU.length<=1024:=by
 cases k with
 |Tt nm L=>exact h.1
 |fin nm L=>exact h.1
 |_=>simp[qg]
def P9 (k:Nat) (w:gv):
  Calls prog 33 #[.iface 62 (gJ k)] w λe w'=>e=iq (gJ k)/\w'=w:=by
 have c:∀(v:gO) (a:TypeId) (w:gv),(Instr.typeAssert (.iface 62 v) a 62 true).run prog w= .ok (.tuple #[v,.bool true]) w:=λv a w=>by
  simp[Instr.typeAssert,pO underlying62]
 go_enter func33,ntmps33;go_wp2;go_ret;simp
theorem D8 (a d:Nat) (k:Nat) (w:gv) (v:gO) (h:w.heap[a]?=some (gI #[v,.pointer none] 59)) (m:w.heap[d]?=some (gI #[.pointer none] 62)) (l:a≠d) (j:d≠a):
  CallsD prog 32 #[gJ a,gJ d] (.panicking [{v:= .iface 62 (gJ k),recovered:=false}]) w λe z w'=>
   e=p8/\z= .panicking [{v:= .iface 62 (gJ k),recovered:=true}]/\w'.heap[a]?=some (gI #[jX,.pointer none] 59)/\w'.heap[d]?=some (gI #[gJ k] 62)/\Kept [a,d] w w':=by
 have u:=fW h 0;have x:=fW h 1;have y:=fW m 0;have B:=gE h 0;have D:=gE h 1;have E:=gE m 0;dsimp at u x y;have p:Hid (∃W,W=((w.setCell ⟨a,0,none⟩ (jX)).setCell ⟨a,1,none⟩ (.pointer none)).setCell ⟨d,0,none⟩ (gJ k)/\W.heap[a]?=some (gI #[jX,.pointer none] 59)/\W.heap[d]?=some (gI #[gJ k] 62)/\Kept [a,d] w W):=by
  refine⟨_,rfl,?_,?_,?_⟩
  .rw[Below.heap_setCell _ _ _ _ l];exact gg (gg h 0 _) 1 _
  .refine gg (c:=#[.pointer none]) ?_ 0 _;rw[Below.heap_setCell _ _ _ _ j,Below.heap_setCell _ _ _ _ j];exact m
  .exact(((Kept.refl [a,d] w).setCell (.inl (by simp)) _).setCell (.inl (by simp)) _).setCell (.inl (by simp)) _
 refine callsD_of_wpS func32 rfl λf A o=>?_;apply wpS_seq;apply wpS_region;simp[wpOpsS,go_sem,recoverD,o,ntmps32,Exit.thenS];have q:=o;refine wpS_of_wp ?_;have t:(#[gJ a,gJ d]++((Array.replicate 7 undef).setIfInBounds 1 (Value.iface 62 (gJ k))).setIfInBounds 0 (Value.iface 62 (gJ k)))=#[gJ a,gJ d,.iface 62 (gJ k),.iface 62 (gJ k),undef,undef,undef,undef,undef]:=rfl;rw[t]
 go_wp21
 refine(P9 k _).mono ?_;rintro e w' ⟨rfl,rfl⟩;go_wp2;have o:=q;have⟨W,hW,h1,h2,h3⟩:=p;rw[<-hW];cases f
 simp_all[bodyPostS,results,results32]
def Vd (w:gv):Prop:=(∃m,w.cell? ⟨3,0,none⟩=some (gn m))/\3 < w.heap.size
def Vd.kept (h:Vd w) (a:Kept [] w w'):Vd w':=by
 have⟨⟨m,hm⟩,hl⟩:=h;exact⟨⟨m,(a.cell (p:=⟨3,0,none⟩) hl (by simp)).trans hm⟩,lV hl a.size⟩
theorem Lk.map (h:Lk w b look):∃k j,w.heap[b]?=some (Obj.map k j):=by
 have l:=h.run ⟨#[]⟩ w rfl;have m:=pO (w:=w) (show prog.underlying 127=some (.map 9 185) by simp);have a:∀o,w.heap[b]?=some o->(∀c e f,o≠ .cells c e f)->(getObj b).run prog w= .ok o w:=by
  intro o q t;cases o with
  |cells c e f=>grind
  |_=>simp[getObj,Sem.run,q]
 cases hb:w.heap[b]? with
 |none=>
  have p:=h.lt
  grind
 |some o=>
  cases o with
  |map k j=>simp
  |cells c e f=>
   exfalso;have d:(getObj b).run prog w= .halt (Halt.stuck "getObj: a row of cells") w:=by simp[getObj,Sem.run,hb]
   simp[Instr.lookup,m,d,Result.andThen]at l
  |_=>
   exfalso;have d:=a _ hb (by simp);simp[Instr.lookup,m,d,Result.andThen,Go.stuck,Sem.run]at l
def Fr.map (h:Fr bs w w') (e:w.heap[b]?=wl.heap[b]?) (a:Lk wl b look):w'.heap[b]?=w.heap[b]?:=h.calm (.inl (by rw[e];exact a.map))
theorem KT.map {T : List TypeId} (h:KT bs T w w') (e:w.heap[b]?=wl.heap[b]?) (c:Lk wl b look):w'.heap[b]?=w.heap[b]?:=by
 have⟨es,ck,hm⟩:=c.map;rw[<-e]at hm;have⟨S,hk,hS⟩:=h;have a:b < w.heap.size:=(Array.getElem?_eq_some_iff.1 hm).1;refine hk.block b a λd=>?_
 grind
inductive aaj where
 |stop (e p:Nat)
 |done (σ:Ab) (L:List Sp)
 |stuck
def yn (R:RC) (σ:Ab) (ps:Nat) (t:gM):Ab:={σ with fresh:=t.rL,nD:=(As (QR R σ.nD σ.iZ) ps).nD}
def nK (R:RC) (look:gy->Option gy) (lg:Nat) (cut:Nat->Nat):Nat->Nat->Ab->List Sp->aaj
 |0,_,_,_=> .stuck
 |n+1,ps,σ,L=>match kV (QR R σ.nD σ.iZ) look lg ps with
  | .stop=> .stop 7 (cut ps)
  | .tok k m=>match vn (gZ false uK) (qg (cut ps) (cut m) k) (yn R σ ps (qg (cut ps) (cut m) k))with
   | .stop e p=> .stop e p
   | .stuck=> .stuck
   | .ok _ σ'=>if vB k=0 then .done σ' L else nK R look lg cut n m σ' (sA L ⟨(vB k:Int),cut ps,cut m⟩)
structure RgV (w:gv) (bm bB bD r b:Nat) (C:jM) (R:RC) (g cap:Nat) (cut:Nat->Nat) (base:Nat) (wl:gv) (ps bg:Nat) (σ:Ab) (v:gO) (L:List Sp) (wr:gv):Prop where
 rel:∃fl w0 tv ta,fl 0=bD/\RF (Pt w.heap.size bm bB r C R bg ps w0 tv ta) fl σ wr
 gL:LD wr r R g cap cut
 aty:∃cA,wr.heap[g]?=some (gI cA 3)
 lk:wr.heap[b]?=wl.heap[b]?
 tb:wr.heap[w.heap.size+1]?=some (gI #[v,.pointer none] 59)
 sb:wr.heap[w.heap.size+2]?=some (gI #[.pointer none] 62)
 own:wr.ownsRow base 106 3 v L.length (ou L)
 kept:Kept [] w wr
 le:ps<=R.cs.size
 len:L.length<=ps
 TZ:w.heap.size<=base/\base<=wr.heap.size
 rge:w.heap.size<=r
 pos:0 < σ.nodes.length
theorem RgV.next {G : Nat} {base : Nat} {L : List Sp} {wr d : gv} (h:RgV w bm bB G r b C R g cap cut base wl ps bg σ v L wr) (l:Kept [r] wr d) {p x : Nat} {o : gy} (Q:Rd d r (QR R o σ.iZ) p x) (N:b≠r) (A:b < wl.heap.size)
  (B:wl.heap.size<=wr.heap.size) (j:gO) (f:lh) (E:yF d j f) (D:f.length<=4096) (I:Bool) (u:∀g,j.ownBlock=some g->wr.heap.size<=g):
  (∃y,y 0=G/\RF (Pt w.heap.size bm bB r C R p x d j f) y {σ with fresh:=I,nD:=o} d)/\LD d r R g cap cut/\(∃z,d.heap[g]?=some (gI z 3))/\d.heap[b]?=wl.heap[b]?/\d.heap[w.heap.size+1]?=some (gI #[v,.pointer none] 59)/\d.heap[w.heap.size+2]?=some (gI #[.pointer none] 62)/\d.ownsRow base 106 3 v L.length (ou L)/\Kept [] w d:=by
 have⟨y,w0,tv,ta,h0,hrf⟩:=h.rel;have m:=hrf.rdV;have F:∀{k:Nat} {c:jM} {t:TypeId},wr.heap[k]?=some (gI c t)->t≠132->k∉[r]:=by
  intro k c t a J P;have e:=List.mem_singleton.1 P;subst e;unfold Rd at m;rw[m]at a;simp at a;exact J a.2.symm
 refine⟨⟨y,h0,hrf.UU [132] (.jU l (λk a _=>by
  have e:=List.mem_singleton.1 a;subst e;exact⟨⟨_,_,_,m,by simp⟩,h.rge⟩)) (λt _ J=>by grind) (by decide) Q j f E D I (λ_=>u) (λg O=>jP h.kept.size (u g O))⟩,h.gL.kept l,?_,(l.block b (lV A B) (by grind)).trans h.lk,l.at h.tb (F h.tb (by decide)),l.at h.sb (F h.sb (by decide)),l.ownsRow h.own ?_,h.kept.next l (by simpa using h.rge)⟩
 .have⟨z,hA⟩:=h.aty;exact⟨z,l.at hA (F hA (by decide))⟩
 .intro k a;rcases h.own.2 with⟨e,_⟩|⟨q,H,K,e,_,T,_⟩
  .rw[e]at a;cases a
  .rw[e]at a;have S:=jL a
   grind
def Hp (w:gv) (e:Ending) (w':gv):aaj->Prop
 | .stop c p=>∃k,e=iq (.tuple #[.agg #[jX,.pointer none],gJ k])/\kJ w' k c p/\Kept [] w w'
 | .done fin L=>∃v k E a,e=iq (.tuple #[.agg #[v,gJ k],.pointer none])/\a 0=k/\RF E a fin w'/\w'.ownsRow w.heap.size 106 3 v L.length (ou L)/\L.length<=1024/\Kept [] w w'
 | .stuck=>False
theorem Rc {W : gv} {k c p : Nat} (m:W.heap[w.heap.size+1]?=some (gI #[v,.pointer none] 59)) (l:W.heap[w.heap.size+1+1]?=some (gI #[.pointer none] 62)) (a:kJ W k c p) (h:Kept [] w W) (f:Kept [w.heap.size+1,w.heap.size+1+1] W w'):kJ w' k c p/\Kept [] w w':=by
 refine⟨f.at a ?_,h.next f (λx j=> .inr ?_)⟩
 .intro d;rcases List.mem_cons.1 d with e|d
  .rw[e]at a;unfold kJ at a;grind
  .have e:=List.mem_singleton.1 d;rw[e]at a;unfold kJ at a;grind
 grind
def Y8 (R:RC) (o:gy) (p:Bool) (ps:Nat):As (QR R o p) ps=QR R (As (QR R o p) ps).nD p:=by unfold As;split<;>rfl
theorem Zy (s:gy) (tv:gO) (base d f l:Nat) (w:gv) (ho:w.ownsRow base 5 1 tv s.size (jY s)) (hs:s.size<=1024) (hd:d<=64) (hf:f<=32) (hl:l<=16) (hT:xR w) (bj:Vd w) (ah:∀av b,nK (uO s l av b) (pK KV) 8 (kH s) ((zN s).size+1) 0 (S0 d f l 0) []≠ .stuck):
  Calls prog 22 #[tv,.agg #[gn d,gn f,gn l]] w λe w'=>∃av b,Hp w e w' (nK (uO s l av b) (pK KV) 8 (kH s) ((zN s).size+1) 0 (S0 d f l 0) []):=by
 have bO:∀(fn:Fn) (first cap:jM) (w:gv),(Instr.makeFunc fn first cap).run prog w= .ok (.func fn first cap) w:=λ_ _ _ _=>rfl;obtain⟨w0,Z⟩:∃w0,w0=((w.alloc (gI #[gn d,gn f,gn l] 55)).alloc (gI #[jX,.pointer none] 59)).alloc (gI #[.pointer none] 62):=⟨_,rfl⟩;have a6:Kept [] w w0:=by rw[Z];exact(((Kept.refl _ _).alloc _).alloc _).alloc _
 have HZ:w0.heap.size=w.heap.size+3:=by rw[Z];simp
 have al:w0.heap[w.heap.size]?=some (gI #[gn d,gn f,gn l] 55):=by
  rw[Z,Below.heap_alloc _ _ _ (by simp;omega),Below.heap_alloc _ _ _ (by simp)];exact fY w _
 have be:w0.heap[w.heap.size+1]?=some (gI #[jX,.pointer none] 59):=by
  rw[Z,Below.heap_alloc _ _ _ (by simp)];have:=fY (w.alloc (gI #[gn d,gn f,gn l] 55)) (gI #[jX,.pointer none] 59)
  simpa using this
 have bf:w0.heap[w.heap.size+2]?=some (gI #[.pointer none] 62):=by
  have:=fY ((w.alloc (gI #[gn d,gn f,gn l] 55)).alloc (gI #[jX,.pointer none] 59)) (gI #[.pointer none] 62);rw[Z];simpa using this
 have CN:=Lf s tv base (l:Int) w0 (a6.ownsRow ho (λ_ _=>by simp)) hs;have c0:=fW al 0;have c1:=fW al 1;have c2:=fW al 2;dsimp at c0 c1 c2;have⟨ao,cp,htv⟩:=gG ho;subst htv;have HW:=fU Z.symm;have aS:=hT;clear Z
 go_enter_defers func22,ntmps22
 go_wp21
 rw[HW.out];refine CN.mono ?_;rintro e w1 ⟨r,b,av,g,cap,rfl,hr,hb,bl,bd,b8,ba,aP,bi,X⟩;have g1:=X.at al (by simp);have d0:=fW g1 0;have d1:=fW g1 1;have d2:=fW g1 2;dsimp at d0 d1 d2;have bh:=aS.fr (bm:=0) (.gX (a6.trans X));have CB:=adS (d:Int) (f:Int) (l:Int) (.func 36) #[gJ r] #[] w1 bh;have HB:=And.intro hr (And.intro hb bl)
 go_wp21
 refine CB.mono ?_;rintro e V ⟨bm,bB,bD,rfl,hN⟩;have H:=hN.k;have aU:Rd V r (uO s l av b) 0 0:=bd.kept H (by simp);have⟨C,fl,hfl,hrf⟩:=adT w.heap.size bm bB bD r d f l w1 V (uO s l av b) hN aU rfl rfl hd hf hl (by grind) (by omega);obtain⟨R,hR⟩:∃R,R=uO s l av b:=⟨_,rfl⟩;have b9:R.cs=zN s:=by rw[hR];rfl
 have bP:R.nD=⟨#[]⟩:=by rw[hR];rfl
 have bQ:R.Zl=false:=by rw[hR];rfl
 have bt:R.mv= .map (some b):=by rw[hR];rfl
 have bo:R.lg=(8:Nat):=by rw[hR];rfl
 have bK:R.at_=(l:Int):=by rw[hR];rfl
 have b4:R.cs.size<=1024:=by rw[b9,AW];have:=GR s s.size;omega
 rw[<-hR]at hrf;obtain⟨O,hO⟩:∃O,O=nK R (pK KV) 8 (kH s) (R.cs.size+1) 0 (S0 d f l 0) []:=⟨_,rfl⟩;have HO:=hO.symm;have a8:Hid (∀e w',Hp w e w' O->∃av b,Hp w e w' (nK (uO s l av b) (pK KV) 8 (kH s) ((zN s).size+1) 0 (S0 d f l 0) [])):=λe w' h=>⟨av,b,by grind⟩;have bb:O≠ .stuck:=by rw[hO,hR];exact ah av b
 have bc:Hid (RgV w bm bB bD r b C R g cap (kH s) V.heap.size V 0 0 (S0 d f l 0) (jX) [] V):=fU
  {rel:=⟨fl,V,jX,[],hfl,hrf⟩
   lk:=rfl
   gL:=by have:=b8;rw[<-hR]at this;exact this.kept (H.mono (by simp))
   aty:=by have⟨cA,hA⟩:=bi;exact⟨cA,H.at hA (by simp)⟩
   tb:=H.at (X.at be (by simp)) (by simp)
   sb:=H.at (X.at bf (by simp)) (by simp)
   own:=oX _ _ _ _
   kept:=(a6.trans X).trans H
   le:=iO _
   len:=ig _
   TZ:=⟨jP (jP a6.size X.size) H.size,ig _⟩
   rge:=by omega
   pos:=by simp[S0]}
 have z:=fU (ba.kept H (by simp));have aR:=bj;have bJ:=(a6.trans X).trans H
 go_wp21
 go_loopw [] (λwr=>∃n ps bg σ v L,RgV w bm bB bD r b C R g cap (kH s) V.heap.size V ps bg σ v L wr/\nK R (pK KV) 8 (kH s) n ps σ L=O/\R.cs.size - ps < n) (λwr=>R.cs.size - (match wr.cell? ⟨r,3,none⟩with|some v=>(intOf v).toNat|none=>0))
 case atStart=>exact⟨R.cs.size+1,0,0,_,_,[],bc,HO,by omega⟩
 case round=>
  have⟨n,ps,bg,σ,v,L,h1,HGO,hnn⟩:=hrel;obtain⟨n,rfl⟩:∃k,n=k+1:=⟨n - 1,by omega⟩;have b0:Rd wr r (QR R σ.nD σ.iZ) bg ps:=by have⟨_,_,_,_,_,hr⟩:=h1.rel;exact hr.rdV
  have P0:=b0.ps;have E:=h1;have bn:Gl wr r:=by
   have⟨N,hl⟩:=aR.kept h1.kept;exact⟨N,hl,λe=>by have:=h1.rge;have:=aR.2;omega⟩
  have bv:TO wr r (QR R σ.nD σ.iZ) g cap b 8 (pK KV) (kH s):=⟨⟨h1.gL.av,h1.gL.ne,h1.gL.lt,h1.gL.at_⟩,⟨⟨lV z.lt h1.TZ.2,z.short,λbA w' e=>z.run bA w' (e.trans h1.lk)⟩,aP,bt,bo,by decide⟩,bn,b4⟩;have J:=adU r (QR R σ.nD σ.iZ) bg ps g cap b 8 (pK KV) (kH s) wr b0 bv h1.le;rw[Y8]at J;have ae:ps < R.cs.size->zv (QR R σ.nD σ.iZ) ps (kV (QR R σ.nD σ.iZ) (pK KV) 8 ps):=λh=>(Jl (R:=QR R σ.nD σ.iZ) z.short b4 h).1;have az:ps=R.cs.size->kV (QR R σ.nD σ.iZ) (pK KV) 8 ps= .tok .VX R.cs.size:=λe=>by rw[e];exact Qh (R:=QR R σ.nD σ.iZ)
  have bH:=h1.le;rw[nK]at HGO;obtain⟨on,aZ⟩:∃on,on=(As (QR R σ.nD σ.iZ) ps).nD:=⟨_,rfl⟩;have b3:∀t,yn R σ ps t={σ with fresh:=t.rL,nD:=on}:=λt=>by rw[aZ];rfl
  rw[<-aZ]at J;cases hT:kV (QR R σ.nD σ.iZ) (pK KV) 8 ps with
  |stop=>
   rw[hT]at J HGO;dsimp only at HGO;have CX:=fU J;have EO:=fU HGO.symm;clear J HGO
   go_wp21
   refine CX.mono ?_;rintro e w3 ⟨k,rfl,ah,bN,a3⟩;have⟨_,_,_,_,_,hrf⟩:=E.rel;have aC:=hrf.rdV;have ne:∀{k:Nat} {c:jM} {t:TypeId},wr.heap[k]?=some (gI c t)->t≠132->k∉[r]:=by
    intro k c t a ht N;have e:=List.mem_singleton.1 N;subst e;unfold Rd at aC;rw[aC]at a;simp at a;exact ht a.2.symm
   have S:=a3.at E.tb (ne E.tb (by decide));have Q:w3.heap[w.heap.size+1+1]?=_:=a3.at E.sb (ne E.sb (by decide));have P:=E.kept.next a3 (by simpa using E.rge);have B:=And.intro S (And.intro Q (And.intro ah P));go_wp2;refine leaves_cons (f:=32) (args:=#[gJ (w.heap.size+1),gJ (w.heap.size+1+1)]) (by simp) (by simp[go_sem]) ?_;refine(D8 (w.heap.size+1) (w.heap.size+1+1) k w3 v B.1 B.2.1 (by omega) (by omega)).mono ?_;rintro e u' b6 ⟨rfl,rfl,t9,s9,k9⟩;have HF:=fU (Rc B.1 B.2.1 B.2.2.1 B.2.2.2 k9);have q0:=fW t9 0;have q1:=fW t9 1;have q2:=fW s9 0;dsimp at q0 q1 q2;simp[Go.Leaves,settle,results,results22,go_sem,q0,q1,q2];refine a8 _ _ ?_;rw[EO.out];exact⟨k,rfl,HF.1,HF.2⟩
  |tok k m=>
   rw[hT]at J HGO;dsimp only at HGO;have bL:vB k=0->k= .VX:=by cases k<;>simp[vB]
   have bk:XE k:=by
    rcases rC ps R.cs.size with h|h
    .have:=ae h;rw[hT]at this;exact this.2.2.2.2
    .have:=az (by omega);rw[hT]at this;obtain⟨rfl,_⟩:=zX.tok.inj this;trivial
   have br:vB k≠0->ps < m/\m<=R.cs.size:=by
    intro aL;rcases rC ps R.cs.size with h|h
    .have:=ae h;rw[hT]at this;exact⟨this.1,this.2.1⟩
    .have:=az (by omega);rw[hT]at this;obtain⟨rfl,_⟩:=zX.tok.inj this;exact absurd rfl aL
   have aA:=jP (bk.len (kH s ps) (kH s m)) (show 1024<=4096 by decide);rw[b3]at HGO;have CX:=fU J;clear J
   go_wp21
   refine CX.mono ?_;rintro e w3 ⟨⟨vv,rfl,bz⟩,a3,bw⟩;obtain⟨T,x,tv,rfl,hV,aF,bx,aX,aY⟩:=bz.is aA;have⟨⟨fl,hfl,hrf⟩,K,ai,ar,S,Q,aw,P⟩:=E.next a3 bw aP z.lt E.TZ.2 tv _ aX aA (qg (kH s ps) (kH s m) k).rL aY;obtain⟨t,ht⟩:∃t,t=qg (kH s ps) (kH s m) k:=⟨_,rfl⟩;have y:=HGO;rw[<-ht]at hrf hV y;have hD:=λhh=>XD (Pt w.heap.size bm bB r C R ps m w3 tv t.gU) rfl rfl bx uK t (λ_=>rfl) fl _ w3 hrf hh;have aV:=hV (Pt w.heap.size bm bB r C R ps m w3 tv t.gU) rfl;cases hT1:vn (gZ false uK) t {σ with fresh:=t.rL,nD:=on} with
   |stuck=>rw[hT1]at y;exact absurd y.symm bb
   |stop c p=>
    have D:=hD (by rw[hT1];simp);rw[hT1]at D y;dsimp only at y;have EO:=fU y.symm;have C2:Hid (Calls prog 38 #[gJ bB,.iface T x] w3 λe W=>∃j,e=qB j/\kJ W j c p/\Fr w.heap.size w3 W):=fU (by rwa [aV]at D);have HQ:=fU (And.intro S (And.intro Q P));clear y HGO
    go_wp21
    refine C2.mono ?_;rintro e w4 ⟨k,rfl,ah,o⟩;have⟨S,Q,P⟩:=HQ;have U:=o.zz S (by decide);have a4:w4.heap[w.heap.size+1+1]?=_:=o.zz Q (by decide);have aq:=o.kept P (ig _);have B:=And.intro U (And.intro a4 (And.intro ah aq));go_wp2;refine leaves_cons (f:=32) (args:=#[gJ (w.heap.size+1),gJ (w.heap.size+1+1)]) (by simp) (by simp[go_sem]) ?_;refine(D8 (w.heap.size+1) (w.heap.size+1+1) k w4 v B.1 B.2.1 (by omega) (by omega)).mono ?_;rintro e u' b6 ⟨rfl,rfl,t9,s9,k9⟩;have HF:=fU (Rc B.1 B.2.1 B.2.2.1 B.2.2.2 k9);have q0:=fW t9 0;have q1:=fW t9 1;have q2:=fW s9 0;dsimp at q0 q1 q2;simp[Go.Leaves,settle,results,results22,go_sem,q0,q1,q2];refine a8 _ _ ?_;rw[EO.out];exact⟨k,rfl,HF.1,HF.2⟩
   |ok u σ2=>
    have D:=hD (by rw[hT1];simp);rw[hT1]at D y;dsimp only at y;have aB:0 < ({σ with fresh:=t.rL,nD:=on}:Ab).nodes.length:=E.pos;have C2:Hid (Calls prog 38 #[gJ bB,.iface T x] w3 λe W=>e=p8/\∃an,an 0=bD/\RF (Pt w.heap.size bm bB r C R ps m w3 tv t.gU) an σ2 W/\Fr w.heap.size w3 W/\0 < σ2.nodes.length):=
     fU (by
      rw[aV]at D;exact D.mono (λe W hL=>by
       have⟨an,h5,h6,h7,h8,h9⟩:=hL;exact⟨h7,an,(h5 0 aB).trans hfl,h8,h9,lV aB h6⟩))
    have HQ:=fU (And.intro K (And.intro ai (And.intro ar (And.intro S (And.intro Q (And.intro aw P))))));have aT:=a3.size;clear HGO
    go_wp21
    refine C2.mono ?_;rintro e w4 ⟨rfl,aG,ab,ag,o,aM⟩;have⟨K,ai,ar,S,Q,aw,P⟩:=HQ;have bE:w4.heap[b]?=V.heap[b]?:=(o.map ar z).trans ar;have U:=o.zz S (by decide);have a4:=o.zz Q (by decide);have aq:=o.kept P (ig _);have⟨cA,hA3⟩:=ai;have aH:=o.zz hA3 (by decide);have aW:LD w4 r R g cap (kH s):=⟨K.av,K.ne,jk aH,λi hi=>by rw[fW aH,<-fW hA3];exact K.at_ i hi⟩;have aN:w4.ownsRow V.heap.size 106 3 v L.length (ou L):=by
     refine⟨aw.1,?_⟩;rcases aw.2 with e|⟨q,a0,am,e,h1,hc,r'⟩
     .exact .inl e
     .exact .inr ⟨q,a0,am,e,h1,o.zz hc (by decide),r'⟩
    have ay:V.heap.size<=w4.heap.size:=jP E.TZ.2 (jP aT o.size);have a5:=aF.kind w4
    by_cases ap:vB k=0
    .rw[ap]at a5;have CK:=fU a5;have aJ:=y;rw[gF ap]at aJ;have EO:=fU aJ.symm;clear a5 aJ;have CD:=Pd _ _ _ _ ag;have eD:nV aG 0=gJ bD:=by unfold nV;rw[ab]
     rw[eD]at CD;have⟨ax,ac,hv⟩:=gG aN;subst hv;have c0:=fW U 0;have c1:=fW U 1;have c2:=fW (show w4.heap[w.heap.size+1+1]?=_ from a4) 0;have f0:=gE U 0;have f1:=gE U 1;have f2:=gE (show w4.heap[w.heap.size+1+1]?=_ from a4) 0;dsimp at c0 c1 c2;have HX:=fU (And.intro U (And.intro a4 (And.intro aN (And.intro aq (And.intro ag ab)))))
     go_wp21
     refine CK.mono ?_;rintro e w5 ⟨rfl,rfl⟩
     go_wp21
     refine CD.mono ?_;rintro e w5 ⟨rfl,rfl⟩;have⟨tb5,sb5,ow5,kw5,hrf5,ad⟩:=HX;have aL:w.heap.size+1+1≠w.heap.size+1:=by omega
     have G:(w5.setCell ⟨w.heap.size+1,1,none⟩ (gJ bD)).heap[w.heap.size+1]?=some (gI #[.slice ax L.length ac,gJ bD] 59):=gg tb5 1 _;have aj:(w5.setCell ⟨w.heap.size+1,1,none⟩ (gJ bD)).heap[w.heap.size+1+1]?=some (gI #[.pointer none] 62):=(Below.heap_setCell _ _ _ _ aL).trans sb5;have E1:=fU (pA G 0 (.slice ax L.length ac) rfl);have E2:=fU (pA G 1 (gJ bD) rfl);have E3:=fU (pA aj 0 (.pointer none) rfl);have q0:=fW G 0;have q1:=fW G 1;have q2:=fW aj 0;dsimp at q0 q1 q2;have A:Kept [w.heap.size+1] w5 (w5.setCell ⟨w.heap.size+1,1,none⟩ (gJ bD)):=(Kept.refl _ _).setCell (.inl (by simp)) _;have a1:Rd w5 r (QR R σ2.nD σ2.iZ) ps m:=hrf5.rdV;have bu:r∉[w.heap.size+1]:=by
      intro N;have e:=List.mem_singleton.1 N;unfold Rd at a1;rw[e,tb5]at a1;simp at a1
     have a2:=hrf5.UU [59] (.jU A (λk a _=>by
      have e:=List.mem_singleton.1 a;subst e;exact⟨⟨_,_,_,tb5,by simp⟩,by omega⟩)) (by decide) (by decide) (a1.kept A bu) (jX) [] (oX _ _ _ _) (iO _) σ2.fresh (λ_ g hg=>by simp[Value.ownBlock]at hg) (λg hg=>by simp[Value.ownBlock]at hg)
     have HF:Hid (Hp w (iq (.tuple #[.agg #[.slice ax L.length ac,gJ bD],.pointer none])) (w5.setCell ⟨w.heap.size+1,1,none⟩ (gJ bD)) O):=by
      rw[EO.out];refine fU ⟨_,bD,_,aG,rfl,ad,a2,?_,by have:=E.len;omega,kw5.setCell (.inr (by simp)) _⟩;refine jW (A.ownsRow ow5 (λq hq=>?_)) E.TZ.1;intro N;have e:=List.mem_singleton.1 N;subst e;rcases ow5.2 with⟨e2,_⟩|⟨q,a0,am,e2,_,hc,_⟩
      .rw[e2]at hq;cases hq
      .rw[e2]at hq;have e3:=jL hq;subst e3;rw[tb5]at hc;simp at hc
     go_wp2;rw[E1.out,E2.out,E3.out];refine leaves_cons (f:=32) (args:=#[gJ (w.heap.size+1),gJ (w.heap.size+1+1)]) (by simp) (by simp[go_sem]) ?_;refine(QG ⟨w.heap.size+1,0,none⟩ ⟨w.heap.size+1+1,0,none⟩ _).mono ?_;rintro e u' b6 ⟨rfl,rfl,rfl⟩;simp[Go.Leaves,settle,results,results22,go_sem,q0,q1,q2];exact a8 _ _ HF
    .have bq:=br ap;have CK:=fU a5;have aQ:=y;rw[gQ ap]at aQ;have bM:((vB k:Int)==0)=false:=beq_eq_false_iff_ne.2 (by omega);have b7:L.length<=1024:=by have:=E.len;have:=E.le;omega
     clear a5;have bp:=aF.ie;have bG:=aF.nil;have CY:=O3 (kH s ps:Int) (kH s m:Int) w4;have ay:V.heap.size<=w4.heap.size:=jP E.TZ.2 (jP aT o.size);have HX:=fU (And.intro aW (And.intro aH (And.intro bE (And.intro U (And.intro a4 (And.intro aN (And.intro aq (And.intro ag (And.intro ab ay)))))))))
     go_wp21
     refine CK.mono ?_;rintro e w5 ⟨rfl,rfl⟩
     go_wp21
     refine CY.mono ?_;rintro e w6 ⟨rfl,A⟩;have⟨hat5,hA5,lk5,tb5,sb5,ow5,kw5,hrf5,ad,big5⟩:=HX;have G:=A.at tb5 (by simp);have F:=A.ownsRow ow5 (λ_ _=>by simp);have⟨ax,ac,hv⟩:=gG F;subst hv;have c6:=fW G 0;dsimp at c6;have CA:=OT V.heap.size _ L ⟨(vB k:Int),kH s ps,kH s m⟩ w6 F (jP big5 A.size) (by omega);have HP:=fU (And.intro (hat5.kept (A.mono (by simp))) (And.intro (A.at hA5 (by simp)) (And.intro ((A.block b (lV z.lt big5) (by simp)).trans lk5) (And.intro G (And.intro (A.at sb5 (by simp)) (And.intro F (And.intro (kw5.trans A) (And.intro (hrf5.il A) (And.intro ad (jP big5 A.size))))))))))
     go_wp21
     refine CA.mono ?_;rintro e w7 ⟨v7,rfl,aO,I⟩;have⟨hat6,hA6,lk6,G,aj,F,kw6,a2,hfl6,big6⟩:=HP;have ne:∀{k:Nat} {c:jM} {t:TypeId},w6.heap[k]?=some (gI c t)->t≠106->k∉(Value.slice ax L.length ac).ownBlock.toList:=by
      intro k c t a ht N;rcases F.2 with⟨e2,_⟩|⟨q,a0,am,e2,_,hc,_⟩
      .rw[e2]at N;simp[Value.ownBlock]at N
      .rw[e2]at N;simp[Value.ownBlock]at N;subst N;rw[a]at hc;simp at hc;exact ht hc.2
     have aD:=a2.rdV;have bF:w7.heap[b]?=V.heap[b]?:=(KT.map (bs:=w.heap.size) (T:=[106]) (.jU I (λk a _=>by
      obtain⟨c,m,hc⟩:=rY F (by simpa using a);exact⟨⟨_,_,_,hc,by simp⟩,by have h7:=(F.lt k (by simpa using a)).1;have h8:=E.TZ.1;omega⟩)) lk6 z).trans lk6
     have ak:=I.at G (ne G (by decide));have b5:=I.at aj (ne aj (by decide));have a9:=I.at hA6 (ne hA6 (by decide));have af:Rd w7 r (QR R σ2.nD σ2.iZ) ps m:=I.at aD (ne aD (by decide));have aa:LD w7 r R g cap (kH s):=⟨hat6.av,hat6.ne,jk a9,λi hi=>by rw[fW a9,<-fW hA6];exact hat6.at_ i hi⟩;have bC:Kept [] w w7:=kw6.next I (λx hx=> .inr (by have h7:=(F.lt x (by simpa using hx)).1;have h8:=E.TZ.1;omega));have b1:=a2.UU [106] (.jU I (λk a _=>by
      obtain⟨c,m,hc⟩:=rY F (by simpa using a);exact⟨⟨_,_,_,hc,by simp⟩,by have h7:=(F.lt k (by simpa using a)).1;have h8:=E.TZ.1;omega⟩)) (by decide) (by decide) af (jX) [] (oX _ _ _ _) (iO _) σ2.fresh (λ_ g hg=>by simp[Value.ownBlock]at hg) (λg hg=>by simp[Value.ownBlock]at hg)
     have⟨a7,p7,hv7⟩:=gG aO;subst hv7;have c7:=fW ak 0;have f7:=gE ak 0;dsimp at c7;have Y:Kept [w.heap.size+1] w7 (w7.setCell ⟨w.heap.size+1,0,none⟩ (.slice a7 (sA L ⟨(vB k:Int),kH s ps,kH s m⟩).length p7)):=(Kept.refl _ _).setCell (.inl (by simp)) _;have au:∀{k:Nat} {c:jM} {t:TypeId},w7.heap[k]?=some (gI c t)->t≠59->k∉[w.heap.size+1]:=by
      intro k c t a ht N;have e:=List.mem_singleton.1 N;subst e;rw[ak]at a;simp at a;exact ht a.2.symm
     have aE:Rd (w7.setCell ⟨w.heap.size+1,0,none⟩ (.slice a7 (sA L ⟨(vB k:Int),kH s ps,kH s m⟩).length p7)) r (QR R σ2.nD σ2.iZ) ps m:=Y.at af (au af (by decide));have b2:=b1.UU [59] (.jU Y (λk a _=>by
      have e:=List.mem_singleton.1 a;subst e;exact⟨⟨_,_,_,ak,by simp⟩,by omega⟩)) (by decide) (by decide) aE (jX) [] (oX _ _ _ _) (iO _) σ2.fresh (λ_ g hg=>by simp[Value.ownBlock]at hg) (λg hg=>by simp[Value.ownBlock]at hg)
     have aI:=Y.at a9 (au a9 (by decide));have HE:Hid (RgV w bm bB bD r b C R g cap (kH s) V.heap.size V m ps σ2 (.slice a7 (sA L ⟨(vB k:Int),kH s ps,kH s m⟩).length p7) (sA L ⟨(vB k:Int),kH s ps,kH s m⟩) (w7.setCell ⟨w.heap.size+1,0,none⟩ (.slice a7 (sA L ⟨(vB k:Int),kH s ps,kH s m⟩).length p7))):=fU
      {rel:=⟨aG,_,_,_,hfl6,b2⟩
       lk:=by
        rw[Y.block b (lV z.out.lt (jP big6 I.size)) (by
         intro N;have e:=List.mem_singleton.1 N;omega)]
        exact bF
       gL:=⟨aa.av,aa.ne,jk aI,λi hi=>by rw[fW aI,<-fW a9];exact aa.at_ i hi⟩
       aty:=⟨_,aI⟩
       tb:=gg ak 0 _
       sb:=Y.at b5 (au b5 (by decide))
       own:=Y.ownsRow aO (λq hq=>by
        rcases aO.2 with⟨e2,_⟩|⟨q',a0,am,e2,_,hc,_⟩
        .rw[e2]at hq;cases hq
        .rw[e2]at hq;have e3:=jL hq;subst e3;exact au hc (by decide))
       kept:=bC.setCell (.inr (by simp)) _
       le:=bq.2
       pos:=aM
       len:=by have h8:=Vr L ⟨(vB k:Int),kH s ps,kH s m⟩;have h9:=E.len;omega
       TZ:=⟨E.TZ.1,jP (jP big6 I.size) Y.size⟩
       rge:=E.rge}
     have P8:=aE.ps;have aK:R.cs.size - m < R.cs.size - ps:=by omega
     generalize hlq:(sA L ⟨(vB k:Int),kH s ps,kH s m⟩).length=bI at *;go_wp2;go_roundw
     case rel=>exact⟨n,m,ps,σ2,_,_,HE,aQ,by omega⟩
     case measure=>rw[P8,P0];simpa [intOf]using aK
end
end Go.Proofs.YtofkkmcdggkkpaaGreatDoor
