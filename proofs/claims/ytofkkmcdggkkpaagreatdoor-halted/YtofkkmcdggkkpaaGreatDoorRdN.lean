import Derived.Test.YtofkkmcdggkkpaaGreatDoorIvR
import Derived.Lib.Builder
import Derived.RegionDies
import Derived.Lib.UnsafeStr
set_option linter.unusedSimpArgs false
set_option linter.unusedVariables false
set_option linter.defProp false
set_option maxHeartbeats 0
set_option maxRecDepth 100000
namespace Go.Proofs.YtofkkmcdggkkpaaGreatDoor
open Go.RowKit Go.PlainAid Tryz
def Kg:=@Lib.size_eq
section
variable {C : jO} {L : kY} {R : RC} {b bB bg bm bs cap g i lg n ps r : Nat} {cut : Nat->Nat} {inV : Bool} {look : gz->Option gz} {s : gz} {v : gP} {w w' wl : gw} {σ : Ab}
def vZ (base:Int) (s:gz) (i:Nat):Nat:=scan (λc=>decide (kX c>=base)) s i
def oN (base:Int) (s:gz) (f:Nat):Nat:=
 if vZ base s f=f then 0 else if vZ base s f < s.size/\bt s (vZ base s f)=59 then vZ base s f+1 else vZ base s f
def L6 (s:gz):Bool:=decide (2 < s.size/\(bt s 2=120\/bt s 2=88))
def uv (s:gz):Nat:=if L6 s=true then oN 16 s 3 else oN 10 s 2
theorem Ma {base : Int} {f : Nat} (h:f<=s.size):oN base s f<=s.size:=by
 have:=pz (q:=λc=>decide (kX c>=base)) h;unfold oN;grind[vZ]
def SI (h:2<=s.size):uv s<=s.size:=by
 unfold uv;split
 .rename_i a;unfold L6 at a;simp at a;exact Ma (by omega)
 .exact Ma h
def ww (base:Int) (s:gz) (k:Int) (i:Nat):Int:=
 if i < s.size then (if kX (bt s i)>=base then k else ww base s (min (k*base+kX (bt s i)) 1114112) (i+1))else k
  termination_by s.size - i
def Qe {base : Int} {k : Int} (h:¬i < s.size):ww base s k i=k:=by rw[ww,gR h]
theorem Mb {base : Int} {k : Int} (h:i < s.size) (a:kX (bt s i)>=base):ww base s k i=k:=by grind[ww]
theorem Up {base : Int} {k : Int} (h:i < s.size) (a:¬kX (bt s i)>=base):ww base s (min (k*base+kX (bt s i)) 1114112) (i+1)=ww base s k i:=by grind[ww]
def NS (base:Int) (s:gz) (f:Nat):gz:=if oN base s f=0 then ⟨#[]⟩else Utf8.encode (OA (ww base s 0 f))
def uw (s:gz):gz:=if L6 s=true then NS 16 s 3 else NS 10 s 2
def M9 (c:Int):(Utf8.encode c).size<=16:=by
 unfold Utf8.encode;dsimp only;generalize (if Utf8.valid c=true then c.toNat else Utf8.runeError)=k
 repeat' split
 all_goals first|(show 1<=16;omega)|(show 2<=16;omega)|(show 3<=16;omega)|(show 4<=16;omega)
def Lb (s:gz):(uw s).size<=16:=by
 unfold uw NS
 repeat' split
 all_goals first|exact M9 _|(show 0<=16;omega)
theorem qU {t c : gz} {a : Nat} {m : Int} (h:t=c) (d:n=a) (e:m=(a:Int)):Ending.returned (.tuple #[gI t,gp m])=ir (.tuple #[gI c,gp n]):=by grind
theorem Ju (s:gz) (w:gw) (hs:s.size<=1048576) (h2:2<=s.size):
  Calls prog 243 #[gI s] w λe w'=>e=ir (.tuple #[gI (uw s),gp (uv s)])/\w'=w:=by
 have Y:=get_bt s;obtain⟨Q,a0,a4⟩:∃Q:Int->gz,(∀c,Q c=Utf8.encode c)/\∀(c:Int) (w:gw),(convert 21 9 (.int .i32 c)).run prog w= .ok (gI (Q c)) w:=⟨_,λ_=>rfl,λc w=>run_convert_int_string w 21 9 .i32 c (by simp) underlying9⟩;have B:=fW a0;clear a0;have D:=(λc (H:0<=c) (I:c<=255)=>VA c w H I);have G:=(λn (H:0<=n) (I:n<=1114112)=>KF n w H I)
 by_cases P:L6 s=true
 .have e:uv s=oN 16 s 3:=by unfold uv;rw[gF P]
  have X:uw s=NS 16 s 3:=by unfold uw;rw[gF P]
  rw[e,X];clear e X;unfold L6 at P;have⟨O,F⟩:=of_decide_eq_true P;clear P;obtain⟨z,q⟩:∃x,x=oN 16 s 3:=⟨_,rfl⟩;obtain⟨A,y⟩:∃x,x=NS 16 s 3:=⟨_,rfl⟩;have u:A=if z=0 then ⟨#[]⟩else Utf8.encode (OA (ww 16 s 0 3)):=by rw[y,q,NS]
  rw[<-q,<-y];have j:=fW q;have m:=fW u;clear q y u;rcases F with F|F
  all_goals
   go_enter func243,ntmps243
   go_wp21
   go_loopw [6,7] (λnv V wr=>wr=w/\∃(k:Int) (i:Nat),nv=gp k/\V=gp i/\0<=k/\k<=1114112/\3<=i/\i<=s.size/\vZ 16 s i=vZ 16 s 3/\ww 16 s k i=ww 16 s 0 3) (λ_ V _=>s.size - (intOf V).toNat)
   case atStart=>grind
   case round=>
    obtain⟨rfl,k,i,rfl,rfl,J,K,a2,a3,Z,hv⟩:=hrel;have S:=fW Z;have U:=fW hv;clear Z hv
    by_cases f:i < s.size
    .have hb:=Y i f;have H:=bt_nonneg s i;have I:=bt_le s i;have r:=Dp (bt s i);have C:=D (bt s i) H I
     by_cases E:kX (bt s i)>=16
     .have e1:vZ 16 s i=i:=JH (by simpa using E);have e2:vZ 16 s 3=i:=by rw[<-S.out,e1]
      have p:ww 16 s 0 3=k:=by rw[<-U.out,Mb f E]
      by_cases t:i=3
      .have a:z=0:=by rw[j.out];unfold oN;rw[e2,gF t]
       have l:=fW a;have o:=fW (show A=⟨#[]⟩ by rw[m.out,gF a]);clear e1 e2 a p;subst t
       go_wp21
       refine C.mono ?_;rintro e w' ⟨rfl,rfl⟩;go_wp2;go_ret2;exact⟨qU o.symm l rfl,rfl⟩
      .have T:=G k J K
       by_cases N:bt s i=59
       have a:z=i+1:=by rw[j.out];unfold oN;rw[e2,gR t,gF ⟨f,N⟩]
       have l:=fW a;have o:=fW (show A=Q (OA k) by rw[m.out,gR (by omega),p,B.out]);rw[N]at C hb H I r E;rw[show kX 59=99 from by decide]at C;clear e1 e2 a p r E H I
       rotate_left
       have a:z=i:=by rw[j.out];unfold oN;rw[e2,gR t,gR (by omega)]
       have l:=fW a;have o:=fW (show A=Q (OA k) by rw[m.out,gR (by omega),p,B.out]);clear e1 e2 a p
       all_goals
        go_wp21
        refine C.mono ?_;rintro e w' ⟨rfl,rfl⟩
        go_wp21
        refine T.mono ?_;rintro e w' ⟨rfl,rfl⟩;go_wp2;go_ret2;exact⟨qU o.symm l rfl,rfl⟩
     .have e1:vZ 16 s (i+1)=vZ 16 s 3:=by rw[<-S.out];exact(N7 f (by simpa using E)).symm
      have HU:ww 16 s (min (k*16+kX (bt s i)) 1114112) (i+1)=ww 16 s 0 3:=by rw[Up f E,U.out]
      have l:=fW e1;clear e1;generalize kX (bt s i)=d at *
      go_wp21
      refine C.mono ?_;rintro e w' ⟨rfl,rfl⟩;go_wp2
      all_goals (refine⟨⟨trivial,min (k*16+d) 1114112,i+1,?_,by go_num,by omega,by omega,by omega,by omega,l,HU⟩,?_⟩;(first|rfl|(congr 1;omega));(simp[intOf];omega))
    .have e1:vZ 16 s i=i:=D5 (by omega);have e2:vZ 16 s 3=i:=by rw[<-S.out,e1]
     have p:ww 16 s 0 3=k:=by rw[<-U.out,Qe f]
     have T:=G k J K;have W:i=s.size:=by omega
     by_cases t:i=3
     .have a:z=0:=by rw[j.out];unfold oN;rw[e2,gF t]
      have l:=fW a;have o:=fW (show A=⟨#[]⟩ by rw[m.out,gF a]);clear e1 e2 a p W;subst t
      first
       |(exfalso;omega)
       |(go_wp2
         go_ret2;exact⟨qU o.symm l rfl,rfl⟩)
     .have a:z=i:=by rw[j.out];unfold oN;rw[e2,gR t,gR (by omega)]
      have l:=fW a;have o:=fW (show A=Q (OA k) by rw[m.out,gR (by omega),p,B.out]);clear e1 e2 a p W
      go_wp21
      refine T.mono ?_;rintro e w' ⟨rfl,rfl⟩;go_wp2;go_ret2;exact⟨qU o.symm l rfl,rfl⟩
 .have e:uv s=oN 10 s 2:=by unfold uv;rw[gR P]
  have X:uw s=NS 10 s 2:=by unfold uw;rw[gR P]
  rw[e,X];clear e X;have O:¬(2 < s.size/\(bt s 2=120\/bt s 2=88)):=by unfold L6 at P;simpa using P
  clear P;obtain⟨z,q⟩:∃x,x=oN 10 s 2:=⟨_,rfl⟩;obtain⟨A,y⟩:∃x,x=NS 10 s 2:=⟨_,rfl⟩;have u:A=if z=0 then ⟨#[]⟩else Utf8.encode (OA (ww 10 s 0 2)):=by rw[y,q,NS]
  rw[<-q,<-y];have j:=fW q;have m:=fW u;clear q y u
  by_cases hz:2 < s.size
  .have F:¬bt s 2=120:=λh=>O ⟨hz,.inl h⟩;have a1:¬bt s 2=88:=λh=>O ⟨hz,.inr h⟩;have a5:(bt s 2==120)=false:=beq_eq_false_iff_ne.2 F;have a6:(bt s 2==88)=false:=beq_eq_false_iff_ne.2 a1;clear O F a1;go_enter func243,ntmps243
   go_wp21
   go_loopw [6,7] (λnv V wr=>wr=w/\∃(k:Int) (i:Nat),nv=gp k/\V=gp i/\0<=k/\k<=1114112/\2<=i/\i<=s.size/\vZ 10 s i=vZ 10 s 2/\ww 10 s k i=ww 10 s 0 2) (λ_ V _=>s.size - (intOf V).toNat)
   case atStart=>grind
   case round=>
    obtain⟨rfl,k,i,rfl,rfl,J,K,a2,a3,Z,hv⟩:=hrel;have S:=fW Z;have U:=fW hv;clear Z hv
    by_cases f:i < s.size
    .have hb:=Y i f;have H:=bt_nonneg s i;have I:=bt_le s i;have r:=Dp (bt s i);have C:=D (bt s i) H I
     by_cases E:kX (bt s i)>=10
     .have e1:vZ 10 s i=i:=JH (by simpa using E);have e2:vZ 10 s 2=i:=by rw[<-S.out,e1]
      have p:ww 10 s 0 2=k:=by rw[<-U.out,Mb f E]
      by_cases t:i=2
      .have a:z=0:=by rw[j.out];unfold oN;rw[e2,gF t]
       have l:=fW a;have o:=fW (show A=⟨#[]⟩ by rw[m.out,gF a]);clear e1 e2 a p;subst t
       go_wp21
       refine C.mono ?_;rintro e w' ⟨rfl,rfl⟩;go_wp2;go_ret2;exact⟨qU o.symm l rfl,rfl⟩
      .have T:=G k J K
       by_cases N:bt s i=59
       have a:z=i+1:=by rw[j.out];unfold oN;rw[e2,gR t,gF ⟨f,N⟩]
       have l:=fW a;have o:=fW (show A=Q (OA k) by rw[m.out,gR (by omega),p,B.out]);rw[N]at C hb H I r E;rw[show kX 59=99 from by decide]at C;clear e1 e2 a p r E H I
       rotate_left
       have a:z=i:=by rw[j.out];unfold oN;rw[e2,gR t,gR (by omega)]
       have l:=fW a;have o:=fW (show A=Q (OA k) by rw[m.out,gR (by omega),p,B.out]);clear e1 e2 a p
       all_goals
        go_wp21
        refine C.mono ?_;rintro e w' ⟨rfl,rfl⟩
        go_wp21
        refine T.mono ?_;rintro e w' ⟨rfl,rfl⟩;go_wp2;go_ret2;exact⟨qU o.symm l rfl,rfl⟩
     .have e1:vZ 10 s (i+1)=vZ 10 s 2:=by rw[<-S.out];exact(N7 f (by simpa using E)).symm
      have HU:ww 10 s (min (k*10+kX (bt s i)) 1114112) (i+1)=ww 10 s 0 2:=by rw[Up f E,U.out]
      have l:=fW e1;clear e1;generalize kX (bt s i)=d at *
      go_wp21
      refine C.mono ?_;rintro e w' ⟨rfl,rfl⟩;go_wp2
      all_goals (refine⟨⟨trivial,min (k*10+d) 1114112,i+1,?_,by go_num,by omega,by omega,by omega,by omega,l,HU⟩,?_⟩;(first|rfl|(congr 1;omega));(simp[intOf];omega))
    .have e1:vZ 10 s i=i:=D5 (by omega);have e2:vZ 10 s 2=i:=by rw[<-S.out,e1]
     have p:ww 10 s 0 2=k:=by rw[<-U.out,Qe f]
     have T:=G k J K;have W:i=s.size:=by omega
     by_cases t:i=2
     .have a:z=0:=by rw[j.out];unfold oN;rw[e2,gF t]
      have l:=fW a;have o:=fW (show A=⟨#[]⟩ by omega);clear e1 e2 a p W;subst t
      first
       |(exfalso;omega)
       |(go_wp2
         go_ret2;exact⟨qU o.symm l rfl,rfl⟩)
     .have a:z=i:=by rw[j.out];unfold oN;rw[e2,gR t,gR (by omega)]
      have l:=fW a;have o:=fW (show A=Q (OA k) by rw[m.out,gR (by omega),p,B.out]);clear e1 e2 a p W
      go_wp21
      refine T.mono ?_;rintro e w' ⟨rfl,rfl⟩;go_wp2;go_ret2;exact⟨qU o.symm l rfl,rfl⟩
  .clear O;have n0:vZ 10 s 2=2:=D5 (by omega);have n1:z=0:=by rw[j.out];unfold oN;rw[gF n0]
   have n2:A=⟨#[]⟩:=by rw[m.out,gF n1]
   have W:s.size=2:=by omega
   have l:=fW n1;have o:=fW n2;clear n0 n1 n2;go_enter func243,ntmps243
   go_wp21
   refine vo 1 ?_;rw[oW];go_wp2;go_ret2;exact⟨qU o.symm l rfl,rfl⟩
def quoted (R:RC) (q:gz) (ps:Nat):Nat:=taken R q (scan (jr q) R.cs (ps+1))
def si (R:RC) (ps:Nat):Nat:=
 if pre (R.cs.extract ps R.cs.size) tz=true then quoted R tz ps else if pre (R.cs.extract ps R.cs.size) sJ=true then quoted R sJ ps else scan (jr mg) R.cs ps
def Mi {q : gz} (h:ps < R.cs.size):quoted R q ps<=R.cs.size:=Rh (pz (by omega))
def Mh {q : gz}:ps<=quoted R q ps:=jN (by omega) (jN (sZ (i:=ps+1)) Rg)
def NY {p : gz} (h:pre (s.extract ps s.size) p=true) (a:ps<=s.size) (c:0 < p.size):ps < s.size:=by
 have:=lx h a;omega
def Wt (h:ps<=R.cs.size):si R ps<=R.cs.size:=by
 unfold si;split
 .rename_i a;exact Mi (NY a h (by decide))
 .split
  .rename_i a;exact Mi (NY a h (by decide))
  .exact pz h
def Ws:ps<=si R ps:=by
 unfold si;split
 .exact Mh
 .split
  .exact Mh
  .exact sZ
def mO (R:RC) (ps:Nat):gz:=
 if pre (R.cs.extract ps R.cs.size) tz=true then R.cs.extract (ps+1) (scan (jr tz) R.cs (ps+1))else if pre (R.cs.extract ps R.cs.size) sJ=true then R.cs.extract (ps+1) (scan (jr sJ) R.cs (ps+1))else R.cs.extract ps (scan (jr mg) R.cs ps)
def Cm:(mO R ps).size<=R.cs.size:=by
 unfold mO;repeat' split
 all_goals (simp;omega)
def Jt (r:Nat) (R:RC) (bg ps:Nat) (q:gz) (u:q.size=1) (w w1:gw) (t:Kept [r] w w1) (h:Rd w1 r R bg (ps+1)) (l:ps+1<=R.cs.size) (m:R.cs.size<=1024):
  Calls prog 239 #[gL r,.func (.func 241) #[] #[gL w1.heap.size]] (w1.alloc (.cells #[gI q] 9))
   λe j=>e=ir (gI (R.cs.extract (ps+1) (scan (jr q) R.cs (ps+1))))/\
    Calls prog 72 #[gL r,gI q] j λe k=>(∃b,e=ir (.bool b))/\Kept [r] w k/\Rd k r R bg (quoted R q ps):=by
 refine(zl r R bg (ps+1) q w1 h l m).mono ?_;rintro e j ⟨o,a,d⟩;refine⟨o,?_⟩;refine(lz r R bg _ q j d (pz l) m (by omega)).mono ?_;rintro e k ⟨p,c,f⟩;exact⟨⟨_,p⟩,(t.trans a).trans c,f⟩
theorem N4 (r:Nat) (R:RC) (bg ps:Nat) (w:gw) (h:Rd w r R bg ps) (E:ps<=R.cs.size) (F:R.cs.size<=1024):
  Calls prog 349 #[gL r] w λe w'=>e=ir (gI (mO R ps))/\Kept [r] w w'/\Rd w' r R bg (si R ps):=by
 have hr:=jn h;obtain⟨x,j⟩:∃x,x=w.alloc (.cells #[gI tz,gI sJ] 9):=⟨_,rfl⟩;have H:Kept [] w x:=by rw[j];exact(Kept.refl _ _).alloc _
 have I:x.heap[w.heap.size]?=some (gJ #[gI tz,gI sJ] 9):=by rw[j];exact fZ w _
 have X:Rd x r R bg ps:=H.at h (by simp);have Z:w.heap.size < x.heap.size:=jn I;have Q:=fW j.symm;clear j;have A:=lz r R bg ps tz x X E F (by decide);have B:=(λw' (h:Rd w' r R bg ps)=>lz r R bg ps sJ w' h E F (by decide));have c0:=fX I 0;dsimp at c0;have T:=fW I;have W:=fW Z;clear h I Z X;cases h1:pre (R.cs.extract ps R.cs.size) tz
 .have z:taken R tz ps=ps:=by unfold taken;rw[gR (by simp[h1])]
  rw[h1,z]at A;cases h2:pre (R.cs.extract ps R.cs.size) sJ
  .have G:taken R sJ ps=ps:=by unfold taken;rw[gR (by simp[h2])]
   rw[h2,G]at B;have k:si R ps=scan (jr mg) R.cs ps:=by unfold si;rw[gR (by simp[h1]),gR (by simp[h2])]
   have U:=(λw' (h:Rd w' r R bg ps)=>zl r R bg ps mg w' h E F);rw[<-k]at U;have l:mO R ps=R.cs.extract ps (si R ps):=by unfold mO;rw[gR (by simp[h1]),gR (by simp[h2]),k]
   rw[l];clear h1 h2 z G k l;generalize si R ps=m at *;go_enter func349,ntmps349
   go_wp21
   refine vo 3 ?_;rw[oW,Q.out]
   go_wp21
   refine A.mono ?_;rintro e f ⟨rfl,c,q⟩;have c1:f.cell? ⟨w.heap.size,1,none⟩=some (gI sJ):=by rw[c.cell (p:=⟨w.heap.size,1,none⟩) W.out (by simp;omega),fX T.out];rfl
   have o:=(H.mono (S':=[r]) (by simp)).trans c;clear c
   go_wp21
   rw[oW]
   go_wp21
   refine(B _ q).mono ?_;rintro e y ⟨rfl,a,N⟩;have J:=o.trans a;clear a
   go_wp21
   rw[oW]
   go_wp21
   refine(oO _ y).mono ?_;rintro e w' ⟨rfl,rfl⟩
   go_wp21
   refine(U _ N).mono ?_;rintro e Y ⟨rfl,D,a1⟩;have a0:=J.trans D;clear D;go_wp2;go_ret
   simp_all
  .have G:taken R sJ ps=ps+1:=by unfold taken;rw[gF h2];rfl
   rw[h2,G]at B;have k:si R ps=quoted R sJ ps:=by unfold si;rw[gR (by simp[h1]),gF h2]
   have l:mO R ps=R.cs.extract (ps+1) (scan (jr sJ) R.cs (ps+1)):=by unfold mO;rw[gR (by simp[h1]),gF h2]
   rw[k,l];have u:=NY h2 E (by decide);clear h1 h2 z G k l;have U:=(λf (S:Kept [r] w f) (h:Rd f r R bg (ps+1))=>Jt r R bg ps sJ rfl w f S h u F);generalize R.cs.extract (ps+1) (scan (jr sJ) R.cs (ps+1))=t at *;generalize quoted R sJ ps=m at *;go_enter func349,ntmps349
   go_wp21
   refine vo 3 ?_;rw[oW,Q.out]
   go_wp21
   refine A.mono ?_;rintro e f ⟨rfl,c,q⟩;have c1:f.cell? ⟨w.heap.size,1,none⟩=some (gI sJ):=by rw[c.cell (p:=⟨w.heap.size,1,none⟩) W.out (by simp;omega),fX T.out];rfl
   have o:=(H.mono (S':=[r]) (by simp)).trans c;clear c
   go_wp21
   rw[oW]
   go_wp21
   refine(B _ q).mono ?_;rintro e y ⟨rfl,a,d⟩;have V:=U y (o.trans a) d;clear a d
   go_wp21
   refine(oO _ y).mono ?_;rintro e w' ⟨rfl,rfl⟩
   go_wp21
   refine V.mono ?_;rintro e Y ⟨rfl,P⟩
   go_wp21
   refine P.mono ?_;rintro e w4 ⟨⟨b,rfl⟩,K,O⟩;go_wp2;go_ret
   simp_all
 .have z:taken R tz ps=ps+1:=by unfold taken;rw[gF h1];rfl
  rw[h1,z]at A;have k:si R ps=quoted R tz ps:=by unfold si;rw[gF h1]
  have l:mO R ps=R.cs.extract (ps+1) (scan (jr tz) R.cs (ps+1)):=by unfold mO;rw[gF h1]
  rw[k,l];have u:=NY h1 E (by decide);clear h1 z k l B;have U:=(λf (S:Kept [r] w f) (h:Rd f r R bg (ps+1))=>Jt r R bg ps tz rfl w f S h u F);generalize R.cs.extract (ps+1) (scan (jr tz) R.cs (ps+1))=t at *;generalize quoted R tz ps=m at *;go_enter func349,ntmps349
  go_wp21
  refine vo 3 ?_;rw[oW,Q.out]
  go_wp21
  refine A.mono ?_;rintro e y ⟨rfl,a,d⟩;have V:=U y ((H.mono (S':=[r]) (by simp)).trans a) d;clear a d
  go_wp21
  refine(oO _ y).mono ?_;rintro e w' ⟨rfl,rfl⟩
  go_wp21
  refine V.mono ?_;rintro e Y ⟨rfl,P⟩
  go_wp21
  refine P.mono ?_;rintro e w4 ⟨⟨b,rfl⟩,K,O⟩;go_wp2;go_ret
  simp_all
def PD (s:gz):Bool:=decide (0 < s.size)&&(decide (bt s 0=61)||decide (97<=bt s 0/\bt s 0<=122\/65<=bt s 0/\bt s 0<=90)||decide (48<=bt s 0/\bt s 0<=57))
theorem Ss (s:gz) (w:gw):
  Calls prog 297 #[gI s] w λe w'=>e=ir (.bool (PD s))/\w'=w:=by
 have c:=get_bt s
 by_cases k:0 < s.size
 .have d:=bt_nonneg s 0;have f:=bt_le s 0;have q:=c 0 k;have j:s.toList.isEmpty=false:=by
   rw[sH];cases h:s.data.toList with
   |nil=>
    exfalso;have e1:s.data.toList.length=0:=by rw[h];rfl
    rw[Array.length_toList]at e1;have e2:s.data.size=s.size:=rfl;omega
   |cons=>rfl
  have o:¬s.toList=[]:=by intro h;rw[h]at j;cases j
  have L:=I8 (bt s 0) w d f;have D:=H8 (bt s 0) w d f;have m:PD s=(decide (bt s 0=61)||decide (97<=bt s 0/\bt s 0<=122\/65<=bt s 0/\bt s 0<=90)||decide (48<=bt s 0/\bt s 0<=57)):=by unfold PD;simp[k]
  rw[m]
  by_cases a:bt s 0=61
  .rw[show decide (bt s 0=61)=true from by simp[a]];go_enter func297,ntmps297;go_wp2;go_ret;simp
  .rw[show decide (bt s 0=61)=false from by simp[a]];have p:(bt s 0==61)=false:=beq_eq_false_iff_ne.2 a;cases hl:decide (97<=bt s 0/\bt s 0<=122\/65<=bt s 0/\bt s 0<=90)
   .rw[hl]at L;cases hd:decide (48<=bt s 0/\bt s 0<=57)
    all_goals
     rw[hd]at D;go_enter func297,ntmps297
     go_wp21
     refine L.mono ?_;rintro e w' ⟨rfl,rfl⟩
     go_wp21
     refine D.mono ?_;rintro e w' ⟨rfl,rfl⟩;go_wp2;go_ret;simp
   .rw[hl]at L;go_enter func297,ntmps297
    go_wp21
    refine L.mono ?_;rintro e w' ⟨rfl,rfl⟩;go_wp2;go_ret;simp
 .have l:s=⟨#[]⟩:=Ko (Array.eq_empty_of_size_eq_zero (by simp_all));subst l;go_enter func297,ntmps297;go_wp2;go_ret;exact⟨rfl,rfl⟩
def tQ (look:gz->Option gz) (s:gz) (inV:Bool):Nat->Nat
 |0=>0
 |k+1=>if (look (s.extract 1 (1+(k+1)))).isSome=true then (if (inV&&decide (bt s (k+1)≠59)&&PD (s.extract (1+(k+1)) s.size))=true then 0 else 1+(k+1))else tQ look s inV k
theorem Wb {k : Nat}:tQ look s inV k<=k+1:=by
 induction k with
 |zero=>simp[tQ]
 |succ k ih=>
  grind[tQ]
def vi (look:gz->Option gz) (s:gz) (inV:Bool):Nat->gz
 |0=>⟨#[]⟩
 |k+1=>if (look (s.extract 1 (1+(k+1)))).isSome=true then (if (inV&&decide (bt s (k+1)≠59)&&PD (s.extract (1+(k+1)) s.size))=true then ⟨#[]⟩else (look (s.extract 1 (1+(k+1)))).getD ⟨#[]⟩)else vi look s inV k
theorem NN {k : Nat} (h:∀x t,look x=some t->t.size<=16):(vi look s inV k).size<=16:=by
 induction k with
 |zero=>exact iP _
 |succ k ih=>
  unfold vi;split
  .split
   .exact iP _
   .rename_i a _;have⟨t,ht⟩:=Option.isSome_iff_exists.1 a
    grind
  omega
def QC (b lg:Nat) (look:gz->Option gz) (s:gz) (inV:Bool) (w:gw) (V:Lk w b look) (a1:lg<=1048576) (hs:s.size<=1048576) (h1:1<=s.size):
  Calls prog 244 #[.agg #[.map (some b),gp lg],gI s,.bool inV] w λe w'=>e=ir (.tuple #[gI (vi look s inV (min lg (s.size - 1))),gp (tQ look s inV (min lg (s.size - 1)))])/\Kept [] w w':=by
 have Q:=get_bt s;have Y:=V;clear V;obtain⟨E,u⟩:∃E,E=min lg (s.size - 1):=⟨_,rfl⟩;have W:min (lg:Int) ((s.size:Int) - 1)=(E:Int):=by rw[u];omega
 have I:E<=s.size - 1:=by rw[u];exact Nat.min_le_right ..
 rw[<-u];clear u;obtain⟨m,T⟩:∃m,m=tQ look s inV E:=⟨_,rfl⟩;rw[<-T];obtain⟨p,U⟩:∃p,p=vi look s inV E:=⟨_,rfl⟩;rw[<-U];have S:∀wr,Kept [w.heap.size] (w.alloc (.cells #[.map (some b),gp lg] 129)) wr->True:=λ_ _=>trivial;clear S;go_enter func244,ntmps244
 go_wp21
 go_loopw [8] (λv wr=>∃k:Nat,v=gp k/\k<=s.size - 1/\tQ look s inV k=m/\vi look s inV k=p/\Kept [] (w.alloc (.cells #[.map (some b),gp lg] 129)) wr) (λv _=>(intOf v).toNat)
 case atStart=>exact⟨E,by rfl,I,T.symm,U.symm,Kept.refl _ _⟩
 case round=>
  obtain⟨k,rfl,hk,J,K,f⟩:=hrel;have O:=fW J;have B:=fW K;have D:=fZ w (.cells #[.map (some b),gp lg] 129);have Z:=fX (f.at D (by simp)) 0;dsimp at Z;have a2:w.heap.size < wr.heap.size:=jn (f.at D (by simp));have l:Hid (Lk wr b look):=(Y.kept ((Kept.refl [] w).alloc _) (by simp)).kept f (by simp);clear J K D;cases k with
  |zero=>
   have y:m=0:=O.symm;have z:=(show p=⟨#[]⟩from B.symm);go_wp2;go_ret2;exact⟨qU z.symm y rfl,((Kept.refl [] w).alloc _).trans f⟩
  |succ j=>
   have H:=l.lt;have x:=l.run (s.extract 1 (1+(j+1))) wr rfl;have d:=l.run (s.extract 1 (1+(j+1))) wr.drew rfl;have c:=λo=>l.run (s.extract 1 (1+(j+1))) (wr.alloc o) (Below.heap_alloc wr o b H);have a:=λo=>l.run (s.extract 1 (1+(j+1))) (wr.alloc o).drew (Below.heap_alloc wr o b H);cases hlo:look (s.extract 1 (1+(j+1)))with
   |none=>
    rw[hlo]at x d;simp only[hlo]at c a;have P:tQ look s inV j=m:=by rw[<-O.out,tQ,gR (by simp[hlo])]
    have F:=(show vi look s inV j=p by rw[<-B.out,vi,gR (by simp[hlo])]);clear hlo;simp only[Option.getD_none,Option.isSome_none]at x d c a
    go_wp21
    go_region
    all_goals (try go_wp2)
    exact⟨⟨j,rfl,by omega,P,F,(f.alloc _).drew⟩,by simp[intOf]⟩
   |some t=>
    rw[hlo]at x d;simp only[hlo]at c a;have N:Hid (m=if (inV&&decide (bt s (j+1)≠59)&&PD (s.extract (1+(j+1)) s.size))=true then 0 else 1+(j+1)):=by
     rw[<-O.out,tQ,gF (by simp[hlo])];exact rfl
    have q:Hid (p=if (inV&&decide (bt s (j+1)≠59)&&PD (s.extract (1+(j+1)) s.size))=true then ⟨#[]⟩else t):=by
     rw[<-B.out,vi,gF (by simp[hlo]),hlo];exact rfl
    clear hlo;simp only[Option.getD_some,Option.isSome_some]at x d c a;have A:Hid (Kept [] w (wr.alloc (.cells #[gI t] 185)).drew):=(((Kept.refl [] w).alloc _).trans (f.alloc _)).drew;have hj:j+1 < s.size:=by omega
    have a0:=Q (j+1) hj;cases inV
    .have y:m=1+(j+1):=by rw[N.out];simp
     have z:=(show p=t by rw[q.out];simp)
     go_wp21
     go_region
     all_goals (try go_wp2)
     all_goals (try go_ret2)
     all_goals exact⟨qU z.symm y rfl,A⟩
    .by_cases h:bt s (j+1)=59
     .have y:m=1+(j+1):=by rw[N.out];simp[h]
      have z:=(show p=t by rw[q.out];simp[h])
      go_wp21
      go_region
      all_goals (try go_wp2)
      all_goals (try go_ret2)
      all_goals exact⟨qU z.symm y rfl,A⟩
     .have X:(bt s (j+1) != 59)=true:=by rw[bne_iff_ne];exact h
      have G:=Ss (s.extract (1+(j+1)) s.size) (wr.alloc (.cells #[gI t] 185)).drew;cases hg:PD (s.extract (1+(j+1)) s.size);have y:m=1+(j+1):=by rw[N.out];simp[hg]
      have z:=(show p=t by rw[q.out];simp[hg])
      rotate_left
      have y:m=0:=by rw[N.out];simp[hg,h]
      have z:=(show p=⟨#[]⟩ by rw[q.out];simp[hg,h])
      all_goals
       rw[hg]at G;clear hg h
       go_wp21
       go_region
       all_goals (try (go_wp21))
       all_goals (refine G.mono ?_;rintro e w' ⟨rfl,rfl⟩)
       all_goals (try go_wp2)
       all_goals (try go_ret2)
       all_goals exact⟨qU z.symm y rfl,A⟩
def lO (look:gz->Option gz) (lg:Nat) (s:gz) (inV:Bool):Nat:=
 if pre s ⟨#[38,35]⟩=true then uv s else if pre s BN=true then tQ look s inV (min lg (s.size - 1))else 0
def Cp:lO look lg s inV<=s.size:=by
 unfold lO;split
 .rename_i h;exact SI (EV h)
 .split
  .rename_i h;have a:1<=s.size:=EV h;have c:=Wb (look:=look) (s:=s) (inV:=inV) (k:=min lg (s.size - 1));omega
  simp
def oh (look:gz->Option gz) (lg:Nat) (s:gz) (inV:Bool):gz:=
 if pre s ⟨#[38,35]⟩=true then uw s else if pre s BN=true then vi look s inV (min lg (s.size - 1))else ⟨#[]⟩
def xA (h:∀x t,look x=some t->t.size<=16):(oh look lg s inV).size<=16:=by
 unfold oh;split
 .exact Lb s
 .split
  .exact NN h
  .exact iP _
def QD (b lg:Nat) (look:gz->Option gz) (s:gz) (inV:Bool) (w:gw) (B:Lk w b look) (u:lg<=1048576) (l:s.size<=1048576):
  Calls prog 152 #[.agg #[.map (some b),gp lg],gI s,.bool inV] w λe w'=>e=ir (.tuple #[gI (oh look lg s inV),gp (lO look lg s inV)])/\Kept [] w w':=by
 obtain⟨c,a⟩:∃c,c=w.alloc (.cells #[.map (some b),gp lg] 129):=⟨_,rfl⟩;have h:c.heap[w.heap.size]?=some (gJ #[.map (some b),gp lg] 129):=by rw[a];exact fZ w _
 have j:Kept [] w c:=by rw[a];exact(Kept.refl _ _).alloc _
 have z:=fX h 0;have A:=fX h 1;dsimp at z A;have p:=fW a.symm;have y:=B.kept j (by simp);have d:=uj s ⟨#[38,35]⟩ c l (by decide);have k:=uj s BN c l (by decide);clear a;cases h1:pre s ⟨#[38,35]⟩
 .rw[h1]at d;cases h2:pre s BN
  .rw[h2]at k;have e:lO look lg s inV=0:=by unfold lO;rw[gR (by simp[h1]),gR (by simp[h2])]
   have f:oh look lg s inV=⟨#[]⟩:=by unfold oh;rw[gR (by simp[h1]),gR (by simp[h2])]
   rw[e,f];go_enter func152,ntmps152
   go_wp21
   rw[p.out];refine d.mono ?_;rintro e w' ⟨rfl,rfl⟩
   go_wp21
   refine k.mono ?_;rintro e w' ⟨rfl,rfl⟩;go_wp2;go_ret2;exact⟨rfl,j⟩
  .rw[h2]at k;have x:1<=s.size:=EV h2;have e:lO look lg s inV=tQ look s inV (min lg (s.size - 1)):=by unfold lO;rw[gR (by simp[h1]),gF h2]
   have f:oh look lg s inV=vi look s inV (min lg (s.size - 1)):=by unfold oh;rw[gR (by simp[h1]),gF h2]
   rw[e,f];have C:=QC b lg look s inV c y u l x;generalize tQ look s inV (min lg (s.size - 1))=m at *;generalize vi look s inV (min lg (s.size - 1))=t at *;go_enter func152,ntmps152
   go_wp21
   rw[p.out];refine d.mono ?_;rintro e w' ⟨rfl,rfl⟩
   go_wp21
   refine k.mono ?_;rintro e w' ⟨rfl,rfl⟩
   go_wp21
   refine C.mono ?_;rintro e D ⟨rfl,q⟩;have o:=j.trans q;go_wp2;go_ret2;exact⟨rfl,o⟩
 .rw[h1]at d;have x:2<=s.size:=EV h1;have e:lO look lg s inV=uv s:=by unfold lO;rw[gF h1]
  have f:oh look lg s inV=uw s:=by unfold oh;rw[gF h1]
  rw[e,f];have C:=Ju s c l x;generalize uv s=m at *;generalize uw s=t at *;go_enter func152,ntmps152
  go_wp21
  rw[p.out];refine d.mono ?_;rintro e w' ⟨rfl,rfl⟩
  go_wp21
  refine C.mono ?_;rintro e D ⟨rfl,rfl⟩;go_wp2;go_ret2;exact⟨rfl,j⟩
def pH (look:gz->Option gz) (lg:Nat) (s:gz):Nat:=if lO look lg s false=0 then 1 else lO look lg s false
theorem Dl:0 < pH look lg s:=by grind[pH]
def FK (h:0 < s.size):pH look lg s<=s.size:=by
 unfold pH;split
 .omega
 .exact Cp
def rI (look:gz->Option gz) (lg:Nat) (s:gz):gz:=if lO look lg s false=0 then s.extract 0 1 else oh look lg s false
structure Xh (w:gw) (g n:Nat) (A:Nat->gz×gz):Prop where
 lt:0 < n->g < w.heap.size
 nm:∀i,i < n->w.cell? ⟨g,i*2,none⟩=some (gI (A i).1)
 vl:∀i,i < n->w.cell? ⟨g,i*2+1,none⟩=some (gI (A i).2)
def Xh.kept {A : Nat->gz×gz} {S : List Nat} (h:Xh w g n A) (c:Kept S w w') (d:g∉S):Xh w' g n A:=
 ⟨λe=>lU (h.lt e) c.size,λi a=>(c.cell (p:=⟨g,i*2,none⟩) (h.lt (by omega)) d).trans (h.nm i a),λi a=>(c.cell (p:=⟨g,i*2+1,none⟩) (h.lt (by omega)) d).trans (h.vl i a)⟩
def nX (A:Nat->gz×gz) (n:Nat) (s:gz) (i:Nat):Bool:=if i < n then (if ((A i).1.toList==s.toList)=true then true else nX A n s (i+1))else false
  termination_by n - i
def aaK (x y:Int) (nm s:gz) (g n cap:Nat) (A:Nat->gz×gz) (w:gw) (z:Xh w g n A) (F:n<=1048576):
  Calls prog 320 #[.agg #[gp x,gp y,gI nm,rh g n cap],gI s] w λe w'=>e=ir (.bool (nX A n s 0))/\Kept [] w w':=by
 obtain⟨m,p⟩:∃m,m=nX A n s 0:=⟨_,rfl⟩;rw[<-p];have t:=z;go_enter func320,ntmps320
 go_wp21
 go_loopw [10] (λv wr=>∃k:Nat,v=gp k/\k<=n/\nX A n s k=m/\Kept [] w wr) (λv _=>n - (intOf v).toNat)
 case atStart=>exact⟨0,rfl,iP _,p.symm,(Kept.refl _ _).alloc _⟩
 case round=>
  obtain⟨k,rfl,E,o,h⟩:=hrel;have j:=fW o;have d:=h
  by_cases a:k < n
  .have q:=t.kept h (by simp);have B:=q.nm k a;have D:=q.vl k a;clear o;cases he:((A k).1.toList==s.toList)
   .have e:nX A n s (k+1)=m:=by rw[<-j.out,nX.eq_1 A n s k,gF a,gR (by simp[he])]
    have f:=fW e;have l:¬(A k).1.toList=s.toList:=by simpa using he
    clear e;have c:=d.alloc (.cells #[gI (A k).1,gI (A k).2] 275);generalize (A k).1=u at *;generalize (A k).2=v at *;go_wp2;go_roundw
    case rel=>exact⟨k+1,by go_num,by omega,f,c⟩
    case measure=>simp[intOf];omega
   .have e:m=true:=by rw[<-j.out,nX.eq_1 A n s k,gF a,gF he]
    have f:=fW e;have l:(A k).1.toList=s.toList:=by simpa using he
    clear e;have c:=d.alloc (.cells #[gI (A k).1,gI (A k).2] 275);generalize (A k).1=u at *;generalize (A k).2=v at *;go_wp2;go_ret;exact⟨by rw[f.out];rfl,c⟩
  .have e:m=false:=by rw[<-j.out,nX.eq_1 A n s k,gR a]
   have f:=fW e;clear e o;go_wp2;go_ret;exact⟨by rw[f.out];rfl,d⟩
theorem OW:(∃j,prog.info? 307=some j/\j.size≠0):=by
 have h:((prog.info? 307).map λi=>i.size)=some 2:=by kernel_rfl
 have⟨j,hj,h2⟩:=Option.map_eq_some_iff.1 h
 grind
def M1:liesAt prog prog.depth 307 (2 / prog.cellsOf 307) 0 307 1=true:=by kernel_rfl
theorem KH (B b:Nat) (bs:List gP) (w:gw) (h:Lib.IsBuilder 307 5 B b bs w):
  Calls prog 344 #[gL b] w λe w'=>e=p8/\Lib.BuilderAt 307 5 B b (gL b) bs w'/\Below B w w':=by
 obtain⟨j,a,c⟩:=OW;rcases h with h|h
 .have k:=h.cell0;have o:=h.frozen0;have d:=h.used (gL b);have f:=(Below.refl B w).setCell (p:=⟨b,0,none⟩) h.1 (gL b);have m:=d.cell0;have t:=Lib.run_to_unsafe (P:=prog) w (src:=305) (dst:=74) ⟨b,0,none⟩ underlying305 underlying74 a c h.shape (show 0 < 2 by decide);have q:=Lib.run_from_unsafe (P:=prog) w (src:=74) (dst:=305) ⟨b,0,none⟩ underlying74 underlying305 a h.shape M1;have l:=Lib.run_neq_ptr_same (P:=prog) (w.setCell ⟨b,0,none⟩ (gL b)) (tp:=305) ⟨b,0,none⟩ underlying305 a;go_enter func344,ntmps344;go_wp2;rw[run_callFunc_extern func362 (by rfl) (by rfl) rfl (e:=Extern.AbiNoEscape.same) rfl];rw[Lib.run_noEscape];simp only[Result.andThen];rw[Oper.upon_value];go_wp2;go_end0
  grind
 .have k:=h.cell0;have d:=h;have f:=Below.refl B w;have l:=Lib.run_neq_ptr_same (P:=prog) w (tp:=305) ⟨b,0,none⟩ underlying305 a;go_enter func344,ntmps344;go_wp2;go_end0
  grind
theorem zF (B b:Nat) (bs:List gP) (s:gz) (w:gw) (h:Lib.IsBuilder 307 5 B b bs w) (o:bs.length+s.size<=1048576) (G:B<=w.heap.size):
  Calls prog 316 #[gL b,gI s] w λe w'=>e=ir (.tuple #[gp s.size,.nilIface])/\(Lib.BuilderAt 307 5 B b (gL b) (bs++Lib.strCells s) w'/\Below B w w'):=by
 have⟨i0,hi,hz0,hz1,hz2⟩:=vp Nv;have y:=h;go_enter func316,ntmps316
 go_wp21
 refine(KH B b bs _ y).mono ?_;rintro e I ⟨rfl,F,f⟩;have⟨hB,v,hbk,hown,hne⟩:=F;have z:=fX hbk 0;have A:=fX hbk 1;dsimp at z A;go_wp2_with (at_builtin;refine Lib.wpList_append_own_string _ rfl _ _ 50 9 rfl B 5 i0 underlying50 underlying9 hi hz0 hz1 hz2 _ _ _ rfl hown s rfl ?c3 ?c4 ?c5 ?_)
 case c3=>unfold maxLen;omega
 case c4=>omega
 case c5=>grind
 intro t u c a _;have j:b < I.heap.size:=jn hbk;have d:u.heap[b]?=some (gJ #[gL b,v] 307):=by
  rw[a.block b j (λe=>hne e.symm)];exact hbk
 have E:=fX d 1;dsimp at E;have K:u.frozen? ⟨b,1,none⟩=false:=gG d 1;have J:=Lib.BuilderAt.put (T:=307) (e:=5) hB d (bs':=bs++Lib.strCells s) (by simpa [Lib.strCells_length]using c) (by decide);have x:=(f.grown a (by omega) (λk H=>(hown.lt k H).1)).setCell (p:=⟨b,1,none⟩) hB t;obtain⟨m,q,cap,l⟩:∃m q cap,t= .slice m q cap:=by
  rcases c.2 with⟨l,_⟩|⟨g,cap,D,l,_⟩
  all_goals grind
 subst l;go_wp2;go_ret2
 simp_all
theorem YW {t : gz} (h:¬t.size=0):t.toList.isEmpty=false:=by
 rw[sH];cases hh:t.data.toList with
 |nil=>exact absurd (show t.data.size=0 by simp_all) h
 |cons=>rfl
def Oj:gP->Nat
 | .string t=>t.size
 |_=>0
def IX {T e B : Nat} {bs : List gP} (h:Lib.IsBuilder T e B b bs w) (a:Kept [] w w'):Lib.IsBuilder T e B b bs w':=by
 rcases h with⟨c,v,d,f,j⟩|⟨c,v,d,f,j⟩
 .exact .inl ⟨c,v,a.at d (by simp),a.ownsRow f (λ_ _=>by simp),j⟩
 .exact .inr ⟨c,v,a.at d (by simp),a.ownsRow f (λ_ _=>by simp),j⟩
def Ay (l:List UInt8) (t:gz):Lib.byteCells l++Lib.strCells t=Lib.byteCells (l++t.data.toList):=by
 unfold Lib.byteCells Lib.strCells;simp
def vj (look:gz->Option gz) (lg:Nat) (s:gz):List UInt8:=
 if s.size=0 then []else if lO look lg s true=0 then (s.extract 0 1).data.toList++vj look lg (s.extract 1 s.size)else (oh look lg s true).data.toList++vj look lg (s.extract (lO look lg s true) s.size)
  termination_by s.size
  decreasing_by all_goals (simp;omega)
def AF (h:∀x t,look x=some t->t.size<=16) (s:gz):(vj look lg s).length<=16*s.size:=by
 rw[vj];split
 .simp
 .split
  .have:=AF h (s.extract 1 s.size);simp at this|-;omega
  .have:=AF h (s.extract (lO look lg s true) s.size);have a:=xA (lg:=lg) (s:=s) (inV:=true) h;have e:(oh look lg s true).data.size=(oh look lg s true).size:=rfl;simp[e]at this|-;omega
  termination_by s.size
  decreasing_by all_goals (simp;omega)
def Ro (b lg:Nat) (look:gz->Option gz) (s:gz) (w:gw) (hL:Lk w b look) (J:lg<=1048576) (hs:s.size<=1024):
  Calls prog 348 #[.agg #[.map (some b),gp lg],gI s] w λe w'=>e=ir (gI ⟨(vj look lg s).toArray⟩)/\Kept [] w w':=by
 obtain⟨a,f⟩:∃a,a=w.alloc (.cells #[.map (some b),gp lg] 129):=⟨_,rfl⟩;have y:a.heap[w.heap.size]?=some (gJ #[.map (some b),gp lg] 129):=by rw[f];exact fZ w _
 have Q:Kept [] w a:=by rw[f];exact(Kept.refl _ _).alloc _
 have V:a.heap.size=w.heap.size+1:=by rw[f];simp
 have T:=hL.kept Q (by simp);have Z:=fW f.symm;have p:=fW y;have G:=fW V;clear f y V;go_enter func348,ntmps348
 go_wp21
 rw[Z.out];have Y:=Lib.fresh_isBuilder 307 5 a;have D:=((Below.refl a.heap.size a).alloc (ij _) (.cells #[.pointer none,jX] 307));have ez:w.heap.size+1=a.heap.size:=G.symm
 try rw[ez]
 go_loopw [1] (λv wr=>∃(t:gz) (l:List UInt8),v=gI t/\t.size<=s.size/\l.length+16*t.size<=16*s.size/\l++vj look lg t=vj look lg s/\Lib.IsBuilder 307 5 a.heap.size a.heap.size (Lib.byteCells l) wr/\Below a.heap.size a wr) (λv _=>Oj v)
 case atStart=>exact⟨s,[],rfl,ij _,by simp,rfl,Y,D⟩
 case round=>
  obtain⟨t,l,rfl,ht,hl,B,P,j⟩:=hrel;have k:=fW B;have c0:=fX ((Kept.A5 j).at p.out (by simp)) 0;have c1:=fX ((Kept.A5 j).at p.out (by simp)) 1;dsimp at c0 c1;clear B
  by_cases H:t.size=0
  .have e0:t=⟨#[]⟩:=by
    apply Ko;exact Array.eq_empty_of_size_eq_zero H
   subst e0;have X:=fW (show l=vj look lg s by rw[<-k.out,vj,gF (show kJ.size=0 from rfl),List.append_nil]);have S:=Tryz.Builder_String_any a.heap.size a.heap.size l wr P j.size
   go_wp21
   refine S.mono ?_;rintro e N ⟨rfl,I⟩;have E:=Q.trans (Kept.A5 (j.trans I));go_wp2;go_ret;exact⟨by rw[<-X.out];rfl,E⟩
  .have a1:t.toList.isEmpty=false:=YW H;have C:=QD b lg look t true wr (T.kept (Kept.A5 j) (by simp)) J (by omega);have a2:=Cp (look:=look) (lg:=lg) (s:=t) (inV:=true)
   go_wp21
   refine C.mono ?_;rintro e N ⟨rfl,z⟩;have U:=xA (lg:=lg) (s:=t) (inV:=true) T.short;have A:vj look lg t=if lO look lg t true=0 then (t.extract 0 1).data.toList++vj look lg (t.extract 1 t.size)else (oh look lg t true).data.toList++vj look lg (t.extract (lO look lg t true) t.size):=by rw[vj,gR H]
   have u:=fW A;clear A;generalize oh look lg t true=x at *;have q:=IX P z;have h:=j.trans (z.below j.size (by simp));generalize lO look lg t true=n at *
   by_cases K:n=0
   .have m:=(show(l++(t.extract 0 1).data.toList)++vj look lg (t.extract 1 t.size)=vj look lg s by rw[<-k.out,u.out,gF K,BI]);subst K;have W:=zF a.heap.size a.heap.size (Lib.byteCells l) (t.extract 0 1) N q (by simp[Lib.byteCells];omega) h.size
    go_wp21
    refine W.mono ?_;rintro e O ⟨rfl,o,d⟩;have F:=(show Lib.IsBuilder 307 5 a.heap.size a.heap.size (Lib.byteCells (l++(t.extract 0 1).data.toList)) O from .inr (by rw[<-Ay];exact o));have c:=h.trans d;go_wp2;go_roundw
    case rel=>exact⟨_,_,rfl,by simp;omega,by simp;omega,m,F,c⟩
    case measure=>simp[Oj];omega
   .have a0:((n:Int)==0)=false:=beq_eq_false_iff_ne.2 (by omega);have m:=(show(l++x.data.toList)++vj look lg (t.extract n t.size)=vj look lg s by rw[<-k.out,u.out,gR K,BI]);have W:=zF a.heap.size a.heap.size (Lib.byteCells l) x N q (by have:=U;simp[Lib.byteCells];omega) h.size
    go_wp21
    refine W.mono ?_;rintro e O ⟨rfl,o,d⟩;have F:=(show Lib.IsBuilder 307 5 a.heap.size a.heap.size (Lib.byteCells (l++x.data.toList)) O from .inr (by rw[<-Ay];exact o));have c:=h.trans d;go_wp2;go_roundw
    case rel=>exact⟨_,_,rfl,by simp;omega,by have:=U;have e:x.data.size=x.size:=rfl;simp[e];omega,m,F,c⟩
    case measure=>simp[Oj];omega
def mu (R:RC) (ps:Nat):Nat:=scan (λc=>!jr mw c) R.cs ps
def pC (R:RC) (ps:Nat):Nat:=if pre (R.cs.extract (mu R ps) R.cs.size) ⟨#[61]⟩=true then si R (mu R (mu R ps+1))else mu R ps
def Ed (h:ps<=R.cs.size):mu R ps<=R.cs.size:=pz h
def Ov:ps<=mu R ps:=sZ
def WV (h:ps<=R.cs.size):pC R ps<=R.cs.size:=by
 unfold pC;split
 .rename_i a;exact Wt (Ed (lx a (Ed h)))
 .exact Ed h
def yw:ps<=pC R ps:=by
 unfold pC;split
 .have a:=Ov (R:=R) (ps:=ps);have c:=Ov (R:=R) (ps:=mu R ps+1);have d:=Ws (R:=R) (ps:=mu R (mu R ps+1));omega
 .exact Ov
def rZ (look:gz->Option gz) (lg:Nat) (R:RC) (ps:Nat):gz:=if pre (R.cs.extract (mu R ps) R.cs.size) ⟨#[61]⟩=true then oB ⟨(vj look lg (mO R (mu R (mu R ps+1)))).toArray⟩else ⟨#[]⟩
structure Nm (w:gw) (r:Nat) (R:RC) (b lg:Nat) (look:gz->Option gz):Prop where
 lk:Lk w b look
 ne:b≠r
 mv:R.mv= .map (some b)
 lgv:R.lg=lg
 le:lg<=1048576
def Nm.kept (h:Nm w r R b lg look) (a:Kept [r] w w'):Nm w' r R b lg look:=
 ⟨h.lk.kept a (by simp[h.ne]),h.ne,h.mv,h.lgv,h.le⟩
theorem WX (r:Nat) (R:RC) (bg ps b lg:Nat) (look:gz->Option gz) (w:gw) (h:Rd w r R bg ps) (N:Nm w r R b lg look) (V:Gl w r) (P:ps<=R.cs.size) (x:R.cs.size<=1024):
  Calls prog 321 #[gL r] w λe w'=>e=ir (gI (rZ look lg R ps))/\Kept [r] w w'/\Rd w' r R bg (pC R ps):=by
 have K:=vB r R bg ps mw w h P x;have d:=fW N;have T:=V;have E:=Ed (R:=R) P;clear N;cases he:pre (R.cs.extract (mu R ps) R.cs.size) ⟨#[61]⟩
 .have D:pC R ps=mu R ps:=by unfold pC;rw[gR (by simp[he])]
  have B:rZ look lg R ps=⟨#[]⟩:=by unfold rZ;rw[gR (by simp[he])]
  rw[D,B];have p:taken R ⟨#[61]⟩ (mu R ps)=mu R ps:=by unfold taken;rw[gR (by simp[he])]
  go_enter func321,ntmps321
  go_wp21
  refine K.mono ?_;rintro e J ⟨rfl,a,l⟩;have t:=lz r R bg (mu R ps) ⟨#[61]⟩ J l E x (by decide);rw[he,p]at t
  go_wp21
  refine t.mono ?_;rintro e Q ⟨rfl,f,U⟩;have q:=a.trans f;go_wp2;go_ret
  simp_all
 .have D:pC R ps=si R (mu R (mu R ps+1)):=by unfold pC;rw[gF he]
  have B:rZ look lg R ps=oB ⟨(vj look lg (mO R (mu R (mu R ps+1)))).toArray⟩:=by unfold rZ;rw[gF he]
  rw[D,B];have p:taken R ⟨#[61]⟩ (mu R ps)=mu R ps+1:=by unfold taken;rw[gF he];rfl
  have O:mu R ps+1<=R.cs.size:=lx he E;go_enter func321,ntmps321
  go_wp21
  refine K.mono ?_;rintro e J ⟨rfl,a,l⟩;have t:=lz r R bg (mu R ps) ⟨#[61]⟩ J l E x (by decide);rw[he,p]at t
  go_wp21
  refine t.mono ?_;rintro e Q ⟨rfl,f,G⟩;have q:=a.trans f;have z:=vB r R bg (mu R ps+1) mw Q G O x
  go_wp21
  refine z.mono ?_;rintro e y ⟨rfl,F,m⟩;have c:=q.trans F;have A:Hid (Rd y r R bg (mu R (mu R ps+1))):=m;have W:=Ed (R:=R) O;have mv:y.cell? ⟨r,5,none⟩=some (.map (some b)):=by rw[m.mv,d.out.mv]
  have Z:y.cell? ⟨r,6,none⟩=some (gp lg):=by rw[m.lg,d.out.lgv]
  have X:=Cm (R:=R) (ps:=mu R (mu R ps+1));have Y:=AF (lg:=lg) d.lk.short (mO R (mu R (mu R ps+1)));have S:=N4 r R bg (mu R (mu R ps+1)) y.drew (show Rd y.drew r R bg _ from A) W x
  go_wp21
  go_region_with (first
   |(go_at_call 349;refine S.mono ?_;rintro e w4 ⟨rfl,j,o⟩;have I:=o.mv;rw[d.out.mv]at I;have H:=o.lg;rw[d.out.lgv]at H)
   |(go_at_call 348;refine(Ro b lg look _ _ (d.kept (c.drew.trans j)).lk d.le (by omega)).mono ?_;rintro e w5 ⟨rfl,k⟩)
   |(go_at_call 140;refine(yg r _ _ (by simp[ByteArray.size];omega) ((T.kept (c.drew.trans j)).kept (k.mono (by simp)))).mono ?_;rintro e w6 ⟨rfl,u⟩))
  all_goals (try go_wp2)
  all_goals (try go_ret)
  all_goals exact⟨rfl,(c.drew.trans j).trans ((k.trans u).mono (by simp)),(o.kept k (by simp)).kept u (by simp)⟩
def rC (L:kY):List gP:=L.flatMap λp=>[gI p.1,gI p.2]
def Kr (L M:kY):rC (L++M)=rC L++rC M:=by simp[rC]
theorem FC (L:kY) (i:Nat) (h:i < L.length):(rC L)[i*2]?=some (gI (L[i]).1)/\(rC L)[i*2+1]?=some (gI (L[i]).2):=by
 induction L generalizing i with
 |nil=>simp at h
 |cons p L ih=>
  show(gI p.1::Value.string p.2::rC L)[i*2]?=_/\(gI p.1::Value.string p.2::rC L)[i*2+1]?=_
  grind
def nth (ns:List gz) (i:Nat):gz×gz:=(ns.getD i ⟨#[]⟩,⟨#[]⟩)
def Nz (ns:List gz) (s:gz):Bool:=nX (nth ns) ns.length s 0
theorem KR {A B : Nat->gz×gz} (h:∀i,i < n->(A i).1=(B i).1) (i:Nat):nX A n s i=nX B n s i:=by
 fun_induction nX A n s i with
 |case1 i hi he=>grind[nX]
 |case2 i hi he ih=>grind[nX]
 |case3 i hi=>grind[nX]
def Yp (x y:Int) (nm s:gz) (w:gw):
  Calls prog 320 #[.agg #[gp x,gp y,gI nm,jX],gI s] w λe w'=>e=ir (.bool false)/\Kept [] w w':=by
 have c:=(Kept.refl [] w).alloc (.cells #[gp x,gp y,gI nm,jX] 173);go_enter func320,ntmps320
 go_wp21
 go_loopw [10] (λv wr=>v=gp 0/\Kept [] w wr) (λv _=>0)
 case atStart=>exact⟨rfl,c⟩
 case round=>
  obtain⟨rfl,a⟩:=hrel;go_wp2;go_ret;exact⟨rfl,a⟩
def YY (L:kY) (i:Nat):gz×gz:=L.getD i (⟨#[]⟩,⟨#[]⟩)
theorem T8 (base:Nat) (x y:Int) (nm s:gz) (d:gP) (L:kY) (w:gw) (c:w.ownsRow base 275 2 d L.length (rC L)) (m:L.length<=1048576):
  Calls prog 320 #[.agg #[gp x,gp y,gI nm,d],gI s] w λe w'=>e=ir (.bool (Nz (L.map (·.1)) s))/\Kept [] w w':=by
 rcases c.2 with⟨rfl,h⟩|⟨g,cap,f,rfl,k,l,_⟩
 .have e:Nz (L.map (·.1)) s=false:=by
   have:L=[]:=Xa h;subst this;unfold Nz;rw[nX.eq_1];simp
  rw[e];exact Yp x y nm s w
 .have j:Xh w g L.length (YY L):=by
   refine⟨λ_=>jn l,λi a=>?_,λi a=>?_⟩
   .have:=c.cells (g:=g) rfl (i*2) _ (FC L i a).1;rw[jq]at this
    grind[YY]
   .have:=c.cells (g:=g) rfl (i*2+1) _ (FC L i a).2;rw[jq]at this
    grind[YY]
  have e:Nz (L.map (·.1)) s=nX (YY L) L.length s 0:=by
   unfold Nz;rw[BK];exact KR (λi a=>by simp[nth,YY,a]) 0
  rw[e];exact aaK x y nm s g L.length cap _ w j m
structure Bk (w:gw) (base tb:Nat) (x y:Int) (nm:gz) (av:gP) (L:kY):Prop where
 iw:w.heap[tb]?=some (gJ #[gp x,gp y,gI nm,av] 173)
 own:w.ownsRow base 275 2 av L.length (rC L)
theorem Bk.kept {base c : Nat} {x y : Int} {nm : gz} {d : gP} (h:Bk w base c x y nm d L) (a:Kept [r] w w') (f:r < base) (e:base<=c):Bk w' base c x y nm d L:=
 ⟨a.at h.iw (by grind),a.ownsRow h.own (λk a=>by have:=(h.own.lt k a).1;grind)⟩
def AO (R:RC) (ps:Nat):gz:=oB (small (R.cs.extract ps (kj R ps)))
def zi (R:RC) (ns:List gz) (ps:Nat):Bool:=!Nz ns (AO R ps)&&!decide (kj R ps=R.cs.size)&&decide (R.at_<=(ns.length:Int))
def uU (L:kY) (a v:gz):kY:=if Nz (L.map (·.1)) a=true then L else L++[(a,v)]
def re (R:RC) (look:gz->Option gz) (lg:Nat) (L:kY) (ps:Nat):kY:=uU L (AO R ps) (rZ look lg R (kj R ps))
def Je (h:ps < R.cs.size):kj R ps<=R.cs.size:=pz (by omega)
def wo:ps < kj R ps:=lU (Nat.lt_succ_self _) sZ
def Rd.DQ (h:Rd w r R bg ps):w.cell? ⟨r,4,none⟩=some (gp R.at_):=by rw[fX h];rfl
def Yx:(prog.info? 275).map (λi=>(i.zero,i.size,i.bytes))=some (some (.agg #[gI kJ,gI kJ]),2,32):=by kernel_rfl
def Tl (w:gw) (k:Nat) (n a:Int):Prop:=w.heap[k]?=some (gJ #[gp n,gp a] 67)
theorem Ku (r E:Nat) (R:RC) (bg ps g cap b lg:Nat) (look:gz->Option gz) (cut:Nat->Nat) (x y:Int) (nm:gz) (av:gP) (L:kY) (F w:gw)
  (ac:Kept [r] F w) (B:r < F.heap.size) (z:F.heap.size<=E) (h:Rd w r R bg ps) (hA:Ly w r R g cap cut) (hN:Nm w r R b lg look) (hG:Gl w r) (hT:Bk w F.heap.size E x y nm av L)
  (hb:bg<=R.cs.size) (hp:ps < R.cs.size) (hs:R.cs.size<=1024) (hL:L.length<=4096):
  Calls prog 284 #[gL r,gL E] w λe w'=>
   if zi R (L.map (·.1)) ps=true then ∃k,e= .panicked [{v:= .iface 62 (gL k),recovered:=false}]/\Tl w' k 7 (cut bg)/\F.heap.size<=k/\Kept [r] F w'
   else e=p8/\∃P,Bk w' F.heap.size E x y nm P (re R look lg L ps)/\Kept [r] F w'/\Rd w' r R bg (pC R (kj R ps)):=by
 obtain⟨i0,hi,an,ap,aq⟩:=vp Yx;have ae:=Je (R:=R) hp;have HN:=fW hN;have HG:=fW hG;have HA:=fW hA;have HT:=fW hT;have aa:=fW ac;have CN:=fW (Dg r R bg ps w h hp hs hG);have A:re R look lg L ps=uU L (AO R ps) (rZ look lg R (kj R ps)):=rfl;clear h hA hN hG hT ac;have ag:zi R (L.map (·.1)) ps=(!Nz (L.map (·.1)) (AO R ps)&&!decide (kj R ps=R.cs.size)&&decide (R.at_<=(L.length:Int))):=by unfold zi;rw[BK]
 rw[ag];clear ag;obtain⟨H,Z⟩:∃H,H=AO R ps:=⟨_,rfl⟩;have a4:oB (small (R.cs.extract ps (kj R ps)))=H:=Z.symm;rw[a4]at CN;clear a4;rw[<-Z]at A;rw[<-Z];obtain⟨ns,a9⟩:∃ns,ns=L.map (·.1):=⟨_,rfl⟩;rw[<-a9];have Y:=fW a9;clear Z a9;obtain⟨m,hm⟩:∃m,m=kj R ps:=⟨_,rfl⟩;rw[<-hm]at CN ae A;rw[<-hm];clear hm;have HV:=(λw' h1 h2 h3=>WX r R bg m b lg look w' h1 h2 h3 ae hs);obtain⟨U,ah⟩:∃U,U=rZ look lg R m:=⟨_,rfl⟩;rw[<-ah]at HV A;clear ah;have HV:=fW HV;have ab:=fW A;clear A;have⟨ao,cp,hav⟩:=gH HT.out.own;subst hav;have ax:r≠E:=by omega
 cases hin:Nz ns H
 .skip
  rcases(show m=R.cs.size\/(¬m=R.cs.size/\R.at_<=(L.length:Int))\/(¬m=R.cs.size/\¬R.at_<=(L.length:Int)) by omega)with d|⟨d,Q⟩|⟨d,Q⟩;have ec:(!false&&!decide (m=R.cs.size)&&decide (R.at_<=(L.length:Int)))=false:=by simp[d]
  have e3:decide (m=R.cs.size)=true:=by simp[d]
  rotate_left
  have ec:(!false&&!decide (m=R.cs.size)&&decide (R.at_<=(L.length:Int)))=true:=by simp[d,Q]
  have e3:decide (m=R.cs.size)=false:=by simp[d]
  rotate_left
  have ec:(!false&&!decide (m=R.cs.size)&&decide (R.at_<=(L.length:Int)))=false:=by simp[Q]
  have e3:decide (m=R.cs.size)=false:=by simp[d]
  all_goals
   rw[ec];clear ec;simp only[wP,AH,xG];go_enter func284,ntmps284
   go_wp21
   refine CN.out.mono ?_;rintro e w1 ⟨rfl,q,D⟩;have c:=fW (HT.out.kept q B z);have a6:=fW (aa.out.trans q);have a8:=fW D;have a7:=fW q;have a0:=fX c.out.iw 0;have a1:=fX c.out.iw 1;have a2:=fX c.out.iw 2;have a3:=fX c.out.iw 3;dsimp at a0 a1 a2 a3;have CH:=T8 F.heap.size x y nm H _ L w1 c.out.own (by omega);rw[<-Y.out,hin]at CH;have K:=fW CH;clear CH q D CN
   go_wp21
   refine K.out.mono ?_;rintro e T ⟨rfl,f⟩;have J:=fW (a7.out.trans (f.mono (by simp)));have I:=fW (a6.out.trans (f.mono (by simp)));have o:=fW (a8.out.kept f (by simp));have N:=fW (c.out.kept (f.mono (by simp)) B z);clear f K a0 a1 a2 a3;have b3:=fX N.out.iw 3;dsimp at b3;have b4:=o.out.DQ;have C:=fW (λw' (h:Rd w' r R bg m)=>oE r R bg m w' h);rw[e3]at C
   go_wp21
   go_quiet ((go_at_call 68;refine xH (C.out _ ?_);exact o.out))
   clear b3 b4
  rotate_right
  .have aj:=fW (HA.out.kept J.out);have p0:T.cell? ⟨r,1,none⟩=some (rh g (R.cs.size+1) cap):=by rw[o.out.gM,HA.out.av]
   have p1:T.cell? ⟨r,2,none⟩=some (gp bg):=o.out.bg;have p2:=aj.out.at_ bg hb;have ar:=fW (I.out.drewN nq);have am:=I.out.size;generalize R.cs.size=sz at *;have au:(bg:Int) < (sz:Int)+1:=by omega
   go_wp21
   go_region_dies
   all_goals (try go_wp2)
   all_goals exact⟨rfl,T.heap.size,rfl,fZ (T.drewN (nq+1)) _,am,(I.out.drewN (nq+1)).alloc _⟩
  all_goals
   have O:=fW (HV.out (T.drewN nq) (show Rd (T.drewN nq) r R bg m from o.out) (HN.out.kept (J.out.drewN _)) (HG.out.kept (J.out.drewN _)))
   go_wp21
   refine O.out.mono ?_;rintro e w3 ⟨rfl,G,S⟩;have W:=fW ((I.out.drewN nq).trans G);have X:=fW S;have l:=fW ((N.out.kept ((Kept.refl [r] T).drewN nq) B z).kept G B z);clear G S O;have c3:=fX l.out.iw 3;dsimp at c3;have ad:=jn l.out.iw;have af:=jn X.out;have aw:=W.out.size;go_wp2_with (at_builtin;refine iL _ rfl _ _ 139 rfl F.heap.size 275 i0 (.agg #[gI kJ,gI kJ]) 2 32 underlying139 hi an ap aq rfl (by decide) _ _ _ rfl (l.out.own.alloc _) ⟨w3.heap.size,0,none⟩ 1 1 [gI H,gI U] rfl ?c1 ?c2 ?c3 ?c4 ?c5 ?c6 ?_)
   case c1=>rfl
   case c2=>
    intro j u hj
    match j,hj with
    |0,hj=>simp at hj;subst hj;simp[Addr.add]
    |1,hj=>simp at hj;subst hj;simp[Addr.add]
   case c3=>intro u hu;simp at hu;rcases hu with rfl|rfl<;>rfl
   case c4=>unfold maxLen;omega
   case c5=>omega
   case c6=>simp;omega
   intro v' V t p al;have⟨ao',a,hv⟩:=gH t;subst hv;have a5:∀k,(Value.slice ao L.length cp).ownBlock=some k->k≠E:=by
    intro k hk;rcases l.out.own.2 with⟨h,_⟩|⟨g',a,ak,h,_,hc,_⟩
    .rw[h]at hk;cases hk
    .rw[h]at hk;obtain rfl:=jK hk;exact xR hc l.out.iw (by decide)
   have ai:Kept [r] F V:=(W.out.alloc _).grown p (λk hk=> .inr (l.out.own.lt k hk).1);have t4:V.heap[E]?=some (gJ #[gp x,gp y,gI nm,.slice ao L.length cp] 173):=by
    rw[p.block E (by simp;omega) (λh=>a5 E h.symm rfl),Below.heap_alloc _ _ _ ad];exact l.out.iw
   have r4:Rd V r R bg (pC R m):=by
    show V.heap[r]?=_;rw[p.block r (by simp;omega) (λh=>by have:=(l.out.own.lt r h.symm).1;omega),Below.heap_alloc _ _ _ af];exact X.out
   have d3:=fX t4 3;have f3:=gG t4 3;dsimp at d3;have t5:=gh t4 3 (.slice ao' (L.length+1) a);have r5:Rd (V.setCell ⟨E,3,none⟩ (.slice ao' (L.length+1) a)) r R bg (pC R m):=(Below.heap_setCell V ⟨E,3,none⟩ _ r (by omega)).trans r4;have o5:(V.setCell ⟨E,3,none⟩ (.slice ao' (L.length+1) a)).ownsRow F.heap.size 275 2 (.slice ao' (L.length+1) a) (L++[(H,U)]).length (rC (L++[(H,U)])):=by
    rw[Kr,p6];refine yx t ?_ _;intro hk;rcases t.2 with⟨h,_⟩|⟨g',a,ak,h,_,hc,_⟩
    .omega
    .grind
   have HF:Hid (∃P,Bk (V.setCell ⟨E,3,none⟩ (.slice ao' (L.length+1) a)) F.heap.size E x y nm P (uU L H U)/\Kept [r] F (V.setCell ⟨E,3,none⟩ (.slice ao' (L.length+1) a))/\Rd (V.setCell ⟨E,3,none⟩ (.slice ao' (L.length+1) a)) r R bg (pC R m)):=
    ⟨_,by rw[show uU L H U=L++[(H,U)] by unfold uU;rw[<-Y.out,hin];rfl];exact⟨t5,o5⟩,ai.setCell (.inr z) _,r5⟩
   clear t5 r5 o5 r4 t4 ai a5 t p al c3;go_wp2;go_end0;exact⟨rfl,by rw[ab.out];exact HF.out⟩
 .skip
  have ec:(!true&&!decide (m=R.cs.size)&&decide (R.at_<=(L.length:Int)))=false:=by simp
  rw[ec];clear ec;simp only[wP,AH,xG];go_enter func284,ntmps284
  go_wp21
  refine CN.out.mono ?_;rintro e w1 ⟨rfl,q,D⟩;have c:=fW (HT.out.kept q B z);have a6:=fW (aa.out.trans q);have a8:=fW D;have a7:=fW q;have a0:=fX c.out.iw 0;have a1:=fX c.out.iw 1;have a2:=fX c.out.iw 2;have a3:=fX c.out.iw 3;dsimp at a0 a1 a2 a3;have CH:=T8 F.heap.size x y nm H _ L w1 c.out.own (by omega);rw[<-Y.out,hin]at CH;have K:=fW CH;clear CH q D CN
  go_wp21
  refine K.out.mono ?_;rintro e T ⟨rfl,f⟩;have J:=fW (a7.out.trans (f.mono (by simp)));have I:=fW (a6.out.trans (f.mono (by simp)));have o:=fW (a8.out.kept f (by simp));have N:=fW (c.out.kept (f.mono (by simp)) B z);clear f K a0 a1 a2 a3;have b3:=fX N.out.iw 3;dsimp at b3;have b4:=o.out.DQ;have C:=fW (λw' (h:Rd w' r R bg m)=>oE r R bg m w' h)
  go_wp21
  go_quiet ((go_at_call 68;refine xH (C.out _ ?_);exact o.out))
  clear b3 b4;have O:=fW (HV.out (T.drewN nq) (show Rd (T.drewN nq) r R bg m from o.out) (HN.out.kept (J.out.drewN _)) (HG.out.kept (J.out.drewN _)))
  go_wp21
  refine O.out.mono ?_;rintro e w3 ⟨rfl,G,S⟩;have W:=fW ((I.out.drewN nq).trans G);have X:=fW S;have l:=fW ((N.out.kept ((Kept.refl [r] T).drewN nq) B z).kept G B z);clear G S O;have HF:Hid (∃P,Bk w3 F.heap.size E x y nm P (uU L H U)/\Kept [r] F w3/\Rd w3 r R bg (pC R m)):=
   ⟨_,by rw[show uU L H U=L by unfold uU;rw[<-Y.out,hin];rfl];exact l.out,W.out,X.out⟩
  go_wp2;go_end0;exact⟨rfl,by rw[ab.out];exact HF.out⟩
inductive Hk where
 |stop
 |lost
 |whole (e:Nat) (L:kY)
def jf (R:RC) (ps:Nat):Nat:=scan (λc=>!jr ⟨#[32,9,10,12,47]⟩ c) R.cs ps
def WC (h:ps<=R.cs.size):jf R ps<=R.cs.size:=pz h
def sD:ps<=jf R ps:=sZ
def lL (R:RC) (look:gz->Option gz) (lg:Nat) (L:kY) (ps:Nat):Hk:=
 if h:jf R ps < R.cs.size then
  if pre (R.cs.extract (jf R ps) R.cs.size) jH=true then .whole (jf R ps+1) L
  else if zi R (L.map (·.1)) (jf R ps)=true then .stop
  else lL R look lg (re R look lg L (jf R ps)) (pC R (kj R (jf R ps)))
 else .lost
  termination_by R.cs.size - ps
  decreasing_by
 have a:=sD (R:=R) (ps:=ps);have c:=wo (R:=R) (ps:=jf R ps);have d:=yw (R:=R) (ps:=kj R (jf R ps));omega
def yq (R:RC) (ps:Nat):Nat:=scan (jr jm) R.cs ps
def abU (h:ps<=R.cs.size):yq R ps<=R.cs.size:=pz h
def abT:ps<=yq R ps:=sZ
theorem Gr:(re R look lg L ps).length<=L.length+1:=by
 unfold re uU;grind
def yr (R:RC) (ps:Nat):gz:=oB (small (R.cs.extract ps (yq R ps)))
def Rd.qx (h:Rd w r R bg ps) {p : Addr} (a:p.block≠r) (u:gP):Rd (w.setCell p u) r R bg ps:=(Below.heap_setCell w p u r (λe=>a e.symm)).trans h
theorem WO {base : Nat} {e : TypeId} {l : Nat} {xs : List gP} (j:w.ownsRow base e l v n xs) {c : jO} {t : TypeId} (m:w.heap[b]?=some (gJ c t)) (h:e≠t):∀k,v.ownBlock=some k->k≠b:=by
 rintro k a rfl;rcases j.2 with⟨e2,_⟩|⟨p,d,f,e2,_,o,_⟩
 .rw[e2]at a;cases a
 .rw[e2]at a;obtain rfl:=jK a
  grind
def TD (w:gw) (r:Nat) (R:RC) (bg:Nat) (cut:Nat->Nat) (nm:gz) (e:Ending) (w':gw):Hk->Prop
 | .stop=>∃k,e= .panicked [{v:= .iface 62 (gL k),recovered:=false}]/\Tl w' k 7 (cut bg)/\w.heap.size<=k/\Kept [r] w w'
 | .lost=>e=ir (.tuple #[.agg #[gp 0,gp 0,gI kJ,jX],.bool false])/\Kept [r] w w'/\Rd w' r R bg R.cs.size
 | .whole m L=>(∃a c,e=ir (.tuple #[.agg #[gp (cut bg),gp (cut m),gI nm,.slice a L.length c],.bool true])/\w'.ownsRow w.heap.size 275 2 (.slice a L.length c) L.length (rC L))/\Kept [r] w w'/\Rd w' r R bg m
theorem UH (r:Nat) (R:RC) (bg ps g cap b lg:Nat) (look:gz->Option gz) (cut:Nat->Nat) (w:gw) (h:Rd w r R bg ps) (hA:Ly w r R g cap cut) (hN:Nm w r R b lg look) (hG:Gl w r)
  (hb:bg<=R.cs.size) (hp:ps<=R.cs.size) (hs:R.cs.size<=1024):
  Calls prog 234 #[gL r] w λe w'=>TD w r R bg cut (yr R ps) e w' (lL R look lg [] (yq R ps)):=by
 obtain⟨O,HO⟩:∃O,O=lL R look lg [] (yq R ps):=⟨_,rfl⟩;rw[<-HO];obtain⟨nm,Y⟩:∃nm,nm=yr R ps:=⟨_,rfl⟩;rw[<-Y];have S:oB (small (R.cs.extract ps (scan (jr jm) R.cs ps)))=nm:=Y.symm;have am:=fW S;clear Y S;have hr:=jn h;obtain⟨t,H⟩:∃t,t=w.alloc (.cells #[gp 0,gp 0,gI kJ,jX] 173):=⟨_,rfl⟩;have a7:t.heap[w.heap.size]?=some (gJ #[gp 0,gp 0,gI kJ,jX] 173):=by rw[H];exact fZ w _
 have y:Kept [] w t:=by rw[H];exact(Kept.refl _ _).alloc _
 have z0:t.heap.size=w.heap.size+1:=by rw[H];simp
 have ab:=h.kept y (by simp);have ha:=abU (R:=R) hp;have CU:=zl r R bg ps jm t ab hp hs;have HA:=hA.kept (y.mono (by simp));have HN:=hN.kept (y.mono (by simp));have HG:=hG.kept (y.mono (by simp));have HW:=fW H.symm;have ad:(R.cs.extract ps (scan (jr jm) R.cs ps)).size<=1048576:=by simp;omega
 have B:=fW z0;clear h hA hN hG H z0 ab;go_enter func234,ntmps234
 go_wp21
 rw[HW.out];refine(oO _ t).mono ?_;rintro e w1 ⟨rfl,rfl⟩
 go_wp21
 refine CU.mono ?_;rintro e w2 ⟨rfl,a3,ah⟩;have ap:Hid (Rd w2 r R bg (yq R ps)):=ah;have CR:=zc r _ w2 ad (HG.kept a3);clear ah CU ad
 go_wp21
 refine CR.mono ?_;rintro e D ⟨rfl,V⟩;have a4:=a3.trans (V.mono (by simp));have aq:=ap.out.kept V (by simp);clear V CR;rw[am.out];obtain⟨w4,N⟩:∃w4,w4=D.alloc (.cells #[gp 0,gp 0,gI nm,jX] 173):=⟨_,rfl⟩;have a1:Kept [] D w4:=by rw[N];exact(Kept.refl _ _).alloc _
 have aw:Hid (Bk w4 t.heap.size D.heap.size 0 0 nm (jX) []):=⟨by rw[N];exact fZ D _,oY _ _ _ _⟩;have ak:=a4.trans (a1.mono (by simp));have ar:=aq.kept a1 (by simp);have d:=a4.size;have ay:=fW N.symm;clear a1 N
 go_wp21
 rw[ay.out]
 go_loopw [] (λwr=>∃(i:Nat) (av:gP) (L:kY),i<=R.cs.size/\L.length<=i/\lL R look lg L i=O/\Bk wr t.heap.size D.heap.size 0 0 nm av L/\Kept [r] t wr/\Rd wr r R bg i) (λwr=>R.cs.size - (match wr.cell? ⟨r,3,none⟩with|some v=>(intOf v).toNat|none=>0))
 case atStart=>exact⟨yq R ps,_,[],ha,iP _,HO.symm,aw.out,ak,ar⟩
 case round=>
  have⟨i,av,L,hi,hLi,htg,HT,HKW,hrd⟩:=hrel;have J:=fW htg;have CP:=vB r R bg i ⟨#[32,9,10,12,47]⟩ wr hrd hi hs;have P0:=hrd.ps;have af:=WC (R:=R) hi;have aF:=sD (R:=R) (ps:=i);clear htg hrd
  go_wp21
  refine CP.mono ?_;rintro e P ⟨rfl,X,Z⟩;have U:Hid (Rd P r R bg (jf R i)):=Z;have I:=HKW.trans X;have a9:=HT.kept X (by have:=B.out;omega) d;have CE:=oE r R bg (jf R i) P Z;clear X Z CP
  by_cases E:jf R i=R.cs.size
  .have Q:O= .lost:=by rw[<-J.out,lL,dif_neg (by omega)]
   have EO:=fW Q;have e3:decide (jf R i=R.cs.size)=true:=by simp[E]
   rw[e3]at CE;have A:=fW CE;have f:=I.at a7 (by simp;omega);have d0:=fX f 0;have d1:=fX f 1;have d2:=fX f 2;have d3:=fX f 3;have f0:=gG f 0;have f1:=gG f 1;have f2:=gG f 2;have f3:=gG f 3;dsimp at d0 d1 d2 d3;clear CE e3 Q f
   go_wp21
   refine A.out.mono ?_;rintro e w6 ⟨rfl,q,rfl⟩;go_wp2;have a5:=(y.mono (S':=[r]) (by simp)).trans I;have m:w.heap.size≠r:=by omega
   rw[EO.out];refine qe (v:= .tuple #[.agg #[gp 0,gp 0,gI kJ,jX],.bool false]) ?_ rfl ⟨rfl,?_,?_⟩
   .simp[results,results234,asAddr,Result.andThen,go_sem,d0,d1,d2,d3]
   .exact((((a5.drewN q).setCell (.inr (ij _)) _).setCell (.inr (ij _)) _).setCell (.inr (ij _)) _).setCell (.inr (ij _)) _
   .have h6:Rd (P.drewN q) r R bg R.cs.size:=by rw[<-E];exact U.out
    exact(((h6.qx m _).qx m _).qx m _).qx m _
  .have e3:decide (jf R i=R.cs.size)=false:=by simp[E]
   have F:jf R i < R.cs.size:=by omega
   rw[e3]at CE;have A:=fW CE;clear CE e3;cases hgt:pre (R.cs.extract (jf R i) R.cs.size) jH
   .have G:taken R jH (jf R i)=jf R i:=by unfold taken;rw[gR (by simp[hgt])]
    have x:=λq=>lz r R bg (jf R i) jH (P.drewN q) (show Rd (P.drewN q) r R bg _ from U.out) af hs (by decide);rw[hgt,G]at x;clear G
    go_wp21
    refine A.out.mono ?_;rintro e w6 ⟨rfl,q,rfl⟩
    go_wp21
    refine(x q).mono ?_;rintro e w7 ⟨rfl,z,ai⟩;have o:=(I.drewN q).trans z;have ac:=(a9.kept ((Kept.refl [r] P).drewN q) (by have:=B.out;omega) d).kept z (by have:=B.out;omega) d;have CA:=Ku r D.heap.size R bg (jf R i) g cap b lg look cut 0 0 nm av L t w7 o (by have:=B.out;omega) d ai (HA.kept o) (HN.kept o) (HG.kept o) ac hb F hs (by omega);clear z ai ac x A
    go_wp21
    refine CA.mono ?_;intro e w8 l
    by_cases K:zi R (L.map (·.1)) (jf R i)=true
    .rw[gF K]at l;obtain⟨k,rfl,aj,aG,c⟩:=l;have Q:O= .stop:=by rw[<-J.out,lL,xI F,gR (by simp[hgt]),gF K]
     have HF:Hid (TD w r R bg cut nm (.panicked [{v:= .iface 62 (gL k),recovered:=false}]) w8 O):=by
      rw[Q];exact⟨k,rfl,aj,by have:=B.out;omega,(y.mono (S':=[r]) (by simp)).trans c⟩
     clear aj c Q CA;go_wp2;exact⟨rfl,HF.out⟩
    .rw[gR K]at l;obtain⟨rfl,az,a,c,a0⟩:=l;have aa:lL R look lg (re R look lg L (jf R i)) (pC R (kj R (jf R i)))=O:=by
      rw[<-J.out,lL.eq_1 R look lg L i,xI F,gR (by simp[hgt]),gR K]
     have aA:=Gr (R:=R) (look:=look) (lg:=lg) (L:=L) (ps:=jf R i);have h2:=wo (R:=R) (ps:=jf R i);have h3:=yw (R:=R) (ps:=kj R (jf R i));have h4:=WV (R:=R) (Je (R:=R) F);have a8:Hid (∃(i':Nat) (av:gP) (L:kY),i'<=R.cs.size/\L.length<=i'/\lL R look lg L i'=O/\Bk w8 t.heap.size D.heap.size 0 0 nm av L/\Kept [r] t w8/\Rd w8 r R bg i'):=
      ⟨_,az,_,h4,by omega,aa,a,c,a0⟩
     have P8:=a0.ps;have ag:R.cs.size - pC R (kj R (jf R i)) < R.cs.size - i:=by omega
     clear a c a0 aa aA CA h2 h3 h4;go_wp2;go_roundw
     case rel=>exact a8.out
     case measure=>rw[P8,P0];simpa [intOf]using ag
   .have G:taken R jH (jf R i)=jf R i+1:=by unfold taken;rw[gF hgt];rfl
    have x:=λq=>lz r R bg (jf R i) jH (P.drewN q) (show Rd (P.drewN q) r R bg _ from U.out) af hs (by decide);rw[hgt,G]at x;have Q:O= .whole (jf R i+1) L:=by rw[<-J.out,lL,xI F,gF hgt]
    have EO:=fW Q;clear G Q
    go_wp21
    refine A.out.mono ?_;rintro e w6 ⟨rfl,q,rfl⟩
    go_wp21
    refine(x q).mono ?_;rintro e w7 ⟨rfl,z,a6⟩;have o:=(I.drewN q).trans z;have ax:=(a9.kept ((Kept.refl [r] P).drewN q) (by have:=B.out;omega) d).kept z (by have:=B.out;omega) d;have a2:=pS r R bg (jf R i+1) g cap cut w7 a6 (HA.kept o) hb (by omega) hs;clear z x A
    go_wp21
    refine a2.mono ?_;rintro e w8 ⟨rfl,c⟩;have al:=(y.mono (S':=[r]) (by simp)).trans (o.trans (c.mono (by simp)));have a:=ax.kept (c.mono (by simp)) (r:=r) (by have:=B.out;omega) d;have au:=a6.kept c (by simp);have j:=(o.trans (c.mono (by simp))).at a7 (by simp;omega);have⟨ao,cp,hav⟩:=gH a.own;subst hav;have t0:=fX a.iw 0;have t1:=fX a.iw 1;have t2:=fX a.iw 2;have t3:=fX a.iw 3;have g0:=gG a.iw 0;have g1:=gG a.iw 1;have d0:=fX j 0;have d1:=fX j 1;have d2:=fX j 2;have d3:=fX j 3;have f0:=gG j 0;have f1:=gG j 1;have f2:=gG j 2;have f3:=gG j 3;dsimp at t0 t1 t2 t3 d0 d1 d2 d3;have aB:w.heap.size≠D.heap.size:=by have:=d;have:=B.out;omega
    have aC:D.heap.size≠w.heap.size:=λh=>aB h.symm;have an:=a.own;have aD:=WO a.own a.iw (by decide);clear a j c a2;go_wp2;rw[EO.out];have m:w.heap.size≠r:=by omega
    have T:D.heap.size≠r:=by have:=d;have:=B.out;omega
    have ae:w.heap.size<=D.heap.size:=by have:=d;have:=B.out;omega
    refine qe (v:= .tuple #[.agg #[gp (cut bg),gp (cut (jf R i+1)),gI nm,.slice ao L.length cp],.bool true]) ?_ rfl ⟨⟨_,_,rfl,?_⟩,?_,?_⟩
    .simp[results,results234,asAddr,Result.andThen,go_sem,d0,d1,d2,d3]
    .have aE:∀(p:Addr) (u:gP) (W:gw),(p.block=w.heap.size\/p.block=D.heap.size)->W.ownsRow t.heap.size 275 2 (.slice ao L.length cp) L.length (rC L)->(W.setCell p u).ownsRow t.heap.size 275 2 (.slice ao L.length cp) L.length (rC L):=by
      intro p u W hp ho;refine yx ho ?_ u;intro e;rcases hp with hp|hp
      .have:=(an.lt _ e).1;have:=B.out;omega
      .grind
     refine jV (base:=t.heap.size) ?_ (by have:=B.out;omega)
     grind
    .exact(((((al.setCell (.inr ae) _).setCell (.inr ae) _).setCell (.inr (ij _)) _).setCell (.inr (ij _)) _).setCell (.inr (ij _)) _).setCell (.inr (ij _)) _
    .exact(((((au.qx T _).qx T _).qx m _).qx m _).qx m _).qx m _
def PN (R:RC) (ps:Nat):Bool:=decide (ps < R.cs.size)&&decide (97<=bt R.cs ps/\bt R.cs ps<=122\/65<=bt R.cs ps/\bt R.cs ps<=90)
def Bt (r:Nat) (R:RC) (bg ps:Nat) (w:gw) (h:Rd w r R bg ps) (a:ps<=R.cs.size) (c:R.cs.size<=1024):
  Calls prog 143 #[gL r,.func (.func 144) #[] #[]] w λe w'=>e=ir (.bool (PN R ps))/\∃n,w'=w.drewN n:=
 IY r R bg ps _ _ _ w h a c (PU w [r])
theorem aaG (s:gz) (a:Nat) (h:a < s.size):(s.extract a s.size).extract 0 1=s.extract a (a+1):=by
 apply Ko;simp only[ByteArray.data_extract,Array.extract_extract]
 grind
theorem Ut {a b : Int} {W : gw} (c:Kept [r] w W) (d:Rd W r R bg ps) (g:W.heap[w.heap.size]?=some (gJ #[gp 0,gp 0,gI kJ] 167)) (f:r≠w.heap.size):
  Kept [r] w (((W.setCell ⟨w.heap.size,0,none⟩ (gp a)).setCell ⟨w.heap.size,1,none⟩ (gp b)).setCell ⟨w.heap.size,2,none⟩ (gI s))/\Rd (((W.setCell ⟨w.heap.size,0,none⟩ (gp a)).setCell ⟨w.heap.size,1,none⟩ (gp b)).setCell ⟨w.heap.size,2,none⟩ (gI s)) r R bg ps/\(((W.setCell ⟨w.heap.size,0,none⟩ (gp a)).setCell ⟨w.heap.size,1,none⟩ (gp b)).setCell ⟨w.heap.size,2,none⟩ (gI s)).heap[w.heap.size]?=some (gJ #[gp a,gp b,gI s] 167):=by
 have e:Kept [w.heap.size] W (((W.setCell ⟨w.heap.size,0,none⟩ (gp a)).setCell ⟨w.heap.size,1,none⟩ (gp b)).setCell ⟨w.heap.size,2,none⟩ (gI s)):=(((Kept.refl [w.heap.size] W).setCell (.inl (by simp)) _).setCell (.inl (by simp)) _).setCell (.inl (by simp)) _;exact⟨((c.setCell (.inr (ij _)) _).setCell (.inr (ij _)) _).setCell (.inr (ij _)) _,d.kept e (by grind),gh (gh (gh g 0 _) 1 _) 2 _⟩
def Dm (r:Nat) (R:RC) (bg ps g cap b lg:Nat) (look:gz->Option gz) (cut:Nat->Nat) (w:gw) (h:Rd w r R bg ps) (Y:Ly w r R g cap cut) (z:Nm w r R b lg look) (Z:bg < R.cs.size) (hs:R.cs.size<=1024):
  Calls prog 74 #[gL r] w λe w'=>e=ir (.agg #[gp (cut bg),gp (cut (bg+pH look lg (R.cs.extract bg R.cs.size))),gI (rI look lg (R.cs.extract bg R.cs.size))])/\Kept [r] w w'/\Rd w' r R bg (bg+pH look lg (R.cs.extract bg R.cs.size)):=by
 have t1:=h.text;have b1:=h.bg;have m1:=h.mv;have l1:=h.lg;rw[z.mv]at m1;rw[z.lgv]at l1;have hr:=jn h;have N:(R.cs.extract bg R.cs.size).size=R.cs.size - bg:=by simp
 have O:=Cp (look:=look) (lg:=lg) (s:=R.cs.extract bg R.cs.size) (inV:=false);rw[N]at O;have C1:=(λW (j:Kept [] w W)=>QD b lg look (R.cs.extract bg R.cs.size) false W (z.lk.kept j (by simp)) z.le (by omega));have C2:=(λW (j:Kept [] w W)=>Dh r R bg ps g cap cut W (h.kept j (by simp)) (Y.kept (j.mono (by simp))) Z hs);have o:=(Kept.refl [] w).alloc (gJ #[gp 0,gp 0,gI kJ] 167);have G:=fZ w (gJ #[gp 0,gp 0,gI kJ] 167);have f:=(show w.heap.size≠r by omega);have HR:=h;have HA:=Y;have F:=fW (aaG R.cs bg Z);have HS:=fW (show pH look lg (R.cs.extract bg R.cs.size)=if lO look lg (R.cs.extract bg R.cs.size) false=0 then 1 else lO look lg (R.cs.extract bg R.cs.size) false from rfl);have U:=fW (show rI look lg (R.cs.extract bg R.cs.size)=if lO look lg (R.cs.extract bg R.cs.size) false=0 then (R.cs.extract bg R.cs.size).extract 0 1 else oh look lg (R.cs.extract bg R.cs.size) false from rfl);generalize pH look lg (R.cs.extract bg R.cs.size)=X at *;generalize rI look lg (R.cs.extract bg R.cs.size)=V at *;generalize lO look lg (R.cs.extract bg R.cs.size) false=n at *;generalize oh look lg (R.cs.extract bg R.cs.size) false=B at *;go_enter func74,ntmps74
 go_wp21
 go_cut [3,4]from 5 to 21 (λtv nv wc=>tv=gI B/\nv=gp n/\Kept [] w wc/\wc.heap[w.heap.size]?=some (gJ #[gp 0,gp 0,gI kJ] 167))
 case first=>
  go_region_with (go_at_call 152;refine(C1 _ o.drew).mono ?_;rintro e w1 ⟨rfl,l⟩;have J:=fW ((o.drew).trans l);have H:=fW ((((Kept.refl [] _).drew).trans l).at G (by simp));clear l)
  all_goals (try (go_wp21))
  all_goals (go_meet;exact⟨rfl,rfl,J,H⟩)
 case rest=>
  obtain⟨rfl,rfl,j,hg⟩:=hcut;have HK:=j;have HG:=hg;have A:=HR.kept j (by simp)
  by_cases y:n=0
  .have D:=C2 wc j;have u:X=1:=by rw[HS.out,gF y]
   have x:V=R.cs.extract bg (bg+1):=by rw[U.out,gF y,F.out]
   have m:=fW u;have E:=fW x;clear u x;subst y
   go_wp21
   refine D.mono ?_;rintro e w2 ⟨rfl,d,P⟩;have c:=d.at HG (by simpa using f);have Q:=fX c 0;have S:=fX c 1;have T:=fX c 2;have z0:=gG c 0;have z1:=gG c 1;have z2:=gG c 2;dsimp at Q S T;have k:=Ut (a:=(cut bg:Int)) (b:=(cut (bg+1):Int)) (s:=R.cs.extract bg (bg+1)) ((HK.mono (by simp)).trans d) P c (λe=>f e.symm);go_wp2;refine qe (v:= .agg #[gp (cut bg),gp (cut (bg+1)),gI (R.cs.extract bg (bg+1))]) ?_ rfl ⟨by rw[m.out,E.out],k.1,by rw[m.out];exact k.2.1⟩;have K:=fX k.2.2;simp[results,results74,asAddr,Result.andThen,go_sem,K]
  .have u:X=n:=by rw[HS.out,gR y]
   have x:V=B:=by rw[U.out,gR y]
   have m:=fW u;have E:=fW x;have a0:((n:Int)==0)=false:=beq_eq_false_iff_ne.2 (by omega);have b2:=A.bg;have f2:=A.free 3;have p2:=A.ps;have q:=(j.mono (S':=[r]) (by simp)).setCell (p:=⟨r,3,none⟩) (.inl (by simp)) (gp ((bg+n:Nat)));have t:=A.Ms (bg+n);have I:=(((Kept.refl [r] wc).setCell (p:=⟨r,3,none⟩) (.inl (by simp)) (gp ((bg+n:Nat))))).at hg (by simpa using f);have D:=pS r R bg (bg+n) g cap cut _ t (HA.kept q) (by omega) (by omega) hs;clear u x
   go_wp21
   refine D.mono ?_;rintro e w2 ⟨rfl,d⟩;have c:=d.at I (by simp);have Q:=fX c 0;have S:=fX c 1;have T:=fX c 2;have z0:=gG c 0;have z1:=gG c 1;have z2:=gG c 2;dsimp at Q S T;have k:=Ut (a:=(cut bg:Int)) (b:=(cut (bg+n):Int)) (s:=B) (q.trans (d.mono (by simp))) (t.kept d (by simp)) c (λe=>f e.symm);go_wp2;refine qe (v:= .agg #[gp (cut bg),gp (cut (bg+n)),gI B]) ?_ rfl ⟨by rw[m.out,E.out],k.1,by rw[m.out];exact k.2.1⟩;have K:=fX k.2.2;simp[results,results74,asAddr,Result.andThen,go_sem,K]
inductive RN where
 |VM
 |XR (t:gz)
 |Th (nm:gz) (L:kY)
 |fin (nm:gz) (L:kY)
 |Xd (t:gz)
 |dtp (nm:gz) (q:Bool)
 |lost
inductive zS where
 |stop
 |tok (kd:RN) (e:Nat)
def U3 (base:Nat) (a b:Int) (v:gP) (w:gw):RN->Prop
 | .VM=>v= .iface 165 (.agg #[gp a,gp b])
 | .XR t=>v= .iface 167 (.agg #[gp a,gp b,gI t])
 | .Th nm L=>∃c d,v= .iface 175 (.agg #[gp a,gp b,gI nm,.slice c L.length d])/\w.ownsRow base 275 2 (.slice c L.length d) L.length (rC L)
 | .fin nm L=>∃c d,v= .iface 176 (.agg #[gp a,gp b,gI nm,.slice c L.length d])/\w.ownsRow base 275 2 (.slice c L.length d) L.length (rC L)
 | .Xd t=>v= .iface 177 (.agg #[gp a,gp b,gI t])
 | .dtp nm q=>v= .iface 179 (.agg #[gp a,gp b,gI nm,.bool q])
 | .lost=>v= .iface 169 (.agg #[gp a,gp b])
def U3.base {base c : Nat} {a b : Int} {k : RN} (h:U3 base a b v w k) (d:c<=base):U3 c a b v w k:=by
 cases k with
 |Th nm L=>have⟨ao,cp,h1,h2⟩:=h;exact⟨ao,cp,h1,jV h2 d⟩
 |fin nm L=>have⟨ao,cp,h1,h2⟩:=h;exact⟨ao,cp,h1,jV h2 d⟩
 |_=>exact h
def nS (w:gw) (r:Nat) (R:RC) (bg:Nat) (cut:Nat->Nat) (e:Ending) (w':gw):zS->Prop
 | .stop=>∃k,e= .panicked [{v:= .iface 62 (gL k),recovered:=false}]/\Tl w' k 7 (cut bg)/\w.heap.size<=k/\Kept [r] w w'
 | .tok kd m=>(∃v,e=ir v/\U3 w.heap.size (cut bg) (cut m) v w' kd)/\Kept [r] w w'/\Rd w' r R bg m
def nS.back {w1 : gw} {e : Ending} {T : zS} (h:nS w1 r R bg cut e w' T) (a:Kept [r] w w1):nS w r R bg cut e w' T:=by
 cases T with
 |stop=>have⟨k,h1,h2,h3,h4⟩:=h;exact⟨k,h1,h2,jN a.size h3,a.trans h4⟩
 |tok kd m=>have⟨⟨v,h1,h2⟩,h3,h4⟩:=h;exact⟨⟨v,h1,h2.base a.size⟩,a.trans h3,h4⟩
def tf (R:RC) (a:gz->kY->RN) (nm:gz):Hk->zS
 | .stop=> .stop
 | .lost=> .tok .lost R.cs.size
 | .whole m L=> .tok (a nm L) m
structure TC (w:gw) (r:Nat) (R:RC) (g cap b lg:Nat) (look:gz->Option gz) (cut:Nat->Nat):Prop where
 gM:Ly w r R g cap cut
 Wc:Nm w r R b lg look
 gl:Gl w r
 small:R.cs.size<=1024
def TC.kept (h:TC w r R g cap b lg look cut) (a:Kept [r] w w'):TC w' r R g cap b lg look cut:=
 ⟨h.gM.kept a,h.Wc.kept a,h.gl.kept a,h.small⟩
def Tk (r:Nat) (R:RC) (bg ps g cap b lg:Nat) (look:gz->Option gz) (cut:Nat->Nat) (w:gw) (h:Rd w r R bg ps) (d:TC w r R g cap b lg look cut) (z:bg<=R.cs.size) (I:ps<=R.cs.size):
  Calls prog 145 #[gL r] w λe w'=>nS w r R bg cut e w' (tf R .Th (yr R ps) (lL R look lg [] (yq R ps))):=by
 have C:=UH r R bg ps g cap b lg look cut w h d.gM d.Wc d.gl z I d.small;have y:=d;generalize yr R ps=nm at C|-;generalize lL R look lg [] (yq R ps)=O at C|-;cases O with
 |stop=>
  go_enter func145,ntmps145
  go_wp21
  refine C.mono ?_;rintro e c ⟨k,rfl,B,F,D⟩;go_wp2;exact⟨rfl,k,rfl,B,F,D⟩
 |lost=>
  go_enter func145,ntmps145
  go_wp21
  refine C.mono ?_;rintro e c ⟨rfl,E,x⟩;have j:Kept [] c (c.alloc (.cells #[gp 0,gp 0,gI kJ,jX] 173)):=(Kept.refl _ _).alloc _;have l:=x.kept j (by simp);have a:=E.trans (j.mono (by simp));have A:=pS r R bg R.cs.size g cap cut _ l (y.kept a).gM z (ij _) y.small
  go_wp21
  refine A.mono ?_;rintro e J ⟨rfl,f⟩;have o:=a.trans (f.mono (by simp));have q:=l.kept f (by simp);go_wp2;go_ret;exact⟨⟨_,rfl,rfl⟩,o,q⟩
 |whole m L=>
  go_enter func145,ntmps145
  go_wp21
  refine C.mono ?_;rintro e c ⟨⟨t,u,rfl,H⟩,G,x⟩;have j:Kept [] c (c.alloc (.cells #[gp (cut bg),gp (cut m),gI nm,.slice t L.length u] 173)):=(Kept.refl _ _).alloc _;have l:=x.kept j (by simp);have a:=G.trans (j.mono (by simp));have p:=H.alloc (.cells #[gp (cut bg),gp (cut m),gI nm,.slice t L.length u] 173);go_wp2;go_ret;exact⟨⟨_,rfl,t,u,rfl,p⟩,a,l⟩
def Ya (r:Nat) (R:RC) (bg ps g cap b lg:Nat) (look:gz->Option gz) (cut:Nat->Nat) (w:gw) (h:Rd w r R bg ps) (d:TC w r R g cap b lg look cut) (z:bg<=R.cs.size) (I:ps<=R.cs.size):
  Calls prog 235 #[gL r] w λe w'=>nS w r R bg cut e w' (tf R .fin (yr R ps) (lL R look lg [] (yq R ps))):=by
 have C:=UH r R bg ps g cap b lg look cut w h d.gM d.Wc d.gl z I d.small;have y:=d;generalize yr R ps=nm at C|-;generalize lL R look lg [] (yq R ps)=O at C|-;cases O with
 |stop=>
  go_enter func235,ntmps235
  go_wp21
  refine C.mono ?_;rintro e c ⟨k,rfl,B,F,D⟩;go_wp2;exact⟨rfl,k,rfl,B,F,D⟩
 |lost=>
  go_enter func235,ntmps235
  go_wp21
  refine C.mono ?_;rintro e c ⟨rfl,E,x⟩;have j:Kept [] c (c.alloc (.cells #[gp 0,gp 0,gI kJ,jX] 173)):=(Kept.refl _ _).alloc _;have l:=x.kept j (by simp);have a:=E.trans (j.mono (by simp));have A:=pS r R bg R.cs.size g cap cut _ l (y.kept a).gM z (ij _) y.small
  go_wp21
  refine A.mono ?_;rintro e J ⟨rfl,f⟩;have o:=a.trans (f.mono (by simp));have q:=l.kept f (by simp);go_wp2;go_ret;exact⟨⟨_,rfl,rfl⟩,o,q⟩
 |whole m L=>
  go_enter func235,ntmps235
  go_wp21
  refine C.mono ?_;rintro e c ⟨⟨t,u,rfl,H⟩,G,x⟩;have j:Kept [] c (c.alloc (.cells #[gp (cut bg),gp (cut m),gI nm,.slice t L.length u] 173)):=(Kept.refl _ _).alloc _;have l:=x.kept j (by simp);have a:=G.trans (j.mono (by simp));have p:=H.alloc (.cells #[gp (cut bg),gp (cut m),gI nm,.slice t L.length u] 173);go_wp2;go_ret;exact⟨⟨_,rfl,t,u,rfl,p⟩,a,l⟩
def vw (R:RC) (look:gz->Option gz) (lg bg:Nat):zS:= .tok (.XR (rI look lg (R.cs.extract bg R.cs.size))) (bg+pH look lg (R.cs.extract bg R.cs.size))
def mH (R:RC) (look:gz->Option gz) (lg bg ps:Nat):zS:=
 if PN R ps=true then tf R .fin (yr R ps) (lL R look lg [] (yq R ps))
 else if pre (R.cs.extract ps R.cs.size) jH=true then .tok .lost (ps+1)
 else if ps=R.cs.size then vw R look lg bg
 else .tok (.Xd (oB (R.cs.extract ps (scan (jr jH) R.cs ps)))) (rn R ps)
def Ky (r:Nat) (R:RC) (bg ps g cap b lg:Nat) (look:gz->Option gz) (cut:Nat->Nat) (w:gw) (h:Rd w r R bg ps) (Z:TC w r R g cap b lg look cut) (hb:bg < R.cs.size) (H:ps<=R.cs.size):
  Calls prog 146 #[gL r] w λe w'=>nS w r R bg cut e w' (mH R look lg bg ps):=by
 have E:=Z;have X:=h;have I:=Z.small;have B:=Bt r R bg ps w h H I;have a0:∀(Y:Fn) (first cap:jO) (w:gw),(Instr.makeFunc Y first cap).run prog w= .ok (.func Y first cap) w:=λ_ _ _ _=>rfl;cases hl:PN R ps
 .rw[hl]at B;have f:=fW B;have D:=λq=>lz r R bg ps jH (w.drewN q) (show Rd (w.drewN q) r R bg ps from X) H I (by decide);clear B;cases hgt:pre (R.cs.extract ps R.cs.size) jH
  .have A:taken R jH ps=ps:=by unfold taken;rw[gR (by simp[hgt])]
   rw[hgt,A]at D;have t:=fW D;clear D
   by_cases d:ps=R.cs.size
   .have y:mH R look lg bg ps=vw R look lg bg:=by unfold mH;rw[gR (by simp[hl]),gR (by simp[hgt]),gF d]
    rw[y];have U:decide (ps=R.cs.size)=true:=by simp[d]
    go_enter func146,ntmps146
    go_wp21
    refine f.mono ?_;rintro e J ⟨rfl,q,rfl⟩
    go_wp21
    refine(t q).mono ?_;rintro e u ⟨rfl,l,c⟩;have a:=((Kept.refl [r] w).drewN q).trans l;have j:=oE r R bg ps u c;rw[U]at j
    go_wp21
    refine j.mono ?_;rintro e w3 ⟨rfl,p,rfl⟩;have x:=Dm r R bg ps g cap b lg look cut (u.drewN p) (show Rd (u.drewN p) r R bg ps from c) (E.kept (a.drewN p)).gM (E.kept (a.drewN p)).Wc hb I
    go_wp21
    refine x.mono ?_;rintro e K ⟨rfl,o,z⟩;have N:=(show nS w r R bg cut (ir (.iface 167 (.agg #[gp (cut bg),gp (cut (bg+pH look lg (R.cs.extract bg R.cs.size))),gI (rI look lg (R.cs.extract bg R.cs.size))]))) K (vw R look lg bg)from⟨⟨_,rfl,rfl⟩,(a.drewN p).trans o,z⟩);go_wp2;go_ret;exact N
   .have y:mH R look lg bg ps= .tok (.Xd (oB (R.cs.extract ps (scan (jr jH) R.cs ps)))) (rn R ps):=by unfold mH;rw[gR (by simp[hl]),gR (by simp[hgt]),gR d]
    rw[y];have U:decide (ps=R.cs.size)=false:=by simp[d]
    go_enter func146,ntmps146
    go_wp21
    refine f.mono ?_;rintro e J ⟨rfl,q,rfl⟩
    go_wp21
    refine(t q).mono ?_;rintro e u ⟨rfl,l,c⟩;have a:=((Kept.refl [r] w).drewN q).trans l;have j:=oE r R bg ps u c;rw[U]at j
    go_wp21
    refine j.mono ?_;rintro e w3 ⟨rfl,p,rfl⟩;have F:=E.kept (a.drewN p);have x:=tN r R bg ps g cap cut (u.drewN p) (show Rd (u.drewN p) r R bg ps from c) F.gM F.gl (by omega) H I
    go_wp21
    refine x.mono ?_;rintro e K ⟨rfl,o,S⟩;have P:=(a.drewN p).trans o;go_wp2;go_ret;exact⟨⟨_,rfl,rfl⟩,P,S⟩
  .have A:taken R jH ps=ps+1:=by unfold taken;rw[gF hgt];rfl
   have W:ps+1<=R.cs.size:=lx hgt H;rw[hgt,A]at D;have t:=fW D;have y:mH R look lg bg ps= .tok .lost (ps+1):=by unfold mH;rw[gR (by simp[hl]),gF hgt]
   rw[y];clear D;go_enter func146,ntmps146
   go_wp21
   refine f.mono ?_;rintro e J ⟨rfl,q,rfl⟩
   go_wp21
   refine(t q).mono ?_;rintro e u ⟨rfl,l,c⟩;have a:=((Kept.refl [r] w).drewN q).trans l;have CP:=pS r R bg (ps+1) g cap cut u c (E.kept a).gM (by omega) W I
   go_wp21
   refine CP.mono ?_;rintro e w3 ⟨rfl,G⟩;have O:=a.trans (G.mono (by simp));have Q:=c.kept G (by simp);go_wp2;go_ret;exact⟨⟨_,rfl,rfl⟩,O,Q⟩
 .rw[hl]at B;have f:=fW B;have y:mH R look lg bg ps=tf R .fin (yr R ps) (lL R look lg [] (yq R ps)):=by unfold mH;rw[gF hl]
  rw[y];have x:=(λq=>Ya r R bg ps g cap b lg look cut (w.drewN q) (show Rd (w.drewN q) r R bg ps from X) (E.kept ((Kept.refl [r] w).drewN q)) (by omega) H);generalize tf R .fin (yr R ps) (lL R look lg [] (yq R ps))=T at x|-;clear B;cases T with
  |stop=>
   go_enter func146,ntmps146
   go_wp21
   refine f.mono ?_;rintro e J ⟨rfl,q,rfl⟩
   go_wp21
   refine(x q).mono ?_;rintro e J ⟨k,rfl,H2,h3,h4⟩;have H4:=((Kept.refl [r] w).drewN q).trans h4;have V:w.heap.size<=k:=h3;go_wp2;exact⟨rfl,k,rfl,H2,V,H4⟩
  |tok kd m=>
   go_enter func146,ntmps146
   go_wp21
   refine f.mono ?_;rintro e J ⟨rfl,q,rfl⟩
   go_wp21
   refine(x q).mono ?_;rintro e K ⟨⟨v,rfl,hv⟩,o,z⟩;have N:=(show nS w r R bg cut (ir v) K (.tok kd m)from⟨⟨v,rfl,hv⟩,((Kept.refl [r] w).drewN q).trans o,z⟩);go_wp2;go_ret;exact N
def isQ (R:RC) (ps:Nat):Bool:=decide (ps < R.cs.size)&&jr ⟨#[63]⟩ (bt R.cs ps)
def qR (R:RC) (look:gz->Option gz) (lg bg ps:Nat):zS:=
 if PN R ps=true then tf R .Th (yr R ps) (lL R look lg [] (yq R ps))
 else if pre (R.cs.extract ps R.cs.size) ⟨#[47]⟩=true then mH R look lg bg (ps+1)
 else if pre (R.cs.extract ps R.cs.size) ⟨#[33,45,45]⟩=true then .tok (.Xd (oB (nU R (ps+3)))) (nH R (ps+3))
 else if zz R lD ps=true then .tok (.dtp (R7 R (ps+8)) (dtQ R (ps+8))) (rn R (FP R (ps+8)))
 else if pre (R.cs.extract ps R.cs.size) ⟨#[33]⟩=true then .tok (.Xd (oB (R.cs.extract (ps+1) (scan (jr jH) R.cs (ps+1))))) (rn R (ps+1))
 else if isQ R ps=true then .tok (.Xd (oB (R.cs.extract ps (scan (jr jH) R.cs ps)))) (rn R ps)
 else vw R look lg bg
theorem PK (h:zz R s ps=true) (a:ps<=R.cs.size):ps+s.size<=R.cs.size:=by
 unfold zz at h;grind
theorem YC (r:Nat) (R:RC) (bg ps:Nat) (w:gw) (h:Rd w r R bg ps) (c:ps<=R.cs.size) (d:R.cs.size<=1024):
  Calls prog 143 #[gL r,.func (.func 241) #[] #[gL w.heap.size]] (w.alloc (.cells #[gI ⟨#[63]⟩] 9))
   λe w'=>e=ir (.bool (isQ R ps))/\Kept [r] w w'/\Rd w' r R bg ps:=by
 have f:=jn h;have k:Kept [] w (w.alloc (.cells #[gI ⟨#[63]⟩] 9)):=(Kept.refl _ _).alloc _;have b:=fZ w (.cells #[gI ⟨#[63]⟩] 9);refine(IY r R bg ps _ _ _ _ (k.at h (by simp)) c d (BU _ [r] w.heap.size ⟨#[63]⟩ (by simp) (by simp) (by grind))).mono ?_;rintro e w' ⟨a,n,rfl⟩;exact⟨a,(k.mono (by simp)).drewN n,k.at h (by simp)⟩
def MZ (r:Nat) (R:RC) (bg ps g cap b lg:Nat) (look:gz->Option gz) (cut:Nat->Nat) (w:gw) (h:Rd w r R bg ps) (F:TC w r R g cap b lg look cut) (W:bg < R.cs.size) (p:ps<=R.cs.size):
  Calls prog 73 #[gL r] w λe w'=>nS w r R bg cut e w' (qR R look lg bg ps):=by
 have u:=F.small;have P:=Bt r R bg ps w h p u;obtain⟨T,f⟩:∃T,qR R look lg bg ps=T:=⟨_,rfl⟩;rw[f];unfold qR at f;go_enter func73,ntmps73
 go_wp21
 refine P.mono ?_;rintro e w1 ⟨rfl,q,rfl⟩;have x:=(Kept.refl [r] w).drewN q;have G:Rd (w.drewN q) r R bg ps:=h;cases c0:PN R ps with
 |true=>
  rw[gF c0]at f;have a:=F.kept x;have o:=Tk r R bg ps g cap b lg look cut (w.drewN q) G a (by omega) p;rw[f]at o;cases T with
  |stop=>
   go_wp21
   refine o.mono ?_;rintro e t ⟨k,rfl,Q,S,U⟩;have z:=nS.back (show nS (w.drewN q) r R bg cut _ t .stop from⟨k,rfl,Q,S,U⟩) x;go_wp2;exact⟨rfl,z⟩
  |tok kd m=>
   go_wp21
   refine o.mono ?_;rintro e t ⟨⟨v,rfl,V⟩,d,c⟩;have z:=nS.back (show nS (w.drewN q) r R bg cut (ir v) t (.tok kd m)from⟨⟨v,rfl,V⟩,d,c⟩) x;go_wp2;go_ret;exact z
 |false=>
  rw[gR (by simp[c0])]at f;have I:=lz r R bg ps ⟨#[47]⟩ (w.drewN q) G p u (by decide)
  go_wp21
  refine I.mono ?_;rintro e H ⟨rfl,d,c⟩;have y:=x.trans d;unfold taken at c;cases c1:pre (R.cs.extract ps R.cs.size) ⟨#[47]⟩with
  |true=>
   rw[gF c1]at f c;have a:=F.kept y;have o:=Ky r R bg (ps+1) g cap b lg look cut H c a W (lx c1 p);rw[f]at o;cases T with
   |stop=>
    go_wp21
    refine o.mono ?_;rintro e t ⟨k,rfl,Q,S,U⟩;have z:=nS.back (show nS H r R bg cut _ t .stop from⟨k,rfl,Q,S,U⟩) y;go_wp2;exact⟨rfl,z⟩
   |tok kd m=>
    go_wp21
    refine o.mono ?_;rintro e t ⟨⟨v,rfl,V⟩,d,c⟩;have z:=nS.back (show nS H r R bg cut (ir v) t (.tok kd m)from⟨⟨v,rfl,V⟩,d,c⟩) y;go_wp2;go_ret;exact z
  |false=>
   rw[gR (by simp[c1])]at f c;have J:=lz r R bg ps ⟨#[33,45,45]⟩ H c p u (by decide)
   go_wp21
   refine J.mono ?_;rintro e X ⟨rfl,d,c⟩;have A:=y.trans d;unfold taken at c;cases c2:pre (R.cs.extract ps R.cs.size) ⟨#[33,45,45]⟩with
   |true=>
    rw[gF c2]at f c;have a:=F.kept A;have o:=(O2 r R bg (ps+3) g cap cut X c a.gM a.gl (by omega) (lx c2 p) u);subst f
    go_wp21
    refine o.mono ?_;rintro e t ⟨rfl,d,l⟩;have j:=A.trans d;go_wp2;go_ret;exact⟨⟨_,rfl,rfl⟩,j,l⟩
   |false=>
    rw[gR (by simp[c2])]at f c;have K:=Re r R bg ps lD X c p u (by decide)
    go_wp21
    refine K.mono ?_;rintro e Y ⟨rfl,d,c⟩;have B:=A.trans d;cases c3:zz R lD ps with
    |true=>
     rw[gF c3]at f c;have a:=F.kept B;have o:=(KJ r R bg (ps+8) g cap cut Y c a.gM a.gl (by omega) (PK c3 p) u);subst f
     go_wp21
     refine o.mono ?_;rintro e t ⟨rfl,d,l⟩;have j:=B.trans d;go_wp2;go_ret;exact⟨⟨_,rfl,rfl⟩,j,l⟩
    |false=>
     rw[gR (by simp[c3])]at f c;have N:=lz r R bg ps ⟨#[33]⟩ Y c p u (by decide)
     go_wp21
     refine N.mono ?_;rintro e Z ⟨rfl,d,c⟩;have D:=B.trans d;unfold taken at c;cases c4:pre (R.cs.extract ps R.cs.size) ⟨#[33]⟩with
     |true=>
      rw[gF c4]at f c;have a:=F.kept D;have o:=(tN r R bg (ps+1) g cap cut Z c a.gM a.gl (by omega) (lx c4 p) u);subst f
      go_wp21
      refine o.mono ?_;rintro e t ⟨rfl,d,l⟩;have j:=D.trans d;go_wp2;go_ret;exact⟨⟨_,rfl,rfl⟩,j,l⟩
     |false=>
      rw[gR (by simp[c4])]at f c
      go_wp21
      refine(oO _ _).mono ?_;rintro e wq ⟨rfl,rfl⟩;have O:=YC r R bg ps Z c p u
      go_wp21
      refine O.mono ?_;rintro e w6 ⟨rfl,d,c⟩;have E:=D.trans d;have a:=F.kept E;cases c5:isQ R ps with
      |true=>
       rw[gF c5]at f;have o:=(tN r R bg ps g cap cut w6 c a.gM a.gl (by omega) p u);subst f
       go_wp21
       refine o.mono ?_;rintro e t ⟨rfl,d,l⟩;have j:=E.trans d;go_wp2;go_ret;exact⟨⟨_,rfl,rfl⟩,j,l⟩
      |false=>
       rw[gR (by simp[c5])]at f;have o:=(Dm r R bg ps g cap b lg look cut w6 c a.gM a.Wc W u);subst f
       go_wp21
       refine o.mono ?_;rintro e t ⟨rfl,d,l⟩;have j:=E.trans d;go_wp2;go_ret;exact⟨⟨_,rfl,rfl⟩,j,l⟩
def wR (t:gz):gz:=⟨(Lib.trimPrefix t.data.toList [60,47]).toArray⟩
def KI (t:gz):Bool:=Lib.hasPrefix t.data.toList [60,47]
theorem GP (t:gz):(wR t).size<=t.size:=by
 have e1:t.size=t.data.toList.length:=Kg t;have e2:(wR t).size=(Lib.trimPrefix t.data.toList [60,47]).length:=by
  rw[Kg];simp[wR]
 rw[e1,e2];unfold Lib.trimPrefix
 grind
def Ny (R:RC) (nm:gz) (ps:Nat):Bool:=
 KI (R.cs.extract ps R.cs.size)&&decide (nm.size < (wR (R.cs.extract ps R.cs.size)).size)&&((small ((wR (R.cs.extract ps R.cs.size)).extract 0 nm.size)).toList==nm.toList)&&jr jm (bt (wR (R.cs.extract ps R.cs.size)) nm.size)
def FA (v:gP) (W:gw):Prop:=∃b,v= .func (.func 241) #[] #[gL b]/\b < W.heap.size/\W.cell? ⟨b,0,none⟩=some (gI jm)
def FA.k {v:gP} {W a:gw} (h:FA v W) (c:Kept [] W a):FA v a:=by
 have⟨b,h1,h2,h3⟩:=h;exact⟨b,h1,lU h2 c.size,(c.cell (p:=⟨b,0,none⟩) h2 (by simp)).trans h3⟩
def FA.new (W:gw):FA (.func (.func 241) #[] #[gL W.heap.size]) (W.alloc (.cells #[gI jm] 9)):=by
 simp[FA]
def adq (r:Nat) (R:RC) (bg ps:Nat) (nm:gz) (w:gw) (h:Rd w r R bg ps) (A:ps<=R.cs.size) (B:R.cs.size<=1024) (p:KI (R.cs.extract ps R.cs.size)=false):
  Calls prog 138 #[gL r,gI nm] w λe w'=>e=ir (.bool false)/\Kept [] w w':=by
 have k:=fW (wy r R bg ps w h A B);have E:=GP (R.cs.extract ps R.cs.size);have d:(R.cs.extract ps R.cs.size).size=R.cs.size - ps:=by simp
 rw[d]at E;clear h d;generalize R.cs.extract ps R.cs.size=t at *;have f:=fW (λw=>Tryz.strings_CutPrefix t ⟨#[60,47]⟩ w);simp only at f;rw[show(⟨(Lib.trimPrefix t.data.toList [60,47]).toArray⟩:gz)=wR t from rfl,show Lib.hasPrefix t.data.toList [60,47]=KI t from rfl]at f;generalize wR t=s at *;rw[p]at f;obtain⟨u,D⟩:∃u:gz,u=⟨#[]⟩:=⟨_,rfl⟩;obtain⟨c,o⟩:∃c:Int,c=0:=⟨_,rfl⟩;clear p D o;go_enter func138,ntmps138
 go_wp21
 refine k.out.mono ?_;rintro e H ⟨rfl,q,rfl⟩
 go_wp21
 refine(f.out _).mono ?_;rintro e w' ⟨rfl,rfl⟩
 go_wp21
 refine tw (by rfl) ?_;refine pN (λ(g:Unit) z=>⟨#[gL r,gI nm,undef,undef,.bool false,gI s,.bool false,gp nm.size,.tuple #[gI s,.bool false],gL r,gI t,.tuple #[gI s,.bool false],gI s,.bool false,gI nm,gp nm.size,cd z 0 (.bool false),cd z 1 (.bool false),undef,undef,undef,undef,cd z 6 (.bool false),cd z 7 (.bool false),undef,undef,undef,undef,undef,undef,cd z 14 (.bool false),cd z 15 (.bool false),undef,undef,undef,undef,undef,cd z 21 (.bool false)],[]⟩) (λg z W=>Kept [] w W) 23 [[],[0],[1],[1],[1],[1],[1],[6],[7],[7],[7],[7],[7],[7],[7],[14],[15],[15],[15],[15],[15],[15],[21]] (()) rfl (by rfl) (((Kept.refl [] w).drewN q).drew) ?_ ?_
 .repeat' first|exact mU|refine mQ ?_ ?_
  all_goals
   rintro g z W j m G;simp[BR]at m;refine kN rfl ?_;intro F l;simp only[ld,m];go_simp
   first
   |refine l _ _ ⟨g,?_,j⟩
   simp[oC,vm,ld,m]
 .rintro g W j;simp only[uZ];have x:=fW j;clear j;rename_i y a;refine a _ _ ?_;clear a y;go_wp2;go_ret;exact⟨rfl,x.out⟩
def adr (r:Nat) (R:RC) (bg ps:Nat) (nm:gz) (w:gw) (h:Rd w r R bg ps) (B:ps<=R.cs.size) (D:R.cs.size<=1024) (p:KI (R.cs.extract ps R.cs.size)=true) (H:¬nm.size < (wR (R.cs.extract ps R.cs.size)).size):
  Calls prog 138 #[gL r,gI nm] w λe w'=>e=ir (.bool false)/\Kept [] w w':=by
 have k:=fW (wy r R bg ps w h B D);have F:=GP (R.cs.extract ps R.cs.size);have d:(R.cs.extract ps R.cs.size).size=R.cs.size - ps:=by simp
 rw[d]at F;clear h d;generalize R.cs.extract ps R.cs.size=t at *;have f:=fW (λw=>Tryz.strings_CutPrefix t ⟨#[60,47]⟩ w);simp only at f;rw[show(⟨(Lib.trimPrefix t.data.toList [60,47]).toArray⟩:gz)=wR t from rfl,show Lib.hasPrefix t.data.toList [60,47]=KI t from rfl]at f;generalize wR t=s at *;rw[p]at f;obtain⟨u,E⟩:∃u:gz,u=⟨#[]⟩:=⟨_,rfl⟩;obtain⟨c,o⟩:∃c:Int,c=0:=⟨_,rfl⟩;have x:=fW (eq_false (show ¬(nm.size:Int) < (s.size:Int) by omega));clear p E o;go_enter func138,ntmps138
 go_wp21
 refine k.out.mono ?_;rintro e J ⟨rfl,q,rfl⟩
 go_wp21
 refine(f.out _).mono ?_;rintro e w' ⟨rfl,rfl⟩
 go_wp21
 refine tw (by rfl) ?_;refine pN (λ(g:Unit) z=>⟨#[gL r,gI nm,undef,undef,.bool false,gI s,.bool true,gp nm.size,.tuple #[gI s,.bool true],gL r,gI t,.tuple #[gI s,.bool true],gI s,.bool true,gI nm,gp nm.size,cd z 0 (.bool true),cd z 1 (.bool true),cd z 2 (gI s),cd z 3 (gp s.size),cd z 4 (gp nm.size),cd z 5 (.bool false),cd z 6 (.bool false),cd z 7 (.bool false),undef,undef,undef,undef,undef,undef,cd z 14 (.bool false),cd z 15 (.bool false),undef,undef,undef,undef,undef,cd z 21 (.bool false)],[]⟩) (λg z W=>Kept [] w W) 23 [[],[0],[1],[1,2],[1],[1,3,4],[1,5],[6],[7],[7],[7],[7],[7],[7],[7],[14],[15],[15],[15],[15],[15],[15],[21]] (()) rfl (by rfl) (((Kept.refl [] w).drewN q).drew) ?_ ?_
 .repeat' first|exact mU|refine mQ ?_ ?_
  all_goals
   rintro g z W j m I;simp[BR]at m;refine kN rfl ?_;intro G l;simp only[ld,m]
   try simp only[x.out]
   go_simp
   first
   |refine l _ _ ⟨g,?_,j⟩
   simp[oC,vm,ld,m]
 .rintro g W j;simp only[uZ];have y:=fW j;clear j;rename_i A a;refine a _ _ ?_;clear a A;go_wp2;go_ret;exact⟨rfl,y.out⟩
def ads (r:Nat) (R:RC) (bg ps:Nat) (nm:gz) (w:gw) (h:Rd w r R bg ps) (F:ps<=R.cs.size) (G:R.cs.size<=1024) (y:KI (R.cs.extract ps R.cs.size)=true) (O:nm.size < (wR (R.cs.extract ps R.cs.size)).size) (N:((small ((wR (R.cs.extract ps R.cs.size)).extract 0 nm.size)).toList==nm.toList)=false):
  Calls prog 138 #[gL r,gI nm] w λe w'=>e=ir (.bool false)/\Kept [] w w':=by
 have l:=fW (wy r R bg ps w h F G);have H:=GP (R.cs.extract ps R.cs.size);have j:(R.cs.extract ps R.cs.size).size=R.cs.size - ps:=by simp
 rw[j]at H;clear h j;generalize R.cs.extract ps R.cs.size=t at *;have k:=fW (λw=>Tryz.strings_CutPrefix t ⟨#[60,47]⟩ w);simp only at k;rw[show(⟨(Lib.trimPrefix t.data.toList [60,47]).toArray⟩:gz)=wR t from rfl,show Lib.hasPrefix t.data.toList [60,47]=KI t from rfl]at k;generalize wR t=s at *;rw[y]at k;have E:(s.extract 0 nm.size).size=nm.size:=by simp;omega
 have m:=fW (λW=>vO (s.extract 0 nm.size) W (by omega));have A:=fW (eq_true (show(nm.size:Int) < (s.size:Int) by omega));clear E;generalize small (s.extract 0 nm.size)=u at *;obtain⟨c,p⟩:∃c:Int,c=0:=⟨_,rfl⟩;clear y p;go_enter func138,ntmps138
 go_wp21
 refine l.out.mono ?_;rintro e Q ⟨rfl,q,rfl⟩
 go_wp21
 refine(k.out _).mono ?_;rintro e w' ⟨rfl,rfl⟩
 go_wp21
 refine tw (by rfl) ?_;refine pN (λ(g:Unit) z=>⟨#[gL r,gI nm,undef,undef,.bool false,gI s,.bool true,gp nm.size,.tuple #[gI s,.bool true],gL r,gI t,.tuple #[gI s,.bool true],gI s,.bool true,gI nm,gp nm.size,cd z 0 (.bool true),cd z 1 (.bool true),cd z 2 (gI s),cd z 3 (gp s.size),cd z 4 (gp nm.size),cd z 5 (.bool true),cd z 6 (.bool true),cd z 7 (.bool true),cd z 8 (gI s),cd z 9 (gp nm.size),cd z 10 (gI (s.extract 0 nm.size)),cd z 11 (gI u),cd z 12 (gI nm),cd z 13 (.bool false),cd z 14 (.bool false),cd z 15 (.bool false),undef,undef,undef,undef,undef,cd z 21 (.bool false)],[]⟩) (λg z W=>Kept [] w W) 23 [[],[0],[1],[1,2],[1],[1,3,4],[1,5],[6],[7],[7],[7,8,9],[7,10],[7],[7,11,12],[7,13],[14],[15],[15],[15],[15],[15],[15],[21]] (()) rfl (by rfl) (((Kept.refl [] w).drewN q).drew) ?_ ?_
 .repeat' first|exact mU|refine mQ ?_ ?_
  all_goals
   rintro g z W a o P;simp[BR]at o;refine kN rfl ?_;intro I d;simp only[ld,o]
   try simp only[A.out]
   go_simp
   try (rw[gF (by omega)];go_simp)
   first
   |refine d _ _ ⟨g,?_,a⟩
   |refine(m.out W).mono ?_;rintro K J ⟨rfl,x⟩;refine d _ _ ⟨g,?_,a.trans x⟩
   simp[oC,vm,ld,o]
 .rintro g W a;simp only[uZ];have B:=fW a;clear a;rename_i D f;refine f _ _ ?_;clear f D;go_wp2;go_ret;exact⟨rfl,B.out⟩
def adt (r:Nat) (R:RC) (bg ps:Nat) (nm:gz) (w:gw) (h:Rd w r R bg ps) (Q:ps<=R.cs.size) (S:R.cs.size<=1024) (F:KI (R.cs.extract ps R.cs.size)=true) (P:nm.size < (wR (R.cs.extract ps R.cs.size)).size) (X:((small ((wR (R.cs.extract ps R.cs.size)).extract 0 nm.size)).toList==nm.toList)=true):
  Calls prog 138 #[gL r,gI nm] w λe w'=>e=ir (.bool (jr jm (bt (wR (R.cs.extract ps R.cs.size)) nm.size)))/\Kept [] w w':=by
 have p:=fW (wy r R bg ps w h Q S);have T:=GP (R.cs.extract ps R.cs.size);have k:(R.cs.extract ps R.cs.size).size=R.cs.size - ps:=by simp
 rw[k]at T;clear h k;generalize R.cs.extract ps R.cs.size=t at *;have m:=fW (λw=>Tryz.strings_CutPrefix t ⟨#[60,47]⟩ w);simp only at m;rw[show(⟨(Lib.trimPrefix t.data.toList [60,47]).toArray⟩:gz)=wR t from rfl,show Lib.hasPrefix t.data.toList [60,47]=KI t from rfl]at m;generalize wR t=s at *;rw[F]at m;have K:(s.extract 0 nm.size).size=nm.size:=by simp;omega
 have x:=fW (λW=>vO (s.extract 0 nm.size) W (by omega));have G:=fW (eq_true (show(nm.size:Int) < (s.size:Int) by omega));clear K;generalize small (s.extract 0 nm.size)=u at *;have V:=get_bt s nm.size P;have N:=bt_nonneg s nm.size;have O:=bt_le s nm.size;clear F;generalize bt s nm.size=c at *;go_enter func138,ntmps138
 go_wp21
 refine p.out.mono ?_;rintro e Z ⟨rfl,q,rfl⟩
 go_wp21
 refine(m.out _).mono ?_;rintro e w' ⟨rfl,rfl⟩
 go_wp21
 refine tw (by rfl) ?_;refine pN (λ(g:gP) z=>⟨#[gL r,gI nm,undef,undef,ce z 22 (.bool false) (.bool (jr jm c)),gI s,.bool true,gp nm.size,.tuple #[gI s,.bool true],gL r,gI t,.tuple #[gI s,.bool true],gI s,.bool true,gI nm,gp nm.size,cd z 0 (.bool true),cd z 1 (.bool true),cd z 2 (gI s),cd z 3 (gp s.size),cd z 4 (gp nm.size),cd z 5 (.bool true),cd z 6 (.bool true),cd z 7 (.bool true),cd z 8 (gI s),cd z 9 (gp nm.size),cd z 10 (gI (s.extract 0 nm.size)),cd z 11 (gI u),cd z 12 (gI nm),cd z 13 (.bool true),cd z 14 (.bool true),cd z 15 (.bool true),cd z 16 (g),cd z 17 (gI s),cd z 18 (gp nm.size),cd z 19 (.int .u8 c),cd z 20 (.bool (jr jm c)),cd z 21 (.bool (jr jm c))],[]⟩) (λg z W=>Kept [] w W/\(dn z 16=true->FA g W)) 23 [[],[0],[1],[1,2],[1],[1,3,4],[1,5],[6],[7],[7],[7,8,9],[7,10],[7],[7,11,12],[7,13],[14],[15],[15],[15],[15,17,18],[15,16,19],[15,20],[21]] (undef) rfl rfl (⟨((Kept.refl [] w).drewN q).drew,λh=>by cases h⟩) ?_ ?_
 .repeat' first|exact mU|refine mQ ?_ ?_
  all_goals
   rintro g z W a o Y;simp[BR]at o;refine kN rfl ?_;intro U d;simp only[ld,o]
   try simp only[G.out]
   go_simp
   try (rw[gF (by omega)];go_simp)
   first
   |refine d _ _ ⟨g,?_,a.1,λh=>a.2 (by simpa [oF]using h)⟩
   |refine(x.out W).mono ?_;rintro D B ⟨rfl,l⟩;refine d _ _ ⟨g,?_,a.1.trans l,λh=>(a.2 (by simpa [oF]using h)).k l⟩
   |refine(oO _ W).mono ?_;rintro D B ⟨rfl,rfl⟩;refine d _ _ ⟨_,?_,a.1.alloc _,λ_=>FA.new W⟩
   |obtain⟨J,rfl,A,y⟩:=a.2 (by simp[o]);have f:=BU W [] J _ y A (by simp);have E:=f.Yb;go_simp;refine(f.ask c W N O (Kept.refl _ _)).mono ?_;rintro D B ⟨rfl,nq,rfl⟩;refine d _ _ ⟨_,?_,a.1.drewN nq,λh=>(a.2 (by simpa [oF]using h)).k ((Kept.refl [] W).drewN nq)⟩
   simp[oC,vm,ld,TU,ack,o]
 .rintro g W a;simp only[uZ,XP];have H:=fW a.1;clear a;rename_i I j;refine j _ _ ?_;clear j I;go_wp2;go_ret;exact⟨rfl,H.out⟩
def zj (R:RC) (look:gz->Option gz) (lg bg:Nat):zS:=
 if R.Y6=true then .tok (.XR (oB (R.cs.extract bg (bg+1)))) (bg+1)
 else .tok (.XR (oB (rI look lg (R.cs.extract bg R.cs.size)))) (bg+pH look lg (R.cs.extract bg R.cs.size))
def vW (h:∀x t,look x=some t->t.size<=16):(rI look lg s).size<=16:=by
 unfold rI;split
 .simp;omega
 .exact xA h
def J0 (r:Nat) (R:RC) (bg ps d:Nat) (c:gz) (pl:Bool) (cut:Nat->Nat) (w:gw) (h:Rd w r R bg ps) (K:Gl w r) (x:R.Y6=pl) (y:c.size<=1048576) (F:Nat) (D:F=(if pl then 139 else 74))
  (C:Calls prog F #[gL r] w λe w'=>e=ir (.agg #[gp (cut bg),gp (cut d),gI c])/\Kept [r] w w'/\Rd w' r R bg d):
  Calls prog 71 #[gL r] w λe w'=>nS w r R bg cut e w' (.tok (.XR (oB c)) d):=by
 have p:=h.Y6;rw[x]at p;have T:=jn h;have H:=C;have I:=K;have o:=(λW (N:Gl W r)=>yg r c W y N);generalize oB c=E at *;have O:∀(B:Fn) (first cap:jO) (w:gw),(Instr.makeFunc B first cap).run prog w= .ok (.func B first cap) w:=λ_ _ _ _=>rfl;cases pl
 all_goals
  simp only[wP,↓reduceIte]at D;subst D;go_enter func71,ntmps71
  go_wp21
  refine H.mono ?_;rintro e f ⟨rfl,a,j⟩;have A:=(Kept.refl [] f).alloc (.cells #[gp (cut bg),gp (cut d),gI c] 167);have G:=fZ f (.cells #[gp (cut bg),gp (cut d),gI c] 167);have u:f.heap.size≠r:=by have:=jn j;omega
  have q:=o _ (I.kept (a.trans (A.mono (by simp))));have J:=a.size
  go_wp21
  refine q.mono ?_;rintro e z ⟨rfl,k⟩;have l:=k.at G (by simp);have P:=fX l 0;have Q:=fX l 1;have S:=fX l 2;have U:=gG l 2;dsimp at P Q S;have KW:Kept [] f z:=A.trans k;have m:Kept [r] w (z.setCell ⟨f.heap.size,2,none⟩ (gI E)):=(a.trans (KW.mono (by simp))).setCell (.inr J) _;have t:Rd (z.setCell ⟨f.heap.size,2,none⟩ (gI E)) r R bg d:=(j.kept KW (by simp)).qx u _;go_wp2;go_ret;exact⟨⟨_,rfl,rfl⟩,m,t⟩
theorem Ts (r:Nat) (R:RC) (bg ps g cap b lg:Nat) (look:gz->Option gz) (cut:Nat->Nat) (w:gw) (h:Rd w r R bg ps) (a:TC w r R g cap b lg look cut) (c:bg < R.cs.size):
  Calls prog 71 #[gL r] w λe w'=>nS w r R bg cut e w' (zj R look lg bg):=by
 unfold zj;split
 .rename_i d;exact J0 r R bg ps (bg+1) _ true cut w h a.gl d (by have:=a.small;simp;omega) _ rfl (Dh r R bg ps g cap cut w h a.gM c a.small)
 .rename_i d;exact J0 r R bg ps _ _ false cut w h a.gl (by grind) (jN (vW a.Wc.lk.short) (by decide)) _ rfl (Dm r R bg ps g cap b lg look cut w h a.gM a.Wc c a.small)
def VU (r:Nat) (R:RC) (bg ps:Nat) (nm:gz) (w:gw) (h:Rd w r R bg ps) (c:ps<=R.cs.size) (d:R.cs.size<=1024):
  Calls prog 138 #[gL r,gI nm] w λe w'=>e=ir (.bool (Ny R nm ps))/\Kept [] w w':=by
 unfold Ny;cases ho:KI (R.cs.extract ps R.cs.size)
 .exact adq r R bg ps nm w h c d ho
 .by_cases a:nm.size < (wR (R.cs.extract ps R.cs.size)).size
  .rw[vn a];cases he:((small ((wR (R.cs.extract ps R.cs.size)).extract 0 nm.size)).toList==nm.toList)
   .exact ads r R bg ps nm w h c d ho a he
   .have:=adt r R bg ps nm w h c d ho a he
    simpa using this
  .rw[xm a];exact adr r R bg ps nm w h c d ho a
def tL (R:RC) (ps:Nat):RC:={R with nC:=if Ny R R.nC ps=true then ⟨#[]⟩else R.nC}
def Rd.setOf (h:Rd w r R bg ps) (s:gz):Rd (w.setCell ⟨r,7,none⟩ (gI s)) r {R with nC:=s} bg ps:=gh h 7 _
def TC.setOf (h:TC w r R g cap b lg look cut) (s:gz):TC w r {R with nC:=s} g cap b lg look cut:=
 ⟨⟨h.gM.av,h.gM.ne,h.gM.lt,h.gM.at_⟩,⟨h.Wc.lk,h.Wc.ne,h.Wc.mv,h.Wc.lgv,h.Wc.le⟩,h.gl,h.small⟩
theorem Yu (r:Nat) (R:RC) (bg ps:Nat) (w:gw) (h:Rd w r R bg ps) (u:ps<=R.cs.size) (x:R.cs.size<=1024):
  Calls prog 70 #[gL r] w λe w'=>e=ir (.bool (!((tL R ps).nC.toList==[])))/\Kept [r] w w'/\Rd w' r (tL R ps) bg ps:=by
 by_cases f:R.nC=⟨#[]⟩
 .have e1:tL R ps=R:=by
   have⟨cs,av,at_,mv,lg,nC,Y6⟩:=R;simp only at f;subst f;simp[tL]
  rw[e1,f];refine(VT r R bg ps w h f).mono ?_;rintro e w' ⟨rfl,a⟩;exact⟨by simp,a.mono (by simp),h.kept a (by simp)⟩
 .have k:(R.nC.toList==[])=false:=by
   cases hq:(R.nC.toList==[])with
   |false=>rfl
   |true=>
    exfalso;apply f;have t:R.nC.toList=[]:=by simpa using hq
    rw[sH]at t;apply Ko
    grind
  have o:=h.nC;have B:=jn h;have C:=VU r R bg ps R.nC w h u x;have l:=h;unfold tL;cases hE:Ny R R.nC ps
  .rw[hE]at C;have j:=fW (show(!((if false=true then kJ else R.nC).toList==[]))=true by simp[k]);have m:Hid (∀W,Rd W r R bg ps->Rd W r {R with nC:=if false=true then ⟨#[]⟩else R.nC} bg ps):=λW h=>h;rw[j.out];go_enter func70,ntmps70
   go_wp21
   refine C.mono ?_;rintro e z ⟨rfl,a⟩;have d:=l.kept a (by simp);have y:=d.nC;have q:=a.mono (S':=[r]) (by simp);go_wp2;go_ret
   simp_all
  .rw[hE]at C;have m:Hid (∀W,Rd W r R bg ps->Rd (W.setCell ⟨r,7,none⟩ (gI kJ)) r {R with nC:=if true=true then ⟨#[]⟩else R.nC} bg ps):=λW h=>h.setOf _;have j:=fW (show(!((if true=true then kJ else R.nC).toList==[]))=false by simp);rw[j.out];go_enter func70,ntmps70
   go_wp21
   refine C.mono ?_;rintro e z ⟨rfl,a⟩;have c:=l.kept a (by simp);have y:=c.nC;have A:=c.free 7;have q:=(a.mono (S':=[r]) (by simp)).setCell (p:=⟨r,7,none⟩) (.inl (by simp)) (gI kJ);have d:=m _ c;go_wp2;go_ret
   simp_all
def kT (R:RC) (look:gz->Option gz) (lg ps:Nat):zS:=
 if ps=R.cs.size then .tok .VM ps
 else if ((tL R ps).nC.toList==[])=true then (if pre (R.cs.extract ps R.cs.size) Ej=true then qR (tL R ps) look lg ps (ps+1)else vw (tL R ps) look lg ps)
 else zj (tL R ps) look lg ps
def Ao (R:RC) (ps:Nat):RC:=if ps=R.cs.size then R else tL R ps
def adF (r:Nat) (R:RC) (bg ps g cap b lg:Nat) (look:gz->Option gz) (cut:Nat->Nat) (w:gw) (h:Rd w r R bg ps) (hO:TC w r R g cap b lg look cut) (hp:ps<=R.cs.size):
  Calls prog 37 #[gL r] w λe w'=>nS w r (Ao R ps) ps cut e w' (kT R look lg ps):=by
 have hs:=hO.small;have p2:=h.bg;have p3:=h.ps;have f2:=h.free 2;obtain⟨u,J⟩:∃u,u=w.setCell ⟨r,2,none⟩ (gp ps):=⟨_,rfl⟩;have D:Rd u r R ps ps:=by rw[J];exact h.aeT ps
 have y:Kept [r] w u:=by rw[J];exact(Kept.refl _ _).setCell (.inl (by simp)) _
 have V:=fW J.symm;have HO:=hO.kept y;have U:=oE r R ps ps u D;clear h hO J
 by_cases f:ps=R.cs.size
 .have Y:kT R look lg ps= .tok .VM ps:=by unfold kT;rw[gF f]
  have X:Ao R ps=R:=by unfold Ao;rw[gF f]
  rw[Y,X];have W:decide (ps=R.cs.size)=true:=by simp[f]
  rw[W]at U;have x:=fW U;clear U Y W f X;go_enter func37,ntmps37
  go_wp21
  rw[V.out];refine x.mono ?_;rintro e K ⟨rfl,q,rfl⟩;have CP:=pS r R ps ps g cap cut (u.drewN q) (show Rd (u.drewN q) r R ps ps from D) (HO.kept ((Kept.refl [r] u).drewN q)).gM hp hp hs
  go_wp21
  refine CP.mono ?_;rintro e G ⟨rfl,a⟩;have d:=(y.drewN q).trans (a.mono (by simp));have j:Hid (Rd G r R ps ps):=a.at (show Rd (u.drewN q) r R ps ps from D) (by simp);clear a CP;go_wp2;go_ret;exact⟨⟨_,rfl,rfl⟩,d,j⟩
 .have W:decide (ps=R.cs.size)=false:=by simp[f]
  rw[W]at U;have x:=fW U;clear U W;have X:Ao R ps=tL R ps:=by unfold Ao;rw[gR f]
  have Y:kT R look lg ps=if ((tL R ps).nC.toList==[])=true then (if pre ((tL R ps).cs.extract ps (tL R ps).cs.size) Ej=true then qR (tL R ps) look lg ps (ps+1)else vw (tL R ps) look lg ps)else zj (tL R ps) look lg ps:=by unfold kT;rw[gR f];rfl
  have O:=(λq=>Yu r R ps ps (u.drewN q) (show Rd (u.drewN q) r R ps ps from D) hp hs);have B:TC u r (tL R ps) g cap b lg look cut:=HO.setOf _;have P:ps < (tL R ps).cs.size:=by show ps < R.cs.size;omega
  have a2:(tL R ps).cs.size<=1024:=hs;rw[Y,X];clear Y X f hp hs HO D;generalize tL R ps=l at *;clear R;have N:=λK (E:Rd K r l ps ps)=>lz r l ps ps Ej K E (by omega) a2 (by decide);cases ho:(l.nC.toList==[])
  .rw[ho]at O;rw[gR (by simp)];have HT:=(λw' h1 E=>Ts r l ps ps g cap b lg look cut w' h1 E P);generalize zj l look lg ps=T at HT|-;clear ho N;cases T with
   |stop=>
    go_enter func37,ntmps37
    go_wp21
    rw[V.out];refine x.mono ?_;rintro e K ⟨rfl,q,rfl⟩
    go_wp21
    refine(O q).mono ?_;rintro e G ⟨rfl,a,c⟩;have d:=((Kept.refl [r] u).drewN q).trans a;have j:=fW c;clear a c;have A:=HT G j (B.kept d);have z:=y.trans d
    go_wp21
    refine A.mono ?_;rintro e S ⟨k,rfl,E,Z,h4⟩;have I:=nS.back (show nS G r l ps cut _ S .stop from⟨k,rfl,E,Z,h4⟩) z;clear E Z h4 A;go_wp2;exact⟨rfl,I⟩
   |tok kd m=>
    go_enter func37,ntmps37
    go_wp21
    rw[V.out];refine x.mono ?_;rintro e K ⟨rfl,q,rfl⟩
    go_wp21
    refine(O q).mono ?_;rintro e G ⟨rfl,a,c⟩;have d:=((Kept.refl [r] u).drewN q).trans a;have j:=fW c;clear a c;have A:=HT G j (B.kept d);have z:=y.trans d
    go_wp21
    refine A.mono ?_;rintro e S ⟨⟨v,rfl,hv⟩,hk,hr⟩;have I:=nS.back (show nS G r l ps cut (ir v) S (.tok kd m)from⟨⟨v,rfl,hv⟩,hk,hr⟩) z;clear hv hk hr A;go_wp2;go_ret;exact I
  .rw[ho]at O;rw[gF rfl];cases hl:pre (l.cs.extract ps l.cs.size) Ej
   .rw[gR (by simp)];have F:taken l Ej ps=ps:=by unfold taken;rw[gR (by simp[hl])]
    rw[hl,F]at N;have H:=fW N;clear N F hl ho;go_enter func37,ntmps37
    go_wp21
    rw[V.out];refine x.mono ?_;rintro e K ⟨rfl,q,rfl⟩
    go_wp21
    refine(O q).mono ?_;rintro e G ⟨rfl,a,c⟩;have d:=((Kept.refl [r] u).drewN q).trans a;have j:=fW c;clear a c
    go_wp21
    refine(H _ j).mono ?_;rintro e Q ⟨rfl,p,t⟩;have o:=d.trans p;have A:=Dm r l ps ps g cap b lg look cut Q t (B.kept o).gM (B.kept o).Wc P a2;clear p t
    go_wp21
    refine A.mono ?_;rintro e w5 ⟨rfl,a0,a1⟩;have I:=(show nS w r l ps cut (ir (.iface 167 (.agg #[gp (cut ps),gp (cut (ps+pH look lg (l.cs.extract ps l.cs.size))),gI (rI look lg (l.cs.extract ps l.cs.size))]))) w5 (vw l look lg ps)from⟨⟨_,rfl,rfl⟩,y.trans (o.trans a0),a1⟩);clear a0 a1 A;go_wp2;go_ret;exact I
   .rw[gF rfl];have F:taken l Ej ps=ps+1:=by unfold taken;rw[gF hl];rfl
    have a3:ps+1<=l.cs.size:=lx hl (by omega);rw[hl,F]at N;have H:=fW N;have HL:=(λw' h1 E=>MZ r l ps (ps+1) g cap b lg look cut w' h1 E P a3);generalize qR l look lg ps (ps+1)=T at HL|-;clear N F hl ho;cases T with
    |stop=>
     go_enter func37,ntmps37
     go_wp21
     rw[V.out];refine x.mono ?_;rintro e K ⟨rfl,q,rfl⟩
     go_wp21
     refine(O q).mono ?_;rintro e G ⟨rfl,a,c⟩;have d:=((Kept.refl [r] u).drewN q).trans a;have j:=fW c;clear a c
     go_wp21
     refine(H _ j).mono ?_;rintro e Q ⟨rfl,p,t⟩;have o:=d.trans p;have A:=HL Q t (B.kept o);have z:=y.trans o;clear p t
     go_wp21
     refine A.mono ?_;rintro e S ⟨k,rfl,E,Z,h4⟩;have I:=nS.back (show nS Q r l ps cut _ S .stop from⟨k,rfl,E,Z,h4⟩) z;clear E Z h4 A;go_wp2;exact⟨rfl,I⟩
    |tok kd m=>
     go_enter func37,ntmps37
     go_wp21
     rw[V.out];refine x.mono ?_;rintro e K ⟨rfl,q,rfl⟩
     go_wp21
     refine(O q).mono ?_;rintro e G ⟨rfl,a,c⟩;have d:=((Kept.refl [r] u).drewN q).trans a;have j:=fW c;clear a c
     go_wp21
     refine(H _ j).mono ?_;rintro e Q ⟨rfl,p,t⟩;have o:=d.trans p;have A:=HL Q t (B.kept o);have z:=y.trans o;clear p t
     go_wp21
     refine A.mono ?_;rintro e S ⟨⟨v,rfl,hv⟩,hk,hr⟩;have I:=nS.back (show nS Q r l ps cut (ir v) S (.tok kd m)from⟨⟨v,rfl,hv⟩,hk,hr⟩) z;clear hv hk hr A;go_wp2;go_ret;exact I
def Pn (bs bm bB r:Nat) (C:jO) (R:RC) (bg ps:Nat) (d:gw) (c:gP) (a:kY):Env:={T5 bs bm bB r C R bg ps d with tv:=c,ta:=a}
def QR (R:RC) (o:gz) (p:Bool):RC:={R with nC:=o,Y6:=p}
def Mj (R:RC) (bg ps:Nat) (o:gz) (p:Bool):((wx R bg ps).setIfInBounds 7 (gI o)).setIfInBounds 8 (.bool p)=wx (QR R o p) bg ps:=rfl
def RF.rdV {d : gw} {c : gP} {a : kY} {f : Nat->Nat} (h:RF (Pn bs bm bB r C R bg ps d c a) f σ w):Rd w r (QR R σ.nC σ.iZ) bg ps:=by
 have⟨L,_,hr⟩:=h;have e:w.heap[r]?=some (gJ (((wx R bg ps).setIfInBounds 7 (gI σ.nC)).setIfInBounds 8 (.bool σ.iZ)) 132):=hr.rd
 rwa [Mj]at e
theorem RF.UK {w0 : gw} {tv : gP} {ta : kY} {f : Nat->Nat} (h:RF (Pn bs bm bB r C R bg ps w0 tv ta) f σ w) (T:List TypeId) (j:KT bs T w w') (W:∀t∈U7,t∈T->t=132) (hM:∀t∈T,t∈Hg) {l p : Nat} {o : gz} (Y:Rd w' r (QR R o σ.iZ) l p)
  (d:gP) (q:kY) (N:yB w' d q) (I:q.length<=4096) (P:Bool) (G:P=true->∀g,d.ownBlock=some g->w.heap.size<=g) (O:∀g,d.ownBlock=some g->bs<=g):
  RF (Pn bs bm bB r C R l p w' d q) f {σ with fresh:=P,nC:=o} w':=by
 have⟨L,e,h⟩:=h;have z:∀t∈U7,t≠132->t∉T:=λt U K J=>K (W t U J);have⟨C',hbl,hC⟩:=h.iw;have u:vS bm w w':=by
  have⟨S,hk,hS⟩:=j;exact⟨S,hk,λk h1 Q=>by grind⟩
 have y:∀(b:Nat) (D:Array MapEntry) (B:Nat),w.heap[b]?=some (Obj.map D B)->w'.heap[b]?=some (Obj.map D B):=by
  intro b D B F;have⟨S,hk,hS⟩:=j;have x:b < w.heap.size:=(Array.getElem?_eq_some_iff.1 F).1;refine(hk.block b x λJ=>?_).trans F;have⟨⟨c,t,m,E,_⟩,_⟩:=hS b J x;rw[F]at E;cases E
 refine⟨L,e,?_⟩;have a:=OD.move (w:=w) (w':=w') h.env h.fr u y;exact
  {fr:=Fr.refl _
   env:=⟨a.Gi,a.txt,a.spec,a.VS,a.Vp,a.xb⟩
   DQ:=h.DQ
   sL:=λi Z H=>(h.sL i Z H).kt j (λt U=>z t (by revert t;decide) (by revert t;decide))
   inj:=h.inj
   A0:=h.A0
   F5:=h.F5
   uq:=h.uq
   Ep:=h.Ep
   wf:=⟨h.wf.gA,h.wf.act,h.wf.head,h.wf.form,h.wf.je,h.wf.kids,h.wf.xb⟩
   iw:=⟨C',j.at hbl (z _ (by decide) (by decide)),⟨hC.size,hC.low,hC.gA,hC.act,hC.head,hC.form,hC.mode,hC.kept,hC.wait,hC.ID,hC.jL,hC.gQ,hC.behind⟩⟩
   o0:=j.row h.o0 (z _ (by decide) (by decide))
   pX:=j.row h.pX (z _ (by decide) (by decide))
   F9:=h.F9
   wT:=h.wT
   Et:=h.Et
   oT:=j.row h.oT (z _ (by decide) (by decide))
   Lw:=h.Lw
   rd:=by
    show w'.heap[r]?=some (.cells (((wx R l p).setIfInBounds 7 (gI o)).setIfInBounds 8 (.bool σ.iZ)) _ _);rw[Mj];exact Y
   QJ:=by show 7+1 < 9;decide
   tok:=N
   Lt:=I
   bz:=jN (jN h.bz h.fr.size) j.size
   bB:=h.bB
   bR:=h.bR
   bN:=h.bN
   Da:=λQ i g H X A=>by
    have E:=G Q g X;have h4:g < w.heap.size:=by
     cases hel:σ.ib i with
     |none=>rw[h.Ep i H hel]at A;cases A
     |some el=>
      have V:=h.sL i (.el el) (Ab.jo hel);exact(V.2.1.lt g A).2
    omega
   ab:=h.ab
   tb:=O
   Lv:=λv A=>by cases A}
structure TkW (a b:Nat) (kd:Int) (T:TypeId) (x:gP):Prop where
 ig:∀w,(Go.method 489 T x "Bytes").run prog w= .ok (419,.agg #[gp a,gp b]) w
 nil:∀w,(nilAhead 489 T x "Bytes").run prog w= .ok (some false) w
 kind:∀w,Calls prog 39 #[.iface T x] w λe w'=>e=ir (gp kd)/\w'=w
def qf (a b:Nat):RN->gN
 | .VM=>⟨a,b,.io,[]⟩
 | .XR t=>⟨a,b,.ke t,[]⟩
 | .Th nm L=>⟨a,b,.start nm,L⟩
 | .fin nm L=>⟨a,b,.stop nm,L⟩
 | .Xd t=>⟨a,b,.gS t,[]⟩
 | .dtp nm q=>⟨a,b,.iN nm q,[]⟩
 | .lost=>⟨a,b,.lost,[]⟩
def vA:RN->Nat
 | .VM=>0
 | .XR _=>1
 | .Th _ _=>2
 | .fin _ _=>3
 | .Xd _=>4
 | .dtp _ _=>5
 | .lost=>6
def PR (a b:Int) (n:gz) (x:Option Addr) (m c:Nat) (w:gw):Calls prog 39 #[.iface 175 (.agg #[gp a,gp b,gI n,.slice x m c])] w λe w'=>e=ir (gp 2)/\w'=w:=by
 have f:=vg;have d:=qB underlying175;go_enter func39,ntmps39;go_wp2;go_ret;simp
def SD (a b:Int) (n:gz) (x:Option Addr) (m c:Nat) (w:gw):Calls prog 39 #[.iface 176 (.agg #[gp a,gp b,gI n,.slice x m c])] w λe w'=>e=ir (gp 3)/\w'=w:=by
 have h:=vg;have d:=qv;have f:=qB underlying176;go_enter func39,ntmps39;go_wp2;go_ret;simp
def VZ (a b:Int) (n:gz) (w:gw):Calls prog 39 #[.iface 177 (.agg #[gp a,gp b,gI n])] w λe w'=>e=ir (gp 4)/\w'=w:=by
 have h:=vg;have c:=qv;have f:=yf;have d:=qB underlying177;go_enter func39,ntmps39;go_wp2;go_ret;simp
def V0 (a b:Int) (n:gz) (q:Bool) (w:gw):Calls prog 39 #[.iface 179 (.agg #[gp a,gp b,gI n,.bool q])] w λe w'=>e=ir (gp 5)/\w'=w:=by
 have j:=vg;have c:=qv;have h:=yf;have d:=sB;have f:=qB underlying179;go_enter func39,ntmps39;go_wp2;go_ret;simp
def SC (a b:Int) (w:gw):Calls prog 39 #[.iface 169 (.agg #[gp a,gp b])] w λe w'=>e=ir (gp 6)/\w'=w:=by
 have j:=vg;have c:=qv;have h:=yf;have d:=sB;have f:=vN;have k:=qB underlying169;go_enter func39,ntmps39;go_wp2;go_ret;simp
theorem U3.is {base a : Nat} {k : RN} (h:U3 base (a:Int) (b:Int) v w k) (u:(qf a b k).gV.length<=4096):
  ∃T x o,v= .iface T x/\(∀E:Env,E.tv=o->iF E (qf a b k)= .iface T x)/\TkW a b (vA k) T x/\(∃y m c,o= .slice y m c)/\yB w o (qf a b k).gV/\(∀g,o.ownBlock=some g->base<=g):=by
 have e:∀g,(jX).ownBlock=some g->base<=g:=λg l=>by simp[Value.ownBlock]at l
 cases k with
 |VM=>exact⟨_,_,jX,h,λ_ _=>rfl,⟨λw=>by kernel_rfl,λw=>by kernel_rfl,λw=>YH (T5 0 0 0 0 #[] ⟨⟨#[]⟩,.nilFunc,0,.nilFunc,0,⟨#[]⟩,false⟩ 0 0 w) a b w⟩,⟨_,_,_,rfl⟩,oY _ _ _ _,e⟩
 |XR t=>exact⟨_,_,jX,h,λ_ _=>rfl,⟨λw=>by kernel_rfl,λw=>by kernel_rfl,λw=>VY (T5 0 0 0 0 #[] ⟨⟨#[]⟩,.nilFunc,0,.nilFunc,0,⟨#[]⟩,false⟩ 0 0 w) a b t w⟩,⟨_,_,_,rfl⟩,oY _ _ _ _,e⟩
 |Xd t=>exact⟨_,_,jX,h,λ_ _=>rfl,⟨λw=>by kernel_rfl,λw=>by kernel_rfl,λw=>VZ a b t w⟩,⟨_,_,_,rfl⟩,oY _ _ _ _,e⟩
 |dtp n q=>exact⟨_,_,jX,h,λ_ _=>rfl,⟨λw=>by kernel_rfl,λw=>by kernel_rfl,λw=>V0 a b n q w⟩,⟨_,_,_,rfl⟩,oY _ _ _ _,e⟩
 |lost=>exact⟨_,_,jX,h,λ_ _=>rfl,⟨λw=>by kernel_rfl,λw=>by kernel_rfl,λw=>SC a b w⟩,⟨_,_,_,rfl⟩,oY _ _ _ _,e⟩
 |Th n L=>
  obtain⟨f,j,rfl,d⟩:=h;refine⟨_,_,.slice f L.length j,rfl,λE p=>?_,⟨λw=>by kernel_rfl,λw=>by kernel_rfl,λw=>PR a b n f L.length j w⟩,⟨_,_,_,rfl⟩,jV d (iP _),λg l=>(d.lt g l).1⟩
  grind[iF,qf]
 |fin n L=>
  obtain⟨f,j,rfl,d⟩:=h;refine⟨_,_,.slice f L.length j,rfl,λE p=>?_,⟨λw=>by kernel_rfl,λw=>by kernel_rfl,λw=>SD a b n f L.length j w⟩,⟨_,_,_,rfl⟩,jV d (iP _),λg l=>(d.lt g l).1⟩
  grind[iF,qf]
theorem Mq (a c:List UInt8):∀(k:Nat) (s:List UInt8),(Lib.replaceK a c k s).length<=s.length+k*c.length
 |0,s=>by simp[Lib.replaceK]
 |k+1,s=>by
  rw[Lib.replaceK];split
  .omega
  .have h:=Mq a c k (s.drop ((Lib.index s a).toNat+a.length))
   grind
theorem wu (s:gz):(oB s).size<=4*s.size+3:=by
 have e1:s.size=s.data.toList.length:=Kg s;have e2:(oB s).size=(Lib.replaceAll s.data.toList (ByteArray.mk #[0]).data.toList (ByteArray.mk #[239,191,189]).data.toList).length:=by
  rw[Kg];simp[oB]
 rw[e1,e2];unfold Lib.replaceAll Lib.replace;split
 .omega
 .have a:=Mq (ByteArray.mk #[0]).data.toList (ByteArray.mk #[239,191,189]).data.toList (Lib.replaceNum s.data.toList (ByteArray.mk #[0]).data.toList (-1)) s.data.toList;have c:Lib.replaceNum s.data.toList (ByteArray.mk #[0]).data.toList (-1)=Lib.count s.data.toList (ByteArray.mk #[0]).data.toList:=by
   unfold Lib.replaceNum;rw[gF (.inl (by decide))]
  have d:=Lib.count_le s.data.toList (ByteArray.mk #[0]).data.toList
  grind
def Xq:RN->Prop
 | .XR t=>t.size<=100
 | .Th _ L=>L.length<=1024/\∀p∈L,p.2.size<=1048576
 | .fin _ L=>L.length<=1024/\∀p∈L,p.2.size<=1048576
 |_=>True
def zq (R:RC) (bg:Nat):zS->Prop
 | .stop=>True
 | .tok kd m=>bg < m/\m<=R.cs.size/\1<=vA kd/\(vA kd≠1->m=R.cs.size\/bt R.cs (m - 1)=62)/\Xq kd
def XH (h:pre (R.cs.extract ps R.cs.size) jH=true):bt R.cs ps=62:=by
 have:=Er (j:=0) h (by decide);rw[Nat.add_zero]at this;exact this.trans rfl
theorem Su (h:ps<=R.cs.size):rn R ps=R.cs.size\/(ps < rn R ps/\bt R.cs (rn R ps - 1)=62):=by
 unfold rn taken;split
 .rename_i c;right;have t:ps<=scan (jr jH) R.cs ps:=sZ;have e:(ByteArray.mk #[62]).size=1:=rfl;rw[e];exact⟨by omega,by rw[Ke];exact XH c⟩
 .rename_i c;left;rcases rA (scan (jr jH) R.cs ps) R.cs.size with d|m
  .exfalso;apply c;have k:=Yt (bt_nonneg _ _) (bt_le _ _) (abC d);have p:(R.cs.extract (scan (jr jH) R.cs ps) R.cs.size).size=R.cs.size - scan (jr jH) R.cs ps:=by simp
   generalize scan (jr jH) R.cs ps=i at *;unfold pre;have f:(ByteArray.mk #[62]).size=1:=rfl;rw[f];have j:bt ((R.cs.extract i R.cs.size).extract 0 1) 0=62:=by
    rw[M0 (by omega) (by omega),C7];rw[M0 (by omega) (ij _),Nat.add_zero];exact k
   have a:((R.cs.extract i R.cs.size).extract 0 1).size=1:=by simp;omega
   rw[p];have u:(R.cs.extract i R.cs.size).extract 0 1=jH:=by
    generalize (R.cs.extract i R.cs.size).extract 0 1=X at j a;have⟨⟨l⟩⟩:=X
    match l,a with
    |[x],_=>
     have:(x.toNat:Int)=62:=j;have o:x=62:=by apply UInt8.toNat_inj.1;show x.toNat=62;omega
     rw[o]
   grind
  .have:=pz (q:=jr jH) h;omega
def Ow (h:∀x t,look x=some t->t.size<=16) (f:R.cs.size<=1024) (ps:Nat):(rZ look lg R ps).size<=1048576:=by
 unfold rZ;split
 .have a:=wu ⟨(vj look lg (mO R (mu R (mu R ps+1)))).toArray⟩;have c:=AF (lg:=lg) h (mO R (mu R (mu R ps+1)));have d:=Cm (R:=R) (ps:=mu R (mu R ps+1));have e:(ByteArray.mk (vj look lg (mO R (mu R (mu R ps+1)))).toArray).size=(vj look lg (mO R (mu R (mu R ps+1)))).length:=by simp[ByteArray.size]
  omega
 .decide
theorem Lu (h:∀x t,look x=some t->t.size<=16) (e:R.cs.size<=1024) (c:∀p∈L,p.2.size<=1048576):∀p∈re R look lg L ps,p.2.size<=1048576:=by
 unfold re uU;split
 .exact c
 .intro p d;rcases List.mem_append.1 d with a|a
  .grind
  .obtain rfl:=List.mem_singleton.1 a;exact Ow h e _
theorem Rb (j:∀x t,look x=some t->t.size<=16) (l:R.cs.size<=1024):∀(n:Nat) {L:kY} {ps m:Nat} {c:kY},R.cs.size - ps<=n->lL R look lg L ps= .whole m c->L.length<=ps->(∀p∈L,p.2.size<=1048576)->ps < m/\m<=R.cs.size/\bt R.cs (m - 1)=62/\c.length<=m/\∀p∈c,p.2.size<=1048576:=by
 intro n
 induction n with
 |zero=>
  intro L ps m c k a;have e:=sD (R:=R) (ps:=ps);rw[lL,dif_neg (by omega)]at a;cases a
 |succ n ih=>
  intro L ps m c k a y d;have e:=sD (R:=R) (ps:=ps);rw[lL]at a;split at a
  .split at a
   .rename_i h f;obtain⟨rfl,rfl⟩:=Hk.whole.inj a;exact⟨by omega,by omega,by rw[Ke];exact XH f,by omega,d⟩
   .split at a
    .cases a
    .have o:=wo (R:=R) (ps:=jf R ps);have q:=yw (R:=R) (ps:=kj R (jf R ps));have u:=Gr (R:=R) (look:=look) (lg:=lg) (L:=L) (ps:=jf R ps);have:=ih (by omega) a (by omega) (Lu j l d)
     grind
  grind
theorem Rc (d:∀x t,look x=some t->t.size<=16) (f:R.cs.size<=1024) {a : gz->kY->RN} {nm : gz} (c:bg < R.cs.size) (k:bg < ps) (e:∀L,1<=vA (a nm L)/\(L.length<=1024->(∀p∈L,p.2.size<=1048576)->Xq (a nm L))):zq R bg (tf R a nm (lL R look lg [] (yq R ps))):=by
 have j:=abT (R:=R) (ps:=ps);cases h:lL R look lg [] (yq R ps)with
 |stop=>trivial
 |lost=>exact⟨c,ij _,by decide,λ_=> .inl rfl,trivial⟩
 |whole m L=>
  have:=Rb d f _ (ij _) h (iP _) (by simp)
  grind[zq,tf]
def Zx (d:∀x t,look x=some t->t.size<=16) (f:R.cs.size<=1024) (nm:gz) (c:bg < R.cs.size) (e:bg < ps):zq R bg (tf R .Th nm (lL R look lg [] (yq R ps))):=Rc d f c e (λL=>⟨(by decide:1<=2),λa b=>⟨a,b⟩⟩)
def Yh (d:∀x t,look x=some t->t.size<=16) (f:R.cs.size<=1024) (nm:gz) (c:bg < R.cs.size) (e:bg < ps):zq R bg (tf R .fin nm (lL R look lg [] (yq R ps))):=Rc d f c e (λL=>⟨(by decide:1<=3),λa b=>⟨a,b⟩⟩)
def Es (a:∀x t,look x=some t->t.size<=16) (e:bg < R.cs.size):zq R bg (vw R look lg bg):=by
 have c:=Dl (look:=look) (lg:=lg) (s:=R.cs.extract bg R.cs.size);have d:=FK (look:=look) (lg:=lg) (s:=R.cs.extract bg R.cs.size) (by simp;omega);have f:(R.cs.extract bg R.cs.size).size=R.cs.size - bg:=by simp
 exact⟨by omega,by omega,ij _,λh=>absurd rfl h,jN (vW a) (by decide)⟩
theorem ZE (d:∀x t,look x=some t->t.size<=16) (j:bg < R.cs.size):zq R bg (zj R look lg bg):=by
 have e:=Dl (look:=look) (lg:=lg) (s:=R.cs.extract bg R.cs.size);have f:=FK (look:=look) (lg:=lg) (s:=R.cs.extract bg R.cs.size) (by simp;omega);have k:(R.cs.extract bg R.cs.size).size=R.cs.size - bg:=by simp
 unfold zj;split
 .refine⟨by omega,by omega,ij _,λh=>absurd rfl h,?_⟩;have a:=wu (R.cs.extract bg (bg+1));have c:(R.cs.extract bg (bg+1)).size=1:=by simp;omega
  grind[Xq]
 .refine⟨by omega,by omega,ij _,λh=>absurd rfl h,?_⟩;have a:=wu (rI look lg (R.cs.extract bg R.cs.size));have c:=vW (look:=look) (lg:=lg) (s:=R.cs.extract bg R.cs.size) d
  grind[Xq]
def yU {k : RN} (f:bg < ps) (a:ps<=R.cs.size) (d:1<=vA k) (c:Xq k):zq R bg (.tok k (rn R ps)):=by
 have e:=Yo (R:=R) (ps:=ps);refine⟨by omega,IK a,d,λ_=>?_,c⟩;rcases Su a with h|⟨_,h⟩
 all_goals omega
def Td (c:∀x t,look x=some t->t.size<=16) (f:R.cs.size<=1024) (a:bg < R.cs.size) (d:bg < ps) (e:ps<=R.cs.size):zq R bg (mH R look lg bg ps):=by
 unfold mH;split
 .exact Yh c f _ a d
 .split
  .rename_i h;have:ps+1<=R.cs.size:=lx h e;exact⟨by omega,this,by decide,λ_=> .inr (by rw[Ke];exact XH h),trivial⟩
  .split
   .exact Es c a
   .exact yU d e (show 1<=4 by decide) trivial
def V6 (d:∀x t,look x=some t->t.size<=16) (j:R.cs.size<=1024) (c:bg < R.cs.size) (f:bg < ps) (a:ps<=R.cs.size):zq R bg (qR R look lg bg ps):=by
 unfold qR;split
 .exact Zx d j _ c f
 split
 .rename_i h;exact Td d j c (by omega) (lx h a)
 split
 .rename_i h;have e:ps+3<=R.cs.size:=lx h a;have l:=Vw (R:=R) (ps:=ps+3);refine⟨by omega,LF e,(show 1<=4 by decide),λ_=>?_,trivial⟩;rcases O0 e with h|⟨_,h⟩
  all_goals omega
 split
 .rename_i h;have k:ps+8<=R.cs.size:=PK h a;have:=ac9 (R:=R) (ps:=ps+8);exact yU (by omega) (Il k) (show 1<=5 by decide) trivial
 split
 .rename_i h;exact yU (by omega) (lx h a) (show 1<=4 by decide) trivial
 split
 .exact yU f a (show 1<=4 by decide) trivial
 .exact Es d c
def Jf (d:∀x t,look x=some t->t.size<=16) (f:R.cs.size<=1024) (e:ps < R.cs.size):zq R ps (kT R look lg ps)/\(∀c m,kT R look lg ps= .tok c m->vA c≠1->bt R.cs ps=60):=by
 unfold kT;rw[gR (by omega)];split
 .split
  .rename_i h;refine⟨V6 (R:=tL R ps) d f e (by omega) (lx h (by omega)),λ_ _ _ _=>?_⟩;have:=Er (j:=0) h (by decide);rw[Nat.add_zero]at this;exact this.trans rfl
  .refine⟨Es (R:=tL R ps) d e,λc m h a=>?_⟩;unfold vw at h;obtain⟨rfl,_⟩:=zS.tok.inj h;exact absurd rfl a
 .refine⟨ZE (R:=tL R ps) d e,λc m h a=>?_⟩;unfold zj at h;split at h
  .obtain⟨rfl,_⟩:=zS.tok.inj h;exact absurd rfl a
  .obtain⟨rfl,_⟩:=zS.tok.inj h;exact absurd rfl a
def P9:kT R look lg R.cs.size= .tok .VM R.cs.size:=by simp[kT]
def Xq.tok {k : RN} (h:Xq k) (a b:Nat):(qf a b k).k= .lost\/uT (qf a b k):=by
 cases k with
 |lost=>simp[qf]
 |XR t=>exact .inr ⟨h,rfl,by simp[qf]⟩
 |Th nm L=>exact .inr ⟨(by decide:(0:Nat)<=100),by unfold wC;exact List.all_eq_true.2 (λp c=>vn (h.2 p c)),by simp[qf]⟩
 |fin nm L=>exact .inr ⟨(by decide:(0:Nat)<=100),by unfold wC;exact List.all_eq_true.2 (λp c=>vn (h.2 p c)),by simp[qf]⟩
 |VM=>exact .inr ⟨(by decide:(0:Nat)<=100),rfl,by simp[qf]⟩
 |Xd t=>exact .inr ⟨(by decide:(0:Nat)<=100),rfl,by simp[qf]⟩
 |dtp n q=>exact .inr ⟨(by decide:(0:Nat)<=100),rfl,by simp[qf]⟩
def Xq.len {k : RN} (h:Xq k) (a b:Nat):(qf a b k).gV.length<=1024:=by
 cases k with
 |Th nm L=>exact h.1
 |fin nm L=>exact h.1
 |_=>simp[qf]
def PV (k:Nat) (w:gw):
  Calls prog 33 #[.iface 62 (gL k)] w λe w'=>e=ir (gL k)/\w'=w:=by
 have c:∀(v:gP) (a:TypeId) (w:gw),(Instr.typeAssert (.iface 62 v) a 62 true).run prog w= .ok (.tuple #[v,.bool true]) w:=λv a w=>by
  simp[Instr.typeAssert,pO underlying62]
 go_enter func33,ntmps33;go_wp2;go_ret;simp
theorem D4 (a d:Nat) (k:Nat) (w:gw) (v:gP) (h:w.heap[a]?=some (gJ #[v,.pointer none] 59)) (m:w.heap[d]?=some (gJ #[.pointer none] 62)) (l:a≠d) (j:d≠a):
  CallsD prog 32 #[gL a,gL d] (.panicking [{v:= .iface 62 (gL k),recovered:=false}]) w λe z w'=>
   e=p8/\z= .panicking [{v:= .iface 62 (gL k),recovered:=true}]/\w'.heap[a]?=some (gJ #[jX,.pointer none] 59)/\w'.heap[d]?=some (gJ #[gL k] 62)/\Kept [a,d] w w':=by
 have u:=fX h 0;have x:=fX h 1;have y:=fX m 0;have B:=gG h 0;have D:=gG h 1;have E:=gG m 0;dsimp at u x y;have p:Hid (∃W,W=((w.setCell ⟨a,0,none⟩ (jX)).setCell ⟨a,1,none⟩ (.pointer none)).setCell ⟨d,0,none⟩ (gL k)/\W.heap[a]?=some (gJ #[jX,.pointer none] 59)/\W.heap[d]?=some (gJ #[gL k] 62)/\Kept [a,d] w W):=by
  refine⟨_,rfl,?_,?_,?_⟩
  .rw[Below.heap_setCell _ _ _ _ l];exact gh (gh h 0 _) 1 _
  .refine gh (c:=#[.pointer none]) ?_ 0 _;rw[Below.heap_setCell _ _ _ _ j,Below.heap_setCell _ _ _ _ j];exact m
  .exact(((Kept.refl [a,d] w).setCell (.inl (by simp)) _).setCell (.inl (by simp)) _).setCell (.inl (by simp)) _
 refine callsD_of_wpS func32 rfl λf A o=>?_;apply wpS_seq;apply wpS_region;simp[wpOpsS,go_sem,recoverD,o,ntmps32,Exit.thenS];have q:=o;refine wpS_of_wp ?_;have t:(#[gL a,gL d]++((Array.replicate 7 undef).setIfInBounds 1 (Value.iface 62 (gL k))).setIfInBounds 0 (Value.iface 62 (gL k)))=#[gL a,gL d,.iface 62 (gL k),.iface 62 (gL k),undef,undef,undef,undef,undef]:=rfl;rw[t]
 go_wp21
 refine(PV k _).mono ?_;rintro e w' ⟨rfl,rfl⟩;go_wp2;have o:=q;have⟨W,hW,h1,h2,h3⟩:=p;rw[<-hW];cases f
 simp_all[bodyPostS,results,results32]
def U2 (w:gw):Prop:=(∃m,w.cell? ⟨3,0,none⟩=some (gp m))/\3 < w.heap.size
def U2.kept (h:U2 w) (a:Kept [] w w'):U2 w':=by
 have⟨⟨m,hm⟩,hl⟩:=h;exact⟨⟨m,(a.cell (p:=⟨3,0,none⟩) hl (by simp)).trans hm⟩,lU hl a.size⟩
theorem Lk.map (h:Lk w b look):∃k j,w.heap[b]?=some (Obj.map k j):=by
 have l:=h.run ⟨#[]⟩ w rfl;have m:=pO (w:=w) (show prog.underlying 127=some (.map 9 185) by simp);have a:∀o,w.heap[b]?=some o->(∀c e f,o≠ .cells c e f)->(getObj b).run prog w= .ok o w:=by
  intro o q t;cases o with
  |cells c e f=>grind
  |_=>simp[getObj,Sem.run,q]
 cases hb:w.heap[b]? with
 |none=>
  have p:=h.lt
  grind
 |some o=>
  cases o with
  |map k j=>simp
  |cells c e f=>
   exfalso;have d:(getObj b).run prog w= .halt (Halt.stuck "getObj: a row of cells") w:=by simp[getObj,Sem.run,hb]
   simp[Instr.lookup,m,d,Result.andThen]at l
  |_=>
   exfalso;have d:=a _ hb (by simp);simp[Instr.lookup,m,d,Result.andThen,Go.stuck,Sem.run]at l
def Fr.map (h:Fr bs w w') (e:w.heap[b]?=wl.heap[b]?) (a:Lk wl b look):w'.heap[b]?=w.heap[b]?:=h.calm (.inl (by rw[e];exact a.map))
theorem KT.map {T : List TypeId} (h:KT bs T w w') (e:w.heap[b]?=wl.heap[b]?) (c:Lk wl b look):w'.heap[b]?=w.heap[b]?:=by
 have⟨es,ck,hm⟩:=c.map;rw[<-e]at hm;have⟨S,hk,hS⟩:=h;have a:b < w.heap.size:=(Array.getElem?_eq_some_iff.1 hm).1;refine hk.block b a λd=>?_
 grind
inductive Z5 where
 |stop (e p:Nat)
 |done (σ:Ab) (L:List Sp)
 |stuck
def yj (R:RC) (σ:Ab) (ps:Nat) (t:gN):Ab:={σ with fresh:=t.rJ,nC:=(Ao (QR R σ.nC σ.iZ) ps).nC}
def nL (R:RC) (look:gz->Option gz) (lg:Nat) (cut:Nat->Nat):Nat->Nat->Ab->List Sp->Z5
 |0,_,_,_=> .stuck
 |n+1,ps,σ,L=>match kT (QR R σ.nC σ.iZ) look lg ps with
  | .stop=> .stop 7 (cut ps)
  | .tok k m=>match uD (hH false uI) (qf (cut ps) (cut m) k) (yj R σ ps (qf (cut ps) (cut m) k))with
   | .stop e p=> .stop e p
   | .stuck=> .stuck
   | .ok _ σ'=>if vA k=0 then .done σ' L else nL R look lg cut n m σ' (sx L ⟨(vA k:Int),cut ps,cut m⟩)
structure RgV (w:gw) (bm bB bD r b:Nat) (C:jO) (R:RC) (g cap:Nat) (cut:Nat->Nat) (base:Nat) (wl:gw) (ps bg:Nat) (σ:Ab) (v:gP) (L:List Sp) (wr:gw):Prop where
 rel:∃fl w0 tv ta,fl 0=bD/\RF (Pn w.heap.size bm bB r C R bg ps w0 tv ta) fl σ wr
 gM:Ly wr r R g cap cut
 aty:∃cA,wr.heap[g]?=some (gJ cA 3)
 lk:wr.heap[b]?=wl.heap[b]?
 tb:wr.heap[w.heap.size+1]?=some (gJ #[v,.pointer none] 59)
 sb:wr.heap[w.heap.size+2]?=some (gJ #[.pointer none] 62)
 own:wr.ownsRow base 106 3 v L.length (ox L)
 kept:Kept [] w wr
 le:ps<=R.cs.size
 len:L.length<=ps
 TP:w.heap.size<=base/\base<=wr.heap.size
 rge:w.heap.size<=r
 pos:0 < σ.nodes.length
theorem RgV.next {G : Nat} {base : Nat} {L : List Sp} {wr d : gw} (h:RgV w bm bB G r b C R g cap cut base wl ps bg σ v L wr) (l:Kept [r] wr d) {p x : Nat} {o : gz} (Q:Rd d r (QR R o σ.iZ) p x) (N:b≠r) (A:b < wl.heap.size)
  (B:wl.heap.size<=wr.heap.size) (j:gP) (f:kY) (E:yB d j f) (D:f.length<=4096) (I:Bool) (u:∀g,j.ownBlock=some g->wr.heap.size<=g):
  (∃y,y 0=G/\RF (Pn w.heap.size bm bB r C R p x d j f) y {σ with fresh:=I,nC:=o} d)/\Ly d r R g cap cut/\(∃z,d.heap[g]?=some (gJ z 3))/\d.heap[b]?=wl.heap[b]?/\d.heap[w.heap.size+1]?=some (gJ #[v,.pointer none] 59)/\d.heap[w.heap.size+2]?=some (gJ #[.pointer none] 62)/\d.ownsRow base 106 3 v L.length (ox L)/\Kept [] w d:=by
 have⟨y,w0,tv,ta,h0,hrf⟩:=h.rel;have m:=hrf.rdV;have F:∀{k:Nat} {c:jO} {t:TypeId},wr.heap[k]?=some (gJ c t)->t≠132->k∉[r]:=by
  intro k c t a J P;have e:=List.mem_singleton.1 P;subst e;unfold Rd at m;rw[m]at a;simp at a;exact J a.2.symm
 refine⟨⟨y,h0,hrf.UK [132] (.jT l (λk a _=>by
  have e:=List.mem_singleton.1 a;subst e;exact⟨⟨_,_,_,m,by simp⟩,h.rge⟩)) (λt _ J=>by grind) (by decide) Q j f E D I (λ_=>u) (λg O=>jN h.kept.size (u g O))⟩,h.gM.kept l,?_,(l.block b (lU A B) (by grind)).trans h.lk,l.at h.tb (F h.tb (by decide)),l.at h.sb (F h.sb (by decide)),l.ownsRow h.own ?_,h.kept.next l (by simpa using h.rge)⟩
 .have⟨z,hA⟩:=h.aty;exact⟨z,l.at hA (F hA (by decide))⟩
 .intro k a;rcases h.own.2 with⟨e,_⟩|⟨q,H,K,e,_,T,_⟩
  .rw[e]at a;cases a
  .rw[e]at a;have S:=jK a
   grind
def Hj (w:gw) (e:Ending) (w':gw):Z5->Prop
 | .stop c p=>∃k,e=ir (.tuple #[.agg #[jX,.pointer none],gL k])/\kG w' k c p/\Kept [] w w'
 | .done fin L=>∃v k E a,e=ir (.tuple #[.agg #[v,gL k],.pointer none])/\a 0=k/\RF E a fin w'/\w'.ownsRow w.heap.size 106 3 v L.length (ox L)/\L.length<=1024/\Kept [] w w'
 | .stuck=>False
theorem Q4 {W : gw} {k c p : Nat} (m:W.heap[w.heap.size+1]?=some (gJ #[v,.pointer none] 59)) (l:W.heap[w.heap.size+1+1]?=some (gJ #[.pointer none] 62)) (a:kG W k c p) (h:Kept [] w W) (f:Kept [w.heap.size+1,w.heap.size+1+1] W w'):kG w' k c p/\Kept [] w w':=by
 refine⟨f.at a ?_,h.next f (λx j=> .inr ?_)⟩
 .intro d;rcases List.mem_cons.1 d with e|d
  .rw[e]at a;unfold kG at a;grind
  .have e:=List.mem_singleton.1 d;rw[e]at a;unfold kG at a;grind
 grind
def YT (R:RC) (o:gz) (p:Bool) (ps:Nat):Ao (QR R o p) ps=QR R (Ao (QR R o p) ps).nC p:=by unfold Ao;split<;>rfl
theorem Zj (s:gz) (tv:gP) (base d f l:Nat) (w:gw) (ho:w.ownsRow base 5 1 tv s.size (jY s)) (hs:s.size<=1024) (hd:d<=64) (hf:f<=32) (hl:l<=16) (hT:xN w) (bj:U2 w) (ah:∀av b,nL (uM s l av b) (pK KV) 8 (kF s) ((zI s).size+1) 0 (S0 d f l 0) []≠ .stuck):
  Calls prog 22 #[tv,.agg #[gp d,gp f,gp l]] w λe w'=>∃av b,Hj w e w' (nL (uM s l av b) (pK KV) 8 (kF s) ((zI s).size+1) 0 (S0 d f l 0) []):=by
 have bO:∀(fn:Fn) (first cap:jO) (w:gw),(Instr.makeFunc fn first cap).run prog w= .ok (.func fn first cap) w:=λ_ _ _ _=>rfl;obtain⟨w0,Z⟩:∃w0,w0=((w.alloc (gJ #[gp d,gp f,gp l] 55)).alloc (gJ #[jX,.pointer none] 59)).alloc (gJ #[.pointer none] 62):=⟨_,rfl⟩;have a6:Kept [] w w0:=by rw[Z];exact(((Kept.refl _ _).alloc _).alloc _).alloc _
 have HZ:w0.heap.size=w.heap.size+3:=by rw[Z];simp
 have al:w0.heap[w.heap.size]?=some (gJ #[gp d,gp f,gp l] 55):=by
  rw[Z,Below.heap_alloc _ _ _ (by simp;omega),Below.heap_alloc _ _ _ (by simp)];exact fZ w _
 have be:w0.heap[w.heap.size+1]?=some (gJ #[jX,.pointer none] 59):=by
  rw[Z,Below.heap_alloc _ _ _ (by simp)];have:=fZ (w.alloc (gJ #[gp d,gp f,gp l] 55)) (gJ #[jX,.pointer none] 59)
  simpa using this
 have bf:w0.heap[w.heap.size+2]?=some (gJ #[.pointer none] 62):=by
  have:=fZ ((w.alloc (gJ #[gp d,gp f,gp l] 55)).alloc (gJ #[jX,.pointer none] 59)) (gJ #[.pointer none] 62);rw[Z];simpa using this
 have CN:=La s tv base (l:Int) w0 (a6.ownsRow ho (λ_ _=>by simp)) hs;have c0:=fX al 0;have c1:=fX al 1;have c2:=fX al 2;dsimp at c0 c1 c2;have⟨ao,cp,htv⟩:=gH ho;subst htv;have HW:=fW Z.symm;have aS:=hT;clear Z
 go_enter_defers func22,ntmps22
 go_wp21
 rw[HW.out];refine CN.mono ?_;rintro e w1 ⟨r,b,av,g,cap,rfl,hr,hb,bl,bd,b8,ba,aP,bi,X⟩;have g1:=X.at al (by simp);have d0:=fX g1 0;have d1:=fX g1 1;have d2:=fX g1 2;dsimp at d0 d1 d2;have bh:=aS.fr (bm:=0) (.gZ (a6.trans X));have CB:=adD (d:Int) (f:Int) (l:Int) (.func 36) #[gL r] #[] w1 bh;have HB:=And.intro hr (And.intro hb bl)
 go_wp21
 refine CB.mono ?_;rintro e V ⟨bm,bB,bD,rfl,hN⟩;have H:=hN.k;have aU:Rd V r (uM s l av b) 0 0:=bd.kept H (by simp);have⟨C,fl,hfl,hrf⟩:=adE w.heap.size bm bB bD r d f l w1 V (uM s l av b) hN aU rfl rfl hd hf hl (by grind) (by omega);obtain⟨R,hR⟩:∃R,R=uM s l av b:=⟨_,rfl⟩;have b9:R.cs=zI s:=by rw[hR];rfl
 have bP:R.nC=⟨#[]⟩:=by rw[hR];rfl
 have bQ:R.Y6=false:=by rw[hR];rfl
 have bt:R.mv= .map (some b):=by rw[hR];rfl
 have bo:R.lg=(8:Nat):=by rw[hR];rfl
 have bK:R.at_=(l:Int):=by rw[hR];rfl
 have b4:R.cs.size<=1024:=by rw[b9,AP];have:=GM s s.size;omega
 rw[<-hR]at hrf;obtain⟨O,hO⟩:∃O,O=nL R (pK KV) 8 (kF s) (R.cs.size+1) 0 (S0 d f l 0) []:=⟨_,rfl⟩;have HO:=hO.symm;have a8:Hid (∀e w',Hj w e w' O->∃av b,Hj w e w' (nL (uM s l av b) (pK KV) 8 (kF s) ((zI s).size+1) 0 (S0 d f l 0) [])):=λe w' h=>⟨av,b,by grind⟩;have bb:O≠ .stuck:=by rw[hO,hR];exact ah av b
 have bc:Hid (RgV w bm bB bD r b C R g cap (kF s) V.heap.size V 0 0 (S0 d f l 0) (jX) [] V):=fW
  {rel:=⟨fl,V,jX,[],hfl,hrf⟩
   lk:=rfl
   gM:=by have:=b8;rw[<-hR]at this;exact this.kept (H.mono (by simp))
   aty:=by have⟨cA,hA⟩:=bi;exact⟨cA,H.at hA (by simp)⟩
   tb:=H.at (X.at be (by simp)) (by simp)
   sb:=H.at (X.at bf (by simp)) (by simp)
   own:=oY _ _ _ _
   kept:=(a6.trans X).trans H
   le:=iP _
   len:=ij _
   TP:=⟨jN (jN a6.size X.size) H.size,ij _⟩
   rge:=by omega
   pos:=by simp[S0]}
 have z:=fW (ba.kept H (by simp));have aR:=bj;have bJ:=(a6.trans X).trans H
 go_wp21
 go_loopw [] (λwr=>∃n ps bg σ v L,RgV w bm bB bD r b C R g cap (kF s) V.heap.size V ps bg σ v L wr/\nL R (pK KV) 8 (kF s) n ps σ L=O/\R.cs.size - ps < n) (λwr=>R.cs.size - (match wr.cell? ⟨r,3,none⟩with|some v=>(intOf v).toNat|none=>0))
 case atStart=>exact⟨R.cs.size+1,0,0,_,_,[],bc,HO,by omega⟩
 case round=>
  have⟨n,ps,bg,σ,v,L,h1,HGO,hnn⟩:=hrel;obtain⟨n,rfl⟩:∃k,n=k+1:=⟨n - 1,by omega⟩;have b0:Rd wr r (QR R σ.nC σ.iZ) bg ps:=by have⟨_,_,_,_,_,hr⟩:=h1.rel;exact hr.rdV
  have P0:=b0.ps;have E:=h1;have bn:Gl wr r:=by
   have⟨N,hl⟩:=aR.kept h1.kept;exact⟨N,hl,λe=>by have:=h1.rge;have:=aR.2;omega⟩
  have bv:TC wr r (QR R σ.nC σ.iZ) g cap b 8 (pK KV) (kF s):=⟨⟨h1.gM.av,h1.gM.ne,h1.gM.lt,h1.gM.at_⟩,⟨⟨lU z.lt h1.TP.2,z.short,λbA w' e=>z.run bA w' (e.trans h1.lk)⟩,aP,bt,bo,by decide⟩,bn,b4⟩;have J:=adF r (QR R σ.nC σ.iZ) bg ps g cap b 8 (pK KV) (kF s) wr b0 bv h1.le;rw[YT]at J;have ae:ps < R.cs.size->zq (QR R σ.nC σ.iZ) ps (kT (QR R σ.nC σ.iZ) (pK KV) 8 ps):=λh=>(Jf (R:=QR R σ.nC σ.iZ) z.short b4 h).1;have az:ps=R.cs.size->kT (QR R σ.nC σ.iZ) (pK KV) 8 ps= .tok .VM R.cs.size:=λe=>by rw[e];exact P9 (R:=QR R σ.nC σ.iZ)
  have bH:=h1.le;rw[nL]at HGO;obtain⟨on,aZ⟩:∃on,on=(Ao (QR R σ.nC σ.iZ) ps).nC:=⟨_,rfl⟩;have b3:∀t,yj R σ ps t={σ with fresh:=t.rJ,nC:=on}:=λt=>by rw[aZ];rfl
  rw[<-aZ]at J;cases hT:kT (QR R σ.nC σ.iZ) (pK KV) 8 ps with
  |stop=>
   rw[hT]at J HGO;dsimp only at HGO;have CX:=fW J;have EO:=fW HGO.symm;clear J HGO
   go_wp21
   refine CX.mono ?_;rintro e w3 ⟨k,rfl,ah,bN,a3⟩;have⟨_,_,_,_,_,hrf⟩:=E.rel;have aC:=hrf.rdV;have ne:∀{k:Nat} {c:jO} {t:TypeId},wr.heap[k]?=some (gJ c t)->t≠132->k∉[r]:=by
    intro k c t a ht N;have e:=List.mem_singleton.1 N;subst e;unfold Rd at aC;rw[aC]at a;simp at a;exact ht a.2.symm
   have S:=a3.at E.tb (ne E.tb (by decide));have Q:w3.heap[w.heap.size+1+1]?=_:=a3.at E.sb (ne E.sb (by decide));have P:=E.kept.next a3 (by simpa using E.rge);have B:=And.intro S (And.intro Q (And.intro ah P));go_wp2;refine leaves_cons (f:=32) (args:=#[gL (w.heap.size+1),gL (w.heap.size+1+1)]) (by simp) (by simp[go_sem]) ?_;refine(D4 (w.heap.size+1) (w.heap.size+1+1) k w3 v B.1 B.2.1 (by omega) (by omega)).mono ?_;rintro e u' b6 ⟨rfl,rfl,t9,s9,k9⟩;have HF:=fW (Q4 B.1 B.2.1 B.2.2.1 B.2.2.2 k9);have q0:=fX t9 0;have q1:=fX t9 1;have q2:=fX s9 0;dsimp at q0 q1 q2;simp[Go.Leaves,settle,results,results22,go_sem,q0,q1,q2];refine a8 _ _ ?_;rw[EO.out];exact⟨k,rfl,HF.1,HF.2⟩
  |tok k m=>
   rw[hT]at J HGO;dsimp only at HGO;have bL:vA k=0->k= .VM:=by cases k<;>simp[vA]
   have bk:Xq k:=by
    rcases rA ps R.cs.size with h|h
    .have:=ae h;rw[hT]at this;exact this.2.2.2.2
    .have:=az (by omega);rw[hT]at this;obtain⟨rfl,_⟩:=zS.tok.inj this;trivial
   have br:vA k≠0->ps < m/\m<=R.cs.size:=by
    intro aL;rcases rA ps R.cs.size with h|h
    .have:=ae h;rw[hT]at this;exact⟨this.1,this.2.1⟩
    .have:=az (by omega);rw[hT]at this;obtain⟨rfl,_⟩:=zS.tok.inj this;exact absurd rfl aL
   have aA:=jN (bk.len (kF s ps) (kF s m)) (show 1024<=4096 by decide);rw[b3]at HGO;have CX:=fW J;clear J
   go_wp21
   refine CX.mono ?_;rintro e w3 ⟨⟨vv,rfl,bz⟩,a3,bw⟩;obtain⟨T,x,tv,rfl,hV,aF,bx,aX,aY⟩:=bz.is aA;have⟨⟨fl,hfl,hrf⟩,K,ai,ar,S,Q,aw,P⟩:=E.next a3 bw aP z.lt E.TP.2 tv _ aX aA (qf (kF s ps) (kF s m) k).rJ aY;obtain⟨t,ht⟩:∃t,t=qf (kF s ps) (kF s m) k:=⟨_,rfl⟩;have y:=HGO;rw[<-ht]at hrf hV y;have hD:=λhh=>Xp (Pn w.heap.size bm bB r C R ps m w3 tv t.gV) rfl rfl bx uI t (λ_=>rfl) fl _ w3 hrf hh;have aV:=hV (Pn w.heap.size bm bB r C R ps m w3 tv t.gV) rfl;cases hT1:uD (hH false uI) t {σ with fresh:=t.rJ,nC:=on} with
   |stuck=>rw[hT1]at y;exact absurd y.symm bb
   |stop c p=>
    have D:=hD (by rw[hT1];simp);rw[hT1]at D y;dsimp only at y;have EO:=fW y.symm;have C2:Hid (Calls prog 38 #[gL bB,.iface T x] w3 λe W=>∃j,e=qA j/\kG W j c p/\Fr w.heap.size w3 W):=fW (by rwa [aV]at D);have HQ:=fW (And.intro S (And.intro Q P));clear y HGO
    go_wp21
    refine C2.mono ?_;rintro e w4 ⟨k,rfl,ah,o⟩;have⟨S,Q,P⟩:=HQ;have U:=o.zv S (by decide);have a4:w4.heap[w.heap.size+1+1]?=_:=o.zv Q (by decide);have aq:=o.kept P (ij _);have B:=And.intro U (And.intro a4 (And.intro ah aq));go_wp2;refine leaves_cons (f:=32) (args:=#[gL (w.heap.size+1),gL (w.heap.size+1+1)]) (by simp) (by simp[go_sem]) ?_;refine(D4 (w.heap.size+1) (w.heap.size+1+1) k w4 v B.1 B.2.1 (by omega) (by omega)).mono ?_;rintro e u' b6 ⟨rfl,rfl,t9,s9,k9⟩;have HF:=fW (Q4 B.1 B.2.1 B.2.2.1 B.2.2.2 k9);have q0:=fX t9 0;have q1:=fX t9 1;have q2:=fX s9 0;dsimp at q0 q1 q2;simp[Go.Leaves,settle,results,results22,go_sem,q0,q1,q2];refine a8 _ _ ?_;rw[EO.out];exact⟨k,rfl,HF.1,HF.2⟩
   |ok u σ2=>
    have D:=hD (by rw[hT1];simp);rw[hT1]at D y;dsimp only at y;have aB:0 < ({σ with fresh:=t.rJ,nC:=on}:Ab).nodes.length:=E.pos;have C2:Hid (Calls prog 38 #[gL bB,.iface T x] w3 λe W=>e=p8/\∃an,an 0=bD/\RF (Pn w.heap.size bm bB r C R ps m w3 tv t.gV) an σ2 W/\Fr w.heap.size w3 W/\0 < σ2.nodes.length):=
     fW (by
      rw[aV]at D;exact D.mono (λe W hL=>by
       have⟨an,h5,h6,h7,h8,h9⟩:=hL;exact⟨h7,an,(h5 0 aB).trans hfl,h8,h9,lU aB h6⟩))
    have HQ:=fW (And.intro K (And.intro ai (And.intro ar (And.intro S (And.intro Q (And.intro aw P))))));have aT:=a3.size;clear HGO
    go_wp21
    refine C2.mono ?_;rintro e w4 ⟨rfl,aG,ab,ag,o,aM⟩;have⟨K,ai,ar,S,Q,aw,P⟩:=HQ;have bE:w4.heap[b]?=V.heap[b]?:=(o.map ar z).trans ar;have U:=o.zv S (by decide);have a4:=o.zv Q (by decide);have aq:=o.kept P (ij _);have⟨cA,hA3⟩:=ai;have aH:=o.zv hA3 (by decide);have aW:Ly w4 r R g cap (kF s):=⟨K.av,K.ne,jn aH,λi hi=>by rw[fX aH,<-fX hA3];exact K.at_ i hi⟩;have aN:w4.ownsRow V.heap.size 106 3 v L.length (ox L):=by
     refine⟨aw.1,?_⟩;rcases aw.2 with e|⟨q,a0,am,e,h1,hc,r'⟩
     .exact .inl e
     .exact .inr ⟨q,a0,am,e,h1,o.zv hc (by decide),r'⟩
    have ay:V.heap.size<=w4.heap.size:=jN E.TP.2 (jN aT o.size);have a5:=aF.kind w4
    by_cases ap:vA k=0
    .rw[ap]at a5;have CK:=fW a5;have aJ:=y;rw[gF ap]at aJ;have EO:=fW aJ.symm;clear a5 aJ;have CD:=O7 _ _ _ _ ag;have eD:nV aG 0=gL bD:=by unfold nV;rw[ab]
     rw[eD]at CD;have⟨ax,ac,hv⟩:=gH aN;subst hv;have c0:=fX U 0;have c1:=fX U 1;have c2:=fX (show w4.heap[w.heap.size+1+1]?=_ from a4) 0;have f0:=gG U 0;have f1:=gG U 1;have f2:=gG (show w4.heap[w.heap.size+1+1]?=_ from a4) 0;dsimp at c0 c1 c2;have HX:=fW (And.intro U (And.intro a4 (And.intro aN (And.intro aq (And.intro ag ab)))))
     go_wp21
     refine CK.mono ?_;rintro e w5 ⟨rfl,rfl⟩
     go_wp21
     refine CD.mono ?_;rintro e w5 ⟨rfl,rfl⟩;have⟨tb5,sb5,ow5,kw5,hrf5,ad⟩:=HX;have aL:w.heap.size+1+1≠w.heap.size+1:=by omega
     have G:(w5.setCell ⟨w.heap.size+1,1,none⟩ (gL bD)).heap[w.heap.size+1]?=some (gJ #[.slice ax L.length ac,gL bD] 59):=gh tb5 1 _;have aj:(w5.setCell ⟨w.heap.size+1,1,none⟩ (gL bD)).heap[w.heap.size+1+1]?=some (gJ #[.pointer none] 62):=(Below.heap_setCell _ _ _ _ aL).trans sb5;have E1:=fW (pA G 0 (.slice ax L.length ac) rfl);have E2:=fW (pA G 1 (gL bD) rfl);have E3:=fW (pA aj 0 (.pointer none) rfl);have q0:=fX G 0;have q1:=fX G 1;have q2:=fX aj 0;dsimp at q0 q1 q2;have A:Kept [w.heap.size+1] w5 (w5.setCell ⟨w.heap.size+1,1,none⟩ (gL bD)):=(Kept.refl _ _).setCell (.inl (by simp)) _;have a1:Rd w5 r (QR R σ2.nC σ2.iZ) ps m:=hrf5.rdV;have bu:r∉[w.heap.size+1]:=by
      intro N;have e:=List.mem_singleton.1 N;unfold Rd at a1;rw[e,tb5]at a1;simp at a1
     have a2:=hrf5.UK [59] (.jT A (λk a _=>by
      have e:=List.mem_singleton.1 a;subst e;exact⟨⟨_,_,_,tb5,by simp⟩,by omega⟩)) (by decide) (by decide) (a1.kept A bu) (jX) [] (oY _ _ _ _) (iP _) σ2.fresh (λ_ g hg=>by simp[Value.ownBlock]at hg) (λg hg=>by simp[Value.ownBlock]at hg)
     have HF:Hid (Hj w (ir (.tuple #[.agg #[.slice ax L.length ac,gL bD],.pointer none])) (w5.setCell ⟨w.heap.size+1,1,none⟩ (gL bD)) O):=by
      rw[EO.out];refine fW ⟨_,bD,_,aG,rfl,ad,a2,?_,by have:=E.len;omega,kw5.setCell (.inr (by simp)) _⟩;refine jV (A.ownsRow ow5 (λq hq=>?_)) E.TP.1;intro N;have e:=List.mem_singleton.1 N;subst e;rcases ow5.2 with⟨e2,_⟩|⟨q,a0,am,e2,_,hc,_⟩
      .rw[e2]at hq;cases hq
      .rw[e2]at hq;have e3:=jK hq;subst e3;rw[tb5]at hc;simp at hc
     go_wp2;rw[E1.out,E2.out,E3.out];refine leaves_cons (f:=32) (args:=#[gL (w.heap.size+1),gL (w.heap.size+1+1)]) (by simp) (by simp[go_sem]) ?_;refine(Qy ⟨w.heap.size+1,0,none⟩ ⟨w.heap.size+1+1,0,none⟩ _).mono ?_;rintro e u' b6 ⟨rfl,rfl,rfl⟩;simp[Go.Leaves,settle,results,results22,go_sem,q0,q1,q2];exact a8 _ _ HF
    .have bq:=br ap;have CK:=fW a5;have aQ:=y;rw[gR ap]at aQ;have bM:((vA k:Int)==0)=false:=beq_eq_false_iff_ne.2 (by omega);have b7:L.length<=1024:=by have:=E.len;have:=E.le;omega
     clear a5;have bp:=aF.ig;have bG:=aF.nil;have CY:=OX (kF s ps:Int) (kF s m:Int) w4;have ay:V.heap.size<=w4.heap.size:=jN E.TP.2 (jN aT o.size);have HX:=fW (And.intro aW (And.intro aH (And.intro bE (And.intro U (And.intro a4 (And.intro aN (And.intro aq (And.intro ag (And.intro ab ay)))))))))
     go_wp21
     refine CK.mono ?_;rintro e w5 ⟨rfl,rfl⟩
     go_wp21
     refine CY.mono ?_;rintro e w6 ⟨rfl,A⟩;have⟨hat5,hA5,lk5,tb5,sb5,ow5,kw5,hrf5,ad,big5⟩:=HX;have G:=A.at tb5 (by simp);have F:=A.ownsRow ow5 (λ_ _=>by simp);have⟨ax,ac,hv⟩:=gH F;subst hv;have c6:=fX G 0;dsimp at c6;have CA:=ON V.heap.size _ L ⟨(vA k:Int),kF s ps,kF s m⟩ w6 F (jN big5 A.size) (by omega);have HP:=fW (And.intro (hat5.kept (A.mono (by simp))) (And.intro (A.at hA5 (by simp)) (And.intro ((A.block b (lU z.lt big5) (by simp)).trans lk5) (And.intro G (And.intro (A.at sb5 (by simp)) (And.intro F (And.intro (kw5.trans A) (And.intro (hrf5.im A) (And.intro ad (jN big5 A.size))))))))))
     go_wp21
     refine CA.mono ?_;rintro e w7 ⟨v7,rfl,aO,I⟩;have⟨hat6,hA6,lk6,G,aj,F,kw6,a2,hfl6,big6⟩:=HP;have ne:∀{k:Nat} {c:jO} {t:TypeId},w6.heap[k]?=some (gJ c t)->t≠106->k∉(Value.slice ax L.length ac).ownBlock.toList:=by
      intro k c t a ht N;rcases F.2 with⟨e2,_⟩|⟨q,a0,am,e2,_,hc,_⟩
      .rw[e2]at N;simp[Value.ownBlock]at N
      .rw[e2]at N;simp[Value.ownBlock]at N;subst N;rw[a]at hc;simp at hc;exact ht hc.2
     have aD:=a2.rdV;have bF:w7.heap[b]?=V.heap[b]?:=(KT.map (bs:=w.heap.size) (T:=[106]) (.jT I (λk a _=>by
      obtain⟨c,m,hc⟩:=rX F (by simpa using a);exact⟨⟨_,_,_,hc,by simp⟩,by have h7:=(F.lt k (by simpa using a)).1;have h8:=E.TP.1;omega⟩)) lk6 z).trans lk6
     have ak:=I.at G (ne G (by decide));have b5:=I.at aj (ne aj (by decide));have a9:=I.at hA6 (ne hA6 (by decide));have af:Rd w7 r (QR R σ2.nC σ2.iZ) ps m:=I.at aD (ne aD (by decide));have aa:Ly w7 r R g cap (kF s):=⟨hat6.av,hat6.ne,jn a9,λi hi=>by rw[fX a9,<-fX hA6];exact hat6.at_ i hi⟩;have bC:Kept [] w w7:=kw6.next I (λx hx=> .inr (by have h7:=(F.lt x (by simpa using hx)).1;have h8:=E.TP.1;omega));have b1:=a2.UK [106] (.jT I (λk a _=>by
      obtain⟨c,m,hc⟩:=rX F (by simpa using a);exact⟨⟨_,_,_,hc,by simp⟩,by have h7:=(F.lt k (by simpa using a)).1;have h8:=E.TP.1;omega⟩)) (by decide) (by decide) af (jX) [] (oY _ _ _ _) (iP _) σ2.fresh (λ_ g hg=>by simp[Value.ownBlock]at hg) (λg hg=>by simp[Value.ownBlock]at hg)
     have⟨a7,p7,hv7⟩:=gH aO;subst hv7;have c7:=fX ak 0;have f7:=gG ak 0;dsimp at c7;have Y:Kept [w.heap.size+1] w7 (w7.setCell ⟨w.heap.size+1,0,none⟩ (.slice a7 (sx L ⟨(vA k:Int),kF s ps,kF s m⟩).length p7)):=(Kept.refl _ _).setCell (.inl (by simp)) _;have au:∀{k:Nat} {c:jO} {t:TypeId},w7.heap[k]?=some (gJ c t)->t≠59->k∉[w.heap.size+1]:=by
      intro k c t a ht N;have e:=List.mem_singleton.1 N;subst e;rw[ak]at a;simp at a;exact ht a.2.symm
     have aE:Rd (w7.setCell ⟨w.heap.size+1,0,none⟩ (.slice a7 (sx L ⟨(vA k:Int),kF s ps,kF s m⟩).length p7)) r (QR R σ2.nC σ2.iZ) ps m:=Y.at af (au af (by decide));have b2:=b1.UK [59] (.jT Y (λk a _=>by
      have e:=List.mem_singleton.1 a;subst e;exact⟨⟨_,_,_,ak,by simp⟩,by omega⟩)) (by decide) (by decide) aE (jX) [] (oY _ _ _ _) (iP _) σ2.fresh (λ_ g hg=>by simp[Value.ownBlock]at hg) (λg hg=>by simp[Value.ownBlock]at hg)
     have aI:=Y.at a9 (au a9 (by decide));have HE:Hid (RgV w bm bB bD r b C R g cap (kF s) V.heap.size V m ps σ2 (.slice a7 (sx L ⟨(vA k:Int),kF s ps,kF s m⟩).length p7) (sx L ⟨(vA k:Int),kF s ps,kF s m⟩) (w7.setCell ⟨w.heap.size+1,0,none⟩ (.slice a7 (sx L ⟨(vA k:Int),kF s ps,kF s m⟩).length p7))):=fW
      {rel:=⟨aG,_,_,_,hfl6,b2⟩
       lk:=by
        rw[Y.block b (lU z.out.lt (jN big6 I.size)) (by
         intro N;have e:=List.mem_singleton.1 N;omega)]
        exact bF
       gM:=⟨aa.av,aa.ne,jn aI,λi hi=>by rw[fX aI,<-fX a9];exact aa.at_ i hi⟩
       aty:=⟨_,aI⟩
       tb:=gh ak 0 _
       sb:=Y.at b5 (au b5 (by decide))
       own:=Y.ownsRow aO (λq hq=>by
        rcases aO.2 with⟨e2,_⟩|⟨q',a0,am,e2,_,hc,_⟩
        .rw[e2]at hq;cases hq
        .rw[e2]at hq;have e3:=jK hq;subst e3;exact au hc (by decide))
       kept:=bC.setCell (.inr (by simp)) _
       le:=bq.2
       pos:=aM
       len:=by have h8:=Vg L ⟨(vA k:Int),kF s ps,kF s m⟩;have h9:=E.len;omega
       TP:=⟨E.TP.1,jN (jN big6 I.size) Y.size⟩
       rge:=E.rge}
     have P8:=aE.ps;have aK:R.cs.size - m < R.cs.size - ps:=by omega
     generalize hlq:(sx L ⟨(vA k:Int),kF s ps,kF s m⟩).length=bI at *;go_wp2;go_roundw
     case rel=>exact⟨n,m,ps,σ2,_,_,HE,aQ,by omega⟩
     case measure=>rw[P8,P0];simpa [intOf]using aK
end
end Go.Proofs.YtofkkmcdggkkpaaGreatDoor
