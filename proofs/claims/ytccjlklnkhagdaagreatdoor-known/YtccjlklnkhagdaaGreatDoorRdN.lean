import Derived.Test.YtccjlklnkhagdaaGreatDoorAtA
import Derived.RegionDies
set_option linter.unusedSimpArgs false
set_option linter.unusedVariables false
set_option linter.defProp false
set_option maxHeartbeats 0
set_option maxRecDepth 100000
namespace Go.Proofs.YtccjlklnkhagdaaGreatDoor
open Go.RowKit Go.PlainAid Tryz
def xq:=@Array.length_toList
def SX:=@Array.eq_empty_of_size_eq_zero
def NY:=@Lib.run_neq_ptr_same
def Ch:=@Lib.size_eq
def y6:=@Eq.trans
def Ci:=@List.head?_eq_getElem?
def EX:=@List.take_sublist
def SY:=@List.mem_erase_of_ne
def EY:=@List.getElem?_of_mem
def y7:=@Nat.le_add_right
section
variable {Q : Unit->Ab->Prop} {R : RC} {a o xs ys : kL} {b bg c c' f g i j lg m n pf ps : Nat} {cut r : Nat->Nat} {e : zz} {inV : Bool} {ks : List Nd} {look : gn->Option gn} {pl : Nat×Nat} {s : gn} {t : gz} {v : gG} {w w' : gr} {x y z : jb} {σ σ' : Ab}
def vM (base:Int) (s:gn) (i:Nat):Nat:=scan (λc=>decide (kN c>=base)) s i
def oF (base:Int) (s:gn) (f:Nat):Nat:=
 if vM base s f=f then 0 else if vM base s f < s.size/\bt s (vM base s f)=59 then vM base s f+1 else vM base s f
def Ln (s:gn):Bool:=decide (2 < s.size/\(bt s 2=120\/bt s 2=88))
def uj (s:gn):Nat:=if Ln s=true then oF 16 s 3 else oF 10 s 2
theorem Lv {base : Int} (h:f<=s.size):oF base s f<=s.size:=by
 have:=pt (q:=λc=>decide (kN c>=base)) h;unfold oF;grind[vM]
def Sb (h:2<=s.size):uj s<=s.size:=by
 unfold uj;split
 .rename_i d;unfold Ln at d;simp at d;exact Lv (by omega)
 .exact Lv h
def vV (base:Int) (s:gn) (k:Int) (i:Nat):Int:=
 if i < s.size then (if kN (bt s i)>=base then k else vV base s (min (k*base+kN (bt s i)) 1114112) (i+1))else k
  termination_by s.size - i
def Pz {base : Int} {k : Int} (h:¬i < s.size):vV base s k i=k:=by rw[vV,gI h]
theorem Lw {base : Int} {k : Int} (h:i < s.size) (d:kN (bt s i)>=base):vV base s k i=k:=by grind[vV]
theorem TS {base : Int} {k : Int} (h:i < s.size) (d:¬kN (bt s i)>=base):vV base s (min (k*base+kN (bt s i)) 1114112) (i+1)=vV base s k i:=by grind[vV]
def Nf (base:Int) (s:gn) (f:Nat):gn:=if oF base s f=0 then ⟨#[]⟩else Utf8.encode (N1 (vV base s 0 f))
def uk (s:gn):gn:=if Ln s=true then Nf 16 s 3 else Nf 10 s 2
def MA (c:Int):(Utf8.encode c).size<=16:=by
 unfold Utf8.encode;dsimp only;generalize (if Utf8.valid c=true then c.toNat else Utf8.runeError)=k
 repeat' split
 all_goals first|(show 1<=16;omega)|(show 2<=16;omega)|(show 3<=16;omega)|(show 4<=16;omega)
def Kn (s:gn):(uk s).size<=16:=by
 unfold uk Nf
 repeat' split
 all_goals first|exact MA _|(show 0<=16;omega)
theorem qM {t k : gn} {d : Nat} {m : Int} (h:t=k) (l:n=d) (p:m=(d:Int)):Ending.returned (.tuple #[gw t,ga m])=ir (.tuple #[gw k,ga n]):=by grind
theorem IZ (s:gn) (w:gr) (hs:s.size<=1048576) (h2:2<=s.size):
  Calls prog 252 #[gw s] w λe w'=>e=ir (.tuple #[gw (uk s),ga (uj s)])/\w'=w:=by
 have a0:=get_bt s;obtain⟨Z,a1,a5⟩:∃Z:Int->gn,(∀c,Z c=Utf8.encode c)/\∀(c:Int) (w:gr),(convert 21 9 (.int .i32 c)).run prog w= .ok (gw (Z c)) w:=⟨_,λ_=>rfl,λc w=>run_convert_int_string w 21 9 .i32 c (by simp) underlying9⟩;have N:=fN a1;clear a1;have D:=(λc (S:0<=c) (T:c<=255)=>U1 c w S T);have G:=(λn (S:0<=n) (T:n<=1114112)=>JU n w S T);by_cases Y:Ln s=true
 .have e:uj s=oF 16 s 3:=by unfold uj;rw[gN Y]
  have e':uk s=Nf 16 s 3:=by unfold uk;rw[gN Y]
  rw[e,e'];clear e e';unfold Ln at Y;have⟨X,P⟩:=of_decide_eq_true Y;clear Y;obtain⟨K,F⟩:∃x,x=oF 16 s 3:=⟨_,rfl⟩;obtain⟨L,J⟩:∃x,x=Nf 16 s 3:=⟨_,rfl⟩;have I:L=if K=0 then ⟨#[]⟩else Utf8.encode (N1 (vV 16 s 0 3)):=by rw[J,F,Nf]
  rw[<-F,<-J];have q:=fN F;have A:=fN I;clear F J I;rcases P with P|P
  all_goals
   go_enter func252,ntmps252;go_wp21
   go_loopw [6,7] (λnv iv wr=>wr=w/\∃(k:Int) (i:Nat),nv=ga k/\iv=ga i/\0<=k/\k<=1114112/\3<=i/\i<=s.size/\vM 16 s i=vM 16 s 3/\vV 16 s k i=vV 16 s 0 3) (λ_ iv _=>s.size - (intOf iv).toNat)
   case atStart=>grind
   case round=>
    obtain⟨rfl,k,i,rfl,rfl,U,V,a3,a4,hd,hv⟩:=hrel;have HD:=fN hd;have HV:=fN hv;clear hd hv;by_cases p:i < s.size
    .have hb:=a0 i p;have S:=bt_nonneg s i;have T:=bt_le s i;have r:=Cz (bt s i);have C:=D (bt s i) S T;by_cases O:kN (bt s i)>=16
     .have e1:vM 16 s i=i:=Jc (by simpa using O);have e2:vM 16 s 3=i:=by rw[<-HD.out,e1]
      have E:vV 16 s 0 3=k:=by rw[<-HV.out,Lw p O]
      by_cases H:i=3
      .have l:K=0:=by rw[q.out];unfold oF;rw[e2,gN H]
       have u:=fN l;have B:=fN (show L=⟨#[]⟩ by rw[A.out,gN l]);clear e1 e2 l E;subst H;go_wp21;refine C.mono ?_;rintro e w' ⟨rfl,rfl⟩;go_wp2;go_ret2;exact⟨qM B.symm u rfl,rfl⟩
      .have HG:=G k U V;by_cases W:bt s i=59;have l:K=i+1:=by rw[q.out];unfold oF;rw[e2,gI H,gN ⟨p,W⟩]
       have u:=fN l;have B:=fN (show L=Z (N1 k) by rw[A.out,gI (by omega),E,N.out]);rw[W]at C hb S T r O;rw[show kN 59=99 from by decide]at C;clear e1 e2 l E r O S T
       rotate_left
       have l:K=i:=by rw[q.out];unfold oF;rw[e2,gI H,gI (by omega)]
       have u:=fN l;have B:=fN (show L=Z (N1 k) by rw[A.out,gI (by omega),E,N.out]);clear e1 e2 l E
       all_goals
        go_wp21;refine C.mono ?_;rintro e w' ⟨rfl,rfl⟩;go_wp21;refine HG.mono ?_;rintro e w' ⟨rfl,rfl⟩;go_wp2;go_ret2;exact⟨qM B.symm u rfl,rfl⟩
     .have e1:vM 16 s (i+1)=vM 16 s 3:=by rw[<-HD.out];exact(Nv p (by simpa using O)).symm
      have HU:vV 16 s (min (k*16+kN (bt s i)) 1114112) (i+1)=vV 16 s 0 3:=by rw[TS p O,HV.out]
      have u:=fN e1;clear e1;generalize kN (bt s i)=d at *;go_wp21;refine C.mono ?_;rintro e w' ⟨rfl,rfl⟩;go_wp2
      all_goals (refine⟨⟨trivial,min (k*16+d) 1114112,i+1,?_,by go_num,by omega,by omega,by omega,by omega,u,HU⟩,?_⟩;(first|rfl|(congr 1;omega));(simp[intOf];omega))
    .have e1:vM 16 s i=i:=DF (by omega);have e2:vM 16 s 3=i:=by rw[<-HD.out,e1]
     have E:vV 16 s 0 3=k:=by rw[<-HV.out,Pz p]
     have HG:=G k U V;have e0:i=s.size:=by omega
     by_cases H:i=3
     .have l:K=0:=by rw[q.out];unfold oF;rw[e2,gN H]
      have u:=fN l;have B:=fN (show L=⟨#[]⟩ by rw[A.out,gN l]);clear e1 e2 l E e0;subst H
      first
       |(exfalso;omega)
       |(go_wp2
         go_ret2;exact⟨qM B.symm u rfl,rfl⟩)
     .have l:K=i:=by rw[q.out];unfold oF;rw[e2,gI H,gI (by omega)]
      have u:=fN l;have B:=fN (show L=Z (N1 k) by rw[A.out,gI (by omega),E,N.out]);clear e1 e2 l E e0;go_wp21;refine HG.mono ?_;rintro e w' ⟨rfl,rfl⟩;go_wp2;go_ret2;exact⟨qM B.symm u rfl,rfl⟩
 .have e:uj s=oF 10 s 2:=by unfold uj;rw[gI Y]
  have e':uk s=Nf 10 s 2:=by unfold uk;rw[gI Y]
  rw[e,e'];clear e e';have X:¬(2 < s.size/\(bt s 2=120\/bt s 2=88)):=by unfold Ln at Y;simpa using Y
  clear Y;obtain⟨K,F⟩:∃x,x=oF 10 s 2:=⟨_,rfl⟩;obtain⟨L,J⟩:∃x,x=Nf 10 s 2:=⟨_,rfl⟩;have I:L=if K=0 then ⟨#[]⟩else Utf8.encode (N1 (vV 10 s 0 2)):=by rw[J,F,Nf]
  rw[<-F,<-J];have q:=fN F;have A:=fN I;clear F J I;by_cases hz:2 < s.size
  .have P:¬bt s 2=120:=λh=>X ⟨hz,.inl h⟩;have a2:¬bt s 2=88:=λh=>X ⟨hz,.inr h⟩;have a6:(bt s 2==120)=false:=beq_eq_false_iff_ne.2 P;have a7:(bt s 2==88)=false:=beq_eq_false_iff_ne.2 a2;clear X P a2;go_enter func252,ntmps252;go_wp21
   go_loopw [6,7] (λnv iv wr=>wr=w/\∃(k:Int) (i:Nat),nv=ga k/\iv=ga i/\0<=k/\k<=1114112/\2<=i/\i<=s.size/\vM 10 s i=vM 10 s 2/\vV 10 s k i=vV 10 s 0 2) (λ_ iv _=>s.size - (intOf iv).toNat)
   case atStart=>grind
   case round=>
    obtain⟨rfl,k,i,rfl,rfl,U,V,a3,a4,hd,hv⟩:=hrel;have HD:=fN hd;have HV:=fN hv;clear hd hv;by_cases p:i < s.size
    .have hb:=a0 i p;have S:=bt_nonneg s i;have T:=bt_le s i;have r:=Cz (bt s i);have C:=D (bt s i) S T;by_cases O:kN (bt s i)>=10
     .have e1:vM 10 s i=i:=Jc (by simpa using O);have e2:vM 10 s 2=i:=by rw[<-HD.out,e1]
      have E:vV 10 s 0 2=k:=by rw[<-HV.out,Lw p O]
      by_cases H:i=2
      .have l:K=0:=by rw[q.out];unfold oF;rw[e2,gN H]
       have u:=fN l;have B:=fN (show L=⟨#[]⟩ by rw[A.out,gN l]);clear e1 e2 l E;subst H;go_wp21;refine C.mono ?_;rintro e w' ⟨rfl,rfl⟩;go_wp2;go_ret2;exact⟨qM B.symm u rfl,rfl⟩
      .have HG:=G k U V;by_cases W:bt s i=59;have l:K=i+1:=by rw[q.out];unfold oF;rw[e2,gI H,gN ⟨p,W⟩]
       have u:=fN l;have B:=fN (show L=Z (N1 k) by rw[A.out,gI (by omega),E,N.out]);rw[W]at C hb S T r O;rw[show kN 59=99 from by decide]at C;clear e1 e2 l E r O S T
       rotate_left
       have l:K=i:=by rw[q.out];unfold oF;rw[e2,gI H,gI (by omega)]
       have u:=fN l;have B:=fN (show L=Z (N1 k) by rw[A.out,gI (by omega),E,N.out]);clear e1 e2 l E
       all_goals
        go_wp21;refine C.mono ?_;rintro e w' ⟨rfl,rfl⟩;go_wp21;refine HG.mono ?_;rintro e w' ⟨rfl,rfl⟩;go_wp2;go_ret2;exact⟨qM B.symm u rfl,rfl⟩
     .have e1:vM 10 s (i+1)=vM 10 s 2:=by rw[<-HD.out];exact(Nv p (by simpa using O)).symm
      have HU:vV 10 s (min (k*10+kN (bt s i)) 1114112) (i+1)=vV 10 s 0 2:=by rw[TS p O,HV.out]
      have u:=fN e1;clear e1;generalize kN (bt s i)=d at *;go_wp21;refine C.mono ?_;rintro e w' ⟨rfl,rfl⟩;go_wp2
      all_goals (refine⟨⟨trivial,min (k*10+d) 1114112,i+1,?_,by go_num,by omega,by omega,by omega,by omega,u,HU⟩,?_⟩;(first|rfl|(congr 1;omega));(simp[intOf];omega))
    .have e1:vM 10 s i=i:=DF (by omega);have e2:vM 10 s 2=i:=by rw[<-HD.out,e1]
     have E:vV 10 s 0 2=k:=by rw[<-HV.out,Pz p]
     have HG:=G k U V;have e0:i=s.size:=by omega
     by_cases H:i=2
     .have l:K=0:=by rw[q.out];unfold oF;rw[e2,gN H]
      have u:=fN l;have B:=fN (show L=⟨#[]⟩ by omega);clear e1 e2 l E e0;subst H
      first
       |(exfalso;omega)
       |(go_wp2
         go_ret2;exact⟨qM B.symm u rfl,rfl⟩)
     .have l:K=i:=by rw[q.out];unfold oF;rw[e2,gI H,gI (by omega)]
      have u:=fN l;have B:=fN (show L=Z (N1 k) by rw[A.out,gI (by omega),E,N.out]);clear e1 e2 l E e0;go_wp21;refine HG.mono ?_;rintro e w' ⟨rfl,rfl⟩;go_wp2;go_ret2;exact⟨qM B.symm u rfl,rfl⟩
  .clear X;have n0:vM 10 s 2=2:=DF (by omega);have n1:K=0:=by rw[q.out];unfold oF;rw[gN n0]
   have n2:L=⟨#[]⟩:=by rw[A.out,gN n1]
   have e0:s.size=2:=by omega
   have u:=fN n1;have B:=fN n2;clear n0 n1 n2;go_enter func252,ntmps252;go_wp21;refine Au 1 ?_;rw[rF];go_wp2;go_ret2;exact⟨qM B.symm u rfl,rfl⟩
def quoted (R:RC) (q:gn) (ps:Nat):Nat:=taken R q (scan (jl q) R.cs (ps+1))
def rU (R:RC) (ps:Nat):Nat:=
 if pre (R.cs.extract ps R.cs.size) oN=true then quoted R oN ps else if pre (R.cs.extract ps R.cs.size) sE=true then quoted R sE ps else scan (jl mi) R.cs ps
def LD {q : gn} (h:ps < R.cs.size):quoted R q ps<=R.cs.size:=QA (pt (by omega))
def LB {q : gn}:ps<=quoted R q ps:=jH (by omega) (jH (sQ (i:=ps+1)) Qz)
def Nj {p : gn} (h:pre (s.extract ps s.size) p=true) (d:ps<=s.size) (k:0 < p.size):ps < s.size:=by
 have:=lu h d;omega
def VN (h:ps<=R.cs.size):rU R ps<=R.cs.size:=by
 unfold rU;split
 .rename_i d;exact LD (Nj d h (by decide))
 .split
  .rename_i d;exact LD (Nj d h (by decide))
  .exact pt h
def VM:ps<=rU R ps:=by
 unfold rU;split
 .exact LB
 .split
  .exact LB
  .exact sQ
def mQ (R:RC) (ps:Nat):gn:=
 if pre (R.cs.extract ps R.cs.size) oN=true then R.cs.extract (ps+1) (scan (jl oN) R.cs (ps+1))else if pre (R.cs.extract ps R.cs.size) sE=true then R.cs.extract (ps+1) (scan (jl sE) R.cs (ps+1))else R.cs.extract ps (scan (jl mi) R.cs ps)
def BP:(mQ R ps).size<=R.cs.size:=by
 unfold mQ;repeat' split
 all_goals (simp;omega)
def IY (r:Nat) (R:RC) (bg ps:Nat) (q:gn) (G:q.size=1) (w w1:gr) (F:Kept [r] w w1) (h:Rd w1 r R bg (ps+1)) (B:ps+1<=R.cs.size) (C:R.cs.size<=1024):
  Calls prog 248 #[gF r,.func (.func 250) #[] #[gF w1.heap.size]] (w1.alloc (.cells #[gw q] 9))
   λe u=>e=ir (gw (R.cs.extract (ps+1) (scan (jl q) R.cs (ps+1))))/\
    Calls prog 81 #[gF r,gw q] u λe A=>(∃b,e=ir (.bool b))/\Kept [r] w A/\Rd A r R bg (quoted R q ps):=by
 refine(yX r R bg (ps+1) q w1 h B C).mono ?_;rintro e u ⟨D,d,l⟩;refine⟨D,?_⟩;refine(lx r R bg _ q u l (pt B) C (by omega)).mono ?_;rintro e A ⟨E,k,p⟩;exact⟨⟨_,E⟩,(F.trans d).trans k,p⟩
theorem Nr (r:Nat) (R:RC) (bg ps:Nat) (w:gr) (h:Rd w r R bg ps) (L:ps<=R.cs.size) (N:R.cs.size<=1024):
  Calls prog 355 #[gF r] w λe w'=>e=ir (gw (mQ R ps))/\Kept [r] w w'/\Rd w' r R bg (rU R ps):=by
 have hr:=je h;obtain⟨F,u⟩:∃F,F=w.alloc (.cells #[gw oN,gw sE] 9):=⟨_,rfl⟩;have P:Kept [] w F:=by rw[u];exact(Kept.refl _ _).alloc _
 have S:F.heap[w.heap.size]?=some (gy #[gw oN,gw sE] 9):=by rw[u];exact fQ w _
 have r0:Rd F r R bg ps:=P.at h (by simp);have z0:w.heap.size < F.heap.size:=je S;have HW:=fN u.symm;clear u;have I:=lx r R bg ps oN F r0 L N (by decide);have J:=(λw' (h:Rd w' r R bg ps)=>lx r R bg ps sE w' h L N (by decide));have c0:=fO S 0;dsimp at c0;have HB:=fN S;have HZ:=fN z0;clear h S z0 r0;cases h1:pre (R.cs.extract ps R.cs.size) oN
 .have H:taken R oN ps=ps:=by unfold taken;rw[gI (by simp[h1])]
  rw[h1,H]at I;cases h2:pre (R.cs.extract ps R.cs.size) sE
  .have O:taken R sE ps=ps:=by unfold taken;rw[gI (by simp[h2])]
   rw[h2,O]at J;have A:rU R ps=scan (jl mi) R.cs ps:=by unfold rU;rw[gI (by simp[h1]),gI (by simp[h2])]
   have U:=(λw' (h:Rd w' r R bg ps)=>yX r R bg ps mi w' h L N);rw[<-A]at U;have B:mQ R ps=R.cs.extract ps (rU R ps):=by unfold mQ;rw[gI (by simp[h1]),gI (by simp[h2]),A]
   rw[B];clear h1 h2 H O A B;generalize rU R ps=m at *;go_enter func355,ntmps355;go_wp21;refine Au 3 ?_;rw[rF,HW.out];go_wp21;refine I.mono ?_;rintro e q ⟨rfl,k,D⟩;have c1:q.cell? ⟨w.heap.size,1,none⟩=some (gw sE):=by rw[k.cell (p:=⟨w.heap.size,1,none⟩) HZ.out (by simp;omega),fO HB.out];rfl
   have C:=(P.mono (S':=[r]) (by simp)).trans k;clear k;go_wp21;rw[rF];go_wp21;refine(J _ D).mono ?_;rintro e G ⟨rfl,d,X⟩;have T:=C.trans d;clear d;go_wp21;rw[rF];go_wp21;refine(oG _ G).mono ?_;rintro e w' ⟨rfl,rfl⟩;go_wp21;refine(U _ X).mono ?_;rintro e w3 ⟨rfl,K,a1⟩;have a0:=T.trans K;clear K;go_wp2;go_ret;simp_all
  .have O:taken R sE ps=ps+1:=by unfold taken;rw[gN h2];rfl
   rw[h2,O]at J;have A:rU R ps=quoted R sE ps:=by unfold rU;rw[gI (by simp[h1]),gN h2]
   have B:mQ R ps=R.cs.extract (ps+1) (scan (jl sE) R.cs (ps+1)):=by unfold mQ;rw[gI (by simp[h1]),gN h2]
   rw[A,B];have E:=Nj h2 L (by decide);clear h1 h2 H O A B;have U:=(λq (hk:Kept [r] w q) (h:Rd q r R bg (ps+1))=>IY r R bg ps sE rfl w q hk h E N);generalize R.cs.extract (ps+1) (scan (jl sE) R.cs (ps+1))=t at *;generalize quoted R sE ps=m at *;go_enter func355,ntmps355;go_wp21;refine Au 3 ?_;rw[rF,HW.out];go_wp21;refine I.mono ?_;rintro e q ⟨rfl,k,D⟩;have c1:q.cell? ⟨w.heap.size,1,none⟩=some (gw sE):=by rw[k.cell (p:=⟨w.heap.size,1,none⟩) HZ.out (by simp;omega),fO HB.out];rfl
   have C:=(P.mono (S':=[r]) (by simp)).trans k;clear k;go_wp21;rw[rF];go_wp21;refine(J _ D).mono ?_;rintro e G ⟨rfl,d,l⟩;have V:=U G (C.trans d) l;clear d l;go_wp21;refine(oG _ G).mono ?_;rintro e w' ⟨rfl,rfl⟩;go_wp21;refine V.mono ?_;rintro e w3 ⟨rfl,Z⟩;go_wp21;refine Z.mono ?_;rintro e w4 ⟨⟨b,rfl⟩,W,Y⟩;go_wp2;go_ret;simp_all
 .have H:taken R oN ps=ps+1:=by unfold taken;rw[gN h1];rfl
  rw[h1,H]at I;have A:rU R ps=quoted R oN ps:=by unfold rU;rw[gN h1]
  have B:mQ R ps=R.cs.extract (ps+1) (scan (jl oN) R.cs (ps+1)):=by unfold mQ;rw[gN h1]
  rw[A,B];have E:=Nj h1 L (by decide);clear h1 H A B J;have U:=(λq (hk:Kept [r] w q) (h:Rd q r R bg (ps+1))=>IY r R bg ps oN rfl w q hk h E N);generalize R.cs.extract (ps+1) (scan (jl oN) R.cs (ps+1))=t at *;generalize quoted R oN ps=m at *;go_enter func355,ntmps355;go_wp21;refine Au 3 ?_;rw[rF,HW.out];go_wp21;refine I.mono ?_;rintro e G ⟨rfl,d,l⟩;have V:=U G ((P.mono (S':=[r]) (by simp)).trans d) l;clear d l;go_wp21;refine(oG _ G).mono ?_;rintro e w' ⟨rfl,rfl⟩;go_wp21;refine V.mono ?_;rintro e w3 ⟨rfl,Z⟩;go_wp21;refine Z.mono ?_;rintro e w4 ⟨⟨b,rfl⟩,W,Y⟩;go_wp2;go_ret;simp_all
def O5 (s:gn):Bool:=decide (0 < s.size)&&(decide (bt s 0=61)||decide (97<=bt s 0/\bt s 0<=122\/65<=bt s 0/\bt s 0<=90)||decide (48<=bt s 0/\bt s 0<=57))
theorem RQ (s:gn) (w:gr):
  Calls prog 305 #[gw s] w λe w'=>e=ir (.bool (O5 s))/\w'=w:=by
 have d:=get_bt s;by_cases q:0 < s.size
 .have k:=bt_nonneg s 0;have l:=bt_le s 0;have E:=d 0 q;have p:s.toList.isEmpty=false:=by
   rw[sD];cases h:s.data.toList with
   |nil=>
    exfalso;have e1:s.data.toList.length=0:=by rw[h];rfl
    rw[xq]at e1;have e2:s.data.size=s.size:=rfl;omega
   |cons=>rfl
  have B:¬s.toList=[]:=by intro h;rw[h]at p;cases p
  have L:=Iv (bt s 0) w k l;have D:=GY (bt s 0) w k l;have A:O5 s=(decide (bt s 0=61)||decide (97<=bt s 0/\bt s 0<=122\/65<=bt s 0/\bt s 0<=90)||decide (48<=bt s 0/\bt s 0<=57)):=by unfold O5;simp[q]
  rw[A];by_cases a:bt s 0=61
  .rw[show decide (bt s 0=61)=true from by simp[a]];go_enter func305,ntmps305;go_wp2;go_ret;simp
  .rw[show decide (bt s 0=61)=false from by simp[a]];have C:(bt s 0==61)=false:=beq_eq_false_iff_ne.2 a;cases hl:decide (97<=bt s 0/\bt s 0<=122\/65<=bt s 0/\bt s 0<=90)
   .rw[hl]at L;cases hd:decide (48<=bt s 0/\bt s 0<=57)
    all_goals
     rw[hd]at D;go_enter func305,ntmps305;go_wp21;refine L.mono ?_;rintro e w' ⟨rfl,rfl⟩;go_wp21;refine D.mono ?_;rintro e w' ⟨rfl,rfl⟩;go_wp2;go_ret;simp
   .rw[hl]at L;go_enter func305,ntmps305;go_wp21;refine L.mono ?_;rintro e w' ⟨rfl,rfl⟩;go_wp2;go_ret;simp
 .have u:s=⟨#[]⟩:=Cg (SX (by simp_all));subst u;go_enter func305,ntmps305;go_wp2;go_ret;exact⟨rfl,rfl⟩
def tL (look:gn->Option gn) (s:gn) (inV:Bool):Nat->Nat
 |0=>0
 |k+1=>if (look (s.extract 1 (1+(k+1)))).isSome=true then (if (inV&&decide (bt s (k+1)≠59)&&O5 (s.extract (1+(k+1)) s.size))=true then 0 else 1+(k+1))else tL look s inV k
theorem Vz {k : Nat}:tL look s inV k<=k+1:=by
 induction k with
 |zero=>simp[tL]
 |succ k ih=>
  grind[tL]
def uL (look:gn->Option gn) (s:gn) (inV:Bool):Nat->gn
 |0=>⟨#[]⟩
 |k+1=>if (look (s.extract 1 (1+(k+1)))).isSome=true then (if (inV&&decide (bt s (k+1)≠59)&&O5 (s.extract (1+(k+1)) s.size))=true then ⟨#[]⟩else (look (s.extract 1 (1+(k+1)))).getD ⟨#[]⟩)else uL look s inV k
theorem M9 {k : Nat} (h:∀x t,look x=some t->t.size<=16):(uL look s inV k).size<=16:=by
 induction k with
 |zero=>exact iP _
 |succ k ih=>
  unfold uL;split
  .split
   .exact iP _
   .rename_i d _;have⟨t,ht⟩:=Option.isSome_iff_exists.1 d;grind
  omega
def PW (b lg:Nat) (look:gn->Option gn) (s:gn) (inV:Bool) (w:gr) (hL:Lk w b look) (a3:lg<=1048576) (hs:s.size<=1048576) (h1:1<=s.size):
  Calls prog 253 #[.agg #[.map (some b),ga lg],gw s,.bool inV] w λe w'=>e=ir (.tuple #[gw (uL look s inV (min lg (s.size - 1))),ga (tL look s inV (min lg (s.size - 1)))])/\Kept [] w w':=by
 have X:=get_bt s;have HL:=hL;clear hL;obtain⟨L,D⟩:∃L,L=min lg (s.size - 1):=⟨_,rfl⟩;have a0:min (lg:Int) ((s.size:Int) - 1)=(L:Int):=by rw[D];omega
 have P:L<=s.size - 1:=by rw[D];exact Nat.min_le_right ..
 rw[<-D];clear D;obtain⟨m,Z⟩:∃m,m=tL look s inV L:=⟨_,rfl⟩;rw[<-Z];obtain⟨B,HX⟩:∃B,B=uL look s inV L:=⟨_,rfl⟩;rw[<-HX];have Y:∀wr,Kept [w.heap.size] (w.alloc (.cells #[.map (some b),ga lg] 158)) wr->True:=λ_ _=>trivial;clear Y;go_enter func253,ntmps253;go_wp21
 go_loopw [8] (λv wr=>∃k:Nat,v=ga k/\k<=s.size - 1/\tL look s inV k=m/\uL look s inV k=B/\Kept [] (w.alloc (.cells #[.map (some b),ga lg] 158)) wr) (λv _=>(intOf v).toNat)
 case atStart=>exact⟨L,by rfl,P,Z.symm,HX.symm,Kept.refl _ _⟩
 case round=>
  obtain⟨k,rfl,hk,S,T,q⟩:=hrel;have V:=fN S;have J:=fN T;have K:=fQ w (.cells #[.map (some b),ga lg] 158);have c0:=fO (q.at K (by simp)) 0;dsimp at c0;have a4:w.heap.size < wr.heap.size:=je (q.at K (by simp));have A:Hid (Lk wr b look):=(HL.kept ((Kept.refl [] w).alloc _) (by simp)).kept q (by simp);clear S T K;cases k with
  |zero=>
   have F:m=0:=V.symm;have H:=(show B=⟨#[]⟩from J.symm);go_wp2;go_ret2;exact⟨qM H.symm F rfl,((Kept.refl [] w).alloc _).trans q⟩
  |succ j=>
   have O:=A.lt;have E:=A.run (s.extract 1 (1+(j+1))) wr rfl;have p:=A.run (s.extract 1 (1+(j+1))) wr.drew rfl;have l:=λo=>A.run (s.extract 1 (1+(j+1))) (wr.alloc o) (Below.heap_alloc wr o b O);have d:=λo=>A.run (s.extract 1 (1+(j+1))) (wr.alloc o).drew (Below.heap_alloc wr o b O);cases hlo:look (s.extract 1 (1+(j+1)))with
   |none=>
    rw[hlo]at E p;simp only[hlo]at l d;have W:tL look s inV j=m:=by rw[<-V.out,tL,gI (by simp[hlo])]
    have N:=(show uL look s inV j=B by rw[<-J.out,uL,gI (by simp[hlo])]);clear hlo;simp only[Option.getD_none,Option.isSome_none]at E p l d;go_wp21;go_region
    all_goals (try go_wp2)
    exact⟨⟨j,rfl,by omega,W,N,(q.alloc _).drew⟩,by simp[intOf]⟩
   |some t=>
    rw[hlo]at E p;simp only[hlo]at l d;have U:Hid (m=if (inV&&decide (bt s (j+1)≠59)&&O5 (s.extract (1+(j+1)) s.size))=true then 0 else 1+(j+1)):=by
     rw[<-V.out,tL,gN (by simp[hlo])];exact rfl
    have C:Hid (B=if (inV&&decide (bt s (j+1)≠59)&&O5 (s.extract (1+(j+1)) s.size))=true then ⟨#[]⟩else t):=by
     rw[<-J.out,uL,gN (by simp[hlo]),hlo];exact rfl
    clear hlo;simp only[Option.getD_some,Option.isSome_some]at E p l d;have I:Hid (Kept [] w (wr.alloc (.cells #[gw t] 203)).drew):=(((Kept.refl [] w).alloc _).trans (q.alloc _)).drew;have hj:j+1 < s.size:=by omega
    have a2:=X (j+1) hj;cases inV
    .have F:m=1+(j+1):=by rw[U.out];simp
     have H:=(show B=t by rw[C.out];simp);go_wp21;go_region
     all_goals (try go_wp2)
     all_goals (try go_ret2)
     all_goals exact⟨qM H.symm F rfl,I⟩
    .by_cases u:bt s (j+1)=59
     .have F:m=1+(j+1):=by rw[U.out];simp[u]
      have H:=(show B=t by rw[C.out];simp[u]);go_wp21;go_region
      all_goals (try go_wp2)
      all_goals (try go_ret2)
      all_goals exact⟨qM H.symm F rfl,I⟩
     .have a1:(bt s (j+1) != 59)=true:=by rw[bne_iff_ne];exact u
      have G:=RQ (s.extract (1+(j+1)) s.size) (wr.alloc (.cells #[gw t] 203)).drew;cases hg:O5 (s.extract (1+(j+1)) s.size);have F:m=1+(j+1):=by rw[U.out];simp[hg]
      have H:=(show B=t by rw[C.out];simp[hg])
      rotate_left
      have F:m=0:=by rw[U.out];simp[hg,u]
      have H:=(show B=⟨#[]⟩ by rw[C.out];simp[hg,u])
      all_goals
       rw[hg]at G;clear hg u;go_wp21;go_region
       all_goals (try (go_wp21))
       all_goals (refine G.mono ?_;rintro e w' ⟨rfl,rfl⟩)
       all_goals (try go_wp2)
       all_goals (try go_ret2)
       all_goals exact⟨qM H.symm F rfl,I⟩
def lO (look:gn->Option gn) (lg:Nat) (s:gn) (inV:Bool):Nat:=
 if pre s ⟨#[38,35]⟩=true then uj s else if pre s tm=true then tL look s inV (min lg (s.size - 1))else 0
def BQ:lO look lg s inV<=s.size:=by
 unfold lO;split
 .rename_i h;exact Sb (Ew h)
 .split
  .rename_i h;have d:1<=s.size:=Ew h;have l:=Vz (look:=look) (s:=s) (inV:=inV) (k:=min lg (s.size - 1));omega
  simp
def nX (look:gn->Option gn) (lg:Nat) (s:gn) (inV:Bool):gn:=
 if pre s ⟨#[38,35]⟩=true then uk s else if pre s tm=true then uL look s inV (min lg (s.size - 1))else ⟨#[]⟩
def xf (h:∀x t,look x=some t->t.size<=16):(nX look lg s inV).size<=16:=by
 unfold nX;split
 .exact Kn s
 .split
  .exact M9 h
  .exact iP _
def PX (b lg:Nat) (look:gn->Option gn) (s:gn) (inV:Bool) (w:gr) (L:Lk w b look) (G:lg<=1048576) (B:s.size<=1048576):
  Calls prog 160 #[.agg #[.map (some b),ga lg],gw s,.bool inV] w λe w'=>e=ir (.tuple #[gw (nX look lg s inV),ga (lO look lg s inV)])/\Kept [] w w':=by
 obtain⟨k,d⟩:∃k,k=w.alloc (.cells #[.map (some b),ga lg] 158):=⟨_,rfl⟩;have q:k.heap[w.heap.size]?=some (gy #[.map (some b),ga lg] 158):=by rw[d];exact fQ w _
 have u:Kept [] w k:=by rw[d];exact(Kept.refl _ _).alloc _
 have J:=fO q 0;have K:=fO q 1;dsimp at J K;have E:=fN d.symm;have I:=L.kept u (by simp);have l:=tZ s ⟨#[38,35]⟩ k B (by decide);have A:=tZ s tm k B (by decide);clear d;cases h1:pre s ⟨#[38,35]⟩
 .rw[h1]at l;cases h2:pre s tm
  .rw[h2]at A;have e:lO look lg s inV=0:=by unfold lO;rw[gI (by simp[h1]),gI (by simp[h2])]
   have p:nX look lg s inV=⟨#[]⟩:=by unfold nX;rw[gI (by simp[h1]),gI (by simp[h2])]
   rw[e,p];go_enter func160,ntmps160;go_wp21;rw[E.out];refine l.mono ?_;rintro e w' ⟨rfl,rfl⟩;go_wp21;refine A.mono ?_;rintro e w' ⟨rfl,rfl⟩;go_wp2;go_ret2;exact⟨rfl,u⟩
  .rw[h2]at A;have H:1<=s.size:=Ew h2;have e:lO look lg s inV=tL look s inV (min lg (s.size - 1)):=by unfold lO;rw[gI (by simp[h1]),gN h2]
   have p:nX look lg s inV=uL look s inV (min lg (s.size - 1)):=by unfold nX;rw[gI (by simp[h1]),gN h2]
   rw[e,p];have C:=PW b lg look s inV k I G B H;generalize tL look s inV (min lg (s.size - 1))=m at *;generalize uL look s inV (min lg (s.size - 1))=t at *;go_enter func160,ntmps160;go_wp21;rw[E.out];refine l.mono ?_;rintro e w' ⟨rfl,rfl⟩;go_wp21;refine A.mono ?_;rintro e w' ⟨rfl,rfl⟩;go_wp21;refine C.mono ?_;rintro e N ⟨rfl,F⟩;have D:=u.trans F;go_wp2;go_ret2;exact⟨rfl,D⟩
 .rw[h1]at l;have H:2<=s.size:=Ew h1;have e:lO look lg s inV=uj s:=by unfold lO;rw[gN h1]
  have p:nX look lg s inV=uk s:=by unfold nX;rw[gN h1]
  rw[e,p];have C:=IZ s k B H;generalize uj s=m at *;generalize uk s=t at *;go_enter func160,ntmps160;go_wp21;rw[E.out];refine l.mono ?_;rintro e w' ⟨rfl,rfl⟩;go_wp21;refine C.mono ?_;rintro e N ⟨rfl,rfl⟩;go_wp2;go_ret2;exact⟨rfl,u⟩
def pD (look:gn->Option gn) (lg:Nat) (s:gn):Nat:=if lO look lg s false=0 then 1 else lO look lg s false
theorem Cv:0 < pD look lg s:=by grind[pD]
def Fo (h:0 < s.size):pD look lg s<=s.size:=by
 unfold pD;split
 .omega
 .exact BQ
def rv (look:gn->Option gn) (lg:Nat) (s:gn):gn:=if lO look lg s false=0 then s.extract 0 1 else nX look lg s false
structure Wv (w:gr) (g n:Nat) (A:Nat->gn×gn):Prop where
 lt:0 < n->g < w.heap.size
 nm:∀i,i < n->w.cell? ⟨g,i*2,none⟩=some (gw (A i).1)
 vl:∀i,i < n->w.cell? ⟨g,i*2+1,none⟩=some (gw (A i).2)
def Wv.kept {A : Nat->gn×gn} {S : List Nat} (h:Wv w g n A) (k:Kept S w w') (l:g∉S):Wv w' g n A:=
 ⟨λq=>mf (h.lt q) k.size,λi d=>(k.cell (p:=⟨g,i*2,none⟩) (h.lt (by omega)) l).trans (h.nm i d),λi d=>(k.cell (p:=⟨g,i*2+1,none⟩) (h.lt (by omega)) l).trans (h.vl i d)⟩
def nP (A:Nat->gn×gn) (n:Nat) (s:gn) (i:Nat):Bool:=if i < n then (if ((A i).1.toList==s.toList)=true then true else nP A n s (i+1))else false
  termination_by n - i
def aab (x y:Int) (nm s:gn) (g n D:Nat) (A:Nat->gn×gn) (w:gr) (J:Wv w g n A) (O:n<=1048576):
  Calls prog 328 #[.agg #[ga x,ga y,gw nm,nI g n D],gw s] w λe w'=>e=ir (.bool (nP A n s 0))/\Kept [] w w':=by
 obtain⟨m,G⟩:∃m,m=nP A n s 0:=⟨_,rfl⟩;rw[<-G];have I:=J;go_enter func328,ntmps328;go_wp21
 go_loopw [10] (λv wr=>∃k:Nat,v=ga k/\k<=n/\nP A n s k=m/\Kept [] w wr) (λv _=>n - (intOf v).toNat)
 case atStart=>exact⟨0,rfl,iP _,G.symm,(Kept.refl _ _).alloc _⟩
 case round=>
  obtain⟨k,rfl,N,F,B⟩:=hrel;have C:=fN F;have p:=B;by_cases d:k < n
  .have H:=I.kept B (by simp);have K:=H.nm k d;have L:=H.vl k d;clear F;cases he:((A k).1.toList==s.toList)
   .have e:nP A n s (k+1)=m:=by rw[<-C.out,nP.eq_1 A n s k,gN d,gI (by simp[he])]
    have q:=fN e;have E:¬(A k).1.toList=s.toList:=by simpa using he
    clear e;have l:=p.alloc (.cells #[gw (A k).1,gw (A k).2] 295);generalize (A k).1=u at *;generalize (A k).2=v at *;go_wp2;go_roundw
    case rel=>exact⟨k+1,by go_num,by omega,q,l⟩
    case measure=>simp[intOf];omega
   .have e:m=true:=by rw[<-C.out,nP.eq_1 A n s k,gN d,gN he]
    have q:=fN e;have E:(A k).1.toList=s.toList:=by simpa using he
    clear e;have l:=p.alloc (.cells #[gw (A k).1,gw (A k).2] 295);generalize (A k).1=u at *;generalize (A k).2=v at *;go_wp2;go_ret;exact⟨by rw[q.out];rfl,l⟩
  .have e:m=false:=by rw[<-C.out,nP.eq_1 A n s k,gI d]
   have q:=fN e;clear e F;go_wp2;go_ret;exact⟨by rw[q.out];rfl,p⟩
theorem Oo:(∃j,prog.info? 94=some j/\j.size≠0):=by
 have h:((prog.info? 94).map λi=>i.size)=some 2:=by kernel_rfl
 have⟨j,hj,h2⟩:=Option.map_eq_some_iff.1 h;grind
def Mr:liesAt prog prog.depth 94 (2 / prog.cellsOf 94) 0 94 1=true:=by kernel_rfl
theorem JX (B b:Nat) (bs:List gG) (w:gr) (h:Lib.IsBuilder 94 5 B b bs w):
  Calls prog 350 #[gF b] w λe w'=>e=o9/\Lib.BuilderAt 94 5 B b (gF b) bs w'/\Below B w w':=by
 obtain⟨j,d,k⟩:=Oo;rcases h with h|h
 .have u:=h.cell0;have D:=h.frozen0;have l:=h.used (gF b);have q:=(Below.refl B w).setCell (p:=⟨b,0,none⟩) h.1 (gF b);have C:=l.cell0;have F:=Lib.run_to_unsafe (P:=prog) w (src:=92) (dst:=98) ⟨b,0,none⟩ underlying92 underlying98 d k h.shape (show 0 < 2 by decide);have E:=Lib.run_from_unsafe (P:=prog) w (src:=98) (dst:=92) ⟨b,0,none⟩ underlying98 underlying92 d h.shape Mr;have A:=NY (P:=prog) (w.setCell ⟨b,0,none⟩ (gF b)) (tp:=92) ⟨b,0,none⟩ underlying92 d;go_enter func350,ntmps350;go_wp2;rw[Uk func368 (by rfl) (by rfl) rfl (e:=Extern.AbiNoEscape.same) rfl];rw[Lib.run_noEscape];simp only[Result.andThen];rw[Oper.upon_value];go_wp2;go_end0;grind
 .have u:=h.cell0;have l:=h;have q:=Below.refl B w;have A:=NY (P:=prog) w (tp:=92) ⟨b,0,none⟩ underlying92 d;go_enter func350,ntmps350;go_wp2;go_end0;grind
theorem zo (B b:Nat) (bs:List gG) (s:gn) (w:gr) (h:Lib.IsBuilder 94 5 B b bs w) (F:bs.length+s.size<=1048576) (U:B<=w.heap.size):
  Calls prog 325 #[gF b,gw s] w λe w'=>e=ir (.tuple #[ga s.size,.nilIface])/\(Lib.BuilderAt 94 5 B b (gF b) (bs++Lib.strCells s) w'/\Below B w w'):=by
 have⟨i0,hi,hz0,hz1,hz2⟩:=tj MT;have K:=h;go_enter func325,ntmps325;go_wp21;refine(JX B b bs _ K).mono ?_;rintro e W ⟨rfl,S,A⟩;have⟨hB,v,hbk,hown,hne⟩:=S;have L:=fO hbk 0;have N:=fO hbk 1;dsimp at L N;go_wp2_with (at_builtin;refine Lib.wpList_append_own_string _ rfl _ _ 53 9 rfl B 5 i0 underlying53 underlying9 hi hz0 hz1 hz2 _ _ _ rfl hown s rfl ?c3 ?c4 ?c5 ?_)
 case c3=>unfold maxLen;omega
 case c4=>omega
 case c5=>grind
 intro H I l d _;have C:b < W.heap.size:=je hbk;have u:I.heap[b]?=some (gy #[gF b,v] 94):=by
  rw[d.block b C (λe=>hne e.symm)];exact hbk
 have P:=fO u 1;dsimp at P;have Y:I.frozen? ⟨b,1,none⟩=false:=gu u 1;have X:=Lib.BuilderAt.put (T:=94) (e:=5) hB u (bs':=bs++Lib.strCells s) (by simpa [Lib.strCells_length]using l) (by decide);have J:=(A.grown d (by omega) (λk V=>(hown.lt k V).1)).setCell (p:=⟨b,1,none⟩) hB H;obtain⟨E,G,q,D⟩:∃E G q,H= .slice E G q:=by
  rcases l.2 with⟨D,_⟩|⟨g,q,O,D,_⟩
  all_goals grind
 subst D;go_wp2;go_ret2;simp_all
theorem Yo {t : gn} (h:¬t.size=0):t.toList.isEmpty=false:=by
 rw[sD];cases hh:t.data.toList with
 |nil=>exact absurd (show t.data.size=0 by simp_all) h
 |cons=>rfl
def NI:gG->Nat
 | .string t=>t.size
 |_=>0
def Il {T e B : Nat} {bs : List gG} (h:Lib.IsBuilder T e B b bs w) (d:Kept [] w w'):Lib.IsBuilder T e B b bs w':=by
 rcases h with⟨k,v,l,p,q⟩|⟨k,v,l,p,q⟩
 .exact .inl ⟨k,v,d.at l (by simp),d.ownsRow p (λ_ _=>by simp),q⟩
 .exact .inr ⟨k,v,d.at l (by simp),d.ownsRow p (λ_ _=>by simp),q⟩
def Ai (l:List UInt8) (t:gn):Lib.byteCells l++Lib.strCells t=Lib.byteCells (l++t.data.toList):=by
 unfold Lib.byteCells Lib.strCells;simp
def uM (look:gn->Option gn) (lg:Nat) (s:gn):List UInt8:=
 if s.size=0 then []else if lO look lg s true=0 then (s.extract 0 1).data.toList++uM look lg (s.extract 1 s.size)else (nX look lg s true).data.toList++uM look lg (s.extract (lO look lg s true) s.size)
  termination_by s.size
  decreasing_by all_goals (simp;omega)
def Ap (h:∀x t,look x=some t->t.size<=16) (s:gn):(uM look lg s).length<=16*s.size:=by
 rw[uM];split
 .simp
 .split
  .have:=Ap h (s.extract 1 s.size);simp at this|-;omega
  .have:=Ap h (s.extract (lO look lg s true) s.size);have d:=xf (lg:=lg) (s:=s) (inV:=true) h;have e:(nX look lg s true).data.size=(nX look lg s true).size:=rfl;simp[e]at this|-;omega
  termination_by s.size
  decreasing_by all_goals (simp;omega)
def QF (b lg:Nat) (look:gn->Option gn) (s:gn) (w:gr) (hL:Lk w b look) (X:lg<=1048576) (hs:s.size<=1024):
  Calls prog 354 #[.agg #[.map (some b),ga lg],gw s] w λe w'=>e=ir (gw ⟨(uM look lg s).toArray⟩)/\Kept [] w w':=by
 obtain⟨d,q⟩:∃d,d=w.alloc (.cells #[.map (some b),ga lg] 158):=⟨_,rfl⟩;have I:d.heap[w.heap.size]?=some (gy #[.map (some b),ga lg] 158):=by rw[q];exact fQ w _
 have HK:Kept [] w d:=by rw[q];exact(Kept.refl _ _).alloc _
 have z0:d.heap.size=w.heap.size+1:=by rw[q];simp
 have HL:=hL.kept HK (by simp);have HW:=fN q.symm;have F:=fN I;have T:=fN z0;clear q I z0;go_enter func354,ntmps354;go_wp21;rw[HW.out];have HN:=Lib.fresh_isBuilder 94 5 d;have N:=((Below.refl d.heap.size d).alloc (gW _) (.cells #[.pointer none,jV] 94));have ez:w.heap.size+1=d.heap.size:=T.symm
 try rw[ez]
 go_loopw [1] (λv wr=>∃(t:gn) (l:List UInt8),v=gw t/\t.size<=s.size/\l.length+16*t.size<=16*s.size/\l++uM look lg t=uM look lg s/\Lib.IsBuilder 94 5 d.heap.size d.heap.size (Lib.byteCells l) wr/\Below d.heap.size d wr) (λv _=>NI v)
 case atStart=>exact⟨s,[],rfl,gW _,by simp,rfl,HN,N⟩
 case round=>
  obtain⟨t,l,rfl,ht,hl,L,HI,A⟩:=hrel;have B:=fN L;have c0:=fO ((Kept.AN A).at F.out (by simp)) 0;have c1:=fO ((Kept.AN A).at F.out (by simp)) 1;dsimp at c0 c1;clear L;by_cases U:t.size=0
  .have e0:t=⟨#[]⟩:=by
    apply Cg;exact SX U
   subst e0;have EL:=fN (show l=uM look lg s by rw[<-B.out,uM,gN (show kC.size=0 from rfl),DU]);have S:=Tryz.Builder_String_any d.heap.size d.heap.size l wr HI A.size;go_wp21;refine S.mono ?_;rintro e Z ⟨rfl,V⟩;have O:=HK.trans (Kept.AN (A.trans V));go_wp2;go_ret;exact⟨by rw[<-EL.out];rfl,O⟩
  .have a1:t.toList.isEmpty=false:=Yo U;have C:=PX b lg look t true wr (HL.kept (Kept.AN A) (by simp)) X (by omega);have a2:=BQ (look:=look) (lg:=lg) (s:=t) (inV:=true);go_wp21;refine C.mono ?_;rintro e Z ⟨rfl,J⟩;have HX:=xf (lg:=lg) (s:=t) (inV:=true) HL.short;have K:uM look lg t=if lO look lg t true=0 then (t.extract 0 1).data.toList++uM look lg (t.extract 1 t.size)else (nX look lg t true).data.toList++uM look lg (t.extract (lO look lg t true) t.size):=by rw[uM,gI U]
   have H:=fN K;clear K;generalize nX look lg t true=x at *;have G:=Il HI J;have u:=A.trans (J.below A.size (by simp));generalize lO look lg t true=n at *;by_cases Y:n=0
   .have D:=(show(l++(t.extract 0 1).data.toList)++uM look lg (t.extract 1 t.size)=uM look lg s by rw[<-B.out,H.out,gN Y,uS]);subst Y;have W:=zo d.heap.size d.heap.size (Lib.byteCells l) (t.extract 0 1) Z G (by simp[Lib.byteCells];omega) u.size;go_wp21;refine W.mono ?_;rintro e w3 ⟨rfl,E,p⟩;have P:=(show Lib.IsBuilder 94 5 d.heap.size d.heap.size (Lib.byteCells (l++(t.extract 0 1).data.toList)) w3 from .inr (by rw[<-Ai];exact E));have k:=u.trans p;go_wp2;go_roundw
    case rel=>exact⟨_,_,rfl,by simp;omega,by simp;omega,D,P,k⟩
    case measure=>simp[NI];omega
   .have a0:((n:Int)==0)=false:=beq_eq_false_iff_ne.2 (by omega);have D:=(show(l++x.data.toList)++uM look lg (t.extract n t.size)=uM look lg s by rw[<-B.out,H.out,gI Y,uS]);have W:=zo d.heap.size d.heap.size (Lib.byteCells l) x Z G (by have:=HX;simp[Lib.byteCells];omega) u.size;go_wp21;refine W.mono ?_;rintro e w3 ⟨rfl,E,p⟩;have P:=(show Lib.IsBuilder 94 5 d.heap.size d.heap.size (Lib.byteCells (l++x.data.toList)) w3 from .inr (by rw[<-Ai];exact E));have k:=u.trans p;go_wp2;go_roundw
    case rel=>exact⟨_,_,rfl,by simp;omega,by have:=HX;have e:x.data.size=x.size:=rfl;simp[e];omega,D,P,k⟩
    case measure=>simp[NI];omega
def my (R:RC) (ps:Nat):Nat:=scan (λc=>!jl mA c) R.cs ps
def pw (R:RC) (ps:Nat):Nat:=if pre (R.cs.extract (my R ps) R.cs.size) ⟨#[61]⟩=true then rU R (my R (my R ps+1))else my R ps
def DO (h:ps<=R.cs.size):my R ps<=R.cs.size:=pt h
def NS:ps<=my R ps:=sQ
def We (h:ps<=R.cs.size):pw R ps<=R.cs.size:=by
 unfold pw;split
 .rename_i d;exact VN (DO (lu d (DO h)))
 .exact DO h
def x9:ps<=pw R ps:=by
 unfold pw;split
 .have d:=NS (R:=R) (ps:=ps);have k:=NS (R:=R) (ps:=my R ps+1);have l:=VM (R:=R) (ps:=my R (my R ps+1));omega
 .exact NS
def rN (look:gn->Option gn) (lg:Nat) (R:RC) (ps:Nat):gn:=if pre (R.cs.extract (my R ps) R.cs.size) ⟨#[61]⟩=true then oq ⟨(uM look lg (mQ R (my R (my R ps+1)))).toArray⟩else ⟨#[]⟩
structure Nm (w:gr) (r:Nat) (R:RC) (b lg:Nat) (look:gn->Option gn):Prop where
 lk:Lk w b look
 ne:b≠r
 mv:R.mv= .map (some b)
 lgv:R.lg=lg
 le:lg<=1048576
def Nm.kept {r : Nat} (h:Nm w r R b lg look) (d:Kept [r] w w'):Nm w' r R b lg look:=
 ⟨h.lk.kept d (by simp[h.ne]),h.ne,h.mv,h.lgv,h.le⟩
theorem Wh (r:Nat) (R:RC) (bg ps b lg:Nat) (look:gn->Option gn) (w:gr) (h:Rd w r R bg ps) (X:Nm w r R b lg look) (hG:Gl w r) (Z:ps<=R.cs.size) (H:R.cs.size<=1024):
  Calls prog 329 #[gF r] w λe w'=>e=ir (gw (rN look lg R ps))/\Kept [r] w w'/\Rd w' r R bg (pw R ps):=by
 have W:=vh r R bg ps mA w h Z H;have l:=fN X;have HG:=hG;have O:=DO (R:=R) Z;clear X;cases he:pre (R.cs.extract (my R ps) R.cs.size) ⟨#[61]⟩
 .have N:pw R ps=my R ps:=by unfold pw;rw[gI (by simp[he])]
  have L:rN look lg R ps=⟨#[]⟩:=by unfold rN;rw[gI (by simp[he])]
  rw[N,L];have D:taken R ⟨#[61]⟩ (my R ps)=my R ps:=by unfold taken;rw[gI (by simp[he])]
  go_enter func329,ntmps329;go_wp21;refine W.mono ?_;rintro e V ⟨rfl,d,A⟩;have F:=lx r R bg (my R ps) ⟨#[61]⟩ V A O H (by decide);rw[he,D]at F;go_wp21;refine F.mono ?_;rintro e w2 ⟨rfl,p,a0⟩;have E:=d.trans p;go_wp2;go_ret;simp_all
 .have N:pw R ps=rU R (my R (my R ps+1)):=by unfold pw;rw[gN he]
  have L:rN look lg R ps=oq ⟨(uM look lg (mQ R (my R (my R ps+1)))).toArray⟩:=by unfold rN;rw[gN he]
  rw[N,L];have D:taken R ⟨#[61]⟩ (my R ps)=my R ps+1:=by unfold taken;rw[gN he];rfl
  have Y:my R ps+1<=R.cs.size:=lu he O;go_enter func329,ntmps329;go_wp21;refine W.mono ?_;rintro e V ⟨rfl,d,A⟩;have F:=lx r R bg (my R ps) ⟨#[61]⟩ V A O H (by decide);rw[he,D]at F;go_wp21;refine F.mono ?_;rintro e w2 ⟨rfl,p,S⟩;have E:=d.trans p;have J:=vh r R bg (my R ps+1) mA w2 S Y H;go_wp21;refine J.mono ?_;rintro e I ⟨rfl,P,B⟩;have k:=E.trans P;have K:Hid (Rd I r R bg (my R (my R ps+1))):=B;have hc:=DO (R:=R) Y;have mv:I.cell? ⟨r,5,none⟩=some (.map (some b)):=by rw[B.mv,l.out.mv]
  have lv:I.cell? ⟨r,6,none⟩=some (ga lg):=by rw[B.lg,l.out.lgv]
  have a1:=BP (R:=R) (ps:=my R (my R ps+1));have a2:=Ap (lg:=lg) l.lk.short (mQ R (my R (my R ps+1)));have CR:=Nr r R bg (my R (my R ps+1)) I.drew (show Rd I.drew r R bg _ from K) hc H;go_wp21
  go_region_with (first
   |(go_at_call 355;refine CR.mono ?_;rintro e w4 ⟨rfl,q,C⟩;have U:=C.mv;rw[l.out.mv]at U;have T:=C.lg;rw[l.out.lgv]at T)
   |(go_at_call 354;refine(QF b lg look _ _ (l.kept (k.drew.trans q)).lk l.le (by omega)).mono ?_;rintro e w5 ⟨rfl,u⟩)
   |(go_at_call 148;refine(xO r _ _ (by simp[ByteArray.size];omega) ((HG.kept (k.drew.trans q)).kept (u.mono (by simp)))).mono ?_;rintro e w6 ⟨rfl,G⟩))
  all_goals (try go_wp2)
  all_goals (try go_ret)
  all_goals exact⟨rfl,(k.drew.trans q).trans ((u.trans G).mono (by simp)),(C.kept u (by simp)).kept G (by simp)⟩
def rj (L:lh):List gG:=L.flatMap λp=>[gw p.1,gw p.2]
def JK (L M:lh):rj (L++M)=rj L++rj M:=by simp[rj]
theorem Fg (L:lh) (i:Nat) (h:i < L.length):(rj L)[i*2]?=some (gw (L[i]).1)/\(rj L)[i*2+1]?=some (gw (L[i]).2):=by
 induction L generalizing i with
 |nil=>simp at h
 |cons p L ih=>
  show(gw p.1::Value.string p.2::rj L)[i*2]?=_/\(gw p.1::Value.string p.2::rj L)[i*2+1]?=_;grind
def nth (ns:List gn) (i:Nat):gn×gn:=(ns.getD i ⟨#[]⟩,⟨#[]⟩)
def MX (ns:List gn) (s:gn):Bool:=nP (nth ns) ns.length s 0
theorem J7 {A B : Nat->gn×gn} (h:∀i,i < n->(A i).1=(B i).1) (i:Nat):nP A n s i=nP B n s i:=by
 fun_induction nP A n s i with
 |case1 i hi he=>grind[nP]
 |case2 i hi he ih=>grind[nP]
 |case3 i hi=>grind[nP]
def XK (x y:Int) (nm s:gn) (w:gr):
  Calls prog 328 #[.agg #[ga x,ga y,gw nm,jV],gw s] w λe w'=>e=ir (.bool false)/\Kept [] w w':=by
 have k:=(Kept.refl [] w).alloc (.cells #[ga x,ga y,gw nm,jV] 190);go_enter func328,ntmps328;go_wp21
 go_loopw [10] (λv wr=>v=ga 0/\Kept [] w wr) (λv _=>0)
 case atStart=>exact⟨rfl,k⟩
 case round=>
  obtain⟨rfl,d⟩:=hrel;go_wp2;go_ret;exact⟨rfl,d⟩
def Yq (L:lh) (i:Nat):gn×gn:=L.getD i (⟨#[]⟩,⟨#[]⟩)
theorem Tz (base:Nat) (x y:Int) (nm s:gn) (p:gG) (L:lh) (w:gr) (l:w.ownsRow base 295 2 p L.length (rj L)) (D:L.length<=1048576):
  Calls prog 328 #[.agg #[ga x,ga y,gw nm,p],gw s] w λe w'=>e=ir (.bool (MX (L.map (·.1)) s))/\Kept [] w w':=by
 rcases l.2 with⟨rfl,u⟩|⟨g,k,q,rfl,B,C,_⟩
 .have e:MX (L.map (·.1)) s=false:=by
   have:L=[]:=SZ u;subst this;unfold MX;rw[nP.eq_1];simp
  rw[e];exact XK x y nm s w
 .have A:Wv w g L.length (Yq L):=by
   refine⟨λ_=>je C,λi d=>?_,λi d=>?_⟩
   .have:=l.cells (g:=g) rfl (i*2) _ (Fg L i d).1;rw[js]at this;grind[Yq]
   .have:=l.cells (g:=g) rfl (i*2+1) _ (Fg L i d).2;rw[js]at this;grind[Yq]
  have e:MX (L.map (·.1)) s=nP (Yq L) L.length s 0:=by
   unfold MX;rw[Bj];exact J7 (λi d=>by simp[nth,Yq,d]) 0
  rw[e];exact aab x y nm s g L.length k _ w A D
structure A4 (w:gr) (base tb:Nat) (x y:Int) (nm:gn) (av:gG) (L:lh):Prop where
 ik:w.heap[tb]?=some (gy #[ga x,ga y,gw nm,av] 190)
 own:w.ownsRow base 295 2 av L.length (rj L)
theorem A4.kept {base l r : Nat} {x y : Int} {nm : gn} {p : gG} {L : lh} (h:A4 w base l x y nm p L) (d:Kept [r] w w') (u:r < base) (q:base<=l):A4 w' base l x y nm p L:=
 ⟨d.at h.ik (by grind),d.ownsRow h.own (λk d=>by have:=(h.own.lt k d).1;grind)⟩
def AA (R:RC) (ps:Nat):gn:=oq (small (R.cs.extract ps (jZ R ps)))
def yU (R:RC) (ns:List gn) (ps:Nat):Bool:=!MX ns (AA R ps)&&!decide (jZ R ps=R.cs.size)&&decide (R.at_<=(ns.length:Int))
def uB (L:lh) (d v:gn):lh:=if MX (L.map (·.1)) d=true then L else L++[(d,v)]
def qT (R:RC) (look:gn->Option gn) (lg:Nat) (L:lh) (ps:Nat):lh:=uB L (AA R ps) (rN look lg R (jZ R ps))
def ID (h:ps < R.cs.size):jZ R ps<=R.cs.size:=pt (by omega)
def vT:ps < jZ R ps:=mf (Nat.lt_succ_self _) sQ
def Rd.Dt {r : Nat} (h:Rd w r R bg ps):w.cell? ⟨r,4,none⟩=some (ga R.at_):=by rw[fO h];rfl
def XU:(prog.info? 295).map (λi=>(i.zero,i.size,i.bytes))=some (some (.agg #[gw kC,gw kC]),2,32):=by kernel_rfl
def SI (w:gr) (k:Nat) (n d:Int):Prop:=w.heap[k]?=some (gy #[ga n,ga d] 78)
theorem JM (r K:Nat) (R:RC) (bg ps g ag b lg:Nat) (look:gn->Option gn) (cut:Nat->Nat) (x y:Int) (nm:gn) (av:gG) (L:lh) (N w:gr)
  (ah:Kept [r] N w) (I:r < N.heap.size) (G:N.heap.size<=K) (h:Rd w r R bg ps) (hA:KM w r R g ag cut) (hN:Nm w r R b lg look) (hG:Gl w r) (hT:A4 w N.heap.size K x y nm av L)
  (hb:bg<=R.cs.size) (hp:ps < R.cs.size) (hs:R.cs.size<=1024) (hL:L.length<=4096):
  Calls prog 292 #[gF r,gF K] w λe w'=>
   if yU R (L.map (·.1)) ps=true then ∃k,e= .panicked [{v:= .iface 73 (gF k),recovered:=false}]/\SI w' k 7 (cut bg)/\N.heap.size<=k/\Kept [r] N w'
   else e=o9/\∃X,A4 w' N.heap.size K x y nm X (qT R look lg L ps)/\Kept [r] N w'/\Rd w' r R bg (pw R (jZ R ps)):=by
 obtain⟨i0,hi,aw,ax,ay⟩:=tj XU;have aj:=ID (R:=R) hp;have HN:=fN hN;have HG:=fN hG;have HA:=fN hA;have HT:=fN hT;have ae:=fN ah;have CN:=fN (Cp r R bg ps w h hp hs hG);have H:qT R look lg L ps=uB L (AA R ps) (rN look lg R (jZ R ps)):=rfl;clear h hA hN hG hT ah;have al:yU R (L.map (·.1)) ps=(!MX (L.map (·.1)) (AA R ps)&&!decide (jZ R ps=R.cs.size)&&decide (R.at_<=(L.length:Int))):=by unfold yU;rw[Bj]
 rw[al];clear al;obtain⟨P,a7⟩:∃P,P=AA R ps:=⟨_,rfl⟩;have a8:oq (small (R.cs.extract ps (jZ R ps)))=P:=a7.symm;rw[a8]at CN;clear a8;rw[<-a7]at H;rw[<-a7];obtain⟨ns,ad⟩:∃ns,ns=L.map (·.1):=⟨_,rfl⟩;rw[<-ad];have a6:=fN ad;clear a7 ad;obtain⟨m,hm⟩:∃m,m=jZ R ps:=⟨_,rfl⟩;rw[<-hm]at CN aj H;rw[<-hm];clear hm;have HV:=(λw' h1 h2 h3=>Wh r R bg m b lg look w' h1 h2 h3 aj hs);obtain⟨vt,am⟩:∃vt,vt=rN look lg R m:=⟨_,rfl⟩;rw[<-am]at HV H;clear am;have HV:=fN HV;have af:=fN H;clear H;have⟨ao,cp,hav⟩:=gv HT.out.own;subst hav;have aC:r≠K:=by omega
 cases hin:MX ns P
 .skip
  rcases(show m=R.cs.size\/(¬m=R.cs.size/\R.at_<=(L.length:Int))\/(¬m=R.cs.size/\¬R.at_<=(L.length:Int)) by omega)with p|⟨p,Y⟩|⟨p,Y⟩;have ec:(!false&&!decide (m=R.cs.size)&&decide (R.at_<=(L.length:Int)))=false:=by simp[p]
  have e3:decide (m=R.cs.size)=true:=by simp[p]
  rotate_left
  have ec:(!false&&!decide (m=R.cs.size)&&decide (R.at_<=(L.length:Int)))=true:=by simp[p,Y]
  have e3:decide (m=R.cs.size)=false:=by simp[p]
  rotate_left
  have ec:(!false&&!decide (m=R.cs.size)&&decide (R.at_<=(L.length:Int)))=false:=by simp[Y]
  have e3:decide (m=R.cs.size)=false:=by simp[p]
  all_goals
   rw[ec];clear ec;simp only[wX,Ce,xm];go_enter func292,ntmps292;go_wp21;refine CN.out.mono ?_;rintro e w1 ⟨rfl,E,J⟩;have l:=fN (HT.out.kept E I G);have aa:=fN (ae.out.trans E);have ac:=fN J;have ab:=fN E;have a0:=fO l.out.ik 0;have a1:=fO l.out.ik 1;have a2:=fO l.out.ik 2;have a3:=fO l.out.ik 3;dsimp at a0 a1 a2 a3;have CH:=Tz N.heap.size x y nm P _ L w1 l.out.own (by omega);rw[<-a6.out,hin]at CH;have U:=fN CH;clear CH E J CN;go_wp21;refine U.out.mono ?_;rintro e w2 ⟨rfl,q⟩;have T:=fN (ab.out.trans (q.mono (by simp)));have S:=fN (aa.out.trans (q.mono (by simp)));have B:=fN (ac.out.kept q (by simp));have V:=fN (l.out.kept (q.mono (by simp)) I G);clear q U a0 a1 a2 a3;have b3:=fO V.out.ik 3;dsimp at b3;have b4:=B.out.Dt;have C:=fN (λw' (h:Rd w' r R bg m)=>ox r R bg m w' h);rw[e3]at C;go_wp21
   go_quiet ((go_at_call 77;refine xn (C.out _ ?_);exact B.out))
   clear b3 b4
  rotate_right
  .have ap:=fN (HA.out.kept T.out);have p0:w2.cell? ⟨r,1,none⟩=some (nI g (R.cs.size+1) ag):=by rw[B.out.gx,HA.out.av]
   have p1:w2.cell? ⟨r,2,none⟩=some (ga bg):=B.out.bg;have p2:=ap.out.at_ bg hb;have az:=fN (S.out.drewN nq);have au:=S.out.size;generalize R.cs.size=sz at *;have aA:(bg:Int) < (sz:Int)+1:=by omega
   go_wp21
   go_region_dies
   all_goals (try go_wp2)
   all_goals exact⟨rfl,w2.heap.size,rfl,fQ (w2.drewN (nq+1)) _,au,(S.out.drewN (nq+1)).alloc _⟩
  all_goals
   have W:=fN (HV.out (w2.drewN nq) (show Rd (w2.drewN nq) r R bg m from B.out) (HN.out.kept (T.out.drewN _)) (HG.out.kept (T.out.drewN _)));go_wp21;refine W.out.mono ?_;rintro e w3 ⟨rfl,O,Z⟩;have a4:=fN ((S.out.drewN nq).trans O);have a5:=fN Z;have A:=fN ((V.out.kept ((Kept.refl [r] w2).drewN nq) I G).kept O I G);clear O Z W;have c3:=fO A.out.ik 3;dsimp at c3;have ai:=je A.out.ik;have ak:=je a5.out;have aB:=a4.out.size;go_wp2_with (at_builtin;refine ij _ rfl _ _ 133 rfl N.heap.size 295 i0 (.agg #[gw kC,gw kC]) 2 32 underlying133 hi aw ax ay rfl (by decide) _ _ _ rfl (A.out.own.alloc _) ⟨w3.heap.size,0,none⟩ 1 1 [gw P,gw vt] rfl ?c1 ?c2 ?c3 ?c4 ?c5 ?c6 ?_)
   case c1=>rfl
   case c2=>
    intro j u hj
    match j,hj with
    |0,hj=>simp at hj;subst hj;simp[Addr.add]
    |1,hj=>simp at hj;subst hj;simp[Addr.add]
   case c3=>intro u hu;simp at hu;rcases hu with rfl|rfl<;>rfl
   case c4=>unfold maxLen;omega
   case c5=>omega
   case c6=>simp;omega
   intro v' w4 F D ar;have⟨ao',d,hv⟩:=gv F;subst hv;have a9:∀k,(Value.slice ao L.length cp).ownBlock=some k->k≠K:=by
    intro k hk;rcases A.out.own.2 with⟨h,_⟩|⟨g',d,aq,h,_,hc,_⟩
    .rw[h]at hk;cases hk
    .rw[h]at hk;obtain rfl:=jz hk;exact xz hc A.out.ik (by decide)
   have an:Kept [r] N w4:=(a4.out.alloc _).grown D (λk hk=> .inr (A.out.own.lt k hk).1);have t4:w4.heap[K]?=some (gy #[ga x,ga y,gw nm,.slice ao L.length cp] 190):=by
    rw[D.block K (by simp;omega) (λh=>a9 K h.symm rfl),Below.heap_alloc _ _ _ ai];exact A.out.ik
   have r4:Rd w4 r R bg (pw R m):=by
    show w4.heap[r]?=_;rw[D.block r (by simp;omega) (λh=>by have:=(A.out.own.lt r h.symm).1;omega),Below.heap_alloc _ _ _ ak];exact a5.out
   have d3:=fO t4 3;have f3:=gu t4 3;dsimp at d3;have t5:=fV t4 3 (.slice ao' (L.length+1) d);have r5:Rd (w4.setCell ⟨K,3,none⟩ (.slice ao' (L.length+1) d)) r R bg (pw R m):=(Below.heap_setCell w4 ⟨K,3,none⟩ _ r (by omega)).trans r4;have o5:(w4.setCell ⟨K,3,none⟩ (.slice ao' (L.length+1) d)).ownsRow N.heap.size 295 2 (.slice ao' (L.length+1) d) (L++[(P,vt)]).length (rj (L++[(P,vt)])):=by
    rw[JK,me];refine yb F ?_ _;intro hk;rcases F.2 with⟨h,_⟩|⟨g',d,aq,h,_,hc,_⟩
    .omega
    .grind
   have HF:Hid (∃X,A4 (w4.setCell ⟨K,3,none⟩ (.slice ao' (L.length+1) d)) N.heap.size K x y nm X (uB L P vt)/\Kept [r] N (w4.setCell ⟨K,3,none⟩ (.slice ao' (L.length+1) d))/\Rd (w4.setCell ⟨K,3,none⟩ (.slice ao' (L.length+1) d)) r R bg (pw R m)):=
    ⟨_,by rw[show uB L P vt=L++[(P,vt)] by unfold uB;rw[<-a6.out,hin];rfl];exact⟨t5,o5⟩,an.setCell (.inr G) _,r5⟩
   clear t5 r5 o5 r4 t4 an a9 F D ar c3;go_wp2;go_end0;exact⟨rfl,by rw[af.out];exact HF.out⟩
 .skip
  have ec:(!true&&!decide (m=R.cs.size)&&decide (R.at_<=(L.length:Int)))=false:=by simp
  rw[ec];clear ec;simp only[wX,Ce,xm];go_enter func292,ntmps292;go_wp21;refine CN.out.mono ?_;rintro e w1 ⟨rfl,E,J⟩;have l:=fN (HT.out.kept E I G);have aa:=fN (ae.out.trans E);have ac:=fN J;have ab:=fN E;have a0:=fO l.out.ik 0;have a1:=fO l.out.ik 1;have a2:=fO l.out.ik 2;have a3:=fO l.out.ik 3;dsimp at a0 a1 a2 a3;have CH:=Tz N.heap.size x y nm P _ L w1 l.out.own (by omega);rw[<-a6.out,hin]at CH;have U:=fN CH;clear CH E J CN;go_wp21;refine U.out.mono ?_;rintro e w2 ⟨rfl,q⟩;have T:=fN (ab.out.trans (q.mono (by simp)));have S:=fN (aa.out.trans (q.mono (by simp)));have B:=fN (ac.out.kept q (by simp));have V:=fN (l.out.kept (q.mono (by simp)) I G);clear q U a0 a1 a2 a3;have b3:=fO V.out.ik 3;dsimp at b3;have b4:=B.out.Dt;have C:=fN (λw' (h:Rd w' r R bg m)=>ox r R bg m w' h);go_wp21
  go_quiet ((go_at_call 77;refine xn (C.out _ ?_);exact B.out))
  clear b3 b4;have W:=fN (HV.out (w2.drewN nq) (show Rd (w2.drewN nq) r R bg m from B.out) (HN.out.kept (T.out.drewN _)) (HG.out.kept (T.out.drewN _)));go_wp21;refine W.out.mono ?_;rintro e w3 ⟨rfl,O,Z⟩;have a4:=fN ((S.out.drewN nq).trans O);have a5:=fN Z;have A:=fN ((V.out.kept ((Kept.refl [r] w2).drewN nq) I G).kept O I G);clear O Z W;have HF:Hid (∃X,A4 w3 N.heap.size K x y nm X (uB L P vt)/\Kept [r] N w3/\Rd w3 r R bg (pw R m)):=
   ⟨_,by rw[show uB L P vt=L by unfold uB;rw[<-a6.out,hin];rfl];exact A.out,a4.out,a5.out⟩
  go_wp2;go_end0;exact⟨rfl,by rw[af.out];exact HF.out⟩
inductive GN where
 |stop
 |lost
 |whole (e:Nat) (L:lh)
def iZ (R:RC) (ps:Nat):Nat:=scan (λc=>!jl ⟨#[32,9,10,12,47]⟩ c) R.cs ps
def VW (h:ps<=R.cs.size):iZ R ps<=R.cs.size:=pt h
def sx:ps<=iZ R ps:=sQ
def lH (R:RC) (look:gn->Option gn) (lg:Nat) (L:lh) (ps:Nat):GN:=
 if h:iZ R ps < R.cs.size then
  if pre (R.cs.extract (iZ R ps) R.cs.size) iO=true then .whole (iZ R ps+1) L
  else if yU R (L.map (·.1)) (iZ R ps)=true then .stop
  else lH R look lg (qT R look lg L (iZ R ps)) (pw R (jZ R (iZ R ps)))
 else .lost
  termination_by R.cs.size - ps
  decreasing_by
 have d:=sx (R:=R) (ps:=ps);have k:=vT (R:=R) (ps:=iZ R ps);have l:=x9 (R:=R) (ps:=jZ R (iZ R ps));omega
def xY (R:RC) (ps:Nat):Nat:=scan (jl ji) R.cs ps
def abm (h:ps<=R.cs.size):xY R ps<=R.cs.size:=pt h
def abl:ps<=xY R ps:=sQ
theorem F5 {L : lh}:(qT R look lg L ps).length<=L.length+1:=by
 unfold qT uB;grind
def xZ (R:RC) (ps:Nat):gn:=oq (small (R.cs.extract ps (xY R ps)))
def Rd.qo {r : Nat} (h:Rd w r R bg ps) {p : Addr} (d:p.block≠r) (u:gG):Rd (w.setCell p u) r R bg ps:=(Below.heap_setCell w p u r (λe=>d e.symm)).trans h
theorem V3 {base : Nat} {e : TypeId} {A : Nat} {xs : List gG} (u:w.ownsRow base e A v n xs) {c : jE} {t : TypeId} (B:w.heap[b]?=some (gy c t)) (q:e≠t):∀k,v.ownBlock=some k->k≠b:=by
 rintro k d rfl;rcases u.2 with⟨e2,_⟩|⟨D,l,p,e2,_,C,_⟩
 .rw[e2]at d;cases d
 .rw[e2]at d;obtain rfl:=jz d;grind
def S9 (w:gr) (r:Nat) (R:RC) (bg:Nat) (cut:Nat->Nat) (nm:gn) (e:Ending) (w':gr):GN->Prop
 | .stop=>∃k,e= .panicked [{v:= .iface 73 (gF k),recovered:=false}]/\SI w' k 7 (cut bg)/\w.heap.size<=k/\Kept [r] w w'
 | .lost=>e=ir (.tuple #[.agg #[ga 0,ga 0,gw kC,jV],.bool false])/\Kept [r] w w'/\Rd w' r R bg R.cs.size
 | .whole m L=>(∃d l,e=ir (.tuple #[.agg #[ga (cut bg),ga (cut m),gw nm,.slice d L.length l],.bool true])/\w'.ownsRow w.heap.size 295 2 (.slice d L.length l) L.length (rj L))/\Kept [r] w w'/\Rd w' r R bg m
theorem Ua (r:Nat) (R:RC) (bg ps g a4 b lg:Nat) (look:gn->Option gn) (cut:Nat->Nat) (w:gr) (h:Rd w r R bg ps) (hA:KM w r R g a4 cut) (hN:Nm w r R b lg look) (hG:Gl w r)
  (hb:bg<=R.cs.size) (hp:ps<=R.cs.size) (hs:R.cs.size<=1024):
  Calls prog 243 #[gF r] w λe w'=>S9 w r R bg cut (xZ R ps) e w' (lH R look lg [] (xY R ps)):=by
 obtain⟨O,HO⟩:∃O,O=lH R look lg [] (xY R ps):=⟨_,rfl⟩;rw[<-HO];obtain⟨nm,a7⟩:∃nm,nm=xZ R ps:=⟨_,rfl⟩;rw[<-a7];have a1:oq (small (R.cs.extract ps (scan (jl ji) R.cs ps)))=nm:=a7.symm;have az:=fN a1;clear a7 a1;have hr:=je h;obtain⟨G,V⟩:∃G,G=w.alloc (.cells #[ga 0,ga 0,gw kC,jV] 190):=⟨_,rfl⟩;have ag:G.heap[w.heap.size]?=some (gy #[ga 0,ga 0,gw kC,jV] 190):=by rw[V];exact fQ w _
 have I:Kept [] w G:=by rw[V];exact(Kept.refl _ _).alloc _
 have z0:G.heap.size=w.heap.size+1:=by rw[V];simp
 have ak:=h.kept I (by simp);have ha:=abm (R:=R) hp;have CU:=yX r R bg ps ji G ak hp hs;have HA:=hA.kept (I.mono (by simp));have HN:=hN.kept (I.mono (by simp));have HG:=hG.kept (I.mono (by simp));have HW:=fN V.symm;have am:(R.cs.extract ps (scan (jl ji) R.cs ps)).size<=1048576:=by simp;omega
 have N:=fN z0;clear h hA hN hG V z0 ak;go_enter func243,ntmps243;go_wp21;rw[HW.out];refine(oG _ G).mono ?_;rintro e w1 ⟨rfl,rfl⟩;go_wp21;refine CU.mono ?_;rintro e w2 ⟨rfl,ac,ar⟩;have aB:Hid (Rd w2 r R bg (xY R ps)):=ar;have CR:=yM r _ w2 am (HG.kept ac);clear ar CU am;go_wp21;refine CR.mono ?_;rintro e P ⟨rfl,a5⟩;have ad:=ac.trans (a5.mono (by simp));have aC:=aB.out.kept a5 (by simp);clear a5 CR;rw[az.out];obtain⟨w4,a0⟩:∃w4,w4=P.alloc (.cells #[ga 0,ga 0,gw nm,jV] 190):=⟨_,rfl⟩;have aa:Kept [] P w4:=by rw[a0];exact(Kept.refl _ _).alloc _
 have aF:Hid (A4 w4 G.heap.size P.heap.size 0 0 nm (jV) []):=⟨by rw[a0];exact fQ P _,py _ _ _ _⟩;have ax:=ad.trans (aa.mono (by simp));have aD:=aC.kept aa (by simp);have A:=ad.size;have aH:=fN a0.symm;clear aa a0;go_wp21;rw[aH.out]
 go_loopw [] (λwr=>∃(i:Nat) (av:gG) (L:lh),i<=R.cs.size/\L.length<=i/\lH R look lg L i=O/\A4 wr G.heap.size P.heap.size 0 0 nm av L/\Kept [r] G wr/\Rd wr r R bg i) (λwr=>R.cs.size - (match wr.cell? ⟨r,3,none⟩with|some v=>(intOf v).toNat|none=>0))
 case atStart=>exact⟨xY R ps,_,[],ha,iP _,HO.symm,aF.out,ax,aD⟩
 case round=>
  have⟨i,av,L,hi,hLi,htg,HT,HKW,hrd⟩:=hrel;have Y:=fN htg;have CP:=vh r R bg i ⟨#[32,9,10,12,47]⟩ wr hrd hi hs;have P0:=hrd.ps;have ap:=VW (R:=R) hi;have aO:=sx (R:=R) (ps:=i);clear htg hrd;go_wp21;refine CP.mono ?_;rintro e w5 ⟨rfl,a6,a8⟩;have a3:Hid (Rd w5 r R bg (iZ R i)):=a8;have X:=HKW.trans a6;have ai:=HT.kept a6 (by have:=N.out;omega) A;have CE:=ox r R bg (iZ R i) w5 a8;clear a6 a8 CP;by_cases S:iZ R i=R.cs.size
  .have eO:O= .lost:=by rw[<-Y.out,lH,dif_neg (by omega)]
   have EO:=fN eO;have e3:decide (iZ R i=R.cs.size)=true:=by simp[S]
   rw[e3]at CE;have K:=fN CE;have B:=X.at ag (by simp;omega);have d0:=fO B 0;have d1:=fO B 1;have d2:=fO B 2;have d3:=fO B 3;have f0:=gu B 0;have f1:=gu B 1;have f2:=gu B 2;have f3:=gu B 3;dsimp at d0 d1 d2 d3;clear CE e3 eO B;go_wp21;refine K.out.mono ?_;rintro e w6 ⟨rfl,q,rfl⟩;go_wp2;have ae:=(I.mono (S':=[r]) (by simp)).trans X;have E:w.heap.size≠r:=by omega
   rw[EO.out];refine o0 (v:= .tuple #[.agg #[ga 0,ga 0,gw kC,jV],.bool false]) ?_ rfl ⟨rfl,?_,?_⟩
   .simp[results,results243,asAddr,Result.andThen,go_sem,d0,d1,d2,d3]
   .exact((((ae.drewN q).setCell (.inr (gW _)) _).setCell (.inr (gW _)) _).setCell (.inr (gW _)) _).setCell (.inr (gW _)) _
   .have h6:Rd (w5.drewN q) r R bg R.cs.size:=by rw[<-S];exact a3.out
    exact(((h6.qo E _).qo E _).qo E _).qo E _
  .have e3:decide (iZ R i=R.cs.size)=false:=by simp[S]
   have T:iZ R i < R.cs.size:=by omega
   rw[e3]at CE;have K:=fN CE;clear CE e3;cases hgt:pre (R.cs.extract (iZ R i) R.cs.size) iO
   .have U:taken R iO (iZ R i)=iZ R i:=by unfold taken;rw[gI (by simp[hgt])]
    have H:=λq=>lx r R bg (iZ R i) iO (w5.drewN q) (show Rd (w5.drewN q) r R bg _ from a3.out) ap hs (by decide);rw[hgt,U]at H;clear U;go_wp21;refine K.out.mono ?_;rintro e w6 ⟨rfl,q,rfl⟩;go_wp21;refine(H q).mono ?_;rintro e w7 ⟨rfl,J,au⟩;have F:=(X.drewN q).trans J;have al:=(ai.kept ((Kept.refl [r] w5).drewN q) (by have:=N.out;omega) A).kept J (by have:=N.out;omega) A;have CA:=JM r P.heap.size R bg (iZ R i) g a4 b lg look cut 0 0 nm av L G w7 F (by have:=N.out;omega) A au (HA.kept F) (HN.kept F) (HG.kept F) al hb T hs (by omega);clear J au al H K;go_wp21;refine CA.mono ?_;intro e w8 D;by_cases Z:yU R (L.map (·.1)) (iZ R i)=true
    .rw[gN Z]at D;obtain⟨k,rfl,aw,aP,l⟩:=D;have eO:O= .stop:=by rw[<-Y.out,lH,xo T,gI (by simp[hgt]),gN Z]
     have HF:Hid (S9 w r R bg cut nm (.panicked [{v:= .iface 73 (gF k),recovered:=false}]) w8 O):=by
      rw[eO];exact⟨k,rfl,aw,by have:=N.out;omega,(I.mono (S':=[r]) (by simp)).trans l⟩
     clear aw l eO CA;go_wp2;exact⟨rfl,HF.out⟩
    .rw[gI Z]at D;obtain⟨rfl,aI,d,l,a9⟩:=D;have aj:lH R look lg (qT R look lg L (iZ R i)) (pw R (jZ R (iZ R i)))=O:=by
      rw[<-Y.out,lH.eq_1 R look lg L i,xo T,gI (by simp[hgt]),gI Z]
     have aJ:=F5 (R:=R) (look:=look) (lg:=lg) (L:=L) (ps:=iZ R i);have h2:=vT (R:=R) (ps:=iZ R i);have h3:=x9 (R:=R) (ps:=jZ R (iZ R i));have h4:=We (R:=R) (ID (R:=R) T);have ah:Hid (∃(i':Nat) (av:gG) (L:lh),i'<=R.cs.size/\L.length<=i'/\lH R look lg L i'=O/\A4 w8 G.heap.size P.heap.size 0 0 nm av L/\Kept [r] G w8/\Rd w8 r R bg i'):=
      ⟨_,aI,_,h4,by omega,aj,d,l,a9⟩
     have P8:=a9.ps;have aq:R.cs.size - pw R (jZ R (iZ R i)) < R.cs.size - i:=by omega
     clear d l a9 aj aJ CA h2 h3 h4;go_wp2;go_roundw
     case rel=>exact ah.out
     case measure=>rw[P8,P0];simpa [intOf]using aq
   .have U:taken R iO (iZ R i)=iZ R i+1:=by unfold taken;rw[gN hgt];rfl
    have H:=λq=>lx r R bg (iZ R i) iO (w5.drewN q) (show Rd (w5.drewN q) r R bg _ from a3.out) ap hs (by decide);rw[hgt,U]at H;have eO:O= .whole (iZ R i+1) L:=by rw[<-Y.out,lH,xo T,gN hgt]
    have EO:=fN eO;clear U eO;go_wp21;refine K.out.mono ?_;rintro e w6 ⟨rfl,q,rfl⟩;go_wp21;refine(H q).mono ?_;rintro e w7 ⟨rfl,J,af⟩;have F:=(X.drewN q).trans J;have aG:=(ai.kept ((Kept.refl [r] w5).drewN q) (by have:=N.out;omega) A).kept J (by have:=N.out;omega) A;have ab:=pN r R bg (iZ R i+1) g a4 cut w7 af (HA.kept F) hb (by omega) hs;clear J H K;go_wp21;refine ab.mono ?_;rintro e w8 ⟨rfl,l⟩;have ay:=(I.mono (S':=[r]) (by simp)).trans (F.trans (l.mono (by simp)));have d:=aG.kept (l.mono (by simp)) (r:=r) (by have:=N.out;omega) A;have aE:=af.kept l (by simp);have C:=(F.trans (l.mono (by simp))).at ag (by simp;omega);have⟨ao,cp,hav⟩:=gv d.own;subst hav;have t0:=fO d.ik 0;have t1:=fO d.ik 1;have t2:=fO d.ik 2;have t3:=fO d.ik 3;have g0:=gu d.ik 0;have g1:=gu d.ik 1;have d0:=fO C 0;have d1:=fO C 1;have d2:=fO C 2;have d3:=fO C 3;have f0:=gu C 0;have f1:=gu C 1;have f2:=gu C 2;have f3:=gu C 3;dsimp at t0 t1 t2 t3 d0 d1 d2 d3;have aK:w.heap.size≠P.heap.size:=by have:=A;have:=N.out;omega
    have aL:P.heap.size≠w.heap.size:=λh=>aK h.symm;have aA:=d.own;have aM:=V3 d.own d.ik (by decide);clear d C l ab;go_wp2;rw[EO.out];have E:w.heap.size≠r:=by omega
    have a2:P.heap.size≠r:=by have:=A;have:=N.out;omega
    have an:w.heap.size<=P.heap.size:=by have:=A;have:=N.out;omega
    refine o0 (v:= .tuple #[.agg #[ga (cut bg),ga (cut (iZ R i+1)),gw nm,.slice ao L.length cp],.bool true]) ?_ rfl ⟨⟨_,_,rfl,?_⟩,?_,?_⟩
    .simp[results,results243,asAddr,Result.andThen,go_sem,d0,d1,d2,d3]
    .have aN:∀(p:Addr) (u:gG) (W:gr),(p.block=w.heap.size\/p.block=P.heap.size)->W.ownsRow G.heap.size 295 2 (.slice ao L.length cp) L.length (rj L)->(W.setCell p u).ownsRow G.heap.size 295 2 (.slice ao L.length cp) L.length (rj L):=by
      intro p u W hp ho;refine yb ho ?_ u;intro e;rcases hp with hp|hp
      .have:=(aA.lt _ e).1;have:=N.out;omega
      .grind
     refine jU (base:=G.heap.size) ?_ (by have:=N.out;omega);grind
    .exact(((((ay.setCell (.inr an) _).setCell (.inr an) _).setCell (.inr (gW _)) _).setCell (.inr (gW _)) _).setCell (.inr (gW _)) _).setCell (.inr (gW _)) _
    .exact(((((aE.qo a2 _).qo a2 _).qo E _).qo E _).qo E _).qo E _
def Pe (R:RC) (ps:Nat):Bool:=decide (ps < R.cs.size)&&decide (97<=bt R.cs ps/\bt R.cs ps<=122\/65<=bt R.cs ps/\bt R.cs ps<=90)
def A9 (r:Nat) (R:RC) (bg ps:Nat) (w:gr) (h:Rd w r R bg ps) (d:ps<=R.cs.size) (k:R.cs.size<=1024):
  Calls prog 151 #[gF r,.func (.func 152) #[] #[]] w λe w'=>e=ir (.bool (Pe R ps))/\∃n,w'=w.drewN n:=
 Im r R bg ps _ _ _ w h d k (Pl w [r])
theorem Z8 (s:gn) (a:Nat) (h:a < s.size):(s.extract a s.size).extract 0 1=s.extract a (a+1):=by
 apply Cg;simp only[ByteArray.data_extract,Array.extract_extract];grind
theorem TX {r : Nat} {a b : Int} {W : gr} (d:Kept [r] w W) (k:Rd W r R bg ps) (g:W.heap[w.heap.size]?=some (gy #[ga 0,ga 0,gw kC] 184)) (p:r≠w.heap.size):
  Kept [r] w (((W.setCell ⟨w.heap.size,0,none⟩ (ga a)).setCell ⟨w.heap.size,1,none⟩ (ga b)).setCell ⟨w.heap.size,2,none⟩ (gw s))/\Rd (((W.setCell ⟨w.heap.size,0,none⟩ (ga a)).setCell ⟨w.heap.size,1,none⟩ (ga b)).setCell ⟨w.heap.size,2,none⟩ (gw s)) r R bg ps/\(((W.setCell ⟨w.heap.size,0,none⟩ (ga a)).setCell ⟨w.heap.size,1,none⟩ (ga b)).setCell ⟨w.heap.size,2,none⟩ (gw s)).heap[w.heap.size]?=some (gy #[ga a,ga b,gw s] 184):=by
 have l:Kept [w.heap.size] W (((W.setCell ⟨w.heap.size,0,none⟩ (ga a)).setCell ⟨w.heap.size,1,none⟩ (ga b)).setCell ⟨w.heap.size,2,none⟩ (gw s)):=(((Kept.refl [w.heap.size] W).setCell (.inl (by simp)) _).setCell (.inl (by simp)) _).setCell (.inl (by simp)) _;exact⟨((d.setCell (.inr (gW _)) _).setCell (.inr (gW _)) _).setCell (.inr (gW _)) _,k.kept l (by grind),fV (fV (fV g 0 _) 1 _) 2 _⟩
def Cw (r:Nat) (R:RC) (bg ps g A b lg:Nat) (look:gn->Option gn) (cut:Nat->Nat) (w:gr) (h:Rd w r R bg ps) (hA:KM w r R g A cut) (J:Nm w r R b lg look) (hb:bg < R.cs.size) (hs:R.cs.size<=1024):
  Calls prog 83 #[gF r] w λe w'=>e=ir (.agg #[ga (cut bg),ga (cut (bg+pD look lg (R.cs.extract bg R.cs.size))),gw (rv look lg (R.cs.extract bg R.cs.size))])/\Kept [r] w w'/\Rd w' r R bg (bg+pD look lg (R.cs.extract bg R.cs.size)):=by
 have t1:=h.text;have b1:=h.bg;have m1:=h.mv;have l1:=h.lg;rw[J.mv]at m1;rw[J.lgv]at l1;have hr:=je h;have Y:(R.cs.extract bg R.cs.size).size=R.cs.size - bg:=by simp
 have Z:=BQ (look:=look) (lg:=lg) (s:=R.cs.extract bg R.cs.size) (inV:=false);rw[Y]at Z;have C1:=(λW (q:Kept [] w W)=>PX b lg look (R.cs.extract bg R.cs.size) false W (J.lk.kept q (by simp)) J.le (by omega));have C2:=(λW (q:Kept [] w W)=>Cq r R bg ps g A cut W (h.kept q (by simp)) (hA.kept (q.mono (by simp))) hb hs);have D:=(Kept.refl [] w).alloc (gy #[ga 0,ga 0,gw kC] 184);have S:=fQ w (gy #[ga 0,ga 0,gw kC] 184);have l:=(show w.heap.size≠r by omega);have HR:=h;have HA:=hA;have P:=fN (Z8 R.cs bg hb);have HS:=fN (show pD look lg (R.cs.extract bg R.cs.size)=if lO look lg (R.cs.extract bg R.cs.size) false=0 then 1 else lO look lg (R.cs.extract bg R.cs.size) false from rfl);have HT:=fN (show rv look lg (R.cs.extract bg R.cs.size)=if lO look lg (R.cs.extract bg R.cs.size) false=0 then (R.cs.extract bg R.cs.size).extract 0 1 else nX look lg (R.cs.extract bg R.cs.size) false from rfl);generalize pD look lg (R.cs.extract bg R.cs.size)=cz at *;generalize rv look lg (R.cs.extract bg R.cs.size)=ct at *;generalize lO look lg (R.cs.extract bg R.cs.size) false=n at *;generalize nX look lg (R.cs.extract bg R.cs.size) false=L at *;go_enter func83,ntmps83;go_wp21
 go_cut [3,4]from 5 to 21 (λtv nv wc=>tv=gw L/\nv=ga n/\Kept [] w wc/\wc.heap[w.heap.size]?=some (gy #[ga 0,ga 0,gw kC] 184))
 case first=>
  go_region_with (go_at_call 160;refine(C1 _ D.drew).mono ?_;rintro e w1 ⟨rfl,B⟩;have V:=fN ((D.drew).trans B);have T:=fN ((((Kept.refl [] _).drew).trans B).at S (by simp));clear B)
  all_goals (try (go_wp21))
  all_goals (go_meet;exact⟨rfl,rfl,V,T⟩)
 case rest=>
  obtain⟨rfl,rfl,q,hg⟩:=hcut;have HK:=q;have HG:=hg;have K:=HR.kept q (by simp);by_cases I:n=0
  .have N:=C2 wc q;have G:cz=1:=by rw[HS.out,gN I]
   have H:ct=R.cs.extract bg (bg+1):=by rw[HT.out,gN I,P.out]
   have C:=fN G;have O:=fN H;clear G H;subst I;go_wp21;refine N.mono ?_;rintro e w2 ⟨rfl,k,a0⟩;have d:=k.at HG (by simpa using l);have q0:=fO d 0;have q1:=fO d 1;have q2:=fO d 2;have z0:=gu d 0;have z1:=gu d 1;have z2:=gu d 2;dsimp at q0 q1 q2;have u:=TX (a:=(cut bg:Int)) (b:=(cut (bg+1):Int)) (s:=R.cs.extract bg (bg+1)) ((HK.mono (by simp)).trans k) a0 d (λe=>l e.symm);go_wp2;refine o0 (v:= .agg #[ga (cut bg),ga (cut (bg+1)),gw (R.cs.extract bg (bg+1))]) ?_ rfl ⟨by rw[C.out,O.out],u.1,by rw[C.out];exact u.2.1⟩;have X:=fO u.2.2;simp[results,results83,asAddr,Result.andThen,go_sem,X]
  .have G:cz=n:=by rw[HS.out,gI I]
   have H:ct=L:=by rw[HT.out,gI I]
   have C:=fN G;have O:=fN H;have a1:((n:Int)==0)=false:=beq_eq_false_iff_ne.2 (by omega);have b2:=K.bg;have f2:=K.free 3;have p2:=K.ps;have E:=(q.mono (S':=[r]) (by simp)).setCell (p:=⟨r,3,none⟩) (.inl (by simp)) (ga ((bg+n:Nat)));have F:=K.LN (bg+n);have U:=(((Kept.refl [r] wc).setCell (p:=⟨r,3,none⟩) (.inl (by simp)) (ga ((bg+n:Nat))))).at hg (by simpa using l);have N:=pN r R bg (bg+n) g A cut _ F (HA.kept E) (by omega) (by omega) hs;clear G H;go_wp21;refine N.mono ?_;rintro e w2 ⟨rfl,k⟩;have d:=k.at U (by simp);have q0:=fO d 0;have q1:=fO d 1;have q2:=fO d 2;have z0:=gu d 0;have z1:=gu d 1;have z2:=gu d 2;dsimp at q0 q1 q2;have u:=TX (a:=(cut bg:Int)) (b:=(cut (bg+n):Int)) (s:=L) (E.trans (k.mono (by simp))) (F.kept k (by simp)) d (λe=>l e.symm);go_wp2;refine o0 (v:= .agg #[ga (cut bg),ga (cut (bg+n)),gw L]) ?_ rfl ⟨by rw[C.out,O.out],u.1,by rw[C.out];exact u.2.1⟩;have X:=fO u.2.2;simp[results,results83,asAddr,Result.andThen,go_sem,X]
inductive Q7 where
 |Va
 |Xf (t:gn)
 |SD (nm:gn) (L:lh)
 |fin (nm:gn) (L:lh)
 |Wq (t:gn)
 |dtp (nm:gn) (q:Bool)
 |lost
inductive zC where
 |stop
 |tok (kd:Q7) (e:Nat)
def Ut (base:Nat) (a b:Int) (v:gG) (w:gr):Q7->Prop
 | .Va=>v= .iface 182 (.agg #[ga a,ga b])
 | .Xf t=>v= .iface 184 (.agg #[ga a,ga b,gw t])
 | .SD nm L=>∃d k,v= .iface 192 (.agg #[ga a,ga b,gw nm,.slice d L.length k])/\w.ownsRow base 295 2 (.slice d L.length k) L.length (rj L)
 | .fin nm L=>∃d k,v= .iface 193 (.agg #[ga a,ga b,gw nm,.slice d L.length k])/\w.ownsRow base 295 2 (.slice d L.length k) L.length (rj L)
 | .Wq t=>v= .iface 194 (.agg #[ga a,ga b,gw t])
 | .dtp nm q=>v= .iface 196 (.agg #[ga a,ga b,gw nm,.bool q])
 | .lost=>v= .iface 186 (.agg #[ga a,ga b])
def Ut.base {base d : Nat} {a b : Int} {k : Q7} (h:Ut base a b v w k) (l:d<=base):Ut d a b v w k:=by
 cases k with
 |SD nm L=>have⟨ao,cp,h1,h2⟩:=h;exact⟨ao,cp,h1,jU h2 l⟩
 |fin nm L=>have⟨ao,cp,h1,h2⟩:=h;exact⟨ao,cp,h1,jU h2 l⟩
 |_=>exact h
def nL (w:gr) (r:Nat) (R:RC) (bg:Nat) (cut:Nat->Nat) (e:Ending) (w':gr):zC->Prop
 | .stop=>∃k,e= .panicked [{v:= .iface 73 (gF k),recovered:=false}]/\SI w' k 7 (cut bg)/\w.heap.size<=k/\Kept [r] w w'
 | .tok kd m=>(∃v,e=ir v/\Ut w.heap.size (cut bg) (cut m) v w' kd)/\Kept [r] w w'/\Rd w' r R bg m
def nL.back {w1 : gr} {r : Nat} {e : Ending} {T : zC} (h:nL w1 r R bg cut e w' T) (d:Kept [r] w w1):nL w r R bg cut e w' T:=by
 cases T with
 |stop=>have⟨k,h1,h2,h3,h4⟩:=h;exact⟨k,h1,h2,jH d.size h3,d.trans h4⟩
 |tok kd m=>have⟨⟨v,h1,h2⟩,h3,h4⟩:=h;exact⟨⟨v,h1,h2.base d.size⟩,d.trans h3,h4⟩
def sT (R:RC) (d:gn->lh->Q7) (nm:gn):GN->zC
 | .stop=> .stop
 | .lost=> .tok .lost R.cs.size
 | .whole m L=> .tok (d nm L) m
structure S8 (w:gr) (r:Nat) (R:RC) (g cap b lg:Nat) (look:gn->Option gn) (cut:Nat->Nat):Prop where
 gx:KM w r R g cap cut
 VA:Nm w r R b lg look
 gl:Gl w r
 small:R.cs.size<=1024
def S8.kept {r : Nat} {d : Nat} (h:S8 w r R g d b lg look cut) (k:Kept [r] w w'):S8 w' r R g d b lg look cut:=
 ⟨h.gx.kept k,h.VA.kept k,h.gl.kept k,h.small⟩
def SH (r:Nat) (R:RC) (bg ps g l b lg:Nat) (look:gn->Option gn) (cut:Nat->Nat) (w:gr) (h:Rd w r R bg ps) (q:S8 w r R g l b lg look cut) (K:bg<=R.cs.size) (X:ps<=R.cs.size):
  Calls prog 153 #[gF r] w λe w'=>nL w r R bg cut e w' (sT R .SD (xZ R ps) (lH R look lg [] (xY R ps))):=by
 have C:=Ua r R bg ps g l b lg look cut w h q.gx q.VA q.gl K X q.small;have J:=q;generalize xZ R ps=nm at C|-;generalize lH R look lg [] (xY R ps)=O at C|-;cases O with
 |stop=>
  go_enter func153,ntmps153;go_wp21;refine C.mono ?_;rintro e p ⟨k,rfl,P,U,S⟩;go_wp2;exact⟨rfl,k,rfl,P,U,S⟩
 |lost=>
  go_enter func153,ntmps153;go_wp21;refine C.mono ?_;rintro e p ⟨rfl,T,I⟩;have A:Kept [] p (p.alloc (.cells #[ga 0,ga 0,gw kC,jV] 190)):=(Kept.refl _ _).alloc _;have B:=I.kept A (by simp);have d:=T.trans (A.mono (by simp));have N:=pN r R bg R.cs.size g l cut _ B (J.kept d).gx K (gW _) J.small;go_wp21;refine N.mono ?_;rintro e Y ⟨rfl,u⟩;have D:=d.trans (u.mono (by simp));have F:=B.kept u (by simp);go_wp2;go_ret;exact⟨⟨_,rfl,rfl⟩,D,F⟩
 |whole m L=>
  go_enter func153,ntmps153;go_wp21;refine C.mono ?_;rintro e p ⟨⟨G,H,rfl,W⟩,V,I⟩;have A:Kept [] p (p.alloc (.cells #[ga (cut bg),ga (cut m),gw nm,.slice G L.length H] 190)):=(Kept.refl _ _).alloc _;have B:=I.kept A (by simp);have d:=V.trans (A.mono (by simp));have E:=W.alloc (.cells #[ga (cut bg),ga (cut m),gw nm,.slice G L.length H] 190);go_wp2;go_ret;exact⟨⟨_,rfl,G,H,rfl,E⟩,d,B⟩
def Xu (r:Nat) (R:RC) (bg ps g l b lg:Nat) (look:gn->Option gn) (cut:Nat->Nat) (w:gr) (h:Rd w r R bg ps) (q:S8 w r R g l b lg look cut) (K:bg<=R.cs.size) (X:ps<=R.cs.size):
  Calls prog 244 #[gF r] w λe w'=>nL w r R bg cut e w' (sT R .fin (xZ R ps) (lH R look lg [] (xY R ps))):=by
 have C:=Ua r R bg ps g l b lg look cut w h q.gx q.VA q.gl K X q.small;have J:=q;generalize xZ R ps=nm at C|-;generalize lH R look lg [] (xY R ps)=O at C|-;cases O with
 |stop=>
  go_enter func244,ntmps244;go_wp21;refine C.mono ?_;rintro e p ⟨k,rfl,P,U,S⟩;go_wp2;exact⟨rfl,k,rfl,P,U,S⟩
 |lost=>
  go_enter func244,ntmps244;go_wp21;refine C.mono ?_;rintro e p ⟨rfl,T,I⟩;have A:Kept [] p (p.alloc (.cells #[ga 0,ga 0,gw kC,jV] 190)):=(Kept.refl _ _).alloc _;have B:=I.kept A (by simp);have d:=T.trans (A.mono (by simp));have N:=pN r R bg R.cs.size g l cut _ B (J.kept d).gx K (gW _) J.small;go_wp21;refine N.mono ?_;rintro e Y ⟨rfl,u⟩;have D:=d.trans (u.mono (by simp));have F:=B.kept u (by simp);go_wp2;go_ret;exact⟨⟨_,rfl,rfl⟩,D,F⟩
 |whole m L=>
  go_enter func244,ntmps244;go_wp21;refine C.mono ?_;rintro e p ⟨⟨G,H,rfl,W⟩,V,I⟩;have A:Kept [] p (p.alloc (.cells #[ga (cut bg),ga (cut m),gw nm,.slice G L.length H] 190)):=(Kept.refl _ _).alloc _;have B:=I.kept A (by simp);have d:=V.trans (A.mono (by simp));have E:=W.alloc (.cells #[ga (cut bg),ga (cut m),gw nm,.slice G L.length H] 190);go_wp2;go_ret;exact⟨⟨_,rfl,G,H,rfl,E⟩,d,B⟩
def uZ (R:RC) (look:gn->Option gn) (lg bg:Nat):zC:= .tok (.Xf (rv look lg (R.cs.extract bg R.cs.size))) (bg+pD look lg (R.cs.extract bg R.cs.size))
def mJ (R:RC) (look:gn->Option gn) (lg bg ps:Nat):zC:=
 if Pe R ps=true then sT R .fin (xZ R ps) (lH R look lg [] (xY R ps))
 else if pre (R.cs.extract ps R.cs.size) iO=true then .tok .lost (ps+1)
 else if ps=R.cs.size then uZ R look lg bg
 else .tok (.Wq (oq (R.cs.extract ps (scan (jl iO) R.cs ps)))) (qY R ps)
def JP (r:Nat) (R:RC) (bg ps g p b lg:Nat) (look:gn->Option gn) (cut:Nat->Nat) (w:gr) (h:Rd w r R bg ps) (hO:S8 w r R g p b lg look cut) (hb:bg < R.cs.size) (U:ps<=R.cs.size):
  Calls prog 154 #[gF r] w λe w'=>nL w r R bg cut e w' (mJ R look lg bg ps):=by
 have O:=hO;have HR:=h;have V:=hO.small;have L:=A9 r R bg ps w h U V;have a5:∀(fn:Fn) (first p:jE) (w:gr),(Instr.makeFunc fn first p).run prog w= .ok (.func fn first p) w:=λ_ _ _ _=>rfl;cases hl:Pe R ps
 .rw[hl]at L;have A:=fN L;have N:=λq=>lx r R bg ps iO (w.drewN q) (show Rd (w.drewN q) r R bg ps from HR) U V (by decide);clear L;cases hgt:pre (R.cs.extract ps R.cs.size) iO
  .have K:taken R iO ps=ps:=by unfold taken;rw[gI (by simp[hgt])]
   rw[hgt,K]at N;have F:=fN N;clear N;by_cases u:ps=R.cs.size
   .have I:mJ R look lg bg ps=uZ R look lg bg:=by unfold mJ;rw[gI (by simp[hl]),gI (by simp[hgt]),gN u]
    rw[I];have e3:decide (ps=R.cs.size)=true:=by simp[u]
    go_enter func154,ntmps154;go_wp21;refine A.mono ?_;rintro e W ⟨rfl,q,rfl⟩;go_wp21;refine(F q).mono ?_;rintro e G ⟨rfl,C,l⟩;have d:=((Kept.refl [r] w).drewN q).trans C;have B:=ox r R bg ps G l;rw[e3]at B;go_wp21;refine B.mono ?_;rintro e w3 ⟨rfl,E,rfl⟩;have H:=Cw r R bg ps g p b lg look cut (G.drewN E) (show Rd (G.drewN E) r R bg ps from l) (O.kept (d.drewN E)).gx (O.kept (d.drewN E)).VA hb V;go_wp21;refine H.mono ?_;rintro e X ⟨rfl,D,J⟩;have Y:=(show nL w r R bg cut (ir (.iface 184 (.agg #[ga (cut bg),ga (cut (bg+pD look lg (R.cs.extract bg R.cs.size))),gw (rv look lg (R.cs.extract bg R.cs.size))]))) X (uZ R look lg bg)from⟨⟨_,rfl,rfl⟩,(d.drewN E).trans D,J⟩);go_wp2;go_ret;exact Y
   .have I:mJ R look lg bg ps= .tok (.Wq (oq (R.cs.extract ps (scan (jl iO) R.cs ps)))) (qY R ps):=by unfold mJ;rw[gI (by simp[hl]),gI (by simp[hgt]),gI u]
    rw[I];have e3:decide (ps=R.cs.size)=false:=by simp[u]
    go_enter func154,ntmps154;go_wp21;refine A.mono ?_;rintro e W ⟨rfl,q,rfl⟩;go_wp21;refine(F q).mono ?_;rintro e G ⟨rfl,C,l⟩;have d:=((Kept.refl [r] w).drewN q).trans C;have B:=ox r R bg ps G l;rw[e3]at B;go_wp21;refine B.mono ?_;rintro e w3 ⟨rfl,E,rfl⟩;have P:=O.kept (d.drewN E);have H:=tJ r R bg ps g p cut (G.drewN E) (show Rd (G.drewN E) r R bg ps from l) P.gx P.gl (by omega) U V;go_wp21;refine H.mono ?_;rintro e X ⟨rfl,D,a2⟩;have a0:=(d.drewN E).trans D;go_wp2;go_ret;exact⟨⟨_,rfl,rfl⟩,a0,a2⟩
  .have K:taken R iO ps=ps+1:=by unfold taken;rw[gN hgt];rfl
   have a4:ps+1<=R.cs.size:=lu hgt U;rw[hgt,K]at N;have F:=fN N;have I:mJ R look lg bg ps= .tok .lost (ps+1):=by unfold mJ;rw[gI (by simp[hl]),gN hgt]
   rw[I];clear N;go_enter func154,ntmps154;go_wp21;refine A.mono ?_;rintro e W ⟨rfl,q,rfl⟩;go_wp21;refine(F q).mono ?_;rintro e G ⟨rfl,C,l⟩;have d:=((Kept.refl [r] w).drewN q).trans C;have CP:=pN r R bg (ps+1) g p cut G l (O.kept d).gx (by omega) a4 V;go_wp21;refine CP.mono ?_;rintro e w3 ⟨rfl,S⟩;have Z:=d.trans (S.mono (by simp));have a1:=l.kept S (by simp);go_wp2;go_ret;exact⟨⟨_,rfl,rfl⟩,Z,a1⟩
 .rw[hl]at L;have A:=fN L;have I:mJ R look lg bg ps=sT R .fin (xZ R ps) (lH R look lg [] (xY R ps)):=by unfold mJ;rw[gN hl]
  rw[I];have H:=(λq=>Xu r R bg ps g p b lg look cut (w.drewN q) (show Rd (w.drewN q) r R bg ps from HR) (O.kept ((Kept.refl [r] w).drewN q)) (by omega) U);generalize sT R .fin (xZ R ps) (lH R look lg [] (xY R ps))=T at H|-;clear L;cases T with
  |stop=>
   go_enter func154,ntmps154;go_wp21;refine A.mono ?_;rintro e W ⟨rfl,q,rfl⟩;go_wp21;refine(H q).mono ?_;rintro e W ⟨k,rfl,H2,h3,h4⟩;have H4:=((Kept.refl [r] w).drewN q).trans h4;have a3:w.heap.size<=k:=h3;go_wp2;exact⟨rfl,k,rfl,H2,a3,H4⟩
  |tok kd m=>
   go_enter func154,ntmps154;go_wp21;refine A.mono ?_;rintro e W ⟨rfl,q,rfl⟩;go_wp21;refine(H q).mono ?_;rintro e X ⟨⟨v,rfl,hv⟩,D,J⟩;have Y:=(show nL w r R bg cut (ir v) X (.tok kd m)from⟨⟨v,rfl,hv⟩,((Kept.refl [r] w).drewN q).trans D,J⟩);go_wp2;go_ret;exact Y
def isQ (R:RC) (ps:Nat):Bool:=decide (ps < R.cs.size)&&jl ⟨#[63]⟩ (bt R.cs ps)
def qJ (R:RC) (look:gn->Option gn) (lg bg ps:Nat):zC:=
 if Pe R ps=true then sT R .SD (xZ R ps) (lH R look lg [] (xY R ps))
 else if pre (R.cs.extract ps R.cs.size) ⟨#[47]⟩=true then mJ R look lg bg (ps+1)
 else if pre (R.cs.extract ps R.cs.size) ⟨#[33,45,45]⟩=true then .tok (.Wq (oq (nN R (ps+3)))) (nC R (ps+3))
 else if zi R lC ps=true then .tok (.dtp (Rr R (ps+8)) (dtQ R (ps+8))) (qY R (Ft R (ps+8)))
 else if pre (R.cs.extract ps R.cs.size) ⟨#[33]⟩=true then .tok (.Wq (oq (R.cs.extract (ps+1) (scan (jl iO) R.cs (ps+1))))) (qY R (ps+1))
 else if isQ R ps=true then .tok (.Wq (oq (R.cs.extract ps (scan (jl iO) R.cs ps)))) (qY R ps)
 else uZ R look lg bg
theorem Pc (h:zi R s ps=true) (d:ps<=R.cs.size):ps+s.size<=R.cs.size:=by
 unfold zi at h;grind
theorem X1 (r:Nat) (R:RC) (bg ps:Nat) (w:gr) (h:Rd w r R bg ps) (l:ps<=R.cs.size) (p:R.cs.size<=1024):
  Calls prog 151 #[gF r,.func (.func 250) #[] #[gF w.heap.size]] (w.alloc (.cells #[gw ⟨#[63]⟩] 9))
   λe w'=>e=ir (.bool (isQ R ps))/\Kept [r] w w'/\Rd w' r R bg ps:=by
 have q:=je h;have k:Kept [] w (w.alloc (.cells #[gw ⟨#[63]⟩] 9)):=(Kept.refl _ _).alloc _;have b:=fQ w (.cells #[gw ⟨#[63]⟩] 9);refine(Im r R bg ps _ _ _ _ (k.at h (by simp)) l p (Bs _ [r] w.heap.size ⟨#[63]⟩ (by simp) (by simp) (by grind))).mono ?_;rintro e w' ⟨d,n,rfl⟩;exact⟨d,(k.mono (by simp)).drewN n,k.at h (by simp)⟩
def Mn (r:Nat) (R:RC) (bg ps g D b lg:Nat) (look:gn->Option gn) (cut:Nat->Nat) (w:gr) (h:Rd w r R bg ps) (P:S8 w r R g D b lg look cut) (hb:bg < R.cs.size) (E:ps<=R.cs.size):
  Calls prog 82 #[gF r] w λe w'=>nL w r R bg cut e w' (qJ R look lg bg ps):=by
 have G:=P.small;have a0:=A9 r R bg ps w h E G;obtain⟨T,u⟩:∃T,qJ R look lg bg ps=T:=⟨_,rfl⟩;rw[u];unfold qJ at u;go_enter func82,ntmps82;go_wp21;refine a0.mono ?_;rintro e w1 ⟨rfl,q,rfl⟩;have H:=(Kept.refl [r] w).drewN q;have S:Rd (w.drewN q) r R bg ps:=h;cases c0:Pe R ps with
 |true=>
  rw[gN c0]at u;have d:=P.kept H;have C:=SH r R bg ps g D b lg look cut (w.drewN q) S d (by omega) E;rw[u]at C;cases T with
  |stop=>
   go_wp21;refine C.mono ?_;rintro e F ⟨k,rfl,h2,h3,h4⟩;have J:=nL.back (show nL (w.drewN q) r R bg cut _ F .stop from⟨k,rfl,h2,h3,h4⟩) H;go_wp2;exact⟨rfl,J⟩
  |tok kd m=>
   go_wp21;refine C.mono ?_;rintro e F ⟨⟨v,rfl,hv⟩,p,l⟩;have J:=nL.back (show nL (w.drewN q) r R bg cut (ir v) F (.tok kd m)from⟨⟨v,rfl,hv⟩,p,l⟩) H;go_wp2;go_ret;exact J
 |false=>
  rw[gI (by simp[c0])]at u;have V:=lx r R bg ps ⟨#[47]⟩ (w.drewN q) S E G (by decide);go_wp21;refine V.mono ?_;rintro e U ⟨rfl,p,l⟩;have I:=H.trans p;unfold taken at l;cases c1:pre (R.cs.extract ps R.cs.size) ⟨#[47]⟩with
  |true=>
   rw[gN c1]at u l;have d:=P.kept I;have C:=JP r R bg (ps+1) g D b lg look cut U l d hb (lu c1 E);rw[u]at C;cases T with
   |stop=>
    go_wp21;refine C.mono ?_;rintro e F ⟨k,rfl,h2,h3,h4⟩;have J:=nL.back (show nL U r R bg cut _ F .stop from⟨k,rfl,h2,h3,h4⟩) I;go_wp2;exact⟨rfl,J⟩
   |tok kd m=>
    go_wp21;refine C.mono ?_;rintro e F ⟨⟨v,rfl,hv⟩,p,l⟩;have J:=nL.back (show nL U r R bg cut (ir v) F (.tok kd m)from⟨⟨v,rfl,hv⟩,p,l⟩) I;go_wp2;go_ret;exact J
  |false=>
   rw[gI (by simp[c1])]at u l;have W:=lx r R bg ps ⟨#[33,45,45]⟩ U l E G (by decide);go_wp21;refine W.mono ?_;rintro e w3 ⟨rfl,p,l⟩;have K:=I.trans p;unfold taken at l;cases c2:pre (R.cs.extract ps R.cs.size) ⟨#[33,45,45]⟩with
   |true=>
    rw[gN c2]at u l;have d:=P.kept K;have C:=(Ox r R bg (ps+3) g D cut w3 l d.gx d.gl (by omega) (lu c2 E) G);subst u;go_wp21;refine C.mono ?_;rintro e F ⟨rfl,p,B⟩;have A:=K.trans p;go_wp2;go_ret;exact⟨⟨_,rfl,rfl⟩,A,B⟩
   |false=>
    rw[gI (by simp[c2])]at u l;have X:=Qx r R bg ps lC w3 l E G (by decide);go_wp21;refine X.mono ?_;rintro e w4 ⟨rfl,p,l⟩;have L:=K.trans p;cases c3:zi R lC ps with
    |true=>
     rw[gN c3]at u l;have d:=P.kept L;have C:=(JZ r R bg (ps+8) g D cut w4 l d.gx d.gl (by omega) (Pc c3 E) G);subst u;go_wp21;refine C.mono ?_;rintro e F ⟨rfl,p,B⟩;have A:=L.trans p;go_wp2;go_ret;exact⟨⟨_,rfl,rfl⟩,A,B⟩
    |false=>
     rw[gI (by simp[c3])]at u l;have Y:=lx r R bg ps ⟨#[33]⟩ w4 l E G (by decide);go_wp21;refine Y.mono ?_;rintro e w5 ⟨rfl,p,l⟩;have N:=L.trans p;unfold taken at l;cases c4:pre (R.cs.extract ps R.cs.size) ⟨#[33]⟩with
     |true=>
      rw[gN c4]at u l;have d:=P.kept N;have C:=(tJ r R bg (ps+1) g D cut w5 l d.gx d.gl (by omega) (lu c4 E) G);subst u;go_wp21;refine C.mono ?_;rintro e F ⟨rfl,p,B⟩;have A:=N.trans p;go_wp2;go_ret;exact⟨⟨_,rfl,rfl⟩,A,B⟩
     |false=>
      rw[gI (by simp[c4])]at u l;go_wp21;refine(oG _ _).mono ?_;rintro e wq ⟨rfl,rfl⟩;have Z:=X1 r R bg ps w5 l E G;go_wp21;refine Z.mono ?_;rintro e w6 ⟨rfl,p,l⟩;have O:=N.trans p;have d:=P.kept O;cases c5:isQ R ps with
      |true=>
       rw[gN c5]at u;have C:=(tJ r R bg ps g D cut w6 l d.gx d.gl (by omega) E G);subst u;go_wp21;refine C.mono ?_;rintro e F ⟨rfl,p,B⟩;have A:=O.trans p;go_wp2;go_ret;exact⟨⟨_,rfl,rfl⟩,A,B⟩
      |false=>
       rw[gI (by simp[c5])]at u;have C:=(Cw r R bg ps g D b lg look cut w6 l d.gx d.VA hb G);subst u;go_wp21;refine C.mono ?_;rintro e F ⟨rfl,p,B⟩;have A:=O.trans p;go_wp2;go_ret;exact⟨⟨_,rfl,rfl⟩,A,B⟩
def wA (t:gn):gn:=⟨(Lib.trimPrefix t.data.toList [60,47]).toArray⟩
def JY (t:gn):Bool:=Lib.hasPrefix t.data.toList [60,47]
theorem Gx (t:gn):(wA t).size<=t.size:=by
 have e1:t.size=t.data.toList.length:=Ch t;have e2:(wA t).size=(Lib.trimPrefix t.data.toList [60,47]).length:=by
  rw[Ch];simp[wA]
 rw[e1,e2];unfold Lib.trimPrefix;grind
def MW (R:RC) (nm:gn) (ps:Nat):Bool:=
 JY (R.cs.extract ps R.cs.size)&&decide (nm.size < (wA (R.cs.extract ps R.cs.size)).size)&&((small ((wA (R.cs.extract ps R.cs.size)).extract 0 nm.size)).toList==nm.toList)&&jl ji (bt (wA (R.cs.extract ps R.cs.size)) nm.size)
def Fe (v:gG) (W:gr):Prop:=∃b,v= .func (.func 250) #[] #[gF b]/\b < W.heap.size/\W.cell? ⟨b,0,none⟩=some (gw ji)
def Fe.k {v:gG} {W d:gr} (h:Fe v W) (k:Kept [] W d):Fe v d:=by
 have⟨b,h1,h2,h3⟩:=h;exact⟨b,h1,mf h2 k.size,(k.cell (p:=⟨b,0,none⟩) h2 (by simp)).trans h3⟩
def Fe.new (W:gr):Fe (.func (.func 250) #[] #[gF W.heap.size]) (W.alloc (.cells #[gw ji] 9)):=by
 simp[Fe]
def acR (r:Nat) (R:RC) (bg ps:Nat) (nm:gn) (w:gr) (h:Rd w r R bg ps) (H:ps<=R.cs.size) (I:R.cs.size<=1024) (E:JY (R.cs.extract ps R.cs.size)=false):
  Calls prog 146 #[gF r,gw nm] w λe w'=>e=ir (.bool false)/\Kept [] w w':=by
 have A:=fN (vY r R bg ps w h H I);have K:=Gx (R.cs.extract ps R.cs.size);have k:(R.cs.extract ps R.cs.size).size=R.cs.size - ps:=by simp
 rw[k]at K;clear h k;generalize R.cs.extract ps R.cs.size=t at *;have l:=fN (λw=>Tryz.strings_CutPrefix t pK w);simp only at l;rw[show(⟨(Lib.trimPrefix t.data.toList [60,47]).toArray⟩:gn)=wA t from rfl,show Lib.hasPrefix t.data.toList [60,47]=JY t from rfl]at l;generalize wA t=s at *;rw[E]at l;obtain⟨u,J⟩:∃u:gn,u=⟨#[]⟩:=⟨_,rfl⟩;obtain⟨c,D⟩:∃c:Int,c=0:=⟨_,rfl⟩;clear E J D;go_enter func146,ntmps146;go_wp21;refine A.out.mono ?_;rintro e O ⟨rfl,q,rfl⟩;go_wp21;refine(l.out _).mono ?_;rintro e w' ⟨rfl,rfl⟩;go_wp21;refine uU (by rfl) ?_;refine od (λ(g:Unit) z=>⟨#[gF r,gw nm,undef,undef,.bool false,gw s,.bool false,ga nm.size,.tuple #[gw s,.bool false],gF r,gw t,.tuple #[gw s,.bool false],gw s,.bool false,gw nm,ga nm.size,cd z 0 (.bool false),cd z 1 (.bool false),undef,undef,undef,undef,cd z 6 (.bool false),cd z 7 (.bool false),undef,undef,undef,undef,undef,undef,cd z 14 (.bool false),cd z 15 (.bool false),undef,undef,undef,undef,undef,cd z 21 (.bool false)],[]⟩) (λg z W=>Kept [] w W) 23 [[],[0],[1],[1],[1],[1],[1],[6],[7],[7],[7],[7],[7],[7],[7],[14],[15],[15],[15],[15],[15],[15],[21]] (()) rfl (by rfl) (((Kept.refl [] w).drewN q).drew) ?_ ?_
 .repeat' first|exact lp|refine ln ?_ ?_
  all_goals
   rintro g z W p C N;simp[zE]at C;refine mK rfl ?_;intro L B;simp only[kX,C];go_simp
   first
   |refine B _ _ ⟨g,?_,p⟩
   simp[ot,uP,kX,C]
 .rintro g W p;simp only[uF];have F:=fN p;clear p;rename_i G d;refine d _ _ ?_;clear d G;go_wp2;go_ret;exact⟨rfl,F.out⟩
def acS (r:Nat) (R:RC) (bg ps:Nat) (nm:gn) (w:gr) (h:Rd w r R bg ps) (I:ps<=R.cs.size) (J:R.cs.size<=1024) (E:JY (R.cs.extract ps R.cs.size)=true) (O:¬nm.size < (wA (R.cs.extract ps R.cs.size)).size):
  Calls prog 146 #[gF r,gw nm] w λe w'=>e=ir (.bool false)/\Kept [] w w':=by
 have A:=fN (vY r R bg ps w h I J);have L:=Gx (R.cs.extract ps R.cs.size);have k:(R.cs.extract ps R.cs.size).size=R.cs.size - ps:=by simp
 rw[k]at L;clear h k;generalize R.cs.extract ps R.cs.size=t at *;have l:=fN (λw=>Tryz.strings_CutPrefix t pK w);simp only at l;rw[show(⟨(Lib.trimPrefix t.data.toList [60,47]).toArray⟩:gn)=wA t from rfl,show Lib.hasPrefix t.data.toList [60,47]=JY t from rfl]at l;generalize wA t=s at *;rw[E]at l;obtain⟨u,K⟩:∃u:gn,u=⟨#[]⟩:=⟨_,rfl⟩;obtain⟨c,D⟩:∃c:Int,c=0:=⟨_,rfl⟩;have F:=fN (eq_false (show ¬(nm.size:Int) < (s.size:Int) by omega));clear E K D;go_enter func146,ntmps146;go_wp21;refine A.out.mono ?_;rintro e S ⟨rfl,q,rfl⟩;go_wp21;refine(l.out _).mono ?_;rintro e w' ⟨rfl,rfl⟩;go_wp21;refine uU (by rfl) ?_;refine od (λ(g:Unit) z=>⟨#[gF r,gw nm,undef,undef,.bool false,gw s,.bool true,ga nm.size,.tuple #[gw s,.bool true],gF r,gw t,.tuple #[gw s,.bool true],gw s,.bool true,gw nm,ga nm.size,cd z 0 (.bool true),cd z 1 (.bool true),cd z 2 (gw s),cd z 3 (ga s.size),cd z 4 (ga nm.size),cd z 5 (.bool false),cd z 6 (.bool false),cd z 7 (.bool false),undef,undef,undef,undef,undef,undef,cd z 14 (.bool false),cd z 15 (.bool false),undef,undef,undef,undef,undef,cd z 21 (.bool false)],[]⟩) (λg z W=>Kept [] w W) 23 [[],[0],[1],[1,2],[1],[1,3,4],[1,5],[6],[7],[7],[7],[7],[7],[7],[7],[14],[15],[15],[15],[15],[15],[15],[21]] (()) rfl (by rfl) (((Kept.refl [] w).drewN q).drew) ?_ ?_
 .repeat' first|exact lp|refine ln ?_ ?_
  all_goals
   rintro g z W p C P;simp[zE]at C;refine mK rfl ?_;intro N B;simp only[kX,C]
   try simp only[F.out]
   go_simp
   first
   |refine B _ _ ⟨g,?_,p⟩
   simp[ot,uP,kX,C]
 .rintro g W p;simp only[uF];have G:=fN p;clear p;rename_i H d;refine d _ _ ?_;clear d H;go_wp2;go_ret;exact⟨rfl,G.out⟩
def acT (r:Nat) (R:RC) (bg ps:Nat) (nm:gn) (w:gr) (h:Rd w r R bg ps) (L:ps<=R.cs.size) (N:R.cs.size<=1024) (G:JY (R.cs.extract ps R.cs.size)=true) (V:nm.size < (wA (R.cs.extract ps R.cs.size)).size) (U:((small ((wA (R.cs.extract ps R.cs.size)).extract 0 nm.size)).toList==nm.toList)=false):
  Calls prog 146 #[gF r,gw nm] w λe w'=>e=ir (.bool false)/\Kept [] w w':=by
 have B:=fN (vY r R bg ps w h L N);have O:=Gx (R.cs.extract ps R.cs.size);have p:(R.cs.extract ps R.cs.size).size=R.cs.size - ps:=by simp
 rw[p]at O;clear h p;generalize R.cs.extract ps R.cs.size=t at *;have A:=fN (λw=>Tryz.strings_CutPrefix t pK w);simp only at A;rw[show(⟨(Lib.trimPrefix t.data.toList [60,47]).toArray⟩:gn)=wA t from rfl,show Lib.hasPrefix t.data.toList [60,47]=JY t from rfl]at A;generalize wA t=s at *;rw[G]at A;have K:(s.extract 0 nm.size).size=nm.size:=by simp;omega
 have C:=fN (λW=>vz (s.extract 0 nm.size) W (by omega));have H:=fN (eq_true (show(nm.size:Int) < (s.size:Int) by omega));clear K;generalize small (s.extract 0 nm.size)=u at *;obtain⟨c,E⟩:∃c:Int,c=0:=⟨_,rfl⟩;clear G E;go_enter func146,ntmps146;go_wp21;refine B.out.mono ?_;rintro e Y ⟨rfl,q,rfl⟩;go_wp21;refine(A.out _).mono ?_;rintro e w' ⟨rfl,rfl⟩;go_wp21;refine uU (by rfl) ?_;refine od (λ(g:Unit) z=>⟨#[gF r,gw nm,undef,undef,.bool false,gw s,.bool true,ga nm.size,.tuple #[gw s,.bool true],gF r,gw t,.tuple #[gw s,.bool true],gw s,.bool true,gw nm,ga nm.size,cd z 0 (.bool true),cd z 1 (.bool true),cd z 2 (gw s),cd z 3 (ga s.size),cd z 4 (ga nm.size),cd z 5 (.bool true),cd z 6 (.bool true),cd z 7 (.bool true),cd z 8 (gw s),cd z 9 (ga nm.size),cd z 10 (gw (s.extract 0 nm.size)),cd z 11 (gw u),cd z 12 (gw nm),cd z 13 (.bool false),cd z 14 (.bool false),cd z 15 (.bool false),undef,undef,undef,undef,undef,cd z 21 (.bool false)],[]⟩) (λg z W=>Kept [] w W) 23 [[],[0],[1],[1,2],[1],[1,3,4],[1,5],[6],[7],[7],[7,8,9],[7,10],[7],[7,11,12],[7,13],[14],[15],[15],[15],[15],[15],[15],[21]] (()) rfl (by rfl) (((Kept.refl [] w).drewN q).drew) ?_ ?_
 .repeat' first|exact lp|refine ln ?_ ?_
  all_goals
   rintro g z W d D X;simp[zE]at D;refine mK rfl ?_;intro P k;simp only[kX,D]
   try simp only[H.out]
   go_simp
   try (rw[gN (by omega)];go_simp)
   first
   |refine k _ _ ⟨g,?_,d⟩
   |refine(C.out W).mono ?_;rintro T S ⟨rfl,F⟩;refine k _ _ ⟨g,?_,d.trans F⟩
   simp[ot,uP,kX,D]
 .rintro g W d;simp only[uF];have I:=fN d;clear d;rename_i J l;refine l _ _ ?_;clear l J;go_wp2;go_ret;exact⟨rfl,I.out⟩
def acU (r:Nat) (R:RC) (bg ps:Nat) (nm:gn) (w:gr) (h:Rd w r R bg ps) (Y:ps<=R.cs.size) (Z:R.cs.size<=1024) (L:JY (R.cs.extract ps R.cs.size)=true) (X:nm.size < (wA (R.cs.extract ps R.cs.size)).size) (he:((small ((wA (R.cs.extract ps R.cs.size)).extract 0 nm.size)).toList==nm.toList)=true):
  Calls prog 146 #[gF r,gw nm] w λe w'=>e=ir (.bool (jl ji (bt (wA (R.cs.extract ps R.cs.size)) nm.size)))/\Kept [] w w':=by
 have E:=fN (vY r R bg ps w h Y Z);have hz:=Gx (R.cs.extract ps R.cs.size);have A:(R.cs.extract ps R.cs.size).size=R.cs.size - ps:=by simp
 rw[A]at hz;clear h A;generalize R.cs.extract ps R.cs.size=t at *;have C:=fN (λw=>Tryz.strings_CutPrefix t pK w);simp only at C;rw[show(⟨(Lib.trimPrefix t.data.toList [60,47]).toArray⟩:gn)=wA t from rfl,show Lib.hasPrefix t.data.toList [60,47]=JY t from rfl]at C;generalize wA t=s at *;rw[L]at C;have T:(s.extract 0 nm.size).size=nm.size:=by simp;omega
 have F:=fN (λW=>vz (s.extract 0 nm.size) W (by omega));have N:=fN (eq_true (show(nm.size:Int) < (s.size:Int) by omega));clear T;generalize small (s.extract 0 nm.size)=u at *;have hb:=get_bt s nm.size X;have U:=bt_nonneg s nm.size;have V:=bt_le s nm.size;clear L;generalize bt s nm.size=c at *;go_enter func146,ntmps146;go_wp21;refine E.out.mono ?_;rintro e w1 ⟨rfl,q,rfl⟩;go_wp21;refine(C.out _).mono ?_;rintro e w' ⟨rfl,rfl⟩;go_wp21;refine uU (by rfl) ?_;refine od (λ(g:gG) z=>⟨#[gF r,gw nm,undef,undef,ce z 22 (.bool false) (.bool (jl ji c)),gw s,.bool true,ga nm.size,.tuple #[gw s,.bool true],gF r,gw t,.tuple #[gw s,.bool true],gw s,.bool true,gw nm,ga nm.size,cd z 0 (.bool true),cd z 1 (.bool true),cd z 2 (gw s),cd z 3 (ga s.size),cd z 4 (ga nm.size),cd z 5 (.bool true),cd z 6 (.bool true),cd z 7 (.bool true),cd z 8 (gw s),cd z 9 (ga nm.size),cd z 10 (gw (s.extract 0 nm.size)),cd z 11 (gw u),cd z 12 (gw nm),cd z 13 (.bool true),cd z 14 (.bool true),cd z 15 (.bool true),cd z 16 (g),cd z 17 (gw s),cd z 18 (ga nm.size),cd z 19 (.int .u8 c),cd z 20 (.bool (jl ji c)),cd z 21 (.bool (jl ji c))],[]⟩) (λg z W=>Kept [] w W/\(dn z 16=true->Fe g W)) 23 [[],[0],[1],[1,2],[1],[1,3,4],[1,5],[6],[7],[7],[7,8,9],[7,10],[7],[7,11,12],[7,13],[14],[15],[15],[15],[15,17,18],[15,16,19],[15,20],[21]] (undef) rfl rfl (⟨((Kept.refl [] w).drewN q).drew,λh=>by cases h⟩) ?_ ?_
 .repeat' first|exact lp|refine ln ?_ ?_
  all_goals
   rintro g z W d D hn;simp[zE]at D;refine mK rfl ?_;intro K' k;simp only[kX,D]
   try simp only[N.out]
   go_simp
   try (rw[gN (by omega)];go_simp)
   first
   |refine k _ _ ⟨g,?_,d.1,λh=>d.2 (by simpa [lR]using h)⟩
   |refine(F.out W).mono ?_;rintro J I ⟨rfl,B⟩;refine k _ _ ⟨g,?_,d.1.trans B,λh=>(d.2 (by simpa [lR]using h)).k B⟩
   |refine(oG _ W).mono ?_;rintro J I ⟨rfl,rfl⟩;refine k _ _ ⟨_,?_,d.1.alloc _,λ_=>Fe.new W⟩
   |obtain⟨S,rfl,H,G⟩:=d.2 (by simp[D]);have l:=Bs W [] S _ G H (by simp);have K:=l.Xv;go_simp;refine(l.ask c W U V (Kept.refl _ _)).mono ?_;rintro J I ⟨rfl,nq,rfl⟩;refine k _ _ ⟨_,?_,d.1.drewN nq,λh=>(d.2 (by simpa [lR]using h)).k ((Kept.refl [] W).drewN nq)⟩
   simp[ot,uP,kX,uY,Cu,D]
 .rintro g W d;simp only[uF,Ms];have O:=fN d.1;clear d;rename_i P p;refine p _ _ ?_;clear p P;go_wp2;go_ret;exact⟨rfl,O.out⟩
def yV (R:RC) (look:gn->Option gn) (lg bg:Nat):zC:=
 if R.YA=true then .tok (.Xf (oq (R.cs.extract bg (bg+1)))) (bg+1)
 else .tok (.Xf (oq (rv look lg (R.cs.extract bg R.cs.size)))) (bg+pD look lg (R.cs.extract bg R.cs.size))
def vJ (h:∀x t,look x=some t->t.size<=16):(rv look lg s).size<=16:=by
 unfold rv;split
 .simp;omega
 .exact xf h
def Js (r:Nat) (R:RC) (bg ps l:Nat) (k:gn) (pl:Bool) (cut:Nat->Nat) (w:gr) (h:Rd w r R bg ps) (Z:Gl w r) (K:R.YA=pl) (L:k.size<=1048576) (F:Nat) (S:F=(if pl then 147 else 83))
  (C:Calls prog F #[gF r] w λe w'=>e=ir (.agg #[ga (cut bg),ga (cut l),gw k])/\Kept [r] w w'/\Rd w' r R bg l):
  Calls prog 80 #[gF r] w λe w'=>nL w r R bg cut e w' (.tok (.Xf (oq k)) l):=by
 have p:=h.YA;rw[K]at p;have hr:=je h;have V:=C;have X:=Z;have G:=(λW (hg:Gl W r)=>xO r k W L hg);generalize oq k=T at *;have a0:∀(P:Fn) (first A:jE) (w:gr),(Instr.makeFunc P first A).run prog w= .ok (.func P first A) w:=λ_ _ _ _=>rfl;cases pl
 all_goals
  simp only[wX,↓reduceIte]at S;subst S;go_enter func80,ntmps80;go_wp21;refine V.mono ?_;rintro e q ⟨rfl,d,u⟩;have O:=(Kept.refl [] q).alloc (.cells #[ga (cut bg),ga (cut l),gw k] 184);have U:=fQ q (.cells #[ga (cut bg),ga (cut l),gw k] 184);have J:q.heap.size≠r:=by have:=je u;omega
  have H:=G _ (X.kept (d.trans (O.mono (by simp))));have Y:=d.size;go_wp21;refine H.mono ?_;rintro e N ⟨rfl,B⟩;have D:=B.at U (by simp);have q0:=fO D 0;have q1:=fO D 1;have q2:=fO D 2;have z2:=gu D 2;dsimp at q0 q1 q2;have KW:Kept [] q N:=O.trans B;have E:Kept [r] w (N.setCell ⟨q.heap.size,2,none⟩ (gw T)):=(d.trans (KW.mono (by simp))).setCell (.inr Y) _;have I:Rd (N.setCell ⟨q.heap.size,2,none⟩ (gw T)) r R bg l:=(u.kept KW (by simp)).qo J _;go_wp2;go_ret;exact⟨⟨_,rfl,rfl⟩,E,I⟩
theorem SO (r:Nat) (R:RC) (bg ps g k b lg:Nat) (look:gn->Option gn) (cut:Nat->Nat) (w:gr) (h:Rd w r R bg ps) (d:S8 w r R g k b lg look cut) (l:bg < R.cs.size):
  Calls prog 80 #[gF r] w λe w'=>nL w r R bg cut e w' (yV R look lg bg):=by
 unfold yV;split
 .rename_i p;exact Js r R bg ps (bg+1) _ true cut w h d.gl p (by have:=d.small;simp;omega) _ rfl (Cq r R bg ps g k cut w h d.gx l d.small)
 .rename_i p;exact Js r R bg ps _ _ false cut w h d.gl (by grind) (jH (vJ d.VA.lk.short) (by decide)) _ rfl (Cw r R bg ps g k b lg look cut w h d.gx d.VA l d.small)
def Vj (r:Nat) (R:RC) (bg ps:Nat) (nm:gn) (w:gr) (h:Rd w r R bg ps) (k:ps<=R.cs.size) (l:R.cs.size<=1024):
  Calls prog 146 #[gF r,gw nm] w λe w'=>e=ir (.bool (MW R nm ps))/\Kept [] w w':=by
 unfold MW;cases ho:JY (R.cs.extract ps R.cs.size)
 .exact acR r R bg ps nm w h k l ho
 .by_cases d:nm.size < (wA (R.cs.extract ps R.cs.size)).size
  .rw[uR d];cases he:((small ((wA (R.cs.extract ps R.cs.size)).extract 0 nm.size)).toList==nm.toList)
   .exact acT r R bg ps nm w h k l ho d he
   .have:=acU r R bg ps nm w h k l ho d he
    simpa using this
  .rw[wQ d];exact acS r R bg ps nm w h k l ho d
def tH (R:RC) (ps:Nat):RC:={R with nD:=if MW R R.nD ps=true then ⟨#[]⟩else R.nD}
def Rd.setOf {r : Nat} (h:Rd w r R bg ps) (s:gn):Rd (w.setCell ⟨r,7,none⟩ (gw s)) r {R with nD:=s} bg ps:=fV h 7 _
def S8.setOf {r : Nat} {d : Nat} (h:S8 w r R g d b lg look cut) (s:gn):S8 w r {R with nD:=s} g d b lg look cut:=
 ⟨⟨h.gx.av,h.gx.ne,h.gx.lt,h.gx.at_⟩,⟨h.VA.lk,h.VA.ne,h.VA.mv,h.VA.lgv,h.VA.le⟩,h.gl,h.small⟩
theorem XQ (r:Nat) (R:RC) (bg ps:Nat) (w:gr) (h:Rd w r R bg ps) (G:ps<=R.cs.size) (H:R.cs.size<=1024):
  Calls prog 79 #[gF r] w λe w'=>e=ir (.bool (!((tH R ps).nD.toList==[])))/\Kept [r] w w'/\Rd w' r (tH R ps) bg ps:=by
 by_cases q:R.nD=⟨#[]⟩
 .have e1:tH R ps=R:=by
   have⟨cs,av,at_,mv,lg,nD,YA⟩:=R;simp only at q;subst q;simp[tH]
  rw[e1,q];refine(Vf r R bg ps w h q).mono ?_;rintro e w' ⟨rfl,d⟩;exact⟨by simp,d.mono (by simp),h.kept d (by simp)⟩
 .have A:(R.nD.toList==[])=false:=by
   cases hq:(R.nD.toList==[])with
   |false=>rfl
   |true=>
    exfalso;apply q;have F:R.nD.toList=[]:=by simpa using hq
    rw[sD]at F;apply Cg;grind
  have o:=h.nD;have L:=je h;have C:=Vj r R bg ps R.nD w h G H;have B:=h;unfold tH;cases hE:MW R R.nD ps
  .rw[hE]at C;have u:=fN (show(!((if false=true then kC else R.nD).toList==[]))=true by simp[A]);have D:Hid (∀W,Rd W r R bg ps->Rd W r {R with nD:=if false=true then ⟨#[]⟩else R.nD} bg ps):=λW h=>h;rw[u.out];go_enter func79,ntmps79;go_wp21;refine C.mono ?_;rintro e J ⟨rfl,d⟩;have l:=B.kept d (by simp);have I:=l.nD;have E:=d.mono (S':=[r]) (by simp);go_wp2;go_ret;simp_all
  .rw[hE]at C;have D:Hid (∀W,Rd W r R bg ps->Rd (W.setCell ⟨r,7,none⟩ (gw kC)) r {R with nD:=if true=true then ⟨#[]⟩else R.nD} bg ps):=λW h=>h.setOf _;have u:=fN (show(!((if true=true then kC else R.nD).toList==[]))=false by simp);rw[u.out];go_enter func79,ntmps79;go_wp21;refine C.mono ?_;rintro e J ⟨rfl,d⟩;have k:=B.kept d (by simp);have I:=k.nD;have K:=k.free 7;have E:=(d.mono (S':=[r]) (by simp)).setCell (p:=⟨r,7,none⟩) (.inl (by simp)) (gw kC);have l:=D _ k;go_wp2;go_ret;simp_all
def kU (R:RC) (look:gn->Option gn) (lg ps:Nat):zC:=
 if ps=R.cs.size then .tok .Va ps
 else if ((tH R ps).nD.toList==[])=true then (if pre (R.cs.extract ps R.cs.size) pY=true then qJ (tH R ps) look lg ps (ps+1)else uZ (tH R ps) look lg ps)
 else yV (tH R ps) look lg ps
def zY (R:RC) (ps:Nat):RC:=if ps=R.cs.size then R else tH R ps
def ada (r:Nat) (R:RC) (bg ps g L b lg:Nat) (look:gn->Option gn) (cut:Nat->Nat) (w:gr) (h:Rd w r R bg ps) (hO:S8 w r R g L b lg look cut) (hp:ps<=R.cs.size):
  Calls prog 46 #[gF r] w λe w'=>nL w r (zY R ps) ps cut e w' (kU R look lg ps):=by
 have hs:=hO.small;have p2:=h.bg;have p3:=h.ps;have f2:=h.free 2;obtain⟨F,W⟩:∃F,F=w.setCell ⟨r,2,none⟩ (ga ps):=⟨_,rfl⟩;have N:Rd F r R ps ps:=by rw[W];exact h.aep ps
 have H:Kept [r] w F:=by rw[W];exact(Kept.refl _ _).setCell (.inl (by simp)) _
 have HW:=fN W.symm;have HO:=hO.kept H;have CE:=ox r R ps ps F N;clear h hO W;by_cases u:ps=R.cs.size
 .have eT:kU R look lg ps= .tok .Va ps:=by unfold kU;rw[gN u]
  have eR:zY R ps=R:=by unfold zY;rw[gN u]
  rw[eT,eR];have e3:decide (ps=R.cs.size)=true:=by simp[u]
  rw[e3]at CE;have G:=fN CE;clear CE eT e3 u eR;go_enter func46,ntmps46;go_wp21;rw[HW.out];refine G.mono ?_;rintro e X ⟨rfl,q,rfl⟩;have CP:=pN r R ps ps g L cut (F.drewN q) (show Rd (F.drewN q) r R ps ps from N) (HO.kept ((Kept.refl [r] F).drewN q)).gx hp hp hs;go_wp21;refine CP.mono ?_;rintro e S ⟨rfl,d⟩;have p:=(H.drewN q).trans (d.mono (by simp));have A:Hid (Rd S r R ps ps):=d.at (show Rd (F.drewN q) r R ps ps from N) (by simp);clear d CP;go_wp2;go_ret;exact⟨⟨_,rfl,rfl⟩,p,A⟩
 .have e3:decide (ps=R.cs.size)=false:=by simp[u]
  rw[e3]at CE;have G:=fN CE;clear CE e3;have eR:zY R ps=tH R ps:=by unfold zY;rw[gI u]
  have eT:kU R look lg ps=if ((tH R ps).nD.toList==[])=true then (if pre ((tH R ps).cs.extract ps (tH R ps).cs.size) pY=true then qJ (tH R ps) look lg ps (ps+1)else uZ (tH R ps) look lg ps)else yV (tH R ps) look lg ps:=by unfold kU;rw[gI u];rfl
  have Z:=(λq=>XQ r R ps ps (F.drewN q) (show Rd (F.drewN q) r R ps ps from N) hp hs);have K:S8 F r (tH R ps) g L b lg look cut:=HO.setOf _;have a0:ps < (tH R ps).cs.size:=by show ps < R.cs.size;omega
  have a3:(tH R ps).cs.size<=1024:=hs;rw[eT,eR];clear eT eR u hp hs HO N;generalize tH R ps=B at *;clear R;have Y:=λX (O:Rd X r B ps ps)=>lx r B ps ps pY X O (by omega) a3 (by decide);cases ho:(B.nD.toList==[])
  .rw[ho]at Z;rw[gI (by simp)];have HT:=(λw' h1 O=>SO r B ps ps g L b lg look cut w' h1 O a0);generalize yV B look lg ps=T at HT|-;clear ho Y;cases T with
   |stop=>
    go_enter func46,ntmps46;go_wp21;rw[HW.out];refine G.mono ?_;rintro e X ⟨rfl,q,rfl⟩;go_wp21;refine(Z q).mono ?_;rintro e S ⟨rfl,d,l⟩;have p:=((Kept.refl [r] F).drewN q).trans d;have A:=fN l;clear d l;have J:=HT S A (K.kept p);have I:=H.trans p;go_wp21;refine J.mono ?_;rintro e wz ⟨k,rfl,O,h3,h4⟩;have V:=nL.back (show nL S r B ps cut _ wz .stop from⟨k,rfl,O,h3,h4⟩) I;clear O h3 h4 J;go_wp2;exact⟨rfl,V⟩
   |tok kd m=>
    go_enter func46,ntmps46;go_wp21;rw[HW.out];refine G.mono ?_;rintro e X ⟨rfl,q,rfl⟩;go_wp21;refine(Z q).mono ?_;rintro e S ⟨rfl,d,l⟩;have p:=((Kept.refl [r] F).drewN q).trans d;have A:=fN l;clear d l;have J:=HT S A (K.kept p);have I:=H.trans p;go_wp21;refine J.mono ?_;rintro e wz ⟨⟨v,rfl,hv⟩,hk,hr⟩;have V:=nL.back (show nL S r B ps cut (ir v) wz (.tok kd m)from⟨⟨v,rfl,hv⟩,hk,hr⟩) I;clear hv hk hr J;go_wp2;go_ret;exact V
  .rw[ho]at Z;rw[gN rfl];cases hl:pre (B.cs.extract ps B.cs.size) pY
   .rw[gI (by simp)];have P:taken B pY ps=ps:=by unfold taken;rw[gI (by simp[hl])]
    rw[hl,P]at Y;have U:=fN Y;clear Y P hl ho;go_enter func46,ntmps46;go_wp21;rw[HW.out];refine G.mono ?_;rintro e X ⟨rfl,q,rfl⟩;go_wp21;refine(Z q).mono ?_;rintro e S ⟨rfl,d,l⟩;have p:=((Kept.refl [r] F).drewN q).trans d;have A:=fN l;clear d l;go_wp21;refine(U _ A).mono ?_;rintro e w4 ⟨rfl,D,E⟩;have C:=p.trans D;have J:=Cw r B ps ps g L b lg look cut w4 E (K.kept C).gx (K.kept C).VA a0 a3;clear D E;go_wp21;refine J.mono ?_;rintro e w5 ⟨rfl,a1,a2⟩;have V:=(show nL w r B ps cut (ir (.iface 184 (.agg #[ga (cut ps),ga (cut (ps+pD look lg (B.cs.extract ps B.cs.size))),gw (rv look lg (B.cs.extract ps B.cs.size))]))) w5 (uZ B look lg ps)from⟨⟨_,rfl,rfl⟩,H.trans (C.trans a1),a2⟩);clear a1 a2 J;go_wp2;go_ret;exact V
   .rw[gN rfl];have P:taken B pY ps=ps+1:=by unfold taken;rw[gN hl];rfl
    have a4:ps+1<=B.cs.size:=lu hl (by omega);rw[hl,P]at Y;have U:=fN Y;have HL:=(λw' h1 O=>Mn r B ps (ps+1) g L b lg look cut w' h1 O a0 a4);generalize qJ B look lg ps (ps+1)=T at HL|-;clear Y P hl ho;cases T with
    |stop=>
     go_enter func46,ntmps46;go_wp21;rw[HW.out];refine G.mono ?_;rintro e X ⟨rfl,q,rfl⟩;go_wp21;refine(Z q).mono ?_;rintro e S ⟨rfl,d,l⟩;have p:=((Kept.refl [r] F).drewN q).trans d;have A:=fN l;clear d l;go_wp21;refine(U _ A).mono ?_;rintro e w4 ⟨rfl,D,E⟩;have C:=p.trans D;have J:=HL w4 E (K.kept C);have I:=H.trans C;clear D E;go_wp21;refine J.mono ?_;rintro e wz ⟨k,rfl,O,h3,h4⟩;have V:=nL.back (show nL w4 r B ps cut _ wz .stop from⟨k,rfl,O,h3,h4⟩) I;clear O h3 h4 J;go_wp2;exact⟨rfl,V⟩
    |tok kd m=>
     go_enter func46,ntmps46;go_wp21;rw[HW.out];refine G.mono ?_;rintro e X ⟨rfl,q,rfl⟩;go_wp21;refine(Z q).mono ?_;rintro e S ⟨rfl,d,l⟩;have p:=((Kept.refl [r] F).drewN q).trans d;have A:=fN l;clear d l;go_wp21;refine(U _ A).mono ?_;rintro e w4 ⟨rfl,D,E⟩;have C:=p.trans D;have J:=HL w4 E (K.kept C);have I:=H.trans C;clear D E;go_wp21;refine J.mono ?_;rintro e wz ⟨⟨v,rfl,hv⟩,hk,hr⟩;have V:=nL.back (show nL w4 r B ps cut (ir v) wz (.tok kd m)from⟨⟨v,rfl,hv⟩,hk,hr⟩) I;clear hv hk hr J;go_wp2;go_ret;exact V
def OO (bs bm d r:Nat) (C:jE) (R:RC) (bg ps:Nat) (p:gr) (l:gG) (k:lh):Env:={Tv bs bm d r C R bg ps p with tv:=l,ta:=k}
def QR (R:RC) (o:gn) (p:Bool):RC:={R with nD:=o,YA:=p}
def LF (R:RC) (bg ps:Nat) (o:gn) (p:Bool):((vX R bg ps).setIfInBounds 7 (gw o)).setIfInBounds 8 (.bool p)=vX (QR R o p) bg ps:=rfl
def RF.rdV {bs bm d r : Nat} {C : jE} {p : gr} {l : gG} {k : lh} {f : Nat->Nat} (h:RF (OO bs bm d r C R bg ps p l k) f σ w):Rd w r (QR R σ.nD σ.iX) bg ps:=by
 have⟨L,_,hr⟩:=h;have e:w.heap[r]?=some (gy (((vX R bg ps).setIfInBounds 7 (gw σ.nD)).setIfInBounds 8 (.bool σ.iX)) 161):=hr.rd
 rwa [LF]at e
theorem RF.Ud {bs bm Y r : Nat} {C : jE} {w0 : gr} {tv : gG} {ta : lh} {f : Nat->Nat} (h:RF (OO bs bm Y r C R bg ps w0 tv ta) f σ w) (T:List TypeId) (p:KT bs T w w') (hT:∀t∈Ux,t∈T->t=161) (hM:∀t∈T,t∈GK) {q u : Nat} {o : gn} (hr:Rd w' r (QR R o σ.iX) q u)
  (l:gG) (A:lh) (W:yi w' l A) (P:A.length<=4096) (Z:Bool) (N:Z=true->∀g,l.ownBlock=some g->w.heap.size<=g) (X:∀g,l.ownBlock=some g->bs<=g):
  RF (OO bs bm Y r C R q u w' l A) f {σ with fresh:=Z,nD:=o} w':=by
 have⟨L,e,h⟩:=h;have F:∀t∈Ux,t≠161->t∉T:=λt ht V U=>V (hT t ht U);have⟨C',hbl,hC⟩:=h.ik;have B:vE bm w w':=by
  have⟨S,hk,hS⟩:=p;exact⟨S,hk,λk h1 h2=>by grind⟩
 have E:∀(b:Nat) (I:Array MapEntry) (H:Nat),w.heap[b]?=some (Obj.map I H)->w'.heap[b]?=some (Obj.map I H):=by
  intro b I H K;have⟨S,hk,hS⟩:=p;have D:b < w.heap.size:=(Array.getElem?_eq_some_iff.1 K).1;refine(hk.block b D λU=>?_).trans K;have⟨⟨c,t,m,J,_⟩,_⟩:=hS b U D;rw[K]at J;cases J
 refine⟨L,e,?_⟩;have d:=N5.move (w:=w) (w':=w') h.env h.fr B E;exact
  {fr:=Fr.refl _
   env:=⟨d.FY,d.txt,d.spec,d.Ve,d.UP,d.wK⟩
   Dt:=h.Dt
   su:=λi nd O=>(h.su i nd O).kt p (λt ht=>F t (by revert t;decide) (by revert t;decide))
   inj:=h.inj
   AL:=h.AL
   FJ:=h.FJ
   uq:=h.uq
   D0:=h.D0
   wf:=⟨h.wf.gq,h.wf.act,h.wf.head,h.wf.form,h.wf.ja,h.wf.kids,h.wf.wK⟩
   ik:=⟨C',p.at hbl (F _ (by decide) (by decide)),⟨hC.size,hC.low,hC.gq,hC.act,hC.head,hC.form,hC.mode,hC.kept,hC.wait,hC.H6,hC.jB,hC.gH,hC.behind⟩⟩
   oP:=p.row h.oP (F _ (by decide) (by decide))
   pR:=p.row h.pR (F _ (by decide) (by decide))
   FP:=h.FP
   wC:=h.wC
   D7:=h.D7
   oL:=p.row h.oL (F _ (by decide) (by decide))
   KJ:=h.KJ
   rd:=by
    show w'.heap[r]?=some (.cells (((vX R q u).setIfInBounds 7 (gw o)).setIfInBounds 8 (.bool σ.iX)) _ _);rw[LF];exact hr
   P9:=by show 7+1 < 9;decide
   tok:=W
   KG:=P
   bz:=jH (jH h.bz h.fr.size) p.size
   bB:=h.bB
   bR:=h.bR
   bN:=h.bN
   Ck:=λh2 i g O hg G=>by
    have J:=N h2 g hg;have h4:g < w.heap.size:=by
     cases hel:σ.gV i with
     |none=>rw[h.D0 i O hel]at G;cases G
     |some el=>
      have h5:=h.su i (.el el) (Ab.jd hel);exact(h5.2.1.lt g G).2
    omega
   ab:=h.ab
   tb:=X
   KI:=λv G=>by cases G}
structure TkW (a b:Nat) (kd:Int) (T:TypeId) (x:gG):Prop where
 gZ:∀w,(Go.method 496 T x "Bytes").run prog w= .ok (426,.agg #[ga a,ga b]) w
 nil:∀w,(nilAhead 496 T x "Bytes").run prog w= .ok (some false) w
 kind:∀w,Calls prog 48 #[.iface T x] w λe w'=>e=ir (ga kd)/\w'=w
def rl (a b:Nat):Q7->gz
 | .Va=>⟨a,b,.ie,[]⟩
 | .Xf t=>⟨a,b,.jW t,[]⟩
 | .SD nm L=>⟨a,b,.start nm,L⟩
 | .fin nm L=>⟨a,b,.stop nm,L⟩
 | .Wq t=>⟨a,b,.gJ t,[]⟩
 | .dtp nm q=>⟨a,b,.iH nm q,[]⟩
 | .lost=>⟨a,b,.lost,[]⟩
def vg:Q7->Nat
 | .Va=>0
 | .Xf _=>1
 | .SD _ _=>2
 | .fin _ _=>3
 | .Wq _=>4
 | .dtp _ _=>5
 | .lost=>6
def Pg (a b:Int) (n:gn) (x:Option Addr) (m c:Nat) (w:gr):Calls prog 48 #[.iface 192 (.agg #[ga a,ga b,gw n,.slice x m c])] w λe w'=>e=ir (ga 2)/\w'=w:=by
 have k:=uJ;have d:=qt underlying192;go_enter func48,ntmps48;go_wp2;go_ret;simp
def R4 (a b:Int) (n:gn) (x:Option Addr) (m c:Nat) (w:gr):Calls prog 48 #[.iface 193 (.agg #[ga a,ga b,gw n,.slice x m c])] w λe w'=>e=ir (ga 3)/\w'=w:=by
 have l:=uJ;have d:=ql;have k:=qt underlying193;go_enter func48,ntmps48;go_wp2;go_ret;simp
def Vo (a b:Int) (n:gn) (w:gr):Calls prog 48 #[.iface 194 (.agg #[ga a,ga b,gw n])] w λe w'=>e=ir (ga 4)/\w'=w:=by
 have p:=uJ;have d:=ql;have l:=xN;have k:=qt underlying194;go_enter func48,ntmps48;go_wp2;go_ret;simp
def Vp (a b:Int) (n:gn) (q:Bool) (w:gr):Calls prog 48 #[.iface 196 (.agg #[ga a,ga b,gw n,.bool q])] w λe w'=>e=ir (ga 5)/\w'=w:=by
 have u:=uJ;have d:=ql;have p:=xN;have k:=sr;have l:=qt underlying196;go_enter func48,ntmps48;go_wp2;go_ret;simp
def R3 (a b:Int) (w:gr):Calls prog 48 #[.iface 186 (.agg #[ga a,ga b])] w λe w'=>e=ir (ga 6)/\w'=w:=by
 have q:=uJ;have d:=ql;have p:=xN;have k:=sr;have l:=vy;have u:=qt underlying186;go_enter func48,ntmps48;go_wp2;go_ret;simp
theorem Ut.is {base a : Nat} {k : Q7} (h:Ut base (a:Int) (b:Int) v w k) (D:(rl a b k).gM.length<=4096):
  ∃T x B,v= .iface T x/\(∀E:Env,E.tv=B->iA E (rl a b k)= .iface T x)/\TkW a b (vg k) T x/\(∃y m c,B= .slice y m c)/\yi w B (rl a b k).gM/\(∀g,B.ownBlock=some g->base<=g):=by
 have l:∀g,(jV).ownBlock=some g->base<=g:=λg A=>by simp[Value.ownBlock]at A
 cases k with
 |Va=>exact⟨_,_,jV,h,λ_ _=>rfl,⟨λw=>by kernel_rfl,λw=>by kernel_rfl,λw=>X7 (Tv 0 0 0 0 #[] ⟨⟨#[]⟩,.nilFunc,0,.nilFunc,0,⟨#[]⟩,false⟩ 0 0 w) a b w⟩,⟨_,_,_,rfl⟩,py _ _ _ _,l⟩
 |Xf t=>exact⟨_,_,jV,h,λ_ _=>rfl,⟨λw=>by kernel_rfl,λw=>by kernel_rfl,λw=>Vn (Tv 0 0 0 0 #[] ⟨⟨#[]⟩,.nilFunc,0,.nilFunc,0,⟨#[]⟩,false⟩ 0 0 w) a b t w⟩,⟨_,_,_,rfl⟩,py _ _ _ _,l⟩
 |Wq t=>exact⟨_,_,jV,h,λ_ _=>rfl,⟨λw=>by kernel_rfl,λw=>by kernel_rfl,λw=>Vo a b t w⟩,⟨_,_,_,rfl⟩,py _ _ _ _,l⟩
 |dtp n q=>exact⟨_,_,jV,h,λ_ _=>rfl,⟨λw=>by kernel_rfl,λw=>by kernel_rfl,λw=>Vp a b n q w⟩,⟨_,_,_,rfl⟩,py _ _ _ _,l⟩
 |lost=>exact⟨_,_,jV,h,λ_ _=>rfl,⟨λw=>by kernel_rfl,λw=>by kernel_rfl,λw=>R3 a b w⟩,⟨_,_,_,rfl⟩,py _ _ _ _,l⟩
 |SD n L=>
  obtain⟨p,u,rfl,d⟩:=h;refine⟨_,_,.slice p L.length u,rfl,λE C=>?_,⟨λw=>by kernel_rfl,λw=>by kernel_rfl,λw=>Pg a b n p L.length u w⟩,⟨_,_,_,rfl⟩,jU d (iP _),λg A=>(d.lt g A).1⟩;grind[iA,rl]
 |fin n L=>
  obtain⟨p,u,rfl,d⟩:=h;refine⟨_,_,.slice p L.length u,rfl,λE C=>?_,⟨λw=>by kernel_rfl,λw=>by kernel_rfl,λw=>R4 a b n p L.length u w⟩,⟨_,_,_,rfl⟩,jU d (iP _),λg A=>(d.lt g A).1⟩;grind[iA,rl]
theorem sJ {a b : gn} (h:kh a b=true):a=b:=by
 unfold kh at h;have d:a.toList=b.toList:=by simpa using h
 rw[sD,sD]at d;apply Cg;simp_all
def iE:List Nd->List Nat
 |[]=>[]
 | .el j::r=>j::iE r
 | .tx _::r=>iE r
 | .cm _::r=>iE r
 | .dt _::r=>iE r
def qE (a b:List Nd):iE (a++b)=iE a++iE b:=by
 induction a with
 |nil=>rfl
 |cons k r ih=>cases k<;>simp[iE,ih]
def xM:∀{ks:List Nd},j∈iE ks↔Nd.el j∈ks
 |[]=>by simp[iE]
 |k::r=>by cases k<;>simp[iE,xM (ks:=r)]
def AE (ks:List Nd) (n:Nat) (j:Nat):(iE (ins ks n (.el j))).Perm (j::iE ks):=by
 unfold ins;have h:iE ks=iE (ks.take n)++iE (ks.drop n):=by rw[<-qE,yZ]
 rw[qE,qE,h];simp[iE]
theorem Rw (ks:List Nd) (n:Nat) (k:Nd) (d:∀j,k≠ .el j):iE (ins ks n k)=iE ks:=by
 unfold ins;have h:iE ks=iE (ks.take n)++iE (ks.drop n):=by rw[<-qE,yZ]
 rw[qE,qE,h];cases k with
 |el j=>grind
 |tx j=>simp[iE]
 |cm j=>simp[iE]
 |dt j=>simp[iE]
theorem TD (ks:List Nd) (n:Nat) (k:Nd) (d:n<=ks.length):(ins ks n k).length=ks.length+1:=by
 unfold ins;grind
theorem TO {k x : Nd}:x∈ins ks n k↔x=k\/x∈ks:=by
 unfold ins;have h:x∈ks↔x∈ks.take n\/x∈ks.drop n:=by rw[<-List.mem_append,yZ]
 grind
def TP:A0->Nat
 | .el e=>e.kids.length
 | .tx s=>s.size
 | .cm _=>0
 | .dt _=>0
def wt (σ:Ab):Nat:=(σ.nodes.map TP).sum
theorem NJ:∀(l:List Nat) (i x y:Nat),l[i]?=some x->(l.set i y).sum+x=l.sum+y
 |[],i,x,y,h=>by simp at h
 |a::l,0,x,y,h=>by grind
 |a::l,i+1,x,y,h=>by
  simp at h;have:=NJ l i x y h;grind
def Zd {n m : A0} (h:σ.nodes[i]?=some n):((σ.nodes.set i m).map TP).sum+TP n=wt σ+TP m:=by
 unfold wt;rw[List.map_set];exact NJ _ _ _ _ (by simp[h])
def rE {e' : zz} (h:σ.gV i=some e):wt (σ.gU i e')+e.kids.length=wt σ+e'.kids.length:=Zd (m:= .el e') (Ab.jd h)
def Zb (σ:Ab) (nd:A0):wt (σ.add nd)=wt σ+TP nd:=by simp[wt,Ab.add]
def DR (σ:Ab) (nd:A0) (b:Bool):wt (σ.pa nd b)=wt σ+TP nd:=by simp[wt,Ab.pa]
theorem YZ:∀(l:List Nat) (i x:Nat),l[i]?=some x->x<=l.sum
 |[],i,x,h=>by simp at h
 |a::l,0,x,h=>by grind
 |a::l,i+1,x,h=>by
  simp at h;have:=YZ l i x h;grind
def Zc {n : A0} (h:σ.nodes[i]?=some n):TP n<=wt σ:=YZ _ i _ (by simp[h])
def GB (h:σ.gV i=some e):e.kids.length<=wt σ:=Zc (Ab.jd h)
structure Shp (σ:Ab):Prop where
 up:∀i e p,σ.gV i=some e->e.ja=some p->∃ep,σ.gV p=some ep/\i∈iE ep.kids
 dn:∀i e j,σ.gV i=some e->j∈iE e.kids->∃ej,σ.gV j=some ej/\ej.ja=some i
 nd:∀i e,σ.gV i=some e->(iE e.kids).Nodup
 kd:∀i e,σ.gV i=some e->∀k∈e.kids,σ.jg k=true
def rk (r:Nat->Nat):jb->Nat
 |some i=>r i
 |none=>0
structure Zz (r:Nat->Nat) (σ:Ab):Prop where
 ja:∀i e p,σ.gV i=some e->e.ja=some p->r p < r i
 gq:σ.gq.Pairwise λx y=>rk r x < rk r y
 hd:∀d h,σ.head=some d->σ.gq.head?=some (some h)->r h < r d
def qX (s:gn):Bool:=hH [sY,F9,Ay,iB] s
def iT (σ:Ab) (i:Nat) (s:gn):Prop:=∃e,σ.gV i=some e/\e.name=s
structure jy (r:Nat->Nat) (σ:Ab):Prop where
 og:Shp σ
 sZ:Zz r σ
 gq:∀x∈σ.gq,σ.lV x=true
 act:∀i,some i∈σ.act->∃e,σ.gV i=some e/\qX e.name=true
 head:∀d,σ.head=some d->iT σ d gL
 form:∀d,σ.form=some d->iT σ d iG
 KU:∀x rest,σ.gq=x::rest->∃h,x=some h/\iT σ h fP
 wC:σ.gq.length<=σ.pL
 zq:σ.act.length<=σ.qH
 N2:σ.pL<=64
 Q0:σ.qH<=32
 wK:(σ.gV 0).isSome=true
def mN (σ:Ab):Prop:=∃r,jy r σ
structure Fx (σ σ':Ab):Prop where
 mode:σ'.mode=σ.mode
 kept:σ'.kept=σ.kept
 head:σ'.head=σ.head
 form:σ'.form=σ.form
 waiting:σ'.waiting=σ.waiting
 H6:σ'.iL=σ.iL
 jB:σ'.jB=σ.jB
 gH:σ'.gH=σ.gH
 pL:σ'.pL=σ.pL
 qH:σ'.qH=σ.qH
 oO:σ'.oO=σ.oO
 nm:∀i s,iT σ i s->iT σ' i s
 KU:σ.gq≠[]->σ'.gq.head?=σ.gq.head?
def Fx.refl (σ:Ab):Fx σ σ:=⟨rfl,rfl,rfl,rfl,rfl,rfl,rfl,rfl,rfl,rfl,rfl,λ_ _ h=>h,λ_=>rfl⟩
theorem Fx.ne (h:Fx σ σ') (d:σ.gq≠[]):σ'.gq≠[]:=by
 intro e;have:=h.KU d;rw[e]at this;cases ho:σ.gq with
 |nil=>grind
 |cons x r=>grind
def Fx.trans {a b c : Ab} (h:Fx a b) (k:Fx b c):Fx a c:=
 ⟨k.mode.trans h.mode,k.kept.trans h.kept,k.head.trans h.head,k.form.trans h.form,k.waiting.trans h.waiting,k.H6.trans h.H6,k.jB.trans h.jB,k.gH.trans h.gH,k.pL.trans h.pL,k.qH.trans h.qH,k.oO.trans h.oO,λi s l=>k.nm i s (h.nm i s l),λd=>(k.KU (h.ne d)).trans (h.KU d)⟩
def jr {α:Type} (c:Nat) (σ:Ab) (r:pC α) (Q:α->Ab->Prop):Prop:=match r with
 | .ok a σ'=>mN σ'/\Fx σ σ'/\wt σ'<=wt σ+c/\Q a σ'
 | .stop _ p=>p=σ.gH
 | .stuck=>False
theorem jr.mono {α:Type} {r:pC α} {Q d:α->Ab->Prop} (h:jr c σ r Q) (l:c<=c') (k:∀a σ',mN σ'->Fx σ σ'->Q a σ'->d a σ'):jr c' σ r d:=by
 cases r with
 |ok a σ'=>grind[jr]
 |stop e p=>exact h
 |stuck=>exact h
theorem jr.bind {α q:Type} {c1 c2 : Nat} {m:M α} {k:α->M q} {Q:α->Ab->Prop} {l:q->Ab->Prop} (h:jr c1 σ (m σ) Q) (u:∀a σ',mN σ'->Fx σ σ'->wt σ'<=wt σ+c1->Q a σ'->jr c2 σ' (k a σ') l) (A:c1+c2<=c):jr c σ ((m>>=k) σ) l:=by
 rw[M.gm];cases hm:m σ with
 |ok a σ'=>
  rw[hm]at h;have⟨h1,h2,h3,h4⟩:=h;have d:=u a σ' h1 h2 h3 h4;cases hk2:k a σ' with
  |ok b σ2=>
   rw[hk2]at d;dsimp only;rw[hk2];exact⟨d.1,h2.trans d.2.1,by have:=d.2.2.1;omega,d.2.2.2⟩
  |stop e p=>
   rw[hk2]at d;dsimp only;rw[hk2];exact y6 d h2.gH
  |stuck=>grind[jr]
 |stop e p=>rwa [hm]at h
 |stuck=>grind[jr]
def jr.ret {α:Type} (d:mN σ) {Q:α->Ab->Prop} {a:α} (k:Q a σ) (c:Nat:=0):jr c σ ((Pure.pure a:M α) σ) Q:=⟨d,Fx.refl _,by omega,k⟩
def mN.wK (h:mN σ):(σ.gV 0).isSome=true:=by have⟨r,h⟩:=h;exact h.wK
def iT.lt (h:iT σ i s):i < σ.nodes.length:=by have⟨e,he,_⟩:=h;exact Ab.ic he
theorem kE (h:σ.lV x=true):∃i e,x=some i/\σ.gV i=some e:=by
 cases x with
 |none=>cases h
 |some i=>have⟨e,he⟩:=Option.isSome_iff_exists.1 h;grind
theorem jy.sub (h:jy r σ) (q:ys.Sublist σ.gq) (l:ys.head?=σ.gq.head?):jy r {σ with gq:=ys}/\Fx σ {σ with gq:=ys}:=by
 refine⟨⟨⟨h.og.up,h.og.dn,h.og.nd,h.og.kd⟩,⟨h.sZ.ja,h.sZ.gq.sublist q,?_⟩,λx p=>h.gq x (q.subset p),h.act,h.head,h.form,?_,jH q.length_le h.wC,h.zq,h.N2,h.Q0,h.wK⟩,⟨rfl,rfl,rfl,rfl,rfl,rfl,rfl,rfl,rfl,rfl,rfl,λ_ _ h=>h,λ_=>l⟩⟩
 .intro d x A p;exact h.sZ.hd d x A (by grind)
 .intro x k p;have u:ys=x::k:=p;rw[u]at l;cases ho:σ.gq with
  |nil=>grind
  |cons y r2=>
   rw[ho]at l;have e:x=y:=by simpa using l
   subst e;exact h.KU x r2 ho
def wD (r:Nat->Nat) (n x:Nat):Nat->Nat:=λi=>if i=n then x else r i
def EP (r:Nat->Nat) (n x:Nat):wD r n x n=x:=by simp[wD]
def DN {x : Nat} (h:i≠n):wD r n x i=r i:=by simp[wD,h]
def Shp.adj (h:Shp σ) {p : Nat} (d:σ.gV i=some e) (k:e.ja=some p):p < σ.nodes.length:=by
 have⟨ep,h1,_⟩:=h.up i e p d k;exact Ab.ic h1
def jy.Es (h:jy r σ) (d:some i∈σ.gq):i < σ.nodes.length:=by
 have⟨j,e,hj,he⟩:=kE (h.gq _ d);cases hj;exact Ab.ic he
theorem Zz.congr {k : Nat->Nat} (h:Zz r σ) (u:∀i e p,σ.gV i=some e->e.ja=some p->k p < k i) (q:∀i,some i∈σ.gq->k i=r i) (l:∀d h,σ.head=some d->σ.gq.head?=some (some h)->k h < k d):Zz k σ:=by
 refine⟨u,?_,l⟩;refine h.gq.imp_of_mem ?_;intro x y D E A;have C:∀z∈σ.gq,rk k z=rk r z:=by
  intro z B;cases z with
  |none=>rfl
  |some i=>exact q i B
 grind
theorem jy.new (h:jy r σ) (u:gn) (gx:lh) (b:Bool) (x:Nat):jy (wD r σ.nodes.length x) (σ.pa (.el {name:=u,gM:=gx,ja:=none,kids:=[]}) b)/\Fx σ (σ.pa (.el {name:=u,gM:=gx,ja:=none,kids:=[]}) b):=by
 obtain⟨C,N⟩:∃C:A0,C= .el {name:=u,gM:=gx,ja:=none,kids:=[]}:=⟨_,rfl⟩;rw[<-N];have S:∀i,(σ.pa C b).gV i=(σ.add C).gV i:=λ_=>rfl;have H:∀i e,σ.gV i=some e->(σ.pa C b).gV i=some e:=λi e G=>by grind[Ab.gV,Ab.pa]
 have l:∀i e,(σ.pa C b).gV i=some e->σ.gV i=some e\/(i=σ.nodes.length/\e={name:=u,gM:=gx,ja:=none,kids:=[]}):=by
  intro i e G;rcases Ab.Hk (nd:=C) G with⟨_,q⟩|⟨q,K⟩
  .grind
  .grind
 have D:∀i s,iT σ i s->iT (σ.pa C b) i s:=λi s ⟨e,G,U⟩=>⟨e,H i e G,U⟩;have B:∀i,i < σ.nodes.length->wD r σ.nodes.length x i=r i:=λi A=>DN (by omega);refine⟨⟨⟨?_,?_,?_,?_⟩,⟨?_,?_,?_⟩,λy E=>Ab.Ll (h.gq y E),λi A=>?_,λd F=>D _ _ (h.head d F),λd F=>D _ _ (h.form d F),λy I E=>?_,h.wC,h.zq,h.N2,h.Q0,?_⟩,⟨rfl,rfl,rfl,rfl,rfl,rfl,rfl,rfl,rfl,rfl,rfl,D,λ_=>rfl⟩⟩
 .intro i e p A J;rcases l i e A with q|⟨_,q⟩
  .have⟨ep,K,h3⟩:=h.og.up i e p q J;grind
  grind
 .intro i e j A L;rcases l i e A with q|⟨_,q⟩
  .have⟨ej,K,h3⟩:=h.og.dn i e j q L;grind
  .rw[q]at L;simp[iE]at L
 .intro i e A;rcases l i e A with q|⟨_,q⟩
  .exact h.og.nd i e q
  grind[iE]
 .intro i e A k T;rcases l i e A with q|⟨_,q⟩
  .exact Ab.Ek (h.og.kd i e q k T)
  grind
 .intro i e p A J;rcases l i e A with q|⟨_,q⟩
  .rw[B p (h.og.adj q J),B i (Ab.ic q)];exact h.sZ.ja i e p q J
  grind
 .refine h.sZ.gq.imp_of_mem ?_;intro y z E P V;have W:∀z∈σ.gq,rk (wD r σ.nodes.length x) z=rk r z:=by
   intro z P;cases z with
   |none=>rfl
   |some i=>exact B i (h.Es P)
  grind
 .intro d y F E;have O:some y∈σ.gq:=List.mem_of_mem_head? E;rw[B y (h.Es O),B d (h.head d F).lt];exact h.sZ.hd d y F E
 .have⟨e,G,hf⟩:=h.act i A;grind
 .have⟨z,q,K⟩:=h.KU y I E;grind
 .have⟨e,G⟩:=Option.isSome_iff_exists.1 h.wK;grind
theorem zH (r:Nat->Nat):∀n,∃B,∀i,i < n->r i<=B
 |0=>⟨0,λi d=>by omega⟩
 |n+1=>by
  have⟨B,hB⟩:=zH r n;refine⟨B+r n,λi d=>?_⟩;grind
theorem jy.raise (h:jy r σ) (E:σ.gV j=some e) (F:iE e.kids=[]) (G:some j∉σ.gq) {x : Nat} (H:r j<=x):jy (wD r j x) σ:=by
 refine {h with sZ:=h.sZ.congr ?_ ?_ ?_}
 .intro i u p A B;have k:p≠j:=by
   rintro rfl;have⟨ep,h1,h2⟩:=h.og.up i u p A B;rw[E]at h1;cases h1;rw[F]at h2;cases h2
  rw[DN k];have:=h.sZ.ja i u p A B;grind[wD]
 .grind[wD]
 .intro d y D C;have l:some y∈σ.gq:=List.mem_of_mem_head? C;have q:y≠j:=by rintro rfl;exact G l
  rw[DN q];have:=h.sZ.hd d y D C;grind[wD]
def AV (σ:Ab) (pl:Nat×Nat):Prop:=∃e,σ.gV pl.1=some e/\pl.2<=e.kids.length
theorem jy.put (h:jy r σ) {ej : zz} (G:AV σ pl) (F:σ.gV j=some ej) (H:ej.ja=none) (hr:r pl.1 < r j) (hw:wt σ < 1000000):
  ∃σ',mP pl j σ= .ok () σ'/\jy r σ'/\Fx σ σ'/\wt σ'=wt σ+1/\σ'.gq=σ.gq/\σ'.act=σ.act/\σ'.fresh=σ.fresh/\σ'.nodes.length=σ.nodes.length/\(∀i e,σ.gV i=some e->∃A,σ'.gV i=some A/\A.name=e.name/\A.gM=e.gM/\(i≠pl.1->A.kids=e.kids)/\(i≠j->A.ja=e.ja))/\(∀A,σ'.gV j=some A->A.ja=some pl.1):=by
 have⟨ei,hi,hn⟩:=G;have D:j≠pl.1:=by rintro rfl;omega
 have hl:=GB hi;have X:=Ab.ic hi;have a3:=Ab.ic F;obtain⟨σ',l⟩:∃σ',σ'=(σ.gU pl.1 {ei with kids:=ins ei.kids pl.2 (.el j)}).gU j {ej with ja:=some pl.1}:=⟨_,rfl⟩;have hq:mP pl j σ= .ok () σ':=by
  unfold mP;rw[hi,F];dsimp only;rw[gN ⟨D,hn,by omega⟩,l]
 have g1:σ'.gV pl.1=some {ei with kids:=ins ei.kids pl.2 (.el j)}:=by rw[l,Ab.iM (wR D),Ab.iR X]
 have g2:σ'.gV j=some {ej with ja:=some pl.1}:=by rw[l,Ab.iR (by grind[Ab.gU])]
 have g3:∀i,i≠pl.1->i≠j->σ'.gV i=σ.gV i:=λi q C=>by rw[l,Ab.iM C,Ab.iM q]
 have J:(σ.gV pl.1).isSome=true:=by rw[hi];rfl
 have K:((σ.gU pl.1 {ei with kids:=ins ei.kids pl.2 (.el j)}).gV j).isSome=true:=by rw[Ab.iM D,F];rfl
 have gk:∀k,σ'.jg k=σ.jg k:=λk=>by rw[l,Ab.kP K,Ab.kP J]
 have ge:∀x,σ'.lV x=σ.lV x:=λx=>by rw[l,Ab.xK K,Ab.xK J]
 have E:∀i e,σ.gV i=some e->∃A,σ'.gV i=some A/\A.name=e.name/\A.gM=e.gM/\(i≠pl.1->A.kids=e.kids)/\(i≠j->A.ja=e.ja):=by
  intro i e I;by_cases q:i=pl.1
  .grind
  .grind
 have u:∀i A,σ'.gV i=some A->(i=pl.1/\A={ei with kids:=ins ei.kids pl.2 (.el j)})\/(i=j/\A={ej with ja:=some pl.1})\/(i≠pl.1/\i≠j/\σ.gV i=some A):=by
  intro i A I;by_cases q:i=pl.1
  .grind
  .grind
 have N:∀i s,iT σ i s->iT σ' i s:=λi s ⟨e,I,hn⟩=>by
  grind[iT]
 have Y:j∉iE ei.kids:=by
  intro hm;have⟨ej2,q,C⟩:=h.og.dn _ _ _ hi hm;rw[F]at q;cases q;rw[H]at C;cases C
 have Z:∀i e,σ.gV i=some e->∀A,σ'.gV i=some A->∀x,x∈iE e.kids->x∈iE A.kids:=by
  intro i e I A V x O;rcases u i A V with⟨q,rfl⟩|⟨q,rfl⟩|⟨_,_,q⟩
  .subst q;rw[hi]at I;cases I;exact(AE ei.kids pl.2 j).mem_iff.2 (pX _ O)
  .grind
  .grind
 refine⟨σ',hq,⟨⟨?_,?_,?_,?_⟩,⟨?_,?_,?_⟩,λx O=>?_,λi B=>?_,λd U=>N _ _ (h.head d ?_),λd U=>N _ _ (h.form d ?_),λy P hy=>?_,?_,?_,?_,?_,?_⟩,?_,?_,?_,?_,?_,?_,E,?_⟩
 .intro i e p B G;rcases u i e B with⟨q,rfl⟩|⟨q,rfl⟩|⟨_,_,q⟩
  .rw[q]at *;have⟨ep,C,h3⟩:=h.og.up _ _ p hi G;grind
  .cases G;exact⟨_,g1,by rw[q];exact(AE ei.kids pl.2 j).mem_iff.2 (tl ..)⟩
  .have⟨ep,C,h3⟩:=h.og.up _ _ p q G;grind
 .intro i e x B O;have a2:∀S,σ.gV i=some S->x∈iE S.kids->∃T,σ'.gV x=some T/\T.ja=some i:=by
   intro S W a0;have⟨T,C,h3⟩:=h.og.dn i S x W a0;have a1:x≠j:=by rintro rfl;rw[F]at C;cases C;rw[H]at h3;cases h3
   have⟨ex',h4,_,_,_,h5⟩:=E x T C;exact⟨ex',h4,(h5 a1).trans h3⟩
  rcases u i e B with⟨q,rfl⟩|⟨q,rfl⟩|⟨_,_,q⟩
  .rw[q]at a2|-;rcases List.mem_cons.1 ((AE ei.kids pl.2 j).mem_iff.1 O)with C|C
   all_goals grind
  .grind
  grind
 .intro i e B;rcases u i e B with⟨q,rfl⟩|⟨q,rfl⟩|⟨_,_,q⟩
  .exact(AE ei.kids pl.2 j).nodup_iff.2 (List.nodup_cons.2 ⟨Y,h.og.nd _ _ hi⟩)
  .show(iE ej.kids).Nodup;exact h.og.nd _ _ F
  .exact h.og.nd _ _ q
 .intro i e B k L;rw[gk];rcases u i e B with⟨q,rfl⟩|⟨q,rfl⟩|⟨_,_,q⟩
  .rcases TO.1 L with rfl|L
   .grind[Ab.jg]
   .exact h.og.kd _ _ hi k L
  .exact h.og.kd _ _ F k L
  .exact h.og.kd _ _ q k L
 .intro i e p B G;rcases u i e B with⟨q,rfl⟩|⟨q,rfl⟩|⟨_,_,q⟩
  .rw[q];exact h.sZ.ja _ _ p hi G
  .grind
  .exact h.sZ.ja _ _ p q G
 .rw[l];exact h.sZ.gq
 .rw[l];exact h.sZ.hd
 .rw[ge];exact h.gq x (by rwa [l]at O)
 .have⟨e,I,hf⟩:=h.act i (by rw[l]at B;exact B);grind
 .rwa [l]at U
 .rwa [l]at U
 .have⟨z,q,C⟩:=h.KU y P (by rwa [l]at hy);grind
 .rw[l];exact h.wC
 .rw[l];exact h.zq
 .rw[l];exact h.N2
 .rw[l];exact h.Q0
 .have⟨e,I⟩:=Option.isSome_iff_exists.1 h.wK;grind
 .rw[l];exact⟨rfl,rfl,rfl,rfl,rfl,rfl,rfl,rfl,rfl,rfl,rfl,by grind,λ_=>rfl⟩
 .have w1:=rE (e':={ei with kids:=ins ei.kids pl.2 (.el j)}) hi;have w2:=rE (σ:=σ.gU pl.1 {ei with kids:=ins ei.kids pl.2 (.el j)}) (e':={ej with ja:=some pl.1}) (by rw[Ab.iM D];exact F);have w3:=TD ei.kids pl.2 (.el j) hn;grind
 .rw[l];rfl
 .rw[l];rfl
 .rw[l];rfl
 .rw[l,Ab.ny,Ab.ny]
 grind
theorem jy.alike (h:jy r σ) (X:∀i e,σ.gV i=some e->∃l,σ'.gV i=some l/\l.name=e.name/\l.ja=e.ja/\iE l.kids=iE e.kids) (W:∀i l,σ'.gV i=some l->∃e,σ.gV i=some e) (Y:∀i l,σ'.gV i=some l->∀k∈l.kids,σ'.jg k=true)
  (D:σ'.gq=σ.gq:=by rfl) (L:σ'.act=σ.act:=by rfl) (B:σ'.head=σ.head:=by rfl) (G:σ'.form=σ.form:=by rfl) (H:σ'.pL=σ.pL:=by rfl) (I:σ'.qH=σ.qH:=by rfl) (N:σ'.mode=σ.mode:=by rfl) (O:σ'.kept=σ.kept:=by rfl) (P:σ'.waiting=σ.waiting:=by rfl) (S:σ'.iL=σ.iL:=by rfl) (T:σ'.jB=σ.jB:=by rfl) (U:σ'.gH=σ.gH:=by rfl) (V:σ'.oO=σ.oO:=by rfl):jy r σ'/\Fx σ σ':=by
 have A:∀i s,iT σ i s->iT σ' i s:=λi s ⟨e,C,Z⟩=>by
  grind[iT]
 have q:∀i l,σ'.gV i=some l->∃e,σ.gV i=some e/\l.name=e.name/\l.ja=e.ja/\iE l.kids=iE e.kids:=by
  intro i l E;have⟨e,C⟩:=W i l E;have⟨e2,B,G⟩:=X i e C;rw[E]at B;cases B;exact⟨e,C,G⟩
 refine⟨⟨⟨?_,?_,?_,Y⟩,⟨?_,?_,?_⟩,?_,?_,?_,?_,?_,?_,?_,?_,?_,?_⟩,⟨N,O,B,G,P,S,T,U,H,I,V,A,λ_=>by rw[D]⟩⟩
 .intro i e p u hp;have⟨e0,g1,_,g3,_⟩:=q i e u;have⟨ep,g4,g5⟩:=h.og.up i e0 p g1 (by grind);grind
 .intro i e j u hj;have⟨e0,g1,_,_,g4⟩:=q i e u;have⟨ej,g5,g6⟩:=h.og.dn i e0 j g1 (by grind);grind
 .intro i e u;have⟨e0,g1,_,_,g4⟩:=q i e u;rw[g4];exact h.og.nd i e0 g1
 .intro i e p u hp;have⟨e0,g1,_,g3,_⟩:=q i e u;exact h.sZ.ja i e0 p g1 (by grind)
 .rw[D];exact h.sZ.gq
 .rw[B,D];exact h.sZ.hd
 .rw[D];intro x K;obtain⟨i,e,rfl,C⟩:=kE (h.gq x K);grind[Ab.lV]
 .rw[L];intro i u;have⟨e,C,Z⟩:=h.act i u;grind
 .rw[B];exact λd J=>A _ _ (h.head d J)
 .rw[G];exact λd J=>A _ _ (h.form d J)
 .rw[D];intro x F K;have⟨z,g1,g2⟩:=h.KU x F K;grind
 .rw[D,H];exact h.wC
 .rw[L,I];exact h.zq
 .rw[H];exact h.N2
 .rw[I];exact h.Q0
 .have⟨e,C⟩:=Option.isSome_iff_exists.1 h.wK;grind
theorem jy.uC (h:jy r σ) (nd:A0) (u:∀e,nd≠ .el e):jy r (σ.add nd)/\Fx σ (σ.add nd):=by
 refine h.alike (λi e A=>⟨e,by grind[Ab.gV,Ab.add],rfl,rfl,rfl⟩) ?_ ?_
 .grind[Ab.gV,Ab.add]
 .intro i p d k q;rcases Ab.Hk (nd:=nd) d with⟨_,l⟩|⟨_,l⟩
  .exact Ab.Ek (h.og.kd i p l k q)
  grind
theorem jy.ad5 (h:jy r σ) {d : zz} {k : Nd} (u:σ.gV i=some d) (F:∀j,k≠ .el j) (H:σ.jg k=true) (G:n<=d.kids.length):jy r (σ.gU i {d with kids:=ins d.kids n k})/\Fx σ (σ.gU i {d with kids:=ins d.kids n k})/\wt (σ.gU i {d with kids:=ins d.kids n k})=wt σ+1:=by
 have E:(σ.gV i).isSome=true:=by rw[u];rfl
 have q:∀j p,(σ.gU i {d with kids:=ins d.kids n k}).gV j=some p->(j=i/\p={d with kids:=ins d.kids n k})\/(j≠i/\σ.gV j=some p):=by
  intro j p l;by_cases A:j=i
  .subst A;rw[Ab.iR (Ab.ic u)]at l;grind
  .rw[Ab.iM A]at l;grind
 have B:=h.alike (σ':=σ.gU i {d with kids:=ins d.kids n k}) (λj e D=>by
  by_cases A:j=i
  .subst A;rw[u]at D;cases D;exact⟨_,Ab.iR (Ab.ic u),rfl,rfl,Rw _ _ _ F⟩
  .exact⟨e,by rw[Ab.iM A];exact D,rfl,rfl,rfl⟩) (λj p l=>by
  grind) (λj p l x C=>by
  rw[Ab.kP E];rcases q j p l with⟨_,rfl⟩|⟨_,B⟩
  .rcases TO.1 C with rfl|C
   .exact H
   .exact h.og.kd _ _ u x C
  .exact h.og.kd _ _ B x C)
 refine⟨B.1,B.2,?_⟩;have I:=rE (e':={d with kids:=ins d.kids n k}) u;have J:=TD d.kids n k G;grind
theorem jy.n4 (h:jy r σ) {t : Nat} {l : gn} (p:σ.nodes[t]?=some (.tx l)):jy r (σ.n4 t s)/\Fx σ (σ.n4 t s)/\wt (σ.n4 t s)+l.size=wt σ+s.size:=by
 have u:=h.alike (σ':=σ.n4 t s) (λi e B=>⟨e,by grind[Ab.gV,Ab.n4],rfl,rfl,rfl⟩) (λi q d=>⟨q,by rw[Ab.sR p]at d;exact d⟩) (λi q d k A=>by
  rw[Ab.F0 p];rw[Ab.sR p]at d;exact h.og.kd i q d k A)
 exact⟨u.1,u.2,Zd (m:= .tx s) p⟩
structure Rest (σ σ':Ab):Prop where
 gq:σ'.gq=σ.gq
 act:σ'.act=σ.act
 fresh:σ'.fresh=σ.fresh
 behind:σ'.behind=σ.behind
 nD:σ'.nD=σ.nD
 iX:σ'.iX=σ.iX
theorem PJ (h:mN σ) (A:AV σ pl) (s:gn) (hw:wt σ+s.size+1<=1000000):jr (s.size+1) σ (ux pl s σ) (λ_ σ'=>Rest σ σ'):=by
 have⟨r,h⟩:=h;have⟨ei,hi,hn⟩:=A;have F:=GB hi;unfold ux;rw[hi];dsimp only;rw[gN ⟨hn,by omega⟩];have B:jr (s.size+1) σ (.ok () ((σ.add (.tx s)).gU pl.1 {ei with kids:=ins ei.kids pl.2 (.tx σ.nodes.length)}):pC Unit) (λ_ σ'=>Rest σ σ'):=by
  have⟨a1,a2⟩:=h.uC (.tx s) (λe p=>by cases p);have l:(σ.add (.tx s)).gV pl.1=some ei:=by rw[Ab.tA (Ab.ic hi)];exact hi
  have k:(σ.add (.tx s)).jg (.tx σ.nodes.length)=true:=by simp[Ab.jg,Ab.add]
  have⟨b1,b2,b3⟩:=a1.ad5 (n:=pl.2) l (λj q=>by cases q) k hn;have H:=Zb σ (.tx s);have I:TP (.tx s)=s.size:=rfl;exact⟨⟨r,b1⟩,a2.trans b2,by omega,⟨rfl,rfl,rfl,rfl,rfl,rfl⟩⟩
 split
 .rename_i t G;have u:Nd.tx t∈ei.kids:=by
   by_cases C:pl.2=0
   .grind
   .grind
  have d:=h.og.kd _ _ hi _ u;unfold Ab.jg at d;dsimp only at d;cases hx:σ.nodes[t]? with
  |none=>grind
  |some nd=>
   rw[hx]at d;cases nd with
   |tx old=>
    have D:TP (.tx old)<=wt σ:=Zc hx;have E:TP (.tx old)=old.size:=rfl;dsimp only;rw[gN (by omega)];have⟨b1,b2,b3⟩:=h.n4 (s:=old++s) hx;have:(old++s).size=old.size+s.size:=ByteArray.size_append;exact⟨⟨r,b1⟩,b2,by omega,⟨rfl,rfl,rfl,rfl,rfl,rfl⟩⟩
   |el e=>cases d
   |cm s=>cases d
   |dt s=>cases d
 omega
def Ez (h:mN σ) (A:AV σ pl) (nd:A0) (k:Nat->Nd) (d:(∃s,nd= .cm s/\k= .cm)\/(∃s,nd= .dt s/\k= .dt)) (hw:wt σ+1<=1000000):jr 1 σ (oH pl nd k σ) (λ_ σ'=>Rest σ σ'):=by
 have⟨r,h⟩:=h;have⟨ei,hi,hn⟩:=A;have C:=GB hi;have u:∀e,nd≠ .el e:=by rintro e rfl;rcases d with⟨s,h,_⟩|⟨s,h,_⟩<;>cases h
 have q:∀i j,k i≠ .el j:=by rintro i j;rcases d with⟨s,_,h⟩|⟨s,_,h⟩<;>(rw[h];simp)
 have B:TP nd=0:=by rcases d with⟨s,h,_⟩|⟨s,h,_⟩<;>(rw[h];rfl)
 have⟨a1,a2⟩:=h.uC nd u;have p:(σ.add nd).gV pl.1=some ei:=by rw[Ab.tA (Ab.ic hi)];exact hi
 have l:(σ.add nd).jg (k σ.nodes.length)=true:=by
  rcases d with⟨s,rfl,rfl⟩|⟨s,rfl,rfl⟩<;>simp[Ab.jg,Ab.add]
 have⟨b1,b2,b3⟩:=a1.ad5 (n:=pl.2) p (q _) l hn;have D:=Zb σ nd;unfold oH zl;rw[p];dsimp only;rw[gN ⟨l,hn,by omega⟩];exact⟨⟨r,b1⟩,a2.trans b2,by omega,⟨rfl,rfl,rfl,rfl,rfl,rfl⟩⟩
theorem TU (h:i∈iE ks):0<=pZ ks (Nd.gQ i)/\(pZ ks (Nd.gQ i)).toNat < ks.length:=by
 have d:ks.findIdx (Nd.gQ i) < ks.length:=Zi ⟨_,xM.1 h,by simp[Nd.gQ]⟩;grind[pZ]
theorem qI (xs:kL) (n:Nat):io xs (n:Int)=xs.getD n none:=by
 grind[io]
theorem jy.at (h:jy r σ) (d:n < σ.gq.length):∃i e,σ.gq[n]?=some (some i)/\σ.gV i=some e:=by
 have⟨i,e,h1,h2⟩:=kE (h.gq _ (ti d));grind
def Fy (h:jy r σ) (C:some i∈σ.gq) (F:some i≠io σ.gq 0):∃pl,mF i σ= .ok pl σ/\AV σ pl/\r pl.1 < r i/\(some pl.1∈σ.gq\/∃e c,σ.gV pl.1=some e/\c∈iE e.kids):=by
 have⟨i',e,e1,he⟩:=kE (h.gq _ C);cases e1;unfold mF;rw[he];dsimp only;cases hp:e.ja with
 |some p=>
  have⟨ep,d,u⟩:=h.og.up i e p he hp;have⟨A,B⟩:=TU u;dsimp only;rw[d];dsimp only;rw[gN A];exact⟨_,rfl,⟨ep,d,by omega⟩,h.sZ.ja i e p he hp,.inr ⟨ep,i,d,u⟩⟩
 |none=>
  dsimp only;have d:σ.gq.idxOf (some i) < σ.gq.length:=List.idxOf_lt_length_of_mem C;have u:posOf σ.gq (some i)=(σ.gq.idxOf (some i):Int):=by unfold posOf;rw[gN d]
  have A:σ.gq.idxOf (some i)≠0:=by
   intro D;apply F;have:=List.getElem_idxOf d;rw[show(0:Int)=((0:Nat):Int)from rfl,qI];simp only[D]at this;rw[yd,qw (by omega),<-this];rfl
  have⟨q,eq,hq,he2⟩:=h.at (n:=σ.gq.idxOf (some i) - 1) (by omega);have B:io σ.gq (posOf σ.gq (some i) - 1)=some q:=by
   rw[u,show(σ.gq.idxOf (some i):Int) - 1=((σ.gq.idxOf (some i) - 1:Nat):Int) by omega,qI,yd,hq];rfl
  rw[B];dsimp only;unfold jt;rw[he2];refine⟨_,rfl,⟨eq,he2,gW _⟩,?_,.inl (tk hq)⟩;have k:=List.pairwise_iff_getElem.1 h.sZ.gq (σ.gq.idxOf (some i) - 1) (σ.gq.idxOf (some i)) (by omega) d (by omega);rw[List.getElem_idxOf d]at k;have E:σ.gq[σ.gq.idxOf (some i) - 1]'(by omega)=some q:=by
   have:=qw (l:=σ.gq) (i:=σ.gq.idxOf (some i) - 1) (by omega);rw[hq]at this;exact(jz this).symm
  rwa [E]at k
theorem Fz:∀{xs:kL} {x:jb},rI σ xs=some x->x∈xs/\x≠io σ.gq 0/\kh (σ.qK x) fR=true
 |[],x,h=>by cases h
 |y::xs,x,h=>by
  unfold rI at h;split at h
  .have⟨h1,h2⟩:=Fz h;grind
  grind
theorem jy.first (h:jy r σ) (k:σ.gq≠[]):∃q e d,σ.gq=some q::d/\io σ.gq 0=some q/\σ.gV q=some e/\e.name=fP:=by
 cases ho:σ.gq with
 |nil=>grind
 |cons x d=>
  obtain⟨q,rfl,e,l,p⟩:=h.KU x d ho;grind[io]
theorem Qu (h:jy r σ):σ.Al=true:=by
 unfold Ab.Al;rw[LW];intro x d;obtain⟨i,e,rfl,l⟩:=kE (h.gq x d);dsimp only;by_cases k:some i=io σ.gq 0
 .grind
 .have⟨pl,h1,_⟩:=Fy h d k;rw[h1];simp[pC.isOk]
theorem zN (h:jy r σ) (k:σ.gq≠[]):∃pl,jO σ= .ok pl σ/\AV σ pl/\(some pl.1∈σ.gq\/∃e c,σ.gV pl.1=some e/\c∈iE e.kids)/\((∃i,some i∈σ.gq/\kh (σ.nm i) fR=true/\rI σ σ.gq.reverse=some (some i)/\r pl.1 < r i)\/io σ.gq 0=some pl.1):=by
 unfold jO;rw[gN (Qu h)];have⟨q,eq,rest,ho,hq,l,_⟩:=h.first k;cases hf:rI σ σ.gq.reverse with
 |none=>
  dsimp only;rw[hq];dsimp only;unfold jt;rw[l];grind[AV]
 |some x=>
  have⟨h1,h2,h3⟩:=Fz hf;have d:x∈σ.gq:=List.mem_reverse.1 h1;obtain⟨i,e,rfl,l⟩:=kE (h.gq x d);dsimp only;have⟨pl,p1,p2,p3,p4⟩:=Fy h d h2;exact⟨pl,p1,p2,p4,.inl ⟨i,d,h3,rfl,p3⟩⟩
theorem PE (h:jy r σ) (d:some i∈σ.gq):∃pl,placeFor i σ= .ok pl σ/\AV σ pl/\(some pl.1∈σ.gq\/∃e c,σ.gV pl.1=some e/\c∈iE e.kids):=by
 have⟨i',e,e1,he⟩:=kE (h.gq _ d);cases e1;unfold placeFor;split
 .have⟨pl,h1,h2,h3,_⟩:=zN h (List.ne_nil_of_mem d);grind
 .unfold jt;rw[he];grind[AV]
theorem M2 (h:jy r σ) (d:σ.gq≠[]):∃i e,σ.last=some i/\some i∈σ.gq/\σ.gq.getLast?=some (some i)/\σ.gV i=some e:=by
 have k:0 < σ.gq.length:=List.length_pos_iff.2 d;have⟨i,e,h1,h2⟩:=h.at (n:=σ.gq.length - 1) (by omega);refine⟨i,e,?_,tk h1,by grind,h2⟩;unfold Ab.last;rw[show(σ.gq.length:Int) - 1=((σ.gq.length - 1:Nat):Int) by omega,qI,yd,h1];rfl
theorem Et (h:jy r σ) (d:σ.gq≠[]):∃pl,mU σ= .ok pl σ/\AV σ pl/\(some pl.1∈σ.gq\/∃e c,σ.gV pl.1=some e/\c∈iE e.kids):=by
 have⟨i,e,h1,h2,_⟩:=M2 h d;have⟨pl,h3,h4⟩:=PE h h2;grind[mU]
theorem jy.push (h:jy r σ) (B:σ.gV j=some e) (E:∀x∈σ.gq,rk r x < r j) (D:σ.gq.length < σ.pL) (q:σ.gq≠[]\/(e.name=fP/\σ.head=none)):jy r {σ with gq:=σ.gq++[some j]}/\Fx σ {σ with gq:=σ.gq++[some j]}:=by
 have A:σ.gq≠[]->(σ.gq++[some j]).head?=σ.gq.head?:=by
  intro C;cases ho:σ.gq with
  |nil=>grind
  |cons x p=>rfl
 refine⟨⟨⟨h.og.up,h.og.dn,h.og.nd,h.og.kd⟩,⟨h.sZ.ja,?_,?_⟩,?_,h.act,h.head,h.form,?_,?_,h.zq,h.N2,h.Q0,h.wK⟩,⟨rfl,rfl,rfl,rfl,rfl,rfl,rfl,rfl,rfl,rfl,rfl,λ_ _ h=>h,A⟩⟩
 .refine List.pairwise_append.2 ⟨h.sZ.gq,by simp,λx k y F=>?_⟩;grind[rk]
 .intro d x u k;rcases q with q|⟨_,q⟩
  .exact h.sZ.hd d x u (by grind)
  grind
 .intro x k;rcases List.mem_append.1 k with k|k
  .exact h.gq x k
  .rw[List.mem_singleton.1 k];show(σ.gV j).isSome=true;grind
 .intro x p k;have l:σ.gq++[some j]=x::p:=k;cases ho:σ.gq with
  |nil=>
   rw[ho]at l;injection l with h1 h2;rcases q with q|⟨q,_⟩
   .grind
   .exact⟨j,h1.symm,e,B,q⟩
  |cons y r2=>
   rw[ho]at l;injection l with h1 h2;have⟨z,h3,h4⟩:=h.KU y r2 ho;exact⟨z,h1▸h3,h4⟩
 grind
def Mz (h:e.kids=[]):iE e.kids=[]:=by rw[h];rfl
structure aeK (σ:Ab) (j:Nat) (σ':Ab):Prop where
 gq:σ'.gq=σ.gq++[some j]
 act:σ'.act=σ.act
 fresh:σ'.fresh=σ.fresh
 len:σ'.nodes.length=σ.nodes.length
theorem Lj (h:mN σ) (d:σ.gV j=some e) (k:e.ja=none) (D:e.kids=[]) (F:some j∉σ.gq) (u:σ.gq≠[]) (hw:wt σ < 999999):jr 1 σ (mn j σ) (λ_ σ'=>aeK σ j σ'):=by
 have⟨r,h⟩:=h;have⟨pl,p1,p2,G⟩:=Et h u;have I:pl.1≠j:=by
  rintro rfl;rcases G with G|⟨e2,c,l,C⟩
  .grind
  .rw[d]at l;cases l;rw[D]at C;cases C
 have⟨B,hB⟩:=zH r σ.nodes.length;have K:=h.raise d (Mz D) F (x:=B+1) (by have:=hB j (Ab.ic d);omega);have J:pl.1 < σ.nodes.length:=by have⟨e2,l,_⟩:=p2;exact Ab.ic l
 have⟨σ',q1,q2,q3,q4,q5,q6,q7,q8,q9,q10⟩:=K.put p2 d k (by grind[wD]) (by omega);unfold mn;rw[M.gm,p1];dsimp only;rw[M.gm,q1];dsimp only;rw[M.gm];unfold wN;have⟨e',e1,e2,_⟩:=q9 j e d;by_cases E:σ'.pL<=σ'.gq.length
 .rw[gN E];exact q3.gH
 .rw[gI E];have p:σ'.lV (some j)=true:=by show(σ'.gV j).isSome=true;rw[e1];rfl
  rw[gN p];dsimp only;have⟨g1,g2⟩:=q2.push e1 (by
   intro x A;rw[q5]at A;rw[EP];obtain⟨i,L,rfl,H⟩:=kE (h.gq x A);show wD r j (B+1) i < _;have q:i≠j:=by rintro rfl;exact F A
   rw[DN q];have:=hB i (Ab.ic H);omega) (by omega) (.inl (by grind))
  exact⟨⟨_,g1⟩,q3.trans g2,by grind[wt],⟨by grind,q6,q7,q8⟩⟩
def tP (xs:kL) (k:Nat):(xs.reverse.drop k).reverse=xs.take (xs.length - k):=by
 rw[List.reverse_drop];simp
theorem Jz (σ:Ab) (p:gn->Bool):∀ys:kL,(∃x∈ys,p (σ.qK x)=true)->∃k,1<=k/\k<=ys.length/\Ab.Ao σ p ys=ys.drop k/\∃x,ys[k - 1]?=some x/\p (σ.qK x)=true
 |[],h=>by grind
 |y::ys,h=>by
  unfold Ab.Ao;by_cases d:p (σ.qK y)=true
  .rw[gN d];exact⟨1,gW _,by simp,rfl,y,rfl,d⟩
  .rw[gI d];have⟨x,l,hpx⟩:=h;have q:x∈ys:=by
    rcases List.mem_cons.1 l with rfl|l
    .grind
    .exact l
   have⟨k,h1,h2,h3,x2,h4,h5⟩:=Jz σ p ys ⟨x,q,hpx⟩;refine⟨k+1,by omega,by grind,by grind,x2,?_,h5⟩;grind
theorem Jd (σ:Ab) (p b:gn->Bool):∀{ys:kL},Ab.xi σ p b ys=true->∃x∈ys,p (σ.qK x)=true
 |[],h=>by cases h
 |y::ys,h=>by
  unfold Ab.xi at h;by_cases d:p (σ.qK y)=true
  .grind
  .rw[gI d]at h;split at h
   .cases h
   .have⟨x,hx,h2⟩:=Jd σ p b h;grind
def AR {k : Nat} (h:1<=k):(xs.take k).head?=xs.head?:=by
 cases xs with
 |nil=>simp
 |cons x r=>cases k with
  |zero=>omega
  |succ k=>rfl
theorem jy.IG (h:jy r σ) (d:σ.gq.head?=some x):σ.qK x=fP:=by
 cases ho:σ.gq with
 |nil=>grind
 |cons y rest=>
  rw[ho]at d;cases d;obtain⟨q,rfl,e,k,l⟩:=h.KU _ rest ho;show σ.nm q=_;grind[Ab.nm]
theorem Y7 (h:jy r σ) (p:gn->Bool) (C:p fP=false) (D:∃x∈σ.gq,p (σ.qK x)=true):jy r (σ.EN p)/\Fx σ (σ.EN p)/\∃k,1<=k/\k < σ.gq.length/\(σ.EN p).gq=σ.gq.take k:=by
 have⟨k,h1,h2,h3,x,h4,h5⟩:=Jz σ p σ.gq.reverse (by grind);have A:k<=σ.gq.length:=by simpa using h2
 have e:(Ab.Ao σ p σ.gq.reverse).reverse=σ.gq.take (σ.gq.length - k):=by rw[h3,tP]
 have q:1<=σ.gq.length - k:=by
  rcases uW k σ.gq.length with B|l
  .omega
  .exfalso;have u:k=σ.gq.length:=by omega
   have d:σ.gq.head?=some x:=by
    rw[QO (by omega)]at h4;rw[Ci]
    rwa [show σ.gq.length - 1 - (k - 1)=0 by omega]at h4
   rw[h.IG d,C]at h5;cases h5
 have⟨g1,g2⟩:=h.sub (ys:=σ.gq.take (σ.gq.length - k)) (EX _ _) (AR q);grind[Ab.EN]
structure uo (σ σ':Ab):Prop where
 nodes:σ'.nodes=σ.nodes
 act:σ'.act=σ.act
 fresh:σ'.fresh=σ.fresh
 gq:∃k,σ'.gq=σ.gq.take k
def uo.refl (σ:Ab):uo σ σ:=⟨rfl,rfl,rfl,σ.gq.length,by simp⟩
def jh (h:σ'.nodes=σ.nodes):wt σ'=wt σ:=by unfold wt;rw[h]
theorem vK (h:mN σ) (p b:gn->Bool) (d:p fP=false):jr 0 σ (ng p b σ) (λx σ'=>uo σ σ'/\(x=true->σ'.gq.length < σ.gq.length)/\(x=false->σ'=σ)):=by
 have⟨r,h⟩:=h;unfold ng;split
 .rename_i l;have⟨x,h1,h2⟩:=Jd σ p b l;have⟨g1,g2,k,g3,g4,g5⟩:=Y7 h p d ⟨x,List.mem_reverse.1 h1,h2⟩;exact⟨⟨r,g1⟩,g2,nf (jh rfl),⟨rfl,rfl,rfl,k,g5⟩,λ_=>by grind,λh=>by cases h⟩
 .exact⟨⟨r,h⟩,Fx.refl _,gW _,uo.refl _,(λh=>by cases h),λ_=>rfl⟩
theorem Hg (σ:Ab) (p:gn->Bool):∀ys:kL,∃k,k<=ys.length/\Ab.pU σ p ys=ys.drop k/\∀j,j < k->∃x,ys[j]?=some x/\p (σ.qK x)=true
 |[]=>⟨0,gW _,rfl,λj d=>by omega⟩
 |y::ys=>by
  unfold Ab.pU;by_cases l:p (σ.qK y)=true
  .rw[gN l];have⟨k,h1,h2,h3⟩:=Hg σ p ys;refine⟨k+1,by grind,by grind,λj d=>?_⟩;cases j with
   |zero=>grind
   |succ j=>grind
  .rw[gI l];exact⟨0,iP _,rfl,λj d=>by omega⟩
def Z1 (h:jy r σ) (p:gn->Bool) (B:p fP=false):∃k,(Ab.pU σ p σ.gq.reverse).reverse=σ.gq.take k/\(σ.gq≠[]->1<=k):=by
 have⟨k,h1,h2,h3⟩:=Hg σ p σ.gq.reverse;have u:k<=σ.gq.length:=by simpa using h1
 refine⟨σ.gq.length - k,by rw[h2,tP],λd=>?_⟩;rcases uW k σ.gq.length with A|q
 .omega
 .exfalso;have C:0 < σ.gq.length:=List.length_pos_iff.2 d;have⟨x,h4,h5⟩:=h3 (σ.gq.length - 1) (by omega);have l:σ.gq.head?=some x:=by
   rw[QO (by omega)]at h4;rw[Ci]
   rwa [show σ.gq.length - 1 - (σ.gq.length - 1)=0 by omega]at h4
  rw[h.IG l,B]at h5;cases h5
theorem Hh (h:mN σ) (p:gn->Bool) (d:p fP=false):mN {σ with gq:=(Ab.pU σ p σ.gq.reverse).reverse}/\Fx σ {σ with gq:=(Ab.pU σ p σ.gq.reverse).reverse}/\uo σ {σ with gq:=(Ab.pU σ p σ.gq.reverse).reverse}:=by
 have⟨r,h⟩:=h;have⟨k,h1,h2⟩:=Z1 h p d;rw[h1];cases ho:σ.gq with
 |nil=>
  have:([]:kL).take k=σ.gq:=by rw[ho];simp
  rw[this];exact⟨⟨r,h⟩,Fx.refl _,uo.refl _⟩
 |cons x rest=>
  rw[<-ho];have⟨g1,g2⟩:=h.sub (ys:=σ.gq.take k) (EX _ _) (AR (h2 (by grind)));exact⟨⟨r,g1⟩,g2,rfl,rfl,rfl,k,rfl⟩
def wI (h:mN σ) (p:gn->Bool):jr 0 σ (ur p σ) (λ_ σ'=>uo σ σ'):=by
 have⟨g1,g2,g3⟩:=Hh h (λs=>!(p s||hH [fP] s)) (by simp[hH,kh]);exact⟨g1,g2,nf (jh rfl),g3⟩
theorem Eu (h:mN σ) (d:2<=σ.gq.length):mN σ.pop/\Fx σ σ.pop:=by
 have⟨r,h⟩:=h;have e:σ.gq.dropLast=σ.gq.take (σ.gq.length - 1):=Zg;have⟨g1,g2⟩:=h.sub (ys:=σ.gq.take (σ.gq.length - 1)) (EX _ _) (AR (by omega));grind[mN,Ab.pop]
def uo.pop (σ:Ab):uo σ σ.pop:=⟨rfl,rfl,rfl,σ.gq.length - 1,Zg⟩
theorem wJ (h:mN σ) (p:gn->Bool) (A:p fP=false) (d:σ.current p=true):2<=σ.gq.length:=by
 have⟨r,h⟩:=h;unfold Ab.current at d;cases ho:σ.gq with
 |nil=>
  have:σ.last=none:=by unfold Ab.last;rw[ho];rfl
  grind
 |cons x rest=>
  cases rest with
  |cons y r2=>simp
  |nil=>
   exfalso;obtain⟨q,rfl,e,k,l⟩:=h.KU x [] ho;have:σ.last=some q:=by unfold Ab.last;rw[ho];rfl
   rw[this]at d;have u:σ.nm q=fP:=by unfold Ab.nm;rw[k];exact l
   grind
def tN (h:mN σ) (p:gn->Bool) (k:p fP=false):jr 0 σ (pS p σ) (λ_ σ'=>uo σ σ'):=by
 show jr 0 σ (.ok () (σ.IW p)) _;unfold Ab.IW;split
 .rename_i d;have⟨g1,g2⟩:=Eu h (wJ h p k d);exact⟨g1,g2,nf (jh rfl),uo.pop σ⟩
 .exact⟨h,Fx.refl _,gW _,uo.refl _⟩
def jy.BW (h:jy r σ) (k:∀i,some i∈ys->∃e,σ.gV i=some e/\qX e.name=true) (d:ys.length<=σ.qH):jy r {σ with act:=ys}/\Fx σ {σ with act:=ys}:=
 ⟨⟨⟨h.og.up,h.og.dn,h.og.nd,h.og.kd⟩,⟨h.sZ.ja,h.sZ.gq,h.sZ.hd⟩,h.gq,k,h.head,h.form,h.KU,h.wC,d,h.N2,h.Q0,h.wK⟩,⟨rfl,rfl,rfl,rfl,rfl,rfl,rfl,rfl,rfl,rfl,rfl,λ_ _ h=>h,λ_=>rfl⟩⟩
structure Fc (σ:Ab) (s:gn) (j:Nat) (σ':Ab):Prop where
 gq:σ'.gq=σ.gq++[some j]
 act:σ'.act=σ.act
 nm:iT σ' j s
 new:σ.nodes.length<=j
def M8 (h:mN σ) (u:σ.gq≠[]) (hw:wt σ < 999999) (d:gn) (gx:lh) (b:Bool):jr 1 σ (mn σ.nodes.length (σ.pa (.el {name:=d,gM:=gx,ja:=none,kids:=[]}) b)) (λ_ σ'=>∃j,Fc σ d j σ'/\σ'.fresh=b):=by
 have⟨r,h⟩:=h;have⟨g1,g2⟩:=h.new d gx b 0;have k:(σ.pa (.el {name:=d,gM:=gx,ja:=none,kids:=[]}) b).gV σ.nodes.length=some {name:=d,gM:=gx,ja:=none,kids:=[]}:=Ab.tY;have A:some σ.nodes.length∉(σ.pa (.el {name:=d,gM:=gx,ja:=none,kids:=[]}) b).gq:=by
  intro C;have:=h.Es (i:=σ.nodes.length) C;omega
 have D:wt (σ.pa (.el {name:=d,gM:=gx,ja:=none,kids:=[]}) b)=wt σ:=DR _ _ _;have l:=Lj ⟨_,g1⟩ k rfl rfl A u (by omega);revert l;cases mn σ.nodes.length (σ.pa (.el {name:=d,gM:=gx,ja:=none,kids:=[]}) b)with
 |ok a σ'=>
  rintro⟨l,B,E,q⟩;refine⟨l,g2.trans B,by omega,σ.nodes.length,⟨q.gq,q.act,B.nm _ _ ⟨_,k,rfl⟩,gW _⟩,q.fresh⟩
 |stop e p=>exact λh=>h
 |stuck=>simp[jr]
def jr.iC {α:Type} {m:M α} (h:jr c σ (m σ) (λ_ σ'=>Q () σ')):jr c σ ((m>>=λ_=>(Pure.pure ():M Unit)) σ) Q:=by
 refine jr.bind h (c2:=0) (λa σ' d _ _ k=>jr.ret d k) (by omega)
def jr.tail_at {α:Type} {σ1 : Ab} {m:M α} (h:jr c σ (m σ1) (λ_ σ'=>Q () σ')):jr c σ ((m>>=λ_=>(Pure.pure ():M Unit)) σ1) Q:=by
 rw[M.gm];revert h;cases m σ1<;>exact λh=>h
def rJ (h:mN σ) (k:σ.gq≠[]) (hw:wt σ < 999999) (d:gn):jr 1 σ (j7 d σ) (λ_ σ'=>∃j,Fc σ d j σ'/\σ'.fresh=σ.fresh):=
 jr.iC (m:=λσ=>mn σ.nodes.length (σ.add (.el {name:=d,gM:=[],ja:=none,kids:=[]}))) (M8 h k hw d [] σ.fresh)
theorem jJ (h:mN σ) (d:σ.gq≠[]) (hw:wt σ < 999999) (t:gz) (l:t.oT=true) (k:σ.fresh=true):jr 1 σ (jn t σ) (λ_ σ'=>∃j,Fc σ t.name j σ'):=by
 unfold jn;rw[M.gm];unfold pH;rw[gN (by grind)];dsimp only;refine jr.tail_at ?_;refine(M8 h d hw t.name t.jm false).mono (gW _) ?_;grind
def aaL (h:Fc σ s j σ'):σ'.pop.gq=σ.gq:=by
 show σ'.gq.dropLast=_;rw[h.gq];simp
theorem Ds (h:Fc σ s j σ') (d:σ.gq≠[]):2<=σ'.gq.length:=by
 have:0 < σ.gq.length:=List.length_pos_iff.2 d;rw[h.gq];grind
def Dr (h:Fc σ s j σ'):σ'.last=some j:=by
 unfold Ab.last;rw[h.gq];have e:((σ.gq++[some j]).length:Int) - 1=((σ.gq.length:Nat):Int):=by simp
 rw[e,qI];simp
def xQ (h:mN σ) (d:2<=σ.gq.length):jr 0 σ (xP σ) (λx σ'=>σ'=σ.pop/\x=σ.last):=by
 have⟨g1,g2⟩:=Eu h d;exact⟨g1,g2,nf (jh rfl),rfl,rfl⟩
def qg (h:mN σ) (d:σ.gq≠[]) (hw:wt σ < 999999) (t:gz) (q:t.oT=true) (p:σ.fresh=true):jr 1 σ (lr t σ) (λ_ σ'=>σ'.gq=σ.gq/\σ'.act=σ.act):=by
 unfold lr;refine jr.bind (jJ h d hw t q p) (c2:=0) ?_ (by omega);rintro _ u l B _ ⟨j,k⟩;refine jr.iC ((xQ l (Ds k d)).mono (gW _) ?_);rintro x A _ _ ⟨rfl,_⟩;exact⟨aaL k,k.act⟩
def oA (h:mN σ) (d:σ.gq≠[]) (t:gz) (hw:wt σ+t.chars.size+1<=1000000):jr (t.chars.size+1) σ (jR t σ) (λ_ σ'=>Rest σ σ'):=by
 have⟨r,hr⟩:=h;have⟨pl,p1,p2,_⟩:=Et hr d;unfold jR;rw[M.gm,p1];dsimp only;exact jr.iC (m:=ux pl t.chars) (PJ ⟨r,hr⟩ p2 t.chars hw)
def OT (h:qX s=true):nh s=false:=by
 unfold qX hH at h;rw[List.any_eq_true]at h;have⟨x,hx,he⟩:=h;have e:=sJ he;simp only[se,sg,sV]at hx;rcases hx with rfl|rfl|rfl|rfl<;>(rw[e];simp[nh,kh,ab5,ab4,sD])
def Da (h:qX s=true):s≠fP:=by
 rintro rfl;simp[qX,hH,kh,sD]at h
theorem YP (h:(pI xs x (some j))[m]?=some y):xs[m]?=some y\/y=some j:=by
 unfold pI at h;grind
theorem I4 (xs:kL) (x y:jb):(pI xs x y).length=xs.length:=by
 grind[pI]
theorem I6 (h:z∈pI xs x y):z∈xs\/z=y:=by
 unfold pI at h;grind
theorem UA (h:mN σ) {d : Nat} (p:(σ.gV d).isSome=true) (l:iT σ j s) (q:qX s=true):jr 0 σ (qW (some d) (some j) σ) (λ_ σ'=>σ'.gq=σ.gq/\σ'.act=pI σ.act (some d) (some j)/\σ'.fresh=σ.fresh):=by
 have⟨r,h⟩:=h;have⟨ej,hej,hn⟩:=l;unfold qW;rw[gN (by grind[Ab.gQ])];have⟨g1,g2⟩:=h.BW (ys:=pI σ.act (some d) (some j)) (λi k=>by
  rcases I6 k with k|k
  .exact h.act i k
  grind) (by rw[I4];exact h.zq)
 exact⟨⟨r,g1⟩,g2,nf (jh rfl),rfl,rfl,rfl⟩
def zF (k:σ.gV i=some e) (d:qX e.name=true):kI i σ= .ok σ.nodes.length (σ.pa (.el {name:=e.name,gM:=e.gM,ja:=none,kids:=[]}) σ.fresh):=by
 unfold kI;rw[k];dsimp only;rw[OT d];rfl
theorem PY:∀(k n:Nat) {σ:Ab},mN σ->σ.gq≠[]->wt σ+k < 999999->n+k<=σ.act.length->(∀m,n<=m->m < n+k->∃i,σ.act[m]?=some (some i))->jr k σ (I0 k n σ) (λ_ σ'=>σ.gq <+:σ'.gq/\σ'.act.length=σ.act.length/\σ'.fresh=σ.fresh)
 |0,n,σ,h,_,_,_,_=>jr.ret h ⟨List.prefix_refl _,rfl,rfl⟩
 |k+1,n,σ,h,hne,hw,hl,ha=>by
  have⟨old,ho⟩:=ha n (gW _) (by omega);have⟨r,hr⟩:=h;have⟨eo,heo,hfo⟩:=hr.act old (tk ho);have D:Fh n σ= .ok old σ:=by
   unfold Fh;rw[qI,yd,ho];rfl
  unfold I0;rw[M.gm,D];dsimp only;rw[M.gm,zF heo hfo];dsimp only;rw[M.gm];have H:=M8 ⟨r,hr⟩ hne (by omega) eo.name eo.gM σ.fresh;revert H;cases hq:mn σ.nodes.length (σ.pa (.el {name:=eo.name,gM:=eo.gM,ja:=none,kids:=[]}) σ.fresh)with
  |stop e p=>simp[jr]
  |stuck=>simp[jr]
  |ok u σ1=>
   rintro⟨O,B,X,j,q,C⟩;dsimp only;have E:qA old σ1=qW (some old) (some j) σ1:=by unfold qA;rw[Dr q]
   have⟨eo1,heo1,_⟩:=B.nm old eo.name ⟨eo,heo,rfl⟩;have I:jr (k+0) σ1 ((qA old>>=λ_=>I0 k (n+1)) σ1) (λ_ σ'=>σ.gq <+:σ'.gq/\σ'.act.length=σ.act.length/\σ'.fresh=σ.fresh):=by
    refine jr.bind (c1:=0) (by rw[E];exact UA O (by grind) q.nm hfo) (c2:=k) ?_ (by omega);rintro _ d P N Y ⟨S,A,U⟩;have l:d.act.length=σ.act.length:=by rw[A,I4,q.act]
    refine(PY k (n+1) P (N.ne (B.ne hne)) (by omega) (by omega) ?_).mono (gW _) ?_
    .intro m H I;have⟨i,hi⟩:=ha m (by omega) (by omega);have W:m < d.act.length:=by omega
     cases hx:d.act[m]? with
     |none=>grind
     |some y=>
      rw[A]at hx;rcases YP hx with J|J
      .rw[q.act,hi]at J;grind
      grind
    .rintro _ F _ _ ⟨T,G,V⟩;refine⟨?_,G.trans l,V.trans (U.trans C)⟩;refine List.IsPrefix.trans ?_ T;rw[S,q.gq];simp
   revert I;cases((qA old>>=λ_=>I0 k (n+1)) σ1)with
   |ok a F=>rintro⟨K,A,G,L⟩;exact⟨K,B.trans A,by omega,L⟩
   |stop e p=>exact λh=>y6 h B.gH
   |stuck=>simp[jr]
theorem LJ (σ:Ab):∀ys:kL,σ.kR ys<=ys.length/\∀m,m < ys.length - σ.kR ys->∃i,ys[m]?=some (some i)
 |[]=>⟨gW _,λm k=>by grind⟩
 |x::ys=>by
  unfold Ab.kR;by_cases d:σ.RY x=true
  .grind
  .rw[gI d];have⟨h1,h2⟩:=LJ σ ys;refine⟨by grind,λm k=>?_⟩;cases m with
   |zero=>
    cases x with
    |none=>exact absurd (by rfl) d
    |some i=>simp
   |succ m=>exact h2 m (by grind)
theorem nJ (h:mN σ) (d:σ.gq≠[]) (hw:wt σ+32 < 999999):jr 32 σ (lF σ) (λ_ σ'=>σ.gq <+:σ'.gq/\σ'.act.length=σ.act.length/\σ'.fresh=σ.fresh):=by
 unfold lF;have⟨h1,h2⟩:=LJ σ σ.act.reverse;have l:σ.Ad<=σ.act.length:=by simpa [Ab.Ad]using h1
 have k:σ.act.length<=32:=by have⟨r,hr⟩:=h;exact jH hr.zq hr.Q0
 refine(PY (σ.act.length - σ.Ad) σ.Ad h d (by omega) (by omega) ?_).mono (by omega) (λ_ _ _ _ h=>h);intro m p q;have⟨i,hi⟩:=h2 (σ.act.length - 1 - m) (by
  have e:σ.kR σ.act.reverse=σ.Ad:=rfl;grind)
 grind
structure Uu (σ:Ab) (o a:kL) (σ':Ab):Prop where
 nodes:σ'.nodes=σ.nodes
 gq:σ'.gq=o
 act:σ'.act=a
 fresh:σ'.fresh=σ.fresh
def yj (h:mN σ) (k:σ.gQ x=true):jr 0 σ (kD x σ) (λ_ σ'=>Uu σ σ.gq (σ.act.erase x) σ'):=by
 have⟨r,h⟩:=h;unfold kD;rw[gN k];have⟨g1,g2⟩:=h.BW (ys:=σ.act.erase x) (λi d=>h.act i (Ax d)) (jH (List.length_erase_le) h.zq);exact⟨⟨r,g1⟩,g2,nf (jh rfl),rfl,rfl,rfl,rfl⟩
def Q9 (h:z∈nW xs x):z∈xs:=by
 unfold nW at h;rw[List.mem_reverse]at h;exact List.mem_reverse.1 ((Zm _).subset ((List.tail_sublist _).subset h))
theorem VG (xs:kL) (x:jb):(nW xs x).length<=xs.length:=by
 unfold nW;rw[List.length_reverse,List.length_tail];have:=(Zm (p:=λy=>decide (y≠x)) (l:=xs.reverse)).length_le;grind
def Jw (h:mN σ):jr 0 σ (yW σ) (λ_ σ'=>Uu σ σ.gq (nW σ.act none) σ'):=by
 refine jr.iC (m:=Bo none) ?_;have⟨r,h⟩:=h;unfold Bo;rw[gN (show σ.gQ none=true from rfl)];have⟨g1,g2⟩:=h.BW (ys:=nW σ.act none) (λi d=>h.act i (Q9 d)) (jH (VG _ _) h.zq);exact⟨⟨r,g1⟩,g2,nf (jh rfl),rfl,rfl,rfl,rfl⟩
theorem uX (h:mN σ) (x:jb) (p:∀i,x=some i->∃e,σ.gV i=some e/\qX e.name=true):jr 0 σ (lj x σ) (λ_ σ'=>Uu σ σ.gq (σ.act++[x]) σ'):=by
 have⟨r,h⟩:=h;unfold lj;split
 .rfl
 .rename_i l;have k:σ.gQ x=true:=by
   cases x with
   |none=>rfl
   |some i=>grind[Ab.gQ]
  rw[gN k];have⟨g1,g2⟩:=h.BW (ys:=σ.act++[x]) (λi d=>by
   rcases List.mem_append.1 d with d|d
   .exact h.act i d
   grind) (by grind)
  exact⟨⟨r,g1⟩,g2,nf (jh rfl),rfl,rfl,rfl,rfl⟩
theorem BC (σ:Ab) (j:Nat):∀(ys:kL) (c:jb×Nat),(σ.rT j ys c).1=c.1\/(σ.rT j ys c).1∈ys
 |[],c=> .inl rfl
 |none::_,c=> .inl rfl
 |some i::ys,c=>by
  unfold Ab.rT;split
  .rcases BC σ j ys (some i,c.2+1)with h|h
   all_goals grind
  .rcases BC σ j ys c with h|h
   all_goals grind
theorem WM (h:mN σ) (B:iT σ i s) (G:qX s=true):jr 0 σ (Mb i σ) (λ_ σ'=>σ'.gq=σ.gq/\σ'.fresh=σ.fresh):=by
 have⟨e,he,hn⟩:=B;have k:∀d,mN d->d.nodes=σ.nodes->jr 0 d (lj (some i) d) (λ_ σ'=>Uu d d.gq (d.act++[some i]) σ'):=by
  intro d l D;refine uX l (some i) ?_;intro j C;cases C;exact⟨e,by grind[Ab.gV],by grind⟩
 have q:σ.gQ (σ.rT i σ.act.reverse (none,0)).1=true:=by
  rcases BC σ i σ.act.reverse (none,0)with l|l
  .rw[l];rfl
  .cases hx:(σ.rT i σ.act.reverse (none,0)).1 with
   |none=>rfl
   |some j=>
    rw[hx]at l;have⟨r,hr⟩:=h;have⟨ej,hej,_⟩:=hr.act j (List.mem_reverse.1 l);grind[Ab.gQ]
 unfold Mb;dsimp only;split
 .refine jr.bind (yj h q) (c2:=0) ?_ (by omega);rintro _ d E F _ u;refine jr.iC ((k d E u.nodes).mono (gW _) ?_);rintro _ A _ _ p;exact⟨p.gq.trans u.gq,p.fresh.trans u.fresh⟩
 .refine jr.iC ((k σ h rfl).mono (gW _) ?_);rintro _ A _ _ p;exact⟨p.gq,p.fresh⟩
theorem Bz (h:xs.head?≠some x):(xs.erase x).head?=xs.head?:=by
 cases xs with
 |nil=>rfl
 |cons y r=>
  grind
def jy.Dx (h:jy r σ) (k:iT σ i s) (l:s≠fP):σ.gq.head?≠some (some i):=by
 intro e;have d:=h.IG e;have⟨ei,he,hn⟩:=k;apply l;rw[<-hn,<-d];show _=σ.nm i;unfold Ab.nm;rw[he]
theorem BF (h:mN σ) (d:iT σ i s) (k:s≠fP):jr 0 σ (j8 (some i) σ) (λ_ σ'=>Uu σ (σ.gq.erase (some i)) σ.act σ'):=by
 have⟨r,h⟩:=h;have⟨e,he,_⟩:=id d;unfold j8;rw[gN (by grind[Ab.gQ])];have⟨g1,g2⟩:=h.sub (ys:=σ.gq.erase (some i)) List.erase_sublist (Bz (h.Dx d k));exact⟨⟨r,g1⟩,g2,nf (jh rfl),rfl,rfl,rfl,rfl⟩
theorem CG:∀{ys:kL},x∈ys->∃j,j < ys.length/\ys.dropWhile (λy=>decide (y≠x))=ys.drop j/\ys[j]?=some x
 |[],h=>by cases h
 |y::ys,h=>by
  by_cases k:y=x
  .subst k;exact⟨0,by simp,by simp,rfl⟩
  .have d:x∈ys:=by
    rcases List.mem_cons.1 h with h|h
    .grind
    .exact h
   have⟨j,h1,h2,h3⟩:=CG d;refine⟨j+1,by grind,?_,by grind⟩;simp_all
theorem Sn (p:x∈xs) (d:xs.head?≠some x):∃k,1<=k/\k < xs.length/\nW xs x=xs.take k:=by
 have⟨j,h1,h2,h3⟩:=CG (List.mem_reverse.2 p);have l:j < xs.length:=by simpa using h1
 have e:nW xs x=xs.take (xs.length - (j+1)):=by
  unfold nW;rw[h2,List.tail_drop,tP]
 refine⟨_,?_,by omega,e⟩;rcases uW (j+1) xs.length with h|h
 .omega
 .exfalso;apply d;rw[QO l]at h3;rw[Ci];grind
theorem Sc (h:mN σ) (d:iT σ i s) (p:s≠fP) (l:some i∈σ.gq):jr 0 σ (zZ (some i) σ) (λ_ σ'=>uo σ σ'):=by
 have⟨r,h⟩:=h;have⟨e,he,_⟩:=id d;unfold zZ;rw[gN (by grind[Ab.gQ])];have⟨k,k1,k2,k3⟩:=Sn l (h.Dx d p);rw[k3];have⟨g1,g2⟩:=h.sub (ys:=σ.gq.take k) (EX _ _) (AR k1);exact⟨⟨r,g1⟩,g2,nf (jh rfl),rfl,rfl,rfl,k,rfl⟩
theorem OE (h:j∈iE ks) (p:(iE ks).Nodup):iE (ks.eraseIdx (ks.findIdx (Nd.gQ j)))=(iE ks).erase j:=by
 induction ks with
 |nil=>cases h
 |cons k r ih=>
  by_cases d:Nd.gQ j k=true
  .cases k with
   |el i=>
    grind[iE,Nd.gQ]
   |tx i=>cases d
   |cm i=>cases d
   |dt i=>cases d
  .have l:Nd.gQ j k=false:=by simpa using d
   rw[List.findIdx_cons,l];simp only[cond_false,List.eraseIdx_cons_succ];cases k with
   |el i=>
    grind[iE,Nd.gQ]
   |tx i=>exact ih h p
   |cm i=>exact ih h p
   |dt i=>exact ih h p
theorem jy.mw (h:jy r σ) {ej : zz} (F:σ.gV j=some ej):
  ∃σ',mw j σ= .ok () σ'/\jy r σ'/\Fx σ σ'/\wt σ'<=wt σ/\σ'.gq=σ.gq/\σ'.act=σ.act/\σ'.fresh=σ.fresh/\σ'.nodes.length=σ.nodes.length/\(∃C,σ'.gV j=some C/\C.ja=none/\C.name=ej.name):=by
 unfold Go.Proofs.YtccjlklnkhagdaaGreatDoor.mw;rw[F];dsimp only;cases hp:ej.ja with
 |none=>exact⟨σ,rfl,h,Fx.refl _,gW _,rfl,rfl,rfl,rfl,ej,F,hp,rfl⟩
 |some p=>
  have⟨ep,hep,hm⟩:=h.og.up j ej p F hp;have a9:=h.sZ.ja j ej p F hp;have H:j≠p:=by rintro rfl;omega
  have⟨q1,q2⟩:=TU hm;dsimp only;rw[hep];dsimp only;rw[gN ⟨H,q1,q2⟩];have a2:=Ab.ic hep;have a6:=Ab.ic F;have N:(pZ ep.kids (Nd.gQ j)).toNat=ep.kids.findIdx (Nd.gQ j):=by
   unfold pZ at q2|-;by_cases hf:ep.kids.findIdx (Nd.gQ j) < ep.kids.length
   .omega
   .exfalso;apply hf;exact Zi ⟨_,xM.1 hm,by simp[Nd.gQ]⟩
  rw[N]at q2|-;obtain⟨ks,G⟩:∃ks,ks=ep.kids.eraseIdx (ep.kids.findIdx (Nd.gQ j)):=⟨_,rfl⟩;rw[<-G];have a7:ks.length+1=ep.kids.length:=by rw[G,Zl q2];omega
  have S:iE ks=(iE ep.kids).erase j:=by rw[G];exact OE hm (h.og.nd p ep hep)
  have T:∀k∈ks,k∈ep.kids:=λk K=>by rw[G]at K;exact(List.eraseIdx_sublist _ _).subset K
  obtain⟨σ',l⟩:∃σ',σ'=(σ.gU p {ep with kids:=ks}).gU j {ej with ja:=none}:=⟨_,rfl⟩;rw[<-l];have g1:σ'.gV p=some {ep with kids:=ks}:=by rw[l,Ab.iM (wR H),Ab.iR a2]
  have g2:σ'.gV j=some {ej with ja:=none}:=by rw[l,Ab.iR (by grind[Ab.gU])]
  have g3:∀i,i≠p->i≠j->σ'.gV i=σ.gV i:=λi u D=>by rw[l,Ab.iM D,Ab.iM u]
  have O:(σ.gV p).isSome=true:=by rw[hep];rfl
  have P:((σ.gU p {ep with kids:=ks}).gV j).isSome=true:=by rw[Ab.iM H,F];rfl
  have gk:∀k,σ'.jg k=σ.jg k:=λk=>by rw[l,Ab.kP P,Ab.kP O]
  have ge:∀x,σ'.lV x=σ.lV x:=λx=>by rw[l,Ab.xK P,Ab.xK O]
  have I:∀i e,σ.gV i=some e->∃C,σ'.gV i=some C/\C.name=e.name/\(i≠p->C.kids=e.kids)/\(i≠j->C.ja=e.ja):=by
   intro i e E;by_cases u:i=p
   .grind
   .grind
  have B:∀i C,σ'.gV i=some C->(i=p/\C={ep with kids:=ks})\/(i=j/\C={ej with ja:=none})\/(i≠p/\i≠j/\σ.gV i=some C):=by
   intro i C E;by_cases u:i=p
   .grind
   .grind
  have U:∀i s,iT σ i s->iT σ' i s:=λi s ⟨e,E,hn⟩=>by
   grind[iT]
  have aa:∀i e q,σ.gV i=some e->i≠j->e.ja=some q->∃Z,σ'.gV q=some Z/\i∈iE Z.kids:=by
   intro i e q E a5 V;have⟨Z,D,J⟩:=h.og.up _ _ q E V;have⟨eq',h4,_,h5,_⟩:=I q Z D;refine⟨eq',h4,?_⟩;by_cases a8:q=p
   .grind
   .grind
  have a0:∀i e x,σ.gV i=some e->x∈iE e.kids->x≠j->∃L,σ'.gV x=some L/\L.ja=some i:=by
   intro i e x E W a3;have⟨L,D,J⟩:=h.og.dn i e x E W;have⟨ex',h4,_,_,h5⟩:=I x L D;exact⟨ex',h4,(h5 a3).trans J⟩
  have a4:∀i e,σ.gV i=some e->j∈iE e.kids->i=p:=by
   intro i e E a1;have⟨L,D,J⟩:=h.og.dn i e j E a1;rw[F]at D;cases D;rw[hp]at J;exact(jz J).symm
  refine⟨σ',rfl,⟨⟨?_,?_,?_,?_⟩,⟨?_,?_,?_⟩,λx W=>?_,λi A=>?_,λd hd=>U _ _ (h.head d ?_),λd hd=>U _ _ (h.form d ?_),λy Y hy=>?_,?_,?_,?_,?_,?_⟩,?_,?_,?_,?_,?_,?_,?_⟩
  .grind
  .intro i e x A W;rcases B i e A with⟨u,rfl⟩|⟨u,rfl⟩|⟨J,D,u⟩
   .rw[u];have X:x∈(iE ep.kids).erase j:=by rw[<-S];exact W
    exact a0 p ep x hep (Ax X) (λe=>by
     subst e;exact(List.Nodup.not_mem_erase (h.og.nd p ep hep)) X)
   all_goals grind
  .intro i e A;rcases B i e A with⟨u,rfl⟩|⟨u,rfl⟩|⟨_,_,u⟩
   .show(iE ks).Nodup;rw[S];exact(h.og.nd p ep hep).erase j
   .show(iE ej.kids).Nodup;exact h.og.nd _ _ F
   .exact h.og.nd _ _ u
  .intro i e A k K;rw[gk];rcases B i e A with⟨u,rfl⟩|⟨u,rfl⟩|⟨_,_,u⟩
   .exact h.og.kd _ _ hep k (T k K)
   .exact h.og.kd _ _ F k K
   .exact h.og.kd _ _ u k K
  .intro i e q A V;rcases B i e A with⟨u,rfl⟩|⟨u,rfl⟩|⟨_,_,u⟩
   .rw[u];exact h.sZ.ja _ _ q hep V
   .cases V
   .exact h.sZ.ja _ _ q u V
  .rw[l];exact h.sZ.gq
  .rw[l];exact h.sZ.hd
  .rw[ge];exact h.gq x (by rwa [l]at W)
  .have⟨e,E,hf⟩:=h.act i (by rw[l]at A;exact A);grind
  .rwa [l]at hd
  .rwa [l]at hd
  .have⟨z,u,D⟩:=h.KU y Y (by rwa [l]at hy);grind
  .rw[l];exact h.wC
  .rw[l];exact h.zq
  .rw[l];exact h.N2
  .rw[l];exact h.Q0
  .have⟨e,E⟩:=Option.isSome_iff_exists.1 h.wK;grind
  .rw[l];exact⟨rfl,rfl,rfl,rfl,rfl,rfl,rfl,rfl,rfl,rfl,rfl,by grind,λ_=>rfl⟩
  .have w1:=rE (e':={ep with kids:=ks}) hep;have w2:=rE (σ:=σ.gU p {ep with kids:=ks}) (e':={ej with ja:=none}) (by rw[Ab.iM H];exact F);grind
  .rw[l];rfl
  .rw[l];rfl
  .rw[l];rfl
  .rw[l,Ab.ny,Ab.ny]
  grind
structure abC (σ:Ab) (d:Nat) (ed:zz) (ks:List Nd) (σ':Ab):Prop where
 eq:σ'={σ with nodes:=σ'.nodes}
 len:σ'.nodes.length=σ.nodes.length
 dst:σ'.gV d=some {ed with kids:=ed.kids++ks}
 oth:∀i,i≠d->σ'.gV i=if i∈iE ks then (σ.gV i).map (λe=>{e with ja:=some d})else σ.gV i
 kid:∀k,σ'.jg k=σ.jg k
 wt:wt σ'=wt σ+ks.length
def TC (ks:List Nd) (k:Nd):ins ks ks.length k=ks++[k]:=by simp[ins]
theorem Eg:∀(ks:List Nd) {σ:Ab} {d:Nat} {ed:zz},σ.gV d=some ed->(∀k∈ks,σ.jg k=true)->d∉iE ks->(iE ks).Nodup->ed.kids.length+ks.length < 1000000->∃σ',xI d ks σ= .ok () σ'/\abC σ d ed ks σ'
 |[],σ,d,ed,hd,_,_,_,_=>⟨σ,rfl,rfl,rfl,by simp_all,λi _=>by rfl,λ_=>rfl,rfl⟩
 |k::ks,σ,d,ed,hd,hk,hn,hnd,hl=>by
  simp only[sW]at hl;have E:=Ab.ic hd;have B:(σ.gV d).isSome=true:=by rw[hd];rfl
  have S:jt d σ= .ok (d,ed.kids.length) σ:=by unfold jt;rw[hd]
  unfold xI;rw[M.gm,S];dsimp only;rw[M.gm];have F:=hk k (tl ..);have C:∀(I:Nd),(∀j,I≠ .el j)->k=I->∃l,zl (d,ed.kids.length) I σ= .ok () l/\∃σ',xI d ks l= .ok () σ'/\abC σ d ed (k::ks) σ':=by
   intro I U N;subst N;have L:zl (d,ed.kids.length) k σ= .ok () (σ.gU d {ed with kids:=ed.kids++[k]}):=by
    unfold zl;dsimp only;rw[hd];dsimp only;rw[gN ⟨F,gW _,by omega⟩,TC]
   refine⟨_,L,?_⟩;have A:iE (k::ks)=iE ks:=by
    cases k with
    |el j=>grind
    |tx j=>rfl
    |cm j=>rfl
    |dt j=>rfl
   rw[A]at hn hnd;have⟨σ',D,q⟩:=Eg ks (σ:=σ.gU d {ed with kids:=ed.kids++[k]}) (d:=d) (ed:={ed with kids:=ed.kids++[k]}) (Ab.iR E) (λx V=>by rw[Ab.kP B];grind) hn hnd (by grind);refine⟨σ',D,q.eq,by rw[q.len,Ab.ny],by rw[q.dst];simp,?_,λx=>by rw[q.kid,Ab.kP B],?_⟩
   .intro i H;rw[q.oth i H,A,Ab.iM H]
   .have W:=rE (e':={ed with kids:=ed.kids++[k]}) hd;have X:=q.wt;grind
  cases k with
  |tx j=>
   have⟨l,e1,σ',e2,e3⟩:=C (.tx j) (λ_ h=>by cases h) rfl;rw[show Ey (d,ed.kids.length) (.tx j) σ= .ok () l from e1];grind
  |cm j=>
   have⟨l,e1,σ',e2,e3⟩:=C (.cm j) (λ_ h=>by cases h) rfl;rw[show Ey (d,ed.kids.length) (.cm j) σ= .ok () l from e1];grind
  |dt j=>
   have⟨l,e1,σ',e2,e3⟩:=C (.dt j) (λ_ h=>by cases h) rfl;rw[show Ey (d,ed.kids.length) (.dt j) σ= .ok () l from e1];grind
  |el j=>
   have u:j≠d:=by rintro rfl;exact hn (tl ..)
   have⟨ej,hej⟩:=Option.isSome_iff_exists.1 (show(σ.gV j).isSome=true from F);have T:=Ab.ic hej;obtain⟨l,p⟩:∃l,l=(σ.gU d {ed with kids:=ed.kids++[.el j]}).gU j {ej with ja:=some d}:=⟨_,rfl⟩;have L:Ey (d,ed.kids.length) (.el j) σ= .ok () l:=by
    show mP (d,ed.kids.length) j σ=_;unfold mP;dsimp only;rw[hd,hej];dsimp only;rw[gN ⟨u,gW _,by omega⟩,TC,p]
   rw[L];dsimp only;have J:((σ.gU d {ed with kids:=ed.kids++[.el j]}).gV j).isSome=true:=by rw[Ab.iM u,hej];rfl
   have P:∀k,l.jg k=σ.jg k:=λk=>by rw[p,Ab.kP J,Ab.kP B]
   have O:l.gV d=some {ed with kids:=ed.kids++[.el j]}:=by rw[p,Ab.iM (wR u),Ab.iR E]
   have Y:l.gV j=some {ej with ja:=some d}:=by rw[p,Ab.iR (by grind[Ab.gU])]
   have go:∀i,i≠d->i≠j->l.gV i=σ.gV i:=λi D q=>by rw[p,Ab.iM q,Ab.iM D]
   have K:d∉iE ks:=λh=>hn (pX _ h);have G:=List.nodup_cons.1 (show(j::iE ks).Nodup from hnd);have⟨σ',D,q⟩:=Eg ks (σ:=l) (d:=d) (ed:={ed with kids:=ed.kids++[.el j]}) O (λx V=>by grind) K G.2 (by grind);refine⟨σ',D,?_,by rw[q.len,p,Ab.ny,Ab.ny],by rw[q.dst];simp,?_,λx=>by rw[q.kid,P],?_⟩
   .have:=q.eq;rwa [p]at this
   .intro i H;rw[q.oth i H];grind[iE]
   .have W:=rE (e':={ed with kids:=ed.kids++[.el j]}) hd;have X:=rE (σ:=σ.gU d {ed with kids:=ed.kids++[.el j]}) (e':={ej with ja:=some d}) (by rw[Ab.iM u];exact hej);have Z:=q.wt;grind
theorem jy.hand (h:jy r σ) {d : Nat} {l ed : zz} (C:σ.gV b=some l) (hd:σ.gV d=some ed) (N:b≠d) (V:ed.kids=[]) (Y:ed.ja=none) (hr:∀k∈iE l.kids,r d < r k) (hw:wt σ < 999999):
  ∃σ',handOver b d σ= .ok () σ'/\jy r σ'/\Fx σ σ'/\wt σ'=wt σ/\σ'.gq=σ.gq/\σ'.act=σ.act/\σ'.fresh=σ.fresh/\σ'.nodes.length=σ.nodes.length/\σ'.gV b=some {l with kids:=[]}/\σ'.gV d=some {ed with kids:=l.kids}:=by
 have a2:=Ab.ic C;have a5:d∉iE l.kids:=by
  intro W;have⟨e2,h1,h2⟩:=h.og.dn b l d C W;rw[hd]at h1;cases h1;rw[Y]at h2;cases h2
 have a3:b∉iE l.kids:=by
  intro W;have⟨e2,h1,h2⟩:=h.og.dn b l b C W;have:=h.sZ.ja b e2 b h1 h2;omega
 have af:=GB C;have⟨σ1,h1,h2⟩:=Eg l.kids hd (h.og.kd b l C) a5 (h.og.nd b l C) (by grind);have L:σ1.gV b=some l:=by rw[h2.oth b N,gI a3];exact C
 have a4:σ1.gV d=some {ed with kids:=l.kids}:=by rw[h2.dst,V];simp
 obtain⟨σ',B⟩:∃σ',σ'=σ1.gU b {l with kids:=[]}:=⟨_,rfl⟩;have hq:handOver b d σ= .ok () σ':=by
  unfold handOver;rw[C];dsimp only;rw[gI N];change M.bind (xI d l.kids) (λ_ σ'=>match σ'.gV b with|some eb'=> .ok () (σ'.gU b {eb' with kids:=[]})|none=> .stuck) σ=_
  unfold M.bind;rw[h1];dsimp only;rw[L,B]
 have T:(σ1.gV b).isSome=true:=by rw[L];rfl
 have gb:σ'.gV b=some {l with kids:=[]}:=by rw[B,Ab.iR (by rw[h2.len];exact a2)]
 have gd:σ'.gV d=some {ed with kids:=l.kids}:=by rw[B,Ab.iM (wR N)];exact a4
 have go:∀i,i≠d->i≠b->σ'.gV i=if i∈iE l.kids then (σ.gV i).map (λe=>{e with ja:=some d})else σ.gV i:=λi q D=>by rw[B,Ab.iM D,h2.oth i q]
 have gk:∀k,σ'.jg k=σ.jg k:=λk=>by rw[B,Ab.kP T,h2.kid]
 have u:σ'={σ with nodes:=σ'.nodes}:=by
  rw[B];have:=h2.eq;show({σ1 with nodes:=_}:Ab)=_;rw[this];rfl
 have A:∀i H,σ'.gV i=some H->(i=b/\H={l with kids:=[]})\/(i=d/\H={ed with kids:=l.kids})\/(i≠b/\i≠d/\i∈iE l.kids/\∃e,σ.gV i=some e/\H={e with ja:=some d})\/(i≠b/\i≠d/\i∉iE l.kids/\σ.gV i=some H):=by
  intro i H F;by_cases q:i=b
  .grind
  .by_cases D:i=d
   .grind
   .rw[go i D q]at F;by_cases G:i∈iE l.kids
    .rw[gN G]at F;have⟨e,h5,h6⟩:=Option.map_eq_some_iff.1 F;grind
    grind
 have ac:∀i e,σ.gV i=some e->∃H,σ'.gV i=some H/\H.name=e.name:=by
  intro i e F;by_cases q:i=b
  .grind
  .grind
 have J:∀i s,iT σ i s->iT σ' i s:=λi s ⟨e,F,hn⟩=>by
  grind[iT]
 have a9:∀i e p,σ.gV i=some e->e.ja=some p->i∉iE l.kids->∃K,σ'.gV p=some K/\i∈iE K.kids:=by
  intro i e p F hp ab;have⟨K,h5,h6⟩:=h.og.up i e p F hp;have Z:p≠b:=by rintro rfl;rw[C]at h5;cases h5;exact ab h6
  have a0:p≠d:=by rintro rfl;rw[hd]at h5;cases h5;rw[V]at h6;cases h6
  rw[go p a0 Z];by_cases G:p∈iE l.kids
  .grind
  .grind
 have ad:∀i e p,σ.gV i=some e->i≠b->i≠d->p∈iE e.kids->∃K,σ'.gV p=some K/\K.ja=some i:=by
  intro i e p F a7 ae W;have⟨K,h5,h6⟩:=h.og.dn i e p F W;have a0:p≠d:=by rintro rfl;rw[hd]at h5;cases h5;rw[Y]at h6;cases h6
  have ag:p∉iE l.kids:=by
   intro aa;have⟨e3,h7,h8⟩:=h.og.dn b l p C aa;rw[h5]at h7;cases h7;rw[h6]at h8;exact a7 (jz h8)
  by_cases Z:p=b
  .grind
  .grind
 have X:σ'.gq=σ.gq:=by rw[u]
 have S:σ'.act=σ.act:=by rw[u]
 have U:σ'.head=σ.head:=by rw[u]
 have a6:σ'.form=σ.form:=by rw[u]
 refine⟨σ',hq,⟨⟨?_,?_,?_,?_⟩,⟨?_,?_,?_⟩,?_,?_,?_,?_,?_,?_,?_,?_,?_,?_⟩,?_,?_,X,S,by rw[u],?_,gb,gd⟩
 .grind
 .intro i e j I hj;rcases A i e I with⟨q,rfl⟩|⟨q,rfl⟩|⟨q,D,G,P,E,rfl⟩|⟨q,D,G,E⟩
  .cases hj
  .rw[q];have a8:j∈iE l.kids:=hj;have⟨ej,h5,_⟩:=h.og.dn b l j C a8;grind
  all_goals grind
 .intro i e I;rcases A i e I with⟨q,rfl⟩|⟨q,rfl⟩|⟨q,D,G,P,E,rfl⟩|⟨q,D,G,E⟩
  .simp[iE]
  .show(iE l.kids).Nodup;exact h.og.nd b l C
  .show(iE P.kids).Nodup;exact h.og.nd i P E
  .exact h.og.nd i e E
 .intro i e I k hk;rw[gk];rcases A i e I with⟨q,rfl⟩|⟨q,rfl⟩|⟨q,D,G,P,E,rfl⟩|⟨q,D,G,E⟩
  .cases hk
  .exact h.og.kd b l C k hk
  .exact h.og.kd i P E k hk
  .exact h.og.kd i e E k hk
 .intro i e p I hp;rcases A i e I with⟨q,rfl⟩|⟨q,rfl⟩|⟨q,D,G,P,E,rfl⟩|⟨q,D,G,E⟩
  .rw[q];exact h.sZ.ja b l p C hp
  .grind
  .grind
  .exact h.sZ.ja i e p E hp
 .rw[X];exact h.sZ.gq
 .rw[X,U];exact h.sZ.hd
 .rw[X];intro x O;obtain⟨i,e,rfl,F⟩:=kE (h.gq x O);grind[Ab.lV]
 .rw[S];intro i I;have⟨e,F,hf⟩:=h.act i I;grind
 .rw[U];exact λx O=>J _ _ (h.head x O)
 .rw[a6];exact λx O=>J _ _ (h.form x O)
 .rw[X];intro x a1 O;have⟨z,q,D⟩:=h.KU x a1 O;grind
 .rw[u];exact h.wC
 .rw[u];exact h.zq
 .rw[u];exact h.N2
 .rw[u];exact h.Q0
 .have⟨e,F⟩:=Option.isSome_iff_exists.1 h.wK;grind
 .rw[u]at J|-;exact⟨rfl,rfl,rfl,rfl,rfl,rfl,rfl,rfl,rfl,rfl,rfl,J,λ_=>rfl⟩
 .have w1:=h2.wt;have w2:=rE (e':={l with kids:=[]}) L;grind
 .rw[B,Ab.ny];exact h2.len
theorem jy.nodup (h:jy r σ):σ.gq.Nodup:=h.sZ.gq.imp λd e=>by grind
theorem jy.YS (h:jy r σ) (u:∀x∈ys,σ.lV x=true) (A:ys.Pairwise λx y=>rk r x < rk r y) (l:ys.head?=σ.gq.head?) (B:ys.length<=σ.pL):jy r {σ with gq:=ys}/\Fx σ {σ with gq:=ys}:=by
 refine⟨⟨⟨h.og.up,h.og.dn,h.og.nd,h.og.kd⟩,⟨h.sZ.ja,A,?_⟩,u,h.act,h.head,h.form,?_,B,h.zq,h.N2,h.Q0,h.wK⟩,⟨rfl,rfl,rfl,rfl,rfl,rfl,rfl,rfl,rfl,rfl,rfl,λ_ _ h=>h,λ_=>l⟩⟩
 .intro d x C q;exact h.sZ.hd d x C (by grind)
 .intro x k q;have p:ys=x::k:=q;rw[p]at l;cases ho:σ.gq with
  |nil=>grind
  |cons y r2=>
   rw[ho]at l;have e:x=y:=by simpa using l
   subst e;exact h.KU x r2 ho
def Qe (h:xs[n]?=some x):xs=xs.take n++x::xs.drop (n+1):=by
 have k:=(List.getElem?_eq_some_iff.1 h).1;have d:=(List.getElem?_eq_some_iff.1 h).2;rw[<-d,<-JI k,yZ]
theorem Sa (h:xs[n]?=some x) (d:xs.Nodup):x∉xs.take n:=by
 have e:=Qe h;grind
theorem XA (h:xs[n]?=some x) (d:xs.Nodup):xs.erase x=xs.take n++xs.drop (n+1):=by
 have k:=Sa h d
 conv=>lhs;rw[Qe h]
 grind
theorem uI (h:xs[n]?=some x) (d:xs.Nodup):xs.idxOf x=n:=by
 grind
def zO (h:xs[n]?=some x):n < xs.length:=(List.getElem?_eq_some_iff.1 h).1
def jy.vw (h:jy r σ) {x y : Nat} (k:σ.gq[m]?=some (some x)) (l:σ.gq[n]?=some (some y)) (d:m < n):r x < r y:=by
 have:=List.pairwise_iff_getElem.1 h.sZ.gq m n (zO k) (zO l) d
 rwa [(List.getElem?_eq_some_iff.1 k).2,(List.getElem?_eq_some_iff.1 l).2]at this
theorem jy.Pw (h:iT σ i s):σ.nm i=s:=by
 have⟨e,he,hn⟩:=h;grind[Ab.nm]
def Rs (h:σ.gV i=some e):iT σ i (σ.nm i):=⟨e,h,by unfold Ab.nm;rw[h]⟩
theorem lW (h:iT σ i s):(σ.gV i).isSome=true:=by have⟨e,he,_⟩:=h;grind
theorem XM (h:(σ.gV i).isSome=true):iT σ i (σ.nm i):=by
 grind[iT,Ab.nm]
structure RJ (r:Nat->Nat) (σ:Ab) (f ik n pf last mark:Nat):Prop where
 inv:jy r σ
 lst:(σ.gV last).isSome=true
 low:∀m x,m < n->σ.gq[m]?=some (some x)->r x < r last
 fat:σ.gq[pf]?=some (some f)
 pfn:pf < n
 bat:some ik∈σ.gq.drop n
 nle:n<=σ.gq.length
 mrk:(σ.gV mark).isSome=true
 nt:∀m x,pf < m->σ.gq[m]?=some (some x)->kh (σ.nm x) fR=false
 fact:some f∈σ.act
def RJ.isSome (f:Fx σ σ') (h:(σ.gV i).isSome=true):(σ'.gV i).isSome=true:=lW (f.nm _ _ (XM h))
def Fx.abZ (f:Fx σ σ') (h:(σ.gV i).isSome=true):σ'.nm i=σ.nm i:=jy.Pw (f.nm _ _ (XM h))
def RJ.nU (h:jy r σ) {x : Nat} (d:σ.gq[m]?=some (some x)):(σ.gV x).isSome=true:=h.gq _ (tk d)
def Ff (f d pf c:Nat) (σ:Ab) (k:pC (Nat×Nat)):Prop:=match k with
 | .ok lm σ'=>Fx σ σ'/\wt σ'<=wt σ+c/\σ'.fresh=σ.fresh/\∃r,RJ r σ' f d (pf+1) pf lm.1 lm.2
 | .stop _ _=>False
 | .stuck=>False
def Ff.pre {k : Nat} {σ1 : Ab} {d : pC (Nat×Nat)} (h:Ff f k pf c σ1 d) (l:Fx σ σ1) (hw:wt σ1+c<=wt σ+c') (q:σ1.fresh=σ.fresh):Ff f k pf c' σ d:=by
 cases d with
 |ok lm σ'=>
  have⟨h1,h2,h3,h4⟩:=h;exact⟨l.trans h1,by omega,h3.trans q,h4⟩
 |stop e p=>exact h
 |stuck=>exact h
def TY (f l n c last k e:Nat):M (Nat×Nat):=λσ=>if some e∉σ.act then (j8 (some e)>>=λ_=>mr f l n (c+1) last k) σ else (kI e>>=λd=>zk (some e) (some d)>>=λ_=>qW (some e) (some d)>>=λ_=>mw last>>=λ_=>jt d>>=λpl=>mP pl last>>=λ_=>mr f l n (c+1) d (if last=l then d else k)) σ
def Nt (f k n c last d:Nat) (σ:Ab):mr f k (n+1) c last d σ=(FW n>>=λe=>if e=f then pure (last,d)else (if 3 < c+1 then kD (some e)else pure ())>>=λ_=>TY f k n c last d e) σ:=rfl
def xy (o a:kL) (n:Nat):Nat:=((o.take n).filter λx=>decide (x∈a)).length
def KP {b : kL} (k:n<=m) (d:∀x∈o.take n,x∈b->x∈a):xy o b n<=xy o a m:=by
 unfold xy;have u:((o.take n).filter λx=>decide (x∈b)).length<=((o.take n).filter λx=>decide (x∈a)).length:=by
  rw[<-List.countP_eq_length_filter,<-List.countP_eq_length_filter];refine List.countP_mono_left ?_;intro x q l;simp at l|-;exact d x q l
 have A:((o.take n).filter λx=>decide (x∈a)).length<=((o.take m).filter λx=>decide (x∈a)).length:=by
  have p:(o.take n).Sublist (o.take m):=by
   have e:o.take n=(o.take m).take n:=by rw[LV,QN k]
   rw[e];exact EX _ _
  exact(p.filter _).length_le
 omega
theorem UE (h:o[n]?=some x) (d:x∈a):xy o a (n+1)=xy o a n+1:=by
 unfold xy;have e:o.take (n+1)=o.take n++[x]:=by rw[DV,h];rfl
 grind
theorem Lu:∀{xs ys:kL},xs.Nodup->(∀x∈xs,x∈ys)->xs.length<=ys.length
 |[],_,_,_=>iP _
 |x::xs,ys,hn,hs=>by
  have l:=hs x (tl ..);have⟨h1,h2⟩:=List.nodup_cons.1 hn;have k:=Lu (xs:=xs) (ys:=ys.erase x) h2 (λy d=>(SY (by grind)).2 (hs y (pX _ d)));grind
def ZI (d:o.Nodup) (n:Nat):xy o a n<=a.length:=by
 unfold xy;refine Lu ((d.sublist (EX _ _)).sublist (List.filter_sublist)) ?_;simp
theorem BR (f E pf:Nat) (s:gn) (hs:s≠fP):∀(n c last D:Nat) {r:Nat->Nat} {σ:Ab} {K:Nat},RJ r σ f E n pf last D->iT σ f s->xy σ.gq σ.act n<=K->wt σ+K < 999990->Ff f E pf K σ (mr f E n c last D σ)
 |0,c,last,D,r,σ,K,h,_,_,_=>absurd h.pfn (by omega)
 |n+1,c,last,D,r,σ,K,h,hfn,hK,hw=>by
  have ar:n < σ.gq.length:=by have:=h.nle;omega
  have⟨e,ee,hoe,hel⟩:=h.inv.at ar;have aj:FW n σ= .ok e σ:=by
   unfold FW;rw[qI,yd,hoe];rfl
  rw[Nt,M.gm,aj];dsimp only;by_cases L:e=f
  .rw[gN L];have V:n=pf:=by
    have Y:=uI hoe h.inv.nodup;have h2:=uI h.fat h.inv.nodup;rw[L]at Y;omega
   subst V;exact⟨Fx.refl _,by omega,rfl,r,h⟩
  .rw[gI L];have V:n≠pf:=by
    intro V;rw[V,h.fat]at hoe;exact L (jz (jz hoe)).symm
   have W:pf < n:=by have:=h.pfn;omega
   have hA:∃d,(if 3 < c+1 then kD (some e)else pure ()) σ= .ok () d/\jy r d/\Fx σ d/\Uu σ σ.gq d.act d/\some f∈d.act/\∀x,x∈d.act->x∈σ.act:=by
    by_cases hc:3 < c+1
    .rw[gN hc];unfold kD;rw[gN (by grind[Ab.gQ])];have⟨g1,g2⟩:=h.inv.BW (ys:=σ.act.erase (some e)) (λi O=>h.inv.act i (Ax O)) (jH (List.length_erase_le) h.inv.zq);exact⟨_,rfl,g1,g2,⟨rfl,rfl,rfl,rfl⟩,(SY (λe0=>L (jz e0).symm)).2 h.fact,λx u=>Ax u⟩
    .rw[gI hc];exact⟨σ,rfl,h.inv,Fx.refl _,⟨rfl,rfl,rfl,rfl⟩,h.fact,λ_ h=>h⟩
   have⟨d,q1,i1,f1,l1,a1,sub1⟩:=hA;rw[M.gm,q1];dsimp only;unfold TY;have P:=l1.gq;have a3:∀i,d.gV i=σ.gV i:=λi=>by unfold Ab.gV;rw[l1.nodes]
   have ag:∀i,d.nm i=σ.nm i:=λi=>by unfold Ab.nm;rw[a3]
   have w1:wt d=wt σ:=jh l1.nodes;have J:d.gq[n]?=some (some e):=by rw[P];exact hoe
   have I:=i1.nodup;have ak:d.gq.head?≠some (some e):=by
    intro e0;rw[Ci]at e0;have Y:=uI e0 I;have h2:=uI J I;omega
   split
   .
    rename_i ae;rw[M.gm];have hq:j8 (some e) d= .ok () {d with gq:=d.gq.erase (some e)}:=by
     unfold j8;rw[gN (by grind[Ab.gQ])]
    rw[hq];dsimp only;have⟨g1,g2⟩:=i1.sub (ys:=d.gq.erase (some e)) List.erase_sublist (Bz ak);have he:d.gq.erase (some e)=d.gq.take n++d.gq.drop (n+1):=XA J I;have ap:(d.gq.take n).length=n:=by rw[List.length_take];rw[P];omega
    have ac:∀m,m < n->(d.gq.erase (some e))[m]?=σ.gq[m]?:=by
     intro m q;rw[he,Up (by omega),DS,gN q,P]
    have am:∀m,n<=m->(d.gq.erase (some e))[m]?=σ.gq[m+1]?:=by
     intro m q;rw[he,List.getElem?_append_right (by omega),ap,Uj,P]
     congr 1;omega
    refine Ff.pre (BR f E pf s hs n (c+1) last D (r:=r) (K:=K) ⟨g1,?_,?_,?_,W,?_,?_,?_,?_,a1⟩ ?_ ?_ ?_) (f1.trans g2) ?_ l1.fresh
    .exact RJ.isSome (f1.trans g2) h.lst
    .intro m x q u;exact h.low m x (by omega) (by grind)
    .show(d.gq.erase (some e))[pf]?=_;rw[ac pf W];exact h.fat
    .show some E∈(d.gq.erase (some e)).drop n;rw[he,List.drop_append_of_le_length (by omega),F7 (by omega),sC,P];exact h.bat
    .grind
    .exact RJ.isSome (f1.trans g2) h.mrk
    .intro m x q u;have X:(d.gq.erase (some e))[m]?=some (some x):=u;show kh (d.nm x) _=_;rw[ag];rcases uW m n with F|F
     .rw[ac m F]at X;exact h.nt m x q X
     .rw[am m F]at X;exact h.nt (m+1) x (by omega) X
    .exact(f1.trans g2).nm _ _ hfn
    .refine jH ?_ hK;show xy (d.gq.erase (some e)) d.act n<=_;have e9:xy (d.gq.erase (some e)) d.act n=xy σ.gq d.act n:=by
      unfold xy;rw[he,JF (by omega),Av (by omega),P]
     rw[e9];exact KP (ly _) (λx _ u=>sub1 x u)
    all_goals grind[wt]
   .
    rename_i ae;have a9:some e∈d.act:=by simpa using ae
    have⟨e1,he1,hfm⟩:=i1.act e a9;rw[M.gm,zF he1 hfm];dsimp only;obtain⟨j,hj⟩:∃j,j=d.nodes.length:=⟨_,rfl⟩;have⟨i2,f2⟩:=i1.new e1.name e1.gM d.fresh (r e);obtain⟨l,A⟩:∃l,l=d.pa (.el {name:=e1.name,gM:=e1.gM,ja:=none,kids:=[]}) d.fresh:=⟨_,rfl⟩;rw[<-A]at i2 f2|-;have ab:l.gV j=some {name:=e1.name,gM:=e1.gM,ja:=none,kids:=[]}:=by rw[A,hj];exact Ab.tY
    rw[<-hj]at i2|-;have w2:wt l=wt d:=by rw[A];exact DR _ _ _
    have o2:l.gq=d.gq:=by rw[A];rfl
    have a2:l.act=d.act:=by rw[A];rfl
    have af:∀i,(d.gV i).isSome=true->i≠j:=by
     intro i O e0;have⟨ei,hei⟩:=Option.isSome_iff_exists.1 O;have:=Ab.ic hei;omega
    have ax:∀i,(d.gV i).isSome=true->wD r j (r e) i=r i:=λi O=>DN (af i O);have aa:(d.gV e).isSome=true:=by rw[he1];rfl
    have T:iT l j e1.name:=⟨_,ab,rfl⟩;have an:l.gq.idxOf (some e)=n:=by rw[o2];exact uI J I
    have aq:some e∈l.gq:=by rw[o2];exact tk J
    have ay:pI l.gq (some e) (some j)=l.gq.set n (some j):=by unfold pI;rw[gN aq,an]
    have au:zk (some e) (some j) l= .ok () {l with gq:=l.gq.set n (some j)}:=by
     unfold zk;rw[gN (by rw[qx];exact⟨RJ.isSome f2 aa,lW T⟩),ay]
    have G:∀m,(l.gq.set n (some j))[m]?=if m=n then some (some j)else σ.gq[m]?:=by
     intro m;rw[List.getElem?_set];by_cases q:n=m
     .grind
     .grind
    have aF:1<=n:=by omega
    have⟨i3,f3⟩:=i2.YS (ys:=l.gq.set n (some j)) (by
      intro x u;rcases List.mem_or_eq_of_mem_set u with u|rfl
      .exact i2.gq x u
      .exact lW T) (by
      rw[List.pairwise_iff_getElem];intro a b ha hb ai;have a7:a < σ.gq.length:=by simpa [o2,P]using ha
      have a8:b < σ.gq.length:=by simpa [o2,P]using hb
      have H:∀m (q:m < (l.gq.set n (some j)).length) (U:m < σ.gq.length),rk (wD r j (r e)) ((l.gq.set n (some j))[m])=rk r (σ.gq[m]):=by
       intro m q U;have Y:=G m;rw[qw q]at Y;by_cases F:m=n
       .subst F;rw[gN rfl]at Y;rw[jz Y];have h2:σ.gq[m]=some e:=by rw[qw U]at hoe;exact jz hoe
        rw[h2];grind[rk,wD]
       .rw[gI F,qw U]at Y;rw[jz Y];have⟨y,ey,hy,Z⟩:=kE (h.inv.gq _ (ti U));grind[rk]
      rw[H a ha a7,H b hb a8];exact List.pairwise_iff_getElem.1 h.inv.sZ.gq a b a7 a8 ai) (by
      rw[Ci,Ci,G 0,gI (by omega),o2,P]) (by
      rw[List.length_set];exact i2.wC)
    rw[M.gm,au];dsimp only;obtain⟨p,B⟩:∃p,p=({l with gq:=l.gq.set n (some j)}:Ab):=⟨_,rfl⟩;rw[<-B]at i3 f3|-;have av:qW (some e) (some j) p= .ok () {p with act:=pI p.act (some e) (some j)}:=by
     unfold qW;rw[gN (by rw[qx];exact⟨RJ.isSome f3 (RJ.isSome f2 aa),lW (f3.nm _ _ T)⟩)]
    have⟨i4,f4⟩:=i3.BW (ys:=pI p.act (some e) (some j)) (λi O=>by
      rcases I6 O with O|O
      .exact i3.act i O
      grind[Ab.gV]) (by rw[I4];exact i3.zq)
    rw[M.gm,av];dsimp only;obtain⟨a0,C⟩:∃a0,a0=({p with act:=pI p.act (some e) (some j)}:Ab):=⟨_,rfl⟩;rw[<-C]at i4 f4|-;have a4:=((f1.trans f2).trans f3).trans f4;have ad:=RJ.isSome a4 h.lst;have⟨elast,hlast⟩:=Option.isSome_iff_exists.1 ad;have⟨σ5,q5,i5,f5,w5,o5,a5,r5,n5,e5,he5,hp5,_⟩:=i4.mw hlast;rw[M.gm,q5];dsimp only;have⟨ej5,hj5,hjn5⟩:=f5.nm _ _ (f4.nm _ _ (f3.nm _ _ T));have aw:jt j σ5= .ok (j,ej5.kids.length) σ5:=by unfold jt;rw[hj5]
    rw[M.gm,aw];dsimp only;have aE:r e < r last:=h.low n e (by omega) hoe;have az:(d.gV last).isSome=true:=RJ.isSome f1 h.lst;have aA:wt σ5<=wt σ:=by
     have e4:wt a0=wt p:=by rw[C];rfl
     have e3:wt p=wt l:=by rw[B];rfl
     omega
    have⟨σ6,q6,i6,f6,w6,o6,a6,r6,n6,g6,_⟩:=i5.put (pl:=(j,ej5.kids.length)) ⟨ej5,hj5,gW _⟩ he5 hp5 (by
     grind[wD]) (by omega)
    rw[M.gm,q6];dsimp only;have S:=(a4.trans f5).trans f6;have N:σ6.gq=l.gq.set n (some j):=by rw[o6,o5,C];show p.gq=_;rw[B]
    have j6:iT σ6 j e1.name:=f6.nm _ _ ⟨ej5,hj5,hjn5⟩;have ah:σ6.act=pI d.act (some e) (some j):=by
     rw[a6,a5,C];show pI p.act (some e) (some j)=_;rw[B];show pI l.act (some e) (some j)=_;rw[a2]
    have aD:xy σ.gq σ.act (n+1)=xy σ.gq σ.act n+1:=UE hoe (sub1 _ a9);have aC:xy σ6.gq σ6.act n<=xy σ.gq σ.act n:=by
     have e9:xy σ6.gq σ6.act n=xy σ.gq σ6.act n:=by
      unfold xy;rw[N,List.take_set_of_le (gW _),o2,P]
     rw[e9];refine KP (gW _) ?_;intro y hy q;rw[ah]at q;rcases I6 q with q|q
     .grind
     .exfalso;have Z:=List.mem_of_mem_take hy;rw[q]at Z;have:=h.inv.Es Z;have aB:d.nodes.length=σ.nodes.length:=by rw[l1.nodes]
      omega
    refine Ff.pre (BR f E pf s hs n (c+1) j (if last=E then j else D) (r:=wD r j (r e)) (K:=K - 1) ⟨i6,lW j6,?_,?_,W,?_,?_,?_,?_,?_⟩ (S.nm _ _ hfn) (by omega) (by omega)) S (by omega) ?_
    .intro m x q u;rw[N,G m,gI (by omega)]at u;rw[EP,ax x (by rw[a3];exact RJ.nU h.inv u)];exact h.inv.vw u hoe q
    .rw[N,G pf,gI (by omega)];exact h.fat
    .rw[N];have q:some E∈σ.gq.drop (n+1):=h.bat;have⟨k,hk⟩:=EY q;rw[Uj]at hk;refine tk (i:=k+1) ?_;grind
    .grind
    .by_cases ao:last=E
     .grind
     .rw[gI ao];exact RJ.isSome S h.mrk
    .intro m x q u;rw[N,G m]at u;by_cases F:m=n
     .rw[gN F]at u;cases u;rw[jy.Pw j6];have h3:=h.nt n e W hoe
      rwa [<-ag,show d.nm e=e1.name from jy.Pw ⟨e1,he1,rfl⟩]at h3
     .rw[gI F]at u;rw[S.abZ (RJ.nU h.inv u)];exact h.nt m x q u
    .rw[a6,a5,C];show some f∈pI p.act (some e) (some j);have al:some f∈p.act:=by rw[B];show some f∈l.act;rw[a2];exact a1
     unfold pI;split
     .have⟨k,hk⟩:=EY al;refine tk (i:=k) ?_;grind
     omega
    .rw[r6,r5,C];show p.fresh=_;rw[B];show l.fresh=_;rw[A];exact l1.fresh
theorem jy.aen (h:jy r σ):jy (λi=>2*r i) σ:=by
 refine {h with sZ:=⟨λi e p q u=>?_,h.sZ.gq.imp_of_mem ?_,λd x l k=>?_⟩}
 .have:=h.sZ.ja i e p q u;omega
 .intro x y k B A;obtain⟨i,_,rfl,_⟩:=kE (h.gq x k);obtain⟨j,_,rfl,_⟩:=kE (h.gq y B);grind[rk]
 .have:=h.sZ.hd d x l k;omega
theorem Q8 (h:σ.gQ x=true):kD x σ= .ok () {σ with act:=σ.act.erase x}:=by
 grind[kD]
theorem IJ (h:σ.gQ x=true):j8 x σ= .ok () {σ with gq:=σ.gq.erase x}:=by
 grind[j8]
theorem Be (xs:kL) (x y:jb):(iV xs x y).length<=xs.length+1:=by
 grind[iV]
theorem Bg (h:z∈iV xs x y):z∈xs\/z=y:=by
 unfold iV at h;grind
theorem Kk (h:z∈xs):z∈iV xs x y:=by
 unfold iV;split
 .have d:z∈xs.take (xs.idxOf x+1)++xs.drop (xs.idxOf x+1):=by rw[yZ];exact h
  grind
 omega
theorem jy.Oi (h:jy r σ) (d:σ.gq[pf]?=some (some f)) (p:1<=pf):∃a,ahead f σ= .ok a σ/\σ.gq[pf - 1]?=some (some a):=by
 have⟨a,ea,ha,_⟩:=h.at (n:=pf - 1) (by grind);refine⟨a,?_,ha⟩;unfold ahead;have k:=uI d h.nodup;have l:posOf σ.gq (some f)=(pf:Int):=by unfold posOf;rw[k,gN (zO d)]
 rw[l,show(pf:Int) - 1=((pf - 1:Nat):Int) by omega,qI,yd,ha];rfl
theorem Ko (h:jy r σ) {a : Nat} (q:σ.gq[pf]?=some (some f)) (H:1<=pf) (A:σ.gq[pf - 1]?=some (some a)) (D:kh (σ.nm f) fR=false) (I:∀m x,pf < m->σ.gq[m]?=some (some x)->kh (σ.nm x) fR=false):∃pl,placeFor a σ= .ok pl σ/\AV σ pl/\r pl.1 < r f:=by
 have d:some a∈σ.gq:=tk A;have C:r a < r f:=h.vw A q (by omega);have⟨a',ea,e1,hea⟩:=kE (h.gq _ d);cases e1;unfold placeFor;split
 .have⟨pl,h1,h2,_,l⟩:=zN h (List.ne_nil_of_mem d);refine⟨pl,h1,h2,?_⟩;rcases l with⟨i,E,G,_,F⟩|l
  .have⟨k,hk⟩:=EY E;have u:k < pf:=by
    rcases Nat.lt_trichotomy k pf with p|p|p
    .exact p
    .grind
    .grind
   have:=h.vw hk q u;omega
  .have B:σ.gq[0]?=some (some pl.1):=by
    rw[show(0:Int)=((0:Nat):Int)from rfl,qI,yd]at l;cases hx:σ.gq[0]? with
    |none=>grind
    |some y=>grind
   exact h.vw B q (by omega)
 .unfold jt;rw[hea];grind[AV]
def Pr (f k:Nat) (σ:Ab):ui f k σ=(xg f k>>=λl=>mw l.1>>=λ_=>ahead f>>=λa=>placeFor a>>=λpl=>mP pl l.1>>=λ_=>kI f>>=λd=>handOver k d>>=λ_=>jt k>>=λpl=>mP pl d>>=λ_=>p6 (some l.2) (some d)>>=λ_=>kD (some f)>>=λ_=>j8 (some f)>>=λ_=>qm (some k) (some d)>>=λ_=>(pure ():M Unit)) σ:=rfl
theorem Ps (h:mN σ) {d pb : Nat} (hs:qX s=true) (G:iT σ f s) (ar:some f∈σ.act) (hf:σ.gq[pf]?=some (some f)) (hb:σ.gq[pb]?=some (some d)) (ay:pf < pb) (nt:∀m x,pf < m->σ.gq[m]?=some (some x)->kh (σ.nm x) fR=false) (hw:wt σ < 999900):jr 36 σ (ui f d σ) (λ_ σ'=>σ'.fresh=σ.fresh):=by
 have⟨r,h⟩:=h;have V:s≠fP:=Da hs;have aH:σ.gq.length<=64:=jH h.wC h.N2;have ah:=zO hb;have ag:1<=pf:=by
  rcases Nat.eq_zero_or_pos pf with h0|h0
  .exfalso;apply h.Dx G V;rw[Ci,<-h0];exact hf
  .exact h0
 have ap:=RJ.nU h hb;rw[Pr,M.gm];have aA:xg f d σ=mr f d pb 0 d f σ:=by
  unfold xg;have F:=uI hb h.nodup;have Z:posOf σ.gq (some d)=(pb:Int):=by unfold posOf;rw[F,gN ah]
  rw[Z];rfl
 have H:=BR f d pf s V pb 0 d f (r:=r) (σ:=σ) ⟨h,ap,λm x hm A=>h.vw A hb hm,hf,ay,by
  refine tk (i:=0) ?_;grind,by omega,lW G,nt,ar⟩ G (K:=32) (jH (ZI h.nodup _) (jH h.zq h.Q0)) (by omega)
 rw[aA];revert H;cases mr f d pb 0 d f σ with
 |stop e p=>simp[Ff]
 |stuck=>simp[Ff]
 |ok lm σ1=>
  rintro⟨f1,w1,aJ,I,J⟩;dsimp only;have⟨last,mark⟩:=lm;dsimp only at J|-;have⟨el,hel⟩:=Option.isSome_iff_exists.1 J.lst;have⟨σ2,q2,i2,f2,w2,o2,a2,r2,n2,e2,he2,hp2,_⟩:=J.inv.mw hel;rw[M.gm,q2];dsimp only;have ac:σ2.gq[pf]?=some (some f):=by rw[o2];exact J.fat
  have⟨a,qa,ha⟩:=i2.Oi ac ag;rw[M.gm,qa];dsimp only;have a1:iT σ2 f s:=f2.nm _ _ (f1.nm _ _ G);have av:kh (σ2.nm f) fR=false:=by
   rw[jy.Pw a1];cases A:kh s fR with
   |false=>rfl
   |true=>
    have:=sJ A;subst this;simp[qX,hH,kh,sD]at hs
  have aD:∀m x,pf < m->σ2.gq[m]?=some (some x)->kh (σ2.nm x) fR=false:=by
   intro m x hm A;rw[o2]at A;rw[f2.abZ (RJ.nU J.inv A)];exact J.nt m x hm A
  have⟨pl,q3,p3,k3⟩:=Ko i2 ac ag ha av aD;rw[M.gm,q3];dsimp only;have aM:I f < I last:=J.low pf f (by omega) J.fat;have⟨σ3,q4,i3,f3,w3,o3,a3,r3,n3,_,_⟩:=i2.put p3 he2 hp2 (by omega) (by omega);rw[M.gm,q4];dsimp only;have a7:iT σ3 f s:=f3.nm _ _ a1;have⟨ef,hef,hefn⟩:=id a7;rw[M.gm,zF hef (by grind)];dsimp only;have an:some d∈σ3.gq:=by
   rw[o3,o2];exact JD J.bat
  have⟨blk',eb,e1,heb⟩:=kE (i3.gq _ an);cases e1;obtain⟨j,hj⟩:∃j,j=σ3.nodes.length:=⟨_,rfl⟩;have⟨i4,f4⟩:=i3.aen.new ef.name ef.gM σ3.fresh (2*I d+1);obtain⟨B,u⟩:∃B,B=σ3.pa (.el {name:=ef.name,gM:=ef.gM,ja:=none,kids:=[]}) σ3.fresh:=⟨_,rfl⟩;rw[<-u]at i4 f4|-;rw[<-hj]at i4|-;obtain⟨R,hR⟩:∃R,R=wD (λi=>2*I i) j (2*I d+1):=⟨_,rfl⟩;rw[<-hR]at i4;have O:B.gV j=some {name:=ef.name,gM:=ef.gM,ja:=none,kids:=[]}:=by rw[u,hj];exact Ab.tY
  have ae:∀i,(σ3.gV i).isSome=true->i≠j:=by
   intro i U e0;have⟨ei,ab⟩:=Option.isSome_iff_exists.1 U;have:=Ab.ic ab;omega
  have L:∀i,(σ3.gV i).isSome=true->R i=2*I i:=λi U=>by rw[hR];grind[wD]
  have Rj:R j=2*I d+1:=by rw[hR];exact EP _ _ _
  have N:(σ3.gV d).isSome=true:=by rw[heb];rfl
  have ao:d≠j:=ae d N;have aa:B.gV d=some eb:=by rw[u];show(σ3.add _).gV d=_;rw[Ab.tA (Ab.ic heb)];exact heb
  have w4:wt B=wt σ3:=by rw[u];exact DR _ _ _
  have o4:B.gq=σ3.gq:=by rw[u];rfl
  have a4:B.act=σ3.act:=by rw[u];rfl
  have r4:B.fresh=σ3.fresh:=by rw[u];rfl
  have⟨σ5,q5,i5,f5,w5,o5,a5,r5,n5,b5,d5⟩:=i4.hand aa O ao rfl rfl (by
   intro k hk;have⟨ek,F,Z⟩:=i3.og.dn d eb k heb hk;have h3:=i3.sZ.ja k ek d F Z;grind) (by omega)
  rw[M.gm,q5];dsimp only;have q6:jt d σ5= .ok (d,0) σ5:=by unfold jt;rw[b5];rfl
  rw[M.gm,q6];dsimp only;have⟨σ6,q7,i6,f6,w6,o6,a6,r6,n6,_,_⟩:=i5.put (pl:=(d,0)) ⟨_,b5,iP _⟩ d5 rfl (by
   grind) (by omega)
  rw[M.gm,q7];dsimp only;have F6:=((((f1.trans f2).trans f3).trans f4).trans f5).trans f6;have X:iT σ6 j ef.name:=f6.nm _ _ (f5.nm _ _ ⟨_,O,rfl⟩);have a8:iT σ6 f s:=f6.nm _ _ (f5.nm _ _ (f4.nm _ _ a7));have aC:(σ6.gV mark).isSome=true:=RJ.isSome (((((f2.trans f3).trans f4).trans f5).trans f6)) J.mrk;have ak:σ6.act=σ1.act:=by rw[a6,a5,a4,a3,a2]
  have Y:σ6.gq=σ1.gq:=by rw[o6,o5,o4,o3,o2]
  have aI:σ6.act.length<=32:=jH i6.zq i6.Q0;have aO:σ6.gq.length<=64:=jH i6.wC i6.N2;have al:some f∈σ6.act:=by rw[ak];exact J.fact
  have q8:p6 (some mark) (some j) σ6= .ok () {σ6 with act:=iV σ6.act (some mark) (some j)}:=by
   unfold p6;rw[gN];rw[qx,qx];exact⟨⟨aC,lW X⟩,by grind⟩
  rw[M.gm,q8];dsimp only;have q9:kD (some f) {σ6 with act:=iV σ6.act (some mark) (some j)}= .ok () {σ6 with act:=(iV σ6.act (some mark) (some j)).erase (some f)}:=Q8 (σ:={σ6 with act:=iV σ6.act (some mark) (some j)}) (lW a8);rw[M.gm,q9];dsimp only;have⟨i7,f7⟩:=i6.BW (ys:=(iV σ6.act (some mark) (some j)).erase (some f)) (λi U=>by
   rcases Bg (Ax U)with U|U
   .exact i6.act i U
   grind) (by
   have F:=Be σ6.act (some mark) (some j);have Z:=List.length_erase_of_mem (Kk (x:=some mark) (y:=some j) al);have h3:=i6.zq;omega)
  obtain⟨q,D⟩:∃q,q=({σ6 with act:=(iV σ6.act (some mark) (some j)).erase (some f)}:Ab):=⟨_,rfl⟩;rw[<-D]at i7 f7|-;have o7:q.gq=σ6.gq:=by rw[D]
  have a9:iT q f s:=f7.nm _ _ a8;have aN:iT q j ef.name:=f7.nm _ _ X;have ad:q.gq[pf]?=some (some f):=by rw[o7,Y];exact J.fat
  have af:=i7.Dx a9 V;have aE:j8 (some f) q= .ok () {q with gq:=q.gq.erase (some f)}:=IJ (lW a9);rw[M.gm,aE];dsimp only;have⟨i8,f8⟩:=i7.sub (ys:=q.gq.erase (some f)) List.erase_sublist (Bz af);obtain⟨l,E⟩:∃l,l=({q with gq:=q.gq.erase (some f)}:Ab):=⟨_,rfl⟩;rw[<-E]at i8 f8|-;have o8:l.gq=q.gq.erase (some f):=by rw[E]
  have au:f≠d:=by
   rintro rfl;have F:=uI hf h.nodup;have Z:=uI hb h.nodup;omega
  have T:some d∈l.gq:=by
   rw[o8];refine(SY (λe0=>au (jz e0).symm)).2 ?_;rw[o7,Y];exact JD J.bat
  have⟨kb,hkb⟩:=EY T;have aL:=zO hkb;have aw:=uI hkb i8.nodup;have a0:=f7.trans f8;have aj:iT l j ef.name:=a0.nm _ _ X;have ax:l.gq.length+1=q.gq.length:=by
   rw[o8,List.length_erase_of_mem (tk ad)];have:=zO ad;omega
  have P:iV l.gq (some d) (some j)=l.gq.take (kb+1)++[some j]++l.gq.drop (kb+1):=by
   unfold iV;rw[gN T,aw]
  have aF:qm (some d) (some j) l= .ok () {l with gq:=iV l.gq (some d) (some j)}:=by
   unfold qm;rw[gN];rw[qx,qx];refine⟨⟨?_,lW aj⟩,?_⟩
   .exact i8.gq _ T
   .grind
  rw[M.gm,aF];dsimp only;have C:∀x∈l.gq,∃i,x=some i/\R i=2*I i:=by
   intro x A;have aB:x∈σ3.gq:=by
    rw[o8]at A;have:=Ax A;rw[o7,Y]at this;rw[o3,o2];exact this
   obtain⟨i,ei,rfl,ab⟩:=kE (i3.gq x aB);exact⟨i,rfl,L i (by grind)⟩
  have az:=i8.sZ.gq;have aG:R d=2*I d:=L d N;have⟨i9,f9⟩:=i8.YS (ys:=iV l.gq (some d) (some j)) (by
   intro x A;rcases Bg A with A|rfl
   .exact i8.gq x A
   .exact lW aj) (by
   rw[P,uS];have ai:l.gq=l.gq.take (kb+1)++l.gq.drop (kb+1):=(yZ _ _).symm;have S:=az;rw[ai]at S;have⟨p1,p2,p3⟩:=List.pairwise_append.1 S;refine List.pairwise_append.2 ⟨p1,List.pairwise_cons.2 ⟨?_,p2⟩,?_⟩
   .
    intro y W;obtain⟨i,rfl,am⟩:=C y (JD W);have aq:some d∈l.gq.take (kb+1):=by
     refine tk (i:=kb) ?_;rw[DS,gN (by omega)];exact hkb
    have F:R d < R i:=p3 _ aq _ W;grind[rk]
   .intro x A y W;rcases List.mem_append.1 W with W|W
    .rw[List.mem_singleton.1 W];obtain⟨i,rfl,am⟩:=C x (List.mem_of_mem_take A);show R i < R j;have⟨k,hk⟩:=EY A;rw[DS]at hk;split at hk
     .rename_i aK;rcases uW k kb with F|F
      .have:=i8.vw hk hkb F;omega
      grind
     grind
    grind) (by
   rw[P,uS];cases ho8:l.gq with
   |nil=>grind
   |cons x0 xr=>rfl) (by
   have F:=Be l.gq (some d) (some j);have Z:=i7.wC;grind)
  have wf:wt ({l with gq:=iV l.gq (some d) (some j)}:Ab)=wt σ6:=by
   show wt l=_;rw[E];show wt q=_;rw[D];rfl
  refine⟨⟨_,i9⟩,(F6.trans a0).trans f9,by omega,?_⟩;grind
theorem Fl (σ:Ab) (f b:Nat):∀(ys:kL) (d:jb),σ.uE f ys d=some b->d=some b\/∃k:Nat,ys[k]?=some (some b)/\∀l:Nat,l<=k->ys[l]?≠some (some f)
 |[],d,h=> .inl h
 |x::ys,d,h=>by
  unfold Ab.uE at h;by_cases A:x=some f
  .grind
  .rw[gI A]at h;rcases Fl σ f b ys _ h with p|⟨k,p,B⟩
   .by_cases u:kQ (σ.qK x)=true
    .rw[gN u]at p;refine .inr ⟨0,by grind,λl q=>?_⟩;grind
    grind
   .refine .inr ⟨k+1,p,λl q=>?_⟩;grind
theorem Ba (σ:Ab) (f:Nat):∀(ys:kL),σ.nQ f ys=true->∀(k:Nat) (x:jb),ys[k]?=some x->(∀d:Nat,d<=k->ys[d]?≠some (some f))->iJ (σ.qK x)=false
 |[],h,k,x,hx,_=>by cases hx
 |y::ys,h,k,x,hx,hno=>by
  unfold Ab.nQ at h;have q:y≠some f:=λe=>hno 0 (iP _) (by grind);rw[gI q]at h;by_cases l:iJ (σ.qK y)=true
  .grind
  .rw[gI l]at h;cases k with
   |zero=>
    grind
   |succ k=>exact Ba σ f ys h k x hx (λd p=>hno (d+1) (by omega))
theorem xe (σ:Ab) (s:gn):∀{ys:kL} {f:Nat},σ.qj s ys=some f->some f∈ys/\kh (σ.nm f) s=true
 |[],f,h=>by cases h
 |none::_,f,h=>by cases h
 |some i::ys,f,h=>by
  unfold Ab.qj at h;by_cases d:kh (σ.nm i) s=true
  .grind
  .rw[gI d]at h;have⟨h1,h2⟩:=xe σ s h;grind
def Qt:iJ fR=true:=by
 kernel_rfl
def xJ {x : gn}:hH [s] x=kh x s:=by simp[hH]
def OU (h:qX s=true):hH [s] fP=false:=by
 rw[xJ];cases hx:kh fP s with
 |false=>rfl
 |true=>exact absurd (sJ hx).symm (Da h)
def C5 (h:mN σ) (d:s≠fP):jr 0 σ (uu s σ) (λ_ σ'=>uo σ σ'):=by
 refine jr.iC ((vK h (hH [s]) kQ ?_).mono (gW _) (λ_ _ _ _ h=>h.1));rw[xJ];cases hx:kh fP s with
 |false=>rfl
 |true=>exact absurd (sJ hx).symm d
theorem JL (h:mN σ) (J:qX s=true) (hw:wt σ < 999900):jr 36 σ (nu s σ) (λ_ σ'=>σ'.fresh=σ.fresh):=by
 unfold nu;cases hl:σ.pn s with
 |none=>
  dsimp only;refine jr.bind ((C5 h (Da J)).mono (iP 36) (λ_ _ _ _ h=>h)) (c2:=0) ?_ (by omega);rintro _ B A _ _ q;exact jr.ret A q.fresh
 |some f=>
  dsimp only;have⟨N,hn⟩:=xe σ s hl;have D:some f∈σ.act:=List.mem_reverse.1 N;have⟨r,hr⟩:=id h;have⟨ef,hef,_⟩:=hr.act f D;have p:iT σ f s:=by
   have l:=Rs hef
   rwa [sJ hn]at l
  have I:(σ.gV f).isSome=true:=by rw[hef];rfl
  split
  .refine jr.bind ((yj h (x:=some f) I).mono (iP 36) (λ_ _ _ _ h=>h)) (c2:=0) ?_ (by omega);rintro _ B A _ _ q;exact jr.ret A q.fresh
  .rename_i Y;have F:some f∈σ.gq:=by simpa using Y
   split
   .exact⟨h,Fx.refl _,by omega,rfl⟩
   .rename_i K;have G:σ.nQ f σ.gq.reverse=true:=by simpa [Ab.oB]using K
    cases hb:σ.p9 f with
    |none=>
     dsimp only;refine jr.bind ((Sc h p (Da J) F).mono (iP 36) (λ_ _ _ _ h=>h)) (c2:=0) ?_ (by omega);rintro _ B A T _ q1;refine jr.bind (yj A (x:=some f) (lW (T.nm _ _ p))) (c2:=0) ?_ (by omega);rintro _ a0 Z _ _ q2;exact jr.ret Z (q2.fresh.trans q1.fresh)
    |some b=>
     dsimp only;have⟨pf,hpf⟩:=EY F;have O:=zO hpf;have d:∀k,k < σ.gq.length->σ.gq.reverse[k]?=σ.gq[σ.gq.length - 1 - k]?:=λk E=>QO E;have P:∀k,σ.gq.reverse[k]?=some (some f)->k=σ.gq.length - 1 - pf:=by
      intro k E;have u:k < σ.gq.length:=by simpa using (List.getElem?_eq_some_iff.1 E).1
      rw[d k u]at E;have l:=uI E hr.nodup;have U:=uI hpf hr.nodup;omega
     have V:σ.gq.reverse[σ.gq.length - 1 - pf]?=some (some f):=by
      rw[d _ (by omega),show σ.gq.length - 1 - (σ.gq.length - 1 - pf)=pf by omega];exact hpf
     rcases Fl σ f b σ.gq.reverse none hb with l|⟨k,l,U⟩
     .cases l
     .have u:k < σ.gq.length:=by simpa using (List.getElem?_eq_some_iff.1 l).1
      have W:k < σ.gq.length - 1 - pf:=by
       rcases uW k (σ.gq.length - 1 - pf)with L|L
       .exact L
       .grind
      rw[d k u]at l;refine jr.bind ((Ps h J p D hpf l (by omega) ?_ hw).mono (gW _) (λ_ _ _ _ h=>h)) (c2:=0) ?_ (by omega)
      .intro m x N S;have X:=zO S;have H:=Ba σ f σ.gq.reverse G (σ.gq.length - 1 - m) (some x) (by
        rw[d _ (by omega),show σ.gq.length - 1 - (σ.gq.length - 1 - m)=m by omega];exact S) (by
        grind)
       cases hq:kh (σ.nm x) fR with
       |false=>rfl
       |true=>
        have e:=sJ hq;have C:iJ (σ.nm x)=false:=H;rw[e,Qt]at C;cases C
      .rintro _ B A _ _ q;exact jr.ret A q
theorem GO (d:qX s=true):∀(k:Nat) {σ:Ab},mN σ->wt σ+36*k < 999900->jr (36*k) σ (sH s k σ) (λ_ σ'=>σ'.fresh=σ.fresh)
 |0,σ,h,_=>⟨h,Fx.refl _,gW _,rfl⟩
 |k+1,σ,h,hw=>by
  unfold sH;refine jr.bind (JL h d (by omega)) (c2:=36*k) ?_ (by omega);rintro b q l u A p;cases b with
  |true=>
   refine(GO d k l (by omega)).mono (gW _) ?_;grind
  |false=>exact jr.ret l p _
def DZ (h:mN σ) (k:σ.gq≠[]) (p:qX s=true) (hw:wt σ < 999100):jr 288 σ (wG s σ) (λ_ σ'=>σ'.fresh=σ.fresh):=by
 have⟨r,hr⟩:=id h;have⟨i,e,h1,h2,h3,h4⟩:=M2 hr k;unfold wG;rw[h1];dsimp only;split
 .rename_i l;rw[qx]at l;have d:σ.current (hH [s])=true:=by
   unfold Ab.current;rw[h1];show hH [s] (σ.nm i)=true;rw[xJ];exact l.1
  have q:=wJ h (hH [s]) (OU p) d;refine jr.bind ((xQ h q).mono (iP 288) (λ_ _ _ _ h=>h)) (c2:=0) ?_ (by omega);rintro x A u _ _ ⟨rfl,_⟩;exact⟨u,Fx.refl _,gW _,rfl⟩
 .exact(GO p 8 h (by omega)).mono (by omega) (λ_ _ _ _ h=>h)
theorem mN.mq (h:mN σ) (O:σ'.nodes=σ.nodes) (A:σ'.gq=σ.gq) (I:σ'.act=σ.act) (J:σ'.head=σ.head) (P:σ'.form=σ.form) (K:σ'.pL=σ.pL) (L:σ'.qH=σ.qH):mN σ':=by
 have⟨r,h⟩:=h;have q:∀i,σ'.gV i=σ.gV i:=λi=>by unfold Ab.gV;rw[O]
 have T:∀k,σ'.jg k=σ.jg k:=λk=>by
  cases k with
  |el i=>grind[Ab.jg]
  |tx i=>grind[Ab.jg]
  |cm i=>grind[Ab.jg]
  |dt i=>grind[Ab.jg]
 have E:∀x,σ'.lV x=σ.lV x:=λx=>by
  cases x with
  |none=>rfl
  |some i=>grind[Ab.lV]
 have N:∀i s,iT σ i s->iT σ' i s:=λi s ⟨e,C,u⟩=>⟨e,by grind,u⟩;refine⟨r,⟨⟨?_,?_,?_,?_⟩,⟨?_,?_,?_⟩,?_,?_,?_,?_,?_,?_,?_,?_,?_,?_⟩⟩
 .intro i e p l G;rw[q]at l;have⟨ep,C,u⟩:=h.og.up i e p l G;grind
 .intro i e j l S;rw[q]at l;have⟨ep,C,u⟩:=h.og.dn i e j l S;grind
 .intro i e l;rw[q]at l;exact h.og.nd i e l
 .intro i e l k F;rw[q]at l;rw[T];exact h.og.kd i e l k F
 .intro i e p l G;rw[q]at l;exact h.sZ.ja i e p l G
 .rw[A];exact h.sZ.gq
 .rw[A,J];exact h.sZ.hd
 .rw[A];intro x H;rw[E];exact h.gq x H
 .rw[I];intro i l;have⟨e,C,u⟩:=h.act i l;grind
 .rw[J];exact λd D=>N _ _ (h.head d D)
 .rw[P];exact λd D=>N _ _ (h.form d D)
 .rw[A];intro x B H;have⟨z,C,u⟩:=h.KU x B H;grind
 .rw[A,K];exact h.wC
 .rw[I,L];exact h.zq
 .rw[K];exact h.N2
 .rw[L];exact h.Q0
 .rw[q];exact h.wK
def mN.Nw (h:mN σ) (x:jb) (k:∀d,x=some d->iT σ d iG):mN {σ with form:=x}:=by
 have⟨r,h⟩:=h;exact⟨r,⟨⟨h.og.up,h.og.dn,h.og.nd,h.og.kd⟩,⟨h.sZ.ja,h.sZ.gq,h.sZ.hd⟩,h.gq,h.act,h.head,k,h.KU,h.wC,h.zq,h.N2,h.Q0,h.wK⟩⟩
def pT (m:Nat):Bool:=decide (m=6)||decide (m=7)||(decide (9<=m)&&decide (m<=17))
structure BMs (σ:Ab):Prop where
 ne:σ.gq≠[]
 sh:pT σ.mode=true\/(σ.mode=5/\pT σ.kept=true/\2<=σ.gq.length)\/(σ.mode=8/\(σ.kept=7\/σ.kept=11\/σ.kept=12))
def iT.nodes (h:iT σ i s) (e:σ'.nodes=σ.nodes):iT σ' i s:=by
 unfold iT Ab.gV at h|-;rw[e];exact h
structure Lm (σ σ':Ab):Prop where
 gH:σ'.gH=σ.gH
 pL:σ'.pL=σ.pL
 qH:σ'.qH=σ.qH
 oO:σ'.oO=σ.oO
 wt:σ'.waiting.length<=σ.waiting.length+1
 wz:∀x∈σ'.waiting,x∈σ.waiting\/x.2.2.size<=100
 nm:∀i s,iT σ i s->iT σ' i s
def Fx.lm (h:Fx σ σ'):Lm σ σ':=⟨h.gH,h.pL,h.qH,h.oO,by rw[h.waiting];omega,by rw[h.waiting];exact λ_ h=> .inl h,h.nm⟩
def RB (c:Nat) (σ:Ab) (r:pC Unit):Prop:=match r with
 | .ok _ σ'=>mN σ'/\BMs σ'/\Lm σ σ'/\wt σ'<=wt σ+c
 | .stop _ p=>p=σ.gH
 | .stuck=>False
theorem RB.mono {r : pC Unit} (h:RB c σ r) (d:c<=c'):RB c' σ r:=by
 cases r with
 |ok a σ'=>grind[RB]
 |stop e p=>exact h
 |stuck=>exact h
def jr.rb {r : pC Unit} (h:jr c σ r Q) (d:σ.gq≠[]) (k:pT σ.mode=true):RB c σ r:=by
 cases r with
 |ok a σ'=>
  have⟨h1,h2,h3,_⟩:=h;exact⟨h1,⟨h2.ne d,.inl (by rw[h2.mode];exact k)⟩,h2.lm,h3⟩
 |stop e p=>exact h
 |stuck=>exact h
def RB.bind {α:Type} {c1 c2 : Nat} {x:M α} {k:α->M Unit} {Q:α->Ab->Prop} (h:jr c1 σ (x σ) Q) (F:∀a σ',mN σ'->Fx σ σ'->wt σ'<=wt σ+c1->Q a σ'->RB c2 σ' (k a σ')) (H:c1+c2<=c):RB c σ ((x>>=k) σ):=by
 rw[M.gm];cases hm:x σ with
 |ok a σ'=>
  rw[hm]at h;obtain⟨C,d,D,E⟩:=h;have u:=F a σ' C d D E;dsimp only;cases hk2:k a σ' with
  |ok b σ2=>
   rw[hk2]at u;obtain⟨A,B,l,G⟩:=u;exact⟨A,B,⟨l.gH.trans d.gH,l.pL.trans d.pL,l.qH.trans d.qH,l.oO.trans d.oO,by have:=l.wt;rw[d.waiting]at this;exact this,by have:=l.wz;rw[d.waiting]at this;exact this,λi s q=>l.nm i s (d.nm i s q)⟩,by omega⟩
  |stop e p=>
   rw[hk2]at u;exact y6 u d.gH
  |stuck=>rw[hk2]at u;exact u
 |stop e p=>rw[hm]at h;exact h
 |stuck=>rw[hm]at h;exact h
def Ns (h:mN σ) (d:σ.gq≠[]) (m:Nat) (k:pT m=true):RB 0 σ ((jD m>>=λ_=>(Pure.pure ():M Unit)) σ):=
 ⟨h.mq rfl rfl rfl rfl rfl rfl rfl,⟨d,.inl k⟩,⟨rfl,rfl,rfl,rfl,ly _,λ_ h=> .inl h,λ_ _ h=>h⟩,nf (jh rfl)⟩
def rK (h:mN σ) (d:BMs σ):RB 0 σ ((Pure.pure ():M Unit) σ):=⟨h,d,⟨rfl,rfl,rfl,rfl,ly _,λ_ h=> .inl h,λ_ _ h=>h⟩,gW _⟩
structure rq (σ:Ab):Prop where
 iv:mN σ
 ne:σ.gq≠[]
 md:pT σ.mode=true
def rq.next (h:rq σ) (i:mN σ') (f:Fx σ σ'):rq σ':=⟨i,f.ne h.ne,by rw[f.mode];exact h.md⟩
def rq.Wp (h:rq σ):BMs σ:=⟨h.ne,.inl h.md⟩
structure nM (σ:Ab) (t:gz):Prop where
 tag:t.oT=true
 fr:σ.fresh=true
def tz (h:mN σ):jr 0 σ (ou σ) (λ_ σ'=>uo σ σ'):=
 jr.iC ((vK h (hH [mX]) Ct (by kernel_rfl)).mono (gW _) (λ_ _ _ _ h=>h.1))
theorem oJ (h:mN σ) (k:σ.gq≠[]) (l:nM σ t) (hw:wt σ < 999900):jr 33 σ (lw t σ) (λ_ σ'=>∃d j,Fc d t.name j σ'/\σ.gq <+:d.gq/\d.act.length=σ.act.length):=by
 unfold lw;refine jr.bind (nJ h k (by omega)) (c2:=1) ?_ (by omega);rintro _ d q p C ⟨A,B,u⟩;refine jr.iC ((jJ q (p.ne k) (by omega) t l.tag (u.trans l.fr)).mono (gW _) ?_);grind
theorem sS (h:mN σ) (k:σ.gq≠[]) (l:nM σ t) (hw:wt σ < 999000):jr 1 σ (mV t σ) (λ_ σ'=>∃d j,Fc d t.name j σ'):=by
 unfold mV;refine jr.bind (tz h) (c2:=1) ?_ (by omega);rintro _ d q p A u;refine jr.iC ((jJ q (p.ne k) (by omega) t l.tag (u.fresh.trans l.fr)).mono (gW _) ?_);grind
section
variable {σ:Ab} {t:gz} (h:rq σ) (hw:wt σ < 999000)
include h hw
def KD (d:nM σ t):RB 33 σ (lw t σ):=(oJ h.iv h.ne d (by omega)).rb h.ne h.md
def Kv (d:nM σ t):RB 1 σ (mV t σ):=(sS h.iv h.ne d hw).rb h.ne h.md
def Qm (p:nM σ t):RB 1 σ (wh t σ):=by
 unfold wh;refine RB.bind (sS h.iv h.ne p hw) (c2:=0) ?_ (by omega);rintro _ q k l _ _;have d:=h.next k l;exact⟨k.mq rfl rfl rfl rfl rfl rfl rfl,⟨d.ne,.inl d.md⟩,⟨rfl,rfl,rfl,rfl,ly _,λ_ h=> .inl h,λ_ _ h=>h⟩,nf (jh rfl)⟩
def Gn (d:nM σ t):RB 1 σ (ob t σ):=by
 have:jr 1 σ (ob t σ) (λ_ _=>True):=by
  unfold ob;refine jr.bind (tz h.iv) (c2:=1) ?_ (by omega);rintro _ B p k D u;refine jr.bind (tN p (hH [mg,mh]) (by kernel_rfl)) (c2:=1) ?_ (by omega);rintro _ C q l E A;exact jr.iC ((jJ q (l.ne (k.ne h.ne)) (by omega) t d.tag (A.fresh.trans (u.fresh.trans d.fr))).mono (gW _) (λ_ _ _ _ _=>trivial))
 exact this.rb h.ne h.md
def SE (d:nM σ t):RB 1 σ (wP t σ):=by
 have:jr 1 σ (wP t σ) (λ_ _=>True):=by
  unfold wP;refine jr.bind (tz h.iv) (c2:=1) ?_ (by omega);rintro _ q l k u p;exact jr.iC ((qg l (k.ne h.ne) (by omega) t d.tag (p.fresh.trans d.fr)).mono (gW _) (λ_ _ _ _ _=>trivial))
 exact this.rb h.ne h.md
def Nz (C:nM σ t) (B:t.name=iG):RB 1 σ (tT t σ):=by
 unfold tT;cases hf:σ.form with
 |some d=>exact(rK h.iv h.Wp).mono (by omega)
 |none=>
  dsimp only;refine RB.bind (sS h.iv h.ne C hw) (c2:=0) ?_ (by omega);rintro _ k u A _ ⟨D,j,q⟩;have l:=h.next u A;refine⟨u.Nw k.last ?_,⟨l.ne,.inl l.md⟩,⟨rfl,rfl,rfl,rfl,ly _,λ_ h=> .inl h,λ_ _ h=>h⟩,nf (jh rfl)⟩;intro d p;rw[Dr q]at p;cases p;rw[<-B];exact q.nm
def Jg (d:nM σ t):RB 33 σ (oX t σ):=by
 have:jr 33 σ (oX t σ) (λ_ _=>True):=by
  unfold oX;refine jr.bind (vK h.iv (hH [gS]) iJ (by kernel_rfl)) (c2:=33) ?_ (by omega);rintro _ q l k u ⟨p,_⟩;exact jr.iC ((oJ l (k.ne h.ne) ⟨d.tag,p.fresh.trans d.fr⟩ (by omega)).mono (gW _) (λ_ _ _ _ _=>trivial))
 exact this.rb h.ne h.md
def KF (k:nM σ t):RB 1 σ (rZ t σ):=by
 unfold rZ;have p:jr 0 σ (ym σ) (λ_ σ'=>uo σ σ'):=by
  unfold ym;split
  .exact⟨h.iv,Fx.refl _,gW _,uo.refl _⟩
  .exact tz h.iv
 refine RB.bind p (c2:=1) ?_ (by omega);rintro _ B q d D A;refine RB.bind (jJ q (d.ne h.ne) (by omega) t k.tag (A.fresh.trans k.fr)) (c2:=0) ?_ (by omega);rintro _ C u l E _;exact Ns u (l.ne (d.ne h.ne)) 7 rfl
def FU (l:nM σ t) (b:Bool):RB 1 σ (nT t b σ):=by
 unfold nT;refine RB.bind (jJ h.iv h.ne (by omega) t l.tag l.fr) (c2:=0) ?_ (by omega);rintro _ d p k _ ⟨j,q⟩;refine⟨p.mq rfl rfl rfl rfl rfl rfl rfl,⟨k.ne h.ne,.inr (.inl ⟨rfl,?_,?_⟩)⟩,⟨rfl,rfl,rfl,rfl,ly _,λ_ h=> .inl h,λ_ _ h=>h⟩,nf (jh rfl)⟩
 .show pT d.mode=true;rw[k.mode];exact h.md
 .have:=Ds q h.ne;exact this
def Jk (d:nM σ t):RB 33 σ (oZ t σ):=by
 have:jr 33 σ (oZ t σ) (λ_ _=>True):=by
  unfold oZ;refine jr.bind (tN h.iv (hH [gE]) (by kernel_rfl)) (c2:=33) ?_ (by omega);rintro _ q l k u p;exact jr.iC ((oJ l (k.ne h.ne) ⟨d.tag,p.fresh.trans d.fr⟩ (by omega)).mono (gW _) (λ_ _ _ _ _=>trivial))
 exact this.rb h.ne h.md
def Jl (k:nM σ t):RB 33 σ (qq t σ):=by
 unfold qq;refine RB.bind (oJ h.iv h.ne k (by omega)) (c2:=0) ?_ (by omega);rintro _ p l d _ _;refine⟨l.mq rfl rfl rfl rfl rfl rfl rfl,⟨d.ne h.ne,.inl ?_⟩,⟨rfl,rfl,rfl,rfl,ly _,λ_ h=> .inl h,λ_ _ h=>h⟩,nf (jh rfl)⟩;show pT (if _ then 15 else 14)=true;split<;>rfl
def NE (d:nM σ t):RB 33 σ (sB t σ):=by
 have:jr 33 σ (sB t σ) (λ_ _=>True):=by
  unfold sB;refine jr.bind (nJ h.iv h.ne (by omega)) (c2:=1) ?_ (by omega);rintro _ q l k B ⟨u,A,p⟩;exact jr.iC ((qg l (k.ne h.ne) (by omega) t d.tag (p.trans d.fr)).mono (gW _) (λ_ _ _ _ _=>trivial))
 exact this.rb h.ne h.md
omit h hw in
def nc (l:mN σ) (k:σ.gq≠[]) (A:nM σ t) (u:qX t.name=true) (hw:wt σ < 999900):jr 33 σ (iQ t σ) (λ_ _=>True):=by
 unfold iQ;refine jr.bind (oJ l k A hw) (c2:=0) ?_ (by omega);rintro _ d B D E ⟨C,j,q,_⟩;have p:Iu d= .ok j d:=by unfold Iu;rw[Dr q]
 rw[M.gm,p];dsimp only;exact jr.iC ((WM B q.nm u).mono (gW _) (λ_ _ _ _ _=>trivial))
def B9 (k:nM σ t) (d:qX t.name=true):RB 33 σ (iQ t σ):=(nc h.iv h.ne k d (by omega)).rb h.ne h.md
theorem NB (q:nM σ t) (B:t.name=sY):RB 330 σ (qR t σ):=by
 have d:qX t.name=true:=by rw[B];kernel_rfl
 unfold qR;cases hl:σ.pn sY with
 |none=>
  dsimp only;exact RB.mono (c:=33) ((jr.iC (Q:=λ_ _=>True) (nc h.iv h.ne q d (by omega))).rb h.ne h.md) (by omega)
 |some a=>
  dsimp only;have⟨hm,hnm⟩:=xe σ sY hl;have⟨r,hr⟩:=id h.iv;have⟨ea,hea,hfa⟩:=hr.act a (List.mem_reverse.1 hm);have k:=Rs hea;have l:σ.nm a≠fP:=by rw[sJ hnm];intro e;cases e
  have:jr 330 σ ((wG sY>>=λ_=>kD (some a)>>=λ_=>j8 (some a)>>=λ_=>iQ t>>=λ_=>(Pure.pure ():M Unit)) σ) (λ_ _=>True):=by
   refine jr.bind (DZ h.iv h.ne (s:=sY) (by grind) (by omega)) (c2:=33) ?_ (by omega);rintro _ I C p L F;refine jr.bind (yj C (x:=some a) (lW (p.nm _ _ k))) (c2:=33) ?_ (by omega);rintro _ J D u N G;refine jr.bind (BF D (u.nm _ _ (p.nm _ _ k)) l) (c2:=33) ?_ (by omega);rintro _ K E A O H;exact jr.iC (nc E (A.ne (u.ne (p.ne h.ne))) ⟨q.tag,by rw[H.fresh,G.fresh,F];exact q.fr⟩ d (by omega))
  exact this.rb h.ne h.md
end
def RB.tail {m:M Unit} (h:RB c σ (m σ)):RB c σ ((m>>=λ_=>(Pure.pure ():M Unit)) σ):=by
 rw[M.gm];revert h;cases m σ<;>exact λh=>h
def RB.then {m:M Unit} (h:RB c σ (m σ)) (g:Ab->Ab) (N:∀σ,(g σ).nodes=σ.nodes/\(g σ).gq=σ.gq/\(g σ).act=σ.act/\(g σ).head=σ.head/\(g σ).form=σ.form/\(g σ).pL=σ.pL/\(g σ).qH=σ.qH/\(g σ).mode=σ.mode/\(g σ).kept=σ.kept/\(g σ).gH=σ.gH/\(g σ).oO=σ.oO/\(g σ).waiting=σ.waiting):RB c σ ((m>>=λ_=>wm g>>=λ_=>(Pure.pure ():M Unit)) σ):=by
 rw[M.gm];revert h;cases m σ with
 |ok a σ1=>
  rintro⟨K,E,d,L⟩;obtain⟨l,B,F,G,H,C,D,I,J,u,A,k⟩:=N σ1;refine⟨K.mq l B F G H C D,⟨by rw[B];exact E.ne,?_⟩,⟨u.trans d.gH,C.trans d.pL,D.trans d.qH,A.trans d.oO,by rw[k];exact d.wt,by rw[k];exact d.wz,λi s q=>(d.nm i s q).nodes l⟩,by rw[jh l];exact L⟩;rw[I,J,B];exact E.sh
 |stop e p=>exact λh=>h
 |stuck=>exact λh=>h
def aee {a b : gn} (h:kh a b=false):a≠b:=by
 rintro rfl;unfold kh at h;simp at h
def Li (i:Nat) (a:gn×gn) (r:lh) (σ:Ab):qe i (a::r) σ=(match σ.gV i with
  |none=> .stuck
  |some e=>if yy e.gM a.1 then qe i r σ else if σ.oO<=e.gM.length then .stop 7 σ.gH else qe i r (σ.gU i {e with gM:=e.gM++[a]})):=rfl
theorem Ef:∀(gx:lh) {σ:Ab},mN σ->(σ.gV i).isSome=true->jr 0 σ (qe i gx σ) (λ_ _=>True)
 |[],σ,h,_=>⟨h,Fx.refl _,gW _,trivial⟩
 |a::r,σ,h,hi=>by
  have⟨e,he⟩:=Option.isSome_iff_exists.1 hi;have D:qe i (a::r) σ=(if yy e.gM a.1 then qe i r σ else if σ.oO<=e.gM.length then .stop 7 σ.gH else qe i r (σ.gU i {e with gM:=e.gM++[a]})):=by
   rw[Li,he]
  rw[D];split
  .exact Ef r h hi
  .split
   .rfl
   .have⟨rr,hr⟩:=h;have q:=Ab.ic he;have I:(σ.gV i).isSome=true:=hi;have B:=hr.alike (σ':=σ.gU i {e with gM:=e.gM++[a]}) (λj A l=>by
     by_cases d:j=i
     .subst d;rw[he]at l;cases l;exact⟨_,Ab.iR q,rfl,rfl,rfl⟩
     .exact⟨A,by rw[Ab.iM d];exact l,rfl,rfl,rfl⟩) (λj A l=>by
     by_cases d:j=i
     .grind
     .rw[Ab.iM d]at l;grind) (λj A l k C=>by
     rw[Ab.kP I];by_cases d:j=i
     .subst d;rw[Ab.iR q]at l;cases l;exact hr.og.kd _ _ he k C
     .rw[Ab.iM d]at l;exact hr.og.kd _ _ l k C)
    have hw:wt (σ.gU i {e with gM:=e.gM++[a]})=wt σ:=by
     have:=rE (e':={e with gM:=e.gM++[a]}) he;dsimp only at this;omega
    have H:=Ef r (σ:=σ.gU i {e with gM:=e.gM++[a]}) ⟨rr,B.1⟩ (by rw[Ab.iR q];rfl);revert H;cases qe i r (σ.gU i {e with gM:=e.gM++[a]})with
    |ok u σ2=>rintro⟨E,F,J,G⟩;exact⟨E,B.2.trans F,by omega,G⟩
    |stop c p=>exact λh=>h
    |stuck=>simp[jr]
def O4 (h:mN σ) (d:iT σ i s) (l:nh s=true) (t:gz) (k:σ.fresh=true):jr 0 σ (vP i t σ) (λ_ _=>True):=by
 unfold vP;rw[gN (by rw[qx];exact⟨k,by rw[jy.Pw d];exact l⟩)];exact Ef t.jm h (lW d)
def Dd (h:mN σ) (d:σ.gq≠[]) (t:gz) (k:σ.fresh=true):jr 0 σ (oz t σ) (λ_ _=>True):=by
 have⟨r,hr⟩:=id h;have⟨q,e,rest,h1,h2,h3,h4⟩:=hr.first d;unfold oz;rw[h2];dsimp only;exact jr.iC (Q:=λ_ _=>True) (O4 h ⟨e,h3,h4⟩ (by kernel_rfl) t k)
theorem MK (h:mN σ) (t:gz) (l:σ.fresh=true):jr 0 σ (qd t σ) (λ_ _=>True):=by
 unfold qd;cases hq:io σ.gq 1 with
 |none=>exact⟨h,Fx.refl _,gW _,trivial⟩
 |some i=>
  dsimp only;split
  .rename_i k;have⟨r,hr⟩:=id h;have p:some i∈σ.gq:=by
    rw[show(1:Int)=((1:Nat):Int)from rfl,qI,yd]at hq;cases hx:σ.gq[1]? with
    |none=>grind
    |some y=>grind
   have⟨j,e,e1,he⟩:=kE (hr.gq _ p);cases e1;have d:=Rs he;rw[sJ k]at d;exact jr.iC (Q:=λ_ _=>True) (O4 h d (by kernel_rfl) t l)
  .exact⟨h,Fx.refl _,gW _,trivial⟩
section
variable {σ:Ab} {t:gz} (h:rq σ) (hw:wt σ < 999000)
include h hw
theorem NC (k:nM σ t) (A:t.name=iB):RB 360 σ (sy t σ):=by
 have d:qX t.name=true:=by rw[A];kernel_rfl
 have:jr 360 σ (sy t σ) (λ_ _=>True):=by
  unfold sy;refine jr.bind (nJ h.iv h.ne (by omega)) (c2:=325) ?_ (by omega);rintro _ D p l H ⟨F,G,q⟩;unfold tU;split
  .refine jr.bind (c1:=288) (DZ p (l.ne h.ne) (s:=iB) (by grind) (by omega)) (c2:=33) ?_ (by omega);rintro _ E B u I C;exact jr.iC (Q:=λ_ _=>True) (nc B (u.ne (l.ne h.ne)) ⟨k.tag,by rw[C,q];exact k.fr⟩ d (by omega))
  .exact jr.mono (c:=33) (jr.iC (Q:=λ_ _=>True) (nc p (l.ne h.ne) ⟨k.tag,by rw[q];exact k.fr⟩ d (by omega))) (by omega) (λ_ _ _ _ h=>h)
 exact this.rb h.ne h.md
def Jj (d:nM σ t):RB 33 σ (oY t σ):=by
 have:jr 33 σ (oY t σ) (λ_ _=>True):=by
  unfold oY;refine jr.bind (oJ h.iv h.ne d (by omega)) (c2:=0) ?_ (by omega);rintro _ l k p q _;exact jr.iC ((uX k none (λ_ h=>by cases h)).mono (gW _) (λ_ _ _ _ _=>trivial))
 exact this.rb h.ne h.md
def aak (d:nM σ t) (ks:List gn) (l:hH ks fP=false):RB 1 σ (FI ks t σ):=by
 have:jr 1 σ (FI ks t σ) (λ_ _=>True):=by
  unfold FI;refine jr.bind (vK h.iv (hH ks) SQ l) (c2:=1) ?_ (by omega);rintro _ u p k A ⟨q,_⟩;exact jr.iC ((sS p (k.ne h.ne) ⟨d.tag,q.fresh.trans d.fr⟩ (by omega)).mono (gW _) (λ_ _ _ _ _=>trivial))
 exact this.rb h.ne h.md
def DJ (d:nM σ t):RB 1 σ (tV t σ):=RB.tail (FU h hw d false)
def DI (d:nM σ t):RB 1 σ (oK t σ):=RB.tail (FU h hw d true)
def EJ (d:nM σ t):RB 1 σ (pQ t σ):=RB.then (DJ h hw d) _ (λ_=>⟨rfl,rfl,rfl,rfl,rfl,rfl,rfl,rfl,rfl,rfl,rfl,rfl⟩)
omit hw in
def O3 (d:σ.fresh=true):RB 0 σ (oz t σ):=(Dd h.iv h.ne t d).rb h.ne h.md
omit hw in
def O2 (d:σ.fresh=true):RB 0 σ (qd t σ):=(MK h.iv t d).rb h.ne h.md
omit hw in
def Ry:RB 0 σ (yt σ):=by
 unfold yt;split
 .exact⟨h.iv.mq rfl rfl rfl rfl rfl rfl rfl,⟨h.ne,.inl rfl⟩,⟨rfl,rfl,rfl,rfl,ly _,λ_ h=> .inl h,λ_ _ h=>h⟩,nf (jh rfl)⟩
 .exact rK h.iv h.Wp
omit hw in
def Hd (p b:gn->Bool) (d:p fP=false):RB 0 σ ((ng p b>>=λ_=>(Pure.pure ():M Unit)) σ):=
 (jr.iC (Q:=λ_ _=>True) ((vK h.iv p b d).mono (gW _) (λ_ _ _ _ _=>trivial))).rb h.ne h.md
omit hw in
def OG (d:t.name≠fP):RB 0 σ (xD t σ):=Hd h _ _ (by
 rw[xJ];cases hx:kh fP t.name with
 |false=>rfl
 |true=>exact absurd (sJ hx).symm d)
omit hw in
def J3:RB 0 σ (tD σ):=Hd h _ _ (by kernel_rfl)
omit hw in
def RE:RB 0 σ (AG σ):=Hd h _ _ (by kernel_rfl)
omit hw in
def OK (d:t.name≠fP):RB 0 σ (xF t σ):=(jr.iC (Q:=λ_ _=>True) ((C5 h.iv d).mono (gW _) (λ_ _ _ _ _=>trivial))).rb h.ne h.md
def Z3:RB 1 σ (OL σ):=by
 have:jr 1 σ (OL σ) (λ_ _=>True):=by
  unfold OL;split
  .exact jr.mono (c:=0) (jr.iC (Q:=λ_ _=>True) ((tz h.iv).mono (gW _) (λ_ _ _ _ _=>trivial))) (by omega) (λ_ _ _ _ h=>h)
  .refine jr.bind (rJ h.iv h.ne (by omega) mX) (c2:=0) ?_ (by omega);rintro _ k d l p _;exact jr.iC ((tz d).mono (gW _) (λ_ _ _ _ _=>trivial))
 exact this.rb h.ne h.md
def OH:RB 33 σ (ut σ):=by
 have:jr 33 σ (ut σ) (λ_ _=>True):=by
  unfold ut;refine jr.bind (nJ h.iv h.ne (by omega)) (c2:=1) ?_ (by omega);rintro _ p k d B _;refine jr.bind (rJ k (d.ne h.ne) (by omega) jN) (c2:=0) ?_ (by omega);rintro _ u l A C ⟨j,q,_⟩;exact jr.iC ((xQ l (Ds q (d.ne h.ne))).mono (gW _) (λ_ _ _ _ _=>trivial))
 exact this.rb h.ne h.md
omit hw in
def RA:RB 0 σ (yu σ):=by
 unfold yu;cases hf:σ.form with
 |none=>exact rK h.iv h.Wp
 |some i=>
  dsimp only;have B:iT σ i iG:=by obtain⟨r,C⟩:=h.iv;exact C.form i hf
  have k:mN {σ with form:=none}:=h.iv.Nw none (λ_ h=>by cases h);split
  .obtain⟨q,d,H⟩:=Hh k uw (by kernel_rfl);have A:=BF q (i:=i) (s:=iG) (d.nm _ _ B) (by intro e;cases e);show RB 0 σ ((j8 (some i)>>=λ_=>(Pure.pure ():M Unit)) (({σ with form:=none}:Ab).mG));rw[M.gm];revert A;have l:({σ with form:=none}:Ab).mG={({σ with form:=none}:Ab)with gq:=(Ab.pU {σ with form:=none} uw ({σ with form:=none}:Ab).gq.reverse).reverse}:=rfl;rw[l];cases j8 (some i) _ with
   |ok u σ2=>
    rintro⟨D,E,I,G⟩;have F:=d.trans E;refine⟨D,⟨F.ne h.ne,.inl ?_⟩,⟨F.gH,F.pL,F.qH,F.oO,?_,by rw[F.waiting];exact λ_ h=> .inl h,F.nm⟩,?_⟩
    .rw[F.mode];exact h.md
    .rw[F.waiting];show σ.waiting.length<=_;omega
    .rw[jh G.nodes];exact nf (jh rfl)
   |stop c p=>exact λh=>h
   |stuck=>exact λh=>h
  .exact⟨k,⟨h.ne,.inl h.md⟩,⟨rfl,rfl,rfl,rfl,ly _,λ_ h=> .inl h,λ_ _ h=>h⟩,nf (jh rfl)⟩
def Eb (d:qX t.name=true):RB 288 σ (pM t σ):=(jr.iC (Q:=λ_ _=>True) ((DZ h.iv h.ne d (by omega)).mono (gW _) (λ_ _ _ _ _=>trivial))).rb h.ne h.md
omit hw in
def ME:RB 0 σ (sq σ):=by
 have:jr 0 σ (sq σ) (λ_ _=>True):=by
  unfold sq;refine jr.bind (vK h.iv (hH [gO]) iJ (by kernel_rfl)) (c2:=0) ?_ (by omega);rintro b k d l p _;cases b with
  |true=>exact(Jw d).mono (gW _) (λ_ _ _ _ _=>trivial)
  |false=>exact⟨d,Fx.refl _,gW _,trivial⟩
 exact this.rb h.ne h.md
def A8 (d:t.chars.size<=100):RB 101 σ (jR t σ):=((oA h.iv h.ne t (by omega)).mono (c':=101) (by omega) (λ_ _ _ _ h=>h)).rb h.ne h.md
def JS (p:t.chars.size<=100):RB 200 σ (nB t σ):=by
 unfold nB;split
 .exact(rK h.iv h.Wp).mono (by omega)
 .have:jr 200 σ ((lF>>=λ_=>jR t>>=λ_=>(Pure.pure ():M Unit)) σ) (λ_ _=>True):=by
   refine jr.bind (nJ h.iv h.ne (by omega)) (c2:=101) ?_ (by omega);rintro _ l k d q _;exact jr.iC (Q:=λ_ _=>True) ((oA k (d.ne h.ne) t (by omega)).mono (by omega) (λ_ _ _ _ _=>trivial))
  exact this.rb h.ne h.md
def Ga (d:t.chars.size<=100):RB 101 σ (pg t σ):=by
 unfold pg;split
 .exact(rK h.iv h.Wp).mono (by omega)
 .exact RB.tail (A8 h hw d)
end
def Fs (h:mN σ) (l:M (Nat×Nat)) (d:∃pl,l σ= .ok pl σ/\AV σ pl) (t:gz) (hw:wt σ < 999000):jr 1 σ (nO l t σ) (λ_ _=>True):=by
 have⟨a,b,k,gx⟩:=t;cases k with
 |gJ s=>
  have⟨pl,h1,h2⟩:=d;show jr 1 σ ((l>>=λpl=>oH pl (.cm s) .cm>>=λ_=>(Pure.pure ():M Unit)) σ) _;rw[M.gm,h1];dsimp only;exact jr.iC (m:=oH pl (.cm s) .cm) (Q:=λ_ _=>True) ((Ez h h2 (.cm s) .cm (.inl ⟨s,rfl,rfl⟩) (by omega)).mono (gW _) (λ_ _ _ _ _=>trivial))
 |jW s=>exact⟨h,Fx.refl _,ly _,trivial⟩
 |start s=>exact⟨h,Fx.refl _,ly _,trivial⟩
 |stop s=>exact⟨h,Fx.refl _,ly _,trivial⟩
 |iH s q=>exact⟨h,Fx.refl _,ly _,trivial⟩
 |lost=>exact⟨h,Fx.refl _,ly _,trivial⟩
 |ie=>exact⟨h,Fx.refl _,ly _,trivial⟩
theorem Aa (h:mN σ) (d:σ.gq≠[]):∃pl,mU σ= .ok pl σ/\AV σ pl:=by
 have⟨r,h⟩:=h;have⟨pl,h1,h2,_⟩:=Et h d;grind
def My (h:mN σ):∃pl,jt 0 σ= .ok pl σ/\AV σ pl:=by
 have⟨e,he⟩:=Option.isSome_iff_exists.1 h.wK;exact⟨_,by unfold jt;rw[he],e,he,gW _⟩
def EB (σ:Ab) (r:pC Bool):Prop:=match r with
 | .ok x σ'=>mN σ'/\σ'.gq≠[]/\pT σ'.mode=true/\(Lm σ σ'/\σ'.waiting=σ.waiting)/\wt σ'<=wt σ/\σ'.fresh=σ.fresh/\(x=true->σ'.gq.length < σ.gq.length)/\(x=false->σ'=σ)
 | .stop _ _=>False
 | .stuck=>False
def lm0 (σ:Ab):Lm σ σ:=⟨rfl,rfl,rfl,rfl,ly _,λ_ h=> .inl h,λ_ _ h=>h⟩
def EB.no (h:rq σ):EB σ (.ok false σ):=⟨h.iv,h.ne,h.md,⟨lm0 σ,rfl⟩,gW _,rfl,(λh=>by cases h),λ_=>rfl⟩
def EB.PC (h:rq σ) (p b:gn->Bool) (N:p fP=false) {k:Bool->M Bool} (L:k false=Pure.pure false) (O:∀d,mN d->d.gq≠[]->∃l,k true d= .ok true l/\mN l/\l.gq=d.gq/\pT l.mode=true/\l.gH=d.gH/\l.pL=d.pL/\l.qH=d.qH/\l.oO=d.oO/\l.waiting=d.waiting/\l.nodes=d.nodes/\l.fresh=d.fresh):EB σ ((ng p b>>=k) σ):=by
 have K:=vK h.iv p b N;rw[M.gm];revert K;cases hq:ng p b σ with
 |ok x d=>
  rintro⟨P,u,V,S,T,U⟩;dsimp only;cases x with
  |false=>
   rw[L];have e:=U rfl;subst e;exact EB.no h
  |true=>
   obtain⟨l,e,E,C,F,G,H,I,J,B,D,A⟩:=O d P (u.ne h.ne);rw[e];refine⟨E,by rw[C];exact u.ne h.ne,F,⟨⟨G.trans u.gH,H.trans u.pL,I.trans u.qH,J.trans u.oO,?_,by rw[B,u.waiting];exact λ_ h=> .inl h,λi s q=>(u.nm i s q).nodes D⟩,B.trans u.waiting⟩,?_,A.trans S.fresh,?_,λh=>by cases h⟩
   .rw[B,u.waiting];omega
   .rw[jh D];exact V
   .intro _;rw[C];exact T rfl
 |stop c p=>unfold ng at hq;split at hq<;>cases hq
 |stuck=>exact λh=>h.elim
def Bw (h:rq σ) (ks:List gn) (m:Nat) (l:hH ks fP=false) (p:pT m=true):EB σ (rH ks m σ):=by
 unfold rH;refine EB.PC h _ _ l (k:=λb=>if b then (do jD m;return true)else return false) rfl ?_;intro d u q;exact⟨{d with mode:=m},rfl,u.mq rfl rfl rfl rfl rfl rfl rfl,rfl,p,rfl,rfl,rfl,rfl,rfl,rfl,rfl⟩
def xE (h:rq σ) (ks:List gn) (m:Nat) (G:hH ks fP=false) (H:pT m=true):EB σ (lc ks m σ):=by
 have F:=Bw h ks m G H;unfold lc;rw[M.gm];revert F;cases rH ks m σ with
 |ok x σ1=>
  rintro⟨l,u,q,⟨d,C⟩,B,A,k,D⟩;dsimp only;cases x with
  |false=>exact⟨l,u,q,⟨d,C⟩,B,A,k,D⟩
  |true=>
   obtain⟨E,I,J,K⟩:=Jw l;exact⟨E,u,q,⟨⟨d.gH,d.pL,d.qH,d.oO,d.wt,d.wz,d.nm⟩,C⟩,B,A,k,λh=>by cases h⟩
 |stop c p=>exact λh=>h
 |stuck=>exact λh=>h
theorem QI (s:gn):pT (jG s)=true:=by
 grind[pT,jG]
def FX (σ:Ab):∀ys:kL,pT (tO σ ys)=true
 |[]=>rfl
 |x::ys=>by
  unfold tO;split
  .exact FX σ ys
  .exact QI _
def P7 (h:rq σ) (p b:gn->Bool) (q:p fP=false):EB σ ((ng p b>>=λb=>if b then (do xh;return true)else return false) σ):=by
 refine EB.PC h p b q (k:=λb=>if b then (do xh;return true)else return false) rfl ?_;intro d u l;exact⟨{d with mode:=tO d d.gq.reverse},rfl,u.mq rfl rfl rfl rfl rfl rfl rfl,rfl,FX _ _,rfl,rfl,rfl,rfl,rfl,rfl,rfl⟩
def CZ (h:rq σ):EB σ (mD σ):=by
 unfold mD;split
 .rename_i l;have p:=wJ h.iv _ (by kernel_rfl) l;obtain⟨d,k⟩:=Eu h.iv p;show EB σ (.ok true {σ.pop with mode:=7});refine⟨d.mq rfl rfl rfl rfl rfl rfl rfl,k.ne h.ne,rfl,⟨⟨rfl,rfl,rfl,rfl,ly _,λ_ h=> .inl h,λ_ _ h=>h⟩,rfl⟩,nf (jh rfl),rfl,λ_=>?_,λh=>by cases h⟩;show σ.gq.dropLast.length < _;simp;omega
 .exact EB.no h
structure vD (b:M Bool):Prop where
 ok:∀σ,rq σ->EB σ (b σ)
def MB:vD tC:=⟨λ_ h=>xE h _ _ (by kernel_rfl) rfl⟩
def U3:vD endCell:=⟨λ_ h=>xE h _ _ (by kernel_rfl) rfl⟩
def Xs:vD Ed:=⟨λ_ h=>Bw h _ _ (by kernel_rfl) rfl⟩
def Hr:vD qG:=⟨λ_ h=>Bw h _ _ (by kernel_rfl) rfl⟩
def RK:vD xG:=⟨λ_ h=>P7 h _ _ (by kernel_rfl)⟩
def OM:vD vn:=⟨λ_ h=>P7 h _ _ (by kernel_rfl)⟩
def D9:vD mD:=⟨λ_ h=>CZ h⟩
def Z5 {b:M Bool} (k:vD b) (h:rq σ):RB 0 σ (C6 b σ):=by
 have d:=k.ok σ h;unfold C6;rw[M.gm];revert d;cases b σ with
 |ok x σ1=>rintro⟨l,A,u,⟨q,F⟩,B,E,C,D⟩;exact⟨l,⟨A,.inl u⟩,q,B⟩
 |stop c p=>simp[EB]
 |stuck=>simp[EB]
def Lm.trans {a b c : Ab} (h:Lm a b) (hw:b.waiting=a.waiting) (k:Lm b c):Lm a c:=⟨k.gH.trans h.gH,k.pL.trans h.pL,k.qH.trans h.qH,k.oO.trans h.oO,by have:=k.wt;rw[hw]at this;exact this,by have:=k.wz;rw[hw]at this;exact this,λi s q=>k.nm i s (h.nm i s q)⟩
def WQ {b:M Bool} (I:vD b) (h:rq σ) {rec:Nat->gz->M Unit} (J:∀σ',rq σ'->σ'.gq.length < σ.gq.length->wt σ'<=wt σ->σ'.fresh=σ.fresh->σ'.waiting=σ.waiting->σ'.pL=σ.pL->RB c σ' (rec σ'.mode t σ')):RB c σ (wY rec b t σ):=by
 have F:=I.ok σ h;unfold wY;rw[M.gm];revert F;cases b σ with
 |ok x σ1=>
  rintro⟨k,q,l,⟨d,A⟩,L,K,B,N⟩;dsimp only;cases x with
  |false=>exact⟨k,⟨q,.inl l⟩,d,by omega⟩
  |true=>
   have G:=J σ1 ⟨k,q,l⟩ (B rfl) L K A d.pL;have H:RB c σ1 ((jM rec t>>=λ_=>(Pure.pure ():M Unit)) σ1):=RB.tail G;show RB c σ ((jM rec t>>=λ_=>(Pure.pure ():M Unit)) σ1);revert H;cases(jM rec t>>=λ_=>(Pure.pure ():M Unit)) σ1 with
   |ok u σ2=>rintro⟨C,D,E,O⟩;exact⟨C,D,d.trans A E,by omega⟩
   |stop c p=>exact λh=>y6 h d.gH
   |stuck=>simp[RB]
 |stop c p=>simp[EB]
 |stuck=>simp[EB]
section
variable {σ:Ab} {t:gz} (h:rq σ) (hw:wt σ < 999000)
include h hw
def LO (k:nM σ t) (ks:List gn) (m:Nat) (p:pT m=true):RB 1 σ (um ks m t σ):=by
 unfold um;refine RB.bind (wI h.iv (hH ks)) (c2:=1) ?_ (by omega);rintro _ B q d D A;refine RB.bind (jJ q (d.ne h.ne) (by omega) t k.tag (A.fresh.trans k.fr)) (c2:=0) ?_ (by omega);rintro _ C u l E _;exact Ns u (l.ne (d.ne h.ne)) m p
def Gk (l:nM σ t):RB 1 σ (pu t σ):=by
 unfold pu;refine RB.bind (wI h.iv (hH [fR])) (c2:=1) ?_ (by omega);rintro _ D q d G B;refine RB.bind (uX q none (λ_ h=>by cases h)) (c2:=1) ?_ (by omega);rintro _ E u k H C;refine RB.bind (jJ u (k.ne (d.ne h.ne)) (by omega) t l.tag (C.fresh.trans (B.fresh.trans l.fr))) (c2:=0) ?_ (by omega);rintro _ F A p I _;exact Ns A (p.ne (k.ne (d.ne h.ne))) 9 rfl
def yQ (q:nM σ t):RB 1 σ (qQ t σ):=by
 unfold qQ;refine RB.bind (wI h.iv (hH [gX])) (c2:=1) ?_ (by omega);rintro _ K F l L J;refine RB.bind (jJ F (l.ne h.ne) (by omega) t q.tag (J.fresh.trans q.fr)) (c2:=0) ?_ (by omega);rintro _ d G A N _;have I:=A.ne (l.ne h.ne);have H:mN {d with mode:=13}:=G.mq rfl rfl rfl rfl rfl rfl rfl;have E:=(jr.iC (Q:=λ_ _=>True) ((uX H none (λ_ h=>by cases h)).mono (gW _) (λ_ _ _ _ _=>trivial))).rb I rfl;show RB 0 d ((lj none>>=λ_=>(Pure.pure ():M Unit)) {d with mode:=13});revert E;cases(lj none>>=λ_=>(Pure.pure ():M Unit)) {d with mode:=13} with
 |ok u σ4=>rintro⟨B,C,k,D⟩;exact⟨B,C,⟨k.gH,k.pL,k.qH,k.oO,k.wt,k.wz,k.nm⟩,D⟩
 |stop c p=>exact λh=>h
 |stuck=>exact λh=>h
def AY (A:nM σ t) (B:t.name=iG):RB 1 σ (mc t σ):=by
 unfold mc;cases hf:σ.form with
 |some d=>exact(rK h.iv h.Wp).mono (by omega)
 |none=>
  dsimp only;refine RB.bind (jJ h.iv h.ne (by omega) t A.tag A.fr) (c2:=0) ?_ (by omega);rintro _ k C l F ⟨j,q⟩;refine RB.bind (xQ C (Ds q h.ne)) (c2:=0) ?_ (by omega);rintro x E D p G ⟨rfl,rfl⟩;refine⟨D.Nw k.last ?_,⟨p.ne (l.ne h.ne),.inl ?_⟩,⟨rfl,rfl,rfl,rfl,ly _,λ_ h=> .inl h,λ_ _ h=>h⟩,nf (jh rfl)⟩
  .intro d u;rw[Dr q]at u;cases u;rw[<-B];exact p.nm _ _ q.nm
  .show pT k.mode=true;rw[l.mode];exact h.md
def ue (d:nM σ t):RB 1 σ (lr t σ):=(qg h.iv h.ne (by omega) t d.tag d.fr).rb h.ne h.md
def yR (d:nM σ t):RB 1 σ (jP t σ):=by
 have:jr 1 σ (jP t σ) (λ_ _=>True):=by
  unfold jP;refine jr.bind (tN h.iv (hH [gE]) (by kernel_rfl)) (c2:=1) ?_ (by omega);rintro _ q l k u p;exact jr.iC ((jJ l (k.ne h.ne) (by omega) t d.tag (p.fresh.trans d.fr)).mono (gW _) (λ_ _ _ _ _=>trivial))
 exact this.rb h.ne h.md
def qZ (l:nM σ t):jr 1 σ (jp t σ) (λ_ σ'=>2<=σ'.gq.length):=by
 unfold jp;refine jr.bind (tN h.iv (hH [gE]) (by kernel_rfl)) (c2:=1) ?_ (by omega);rintro _ C p d F A;refine jr.bind (tN p (hH [fU]) (by kernel_rfl)) (c2:=1) ?_ (by omega);rintro _ D u k G B;refine jr.iC ((jJ u (k.ne (d.ne h.ne)) (by omega) t l.tag (B.fresh.trans (A.fresh.trans l.fr))).mono (gW _) ?_);rintro _ E _ _ ⟨j,q⟩;exact Ds q (k.ne (d.ne h.ne))
def xj (d:nM σ t):RB 1 σ (jp t σ):=(qZ h hw d).rb h.ne h.md
def Ca (d:nM σ t):RB 1 σ (lG t σ):=by
 have:jr 1 σ (lG t σ) (λ_ _=>True):=by
  unfold lG;refine jr.bind (qZ h hw d) (c2:=0) ?_ (by omega);rintro _ p k q u l;exact jr.iC ((xQ k l).mono (gW _) (λ_ _ _ _ _=>trivial))
 exact this.rb h.ne h.md
omit hw in
def zL:RB 0 σ (mO σ):=(jr.iC (Q:=λ_ _=>True) ((tN h.iv (hH [gE]) (by kernel_rfl)).mono (gW _) (λ_ _ _ _ _=>trivial))).rb h.ne h.md
omit hw in
theorem yw:RB 0 σ (jf σ):=by
 have k:∀d,mN d->jr 0 d ((pS (hH [fU])>>=λ_=>(Pure.pure ():M Unit)) d) (λ_ _=>True):=λd u=>
  jr.iC (Q:=λ_ _=>True) ((tN u (hH [fU]) (by kernel_rfl)).mono (gW _) (λ_ _ _ _ _=>trivial))
 have:jr 0 σ (jf σ) (λ_ _=>True):=by
  unfold jf;split
  .rename_i l;have q:=wJ h.iv _ (by kernel_rfl) l;have⟨r,hr⟩:=id h.iv;have⟨i,e,h1,h2,h3,h4⟩:=M2 hr h.ne;rw[List.getLast?_eq_getElem?]at h3;have⟨a,ha1,ha2⟩:=hr.Oi h3 (by omega);have p:io σ.gq (posOf σ.gq σ.last - 1)=some a:=by
    rw[h1];unfold ahead at ha1;split at ha1
    .grind
    .cases ha1
   rw[p];dsimp only;split
   .refine jr.bind (xQ h.iv q) (c2:=0) ?_ (by omega);grind
   .exact k σ h.iv
  .exact k σ h.iv
 exact this.rb h.ne h.md
end
theorem vu {n : gn} {r : Ru}:∀{R:List (List gn×Ru)},oW R n=some r->∃p∈R,hH p.1 n=true/\p.2=r
 |[],h=>by cases h
 |p::R,h=>by
  unfold oW at h;by_cases d:hH p.1 n=true
  .grind
  .rw[gI d]at h;have⟨q,h1,h2⟩:=vu h;grind
theorem IA {n : gn}:∀{R:List (List gn×Ru)},oW R n=none->∀p∈R,hH p.1 n=false
 |[],_,p,d=>by cases d
 |q::R,h,p,d=>by
  unfold oW at h;by_cases k:hH q.1 n=true
  .grind
  .rw[gI k]at h;rcases List.mem_cons.1 d with rfl|d
   .grind
   .exact IA h p d
def TE (t:gz):Bool:=match t.k with
 | .start _=>true
 |_=>false
structure uA (t:gz):Prop where
 sz:t.chars.size<=100
 sm:we t=true
 nl:t.k≠ .lost
def GL (σ:Ab) (t:gz):Prop:=TE t=true->σ.fresh=true
def GL.tag (h:GL σ t) (d:TE t=true):nM σ t:=by
 refine⟨?_,h d⟩;have⟨a,b,k,gx⟩:=t;cases k<;>first|rfl|cases d
theorem iD (d:Bool) (n m:Nat) (t:gz) (k:t.k≠ .lost) (sp:mB) (p:xV[m]?=some sp) (r:Ru) (l:jX sp t=r):gR d (n+1) m t=pk d (gR true n) (gR d n) r t:=by
 rw[Jr d n m t k];grind[asM]
def yo (t:gz):xC 95 true t=nO mU t:=by rfl
def Ow (t:gz):xC 89 false t=nO (jt 0) t:=by rfl
def Ie {n : gn} (h:hH [s] n=true):n=s:=by rw[xJ]at h;exact sJ h
def ad2 {u n : gn} (h:hH [s,u] n=true):n=s\/n=u:=by
 unfold hH at h;simp only[List.any_cons,List.any_nil,Bool.or_false,Bool.or_eq_true]at h;rcases h with h|h
 .exact .inl (sJ h)
 .exact .inr (sJ h)
def MN {d : List gn} {n : gn} (h:hH d n=true):n∈d:=by
 unfold hH at h;rw[List.any_eq_true]at h;have⟨x,h1,h2⟩:=h;rw[sJ h2];exact h1
def TA (d:Bool) (n a b:Nat) (nm:gn) (gx:lh) (k:nm=jc\/nm=jk\/nm=iK) (h:rq σ) (p:σ.fresh=true) (hw:wt σ < 999000):RB 1 σ (gR d (n+1) 3 ⟨a,b,.start nm,gx⟩ σ):=by
 have l:nM σ ⟨a,b,.start nm,gx⟩:=⟨rfl,p⟩;rcases k with rfl|rfl|rfl
 .rw[iD d n 3 _ (by simp) lD rfl (.gZ 100) (by kernel_rfl)];exact ue h hw l
 .rw[iD d n 3 _ (by simp) lD rfl (.gZ 101) (by kernel_rfl)];exact DJ h hw l
 .rw[iD d n 3 _ (by simp) lD rfl (.gZ 102) (by kernel_rfl)];exact DI h hw l
def yL {rec:Nat->gz->M Unit} (h:RB c {σ with mode:=m} (rec m t {σ with mode:=m})):RB c σ ((jD m>>=λ_=>jM rec t>>=λ_=>(Pure.pure ():M Unit)) σ):=by
 have A:RB c {σ with mode:=m} ((jM rec t>>=λ_=>(Pure.pure ():M Unit)) {σ with mode:=m}):=RB.tail h;show RB c σ ((jM rec t>>=λ_=>(Pure.pure ():M Unit)) {σ with mode:=m});revert A;cases(jM rec t>>=λ_=>(Pure.pure ():M Unit)) {σ with mode:=m} with
 |ok u σ2=>rintro⟨k,l,d,q⟩;exact⟨k,l,⟨d.gH,d.pL,d.qH,d.oO,d.wt,d.wz,d.nm⟩,q⟩
 |stop c p=>exact λh=>h
 |stuck=>exact λh=>h
def rq.mode (h:rq σ) (m:Nat) (d:pT m=true):rq {σ with mode:=m}:=⟨h.iv.mq rfl rfl rfl rfl rfl rfl rfl,h.ne,d⟩
def Cs (l:Bool) (n:Nat) (t:gz) (B:uA t) (h:rq σ) (J:GL σ t) (hw:wt σ < 999000):RB 360 σ (gR l (n+3) 6 t σ):=by
 obtain⟨a,b,k,gx⟩:=t;cases k with
 |lost=>exact absurd rfl B.nl
 |jW s=>
  have C:jX ku ⟨a,b,.jW s,gx⟩= .gZ 110:=by
   unfold jX;dsimp only;split<;>rfl
  rw[iD l (n+2) 6 _ B.nl ku rfl _ C];exact(JS h hw B.sz).mono (by omega)
 |gJ s=>
  rw[iD l (n+2) 6 _ B.nl ku rfl (.gJ 95 true) rfl];show RB 360 σ (xC 95 true _ σ);rw[yo];exact RB.mono (c:=1) ((Fs h.iv mU (Aa h.iv h.ne) _ hw).rb h.ne h.md) (by omega)
 |iH s q=>
  rw[iD l (n+2) 6 _ B.nl ku rfl .nothing rfl];exact(rK h.iv h.Wp).mono (by omega)
 |ie=>
  rw[iD l (n+2) 6 _ B.nl ku rfl .nothing rfl];exact(rK h.iv h.Wp).mono (by omega)
 |start nm=>
  have d:nM σ ⟨a,b,.start nm,gx⟩:=J.tag rfl;cases hl:oW lZ nm with
  |none=>
   have C:jX ku ⟨a,b,.start nm,gx⟩= .gZ 112:=by
    show kq [((oW lZ nm).getD .nil),_,_]=_;rw[hl];rfl
   rw[iD l (n+2) 6 _ B.nl ku rfl _ C];exact(KD h hw d).mono (by omega)
  |some r=>
   obtain⟨p,E,u,e⟩:=vu hl;have C:r≠ .nil->jX ku ⟨a,b,.start nm,gx⟩=r:=by
    intro D;show kq [((oW lZ nm).getD .nil),_,_]=_;rw[hl];cases r<;>first|rfl|exact absurd rfl D
   have go:∀A,r=A->A≠ .nil->RB 360 σ (pk l (gR true (n+2)) (gR l (n+2)) A ⟨a,b,.start nm,gx⟩ σ)->RB 360 σ (gR l (n+3) 6 ⟨a,b,.start nm,gx⟩ σ):=by
    intro A e1 e2 G;rw[iD l (n+2) 6 _ B.nl ku rfl A (by rw[<-e1];exact C (by rw[e1];exact e2))];exact G
   unfold lZ at E;simp only[se,sg,sV]at E;rcases E with rfl|rfl|rfl|rfl|rfl|rfl|rfl|rfl|rfl|rfl|rfl|rfl|rfl|rfl|rfl|rfl|rfl|rfl|rfl|rfl|rfl
   all_goals refine go _ e.symm (by intro F;cases F) ?_
   all_goals dsimp only at u
   all_goals first
    |exact(Jj h hw d).mono (by omega)
    |exact(NC h hw d (Ie u)).mono (by omega)
    |exact(B9 h hw d (by rcases ad2 u with e|e<;>(show qX nm=true;rw[e];kernel_rfl))).mono (by omega)
    |exact(NB h hw d (Ie u)).mono (by omega)
    |exact(NE h hw d).mono (by omega)
    |exact(Jl h hw d).mono (by omega)
    |exact(Jk h hw d).mono (by omega)
    |exact(EJ h hw d).mono (by omega)
    |exact(KF h hw d).mono (by omega)
    |exact(Jg h hw d).mono (by omega)
    |exact(aak h hw d _ (by kernel_rfl)).mono (by omega)
    |exact(Nz h hw d (Ie u)).mono (by omega)
    |exact(SE h hw d).mono (by omega)
    |exact(Gn h hw d).mono (by omega)
    |exact(Qm h hw d).mono (by omega)
    |exact(Kv h hw d).mono (by omega)
    |exact(rK h.iv h.Wp).mono (by omega)
    |exact(O3 h d.fr).mono (by omega)
    |exact(O2 h d.fr).mono (by omega)
    |exact(TA l (n+1) a b nm gx (by have:=MN u;simp at this;exact this) h d.fr hw).mono (by omega)
    |skip
 |stop nm=>
  cases hl:oW lY nm with
  |none=>
   have C:jX ku ⟨a,b,.stop nm,gx⟩= .gZ 114:=by
    show kq [((oW lY nm).getD .nil),_,_]=_;rw[hl];rfl
   rw[iD l (n+2) 6 _ B.nl ku rfl _ C];have I:hH [fP] nm=false:=IA hl ([fP],.gZ 200) (by unfold lY;simp);exact(OK h (by
    show nm≠_;rintro rfl;rw[xJ]at I;exact aee I rfl)).mono (by omega)
  |some r=>
   obtain⟨p,E,u,e⟩:=vu hl;have C:r≠ .nil->jX ku ⟨a,b,.stop nm,gx⟩=r:=by
    intro D;show kq [((oW lY nm).getD .nil),_,_]=_;rw[hl];cases r<;>first|rfl|exact absurd rfl D
   have go:∀A,r=A->A≠ .nil->RB 360 σ (pk l (gR true (n+2)) (gR l (n+2)) A ⟨a,b,.stop nm,gx⟩ σ)->RB 360 σ (gR l (n+3) 6 ⟨a,b,.stop nm,gx⟩ σ):=by
    intro A e1 e2 G;rw[iD l (n+2) 6 _ B.nl ku rfl A (by rw[<-e1];exact C (by rw[e1];exact e2))];exact G
   unfold lY at E;simp only[se,sg,sV]at E;rcases E with rfl|rfl|rfl|rfl|rfl|rfl|rfl|rfl|rfl|rfl
   all_goals refine go _ e.symm (by intro F;cases F) ?_
   all_goals dsimp only at u
   .exact(ME h).mono (by omega)
   .exact(Eb (t:=⟨a,b,.stop nm,gx⟩) h hw u).mono (by omega)
   .exact(RA h).mono (by omega)
   .exact(OH h hw).mono (by omega)
   .exact(Z3 h hw).mono (by omega)
   .exact(RE h).mono (by omega)
   .exact(J3 h).mono (by omega)
   .exact(OG h (by
     show nm≠_;rintro rfl;revert u;simp[hH,kh,sD])).mono (by omega)
   .have H:=Ie u;subst H;show RB 360 σ (yv (gR l (n+2)) ⟨a,b,.stop _,gx⟩ σ);unfold yv;split
    .refine yL ?_;rw[iD l (n+1) 16 _ B.nl vj rfl (.gZ 145) (by kernel_rfl)];exact⟨(h.mode 16 rfl).iv.mq rfl rfl rfl rfl rfl rfl rfl,⟨h.ne,.inl rfl⟩,⟨rfl,rfl,rfl,rfl,ly _,λ_ h=> .inl h,λ_ _ h=>h⟩,jH (nf (jh rfl)) (y7 _ _)⟩
    .exact(rK h.iv h.Wp).mono (by omega)
   .exact(Ry h).mono (by omega)
end
end Go.Proofs.YtccjlklnkhagdaaGreatDoor
