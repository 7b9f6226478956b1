import Derived.Test.YtcalkelgoekpfaaGreatDoorOfZ
import Derived.RegionDies
set_option linter.unusedSimpArgs false
set_option linter.unusedVariables false
set_option linter.defProp false
set_option linter.unusedSectionVars false
set_option maxHeartbeats 0
set_option maxRecDepth 100000
namespace Go.Proofs.YtcalkelgoekpfaaGreatDoor
open Go.RowKit Go.PlainAid Tryz
open _root_.ByteArray renaming data_extract→hQ,ext→gL,mk→eL,size→kw,size_extract→ev
open Below renaming heap_alloc→dc,heap_setCell→dE,refl→gB
open Lib renaming BuilderAt→o0,IsBuilder→gT,byteCells→en,hasPrefix→o7,replaceAll→eB,replaceK→fu,replaceNum→hU,size_eq→o8,strCells→hP,trimPrefix→kn
open Result renaming andThen→da
open Pure renaming pure→aG
open Option renaming some→H,none→F,isSome_iff_exists→dh,map_eq_some_iff→eM
open Bool renaming true→C,false→I
open List renaming length→ln,all_eq_true→dm,countP_eq_length_filter→vo,erase_cons_head→vH,erase_cons_tail→vt,erase_sublist→po,findIdx_lt_length_of_exists→ud,getElem?_drop→pr,getElem?_eq_some_iff→dG,getElem_idxOf→uf,head?_eq_getElem?→ki,length_erase_le→uX,length_pos_iff→kt,mem_append→dA,mem_of_mem_head?→uc,mem_reverse→dU,mem_singleton→cC,ne_nil_of_mem→ul,nodup_cons→kp,pairwise_append→pb,pairwise_iff_getElem→lP,take_append_drop→fA
open _root_.Array renaming size→zq,getElem?_eq_some_iff→dD
open Go renaming undef→qu
def xL:=@Array.length_toList
def RD:=@Array.eq_empty_of_size_eq_zero
def RE:=@Lib.run_neq_ptr_same
def zk:=@Eq.trans
def ak9:=@ki
def Mr:=@List.take_sublist
def XS:=@List.mem_erase_of_ne
def XT:=@List.mem_of_mem_take
def GN:=@List.getElem?_of_mem
def zl:=@Nat.le_add_right
section
variable {L bY:iB}{P:pj Unit->Prop}{Q:Unit->N->Prop}{R:RC}{a b bg c c' c1 c2 f i j lg m n pf K:Nat}{base:Int}{e:mh}{inV:Bool}{ks:List Nd}{look:O->Option O}{nm s:O}{o:Ru}{pl:Nat×Nat}{r:Nat->Nat}{sp:kR}{t:dj}{w U:J}{x y z:fW}{xs ys:iU}{X W σ1:N}
def wg(a:Int)(s:O)(i:Nat):Nat:=gZ (λc=>decide (jF c>=a)) s i
def nH(a:Int)(s:O)(f:Nat):Nat:=
 if wg a s f=f then 0 else if wg a s f<s.size/\bt s (wg a s f)=59 then wg a s f+1 else wg a s f
def Oi(s:O):Bool:=decide (2<s.size/\(bt s 2=120\/bt s 2=88))
def rD(s:O):Nat:=if Oi s=C then nH 16 s 3 else nH 10 s 2
theorem Oy(h:f<=s.size):nH base s f<=s.size:=by grind[oB,nH,wg]
theorem Xb(h:2<=s.size):rD s<=s.size:=by unfold rD;split;grind[Oy,Oi];grind[Oy]
def wy(a:Int)(s:O)(k:Int)(i:Nat):Int:=
 if i<s.size then (if jF (bt s i)>=a then k else wy a s (min (k*a+jF (bt s i)) 1114112) (i+1))else k
  termination_by s.size-i
theorem T1{k:Int}(h:¬i<s.size):wy base s k i=k:=by grind[wy]
theorem Oz{k:Int}(h:i<s.size)(d:jF (bt s i)>=base):wy base s k i=k:=by grind[wy]
theorem YZ{k:Int}(h:i<s.size)(d:¬jF (bt s i)>=base):wy base s (min (k*base+jF (bt s i)) 1114112) (i+1)=wy base s k i:=by grind[wy]
def M8(a:Int)(s:O)(f:Nat):O:=if nH a s f=0 then ⟨#[]⟩else Utf8.encode (NS (wy a s 0 f))
def rE(s:O):O:=if Oi s=C then M8 16 s 3 else M8 10 s 2
theorem M9(s:O):(rE s).size<=16:=by
 unfold rE M8
 repeat' split
 all_goals first|exact(by
   unfold Utf8.encode;dsimp only
   repeat' split
   all_goals first|(show 1<=16;omega)|(show 2<=16;omega)|(show 3<=16;omega)|(show 4<=16;omega))|(show 0<=16;omega)
theorem qD{t a:O}{d:Nat}{m:Int}(h:t=a)(g:n=d)(k:m=(d:Int)):Ending.returned (.tuple #[Y t,G m])=ff (.tuple #[Y a,G n]):=by grind
theorem Ly(s:O)(w:J)(P:s.size<=1048576)(h2:2<=s.size):dS 256 #[Y s] w (JK w (.tuple #[Y (rE s),G (rD s)])):=by
 have Q:=get_bt s;obtain⟨rs,R,aa⟩:∃rs:Int->O,(∀c,rs c=Utf8.encode c)/\∀(c:Int)(w:J),(convert 21 9 (.int .i32 c)).run prog w=.ok (Y (rs c)) w:=⟨_,λ_=>D,λc w=>run_convert_int_string w 21 9 .i32 c (by simp) underlying9⟩;have W:=V R;clear R;have ae:=(λc (b:0<=c) (h1:c<=255)=>aav c w b h1);have H:=(λn (b:0<=n) (h1:n<=1114112)=>MN n w b h1);by_cases f:Oi s=C
 .have e:rD s=nH 16 s 3:=by unfold rD;rw[dw f]
  have z:rE s=M8 16 s 3:=by unfold rE;rw[dw f]
  rw[e,z];clear e z;unfold Oi at f;have⟨y,a0⟩:=of_decide_eq_true f;clear f;obtain⟨T,B⟩:∃x,x=nH 16 s 3:=⟨_,D⟩;obtain⟨a,S⟩:∃x,x=M8 16 s 3:=⟨_,D⟩;have K:a=if T=0 then ⟨#[]⟩else Utf8.encode (NS (wy 16 s 0 3)):=by rw[S,B,M8]
  rw[<-B,<-S];have p:=V B;have u:=V K;clear B S K;rcases a0 with a0|a0
  all_goals
   go_enter func256,ntmps256;go_wp21
   go_loopw [6,7] (λN iv wr=>wr=w/\∃(k:Int)(i:Nat),N=G k/\iv=G i/\0<=k/\k<=1114112/\3<=i/\i<=s.size/\wg 16 s i=wg 16 s 3/\wy 16 s k i=wy 16 s 0 3) (λ_ iv _=>s.size-(intOf iv).toNat)
   case atStart=>grind
   case round=>
    obtain⟨rfl,k,i,rfl,rfl,a1,a2,a8,a9,hd,F⟩:=hrel;have j:=V hd;have o:=V F;clear hd F;by_cases l:i<s.size
    .have hb:=Q i l;have b:=bt_nonneg s i;have h1:=bt_le s i;have r:=D0 (bt s i);have ad:=ae (bt s i) b h1;by_cases X:jF (bt s i)>=16
     .have e1:wg 16 s i=i:=E8 (by simpa using X);have e2:wg 16 s 3=i:=by rw[<-j.out,e1]
      have A:wy 16 s 0 3=k:=by rw[<-o.out,Oz l X]
      by_cases E:i=3
      .have g:T=0:=by rw[p.out];unfold nH;rw[e2,dw E]
       have q:=V g;have v:=V (show a=⟨#[]⟩ by rw[u.out,dw g]);clear e1 e2 g A;subst E;go_wp21;refine ad.mono ?_;rintro e U⟨rfl,rfl⟩;go_wp2;go_ret2;exact⟨qD v.symm q D,D⟩
      .have m:=H k a1 a2;by_cases a3:bt s i=59;have g:T=i+1:=by rw[p.out];unfold nH;rw[e2,di E,dw ⟨l,a3⟩]
       have q:=V g;have v:=V (show a=rs (NS k) by rw[u.out,di (by omega),A,W.out]);rw[a3]at ad hb b h1 r X;rw[show jF 59=99 from by decide]at ad;clear e1 e2 g A r X b h1
       rotate_left
       have g:T=i:=by rw[p.out];unfold nH;rw[e2,di E,di (by omega)]
       have q:=V g;have v:=V (show a=rs (NS k) by rw[u.out,di (by omega),A,W.out]);clear e1 e2 g A
       all_goals
        go_wp21;refine ad.mono ?_;rintro e U⟨rfl,rfl⟩;go_wp21;refine m.mono ?_;rintro e U⟨rfl,rfl⟩;go_wp2;go_ret2;exact⟨qD v.symm q D,D⟩
     .have e1:wg 16 s (i+1)=wg 16 s 3:=by rw[<-j.out];exact(E7 l (by simpa using X)).symm
      have L:wy 16 s (min (k*16+jF (bt s i)) 1114112) (i+1)=wy 16 s 0 3:=by rw[YZ l X,o.out]
      have q:=V e1;clear e1;generalize jF (bt s i)=d at *;go_wp21;refine ad.mono ?_;rintro e U⟨rfl,rfl⟩;go_wp2
      all_goals (refine⟨⟨trivial,min (k*16+d) 1114112,i+1,?_,by go_num,by omega,by omega,by omega,by omega,q,L⟩,?_⟩;(first|rfl|(congr 1;omega));(simp[intOf];omega))
    .have e1:wg 16 s i=i:=E6 (by omega);have e2:wg 16 s 3=i:=by rw[<-j.out,e1]
     have A:wy 16 s 0 3=k:=by rw[<-o.out,T1 l]
     have m:=H k a1 a2;have t:i=s.size:=by omega
     by_cases E:i=3
     .have g:T=0:=by rw[p.out];unfold nH;rw[e2,dw E]
      have q:=V g;have v:=V (show a=⟨#[]⟩ by rw[u.out,dw g]);clear e1 e2 g A t;subst E
      first
       |(exfalso;omega)
       |(go_wp2
         go_ret2;exact⟨qD v.symm q D,D⟩)
     .have g:T=i:=by rw[p.out];unfold nH;rw[e2,di E,di (by omega)]
      have q:=V g;have v:=V (show a=rs (NS k) by rw[u.out,di (by omega),A,W.out]);clear e1 e2 g A t;go_wp21;refine m.mono ?_;rintro e U⟨rfl,rfl⟩;go_wp2;go_ret2;exact⟨qD v.symm q D,D⟩
 .have e:rD s=nH 10 s 2:=by unfold rD;rw[di f]
  have z:rE s=M8 10 s 2:=by unfold rE;rw[di f]
  rw[e,z];clear e z;have y:¬(2<s.size/\(bt s 2=120\/bt s 2=88)):=by unfold Oi at f;simpa using f
  clear f;obtain⟨T,B⟩:∃x,x=nH 10 s 2:=⟨_,D⟩;obtain⟨a,S⟩:∃x,x=M8 10 s 2:=⟨_,D⟩;have K:a=if T=0 then ⟨#[]⟩else Utf8.encode (NS (wy 10 s 0 2)):=by rw[S,B,M8]
  rw[<-B,<-S];have p:=V B;have u:=V K;clear B S K;by_cases hz:2<s.size
  .have a0:¬bt s 2=120:=λh=>y ⟨hz,.inl h⟩;have Z:¬bt s 2=88:=λh=>y ⟨hz,.inr h⟩;have ab:(bt s 2==120)=I:=beq_eq_false_iff_ne.2 a0;have ac:(bt s 2==88)=I:=beq_eq_false_iff_ne.2 Z;clear y a0 Z;go_enter func256,ntmps256;go_wp21
   go_loopw [6,7] (λN iv wr=>wr=w/\∃(k:Int)(i:Nat),N=G k/\iv=G i/\0<=k/\k<=1114112/\2<=i/\i<=s.size/\wg 10 s i=wg 10 s 2/\wy 10 s k i=wy 10 s 0 2) (λ_ iv _=>s.size-(intOf iv).toNat)
   case atStart=>grind
   case round=>
    obtain⟨rfl,k,i,rfl,rfl,a1,a2,a8,a9,hd,F⟩:=hrel;have j:=V hd;have o:=V F;clear hd F;by_cases l:i<s.size
    .have hb:=Q i l;have b:=bt_nonneg s i;have h1:=bt_le s i;have r:=D0 (bt s i);have ad:=ae (bt s i) b h1;by_cases X:jF (bt s i)>=10
     .have e1:wg 10 s i=i:=E8 (by simpa using X);have e2:wg 10 s 2=i:=by rw[<-j.out,e1]
      have A:wy 10 s 0 2=k:=by rw[<-o.out,Oz l X]
      by_cases E:i=2
      .have g:T=0:=by rw[p.out];unfold nH;rw[e2,dw E]
       have q:=V g;have v:=V (show a=⟨#[]⟩ by rw[u.out,dw g]);clear e1 e2 g A;subst E;go_wp21;refine ad.mono ?_;rintro e U⟨rfl,rfl⟩;go_wp2;go_ret2;exact⟨qD v.symm q D,D⟩
      .have m:=H k a1 a2;by_cases a3:bt s i=59;have g:T=i+1:=by rw[p.out];unfold nH;rw[e2,di E,dw ⟨l,a3⟩]
       have q:=V g;have v:=V (show a=rs (NS k) by rw[u.out,di (by omega),A,W.out]);rw[a3]at ad hb b h1 r X;rw[show jF 59=99 from by decide]at ad;clear e1 e2 g A r X b h1
       rotate_left
       have g:T=i:=by rw[p.out];unfold nH;rw[e2,di E,di (by omega)]
       have q:=V g;have v:=V (show a=rs (NS k) by rw[u.out,di (by omega),A,W.out]);clear e1 e2 g A
       all_goals
        go_wp21;refine ad.mono ?_;rintro e U⟨rfl,rfl⟩;go_wp21;refine m.mono ?_;rintro e U⟨rfl,rfl⟩;go_wp2;go_ret2;exact⟨qD v.symm q D,D⟩
     .have e1:wg 10 s (i+1)=wg 10 s 2:=by rw[<-j.out];exact(E7 l (by simpa using X)).symm
      have L:wy 10 s (min (k*10+jF (bt s i)) 1114112) (i+1)=wy 10 s 0 2:=by rw[YZ l X,o.out]
      have q:=V e1;clear e1;generalize jF (bt s i)=d at *;go_wp21;refine ad.mono ?_;rintro e U⟨rfl,rfl⟩;go_wp2
      all_goals (refine⟨⟨trivial,min (k*10+d) 1114112,i+1,?_,by go_num,by omega,by omega,by omega,by omega,q,L⟩,?_⟩;(first|rfl|(congr 1;omega));(simp[intOf];omega))
    .have e1:wg 10 s i=i:=E6 (by omega);have e2:wg 10 s 2=i:=by rw[<-j.out,e1]
     have A:wy 10 s 0 2=k:=by rw[<-o.out,T1 l]
     have m:=H k a1 a2;have t:i=s.size:=by omega
     by_cases E:i=2
     .have g:T=0:=by rw[p.out];unfold nH;rw[e2,dw E]
      have q:=V g;have v:=V (show a=⟨#[]⟩ by omega);clear e1 e2 g A t;subst E
      first
       |(exfalso;omega)
       |(go_wp2
         go_ret2;exact⟨qD v.symm q D,D⟩)
     .have g:T=i:=by rw[p.out];unfold nH;rw[e2,di E,di (by omega)]
      have q:=V g;have v:=V (show a=rs (NS k) by rw[u.out,di (by omega),A,W.out]);clear e1 e2 g A t;go_wp21;refine m.mono ?_;rintro e U⟨rfl,rfl⟩;go_wp2;go_ret2;exact⟨qD v.symm q D,D⟩
  .clear y;have n0:wg 10 s 2=2:=E6 (by omega);have M:T=0:=by rw[p.out];unfold nH;rw[dw n0]
   have n2:a=⟨#[]⟩:=by rw[u.out,dw M]
   have t:s.size=2:=by omega
   have q:=V M;have v:=V n2;clear n0 M n2;go_enter func256,ntmps256;go_wp21;refine wK 1 ?_;rw[nP];go_wp2;go_ret2;exact⟨qD v.symm q D,D⟩
def quoted(R:RC)(q:O)(K:Nat):Nat:=fZ R q (gZ (fw q) R.A (K+1))
def qR(R:RC)(K:Nat):Nat:=
 if pre (R.A.extract K R.A.size) mg=C then quoted R mg K else if pre (R.A.extract K R.A.size) sB=C then quoted R sB K else gZ (fw ku) R.A K
def OG{q:O}(h:K<R.A.size):quoted R q K<=R.A.size:=U1 (oB (by omega))
theorem abh{q:O}:K<=quoted R q K:=gR (by omega) (gR (rI) U0)
def QQ{p:O}(h:pre (s.extract K s.size) p=C)(d:K<=s.size)(g:0<p.size):K<s.size:=by have:=jO h d;omega
theorem abk(h:K<=R.A.size):qR R K<=R.A.size:=by unfold qR;split;rename_i d;exact OG (QQ d h (by decide));split;rename_i d;exact OG (QQ d h (by decide));grind[oB]
theorem abj:K<=qR R K:=by grind[rI,abh,qR]
def lH(R:RC)(K:Nat):O:=
 if pre (R.A.extract K R.A.size) mg=C then R.A.extract (K+1) (gZ (fw mg) R.A (K+1))else if pre (R.A.extract K R.A.size) sB=C then R.A.extract (K+1) (gZ (fw sB) R.A (K+1))else R.A.extract K (gZ (fw ku) R.A K)
theorem Di:(lH R K).size<=R.A.size:=by grind[ev,lH]
def Lx(r:Nat)(R:RC)(c K:Nat)(q:O)(S:q.size=1)(w w1:J)(a:Z [r] w w1)(h:Rd w1 r R c (K+1))(v:K+1<=R.A.size)(A:R.A.size<=1024):dS 252 #[dq r,.func (.func 254) #[] #[dq w1.heap.size]] (w1.alloc (.cells #[Y q] 9))
   λe p=>e=ff (Y (R.A.extract (K+1) (gZ (fw q) R.A (K+1))))/\
    dS 85 #[dq r,Y q] p λe u=>(∃b,e=ff (.bool b))/\Z [r] w u/\Rd u r R c (quoted R q K):=by
 refine(zh r R c _ q w1 h v A).mono ?_;rintro e p⟨B,d,k⟩;refine⟨B,((jQ r R c _ q p k (oB v) A (by omega)).mono ?_)⟩;rintro e u⟨E,g,l⟩;exact⟨⟨_,E⟩,(a.trans d).trans g,l⟩
theorem QW(r:Nat)(R:RC)(f K:Nat)(w:J)(h:Rd w r R f K)(i:K<=R.A.size)(P:R.A.size<=1024):dS 359 #[dq r] w λe U=>e=ff (Y (lH R K))/\Z [r] w U/\Rd U r R f (qR R K):=by
 have M:=fp h;obtain⟨a,q⟩:∃a,a=w.alloc (.cells #[Y mg,Y sB] 9):=⟨_,D⟩;have j:Z [] w a:=by rw[q];exact(Z.refl _ _).alloc _
 have n:a.heap[zq w.heap]?=H (dr #[Y mg,Y sB] 9):=by rw[q];exact aY w _
 have z:Rd a r R f K:=j.at h (by simp);have C:zq w.heap<zq a.heap:=fp n;have p:=V q.symm;clear q;have W:=jQ r R f K mg a z i P (by decide);have X:=(λU (h:Rd U r R f K)=>jQ r R f K sB U h i P (by decide));have c0:=aF n 0;dsimp at c0;have x:=V n;have y:=V C;clear h n C z;cases h1:pre (R.A.extract K R.A.size) mg
 .have T:fZ R mg K=K:=by unfold fZ;rw[di (by simp[h1])]
  rw[h1,T]at W;cases h2:pre (R.A.extract K R.A.size) sB
  .have k2:fZ R sB K=K:=by unfold fZ;rw[di (by simp[h2])]
   rw[h2,k2]at X;have u:qR R K=gZ (fw ku) R.A K:=by unfold qR;rw[di (by simp[h1]),di (by simp[h2])]
   have c:=(λU (h:Rd U r R f K)=>zh r R f K ku U h i P);rw[<-u]at c;have v:lH R K=R.A.extract K (qR R K):=by unfold lH;rw[di (by simp[h1]),di (by simp[h2]),u]
   rw[v];clear h1 h2 T k2 u v;generalize qR R K=m at *;go_enter func359,ntmps359;go_wp21;refine wK 3 ?_;rw[nP,p.out];go_wp21;refine W.mono ?_;rintro e l⟨rfl,g,B⟩;have c1:l.cell? ⟨zq w.heap,1,F⟩=H (Y sB):=by rw[g.cell (p:=⟨zq w.heap,1,F⟩) y.out (by simp;omega),aF x.out];rfl
   have A:=(j.mono (S':=[r]) (by simp)).trans g;clear g;go_wp21;rw[nP];go_wp21;refine(X _ B).mono ?_;rintro e S⟨rfl,d,a3⟩;have a1:=A.trans d;clear d;go_wp21;rw[nP];go_wp21;refine(nI _ S).mono ?_;rintro e U⟨rfl,rfl⟩;go_wp21;refine(c _ a3).mono ?_;rintro e w3⟨rfl,a0,L⟩;have I:=a1.trans a0;clear a0;go_wp2;go_ret;simp_all
  .have k2:fZ R sB K=K+1:=by unfold fZ;rw[dw h2];rfl
   rw[h2,k2]at X;have u:qR R K=quoted R sB K:=by unfold qR;rw[di (by simp[h1]),dw h2]
   have v:lH R K=R.A.extract (K+1) (gZ (fw sB) R.A (K+1)):=by unfold lH;rw[di (by simp[h1]),dw h2]
   rw[u,v];have E:=QQ h2 i (by decide);clear h1 h2 T k2 u v;have c:=(λl (hk:Z [r] w l) (h:Rd l r R f (K+1))=>Lx r R f K sB D w l hk h E P);generalize R.A.extract (K+1) (gZ (fw sB) R.A (K+1))=t at *;generalize quoted R sB K=m at *;go_enter func359,ntmps359;go_wp21;refine wK 3 ?_;rw[nP,p.out];go_wp21;refine W.mono ?_;rintro e l⟨rfl,g,B⟩;have c1:l.cell? ⟨zq w.heap,1,F⟩=H (Y sB):=by rw[g.cell (p:=⟨zq w.heap,1,F⟩) y.out (by simp;omega),aF x.out];rfl
   have A:=(j.mono (S':=[r]) (by simp)).trans g;clear g;go_wp21;rw[nP];go_wp21;refine(X _ B).mono ?_;rintro e S⟨rfl,d,k⟩;have s:=c S (A.trans d) k;clear d k;go_wp21;refine(nI _ S).mono ?_;rintro e U⟨rfl,rfl⟩;go_wp21;refine s.mono ?_;rintro e w3⟨rfl,o⟩;go_wp21;refine o.mono ?_;rintro e w4⟨⟨b,rfl⟩,a2,G⟩;go_wp2;go_ret;simp_all
 .have T:fZ R mg K=K+1:=by unfold fZ;rw[dw h1];rfl
  rw[h1,T]at W;have u:qR R K=quoted R mg K:=by unfold qR;rw[dw h1]
  have v:lH R K=R.A.extract (K+1) (gZ (fw mg) R.A (K+1)):=by unfold lH;rw[dw h1]
  rw[u,v];have E:=QQ h1 i (by decide);clear h1 T u v X;have c:=(λl (hk:Z [r] w l) (h:Rd l r R f (K+1))=>Lx r R f K mg D w l hk h E P);generalize R.A.extract (K+1) (gZ (fw mg) R.A (K+1))=t at *;generalize quoted R mg K=m at *;go_enter func359,ntmps359;go_wp21;refine wK 3 ?_;rw[nP,p.out];go_wp21;refine W.mono ?_;rintro e S⟨rfl,d,k⟩;have s:=c S ((j.mono (S':=[r]) (by simp)).trans d) k;clear d k;go_wp21;refine(nI _ S).mono ?_;rintro e U⟨rfl,rfl⟩;go_wp21;refine s.mono ?_;rintro e w3⟨rfl,o⟩;go_wp21;refine o.mono ?_;rintro e w4⟨⟨b,rfl⟩,a2,G⟩;go_wp2;go_ret;simp_all
def Ts(s:O):Bool:=decide (0<s.size)&&(decide (bt s 0=61)||decide (97<=bt s 0/\bt s 0<=122\/65<=bt s 0/\bt s 0<=90)||decide (48<=bt s 0/\bt s 0<=57))
theorem WD(s:O)(w:J):dS 309 #[Y s] w λe U=>e=ff (.bool (Ts s))/\U=w:=by
 have d:=get_bt s;by_cases p:0<s.size
 .have g:=bt_nonneg s 0;have k:=bt_le s 0;have B:=d 0 p;have l:s.toList.isEmpty=I:=by
   rw[th];cases h:s.data.toList with
   |nil=>
    exfalso;have e1:ln s.data.toList=0:=by rw[h];rfl
    rw[xL]at e1;have e2:s.data.size=s.size:=rfl;omega
   |cons=>rfl
  have v:¬s.toList=[]:=by intro h;rw[h]at l;cases l
  have L:=KY (bt s 0) w g k;have E:=JV (bt s 0) w g k;have u:Ts s=(decide (bt s 0=61)||decide (97<=bt s 0/\bt s 0<=122\/65<=bt s 0/\bt s 0<=90)||decide (48<=bt s 0/\bt s 0<=57)):=by unfold Ts;simp[p]
  rw[u];by_cases a:bt s 0=61
  .rw[show decide (bt s 0=61)=C from by simp[a]];go_enter func309,ntmps309;go_wp2;go_ret;simp
  .rw[show decide (bt s 0=61)=I from by simp[a]];have A:(bt s 0==61)=I:=beq_eq_false_iff_ne.2 a;cases hl:decide (97<=bt s 0/\bt s 0<=122\/65<=bt s 0/\bt s 0<=90)
   .rw[hl]at L;cases hd:decide (48<=bt s 0/\bt s 0<=57)
    all_goals
     rw[hd]at E;go_enter func309,ntmps309;go_wp21;refine L.mono ?_;rintro e U⟨rfl,rfl⟩;go_wp21;refine E.mono ?_;rintro e U⟨rfl,rfl⟩;go_wp2;go_ret;simp
   .rw[hl]at L;go_enter func309,ntmps309;go_wp21;refine L.mono ?_;rintro e U⟨rfl,rfl⟩;go_wp2;go_ret;simp
 .have q:s=⟨#[]⟩:=rW (RD (by simp_all));subst q;go_enter func309,ntmps309;go_wp2;go_ret;exact⟨D,D⟩
def pu(a:O->Option O)(s:O)(b:Bool):Nat->Nat
 |0=>0
 |k+1=>if (a (s.extract 1 (1+(k+1)))).isSome=C then (if (b&&decide (bt s (k+1)≠59)&&Ts (s.extract (1+(k+1)) s.size))=C then 0 else 1+(k+1))else pu a s b k
theorem aa9{k:Nat}:pu look s inV k<=k+1:=by
 induction k with
 |zero=>simp[pu]
 |succ k ih=>
  grind[pu]
def pZ(a:O->Option O)(s:O)(b:Bool):Nat->O
 |0=>⟨#[]⟩
 |k+1=>if (a (s.extract 1 (1+(k+1)))).isSome=C then (if (b&&decide (bt s (k+1)≠59)&&Ts (s.extract (1+(k+1)) s.size))=C then ⟨#[]⟩else (a (s.extract 1 (1+(k+1)))).getD ⟨#[]⟩)else pZ a s b k
theorem QF{k:Nat}(h:IM look):(pZ look s inV k).size<=16:=by
 induction k with
 |zero=>exact eZ _
 |succ k ih=>
  unfold pZ;split;split;exact eZ _;grind[dh];omega
def Uq(b lg:Nat)(c:O->Option O)(s:O)(f:Bool)(w:J)(y:Lk w b c)(ab:lg<=1048576)(P:s.size<=1048576)(h1:1<=s.size):dS 257 #[.agg #[.map (H b),G lg],Y s,.bool f] w (vc w (.tuple #[Y (pZ c s f (min lg (s.size-1))),G (pu c s f (min lg (s.size-1)))])):=by
 have I:=get_bt s;have z:=y;clear y;obtain⟨k0,E⟩:∃k0,k0=min lg (s.size-1):=⟨_,D⟩;have N:min (lg:Int) ((s.size:Int)-1)=(k0:Int):=by rw[E];omega
 have a2:k0<=s.size-1:=by rw[E];exact Nat.min_le_right ..
 rw[<-E];clear E;obtain⟨m,n⟩:∃m,m=pu c s f k0:=⟨_,D⟩;rw[<-n];obtain⟨A,r⟩:∃A,A=pZ c s f k0:=⟨_,D⟩;rw[<-r];have L:∀wr,Z [zq w.heap] (w.alloc (.cells #[.map (H b),G lg] 160)) wr->True:=λ_ _=>trivial;clear L;go_enter func257,ntmps257;go_wp21
 go_loopw [8] (λv wr=>∃k:Nat,v=G k/\k<=s.size-1/\pu c s f k=m/\pZ c s f k=A/\Z [] (w.alloc (.cells #[.map (H b),G lg] 160)) wr) (λv _=>(intOf v).toNat)
 case atStart=>exact⟨k0,by rfl,a2,n.symm,r.symm,Z.refl _ _⟩
 case round=>
  obtain⟨k,rfl,hk,a3,x,p⟩:=hrel;have i:=V a3;have W:=V x;have X:=aY w (.cells #[.map (H b),G lg] 160);have c0:=aF (p.at X (by simp)) 0;dsimp at c0;have ac:zq w.heap<zq wr.heap:=fp (p.at X (by simp));have u:Hid (Lk wr b c):=(z.kept ((Z.refl [] w).alloc _) (by simp)).kept p (by simp);clear a3 x X;cases k with
  |zero=>
   have S:m=0:=i.symm;have T:=(show A=⟨#[]⟩from W.symm);go_wp2;go_ret2;exact⟨qD T.symm S D,((Z.refl [] w).alloc _).trans p⟩
  |succ j=>
   have a1:=u.lt;have K:=u.run (s.extract 1 (1+(j+1))) wr D;have l:=u.run (s.extract 1 (1+(j+1))) wr.drew D;have g:=λo=>u.run (s.extract 1 (1+(j+1))) (wr.alloc o) (dc wr o b a1);have d:=λo=>u.run (s.extract 1 (1+(j+1))) (wr.alloc o).drew (dc wr o b a1);cases hlo:c (s.extract 1 (1+(j+1)))with
   |none=>
    rw[hlo]at K l;simp only[hlo]at g d;have F:pu c s f j=m:=by rw[<-i.out,pu,di (by simp[hlo])]
    have a0:=(show pZ c s f j=A by rw[<-W.out,pZ,di (by simp[hlo])]);clear hlo;simp only[Option.getD_none,Option.isSome_none]at K l g d;go_wp21;go_region
    all_goals (try go_wp2)
    exact⟨⟨j,D,by omega,F,a0,(p.alloc _).drew⟩,by simp[intOf]⟩
   |some t=>
    rw[hlo]at K l;simp only[hlo]at g d;have h:Hid (m=if (f&&decide (bt s (j+1)≠59)&&Ts (s.extract (1+(j+1)) s.size))=C then 0 else 1+(j+1)):=by rw[<-i.out,pu,dw (by simp[hlo])];exact D
    have B:Hid (A=if (f&&decide (bt s (j+1)≠59)&&Ts (s.extract (1+(j+1)) s.size))=C then ⟨#[]⟩else t):=by rw[<-W.out,pZ,dw (by simp[hlo]),hlo];exact D
    clear hlo;simp only[Option.getD_some,Option.isSome_some]at K l g d;have a:Hid (Z [] w (wr.alloc (.cells #[Y t] 204)).drew):=(((Z.refl [] w).alloc _).trans (p.alloc _)).drew;have M:j+1<s.size:=by omega
    have R:=I (j+1) M;cases f
    .have S:m=1+(j+1):=by rw[h.out];simp
     have T:=(show A=t by rw[B.out];simp);go_wp21;go_region
     all_goals (try go_wp2)
     all_goals (try go_ret2)
     all_goals exact⟨qD T.symm S D,a⟩
    .by_cases q:bt s (j+1)=59
     .have S:m=1+(j+1):=by rw[h.out];simp[q]
      have T:=(show A=t by rw[B.out];simp[q]);go_wp21;go_region
      all_goals (try go_wp2)
      all_goals (try go_ret2)
      all_goals exact⟨qD T.symm S D,a⟩
     .have Q:(bt s (j+1) != 59)=C:=by rw[bne_iff_ne];exact q
      have ad:=WD (s.extract (1+(j+1)) s.size) (wr.alloc (.cells #[Y t] 204)).drew;cases hg:Ts (s.extract (1+(j+1)) s.size);have S:m=1+(j+1):=by rw[h.out];simp[hg]
      have T:=(show A=t by rw[B.out];simp[hg])
      rotate_left
      have S:m=0:=by rw[h.out];simp[hg,q]
      have T:=(show A=⟨#[]⟩ by rw[B.out];simp[hg,q])
      all_goals
       rw[hg]at ad;clear hg q;go_wp21;go_region
       all_goals (try (go_wp21))
       all_goals (refine ad.mono ?_;rintro e U⟨rfl,rfl⟩)
       all_goals (try go_wp2)
       all_goals (try go_ret2)
       all_goals exact⟨qD T.symm S D,a⟩
def jc(a:O->Option O)(lg:Nat)(s:O)(b:Bool):Nat:=
 if pre s tk=C then rD s else if pre s uM=C then pu a s b (min lg (s.size-1))else 0
theorem Dj:jc look lg s inV<=s.size:=by unfold jc;split;rename_i h;exact Xb (Lu h);split;rename_i h;have d:1<=s.size:=Lu h;grind[aa9];simp
def kU(a:O->Option O)(lg:Nat)(s:O)(b:Bool):O:=
 if pre s tk=C then rE s else if pre s uM=C then pZ a s b (min lg (s.size-1))else ⟨#[]⟩
theorem xG(h:IM look):(kU look lg s inV).size<=16:=by unfold kU;split;grind[M9];split;grind[QF];exact eZ _
def Ur(b lg:Nat)(c:O->Option O)(s:O)(f:Bool)(w:J)(W:Lk w b c)(K:lg<=1048576)(v:s.size<=1048576):dS 164 #[.agg #[.map (H b),G lg],Y s,.bool f] w (vc w (.tuple #[Y (kU c lg s f),G (jc c lg s f)])):=by
 obtain⟨g,d⟩:∃g,g=w.alloc (.cells #[.map (H b),G lg] 160):=⟨_,D⟩;have p:g.heap[zq w.heap]?=H (dr #[.map (H b),G lg] 160):=by rw[d];exact aY w _
 have q:Z [] w g:=by rw[d];exact(Z.refl _ _).alloc _
 have a:=aF p 0;have c1:=aF p 1;dsimp at a c1;have B:=V d.symm;have T:=W.kept q (by simp);have k:=uj s tk g v (by decide);have u:=uj s uM g v (by decide);clear d;cases h1:pre s tk
 .rw[h1]at k;cases h2:pre s uM
  .rw[h2]at u;have e:jc c lg s f=0:=by unfold jc;rw[di (by simp[h1]),di (by simp[h2])]
   have l:kU c lg s f=⟨#[]⟩:=by unfold kU;rw[di (by simp[h1]),di (by simp[h2])]
   rw[e,l];go_enter func164,ntmps164;go_wp21;rw[B.out];refine k.mono ?_;rintro e U⟨rfl,rfl⟩;go_wp21;refine u.mono ?_;rintro e U⟨rfl,rfl⟩;go_wp2;go_ret2;exact⟨D,q⟩
  .rw[h2]at u;have S:1<=s.size:=Lu h2;have e:jc c lg s f=pu c s f (min lg (s.size-1)):=by unfold jc;rw[di (by simp[h1]),dw h2]
   have l:kU c lg s f=pZ c s f (min lg (s.size-1)):=by unfold kU;rw[di (by simp[h1]),dw h2]
   rw[e,l];have a0:=Uq b lg c s f g T K v S;generalize pu c s f (min lg (s.size-1))=m at *;generalize pZ c s f (min lg (s.size-1))=t at *;go_enter func164,ntmps164;go_wp21;rw[B.out];refine k.mono ?_;rintro e U⟨rfl,rfl⟩;go_wp21;refine u.mono ?_;rintro e U⟨rfl,rfl⟩;go_wp21;refine a0.mono ?_;rintro e X⟨rfl,E⟩;have A:=q.trans E;go_wp2;go_ret2;exact⟨D,A⟩
 .rw[h1]at k;have S:2<=s.size:=Lu h1;have e:jc c lg s f=rD s:=by unfold jc;rw[dw h1]
  have l:kU c lg s f=rE s:=by unfold kU;rw[dw h1]
  rw[e,l];have a0:=Ly s g v S;generalize rD s=m at *;generalize rE s=t at *;go_enter func164,ntmps164;go_wp21;rw[B.out];refine k.mono ?_;rintro e U⟨rfl,rfl⟩;go_wp21;refine a0.mono ?_;rintro e X⟨rfl,rfl⟩;go_wp2;go_ret2;exact⟨D,q⟩
def mx(a:O->Option O)(lg:Nat)(s:O):Nat:=if jc a lg s I=0 then 1 else jc a lg s I
theorem DT:0<mx look lg s:=by grind[mx]
theorem Hd(h:0<s.size):mx look lg s<=s.size:=by grind[Dj,mx]
def nu(a:O->Option O)(lg:Nat)(s:O):O:=if jc a lg s I=0 then s.extract 0 1 else kU a lg s I
structure IP(w:J)(g n:Nat)(A:Nat->O×O):Prop where
 lt:0<n->g<zq w.heap
 nm:∀i,i<n->w.cell? ⟨g,i*2,F⟩=H (Y (A i).1)
 B:∀i,i<n->w.cell? ⟨g,i*2+1,F⟩=H (Y (A i).2)
theorem IP.kept{g:Nat}{A:Nat->O×O}{S:List Nat}(h:IP w g n A)(k:Z S w U)(l:g∉S):IP U g n A:=
 ⟨λp=>kQ (h.lt p) k.size,λi d=>(k.cell (h.lt (by omega)) l).trans (h.nm i d),λi d=>(k.cell (h.lt (by omega)) l).trans (h.B i d)⟩
def jZ(A:Nat->O×O)(n:Nat)(s:O)(i:Nat):Bool:=if i<n then (if ((A i).1.toList==s.toList)=C then C else jZ A n s (i+1))else I
  termination_by n-i
theorem ag4(x y:Int)(nm s:O)(g n K:Nat)(A:Nat->O×O)(w:J)(a:IP w g n A)(b:n<=1048576):dS 332 #[.agg #[G x,G y,Y nm,lO g n K],Y s] w (vc w (.bool (jZ A n s 0))):=by
 obtain⟨m,X⟩:∃m,m=jZ A n s 0:=⟨_,D⟩;rw[<-X];have W:=a;go_enter func332,ntmps332;go_wp21
 go_loopw [10] (λv wr=>∃k:Nat,v=G k/\k<=n/\jZ A n s k=m/\Z [] w wr) (λv _=>n-(intOf v).toNat)
 case atStart=>grind[Z.alloc,Z.refl]
 case round=>
  obtain⟨k,rfl,hk,T,B⟩:=hrel;have E:=V T;have p:=B;by_cases d:k<n
  .have U:=W.kept B (by simp);have a0:=U.nm k d;have a1:=U.B k d;clear T;cases he:((A k).1.toList==s.toList)
   .have e:jZ A n s (k+1)=m:=by rw[<-E.out,jZ.eq_1 A n s k,dw d,di (by simp[he])]
    have q:=V e;have S:¬(A k).1.toList=s.toList:=by simpa using he
    clear e;have l:=p.alloc (.cells #[Y (A k).1,Y (A k).2] 295);generalize (A k).1=u at *;generalize (A k).2=v at *;go_wp2;go_roundw
    case rel=>exact⟨k+1,by go_num,by omega,q,l⟩
    case measure=>simp[intOf];omega
   .have e:m=C:=by rw[<-E.out,jZ.eq_1 A n s k,dw d,dw he]
    have q:=V e;have S:(A k).1.toList=s.toList:=by simpa using he
    clear e;have l:=p.alloc (.cells #[Y (A k).1,Y (A k).2] 295);generalize (A k).1=u at *;generalize (A k).2=v at *;go_wp2;go_ret;exact⟨by rw[q.out];rfl,l⟩
  .have e:m=I:=by rw[<-E.out,jZ.eq_1 A n s k,di d]
   have q:=V e;clear e T;go_wp2;go_ret;exact⟨by rw[q.out];rfl,p⟩
theorem MO(B b:Nat)(bs:List dB)(w:J)(h:gT 96 5 B b bs w):dS 354 #[dq b] w λe U=>e=pG/\o0 96 5 B b (dq b) bs U/\Below B w U:=by
 obtain⟨j,d,g⟩:(∃j,prog.info? 96=H j/\j.size≠0):=by have h:((prog.info? 96).map λi=>i.size)=H 2:=rfl;grind[eM]
 rcases h with h|h
 .have q:=h.cell0;have A:=h.frozen0;have k:=h.used (dq b);have l:=(gB B w).setCell (p:=⟨b,0,F⟩) h.1 (dq b);have v:=k.cell0;have K:=Lib.run_to_unsafe (P:=prog) w (src:=94) (dst:=100) ⟨b,0,F⟩ underlying94 underlying100 d g h.shape (show 0<2 by decide);have E:=Lib.run_from_unsafe (P:=prog) w (src:=100) (dst:=94) ⟨b,0,F⟩ underlying100 underlying94 d h.shape (by kernel_rfl);have u:=RE (P:=prog) (w.setCell ⟨b,0,F⟩ (dq b)) (tp:=94) ⟨b,0,F⟩ underlying94 d;go_enter func354,ntmps354;go_wp2;rw[ZN func372 (by rfl) (by rfl) D (e:=Extern.AbiNoEscape.same) D];rw[Lib.run_noEscape];simp only[da];rw[Oper.upon_value];go_wp2;go_end0;grind
 .have q:=h.cell0;have k:=h;have l:=gB B w;have u:=RE (P:=prog) w (tp:=94) ⟨b,0,F⟩ underlying94 d;go_enter func354,ntmps354;go_wp2;go_end0;grind
theorem zz(B b:Nat)(bs:List dB)(s:O)(w:J)(h:gT 96 5 B b bs w)(a:ln bs+s.size<=1048576)(a2:B<=zq w.heap):dS 329 #[dq b,Y s] w λe U=>e=ff (.tuple #[G s.size,.nilIface])/\(o0 96 5 B b (dq b) (bs++hP s) U/\Below B w U):=by
 have⟨i0,hi,hz0,hz1,hz2⟩:=sZ Jk;have c:=h;go_enter func329,ntmps329;go_wp21;refine(MO B b bs _ c).mono ?_;rintro e w1⟨rfl,h1,A⟩;have⟨hB,v,hbk,hown,hne⟩:=h1;have c0:=aF hbk 0;have c1:=aF hbk 1;dsimp at c0 c1;go_wp2_with (at_builtin;refine Lib.wpList_append_own_string _ D _ _ 58 9 D B 5 i0 underlying58 underlying9 hi hz0 hz1 hz2 _ _ _ D hown s D ?c3 ?c4 ?c5 ?_)
 case c3=>unfold maxLen;omega
 case c4=>omega
 case c5=>grind
 intro X w2 l d _;have E:b<zq w1.heap:=fp hbk;have u:w2.heap[b]?=H (dr #[dq b,v] 96):=by rw[d.block b E (λe=>hne e.symm)];exact hbk
 have f:=aF u 1;dsimp at f;have f1:w2.frozen? ⟨b,1,F⟩=I:=cY u 1;have i:=o0.put (T:=96) (e:=5) hB u (bs':=bs++hP s) (by simpa [Lib.strCells_length]using l) (by decide);have a0:=(A.grown d (by omega) (λk hk=>(hown.lt k hk).1)).setCell (p:=⟨b,1,F⟩) hB X;obtain⟨S,W,q,K⟩:∃S W q,X=.slice S W q:=by
  rcases l.2 with⟨K,_⟩|⟨g,q,a1,K,_⟩
  all_goals grind
 subst K;go_wp2;go_ret2;simp_all
def Rf:dB->Nat
 | .string t=>t.size
 |_=>0
def AE(l:List UInt8)(t:O):en l++hP t=en (l++t.data.toList):=by unfold en hP;simp
def ql(a:O->Option O)(lg:Nat)(s:O):List UInt8:=
 if s.size=0 then []else if jc a lg s C=0 then (s.extract 0 1).data.toList++ql a lg (s.extract 1 s.size)else (kU a lg s C).data.toList++ql a lg (s.extract (jc a lg s C) s.size)
  termination_by s.size
  decreasing_by all_goals (simp;omega)
def AJ(h:IM look)(s:O):ln (ql look lg s)<=16*s.size:=by
 rw[ql];split;simp;split;have:=AJ h (s.extract 1 s.size);simp at this|-;omega;have:=AJ h (s.extract (jc look lg s C) s.size);have d:=xG (lg:=lg) (s:=s) (inV:=C) h;have e:(kU look lg s C).data.size=(kU look lg s C).size:=rfl;simp[e]at this|-;omega
  termination_by s.size
  decreasing_by all_goals (simp;omega)
theorem Va(b lg:Nat)(a:O->Option O)(s:O)(w:J)(hL:Lk w b a)(a7:lg<=1048576)(P:s.size<=1024):dS 358 #[.agg #[.map (H b),G lg],Y s] w (vc w (Y ⟨(ql a lg s).toArray⟩)):=by
 obtain⟨d,q⟩:∃d,d=w.alloc (.cells #[.map (H b),G lg] 160):=⟨_,D⟩;have a0:d.heap[zq w.heap]?=H (dr #[.map (H b),G lg] 160):=by rw[q];exact aY w _
 have o:Z [] w d:=by rw[q];exact(Z.refl _ _).alloc _
 have z:zq d.heap=zq w.heap+1:=by rw[q];simp
 have r:=hL.kept o (by simp);have N:=V q.symm;have K:=V a0;have R:=V z;clear q a0 z;go_enter func358,ntmps358;go_wp21;rw[N.out];have M:=Lib.fresh_isBuilder 96 5 d;have a3:=((gB d.heap.size d).alloc (dF _) (.cells #[.pointer F,gq] 96));have ez:zq w.heap+1=zq d.heap:=R.symm
 try rw[ez]
 go_loopw [1] (λv wr=>∃(t:O)(l:List UInt8),v=Y t/\t.size<=s.size/\(ln l)+16*t.size<=16*s.size/\l++ql a lg t=ql a lg s/\gT 96 5 d.heap.size d.heap.size (en l) wr/\Below d.heap.size d wr) (λv _=>Rf v)
 case atStart=>exact⟨s,[],D,dF _,by simp,D,M,a3⟩
 case round=>
  obtain⟨t,l,rfl,ht,hl,a2,m,A⟩:=hrel;have X:=V a2;have c0:=aF ((Z.d A).at K.out (by simp)) 0;have c1:=aF ((Z.d A).at K.out (by simp)) 1;dsimp at c0 c1;clear a2;by_cases f:t.size=0
  .have e0:t=⟨#[]⟩:=by apply rW;exact RD f
   subst e0;have L:=V (show l=ql a lg s by grind[Hid.out,ql]);have S:=Tryz.Builder_String_any d.heap.size d.heap.size l wr m A.size;go_wp21;refine S.mono ?_;rintro e w2⟨rfl,a6⟩;have Q:=o.trans (Z.d (A.trans a6));go_wp2;go_ret;exact⟨by rw[<-L.out];rfl,Q⟩
  .have a9:t.toList.isEmpty=I:=(by
    rw[th];cases hh:t.data.toList with
    |nil=>exact absurd (show t.data.size=0 by simp_all) f
    |cons=>rfl)
   have ab:=Ur b lg a t C wr (r.kept (Z.d A) (by simp)) a7 (by omega);have aa:=Dj (look:=a) (lg:=lg) (s:=t) (inV:=C);go_wp21;refine ab.mono ?_;rintro e w2⟨rfl,p⟩;have y:=xG (lg:=lg) (s:=t) (inV:=C) r.short;have a1:ql a lg t=if jc a lg t C=0 then (t.extract 0 1).data.toList++ql a lg (t.extract 1 t.size)else (kU a lg t C).data.toList++ql a lg (t.extract (jc a lg t C) t.size):=by rw[ql,di f]
   have U:=V a1;clear a1;generalize kU a lg t C=x at *;have T:gT 96 5 d.heap.size d.heap.size (en l) w2:=by rcases m with⟨h1,v,h,h3,i⟩|⟨h1,v,h,h3,i⟩;exact .inl ⟨h1,v,p.at h (by simp),p.ownsRow h3 (λ_ _=>by simp),i⟩;exact .inr ⟨h1,v,p.at h (by simp),p.ownsRow h3 (λ_ _=>by simp),i⟩
   have u:=A.trans (p.below A.size (by simp));generalize jc a lg t C=n at *;by_cases j:n=0
   .have B:=(show(l++(t.extract 0 1).data.toList)++ql a lg (t.extract 1 t.size)=ql a lg s by rw[<-X.out,U.out,dw j,oX]);subst j;have W:=zz d.heap.size d.heap.size (en l) (t.extract 0 1) w2 T (by simp[en];omega) u.size;go_wp21;refine W.mono ?_;rintro e w3⟨rfl,E,k⟩;have c:=(show gT 96 5 d.heap.size d.heap.size (en (l++(t.extract 0 1).data.toList)) w3 from .inr (by rw[<-AE];exact E));have g:=u.trans k;go_wp2;go_roundw
    case rel=>exact⟨_,_,D,by simp;omega,by simp;omega,B,c,g⟩
    case measure=>grind[ev,Rf]
   .have a8:((n:Int)==0)=I:=beq_eq_false_iff_ne.2 (by omega);have B:=(show(l++x.data.toList)++ql a lg (t.extract n t.size)=ql a lg s by rw[<-X.out,U.out,di j,oX]);have W:=zz d.heap.size d.heap.size (en l) x w2 T (by have:=y;simp[en];omega) u.size;go_wp21;refine W.mono ?_;rintro e w3⟨rfl,E,k⟩;have c:=(show gT 96 5 d.heap.size d.heap.size (en (l++x.data.toList)) w3 from .inr (by rw[<-AE];exact E));have g:=u.trans k;go_wp2;go_roundw
    case rel=>exact⟨_,_,D,by simp;omega,by have:=y;have e:x.data.size=x.size:=rfl;grind[ev],B,c,g⟩
    case measure=>grind[ev,Rf]
def ld(R:RC)(K:Nat):Nat:=gZ (λc=>!fw lN c) R.A K
def mP(R:RC)(K:Nat):Nat:=if pre (R.A.extract (ld R K) R.A.size) IL=C then qR R (ld R (ld R K+1))else ld R K
theorem Fq(h:K<=R.A.size):ld R K<=R.A.size:=oB h
theorem aii:K<=ld R K:=rI
theorem vL:K<=mP R K:=by grind[aii,abj,mP]
def nk(a:O->Option O)(lg:Nat)(R:RC)(K:Nat):O:=if pre (R.A.extract (ld R K) R.A.size) IL=C then jG ⟨(ql a lg (lH R (ld R (ld R K+1)))).toArray⟩else ⟨#[]⟩
structure Nm(w:J)(r:Nat)(R:RC)(b lg:Nat)(look:O->Option O):Prop where
 lk:Lk w b look
 ne:b≠r
 d:R.d=.map (H b)
 A:R.lg=lg
 le:lg<=1048576
theorem Nm.kept{r:Nat}(h:Nm w r R b lg look)(d:Z [r] w U):Nm U r R b lg look:=
 ⟨h.lk.kept d (by simp[h.ne]),h.ne,h.d,h.A,h.le⟩
theorem abT(r:Nat)(R:RC)(i K b lg:Nat)(f:O->Option O)(w:J)(h:Rd w r R i K)(o:Nm w r R b lg f)(y:Gl w r)(s:K<=R.A.size)(T:R.A.size<=1024):dS 333 #[dq r] w λe U=>e=ff (Y (nk f lg R K))/\Z [r] w U/\Rd U r R i (mP R K):=by
 have n:=vn r R i K lN w h s T;have k:=V o;have x:=y;have ha:=Fq (R:=R) s;clear o;cases he:pre (R.A.extract (ld R K) R.A.size) IL
 .have m:mP R K=ld R K:=by unfold mP;rw[di (by simp[he])]
  have j:nk f lg R K=⟨#[]⟩:=by unfold nk;rw[di (by simp[he])]
  rw[m,j];have B:fZ R IL (ld R K)=ld R K:=by unfold fZ;rw[di (by simp[he])]
  go_enter func333,ntmps333;go_wp21;refine n.mono ?_;rintro e w1⟨rfl,d,u⟩;have a:=jQ r R i (ld R K) IL w1 u ha T (by decide);rw[he,B]at a;go_wp21;refine a.mono ?_;rintro e w2⟨rfl,l,C⟩;have E:=d.trans l;go_wp2;go_ret;simp_all
 .have m:mP R K=qR R (ld R (ld R K+1)):=by unfold mP;rw[dw he]
  have j:nk f lg R K=jG ⟨(ql f lg (lH R (ld R (ld R K+1)))).toArray⟩:=by unfold nk;rw[dw he]
  rw[m,j];have B:fZ R IL (ld R K)=ld R K+1:=by unfold fZ;rw[dw he];rfl
  have hb:ld R K+1<=R.A.size:=jO he ha;go_enter func333,ntmps333;go_wp21;refine n.mono ?_;rintro e w1⟨rfl,d,u⟩;have a:=jQ r R i (ld R K) IL w1 u ha T (by decide);rw[he,B]at a;go_wp21;refine a.mono ?_;rintro e w2⟨rfl,l,a1⟩;have E:=d.trans l;have W:=vn r R i (ld R K+1) lN w2 a1 hb T;go_wp21;refine W.mono ?_;rintro e c⟨rfl,a0,v⟩;have g:=E.trans a0;have X:Hid (Rd c r R i (ld R (ld R K+1))):=v;have z:=Fq (R:=R) hb;have mv:c.cell? ⟨r,5,F⟩=H (.map (H b)):=by rw[v.d,k.out.d]
  have lv:c.cell? ⟨r,6,F⟩=H (G lg):=by rw[v.lg,k.out.A]
  have I:=Di (R:=R) (K:=ld R (ld R K+1));have L:=AJ (lg:=lg) k.lk.short (lH R (ld R (ld R K+1)));have t:=QW r R i (ld R (ld R K+1)) c.drew (show Rd c.drew r R i _ from X) z T;go_wp21
  go_region_with (first
   |(go_at_call 359;refine t.mono ?_;rintro e w4⟨rfl,p,A⟩;have a3:=A.d;rw[k.out.d]at a3;have a2:=A.lg;rw[k.out.A]at a2)
   |(go_at_call 358;refine(Va b lg f _ _ (k.kept (g.drew.trans p)).lk k.le (by omega)).mono ?_;rintro e M⟨rfl,q⟩)
   |(go_at_call 152;refine(yf r _ _ (by simp[kw];omega) ((x.kept (g.drew.trans p)).kept (q.mono (by simp)))).mono ?_;rintro e N⟨rfl,S⟩))
  all_goals (try go_wp2)
  all_goals (try go_ret)
  all_goals exact⟨D,(g.drew.trans p).trans ((q.trans S).mono (by simp)),(A.kept q (by simp)).kept S (by simp)⟩
def qO(L:iB):List dB:=L.flatMap λp=>[Y p.1,Y p.2]
def MA(L M:iB):qO (L++M)=qO L++qO M:=by simp[qO]
theorem GV(L:iB)(i:Nat)(h:i<ln L):(qO L)[i*2]?=H (Y (L[i]).1)/\(qO L)[i*2+1]?=H (Y (L[i]).2):=by
 induction L generalizing i with
 |nil=>simp at h
 |cons p L ih=>
  show(Y p.1::Value.string p.2::qO L)[i*2]?=_/\(Y p.1::Value.string p.2::qO L)[i*2+1]?=_;grind
def nth(d:List O)(i:Nat):O×O:=(d.getD i ⟨#[]⟩,⟨#[]⟩)
def IZ(d:List O)(s:O):Bool:=jZ (nth d) (ln d) s 0
theorem MZ{A B:Nat->O×O}(h:∀i,i<n->(A i).1=(B i).1)(i:Nat):jZ A n s i=jZ B n s i:=by
 fun_induction jZ A n s i with
 |case1 i hi he=>grind[jZ]
 |case2 i hi he ih=>grind[jZ]
 |case3 i hi=>grind[jZ]
def KX(L:iB)(i:Nat):O×O:=L.getD i (⟨#[]⟩,⟨#[]⟩)
theorem Yt(a:Nat)(x y:Int)(nm s:O)(q:dB)(L:iB)(w:J)(p:w.ownsRow a 295 2 q (ln L) (qO L))(S:ln L<=1048576):dS 332 #[.agg #[G x,G y,Y nm,q],Y s] w (vc w (.bool (IZ (L.map (·.1)) s))):=by
 rcases p.2 with⟨rfl,A⟩|⟨g,l,u,rfl,E,K,_⟩
 .have e:IZ (L.map (·.1)) s=I:=by have:L=[]:=NC A;subst this;unfold IZ;rw[jZ.eq_1];simp
  rw[e];have T:=(Z.refl [] w).alloc (.cells #[G x,G y,Y nm,gq] 192);go_enter func332,ntmps332;go_wp21
  go_loopw [10] (λv wr=>v=G 0/\Z [] w wr) (λv _=>0)
  case atStart=>grind
  case round=>
   obtain⟨rfl,k⟩:=hrel;go_wp2;go_ret;exact⟨D,k⟩
 have B:IP w g (ln L) (KX L):=by refine⟨λ_=>fp K,λi d=>?_,λi d=>?_⟩;have:=p.cells (g:=g) D (i*2) _ (GV L i d).1;grind[fC,KX];have:=p.cells (g:=g) D (i*2+1) _ (GV L i d).2;grind[fC,KX]
 have e:IZ (L.map (·.1)) s=jZ (KX L) (ln L) s 0:=by unfold IZ;rw[Fz];exact MZ (λi d=>by grind[nth,KX]) 0
 rw[e];exact ag4 x y nm s g (ln L) l _ w B S
structure BG(w:J)(base tb:Nat)(x y:Int)(nm:O)(av:dB)(L:iB):Prop where
 dP:w.heap[tb]?=H (dr #[G x,G y,Y nm,av] 192)
 own:w.ownsRow base 295 2 av (ln L) (qO L)
theorem BG.kept{a g r:Nat}{x y:Int}{l:dB}(h:BG w a g x y nm l L)(d:Z [r] w U)(q:r<a)(p:a<=g):BG U a g x y nm l L:=
 ⟨d.at h.dP (by grind),d.ownsRow h.own (λk d=>by have:=(h.own.lt k d).1;grind)⟩
def sF(R:RC)(K:Nat):O:=jG (small (R.A.extract K (fU R K)))
def pE(R:RC)(d:List O)(K:Nat):Bool:=!IZ d (sF R K)&&!decide (fU R K=R.A.size)&&decide (R.at_<=(ln d:Int))
def qP(L:iB)(d v:O):iB:=if IZ (L.map (·.1)) d=C then L else L++[(d,v)]
def oI(R:RC)(a:O->Option O)(lg:Nat)(L:iB)(K:Nat):iB:=qP L (sF R K) (nk a lg R (fU R K))
def La(h:K<R.A.size):fU R K<=R.A.size:=oB (by omega)
def rR:K<fU R K:=kQ (Nat.lt_succ_self _) rI
theorem Rd.k{r:Nat}(h:Rd w r R bg K):w.cell? ⟨r,4,F⟩=H (G R.at_):=by rw[aF h];rfl
def XF(w:J)(k:Nat)(n d:Int):Prop:=w.heap[k]?=H (dr #[G n,G d] 81)
theorem ME(r tb:Nat)(R:RC)(f K g ay b lg:Nat)(o:O->Option O)(z:Nat->Nat)(x y:Int)(nm:O)(av:dB)(L:iB)(w0 w:J)
  (az:Z [r] w0 w) (v:r<zq w0.heap) (W:zq w0.heap<=tb) (h:Rd w r R f K) (hA:Pj w r R g ay z) (hN:Nm w r R b lg o) (hG:Gl w r) (hT:BG w w0.heap.size tb x y nm av L)
  (hb:f<=R.A.size) (hp:K<R.A.size) (P:R.A.size<=1024) (hL:ln L<=4096):dS 296 #[dq r,dq tb] w λe U=>
   if pE R (L.map (·.1)) K=C then ∃k,e=.panicked [{v:=.iface 76 (dq k),recovered:=I}]/\XF U k 7 (z f)/\w0.heap.size<=k/\Z [r] w0 U
   else e=pG/\∃af,BG U w0.heap.size tb x y nm af (oI R o lg L K)/\Z [r] w0 U/\Rd U r R f (mP R (fU R K)):=by
 obtain⟨i0,hi,aW,aX,b0⟩:=sZ (show(prog.info? 295).map (λi=>(i.zero,i.size,i.bytes))=H (H (.agg #[Y iJ,Y iJ]),2,32) by kernel_rfl);have aE:=La (R:=R) hp;have HN:=V hN;have HG:=V hG;have HA:=V hA;have HT:=V hT;have aw:=V az;have CN:=V ((by
   show Calls prog 331 #[dq r] w λe U=>e=ff (Y (jG (small (R.A.extract K (fU R K)))))/\Z [r] w U/\Rd U r R f (fU R K);have p:=h.ps;have fz:=h.free 3;have HG:=hG;have ab:=h.h (K+1);have a8:=(Z.refl [r] w).setCell (p:=⟨r,3,F⟩) (.inl (by simp)) (G ((K+1:Nat)));clear h hG;obtain⟨w1,au⟩:∃w1,w1=w.setCell ⟨r,3,F⟩ (G ((K+1:Nat))):=⟨_,D⟩;rw[<-au]at ab a8;have ap:w.setCell ⟨r,3,F⟩ (G ((K:Int)+1))=w1:=by rw[au];congr 1
   have aR:=V ap;clear au ap;have M:=zh r R f (K+1) oN w1 ab (by omega) P;rw[show gZ (fw oN) R.A (K+1)=fU R K from D]at M;have b7:fU R K<=R.A.size:=oB (by omega);have b6:K+1<=fU R K:=rI;generalize fU R K=n at *;go_enter func331,ntmps331;go_wp21;rw[aR.out];clear p fz;refine(nI _ w1).mono ?_;rintro e U⟨rfl,rfl⟩;go_wp21;refine M.mono ?_;rintro e w2⟨rfl,l,A⟩;have t2:=A.text;have p2:=A.ps;have Q:=a8.trans l;have ba:=(λq=>y7 r (R.A.extract K n) (w2.drewN q) (by simp;omega) (show Gl (w2.drewN q) r from HG.kept (Q.drewN q)));clear l M;generalize hm:jG (small (R.A.extract K n))=m at ba|-;have Hm:=V hm;clear hm;go_wp21
   go_region_with (refine(ba _).mono ?_;rintro e w3⟨rfl,aA⟩)
   all_goals (try go_wp2)
   all_goals
    (go_ret
     exact⟨by rw[Hm.out];rfl,Q.trans (((Z.refl [r] w2).drewN 1).trans (aA.mono (by simp))),aA.at (show Rd (w2.drewN 1) r R f n from A) (by simp)⟩)))
 have X:oI R o lg L K=qP L (sF R K) (nk o lg R (fU R K)):=rfl;clear h hA hN hG hT az;have aL:pE R (L.map (·.1)) K=(!IZ (L.map (·.1)) (sF R K)&&!decide (fU R K=R.A.size)&&decide (R.at_<=(ln L:Int))):=by unfold pE;rw[Fz]
 rw[aL];clear aL;obtain⟨s,ak⟩:∃s,s=sF R K:=⟨_,D⟩;have al:jG (small (R.A.extract K (fU R K)))=s:=ak.symm;rw[al]at CN;clear al;rw[<-ak]at X;rw[<-ak];obtain⟨ns,ar⟩:∃ns,ns=L.map (·.1):=⟨_,D⟩;rw[<-ar];have aj:=V ar;clear ak ar;obtain⟨m,hm⟩:∃m,m=fU R K:=⟨_,D⟩;rw[<-hm]at CN aE X;rw[<-hm];clear hm;have HV:=(λU h1 h2 h3=>abT r R f m b lg o U h1 h2 h3 aE P);obtain⟨t,aM⟩:∃t,t=nk o lg R m:=⟨_,D⟩;rw[<-aM]at HV X;clear aM;have HV:=V HV;have ax:=V X;clear X;have⟨ao,cp,hav⟩:=df HT.out.own;subst hav;have b8:r≠tb:=by omega
 cases hin:IZ ns s
 .skip
  rcases(show m=R.A.size\/(¬m=R.A.size/\R.at_<=(ln L:Int))\/(¬m=R.A.size/\¬R.at_<=(ln L:Int)) by omega)with E|⟨E,ag⟩|⟨E,ag⟩;have ec:(!I&&!decide (m=R.A.size)&&decide (R.at_<=(ln L:Int)))=I:=by simp[E]
  have e3:decide (m=R.A.size)=C:=by simp[E]
  rotate_left
  have ec:(!I&&!decide (m=R.A.size)&&decide (R.at_<=(ln L:Int)))=C:=by simp[E,ag]
  have e3:decide (m=R.A.size)=I:=by simp[E]
  rotate_left
  have ec:(!I&&!decide (m=R.A.size)&&decide (R.at_<=(ln L:Int)))=I:=by simp[ag]
  have e3:decide (m=R.A.size)=I:=by simp[E]
  all_goals
   rw[ec];clear ec;simp only[uS,AO,Cg];go_enter func296,ntmps296;go_wp21;refine CN.out.mono ?_;rintro e w1⟨rfl,T,a5⟩;have B:=V (HT.out.kept T v W);have a8:=V (aw.out.trans T);have ab:=V a5;have aq:=V T;have a0:=aF B.out.dP 0;have a1:=aF B.out.dP 1;have a2:=aF B.out.dP 2;have a3:=aF B.out.dP 3;dsimp at a0 a1 a2 a3;have N:=Yt w0.heap.size x y nm s _ L w1 B.out.own (by omega);rw[<-aj.out,hin]at N;have ac:=V N;clear N T a5 CN;go_wp21;refine ac.out.mono ?_;rintro e w2⟨rfl,l⟩;have aa:=V (aq.out.trans (l.mono (by simp)));have a9:=V (a8.out.trans (l.mono (by simp)));have A:=V (ab.out.kept l (by simp));have ad:=V (B.out.kept (l.mono (by simp)) v W);clear l ac a0 a1 a2 a3;have b3:=aF ad.out.dP 3;dsimp at b3;have b4:=A.out.k;have M:=V (λU (h:Rd U r R f m)=>nr r R f m U h);rw[e3]at M;go_wp21
   go_quiet ((go_at_call 81;refine xK (M.out _ ?_);exact A.out))
   clear b3 b4
  rotate_right
  .have aQ:=V (HA.out.kept aa.out);have p0:w2.cell? ⟨r,1,F⟩=H (lO g (R.A.size+1) ay):=by rw[A.out.bY,HA.out.B]
   have p1:w2.cell? ⟨r,2,F⟩=H (G f):=A.out.bg;have p2:=aQ.out.at_ f hb;have b1:=V (a9.out.drewN nq);have aU:=a9.out.size;generalize R.A.size=sz at *;have b2:(f:Int)<(sz:Int)+1:=by omega
   go_wp21
   go_region_dies
   all_goals (try go_wp2)
   all_goals exact⟨D,zq w2.heap,D,aY (w2.drewN (nq+1)) _,aU,(a9.out.drewN (nq+1)).alloc _⟩
  all_goals
   have ae:=V (HV.out (w2.drewN nq) (show Rd (w2.drewN nq) r R f m from A.out) (HN.out.kept (aa.out.drewN _)) (HG.out.kept (aa.out.drewN _)));go_wp21;refine ae.out.mono ?_;rintro e w3⟨rfl,a7,ah⟩;have Q:=V ((a9.out.drewN nq).trans a7);have ai:=V ah;have c:=V ((ad.out.kept ((Z.refl [r] w2).drewN nq) v W).kept a7 v W);clear a7 ah ae;have c3:=aF c.out.dP 3;dsimp at c3;have aB:=fp c.out.dP;have aK:=fp ai.out;have b5:=Q.out.size;go_wp2_with (at_builtin;refine fQ _ D _ _ 135 D w0.heap.size 295 i0 (.agg #[Y iJ,Y iJ]) 2 32 underlying135 hi aW aX b0 D (by decide) _ _ _ D (c.out.own.alloc _) ⟨zq w3.heap,0,F⟩ 1 1 [Y s,Y t] D ?c1 ?c2 ?c3 ?c4 ?c5 ?c6 ?_)
   case c1=>rfl
   case c2=>
    intro j u hj
    match j,hj with
    |0,hj=>simp at hj;subst hj;simp[Addr.add]
    |1,hj=>simp at hj;subst hj;simp[Addr.add]
   case c3=>intro u hu;simp at hu;rcases hu with rfl|rfl<;>rfl
   case c4=>unfold maxLen;omega
   case c5=>omega
   case c6=>simp;omega
   intro v' w4 a S aT;have⟨ao',d,hv⟩:=df a;subst hv;have an:∀k,(Value.slice ao (ln L) cp).ownBlock=H k->k≠tb:=by intro k hk;rcases c.out.own.2 with⟨h,_⟩|⟨g',d,aS,h,_,hc,_⟩;rw[h]at hk;cases hk;rw[h]at hk;obtain rfl:=jS hk;exact xQ hc c.out.dP (by decide)
   have aP:Z [r] w0 w4:=(Q.out.alloc _).grown S (λk hk=> .inr (c.out.own.lt k hk).1);have t4:w4.heap[tb]?=H (dr #[G x,G y,Y nm,.slice ao (ln L) cp] 192):=by rw[S.block tb (by simp;omega) (λh=>an tb h.symm D),dc _ _ _ aB];exact c.out.dP
   have r4:Rd w4 r R f (mP R m):=by show w4.heap[r]?=_;rw[S.block r (by simp;omega) (λh=>by have:=(c.out.own.lt r h.symm).1;omega),dc _ _ _ aK];exact ai.out
   have d3:=aF t4 3;have f3:=cY t4 3;dsimp at d3;have t5:=bH t4 3 (.slice ao' (ln L+1) d);have r5:Rd (w4.setCell ⟨tb,3,F⟩ (.slice ao' (ln L+1) d)) r R f (mP R m):=(dE w4 ⟨tb,3,F⟩ _ r (by omega)).trans r4;have o5:(w4.setCell ⟨tb,3,F⟩ (.slice ao' (ln L+1) d)).ownsRow w0.heap.size 295 2 (.slice ao' (ln L+1) d) (ln (L++[(s,t)])) (qO (L++[(s,t)])):=by rw[MA,qm];refine qo a ?_ _;intro hk;rcases a.2 with⟨h,_⟩|⟨g',d,aS,h,_,hc,_⟩;omega;grind
   have HF:Hid (∃af,BG (w4.setCell ⟨tb,3,F⟩ (.slice ao' (ln L+1) d)) w0.heap.size tb x y nm af (qP L s t)/\Z [r] w0 (w4.setCell ⟨tb,3,F⟩ (.slice ao' (ln L+1) d))/\Rd (w4.setCell ⟨tb,3,F⟩ (.slice ao' (ln L+1) d)) r R f (mP R m)):=
    ⟨_,by rw[show qP L s t=L++[(s,t)] by unfold qP;rw[<-aj.out,hin];rfl];exact⟨t5,o5⟩,aP.setCell (.inr W) _,r5⟩
   clear t5 r5 o5 r4 t4 aP an a S aT c3;go_wp2;go_end0;exact⟨D,by rw[ax.out];exact HF.out⟩
 .skip
  have ec:(!C&&!decide (m=R.A.size)&&decide (R.at_<=(ln L:Int)))=I:=by simp
  rw[ec];clear ec;simp only[uS,AO,Cg];go_enter func296,ntmps296;go_wp21;refine CN.out.mono ?_;rintro e w1⟨rfl,T,a5⟩;have B:=V (HT.out.kept T v W);have a8:=V (aw.out.trans T);have ab:=V a5;have aq:=V T;have a0:=aF B.out.dP 0;have a1:=aF B.out.dP 1;have a2:=aF B.out.dP 2;have a3:=aF B.out.dP 3;dsimp at a0 a1 a2 a3;have N:=Yt w0.heap.size x y nm s _ L w1 B.out.own (by omega);rw[<-aj.out,hin]at N;have ac:=V N;clear N T a5 CN;go_wp21;refine ac.out.mono ?_;rintro e w2⟨rfl,l⟩;have aa:=V (aq.out.trans (l.mono (by simp)));have a9:=V (a8.out.trans (l.mono (by simp)));have A:=V (ab.out.kept l (by simp));have ad:=V (B.out.kept (l.mono (by simp)) v W);clear l ac a0 a1 a2 a3;have b3:=aF ad.out.dP 3;dsimp at b3;have b4:=A.out.k;have M:=V (λU (h:Rd U r R f m)=>nr r R f m U h);go_wp21
  go_quiet ((go_at_call 81;refine xK (M.out _ ?_);exact A.out))
  clear b3 b4;have ae:=V (HV.out (w2.drewN nq) (show Rd (w2.drewN nq) r R f m from A.out) (HN.out.kept (aa.out.drewN _)) (HG.out.kept (aa.out.drewN _)));go_wp21;refine ae.out.mono ?_;rintro e w3⟨rfl,a7,ah⟩;have Q:=V ((a9.out.drewN nq).trans a7);have ai:=V ah;have c:=V ((ad.out.kept ((Z.refl [r] w2).drewN nq) v W).kept a7 v W);clear a7 ah ae;have HF:Hid (∃af,BG w3 w0.heap.size tb x y nm af (qP L s t)/\Z [r] w0 w3/\Rd w3 r R f (mP R m)):=
   ⟨_,by rw[show qP L s t=L by unfold qP;rw[<-aj.out,hin];rfl];exact c.out,Q.out,ai.out⟩
  go_wp2;go_end0;exact⟨D,by rw[ax.out];exact HF.out⟩
inductive Pq where
 |stop
 |ic
 |whole (e:Nat) (L:iB)
def dY(R:RC)(K:Nat):Nat:=gZ (λc=>!fw ⟨#[32,9,10,12,47]⟩ c) R.A K
theorem pc:K<=dY R K:=rI
def gQ(R:RC)(a:O->Option O)(lg:Nat)(L:iB)(K:Nat):Pq:=
 if h:dY R K<R.A.size then
  if pre (R.A.extract (dY R K) R.A.size) eV=C then .whole (dY R K+1) L
  else if pE R (L.map (·.1)) (dY R K)=C then .stop
  else gQ R a lg (oI R a lg L (dY R K)) (mP R (fU R (dY R K)))
 else .ic
  termination_by R.A.size-K
  decreasing_by
 have d:=pc (R:=R) (K:=K);have g:=rR (R:=R) (K:=dY R K);have k:=vL (R:=R) (K:=fU R (dY R K));omega
def vw(R:RC)(K:Nat):Nat:=gZ (fw fY) R.A K
theorem IF:ln (oI R look lg L K)<=ln L+1:=by grind[oI,qP]
def xn(R:RC)(K:Nat):O:=jG (small (R.A.extract K (vw R K)))
def Rd.g{r:Nat}(h:Rd w r R bg K){p:Addr}(d:p.block≠r)(u:dB):Rd (w.setCell p u) r R bg K:=(dE w p u r (λe=>d e.symm)).trans h
theorem abF{a:Nat}{e:TypeId}{u:Nat}{v:dB}{f:List dB}(q:w.ownsRow a e u v n f){c:io}{t:TypeId}(A:w.heap[b]?=H (dr c t))(p:e≠t):∀k,v.ownBlock=H k->k≠b:=by rintro k d rfl;rcases q.2 with⟨e2,_⟩|⟨E,g,l,e2,_,B,_⟩;rw[e2]at d;cases d;rw[e2]at d;obtain rfl:=jS d;grind
def X1(w:J)(r:Nat)(R:RC)(a:Nat)(z:Nat->Nat)(nm:O)(e:Ending)(U:J):Pq->Prop
 | .stop=>∃k,e=.panicked [{v:=.iface 76 (dq k),recovered:=I}]/\XF U k 7 (z a)/\w.heap.size<=k/\Z [r] w U
 | .ic=>e=ff (.tuple #[.agg #[G 0,G 0,Y iJ,gq],.bool I])/\Z [r] w U/\Rd U r R a R.A.size
 | .whole m L=>(∃d g,e=ff (.tuple #[.agg #[G (z a),G (z m),Y nm,.slice d (ln L) g],.bool C])/\U.ownsRow w.heap.size 295 2 (.slice d (ln L) g) (ln L) (qO L))/\Z [r] w U/\Rd U r R a m
theorem ah9(r:Nat)(R:RC)(j K g ae b lg:Nat)(f:O->Option O)(z:Nat->Nat)(w:J)(h:Rd w r R j K)(hA:Pj w r R g ae z)(hN:Nm w r R b lg f)(hG:Gl w r)
  (hb:j<=R.A.size) (x:K<=R.A.size) (P:R.A.size<=1024):dS 247 #[dq r] w λe U=>X1 w r R j z (xn R K) e U (gQ R f lg [] (vw R K)):=by
 obtain⟨n,HO⟩:∃n,n=gQ R f lg [] (vw R K):=⟨_,D⟩;rw[<-HO];obtain⟨nm,ah⟩:∃nm,nm=xn R K:=⟨_,D⟩;rw[<-ah];have ab:jG (small (R.A.extract K (gZ (fw fY) R.A K)))=nm:=ah.symm;have aT:=V ab;clear ah ab;have hr:=fp h;obtain⟨a,N⟩:∃a,a=w.alloc (.cells #[G 0,G 0,Y iJ,gq] 192):=⟨_,D⟩;have au:a.heap[zq w.heap]?=H (dr #[G 0,G 0,Y iJ,gq] 192):=by rw[N];exact aY w _
 have a0:Z [] w a:=by rw[N];exact(Z.refl _ _).alloc _
 have z0:zq a.heap=zq w.heap+1:=by rw[N];simp
 have az:=h.kept a0 (by simp);have ha:vw R K<=R.A.size:=oB x;have CU:=zh r R j K fY a az x P;have HA:=hA.kept (a0.mono (by simp));have HN:=hN.kept (a0.mono (by simp));have HG:=hG.kept (a0.mono (by simp));have HW:=V N.symm;have aB:(R.A.extract K (gZ (fw fY) R.A K)).size<=1048576:=by simp;omega
 have m:=V z0;clear h hA hN hG N z0 az;go_enter func247,ntmps247;go_wp21;rw[HW.out];refine(nI _ a).mono ?_;rintro e w1⟨rfl,rfl⟩;go_wp21;refine CU.mono ?_;rintro e w2⟨rfl,an,aM⟩;have aW:Hid (Rd w2 r R j (vw R K)):=aM;have CR:=y7 r _ w2 aB (HG.kept an);clear aM CU aB;go_wp21;refine CR.mono ?_;rintro e w3⟨rfl,af⟩;have ap:=an.trans (af.mono (by simp));have aX:=aW.out.kept af (by simp);clear af CR;rw[aT.out];obtain⟨w4,aa⟩:∃w4,w4=w3.alloc (.cells #[G 0,G 0,Y nm,gq] 192):=⟨_,D⟩;have ak:Z [] w3 w4:=by rw[aa];exact(Z.refl _ _).alloc _
 have b2:Hid (BG w4 a.heap.size w3.heap.size 0 0 nm (gq) []):=⟨by rw[aa];exact aY w3 _,mY _ _ _ _⟩;have aR:=ap.trans (ak.mono (by simp));have b0:=aX.kept ak (by simp);have A:=ap.size;have b4:=V aa.symm;clear ak aa;go_wp21;rw[b4.out]
 go_loopw [] (λwr=>∃(i:Nat)(av:dB)(L:iB),i<=R.A.size/\(ln L)<=i/\gQ R f lg L i=n/\BG wr a.heap.size w3.heap.size 0 0 nm av L/\Z [r] a wr/\Rd wr r R j i) (λwr=>R.A.size-(match wr.cell? ⟨r,3,F⟩with|some v=>(intOf v).toNat|none=>0))
 case atStart=>exact⟨vw R K,_,[],ha,eZ _,HO.symm,b2.out,aR,b0⟩
 case round=>
  have⟨i,av,L,hi,hLi,htg,HT,HKW,hrd⟩:=hrel;have a8:=V htg;have CP:=vn r R j i ⟨#[32,9,10,12,47]⟩ wr hrd hi P;have P0:=hrd.ps;have aK:dY R i<=R.A.size:=oB hi;have bb:=pc (R:=R) (K:=i);clear htg hrd;go_wp21;refine CP.mono ?_;rintro e o⟨rfl,ag,ai⟩;have ad:Hid (Rd o r R j (dY R i)):=ai;have a7:=HKW.trans ag;have ax:=HT.kept ag (by have:=m.out;omega) A;have t:=nr r R j (dY R i) o ai;clear ag ai CP;by_cases a3:dY R i=R.A.size
  .have s:n=.ic:=by rw[<-a8.out,gQ,dif_neg (by omega)]
   have EO:=V s;have e3:decide (dY R i=R.A.size)=C:=by simp[a3]
   rw[e3]at t;have a2:=V t;have B:=a7.at au (by simp;omega);have Q:=aF B 0;have d1:=aF B 1;have d2:=aF B 2;have d3:=aF B 3;have f0:=cY B 0;have f1:=cY B 1;have f2:=cY B 2;have f3:=cY B 3;dsimp at Q d1 d2 d3;clear t e3 s B;go_wp21;refine a2.out.mono ?_;rintro e w6⟨rfl,q,rfl⟩;go_wp2;have aq:=(a0.mono (S':=[r]) (by simp)).trans a7;have S:zq w.heap≠r:=by omega
   rw[EO.out];refine mL (v:=.tuple #[.agg #[G 0,G 0,Y iJ,gq],.bool I]) ?_ D ⟨D,?_,?_⟩
   .simp[results,results247,asAddr,da,go_sem,Q,d1,d2,d3]
   exact((((aq.drewN q).setCell (.inr (dF _)) _).setCell (.inr (dF _)) _).setCell (.inr (dF _)) _).setCell (.inr (dF _)) _;have h6:Rd (o.drewN q) r R j R.A.size:=by rw[<-a3];exact ad.out
   exact(((h6.g S _).g S _).g S _).g S _
  .have e3:decide (dY R i=R.A.size)=I:=by simp[a3]
   have y:dY R i<R.A.size:=by omega
   rw[e3]at t;have a2:=V t;clear t e3;cases hgt:pre (R.A.extract (dY R i) R.A.size) eV
   .have M:fZ R eV (dY R i)=dY R i:=by unfold fZ;rw[di (by simp[hgt])]
    have X:=λq=>jQ r R j (dY R i) eV (o.drewN q) (show Rd (o.drewN q) r R j _ from ad.out) aK P (by decide);rw[hgt,M]at X;clear M;go_wp21;refine a2.out.mono ?_;rintro e w6⟨rfl,q,rfl⟩;go_wp21;refine(X q).mono ?_;rintro e w7⟨rfl,a1,aP⟩;have T:=(a7.drewN q).trans a1;have aA:=(ax.kept ((Z.refl [r] o).drewN q) (by have:=m.out;omega) A).kept a1 (by have:=m.out;omega) A;have CA:=ME r w3.heap.size R j (dY R i) g ae b lg f z 0 0 nm av L a w7 T (by have:=m.out;omega) A aP (HA.kept T) (HN.kept T) (HG.kept T) aA hb y P (by omega);clear a1 aP aA X a2;go_wp21;refine CA.mono ?_;intro e w8 c;by_cases a9:pE R (L.map (·.1)) (dY R i)=C
    .rw[dw a9]at c;obtain⟨k,rfl,aQ,bc,l⟩:=c;have s:n=.stop:=by rw[<-a8.out,gQ,ug y,di (by simp[hgt]),dw a9]
     have HF:Hid (X1 w r R j z nm (.panicked [{v:=.iface 76 (dq k),recovered:=I}]) w8 n):=by rw[s];exact⟨k,D,aQ,by have:=m.out;omega,(a0.mono (S':=[r]) (by simp)).trans l⟩
     clear aQ l s CA;go_wp2;exact⟨D,HF.out⟩
    .rw[di a9]at c;obtain⟨rfl,b5,d,l,aj⟩:=c;have ay:gQ R f lg (oI R f lg L (dY R i)) (mP R (fU R (dY R i)))=n:=by rw[<-a8.out,gQ.eq_1 R f lg L i,ug y,di (by simp[hgt]),di a9]
     have b6:=IF (R:=R) (look:=f) (lg:=lg) (L:=L) (K:=dY R i);have h2:=rR (R:=R) (K:=dY R i);have h3:=vL (R:=R) (K:=fU R (dY R i));have h4:mP R (fU R (dY R i))<=R.A.size:=by have h:=La (R:=R) y;unfold mP;split;rename_i h1;exact abk (Fq (jO h1 (Fq h)));grind[Fq]
     have aw:Hid (∃(i':Nat)(av:dB)(L:iB),i'<=R.A.size/\(ln L)<=i'/\gQ R f lg L i'=n/\BG w8 a.heap.size w3.heap.size 0 0 nm av L/\Z [r] a w8/\Rd w8 r R j i'):=
      ⟨_,b5,_,h4,by omega,ay,d,l,aj⟩
     have P8:=aj.ps;have aL:R.A.size-mP R (fU R (dY R i))<R.A.size-i:=by omega
     clear d l aj ay b6 CA h2 h3 h4;go_wp2;go_roundw
     case rel=>exact aw.out
     case measure=>rw[P8,P0];simpa [intOf]using aL
   .have M:fZ R eV (dY R i)=dY R i+1:=by unfold fZ;rw[dw hgt];rfl
    have X:=λq=>jQ r R j (dY R i) eV (o.drewN q) (show Rd (o.drewN q) r R j _ from ad.out) aK P (by decide);rw[hgt,M]at X;have s:n=.whole (dY R i+1) L:=by rw[<-a8.out,gQ,ug y,dw hgt]
    have EO:=V s;clear M s;go_wp21;refine a2.out.mono ?_;rintro e w6⟨rfl,q,rfl⟩;go_wp21;refine(X q).mono ?_;rintro e w7⟨rfl,a1,ar⟩;have T:=(a7.drewN q).trans a1;have b3:=(ax.kept ((Z.refl [r] o).drewN q) (by have:=m.out;omega) A).kept a1 (by have:=m.out;omega) A;have al:=qC r R j (dY R i+1) g ae z w7 ar (HA.kept T) hb (by omega) P;clear a1 X a2;go_wp21;refine al.mono ?_;rintro e w8⟨rfl,l⟩;have aS:=(a0.mono (S':=[r]) (by simp)).trans (T.trans (l.mono (by simp)));have d:=b3.kept (l.mono (by simp)) (r:=r) (by have:=m.out;omega) A;have b1:=ar.kept l (by simp);have E:=(T.trans (l.mono (by simp))).at au (by simp;omega);have⟨ao,cp,hav⟩:=df d.own;subst hav;have t0:=aF d.dP 0;have t1:=aF d.dP 1;have t2:=aF d.dP 2;have t3:=aF d.dP 3;have g0:=cY d.dP 0;have g1:=cY d.dP 1;have Q:=aF E 0;have d1:=aF E 1;have d2:=aF E 2;have d3:=aF E 3;have f0:=cY E 0;have f1:=cY E 1;have f2:=cY E 2;have f3:=cY E 3;dsimp at t0 t1 t2 t3 Q d1 d2 d3;have b7:zq w.heap≠zq w3.heap:=by have:=A;have:=m.out;omega
    have b8:zq w3.heap≠zq w.heap:=λh=>b7 h.symm;have aU:=d.own;have b9:=abF d.own d.dP (by decide);clear d E l al;go_wp2;rw[EO.out];have S:zq w.heap≠r:=by omega
    have ac:zq w3.heap≠r:=by have:=A;have:=m.out;omega
    have aE:zq w.heap<=zq w3.heap:=by have:=A;have:=m.out;omega
    refine mL (v:=.tuple #[.agg #[G (z j),G (z (dY R i+1)),Y nm,.slice ao (ln L) cp],.bool C]) ?_ D ⟨⟨_,_,D,?_⟩,?_,?_⟩
    .simp[results,results247,asAddr,da,go_sem,Q,d1,d2,d3]
    have ba:∀(p:Addr)(u:dB)(W:J),(p.block=zq w.heap\/p.block=zq w3.heap)->W.ownsRow a.heap.size 295 2 (.slice ao (ln L) cp) (ln L) (qO L)->(W.setCell p u).ownsRow a.heap.size 295 2 (.slice ao (ln L) cp) (ln L) (qO L):=by intro p u W x ho;refine qo ho ?_ u;intro e;rcases x with x|x;have:=(aU.lt _ e).1;have:=m.out;omega;grind
    refine gM (a:=zq a.heap) ?_ (by have:=m.out;omega);grind;exact(((((aS.setCell (.inr aE) _).setCell (.inr aE) _).setCell (.inr (dF _)) _).setCell (.inr (dF _)) _).setCell (.inr (dF _)) _).setCell (.inr (dF _)) _;exact(((((b1.g ac _).g ac _).g S _).g S _).g S _).g S _
def sO(R:RC)(K:Nat):Bool:=decide (K<R.A.size)&&decide (97<=bt R.A K/\bt R.A K<=122\/65<=bt R.A K/\bt R.A K<=90)
def BO(r:Nat)(R:RC)(a K:Nat)(w:J)(h:Rd w r R a K)(d:K<=R.A.size)(g:R.A.size<=1024):dS 155 #[dq r,.func (.func 156) #[] #[]] w λe U=>e=ff (.bool (sO R K))/\∃n,U=w.drewN n:=
 KM r R a K _ _ _ w h d g (TL w [r])
theorem Zc{r:Nat}{a b:Int}{W:J}(d:Z [r] w W)(k:Rd W r R bg K)(g:W.heap[zq w.heap]?=H (dr #[G 0,G 0,Y iJ] 186))(l:r≠zq w.heap):Z [r] w (((W.setCell ⟨zq w.heap,0,F⟩ (G a)).setCell ⟨zq w.heap,1,F⟩ (G b)).setCell ⟨zq w.heap,2,F⟩ (Y s))/\Rd (((W.setCell ⟨zq w.heap,0,F⟩ (G a)).setCell ⟨zq w.heap,1,F⟩ (G b)).setCell ⟨zq w.heap,2,F⟩ (Y s)) r R bg K/\(((W.setCell ⟨zq w.heap,0,F⟩ (G a)).setCell ⟨zq w.heap,1,F⟩ (G b)).setCell ⟨zq w.heap,2,F⟩ (Y s)).heap[zq w.heap]?=H (dr #[G a,G b,Y s] 186):=by
 exact⟨((d.setCell (.inr (dF _)) _).setCell (.inr (dF _)) _).setCell (.inr (dF _)) _,k.kept ((((Z.refl [zq w.heap] W).setCell (.inl (by simp)) _).setCell (.inl (by simp)) _).setCell (.inl (by simp)) _) (by grind),bH (bH (bH g 0 _) 1 _) 2 _⟩
theorem DU(r:Nat)(R:RC)(i K g A b lg:Nat)(f:O->Option O)(z:Nat->Nat)(w:J)(h:Rd w r R i K)(N:Pj w r R g A z)(m:Nm w r R b lg f)(hb:i<R.A.size)(P:R.A.size<=1024):dS 87 #[dq r] w λe U=>e=ff (.agg #[G (z i),G (z (i+mx f lg (R.A.extract i R.A.size))),Y (nu f lg (R.A.extract i R.A.size))])/\Z [r] w U/\Rd U r R i (i+mx f lg (R.A.extract i R.A.size)):=by
 have t1:=h.text;have b1:=h.bg;have m1:=h.d;have l1:=h.lg;rw[m.d]at m1;rw[m.A]at l1;have hr:=fp h;have a5:(R.A.extract i R.A.size).size=R.A.size-i:=by simp
 have a6:=Dj (look:=f) (lg:=lg) (s:=R.A.extract i R.A.size) (inV:=I);rw[a5]at a6;have C1:=(λW (q:Z [] w W)=>Ur b lg f (R.A.extract i R.A.size) I W (m.lk.kept q (by simp)) m.le (by omega));have C2:=(λW (q:Z [] w W)=>DN r R i K g A z W (h.kept q (by simp)) (N.kept (q.mono (by simp))) hb P);have c:=(Z.refl [] w).alloc (dr #[G 0,G 0,Y iJ] 186);have a1:=aY w (dr #[G 0,G 0,Y iJ] 186);have l:=(show zq w.heap≠r by omega);have HR:=h;have HA:=N;have a0:=V ((by show(R.A.extract i R.A.size).extract 0 1=R.A.extract i (i+1);grind[gL,hQ]))
 have HS:=V (show mx f lg (R.A.extract i R.A.size)=if jc f lg (R.A.extract i R.A.size) I=0 then 1 else jc f lg (R.A.extract i R.A.size) I from D);have C:=V (show nu f lg (R.A.extract i R.A.size)=if jc f lg (R.A.extract i R.A.size) I=0 then (R.A.extract i R.A.size).extract 0 1 else kU f lg (R.A.extract i R.A.size) I from D);generalize mx f lg (R.A.extract i R.A.size)=M at *;generalize nu f lg (R.A.extract i R.A.size)=L at *;generalize jc f lg (R.A.extract i R.A.size) I=n at *;generalize kU f lg (R.A.extract i R.A.size) I=o at *;go_enter func87,ntmps87;go_wp21
 go_cut [3,4]from 5 to 21 (λtv nv wc=>tv=Y o/\nv=G n/\Z [] w wc/\wc.heap[zq w.heap]?=H (dr #[G 0,G 0,Y iJ] 186))
 case first=>
  go_region_with (go_at_call 164;refine(C1 _ c.drew).mono ?_;rintro e w1⟨rfl,B⟩;have a4:=V ((c.drew).trans B);have a2:=V ((((Z.refl [] _).drew).trans B).at a1 (by simp));clear B)
  all_goals (try (go_wp21))
  all_goals (go_meet;exact⟨D,D,a4,a2⟩)
 case rest=>
  obtain⟨rfl,rfl,q,Q⟩:=hcut;have HK:=q;have HG:=Q;have rc:=HR.kept q (by simp);by_cases j:n=0
  .have p:=C2 wc q;have a:M=1:=by rw[HS.out,dw j]
   have X:L=R.A.extract i (i+1):=by rw[C.out,dw j,a0.out]
   have E:=V a;have s:=V X;clear a X;subst j;go_wp21;refine p.mono ?_;rintro e w2⟨rfl,k,a7⟩;have d:=k.at HG (by simpa using l);have v:=aF d 0;have x:=aF d 1;have y:=aF d 2;have z0:=cY d 0;have z1:=cY d 1;have z2:=cY d 2;dsimp at v x y;have u:=Zc (a:=(z i:Int)) (b:=(z (i+1):Int)) (s:=R.A.extract i (i+1)) ((HK.mono (by simp)).trans k) a7 d (λe=>l e.symm);go_wp2;refine mL (v:=.agg #[G (z i),G (z (i+1)),Y (R.A.extract i (i+1))]) ?_ D ⟨by rw[E.out,s.out],u.1,by rw[E.out];exact u.2.1⟩;have t:=aF u.2.2;simp[results,results87,asAddr,da,go_sem,t]
  .have a:M=n:=by rw[HS.out,di j]
   have X:L=o:=by rw[C.out,di j]
   have E:=V a;have s:=V X;have a8:((n:Int)==0)=I:=beq_eq_false_iff_ne.2 (by omega);have b2:=rc.bg;have f2:=rc.free 3;have p2:=rc.ps;have S:=(q.mono (S':=[r]) (by simp)).setCell (p:=⟨r,3,F⟩) (.inl (by simp)) (G ((i+n:Nat)));have T:=rc.h (i+n);have a3:=(((Z.refl [r] wc).setCell (p:=⟨r,3,F⟩) (.inl (by simp)) (G ((i+n:Nat))))).at Q (by simpa using l);have p:=qC r R i (i+n) g A z _ T (HA.kept S) (by omega) (by omega) P;clear a X;go_wp21;refine p.mono ?_;rintro e w2⟨rfl,k⟩;have d:=k.at a3 (by simp);have v:=aF d 0;have x:=aF d 1;have y:=aF d 2;have z0:=cY d 0;have z1:=cY d 1;have z2:=cY d 2;dsimp at v x y;have u:=Zc (a:=(z i:Int)) (b:=(z (i+n):Int)) (s:=o) (S.trans (k.mono (by simp))) (T.kept k (by simp)) d (λe=>l e.symm);go_wp2;refine mL (v:=.agg #[G (z i),G (z (i+n)),Y o]) ?_ D ⟨by rw[E.out,s.out],u.1,by rw[E.out];exact u.2.1⟩;have t:=aF u.2.2;simp[results,results87,asAddr,da,go_sem,t]
inductive DK where
 |Mw
 |DD (t:O)
 |Q4 (nm:O) (L:iB)
 |fin (nm:O) (L:iB)
 |Sy (t:O)
 |dtp (nm:O) (q:Bool)
 |ic
inductive zG where
 |stop
 |tok (kd:DK) (e:Nat)
def ajq(c:Nat)(a b:Int)(v:dB)(w:J):DK->Prop
 | .Mw=>v=.iface 184 (.agg #[G a,G b])
 | .DD t=>v=.iface 186 (.agg #[G a,G b,Y t])
 | .Q4 nm L=>∃d g,v=.iface 194 (.agg #[G a,G b,Y nm,.slice d (ln L) g])/\w.ownsRow c 295 2 (.slice d (ln L) g) (ln L) (qO L)
 | .fin nm L=>∃d g,v=.iface 195 (.agg #[G a,G b,Y nm,.slice d (ln L) g])/\w.ownsRow c 295 2 (.slice d (ln L) g) (ln L) (qO L)
 | .Sy t=>v=.iface 196 (.agg #[G a,G b,Y t])
 | .dtp nm q=>v=.iface 198 (.agg #[G a,G b,Y nm,.bool q])
 | .ic=>v=.iface 188 (.agg #[G a,G b])
def mU(w:J)(r:Nat)(R:RC)(a:Nat)(z:Nat->Nat)(e:Ending)(U:J):zG->Prop
 | .stop=>∃k,e=.panicked [{v:=.iface 76 (dq k),recovered:=I}]/\XF U k 7 (z a)/\w.heap.size<=k/\Z [r] w U
 | .tok kd m=>(∃v,e=ff v/\ajq w.heap.size (z a) (z m) v U kd)/\Z [r] w U/\Rd U r R a m
def mU.back{w1:J}{r:Nat}{z:Nat->Nat}{e:Ending}{T:zG}(h:mU w1 r R bg z e U T)(d:Z [r] w w1):mU w r R bg z e U T:=by
 cases T with
 |stop=>have⟨k,h1,h2,h3,h4⟩:=h;exact⟨k,h1,h2,gR d.size h3,d.trans h4⟩
 |tok kd m=>have⟨⟨v,h1,h2⟩,h3,h4⟩:=h;exact⟨⟨v,h1,(by
   cases kd with
   |Q4 nm L=>have⟨ao,cp,h1,h2⟩:=h2;exact⟨ao,cp,h1,gM h2 d.size⟩
   |fin nm L=>have⟨ao,cp,h1,h2⟩:=h2;exact⟨ao,cp,h1,gM h2 d.size⟩
   |_=>exact h2)⟩,d.trans h3,h4⟩
def qT(R:RC)(d:O->iB->DK)(nm:O):Pq->zG
 | .stop=> .stop
 | .ic=> .tok .ic R.A.size
 | .whole m L=> .tok (d nm L) m
structure xT(w:J)(r:Nat)(R:RC)(g cap b lg:Nat)(look:O->Option O)(cut:Nat->Nat):Prop where
 bY:Pj w r R g cap cut
 j:Nm w r R b lg look
 A:Gl w r
 small:R.A.size<=1024
theorem xT.kept{r:Nat}{g d:Nat}{z:Nat->Nat}(h:xT w r R g d b lg look z)(k:Z [r] w U):xT U r R g d b lg look z:=
 ⟨h.bY.kept k,h.j.kept k,h.A.kept k,h.small⟩
def amz{j:Nat}{kd:O->iB->DK}(a:(j=157/\kd=DK.Q4)\/(j=248/\kd=DK.fin))(r:Nat)(R:RC)(i K g l b lg:Nat)(f:O->Option O)(z:Nat->Nat)(w:J)(h:Rd w r R i K)(u:xT w r R g l b lg f z)(hb:i<=R.A.size)(F:K<=R.A.size):dS j #[dq r] w λe U=>mU w r R i z e U (qT R kd (xn R K) (gQ R f lg [] (vw R K))):=by
 have a0:=V (ah9 r R i K g l b lg f z w h u.bY u.j u.A hb F u.small);have o:=V u;generalize xn R K=nm at a0|-;generalize gQ R f lg [] (vw R K)=a1 at a0|-;clear h u;rcases a with⟨rfl,rfl⟩|⟨rfl,rfl⟩
 all_goals
  cases a1 with
  |stop=>
   first|go_enter func157,ntmps157|go_enter func248,ntmps248
   go_wp2_with fail;refine a0.out.mono ?_;rintro e A⟨k,rfl,s,h3,t⟩;have y:=V s;have C:=V t;clear s t;go_wp2;exact⟨D,k,D,y.out,h3,C.out⟩
  |ic=>
   first|go_enter func157,ntmps157|go_enter func248,ntmps248
   go_wp2_with fail;refine a0.out.mono ?_;rintro e A⟨rfl,v,B⟩;have H:=V v;have q:Z [] A (A.alloc (.cells #[G 0,G 0,Y iJ,gq] 192)):=(Z.refl _ _).alloc _;have E:=V (B.kept q (by simp));have d:=V (v.trans (q.mono (by simp)));have n:=V (qC r R i R.A.size g l z _ E.out (o.out.kept d.out).bY hb (dF _) o.out.small);clear v B q;go_wp2_with fail;refine n.out.mono ?_;rintro e w2⟨rfl,p⟩;have S:=V (d.out.trans (p.mono (by simp)));have c:=V (E.out.kept p (by simp));clear p n;go_wp2;go_ret;exact⟨⟨_,D,D⟩,S.out,c.out⟩
  |whole m L=>
   first|go_enter func157,ntmps157|go_enter func248,ntmps248
   go_wp2_with fail;refine a0.out.mono ?_;rintro e A⟨⟨W,X,rfl,x⟩,v,B⟩;have q:Z [] A (A.alloc (.cells #[G (z i),G (z m),Y nm,.slice W (ln L) X] 192)):=(Z.refl _ _).alloc _;have E:=V (B.kept q (by simp));have d:=V (v.trans (q.mono (by simp)));have T:=V (x.alloc (.cells #[G (z i),G (z m),Y nm,.slice W (ln L) X] 192));clear v B q x;go_wp2;go_ret;exact⟨⟨_,D,W,X,D,T.out⟩,d.out,E.out⟩
def mZ(R:RC)(a:O->Option O)(lg b:Nat):zG:=.tok (.DD (nu a lg (R.A.extract b R.A.size))) (b+mx a lg (R.A.extract b R.A.size))
def jr(R:RC)(a:O->Option O)(lg b K:Nat):zG:=
 if sO R K=C then qT R .fin (xn R K) (gQ R a lg [] (vw R K))
 else if pre (R.A.extract K R.A.size) eV=C then .tok .ic (K+1)
 else if K=R.A.size then mZ R a lg b
 else .tok (.Sy (jG (R.A.extract K (gZ (fw eV) R.A K)))) (pC R K)
def MH(r:Nat)(R:RC)(i K g p b lg:Nat)(f:O->Option O)(z:Nat->Nat)(w:J)(h:Rd w r R i K)(H:xT w r R g p b lg f z)(hb:i<R.A.size)(x:K<=R.A.size):dS 158 #[dq r] w λe U=>mU w r R i z e U (jr R f lg i K):=by
 have t:=V H;have M:=V h;have P:=H.small;have o:=BO r R i K w h x P;have aa:∀(N:Fn)(first p:io)(w:J),(Instr.makeFunc N first p).run prog w=.ok (.func N first p) w:=λ_ _ _ _=>D;clear h H;cases hl:sO R K
 .rw[hl]at o;have c:=V o;have s:=λq=>jQ r R i K eV (w.drewN q) (show Rd (w.drewN q) r R i K from M.out) x P (by decide);clear o;cases hgt:pre (R.A.extract K R.A.size) eV
  .have W:fZ R eV K=K:=by unfold fZ;rw[di (by simp[hgt])]
   rw[hgt,W]at s;have a0:=V s;clear s W;by_cases E:K=R.A.size
   .have a:jr R f lg i K=mZ R f lg i:=by unfold jr;rw[di (by simp[hl]),di (by simp[hgt]),dw E]
    rw[a];have F:decide (K=R.A.size)=C:=by simp[E]
    clear a hl hgt;go_enter func158,ntmps158;go_wp2_with fail;refine c.out.mono ?_;rintro e w1⟨rfl,q,rfl⟩;go_wp2_with fail;refine(a0.out q).mono ?_;rintro e w2⟨rfl,u,d⟩;have l:=V (((Z.refl [r] w).drewN q).trans u);have n:=nr r R i K w2 d;rw[F]at n;have a1:=V n;have S:=V d;clear n u d;go_wp2_with fail;refine a1.out.mono ?_;rintro e w3⟨rfl,j,rfl⟩;have X:=V (DU r R i K g p b lg f z (w2.drewN j) (show Rd (w2.drewN j) r R i K from S.out) (t.out.kept (l.out.drewN j)).bY (t.out.kept (l.out.drewN j)).j hb P);go_wp2_with fail;refine X.out.mono ?_;rintro e w4⟨rfl,A,B⟩;have y:=V (show mU w r R i z (ff (.iface 186 (.agg #[G (z i),G (z (i+mx f lg (R.A.extract i R.A.size))),Y (nu f lg (R.A.extract i R.A.size))]))) w4 (mZ R f lg i)from⟨⟨_,D,D⟩,(l.out.drewN j).trans A,B⟩);clear A B X;go_wp2;go_ret;exact y.out
   .have a:jr R f lg i K=.tok (.Sy (jG (R.A.extract K (gZ (fw eV) R.A K)))) (pC R K):=by unfold jr;rw[di (by simp[hl]),di (by simp[hgt]),di E]
    rw[a];have F:decide (K=R.A.size)=I:=by simp[E]
    clear a hl hgt;go_enter func158,ntmps158;go_wp2_with fail;refine c.out.mono ?_;rintro e w1⟨rfl,q,rfl⟩;go_wp2_with fail;refine(a0.out q).mono ?_;rintro e w2⟨rfl,u,d⟩;have l:=V (((Z.refl [r] w).drewN q).trans u);have n:=nr r R i K w2 d;rw[F]at n;have a1:=V n;have S:=V d;clear n u d;go_wp2_with fail;refine a1.out.mono ?_;rintro e w3⟨rfl,j,rfl⟩;have a3:=V (t.out.kept (l.out.drewN j));have X:=V (tN r R i K g p z (w2.drewN j) (show Rd (w2.drewN j) r R i K from S.out) a3.out.bY a3.out.A (by omega) x P);go_wp2_with fail;refine X.out.mono ?_;rintro e w4⟨rfl,A,B⟩;have a5:=V ((l.out.drewN j).trans A);have a7:=V B;clear A B X;go_wp2;go_ret;exact⟨⟨_,D,D⟩,a5.out,a7.out⟩
  .have W:fZ R eV K=K+1:=by unfold fZ;rw[dw hgt];rfl
   have a9:K+1<=R.A.size:=jO hgt x;rw[hgt,W]at s;have a0:=V s;have a:jr R f lg i K=.tok .ic (K+1):=by unfold jr;rw[di (by simp[hl]),dw hgt]
   rw[a];clear s W a hl hgt;go_enter func158,ntmps158;go_wp2_with fail;refine c.out.mono ?_;rintro e w1⟨rfl,q,rfl⟩;go_wp2_with fail;refine(a0.out q).mono ?_;rintro e w2⟨rfl,u,d⟩;have l:=V (((Z.refl [r] w).drewN q).trans u);have L:=V (qC r R i (K+1) g p z w2 d (t.out.kept l.out).bY (by omega) a9 P);have S:=V d;clear u d;go_wp2_with fail;refine L.out.mono ?_;rintro e w3⟨rfl,a2⟩;have a4:=V (l.out.trans (a2.mono (by simp)));have a6:=V (S.out.kept a2 (by simp));clear a2 L;go_wp2;go_ret;exact⟨⟨_,D,D⟩,a4.out,a6.out⟩
 .rw[hl]at o;have c:=V o;have a:jr R f lg i K=qT R .fin (xn R K) (gQ R f lg [] (vw R K)):=by unfold jr;rw[dw hl]
  rw[a];have X:=V (λq=>amz (.inr ⟨D,D⟩) r R i K g p b lg f z (w.drewN q) (show Rd (w.drewN q) r R i K from M.out) (t.out.kept ((Z.refl [r] w).drewN q)) (by omega) x);generalize qT R .fin (xn R K) (gQ R f lg [] (vw R K))=T at X|-;clear o a hl;cases T with
  |stop=>
   go_enter func158,ntmps158;go_wp2_with fail;refine c.out.mono ?_;rintro e w1⟨rfl,q,rfl⟩;go_wp2_with fail;refine(X.out q).mono ?_;rintro e w1⟨k,rfl,Q,h3,h4⟩;have H2:=V Q;have H4:=V (((Z.refl [r] w).drewN q).trans h4);have a8:zq w.heap<=k:=h3;clear Q h4 h3;go_wp2;exact⟨D,k,D,H2.out,a8,H4.out⟩
  |tok kd m=>
   go_enter func158,ntmps158;go_wp2_with fail;refine c.out.mono ?_;rintro e w1⟨rfl,q,rfl⟩;go_wp2_with fail;refine(X.out q).mono ?_;rintro e w4⟨⟨v,rfl,hv⟩,A,B⟩;have y:=V (show mU w r R i z (ff v) w4 (.tok kd m)from⟨⟨v,D,hv⟩,((Z.refl [r] w).drewN q).trans A,B⟩);clear hv A B X;go_wp2;go_ret;exact y.out
def isQ(R:RC)(K:Nat):Bool:=decide (K<R.A.size)&&fw ⟨#[63]⟩ (bt R.A K)
def j7(R:RC)(a:O->Option O)(lg b K:Nat):zG:=
 if sO R K=C then qT R .Q4 (xn R K) (gQ R a lg [] (vw R K))
 else if pre (R.A.extract K R.A.size) ⟨#[47]⟩=C then jr R a lg b (K+1)
 else if pre (R.A.extract K R.A.size) uL=C then .tok (.Sy (jG (jY R (K+3)))) (kh R (K+3))
 else if xi R gy K=C then .tok (.dtp (P5 R (K+8)) (Ld R (K+8))) (pC R (D6 R (K+8)))
 else if pre (R.A.extract K R.A.size) ⟨#[33]⟩=C then .tok (.Sy (jG (R.A.extract (K+1) (gZ (fw eV) R.A (K+1))))) (pC R (K+1))
 else if isQ R K=C then .tok (.Sy (jG (R.A.extract K (gZ (fw eV) R.A K)))) (pC R K)
 else mZ R a lg b
theorem TC(h:xi R s K=C)(d:K<=R.A.size):K+s.size<=R.A.size:=by grind[xi]
theorem adS(r:Nat)(R:RC)(a K:Nat)(w:J)(h:Rd w r R a K)(g:K<=R.A.size)(l:R.A.size<=1024):dS 155 #[dq r,.func (.func 254) #[] #[dq w.heap.size]] (w.alloc (.cells #[Y ⟨#[63]⟩] 9))
   λe U=>e=ff (.bool (isQ R K))/\Z [r] w U/\Rd U r R a K:=by
 have p:=fp h;have k:Z [] w (w.alloc (.cells #[Y ⟨#[63]⟩] 9)):=(Z.refl _ _).alloc _;refine(KM r R a K _ _ _ _ (k.at h (by simp)) g l (Cq _ [r] _ ⟨#[63]⟩ (by simp) (by simp) (by grind))).mono ?_;rintro e U⟨d,n,rfl⟩;exact⟨d,(k.mono (by simp)).drewN n,k.at h (by simp)⟩
def PG(r:Nat)(R:RC)(f K g a b lg:Nat)(i:O->Option O)(z:Nat->Nat)(w:J)(h:Rd w r R f K)(n:xT w r R g a b lg i z)(hb:f<R.A.size)(S:K<=R.A.size):dS 86 #[dq r] w λe U=>mU w r R f z e U (j7 R i lg f K):=by
 have W:=n.small;have ab:=BO r R f K w h S W;obtain⟨T,u⟩:∃T,j7 R i lg f K=T:=⟨_,D⟩;rw[u];unfold j7 at u;go_enter func86,ntmps86;go_wp21;refine ab.mono ?_;rintro e w1⟨rfl,q,rfl⟩;have X:=(Z.refl [r] w).drewN q;have y:Rd (w.drewN q) r R f K:=h;cases c0:sO R K with
 |true=>
  rw[dw c0]at u;have d:=n.kept X;have E:=amz (.inl ⟨D,D⟩) r R f K g a b lg i z (w.drewN q) y d (by omega) S;rw[u]at E;cases T with
  |stop=>
   go_wp21;refine E.mono ?_;rintro e c⟨k,rfl,s,h3,t⟩;have j:=mU.back (show mU (w.drewN q) r R f z _ c .stop from⟨k,D,s,h3,t⟩) X;go_wp2;exact⟨D,j⟩
  |tok kd m=>
   go_wp21;refine E.mono ?_;rintro e c⟨⟨v,rfl,x⟩,p,l⟩;have j:=mU.back (show mU (w.drewN q) r R f z (ff v) c (.tok kd m)from⟨⟨v,D,x⟩,p,l⟩) X;go_wp2;go_ret;exact j
 |false=>
  rw[di (by simp[c0])]at u;have G:=jQ r R f K ⟨#[47]⟩ (w.drewN q) y S W (by decide);go_wp21;refine G.mono ?_;rintro e w2⟨rfl,p,l⟩;have a0:=X.trans p;unfold fZ at l;cases c1:pre (R.A.extract K R.A.size) ⟨#[47]⟩with
  |true=>
   rw[dw c1]at u l;have d:=n.kept a0;have E:=MH r R f (K+1) g a b lg i z w2 l d hb (jO c1 S);rw[u]at E;cases T with
   |stop=>
    go_wp21;refine E.mono ?_;rintro e c⟨k,rfl,s,h3,t⟩;have j:=mU.back (show mU w2 r R f z _ c .stop from⟨k,D,s,h3,t⟩) a0;go_wp2;exact⟨D,j⟩
   |tok kd m=>
    go_wp21;refine E.mono ?_;rintro e c⟨⟨v,rfl,x⟩,p,l⟩;have j:=mU.back (show mU w2 r R f z (ff v) c (.tok kd m)from⟨⟨v,D,x⟩,p,l⟩) a0;go_wp2;go_ret;exact j
  |false=>
   rw[di (by simp[c1])]at u l;have H:=jQ r R f K uL w2 l S W (by decide);go_wp21;refine H.mono ?_;rintro e w3⟨rfl,p,l⟩;have a1:=a0.trans p;unfold fZ at l;cases c2:pre (R.A.extract K R.A.size) uL with
   |true=>
    rw[dw c2]at u l;have d:=n.kept a1;have E:=(SB r R f (K+3) g a z w3 l d.bY d.A (by omega) (jO c2 S) W);subst u;go_wp21;refine E.mono ?_;rintro e c⟨rfl,p,B⟩;have A:=a1.trans p;go_wp2;go_ret;exact⟨⟨_,D,D⟩,A,B⟩
   |false=>
    rw[di (by simp[c2])]at u l;have I:=UX r R f K gy w3 l S W (by decide);go_wp21;refine I.mono ?_;rintro e w4⟨rfl,p,l⟩;have a2:=a1.trans p;cases c3:xi R gy K with
    |true=>
     rw[dw c3]at u l;have d:=n.kept a2;have E:=(MP r R f (K+8) g a z w4 l d.bY d.A (by omega) (TC c3 S) W);subst u;go_wp21;refine E.mono ?_;rintro e c⟨rfl,p,B⟩;have A:=a2.trans p;go_wp2;go_ret;exact⟨⟨_,D,D⟩,A,B⟩
    |false=>
     rw[di (by simp[c3])]at u l;have L:=jQ r R f K ⟨#[33]⟩ w4 l S W (by decide);go_wp21;refine L.mono ?_;rintro e C⟨rfl,p,l⟩;have a3:=a2.trans p;unfold fZ at l;cases c4:pre (R.A.extract K R.A.size) ⟨#[33]⟩with
     |true=>
      rw[dw c4]at u l;have d:=n.kept a3;have E:=(tN r R f (K+1) g a z C l d.bY d.A (by omega) (jO c4 S) W);subst u;go_wp21;refine E.mono ?_;rintro e c⟨rfl,p,B⟩;have A:=a3.trans p;go_wp2;go_ret;exact⟨⟨_,D,D⟩,A,B⟩
     |false=>
      rw[di (by simp[c4])]at u l;go_wp21;refine(nI _ _).mono ?_;rintro e N⟨rfl,rfl⟩;have M:=adS r R f K C l S W;go_wp21;refine M.mono ?_;rintro e F⟨rfl,p,l⟩;have o:=a3.trans p;have d:=n.kept o;cases c5:isQ R K with
      |true=>
       rw[dw c5]at u;have E:=(tN r R f K g a z F l d.bY d.A (by omega) S W);subst u;go_wp21;refine E.mono ?_;rintro e c⟨rfl,p,B⟩;have A:=o.trans p;go_wp2;go_ret;exact⟨⟨_,D,D⟩,A,B⟩
      |false=>
       rw[di (by simp[c5])]at u;have E:=(DU r R f K g a b lg i z F l d.bY d.j hb W);subst u;go_wp21;refine E.mono ?_;rintro e c⟨rfl,p,B⟩;have A:=o.trans p;go_wp2;go_ret;exact⟨⟨_,D,D⟩,A,B⟩
def PV(t:O):O:=⟨(kn t.data.toList [60,47]).toArray⟩
def I3(t:O):Bool:=o7 t.data.toList [60,47]
theorem agH(t:O):(PV t).size<=t.size:=by have e2:(PV t).size=ln (kn _ _):=rfl;rw[(o8 t),e2];unfold kn;grind
def wm(R:RC)(nm:O)(K:Nat):Bool:=
 I3 (R.A.extract K R.A.size)&&decide (nm.size<(PV (R.A.extract K R.A.size)).size)&&((small ((PV (R.A.extract K R.A.size)).extract 0 nm.size)).toList==nm.toList)&&fw fY (bt (PV (R.A.extract K R.A.size)) nm.size)
def GS(v:dB)(W:J):Prop:=∃b,v=.func (.func 254) #[] #[dq b]/\b<zq W.heap/\W.cell? ⟨b,0,F⟩=H (Y fY)
def GS.k{v:dB}{W d:J}(h:GS v W)(g:Z [] W d):GS v d:=by have⟨b,h1,h2,h3⟩:=h;exact⟨b,h1,kQ h2 g.size,(g.cell h2 (by simp)).trans h3⟩
theorem GS.new(W:J):GS (.func (.func 254) #[] #[dq W.heap.size]) (W.alloc (.cells #[Y fY] 9)):=by simp[GS]
def aaX(r:Nat)(R:RC)(j K:Nat)(nm:O)(w:J)(h:Rd w r R j K)(H:K<=R.A.size)(P:R.A.size<=1024):dS 150 #[dq r,Y nm] w (vc w (.bool (wm R nm K))):=by
 unfold wm;have S:=V (E0 r R j K w h H P);have M:=agH (R.A.extract K R.A.size);have v:(R.A.extract K R.A.size).size=R.A.size-K:=by simp
 rw[v]at M;clear h v;generalize R.A.extract K R.A.size=t at *;have a:=V (λw=>Tryz.strings_CutPrefix t uN w);simp only at a;rw[show(⟨(kn t.data.toList [60,47]).toArray⟩:O)=PV t from D,show o7 t.data.toList [60,47]=I3 t from D]at a;generalize PV t=s at *;have T:=V (λW=>yo (s.extract 0 nm.size) W (by simp;omega));generalize small (s.extract 0 nm.size)=u at *;have hb:=get_bt s nm.size;have F:=bt_nonneg s nm.size;have h1:=bt_le s nm.size;generalize bt s nm.size=c at *;have n:((nm.size:Int)<(s.size:Int))=(decide (nm.size<s.size)=C):=by simp
 have hl:decide (nm.size<s.size)=C->nm.size<s.size:=of_decide_eq_true;generalize decide (nm.size<s.size)=L at *;generalize hE:(u.toList==nm.toList)=Q at *;generalize I3 t=A at *;have f:=V n;clear n;go_enter func150,ntmps150;go_wp2_with fail;refine S.out.mono ?_;rintro e w1⟨rfl,q,rfl⟩;go_wp2_with fail;refine(a.out _).mono ?_;rintro e U⟨rfl,rfl⟩;go_wp2_with fail;refine xr (by kernel_rfl) ?_;refine oW (λ(g:dB) z=>⟨#[dq r,Y nm,qu,qu,ce z 22 (.bool I) (.bool (A&&L&&Q&&fw fY c)),Y s,.bool A,G nm.size,.tuple #[Y s,.bool A],dq r,Y t,.tuple #[Y s,.bool A],Y s,.bool A,Y nm,G nm.size,cd z 0 (.bool A),cd z 1 (.bool A),cond A (cd z 2 (Y s)) qu,cond A (cd z 3 (G s.size)) qu,cond A (cd z 4 (G nm.size)) qu,cond A (cd z 5 (.bool L)) qu,cd z 6 (.bool (A&&L)),cd z 7 (.bool (A&&L)),cond (A&&L) (cd z 8 (Y s)) qu,cond (A&&L) (cd z 9 (G nm.size)) qu,cond (A&&L) (cd z 10 (Y (s.extract 0 nm.size))) qu,cond (A&&L) (cd z 11 (Y u)) qu,cond (A&&L) (cd z 12 (Y nm)) qu,cond (A&&L) (cd z 13 (.bool Q)) qu,cd z 14 (.bool (A&&L&&Q)),cd z 15 (.bool (A&&L&&Q)),cond (A&&L&&Q) (cd z 16 (g)) qu,cond (A&&L&&Q) (cd z 17 (Y s)) qu,cond (A&&L&&Q) (cd z 18 (G nm.size)) qu,cond (A&&L&&Q) (cd z 19 (.int .u8 c)) qu,cond (A&&L&&Q) (cd z 20 (.bool (fw fY c))) qu,cd z 21 (.bool (A&&L&&Q&&fw fY c))],[]⟩) (λg z W=>Z [] w W/\(dn z 16=C->A&&L&&Q->GS g W)) 23 [[],[0],[1],[1,2],[1],[1,3,4],[1,5],[6],[7],[7],[7,8,9],[7,10],[7],[7,11,12],[7,13],[14],[15],[15],[15],[15,17,18],[15,16,19],[15,20],[21]] qu D (by cases A<;>cases L<;>cases Q<;>rfl) ⟨((Z.refl [] w).drewN q).drew,λh=>by cases h⟩ ?_ ?_
 .cases A
  case' true=>
   cases L
   case' false=>have hy:s.size<=nm.size:=by simpa using f.out
   case' true=>
    replace hl:=hl D;replace hb:=hb hl;cases Q
  all_goals repeat' first|exact kY|refine kX ?_ ?_
  all_goals
   rintro g z W d E hn;simp[Cm]at E;refine lz D ?_;intro N k;simp only[kJ,E,cond_true,cond_false,Bool.and_true,Bool.true_and,Bool.false_and,Bool.and_false]
   try simp only[f.out]
   go_simp
   try (rw[dw (by omega)];go_simp)
   first
   |refine k _ _ ⟨g,?_,d.1,λh=>d.2 (by simpa [jy]using h)⟩
   |refine k _ _ ⟨g,?_,d.1,λ_ h=>by simp at h⟩
   |refine(T.out W).mono ?_;rintro m i⟨rfl,B⟩;refine k _ _ ⟨g,?_,d.1.trans B,λh b=>(d.2 (by simpa [jy]using h) b).k B⟩
   |refine(nI _ W).mono ?_;rintro m i⟨rfl,rfl⟩;refine k _ _ ⟨_,?_,d.1.alloc _,λ_ _=>GS.new W⟩
   |obtain⟨y,rfl,a0,X⟩:=d.2 (by simp[E]) D;have l:=Cq W [] y _ X a0 (by simp);have a1:=l.A;go_simp;refine(l.ask c W F h1 (Z.refl _ _)).mono ?_;rintro m i⟨rfl,nq,rfl⟩;refine k _ _ ⟨_,?_,d.1.drewN nq,λh b=>(d.2 (by simpa [jy]using h) b).k ((Z.refl [] W).drewN nq)⟩
   simp[pA,wY,kJ,vf,DS,E]
   try omega
 .rintro g W d;simp only[xw,PM];have o:=V d.1;clear d;rename_i x p;refine p _ _ ?_;clear p x;go_wp2;go_ret;exact⟨D,o.out⟩
def mO(R:RC)(a:O->Option O)(lg b:Nat):zG:=
 if R.e=C then .tok (.DD (jG (R.A.extract b (b+1)))) (b+1)
 else .tok (.DD (jG (nu a lg (R.A.extract b R.A.size)))) (b+mx a lg (R.A.extract b R.A.size))
theorem vY(h:IM look):(nu look lg s).size<=16:=by grind[xG,ev,nu]
def Ma(r:Nat)(R:RC)(c K l:Nat)(g:O)(pl:Bool)(z:Nat->Nat)(w:J)(h:Rd w r R c K)(o:Gl w r)(a:R.e=pl)(S:g.size<=1048576)(f:Nat)(b:f=(if pl then 151 else 87))
  (i:dS f #[dq r] w λe U=>e=ff (.agg #[G (z c),G (z l),Y g])/\Z [r] w U/\Rd U r R c l):dS 84 #[dq r] w λe U=>mU w r R c z e U (.tok (.DD (jG g)) l):=by
 have p:=h.e;rw[a]at p;have C:=fp h;have j:=i;have m:=o;have A:=(λW (s:Gl W r)=>yf r g W S s);generalize jG g=nn at *;cases pl
 all_goals
  simp only[uS,↓reduceIte]at b;subst b;go_enter func84,ntmps84;go_wp21;refine j.mono ?_;rintro e v⟨rfl,d,k⟩;have T:=(Z.refl [] v).alloc (.cells #[G (z c),G (z l),Y g] 186);have X:=aY v (.cells #[G (z c),G (z l),Y g] 186);have E:zq v.heap≠r:=by have:=fp k;omega
  have B:=A _ (m.kept (d.trans (T.mono (by simp))));have n:=d.size;go_wp21;refine B.mono ?_;rintro e w2⟨rfl,q⟩;have u:=q.at X (by simp);have t:=aF u 0;have x:=aF u 1;have y:=aF u 2;have F:=cY u 2;dsimp at t x y;have KW:Z [] v w2:=T.trans q;go_wp2;go_ret;exact⟨⟨_,D,D⟩,((d.trans (KW.mono (by simp))).setCell (.inr n) _),((k.kept KW (by simp)).g E _)⟩
theorem XH(r:Nat)(R:RC)(c K g k b lg:Nat)(a:O->Option O)(z:Nat->Nat)(w:J)(h:Rd w r R c K)(d:xT w r R g k b lg a z)(l:c<R.A.size):dS 84 #[dq r] w λe U=>mU w r R c z e U (mO R a lg c):=by
 unfold mO;split;rename_i p;exact Ma r R c K _ _ C z w h d.A p (by grind[ev]) _ D (DN r R c K g k z w h d.bY l d.small);exact Ma r R c K _ _ I z w h d.A (by grind) (gR (vY d.j.lk.short) (by decide)) _ D (DU r R c K g k b lg a z w h d.bY d.j l d.small)
def pJ(R:RC)(K:Nat):RC:={R with a:=if wm R R.a K=C then ⟨#[]⟩else R.a}
theorem adM(r:Nat)(R:RC)(c K:Nat)(w:J)(h:Rd w r R c K)(a:K<=R.A.size)(T:R.A.size<=1024):dS 83 #[dq r] w λe U=>e=ff (.bool (!((pJ R K).a.toList==[])))/\Z [r] w U/\Rd U r (pJ R K) c K:=by
 by_cases l:R.a=⟨#[]⟩
 .have e1:pJ R K=R:=by have⟨cs,av,at_,mv,lg,fN,Xf⟩:=R;simp only at l;subst l;simp[pJ]
  rw[e1,l];refine((show Calls prog 83 #[dq r] w λe U=>e=ff (.bool I)/\Z [] w U by have o:=h.a;rw[l]at o;have S:=fp h;go_enter func83,ntmps83;go_wp2;go_ret;exact⟨D,Z.refl _ _⟩)).mono ?_
  rintro e U⟨rfl,d⟩;exact⟨by simp,d.mono (by simp),h.kept d (by simp)⟩
 .have u:(R.a.toList==[])=I:=by
   cases hq:(R.a.toList==[])with
   |false=>rfl
   |true=>
    exfalso;apply l;have E:R.a.toList=[]:=by simpa using hq
    rw[th]at E;apply rW;grind
  have o:=h.a;have S:=fp h;have a0:=aaX r R c K R.a w h a T;have v:=h;unfold pJ;cases hE:wm R R.a K
  .rw[hE]at a0;have q:=V (show(!((if I=C then iJ else R.a).toList==[]))=C by simp[u]);have A:Hid (∀W,Rd W r R c K->Rd W r {R with a:=if I=C then ⟨#[]⟩else R.a} c K):=λW h=>h;rw[q.out];go_enter func83,ntmps83;go_wp21;refine a0.mono ?_;rintro e X⟨rfl,d⟩;have k:=v.kept d (by simp);have b:=k.a;have B:=d.mono (S':=[r]) (by simp);go_wp2;go_ret;simp_all
  .rw[hE]at a0;have A:Hid (∀W,Rd W r R c K->Rd (W.setCell ⟨r,7,F⟩ (Y iJ)) r {R with a:=if C=C then ⟨#[]⟩else R.a} c K):=λW h=>(show Rd (W.setCell ⟨r,7,F⟩ (Y _)) r {R with a:=_} c K from bH h 7 _);have q:=V (show(!((if C=C then iJ else R.a).toList==[]))=I by simp);rw[q.out];go_enter func83,ntmps83;go_wp21;refine a0.mono ?_;rintro e X⟨rfl,d⟩;have g:=v.kept d (by simp);have b:=g.a;have f1:=g.free 7;have B:=(d.mono (S':=[r]) (by simp)).setCell (p:=⟨r,7,F⟩) (.inl (by simp)) (Y iJ);have k:=A _ g;go_wp2;go_ret;simp_all
def eA(R:RC)(a:O->Option O)(lg K:Nat):zG:=
 if K=R.A.size then .tok .Mw K
 else if ((pJ R K).a.toList==[])=C then (if pre (R.A.extract K R.A.size) oY=C then j7 (pJ R K) a lg K (K+1)else mZ (pJ R K) a lg K)
 else mO (pJ R K) a lg K
def qK(R:RC)(K:Nat):RC:=if K=R.A.size then R else pJ R K
def aks(r:Nat)(R:RC)(bg K g a2 b lg:Nat)(f:O->Option O)(z:Nat->Nat)(w:J)(h:Rd w r R bg K)(hO:xT w r R g a2 b lg f z)(hp:K<=R.A.size):dS 50 #[dq r] w λe U=>mU w r (qK R K) K z e U (eA R f lg K):=by
 have P:=hO.small;have p2:=h.bg;have p3:=h.ps;have f2:=h.free 2;obtain⟨a,a6⟩:∃a,a=w.setCell ⟨r,2,F⟩ (G K):=⟨_,D⟩;have a3:Rd a r R K K:=by rw[a6];exact bH h 2 _
 have X:Z [r] w a:=by rw[a6];exact(Z.refl _ _).setCell (.inl (by simp)) _
 have y:=V a6.symm;have j:=hO.kept X;have x:=nr r R K K a a3;clear h hO a6;by_cases u:K=R.A.size
 .have N:eA R f lg K=.tok .Mw K:=by unfold eA;rw[dw u]
  have M:qK R K=R:=by unfold qK;rw[dw u]
  rw[N,M];have L:decide (K=R.A.size)=C:=by simp[u]
  rw[L]at x;have W:=V x;clear x N L u M;go_enter func50,ntmps50;go_wp21;rw[y.out];refine W.mono ?_;rintro e w2⟨rfl,q,rfl⟩;have CP:=qC r R K K g a2 z (a.drewN q) (show Rd (a.drewN q) r R K K from a3) (j.kept ((Z.refl [r] a).drewN q)).bY hp hp P;go_wp21;refine CP.mono ?_;rintro e w3⟨rfl,d⟩;have p:=(X.drewN q).trans (d.mono (by simp));have A:Hid (Rd w3 r R K K):=d.at (show Rd (a.drewN q) r R K K from a3) (by simp);clear d CP;go_wp2;go_ret;exact⟨⟨_,D,D⟩,p,A⟩
 .have L:decide (K=R.A.size)=I:=by simp[u]
  rw[L]at x;have W:=V x;clear x L;have M:qK R K=pJ R K:=by unfold qK;rw[di u]
  have N:eA R f lg K=if ((pJ R K).a.toList==[])=C then (if pre ((pJ R K).A.extract K (pJ R K).A.size) oY=C then j7 (pJ R K) f lg K (K+1)else mZ (pJ R K) f lg K)else mO (pJ R K) f lg K:=by unfold eA;rw[di u];rfl
  have t:=(λq=>adM r R K K (a.drewN q) (show Rd (a.drewN q) r R K K from a3) hp P);have a1:xT a r (pJ R K) g a2 b lg f z:=⟨⟨j.bY.B,j.bY.ne,j.bY.lt,j.bY.at_⟩,⟨j.j.lk,j.j.ne,j.j.d,j.j.A,j.j.le⟩,j.A,j.small⟩;have a7:K<(pJ R K).A.size:=by show K<R.A.size;omega
  have aa:(pJ R K).A.size<=1024:=P;rw[N,M];clear N M u hp P j a3;generalize pJ R K=B at *;clear R;have s:=λw2 (n:Rd w2 r B K K)=>jQ r B K K oY w2 n (by omega) aa (by decide);cases ho:(B.a.toList==[])
  .rw[ho]at t;rw[di (by simp)];have HT:=(λU h1 n=>XH r B K K g a2 b lg f z U h1 n a7);generalize mO B f lg K=T at HT|-;clear ho s;cases T with
   |stop=>
    go_enter func50,ntmps50;go_wp21;rw[y.out];refine W.mono ?_;rintro e w2⟨rfl,q,rfl⟩;go_wp21;refine(t q).mono ?_;rintro e w3⟨rfl,d,l⟩;have p:=((Z.refl [r] a).drewN q).trans d;have A:=V l;clear d l;have i:=HT w3 A (a1.kept p);have a0:=X.trans p;go_wp21;refine i.mono ?_;rintro e wz⟨k,rfl,n,h3,Q⟩;have o:=mU.back (show mU w3 r B K z _ wz .stop from⟨k,D,n,h3,Q⟩) a0;clear n h3 Q i;go_wp2;exact⟨D,o⟩
   |tok kd m=>
    go_enter func50,ntmps50;go_wp21;rw[y.out];refine W.mono ?_;rintro e w2⟨rfl,q,rfl⟩;go_wp21;refine(t q).mono ?_;rintro e w3⟨rfl,d,l⟩;have p:=((Z.refl [r] a).drewN q).trans d;have A:=V l;clear d l;have i:=HT w3 A (a1.kept p);have a0:=X.trans p;go_wp21;refine i.mono ?_;rintro e wz⟨⟨v,rfl,hv⟩,hk,hr⟩;have o:=mU.back (show mU w3 r B K z (ff v) wz (.tok kd m)from⟨⟨v,D,hv⟩,hk,hr⟩) a0;clear hv hk hr i;go_wp2;go_ret;exact o
  .rw[ho]at t;rw[dw D];cases hl:pre (B.A.extract K B.A.size) oY
   .rw[di (by simp)];have H:fZ B oY K=K:=by unfold fZ;rw[di (by simp[hl])]
    rw[hl,H]at s;have a5:=V s;clear s H hl ho;go_enter func50,ntmps50;go_wp21;rw[y.out];refine W.mono ?_;rintro e w2⟨rfl,q,rfl⟩;go_wp21;refine(t q).mono ?_;rintro e w3⟨rfl,d,l⟩;have p:=((Z.refl [r] a).drewN q).trans d;have A:=V l;clear d l;go_wp21;refine(a5 _ A).mono ?_;rintro e w4⟨rfl,c,S⟩;have E:=p.trans c;have i:=DU r B K K g a2 b lg f z w4 S (a1.kept E).bY (a1.kept E).j a7 aa;clear c S;go_wp21;refine i.mono ?_;rintro e w5⟨rfl,a8,a9⟩;have o:=(show mU w r B K z (ff (.iface 186 (.agg #[G (z K),G (z (K+mx f lg (B.A.extract K B.A.size))),Y (nu f lg (B.A.extract K B.A.size))]))) w5 (mZ B f lg K)from⟨⟨_,D,D⟩,X.trans (E.trans a8),a9⟩);clear a8 a9 i;go_wp2;go_ret;exact o
   .rw[dw D];have H:fZ B oY K=K+1:=by unfold fZ;rw[dw hl];rfl
    have ab:K+1<=B.A.size:=jO hl (by omega);rw[hl,H]at s;have a5:=V s;have HL:=(λU h1 n=>PG r B K (K+1) g a2 b lg f z U h1 n a7 ab);generalize j7 B f lg K (K+1)=T at HL|-;clear s H hl ho;cases T with
    |stop=>
     go_enter func50,ntmps50;go_wp21;rw[y.out];refine W.mono ?_;rintro e w2⟨rfl,q,rfl⟩;go_wp21;refine(t q).mono ?_;rintro e w3⟨rfl,d,l⟩;have p:=((Z.refl [r] a).drewN q).trans d;have A:=V l;clear d l;go_wp21;refine(a5 _ A).mono ?_;rintro e w4⟨rfl,c,S⟩;have E:=p.trans c;have i:=HL w4 S (a1.kept E);have a0:=X.trans E;clear c S;go_wp21;refine i.mono ?_;rintro e wz⟨k,rfl,n,h3,Q⟩;have o:=mU.back (show mU w4 r B K z _ wz .stop from⟨k,D,n,h3,Q⟩) a0;clear n h3 Q i;go_wp2;exact⟨D,o⟩
    |tok kd m=>
     go_enter func50,ntmps50;go_wp21;rw[y.out];refine W.mono ?_;rintro e w2⟨rfl,q,rfl⟩;go_wp21;refine(t q).mono ?_;rintro e w3⟨rfl,d,l⟩;have p:=((Z.refl [r] a).drewN q).trans d;have A:=V l;clear d l;go_wp21;refine(a5 _ A).mono ?_;rintro e w4⟨rfl,c,S⟩;have E:=p.trans c;have i:=HL w4 S (a1.kept E);have a0:=X.trans E;clear c S;go_wp21;refine i.mono ?_;rintro e wz⟨⟨v,rfl,hv⟩,hk,hr⟩;have o:=mU.back (show mU w4 r B K z (ff v) wz (.tok kd m)from⟨⟨v,D,hv⟩,hk,hr⟩) a0;clear hv hk hr i;go_wp2;go_ret;exact o
def SY(bs bm d r:Nat)(a:io)(R:RC)(b K:Nat)(l:J)(k:dB)(g:iB):fS:={Yq bs bm d r a R b K l with a:=k,B:=g}
def QR(R:RC)(o:O)(p:Bool):RC:={R with a:=o,e:=p}
def abl(R:RC)(a K:Nat)(o:O)(p:Bool):((xE R a K).setIfInBounds 7 (Y o)).setIfInBounds 8 (.bool p)=xE (QR R o p) a K:=rfl
def RF.d{bs bm d r:Nat}{a:io}{l:J}{k:dB}{g:iB}{f:Nat->Nat}(h:RF (SY bs bm d r a R bg K l k g) f X w):Rd w r (QR R X.a X.S) bg K:=by
 have⟨L,_,hr⟩:=h;have e:w.heap[r]?=H (.cells (((xE R bg K).setIfInBounds 7 _).setIfInBounds 8 _) 163 _):=hr.rd
 rwa [abl]at e
theorem RF.l{bs bm bB r:Nat}{z:io}{w0:J}{tv:dB}{ta:iB}{f:Nat->Nat}(h:RF (SY bs bm bB r z R bg K w0 tv ta) f X w)(T:List TypeId)(p:KT bs T w U)(M:∀t∈Z4,t∈T->t=163)(V:∀t∈T,t∈My){u s:Nat}{o:O}(Y:Rd U r (QR R o X.S) u s)
  (l:dB) (q:iB) (a3:AX U l q) (a1:ln q<=4096) (fr:Bool) (a0:fr=C->∀g,l.ownBlock=H g->zq w.heap<=g) (I:∀g,l.ownBlock=H g->bs<=g):RF (SY bs bm bB r z R u s U l q) f {X with E:=fr,a:=o} U:=by
 have⟨L,e,h⟩:=h;have E:∀t∈Z4,t≠163->t∉T:=λt G a2 x=>a2 (M t G x);have⟨C',hbl,hC⟩:=h.dP;have A:yD bm w U:=by have⟨S,hk,hS⟩:=p;exact⟨S,hk,λk h1 D=>by grind⟩
 have B:∀(b:Nat)(W:Array MapEntry)(j:Nat),w.heap[b]?=H (Obj.map W j)->U.heap[b]?=H (Obj.map W j):=by intro b W j a;have⟨S,hk,hS⟩:=p;refine(hk.block b ((dD.1 a).1) λx=>?_).trans a;have⟨⟨c,t,m,n,_⟩,_⟩:=hS b x ((dD.1 a).1);rw[a]at n;cases n
 refine⟨L,e,?_⟩;have d:=R5.move h.env h.d A B;exact
  {d:=Fr.refl _
   env:=⟨d.z,d.IA,d.spec,d.A,d.B,d.u⟩
   k:=h.k
   B:=λi nd F=>(h.B i nd F).l p (λt G=>E t (by revert t;decide) (by revert t;decide))
   inj:=h.inj
   b:=h.b
   m:=h.m
   T:=h.T
   f:=h.f
   wf:=⟨h.wf.A,h.wf.B,h.wf.head,h.wf.j,h.wf.E,h.wf.q,h.wf.u⟩
   dP:=⟨C',p.at hbl (E _ (by decide) (by decide)),⟨hC.size,hC.low,hC.A,hC.B,hC.head,hC.j,hC.g,hC.kept,hC.wait,hC.q,hC.W,hC.K,hC.P⟩⟩
   R:=p.row h.R (E _ (by decide) (by decide))
   S:=p.row h.S (E _ (by decide) (by decide))
   o:=h.o
   P:=h.P
   W:=h.W
   K:=p.row h.K (E _ (by decide) (by decide))
   s:=h.s
   rd:=by assumption
   u:=by show 7+1<9;decide
   tok:=a3
   q:=a1
   t:=gR (gR h.t h.d.size) p.size
   A:=h.A
   Q:=h.Q
   X:=h.X
   c:=λD i g F P y=>by
    have n:=a0 D g P;have Q:=by
     cases hel:X.h i with
     |none=>grind[fk.f]
     |some el=>
      exact((h.B i (.el el) (N.eH hel)).2.1.lt g y).2
    omega
   U:=h.U
   a:=I
   r:=λv y=>by cases y}
structure TkW(a b:Nat)(kd:Int)(T:TypeId)(x:dB):Prop where
 dX:∀w,(Go.method 496 T x "Bytes").run prog w=.ok (430,.agg #[G a,G b]) w
 nil:∀w,(nilAhead 496 T x "Bytes").run prog w=.ok (H I) w
 kind:∀w,dS 52 #[.iface T x] w λe w'=>e=ff (G kd)/\w'=w
def iX(a b:Nat):DK->dj
 | .Mw=>⟨a,b,.dZ,[]⟩
 | .DD t=>⟨a,b,.fI t,[]⟩
 | .Q4 nm L=>⟨a,b,.start nm,L⟩
 | .fin nm L=>⟨a,b,.stop nm,L⟩
 | .Sy t=>⟨a,b,.dz t,[]⟩
 | .dtp nm q=>⟨a,b,.eG nm q,[]⟩
 | .ic=>⟨a,b,.ic,[]⟩
def sP:DK->Nat
 | .Mw=>0
 | .DD _=>1
 | .Q4 _ _=>2
 | .fin _ _=>3
 | .Sy _=>4
 | .dtp _ _=>5
 | .ic=>6
def WV(a b:Int)(w:J):dS 52 #[.iface 188 (.agg #[G a,G b])] w λe U=>e=ff (G 6)/\U=w:=by have p:=Au;have d:=rQ;have l:=yd;have g:=yc;have k:=Bd;have q:=qj underlying188;go_enter func52,ntmps52;go_wp2;go_ret;simp
theorem ajq.is{i:Nat}{v:dB}{k:DK}(h:ajq i (a:Int) (b:Int) v w k)(a0:ln (iX a b k).A<=4096):∃T x X,v=.iface T x/\(∀E:fS,E.a=X->kP E (iX a b k)=.iface T x)/\TkW a b (sP k) T x/\(∃y m c,X=.slice y m c)/\AX w X (iX a b k).A/\(∀g,X.ownBlock=H g->i<=g):=by
 have B:∀g,(gq).ownBlock=H g->i<=g:=λg W=>by simp[Value.ownBlock]at W
 cases k with
 |Mw=>exact⟨_,_,gq,h,λ_ _=>D,⟨λw=>by kernel_rfl,λw=>by kernel_rfl,λw=>adZ (Yq 0 0 0 0 #[] ⟨⟨#[]⟩,.nilFunc,0,.nilFunc,0,⟨#[]⟩,I⟩ 0 0 w) a b w⟩,⟨_,_,_,D⟩,mY _ _ _ _,B⟩
 |DD t=>exact⟨_,_,gq,h,λ_ _=>D,⟨λw=>by kernel_rfl,λw=>by kernel_rfl,λw=>(by show Calls prog 52 #[kP (Yq 0 0 0 0 #[] ⟨⟨#[]⟩,.nilFunc,0,.nilFunc,0,⟨#[]⟩,I⟩ 0 0 w) ⟨a,b,.fI t,[]⟩] w λe U=>e=ff (G 1)/\U=w;simp only[kP];have l:=qj underlying186;go_enter func52,ntmps52;go_wp2;go_ret;simp)⟩,⟨_,_,_,D⟩,mY _ _ _ _,B⟩
 |Sy t=>exact⟨_,_,gq,h,λ_ _=>D,⟨λw=>by kernel_rfl,λw=>by kernel_rfl,λw=>(by show Calls prog 52 #[.iface 196 (.agg #[G a,G b,Y t])] w λe U=>e=ff (G 4)/\U=w;have l:=Au;have d:=rQ;have p:=yd;have A:=qj underlying196;go_enter func52,ntmps52;go_wp2;go_ret;simp)⟩,⟨_,_,_,D⟩,mY _ _ _ _,B⟩
 |dtp n q=>exact⟨_,_,gq,h,λ_ _=>D,⟨λw=>by kernel_rfl,λw=>by kernel_rfl,λw=>(by show Calls prog 52 #[.iface 198 (.agg #[G a,G b,Y n,.bool q])] w λe U=>e=ff (G 5)/\U=w;have l:=Au;have d:=rQ;have p:=yd;have A:=yc;have K:=qj underlying198;go_enter func52,ntmps52;go_wp2;go_ret;simp)⟩,⟨_,_,_,D⟩,mY _ _ _ _,B⟩
 |ic=>exact⟨_,_,gq,h,λ_ _=>D,⟨λw=>by kernel_rfl,λw=>by kernel_rfl,λw=>WV a b w⟩,⟨_,_,_,D⟩,mY _ _ _ _,B⟩
 |Q4 n L=>
  obtain⟨S,f,rfl,u⟩:=h;refine⟨_,_,.slice S (ln L) f,D,λE j=>?_,⟨λw=>by kernel_rfl,λw=>by kernel_rfl,λw=>(by show Calls prog 52 #[.iface 194 (.agg #[G a,G b,Y n,.slice S (ln L) f])] w λe U=>e=ff (G 2)/\U=w;have l:=Au;have d:=qj underlying194;go_wp2;go_ret;simp)⟩,⟨_,_,_,D⟩,gM u (eZ _),λg W=>(u.lt g W).1⟩
  grind[kP,iX]
 |fin n L=>
  obtain⟨S,f,rfl,u⟩:=h;refine⟨_,_,.slice S (ln L) f,D,λE j=>?_,⟨λw=>by kernel_rfl,λw=>by kernel_rfl,λw=>(by show Calls prog 52 #[.iface 195 (.agg #[G a,G b,Y n,.slice S (ln L) f])] w λe U=>e=ff (G 3)/\U=w;have l:=Au;have d:=rQ;have p:=qj underlying195;go_wp2;go_ret;simp)⟩,⟨_,_,_,D⟩,gM u (eZ _),λg W=>(u.lt g W).1⟩
  grind[kP,iX]
theorem oo{a b:O}(h:fG a b=C):a=b:=by grind[gL,ByteArray.toList_eq,Array.toList_inj,fG]
def eX:List Nd->List Nat
 |[]=>[]
 | .el j::r=>j::eX r
 | .tx _::r=>eX r
 | .cm _::r=>eX r
 | .dt _::r=>eX r
theorem vg(a b:List Nd):eX (a++b)=eX a++eX b:=by
 induction a with
 |nil=>rfl
 |cons k r ih=>cases k<;>simp[eX,ih]
def o9:∀{ks:List Nd},j∈eX ks↔Nd.el j∈ks
 |[]=>by simp[eX]
 |k::r=>by cases k<;>simp[eX,o9]
theorem A4(a:List Nd)(n:Nat)(j:Nat):(eX (ins a n (.el j))).Perm (j::eX a):=by grind[vg,fA,ins,eX]
theorem Wl(a:List Nd)(n:Nat)(k:Nd)(d:∀j,k≠ .el j):eX (ins a n k)=eX a:=by
 unfold ins;have h:eX a=eX (a.take n)++eX (a.drop n):=by rw[<-vg,Mu]
 rw[vg,vg,h];cases k with
 |el j=>grind
 |tx j=>simp[eX]
 |cm j=>simp[eX]
 |dt j=>simp[eX]
theorem YE(a:List Nd)(n:Nat)(k:Nd)(d:n<=ln a):ln (ins a n k)=ln a+1:=by grind[ins]
theorem YU{k x:Nd}:x∈ins ks n k↔x=k\/x∈ks:=by grind[fA,ins]
def ke:zE->Nat
 | .el e=> ln e.q
 | .tx s=>s.size
 | .cm _=>0
 | .dt _=>0
def wt(X:N):Nat:=(X.d.map ke).sum
theorem Rg:∀(l:List Nat)(i x y:Nat),l[i]?=H x->(l.set i y).sum+x=l.sum+y
 |[],i,x,y,h=>by grind
 |a::l,0,x,y,h=>by grind
 |a::l,i+1,x,y,h=>by have:=Rg l i x y h;grind
theorem afK{n m:zE}(h:X.d[i]?=H n):((X.d.set i m).map ke).sum+ke n=wt X+ke m:=by rw[List.map_set];exact Rg _ _ _ _ (by grind)
theorem wI{a:mh}(h:X.h i=H e):wt (X.l i a)+ln e.q=wt X+ln a.q:=afK (N.eH h)
theorem afI(X:N)(nd:zE):wt (X.add nd)=wt X+ke nd:=by grind[wt,N.add]
theorem Fv(X:N)(nd:zE)(b:Bool):wt (X.il nd b)=wt X+ke nd:=by grind[wt,N.il]
theorem afi:∀(l:List Nat)(i x:Nat),l[i]?=H x->x<=l.sum
 |[],i,x,h=>by grind
 |a::l,0,x,h=>by grind
 |a::l,i+1,x,h=>by have:=afi l i x h;grind
theorem WJ{n:zE}(h:X.d[i]?=H n):ke n<=wt X:=afi _ i _ (by grind)
def Jp(h:X.h i=H e):ln e.q<=wt X:=WJ (N.eH h)
structure CI(σ:N):Prop where
 up:∀i e p,σ.h i=H e->e.E=H p->∃ep,σ.h p=H ep/\i∈eX ep.q
 q:∀i e j,σ.h i=H e->j∈eX e.q->∃ej,σ.h j=H ej/\ej.E=H i
 nd:∀i e,σ.h i=H e->(eX e.q).Nodup
 g:∀i e,σ.h i=H e->∀k∈e.q,σ.q k=C
def rk(r:Nat->Nat):fW->Nat
 |some i=>r i
 |none=>0
structure NO(r:Nat->Nat)(σ:N):Prop where
 E:∀i e p,σ.h i=H e->e.E=H p->r p<r i
 A:σ.A.Pairwise λx y=>rk r x<rk r y
 B:∀d h,σ.head=H d->σ.A.head?=H (H h)->r h<r d
def rY(s:O):Bool:=cZ [xv,(⟨#[98]⟩:O),(⟨#[105]⟩:O),fD] s
def fa(X:N)(i:Nat)(s:O):Prop:=∃e,X.h i=H e/\e.name=s
structure fg(r:Nat->Nat)(σ:N):Prop where
 E:CI σ
 K:NO r σ
 A:∀x∈σ.A,σ.lj x=C
 B:∀i,H i∈σ.B->∃e,σ.h i=H e/\rY e.name=C
 head:∀d,σ.head=H d->fa σ d aZ
 j:∀d,σ.j=H d->fa σ d fR
 S:∀x rest,σ.A=x::rest->∃h,x=H h/\fa σ h aC
 P:ln σ.A<=σ.Q
 n:ln σ.B<=σ.R
 L:σ.Q<=64
 Q:σ.R<=32
 u:(σ.h 0).isSome=C
def kV(X:N):Prop:=∃r,fg r X
structure Fx(σ σ':N):Prop where
 g:σ'.g=σ.g
 kept:σ'.kept=σ.kept
 head:σ'.head=σ.head
 j:σ'.j=σ.j
 L:σ'.L=σ.L
 q:σ'.U=σ.U
 W:σ'.W=σ.W
 K:σ'.K=σ.K
 Q:σ'.Q=σ.Q
 R:σ'.R=σ.R
 T:σ'.T=σ.T
 nm:∀i s,fa σ i s->fa σ' i s
 S:σ.A≠[]->σ'.A.head?=σ.A.head?
theorem Fx.refl(X:N):Fx X X:=⟨D,D,D,D,D,D,D,D,D,D,D,by grind,λ_=>D⟩
theorem Fx.ne(h:Fx X W)(d:X.A≠[]):W.A≠[]:=by have:=h.S d;cases ho:X.A<;>grind
theorem Fx.trans{a b c:N}(h:Fx a b)(k:Fx b c):Fx a c:=
 ⟨k.g.trans h.g,k.kept.trans h.kept,k.head.trans h.head,k.j.trans h.j,k.L.trans h.L,k.q.trans h.q,k.W.trans h.W,k.K.trans h.K,k.Q.trans h.Q,k.R.trans h.R,k.T.trans h.T,λi s g=>k.nm i s (h.nm i s g),λd=>(k.S (h.ne d)).trans (h.S d)⟩
def fK{b:Type}(c:Nat)(X:N)(r:pj b)(Q:b->N->Prop):Prop:=match r with
 | .ok a W=>kV W/\Fx X W/\wt W<=wt X+c/\Q a W
 | .stop _ p=>p=X.K
 | .stuck=>False
theorem fK.mono{f:Type}{r:pj f}{Q b:f->N->Prop}(h:fK c X r Q)(g:c<=c')(d:∀a W,kV W->Fx X W->Q a W->b a W):fK c' X r b:=by
 cases r with
 |ok a W=>grind[fK]
 |stop e p=>exact h
 |stuck=>exact h
theorem fK.bind{f g:Type}{m:M f}{k:f->M g}{Q:f->N->Prop}{i:g->N->Prop}(h:fK c1 X (m X) Q)(l:∀a W,kV W->Fx X W->wt W<=wt X+c1->Q a W->fK c2 W (k a W) i)(q:c1+c2<=c):fK c X ((m>>=k) X) i:=by
 rw[M.cW];cases hm:m X with
 |ok a W=>
  rw[hm]at h;have⟨h1,h2,h3,h4⟩:=h;have d:=l a W h1 h2 h3 h4;cases hk2:k a W with
  |ok b σ2=>
   rw[hk2]at d;dsimp only;rw[hk2];exact⟨d.1,h2.trans d.2.1,by have:=d.2.2.1;omega,d.2.2.2⟩
  |stop e p=>
   rw[hk2]at d;dsimp only;rw[hk2];exact zk d h2.K
  |stuck=>grind[fK]
 |stop e p=>rwa [hm]at h
 |stuck=>grind[fK]
theorem fK.ret{b:Type}(d:kV X){Q:b->N->Prop}{a:b}(g:Q a X)(c:Nat:=0):fK c X ((aG a:M b) X) Q:=⟨d,Fx.refl _,by omega,g⟩
theorem kV.u(h:kV X):(X.h 0).isSome=C:=by have⟨r,h⟩:=h;exact h.u
theorem fa.lt(h:fa X i s):i<ln X.d:=by have⟨e,he,_⟩:=h;exact N.n he
theorem jj(h:X.lj x=C):∃i e,x=H i/\X.h i=H e:=by
 cases x with
 |none=>cases h
 |some i=>have⟨e,he⟩:=dh.1 h;grind
theorem fg.sub(h:fg r X)(p:ys.Sublist X.A)(k:ys.head?=X.A.head?):fg r {X with A:=ys}/\Fx X {X with A:=ys}:=by
 refine⟨⟨⟨h.E.up,h.E.q,h.E.nd,h.E.g⟩,⟨h.K.E,h.K.A.sublist p,?_⟩,λx l=>h.A x (p.subset l),h.B,h.head,h.j,?_,gR p.length_le h.P,h.n,h.L,h.Q,h.u⟩,⟨D,D,D,D,D,D,D,D,D,D,D,λ_ _ h=>h,λ_=>k⟩⟩;intro d x u l;exact h.K.B d x u (by grind);intro x g l;have q:ys=x::g:=l;rw[q]at k;cases ho:X.A with
 |nil=>grind
 |cons y r2=>
  rw[ho]at k;have e:=by simpa using k
  subst e;exact h.S x r2 ho
def wV(r:Nat->Nat)(n x:Nat):Nat->Nat:=λi=>if i=n then x else r i
def O9(r:Nat->Nat)(n x:Nat):wV r n x n=x:=by simp[wV]
theorem Rt{x:Nat}(h:i≠n):wV r n x i=r i:=by grind[wV]
def fg.k(h:fg r X)(d:H i∈X.A):i<ln X.d:=by have⟨j,e,hj,he⟩:=jj (h.A _ d);cases hj;exact N.n he
theorem NO.congr{g:Nat->Nat}(h:NO r X)(q:∀i e p,X.h i=H e->e.E=H p->g p<g i)(l:∀i,H i∈X.A->g i=r i)(k:∀d h,X.head=H d->X.A.head?=H (H h)->g h<g d):NO g X:=by
 refine⟨q,(h.A.imp_of_mem ?_),k⟩;have v:∀z∈X.A,rk g z=rk r z:=by
  intro z u;cases z with
  |none=>rfl
  |some i=>exact l i u
 grind
theorem fg.new(h:fg r X)(q:O)(bY:iB)(b:Bool)(x:Nat):fg (wV r (ln X.d) x) (X.il (.el {name:=q,A:=bY,E:=F,q:=[]}) b)/\Fx X (X.il (.el {name:=q,A:=bY,E:=F,q:=[]}) b):=by
 obtain⟨S,a0⟩:∃S:zE,S=.el {name:=q,A:=bY,E:=F,q:=[]}:=⟨_,D⟩;rw[<-a0];have hold:∀i e,X.h i=H e->(X.il S b).h i=H e:=λi e K=>by grind[N.h,N.il]
 have g:∀i e,(X.il S b).h i=H e->X.h i=H e\/(i=ln X.d/\e={name:=q,A:=bY,E:=F,q:=[]}):=by intro i e K;rcases N.Kg (nd:=S) K with⟨_,l⟩|⟨l,W⟩;grind;grind
 have A:∀i s,fa X i s->fa (X.il S b) i s:=λi s ⟨e,K,f⟩=>⟨e,hold i e K,f⟩;have v:∀i,i<ln X.d->wV r (ln X.d) x i=r i:=λi u=>Rt (by omega);refine⟨⟨⟨?_,?_,?_,?_⟩,⟨?_,?_,?_⟩,λy B=>N.Oh (h.A y B),λi u=>?_,λd E=>A _ _ (h.head d E),λd E=>A _ _ (h.j d E),λy T B=>?_,h.P,h.n,h.L,h.Q,?_⟩,⟨D,D,D,D,D,D,D,D,D,D,D,A,λ_=>D⟩⟩;intro i e p u U;rcases g i e u with l|⟨_,l⟩;have⟨ep,W,h3⟩:=h.E.up i e p l U;grind;grind;intro i e j u a;rcases g i e u with l|⟨_,l⟩;have⟨ej,W,h3⟩:=h.E.q i e j l a;grind;rw[l]at a;simp[eX]at a;intro i e u;rcases g i e u with l|⟨_,l⟩;exact h.E.nd i e l;grind[eX];intro i e u k hk;rcases g i e u with l|⟨_,l⟩;exact N.F2 (h.E.g i e l k hk);grind;intro i e p u U;rcases g i e u with l|⟨_,l⟩;rw[v p ((by have⟨ep,l,_⟩:=h.E.up i e p l U;exact N.n l)),v i (N.n l)]
 exact h.K.E i e p l U;grind;refine h.K.A.imp_of_mem ?_;intro y z B c a1;have m:∀z∈X.A,rk (wV r (ln X.d) x) z=rk r z:=by
  intro z c;cases z with
  |none=>rfl
  |some i=>exact v i (h.k c)
 grind;intro d y E B;rw[v y (h.k (uc B)),v d (h.head d E).lt];exact h.K.B d y E B;have⟨e,K,hf⟩:=h.B i u;grind;have⟨z,l,W⟩:=h.S y T B;grind;have⟨e,K⟩:=dh.1 h.u;grind
theorem zV(r:Nat->Nat):∀n,∃B,∀i,i<n->r i<=B
 |0=>⟨0,by grind⟩
 |n+1=>by have⟨B,hB⟩:=zV r n;refine⟨B+r n,λi d=>?_⟩;grind
theorem fg.raise(h:fg r X)(v:X.h j=H e)(A:eX e.q=[])(B:H j∉X.A){x:Nat}(S:r j<=x):fg (wV r j x) X:=by
 refine {h with K:=h.K.congr ?_ ?_ ?_};intro i g p k l;have E:p≠j:=by rintro rfl;have⟨ep,h1,h2⟩:=h.E.up i g p k l;rw[v]at h1;cases h1;rw[A]at h2;cases h2
 have:=h.K.E i g p k l;grind[wV];grind[wV];intro d y u q;have K:y≠j:=by rintro rfl;exact B (uc q)
 have:=h.K.B d y u q;grind[wV]
def Bu(X:N)(pl:Nat×Nat):Prop:=∃e,X.h pl.1=H e/\pl.2<=ln e.q
theorem fg.put(h:fg r X){T:mh}(S:Bu X pl)(U:X.h j=H T)(E:T.E=F)(Z:r pl.1<r j)(hw:wt X<1000000):∃W,jz pl j X=.ok () W/\fg r W/\Fx X W/\wt W=wt X+1/\W.A=X.A/\W.B=X.B/\W.E=X.E/\(ln W.d)=ln X.d/\(∀i e,X.h i=H e->∃q,W.h i=H q/\q.name=e.name/\q.A=e.A/\(i≠pl.1->q.q=e.q)/\(i≠j->q.E=e.E))/\(∀q,W.h j=H q->q.E=H pl.1):=by
 have⟨ei,hi,n⟩:=S;have K:j≠pl.1:=by rintro rfl;omega
 have hl:=Jp hi;have a2:=N.n hi;have O:=N.n U;obtain⟨W,g⟩:∃W,W=(X.l pl.1 {ei with q:=ins ei.q pl.2 (.el j)}).l j {T with E:=H pl.1}:=⟨_,D⟩;have I:jz pl j X=.ok () W:=by unfold jz;rw[hi,U];dsimp only;rw[dw ⟨K,n,by omega⟩,g]
 have R:W.h pl.1=H {ei with q:=ins ei.q pl.2 (.el j)}:=by rw[g,N.s (yz K),N.gu a2]
 have V:W.h j=H {T with E:=H pl.1}:=by rw[g,N.gu (by grind[N.l])]
 have Y:∀i,i≠pl.1->i≠j->W.h i=X.h i:=λi l A=>by grind[N.s]
 have M:(X.h pl.1).isSome=C:=by rw[hi];rfl
 have P:((X.l pl.1 {ei with q:=ins ei.q pl.2 (.el j)}).h j).isSome=C:=by rw[N.s K,U];rfl
 have w:∀k,W.q k=X.q k:=λk=>by grind[N.nE]
 have ge:∀x,W.lj x=X.lj x:=λx=>by grind[N.F0]
 have B:∀i e,X.h i=H e->∃q,W.h i=H q/\q.name=e.name/\q.A=e.A/\(i≠pl.1->q.q=e.q)/\(i≠j->q.E=e.E):=by intro i e f;by_cases l:i=pl.1;grind;grind
 have u:∀i q,W.h i=H q->(i=pl.1/\q={ei with q:=ins ei.q pl.2 (.el j)})\/(i=j/\q={T with E:=H pl.1})\/(i≠pl.1/\i≠j/\X.h i=H q):=by intro i q f;by_cases l:i=pl.1;grind;grind
 have a:∀i s,fa X i s->fa W i s:=λi s ⟨e,f,n⟩=>by grind[fa]
 have a3:j∉eX ei.q:=by intro G;have⟨ej2,l,A⟩:=h.E.q _ _ _ hi G;rw[U]at l;cases l;rw[E]at A;cases A
 have L:∀i e,X.h i=H e->∀q,W.h i=H q->∀x,x∈eX e.q->x∈eX q.q:=by intro i e f q a0 x m;rcases u i q a0 with⟨l,rfl⟩|⟨l,rfl⟩|⟨_,_,l⟩;grind[A4];grind;grind
 refine⟨W,I,⟨⟨?_,?_,?_,?_⟩,⟨?_,?_,?_⟩,λx m=>?_,λi v=>?_,λd hd=>a _ _ (h.head d ?_),λd hd=>a _ _ (h.j d ?_),λy b J=>?_,?_,?_,?_,?_,?_⟩,?_,?_,?_,?_,?_,?_,B,?_⟩;intro i e p v S;rcases u i e v with⟨l,rfl⟩|⟨l,rfl⟩|⟨_,_,l⟩;rw[l]at *;have⟨ep,A,h3⟩:=h.E.up _ _ p hi S;grind;grind[A4];have⟨ep,A,h3⟩:=h.E.up _ _ p l S;grind;intro i e x v m;have Q:∀c,X.h i=H c->x∈eX c.q->∃ex,W.h x=H ex/\ex.E=H i:=by
  intro c a1 o;have⟨ex,A,h3⟩:=h.E.q i c x a1 o;have t:x≠j:=by rintro rfl;rw[U]at A;cases A;rw[E]at h3;cases h3
  have⟨ex',h4,_,_,_,h5⟩:=B x ex A;exact⟨ex',h4,(h5 t).trans h3⟩
 grind[A4];intro i e v;rcases u i e v with⟨l,rfl⟩|⟨l,rfl⟩|⟨_,_,l⟩;exact(A4 ei.q pl.2 j).nodup_iff.2 (kp.2 ⟨a3,h.E.nd _ _ hi⟩);show(eX T.q).Nodup;exact h.E.nd _ _ U;exact h.E.nd _ _ l
 .intro i e v k hk;rw[w];rcases u i e v with⟨l,rfl⟩|⟨l,rfl⟩|⟨_,_,l⟩;rcases YU.1 hk with rfl|hk;grind[N.q];grind[CI.g,fg.E]
  all_goals grind[CI.g,fg.E]
 intro i e p v S;rcases u i e v with⟨l,rfl⟩|⟨l,rfl⟩|⟨_,_,l⟩;rw[l];exact h.K.E _ _ p hi S;grind;exact h.K.E _ _ p l S;rw[g];exact h.K.A;rw[g];exact h.K.B;rw[ge];exact h.A x (by rwa [g]at m);have⟨e,f,hf⟩:=h.B i (by rw[g]at v;exact v);grind
 rwa [g]at hd
 rwa [g]at hd
 have⟨z,l,A⟩:=h.S y b (by rwa [g]at J);grind;rw[g];exact h.P;rw[g];exact h.n;rw[g];exact h.L;rw[g];exact h.Q;grind[fg.u];rw[g];exact⟨D,D,D,D,D,D,D,D,D,D,D,by grind,λ_=>D⟩;grind[wI,N.s,YE];rw[g];rfl;rw[g];rfl;rw[g];rfl
 all_goals grind[N.gP]
theorem fg.alike(h:fg r X)(hf:∀i e,X.h i=H e->∃d,W.h i=H d/\d.name=e.name/\d.E=e.E/\eX d.q=eX e.q)(hb:∀i d,W.h i=H d->∃e,X.h i=H e)(hk:∀i d,W.h i=H d->∀k∈d.q,W.q k=C)
  (q:W.A=X.A:=by rfl) (ha:W.B=X.B:=by rfl) (v:W.head=X.head:=by rfl) (B:W.j=X.j:=by rfl) (E:W.Q=X.Q:=by rfl) (K:W.R=X.R:=by rfl) (S:W.g=X.g:=by rfl) (T:W.kept=X.kept:=by rfl) (U:W.L=X.L:=by rfl) (b:W.U=X.U:=by rfl) (a:W.W=X.W:=by rfl) (c:W.K=X.K:=by rfl) (f:W.T=X.T:=by rfl):fg r W/\Fx X W:=by
 have u:∀i s,fa X i s->fa W i s:=λi s ⟨e,A,t⟩=>by grind[fa]
 have g:∀i d,W.h i=H d->∃e,X.h i=H e/\d.name=e.name/\d.E=e.E/\eX d.q=eX e.q:=by grind
 refine⟨⟨⟨?_,?_,?_,hk⟩,⟨?_,?_,?_⟩,?_,?_,?_,?_,?_,?_,?_,?_,?_,?_⟩,⟨S,T,v,B,U,b,a,c,E,K,f,u,λ_=>by rw[q]⟩⟩;intro i e p l m;have⟨e0,g1,_,g3,_⟩:=g i e l;have⟨ep,g4,g5⟩:=h.E.up i e0 p g1 (by grind);grind;intro i e j l o;have⟨e0,g1,_,_,g4⟩:=g i e l;have⟨ej,g5,g6⟩:=h.E.q i e0 j g1 (by grind);grind;intro i e l;have⟨e0,g1,_,_,g4⟩:=g i e l;rw[g4];exact h.E.nd i e0 g1;intro i e p l m;have⟨e0,g1,_,g3,_⟩:=g i e l;exact h.K.E i e0 p g1 (by grind);rw[q];exact h.K.A;rw[v,q];exact h.K.B;rw[q];intro x n;obtain⟨i,e,rfl,A⟩:=jj (h.A x n);grind[N.lj];grind[fg.B];grind[head];grind[fg.j];grind[fg.S];grind[fg.P];grind[fg.n];grind[fg.L];grind[fg.Q];have⟨e,A⟩:=dh.1 h.u;grind
theorem fg.tD(h:fg r X)(nd:zE)(q:∀e,nd≠ .el e):fg r (X.add nd)/\Fx X (X.add nd):=by refine h.alike (λi e u=>⟨e,by grind[N.h,N.add],D,D,D⟩) ?_ ?_;grind[N.h,N.add];intro i l d k p;rcases N.Kg (nd:=nd) d with⟨_,g⟩|⟨_,g⟩;exact N.F2 (h.E.g i l g k p);grind
theorem fg.g(h:fg r X){d:mh}{k:Nd}(v:X.h i=H d)(B:∀j,k≠ .el j)(K:X.q k=C)(E:n<=ln d.q):fg r (X.l i {d with q:=ins d.q n k})/\Fx X (X.l i {d with q:=ins d.q n k})/\wt (X.l i {d with q:=ins d.q n k})=wt X+1:=by
 have p:∀j g,(X.l i {d with q:=ins d.q n k}).h j=H g->(j=i/\g={d with q:=ins d.q n k})\/(j≠i/\X.h j=H g):=by intro j g l;by_cases A:j=i;grind[N.gu,N.n];grind[N.s]
 have q:=h.alike (W:=X.l i {d with q:=ins d.q n k}) (λj e u=>by
  grind[N.gu,N.n,Wl,N.s]) (λj g l=>by
  grind) (λj g l x S=>by
  grind[N.nE,YU,CI.g,fg.E])
 grind[wI,YE]
theorem fg.lw(h:fg r X){t:Nat}{g:O}(l:X.d[t]?=H (.tx g)):fg r (X.lw t s)/\Fx X (X.lw t s)/\wt (X.lw t s)+g.size=wt X+s.size:=by
 have q:=h.alike (W:=X.lw t s) (λi e v=>⟨e,by grind[N.h,N.lw],D,D,D⟩) (λi p d=>⟨p,by rw[N.rp l]at d;exact d⟩) (λi p d k u=>by rw[N.Iv l];rw[N.rp l]at d;exact h.E.g i p d k u)
 exact⟨q.1,q.2,afK (m:=.tx s) l⟩
structure Rest(σ σ':N):Prop where
 A:σ'.A=σ.A
 B:σ'.B=σ.B
 E:σ'.E=σ.E
 P:σ'.P=σ.P
 a:σ'.a=σ.a
 S:σ'.S=σ.S
theorem Uf(h:kV X)(u:Bu X pl)(s:O)(hw:wt X+s.size+1<=1000000):fK (s.size+1) X (qd pl s X) (λ_ W=>Rest X W):=by
 have⟨r,h⟩:=h;have⟨ei,hi,hn⟩:=u;have K:=Jp hi;unfold qd;rw[hi];dsimp only;rw[dw ⟨hn,by omega⟩];have v:fK (s.size+1) X (.ok () ((X.add (.tx s)).l pl.1 {ei with q:=ins ei.q pl.2 (.tx (ln X.d))}):pj Unit) (λ_ W=>Rest X W):=by
  have⟨a1,a2⟩:=h.tD (.tx s) (λe l=>by cases l);have k:(X.add (.tx s)).h pl.1=H ei:=by rw[N.oj (N.n hi)];exact hi
  have g:(X.add (.tx s)).q (.tx (ln X.d))=C:=by simp[N.q,N.add]
  have⟨b1,b2,b3⟩:=a1.g (n:=pl.2) k (λj p=>by cases p) g hn;have T:=afI X (.tx s);have U:ke (.tx s)=s.size:=rfl;exact⟨⟨r,b1⟩,a2.trans b2,by omega,⟨D,D,D,D,D,D⟩⟩
 split;rename_i t S;have q:Nd.tx t∈ei.q:=by by_cases A:pl.2=0;grind;grind
 have d:=h.E.g _ _ hi _ q;unfold N.q at d;dsimp only at d;cases hx:X.d[t]? with
 |none=>grind
 |some nd=>
  rw[hx]at d;cases nd with
  |tx old=>
   have B:ke (.tx old)<=wt X:=WJ hx;have E:ke (.tx old)=old.size:=rfl;dsimp only;rw[dw (by omega)];have⟨b1,b2,b3⟩:=h.lw (s:=old++s) hx;have:(old++s).size=old.size+s.size:=ByteArray.size_append;exact⟨⟨r,b1⟩,b2,by omega,⟨D,D,D,D,D,D⟩⟩
  |el e=>cases d
  |cm s=>cases d
  |dt s=>cases d
 omega
theorem Gm(h:kV X)(q:Bu X pl)(nd:zE)(k:Nat->Nd)(g:(∃s,nd=.cm s/\k=.cm)\/(∃s,nd=.dt s/\k=.dt))(hw:wt X+1<=1000000):fK 1 X (kZ pl nd k X) (λ_ W=>Rest X W):=by
 have⟨r,h⟩:=h;have⟨ei,hi,hn⟩:=q;have v:=Jp hi;have p:∀i j,k i≠ .el j:=by rcases g with⟨s,_,h⟩|⟨s,_,h⟩<;>(rw[h];simp)
 have u:ke nd=0:=by rcases g with⟨s,h,_⟩|⟨s,h,_⟩<;>(rw[h];rfl)
 have⟨a1,a2⟩:=h.tD nd (by grind);have l:(X.add nd).h pl.1=H ei:=by rw[N.oj (N.n hi)];exact hi
 have d:(X.add nd).q (k (ln X.d))=C:=by rcases g with⟨s,rfl,rfl⟩|⟨s,rfl,rfl⟩<;>simp[N.q,N.add]
 have⟨b1,b2,b3⟩:=a1.g l (p _) d hn;have A:=afI X nd;unfold kZ wB;rw[l];dsimp only;rw[dw ⟨d,hn,by omega⟩];exact⟨⟨r,b1⟩,a2.trans b2,by omega,⟨D,D,D,D,D,D⟩⟩
theorem Y6(h:i∈eX ks):0<=oS ks (Nd.dO i)/\(oS ks (Nd.dO i)).toNat<ln ks:=by have d:ks.findIdx (Nd.dO i)<ln ks:=ud ⟨_,o9.1 h,by simp[Nd.dO]⟩;grind[oS]
theorem qz(a:iU)(n:Nat):dT a (n:Int)=a.getD n F:=by grind[dT]
theorem fg.at(h:fg r X)(d:n<ln X.A):∃i e,X.A[n]?=H (H i)/\X.h i=H e:=by have⟨i,e,h1,h2⟩:=jj (h.A _ (uI d));grind
theorem Hn(h:fg r X)(A:H i∈X.A)(K:H i≠dT X.A 0):∃pl,kL i X=.ok pl X/\Bu X pl/\r pl.1<r i/\(H pl.1∈X.A\/∃e c,X.h pl.1=H e/\c∈eX e.q):=by
 have⟨i',e,e1,he⟩:=jj (h.A _ A);cases e1;unfold kL;rw[he];dsimp only;cases hp:e.E with
 |some p=>
  have⟨ep,d,k⟩:=h.E.up i e p he hp;have⟨u,v⟩:=Y6 k;dsimp only;rw[d];dsimp only;rw[dw u];exact⟨_,D,⟨ep,d,by omega⟩,h.K.E i e p he hp,.inr ⟨ep,i,d,k⟩⟩
 |none=>
  dsimp only;have d:X.A.idxOf (H i)<ln X.A:=List.idxOf_lt_length_of_mem A;have k:jf X.A (H i)=(X.A.idxOf (H i):Int):=by unfold jf;rw[dw d]
  have u:X.A.idxOf (H i)≠0:=by intro B;apply K;have:=uf d;rw[show(0:Int)=((0:Nat):Int)from D,qz];simp only[B]at this;rw[Ce,qM (by omega),<-this];rfl
  have⟨q,eq,hq,he2⟩:=h.at (n:=X.A.idxOf (H i)-1) (by omega);have v:dT X.A (jf X.A (H i)-1)=H q:=by rw[k,show(X.A.idxOf (H i):Int)-1=((X.A.idxOf (H i)-1:Nat):Int) by omega,qz,Ce,hq];rfl
  rw[v];dsimp only;unfold fM;rw[he2];refine⟨_,D,⟨eq,he2,dF _⟩,?_,.inl (sA hq)⟩;have g:=lP.1 h.K.A (X.A.idxOf (H i)-1) (X.A.idxOf (H i)) (by omega) d (by omega);rw[uf d]at g;have E:=by have:=qM (l:=X.A) (i:=X.A.idxOf (H i)-1) (by omega);rw[hq]at this;exact(jS this).symm
  rwa [E]at g
theorem Ae:∀{xs:iU} {x:fW},oq X xs=H x->x∈xs/\x≠dT X.A 0/\fG (X.l7 x) aH=C
 |[],x,h=>by cases h
 |y::xs,x,h=>by unfold oq at h;split at h;have⟨h1,h2⟩:=Ae h;grind;grind
theorem fg.first(h:fg r X)(g:X.A≠[]):∃q e d,X.A=H q::d/\dT X.A 0=H q/\X.h q=H e/\e.name=aC:=by
 cases ho:X.A with
 |nil=>grind
 |cons x d=>
  obtain⟨q,rfl,e,k,l⟩:=h.S x d ho;grind[dT]
theorem Af(h:fg r X)(g:X.A≠[]):∃pl,gJ X=.ok pl X/\Bu X pl/\(H pl.1∈X.A\/∃e c,X.h pl.1=H e/\c∈eX e.q)/\((∃i,H i∈X.A/\fG (X.nm i) aH=C/\oq X X.A.reverse=H (H i)/\r pl.1<r i)\/dT X.A 0=H pl.1):=by
 unfold gJ;rw[dw ((by unfold N.Fh;rw[Pf];intro x k;obtain⟨i,e,rfl,d⟩:=jj (h.A x k);by_cases l:H i=dT X.A 0;grind;grind[Hn,pj.isOk]))]
 have⟨q,eq,rest,ho,hq,d,_⟩:=h.first g;cases hf:oq X _ with
 |none=>
  rw[hq];dsimp only;unfold fM;rw[d];grind[Bu]
 |some x=>
  have⟨h1,h2,h3⟩:=Ae hf;obtain⟨i,e,rfl,d⟩:=jj (h.A x (dU.1 h1));have⟨pl,p1,p2,p3,p4⟩:=Hn h (dU.1 h1) h2;exact⟨pl,p1,p2,p4,.inl ⟨i,(dU.1 h1),h3,D,p3⟩⟩
theorem Ua(h:fg r X)(d:H i∈X.A):∃pl,iS i X=.ok pl X/\Bu X pl/\(H pl.1∈X.A\/∃e c,X.h pl.1=H e/\c∈eX e.q):=by have⟨i',e,e1,he⟩:=jj (h.A _ d);cases e1;unfold iS;split;grind[Af,ul];unfold fM;rw[he];grind[Bu]
theorem Qt(h:fg r X)(d:X.A≠[]):∃i e,X.last=H i/\H i∈X.A/\X.A.getLast?=H (H i)/\X.h i=H e:=by have g:=kt.2 d;grind[fg.at,qz,N.last]
theorem Gd(h:fg r X)(d:X.A≠[]):∃pl,ja X=.ok pl X/\Bu X pl/\(H pl.1∈X.A\/∃e c,X.h pl.1=H e/\c∈eX e.q):=by grind[Qt,Ua,ja]
theorem fg.push(h:fg r X)(u:X.h j=H e)(B:∀x∈X.A,rk r x<r j)(A:ln X.A<X.Q)(k:X.A≠[]\/(e.name=aC/\X.head=F)):fg r {X with A:=X.A++[H j]}/\Fx X {X with A:=X.A++[H j]}:=by
 have q:X.A≠[]->(X.A++[H j]).head?=X.A.head?:=by
  intro v;cases ho:X.A with
  |nil=>grind
  |cons x l=>rfl
 refine⟨⟨⟨h.E.up,h.E.q,h.E.nd,h.E.g⟩,⟨h.K.E,?_,?_⟩,?_,h.B,h.head,h.j,?_,?_,h.n,h.L,h.Q,h.u⟩,⟨D,D,D,D,D,D,D,D,D,D,D,λ_ _ h=>h,q⟩⟩;refine pb.2 ⟨h.K.A,by simp,λx g y E=>?_⟩;grind[rk];intro d x p g;rcases k with k|⟨_,k⟩;exact h.K.B d x p (by grind);grind;intro x g;rcases dA.1 g with g|g;exact h.A x g;rw[cC.1 g];show(X.h j).isSome=C;grind;intro x l g;cases ho:X.A with
 |nil=>
  rw[ho]at g;injection g with h1 h2;rcases k with k|⟨k,_⟩;grind;exact⟨j,h1.symm,e,u,k⟩
 |cons y r2=>
  rw[ho]at g;injection g with h1 h2;have⟨z,h3,h4⟩:=h.S y r2 ho;exact⟨z,h1▸h3,h4⟩
 grind
structure anb(σ:N)(j:Nat)(σ':N):Prop where
 A:σ'.A=σ.A++[H j]
 B:σ'.B=σ.B
 E:σ'.E=σ.E
 len:ln σ'.d=ln σ.d
theorem Og(h:kV X)(k:X.h j=H e)(d:e.E=F)(q:e.q=[])(E:H j∉X.A)(l:X.A≠[])(hw:wt X<999999):fK 1 X (j5 j X) (λ_ W=>anb X j W):=by
 have⟨r,h⟩:=h;have⟨pl,p1,p2,A⟩:=Gd h l;have K:pl.1≠j:=by rintro rfl;rcases A with A|⟨e2,c,g,p⟩;grind;rw[k]at g;cases g;rw[q]at p;cases p
 have⟨B,hB⟩:=zV r (ln X.d);have T:=h.raise k ((by rw[q];rfl)) E (x:=B+1) (by grind[N.n]);have S:pl.1<ln X.d:=by have⟨e2,g,_⟩:=p2;exact N.n g
 have⟨W,q1,q2,q3,q4,q5,q6,q7,q8,q9,q10⟩:=T.put p2 k d (by grind[wV]) (by omega);unfold j5;rw[M.cW,p1];dsimp only;rw[M.cW,q1];dsimp only;rw[M.cW];unfold nK;have⟨e',e1,e2,_⟩:=q9 j e k;by_cases u:W.Q<=ln W.A;rw[dw u];exact q3.K;rw[di u];rw[dw (by show(W.h j).isSome=C;rw[e1];rfl)];dsimp only;have⟨g1,g2⟩:=q2.push e1 (by intro x v;rw[q5]at v;rw[O9];obtain⟨i,U,rfl,a⟩:=jj (h.A x v);show wV r j (B+1) i<_;grind[Rt,N.n]) (by omega) (.inl (by grind))
 exact⟨⟨_,g1⟩,q3.trans g2,by grind[wt],⟨by grind,q6,q7,q8⟩⟩
theorem tV(a:iU)(k:Nat):(a.reverse.drop k).reverse=a.take (ln a-k):=by grind[List.reverse_drop]
theorem Mi(X:N)(p:O->Bool):∀ys:iU,(∃x∈ys,p (X.l7 x)=C)->∃k,1<=k/\k<=ln ys/\N.xq X p ys=ys.drop k/\∃x,ys[k-1]?=H x/\p (X.l7 x)=C
 |[],h=>by grind
 |y::ys,h=>by unfold N.xq;by_cases d:p (X.l7 y)=C;rw[dw d];exact⟨1,dF _,by simp,D,y,D,d⟩;have⟨x,hx,hpx⟩:=h;have⟨k,h1,h2,h3,x2,h4,h5⟩:=Mi X p ys ⟨x,(by grind),hpx⟩;refine⟨k+1,by omega,by grind,by grind,x2,?_,h5⟩;grind
theorem LK(X:N)(p b:O->Bool):∀{ys:iU},N.px X p b ys=C->∃x∈ys,p (X.l7 x)=C
 |[],h=>by cases h
 |y::ys,h=>by unfold N.px at h;by_cases d:p (X.l7 y)=C;grind;rw[di d]at h;split at h;cases h;have⟨x,hx,h2⟩:=LK X p b h;grind
theorem Bk{k:Nat}(h:1<=k):(xs.take k).head?=xs.head?:=by
 cases xs with
 |nil=>simp
 |cons x r=>cases k<;>grind
theorem fg.T(h:fg r X)(d:X.A.head?=H x):X.l7 x=aC:=by
 cases ho:X.A with
 |nil=>grind
 |cons y rest=>
  rw[ho]at d;cases d;obtain⟨q,rfl,e,g,k⟩:=h.S _ rest ho;show X.nm q=_;grind[N.nm]
structure sD(σ σ':N):Prop where
 d:σ'.d=σ.d
 B:σ'.B=σ.B
 E:σ'.E=σ.E
 A:∃k,σ'.A=σ.A.take k
theorem sD.refl(X:N):sD X X:=⟨D,D,D,ln X.A,by simp⟩
theorem fJ(h:W.d=X.d):wt W=wt X:=by grind[wt]
theorem vZ(h:kV X)(p b:O->Bool)(g:p aC=I):fK 0 X (iY p b X) (λx W=>sD X W/\(x=C->ln W.A<ln X.A)/\(x=I->W=X)):=by
 have⟨r,h⟩:=h;unfold iY;split;rename_i d;have⟨x,h1,h2⟩:=LK X p b d;have⟨g1,g2,k,g3,g4,g5⟩:=(show fg r (X.BE p)/\Fx X (X.BE p)/\∃k,1<=k/\k<ln X.A/\(X.BE p).A=X.A.take k by have⟨k,h1,h2,h3,x,h4,h5⟩:=Mi X p X.A.reverse (by grind);grind[tV,fg.T,fg.sub,Bk,N.BE])
 exact⟨⟨r,g1⟩,g2,lX (fJ D),⟨D,D,D,k,g5⟩,by grind,by grind⟩;exact⟨⟨r,h⟩,Fx.refl _,dF _,sD.refl _,by grind,λ_=>D⟩
theorem Kc(X:N)(p:O->Bool):∀ys:iU,∃k,k<=ln ys/\N.mW X p ys=ys.drop k/\∀j,j<k->∃x,ys[j]?=H x/\p (X.l7 x)=C
 |[]=>⟨0,dF _,D,by grind⟩
 |y::ys=>by
  unfold N.mW;by_cases d:p (X.l7 y)=C
  .have⟨k,h1,h2,h3⟩:=Kc X p ys;refine⟨k+1,by grind,by grind,λj g=>?_⟩;cases j<;>grind
  rw[di d];exact⟨0,eZ _,D,by grind⟩
theorem Kd(h:kV X)(p:O->Bool)(l:p aC=I):kV {X with A:=(N.mW X p X.A.reverse).reverse}/\Fx X {X with A:=(N.mW X p X.A.reverse).reverse}/\sD X {X with A:=(N.mW X p X.A.reverse).reverse}:=by
 have⟨r,h⟩:=h;have⟨k,h1,h2⟩:=(show∃k,(N.mW X p X.A.reverse).reverse=X.A.take k/\(X.A≠[]->1<=k) by
   have⟨k,h1,h2,h3⟩:=Kc X p X.A.reverse;have d:=by simpa using h1
   refine⟨ln X.A-k,by grind[tV],λg=>?_⟩;grind[kt,ki,fg.T])
 rw[h1];cases ho:X.A with
 |nil=>
  have:([]).take k=X.A:=by grind
  rw[this];exact⟨⟨r,h⟩,Fx.refl _,sD.refl _⟩
 |cons x rest=>
  rw[<-ho];have⟨g1,g2⟩:=h.sub (Mr _ _) (Bk (h2 (by grind)));exact⟨⟨r,g1⟩,g2,D,D,D,k,D⟩
def wZ(h:kV X)(p:O->Bool):fK 0 X (sH p X) (λ_ W=>sD X W):=by have⟨g1,g2,g3⟩:=Kd h (λs=>!(p s||cZ [(aC)] s)) (by simp[cZ,fG]);exact⟨g1,g2,lX (fJ D),g3⟩
theorem Ge(h:kV X)(d:2<=ln X.A):kV X.pop/\Fx X X.pop:=by have⟨r,h⟩:=h;have e:X.A.dropLast=X.A.take _:=WL;have⟨g1,g2⟩:=h.sub (ys:=X.A.take (ln X.A-1)) (Mr _ _) (Bk (by omega));grind[kV,N.pop]
theorem sD.pop(X:N):sD X X.pop:=⟨D,D,D,ln X.A-1,WL⟩
theorem xb(h:kV X)(p:O->Bool)(u:p aC=I)(d:X.gV p=C):2<=ln X.A:=by
 have⟨r,h⟩:=h;unfold N.gV at d;cases ho:X.A with
 |nil=>
  have:X.last=F:=by unfold N.last;rw[ho];rfl
  grind
 |cons x rest=>
  cases rest with
  |cons y r2=>simp
  |nil=>
   exfalso;obtain⟨q,rfl,e,g,k⟩:=h.S x [] ho;have:X.last=H q:=by unfold N.last;rw[ho];rfl
   have l:X.nm q=aC:=by unfold N.nm;rw[g];exact k
   grind
def tR(h:kV X)(p:O->Bool)(g:p aC=I):fK 0 X (oA p X) (λ_ W=>sD X W):=by show fK 0 X (.ok () (X.Io p)) _;unfold N.Io;split;rename_i d;have⟨g1,g2⟩:=Ge h (xb h p g d);exact⟨g1,g2,lX (fJ D),sD.pop X⟩;exact⟨h,Fx.refl _,dF _,sD.refl _⟩
def fg.d(h:fg r X)(g:∀i,H i∈ys->∃e,X.h i=H e/\rY e.name=C)(d:ln ys<=X.R):fg r {X with B:=ys}/\Fx X {X with B:=ys}:=
 ⟨⟨⟨h.E.up,h.E.q,h.E.nd,h.E.g⟩,⟨h.K.E,h.K.A,h.K.B⟩,h.A,g,h.head,h.j,h.S,h.P,d,h.L,h.Q,h.u⟩,⟨rfl,rfl,rfl,rfl,rfl,rfl,rfl,rfl,rfl,rfl,rfl,λ_ _ h=>h,λ_=>D⟩⟩
structure BF(σ:N)(s:O)(j:Nat)(σ':N):Prop where
 A:σ'.A=σ.A++[H j]
 B:σ'.B=σ.B
 nm:fa σ' j s
 new:ln σ.d<=j
theorem QD(h:kV X)(q:X.A≠[])(hw:wt X<999999)(d:O)(bY:iB)(b:Bool):fK 1 X (j5 (ln X.d) (X.il (.el {name:=d,A:=bY,E:=F,q:=[]}) b)) (λ_ W=>∃j,BF X d j W/\W.E=b):=by
 have⟨r,h⟩:=h;have⟨g1,g2⟩:=h.new d bY b 0;have g:(X.il (.el {name:=d,A:=bY,E:=F,q:=[]}) b).h _=H _:=N.ng;have u:H (ln X.d)∉(X.il (.el {name:=d,A:=bY,E:=F,q:=[]}) b).A:=by intro A;have:=h.k A;omega
 have B:wt (X.il (.el {name:=d,A:=bY,E:=F,q:=[]}) b)=wt X:=Fv _ _ _;have k:=Og ⟨_,g1⟩ g D D u q (by omega);revert k;cases j5 _ _ with
 |ok a W=>
  rintro⟨k,v,E,l⟩;refine⟨k,g2.trans v,by omega,ln X.d,⟨l.A,l.B,v.nm _ _ ⟨_,g,D⟩,dF _⟩,l.E⟩
 |stop e p=>exact λh=>h
 |stuck=>simp[fK]
theorem fK.d{b:Type}{m:M b}(h:fK c X (m X) (λ_ W=>Q () W)):fK c X ((m>>=λ_=>(aG ():M Unit)) X) Q:=by refine fK.bind h (λa W d _ _ g=>fK.ret d g) (by omega)
theorem fK.tail_at{a:Type}{m:M a}(h:fK c X (m σ1) (λ_ W=>Q () W)):fK c X ((m>>=λ_=>(aG ():M Unit)) σ1) Q:=by rw[M.cW];revert h;cases m σ1<;>exact λh=>h
def rA(h:kV X)(g:X.A≠[])(hw:wt X<999999)(d:O):fK 1 X (iD d X) (λ_ W=>∃j,BF X d j W/\W.E=X.E):=
 fK.d (m:=λX=>j5 _ _) (QD h g hw d [] _)
theorem gW(h:kV X)(d:X.A≠[])(hw:wt X<999999)(t:dj)(k:t.l6=C)(g:X.E=C):fK 1 X (eE t X) (λ_ W=>∃j,BF X t.name j W):=by unfold eE;grind[M.cW,fK.tail_at,fK.mono,QD,jN]
theorem EG(h:BF X s j W)(d:X.A≠[]):2<=ln W.A:=by have:=kt.2 d;rw[h.A];grind
theorem EF(h:BF X s j W):W.last=H j:=by
 unfold N.last;rw[h.A];have e:(ln (X.A++[H j]))-1=((ln X.A)):=by simp
 grind[qz]
def yi(h:kV X)(d:2<=ln X.A):fK 0 X (wU X) (λx W=>W=X.pop/\x=X.last):=by have⟨g1,g2⟩:=Ge h d;exact⟨g1,g2,lX (fJ D),D,D⟩
def pT(h:kV X)(d:X.A≠[])(hw:wt X<999999)(t:dj)(p:t.l6=C)(l:X.E=C):fK 1 X (jA t X) (λ_ W=>W.A=X.A/\W.B=X.B):=by
 refine fK.bind (gW h d hw t p l) (c2:=0) ?_ (by omega);rintro _ σ1 k u _⟨j,g⟩;refine fK.d ((yi k (EG g d)).mono (dF _) ?_);rintro x q _ _⟨rfl,_⟩;exact⟨(by show σ1.A.dropLast=_;rw[g.A];simp),g.B⟩
theorem nC(h:kV X)(d:X.A≠[])(t:dj)(hw:wt X+t.d.size+1<=1000000):fK (t.d.size+1) X (gh t X) (λ_ W=>Rest X W):=by have⟨r,hr⟩:=h;have⟨pl,p1,p2,_⟩:=Gd hr d;unfold gh;grind[M.cW,fK.d,Uf]
theorem Eg(h:rY s=C):s≠aC:=by rintro rfl;simp[rY,cZ,fG]at h
theorem aeN(h:(oU xs x (H j))[m]?=H y):xs[m]?=H y\/y=H j:=by grind[oU]
theorem LA(a:iU)(x y:fW):ln (oU a x y)=ln a:=by grind[oU]
theorem LC(h:z∈oU xs x y):z∈xs\/z=y:=by grind[oU]
theorem Z8(h:kV X){d:Nat}(l:(X.h d).isSome=C)(g:fa X j s)(p:rY s=C):fK 0 X (qI (H d) (H j) X) (λ_ W=>W.A=X.A/\W.B=oU X.B (H d) (H j)/\W.E=X.E):=by
 have⟨r,h⟩:=h;have⟨ej,hej,hn⟩:=g;unfold qI;rw[dw (by grind[N.dO])];have⟨g1,g2⟩:=h.d (ys:=oU X.B (H d) (H j)) (λi k=>by grind[LC,fg.B]) (by grind[LA,fg.n])
 exact⟨⟨r,g1⟩,g2,lX (fJ D),D,D,D⟩
def zU(g:X.h i=H e)(d:rY e.name=C):jm i X=.ok (ln X.d) (X.il (.el {name:=e.name,A:=e.A,E:=F,q:=[]}) X.E):=by
 unfold jm;rw[g];dsimp only;rw[(show l4 e.name=I by unfold rY cZ at d;rw[List.any_eq_true]at d;have⟨x,hx,he⟩:=d;simp at hx;rcases hx with rfl|rfl|rfl|rfl<;>(rw[(oo he)];simp[l4,fG,ai9,ai8]))]
 rfl
theorem Us:∀(k n:Nat){X:N},kV X->X.A≠[]->wt X+k<999999->n+k<=ln X.B->(∀m,n<=m->m<n+k->∃i,X.B[m]?=H (H i))->fK k X (Lz k n X) (λ_ W=>X.A <+:W.A/\(ln W.B)=ln X.B/\W.E=X.E)
 |0,n,X,h,_,_,_,_=>fK.ret h ⟨List.prefix_refl _,D,D⟩
 |k+1,n,X,h,hne,hw,hl,ha=>by
  have⟨old,ho⟩:=ha n (dF _) (by omega);have⟨r,hr⟩:=h;have⟨eo,heo,hfo⟩:=hr.B old (sA ho);have A:GW n X=.ok old X:=by unfold GW;rw[qz,Ce,ho];rfl
  unfold Lz;rw[M.cW,A];dsimp only;rw[M.cW,zU heo hfo];dsimp only;rw[M.cW];have c:=QD ⟨r,hr⟩ hne (by omega) eo.name eo.A X.E;revert c;cases hq:j5 (ln X.d) (X.il (.el {name:=eo.name,A:=eo.A,E:=F,q:=[]}) X.E)with
  |stop e p=>simp[fK]
  |stuck=>simp[fK]
  |ok u σ1=>
   rintro⟨o,g,w1,j,l,v⟩;dsimp only;have B:oZ old σ1=qI (H old) (H j) σ1:=by unfold oZ;rw[EF l]
   have⟨eo1,heo1,_⟩:=g.nm old eo.name ⟨eo,heo,D⟩;have f:fK (k+0) σ1 ((oZ old>>=λ_=>Lz k (n+1)) σ1) (λ_ W=>X.A <+:W.A/\(ln W.B)=ln X.B/\W.E=X.E):=by
    refine fK.bind (c1:=0) (by rw[B];exact Z8 o (by grind) l.nm hfo) (c2:=k) ?_ (by omega);rintro _ E s b w2⟨t,q,r2⟩;have d:ln E.B=ln X.B:=by rw[q,LA,l.B]
    refine(Us k (n+1) s (b.ne (g.ne hne)) (by omega) (by omega) ?_).mono (dF _) ?_;grind[aeN,BF.B];rintro _ K _ _⟨w,S,x⟩;refine⟨?_,S.trans d,x.trans (r2.trans v)⟩;refine List.IsPrefix.trans ?_ w;rw[t,l.A];simp
   revert f;cases((oZ old>>=λ_=>Lz k (n+1)) σ1)with
   |ok a K=>rintro⟨T,q,S,U⟩;exact⟨T,g.trans q,by omega,U⟩
   |stop e p=>exact λh=>zk h g.K
   |stuck=>simp[fK]
theorem OO(X:N):∀ys:iU,X.iT ys<=ln ys/\∀m,m<ln ys-X.iT ys->∃i,ys[m]?=H (H i)
 |[]=>⟨dF _,by grind⟩
 |x::ys=>by
  unfold N.iT;by_cases d:X.Qq x=C;grind;have⟨h1,h2⟩:=OO X ys;refine⟨by grind,λm g=>?_⟩;cases m with
  |zero=>
   cases x with
   |none=>exact absurd (by rfl) d
   |some i=>simp
  |succ m=>exact h2 m (by grind)
theorem mq(h:kV X)(d:X.A≠[])(hw:wt X+32<999999):fK 32 X (iF X) (λ_ W=>X.A <+:W.A/\(ln W.B)=ln X.B/\W.E=X.E):=by
 unfold iF;have⟨h1,h2⟩:=OO X X.B.reverse;have k:X.e<=ln X.B:=by simpa [N.e]using h1
 have g:ln X.B<=32:=by have⟨r,hr⟩:=h;exact gR hr.n hr.Q
 refine(Us (ln X.B-X.e) X.e h d (by omega) (by omega) ?_).mono (by omega) (λ_ _ _ _ h=>h);intro m l p;have⟨i,hi⟩:=h2 (ln X.B-1-m) (by have e:X.iT X.B.reverse=X.e:=rfl;grind)
 grind
structure JG(σ:N)(o a:iU)(σ':N):Prop where
 d:σ'.d=σ.d
 A:σ'.A=o
 B:σ'.B=a
 E:σ'.E=σ.E
def yG(h:kV X)(g:X.dO x=C):fK 0 X (iP x X) (λ_ W=>JG X X.A (X.B.erase x) W):=by have⟨r,h⟩:=h;unfold iP;rw[dw g];have⟨g1,g2⟩:=h.d (ys:=X.B.erase x) (λi d=>h.B i (wJ d)) (gR (uX) h.n);exact⟨⟨r,g1⟩,g2,lX (fJ D),D,D,D,D⟩
theorem abd(a:iU)(x:fW):ln (mc a x)<=ln a:=by grind[List.dropWhile_sublist,mc]
def Mg(h:kV X):fK 0 X (xJ X) (λ_ W=>JG X X.A (mc X.B F) W):=by
 have⟨r,h⟩:=h;have⟨g1,g2⟩:=h.d (ys:=mc _ F) (λi d=>h.B i ((by unfold mc at d;rw[dU]at d;exact dU.1 ((aji _).subset ((List.tail_sublist _).subset d))))) (gR (abd _ _) h.n)
 exact⟨⟨r,g1⟩,g2,lX (fJ D),D,D,D,D⟩
theorem ve(h:kV X)(x:fW)(k:∀i,x=H i->∃e,X.h i=H e/\rY e.name=C):fK 0 X (gN x X) (λ_ W=>JG X X.A (X.B++[x]) W):=by
 have⟨r,h⟩:=h;unfold gN;split;rfl;have d:X.dO x=C:=by
  cases x with
  |none=>rfl
  |some i=>grind[N.dO]
 rw[dw d];have⟨g1,g2⟩:=h.d (ys:=X.B++[x]) (λi g=>by grind[fg.B]) (by grind)
 exact⟨⟨r,g1⟩,g2,lX (fJ D),D,D,D,D⟩
theorem C6(X:N)(j:Nat):∀(ys:iU)(c:fW×Nat),(X.u j ys c).1=c.1\/(X.u j ys c).1∈ys
 |[],c=> .inl D
 |none::_,c=> .inl D
 |some i::ys,c=>by
  unfold N.u;split
  .rcases C6 X j ys (H i,c.2+1)with h|h
   all_goals grind
  .rcases C6 X j ys c with h|h
   all_goals grind
theorem acp(h:kV X)(q:fa X i s)(K:rY s=C):fK 0 X (Pt i X) (λ_ W=>W.A=X.A/\W.E=X.E):=by
 have⟨e,he,hn⟩:=q;have d:∀σ1,kV σ1->σ1.d=X.d->fK 0 σ1 (gN (H i) σ1) (λ_ W=>JG σ1 σ1.A (σ1.B++[H i]) W):=by intro σ1 g u;refine ve g _ ?_;intro j E;exact⟨e,by grind[N.h],by grind⟩
 have k:X.dO (X.u i X.B.reverse (F,0)).1=C:=by
  rcases C6 X i X.B.reverse _ with g|g;rw[g];rfl;cases hx:(X.u i X.B.reverse _).1 with
  |none=>rfl
  |some j=>
   have⟨r,hr⟩:=h;grind[fg.B,N.dO]
 unfold Pt;dsimp only;split;refine fK.bind (yG h k) (c2:=0) ?_ (by omega);rintro _ σ1 v B _ l;refine fK.d ((d σ1 v l.d).mono (dF _) ?_);rintro _ A _ _ p;exact⟨p.A.trans l.A,p.E.trans l.E⟩;grind[fK.d,fK.mono,JG.A,JG.E]
theorem Cy(h:xs.head?≠H x):(xs.erase x).head?=xs.head?:=by cases xs<;>grind
theorem fg.v(h:fg r X)(d:fa X i s)(g:s≠aC):X.A.head?≠H (H i):=by intro e;have⟨ei,he,hn⟩:=d;apply g;rw[<-hn,<-(h.T e)];show _=X.nm i;unfold N.nm;rw[he]
theorem Dc(h:kV X)(d:fa X i s)(g:s≠aC):fK 0 X (iH (H i) X) (λ_ W=>JG X (X.A.erase (H i)) X.B W):=by have⟨r,h⟩:=h;have⟨e,he,_⟩:=id d;unfold iH;rw[dw (by grind[N.dO])];have⟨g1,g2⟩:=h.sub po (Cy (h.v d g));exact⟨⟨r,g1⟩,g2,lX (fJ D),D,D,D,D⟩
theorem D5:∀{ys:iU},x∈ys->∃j,j<ln ys/\ys.dropWhile (λy=>decide (y≠x))=ys.drop j/\ys[j]?=H x
 |[],h=>by cases h
 |y::ys,h=>by
  by_cases g:y=x;subst g;exact⟨0,by simp,by simp,D⟩;have d:x∈ys:=by grind
  have⟨j,h1,h2,h3⟩:=D5 d;refine⟨j+1,by grind,?_,by grind⟩;simp_all
theorem Xi(d:x∈xs)(g:xs.head?≠H x):∃k,1<=k/\k<ln xs/\mc xs x=xs.take k:=by
 have⟨j,h1,h2,h3⟩:=D5 (dU.2 d);have e:mc xs x=xs.take (ln xs-(j+1)):=by unfold mc;rw[h2,List.tail_drop,tV]
 grind[ki]
theorem SL(h:j∈eX ks)(l:(eX ks).Nodup):eX (ks.eraseIdx (ks.findIdx (Nd.dO j)))=(eX ks).erase j:=by
 induction ks with
 |nil=>cases h
 |cons k r ih=>
  by_cases d:Nd.dO j k=C;cases k with
  |el i=>
   grind[eX,Nd.dO]
  |tx i=>cases d
  |cm i=>cases d
  |dt i=>cases d
  have g:=by simpa using d
  rw[List.findIdx_cons,g];simp;cases k with
  |el i=>
   grind[eX,Nd.dO]
  |tx i=>exact ih h l
  |cm i=>exact ih h l
  |dt i=>exact ih h l
theorem fg.kG(h:fg r X){B:mh}(T:X.h j=H B):∃W,kG j X=.ok () W/\fg r W/\Fx X W/\wt W<=wt X/\W.A=X.A/\W.B=X.B/\W.E=X.E/\(ln W.d)=ln X.d/\(∃A,W.h j=H A/\A.E=F/\A.name=B.name):=by
 unfold Go.Proofs.YtcalkelgoekpfaaGreatDoor.kG;rw[T];dsimp only;cases hp:B.E with
 |none=>grind[Fx.refl]
 |some p=>
  have⟨ep,hep,hm⟩:=h.E.up j B p T hp;have P:=h.K.E j B p T hp;have a:j≠p:=by rintro rfl;omega
  have⟨q1,q2⟩:=Y6 hm;dsimp only;rw[hep];dsimp only;rw[dw ⟨a,q1,q2⟩];have t:=N.n hep;have ad:=N.n T;have a0:(oS ep.q (Nd.dO j)).toNat=ep.q.findIdx (Nd.dO j):=by unfold oS at q2|-;by_cases hf:ep.q.findIdx (Nd.dO j)<ln ep.q;omega;exfalso;apply hf;exact ud ⟨_,o9.1 hm,by simp[Nd.dO]⟩
  rw[a0]at q2|-;obtain⟨ks,U⟩:∃ks,ks=ep.q.eraseIdx (ep.q.findIdx (Nd.dO j)):=⟨_,D⟩;rw[<-U];have O:ln ks+1=ln ep.q:=by rw[U,List.length_eraseIdx_of_lt q2];omega
  have a1:eX ks=(eX ep.q).erase j:=by rw[U];exact SL hm (h.E.nd p ep hep)
  have J:∀k∈ks,k∈ep.q:=λk hk=>by grind[List.eraseIdx_sublist]
  obtain⟨W,g⟩:∃W,W=(X.l p {ep with q:=ks}).l j {B with E:=F}:=⟨_,D⟩;rw[<-g];have R:W.h p=H {ep with q:=ks}:=by rw[g,N.s (yz a),N.gu t]
  have V:W.h j=H {B with E:=F}:=by rw[g,N.gu (by grind[N.l])]
  have Y:∀i,i≠p->i≠j->W.h i=X.h i:=λi u E=>by grind[N.s]
  have L:(X.h p).isSome=C:=by rw[hep];rfl
  have M:((X.l p {ep with q:=ks}).h j).isSome=C:=by rw[N.s a,T];rfl
  have Z:∀k,W.q k=X.q k:=λk=>by grind[N.nE]
  have ge:∀x,W.lj x=X.lj x:=λx=>by grind[N.F0]
  have S:∀i e,X.h i=H e->∃A,W.h i=H A/\A.name=e.name/\(i≠p->A.q=e.q)/\(i≠j->A.E=e.E):=by intro i e K;by_cases u:i=p;grind;grind
  have v:∀i A,W.h i=H A->(i=p/\A={ep with q:=ks})\/(i=j/\A={B with E:=F})\/(i≠p/\i≠j/\X.h i=H A):=by intro i A K;by_cases u:i=p;grind;grind
  have a2:∀i s,fa X i s->fa W i s:=λi s ⟨e,K,hn⟩=>by grind[fa]
  have Q:∀i e q,X.h i=H e->i≠j->e.E=H q->∃eq,W.h q=H eq/\i∈eX eq.q:=by intro i e q K ab c;have⟨eq,E,b⟩:=h.E.up _ _ q K c;have⟨eq',h4,_,h5,_⟩:=S q eq E;refine⟨eq',h4,?_⟩;by_cases ag:q=p;grind;grind
  have n:∀i e x,X.h i=H e->x∈eX e.q->x≠j->∃ex,W.h x=H ex/\ex.E=H i:=by intro i e x K f w;have⟨ex,E,b⟩:=h.E.q i e x K f;have⟨ex',h4,_,_,h5⟩:=S x ex E;exact⟨ex',h4,(h5 w).trans b⟩
  have I:∀i e,X.h i=H e->j∈eX e.q->i=p:=by intro i e K o;have⟨ex,E,b⟩:=h.E.q i e j K o;rw[T]at E;cases E;rw[hp]at b;exact(jS b).symm
  refine⟨W,D,⟨⟨?_,?_,?_,?_⟩,⟨?_,?_,?_⟩,λx f=>?_,λi l=>?_,λd hd=>a2 _ _ (h.head d ?_),λd hd=>a2 _ _ (h.j d ?_),λy m G=>?_,?_,?_,?_,?_,?_⟩,?_,?_,?_,?_,?_,?_,?_⟩;grind
  .intro i e x l f;rcases v i e l with⟨u,rfl⟩|⟨u,rfl⟩|⟨b,E,u⟩;rw[u];have a3:x∈(eX ep.q).erase j:=by rw[<-a1];exact f
   exact n p ep x hep (wJ a3) (λe=>by subst e;exact(List.Nodup.not_mem_erase (h.E.nd p ep hep)) a3)
   all_goals grind
  intro i e l;rcases v i e l with⟨u,rfl⟩|⟨u,rfl⟩|⟨_,_,u⟩;show(eX ks).Nodup;rw[a1];exact(h.E.nd p ep hep).erase j;show(eX B.q).Nodup;exact h.E.nd _ _ T;exact h.E.nd _ _ u;grind[CI.g,fg.E];intro i e q l c;rcases v i e l with⟨u,rfl⟩|⟨u,rfl⟩|⟨_,_,u⟩;rw[u];exact h.K.E _ _ q hep c;cases c;exact h.K.E _ _ q u c;rw[g];exact h.K.A;rw[g];exact h.K.B;rw[ge];exact h.A x (by rwa [g]at f);have⟨e,K,hf⟩:=h.B i (by rw[g]at l;exact l);grind
  rwa [g]at hd
  rwa [g]at hd
  have⟨z,u,E⟩:=h.S y m (by rwa [g]at G);grind;rw[g];exact h.P;rw[g];exact h.n;rw[g];exact h.L;rw[g];exact h.Q;grind[fg.u];rw[g];exact⟨D,D,D,D,D,D,D,D,D,D,D,by grind,λ_=>D⟩;grind[wI,N.s];rw[g];rfl;rw[g];rfl;rw[g];rfl
  all_goals grind[N.gP]
structure xN(σ:N)(d:Nat)(ed:mh)(ks:List Nd)(σ':N):Prop where
 eq:σ'={σ with d:=σ'.d}
 len:ln σ'.d=ln σ.d
 dst:σ'.h d=H {ed with q:=ed.q++ks}
 B:∀i,i≠d->σ'.h i=if i∈eX ks then (σ.h i).map (λe=>{e with E:=H d})else σ.h i
 h:∀k,σ'.q k=σ.q k
 A:wt σ'=wt σ+ln ks
def YD(a:List Nd)(k:Nd):ins a (ln a) k=a++[k]:=by simp[ins]
theorem FW:∀(ks:List Nd){X:N} {d:Nat} {c:mh},X.h d=H c->(∀k∈ks,X.q k=C)->d∉eX ks->(eX ks).Nodup->ln c.q+ln ks<1000000->∃W,x8 d ks X=.ok () W/\xN X d c ks W
 |[],X,d,c,hd,_,_,_,_=>⟨X,D,D,D,by simp_all,λi _=>by rfl,λ_=>D,D⟩
 |k::ks,X,d,c,hd,hk,hn,hnd,hl=>by
  simp only[uJ]at hl;have v:=N.n hd;have S:(X.h d).isSome=C:=by rw[hd];rfl
  have f:fM d X=.ok (d,ln c.q) X:=by unfold fM;rw[hd]
  unfold x8;rw[M.cW,f];dsimp only;rw[M.cW];have A:=hk k (js ..);have u:∀(K:Nd),(∀j,K≠ .el j)->k=K->∃σ1,wB (d,ln c.q) K X=.ok () σ1/\∃W,x8 d ks σ1=.ok () W/\xN X d c (k::ks) W:=by
   intro K a2 b;subst b;have U:wB (d,ln c.q) k X=.ok () (X.l d {c with q:=c.q++[k]}):=by unfold wB;dsimp only;rw[hd];dsimp only;rw[dw ⟨A,dF _,by omega⟩,YD]
   refine⟨_,U,?_⟩;have p:eX (k::ks)=eX ks:=by
    cases k with
    |el j=>grind
    |tx j=>rfl
    |cm j=>rfl
    |dt j=>rfl
   rw[p]at hn hnd;have⟨W,E,l⟩:=FW ks (X:=X.l d {c with q:=c.q++[k]}) (d:=d) (c:={c with q:=c.q++[k]}) (N.gu v) (λx m=>by grind[N.nE]) hn hnd (by grind);refine⟨W,E,l.eq,by grind[xN.len,N.gP],by rw[l.dst];simp,?_,λx=>by rw[l.h,N.nE S],?_⟩;intro i a;rw[l.B i a,p,N.s a];grind[wI,xN.A]
  cases k with
  |tx j=>
   have⟨σ1,e1,W,e2,e3⟩:=u (.tx j) (λ_ h=>by cases h) D;rw[show Gi (d,ln c.q) (.tx j) X=.ok () σ1 from e1];grind
  |cm j=>
   have⟨σ1,e1,W,e2,e3⟩:=u (.cm j) (λ_ h=>by cases h) D;rw[show Gi (d,ln c.q) (.cm j) X=.ok () σ1 from e1];grind
  |dt j=>
   have⟨σ1,e1,W,e2,e3⟩:=u (.dt j) (λ_ h=>by cases h) D;rw[show Gi (d,ln c.q) (.dt j) X=.ok () σ1 from e1];grind
  |el j=>
   have q:j≠d:=by rintro rfl;exact hn (js ..)
   have⟨ej,hej⟩:=dh.1 (show(X.h j).isSome=C from A);have a0:=N.n hej;obtain⟨σ1,g⟩:∃σ1,σ1=(X.l d {c with q:=c.q++[.el j]}).l j {ej with E:=H d}:=⟨_,D⟩;have U:Gi (d,ln c.q) (.el j) X=.ok () σ1:=by show jz (d,ln c.q) j X=_;unfold jz;dsimp only;rw[hd,hej];dsimp only;rw[dw ⟨q,dF _,by omega⟩,YD,g]
   rw[U];dsimp only;have a1:((X.l d {c with q:=c.q++[.el j]}).h j).isSome=C:=by rw[N.s q,hej];rfl
   have o:∀k,σ1.q k=X.q k:=λk=>by grind[N.nE]
   have e:σ1.h d=H {c with q:=c.q++[.el j]}:=by rw[g,N.s (yz q),N.gu v]
   have n:σ1.h j=H {ej with E:=H d}:=by rw[g,N.gu (by grind[N.l])]
   have go:∀i,i≠d->i≠j->σ1.h i=X.h i:=λi E l=>by grind[N.s]
   have T:d∉eX ks:=λh=>hn (gS _ h);have B:=kp.1 (show(j::eX ks).Nodup from hnd);have⟨W,E,l⟩:=FW ks (X:=σ1) (d:=d) (c:={c with q:=c.q++[.el j]}) e (λx m=>by grind) T B.2 (by grind);refine⟨W,E,?_,by grind[xN.len,N.gP],by rw[l.dst];simp,?_,λx=>by grind[xN.h],?_⟩;have:=l.eq;rwa [g]at this;grind[xN.B,eX];grind[wI,N.s,xN.A]
theorem fg.hand(h:fg r X){d:Nat}{g f:mh}(v:X.h b=H g)(hd:X.h d=H f)(S:b≠d)(a0:f.q=[])(a2:f.E=F)(hr:∀k∈eX g.q,r d<r k)(hw:wt X<999999):∃W,mG b d X=.ok () W/\fg r W/\Fx X W/\wt W=wt X/\W.A=X.A/\W.B=X.B/\W.E=X.E/\(ln W.d)=ln X.d/\W.h b=H {g with q:=[]}/\W.h d=H {f with q:=g.q}:=by
 have ai:=N.n v;have L:d∉eX g.q:=by intro n;have⟨e2,h1,h2⟩:=h.E.q b g d v n;rw[hd]at h1;cases h1;rw[a2]at h2;cases h2
 have I:b∉eX g.q:=by intro n;have⟨e2,h1,h2⟩:=h.E.q b g b v n;have:=h.K.E b e2 b h1 h2;omega
 have al:=Jp v;have⟨σ1,h1,h2⟩:=FW g.q hd (h.E.g b g v) L (h.E.nd b g v) (by grind);have c:σ1.h b=H g:=by rw[h2.B b S,di I];exact v
 have J:σ1.h d=H {f with q:=g.q}:=by rw[h2.dst,a0];simp
 obtain⟨W,B⟩:∃W,W=σ1.l b {g with q:=[]}:=⟨_,D⟩;have Y:mG b d X=.ok () W:=by
  unfold mG;rw[v];dsimp only;rw[di S];change M.bind (x8 d g.q) (λ_ W=>match W.h b with|some eb'=> .ok () (W.l b {eb' with q:=[]})|none=> .stuck) X=_
  unfold M.bind;rw[h1];dsimp only;rw[c,B]
 have ag:(σ1.h b).isSome=C:=by rw[c];rfl
 have R:W.h b=H {g with q:=[]}:=by rw[B,N.gu (by grind[xN.len])]
 have V:W.h d=H {f with q:=g.q}:=by rw[B,N.s (yz S)];exact J
 have go:∀i,i≠d->i≠b->W.h i=if i∈eX g.q then (X.h i).map (λe=>{e with E:=H d})else X.h i:=λi l U=>by grind[N.s,xN.B]
 have gk:∀k,W.q k=X.q k:=λk=>by grind[N.nE,xN.h]
 have u:W={X with d:=W.d}:=by rw[B];have:=h2.eq;show({σ1 with d:=_}:N)=_;rw[this];rfl
 have q:∀i A,W.h i=H A->(i=b/\A={g with q:=[]})\/(i=d/\A={f with q:=g.q})\/(i≠b/\i≠d/\i∈eX g.q/\∃e,X.h i=H e/\A={e with E:=H d})\/(i≠b/\i≠d/\i∉eX g.q/\X.h i=H A):=by intro i A T;by_cases l:i=b;grind;grind[eM]
 have af:∀i e,X.h i=H e->∃A,W.h i=H A/\A.name=e.name:=by intro i e T;by_cases l:i=b;grind;grind
 have a1:∀i s,fa X i s->fa W i s:=λi s ⟨e,T,hn⟩=>by grind[fa]
 have ac:∀i e p,X.h i=H e->e.E=H p->i∉eX g.q->∃K,W.h p=H K/\i∈eX K.q:=by
  intro i e p T w Q;have⟨K,h5,h6⟩:=h.E.up i e p T w;have a3:p≠b:=by rintro rfl;rw[v]at h5;cases h5;exact Q h6
  have y:p≠d:=by rintro rfl;rw[hd]at h5;cases h5;rw[a0]at h6;cases h6
  rw[go p y a3];by_cases a:p∈eX g.q;grind;grind
 have ah:∀i e p,X.h i=H e->i≠b->i≠d->p∈eX e.q->∃K,W.h p=H K/\K.E=H i:=by
  intro i e p T P ak n;have⟨K,h5,h6⟩:=h.E.q i e p T n;have y:p≠d:=by rintro rfl;rw[hd]at h5;cases h5;rw[a2]at h6;cases h6
  have an:p∉eX g.q:=by intro ad;have⟨e3,h7,h8⟩:=h.E.q b g p v ad;rw[h5]at h7;cases h7;rw[h6]at h8;exact P (jS h8)
  by_cases a3:p=b;grind;grind
 have t:W.A=X.A:=by rw[u]
 have G:W.B=X.B:=by rw[u]
 have O:W.head=X.head:=by rw[u]
 have aj:W.j=X.j:=by rw[u]
 refine⟨W,Y,⟨⟨?_,?_,?_,?_⟩,⟨?_,?_,?_⟩,?_,?_,?_,?_,?_,?_,?_,?_,?_,?_⟩,?_,?_,t,G,by rw[u],?_,R,V⟩;grind
 .intro i e j m z;rcases q i e m with⟨l,rfl⟩|⟨l,rfl⟩|⟨l,U,a,o,E,rfl⟩|⟨l,U,a,E⟩;cases z;rw[l];have ab:j∈eX g.q:=z;have⟨ej,h5,_⟩:=h.E.q b g j v ab;grind
  all_goals grind
 intro i e m;rcases q i e m with⟨l,rfl⟩|⟨l,rfl⟩|⟨l,U,a,o,E,rfl⟩|⟨l,U,a,E⟩;simp[eX];show(eX g.q).Nodup;exact h.E.nd b g v;show(eX o.q).Nodup;exact h.E.nd i o E;exact h.E.nd i e E;grind[CI.g,fg.E];intro i e p m w;rcases q i e m with⟨l,rfl⟩|⟨l,rfl⟩|⟨l,U,a,o,E,rfl⟩|⟨l,U,a,E⟩;rw[l];exact h.K.E b g p v w;grind;grind;exact h.K.E i e p E w;rw[t];exact h.K.A;rw[t,O];exact h.K.B;rw[t];intro x Z;obtain⟨i,e,rfl,T⟩:=jj (h.A x Z);grind[N.lj];grind[fg.B];grind[head];grind[fg.j];grind[fg.S];grind[fg.P];grind[fg.n];grind[fg.L];grind[fg.Q];grind[fg.u];rw[u]at a1|-;exact⟨D,D,D,D,D,D,D,D,D,D,D,a1,λ_=>D⟩
 all_goals grind[xN.A,wI,N.gP,xN.len]
theorem fg.nodup(h:fg r X):X.A.Nodup:=h.K.A.imp λd e=>by grind
theorem fg.q(h:fg r X)(q:∀x∈ys,X.lj x=C)(u:ys.Pairwise λx y=>rk r x<rk r y)(k:ys.head?=X.A.head?)(v:ln ys<=X.Q):fg r {X with A:=ys}/\Fx X {X with A:=ys}:=by
 refine⟨⟨⟨h.E.up,h.E.q,h.E.nd,h.E.g⟩,⟨h.K.E,u,?_⟩,q,h.B,h.head,h.j,?_,v,h.n,h.L,h.Q,h.u⟩,⟨D,D,D,D,D,D,D,D,D,D,D,λ_ _ h=>h,λ_=>k⟩⟩;intro d x A p;exact h.K.B d x A (by grind);intro x g p;have l:ys=x::g:=p;rw[l]at k;cases ho:X.A with
 |nil=>grind
 |cons y r2=>
  rw[ho]at k;have e:=by simpa using k
  subst e;exact h.S x r2 ho
theorem UE(h:xs[n]?=H x):xs=xs.take n++x::xs.drop (n+1):=by grind[List.drop_eq_getElem_cons,fA]
theorem adp(h:xs[n]?=H x)(g:xs.Nodup):xs.erase x=xs.take n++xs.drop (n+1):=by
 have d:x∉xs.take n:=by have e:=UE h;grind
 conv=>lhs;rw[UE h]
 grind
theorem uQ(h:xs[n]?=H x)(d:xs.Nodup):xs.idxOf x=n:=by grind
def Ag(h:xs[n]?=H x):n<ln xs:=(dG.1 h).1
theorem fg.l(h:fg r X){x y:Nat}(g:X.A[m]?=H (H x))(k:X.A[n]?=H (H y))(d:m<n):r x<r y:=by
 have:=lP.1 h.K.A m n (Ag g) (Ag k) d
 rwa [(dG.1 g).2,(dG.1 k).2]at this
theorem fg.p(h:fa X i s):X.nm i=s:=by have⟨e,he,hn⟩:=h;grind[N.nm]
theorem Wi(h:X.h i=H e):fa X i (X.nm i):=⟨e,h,by grind[N.nm]⟩
theorem kj(h:fa X i s):(X.h i).isSome=C:=by have⟨e,he,_⟩:=h;grind
theorem adG(h:(X.h i).isSome=C):fa X i (X.nm i):=by grind[fa,N.nm]
structure RJ(r:Nat->Nat)(σ:N)(f dP n pf last mark:Nat):Prop where
 inv:fg r σ
 K:(σ.h last).isSome=C
 low:∀m x,m<n->σ.A[m]?=H (H x)->r x<r last
 A:σ.A[pf]?=H (H f)
 P:pf<n
 B:H dP∈σ.A.drop n
 Q:n<=ln σ.A
 E:(σ.h mark).isSome=C
 L:∀m x,pf<m->σ.A[m]?=H (H x)->fG (σ.nm x) aH=I
 fact:H f∈σ.B
theorem RJ.isSome(f:Fx X W)(h:(X.h i).isSome=C):(W.h i).isSome=C:=kj (f.nm _ _ (adG h))
def Fx.k(f:Fx X W)(h:(X.h i).isSome=C):W.nm i=X.nm i:=fg.p (f.nm _ _ (adG h))
def RJ.nJ(h:fg r X){x:Nat}(d:X.A[m]?=H (H x)):(X.h x).isSome=C:=h.A _ (sA d)
def GU(f dP a c:Nat)(X:N)(d:pj (Nat×Nat)):Prop:=match d with
 | .ok lm W=>Fx X W/\wt W<=wt X+c/\W.E=X.E/\∃r,RJ r W f dP (a+1) a lm.1 lm.2
 | .stop _ _=>False
 | .stuck=>False
theorem GU.pre{dP:Nat}{d:pj (Nat×Nat)}(h:GU f dP pf c σ1 d)(g:Fx X σ1)(hw:wt σ1+c<=wt X+c')(k:σ1.E=X.E):GU f dP pf c' X d:=by
 cases d with
 |ok lm W=>
  have⟨h1,h2,h3,h4⟩:=h;exact⟨g.trans h1,by omega,h3.trans k,h4⟩
 |stop e p=>exact h
 |stuck=>exact h
def Zd(f dP n c last g e:Nat):M (Nat×Nat):=λX=>if H e∉X.B then (iH (H e)>>=λ_=>kC f dP n (c+1) last g) X else (jm e>>=λd=>zw (H e) (H d)>>=λ_=>qI (H e) (H d)>>=λ_=>kG last>>=λ_=>fM d>>=λpl=>jz pl last>>=λ_=>kC f dP n (c+1) d (if last=dP then d else g)) X
def QZ(f dP n c last d:Nat)(X:N):kC f dP (n+1) c last d X=(Il n>>=λe=>if e=f then pure (last,d)else (if 3<c+1 then iP (H e)else pure ())>>=λ_=>Zd f dP n c last d e) X:=rfl
def zH(o a:iU)(n:Nat):Nat:=ln ((o.take n).filter λx=>decide (x∈a))
def NE{o a b:iU}(g:n<=m)(d:∀x∈o.take n,x∈b->x∈a):zH o b n<=zH o a m:=by
 unfold zH;have q:ln ((o.take n).filter λx=>decide (x∈b))<=ln ((o.take n).filter λx=>decide (x∈a)):=by rw[<-vo,<-vo];refine List.countP_mono_left ?_;intro x p k;simp at k|-;exact d x p k
 have u:ln ((o.take n).filter λx=>decide (x∈a))<=ln ((o.take m).filter λx=>decide (x∈a)):=by
  have l:(o.take n).Sublist (o.take m):=by
   have e:o.take n=(o.take m).take n:=by rw[ZL,ZM g]
   rw[e];exact Mr _ _
  exact(l.filter _).length_le
 omega
theorem aaa{o a:iU}(h:o[n]?=H x)(d:x∈a):zH o a (n+1)=zH o a n+1:=by grind[List.take_add_one,zH]
theorem Ox:∀{xs ys:iU},xs.Nodup->(∀x∈xs,x∈ys)->ln xs<=ln ys
 |[],_,_,_=>eZ _
 |x::xs,ys,hn,P=>by have⟨h1,h2⟩:=kp.1 hn;have g:=Ox (ys:=ys.erase x) h2 (λy d=>(XS (by grind)).2 (P y (gS _ d)));grind
theorem Dl(f dP w:Nat)(s:O)(P:s≠aC):∀(n c last u:Nat){r:Nat->Nat} {X:N} {K:Nat},RJ r X f dP n w last u->fa X f s->zH X.A X.B n<=K->wt X+K<999990->GU f dP w K X (kC f dP n c last u X)
 |0,c,last,u,r,X,K,h,_,_,_=>absurd h.P (by omega)
 |n+1,c,last,u,r,X,K,h,hfn,hK,hw=>by
  have ax:n<ln X.A:=by have:=h.Q;omega
  have⟨e,ee,hoe,hel⟩:=h.inv.at ax;have ao:Il n X=.ok e X:=by unfold Il;rw[qz,Ce,hoe];rfl
  rw[QZ,M.cW,ao];dsimp only;by_cases U:e=f;rw[dw U];have o:n=w:=by have h1:=uQ hoe h.inv.nodup;have h2:=uQ h.A h.inv.nodup;rw[U]at h1;omega
  subst o;exact⟨Fx.refl _,by omega,D,r,h⟩
  .rw[di U];have o:n≠w:=by intro o;rw[o,h.A]at hoe;exact U (jS (jS hoe)).symm
   have L:w<n:=by have:=h.P;omega
   have hA:∃σ1,(if 3<c+1 then iP (H e)else pure ()) X=.ok () σ1/\fg r σ1/\Fx X σ1/\JG X X.A σ1.B σ1/\H f∈σ1.B/\∀x,x∈σ1.B->x∈X.B:=by by_cases hc:3<c+1;rw[dw hc];unfold iP;rw[dw (by grind[N.dO])];have⟨g1,g2⟩:=h.inv.d (ys:=X.B.erase (H e)) (λi z=>h.inv.B i (wJ z)) (gR (uX) h.inv.n);exact⟨_,D,g1,g2,⟨D,D,D,D⟩,(XS (λG=>U (jS G).symm)).2 h.fact,λx E=>wJ E⟩;rw[di hc];exact⟨X,D,h.inv,Fx.refl _,⟨D,D,D,D⟩,h.fact,λ_ h=>h⟩
   have⟨σ1,q1,i1,f1,l1,a1,sub1⟩:=hA;rw[M.cW,q1];dsimp only;unfold Zd;have t:=l1.A;have aL:∀i,σ1.h i=X.h i:=λi=>by grind[JG.d,N.h]
   have ak:∀i,σ1.nm i=X.nm i:=λi=>by grind[N.nm]
   have w1:wt σ1=wt X:=fJ l1.d;have T:σ1.A[n]?=H (H e):=by rw[t];exact hoe
   have S:=i1.nodup;have ap:σ1.A.head?≠H (H e):=by intro G;rw[ak9]at G;have h1:=uQ G S;have h2:=uQ T S;omega
   split
   .
    rename_i ai;rw[M.cW];have hq:iH (H e) σ1=.ok () {σ1 with A:=σ1.A.erase (H e)}:=by unfold iH;rw[dw (by grind[N.dO])]
    rw[hq];dsimp only;have⟨g1,g2⟩:=i1.sub (ys:=σ1.A.erase (H e)) po (Cy ap);have Z:σ1.A.erase (H e)=σ1.A.take n++σ1.A.drop (n+1):=adp T S;have av:ln (σ1.A.take n)=n:=by rw[List.length_take];rw[t];omega
    have aQ:∀m,m<n->(σ1.A.erase (H e))[m]?=X.A[m]?:=by intro m v;rw[Z,ZR (by omega),Vl,dw v,t]
    have ar:∀m,n<=m->(σ1.A.erase (H e))[m]?=X.A[m+1]?:=by
     intro m v;rw[Z,List.getElem?_append_right (by omega),av,pr,t]
     congr 1;omega
    refine GU.pre (Dl f dP w s P n (c+1) last u (r:=r) (K:=K) ⟨g1,?_,?_,?_,L,?_,?_,?_,?_,a1⟩ ?_ ?_ ?_) (f1.trans g2) ?_ l1.E;grind[RJ.isSome,RJ.K];intro m x v E;exact h.low m x (by omega) (by grind);grind[RJ.A];grind[RJ.B];grind;grind[RJ.isSome,RJ.E];intro m x v E;have aj:(σ1.A.erase (H e))[m]?=H (H x):=E;show fG (σ1.nm x) _=_;rw[ak];rcases qp m n with B|B;grind[RJ.L];rw[ar m B]at aj;exact h.L (m+1) x (by omega) aj;grind[Fx.nm];refine gR ?_ hK;show zH (σ1.A.erase (H e)) σ1.B n<=_;have Y:zH (σ1.A.erase (H e)) σ1.B n=zH X.A σ1.B n:=by unfold zH;rw[Z,Pd (by omega),zA (by omega),t]
    rw[Y];exact NE (jR _) (λx _ E=>sub1 x E)
    all_goals grind[wt]
   rename_i ai;have ae:H e∈σ1.B:=by simpa using ai
   have⟨e1,he1,hfm⟩:=i1.B e ae;rw[M.cW,zU he1 hfm];dsimp only;obtain⟨j,hj⟩:∃j,j=ln σ1.d:=⟨_,D⟩;have⟨i2,f2⟩:=i1.new e1.name e1.A σ1.E (r e);obtain⟨d,l⟩:∃d,d=σ1.il (.el {name:=e1.name,A:=e1.A,E:=F,q:=[]}) σ1.E:=⟨_,D⟩;rw[<-l]at i2 f2|-;have ag:d.h j=H {name:=e1.name,A:=e1.A,E:=F,q:=[]}:=by rw[l,hj];exact N.ng
   rw[<-hj]at i2|-;have w2:wt d=wt σ1:=by rw[l];exact Fv _ _ _
   have I:d.A=σ1.A:=by rw[l];rfl
   have a2:d.B=σ1.B:=by rw[l];rfl
   have hold:∀i,(σ1.h i).isSome=C->i≠j:=by intro i z G;have⟨ei,hei⟩:=dh.1 z;have:=N.n hei;omega
   have aT:∀i,(σ1.h i).isSome=C->wV r j (r e) i=r i:=λi z=>Rt (hold i z);have af:(σ1.h e).isSome=C:=by rw[he1];rfl
   have W:fa d j e1.name:=⟨_,ag,D⟩;have au:d.A.idxOf (H e)=n:=by rw[I];exact uQ T S
   have aw:H e∈d.A:=by rw[I];exact sA T
   have aB:oU d.A (H e) (H j)=d.A.set n (H j):=by unfold oU;rw[dw aw,au]
   have ay:zw (H e) (H j) d=.ok () {d with A:=d.A.set n (H j)}:=by unfold zw;rw[dw (by rw[fq];exact⟨RJ.isSome f2 af,kj W⟩),aB]
   have a0:∀m,(d.A.set n (H j))[m]?=if m=n then H (H j)else X.A[m]?:=by intro m;rw[List.getElem?_set];by_cases v:n=m;grind;grind
   have aS:1<=n:=by omega
   have⟨i3,f3⟩:=i2.q (ys:=d.A.set n (H j)) (by
     intro x E;rcases List.mem_or_eq_of_mem_set E with E|rfl;grind[fg.A];exact kj W) (by
     rw[lP];intro a b ha hb an;have ac:a<ln X.A:=by simpa [I,t]using ha
     have ad:b<ln X.A:=by simpa [I,t]using hb
     have A:∀m (v:m<ln (d.A.set n (H j))) (J:m<ln X.A),rk (wV r j (r e)) ((d.A.set n (H j))[m])=rk r (X.A[m]):=by intro m v J;have h1:=a0 m;rw[qM v]at h1;by_cases B:m=n;grind[rk,wV];rw[di B,qM J]at h1;rw[jS h1];have⟨y,ey,hy,Q⟩:=jj (h.inv.A _ (uI J));grind[rk]
     rw[A a ha ac,A b hb ad];exact lP.1 h.inv.K.A a b ac ad an) (by
     grind[ki]) (by
     grind[fg.P])
   rw[M.cW,ay];dsimp only;obtain⟨g,p⟩:∃g,g=({d with A:=d.A.set n (H j)}:N):=⟨_,D⟩;rw[<-p]at i3 f3|-;have az:qI (H e) (H j) g=.ok () {g with B:=oU g.B (H e) (H j)}:=by unfold qI;rw[dw (by rw[fq];exact⟨RJ.isSome f3 (RJ.isSome f2 af),kj (f3.nm _ _ W)⟩)]
   have⟨i4,f4⟩:=i3.d (ys:=oU g.B (H e) (H j)) (λi z=>by grind[LC,fg.B,N.h]) (by grind[LA,fg.n])
   rw[M.cW,az];dsimp only;obtain⟨V,q⟩:∃V,V=({g with B:=oU g.B (H e) (H j)}:N):=⟨_,D⟩;rw[<-q]at i4 f4|-;have ab:=((f1.trans f2).trans f3).trans f4;have ah:=RJ.isSome ab h.K;have⟨elast,hlast⟩:=dh.1 ah;have⟨σ5,q5,i5,f5,w5,o5,a5,r5,n5,e5,he5,hp5,_⟩:=i4.kG hlast;rw[M.cW,q5];dsimp only;have⟨ej5,hj5,hjn5⟩:=f5.nm _ _ (f4.nm _ _ (f3.nm _ _ W));have aA:fM j σ5=.ok (j,ln ej5.q) σ5:=by unfold fM;rw[hj5]
   rw[M.cW,aA];dsimp only;have aR:r e<r last:=h.low n e (by omega) hoe;have aE:(σ1.h last).isSome=C:=RJ.isSome f1 h.K;have aK:wt σ5<=wt X:=by
    have e4:wt V=wt g:=by rw[q];rfl
    have e3:wt g=wt d:=by rw[p];rfl
    omega
   have⟨σ6,q6,i6,f6,w6,o6,a6,r6,n6,g6,_⟩:=i5.put (pl:=(j,ln ej5.q)) ⟨ej5,hj5,dF _⟩ he5 hp5 (by grind[wV]) (by omega)
   rw[M.cW,q6];dsimp only;have a3:=(ab.trans f5).trans f6;have R:σ6.A=d.A.set n (H j):=by rw[o6,o5,q];show g.A=_;rw[p]
   have j6:fa σ6 j e1.name:=f6.nm _ _ ⟨ej5,hj5,hjn5⟩;have al:σ6.B=oU σ1.B (H e) (H j):=by rw[a6,a5,q];show oU g.B (H e) (H j)=_;rw[p];show oU d.B (H e) (H j)=_;rw[a2]
   have aP:zH X.A X.B (n+1)=zH X.A X.B n+1:=aaa hoe (sub1 _ ae);have aM:zH σ6.A σ6.B n<=zH X.A X.B n:=by
    have Y:zH σ6.A σ6.B n=zH X.A σ6.B n:=by unfold zH;rw[R,List.take_set_of_le (dF _),I,t]
    rw[Y];refine NE (dF _) ?_;intro y hy v;rw[al]at v;rcases LC v with v|v;grind;exfalso;have Q:=XT hy;rw[v]at Q;have:=h.inv.k Q;grind[JG.d]
   refine GU.pre (Dl f dP w s P n (c+1) j (if last=dP then j else u) (r:=wV r j (r e)) (K:=K-1) ⟨i6,kj j6,?_,?_,L,?_,?_,?_,?_,?_⟩ (a3.nm _ _ hfn) (by omega) (by omega)) a3 (by omega) ?_;grind[fg.l];grind[RJ.A];rw[R];have v:H dP∈X.A.drop (n+1):=h.B;have⟨k,hk⟩:=GN v;rw[pr]at hk;refine sA (i:=k+1) ?_;grind;grind;grind[RJ.isSome,RJ.E];intro m x v E;rw[R,a0 m]at E;by_cases B:m=n;rw[dw B]at E;cases E;rw[fg.p j6];have h3:=h.L n e L hoe
   rwa [<-ak,show σ1.nm e=e1.name from fg.p ⟨e1,he1,D⟩]at h3
   rw[di B]at E;rw[a3.k (RJ.nJ h.inv E)];grind[RJ.L];rw[a6,a5,q];show H f∈oU g.B (H e) (H j);have aq:H f∈g.B:=by rw[p];show H f∈d.B;rw[a2];exact a1
   unfold oU;split;have⟨k,hk⟩:=GN aq;refine sA (i:=k) ?_;grind;omega;rw[r6,r5,q];show g.E=_;rw[p];show d.E=_;rw[l];exact l1.E
theorem fg.amt(h:fg r X):fg (λi=>2*r i) X:=by refine {h with K:=⟨λi e p l q=>?_,h.K.A.imp_of_mem ?_,λd x k g=>?_⟩};have:=h.K.E i e p l q;omega;intro x y g v u;obtain⟨i,_,rfl,_⟩:=jj (h.A x g);obtain⟨j,_,rfl,_⟩:=jj (h.A y v);grind[rk];have:=h.K.B d x k g;omega
theorem VD(h:X.dO x=C):iP x X=.ok () {X with B:=X.B.erase x}:=by grind[iP]
theorem Le(h:X.dO x=C):iH x X=.ok () {X with A:=X.A.erase x}:=by grind[iH]
theorem Ng(a:iU)(x y:fW):ln (ft a x y)<=ln a+1:=by grind[ft]
theorem BZ(h:z∈ft xs x y):z∈xs\/z=y:=by grind[ft]
theorem M5(h:z∈xs):z∈ft xs x y:=by grind[fA,ft]
theorem fg.Se(h:fg r X)(d:X.A[pf]?=H (H f))(k:1<=pf):∃a,ahead f X=.ok a X/\X.A[pf-1]?=H (H a):=by
 have⟨a,ea,ha,_⟩:=h.at (n:=pf-1) (by grind);unfold ahead;have g:jf X.A (H f)=(pf):=by unfold jf;rw[(uQ d h.nodup),dw (Ag d)]
 grind[qz]
theorem Nc(h:fg r X)(p:X.A[pf]?=H (H f))(B:1<=pf)(d:X.A[pf-1]?=H (H a))(q:fG (X.nm f) aH=I)(E:∀m x,pf<m->X.A[m]?=H (H x)->fG (X.nm x) aH=I):∃pl,iS a X=.ok pl X/\Bu X pl/\r pl.1<r f:=by have l:=h.l d p (by omega);have⟨a',ea,e1,hea⟩:=jj (h.A _ (sA d));cases e1;unfold iS;split;have⟨pl,h1,h2,_,g⟩:=Af h (ul (sA d));rcases g with⟨i,u,A,_,v⟩|g;have⟨k,hk⟩:=GN u;grind[fg.l];grind[qz,fg.l];unfold fM;rw[hea];grind[Bu]
def TS(f dP:Nat)(X:N):uu f dP X=(xH f dP>>=λg=>kG g.1>>=λ_=>ahead f>>=λa=>iS a>>=λpl=>jz pl g.1>>=λ_=>jm f>>=λd=>mG dP d>>=λ_=>fM dP>>=λpl=>jz pl d>>=λ_=>pM (H g.2) (H d)>>=λ_=>iP (H f)>>=λ_=>iH (H f)>>=λ_=>p5 (H dP) (H d)>>=λ_=>(pure ():M Unit)) X:=rfl
theorem TT(h:kV X){dP t:Nat}(P:rY s=C)(a1:fa X f s)(ay:H f∈X.B)(hf:X.A[pf]?=H (H f))(hb:X.A[t]?=H (H dP))(aK:pf<t)(nt:∀m x,pf<m->X.A[m]?=H (H x)->fG (X.nm x) aH=I)(hw:wt X<999900):fK 36 X (uu f dP X) (λ_ W=>W.E=X.E):=by
 have⟨r,h⟩:=h;have an:s≠aC:=Eg P;have aW:ln X.A<=64:=gR h.P h.L;have al:=Ag hb;have ak:1<=pf:=by rcases Mm pf with h0|h0;grind[fg.v,ki];exact h0
 have aw:=RJ.nJ h hb;rw[TS,M.cW];have aM:xH f dP X=kC f dP t 0 dP f X:=by
  unfold xH;have h1:=uQ hb h.nodup;have w:jf X.A (H dP)=(t:Int):=by unfold jf;rw[h1,dw al]
  rw[w];rfl
 have b7:=Dl f dP pf s an t 0 dP f (r:=r) (X:=X) ⟨h,aw,λm x K u=>h.l u hb K,hf,aK,by
  refine sA (i:=0) ?_;grind,by omega,kj a1,nt,ay⟩ a1 (K:=32) (gR ((by refine Ox ((h.nodup.sublist (Mr _ _)).sublist (List.filter_sublist)) ?_;simp)) (gR h.n h.Q)) (by omega)
 rw[aM];revert b7;cases kC f dP t 0 dP f X with
 |stop e p=>simp[GU]
 |stuck=>simp[GU]
 |ok lm σ1=>
  rintro⟨f1,w1,b1,E,b8⟩;dsimp only;have⟨last,mark⟩:=lm;dsimp only at b8|-;have⟨el,hel⟩:=dh.1 b8.K;have⟨σ2,q2,i2,f2,w2,o2,a2,r2,n2,e2,he2,hp2,_⟩:=b8.inv.kG hel;rw[M.cW,q2];dsimp only;have ag:σ2.A[pf]?=H (H f):=by rw[o2];exact b8.A
  have⟨a,qa,ha⟩:=i2.Se ag ak;rw[M.cW,qa];dsimp only;have V:fa σ2 f s:=f2.nm _ _ (f1.nm _ _ a1);have aA:fG (σ2.nm f) aH=I:=by
   rw[fg.p V];cases u:fG s aH with
   |false=>rfl
   |true=>
    have:=oo u;subst this;simp[rY,cZ,fG,th]at P
  have aR:∀m x,pf<m->σ2.A[m]?=H (H x)->fG (σ2.nm x) aH=I:=by intro m x K u;rw[o2]at u;rw[f2.k (RJ.nJ b8.inv u)];exact b8.L m x K u
  have⟨pl,q3,p3,k3⟩:=Nc i2 ag ak ha aA aR;rw[M.cW,q3];dsimp only;have b3:E f<E last:=b8.low pf f (by omega) b8.A;have⟨σ3,q4,i3,f3,w3,o3,a3,r3,n3,_,_⟩:=i2.put p3 he2 hp2 (by omega) (by omega);rw[M.cW,q4];dsimp only;have ab:fa σ3 f s:=f3.nm _ _ V;have⟨ef,hef,hefn⟩:=id ab;rw[M.cW,zU hef (by grind)];dsimp only;have au:H dP∈σ3.A:=by rw[o3,o2];exact Ms b8.B
  have⟨blk',eb,e1,heb⟩:=jj (i3.A _ au);cases e1;obtain⟨j,hj⟩:∃j,j=ln σ3.d:=⟨_,D⟩;have⟨i4,f4⟩:=i3.amt.new ef.name ef.A σ3.E (2*E dP+1);obtain⟨q,l⟩:∃q,q=σ3.il (.el {name:=ef.name,A:=ef.A,E:=F,q:=[]}) σ3.E:=⟨_,D⟩;rw[<-l]at i4 f4|-;rw[<-hj]at i4|-;obtain⟨R,J⟩:∃R,R=wV (λi=>2*E i) j (2*E dP+1):=⟨_,D⟩;rw[<-J]at i4;have U:q.h j=H {name:=ef.name,A:=ef.A,E:=F,q:=[]}:=by rw[l,hj];exact N.ng
  have ai:∀i,(σ3.h i).isSome=C->i≠j:=by intro i n e0;have⟨ei,Z⟩:=dh.1 n;have:=N.n Z;omega
  have S:∀i,(σ3.h i).isSome=C->R i=2*E i:=λi n=>by rw[J];grind[wV]
  have Rj:R j=2*E dP+1:=by rw[J];exact O9 _ _ _
  have T:(σ3.h dP).isSome=C:=by rw[heb];rfl
  have av:dP≠j:=ai dP T;have ae:q.h dP=H eb:=by rw[l];show(σ3.add _).h dP=_;rw[N.oj (N.n heb)];exact heb
  have w4:wt q=wt σ3:=by rw[l];exact Fv _ _ _
  have o4:q.A=σ3.A:=by rw[l];rfl
  have a4:q.B=σ3.B:=by rw[l];rfl
  have r4:q.E=σ3.E:=by rw[l];rfl
  have⟨σ5,q5,i5,f5,w5,o5,a5,r5,n5,b5,d5⟩:=i4.hand ae U av D D (by intro k hk;have⟨ek,h1,w⟩:=i3.E.q dP eb k heb hk;have h3:=i3.K.E k ek dP h1 w;grind) (by omega)
  rw[M.cW,q5];dsimp only;have q6:fM dP σ5=.ok (dP,0) σ5:=by unfold fM;rw[b5];rfl
  rw[M.cW,q6];dsimp only;have⟨σ6,q7,i6,f6,w6,o6,a6,r6,n6,_,_⟩:=i5.put (pl:=(dP,0)) ⟨_,b5,eZ _⟩ d5 D (by grind) (by omega)
  rw[M.cW,q7];dsimp only;have F6:=((((f1.trans f2).trans f3).trans f4).trans f5).trans f6;have z:fa σ6 j ef.name:=f6.nm _ _ (f5.nm _ _ ⟨_,U,D⟩);have Y:fa σ6 f s:=f6.nm _ _ (f5.nm _ _ (f4.nm _ _ ab));have aQ:(σ6.h mark).isSome=C:=RJ.isSome (((((f2.trans f3).trans f4).trans f5).trans f6)) b8.E;have aq:σ6.B=σ1.B:=by rw[a6,a5,a4,a3,a2]
  have G:σ6.A=σ1.A:=by rw[o6,o5,o4,o3,o2]
  have aX:ln σ6.B<=32:=gR i6.n i6.Q;have b6:ln σ6.A<=64:=gR i6.P i6.L;have b0:H f∈σ6.B:=by rw[aq];exact b8.fact
  have q8:pM (H mark) (H j) σ6=.ok () {σ6 with B:=ft σ6.B (H mark) (H j)}:=by unfold pM;rw[dw];rw[fq,fq];exact⟨⟨aQ,kj z⟩,by grind⟩
  rw[M.cW,q8];dsimp only;have q9:iP (H f) {σ6 with B:=ft σ6.B (H mark) (H j)}=.ok () {σ6 with B:=(ft σ6.B (H mark) (H j)).erase (H f)}:=VD (X:={σ6 with B:=ft σ6.B (H mark) (H j)}) (kj Y);rw[M.cW,q9];dsimp only;have⟨i7,f7⟩:=i6.d (ys:=(ft σ6.B (H mark) (H j)).erase (H f)) (λi n=>by
   rcases BZ (wJ n)with n|n;exact i6.B i n;grind) (by
   grind[Ng,M5,fg.n])
  obtain⟨g,A⟩:∃g,g=({σ6 with B:=(ft σ6.B (H mark) (H j)).erase (H f)}:N):=⟨_,D⟩;rw[<-A]at i7 f7|-;have L:g.A=σ6.A:=by rw[A]
  have ad:fa g f s:=f7.nm _ _ Y;have b4:fa g j ef.name:=f7.nm _ _ z;have ah:g.A[pf]?=H (H f):=by rw[L,G];exact b8.A
  have aj:=i7.v ad an;have aS:iH (H f) g=.ok () {g with A:=g.A.erase (H f)}:=Le (kj ad);rw[M.cW,aS];dsimp only;have⟨i8,f8⟩:=i7.sub (ys:=g.A.erase (H f)) po (Cy aj);obtain⟨d,B⟩:∃d,d=({g with A:=g.A.erase (H f)}:N):=⟨_,D⟩;rw[<-B]at i8 f8|-;have O:d.A=g.A.erase (H f):=by rw[B]
  have az:f≠dP:=by rintro rfl;have h1:=uQ hf h.nodup;have w:=uQ hb h.nodup;omega
  have a0:H dP∈d.A:=by rw[O];refine(XS (λe0=>az (jS e0).symm)).2 ?_;rw[L,G];exact Ms b8.B
  have⟨kb,hkb⟩:=GN a0;have b2:=Ag hkb;have aB:=uQ hkb i8.nodup;have Q:=f7.trans f8;have ap:fa d j ef.name:=Q.nm _ _ z;have aE:ln d.A+1=ln g.A:=by rw[O,List.length_erase_of_mem (sA ah)];have:=Ag ah;omega
  have b:ft d.A (H dP) (H j)=d.A.take (kb+1)++[H j]++d.A.drop (kb+1):=by unfold ft;rw[dw a0,aB]
  have aT:p5 (H dP) (H j) d=.ok () {d with A:=ft d.A (H dP) (H j)}:=by unfold p5;rw[dw];rw[fq,fq];refine⟨⟨?_,kj ap⟩,?_⟩;exact i8.A _ a0;grind
  rw[M.cW,aT];dsimp only;have v:∀x∈d.A,∃i,x=H i/\R i=2*E i:=by
   intro x u;have aP:x∈σ3.A:=by rw[O]at u;have:=wJ u;rw[L,G]at this;rw[o3,o2];exact this
   obtain⟨i,ei,rfl,Z⟩:=jj (i3.A x aP);exact⟨i,D,S i (by grind)⟩
  have aL:=i8.K.A;have aU:R dP=2*E dP:=S dP T;have⟨i9,f9⟩:=i8.q (ys:=ft d.A (H dP) (H j)) (by
   intro x u;rcases BZ u with u|rfl;grind[fg.A];exact kj ap) (by
   rw[b,oX];have ao:d.A=d.A.take (kb+1)++d.A.drop (kb+1):=(Mu _ _).symm;have c:=aL;rw[ao]at c;have⟨p1,p2,p3⟩:=pb.1 c;refine pb.2 ⟨p1,List.pairwise_cons.2 ⟨?_,p2⟩,?_⟩;intro y o;obtain⟨i,rfl,ar⟩:=v y (Ms o);have ax:H dP∈d.A.take (kb+1):=by refine sA (i:=kb) ?_;rw[Vl,dw (by omega)];exact hkb
   have h1:R dP<R i:=p3 _ ax _ o;grind[rk]
   .intro x u y o;rcases dA.1 o with o|o
    .rw[cC.1 o];obtain⟨i,rfl,ar⟩:=v x (XT u);show R i<R j;have⟨k,hk⟩:=GN u;rw[Vl]at hk;split at hk
     all_goals grind[fg.l]
    grind) (by
   rw[b,oX];cases ho8:d.A<;>grind) (by
   grind[fg.P])
  have wf:wt ({d with A:=ft d.A (H dP) (H j)}:N)=wt σ6:=by show wt d=_;rw[B];show wt g=_;rw[A];rfl
  refine⟨⟨_,i9⟩,(F6.trans Q).trans f9,by omega,?_⟩;grind
theorem G1(X:N)(f b:Nat):∀(ys:iU)(d:fW),X.uO f ys d=H b->d=H b\/∃k:Nat,ys[k]?=H (H b)/\∀g:Nat,g<=k->ys[g]?≠H (H f)
 |[],d,h=> .inl h
 |x::ys,d,h=>by unfold N.uO at h;by_cases q:x=H f;grind;rw[di q]at h;rcases G1 X f b ys _ h with p|⟨k,p,u⟩;by_cases v:kg (X.l7 x)=C;refine .inr ⟨0,by grind,λg l=>?_⟩;grind;grind;refine .inr ⟨k+1,p,λg l=>?_⟩;grind
theorem BP(X:N)(f:Nat):∀(ys:iU),X.nF f ys=C->∀(k:Nat)(x:fW),ys[k]?=H x->(∀d:Nat,d<=k->ys[d]?≠H (H f))->eP (X.l7 x)=I
 |[],h,k,x,hx,_=>by grind
 |y::ys,h,k,x,hx,hno=>by
  unfold N.nF at h;rw[di (λe=>hno 0 (eZ _) (by grind))]at h;by_cases g:eP (X.l7 y)=C;grind;rw[di g]at h;cases k with
  |zero=>
   grind
  |succ k=>exact BP X f ys h k x hx (λd l=>hno (d+1) (by omega))
theorem xC(X:N)(s:O):∀{ys:iU} {f:Nat},X.pX s ys=H f->H f∈ys/\fG (X.nm f) s=C
 |[],f,h=>by cases h
 |none::_,f,h=>by cases h
 |some i::ys,f,h=>by unfold N.pX at h;by_cases d:fG (X.nm i) s=C;grind;rw[di d]at h;have⟨h1,h2⟩:=xC X s h;grind
theorem x9{x:O}:cZ [s] x=fG x s:=by simp[cZ]
theorem Eb(h:kV X)(d:s≠aC):fK 0 X (oP s X) (λ_ W=>sD X W):=by refine fK.d ((vZ h _ _ ?_).mono (dF _) (λ_ _ _ _ h=>h.1));grind[x9,oo]
theorem MB(h:kV X)(A:rY s=C)(hw:wt X<999900):fK 36 X (lQ s X) (λ_ W=>W.E=X.E):=by
 unfold lQ;cases hl:X.lU s with
 |none=>
  dsimp only;refine fK.bind ((Eb h (Eg A)).mono (eZ 36) (λ_ _ _ _ h=>h)) (c2:=0) ?_ (by omega);grind[fK.ret,sD.E]
 |some f=>
  dsimp only;have⟨T,hn⟩:=xC X s hl;have q:H f∈X.B:=dU.1 T;have⟨r,hr⟩:=id h;have⟨ef,hef,_⟩:=hr.B f q;have g:fa X f s:=by
   have l:=Wi hef
   rwa [oo hn]at l
  have E:(X.h f).isSome=C:=by rw[hef];rfl
  split;refine fK.bind ((yG h (x:=H f) E).mono (eZ 36) (λ_ _ _ _ h=>h)) (c2:=0) ?_ (by omega);grind[fK.ret,JG.E];rename_i j;have v:H f∈X.A:=by simpa using j
  split;exact⟨h,Fx.refl _,by omega,D⟩;rename_i K;cases hb:X.pO f with
  |none=>
   dsimp only;refine fK.bind (((show fK 0 X (Aw (H f) X) (λ_ W=>sD X W) by have A:=Eg A;have⟨r,h⟩:=h;have⟨e,he,_⟩:=id g;unfold Aw;rw[dw (by grind[N.dO])];have⟨k,k1,k2,k3⟩:=Xi v (h.v g A);rw[k3];have⟨g1,g2⟩:=h.sub (Mr _ _) (Bk k1);exact⟨⟨r,g1⟩,g2,lX (fJ D),D,D,D,k,D⟩)).mono (eZ 36) (λ_ _ _ _ h=>h)) (c2:=0) ?_ (by omega)
   rintro _ σ1 n f1 _ t;refine fK.bind (yG n (x:=H f) (kj (f1.nm _ _ g))) (c2:=0) ?_ (by omega);rintro _ a3 o _ _ w;exact fK.ret o (w.E.trans t.E)
  |some b=>
   dsimp only;have⟨pf,hpf⟩:=GN v;have U:=Ag hpf;have d:∀k,k<ln X.A->X.A.reverse[k]?=X.A[ln X.A-1-k]?:=λk u=>List.getElem?_reverse u;have a:∀k,X.A.reverse[k]?=H (H f)->k=ln X.A-1-pf:=by
    intro k u;have p:k<ln X.A:=by simpa using (dG.1 u).1
    rw[d k p]at u;have l:=uQ u hr.nodup;have i:=uQ hpf hr.nodup;omega
   rcases G1 X f b X.A.reverse F hb with l|⟨k,l,i⟩;cases l;have p:k<ln X.A:=by simpa using (dG.1 l).1
   have a1:k<ln X.A-1-pf:=by rcases qp k (ln X.A-1-pf)with S|S;exact S;grind
   rw[d k p]at l;refine fK.bind ((TT h A g q hpf l (by omega) ?_ hw).mono (dF _) (λ_ _ _ _ h=>h)) (c2:=0) ?_ (by omega);intro m x T c;have a2:=Ag c;have B:=BP X f X.A.reverse (by simpa [N.nD]using K) (ln X.A-1-m) (H x) (by
    rw[d _ (by omega),show ln X.A-1-(ln X.A-1-m)=m by omega];exact c) (by
    grind)
   cases hq:fG (X.nm x) aH with
   |false=>rfl
   |true=>
    have e:=oo hq;have a0:eP (X.nm x)=I:=B;grind[(show eP aH=C by kernel_rfl)]
   grind[fK.ret]
theorem JL(d:rY s=C):∀(k:Nat){X:N},kV X->wt X+36*k<999900->fK (36*k) X (rL s k X) (λ_ W=>W.E=X.E)
 |0,X,h,_=>⟨h,Fx.refl _,dF _,D⟩
 |k+1,X,h,hw=>by
  refine fK.bind (MB h d (by omega)) (c2:=36*k) ?_ (by omega);rintro b σ1 g l q p;cases b with
  |true=>
   refine(JL d k g (by omega)).mono (dF _) ?_;grind
  |false=>grind[fK.ret]
theorem FB(h:kV X)(g:X.A≠[])(p:rY s=C)(hw:wt X<999100):fK 288 X (vU s X) (λ_ W=>W.E=X.E):=by
 have⟨r,hr⟩:=id h;have⟨i,e,h1,h2,h3,h4⟩:=Qt hr g;unfold vU;rw[h1];dsimp only;split;rename_i k;rw[fq]at k;have d:X.gV (cZ [s])=C:=by unfold N.gV;rw[h1];show cZ [s] _=C;rw[x9];exact k.1
 refine fK.bind ((yi h (xb h (cZ [s]) ((by grind[x9,oo,Eg])) d)).mono (eZ 288) (λ_ _ _ _ h=>h)) (c2:=0) ?_ (by omega);rintro x σ1 l _ _⟨rfl,_⟩;exact⟨l,Fx.refl _,dF _,D⟩;grind[JL]
theorem kV.q(h:kV X)(h1:W.d=X.d)(u:W.A=X.A)(U:W.B=X.B)(b:W.head=X.head)(m:W.j=X.j)(a:W.Q=X.Q)(c:W.R=X.R):kV W:=by
 have⟨r,h⟩:=h;have l:∀i,W.h i=X.h i:=λi=>by unfold N.h;rw[h1]
 have hk:∀k,W.q k=X.q k:=λk=>by
  cases k with
  |el i=>grind[N.q]
  |tx i=>grind[N.q]
  |cm i=>grind[N.q]
  |dt i=>grind[N.q]
 have E:∀x,W.lj x=X.lj x:=λx=>by
  cases x with
  |none=>rfl
  |some i=>grind[N.lj]
 have f:∀i s,fa X i s->fa W i s:=λi s ⟨e,A,q⟩=>⟨e,by grind,q⟩;refine⟨r,⟨⟨?_,?_,?_,?_⟩,⟨?_,?_,?_⟩,?_,?_,?_,?_,?_,?_,?_,?_,?_,?_⟩⟩;intro i e p g S;rw[l]at g;have⟨ep,A,q⟩:=h.E.up i e p g S;grind;intro i e j g n;rw[l]at g;have⟨ep,A,q⟩:=h.E.q i e j g n;grind;intro i e g;rw[l]at g;exact h.E.nd i e g;intro i e g k K;rw[l]at g;rw[hk];exact h.E.g i e g k K;intro i e p g S;rw[l]at g;exact h.K.E i e p g S;rw[u];exact h.K.A;rw[u,b];exact h.K.B;rw[u];intro x T;rw[E];exact h.A x T;rw[U];intro i g;have⟨e,A,q⟩:=h.B i g;grind;rw[b];exact λd B=>f _ _ (h.head d B);rw[m];exact λd B=>f _ _ (h.j d B);rw[u];intro x v T;have⟨z,A,q⟩:=h.S x v T;grind;rw[u,a];exact h.P;rw[U,c];exact h.n;rw[a];exact h.L;rw[c];exact h.Q;rw[l];exact h.u
def kV.k(h:kV X)(x:fW)(g:∀d,x=H d->fa X d fR):kV {X with j:=x}:=by have⟨r,h⟩:=h;exact⟨r,⟨⟨h.E.up,h.E.q,h.E.nd,h.E.g⟩,⟨h.K.E,h.K.A,h.K.B⟩,h.A,h.B,h.head,g,h.S,h.P,h.n,h.L,h.Q,h.u⟩⟩
def pz(m:Nat):Bool:=decide (m=6)||decide (m=7)||(decide (9<=m)&&decide (m<=17))
structure HH(σ:N):Prop where
 ne:σ.A≠[]
 sh:pz σ.g=C\/(σ.g=5/\pz σ.kept=C/\2<=ln σ.A)\/(σ.g=8/\(σ.kept=7\/σ.kept=11\/σ.kept=12))
theorem fa.d(h:fa X i s)(e:W.d=X.d):fa W i s:=by unfold fa N.h at h|-;grind
structure Lm(σ σ':N):Prop where
 K:σ'.K=σ.K
 Q:σ'.Q=σ.Q
 R:σ'.R=σ.R
 T:σ'.T=σ.T
 A:ln σ'.L<=ln σ.L+1
 E:∀x∈σ'.L,x∈σ.L\/x.2.2.size<=100
 nm:∀i s,fa σ i s->fa σ' i s
theorem Fx.d(h:Fx X W):Lm X W:=⟨h.K,h.Q,h.R,h.T,by grind[Fx.L],by grind[Fx.L],h.nm⟩
def RB(c:Nat)(X:N)(r:pj Unit):Prop:=match r with
 | .ok _ W=>kV W/\HH W/\Lm X W/\wt W<=wt X+c
 | .stop _ p=>p=X.K
 | .stuck=>False
theorem RB.mono{r:pj Unit}(h:RB c X r)(d:c<=c'):RB c' X r:=by
 cases r with
 |ok a W=>grind[RB]
 |stop e p=>exact h
 |stuck=>exact h
theorem fK.g{r:pj Unit}(h:fK c X r Q)(d:X.A≠[])(g:pz X.g=C):RB c X r:=by
 cases r with
 |ok a W=>
  have⟨h1,h2,h3,_⟩:=h;exact⟨h1,⟨h2.ne d,.inl (by rw[h2.g];exact g)⟩,h2.d,h3⟩
 |stop e p=>exact h
 |stuck=>exact h
theorem RB.bind{f:Type}{x:M f}{k:f->M Unit}{Q:f->N->Prop}(h:fK c1 X (x X) Q)(K:∀a W,kV W->Fx X W->wt W<=wt X+c1->Q a W->RB c2 W (k a W))(T:c1+c2<=c):RB c X ((x>>=k) X):=by
 rw[M.cW];cases hm:x X with
 |ok a W=>
  rw[hm]at h;obtain⟨A,d,B,E⟩:=h;have l:=K a W A d B E;dsimp only;cases hk2:k a W with
  |ok b σ2=>
   rw[hk2]at l;obtain⟨u,v,g,S⟩:=l;exact⟨u,v,⟨g.K.trans d.K,g.Q.trans d.Q,g.R.trans d.R,g.T.trans d.T,by have:=g.A;rw[d.L]at this;exact this,by have:=g.E;rw[d.L]at this;exact this,λi s q=>g.nm i s (d.nm i s q)⟩,by omega⟩
  |stop e p=>
   rw[hk2]at l;exact zk l d.K
  |stuck=>rw[hk2]at l;exact l
 |stop e p=>rw[hm]at h;exact h
 |stuck=>rw[hm]at h;exact h
theorem QX(h:kV X)(d:X.A≠[])(m:Nat)(g:pz m=C):RB 0 X ((iA m>>=λ_=>(aG ():M Unit)) X):=
 ⟨h.q rfl rfl rfl rfl rfl rfl rfl,⟨d,.inl g⟩,⟨rfl,rfl,rfl,rfl,jR _,by grind,λ_ _ h=>h⟩,lX (fJ rfl)⟩
theorem rF(h:kV X)(d:HH X):RB 0 X ((aG ():M Unit) X):=⟨h,d,⟨D,D,D,D,jR _,by grind,by grind⟩,dF _⟩
structure jh(σ:N):Prop where
 A:kV σ
 ne:σ.A≠[]
 md:pz σ.g=C
def jh.next(h:jh X)(i:kV W)(f:Fx X W):jh W:=⟨i,f.ne h.ne,by rw[f.g];exact h.md⟩
theorem jh.d(h:jh X):HH X:=⟨h.ne,.inl h.md⟩
structure mi(σ:N)(t:dj):Prop where
 tag:t.l6=C
 d:σ.E=C
theorem tH(h:kV X):fK 0 X (my X) (λ_ W=>sD X W):=
 fK.d ((vZ h _ _ (by kernel_rfl)).mono (dF _) (λ_ _ _ _ h=>h.1))
theorem nM(h:kV X)(d:X.A≠[])(g:mi X t)(hw:wt X<999900):fK 33 X (jB t X) (λ_ W=>∃σ1 j,BF σ1 t.name j W/\X.A <+:σ1.A/\(ln σ1.B)=ln X.B):=by refine fK.bind (mq h d (by omega)) (c2:=1) ?_ (by omega);grind[fK.d,fK.mono,gW,Fx.ne,mi.tag,mi.d]
theorem sU(h:kV X)(d:X.A≠[])(g:mi X t)(hw:wt X<999000):fK 1 X (lc t X) (λ_ W=>∃σ1 j,BF σ1 t.name j W):=by refine fK.bind (tH h) (c2:=1) ?_ (by omega);rintro _ σ1 l k q p;refine fK.d ((gW l (k.ne d) (by omega) t g.tag (p.E.trans g.d)).mono (dF _) ?_);grind
section
variable {X:N}{t:dj}(h:jh X)(hw:wt X<999000)
include h hw
def Nt(d:mi X t):RB 33 X (jB t X):=(nM h.A h.ne d (by omega)).g h.ne h.md
def Nl(d:mi X t):RB 1 X (lc t X):=(sU h.A h.ne d hw).g h.ne h.md
theorem UN(k:mi X t):RB 1 X (yq t X):=by refine RB.bind (sU h.A h.ne k hw) (c2:=0) ?_ (by omega);rintro _ σ1 d g _ _;exact⟨d.q D D D D D D D,⟨(h.next d g).ne,.inl (h.next d g).md⟩,⟨D,D,D,D,jR _,by grind,λ_ _ h=>h⟩,lX (fJ D)⟩
theorem I7(d:mi X t):RB 1 X (oG t X):=by
 have:fK 1 X (oG t X) (λ_ _=>True):=by refine fK.bind (tH h.A) (c2:=1) ?_ (by omega);rintro _ σ1 l g A q;refine fK.bind (tR l _ (by kernel_rfl)) (c2:=1) ?_ (by omega);rintro _ v p k B u;exact fK.d ((gW p (k.ne (g.ne h.ne)) (by omega) t d.tag (u.E.trans (q.E.trans d.d))).mono (dF _) (λ_ _ _ _ _=>trivial))
 grind[fK.g,jh.ne,jh.md]
theorem XD(d:mi X t):RB 1 X (zd t X):=by
 have:fK 1 X (zd t X) (λ_ _=>True):=by refine fK.bind (tH h.A) (c2:=1) ?_ (by omega);rintro _ σ1 k g p l;exact fK.d ((pT k (g.ne h.ne) (by omega) t d.tag (l.E.trans d.d)).mono (dF _) (λ_ _ _ _ _=>trivial))
 grind[fK.g,jh.ne,jh.md]
theorem Q6(p:mi X t)(v:t.name=fR):RB 1 X (sq t X):=by
 unfold sq;cases hf:X.j with
 |some d=>exact(rF h.A h.d).mono (by omega)
 |none=>
  refine RB.bind (sU h.A h.ne p hw) (c2:=0) ?_ (by omega);rintro _ σ1 g k _⟨u,j,q⟩;refine⟨g.k _ ?_,⟨(h.next g k).ne,.inl (h.next g k).md⟩,⟨D,D,D,D,jR _,by grind,λ_ _ h=>h⟩,lX (fJ D)⟩;intro d l;rw[EF q]at l;grind[BF.nm]
theorem LR(d:mi X t):RB 33 X (qg t X):=by
 have:fK 33 X (qg t X) (λ_ _=>True):=by refine fK.bind (vZ h.A _ eP (by kernel_rfl)) (c2:=33) ?_ (by omega);rintro _ σ1 k g p⟨l,_⟩;exact fK.d ((nM k (g.ne h.ne) ⟨d.tag,l.E.trans d.d⟩ (by omega)).mono (dF _) (λ_ _ _ _ _=>trivial))
 grind[fK.g,jh.ne,jh.md]
theorem Nv(g:mi X t):RB 1 X (tZ t X):=by
 have l:fK 0 X (xa X) (λ_ W=>sD X W):=by unfold xa;split;exact⟨h.A,Fx.refl _,dF _,sD.refl _⟩;grind[tH,jh.A]
 refine RB.bind l (c2:=1) ?_ (by omega);rintro _ σ1 p d A u;refine RB.bind (gW p (d.ne h.ne) (by omega) t g.tag (u.E.trans g.d)) (c2:=0) ?_ (by omega);rintro _ v q k B _;exact QX q (k.ne (d.ne h.ne)) 7 D
theorem Ij(g:mi X t)(b:Bool):RB 1 X (lu t b X):=by refine RB.bind (gW h.A h.ne (by omega) t g.tag g.d) (c2:=0) ?_ (by omega);rintro _ σ1 k d _⟨j,q⟩;refine⟨k.q D D D D D D D,⟨d.ne h.ne,.inr (.inl ⟨D,?_,?_⟩)⟩,⟨D,D,D,D,jR _,by grind,λ_ _ h=>h⟩,lX (fJ D)⟩;show pz σ1.g=C;rw[d.g];exact h.md;grind[EG,jh.ne]
theorem LW(d:mi X t):RB 33 X (nZ t X):=by
 have:fK 33 X (nZ t X) (λ_ _=>True):=by unfold nZ;refine fK.bind (tR h.A _ (by kernel_rfl)) (c2:=33) ?_ (by omega);rintro _ σ1 k g p l;exact fK.d ((nM k (g.ne h.ne) ⟨d.tag,l.E.trans d.d⟩ (by omega)).mono (dF _) (λ_ _ _ _ _=>trivial))
 grind[fK.g,jh.ne,jh.md]
theorem LX(g:mi X t):RB 33 X (sv t X):=by refine RB.bind (nM h.A h.ne g (by omega)) (c2:=0) ?_ (by omega);rintro _ σ1 k d _ _;refine⟨k.q D D D D D D D,⟨d.ne h.ne,.inl ?_⟩,⟨D,D,D,D,jR _,by grind,λ_ _ h=>h⟩,lX (fJ D)⟩;show pz (if _ then 15 else 14)=C;split<;>rfl
theorem Rb(d:mi X t):RB 33 X (vK t X):=by
 have:fK 33 X (vK t X) (λ_ _=>True):=by refine fK.bind (mq h.A h.ne (by omega)) (c2:=1) ?_ (by omega);rintro _ σ1 k g u⟨p,q,l⟩;exact fK.d ((pT k (g.ne h.ne) (by omega) t d.tag (l.trans d.d)).mono (dF _) (λ_ _ _ _ _=>trivial))
 grind[fK.g,jh.ne,jh.md]
omit h hw in
def lx(g:kV X)(d:X.A≠[])(p:mi X t)(l:rY t.name=C)(hw:wt X<999900):fK 33 X (fj t X) (λ_ _=>True):=by
 unfold fj;refine fK.bind (nM g d p hw) (c2:=0) ?_ (by omega);rintro _ σ1 u A B⟨v,j,q,_⟩;have k:Ib σ1=.ok j σ1:=by unfold Ib;rw[EF q]
 rw[M.cW,k];dsimp only;exact fK.d ((acp u q.nm l).mono (dF _) (λ_ _ _ _ _=>trivial))
def Du(g:mi X t)(d:rY t.name=C):RB 33 X (fj t X):=(lx h.A h.ne g d (by omega)).g h.ne h.md
theorem Q8(l:mi X t)(u:t.name=xv):RB 330 X (pd t X):=by
 have d:rY t.name=C:=by rw[u];kernel_rfl
 unfold pd;cases hl:X.lU xv with
 |none=>
  dsimp only;exact RB.mono (c:=33) ((fK.d (Q:=λ_ _=>True) (lx h.A h.ne l d (by omega))).g h.ne h.md) (by omega)
 |some a=>
  dsimp only;have⟨hm,hnm⟩:=xC X xv hl;have⟨r,hr⟩:=id h.A;have⟨ea,hea,hfa⟩:=hr.B a (dU.1 hm);have g:=Wi hea;have:fK 330 X ((vU xv>>=λ_=>iP (H a)>>=λ_=>iH (H a)>>=λ_=>fj t>>=λ_=>(aG ():M Unit)) X) (λ_ _=>True):=by refine fK.bind (FB h.A h.ne (by grind) (by omega)) (c2:=33) ?_ (by omega);rintro _ σ1 v k W E;refine fK.bind (yG v (x:=H a) (kj (k.nm _ _ g))) (c2:=33) ?_ (by omega);rintro _ T A p b K;refine fK.bind (Dc A (p.nm _ _ (k.nm _ _ g)) (by rw[oo hnm];intro e;cases e)) (c2:=33) ?_ (by omega);rintro _ U B q w3 S;exact fK.d (lx B (q.ne (p.ne (k.ne h.ne))) ⟨l.tag,by rw[S.E,K.E,E];exact l.d⟩ d (by omega))
  grind[fK.g,jh.ne,jh.md]
end
theorem RB.tail{m:M Unit}(h:RB c X (m X)):RB c X ((m>>=λ_=>(aG ():M Unit)) X):=by rw[M.cW];revert h;cases m X<;>exact λh=>h
def RB.then{m:M Unit}(h:RB c X (m X))(g:N->N)(j:∀X,(g X).d=X.d/\(g X).A=X.A/\(g X).B=X.B/\(g X).head=X.head/\(g X).j=X.j/\(g X).Q=X.Q/\(g X).R=X.R/\(g X).g=X.g/\(g X).kept=X.kept/\(g X).K=X.K/\(g X).T=X.T/\(g X).L=X.L):RB c X ((m>>=λ_=>oc g>>=λ_=>(aG ():M Unit)) X):=by
 rw[M.cW];revert h;cases m X with
 |ok a σ1=>
  rintro⟨h1,K,d,f⟩;obtain⟨l,A,S,T,U,B,E,W,b,u,v,k⟩:=j σ1;refine⟨h1.q l A S T U B E,⟨by rw[A];exact K.ne,?_⟩,⟨u.trans d.K,B.trans d.Q,E.trans d.R,v.trans d.T,by rw[k];exact d.A,by rw[k];exact d.E,λi s q=>(d.nm i s q).d l⟩,by rw[fJ l];exact f⟩;rw[W,b,A];exact K.sh
 |stop e p=>exact λh=>h
 |stuck=>exact λh=>h
theorem ame{a b:O}(h:fG a b=I):a≠b:=by rintro rfl;unfold fG at h;simp at h
def Od(i:Nat)(a:O×O)(r:iB)(X:N):oR i (a::r) X=(match X.h i with
  |none=> .stuck
  |some e=>if vi e.A a.1 then oR i r X else if X.T<=ln e.A then .stop 7 X.K else oR i r (X.l i {e with A:=e.A++[a]})):=rfl
theorem FV:∀(bY:iB){X:N},kV X->(X.h i).isSome=C->fK 0 X (oR i bY X) (λ_ _=>True)
 |[],X,h,_=>⟨h,Fx.refl _,dF _,trivial⟩
 |a::r,X,h,hi=>by
  have⟨e,he⟩:=dh.1 hi;have v:oR i (a::r) X=(if vi e.A a.1 then oR i r X else if X.T<=ln e.A then .stop 7 X.K else oR i r (X.l i {e with A:=e.A++[a]})):=by rw[Od,he]
  rw[v];split;exact FV r h hi
  .split;rfl
   .have⟨rr,hr⟩:=h;have d:=N.n he;have l:=hr.alike (W:=X.l i {e with A:=e.A++[a]}) (λj g q=>by
     grind[N.gu,N.s]) (λj g q=>by
     grind[N.s]) (λj g q k T=>by
     grind[N.nE,N.gu,CI.g,fg.E,N.s])
    have hw:=by have:=wI (a:={e with A:=e.A++[a]}) he;dsimp only at this;omega
    have K:=FV r ⟨rr,l.1⟩ (by rw[N.gu d];rfl);revert K;cases oR i r (X.l i {e with A:=e.A++[a]})with
    |ok u σ2=>rintro⟨A,B,S,E⟩;exact⟨A,l.2.trans B,by omega,E⟩
    |stop c p=>exact λh=>h
    |stuck=>simp[fK]
theorem Tr(h:kV X)(k:fa X i s)(g:l4 s=C)(t:dj)(d:X.E=C):fK 0 X (uW i t X) (λ_ _=>True):=by grind[fg.p,FV,kj,uW]
def Ej(h:kV X)(d:X.A≠[])(t:dj)(g:X.E=C):fK 0 X (mF t X) (λ_ _=>True):=by have⟨r,hr⟩:=id h;have⟨q,e,rest,h1,h2,h3,h4⟩:=hr.first d;unfold mF;rw[h2];exact fK.d (Tr h ⟨e,h3,h4⟩ (by kernel_rfl) t g)
theorem Qg(h:kV X)(t:dj)(k:X.E=C):fK 0 X (nA t X) (λ_ _=>True):=by
 unfold nA;cases hq:dT X.A 1 with
 |none=>exact⟨h,Fx.refl _,dF _,trivial⟩
 |some i=>
  dsimp only;split;rename_i g;have⟨r,hr⟩:=id h;have l:H i∈X.A:=by
   rw[show(1:Int)=((1:Nat):Int)from D,qz,Ce]at hq;cases hx:X.A[1]? with
   |none=>grind
   |some y=>grind
  have⟨j,e,e1,he⟩:=jj (hr.A _ l);cases e1;have d:=Wi he;rw[oo g]at d;exact fK.d (Tr h d (by kernel_rfl) t k);exact⟨h,Fx.refl _,dF _,trivial⟩
section
variable {X:N}{t:dj}(h:jh X)(hw:wt X<999000)
include h hw
theorem Q9(k:mi X t)(q:t.name=fD):RB 360 X (sr t X):=by
 have d:rY t.name=C:=by rw[q];kernel_rfl
 have:fK 360 X (sr t X) (λ_ _=>True):=by unfold sr;refine fK.bind (mq h.A h.ne (by omega)) (c2:=325) ?_ (by omega);rintro _ σ1 l g S⟨A,B,E⟩;unfold tY;split;refine fK.bind (c1:=288) (FB l (g.ne h.ne) (by grind) (by omega)) (c2:=33) ?_ (by omega);rintro _ v u p T K;exact fK.d (Q:=λ_ _=>True) (lx u (p.ne (g.ne h.ne)) ⟨k.tag,by grind[mi.d]⟩ d (by omega));exact fK.mono (c:=33) (fK.d (Q:=λ_ _=>True) (lx l (g.ne h.ne) ⟨k.tag,by grind[mi.d]⟩ d (by omega))) (by omega) (λ_ _ _ _ h=>h)
 grind[fK.g,jh.ne,jh.md]
theorem LV(d:mi X t):RB 33 X (qh t X):=by
 have:fK 33 X (qh t X) (λ_ _=>True):=by refine fK.bind (nM h.A h.ne d (by omega)) (c2:=0) ?_ (by omega);rintro _ σ1 g k l _;exact fK.d ((ve g F (λ_ h=>by cases h)).mono (dF _) (λ_ _ _ _ _=>trivial))
 grind[fK.g,jh.ne,jh.md]
theorem ahe(d:mi X t)(a:List O)(k:cZ a aC=I):RB 1 X (Ew a t X):=by
 have:fK 1 X (Ew a t X) (λ_ _=>True):=by refine fK.bind (vZ h.A (cZ a) Rx k) (c2:=1) ?_ (by omega);rintro _ σ1 l g q⟨p,_⟩;exact fK.d ((sU l (g.ne h.ne) ⟨d.tag,p.E.trans d.d⟩ (by omega)).mono (dF _) (λ_ _ _ _ _=>trivial))
 grind[fK.g,jh.ne,jh.md]
def Ff(d:mi X t):RB 1 X (yr t X):=RB.tail (Ij h hw d _)
def Fe(d:mi X t):RB 1 X (sV t X):=RB.tail (Ij h hw d C)
def GB(d:mi X t):RB 1 X (rq t X):=RB.then (Ff h hw d) _ (λ_=>⟨D,D,D,D,D,D,D,D,D,D,D,D⟩)
omit hw in
def Tq(d:X.E=C):RB 0 X (mF t X):=(Ej h.A h.ne t d).g h.ne h.md
omit hw in
def Tp(d:X.E=C):RB 0 X (nA t X):=(Qg h.A t d).g h.ne h.md
omit hw in
def Wp:RB 0 X (xe X):=by unfold xe;split;exact⟨h.A.q D D D D D D D,⟨h.ne,.inl D⟩,⟨D,D,D,D,jR _,λ_ h=> .inl h,λ_ _ h=>h⟩,lX (fJ D)⟩;exact rF h.A h.d
omit hw in
def J3(p b:O->Bool)(d:p aC=I):RB 0 X ((iY p b>>=λ_=>(aG ():M Unit)) X):=
 (fK.d (Q:=λ_ _=>True) ((vZ h.A p b d).mono (dF _) (λ_ _ _ _ _=>trivial))).g h.ne h.md
omit hw in
def SN(d:t.name≠aC):RB 0 X (xW t X):=J3 h _ _ (by
 rw[x9];cases hx:fG aC t.name with
 |false=>rfl
 |true=>exact absurd (oo hx).symm d)
omit hw in
def MU:RB 0 X (tK X):=J3 h _ _ (by kernel_rfl)
omit hw in
def Ws:RB 0 X (A6 X):=J3 h _ _ (by kernel_rfl)
omit hw in
def SS(d:t.name≠aC):RB 0 X (xY t X):=(fK.d (Q:=λ_ _=>True) ((Eb h.A d).mono (dF _) (λ_ _ _ _ _=>trivial))).g h.ne h.md
theorem agS:RB 1 X (Qb X):=by
 have:fK 1 X (Qb X) (λ_ _=>True):=by unfold Qb;split;grind[fK.mono,fK.d,tH,jh.A];refine fK.bind (rA h.A h.ne (by omega) jV) (c2:=0) ?_ (by omega);grind[fK.d,fK.mono,tH]
 grind[fK.g,jh.ne,jh.md]
def SO:RB 33 X (uy X):=by
 have:fK 33 X (uy X) (λ_ _=>True):=by unfold uy;refine fK.bind (mq h.A h.ne (by omega)) (c2:=1) ?_ (by omega);rintro _ σ1 g d u _;refine fK.bind (rA g (d.ne h.ne) (by omega) iC) (c2:=0) ?_ (by omega);rintro _ l k p v⟨j,q,_⟩;exact fK.d ((yi k (EG q (d.ne h.ne))).mono (dF _) (λ_ _ _ _ _=>trivial))
 exact this.g h.ne h.md
omit hw in
def Wr:RB 0 X (xf X):=by
 unfold xf;cases hf:X.j with
 |none=>exact rF h.A h.d
 |some i=>
  dsimp only;have v:fa X i fR:=by obtain⟨r,A⟩:=h.A;exact A.j i hf
  have g:kV {X with j:=F}:=h.A.k F (λ_ h=>by cases h);split
  .obtain⟨l,d,S⟩:=Kd g uF (by kernel_rfl);have q:=Dc l (i:=i) (s:=fR) (d.nm _ _ v) (by intro e;cases e);show RB 0 X ((iH (H i)>>=λ_=>(aG ():M Unit)) (({X with j:=F}:N).kM));rw[M.cW];revert q;have k:({X with j:=F}:N).kM={({X with j:=F}:N)with A:=(N.mW {X with j:=F} uF ({X with j:=F}:N).A.reverse).reverse}:=rfl;rw[k];cases iH (H i) _ with
   |ok u σ2=>
    rintro⟨B,E,T,K⟩;have U:=d.trans E;refine⟨B,⟨U.ne h.ne,.inl ?_⟩,⟨U.K,U.Q,U.R,U.T,?_,by rw[U.L];exact λ_ h=> .inl h,U.nm⟩,?_⟩;rw[U.g];exact h.md;rw[U.L];show ln X.L<=_;omega;rw[fJ K.d];exact lX (fJ D)
   |stop c p=>exact λh=>h
   |stuck=>exact λh=>h
  exact⟨g,⟨h.ne,.inl h.md⟩,⟨D,D,D,D,jR _,λ_ h=> .inl h,λ_ _ h=>h⟩,lX (fJ D)⟩
def FM(d:rY t.name=C):RB 288 X (rh t X):=(fK.d (Q:=λ_ _=>True) ((FB h.A h.ne d (by omega)).mono (dF _) (λ_ _ _ _ _=>trivial))).g h.ne h.md
omit hw in
def P9:RB 0 X (rX X):=by
 have:fK 0 X (rX X) (λ_ _=>True):=by
  unfold rX;refine fK.bind (vZ h.A (cZ [dR]) eP (by kernel_rfl)) (c2:=0) ?_ (by omega);rintro b σ1 d g k _;cases b with
  |true=>exact(Mg d).mono (dF _) (λ_ _ _ _ _=>trivial)
  |false=>exact⟨d,Fx.refl _,dF _,trivial⟩
 exact this.g h.ne h.md
theorem BN(d:t.d.size<=100):RB 101 X (gh t X):=((nC h.A h.ne t (by omega)).mono (by omega) (λ_ _ _ _ h=>h)).g h.ne h.md
theorem ML(k:t.d.size<=100):RB 200 X (jL t X):=by
 unfold jL;split;grind[RB.mono,rF,jh.A,jh.d];have:fK 200 X ((iF>>=λ_=>gh t>>=λ_=>(aG ():M Unit)) X) (λ_ _=>True):=by refine fK.bind (mq h.A h.ne (by omega)) (c2:=101) ?_ (by omega);rintro _ σ1 g d l _;exact fK.d ((nC g (d.ne h.ne) t (by omega)).mono (by omega) (λ_ _ _ _ _=>trivial))
 grind[fK.g,jh.ne,jh.md]
theorem IR(d:t.d.size<=100):RB 101 X (qt t X):=by unfold qt;grind[RB.tail,BN,RB.mono,rF,jh.A,jh.d]
end
def Hh(h:kV X)(g:M (Nat×Nat))(d:∃pl,g X=.ok pl X/\Bu X pl)(t:dj)(hw:wt X<999000):fK 1 X (iq g t X) (λ_ _=>True):=by
 have⟨a,b,k,bY⟩:=t;cases k with
 |dz s=>
  have⟨pl,h1,h2⟩:=d;show fK 1 X ((g>>=λpl=>kZ pl _ .cm>>=λ_=>(aG ())) X) _;rw[M.cW,h1];exact fK.d ((Gm h h2 _ .cm (.inl ⟨s,D,D⟩) (by omega)).mono (dF _) (λ_ _ _ _ _=>trivial))
 |fI s=>exact⟨h,Fx.refl _,jR _,trivial⟩
 |start s=>exact⟨h,Fx.refl _,jR _,trivial⟩
 |stop s=>exact⟨h,Fx.refl _,jR _,trivial⟩
 |eG s q=>exact⟨h,Fx.refl _,jR _,trivial⟩
 |ic=>exact⟨h,Fx.refl _,jR _,trivial⟩
 |dZ=>exact⟨h,Fx.refl _,jR _,trivial⟩
theorem Ay(h:kV X)(d:X.A≠[]):∃pl,ja X=.ok pl X/\Bu X pl:=by have⟨r,h⟩:=h;grind[Gd]
theorem PY(h:kV X):∃pl,fM 0 X=.ok pl X/\Bu X pl:=by have⟨e,he⟩:=dh.1 h.u;exact⟨_,by unfold fM;rw[he],e,he,dF _⟩
def EB(X:N)(r:pj Bool):Prop:=match r with
 | .ok x W=>kV W/\W.A≠[]/\pz W.g=C/\(Lm X W/\W.L=X.L)/\wt W<=wt X/\W.E=X.E/\(x=C->ln W.A<ln X.A)/\(x=I->W=X)
 | .stop _ _=>False
 | .stuck=>False
theorem lm0(X:N):Lm X X:=⟨D,D,D,D,jR _,by grind,by grind⟩
theorem EB.no(h:jh X):EB X (.ok I X):=⟨h.A,h.ne,h.md,⟨lm0 X,D⟩,dF _,D,by grind,λ_=>D⟩
def EB.l(h:jh X)(p b:O->Bool)(f:p aC=I){k:Bool->M Bool}(a:k I=aG I)(j:∀σ1,kV σ1->σ1.A≠[]->∃d,k C σ1=.ok C d/\kV d/\d.A=σ1.A/\pz d.g=C/\d.K=σ1.K/\d.Q=σ1.Q/\d.R=σ1.R/\d.T=σ1.T/\d.L=σ1.L/\d.d=σ1.d/\d.E=σ1.E):EB X ((iY p b>>=k) X):=by
 have W:=vZ h.A p b f;rw[M.cW];revert W;cases hq:iY p b X with
 |ok x σ1=>
  rintro⟨m,g,w1,n,o,r⟩;dsimp only;cases x with
  |false=>
   rw[a];have e:=r D;subst e;exact EB.no h
  |true=>
   obtain⟨d,e,B,v,E,K,S,T,U,u,A,l⟩:=j σ1 m (g.ne h.ne);rw[e];refine⟨B,by rw[v];exact g.ne h.ne,E,⟨⟨K.trans g.K,S.trans g.Q,T.trans g.R,U.trans g.T,?_,by rw[u,g.L];exact λ_ h=> .inl h,λi s q=>(g.nm i s q).d A⟩,u.trans g.L⟩,?_,l.trans n.E,?_,λh=>by cases h⟩;rw[u,g.L];omega;rw[fJ A];exact w1;intro _;rw[v];exact o D
 |stop c p=>unfold iY at hq;split at hq<;>cases hq
 |stuck=>exact λh=>h.elim
def Cw(h:jh X)(a:List O)(m:Nat)(d:cZ a aC=I)(g:pz m=C):EB X (mD a m X):=by refine EB.l h _ _ d D ?_;intro σ1 l k;exact⟨{σ1 with g:=m},D,l.q D D D D D D D,D,g,D,D,D,D,D,D,D⟩
theorem xX(h:jh X)(a:List O)(m:Nat)(E:cZ a aC=I)(K:pz m=C):EB X (jn a m X):=by
 have B:=Cw h a m E K;unfold jn;rw[M.cW];revert B;cases mD a m X with
 |ok x σ1=>
  rintro⟨g,l,k,⟨d,v⟩,u,q,c1,c2⟩;cases x with
  |false=>exact⟨g,l,k,⟨d,v⟩,u,q,c1,c2⟩
  |true=>
   obtain⟨A,S,T,U⟩:=Mg g;exact⟨A,l,k,⟨⟨d.K,d.Q,d.R,d.T,d.A,d.E,d.nm⟩,v⟩,u,q,c1,by grind⟩
 |stop c p=>grind
 |stuck=>grind
theorem Vc(s:O):pz (de s)=C:=by grind[pz,de]
theorem Iq(X:N):∀ys:iU,pz (jq X ys)=C
 |[]=>rfl
 |x::ys=>by unfold jq;split;exact Iq X ys;grind[Vc]
def Uz(h:jh X)(p b:O->Bool)(g:p aC=I):EB X ((iY p b>>=λb=>if b then (do Dm;return C)else return I) X):=by refine EB.l h p b g D ?_;intro σ1 k d;exact⟨{σ1 with g:=jq σ1 _},D,k.q D D D D D D D,D,Iq _ _,D,D,D,D,D,D,D⟩
theorem Ea(h:jh X):EB X (ir X):=by unfold ir;split;rename_i k;have l:=xb h.A _ (by kernel_rfl) k;obtain⟨d,g⟩:=Ge h.A l;refine⟨d.q D D D D D D D,g.ne h.ne,D,⟨⟨D,D,D,D,jR _,λ_ h=> .inl h,λ_ _ h=>h⟩,D⟩,lX (fJ D),D,λ_=>?_,by grind⟩;show ln X.A.dropLast<_;simp;omega;grind[EB.no]
structure vQ(b:M Bool):Prop where
 ok:∀σ,jh σ->EB σ (b σ)
def P6:vQ tJ:=⟨λ_ h=>xX h _ _ (by kernel_rfl) D⟩
def aaB:vQ endCell:=⟨λ_ h=>xX h _ _ (by kernel_rfl) D⟩
def adg:vQ Km:=⟨λ_ h=>Cw h _ _ (by kernel_rfl) D⟩
def Kn:vQ sJ:=⟨λ_ h=>Cw h _ _ (by kernel_rfl) D⟩
def Wv:vQ sI:=⟨λ_ h=>Uz h _ _ (by kernel_rfl)⟩
def SU:vQ vA:=⟨λ_ h=>Uz h _ _ (by kernel_rfl)⟩
def FK:vQ ir:=⟨λ_ h=>Ea h⟩
def agU{b:M Bool}(g:vQ b)(h:jh X):RB 0 X (zY b X):=by
 have d:=g.ok X h;unfold zY;rw[M.cW];revert d;cases b X with
 |ok x σ1=>rintro⟨k,u,q,⟨l,B⟩,v,A,c1,c2⟩;exact⟨k,⟨u,.inl q⟩,l,v⟩
 |stop c p=>simp[EB]
 |stuck=>simp[EB]
theorem Lm.trans{a b c:N}(h:Lm a b)(hw:b.L=a.L)(k:Lm b c):Lm a c:=⟨k.K.trans h.K,k.Q.trans h.Q,k.R.trans h.R,k.T.trans h.T,by have:=k.A;grind,by grind[Lm.E],λi s q=>k.nm i s (h.nm i s q)⟩
def acs{b:M Bool}(S:vQ b)(h:jh X){Q:Nat->dj->M Unit}(T:∀W,jh W->ln W.A<ln X.A->wt W<=wt X->W.E=X.E->W.L=X.L->W.Q=X.Q->RB c W (Q W.g t W)):RB c X (vV Q b t X):=by
 have E:=S.ok X h;unfold vV;rw[M.cW];revert E;cases b X with
 |ok x σ1=>
  rintro⟨g,l,k,⟨d,q⟩,e,U,c1,c2⟩;cases x with
  |false=>exact⟨g,⟨l,.inl k⟩,d,by omega⟩
  |true=>
   have K:RB c σ1 ((jg Q t>>=λ_=>(aG ())) σ1):=RB.tail (T σ1 ⟨g,l,k⟩ (c1 D) e U q d.Q);show RB c X ((jg Q t>>=λ_=>(aG ())) σ1);revert K;cases(jg Q t>>=λ_=>(aG ())) σ1 with
   |ok u σ2=>rintro⟨v,A,B,a⟩;exact⟨v,A,d.trans q B,by omega⟩
   |stop c p=>exact λh=>zk h d.K
   |stuck=>simp[RB]
 |stop c p=>simp[EB]
 |stuck=>simp[EB]
section
variable {X:N}{t:dj}(h:jh X)(hw:wt X<999000)
include h hw
theorem OW(d:mi X t)(a:List O)(m:Nat)(p:pz m=C):RB 1 X (uw a m t X):=by refine RB.bind (wZ h.A _) (c2:=1) ?_ (by omega);rintro _ σ1 k g q l;refine RB.bind (gW k (g.ne h.ne) (by omega) t d.tag (l.E.trans d.d)) (c2:=0) ?_ (by omega);grind[QX,Fx.ne,jh.ne]
def I5(k:mi X t):RB 1 X (oF t X):=by refine RB.bind (wZ h.A _) (c2:=1) ?_ (by omega);rintro _ σ1 p d K v;refine RB.bind (ve p F (λ_ h=>by cases h)) (c2:=1) ?_ (by omega);rintro _ B q g S A;refine RB.bind (gW q (g.ne (d.ne h.ne)) (by omega) t k.tag (A.E.trans (v.E.trans k.d))) (c2:=0) ?_ (by omega);rintro _ E u l T _;exact QX u (l.ne (g.ne (d.ne h.ne))) 9 D
def zc(l:mi X t):RB 1 X (qF t X):=by
 refine RB.bind (wZ h.A _) (c2:=1) ?_ (by omega);rintro _ σ1 K k W U;refine RB.bind (gW K (k.ne h.ne) (by omega) t l.tag (U.E.trans l.d)) (c2:=0) ?_ (by omega);rintro _ g S q a _;have T:kV {g with g:=13}:=S.q D D D D D D D;have E:=(fK.d (Q:=λ_ _=>True) ((ve T F (λ_ h=>by cases h)).mono (dF _) (λ_ _ _ _ _=>trivial))).g (q.ne (k.ne h.ne)) D;show RB 0 g ((gN F>>=λ_=>(aG ())) _);revert E;cases(gN F>>=λ_=>(aG ())) _ with
 |ok u σ4=>rintro⟨v,A,d,B⟩;exact⟨v,A,⟨d.K,d.Q,d.R,d.T,d.A,d.E,d.nm⟩,B⟩
 |stop c p=>exact λh=>h
 |stuck=>exact λh=>h
theorem BB(k:mi X t)(B:t.name=fR):RB 1 X (jD t X):=by
 unfold jD;cases hf:X.j with
 |some d=>exact(rF h.A h.d).mono (by omega)
 |none=>
  refine RB.bind (gW h.A h.ne (by omega) t k.tag k.d) (c2:=0) ?_ (by omega);rintro _ σ1 u g E⟨j,q⟩;refine RB.bind (yi u (EG q h.ne)) (c2:=0) ?_ (by omega);rintro x A v l K⟨rfl,rfl⟩;refine⟨v.k _ ?_,⟨l.ne (g.ne h.ne),.inl ?_⟩,⟨D,D,D,D,jR _,by grind,λ_ _ h=>h⟩,lX (fJ D)⟩;intro d p;rw[EF q]at p;grind[Fx.nm,BF.nm];show pz σ1.g=C;rw[g.g];exact h.md
def ur(d:mi X t):RB 1 X (jA t X):=(pT h.A h.ne (by omega) t d.tag d.d).g h.ne h.md
theorem ze(d:mi X t):RB 1 X (jW t X):=by
 have:fK 1 X (jW t X) (λ_ _=>True):=by refine fK.bind (tR h.A _ (by kernel_rfl)) (c2:=1) ?_ (by omega);rintro _ σ1 k g p l;exact fK.d ((gW k (g.ne h.ne) (by omega) t d.tag (l.E.trans d.d)).mono (dF _) (λ_ _ _ _ _=>trivial))
 grind[fK.g,jh.ne,jh.md]
theorem qL(d:mi X t):fK 1 X (iI t X) (λ_ W=>2<=ln W.A):=by refine fK.bind (tR h.A _ (by kernel_rfl)) (c2:=1) ?_ (by omega);rintro _ σ1 l g A q;refine fK.bind (tR l _ (by kernel_rfl)) (c2:=1) ?_ (by omega);rintro _ v p k B u;refine fK.d ((gW p (k.ne (g.ne h.ne)) (by omega) t d.tag (u.E.trans (q.E.trans d.d))).mono (dF _) ?_);grind[EG,Fx.ne,jh.ne]
def xI(d:mi X t):RB 1 X (iI t X):=(qL h hw d).g h.ne h.md
theorem Dx(d:mi X t):RB 1 X (mu t X):=by
 have:fK 1 X (mu t X) (λ_ _=>True):=by refine fK.bind (qL h hw d) (c2:=0) ?_ (by omega);rintro _ σ1 g l p k;exact fK.d ((yi g k).mono (dF _) (λ_ _ _ _ _=>trivial))
 grind[fK.g,jh.ne,jh.md]
omit hw in
def zX:RB 0 X (mB X):=(fK.d (Q:=λ_ _=>True) ((tR h.A (cZ [dJ]) (by kernel_rfl)).mono (dF _) (λ_ _ _ _ _=>trivial))).g h.ne h.md
omit hw in
theorem yP:RB 0 X (fX X):=by
 have d:∀σ1,kV σ1->fK 0 σ1 ((oA (cZ [cD])>>=λ_=>(aG ():M Unit)) σ1) (λ_ _=>True):=λσ1 p=>
  fK.d (Q:=λ_ _=>True) ((tR p (cZ [cD]) (by kernel_rfl)).mono (dF _) (λ_ _ _ _ _=>trivial))
 have:fK 0 X (fX X) (λ_ _=>True):=by
  unfold fX;split;rename_i g;have l:=xb h.A _ (by kernel_rfl) g;have⟨r,hr⟩:=id h.A;have⟨i,e,h1,h2,h3,h4⟩:=Qt hr h.ne;rw[List.getLast?_eq_getElem?]at h3;have⟨a,ha1,ha2⟩:=hr.Se h3 (by omega);have k:dT X.A (jf X.A X.last-1)=H a:=by rw[h1];unfold ahead at ha1;split at ha1;grind;cases ha1
  rw[k];dsimp only;split;refine fK.bind (yi h.A l) (c2:=0) ?_ (by omega);grind;exact d X h.A;exact d X h.A
 exact this.g h.ne h.md
end
theorem vG{n:O}{r:Ru}:∀{R:List (List O×Ru)},lV R n=H r->∃p∈R,cZ p.1 n=C/\p.2=r
 |[],h=>by cases h
 |p::R,h=>by unfold lV at h;by_cases d:cZ p.1 n=C;grind;rw[di d]at h;have⟨q,h1,h2⟩:=vG h;grind
theorem K5{n:O}:∀{R:List (List O×Ru)},lV R n=F->∀p∈R,cZ p.1 n=I
 |[],_,p,d=>by grind
 |q::R,h,p,d=>by unfold lV at h;by_cases g:cZ q.1 n=C;grind;rw[di g]at h;rcases List.mem_cons.1 d with rfl|d;grind;exact K5 h p d
def YG(t:dj):Bool:=match t.k with
 | .start _=>C
 |_=>I
structure vS(t:dj):Prop where
 j:t.d.size<=100
 sm:yn t=C
 A:t.k≠ .ic
def Mz(X:N)(t:dj):Prop:=YG t=C->X.E=C
theorem Mz.tag(h:Mz X t)(d:YG t=C):mi X t:=by refine⟨?_,h d⟩;have⟨a,b,k,bY⟩:=t;cases k<;>first|rfl|cases d
theorem eJ(lk:Bool)(n m:Nat)(t:dj)(d:t.k≠ .ic)(a:kR)(k:sT[m]?=H a)(r:Ru)(g:eI a t=r):dx lk (n+1) m t=jp lk (dx C n) (dx lk n) r t:=by grind[AH,CO]
def yL(t:dj):xV 99 C t=iq ja t:=by rfl
def SA(t:dj):xV 93 I t=iq (fM 0) t:=by rfl
theorem KD{n:O}(h:cZ [s] n=C):n=s:=by grind[oo,x9]
theorem alS{u n:O}(h:cZ [s,u] n=C):n=s\/n=u:=by grind[oo,cZ]
theorem Qi{d:List O}{n:O}(h:cZ d n=C):n∈d:=by grind[oo,cZ]
def Yy(lk:Bool)(n a b:Nat)(nm:O)(bY:iB)(g:nm=dy\/nm=bO\/nm=aN)(h:jh X)(d:X.E=C)(hw:wt X<999000):RB 1 X (dx lk (n+1) 3 ⟨a,b,.start nm,bY⟩ X):=by rcases g with rfl|rfl|rfl;rw[eJ lk n 3 _ (by simp) _ D (.dX 104) (by kernel_rfl)];exact ur h hw (⟨D,d⟩);rw[eJ lk n 3 _ (by simp) _ D (.dX 105) (by kernel_rfl)];exact Ff h hw (⟨D,d⟩);rw[eJ lk n 3 _ (by simp) _ D (.dX 106) (by kernel_rfl)];exact Fe h hw (⟨D,d⟩)
def yZ{Q:Nat->dj->M Unit}(h:RB c {X with g:=m} (Q m t {X with g:=m})):RB c X ((iA m>>=λ_=>jg Q t>>=λ_=>(aG ():M Unit)) X):=by
 have q:RB c _ ((jg Q t>>=λ_=>(aG ())) _):=RB.tail h;show RB c X ((jg Q t>>=λ_=>(aG ())) _);revert q;cases(jg Q t>>=λ_=>(aG ())) _ with
 |ok u σ2=>rintro⟨g,k,d,l⟩;exact⟨g,k,⟨d.K,d.Q,d.R,d.T,d.A,d.E,d.nm⟩,l⟩
 |stop c p=>exact λh=>h
 |stuck=>exact λh=>h
theorem jh.g(h:jh X)(m:Nat)(d:pz m=C):jh {X with g:=m}:=⟨h.A.q D D D D D D D,h.ne,d⟩
theorem DQ(lk:Bool)(n:Nat)(t:dj)(u:vS t)(h:jh X)(S:Mz X t)(hw:wt X<999000):RB 360 X (dx lk (n+3) 6 t X):=by
 obtain⟨a,b,k,bY⟩:=t;cases k with
 |ic=>exact absurd D u.A
 |fI s=>
  have A:eI ib ⟨a,b,.fI s,bY⟩=.dX 114:=by unfold eI;dsimp only;split<;>rfl
  rw[eJ lk (n+2) 6 _ u.A ib D _ A];exact(ML h hw u.j).mono (by omega)
 |dz s=>
  rw[eJ lk (n+2) 6 _ u.A ib D (.dz 99 C) D];show RB 360 X (xV 99 C _ X);rw[yL];exact RB.mono (c:=1) ((Hh h.A ja (Ay h.A h.ne) _ hw).g h.ne h.md) (by omega)
 |eG s q=>
  rw[eJ lk (n+2) 6 _ u.A ib D .eW D];exact(rF h.A h.d).mono (by omega)
 |dZ=>
  rw[eJ lk (n+2) 6 _ u.A ib D .eW D];exact(rF h.A h.d).mono (by omega)
 |start nm=>
  have d:mi X ⟨a,b,.start nm,bY⟩:=S.tag D;cases hl:lV iR nm with
  |none=>
   have A:eI ib ⟨a,b,.start nm,bY⟩=.dX 116:=by show gE [((lV iR nm).getD .nil),_,_]=_;rw[hl];rfl
   rw[eJ lk (n+2) 6 _ u.A ib D _ A];exact(Nt h hw d).mono (by omega)
  |some r=>
   obtain⟨p,v,g,e⟩:=vG hl;have A:r≠ .nil->eI ib ⟨a,b,.start nm,bY⟩=r:=by intro E;show gE [((lV iR nm).getD .nil),_,_]=_;rw[hl];cases r<;>first|rfl|grind
   have go:∀l,r=l->l≠ .nil->RB 360 X (jp lk (dx C (n+2)) (dx lk (n+2)) l ⟨a,b,.start nm,bY⟩ X)->RB 360 X (dx lk (n+3) 6 ⟨a,b,.start nm,bY⟩ X):=by intro l e1 e2 B;rw[eJ lk (n+2) 6 _ u.A ib D l (by grind)];exact B
   unfold iR at v;simp only[nQ,nR,od]at v;rcases v with rfl|rfl|rfl|rfl|rfl|rfl|rfl|rfl|rfl|rfl|rfl|rfl|rfl|rfl|rfl|rfl|rfl|rfl|rfl|rfl|rfl
   all_goals refine go _ e.symm (by grind) ?_
   all_goals dsimp only at g
   all_goals first
    |exact(LV h hw d).mono (by omega)
    |exact(Q9 h hw d (KD g)).mono (by omega)
    |exact(Du h hw d (by rcases alS g with e|e<;>(show rY nm=C;rw[e];kernel_rfl))).mono (by omega)
    |exact(Q8 h hw d (KD g)).mono (by omega)
    |exact(Rb h hw d).mono (by omega)
    |exact(LX h hw d).mono (by omega)
    |exact(LW h hw d).mono (by omega)
    |exact(GB h hw d).mono (by omega)
    |exact(Nv h hw d).mono (by omega)
    |exact(LR h hw d).mono (by omega)
    |exact(ahe h hw d _ (by kernel_rfl)).mono (by omega)
    |exact(Q6 h hw d (KD g)).mono (by omega)
    |exact(XD h hw d).mono (by omega)
    |exact(I7 h hw d).mono (by omega)
    |exact(UN h hw d).mono (by omega)
    |exact(Nl h hw d).mono (by omega)
    |exact(rF h.A h.d).mono (by omega)
    |exact(Tq h d.d).mono (by omega)
    |exact(Tp h d.d).mono (by omega)
    |exact(Yy lk (n+1) a b nm bY (by have:=Qi g;grind) h d.d hw).mono (by omega)
    |skip
 |stop nm=>
  cases hl:lV iZ nm with
  |none=>
   have A:eI ib ⟨a,b,.stop nm,bY⟩=.dX 118:=by show gE [((lV iZ nm).getD .nil),_,_]=_;rw[hl];rfl
   rw[eJ lk (n+2) 6 _ u.A ib D _ A];have T:cZ [aC] nm=I:=K5 hl ([aC],.dX 204) (by unfold iZ;simp);exact(SS h (by show nm≠_;grind[ame,x9])).mono (by omega)
  |some r=>
   obtain⟨p,v,g,e⟩:=vG hl;have A:r≠ .nil->eI ib ⟨a,b,.stop nm,bY⟩=r:=by intro E;show gE [((lV iZ nm).getD .nil),_,_]=_;rw[hl];cases r<;>first|rfl|grind
   have go:∀l,r=l->l≠ .nil->RB 360 X (jp lk (dx C (n+2)) (dx lk (n+2)) l ⟨a,b,.stop nm,bY⟩ X)->RB 360 X (dx lk (n+3) 6 ⟨a,b,.stop nm,bY⟩ X):=by intro l e1 e2 B;rw[eJ lk (n+2) 6 _ u.A ib D l (by grind)];exact B
   unfold iZ at v;simp only[nQ,nR,od]at v;rcases v with rfl|rfl|rfl|rfl|rfl|rfl|rfl|rfl|rfl|rfl
   all_goals refine go _ e.symm (by grind) ?_
   all_goals dsimp only at g
   exact(P9 h).mono (by omega)
   .exact(FM (t:=⟨a,b,.stop nm,bY⟩) h hw g).mono (by omega)
   exact(Wr h).mono (by omega);exact(SO h hw).mono (by omega);exact(agS h hw).mono (by omega);exact(Ws h).mono (by omega);exact(MU h).mono (by omega);exact(SN h (by show nm≠_;rintro rfl;revert g;simp[cZ,fG,th])).mono (by omega)
   .have K:=KD g;subst K;show RB 360 X (xg (dx lk (n+2)) ⟨a,b,.stop _,bY⟩ X);unfold xg;split;refine yZ ?_;rw[eJ lk (n+1) 16 _ u.A oD D (.dX 149) (by kernel_rfl)];exact⟨(h.g 16 D).A.q D D D D D D D,⟨h.ne,.inl D⟩,⟨D,D,D,D,jR _,λ_ h=> .inl h,λ_ _ h=>h⟩,gR (lX (fJ D)) (zl _ _)⟩;exact(rF h.A h.d).mono (by omega)
   exact(Wp h).mono (by omega)
theorem ahj{l:List Ru}{R:List (List O×Ru)}{lk:Bool}(g:t.k≠ .ic)(d:sT[m]?=H sp)(e:eI sp t=gE ((lV R nm).getD .nil::l))(u:∀p∈R,p.2≠ .nil)(k:RB c X (jp lk (dx C n) (dx lk n) (gE l) t X))(q:∀p∈R,cZ p.1 nm=C->RB c X (jp lk (dx C n) (dx lk n) p.2 t X)):RB c X (dx lk (n+1) m t X):=by
 cases hl:lV R nm with
 |none=>
  rw[eJ lk n m t g sp d (gE l) (by rw[e,hl];rfl)];exact k
 |some r=>
  obtain⟨p,A,v,rfl⟩:=vG hl;rw[eJ lk n m t g sp d p.2 (by rw[e,hl];cases hq:p.2<;>first|rfl|grind)]
  grind
def aez{lk:Bool}(g:t.k≠ .ic)(k:sT[m]?=H sp)(d:RB c X (jp lk (dx C n) (dx lk n) (eI sp t) t X)):RB c X (dx lk (n+1) m t X):=by rw[eJ lk n m t g sp k _ D];exact d
def Oa{Q:Nat->dj->M Unit}(h:jh X)(v:∀W,jh W->wt W=wt X->W.E=X.E->RB c W (Q 6 t W)):RB c X (pQ Q t X):=by
 have q:=RB.then (v {X with U:=C} ⟨h.A.q D D D D D D D,h.ne,h.md⟩ D D) (λX=>{X with U:=I}) (λ_=>⟨D,D,D,D,D,D,D,D,D,D,D,D⟩);show RB c X ((Q 6 t>>=λ_=>oc _>>=λ_=>(aG ())) _);revert q;cases(Q 6 t>>=λ_=>oc _>>=λ_=>(aG ())) _ with
 |ok u σ2=>rintro⟨g,k,d,l⟩;exact⟨g,k,⟨d.K,d.Q,d.R,d.T,d.A,d.E,d.nm⟩,l⟩
 |stop c p=>exact λh=>h
 |stuck=>exact λh=>h
def adJ{d:M Unit}(h:jh X)(g:RB c X (d X)):RB c X (Em d t X):=by unfold Em;split;exact g;exact(rF h.A h.d).mono (eZ _)
theorem yQ{Q:Nat->dj->M Unit}(h:jh X)(hw:wt X<999000)(a:List O)(d:O)(m:Nat)(l:pz m=C)(p:∀W,jh W->W.g=m->wt W<=wt X+1->W.E=X.E->RB c W (Q m t W)):RB (c+1) X (pS Q a d m t X):=by refine RB.bind (wZ h.A _) (c2:=c+1) ?_ (by omega);rintro _ σ1 u g K B;refine RB.bind (rA u (g.ne h.ne) (by omega) d) (c2:=c) ?_ (by omega);rintro _ A v k S⟨j,q,E⟩;refine yZ (p _ ⟨v.q D D D D D D D,k.ne (g.ne h.ne),l⟩ D ?_ ?_);grind[wt];grind[sD.E]
def Ey(h:ln X.L<4096):j8 ⟨a,b,.fI s,bY⟩ X=.ok () (if kN s then X else {X with L:=X.L++[(a,b,s)]}):=by
 unfold j8;simp only;cases kN s with
 |true=>rfl
 |false=>simp[h]
theorem JZ(h:jh X)(k:s.size<=100)(hw:wt X<999000)(l:ln X.L<4000)(d:X.g=7\/X.g=11\/X.g=12):RB 360 X (lL (dx I (n+4)) ⟨a,b,.fI s,bY⟩ X):=by
 unfold lL;split
 .refine RB.mono (c:=0) ?_ (by omega);have e:dx I (n+4) 8 ⟨a,b,.fI s,bY⟩=j8 ⟨a,b,.fI s,bY⟩:=eJ I (n+3) 8 _ (by grind) iy D (.dX 130) (by unfold eI;dsimp only;split<;>rfl)
  show RB 0 X ((dx I (n+4) 8 ⟨a,b,.fI s,bY⟩>>=λ_=>(aG ():M Unit)) _);rw[e];have p:kV {X with kept:=X.g,g:=8}:=h.A.q D D D D D D D;rw[M.cW,Ey (by grind)];cases kN s with
  |true=>exact⟨p,⟨h.ne,.inr (.inr ⟨D,d⟩)⟩,⟨D,D,D,D,jR _,λ_ h=> .inl h,λ_ _ h=>h⟩,lX (fJ D)⟩
  |false=>exact⟨h.A.q D D D D D D D,⟨h.ne,.inr (.inr ⟨D,d⟩)⟩,⟨D,D,D,D,by simp,λx u=>by grind,λ_ _ h=>h⟩,lX (fJ D)⟩
 refine RB.tail (Oa h ?_);intro W g U q;exact DQ I (n+1) ⟨a,b,.fI s,bY⟩ ⟨k,D,by grind⟩ g (λh=>by cases h) (by omega)
structure CX(L:Nat)(t:dj)(σ:N):Prop where
 u:vS t
 h:jh σ
 A:Mz σ t
 hw:wt σ<998000
 hwt:ln σ.L<4000
 B:ln σ.A<=L
def PL(L n:Nat):Prop:=∀t X,CX L t X->RB 370 X (dx I n X.g t X)
theorem PL.ahead{L:Nat}(k:PL L n)(c:CX (L+1) t X){b:M Bool}(l:vQ b):RB 370 X (vV (dx I n) b t X):=
 have⟨tg,h,hf,hw,hwt,hl⟩:=c
 acs l h (λW g q U d u _=>k t W ⟨tg,g,(λp=>d.trans (hf p)),by omega,by grind,by omega⟩)
def Yj(n a b:Nat)(nm:O)(bY:iB)(g:nm=eQ\/nm=eS)(h:jh X)(d:mi X ⟨a,b,.start nm,bY⟩)(hw:wt X<999000):RB 1 X (dx I (n+1) 12 ⟨a,b,.start nm,bY⟩ X):=by rcases g with rfl|rfl;rw[eJ _ n 12 _ (by simp) _ D (.dX 137) (by kernel_rfl)];exact zc h hw d;rw[eJ _ n 12 _ (by simp) _ D (.dX 137) (by kernel_rfl)];exact zc h hw d
def akJ(n a b:Nat)(nm:O)(bY:iB)(g:nm∈[eQ,eS,dK])(h:jh X)(k:mi X ⟨a,b,.start nm,bY⟩)(hw:wt X<998900):RB 2 X (dx I (n+2) 11 ⟨a,b,.start nm,bY⟩ X):=by
 simp at g;have d:nm=(eQ)\/nm=(eS)->RB 2 X (pS _ [(cO),(cH),(cX)] (dK) 12 _ X):=λq=>
  yQ h (by omega) _ _ 12 rfl (λW p u U l=>Yj n a b nm bY q p ⟨D,l.trans k.d⟩ (by omega))
 rcases g with rfl|rfl|rfl;rw[eJ _ _ 11 _ (by simp) _ D (.ox _ _ 12) (by kernel_rfl)];exact d (.inl D);rw[eJ _ _ 11 _ (by simp) _ D (.ox _ _ 12) (by kernel_rfl)];exact d (.inr D);rw[eJ _ _ 11 _ (by simp) _ D (.nN [(cO),(cH),(cX)] 12) (by kernel_rfl)];exact(OW h (by omega) k _ 12 D).mono (by omega)
def ag7(h:kV X)(d:X.A≠[]):∃pl,pP X=.ok pl X/\Bu X pl:=by have⟨r,hr⟩:=h;have⟨q,e,rest,h1,h2,h3,h4⟩:=hr.first d;exact⟨_,by unfold pP;rw[h2];dsimp only;unfold fM;rw[h3],e,h3,dF _⟩
def ae4{L k:Nat}(H:PL L (k+5))(c:CX (L+1) t X)(o:m∈[7,9,10,11,12,13,14,15,16,17])(f:m=7->X.g=7\/X.g=11\/X.g=12)(F:m=11\/m=12->RB 370 X (dx I (k+5) 7 t X))(T:m=15->RB 370 X (dx I (k+5) 14 t X)):RB 370 X (dx I (k+6) m t X):=by
 have Ah:=λ{b}=>H.ahead c (b:=b);obtain⟨q,h,p,hw,i,hl⟩:=c;have d:wt X<999000:=by omega
 have g:∀{c r},RB c X r->c<=370->RB 370 X r:=RB.mono;have B:RB 370 X (dx I (k+5) 6 t X):=g (DQ I (k+2) _ q h p d) (by omega);have n:RB 370 X (_:pj Unit):=g (yZ (Q:=dx I (k+5)) (DQ I (k+2) _ q (h.g 6 D) (λK=>p K) d)) (by omega);have a1:=g (rF h.A h.d) (by omega);have a0:RB 370 X (pQ (dx I (k+5)) t X):=g (Oa h (λW A U v=>DQ I (k+2) _ q A (λK=>v.trans (p K)) (by omega))) (by omega);have En:=λ{b} (hb:vQ b)=>g (agU hb h) (by omega);have S:=λ{P} N=>g ((Hh h.A P N t d).g h.ne h.md) (by omega);have x:∀{a b s bY},s.size<=100->m=7->RB 370 X (lL (dx I (k+5)) ⟨a,b,.fI s,bY⟩ X):=λK e=>g (JZ (n:=k+1) h K d i (f e)) (by omega);have y:∀{a b nm bY},nm=aN->X.E=C->RB 370 X (dx I (k+5) 3 ⟨a,b,.start nm,bY⟩ X):=λe p=>g (Yy I (k+4) _ _ _ _ (.inr (.inr e)) h p d) (by omega);have z:∀{a b nm bY ks u},nm∈[eQ,eS,dK]->X.E=C->RB 370 X (pS (dx I (k+5)) ks u 11 ⟨a,b,.start nm,bY⟩ X):=λe p=>g (yQ (c:=2) h d _ _ 11 D (λW A w U v=>akJ (k+3) _ _ _ _ e A ⟨D,v.trans p⟩ (by omega))) (by omega);have G:∀{a b nm bY ks u},nm=eQ\/nm=eS->X.E=C->RB 370 X (pS (dx I (k+5)) ks u 12 ⟨a,b,.start nm,bY⟩ X):=λe p=>g (yQ (c:=1) h d _ _ 12 D (λW A w U v=>Yj (k+4) _ _ _ _ e A ⟨D,v.trans p⟩ (by omega))) (by omega);have J:∀{a b nm bY ks u},nm=eF->X.E=C->RB 370 X (pS (dx I (k+5)) ks u 10 ⟨a,b,.start nm,bY⟩ X):=λe p=>g (yQ (c:=1) h d _ _ 10 D (λW A w U v=>by rw[e,eJ I (k+4) 10 _ (by simp) nL D (.dX 104) (by kernel_rfl)];exact ur A (by omega) ⟨D,v.trans p⟩)) (by omega)
 obtain⟨a,b,O,bY⟩:=t;simp only[nQ,nR,od]at o;rcases o with rfl|rfl|rfl|rfl|rfl|rfl|rfl|rfl|rfl|rfl
 all_goals cases O
 all_goals first
  |exact absurd D q.A
  |refine ahj q.A D D (by simp) ?_ ?_
  |refine aez q.A D ?_
 all_goals generalize dx I (k+5)=j at *
 all_goals try (unfold eI;dsimp only)
 all_goals try split
 all_goals try (simp only[List.forall_mem_cons,nR,false_implies,implies_true,and_true];and_intros)
 all_goals try intro E
 all_goals try have l:=p.tag D
 all_goals try exact a1
 all_goals try exact B
 all_goals try refine Ah ?_
 all_goals try refine En ?_
 all_goals try refine adJ h (Ah ?_)
 all_goals try refine adJ h (En ?_)
 all_goals try exact F (by simp)
 all_goals try exact T D
 all_goals try exact a0
 all_goals try exact x q.j D
 all_goals try exact S (Ay h.A h.ne)
 all_goals try exact S (PY h.A)
 all_goals try exact S (ag7 h.A h.ne)
 all_goals try exact g (BN h d q.j) (by omega)
 all_goals try exact g (IR h d q.j) (by omega)
 all_goals try first
  |exact Wv
  |exact P6
  |exact FK
  |exact Kn
  |exact adg
  |exact aaB
  |exact SU
 all_goals try exact z (Qi E) l.d
 all_goals try exact G (alS E) l.d
 all_goals try exact J (KD E) l.d
 all_goals try exact g (OW h d l _ _ D) (by omega)
 all_goals try exact y (KD E) l.d
 show RB 370 X ((if yn _ then iL j _ else stuck:M Unit) X);rw[dw q.sm];unfold iL;split;exact g (RB.tail (ur h d l)) (by omega);exact RB.tail a0;exact g (BB h d l (KD E)) (by omega);exact g (I5 h d l) (by omega);exact g (ur h d l) (by omega);exact g (zc h d l) (by omega);exact g (Dx h d l) (by omega);exact g (xI h d l) (by omega);exact g (ze h d l) (by omega);exact g (zX h) (by omega);exact g (yP h) (by omega)
 iterate 3 exact n
 exact g (c:=0) ⟨h.A.q D D D D D D D,⟨h.ne,.inl D⟩,⟨D,D,D,D,jR _,λ_ h=> .inl h,λ_ _ h=>h⟩,lX (fJ D)⟩ (by omega)
 all_goals exact n
def G9(h:pz m=C):m=6\/m∈[7,9,10,11,12,13,14,15,16,17]:=by unfold pz at h;simp at h|-;omega
theorem JH:∀(L n:Nat),4*L+8<=n->PL L n
 |0,n,_=>by intro t X c;exact absurd (List.length_eq_zero_iff.1 (by have:=c.B;omega)) c.h.ne
 |L+1,n,hn=>by intro t X c;obtain⟨k,rfl⟩:∃k,n=k+7:=⟨n-7,by omega⟩;have d:PL L (k+5):=JH L _ (by omega);have S:=λm l g=>ae4 (m:=m) d c l g;rcases G9 c.h.md with e|e;grind[RB.mono,DQ,CX.u,CX.h,CX.A,CX.hw];refine ae4 (JH L (k+1+5) (by omega)) c e (λh=> .inl h) (λh=>S 7 (by simp) (λ_=> .inr h) (λh=>by grind) (λh=>by cases h)) (λ_=>S 14 (by simp) (λh=>by cases h) (λh=>by grind) (λh=>by cases h))
def HS(m:Nat)(o:iU)(g:fW):Prop:=
 (m<=1/\o=[]/\g=F)\/(m=2/\∃h,o=[H h])\/(m=3/\∃h d,o=[H h,H d]/\g=H d)\/(m=4/\∃h d,o=[H h]/\g=H d)\/(pz m=C/\o≠[])
def B3(X:N):Prop:=(∃d,fa X d aZ)/\∃b,fa X b aO
def BH(X:N):Prop:=6<=X.g\/X.g=5/\6<=X.kept->B3 X
theorem B3.of(h:B3 X)(nm:∀i s,fa X i s->fa W i s):B3 W:=⟨h.1.imp λ_=>nm _ _,h.2.imp λ_=>nm _ _⟩
theorem BH.of(h:BH X)(g:W.g=X.g)(d:W.kept=X.kept)(nm:∀i s,fa X i s->fa W i s):BH W:=λq=>(h (by omega)).of nm
theorem BH.low(h:X.g<=4):BH X:=λq=>by omega
def QK(X:N):Prop:=HS X.g X.A X.head\/(X.g=5/\3<=X.kept/\2<=ln X.A/\HS X.kept X.A.dropLast X.head)\/(X.g=8/\(X.kept=7\/X.kept=11\/X.kept=12)/\X.A≠[])
def MS(X:N):Prop:=QK X/\BH X
def RG(c:Nat)(X:N)(r:pj Unit):Prop:=match r with
 | .ok _ W=>kV W/\MS W/\Lm X W/\wt W<=wt X+c
 | .stop _ p=>p=X.K
 | .stuck=>False
theorem RG.mono{r:pj Unit}(h:RG c X r)(d:c<=c'):RG c' X r:=by
 cases r with
 |ok a W=>grind[RG]
 |stop e p=>exact h
 |stuck=>exact h
def DP(h:pz m=C):6<=m:=by have:=G9 h;simp at this;omega
theorem HH.d(h:HH X)(l:B3 X):MS X:=by refine⟨?_,λ_=>l⟩;rcases h.sh with d|⟨d,g,k⟩|⟨d,g⟩;exact .inl (.inr (.inr (.inr (.inr ⟨d,h.ne⟩))));refine .inr (.inl ⟨d,?_,k,.inr (.inr (.inr (.inr ⟨g,?_⟩)))⟩);have:=DP g;omega;intro e;have:=mf ln e;grind;exact .inr (.inr ⟨d,g,h.ne⟩)
def RB.rg{r:pj Unit}(h:RB c X r)(d:B3 X):RG c X r:=by
 cases r with
 |ok a W=>exact⟨h.1,h.2.1.d (d.of h.2.2.1.nm),h.2.2.1,h.2.2.2⟩
 |stop e p=>exact h
 |stuck=>exact h
def fK.rg{r:pj Unit}(h:fK c X r Q)(d:MS X)(g:∀W,Q () W->W.A=X.A):RG c X r:=by
 cases r with
 |ok a W=>
  have⟨h1,h2,h3,h4⟩:=h;refine⟨h1,⟨?_,d.2.of h2.g h2.kept h2.nm⟩,h2.d,h3⟩;unfold QK;rw[h2.g,h2.kept,h2.head,g W h4];exact d.1
 |stop e p=>exact h
 |stuck=>exact h
theorem qE(h:kV X)(d:MS X):RG 0 X ((aG ():M Unit) X):=⟨h,d,lm0 X,dF _⟩
theorem RG.tail{m:M Unit}(h:RG c X (m X)):RG c X ((m>>=λ_=>(aG ():M Unit)) X):=by rw[M.cW];revert h;cases m X<;>exact λh=>h
def RG.from{r:pj Unit}(h:RG c1 σ1 r)(d:Lm X σ1)(hw:ln σ1.L<=ln X.L)(k:∀x∈σ1.L,x∈X.L)(l:wt σ1<=wt X+c2)(u:c1+c2<=c):RG c X r:=by
 cases r with
 |ok a W=>
  have⟨h1,h2,h3,h4⟩:=h;exact⟨h1,h2,⟨h3.K.trans d.K,h3.Q.trans d.Q,h3.R.trans d.R,h3.T.trans d.T,by have:=h3.A;omega,λx g=>(h3.E x g).imp (k x) id,λi s q=>h3.nm i s (d.nm i s q)⟩,by omega⟩
 |stop e p=>exact zk h d.K
 |stuck=>exact h
theorem MY(h:kV X)(g:X.A≠[])(t:dj)(l:X.E=C)(k:MS X):RG 0 X (mF t X):=by
 have v:∀(bY:iB)(i:Nat)(X:N),∀W,oR i bY X=.ok () W->W.A=X.A:=by
  intro bY i
  induction bY with
  |nil=>intro X W e;cases e;rfl
  |cons a r ih=>
   intro X W e;rw[Od]at e;split at e;cases e;split at e;grind;split at e;cases e;have:=ih _ W e;exact this
 have d:=Ej h g t l;cases hq:mF t X with
 |ok u W=>
  rw[hq]at d;have⟨g1,g2,g3,_⟩:=d;refine⟨g1,⟨?_,k.2.of g2.g g2.kept g2.nm⟩,g2.d,g3⟩;have q:W.A=X.A:=by
   unfold mF at hq;split at hq
   .rename_i i A;rw[M.cW]at hq;cases hg:uW i t X with
    |ok u2 σ2=>
     rw[hg]at hq;cases hq<;>grind[uW]
    |stop c p=>grind
    |stuck=>grind
   cases hq
  unfold QK;rw[g2.g,g2.kept,g2.head,q];exact k.1
 |stop c p=>rwa [hq]at d
 |stuck=>rw[hq]at d;exact d.elim
theorem Ql(n a b:Nat)(bY:iB)(h:kV X)(d:X.A≠[])(g:X.E=C)(k:MS X):RG 0 X (dx I (n+1) 6 ⟨a,b,.start aC,bY⟩ X):=by rw[eJ _ n 6 _ (by grind) _ D (.dX 185) (by kernel_rfl)];exact MY h d _ g k
theorem KJ(h:kV X)(g:X.A≠[])(hw:wt X<998000)(s:O)(m:Nat){Q:Nat->dj->M Unit}(A:∀W,kV W->Fx X {W with g:=X.g}->W.g=m->wt W<=wt X+1->W.E=X.E->(∃j,fa W j s)->RG c W (Q m t W)):RG (c+1) X ((iD s>>=λ_=>iA m>>=λ_=>jg Q t>>=λ_=>(aG ():M Unit)) X):=by
 have l:=rA h g (by omega) s;rw[M.cW];revert l;cases iD s X with
 |ok u σ1=>
  rintro⟨B,d,k,j,q,E⟩;have v:=RG.tail (A {σ1 with g:=m} (B.q D D D D D D D) (by
   have e:({({σ1 with g:=m})with g:=X.g})=σ1:=by rw[<-d.g]
   grind) D k E ⟨j,q.nm⟩)
  exact RG.from v ⟨d.K,d.Q,d.R,d.T,by grind[Fx.L],by grind[Fx.L],d.nm⟩ (by grind[Fx.L]) (by grind[Fx.L]) k (dF _)
 |stop c p=>exact λh=>h
 |stuck=>simp[fK]
theorem we(h:kV X)(l:M (Nat×Nat))(g:∃pl,l X=.ok pl X/\Bu X pl)(t:dj)(hw:wt X<999000)(d:MS X):RG 1 X (iq l t X):=by
 have⟨a,b,k,bY⟩:=t;cases k with
 |dz s=>
  have⟨pl,h1,h2⟩:=g;show RG 1 X ((l>>=λpl=>kZ pl _ .cm>>=λ_=>(aG ())) X);rw[M.cW,h1];exact RG.tail ((Gm h h2 _ .cm (.inl ⟨s,D,D⟩) (by omega)).rg d (λ_ q=>q.A))
 |fI s=>exact(qE h d).mono (by omega)
 |start s=>exact(qE h d).mono (by omega)
 |stop s=>exact(qE h d).mono (by omega)
 |eG s q=>exact(qE h d).mono (by omega)
 |ic=>exact(qE h d).mono (by omega)
 |dZ=>exact(qE h d).mono (by omega)
theorem JA{R:List (List O×Ru)}(d:sp.start=H R)(v:∀p∈R,p.2≠ .nil)(q:gE [sp.B,sp.l]=o){lk:Bool}(g:sT[m]?=H sp)(u:∀p∈R,cZ p.1 nm=C->P (jp lk (dx C n) (dx lk n) p.2 ⟨a,b,.start nm,bY⟩ X))(l:P (jp lk (dx C n) (dx lk n) o ⟨a,b,.start nm,bY⟩ X)):P (dx lk (n+1) m ⟨a,b,.start nm,bY⟩ X):=by
 have k:eI sp ⟨a,b,.start nm,bY⟩=gE [((lV R nm).getD .nil),sp.B,sp.l]:=by show gE _=_;rw[d];rfl
 cases hl:lV R nm with
 |none=>
  rw[eJ lk n m _ (by simp) sp g o (by rw[k,hl,<-q];rfl)];exact l
 |some r=>
  obtain⟨p,B,A,rfl⟩:=vG hl;rw[eJ lk n m _ (by simp) sp g p.2 (by grind[gE])]
  grind
theorem Rc{R:List (List O×Ru)}(d:sp.stop=H R)(v:∀p∈R,p.2≠ .nil)(q:gE [sp.A,sp.l]=o){lk:Bool}(g:sT[m]?=H sp)(u:∀p∈R,cZ p.1 nm=C->P (jp lk (dx C n) (dx lk n) p.2 ⟨a,b,.stop nm,bY⟩ X))(l:P (jp lk (dx C n) (dx lk n) o ⟨a,b,.stop nm,bY⟩ X)):P (dx lk (n+1) m ⟨a,b,.stop nm,bY⟩ X):=by
 have k:eI sp ⟨a,b,.stop nm,bY⟩=gE [((lV R nm).getD .nil),sp.A,sp.l]:=by show gE _=_;rw[d];rfl
 cases hl:lV R nm with
 |none=>
  rw[eJ lk n m _ (by simp) sp g o (by rw[k,hl,<-q];rfl)];exact l
 |some r=>
  obtain⟨p,B,A,rfl⟩:=vG hl;rw[eJ lk n m _ (by simp) sp g p.2 (by grind[gE])]
  grind
theorem Cu{d:Ru}(p:gE [sp.blank,sp.fI,sp.l]=d)(q:gE [sp.fI,sp.l]=o){lk:Bool}(g:sT[m]?=H sp)(k:P (jp lk (dx C n) (dx lk n) d ⟨a,b,.fI s,bY⟩ X))(l:P (jp lk (dx C n) (dx lk n) o ⟨a,b,.fI s,bY⟩ X)):P (dx lk (n+1) m ⟨a,b,.fI s,bY⟩ X):=by
 cases hk:fP s with
 |true=>
  rw[eJ lk n m _ (by simp) sp g d (by grind[eI])]
  exact k
 |false=>
  rw[eJ lk n m _ (by simp) sp g o (by grind[eI])]
  exact l
def jw{r:Ru}{lk:Bool}(g:t.k≠ .ic)(l:sT[m]?=H sp)(k:eI sp t=r)(d:P (jp lk (dx C n) (dx lk n) r t X)):P (dx lk (n+1) m t X):=by rw[eJ lk n m t g sp l r k];exact d
structure xF(σ:N):Prop where
 A:kV σ
 md:σ.g=4
 sh:∃h d,σ.A=[H h]/\σ.head=H d
theorem xF.d(h:xF X):MS X:=by have⟨x,d,h1,h2⟩:=h.sh;exact⟨.inl (.inr (.inr (.inr (.inl ⟨h.md,x,d,h1,h2⟩)))),BH.low (by grind[md])⟩
theorem xF.ne(h:xF X):X.A≠[]:=by grind[sh]
theorem Ii(v:kV X)(g:X.A≠[])(k:mi X t)(b:Bool)(hw:wt X<998000):match lu t b X with
 | .ok _ W=>kV W/\Lm X W/\wt W<=wt X+1/\W.g=5/\W.kept=X.g/\(∃j,W.A=X.A++[H j]/\(ln X.d)<=j)/\W.head=X.head/\(∀i s,fa X i s->fa W i s)
 | .stop _ p=>p=X.K
 | .stuck=>False:=by
 have l:=gW v g (by omega) t k.tag k.d;have e:lu t b X=(eE t>>=λ_=>Pz _ b>>=λ_=>oc _>>=λ_=>iA 5>>=λ_=>(aG ())) X:=rfl;rw[e,M.cW];revert l;cases eE t X with
 |ok u σ1=>
  rintro⟨A,d,B,j,q⟩;exact⟨A.q D D D D D D D,⟨d.K,d.Q,d.R,d.T,by grind[Fx.L],by grind[Fx.L],d.nm⟩,B,D,d.g,⟨j,q.A,q.new⟩,d.head,d.nm⟩
 |stop c p=>simp[fK]
 |stuck=>simp[fK]
theorem MF(h:xF X)(a1:nm=dy\/nm=bO\/nm=aN)(hf:X.E=C)(hw:wt X<997000):RG 2 X (rM (dx I (n+1)) ⟨a,b,.start nm,bY⟩ X):=by
 have⟨x,d,ho,hd⟩:=h.sh;have⟨r,hr⟩:=h.A;have U:=hr.head d hd;have⟨ed,hed,hedn⟩:=id U;have a3:r x<r d:=hr.K.B d x hd (by grind);unfold rM;rw[M.cW];have e1:pushHead X=nK (H d) X:=by unfold pushHead;rw[hd]
 rw[e1];unfold nK;by_cases hl:X.Q<=ln X.A;grind[RG]
 .rw[di hl,dw (show X.lj (H d)=C by grind[N.lj])];dsimp only;have⟨g1,g2⟩:=hr.push hed (by grind[rk]) (by omega) (.inl h.ne)
  obtain⟨σ1,l⟩:∃σ1,σ1=({X with A:=X.A++[H d]}:N):=⟨_,D⟩;rw[<-l]at g1 g2|-;have m:kV σ1:=⟨r,g1⟩;have w:σ1.A=[H x,H d]:=by rw[l];show X.A++[H d]=_;rw[ho];rfl
  have e:σ1.A≠[]:=by rw[w];simp
  have w1:wt σ1=wt X:=by rw[l];rfl
  have T:σ1.E=C:=by rw[l];exact hf
  have a2:σ1.g=4:=g2.g.trans h.md;have E:σ1.head=H d:=g2.head.trans hd;have Y:x≠d:=by rintro rfl;omega
  have F:mi σ1 ⟨a,b,.start nm,bY⟩:=⟨D,T⟩;have S:∀g,kV g->Lm σ1 g->wt g<=wt σ1+1->g.head=H d->fa g d aZ->MS {g with A:=g.A.erase (H d)}->RG 2 X ((oy>>=λ_=>(aG ():M Unit)) g):=by
   intro g G K w2 z n2 O;have e2:oy g=iH (H d) g:=by unfold oy;rw[z]
   have v:=Dc G n2 (by simp);rw[M.cW,e2];have y:iH (H d) g=.ok () {g with A:=g.A.erase (H d)}:=Le (kj n2);rw[y]at v|-;have⟨W,k4,o,t⟩:=v;refine⟨W,O,⟨K.K.trans g2.K,K.Q.trans g2.Q,K.R.trans g2.R,K.T.trans g2.T,?_,by have:=K.E;grind,λi s q=>K.nm i s (g2.nm i s q)⟩,?_⟩;show ln g.L<=_;have:=K.A;grind;omega
  have A:fa σ1 d aZ:=g2.nm _ _ U;have a0:([H x,H d]:iU).erase (H d)=[H x]:=by rw[vt (by grind),vH]
  have B:∀f,RG 2 X (((lu ⟨a,b,.start nm,bY⟩ f>>=λ_=>(aG ():M Unit))>>=λ_=>oy>>=λ_=>(aG ():M Unit)) σ1):=by
   intro f;have k:=Ii m e F f (by omega);rw[M.cW,M.cW];revert k;cases lu ⟨a,b,.start nm,bY⟩ f σ1 with
   |ok u g=>
    rintro⟨k1,v,W,k4,o,⟨j,t,V⟩,J,L⟩;refine S g k1 v W (J.trans E) (L _ _ A) ?_;have R:j≠d:=by
     have:=N.n hed;have P:ln σ1.d=ln X.d:=by rw[l]
     omega
    have Q:g.A.erase (H d)=[H x,H j]:=by rw[t,w];show([H x,H d,H j]:iU).erase (H d)=_;rw[vt (by grind),vH]
    refine⟨.inr (.inl ⟨k4,?_,?_,?_⟩),λq=>?_⟩;grind;grind
    all_goals grind[HS]
   |stop c p=>exact λh=>zk h g2.K
   |stuck=>simp
  rcases a1 with rfl|rfl|rfl
  .rw[eJ I n 3 _ (by grind) gI D (.dX 104) (by kernel_rfl)];have k:=pT m e (by omega) ⟨a,b,.start dy,bY⟩ D T;show RG 2 X ((jA ⟨a,b,.start dy,bY⟩>>=λ_=>oy>>=λ_=>(aG ():M Unit)) σ1);rw[M.cW];revert k;cases jA ⟨a,b,.start dy,bY⟩ σ1 with
   |ok u g=>
    rintro⟨k1,v,W,k4,o⟩;refine S g k1 v.d W (v.head.trans E) (v.nm _ _ A) ?_;refine⟨.inl (.inr (.inr (.inr (.inl ⟨v.g.trans a2,x,d,?_,v.head.trans E⟩)))),BH.low (by grind[Fx.g])⟩;grind
   |stop c p=>exact λh=>zk h g2.K
   |stuck=>simp[fK]
  rw[eJ I n 3 _ (by grind) gI D (.dX 105) (by kernel_rfl)];exact B I;rw[eJ I n 3 _ (by grind) gI D (.dX 106) (by kernel_rfl)];exact B C
theorem Zt(y:4*64+8<=n)(t:dj)(g:vS t)(h:xF X)(v:Mz X t)(hw:wt X<997000)(i:ln X.L<4000):RG 372 X (dx I (n+1) 4 t X):=by
 obtain⟨k,rfl⟩:∃k,n=k+1:=⟨n-1,by omega⟩;have E:∀t,vS t->Mz X t->RG 372 X (sd (dx I (k+1)) t X):=λt g v=>((show RG 371 X (sd (dx I (k+1)) t X) by
   refine KJ h.A h.ne (by omega) _ 6 ?_;intro W m T o U F w;have f:B3 W:=by have⟨x,d,_,hd⟩:=h.sh;have⟨r,hr⟩:=h.A;exact⟨⟨d,T.nm _ _ (hr.head d hd)⟩,w⟩
   have h:=JH 64 (k+1) y t W ⟨g,⟨m,(T.ne h.ne),by rw[o];rfl⟩,(λP=>F.trans (v P)),(by omega),(by have:=T.L;rw[this];exact i),(by have⟨r,hr⟩:=m;exact gR hr.P hr.L)⟩;rw[o]at h;exact(h.rg f).mono (dF _))).mono (by omega)
 have S:RG 372 X ((aG ():M Unit) X):=(qE h.A h.d).mono (by omega);have⟨a,b,kk,bY⟩:=t;cases kk with
 |ic=>exact absurd D g.A
 |fI s=>
  refine Cu (sp:=kD) (P:=RG 372 X) D D D ?_ ?_;exact RG.mono (c:=s.size+1) ((nC h.A h.ne _ (by grind[vS.j])).rg h.d (λ_ q=>q.A)) (by have:=g.j;have e:dj.d ⟨a,b,.fI s,bY⟩=s:=rfl;grind);exact E _ g v
 |dz s=>
  refine jw g.A (sp:=kD) (P:=RG 372 X) D D ?_;show RG 372 X (xV 99 C _ X);rw[yL];grind[RG.mono,we,xF.A,Ay,xF.ne,xF.d]
 |eG s q=>exact jw g.A (sp:=kD) (P:=RG 372 X) D D S
 |dZ=>exact jw g.A (sp:=kD) (P:=RG 372 X) D D (E _ g v)
 |start nm=>
  have K:mi X ⟨a,b,.start nm,bY⟩:=v.tag D;refine JA (sp:=kD) (P:=RG 372 X) D (by simp) D D ?_ ?_
  .intro p A B;simp only[nQ,nR,od]at A;rcases A with rfl|rfl|rfl|rfl
   all_goals dsimp only at B|-
   exact(MF h (by have:=Qi B;grind) K.d hw).mono (by omega)
   .have e:=KD B;subst e;show RG 372 X (vJ _ X);unfold vJ;have k1:=gW h.A h.ne (by omega) ⟨a,b,.start aO,bY⟩ K.tag K.d;rw[M.cW];revert k1;cases eE ⟨a,b,.start aO,bY⟩ X with
    |ok u σ1=>
     rintro⟨z,l,w1,j,q⟩;have f:B3 σ1:=by have⟨x,d,_,hd⟩:=h.sh;have⟨r,hr⟩:=h.A;exact⟨⟨d,l.nm _ _ (hr.head d hd)⟩,j,q.nm⟩
     exact⟨z.q D D D D D D D,⟨.inl (.inr (.inr (.inr (.inr ⟨D,l.ne h.ne⟩)))),λ_=>f⟩,⟨l.K,l.Q,l.R,l.T,l.d.A,l.d.E,l.nm⟩,gR w1 (by omega)⟩
    |stop c p=>exact λh=>h
    |stuck=>simp[fK]
   have e:=KD B;subst e;exact(Ql k a b bY h.A h.ne K.d h.d).mono (by omega);exact S
  exact E _ g v
 |stop nm=>
  refine Rc (sp:=kD) (P:=RG 372 X) D (by simp) D D ?_ ?_;intro p A B;simp only[nQ,nR,od]at A;subst A;exact E _ g v;exact S
structure Vo(σ:N):Prop where
 A:kV σ
 md:σ.g=3
 sh:∃h d,σ.A=[H h,H d]/\σ.head=H d
theorem Vo.d(h:Vo X):MS X:=by have⟨x,d,h1,h2⟩:=h.sh;exact⟨.inl (.inr (.inr (.inl ⟨h.md,x,d,h1,h2⟩))),BH.low (by grind[md])⟩
theorem Vo.ne(h:Vo X):X.A≠[]:=by grind[sh]
theorem Vo.pop(h:Vo X):xF {X.pop with g:=4}/\Lm X {X.pop with g:=4}:=by have⟨x,d,h1,h2⟩:=h.sh;have⟨g1,g2⟩:=Ge h.A (by grind);refine⟨⟨g1.q D D D D D D D,D,x,d,?_,h2⟩,⟨D,D,D,D,jR _,λ_ h=> .inl h,λ_ _ h=>h⟩⟩;grind[N.pop]
theorem Ik(l:kV X)(d:X.A≠[])(v:mi X t)(b:Bool)(hw:wt X<998000)(T:3<=X.g)(g:BH X)(U:HS X.g X.A X.head):RG 1 X ((lu t b>>=λ_=>(aG ():M Unit)) X):=by
 refine RG.tail ?_;have k:=Ii l d v b hw;revert k;cases lu t b X with
 |ok u σ2=>
  rintro⟨A,B,E,K,W,⟨j,a,e⟩,f,S⟩;refine⟨A,⟨.inr (.inl ⟨K,by omega,?_,?_⟩),λq=>(g (by omega)).of S⟩,B,E⟩
  all_goals grind[kt]
 |stop c p=>exact λh=>h
 |stuck=>simp
def xy(h:kV X)(d:X.A≠[])(g:MS X)(k:t.d.size<=100)(hw:wt X<999000):RG 101 X (gh t X):=
 RG.mono ((nC h d t (by omega)).rg g (λ_ q=>q.A)) (by omega)
theorem Zs(T:4*64+8<=n)(t:dj)(g:vS t)(h:Vo X)(k:Mz X t)(hw:wt X<997000)(S:ln X.L<4000):RG 373 X (dx I (n+2) 3 t X):=by
 have⟨g4,gl⟩:=h.pop;have A:∀t,vS t->Mz X t->RG 373 X (nB (dx I (n+1)) t X):=by intro t g k;have E:=RG.tail (Zt T t g g4 (λU=>k U) hw S);exact RG.from (c1:=372) (c2:=0) E gl (dF _) (λ_ h=>h) (lX (fJ D)) (by omega)
 have B:RG 373 X ((aG ():M Unit) X):=(qE h.A h.d).mono (by omega);have l:HS X.g X.A X.head:=by have⟨x,d,E,h2⟩:=h.sh;exact .inr (.inr (.inl ⟨h.md,x,d,E,h2⟩))
 have⟨a,b,kk,bY⟩:=t;cases kk with
 |ic=>exact absurd D g.A
 |fI s=>
  refine Cu (sp:=gI) (P:=RG 373 X) D D D ?_ ?_;exact(xy h.A h.ne h.d g.j (by omega)).mono (by omega);exact A _ g k
 |dz s=>
  refine jw g.A (sp:=gI) (P:=RG 373 X) D D ?_;show RG 373 X (xV 99 C _ X);rw[yL];grind[RG.mono,we,Vo.A,Ay,Vo.ne,Vo.d]
 |eG s q=>exact jw g.A (sp:=gI) (P:=RG 373 X) D D B
 |dZ=>exact jw g.A (sp:=gI) (P:=RG 373 X) D D (A _ g k)
 |start nm=>
  have v:mi X ⟨a,b,.start nm,bY⟩:=k.tag D;refine JA (sp:=gI) (P:=RG 373 X) D (by simp) D D ?_ ?_
  .intro p u K;simp only[nQ,nR,od]at u;rcases u with rfl|rfl|rfl|rfl|rfl
   all_goals dsimp only at K|-
   exact(Ik h.A h.ne v C (by omega) (by grind[Vo.md]) h.d.2 l).mono (by omega);exact(Ik h.A h.ne v I (by omega) (by grind[Vo.md]) h.d.2 l).mono (by omega);exact RG.mono (c:=1) ((pT h.A h.ne (by omega) _ v.tag v.d).rg h.d (λ_ q=>q.1)) (by omega);have e:=KD K;subst e;exact(Ql n a b bY h.A h.ne v.d h.d).mono (by omega);exact B
  exact A _ g k
 |stop nm=>
  refine Rc (sp:=gI) (P:=RG 373 X) D (by simp) D D ?_ ?_;intro p u K;simp only[nQ,nR,od]at u;rcases u with rfl|rfl;exact A _ g k;exact⟨g4.A,g4.d,gl,gR (lX (fJ D)) (zl _ _)⟩;exact B
structure ZY(σ:N):Prop where
 A:kV σ
 md:σ.g=2
 sh:∃h,σ.A=[H h]
theorem ZY.d(h:ZY X):MS X:=by have⟨x,h1⟩:=h.sh;exact⟨.inl (.inr (.inl ⟨h.md,x,h1⟩)),BH.low (by grind[md])⟩
theorem ZY.ne(h:ZY X):X.A≠[]:=by grind[sh]
theorem fg.ahS(h:fg r X){d:Nat}(k:fa X d aZ)(p:∀x,X.A.head?=H (H x)->r x<r d):fg r {X with head:=H d}:=
 ⟨⟨h.E.up,h.E.q,h.E.nd,h.E.g⟩,⟨h.K.E,h.K.A,by grind⟩,h.A,h.B,λl g=>by cases g;exact k,h.j,h.S,h.P,h.n,h.L,h.Q,h.u⟩
theorem Ig(h:ZY X)(own:Bool)(bY:iB)(hf:own=C->X.E=C)(hw:wt X<998000){k:M Unit}(hk:∀W,Vo W->Lm X W->W.L=X.L->wt W<=wt X+1->(own=I->W.E=X.E)->RG c W (k W)):RG (c+1) X ((p9 own bY>>=λ_=>k) X):=by
 have⟨x,ho⟩:=h.sh;have⟨r,hr⟩:=h.A;have⟨B,hB⟩:=zV r (ln X.d);have a2:x<ln X.d:=hr.k (by grind);have E:∀(l:iB)(A:Bool),(own=I->A=X.E)->lW aZ own bY X=.ok (ln X.d) (X.il (.el {name:=aZ,A:=l,E:=F,q:=[]}) A)->RG (c+1) X ((p9 own bY>>=λ_=>k) X):=by
  intro l A T d;have⟨g1,g2⟩:=hr.new aZ l A (B+1);obtain⟨σ1,g⟩:∃σ1,σ1=X.il (.el {name:=aZ,A:=l,E:=F,q:=[]}) A:=⟨_,D⟩;rw[<-g]at g1 g2 d;have K:σ1.h (ln X.d)=H {name:=aZ,A:=l,E:=F,q:=[]}:=by rw[g];exact N.ng
  have y:σ1.A=X.A:=by rw[g];rfl
  have w1:wt σ1=wt X:=by rw[g];exact Fv _ _ _
  have hh:=g1.ahS (d:=ln X.d) ⟨_,K,D⟩ (by grind[wV])
  have a:H (ln X.d)∉({σ1 with head:=H (ln X.d)}:N).A:=by show H (ln X.d)∉σ1.A;rw[y];intro n;have:=hr.k (i:=ln X.d) n;omega
  have U:=Og (X:={σ1 with head:=H (ln X.d)}) ⟨_,hh⟩ (j:=ln X.d) K D D a (by grind) (by show wt σ1<_;omega);show RG (c+1) X (((lW aZ own bY>>=λe=>oc (λX=>{X with head:=H e})>>=λ_=>j5 e>>=λ_=>iA 3>>=λ_=>(aG ():M Unit))>>=λ_=>k) X);rw[M.cW,M.cW,d];dsimp only;rw[M.cW];have o:oc (λS:N=>{S with head:=H (ln X.d)}) σ1=.ok () {σ1 with head:=H (ln X.d)}:=rfl;rw[o];dsimp only;rw[M.cW];revert U;cases j5 (ln X.d) {σ1 with head:=H (ln X.d)} with
  |ok u σ2=>
   rintro⟨t,v,w2,j⟩;dsimp only;have w:Vo {σ2 with g:=3}:=⟨t.q D D D D D D D,D,x,ln X.d,by
    show σ2.A=_;rw[j.A];grind,v.head⟩
   have a0:σ2.L=X.L:=by rw[v.L];show σ1.L=_;rw[g];rfl
   have f:Lm X {σ2 with g:=3}:=⟨v.K.trans g2.K,v.Q.trans g2.Q,v.R.trans g2.R,v.T.trans g2.T,by grind,by grind,λi s q=>v.nm i s (g2.nm i s q)⟩;have a1:wt σ2<=wt σ1+1:=w2;have m:=hk {σ2 with g:=3} w f a0 (by grind[wt]) (λb=>by show σ2.E=_;rw[j.E];show σ1.E=_;rw[g];exact T b)
   exact RG.from (c1:=c) (c2:=1) (σ1:={σ2 with g:=3}) m f (by grind) (by grind) (by grind[wt]) (dF _)
  |stop e p=>exact λh=>zk h g2.K
  |stuck=>simp[fK]
 cases own with
 |true=>
  refine E bY I (λh=>by cases h) ?_;grind[lW]
 |false=>exact E [] X.E (λ_=>D) D
theorem Zr(S:4*64+8<=n)(t:dj)(d:vS t)(h:ZY X)(g:Mz X t)(hw:wt X<996000)(f:ln X.L<4000):RG 374 X (dx I (n+3) 2 t X):=by
 have u:∀t,vS t->Mz X t->RG 374 X (uA (dx I (n+2)) t X):=by intro t d g;refine Ig (c:=373) h I [] (λh=>by cases h) (by omega) ?_;intro W B i c U E;have K:=Zs S t d B (λT=>(E D).trans (g T)) (by omega) (by grind);refine RG.tail ?_;show RG 373 W (dx I (n+2) W.g t W);rw[B.md];exact K
 have v:RG 374 X ((aG ():M Unit) X):=(qE h.A h.d).mono (by omega);have⟨a,b,kk,bY⟩:=t;cases kk with
 |ic=>exact absurd D d.A
 |fI s=>
  refine Cu (sp:=jH) (P:=RG 374 X) D D D ?_ ?_;exact v;exact u _ d g
 |dz s=>
  refine jw d.A (sp:=jH) (P:=RG 374 X) D D ?_;show RG 374 X (xV 99 C _ X);rw[yL];grind[RG.mono,we,ZY.A,Ay,ZY.ne,ZY.d]
 |eG s q=>exact jw d.A (sp:=jH) (P:=RG 374 X) D D v
 |dZ=>exact jw d.A (sp:=jH) (P:=RG 374 X) D D (u _ d g)
 |start nm=>
  refine JA (sp:=jH) (P:=RG 374 X) D (by simp) D D ?_ ?_
  .intro p l A;simp only[nQ,nR,od]at l;rcases l with rfl|rfl
   all_goals dsimp only at A|-
   refine RG.mono (c:=1) (Ig (c:=0) h C bY (λ_=>(g.tag D).d) (by omega) (k:=(aG ():M Unit)) ?_) (by omega);grind[qE,Vo.A,Vo.d];have e:=KD A;subst e;exact(Ql (n+1) a b bY h.A h.ne (g.tag D).d h.d).mono (by omega)
  exact u _ d g
 |stop nm=>
  refine Rc (sp:=jH) (P:=RG 374 X) D (by simp) D D ?_ ?_;intro p l A;simp only[nQ,nR,od]at l;subst l;exact u _ d g;exact v
structure XV(σ:N):Prop where
 A:kV σ
 md:σ.g<=1
 op:σ.A=[]
 B:σ.head=F
theorem XV.d(h:XV X):MS X:=⟨.inl (.inl ⟨h.md,h.op,h.B⟩),BH.low (by grind[md])⟩
theorem Ie(h:XV X)(own:Bool)(bY:iB)(hf:own=C->X.E=C)(hw:wt X<998000){k:M Unit}(hk:∀W,ZY W->Lm X W->W.L=X.L->wt W<=wt X+1->(own=I->W.E=X.E)->RG c W (k W)):RG (c+1) X ((p6 own bY>>=λ_=>k) X):=by
 have⟨r,hr⟩:=h.A;have⟨B,hB⟩:=zV r (ln X.d);have⟨e0,he0⟩:=dh.1 hr.u;have v:=N.n he0;have p:∀(g:iB)(l:Bool),(own=I->l=X.E)->lW aC own bY X=.ok (ln X.d) (X.il (.el {name:=aC,A:=g,E:=F,q:=[]}) l)->RG (c+1) X ((p6 own bY>>=λ_=>k) X):=by
  intro g l A S;have⟨g1,g2⟩:=hr.new aC g l (B+1);obtain⟨σ1,d⟩:∃σ1,σ1=X.il (.el {name:=aC,A:=g,E:=F,q:=[]}) l:=⟨_,D⟩;rw[<-d]at g1 g2 S;have u:σ1.h (ln X.d)=H {name:=aC,A:=g,E:=F,q:=[]}:=by rw[d];exact N.ng
  have q:σ1.h 0=H e0:=by rw[d];show(X.add _).h 0=_;rw[N.oj v];exact he0
  have w1:wt σ1=wt X:=by rw[d];exact Fv _ _ _
  have i:σ1.A=[]:=by rw[d];exact h.op
  have b:Cv σ1=.ok (0,ln e0.q) σ1:=by unfold Cv fM;rw[q]
  have⟨σ2,q1,q2,q3,q4,q5,q6,q7,q8,q9,q10⟩:=g1.put (pl:=(0,ln e0.q)) ⟨e0,q,dF _⟩ u D (by grind[wV]) (by omega)
  have⟨e2,he2,hn2,_⟩:=q9 _ _ u;show RG (c+1) X (((lW aC own bY>>=λe=>Cv>>=λpl=>jz pl e>>=λ_=>nK (H e)>>=λ_=>iA 2>>=λ_=>(aG ():M Unit))>>=λ_=>k) X);rw[M.cW,M.cW,S];dsimp only;rw[M.cW,b];dsimp only;rw[M.cW,q1];dsimp only;rw[M.cW];have j:σ2.A=[]:=q5.trans i;have a0:=g2.trans q3;unfold nK;by_cases T:σ2.Q<=ln σ2.A;rw[dw T];exact a0.K;rw[di T,dw (show σ2.lj (H (ln X.d))=C by grind[N.lj])];dsimp only;have⟨p1,p2⟩:=q2.push he2 (by grind) (by omega) (.inr ⟨hn2,by rw[a0.head];exact h.B⟩);have K:σ2.L=X.L:=a0.L;have f:ZY {({σ2 with A:=σ2.A++[H (ln X.d)]}:N)with g:=2}:=⟨kV.q ⟨_,p1⟩ D D D D D D D,D,ln X.d,by grind⟩;have U:Lm X {({σ2 with A:=σ2.A++[H (ln X.d)]}:N)with g:=2}:=⟨a0.K,a0.Q,a0.R,a0.T,by grind,by grind,a0.nm⟩;have a:=hk _ f U K (by grind[wt]) (λE=>by show σ2.E=_;rw[q7,d];exact A E)
  exact RG.from (c1:=c) (c2:=1) a U (by grind) (by grind) (by grind[wt]) (dF _)
 cases own with
 |true=>
  refine p bY I (λh=>by cases h) ?_;grind[lW]
 |false=>exact p [] X.E (λ_=>D) D
theorem Zq(B:4*64+8<=n)(t:dj)(d:vS t)(h:XV X)(g:Mz X t)(hw:wt X<995000)(S:ln X.L<4000):RG 375 X (dx I (n+4) 1 t X):=by
 have l:∀t,vS t->Mz X t->RG 375 X (uz (dx I (n+3)) t X):=by intro t d g;refine Ie (c:=374) h I [] (λh=>by cases h) (by omega) ?_;intro W v T c U A;refine RG.tail ?_;show RG 374 W (dx I (n+3) W.g t W);rw[v.md];exact(Zr B t d v (λK=>(A D).trans (g K)) (by omega) (by grind))
 have u:RG 375 X ((aG ():M Unit) X):=(qE h.A h.d).mono (by omega);have⟨a,b,kk,bY⟩:=t;cases kk with
 |ic=>exact absurd D d.A
 |fI s=>
  refine Cu (sp:=mN) D D D (u) (l _ d g)
 |dz s=>
  refine jw d.A (sp:=mN) D D ?_;show RG 375 X (xV 93 I _ X);rw[SA];grind[RG.mono,we,XV.A,PY,XV.d]
 |eG s q=>exact jw d.A D D u
 |dZ=>exact jw d.A (sp:=mN) D D (l _ d g)
 |start nm=>
  refine JA D (by simp) D D ?_ (l _ d g);intro p k E;simp at k;subst k;refine RG.mono (c:=1) (Ie (c:=0) h C bY (λ_=>(g.tag D).d) (by omega) ?_) (by omega);grind[qE,ZY.A,ZY.d]
 |stop nm=>
  refine Rc D (by simp) D D ?_ (u);intro p k E;simp at k;subst k;exact l _ d g
def wF:kR:={blank:=.eW,dz:=.dz 93 I,eG:=.dX 94,l:=.dX 95}
def XV.q(h:XV X)(q:Bool):XV {X with W:=q,g:=1}:=⟨h.A.q D D D D D D D,dF _,h.op,h.B⟩
theorem ahP(K:4*64+8<=n)(t:dj)(d:vS t)(h:XV X)(k:Mz X t)(hw:wt X<995000)(v:ln X.L<4000):RG 376 X (dx I (n+5) 0 t X):=by
 have l:∀t,vS t->Mz X t->RG 376 X (ly (dx I (n+4)) t X):=by intro t d k;exact RG.from (c1:=375) (c2:=0) (RG.tail (Zq K t d (h.q C) (λS=>k S) hw v)) ⟨D,D,D,D,jR _,λ_ h=> .inl h,λ_ _ h=>h⟩ (dF _) (λ_ h=>h) (lX (fJ D)) (by omega)
 have⟨a,b,kk,bY⟩:=t;cases kk with
 |ic=>exact absurd D d.A
 |fI s=>
  refine Cu (sp:=wF) D D D ?_ ?_;exact((qE h.A h.d).mono (by omega));exact l _ d k
 |dz s=>
  refine jw d.A (sp:=wF) D D ?_;show RG 376 X (xV 93 I _ X);rw[SA];grind[RG.mono,we,XV.A,PY,XV.d]
 |eG s q=>
  have⟨pl,h1,h2⟩:=PY h.A;have B:=Gm h.A h2 (.dt s) .dt (.inr ⟨s,D,D⟩) (by omega);show RG 376 X ((fM 0>>=λpl=>kZ pl (.dt s) .dt>>=λ_=>(do oc _;iA 1;return ():M Unit)) X);rw[M.cW,h1];dsimp only;rw[M.cW];revert B;cases kZ pl (.dt s) .dt X with
  |ok u σ1=>
   rintro⟨T,g,W,U⟩;have E:XV σ1:=⟨T,by rw[g.g];exact h.md,by rw[U.A];exact h.op,by rw[g.head];exact h.B⟩;have A:=E.q (q||!fG s aC);exact⟨A.A,A.d,⟨g.K,g.Q,g.R,g.T,by grind[Fx.L],by grind[Fx.L],g.nm⟩,by grind[wt]⟩
  |stop c p=>exact λh=>h
  |stuck=>simp[fK]
 |dZ=>exact jw d.A (sp:=wF) D D (l _ d k)
 |start nm=>exact jw d.A (sp:=wF) D D (l _ d k)
 |stop nm=>exact jw d.A (sp:=wF) D D (l _ d k)
theorem VK(K:4*64+8<=n)(t:dj)(q:vS t)(l:kV X)(B:HS X.g X.A X.head)(v:BH X)(p:Mz X t)(hw:wt X<995000)(k:ln X.L<4000):RG 380 X (dx I (n+5) X.g t X):=by
 rcases B with⟨d,g,u⟩|⟨d,g⟩|⟨d,g⟩|⟨d,g⟩|⟨d,g⟩;have E:XV X:=⟨l,d,g,u⟩;rcases qp X.g 1 with A|A;grind[RG.mono,ahP];have e:X.g=1:=by omega
 grind[RG.mono,Zq];rw[d];exact(Zr (by omega) t q ⟨l,d,g⟩ p (by omega) k).mono (by omega);rw[d];exact(Zs (by omega) t q ⟨l,d,g⟩ p (by omega) k).mono (by omega);rw[d];exact(Zt (by omega) t q ⟨l,d,g⟩ p (by omega) k).mono (by omega);exact((JH 64 (n+5) (by omega) t X ⟨q,⟨l,g,d⟩,p,by omega,k,(by have⟨r,hr⟩:=l;exact gR hr.P hr.L)⟩).rg (v (.inl (DP d)))).mono (by omega)
theorem ahQ(U:4*64+8<=n)(t:dj)(d:vS t)(p:kV X)(E:X.g=5)(T:3<=X.kept)(B:2<=ln X.A)(u:HS X.kept X.A.dropLast X.head)(A:BH X)(W:Mz X t)(hw:wt X<995000)(v:ln X.L<4000):RG 380 X (dx I (n+6) 5 t X):=by
 have k:MS X:=⟨.inr (.inl ⟨E,T,B,u⟩),A⟩;have g:=λq=>(A (.inr ⟨E,by have q:6<=X.kept\/X.kept=5/\6<=X.kept:=q;omega⟩)).of λ_ _ h=>h;have⟨g1,g2⟩:=Ge p B;have K:kV {X.pop with g:=X.kept}:=g1.q D D D D D D D;have S:Lm X {X.pop with g:=X.kept}:=⟨D,D,D,D,jR _,λ_ h=> .inl h,λ_ _ h=>h⟩;have l:RG 380 X (xh X):=⟨K,⟨.inl u,g⟩,S,gR (lX (fJ D)) (zl _ _)⟩;have⟨a,b,kk,bY⟩:=t;cases kk with
 |ic=>exact absurd D d.A
 |fI s=>
  refine Cu D D D ((xy p (by grind) k d.j (by omega)).mono (by omega)) ((xy p (by grind) k d.j (by omega)).mono (by omega))
 |dz s=>exact jw d.A D D l
 |eG s q=>exact jw d.A D D l
 |start nm=>exact jw d.A D D l
 |stop nm=>exact jw d.A D D l
 |dZ=>
  exact RG.from (c2:=0) (RG.tail (VK U _ d K u g (λh=>by cases h) hw v)) S (dF _) (λ_ h=>h) (lX (fJ D)) (by omega)
def RQ(c:Nat)(X:N)(r:pj Unit):Prop:=match r with
 | .ok _ W=>kV W/\W.A≠[]/\W.g=X.g/\W.kept=X.kept/\W.K=X.K/\W.Q=X.Q/\W.R=X.R/\W.T=X.T/\W.E=X.E/\wt W<=wt X+c/\∀i s,fa X i s->fa W i s
 | .stop _ p=>p=X.K
 | .stuck=>False
theorem RQ.bind{m k:M Unit}(h:RQ c1 X (m X))(B:∀W,kV W->W.A≠[]->wt W<=wt X+c1->RQ c2 W (k W))(f:c1+c2<=c):RQ c X ((m>>=λ_=>k) X):=by
 rw[M.cW];revert h;cases m X with
 |ok u σ1=>
  rintro⟨g,q,E,K,S,T,U,b,a,d,l⟩;have A:=B σ1 g q d;dsimp only;revert A;cases k σ1 with
  |ok v σ2=>
   grind[RQ]
  |stop e p=>grind[RQ]
  |stuck=>simp[RQ]
 |stop e p=>simp[RQ]
 |stuck=>simp[RQ]
def fK.p{r:pj Unit}(h:fK c X r Q)(d:X.A≠[])(g:∀W,Q () W->W.E=X.E):RQ c X r:=by
 cases r with
 |ok a W=>
  have⟨h1,f,h3,h4⟩:=h;exact⟨h1,f.ne d,f.g,f.kept,f.K,f.Q,f.R,f.T,g W h4,h3,f.nm⟩
 |stop e p=>exact h
 |stuck=>exact h
theorem JX(h:kV X)(d:X.A≠[])(g:t.d.size<=100)(hw:wt X<999000):fK 200 X (jL t X) (λ_ W=>W.E=X.E):=by unfold jL;split;exact⟨h,Fx.refl _,zl _ _,D⟩;refine fK.bind (mq h d (by omega)) (c2:=101) ?_ (by omega);grind[fK.d,fK.mono,nC,Fx.ne,Rest.E]
def MW(h:kV X)(g:X.A≠[])(x:Nat×Nat×O)(l:x.2.2.size<=100)(hw:wt X<999000):RQ 200 X (pQ (dx C (n+1)) (nX x) X):=by
 have e:dx C _ 6 (nX x)=jL _:=eJ C n 6 _ (by simp[nX]) _ D (.dX 114) (by unfold nX eI;dsimp only;split<;>rfl)
 have k:=JX (X:={X with U:=C}) (t:=nX x) (h.q D D D D D D D) g l hw;show RQ 200 X ((dx C _ 6 _>>=λ_=>oc _>>=λ_=>(aG ())) _);rw[e,M.cW];revert k;cases jL _ _ with
 |ok u σ1=>
  rintro⟨q,d,A,v⟩;exact⟨q.q D D D D D D D,d.ne g,d.g,d.kept,d.K,d.Q,d.R,d.T,v,A,d.nm⟩
 |stop c p=>exact λh=>h
 |stuck=>simp[fK]
theorem Eh:∀(xs:List (Nat×Nat×O)){X:N},kV X->X.A≠[]->(∀x∈xs,x.2.2.size<=100)->wt X+200*ln xs<999000->RQ (200*ln xs) X (tL (dx C (n+1)) xs X)
 |[],X,h,hne,_,_=>⟨h,hne,D,D,D,D,D,D,D,zl _ _,by grind⟩
 |x::xs,X,h,hne,P,hw=>by simp at hw;refine RQ.bind (MW h hne x (P x (js ..)) (by omega)) (c2:=200*ln xs) ?_ (by grind);intro W d k U;exact Eh xs d k (λy g=>P y (gS _ g)) (by omega)
theorem Ep:∀(xs:List (Nat×Nat×O)){X:N},kV X->X.A≠[]->(∀x∈xs,x.2.2.size<=100)->wt X+200*ln xs<999000->RQ (200*ln xs) X (qA xs X)
 |[],X,h,hne,_,_=>⟨h,hne,D,D,D,D,D,D,D,zl _ _,by grind⟩
 |x::xs,X,h,hne,P,hw=>by simp at hw;have l:(nX x).d.size<=100:=P x (js ..);refine RQ.bind (((nC h hne (nX x) (by omega)).mono (c':=200) (by omega) (λ_ _ _ _ h=>h)).p hne (λ_ q=>q.E)) (c2:=200*ln xs) ?_ (by grind);intro W d k U;exact Ep xs d k (λy g=>P y (gS _ g)) (by omega)
theorem BI(h:kV X)(d:X.A≠[])(g:∀x∈X.L,x.2.2.size<=100)(hw:wt X+200*ln X.L<999000):RQ (200*ln X.L) X (og (dx C (n+1)) X):=by grind[Ep,Eh,og]
def BA(X:N):Nat:=wt X+200*ln X.L
structure uU(σ:N):Prop where
 A:kV σ
 d:MS σ
 E:∀x∈σ.L,x.2.2.size<=100
def RT(c:Nat)(X:N)(r:pj Unit):Prop:=match r with
 | .ok _ W=>uU W/\W.K=X.K/\W.Q=X.Q/\W.R=X.R/\W.T=X.T/\(ln W.L)<=ln X.L+1/\BA W<=BA X+c/\∀i s,fa X i s->fa W i s
 | .stop _ p=>p=X.K
 | .stuck=>False
def RG.rt{r:pj Unit}(h:RG c X r)(g:∀x∈X.L,x.2.2.size<=100):RT (c+200) X r:=by
 cases r with
 |ok a W=>
  have⟨h1,h2,h3,h4⟩:=h;refine⟨⟨h1,h2,λx d=>(h3.E x d).elim (g x) id⟩,h3.K,h3.Q,h3.R,h3.T,h3.A,?_,h3.nm⟩;unfold BA;have:=h3.A;omega
 |stop e p=>exact h
 |stuck=>exact h
theorem ahR(G:4*64+8<=n)(t:dj)(d:vS t)(g:uU X)(F:X.g=8)(U:X.kept=7\/X.kept=11\/X.kept=12)(S:X.A≠[])(l:Mz X t)(hw:BA X<990000)(J:ln X.L<4000):RT 580 X (dx I (n+6) 8 t X):=by
 have K:MS X:=g.d;have B:∀t,vS t->Mz X t->RT 580 X (kA (dx C (n+5)) (dx I (n+5)) t X):=by
  intro t d l;have h1:=BI (n:=n+4) g.A S g.E (by grind[BA]);unfold kA;rw[M.cW];revert h1;cases og (dx C (n+4+1)) X with
  |ok u σ1=>
   rintro⟨W,a2,a3,j,T,m,o,r,w,f,E⟩;dsimp only;have H:kV {σ1 with L:=[],g:=σ1.kept}:=W.q D D D D D D D;have hb:pz σ1.kept=C:=by rw[j];rcases U with e|e|e<;>(rw[e];rfl)
   have y:=VK G t d (X:={σ1 with L:=[],g:=σ1.kept}) H (.inr (.inr (.inr (.inr ⟨hb,a2⟩)))) (λ_=>(K.2 (.inl (by omega))).of E) (λP=>w.trans (l P)) (by show wt σ1<_;grind[BA]) (by simp);have h3:=RG.tail y;show RT 580 X ((jg (dx I (n+5)) t>>=λ_=>(aG ():M Unit)) {σ1 with L:=[],g:=σ1.kept});have z:RG 380 {σ1 with L:=[],g:=σ1.kept} ((jg (dx I (n+5)) t>>=λ_=>(aG ():M Unit)) {σ1 with L:=[],g:=σ1.kept}):=h3;revert z;cases(jg (dx I (n+5)) t>>=λ_=>(aG ():M Unit)) {σ1 with L:=[],g:=σ1.kept} with
   |ok v σ2=>
    rintro⟨b1,b2,k,b4⟩;have hl:ln σ2.L<=0+1:=k.A;refine⟨⟨b1,b2,λx A=>(k.E x A).elim (λh=>by cases h) id⟩,k.K.trans T,k.Q.trans m,k.R.trans o,k.T.trans r,by omega,?_,λi s q=>k.nm i s (E i s q)⟩;have a0:wt σ2<=wt σ1+380:=b4;grind[BA]
   |stop c p=>exact λh=>zk h T
   |stuck=>simp[RG]
  |stop c p=>exact λh=>h
  |stuck=>simp[RQ]
 have⟨a,b,kk,bY⟩:=t;cases kk with
 |ic=>exact absurd D d.A
 |fI s=>
  have KC:RT 580 X (j8 ⟨a,b,.fI s,bY⟩ X):=by
   rw[Ey (by omega)];cases kN s with
   |true=>grind[RT]
   |false=>
    refine⟨⟨g.A.q D D D D D D D,⟨.inr (.inr ⟨F,U,S⟩),K.2⟩,?_⟩,D,D,D,D,by simp,?_,λ_ _ h=>h⟩;intro x A;rcases dA.1 (show x∈X.L++[(a,b,s)]from A)with A|A;grind[uU.E];rw[cC.1 A];exact d.j;show wt X+200*ln (X.L++[(a,b,s)])<=_;grind[BA]
  exact Cu (sp:=iy) (P:=RT 580 X) D D D KC KC
 |dz s=>exact jw d.A (sp:=iy) (P:=RT 580 X) D D (B _ d l)
 |eG s q=>exact jw d.A (sp:=iy) (P:=RT 580 X) D D (B _ d l)
 |start nm=>exact jw d.A (sp:=iy) (P:=RT 580 X) D D (B _ d l)
 |stop nm=>exact jw d.A (sp:=iy) (P:=RT 580 X) D D (B _ d l)
 |dZ=>exact jw d.A (sp:=iy) (P:=RT 580 X) D D (B _ d l)
abbrev sL:Nat:=300
theorem ajA(t:dj)(u:vS t)(g:uU X)(q:Mz X t)(hw:BA X<990000)(d:ln X.L<4000):RT 580 X (dx I sL X.g t X):=by
 have A:wt X<990000:=by unfold BA at hw;omega
 rcases g.d.1 with h|⟨k,l,p,v⟩|⟨k,l,p⟩;exact(VK (by omega) t u g.A h g.d.2 q (by omega) d).rt g.E;rw[k];exact(ahQ (by omega) t u g.A k l p v g.d.2 q (by omega) d).rt g.E;grind[ahR]
def Q0(X:N)(t:dj)(r:pj Unit):Prop:=match r with
 | .ok _ W=>uU W/\W.Q=X.Q/\W.R=X.R/\W.T=X.T/\(ln W.L)<=ln X.L+1/\BA W<=BA X+580/\∀i s,fa X i s->fa W i s
 | .stop _ p=>p=t.a
 | .stuck=>False
theorem Zz(t:dj)(tg:t.k=.ic\/vS t)(g:uU X)(T:Mz X t)(hw:BA X<990000)(d:ln X.L<4000):Q0 X t (nW (dx I sL) t X):=by
 have e:t.k≠ .ic->Q0 X t ((if X.P&&fG t.d AW then .ok () {X with P:=I,K:=t.a} else jg (dx I sL) t {X with P:=I,K:=t.a})):=by
  intro U;have k:uU {X with P:=I,K:=t.a}:=⟨g.A.q D D D D D D D,g.d,g.E⟩;split;exact⟨k,D,D,D,jR _,zl _ _,λ_ _ h=>h⟩
  .have h:=ajA t (tg.resolve_left U) k (λf=>T f) hw d;show Q0 X t (dx I sL X.g t _);revert h;cases dx I sL _ t _ with
   |ok u W=>rintro⟨l,a2,v,A,B,E,K,S⟩;exact⟨l,v,A,B,E,K,S⟩
   |stop c p=>exact λh=>h
   |stuck=>simp[RT]
 have⟨a,b,kk,bY⟩:=t;cases kk with
 |ic=>exact⟨g,D,D,D,jR _,zl _ _,λ_ _ h=>h⟩
 |fI s=>grind[nW]
 |dz s=>grind[nW]
 |eG s q=>grind[nW]
 |start nm=>grind[nW]
 |stop nm=>grind[nW]
 |dZ=>grind[nW]
theorem OP(d g:List UInt8):∀(k:Nat)(s:List UInt8),ln (fu d g k s)<=ln s+k*ln g
 |0,s=>by simp[fu]
 |k+1,s=>by rw[fu];split;omega;have h:=OP d g k (s.drop ((Lib.index s d).toNat+ln d));grind
theorem ww(s:O):(jG s).size<=4*s.size+3:=by have e2:(jG s).size=ln (eB _ (eL #[0]).data.toList (eL #[239,191,189]).data.toList):=rfl;rw[(o8 s),e2];unfold eB Lib.replace;split;omega;have d:=OP (eL #[0]).data.toList (eL #[239,191,189]).data.toList (hU s.data.toList (eL #[0]).data.toList (-1)) s.data.toList;have g:hU s.data.toList (eL #[0]).data.toList (-1)=Lib.count _ _:=rfl;grind[Lib.count_le]
def Z6:DK->Prop
 | .DD t=>t.size<=100
 | .Q4 _ L=> ln L<=1024/\∀p∈L,p.2.size<=1048576
 | .fin _ L=> ln L<=1024/\∀p∈L,p.2.size<=1048576
 |_=>True
def zQ(R:RC)(a:Nat):zG->Prop
 | .stop=>True
 | .tok kd m=>a<m/\m<=R.A.size/\1<=sP kd/\(sP kd≠1->m=R.A.size\/bt R.A (m-1)=62)/\Z6 kd
theorem SW(h:pre (R.A.extract K R.A.size) eV=C):bt R.A K=62:=by have:=FE (j:=0) h (by decide);exact this.trans D
theorem WF(h:K<=R.A.size):pC R K=R.A.size\/(K<pC R K/\bt R.A (pC R K-1)=62):=by
 unfold pC fZ;split;rename_i p;right;have E:K<=gZ (fw eV) R.A K:=rI;have e:(eL #[62]).size=1:=rfl;grind[SW];rename_i p;left;rcases qp (gZ (fw eV) R.A K) R.A.size with g|v;exfalso;apply p;have u:=adL (bt_nonneg _ _) (bt_le _ _) (Zo g);have B:(R.A.extract (gZ (fw eV) R.A K) R.A.size).size=R.A.size-gZ (fw eV) R.A K:=by simp
 generalize gZ (fw eV) R.A K=i at *;unfold pre;have k:(eL #[62]).size=1:=rfl;rw[k];have q:bt ((R.A.extract i R.A.size).extract 0 1) 0=62:=by rw[VR (by omega) (by omega),Nat.zero_add];rw[VR (by omega) (dF _),Nat.add_zero];exact u
 have d:((R.A.extract i R.A.size).extract 0 1).size=1:=by simp;omega
 rw[B];have a:(R.A.extract i R.A.size).extract 0 1=eV:=by
  generalize (R.A.extract i R.A.size).extract 0 1=X at q d;have⟨⟨l⟩⟩:=X
  match l,d with
  |[x],_=>
   have:(x.toNat:Int)=62:=q;have A:x=62:=by apply UInt8.toNat_inj.1;show x.toNat=62;omega
   rw[A]
 grind;grind[oB]
theorem Rv(h:IM look)(p:R.A.size<=1024)(K:Nat):(nk look lg R K).size<=1048576:=by unfold nk;split;have d:=ww ⟨(ql look lg (lH R (ld R (ld R K+1)))).toArray⟩;have g:=AJ (lg:=lg) h (lH R (ld R (ld R K+1)));have k:=Di (R:=R) (K:=ld R (ld R K+1));have l:(eL (ql look lg _).toArray).size=ln (ql look lg (lH R (ld R (ld R K+1)))):=rfl;omega;decide
theorem Ny(h:IM look)(g:R.A.size<=1024)(d:∀p∈L,p.2.size<=1048576):∀p∈oI R look lg L K,p.2.size<=1048576:=by grind[Rv,oI,qP]
theorem UV(l:IM look)(q:R.A.size<=1024):∀(n:Nat){L:iB} {K m:Nat} {g:iB},R.A.size-K<=n->gQ R look lg L K=.whole m g->ln L<=K->(∀p∈L,p.2.size<=1048576)->K<m/\m<=R.A.size/\bt R.A (m-1)=62/\(ln g)<=m/\∀p∈g,p.2.size<=1048576:=by
 intro n
 induction n with
 |zero=>
  grind[pc,gQ]
 |succ n ih=>
  intro L K m g a d E k;have u:=pc (R:=R) (K:=K);rw[gQ]at d;split at d;split at d;grind[SW];split at d;cases d;have v:=rR (R:=R) (K:=dY R K);have A:=vL (R:=R) (K:=fU R (dY R K));have B:=IF (R:=R) (look:=look) (lg:=lg) (L:=L) (K:=dY R K);have:=ih (by omega) d (by omega) (Ny l q k);grind;grind
theorem UW(k:IM look)(q:R.A.size<=1024){d:O->iB->DK}(g:bg<R.A.size)(v:bg<K)(l:∀L,1<=sP (d nm L)/\(ln L<=1024->(∀p∈L,p.2.size<=1048576)->Z6 (d nm L))):zQ R bg (qT R d nm (gQ R look lg [] (vw R K))):=by
 have u:K<=vw R K:=rI;cases h:gQ R look lg [] _ with
 |stop=>trivial
 |ic=>exact⟨g,dF _,by decide,by grind,trivial⟩
 |whole m L=>
  have:=UV k q _ (dF _) h (eZ _) (by simp);grind[zQ,qT]
theorem afe(g:IM look)(l:R.A.size<=1024)(nm:O)(d:bg<R.A.size)(k:bg<K):zQ R bg (qT R .Q4 nm (gQ R look lg [] (vw R K))):=UW g l d k (λL=>⟨(by decide:1<=2),λa b=>⟨a,b⟩⟩)
theorem adu(g:IM look)(l:R.A.size<=1024)(nm:O)(d:bg<R.A.size)(k:bg<K):zQ R bg (qT R .fin nm (gQ R look lg [] (vw R K))):=UW g l d k (λL=>⟨(by decide:1<=3),λa b=>⟨a,b⟩⟩)
theorem FF(d:IM look)(l:bg<R.A.size):zQ R bg (mZ R look lg bg):=by
 have g:=DT (look:=look) (lg:=lg) (s:=R.A.extract bg R.A.size);have k:=Hd (look:=look) (lg:=lg) (s:=R.A.extract bg R.A.size) (by simp;omega);have p:(R.A.extract bg R.A.size).size=R.A.size-bg:=by simp
 exact⟨by omega,by omega,dF _,λh=>absurd D h,gR (vY d) (by decide)⟩
theorem afz(l:IM look)(k:bg<R.A.size):zQ R bg (mO R look lg bg):=by
 have d:=DT (look:=look) (lg:=lg) (s:=R.A.extract bg R.A.size);have g:=Hd (look:=look) (lg:=lg) (s:=R.A.extract bg R.A.size) (by simp;omega);have p:(R.A.extract bg R.A.size).size=R.A.size-bg:=by simp
 unfold mO;split;refine⟨by omega,by omega,dF _,λh=>absurd D h,?_⟩;grind[ww,ev,Z6];refine⟨by omega,by omega,dF _,λh=>absurd D h,?_⟩;grind[ww,vY,Z6]
theorem yS{k:DK}(q:bg<K)(l:K<=R.A.size)(g:1<=sP k)(d:Z6 k):zQ R bg (.tok k (pC R K)):=by have p:K<=pC R K:=gR rI U0;refine⟨by omega,Kz l,g,λ_=>?_,d⟩;grind[WF]
theorem Xy(l:IM look)(p:R.A.size<=1024)(k:bg<R.A.size)(g:bg<K)(d:K<=R.A.size):zQ R bg (jr R look lg bg K):=by unfold jr;split;grind[adu];split;rename_i h;have:=jO h d;exact⟨by omega,this,by decide,λ_=> .inr (by grind[SW]),trivial⟩;split;grind[FF];exact yS g d (show 1<=4 by decide) trivial
theorem aa3(l:IM look)(q:R.A.size<=1024)(k:bg<R.A.size)(p:bg<K)(d:K<=R.A.size):zQ R bg (j7 R look lg bg K):=by
 unfold j7;split;grind[afe];split;rename_i h;exact Xy l q k (by omega) (jO h d);split;rename_i h;have g:K+3<=R.A.size:=jO h d;have u:(K+3)<=kh R (K+3):=by grind[agy,kh]
 refine⟨by omega,NP g,(show 1<=4 by decide),λ_=>?_,trivial⟩;grind[Sz];split;rename_i h;have:(K+8)<=D6 R (K+8):=gR rI rI;exact yS (by omega) (Ke (TC h d)) (show 1<=5 by decide) trivial;split;rename_i h;exact yS (by omega) (jO h d) (show 1<=4 by decide) trivial;split;exact yS p d (show 1<=4 by decide) trivial;grind[FF]
def Lc(k:IM look)(p:R.A.size<=1024)(l:K<R.A.size):zQ R K (eA R look lg K)/\(∀g m,eA R look lg K=.tok g m->sP g≠1->bt R.A K=60):=by unfold eA;rw[di (by omega)];split;split;rename_i h;refine⟨aa3 (R:=pJ R K) k p l (by omega) (jO h (by omega)),λ_ _ _ _=>?_⟩;have:=FE (j:=0) h (by decide);rw[Nat.add_zero]at this;exact this.trans D;refine⟨FF (R:=pJ R K) k l,λg m h d=>?_⟩;unfold mZ at h;obtain⟨rfl,_⟩:=zG.tok.inj h;exact absurd D d;refine⟨afz (R:=pJ R K) k l,λg m h d=>?_⟩;unfold mO at h;split at h;obtain⟨rfl,_⟩:=zG.tok.inj h;exact absurd D d;obtain⟨rfl,_⟩:=zG.tok.inj h;exact absurd D d
def TV:eA R look lg R.A.size=.tok .Mw R.A.size:=by simp[eA]
theorem Z6.tok{k:DK}(h:Z6 k)(a b:Nat):(iX a b k).k=.ic\/vS (iX a b k):=by
 cases k with
 |ic=>simp[iX]
 |DD t=>exact .inr ⟨h,D,by simp[iX]⟩
 |Q4 nm L=>exact .inr ⟨(by decide:(0)<=100),by exact dm.2 (λp d=>sx (h.2 p d)),by simp[iX]⟩
 |fin nm L=>exact .inr ⟨(by decide:(0)<=100),by exact dm.2 (λp d=>sx (h.2 p d)),by simp[iX]⟩
 |Mw=>exact .inr ⟨(by decide:(0)<=100),D,by simp[iX]⟩
 |Sy t=>exact .inr ⟨(by decide:(0)<=100),D,by simp[iX]⟩
 |dtp n q=>exact .inr ⟨(by decide:(0)<=100),D,by simp[iX]⟩
theorem Z6.len{k:DK}(h:Z6 k)(a b:Nat):ln (iX a b k).A<=1024:=by
 cases k with
 |Q4 nm L=>exact h.1
 |fin nm L=>exact h.1
 |_=>simp[iX]
end
end Go.Proofs.YtcalkelgoekpfaaGreatDoor
