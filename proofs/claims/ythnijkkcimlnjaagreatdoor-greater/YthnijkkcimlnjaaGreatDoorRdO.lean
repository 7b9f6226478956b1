import Derived.Test.YthnijkkcimlnjaaGreatDoorHoB
import Derived.RegionDies
set_option linter.unusedSimpArgs false
set_option linter.unusedVariables false
set_option linter.defProp false
set_option maxHeartbeats 0
set_option maxRecDepth 100000
namespace Go.Proofs.YthnijkkcimlnjaaGreatDoor
open Go.RowKit Go.PlainAid Tryz
def Lg:=@Array.length_toList
def yA:=@Array.eq_empty_of_size_eq_zero
def wJ:=@Lib.run_neq_ptr_same
def XE:=@Lib.size_eq
def QG:=@Nat.le_mul_of_pos_left
def XF:=@List.flatMap_cons
def QH:=@List.flatMap_nil
def Ae:=@List.nodup_nil
section
variable {A B W w w' wl:J}{C c:fN}{H:Nat->List O}{L:iD}{P:N->Prop}{R:RC}{S X:List Nat}{U x y:eG}{a b bB bg bm bs cap d f g i j l lg n ps r sz:Nat}{cut:Nat->Nat}{ej:sZ}{inV:Bool}{ks:List Nd}{l1 l2:List O}{look:O->Option O}{o:gZ}{p:Option O}{pl:Nat×Nat}{q:O->Bool}{s:O}{t:cR}{v:cY}{vv:cY×Bool}{xs:List cY}{σ σ':N}
def quoted(R:RC)(q:O)(ps:Nat):Nat:=taken R q (scan (fp q) R.cs (ps+1))
def qu(R:RC)(ps:Nat):Nat:=
 if pre (R.cs.extract ps R.cs.size) nc=true then quoted R nc ps else if pre (R.cs.extract ps R.cs.size) qS=true then quoted R qS ps else scan (fp jK) R.cs ps
def NW{q:O}(h:ps<R.cs.size):quoted R q ps<=R.cs.size:=Ux (nF (by omega))
theorem NV{q:O}:ps<=quoted R q ps:=fK (by omega) (fK (qf) Uw)
def PU{p:O}(h:pre (s.extract ps s.size) p=true)(e:ps<=s.size)(k:0<p.size):ps<s.size:=by
 have:=jp h e;omega
theorem aaZ(h:ps<=R.cs.size):qu R ps<=R.cs.size:=by
 unfold qu;split;rename_i e;exact NW (PU e h (by decide));split;rename_i e;exact NW (PU e h (by decide));grind[nF]
theorem aaY:ps<=qu R ps:=by
 grind[qf,NV,qu]
def kI(R:RC)(ps:Nat):O:=
 if pre (R.cs.extract ps R.cs.size) nc=true then R.cs.extract (ps+1) (scan (fp nc) R.cs (ps+1))else if pre (R.cs.extract ps R.cs.size) qS=true then R.cs.extract (ps+1) (scan (fp qS) R.cs (ps+1))else R.cs.extract ps (scan (fp jK) R.cs ps)
theorem BR:(kI R ps).size<=R.cs.size:=by
 grind[ByteArray.size_extract,kI]
def Kl(r:Nat)(R:RC)(bg ps:Nat)(q:O)(T:q.size=1)(w w1:J)(Q:Z [r] w w1)(h:Rd w1 r R bg (ps+1))(F:ps+1<=R.cs.size)(hs:R.cs.size<=1024):
  Calls prog 252 #[cW r,.func (.func 254) #[] #[cW w1.heap.size]] (w1.alloc (.cells #[Y q] 9))
   λe D=>e=dw (Y (R.cs.extract (ps+1) (scan (fp q) R.cs (ps+1))))/\
    Calls prog 85 #[cW r,Y q] D λe E=>(∃b,e=dw (.bool b))/\Z [r] w E/\Rd E r R bg (quoted R q ps):=by
 refine(yx r R bg _ q w1 h F hs).mono ?_;rintro e D⟨I,k,u⟩;refine⟨I,((js r R bg _ q D u (nF F) hs (by omega)).mono ?_)⟩;rintro e E⟨K,m,z⟩;exact⟨⟨_,K⟩,(Q.trans k).trans m,z⟩
theorem PZ(r:Nat)(R:RC)(bg ps:Nat)(w:J)(h:Rd w r R bg ps)(hp:ps<=R.cs.size)(hs:R.cs.size<=1024):
  Calls prog 359 #[cW r] w λe w'=>e=dw (Y (kI R ps))/\Z [r] w w'/\Rd w' r R bg (qu R ps):=by
 have hr:=eS h;obtain⟨w0,E⟩:∃w0,w0=w.alloc (.cells #[Y nc,Y qS] 9):=⟨_,rfl⟩;have K0:Z [] w w0:=by rw[E];exact(Z.refl _ _).alloc _
 have b0:w0.heap[w.heap.size]?=some (cV #[Y nc,Y qS] 9):=by rw[E];exact aY w _
 have r0:Rd w0 r R bg ps:=K0.at h (by simp);have z0:w.heap.size<w0.heap.size:=eS b0;have HW:=V E.symm;clear E;have D1:=js r R bg ps nc w0 r0 hp hs (by decide);have D2:=(λw' (h:Rd w' r R bg ps)=>js r R bg ps qS w' h hp hs (by decide));have c0:=aN b0 0;dsimp at c0;have HB:=V b0;have HZ:=V z0;clear h b0 z0 r0;cases h1:pre (R.cs.extract ps R.cs.size) nc
 .have k1:taken R nc ps=ps:=by unfold taken;rw[cZ (by simp[h1])]
  rw[h1,k1]at D1;cases h2:pre (R.cs.extract ps R.cs.size) qS
  .have k2:taken R qS ps=ps:=by unfold taken;rw[cZ (by simp[h2])]
   rw[h2,k2]at D2;have F:qu R ps=scan (fp jK) R.cs ps:=by unfold qu;rw[cZ (by simp[h1]),cZ (by simp[h2])]
   have U:=(λw' (h:Rd w' r R bg ps)=>yx r R bg ps jK w' h hp hs);rw[<-F]at U;have I:kI R ps=R.cs.extract ps (qu R ps):=by unfold kI;rw[cZ (by simp[h1]),cZ (by simp[h2]),F]
   rw[I];clear h1 h2 k1 k2 F I;generalize qu R ps=m at *;go_enter func359,ntmps359;go_wp21;refine tW 3 ?_;rw[mg,HW.out];go_wp21;refine D1.mono ?_;rintro e D⟨rfl,u,Q⟩;have c1:D.cell? ⟨w.heap.size,1,none⟩=some (Y qS):=by rw[u.cell (p:=⟨w.heap.size,1,none⟩) HZ.out (by simp;omega),aN HB.out];rfl
   have K:=(K0.mono (S':=[r]) (by simp)).trans u;clear u;go_wp21;rw[mg];go_wp21;refine(D2 _ Q).mono ?_;rintro e w2⟨rfl,k,a3⟩;have a1:=K.trans k;clear k;go_wp21;rw[mg];go_wp21;refine(mN _ w2).mono ?_;rintro e w'⟨rfl,rfl⟩;go_wp21;refine(U _ a3).mono ?_;rintro e w3⟨rfl,a0,a6⟩;have a5:=a1.trans a0;clear a0;go_wp2;go_ret;simp_all
  .have k2:taken R qS ps=ps+1:=by unfold taken;rw[dd h2];rfl
   rw[h2,k2]at D2;have F:qu R ps=quoted R qS ps:=by unfold qu;rw[cZ (by simp[h1]),dd h2]
   have I:kI R ps=R.cs.extract (ps+1) (scan (fp qS) R.cs (ps+1)):=by unfold kI;rw[cZ (by simp[h1]),dd h2]
   rw[F,I];have T:=PU h2 hp (by decide);clear h1 h2 k1 k2 F I;have U:=(λD (hk:Z [r] w D) (h:Rd D r R bg (ps+1))=>Kl r R bg ps qS rfl w D hk h T hs);generalize R.cs.extract (ps+1) (scan (fp qS) R.cs (ps+1))=t at *;generalize quoted R qS ps=m at *;go_enter func359,ntmps359;go_wp21;refine tW 3 ?_;rw[mg,HW.out];go_wp21;refine D1.mono ?_;rintro e D⟨rfl,u,Q⟩;have c1:D.cell? ⟨w.heap.size,1,none⟩=some (Y qS):=by rw[u.cell (p:=⟨w.heap.size,1,none⟩) HZ.out (by simp;omega),aN HB.out];rfl
   have K:=(K0.mono (S':=[r]) (by simp)).trans u;clear u;go_wp21;rw[mg];go_wp21;refine(D2 _ Q).mono ?_;rintro e w2⟨rfl,k,z⟩;have a7:=U w2 (K.trans k) z;clear k z;go_wp21;refine(mN _ w2).mono ?_;rintro e w'⟨rfl,rfl⟩;go_wp21;refine a7.mono ?_;rintro e w3⟨rfl,HV⟩;go_wp21;refine HV.mono ?_;rintro e w4⟨⟨b,rfl⟩,a2,a4⟩;go_wp2;go_ret;simp_all
 .have k1:taken R nc ps=ps+1:=by unfold taken;rw[dd h1];rfl
  rw[h1,k1]at D1;have F:qu R ps=quoted R nc ps:=by unfold qu;rw[dd h1]
  have I:kI R ps=R.cs.extract (ps+1) (scan (fp nc) R.cs (ps+1)):=by unfold kI;rw[dd h1]
  rw[F,I];have T:=PU h1 hp (by decide);clear h1 k1 F I D2;have U:=(λD (hk:Z [r] w D) (h:Rd D r R bg (ps+1))=>Kl r R bg ps nc rfl w D hk h T hs);generalize R.cs.extract (ps+1) (scan (fp nc) R.cs (ps+1))=t at *;generalize quoted R nc ps=m at *;go_enter func359,ntmps359;go_wp21;refine tW 3 ?_;rw[mg,HW.out];go_wp21;refine D1.mono ?_;rintro e w2⟨rfl,k,z⟩;have a7:=U w2 ((K0.mono (S':=[r]) (by simp)).trans k) z;clear k z;go_wp21;refine(mN _ w2).mono ?_;rintro e w'⟨rfl,rfl⟩;go_wp21;refine a7.mono ?_;rintro e w3⟨rfl,HV⟩;go_wp21;refine HV.mono ?_;rintro e w4⟨⟨b,rfl⟩,a2,a4⟩;go_wp2;go_ret;simp_all
def Ss(s:O):Bool:=decide (0<s.size)&&(decide (bt s 0=61)||decide (97<=bt s 0/\bt s 0<=122\/65<=bt s 0/\bt s 0<=90)||decide (48<=bt s 0/\bt s 0<=57))
theorem VU(s:O)(w:J):
  Calls prog 309 #[Y s] w λe w'=>e=dw (.bool (Ss s))/\w'=w:=by
 have k:=get_bt s;by_cases E:0<s.size
 .have m:=bt_nonneg s 0;have u:=bt_le s 0;have T:=k 0 E;have z:s.toList.isEmpty=false:=by
   rw[vN];cases h:s.data.toList with
   |nil=>
    exfalso;have e1:s.data.toList.length=0:=by rw[h];rfl
    rw[Lg]at e1;have e2:s.data.size=s.size:=rfl;omega
   |cons=>rfl
  have K:¬s.toList=[]:=by intro h;rw[h]at z;cases z
  have L:=JO (bt s 0) w m u;have D:=IP (bt s 0) w m u;have I:Ss s=(decide (bt s 0=61)||decide (97<=bt s 0/\bt s 0<=122\/65<=bt s 0/\bt s 0<=90)||decide (48<=bt s 0/\bt s 0<=57)):=by unfold Ss;simp[E]
  rw[I];by_cases a:bt s 0=61
  .rw[show decide (bt s 0=61)=true from by simp[a]];go_enter func309,ntmps309;go_wp2;go_ret;simp
  .rw[show decide (bt s 0=61)=false from by simp[a]];have Q:(bt s 0==61)=false:=beq_eq_false_iff_ne.2 a;cases hl:decide (97<=bt s 0/\bt s 0<=122\/65<=bt s 0/\bt s 0<=90)
   .rw[hl]at L;cases hd:decide (48<=bt s 0/\bt s 0<=57)
    all_goals
     rw[hd]at D;go_enter func309,ntmps309;go_wp21;refine L.mono ?_;rintro e w'⟨rfl,rfl⟩;go_wp21;refine D.mono ?_;rintro e w'⟨rfl,rfl⟩;go_wp2;go_ret;simp
   .rw[hl]at L;go_enter func309,ntmps309;go_wp21;refine L.mono ?_;rintro e w'⟨rfl,rfl⟩;go_wp2;go_ret;simp
 .have F:s=⟨#[]⟩:=kD (yA (by simp_all));subst F;go_enter func309,ntmps309;go_wp2;go_ret;exact⟨rfl,rfl⟩
def qt(look:O->Option O)(s:O)(inV:Bool):Nat->Nat
 |0=>0
 |k+1=>if (look (s.extract 1 (1+(k+1)))).isSome=true then (if (inV&&decide (bt s (k+1)≠59)&&Ss (s.extract (1+(k+1)) s.size))=true then 0 else 1+(k+1))else qt look s inV k
theorem aaL{k:Nat}:qt look s inV k<=k+1:=by
 induction k with
 |zero=>simp[qt]
 |succ k ih=>
  grind[qt]
def rG(look:O->Option O)(s:O)(inV:Bool):Nat->O
 |0=>⟨#[]⟩
 |k+1=>if (look (s.extract 1 (1+(k+1)))).isSome=true then (if (inV&&decide (bt s (k+1)≠59)&&Ss (s.extract (1+(k+1)) s.size))=true then ⟨#[]⟩else (look (s.extract 1 (1+(k+1)))).getD ⟨#[]⟩)else rG look s inV k
theorem PI{k:Nat}(h:∀x t,look x=some t->t.size<=16):(rG look s inV k).size<=16:=by
 induction k with
 |zero=>exact yQ _
 |succ k ih=>
  unfold rG;split;split;exact yQ _;grind[Option.isSome_iff_exists];omega
def TF(b lg:Nat)(look:O->Option O)(s:O)(inV:Bool)(w:J)(hL:Lk w b look)(ad:lg<=1048576)(hs:s.size<=1048576)(h1:1<=s.size):
  Calls prog 257 #[.agg #[.map (some b),G lg],Y s,.bool inV] w λe w'=>e=dw (.tuple #[Y (rG look s inV (min lg (s.size-1))),G (qt look s inV (min lg (s.size-1)))])/\Z [] w w':=by
 have a8:=get_bt s;have HL:=hL;clear hL;obtain⟨k0,Q⟩:∃k0,k0=min lg (s.size-1):=⟨_,rfl⟩;have aa:min (lg:Int) ((s.size:Int)-1)=(k0:Int):=by rw[Q];omega
 have a4:k0<=s.size-1:=by rw[Q];exact Nat.min_le_right ..
 rw[<-Q];clear Q;obtain⟨m,HM⟩:∃m,m=qt look s inV k0:=⟨_,rfl⟩;rw[<-HM];obtain⟨I,HX⟩:∃I,I=rG look s inV k0:=⟨_,rfl⟩;rw[<-HX];have a9:∀wr,Z [w.heap.size] (w.alloc (.cells #[.map (some b),G lg] 161)) wr->True:=λ_ _=>trivial;clear a9;go_enter func257,ntmps257;go_wp21
 go_loopw [8] (λv wr=>∃k:Nat,v=G k/\k<=s.size-1/\qt look s inV k=m/\rG look s inV k=I/\Z [] (w.alloc (.cells #[.map (some b),G lg] 161)) wr) (λv _=>(intOf v).toNat)
 case atStart=>exact⟨k0,by rfl,a4,HM.symm,HX.symm,Z.refl _ _⟩
 case round=>
  obtain⟨k,rfl,hk,a5,a6,D⟩:=hrel;have HN:=V a5;have a1:=V a6;have a2:=aY w (.cells #[.map (some b),G lg] 161);have c0:=aN (D.at a2 (by simp)) 0;dsimp at c0;have ae:w.heap.size<wr.heap.size:=eS (D.at a2 (by simp));have F:Hid (Lk wr b look):=(HL.kept ((Z.refl [] w).alloc _) (by simp)).kept D (by simp);clear a5 a6 a2;cases k with
  |zero=>
   have He:m=0:=HN.symm;have Hx:=(show I=⟨#[]⟩from a1.symm);go_wp2;go_ret2;exact⟨pn Hx.symm He rfl,((Z.refl [] w).alloc _).trans D⟩
  |succ j=>
   have mq:=F.lt;have T:=F.run (s.extract 1 (1+(j+1))) wr rfl;have z:=F.run (s.extract 1 (1+(j+1))) wr.drew rfl;have u:=λo=>F.run (s.extract 1 (1+(j+1))) (wr.alloc o) (Below.heap_alloc wr o b mq);have h:=λo=>F.run (s.extract 1 (1+(j+1))) (wr.alloc o).drew (Below.heap_alloc wr o b mq);cases hlo:look (s.extract 1 (1+(j+1)))with
   |none=>
    rw[hlo]at T z;simp only[hlo]at u h;have a7:qt look s inV j=m:=by rw[<-HN.out,qt,cZ (by simp[hlo])]
    have a3:=(show rG look s inV j=I by rw[<-a1.out,rG,cZ (by simp[hlo])]);clear hlo;simp only[Option.getD_none,Option.isSome_none]at T z u h;go_wp21;go_region
    all_goals (try go_wp2)
    exact⟨⟨j,rfl,by omega,a7,a3,(D.alloc _).drew⟩,by simp[intOf]⟩
   |some t=>
    rw[hlo]at T z;simp only[hlo]at u h;have HV:Hid (m=if (inV&&decide (bt s (j+1)≠59)&&Ss (s.extract (1+(j+1)) s.size))=true then 0 else 1+(j+1)):=by
     rw[<-HN.out,qt,dd (by simp[hlo])];exact rfl
    have K:Hid (I=if (inV&&decide (bt s (j+1)≠59)&&Ss (s.extract (1+(j+1)) s.size))=true then ⟨#[]⟩else t):=by
     rw[<-a1.out,rG,dd (by simp[hlo]),hlo];exact rfl
    clear hlo;simp only[Option.getD_some,Option.isSome_some]at T z u h;have a0:Hid (Z [] w (wr.alloc (.cells #[Y t] 205)).drew):=(((Z.refl [] w).alloc _).trans (D.alloc _)).drew;have hj:j+1<s.size:=by omega
    have ac:=a8 (j+1) hj;cases inV
    .have He:m=1+(j+1):=by rw[HV.out];simp
     have Hx:=(show I=t by rw[K.out];simp);go_wp21;go_region
     all_goals (try go_wp2)
     all_goals (try go_ret2)
     all_goals exact⟨pn Hx.symm He rfl,a0⟩
    .by_cases E:bt s (j+1)=59
     .have He:m=1+(j+1):=by rw[HV.out];simp[E]
      have Hx:=(show I=t by rw[K.out];simp[E]);go_wp21;go_region
      all_goals (try go_wp2)
      all_goals (try go_ret2)
      all_goals exact⟨pn Hx.symm He rfl,a0⟩
     .have ab:(bt s (j+1) != 59)=true:=by rw[bne_iff_ne];exact E
      have af:=VU (s.extract (1+(j+1)) s.size) (wr.alloc (.cells #[Y t] 205)).drew;cases hg:Ss (s.extract (1+(j+1)) s.size);have He:m=1+(j+1):=by rw[HV.out];simp[hg]
      have Hx:=(show I=t by rw[K.out];simp[hg])
      rotate_left
      have He:m=0:=by rw[HV.out];simp[hg,E]
      have Hx:=(show I=⟨#[]⟩ by rw[K.out];simp[hg,E])
      all_goals
       rw[hg]at af;clear hg E;go_wp21;go_region
       all_goals (try (go_wp21))
       all_goals (refine af.mono ?_;rintro e w'⟨rfl,rfl⟩)
       all_goals (try go_wp2)
       all_goals (try go_ret2)
       all_goals exact⟨pn Hx.symm He rfl,a0⟩
def jq(look:O->Option O)(lg:Nat)(s:O)(inV:Bool):Nat:=
 if pre s ⟨#[38,35]⟩=true then p6 s else if pre s tY=true then qt look s inV (min lg (s.size-1))else 0
theorem BT:jq look lg s inV<=s.size:=by
 unfold jq;split;rename_i h;exact Wv (E6 h);split;rename_i h;have e:1<=s.size:=E6 h;grind[aaL];simp
def lu(look:O->Option O)(lg:Nat)(s:O)(inV:Bool):O:=
 if pre s ⟨#[38,35]⟩=true then p9 s else if pre s tY=true then rG look s inV (min lg (s.size-1))else ⟨#[]⟩
theorem wE(h:∀x t,look x=some t->t.size<=16):(lu look lg s inV).size<=16:=by
 unfold lu;split;grind[Mi];split;grind[PI];exact yQ _
def TH(b lg:Nat)(look:O->Option O)(s:O)(inV:Bool)(w:J)(hL:Lk w b look)(T:lg<=1048576)(hs:s.size<=1048576):
  Calls prog 164 #[.agg #[.map (some b),G lg],Y s,.bool inV] w λe w'=>e=dw (.tuple #[Y (lu look lg s inV),G (jq look lg s inV)])/\Z [] w w':=by
 obtain⟨k,h⟩:∃k,k=w.alloc (.cells #[.map (some b),G lg] 161):=⟨_,rfl⟩;have D:k.heap[w.heap.size]?=some (cV #[.map (some b),G lg] 161):=by rw[h];exact aY w _
 have E:Z [] w k:=by rw[h];exact(Z.refl _ _).alloc _
 have c0:=aN D 0;have c1:=aN D 1;dsimp at c0 c1;have K:=V h.symm;have HL:=hL.kept E (by simp);have u:=sR s ⟨#[38,35]⟩ k hs (by decide);have F:=sR s tY k hs (by decide);clear h;cases h1:pre s ⟨#[38,35]⟩
 .rw[h1]at u;cases h2:pre s tY
  .rw[h2]at F;have e:jq look lg s inV=0:=by unfold jq;rw[cZ (by simp[h1]),cZ (by simp[h2])]
   have z:lu look lg s inV=⟨#[]⟩:=by unfold lu;rw[cZ (by simp[h1]),cZ (by simp[h2])]
   rw[e,z];go_enter func164,ntmps164;go_wp21;rw[K.out];refine u.mono ?_;rintro e w'⟨rfl,rfl⟩;go_wp21;refine F.mono ?_;rintro e w'⟨rfl,rfl⟩;go_wp2;go_ret2;exact⟨rfl,E⟩
  .rw[h2]at F;have hz:1<=s.size:=E6 h2;have e:jq look lg s inV=qt look s inV (min lg (s.size-1)):=by unfold jq;rw[cZ (by simp[h1]),dd h2]
   have z:lu look lg s inV=rG look s inV (min lg (s.size-1)):=by unfold lu;rw[cZ (by simp[h1]),dd h2]
   rw[e,z];have C:=TF b lg look s inV k HL T hs hz;generalize qt look s inV (min lg (s.size-1))=m at *;generalize rG look s inV (min lg (s.size-1))=t at *;go_enter func164,ntmps164;go_wp21;rw[K.out];refine u.mono ?_;rintro e w'⟨rfl,rfl⟩;go_wp21;refine F.mono ?_;rintro e w'⟨rfl,rfl⟩;go_wp21;refine C.mono ?_;rintro e w2⟨rfl,Q⟩;have I:=E.trans Q;go_wp2;go_ret2;exact⟨rfl,I⟩
 .rw[h1]at u;have hz:2<=s.size:=E6 h1;have e:jq look lg s inV=p6 s:=by unfold jq;rw[dd h1]
  have z:lu look lg s inV=p9 s:=by unfold lu;rw[dd h1]
  rw[e,z];have C:=Km s k hs hz;generalize p6 s=m at *;generalize p9 s=t at *;go_enter func164,ntmps164;go_wp21;rw[K.out];refine u.mono ?_;rintro e w'⟨rfl,rfl⟩;go_wp21;refine C.mono ?_;rintro e w2⟨rfl,rfl⟩;go_wp2;go_ret2;exact⟨rfl,E⟩
def nS(look:O->Option O)(lg:Nat)(s:O):Nat:=if jq look lg s false=0 then 1 else jq look lg s false
theorem Cw:0<nS look lg s:=by grind[nS]
theorem FO(h:0<s.size):nS look lg s<=s.size:=by
 grind[BT,nS]
def oA(look:O->Option O)(lg:Nat)(s:O):O:=if jq look lg s false=0 then s.extract 0 1 else lu look lg s false
structure abT(w:J)(g n:Nat)(A:Nat->O×O):Prop where
 lt:0<n->g<w.heap.size
 nm:∀i,i<n->w.cell? ⟨g,i*2,none⟩=some (Y (A i).1)
 vl:∀i,i<n->w.cell? ⟨g,i*2+1,none⟩=some (Y (A i).2)
theorem abT.kept{A:Nat->O×O}(h:abT w g n A)(k:Z S w w')(m:g∉S):abT w' g n A:=
 ⟨λu=>kL (h.lt u) k.size,λi e=>(k.cell (h.lt (by omega)) m).trans (h.nm i e),λi e=>(k.cell (h.lt (by omega)) m).trans (h.vl i e)⟩
def kG(A:Nat->O×O)(n:Nat)(s:O)(i:Nat):Bool:=if i<n then (if ((A i).1.toList==s.toList)=true then true else kG A n s (i+1))else false
  termination_by n-i
theorem agD(x y:Int)(nm s:O)(g n cap:Nat)(A:Nat->O×O)(w:J)(hA:abT w g n A)(hn:n<=1048576):
  Calls prog 332 #[.agg #[G x,G y,Y nm,ky g n cap],Y s] w λe w'=>e=dw (.bool (kG A n s 0))/\Z [] w w':=by
 obtain⟨m,HM⟩:∃m,m=kG A n s 0:=⟨_,rfl⟩;rw[<-HM];have HA:=hA;go_enter func332,ntmps332;go_wp21
 go_loopw [10] (λv wr=>∃k:Nat,v=G k/\k<=n/\kG A n s k=m/\Z [] w wr) (λv _=>n-(intOf v).toNat)
 case atStart=>grind[Z.alloc,Z.refl]
 case round=>
  obtain⟨k,rfl,hk,Q,F⟩:=hrel;have I:=V Q;have D:=F;by_cases h:k<n
  .have T:=HA.kept F (by simp);have a0:=T.nm k h;have a1:=T.vl k h;clear Q;cases he:((A k).1.toList==s.toList)
   .have e:kG A n s (k+1)=m:=by rw[<-I.out,kG.eq_1 A n s k,dd h,cZ (by simp[he])]
    have E:=V e;have K:¬(A k).1.toList=s.toList:=by simpa using he
    clear e;have z:=D.alloc (.cells #[Y (A k).1,Y (A k).2] 295);generalize (A k).1=u at *;generalize (A k).2=v at *;go_wp2;go_roundw
    case rel=>exact⟨k+1,by go_num,by omega,E,z⟩
    case measure=>simp[intOf];omega
   .have e:m=true:=by rw[<-I.out,kG.eq_1 A n s k,dd h,dd he]
    have E:=V e;have K:(A k).1.toList=s.toList:=by simpa using he
    clear e;have z:=D.alloc (.cells #[Y (A k).1,Y (A k).2] 295);generalize (A k).1=u at *;generalize (A k).2=v at *;go_wp2;go_ret;exact⟨by rw[E.out];rfl,z⟩
  .have e:m=false:=by rw[<-I.out,kG.eq_1 A n s k,cZ h]
   have E:=V e;clear e Q;go_wp2;go_ret;exact⟨by rw[E.out];rfl,D⟩
theorem Rs:(∃j,prog.info? 97=some j/\j.size≠0):=by
 have h:((prog.info? 97).map λi=>i.size)=some 2:=rfl;grind[Option.map_eq_some_iff]
def OY:liesAt prog prog.depth 97 (2 / prog.cellsOf 97) 0 97 1=true:=by kernel_rfl
theorem LJ(B b:Nat)(bs:List cY)(w:J)(h:Lib.IsBuilder 97 5 B b bs w):
  Calls prog 354 #[cW b] w λe w'=>e=nu/\Lib.BuilderAt 97 5 B b (cW b) bs w'/\Below B w w':=by
 obtain⟨j,k,m⟩:=Rs;rcases h with h|h
 .have D:=h.cell0;have I:=h.frozen0;have u:=h.used (cW b);have z:=(Below.refl B w).setCell (p:=⟨b,0,none⟩) h.1 (cW b);have F:=u.cell0;have Q:=Lib.run_to_unsafe (P:=prog) w (src:=95) (dst:=101) ⟨b,0,none⟩ underlying95 underlying101 k m h.shape (show 0<2 by decide);have K:=Lib.run_from_unsafe (P:=prog) w (src:=101) (dst:=95) ⟨b,0,none⟩ underlying101 underlying95 k h.shape OY;have E:=wJ (P:=prog) (w.setCell ⟨b,0,none⟩ (cW b)) (tp:=95) ⟨b,0,none⟩ underlying95 k;go_enter func354,ntmps354;go_wp2;rw[Zf func372 (by rfl) (by rfl) rfl (e:=Extern.AbiNoEscape.same) rfl];rw[Lib.run_noEscape];simp only[Result.andThen];rw[Oper.upon_value];go_wp2;go_end0;grind
 .have D:=h.cell0;have u:=h;have z:=Below.refl B w;have E:=wJ (P:=prog) w (tp:=95) ⟨b,0,none⟩ underlying95 k;go_enter func354,ntmps354;go_wp2;go_end0;grind
theorem yP(B b:Nat)(bs:List cY)(s:O)(w:J)(h:Lib.IsBuilder 97 5 B b bs w)(I:bs.length+s.size<=1048576)(a2:B<=w.heap.size):
  Calls prog 329 #[cW b,Y s] w λe w'=>e=dw (.tuple #[G s.size,.nilIface])/\(Lib.BuilderAt 97 5 B b (cW b) (bs++Lib.strCells s) w'/\Below B w w'):=by
 have⟨i0,hi,hz0,hz1,hz2⟩:=rQ H6;have HH:=h;go_enter func329,ntmps329;go_wp21;refine(LJ B b bs _ HH).mono ?_;rintro e w1⟨rfl,h1,mq⟩;have⟨hB,v,hbk,hown,hne⟩:=h1;have c0:=aN hbk 0;have c1:=aN hbk 1;dsimp at c0 c1;go_wp2_with (at_builtin;refine Lib.wpList_append_own_string _ rfl _ _ 58 9 rfl B 5 i0 underlying58 underlying9 hi hz0 hz1 hz2 _ _ _ rfl hown s rfl ?c3 ?c4 ?c5 ?_)
 case c3=>unfold maxLen;omega
 case c4=>omega
 case c5=>grind
 intro Q w2 u m _;have D:b<w1.heap.size:=eS hbk;have z:w2.heap[b]?=some (cV #[cW b,v] 97):=by
  rw[m.block b D (λe=>hne e.symm)];exact hbk
 have d1:=aN z 1;dsimp at d1;have f1:w2.frozen? ⟨b,1,none⟩=false:=cQ z 1;have HP:=Lib.BuilderAt.put (T:=97) (e:=5) hB z (bs':=bs++Lib.strCells s) (by simpa [Lib.strCells_length]using u) (by decide);have a0:=(mq.grown m (by omega) (λk hk=>(hown.lt k hk).1)).setCell (p:=⟨b,1,none⟩) hB Q;obtain⟨F,K,cap,E⟩:∃F K cap,Q=.slice F K cap:=by
  rcases u.2 with⟨E,_⟩|⟨g,cap,a1,E,_⟩
  all_goals grind
 subst E;go_wp2;go_ret2;simp_all
theorem ad7{t:O}(h:¬t.size=0):t.toList.isEmpty=false:=by
 rw[vN];cases hh:t.data.toList with
 |nil=>exact absurd (show t.data.size=0 by simp_all) h
 |cons=>rfl
def Qo:cY->Nat
 | .string t=>t.size
 |_=>0
def JF{T e B:Nat}{bs:List cY}(h:Lib.IsBuilder T e B b bs w)(k:Z [] w w'):Lib.IsBuilder T e B b bs w':=by
 rcases h with⟨m,v,u,z,D⟩|⟨m,v,u,z,D⟩;exact .inl ⟨m,v,k.at u (by simp),k.ownsRow z (λ_ _=>by simp),D⟩;exact .inr ⟨m,v,k.at u (by simp),k.ownsRow z (λ_ _=>by simp),D⟩
def zS(l:List UInt8)(t:O):Lib.byteCells l++Lib.strCells t=Lib.byteCells (l++t.data.toList):=by
 unfold Lib.byteCells Lib.strCells;simp
def tN(look:O->Option O)(lg:Nat)(s:O):List UInt8:=
 if s.size=0 then []else if jq look lg s true=0 then (s.extract 0 1).data.toList++tN look lg (s.extract 1 s.size)else (lu look lg s true).data.toList++tN look lg (s.extract (jq look lg s true) s.size)
  termination_by s.size
  decreasing_by all_goals (simp;omega)
def zY(h:∀x t,look x=some t->t.size<=16)(s:O):(tN look lg s).length<=16*s.size:=by
 rw[tN];split;simp;split;have:=zY h (s.extract 1 s.size);simp at this|-;omega;have:=zY h (s.extract (jq look lg s true) s.size);have k:=wE (lg:=lg) (s:=s) (inV:=true) h;have e:(lu look lg s true).data.size=(lu look lg s true).size:=rfl;simp[e]at this|-;omega
  termination_by s.size
  decreasing_by all_goals (simp;omega)
theorem UC(b lg:Nat)(look:O->Option O)(s:O)(w:J)(hL:Lk w b look)(a8:lg<=1048576)(hs:s.size<=1024):
  Calls prog 358 #[.agg #[.map (some b),G lg],Y s] w λe w'=>e=dw (Y ⟨(tN look lg s).toArray⟩)/\Z [] w w':=by
 obtain⟨h,u⟩:∃h,h=w.alloc (.cells #[.map (some b),G lg] 161):=⟨_,rfl⟩;have a0:h.heap[w.heap.size]?=some (cV #[.map (some b),G lg] 161):=by rw[u];exact aY w _
 have HK:Z [] w h:=by rw[u];exact(Z.refl _ _).alloc _
 have z0:h.heap.size=w.heap.size+1:=by rw[u];simp
 have HL:=hL.kept HK (by simp);have HW:=V u.symm;have I:=V a0;have a6:=V z0;clear u a0 z0;go_enter func358,ntmps358;go_wp21;rw[HW.out];have HN:=Lib.fresh_isBuilder 97 5 h;have a4:=((Below.refl h.heap.size h).alloc (dr _) (.cells #[.pointer none,gq] 97));have ez:w.heap.size+1=h.heap.size:=a6.symm
 try rw[ez]
 go_loopw [1] (λv wr=>∃(t:O)(l:List UInt8),v=Y t/\t.size<=s.size/\l.length+16*t.size<=16*s.size/\l++tN look lg t=tN look lg s/\Lib.IsBuilder 97 5 h.heap.size h.heap.size (Lib.byteCells l) wr/\Below h.heap.size h wr) (λv _=>Qo v)
 case atStart=>exact⟨s,[],rfl,dr _,by simp,rfl,HN,a4⟩
 case round=>
  obtain⟨t,l,rfl,ht,hl,a3,HI,D⟩:=hrel;have T:=V a3;have c0:=aN ((Z.Av D).at I.out (by simp)) 0;have c1:=aN ((Z.Av D).at I.out (by simp)) 1;dsimp at c0 c1;clear a3;by_cases h0:t.size=0
  .have e0:t=⟨#[]⟩:=by
    apply kD;exact yA h0
   subst e0;have EL:=V (show l=tN look lg s by grind[Hid.out,tN]);have S:=Tryz.Builder_String_any h.heap.size h.heap.size l wr HI D.size;go_wp21;refine S.mono ?_;rintro e w2⟨rfl,a7⟩;have a5:=HK.trans (Z.Av (D.trans a7));go_wp2;go_ret;exact⟨by rw[<-EL.out];rfl,a5⟩
  .have aa:t.toList.isEmpty=false:=ad7 h0;have C:=TH b lg look t true wr (HL.kept (Z.Av D) (by simp)) a8 (by omega);have ab:=BT (look:=look) (lg:=lg) (s:=t) (inV:=true);go_wp21;refine C.mono ?_;rintro e w2⟨rfl,a1⟩;have HX:=wE (lg:=lg) (s:=t) (inV:=true) HL.short;have a2:tN look lg t=if jq look lg t true=0 then (t.extract 0 1).data.toList++tN look lg (t.extract 1 t.size)else (lu look lg t true).data.toList++tN look lg (t.extract (jq look lg t true) t.size):=by rw[tN,cZ h0]
   have Q:=V a2;clear a2;generalize lu look lg t true=x at *;have K:=JF HI a1;have z:=D.trans (a1.below D.size (by simp));generalize jq look lg t true=n at *;by_cases hn:n=0
   .have E:=(show(l++(t.extract 0 1).data.toList)++tN look lg (t.extract 1 t.size)=tN look lg s by rw[<-T.out,Q.out,dd hn,se]);subst hn;have W:=yP h.heap.size h.heap.size (Lib.byteCells l) (t.extract 0 1) w2 K (by simp[Lib.byteCells];omega) z.size;go_wp21;refine W.mono ?_;rintro e w3⟨rfl,F,m⟩;have HR:=(show Lib.IsBuilder 97 5 h.heap.size h.heap.size (Lib.byteCells (l++(t.extract 0 1).data.toList)) w3 from .inr (by rw[<-zS];exact F));have k:=z.trans m;go_wp2;go_roundw
    case rel=>exact⟨_,_,rfl,by simp;omega,by simp;omega,E,HR,k⟩
    case measure=>grind[ByteArray.size_extract,Qo]
   .have a9:((n:Int)==0)=false:=beq_eq_false_iff_ne.2 (by omega);have E:=(show(l++x.data.toList)++tN look lg (t.extract n t.size)=tN look lg s by rw[<-T.out,Q.out,cZ hn,se]);have W:=yP h.heap.size h.heap.size (Lib.byteCells l) x w2 K (by have:=HX;simp[Lib.byteCells];omega) z.size;go_wp21;refine W.mono ?_;rintro e w3⟨rfl,F,m⟩;have HR:=(show Lib.IsBuilder 97 5 h.heap.size h.heap.size (Lib.byteCells (l++x.data.toList)) w3 from .inr (by rw[<-zS];exact F));have k:=z.trans m;go_wp2;go_roundw
    case rel=>exact⟨_,_,rfl,by simp;omega,by have:=HX;have e:x.data.size=x.size:=rfl;grind[ByteArray.size_extract],E,HR,k⟩
    case measure=>grind[ByteArray.size_extract,Qo]
def j7(R:RC)(ps:Nat):Nat:=scan (λc=>!fp kU c) R.cs ps
def nL(R:RC)(ps:Nat):Nat:=if pre (R.cs.extract (j7 R ps) R.cs.size) ⟨#[61]⟩=true then qu R (j7 R (j7 R ps+1))else j7 R ps
theorem D5(h:ps<=R.cs.size):j7 R ps<=R.cs.size:=nF h
theorem QA:ps<=j7 R ps:=qf
theorem aby(h:ps<=R.cs.size):nL R ps<=R.cs.size:=by
 unfold nL;split;rename_i e;exact aaZ (D5 (jp e (D5 h)));grind[D5]
theorem uR:ps<=nL R ps:=by
 grind[QA,aaY,nL]
def qg(look:O->Option O)(lg:Nat)(R:RC)(ps:Nat):O:=if pre (R.cs.extract (j7 R ps) R.cs.size) ⟨#[61]⟩=true then kO ⟨(tN look lg (kI R (j7 R (j7 R ps+1)))).toArray⟩else ⟨#[]⟩
structure Nm(w:J)(r:Nat)(R:RC)(b lg:Nat)(look:O->Option O):Prop where
 lk:Lk w b look
 ne:b≠r
 mv:R.mv=.map (some b)
 lgv:R.lg=lg
 le:lg<=1048576
theorem Nm.kept(h:Nm w r R b lg look)(e:Z [r] w w'):Nm w' r R b lg look:=
 ⟨h.lk.kept e (by simp[h.ne]),h.ne,h.mv,h.lgv,h.le⟩
theorem abA(r:Nat)(R:RC)(bg ps b lg:Nat)(look:O->Option O)(w:J)(h:Rd w r R bg ps)(hN:Nm w r R b lg look)(hG:Gl w r)(hp:ps<=R.cs.size)(hs:R.cs.size<=1024):
  Calls prog 333 #[cW r] w λe w'=>e=dw (Y (qg look lg R ps))/\Z [r] w w'/\Rd w' r R bg (nL R ps):=by
 have HP:=uv r R bg ps kU w h hp hs;have u:=V hN;have HG:=hG;have ha:=D5 (R:=R) hp;clear hN;cases he:pre (R.cs.extract (j7 R ps) R.cs.size) ⟨#[61]⟩
 .have ev:nL R ps=j7 R ps:=by unfold nL;rw[cZ (by simp[he])]
  have et:qg look lg R ps=⟨#[]⟩:=by unfold qg;rw[cZ (by simp[he])]
  rw[ev,et];have Q:taken R ⟨#[61]⟩ (j7 R ps)=j7 R ps:=by unfold taken;rw[cZ (by simp[he])]
  go_enter func333,ntmps333;go_wp21;refine HP.mono ?_;rintro e w1⟨rfl,k,F⟩;have HT:=js r R bg (j7 R ps) ⟨#[61]⟩ w1 F ha hs (by decide);rw[he,Q]at HT;go_wp21;refine HT.mono ?_;rintro e w2⟨rfl,z,a7⟩;have T:=k.trans z;go_wp2;go_ret;simp_all
 .have ev:nL R ps=qu R (j7 R (j7 R ps+1)):=by unfold nL;rw[dd he]
  have et:qg look lg R ps=kO ⟨(tN look lg (kI R (j7 R (j7 R ps+1)))).toArray⟩:=by unfold qg;rw[dd he]
  rw[ev,et];have Q:taken R ⟨#[61]⟩ (j7 R ps)=j7 R ps+1:=by unfold taken;rw[dd he];rfl
  have hb:j7 R ps+1<=R.cs.size:=jp he ha;go_enter func333,ntmps333;go_wp21;refine HP.mono ?_;rintro e w1⟨rfl,k,F⟩;have HT:=js r R bg (j7 R ps) ⟨#[61]⟩ w1 F ha hs (by decide);rw[he,Q]at HT;go_wp21;refine HT.mono ?_;rintro e w2⟨rfl,z,a4⟩;have T:=k.trans z;have a1:=uv r R bg (j7 R ps+1) kU w2 a4 hb hs;go_wp21;refine a1.mono ?_;rintro e w3⟨rfl,a3,I⟩;have m:=T.trans a3;have a2:Hid (Rd w3 r R bg (j7 R (j7 R ps+1))):=I;have hc:=D5 (R:=R) hb;have mv:w3.cell? ⟨r,5,none⟩=some (.map (some b)):=by rw[I.mv,u.out.mv]
  have lv:w3.cell? ⟨r,6,none⟩=some (G lg):=by rw[I.lg,u.out.lgv]
  have a8:=BR (R:=R) (ps:=j7 R (j7 R ps+1));have a9:=zY (lg:=lg) u.lk.short (kI R (j7 R (j7 R ps+1)));have CR:=PZ r R bg (j7 R (j7 R ps+1)) w3.drew (show Rd w3.drew r R bg _ from a2) hc hs;go_wp21
  go_region_with (first
   |(go_at_call 359;refine CR.mono ?_;rintro e w4⟨rfl,D,K⟩;have a6:=K.mv;rw[u.out.mv]at a6;have a5:=K.lg;rw[u.out.lgv]at a5)
   |(go_at_call 358;refine(UC b lg look _ _ (u.kept (m.drew.trans D)).lk u.le (by omega)).mono ?_;rintro e w5⟨rfl,E⟩)
   |(go_at_call 152;refine(xb r _ _ (by simp[ByteArray.size];omega) ((HG.kept (m.drew.trans D)).kept (E.mono (by simp)))).mono ?_;rintro e w6⟨rfl,a0⟩))
  all_goals (try go_wp2)
  all_goals (try go_ret)
  all_goals exact⟨rfl,(m.drew.trans D).trans ((E.trans a0).mono (by simp)),(K.kept E (by simp)).kept a0 (by simp)⟩
def pH(L:iD):List cY:=L.flatMap λp=>[Y p.1,Y p.2]
def Lt(L M:iD):pH (L++M)=pH L++pH M:=by simp[pH]
theorem FF(L:iD)(i:Nat)(h:i<L.length):(pH L)[i*2]?=some (Y (L[i]).1)/\(pH L)[i*2+1]?=some (Y (L[i]).2):=by
 induction L generalizing i with
 |nil=>simp at h
 |cons p L ih=>
  show(Y p.1::Value.string p.2::pH L)[i*2]?=_/\(Y p.1::Value.string p.2::pH L)[i*2+1]?=_;grind
def nth(ns:List O)(i:Nat):O×O:=(ns.getD i ⟨#[]⟩,⟨#[]⟩)
def GW(ns:List O)(s:O):Bool:=kG (nth ns) ns.length s 0
theorem LW{A B:Nat->O×O}(h:∀i,i<n->(A i).1=(B i).1)(i:Nat):kG A n s i=kG B n s i:=by
 fun_induction kG A n s i with
 |case1 i hi he=>grind[kG]
 |case2 i hi he ih=>grind[kG]
 |case3 i hi=>grind[kG]
theorem adp(x y:Int)(nm s:O)(w:J):
  Calls prog 332 #[.agg #[G x,G y,Y nm,gq],Y s] w λe w'=>e=dw (.bool false)/\Z [] w w':=by
 have k:=(Z.refl [] w).alloc (.cells #[G x,G y,Y nm,gq] 193);go_enter func332,ntmps332;go_wp21
 go_loopw [10] (λv wr=>v=G 0/\Z [] w wr) (λv _=>0)
 case atStart=>grind
 case round=>
  obtain⟨rfl,h⟩:=hrel;go_wp2;go_ret;exact⟨rfl,h⟩
def ad9(L:iD)(i:Nat):O×O:=L.getD i (⟨#[]⟩,⟨#[]⟩)
theorem Yl(base:Nat)(x y:Int)(nm s:O)(av:cY)(L:iD)(w:J)(k:w.ownsRow base 295 2 av L.length (pH L))(F:L.length<=1048576):
  Calls prog 332 #[.agg #[G x,G y,Y nm,av],Y s] w λe w'=>e=dw (.bool (GW (L.map (·.1)) s))/\Z [] w w':=by
 rcases k.2 with⟨rfl,u⟩|⟨g,cap,m,rfl,D,E,_⟩;have e:GW (L.map (·.1)) s=false:=by
  have:L=[]:=QJ u;subst this;unfold GW;rw[kG.eq_1];simp
 rw[e];exact adp x y nm s w;have z:abT w g L.length (ad9 L):=by
  refine⟨λ_=>eS E,λi h=>?_,λi h=>?_⟩;have:=k.cells (g:=g) rfl (i*2) _ (FF L i h).1;grind[eL,ad9];have:=k.cells (g:=g) rfl (i*2+1) _ (FF L i h).2;grind[eL,ad9]
 have e:GW (L.map (·.1)) s=kG (ad9 L) L.length s 0:=by
  unfold GW;rw[Zk];exact LW (λi h=>by grind[nth,ad9]) 0
 rw[e];exact agD x y nm s g L.length cap _ w z F
structure AO(w:J)(base tb:Nat)(x y:Int)(nm:O)(av:cY)(L:iD):Prop where
 du:w.heap[tb]?=some (cV #[G x,G y,Y nm,av] 193)
 own:w.ownsRow base 295 2 av L.length (pH L)
theorem AO.kept{base m:Nat}{x y:Int}{nm:O}{av:cY}(h:AO w base m x y nm av L)(e:Z [r] w w')(z:r<base)(u:base<=m):AO w' base m x y nm av L:=
 ⟨e.at h.du (by grind),e.ownsRow h.own (λk e=>by have:=(h.own.lt k e).1;grind)⟩
def ue(R:RC)(ps:Nat):O:=kO (small (R.cs.extract ps (gR R ps)))
def pw(R:RC)(ns:List O)(ps:Nat):Bool:=!GW ns (ue R ps)&&!decide (gR R ps=R.cs.size)&&decide (R.at_<=(ns.length:Int))
def sr(L:iD)(e v:O):iD:=if GW (L.map (·.1)) e=true then L else L++[(e,v)]
def nM(R:RC)(look:O->Option O)(lg:Nat)(L:iD)(ps:Nat):iD:=sr L (ue R ps) (qg look lg R (gR R ps))
def JV(h:ps<R.cs.size):gR R ps<=R.cs.size:=nF (by omega)
theorem qs:ps<gR R ps:=kL (Nat.lt_succ_self _) qf
theorem Rd.Dz(h:Rd w r R bg ps):w.cell? ⟨r,4,none⟩=some (G R.at_):=by rw[aN h];rfl
def adB:(prog.info? 295).map (λi=>(i.zero,i.size,i.bytes))=some (some (.agg #[Y gU,Y gU]),2,32):=by kernel_rfl
def Xn(w:J)(k:Nat)(n at_:Int):Prop:=w.heap[k]?=some (cV #[G n,G at_] 81)
theorem Lw(r tb:Nat)(R:RC)(bg ps g cap b lg:Nat)(look:O->Option O)(cut:Nat->Nat)(x y:Int)(nm:O)(av:cY)(L:iD)(w0 w:J)
  (ay:Z [r] w0 w) (a7:r<w0.heap.size) (a5:w0.heap.size<=tb) (h:Rd w r R bg ps) (hA:MH w r R g cap cut) (hN:Nm w r R b lg look) (hG:Gl w r) (hT:AO w w0.heap.size tb x y nm av L)
  (hb:bg<=R.cs.size) (hp:ps<R.cs.size) (hs:R.cs.size<=1024) (hL:L.length<=4096):
  Calls prog 296 #[cW r,cW tb] w λe w'=>
   if pw R (L.map (·.1)) ps=true then ∃k,e=.panicked [{v:=.iface 76 (cW k),recovered:=false}]/\Xn w' k 7 (cut bg)/\w0.heap.size<=k/\Z [r] w0 w'
   else e=nu/\∃af,AO w' w0.heap.size tb x y nm af (nM R look lg L ps)/\Z [r] w0 w'/\Rd w' r R bg (nL R (gR R ps)):=by
 obtain⟨i0,hi,aL,aM,aP⟩:=rQ adB;have aA:=JV (R:=R) hp;have HN:=V hN;have HG:=V hG;have HA:=V hA;have HT:=V hT;have aw:=V ay;have CN:=V (Cr r R bg ps w h hp hs hG);have a6:nM R look lg L ps=sr L (ue R ps) (qg look lg R (gR R ps)):=rfl;clear h hA hN hG hT ay;have aC:pw R (L.map (·.1)) ps=(!GW (L.map (·.1)) (ue R ps)&&!decide (gR R ps=R.cs.size)&&decide (R.at_<=(L.length:Int))):=by unfold pw;rw[Zk]
 rw[aC];clear aC;obtain⟨na,al⟩:∃na,na=ue R ps:=⟨_,rfl⟩;have am:kO (small (R.cs.extract ps (gR R ps)))=na:=al.symm;rw[am]at CN;clear am;rw[<-al]at a6;rw[<-al];obtain⟨ns,au⟩:∃ns,ns=L.map (·.1):=⟨_,rfl⟩;rw[<-au];have ak:=V au;clear al au;obtain⟨m,hm⟩:∃m,m=gR R ps:=⟨_,rfl⟩;rw[<-hm]at CN aA a6;rw[<-hm];clear hm;have HV:=(λw' h1 h2 h3=>abA r R bg m b lg look w' h1 h2 h3 aA hs);obtain⟨vt,aD⟩:∃vt,vt=qg look lg R m:=⟨_,rfl⟩;rw[<-aD]at HV a6;clear aD;have HV:=V HV;have ax:=V a6;clear a6;have⟨ao,cp,hav⟩:=cP HT.out.own;subst hav;have aT:r≠tb:=by omega
 cases hin:GW ns na
 .skip
  rcases(show m=R.cs.size\/(¬m=R.cs.size/\R.at_<=(L.length:Int))\/(¬m=R.cs.size/\¬R.at_<=(L.length:Int)) by omega)with E|⟨E,ag⟩|⟨E,ag⟩;have ec:(!false&&!decide (m=R.cs.size)&&decide (R.at_<=(L.length:Int)))=false:=by simp[E]
  have e3:decide (m=R.cs.size)=true:=by simp[E]
  rotate_left
  have ec:(!false&&!decide (m=R.cs.size)&&decide (R.at_<=(L.length:Int)))=true:=by simp[E,ag]
  have e3:decide (m=R.cs.size)=false:=by simp[E]
  rotate_left
  have ec:(!false&&!decide (m=R.cs.size)&&decide (R.at_<=(L.length:Int)))=false:=by simp[ag]
  have e3:decide (m=R.cs.size)=false:=by simp[E]
  all_goals
   rw[ec];clear ec;simp only[lZ,rP,if_true];go_enter func296,ntmps296;go_wp21;refine CN.out.mono ?_;rintro e w1⟨rfl,T,a8⟩;have D:=V (HT.out.kept T a7 a5);have ap:=V (aw.out.trans T);have ar:=V a8;have aq:=V T;have a0:=aN D.out.du 0;have a1:=aN D.out.du 1;have a2:=aN D.out.du 2;have a3:=aN D.out.du 3;dsimp at a0 a1 a2 a3;have CH:=Yl w0.heap.size x y nm na _ L w1 D.out.own (by omega);rw[<-ak.out,hin]at CH;have ac:=V CH;clear CH T a8 CN;go_wp21;refine ac.out.mono ?_;rintro e w2⟨rfl,F⟩;have ab:=V (aq.out.trans (F.mono (by simp)));have aa:=V (ap.out.trans (F.mono (by simp)));have K:=V (ar.out.kept F (by simp));have ad:=V (D.out.kept (F.mono (by simp)) a7 a5);clear F ac a0 a1 a2 a3;have b3:=aN ad.out.du 3;dsimp at b3;have b4:=K.out.Dz;have C:=V (λw' (h:Rd w' r R bg m)=>mB r R bg m w' h);rw[e3]at C;go_wp21
   go_quiet ((go_at_call 81;refine XB (C.out _ ?_);exact K.out))
   clear b3 b4
  rotate_right
  .have aF:=V (HA.out.kept ab.out);have p0:w2.cell? ⟨r,1,none⟩=some (ky g (R.cs.size+1) cap):=by rw[K.out.cU,HA.out.av]
   have p1:w2.cell? ⟨r,2,none⟩=some (G bg):=K.out.bg;have p2:=aF.out.at_ bg hb;have aQ:=V (aa.out.drewN nq);have aK:=aa.out.size;generalize R.cs.size=sz at *;have aR:(bg:Int)<(sz:Int)+1:=by omega
   go_wp21
   go_region_dies
   all_goals (try go_wp2)
   all_goals exact⟨rfl,w2.heap.size,rfl,aY (w2.drewN (nq+1)) _,aK,(aa.out.drewN (nq+1)).alloc _⟩
  all_goals
   have ae:=V (HV.out (w2.drewN nq) (show Rd (w2.drewN nq) r R bg m from K.out) (HN.out.kept (ab.out.drewN _)) (HG.out.kept (ab.out.drewN _)));go_wp21;refine ae.out.mono ?_;rintro e w3⟨rfl,a9,ah⟩;have ai:=V ((aa.out.drewN nq).trans a9);have aj:=V ah;have I:=V ((ad.out.kept ((Z.refl [r] w2).drewN nq) a7 a5).kept a9 a7 a5);clear a9 ah ae;have c3:=aN I.out.du 3;dsimp at c3;have az:=eS I.out.du;have aB:=eS aj.out;have aS:=ai.out.size;go_wp2_with (at_builtin;refine fw _ rfl _ _ 136 rfl w0.heap.size 295 i0 (.agg #[Y gU,Y gU]) 2 32 underlying136 hi aL aM aP rfl (by decide) _ _ _ rfl (I.out.own.alloc _) ⟨w3.heap.size,0,none⟩ 1 1 [Y na,Y vt] rfl ?c1 ?c2 ?c3 ?c4 ?c5 ?c6 ?_)
   case c1=>rfl
   case c2=>
    intro j u hj
    match j,hj with
    |0,hj=>simp at hj;subst hj;simp[Addr.add]
    |1,hj=>simp at hj;subst hj;simp[Addr.add]
   case c3=>intro u hu;simp at hu;rcases hu with rfl|rfl<;>rfl
   case c4=>unfold maxLen;omega
   case c5=>omega
   case c6=>simp;omega
   intro v' w4 a4 Q aI;have⟨ao',z,hv⟩:=cP a4;subst hv;have an:∀k,(Value.slice ao L.length cp).ownBlock=some k->k≠tb:=by
    intro k hk;rcases I.out.own.2 with⟨h,_⟩|⟨g',z,aH,h,_,hc,_⟩;rw[h]at hk;cases hk;rw[h]at hk;obtain rfl:=je hk;exact wR hc I.out.du (by decide)
   have aE:Z [r] w0 w4:=(ai.out.alloc _).grown Q (λk hk=> .inr (I.out.own.lt k hk).1);have t4:w4.heap[tb]?=some (cV #[G x,G y,Y nm,.slice ao L.length cp] 193):=by
    rw[Q.block tb (by simp;omega) (λh=>an tb h.symm rfl),Below.heap_alloc _ _ _ az];exact I.out.du
   have r4:Rd w4 r R bg (nL R m):=by
    show w4.heap[r]?=_;rw[Q.block r (by simp;omega) (λh=>by have:=(I.out.own.lt r h.symm).1;omega),Below.heap_alloc _ _ _ aB];exact aj.out
   have d3:=aN t4 3;have f3:=cQ t4 3;dsimp at d3;have t5:=bJ t4 3 (.slice ao' (L.length+1) z);have r5:Rd (w4.setCell ⟨tb,3,none⟩ (.slice ao' (L.length+1) z)) r R bg (nL R m):=(Below.heap_setCell w4 ⟨tb,3,none⟩ _ r (by omega)).trans r4;have o5:(w4.setCell ⟨tb,3,none⟩ (.slice ao' (L.length+1) z)).ownsRow w0.heap.size 295 2 (.slice ao' (L.length+1) z) (L++[(na,vt)]).length (pH (L++[(na,vt)])):=by
    rw[Lt,XD];refine xC a4 ?_ _;intro hk;rcases a4.2 with⟨h,_⟩|⟨g',z,aH,h,_,hc,_⟩;omega;grind
   have HF:Hid (∃af,AO (w4.setCell ⟨tb,3,none⟩ (.slice ao' (L.length+1) z)) w0.heap.size tb x y nm af (sr L na vt)/\Z [r] w0 (w4.setCell ⟨tb,3,none⟩ (.slice ao' (L.length+1) z))/\Rd (w4.setCell ⟨tb,3,none⟩ (.slice ao' (L.length+1) z)) r R bg (nL R m)):=
    ⟨_,by rw[show sr L na vt=L++[(na,vt)] by unfold sr;rw[<-ak.out,hin];rfl];exact⟨t5,o5⟩,aE.setCell (.inr a5) _,r5⟩
   clear t5 r5 o5 r4 t4 aE an a4 Q aI c3;go_wp2;go_end0;exact⟨rfl,by rw[ax.out];exact HF.out⟩
 .skip
  have ec:(!true&&!decide (m=R.cs.size)&&decide (R.at_<=(L.length:Int)))=false:=by simp
  rw[ec];clear ec;simp only[lZ,rP,if_true];go_enter func296,ntmps296;go_wp21;refine CN.out.mono ?_;rintro e w1⟨rfl,T,a8⟩;have D:=V (HT.out.kept T a7 a5);have ap:=V (aw.out.trans T);have ar:=V a8;have aq:=V T;have a0:=aN D.out.du 0;have a1:=aN D.out.du 1;have a2:=aN D.out.du 2;have a3:=aN D.out.du 3;dsimp at a0 a1 a2 a3;have CH:=Yl w0.heap.size x y nm na _ L w1 D.out.own (by omega);rw[<-ak.out,hin]at CH;have ac:=V CH;clear CH T a8 CN;go_wp21;refine ac.out.mono ?_;rintro e w2⟨rfl,F⟩;have ab:=V (aq.out.trans (F.mono (by simp)));have aa:=V (ap.out.trans (F.mono (by simp)));have K:=V (ar.out.kept F (by simp));have ad:=V (D.out.kept (F.mono (by simp)) a7 a5);clear F ac a0 a1 a2 a3;have b3:=aN ad.out.du 3;dsimp at b3;have b4:=K.out.Dz;have C:=V (λw' (h:Rd w' r R bg m)=>mB r R bg m w' h);go_wp21
  go_quiet ((go_at_call 81;refine XB (C.out _ ?_);exact K.out))
  clear b3 b4;have ae:=V (HV.out (w2.drewN nq) (show Rd (w2.drewN nq) r R bg m from K.out) (HN.out.kept (ab.out.drewN _)) (HG.out.kept (ab.out.drewN _)));go_wp21;refine ae.out.mono ?_;rintro e w3⟨rfl,a9,ah⟩;have ai:=V ((aa.out.drewN nq).trans a9);have aj:=V ah;have I:=V ((ad.out.kept ((Z.refl [r] w2).drewN nq) a7 a5).kept a9 a7 a5);clear a9 ah ae;have HF:Hid (∃af,AO w3 w0.heap.size tb x y nm af (sr L na vt)/\Z [r] w0 w3/\Rd w3 r R bg (nL R m)):=
   ⟨_,by rw[show sr L na vt=L by unfold sr;rw[<-ak.out,hin];rfl];exact I.out,ai.out,aj.out⟩
  go_wp2;go_end0;exact⟨rfl,by rw[ax.out];exact HF.out⟩
inductive Iv where
 |stop
 |lost
 |whole (e:Nat) (L:iD)
def eK(R:RC)(ps:Nat):Nat:=scan (λc=>!fp ⟨#[32,9,10,12,47]⟩ c) R.cs ps
def abd(h:ps<=R.cs.size):eK R ps<=R.cs.size:=nF h
theorem pq:ps<=eK R ps:=qf
def gV(R:RC)(look:O->Option O)(lg:Nat)(L:iD)(ps:Nat):Iv:=
 if h:eK R ps<R.cs.size then
  if pre (R.cs.extract (eK R ps) R.cs.size) eA=true then .whole (eK R ps+1) L
  else if pw R (L.map (·.1)) (eK R ps)=true then .stop
  else gV R look lg (nM R look lg L (eK R ps)) (nL R (gR R (eK R ps)))
 else .lost
  termination_by R.cs.size-ps
  decreasing_by
 have e:=pq (R:=R) (ps:=ps);have k:=qs (R:=R) (ps:=eK R ps);have m:=uR (R:=R) (ps:=gR R (eK R ps));omega
def uC(R:RC)(ps:Nat):Nat:=scan (fp eW) R.cs ps
def Y0(h:ps<=R.cs.size):uC R ps<=R.cs.size:=nF h
def ah8:ps<=uC R ps:=qf
theorem GD:(nM R look lg L ps).length<=L.length+1:=by
 grind[nM,sr]
def vD(R:RC)(ps:Nat):O:=kO (small (R.cs.extract ps (uC R ps)))
def Rd.oP(h:Rd w r R bg ps){p:Addr}(k:p.block≠r)(u:cY):Rd (w.setCell p u) r R bg ps:=(Below.heap_setCell w p u r (λe=>k e.symm)).trans h
theorem abq{base:Nat}{e:TypeId}(D:w.ownsRow base e sz v n xs){t:TypeId}(E:w.heap[b]?=some (cV c t))(z:e≠t):∀k,v.ownBlock=some k->k≠b:=by
 rintro k h rfl;rcases D.2 with⟨e2,_⟩|⟨I,m,u,e2,_,F,_⟩;rw[e2]at h;cases h;rw[e2]at h;obtain rfl:=je h;grind
def XO(w:J)(r:Nat)(R:RC)(bg:Nat)(cut:Nat->Nat)(nm:O)(e:Ending)(w':J):Iv->Prop
 | .stop=>∃k,e=.panicked [{v:=.iface 76 (cW k),recovered:=false}]/\Xn w' k 7 (cut bg)/\w.heap.size<=k/\Z [r] w w'
 | .lost=>e=dw (.tuple #[.agg #[G 0,G 0,Y gU,gq],.bool false])/\Z [r] w w'/\Rd w' r R bg R.cs.size
 | .whole m L=>(∃h u,e=dw (.tuple #[.agg #[G (cut bg),G (cut m),Y nm,.slice h L.length u],.bool true])/\w'.ownsRow w.heap.size 295 2 (.slice h L.length u) L.length (pH L))/\Z [r] w w'/\Rd w' r R bg m
theorem Y2(r:Nat)(R:RC)(bg ps g cap b lg:Nat)(look:O->Option O)(cut:Nat->Nat)(w:J)(h:Rd w r R bg ps)(hA:MH w r R g cap cut)(hN:Nm w r R b lg look)(hG:Gl w r)
  (hb:bg<=R.cs.size) (hp:ps<=R.cs.size) (hs:R.cs.size<=1024):
  Calls prog 247 #[cW r] w λe w'=>XO w r R bg cut (vD R ps) e w' (gV R look lg [] (uC R ps)):=by
 obtain⟨b7,HO⟩:∃b7,b7=gV R look lg [] (uC R ps):=⟨_,rfl⟩;rw[<-HO];obtain⟨nm,ah⟩:∃nm,nm=vD R ps:=⟨_,rfl⟩;rw[<-ah];have ac:kO (small (R.cs.extract ps (scan (fp eW) R.cs ps)))=nm:=ah.symm;have aL:=V ac;clear ah ac;have hr:=eS h;obtain⟨T,a7⟩:∃T,T=w.alloc (.cells #[G 0,G 0,Y gU,gq] 193):=⟨_,rfl⟩;have ar:T.heap[w.heap.size]?=some (cV #[G 0,G 0,Y gU,gq] 193):=by rw[a7];exact aY w _
 have a1:Z [] w T:=by rw[a7];exact(Z.refl _ _).alloc _
 have z0:T.heap.size=w.heap.size+1:=by rw[a7];simp
 have ay:=h.kept a1 (by simp);have ha:=Y0 (R:=R) hp;have CU:=yx r R bg ps eW T ay hp hs;have HA:=hA.kept (a1.mono (by simp));have HN:=hN.kept (a1.mono (by simp));have HG:=hG.kept (a1.mono (by simp));have HW:=V a7.symm;have aA:(R.cs.extract ps (scan (fp eW) R.cs ps)).size<=1048576:=by simp;omega
 have HZ:=V z0;clear h hA hN hG a7 z0 ay;go_enter func247,ntmps247;go_wp21;rw[HW.out];refine(mN _ T).mono ?_;rintro e w1⟨rfl,rfl⟩;go_wp21;refine CU.mono ?_;rintro e w2⟨rfl,am,aE⟩;have aP:Hid (Rd w2 r R bg (uC R ps)):=aE;have CR:=yl r _ w2 aA (HG.kept am);clear aE CU aA;go_wp21;refine CR.mono ?_;rintro e w3⟨rfl,af⟩;have an:=am.trans (af.mono (by simp));have aQ:=aP.out.kept af (by simp);clear af CR;rw[aL.out];obtain⟨w4,ab⟩:∃w4,w4=w3.alloc (.cells #[G 0,G 0,Y nm,gq] 193):=⟨_,rfl⟩;have ak:Z [] w3 w4:=by rw[ab];exact(Z.refl _ _).alloc _
 have aT:Hid (AO w4 T.heap.size w3.heap.size 0 0 nm (gq) []):=⟨by rw[ab];exact aY w3 _,mh _ _ _ _⟩;have aI:=an.trans (ak.mono (by simp));have aR:=aQ.kept ak (by simp);have D:=an.size;have aW:=V ab.symm;clear ak ab;go_wp21;rw[aW.out]
 go_loopw [] (λwr=>∃(i:Nat)(av:cY)(L:iD),i<=R.cs.size/\L.length<=i/\gV R look lg L i=b7/\AO wr T.heap.size w3.heap.size 0 0 nm av L/\Z [r] T wr/\Rd wr r R bg i) (λwr=>R.cs.size-(match wr.cell? ⟨r,3,none⟩with|some v=>(intOf v).toNat|none=>0))
 case atStart=>exact⟨uC R ps,_,[],ha,yQ _,HO.symm,aT.out,aI,aR⟩
 case round=>
  have⟨i,av,L,hi,hLi,htg,HT,HKW,hrd⟩:=hrel;have a9:=V htg;have CP:=uv r R bg i ⟨#[32,9,10,12,47]⟩ wr hrd hi hs;have P0:=hrd.ps;have aC:=abd (R:=R) hi;have b5:=pq (R:=R) (ps:=i);clear htg hrd;go_wp21;refine CP.mono ?_;rintro e w5⟨rfl,ag,ai⟩;have ae:Hid (Rd w5 r R bg (eK R i)):=ai;have a8:=HKW.trans ag;have aw:=HT.kept ag (by have:=HZ.out;omega) D;have CE:=mB r R bg (eK R i) w5 ai;clear ag ai CP;by_cases a4:eK R i=R.cs.size
  .have eO:b7=.lost:=by rw[<-a9.out,gV,dif_neg (by omega)]
   have EO:=V eO;have e3:decide (eK R i=R.cs.size)=true:=by simp[a4]
   rw[e3]at CE;have a3:=V CE;have E:=a8.at ar (by simp;omega);have d0:=aN E 0;have d1:=aN E 1;have d2:=aN E 2;have d3:=aN E 3;have f0:=cQ E 0;have f1:=cQ E 1;have f2:=cQ E 2;have f3:=cQ E 3;dsimp at d0 d1 d2 d3;clear CE e3 eO E;go_wp21;refine a3.out.mono ?_;rintro e w6⟨rfl,q,rfl⟩;go_wp2;have ap:=(a1.mono (S':=[r]) (by simp)).trans a8;have K:w.heap.size≠r:=by omega
   rw[EO.out];refine nr (v:=.tuple #[.agg #[G 0,G 0,Y gU,gq],.bool false]) ?_ rfl ⟨rfl,?_,?_⟩
   .simp[results,results247,asAddr,Result.andThen,go_sem,d0,d1,d2,d3]
   exact((((ap.drewN q).setCell (.inr (dr _)) _).setCell (.inr (dr _)) _).setCell (.inr (dr _)) _).setCell (.inr (dr _)) _;have h6:Rd (w5.drewN q) r R bg R.cs.size:=by rw[<-a4];exact ae.out
   exact(((h6.oP K _).oP K _).oP K _).oP K _
  .have e3:decide (eK R i=R.cs.size)=false:=by simp[a4]
   have a5:eK R i<R.cs.size:=by omega
   rw[e3]at CE;have a3:=V CE;clear CE e3;cases hgt:pre (R.cs.extract (eK R i) R.cs.size) eA
   .have a6:taken R eA (eK R i)=eK R i:=by unfold taken;rw[cZ (by simp[hgt])]
    have a0:=λq=>js r R bg (eK R i) eA (w5.drewN q) (show Rd (w5.drewN q) r R bg _ from ae.out) aC hs (by decide);rw[hgt,a6]at a0;clear a6;go_wp21;refine a3.out.mono ?_;rintro e w6⟨rfl,q,rfl⟩;go_wp21;refine(a0 q).mono ?_;rintro e w7⟨rfl,a2,aF⟩;have Q:=(a8.drewN q).trans a2;have az:=(aw.kept ((Z.refl [r] w5).drewN q) (by have:=HZ.out;omega) D).kept a2 (by have:=HZ.out;omega) D;have CA:=Lw r w3.heap.size R bg (eK R i) g cap b lg look cut 0 0 nm av L T w7 Q (by have:=HZ.out;omega) D aF (HA.kept Q) (HN.kept Q) (HG.kept Q) az hb a5 hs (by omega);clear a2 aF az a0 a3;go_wp21;refine CA.mono ?_;intro e w8 I;by_cases aa:pw R (L.map (·.1)) (eK R i)=true
    .rw[dd aa]at I;obtain⟨k,rfl,aH,b6,z⟩:=I;have eO:b7=.stop:=by rw[<-a9.out,gV,wI a5,cZ (by simp[hgt]),dd aa]
     have HF:Hid (XO w r R bg cut nm (.panicked [{v:=.iface 76 (cW k),recovered:=false}]) w8 b7):=by
      rw[eO];exact⟨k,rfl,aH,by have:=HZ.out;omega,(a1.mono (S':=[r]) (by simp)).trans z⟩
     clear aH z eO CA;go_wp2;exact⟨rfl,HF.out⟩
    .rw[cZ aa]at I;obtain⟨rfl,aX,m,z,aj⟩:=I;have ax:gV R look lg (nM R look lg L (eK R i)) (nL R (gR R (eK R i)))=b7:=by
      rw[<-a9.out,gV.eq_1 R look lg L i,wI a5,cZ (by simp[hgt]),cZ aa]
     have b0:=GD (R:=R) (look:=look) (lg:=lg) (L:=L) (ps:=eK R i);have h2:=qs (R:=R) (ps:=eK R i);have h3:=uR (R:=R) (ps:=gR R (eK R i));have h4:=aby (R:=R) (JV (R:=R) a5);have au:Hid (∃(i':Nat)(av:cY)(L:iD),i'<=R.cs.size/\L.length<=i'/\gV R look lg L i'=b7/\AO w8 T.heap.size w3.heap.size 0 0 nm av L/\Z [r] T w8/\Rd w8 r R bg i'):=
      ⟨_,aX,_,h4,by omega,ax,m,z,aj⟩
     have P8:=aj.ps;have aD:R.cs.size-nL R (gR R (eK R i))<R.cs.size-i:=by omega
     clear m z aj ax b0 CA h2 h3 h4;go_wp2;go_roundw
     case rel=>exact au.out
     case measure=>rw[P8,P0];simpa [intOf]using aD
   .have a6:taken R eA (eK R i)=eK R i+1:=by unfold taken;rw[dd hgt];rfl
    have a0:=λq=>js r R bg (eK R i) eA (w5.drewN q) (show Rd (w5.drewN q) r R bg _ from ae.out) aC hs (by decide);rw[hgt,a6]at a0;have eO:b7=.whole (eK R i+1) L:=by rw[<-a9.out,gV,wI a5,dd hgt]
    have EO:=V eO;clear a6 eO;go_wp21;refine a3.out.mono ?_;rintro e w6⟨rfl,q,rfl⟩;go_wp21;refine(a0 q).mono ?_;rintro e w7⟨rfl,a2,aq⟩;have Q:=(a8.drewN q).trans a2;have aU:=(aw.kept ((Z.refl [r] w5).drewN q) (by have:=HZ.out;omega) D).kept a2 (by have:=HZ.out;omega) D;have al:=nZ r R bg (eK R i+1) g cap cut w7 aq (HA.kept Q) hb (by omega) hs;clear a2 a0 a3;go_wp21;refine al.mono ?_;rintro e w8⟨rfl,z⟩;have aK:=(a1.mono (S':=[r]) (by simp)).trans (Q.trans (z.mono (by simp)));have m:=aU.kept (z.mono (by simp)) (r:=r) (by have:=HZ.out;omega) D;have aS:=aq.kept z (by simp);have F:=(Q.trans (z.mono (by simp))).at ar (by simp;omega);have⟨ao,cp,hav⟩:=cP m.own;subst hav;have t0:=aN m.du 0;have t1:=aN m.du 1;have t2:=aN m.du 2;have t3:=aN m.du 3;have g0:=cQ m.du 0;have g1:=cQ m.du 1;have d0:=aN F 0;have d1:=aN F 1;have d2:=aN F 2;have d3:=aN F 3;have f0:=cQ F 0;have f1:=cQ F 1;have f2:=cQ F 2;have f3:=cQ F 3;dsimp at t0 t1 t2 t3 d0 d1 d2 d3;have b1:w.heap.size≠w3.heap.size:=by have:=D;have:=HZ.out;omega
    have b2:w3.heap.size≠w.heap.size:=λh=>b1 h.symm;have aM:=m.own;have b3:=abq m.own m.du (by decide);clear m F z al;go_wp2;rw[EO.out];have K:w.heap.size≠r:=by omega
    have ad:w3.heap.size≠r:=by have:=D;have:=HZ.out;omega
    have aB:w.heap.size<=w3.heap.size:=by have:=D;have:=HZ.out;omega
    refine nr (v:=.tuple #[.agg #[G (cut bg),G (cut (eK R i+1)),Y nm,.slice ao L.length cp],.bool true]) ?_ rfl ⟨⟨_,_,rfl,?_⟩,?_,?_⟩
    .simp[results,results247,asAddr,Result.andThen,go_sem,d0,d1,d2,d3]
    have b4:∀(p:Addr)(u:cY)(W:J),(p.block=w.heap.size\/p.block=w3.heap.size)->W.ownsRow T.heap.size 295 2 (.slice ao L.length cp) L.length (pH L)->(W.setCell p u).ownsRow T.heap.size 295 2 (.slice ao L.length cp) L.length (pH L):=by
     intro p u W hp ho;refine xC ho ?_ u;intro e;rcases hp with hp|hp;have:=(aM.lt _ e).1;have:=HZ.out;omega;grind
    refine gS (base:=T.heap.size) ?_ (by have:=HZ.out;omega);grind;exact(((((aK.setCell (.inr aB) _).setCell (.inr aB) _).setCell (.inr (dr _)) _).setCell (.inr (dr _)) _).setCell (.inr (dr _)) _).setCell (.inr (dr _)) _;exact(((((aS.oP ad _).oP ad _).oP K _).oP K _).oP K _).oP K _
def Do(R:RC)(ps:Nat):Bool:=decide (ps<R.cs.size)&&decide (97<=bt R.cs ps/\bt R.cs ps<=122\/65<=bt R.cs ps/\bt R.cs ps<=90)
def AW(r:Nat)(R:RC)(bg ps:Nat)(w:J)(h:Rd w r R bg ps)(k:ps<=R.cs.size)(hs:R.cs.size<=1024):
  Calls prog 155 #[cW r,.func (.func 156) #[] #[]] w λe w'=>e=dw (.bool (Do R ps))/\∃n,w'=w.drewN n:=
 JG r R bg ps _ _ _ w h k hs (SO w [r])
theorem agx(s:O)(a:Nat)(h:a<s.size):(s.extract a s.size).extract 0 1=s.extract a (a+1):=by
 grind[ByteArray.ext,ByteArray.data_extract]
theorem YM{a b:Int}(e:Z [r] w W)(h:Rd W r R bg ps)(g:W.heap[w.heap.size]?=some (cV #[G 0,G 0,Y gU] 187))(k:r≠w.heap.size):
  Z [r] w (((W.setCell ⟨w.heap.size,0,none⟩ (G a)).setCell ⟨w.heap.size,1,none⟩ (G b)).setCell ⟨w.heap.size,2,none⟩ (Y s))/\Rd (((W.setCell ⟨w.heap.size,0,none⟩ (G a)).setCell ⟨w.heap.size,1,none⟩ (G b)).setCell ⟨w.heap.size,2,none⟩ (Y s)) r R bg ps/\(((W.setCell ⟨w.heap.size,0,none⟩ (G a)).setCell ⟨w.heap.size,1,none⟩ (G b)).setCell ⟨w.heap.size,2,none⟩ (Y s)).heap[w.heap.size]?=some (cV #[G a,G b,Y s] 187):=by
 exact⟨((e.setCell (.inr (dr _)) _).setCell (.inr (dr _)) _).setCell (.inr (dr _)) _,h.kept ((((Z.refl [w.heap.size] W).setCell (.inl (by simp)) _).setCell (.inl (by simp)) _).setCell (.inl (by simp)) _) (by grind),bJ (bJ (bJ g 0 _) 1 _) 2 _⟩
def Cy(r:Nat)(R:RC)(bg ps g cap b lg:Nat)(look:O->Option O)(cut:Nat->Nat)(w:J)(h:Rd w r R bg ps)(hA:MH w r R g cap cut)(hN:Nm w r R b lg look)(hb:bg<R.cs.size)(hs:R.cs.size<=1024):
  Calls prog 87 #[cW r] w λe w'=>e=dw (.agg #[G (cut bg),G (cut (bg+nS look lg (R.cs.extract bg R.cs.size))),Y (oA look lg (R.cs.extract bg R.cs.size))])/\Z [r] w w'/\Rd w' r R bg (bg+nS look lg (R.cs.extract bg R.cs.size)):=by
 have t1:=h.text;have b1:=h.bg;have m1:=h.mv;have l1:=h.lg;rw[hN.mv]at m1;rw[hN.lgv]at l1;have hr:=eS h;have a5:(R.cs.extract bg R.cs.size).size=R.cs.size-bg:=by simp
 have a6:=BT (look:=look) (lg:=lg) (s:=R.cs.extract bg R.cs.size) (inV:=false);rw[a5]at a6;have C1:=(λW (z:Z [] w W)=>TH b lg look (R.cs.extract bg R.cs.size) false W (hN.lk.kept z (by simp)) hN.le (by omega));have C2:=(λW (z:Z [] w W)=>Cs r R bg ps g cap cut W (h.kept z (by simp)) (hA.kept (z.mono (by simp))) hb hs);have I:=(Z.refl [] w).alloc (cV #[G 0,G 0,Y gU] 187);have a1:=aY w (cV #[G 0,G 0,Y gU] 187);have u:=(show w.heap.size≠r by omega);have HR:=h;have HA:=hA;have a0:=V (agx R.cs bg hb);have HS:=V (show nS look lg (R.cs.extract bg R.cs.size)=if jq look lg (R.cs.extract bg R.cs.size) false=0 then 1 else jq look lg (R.cs.extract bg R.cs.size) false from rfl);have HT:=V (show oA look lg (R.cs.extract bg R.cs.size)=if jq look lg (R.cs.extract bg R.cs.size) false=0 then (R.cs.extract bg R.cs.size).extract 0 1 else lu look lg (R.cs.extract bg R.cs.size) false from rfl);generalize nS look lg (R.cs.extract bg R.cs.size)=cz at *;generalize oA look lg (R.cs.extract bg R.cs.size)=ct at *;generalize jq look lg (R.cs.extract bg R.cs.size) false=n at *;generalize lu look lg (R.cs.extract bg R.cs.size) false=rt at *;go_enter func87,ntmps87;go_wp21
 go_cut [3,4]from 5 to 21 (λtv nv wc=>tv=Y rt/\nv=G n/\Z [] w wc/\wc.heap[w.heap.size]?=some (cV #[G 0,G 0,Y gU] 187))
 case first=>
  go_region_with (go_at_call 164;refine(C1 _ I.drew).mono ?_;rintro e w1⟨rfl,E⟩;have a4:=V ((I.drew).trans E);have a2:=V ((((Z.refl [] _).drew).trans E).at a1 (by simp));clear E)
  all_goals (try (go_wp21))
  all_goals (go_meet;exact⟨rfl,rfl,a4,a2⟩)
 case rest=>
  obtain⟨rfl,rfl,z,hg⟩:=hcut;have HK:=z;have HG:=hg;have rc:=HR.kept z (by simp);by_cases hn:n=0
  .have C3:=C2 wc z;have T:cz=1:=by rw[HS.out,dd hn]
   have et:ct=R.cs.extract bg (bg+1):=by rw[HT.out,dd hn,a0.out]
   have F:=V T;have ET:=V et;clear T et;subst hn;go_wp21;refine C3.mono ?_;rintro e w2⟨rfl,m,a7⟩;have k:=m.at HG (by simpa using u);have q0:=aN k 0;have q1:=aN k 1;have q2:=aN k 2;have z0:=cQ k 0;have z1:=cQ k 1;have z2:=cQ k 2;dsimp at q0 q1 q2;have D:=YM (a:=(cut bg:Int)) (b:=(cut (bg+1):Int)) (s:=R.cs.extract bg (bg+1)) ((HK.mono (by simp)).trans m) a7 k (λe=>u e.symm);go_wp2;refine nr (v:=.agg #[G (cut bg),G (cut (bg+1)),Y (R.cs.extract bg (bg+1))]) ?_ rfl ⟨by rw[F.out,ET.out],D.1,by rw[F.out];exact D.2.1⟩;have hc:=aN D.2.2;simp[results,results87,asAddr,Result.andThen,go_sem,hc]
  .have T:cz=n:=by rw[HS.out,cZ hn]
   have et:ct=rt:=by rw[HT.out,cZ hn]
   have F:=V T;have ET:=V et;have a8:((n:Int)==0)=false:=beq_eq_false_iff_ne.2 (by omega);have b2:=rc.bg;have f2:=rc.free 3;have p2:=rc.ps;have K:=(z.mono (S':=[r]) (by simp)).setCell (p:=⟨r,3,none⟩) (.inl (by simp)) (G ((bg+n:Nat)));have Q:=rc.Oa (bg+n);have a3:=(((Z.refl [r] wc).setCell (p:=⟨r,3,none⟩) (.inl (by simp)) (G ((bg+n:Nat))))).at hg (by simpa using u);have C3:=nZ r R bg (bg+n) g cap cut _ Q (HA.kept K) (by omega) (by omega) hs;clear T et;go_wp21;refine C3.mono ?_;rintro e w2⟨rfl,m⟩;have k:=m.at a3 (by simp);have q0:=aN k 0;have q1:=aN k 1;have q2:=aN k 2;have z0:=cQ k 0;have z1:=cQ k 1;have z2:=cQ k 2;dsimp at q0 q1 q2;have D:=YM (a:=(cut bg:Int)) (b:=(cut (bg+n):Int)) (s:=rt) (K.trans (m.mono (by simp))) (Q.kept m (by simp)) k (λe=>u e.symm);go_wp2;refine nr (v:=.agg #[G (cut bg),G (cut (bg+n)),Y rt]) ?_ rfl ⟨by rw[F.out,ET.out],D.1,by rw[F.out];exact D.2.1⟩;have hc:=aN D.2.2;simp[results,results87,asAddr,Result.andThen,go_sem,hc]
inductive OA where
 |QP
 |UW (t:O)
 |TY (nm:O) (L:iD)
 |fin (nm:O) (L:iD)
 |QN (t:O)
 |dtp (nm:O) (q:Bool)
 |lost
inductive wO where
 |stop
 |tok (kd:OA) (e:Nat)
def Zo(base:Nat)(a b:Int)(v:cY)(w:J):OA->Prop
 | .QP=>v=.iface 185 (.agg #[G a,G b])
 | .UW t=>v=.iface 187 (.agg #[G a,G b,Y t])
 | .TY nm L=>∃e h,v=.iface 195 (.agg #[G a,G b,Y nm,.slice e L.length h])/\w.ownsRow base 295 2 (.slice e L.length h) L.length (pH L)
 | .fin nm L=>∃e h,v=.iface 196 (.agg #[G a,G b,Y nm,.slice e L.length h])/\w.ownsRow base 295 2 (.slice e L.length h) L.length (pH L)
 | .QN t=>v=.iface 197 (.agg #[G a,G b,Y t])
 | .dtp nm q=>v=.iface 199 (.agg #[G a,G b,Y nm,.bool q])
 | .lost=>v=.iface 189 (.agg #[G a,G b])
def Zo.base{base e:Nat}{a b:Int}{k:OA}(h:Zo base a b v w k)(m:e<=base):Zo e a b v w k:=by
 cases k with
 |TY nm L=>have⟨ao,cp,h1,h2⟩:=h;exact⟨ao,cp,h1,gS h2 m⟩
 |fin nm L=>have⟨ao,cp,h1,h2⟩:=h;exact⟨ao,cp,h1,gS h2 m⟩
 |_=>exact h
def lD(w:J)(r:Nat)(R:RC)(bg:Nat)(cut:Nat->Nat)(e:Ending)(w':J):wO->Prop
 | .stop=>∃k,e=.panicked [{v:=.iface 76 (cW k),recovered:=false}]/\Xn w' k 7 (cut bg)/\w.heap.size<=k/\Z [r] w w'
 | .tok kd m=>(∃v,e=dw v/\Zo w.heap.size (cut bg) (cut m) v w' kd)/\Z [r] w w'/\Rd w' r R bg m
def lD.back{w1:J}{e:Ending}{T:wO}(h:lD w1 r R bg cut e w' T)(u:Z [r] w w1):lD w r R bg cut e w' T:=by
 cases T with
 |stop=>have⟨k,h1,h2,h3,h4⟩:=h;exact⟨k,h1,h2,fK u.size h3,u.trans h4⟩
 |tok kd m=>have⟨⟨v,h1,h2⟩,h3,h4⟩:=h;exact⟨⟨v,h1,h2.base u.size⟩,u.trans h3,h4⟩
def qy(R:RC)(e:O->iD->OA)(nm:O):Iv->wO
 | .stop=> .stop
 | .lost=> .tok .lost R.cs.size
 | .whole m L=> .tok (e nm L) m
structure XK(w:J)(r:Nat)(R:RC)(g cap b lg:Nat)(look:O->Option O)(cut:Nat->Nat):Prop where
 cU:MH w r R g cap cut
 nms:Nm w r R b lg look
 gl:Gl w r
 small:R.cs.size<=1024
theorem XK.kept(h:XK w r R g cap b lg look cut)(e:Z [r] w w'):XK w' r R g cap b lg look cut:=
 ⟨h.cU.kept e,h.nms.kept e,h.gl.kept e,h.small⟩
def Xm(r:Nat)(R:RC)(bg ps g cap b lg:Nat)(look:O->Option O)(cut:Nat->Nat)(w:J)(h:Rd w r R bg ps)(D:XK w r R g cap b lg look cut)(hb:bg<=R.cs.size)(hp:ps<=R.cs.size):
  Calls prog 157 #[cW r] w λe w'=>lD w r R bg cut e w' (qy R .TY (vD R ps) (gV R look lg [] (uC R ps))):=by
 have C:=Y2 r R bg ps g cap b lg look cut w h D.cU D.nms D.gl hb hp D.small;have HO:=D;generalize vD R ps=nm at C|-;generalize gV R look lg [] (uC R ps)=a0 at C|-;cases a0 with
 |stop=>
  go_enter func157,ntmps157;go_wp21;refine C.mono ?_;rintro e z⟨k,rfl,H2,h3,H4⟩;go_wp2;exact⟨rfl,k,rfl,H2,h3,H4⟩
 |lost=>
  go_enter func157,ntmps157;go_wp21;refine C.mono ?_;rintro e z⟨rfl,HK,hr⟩;have F:Z [] z (z.alloc (.cells #[G 0,G 0,Y gU,gq] 193)):=(Z.refl _ _).alloc _;have I:=hr.kept F (by simp);have u:=HK.trans (F.mono (by simp));have CP:=nZ r R bg R.cs.size g cap cut _ I (HO.kept u).cU hb (dr _) HO.small;go_wp21;refine CP.mono ?_;rintro e w2⟨rfl,E⟩;have K:=u.trans (E.mono (by simp));have T:=I.kept E (by simp);go_wp2;go_ret;exact⟨⟨_,rfl,rfl⟩,K,T⟩
 |whole m L=>
  go_enter func157,ntmps157;go_wp21;refine C.mono ?_;rintro e z⟨⟨ao,cp,rfl,ho⟩,hk,hr⟩;have F:Z [] z (z.alloc (.cells #[G (cut bg),G (cut m),Y nm,.slice ao L.length cp] 193)):=(Z.refl _ _).alloc _;have I:=hr.kept F (by simp);have u:=hk.trans (F.mono (by simp));have Q:=ho.alloc (.cells #[G (cut bg),G (cut m),Y nm,.slice ao L.length cp] 193);go_wp2;go_ret;exact⟨⟨_,rfl,ao,cp,rfl,Q⟩,u,I⟩
def ac3(r:Nat)(R:RC)(bg ps g cap b lg:Nat)(look:O->Option O)(cut:Nat->Nat)(w:J)(h:Rd w r R bg ps)(D:XK w r R g cap b lg look cut)(hb:bg<=R.cs.size)(hp:ps<=R.cs.size):
  Calls prog 248 #[cW r] w λe w'=>lD w r R bg cut e w' (qy R .fin (vD R ps) (gV R look lg [] (uC R ps))):=by
 have C:=Y2 r R bg ps g cap b lg look cut w h D.cU D.nms D.gl hb hp D.small;have HO:=D;generalize vD R ps=nm at C|-;generalize gV R look lg [] (uC R ps)=a0 at C|-;cases a0 with
 |stop=>
  go_enter func248,ntmps248;go_wp21;refine C.mono ?_;rintro e z⟨k,rfl,H2,h3,H4⟩;go_wp2;exact⟨rfl,k,rfl,H2,h3,H4⟩
 |lost=>
  go_enter func248,ntmps248;go_wp21;refine C.mono ?_;rintro e z⟨rfl,HK,hr⟩;have F:Z [] z (z.alloc (.cells #[G 0,G 0,Y gU,gq] 193)):=(Z.refl _ _).alloc _;have I:=hr.kept F (by simp);have u:=HK.trans (F.mono (by simp));have CP:=nZ r R bg R.cs.size g cap cut _ I (HO.kept u).cU hb (dr _) HO.small;go_wp21;refine CP.mono ?_;rintro e w2⟨rfl,E⟩;have K:=u.trans (E.mono (by simp));have T:=I.kept E (by simp);go_wp2;go_ret;exact⟨⟨_,rfl,rfl⟩,K,T⟩
 |whole m L=>
  go_enter func248,ntmps248;go_wp21;refine C.mono ?_;rintro e z⟨⟨ao,cp,rfl,ho⟩,hk,hr⟩;have F:Z [] z (z.alloc (.cells #[G (cut bg),G (cut m),Y nm,.slice ao L.length cp] 193)):=(Z.refl _ _).alloc _;have I:=hr.kept F (by simp);have u:=hk.trans (F.mono (by simp));have Q:=ho.alloc (.cells #[G (cut bg),G (cut m),Y nm,.slice ao L.length cp] 193);go_wp2;go_ret;exact⟨⟨_,rfl,ao,cp,rfl,Q⟩,u,I⟩
def sP(R:RC)(look:O->Option O)(lg bg:Nat):wO:=.tok (.UW (oA look lg (R.cs.extract bg R.cs.size))) (bg+nS look lg (R.cs.extract bg R.cs.size))
def jc(R:RC)(look:O->Option O)(lg bg ps:Nat):wO:=
 if Do R ps=true then qy R .fin (vD R ps) (gV R look lg [] (uC R ps))
 else if pre (R.cs.extract ps R.cs.size) eA=true then .tok .lost (ps+1)
 else if ps=R.cs.size then sP R look lg bg
 else .tok (.QN (kO (R.cs.extract ps (scan (fp eA) R.cs ps)))) (pC R ps)
def LA(r:Nat)(R:RC)(bg ps g cap b lg:Nat)(look:O->Option O)(cut:Nat->Nat)(w:J)(h:Rd w r R bg ps)(hO:XK w r R g cap b lg look cut)(hb:bg<R.cs.size)(hp:ps<=R.cs.size):
  Calls prog 158 #[cW r] w λe w'=>lD w r R bg cut e w' (jc R look lg bg ps):=by
 have HO:=hO;have HR:=h;have hs:=hO.small;have CL:=AW r R bg ps w h hp hs;have ab:∀(fn:Fn)(first cap:fN)(w:J),(Instr.makeFunc fn first cap).run prog w=.ok (.func fn first cap) w:=λ_ _ _ _=>rfl;cases hl:Do R ps
 .rw[hl]at CL;have E:=V CL;have CT:=λq=>js r R bg ps eA (w.drewN q) (show Rd (w.drewN q) r R bg ps from HR) hp hs (by decide);clear CL;cases hgt:pre (R.cs.extract ps R.cs.size) eA
  .have a2:taken R eA ps=ps:=by unfold taken;rw[cZ (by simp[hgt])]
   rw[hgt,a2]at CT;have a0:=V CT;clear CT;by_cases D:ps=R.cs.size
   .have eT:jc R look lg bg ps=sP R look lg bg:=by unfold jc;rw[cZ (by simp[hl]),cZ (by simp[hgt]),dd D]
    rw[eT];have e3:decide (ps=R.cs.size)=true:=by simp[D]
    go_enter func158,ntmps158;go_wp21;refine E.mono ?_;rintro e w1⟨rfl,q,rfl⟩;go_wp21;refine(a0 q).mono ?_;rintro e w2⟨rfl,I,z⟩;have u:=((Z.refl [r] w).drewN q).trans I;have F:=mB r R bg ps w2 z;rw[e3]at F;go_wp21;refine F.mono ?_;rintro e w3⟨rfl,Q,rfl⟩;have CC:=Cy r R bg ps g cap b lg look cut (w2.drewN Q) (show Rd (w2.drewN Q) r R bg ps from z) (HO.kept (u.drewN Q)).cU (HO.kept (u.drewN Q)).nms hb hs;go_wp21;refine CC.mono ?_;rintro e w4⟨rfl,K,a1⟩;have HF:=(show lD w r R bg cut (dw (.iface 187 (.agg #[G (cut bg),G (cut (bg+nS look lg (R.cs.extract bg R.cs.size))),Y (oA look lg (R.cs.extract bg R.cs.size))]))) w4 (sP R look lg bg)from⟨⟨_,rfl,rfl⟩,(u.drewN Q).trans K,a1⟩);go_wp2;go_ret;exact HF
   .have eT:jc R look lg bg ps=.tok (.QN (kO (R.cs.extract ps (scan (fp eA) R.cs ps)))) (pC R ps):=by unfold jc;rw[cZ (by simp[hl]),cZ (by simp[hgt]),cZ D]
    rw[eT];have e3:decide (ps=R.cs.size)=false:=by simp[D]
    go_enter func158,ntmps158;go_wp21;refine E.mono ?_;rintro e w1⟨rfl,q,rfl⟩;go_wp21;refine(a0 q).mono ?_;rintro e w2⟨rfl,I,z⟩;have u:=((Z.refl [r] w).drewN q).trans I;have F:=mB r R bg ps w2 z;rw[e3]at F;go_wp21;refine F.mono ?_;rintro e w3⟨rfl,Q,rfl⟩;have a3:=HO.kept (u.drewN Q);have CC:=sF r R bg ps g cap cut (w2.drewN Q) (show Rd (w2.drewN Q) r R bg ps from z) a3.cU a3.gl (by omega) hp hs;go_wp21;refine CC.mono ?_;rintro e w4⟨rfl,K,a8⟩;have a6:=(u.drewN Q).trans K;go_wp2;go_ret;exact⟨⟨_,rfl,rfl⟩,a6,a8⟩
  .have a2:taken R eA ps=ps+1:=by unfold taken;rw[dd hgt];rfl
   have aa:ps+1<=R.cs.size:=jp hgt hp;rw[hgt,a2]at CT;have a0:=V CT;have eT:jc R look lg bg ps=.tok .lost (ps+1):=by unfold jc;rw[cZ (by simp[hl]),dd hgt]
   rw[eT];clear CT;go_enter func158,ntmps158;go_wp21;refine E.mono ?_;rintro e w1⟨rfl,q,rfl⟩;go_wp21;refine(a0 q).mono ?_;rintro e w2⟨rfl,I,z⟩;have u:=((Z.refl [r] w).drewN q).trans I;have CP:=nZ r R bg (ps+1) g cap cut w2 z (HO.kept u).cU (by omega) aa hs;go_wp21;refine CP.mono ?_;rintro e w3⟨rfl,a4⟩;have a5:=u.trans (a4.mono (by simp));have a7:=z.kept a4 (by simp);go_wp2;go_ret;exact⟨⟨_,rfl,rfl⟩,a5,a7⟩
 .rw[hl]at CL;have E:=V CL;have eT:jc R look lg bg ps=qy R .fin (vD R ps) (gV R look lg [] (uC R ps)):=by unfold jc;rw[dd hl]
  rw[eT];have CC:=(λq=>ac3 r R bg ps g cap b lg look cut (w.drewN q) (show Rd (w.drewN q) r R bg ps from HR) (HO.kept ((Z.refl [r] w).drewN q)) (by omega) hp);generalize qy R .fin (vD R ps) (gV R look lg [] (uC R ps))=T at CC|-;clear CL;cases T with
  |stop=>
   go_enter func158,ntmps158;go_wp21;refine E.mono ?_;rintro e w1⟨rfl,q,rfl⟩;go_wp21;refine(CC q).mono ?_;rintro e w1⟨k,rfl,H2,h3,h4⟩;have H4:=((Z.refl [r] w).drewN q).trans h4;have a9:w.heap.size<=k:=h3;go_wp2;exact⟨rfl,k,rfl,H2,a9,H4⟩
  |tok kd m=>
   go_enter func158,ntmps158;go_wp21;refine E.mono ?_;rintro e w1⟨rfl,q,rfl⟩;go_wp21;refine(CC q).mono ?_;rintro e w4⟨⟨v,rfl,hv⟩,K,a1⟩;have HF:=(show lD w r R bg cut (dw v) w4 (.tok kd m)from⟨⟨v,rfl,hv⟩,((Z.refl [r] w).drewN q).trans K,a1⟩);go_wp2;go_ret;exact HF
def isQ(R:RC)(ps:Nat):Bool:=decide (ps<R.cs.size)&&fp ⟨#[63]⟩ (bt R.cs ps)
def mu(R:RC)(look:O->Option O)(lg bg ps:Nat):wO:=
 if Do R ps=true then qy R .TY (vD R ps) (gV R look lg [] (uC R ps))
 else if pre (R.cs.extract ps R.cs.size) ⟨#[47]⟩=true then jc R look lg bg (ps+1)
 else if pre (R.cs.extract ps R.cs.size) ⟨#[33,45,45]⟩=true then .tok (.QN (kO (lG R (ps+3)))) (kZ R (ps+3))
 else if yL R jv ps=true then .tok (.dtp (Vt R (ps+8)) (dtQ R (ps+8))) (pC R (FU R (ps+8)))
 else if pre (R.cs.extract ps R.cs.size) ⟨#[33]⟩=true then .tok (.QN (kO (R.cs.extract (ps+1) (scan (fp eA) R.cs (ps+1))))) (pC R (ps+1))
 else if isQ R ps=true then .tok (.QN (kO (R.cs.extract ps (scan (fp eA) R.cs ps)))) (pC R ps)
 else sP R look lg bg
theorem SD(h:yL R s ps=true)(e:ps<=R.cs.size):ps+s.size<=R.cs.size:=by
 grind[yL]
theorem adH(r:Nat)(R:RC)(bg ps:Nat)(w:J)(h:Rd w r R bg ps)(u:ps<=R.cs.size)(hs:R.cs.size<=1024):
  Calls prog 155 #[cW r,.func (.func 254) #[] #[cW w.heap.size]] (w.alloc (.cells #[Y ⟨#[63]⟩] 9))
   λe w'=>e=dw (.bool (isQ R ps))/\Z [r] w w'/\Rd w' r R bg ps:=by
 have z:=eS h;have k:Z [] w (w.alloc (.cells #[Y ⟨#[63]⟩] 9)):=(Z.refl _ _).alloc _;refine(JG r R bg ps _ _ _ _ (k.at h (by simp)) u hs (Bk _ [r] _ ⟨#[63]⟩ (by simp) (by simp) (by grind))).mono ?_;rintro e w'⟨m,n,rfl⟩;exact⟨m,(k.mono (by simp)).drewN n,k.at h (by simp)⟩
def OU(r:Nat)(R:RC)(bg ps g cap b lg:Nat)(look:O->Option O)(cut:Nat->Nat)(w:J)(h:Rd w r R bg ps)(hO:XK w r R g cap b lg look cut)(hb:bg<R.cs.size)(Q:ps<=R.cs.size):
  Calls prog 86 #[cW r] w λe w'=>lD w r R bg cut e w' (mu R look lg bg ps):=by
 have hs:=hO.small;have ac:=AW r R bg ps w h Q hs;obtain⟨T,E⟩:∃T,mu R look lg bg ps=T:=⟨_,rfl⟩;rw[E];unfold mu at E;go_enter func86,ntmps86;go_wp21;refine ac.mono ?_;rintro e w1⟨rfl,q,rfl⟩;have a0:=(Z.refl [r] w).drewN q;have a6:Rd (w.drewN q) r R bg ps:=h;cases c0:Do R ps with
 |true=>
  rw[dd c0]at E;have u:=hO.kept a0;have K:=Xm r R bg ps g cap b lg look cut (w.drewN q) a6 u (by omega) Q;rw[E]at K;cases T with
  |stop=>
   go_wp21;refine K.mono ?_;rintro e wz⟨k,rfl,h2,h3,h4⟩;have HF:=lD.back (show lD (w.drewN q) r R bg cut _ wz .stop from⟨k,rfl,h2,h3,h4⟩) a0;go_wp2;exact⟨rfl,HF⟩
  |tok kd m=>
   go_wp21;refine K.mono ?_;rintro e wz⟨⟨v,rfl,hv⟩,D,z⟩;have HF:=lD.back (show lD (w.drewN q) r R bg cut (dw v) wz (.tok kd m)from⟨⟨v,rfl,hv⟩,D,z⟩) a0;go_wp2;go_ret;exact HF
 |false=>
  rw[cZ (by simp[c0])]at E;have a7:=js r R bg ps ⟨#[47]⟩ (w.drewN q) a6 Q hs (by decide);go_wp21;refine a7.mono ?_;rintro e w2⟨rfl,D,z⟩;have a1:=a0.trans D;unfold taken at z;cases c1:pre (R.cs.extract ps R.cs.size) ⟨#[47]⟩with
  |true=>
   rw[dd c1]at E z;have u:=hO.kept a1;have K:=LA r R bg (ps+1) g cap b lg look cut w2 z u hb (jp c1 Q);rw[E]at K;cases T with
   |stop=>
    go_wp21;refine K.mono ?_;rintro e wz⟨k,rfl,h2,h3,h4⟩;have HF:=lD.back (show lD w2 r R bg cut _ wz .stop from⟨k,rfl,h2,h3,h4⟩) a1;go_wp2;exact⟨rfl,HF⟩
   |tok kd m=>
    go_wp21;refine K.mono ?_;rintro e wz⟨⟨v,rfl,hv⟩,D,z⟩;have HF:=lD.back (show lD w2 r R bg cut (dw v) wz (.tok kd m)from⟨⟨v,rfl,hv⟩,D,z⟩) a1;go_wp2;go_ret;exact HF
  |false=>
   rw[cZ (by simp[c1])]at E z;have a8:=js r R bg ps ⟨#[33,45,45]⟩ w2 z Q hs (by decide);go_wp21;refine a8.mono ?_;rintro e w3⟨rfl,D,z⟩;have a2:=a1.trans D;unfold taken at z;cases c2:pre (R.cs.extract ps R.cs.size) ⟨#[33,45,45]⟩with
   |true=>
    rw[dd c2]at E z;have u:=hO.kept a2;have K:=(RD r R bg (ps+3) g cap cut w3 z u.cU u.gl (by omega) (jp c2 Q) hs);subst E;go_wp21;refine K.mono ?_;rintro e wz⟨rfl,D,I⟩;have F:=a2.trans D;go_wp2;go_ret;exact⟨⟨_,rfl,rfl⟩,F,I⟩
   |false=>
    rw[cZ (by simp[c2])]at E z;have a9:=Uu r R bg ps jv w3 z Q hs (by decide);go_wp21;refine a9.mono ?_;rintro e w4⟨rfl,D,z⟩;have a3:=a2.trans D;cases c3:yL R jv ps with
    |true=>
     rw[dd c3]at E z;have u:=hO.kept a3;have K:=(LL r R bg (ps+8) g cap cut w4 z u.cU u.gl (by omega) (SD c3 Q) hs);subst E;go_wp21;refine K.mono ?_;rintro e wz⟨rfl,D,I⟩;have F:=a3.trans D;go_wp2;go_ret;exact⟨⟨_,rfl,rfl⟩,F,I⟩
    |false=>
     rw[cZ (by simp[c3])]at E z;have aa:=js r R bg ps ⟨#[33]⟩ w4 z Q hs (by decide);go_wp21;refine aa.mono ?_;rintro e w5⟨rfl,D,z⟩;have a4:=a3.trans D;unfold taken at z;cases c4:pre (R.cs.extract ps R.cs.size) ⟨#[33]⟩with
     |true=>
      rw[dd c4]at E z;have u:=hO.kept a4;have K:=(sF r R bg (ps+1) g cap cut w5 z u.cU u.gl (by omega) (jp c4 Q) hs);subst E;go_wp21;refine K.mono ?_;rintro e wz⟨rfl,D,I⟩;have F:=a4.trans D;go_wp2;go_ret;exact⟨⟨_,rfl,rfl⟩,F,I⟩
     |false=>
      rw[cZ (by simp[c4])]at E z;go_wp21;refine(mN _ _).mono ?_;rintro e wq⟨rfl,rfl⟩;have ab:=adH r R bg ps w5 z Q hs;go_wp21;refine ab.mono ?_;rintro e w6⟨rfl,D,z⟩;have a5:=a4.trans D;have u:=hO.kept a5;cases c5:isQ R ps with
      |true=>
       rw[dd c5]at E;have K:=(sF r R bg ps g cap cut w6 z u.cU u.gl (by omega) Q hs);subst E;go_wp21;refine K.mono ?_;rintro e wz⟨rfl,D,I⟩;have F:=a5.trans D;go_wp2;go_ret;exact⟨⟨_,rfl,rfl⟩,F,I⟩
      |false=>
       rw[cZ (by simp[c5])]at E;have K:=(Cy r R bg ps g cap b lg look cut w6 z u.cU u.nms hb hs);subst E;go_wp21;refine K.mono ?_;rintro e wz⟨rfl,D,I⟩;have F:=a5.trans D;go_wp2;go_ret;exact⟨⟨_,rfl,rfl⟩,F,I⟩
def wo(t:O):O:=⟨(Lib.trimPrefix t.data.toList [60,47]).toArray⟩
def LK(t:O):Bool:=Lib.hasPrefix t.data.toList [60,47]
theorem Hs(t:O):(wo t).size<=t.size:=by
 have e2:(wo t).size=(Lib.trimPrefix _ _).length:=rfl;rw[(XE t),e2];unfold Lib.trimPrefix;grind
def Pw(R:RC)(nm:O)(ps:Nat):Bool:=
 LK (R.cs.extract ps R.cs.size)&&decide (nm.size<(wo (R.cs.extract ps R.cs.size)).size)&&((small ((wo (R.cs.extract ps R.cs.size)).extract 0 nm.size)).toList==nm.toList)&&fp eW (bt (wo (R.cs.extract ps R.cs.size)) nm.size)
def FD(v:cY)(W:J):Prop:=∃b,v=.func (.func 254) #[] #[cW b]/\b<W.heap.size/\W.cell? ⟨b,0,none⟩=some (Y eW)
def FD.k{v:cY}{W e:J}(h:FD v W)(k:Z [] W e):FD v e:=by
 have⟨b,h1,h2,h3⟩:=h;exact⟨b,h1,kL h2 k.size,(k.cell h2 (by simp)).trans h3⟩
theorem FD.new(W:J):FD (.func (.func 254) #[] #[cW W.heap.size]) (W.alloc (.cells #[Y eW] 9)):=by
 simp[FD]
def ajY(r:Nat)(R:RC)(bg ps:Nat)(nm:O)(w:J)(h:Rd w r R bg ps)(hp:ps<=R.cs.size)(hs:R.cs.size<=1024)(T:LK (R.cs.extract ps R.cs.size)=false):
  Calls prog 150 #[cW r,Y nm] w λe w'=>e=dw (.bool false)/\Z [] w w':=by
 have F:=V (vw r R bg ps w h hp hs);have hz:=Hs (R.cs.extract ps R.cs.size);have m:(R.cs.extract ps R.cs.size).size=R.cs.size-ps:=by simp
 rw[m]at hz;clear h m;generalize R.cs.extract ps R.cs.size=t at *;have D:=V (λw=>Tryz.strings_CutPrefix t nX w);simp only at D;rw[show(⟨(Lib.trimPrefix t.data.toList [60,47]).toArray⟩:O)=wo t from rfl,show Lib.hasPrefix t.data.toList [60,47]=LK t from rfl]at D;generalize wo t=s at *;rw[T]at D;obtain⟨u,hu⟩:∃u:O,u=⟨#[]⟩:=⟨_,rfl⟩;obtain⟨c,Q⟩:∃c:Int,c=0:=⟨_,rfl⟩;clear T hu Q;go_enter func150,ntmps150;go_wp21;refine F.out.mono ?_;rintro e w1⟨rfl,q,rfl⟩;go_wp21;refine(D.out _).mono ?_;rintro e w'⟨rfl,rfl⟩;go_wp21;refine tz (by rfl) ?_;refine ln (λ(g:Unit) z=>⟨#[cW r,Y nm,undef,undef,.bool false,Y s,.bool false,G nm.size,.tuple #[Y s,.bool false],cW r,Y t,.tuple #[Y s,.bool false],Y s,.bool false,Y nm,G nm.size,cd z 0 (.bool false),cd z 1 (.bool false),undef,undef,undef,undef,cd z 6 (.bool false),cd z 7 (.bool false),undef,undef,undef,undef,undef,undef,cd z 14 (.bool false),cd z 15 (.bool false),undef,undef,undef,undef,undef,cd z 21 (.bool false)],[]⟩) (λg z W=>Z [] w W) 23 [[],[0],[1],[1],[1],[1],[1],[6],[7],[7],[7],[7],[7],[7],[7],[14],[15],[15],[15],[15],[15],[15],[21]] (()) rfl (by rfl) (((Z.refl [] w).drewN q).drew) ?_ ?_
 .repeat' first|exact iU|refine iT ?_ ?_
  all_goals
   rintro g z W E K hn;simp[yU]at K;refine jO rfl ?_;intro K' I;simp only[iL,K];go_simp
   first
   |refine I _ _ ⟨g,?_,E⟩
   simp[lF,td,iL,K]
 .rintro g W E;simp only[sv];have HW:=V E;clear E;rename_i KK k;refine k _ _ ?_;clear k KK;go_wp2;go_ret;exact⟨rfl,HW.out⟩
def ajZ(r:Nat)(R:RC)(bg ps:Nat)(nm:O)(w:J)(h:Rd w r R bg ps)(hp:ps<=R.cs.size)(hs:R.cs.size<=1024)(T:LK (R.cs.extract ps R.cs.size)=true)(hl:¬nm.size<(wo (R.cs.extract ps R.cs.size)).size):
  Calls prog 150 #[cW r,Y nm] w λe w'=>e=dw (.bool false)/\Z [] w w':=by
 have F:=V (vw r R bg ps w h hp hs);have hz:=Hs (R.cs.extract ps R.cs.size);have m:(R.cs.extract ps R.cs.size).size=R.cs.size-ps:=by simp
 rw[m]at hz;clear h m;generalize R.cs.extract ps R.cs.size=t at *;have D:=V (λw=>Tryz.strings_CutPrefix t nX w);simp only at D;rw[show(⟨(Lib.trimPrefix t.data.toList [60,47]).toArray⟩:O)=wo t from rfl,show Lib.hasPrefix t.data.toList [60,47]=LK t from rfl]at D;generalize wo t=s at *;rw[T]at D;obtain⟨u,hu⟩:∃u:O,u=⟨#[]⟩:=⟨_,rfl⟩;obtain⟨c,Q⟩:∃c:Int,c=0:=⟨_,rfl⟩;have HL:=V (eq_false (show ¬(nm.size:Int)<(s.size:Int) by omega));clear T hu Q;go_enter func150,ntmps150;go_wp21;refine F.out.mono ?_;rintro e w1⟨rfl,q,rfl⟩;go_wp21;refine(D.out _).mono ?_;rintro e w'⟨rfl,rfl⟩;go_wp21;refine tz (by rfl) ?_;refine ln (λ(g:Unit) z=>⟨#[cW r,Y nm,undef,undef,.bool false,Y s,.bool true,G nm.size,.tuple #[Y s,.bool true],cW r,Y t,.tuple #[Y s,.bool true],Y s,.bool true,Y nm,G nm.size,cd z 0 (.bool true),cd z 1 (.bool true),cd z 2 (Y s),cd z 3 (G s.size),cd z 4 (G nm.size),cd z 5 (.bool false),cd z 6 (.bool false),cd z 7 (.bool false),undef,undef,undef,undef,undef,undef,cd z 14 (.bool false),cd z 15 (.bool false),undef,undef,undef,undef,undef,cd z 21 (.bool false)],[]⟩) (λg z W=>Z [] w W) 23 [[],[0],[1],[1,2],[1],[1,3,4],[1,5],[6],[7],[7],[7],[7],[7],[7],[7],[14],[15],[15],[15],[15],[15],[15],[21]] (()) rfl (by rfl) (((Z.refl [] w).drewN q).drew) ?_ ?_
 .repeat' first|exact iU|refine iT ?_ ?_
  all_goals
   rintro g z W E K hn;simp[yU]at K;refine jO rfl ?_;intro K' I;simp only[iL,K]
   try simp only[HL.out]
   go_simp
   first
   |refine I _ _ ⟨g,?_,E⟩
   simp[lF,td,iL,K]
 .rintro g W E;simp only[sv];have HW:=V E;clear E;rename_i KK k;refine k _ _ ?_;clear k KK;go_wp2;go_ret;exact⟨rfl,HW.out⟩
def aj0(r:Nat)(R:RC)(bg ps:Nat)(nm:O)(w:J)(h:Rd w r R bg ps)(hp:ps<=R.cs.size)(hs:R.cs.size<=1024)(ho:LK (R.cs.extract ps R.cs.size)=true)(hl:nm.size<(wo (R.cs.extract ps R.cs.size)).size)(he:((small ((wo (R.cs.extract ps R.cs.size)).extract 0 nm.size)).toList==nm.toList)=false):
  Calls prog 150 #[cW r,Y nm] w λe w'=>e=dw (.bool false)/\Z [] w w':=by
 have I:=V (vw r R bg ps w h hp hs);have hz:=Hs (R.cs.extract ps R.cs.size);have E:(R.cs.extract ps R.cs.size).size=R.cs.size-ps:=by simp
 rw[E]at hz;clear h E;generalize R.cs.extract ps R.cs.size=t at *;have F:=V (λw=>Tryz.strings_CutPrefix t nX w);simp only at F;rw[show(⟨(Lib.trimPrefix t.data.toList [60,47]).toArray⟩:O)=wo t from rfl,show Lib.hasPrefix t.data.toList [60,47]=LK t from rfl]at F;generalize wo t=s at *;rw[ho]at F;have ez:(s.extract 0 nm.size).size=nm.size:=by simp;omega
 have K:=V (λW=>uQ (s.extract 0 nm.size) W (by omega));have HL:=V (eq_true (show(nm.size:Int)<(s.size:Int) by omega));clear ez;generalize small (s.extract 0 nm.size)=u at *;obtain⟨c,T⟩:∃c:Int,c=0:=⟨_,rfl⟩;clear ho T;go_enter func150,ntmps150;go_wp21;refine I.out.mono ?_;rintro e w1⟨rfl,q,rfl⟩;go_wp21;refine(F.out _).mono ?_;rintro e w'⟨rfl,rfl⟩;go_wp21;refine tz (by rfl) ?_;refine ln (λ(g:Unit) z=>⟨#[cW r,Y nm,undef,undef,.bool false,Y s,.bool true,G nm.size,.tuple #[Y s,.bool true],cW r,Y t,.tuple #[Y s,.bool true],Y s,.bool true,Y nm,G nm.size,cd z 0 (.bool true),cd z 1 (.bool true),cd z 2 (Y s),cd z 3 (G s.size),cd z 4 (G nm.size),cd z 5 (.bool true),cd z 6 (.bool true),cd z 7 (.bool true),cd z 8 (Y s),cd z 9 (G nm.size),cd z 10 (Y (s.extract 0 nm.size)),cd z 11 (Y u),cd z 12 (Y nm),cd z 13 (.bool false),cd z 14 (.bool false),cd z 15 (.bool false),undef,undef,undef,undef,undef,cd z 21 (.bool false)],[]⟩) (λg z W=>Z [] w W) 23 [[],[0],[1],[1,2],[1],[1,3,4],[1,5],[6],[7],[7],[7,8,9],[7,10],[7],[7,11,12],[7,13],[14],[15],[15],[15],[15],[15],[15],[21]] (()) rfl (by rfl) (((Z.refl [] w).drewN q).drew) ?_ ?_
 .repeat' first|exact iU|refine iT ?_ ?_
  all_goals
   rintro g z W k Q hn;simp[yU]at Q;refine jO rfl ?_;intro K' m;simp only[iL,Q]
   try simp only[HL.out]
   go_simp
   try (rw[dd (by omega)];go_simp)
   first
   |refine m _ _ ⟨g,?_,k⟩
   |refine(K.out W).mono ?_;rintro ee W2⟨rfl,a0⟩;refine m _ _ ⟨g,?_,k.trans a0⟩
   simp[lF,td,iL,Q]
 .rintro g W k;simp only[sv];have HW:=V k;clear k;rename_i KK D;refine D _ _ ?_;clear D KK;go_wp2;go_ret;exact⟨rfl,HW.out⟩
def aj1(r:Nat)(R:RC)(bg ps:Nat)(nm:O)(w:J)(h:Rd w r R bg ps)(hp:ps<=R.cs.size)(hs:R.cs.size<=1024)(ho:LK (R.cs.extract ps R.cs.size)=true)(hl:nm.size<(wo (R.cs.extract ps R.cs.size)).size)(he:((small ((wo (R.cs.extract ps R.cs.size)).extract 0 nm.size)).toList==nm.toList)=true):
  Calls prog 150 #[cW r,Y nm] w λe w'=>e=dw (.bool (fp eW (bt (wo (R.cs.extract ps R.cs.size)) nm.size)))/\Z [] w w':=by
 have T:=V (vw r R bg ps w h hp hs);have hz:=Hs (R.cs.extract ps R.cs.size);have F:(R.cs.extract ps R.cs.size).size=R.cs.size-ps:=by simp
 rw[F]at hz;clear h F;generalize R.cs.extract ps R.cs.size=t at *;have K:=V (λw=>Tryz.strings_CutPrefix t nX w);simp only at K;rw[show(⟨(Lib.trimPrefix t.data.toList [60,47]).toArray⟩:O)=wo t from rfl,show Lib.hasPrefix t.data.toList [60,47]=LK t from rfl]at K;generalize wo t=s at *;rw[ho]at K;have ez:(s.extract 0 nm.size).size=nm.size:=by simp;omega
 have a0:=V (λW=>uQ (s.extract 0 nm.size) W (by omega));have HL:=V (eq_true (show(nm.size:Int)<(s.size:Int) by omega));clear ez;generalize small (s.extract 0 nm.size)=u at *;have hb:=get_bt s nm.size hl;have h0:=bt_nonneg s nm.size;have h1:=bt_le s nm.size;clear ho;generalize bt s nm.size=c at *;go_enter func150,ntmps150;go_wp21;refine T.out.mono ?_;rintro e w1⟨rfl,q,rfl⟩;go_wp21;refine(K.out _).mono ?_;rintro e w'⟨rfl,rfl⟩;go_wp21;refine tz (by rfl) ?_;refine ln (λ(g:cY) z=>⟨#[cW r,Y nm,undef,undef,ce z 22 (.bool false) (.bool (fp eW c)),Y s,.bool true,G nm.size,.tuple #[Y s,.bool true],cW r,Y t,.tuple #[Y s,.bool true],Y s,.bool true,Y nm,G nm.size,cd z 0 (.bool true),cd z 1 (.bool true),cd z 2 (Y s),cd z 3 (G s.size),cd z 4 (G nm.size),cd z 5 (.bool true),cd z 6 (.bool true),cd z 7 (.bool true),cd z 8 (Y s),cd z 9 (G nm.size),cd z 10 (Y (s.extract 0 nm.size)),cd z 11 (Y u),cd z 12 (Y nm),cd z 13 (.bool true),cd z 14 (.bool true),cd z 15 (.bool true),cd z 16 (g),cd z 17 (Y s),cd z 18 (G nm.size),cd z 19 (.int .u8 c),cd z 20 (.bool (fp eW c)),cd z 21 (.bool (fp eW c))],[]⟩) (λg z W=>Z [] w W/\(dn z 16=true->FD g W)) 23 [[],[0],[1],[1,2],[1],[1,3,4],[1,5],[6],[7],[7],[7,8,9],[7,10],[7],[7,11,12],[7,13],[14],[15],[15],[15],[15,17,18],[15,16,19],[15,20],[21]] (undef) rfl rfl (⟨((Z.refl [] w).drewN q).drew,λh=>by cases h⟩) ?_ ?_
 .repeat' first|exact iU|refine iT ?_ ?_
  all_goals
   rintro g z W k Q hn;simp[yU]at Q;refine jO rfl ?_;intro K' m;simp only[iL,Q]
   try simp only[HL.out]
   go_simp
   try (rw[dd (by omega)];go_simp)
   first
   |refine m _ _ ⟨g,?_,k.1,λh=>k.2 (by simpa [iR]using h)⟩
   |refine(a0.out W).mono ?_;rintro ee W2⟨rfl,I⟩;refine m _ _ ⟨g,?_,k.1.trans I,λh=>(k.2 (by simpa [iR]using h)).k I⟩
   |refine(mN _ W).mono ?_;rintro ee W2⟨rfl,rfl⟩;refine m _ _ ⟨_,?_,k.1.alloc _,λ_=>FD.new W⟩
   |obtain⟨bb,rfl,a2,a1⟩:=k.2 (by simp[Q]);have D:=Bk W [] bb _ a1 a2 (by simp);have a3:=D.ent;go_simp;refine(D.ask c W h0 h1 (Z.refl _ _)).mono ?_;rintro ee W2⟨rfl,nq,rfl⟩;refine m _ _ ⟨_,?_,k.1.drewN nq,λh=>(k.2 (by simpa [iR]using h)).k ((Z.refl [] W).drewN nq)⟩
   simp[lF,td,iL,ug,Cv,Q]
 .rintro g W k;simp only[sv,OZ];have HW:=V k.1;clear k;rename_i KK E;refine E _ _ ?_;clear E KK;go_wp2;go_ret;exact⟨rfl,HW.out⟩
def vE(R:RC)(look:O->Option O)(lg bg:Nat):wO:=
 if R.plT=true then .tok (.UW (kO (R.cs.extract bg (bg+1)))) (bg+1)
 else .tok (.UW (kO (oA look lg (R.cs.extract bg R.cs.size)))) (bg+nS look lg (R.cs.extract bg R.cs.size))
theorem ve(h:∀x t,look x=some t->t.size<=16):(oA look lg s).size<=16:=by
 grind[wE,ByteArray.size_extract,oA]
def KY(r:Nat)(R:RC)(bg ps e0:Nat)(m:O)(pl:Bool)(cut:Nat->Nat)(w:J)(h:Rd w r R bg ps)(hG:Gl w r)(T:R.plT=pl)(a0:m.size<=1048576)(F:Nat)(hF:F=(if pl then 151 else 87))
  (C:Calls prog F #[cW r] w λe w'=>e=dw (.agg #[G (cut bg),G (cut e0),Y m])/\Z [r] w w'/\Rd w' r R bg e0):
  Calls prog 84 #[cW r] w λe w'=>lD w r R bg cut e w' (.tok (.UW (kO m)) e0):=by
 have p:=h.plT;rw[T]at p;have hr:=eS h;have HC:=C;have HG:=hG;have I:=(λW (hg:Gl W r)=>xb r m W a0 hg);generalize kO m=nn at *;cases pl
 all_goals
  simp only[lZ,↓reduceIte]at hF;subst hF;go_enter func84,ntmps84;go_wp21;refine HC.mono ?_;rintro e E⟨rfl,k,u⟩;have KA:=(Z.refl [] E).alloc (.cells #[G (cut bg),G (cut e0),Y m] 187);have GA:=aY E (.cells #[G (cut bg),G (cut e0),Y m] 187);have Q:E.heap.size≠r:=by have:=eS u;omega
  have K:=I _ (HG.kept (k.trans (KA.mono (by simp))));have HZ:=k.size;go_wp21;refine K.mono ?_;rintro e w2⟨rfl,z⟩;have D:=z.at GA (by simp);have q0:=aN D 0;have q1:=aN D 1;have q2:=aN D 2;have z2:=cQ D 2;dsimp at q0 q1 q2;have KW:Z [] E w2:=KA.trans z;go_wp2;go_ret;exact⟨⟨_,rfl,rfl⟩,((k.trans (KW.mono (by simp))).setCell (.inr HZ) _),((u.kept KW (by simp)).oP Q _)⟩
theorem Xt(r:Nat)(R:RC)(bg ps g cap b lg:Nat)(look:O->Option O)(cut:Nat->Nat)(w:J)(h:Rd w r R bg ps)(k:XK w r R g cap b lg look cut)(m:bg<R.cs.size):
  Calls prog 84 #[cW r] w λe w'=>lD w r R bg cut e w' (vE R look lg bg):=by
 unfold vE;split;rename_i u;exact KY r R bg ps _ _ true cut w h k.gl u (by grind[ByteArray.size_extract]) _ rfl (Cs r R bg ps g cap cut w h k.cU m k.small);exact KY r R bg ps _ _ false cut w h k.gl (by grind) (fK (ve k.nms.lk.short) (by decide)) _ rfl (Cy r R bg ps g cap b lg look cut w h k.cU k.nms m k.small)
def aat(r:Nat)(R:RC)(bg ps:Nat)(nm:O)(w:J)(h:Rd w r R bg ps)(m:ps<=R.cs.size)(hs:R.cs.size<=1024):
  Calls prog 150 #[cW r,Y nm] w λe w'=>e=dw (.bool (Pw R nm ps))/\Z [] w w':=by
 unfold Pw;cases ho:LK (R.cs.extract ps R.cs.size);exact ajY r R bg ps nm w h m hs ho;by_cases k:nm.size<(wo (R.cs.extract ps R.cs.size)).size;rw[tu k];cases he:((small _).toList==nm.toList);exact aj0 r R bg ps nm w h m hs ho k he;have:=aj1 r R bg ps nm w h m hs ho k he
 simpa using this
 rw[xz k];exact ajZ r R bg ps nm w h m hs ho k
def rV(R:RC)(ps:Nat):RC:={R with jI:=if Pw R R.jI ps=true then ⟨#[]⟩else R.jI}
def Rd.setOf(h:Rd w r R bg ps)(s:O):Rd (w.setCell ⟨r,7,none⟩ (Y s)) r {R with jI:=s} bg ps:=bJ h 7 _
def XK.setOf(h:XK w r R g cap b lg look cut)(s:O):XK w r {R with jI:=s} g cap b lg look cut:=
 ⟨⟨h.cU.av,h.cU.ne,h.cU.lt,h.cU.at_⟩,⟨h.nms.lk,h.nms.ne,h.nms.mv,h.nms.lgv,h.nms.le⟩,h.gl,h.small⟩
theorem adx(r:Nat)(R:RC)(bg ps:Nat)(w:J)(h:Rd w r R bg ps)(T:ps<=R.cs.size)(hs:R.cs.size<=1024):
  Calls prog 83 #[cW r] w λe w'=>e=dw (.bool (!((rV R ps).jI.toList==[])))/\Z [r] w w'/\Rd w' r (rV R ps) bg ps:=by
 by_cases z:R.jI=⟨#[]⟩;have e1:rV R ps=R:=by
  have⟨cs,av,at_,mv,lg,jI,plT⟩:=R;simp only at z;subst z;simp[rV]
 rw[e1,z];refine(aao r R bg ps w h z).mono ?_;rintro e w'⟨rfl,k⟩;exact⟨by simp,k.mono (by simp),h.kept k (by simp)⟩
 .have E:(R.jI.toList==[])=false:=by
   cases hq:(R.jI.toList==[])with
   |false=>rfl
   |true=>
    exfalso;apply z;have Q:R.jI.toList=[]:=by simpa using hq
    rw[vN]at Q;apply kD;grind
  have o:=h.jI;have hr:=eS h;have C:=aat r R bg ps R.jI w h T hs;have F:=h;unfold rV;cases hE:Pw R R.jI ps
  .rw[hE]at C;have D:=V (show(!((if false=true then gU else R.jI).toList==[]))=true by simp[E]);have I:Hid (∀W,Rd W r R bg ps->Rd W r {R with jI:=if false=true then ⟨#[]⟩else R.jI} bg ps):=λW h=>h;rw[D.out];go_enter func83,ntmps83;go_wp21;refine C.mono ?_;rintro e w1⟨rfl,k⟩;have u:=F.kept k (by simp);have o1:=u.jI;have K:=k.mono (S':=[r]) (by simp);go_wp2;go_ret;simp_all
  .rw[hE]at C;have I:Hid (∀W,Rd W r R bg ps->Rd (W.setCell ⟨r,7,none⟩ (Y gU)) r {R with jI:=if true=true then ⟨#[]⟩else R.jI} bg ps):=λW h=>h.setOf _;have D:=V (show(!((if true=true then gU else R.jI).toList==[]))=false by simp);rw[D.out];go_enter func83,ntmps83;go_wp21;refine C.mono ?_;rintro e w1⟨rfl,k⟩;have m:=F.kept k (by simp);have o1:=m.jI;have f1:=m.free 7;have K:=(k.mono (S':=[r]) (by simp)).setCell (p:=⟨r,7,none⟩) (.inl (by simp)) (Y gU);have u:=I _ m;go_wp2;go_ret;simp_all
def fH(R:RC)(look:O->Option O)(lg ps:Nat):wO:=
 if ps=R.cs.size then .tok .QP ps
 else if ((rV R ps).jI.toList==[])=true then (if pre (R.cs.extract ps R.cs.size) ou=true then mu (rV R ps) look lg ps (ps+1)else sP (rV R ps) look lg ps)
 else vE (rV R ps) look lg ps
def zJ(R:RC)(ps:Nat):RC:=if ps=R.cs.size then R else rV R ps
def aki(r:Nat)(R:RC)(bg ps g cap b lg:Nat)(look:O->Option O)(cut:Nat->Nat)(w:J)(h:Rd w r R bg ps)(hO:XK w r R g cap b lg look cut)(hp:ps<=R.cs.size):
  Calls prog 50 #[cW r] w λe w'=>lD w r (zJ R ps) ps cut e w' (fH R look lg ps):=by
 have hs:=hO.small;have p2:=h.bg;have p3:=h.ps;have f2:=h.free 2;obtain⟨w1,a8⟩:∃w1,w1=w.setCell ⟨r,2,none⟩ (G ps):=⟨_,rfl⟩;have a5:Rd w1 r R ps ps:=by rw[a8];exact h.amc ps
 have a2:Z [r] w w1:=by rw[a8];exact(Z.refl _ _).setCell (.inl (by simp)) _
 have HW:=V a8.symm;have HO:=hO.kept a2;have CE:=mB r R ps ps w1 a5;clear h hO a8;by_cases E:ps=R.cs.size
 .have eT:fH R look lg ps=.tok .QP ps:=by unfold fH;rw[dd E]
  have eR:zJ R ps=R:=by unfold zJ;rw[dd E]
  rw[eT,eR];have e3:decide (ps=R.cs.size)=true:=by simp[E]
  rw[e3]at CE;have a1:=V CE;clear CE eT e3 E eR;go_enter func50,ntmps50;go_wp21;rw[HW.out];refine a1.mono ?_;rintro e w2⟨rfl,q,rfl⟩;have CP:=nZ r R ps ps g cap cut (w1.drewN q) (show Rd (w1.drewN q) r R ps ps from a5) (HO.kept ((Z.refl [r] w1).drewN q)).cU hp hp hs;go_wp21;refine CP.mono ?_;rintro e w3⟨rfl,u⟩;have D:=(a2.drewN q).trans (u.mono (by simp));have F:Hid (Rd w3 r R ps ps):=u.at (show Rd (w1.drewN q) r R ps ps from a5) (by simp);clear u CP;go_wp2;go_ret;exact⟨⟨_,rfl,rfl⟩,D,F⟩
 .have e3:decide (ps=R.cs.size)=false:=by simp[E]
  rw[e3]at CE;have a1:=V CE;clear CE e3;have eR:zJ R ps=rV R ps:=by unfold zJ;rw[cZ E]
  have eT:fH R look lg ps=if ((rV R ps).jI.toList==[])=true then (if pre ((rV R ps).cs.extract ps (rV R ps).cs.size) ou=true then mu (rV R ps) look lg ps (ps+1)else sP (rV R ps) look lg ps)else vE (rV R ps) look lg ps:=by unfold fH;rw[cZ E];rfl
  have HI:=(λq=>adx r R ps ps (w1.drewN q) (show Rd (w1.drewN q) r R ps ps from a5) hp hs);have a4:XK w1 r (rV R ps) g cap b lg look cut:=HO.setOf _;have a9:ps<(rV R ps).cs.size:=by show ps<R.cs.size;omega
  have ac:(rV R ps).cs.size<=1024:=hs;rw[eT,eR];clear eT eR E hp hs HO a5;generalize rV R ps=I at *;clear R;have CT:=λw2 (h2:Rd w2 r I ps ps)=>js r I ps ps ou w2 h2 (by omega) ac (by decide);cases ho:(I.jI.toList==[])
  .rw[ho]at HI;rw[cZ (by simp)];have HT:=(λw' h1 h2=>Xt r I ps ps g cap b lg look cut w' h1 h2 a9);generalize vE I look lg ps=T at HT|-;clear ho CT;cases T with
   |stop=>
    go_enter func50,ntmps50;go_wp21;rw[HW.out];refine a1.mono ?_;rintro e w2⟨rfl,q,rfl⟩;go_wp21;refine(HI q).mono ?_;rintro e w3⟨rfl,u,z⟩;have D:=((Z.refl [r] w1).drewN q).trans u;have F:=V z;clear u z;have CC:=HT w3 F (a4.kept D);have a3:=a2.trans D;go_wp21;refine CC.mono ?_;rintro e wz⟨k,rfl,h2,h3,h4⟩;have HF:=lD.back (show lD w3 r I ps cut _ wz .stop from⟨k,rfl,h2,h3,h4⟩) a3;clear h2 h3 h4 CC;go_wp2;exact⟨rfl,HF⟩
   |tok kd m=>
    go_enter func50,ntmps50;go_wp21;rw[HW.out];refine a1.mono ?_;rintro e w2⟨rfl,q,rfl⟩;go_wp21;refine(HI q).mono ?_;rintro e w3⟨rfl,u,z⟩;have D:=((Z.refl [r] w1).drewN q).trans u;have F:=V z;clear u z;have CC:=HT w3 F (a4.kept D);have a3:=a2.trans D;go_wp21;refine CC.mono ?_;rintro e wz⟨⟨v,rfl,hv⟩,hk,hr⟩;have HF:=lD.back (show lD w3 r I ps cut (dw v) wz (.tok kd m)from⟨⟨v,rfl,hv⟩,hk,hr⟩) a3;clear hv hk hr CC;go_wp2;go_ret;exact HF
  .rw[ho]at HI;rw[dd rfl];cases hl:pre (I.cs.extract ps I.cs.size) ou
   .rw[cZ (by simp)];have a6:taken I ou ps=ps:=by unfold taken;rw[cZ (by simp[hl])]
    rw[hl,a6]at CT;have a7:=V CT;clear CT a6 hl ho;go_enter func50,ntmps50;go_wp21;rw[HW.out];refine a1.mono ?_;rintro e w2⟨rfl,q,rfl⟩;go_wp21;refine(HI q).mono ?_;rintro e w3⟨rfl,u,z⟩;have D:=((Z.refl [r] w1).drewN q).trans u;have F:=V z;clear u z;go_wp21;refine(a7 _ F).mono ?_;rintro e w4⟨rfl,Q,a0⟩;have K:=D.trans Q;have CC:=Cy r I ps ps g cap b lg look cut w4 a0 (a4.kept K).cU (a4.kept K).nms a9 ac;clear Q a0;go_wp21;refine CC.mono ?_;rintro e w5⟨rfl,aa,ab⟩;have HF:=(show lD w r I ps cut (dw (.iface 187 (.agg #[G (cut ps),G (cut (ps+nS look lg (I.cs.extract ps I.cs.size))),Y (oA look lg (I.cs.extract ps I.cs.size))]))) w5 (sP I look lg ps)from⟨⟨_,rfl,rfl⟩,a2.trans (K.trans aa),ab⟩);clear aa ab CC;go_wp2;go_ret;exact HF
   .rw[dd rfl];have a6:taken I ou ps=ps+1:=by unfold taken;rw[dd hl];rfl
    have ad:ps+1<=I.cs.size:=jp hl (by omega);rw[hl,a6]at CT;have a7:=V CT;have HL:=(λw' h1 h2=>OU r I ps (ps+1) g cap b lg look cut w' h1 h2 a9 ad);generalize mu I look lg ps (ps+1)=T at HL|-;clear CT a6 hl ho;cases T with
    |stop=>
     go_enter func50,ntmps50;go_wp21;rw[HW.out];refine a1.mono ?_;rintro e w2⟨rfl,q,rfl⟩;go_wp21;refine(HI q).mono ?_;rintro e w3⟨rfl,u,z⟩;have D:=((Z.refl [r] w1).drewN q).trans u;have F:=V z;clear u z;go_wp21;refine(a7 _ F).mono ?_;rintro e w4⟨rfl,Q,a0⟩;have K:=D.trans Q;have CC:=HL w4 a0 (a4.kept K);have a3:=a2.trans K;clear Q a0;go_wp21;refine CC.mono ?_;rintro e wz⟨k,rfl,h2,h3,h4⟩;have HF:=lD.back (show lD w4 r I ps cut _ wz .stop from⟨k,rfl,h2,h3,h4⟩) a3;clear h2 h3 h4 CC;go_wp2;exact⟨rfl,HF⟩
    |tok kd m=>
     go_enter func50,ntmps50;go_wp21;rw[HW.out];refine a1.mono ?_;rintro e w2⟨rfl,q,rfl⟩;go_wp21;refine(HI q).mono ?_;rintro e w3⟨rfl,u,z⟩;have D:=((Z.refl [r] w1).drewN q).trans u;have F:=V z;clear u z;go_wp21;refine(a7 _ F).mono ?_;rintro e w4⟨rfl,Q,a0⟩;have K:=D.trans Q;have CC:=HL w4 a0 (a4.kept K);have a3:=a2.trans K;clear Q a0;go_wp21;refine CC.mono ?_;rintro e wz⟨⟨v,rfl,hv⟩,hk,hr⟩;have HF:=lD.back (show lD w4 r I ps cut (dw v) wz (.tok kd m)from⟨⟨v,rfl,hv⟩,hk,hr⟩) a3;clear hv hk hr CC;go_wp2;go_ret;exact HF
def R3(bs bm bB r:Nat)(C:fN)(R:RC)(bg ps:Nat)(k:J)(h:cY)(e:iD):Env:={Yb bs bm bB r C R bg ps k with tv:=h,ta:=e}
def QR(R:RC)(o:O)(p:Bool):RC:={R with jI:=o,plT:=p}
def aa0(R:RC)(bg ps:Nat)(o:O)(p:Bool):((wD R bg ps).setIfInBounds 7 (Y o)).setIfInBounds 8 (.bool p)=wD (QR R o p) bg ps:=rfl
def RF.rdV{u:J}{m:cY}{k:iD}{f:Nat->Nat}(h:RF (R3 bs bm bB r C R bg ps u m k) f σ w):Rd w r (QR R σ.jI σ.dM) bg ps:=by
 have⟨L,_,hr⟩:=h;have e:w.heap[r]?=some (.cells (((wD R bg ps).setIfInBounds 7 _).setIfInBounds 8 _) 164 _):=hr.rd
 rwa [aa0]at e
theorem RF.Y6{w0:J}{tv:cY}{ta:iD}{f:Nat->Nat}(h:RF (R3 bs bm bB r C R bg ps w0 tv ta) f σ w)(T:List TypeId)(D:KT bs T w w')(hT:∀t∈Zs,t∈T->t=164)(hM:∀t∈T,t∈Iq){F a0:Nat}{o:O}(hr:Rd w' r (QR R o σ.dM) F a0)
  (z:cY) (E:iD) (a4:yC w' z E) (a2:E.length<=4096) (fr:Bool) (a1:fr=true->∀g,z.ownBlock=some g->w.heap.size<=g) (a5:∀g,z.ownBlock=some g->bs<=g):
  RF (R3 bs bm bB r C R F a0 w' z E) f {σ with fresh:=fr,jI:=o} w':=by
 have⟨L,e,h⟩:=h;have Q:∀t∈Zs,t≠164->t∉T:=λt ht a3 hm=>a3 (hT t ht hm);have⟨C',hbl,hC⟩:=h.du;have I:wm bm w w':=by
  have⟨S,hk,hS⟩:=D;exact⟨S,hk,λk h1 h2=>by grind⟩
 have K:∀(b:Nat)(es:Array MapEntry)(ck:Nat),w.heap[b]?=some (Obj.map es ck)->w'.heap[b]?=some (Obj.map es ck):=by
  intro b es ck hb;have⟨S,hk,hS⟩:=D;refine(hk.block b ((Array.getElem?_eq_some_iff.1 hb).1) λhm=>?_).trans hb;have⟨⟨c,t,m,h3,_⟩,_⟩:=hS b hm ((Array.getElem?_eq_some_iff.1 hb).1);rw[hb]at h3;cases h3
 refine⟨L,e,?_⟩;have u:=QU.move h.env h.fr I K;exact
  {fr:=Fr.refl _
   env:=⟨u.Gu,u.Y7,u.spec,u.aam,u.ZK,u.rU⟩
   Dz:=h.Dz
   qH:=λi nd hi=>(h.qH i nd hi).kt D (λt ht=>Q t (by revert t;decide) (by revert t;decide))
   inj:=h.inj
   Ar:=h.Ar
   Ge:=h.Ge
   uq:=h.uq
   Eg:=h.Eg
   wf:=⟨h.wf.cC,h.wf.act,h.wf.head,h.wf.form,h.wf.ff,h.wf.kids,h.wf.rU⟩
   du:=⟨C',D.at hbl (Q _ (by decide) (by decide)),⟨hC.size,hC.low,hC.cC,hC.act,hC.head,hC.form,hC.mode,hC.kept,hC.wait,hC.Jm,hC.fJ,hC.dk,hC.behind⟩⟩
   ng:=D.row h.ng (Q _ (by decide) (by decide))
   oh:=D.row h.oh (Q _ (by decide) (by decide))
   Ic:=h.Ic
   vu:=h.vu
   Ep:=h.Ep
   mY:=D.row h.mY (Q _ (by decide) (by decide))
   MF:=h.MF
   rd:=by assumption
   TR:=by show 7+1<9;decide
   tok:=a4
   Lq:=a2
   bz:=fK (fK h.bz h.fr.size) D.size
   bB:=h.bB
   bR:=h.bR
   bN:=h.bN
   zd:=λh2 i g hi hg hv=>by
    have h3:=a1 h2 g hg;have h4:=by
     cases hel:σ.db i with
     |none=>grind[Rel.Eg]
     |some el=>
      exact((h.qH i (.el el) (N.fa hel)).2.1.lt g hv).2
    omega
   ab:=h.ab
   tb:=a5
   ME:=λv hv=>by cases hv}
structure TkW(a b:Nat)(kd:Int)(T:TypeId)(x:cY):Prop where
 eI:∀w,(Go.method 496 T x "Bytes").run prog w=.ok (430,.agg #[G a,G b]) w
 nil:∀w,(nilAhead 496 T x "Bytes").run prog w=.ok (some false) w
 kind:∀w,Calls prog 52 #[.iface T x] w λe w'=>e=dw (G kd)/\w'=w
def lx(a b:Nat):OA->cR
 | .QP=>⟨a,b,.dD,[]⟩
 | .UW t=>⟨a,b,.gz t,[]⟩
 | .TY nm L=>⟨a,b,.start nm,L⟩
 | .fin nm L=>⟨a,b,.stop nm,L⟩
 | .QN t=>⟨a,b,.dl t,[]⟩
 | .dtp nm q=>⟨a,b,.dK nm q,[]⟩
 | .lost=>⟨a,b,.lost,[]⟩
def sD:OA->Nat
 | .QP=>0
 | .UW _=>1
 | .TY _ _=>2
 | .fin _ _=>3
 | .QN _=>4
 | .dtp _ _=>5
 | .lost=>6
def SI(a b:Int)(n:O)(x:Option Addr)(m c:Nat)(w:J):Calls prog 52 #[.iface 195 (.agg #[G a,G b,Y n,.slice x m c])] w λe w'=>e=dw (G 2)/\w'=w:=by
 have k:=tH;have h:=oS underlying195;go_wp2;go_ret;simp
def Wl(a b:Int)(n:O)(x:Option Addr)(m c:Nat)(w:J):Calls prog 52 #[.iface 196 (.agg #[G a,G b,Y n,.slice x m c])] w λe w'=>e=dw (G 3)/\w'=w:=by
 have u:=tH;have h:=oN;have k:=oS underlying196;go_wp2;go_ret;simp
def aay(a b:Int)(n:O)(w:J):Calls prog 52 #[.iface 197 (.agg #[G a,G b,Y n])] w λe w'=>e=dw (G 4)/\w'=w:=by
 have u:=tH;have h:=oN;have m:=xa;have k:=oS underlying197;go_enter func52,ntmps52;go_wp2;go_ret;simp
def aaz(a b:Int)(n:O)(q:Bool)(w:J):Calls prog 52 #[.iface 199 (.agg #[G a,G b,Y n,.bool q])] w λe w'=>e=dw (G 5)/\w'=w:=by
 have z:=tH;have h:=oN;have u:=xa;have k:=qG;have m:=oS underlying199;go_enter func52,ntmps52;go_wp2;go_ret;simp
def Wj(a b:Int)(w:J):Calls prog 52 #[.iface 189 (.agg #[G a,G b])] w λe w'=>e=dw (G 6)/\w'=w:=by
 have z:=tH;have h:=oN;have u:=xa;have k:=qG;have m:=uO;have D:=oS underlying189;go_enter func52,ntmps52;go_wp2;go_ret;simp
theorem Zo.is{base:Nat}{k:OA}(h:Zo base (a:Int) (b:Int) v w k)(Q:(lx a b k).di.length<=4096):
  ∃T x I,v=.iface T x/\(∀E:Env,E.tv=I->dJ E (lx a b k)=.iface T x)/\TkW a b (sD k) T x/\(∃y m c,I=.slice y m c)/\yC w I (lx a b k).di/\(∀g,I.ownBlock=some g->base<=g):=by
 have u:∀g,(gq).ownBlock=some g->base<=g:=λg F=>by simp[Value.ownBlock]at F
 cases k with
 |QP=>exact⟨_,_,gq,h,λ_ _=>rfl,⟨λw=>by kernel_rfl,λw=>by kernel_rfl,λw=>adL (Yb 0 0 0 0 #[] ⟨⟨#[]⟩,.nilFunc,0,.nilFunc,0,⟨#[]⟩,false⟩ 0 0 w) a b w⟩,⟨_,_,_,rfl⟩,mh _ _ _ _,u⟩
 |UW t=>exact⟨_,_,gq,h,λ_ _=>rfl,⟨λw=>by kernel_rfl,λw=>by kernel_rfl,λw=>aax (Yb 0 0 0 0 #[] ⟨⟨#[]⟩,.nilFunc,0,.nilFunc,0,⟨#[]⟩,false⟩ 0 0 w) a b t w⟩,⟨_,_,_,rfl⟩,mh _ _ _ _,u⟩
 |QN t=>exact⟨_,_,gq,h,λ_ _=>rfl,⟨λw=>by kernel_rfl,λw=>by kernel_rfl,λw=>aay a b t w⟩,⟨_,_,_,rfl⟩,mh _ _ _ _,u⟩
 |dtp n q=>exact⟨_,_,gq,h,λ_ _=>rfl,⟨λw=>by kernel_rfl,λw=>by kernel_rfl,λw=>aaz a b n q w⟩,⟨_,_,_,rfl⟩,mh _ _ _ _,u⟩
 |lost=>exact⟨_,_,gq,h,λ_ _=>rfl,⟨λw=>by kernel_rfl,λw=>by kernel_rfl,λw=>Wj a b w⟩,⟨_,_,_,rfl⟩,mh _ _ _ _,u⟩
 |TY n L=>
  obtain⟨z,D,rfl,e⟩:=h;refine⟨_,_,.slice z L.length D,rfl,λE K=>?_,⟨λw=>by kernel_rfl,λw=>by kernel_rfl,λw=>SI a b n z L.length D w⟩,⟨_,_,_,rfl⟩,gS e (yQ _),λg F=>(e.lt g F).1⟩;grind[dJ,lx]
 |fin n L=>
  obtain⟨z,D,rfl,e⟩:=h;refine⟨_,_,.slice z L.length D,rfl,λE K=>?_,⟨λw=>by kernel_rfl,λw=>by kernel_rfl,λw=>Wl a b n z L.length D w⟩,⟨_,_,_,rfl⟩,gS e (yQ _),λg F=>(e.lt g F).1⟩;grind[dJ,lx]
theorem N5(e m:List UInt8):∀(k:Nat)(s:List UInt8),(Lib.replaceK e m k s).length<=s.length+k*m.length
 |0,s=>by simp[Lib.replaceK]
 |k+1,s=>by
  rw[Lib.replaceK];split;omega;have h:=N5 e m k (s.drop ((Lib.index s e).toNat+e.length));grind
theorem vp(s:O):(kO s).size<=4*s.size+3:=by
 have e2:(kO s).size=(Lib.replaceAll _ (ByteArray.mk #[0]).data.toList (ByteArray.mk #[239,191,189]).data.toList).length:=rfl;rw[(XE s),e2];unfold Lib.replaceAll Lib.replace;split;omega;have e:=N5 (ByteArray.mk #[0]).data.toList (ByteArray.mk #[239,191,189]).data.toList (Lib.replaceNum s.data.toList (ByteArray.mk #[0]).data.toList (-1)) s.data.toList;have h:Lib.replaceNum s.data.toList (ByteArray.mk #[0]).data.toList (-1)=Lib.count _ _:=rfl;grind[Lib.count_le]
def TkG:OA->Prop
 | .UW t=>t.size<=100
 | .TY _ L=>L.length<=1024/\∀p∈L,p.2.size<=1048576
 | .fin _ L=>L.length<=1024/\∀p∈L,p.2.size<=1048576
 |_=>True
def wL(R:RC)(bg:Nat):wO->Prop
 | .stop=>True
 | .tok kd m=>bg<m/\m<=R.cs.size/\1<=sD kd/\(sD kd≠1->m=R.cs.size\/bt R.cs (m-1)=62)/\TkG kd
theorem acs(h:pre (R.cs.extract ps R.cs.size) eA=true):bt R.cs ps=62:=by
 have:=Ek (j:=0) h (by decide);exact this.trans rfl
theorem VW(h:ps<=R.cs.size):pC R ps=R.cs.size\/(ps<pC R ps/\bt R.cs (pC R ps-1)=62):=by
 unfold pC taken;split;rename_i z;right;have Q:ps<=scan (fp eA) R.cs ps:=qf;have e:(ByteArray.mk #[62]).size=1:=rfl;grind[acs];rename_i z;left;rcases dH (scan (fp eA) R.cs ps) R.cs.size with m|F;exfalso;apply z;have E:=adw (bt_nonneg _ _) (bt_le _ _) (ahK m);have K:(R.cs.extract (scan (fp eA) R.cs ps) R.cs.size).size=R.cs.size-scan (fp eA) R.cs ps:=by simp
 generalize scan (fp eA) R.cs ps=i at *;unfold pre;have u:(ByteArray.mk #[62]).size=1:=rfl;rw[u];have D:bt ((R.cs.extract i R.cs.size).extract 0 1) 0=62:=by
  rw[IL (by omega) (by omega),Nat.zero_add];rw[IL (by omega) (dr _),Nat.add_zero];exact E
 have k:((R.cs.extract i R.cs.size).extract 0 1).size=1:=by simp;omega
 rw[K];have T:(R.cs.extract i R.cs.size).extract 0 1=eA:=by
  generalize (R.cs.extract i R.cs.size).extract 0 1=X at D k;have⟨⟨l⟩⟩:=X
  match l,k with
  |[x],_=>
   have:(x.toNat:Int)=62:=D;have I:x=62:=by apply UInt8.toNat_inj.1;show x.toNat=62;omega
   rw[I]
 grind;grind[nF]
theorem QB(h:∀x t,look x=some t->t.size<=16)(hs:R.cs.size<=1024)(ps:Nat):(qg look lg R ps).size<=1048576:=by
 unfold qg;split;have e:=vp ⟨(tN look lg (kI R (j7 R (j7 R ps+1)))).toArray⟩;have k:=zY (lg:=lg) h (kI R (j7 R (j7 R ps+1)));have m:=BR (R:=R) (ps:=j7 R (j7 R ps+1));have u:(ByteArray.mk (tN look lg _).toArray).size=(tN look lg (kI R (j7 R (j7 R ps+1)))).length:=rfl;omega;decide
theorem MD(h:∀x t,look x=some t->t.size<=16)(hs:R.cs.size<=1024)(e:∀p∈L,p.2.size<=1048576):∀p∈nM R look lg L ps,p.2.size<=1048576:=by
 grind[QB,nM,sr]
theorem Ur(u:∀x t,look x=some t->t.size<=16)(hs:R.cs.size<=1024):∀(n:Nat){L:iD} {ps m:Nat} {h:iD},R.cs.size-ps<=n->gV R look lg L ps=.whole m h->L.length<=ps->(∀p∈L,p.2.size<=1048576)->ps<m/\m<=R.cs.size/\bt R.cs (m-1)=62/\h.length<=m/\∀p∈h,p.2.size<=1048576:=by
 intro n
 induction n with
 |zero=>
  grind[pq,gV]
 |succ n ih=>
  intro L ps m h K e I k;have z:=pq (R:=R) (ps:=ps);rw[gV]at e;split at e;split at e;grind[acs];split at e;cases e;have D:=qs (R:=R) (ps:=eK R ps);have E:=uR (R:=R) (ps:=gR R (eK R ps));have F:=GD (R:=R) (look:=look) (lg:=lg) (L:=L) (ps:=eK R ps);have:=ih (by omega) e (by omega) (MD u hs k);grind;grind
theorem Ut(u:∀x t,look x=some t->t.size<=16)(hs:R.cs.size<=1024){e:O->iD->OA}{nm:O}(k:bg<R.cs.size)(E:bg<ps)(z:∀L,1<=sD (e nm L)/\(L.length<=1024->(∀p∈L,p.2.size<=1048576)->TkG (e nm L))):wL R bg (qy R e nm (gV R look lg [] (uC R ps))):=by
 have D:=ah8 (R:=R) (ps:=ps);cases h:gV R look lg [] _ with
 |stop=>trivial
 |lost=>exact⟨k,dr _,by decide,by grind,trivial⟩
 |whole m L=>
  have:=Ur u hs _ (dr _) h (yQ _) (by simp);grind[wL,qy]
theorem ae0(h:∀x t,look x=some t->t.size<=16)(hs:R.cs.size<=1024)(nm:O)(e:bg<R.cs.size)(k:bg<ps):wL R bg (qy R .TY nm (gV R look lg [] (uC R ps))):=Ut h hs e k (λL=>⟨(by decide:1<=2),λa b=>⟨a,b⟩⟩)
theorem adf(h:∀x t,look x=some t->t.size<=16)(hs:R.cs.size<=1024)(nm:O)(e:bg<R.cs.size)(k:bg<ps):wL R bg (qy R .fin nm (gV R look lg [] (uC R ps))):=Ut h hs e k (λL=>⟨(by decide:1<=3),λa b=>⟨a,b⟩⟩)
theorem Em(e:∀x t,look x=some t->t.size<=16)(u:bg<R.cs.size):wL R bg (sP R look lg bg):=by
 have k:=Cw (look:=look) (lg:=lg) (s:=R.cs.extract bg R.cs.size);have m:=FO (look:=look) (lg:=lg) (s:=R.cs.extract bg R.cs.size) (by simp;omega);have z:(R.cs.extract bg R.cs.size).size=R.cs.size-bg:=by simp
 exact⟨by omega,by omega,dr _,λh=>absurd rfl h,fK (ve e) (by decide)⟩
theorem afc(u:∀x t,look x=some t->t.size<=16)(m:bg<R.cs.size):wL R bg (vE R look lg bg):=by
 have e:=Cw (look:=look) (lg:=lg) (s:=R.cs.extract bg R.cs.size);have k:=FO (look:=look) (lg:=lg) (s:=R.cs.extract bg R.cs.size) (by simp;omega);have z:(R.cs.extract bg R.cs.size).size=R.cs.size-bg:=by simp
 unfold vE;split;refine⟨by omega,by omega,dr _,λh=>absurd rfl h,?_⟩;grind[vp,ByteArray.size_extract,TkG];refine⟨by omega,by omega,dr _,λh=>absurd rfl h,?_⟩;grind[vp,ve,TkG]
theorem x8{k:OA}(z:bg<ps)(m:ps<=R.cs.size)(h:1<=sD k)(e:TkG k):wL R bg (.tok k (pC R ps)):=by
 have u:=ado (R:=R) (ps:=ps);refine⟨by omega,Js m,h,λ_=>?_,e⟩;grind[VW]
theorem Xe(m:∀x t,look x=some t->t.size<=16)(u:R.cs.size<=1024)(k:bg<R.cs.size)(e:bg<ps)(hs:ps<=R.cs.size):wL R bg (jc R look lg bg ps):=by
 unfold jc;split;grind[adf];split;rename_i h;have:=jp h hs;exact⟨by omega,this,by decide,λ_=> .inr (by grind[acs]),trivial⟩;split;grind[Em];exact x8 e hs (show 1<=4 by decide) trivial
theorem aaD(m:∀x t,look x=some t->t.size<=16)(z:R.cs.size<=1024)(k:bg<R.cs.size)(u:bg<ps)(hs:ps<=R.cs.size):wL R bg (mu R look lg bg ps):=by
 unfold mu;split;grind[ae0];split;rename_i h;exact Xe m z k (by omega) (jp h hs);split;rename_i h;have e:ps+3<=R.cs.size:=jp h hs;have D:=ZU (R:=R) (ps:=ps+3);refine⟨by omega,MU e,(show 1<=4 by decide),λ_=>?_,trivial⟩;grind[Rz];split;rename_i h;have:=ajF (R:=R) (ps:=ps+8);exact x8 (by omega) (I7 (SD h hs)) (show 1<=5 by decide) trivial;split;rename_i h;exact x8 (by omega) (jp h hs) (show 1<=4 by decide) trivial;split;exact x8 u hs (show 1<=4 by decide) trivial;grind[Em]
def yd(u:∀x t,look x=some t->t.size<=16)(D:R.cs.size<=1024)(z:ps<R.cs.size):wL R ps (fH R look lg ps)/\(∀k m,fH R look lg ps=.tok k m->sD k≠1->bt R.cs ps=60):=by
 unfold fH;rw[cZ (by omega)];split;split;rename_i h;refine⟨aaD (R:=rV R ps) u D z (by omega) (jp h (by omega)),λ_ _ _ _=>?_⟩;have:=Ek (j:=0) h (by decide);rw[Nat.add_zero]at this;exact this.trans rfl;refine⟨Em (R:=rV R ps) u z,λk m h e=>?_⟩;unfold sP at h;obtain⟨rfl,_⟩:=wO.tok.inj h;exact absurd rfl e;refine⟨afc (R:=rV R ps) u z,λk m h e=>?_⟩;unfold vE at h;split at h;obtain⟨rfl,_⟩:=wO.tok.inj h;exact absurd rfl e;obtain⟨rfl,_⟩:=wO.tok.inj h;exact absurd rfl e
def JX:fH R look lg R.cs.size=.tok .QP R.cs.size:=by simp[fH]
theorem TkG.tok{k:OA}(h:TkG k)(a b:Nat):(lx a b k).k=.lost\/tA (lx a b k):=by
 cases k with
 |lost=>simp[lx]
 |UW t=>exact .inr ⟨h,rfl,by simp[lx]⟩
 |TY nm L=>exact .inr ⟨(by decide:(0)<=100),by exact List.all_eq_true.2 (λp e=>tu (h.2 p e)),by simp[lx]⟩
 |fin nm L=>exact .inr ⟨(by decide:(0)<=100),by exact List.all_eq_true.2 (λp e=>tu (h.2 p e)),by simp[lx]⟩
 |QP=>exact .inr ⟨(by decide:(0)<=100),rfl,by simp[lx]⟩
 |QN t=>exact .inr ⟨(by decide:(0)<=100),rfl,by simp[lx]⟩
 |dtp n q=>exact .inr ⟨(by decide:(0)<=100),rfl,by simp[lx]⟩
theorem TkG.len{k:OA}(h:TkG k)(a b:Nat):(lx a b k).di.length<=1024:=by
 cases k with
 |TY nm L=>exact h.1
 |fin nm L=>exact h.1
 |_=>simp[lx]
def SP(k:Nat)(w:J):
  Calls prog 46 #[.iface 76 (cW k)] w λe w'=>e=dw (cW k)/\w'=w:=by
 have m:∀(v:cY)(h:TypeId)(w:J),(Instr.typeAssert (.iface 76 v) h 76 true).run prog w=.ok (.tuple #[v,.bool true]) w:=λv h w=>by
  simp[Instr.typeAssert]
 go_wp2;go_ret;simp
theorem DJ(h m:Nat)(k:Nat)(w:J)(v:cY)(z:w.heap[h]?=some (cV #[v,.pointer none] 70))(F:w.heap[m]?=some (cV #[.pointer none] 76))(D:h≠m)(T:m≠h):
  CallsD prog 45 #[cW h,cW m] (.panicking [{v:=.iface 76 (cW k),recovered:=false}]) w λe u' w'=>
   e=nu/\u'=.panicking [{v:=.iface 76 (cW k),recovered:=true}]/\w'.heap[h]?=some (cV #[gq,.pointer none] 70)/\w'.heap[m]?=some (cV #[cW k] 76)/\Z [h,m] w w':=by
 have p0:=aN z 0;have p1:=aN z 1;have q0:=aN F 0;have f0:=cQ z 0;have f1:=cQ z 1;have g0:=cQ F 0;dsimp at p0 p1 q0;have I:Hid (∃W,W=((w.setCell ⟨h,0,none⟩ (gq)).setCell ⟨h,1,none⟩ (.pointer none)).setCell ⟨m,0,none⟩ (cW k)/\W.heap[h]?=some (cV #[gq,.pointer none] 70)/\W.heap[m]?=some (cV #[cW k] 76)/\Z [h,m] w W):=by
  refine⟨_,rfl,?_,?_,?_⟩;rw[Below.heap_setCell _ _ _ _ D];exact bJ (bJ z 0 _) 1 _;refine bJ (c:=#[.pointer none]) ?_ 0 _;grind[Below.heap_setCell];grind[Z.setCell,Z.refl]
 refine callsD_of_wpS func45 rfl λu cs E=>?_;apply wpS_seq;apply wpS_region;simp[wpOpsS,go_sem,recoverD,E,ntmps45,Exit.thenS];have K:=E;refine wpS_of_wp ?_;have Q:(#[cW h,cW m]++((Array.replicate 7 undef).setIfInBounds 1 (Value.iface 76 (cW k))).setIfInBounds 0 (Value.iface 76 (cW k)))=#[cW h,cW m,.iface 76 (cW k),.iface 76 (cW k),undef,undef,undef,undef,undef]:=rfl;rw[Q];go_wp21;refine(SP k _).mono ?_;rintro e w'⟨rfl,rfl⟩;go_wp2;have E:=K;have⟨W,hW,h1,h2,h3⟩:=I;rw[<-hW];cases u;simp_all[bodyPostS,results,results45]
def adE:(prog.info? 5).map (λi=>(i.zero,i.size,i.bytes))=some (some (.int .u8 0),1,1):=by kernel_rfl
theorem OX:(∃j,prog.info? 97=some j/\j.size≠0):=by
 have h:((prog.info? 97).map λi=>i.size)=some 2:=rfl;grind[Option.map_eq_some_iff]
def UH:liesAt prog prog.depth 99 (4 / prog.cellsOf 99) 0 97 1=true:=by kernel_rfl
def KB(W e:J):Prop:=∀(k:Nat)(c:fN)(t:TypeId),W.heap[k]?=some (cV c t)->t∉[99,5]->e.heap[k]?=some (cV c t)
theorem KB.trans{C:J}(h:KB A B)(k:KB B C):KB A C:=λi c t m e=>k i c t (h i c t m e) e
def KB.fS(h:Z [] A B):KB A B:=λi c t e _=>h.at e (by simp)
theorem KB.WD{cb:fN}(h:Z [b] A B)(k:A.heap[b]?=some (cV cb 99)):KB A B:=λi c t e m=>h.at e (by
 grind)
theorem KB.aeg{base:Nat}(u:A.grownBy B v.ownBlock)(z:A.ownsRow base 5 1 v n xs):KB A B:=λi c t k F=>(u.block i (eS k) (by
 intro e;rcases z.2 with⟨e2,_⟩|⟨g,h,m,e2,_,E,_⟩;rw[e2]at e;cases e;rw[e2]at e;have D:=je e;grind)).trans k
def LC(l:List UInt8)(s:O):Lib.byteCells (l++s.data.toList)=Lib.byteCells l++Lib.strCells s:=by
 unfold Lib.byteCells Lib.strCells;simp
def iF(xs:List O):List UInt8:=xs.flatMap λs=>s.data.toList
def Ds(xs ys:List O):iF (xs++ys)=iF xs++iF ys:=oi ..
def YO(s h e:O):O:=⟨(Lib.replaceAll s.data.toList h.data.toList e.data.toList).toArray⟩
def Ll(w:J):Prop:=(∃m,w.cell? ⟨3,0,none⟩=some (G m))/\3<w.heap.size
theorem Ll.kept(h:Ll w)(e:Z [] w w'):Ll w':=by
 have⟨⟨m,hm⟩,hl⟩:=h;exact⟨⟨m,(e.cell hl (by simp)).trans hm⟩,kL hl e.size⟩
def JL(h:Below w.heap.size w w'):Z [] w w':=⟨h.os,h.tape,h.output,h.size,λk e _=>h.block k e⟩
def Bt(s:O):O:=YO (YO s tY kE) sO nf
def GS(s:O):O:=YO (YO (Bt s) ou jL) eA pz
theorem Lk.map(h:Lk w b look):∃z u,w.heap[b]?=some (Obj.map z u):=by
 have D:=h.run ⟨#[]⟩ w rfl;have E:=qP (w:=w) (show prog.underlying 159=some (.map 9 205) by simp);have k:∀o,w.heap[b]?=some o->(∀c e f,o≠ .cells c e f)->(getObj b).run prog w=.ok o w:=by
  intro o F I;cases o with
  |cells c e f=>grind
  |_=>simp[getObj,Sem.run,F]
 cases hb:w.heap[b]? with
 |none=>
  grind[lt]
 |some o=>
  cases o with
  |map z u=>simp
  |cells c e f=>
   exfalso;have m:(getObj b).run prog w=.halt (Halt.stuck "getObj: a row of cells") w:=by simp[getObj,Sem.run,hb]
   simp[Instr.lookup,E,m,Result.andThen]at D
  |_=>
   exfalso;have m:=k _ hb (by simp);simp[Instr.lookup,E,m,Result.andThen,Go.stuck,Sem.run]at D
theorem Fr.map(h:Fr bs w w')(e:w.heap[b]?=wl.heap[b]?)(k:Lk wl b look):w'.heap[b]?=w.heap[b]?:=h.calm (.inl (by rw[e];exact k.map))
theorem KT.map{T:List TypeId}(h:KT bs T w w')(e:w.heap[b]?=wl.heap[b]?)(k:Lk wl b look):w'.heap[b]?=w.heap[b]?:=by
 have⟨es,ck,hm⟩:=k.map;have⟨S,hk,hS⟩:=h;grind[Z.block]
inductive UY where
 |stop (e p:Nat)
 |done (σ:N) (L:List Sp)
 |stuck
def vz(R:RC)(σ:N)(ps:Nat)(t:cR):N:={σ with fresh:=t.nj,jI:=(zJ (QR R σ.jI σ.dM) ps).jI}
def jX(R:RC)(look:O->Option O)(lg:Nat)(cut:Nat->Nat):Nat->Nat->N->List Sp->UY
 |0,_,_,_=> .stuck
 |n+1,ps,σ,L=>match fH (QR R σ.jI σ.dM) look lg ps with
  | .stop=> .stop 7 (cut ps)
  | .tok k m=>match mx (dp false rA) (lx (cut ps) (cut m) k) (vz R σ ps (lx (cut ps) (cut m) k))with
   | .stop e p=> .stop e p
   | .stuck=> .stuck
   | .ok _ σ'=>if sD k=0 then .done σ' L else jX R look lg cut n m σ' (rX L ⟨(sD k:Int),cut ps,cut m⟩)
structure RgV(w:J)(bm bB bD r b:Nat)(C:fN)(R:RC)(g cap:Nat)(cut:Nat->Nat)(base:Nat)(wl:J)(ps bg:Nat)(σ:N)(v:cY)(L:List Sp)(wr:J):Prop where
 rel:∃fl w0 tv ta,fl 0=bD/\RF (R3 w.heap.size bm bB r C R bg ps w0 tv ta) fl σ wr
 cU:MH wr r R g cap cut
 aty:∃cA,wr.heap[g]?=some (cV cA 3)
 lk:wr.heap[b]?=wl.heap[b]?
 tb:wr.heap[w.heap.size+1]?=some (cV #[v,.pointer none] 70)
 sb:wr.heap[w.heap.size+2]?=some (cV #[.pointer none] 76)
 own:wr.ownsRow base 75 3 v L.length (gx L)
 kept:Z [] w wr
 le:ps<=R.cs.size
 len:L.length<=ps
 OW:w.heap.size<=base/\base<=wr.heap.size
 rge:w.heap.size<=r
 pos:0<σ.nodes.length
theorem RgV.next{bD:Nat}{base:Nat}{L:List Sp}{wr u:J}(h:RgV w bm bB bD r b C R g cap cut base wl ps bg σ v L wr)(E:Z [r] wr u){F K:Nat}{o:O}(hr:Rd u r (QR R o σ.dM) F K)(a4:b≠r)(T:b<wl.heap.size)
  (uI:wl.heap.size<=wr.heap.size) (D:cY) (z:iD) (a1:yC u D z) (a0:z.length<=4096) (fr:Bool) (I:∀g,D.ownBlock=some g->wr.heap.size<=g):
  (∃Q,Q 0=bD/\RF (R3 w.heap.size bm bB r C R F K u D z) Q {σ with fresh:=fr,jI:=o} u)/\MH u r R g cap cut/\(∃cA,u.heap[g]?=some (cV cA 3))/\u.heap[b]?=wl.heap[b]?/\u.heap[w.heap.size+1]?=some (cV #[v,.pointer none] 70)/\u.heap[w.heap.size+2]?=some (cV #[.pointer none] 76)/\u.ownsRow base 75 3 v L.length (gx L)/\Z [] w u:=by
 have⟨Q,w0,tv,ta,h0,hrf⟩:=h.rel;have ne:∀{k:Nat} {c:fN} {t:TypeId},wr.heap[k]?=some (cV c t)->t≠164->k∉[r]:=by
  intro k c t m ht hm;have e:=List.mem_singleton.1 hm;subst e;rw[hrf.rdV]at m;simp at m;exact ht m.2.symm
 refine⟨⟨Q,h0,hrf.Y6 [164] (.fS E (λk m _=>by
  have e:=List.mem_singleton.1 m;subst e;exact⟨⟨_,_,_,hrf.rdV,by simp⟩,h.rge⟩)) (λt _ ht=>by grind) (by decide) hr D z a1 a0 fr (λ_=>I) (λg hg=>fK h.kept.size (I g hg))⟩,h.cU.kept E,?_,(E.block b (kL T uI) (by grind)).trans h.lk,E.at h.tb (ne h.tb (by decide)),E.at h.sb (ne h.sb (by decide)),E.ownsRow h.own ?_,h.kept.next E (by simpa using h.rge)⟩
 grind[aty,Z.at];intro k m;rcases h.own.2 with⟨e,_⟩|⟨q,a2,a3,e,_,hc,_⟩;rw[e]at m;cases m;rw[e]at m;have e3:=je m;grind
def Iu(w:J)(e:Ending)(w':J):UY->Prop
 | .stop c p=>∃k,e=dw (.tuple #[.agg #[gq,.pointer none],cW k])/\ic w' k c p/\Z [] w w'
 | .done fin L=>∃v k E h,e=dw (.tuple #[.agg #[v,cW k],.pointer none])/\h 0=k/\RF E h fin w'/\w'.ownsRow w.heap.size 75 3 v L.length (gx L)/\L.length<=1024/\Z [] w w'
 | .stuck=>False
theorem Ui{k c p:Nat}(F:W.heap[w.heap.size+1]?=some (cV #[v,.pointer none] 70))(E:W.heap[w.heap.size+1+1]?=some (cV #[.pointer none] 76))(h:ic W k c p)(z:Z [] w W)(m:Z [w.heap.size+1,w.heap.size+1+1] W w'):ic w' k c p/\Z [] w w':=by
 refine⟨m.at h ?_,z.next m (λx D=> .inr ?_)⟩;intro u;rcases List.mem_cons.1 u with e|u;grind[ic];grind[ic];grind
def ad5(R:RC)(o:O)(p:Bool)(ps:Nat):zJ (QR R o p) ps=QR R (zJ (QR R o p) ps).jI p:=by unfold zJ;split<;>rfl
theorem aeD(s:O)(tv:cY)(base d f l:Nat)(w:J)(ho:w.ownsRow base 5 1 tv s.size (iq s))(hs:s.size<=1024)(hd:d<=64)(hf:f<=32)(hl:l<=16)(hT:Hk w)(bK:Ll w)(az:∀av b,jX (vQ s l av b) (mJ KV) 8 (gy s) ((qm s).size+1) 0 (S0 d f l 0) []≠ .stuck):
  Calls prog 32 #[tv,.agg #[G d,G f,G l]] w λe w'=>∃av b,Iu w e w' (jX (vQ s l av b) (mJ KV) 8 (gy s) ((qm s).size+1) 0 (S0 d f l 0) []):=by
 have cn:∀(fn:Fn)(first cap:fN)(w:J),(Instr.makeFunc fn first cap).run prog w=.ok (.func fn first cap) w:=λ_ _ _ _=>rfl;obtain⟨w0,ae⟩:∃w0,w0=((w.alloc (cV #[G d,G f,G l] 67)).alloc (cV #[gq,.pointer none] 70)).alloc (cV #[.pointer none] 76):=⟨_,rfl⟩;have al:Z [] w w0:=by rw[ae];exact(((Z.refl _ _).alloc _).alloc _).alloc _
 have HZ:w0.heap.size=w.heap.size+3:=by rw[ae];simp
 have aD:w0.heap[w.heap.size]?=some (cV #[G d,G f,G l] 67):=by
  rw[ae,Below.heap_alloc _ _ _ (by simp;omega),Below.heap_alloc _ _ _ (by simp)];exact aY w _
 have bE:w0.heap[w.heap.size+1]?=some (cV #[gq,.pointer none] 70):=by
  rw[ae,Below.heap_alloc _ _ _ (by simp)];have:=aY (w.alloc (cV #[G d,G f,G l] 67)) (cV #[gq,.pointer none] 70)
  simpa using this
 have bF:w0.heap[w.heap.size+2]?=some (cV #[.pointer none] 76):=by
  have:=aY ((w.alloc (cV #[G d,G f,G l] 67)).alloc (cV #[gq,.pointer none] 70)) (cV #[.pointer none] 76);rw[ae];simpa using this
 have CN:=Mg s tv base (l:Int) w0 (al.ownsRow ho (λ_ _=>by simp)) hs;have c0:=aN aD 0;have c1:=aN aD 1;have c2:=aN aD 2;dsimp at c0 c1 c2;have⟨ao,cp,htv⟩:=cP ho;subst htv;have HW:=V ae.symm;have bc:=hT;clear ae
 go_enter_defers func32,ntmps32
 go_wp21;rw[HW.out];refine CN.mono ?_;rintro e w1⟨r,b,av,g,cap,rfl,hr,hb,bM,bC,bv,bx,b9,bI,ab⟩;have g1:=ab.at aD (by simp);have d0:=aN g1 0;have d1:=aN g1 1;have d2:=aN g1 2;dsimp at d0 d1 d2;have bH:=bc.fr (bm:=0) (.df (al.trans ab));have CB:=ake (d:Int) (f:Int) (l:Int) (.func 49) #[cW r] #[] w1 bH;have HB:=And.intro hr (And.intro hb bM);go_wp21;refine CB.mono ?_;rintro e w2⟨bm,bB,bD,rfl,hN⟩;have a2:=hN.k;have be:Rd w2 r (vQ s l av b) 0 0:=bC.kept a2 (by simp);have⟨C,fl,hfl,hrf⟩:=akf w.heap.size bm bB bD r d f l w1 w2 (vQ s l av b) hN be rfl rfl hd hf hl (by grind) (by omega);obtain⟨R,hR⟩:∃R,R=vQ s l av b:=⟨_,rfl⟩;have bw:R.cs=qm s:=by rw[hR];rfl
 have co:R.jI=⟨#[]⟩:=by rw[hR];rfl
 have cq:R.plT=false:=by rw[hR];rfl
 have bU:R.mv=.map (some b):=by rw[hR];rfl
 have bQ:R.lg=(8:Nat):=by rw[hR];rfl
 have cj:R.at_=(l:Int):=by rw[hR];rfl
 have bq:R.cs.size<=1024:=by rw[bw,uF];have:=Hp s s.size;omega
 rw[<-hR]at hrf;obtain⟨cr,hO⟩:∃cr,cr=jX R (mJ KV) 8 (gy s) (R.cs.size+1) 0 (S0 d f l 0) []:=⟨_,rfl⟩;have HO:=hO.symm;have am:Hid (∀e w',Iu w e w' cr->∃av b,Iu w e w' (jX (vQ s l av b) (mJ KV) 8 (gy s) ((qm s).size+1) 0 (S0 d f l 0) [])):=λe w' h=>⟨av,b,by grind⟩;have bz:cr≠ .stuck:=by rw[hO,hR];exact az av b
 have bA:Hid (RgV w bm bB bD r b C R g cap (gy s) w2.heap.size w2 0 0 (S0 d f l 0) (gq) [] w2):=V
  {rel:=⟨fl,w2,gq,[],hfl,hrf⟩
   lk:=rfl
   cU:=by have:=bv;rw[<-hR]at this;exact this.kept (a2.mono (by simp))
   aty:=by have⟨cA,hA⟩:=bI;exact⟨cA,a2.at hA (by simp)⟩
   tb:=a2.at (ab.at bE (by simp)) (by simp)
   sb:=a2.at (ab.at bF (by simp)) (by simp)
   own:=mh _ _ _ _
   kept:=(al.trans ab).trans a2
   le:=yQ _
   len:=dr _
   OW:=⟨fK (fK al.size ab.size) a2.size,dr _⟩
   rge:=by omega
   pos:=by simp[S0]}
 have I:=V (bx.kept a2 (by simp));have bb:=bK;have ci:=(al.trans ab).trans a2;go_wp21
 go_loopw [] (λwr=>∃n ps bg σ v L,RgV w bm bB bD r b C R g cap (gy s) w2.heap.size w2 ps bg σ v L wr/\jX R (mJ KV) 8 (gy s) n ps σ L=cr/\R.cs.size-ps<n) (λwr=>R.cs.size-(match wr.cell? ⟨r,3,none⟩with|some v=>(intOf v).toNat|none=>0))
 case atStart=>exact⟨R.cs.size+1,0,0,_,_,[],bA,HO,by omega⟩
 case round=>
  have⟨n,ps,bg,σ,v,L,h1,HGO,hnn⟩:=hrel;obtain⟨n,rfl⟩:∃k,n=k+1:=⟨n-1,by omega⟩;have bl:Rd wr r (QR R σ.jI σ.dM) bg ps:=by have⟨_,_,_,_,_,hr⟩:=h1.rel;exact hr.rdV
  have P0:=bl.ps;have H1:=h1;have bP:Gl wr r:=by
   have⟨hm,hl⟩:=bb.kept h1.kept;exact⟨hm,hl,λe=>by have:=h1.rge;have:=bb.2;omega⟩
  have bX:XK wr r (QR R σ.jI σ.dM) g cap b 8 (mJ KV) (gy s):=⟨⟨h1.cU.av,h1.cU.ne,h1.cU.lt,h1.cU.at_⟩,⟨⟨kL I.lt h1.OW.2,I.short,λc8 w' e=>I.run c8 w' (e.trans h1.lk)⟩,b9,bU,bQ,by decide⟩,bP,bq⟩;have a4:=aki r (QR R σ.jI σ.dM) bg ps g cap b 8 (mJ KV) (gy s) wr bl bX h1.le;rw[ad5]at a4;have au:ps<R.cs.size->wL (QR R σ.jI σ.dM) ps (fH (QR R σ.jI σ.dM) (mJ KV) 8 ps):=λh=>(yd (R:=QR R σ.jI σ.dM) I.short bq h).1;have aQ:ps=R.cs.size->fH (QR R σ.jI σ.dM) (mJ KV) 8 ps=.tok .QP R.cs.size:=λe=>by rw[e];exact JX (R:=QR R σ.jI σ.dM)
  have cg:=h1.le;rw[jX]at HGO;obtain⟨on,bk⟩:∃on,on=(zJ (QR R σ.jI σ.dM) ps).jI:=⟨_,rfl⟩;have bp:∀t,vz R σ ps t={σ with fresh:=t.nj,jI:=on}:=λt=>by rw[bk];rfl
  rw[<-bk]at a4;cases hT:fH (QR R σ.jI σ.dM) (mJ KV) 8 ps with
  |stop=>
   rw[hT]at a4 HGO;dsimp only at HGO;have CX:=V a4;have EO:=V HGO.symm;clear a4 HGO;go_wp21;refine CX.mono ?_;rintro e w3⟨k,rfl,az,cm,ai⟩;have⟨_,_,_,_,_,hrf⟩:=H1.rel;have aT:=hrf.rdV;have ne:∀{k:Nat} {c:fN} {t:TypeId},wr.heap[k]?=some (cV c t)->t≠164->k∉[r]:=by
    intro k c t z ht hm;have e:=List.mem_singleton.1 hm;subst e;unfold Rd at aT;rw[aT]at z;simp at z;exact ht z.2.symm
   have a9:=ai.at H1.tb (ne H1.tb (by decide));have a8:w3.heap[w.heap.size+1+1]?=_:=ai.at H1.sb (ne H1.sb (by decide));have a6:=H1.kept.next ai (by simpa using H1.rge);have Q:=And.intro a9 (And.intro a8 (And.intro az a6));go_wp2;refine leaves_cons (f:=45) (args:=#[cW (w.heap.size+1),cW (w.heap.size+1+1)]) (by simp) (by simp[go_sem]) ?_;refine(DJ (w.heap.size+1) (w.heap.size+1+1) k w3 v Q.1 Q.2.1 (by omega) (by omega)).mono ?_;rintro e u' bt⟨rfl,rfl,t9,s9,k9⟩;have HF:=V (Ui Q.1 Q.2.1 Q.2.2.1 Q.2.2.2 k9);have q0:=aN t9 0;have q1:=aN t9 1;have q2:=aN s9 0;dsimp at q0 q1 q2;simp[Go.Leaves,settle,results,results32,go_sem,q0,q1,q2];refine am _ _ ?_;rw[EO.out];exact⟨k,rfl,HF.1,HF.2⟩
  |tok k m=>
   rw[hT]at a4 HGO;dsimp only at HGO;have ck:sD k=0->k= .QP:=by cases k<;>simp[sD]
   have bL:TkG k:=by
    rcases dH ps R.cs.size with h|h;have:=au h;rw[hT]at this;exact this.2.2.2.2;have:=aQ (by omega);rw[hT]at this;obtain⟨rfl,_⟩:=wO.tok.inj this;trivial
   have bT:sD k≠0->ps<m/\m<=R.cs.size:=by
    intro b5;rcases dH ps R.cs.size with h|h;have:=au h;rw[hT]at this;exact⟨this.1,this.2.1⟩;have:=aQ (by omega);rw[hT]at this;obtain⟨rfl,_⟩:=wO.tok.inj this;exact absurd rfl b5
   have aR:=fK (bL.len (gy s ps) (gy s m)) (show 1024<=4096 by decide);rw[bp]at HGO;have CX:=V a4;clear a4;go_wp21;refine CX.mono ?_;rintro e w3⟨⟨vv,rfl,c5⟩,ai,c3⟩;obtain⟨T,x,tv,rfl,hV,aX,c4,bi,bj⟩:=c5.is aR;have⟨⟨fl,hfl,hrf⟩,a5,aA,aK,a9,a8,aM,a6⟩:=H1.next ai c3 b9 I.lt H1.OW.2 tv _ bi aR (lx (gy s ps) (gy s m) k).nj bj;obtain⟨t,ht⟩:∃t,t=lx (gy s ps) (gy s m) k:=⟨_,rfl⟩;have F:=HGO;rw[<-ht]at hrf hV F;have hD:=λhh=>ab6 (R3 w.heap.size bm bB r C R ps m w3 tv t.di) rfl rfl c4 rA t (λ_=>rfl) fl _ w3 hrf hh;have bf:=hV (R3 w.heap.size bm bB r C R ps m w3 tv t.di) rfl;cases hT1:mx (dp false rA) t {σ with fresh:=t.nj,jI:=on} with
   |stuck=>rw[hT1]at F;exact absurd F.symm bz
   |stop c p=>
    have D:=hD (by rw[hT1];simp);rw[hT1]at D F;dsimp only at F;have EO:=V F.symm;have C2:Hid (Calls prog 51 #[cW bB,.iface T x] w3 λe W=>∃j,e=oR j/\ic W j c p/\Fr w.heap.size w3 W):=V (by rwa [bf]at D);have HQ:=V (And.intro a9 (And.intro a8 a6));clear F HGO;go_wp21;refine C2.mono ?_;rintro e w4⟨k,rfl,az,E⟩;have⟨a9,a8,a6⟩:=HQ;have aa:=E.yH a9 (by decide);have aj:w4.heap[w.heap.size+1+1]?=_:=E.yH a8 (by decide);have aI:=E.kept a6 (dr _);have Q:=And.intro aa (And.intro aj (And.intro az aI));go_wp2;refine leaves_cons (f:=45) (args:=#[cW (w.heap.size+1),cW (w.heap.size+1+1)]) (by simp) (by simp[go_sem]) ?_;refine(DJ (w.heap.size+1) (w.heap.size+1+1) k w4 v Q.1 Q.2.1 (by omega) (by omega)).mono ?_;rintro e u' bt⟨rfl,rfl,t9,s9,k9⟩;have HF:=V (Ui Q.1 Q.2.1 Q.2.2.1 Q.2.2.2 k9);have q0:=aN t9 0;have q1:=aN t9 1;have q2:=aN s9 0;dsimp at q0 q1 q2;simp[Go.Leaves,settle,results,results32,go_sem,q0,q1,q2];refine am _ _ ?_;rw[EO.out];exact⟨k,rfl,HF.1,HF.2⟩
   |ok u σ2=>
    have D:=hD (by rw[hT1];simp);rw[hT1]at D F;dsimp only at F;have aS:0<({σ with fresh:=t.nj,jI:=on}:N).nodes.length:=H1.pos;have C2:Hid (Calls prog 51 #[cW bB,.iface T x] w3 λe W=>e=nu/\∃aF,aF 0=bD/\RF (R3 w.heap.size bm bB r C R ps m w3 tv t.di) aF σ2 W/\Fr w.heap.size w3 W/\0<σ2.nodes.length):=
     V (by
      rw[bf]at D;exact D.mono (λe W hL=>by
       have⟨aF,h5,h6,h7,h8,h9⟩:=hL;exact⟨h7,aF,(h5 0 aS).trans hfl,h8,h9,kL aS h6⟩))
    have HQ:=V (And.intro a5 (And.intro aA (And.intro aK (And.intro a9 (And.intro a8 (And.intro aM a6))))));have bd:=ai.size;clear HGO;go_wp21;refine C2.mono ?_;rintro e w4⟨rfl,b0,aq,ay,E,b6⟩;have⟨a5,aA,aK,a9,a8,aM,a6⟩:=HQ;have ca:w4.heap[b]?=w2.heap[b]?:=(E.map aK I).trans aK;have aa:=E.yH a9 (by decide);have aj:=E.yH a8 (by decide);have aI:=E.kept a6 (dr _);have⟨cA,hA3⟩:=aA;have b1:=E.yH hA3 (by decide);have bh:MH w4 r R g cap (gy s):=⟨a5.av,a5.ne,eS b1,λi hi=>by rw[aN b1,<-aN hA3];exact a5.at_ i hi⟩;have b7:w4.ownsRow w2.heap.size 75 3 v L.length (gx L):=by
     refine⟨aM.1,?_⟩;rcases aM.2 with e|⟨q,af,aE,e,h1,hc,r'⟩;exact .inl e;exact .inr ⟨q,af,aE,e,h1,E.yH hc (by decide),r'⟩
    have aP:w2.heap.size<=w4.heap.size:=fK H1.OW.2 (fK bd E.size);have ak:=aX.kind w4;by_cases aH:sD k=0
    .rw[aH]at ak;have CK:=V ak;have b3:=F;rw[dd aH]at b3;have EO:=V b3.symm;clear ak b3;have CD:=RN _ _ _ _ ay;have eD:nV b0 0=cW bD:=by unfold nV;rw[aq]
     rw[eD]at CD;have⟨ax,ac,hv⟩:=cP b7;subst hv;have c0:=aN aa 0;have c1:=aN aa 1;have c2:=aN (show w4.heap[w.heap.size+1+1]?=_ from aj) 0;have f0:=cQ aa 0;have f1:=cQ aa 1;have f2:=cQ (show w4.heap[w.heap.size+1+1]?=_ from aj) 0;dsimp at c0 c1 c2;have HX:=V (And.intro aa (And.intro aj (And.intro b7 (And.intro aI (And.intro ay aq)))));go_wp21;refine CK.mono ?_;rintro e w5⟨rfl,rfl⟩;go_wp21;refine CD.mono ?_;rintro e w5⟨rfl,rfl⟩;have⟨tb5,sb5,ow5,kw5,hrf5,ar⟩:=HX;have b5:w.heap.size+1+1≠w.heap.size+1:=by omega
     have a1:(w5.setCell ⟨w.heap.size+1,1,none⟩ (cW bD)).heap[w.heap.size+1]?=some (cV #[.slice ax L.length ac,cW bD] 70):=bJ tb5 1 _;have aB:(w5.setCell ⟨w.heap.size+1,1,none⟩ (cW bD)).heap[w.heap.size+1+1]?=some (cV #[.pointer none] 76):=(Below.heap_setCell _ _ _ _ b5).trans sb5;have E1:=V (nG a1 0 (.slice ax L.length ac) rfl);have E2:=V (nG a1 1 (cW bD) rfl);have E3:=V (nG aB 0 (.pointer none) rfl);have q0:=aN a1 0;have q1:=aN a1 1;have q2:=aN aB 0;dsimp at q0 q1 q2;have K:Z [w.heap.size+1] w5 (w5.setCell ⟨w.heap.size+1,1,none⟩ (cW bD)):=(Z.refl _ _).setCell (.inl (by simp)) _;have ag:Rd w5 r (QR R σ2.jI σ2.dM) ps m:=hrf5.rdV;have bW:r∉[w.heap.size+1]:=by
      intro hm;have e:=List.mem_singleton.1 hm;unfold Rd at ag;rw[e,tb5]at ag;simp at ag
     have ah:=hrf5.Y6 [70] (.fS K (λk z _=>by
      have e:=List.mem_singleton.1 z;subst e;exact⟨⟨_,_,_,tb5,by simp⟩,by omega⟩)) (by decide) (by decide) (ag.kept K bW) (gq) [] (mh _ _ _ _) (yQ _) σ2.fresh (λ_ g hg=>by simp[Value.ownBlock]at hg) (λg hg=>by simp[Value.ownBlock]at hg)
     have HF:Hid (Iu w (dw (.tuple #[.agg #[.slice ax L.length ac,cW bD],.pointer none])) (w5.setCell ⟨w.heap.size+1,1,none⟩ (cW bD)) cr):=by
      rw[EO.out];refine V ⟨_,bD,_,b0,rfl,ar,ah,?_,by have:=H1.len;omega,kw5.setCell (.inr (by simp)) _⟩;refine gS (K.ownsRow ow5 (λq hq=>?_)) H1.OW.1;intro hm;have e:=List.mem_singleton.1 hm;subst e;rcases ow5.2 with⟨e2,_⟩|⟨q,af,aE,e2,_,hc,_⟩;rw[e2]at hq;cases hq;rw[e2]at hq;have e3:=je hq;subst e3;rw[tb5]at hc;simp at hc
     go_wp2;rw[E1.out,E2.out,E3.out];refine leaves_cons (f:=45) (args:=#[cW (w.heap.size+1),cW (w.heap.size+1+1)]) (by simp) (by simp[go_sem]) ?_;refine(TC ⟨w.heap.size+1,0,none⟩ ⟨w.heap.size+1+1,0,none⟩ _).mono ?_;rintro e u' bt⟨rfl,rfl,rfl⟩;simp[Go.Leaves,settle,results,results32,go_sem,q0,q1,q2];exact am _ _ HF
    .have bS:=bT aH;have CK:=V ak;have ba:=F;rw[cZ aH]at ba;have cl:((sD k:Int)==0)=false:=beq_eq_false_iff_ne.2 (by omega);have bu:L.length<=1024:=by have:=H1.len;have:=H1.le;omega
     clear ak;have bR:=aX.eI;have cf:=aX.nil;have CY:=Rv (gy s ps:Int) (gy s m:Int) w4;have aP:w2.heap.size<=w4.heap.size:=fK H1.OW.2 (fK bd E.size);have HX:=V (And.intro bh (And.intro b1 (And.intro ca (And.intro aa (And.intro aj (And.intro b7 (And.intro aI (And.intro ay (And.intro aq aP)))))))));go_wp21;refine CK.mono ?_;rintro e w5⟨rfl,rfl⟩;go_wp21;refine CY.mono ?_;rintro e w6⟨rfl,K⟩;have⟨hat5,hA5,lk5,tb5,sb5,ow5,kw5,hrf5,ar,big5⟩:=HX;have a1:=K.at tb5 (by simp);have a0:=K.ownsRow ow5 (λ_ _=>by simp);have⟨ax,ac,hv⟩:=cP a0;subst hv;have c6:=aN a1 0;dsimp at c6;have CA:=Q7 w2.heap.size _ L ⟨(sD k:Int),gy s ps,gy s m⟩ w6 a0 (fK big5 K.size) (by omega);have HP:=V (And.intro (hat5.kept (K.mono (by simp))) (And.intro (K.at hA5 (by simp)) (And.intro ((K.block b (kL I.lt big5) (by simp)).trans lk5) (And.intro a1 (And.intro (K.at sb5 (by simp)) (And.intro a0 (And.intro (kw5.trans K) (And.intro (hrf5.dB K) (And.intro ar (fK big5 K.size))))))))));go_wp21;refine CA.mono ?_;rintro e w7⟨v7,rfl,b8,a3⟩;have⟨hat6,hA6,lk6,a1,aB,a0,kw6,ah,hfl6,big6⟩:=HP;have ne:∀{k:Nat} {c:fN} {t:TypeId},w6.heap[k]?=some (cV c t)->t≠75->k∉(Value.slice ax L.length ac).ownBlock.toList:=by
      intro k c t z ht hm;rcases a0.2 with⟨e2,_⟩|⟨q,af,aE,e2,_,hc,_⟩;rw[e2]at hm;simp[Value.ownBlock]at hm;rw[e2]at hm;simp[Value.ownBlock]at hm;subst hm;rw[z]at hc;simp at hc;exact ht hc.2
     have aU:=ah.rdV;have cc:w7.heap[b]?=w2.heap[b]?:=(KT.map (bs:=w.heap.size) (T:=[75]) (.fS a3 (λk z _=>by
      obtain⟨c,m,hc⟩:=qd a0 (by simpa using z);exact⟨⟨_,_,_,hc,by simp⟩,by have h7:=(a0.lt k (by simpa using z)).1;have h8:=H1.OW.1;omega⟩)) lk6 I).trans lk6
     have aC:=a3.at a1 (ne a1 (by decide));have br:=a3.at aB (ne aB (by decide));have an:=a3.at hA6 (ne hA6 (by decide));have aw:Rd w7 r (QR R σ2.jI σ2.dM) ps m:=a3.at aU (ne aU (by decide));have ap:MH w7 r R g cap (gy s):=⟨hat6.av,hat6.ne,eS an,λi hi=>by rw[aN an,<-aN hA6];exact hat6.at_ i hi⟩;have c9:Z [] w w7:=kw6.next a3 (λx hx=> .inr (by have h7:=(a0.lt x (by simpa using hx)).1;have h8:=H1.OW.1;omega));have bn:=ah.Y6 [75] (.fS a3 (λk z _=>by
      obtain⟨c,m,hc⟩:=qd a0 (by simpa using z);exact⟨⟨_,_,_,hc,by simp⟩,by have h7:=(a0.lt k (by simpa using z)).1;have h8:=H1.OW.1;omega⟩)) (by decide) (by decide) aw (gq) [] (mh _ _ _ _) (yQ _) σ2.fresh (λ_ g hg=>by simp[Value.ownBlock]at hg) (λg hg=>by simp[Value.ownBlock]at hg)
     have⟨a7,p7,hv7⟩:=cP b8;subst hv7;have c7:=aN aC 0;have f7:=cQ aC 0;dsimp at c7;have ad:Z [w.heap.size+1] w7 (w7.setCell ⟨w.heap.size+1,0,none⟩ (.slice a7 (rX L ⟨(sD k:Int),gy s ps,gy s m⟩).length p7)):=(Z.refl _ _).setCell (.inl (by simp)) _;have aL:∀{k:Nat} {c:fN} {t:TypeId},w7.heap[k]?=some (cV c t)->t≠70->k∉[w.heap.size+1]:=by
      intro k c t z ht hm;have e:=List.mem_singleton.1 hm;subst e;rw[aC]at z;simp at z;exact ht z.2.symm
     have aW:Rd (w7.setCell ⟨w.heap.size+1,0,none⟩ (.slice a7 (rX L ⟨(sD k:Int),gy s ps,gy s m⟩).length p7)) r (QR R σ2.jI σ2.dM) ps m:=ad.at aw (aL aw (by decide));have bo:=bn.Y6 [70] (.fS ad (λk z _=>by
      have e:=List.mem_singleton.1 z;subst e;exact⟨⟨_,_,_,aC,by simp⟩,by omega⟩)) (by decide) (by decide) aW (gq) [] (mh _ _ _ _) (yQ _) σ2.fresh (λ_ g hg=>by simp[Value.ownBlock]at hg) (λg hg=>by simp[Value.ownBlock]at hg)
     have b2:=ad.at an (aL an (by decide));have HE:Hid (RgV w bm bB bD r b C R g cap (gy s) w2.heap.size w2 m ps σ2 (.slice a7 (rX L ⟨(sD k:Int),gy s ps,gy s m⟩).length p7) (rX L ⟨(sD k:Int),gy s ps,gy s m⟩) (w7.setCell ⟨w.heap.size+1,0,none⟩ (.slice a7 (rX L ⟨(sD k:Int),gy s ps,gy s m⟩).length p7))):=V
      {rel:=⟨b0,_,_,_,hfl6,bo⟩
       lk:=by
        rw[ad.block b (kL I.out.lt (fK big6 a3.size)) (by
         intro hm;have e:=List.mem_singleton.1 hm;omega)]
        exact cc
       cU:=⟨ap.av,ap.ne,eS b2,λi hi=>by rw[aN b2,<-aN an];exact ap.at_ i hi⟩
       aty:=⟨_,b2⟩
       tb:=bJ aC 0 _
       sb:=ad.at br (aL br (by decide))
       own:=ad.ownsRow b8 (λq hq=>by
        rcases b8.2 with⟨e2,_⟩|⟨q',af,aE,e2,_,hc,_⟩;rw[e2]at hq;cases hq;rw[e2]at hq;have e3:=je hq;subst e3;exact aL hc (by decide))
       kept:=c9.setCell (.inr (by simp)) _
       le:=bS.2
       pos:=b6
       len:=by have h8:=ML L ⟨(sD k:Int),gy s ps,gy s m⟩;have h9:=H1.len;omega
       OW:=⟨H1.OW.1,fK (fK big6 a3.size) ad.size⟩
       rge:=H1.rge}
     have P8:=aW.ps;have b4:R.cs.size-m<R.cs.size-ps:=by omega
     generalize hlq:(rX L ⟨(sD k:Int),gy s ps,gy s m⟩).length=ch at *;go_wp2;go_roundw
     case rel=>exact⟨n,m,ps,σ2,_,_,HE,ba,by omega⟩
     case measure=>rw[P8,P0];simpa [intOf]using b4
def BM(σ:N):Prop:=6<=σ.mode\/σ.mode=5/\6<=σ.kept
def En(r:nh Unit):Prop:=∀u σ',r=.ok u σ'->BM σ'
theorem C5{α:Type}{m:M α}{f:α->M Unit}(h:∀a k,m σ=.ok a k->En (f a k)):En ((m>>=f) σ):=by
 intro u σ' e;rw[M.cH]at e;cases hm:m σ with
 |ok a k=>rw[hm]at e;exact h a k hm u σ' e
 |stop c p=>grind
 |stuck=>grind
def xW{m:M Unit}(h:En (m σ)):En ((m>>=λ_=>(Pure.pure ():M Unit)) σ):=C5 λa z e u σ' k=>by
 cases k;exact h _ _ e
theorem uZ{α k:Type}{m:M α}{f:α->M k}{b:k}(h:(m>>=f) σ=.ok b σ'):∃a e,m σ=.ok a e/\f a e=.ok b σ':=by
 grind[M.cH]
def RB.en{c:Nat}{r:nh Unit}(h:RB c σ r):En r:=by
 rintro u σ' rfl;rcases h.2.1.sh with e|⟨e,k,_⟩|⟨e,_⟩;exact .inl (Ct e);exact .inr ⟨e,Ct k⟩;exact .inl (by omega)
section
variable {a b n:Nat}{cU:iD}{σ:N}
def en6(h:σ.mode=6):En (dp false (n+1) 6 ⟨a,b,.dD,cU⟩ σ):=by
 intro u σ' e;cases e;exact .inl (by omega)
theorem en4:En (dp false (n+2) 4 ⟨a,b,.dD,cU⟩ σ):=by
 exact C5 λ_ e _=>xW (m:=gh (dp _ (n+1)) ⟨a,b,.dD,cU⟩) (σ:={e with mode:=6}) (en6 rfl)
theorem en3:En (dp false (n+3) 3 ⟨a,b,.dD,cU⟩ σ):=by
 exact xW en4
theorem en2:En (dp false (n+4) 2 ⟨a,b,.dD,cU⟩ σ):=by
 refine C5 λ_ e h=>xW ?_;obtain⟨_,_,_,h⟩:=uZ h;obtain⟨_,_,_,h⟩:=uZ h;obtain⟨_,k,_,h⟩:=uZ h;cases h;exact en3
theorem en1:En (dp false (n+5) 1 ⟨a,b,.dD,cU⟩ σ):=by
 refine C5 λ_ e h=>xW ?_;obtain⟨_,_,_,h⟩:=uZ h;obtain⟨_,_,_,h⟩:=uZ h;obtain⟨_,_,_,h⟩:=uZ h;obtain⟨_,k,_,h⟩:=uZ h;cases h;exact en2
theorem en0:En (dp false (n+6) 0 ⟨a,b,.dD,cU⟩ σ):=by
 exact xW en1
theorem U7(I:4*64+8<=n)(F:tA ⟨a,b,.dD,cU⟩)(u:jS σ)(hs:HS σ.mode σ.cC σ.head)(K:wt σ<995000)(m:σ.waiting.length<4000):En (dp false (n+6) σ.mode ⟨a,b,.dD,cU⟩ σ):=by
 rcases hs with⟨k,_⟩|⟨k,_⟩|⟨k,_⟩|⟨k,_⟩|⟨k,D⟩;rcases dH σ.mode 1 with E|E;grind[en0];have e:σ.mode=1:=by omega
 grind[en1];grind[en2];grind[en3];grind[en4];exact(Is 64 _ (by omega) _ σ ⟨F,⟨u,D,k⟩,(λh=>by cases h),by omega,m,(by obtain⟨r,z⟩:=u;exact fK z.vu z.MW)⟩).en
theorem ajq(I:tA ⟨a,b,.dD,cU⟩)(g:rW σ)(hw:AJ σ<990000)(E:σ.waiting.length<4000):En (dp false rA σ.mode ⟨a,b,.dD,cU⟩ σ):=by
 have a0:wt σ<990000:=by unfold AJ at hw;omega
 rcases g.ms.1 with h|⟨z,F,D,h4⟩|⟨z,F,D⟩;grind[U7,rW.iv];rw[z];obtain⟨g1,_⟩:=E5 g.iv D;exact xW (U7 (by omega) I (g1.jo rfl rfl rfl rfl rfl rfl rfl) h4 (by show wt σ<_;omega) E)
 .rw[z];show En (gI (dp true 299) (dp false 299) ⟨a,b,.dD,cU⟩ σ);unfold gI;have k:=AP (n:=298) g.iv D g.wz (by grind[AJ]);refine C5 λu m e=>?_;rw[e]at k;obtain⟨K,a2,a3,a4,a5,a6,a7,a8,a9,Q,T⟩:=k;have hb:oj m.kept=true:=by rw[a4];rcases F with e|e|e<;>(rw[e];rfl)
  exact xW (U7 (n:=293) (by omega) I (K.jo rfl rfl rfl rfl rfl rfl rfl) (.inr (.inr (.inr (.inr ⟨hb,a2⟩)))) (by show wt m<_;grind[AJ]) (by grind))
def ab4(m:tA ⟨a,b,.dD,cU⟩)(g:rW σ)(k:AJ σ<990000)(h:σ.waiting.length<4000):En (mx (dp false rA) ⟨a,b,.dD,cU⟩ σ):=by
 show En (if σ.behind&&ir _ _ then nh.ok () _ else gh _ _ _);have e:ir (cR.chars ⟨a,b,.dD,cU⟩) xE=false:=(by decide+kernel:ir (⟨#[]⟩) _=false);rw[e,Bool.and_false];exact ajq m ⟨g.iv.jo rfl rfl rfl rfl rfl rfl rfl,g.ms,g.wz⟩ k h
end
def NM(R:RC)(σ:N)(ps:Nat)(t:cR):Ir (vz R σ ps t) t:=by
 intro h;have⟨a,b,k,cU⟩:=t;cases k<;>first|rfl|cases h
def Bv(g:rW σ)(R:RC)(ps:Nat)(t:cR):rW (vz R σ ps t):=⟨g.iv.jo rfl rfl rfl rfl rfl rfl rfl,g.ms,g.wz⟩
def aiq(R:RC)(cut:Nat->Nat)(ps:Nat)(σ:N):UY->Prop
 | .stuck=>False
 | .stop _ p=>∃q,ps<=q/\q<=R.cs.size/\p=cut q
 | .done σ' _=>rW σ'/\AJ σ'<=AJ σ+580*(R.cs.size+1-ps)/\σ'.nB=σ.nB/\σ'.ox=σ.ox/\σ'.mj=σ.mj/\BM σ'/\∀i s,dW σ i s->dW σ' i s
def abI{m:Nat}{k:OA}(u:∀x t,look x=some t->t.size<=16)(z:R.cs.size<=1024)(D:ps<=R.cs.size)(e:fH R look lg ps=.tok k m):TkG k/\(sD k≠0->ps<m/\m<=R.cs.size):=by
 rcases dH ps R.cs.size with h|h;have:=(yd (R:=R) (lg:=lg) u z h).1;rw[e]at this;exact⟨this.2.2.2.2,λ_=>⟨this.1,this.2.1⟩⟩;obtain rfl:ps=R.cs.size:=by omega
 rw[JX]at e;obtain⟨rfl,_⟩:=wO.tok.inj e;exact⟨trivial,λh=>absurd rfl h⟩
def NX(hk:∀x t,look x=some t->t.size<=16)(hz:R.cs.size<=1024):∀(n ps:Nat)(σ:N)(L:List Sp),ps<=R.cs.size->R.cs.size-ps<n->rW σ->AJ σ+580*(R.cs.size+1-ps)<990000->σ.waiting.length+(R.cs.size+1-ps)<4000->aiq R cut ps σ (jX R look lg cut n ps σ L):=by
 intro n
 induction n with
 |zero=>intro ps σ L D h2;omega
 |succ n ih=>
  intro ps σ L D h2 g hp hw;rw[jX];cases hT:fH (QR R σ.jI σ.dM) look lg ps with
  |stop=>exact⟨ps,dr _,D,rfl⟩
  |tok k m=>
   dsimp only;obtain⟨z,E⟩:TkG k/\(sD k≠0->ps<m/\m<=R.cs.size):=abI (R:=QR R σ.jI σ.dM) hk hz D hT;have ht:=Y3 (lx (cut ps) (cut m) k) (z.tok _ _) (Bv g R ps (lx (cut ps) (cut m) k)) (NM R σ ps _) (by show AJ σ<_;omega) (by show σ.waiting.length<_;omega);have ha:(lx (cut ps) (cut m) k).a=cut ps:=by cases k<;>rfl
   revert ht;cases hT1:mx (dp false rA) (lx (cut ps) (cut m) k) (vz R σ ps (lx (cut ps) (cut m) k))with
   |stuck=>exact λh=>h.elim
   |stop c p=>
    intro h;refine⟨ps,dr _,D,?_⟩;rw[<-ha];exact h
   |ok u σ2=>
    rintro⟨I,K,Q,T,a5,a6,a7⟩;have a0:σ2.waiting.length<=σ.waiting.length+1:=a5;have a8:AJ σ2<=AJ σ+580:=a6;dsimp only;split;rename_i h0;refine⟨I,by omega,K,Q,T,?_,a7⟩;cases k with
    |QP=>exact ab4 ((z.tok _ _).resolve_left (by intro e;cases e)) (Bv g R ps _) (by show AJ σ<_;omega) (by show σ.waiting.length<_;omega) _ _ hT1
    |_=>cases h0
    .rename_i F;obtain⟨m1,m2⟩:=E F;have h3:=ih m σ2 (rX L ⟨(sD k:Int),cut ps,cut m⟩) m2 (by omega) I (by omega) (by omega);revert h3;cases jX R look lg cut n m σ2 (rX L ⟨(sD k:Int),cut ps,cut m⟩)with
     |stuck=>exact λh=>h
     |stop c p=>rintro⟨q,q1,q2,q3⟩;exact⟨q,by omega,q2,q3⟩
     |done σ' L'=>rintro⟨b1,b2,b3,b4,b5,b6,b7⟩;exact⟨b1,by omega,b3.trans K,b4.trans Q,b5.trans T,b6,λi s q=>b7 i s (a7 i s q)⟩
theorem Cm{e:sZ}(h:(S0 d f l a).db i=some e):e.ff=none/\e.kids=[]:=by grind[ab3]
theorem alf(m:d<=64)(E:f<=32):jS (S0 d f l a):=
 ⟨λ_=>0,{
  lY:=⟨λi e p h K=>(by grind[Cm]),λi e j h u=>(by rw[(Cm h).2]at u;cases u),λi e h=>(by rw[(Cm h).2];simp[dX]),λi e h k z=>(by rw[(Cm h).2]at z;cases z)⟩
  qK:=⟨λi e p h K=>(by grind[Cm]),List.Pairwise.nil,λd h F=>by cases F⟩
  cC:=λx Q=>by cases Q
  act:=λi I=>by cases I
  head:=λd m=>by cases m
  form:=λd m=>by cases m
  Ln:=λx D h=>by cases h
  vu:=yQ _
  xN:=yQ _
  MW:=m
  QQ:=E
  rU:=rfl}⟩
def XN(e:d<=64)(h:f<=32):rW (S0 d f l a):=⟨alf e h,⟨.inl (.inl ⟨yQ _,rfl,rfl⟩),BH.low (yQ _)⟩,λx k=>by cases k⟩
def U0:AJ (S0 d f l a)<=1000:=by show([ndW _].sum+200*0<=1000);decide
def sw(R:RC)(av mv:cY)(lg a:Int):RC:={R with av:=av,mv:=mv,lg:=lg,at_:=a}
def X3(R:RC)(av mv:cY)(lg a:Int):∀(n i:Nat),R.cs.size-i<=n->qY (sw R av mv lg a) i=qY R i
 |0,i,h=>by
  rw[qY.eq_1 _ i,qY.eq_1 R i,cZ (by show ¬i<R.cs.size;omega),cZ (by omega)]
 |n+1,i,h=>by
  rw[qY.eq_1 _ i,qY.eq_1 R i];show(if i<R.cs.size then (if pre (R.cs.extract i R.cs.size) e1=true then i+3 else if pre (R.cs.extract i R.cs.size) e2=true then i+4 else qY _ _)else i)=_;split;rw[X3 R av mv lg a n _ (by omega)];rfl
def RH(R:RC)(av mv:cY)(lg at_:Int)(a:Nat):∀(n i:Nat),R.cs.size-i<=n->ni (sw R av mv lg at_) a i=ni R a i
 |0,i,h=>by
  rw[ni.eq_1 _ a i,ni.eq_1 R a i,cZ (by show ¬i<R.cs.size;omega),cZ (by omega)];rfl
 |n+1,i,h=>by
  rw[ni.eq_1 _ a i,ni.eq_1 R a i];show(if i<R.cs.size then (if pre (R.cs.extract i R.cs.size) e1=true then R.cs.extract a i else if pre (R.cs.extract i R.cs.size) e2=true then R.cs.extract a i else ni _ a _)else ye _)=_;split;rw[RH R av mv lg at_ a n _ (by omega)];rfl
section
variable (R:RC)(av mv:cY)(l2 a:Int)(ha:R.at_<=a)(look:O->Option O)(lg:Nat)
include ha
theorem agX(ns:List O)(ps:Nat)(h:pw R ns ps=false):pw (sw R av mv l2 a) ns ps=false:=by
 cases hq:pw _ ns ps with
 |false=>rfl
 |true=>
  have e:(!GW ns (ue R ps)&&!decide (gR R ps=R.cs.size)&&decide (a<=(ns.length)))=true:=hq;grind[pw]
theorem Uq:∀(n:Nat)(L:iD)(i:Nat),R.cs.size-i<=n->a=R.at_\/gV R look lg L i≠ .stop->gV (sw R av mv l2 a) look lg L i=gV R look lg L i
 |0,L,i,h,_=>by
  have m:=pq (R:=R) (ps:=i);rw[gV.eq_1 (sw R av mv l2 a) look lg L i,gV.eq_1 R look lg L i,dif_neg (by show ¬eK R i<R.cs.size;omega),dif_neg (by omega)]
 |n+1,L,i,h,hh=>by
  have m:=pq (R:=R) (ps:=i);rw[gV.eq_1 R look lg L i]at hh;rw[gV.eq_1 (sw R av mv l2 a) look lg L i,gV.eq_1 R look lg L i];by_cases k:eK R i<R.cs.size
  .rw[wI k]at hh;rw[wI (show eK (sw R av mv l2 a) i<(sw R av mv l2 a).cs.size from k),wI k];have z:=qs (R:=R) (ps:=eK R i);have D:=uR (R:=R) (ps:=gR R (eK R i));have e:=Uq n (nM R look lg L (eK R i)) (nL R (gR R (eK R i))) (by omega);show(if pre (R.cs.extract (eK R i) R.cs.size) eA=true then Iv.whole (eK R i+1) L else if pw (sw R av mv l2 a) (L.map (·.1)) (eK R i)=true then .stop else gV (sw R av mv l2 a) look lg (nM R look lg L (eK R i)) (nL R (gR R (eK R i))))=_;by_cases u:pre (R.cs.extract (eK R i) R.cs.size) eA=true;grind;rw[cZ u]at hh;cases ht:pw R (L.map (·.1)) (eK R i)with
   |false=>
    grind[agX]
   |true=>
    rw[ht]at hh;obtain rfl:=hh.resolve_right λh=>h rfl;rw[show pw (sw R av mv l2 R.at_) (L.map (·.1)) (eK R i)=true from ht];rfl
  grind[eK,sw]
def ae4(k:O->iD->OA)(nm:O)(ps:Nat)(h:a=R.at_\/qy R k nm (gV R look lg [] ps)≠ .stop):qy (sw R av mv l2 a) k nm (gV (sw R av mv l2 a) look lg [] ps)=qy R k nm (gV R look lg [] ps):=by
 rw[Uq R av mv l2 a ha look lg _ [] _ (dr _) (h.imp id λh e=>h (by rw[e];rfl))];cases gV R look lg [] ps<;>rfl
theorem aeU(bg ps:Nat)(h:a=R.at_\/jc R look lg bg ps≠ .stop):jc (sw R av mv l2 a) look lg bg ps=jc R look lg bg ps:=by
 unfold jc at h|-;show(if Do R ps=true then _ else _)=_;split;rename_i e;rw[dd e]at h;exact ae4 R av mv l2 a ha look lg .fin _ _ h;rfl
omit ha
def ZV(ps:Nat):kZ (sw R av mv l2 a) ps=kZ R ps:=by
 unfold kZ;rw[X3 R av mv l2 a _ ps (dr _)];rfl
def Vp(ps:Nat):lG (sw R av mv l2 a) ps=lG R ps:=by
 unfold lG;rw[RH R av mv l2 a _ _ ps (dr _)];rfl
include ha
theorem agV(bg ps:Nat)(h:a=R.at_\/mu R look lg bg ps≠ .stop):mu (sw R av mv l2 a) look lg bg ps=mu R look lg bg ps:=by
 unfold mu at h|-;rw[ZV,Vp];show(if Do R ps=true then _ else if pre (R.cs.extract ps R.cs.size) ⟨#[47]⟩=true then _ else _)=_;split;rename_i e;rw[dd e]at h;exact ae4 R av mv l2 a ha look lg .TY (vD R ps) _ h;split;grind[aeU];rfl
def YD(ps:Nat)(h:a=R.at_\/fH R look lg ps≠ .stop):fH (sw R av mv l2 a) look lg ps=fH R look lg ps:=by
 unfold fH at h|-;show(if ps=R.cs.size then _ else if ((rV R ps).jI.toList==[])=true then (if pre (R.cs.extract ps R.cs.size) ou=true then _ else _)else _)=_;split;rfl;rename_i e;rw[cZ e]at h;split;rename_i k;rw[dd k]at h;split;rename_i m;rw[dd m]at h;exact agV (rV R ps) av mv l2 a ha look lg ps _ h;rfl;rfl
end
theorem TQ(R:RC)(av mv:cY)(l2 a:Int)(σ:N)(ps:Nat)(t:cR):vz (sw R av mv l2 a) σ ps t=vz R σ ps t:=by
 unfold vz zJ;by_cases h:ps=R.cs.size;grind[QR,sw];rw[cZ (show ¬ps=(QR (sw R av mv l2 a) _ _).cs.size from h),cZ (show ¬ps=(QR R σ.jI _).cs.size from h)];rfl
def NY(R:RC)(av mv:cY)(l2:Int)(look:O->Option O)(lg:Nat)(cut:Nat->Nat):∀(n ps:Nat)(σ:N)(L:List Sp),jX (sw R av mv l2 R.at_) look lg cut n ps σ L=jX R look lg cut n ps σ L
 |0,_,_,_=>rfl
 |n+1,ps,σ,L=>by
  rw[jX,jX];have e:QR (sw R av mv l2 _) σ.jI σ.dM=sw (QR R _ _) av mv l2 R.at_:=rfl;rw[e,YD (QR R σ.jI _) av mv l2 R.at_ (Int.le_refl _) look lg ps (.inl rfl)];cases fH _ look lg ps with
  |stop=>rfl
  |tok k m=>
   dsimp only;rw[TQ];cases mx _ _ _ with
   |stuck=>rfl
   |stop c p=>rfl
   |ok u σ2=>
    dsimp only;rw[NY R av mv l2 look lg cut n m σ2]
def qv(d f l:Nat)(s:O):UY:=jX (vQ s l .nilFunc 0) (mJ KV) 8 (gy s) ((qm s).size+1) 0 (S0 d f l 0) []
theorem NZ(d f l:Nat)(s:O)(av:cY)(b:Nat):jX (vQ s l av b) (mJ KV) 8 (gy s) ((qm s).size+1) 0 (S0 d f l 0) []=qv d f l s:=
 NY (vQ s l _ 0) av _ 8 _ 8 _ _ _ _ _
theorem CJ(s:O):(qm s).size<=s.size:=by grind[uF,Hp]
theorem vY:∀x t,mJ KV x=some t->t.size<=16:=by
 grind[Option.map_eq_some_iff,QX,mJ]
theorem uP(d f l:Nat)(s:O)(hs:s.size<=1024)(e:d<=64)(h:f<=32):aiq (vQ s l .nilFunc 0) (gy s) 0 (S0 d f l 0) (qv d f l s):=by
 have k:=CJ s;have m:=U0 (d:=d) (f:=f) (l:=l) (a:=0);refine NX vY (by grind[vQ]) _ _ _ _ (yQ _) ?_ (XN e h) ?_ ?_;simp[vQ];show AJ _+580*((qm s).size+1-0)<990000;omega;show 0+((qm s).size+1-0)<4000;omega
theorem N3(s:O)(m:cY)(base d f l:Nat)(w:J)(F:w.ownsRow base 5 1 m s.size (iq s))(hs:s.size<=1024)(u:d<=64)(z:f<=32)(E:l<=16)(D:Hk w)(k:Ll w):
  Calls prog 32 #[m,.agg #[G d,G f,G l]] w λe w'=>Iu w e w' (qv d f l s):=by
 refine(aeD s m base d f l w F hs u z E D k (λav b h=>?_)).mono ?_;rw[NZ]at h;have:=uP d f l s hs u z
 rwa [h]at this
 grind[NZ]
theorem ack(h:a<=b):(cU s a).length<=(cU s b).length:=by
 induction b with
 |zero=>grind
 |succ b ih=>
  rcases dH b a with e|e;grind
  .cases hk:yM s b<;>grind[Va,Hq]
theorem af4:j<(cU s n).length->∃c,c<n/\yM s c=true/\(cU s c).length=j/\(cU s n)[j]?=some c:=by
 induction n with
 |zero=>simp[cU]
 |succ n ih=>
  cases hk:yM s n<;>grind[Va,Hq]
theorem acJ(h:j<(qm s).size):∃c,c<s.size/\yM s c=true/\(cU s c).length=j/\gy s j=c/\bt (qm s) j=chI s c:=by
 rw[uF]at h;have⟨c,h1,h2,h3,h4⟩:=af4 h;refine⟨c,h1,h2,h3,?_,?_⟩;grind[gy];unfold bt;rw[wI _];show(((((cU s _).map (chB s)).toArray)[j]'(by grind)).toNat:Int)=_;grind[MQ]
theorem I4(s:O):gy s (qm s).size=s.size:=by
 grind[uF,gy]
theorem acK(k:i<j)(m:j<=(qm s).size):gy s i<gy s j:=by
 have⟨c,h1,_,h3,h4,_⟩:=acJ (s:=s) (j:=i) (by omega);rw[h4];rcases dH j (qm s).size with e|e;have⟨d,_,_,g3,g4,_⟩:=acJ e;rw[g4];rcases dH c d with h|h;exact h;have:=ack (s:=s) h;omega;grind[I4]
theorem ajD(h:i<=(qm s).size):gy s i<=s.size:=by
 rcases dH i (qm s).size with e|e;have:=acK e (dr _);grind[I4];grind[I4]
def P6(hs:s.size<=1024)(k:d<=64)(m:f<=32){c p:Nat}(h:qv d f l s=.stop c p):p<=s.size:=by
 have e:=uP d f l s hs k m;rw[h]at e;obtain⟨q,_,u,rfl⟩:=e;exact ajD u
def afA{r:Nat->Nat}(h:eJ r σ):eJ r (qT σ):=⟨⟨h.lY.1,h.lY.2,h.lY.3,h.lY.4⟩,⟨h.qK.1,h.qK.2,h.qK.3⟩,h.cC,h.act,h.head,h.form,h.Ln,fK h.vu h.MW,fK h.xN h.QQ,dr _,dr _,h.rU⟩
def agA(g:rW σ):rW (qT σ):=⟨g.iv.imp λ_=>afA,g.ms,g.wz⟩
def alk:UY->UY->Prop
 | .stuck,_=>True
 | .stop _ p,o=>∀c q,o=.stop c q->p<=q
 | .done σ L,o=>o=.done (qT σ) L/\L.length<=1024
def aa3(hk:∀x t,look x=some t->t.size<=16)(hz:R.cs.size<=1024)(av mv:cY)(l2:Int)(ha:R.at_<=16)(hc:∀i j,i<=j->j<=R.cs.size->cut i<=cut j):∀(n ps:Nat)(σ:N)(L:List Sp),ps<=R.cs.size->R.cs.size-ps<n->rW σ->LoS σ->AJ σ+580*(R.cs.size+1-ps)<990000->σ.waiting.length+(R.cs.size+1-ps)<4000->L.length<=ps->alk (jX R look lg cut n ps σ L) (jX (sw R av mv l2 16) look lg cut n ps (qT σ) L):=by
 intro n
 induction n with
 |zero=>intro ps σ L D T;omega
 |succ n ih=>
  intro ps σ L D T g lo hp hw hL;have z:∀p,p=cut ps->∀c q,jX (sw R av mv l2 16) look lg cut (n+1) ps (qT σ) L=.stop c q->p<=q:=by
   intro p e c q hq;have:=NX (R:=sw R av mv l2 16) (lg:=lg) (cut:=cut) hk hz (n+1) ps (qT σ) L D T (agA g) hp hw;rw[hq]at this;obtain⟨i,i1,i2,rfl⟩:=this;rw[e];exact hc _ _ i1 i2
  rw[jX];cases hT:fH (QR R σ.jI σ.dM) look lg ps with
  |stop=>exact z _ rfl
  |tok k m=>
   dsimp only;obtain⟨E,I⟩:TkG k/\(sD k≠0->ps<m/\m<=R.cs.size):=abI (R:=QR R σ.jI σ.dM) hk hz D hT;have ht:=Y3 (lx (cut ps) (cut m) k) (E.tok _ _) (Bv g R ps (lx (cut ps) (cut m) k)) (NM R σ ps _) (by show AJ σ<_;omega) (by show σ.waiting.length<_;omega);have Q:=afN rA (lx (cut ps) (cut m) k) (vz R σ ps (lx (cut ps) (cut m) k)) lo;have F:(lx (cut ps) (cut m) k).a=cut ps:=by cases k<;>rfl
   revert ht Q;cases hT1:mx (dp false rA) (lx (cut ps) (cut m) k) (vz R σ ps (lx (cut ps) (cut m) k))with
   |stuck=>exact λh=>h.elim
   |stop c p=>exact λh _=>z _ (h.trans F)
   |ok u σ2=>
    rintro⟨a1,a2,a3,a4,a5,a6,a7⟩ Q;obtain⟨u1,u2⟩:=Q _ _ rfl;have a0:σ2.waiting.length<=σ.waiting.length+1:=a5;have a8:AJ σ2<=AJ σ+580:=a6;have e1:fH (QR (sw R av mv l2 16) (qT σ).jI (qT σ).dM) look lg ps=.tok k m:=(YD (QR R σ.jI σ.dM) av mv l2 16 ha look lg ps (.inr (by rw[hT];nofun))).trans hT;have e2:mx (dp false rA) (lx (cut ps) (cut m) k) (vz (sw R av mv l2 16) (qT σ) ps (lx (cut ps) (cut m) k))=.ok u (qT σ2):=by
     rw[TQ];exact u1
    rw[jX,e1];dsimp only;rw[e2];dsimp only;split;exact⟨rfl,by omega⟩;rename_i K;obtain⟨m1,m2⟩:=I K;have:=ML L ⟨(sD k:Int),cut ps,cut m⟩;exact ih m σ2 (rX L ⟨(sD k:Int),cut ps,cut m⟩) m2 (by omega) a1 u2 (by omega) (by omega) (by omega)
theorem aa5(d f l:Nat)(s:O)(hs:s.size<=1024)(e:d<=64)(k:f<=32)(u:l<=16):alk (qv d f l s) (qv 64 32 16 s):=by
 have z:=CJ s;have D:=U0 (d:=d) (f:=f) (l:=l) (a:=0);refine aa3 vY (by show(qm s).size<=1024;omega) _ _ 8 (by show(l:Int)<=16;omega) (λi j E m=>?_) _ _ _ _ (yQ _) ?_ (XN e k) ⟨e,k,u⟩ ?_ ?_ (dr _);rcases dH i j with h|h;exact Nat.le_of_lt (acK h m);grind;show(qm s).size-0<(qm s).size+1;omega;show AJ _+580*((qm s).size+1-0)<990000;omega;show 0+((qm s).size+1-0)<4000;omega
attribute [local go_sem] Oper.semAt_some
def Zr(w:J)(e:Nat)(c:fN)(k:Nat):Prop:=w.heap[e]?=some (cV c 72)/\c[8]?=some (cW k)
theorem Zr.kept{e k:Nat}(h:Zr w e c k)(m:Z [] w w'):Zr w' e c k:=⟨m.at h.1 (by simp),h.2⟩
theorem Zr.rU{e k:Nat}(h:Zr w e c k):w.cell? ⟨e,8,none⟩=some (cW k):=by rw[aN h.1,h.2]
def F4(w:J)(m k:Nat)(c:fN)(h:Zr w m c k):
  Calls prog 25 #[cW m] w λe w'=>e=dw (.bool true)/\w'=w:=by
 have u:=h.rU;go_wp2;go_ret;simp
def NA(w:J)(h:Nat):
  Calls prog 24 #[cW h] w λe w'=>e=dw (.func (.func 33) #[cW h] #[])/\w'=w:=by
 go_wp2;go_ret;simp
theorem agQ(l k:Nat)(u:O)(cU:iD)(E:List Tn)(D:J)(h:gr D (.el u cU E) (.el k))(a0:List It->J->Prop)(z:J->Prop)(hY:Rnd l (fQ (rq (λ_=>false) E)) D a0 z)(hm:∀pre W m,a0 pre W->Z [] W m->a0 pre m)(F:∀W m,z W->Z [] W m->z m)(W:J)(I:∀a1 b,W.heap.size<=b->Wk a1 b l false->z a1->z (a1.setCell ⟨b,1,none⟩ (.bool true)))(K:Z [] D W)(hJ:a0 [] W):
  Calls prog 55 #[cW k,.func (.yield l) #[] #[]] W λe m=>e=nu/\(a0 (fQ (rq (λ_=>false) E)) m\/z m)/\Z [] D m:=by
 have kk:=(Z.refl [] W).alloc (cV #[.func (.yield l) #[] #[],.bool false] 202);have hw:=aY W (cV #[.func (.yield l) #[] #[],.bool false] 202);have C:=V (xy (Xw l W.heap.size _ D a0 z hY K.size (λa1=>I a1 _ (dr _)) hm F) k u cU E h rfl _ (K.trans kk) (.inl ⟨hm _ _ _ hJ kk,hw⟩));go_enter func55,ntmps55;go_wp2_with fail;refine C.out.mono ?_;rintro e W2⟨rfl,Q,T⟩;have HJ:=V (Q.imp And.left And.left);have HK:=V T;clear Q T;go_wp2;go_end0;grind[Hid.out]
theorem ail(l T k:Nat)(c:fN)(u:O)(cU:iD)(K:List Tn)(D:J)(Q:Zr D T c k)(h:gr D (.el u cU K) (.el k))(a1:List It->J->Prop)(z:J->Prop)(hY:Rnd l (fQ (rq (λ_=>false) K)) D a1 z)(hm:∀pre W m,a1 pre W->Z [] W m->a1 pre m)(F:∀W m,z W->Z [] W m->z m)(W:J)(I:∀a2 b,W.heap.size<=b->Wk a2 b l false->z a2->z (a2.setCell ⟨b,1,none⟩ (.bool true)))(E:Z [] D W)(hJ:a1 [] W):
  Calls prog 33 #[cW T,.func (.yield l) #[] #[]] W λe m=>e=nu/\(a1 (fQ (rq (λ_=>false) K)) m\/z m)/\Z [] D m:=by
 have C1:=V (F4 W T k c (Q.kept E));have C2:=V (agQ l k u cU K D h a1 z hY hm F W I E hJ);have c8:=(Q.kept E).rU;have a0:=eS (Q.kept E).1;clear Q h hY hm F I E hJ;generalize a1 (fQ (rq (λ_=>false) K))=J' at C2|-;go_enter func33,ntmps33;go_wp2_with fail;refine C1.out.mono ?_;rintro e W2⟨rfl,rfl⟩;go_wp2_with fail;refine C2.out.mono ?_;rintro e W3⟨rfl,hj,hk⟩;have HJ:=V hj;have HK:=V hk;clear hj hk;go_wp2;go_end0;grind[Hid.out]
attribute [local go_sem] Oper.semAt_some
def KW.put{o:Obj}(h:W.heap[l]?=some o)(m:o.isCells=false)(u:Obj):KW W (W.putObj l u):=by
 intro k c t e _;refine(rR ?_).trans e;rintro rfl;rw[h]at e;cases e;cases m
theorem KW.trans{C:J}(h:KW A B)(k:KW B C):KW A C:=λi c t m e=>k i c t (h i c t m e) e
def KW.fS(h:Z [] A B):KW A B:=λi c t e _=>h.at e (by simp)
def Gf(h:Z S A B)(u:∀k∈S,∃c t m,A.heap[k]?=some (.cells c t m)):KeepsOthers A B:=by
 refine⟨h.size,λk o e D=>(h.block k (Array.getElem?_eq_some_iff.1 e).1 ?_).trans e⟩;intro z;have⟨c,t,m,hc⟩:=u k z;rw[e]at hc;cases hc;cases D
theorem agR(h:Z S A B)(e:∀k∈S,∃c t m,A.heap[k]?=some (.cells c t m)/\t∉[202,295]):KW A B:=by
 intro k c t u z;grind[Z.block]
theorem YF{base:Nat}{e:TypeId}(h:W.ownsRow base e sz v n xs){o:Obj}(z:W.heap[l]?=some o)(D:o.isCells=false)(E:Obj):(W.putObj l E).ownsRow base e sz v n xs:=by
 refine⟨h.1,?_⟩;rcases h.2 with e|⟨g,cap,k,e,u,m,r⟩;grind;refine .inr ⟨g,cap,k,e,u,(rR ?_).trans m,r⟩;rintro rfl;rw[z]at m;cases m;cases D
theorem ND(h:Z S w W)(z:w.heap.size<=l)(m:Obj):Z S w (W.putObj l m):=by
 have g:=wH W l m;exact⟨g.os.trans h.os,g.tape.trans h.tape,g.output.trans h.output,fK h.size g.size,λk e u=>(g.block k (kL e h.size) (by grind)).trans (h.block k e u)⟩
def adK(h:Z [] w W)(k:w.heap.size<=l)(e:Obj):Z [] w (W.putObj l e):=ND h k e
theorem Xz(h1:1<=n)(ro:eG){g:Operand}{p:Tmp}{u a0:Code}{Q:Exit->Act->J->Prop}{a:Act}{gf:Nat}{recv:cY}(hg:a.eval g=.func (.func gf) #[recv] #[])(eg:∀af w,(callFunc gf af).run prog w=.ok (.enter gf af) w)
  (ae:List It) (w0:J)
  (am:∀l aI JE W,Rnd l ae w0 aI JE->(∀pre W z,aI pre W->Z [] W z->aI pre z)->(∀W z,JE W->Z [] W z->JE z)->(∀aK b,W.heap.size<=b->Wk aK b l false->JE aK->JE (aK.setCell ⟨b,1,none⟩ (.bool true)))->aI [] W->Z [] w0 W->Calls prog gf #[recv,.func (.yield l) #[] #[]] W λe z=>e=nu/\(aI ae z\/JE z)/\Z [] w0 z)
  (id:Nat) (a6:List Deferred) (X:J->Prop) (l:Nat) (a5:w.heap.size<=l)
  (ax:∀fn,∃D W1,(Instr.enterLoop fn a.tmps #[p] u a0 ro).run prog w=.ok (l,a6) W1/\Z [] w W1/\X W1/\W1.heap[l]?=some (.loop {state:=.ready,pending:=none,fn:=fn,tmps:=a.tmps,params:=#[p],assign:=u,body:=a0,defers:=D}))
  (ac:∀W z,X W->KeepsOthers W z->X z) (ak:∀W o,X W->X (W.putObj l (.loop o)))
  (I:List It->J->Prop) (E:J->Prop) (au:∀pre W,I pre W->Z [] w0 W) (aA:∀W,E W->Z [] w0 W) (ai:∀pre W z,I pre W->Z [] W z->I pre z) (aE:∀W z,E W->Z [] W z->E z)
  (aj:∀pre W k r o',w.heap.size<=k->W.heap[k]?=some (.loop r)->I pre W->I pre (W.putObj k (.loop o'))) (ar:∀W k r o',w.heap.size<=k->W.heap[k]?=some (.loop r)->E W->E (W.putObj k (.loop o')))
  (aB:∀aK b l,w.heap.size<=b->Wk aK b l false->E aK->E (aK.setCell ⟨b,1,none⟩ (.bool true)))
  (h0:I [] w) (A:It->Act->J->Prop) (az:∀x a' W k r o',w.heap.size<=k->W.heap[k]?=some (.loop r)->A x a' W->A x a' (W.putObj k (.loop o')))
  (a8:∀(l:Nat)(pre:List It)(x:It)(W:J)(K:Act->J->Prop),I pre W->(∀a' z,Z [] W z->A x a' z->K a' z)->
   u.wpIn (Fence.wide.inRound l) 3 prog (Exit.then K (λ_ _ _=>False)) {tmps:=a.tmps.setIfInBounds p x.val,defers:=[]} W)
  (al:∀(l:Nat)(pre:List It)(x:It)(a':Act)(W:J),w.heap.size<=l->(∃r,W.heap[l]?=some (.loop r))->I pre W->A x a' W->pre++[x] <+:ae->a0.wpIn (Fence.wide.inRound l) 3 prog (λe _ z=>((e=.normal/\I (pre++[x]) z)\/(e=.exit id/\E z))/\KW W z/\KeepsOthers W z) a' W)
  (an:∀(W:J),I ae W->X W->Q .normal {a with defers:=a6++a.defers} W)
  (aq:∀(W:J),E W->X W->Q (.exit id) {a with defers:=a6++a.defers} W):
  (Code.rangeFunc g #[p] u a0).wpIn {Fence.wide with round:=ro} n prog Q a w:=by
 refine Ld ?_;intro fn aF;have⟨D,W1,hrun,kw1,hX1,hL1⟩:=ax fn;obtain⟨T,ab⟩:∃T:LoopState->Option Code->Loop,T=λst pe=>{state:=st,pending:=pe,fn:=fn,tmps:=a.tmps,params:=#[p],assign:=u,body:=a0,defers:=D}:=⟨_,rfl⟩;have er:∀st pe,T st pe={state:=st,pending:=pe,fn:=fn,tmps:=a.tmps,params:=#[p],assign:=u,body:=a0,defers:=D}:=λ_ _=>by rw[ab]
 rw[<-er]at hL1;have ko:∀{A B:J},Z [] A B->KeepsOthers A B:=λh=>Gf h (by simp);refine⟨l,a6,W1,{target:=.fn (.func gf) #[],args:=#[recv,.func (.yield l) #[] #[]]},W1,gf,#[recv,.func (.yield l) #[] #[]],W1,hrun,?_,?_,?_,λ_=>h1,?_⟩
 .simp only[resolve,hg];simp[go_sem]
 intro f' _;trivial
 .simp[invoke,go_sem,eg]
 .have hC:=am l (λpre W=>I pre W/\W.heap[l]?=some (.loop (T .ready none))/\X W) (λW=>E W/\W.heap[l]?=some (.loop (T .done (some (.exit id))))/\X W) W1 ?_ ?_ ?_ ?_ ⟨ai _ _ _ h0 kw1,hL1,hX1⟩ (au _ _ (ai _ _ _ h0 kw1))
  .refine CallsIn.mono (F:={Fence.wide with round:=ro}) (callsIn_wide.2 hC) ?_;rintro e W2⟨rfl,⟨hi,hl,hx⟩|⟨hi,hl,hx⟩,_⟩;have m:=Le (P:=prog) hl (by rw[er];simp);rw[er]at m;exact⟨none,_,m,an _ (aj _ _ _ _ _ a5 hl hi) (ak _ _ hx)⟩
   .have m:=Le (P:=prog) hl (by rw[er];simp);rw[er]at m;exact⟨some (.exit id),_,m,wpIn_exit (aq _ (ar _ _ _ _ a5 hl hi) (ak _ _ hx))⟩
  .rintro pre x W hK⟨hi,hl,hd⟩ ay;have aH:l<W.heap.size:=(Array.getElem?_eq_some_iff.1 hl).1;have hy:=by
    have:=run_yield (P:=prog) (args:=#[x.val]) hl (by rw[er];rfl);rw[er]at this
    simpa using this
   refine⟨fn,_,u,a0,hy,roundIn_of_wpIn trivial (a8 _ pre x W _ hi ?_)⟩;intro a' Wa ad hA;have aa:=(ad.block _ (Array.getElem?_eq_some_iff.1 hl).1 (by simp)).trans hl;have aD:X Wa:=ac _ _ hd (ko ad);refine⟨_,run_beginRound aa (by rw[er]),?_⟩;obtain⟨W2,a7⟩:∃W2,W2=Wa.putObj l (.loop {T .ready none with state:=.busy}):=⟨_,rfl⟩;rw[<-a7];have ap:W2.heap[l]?=some (.loop {T .ready none with state:=.busy}):=by rw[a7];exact QF (Array.getElem?_eq_some_iff.1 aa).1
   have aw:X W2:=by rw[a7];exact ak _ _ aD
   have ag:KW W W2:=by rw[a7];exact(KW.fS ad).trans (KW.put aa rfl _)
   refine akP (al _ pre x a' W2 a5 ⟨_,ap⟩ (by rw[a7];exact aj _ _ _ _ _ a5 aa (ai _ _ _ hi ad)) (by rw[a7];exact az _ _ _ _ _ _ a5 aa hA) ay) ?_;rintro e a3 W3⟨⟨rfl,ao⟩|⟨rfl,ao⟩,ah,a2⟩;have a4:=a2.same _ _ ap rfl;have aC:=ac _ _ aw a2;have m:=run_endRound (P:=prog) none a4;have e1:({({T .ready none with state:=.busy}:Loop)with state:=if (none:Option Code).isNone then .ready else .done,pending:=none}:Loop)=T .ready none:=by subst ab;rfl
   rw[e1]at m;obtain⟨W4,a1⟩:∃W4,W4=W3.putObj l (.loop (T .ready none)):=⟨_,rfl⟩;rw[<-a1]at m;have a9:I (pre++[x]) W4:=by rw[a1];exact aj _ _ _ _ _ a5 a4 ao
   refine⟨_,_,m,.inl ⟨rfl,a9,?_,?_⟩,au _ _ a9,?_⟩;grind[World.putObj_heap_same];grind;rw[a1];exact(ag.trans ah).trans (KW.put a4 rfl _);have a4:=a2.same _ _ ap rfl;have aC:=ac _ _ aw a2;have m:=run_endRound (P:=prog) (some (.exit id)) a4;have e1:({({T .ready none with state:=.busy}:Loop)with state:=if (some (Code.exit id):Option Code).isNone then .ready else .done,pending:=some (.exit id)}:Loop)=T .done (some (.exit id)):=by subst ab;rfl
   rw[e1]at m;obtain⟨W4,a1⟩:∃W4,W4=W3.putObj l (.loop (T .done (some (.exit id)))):=⟨_,rfl⟩;rw[<-a1]at m;have a9:E W4:=by rw[a1];exact ar _ _ _ _ a5 a4 ao
   refine⟨_,_,m,.inr ⟨rfl,a9,?_,?_⟩,aA _ a9,?_⟩;grind[World.putObj_heap_same];grind;rw[a1];exact(ag.trans ah).trans (KW.put a4 rfl _)
  grind[Z.block];grind[Z.block];rintro aK b hb hw⟨hi,hl,hd⟩;have a2:=oT aK ⟨b,1,none⟩ (.bool true);exact⟨aB _ _ _ (fK kw1.size hb) hw hi,a2.same _ _ hl rfl,ac _ _ hd a2⟩
theorem aae{a:Act}{p:Tmp}{e h:Code}:∀m,∃D k,(Instr.enterLoop m a.tmps #[p] e h none).run prog w=.ok (w.heap.size+1,[{target:=.collected w.heap.size,args:=#[]}]) k/\Z [] w k/\k.heap[w.heap.size]?=some (.deferred (some []))/\k.heap[w.heap.size+1]?=some (.loop {state:=.ready,pending:=none,fn:=m,tmps:=a.tmps,params:=#[p],assign:=e,body:=h,defers:=D}):=by
 intro m;refine⟨w.heap.size,_,Cg _ _ _ _ _,((Z.refl _ _).alloc _).alloc _,(Below.heap_alloc _ _ _ (by simp)).trans (QE w _),?_⟩;grind[World.alloc_heap_new,World.size_alloc]
attribute [local go_sem] Oper.semAt_some
def ld(L:List It):List cY:=L.flatMap λx=>[G x.k,Y x.s,Y x.t]
def LX(L M:List It):ld (L++M)=ld L++ld M:=oi ..
def aap:(prog.info? 49).map (λi=>(i.zero,i.size,i.bytes))=some (some (.agg #[G 0,Y gU,Y gU]),3,40):=by kernel_rfl
theorem af1{m:J}{h base:Nat}{I F:TypeId}{Q:Nat}{v':cY}{D:List cY}{o:Obj}(T:W.heap[h]?=some (cV #[v] I))(hv:W.ownsRow base F sz v n xs)(hb:h<base)(z:m.ownsRow base F sz v' Q D)(E:(W.alloc o).grownBy m v.ownBlock):
  m.heap[h]?=some (cV #[v] I)/\(m.setCell ⟨h,0,none⟩ v').heap[h]?=some (cV #[v'] I)/\(m.setCell ⟨h,0,none⟩ v').ownsRow base F sz v' Q D/\Z (h::v.ownBlock.toList) W (m.setCell ⟨h,0,none⟩ v'):=by
 have K:Z v.ownBlock.toList W m:=((Z.refl _ _).alloc _).grown E (λk e=> .inl (by grind));have u:=K.at T (λhm=>by
  have:=(hv.lt h (by grind)).1;omega)
 refine⟨u,bJ u 0 _,((Z.refl [h] m).setCell (.inl (by simp)) _).ownsRow z (λq hq hm=>?_),(K.mono (λk hk _=>io _ hk)).setCell (.inl (by simp)) _⟩;have:=(z.lt q hq).1;grind
theorem ahl{base:Nat}{h:TypeId}(u:W.ownsRow base h sz v n xs):∀k∈v.ownBlock.toList,∃c,W.heap[k]?=some (cV c h):=by
 intro k e;rcases u.2 with⟨rfl,_⟩|⟨g,cap,m,rfl,_,z,_⟩;simp[Value.ownBlock]at e;simp[Value.ownBlock]at e;grind
attribute [local go_sem] Oper.semAt_some
theorem adV(w:J)(bx k:Nat)(c:fN)(a3:O)(cU:iD)(ts:List Tn)(hp:Zr w bx c k)(h:gr w (.el a3 cU ts) (.el k))(Q:List It)(ht:fQ (rq (λ_=>false) ts)=Q)(hn:Q.length<=1000000000):
  Calls prog 12 #[cW bx] w λe w'=>∃v,e=dw v/\w'.ownsRow w.heap.size 49 3 v Q.length (ld Q)/\Z [] w w':=by
 refine(vF (n:=5)).1 ?_;refine vG func12 rfl trivial ?_ rfl;simp only[ntmps12,vI,sg,tX,Nat.reduceAdd,Nat.reduceSub,vJ,vK,vL,vM,tw,oW];have HP:=V hp;have HT:=V h;have aa:=V ht;clear hp h ht
 gi_wp2_with (refine⟨trivial,?_⟩;gi_at_call 24;refine(callsIn_wide.2 (NA _ bx)).mono ?_;rintro e w'⟨rfl,rfl⟩)
 obtain⟨z,T⟩:∃z,z=w.alloc (cV #[gq] 24):=⟨_,rfl⟩;have z1:z.heap.size=w.heap.size+1:=by rw[T];simp
 have k1:Z [] w z:=by rw[T];exact(Z.refl _ _).alloc _
 have g1:z.heap[w.heap.size]?=some (cV #[gq] 24):=by rw[T];exact aY w _
 rw[<-T];clear T;have⟨i0,hi,hz0,hz1,hz2⟩:=rQ aap;have HE:=V (enters_of func33 (by rfl) rfl);have a9:=aa.out;have HC:=V (λl ah JE W hY hm ad ae h0 hK=>ail l bx k c a3 cU ts w HP.out HT.out ah JE (by omega) hm ad W ae hK h0);rw[a9]at HC;clear a9;have af:∀{W:J},Z [w.heap.size] z W->Z [] w W:=λh=>k1.next h (by simp);refine Xz (by omega) none (gf:=33) (recv:=cW bx) rfl HE.out Q w HC.out 0 _ (λW=>W.heap[z.heap.size]?=some (.deferred (some []))) (z.heap.size+1) (by omega) aae (λW W' h hk=>hk.same _ _ h rfl) (λW o h=>(rR (by omega)).trans h)
  (λpre W=>∃v,W.heap[w.heap.size]?=some (cV #[v] 24)/\W.ownsRow z.heap.size 49 3 v pre.length (ld pre)/\Z [w.heap.size] z W) (λ_=>False)
  (λ_ _ h=>by grind) (λ_ h=>h.elim) ?_ (λ_ _ h _=>h) ?_ (λ_ _ _ _ _ _ h=>h) (λ_ _ _ _ _ h=>h) ⟨_,g1,mh _ _ _ _,Z.refl _ _⟩
  (λx a' W=>∃X,z.heap.size<=X/\W.heap[X]?=some (cV #[G x.k,Y x.s,Y x.t] 49)/\a'={tmps:=#[cW bx,undef,gq,cW w.heap.size,cW X,cW bx,.func (.func 33) #[cW bx] #[],x.val,undef,undef,undef,undef,undef],defers:=[]}) ?_ ?assign ?body ?done ?halt
 rintro pre W W'⟨v,D,E,F⟩ hk;exact⟨v,hk.at D (by simp),hk.ownsRow E (λ_ _=>by simp),F.trans (hk.mono (by simp))⟩;rintro pre W k r o' hk hl⟨v,D,E,F⟩;exact⟨v,(rR (by omega)).trans D,YF E hl rfl _,ND F (by omega) _⟩;rintro x a' W k r o' hk hl⟨X,D,E,F⟩;refine⟨X,D,(rR ?_).trans E,F⟩;grind
 case assign=>
  rintro l pre x W K⟨v,D,E,F⟩ hK;have hz:=F.size;gi_wp2;exact hK _ _ ((Z.refl [] W).alloc _) ⟨W.heap.size,by omega,aY W _,rfl⟩
 case body=>
  rintro l pre x a' W _ _⟨v,D,E,F⟩⟨X,hX,h4,rfl⟩ a2;have a1:pre.length+1<=Q.length:=by have:=a2.length_le;simpa using this
  have hz:=F.size;have c1:=aN D 0;have f1:=cQ D 0;have x0:=aN h4 0;have x1:=aN h4 1;have x2:=aN h4 2;dsimp at c1 x0 x1 x2;have⟨ao,cp,hv⟩:=cP E;subst hv;have a6:=V D;have I:=V E;have a4:=V F;have ac:=eS D;have HB:=V ac;have HZ:=V hz;have a0:=V a1;have a7:=V hn;have ab:=V z1;clear D E F h4 a2 hz a1 hn z1
  gi_wp2_with (gi_at_builtin;refine wpListIn_append_own _ rfl _ _ 24 rfl z.heap.size 49 i0 (.agg #[G 0,Y gU,Y gU]) 3 40 underlying24 hi hz0 hz1 hz2 rfl (by decide) _ _ _ rfl (I.out.alloc _) ⟨W.heap.size,0,none⟩ 1 1 [G x.k,Y x.s,Y x.t] rfl rfl ?c1 ?c2 ?c3 ?c4 ?c5 ?_)
  case c1=>
   intro j u hj;have hg:=aY W (cV #[G x.k,Y x.s,Y x.t] 49);rw[eL,aN hg];grind
  case c2=>
   intro u hu;simp at hu;rcases hu with rfl|rfl|rfl<;>rfl
  case c3=>have:=a0.out;have:=a7.out;unfold maxLen;omega
  case c4=>have:=a0.out;have:=a7.out;omega
  case c5=>have:=HB.out;have:=HZ.out;have:=ab.out;simp;omega
  intro v' w3 a5 a8 _;have⟨ao',cp',hv'⟩:=cP a5;subst hv';have⟨hB3,hB4,ho4,hk4⟩:=af1 a6.out I.out (by grind) a5 a8;have c3:=aN hB3 0;have f3:=cQ hB3 0;dsimp at c3;have kk:Z [w.heap.size] z (w3.setCell ⟨w.heap.size,0,none⟩ (.slice ao' (pre.length+1) cp')):=a4.out.next hk4 (λq hq=>by
   rcases List.mem_cons.1 hq with rfl|hq;simp;exact .inr (I.out.lt q (by simpa using hq)).1)
  have ow:(w3.setCell ⟨w.heap.size,0,none⟩ (.slice ao' (pre.length+1) cp')).ownsRow z.heap.size 49 3 (.slice ao' (pre.length+1) cp') (pre++[x]).length (ld (pre++[x])):=by
   have e2:ld (pre++[x])=ld pre++[G x.k,Y x.s,Y x.t]:=by rw[LX];rfl
   rw[e2,XD];exact ho4
  have hS:∀k∈w.heap.size::(Value.slice ao pre.length cp).ownBlock.toList,∃c t m,W.heap[k]?=some (.cells c t m)/\t∉[202,295]:=λq hq=>by
   rcases List.mem_cons.1 hq with rfl|hq;exact⟨_,_,_,a6.out,by decide⟩;have⟨cc,hc⟩:=ahl I.out q hq;grind
  have HF:=V (show(∃v,(w3.setCell ⟨w.heap.size,0,none⟩ (.slice ao' (pre.length+1) cp')).heap[w.heap.size]?=some (cV #[v] 24)/\(w3.setCell ⟨w.heap.size,0,none⟩ (.slice ao' (pre.length+1) cp')).ownsRow z.heap.size 49 3 v (pre++[x]).length (ld (pre++[x]))/\Z [w.heap.size] z (w3.setCell ⟨w.heap.size,0,none⟩ (.slice ao' (pre.length+1) cp')))/\KW W (w3.setCell ⟨w.heap.size,0,none⟩ (.slice ao' (pre.length+1) cp'))/\KeepsOthers W (w3.setCell ⟨w.heap.size,0,none⟩ (.slice ao' (pre.length+1) cp'))from⟨⟨_,hB4,ow,kk⟩,agR hk4 hS,Gf hk4 (λq hq=>by grind)⟩);clear a5 a8 hB3 hB4 ho4 hk4 kk ow hS;gi_wp2;exact⟨by simpa using HF.out.1,HF.out.2⟩
 case done=>
  rintro W⟨v,D,E,F⟩ hd;have⟨ao,cp,hv⟩:=cP E;subst hv;have c1:=aN D 0;dsimp at c1;have I:=V E;have a4:=V (af F);have HD:=V hd;have ag:=V z1;clear D E F hd;gi_wp2;refine⟨by simp,.inl ⟨_,_,rfl,QD HD.out,?_⟩⟩;refine⟨_,results_tmp rfl _ _ _,_,rfl,?_,adK a4.out (by omega) _⟩;exact gS (YF I.out HD.out rfl (.deferred none)) (by omega)
 simp
structure xJ(w:J)(g off n:Nat)(A:Nat->It):Prop where
 c0:∀i,i<n->w.cell? ⟨g,off+i*3,none⟩=some (G (A i).k)
 c1:∀i,i<n->w.cell? ⟨g,off+i*3+1,none⟩=some (Y (A i).s)
 c2:∀i,i<n->w.cell? ⟨g,off+i*3+2,none⟩=some (Y (A i).t)
def x7(L:List It)(i:Nat):It:=L.getD i ⟨0,⟨#[]⟩,⟨#[]⟩⟩
theorem JI{base:Nat}{L:List It}(z:w.ownsRow base 49 3 (ky g L.length cap) L.length (ld L)):xJ w g 0 L.length (x7 L):=by
 have u:∀(L:List It)(i k:Nat),i<L.length->k<3->(ld L)[i*3+k]?=[Value.int .i64 (x7 L i).k,Y (x7 L i).s,Y (x7 L i).t][k]?:=by
  intro L
  induction L with
  |nil=>simp
  |cons p L ih=>
   intro i k h m;show(Value.int .i64 p.k:: .string p.s:: .string p.t::ld L)[i*3+k]?=_;cases i with
   |zero=>
    have e:x7 (p::L) 0=p:=rfl;grind
   |succ i=>
    have e:x7 (p::L) (i+1)=x7 L i:=by unfold x7;simp
    grind
 have c:∀i k,i<L.length->k<3->w.cell? ⟨g,i*3+k,none⟩=[Value.int .i64 (x7 L i).k,Y (x7 L i).s,Y (x7 L i).t][k]?:=by
  intro i k h m
  match k,m with
  |0,m=>have:=z.cells (g:=g) rfl (i*3+0) _ (u L i 0 h m);grind[eL]
  |1,m=>have:=z.cells (g:=g) rfl (i*3+1) _ (u L i 1 h m);grind[eL]
  |2,m=>have:=z.cells (g:=g) rfl (i*3+2) _ (u L i 2 h m);grind[eL]
 refine⟨λi h=>?_,λi h=>?_,λi h=>?_⟩;rw[Nat.zero_add];exact c i 0 h (by omega)
 all_goals grind
def ZE(s u:O):Nat->Nat->Nat->Bool
 |0,_,_=>false
 |n+1,f,i=>if i=u.size\/bt u i=32 then (if s.toList≠[]/\(u.extract f i).toList=s.toList then true else ZE s u n (i+1) (i+1))else ZE s u n f (i+1)
theorem Rg(s u:O)(w:J)(hu:u.size<=1000):
  Calls prog 15 #[Y s,Y u] w λe w'=>e=dw (.bool (ZE s u (u.size+1) 0 0))/\w'=w:=by
 have a0:=get_bt u;obtain⟨r,hr⟩:∃r,r=ZE s u (u.size+1) 0 0:=⟨_,rfl⟩;rw[<-hr];have HR:=V hr;clear hr;go_enter func15,ntmps15;go_wp2
 go_loopw [5,6] (λf i wr=>∃a k:Nat,f=G a/\i=G k/\a<=k/\k<=u.size+1/\Hid (r=ZE s u (u.size+1-k) a k)/\wr=w) (λ_ i _=>u.size+1-(intOf i).toNat)
 case atStart=>grind
 case round=>
  obtain⟨a,k,rfl,rfl,ha,hk,m,hw⟩:=hrel;replace hw:=hw.symm;subst hw;clear HR;by_cases h1:k<=u.size
  .have z:Hid (∀(b:Nat)(x y:Int),x=b->y=k+1->b<=k+1->r=ZE s u (u.size-k) b (k+1)->(∃a D:Nat,Value.int .i64 x=G a/\Value.int .i64 y=G D/\a<=D/\D<=u.size+1/\Hid (r=ZE s u (u.size+1-D) a D)/\True)/\u.size+1-(intOf (G y)).toNat<u.size+1-(intOf (G k)).toNat):=V (by
    rintro b _ _ rfl rfl I E;exact⟨⟨b,k+1,rfl,rfl,I,by omega,by grind[V],trivial⟩,by simp[intOf];omega⟩)
   rw[show u.size+1-k=(u.size-k)+1 by omega,ZE]at m;have F:k=u.size\/k<u.size/\((k:Int)==(u.size:Int))=false:=by
    rcases dH k u.size with h|h;grind;grind
   by_cases I:k=u.size\/bt u k=32
   .rw[dd I]at m;by_cases E:s.toList≠[]/\(u.extract a k).toList=s.toList
    .rw[dd E]at m;have Q:s.toList.isEmpty=false:=by simpa using E.1
     have c2:((u.extract a k).toList==s.toList)=true:=beq_iff_eq.2 E.2;obtain rfl:=m.out;clear E z m;rcases F with rfl|⟨F,T⟩
     all_goals (try have h7:bt u k=32:=by omega)
     all_goals
      go_wp2;go_ret;exact⟨rfl,rfl⟩
    .rw[cZ E]at m;have K:=V (z.out (k+1) ((k:Int)+1) _ (by omega) rfl (by omega) m.out);clear z m;by_cases Q:s.toList=[]
     .clear E;rcases F with rfl|⟨F,T⟩
      all_goals (try have h7:bt u k=32:=by omega)
      all_goals (go_wp2_with fail;exact K.out)
     .have c2:((u.extract a k).toList==s.toList)=false:=beq_eq_false_iff_ne.2 λh=>E ⟨Q,h⟩;replace Q:s.toList.isEmpty=false:=by simpa using Q
      clear E;rcases F with rfl|⟨F,T⟩
      all_goals (try have h7:bt u k=32:=by omega)
      all_goals (go_wp2_with fail;exact K.out)
   .rw[cZ I]at m;have K:=V (z.out a (a:Int) _ rfl rfl (by omega) m.out);have T:(bt u k==32)=false:=beq_eq_false_iff_ne.2 λh=>I (.inr h);have h7:((k:Int)==(u.size:Int))=false:=beq_eq_false_iff_ne.2 (by omega);have h8:k<u.size:=by omega
    clear I z m F;go_wp2_with fail;exact K.out
  .have h4:r=false:=by rw[m.out,show u.size+1-k=0 by omega];rfl
   subst h4;go_wp2;go_ret;exact⟨rfl,rfl⟩
def vdL:List O:=[jM,qC,mZ,fL,dR,dz]
theorem Ni:∀(L:List (O×Nat))(s:O),(∀p∈L,(decide (p.2&&& 1=0)||da vdL p.1)=true)->um L s&&& 1≠0->da vdL s=true
 |[],_,_,h=>(h (show 0&&& 1=0 by decide)).elim
 |p::L,s,hp,h=>by
  unfold um at h;split at h;grind[oE];exact Ni L s (λq e=>hp q (io _ e)) h
theorem NN(s:O):gL s=da vdL s:=by
 cases h:da vdL s with
 |true=>
  simp only[da,vdL,List.any_cons,List.any_nil,Bool.or_false,Bool.or_eq_true]at h;rcases h with h|h|h|h|h|h<;>(rw[oE h];decide+kernel)
 |false=>
  cases h1:gL s with
  |false=>rfl
  |true=>
   have:=Ni pI s (List.all_eq_true.1 (by decide+kernel)) (of_decide_eq_true h1);grind
theorem Jv{l:List O}(h:da l s=true):s∈l:=by
 have⟨x,h1,h2⟩:=List.any_eq_true.1 h;grind[oE]
theorem tk(h:σ.last=some i):some i∈σ.cC:=j8 h
def aag{l:gZ}:∀x,x∈l.erase y->x∈l:=λ_ h=>GJ h
def sN:O:=⟨#[98,114,32,104,114,32,105,109,103,32,105,110,112,117,116,32,109,101,116,97,32,99,111,108]⟩
theorem afZ(s:O):ZE s sN 25 0 0=gL s:=by
 have e:ZE s sN 25 0 0=if s.toList≠[]/\(sN.extract 0 2).toList=s.toList then true else if s.toList≠[]/\(sN.extract 3 5).toList=s.toList then true else if s.toList≠[]/\(sN.extract 6 9).toList=s.toList then true else if s.toList≠[]/\(sN.extract 10 15).toList=s.toList then true else if s.toList≠[]/\(sN.extract 16 20).toList=s.toList then true else if s.toList≠[]/\(sN.extract 21 24).toList=s.toList then true else false:=rfl
 rw[e,NN];have n:∀(a b:Nat)(u:O),(sN.extract a b).toList=u.toList->u.toList≠[]->((s.toList≠[]/\(sN.extract a b).toList=s.toList)↔ir s u=true):=by
  intro a b u h k;rw[h];unfold ir;rw[beq_iff_eq];exact⟨λh=>h.2.symm,λh=>⟨by grind,h.symm⟩⟩
 simp only[n 0 2 jM (by decide+kernel) (by decide+kernel),n 3 5 qC (by decide+kernel) (by decide+kernel),n 6 9 mZ (by decide+kernel) (by decide+kernel),n 10 15 fL (by decide+kernel) (by decide+kernel),n 16 20 dR (by decide+kernel) (by decide+kernel),n 21 24 dz (by decide+kernel) (by decide+kernel)];grind[da,vdL]
theorem xJ.kept{e:Nat}{A:Nat->It}(h:xJ w g e n A)(m:Z [] w w')(k:g<w.heap.size):xJ w' g e n A:=
 ⟨λi u=>by rw[m.cell k (by simp)];grind[c0],λi u=>by rw[m.cell k (by simp)];grind[c1],λi u=>by rw[m.cell k (by simp)];grind[c2]⟩
theorem drop_at{L:List It}{k:Nat}(h:k<L.length):L.drop k=x7 L k::L.drop (k+1):=by
 grind[List.drop_eq_getElem_cons,x7]
def Ck:Tn:=.tx ⟨#[]⟩
def AN(σ:N):Nat->Nd->Tn
 |0,_=>Ck
 |k+1,.el i=>match σ.db i with
  |some e=> .el e.name e.di (e.kids.map (AN σ k))
  |none=>Ck
 |_+1,.tx i=>match σ.nodes[i]? with
  |some (.tx s)=> .tx s
  |_=>Ck
 |_+1,.cm i=>match σ.nodes[i]? with
  |some (.cm s)=> .cm s
  |_=>Ck
 |_+1,.dt i=>match σ.nodes[i]? with
  |some (.dt s)=> .dt s
  |_=>Ck
theorem SG(g:Nd->Tn)(f:Nd->Nd):∀ks:List Nd,(∀k∈ks,gr w (g k) (f k))->pG w (ks.map g) (ks.map f)
 |[],_=>by simp[pG]
 |k::ks,h=>by
  exact⟨by grind,SG g f ks (λx e=>h x (io _ e))⟩
theorem Px{E:Env}{L:Loc}(h:Rel E L σ w){r:Nat->Nat}(u:eJ r σ){B:Nat}(D:∀i,i<σ.nodes.length->r i<=B):∀(k:Nat)(m:Nd),σ.eZ m=true->(∀i,m=.el i->B-r i+1<k)->1<=k->gr w (AN σ k m) (Nd.map L.dk m)
 |0,_,_,_,h1=>absurd h1 (by omega)
 |k+1,.el i,hk,hi,_=>by
  have⟨e,he⟩:=Option.isSome_iff_exists.1 (hk);have⟨a1,a2,a3⟩:=h.qH i _ (N.fa he);have K:=hi i rfl;show gr w (match σ.db i with|some e=> .el e.name e.di _|none=>Ck) _
  rw[he];simp;refine⟨_,_,_,_,⟨a1.du,gS a1.row (yQ _),a1.le,a1.XV⟩,a2,a3,(SG (AN σ k) (Nd.map L.dk) e.kids ?_)⟩;intro x z;refine Px h u D k x (u.lY.kd i e he x z) ?_ (by omega);intro j F;subst F;have⟨ej,g1,g2⟩:=u.lY.dn i e j he (uN.2 z);have I:=u.qK.ff j ej i g1 g2;grind[N.dm]
 |k+1,.tx i,hk,_,_=>by
  unfold N.eZ at hk;show gr w (match σ.nodes[i]? with|some (.tx s)=> .tx s|_=>Ck) _
  cases hq:σ.nodes[i]? with
  |none=>grind
  |some m=>
   cases m with
   |tx s=>exact h.qH i _ hq
   |el e=>grind
   |cm s=>grind
   |dt s=>grind
 |k+1,.cm i,hk,_,_=>by
  unfold N.eZ at hk;show gr w (match σ.nodes[i]? with|some (.cm s)=> .cm s|_=>Ck) _
  cases hq:σ.nodes[i]? with
  |none=>grind
  |some m=>
   cases m with
   |cm s=>exact h.qH i _ hq
   |el e=>grind
   |tx s=>grind
   |dt s=>grind
 |k+1,.dt i,hk,_,_=>by
  unfold N.eZ at hk;show gr w (match σ.nodes[i]? with|some (.dt s)=> .dt s|_=>Ck) _
  cases hq:σ.nodes[i]? with
  |none=>grind
  |some m=>
   cases m with
   |dt s=>exact h.qH i _ hq
   |el e=>grind
   |tx s=>grind
   |cm s=>grind
def WuP(w:J)(B b:Nat)(vv:cY×Bool)(p:cY)(l:List UInt8):Prop:=B<=b/\∃v,w.heap[b]?=some (cV #[p,v,vv.1,.bool vv.2] 99)/\w.ownsRow B 5 1 v l.length (Lib.byteCells l)/\v.ownBlock≠some b
def Wu(w:J)(B b:Nat)(vv:cY×Bool)(l:List UInt8):Prop:=WuP w B b vv (.pointer none) l\/WuP w B b vv (cW b) l
theorem WuP.kept{B:Nat}{p:cY}{l:List UInt8}(h:WuP w B b vv p l)(e:Z [] w w'):WuP w' B b vv p l:=by
 have⟨h0,v,h1,h2,h3⟩:=h;exact⟨h0,v,e.at h1 (by simp),e.ownsRow h2 (λ_ _=>by simp),h3⟩
theorem Wu.kept{B:Nat}{l:List UInt8}(h:Wu w B b vv l)(e:Z [] w w'):Wu w' B b vv l:=h.imp (·.kept e) (·.kept e)
theorem Vr(B b:Nat)(vv:cY×Bool)(l:List UInt8)(w:J)(h:Wu w B b vv l):
  Calls prog 354 #[cW b] w λe w'=>e=nu/\WuP w' B b vv (cW b) l/\Z [b] w w':=by
 have⟨j,hj,hj0⟩:=OX;rcases h with⟨E,v,k,z,D⟩|⟨E,v,k,z,D⟩
 .have K:w.cell? ⟨b,0,none⟩=some (.pointer none):=by rw[aN k];rfl
  have f0:=cQ k 0;have F:=eS k;have m:w.shape? b=some (99,4):=by simp[World.shape?,k]
  have I:=(Z.refl [b] w).setCell (p:=⟨b,0,none⟩) (.inl (by simp)) (cW b);have u:Hid (WuP (w.setCell ⟨b,0,none⟩ (cW b)) B b vv (cW b) l):=V ⟨E,v,bJ k 0 _,I.ownsRow z (λq hq=>by grind),D⟩;have T:(w.setCell ⟨b,0,none⟩ (cW b)).cell? ⟨b,0,none⟩=some (cW b):=by rw[aN (bJ k 0 _)];rfl
  have hu:=Lib.run_to_unsafe (P:=prog) w (src:=95) (dst:=101) ⟨b,0,none⟩ underlying95 underlying101 hj hj0 m (show 0<4 by decide);have hf:=Lib.run_from_unsafe (P:=prog) w (src:=101) (dst:=95) ⟨b,0,none⟩ underlying101 underlying95 hj m UH;have Q:=wJ (P:=prog) (w.setCell ⟨b,0,none⟩ (cW b)) (tp:=95) ⟨b,0,none⟩ underlying95 hj;go_enter func354,ntmps354;go_wp2;rw[Zf func372 (by rfl) (by rfl) rfl (e:=Extern.AbiNoEscape.same) rfl];rw[Lib.run_noEscape];simp only[Result.andThen];rw[Oper.upon_value];go_wp2;go_end0;exact⟨rfl,u,I⟩
 .have K:w.cell? ⟨b,0,none⟩=some (cW b):=by rw[aN k];rfl
  have F:=eS k;have u:Hid (WuP w B b vv (cW b) l):=V ⟨E,v,k,z,D⟩;have Q:=wJ (P:=prog) w (tp:=95) ⟨b,0,none⟩ underlying95 hj;go_enter func354,ntmps354;go_wp2;go_end0;exact⟨rfl,u,Z.refl _ _⟩
theorem QC(B b:Nat)(vv:cY×Bool)(l:List UInt8)(s:O)(w F:J)(h:Wu w B b vv l)(a4:l.length+s.size<=140737488355328)(a7:B<=w.heap.size)(T:Z [] F w)(a8:F.heap.size<=B):
  Calls prog 329 #[cW b,Y s] w λe w'=>e=dw (.tuple #[G s.size,.nilIface])/\Wu w' B b vv (l++s.data.toList)/\Z [] F w'/\KB w w':=by
 have⟨i0,hi,hz0,hz1,hz2⟩:=rQ adE;have HH:=h;have I:=T;go_enter func329,ntmps329;go_wp21;refine(Vr B b vv l _ HH).mono ?_;rintro e w1⟨rfl,h1,a0⟩;have⟨hB,v,hbk,hown,hne⟩:=h1;have a2:KB w w1:=by
  rcases HH with⟨_,_,hx,_⟩|⟨_,_,hx,_⟩;grind[KB.WD];grind[KB.WD]
 have c1:=aN hbk 1;dsimp at c1;have a1:b<w1.heap.size:=eS hbk;go_wp2_with (at_builtin;refine Lib.wpList_append_own_string _ rfl _ _ 58 9 rfl B 5 i0 underlying58 underlying9 hi hz0 hz1 hz2 _ _ _ rfl hown s rfl ?c3 ?c4 ?c5 ?_)
 case c3=>unfold maxLen;omega
 case c4=>omega
 case c5=>omega
 intro v' D m k _;have u:D.heap[b]?=some (cV #[cW b,v,vv.1,.bool vv.2] 99):=by
  rw[k.block b a1 (λe=>hne e.symm)];exact hbk
 have d1:=aN u 1;dsimp at d1;have f1:D.frozen? ⟨b,1,none⟩=false:=cQ u 1;have⟨ao,cap,hv⟩:=cP m;subst hv;have a5:∀q,v.ownBlock=some q->B<=q:=λq E=>(hown.lt q E).1;have z:∀q,(Value.slice ao (l.length+s.size) cap).ownBlock=some q->q≠b:=λq E e=>by
  subst e;rcases m.2 with⟨e2,_⟩|⟨g,a3,a6,e2,_,hc,_⟩;grind;rw[e2]at E;have e3:=je E;grind
 have kx:Z [b] D (D.setCell ⟨b,1,none⟩ (.slice ao (l.length+s.size) cap)):=(Z.refl [b] D).setCell (.inl (by simp)) _;have HP:Hid (Wu (D.setCell ⟨b,1,none⟩ (.slice ao (l.length+s.size) cap)) B b vv (l++s.data.toList)):=V (.inr ⟨hB,_,bJ u 1 _,by
  rw[LC,XD];exact kx.ownsRow m (λq E=>by grind),λe=>z b e rfl⟩)
 have Q:Hid (Z [] F (D.setCell ⟨b,1,none⟩ (.slice ao (l.length+s.size) cap))):=V ((((I.next a0 (by simp;omega))).grown k (λq E=> .inr (by grind))).setCell (.inr (by grind)) _);have K:=(a2.trans (KB.aeg k hown)).trans (KB.WD kx u);go_wp2;go_ret2;exact⟨rfl,HP,Q,K⟩
theorem Aa(B b g cap:Nat)(vv:cY×Bool)(l:List UInt8)(xs:List O)(w F:J)(h:Wu w B b vv l)(hg:w.heap[g]?=some (cV (xs.map Value.string).toArray 9))(D:l.length+(iF xs).length<=140737488355328)(a2:Z [] F w)(a4:F.heap.size<=B)(a5:xs.length<=4096):
  Calls prog 413 #[cW b,ky g xs.length cap] w λe w'=>e=nu/\Wu w' B b vv (l++iF xs)/\Z [] F w'/\KB w w':=by
 obtain⟨n,hn⟩:∃n,n=xs.length:=⟨_,rfl⟩;rw[<-hn]at a5|-;have HN:=V hn;have HT:=h;have HG:=hg;have a6:=a2;have T:=D;clear hn;go_enter func413,ntmps413;go_wp21
 go_loopw [8] (λv wr=>∃i:Nat,v=G i/\i<=n/\Wu wr B b vv (l++iF (xs.take i))/\Z [] F wr/\KB w wr) (λv _=>n-(intOf v).toNat)
 case atStart=>grind[iF,KB]
 case round=>
  obtain⟨i,rfl,hi,I,hk,z⟩:=hrel;by_cases a3:i<n
  .have h1:i<xs.length:=by rw[<-HN.out];exact a3
   have gg:=z g _ _ HG (by decide);have hc:wr.cell? ⟨g,i,none⟩=some (Y xs[i]):=by rw[aN gg];simp[h1]
   have k:iF (xs.take (i+1))=iF (xs.take i)++xs[i].data.toList:=by
    rw[GH,pU h1,Ds];simp[iF]
   have m:(l++iF (xs.take i)).length+xs[i].size<=140737488355328:=by
    have e:=oX List.length (oX iF (Oq (i+1) xs));rw[Ds,k]at e;have:=T;have es:xs[i].data.toList.length=xs[i].size:=Lg;simp only[XD]at e|-;omega
   have a7:B<=b/\b<wr.heap.size:=by rcases I with⟨E,_,hx,_⟩|⟨E,_,hx,_⟩<;>exact⟨E,eS hx⟩
   have C:=QC B b vv _ xs[i] wr F I m (by omega) hk a4;rw[se,<-k]at C;have HB:=V z;generalize xs[i]=u at *;clear z;go_wp21;refine C.mono ?_;rintro e W2⟨rfl,a0,Q,a1⟩;have K:=HB.trans a1;go_wp2;go_roundw
   case rel=>grind
   case measure=>simp[intOf];omega
  .have he:xs.take i=xs:=Ag (by grind[Hid.out]);rw[he]at I;have a0:=I;have Q:=hk;have K:=z;clear z;go_wp2;go_end0;grind
def ai5(z:J)(vv:cY)(q:O->Bool):Prop:=∃k m,vv=.func (.func k) #[] m/\(∀h w,(callFunc k h).run prog w=.ok (.enter k h) w)/\∀W,Z [] z W->∀s,Calls prog k (#[Y s]++m) W λe u=>e=dw (.bool (q s))/\u=W
theorem N6(e m:List UInt8)(c:Nat)(u:1<=c)(h:m.length<=c*e.length):∀(k:Nat)(s:List UInt8),(Lib.replaceK e m k s).length<=c*s.length
 |0,s=>by exact QG _ u
 |k+1,s=>by
  rw[Lib.replaceK];split;exact QG _ u;have I:=Lib.index_ge s e;have D:0<=Lib.index s e:=by grind
  have K:=Lib.index_room s e D;have Q:(Lib.index s e).toNat+e.length<=s.length:=by omega
  have z:=N6 e m c u h k (s.drop ((Lib.index s e).toNat+e.length));generalize (Lib.index s e).toNat=i at *;simp at z|-;obtain⟨d,E⟩:∃d,s.length=i+e.length+d:=⟨s.length-(i+e.length),by omega⟩;rw[E]at z|-;have e1:i+e.length+d-(i+e.length)=d:=by omega
  rw[e1]at z;have e2:c*(i+e.length+d)=c*i+c*e.length+c*d:=by grind
  have F:i<=c*i:=QG _ u;omega
theorem yn(s k e:O)(c:Nat)(m:1<=c)(h:e.size<=c*k.size):(YO s k e).size<=c*s.size:=by
 have e2:(YO s k e).size=(Lib.replaceAll _ _ _).length:=rfl;rw[e2];unfold Lib.replaceAll Lib.replace;split;exact QG _ m;exact N6 _ _ c m (by simp_all) _ _
theorem C9(s:O):(Bt s).size<=15*s.size:=by
 have e:=yn s tY kE 5 (by decide) (by decide);have h:=yn (YO s tY kE) sO nf 3 (by decide) (by decide);grind[Bt]
theorem R4(s:O):(GS s).size<=240*s.size:=by
 have e:=C9 s;have h:=yn (Bt s) ou jL 4 (by decide) (by decide);have k:=yn (YO (Bt s) ou jL) eA pz 4 (by decide) (by decide);grind[GS]
def DL(s h k:O)(w:J)(D:Ll w)(hs:s.size<=2000000000)(u:1<=h.size)(E:k.size<=16):
  Calls prog 245 #[Y s,Y h,Y k] w λe w'=>e=dw (Y (YO s h k))/\Z [] w w':=by
 have⟨⟨m,hm⟩,_⟩:=D;refine(Tryz.strings_ReplaceAll s h k m w (by omega) hm u ?_).mono ?_;have:=Nat.mul_le_mul (Lib.countB_le h u _ s (dr _)) E;omega;rintro e w'⟨rfl,z⟩;exact⟨rfl,JL z⟩
def M9(s:O)(w:J)(m:Ll w)(hs:s.size<=1048576):
  Calls prog 414 #[Y s] w λe w'=>e=dw (Y (Bt s))/\Z [] w w':=by
 have D:=yn s tY kE 5 (by decide) (by decide);go_enter func414,ntmps414;go_wp21;refine(DL s tY _ w m (by omega) (by decide) (by decide)).mono ?_;rintro e z⟨rfl,h⟩;go_wp21;refine(((λw' (u)=>DL (YO s tY kE) sO nf w' (m.kept u) (by omega) (by decide) (by decide))) z h).mono ?_;rintro e E⟨rfl,k⟩;go_wp2;go_ret;exact⟨rfl,(h.trans k)⟩
theorem Wu.cells{B:Nat}{l:List UInt8}(h:Wu w B b vv l):∃p v,w.heap[b]?=some (cV #[p,v,vv.1,.bool vv.2] 99)/\B<=b:=by
 rcases h with⟨e,v,k,_⟩|⟨e,v,k,_⟩
 all_goals grind
theorem akO(B b:Nat)(vv:cY×Bool)(l:List UInt8)(s:O)(w D:J)(h:Wu w B b vv l)(F:Ll D)(hf:vv.2=false)(hs:s.size<=1048576)(a0:l.length+240*s.size<=140737488355328)(k:Z [] D w)(K:D.heap.size<=B):
  Calls prog 442 #[cW b,Y s] w λe w'=>e=nu/\Wu w' B b vv (l++(GS s).data.toList)/\Z [] D w':=by
 have⟨p,v,hb,hBb⟩:=h.cells;have c3:w.cell? ⟨b,3,none⟩=some (.bool false):=by rw[aN hb,<-hf];rfl
 have a1:=eS hb;have z1:=C9 s;have z3:=R4 s;have z2:=yn (Bt s) ou jL 4 (by decide) (by decide);have C1:=M9 s w (F.kept k) hs;have C2:=(λw' (u:Z [] w w')=>DL (Bt s) ou jL w' ((F.kept k).kept u) (by omega) (by decide) (by decide));have Q:=(λw' (u:Z [] w w')=>DL (YO (Bt s) ou jL) eA pz w' ((F.kept k).kept u) (by omega) (by decide) (by decide));rw[show YO (YO (Bt s) ou jL) eA pz=GS s from rfl]at Q;have T:=(λw' (u:Z [] w w')=>Aa B b w'.heap.size 1 vv l [GS s] (w'.alloc (cV #[Y (GS s)] 9)) D (h.kept (u.alloc _)) (aY w' _) (by simp only[iF,XF,QH,xB];rw[show(GS s).data.toList.length=(GS s).size from Lg];omega) ((k.trans u).alloc _) K (by simp));have ej:iF [GS s]=(GS s).data.toList:=by simp[iF]
 rw[ej]at T;generalize Bt s=u1 at *;generalize GS s=u3 at *;go_enter func442,ntmps442;go_wp21;refine C1.mono ?_;rintro e w1⟨rfl,m⟩;have D2:=C2 w1 m;go_wp21;refine D2.mono ?_;rintro e w2⟨rfl,z⟩;have D3:=Q w2 (m.trans z);have E:=m.trans z;go_wp21;refine D3.mono ?_;rintro e w3⟨rfl,I⟩;have D4:=T w3 (E.trans I);go_wp21;refine D4.mono ?_;rintro e w4⟨rfl,H4,H5,_⟩;go_wp2;go_end0;grind
theorem akN(B b:Nat)(vv:cY×Bool)(l:List UInt8)(s:O)(w k:J)(h:Wu w B b vv l)(E:vv.2=true)(D:l.length+s.size<=140737488355328)(m:Z [] k w)(u:k.heap.size<=B):
  Calls prog 442 #[cW b,Y s] w λe w'=>e=nu/\Wu w' B b vv (l++s.data.toList)/\Z [] k w':=by
 have⟨p,v,hb,hBb⟩:=h.cells;have K:w.cell? ⟨b,3,none⟩=some (.bool true):=by rw[aN hb,<-E];rfl
 have z:=Aa B b w.heap.size 1 vv l [s] (w.alloc (cV #[Y s] 9)) k (h.kept ((Z.refl [] w).alloc _)) (aY w _) (by simp only[iF,XF,QH,xB];simp_all) (m.alloc _) u (by simp);have ej:iF [s]=s.data.toList:=by simp[iF]
 rw[ej]at z;go_enter func442,ntmps442;go_wp21;refine z.mono ?_;rintro e Q⟨rfl,F,I,_⟩;go_wp2;refine nr (GG rfl _ _ _) rfl ?_;grind
theorem Wu.set{w:J}{B b:Nat}{vv:cY×Bool}{l:List UInt8}(h:Wu w B b vv l)(a:Bool):Wu (w.setCell ⟨b,3,none⟩ (.bool a)) B b (vv.1,a) l:=by
 have go:∀p,WuP w B b vv p l->WuP (w.setCell ⟨b,3,none⟩ (.bool a)) B b (vv.1,a) p l:=by
  rintro p⟨e,v,k,m,u⟩;exact⟨e,v,bJ k 3 _,((Z.refl [b] w).setCell (.inl (by simp)) _).ownsRow m (λq z=>by grind),u⟩
 grind[Wu]
def NC(x y s:O):(iF [x,s,y]).length=x.size+s.size+y.size:=by
 simp only[iF,XF,QH,xB,XD];rw[show s.data.toList.length=s.size from Lg,show x.data.toList.length=x.size from Lg,show y.data.toList.length=y.size from Lg];omega
theorem aik(B b:Nat)(vv:cY×Bool)(l:List UInt8)(s:O)(w m:J)(h:Wu w B b vv l)(Q:l.length+s.size+3<=140737488355328)(E:Z [] m w)(F:m.heap.size<=B):
  Calls prog 412 #[cW b,Y s] w λe w'=>e=nu/\Wu w' B b (vv.1,false) (l++iF [nX,s,eA])/\Z [] m w':=by
 have⟨p,v,hb,hBb⟩:=h.cells;have T:=aN hb 3;have f3:=cQ hb 3;dsimp at T;have a0:=eS hb;have K:=h.set false;have k:Z [] m (w.setCell ⟨b,3,none⟩ (.bool false)):=E.setCell (.inr (by grind)) _;have ez:=NC nX eA s;have e1:nX.size=2:=rfl;have e2:eA.size=1:=rfl;rw[e1,e2]at ez;obtain⟨W,u⟩:∃W,W=w.setCell ⟨b,3,none⟩ (.bool false):=⟨_,rfl⟩;rw[<-u]at K k;have I:=Aa B b W.heap.size 3 _ l [nX,s,eA] _ m (K.kept ((Z.refl [] W).alloc _)) (aY W _) (by omega) (k.alloc _) F (by simp);have D:W.heap.size=w.heap.size:=by rw[u];simp
 rw[D]at I;have z:=V u.symm;clear u;go_enter func412,ntmps412;go_wp21;rw[z.out];refine I.mono ?_;rintro e w4⟨rfl,H4,H5,_⟩;go_wp2;go_end0;grind
theorem abB(B b:Nat)(vv:cY×Bool)(l:List UInt8)(s:O)(w k:J)(h:Wu w B b vv l)(z:l.length+s.size+7<=140737488355328)(m:Z [] k w)(u:k.heap.size<=B):
  Calls prog 410 #[cW b,Y s] w λe w'=>e=nu/\Wu w' B b vv (l++iF [j5,s,lX])/\Z [] k w':=by
 have E:=NC j5 lX s;have e1:j5.size=4:=rfl;have e2:lX.size=3:=rfl;rw[e1,e2]at E;have D:=Aa B b w.heap.size 3 _ l [j5,s,lX] _ k (h.kept ((Z.refl [] w).alloc _)) (aY w _) (by omega) (m.alloc _) u (by simp);go_enter func410,ntmps410;go_wp21;refine D.mono ?_;rintro e K⟨rfl,F,I,_⟩;go_wp2;go_end0;grind
theorem abC(B b:Nat)(vv:cY×Bool)(l:List UInt8)(s:O)(w k:J)(h:Wu w B b vv l)(z:l.length+s.size+11<=140737488355328)(m:Z [] k w)(u:k.heap.size<=B):
  Calls prog 441 #[cW b,Y s] w λe w'=>e=nu/\Wu w' B b vv (l++iF [dS,s,eA])/\Z [] k w':=by
 have E:=NC dS eA s;have e1:dS.size=10:=rfl;have e2:eA.size=1:=rfl;rw[e1,e2]at E;have D:=Aa B b w.heap.size 3 _ l [dS,s,eA] _ k (h.kept ((Z.refl [] w).alloc _)) (aY w _) (by omega) (m.alloc _) u (by simp);go_enter func441,ntmps441;go_wp21;refine D.mono ?_;rintro e K⟨rfl,F,I,_⟩;go_wp2;go_end0;grind
theorem KB.row(h:KB w w'){base:Nat}{e:TypeId}{k:Nat}(z:w.ownsRow base e k v n xs)(F:e∉[99,5]):w'.ownsRow base e k v n xs:=by
 refine⟨z.1,?_⟩;rcases z.2 with e2|⟨q,m,u,e2,D,E,I⟩;grind;exact .inr ⟨q,m,u,e2,D,h _ _ _ E F,I⟩
theorem VO(L:iD)(i:Nat)(h:i<L.length):(Da L)[i*2]?=some (Y (L[i]).1)/\(Da L)[i*2+1]?=some (Y (L[i]).2):=by
 induction L generalizing i with
 |nil=>simp at h
 |cons a L ih=>
  cases i<;>grind
def GU(s:O):O:=YO (Bt s) nc l6
theorem ade(s:O):(GU s).size<=90*s.size:=by
 have e:=C9 s;have h:=yn (Bt s) nc l6 6 (by decide) (by decide);grind[GU]
def Rm(L:iD):List UInt8:=L.flatMap λa=>iF [⟨#[32]⟩,a.1,xG,GU a.2,nc]
def ajL(s:O)(cU:iD):List UInt8:=iF [ou,s]++Rm cU++iF [eA]
theorem aij(B b:Nat)(vv:cY×Bool)(vd:O->Bool)(l:List UInt8)(s:O)(av:cY)(cU:iD)(w I:J)(h:Wu w B b vv l)(hv:ai5 I vv.1 vd)(hg:Ll I)(hs:s.size<=5000)(hA:sq w av cU)(aR:cU.length<=16)(ha:∀a∈cU,a.1.size<=5000/\a.2.size<=66000)(aL:l.length+6000+16*6000000<=140737488355328)(aj:Z [] I w)(a7:I.heap.size<=B):
  Calls prog 411 #[.pointer (some ⟨b,0,none⟩),.string s,av] w λe w'=>e=.returned (.bool (!vd s))/\(∃u,Wu w' B b (vv.1,s.toList==[115,116,121,108,101]) u/\u.length<=l.length+6000+cU.length*6000000/\u≠[]/\u=l++ajL s cU)/\Z [] I w':=by
 have⟨vx,fl⟩:=vv;have⟨kv,lb,hvx,hcf,hcall⟩:=hv;have al:vx=.func (.func kv) #[] lb:=hvx;subst al;clear hvx;have⟨ao,cp,hav⟩:=cP hA;subst hav;have ez:(iF [ou,s]).length=s.size+1:=by
  simp only[iF,XF,QH,xB,XD];rw[show s.data.toList.length=s.size from Lg];simp;omega
 have ag:(iF [eA]).length=1:=rfl;have C1:=V (Aa B b w.heap.size 2 _ l [ou,s] (w.alloc (.cells #[.string ou,.string s] 9 (0,0))) I (h.kept ((Z.refl [] w).alloc _)) (aY w _) (by omega) (aj.alloc _) a7 (by simp));have C2:=V (λw' u (hw:Wu w' B b (.func (.func kv) #[] lb,fl) u) (hl:u.length+1<=140737488355328) (hk:Z [] I w')=>Aa B b w'.heap.size 1 _ _ [eA] (w'.alloc (.cells #[.string eA] 9 (0,0))) I (hw.kept ((Z.refl [] w').alloc _)) (aY w' _) (by omega) (hk.alloc _) a7 (by simp));have HC:=V hcall;have a9:=V (hA.alloc (.cells #[.string ou,.string s] 9 (0,0)));have EZ:=V ez;have a3:iF [ou,s]≠[]:=by simp[iF]
 have aA:=V a3;have ap:=V ag;have aq:=V ha;have ar:=V hg;clear a3 ha hg;unfold ajL;generalize iF [ou,s]=J1 at *;generalize iF [eA]=J2 at *;clear h aj ez ag hcall hA;go_enter func411,ntmps411;go_wp21;refine C1.out.mono ?_;rintro e w1⟨rfl,h1,k1,an⟩;have aa:=V (an.row a9.out (by decide));have H1:=V h1;have K1:=V k1;clear h1 k1 an a9;go_wp21
 go_loopw [15] (λv wr=>∃(m:Nat)(u:List UInt8),v=.int .i64 m/\m<=cU.length/\Wu wr B b (.func (.func kv) #[] lb,fl) u/\u.length<=l.length+5001+m*6000000/\u≠[]/\u=l++(J1++Rm (cU.take m))/\Z [] I wr/\sq wr (.slice ao cU.length cp) cU) (λv _=>cU.length-(intOf v).toNat)
 case atStart=>exact⟨0,_,rfl,yQ _,H1.out,by rw[XD,EZ.out];omega,λe=>aA.out (List.append_eq_nil_iff.1 e).2,by simp[Rm],K1.out,aa.out⟩
 case round=>
  obtain⟨m,u,rfl,aS,hW,aI,Q,E,a2,F⟩:=hrel;by_cases a6:m<cU.length
  .have aT:cU.length≠0:=by omega
   obtain⟨gA,aF⟩:∃gA,ao=some ⟨gA,0,none⟩:=by
    rcases F.2 with⟨e,h0⟩|⟨q,aK,aQ,e,_⟩
    all_goals grind
   subst aF;have⟨f0,f1⟩:=VO cU m a6;have q0:wr.cell? ⟨gA,m*2,none⟩=some (.string cU[m].1):=by rw[F.cellAt (m*2) (by omega)];exact f0
   have q1:wr.cell? ⟨gA,m*2+1,none⟩=some (.string cU[m].2):=by rw[F.cellAt (m*2+1) (by omega)];exact f1
   have⟨z1,z2⟩:=aq.out cU[m] (sd a6);have T:Rm (cU.take (m+1))=Rm (cU.take m)++iF [⟨#[32]⟩,cU[m].1,xG,GU cU[m].2,nc]:=by
    rw[GH,pU a6];simp only[Rm,Option.toList,oi,XF,QH,xB]
   have af:=V T;have ay:=V E;clear T E;generalize cU[m].1=nm at *;generalize cU[m].2=D at *;clear f0 f1;have H2:=V hW;have K2:=V a2;have ad:=V Q;have A2:=V F;clear hW a2 F Q;go_wp21;obtain⟨ba,a4⟩:∃ba,ba=wr.heap.size:=⟨_,rfl⟩;obtain⟨W0,a1⟩:∃W0,W0=wr.alloc (.cells #[.string nm,.string D] 295 (0,0)):=⟨_,rfl⟩;have ab:Hid (W0.heap[ba]?=some (.cells #[.string nm,.string D] 295 (0,0))):=by rw[a1,a4];exact V (aY wr _)
   have k0:Z [] wr W0:=by rw[a1];exact(Z.refl [] wr).alloc _
   have ac:=V ((ar.out.kept K2.out).kept k0);obtain⟨aU,hG⟩:∃aU:J->Prop,aU=λW=>∃l2,Wu W B b (.func (.func kv) #[] lb,fl) l2/\l2.length<=l.length+5001+(m+1)*6000000/\l2≠[]/\l2=l++(J1++Rm (cU.take (m+1)))/\Z [] I W/\sq W (.slice (some ⟨gA,0,none⟩) cU.length cp) cU:=⟨_,rfl⟩;have aC:Hid (∀W g',Z [] W0 W->W.heap[g']?=some (.cells #[.string ⟨#[32]⟩,.string nm,.string xG,.string (GU D),.string nc] 9 (0,0))->Calls prog 413 #[.pointer (some ⟨b,0,none⟩),.slice (some ⟨g',0,none⟩) 5 5] W λe W2=>e=.returned (.tuple #[])/\aU W2):=V (by
    intro W g' q aH;have zj:(iF [⟨#[32]⟩,nm,xG,GU D,nc]).length<=5946004:=by
     have:=ade D;simp only[iF,XF,QH,xB,XD];rw[show nm.data.toList.length=nm.size from Lg,show(GU D).data.toList.length=(GU D).size from Lg];simp;omega
    refine(Aa B b g' 5 _ u [⟨#[32]⟩,nm,xG,GU D,nc] W I (H2.out.kept (k0.trans q)) aH (by omega) (K2.out.trans (k0.trans q)) a7 (by simp)).mono ?_;rintro e W2⟨rfl,r1,r2,r3⟩;rw[hG];exact⟨rfl,_,r1,by rw[XD];omega,λe=>ad.out (List.append_eq_nil_iff.1 e).1,(by rw[af.out,ay.out];simp),r2,r3.row ((k0.trans q).ownsRow A2.out (λ_ _=>by simp)) (by decide)⟩)
   have au:=V hG;have aB:=V a1.symm;clear hG a1 k0 H2 A2 ad aa H1 K1 C2 HC q0 q1 aI;rw[<-a4,aB.out];clear a4;refine tz (by rfl) ?_;refine ln (λ(g:Nat) z=>⟨#[.pointer (some ⟨b,0,none⟩),.string s,.slice (some ⟨gA,0,none⟩) cU.length cp,undef,undef,undef,.bool false,undef,.pointer (some ⟨ba,0,none⟩),.pointer (some ⟨b,0,none⟩),.string s,.slice (some ⟨w.heap.size,0,none⟩) 2 2,.tuple #[],.slice (some ⟨gA,0,none⟩) cU.length cp,.int .i64 (cU.length:Int),.int .i64 (m:Int),.bool true,.pointer (some ⟨gA,m*2,none⟩),.agg #[.string nm,.string D],ce z 0 u19 (.pointer (some ⟨b,0,none⟩)),ce z 1 u20 (.pointer (some ⟨ba,0,none⟩)),ce z 2 u21 (.string nm),ce z 3 u22 (.pointer (some ⟨ba,1,none⟩)),ce z 4 u23 (.string D),ce z 5 u24 (.string (Bt D)),ce z 6 u25 (.string (GU D)),ce z 7 u26 (.slice (some ⟨g,0,none⟩) 5 5),ce z 8 u27 (.tuple #[]),u28,undef,undef,undef,undef,undef,undef,undef,undef,undef,undef,undef,undef,undef,undef,undef],[]⟩) (λg z W=>(dn z 8=false->Z [] W0 W/\(dn z 7=true->W.heap[g]?=some (.cells #[.string ⟨#[32]⟩,.string nm,.string xG,.string (GU D),.string nc] 9 (0,0))))/\(dn z 8=true->aU W)) 9 [[],[],[1],[],[3],[3,4],[3,4,5],[1,2,3,4,5,6],[0,1,2,3,4,5,6,7]] 0 rfl rfl ⟨λ_=>⟨(Z.refl [] W0).drew,λh=>by cases h⟩,λh=>by cases h⟩ ?_ ?_
   .repeat' first|exact iU|refine iT ?_ ?_
    all_goals
     rintro g z W hI hc hn;simp[yU]at hc;have h8:dn z 8=false:=by first|simp_all|simp[hc]
     have⟨q,h7⟩:=hI.1 h8;have c0:=aN (q.at ab.out (by simp)) 0;have c1:=aN (q.at ab.out (by simp)) 1;dsimp at c0 c1;have n8:∀{k},k≠8->∀{p:Prop},dn (z.setIfInBounds k true) 8=true->p:=λhk _ h=>by rw[iR hk,h8]at h;cases h
     refine jO rfl ?_;intro K' K;simp only[vc,hc];go_simp
     first
     |refine K _ _ ⟨g,?_,λ_=>⟨q,nC h7 (by decide)⟩,n8 (by decide)⟩
     |refine(M9 D W (ac.out.kept q) (by omega)).mono ?_;rintro e W2⟨rfl,a5⟩;refine K _ _ ⟨g,?_,λ_=>⟨q.trans a5,λh=>by rw[iR (by decide),hn 7 (by decide)]at h;cases h⟩,n8 (by decide)⟩
     |refine(DL (Bt D) nc l6 W (ac.out.kept q) (by have:=C9 D;omega) (by decide) (by decide)).mono ?_;rintro e W2⟨rfl,a5⟩;refine K _ _ ⟨g,?_,λ_=>⟨q.trans a5,λh=>by rw[iR (by decide),hn 7 (by decide)]at h;cases h⟩,n8 (by decide)⟩
     |refine K _ _ ⟨W.heap.size,?_,λ_=>⟨q.alloc _,λ_=>aY W _⟩,n8 (by decide)⟩
     |refine(aC.out W g q (h7 (by simp[hc]))).mono ?_;rintro e W2⟨rfl,aE⟩;refine K _ _ ⟨g,?_,λh=>(by rw[mn]at h;cases h),λ_=>aE⟩
     simp[ug,Cv,vc,hc,GU]
   .rintro g W hI;simp only[OZ];have aw:=V (hI.2 sB);clear hI;rename_i KK ai;refine ai _ _ ?_;clear ai KK;go_wp2;go_roundw
    case rel=>
     have hf:=aw.out;rw[au.out]at hf;have⟨l2,r1,r2,r3,re,r4,r5⟩:=hf;exact⟨m+1,l2,by go_num,by omega,r1,r2,r3,re,r4,r5⟩
    case measure=>simp[intOf];omega
  .have e:m=cU.length:=by omega
   have am:u++J2=l++(J1++Rm cU++J2):=by rw[E,e,List.take_length];simp only[se]
   have aD:=V am;clear am E;have D2:=V (C2.out wr u hW (by omega) a2);clear C2 hW a2 F;go_wp21;refine D2.out.mono ?_;rintro e w2⟨rfl,h2,k2,_⟩;have⟨p,v,hb,hBb⟩:=h2.cells;have c3:w2.cell? ⟨b,3,none⟩=some (.bool fl):=by rw[aN hb];rfl
   have c2:w2.cell? ⟨b,2,none⟩=some (.func (.func kv) #[] lb):=by rw[aN hb];rfl
   have f3:=cQ hb 3;have aM:=eS hb;obtain⟨a0,ak⟩:∃a0,a0=(s.toList==[115,116,121,108,101]):=⟨_,rfl⟩;have ah:=h2.set a0;have a8:Z [] I (w2.setCell ⟨b,3,none⟩ (.bool a0)):=k2.setCell (.inr (by show I.heap.size<=b;omega)) _;have aP:(w2.setCell ⟨b,3,none⟩ (.bool a0)).cell? ⟨b,2,none⟩=some (.func (.func kv) #[] lb):=by rw[aN (bJ hb 3 _)];rfl
   have D3:=V (HC.out _ a8 s);have az:=V (show u++J2≠[]from λe=>Q (List.append_eq_nil_iff.1 e).1);have ax:=V (show(u++J2).length<=l.length+6000+cU.length*6000000 by rw[XD,ap.out];omega);have H2:=V ah;have K2:=V a8;have ae:=V ak;clear h2 k2 hb HC ah a8;generalize hq:vd s=q at D3;have HQ:=V hq;clear hq;go_wp21;rw[<-ae.out];refine D3.out.mono ?_;rintro e w3⟨rfl,rfl⟩;go_wp2;go_ret;have e9:=ae.out;subst e9;exact⟨by rw[HQ.out];rfl,⟨_,H2.out,ax.out,az.out,aD.out⟩,K2.out⟩
def nj:Ev->Bool
 | .tx _=>false
 |_=>true
def yh:Ev->Bool
 | .dt s=>decide (s.size<=5000)
 | .cm s=>decide (s.size<=5000)
 | .tx s=>decide (s.size<=1048576)
 | .enter s cU=>decide (cU.length<=16)&&(cU.all λa=>decide (a.1.size<=5000)&&decide (a.2.size<=66000))&&decide (s.size<=5000)
 | .tQ s=>decide (s.size<=5000)
def QS:Ev->Nat
 | .tx s=>240*s.size
 | .enter _ _=>6000+16*6000000
 |_=>6000
def uD(e:List Ev):Nat:=(e.map QS).sum
theorem uS(h:List Ev)(e:Ev):uD (h++[e])=uD h+QS e:=by simp[uD]
def afh{a b:List Ev}(h:a <+:b):uD a<=uD b:=by
 obtain⟨r,rfl⟩:=h;simp[uD]
def La(x:List UInt8×Bool):Ev->List UInt8×Bool
 | .dt s=>(x.1++iF [dS,s,eA],x.2)
 | .cm s=>(x.1++iF [j5,s,lX],x.2)
 | .tx s=>(x.1++(if x.2 then s else GS s).data.toList,x.2)
 | .enter s cU=>(x.1++ajL s cU,s.toList==[115,116,121,108,101])
 | .tQ s=>(x.1++iF [nX,s,eA],false)
def XA(e:List Ev):List UInt8×Bool:=e.foldl La ([],false)
def Ac(h:List Ev)(e:Ev):XA (h++[e])=La (XA h) e:=by simp[XA]
theorem UI(B b:Nat)(vv:cY)(vd:O->Bool)(a0:List Ev)(F:J)(hv:ai5 F vv vd)(hg:Ll F)(z:F.heap.size<=B)(ht:∀e∈a0,yh e=true)(hw:uD a0<=140737488355328):
  Vis 86 (cW b) vd a0 F (λpre W=>Wu W B b (vv,(XA pre).2) (XA pre).1/\(XA pre).1.length<=uD pre/\(pre.any nj=true->(XA pre).1≠[])):=by
 have last:∀{pre ev},pre++[ev] <+:a0->yh ev=true/\uD pre+QS ev<=140737488355328:=by
  intro pre ev h;refine⟨ht ev (h.subset (by simp)),?_⟩;have:=afh h;rw[uS]at this;omega
 refine {mono:=?_,dt:=λs=>?_,cm:=λs=>?_,tx:=λs=>?_,tQ:=λs=>?_,enter:=?_};grind[Wu.kept];refine⟨441,cW b,λw=>by kernel_rfl,λw=>by kernel_rfl,enters_of func441 (by kernel_rfl) rfl,λpre W E K Q=>?_⟩;obtain⟨D,I⟩:=last Q;simp only[yh,afs,QS]at D I;obtain⟨m,T,k⟩:=K;simp only[Ac];generalize XA pre=x at *;obtain⟨l,a⟩:=x;dsimp only[La]at m T k|-;refine(abC B b (vv,a) l s W F m (by omega) E z).mono ?_;rintro e W'⟨rfl,h3,h4⟩;refine⟨rfl,⟨h3,?_,?_⟩,h4⟩;rw[uS,XD,NC,show dS.size=10 from rfl,show eA.size=1 from rfl];grind[QS];grind[List.append_eq_nil_iff,iF];refine⟨410,cW b,λw=>by kernel_rfl,λw=>by kernel_rfl,enters_of func410 (by kernel_rfl) rfl,λpre W E K Q=>?_⟩;obtain⟨D,I⟩:=last Q;simp only[yh,afs,QS]at D I;obtain⟨m,T,k⟩:=K;simp only[Ac];generalize XA pre=x at *;obtain⟨l,a⟩:=x;dsimp only[La]at m T k|-;refine(abB B b (vv,a) l s W F m (by omega) E z).mono ?_;rintro e W'⟨rfl,h3,h4⟩;refine⟨rfl,⟨h3,?_,?_⟩,h4⟩;rw[uS,XD,NC,show j5.size=4 from rfl,show lX.size=3 from rfl];grind[QS];grind[List.append_eq_nil_iff,iF];refine⟨442,cW b,λw=>by kernel_rfl,λw=>by kernel_rfl,enters_of func442 (by kernel_rfl) rfl,λpre W E K Q=>?_⟩;obtain⟨D,I⟩:=last Q;simp only[yh,afs,QS]at D I;obtain⟨m,T,k⟩:=K;simp only[Ac];generalize XA pre=x at *;obtain⟨l,a⟩:=x;dsimp only[La]at m T k|-;have a1:∀u:O,u.size<=240*s.size->(l++u.data.toList).length<=uD (pre++[.tx s])/\((pre++[Ev.tx s]).any nj=true->l++u.data.toList≠[]):=by
  intro u hu;refine⟨?_,?_⟩;rw[uS,XD,show u.data.toList.length=u.size from Lg];grind[QS];intro h;rw[List.any_append]at h;have h7:pre.any nj=true:=by simpa [nj]using h
  grind[List.append_eq_nil_iff]
 cases a with
 |false=>
  refine(akO B b (vv,false) l s W F m hg rfl D (by omega) E z).mono ?_;grind[R4]
 |true=>
  refine(akN B b (vv,true) l s W F m rfl (by omega) E z).mono ?_;grind
 refine⟨412,cW b,λw=>by kernel_rfl,λw=>by kernel_rfl,enters_of func412 (by kernel_rfl) rfl,λpre W E K Q=>?_⟩;obtain⟨D,I⟩:=last Q;simp only[yh,afs,QS]at D I;obtain⟨m,T,k⟩:=K;simp only[Ac];generalize XA pre=x at *;obtain⟨l,a⟩:=x;dsimp only[La]at m T k|-;refine(aik B b (vv,a) l s W F m (by omega) E z).mono ?_;rintro e W'⟨rfl,h3,h4⟩;refine⟨rfl,⟨h3,?_,?_⟩,h4⟩;rw[uS,XD,NC,show nX.size=2 from rfl,show eA.size=1 from rfl];grind[QS];grind[List.append_eq_nil_iff,iF];refine⟨411,cW b,λw=>by kernel_rfl,λw=>by kernel_rfl,enters_of func411 (by kernel_rfl) rfl,λpre W s av cU E K Q hA a2=>?_⟩;obtain⟨D,I⟩:=last Q;simp only[yh,oY,afs,afr,QS]at D I;obtain⟨⟨h7,h8⟩,h5⟩:=D;obtain⟨m,T,k⟩:=K;simp only[Ac];generalize XA pre=x at *;obtain⟨l,a⟩:=x;dsimp only[La]at m T k|-;refine(aij B b (vv,a) vd l s av cU W F m hv hg h5 hA h7 h8 (by omega) E z).mono ?_;grind[uS,QS]
def wB(a b:O):Bool:=if da [aG] b then false else if da [bZ,aZ] b then da [aG] a else if da [dq] b then da [cJ,cM,cF] a else if da [dE,dF] b then da [dq] a else if da [cJ,cM,cF,cO,bY] b then da [aV] a else if da [dz] b then da [bY] a else true
def qL:List O:=[aG,bZ,aZ,dq,dE,dF,cJ,cM,cF,cO,bY,dz,aV,jM,qC,mZ,fL,dR]
def ji(s:O):Bool:=da qL s
def q0(s:O):Bool:=da [aG,bZ,aZ,dq,dE,dF,cJ,cM,cF,cO,bY,dz,aV] s
def Cj:O->Bool:=da [aG,bZ,aZ]
theorem fW{l:List O}:da l s=true↔s∈l:=by
 grind[rp,da]
theorem j9{l:List O}:da l s=false↔s∉l:=by grind[fW]
theorem WG{b:O}(h:q0 b=false)(a:O):wB a b=true:=by
 have e:=j9.1 h;simp at e;grind[j9,wB]
theorem q_0{b:O}(h:ji b=false):q0 b=false:=j9.2 λe=>j9.1 h (by
 simp at e;simp[qL,UQ];grind)
def DF{b:O}(h:ji b=false)(a:O):wB a b=true:=WG (q_0 h) a
theorem J5{a b:O}(ha:ji a=false)(h:wB a b=true):q0 b=false\/b=aV:=by
 have e:∀l:List O,(∀x∈l,x∈qL)->da l a=false:=λl I=>j9.2 λK=>j9.1 ha (I a K);unfold wB at h;rw[e [aG] (by simp[qL]),e [cJ,cM,cF] (by simp[qL]),e [dq] (by simp[qL]),e [aV] (by simp[qL]),e [bY] (by simp[qL])]at h;split at h;cases h;rename_i k;split at h;cases h;rename_i m;split at h;cases h;rename_i u;split at h;cases h;rename_i z;split at h;cases h;rename_i D;split at h;cases h;rename_i E;rw[fW]at k m u z D E;simp only[UQ,pW,pX,not_or]at k m u z D E;cases F:q0 b with
 |false=>simp
 |true=>
  have F:=fW.1 F;simp_all
theorem al2{b:O}(h:q0 b=false)(z:gL b=false):ji b=false:=j9.2 λm=>by
 have u:∀x,gL x=true->b≠x:=λx D e=>by grind
 have k:=j9.1 h;simp only[qL,UQ,pW,pX]at m k;rcases m with g|g|g|g|g|g|g|g|g|g|g|g|g|g|g|g|g|g
 all_goals first|exact u _ (by decide+kernel) g|exact k (by simp[g])
def xe{a b:O}(ha:ji a=false)(h:wB a b=true)(e:gL b=false):ji b=false\/b=aV:=(J5 ha h).imp (λg=>al2 g e) id
theorem Ww(h:ji s=false):gL s=false:=by
 cases hv:gL s with
 |false=>rfl
 |true=>
  rw[NN]at hv;have:=Jv hv;simp[vdL]at this;rcases this with rfl|rfl|rfl|rfl|rfl|rfl<;>exact absurd h (by decide+kernel)
def oy(cU:iD):Prop:=(cU.map (·.1)).Nodup/\∀a∈cU,0<a.1.size
def KOk(σ:N)(i:Nat)(a:O):Nd->Prop
 | .el j=>∃ej,σ.db j=some ej/\if i=0 then ej.name=aG else wB a ej.name=true/\gL a=false
 | .tx _=>i≠0/\gL a=false
 | .cm _=>i≠0->gL a=false
 | .dt _=>i=0
def mq(σ:N):Nd->Option O
 | .el j=>if Cj (σ.nm j)then some (σ.nm j)else none
 |_=>none
def uI(σ:N)(ks:List Nd):List O:=ks.filterMap (mq σ)
structure TI(U:eG)(H:Nat->List O)(σ:N):Prop where
 uh:∀i e,σ.db i=some e->e.name=aG->U=some i
 Ci:∀i e,σ.db i=some e->∀k∈e.kids,KOk σ i e.name k
 hb:∀i e,σ.db i=some e->uI σ e.kids=H i
 hz:∀i,σ.db i=none->H i=[]
 cU:∀i e,σ.db i=some e->oy e.di/\e.name≠qR
 tx:∀(i:Nat)(s:O),σ.nodes[i]?=some (zc.tx s)->0<s.size
 rU:(σ.db 0).isSome=true
def Nx(σ σ':N):Prop:=∀i e,σ.db i=some e->∃h,σ'.db i=some h/\h.name=e.name
theorem N.rH{e:sZ}(h:σ.db i=some e):σ.nm i=e.name:=by unfold N.nm;rw[h]
theorem Nx.nm(h:Nx σ σ')(k:(σ.db i).isSome=true):σ'.nm i=σ.nm i:=by
 have⟨e,he⟩:=Option.isSome_iff_exists.1 k;have⟨e',h1,h2⟩:=h i e he;grind[N.nm]
theorem KOk.nx(h:Nx σ σ'){a:O}{k:Nd}(e:KOk σ i a k):KOk σ' i a k:=by
 cases k with
 |el j=>
  have⟨ej,h1,h2⟩:=e;have⟨e',h3,h4⟩:=h j ej h1;grind[KOk]
 |_=>exact e
def R9{α k:Type}{f g:α->Option k}:∀{l:List α},(∀x∈l,f x=g x)->l.filterMap f=l.filterMap g
 |[],_=>rfl
 |a::l,h=>by
  rw[List.filterMap_cons,List.filterMap_cons,h a (Oo ..),R9 λx e=>h x (io _ e)]
theorem Jw(h:Nx σ σ'){a:O}(m:∀k∈ks,KOk σ i a k):uI σ' ks=uI σ ks:=by
 refine R9 λk u=>?_;have e:=m k u;cases k with
 |el j=>
  have⟨ej,h2,_⟩:=e;show(if Cj _ then some _ else none)=if Cj _ then some _ else none
  grind[Nx.nm]
 |_=>rfl
theorem Nx.set{σ:N}{i:Nat}{e e0:sZ}(h:σ.db i=some e0)(u:e.name=e0.name):Nx σ (σ.dh i e):=λj m k=>by
 by_cases e1:j=i;subst e1;rw[h]at k;cases k;exact⟨e,N.eB (N.dm h),u⟩;exact⟨m,by grind[N.db,N.dh],rfl⟩
theorem Nx.add{σ:N}{n:zc}:Nx σ (σ.add n):=λj e h=>⟨e,by grind[N.db,N.add],rfl⟩
theorem Nx.same(h:σ'.nodes=σ.nodes):Nx σ σ':=λj e k=>⟨e,by grind[N.db],rfl⟩
theorem TI.same(h:TI U H σ)(e:σ'.nodes=σ.nodes):TI U H σ':=by
 have e1:∀i,σ'.db i=σ.db i:=λi=>by unfold N.db;rw[e]
 refine⟨λi a m=>h.uh i a (by grind),λi a m k u=>(h.Ci i a (by grind) k u).nx (Nx.same e),λi a m=>?_,λi m=>h.hz i (by grind),λi a m=>h.cU i a (by grind),λi s m=>h.tx i s (by grind),by grind[rU]⟩;rw[e1]at m;rw[Jw (Nx.same e) (h.Ci i a m)];grind[hb]
theorem TI.amd{H':Nat->List O}(h:TI U H σ){e e0:sZ}(K:σ.db i=some e0)(Q:e.name=e0.name)(hk:∀k∈e.kids,KOk σ i e.name k)(hb:uI σ e.kids=H' i)(T:∀x,x≠i->H' x=H x)(ha:oy e.di):TI U H' (σ.dh i e):=by
 have E:=N.dm K;have n:Nx σ (σ.dh i e):=Nx.set K Q;have F:∀{j m},(σ.dh i e).db j=some m->(j=i/\m=e)\/(j≠i/\σ.db j=some m):=λ{j m} u=>by
  by_cases e1:j=i;subst e1;rw[N.eB E]at u;grind;rw[N.dY e1]at u;grind
 refine⟨λj m u I=>?_,λj m u k D=>?_,λj m u=>?_,λj z=>?_,λj m u=>?_,λj s z=>?_,?_⟩;rcases F u with⟨rfl,rfl⟩|⟨_,g⟩;exact h.uh _ _ K (Q▸I);exact h.uh j m g I;rcases F u with⟨rfl,rfl⟩|⟨_,g⟩;exact(hk k D).nx n;exact(h.Ci j m g k D).nx n;rcases F u with⟨rfl,rfl⟩|⟨I,g⟩;rw[Jw n hk];exact hb;rw[Jw n (h.Ci j m g),T j I];exact h.hb j m g;by_cases e1:j=i;subst e1;rw[N.eB E]at z;cases z;rw[N.dY e1]at z;rw[T j e1];exact h.hz j z;rcases F u with⟨rfl,rfl⟩|⟨_,g⟩;exact⟨ha,by rw[Q];exact(h.cU _ _ K).2⟩;exact h.cU j m g;rcases N.lh z with⟨_,g⟩|⟨_,g⟩;cases g;exact h.tx j s g;by_cases e1:0=i;grind[N.db,N.dh];rw[N.dY e1];exact h.rU
def TI.set{U:eG}{H:Nat->List O}{σ:N}(h:TI U H σ){i:Nat}{e e0:sZ}(m:σ.db i=some e0)(D:e.name=e0.name)(z:∀k∈e.kids,KOk σ i e.name k)(u:uI σ e.kids=H i)(ha:oy e.di):TI U H (σ.dh i e):=h.amd m D z u (λ_ _=>rfl) ha
theorem TI.aln(h:TI U H σ){n:zc}(F:∀e,n=.el e->e.kids=[]/\(oy e.di/\e.name≠qR)/\(e.name=aG->U=some σ.nodes.length))(K:∀s,n=.tx s->0<s.size):TI U H (σ.add n):=by
 have D:Nx σ (σ.add n):=Nx.add;have I:σ.db σ.nodes.length=none:=by unfold N.db;rw[yS (dr _)]
 refine⟨λj u m E=>?_,λj u m k z=>?_,λj u m=>?_,λj m=>?_,λj u m=>?_,λj s m=>?_,?_⟩;rcases N.wu m with⟨_,g⟩|⟨rfl,g⟩;exact h.uh j u g E;grind;rcases N.wu m with⟨_,g⟩|⟨_,g⟩;exact(h.Ci j u g k z).nx D;grind;rcases N.wu m with⟨_,g⟩|⟨rfl,g⟩;rw[Jw D (h.Ci j u g)];exact h.hb j u g;rw[(F _ g).1,h.hz _ I];rfl;by_cases e1:j<σ.nodes.length;rw[N.qo e1]at m;exact h.hz j m;exact h.hz j (by grind[N.db]);rcases N.wu m with⟨_,g⟩|⟨_,g⟩;exact h.cU j u g;grind;unfold N.add at m;by_cases e1:j<σ.nodes.length;rw[Ea e1]at m;exact h.tx j s m;grind;have⟨e,h0⟩:=Option.isSome_iff_exists.1 h.rU;grind[N.db,N.add]
theorem TI.add{U:eG}{H:Nat->List O}{σ:N}(h:TI U H σ){n:zc}(k:∀e,n=.el e->e.kids=[]/\(oy e.di/\e.name≠qR)/\e.name≠aG)(m:∀s,n=.tx s->0<s.size):TI U H (σ.add n):=h.aln (λe g=>⟨(k e g).1,(k e g).2.1,by grind⟩) m
def N.ns(σ:N):List O:=σ.cC.map σ.jg
def okD:Option O->O->Prop
 |none,b=>b=aG
 |some a,b=>wB a b=true/\gL b=false
def IV:Option O->List O->Prop
 |_,[]=>True
 |p,b::l=>okD p b/\IV (some b) l
def vm:Option O->List O->Option O
 |p,[]=>p
 |_,b::l=>vm (some b) l
theorem qZ:∀{l1:List O} {p:Option O} {l2:List O},IV p (l1++l2)↔IV p l1/\IV (vm p l1) l2
 |[],p,l2=>by grind[IV,vm]
 |b::l1,p,l2=>by rw[oW,IV,IV,qZ,vm,and_assoc]
theorem sE:∀{l:List O} {p:Option O} {b:O},vm p (l++[b])=some b
 |[],_,_=>rfl
 |a::l,p,b=>sE (l:=l)
theorem NU:ji aG=true:=by decide+kernel
theorem Aw(a:O):wB a aV=true:=by
 unfold wB;simp[show da [(aG)] (aV)=false by decide+kernel,show da [(bZ),(aZ)] (aV)=false by decide+kernel,show da [(dq)] (aV)=false by decide+kernel,show da [(dE),(dF)] (aV)=false by decide+kernel,show da [(cJ),(cM),(cF),(cO),(bY)] (aV)=false by decide+kernel,show da [(dz)] (aV)=false by decide+kernel]
theorem WH{b:O}(h:ji b=false\/b=aV)(a:O):wB a b=true:=h.elim (λh=>DF h a) (λh=>by grind[Aw])
def alT{b:O}(h:ji b=false\/b=aV):gL b=false:=h.elim Ww λh=>by rw[h];decide+kernel
def Vj:∀{l:List O} {p:Option O},IV p l->∀b∈l,gL b=false
 |[],_,_,_,h=>by cases h
 |a::l,p,h,b,e=>by
  rcases List.mem_cons.1 e with rfl|e;cases p with
  |none=>rw[h.1];decide+kernel
  |some _=>exact h.1.2
  exact Vj h.2 b e
def Ti{a b:O}(h:okD p a)(ha:ji a=false)(e:ji b=false\/b=aV):okD p b:=by
 cases p with
 |none=>rw[h,NU]at ha;cases ha
 |some x=>exact⟨WH e x,alT e⟩
theorem MR{e:O}(h:IV p (l1++e::l2))(k:ji e=false):IV p (l1++l2):=by
 rw[qZ]at h|-;refine⟨h.1,?_⟩;have⟨h1,h2⟩:=h.2;cases l2 with
 |nil=>trivial
 |cons b l3=>exact⟨Ti h1 k (xe k h2.1.1 h2.1.2),h2.2⟩
def Vi{b e:O}(h:IV p (l1++b::l2))(m:ji b=false)(k:ji e=false):IV p (l1++b::e::l2):=by
 rw[qZ]at h|-;refine⟨h.1,h.2.1,⟨DF k b,Ww k⟩,?_⟩;cases l2 with
 |nil=>trivial
 |cons c l3=>exact⟨⟨WH (xe m h.2.2.1.1 h.2.2.1.2) e,h.2.2.1.2⟩,h.2.2.2⟩
def Eo:∀{l:List O} {a:O},IV (some a) l->ji a=false->(∀c∈l,c≠aV)->∀c∈l,ji c=false
 |[],_,_,_,_,c,h=>by cases h
 |b::l,a,h,ha,hb,c,e=>by
  have k:=(xe ha h.1.1 h.1.2).resolve_right (hb b (Oo ..));rcases List.mem_cons.1 e with rfl|e;exact k;exact Eo h.2 k (λc e=>hb c (io _ e)) c e
theorem Yc{l:List O}(h:∀c∈l,ji c=false):l.filter ji=[]:=List.filter_eq_nil_iff.2 λc e=>by grind
structure Pm where
 U:eG
 H:Nat->List O
 Q:List O
 mo:Nat×Nat×Bool
def yD(σ:N)(i:Nat):Prop:=i≠0/\∃e,σ.db i=some e/\ji e.name=false
def HdO(σ:N)(i:Nat):Prop:=i≠0/\dW σ i bZ
structure FI(p:Pm)(X:List Nat)(σ:N):Prop where
 ti:TI p.U p.H σ
 ch:IV none σ.ns
 q:σ.ns.filter ji=p.Q
 op:∀x∈σ.cC,∃i,x=some i/\i≠0/\(σ.db i).isSome=true
 nd:σ.cC.Nodup
 act:∀i,some i∈σ.act->yD σ i
 xs:∀i∈X,yD σ i
 form:∀i,σ.form=some i->yD σ i
 head:∀i,σ.head=some i->HdO σ i
 wt:∀x∈σ.waiting,0<x.2.2.size
 mo:(σ.mode,σ.kept,σ.dv)=p.mo
def gN{α:Type}(R:α->N->Prop):nh α->Prop
 | .ok a σ=>R a σ
 |_=>True
def Tr{α:Type}(P:N->Prop)(m:M α)(R:α->N->Prop):Prop:=∀σ,P σ->gN R (m σ)
theorem Tr.bind{α u:Type}{m:M α}{R:α->N->Prop}{f:α->M u}{S:u->N->Prop}(h:Tr P m R)(z:∀a,Tr (R a) (f a) S):Tr P (m>>=f) S:=by
 intro σ e;have k:=h σ e;rw[M.cH];cases hm:m σ with
 |ok a σ'=>rw[hm]at k;exact z a σ' k
 |_=>trivial
theorem Tr.pure{α:Type}{a:α}{R:α->N->Prop}(h:∀σ,P σ->R a σ):Tr P (Pure.pure a:M α) R:=λσ e=>h σ e
theorem gN.mono{α:Type}{R e:α->N->Prop}{r:nh α}(h:gN R r)(k:∀a σ,R a σ->e a σ):gN e r:=by
 cases r with
 |ok a σ'=>exact k a σ' h
 |_=>trivial
theorem Tr.cons{α:Type}{P k:N->Prop}{m:M α}{R u:α->N->Prop}(h:Tr P m R)(z:∀σ,k σ->P σ)(D:∀a σ,R a σ->u a σ):Tr k m u:=λσ e=>(h σ (z σ e)).mono D
theorem Tr.stuck{α:Type}{R:α->N->Prop}:Tr P (stuck:M α) R:=λ_ _=>trivial
theorem Tr.ite{α:Type}{c:Prop}[Decidable c]{a b:M α}{R:α->N->Prop}(ha:c->Tr P a R)(e:¬c->Tr P b R):Tr P (if c then a else b) R:=by
 grind
def Fp{α:Type}(m:M α):Prop:=∀p X,Tr (FI p X) m (λ_=>FI p X)
theorem Fp.pure{α:Type}(a:α):Fp (Pure.pure a:M α):=λ_ _=>Tr.pure λ_ h=>h
theorem Fp.stuck{α:Type}:Fp (stuck:M α):=λ_ _=>Tr.stuck
theorem Fp.bind{α k:Type}{m:M α}{f:α->M k}(h:Fp m)(e:∀a,Fp (f a)):Fp (m>>=f):=λp X=>Tr.bind (h p X) λa=>e a p X
theorem Fp.ite{α:Type}{c:Prop}[Decidable c]{a b:M α}(ha:Fp a)(e:Fp b):Fp (if c then a else b):=by grind
theorem Fp.at{α:Type}{m:M α}(h:Fp m){p:Pm}(e:FI p X σ):gN (λ_=>FI p X) (m σ):=h p X σ e
attribute [simp] Fp.pure Fp.stuck Fp.bind Fp.ite
theorem yD.nx(h:Nx σ σ')(k:yD σ i):yD σ' i:=by
 have⟨h0,e,h1,h2⟩:=k;have⟨e',h3,h4⟩:=h i e h1;grind[yD]
theorem dW.nx(h:Nx σ σ')(k:dW σ i s):dW σ' i s:=by
 have⟨e,h1,h2⟩:=k;have⟨e',h3,h4⟩:=h i e h1;grind[dW]
theorem HdO.nx(e:HdO σ i)(h:Nx σ σ'):HdO σ' i:=⟨e.1,e.2.nx h⟩
def aiP(h:Nx σ σ')(m:σ'.cC=σ.cC)(e:∀x∈σ.cC,∃i,x=some i/\i≠0/\(σ.db i).isSome=true):σ'.ns=σ.ns:=by
 unfold N.ns;rw[m];refine aft λx u=>?_;obtain⟨i,rfl,_,k⟩:=e x u;exact h.nm k
theorem FI.tree{p k:Pm}(h:FI p X σ)(D:TI k.U k.H σ')(n:Nx σ σ')(e1:σ'.cC=σ.cC)(e2:σ'.act=σ.act)(E:σ'.form=σ.form)(F:σ'.head=σ.head)(u:σ'.waiting=σ.waiting)(I:σ'.mode=σ.mode)(K:σ'.kept=σ.kept)(Q:σ'.dv=σ.dv)(T:k.Q=p.Q)(em:k.mo=p.mo):FI k X σ':=by
 have e:=aiP n e1 h.op;refine⟨D,by grind[ch],by grind[q],λx hx=>?_,by grind[nd],λi m=>?_,λi m=>(h.xs i m).nx n,λi m=>(h.form i (by grind)).nx n,λi m=>(h.head i (by grind)).nx n,by rw[u];exact h.wt,by grind[mo]⟩;obtain⟨i,rfl,h0,z⟩:=h.op x (by grind);have⟨e',he⟩:=Option.isSome_iff_exists.1 z;have⟨e2,h3,_⟩:=n i e' he;grind;grind[yD.nx,act]
theorem FI.nodes{p:Pm}(h:FI p X σ)(E:TI p.U p.H σ')(n:Nx σ σ')(e1:σ'.cC=σ.cC)(e2:σ'.act=σ.act)(e:σ'.form=σ.form)(k:σ'.head=σ.head)(m:σ'.waiting=σ.waiting)(u:σ'.mode=σ.mode)(z:σ'.kept=σ.kept)(D:σ'.dv=σ.dv):FI p X σ':=h.tree E n e1 e2 e k m u z D rfl rfl
theorem FI.lists{p k:Pm}(h:FI p X σ)(m:σ'.nodes=σ.nodes)(z:k.U=p.U)(u:k.H=p.H)(D:IV none σ'.ns)(Q:σ'.ns.filter ji=k.Q)(ho:∀x∈σ'.cC,∃i,x=some i/\i≠0/\(σ.db i).isSome=true)(E:σ'.cC.Nodup)(ha:∀i,some i∈σ'.act->yD σ i)(F:∀i,σ'.form=some i->yD σ i)(I:∀i,σ'.head=some i->HdO σ i)(T:∀x∈σ'.waiting,0<x.2.2.size)(K:(σ'.mode,σ'.kept,σ'.dv)=k.mo):FI k X σ':=by
 have n:=Nx.same m;have e1:∀i,σ'.db i=σ.db i:=λi=>by unfold N.db;rw[m]
 exact⟨by rw[z,u];exact h.ti.same m,D,Q,by grind,E,λi e=>(ha i e).nx n,λi e=>(h.xs i e).nx n,λi e=>(F i e).nx n,λi e=>(I i e).nx n,T,K⟩
theorem ahb(e:σ'.nodes=σ.nodes):σ'.jg=σ.jg:=by
 funext x
 cases x with
 |none=>rfl
 |some i=>show σ'.nm i=σ.nm i;grind[N.nm,N.db]
theorem FI.jo{p k:Pm}(h:FI p X σ)(m:σ'.nodes=σ.nodes)(u:σ'.cC=σ.cC)(E:k.U=p.U)(z:k.H=p.H)(D:k.Q=p.Q)(ha:∀x,x∈σ'.act->x∈σ.act)(F:∀i,σ'.form=some i->yD σ i)(I:σ'.head=σ.head)(Q:∀x∈σ'.waiting,0<x.2.2.size)(K:(σ'.mode,σ'.kept,σ'.dv)=k.mo):FI k X σ':=by
 have e:σ'.ns=σ.ns:=by unfold N.ns;rw[ahb m,u]
 grind[lists,ch,q,op,nd,act,head]
theorem FI.cC{p:Pm}(h:FI p X σ)(e:IV none (o.map σ.jg))(u:(o.map σ.jg).filter ji=p.Q)(m:∀x∈o,x∈σ.cC\/∃i,x=some i/\i≠0/\(σ.db i).isSome=true)(k:o.Nodup):FI p X {σ with cC:=o}:=
 h.lists rfl rfl rfl e u (λx z=>(m x z).elim (h.op x) id) k h.act h.form h.head h.wt h.mo
theorem aet(h:0<=lO ks (Nd.de i)):Nd.el i∈ks:=by
 unfold lO at h;split at h;rename_i u;have e:=List.findIdx_getElem (w:=u);have m:=sd u;revert e m;generalize ks[ks.findIdx _]=k;intro e m;cases k with
 |el j=>
   have:=by simpa [Nd.de]using e
   grind
 |_=>cases e
 omega
def Plm{α:Type}(p:Pm)(X:List Nat)(d8:α->Nat)(a:α)(σ:N):Prop:=FI p X σ/\d8 a≠0/\σ.cC≠[]/\gL (σ.nm (d8 a))=false
theorem FI.o0{p:Pm}(h:FI p X σ)(e:some i∈σ.cC):i≠0/\(σ.db i).isSome=true:=by
 grind[op]
theorem FI.ov{p:Pm}(h:FI p X σ)(e:some i∈σ.cC):gL (σ.nm i)=false:=Vj h.ch _ (List.mem_map.2 ⟨_,e,rfl⟩)
theorem X9{p:Pm}(h:FI p X σ)(e:i≠0)(k:σ.cC≠[])(m:gL (σ.nm i)=false):gN (Plm p X Prod.fst) (eE i σ):=by
 grind[gN,Plm,eE]
theorem De{xs:gZ}{n:Int}(h:dA xs n=some i):xs≠[]:=λe=>by have:=j8 h;grind
theorem VP{p:Pm}(h:FI p X σ)(E:some i∈σ.cC)(F:σ.nm i=aV):gN (Plm p X Prod.fst) (gQ i σ):=by
 have m:σ.cC≠[]:=λe=>by grind
 unfold gQ;split;rename_i e D;split;split;rename_i q _ _ u k;split;rename_i z;have⟨ej,h1,h2⟩:=h.ti.Ci q u k _ (aet z);have g:q≠0:=λg=>by
  grind[N.rH]
 rw[cZ g]at h2;exact⟨h,g,m,by grind[N.nm]⟩;trivial;trivial;split;rename_i q k;exact X9 h (h.o0 (j8 k)).1 m (h.ov (j8 k));trivial;trivial
theorem LR{p:Pm}(h:FI p X σ):gN (Plm p X Prod.fst) (fx σ):=by
 unfold fx;split;split;rename_i i k;have⟨h1,_,h3⟩:=zu k;exact VP h (List.mem_reverse.1 h1) (rp.1 h3);trivial;split;rename_i q e;exact X9 h (h.o0 (j8 e)).1 (De e) (h.ov (j8 e));trivial;trivial
theorem Kh{p:Pm}(h:FI p X σ)(e:i≠0)(k:σ.cC≠[])(m:gL (σ.nm i)=false):gN (Plm p X Prod.fst) (placeFor i σ):=by
 grind[LR,placeFor,gN,Plm,eE]
def xf{p:Pm}:Tr (FI p X) gp (Plm p X Prod.fst):=λσ h=>by
 unfold gp;split;rename_i i e;exact Kh h (h.o0 (tk e)).1 (De e) (h.ov (tk e));trivial
theorem Dh{k:Nd}(h:mq σ k=none):uI σ (ins ks n k)=uI σ ks:=by
 grind[List.take_append_drop,uI,ins]
def TI.put{H':Nat->List O}(h:TI U H σ){e:sZ}(D:σ.db i=some e)(F:σ.db j=some ej)(E:j≠i)(Q:if i=0 then ej.name=aG else wB e.name ej.name=true/\gL e.name=false)(K:uI σ (ins e.kids n (.el j))=H' i)(I:∀x,x≠i->H' x=H x):TI U H' ((σ.dh i {e with kids:=ins e.kids n (.el j)}).dh j {ej with ff:=some i}):=by
 have z:TI U H' (σ.dh i {e with kids:=ins e.kids n (.el j)}):=h.amd D rfl (λk u=>by
  rcases As.1 u with rfl|u;exact⟨ej,F,Q⟩;exact h.Ci i e D k u) K I (h.cU i e D).1
 have m:(σ.dh i {e with kids:=ins e.kids n (.el j)}).db j=some ej:=by rw[N.dY E];exact F
 exact z.set m rfl (z.Ci j ej m) (z.hb j ej m) (h.cU j ej F).1
theorem Nx.trans{a b c:N}(h:Nx a b)(k:Nx b c):Nx a c:=λi e m=>by
 have⟨e1,h1,h2⟩:=h i e m;have⟨e2,h3,h4⟩:=k i e1 h1;grind
theorem zO{e:sZ}(h:σ.db i=some e)(m:σ.db j=some ej)(k:j≠i):Nx σ ((σ.dh i {e with kids:=ins e.kids n (.el j)}).dh j {ej with ff:=some i}):=
 Nx.trans (b:=σ.dh i {e with kids:=ins _ n _}) (Nx.set h rfl) (Nx.set (e0:=ej) (by grind[N.dY]) rfl)
theorem An(e:σ.db j=some ej)(h:Cj ej.name=false):mq σ (.el j)=none:=by
 show(if Cj _ then some _ else none)=none;grind[N.nm]
theorem YA(h:q0 s=false):Cj s=false:=j9.2 λe=>j9.1 h (by grind)
def alP(h:ji s=false):Cj s=false:=YA (q_0 h)
def Fr0(σ:N)(j:Nat):Prop:=∃e,σ.db j=some e/\q0 e.name=false
def FI.f0{p:Pm}(h:FI p X σ)(k:j∈X):Fr0 σ j:=by
 have⟨_,e,g1,g2⟩:=h.xs j k;exact⟨e,g1,q_0 g2⟩
theorem Ax{p:Pm}(z:Fr0 σ j)(h:FI p X σ)(E:pl.1≠0)(F:gL (σ.nm pl.1)=false):gN (λ_ σ'=>FI p X σ'/\σ'.cC=σ.cC) (fY pl j σ):=by
 unfold fY;split;rename_i D ej m k;split;rename_i u;have⟨e,g1,g2⟩:=z;rw[k]at g1;cases g1;exact⟨h.nodes (h.ti.put m k u.1 (by grind[WG,N.rH]) (by rw[Dh (An k (YA g2))];exact h.ti.hb _ _ m) (λ_ _=>rfl)) (zO m k u.1) rfl rfl rfl rfl rfl rfl rfl rfl,rfl⟩;trivial;trivial
theorem YI{p:Pm}{k:Nd}(z:(∃j,k=.cm j)\/(∃j,k=.dt j)/\pl.1=0)(h:FI p X σ)(E:∀e,σ.db pl.1=some e->pl.1≠0->gL e.name=false):gN (λ_ σ'=>FI p X σ'/\σ'.cC=σ.cC) (pQ pl k σ):=by
 unfold pQ;split
 .rename_i D m;split
  .refine⟨h.nodes (h.ti.set m rfl (λx u=>?_) (by rw[Dh (by rcases z with⟨j,rfl⟩|⟨⟨j,rfl⟩,_⟩<;>rfl)];exact h.ti.hb _ _ m) (h.ti.cU _ _ m).1) (Nx.set m rfl) rfl rfl rfl rfl rfl rfl rfl rfl,rfl⟩;rcases As.1 u with rfl|u;grind[KOk];exact h.ti.Ci _ _ m x u
  trivial
 trivial
def alq(a b:O):(a++b).size=a.size+b.size:=by simp
theorem TI.jN(h:TI U H σ){t:Nat}{z:O}(E:σ.nodes[t]?=some (.tx z))(hs:0<s.size):TI U H (σ.jN t s)/\Nx σ (σ.jN t s):=by
 have e:∀i,(σ.jN t s).db i=σ.db i:=λi=>N.pT E i;have n:Nx σ (σ.jN t s):=λi a ha=>⟨a,by grind,rfl⟩;refine⟨⟨λi a m=>h.uh i a (by grind),λi a m k D=>(h.Ci i a (by grind) k D).nx n,λi a m=>?_,λi m=>h.hz i (by grind),λi a m=>h.cU i a (by grind),λi u m=>?_,by grind[rU]⟩,n⟩;rw[e]at m;rw[Jw n (h.Ci i a m)];grind[hb];unfold N.jN at m;grind[tx]
theorem WU{p:Pm}(hs:0<s.size)(h:FI p X σ)(D:pl.1≠0)(F:gL (σ.nm pl.1)=false):gN (λ_=>FI p X) (mP pl s σ):=by
 unfold mP;split;rename_i z e;split;split;split;rename_i k E;split;have⟨g1,g2⟩:=h.ti.jN E (s:=k++s) (by grind);exact h.nodes g1 g2 rfl rfl rfl rfl rfl rfl rfl rfl;trivial;trivial;have g:=h.ti.add (n:=.tx s) (λ_ h=>by cases h) (λ_ h=>by grind);have m:(σ.add (.tx s)).db pl.1=some z:=by rw[N.qo (N.dm e)];exact e
 refine h.nodes (g.set m rfl (λx u=>?_) (by rw[Dh rfl];grind[TI.hb]) (h.ti.cU _ _ e).1) (Nx.add.trans (Nx.set m rfl)) rfl rfl rfl rfl rfl rfl rfl rfl;rcases As.1 u with rfl|u;exact⟨D,by grind[N.rH]⟩;grind[TI.Ci];trivial;trivial
theorem FI.cons{p:Pm}{X:List Nat}{σ:N}(h:FI p X σ){j:Nat}(m:yD σ j):FI p (j::X) σ:={h with xs:=λi k=>(List.mem_cons.1 k).elim (λe=>e▸m) (h.xs i)}
theorem FI.sub{p:Pm}{d8:List Nat}(h:FI p X σ)(hs:∀i∈d8,i∈X):FI p d8 σ:={h with xs:=λi e=>h.xs i (hs i e)}
theorem FI.tail{p:Pm}(h:FI p (j::X) σ):FI p X σ:=h.sub λ_ e=>io _ e
def FI.pos{p:Pm}(h:FI p X σ):σ.nodes.length≠0:=by
 have⟨e,he⟩:=Option.isSome_iff_exists.1 h.ti.rU;have:=N.dm he;omega
theorem FI.U4{p:Pm}(h:FI p X σ){e:sZ}(u:e.kids=[])(ha:oy e.di)(z:e.name≠qR)(m:e.name≠aG):FI p X (σ.add (.el e))/\(σ.add (.el e)).db σ.nodes.length=some e:=
 ⟨h.nodes (h.ti.add (λk g=>by grind) (λ_ g=>by cases g)) Nx.add rfl rfl rfl rfl rfl rfl rfl rfl,by rw[N.pc]⟩
theorem FI.fresh{p:Pm}(h:FI p X σ):some σ.nodes.length∉σ.cC:=λk=>by
 have⟨_,g⟩:=h.o0 k;have⟨e,he⟩:=Option.isSome_iff_exists.1 g;have:=N.dm he;omega
def FI.ajm{p:Pm}(h:FI p X σ){e:sZ}(m:e.kids=[])(ha:oy e.di)(u:e.name≠qR)(k:ji e.name=false):FI p (σ.nodes.length::X) (σ.add (.el e))/\some σ.nodes.length∉(σ.add (.el e)).cC:=by
 have⟨h1,h2⟩:=h.U4 m ha u (λg=>by rw[g,NU]at k;cases k);exact⟨h1.cons ⟨h.pos,e,h2,k⟩,h.fresh⟩
theorem FI.zd{p:Pm}{n:zc}{b:Bool}(h:FI p X (σ.add n)):FI p X (σ.ny n b):=h.lists rfl rfl rfl h.ch h.q h.op h.nd h.act h.form h.head h.wt h.mo
theorem oy.nil:oy []:=⟨Ae,by grind⟩
structure TA(t:cR):Prop where
 cU:oy t.fc
 name:t.name≠qR
 chars:∀s,t.k=.gz s->0<s.size
def Nw(p:Pm)(X:List Nat)(j:Nat)(σ:N):Prop:=FI p (j::X) σ/\some j∉σ.cC
def ag4{p:Pm}{e:O}(k:e≠qR)(m:ji e=false):Tr (FI p X) (wg e) (Nw p X):=λσ h=>h.ajm rfl oy.nil k m
def BF{p:Pm}(k:TA t)(m:ji t.name=false):Tr (FI p X) (fG t) (Nw p X):=λσ h=>by
 unfold fG;split;have⟨g1,g2⟩:=h.ajm (e:=⟨t.name,t.fc,none,[]⟩) rfl k.cU k.name m;exact⟨g1.zd,g2⟩;trivial
def Bi{p:Pm}(k:i∈X):Tr (FI p X) (fD i) (Nw p X):=λσ h=>by
 unfold fD;have⟨_,e,g1,g2⟩:=h.xs i k;rw[g1];dsimp only;split;trivial;exact h.ajm rfl (h.ti.cU i e g1).1 (h.ti.cU i e g1).2 g2
def N.ahc(σ:N)(x:eG):({σ with cC:=σ.cC++[x]}:N).ns=σ.ns++[σ.jg x]:=by
 unfold N.ns;rw[lV];rfl
def vn:∀{l:List O},l≠[]->∃a,vm none l=some a/\a∈l:=λ{l} h=>by
 obtain⟨e,a,rfl⟩:∃e a,l=e++[a]:=⟨l.dropLast,l.getLast h,(List.dropLast_concat_getLast h).symm⟩;exact⟨a,sE,by simp⟩
def aiO(h:σ.cC≠[]):σ.ns≠[]:=λe=>h (List.map_eq_nil_iff.1 e)
theorem FI.push{p:Pm}(h:FI p X σ){e:sZ}(m:σ.db j=some e)(z:j≠0)(k:okD (vm none σ.ns) e.name)(u:some j∉σ.cC):FI {p with Q:=p.Q++[e.name].filter ji} X {σ with cC:=σ.cC++[some j]}:=by
 have e1:({σ with cC:=σ.cC++[some j]}).ns=σ.ns++[e.name]:=by rw[N.ahc];rw[<-N.rH m];rfl
 refine h.lists rfl rfl rfl (by rw[e1,qZ];exact⟨h.ch,k,trivial⟩) (by grind[q]) (λx u=>?_) (List.nodup_append.2 ⟨h.nd,by simp,by grind⟩) h.act h.form h.head h.wt h.mo;grind[op]
theorem FI.aez{p:Pm}(h:FI p X σ)(k:yD σ j)(m:σ.cC≠[])(u:some j∉σ.cC):FI p X {σ with cC:=σ.cC++[some j]}:=by
 have⟨h0,e,h1,h2⟩:=k;have⟨a,ha,_⟩:=vn (aiO m);have:=h.push h1 h0 (by rw[ha];exact⟨DF h2 a,Ww h2⟩) u;simp_all
def ahv{p:Pm}(e:j∈X):Tr (λσ=>FI p X σ/\σ.cC≠[]/\some j∉σ.cC) (kA (some j)) (λ_=>FI p X):=λσ ⟨h,k,m⟩=>by
 unfold kA;split;trivial;split;exact h.aez (h.xs j e) k m;trivial
theorem qI(h:gp σ=.ok pl σ'):σ'=σ:=by
 unfold gp at h;split at h;grind[jC,kX,placeFor];grind
theorem Nr{p:Pm}(m:j∈X){R:N->Prop}(u:Tr (λσ=>FI p X σ/\σ.cC≠[]/\some j∉σ.cC) (kA (some j)) (λ_=>R)):Tr (λσ=>FI p X σ/\some j∉σ.cC) (fP j) (λ_=>R):=
 Tr.bind (R:=λpl σ=>Plm p X _ pl σ/\some j∉σ.cC) (λσ ⟨h,D⟩=>by
  have:=xf σ h;cases hm:gp σ with
  |ok pl σ'=>rw[hm]at this;exact⟨this,by grind[qI]⟩
  |_=>trivial) λpl=>Tr.bind (λσ ⟨⟨h,k,F,z⟩,D⟩=>(Ax (h.f0 m) h k z).mono λ_ σ' ⟨e,E⟩=>⟨e,by grind⟩) λ_=>Tr.bind u λ_=>Tr.pure λ_ h=>h
def Np{p:Pm}(e:j∈X):Tr (λσ=>FI p X σ/\some j∉σ.cC) (fP j) (λ_=>FI p X):=Nr e (ahv e)
def Fz{α:Type}(m:M α):Prop:=∀p X,Tr (FI p X) m (λ_ σ=>FI p X σ.pop)
def Zp(p:Pm)(X:List Nat)(o:gZ)(d:eG)(σ:N):Prop:=FI p X σ/\σ.cC=o/\σ.head=d
theorem JB{p:Pm}{d:eG}:Tr (λσ=>Zp p X o d σ/\Fr0 σ j) (fP j) (λ_ σ=>Zp p X o d σ.pop):=
 Tr.bind (R:=λpl σ=>Plm p X Prod.fst pl σ/\Zp p X o d σ/\Fr0 σ j) (λσ h=>by
  have:=xf σ h.1.1;cases hm:gp σ with
  |ok pl σ'=>rw[hm]at this;exact⟨this,by grind[qI]⟩
  |_=>trivial) λpl=>Tr.bind (R:=λ_=>Zp p X o d) (λσ ⟨⟨h,k,_,z⟩,⟨_,u,m⟩,D⟩=>by
  have:=Ax D h k z;revert this;unfold fY
  (repeat' split)<;>intro g<;>first|exact⟨g.1,g.2.trans u,m⟩|trivial) λ_=>Tr.bind (λσ h=>by
  unfold kA;split;trivial;split;have e:({σ with cC:=σ.cC++[some j]}).pop=σ:=by unfold N.pop;simp
  grind[gN];trivial) λ_=>Tr.pure λ_ h=>h
def ag6{p:Pm}{d:eG}{k:O}(u:k≠qR)(m:q0 k=false):Tr (Zp p X o d) (wg k) (λj σ=>Zp p X o d σ/\Fr0 σ j):=λσ h=>by
 have⟨h1,h2⟩:=h.1.U4 (e:=⟨k,[],none,[]⟩) rfl oy.nil u (λ(g:k=(aG))=>by rw[g]at m;revert m;decide+kernel);exact⟨⟨h1,h.2⟩,_,h2,m⟩
def Wq{p:Pm}{d:eG}(m:TA t)(k:q0 t.name=false):Tr (Zp p X o d) (fG t) (λj σ=>Zp p X o d σ/\Fr0 σ j):=λσ h=>by
 unfold fG;split;have⟨h1,h2⟩:=h.1.U4 (e:=⟨t.name,t.fc,none,[]⟩) rfl m.cU m.name (λ(g:t.name=(aG))=>by rw[g]at k;revert k;decide+kernel);exact⟨⟨h1.zd,h.2⟩,_,h2,k⟩;trivial
def xZ(k:TA t)(e:q0 t.name=false){p:Pm}{d:eG}:Tr (Zp p X o d) (dZ t) (λ_ σ=>Zp p X o d σ.pop):=Tr.bind (Wq k e) λ_=>Tr.bind JB λ_=>Tr.pure λ_ h=>h
def tj(t:cR)(k:TA t)(e:ji t.name=false):Fp (dZ t):=λp X=>Tr.bind (BF k e) λj=>Tr.bind (Np (Oo ..)) λ_=>Tr.pure λ_ h=>h.tail
def Gb(t:cR)(k:TA t)(e:q0 t.name=false):Fz (dZ t):=λp X σ h=>(xZ k e σ ⟨h,rfl,rfl⟩).mono λ_ _ g=>g.1
def Ma(e:O)(k:e≠qR)(m:ji e=false):Fp (fF e):=λp X=>Tr.bind (ag4 k m) λj=>Tr.bind (Np (Oo ..)) λ_=>Tr.pure λ_ h=>h.tail
def Mb(e:O)(k:e≠qR)(m:q0 e=false):Fz (fF e):=λp X σ h=>Tr.bind (ag6 k m) (λj=>Tr.bind JB λ_=>Tr.pure λ_ h=>h.1) σ ⟨h,rfl,rfl⟩
theorem Fz.pop{α u:Type}{m:M α}{b:eG->M u}(h:Fz m)(k:∀x,Fp (b x)):Fp (m>>=λ_=>tJ>>=b):=λp X=>Tr.bind (h p X) λ_=>Tr.bind (R:=λ_=>FI p X) (λσ e=>e) λx=>k x p X
theorem Fz.bind{α k:Type}{m:M α}{f:α->M k}(h:Fp m)(e:∀a,Fz (f a)):Fz (m>>=f):=λp X=>Tr.bind (h p X) λa=>e a p X
theorem Fz.ret{α e:Type}{m:M α}{b:e}(h:Fz m):Fz (m>>=λ_=>(Pure.pure b:M e)):=λp X=>Tr.bind (h p X) λ_=>Tr.pure λ_ h=>h
theorem us(t:cR)(h:TA t)(e:q0 t.name=false):Fp (gM t):=Fz.pop (Gb t h e) λ_=>Fp.pure _
theorem rC(t:cR)(k:0<t.chars.size):Fp (gw t):=λp X=>Tr.bind xf λpl=>Tr.bind (λσ ⟨h,e,_,m⟩=>WU k h e m) λ_=>Tr.pure λ_ h=>h
theorem FI.erase{p:Pm}(h:FI p X σ)(m:some i∈σ.cC->yD σ i):FI p X {σ with cC:=σ.cC.erase (some i)}:=by
 by_cases k:some i∈σ.cC;have⟨A,B,hA,e1,e2⟩:=List.exists_erase_eq k;have⟨_,e,g1,g2⟩:=m k;have u:σ.ns=A.map σ.jg++e.name::B.map σ.jg:=by unfold N.ns;rw[e1,lV,<-N.rH g1];rfl
 grind[cC,MR,ch,q,nd];rw[List.erase_of_not_mem k];exact h
def J0{p:Pm}(e:i∈X):Tr (FI p X) (fB (some i)) (λ_=>FI p X):=λσ h=>by
 unfold fB;split;exact h.erase λ_=>h.xs i e;trivial
theorem FI.prefix{p:Pm}(h:FI p X σ){A B:gZ}(e:σ.cC=A++B)(m:∀x∈B,ji (σ.jg x)=false):FI p X {σ with cC:=A}:=by
 have k:σ.ns=A.map σ.jg++B.map σ.jg:=by unfold N.ns;rw[e,lV]
 refine h.cC ?_ ?_ (λx u=> .inl (by grind)) (List.nodup_append.1 (e▸h.nd)).1
 all_goals grind[ch,qZ,q,Yc]
theorem ux{p b:O->Bool}:∀{l:gZ},N.tL σ p b l=true->∃A x C,l=A++x::C/\p (σ.jg x)=true/\(∀a∈A,b (σ.jg a)=false)/\N.xx σ p l=C
 |[],h=>by cases h
 |x::r,h=>by
  unfold N.tL at h;by_cases e:p (σ.jg x)=true;exact⟨[],x,r,rfl,e,by grind,by grind[N.xx]⟩;rw[cZ e]at h;by_cases k:b (σ.jg x)=true;grind;rw[cZ k]at h;have⟨A,y,C,h1,h2,h3,h4⟩:=ux h;grind[N.xx]
theorem FI.close{p:Pm}(h:FI p X σ){b:O->Bool}(u:∀s,q s=true->ji s=false)(D:b aV=true)(hs:σ.inScope q b=true):FI p X (σ.yw q):=by
 have⟨A,x,C,h1,h2,h3,h4⟩:=ux hs;have e:σ.cC=C.reverse++x::A.reverse:=by grind
 have k:=h.ch;unfold N.ns at k;rw[e,lV,qZ]at k;have z:=Eo k.2.2 (u _ h2) (λc m=>by
  grind)
 unfold N.yw;rw[h4];refine h.prefix e (λy E=>?_);grind
def IX{b:O->Bool}(k:∀s,q s=true->ji s=false)(e:b aV=true):Fp (iI q b):=λp X σ h=>by
 unfold iI;split;exact h.close k e ‹_›;exact h
theorem FT{σ:N}{q:O->Bool}:∀l:gZ,∃A,l=A++N.la σ q l/\∀a∈A,q (σ.jg a)=true
 |[]=>⟨[],rfl,by grind⟩
 |x::r=>by
  unfold N.la;by_cases e:q (σ.jg x)=true;have⟨A,h1,h2⟩:=FT (σ:=σ) (q:=q) r;grind;simp_all
theorem FI.alx{p:Pm}(h:FI p X σ)(k:∀s,q s=true->ji s=false):FI p X {σ with cC:=(N.la σ q σ.cC.reverse).reverse}:=by
 have⟨A,h1,h2⟩:=FT (σ:=σ) (q:=q) σ.cC.reverse;have e:=by
  have:=oX List.reverse h1
  rwa [List.reverse_reverse,Lb]at this
 exact h.prefix e λx m=>k _ (h2 x (List.mem_reverse.1 m))
theorem Wo(h:σ.last=some i):σ.cC=σ.cC.dropLast++[some i]:=by
 grind[De,List.dropLast_concat_getLast,qp,N.last]
theorem FI.aaS{p:Pm}(h:FI p X σ)(e:σ.last=some i)(k:ji (σ.nm i)=false):FI p X σ.pop:=h.prefix (Wo e) λx m=>by grind[N.jg]
theorem aep(e:∀s,q s=true->ji s=false):Fp (ly q):=λp X σ h=>by
 show FI p X _;grind[FI.aaS,N.Gr,N.current]
def FI.ZA{p:Pm}(h:FI p X σ){a:gZ}(ha:∀i,some i∈a->some i∈σ.act\/yD σ i):FI p X {σ with act:=a}:=
 h.lists rfl rfl rfl h.ch h.q h.op h.nd (λi e=>(ha i e).elim (h.act i) id) h.form h.head h.wt h.mo
theorem wQ(x:eG):Fp (gv x):=λp X σ h=>by
 unfold gv;split;exact h.ZA λi e=> .inl (aag _ e);trivial
def ab9(x:eG):Fp (xL x):=λp X σ h=>by
 unfold xL;split;exact h.ZA λi e=> .inl (E4 e);trivial
def Uy:Fp tM:=Fp.bind (ab9 _) λ_=>Fp.pure _
theorem XR{p:Pm}(h:FI p X σ)(x:eG)(m:yD σ j):gN (λ_=>FI p X) (lE x (some j) σ):=by
 unfold lE;split;exact h.ZA λi k=>(DM k).imp id λe=>by grind
 trivial
theorem OB{p:Pm}(x:eG)(m:j∈X):Tr (FI p X) (jk x (some j)) (λ_=>FI p X):=λσ h=>by
 unfold jk;split;exact h.ZA λi k=>(wC k).imp id λe=>by grind[FI.xs]
 trivial
theorem Iw{p:Pm}(k:j∈X):Tr (FI p X) (fC (some j)) (λ_=>FI p X):=λσ h=>by
 unfold fC;split;trivial;split;exact h.ZA λi e=>by
  grind[FI.xs]
 trivial
theorem Ee:Fp (fC none):=λp X σ h=>by
 unfold fC;split;trivial;split;exact h.ZA λi e=>by
  grind
 trivial
def afU{p:Pm}(n:Nat):Tr (FI p X) (yE n) (λi=>FI p (i::X)):=λσ h=>by
 unfold yE;split;rename_i i e;exact h.cons (h.act i (j8 e));trivial
def Lp(p:Pm)(X:List Nat)(σ:N):Prop:=FI p X σ/\∃i,σ.last=some i/\yD σ i
def SN(σ:N)(j:Nat):({σ with cC:=σ.cC++[some j]}:N).last=some j:=qp _ _
def ahw{p:Pm}(k:j∈X):Tr (λσ=>FI p X σ/\σ.cC≠[]/\some j∉σ.cC) (kA (some j)) (λ_=>Lp p X):=λσ ⟨h,m,u⟩=>by
 unfold kA;split;trivial;split;have e:=h.aez (h.xs j k) m u;exact⟨e,j,SN σ j,e.xs j k⟩;trivial
def Ns{p:Pm}(e:j∈X):Tr (λσ=>FI p X σ/\some j∉σ.cC) (fP j) (λ_=>Lp p X):=Nr e (ahw e)
def zy(t:cR)(k:TA t)(e:ji t.name=false){p:Pm}:Tr (FI p X) (dZ t) (λ_=>Lp p X):=Tr.bind (BF k e) λj=>Tr.bind (Ns (Oo ..)) λ_=>Tr.pure λ_ h=>⟨h.1.tail,h.2⟩
theorem aeE:∀k n,Fp (DK k n)
 |0,_=>Fp.pure _
 |k+1,n=>λp X=>Tr.bind (afU n) λi=>Tr.bind (Bi (Oo ..)) λj=>Tr.bind (Ns (Oo ..)) λ_=>Tr.bind (λσ ⟨h,l,e,m⟩=>by
   show gN _ (lE _ _ σ);grind[gN.mono,XR,FI.tail]) λ_=>aeE k _ p X
theorem n4:Fp iK:=λp X σ h=>aeE _ _ p X σ h
def rK(t:cR)(h:TA t)(e:ji t.name=false):Fp (iX t):=Fp.bind n4 λ_=>Fp.bind (tj t h e) λ_=>Fp.pure _
def Ug(t:cR)(h:TA t)(e:q0 t.name=false):Fp (pu t):=Fp.bind n4 λ_=>Fp.bind (us t h e) λ_=>Fp.pure _
def ajl{p:Pm}(i:Nat):Tr (FI p (i::X)) (GK i) (λ_=>FI p X):=by
 intro σ h;unfold GK;dsimp only;split;exact Tr.bind (S:=λ_=>FI p X) (wQ _ p _) (λ_=>Tr.bind (Iw (Oo ..)) λ_=>Tr.pure λ_ h=>h.tail) σ h;exact Tr.bind (S:=λ_=>FI p X) (Iw (Oo ..)) (λ_=>Tr.pure λ_ h=>h.tail) σ h
theorem lQ(t:cR)(u:TA t)(m:ji t.name=false):Fp (dU t):=λp X=>
 Tr.bind (R:=λ_=>Lp p X) (Tr.bind (n4 p X) λ_=>Tr.bind (zy t u m) λ_=>Tr.pure λ_ h=>h) λ_=>Tr.bind (λσ ⟨h,i,e,k⟩=>by
  unfold AZ;rw[e];exact h.cons k) λi=>Tr.bind (ajl i) λ_=>Tr.pure λ_ h=>h
theorem oy.add{cU:iD}{a:O×O}(h:oy cU)(k:uo cU a.1=false)(ha:0<a.1.size):oy (cU++[a]):=by
 refine⟨?_,λb e=>?_⟩;rw[lV,List.nodup_append];refine⟨h.1,by simp,λx m y u=>?_⟩;unfold uo at k;grind[rp];rcases List.mem_append.1 e with g|g;exact h.2 b g;grind
theorem Ye(i:Nat):∀L:iD,(∀a∈L,0<a.1.size)->Fp (lK i L)
 |[],_=>Fp.pure _
 |a::r,hL=>λp X σ h=>by
  have m:=Ye i r (λb u=>hL b (io _ u)) p X;unfold lK;split;trivial;rename_i e k;split;exact m σ h;split;trivial;refine m _ (h.nodes (h.ti.set k rfl (h.ti.Ci i e k) (h.ti.hb i e k) ((h.ti.cU i e k).1.add (by grind) (hL a (Oo ..)))) (Nx.set k rfl) rfl rfl rfl rfl rfl rfl rfl rfl)
theorem Yh(i:Nat)(t:cR)(e:TA t):Fp (qE i t):=λp X σ h=>by
 unfold qE;split;exact Ye i _ e.cU.2 p X σ h;trivial
theorem Jo(t:cR)(e:TA t):Fp (jm t):=λp X σ h=>by
 unfold jm;split;grind[Fp.at,Fp.bind,Yh,Fp.pure];trivial
theorem VR(t:cR)(e:TA t):Fp (lc t):=λp X σ h=>by
 unfold lc
 (repeat' split)<;>first|exact h|trivial|grind[Fp.at,Fp.bind,Yh,Fp.pure]
theorem Nk{σ:N}:∀{ks:List Nd} {n:Nat} {k:Nd},ks[n]?=some k->mq σ k=none->uI σ (ks.eraseIdx n)=uI σ ks
 |[],_,_,h,_=>by rfl
 |a::ks,0,k,h,hk=>by
  grind[uI]
 |a::ks,n+1,k,h,hk=>by
  have e:=Nk (ks:=ks) (n:=n) (by grind) hk;grind[uI]
def aes(h:0<=lO ks (Nd.de i)):ks[(lO ks (Nd.de i)).toNat]?=some (.el i):=by
 unfold lO at h|-;split at h;rename_i m;rw[dd m];have e:=List.findIdx_getElem (w:=m);rw[Int.toNat_natCast,pU m];revert e;generalize ks[ks.findIdx _]=k;intro e;cases k with
 |el j=>
   have:=by simpa [Nd.de]using e
   rw[this]
 |_=>cases e
 omega
def Og{p:Pm}(E:j∈X):Tr (FI p X) (iC j) (λ_=>FI p X):=λσ h=>by
 unfold iC;have⟨_,ej,h1,g2⟩:=h.xs j E;rw[h1];dsimp only;cases hp:ej.ff with
 |none=>exact h
 |some q=>
  dsimp only;cases m:σ.db q with
  |none=>trivial
  |some ep=>
   dsimp only;split;rename_i D;have z:=h.ti.set (e:={ep with kids:=ep.kids.eraseIdx (lO ep.kids (Nd.de j)).toNat}) m rfl (λk F=>h.ti.Ci _ _ m k (List.mem_of_mem_eraseIdx F)) (by rw[Nk (aes D.2.1) (An h1 (alP g2))];exact h.ti.hb _ _ m) (h.ti.cU _ _ m).1;have u:(σ.dh q {ep with kids:=ep.kids.eraseIdx (lO ep.kids (Nd.de j)).toNat}).db j=some ej:=by rw[N.dY D.1];exact h1
   exact h.nodes (z.set u rfl (z.Ci j ej u) (z.hb j ej u) (h.ti.cU _ _ h1).1) (Nx.trans (b:=σ.dh q {ep with kids:=ep.kids.eraseIdx (lO ep.kids (Nd.de j)).toNat}) (Nx.set m rfl) (Nx.set u rfl)) rfl rfl rfl rfl rfl rfl rfl rfl;trivial
theorem yD.nm(h:yD σ i):ji (σ.nm i)=false:=by
 have⟨_,e,g1,g2⟩:=h;grind[N.nm]
def KK(σ:N):Nd->Prop
 | .el j=>∃e,σ.db j=some e/\(q0 e.name=false\/e.name=aV)
 | .dt _=>False
 |_=>True
theorem KK.nx(n:Nx σ σ'){k:Nd}(h:KK σ k):KK σ' k:=by
 cases k with
 |el j=>
  have⟨e,h1,h2⟩:=h;have⟨e',h3,h4⟩:=n j e h1;grind[KK]
 |_=>exact h
theorem aiL:Cj aV=false:=by decide+kernel
theorem aeA{p:Pm}{k:Nd}(h:FI p X σ)(Q:pl.1≠0)(I:gL (σ.nm pl.1)=false)(F:KK σ k):gN (λ_ σ'=>FI p X σ'/\Nx σ σ') (xh pl k σ):=by
 have K:∀k:Nd,mq σ k=none->KOk σ pl.1 (σ.nm pl.1) k->(∀j,k≠ .el j)->gN (λ_ σ'=>FI p X σ'/\Nx σ σ') (pQ pl k σ):=by
  intro k e1 e2 T;unfold pQ;split;rename_i z m;split;have n:Nx σ (σ.dh pl.1 {z with kids:=ins z.kids pl.2 k}):=Nx.set m rfl;refine⟨h.nodes (h.ti.set m rfl (λx D=>?_) (by rw[Dh e1];exact h.ti.hb _ _ m) (h.ti.cU _ _ m).1) n rfl rfl rfl rfl rfl rfl rfl rfl,n⟩;rcases As.1 D with rfl|D;grind[N.rH];exact h.ti.Ci _ _ m x D;trivial;trivial
 cases k with
 |el j=>
  have⟨e,g1,g2⟩:=F;show gN _ (fY pl j σ);unfold fY;split;rename_i z ej m u;split;rename_i E;rw[u]at g1;cases g1;have n:=zO (n:=pl.2) m u E.1;exact⟨h.nodes (h.ti.put m u E.1 (by grind[WG,Aw,N.rH]) (by rw[Dh (An u (g2.elim YA λe=>by grind[aiL]))];exact h.ti.hb _ _ m) (λ_ _=>rfl)) n rfl rfl rfl rfl rfl rfl rfl rfl,n⟩;trivial;trivial
 |tx j=>exact K _ rfl ⟨Q,I⟩ (λ_ h=>by cases h)
 |cm j=>exact K _ rfl (λ_=>I) (λ_ h=>by cases h)
 |dt j=>exact F.elim
theorem Yi{p:Pm}(m:d∈X):∀(ks:List Nd)(σ:N),FI p X σ->(∀k∈ks,KK σ k)->gN (λ_=>FI p X) (rB d ks σ)
 |[],σ,h,_=>h
 |k::r,σ,h,hk=>by
  unfold rB;rw[M.cH];cases he:eE d σ with
  |ok pl σ1=>
   obtain rfl:=jC he;have z:pl.1=d:=by
    unfold eE at he;split at he;grind;cases he
   dsimp only;rw[M.cH];have e:=aeA h (by rw[z];exact(h.xs d m).1) (by grind[Ww,yD.nm,FI.xs]) (hk k (Oo ..));cases hp:xh pl k σ1 with
   |ok u σ2=>
    rw[hp]at e;exact Yi m r σ2 e.1 λx D=>(hk x (io _ D)).nx e.2
   |_=>trivial
  |_=>trivial
theorem aaw{p:Pm}(h:FI p X σ){e:sZ}(u:b≠0)(D:σ.db b=some e)(E:ji e.name=false):(∀k∈e.kids,KK σ k)/\p.H b=[]:=by
 have z:∀k∈e.kids,KK σ k:=λk m=>by
  have:=h.ti.Ci b e D k m;cases k with
  |el j=>
   have⟨ej,g1,g2⟩:=this;rw[cZ u]at g2;exact⟨ej,g1,J5 E g2.1⟩
  |dt j=>exact u this
  |_=>trivial
 refine⟨z,?_⟩;rw[<-h.ti.hb b e D];unfold uI;rw[List.filterMap_eq_nil_iff];intro k m;have:=z k m;cases k with
 |el j=>
  have⟨ej,g1,g2⟩:=this;grind[An,YA,aiL]
 |_=>rfl
theorem VZ{p:Pm}(u:b∈X)(D:d∈X):Tr (FI p X) (handOver b d) (λ_=>FI p X):=λσ h=>by
 have⟨h0,e,g1,g2⟩:=h.xs b u;have⟨k1,k2⟩:=aaw h h0 g1 g2;unfold handOver;rw[g1];dsimp only;split;trivial;refine Tr.bind (R:=λ_=>FI p X) (λs F=>by grind[Yi]) (λ_ σ' k=>?_) σ rfl;split;rename_i z m;exact k.nodes (k.ti.set m rfl (λ_ E=>by grind) k2.symm (k.ti.cU _ _ m).1) (Nx.set m rfl) rfl rfl rfl rfl rfl rfl rfl rfl;trivial
def AF(f n:Nat)(σ:N):Prop:=∃A B,σ.cC=A++some f::B/\A.length<n/\∀x∈B,∃i,x=some i/\yD σ i
def acD{e e':O}(h:IV p (l1++e::l2))(m:ji e=false)(k:ji e'=false):IV p (l1++e'::l2):=by
 rw[qZ]at h|-;refine⟨h.1,Ti h.2.1 m (.inl k),?_⟩;cases l2 with
 |nil=>trivial
 |cons b l3=>exact⟨⟨WH (xe m h.2.2.1.1 h.2.2.1.2) e',h.2.2.1.2⟩,h.2.2.2⟩
theorem ak0{B:gZ}(h:∀x∈B,∃i,x=some i/\yD σ i):∀x∈B,ji (σ.jg x)=false:=λx k=>by
 obtain⟨i,rfl,_,e,m,u⟩:=h x k;show ji (σ.nm i)=false;grind[N.nm]
theorem Xb{l:gZ}(h:x∈l):∃A B,l=A++x::B/\kB l x y=A++y::B:=by
 refine⟨l.take (l.idxOf x),l.drop (l.idxOf x+1),?_,?_⟩;grind[List.take_append_drop,List.drop_eq_getElem_cons];grind[List.set_eq_take_append_cons_drop,kB]
theorem OV{l:gZ}(h:x∈l):∃A B,l=A++x::B/\eu l x y=A++x::y::B:=by
 refine⟨l.take (l.idxOf x),l.drop (l.idxOf x+1),?_,?_⟩;grind[List.take_append_drop,List.drop_eq_getElem_cons];grind[List.take_add_one,eu]
theorem FI.kB{p:Pm}(h:FI p X σ){e:Nat}(u:yD σ e)(k:yD σ j)(E:some j∉σ.cC):FI p X {σ with cC:=kB σ.cC (some e) (some j)}:=by
 by_cases z:some e∈σ.cC;have⟨A,B,e1,e2⟩:=Xb (y:=some j) z;have D:σ.ns=A.map σ.jg++σ.nm e::B.map σ.jg:=by unfold N.ns;rw[e1,lV,oZ];rfl
 have F:=h.nd;rw[e1]at F E;rw[e2];refine h.cC ?_ ?_ (λx m=>?_) ?_;rw[lV,oZ];exact acD (by grind[ch]) u.nm k.nm;rw[lV,oZ,<-h.q,D,List.filter_append,List.filter_append,List.filter_cons,List.filter_cons,u.nm,show ji (σ.jg (some j))=false from k.nm];simp;rcases List.mem_append.1 m with g|g;grind;rcases List.mem_cons.1 g with rfl|g;have⟨h0,e',g1,_⟩:=k;grind;grind;grind;have e1:Go.Proofs.YthnijkkcimlnjaaGreatDoor.kB σ.cC (some e) (some j)=σ.cC:=by unfold Go.Proofs.YthnijkkcimlnjaaGreatDoor.kB;rw[cZ z]
 simp_all
theorem PO{p:Pm}(D:b∈X)(e:j∈X):Tr (λσ=>FI p X σ/\some j∉σ.cC) (kj (some b) (some j)) (λ_=>FI p X):=λσ ⟨h,E⟩=>by
 unfold kj;split;have k:=h.xs b D;have e:=h.xs j e;by_cases u:some b∈σ.cC;have⟨A,B,e1,e2⟩:=OV (y:=some j) u;have z:σ.ns=A.map σ.jg++σ.nm b::B.map σ.jg:=by unfold N.ns;rw[e1,lV,oZ];rfl
 have F:=h.nd;rw[e1]at F E;rw[e2];refine h.cC ?_ ?_ (λx m=>?_) ?_;rw[lV,oZ,oZ];exact Vi (b:=σ.nm b) (by grind[FI.ch]) k.nm e.nm;rw[lV,oZ,oZ,<-h.q,z,List.filter_append,List.filter_append,List.filter_cons,List.filter_cons,List.filter_cons,k.nm,show ji (σ.jg (some b))=false from k.nm,show ji (σ.jg (some j))=false from e.nm];rfl;rcases List.mem_append.1 m with g|g;grind;rcases List.mem_cons.1 g with rfl|g;grind;rcases List.mem_cons.1 g with rfl|g;have⟨h0,e',g1,_⟩:=e;grind;grind;grind;have e1:eu σ.cC (some b) (some j)=σ.cC:=by unfold eu;rw[cZ u]
 rw[e1];exact h;trivial
theorem AF.nx(h:AF f n σ)(x:Nx σ σ')(e:σ'.cC=σ.cC):AF f n σ':=by
 have⟨A,B,h1,h2,h3⟩:=h;exact⟨A,B,by grind,h2,λy k=>by grind[yD.nx]⟩
theorem AF.erase{e:Nat}(h:AF f n σ)(k:e≠f):AF f n {σ with cC:=σ.cC.erase (some e)}:=by
 have m:∀{i},yD σ i->yD {σ with cC:=σ.cC.erase (some e)} i:=λg=>g;grind[AF]
theorem aeH{A B:gZ}{f:eG}(u:x≠f):∃e h,kB (A++f::B) x y=e++f::h/\e.length=A.length/\∀z∈h,z∈B\/z=y:=by
 unfold kB;by_cases m:x∈A++f::B;rw[dd m];by_cases k:x∈A;grind;refine⟨A,B.set (B.idxOf x) y,?_,rfl,λz D=>?_⟩;rw[List.idxOf_append,cZ k,show(f::B).idxOf x=B.idxOf x+1 by grind,List.set_append_right _ _ (by omega),show B.idxOf x+1+A.length-A.length=B.idxOf x+1 by omega];rfl;grind;grind
theorem AF.kB{e:Nat}(h:AF f n σ)(k:e≠f)(m:yD σ j):AF f n {σ with cC:=kB σ.cC (some e) (some j)}:=by
 have⟨A,B,h1,h2,h3⟩:=h;have⟨A',B',g1,g2,g3⟩:=aeH (A:=A) (B:=B) (y:=some j) (λg=>k (je g));refine⟨A',B',by grind,by omega,λy u=>?_⟩;rcases g3 y u with g|rfl;have⟨i,k1,k2⟩:=h3 y g;exact⟨i,k1,k2⟩;exact⟨j,rfl,m⟩
def Ra(p:Pm)(X:List Nat)(f n:Nat)(σ:N):Prop:=FI p X σ/\AF f n σ
theorem AF.e(h:AF f (n+1) σ){e:Nat}(k:dA σ.cC (n:Int)=some e):e=f\/(yD σ e/\AF f n σ):=by
 have⟨A,B,h1,h2,h3⟩:=h;rw[nY,gG,h1]at k;by_cases z:n=A.length;grind;right;rw[afu (by omega)]at k;obtain⟨m,u⟩:∃m,n-A.length=m+1:=⟨n-A.length-1,by omega⟩;rw[u,List.getElem?_cons_succ]at k;cases hb:B[m]? with
 |none=>grind
 |some y=>
  rw[hb]at k;have⟨i,g1,g2⟩:=h3 y (qQ hb);grind[AF]
def Tr.EN{α:Type}{p:Pm}{d8:List Nat}{m:M α}(h:Tr (FI p X) m (λ_=>FI p d8))(z:∀σ a σ',m σ=.ok a σ'->Nx σ σ'/\σ'.cC=σ.cC):Tr (Ra p X f n) m (λ_=>Ra p d8 f n):=λσ ⟨k,u⟩=>by
 have e:=h σ k;cases hm:m σ with
 |ok a σ'=>
  rw[hm]at e;have⟨g1,g2⟩:=z σ a σ' hm;exact⟨e,u.nx g1 g2⟩
 |_=>trivial
theorem Q4{a:Unit}(h:gv x σ=.ok a σ'):Nx σ σ'/\σ'.cC=σ.cC:=by
 grind[Nx.same,gv]
theorem afR{a:Unit}(h:lE x y σ=.ok a σ'):Nx σ σ'/\σ'.cC=σ.cC:=by
 grind[Nx.same,lE]
theorem U5(h:fD i σ=.ok j σ'):Nx σ σ'/\σ'.cC=σ.cC:=by
 unfold fD at h;split at h;split at h;cases h;cases h;exact⟨Nx.add,rfl⟩;grind
theorem abt{a:Unit}(h:iC j σ=.ok a σ'):Nx σ σ'/\σ'.cC=σ.cC:=by
 unfold iC at h;cases h1:σ.db j with
 |none=>grind
 |some ej=>
  rw[h1]at h;dsimp only at h;cases hp:ej.ff with
  |none=>grind[Nx]
  |some q=>
   rw[hp]at h;dsimp only at h;cases e:σ.db q with
   |none=>grind
   |some ep=>
    rw[e]at h;dsimp only at h;split at h;rename_i k;cases h;exact⟨Nx.trans (b:=σ.dh q {ep with kids:=ep.kids.eraseIdx (lO ep.kids (Nd.de j)).toNat}) (Nx.set e rfl) (Nx.set (e0:=ej) (by grind[N.dY]) rfl),rfl⟩;grind
theorem PY{a:Unit}(h:fY pl j σ=.ok a σ'):Nx σ σ'/\σ'.cC=σ.cC:=by
 unfold fY at h;split at h;rename_i u ej e k;split at h;rename_i m;cases h;exact⟨zO e k m.1,rfl⟩;grind;grind
theorem Fb{p:Pm}{du:Nat}:∀(n c last z:Nat)(X:List Nat),last∈X->Tr (λσ=>FI p X σ/\(n=0\/AF f n σ)) (iQ f du n c last z) (λr σ=>FI p (r.1::X) σ)
 |0,c,last,z,X,hl=>Tr.pure λσ h=>h.1.cons (h.1.xs _ hl)
 |n+1,c,last,z,X,hl=>by
  unfold iQ;refine Tr.bind (R:=λe σ=>(e=f/\FI p X σ)\/(e≠f/\FI p (e::X) σ/\AF f n σ)) (λσ ⟨h,ha⟩=>?_) λe=>?_;have ha:=ha.resolve_left (by omega);unfold zM;split;rename_i e K;by_cases m:e=f;exact .inl ⟨m,h⟩;have⟨g1,g2⟩:=(ha.e K).resolve_left m;exact .inr ⟨m,h.cons g1,g2⟩;trivial;by_cases m:e=f;grind[Tr.pure,FI.cons,FI.xs];rw[cZ m];refine Tr.bind (R:=λ_=>Ra p (e::X) f n) (Tr.cons (P:=Ra p (e::X) f n) (Tr.ite (λ_=>Tr.EN (wQ _ p (e::X)) λ_ _ _ h=>Q4 h) λ_=>Tr.pure λ_ h=>h) (λσ h=>?_) λ_ _ h=>h) λ_ σ h=>?_;grind[Ra];by_cases F:some e∉σ.act;rw[dd F];have E:Tr (Ra p (e::X) f n) (fB (some e)) (λ_=>Ra p (e::X) f n):=λσ ⟨h,ha⟩=>by
   unfold fB;split;exact⟨h.erase λ_=>h.xs e (Oo ..),ha.erase m⟩;trivial
  exact Tr.bind E (λ_=>Tr.cons (Fb n _ _ _ (e::X) (io _ hl)) (λ_ h=>⟨h.1,.inr h.2⟩) λr _ h=>h.sub λi Q=>by
   grind) σ h
  rw[cZ F];have E:Tr (Ra p (e::X) f n) (fD e) (λk σ=>Ra p (k::e::X) f n σ/\some k∉σ.cC):=λσ ⟨h,ha⟩=>by
   have D:=Bi (p:=p) (X:=e::X) (i:=e) (Oo ..) σ h;cases hm2:fD e σ with
   |ok j σ'=>
    rw[hm2]at D;have⟨g1,g2⟩:=U5 hm2;exact⟨⟨D.1,ha.nx g1 g2⟩,D.2⟩
   |_=>trivial
  have s2:∀k,Tr (λσ=>Ra p (k::e::X) f n σ/\some k∉σ.cC) (tU (some e) (some k)) (λ_=>Ra p (k::e::X) f n):=λk σ ⟨⟨h,ha⟩,hx⟩=>by
   unfold tU;split;exact⟨h.kB (h.xs e (by simp)) (h.xs k (by simp)) hx,ha.kB m (h.xs k (by simp))⟩;trivial
  have s3:∀k,Tr (Ra p (k::e::X) f n) (eE k) (λpl σ=>Ra p (k::e::X) f n σ/\pl.1≠0/\gL (σ.nm pl.1)=false):=λk σ ⟨h,ha⟩=>by
   unfold eE;split;exact⟨⟨h,ha⟩,(h.xs k (Oo ..)).1,Ww (h.xs k (Oo ..)).nm⟩;trivial
  have s4:∀k (pl:Nat×Nat),Tr (λσ=>Ra p (k::e::X) f n σ/\pl.1≠0/\gL (σ.nm pl.1)=false) (fY pl last) (λ_=>Ra p (k::e::X) f n):=λk pl σ ⟨⟨h,ha⟩,I,T⟩=>by
   have D:=Ax (j:=last) (h.f0 (io _ (io _ hl))) h I T;cases hm2:fY pl last σ with
   |ok u σ'=>
    rw[hm2]at D;have⟨g1,g2⟩:=PY hm2;exact⟨D.1,ha.nx g1 g2⟩
   |_=>trivial
  exact Tr.bind E (λk=>Tr.bind (s2 k) λ_=>Tr.bind (Tr.EN (d8:=k::e::X) (λσ h=>XR h _ (h.xs k (Oo ..))) λ_ _ _ h=>afR h) λ_=>Tr.bind (Tr.EN (Og (io _ (io _ hl))) λ_ _ _ h=>abt h) λ_=>Tr.bind (s3 k) λpl=>Tr.bind (s4 k pl) λ_=>Tr.cons (Fb n _ _ _ (k::e::X) (Oo ..)) (λ_ h=>⟨h.1,.inr h.2⟩) λr _ h=>h.sub λi Q=>by
   grind) σ h
end
end Go.Proofs.YthnijkkcimlnjaaGreatDoor
