import Derived.Test.YtlhhgenpcjjajaaGreatDoorGvC
set_option linter.unusedSimpArgs false
set_option linter.unusedVariables false
set_option linter.defProp false
set_option maxHeartbeats 0
set_option maxRecDepth 100000
namespace Go.Proofs.YtlhhgenpcjjajaaGreatDoor
open Go.RowKit Go.PlainAid Tryz
def MQ:=@Lib.size_eq
def CG:=@Eq.trans
def zB:=@List.head?_eq_getElem?
def Cz:=@List.take_sublist
def Fe:=@List.mem_erase_of_ne
def RZ:=@List.getElem?_of_mem
section
variable {Q : Unit->Ab->Prop} {R : RC} {a o xs ys : j5} {b bg c c' f i j m n pf ps : Nat} {e : Al} {ks : List Nd} {pl : Nat×Nat} {r : Nat->Nat} {s : fN} {w : fO} {x y z : iM} {σ σ' : Ab}
def di (R:RC) (ps:Nat):Bool:=decide (ps < R.cs.size)&&iV ⟨#[63]⟩ (bt R.cs ps)
def rX (R:RC) (look:fN->Option fN) (lg bg ps:Nat):zG:=
 if zM R ps=true then sA R .RY (xh R ps) (lf R look lg [] (xP R ps))
 else if pre (R.cs.extract ps R.cs.size) rn=true then lL R look lg bg (ps+1)
 else if pre (R.cs.extract ps R.cs.size) jF=true then .tok (.TJ (nF (nI R (ps+3)))) (mY R (ps+3))
 else if vy R gM ps=true then .tok (.cj (Pg R (ps+8)) (dd R (ps+8))) (pF R (Fl R (ps+8)))
 else if pre (R.cs.extract ps R.cs.size) A4=true then .tok (.TJ (nF (R.cs.extract (ps+1) (scan (iV ir) R.cs (ps+1))))) (pF R (ps+1))
 else if di R ps=true then .tok (.TJ (nF (R.cs.extract ps (scan (iV ir) R.cs ps)))) (pF R ps)
 else tq R look lg bg
theorem Rq (h:vy R s ps=true) (d:ps<=R.cs.size):ps+s.size<=R.cs.size:=by
 unfold vy at h;grind
theorem QF (r:Nat) (R:RC) (bg ps:Nat) (w:fO) (h:Rd w r R bg ps) (l:ps<=R.cs.size) (p:R.cs.size<=1024):
  Calls prog 161 #[fW r,.func (.func 260) #[] #[fW w.heap.size]] (w.alloc (.cells #[fR ⟨#[63]⟩] 9))
   λe d=>e=gO (.bool (di R ps))/\Kept [r] w d/\Rd d r R bg ps:=by
 have q:=iB h;have k:Kept [] w (w.alloc (.cells #[fR ⟨#[63]⟩] 9)):=(Kept.refl _ _).alloc _;have b:=fB w (.cells #[fR ⟨#[63]⟩] 9);refine(Hs r R bg ps _ _ _ _ (k.at h (by simp)) l p (Dm _ [r] w.heap.size ⟨#[63]⟩ (by simp) (by simp) (by grind))).mono ?_;rintro e d ⟨g,n,rfl⟩;exact⟨g,(k.mono (by simp)).drewN n,k.at h (by simp)⟩
def aeq (r:Nat) (R:RC) (bg ps g B b lg:Nat) (look:fN->Option fN) (d:Nat->Nat) (w:fO) (h:Rd w r R bg ps) (I:Km w r R g B b lg look d) (Y:bg < R.cs.size) (F:ps<=R.cs.size)
  (K:zM R ps=true) (T:zG) (J:sA R .RY (xh R ps) (lf R look lg [] (xP R ps))=T):
  Calls prog 92 #[fW r] w λe W=>lK w r R bg d e W T:=by
 have H:=I;have D:=h;have U:=I.small;have p:=np r R bg ps w h F U;rw[K]at p;cases T with
 |stop=>
  go_enter func92,ntmps92
  go_wp21
  refine p.mono ?_;rintro e X ⟨rfl,q,rfl⟩;have l:=(Kept.refl [r] w).drewN q;have A:Hid (Rd (w.drewN q) r R bg ps):=D;have u:=H.kept l;have C:=JY r R bg ps g B b lg look d (w.drewN q) A u (by omega) F;rw[J]at C
  go_wp21
  refine C.mono ?_;rintro e G ⟨k,rfl,L,N,O⟩;have E:=lK.back (show lK (w.drewN q) r R bg d _ G .stop from⟨k,rfl,L,N,O⟩) l;go_wp2;exact⟨rfl,E⟩
 |tok kd m=>
  go_enter func92,ntmps92
  go_wp21
  refine p.mono ?_;rintro e X ⟨rfl,q,rfl⟩;have l:=(Kept.refl [r] w).drewN q;have A:Hid (Rd (w.drewN q) r R bg ps):=D;have u:=H.kept l;have C:=JY r R bg ps g B b lg look d (w.drewN q) A u (by omega) F;rw[J]at C
  go_wp21
  refine C.mono ?_;rintro e G ⟨⟨v,rfl,V⟩,P,S⟩;have E:=lK.back (show lK (w.drewN q) r R bg d (gO v) G (.tok kd m)from⟨⟨v,rfl,V⟩,P,S⟩) l;go_wp2;go_ret;exact E
def ad2 (r:Nat) (R:RC) (bg ps g E b lg:Nat) (look:fN->Option fN) (d:Nat->Nat) (w:fO) (h:Rd w r R bg ps) (U:Km w r R g E b lg look d) (W:bg < R.cs.size) (J:ps<=R.cs.size)
  (X:zM R ps=false) (c1:pre (R.cs.extract ps R.cs.size) rn=true) (T:zG) (V:lL R look lg bg (ps+1)=T):
  Calls prog 92 #[fW r] w λe w'=>lK w r R bg d e w' T:=by
 have S:=U;have H:=h;have N:=U.small;have u:=np r R bg ps w h J N;rw[X]at u;cases T with
 |stop=>
  go_enter func92,ntmps92
  go_wp21
  refine u.mono ?_;rintro e w1 ⟨rfl,q,rfl⟩;have A:=(Kept.refl [r] w).drewN q;have C:Hid (Rd (w.drewN q) r R bg ps):=H;have l:=jb r R bg ps rn (w.drewN q) C J N (by decide);have O:taken R rn ps=ps+1:=by unfold taken;rw[fU c1];rfl
  rw[c1,O]at l
  go_wp21
  refine l.mono ?_;rintro e F ⟨rfl,I,K⟩;have p:=A.trans I;have D:Hid (Rd F r R bg (ps+1)):=K;have B:=S.kept p;have G:=B8 r R bg (ps+1) g E b lg look d F D B W (kQ c1 J);rw[V]at G
  go_wp21
  refine G.mono ?_;rintro e P ⟨k,rfl,Y,Z,h4⟩;have L:=lK.back (show lK F r R bg d _ P .stop from⟨k,rfl,Y,Z,h4⟩) p;go_wp2;exact⟨rfl,L⟩
 |tok kd m=>
  go_enter func92,ntmps92
  go_wp21
  refine u.mono ?_;rintro e w1 ⟨rfl,q,rfl⟩;have A:=(Kept.refl [r] w).drewN q;have C:Hid (Rd (w.drewN q) r R bg ps):=H;have l:=jb r R bg ps rn (w.drewN q) C J N (by decide);have O:taken R rn ps=ps+1:=by unfold taken;rw[fU c1];rfl
  rw[c1,O]at l
  go_wp21
  refine l.mono ?_;rintro e F ⟨rfl,I,K⟩;have p:=A.trans I;have D:Hid (Rd F r R bg (ps+1)):=K;have B:=S.kept p;have G:=B8 r R bg (ps+1) g E b lg look d F D B W (kQ c1 J);rw[V]at G
  go_wp21
  refine G.mono ?_;rintro e P ⟨⟨v,rfl,hv⟩,I,K⟩;have L:=lK.back (show lK F r R bg d (gO v) P (.tok kd m)from⟨⟨v,rfl,hv⟩,I,K⟩) p;go_wp2;go_ret;exact L
def ad4 (r:Nat) (R:RC) (bg ps g A b lg:Nat) (look:fN->Option fN) (d:Nat->Nat) (w:fO) (h:Rd w r R bg ps) (O:Km w r R g A b lg look d) (Z:bg < R.cs.size) (C:ps<=R.cs.size)
  (V:zM R ps=false) (c1:pre (R.cs.extract ps R.cs.size) rn=false) (c2:pre (R.cs.extract ps R.cs.size) jF=true):
  Calls prog 92 #[fW r] w λe Y=>lK w r R bg d e Y (.tok (.TJ (nF (nI R (ps+3)))) (mY R (ps+3))):=by
 have U:=O;have H:=h;have D:=O.small;have p:=np r R bg ps w h C D;rw[V]at p;go_enter func92,ntmps92
 go_wp21
 refine p.mono ?_;rintro e w1 ⟨rfl,q,rfl⟩;have E:=(Kept.refl [r] w).drewN q;have I:Hid (Rd (w.drewN q) r R bg ps):=H;have k:=jb r R bg ps rn (w.drewN q) I C D (by decide);have W:taken R rn ps=ps:=by unfold taken;rw[gn (by simp[c1])]
 rw[c1,W]at k
 go_wp21
 refine k.mono ?_;rintro e P ⟨rfl,B,N⟩;have F:=E.trans B;have J:Hid (Rd P r R bg ps):=N;have l:=jb r R bg ps jF P J C D (by decide);have X:taken R jF ps=ps+3:=by unfold taken;rw[fU c2];rfl
 rw[c2,X]at l
 go_wp21
 refine l.mono ?_;rintro e S ⟨rfl,B,N⟩;have u:=F.trans B;have K:Hid (Rd S r R bg (ps+3)):=N;have v:=U.kept u;have T:=PQ r R bg (ps+3) g A d S K v.fX v.gl (by omega) (kQ c2 C) D
 go_wp21
 refine T.mono ?_;rintro e wz ⟨rfl,B,L⟩;have G:=u.trans B;go_wp2;go_ret;exact⟨⟨_,rfl,rfl⟩,G,L⟩
def adY (r:Nat) (R:RC) (bg ps g C b lg:Nat) (look:fN->Option fN) (k:Nat->Nat) (w:fO) (h:Rd w r R bg ps) (U:Km w r R g C b lg look k) (hb:bg < R.cs.size) (D:ps<=R.cs.size)
  (c0:zM R ps=false) (c1:pre (R.cs.extract ps R.cs.size) rn=false) (c2:pre (R.cs.extract ps R.cs.size) jF=false) (T:vy R gM ps=true):
  Calls prog 92 #[fW r] w λe w'=>lK w r R bg k e w' (.tok (.cj (Pg R (ps+8)) (dd R (ps+8))) (pF R (Fl R (ps+8)))):=by
 have Z:=U;have K:=h;have F:=U.small;have v:=np r R bg ps w h D F;rw[c0]at v;go_enter func92,ntmps92
 go_wp21
 refine v.mono ?_;rintro e w1 ⟨rfl,q,rfl⟩;have G:=(Kept.refl [r] w).drewN q;have L:Hid (Rd (w.drewN q) r R bg ps):=K;have p:=jb r R bg ps rn (w.drewN q) L D F (by decide);have t1:taken R rn ps=ps:=by unfold taken;rw[gn (by simp[c1])]
 rw[c1,t1]at p
 go_wp21
 refine p.mono ?_;rintro e V ⟨rfl,l,E⟩;have H:=G.trans l;have N:Hid (Rd V r R bg ps):=E;have u:=jb r R bg ps jF V N D F (by decide);have t2:taken R jF ps=ps:=by unfold taken;rw[gn (by simp[c2])]
 rw[c2,t2]at u
 go_wp21
 refine u.mono ?_;rintro e W ⟨rfl,l,E⟩;have I:=H.trans l;have O:Hid (Rd W r R bg ps):=E;have d:=xi r R bg ps gM W O D F (by decide);rw[T]at d;simp only[wC]at d
 go_wp21
 refine d.mono ?_;rintro e X ⟨rfl,l,E⟩;have A:=I.trans l;have P:Hid (Rd X r R bg (ps+8)):=E;have B:=Z.kept A;have Y:=La r R bg (ps+8) g C k X P B.fX B.gl (by omega) (Rq T D) F
 go_wp21
 refine Y.mono ?_;rintro e wz ⟨rfl,l,S⟩;have J:=A.trans l;go_wp2;go_ret;exact⟨⟨_,rfl,rfl⟩,J,S⟩
def aeg (r:Nat) (R:RC) (bg ps g G b lg:Nat) (look:fN->Option fN) (l:Nat->Nat) (w:fO) (h:Rd w r R bg ps) (X:Km w r R g G b lg look l) (hb:bg < R.cs.size) (u:ps<=R.cs.size)
  (c0:zM R ps=false) (c1:pre (R.cs.extract ps R.cs.size) rn=false) (c2:pre (R.cs.extract ps R.cs.size) jF=false) (c3:vy R gM ps=false) (W:pre (R.cs.extract ps R.cs.size) A4=true):
  Calls prog 92 #[fW r] w λe w'=>lK w r R bg l e w' (.tok (.TJ (nF (R.cs.extract (ps+1) (scan (iV ir) R.cs (ps+1))))) (pF R (ps+1))):=by
 have HO:=X;have N:=h;have v:=X.small;have D:=np r R bg ps w h u v;rw[c0]at D;go_enter func92,ntmps92
 go_wp21
 refine D.mono ?_;rintro e w1 ⟨rfl,q,rfl⟩;have H:=(Kept.refl [r] w).drewN q;have O:Hid (Rd (w.drewN q) r R bg ps):=N;have A:=jb r R bg ps rn (w.drewN q) O u v (by decide);have t1:taken R rn ps=ps:=by unfold taken;rw[gn (by simp[c1])]
 rw[c1,t1]at A
 go_wp21
 refine A.mono ?_;rintro e Y ⟨rfl,d,p⟩;have I:=H.trans d;have P:Hid (Rd Y r R bg ps):=p;have B:=jb r R bg ps jF Y P u v (by decide);have t2:taken R jF ps=ps:=by unfold taken;rw[gn (by simp[c2])]
 rw[c2,t2]at B
 go_wp21
 refine B.mono ?_;rintro e Z ⟨rfl,d,p⟩;have J:=I.trans d;have S:Hid (Rd Z r R bg ps):=p;have k:=xi r R bg ps gM Z S u v (by decide);rw[c3]at k;simp only[rL,wA]at k
 go_wp21
 refine k.mono ?_;rintro e w4 ⟨rfl,d,p⟩;have K:=J.trans d;have T:Hid (Rd w4 r R bg ps):=p;have C:=jb r R bg ps A4 w4 T u v (by decide);have t4:taken R A4 ps=ps+1:=by unfold taken;rw[fU W];rfl
 rw[W,t4]at C
 go_wp21
 refine C.mono ?_;rintro e w5 ⟨rfl,d,p⟩;have E:=K.trans d;have U:Hid (Rd w5 r R bg (ps+1)):=p;have F:=HO.kept E;have CC:=uu r R bg (ps+1) g G l w5 U F.fX F.gl (by omega) (kQ W u) v
 go_wp21
 refine CC.mono ?_;rintro e wz ⟨rfl,d,V⟩;have L:=E.trans d;go_wp2;go_ret;exact⟨⟨_,rfl,rfl⟩,L,V⟩
def adK (r:Nat) (R:RC) (bg ps g H b lg:Nat) (look:fN->Option fN) (p:Nat->Nat) (w:fO) (h:Rd w r R bg ps) (hO:Km w r R g H b lg look p) (hb:bg < R.cs.size) (u:ps<=R.cs.size)
  (c0:zM R ps=false) (c1:pre (R.cs.extract ps R.cs.size) rn=false) (c2:pre (R.cs.extract ps R.cs.size) jF=false) (c3:vy R gM ps=false) (Z:pre (R.cs.extract ps R.cs.size) A4=false) (c5:di R ps=true):
  Calls prog 92 #[fW r] w λe w'=>lK w r R bg p e w' (.tok (.TJ (nF (R.cs.extract ps (scan (iV ir) R.cs ps)))) (pF R ps)):=by
 have HO:=hO;have P:=h;have v:=hO.small;have E:=np r R bg ps w h u v;rw[c0]at E;go_enter func92,ntmps92
 go_wp21
 refine E.mono ?_;rintro e w1 ⟨rfl,q,rfl⟩;have I:=(Kept.refl [r] w).drewN q;have S:Hid (Rd (w.drewN q) r R bg ps):=P;have A:=jb r R bg ps rn (w.drewN q) S u v (by decide);have t1:taken R rn ps=ps:=by unfold taken;rw[gn (by simp[c1])]
 rw[c1,t1]at A
 go_wp21
 refine A.mono ?_;rintro e w2 ⟨rfl,d,k⟩;have J:=I.trans d;have T:Hid (Rd w2 r R bg ps):=k;have B:=jb r R bg ps jF w2 T u v (by decide);have t2:taken R jF ps=ps:=by unfold taken;rw[gn (by simp[c2])]
 rw[c2,t2]at B
 go_wp21
 refine B.mono ?_;rintro e w3 ⟨rfl,d,k⟩;have K:=J.trans d;have U:Hid (Rd w3 r R bg ps):=k;have l:=xi r R bg ps gM w3 U u v (by decide);rw[c3]at l;simp only[rL,wA]at l
 go_wp21
 refine l.mono ?_;rintro e w4 ⟨rfl,d,k⟩;have L:=K.trans d;have V:Hid (Rd w4 r R bg ps):=k;have C:=jb r R bg ps A4 w4 V u v (by decide);have t4:taken R A4 ps=ps:=by unfold taken;rw[gn (by simp[Z])]
 rw[Z,t4]at C
 go_wp21
 refine C.mono ?_;rintro e w5 ⟨rfl,d,k⟩;have N:=L.trans d;have W:Hid (Rd w5 r R bg ps):=k
 go_wp21
 refine(nQ _ _).mono ?_;rintro e wq ⟨rfl,rfl⟩;have D:=QF r R bg ps w5 W u v;rw[c5]at D
 go_wp21
 refine D.mono ?_;rintro e w6 ⟨rfl,d,k⟩;have F:=N.trans d;have X:Hid (Rd w6 r R bg ps):=k;have G:=HO.kept F;have CC:=uu r R bg ps g H p w6 X G.fX G.gl (by omega) u v
 go_wp21
 refine CC.mono ?_;rintro e wz ⟨rfl,d,Y⟩;have O:=F.trans d;go_wp2;go_ret;exact⟨⟨_,rfl,rfl⟩,O,Y⟩
def aes (r:Nat) (R:RC) (bg ps g H b lg:Nat) (look:fN->Option fN) (d:Nat->Nat) (w:fO) (h:Rd w r R bg ps) (Y:Km w r R g H b lg look d) (hb:bg < R.cs.size) (v:ps<=R.cs.size)
  (c0:zM R ps=false) (c1:pre (R.cs.extract ps R.cs.size) rn=false) (c2:pre (R.cs.extract ps R.cs.size) jF=false) (c3:vy R gM ps=false) (X:pre (R.cs.extract ps R.cs.size) A4=false) (c5:di R ps=false):
  Calls prog 92 #[fW r] w λe w'=>lK w r R bg d e w' (tq R look lg bg):=by
 have HO:=Y;have O:=h;have u:=Y.small;have E:=np r R bg ps w h v u;rw[c0]at E;go_enter func92,ntmps92
 go_wp21
 refine E.mono ?_;rintro e w1 ⟨rfl,q,rfl⟩;have I:=(Kept.refl [r] w).drewN q;have P:Hid (Rd (w.drewN q) r R bg ps):=O;have A:=jb r R bg ps rn (w.drewN q) P v u (by decide);have t1:taken R rn ps=ps:=by unfold taken;rw[gn (by simp[c1])]
 rw[c1,t1]at A
 go_wp21
 refine A.mono ?_;rintro e Z ⟨rfl,k,l⟩;have J:=I.trans k;have S:Hid (Rd Z r R bg ps):=l;have B:=jb r R bg ps jF Z S v u (by decide);have t2:taken R jF ps=ps:=by unfold taken;rw[gn (by simp[c2])]
 rw[c2,t2]at B
 go_wp21
 refine B.mono ?_;rintro e w3 ⟨rfl,k,l⟩;have K:=J.trans k;have T:Hid (Rd w3 r R bg ps):=l;have p:=xi r R bg ps gM w3 T v u (by decide);rw[c3]at p;simp only[rL,wA]at p
 go_wp21
 refine p.mono ?_;rintro e w4 ⟨rfl,k,l⟩;have L:=K.trans k;have U:Hid (Rd w4 r R bg ps):=l;have C:=jb r R bg ps A4 w4 U v u (by decide);have t4:taken R A4 ps=ps:=by unfold taken;rw[gn (by simp[X])]
 rw[X,t4]at C
 go_wp21
 refine C.mono ?_;rintro e w5 ⟨rfl,k,l⟩;have N:=L.trans k;have V:Hid (Rd w5 r R bg ps):=l
 go_wp21
 refine(nQ _ _).mono ?_;rintro e wq ⟨rfl,rfl⟩;have D:=QF r R bg ps w5 V v u;rw[c5]at D
 go_wp21
 refine D.mono ?_;rintro e w6 ⟨rfl,k,l⟩;have F:=N.trans k;have W:Hid (Rd w6 r R bg ps):=l;have G:=HO.kept F;have CC:=DM r R bg ps g H b lg look d w6 W G.fX G.Ww hb u
 go_wp21
 refine CC.mono ?_;rintro e wz ⟨rfl,k,l⟩;have HF:=(show lK w r R bg d (gO (.iface 188 (.agg #[fK (d bg),fK (d (bg+oO look lg (R.cs.extract bg R.cs.size))),fR (qD look lg (R.cs.extract bg R.cs.size))]))) wz (tq R look lg bg)from⟨⟨_,rfl,rfl⟩,F.trans k,l⟩);go_wp2;go_ret;exact HF
def Ng (r:Nat) (R:RC) (bg ps g k b lg:Nat) (look:fN->Option fN) (d:Nat->Nat) (w:fO) (h:Rd w r R bg ps) (l:Km w r R g k b lg look d) (p:bg < R.cs.size) (q:ps<=R.cs.size):
  Calls prog 92 #[fW r] w λe u=>lK w r R bg d e u (rX R look lg bg ps):=by
 unfold rX;cases c0:zM R ps
 .rw[gn (by simp)];cases c1:pre (R.cs.extract ps R.cs.size) rn
  .rw[gn (by simp)];cases c2:pre (R.cs.extract ps R.cs.size) jF
   .rw[gn (by simp)];cases c3:vy R gM ps
    .rw[gn (by simp)];cases c4:pre (R.cs.extract ps R.cs.size) A4
     .rw[gn (by simp)];cases c5:di R ps
      .rw[gn (by simp)];exact aes r R bg ps g k b lg look d w h l p q c0 c1 c2 c3 c4 c5
      .rw[fU rfl];exact adK r R bg ps g k b lg look d w h l p q c0 c1 c2 c3 c4 c5
     .rw[fU rfl];exact aeg r R bg ps g k b lg look d w h l p q c0 c1 c2 c3 c4
    .rw[fU rfl];exact adY r R bg ps g k b lg look d w h l p q c0 c1 c2 c3
   .rw[fU rfl];exact ad4 r R bg ps g k b lg look d w h l p q c0 c1 c2
  .rw[fU rfl];exact ad2 r R bg ps g k b lg look d w h l p q c0 c1 _ rfl
 .rw[fU rfl];exact aeq r R bg ps g k b lg look d w h l p q c0 _ rfl
def xe (t:fN):fN:=⟨(Lib.trimPrefix t.data.toList [60,47]).toArray⟩
def Li (t:fN):Bool:=Lib.hasPrefix t.data.toList [60,47]
theorem G9 (t:fN):(xe t).size<=t.size:=by
 have e1:t.size=t.data.toList.length:=MQ t;have e2:(xe t).size=(Lib.trimPrefix t.data.toList [60,47]).length:=by
  rw[MQ];simp[xe]
 rw[e1,e2];unfold Lib.trimPrefix
 grind
def MW (R:RC) (nm:fN) (ps:Nat):Bool:=
 Li (R.cs.extract ps R.cs.size)&&decide (nm.size < (xe (R.cs.extract ps R.cs.size)).size)&&((small ((xe (R.cs.extract ps R.cs.size)).extract 0 nm.size)).toList==nm.toList)&&iV iU (bt (xe (R.cs.extract ps R.cs.size)) nm.size)
def Gj (v:gh) (W:fO):Prop:=∃b,v= .func (.func 260) #[] #[fW b]/\b < W.heap.size/\W.cell? ⟨b,0,none⟩=some (fR iU)
def Gj.k {v : gh} {W d : fO} (h:Gj v W) (g:Kept [] W d):Gj v d:=by
 have⟨b,h1,h2,h3⟩:=h;exact⟨b,h1,lz h2 g.size,(g.cell (p:=⟨b,0,none⟩) h2 (by simp)).trans h3⟩
def Gj.new (W:fO):Gj (.func (.func 260) #[] #[fW W.heap.size]) (W.alloc (.cells #[fR iU] 9)):=by
 simp[Gj]
def adS (r:Nat) (R:RC) (bg ps:Nat) (nm:fN) (w:fO) (h:Rd w r R bg ps) (H:ps<=R.cs.size) (I:R.cs.size<=1024) (D:Li (R.cs.extract ps R.cs.size)=false):
  Calls prog 156 #[fW r,fR nm] w λe E=>e=gO (.bool false)/\Kept [] w E:=by
 have v:=fx (wm r R bg ps w h H I);have K:=G9 (R.cs.extract ps R.cs.size);have k:(R.cs.extract ps R.cs.size).size=R.cs.size - ps:=by simp
 rw[k]at K;clear h k;generalize R.cs.extract ps R.cs.size=t at *;have l:=fx (λw=>Tryz.strings_CutPrefix t pH w);simp only at l;rw[show(⟨(Lib.trimPrefix t.data.toList [60,47]).toArray⟩:fN)=xe t from rfl,show Lib.hasPrefix t.data.toList [60,47]=Li t from rfl]at l;generalize xe t=s at *;rw[D]at l;obtain⟨u,J⟩:∃u:fN,u=⟨#[]⟩:=⟨_,rfl⟩;obtain⟨c,C⟩:∃c:Int,c=0:=⟨_,rfl⟩;clear D J C;go_enter func156,ntmps156
 go_wp21
 refine v.out.mono ?_;rintro e O ⟨rfl,q,rfl⟩
 go_wp21
 refine(l.out _).mono ?_;rintro e E ⟨rfl,rfl⟩
 go_wp21
 refine uN (by rfl) ?_;refine pJ (λ(g:Unit) z=>⟨#[fW r,fR nm,undef,undef,.bool false,fR s,.bool false,fK nm.size,.tuple #[fR s,.bool false],fW r,fR t,.tuple #[fR s,.bool false],fR s,.bool false,fR nm,fK nm.size,cd z 0 (.bool false),cd z 1 (.bool false),undef,undef,undef,undef,cd z 6 (.bool false),cd z 7 (.bool false),undef,undef,undef,undef,undef,undef,cd z 14 (.bool false),cd z 15 (.bool false),undef,undef,undef,undef,undef,cd z 21 (.bool false)],[]⟩) (λg z W=>Kept [] w W) 23 [[],[0],[1],[1],[1],[1],[1],[6],[7],[7],[7],[7],[7],[7],[7],[14],[15],[15],[15],[15],[15],[15],[21]] (()) rfl (by rfl) (((Kept.refl [] w).drewN q).drew) ?_ ?_
 .repeat' first|exact mO|refine mJ ?_ ?_
  all_goals
   rintro g z W p B N;simp[Dd]at B;refine jE rfl ?_;intro L A;simp only[kY,B];go_simp
   first
   |refine A _ _ ⟨g,?_,p⟩
   simp[oG,vC,kY,B]
 .rintro g W p;simp only[vn];have F:=fx p;clear p;rename_i G d;refine d _ _ ?_;clear d G;go_wp2;go_ret;exact⟨rfl,F.out⟩
def aej (r:Nat) (R:RC) (bg ps:Nat) (nm:fN) (w:fO) (h:Rd w r R bg ps) (I:ps<=R.cs.size) (J:R.cs.size<=1024) (D:Li (R.cs.extract ps R.cs.size)=true) (O:¬nm.size < (xe (R.cs.extract ps R.cs.size)).size):
  Calls prog 156 #[fW r,fR nm] w λe E=>e=gO (.bool false)/\Kept [] w E:=by
 have v:=fx (wm r R bg ps w h I J);have L:=G9 (R.cs.extract ps R.cs.size);have k:(R.cs.extract ps R.cs.size).size=R.cs.size - ps:=by simp
 rw[k]at L;clear h k;generalize R.cs.extract ps R.cs.size=t at *;have l:=fx (λw=>Tryz.strings_CutPrefix t pH w);simp only at l;rw[show(⟨(Lib.trimPrefix t.data.toList [60,47]).toArray⟩:fN)=xe t from rfl,show Lib.hasPrefix t.data.toList [60,47]=Li t from rfl]at l;generalize xe t=s at *;rw[D]at l;obtain⟨u,K⟩:∃u:fN,u=⟨#[]⟩:=⟨_,rfl⟩;obtain⟨c,C⟩:∃c:Int,c=0:=⟨_,rfl⟩;have F:=fx (eq_false (show ¬(nm.size:Int) < (s.size:Int) by omega));clear D K C;go_enter func156,ntmps156
 go_wp21
 refine v.out.mono ?_;rintro e S ⟨rfl,q,rfl⟩
 go_wp21
 refine(l.out _).mono ?_;rintro e E ⟨rfl,rfl⟩
 go_wp21
 refine uN (by rfl) ?_;refine pJ (λ(g:Unit) z=>⟨#[fW r,fR nm,undef,undef,.bool false,fR s,.bool true,fK nm.size,.tuple #[fR s,.bool true],fW r,fR t,.tuple #[fR s,.bool true],fR s,.bool true,fR nm,fK nm.size,cd z 0 (.bool true),cd z 1 (.bool true),cd z 2 (fR s),cd z 3 (fK s.size),cd z 4 (fK nm.size),cd z 5 (.bool false),cd z 6 (.bool false),cd z 7 (.bool false),undef,undef,undef,undef,undef,undef,cd z 14 (.bool false),cd z 15 (.bool false),undef,undef,undef,undef,undef,cd z 21 (.bool false)],[]⟩) (λg z W=>Kept [] w W) 23 [[],[0],[1],[1,2],[1],[1,3,4],[1,5],[6],[7],[7],[7],[7],[7],[7],[7],[14],[15],[15],[15],[15],[15],[15],[21]] (()) rfl (by rfl) (((Kept.refl [] w).drewN q).drew) ?_ ?_
 .repeat' first|exact mO|refine mJ ?_ ?_
  all_goals
   rintro g z W p B P;simp[Dd]at B;refine jE rfl ?_;intro N A;simp only[kY,B]
   try simp only[F.out]
   go_simp
   first
   |refine A _ _ ⟨g,?_,p⟩
   simp[oG,vC,kY,B]
 .rintro g W p;simp only[vn];have G:=fx p;clear p;rename_i H d;refine d _ _ ?_;clear d H;go_wp2;go_ret;exact⟨rfl,G.out⟩
def aeG (r:Nat) (R:RC) (bg ps:Nat) (nm:fN) (w:fO) (h:Rd w r R bg ps) (L:ps<=R.cs.size) (N:R.cs.size<=1024) (F:Li (R.cs.extract ps R.cs.size)=true) (V:nm.size < (xe (R.cs.extract ps R.cs.size)).size) (U:((small ((xe (R.cs.extract ps R.cs.size)).extract 0 nm.size)).toList==nm.toList)=false):
  Calls prog 156 #[fW r,fR nm] w λe G=>e=gO (.bool false)/\Kept [] w G:=by
 have A:=fx (wm r R bg ps w h L N);have O:=G9 (R.cs.extract ps R.cs.size);have p:(R.cs.extract ps R.cs.size).size=R.cs.size - ps:=by simp
 rw[p]at O;clear h p;generalize R.cs.extract ps R.cs.size=t at *;have v:=fx (λw=>Tryz.strings_CutPrefix t pH w);simp only at v;rw[show(⟨(Lib.trimPrefix t.data.toList [60,47]).toArray⟩:fN)=xe t from rfl,show Lib.hasPrefix t.data.toList [60,47]=Li t from rfl]at v;generalize xe t=s at *;rw[F]at v;have K:(s.extract 0 nm.size).size=nm.size:=by simp;omega
 have B:=fx (λW=>vS (s.extract 0 nm.size) W (by omega));have H:=fx (eq_true (show(nm.size:Int) < (s.size:Int) by omega));clear K;generalize small (s.extract 0 nm.size)=u at *;obtain⟨c,D⟩:∃c:Int,c=0:=⟨_,rfl⟩;clear F D;go_enter func156,ntmps156
 go_wp21
 refine A.out.mono ?_;rintro e Y ⟨rfl,q,rfl⟩
 go_wp21
 refine(v.out _).mono ?_;rintro e G ⟨rfl,rfl⟩
 go_wp21
 refine uN (by rfl) ?_;refine pJ (λ(g:Unit) z=>⟨#[fW r,fR nm,undef,undef,.bool false,fR s,.bool true,fK nm.size,.tuple #[fR s,.bool true],fW r,fR t,.tuple #[fR s,.bool true],fR s,.bool true,fR nm,fK nm.size,cd z 0 (.bool true),cd z 1 (.bool true),cd z 2 (fR s),cd z 3 (fK s.size),cd z 4 (fK nm.size),cd z 5 (.bool true),cd z 6 (.bool true),cd z 7 (.bool true),cd z 8 (fR s),cd z 9 (fK nm.size),cd z 10 (fR (s.extract 0 nm.size)),cd z 11 (fR u),cd z 12 (fR nm),cd z 13 (.bool false),cd z 14 (.bool false),cd z 15 (.bool false),undef,undef,undef,undef,undef,cd z 21 (.bool false)],[]⟩) (λg z W=>Kept [] w W) 23 [[],[0],[1],[1,2],[1],[1,3,4],[1,5],[6],[7],[7],[7,8,9],[7,10],[7],[7,11,12],[7,13],[14],[15],[15],[15],[15],[15],[15],[21]] (()) rfl (by rfl) (((Kept.refl [] w).drewN q).drew) ?_ ?_
 .repeat' first|exact mO|refine mJ ?_ ?_
  all_goals
   rintro g z W d C X;simp[Dd]at C;refine jE rfl ?_;intro P k;simp only[kY,C]
   try simp only[H.out]
   go_simp
   try (rw[fU (by omega)];go_simp)
   first
   |refine k _ _ ⟨g,?_,d⟩
   |refine(B.out W).mono ?_;rintro T S ⟨rfl,E⟩;refine k _ _ ⟨g,?_,d.trans E⟩
   simp[oG,vC,kY,C]
 .rintro g W d;simp only[vn];have I:=fx d;clear d;rename_i J l;refine l _ _ ?_;clear l J;go_wp2;go_ret;exact⟨rfl,I.out⟩
def aeU (r:Nat) (R:RC) (bg ps:Nat) (nm:fN) (w:fO) (h:Rd w r R bg ps) (Y:ps<=R.cs.size) (Z:R.cs.size<=1024) (K:Li (R.cs.extract ps R.cs.size)=true) (X:nm.size < (xe (R.cs.extract ps R.cs.size)).size) (he:((small ((xe (R.cs.extract ps R.cs.size)).extract 0 nm.size)).toList==nm.toList)=true):
  Calls prog 156 #[fW r,fR nm] w λe L=>e=gO (.bool (iV iU (bt (xe (R.cs.extract ps R.cs.size)) nm.size)))/\Kept [] w L:=by
 have D:=fx (wm r R bg ps w h Y Z);have hz:=G9 (R.cs.extract ps R.cs.size);have v:(R.cs.extract ps R.cs.size).size=R.cs.size - ps:=by simp
 rw[v]at hz;clear h v;generalize R.cs.extract ps R.cs.size=t at *;have B:=fx (λw=>Tryz.strings_CutPrefix t pH w);simp only at B;rw[show(⟨(Lib.trimPrefix t.data.toList [60,47]).toArray⟩:fN)=xe t from rfl,show Lib.hasPrefix t.data.toList [60,47]=Li t from rfl]at B;generalize xe t=s at *;rw[K]at B;have T:(s.extract 0 nm.size).size=nm.size:=by simp;omega
 have E:=fx (λW=>vS (s.extract 0 nm.size) W (by omega));have N:=fx (eq_true (show(nm.size:Int) < (s.size:Int) by omega));clear T;generalize small (s.extract 0 nm.size)=u at *;have hb:=get_bt s nm.size X;have U:=bt_nonneg s nm.size;have V:=bt_le s nm.size;clear K;generalize bt s nm.size=c at *;go_enter func156,ntmps156
 go_wp21
 refine D.out.mono ?_;rintro e w1 ⟨rfl,q,rfl⟩
 go_wp21
 refine(B.out _).mono ?_;rintro e L ⟨rfl,rfl⟩
 go_wp21
 refine uN (by rfl) ?_;refine pJ (λ(g:gh) z=>⟨#[fW r,fR nm,undef,undef,ce z 22 (.bool false) (.bool (iV iU c)),fR s,.bool true,fK nm.size,.tuple #[fR s,.bool true],fW r,fR t,.tuple #[fR s,.bool true],fR s,.bool true,fR nm,fK nm.size,cd z 0 (.bool true),cd z 1 (.bool true),cd z 2 (fR s),cd z 3 (fK s.size),cd z 4 (fK nm.size),cd z 5 (.bool true),cd z 6 (.bool true),cd z 7 (.bool true),cd z 8 (fR s),cd z 9 (fK nm.size),cd z 10 (fR (s.extract 0 nm.size)),cd z 11 (fR u),cd z 12 (fR nm),cd z 13 (.bool true),cd z 14 (.bool true),cd z 15 (.bool true),cd z 16 (g),cd z 17 (fR s),cd z 18 (fK nm.size),cd z 19 (.int .u8 c),cd z 20 (.bool (iV iU c)),cd z 21 (.bool (iV iU c))],[]⟩) (λg z W=>Kept [] w W/\(dn z 16=true->Gj g W)) 23 [[],[0],[1],[1,2],[1],[1,3,4],[1,5],[6],[7],[7],[7,8,9],[7,10],[7],[7,11,12],[7,13],[14],[15],[15],[15],[15,17,18],[15,16,19],[15,20],[21]] (undef) rfl rfl (⟨((Kept.refl [] w).drewN q).drew,λh=>by cases h⟩) ?_ ?_
 .repeat' first|exact mO|refine mJ ?_ ?_
  all_goals
   rintro g z W d C hn;simp[Dd]at C;refine jE rfl ?_;intro K' k;simp only[kY,C]
   try simp only[N.out]
   go_simp
   try (rw[fU (by omega)];go_simp)
   first
   |refine k _ _ ⟨g,?_,d.1,λh=>d.2 (by simpa [oH]using h)⟩
   |refine(E.out W).mono ?_;rintro I H ⟨rfl,A⟩;refine k _ _ ⟨g,?_,d.1.trans A,λh=>(d.2 (by simpa [oH]using h)).k A⟩
   |refine(nQ _ W).mono ?_;rintro I H ⟨rfl,rfl⟩;refine k _ _ ⟨_,?_,d.1.alloc _,λ_=>Gj.new W⟩
   |obtain⟨S,rfl,G,F⟩:=d.2 (by simp[C]);have l:=Dm W [] S _ F G (by simp);have J:=l.fp;go_simp;refine(l.ask c W U V (Kept.refl _ _)).mono ?_;rintro I H ⟨rfl,nq,rfl⟩;refine k _ _ ⟨_,?_,d.1.drewN nq,λh=>(d.2 (by simpa [oH]using h)).k ((Kept.refl [] W).drewN nq)⟩
   simp[oG,vC,kY,U4,ac3,C]
 .rintro g W d;simp only[vn,aab];have O:=fx d.1;clear d;rename_i P p;refine p _ _ ?_;clear p P;go_wp2;go_ret;exact⟨rfl,O.out⟩
def yP (R:RC) (look:fN->Option fN) (lg bg:Nat):zG:=
 if R.Zy=true then .tok (.Y7 (nF (R.cs.extract bg (bg+1)))) (bg+1)
 else .tok (.Y7 (nF (qD look lg (R.cs.extract bg R.cs.size)))) (bg+oO look lg (R.cs.extract bg R.cs.size))
def wh {look : fN->Option fN} {lg : Nat} (h:∀x t,look x=some t->t.size<=16):(qD look lg s).size<=16:=by
 unfold qD;split
 .simp;omega
 .exact xJ h
def J5 (r:Nat) (R:RC) (bg ps l:Nat) (k:fN) (pl:Bool) (d:Nat->Nat) (w:fO) (h:Rd w r R bg ps) (Z:Gl w r) (K:R.Zy=pl) (L:k.size<=1048576) (F:Nat) (S:F=(if pl then 157 else 93))
  (C:Calls prog F #[fW r] w λe D=>e=gO (.agg #[fK (d bg),fK (d l),fR k])/\Kept [r] w D/\Rd D r R bg l):
  Calls prog 90 #[fW r] w λe D=>lK w r R bg d e D (.tok (.Y7 (nF k)) l):=by
 have p:=h.Zy;rw[K]at p;have hr:=iB h;have V:=C;have X:=Z;have G:=(λW (hg:Gl W r)=>yH r k W L hg);generalize nF k=T at *;have a0:∀(P:Fn) (first v:jB) (w:fO),(Instr.makeFunc P first v).run prog w= .ok (.func P first v) w:=λ_ _ _ _=>rfl;cases pl
 all_goals
  simp only[rL,↓reduceIte]at S;subst S;go_enter func90,ntmps90
  go_wp21
  refine V.mono ?_;rintro e q ⟨rfl,g,u⟩;have O:=(Kept.refl [] q).alloc (.cells #[fK (d bg),fK (d l),fR k] 188);have U:=fB q (.cells #[fK (d bg),fK (d l),fR k] 188);have J:q.heap.size≠r:=by have:=iB u;omega
  have H:=G _ (X.kept (g.trans (O.mono (by simp))));have Y:=g.size
  go_wp21
  refine H.mono ?_;rintro e N ⟨rfl,A⟩;have B:=A.at U (by simp);have q0:=fw B 0;have q1:=fw B 1;have q2:=fw B 2;have z2:=fA B 2;dsimp at q0 q1 q2;have KW:Kept [] q N:=O.trans A;have E:Kept [r] w (N.setCell ⟨q.heap.size,2,none⟩ (fR T)):=(g.trans (KW.mono (by simp))).setCell (.inr Y) _;have I:Rd (N.setCell ⟨q.heap.size,2,none⟩ (fR T)) r R bg l:=(u.kept KW (by simp)).qq J _;go_wp2;go_ret;exact⟨⟨_,rfl,rfl⟩,E,I⟩
theorem TC (r:Nat) (R:RC) (bg ps g l b lg:Nat) (look:fN->Option fN) (d:Nat->Nat) (w:fO) (h:Rd w r R bg ps) (k:Km w r R g l b lg look d) (p:bg < R.cs.size):
  Calls prog 90 #[fW r] w λe u=>lK w r R bg d e u (yP R look lg bg):=by
 unfold yP;split
 .rename_i q;exact J5 r R bg ps (bg+1) _ true d w h k.gl q (by have:=k.small;simp;omega) _ rfl (Es r R bg ps g l d w h k.fX p k.small)
 .rename_i q;exact J5 r R bg ps _ _ false d w h k.gl (by grind) (jC (wh k.Ww.lk.short) (by decide)) _ rfl (DM r R bg ps g l b lg look d w h k.fX k.Ww p k.small)
def Vp (r:Nat) (R:RC) (bg ps:Nat) (nm:fN) (w:fO) (h:Rd w r R bg ps) (g:ps<=R.cs.size) (k:R.cs.size<=1024):
  Calls prog 156 #[fW r,fR nm] w λe l=>e=gO (.bool (MW R nm ps))/\Kept [] w l:=by
 unfold MW;cases ho:Li (R.cs.extract ps R.cs.size)
 .exact adS r R bg ps nm w h g k ho
 .by_cases d:nm.size < (xe (R.cs.extract ps R.cs.size)).size
  .rw[uJ d];cases he:((small ((xe (R.cs.extract ps R.cs.size)).extract 0 nm.size)).toList==nm.toList)
   .exact aeG r R bg ps nm w h g k ho d he
   .have:=aeU r R bg ps nm w h g k ho d he
    simpa using this
  .rw[vD d];exact aej r R bg ps nm w h g k ho d
def uh (R:RC) (ps:Nat):RC:={R with mV:=if MW R R.mV ps=true then ⟨#[]⟩else R.mV}
def Rd.setOf {r : Nat} (h:Rd w r R bg ps) (s:fN):Rd (w.setCell ⟨r,7,none⟩ (fR s)) r {R with mV:=s} bg ps:=fI h 7 _
def Km.setOf {r : Nat} {g d lg : Nat} {look : fN->Option fN} {k : Nat->Nat} (h:Km w r R g d b lg look k) (s:fN):Km w r {R with mV:=s} g d b lg look k:=
 ⟨⟨h.fX.av,h.fX.ne,h.fX.lt,h.fX.at_⟩,⟨h.Ww.lk,h.Ww.ne,h.Ww.mv,h.Ww.dj,h.Ww.le⟩,h.gl,h.small⟩
theorem aai (r:Nat) (R:RC) (bg ps:Nat) (w:fO) (h:Rd w r R bg ps) (F:ps<=R.cs.size) (G:R.cs.size<=1024):
  Calls prog 89 #[fW r] w λe v=>e=gO (.bool (!((uh R ps).mV.toList==[])))/\Kept [r] w v/\Rd v r (uh R ps) bg ps:=by
 by_cases l:R.mV=⟨#[]⟩
 .have e1:uh R ps=R:=by
   have⟨cs,av,at_,mv,lg,mV,Zy⟩:=R;simp only at l;subst l;simp[uh]
  rw[e1,l];refine(WG r R bg ps w h l).mono ?_;rintro e v ⟨rfl,d⟩;exact⟨by simp,d.mono (by simp),h.kept d (by simp)⟩
 .have u:(R.mV.toList==[])=false:=by
   cases hq:(R.mV.toList==[])with
   |false=>rfl
   |true=>
    exfalso;apply l;have E:R.mV.toList=[]:=by simpa using hq
    rw[sH]at E;apply kI
    grind
  have o:=h.mV;have K:=iB h;have C:=Vp r R bg ps R.mV w h F G;have A:=h;unfold uh;cases hE:MW R R.mV ps
  .rw[hE]at C;have q:=fx (show(!((if false=true then js else R.mV).toList==[]))=true by simp[u]);have B:Hid (∀W,Rd W r R bg ps->Rd W r {R with mV:=if false=true then ⟨#[]⟩else R.mV} bg ps):=λW h=>h;rw[q.out];go_enter func89,ntmps89
   go_wp21
   refine C.mono ?_;rintro e I ⟨rfl,d⟩;have k:=A.kept d (by simp);have H:=k.mV;have D:=d.mono (S':=[r]) (by simp);go_wp2;go_ret
   simp_all
  .rw[hE]at C;have B:Hid (∀W,Rd W r R bg ps->Rd (W.setCell ⟨r,7,none⟩ (fR js)) r {R with mV:=if true=true then ⟨#[]⟩else R.mV} bg ps):=λW h=>h.setOf _;have q:=fx (show(!((if true=true then js else R.mV).toList==[]))=false by simp);rw[q.out];go_enter func89,ntmps89
   go_wp21
   refine C.mono ?_;rintro e I ⟨rfl,d⟩;have g:=A.kept d (by simp);have H:=g.mV;have J:=g.free 7;have D:=(d.mono (S':=[r]) (by simp)).setCell (p:=⟨r,7,none⟩) (.inl (by simp)) (fR js);have k:=B _ g;go_wp2;go_ret
   simp_all
def ke (R:RC) (look:fN->Option fN) (lg ps:Nat):zG:=
 if ps=R.cs.size then .tok .Xr ps
 else if ((uh R ps).mV.toList==[])=true then (if pre (R.cs.extract ps R.cs.size) pT=true then rX (uh R ps) look lg ps (ps+1)else tq (uh R ps) look lg ps)
 else yP (uh R ps) look lg ps
def AD (R:RC) (ps:Nat):RC:=if ps=R.cs.size then R else uh R ps
def aec (r:Nat) (R:RC) (bg ps g N b lg:Nat) (look:fN->Option fN) (l:Nat->Nat) (w:fO) (h:Rd w r R bg ps) (hO:Km w r R g N b lg look l) (hp:ps<=R.cs.size):
  Calls prog 56 #[fW r] w λe w'=>lK w r (AD R ps) ps l e w' (ke R look lg ps):=by
 have hs:=hO.small;have p2:=h.bg;have p3:=h.ps;have f2:=h.free 2;obtain⟨G,X⟩:∃G,G=w.setCell ⟨r,2,none⟩ (fK ps):=⟨_,rfl⟩;have O:Rd G r R ps ps:=by rw[X];exact h.afp ps
 have I:Kept [r] w G:=by rw[X];exact(Kept.refl _ _).setCell (.inl (by simp)) _
 have HW:=fx X.symm;have HO:=hO.kept I;have CE:=oQ r R ps ps G O;clear h hO X
 by_cases A:ps=R.cs.size
 .have eT:ke R look lg ps= .tok .Xr ps:=by unfold ke;rw[fU A]
  have eR:AD R ps=R:=by unfold AD;rw[fU A]
  rw[eT,eR];have e3:decide (ps=R.cs.size)=true:=by simp[A]
  rw[e3]at CE;have H:=fx CE;clear CE eT e3 A eR;go_enter func56,ntmps56
  go_wp21
  rw[HW.out];refine H.mono ?_;rintro e Y ⟨rfl,q,rfl⟩;have CP:=pN r R ps ps g N l (G.drewN q) (show Rd (G.drewN q) r R ps ps from O) (HO.kept ((Kept.refl [r] G).drewN q)).fX hp hp hs
  go_wp21
  refine CP.mono ?_;rintro e U ⟨rfl,d⟩;have u:=(I.drewN q).trans (d.mono (by simp));have B:Hid (Rd U r R ps ps):=d.at (show Rd (G.drewN q) r R ps ps from O) (by simp);clear d CP;go_wp2;go_ret;exact⟨⟨_,rfl,rfl⟩,u,B⟩
 .have e3:decide (ps=R.cs.size)=false:=by simp[A]
  rw[e3]at CE;have H:=fx CE;clear CE e3;have eR:AD R ps=uh R ps:=by unfold AD;rw[gn A]
  have eT:ke R look lg ps=if ((uh R ps).mV.toList==[])=true then (if pre ((uh R ps).cs.extract ps (uh R ps).cs.size) pT=true then rX (uh R ps) look lg ps (ps+1)else tq (uh R ps) look lg ps)else yP (uh R ps) look lg ps:=by unfold ke;rw[gn A];rfl
  have HI:=(λq=>aai r R ps ps (G.drewN q) (show Rd (G.drewN q) r R ps ps from O) hp hs);have L:Km G r (uh R ps) g N b lg look l:=HO.setOf _;have a0:ps < (uh R ps).cs.size:=by show ps < R.cs.size;omega
  have a3:(uh R ps).cs.size<=1024:=hs;rw[eT,eR];clear eT eR A hp hs HO O;generalize uh R ps=C at *;clear R;have Z:=λY (P:Rd Y r C ps ps)=>jb r C ps ps pT Y P (by omega) a3 (by decide);cases ho:(C.mV.toList==[])
  .rw[ho]at HI;rw[gn (by simp)];have HT:=(λw' h1 P=>TC r C ps ps g N b lg look l w' h1 P a0);generalize yP C look lg ps=T at HT|-;clear ho Z;cases T with
   |stop=>
    go_enter func56,ntmps56
    go_wp21
    rw[HW.out];refine H.mono ?_;rintro e Y ⟨rfl,q,rfl⟩
    go_wp21
    refine(HI q).mono ?_;rintro e U ⟨rfl,d,p⟩;have u:=((Kept.refl [r] G).drewN q).trans d;have B:=fx p;clear d p;have K:=HT U B (L.kept u);have J:=I.trans u
    go_wp21
    refine K.mono ?_;rintro e wz ⟨k,rfl,P,h3,h4⟩;have W:=lK.back (show lK U r C ps l _ wz .stop from⟨k,rfl,P,h3,h4⟩) J;clear P h3 h4 K;go_wp2;exact⟨rfl,W⟩
   |tok kd m=>
    go_enter func56,ntmps56
    go_wp21
    rw[HW.out];refine H.mono ?_;rintro e Y ⟨rfl,q,rfl⟩
    go_wp21
    refine(HI q).mono ?_;rintro e U ⟨rfl,d,p⟩;have u:=((Kept.refl [r] G).drewN q).trans d;have B:=fx p;clear d p;have K:=HT U B (L.kept u);have J:=I.trans u
    go_wp21
    refine K.mono ?_;rintro e wz ⟨⟨v,rfl,hv⟩,hk,hr⟩;have W:=lK.back (show lK U r C ps l (gO v) wz (.tok kd m)from⟨⟨v,rfl,hv⟩,hk,hr⟩) J;clear hv hk hr K;go_wp2;go_ret;exact W
  .rw[ho]at HI;rw[fU rfl];cases hl:pre (C.cs.extract ps C.cs.size) pT
   .rw[gn (by simp)];have S:taken C pT ps=ps:=by unfold taken;rw[gn (by simp[hl])]
    rw[hl,S]at Z;have V:=fx Z;clear Z S hl ho;go_enter func56,ntmps56
    go_wp21
    rw[HW.out];refine H.mono ?_;rintro e Y ⟨rfl,q,rfl⟩
    go_wp21
    refine(HI q).mono ?_;rintro e U ⟨rfl,d,p⟩;have u:=((Kept.refl [r] G).drewN q).trans d;have B:=fx p;clear d p
    go_wp21
    refine(V _ B).mono ?_;rintro e w4 ⟨rfl,E,F⟩;have D:=u.trans E;have K:=DM r C ps ps g N b lg look l w4 F (L.kept D).fX (L.kept D).Ww a0 a3;clear E F
    go_wp21
    refine K.mono ?_;rintro e w5 ⟨rfl,a1,a2⟩;have W:=(show lK w r C ps l (gO (.iface 188 (.agg #[fK (l ps),fK (l (ps+oO look lg (C.cs.extract ps C.cs.size))),fR (qD look lg (C.cs.extract ps C.cs.size))]))) w5 (tq C look lg ps)from⟨⟨_,rfl,rfl⟩,I.trans (D.trans a1),a2⟩);clear a1 a2 K;go_wp2;go_ret;exact W
   .rw[fU rfl];have S:taken C pT ps=ps+1:=by unfold taken;rw[fU hl];rfl
    have a4:ps+1<=C.cs.size:=kQ hl (by omega);rw[hl,S]at Z;have V:=fx Z;have HL:=(λw' h1 P=>Ng r C ps (ps+1) g N b lg look l w' h1 P a0 a4);generalize rX C look lg ps (ps+1)=T at HL|-;clear Z S hl ho;cases T with
    |stop=>
     go_enter func56,ntmps56
     go_wp21
     rw[HW.out];refine H.mono ?_;rintro e Y ⟨rfl,q,rfl⟩
     go_wp21
     refine(HI q).mono ?_;rintro e U ⟨rfl,d,p⟩;have u:=((Kept.refl [r] G).drewN q).trans d;have B:=fx p;clear d p
     go_wp21
     refine(V _ B).mono ?_;rintro e w4 ⟨rfl,E,F⟩;have D:=u.trans E;have K:=HL w4 F (L.kept D);have J:=I.trans D;clear E F
     go_wp21
     refine K.mono ?_;rintro e wz ⟨k,rfl,P,h3,h4⟩;have W:=lK.back (show lK w4 r C ps l _ wz .stop from⟨k,rfl,P,h3,h4⟩) J;clear P h3 h4 K;go_wp2;exact⟨rfl,W⟩
    |tok kd m=>
     go_enter func56,ntmps56
     go_wp21
     rw[HW.out];refine H.mono ?_;rintro e Y ⟨rfl,q,rfl⟩
     go_wp21
     refine(HI q).mono ?_;rintro e U ⟨rfl,d,p⟩;have u:=((Kept.refl [r] G).drewN q).trans d;have B:=fx p;clear d p
     go_wp21
     refine(V _ B).mono ?_;rintro e w4 ⟨rfl,E,F⟩;have D:=u.trans E;have K:=HL w4 F (L.kept D);have J:=I.trans D;clear E F
     go_wp21
     refine K.mono ?_;rintro e wz ⟨⟨v,rfl,hv⟩,hk,hr⟩;have W:=lK.back (show lK w4 r C ps l (gO v) wz (.tok kd m)from⟨⟨v,rfl,hv⟩,hk,hr⟩) J;clear hv hk hr K;go_wp2;go_ret;exact W
def Qr (bs bm d r:Nat) (C:jB) (R:RC) (bg ps:Nat) (l:fO) (k:gh) (g:kZ):Env:={TP bs bm d r C R bg ps l with tv:=k,ta:=g}
def QR (R:RC) (o:fN) (p:Bool):RC:={R with mV:=o,Zy:=p}
def Mm (R:RC) (bg ps:Nat) (o:fN) (p:Bool):((wx R bg ps).setIfInBounds 7 (fR o)).setIfInBounds 8 (.bool p)=wx (QR R o p) bg ps:=rfl
def RF.da {bs bm d r : Nat} {C : jB} {l : fO} {k : gh} {g : kZ} {f : Nat->Nat} (h:RF (Qr bs bm d r C R bg ps l k g) f σ w):Rd w r (QR R σ.mV σ.iA) bg ps:=by
 have⟨L,_,hr⟩:=h;have e:w.heap[r]?=some (fV (((wx R bg ps).setIfInBounds 7 (fR σ.mV)).setIfInBounds 8 (.bool σ.iA)) 165):=hr.rd
 rwa [Mm]at e
theorem RF.Ub {bs bm Y r : Nat} {C : jB} {w0 : fO} {tv : gh} {ta : kZ} {f : Nat->Nat} {w' : fO} (h:RF (Qr bs bm Y r C R bg ps w0 tv ta) f σ w) (T:List TypeId) (p:KT bs T w w') (hT:∀t∈WT,t∈T->t=165) (hM:∀t∈T,t∈K9) {q u : Nat} {o : fN} (hr:Rd w' r (QR R o σ.iA) q u)
  (l:gh) (A:kZ) (W:zD w' l A) (P:A.length<=4096) (Z:Bool) (N:Z=true->∀g,l.ownBlock=some g->w.heap.size<=g) (X:∀g,l.ownBlock=some g->bs<=g):
  RF (Qr bs bm Y r C R q u w' l A) f {σ with fresh:=Z,mV:=o} w':=by
 have⟨L,e,h⟩:=h;have F:∀t∈WT,t≠165->t∉T:=λt ht V U=>V (hT t ht U);have⟨C',hbl,hC⟩:=h.gR;have B:wS bm w w':=by
  have⟨S,hk,hS⟩:=p;exact⟨S,hk,λk h1 h2=>by grind⟩
 have E:∀(b:Nat) (I:Array MapEntry) (H:Nat),w.heap[b]?=some (Obj.map I H)->w'.heap[b]?=some (Obj.map I H):=by
  intro b I H K;have⟨S,hk,hS⟩:=p;have D:b < w.heap.size:=(Array.getElem?_eq_some_iff.1 K).1;refine(hk.block b D λU=>?_).trans K;have⟨⟨c,t,m,J,_⟩,_⟩:=hS b U D;rw[K]at J;cases J
 refine⟨L,e,?_⟩;have d:=QV.move (w:=w) (w':=w') h.env h.fr B E;exact
  {fr:=Fr.refl _
   env:=⟨d.Gp,d.fq,d.spec,d.Wx,d.VV,d.vc⟩
   rY:=h.rY
   rP:=λi nd O=>(h.rP i nd O).kt p (λt ht=>F t (by revert t;decide) (by revert t;decide))
   inj:=h.inj
   xv:=h.xv
   Ak:=h.Ak
   uq:=h.uq
   Ad:=h.Ad
   wf:=⟨h.wf.fQ,h.wf.act,h.wf.head,h.wf.form,h.wf.iJ,h.wf.kids,h.wf.vc⟩
   gR:=⟨C',p.at hbl (F _ (by decide) (by decide)),⟨hC.size,hC.low,hC.fQ,hC.act,hC.head,hC.form,hC.mode,hC.kept,hC.wait,hC.xU,hC.iP,hC.gp,hC.behind⟩⟩
   nM:=p.row h.nM (F _ (by decide) (by decide))
   oE:=p.row h.oE (F _ (by decide) (by decide))
   Cg:=h.Cg
   ve:=h.ve
   Bx:=h.Bx
   nN:=p.row h.nN (F _ (by decide) (by decide))
   BK:=h.BK
   rd:=by
    show w'.heap[r]?=some (.cells (((wx R q u).setIfInBounds 7 (fR o)).setIfInBounds 8 (.bool σ.iA)) _ _);rw[Mm];exact hr
   BH:=by show 7+1 < 9;decide
   tok:=W
   Av:=P
   bz:=jC (jC h.bz h.fr.size) p.size
   bB:=h.bB
   bR:=h.bR
   bN:=h.bN
   yJ:=λh2 i g O hg G=>by
    have J:=N h2 g hg;have h4:g < w.heap.size:=by
     cases hel:σ.gF i with
     |none=>rw[h.Ad i O hel]at G;cases G
     |some el=>
      have h5:=h.rP i (.el el) (Ab.iX hel);exact(h5.2.1.lt g G).2
    omega
   ab:=h.ab
   tb:=X
   Ch:=λv G=>by cases G}
structure eH (a b:Nat) (kd:Int) (T:TypeId) (x:gh):Prop where
 gz:∀w,(Go.method 500 T x "Bytes").run prog w= .ok (436,.agg #[fK a,fK b]) w
 nil:∀w,(nilAhead 500 T x "Bytes").run prog w= .ok (some false) w
 kind:∀w,Calls prog 58 #[.iface T x] w λe w'=>e=gO (fK kd)/\w'=w
def pC (a b:Nat):RV->fZ
 | .Xr=>⟨a,b,.il,[]⟩
 | .Y7 t=>⟨a,b,.jq t,[]⟩
 | .RY nm L=>⟨a,b,.start nm,L⟩
 | .fin nm L=>⟨a,b,.stop nm,L⟩
 | .TJ t=>⟨a,b,.gm t,[]⟩
 | .cj nm q=>⟨a,b,.gP nm q,[]⟩
 | .lost=>⟨a,b,.lost,[]⟩
def uO:RV->Nat
 | .Xr=>0
 | .Y7 _=>1
 | .RY _ _=>2
 | .fin _ _=>3
 | .TJ _=>4
 | .cj _ _=>5
 | .lost=>6
def QH (a b:Int) (n:fN) (x:Option Addr) (m c:Nat) (w:fO):Calls prog 58 #[.iface 196 (.agg #[fK a,fK b,fR n,.slice x m c])] w λe k=>e=gO (fK 2)/\k=w:=by
 have g:=vj;have d:=qG underlying196;go_enter func58,ntmps58;go_wp2;go_ret;simp
def Sq (a b:Int) (n:fN) (x:Option Addr) (m c:Nat) (w:fO):Calls prog 58 #[.iface 197 (.agg #[fK a,fK b,fR n,.slice x m c])] w λe l=>e=gO (fK 3)/\l=w:=by
 have k:=vj;have d:=qg;have g:=qG underlying197;go_enter func58,ntmps58;go_wp2;go_ret;simp
def Vg (a b:Int) (n:fN) (w:fO):Calls prog 58 #[.iface 198 (.agg #[fK a,fK b,fR n])] w λe p=>e=gO (fK 4)/\p=w:=by
 have l:=vj;have d:=qg;have k:=yj;have g:=qG underlying198;go_enter func58,ntmps58;go_wp2;go_ret;simp
def Xk (a b:Int) (n:fN) (q:Bool) (w:fO):Calls prog 58 #[.iface 200 (.agg #[fK a,fK b,fR n,.bool q])] w λe u=>e=gO (fK 5)/\u=w:=by
 have p:=vj;have d:=qg;have l:=yj;have g:=sE;have k:=qG underlying200;go_enter func58,ntmps58;go_wp2;go_ret;simp
def SS (a b:Int) (w:fO):Calls prog 58 #[.iface 190 (.agg #[fK a,fK b])] w λe u=>e=gO (fK 6)/\u=w:=by
 have p:=vj;have d:=qg;have l:=yj;have g:=sE;have k:=vQ;have q:=qG underlying190;go_enter func58,ntmps58;go_wp2;go_ret;simp
theorem Vh.is {base a : Nat} {v : gh} {k : RV} (h:Vh base (a:Int) (b:Int) v w k) (D:(pC a b k).gy.length<=4096):
  ∃T x B,v= .iface T x/\(∀E:Env,E.tv=B->hH E (pC a b k)= .iface T x)/\eH a b (uO k) T x/\(∃y m c,B= .slice y m c)/\zD w B (pC a b k).gy/\(∀g,B.ownBlock=some g->base<=g):=by
 have l:∀g,(iQ).ownBlock=some g->base<=g:=λg A=>by simp[Value.ownBlock]at A
 cases k with
 |Xr=>exact⟨_,_,iQ,h,λ_ _=>rfl,⟨λw=>by kernel_rfl,λw=>by kernel_rfl,λw=>Y3 (TP 0 0 0 0 #[] ⟨⟨#[]⟩,.nilFunc,0,.nilFunc,0,⟨#[]⟩,false⟩ 0 0 w) a b w⟩,⟨_,_,_,rfl⟩,oD _ _ _ _,l⟩
 |Y7 t=>exact⟨_,_,iQ,h,λ_ _=>rfl,⟨λw=>by kernel_rfl,λw=>by kernel_rfl,λw=>Xg (TP 0 0 0 0 #[] ⟨⟨#[]⟩,.nilFunc,0,.nilFunc,0,⟨#[]⟩,false⟩ 0 0 w) a b t w⟩,⟨_,_,_,rfl⟩,oD _ _ _ _,l⟩
 |TJ t=>exact⟨_,_,iQ,h,λ_ _=>rfl,⟨λw=>by kernel_rfl,λw=>by kernel_rfl,λw=>Vg a b t w⟩,⟨_,_,_,rfl⟩,oD _ _ _ _,l⟩
 |cj n q=>exact⟨_,_,iQ,h,λ_ _=>rfl,⟨λw=>by kernel_rfl,λw=>by kernel_rfl,λw=>Xk a b n q w⟩,⟨_,_,_,rfl⟩,oD _ _ _ _,l⟩
 |lost=>exact⟨_,_,iQ,h,λ_ _=>rfl,⟨λw=>by kernel_rfl,λw=>by kernel_rfl,λw=>SS a b w⟩,⟨_,_,_,rfl⟩,oD _ _ _ _,l⟩
 |RY n L=>
  obtain⟨p,u,rfl,d⟩:=h;refine⟨_,_,.slice p L.length u,rfl,λE C=>?_,⟨λw=>by kernel_rfl,λw=>by kernel_rfl,λw=>QH a b n p L.length u w⟩,⟨_,_,_,rfl⟩,jR d (im _),λg A=>(d.lt g A).1⟩
  grind[hH,pC]
 |fin n L=>
  obtain⟨p,u,rfl,d⟩:=h;refine⟨_,_,.slice p L.length u,rfl,λE C=>?_,⟨λw=>by kernel_rfl,λw=>by kernel_rfl,λw=>Sq a b n p L.length u w⟩,⟨_,_,_,rfl⟩,jR d (im _),λg A=>(d.lt g A).1⟩
  grind[hH,pC]
theorem tU {a b : fN} (h:ku a b=true):a=b:=by
 unfold ku at h;have d:a.toList=b.toList:=by simpa using h
 rw[sH,sH]at d;apply kI
 simp_all
def ie:List Nd->List Nat
 |[]=>[]
 | .el j::r=>j::ie r
 | .tx _::r=>ie r
 | .cm _::r=>ie r
 | .dt _::r=>ie r
def qX (a b:List Nd):ie (a++b)=ie a++ie b:=by
 induction a with
 |nil=>rfl
 |cons k r ih=>cases k<;>simp[ie,ih]
def yt:∀{ks:List Nd},j∈ie ks↔Nd.el j∈ks
 |[]=>by simp[ie]
 |k::r=>by cases k<;>simp[ie,yt (ks:=r)]
def Bw (ks:List Nd) (n:Nat) (j:Nat):(ie (ins ks n (.el j))).Perm (j::ie ks):=by
 unfold ins;have h:ie ks=ie (ks.take n)++ie (ks.drop n):=by rw[<-qX,IU]
 rw[qX,qX,h];simp[ie]
theorem Tk (ks:List Nd) (n:Nat) (k:Nd) (d:∀j,k≠ .el j):ie (ins ks n k)=ie ks:=by
 unfold ins;have h:ie ks=ie (ks.take n)++ie (ks.drop n):=by rw[<-qX,IU]
 rw[qX,qX,h];cases k with
 |el j=>grind
 |tx j=>simp[ie]
 |cm j=>simp[ie]
 |dt j=>simp[ie]
theorem U1 (ks:List Nd) (n:Nat) (k:Nd) (d:n<=ks.length):(ins ks n k).length=ks.length+1:=by
 unfold ins;grind
theorem Uo {k x : Nd}:x∈ins ks n k↔x=k\/x∈ks:=by
 unfold ins;have h:x∈ks↔x∈ks.take n\/x∈ks.drop n:=by rw[<-List.mem_append,IU]
 grind
def Uj:Cd->Nat
 | .el e=>e.kids.length
 | .tx s=>s.size
 | .cm _=>0
 | .dt _=>0
def wt (σ:Ab):Nat:=(σ.nodes.map Uj).sum
theorem N3:∀(l:List Nat) (i x y:Nat),l[i]?=some x->(l.set i y).sum+x=l.sum+y
 |[],i,x,y,h=>by simp at h
 |a::l,0,x,y,h=>by grind
 |a::l,i+1,x,y,h=>by
  simp at h;have:=N3 l i x y h
  grind
def YX {n m : Cd} (h:σ.nodes[i]?=some n):((σ.nodes.set i m).map Uj).sum+Uj n=wt σ+Uj m:=by
 unfold wt;rw[List.map_set];exact N3 _ _ _ _ (by simp[h])
def rN {e' : Al} (h:σ.gF i=some e):wt (σ.gE i e')+e.kids.length=wt σ+e'.kids.length:=YX (m:= .el e') (Ab.iX h)
def Y2 (σ:Ab) (nd:Cd):wt (σ.add nd)=wt σ+Uj nd:=by simp[wt,Ab.add]
def EE (σ:Ab) (nd:Cd) (b:Bool):wt (σ.pi nd b)=wt σ+Uj nd:=by simp[wt,Ab.pi]
theorem YW:∀(l:List Nat) (i x:Nat),l[i]?=some x->x<=l.sum
 |[],i,x,h=>by simp at h
 |a::l,0,x,h=>by grind
 |a::l,i+1,x,h=>by
  simp at h;have:=YW l i x h
  grind
def ZJ {n : Cd} (h:σ.nodes[i]?=some n):Uj n<=wt σ:=YW _ i _ (by simp[h])
def Hl (h:σ.gF i=some e):e.kids.length<=wt σ:=ZJ (Ab.iX h)
structure dE (σ:Ab):Prop where
 up:∀i e p,σ.gF i=some e->e.iJ=some p->∃ep,σ.gF p=some ep/\i∈ie ep.kids
 dn:∀i e j,σ.gF i=some e->j∈ie e.kids->∃ej,σ.gF j=some ej/\ej.iJ=some i
 nd:∀i e,σ.gF i=some e->(ie e.kids).Nodup
 kd:∀i e,σ.gF i=some e->∀k∈e.kids,σ.iR k=true
def rk (r:Nat->Nat):iM->Nat
 |some i=>r i
 |none=>0
structure abD (r:Nat->Nat) (σ:Ab):Prop where
 iJ:∀i e p,σ.gF i=some e->e.iJ=some p->r p < r i
 fQ:σ.fQ.Pairwise λx y=>rk r x < rk r y
 hd:∀d h,σ.head=some d->σ.fQ.head?=some (some h)->r h < r d
def ru (s:fN):Bool:=gI [sS,Gk,AG,ib] s
def jA (σ:Ab) (i:Nat) (s:fN):Prop:=∃e,σ.gF i=some e/\e.name=s
structure jn (r:Nat->Nat) (σ:Ab):Prop where
 oq:dE σ
 tD:abD r σ
 fQ:∀x∈σ.fQ,σ.lH x=true
 act:∀i,some i∈σ.act->∃e,σ.gF i=some e/\ru e.name=true
 head:∀d,σ.head=some d->jA σ d ga
 form:∀d,σ.form=some d->jA σ d gZ
 Mn:∀x rest,σ.fQ=x::rest->∃h,x=some h/\jA σ h fy
 ve:σ.fQ.length<=σ.pS
 Ac:σ.act.length<=σ.rq
 Qy:σ.pS<=64
 RW:σ.rq<=32
 vc:(σ.gF 0).isSome=true
def mD (σ:Ab):Prop:=∃r,jn r σ
structure Fx (σ σ':Ab):Prop where
 mode:σ'.mode=σ.mode
 kept:σ'.kept=σ.kept
 head:σ'.head=σ.head
 form:σ'.form=σ.form
 waiting:σ'.waiting=σ.waiting
 xU:σ'.iq=σ.iq
 iP:σ'.iP=σ.iP
 gp:σ'.gp=σ.gp
 pS:σ'.pS=σ.pS
 rq:σ'.rq=σ.rq
 oY:σ'.oY=σ.oY
 nm:∀i s,jA σ i s->jA σ' i s
 Mn:σ.fQ≠[]->σ'.fQ.head?=σ.fQ.head?
def Fx.refl (σ:Ab):Fx σ σ:=⟨rfl,rfl,rfl,rfl,rfl,rfl,rfl,rfl,rfl,rfl,rfl,λ_ _ h=>h,λ_=>rfl⟩
theorem Fx.ne (h:Fx σ σ') (d:σ.fQ≠[]):σ'.fQ≠[]:=by
 intro e;have:=h.Mn d;rw[e]at this;cases ho:σ.fQ with
 |nil=>grind
 |cons x r=>grind
def Fx.trans {a b c : Ab} (h:Fx a b) (k:Fx b c):Fx a c:=
 ⟨k.mode.trans h.mode,k.kept.trans h.kept,k.head.trans h.head,k.form.trans h.form,k.waiting.trans h.waiting,k.xU.trans h.xU,k.iP.trans h.iP,k.gp.trans h.gp,k.pS.trans h.pS,k.rq.trans h.rq,k.oY.trans h.oY,λi s g=>k.nm i s (h.nm i s g),λd=>(k.Mn (h.ne d)).trans (h.Mn d)⟩
def ji {α:Type} (c:Nat) (σ:Ab) (r:qI α) (Q:α->Ab->Prop):Prop:=match r with
 | .ok a σ'=>mD σ'/\Fx σ σ'/\wt σ'<=wt σ+c/\Q a σ'
 | .stop _ p=>p=σ.gp
 | .stuck=>False
theorem ji.mono {α:Type} {r:qI α} {Q d:α->Ab->Prop} (h:ji c σ r Q) (k:c<=c') (g:∀a σ',mD σ'->Fx σ σ'->Q a σ'->d a σ'):ji c' σ r d:=by
 cases r with
 |ok a σ'=>grind[ji]
 |stop e p=>exact h
 |stuck=>exact h
theorem ji.bind {α l:Type} {c1 c2 : Nat} {m:M α} {k:α->M l} {Q:α->Ab->Prop} {g:l->Ab->Prop} (h:ji c1 σ (m σ) Q) (q:∀a σ',mD σ'->Fx σ σ'->wt σ'<=wt σ+c1->Q a σ'->ji c2 σ' (k a σ') g) (u:c1+c2<=c):ji c σ ((m>>=k) σ) g:=by
 rw[M.fP];cases hm:m σ with
 |ok a σ'=>
  rw[hm]at h;have⟨h1,h2,h3,h4⟩:=h;have d:=q a σ' h1 h2 h3 h4;cases hk2:k a σ' with
  |ok b σ2=>
   rw[hk2]at d;dsimp only;rw[hk2];exact⟨d.1,h2.trans d.2.1,by have:=d.2.2.1;omega,d.2.2.2⟩
  |stop e p=>
   rw[hk2]at d;dsimp only;rw[hk2];exact CG d h2.gp
  |stuck=>grind[ji]
 |stop e p=>rwa [hm]at h
 |stuck=>grind[ji]
def ji.ret {α:Type} (d:mD σ) {Q:α->Ab->Prop} {a:α} (g:Q a σ) (c:Nat:=0):ji c σ ((Pure.pure a:M α) σ) Q:=⟨d,Fx.refl _,by omega,g⟩
def mD.vc (h:mD σ):(σ.gF 0).isSome=true:=by have⟨r,h⟩:=h;exact h.vc
def jA.lt (h:jA σ i s):i < σ.nodes.length:=by have⟨e,he,_⟩:=h;exact Ab.gL he
theorem ky (h:σ.lH x=true):∃i e,x=some i/\σ.gF i=some e:=by
 cases x with
 |none=>cases h
 |some i=>have⟨e,he⟩:=Option.isSome_iff_exists.1 h;grind
theorem jn.sub (h:jn r σ) (p:ys.Sublist σ.fQ) (k:ys.head?=σ.fQ.head?):jn r {σ with fQ:=ys}/\Fx σ {σ with fQ:=ys}:=by
 refine⟨⟨⟨h.oq.up,h.oq.dn,h.oq.nd,h.oq.kd⟩,⟨h.tD.iJ,h.tD.fQ.sublist p,?_⟩,λx l=>h.fQ x (p.subset l),h.act,h.head,h.form,?_,jC p.length_le h.ve,h.Ac,h.Qy,h.RW,h.vc⟩,⟨rfl,rfl,rfl,rfl,rfl,rfl,rfl,rfl,rfl,rfl,rfl,λ_ _ h=>h,λ_=>k⟩⟩
 .intro d x u l;exact h.tD.hd d x u (by grind)
 .intro x g l;have q:ys=x::g:=l;rw[q]at k;cases ho:σ.fQ with
  |nil=>grind
  |cons y r2=>
   rw[ho]at k;have e:x=y:=by simpa using k
   subst e;exact h.Mn x r2 ho
def xf (r:Nat->Nat) (n x:Nat):Nat->Nat:=λi=>if i=n then x else r i
def Fj (r:Nat->Nat) (n x:Nat):xf r n x n=x:=by simp[xf]
def Dw {x : Nat} (h:i≠n):xf r n x i=r i:=by simp[xf,h]
def dE.ad3 (h:dE σ) {p : Nat} (d:σ.gF i=some e) (g:e.iJ=some p):p < σ.nodes.length:=by
 have⟨ep,h1,_⟩:=h.up i e p d g;exact Ab.gL h1
def jn.EM (h:jn r σ) (d:some i∈σ.fQ):i < σ.nodes.length:=by
 have⟨j,e,hj,he⟩:=ky (h.fQ _ d);cases hj;exact Ab.gL he
theorem abD.congr {g : Nat->Nat} (h:abD r σ) (q:∀i e p,σ.gF i=some e->e.iJ=some p->g p < g i) (l:∀i,some i∈σ.fQ->g i=r i) (k:∀d h,σ.head=some d->σ.fQ.head?=some (some h)->g h < g d):abD g σ:=by
 refine⟨q,?_,k⟩;refine h.fQ.imp_of_mem ?_;intro x y B C u;have A:∀z∈σ.fQ,rk g z=rk r z:=by
  intro z v;cases z with
  |none=>rfl
  |some i=>exact l i v
 grind
theorem jn.new (h:jn r σ) (q:fN) (fX:kZ) (b:Bool) (x:Nat):jn (xf r σ.nodes.length x) (σ.pi (.el {name:=q,gy:=fX,iJ:=none,kids:=[]}) b)/\Fx σ (σ.pi (.el {name:=q,gy:=fX,iJ:=none,kids:=[]}) b):=by
 obtain⟨A,K⟩:∃A:Cd,A= .el {name:=q,gy:=fX,iJ:=none,kids:=[]}:=⟨_,rfl⟩;rw[<-K];have O:∀i,(σ.pi A b).gF i=(σ.add A).gF i:=λ_=>rfl;have F:∀i e,σ.gF i=some e->(σ.pi A b).gF i=some e:=λi e E=>by grind[Ab.gF,Ab.pi]
 have g:∀i e,(σ.pi A b).gF i=some e->σ.gF i=some e\/(i=σ.nodes.length/\e={name:=q,gy:=fX,iJ:=none,kids:=[]}):=by
  intro i e E;rcases Ab.J8 (nd:=A) E with⟨_,l⟩|⟨l,I⟩
  .grind
  .grind
 have B:∀i s,jA σ i s->jA (σ.pi A b) i s:=λi s ⟨e,E,S⟩=>⟨e,F i e E,S⟩;have v:∀i,i < σ.nodes.length->xf r σ.nodes.length x i=r i:=λi u=>Dw (by omega);refine⟨⟨⟨?_,?_,?_,?_⟩,⟨?_,?_,?_⟩,λy C=>Ab.LJ (h.fQ y C),λi u=>?_,λd D=>B _ _ (h.head d D),λd D=>B _ _ (h.form d D),λy G C=>?_,h.ve,h.Ac,h.Qy,h.RW,?_⟩,⟨rfl,rfl,rfl,rfl,rfl,rfl,rfl,rfl,rfl,rfl,rfl,B,λ_=>rfl⟩⟩
 .intro i e p u H;rcases g i e u with l|⟨_,l⟩
  .have⟨ep,I,h3⟩:=h.oq.up i e p l H
   grind
  grind
 .intro i e j u J;rcases g i e u with l|⟨_,l⟩
  .have⟨ej,I,h3⟩:=h.oq.dn i e j l J
   grind
  .rw[l]at J;simp[ie]at J
 .intro i e u;rcases g i e u with l|⟨_,l⟩
  .exact h.oq.nd i e l
  grind[ie]
 .intro i e u k P;rcases g i e u with l|⟨_,l⟩
  .exact Ab.Fk (h.oq.kd i e l k P)
  grind
 .intro i e p u H;rcases g i e u with l|⟨_,l⟩
  .rw[v p (h.oq.ad3 l H),v i (Ab.gL l)];exact h.tD.iJ i e p l H
  grind
 .refine h.tD.fQ.imp_of_mem ?_;intro y z C N T;have U:∀z∈σ.fQ,rk (xf r σ.nodes.length x) z=rk r z:=by
   intro z N;cases z with
   |none=>rfl
   |some i=>exact v i (h.EM N)
  grind
 .intro d y D C;have L:some y∈σ.fQ:=List.mem_of_mem_head? C;rw[v y (h.EM L),v d (h.head d D).lt];exact h.tD.hd d y D C
 .have⟨e,E,hf⟩:=h.act i u
  grind
 .have⟨z,l,I⟩:=h.Mn y G C
  grind
 .have⟨e,E⟩:=Option.isSome_iff_exists.1 h.vc
  grind
theorem AM (r:Nat->Nat):∀n,∃B,∀i,i < n->r i<=B
 |0=>⟨0,λi d=>by omega⟩
 |n+1=>by
  have⟨B,hB⟩:=AM r n;refine⟨B+r n,λi d=>?_⟩
  grind
theorem jn.raise (h:jn r σ) (C:σ.gF j=some e) (D:ie e.kids=[]) (E:some j∉σ.fQ) {x : Nat} (F:r j<=x):jn (xf r j x) σ:=by
 refine {h with tD:=h.tD.congr ?_ ?_ ?_}
 .intro i q p u v;have g:p≠j:=by
   rintro rfl;have⟨ep,h1,h2⟩:=h.oq.up i q p u v;rw[C]at h1;cases h1;rw[D]at h2;cases h2
  rw[Dw g];have:=h.tD.iJ i q p u v
  grind[xf]
 .grind[xf]
 .intro d y B A;have k:some y∈σ.fQ:=List.mem_of_mem_head? A;have l:y≠j:=by rintro rfl;exact E k
  rw[Dw l];have:=h.tD.hd d y B A
  grind[xf]
def BF (σ:Ab) (pl:Nat×Nat):Prop:=∃e,σ.gF pl.1=some e/\pl.2<=e.kids.length
theorem jn.put (h:jn r σ) {ej : Al} (E:BF σ pl) (D:σ.gF j=some ej) (F:ej.iJ=none) (hr:r pl.1 < r j) (hw:wt σ < 1000000):
  ∃σ',nj pl j σ= .ok () σ'/\jn r σ'/\Fx σ σ'/\wt σ'=wt σ+1/\σ'.fQ=σ.fQ/\σ'.act=σ.act/\σ'.fresh=σ.fresh/\σ'.nodes.length=σ.nodes.length/\(∀i e,σ.gF i=some e->∃u,σ'.gF i=some u/\u.name=e.name/\u.gy=e.gy/\(i≠pl.1->u.kids=e.kids)/\(i≠j->u.iJ=e.iJ))/\(∀u,σ'.gF j=some u->u.iJ=some pl.1):=by
 have⟨ei,hi,Y⟩:=E;have B:j≠pl.1:=by rintro rfl;omega
 have hl:=Hl hi;have V:=Ab.gL hi;have a2:=Ab.gL D;obtain⟨σ',g⟩:∃σ',σ'=(σ.gE pl.1 {ei with kids:=ins ei.kids pl.2 (.el j)}).gE j {ej with iJ:=some pl.1}:=⟨_,rfl⟩;have hq:nj pl j σ= .ok () σ':=by
  unfold nj;rw[hi,D];dsimp only;rw[fU ⟨B,Y,by omega⟩,g]
 have g1:σ'.gF pl.1=some {ei with kids:=ins ei.kids pl.2 (.el j)}:=by rw[g,Ab.iy (xH B),Ab.iF V]
 have g2:σ'.gF j=some {ej with iJ:=some pl.1}:=by rw[g,Ab.iF (by grind[Ab.gE])]
 have g3:∀i,i≠pl.1->i≠j->σ'.gF i=σ.gF i:=λi l A=>by rw[g,Ab.iy A,Ab.iy l]
 have H:(σ.gF pl.1).isSome=true:=by rw[hi];rfl
 have I:((σ.gE pl.1 {ei with kids:=ins ei.kids pl.2 (.el j)}).gF j).isSome=true:=by rw[Ab.iy B,D];rfl
 have gk:∀k,σ'.iR k=σ.iR k:=λk=>by rw[g,Ab.kR I,Ab.kR H]
 have ge:∀x,σ'.lH x=σ.lH x:=λx=>by rw[g,Ab.yc I,Ab.yc H]
 have C:∀i e,σ.gF i=some e->∃u,σ'.gF i=some u/\u.name=e.name/\u.gy=e.gy/\(i≠pl.1->u.kids=e.kids)/\(i≠j->u.iJ=e.iJ):=by
  intro i e G
  by_cases l:i=pl.1
  .grind
  .grind
 have q:∀i u,σ'.gF i=some u->(i=pl.1/\u={ei with kids:=ins ei.kids pl.2 (.el j)})\/(i=j/\u={ej with iJ:=some pl.1})\/(i≠pl.1/\i≠j/\σ.gF i=some u):=by
  intro i u G
  by_cases l:i=pl.1
  .grind
  .grind
 have K:∀i s,jA σ i s->jA σ' i s:=λi s ⟨e,G,Y⟩=>by
  grind[jA]
 have W:j∉ie ei.kids:=by
  intro hm;have⟨ej2,l,A⟩:=h.oq.dn _ _ _ hi hm;rw[D]at l;cases l;rw[F]at A;cases A
 have X:∀i e,σ.gF i=some e->∀u,σ'.gF i=some u->∀x,x∈ie e.kids->x∈ie u.kids:=by
  intro i e G u T x L;rcases q i u T with⟨l,rfl⟩|⟨l,rfl⟩|⟨_,_,l⟩
  .subst l;rw[hi]at G;cases G;exact(Bw ei.kids pl.2 j).mem_iff.2 (rj _ L)
  .grind
  .grind
 refine⟨σ',hq,⟨⟨?_,?_,?_,?_⟩,⟨?_,?_,?_⟩,λx L=>?_,λi v=>?_,λd S=>K _ _ (h.head d ?_),λd S=>K _ _ (h.form d ?_),λy N hy=>?_,?_,?_,?_,?_,?_⟩,?_,?_,?_,?_,?_,?_,C,?_⟩
 .intro i e p v E;rcases q i e v with⟨l,rfl⟩|⟨l,rfl⟩|⟨_,_,l⟩
  .rw[l]at *;have⟨ep,A,h3⟩:=h.oq.up _ _ p hi E
   grind
  .cases E;exact⟨_,g1,by rw[l];exact(Bw ei.kids pl.2 j).mem_iff.2 (xl ..)⟩
  .have⟨ep,A,h3⟩:=h.oq.up _ _ p l E
   grind
 .intro i e x v L;have a1:∀O,σ.gF i=some O->x∈ie O.kids->∃P,σ'.gF x=some P/\P.iJ=some i:=by
   intro O U Z;have⟨P,A,h3⟩:=h.oq.dn i O x U Z;have a0:x≠j:=by rintro rfl;rw[D]at A;cases A;rw[F]at h3;cases h3
   have⟨ex',h4,_,_,_,h5⟩:=C x P A;exact⟨ex',h4,(h5 a0).trans h3⟩
  rcases q i e v with⟨l,rfl⟩|⟨l,rfl⟩|⟨_,_,l⟩
  .rw[l]at a1|-;rcases List.mem_cons.1 ((Bw ei.kids pl.2 j).mem_iff.1 L)with A|A
   all_goals grind
  .grind
  grind
 .intro i e v;rcases q i e v with⟨l,rfl⟩|⟨l,rfl⟩|⟨_,_,l⟩
  .exact(Bw ei.kids pl.2 j).nodup_iff.2 (List.nodup_cons.2 ⟨W,h.oq.nd _ _ hi⟩)
  .show(ie ej.kids).Nodup;exact h.oq.nd _ _ D
  .exact h.oq.nd _ _ l
 .intro i e v k J;rw[gk];rcases q i e v with⟨l,rfl⟩|⟨l,rfl⟩|⟨_,_,l⟩
  .rcases Uo.1 J with rfl|J
   .grind[Ab.iR]
   .exact h.oq.kd _ _ hi k J
  .exact h.oq.kd _ _ D k J
  .exact h.oq.kd _ _ l k J
 .intro i e p v E;rcases q i e v with⟨l,rfl⟩|⟨l,rfl⟩|⟨_,_,l⟩
  .rw[l];exact h.tD.iJ _ _ p hi E
  .grind
  .exact h.tD.iJ _ _ p l E
 .rw[g];exact h.tD.fQ
 .rw[g];exact h.tD.hd
 .rw[ge];exact h.fQ x (by rwa [g]at L)
 .have⟨e,G,hf⟩:=h.act i (by rw[g]at v;exact v)
  grind
 .rwa [g]at S
 .rwa [g]at S
 .have⟨z,l,A⟩:=h.Mn y N (by rwa [g]at hy)
  grind
 .rw[g];exact h.ve
 .rw[g];exact h.Ac
 .rw[g];exact h.Qy
 .rw[g];exact h.RW
 .have⟨e,G⟩:=Option.isSome_iff_exists.1 h.vc
  grind
 .rw[g];exact⟨rfl,rfl,rfl,rfl,rfl,rfl,rfl,rfl,rfl,rfl,rfl,by grind,λ_=>rfl⟩
 .have w1:=rN (e':={ei with kids:=ins ei.kids pl.2 (.el j)}) hi;have w2:=rN (σ:=σ.gE pl.1 {ei with kids:=ins ei.kids pl.2 (.el j)}) (e':={ej with iJ:=some pl.1}) (by rw[Ab.iy B];exact D);have w3:=U1 ei.kids pl.2 (.el j) Y
  grind
 .rw[g];rfl
 .rw[g];rfl
 .rw[g];rfl
 .rw[g,Ab.nr,Ab.nr]
 grind
theorem jn.alike (h:jn r σ) (V:∀i e,σ.gF i=some e->∃g,σ'.gF i=some g/\g.name=e.name/\g.iJ=e.iJ/\ie g.kids=ie e.kids) (U:∀i g,σ'.gF i=some g->∃e,σ.gF i=some e) (W:∀i g,σ'.gF i=some g->∀k∈g.kids,σ'.iR k=true)
  (B:σ'.fQ=σ.fQ:=by rfl) (J:σ'.act=σ.act:=by rfl) (v:σ'.head=σ.head:=by rfl) (E:σ'.form=σ.form:=by rfl) (F:σ'.pS=σ.pS:=by rfl) (G:σ'.rq=σ.rq:=by rfl) (K:σ'.mode=σ.mode:=by rfl) (L:σ'.kept=σ.kept:=by rfl) (N:σ'.waiting=σ.waiting:=by rfl) (O:σ'.iq=σ.iq:=by rfl) (P:σ'.iP=σ.iP:=by rfl) (S:σ'.gp=σ.gp:=by rfl) (T:σ'.oY=σ.oY:=by rfl):jn r σ'/\Fx σ σ':=by
 have u:∀i s,jA σ i s->jA σ' i s:=λi s ⟨e,A,X⟩=>by
  grind[jA]
 have l:∀i g,σ'.gF i=some g->∃e,σ.gF i=some e/\g.name=e.name/\g.iJ=e.iJ/\ie g.kids=ie e.kids:=by
  intro i g C;have⟨e,A⟩:=U i g C;have⟨e2,v,E⟩:=V i e A;rw[C]at v;cases v;exact⟨e,A,E⟩
 refine⟨⟨⟨?_,?_,?_,W⟩,⟨?_,?_,?_⟩,?_,?_,?_,?_,?_,?_,?_,?_,?_,?_⟩,⟨K,L,v,E,N,O,P,S,F,G,T,u,λ_=>by rw[B]⟩⟩
 .intro i e p q Y;have⟨e0,g1,_,g3,_⟩:=l i e q;have⟨ep,g4,g5⟩:=h.oq.up i e0 p g1 (by grind)
  grind
 .intro i e j q Z;have⟨e0,g1,_,_,g4⟩:=l i e q;have⟨ej,g5,g6⟩:=h.oq.dn i e0 j g1 (by grind)
  grind
 .intro i e q;have⟨e0,g1,_,_,g4⟩:=l i e q;rw[g4];exact h.oq.nd i e0 g1
 .intro i e p q Y;have⟨e0,g1,_,g3,_⟩:=l i e q;exact h.tD.iJ i e0 p g1 (by grind)
 .rw[B];exact h.tD.fQ
 .rw[v,B];exact h.tD.hd
 .rw[B];intro x I;obtain⟨i,e,rfl,A⟩:=ky (h.fQ x I)
  grind[Ab.lH]
 .rw[J];intro i q;have⟨e,A,X⟩:=h.act i q
  grind
 .rw[v];exact λd H=>u _ _ (h.head d H)
 .rw[E];exact λd H=>u _ _ (h.form d H)
 .rw[B];intro x D I;have⟨z,g1,g2⟩:=h.Mn x D I
  grind
 .rw[B,F];exact h.ve
 .rw[J,G];exact h.Ac
 .rw[F];exact h.Qy
 .rw[G];exact h.RW
 .have⟨e,A⟩:=Option.isSome_iff_exists.1 h.vc
  grind
theorem jn.vm (h:jn r σ) (nd:Cd) (q:∀e,nd≠ .el e):jn r (σ.add nd)/\Fx σ (σ.add nd):=by
 refine h.alike (λi e u=>⟨e,by grind[Ab.gF,Ab.add],rfl,rfl,rfl⟩) ?_ ?_
 .grind[Ab.gF,Ab.add]
 .intro i l d k p;rcases Ab.J8 (nd:=nd) d with⟨_,g⟩|⟨_,g⟩
  .exact Ab.Fk (h.oq.kd i l g k p)
  grind
theorem jn.aft (h:jn r σ) {d : Al} {k : Nd} (q:σ.gF i=some d) (D:∀j,k≠ .el j) (F:σ.iR k=true) (E:n<=d.kids.length):jn r (σ.gE i {d with kids:=ins d.kids n k})/\Fx σ (σ.gE i {d with kids:=ins d.kids n k})/\wt (σ.gE i {d with kids:=ins d.kids n k})=wt σ+1:=by
 have C:(σ.gF i).isSome=true:=by rw[q];rfl
 have p:∀j l,(σ.gE i {d with kids:=ins d.kids n k}).gF j=some l->(j=i/\l={d with kids:=ins d.kids n k})\/(j≠i/\σ.gF j=some l):=by
  intro j l g
  by_cases u:j=i
  .subst u;rw[Ab.iF (Ab.gL q)]at g;grind
  .rw[Ab.iy u]at g;grind
 have v:=h.alike (σ':=σ.gE i {d with kids:=ins d.kids n k}) (λj e B=>by
  by_cases u:j=i
  .subst u;rw[q]at B;cases B;exact⟨_,Ab.iF (Ab.gL q),rfl,rfl,Tk _ _ _ D⟩
  .exact⟨e,by rw[Ab.iy u];exact B,rfl,rfl,rfl⟩) (λj l g=>by
  grind) (λj l g x A=>by
  rw[Ab.kR C];rcases p j l g with⟨_,rfl⟩|⟨_,v⟩
  .rcases Uo.1 A with rfl|A
   .exact F
   .exact h.oq.kd _ _ q x A
  .exact h.oq.kd _ _ v x A)
 refine⟨v.1,v.2,?_⟩;have G:=rN (e':={d with kids:=ins d.kids n k}) q;have H:=U1 d.kids n k E
 grind
theorem jn.nR (h:jn r σ) {t : Nat} {g : fN} (l:σ.nodes[t]?=some (.tx g)):jn r (σ.nR t s)/\Fx σ (σ.nR t s)/\wt (σ.nR t s)+g.size=wt σ+s.size:=by
 have q:=h.alike (σ':=σ.nR t s) (λi e v=>⟨e,by grind[Ab.gF,Ab.nR],rfl,rfl,rfl⟩) (λi p d=>⟨p,by rw[Ab.tl l]at d;exact d⟩) (λi p d k u=>by
  rw[Ab.FK l];rw[Ab.tl l]at d;exact h.oq.kd i p d k u)
 exact⟨q.1,q.2,YX (m:= .tx s) l⟩
structure Rest (σ σ':Ab):Prop where
 fQ:σ'.fQ=σ.fQ
 act:σ'.act=σ.act
 fresh:σ'.fresh=σ.fresh
 behind:σ'.behind=σ.behind
 mV:σ'.mV=σ.mV
 iA:σ'.iA=σ.iA
theorem Q0 (h:mD σ) (u:BF σ pl) (s:fN) (hw:wt σ+s.size+1<=1000000):ji (s.size+1) σ (uT pl s σ) (λ_ σ'=>Rest σ σ'):=by
 have⟨r,h⟩:=h;have⟨ei,hi,hn⟩:=u;have D:=Hl hi;unfold uT;rw[hi];dsimp only;rw[fU ⟨hn,by omega⟩];have v:ji (s.size+1) σ (.ok () ((σ.add (.tx s)).gE pl.1 {ei with kids:=ins ei.kids pl.2 (.tx σ.nodes.length)}):qI Unit) (λ_ σ'=>Rest σ σ'):=by
  have⟨a1,a2⟩:=h.vm (.tx s) (λe l=>by cases l);have k:(σ.add (.tx s)).gF pl.1=some ei:=by rw[Ab.vr (Ab.gL hi)];exact hi
  have g:(σ.add (.tx s)).iR (.tx σ.nodes.length)=true:=by simp[Ab.iR,Ab.add]
  have⟨b1,b2,b3⟩:=a1.aft (n:=pl.2) k (λj p=>by cases p) g hn;have F:=Y2 σ (.tx s);have G:Uj (.tx s)=s.size:=rfl;exact⟨⟨r,b1⟩,a2.trans b2,by omega,⟨rfl,rfl,rfl,rfl,rfl,rfl⟩⟩
 split
 .rename_i t E;have q:Nd.tx t∈ei.kids:=by
   by_cases A:pl.2=0
   .grind
   .grind
  have d:=h.oq.kd _ _ hi _ q;unfold Ab.iR at d;dsimp only at d;cases hx:σ.nodes[t]? with
  |none=>grind
  |some nd=>
   rw[hx]at d;cases nd with
   |tx old=>
    have B:Uj (.tx old)<=wt σ:=ZJ hx;have C:Uj (.tx old)=old.size:=rfl;dsimp only;rw[fU (by omega)];have⟨b1,b2,b3⟩:=h.nR (s:=old++s) hx;have:(old++s).size=old.size+s.size:=ByteArray.size_append;exact⟨⟨r,b1⟩,b2,by omega,⟨rfl,rfl,rfl,rfl,rfl,rfl⟩⟩
   |el e=>cases d
   |cm s=>cases d
   |dt s=>cases d
 omega
def Fh (h:mD σ) (u:BF σ pl) (nd:Cd) (k:Nat->Nd) (d:(∃s,nd= .cm s/\k= .cm)\/(∃s,nd= .dt s/\k= .dt)) (hw:wt σ+1<=1000000):ji 1 σ (oT pl nd k σ) (λ_ σ'=>Rest σ σ'):=by
 have⟨r,h⟩:=h;have⟨ei,hi,hn⟩:=u;have A:=Hl hi;have q:∀e,nd≠ .el e:=by rintro e rfl;rcases d with⟨s,h,_⟩|⟨s,h,_⟩<;>cases h
 have p:∀i j,k i≠ .el j:=by rintro i j;rcases d with⟨s,_,h⟩|⟨s,_,h⟩<;>(rw[h];simp)
 have v:Uj nd=0:=by rcases d with⟨s,h,_⟩|⟨s,h,_⟩<;>(rw[h];rfl)
 have⟨a1,a2⟩:=h.vm nd q;have l:(σ.add nd).gF pl.1=some ei:=by rw[Ab.vr (Ab.gL hi)];exact hi
 have g:(σ.add nd).iR (k σ.nodes.length)=true:=by
  rcases d with⟨s,rfl,rfl⟩|⟨s,rfl,rfl⟩<;>simp[Ab.iR,Ab.add]
 have⟨b1,b2,b3⟩:=a1.aft (n:=pl.2) l (p _) g hn;have B:=Y2 σ nd;unfold oT zQ;rw[l];dsimp only;rw[fU ⟨g,hn,by omega⟩];exact⟨⟨r,b1⟩,a2.trans b2,by omega,⟨rfl,rfl,rfl,rfl,rfl,rfl⟩⟩
theorem UE (h:i∈ie ks):0<=qc ks (Nd.gx i)/\(qc ks (Nd.gx i)).toNat < ks.length:=by
 have d:ks.findIdx (Nd.gx i) < ks.length:=XQ ⟨_,yt.1 h,by simp[Nd.gx]⟩
 grind[qc]
theorem qZ (xs:j5) (n:Nat):gU xs (n:Int)=xs.getD n none:=by
 grind[gU]
theorem jn.at (h:jn r σ) (d:n < σ.fQ.length):∃i e,σ.fQ[n]?=some (some i)/\σ.gF i=some e:=by
 have⟨i,e,h1,h2⟩:=ky (h.fQ _ (tM d))
 grind
def F2 (h:jn r σ) (A:some i∈σ.fQ) (D:some i≠gU σ.fQ 0):∃pl,mu i σ= .ok pl σ/\BF σ pl/\r pl.1 < r i/\(some pl.1∈σ.fQ\/∃e c,σ.gF pl.1=some e/\c∈ie e.kids):=by
 have⟨i',e,e1,he⟩:=ky (h.fQ _ A);cases e1;unfold mu;rw[he];dsimp only;cases hp:e.iJ with
 |some p=>
  have⟨ep,d,k⟩:=h.oq.up i e p he hp;have⟨u,v⟩:=UE k;dsimp only;rw[d];dsimp only;rw[fU u];exact⟨_,rfl,⟨ep,d,by omega⟩,h.tD.iJ i e p he hp,.inr ⟨ep,i,d,k⟩⟩
 |none=>
  dsimp only;have d:σ.fQ.idxOf (some i) < σ.fQ.length:=List.idxOf_lt_length_of_mem A;have k:posOf σ.fQ (some i)=(σ.fQ.idxOf (some i):Int):=by unfold posOf;rw[fU d]
  have u:σ.fQ.idxOf (some i)≠0:=by
   intro B;apply D;have:=List.getElem_idxOf d;rw[show(0:Int)=((0:Nat):Int)from rfl,qZ];simp only[B]at this;rw[uX,pY (by omega),<-this];rfl
  have⟨q,eq,hq,he2⟩:=h.at (n:=σ.fQ.idxOf (some i) - 1) (by omega);have v:gU σ.fQ (posOf σ.fQ (some i) - 1)=some q:=by
   rw[k,show(σ.fQ.idxOf (some i):Int) - 1=((σ.fQ.idxOf (some i) - 1:Nat):Int) by omega,qZ,uX,hq];rfl
  rw[v];dsimp only;unfold jf;rw[he2];refine⟨_,rfl,⟨eq,he2,gr _⟩,?_,.inl (tK hq)⟩;have g:=List.pairwise_iff_getElem.1 h.tD.fQ (σ.fQ.idxOf (some i) - 1) (σ.fQ.idxOf (some i)) (by omega) d (by omega);rw[List.getElem_idxOf d]at g;have C:σ.fQ[σ.fQ.idxOf (some i) - 1]'(by omega)=some q:=by
   have:=pY (l:=σ.fQ) (i:=σ.fQ.idxOf (some i) - 1) (by omega);rw[hq]at this;exact(jr this).symm
  rwa [C]at g
theorem GF:∀{xs:j5} {x:iM},rZ σ xs=some x->x∈xs/\x≠gU σ.fQ 0/\ku (σ.qS x) fC=true
 |[],x,h=>by cases h
 |y::xs,x,h=>by
  unfold rZ at h;split at h
  .have⟨h1,h2⟩:=GF h
   grind
  grind
theorem jn.first (h:jn r σ) (g:σ.fQ≠[]):∃q e d,σ.fQ=some q::d/\gU σ.fQ 0=some q/\σ.gF q=some e/\e.name=fy:=by
 cases ho:σ.fQ with
 |nil=>grind
 |cons x d=>
  obtain⟨q,rfl,e,k,l⟩:=h.Mn x d ho
  grind[gU]
theorem OV (h:jn r σ):σ.AY=true:=by
 unfold Ab.AY;rw[LR];intro x d;obtain⟨i,e,rfl,k⟩:=ky (h.fQ x d);dsimp only
 by_cases g:some i=gU σ.fQ 0
 .grind
 .have⟨pl,h1,_⟩:=F2 h d g;rw[h1];simp[qI.isOk]
theorem Bi (h:jn r σ) (g:σ.fQ≠[]):∃pl,jN σ= .ok pl σ/\BF σ pl/\(some pl.1∈σ.fQ\/∃e c,σ.gF pl.1=some e/\c∈ie e.kids)/\((∃i,some i∈σ.fQ/\ku (σ.nm i) fC=true/\rZ σ σ.fQ.reverse=some (some i)/\r pl.1 < r i)\/gU σ.fQ 0=some pl.1):=by
 unfold jN;rw[fU (OV h)];have⟨q,eq,rest,ho,hq,k,_⟩:=h.first g;cases hf:rZ σ σ.fQ.reverse with
 |none=>
  dsimp only;rw[hq];dsimp only;unfold jf;rw[k]
  grind[BF]
 |some x=>
  have⟨h1,h2,h3⟩:=GF hf;have d:x∈σ.fQ:=List.mem_reverse.1 h1;obtain⟨i,e,rfl,k⟩:=ky (h.fQ x d);dsimp only;have⟨pl,p1,p2,p3,p4⟩:=F2 h d h2;exact⟨pl,p1,p2,p4,.inl ⟨i,d,h3,rfl,p3⟩⟩
theorem PY (h:jn r σ) (d:some i∈σ.fQ):∃pl,placeFor i σ= .ok pl σ/\BF σ pl/\(some pl.1∈σ.fQ\/∃e c,σ.gF pl.1=some e/\c∈ie e.kids):=by
 have⟨i',e,e1,he⟩:=ky (h.fQ _ d);cases e1;unfold placeFor;split
 .have⟨pl,h1,h2,h3,_⟩:=Bi h (List.ne_nil_of_mem d)
  grind
 .unfold jf;rw[he]
  grind[BF]
theorem MX (h:jn r σ) (d:σ.fQ≠[]):∃i e,σ.last=some i/\some i∈σ.fQ/\σ.fQ.getLast?=some (some i)/\σ.gF i=some e:=by
 have g:0 < σ.fQ.length:=List.length_pos_iff.2 d;have⟨i,e,h1,h2⟩:=h.at (n:=σ.fQ.length - 1) (by omega);refine⟨i,e,?_,tK h1,by grind,h2⟩;unfold Ab.last;rw[show(σ.fQ.length:Int) - 1=((σ.fQ.length - 1:Nat):Int) by omega,qZ,uX,h1];rfl
theorem Fi (h:jn r σ) (d:σ.fQ≠[]):∃pl,lD σ= .ok pl σ/\BF σ pl/\(some pl.1∈σ.fQ\/∃e c,σ.gF pl.1=some e/\c∈ie e.kids):=by
 have⟨i,e,h1,h2,_⟩:=MX h d;have⟨pl,h3,h4⟩:=PY h h2
 grind[lD]
theorem jn.push (h:jn r σ) (v:σ.gF j=some e) (C:∀x∈σ.fQ,rk r x < r j) (B:σ.fQ.length < σ.pS) (p:σ.fQ≠[]\/(e.name=fy/\σ.head=none)):jn r {σ with fQ:=σ.fQ++[some j]}/\Fx σ {σ with fQ:=σ.fQ++[some j]}:=by
 have u:σ.fQ≠[]->(σ.fQ++[some j]).head?=σ.fQ.head?:=by
  intro A;cases ho:σ.fQ with
  |nil=>grind
  |cons x l=>rfl
 refine⟨⟨⟨h.oq.up,h.oq.dn,h.oq.nd,h.oq.kd⟩,⟨h.tD.iJ,?_,?_⟩,?_,h.act,h.head,h.form,?_,?_,h.Ac,h.Qy,h.RW,h.vc⟩,⟨rfl,rfl,rfl,rfl,rfl,rfl,rfl,rfl,rfl,rfl,rfl,λ_ _ h=>h,u⟩⟩
 .refine List.pairwise_append.2 ⟨h.tD.fQ,by simp,λx g y D=>?_⟩
  grind[rk]
 .intro d x q g;rcases p with p|⟨_,p⟩
  .exact h.tD.hd d x q (by grind)
  grind
 .intro x g;rcases List.mem_append.1 g with g|g
  .exact h.fQ x g
  .rw[List.mem_singleton.1 g];show(σ.gF j).isSome=true;grind
 .intro x l g;have k:σ.fQ++[some j]=x::l:=g;cases ho:σ.fQ with
  |nil=>
   rw[ho]at k;injection k with h1 h2;rcases p with p|⟨p,_⟩
   .grind
   .exact⟨j,h1.symm,e,v,p⟩
  |cons y r2=>
   rw[ho]at k;injection k with h1 h2;have⟨z,h3,h4⟩:=h.Mn y r2 ho;exact⟨z,h1▸h3,h4⟩
 grind
def NE (h:e.kids=[]):ie e.kids=[]:=by rw[h];rfl
structure agr (σ:Ab) (j:Nat) (σ':Ab):Prop where
 fQ:σ'.fQ=σ.fQ++[some j]
 act:σ'.act=σ.act
 fresh:σ'.fresh=σ.fresh
 len:σ'.nodes.length=σ.nodes.length
theorem MM (h:mD σ) (d:σ.gF j=some e) (g:e.iJ=none) (A:e.kids=[]) (D:some j∉σ.fQ) (q:σ.fQ≠[]) (hw:wt σ < 999999):ji 1 σ (lG j σ) (λ_ σ'=>agr σ j σ'):=by
 have⟨r,h⟩:=h;have⟨pl,p1,p2,E⟩:=Fi h q;have G:pl.1≠j:=by
  rintro rfl;rcases E with E|⟨e2,c,k,v⟩
  .grind
  .rw[d]at k;cases k;rw[A]at v;cases v
 have⟨B,hB⟩:=AM r σ.nodes.length;have I:=h.raise d (NE A) D (x:=B+1) (by have:=hB j (Ab.gL d);omega);have H:pl.1 < σ.nodes.length:=by have⟨e2,k,_⟩:=p2;exact Ab.gL k
 have⟨σ',q1,q2,q3,q4,q5,q6,q7,q8,q9,q10⟩:=I.put p2 d g (by grind[xf]) (by omega);unfold lG;rw[M.fP,p1];dsimp only;rw[M.fP,q1];dsimp only;rw[M.fP];unfold xx;have⟨e',e1,e2,_⟩:=q9 j e d
 by_cases C:σ'.pS<=σ'.fQ.length
 .rw[fU C];exact q3.gp
 .rw[gn C];have l:σ'.lH (some j)=true:=by show(σ'.gF j).isSome=true;rw[e1];rfl
  rw[fU l];dsimp only;have⟨g1,g2⟩:=q2.push e1 (by
   intro x u;rw[q5]at u;rw[Fj];obtain⟨i,J,rfl,F⟩:=ky (h.fQ x u);show xf r j (B+1) i < _;have p:i≠j:=by rintro rfl;exact D u
   rw[Dw p];have:=hB i (Ab.gL F);omega) (by omega) (.inl (by grind))
  exact⟨⟨_,g1⟩,q3.trans g2,by grind[wt],⟨by grind,q6,q7,q8⟩⟩
def ug (xs:j5) (k:Nat):(xs.reverse.drop k).reverse=xs.take (xs.length - k):=by
 rw[List.reverse_drop];simp
theorem Ke (σ:Ab) (p:fN->Bool):∀ys:j5,(∃x∈ys,p (σ.qS x)=true)->∃k,1<=k/\k<=ys.length/\Ab.A5 σ p ys=ys.drop k/\∃x,ys[k - 1]?=some x/\p (σ.qS x)=true
 |[],h=>by grind
 |y::ys,h=>by
  unfold Ab.A5
  by_cases d:p (σ.qS y)=true
  .rw[fU d];exact⟨1,gr _,by simp,rfl,y,rfl,d⟩
  .rw[gn d];have⟨x,g,hpx⟩:=h;have l:x∈ys:=by
    rcases List.mem_cons.1 g with rfl|g
    .grind
    .exact g
   have⟨k,h1,h2,h3,x2,h4,h5⟩:=Ke σ p ys ⟨x,l,hpx⟩;refine⟨k+1,by omega,by grind,by grind,x2,?_,h5⟩
   grind
theorem I6 (σ:Ab) (p b:fN->Bool):∀{ys:j5},Ab.xM σ p b ys=true->∃x∈ys,p (σ.qS x)=true
 |[],h=>by cases h
 |y::ys,h=>by
  unfold Ab.xM at h
  by_cases d:p (σ.qS y)=true
  .grind
  .rw[gn d]at h;split at h
   .cases h
   .have⟨x,hx,h2⟩:=I6 σ p b h
    grind
def Bz {k : Nat} (h:1<=k):(xs.take k).head?=xs.head?:=by
 cases xs with
 |nil=>simp
 |cons x r=>cases k with
  |zero=>omega
  |succ k=>rfl
theorem jn.Il (h:jn r σ) (d:σ.fQ.head?=some x):σ.qS x=fy:=by
 cases ho:σ.fQ with
 |nil=>grind
 |cons y rest=>
  rw[ho]at d;cases d;obtain⟨q,rfl,e,g,k⟩:=h.Mn _ rest ho;show σ.nm q=_
  grind[Ab.nm]
theorem XI (h:jn r σ) (p:fN->Bool) (A:p fy=false) (B:∃x∈σ.fQ,p (σ.qS x)=true):jn r (σ.FB p)/\Fx σ (σ.FB p)/\∃k,1<=k/\k < σ.fQ.length/\(σ.FB p).fQ=σ.fQ.take k:=by
 have⟨k,h1,h2,h3,x,h4,h5⟩:=Ke σ p σ.fQ.reverse (by grind);have u:k<=σ.fQ.length:=by simpa using h2
 have e:(Ab.A5 σ p σ.fQ.reverse).reverse=σ.fQ.take (σ.fQ.length - k):=by rw[h3,ug]
 have l:1<=σ.fQ.length - k:=by
  rcases mq k σ.fQ.length with v|g
  .omega
  .exfalso;have q:k=σ.fQ.length:=by omega
   have d:σ.fQ.head?=some x:=by
    rw[Qo (by omega)]at h4;rw[zB]
    rwa [show σ.fQ.length - 1 - (k - 1)=0 by omega]at h4
   rw[h.Il d,A]at h5;cases h5
 have⟨g1,g2⟩:=h.sub (ys:=σ.fQ.take (σ.fQ.length - k)) (Cz _ _) (Bz l)
 grind[Ab.FB]
structure uK (σ σ':Ab):Prop where
 nodes:σ'.nodes=σ.nodes
 act:σ'.act=σ.act
 fresh:σ'.fresh=σ.fresh
 fQ:∃k,σ'.fQ=σ.fQ.take k
def uK.refl (σ:Ab):uK σ σ:=⟨rfl,rfl,rfl,σ.fQ.length,by simp⟩
def jh (h:σ'.nodes=σ.nodes):wt σ'=wt σ:=by unfold wt;rw[h]
theorem wW (h:mD σ) (p b:fN->Bool) (d:p fy=false):ji 0 σ (nh p b σ) (λx σ'=>uK σ σ'/\(x=true->σ'.fQ.length < σ.fQ.length)/\(x=false->σ'=σ)):=by
 have⟨r,h⟩:=h;unfold nh;split
 .rename_i g;have⟨x,h1,h2⟩:=I6 σ p b g;have⟨g1,g2,k,g3,g4,g5⟩:=XI h p d ⟨x,List.mem_reverse.1 h1,h2⟩;exact⟨⟨r,g1⟩,g2,nk (jh rfl),⟨rfl,rfl,rfl,k,g5⟩,λ_=>by grind,λh=>by cases h⟩
 .exact⟨⟨r,h⟩,Fx.refl _,gr _,uK.refl _,(λh=>by cases h),λ_=>rfl⟩
theorem H8 (σ:Ab) (p:fN->Bool):∀ys:j5,∃k,k<=ys.length/\Ab.pU σ p ys=ys.drop k/\∀j,j < k->∃x,ys[j]?=some x/\p (σ.qS x)=true
 |[]=>⟨0,gr _,rfl,λj d=>by omega⟩
 |y::ys=>by
  unfold Ab.pU
  by_cases g:p (σ.qS y)=true
  .rw[fU g];have⟨k,h1,h2,h3⟩:=H8 σ p ys;refine⟨k+1,by grind,by grind,λj d=>?_⟩;cases j with
   |zero=>grind
   |succ j=>grind
  .rw[gn g];exact⟨0,im _,rfl,λj d=>by omega⟩
def aa5 (h:jn r σ) (p:fN->Bool) (v:p fy=false):∃k,(Ab.pU σ p σ.fQ.reverse).reverse=σ.fQ.take k/\(σ.fQ≠[]->1<=k):=by
 have⟨k,h1,h2,h3⟩:=H8 σ p σ.fQ.reverse;have q:k<=σ.fQ.length:=by simpa using h1
 refine⟨σ.fQ.length - k,by rw[h2,ug],λd=>?_⟩;rcases mq k σ.fQ.length with u|l
 .omega
 .exfalso;have A:0 < σ.fQ.length:=List.length_pos_iff.2 d;have⟨x,h4,h5⟩:=h3 (σ.fQ.length - 1) (by omega);have g:σ.fQ.head?=some x:=by
   rw[Qo (by omega)]at h4;rw[zB]
   rwa [show σ.fQ.length - 1 - (σ.fQ.length - 1)=0 by omega]at h4
  rw[h.Il g,v]at h5;cases h5
theorem Iq (h:mD σ) (p:fN->Bool) (d:p fy=false):mD {σ with fQ:=(Ab.pU σ p σ.fQ.reverse).reverse}/\Fx σ {σ with fQ:=(Ab.pU σ p σ.fQ.reverse).reverse}/\uK σ {σ with fQ:=(Ab.pU σ p σ.fQ.reverse).reverse}:=by
 have⟨r,h⟩:=h;have⟨k,h1,h2⟩:=aa5 h p d;rw[h1];cases ho:σ.fQ with
 |nil=>
  have:([]:j5).take k=σ.fQ:=by rw[ho];simp
  rw[this];exact⟨⟨r,h⟩,Fx.refl _,uK.refl _⟩
 |cons x rest=>
  rw[<-ho];have⟨g1,g2⟩:=h.sub (ys:=σ.fQ.take k) (Cz _ _) (Bz (h2 (by grind)));exact⟨⟨r,g1⟩,g2,rfl,rfl,rfl,k,rfl⟩
def xG (h:mD σ) (p:fN->Bool):ji 0 σ (uQ p σ) (λ_ σ'=>uK σ σ'):=by
 have⟨g1,g2,g3⟩:=Iq h (λs=>!(p s||gI [fy] s)) (by simp[gI,ku]);exact⟨g1,g2,nk (jh rfl),g3⟩
theorem JW (h:mD σ) (d:2<=σ.fQ.length):mD σ.pop/\Fx σ σ.pop:=by
 have⟨r,h⟩:=h;have e:σ.fQ.dropLast=σ.fQ.take (σ.fQ.length - 1):=ZH;have⟨g1,g2⟩:=h.sub (ys:=σ.fQ.take (σ.fQ.length - 1)) (Cz _ _) (Bz (by omega))
 grind[mD,Ab.pop]
def uK.pop (σ:Ab):uK σ σ.pop:=⟨rfl,rfl,rfl,σ.fQ.length - 1,ZH⟩
theorem xw (h:mD σ) (p:fN->Bool) (u:p fy=false) (d:σ.current p=true):2<=σ.fQ.length:=by
 have⟨r,h⟩:=h;unfold Ab.current at d;cases ho:σ.fQ with
 |nil=>
  have:σ.last=none:=by unfold Ab.last;rw[ho];rfl
  grind
 |cons x rest=>
  cases rest with
  |cons y r2=>simp
  |nil=>
   exfalso;obtain⟨q,rfl,e,g,k⟩:=h.Mn x [] ho;have:σ.last=some q:=by unfold Ab.last;rw[ho];rfl
   rw[this]at d;have l:σ.nm q=fy:=by unfold Ab.nm;rw[g];exact k
   grind
def ui (h:mD σ) (p:fN->Bool) (g:p fy=false):ji 0 σ (pQ p σ) (λ_ σ'=>uK σ σ'):=by
 show ji 0 σ (.ok () (σ.JS p)) _;unfold Ab.JS;split
 .rename_i d;have⟨g1,g2⟩:=JW h (xw h p g d);exact⟨g1,g2,nk (jh rfl),uK.pop σ⟩
 .exact⟨h,Fx.refl _,gr _,uK.refl _⟩
def jn.Dg (h:jn r σ) (g:∀i,some i∈ys->∃e,σ.gF i=some e/\ru e.name=true) (d:ys.length<=σ.rq):jn r {σ with act:=ys}/\Fx σ {σ with act:=ys}:=
 ⟨⟨⟨h.oq.up,h.oq.dn,h.oq.nd,h.oq.kd⟩,⟨h.tD.iJ,h.tD.fQ,h.tD.hd⟩,h.fQ,g,h.head,h.form,h.Mn,h.ve,d,h.Qy,h.RW,h.vc⟩,⟨rfl,rfl,rfl,rfl,rfl,rfl,rfl,rfl,rfl,rfl,rfl,λ_ _ h=>h,λ_=>rfl⟩⟩
structure F5 (σ:Ab) (s:fN) (j:Nat) (σ':Ab):Prop where
 fQ:σ'.fQ=σ.fQ++[some j]
 act:σ'.act=σ.act
 nm:jA σ' j s
 new:σ.nodes.length<=j
def N8 (h:mD σ) (q:σ.fQ≠[]) (hw:wt σ < 999999) (d:fN) (fX:kZ) (b:Bool):ji 1 σ (lG σ.nodes.length (σ.pi (.el {name:=d,gy:=fX,iJ:=none,kids:=[]}) b)) (λ_ σ'=>∃j,F5 σ d j σ'/\σ'.fresh=b):=by
 have⟨r,h⟩:=h;have⟨g1,g2⟩:=h.new d fX b 0;have g:(σ.pi (.el {name:=d,gy:=fX,iJ:=none,kids:=[]}) b).gF σ.nodes.length=some {name:=d,gy:=fX,iJ:=none,kids:=[]}:=Ab.vE;have u:some σ.nodes.length∉(σ.pi (.el {name:=d,gy:=fX,iJ:=none,kids:=[]}) b).fQ:=by
  intro A;have:=h.EM (i:=σ.nodes.length) A;omega
 have B:wt (σ.pi (.el {name:=d,gy:=fX,iJ:=none,kids:=[]}) b)=wt σ:=EE _ _ _;have k:=MM ⟨_,g1⟩ g rfl rfl u q (by omega);revert k;cases lG σ.nodes.length (σ.pi (.el {name:=d,gy:=fX,iJ:=none,kids:=[]}) b)with
 |ok a σ'=>
  rintro⟨k,v,C,l⟩;refine⟨k,g2.trans v,by omega,σ.nodes.length,⟨l.fQ,l.act,v.nm _ _ ⟨_,g,rfl⟩,gr _⟩,l.fresh⟩
 |stop e p=>exact λh=>h
 |stuck=>simp[ji]
def ji.ic {α:Type} {m:M α} (h:ji c σ (m σ) (λ_ σ'=>Q () σ')):ji c σ ((m>>=λ_=>(Pure.pure ():M Unit)) σ) Q:=by
 refine ji.bind h (c2:=0) (λa σ' d _ _ g=>ji.ret d g) (by omega)
def ji.tail_at {α:Type} {σ1 : Ab} {m:M α} (h:ji c σ (m σ1) (λ_ σ'=>Q () σ')):ji c σ ((m>>=λ_=>(Pure.pure ():M Unit)) σ1) Q:=by
 rw[M.fP];revert h;cases m σ1<;>exact λh=>h
def rU (h:mD σ) (g:σ.fQ≠[]) (hw:wt σ < 999999) (d:fN):ji 1 σ (jP d σ) (λ_ σ'=>∃j,F5 σ d j σ'/\σ'.fresh=σ.fresh):=
 ji.ic (m:=λσ=>lG σ.nodes.length (σ.add (.el {name:=d,gy:=[],iJ:=none,kids:=[]}))) (N8 h g hw d [] σ.fresh)
theorem jy (h:mD σ) (d:σ.fQ≠[]) (hw:wt σ < 999999) (t:fZ) (k:t.oZ=true) (g:σ.fresh=true):ji 1 σ (iZ t σ) (λ_ σ'=>∃j,F5 σ t.name j σ'):=by
 unfold iZ;rw[M.fP];unfold pD;rw[fU (by grind)];dsimp only;refine ji.tail_at ?_;refine(N8 h d hw t.name t.ja false).mono (gr _) ?_
 grind
def aaS (h:F5 σ s j σ'):σ'.pop.fQ=σ.fQ:=by
 show σ'.fQ.dropLast=_;rw[h.fQ];simp
theorem D9 (h:F5 σ s j σ') (d:σ.fQ≠[]):2<=σ'.fQ.length:=by
 have:0 < σ.fQ.length:=List.length_pos_iff.2 d;rw[h.fQ];grind
def Dz (h:F5 σ s j σ'):σ'.last=some j:=by
 unfold Ab.last;rw[h.fQ];have e:((σ.fQ++[some j]).length:Int) - 1=((σ.fQ.length:Nat):Int):=by simp
 rw[e,qZ];simp
def yD (h:mD σ) (d:2<=σ.fQ.length):ji 0 σ (yd σ) (λx σ'=>σ'=σ.pop/\x=σ.last):=by
 have⟨g1,g2⟩:=JW h d;exact⟨g1,g2,nk (jh rfl),rfl,rfl⟩
def qi (h:mD σ) (d:σ.fQ≠[]) (hw:wt σ < 999999) (t:fZ) (p:t.oZ=true) (l:σ.fresh=true):ji 1 σ (lp t σ) (λ_ σ'=>σ'.fQ=σ.fQ/\σ'.act=σ.act):=by
 unfold lp;refine ji.bind (jy h d hw t p l) (c2:=0) ?_ (by omega);rintro _ q k v _ ⟨j,g⟩;refine ji.ic ((yD k (D9 g d)).mono (gr _) ?_);rintro x u _ _ ⟨rfl,_⟩;exact⟨aaS g,g.act⟩
def oR (h:mD σ) (d:σ.fQ≠[]) (t:fZ) (hw:wt σ+t.chars.size+1<=1000000):ji (t.chars.size+1) σ (jQ t σ) (λ_ σ'=>Rest σ σ'):=by
 have⟨r,hr⟩:=h;have⟨pl,p1,p2,_⟩:=Fi hr d;unfold jQ;rw[M.fP,p1];dsimp only;exact ji.ic (m:=uT pl t.chars) (Q0 ⟨r,hr⟩ p2 t.chars hw)
def QC (h:ru s=true):ng s=false:=by
 unfold ru gI at h;rw[List.any_eq_true]at h;have⟨x,hx,he⟩:=h;have e:=tU he;simp only[kA,FG,kJ]at hx;rcases hx with rfl|rfl|rfl|rfl<;>(rw[e];simp[ng,ku,ac2,acU,sH])
def D5 (h:ru s=true):s≠fy:=by
 rintro rfl;simp[ru,gI,ku,sH]at h
theorem ZF (h:(pI xs x (some j))[m]?=some y):xs[m]?=some y\/y=some j:=by
 unfold pI at h
 grind
theorem Jm (xs:j5) (x y:iM):(pI xs x y).length=xs.length:=by
 grind[pI]
theorem Kf (h:z∈pI xs x y):z∈xs\/z=y:=by
 unfold pI at h
 grind
theorem Vd (h:mD σ) {d : Nat} (l:(σ.gF d).isSome=true) (k:jA σ j s) (p:ru s=true):ji 0 σ (rA (some d) (some j) σ) (λ_ σ'=>σ'.fQ=σ.fQ/\σ'.act=pI σ.act (some d) (some j)/\σ'.fresh=σ.fresh):=by
 have⟨r,h⟩:=h;have⟨ej,hej,hn⟩:=k;unfold rA;rw[fU (by grind[Ab.gx])];have⟨g1,g2⟩:=h.Dg (ys:=pI σ.act (some d) (some j)) (λi g=>by
  rcases Kf g with g|g
  .exact h.act i g
  grind) (by rw[Jm];exact h.Ac)
 exact⟨⟨r,g1⟩,g2,nk (jh rfl),rfl,rfl,rfl⟩
def Be (g:σ.gF i=some e) (d:ru e.name=true):kH i σ= .ok σ.nodes.length (σ.pi (.el {name:=e.name,gy:=e.gy,iJ:=none,kids:=[]}) σ.fresh):=by
 unfold kH;rw[g];dsimp only;rw[QC d];rfl
theorem P6:∀(k n:Nat) {σ:Ab},mD σ->σ.fQ≠[]->wt σ+k < 999999->n+k<=σ.act.length->(∀m,n<=m->m < n+k->∃i,σ.act[m]?=some (some i))->ji k σ (GP k n σ) (λ_ σ'=>σ.fQ <+:σ'.fQ/\σ'.act.length=σ.act.length/\σ'.fresh=σ.fresh)
 |0,n,σ,h,_,_,_,_=>ji.ret h ⟨List.prefix_refl _,rfl,rfl⟩
 |k+1,n,σ,h,hne,hw,hl,ha=>by
  have⟨old,ho⟩:=ha n (gr _) (by omega);have⟨r,hr⟩:=h;have⟨eo,heo,hfo⟩:=hr.act old (tK ho);have B:F0 n σ= .ok old σ:=by
   unfold F0;rw[qZ,uX,ho];rfl
  unfold GP;rw[M.fP,B];dsimp only;rw[M.fP,Be heo hfo];dsimp only;rw[M.fP];have F:=N8 ⟨r,hr⟩ hne (by omega) eo.name eo.gy σ.fresh;revert F;cases hq:lG σ.nodes.length (σ.pi (.el {name:=eo.name,gy:=eo.gy,iJ:=none,kids:=[]}) σ.fresh)with
  |stop e p=>simp[ji]
  |stuck=>simp[ji]
  |ok u σ1=>
   rintro⟨L,v,V,j,l,A⟩;dsimp only;have C:qW old σ1=rA (some old) (some j) σ1:=by unfold qW;rw[Dz l]
   have⟨eo1,heo1,_⟩:=v.nm old eo.name ⟨eo,heo,rfl⟩;have G:ji (k+0) σ1 ((qW old>>=λ_=>GP k (n+1)) σ1) (λ_ σ'=>σ.fQ <+:σ'.fQ/\σ'.act.length=σ.act.length/\σ'.fresh=σ.fresh):=by
    refine ji.bind (c1:=0) (by rw[C];exact Vd L (by grind) l.nm hfo) (c2:=k) ?_ (by omega);rintro _ d N K W ⟨O,q,S⟩;have g:d.act.length=σ.act.length:=by rw[q,Jm,l.act]
    refine(P6 k (n+1) N (K.ne (v.ne hne)) (by omega) (by omega) ?_).mono (gr _) ?_
    .intro m F G;have⟨i,hi⟩:=ha m (by omega) (by omega);have U:m < d.act.length:=by omega
     cases hx:d.act[m]? with
     |none=>grind
     |some y=>
      rw[q]at hx;rcases ZF hx with H|H
      .rw[l.act,hi]at H;grind
      grind
    .rintro _ D _ _ ⟨P,E,T⟩;refine⟨?_,E.trans g,T.trans (S.trans A)⟩;refine List.IsPrefix.trans ?_ P;rw[O,l.fQ];simp
   revert G;cases((qW old>>=λ_=>GP k (n+1)) σ1)with
   |ok a D=>rintro⟨I,q,E,J⟩;exact⟨I,v.trans q,by omega,J⟩
   |stop e p=>exact λh=>CG h v.gp
   |stuck=>simp[ji]
theorem Mj (σ:Ab):∀ys:j5,σ.tN ys<=ys.length/\∀m,m < ys.length - σ.tN ys->∃i,ys[m]?=some (some i)
 |[]=>⟨gr _,λm g=>by grind⟩
 |x::ys=>by
  unfold Ab.tN
  by_cases d:σ.Sm x=true
  .grind
  .rw[gn d];have⟨h1,h2⟩:=Mj σ ys;refine⟨by grind,λm g=>?_⟩;cases m with
   |zero=>
    cases x with
    |none=>exact absurd (by rfl) d
    |some i=>simp
   |succ m=>exact h2 m (by grind)
theorem nP (h:mD σ) (d:σ.fQ≠[]) (hw:wt σ+32 < 999999):ji 32 σ (lA σ) (λ_ σ'=>σ.fQ <+:σ'.fQ/\σ'.act.length=σ.act.length/\σ'.fresh=σ.fresh):=by
 unfold lA;have⟨h1,h2⟩:=Mj σ σ.act.reverse;have k:σ.AU<=σ.act.length:=by simpa [Ab.AU]using h1
 have g:σ.act.length<=32:=by have⟨r,hr⟩:=h;exact jC hr.Ac hr.RW
 refine(P6 (σ.act.length - σ.AU) σ.AU h d (by omega) (by omega) ?_).mono (by omega) (λ_ _ _ _ h=>h);intro m l p;have⟨i,hi⟩:=h2 (σ.act.length - 1 - m) (by
  have e:σ.tN σ.act.reverse=σ.AU:=rfl
  grind)
 grind
structure V2 (σ:Ab) (o a:j5) (σ':Ab):Prop where
 nodes:σ'.nodes=σ.nodes
 fQ:σ'.fQ=o
 act:σ'.act=a
 fresh:σ'.fresh=σ.fresh
def yT (h:mD σ) (g:σ.gx x=true):ji 0 σ (kB x σ) (λ_ σ'=>V2 σ σ.fQ (σ.act.erase x) σ'):=by
 have⟨r,h⟩:=h;unfold kB;rw[fU g];have⟨g1,g2⟩:=h.Dg (ys:=σ.act.erase x) (λi d=>h.act i (AB d)) (jC (List.length_erase_le) h.Ac);exact⟨⟨r,g1⟩,g2,nk (jh rfl),rfl,rfl,rfl,rfl⟩
def Sv (h:z∈od xs x):z∈xs:=by
 unfold od at h;rw[List.mem_reverse]at h;exact List.mem_reverse.1 ((Z7 _).subset ((List.tail_sublist _).subset h))
theorem Wl (xs:j5) (x:iM):(od xs x).length<=xs.length:=by
 unfold od;rw[List.length_reverse,List.length_tail];have:=(Z7 (p:=λy=>decide (y≠x)) (l:=xs.reverse)).length_le
 grind
def JZ (h:mD σ):ji 0 σ (zi σ) (λ_ σ'=>V2 σ σ.fQ (od σ.act none) σ'):=by
 refine ji.ic (m:=Cs none) ?_;have⟨r,h⟩:=h;unfold Cs;rw[fU (show σ.gx none=true from rfl)];have⟨g1,g2⟩:=h.Dg (ys:=od σ.act none) (λi d=>h.act i (Sv d)) (jC (Wl _ _) h.Ac);exact⟨⟨r,g1⟩,g2,nk (jh rfl),rfl,rfl,rfl,rfl⟩
theorem vI (h:mD σ) (x:iM) (l:∀i,x=some i->∃e,σ.gF i=some e/\ru e.name=true):ji 0 σ (lh x σ) (λ_ σ'=>V2 σ σ.fQ (σ.act++[x]) σ'):=by
 have⟨r,h⟩:=h;unfold lh;split
 .rfl
 .rename_i k;have g:σ.gx x=true:=by
   cases x with
   |none=>rfl
   |some i=>grind[Ab.gx]
  rw[fU g];have⟨g1,g2⟩:=h.Dg (ys:=σ.act++[x]) (λi d=>by
   rcases List.mem_append.1 d with d|d
   .exact h.act i d
   grind) (by grind)
  exact⟨⟨r,g1⟩,g2,nk (jh rfl),rfl,rfl,rfl,rfl⟩
theorem Cx (σ:Ab) (j:Nat):∀(ys:j5) (c:iM×Nat),(σ.se j ys c).1=c.1\/(σ.se j ys c).1∈ys
 |[],c=> .inl rfl
 |none::_,c=> .inl rfl
 |some i::ys,c=>by
  unfold Ab.se;split
  .rcases Cx σ j ys (some i,c.2+1)with h|h
   all_goals grind
  .rcases Cx σ j ys c with h|h
   all_goals grind
theorem X8 (h:mD σ) (v:jA σ i s) (E:ru s=true):ji 0 σ (N4 i σ) (λ_ σ'=>σ'.fQ=σ.fQ/\σ'.fresh=σ.fresh):=by
 have⟨e,he,hn⟩:=v;have g:∀d,mD d->d.nodes=σ.nodes->ji 0 d (lh (some i) d) (λ_ σ'=>V2 d d.fQ (d.act++[some i]) σ'):=by
  intro d k B;refine vI k (some i) ?_;intro j A;cases A;exact⟨e,by grind[Ab.gF],by grind⟩
 have p:σ.gx (σ.se i σ.act.reverse (none,0)).1=true:=by
  rcases Cx σ i σ.act.reverse (none,0)with k|k
  .rw[k];rfl
  .cases hx:(σ.se i σ.act.reverse (none,0)).1 with
   |none=>rfl
   |some j=>
    rw[hx]at k;have⟨r,hr⟩:=h;have⟨ej,hej,_⟩:=hr.act j (List.mem_reverse.1 k)
    grind[Ab.gx]
 unfold N4;dsimp only;split
 .refine ji.bind (yT h p) (c2:=0) ?_ (by omega);rintro _ d C D _ q;refine ji.ic ((g d C q.nodes).mono (gr _) ?_);rintro _ u _ _ l;exact⟨l.fQ.trans q.fQ,l.fresh.trans q.fresh⟩
 .refine ji.ic ((g σ h rfl).mono (gr _) ?_);rintro _ u _ _ l;exact⟨l.fQ,l.fresh⟩
theorem Da (h:xs.head?≠some x):(xs.erase x).head?=xs.head?:=by
 cases xs with
 |nil=>rfl
 |cons y r=>
  grind
def jn.DT (h:jn r σ) (g:jA σ i s) (k:s≠fy):σ.fQ.head?≠some (some i):=by
 intro e;have d:=h.Il e;have⟨ei,he,hn⟩:=g;apply k;rw[<-hn,<-d];show _=σ.nm i;unfold Ab.nm;rw[he]
theorem Cm (h:mD σ) (d:jA σ i s) (g:s≠fy):ji 0 σ (jY (some i) σ) (λ_ σ'=>V2 σ (σ.fQ.erase (some i)) σ.act σ'):=by
 have⟨r,h⟩:=h;have⟨e,he,_⟩:=id d;unfold jY;rw[fU (by grind[Ab.gx])];have⟨g1,g2⟩:=h.sub (ys:=σ.fQ.erase (some i)) List.erase_sublist (Da (h.DT d g));exact⟨⟨r,g1⟩,g2,nk (jh rfl),rfl,rfl,rfl,rfl⟩
theorem Ek:∀{ys:j5},x∈ys->∃j,j < ys.length/\ys.dropWhile (λy=>decide (y≠x))=ys.drop j/\ys[j]?=some x
 |[],h=>by cases h
 |y::ys,h=>by
  by_cases g:y=x
  .subst g;exact⟨0,by simp,by simp,rfl⟩
  .have d:x∈ys:=by
    rcases List.mem_cons.1 h with h|h
    .grind
    .exact h
   have⟨j,h1,h2,h3⟩:=Ek d;refine⟨j+1,by grind,?_,by grind⟩
   simp_all
theorem Tv (l:x∈xs) (d:xs.head?≠some x):∃k,1<=k/\k < xs.length/\od xs x=xs.take k:=by
 have⟨j,h1,h2,h3⟩:=Ek (List.mem_reverse.2 l);have g:j < xs.length:=by simpa using h1
 have e:od xs x=xs.take (xs.length - (j+1)):=by
  unfold od;rw[h2,List.tail_drop,ug]
 refine⟨_,?_,by omega,e⟩;rcases mq (j+1) xs.length with h|h
 .omega
 .exfalso;apply d;rw[Qo g]at h3;rw[zB]
  grind
theorem Tp (h:mD σ) (d:jA σ i s) (l:s≠fy) (g:some i∈σ.fQ):ji 0 σ (A8 (some i) σ) (λ_ σ'=>uK σ σ'):=by
 have⟨r,h⟩:=h;have⟨e,he,_⟩:=id d;unfold A8;rw[fU (by grind[Ab.gx])];have⟨k,k1,k2,k3⟩:=Tv g (h.DT d l);rw[k3];have⟨g1,g2⟩:=h.sub (ys:=σ.fQ.take k) (Cz _ _) (Bz k1);exact⟨⟨r,g1⟩,g2,nk (jh rfl),rfl,rfl,rfl,k,rfl⟩
theorem Qe (h:j∈ie ks) (l:(ie ks).Nodup):ie (ks.eraseIdx (ks.findIdx (Nd.gx j)))=(ie ks).erase j:=by
 induction ks with
 |nil=>cases h
 |cons k r ih=>
  by_cases d:Nd.gx j k=true
  .cases k with
   |el i=>
    grind[ie,Nd.gx]
   |tx i=>cases d
   |cm i=>cases d
   |dt i=>cases d
  .have g:Nd.gx j k=false:=by simpa using d
   rw[List.findIdx_cons,g];simp only[cond_false,List.eraseIdx_cons_succ];cases k with
   |el i=>
    grind[ie,Nd.gx]
   |tx i=>exact ih h l
   |cm i=>exact ih h l
   |dt i=>exact ih h l
theorem jn.me (h:jn r σ) {ej : Al} (D:σ.gF j=some ej):
  ∃σ',me j σ= .ok () σ'/\jn r σ'/\Fx σ σ'/\wt σ'<=wt σ/\σ'.fQ=σ.fQ/\σ'.act=σ.act/\σ'.fresh=σ.fresh/\σ'.nodes.length=σ.nodes.length/\(∃A,σ'.gF j=some A/\A.iJ=none/\A.name=ej.name):=by
 unfold Go.Proofs.YtlhhgenpcjjajaaGreatDoor.me;rw[D];dsimp only;cases hp:ej.iJ with
 |none=>exact⟨σ,rfl,h,Fx.refl _,gr _,rfl,rfl,rfl,rfl,ej,D,hp,rfl⟩
 |some p=>
  have⟨ep,hep,hm⟩:=h.oq.up j ej p D hp;have a8:=h.tD.iJ j ej p D hp;have F:j≠p:=by rintro rfl;omega
  have⟨q1,q2⟩:=UE hm;dsimp only;rw[hep];dsimp only;rw[fU ⟨F,q1,q2⟩];have a1:=Ab.gL hep;have a5:=Ab.gL D;have K:(qc ep.kids (Nd.gx j)).toNat=ep.kids.findIdx (Nd.gx j):=by
   unfold qc at q2|-
   by_cases hf:ep.kids.findIdx (Nd.gx j) < ep.kids.length
   .omega
   .exfalso;apply hf;exact XQ ⟨_,yt.1 hm,by simp[Nd.gx]⟩
  rw[K]at q2|-;obtain⟨ks,E⟩:∃ks,ks=ep.kids.eraseIdx (ep.kids.findIdx (Nd.gx j)):=⟨_,rfl⟩;rw[<-E];have a6:ks.length+1=ep.kids.length:=by rw[E,Zl q2];omega
  have O:ie ks=(ie ep.kids).erase j:=by rw[E];exact Qe hm (h.oq.nd p ep hep)
  have P:∀k∈ks,k∈ep.kids:=λk I=>by rw[E]at I;exact(List.eraseIdx_sublist _ _).subset I
  obtain⟨σ',g⟩:∃σ',σ'=(σ.gE p {ep with kids:=ks}).gE j {ej with iJ:=none}:=⟨_,rfl⟩;rw[<-g];have g1:σ'.gF p=some {ep with kids:=ks}:=by rw[g,Ab.iy (xH F),Ab.iF a1]
  have g2:σ'.gF j=some {ej with iJ:=none}:=by rw[g,Ab.iF (by grind[Ab.gE])]
  have g3:∀i,i≠p->i≠j->σ'.gF i=σ.gF i:=λi l B=>by rw[g,Ab.iy B,Ab.iy l]
  have L:(σ.gF p).isSome=true:=by rw[hep];rfl
  have N:((σ.gE p {ep with kids:=ks}).gF j).isSome=true:=by rw[Ab.iy F,D];rfl
  have gk:∀k,σ'.iR k=σ.iR k:=λk=>by rw[g,Ab.kR N,Ab.kR L]
  have ge:∀x,σ'.lH x=σ.lH x:=λx=>by rw[g,Ab.yc N,Ab.yc L]
  have G:∀i e,σ.gF i=some e->∃A,σ'.gF i=some A/\A.name=e.name/\(i≠p->A.kids=e.kids)/\(i≠j->A.iJ=e.iJ):=by
   intro i e C
   by_cases l:i=p
   .grind
   .grind
  have v:∀i A,σ'.gF i=some A->(i=p/\A={ep with kids:=ks})\/(i=j/\A={ej with iJ:=none})\/(i≠p/\i≠j/\σ.gF i=some A):=by
   intro i A C
   by_cases l:i=p
   .grind
   .grind
  have S:∀i s,jA σ i s->jA σ' i s:=λi s ⟨e,C,hn⟩=>by
   grind[jA]
  have a9:∀i e q,σ.gF i=some e->i≠j->e.iJ=some q->∃X,σ'.gF q=some X/\i∈ie X.kids:=by
   intro i e q C a4 T;have⟨X,B,H⟩:=h.oq.up _ _ q C T;have⟨eq',h4,_,h5,_⟩:=G q X B;refine⟨eq',h4,?_⟩
   by_cases a7:q=p
   .grind
   .grind
  have Z:∀i e x,σ.gF i=some e->x∈ie e.kids->x≠j->∃J,σ'.gF x=some J/\J.iJ=some i:=by
   intro i e x C U a2;have⟨J,B,H⟩:=h.oq.dn i e x C U;have⟨ex',h4,_,_,h5⟩:=G x J B;exact⟨ex',h4,(h5 a2).trans H⟩
  have a3:∀i e,σ.gF i=some e->j∈ie e.kids->i=p:=by
   intro i e C a0;have⟨J,B,H⟩:=h.oq.dn i e j C a0;rw[D]at B;cases B;rw[hp]at H;exact(jr H).symm
  refine⟨σ',rfl,⟨⟨?_,?_,?_,?_⟩,⟨?_,?_,?_⟩,λx U=>?_,λi u=>?_,λd Y=>S _ _ (h.head d ?_),λd Y=>S _ _ (h.form d ?_),λy W hy=>?_,?_,?_,?_,?_,?_⟩,?_,?_,?_,?_,?_,?_,?_⟩
  .grind
  .intro i e x u U;rcases v i e u with⟨l,rfl⟩|⟨l,rfl⟩|⟨H,B,l⟩
   .rw[l];have V:x∈(ie ep.kids).erase j:=by rw[<-O];exact U
    exact Z p ep x hep (AB V) (λe=>by
     subst e;exact(List.Nodup.not_mem_erase (h.oq.nd p ep hep)) V)
   all_goals grind
  .intro i e u;rcases v i e u with⟨l,rfl⟩|⟨l,rfl⟩|⟨_,_,l⟩
   .show(ie ks).Nodup;rw[O];exact(h.oq.nd p ep hep).erase j
   .show(ie ej.kids).Nodup;exact h.oq.nd _ _ D
   .exact h.oq.nd _ _ l
  .intro i e u k I;rw[gk];rcases v i e u with⟨l,rfl⟩|⟨l,rfl⟩|⟨_,_,l⟩
   .exact h.oq.kd _ _ hep k (P k I)
   .exact h.oq.kd _ _ D k I
   .exact h.oq.kd _ _ l k I
  .intro i e q u T;rcases v i e u with⟨l,rfl⟩|⟨l,rfl⟩|⟨_,_,l⟩
   .rw[l];exact h.tD.iJ _ _ q hep T
   .cases T
   .exact h.tD.iJ _ _ q l T
  .rw[g];exact h.tD.fQ
  .rw[g];exact h.tD.hd
  .rw[ge];exact h.fQ x (by rwa [g]at U)
  .have⟨e,C,hf⟩:=h.act i (by rw[g]at u;exact u)
   grind
  .rwa [g]at Y
  .rwa [g]at Y
  .have⟨z,l,B⟩:=h.Mn y W (by rwa [g]at hy)
   grind
  .rw[g];exact h.ve
  .rw[g];exact h.Ac
  .rw[g];exact h.Qy
  .rw[g];exact h.RW
  .have⟨e,C⟩:=Option.isSome_iff_exists.1 h.vc
   grind
  .rw[g];exact⟨rfl,rfl,rfl,rfl,rfl,rfl,rfl,rfl,rfl,rfl,rfl,by grind,λ_=>rfl⟩
  .have w1:=rN (e':={ep with kids:=ks}) hep;have w2:=rN (σ:=σ.gE p {ep with kids:=ks}) (e':={ej with iJ:=none}) (by rw[Ab.iy F];exact D)
   grind
  .rw[g];rfl
  .rw[g];rfl
  .rw[g];rfl
  .rw[g,Ab.nr,Ab.nr]
  grind
structure adn (σ:Ab) (d:Nat) (ed:Al) (ks:List Nd) (σ':Ab):Prop where
 eq:σ'={σ with nodes:=σ'.nodes}
 len:σ'.nodes.length=σ.nodes.length
 dst:σ'.gF d=some {ed with kids:=ed.kids++ks}
 dw:∀i,i≠d->σ'.gF i=if i∈ie ks then (σ.gF i).map (λe=>{e with iJ:=some d})else σ.gF i
 db:∀k,σ'.iR k=σ.iR k
 wt:wt σ'=wt σ+ks.length
def UZ (ks:List Nd) (k:Nd):ins ks ks.length k=ks++[k]:=by simp[ins]
theorem FJ:∀(ks:List Nd) {σ:Ab} {d:Nat} {ed:Al},σ.gF d=some ed->(∀k∈ks,σ.iR k=true)->d∉ie ks->(ie ks).Nodup->ed.kids.length+ks.length < 1000000->∃σ',yy d ks σ= .ok () σ'/\adn σ d ed ks σ'
 |[],σ,d,ed,hd,_,_,_,_=>⟨σ,rfl,rfl,rfl,by simp_all,λi _=>by rfl,λ_=>rfl,rfl⟩
 |k::ks,σ,d,ed,hd,hk,hn,hnd,hl=>by
  simp only[sV]at hl;have C:=Ab.gL hd;have v:(σ.gF d).isSome=true:=by rw[hd];rfl
  have O:jf d σ= .ok (d,ed.kids.length) σ:=by unfold jf;rw[hd]
  unfold yy;rw[M.fP,O];dsimp only;rw[M.fP];have D:=hk k (xl ..);have A:∀(G:Nd),(∀j,G≠ .el j)->k=G->∃g,zQ (d,ed.kids.length) G σ= .ok () g/\∃σ',yy d ks g= .ok () σ'/\adn σ d ed (k::ks) σ':=by
   intro G S K;subst K;have J:zQ (d,ed.kids.length) k σ= .ok () (σ.gE d {ed with kids:=ed.kids++[k]}):=by
    unfold zQ;dsimp only;rw[hd];dsimp only;rw[fU ⟨D,gr _,by omega⟩,UZ]
   refine⟨_,J,?_⟩;have u:ie (k::ks)=ie ks:=by
    cases k with
    |el j=>grind
    |tx j=>rfl
    |cm j=>rfl
    |dt j=>rfl
   rw[u]at hn hnd;have⟨σ',B,p⟩:=FJ ks (σ:=σ.gE d {ed with kids:=ed.kids++[k]}) (d:=d) (ed:={ed with kids:=ed.kids++[k]}) (Ab.iF C) (λx T=>by rw[Ab.kR v];grind) hn hnd (by grind);refine⟨σ',B,p.eq,by rw[p.len,Ab.nr],by rw[p.dst];simp,?_,λx=>by rw[p.db,Ab.kR v],?_⟩
   .intro i F;rw[p.dw i F,u,Ab.iy F]
   .have U:=rN (e':={ed with kids:=ed.kids++[k]}) hd;have V:=p.wt
    grind
  cases k with
  |tx j=>
   have⟨g,e1,σ',e2,e3⟩:=A (.tx j) (λ_ h=>by cases h) rfl;rw[show FC (d,ed.kids.length) (.tx j) σ= .ok () g from e1]
   grind
  |cm j=>
   have⟨g,e1,σ',e2,e3⟩:=A (.cm j) (λ_ h=>by cases h) rfl;rw[show FC (d,ed.kids.length) (.cm j) σ= .ok () g from e1]
   grind
  |dt j=>
   have⟨g,e1,σ',e2,e3⟩:=A (.dt j) (λ_ h=>by cases h) rfl;rw[show FC (d,ed.kids.length) (.dt j) σ= .ok () g from e1]
   grind
  |el j=>
   have q:j≠d:=by rintro rfl;exact hn (xl ..)
   have⟨ej,hej⟩:=Option.isSome_iff_exists.1 (show(σ.gF j).isSome=true from D);have P:=Ab.gL hej;obtain⟨g,l⟩:∃g,g=(σ.gE d {ed with kids:=ed.kids++[.el j]}).gE j {ej with iJ:=some d}:=⟨_,rfl⟩;have J:FC (d,ed.kids.length) (.el j) σ= .ok () g:=by
    show nj (d,ed.kids.length) j σ=_;unfold nj;dsimp only;rw[hd,hej];dsimp only;rw[fU ⟨q,gr _,by omega⟩,UZ,l]
   rw[J];dsimp only;have H:((σ.gE d {ed with kids:=ed.kids++[.el j]}).gF j).isSome=true:=by rw[Ab.iy q,hej];rfl
   have N:∀k,g.iR k=σ.iR k:=λk=>by rw[l,Ab.kR H,Ab.kR v]
   have L:g.gF d=some {ed with kids:=ed.kids++[.el j]}:=by rw[l,Ab.iy (xH q),Ab.iF C]
   have W:g.gF j=some {ej with iJ:=some d}:=by rw[l,Ab.iF (by grind[Ab.gE])]
   have go:∀i,i≠d->i≠j->g.gF i=σ.gF i:=λi B p=>by rw[l,Ab.iy p,Ab.iy B]
   have I:d∉ie ks:=λh=>hn (rj _ h);have E:=List.nodup_cons.1 (show(j::ie ks).Nodup from hnd);have⟨σ',B,p⟩:=FJ ks (σ:=g) (d:=d) (ed:={ed with kids:=ed.kids++[.el j]}) L (λx T=>by grind) I E.2 (by grind);refine⟨σ',B,?_,by rw[p.len,l,Ab.nr,Ab.nr],by rw[p.dst];simp,?_,λx=>by rw[p.db,N],?_⟩
   .have:=p.eq;rwa [l]at this
   .intro i F;rw[p.dw i F]
    grind[ie]
   .have U:=rN (e':={ed with kids:=ed.kids++[.el j]}) hd;have V:=rN (σ:=σ.gE d {ed with kids:=ed.kids++[.el j]}) (e':={ej with iJ:=some d}) (by rw[Ab.iy q];exact hej);have X:=p.wt
    grind
theorem jn.hand (h:jn r σ) {d : Nat} {g ed : Al} (A:σ.gF b=some g) (hd:σ.gF d=some ed) (K:b≠d) (T:ed.kids=[]) (W:ed.iJ=none) (hr:∀k∈ie g.kids,r d < r k) (hw:wt σ < 999999):
  ∃σ',handOver b d σ= .ok () σ'/\jn r σ'/\Fx σ σ'/\wt σ'=wt σ/\σ'.fQ=σ.fQ/\σ'.act=σ.act/\σ'.fresh=σ.fresh/\σ'.nodes.length=σ.nodes.length/\σ'.gF b=some {g with kids:=[]}/\σ'.gF d=some {ed with kids:=g.kids}:=by
 have a0:=Ab.gL A;have a3:d∉ie g.kids:=by
  intro U;have⟨e2,h1,h2⟩:=h.oq.dn b g d A U;rw[hd]at h1;cases h1;rw[W]at h2;cases h2
 have a1:b∉ie g.kids:=by
  intro U;have⟨e2,h1,h2⟩:=h.oq.dn b g b A U;have:=h.tD.iJ b e2 b h1 h2;omega
 have ad:=Hl A;have⟨σ1,h1,h2⟩:=FJ g.kids hd (h.oq.kd b g A) a3 (h.oq.nd b g A) (by grind);have J:σ1.gF b=some g:=by rw[h2.dw b K,gn a1];exact A
 have a2:σ1.gF d=some {ed with kids:=g.kids}:=by rw[h2.dst,T];simp
 obtain⟨σ',v⟩:∃σ',σ'=σ1.gE b {g with kids:=[]}:=⟨_,rfl⟩;have hq:handOver b d σ= .ok () σ':=by
  unfold handOver;rw[A];dsimp only;rw[gn K];change M.bind (yy d g.kids) (λ_ σ'=>match σ'.gF b with|some eb'=> .ok () (σ'.gE b {eb' with kids:=[]})|none=> .stuck) σ=_
  unfold M.bind;rw[h1];dsimp only;rw[J,v]
 have P:(σ1.gF b).isSome=true:=by rw[J];rfl
 have gb:σ'.gF b=some {g with kids:=[]}:=by rw[v,Ab.iF (by rw[h2.len];exact a0)]
 have gd:σ'.gF d=some {ed with kids:=g.kids}:=by rw[v,Ab.iy (xH K)];exact a2
 have go:∀i,i≠d->i≠b->σ'.gF i=if i∈ie g.kids then (σ.gF i).map (λe=>{e with iJ:=some d})else σ.gF i:=λi l B=>by rw[v,Ab.iy B,h2.dw i l]
 have gk:∀k,σ'.iR k=σ.iR k:=λk=>by rw[v,Ab.kR P,h2.db]
 have q:σ'={σ with nodes:=σ'.nodes}:=by
  rw[v];have:=h2.eq;show({σ1 with nodes:=_}:Ab)=_;rw[this];rfl
 have u:∀i F,σ'.gF i=some F->(i=b/\F={g with kids:=[]})\/(i=d/\F={ed with kids:=g.kids})\/(i≠b/\i≠d/\i∈ie g.kids/\∃e,σ.gF i=some e/\F={e with iJ:=some d})\/(i≠b/\i≠d/\i∉ie g.kids/\σ.gF i=some F):=by
  intro i F D
  by_cases l:i=b
  .grind
  .by_cases B:i=d
   .grind
   .rw[go i B l]at D
    by_cases E:i∈ie g.kids
    .rw[fU E]at D;have⟨e,h5,h6⟩:=Option.map_eq_some_iff.1 D
     grind
    grind
 have aa:∀i e,σ.gF i=some e->∃F,σ'.gF i=some F/\F.name=e.name:=by
  intro i e D
  by_cases l:i=b
  .grind
  .grind
 have H:∀i s,jA σ i s->jA σ' i s:=λi s ⟨e,D,hn⟩=>by
  grind[jA]
 have a7:∀i e p,σ.gF i=some e->e.iJ=some p->i∉ie g.kids->∃I,σ'.gF p=some I/\i∈ie I.kids:=by
  intro i e p D hp a9;have⟨I,h5,h6⟩:=h.oq.up i e p D hp;have X:p≠b:=by rintro rfl;rw[A]at h5;cases h5;exact a9 h6
  have Y:p≠d:=by rintro rfl;rw[hd]at h5;cases h5;rw[T]at h6;cases h6
  rw[go p Y X]
  by_cases E:p∈ie g.kids
  .grind
  .grind
 have ab:∀i e p,σ.gF i=some e->i≠b->i≠d->p∈ie e.kids->∃I,σ'.gF p=some I/\I.iJ=some i:=by
  intro i e p D a5 ac U;have⟨I,h5,h6⟩:=h.oq.dn i e p D U;have Y:p≠d:=by rintro rfl;rw[hd]at h5;cases h5;rw[W]at h6;cases h6
  have ae:p∉ie g.kids:=by
   intro a8;have⟨e3,h7,h8⟩:=h.oq.dn b g p A a8;rw[h5]at h7;cases h7;rw[h6]at h8;exact a5 (jr h8)
  by_cases X:p=b
  .grind
  .grind
 have V:σ'.fQ=σ.fQ:=by rw[q]
 have O:σ'.act=σ.act:=by rw[q]
 have S:σ'.head=σ.head:=by rw[q]
 have a4:σ'.form=σ.form:=by rw[q]
 refine⟨σ',hq,⟨⟨?_,?_,?_,?_⟩,⟨?_,?_,?_⟩,?_,?_,?_,?_,?_,?_,?_,?_,?_,?_⟩,?_,?_,V,O,by rw[q],?_,gb,gd⟩
 .grind
 .intro i e j G hj;rcases u i e G with⟨l,rfl⟩|⟨l,rfl⟩|⟨l,B,E,N,C,rfl⟩|⟨l,B,E,C⟩
  .cases hj
  .rw[l];have a6:j∈ie g.kids:=hj;have⟨ej,h5,_⟩:=h.oq.dn b g j A a6
   grind
  all_goals grind
 .intro i e G;rcases u i e G with⟨l,rfl⟩|⟨l,rfl⟩|⟨l,B,E,N,C,rfl⟩|⟨l,B,E,C⟩
  .simp[ie]
  .show(ie g.kids).Nodup;exact h.oq.nd b g A
  .show(ie N.kids).Nodup;exact h.oq.nd i N C
  .exact h.oq.nd i e C
 .intro i e G k hk;rw[gk];rcases u i e G with⟨l,rfl⟩|⟨l,rfl⟩|⟨l,B,E,N,C,rfl⟩|⟨l,B,E,C⟩
  .cases hk
  .exact h.oq.kd b g A k hk
  .exact h.oq.kd i N C k hk
  .exact h.oq.kd i e C k hk
 .intro i e p G hp;rcases u i e G with⟨l,rfl⟩|⟨l,rfl⟩|⟨l,B,E,N,C,rfl⟩|⟨l,B,E,C⟩
  .rw[l];exact h.tD.iJ b g p A hp
  .grind
  .grind
  .exact h.tD.iJ i e p C hp
 .rw[V];exact h.tD.fQ
 .rw[V,S];exact h.tD.hd
 .rw[V];intro x L;obtain⟨i,e,rfl,D⟩:=ky (h.fQ x L)
  grind[Ab.lH]
 .rw[O];intro i G;have⟨e,D,hf⟩:=h.act i G
  grind
 .rw[S];exact λx L=>H _ _ (h.head x L)
 .rw[a4];exact λx L=>H _ _ (h.form x L)
 .rw[V];intro x Z L;have⟨z,l,B⟩:=h.Mn x Z L
  grind
 .rw[q];exact h.ve
 .rw[q];exact h.Ac
 .rw[q];exact h.Qy
 .rw[q];exact h.RW
 .have⟨e,D⟩:=Option.isSome_iff_exists.1 h.vc
  grind
 .rw[q]at H|-;exact⟨rfl,rfl,rfl,rfl,rfl,rfl,rfl,rfl,rfl,rfl,rfl,H,λ_=>rfl⟩
 .have w1:=h2.wt;have w2:=rN (e':={g with kids:=[]}) J
  grind
 .rw[v,Ab.nr];exact h2.len
theorem jn.nodup (h:jn r σ):σ.fQ.Nodup:=h.tD.fQ.imp λd e=>by grind
theorem jn.YF (h:jn r σ) (q:∀x∈ys,σ.lH x=true) (u:ys.Pairwise λx y=>rk r x < rk r y) (k:ys.head?=σ.fQ.head?) (v:ys.length<=σ.pS):jn r {σ with fQ:=ys}/\Fx σ {σ with fQ:=ys}:=by
 refine⟨⟨⟨h.oq.up,h.oq.dn,h.oq.nd,h.oq.kd⟩,⟨h.tD.iJ,u,?_⟩,q,h.act,h.head,h.form,?_,v,h.Ac,h.Qy,h.RW,h.vc⟩,⟨rfl,rfl,rfl,rfl,rfl,rfl,rfl,rfl,rfl,rfl,rfl,λ_ _ h=>h,λ_=>k⟩⟩
 .intro d x A p;exact h.tD.hd d x A (by grind)
 .intro x g p;have l:ys=x::g:=p;rw[l]at k;cases ho:σ.fQ with
  |nil=>grind
  |cons y r2=>
   rw[ho]at k;have e:x=y:=by simpa using k
   subst e;exact h.Mn x r2 ho
def Re (h:xs[n]?=some x):xs=xs.take n++x::xs.drop (n+1):=by
 have g:=(List.getElem?_eq_some_iff.1 h).1;have d:=(List.getElem?_eq_some_iff.1 h).2;rw[<-d,<-C9 g,IU]
theorem Sk (h:xs[n]?=some x) (d:xs.Nodup):x∉xs.take n:=by
 have e:=Re h
 grind
theorem Y1 (h:xs[n]?=some x) (d:xs.Nodup):xs.erase x=xs.take n++xs.drop (n+1):=by
 have g:=Sk h d
 conv=>lhs;rw[Re h]
 grind
theorem vg (h:xs[n]?=some x) (d:xs.Nodup):xs.idxOf x=n:=by
 grind
def A6 (h:xs[n]?=some x):n < xs.length:=(List.getElem?_eq_some_iff.1 h).1
def jn.vV (h:jn r σ) {x y : Nat} (g:σ.fQ[m]?=some (some x)) (k:σ.fQ[n]?=some (some y)) (d:m < n):r x < r y:=by
 have:=List.pairwise_iff_getElem.1 h.tD.fQ m n (A6 g) (A6 k) d
 rwa [(List.getElem?_eq_some_iff.1 g).2,(List.getElem?_eq_some_iff.1 k).2]at this
theorem jn.O7 (h:jA σ i s):σ.nm i=s:=by
 have⟨e,he,hn⟩:=h
 grind[Ab.nm]
def Tw (h:σ.gF i=some e):jA σ i (σ.nm i):=⟨e,h,by unfold Ab.nm;rw[h]⟩
theorem lV (h:jA σ i s):(σ.gF i).isSome=true:=by have⟨e,he,_⟩:=h;grind
theorem X1 (h:(σ.gF i).isSome=true):jA σ i (σ.nm i):=by
 grind[jA,Ab.nm]
structure RJ (r:Nat->Nat) (σ:Ab) (f gR n pf last mark:Nat):Prop where
 inv:jn r σ
 dA:(σ.gF last).isSome=true
 low:∀m x,m < n->σ.fQ[m]?=some (some x)->r x < r last
 cO:σ.fQ[pf]?=some (some f)
 dN:pf < n
 dx:some gR∈σ.fQ.drop n
 eA:n<=σ.fQ.length
 dH:(σ.gF mark).isSome=true
 nt:∀m x,pf < m->σ.fQ[m]?=some (some x)->ku (σ.nm x) fC=false
 fact:some f∈σ.act
def RJ.isSome (f:Fx σ σ') (h:(σ.gF i).isSome=true):(σ'.gF i).isSome=true:=lV (f.nm _ _ (X1 h))
def Fx.acS (f:Fx σ σ') (h:(σ.gF i).isSome=true):σ'.nm i=σ.nm i:=jn.O7 (f.nm _ _ (X1 h))
def RJ.n4 (h:jn r σ) {x : Nat} (d:σ.fQ[m]?=some (some x)):(σ.gF x).isSome=true:=h.fQ _ (tK d)
def Gf (f d pf c:Nat) (σ:Ab) (g:qI (Nat×Nat)):Prop:=match g with
 | .ok lm σ'=>Fx σ σ'/\wt σ'<=wt σ+c/\σ'.fresh=σ.fresh/\∃r,RJ r σ' f d (pf+1) pf lm.1 lm.2
 | .stop _ _=>False
 | .stuck=>False
def Gf.pre {g : Nat} {σ1 : Ab} {d : qI (Nat×Nat)} (h:Gf f g pf c σ1 d) (k:Fx σ σ1) (hw:wt σ1+c<=wt σ+c') (l:σ1.fresh=σ.fresh):Gf f g pf c' σ d:=by
 cases d with
 |ok lm σ'=>
  have⟨h1,h2,h3,h4⟩:=h;exact⟨k.trans h1,by omega,h3.trans l,h4⟩
 |stop e p=>exact h
 |stuck=>exact h
def TW (f k n c last g e:Nat):M (Nat×Nat):=λσ=>if some e∉σ.act then (jY (some e)>>=λ_=>mn f k n (c+1) last g) σ else (kH e>>=λd=>zN (some e) (some d)>>=λ_=>rA (some e) (some d)>>=λ_=>me last>>=λ_=>jf d>>=λpl=>nj pl last>>=λ_=>mn f k n (c+1) d (if last=k then d else g)) σ
def Oj (f g n c last d:Nat) (σ:Ab):mn f g (n+1) c last d σ=(FU n>>=λe=>if e=f then pure (last,d)else (if 3 < c+1 then kB (some e)else pure ())>>=λ_=>TW f g n c last d e) σ:=rfl
def yA (o a:j5) (n:Nat):Nat:=((o.take n).filter λx=>decide (x∈a)).length
def Mc {b : j5} (g:n<=m) (d:∀x∈o.take n,x∈b->x∈a):yA o b n<=yA o a m:=by
 unfold yA;have q:((o.take n).filter λx=>decide (x∈b)).length<=((o.take n).filter λx=>decide (x∈a)).length:=by
  rw[<-List.countP_eq_length_filter,<-List.countP_eq_length_filter];refine List.countP_mono_left ?_;intro x p k;simp at k|-;exact d x p k
 have u:((o.take n).filter λx=>decide (x∈a)).length<=((o.take m).filter λx=>decide (x∈a)).length:=by
  have l:(o.take n).Sublist (o.take m):=by
   have e:o.take n=(o.take m).take n:=by rw[Ml,Pa g]
   rw[e];exact Cz _ _
  exact(l.filter _).length_le
 omega
theorem V5 (h:o[n]?=some x) (d:x∈a):yA o a (n+1)=yA o a n+1:=by
 unfold yA;have e:o.take (n+1)=o.take n++[x]:=by rw[IW,h];rfl
 grind
theorem LM:∀{xs ys:j5},xs.Nodup->(∀x∈xs,x∈ys)->xs.length<=ys.length
 |[],_,_,_=>im _
 |x::xs,ys,hn,hs=>by
  have k:=hs x (xl ..);have⟨h1,h2⟩:=List.nodup_cons.1 hn;have g:=LM (xs:=xs) (ys:=ys.erase x) h2 (λy d=>(Fe (by grind)).2 (hs y (rj _ d)))
  grind
def acF (d:o.Nodup) (n:Nat):yA o a n<=a.length:=by
 unfold yA;refine LM ((d.sublist (Cz _ _)).sublist (List.filter_sublist)) ?_;simp
theorem C5 (f C pf:Nat) (s:fN) (hs:s≠fy):∀(n c last B:Nat) {r:Nat->Nat} {σ:Ab} {K:Nat},RJ r σ f C n pf last B->jA σ f s->yA σ.fQ σ.act n<=K->wt σ+K < 999990->Gf f C pf K σ (mn f C n c last B σ)
 |0,c,last,B,r,σ,K,h,_,_,_=>absurd h.dN (by omega)
 |n+1,c,last,B,r,σ,K,h,hfn,hK,hw=>by
  have aq:n < σ.fQ.length:=by have:=h.eA;omega
  have⟨e,ee,hoe,hel⟩:=h.inv.at aq;have ai:FU n σ= .ok e σ:=by
   unfold FU;rw[qZ,uX,hoe];rfl
  rw[Oj,M.fP,ai];dsimp only
  by_cases I:e=f
  .rw[fU I];have T:n=pf:=by
    have W:=vg hoe h.inv.nodup;have h2:=vg h.cO h.inv.nodup;rw[I]at W;omega
   subst T;exact⟨Fx.refl _,by omega,rfl,r,h⟩
  .rw[gn I];have T:n≠pf:=by
    intro T;rw[T,h.cO]at hoe;exact I (jr (jr hoe)).symm
   have U:pf < n:=by have:=h.dN;omega
   have hA:∃d,(if 3 < c+1 then kB (some e)else pure ()) σ= .ok () d/\jn r d/\Fx σ d/\V2 σ σ.fQ d.act d/\some f∈d.act/\∀x,x∈d.act->x∈σ.act:=by
    by_cases hc:3 < c+1
    .rw[fU hc];unfold kB;rw[fU (by grind[Ab.gx])];have⟨g1,g2⟩:=h.inv.Dg (ys:=σ.act.erase (some e)) (λi L=>h.inv.act i (AB L)) (jC (List.length_erase_le) h.inv.Ac);exact⟨_,rfl,g1,g2,⟨rfl,rfl,rfl,rfl⟩,(Fe (λe0=>I (jr e0).symm)).2 h.fact,λx q=>AB q⟩
    .rw[gn hc];exact⟨σ,rfl,h.inv,Fx.refl _,⟨rfl,rfl,rfl,rfl⟩,h.fact,λ_ h=>h⟩
   have⟨d,q1,i1,f1,l1,a1,sub1⟩:=hA;rw[M.fP,q1];dsimp only;unfold TW;have N:=l1.fQ;have a0:∀i,d.gF i=σ.gF i:=λi=>by unfold Ab.gF;rw[l1.nodes]
   have af:∀i,d.nm i=σ.nm i:=λi=>by unfold Ab.nm;rw[a0]
   have w1:wt d=wt σ:=jh l1.nodes;have H:d.fQ[n]?=some (some e):=by rw[N];exact hoe
   have G:=i1.nodup;have aj:d.fQ.head?≠some (some e):=by
    intro e0;rw[zB]at e0;have W:=vg e0 G;have h2:=vg H G;omega
   split
   .
    rename_i ad;rw[M.fP];have hq:jY (some e) d= .ok () {d with fQ:=d.fQ.erase (some e)}:=by
     unfold jY;rw[fU (by grind[Ab.gx])]
    rw[hq];dsimp only;have⟨g1,g2⟩:=i1.sub (ys:=d.fQ.erase (some e)) List.erase_sublist (Da aj);have he:d.fQ.erase (some e)=d.fQ.take n++d.fQ.drop (n+1):=Y1 H G;have ao:(d.fQ.take n).length=n:=by rw[List.length_take];rw[N];omega
    have ab:∀m,m < n->(d.fQ.erase (some e))[m]?=σ.fQ[m]?:=by
     intro m p;rw[he,Mo (by omega),EF,fU p,N]
    have al:∀m,n<=m->(d.fQ.erase (some e))[m]?=σ.fQ[m+1]?:=by
     intro m p;rw[he,N7 (by omega),ao,T1,N]
     congr 1;omega
    refine Gf.pre (C5 f C pf s hs n (c+1) last B (r:=r) (K:=K) ⟨g1,?_,?_,?_,U,?_,?_,?_,?_,a1⟩ ?_ ?_ ?_) (f1.trans g2) ?_ l1.fresh
    .exact RJ.isSome (f1.trans g2) h.dA
    .intro m x p q;exact h.low m x (by omega) (by grind)
    .show(d.fQ.erase (some e))[pf]?=_;rw[ab pf U];exact h.cO
    .show some C∈(d.fQ.erase (some e)).drop n;rw[he,List.drop_append_of_le_length (by omega),FT (by omega),rM,N];exact h.dx
    .grind
    .exact RJ.isSome (f1.trans g2) h.dH
    .intro m x p q;have V:(d.fQ.erase (some e))[m]?=some (some x):=q;show ku (d.nm x) _=_;rw[af];rcases mq m n with D|D
     .rw[ab m D]at V;exact h.nt m x p V
     .rw[al m D]at V;exact h.nt (m+1) x (by omega) V
    .exact(f1.trans g2).nm _ _ hfn
    .refine jC ?_ hK;show yA (d.fQ.erase (some e)) d.act n<=_;have e9:yA (d.fQ.erase (some e)) d.act n=yA σ.fQ d.act n:=by
      unfold yA;rw[he,Kc (by omega),Bd (by omega),N]
     rw[e9];exact Mc (lx _) (λx _ q=>sub1 x q)
    all_goals grind[wt]
   .
    rename_i ad;have a8:some e∈d.act:=by simpa using ad
    have⟨e1,he1,hfm⟩:=i1.act e a8;rw[M.fP,Be he1 hfm];dsimp only;obtain⟨j,hj⟩:∃j,j=d.nodes.length:=⟨_,rfl⟩;have⟨i2,f2⟩:=i1.new e1.name e1.gy d.fresh (r e);obtain⟨g,u⟩:∃g,g=d.pi (.el {name:=e1.name,gy:=e1.gy,iJ:=none,kids:=[]}) d.fresh:=⟨_,rfl⟩;rw[<-u]at i2 f2|-;have aa:g.gF j=some {name:=e1.name,gy:=e1.gy,iJ:=none,kids:=[]}:=by rw[u,hj];exact Ab.vE
    rw[<-hj]at i2|-;have w2:wt g=wt d:=by rw[u];exact EE _ _ _
    have Z:g.fQ=d.fQ:=by rw[u];rfl
    have a2:g.act=d.act:=by rw[u];rfl
    have ae:∀i,(d.gF i).isSome=true->i≠j:=by
     intro i L e0;have⟨ei,hei⟩:=Option.isSome_iff_exists.1 L;have:=Ab.gL hei;omega
    have aw:∀i,(d.gF i).isSome=true->xf r j (r e) i=r i:=λi L=>Dw (ae i L);have a9:(d.gF e).isSome=true:=by rw[he1];rfl
    have P:jA g j e1.name:=⟨_,aa,rfl⟩;have am:g.fQ.idxOf (some e)=n:=by rw[Z];exact vg H G
    have ap:some e∈g.fQ:=by rw[Z];exact tK H
    have ax:pI g.fQ (some e) (some j)=g.fQ.set n (some j):=by unfold pI;rw[fU ap,am]
    have ar:zN (some e) (some j) g= .ok () {g with fQ:=g.fQ.set n (some j)}:=by
     unfold zN;rw[fU (by rw[rl];exact⟨RJ.isSome f2 a9,lV P⟩),ax]
    have E:∀m,(g.fQ.set n (some j))[m]?=if m=n then some (some j)else σ.fQ[m]?:=by
     intro m;rw[List.getElem?_set]
     by_cases p:n=m
     .grind
     .grind
    have aE:1<=n:=by omega
    have⟨i3,f3⟩:=i2.YF (ys:=g.fQ.set n (some j)) (by
      intro x q;rcases List.mem_or_eq_of_mem_set q with q|rfl
      .exact i2.fQ x q
      .exact lV P) (by
      rw[List.pairwise_iff_getElem];intro a b ha hb ah;have a4:a < σ.fQ.length:=by simpa [Z,N]using ha
      have a7:b < σ.fQ.length:=by simpa [Z,N]using hb
      have F:∀m (p:m < (g.fQ.set n (some j)).length) (S:m < σ.fQ.length),rk (xf r j (r e)) ((g.fQ.set n (some j))[m])=rk r (σ.fQ[m]):=by
       intro m p S;have W:=E m;rw[pY p]at W
       by_cases D:m=n
       .subst D;rw[fU rfl]at W;rw[jr W];have h2:σ.fQ[m]=some e:=by rw[pY S]at hoe;exact jr hoe
        rw[h2]
        grind[rk,xf]
       .rw[gn D,pY S]at W;rw[jr W];have⟨y,ey,hy,X⟩:=ky (h.inv.fQ _ (tM S))
        grind[rk]
      rw[F a ha a4,F b hb a7];exact List.pairwise_iff_getElem.1 h.inv.tD.fQ a b a4 a7 ah) (by
      rw[zB,zB,E 0,gn (by omega),Z,N]) (by
      rw[List.length_set];exact i2.ve)
    rw[M.fP,ar];dsimp only;obtain⟨l,v⟩:∃l,l=({g with fQ:=g.fQ.set n (some j)}:Ab):=⟨_,rfl⟩;rw[<-v]at i3 f3|-;have au:rA (some e) (some j) l= .ok () {l with act:=pI l.act (some e) (some j)}:=by
     unfold rA;rw[fU (by rw[rl];exact⟨RJ.isSome f3 (RJ.isSome f2 a9),lV (f3.nm _ _ P)⟩)]
    have⟨i4,f4⟩:=i3.Dg (ys:=pI l.act (some e) (some j)) (λi L=>by
      rcases Kf L with L|L
      .exact i3.act i L
      grind[Ab.gF]) (by rw[Jm];exact i3.Ac)
    rw[M.fP,au];dsimp only;obtain⟨Y,A⟩:∃Y,Y=({l with act:=pI l.act (some e) (some j)}:Ab):=⟨_,rfl⟩;rw[<-A]at i4 f4|-;have a3:=((f1.trans f2).trans f3).trans f4;have ac:=RJ.isSome a3 h.dA;have⟨elast,hlast⟩:=Option.isSome_iff_exists.1 ac;have⟨σ5,q5,i5,f5,w5,o5,a5,r5,n5,e5,he5,hp5,_⟩:=i4.me hlast;rw[M.fP,q5];dsimp only;have⟨ej5,hj5,hjn5⟩:=f5.nm _ _ (f4.nm _ _ (f3.nm _ _ P));have av:jf j σ5= .ok (j,ej5.kids.length) σ5:=by unfold jf;rw[hj5]
    rw[M.fP,av];dsimp only;have aD:r e < r last:=h.low n e (by omega) hoe;have ay:(d.gF last).isSome=true:=RJ.isSome f1 h.dA;have az:wt σ5<=wt σ:=by
     have e4:wt Y=wt l:=by rw[A];rfl
     have e3:wt l=wt g:=by rw[v];rfl
     omega
    have⟨σ6,q6,i6,f6,w6,o6,a6,r6,n6,g6,_⟩:=i5.put (pl:=(j,ej5.kids.length)) ⟨ej5,hj5,gr _⟩ he5 hp5 (by
     grind[xf]) (by omega)
    rw[M.fP,q6];dsimp only;have O:=(a3.trans f5).trans f6;have J:σ6.fQ=g.fQ.set n (some j):=by rw[o6,o5,A];show l.fQ=_;rw[v]
    have j6:jA σ6 j e1.name:=f6.nm _ _ ⟨ej5,hj5,hjn5⟩;have ag:σ6.act=pI d.act (some e) (some j):=by
     rw[a6,a5,A];show pI l.act (some e) (some j)=_;rw[v];show pI g.act (some e) (some j)=_;rw[a2]
    have aC:yA σ.fQ σ.act (n+1)=yA σ.fQ σ.act n+1:=V5 hoe (sub1 _ a8);have aB:yA σ6.fQ σ6.act n<=yA σ.fQ σ.act n:=by
     have e9:yA σ6.fQ σ6.act n=yA σ.fQ σ6.act n:=by
      unfold yA;rw[J,List.take_set_of_le (gr _),Z,N]
     rw[e9];refine Mc (gr _) ?_;intro y hy p;rw[ag]at p;rcases Kf p with p|p
     .grind
     .exfalso;have X:=List.mem_of_mem_take hy;rw[p]at X;have:=h.inv.EM X;have aA:d.nodes.length=σ.nodes.length:=by rw[l1.nodes]
      omega
    refine Gf.pre (C5 f C pf s hs n (c+1) j (if last=C then j else B) (r:=xf r j (r e)) (K:=K - 1) ⟨i6,lV j6,?_,?_,U,?_,?_,?_,?_,?_⟩ (O.nm _ _ hfn) (by omega) (by omega)) O (by omega) ?_
    .intro m x p q;rw[J,E m,gn (by omega)]at q;rw[Fj,aw x (by rw[a0];exact RJ.n4 h.inv q)];exact h.inv.vV q hoe p
    .rw[J,E pf,gn (by omega)];exact h.cO
    .rw[J];have p:some C∈σ.fQ.drop (n+1):=h.dx;have⟨k,hk⟩:=RZ p;rw[T1]at hk;refine tK (i:=k+1) ?_
     grind
    .grind
    .by_cases an:last=C
     .grind
     .rw[gn an];exact RJ.isSome O h.dH
    .intro m x p q;rw[J,E m]at q
     by_cases D:m=n
     .rw[fU D]at q;cases q;rw[jn.O7 j6];have h3:=h.nt n e U hoe
      rwa [<-af,show d.nm e=e1.name from jn.O7 ⟨e1,he1,rfl⟩]at h3
     .rw[gn D]at q;rw[O.acS (RJ.n4 h.inv q)];exact h.nt m x p q
    .rw[a6,a5,A];show some f∈pI l.act (some e) (some j);have ak:some f∈l.act:=by rw[v];show some f∈g.act;rw[a2];exact a1
     unfold pI;split
     .have⟨k,hk⟩:=RZ ak;refine tK (i:=k) ?_
      grind
     omega
    .rw[r6,r5,A];show l.fresh=_;rw[v];show g.fresh=_;rw[u];exact l1.fresh
theorem jn.afy (h:jn r σ):jn (λi=>2*r i) σ:=by
 refine {h with tD:=⟨λi e p l q=>?_,h.tD.fQ.imp_of_mem ?_,λd x k g=>?_⟩}
 .have:=h.tD.iJ i e p l q;omega
 .intro x y g v u;obtain⟨i,_,rfl,_⟩:=ky (h.fQ x g);obtain⟨j,_,rfl,_⟩:=ky (h.fQ y v)
  grind[rk]
 .have:=h.tD.hd d x k g;omega
theorem S5 (h:σ.gx x=true):kB x σ= .ok () {σ with act:=σ.act.erase x}:=by
 grind[kB]
theorem JQ (h:σ.gx x=true):jY x σ= .ok () {σ with fQ:=σ.fQ.erase x}:=by
 grind[jY]
theorem BT (xs:j5) (x y:iM):(iH xs x y).length<=xs.length+1:=by
 grind[iH]
theorem BN (h:z∈iH xs x y):z∈xs\/z=y:=by
 unfold iH at h
 grind
theorem KX (h:z∈xs):z∈iH xs x y:=by
 unfold iH;split
 .have d:z∈xs.take (xs.idxOf x+1)++xs.drop (xs.idxOf x+1):=by rw[IU];exact h
  grind
 omega
theorem jn.RD (h:jn r σ) (d:σ.fQ[pf]?=some (some f)) (l:1<=pf):∃a,ahead f σ= .ok a σ/\σ.fQ[pf - 1]?=some (some a):=by
 have⟨a,ea,ha,_⟩:=h.at (n:=pf - 1) (by grind);refine⟨a,?_,ha⟩;unfold ahead;have g:=vg d h.nodup;have k:posOf σ.fQ (some f)=(pf:Int):=by unfold posOf;rw[g,fU (A6 d)]
 rw[k,show(pf:Int) - 1=((pf - 1:Nat):Int) by omega,qZ,uX,ha];rfl
theorem Ls (h:jn r σ) {a : Nat} (p:σ.fQ[pf]?=some (some f)) (F:1<=pf) (u:σ.fQ[pf - 1]?=some (some a)) (B:ku (σ.nm f) fC=false) (G:∀m x,pf < m->σ.fQ[m]?=some (some x)->ku (σ.nm x) fC=false):∃pl,placeFor a σ= .ok pl σ/\BF σ pl/\r pl.1 < r f:=by
 have d:some a∈σ.fQ:=tK u;have A:r a < r f:=h.vV u p (by omega);have⟨a',ea,e1,hea⟩:=ky (h.fQ _ d);cases e1;unfold placeFor;split
 .have⟨pl,h1,h2,_,g⟩:=Bi h (List.ne_nil_of_mem d);refine⟨pl,h1,h2,?_⟩;rcases g with⟨i,C,E,_,D⟩|g
  .have⟨k,hk⟩:=RZ C;have q:k < pf:=by
    rcases Nat.lt_trichotomy k pf with l|l|l
    .exact l
    .grind
    .grind
   have:=h.vV hk p q;omega
  .have v:σ.fQ[0]?=some (some pl.1):=by
    rw[show(0:Int)=((0:Nat):Int)from rfl,qZ,uX]at g;cases hx:σ.fQ[0]? with
    |none=>grind
    |some y=>grind
   exact h.vV v p (by omega)
 .unfold jf;rw[hea]
  grind[BF]
def Q8 (f g:Nat) (σ:Ab):tj f g σ=(ww f g>>=λk=>me k.1>>=λ_=>ahead f>>=λa=>placeFor a>>=λpl=>nj pl k.1>>=λ_=>kH f>>=λd=>handOver g d>>=λ_=>jf g>>=λpl=>nj pl d>>=λ_=>qt (some k.2) (some d)>>=λ_=>kB (some f)>>=λ_=>jY (some f)>>=λ_=>qp (some g) (some d)>>=λ_=>(pure ():M Unit)) σ:=rfl
theorem Pm (h:mD σ) {d Y : Nat} (hs:ru s=true) (E:jA σ f s) (aq:some f∈σ.act) (hf:σ.fQ[pf]?=some (some f)) (hb:σ.fQ[Y]?=some (some d)) (ax:pf < Y) (nt:∀m x,pf < m->σ.fQ[m]?=some (some x)->ku (σ.nm x) fC=false) (hw:wt σ < 999900):ji 36 σ (tj f d σ) (λ_ σ'=>σ'.fresh=σ.fresh):=by
 have⟨r,h⟩:=h;have T:s≠fy:=D5 hs;have aG:σ.fQ.length<=64:=jC h.ve h.Qy;have ag:=A6 hb;have af:1<=pf:=by
  rcases EN pf with h0|h0
  .exfalso;apply h.DT E T;rw[zB,<-h0];exact hf
  .exact h0
 have ao:=RJ.n4 h hb;rw[Q8,M.fP];have az:ww f d σ=mn f d Y 0 d f σ:=by
  unfold ww;have D:=vg hb h.nodup;have X:posOf σ.fQ (some d)=(Y:Int):=by unfold posOf;rw[D,fU ag]
  rw[X];rfl
 have H:=C5 f d pf s T Y 0 d f (r:=r) (σ:=σ) ⟨h,ao,λm x hm u=>h.vV u hb hm,hf,ax,by
  refine tK (i:=0) ?_
  grind,by omega,lV E,nt,aq⟩ E (K:=32) (jC (acF h.nodup _) (jC h.Ac h.RW)) (by omega)
 rw[az];revert H;cases mn f d Y 0 d f σ with
 |stop e p=>simp[Gf]
 |stuck=>simp[Gf]
 |ok lm σ1=>
  rintro⟨f1,w1,aI,F,J⟩;dsimp only;have⟨last,mark⟩:=lm;dsimp only at J|-;have⟨el,hel⟩:=Option.isSome_iff_exists.1 J.dA;have⟨σ2,q2,i2,f2,w2,o2,a2,r2,n2,e2,he2,hp2,_⟩:=J.inv.me hel;rw[M.fP,q2];dsimp only;have ab:σ2.fQ[pf]?=some (some f):=by rw[o2];exact J.cO
  have⟨a,qa,ha⟩:=i2.RD ab af;rw[M.fP,qa];dsimp only;have a0:jA σ2 f s:=f2.nm _ _ (f1.nm _ _ E);have au:ku (σ2.nm f) fC=false:=by
   rw[jn.O7 a0];cases u:ku s fC with
   |false=>rfl
   |true=>
    have:=tU u;subst this;simp[ru,gI,ku,sH]at hs
  have aC:∀m x,pf < m->σ2.fQ[m]?=some (some x)->ku (σ2.nm x) fC=false:=by
   intro m x hm u;rw[o2]at u;rw[f2.acS (RJ.n4 J.inv u)];exact J.nt m x hm u
  have⟨pl,q3,p3,k3⟩:=Ls i2 ab af ha au aC;rw[M.fP,q3];dsimp only;have aL:F f < F last:=J.low pf f (by omega) J.cO;have⟨σ3,q4,i3,f3,w3,o3,a3,r3,n3,_,_⟩:=i2.put p3 he2 hp2 (by omega) (by omega);rw[M.fP,q4];dsimp only;have a1:jA σ3 f s:=f3.nm _ _ a0;have⟨ef,hef,hefn⟩:=id a1;rw[M.fP,Be hef (by grind)];dsimp only;have am:some d∈σ3.fQ:=by
   rw[o3,o2];exact Jk J.dx
  have⟨blk',eb,e1,heb⟩:=ky (i3.fQ _ am);cases e1;obtain⟨j,hj⟩:∃j,j=σ3.nodes.length:=⟨_,rfl⟩;have⟨i4,f4⟩:=i3.afy.new ef.name ef.gy σ3.fresh (2*F d+1);obtain⟨v,q⟩:∃v,v=σ3.pi (.el {name:=ef.name,gy:=ef.gy,iJ:=none,kids:=[]}) σ3.fresh:=⟨_,rfl⟩;rw[<-q]at i4 f4|-;rw[<-hj]at i4|-;obtain⟨R,hR⟩:∃R,R=xf (λi=>2*F i) j (2*F d+1):=⟨_,rfl⟩;rw[<-hR]at i4;have L:v.gF j=some {name:=ef.name,gy:=ef.gy,iJ:=none,kids:=[]}:=by rw[q,hj];exact Ab.vE
  have ad:∀i,(σ3.gF i).isSome=true->i≠j:=by
   intro i S e0;have⟨ei,aa⟩:=Option.isSome_iff_exists.1 S;have:=Ab.gL aa;omega
  have G:∀i,(σ3.gF i).isSome=true->R i=2*F i:=λi S=>by rw[hR];grind[xf]
  have Rj:R j=2*F d+1:=by rw[hR];exact Fj _ _ _
  have I:(σ3.gF d).isSome=true:=by rw[heb];rfl
  have an:d≠j:=ad d I;have a9:v.gF d=some eb:=by rw[q];show(σ3.add _).gF d=_;rw[Ab.vr (Ab.gL heb)];exact heb
  have w4:wt v=wt σ3:=by rw[q];exact EE _ _ _
  have o4:v.fQ=σ3.fQ:=by rw[q];rfl
  have a4:v.act=σ3.act:=by rw[q];rfl
  have r4:v.fresh=σ3.fresh:=by rw[q];rfl
  have⟨σ5,q5,i5,f5,w5,o5,a5,r5,n5,b5,d5⟩:=i4.hand a9 L an rfl rfl (by
   intro k hk;have⟨ek,D,X⟩:=i3.oq.dn d eb k heb hk;have h3:=i3.tD.iJ k ek d D X
   grind) (by omega)
  rw[M.fP,q5];dsimp only;have q6:jf d σ5= .ok (d,0) σ5:=by unfold jf;rw[b5];rfl
  rw[M.fP,q6];dsimp only;have⟨σ6,q7,i6,f6,w6,o6,a6,r6,n6,_,_⟩:=i5.put (pl:=(d,0)) ⟨_,b5,im _⟩ d5 rfl (by
   grind) (by omega)
  rw[M.fP,q7];dsimp only;have F6:=((((f1.trans f2).trans f3).trans f4).trans f5).trans f6;have V:jA σ6 j ef.name:=f6.nm _ _ (f5.nm _ _ ⟨_,L,rfl⟩);have a7:jA σ6 f s:=f6.nm _ _ (f5.nm _ _ (f4.nm _ _ a1));have aB:(σ6.gF mark).isSome=true:=RJ.isSome (((((f2.trans f3).trans f4).trans f5).trans f6)) J.dH;have aj:σ6.act=σ1.act:=by rw[a6,a5,a4,a3,a2]
  have W:σ6.fQ=σ1.fQ:=by rw[o6,o5,o4,o3,o2]
  have aH:σ6.act.length<=32:=jC i6.Ac i6.RW;have aN:σ6.fQ.length<=64:=jC i6.ve i6.Qy;have ak:some f∈σ6.act:=by rw[aj];exact J.fact
  have q8:qt (some mark) (some j) σ6= .ok () {σ6 with act:=iH σ6.act (some mark) (some j)}:=by
   unfold qt;rw[fU];rw[rl,rl];exact⟨⟨aB,lV V⟩,by grind⟩
  rw[M.fP,q8];dsimp only;have q9:kB (some f) {σ6 with act:=iH σ6.act (some mark) (some j)}= .ok () {σ6 with act:=(iH σ6.act (some mark) (some j)).erase (some f)}:=S5 (σ:={σ6 with act:=iH σ6.act (some mark) (some j)}) (lV a7);rw[M.fP,q9];dsimp only;have⟨i7,f7⟩:=i6.Dg (ys:=(iH σ6.act (some mark) (some j)).erase (some f)) (λi S=>by
   rcases BN (AB S)with S|S
   .exact i6.act i S
   grind) (by
   have D:=BT σ6.act (some mark) (some j);have X:=List.length_erase_of_mem (KX (x:=some mark) (y:=some j) ak);have h3:=i6.Ac;omega)
  obtain⟨l,B⟩:∃l,l=({σ6 with act:=(iH σ6.act (some mark) (some j)).erase (some f)}:Ab):=⟨_,rfl⟩;rw[<-B]at i7 f7|-;have o7:l.fQ=σ6.fQ:=by rw[B]
  have a8:jA l f s:=f7.nm _ _ a7;have aM:jA l j ef.name:=f7.nm _ _ V;have ac:l.fQ[pf]?=some (some f):=by rw[o7,W];exact J.cO
  have ae:=i7.DT a8 T;have aD:jY (some f) l= .ok () {l with fQ:=l.fQ.erase (some f)}:=JQ (lV a8);rw[M.fP,aD];dsimp only;have⟨i8,f8⟩:=i7.sub (ys:=l.fQ.erase (some f)) List.erase_sublist (Da ae);obtain⟨g,C⟩:∃g,g=({l with fQ:=l.fQ.erase (some f)}:Ab):=⟨_,rfl⟩;rw[<-C]at i8 f8|-;have o8:g.fQ=l.fQ.erase (some f):=by rw[C]
  have ar:f≠d:=by
   rintro rfl;have D:=vg hf h.nodup;have X:=vg hb h.nodup;omega
  have P:some d∈g.fQ:=by
   rw[o8];refine(Fe (λe0=>ar (jr e0).symm)).2 ?_;rw[o7,W];exact Jk J.dx
  have⟨kb,hkb⟩:=RZ P;have aK:=A6 hkb;have av:=vg hkb i8.nodup;have Z:=f7.trans f8;have ai:jA g j ef.name:=Z.nm _ _ V;have aw:g.fQ.length+1=l.fQ.length:=by
   rw[o8,List.length_erase_of_mem (tK ac)];have:=A6 ac;omega
  have N:iH g.fQ (some d) (some j)=g.fQ.take (kb+1)++[some j]++g.fQ.drop (kb+1):=by
   unfold iH;rw[fU P,av]
  have aE:qp (some d) (some j) g= .ok () {g with fQ:=iH g.fQ (some d) (some j)}:=by
   unfold qp;rw[fU];rw[rl,rl];refine⟨⟨?_,lV ai⟩,?_⟩
   .exact i8.fQ _ P
   .grind
  rw[M.fP,aE];dsimp only;have A:∀x∈g.fQ,∃i,x=some i/\R i=2*F i:=by
   intro x u;have aA:x∈σ3.fQ:=by
    rw[o8]at u;have:=AB u;rw[o7,W]at this;rw[o3,o2];exact this
   obtain⟨i,ei,rfl,aa⟩:=ky (i3.fQ x aA);exact⟨i,rfl,G i (by grind)⟩
  have ay:=i8.tD.fQ;have aF:R d=2*F d:=G d I;have⟨i9,f9⟩:=i8.YF (ys:=iH g.fQ (some d) (some j)) (by
   intro x u;rcases BN u with u|rfl
   .exact i8.fQ x u
   .exact lV ai) (by
   rw[N,vw];have ah:g.fQ=g.fQ.take (kb+1)++g.fQ.drop (kb+1):=(IU _ _).symm;have O:=ay;rw[ah]at O;have⟨p1,p2,p3⟩:=List.pairwise_append.1 O;refine List.pairwise_append.2 ⟨p1,List.pairwise_cons.2 ⟨?_,p2⟩,?_⟩
   .
    intro y U;obtain⟨i,rfl,al⟩:=A y (Jk U);have ap:some d∈g.fQ.take (kb+1):=by
     refine tK (i:=kb) ?_;rw[EF,fU (by omega)];exact hkb
    have D:R d < R i:=p3 _ ap _ U
    grind[rk]
   .intro x u y U;rcases List.mem_append.1 U with U|U
    .rw[List.mem_singleton.1 U];obtain⟨i,rfl,al⟩:=A x (List.mem_of_mem_take u);show R i < R j;have⟨k,hk⟩:=RZ u;rw[EF]at hk;split at hk
     .rename_i aJ;rcases mq k kb with D|D
      .have:=i8.vV hk hkb D;omega
      grind
     grind
    grind) (by
   rw[N,vw];cases ho8:g.fQ with
   |nil=>grind
   |cons x0 xr=>rfl) (by
   have D:=BT g.fQ (some d) (some j);have X:=i7.ve
   grind)
  have wf:wt ({g with fQ:=iH g.fQ (some d) (some j)}:Ab)=wt σ6:=by
   show wt g=_;rw[C];show wt l=_;rw[B];rfl
  refine⟨⟨_,i9⟩,(F6.trans Z).trans f9,by omega,?_⟩
  grind
theorem FX (σ:Ab) (f b:Nat):∀(ys:j5) (d:iM),σ.vo f ys d=some b->d=some b\/∃k:Nat,ys[k]?=some (some b)/\∀g:Nat,g<=k->ys[g]?≠some (some f)
 |[],d,h=> .inl h
 |x::ys,d,h=>by
  unfold Ab.vo at h
  by_cases u:x=some f
  .grind
  .rw[gn u]at h;rcases FX σ f b ys _ h with l|⟨k,l,v⟩
   .by_cases q:kU (σ.qS x)=true
    .rw[fU q]at l;refine .inr ⟨0,by grind,λg p=>?_⟩
     grind
    grind
   .refine .inr ⟨k+1,l,λg p=>?_⟩
    grind
theorem Cc (σ:Ab) (f:Nat):∀(ys:j5),σ.oh f ys=true->∀(k:Nat) (x:iM),ys[k]?=some x->(∀d:Nat,d<=k->ys[d]?≠some (some f))->io (σ.qS x)=false
 |[],h,k,x,hx,_=>by cases hx
 |y::ys,h,k,x,hx,hno=>by
  unfold Ab.oh at h;have p:y≠some f:=λe=>hno 0 (im _) (by grind);rw[gn p]at h
  by_cases g:io (σ.qS y)=true
  .grind
  .rw[gn g]at h;cases k with
   |zero=>
    grind
   |succ k=>exact Cc σ f ys h k x hx (λd l=>hno (d+1) (by omega))
theorem xK (σ:Ab) (s:fN):∀{ys:j5} {f:Nat},σ.qC s ys=some f->some f∈ys/\ku (σ.nm f) s=true
 |[],f,h=>by cases h
 |none::_,f,h=>by cases h
 |some i::ys,f,h=>by
  unfold Ab.qC at h
  by_cases d:ku (σ.nm i) s=true
  .grind
  .rw[gn d]at h;have⟨h1,h2⟩:=xK σ s h
   grind
def Qu:io fC=true:=by
 kernel_rfl
def yv {x : fN}:gI [s] x=ku x s:=by simp[gI]
def PG (h:ru s=true):gI [s] fy=false:=by
 rw[yv];cases hx:ku fy s with
 |false=>rfl
 |true=>exact absurd (tU hx).symm (D5 h)
def Dp (h:mD σ) (d:s≠fy):ji 0 σ (uU s σ) (λ_ σ'=>uK σ σ'):=by
 refine ji.ic ((wW h (gI [s]) kU ?_).mono (gr _) (λ_ _ _ _ h=>h.1));rw[yv];cases hx:ku fy s with
 |false=>rfl
 |true=>exact absurd (tU hx).symm d
theorem KS (h:mD σ) (H:ru s=true) (hw:wt σ < 999900):ji 36 σ (nw s σ) (λ_ σ'=>σ'.fresh=σ.fresh):=by
 unfold nw;cases hl:σ.pq s with
 |none=>
  dsimp only;refine ji.bind ((Dp h (D5 H)).mono (im 36) (λ_ _ _ _ h=>h)) (c2:=0) ?_ (by omega);rintro _ v u _ _ q;exact ji.ret u q.fresh
 |some f=>
  dsimp only;have⟨K,hn⟩:=xK σ s hl;have B:some f∈σ.act:=List.mem_reverse.1 K;have⟨r,hr⟩:=id h;have⟨ef,hef,_⟩:=hr.act f B;have l:jA σ f s:=by
   have g:=Tw hef
   rwa [tU hn]at g
  have G:(σ.gF f).isSome=true:=by rw[hef];rfl
  split
  .refine ji.bind ((yT h (x:=some f) G).mono (im 36) (λ_ _ _ _ h=>h)) (c2:=0) ?_ (by omega);rintro _ v u _ _ q;exact ji.ret u q.fresh
  .rename_i W;have D:some f∈σ.fQ:=by simpa using W
   split
   .exact⟨h,Fx.refl _,by omega,rfl⟩
   .rename_i I;have E:σ.oh f σ.fQ.reverse=true:=by simpa [Ab.oW]using I
    cases hb:σ.qf f with
    |none=>
     dsimp only;refine ji.bind ((Tp h l (D5 H) D).mono (im 36) (λ_ _ _ _ h=>h)) (c2:=0) ?_ (by omega);rintro _ v u P _ Y;refine ji.bind (yT u (x:=some f) (lV (P.nm _ _ l))) (c2:=0) ?_ (by omega);rintro _ a0 X _ _ Z;exact ji.ret X (Z.fresh.trans Y.fresh)
    |some b=>
     dsimp only;have⟨pf,hpf⟩:=RZ D;have L:=A6 hpf;have d:∀k,k < σ.fQ.length->σ.fQ.reverse[k]?=σ.fQ[σ.fQ.length - 1 - k]?:=λk C=>Qo C;have N:∀k,σ.fQ.reverse[k]?=some (some f)->k=σ.fQ.length - 1 - pf:=by
      intro k C;have p:k < σ.fQ.length:=by simpa using (List.getElem?_eq_some_iff.1 C).1
      rw[d k p]at C;have g:=vg C hr.nodup;have S:=vg hpf hr.nodup;omega
     have T:σ.fQ.reverse[σ.fQ.length - 1 - pf]?=some (some f):=by
      rw[d _ (by omega),show σ.fQ.length - 1 - (σ.fQ.length - 1 - pf)=pf by omega];exact hpf
     rcases FX σ f b σ.fQ.reverse none hb with g|⟨k,g,S⟩
     .cases g
     .have p:k < σ.fQ.length:=by simpa using (List.getElem?_eq_some_iff.1 g).1
      have U:k < σ.fQ.length - 1 - pf:=by
       rcases mq k (σ.fQ.length - 1 - pf)with J|J
       .exact J
       .grind
      rw[d k p]at g;refine ji.bind ((Pm h H l B hpf g (by omega) ?_ hw).mono (gr _) (λ_ _ _ _ h=>h)) (c2:=0) ?_ (by omega)
      .intro m x K O;have V:=A6 O;have F:=Cc σ f σ.fQ.reverse E (σ.fQ.length - 1 - m) (some x) (by
        rw[d _ (by omega),show σ.fQ.length - 1 - (σ.fQ.length - 1 - m)=m by omega];exact O) (by
        grind)
       cases hq:ku (σ.nm x) fC with
       |false=>rfl
       |true=>
        have e:=tU hq;have A:io (σ.nm x)=false:=F;rw[e,Qu]at A;cases A
      .rintro _ v u _ _ q;exact ji.ret u q
theorem II (d:ru s=true):∀(k:Nat) {σ:Ab},mD σ->wt σ+36*k < 999900->ji (36*k) σ (sY s k σ) (λ_ σ'=>σ'.fresh=σ.fresh)
 |0,σ,h,_=>⟨h,Fx.refl _,gr _,rfl⟩
 |k+1,σ,h,hw=>by
  unfold sY;refine ji.bind (KS h d (by omega)) (c2:=36*k) ?_ (by omega);rintro b p g q u l;cases b with
  |true=>
   refine(II d k g (by omega)).mono (gr _) ?_
   grind
  |false=>exact ji.ret g l _
def ER (h:mD σ) (g:σ.fQ≠[]) (l:ru s=true) (hw:wt σ < 999100):ji 288 σ (xF s σ) (λ_ σ'=>σ'.fresh=σ.fresh):=by
 have⟨r,hr⟩:=id h;have⟨i,e,h1,h2,h3,h4⟩:=MX hr g;unfold xF;rw[h1];dsimp only;split
 .rename_i k;rw[rl]at k;have d:σ.current (gI [s])=true:=by
   unfold Ab.current;rw[h1];show gI [s] (σ.nm i)=true;rw[yv];exact k.1
  have p:=xw h (gI [s]) (PG l) d;refine ji.bind ((yD h p).mono (im 288) (λ_ _ _ _ h=>h)) (c2:=0) ?_ (by omega);rintro x u q _ _ ⟨rfl,_⟩;exact⟨q,Fx.refl _,gr _,rfl⟩
 .exact(II l 8 h (by omega)).mono (by omega) (λ_ _ _ _ h=>h)
theorem mD.mM (h:mD σ) (L:σ'.nodes=σ.nodes) (u:σ'.fQ=σ.fQ) (G:σ'.act=σ.act) (H:σ'.head=σ.head) (N:σ'.form=σ.form) (I:σ'.pS=σ.pS) (J:σ'.rq=σ.rq):mD σ':=by
 have⟨r,h⟩:=h;have l:∀i,σ'.gF i=σ.gF i:=λi=>by unfold Ab.gF;rw[L]
 have P:∀k,σ'.iR k=σ.iR k:=λk=>by
  cases k with
  |el i=>grind[Ab.iR]
  |tx i=>grind[Ab.iR]
  |cm i=>grind[Ab.iR]
  |dt i=>grind[Ab.iR]
 have C:∀x,σ'.lH x=σ.lH x:=λx=>by
  cases x with
  |none=>rfl
  |some i=>grind[Ab.lH]
 have K:∀i s,jA σ i s->jA σ' i s:=λi s ⟨e,A,q⟩=>⟨e,by grind,q⟩;refine⟨r,⟨⟨?_,?_,?_,?_⟩,⟨?_,?_,?_⟩,?_,?_,?_,?_,?_,?_,?_,?_,?_,?_⟩⟩
 .intro i e p g E;rw[l]at g;have⟨ep,A,q⟩:=h.oq.up i e p g E;grind
 .intro i e j g O;rw[l]at g;have⟨ep,A,q⟩:=h.oq.dn i e j g O;grind
 .intro i e g;rw[l]at g;exact h.oq.nd i e g
 .intro i e g k D;rw[l]at g;rw[P];exact h.oq.kd i e g k D
 .intro i e p g E;rw[l]at g;exact h.tD.iJ i e p g E
 .rw[u];exact h.tD.fQ
 .rw[u,H];exact h.tD.hd
 .rw[u];intro x F;rw[C];exact h.fQ x F
 .rw[G];intro i g;have⟨e,A,q⟩:=h.act i g;grind
 .rw[H];exact λd B=>K _ _ (h.head d B)
 .rw[N];exact λd B=>K _ _ (h.form d B)
 .rw[u];intro x v F;have⟨z,A,q⟩:=h.Mn x v F;grind
 .rw[u,I];exact h.ve
 .rw[G,J];exact h.Ac
 .rw[I];exact h.Qy
 .rw[J];exact h.RW
 .rw[l];exact h.vc
def mD.N1 (h:mD σ) (x:iM) (g:∀d,x=some d->jA σ d gZ):mD {σ with form:=x}:=by
 have⟨r,h⟩:=h;exact⟨r,⟨⟨h.oq.up,h.oq.dn,h.oq.nd,h.oq.kd⟩,⟨h.tD.iJ,h.tD.fQ,h.tD.hd⟩,h.fQ,h.act,h.head,g,h.Mn,h.ve,h.Ac,h.Qy,h.RW,h.vc⟩⟩
def qE (m:Nat):Bool:=decide (m=6)||decide (m=7)||(decide (9<=m)&&decide (m<=17))
structure dk (σ:Ab):Prop where
 ne:σ.fQ≠[]
 sh:qE σ.mode=true\/(σ.mode=5/\qE σ.kept=true/\2<=σ.fQ.length)\/(σ.mode=8/\(σ.kept=7\/σ.kept=11\/σ.kept=12))
structure Lm (σ σ':Ab):Prop where
 gp:σ'.gp=σ.gp
 pS:σ'.pS=σ.pS
 rq:σ'.rq=σ.rq
 oY:σ'.oY=σ.oY
 wt:σ'.waiting.length<=σ.waiting.length+1
 wz:∀x∈σ'.waiting,x∈σ.waiting\/x.2.2.size<=100
theorem Fx.lm (h:Fx σ σ'):Lm σ σ':=⟨h.gp,h.pS,h.rq,h.oY,by rw[h.waiting];omega,by rw[h.waiting];grind⟩
def RB (c:Nat) (σ:Ab) (r:qI Unit):Prop:=match r with
 | .ok _ σ'=>mD σ'/\dk σ'/\Lm σ σ'/\wt σ'<=wt σ+c
 | .stop _ p=>p=σ.gp
 | .stuck=>False
theorem RB.mono {r : qI Unit} (h:RB c σ r) (d:c<=c'):RB c' σ r:=by
 cases r with
 |ok a σ'=>grind[RB]
 |stop e p=>exact h
 |stuck=>exact h
def ji.rb {r : qI Unit} (h:ji c σ r Q) (d:σ.fQ≠[]) (g:qE σ.mode=true):RB c σ r:=by
 cases r with
 |ok a σ'=>
  have⟨h1,h2,h3,_⟩:=h;exact⟨h1,⟨h2.ne d,.inl (by rw[h2.mode];exact g)⟩,h2.lm,h3⟩
 |stop e p=>exact h
 |stuck=>exact h
theorem RB.bind {α:Type} {c1 c2 : Nat} {x:M α} {k:α->M Unit} {Q:α->Ab->Prop} (h:ji c1 σ (x σ) Q) (g:∀a σ',mD σ'->Fx σ σ'->wt σ'<=wt σ+c1->Q a σ'->RB c2 σ' (k a σ')) (l:c1+c2<=c):RB c σ ((x>>=k) σ):=by
 rw[M.fP];cases hm:x σ with
 |ok a σ'=>
  rw[hm]at h;have⟨h1,h2,h3,h4⟩:=h;have d:=g a σ' h1 h2 h3 h4;dsimp only;cases hk2:k a σ' with
  |ok b σ2=>
   rw[hk2]at d;have⟨g1,g2,g3,g4⟩:=d;exact⟨g1,g2,⟨g3.gp.trans h2.gp,g3.pS.trans h2.pS,g3.rq.trans h2.rq,g3.oY.trans h2.oY,by have:=g3.wt;rw[h2.waiting]at this;omega,by have:=g3.wz;rw[h2.waiting]at this;omega⟩,by omega⟩
  |stop e p=>
   rw[hk2]at d;exact CG d h2.gp
  |stuck=>grind[RB]
 |stop e p=>rwa [hm]at h
 |stuck=>rwa [hm]at h
def Hp (h:mD σ) (d:σ.fQ≠[]) (m:Nat) (g:qE m=true):RB 0 σ ((ju m>>=λ_=>(Pure.pure ():M Unit)) σ):=
 ⟨h.mM rfl rfl rfl rfl rfl rfl rfl,⟨d,.inl g⟩,⟨rfl,rfl,rfl,rfl,lx _,λ_ h=> .inl h⟩,nk (jh rfl)⟩
def j9 (h:mD σ) (d:dk σ):RB 0 σ ((Pure.pure ():M Unit) σ):=⟨h,d,⟨rfl,rfl,rfl,rfl,lx _,λ_ h=> .inl h⟩,gr _⟩
structure nu (σ:Ab):Prop where
 iv:mD σ
 ne:σ.fQ≠[]
 md:qE σ.mode=true
def nu.next (h:nu σ) (i:mD σ') (f:Fx σ σ'):nu σ':=⟨i,f.ne h.ne,by rw[f.mode];exact h.md⟩
def nu.EI (h:nu σ):dk σ:=⟨h.ne,.inl h.md⟩
structure lR (σ:Ab) (t:fZ):Prop where
 tag:t.oZ=true
 fr:σ.fresh=true
def uo (h:mD σ):ji 0 σ (oF σ) (λ_ σ'=>uK σ σ'):=
 ji.ic ((wW h (gI [mQ]) DD (by kernel_rfl)).mono (gr _) (λ_ _ _ _ h=>h.1))
theorem oX {t : fZ} (h:mD σ) (g:σ.fQ≠[]) (k:lR σ t) (hw:wt σ < 999900):ji 33 σ (ln t σ) (λ_ σ'=>∃d j,F5 d t.name j σ'/\σ.fQ <+:d.fQ/\d.act.length=σ.act.length):=by
 unfold ln;refine ji.bind (nP h g (by omega)) (c2:=1) ?_ (by omega);rintro _ d p l A ⟨u,v,q⟩;refine ji.ic ((jy p (l.ne g) (by omega) t k.tag (q.trans k.fr)).mono (gr _) ?_)
 grind
theorem tu {t : fZ} (h:mD σ) (g:σ.fQ≠[]) (k:lR σ t) (hw:wt σ < 999000):ji 1 σ (mL t σ) (λ_ σ'=>∃d j,F5 d t.name j σ'):=by
 unfold mL;refine ji.bind (uo h) (c2:=1) ?_ (by omega);rintro _ d p l u q;refine ji.ic ((jy p (l.ne g) (by omega) t k.tag (q.fresh.trans k.fr)).mono (gr _) ?_)
 grind
section
variable {σ:Ab} {t:fZ} (h:nu σ) (hw:wt σ < 999000)
include h hw
def K4 (d:lR σ t):RB 33 σ (ln t σ):=(oX h.iv h.ne d (by omega)).rb h.ne h.md
def Kv (d:lR σ t):RB 1 σ (mL t σ):=(tu h.iv h.ne d hw).rb h.ne h.md
def Rx (l:lR σ t):RB 1 σ (wJ t σ):=by
 unfold wJ;refine RB.bind (tu h.iv h.ne l hw) (c2:=0) ?_ (by omega);rintro _ p g k _ _;have d:=h.next g k;exact⟨g.mM rfl rfl rfl rfl rfl rfl rfl,⟨d.ne,.inl d.md⟩,⟨rfl,rfl,rfl,rfl,lx _,λ_ h=> .inl h⟩,nk (jh rfl)⟩
def GR (d:lR σ t):RB 1 σ (ob t σ):=by
 have:ji 1 σ (ob t σ) (λ_ _=>True):=by
  unfold ob;refine ji.bind (uo h.iv) (c2:=1) ?_ (by omega);rintro _ v l g B q;refine ji.bind (ui l (gI [lQ,lW]) (by kernel_rfl)) (c2:=1) ?_ (by omega);rintro _ A p k C u;exact ji.ic ((jy p (k.ne (g.ne h.ne)) (by omega) t d.tag (u.fresh.trans (q.fresh.trans d.fr))).mono (gr _) (λ_ _ _ _ _=>trivial))
 exact this.rb h.ne h.md
def SR (d:lR σ t):RB 1 σ (xq t σ):=by
 have:ji 1 σ (xq t σ) (λ_ _=>True):=by
  unfold xq;refine ji.bind (uo h.iv) (c2:=1) ?_ (by omega);rintro _ p k g q l;exact ji.ic ((qi k (g.ne h.ne) (by omega) t d.tag (l.fresh.trans d.fr)).mono (gr _) (λ_ _ _ _ _=>trivial))
 exact this.rb h.ne h.md
def NB (A:lR σ t) (v:t.name=gZ):RB 1 σ (uc t σ):=by
 unfold uc;cases hf:σ.form with
 |some d=>exact(j9 h.iv h.EI).mono (by omega)
 |none=>
  dsimp only;refine RB.bind (tu h.iv h.ne A hw) (c2:=0) ?_ (by omega);rintro _ g p u _ ⟨B,j,q⟩;have k:=h.next p u;refine⟨p.N1 g.last ?_,⟨k.ne,.inl k.md⟩,⟨rfl,rfl,rfl,rfl,lx _,λ_ h=> .inl h⟩,nk (jh rfl)⟩;intro d l;rw[Dz q]at l;cases l;rw[<-v];exact q.nm
def Ie (d:lR σ t):RB 33 σ (pc t σ):=by
 have:ji 33 σ (pc t σ) (λ_ _=>True):=by
  unfold pc;refine ji.bind (wW h.iv (gI [gC]) io (by kernel_rfl)) (c2:=33) ?_ (by omega);rintro _ p k g q ⟨l,_⟩;exact ji.ic ((oX k (g.ne h.ne) ⟨d.tag,l.fresh.trans d.fr⟩ (by omega)).mono (gr _) (λ_ _ _ _ _=>trivial))
 exact this.rb h.ne h.md
def Kl (g:lR σ t):RB 1 σ (sr t σ):=by
 unfold sr;have l:ji 0 σ (yR σ) (λ_ σ'=>uK σ σ'):=by
  unfold yR;split
  .exact⟨h.iv,Fx.refl _,gr _,uK.refl _⟩
  .exact uo h.iv
 refine RB.bind l (c2:=1) ?_ (by omega);rintro _ v p d B u;refine RB.bind (jy p (d.ne h.ne) (by omega) t g.tag (u.fresh.trans g.fr)) (c2:=0) ?_ (by omega);rintro _ A q k C _;exact Hp q (k.ne (d.ne h.ne)) 7 rfl
def FO (k:lR σ t) (b:Bool):RB 1 σ (oe t b σ):=by
 unfold oe;refine RB.bind (jy h.iv h.ne (by omega) t k.tag k.fr) (c2:=0) ?_ (by omega);rintro _ d l g _ ⟨j,q⟩;refine⟨l.mM rfl rfl rfl rfl rfl rfl rfl,⟨g.ne h.ne,.inr (.inl ⟨rfl,?_,?_⟩)⟩,⟨rfl,rfl,rfl,rfl,lx _,λ_ h=> .inl h⟩,nk (jh rfl)⟩
 .show qE d.mode=true;rw[g.mode];exact h.md
 .have:=D9 q h.ne;omega
def Ib (d:lR σ t):RB 33 σ (pa t σ):=by
 have:ji 33 σ (pa t σ) (λ_ _=>True):=by
  unfold pa;refine ji.bind (ui h.iv (gI [fY]) (by kernel_rfl)) (c2:=33) ?_ (by omega);rintro _ p k g q l;exact ji.ic ((oX k (g.ne h.ne) ⟨d.tag,l.fresh.trans d.fr⟩ (by omega)).mono (gr _) (λ_ _ _ _ _=>trivial))
 exact this.rb h.ne h.md
theorem Ir (g:lR σ t):RB 33 σ (qu t σ):=by
 unfold qu;refine RB.bind (oX h.iv h.ne g (by omega)) (c2:=0) ?_ (by omega);rintro _ l k d _ _;refine⟨k.mM rfl rfl rfl rfl rfl rfl rfl,⟨d.ne h.ne,.inl ?_⟩,⟨rfl,rfl,rfl,rfl,lx _,λ_ h=> .inl h⟩,nk (jh rfl)⟩
 grind[qE]
def NY (d:lR σ t):RB 33 σ (sL t σ):=by
 have:ji 33 σ (sL t σ) (λ_ _=>True):=by
  unfold sL;refine ji.bind (nP h.iv h.ne (by omega)) (c2:=1) ?_ (by omega);rintro _ p k g v ⟨q,u,l⟩;exact ji.ic ((qi k (g.ne h.ne) (by omega) t d.tag (l.trans d.fr)).mono (gr _) (λ_ _ _ _ _=>trivial))
 exact this.rb h.ne h.md
omit h hw in
def mU (k:mD σ) (g:σ.fQ≠[]) (u:lR σ t) (p:ru t.name=true) (hw:wt σ < 999900):ji 33 σ (iE t σ) (λ_ _=>True):=by
 unfold iE;refine ji.bind (oX k g u hw) (c2:=0) ?_ (by omega);rintro _ d v B C ⟨A,j,q,_⟩;have l:IC d= .ok j d:=by unfold IC;rw[Dz q]
 rw[M.fP,l];dsimp only;exact ji.ic ((X8 v q.nm p).mono (gr _) (λ_ _ _ _ _=>trivial))
def Dj (g:lR σ t) (d:ru t.name=true):RB 33 σ (iE t σ):=(mU h.iv h.ne g d (by omega)).rb h.ne h.md
theorem MY (p:lR σ t) (v:t.name=sS):RB 330 σ (qQ t σ):=by
 have d:ru t.name=true:=by rw[v];kernel_rfl
 unfold qQ;cases hl:σ.pq sS with
 |none=>
  dsimp only;exact RB.mono (c:=33) ((ji.ic (Q:=λ_ _=>True) (mU h.iv h.ne p d (by omega))).rb h.ne h.md) (by omega)
 |some a=>
  dsimp only;have⟨hm,hnm⟩:=xK σ sS hl;have⟨r,hr⟩:=id h.iv;have⟨ea,hea,hfa⟩:=hr.act a (List.mem_reverse.1 hm);have g:=Tw hea;have k:σ.nm a≠fy:=by rw[tU hnm];intro e;cases e
  have:ji 330 σ ((xF sS>>=λ_=>kB (some a)>>=λ_=>jY (some a)>>=λ_=>iE t>>=λ_=>(Pure.pure ():M Unit)) σ) (λ_ _=>True):=by
   refine ji.bind (ER h.iv h.ne (s:=sS) (by grind) (by omega)) (c2:=33) ?_ (by omega);rintro _ G A l J D;refine ji.bind (yT A (x:=some a) (lV (l.nm _ _ g))) (c2:=33) ?_ (by omega);rintro _ H B q K E;refine ji.bind (Cm B (q.nm _ _ (l.nm _ _ g)) k) (c2:=33) ?_ (by omega);rintro _ I C u L F;exact ji.ic (mU C (u.ne (q.ne (l.ne h.ne))) ⟨p.tag,by rw[F.fresh,E.fresh,D];exact p.fr⟩ d (by omega))
  exact this.rb h.ne h.md
end
def RB.tail {m:M Unit} (h:RB c σ (m σ)):RB c σ ((m>>=λ_=>(Pure.pure ():M Unit)) σ):=by
 rw[M.fP];revert h;cases m σ<;>exact λh=>h
theorem RB.then {m:M Unit} (h:RB c σ (m σ)) (g:Ab->Ab) (q:∀σ,(g σ).nodes=σ.nodes/\(g σ).fQ=σ.fQ/\(g σ).act=σ.act/\(g σ).head=σ.head/\(g σ).form=σ.form/\(g σ).pS=σ.pS/\(g σ).rq=σ.rq/\(g σ).mode=σ.mode/\(g σ).kept=σ.kept/\(g σ).gp=σ.gp/\(g σ).oY=σ.oY/\(g σ).waiting=σ.waiting):RB c σ ((m>>=λ_=>wj g>>=λ_=>(Pure.pure ():M Unit)) σ):=by
 rw[M.fP];revert h;cases m σ with
 |ok a σ1=>
  rintro⟨l,k,d,u⟩;have⟨g1,g2,g3,g4,g5,g6,g7,g8,g9,g10,g11,g12⟩:=q σ1;refine⟨l.mM g1 g2 g3 g4 g5 g6 g7,⟨by rw[g2];exact k.ne,?_⟩,⟨g10.trans d.gp,g6.trans d.pS,g7.trans d.rq,g11.trans d.oY,by rw[g12];exact d.wt,by rw[g12];exact d.wz⟩,by grind[wt]⟩;rw[g8,g9,g2];exact k.sh
 |stop e p=>simp
 |stuck=>simp
def ae8 {a b : fN} (h:ku a b=false):a≠b:=by
 rintro rfl;unfold ku at h;simp at h
def LD (i:Nat) (a:fN×fN) (r:kZ) (σ:Ab):qe i (a::r) σ=(match σ.gF i with
  |none=> .stuck
  |some e=>if zC e.gy a.1 then qe i r σ else if σ.oY<=e.gy.length then .stop 7 σ.gp else qe i r (σ.gE i {e with gy:=e.gy++[a]})):=rfl
theorem FA:∀(fX:kZ) {σ:Ab},mD σ->(σ.gF i).isSome=true->ji 0 σ (qe i fX σ) (λ_ _=>True)
 |[],σ,h,_=>⟨h,Fx.refl _,gr _,trivial⟩
 |a::r,σ,h,hi=>by
  have⟨e,he⟩:=Option.isSome_iff_exists.1 hi;have B:qe i (a::r) σ=(if zC e.gy a.1 then qe i r σ else if σ.oY<=e.gy.length then .stop 7 σ.gp else qe i r (σ.gE i {e with gy:=e.gy++[a]})):=by
   rw[LD,he]
  rw[B];split
  .exact FA r h hi
  .split
   .rfl
   .have⟨rr,hr⟩:=h;have l:=Ab.gL he;have G:(σ.gF i).isSome=true:=hi;have v:=hr.alike (σ':=σ.gE i {e with gy:=e.gy++[a]}) (λj q g=>by
     by_cases d:j=i
     .subst d;rw[he]at g;cases g;exact⟨_,Ab.iF l,rfl,rfl,rfl⟩
     .exact⟨q,by rw[Ab.iy d];exact g,rfl,rfl,rfl⟩) (λj q g=>by
     by_cases d:j=i
     .grind
     .rw[Ab.iy d]at g;grind) (λj q g k A=>by
     rw[Ab.kR G]
     by_cases d:j=i
     .subst d;rw[Ab.iF l]at g;cases g;exact hr.oq.kd _ _ he k A
     .rw[Ab.iy d]at g;exact hr.oq.kd _ _ g k A)
    have hw:wt (σ.gE i {e with gy:=e.gy++[a]})=wt σ:=by
     have:=rN (e':={e with gy:=e.gy++[a]}) he;dsimp only at this;omega
    have F:=FA r (σ:=σ.gE i {e with gy:=e.gy++[a]}) ⟨rr,v.1⟩ (by rw[Ab.iF l];rfl);revert F;cases qe i r (σ.gE i {e with gy:=e.gy++[a]})with
    |ok u σ2=>rintro⟨C,D,H,E⟩;exact⟨C,v.2.trans D,by omega,E⟩
    |stop c p=>exact λh=>h
    |stuck=>simp[ji]
def Py (h:mD σ) (d:jA σ i s) (k:ng s=true) (t:fZ) (g:σ.fresh=true):ji 0 σ (wX i t σ) (λ_ _=>True):=by
 unfold wX;rw[fU (by rw[rl];exact⟨g,by rw[jn.O7 d];exact k⟩)];exact FA t.ja h (lV d)
def DK (h:mD σ) (d:σ.fQ≠[]) (t:fZ) (g:σ.fresh=true):ji 0 σ (oM t σ) (λ_ _=>True):=by
 have⟨r,hr⟩:=id h;have⟨q,e,rest,h1,h2,h3,h4⟩:=hr.first d;unfold oM;rw[h2];dsimp only;exact ji.ic (Q:=λ_ _=>True) (Py h ⟨e,h3,h4⟩ (by kernel_rfl) t g)
theorem Nh (h:mD σ) (t:fZ) (k:σ.fresh=true):ji 0 σ (qv t σ) (λ_ _=>True):=by
 unfold qv;cases hq:gU σ.fQ 1 with
 |none=>exact⟨h,Fx.refl _,gr _,trivial⟩
 |some i=>
  dsimp only;split
  .rename_i g;have⟨r,hr⟩:=id h;have l:some i∈σ.fQ:=by
    rw[show(1:Int)=((1:Nat):Int)from rfl,qZ,uX]at hq;cases hx:σ.fQ[1]? with
    |none=>grind
    |some y=>grind
   have⟨j,e,e1,he⟩:=ky (hr.fQ _ l);cases e1;have d:=Tw he;rw[tU g]at d;exact ji.ic (Q:=λ_ _=>True) (Py h d (by kernel_rfl) t k)
  .exact⟨h,Fx.refl _,gr _,trivial⟩
section
variable {σ:Ab} {t:fZ} (h:nu σ) (hw:wt σ < 999000)
include h hw
theorem NS (g:lR σ t) (u:t.name=ib):RB 360 σ (sD t σ):=by
 have d:ru t.name=true:=by rw[u];kernel_rfl
 have:ji 360 σ (sD t σ) (λ_ _=>True):=by
  unfold sD;refine ji.bind (nP h.iv h.ne (by omega)) (c2:=325) ?_ (by omega);rintro _ B l k F ⟨D,E,p⟩;unfold tY;split
  .refine ji.bind (c1:=288) (ER l (k.ne h.ne) (s:=ib) (by grind) (by omega)) (c2:=33) ?_ (by omega);rintro _ C v q G A;exact ji.ic (Q:=λ_ _=>True) (mU v (q.ne (k.ne h.ne)) ⟨g.tag,by rw[A,p];exact g.fr⟩ d (by omega))
  .exact ji.mono (c:=33) (ji.ic (Q:=λ_ _=>True) (mU l (k.ne h.ne) ⟨g.tag,by rw[p];exact g.fr⟩ d (by omega))) (by omega) (λ_ _ _ _ h=>h)
 exact this.rb h.ne h.md
def Ik (d:lR σ t):RB 33 σ (o0 t σ):=by
 have:ji 33 σ (o0 t σ) (λ_ _=>True):=by
  unfold o0;refine ji.bind (oX h.iv h.ne d (by omega)) (c2:=0) ?_ (by omega);rintro _ k g l p _;exact ji.ic ((vI g none (λ_ h=>by cases h)).mono (gr _) (λ_ _ _ _ _=>trivial))
 exact this.rb h.ne h.md
def acL (d:lR σ t) (ks:List fN) (k:gI ks fy=false):RB 1 σ (GB ks t σ):=by
 have:ji 1 σ (GB ks t σ) (λ_ _=>True):=by
  unfold GB;refine ji.bind (wW h.iv (gI ks) Ti k) (c2:=1) ?_ (by omega);rintro _ q l g u ⟨p,_⟩;exact ji.ic ((tu l (g.ne h.ne) ⟨d.tag,p.fresh.trans d.fr⟩ (by omega)).mono (gr _) (λ_ _ _ _ _=>trivial))
 exact this.rb h.ne h.md
def DE (d:lR σ t):RB 1 σ (us t σ):=RB.tail (FO h hw d false)
def Eh (d:lR σ t):RB 1 σ (oI t σ):=RB.tail (FO h hw d true)
def EH (d:lR σ t):RB 1 σ (pK t σ):=RB.then (DE h hw d) _ (λ_=>⟨rfl,rfl,rfl,rfl,rfl,rfl,rfl,rfl,rfl,rfl,rfl,rfl⟩)
omit hw in
def Pe (d:σ.fresh=true):RB 0 σ (oM t σ):=(DK h.iv h.ne t d).rb h.ne h.md
omit hw in
def Rv (d:σ.fresh=true):RB 0 σ (qv t σ):=(Nh h.iv t d).rb h.ne h.md
omit hw in
def Tf:RB 0 σ (zy σ):=by
 unfold zy;split
 .exact⟨h.iv.mM rfl rfl rfl rfl rfl rfl rfl,⟨h.ne,.inl rfl⟩,⟨rfl,rfl,rfl,rfl,lx _,λ_ h=> .inl h⟩,nk (jh rfl)⟩
 .exact j9 h.iv h.EI
omit hw in
def JT (p b:fN->Bool) (d:p fy=false):RB 0 σ ((nh p b>>=λ_=>(Pure.pure ():M Unit)) σ):=
 (ji.ic (Q:=λ_ _=>True) ((wW h.iv p b d).mono (gr _) (λ_ _ _ _ _=>trivial))).rb h.ne h.md
omit hw in
def P7 (d:t.name≠fy):RB 0 σ (yE t σ):=JT h _ _ (by
 rw[yv];cases hx:ku fy t.name with
 |false=>rfl
 |true=>exact absurd (tU hx).symm d)
omit hw in
def K6:RB 0 σ (ut σ):=JT h _ _ (by kernel_rfl)
omit hw in
def SZ:RB 0 σ (Bm σ):=JT h _ _ (by kernel_rfl)
omit hw in
def OR (d:t.name≠fy):RB 0 σ (yz t σ):=(ji.ic (Q:=λ_ _=>True) ((Dp h.iv d).mono (gr _) (λ_ _ _ _ _=>trivial))).rb h.ne h.md
def abq:RB 1 σ (RO σ):=by
 have:ji 1 σ (RO σ) (λ_ _=>True):=by
  unfold RO;split
  .exact ji.mono (c:=0) (ji.ic (Q:=λ_ _=>True) ((uo h.iv).mono (gr _) (λ_ _ _ _ _=>trivial))) (by omega) (λ_ _ _ _ h=>h)
  .refine ji.bind (rU h.iv h.ne (by omega) mQ) (c2:=0) ?_ (by omega);rintro _ g d k l _;exact ji.ic ((uo d).mono (gr _) (λ_ _ _ _ _=>trivial))
 exact this.rb h.ne h.md
def Qa:RB 33 σ (uY σ):=by
 have:ji 33 σ (uY σ) (λ_ _=>True):=by
  unfold uY;refine ji.bind (nP h.iv h.ne (by omega)) (c2:=1) ?_ (by omega);rintro _ l g d v _;refine ji.bind (rU g (d.ne h.ne) (by omega) jk) (c2:=0) ?_ (by omega);rintro _ p k u A ⟨j,q,_⟩;exact ji.ic ((yD k (D9 q (d.ne h.ne))).mono (gr _) (λ_ _ _ _ _=>trivial))
 exact this.rb h.ne h.md
omit hw in
theorem SI:RB 0 σ (zp σ):=by
 unfold zp;cases hf:σ.form with
 |none=>exact j9 h.iv h.EI
 |some i=>
  dsimp only;have v:jA σ i gZ:=by have⟨r,hr⟩:=h.iv;exact hr.form i hf
  have g:mD {σ with form:=none}:=h.iv.N1 none (λ_ h=>by cases h);split
  .obtain⟨l,d,D⟩:=Iq g uR (by kernel_rfl);have q:=Cm l (i:=i) (s:=gZ) (d.nm _ _ v) (by simp);show RB 0 σ ((jY (some i)>>=λ_=>(Pure.pure ():M Unit)) (({σ with form:=none}:Ab).mB));rw[M.fP];revert q;have k:({σ with form:=none}:Ab).mB={({σ with form:=none}:Ab)with fQ:=(Ab.pU {σ with form:=none} uR ({σ with form:=none}:Ab).fQ.reverse).reverse}:=rfl;rw[k];cases jY (some i) _ with
   |ok u σ2=>
    rintro⟨A,B,E,C⟩;have F:=d.trans B;refine⟨A,⟨F.ne h.ne,.inl ?_⟩,⟨F.gp,F.pS,F.rq,F.oY,?_,by rw[F.waiting];grind⟩,?_⟩
    .rw[F.mode];exact h.md
    .rw[F.waiting];simp
    .rw[jh C.nodes];simp[wt]
   |stop c p=>exact λh=>h
   |stuck=>exact λh=>h
  .exact⟨g,⟨h.ne,.inl h.md⟩,⟨rfl,rfl,rfl,rfl,lx _,λ_ h=> .inl h⟩,nk (jh rfl)⟩
def EQ (d:ru t.name=true):RB 288 σ (pM t σ):=(ji.ic (Q:=λ_ _=>True) ((ER h.iv h.ne d (by omega)).mono (gr _) (λ_ _ _ _ _=>trivial))).rb h.ne h.md
omit hw in
def NW:RB 0 σ (sM σ):=by
 have:ji 0 σ (sM σ) (λ_ _=>True):=by
  unfold sM;refine ji.bind (wW h.iv (gI [gw]) io (by kernel_rfl)) (c2:=0) ?_ (by omega);rintro b g d k l _;cases b with
  |true=>exact(JZ d).mono (gr _) (λ_ _ _ _ _=>trivial)
  |false=>exact⟨d,Fx.refl _,gr _,trivial⟩
 exact this.rb h.ne h.md
def Ce (d:t.chars.size<=100):RB 101 σ (jQ t σ):=((oR h.iv h.ne t (by omega)).mono (c':=101) (by omega) (λ_ _ _ _ h=>h)).rb h.ne h.md
def Lu (l:t.chars.size<=100):RB 200 σ (nG t σ):=by
 unfold nG;split
 .exact(j9 h.iv h.EI).mono (by omega)
 .have:ji 200 σ ((lA>>=λ_=>jQ t>>=λ_=>(Pure.pure ():M Unit)) σ) (λ_ _=>True):=by
   refine ji.bind (nP h.iv h.ne (by omega)) (c2:=101) ?_ (by omega);rintro _ k g d p _;exact ji.ic (Q:=λ_ _=>True) ((oR g (d.ne h.ne) t (by omega)).mono (by omega) (λ_ _ _ _ _=>trivial))
  exact this.rb h.ne h.md
def zT (d:t.chars.size<=100):RB 101 σ (pk t σ):=by
 unfold pk;split
 .exact(j9 h.iv h.EI).mono (by omega)
 .exact RB.tail (Ce h hw d)
end
def sK (h:mD σ) (g:M (Nat×Nat)) (d:∃pl,g σ= .ok pl σ/\BF σ pl) (t:fZ) (hw:wt σ < 999000):ji 1 σ (nH g t σ) (λ_ _=>True):=by
 have⟨a,b,k,fX⟩:=t;cases k with
 |gm s=>
  have⟨pl,h1,h2⟩:=d;show ji 1 σ ((g>>=λpl=>oT pl (.cm s) .cm>>=λ_=>(Pure.pure ():M Unit)) σ) _;rw[M.fP,h1];dsimp only;exact ji.ic (m:=oT pl (.cm s) .cm) (Q:=λ_ _=>True) ((Fh h h2 (.cm s) .cm (.inl ⟨s,rfl,rfl⟩) (by omega)).mono (gr _) (λ_ _ _ _ _=>trivial))
 |jq s=>exact⟨h,Fx.refl _,lx _,trivial⟩
 |start s=>exact⟨h,Fx.refl _,lx _,trivial⟩
 |stop s=>exact⟨h,Fx.refl _,lx _,trivial⟩
 |gP s q=>exact⟨h,Fx.refl _,lx _,trivial⟩
 |lost=>exact⟨h,Fx.refl _,lx _,trivial⟩
 |il=>exact⟨h,Fx.refl _,lx _,trivial⟩
theorem we (h:mD σ) (d:σ.fQ≠[]):∃pl,lD σ= .ok pl σ/\BF σ pl:=by
 have⟨r,h⟩:=h;have⟨pl,h1,h2,_⟩:=Fi h d
 grind
def MO (h:mD σ):∃pl,jf 0 σ= .ok pl σ/\BF σ pl:=by
 have⟨e,he⟩:=Option.isSome_iff_exists.1 h.vc;exact⟨_,by unfold jf;rw[he],e,he,gr _⟩
end
end Go.Proofs.YtlhhgenpcjjajaaGreatDoor
