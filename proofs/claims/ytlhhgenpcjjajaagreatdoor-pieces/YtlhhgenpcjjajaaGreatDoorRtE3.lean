import Derived.Test.YtlhhgenpcjjajaaGreatDoorAdD
set_option linter.unusedSimpArgs false
set_option linter.unusedVariables false
set_option linter.defProp false
set_option maxHeartbeats 0
set_option maxRecDepth 100000
namespace Go.Proofs.YtlhhgenpcjjajaaGreatDoor
open Go.RowKit Go.PlainAid Tryz
def Ah:=@Eq.trans
def DF:=@List.head?_eq_getElem?
def Gb:=@List.take_sublist
def UL:=@List.mem_erase_of_ne
def Gc:=@List.getElem?_of_mem
def Ai:=@Nat.le_add_right
section
variable {Q : Unit->Ab->Prop} {R : RC} {a o xs ys : kV} {b bg c c' f i j m n pf ps : Nat} {e : Ak} {ks : List Nd} {pl : Nat×Nat} {r : Nat->Nat} {s : gz} {t : gO} {w : gx} {x y z : jk} {σ σ' : Ab}
def afe (r:Nat) (R:RC) (bg ps:Nat) (nm:gz) (w:gx) (h:Rd w r R bg ps) (Y:ps<=R.cs.size) (Z:R.cs.size<=1024) (K:Lu (R.cs.extract ps R.cs.size)=true) (X:nm.size < (xM (R.cs.extract ps R.cs.size)).size) (he:((small ((xM (R.cs.extract ps R.cs.size)).extract 0 nm.size)).toList==nm.toList)=true):
  Calls prog 156 #[gN r,gH nm] w λe L=>e=iw (.bool (ju jp (bt (xM (R.cs.extract ps R.cs.size)) nm.size)))/\Kept [] w L:=by
 have D:=fV (xo r R bg ps w h Y Z);have hz:=Io (R.cs.extract ps R.cs.size);have v:(R.cs.extract ps R.cs.size).size=R.cs.size - ps:=by simp
 rw[v]at hz;clear h v;generalize R.cs.extract ps R.cs.size=t at *;have B:=fV (λw=>Tryz.strings_CutPrefix t qm w);simp only at B;rw[show(⟨(Lib.trimPrefix t.data.toList [60,47]).toArray⟩:gz)=xM t from rfl,show Lib.hasPrefix t.data.toList [60,47]=Lu t from rfl]at B;generalize xM t=s at *;rw[K]at B;have T:(s.extract 0 nm.size).size=nm.size:=by simp;omega
 have E:=fV (λW=>wQ (s.extract 0 nm.size) W (by omega));have N:=fV (eq_true (show(nm.size:Int) < (s.size:Int) by omega));clear T;generalize small (s.extract 0 nm.size)=u at *;have hb:=get_bt s nm.size X;have U:=bt_nonneg s nm.size;have V:=bt_le s nm.size;clear K;generalize bt s nm.size=c at *;go_enter func156,ntmps156
 go_wp21
 refine D.out.mono ?_;rintro e w1 ⟨rfl,q,rfl⟩
 go_wp21
 refine(B.out _).mono ?_;rintro e L ⟨rfl,rfl⟩
 go_wp21
 refine vL (by rfl) ?_;refine qj (λ(g:gQ) z=>⟨#[gN r,gH nm,undef,undef,ce z 22 (.bool false) (.bool (ju jp c)),gH s,.bool true,gh nm.size,.tuple #[gH s,.bool true],gN r,gH t,.tuple #[gH s,.bool true],gH s,.bool true,gH nm,gh nm.size,cd z 0 (.bool true),cd z 1 (.bool true),cd z 2 (gH s),cd z 3 (gh s.size),cd z 4 (gh nm.size),cd z 5 (.bool true),cd z 6 (.bool true),cd z 7 (.bool true),cd z 8 (gH s),cd z 9 (gh nm.size),cd z 10 (gH (s.extract 0 nm.size)),cd z 11 (gH u),cd z 12 (gH nm),cd z 13 (.bool true),cd z 14 (.bool true),cd z 15 (.bool true),cd z 16 (g),cd z 17 (gH s),cd z 18 (gh nm.size),cd z 19 (.int .u8 c),cd z 20 (.bool (ju jp c)),cd z 21 (.bool (ju jp c))],[]⟩) (λg z W=>Kept [] w W/\(dn z 16=true->Gg g W)) 23 [[],[0],[1],[1,2],[1],[1,3,4],[1,5],[6],[7],[7],[7,8,9],[7,10],[7],[7,11,12],[7,13],[14],[15],[15],[15],[15,17,18],[15,16,19],[15,20],[21]] (undef) rfl rfl (⟨((Kept.refl [] w).drewN q).drew,λh=>by cases h⟩) ?_ ?_
 .repeat' first|exact nC|refine nA ?_ ?_
  all_goals
   rintro g z W d C hn;simp[CZ]at C;refine j9 rfl ?_;intro K' k;simp only[lD,C]
   try simp only[N.out]
   go_simp
   try (rw[gJ (by omega)];go_simp)
   first
   |refine k _ _ ⟨g,?_,d.1,λh=>d.2 (by simpa [pj]using h)⟩
   |refine(E.out W).mono ?_;rintro I H ⟨rfl,A⟩;refine k _ _ ⟨g,?_,d.1.trans A,λh=>(d.2 (by simpa [pj]using h)).k A⟩
   |refine(py _ W).mono ?_;rintro I H ⟨rfl,rfl⟩;refine k _ _ ⟨_,?_,d.1.alloc _,λ_=>Gg.new W⟩
   |obtain⟨S,rfl,G,F⟩:=d.2 (by simp[C]);have l:=C5 W [] S _ F G (by simp);have J:=l.Zw;go_simp;refine(l.ask c W U V (Kept.refl _ _)).mono ?_;rintro I H ⟨rfl,nq,rfl⟩;refine k _ _ ⟨_,?_,d.1.drewN nq,λh=>(d.2 (by simpa [pj]using h)).k ((Kept.refl [] W).drewN nq)⟩
   simp[pg,wg,lD,U7,ad4,C]
 .rintro g W d;simp only[vR,Y5];have O:=fV d.1;clear d;rename_i P p;refine p _ _ ?_;clear p P;go_wp2;go_ret;exact⟨rfl,O.out⟩
def Aa (R:RC) (look:gz->Option gz) (lg bg:Nat):AP:=
 if R.fU=true then .tok (.Y7 (pc (R.cs.extract bg (bg+1)))) (bg+1)
 else .tok (.Y7 (pc (sC look lg (R.cs.extract bg R.cs.size)))) (bg+qe look lg (R.cs.extract bg R.cs.size))
def wX {look : gz->Option gz} {lg : Nat} (h:∀x t,look x=some t->t.size<=16):(sC look lg s).size<=16:=by
 unfold sC;split
 .simp;omega
 .exact yt h
def KL (r:Nat) (R:RC) (bg ps l:Nat) (k:gz) (pl:Bool) (d:Nat->Nat) (w:gx) (h:Rd w r R bg ps) (Z:Gl w r) (K:R.fU=pl) (L:k.size<=1048576) (F:Nat) (S:F=(if pl then 157 else 93))
  (C:Calls prog F #[gN r] w λe D=>e=iw (.agg #[gh (d bg),gh (d l),gH k])/\Kept [r] w D/\Rd D r R bg l):
  Calls prog 90 #[gN r] w λe D=>oA w r R bg d e D (.tok (.Y7 (pc k)) l):=by
 have p:=h.fU;rw[K]at p;have hr:=iX h;have V:=C;have X:=Z;have G:=(λW (hg:Gl W r)=>yV r k W L hg);generalize pc k=T at *;have a0:∀(P:Fn) (first v:jN) (w:gx),(Instr.makeFunc P first v).run prog w= .ok (.func P first v) w:=λ_ _ _ _=>rfl;cases pl
 all_goals
  simp only[uz,↓reduceIte]at S;subst S;go_enter func90,ntmps90
  go_wp21
  refine V.mono ?_;rintro e q ⟨rfl,g,u⟩;have O:=(Kept.refl [] q).alloc (.cells #[gh (d bg),gh (d l),gH k] 188);have U:=fX q (.cells #[gh (d bg),gh (d l),gH k] 188);have J:q.heap.size≠r:=by have:=iX u;omega
  have H:=G _ (X.kept (g.trans (O.mono (by simp))));have Y:=g.size
  go_wp21
  refine H.mono ?_;rintro e N ⟨rfl,A⟩;have B:=A.at U (by simp);have q0:=fW B 0;have q1:=fW B 1;have q2:=fW B 2;have z2:=gu B 2;dsimp at q0 q1 q2;have KW:Kept [] q N:=O.trans A;have E:Kept [r] w (N.setCell ⟨q.heap.size,2,none⟩ (gH T)):=(g.trans (KW.mono (by simp))).setCell (.inr Y) _;have I:Rd (N.setCell ⟨q.heap.size,2,none⟩ (gH T)) r R bg l:=(u.kept KW (by simp)).rj J _;go_wp2;go_ret;exact⟨⟨_,rfl,rfl⟩,E,I⟩
theorem UG (r:Nat) (R:RC) (bg ps g l b lg:Nat) (look:gz->Option gz) (d:Nat->Nat) (w:gx) (h:Rd w r R bg ps) (k:UQ w r R g l b lg look d) (p:bg < R.cs.size):
  Calls prog 90 #[gN r] w λe u=>oA w r R bg d e u (Aa R look lg bg):=by
 unfold Aa;split
 .rename_i q;exact KL r R bg ps (bg+1) _ true d w h k.gl q (by have:=k.small;simp;omega) _ rfl (DN r R bg ps g l d w h k.gM p k.small)
 .rename_i q;exact KL r R bg ps _ _ false d w h k.gl (by grind) (j7 (wX k.XC.lk.short) (by decide)) _ rfl (DQ r R bg ps g l b lg look d w h k.gM k.XC p k.small)
def Xo (r:Nat) (R:RC) (bg ps:Nat) (nm:gz) (w:gx) (h:Rd w r R bg ps) (g:ps<=R.cs.size) (k:R.cs.size<=1024):
  Calls prog 156 #[gN r,gH nm] w λe l=>e=iw (.bool (Ot R nm ps))/\Kept [] w l:=by
 unfold Ot;cases ho:Lu (R.cs.extract ps R.cs.size)
 .exact afb r R bg ps nm w h g k ho
 .by_cases d:nm.size < (xM (R.cs.extract ps R.cs.size)).size
  .rw[wj d];cases he:((small ((xM (R.cs.extract ps R.cs.size)).extract 0 nm.size)).toList==nm.toList)
   .exact afd r R bg ps nm w h g k ho d he
   .have:=afe r R bg ps nm w h g k ho d he
    simpa using this
  .rw[yd d];exact afc r R bg ps nm w h g k ho d
def uM (R:RC) (ps:Nat):RC:={R with nJ:=if Ot R R.nJ ps=true then ⟨#[]⟩else R.nJ}
def Rd.setOf {r : Nat} (h:Rd w r R bg ps) (s:gz):Rd (w.setCell ⟨r,7,none⟩ (gH s)) r {R with nJ:=s} bg ps:=gm h 7 _
def UQ.setOf {r : Nat} {g d lg : Nat} {look : gz->Option gz} {k : Nat->Nat} (h:UQ w r R g d b lg look k) (s:gz):UQ w r {R with nJ:=s} g d b lg look k:=
 ⟨⟨h.gM.av,h.gM.ne,h.gM.lt,h.gM.at_⟩,⟨h.XC.lk,h.XC.ne,h.XC.mv,h.XC.lgv,h.XC.le⟩,h.gl,h.small⟩
theorem ZP (r:Nat) (R:RC) (bg ps:Nat) (w:gx) (h:Rd w r R bg ps) (F:ps<=R.cs.size) (G:R.cs.size<=1024):
  Calls prog 89 #[gN r] w λe v=>e=iw (.bool (!((uM R ps).nJ.toList==[])))/\Kept [r] w v/\Rd v r (uM R ps) bg ps:=by
 by_cases l:R.nJ=⟨#[]⟩
 .have e1:uM R ps=R:=by
   have⟨cs,av,at_,mv,lg,nJ,fU⟩:=R;simp only at l;subst l;simp[uM]
  rw[e1,l];refine(Xk r R bg ps w h l).mono ?_;rintro e v ⟨rfl,d⟩;exact⟨by simp,d.mono (by simp),h.kept d (by simp)⟩
 .have u:(R.nJ.toList==[])=false:=by
   cases hq:(R.nJ.toList==[])with
   |false=>rfl
   |true=>
    exfalso;apply l;have E:R.nJ.toList=[]:=by simpa using hq
    rw[tJ]at E;apply ve
    grind
  have o:=h.nJ;have K:=iX h;have C:=Xo r R bg ps R.nJ w h F G;have A:=h;unfold uM;cases hE:Ot R R.nJ ps
  .rw[hE]at C;have q:=fV (show(!((if false=true then jz else R.nJ).toList==[]))=true by simp[u]);have B:Hid (∀W,Rd W r R bg ps->Rd W r {R with nJ:=if false=true then ⟨#[]⟩else R.nJ} bg ps):=λW h=>h;rw[q.out];go_enter func89,ntmps89
   go_wp21
   refine C.mono ?_;rintro e I ⟨rfl,d⟩;have k:=A.kept d (by simp);have H:=k.nJ;have D:=d.mono (S':=[r]) (by simp);go_wp2;go_ret
   simp_all
  .rw[hE]at C;have B:Hid (∀W,Rd W r R bg ps->Rd (W.setCell ⟨r,7,none⟩ (gH jz)) r {R with nJ:=if true=true then ⟨#[]⟩else R.nJ} bg ps):=λW h=>h.setOf _;have q:=fV (show(!((if true=true then jz else R.nJ).toList==[]))=false by simp);rw[q.out];go_enter func89,ntmps89
   go_wp21
   refine C.mono ?_;rintro e I ⟨rfl,d⟩;have g:=A.kept d (by simp);have H:=g.nJ;have J:=g.free 7;have D:=(d.mono (S':=[r]) (by simp)).setCell (p:=⟨r,7,none⟩) (.inl (by simp)) (gH jz);have k:=B _ g;go_wp2;go_ret
   simp_all
def kR (R:RC) (look:gz->Option gz) (lg ps:Nat):AP:=
 if ps=R.cs.size then .tok .Xe ps
 else if ((uM R ps).nJ.toList==[])=true then (if pre (R.cs.extract ps R.cs.size) qG=true then rL (uM R ps) look lg ps (ps+1)else wx (uM R ps) look lg ps)
 else Aa (uM R ps) look lg ps
def Bg (R:RC) (ps:Nat):RC:=if ps=R.cs.size then R else uM R ps
def afr (r:Nat) (R:RC) (bg ps g N b lg:Nat) (look:gz->Option gz) (l:Nat->Nat) (w:gx) (h:Rd w r R bg ps) (hO:UQ w r R g N b lg look l) (hp:ps<=R.cs.size):
  Calls prog 56 #[gN r] w λe w'=>oA w r (Bg R ps) ps l e w' (kR R look lg ps):=by
 have hs:=hO.small;have p2:=h.bg;have p3:=h.ps;have f2:=h.free 2;obtain⟨G,X⟩:∃G,G=w.setCell ⟨r,2,none⟩ (gh ps):=⟨_,rfl⟩;have O:Rd G r R ps ps:=by rw[X];exact h.agD ps
 have I:Kept [r] w G:=by rw[X];exact(Kept.refl _ _).setCell (.inl (by simp)) _
 have HW:=fV X.symm;have HO:=hO.kept I;have CE:=pi r R ps ps G O;clear h hO X
 by_cases A:ps=R.cs.size
 .have eT:kR R look lg ps= .tok .Xe ps:=by unfold kR;rw[gJ A]
  have eR:Bg R ps=R:=by unfold Bg;rw[gJ A]
  rw[eT,eR];have e3:decide (ps=R.cs.size)=true:=by simp[A]
  rw[e3]at CE;have H:=fV CE;clear CE eT e3 A eR;go_enter func56,ntmps56
  go_wp21
  rw[HW.out];refine H.mono ?_;rintro e Y ⟨rfl,q,rfl⟩;have CP:=qp r R ps ps g N l (G.drewN q) (show Rd (G.drewN q) r R ps ps from O) (HO.kept ((Kept.refl [r] G).drewN q)).gM hp hp hs
  go_wp21
  refine CP.mono ?_;rintro e U ⟨rfl,d⟩;have u:=(I.drewN q).trans (d.mono (by simp));have B:Hid (Rd U r R ps ps):=d.at (show Rd (G.drewN q) r R ps ps from O) (by simp);clear d CP;go_wp2;go_ret;exact⟨⟨_,rfl,rfl⟩,u,B⟩
 .have e3:decide (ps=R.cs.size)=false:=by simp[A]
  rw[e3]at CE;have H:=fV CE;clear CE e3;have eR:Bg R ps=uM R ps:=by unfold Bg;rw[gV A]
  have eT:kR R look lg ps=if ((uM R ps).nJ.toList==[])=true then (if pre ((uM R ps).cs.extract ps (uM R ps).cs.size) qG=true then rL (uM R ps) look lg ps (ps+1)else wx (uM R ps) look lg ps)else Aa (uM R ps) look lg ps:=by unfold kR;rw[gV A];rfl
  have HI:=(λq=>ZP r R ps ps (G.drewN q) (show Rd (G.drewN q) r R ps ps from O) hp hs);have L:UQ G r (uM R ps) g N b lg look l:=HO.setOf _;have a0:ps < (uM R ps).cs.size:=by show ps < R.cs.size;omega
  have a3:(uM R ps).cs.size<=1024:=hs;rw[eT,eR];clear eT eR A hp hs HO O;generalize uM R ps=C at *;clear R;have Z:=λY (P:Rd Y r C ps ps)=>lR r C ps ps qG Y P (by omega) a3 (by decide);cases ho:(C.nJ.toList==[])
  .rw[ho]at HI;rw[gV (by simp)];have HT:=(λw' h1 P=>UG r C ps ps g N b lg look l w' h1 P a0);generalize Aa C look lg ps=T at HT|-;clear ho Z;cases T with
   |stop=>
    go_enter func56,ntmps56
    go_wp21
    rw[HW.out];refine H.mono ?_;rintro e Y ⟨rfl,q,rfl⟩
    go_wp21
    refine(HI q).mono ?_;rintro e U ⟨rfl,d,p⟩;have u:=((Kept.refl [r] G).drewN q).trans d;have B:=fV p;clear d p;have K:=HT U B (L.kept u);have J:=I.trans u
    go_wp21
    refine K.mono ?_;rintro e wz ⟨k,rfl,P,h3,h4⟩;have W:=oA.back (show oA U r C ps l _ wz .stop from⟨k,rfl,P,h3,h4⟩) J;clear P h3 h4 K;go_wp2;exact⟨rfl,W⟩
   |tok kd m=>
    go_enter func56,ntmps56
    go_wp21
    rw[HW.out];refine H.mono ?_;rintro e Y ⟨rfl,q,rfl⟩
    go_wp21
    refine(HI q).mono ?_;rintro e U ⟨rfl,d,p⟩;have u:=((Kept.refl [r] G).drewN q).trans d;have B:=fV p;clear d p;have K:=HT U B (L.kept u);have J:=I.trans u
    go_wp21
    refine K.mono ?_;rintro e wz ⟨⟨v,rfl,hv⟩,hk,hr⟩;have W:=oA.back (show oA U r C ps l (iw v) wz (.tok kd m)from⟨⟨v,rfl,hv⟩,hk,hr⟩) J;clear hv hk hr K;go_wp2;go_ret;exact W
  .rw[ho]at HI;rw[gJ rfl];cases hl:pre (C.cs.extract ps C.cs.size) qG
   .rw[gV (by simp)];have S:taken C qG ps=ps:=by unfold taken;rw[gV (by simp[hl])]
    rw[hl,S]at Z;have V:=fV Z;clear Z S hl ho;go_enter func56,ntmps56
    go_wp21
    rw[HW.out];refine H.mono ?_;rintro e Y ⟨rfl,q,rfl⟩
    go_wp21
    refine(HI q).mono ?_;rintro e U ⟨rfl,d,p⟩;have u:=((Kept.refl [r] G).drewN q).trans d;have B:=fV p;clear d p
    go_wp21
    refine(V _ B).mono ?_;rintro e w4 ⟨rfl,E,F⟩;have D:=u.trans E;have K:=DQ r C ps ps g N b lg look l w4 F (L.kept D).gM (L.kept D).XC a0 a3;clear E F
    go_wp21
    refine K.mono ?_;rintro e w5 ⟨rfl,a1,a2⟩;have W:=(show oA w r C ps l (iw (.iface 188 (.agg #[gh (l ps),gh (l (ps+qe look lg (C.cs.extract ps C.cs.size))),gH (sC look lg (C.cs.extract ps C.cs.size))]))) w5 (wx C look lg ps)from⟨⟨_,rfl,rfl⟩,I.trans (D.trans a1),a2⟩);clear a1 a2 K;go_wp2;go_ret;exact W
   .rw[gJ rfl];have S:taken C qG ps=ps+1:=by unfold taken;rw[gJ hl];rfl
    have a4:ps+1<=C.cs.size:=lN hl (by omega);rw[hl,S]at Z;have V:=fV Z;have HL:=(λw' h1 P=>NU r C ps (ps+1) g N b lg look l w' h1 P a0 a4);generalize rL C look lg ps (ps+1)=T at HL|-;clear Z S hl ho;cases T with
    |stop=>
     go_enter func56,ntmps56
     go_wp21
     rw[HW.out];refine H.mono ?_;rintro e Y ⟨rfl,q,rfl⟩
     go_wp21
     refine(HI q).mono ?_;rintro e U ⟨rfl,d,p⟩;have u:=((Kept.refl [r] G).drewN q).trans d;have B:=fV p;clear d p
     go_wp21
     refine(V _ B).mono ?_;rintro e w4 ⟨rfl,E,F⟩;have D:=u.trans E;have K:=HL w4 F (L.kept D);have J:=I.trans D;clear E F
     go_wp21
     refine K.mono ?_;rintro e wz ⟨k,rfl,P,h3,h4⟩;have W:=oA.back (show oA w4 r C ps l _ wz .stop from⟨k,rfl,P,h3,h4⟩) J;clear P h3 h4 K;go_wp2;exact⟨rfl,W⟩
    |tok kd m=>
     go_enter func56,ntmps56
     go_wp21
     rw[HW.out];refine H.mono ?_;rintro e Y ⟨rfl,q,rfl⟩
     go_wp21
     refine(HI q).mono ?_;rintro e U ⟨rfl,d,p⟩;have u:=((Kept.refl [r] G).drewN q).trans d;have B:=fV p;clear d p
     go_wp21
     refine(V _ B).mono ?_;rintro e w4 ⟨rfl,E,F⟩;have D:=u.trans E;have K:=HL w4 F (L.kept D);have J:=I.trans D;clear E F
     go_wp21
     refine K.mono ?_;rintro e wz ⟨⟨v,rfl,hv⟩,hk,hr⟩;have W:=oA.back (show oA w4 r C ps l (iw v) wz (.tok kd m)from⟨⟨v,rfl,hv⟩,hk,hr⟩) J;clear hv hk hr K;go_wp2;go_ret;exact W
def Qp (bs bm d r:Nat) (C:jN) (R:RC) (bg ps:Nat) (l:gx) (k:gQ) (g:lZ):Env:={Vc bs bm d r C R bg ps l with tv:=k,ta:=g}
def QR (R:RC) (o:gz) (p:Bool):RC:={R with nJ:=o,fU:=p}
def M4 (R:RC) (bg ps:Nat) (o:gz) (p:Bool):((xm R bg ps).setIfInBounds 7 (gH o)).setIfInBounds 8 (.bool p)=xm (QR R o p) bg ps:=rfl
def RF.rdV {bs bm d r : Nat} {C : jN} {l : gx} {k : gQ} {g : lZ} {f : Nat->Nat} (h:RF (Qp bs bm d r C R bg ps l k g) f σ w):Rd w r (QR R σ.nJ σ.iY) bg ps:=by
 have⟨L,_,hr⟩:=h;have e:w.heap[r]?=some (gL (((xm R bg ps).setIfInBounds 7 (gH σ.nJ)).setIfInBounds 8 (.bool σ.iY)) 165):=hr.rd
 rwa [M4]at e
theorem RF.VT {bs bm Y r : Nat} {C : jN} {w0 : gx} {tv : gQ} {ta : lZ} {f : Nat->Nat} {w' : gx} (h:RF (Qp bs bm Y r C R bg ps w0 tv ta) f σ w) (T:List TypeId) (p:KT bs T w w') (hT:∀t∈Wm,t∈T->t=165) (hM:∀t∈T,t∈IG) {q u : Nat} {o : gz} (hr:Rd w' r (QR R o σ.iY) q u)
  (l:gQ) (A:lZ) (W:zn w' l A) (P:A.length<=4096) (Z:Bool) (N:Z=true->∀g,l.ownBlock=some g->w.heap.size<=g) (X:∀g,l.ownBlock=some g->bs<=g):
  RF (Qp bs bm Y r C R q u w' l A) f {σ with fresh:=Z,nJ:=o} w':=by
 have⟨L,e,h⟩:=h;have F:∀t∈Wm,t≠165->t∉T:=λt ht V U=>V (hT t ht U);have⟨C',hbl,hC⟩:=h.iC;have B:wU bm w w':=by
  have⟨S,hk,hS⟩:=p;exact⟨S,hk,λk h1 h2=>by grind⟩
 have E:∀(b:Nat) (I:Array MapEntry) (H:Nat),w.heap[b]?=some (Obj.map I H)->w'.heap[b]?=some (Obj.map I H):=by
  intro b I H K;have⟨S,hk,hS⟩:=p;have D:b < w.heap.size:=(Array.getElem?_eq_some_iff.1 K).1;refine(hk.block b D λU=>?_).trans K;have⟨⟨c,t,m,J,_⟩,_⟩:=hS b U D;rw[K]at J;cases J
 refine⟨L,e,?_⟩;have d:=PA.move (w:=w) (w':=w') h.env h.fr B E;exact
  {fr:=Fr.refl _
   env:=⟨d.G1,d.txt,d.spec,d.Xj,d.WG,d.xX⟩
   vM:=h.vM
   tL:=λi nd O=>(h.tL i nd O).kt p (λt ht=>F t (by revert t;decide) (by revert t;decide))
   inj:=h.inj
   BT:=h.BT
   GM:=h.GM
   uq:=h.uq
   Fk:=h.Fk
   wf:=⟨h.wf.gG,h.wf.act,h.wf.head,h.wf.form,h.wf.jl,h.wf.kids,h.wf.xX⟩
   iC:=⟨C',p.at hbl (F _ (by decide) (by decide)),⟨hC.size,hC.low,hC.gG,hC.act,hC.head,hC.form,hC.mode,hC.kept,hC.wait,hC.Js,hC.jV,hC.gS,hC.behind⟩⟩
   pF:=p.row h.pF (F _ (by decide) (by decide))
   qu:=p.row h.qu (F _ (by decide) (by decide))
   GP:=h.GP
   x9:=h.x9
   Fp:=h.Fp
   pC:=p.row h.pC (F _ (by decide) (by decide))
   Mg:=h.Mg
   rd:=by
    show w'.heap[r]?=some (.cells (((xm R q u).setIfInBounds 7 (gH o)).setIfInBounds 8 (.bool σ.iY)) _ _);rw[M4];exact hr
   RU:=by show 7+1 < 9;decide
   tok:=W
   Md:=P
   bz:=j7 (j7 h.bz h.fr.size) p.size
   bB:=h.bB
   bR:=h.bR
   bN:=h.bN
   DH:=λh2 i g O hg G=>by
    have J:=N h2 g hg;have h4:g < w.heap.size:=by
     cases hel:σ.ij i with
     |none=>rw[h.Fk i O hel]at G;cases G
     |some el=>
      have h5:=h.tL i (.el el) (Ab.jr hel);exact(h5.2.1.lt g G).2
    omega
   ab:=h.ab
   tb:=X
   Mf:=λv G=>by cases G}
structure TkW (a b:Nat) (kd:Int) (T:TypeId) (x:gQ):Prop where
 ik:∀w,(Go.method 500 T x "Bytes").run prog w= .ok (436,.agg #[gh a,gh b]) w
 nil:∀w,(nilAhead 500 T x "Bytes").run prog w= .ok (some false) w
 kind:∀w,Calls prog 58 #[.iface T x] w λe w'=>e=iw (gh kd)/\w'=w
def qd (a b:Nat):UR->gO
 | .Xe=>⟨a,b,.iR,[]⟩
 | .Y7 t=>⟨a,b,.jM t,[]⟩
 | .Uw nm L=>⟨a,b,.start nm,L⟩
 | .fin nm L=>⟨a,b,.stop nm,L⟩
 | .Yu t=>⟨a,b,.gR t,[]⟩
 | .dtp nm q=>⟨a,b,.iy nm q,[]⟩
 | .lost=>⟨a,b,.lost,[]⟩
def vF:UR->Nat
 | .Xe=>0
 | .Y7 _=>1
 | .Uw _ _=>2
 | .fin _ _=>3
 | .Yu _=>4
 | .dtp _ _=>5
 | .lost=>6
def QU (a b:Int) (n:gz) (x:Option Addr) (m c:Nat) (w:gx):Calls prog 58 #[.iface 196 (.agg #[gh a,gh b,gH n,.slice x m c])] w λe k=>e=iw (gh 2)/\k=w:=by
 have g:=vV;have d:=ru underlying196;go_enter func58,ntmps58;go_wp2;go_ret;simp
def TY (a b:Int) (n:gz) (x:Option Addr) (m c:Nat) (w:gx):Calls prog 58 #[.iface 197 (.agg #[gh a,gh b,gH n,.slice x m c])] w λe l=>e=iw (gh 3)/\l=w:=by
 have k:=vV;have d:=rh;have g:=ru underlying197;go_enter func58,ntmps58;go_wp2;go_ret;simp
def Xs (a b:Int) (n:gz) (w:gx):Calls prog 58 #[.iface 198 (.agg #[gh a,gh b,gH n])] w λe p=>e=iw (gh 4)/\p=w:=by
 have l:=vV;have d:=rh;have k:=yU;have g:=ru underlying198;go_enter func58,ntmps58;go_wp2;go_ret;simp
def Xt (a b:Int) (n:gz) (q:Bool) (w:gx):Calls prog 58 #[.iface 200 (.agg #[gh a,gh b,gH n,.bool q])] w λe u=>e=iw (gh 5)/\u=w:=by
 have p:=vV;have d:=rh;have l:=yU;have g:=tC;have k:=ru underlying200;go_enter func58,ntmps58;go_wp2;go_ret;simp
def TW (a b:Int) (w:gx):Calls prog 58 #[.iface 190 (.agg #[gh a,gh b])] w λe u=>e=iw (gh 6)/\u=w:=by
 have p:=vV;have d:=rh;have l:=yU;have g:=tC;have k:=wO;have q:=ru underlying190;go_enter func58,ntmps58;go_wp2;go_ret;simp
theorem Wi.is {base a : Nat} {v : gQ} {k : UR} (h:Wi base (a:Int) (b:Int) v w k) (D:(qd a b k).ib.length<=4096):
  ∃T x B,v= .iface T x/\(∀E:Env,E.tv=B->iJ E (qd a b k)= .iface T x)/\TkW a b (vF k) T x/\(∃y m c,B= .slice y m c)/\zn w B (qd a b k).ib/\(∀g,B.ownBlock=some g->base<=g):=by
 have l:∀g,(jc).ownBlock=some g->base<=g:=λg A=>by simp[Value.ownBlock]at A
 cases k with
 |Xe=>exact⟨_,_,jc,h,λ_ _=>rfl,⟨λw=>by kernel_rfl,λw=>by kernel_rfl,λw=>Z3 (Vc 0 0 0 0 #[] ⟨⟨#[]⟩,.nilFunc,0,.nilFunc,0,⟨#[]⟩,false⟩ 0 0 w) a b w⟩,⟨_,_,_,rfl⟩,od _ _ _ _,l⟩
 |Y7 t=>exact⟨_,_,jc,h,λ_ _=>rfl,⟨λw=>by kernel_rfl,λw=>by kernel_rfl,λw=>Xr (Vc 0 0 0 0 #[] ⟨⟨#[]⟩,.nilFunc,0,.nilFunc,0,⟨#[]⟩,false⟩ 0 0 w) a b t w⟩,⟨_,_,_,rfl⟩,od _ _ _ _,l⟩
 |Yu t=>exact⟨_,_,jc,h,λ_ _=>rfl,⟨λw=>by kernel_rfl,λw=>by kernel_rfl,λw=>Xs a b t w⟩,⟨_,_,_,rfl⟩,od _ _ _ _,l⟩
 |dtp n q=>exact⟨_,_,jc,h,λ_ _=>rfl,⟨λw=>by kernel_rfl,λw=>by kernel_rfl,λw=>Xt a b n q w⟩,⟨_,_,_,rfl⟩,od _ _ _ _,l⟩
 |lost=>exact⟨_,_,jc,h,λ_ _=>rfl,⟨λw=>by kernel_rfl,λw=>by kernel_rfl,λw=>TW a b w⟩,⟨_,_,_,rfl⟩,od _ _ _ _,l⟩
 |Uw n L=>
  obtain⟨p,u,rfl,d⟩:=h;refine⟨_,_,.slice p L.length u,rfl,λE C=>?_,⟨λw=>by kernel_rfl,λw=>by kernel_rfl,λw=>QU a b n p L.length u w⟩,⟨_,_,_,rfl⟩,jR d (iN _),λg A=>(d.lt g A).1⟩
  grind[iJ,qd]
 |fin n L=>
  obtain⟨p,u,rfl,d⟩:=h;refine⟨_,_,.slice p L.length u,rfl,λE C=>?_,⟨λw=>by kernel_rfl,λw=>by kernel_rfl,λw=>TY a b n p L.length u w⟩,⟨_,_,_,rfl⟩,jR d (iN _),λg A=>(d.lt g A).1⟩
  grind[iJ,qd]
theorem uI {a b : gz} (h:la a b=true):a=b:=by
 unfold la at h;have d:a.toList=b.toList:=by simpa using h
 rw[tJ,tJ]at d;apply ve
 simp_all
def iM:List Nd->List Nat
 |[]=>[]
 | .el j::r=>j::iM r
 | .tx _::r=>iM r
 | .cm _::r=>iM r
 | .dt _::r=>iM r
def rG (a b:List Nd):iM (a++b)=iM a++iM b:=by
 induction a with
 |nil=>rfl
 |cons k r ih=>cases k<;>simp[iM,ih]
def yT:∀{ks:List Nd},j∈iM ks↔Nd.el j∈ks
 |[]=>by simp[iM]
 |k::r=>by cases k<;>simp[iM,yT (ks:=r)]
def BN (ks:List Nd) (n:Nat) (j:Nat):(iM (ins ks n (.el j))).Perm (j::iM ks):=by
 unfold ins;have h:iM ks=iM (ks.take n)++iM (ks.drop n):=by rw[<-rG,Af]
 rw[rG,rG,h];simp[iM]
theorem Tu (ks:List Nd) (n:Nat) (k:Nd) (d:∀j,k≠ .el j):iM (ins ks n k)=iM ks:=by
 unfold ins;have h:iM ks=iM (ks.take n)++iM (ks.drop n):=by rw[<-rG,Af]
 rw[rG,rG,h];cases k with
 |el j=>grind
 |tx j=>simp[iM]
 |cm j=>simp[iM]
 |dt j=>simp[iM]
theorem Vj (ks:List Nd) (n:Nat) (k:Nd) (d:n<=ks.length):(ins ks n k).length=ks.length+1:=by
 unfold ins;grind
theorem Vt {k x : Nd}:x∈ins ks n k↔x=k\/x∈ks:=by
 unfold ins;have h:x∈ks↔x∈ks.take n\/x∈ks.drop n:=by rw[<-List.mem_append,Af]
 grind
def Vu:Cf->Nat
 | .el e=>e.kids.length
 | .tx s=>s.size
 | .cm _=>0
 | .dt _=>0
def wt (σ:Ab):Nat:=(σ.nodes.map Vu).sum
theorem Pc:∀(l:List Nat) (i x y:Nat),l[i]?=some x->(l.set i y).sum+x=l.sum+y
 |[],i,x,y,h=>by simp at h
 |a::l,0,x,y,h=>by grind
 |a::l,i+1,x,y,h=>by
  simp at h;have:=Pc l i x y h
  grind
def abh {n m : Cf} (h:σ.nodes[i]?=some n):((σ.nodes.set i m).map Vu).sum+Vu n=wt σ+Vu m:=by
 unfold wt;rw[List.map_set];exact Pc _ _ _ _ (by simp[h])
def sK {e' : Ak} (h:σ.ij i=some e):wt (σ.ig i e')+e.kids.length=wt σ+e'.kids.length:=abh (m:= .el e') (Ab.jr h)
def abf (σ:Ab) (nd:Cf):wt (σ.add nd)=wt σ+Vu nd:=by simp[wt,Ab.add]
def Fb (σ:Ab) (nd:Cf) (b:Bool):wt (σ.pN nd b)=wt σ+Vu nd:=by simp[wt,Ab.pN]
theorem aa4:∀(l:List Nat) (i x:Nat),l[i]?=some x->x<=l.sum
 |[],i,x,h=>by simp at h
 |a::l,0,x,h=>by grind
 |a::l,i+1,x,h=>by
  simp at h;have:=aa4 l i x h
  grind
def abg {n : Cf} (h:σ.nodes[i]?=some n):Vu n<=wt σ:=aa4 _ i _ (by simp[h])
def Ir (h:σ.ij i=some e):e.kids.length<=wt σ:=abg (Ab.jr h)
structure Shp (σ:Ab):Prop where
 up:∀i e p,σ.ij i=some e->e.jl=some p->∃ep,σ.ij p=some ep/\i∈iM ep.kids
 dn:∀i e j,σ.ij i=some e->j∈iM e.kids->∃ej,σ.ij j=some ej/\ej.jl=some i
 nd:∀i e,σ.ij i=some e->(iM e.kids).Nodup
 kd:∀i e,σ.ij i=some e->∀k∈e.kids,σ.jo k=true
def rk (r:Nat->Nat):jk->Nat
 |some i=>r i
 |none=>0
structure abE (r:Nat->Nat) (σ:Ab):Prop where
 jl:∀i e p,σ.ij i=some e->e.jl=some p->r p < r i
 gG:σ.gG.Pairwise λx y=>rk r x < rk r y
 hd:∀d h,σ.head=some d->σ.gG.head?=some (some h)->r h < r d
def rY (s:gz):Bool:=im [uo,Hn,BI,iK] s
def jX (σ:Ab) (i:Nat) (s:gz):Prop:=∃e,σ.ij i=some e/\e.name=s
structure jK (r:Nat->Nat) (σ:Ab):Prop where
 oT:Shp σ
 ur:abE r σ
 gG:∀x∈σ.gG,σ.mw x=true
 act:∀i,some i∈σ.act->∃e,σ.ij i=some e/\rY e.name=true
 head:∀d,σ.head=some d->jX σ d gZ
 form:∀d,σ.form=some d->jX σ d iP
 Mr:∀x rest,σ.gG=x::rest->∃h,x=some h/\jX σ h fY
 x9:σ.gG.length<=σ.qv
 AC:σ.act.length<=σ.rZ
 Qc:σ.qv<=64
 SU:σ.rZ<=32
 xX:(σ.ij 0).isSome=true
def nr (σ:Ab):Prop:=∃r,jK r σ
structure Fx (σ σ':Ab):Prop where
 mode:σ'.mode=σ.mode
 kept:σ'.kept=σ.kept
 head:σ'.head=σ.head
 form:σ'.form=σ.form
 waiting:σ'.waiting=σ.waiting
 Js:σ'.iT=σ.iT
 jV:σ'.jV=σ.jV
 gS:σ'.gS=σ.gS
 qv:σ'.qv=σ.qv
 rZ:σ'.rZ=σ.rZ
 pG:σ'.pG=σ.pG
 nm:∀i s,jX σ i s->jX σ' i s
 Mr:σ.gG≠[]->σ'.gG.head?=σ.gG.head?
def Fx.refl (σ:Ab):Fx σ σ:=⟨rfl,rfl,rfl,rfl,rfl,rfl,rfl,rfl,rfl,rfl,rfl,λ_ _ h=>h,λ_=>rfl⟩
theorem Fx.ne (h:Fx σ σ') (d:σ.gG≠[]):σ'.gG≠[]:=by
 intro e;have:=h.Mr d;rw[e]at this;cases ho:σ.gG with
 |nil=>grind
 |cons x r=>grind
def Fx.trans {a b c : Ab} (h:Fx a b) (k:Fx b c):Fx a c:=
 ⟨k.mode.trans h.mode,k.kept.trans h.kept,k.head.trans h.head,k.form.trans h.form,k.waiting.trans h.waiting,k.Js.trans h.Js,k.jV.trans h.jV,k.gS.trans h.gS,k.qv.trans h.qv,k.rZ.trans h.rZ,k.pG.trans h.pG,λi s g=>k.nm i s (h.nm i s g),λd=>(k.Mr (h.ne d)).trans (h.Mr d)⟩
def jE {α:Type} (c:Nat) (σ:Ab) (r:qI α) (Q:α->Ab->Prop):Prop:=match r with
 | .ok a σ'=>nr σ'/\Fx σ σ'/\wt σ'<=wt σ+c/\Q a σ'
 | .stop _ p=>p=σ.gS
 | .stuck=>False
theorem jE.mono {α:Type} {r:qI α} {Q d:α->Ab->Prop} (h:jE c σ r Q) (k:c<=c') (g:∀a σ',nr σ'->Fx σ σ'->Q a σ'->d a σ'):jE c' σ r d:=by
 cases r with
 |ok a σ'=>grind[jE]
 |stop e p=>exact h
 |stuck=>exact h
theorem jE.bind {α l:Type} {c1 c2 : Nat} {m:M α} {k:α->M l} {Q:α->Ab->Prop} {g:l->Ab->Prop} (h:jE c1 σ (m σ) Q) (q:∀a σ',nr σ'->Fx σ σ'->wt σ'<=wt σ+c1->Q a σ'->jE c2 σ' (k a σ') g) (u:c1+c2<=c):jE c σ ((m>>=k) σ) g:=by
 rw[M.gE];cases hm:m σ with
 |ok a σ'=>
  rw[hm]at h;have⟨h1,h2,h3,h4⟩:=h;have d:=q a σ' h1 h2 h3 h4;cases hk2:k a σ' with
  |ok b σ2=>
   rw[hk2]at d;dsimp only;rw[hk2];exact⟨d.1,h2.trans d.2.1,by have:=d.2.2.1;omega,d.2.2.2⟩
  |stop e p=>
   rw[hk2]at d;dsimp only;rw[hk2];exact Ah d h2.gS
  |stuck=>grind[jE]
 |stop e p=>rwa [hm]at h
 |stuck=>grind[jE]
def jE.ret {α:Type} (d:nr σ) {Q:α->Ab->Prop} {a:α} (g:Q a σ) (c:Nat:=0):jE c σ ((Pure.pure a:M α) σ) Q:=⟨d,Fx.refl _,by omega,g⟩
def nr.xX (h:nr σ):(σ.ij 0).isSome=true:=by have⟨r,h⟩:=h;exact h.xX
def jX.lt (h:jX σ i s):i < σ.nodes.length:=by have⟨e,he,_⟩:=h;exact Ab.iq he
theorem ld (h:σ.mw x=true):∃i e,x=some i/\σ.ij i=some e:=by
 cases x with
 |none=>cases h
 |some i=>have⟨e,he⟩:=Option.isSome_iff_exists.1 h;grind
theorem jK.sub (h:jK r σ) (p:ys.Sublist σ.gG) (k:ys.head?=σ.gG.head?):jK r {σ with gG:=ys}/\Fx σ {σ with gG:=ys}:=by
 refine⟨⟨⟨h.oT.up,h.oT.dn,h.oT.nd,h.oT.kd⟩,⟨h.ur.jl,h.ur.gG.sublist p,?_⟩,λx l=>h.gG x (p.subset l),h.act,h.head,h.form,?_,j7 p.length_le h.x9,h.AC,h.Qc,h.SU,h.xX⟩,⟨rfl,rfl,rfl,rfl,rfl,rfl,rfl,rfl,rfl,rfl,rfl,λ_ _ h=>h,λ_=>k⟩⟩
 .intro d x u l;exact h.ur.hd d x u (by grind)
 .intro x g l;have q:ys=x::g:=l;rw[q]at k;cases ho:σ.gG with
  |nil=>grind
  |cons y r2=>
   rw[ho]at k;have e:x=y:=by simpa using k
   subst e;exact h.Mr x r2 ho
def xP (r:Nat->Nat) (n x:Nat):Nat->Nat:=λi=>if i=n then x else r i
def F4 (r:Nat->Nat) (n x:Nat):xP r n x n=x:=by simp[xP]
def EW {x : Nat} (h:i≠n):xP r n x i=r i:=by simp[xP,h]
def Shp.afy (h:Shp σ) {p : Nat} (d:σ.ij i=some e) (g:e.jl=some p):p < σ.nodes.length:=by
 have⟨ep,h1,_⟩:=h.up i e p d g;exact Ab.iq h1
def jK.FL (h:jK r σ) (d:some i∈σ.gG):i < σ.nodes.length:=by
 have⟨j,e,hj,he⟩:=ld (h.gG _ d);cases hj;exact Ab.iq he
theorem abE.congr {g : Nat->Nat} (h:abE r σ) (q:∀i e p,σ.ij i=some e->e.jl=some p->g p < g i) (l:∀i,some i∈σ.gG->g i=r i) (k:∀d h,σ.head=some d->σ.gG.head?=some (some h)->g h < g d):abE g σ:=by
 refine⟨q,?_,k⟩;refine h.gG.imp_of_mem ?_;intro x y B C u;have A:∀z∈σ.gG,rk g z=rk r z:=by
  intro z v;cases z with
  |none=>rfl
  |some i=>exact l i v
 grind
theorem jK.new (h:jK r σ) (q:gz) (gM:lZ) (b:Bool) (x:Nat):jK (xP r σ.nodes.length x) (σ.pN (.el {name:=q,ib:=gM,jl:=none,kids:=[]}) b)/\Fx σ (σ.pN (.el {name:=q,ib:=gM,jl:=none,kids:=[]}) b):=by
 obtain⟨A,K⟩:∃A:Cf,A= .el {name:=q,ib:=gM,jl:=none,kids:=[]}:=⟨_,rfl⟩;rw[<-K];have O:∀i,(σ.pN A b).ij i=(σ.add A).ij i:=λ_=>rfl;have F:∀i e,σ.ij i=some e->(σ.pN A b).ij i=some e:=λi e E=>by grind[Ab.ij,Ab.pN]
 have g:∀i e,(σ.pN A b).ij i=some e->σ.ij i=some e\/(i=σ.nodes.length/\e={name:=q,ib:=gM,jl:=none,kids:=[]}):=by
  intro i e E;rcases Ab.Jf (nd:=A) E with⟨_,l⟩|⟨l,I⟩
  .grind
  .grind
 have B:∀i s,jX σ i s->jX (σ.pN A b) i s:=λi s ⟨e,E,S⟩=>⟨e,F i e E,S⟩;have v:∀i,i < σ.nodes.length->xP r σ.nodes.length x i=r i:=λi u=>EW (by omega);refine⟨⟨⟨?_,?_,?_,?_⟩,⟨?_,?_,?_⟩,λy C=>Ab.MM (h.gG y C),λi u=>?_,λd D=>B _ _ (h.head d D),λd D=>B _ _ (h.form d D),λy G C=>?_,h.x9,h.AC,h.Qc,h.SU,?_⟩,⟨rfl,rfl,rfl,rfl,rfl,rfl,rfl,rfl,rfl,rfl,rfl,B,λ_=>rfl⟩⟩
 .intro i e p u H;rcases g i e u with l|⟨_,l⟩
  .have⟨ep,I,h3⟩:=h.oT.up i e p l H
   grind
  grind
 .intro i e j u J;rcases g i e u with l|⟨_,l⟩
  .have⟨ej,I,h3⟩:=h.oT.dn i e j l J
   grind
  .rw[l]at J;simp[iM]at J
 .intro i e u;rcases g i e u with l|⟨_,l⟩
  .exact h.oT.nd i e l
  grind[iM]
 .intro i e u k P;rcases g i e u with l|⟨_,l⟩
  .exact Ab.FE (h.oT.kd i e l k P)
  grind
 .intro i e p u H;rcases g i e u with l|⟨_,l⟩
  .rw[v p (h.oT.afy l H),v i (Ab.iq l)];exact h.ur.jl i e p l H
  grind
 .refine h.ur.gG.imp_of_mem ?_;intro y z C N T;have U:∀z∈σ.gG,rk (xP r σ.nodes.length x) z=rk r z:=by
   intro z N;cases z with
   |none=>rfl
   |some i=>exact v i (h.FL N)
  grind
 .intro d y D C;have L:some y∈σ.gG:=List.mem_of_mem_head? C;rw[v y (h.FL L),v d (h.head d D).lt];exact h.ur.hd d y D C
 .have⟨e,E,hf⟩:=h.act i u
  grind
 .have⟨z,l,I⟩:=h.Mr y G C
  grind
 .have⟨e,E⟩:=Option.isSome_iff_exists.1 h.xX
  grind
theorem AV (r:Nat->Nat):∀n,∃B,∀i,i < n->r i<=B
 |0=>⟨0,λi d=>by omega⟩
 |n+1=>by
  have⟨B,hB⟩:=AV r n;refine⟨B+r n,λi d=>?_⟩
  grind
theorem jK.raise (h:jK r σ) (C:σ.ij j=some e) (D:iM e.kids=[]) (E:some j∉σ.gG) {x : Nat} (F:r j<=x):jK (xP r j x) σ:=by
 refine {h with ur:=h.ur.congr ?_ ?_ ?_}
 .intro i q p u v;have g:p≠j:=by
   rintro rfl;have⟨ep,h1,h2⟩:=h.oT.up i q p u v;rw[C]at h1;cases h1;rw[D]at h2;cases h2
  rw[EW g];have:=h.ur.jl i q p u v
  grind[xP]
 .grind[xP]
 .intro d y B A;have k:some y∈σ.gG:=List.mem_of_mem_head? A;have l:y≠j:=by rintro rfl;exact E k
  rw[EW l];have:=h.ur.hd d y B A
  grind[xP]
def Ca (σ:Ab) (pl:Nat×Nat):Prop:=∃e,σ.ij pl.1=some e/\pl.2<=e.kids.length
theorem jK.put (h:jK r σ) {ej : Ak} (E:Ca σ pl) (D:σ.ij j=some ej) (F:ej.jl=none) (hr:r pl.1 < r j) (hw:wt σ < 1000000):
  ∃σ',nT pl j σ= .ok () σ'/\jK r σ'/\Fx σ σ'/\wt σ'=wt σ+1/\σ'.gG=σ.gG/\σ'.act=σ.act/\σ'.fresh=σ.fresh/\σ'.nodes.length=σ.nodes.length/\(∀i e,σ.ij i=some e->∃u,σ'.ij i=some u/\u.name=e.name/\u.ib=e.ib/\(i≠pl.1->u.kids=e.kids)/\(i≠j->u.jl=e.jl))/\(∀u,σ'.ij j=some u->u.jl=some pl.1):=by
 have⟨ei,hi,Y⟩:=E;have B:j≠pl.1:=by rintro rfl;omega
 have hl:=Ir hi;have V:=Ab.iq hi;have a2:=Ab.iq D;obtain⟨σ',g⟩:∃σ',σ'=(σ.ig pl.1 {ei with kids:=ins ei.kids pl.2 (.el j)}).ig j {ej with jl:=some pl.1}:=⟨_,rfl⟩;have hq:nT pl j σ= .ok () σ':=by
  unfold nT;rw[hi,D];dsimp only;rw[gJ ⟨B,Y,by omega⟩,g]
 have g1:σ'.ij pl.1=some {ei with kids:=ins ei.kids pl.2 (.el j)}:=by rw[g,Ab.iU (ye B),Ab.jd V]
 have g2:σ'.ij j=some {ej with jl:=some pl.1}:=by rw[g,Ab.jd (by grind[Ab.ig])]
 have g3:∀i,i≠pl.1->i≠j->σ'.ij i=σ.ij i:=λi l A=>by rw[g,Ab.iU A,Ab.iU l]
 have H:(σ.ij pl.1).isSome=true:=by rw[hi];rfl
 have I:((σ.ig pl.1 {ei with kids:=ins ei.kids pl.2 (.el j)}).ij j).isSome=true:=by rw[Ab.iU B,D];rfl
 have gk:∀k,σ'.jo k=σ.jo k:=λk=>by rw[g,Ab.lA I,Ab.lA H]
 have ge:∀x,σ'.mw x=σ.mw x:=λx=>by rw[g,Ab.yS I,Ab.yS H]
 have C:∀i e,σ.ij i=some e->∃u,σ'.ij i=some u/\u.name=e.name/\u.ib=e.ib/\(i≠pl.1->u.kids=e.kids)/\(i≠j->u.jl=e.jl):=by
  intro i e G
  by_cases l:i=pl.1
  .grind
  .grind
 have q:∀i u,σ'.ij i=some u->(i=pl.1/\u={ei with kids:=ins ei.kids pl.2 (.el j)})\/(i=j/\u={ej with jl:=some pl.1})\/(i≠pl.1/\i≠j/\σ.ij i=some u):=by
  intro i u G
  by_cases l:i=pl.1
  .grind
  .grind
 have K:∀i s,jX σ i s->jX σ' i s:=λi s ⟨e,G,Y⟩=>by
  grind[jX]
 have W:j∉iM ei.kids:=by
  intro hm;have⟨ej2,l,A⟩:=h.oT.dn _ _ _ hi hm;rw[D]at l;cases l;rw[F]at A;cases A
 have X:∀i e,σ.ij i=some e->∀u,σ'.ij i=some u->∀x,x∈iM e.kids->x∈iM u.kids:=by
  intro i e G u T x L;rcases q i u T with⟨l,rfl⟩|⟨l,rfl⟩|⟨_,_,l⟩
  .subst l;rw[hi]at G;cases G;exact(BN ei.kids pl.2 j).mem_iff.2 (si _ L)
  .grind
  .grind
 refine⟨σ',hq,⟨⟨?_,?_,?_,?_⟩,⟨?_,?_,?_⟩,λx L=>?_,λi v=>?_,λd S=>K _ _ (h.head d ?_),λd S=>K _ _ (h.form d ?_),λy N hy=>?_,?_,?_,?_,?_,?_⟩,?_,?_,?_,?_,?_,?_,C,?_⟩
 .intro i e p v E;rcases q i e v with⟨l,rfl⟩|⟨l,rfl⟩|⟨_,_,l⟩
  .rw[l]at *;have⟨ep,A,h3⟩:=h.oT.up _ _ p hi E
   grind
  .cases E;exact⟨_,g1,by rw[l];exact(BN ei.kids pl.2 j).mem_iff.2 (yk ..)⟩
  .have⟨ep,A,h3⟩:=h.oT.up _ _ p l E
   grind
 .intro i e x v L;have a1:∀O,σ.ij i=some O->x∈iM O.kids->∃P,σ'.ij x=some P/\P.jl=some i:=by
   intro O U Z;have⟨P,A,h3⟩:=h.oT.dn i O x U Z;have a0:x≠j:=by rintro rfl;rw[D]at A;cases A;rw[F]at h3;cases h3
   have⟨ex',h4,_,_,_,h5⟩:=C x P A;exact⟨ex',h4,(h5 a0).trans h3⟩
  rcases q i e v with⟨l,rfl⟩|⟨l,rfl⟩|⟨_,_,l⟩
  .rw[l]at a1|-;rcases List.mem_cons.1 ((BN ei.kids pl.2 j).mem_iff.1 L)with A|A
   all_goals grind
  .grind
  grind
 .intro i e v;rcases q i e v with⟨l,rfl⟩|⟨l,rfl⟩|⟨_,_,l⟩
  .exact(BN ei.kids pl.2 j).nodup_iff.2 (List.nodup_cons.2 ⟨W,h.oT.nd _ _ hi⟩)
  .show(iM ej.kids).Nodup;exact h.oT.nd _ _ D
  .exact h.oT.nd _ _ l
 .intro i e v k J;rw[gk];rcases q i e v with⟨l,rfl⟩|⟨l,rfl⟩|⟨_,_,l⟩
  .rcases Vt.1 J with rfl|J
   .grind[Ab.jo]
   .exact h.oT.kd _ _ hi k J
  .exact h.oT.kd _ _ D k J
  .exact h.oT.kd _ _ l k J
 .intro i e p v E;rcases q i e v with⟨l,rfl⟩|⟨l,rfl⟩|⟨_,_,l⟩
  .rw[l];exact h.ur.jl _ _ p hi E
  .grind
  .exact h.ur.jl _ _ p l E
 .rw[g];exact h.ur.gG
 .rw[g];exact h.ur.hd
 .rw[ge];exact h.gG x (by rwa [g]at L)
 .have⟨e,G,hf⟩:=h.act i (by rw[g]at v;exact v)
  grind
 .rwa [g]at S
 .rwa [g]at S
 .have⟨z,l,A⟩:=h.Mr y N (by rwa [g]at hy)
  grind
 .rw[g];exact h.x9
 .rw[g];exact h.AC
 .rw[g];exact h.Qc
 .rw[g];exact h.SU
 .have⟨e,G⟩:=Option.isSome_iff_exists.1 h.xX
  grind
 .rw[g];exact⟨rfl,rfl,rfl,rfl,rfl,rfl,rfl,rfl,rfl,rfl,rfl,by grind,λ_=>rfl⟩
 .have w1:=sK (e':={ei with kids:=ins ei.kids pl.2 (.el j)}) hi;have w2:=sK (σ:=σ.ig pl.1 {ei with kids:=ins ei.kids pl.2 (.el j)}) (e':={ej with jl:=some pl.1}) (by rw[Ab.iU B];exact D);have w3:=Vj ei.kids pl.2 (.el j) Y
  grind
 .rw[g];rfl
 .rw[g];rfl
 .rw[g];rfl
 .rw[g,Ab.oc,Ab.oc]
 grind
theorem jK.alike (h:jK r σ) (V:∀i e,σ.ij i=some e->∃g,σ'.ij i=some g/\g.name=e.name/\g.jl=e.jl/\iM g.kids=iM e.kids) (U:∀i g,σ'.ij i=some g->∃e,σ.ij i=some e) (W:∀i g,σ'.ij i=some g->∀k∈g.kids,σ'.jo k=true)
  (B:σ'.gG=σ.gG:=by rfl) (J:σ'.act=σ.act:=by rfl) (v:σ'.head=σ.head:=by rfl) (E:σ'.form=σ.form:=by rfl) (F:σ'.qv=σ.qv:=by rfl) (G:σ'.rZ=σ.rZ:=by rfl) (K:σ'.mode=σ.mode:=by rfl) (L:σ'.kept=σ.kept:=by rfl) (N:σ'.waiting=σ.waiting:=by rfl) (O:σ'.iT=σ.iT:=by rfl) (P:σ'.jV=σ.jV:=by rfl) (S:σ'.gS=σ.gS:=by rfl) (T:σ'.pG=σ.pG:=by rfl):jK r σ'/\Fx σ σ':=by
 have u:∀i s,jX σ i s->jX σ' i s:=λi s ⟨e,A,X⟩=>by
  grind[jX]
 have l:∀i g,σ'.ij i=some g->∃e,σ.ij i=some e/\g.name=e.name/\g.jl=e.jl/\iM g.kids=iM e.kids:=by
  intro i g C;have⟨e,A⟩:=U i g C;have⟨e2,v,E⟩:=V i e A;rw[C]at v;cases v;exact⟨e,A,E⟩
 refine⟨⟨⟨?_,?_,?_,W⟩,⟨?_,?_,?_⟩,?_,?_,?_,?_,?_,?_,?_,?_,?_,?_⟩,⟨K,L,v,E,N,O,P,S,F,G,T,u,λ_=>by rw[B]⟩⟩
 .intro i e p q Y;have⟨e0,g1,_,g3,_⟩:=l i e q;have⟨ep,g4,g5⟩:=h.oT.up i e0 p g1 (by grind)
  grind
 .intro i e j q Z;have⟨e0,g1,_,_,g4⟩:=l i e q;have⟨ej,g5,g6⟩:=h.oT.dn i e0 j g1 (by grind)
  grind
 .intro i e q;have⟨e0,g1,_,_,g4⟩:=l i e q;rw[g4];exact h.oT.nd i e0 g1
 .intro i e p q Y;have⟨e0,g1,_,g3,_⟩:=l i e q;exact h.ur.jl i e0 p g1 (by grind)
 .rw[B];exact h.ur.gG
 .rw[v,B];exact h.ur.hd
 .rw[B];intro x I;obtain⟨i,e,rfl,A⟩:=ld (h.gG x I)
  grind[Ab.mw]
 .rw[J];intro i q;have⟨e,A,X⟩:=h.act i q
  grind
 .rw[v];exact λd H=>u _ _ (h.head d H)
 .rw[E];exact λd H=>u _ _ (h.form d H)
 .rw[B];intro x D I;have⟨z,g1,g2⟩:=h.Mr x D I
  grind
 .rw[B,F];exact h.x9
 .rw[J,G];exact h.AC
 .rw[F];exact h.Qc
 .rw[G];exact h.SU
 .have⟨e,A⟩:=Option.isSome_iff_exists.1 h.xX
  grind
theorem jK.vO (h:jK r σ) (nd:Cf) (q:∀e,nd≠ .el e):jK r (σ.add nd)/\Fx σ (σ.add nd):=by
 refine h.alike (λi e u=>⟨e,by grind[Ab.ij,Ab.add],rfl,rfl,rfl⟩) ?_ ?_
 .grind[Ab.ij,Ab.add]
 .intro i l d k p;rcases Ab.Jf (nd:=nd) d with⟨_,g⟩|⟨_,g⟩
  .exact Ab.FE (h.oT.kd i l g k p)
  grind
theorem jK.agk (h:jK r σ) {d : Ak} {k : Nd} (q:σ.ij i=some d) (D:∀j,k≠ .el j) (F:σ.jo k=true) (E:n<=d.kids.length):jK r (σ.ig i {d with kids:=ins d.kids n k})/\Fx σ (σ.ig i {d with kids:=ins d.kids n k})/\wt (σ.ig i {d with kids:=ins d.kids n k})=wt σ+1:=by
 have C:(σ.ij i).isSome=true:=by rw[q];rfl
 have p:∀j l,(σ.ig i {d with kids:=ins d.kids n k}).ij j=some l->(j=i/\l={d with kids:=ins d.kids n k})\/(j≠i/\σ.ij j=some l):=by
  intro j l g
  by_cases u:j=i
  .subst u;rw[Ab.jd (Ab.iq q)]at g;grind
  .rw[Ab.iU u]at g;grind
 have v:=h.alike (σ':=σ.ig i {d with kids:=ins d.kids n k}) (λj e B=>by
  by_cases u:j=i
  .subst u;rw[q]at B;cases B;exact⟨_,Ab.jd (Ab.iq q),rfl,rfl,Tu _ _ _ D⟩
  .exact⟨e,by rw[Ab.iU u];exact B,rfl,rfl,rfl⟩) (λj l g=>by
  grind) (λj l g x A=>by
  rw[Ab.lA C];rcases p j l g with⟨_,rfl⟩|⟨_,v⟩
  .rcases Vt.1 A with rfl|A
   .exact F
   .exact h.oT.kd _ _ q x A
  .exact h.oT.kd _ _ v x A)
 refine⟨v.1,v.2,?_⟩;have G:=sK (e':={d with kids:=ins d.kids n k}) q;have H:=Vj d.kids n k E
 grind
theorem jK.oM (h:jK r σ) {t : Nat} {g : gz} (l:σ.nodes[t]?=some (.tx g)):jK r (σ.oM t s)/\Fx σ (σ.oM t s)/\wt (σ.oM t s)+g.size=wt σ+s.size:=by
 have q:=h.alike (σ':=σ.oM t s) (λi e v=>⟨e,by grind[Ab.ij,Ab.oM],rfl,rfl,rfl⟩) (λi p d=>⟨p,by rw[Ab.ue l]at d;exact d⟩) (λi p d k u=>by
  rw[Ab.Hc l];rw[Ab.ue l]at d;exact h.oT.kd i p d k u)
 exact⟨q.1,q.2,abh (m:= .tx s) l⟩
structure Rest (σ σ':Ab):Prop where
 gG:σ'.gG=σ.gG
 act:σ'.act=σ.act
 fresh:σ'.fresh=σ.fresh
 behind:σ'.behind=σ.behind
 nJ:σ'.nJ=σ.nJ
 iY:σ'.iY=σ.iY
theorem Rs (h:nr σ) (u:Ca σ pl) (s:gz) (hw:wt σ+s.size+1<=1000000):jE (s.size+1) σ (vH pl s σ) (λ_ σ'=>Rest σ σ'):=by
 have⟨r,h⟩:=h;have⟨ei,hi,hn⟩:=u;have D:=Ir hi;unfold vH;rw[hi];dsimp only;rw[gJ ⟨hn,by omega⟩];have v:jE (s.size+1) σ (.ok () ((σ.add (.tx s)).ig pl.1 {ei with kids:=ins ei.kids pl.2 (.tx σ.nodes.length)}):qI Unit) (λ_ σ'=>Rest σ σ'):=by
  have⟨a1,a2⟩:=h.vO (.tx s) (λe l=>by cases l);have k:(σ.add (.tx s)).ij pl.1=some ei:=by rw[Ab.vT (Ab.iq hi)];exact hi
  have g:(σ.add (.tx s)).jo (.tx σ.nodes.length)=true:=by simp[Ab.jo,Ab.add]
  have⟨b1,b2,b3⟩:=a1.agk (n:=pl.2) k (λj p=>by cases p) g hn;have F:=abf σ (.tx s);have G:Vu (.tx s)=s.size:=rfl;exact⟨⟨r,b1⟩,a2.trans b2,by omega,⟨rfl,rfl,rfl,rfl,rfl,rfl⟩⟩
 split
 .rename_i t E;have q:Nd.tx t∈ei.kids:=by
   by_cases A:pl.2=0
   .grind
   .grind
  have d:=h.oT.kd _ _ hi _ q;unfold Ab.jo at d;dsimp only at d;cases hx:σ.nodes[t]? with
  |none=>grind
  |some nd=>
   rw[hx]at d;cases nd with
   |tx old=>
    have B:Vu (.tx old)<=wt σ:=abg hx;have C:Vu (.tx old)=old.size:=rfl;dsimp only;rw[gJ (by omega)];have⟨b1,b2,b3⟩:=h.oM (s:=old++s) hx;have:(old++s).size=old.size+s.size:=ByteArray.size_append;exact⟨⟨r,b1⟩,b2,by omega,⟨rfl,rfl,rfl,rfl,rfl,rfl⟩⟩
   |el e=>cases d
   |cm s=>cases d
   |dt s=>cases d
 omega
def FR (h:nr σ) (u:Ca σ pl) (nd:Cf) (k:Nat->Nd) (d:(∃s,nd= .cm s/\k= .cm)\/(∃s,nd= .dt s/\k= .dt)) (hw:wt σ+1<=1000000):jE 1 σ (pz pl nd k σ) (λ_ σ'=>Rest σ σ'):=by
 have⟨r,h⟩:=h;have⟨ei,hi,hn⟩:=u;have A:=Ir hi;have q:∀e,nd≠ .el e:=by rintro e rfl;rcases d with⟨s,h,_⟩|⟨s,h,_⟩<;>cases h
 have p:∀i j,k i≠ .el j:=by rintro i j;rcases d with⟨s,_,h⟩|⟨s,_,h⟩<;>(rw[h];simp)
 have v:Vu nd=0:=by rcases d with⟨s,h,_⟩|⟨s,h,_⟩<;>(rw[h];rfl)
 have⟨a1,a2⟩:=h.vO nd q;have l:(σ.add nd).ij pl.1=some ei:=by rw[Ab.vT (Ab.iq hi)];exact hi
 have g:(σ.add nd).jo (k σ.nodes.length)=true:=by
  rcases d with⟨s,rfl,rfl⟩|⟨s,rfl,rfl⟩<;>simp[Ab.jo,Ab.add]
 have⟨b1,b2,b3⟩:=a1.agk (n:=pl.2) l (p _) g hn;have B:=abf σ nd;unfold pz Aw;rw[l];dsimp only;rw[gJ ⟨g,hn,by omega⟩];exact⟨⟨r,b1⟩,a2.trans b2,by omega,⟨rfl,rfl,rfl,rfl,rfl,rfl⟩⟩
theorem Vz (h:i∈iM ks):0<=qH ks (Nd.hH i)/\(qH ks (Nd.hH i)).toNat < ks.length:=by
 have d:ks.findIdx (Nd.hH i) < ks.length:=abm ⟨_,yT.1 h,by simp[Nd.hH]⟩
 grind[qH]
theorem rK (xs:kV) (n:Nat):iE xs (n:Int)=xs.getD n none:=by
 grind[iE]
theorem jK.at (h:jK r σ) (d:n < σ.gG.length):∃i e,σ.gG[n]?=some (some i)/\σ.ij i=some e:=by
 have⟨i,e,h1,h2⟩:=ld (h.gG _ (uw d))
 grind
def GB (h:jK r σ) (A:some i∈σ.gG) (D:some i≠iE σ.gG 0):∃pl,ng i σ= .ok pl σ/\Ca σ pl/\r pl.1 < r i/\(some pl.1∈σ.gG\/∃e c,σ.ij pl.1=some e/\c∈iM e.kids):=by
 have⟨i',e,e1,he⟩:=ld (h.gG _ A);cases e1;unfold ng;rw[he];dsimp only;cases hp:e.jl with
 |some p=>
  have⟨ep,d,k⟩:=h.oT.up i e p he hp;have⟨u,v⟩:=Vz k;dsimp only;rw[d];dsimp only;rw[gJ u];exact⟨_,rfl,⟨ep,d,by omega⟩,h.ur.jl i e p he hp,.inr ⟨ep,i,d,k⟩⟩
 |none=>
  dsimp only;have d:σ.gG.idxOf (some i) < σ.gG.length:=List.idxOf_lt_length_of_mem A;have k:posOf σ.gG (some i)=(σ.gG.idxOf (some i):Int):=by unfold posOf;rw[gJ d]
  have u:σ.gG.idxOf (some i)≠0:=by
   intro B;apply D;have:=List.getElem_idxOf d;rw[show(0:Int)=((0:Nat):Int)from rfl,rK];simp only[B]at this;rw[vK,qB (by omega),<-this];rfl
  have⟨q,eq,hq,he2⟩:=h.at (n:=σ.gG.idxOf (some i) - 1) (by omega);have v:iE σ.gG (posOf σ.gG (some i) - 1)=some q:=by
   rw[k,show(σ.gG.idxOf (some i):Int) - 1=((σ.gG.idxOf (some i) - 1:Nat):Int) by omega,rK,vK,hq];rfl
  rw[v];dsimp only;unfold jC;rw[he2];refine⟨_,rfl,⟨eq,he2,gW _⟩,?_,.inl (uy hq)⟩;have g:=List.pairwise_iff_getElem.1 h.ur.gG (σ.gG.idxOf (some i) - 1) (σ.gG.idxOf (some i)) (by omega) d (by omega);rw[List.getElem_idxOf d]at g;have C:σ.gG[σ.gG.idxOf (some i) - 1]'(by omega)=some q:=by
   have:=qB (l:=σ.gG) (i:=σ.gG.idxOf (some i) - 1) (by omega);rw[hq]at this;exact(jy this).symm
  rwa [C]at g
theorem GC:∀{xs:kV} {x:jk},sP σ xs=some x->x∈xs/\x≠iE σ.gG 0/\la (σ.rM x) fZ=true
 |[],x,h=>by cases h
 |y::xs,x,h=>by
  unfold sP at h;split at h
  .have⟨h1,h2⟩:=GC h
   grind
  grind
theorem jK.first (h:jK r σ) (g:σ.gG≠[]):∃q e d,σ.gG=some q::d/\iE σ.gG 0=some q/\σ.ij q=some e/\e.name=fY:=by
 cases ho:σ.gG with
 |nil=>grind
 |cons x d=>
  obtain⟨q,rfl,e,k,l⟩:=h.Mr x d ho
  grind[iE]
theorem Sl (h:jK r σ):σ.Bq=true:=by
 unfold Ab.Bq;rw[Nu];intro x d;obtain⟨i,e,rfl,k⟩:=ld (h.gG x d);dsimp only
 by_cases g:some i=iE σ.gG 0
 .grind
 .have⟨pl,h1,_⟩:=GB h d g;rw[h1];simp[qI.isOk]
theorem A5 (h:jK r σ) (g:σ.gG≠[]):∃pl,ku σ= .ok pl σ/\Ca σ pl/\(some pl.1∈σ.gG\/∃e c,σ.ij pl.1=some e/\c∈iM e.kids)/\((∃i,some i∈σ.gG/\la (σ.nm i) fZ=true/\sP σ σ.gG.reverse=some (some i)/\r pl.1 < r i)\/iE σ.gG 0=some pl.1):=by
 unfold ku;rw[gJ (Sl h)];have⟨q,eq,rest,ho,hq,k,_⟩:=h.first g;cases hf:sP σ σ.gG.reverse with
 |none=>
  dsimp only;rw[hq];dsimp only;unfold jC;rw[k]
  grind[Ca]
 |some x=>
  have⟨h1,h2,h3⟩:=GC hf;have d:x∈σ.gG:=List.mem_reverse.1 h1;obtain⟨i,e,rfl,k⟩:=ld (h.gG x d);dsimp only;have⟨pl,p1,p2,p3,p4⟩:=GB h d h2;exact⟨pl,p1,p2,p4,.inl ⟨i,d,h3,rfl,p3⟩⟩
theorem Rp (h:jK r σ) (d:some i∈σ.gG):∃pl,placeFor i σ= .ok pl σ/\Ca σ pl/\(some pl.1∈σ.gG\/∃e c,σ.ij pl.1=some e/\c∈iM e.kids):=by
 have⟨i',e,e1,he⟩:=ld (h.gG _ d);cases e1;unfold placeFor;split
 .have⟨pl,h1,h2,h3,_⟩:=A5 h (List.ne_nil_of_mem d)
  grind
 .unfold jC;rw[he]
  grind[Ca]
theorem Ox (h:jK r σ) (d:σ.gG≠[]):∃i e,σ.last=some i/\some i∈σ.gG/\σ.gG.getLast?=some (some i)/\σ.ij i=some e:=by
 have g:0 < σ.gG.length:=List.length_pos_iff.2 d;have⟨i,e,h1,h2⟩:=h.at (n:=σ.gG.length - 1) (by omega);refine⟨i,e,?_,uy h1,by grind,h2⟩;unfold Ab.last;rw[show(σ.gG.length:Int) - 1=((σ.gG.length - 1:Nat):Int) by omega,rK,vK,h1];rfl
theorem FM (h:jK r σ) (d:σ.gG≠[]):∃pl,mh σ= .ok pl σ/\Ca σ pl/\(some pl.1∈σ.gG\/∃e c,σ.ij pl.1=some e/\c∈iM e.kids):=by
 have⟨i,e,h1,h2,_⟩:=Ox h d;have⟨pl,h3,h4⟩:=Rp h h2
 grind[mh]
theorem jK.push (h:jK r σ) (v:σ.ij j=some e) (C:∀x∈σ.gG,rk r x < r j) (B:σ.gG.length < σ.qv) (p:σ.gG≠[]\/(e.name=fY/\σ.head=none)):jK r {σ with gG:=σ.gG++[some j]}/\Fx σ {σ with gG:=σ.gG++[some j]}:=by
 have u:σ.gG≠[]->(σ.gG++[some j]).head?=σ.gG.head?:=by
  intro A;cases ho:σ.gG with
  |nil=>grind
  |cons x l=>rfl
 refine⟨⟨⟨h.oT.up,h.oT.dn,h.oT.nd,h.oT.kd⟩,⟨h.ur.jl,?_,?_⟩,?_,h.act,h.head,h.form,?_,?_,h.AC,h.Qc,h.SU,h.xX⟩,⟨rfl,rfl,rfl,rfl,rfl,rfl,rfl,rfl,rfl,rfl,rfl,λ_ _ h=>h,u⟩⟩
 .refine List.pairwise_append.2 ⟨h.ur.gG,by simp,λx g y D=>?_⟩
  grind[rk]
 .intro d x q g;rcases p with p|⟨_,p⟩
  .exact h.ur.hd d x q (by grind)
  grind
 .intro x g;rcases List.mem_append.1 g with g|g
  .exact h.gG x g
  .rw[List.mem_singleton.1 g];show(σ.ij j).isSome=true;grind
 .intro x l g;have k:σ.gG++[some j]=x::l:=g;cases ho:σ.gG with
  |nil=>
   rw[ho]at k;injection k with h1 h2;rcases p with p|⟨p,_⟩
   .grind
   .exact⟨j,h1.symm,e,v,p⟩
  |cons y r2=>
   rw[ho]at k;injection k with h1 h2;have⟨z,h3,h4⟩:=h.Mr y r2 ho;exact⟨z,h1▸h3,h4⟩
 grind
def N4 (h:e.kids=[]):iM e.kids=[]:=by rw[h];rfl
structure agZ (σ:Ab) (j:Nat) (σ':Ab):Prop where
 gG:σ'.gG=σ.gG++[some j]
 act:σ'.act=σ.act
 fresh:σ'.fresh=σ.fresh
 len:σ'.nodes.length=σ.nodes.length
theorem ML (h:nr σ) (d:σ.ij j=some e) (g:e.jl=none) (A:e.kids=[]) (D:some j∉σ.gG) (q:σ.gG≠[]) (hw:wt σ < 999999):jE 1 σ (mn j σ) (λ_ σ'=>agZ σ j σ'):=by
 have⟨r,h⟩:=h;have⟨pl,p1,p2,E⟩:=FM h q;have G:pl.1≠j:=by
  rintro rfl;rcases E with E|⟨e2,c,k,v⟩
  .grind
  .rw[d]at k;cases k;rw[A]at v;cases v
 have⟨B,hB⟩:=AV r σ.nodes.length;have I:=h.raise d (N4 A) D (x:=B+1) (by have:=hB j (Ab.iq d);omega);have H:pl.1 < σ.nodes.length:=by have⟨e2,k,_⟩:=p2;exact Ab.iq k
 have⟨σ',q1,q2,q3,q4,q5,q6,q7,q8,q9,q10⟩:=I.put p2 d g (by grind[xP]) (by omega);unfold mn;rw[M.gE,p1];dsimp only;rw[M.gE,q1];dsimp only;rw[M.gE];unfold ya;have⟨e',e1,e2,_⟩:=q9 j e d
 by_cases C:σ'.qv<=σ'.gG.length
 .rw[gJ C];exact q3.gS
 .rw[gV C];have l:σ'.mw (some j)=true:=by show(σ'.ij j).isSome=true;rw[e1];rfl
  rw[gJ l];dsimp only;have⟨g1,g2⟩:=q2.push e1 (by
   intro x u;rw[q5]at u;rw[F4];obtain⟨i,J,rfl,F⟩:=ld (h.gG x u);show xP r j (B+1) i < _;have p:i≠j:=by rintro rfl;exact D u
   rw[EW p];have:=hB i (Ab.iq F);omega) (by omega) (.inl (by grind))
  exact⟨⟨_,g1⟩,q3.trans g2,by grind[wt],⟨by grind,q6,q7,q8⟩⟩
def uX (xs:kV) (k:Nat):(xs.reverse.drop k).reverse=xs.take (xs.length - k):=by
 rw[List.reverse_drop];simp
theorem KS (σ:Ab) (p:gz->Bool):∀ys:kV,(∃x∈ys,p (σ.rM x)=true)->∃k,1<=k/\k<=ys.length/\Ab.Bt σ p ys=ys.drop k/\∃x,ys[k - 1]?=some x/\p (σ.rM x)=true
 |[],h=>by grind
 |y::ys,h=>by
  unfold Ab.Bt
  by_cases d:p (σ.rM y)=true
  .rw[gJ d];exact⟨1,gW _,by simp,rfl,y,rfl,d⟩
  .rw[gV d];have⟨x,g,hpx⟩:=h;have l:x∈ys:=by
    rcases List.mem_cons.1 g with rfl|g
    .grind
    .exact g
   have⟨k,h1,h2,h3,x2,h4,h5⟩:=KS σ p ys ⟨x,l,hpx⟩;refine⟨k+1,by omega,by grind,by grind,x2,?_,h5⟩
   grind
theorem Ks (σ:Ab) (p b:gz->Bool):∀{ys:kV},Ab.yv σ p b ys=true->∃x∈ys,p (σ.rM x)=true
 |[],h=>by cases h
 |y::ys,h=>by
  unfold Ab.yv at h
  by_cases d:p (σ.rM y)=true
  .grind
  .rw[gV d]at h;split at h
   .cases h
   .have⟨x,hx,h2⟩:=Ks σ p b h
    grind
def B8 {k : Nat} (h:1<=k):(xs.take k).head?=xs.head?:=by
 cases xs with
 |nil=>simp
 |cons x r=>cases k with
  |zero=>omega
  |succ k=>rfl
theorem jK.JW (h:jK r σ) (d:σ.gG.head?=some x):σ.rM x=fY:=by
 cases ho:σ.gG with
 |nil=>grind
 |cons y rest=>
  rw[ho]at d;cases d;obtain⟨q,rfl,e,g,k⟩:=h.Mr _ rest ho;show σ.nm q=_
  grind[Ab.nm]
theorem abc (h:jK r σ) (p:gz->Bool) (A:p fY=false) (B:∃x∈σ.gG,p (σ.rM x)=true):jK r (σ.F2 p)/\Fx σ (σ.F2 p)/\∃k,1<=k/\k < σ.gG.length/\(σ.F2 p).gG=σ.gG.take k:=by
 have⟨k,h1,h2,h3,x,h4,h5⟩:=KS σ p σ.gG.reverse (by grind);have u:k<=σ.gG.length:=by simpa using h2
 have e:(Ab.Bt σ p σ.gG.reverse).reverse=σ.gG.take (σ.gG.length - k):=by rw[h3,uX]
 have l:1<=σ.gG.length - k:=by
  rcases mO k σ.gG.length with v|g
  .omega
  .exfalso;have q:k=σ.gG.length:=by omega
   have d:σ.gG.head?=some x:=by
    rw[SJ (by omega)]at h4;rw[DF]
    rwa [show σ.gG.length - 1 - (k - 1)=0 by omega]at h4
   rw[h.JW d,A]at h5;cases h5
 have⟨g1,g2⟩:=h.sub (ys:=σ.gG.take (σ.gG.length - k)) (Gb _ _) (B8 l)
 grind[Ab.F2]
structure vz (σ σ':Ab):Prop where
 nodes:σ'.nodes=σ.nodes
 act:σ'.act=σ.act
 fresh:σ'.fresh=σ.fresh
 gG:∃k,σ'.gG=σ.gG.take k
def vz.refl (σ:Ab):vz σ σ:=⟨rfl,rfl,rfl,σ.gG.length,by simp⟩
def jF (h:σ'.nodes=σ.nodes):wt σ'=wt σ:=by unfold wt;rw[h]
theorem wY (h:nr σ) (p b:gz->Bool) (d:p fY=false):jE 0 σ (nL p b σ) (λx σ'=>vz σ σ'/\(x=true->σ'.gG.length < σ.gG.length)/\(x=false->σ'=σ)):=by
 have⟨r,h⟩:=h;unfold nL;split
 .rename_i g;have⟨x,h1,h2⟩:=Ks σ p b g;have⟨g1,g2,k,g3,g4,g5⟩:=abc h p d ⟨x,List.mem_reverse.1 h1,h2⟩;exact⟨⟨r,g1⟩,g2,nW (jF rfl),⟨rfl,rfl,rfl,k,g5⟩,λ_=>by grind,λh=>by cases h⟩
 .exact⟨⟨r,h⟩,Fx.refl _,gW _,vz.refl _,(λh=>by cases h),λ_=>rfl⟩
theorem Jb (σ:Ab) (p:gz->Bool):∀ys:kV,∃k,k<=ys.length/\Ab.qz σ p ys=ys.drop k/\∀j,j < k->∃x,ys[j]?=some x/\p (σ.rM x)=true
 |[]=>⟨0,gW _,rfl,λj d=>by omega⟩
 |y::ys=>by
  unfold Ab.qz
  by_cases g:p (σ.rM y)=true
  .rw[gJ g];have⟨k,h1,h2,h3⟩:=Jb σ p ys;refine⟨k+1,by grind,by grind,λj d=>?_⟩;cases j with
   |zero=>grind
   |succ j=>grind
  .rw[gV g];exact⟨0,iN _,rfl,λj d=>by omega⟩
def ab5 (h:jK r σ) (p:gz->Bool) (v:p fY=false):∃k,(Ab.qz σ p σ.gG.reverse).reverse=σ.gG.take k/\(σ.gG≠[]->1<=k):=by
 have⟨k,h1,h2,h3⟩:=Jb σ p σ.gG.reverse;have q:k<=σ.gG.length:=by simpa using h1
 refine⟨σ.gG.length - k,by rw[h2,uX],λd=>?_⟩;rcases mO k σ.gG.length with u|l
 .omega
 .exfalso;have A:0 < σ.gG.length:=List.length_pos_iff.2 d;have⟨x,h4,h5⟩:=h3 (σ.gG.length - 1) (by omega);have g:σ.gG.head?=some x:=by
   rw[SJ (by omega)]at h4;rw[DF]
   rwa [show σ.gG.length - 1 - (σ.gG.length - 1)=0 by omega]at h4
  rw[h.JW g,v]at h5;cases h5
theorem Jc (h:nr σ) (p:gz->Bool) (d:p fY=false):nr {σ with gG:=(Ab.qz σ p σ.gG.reverse).reverse}/\Fx σ {σ with gG:=(Ab.qz σ p σ.gG.reverse).reverse}/\vz σ {σ with gG:=(Ab.qz σ p σ.gG.reverse).reverse}:=by
 have⟨r,h⟩:=h;have⟨k,h1,h2⟩:=ab5 h p d;rw[h1];cases ho:σ.gG with
 |nil=>
  have:([]:kV).take k=σ.gG:=by rw[ho];simp
  rw[this];exact⟨⟨r,h⟩,Fx.refl _,vz.refl _⟩
 |cons x rest=>
  rw[<-ho];have⟨g1,g2⟩:=h.sub (ys:=σ.gG.take k) (Gb _ _) (B8 (h2 (by grind)));exact⟨⟨r,g1⟩,g2,rfl,rfl,rfl,k,rfl⟩
def xV (h:nr σ) (p:gz->Bool):jE 0 σ (vA p σ) (λ_ σ'=>vz σ σ'):=by
 have⟨g1,g2,g3⟩:=Jc h (λs=>!(p s||im [fY] s)) (by simp[im,la]);exact⟨g1,g2,nW (jF rfl),g3⟩
theorem J9 (h:nr σ) (d:2<=σ.gG.length):nr σ.pop/\Fx σ σ.pop:=by
 have⟨r,h⟩:=h;have e:σ.gG.dropLast=σ.gG.take (σ.gG.length - 1):=abl;have⟨g1,g2⟩:=h.sub (ys:=σ.gG.take (σ.gG.length - 1)) (Gb _ _) (B8 (by omega))
 grind[nr,Ab.pop]
def vz.pop (σ:Ab):vz σ σ.pop:=⟨rfl,rfl,rfl,σ.gG.length - 1,abl⟩
theorem xW (h:nr σ) (p:gz->Bool) (u:p fY=false) (d:σ.current p=true):2<=σ.gG.length:=by
 have⟨r,h⟩:=h;unfold Ab.current at d;cases ho:σ.gG with
 |nil=>
  have:σ.last=none:=by unfold Ab.last;rw[ho];rfl
  grind
 |cons x rest=>
  cases rest with
  |cons y r2=>simp
  |nil=>
   exfalso;obtain⟨q,rfl,e,g,k⟩:=h.Mr x [] ho;have:σ.last=some q:=by unfold Ab.last;rw[ho];rfl
   rw[this]at d;have l:σ.nm q=fY:=by unfold Ab.nm;rw[g];exact k
   grind
def uT (h:nr σ) (p:gz->Bool) (g:p fY=false):jE 0 σ (qx p σ) (λ_ σ'=>vz σ σ'):=by
 show jE 0 σ (.ok () (σ.J8 p)) _;unfold Ab.J8;split
 .rename_i d;have⟨g1,g2⟩:=J9 h (xW h p g d);exact⟨g1,g2,nW (jF rfl),vz.pop σ⟩
 .exact⟨h,Fx.refl _,gW _,vz.refl _⟩
def jK.Dv (h:jK r σ) (g:∀i,some i∈ys->∃e,σ.ij i=some e/\rY e.name=true) (d:ys.length<=σ.rZ):jK r {σ with act:=ys}/\Fx σ {σ with act:=ys}:=
 ⟨⟨⟨h.oT.up,h.oT.dn,h.oT.nd,h.oT.kd⟩,⟨h.ur.jl,h.ur.gG,h.ur.hd⟩,h.gG,g,h.head,h.form,h.Mr,h.x9,d,h.Qc,h.SU,h.xX⟩,⟨rfl,rfl,rfl,rfl,rfl,rfl,rfl,rfl,rfl,rfl,rfl,λ_ _ h=>h,λ_=>rfl⟩⟩
structure Gf (σ:Ab) (s:gz) (j:Nat) (σ':Ab):Prop where
 gG:σ'.gG=σ.gG++[some j]
 act:σ'.act=σ.act
 nm:jX σ' j s
 new:σ.nodes.length<=j
def OD (h:nr σ) (q:σ.gG≠[]) (hw:wt σ < 999999) (d:gz) (gM:lZ) (b:Bool):jE 1 σ (mn σ.nodes.length (σ.pN (.el {name:=d,ib:=gM,jl:=none,kids:=[]}) b)) (λ_ σ'=>∃j,Gf σ d j σ'/\σ'.fresh=b):=by
 have⟨r,h⟩:=h;have⟨g1,g2⟩:=h.new d gM b 0;have g:(σ.pN (.el {name:=d,ib:=gM,jl:=none,kids:=[]}) b).ij σ.nodes.length=some {name:=d,ib:=gM,jl:=none,kids:=[]}:=Ab.wy;have u:some σ.nodes.length∉(σ.pN (.el {name:=d,ib:=gM,jl:=none,kids:=[]}) b).gG:=by
  intro A;have:=h.FL (i:=σ.nodes.length) A;omega
 have B:wt (σ.pN (.el {name:=d,ib:=gM,jl:=none,kids:=[]}) b)=wt σ:=Fb _ _ _;have k:=ML ⟨_,g1⟩ g rfl rfl u q (by omega);revert k;cases mn σ.nodes.length (σ.pN (.el {name:=d,ib:=gM,jl:=none,kids:=[]}) b)with
 |ok a σ'=>
  rintro⟨k,v,C,l⟩;refine⟨k,g2.trans v,by omega,σ.nodes.length,⟨l.gG,l.act,v.nm _ _ ⟨_,g,rfl⟩,gW _⟩,l.fresh⟩
 |stop e p=>exact λh=>h
 |stuck=>simp[jE]
def jE.iL {α:Type} {m:M α} (h:jE c σ (m σ) (λ_ σ'=>Q () σ')):jE c σ ((m>>=λ_=>(Pure.pure ():M Unit)) σ) Q:=by
 refine jE.bind h (c2:=0) (λa σ' d _ _ g=>jE.ret d g) (by omega)
def jE.tail_at {α:Type} {σ1 : Ab} {m:M α} (h:jE c σ (m σ1) (λ_ σ'=>Q () σ')):jE c σ ((m>>=λ_=>(Pure.pure ():M Unit)) σ1) Q:=by
 rw[M.gE];revert h;cases m σ1<;>exact λh=>h
def sQ (h:nr σ) (g:σ.gG≠[]) (hw:wt σ < 999999) (d:gz):jE 1 σ (ky d σ) (λ_ σ'=>∃j,Gf σ d j σ'/\σ'.fresh=σ.fresh):=
 jE.iL (m:=λσ=>mn σ.nodes.length (σ.add (.el {name:=d,ib:=[],jl:=none,kids:=[]}))) (OD h g hw d [] σ.fresh)
theorem jY (h:nr σ) (d:σ.gG≠[]) (hw:wt σ < 999999) (t:gO) (k:t.pI=true) (g:σ.fresh=true):jE 1 σ (jv t σ) (λ_ σ'=>∃j,Gf σ t.name j σ'):=by
 unfold jv;rw[M.gE];unfold qh;rw[gJ (by grind)];dsimp only;refine jE.tail_at ?_;refine(OD h d hw t.name t.jx false).mono (gW _) ?_
 grind
def acQ (h:Gf σ s j σ'):σ'.pop.gG=σ.gG:=by
 show σ'.gG.dropLast=_;rw[h.gG];simp
theorem Ew (h:Gf σ s j σ') (d:σ.gG≠[]):2<=σ'.gG.length:=by
 have:0 < σ.gG.length:=List.length_pos_iff.2 d;rw[h.gG];grind
def Eu (h:Gf σ s j σ'):σ'.last=some j:=by
 unfold Ab.last;rw[h.gG];have e:((σ.gG++[some j]).length:Int) - 1=((σ.gG.length:Nat):Int):=by simp
 rw[e,rK];simp
def yX (h:nr σ) (d:2<=σ.gG.length):jE 0 σ (yW σ) (λx σ'=>σ'=σ.pop/\x=σ.last):=by
 have⟨g1,g2⟩:=J9 h d;exact⟨g1,g2,nW (jF rfl),rfl,rfl⟩
def qW (h:nr σ) (d:σ.gG≠[]) (hw:wt σ < 999999) (t:gO) (p:t.pI=true) (l:σ.fresh=true):jE 1 σ (lL t σ) (λ_ σ'=>σ'.gG=σ.gG/\σ'.act=σ.act):=by
 unfold lL;refine jE.bind (jY h d hw t p l) (c2:=0) ?_ (by omega);rintro _ q k v _ ⟨j,g⟩;refine jE.iL ((yX k (Ew g d)).mono (gW _) ?_);rintro x u _ _ ⟨rfl,_⟩;exact⟨acQ g,g.act⟩
def po (h:nr σ) (d:σ.gG≠[]) (t:gO) (hw:wt σ+t.chars.size+1<=1000000):jE (t.chars.size+1) σ (kC t σ) (λ_ σ'=>Rest σ σ'):=by
 have⟨r,hr⟩:=h;have⟨pl,p1,p2,_⟩:=FM hr d;unfold kC;rw[M.gE,p1];dsimp only;exact jE.iL (m:=vH pl t.chars) (Rs ⟨r,hr⟩ p2 t.chars hw)
def Qu (h:rY s=true):nM s=false:=by
 unfold rY im at h;rw[List.any_eq_true]at h;have⟨x,hx,he⟩:=h;have e:=uI he;simp only[lf,lr,lu]at hx;rcases hx with rfl|rfl|rfl|rfl<;>(rw[e];simp[nM,la,aeo,aen,tJ])
def Ea (h:rY s=true):s≠fY:=by
 rintro rfl;simp[rY,im,la,tJ]at h
theorem aaJ (h:(qi xs x (some j))[m]?=some y):xs[m]?=some y\/y=some j:=by
 unfold qi at h
 grind
theorem Kg (xs:kV) (x y:jk):(qi xs x y).length=xs.length:=by
 grind[qi]
theorem Ki (h:z∈qi xs x y):z∈xs\/z=y:=by
 unfold qi at h
 grind
theorem Wp (h:nr σ) {d : Nat} (l:(σ.ij d).isSome=true) (k:jX σ j s) (p:rY s=true):jE 0 σ (rX (some d) (some j) σ) (λ_ σ'=>σ'.gG=σ.gG/\σ'.act=qi σ.act (some d) (some j)/\σ'.fresh=σ.fresh):=by
 have⟨r,h⟩:=h;have⟨ej,hej,hn⟩:=k;unfold rX;rw[gJ (by grind[Ab.hH])];have⟨g1,g2⟩:=h.Dv (ys:=qi σ.act (some d) (some j)) (λi g=>by
  rcases Ki g with g|g
  .exact h.act i g
  grind) (by rw[Kg];exact h.AC)
 exact⟨⟨r,g1⟩,g2,nW (jF rfl),rfl,rfl,rfl⟩
def AR (g:σ.ij i=some e) (d:rY e.name=true):lp i σ= .ok σ.nodes.length (σ.pN (.el {name:=e.name,ib:=e.ib,jl:=none,kids:=[]}) σ.fresh):=by
 unfold lp;rw[g];dsimp only;rw[Qu d];rfl
theorem RO:∀(k n:Nat) {σ:Ab},nr σ->σ.gG≠[]->wt σ+k < 999999->n+k<=σ.act.length->(∀m,n<=m->m < n+k->∃i,σ.act[m]?=some (some i))->jE k σ (H8 k n σ) (λ_ σ'=>σ.gG <+:σ'.gG/\σ'.act.length=σ.act.length/\σ'.fresh=σ.fresh)
 |0,n,σ,h,_,_,_,_=>jE.ret h ⟨List.prefix_refl _,rfl,rfl⟩
 |k+1,n,σ,h,hne,hw,hl,ha=>by
  have⟨old,ho⟩:=ha n (gW _) (by omega);have⟨r,hr⟩:=h;have⟨eo,heo,hfo⟩:=hr.act old (uy ho);have B:Gk n σ= .ok old σ:=by
   unfold Gk;rw[rK,vK,ho];rfl
  unfold H8;rw[M.gE,B];dsimp only;rw[M.gE,AR heo hfo];dsimp only;rw[M.gE];have F:=OD ⟨r,hr⟩ hne (by omega) eo.name eo.ib σ.fresh;revert F;cases hq:mn σ.nodes.length (σ.pN (.el {name:=eo.name,ib:=eo.ib,jl:=none,kids:=[]}) σ.fresh)with
  |stop e p=>simp[jE]
  |stuck=>simp[jE]
  |ok u σ1=>
   rintro⟨L,v,V,j,l,A⟩;dsimp only;have C:rD old σ1=rX (some old) (some j) σ1:=by unfold rD;rw[Eu l]
   have⟨eo1,heo1,_⟩:=v.nm old eo.name ⟨eo,heo,rfl⟩;have G:jE (k+0) σ1 ((rD old>>=λ_=>H8 k (n+1)) σ1) (λ_ σ'=>σ.gG <+:σ'.gG/\σ'.act.length=σ.act.length/\σ'.fresh=σ.fresh):=by
    refine jE.bind (c1:=0) (by rw[C];exact Wp L (by grind) l.nm hfo) (c2:=k) ?_ (by omega);rintro _ d N K W ⟨O,q,S⟩;have g:d.act.length=σ.act.length:=by rw[q,Kg,l.act]
    refine(RO k (n+1) N (K.ne (v.ne hne)) (by omega) (by omega) ?_).mono (gW _) ?_
    .intro m F G;have⟨i,hi⟩:=ha m (by omega) (by omega);have U:m < d.act.length:=by omega
     cases hx:d.act[m]? with
     |none=>grind
     |some y=>
      rw[q]at hx;rcases aaJ hx with H|H
      .rw[l.act,hi]at H;grind
      grind
    .rintro _ D _ _ ⟨P,E,T⟩;refine⟨?_,E.trans g,T.trans (S.trans A)⟩;refine List.IsPrefix.trans ?_ P;rw[O,l.gG];simp
   revert G;cases((rD old>>=λ_=>H8 k (n+1)) σ1)with
   |ok a D=>rintro⟨I,q,E,J⟩;exact⟨I,v.trans q,by omega,J⟩
   |stop e p=>exact λh=>Ah h v.gS
   |stuck=>simp[jE]
theorem M8 (σ:Ab):∀ys:kV,σ.uU ys<=ys.length/\∀m,m < ys.length - σ.uU ys->∃i,ys[m]?=some (some i)
 |[]=>⟨gW _,λm g=>by grind⟩
 |x::ys=>by
  unfold Ab.uU
  by_cases d:σ.TS x=true
  .grind
  .rw[gV d];have⟨h1,h2⟩:=M8 σ ys;refine⟨by grind,λm g=>?_⟩;cases m with
   |zero=>
    cases x with
    |none=>exact absurd (by rfl) d
    |some i=>simp
   |succ m=>exact h2 m (by grind)
theorem oy (h:nr σ) (d:σ.gG≠[]) (hw:wt σ+32 < 999999):jE 32 σ (me σ) (λ_ σ'=>σ.gG <+:σ'.gG/\σ'.act.length=σ.act.length/\σ'.fresh=σ.fresh):=by
 unfold me;have⟨h1,h2⟩:=M8 σ σ.act.reverse;have k:σ.Bl<=σ.act.length:=by simpa [Ab.Bl]using h1
 have g:σ.act.length<=32:=by have⟨r,hr⟩:=h;exact j7 hr.AC hr.SU
 refine(RO (σ.act.length - σ.Bl) σ.Bl h d (by omega) (by omega) ?_).mono (by omega) (λ_ _ _ _ h=>h);intro m l p;have⟨i,hi⟩:=h2 (σ.act.length - 1 - m) (by
  have e:σ.uU σ.act.reverse=σ.Bl:=rfl
  grind)
 grind
structure Wj (σ:Ab) (o a:kV) (σ':Ab):Prop where
 nodes:σ'.nodes=σ.nodes
 gG:σ'.gG=o
 act:σ'.act=a
 fresh:σ'.fresh=σ.fresh
def zp (h:nr σ) (g:σ.hH x=true):jE 0 σ (lc x σ) (λ_ σ'=>Wj σ σ.gG (σ.act.erase x) σ'):=by
 have⟨r,h⟩:=h;unfold lc;rw[gJ g];have⟨g1,g2⟩:=h.Dv (ys:=σ.act.erase x) (λi d=>h.act i (BH d)) (j7 (List.length_erase_le) h.AC);exact⟨⟨r,g1⟩,g2,nW (jF rfl),rfl,rfl,rfl,rfl⟩
def S4 (h:z∈oI xs x):z∈xs:=by
 unfold oI at h;rw[List.mem_reverse]at h;exact List.mem_reverse.1 ((abo _).subset ((List.tail_sublist _).subset h))
theorem XJ (xs:kV) (x:jk):(oI xs x).length<=xs.length:=by
 unfold oI;rw[List.length_reverse,List.length_tail];have:=(abo (p:=λy=>decide (y≠x)) (l:=xs.reverse)).length_le
 grind
def KQ (h:nr σ):jE 0 σ (Ac σ) (λ_ σ'=>Wj σ σ.gG (oI σ.act none) σ'):=by
 refine jE.iL (m:=CQ none) ?_;have⟨r,h⟩:=h;unfold CQ;rw[gJ (show σ.hH none=true from rfl)];have⟨g1,g2⟩:=h.Dv (ys:=oI σ.act none) (λi d=>h.act i (S4 d)) (j7 (XJ _ _) h.AC);exact⟨⟨r,g1⟩,g2,nW (jF rfl),rfl,rfl,rfl,rfl⟩
theorem wu (h:nr σ) (x:jk) (l:∀i,x=some i->∃e,σ.ij i=some e/\rY e.name=true):jE 0 σ (lK x σ) (λ_ σ'=>Wj σ σ.gG (σ.act++[x]) σ'):=by
 have⟨r,h⟩:=h;unfold lK;split
 .rfl
 .rename_i k;have g:σ.hH x=true:=by
   cases x with
   |none=>rfl
   |some i=>grind[Ab.hH]
  rw[gJ g];have⟨g1,g2⟩:=h.Dv (ys:=σ.act++[x]) (λi d=>by
   rcases List.mem_append.1 d with d|d
   .exact h.act i d
   grind) (by grind)
  exact⟨⟨r,g1⟩,g2,nW (jF rfl),rfl,rfl,rfl,rfl⟩
theorem De (σ:Ab) (j:Nat):∀(ys:kV) (c:jk×Nat),(σ.td j ys c).1=c.1\/(σ.td j ys c).1∈ys
 |[],c=> .inl rfl
 |none::_,c=> .inl rfl
 |some i::ys,c=>by
  unfold Ab.td;split
  .rcases De σ j ys (some i,c.2+1)with h|h
   all_goals grind
  .rcases De σ j ys c with h|h
   all_goals grind
theorem YM (h:nr σ) (v:jX σ i s) (E:rY s=true):jE 0 σ (NF i σ) (λ_ σ'=>σ'.gG=σ.gG/\σ'.fresh=σ.fresh):=by
 have⟨e,he,hn⟩:=v;have g:∀d,nr d->d.nodes=σ.nodes->jE 0 d (lK (some i) d) (λ_ σ'=>Wj d d.gG (d.act++[some i]) σ'):=by
  intro d k B;refine wu k (some i) ?_;intro j A;cases A;exact⟨e,by grind[Ab.ij],by grind⟩
 have p:σ.hH (σ.td i σ.act.reverse (none,0)).1=true:=by
  rcases De σ i σ.act.reverse (none,0)with k|k
  .rw[k];rfl
  .cases hx:(σ.td i σ.act.reverse (none,0)).1 with
   |none=>rfl
   |some j=>
    rw[hx]at k;have⟨r,hr⟩:=h;have⟨ej,hej,_⟩:=hr.act j (List.mem_reverse.1 k)
    grind[Ab.hH]
 unfold NF;dsimp only;split
 .refine jE.bind (zp h p) (c2:=0) ?_ (by omega);rintro _ d C D _ q;refine jE.iL ((g d C q.nodes).mono (gW _) ?_);rintro _ u _ _ l;exact⟨l.gG.trans q.gG,l.fresh.trans q.fresh⟩
 .refine jE.iL ((g σ h rfl).mono (gW _) ?_);rintro _ u _ _ l;exact⟨l.gG,l.fresh⟩
theorem Db (h:xs.head?≠some x):(xs.erase x).head?=xs.head?:=by
 cases xs with
 |nil=>rfl
 |cons y r=>
  grind
def jK.Ez (h:jK r σ) (g:jX σ i s) (k:s≠fY):σ.gG.head?≠some (some i):=by
 intro e;have d:=h.JW e;have⟨ei,he,hn⟩:=g;apply k;rw[<-hn,<-d];show _=σ.nm i;unfold Ab.nm;rw[he]
theorem Dh (h:nr σ) (d:jX σ i s) (g:s≠fY):jE 0 σ (kL (some i) σ) (λ_ σ'=>Wj σ (σ.gG.erase (some i)) σ.act σ'):=by
 have⟨r,h⟩:=h;have⟨e,he,_⟩:=id d;unfold kL;rw[gJ (by grind[Ab.hH])];have⟨g1,g2⟩:=h.sub (ys:=σ.gG.erase (some i)) List.erase_sublist (Db (h.Ez d g));exact⟨⟨r,g1⟩,g2,nW (jF rfl),rfl,rfl,rfl,rfl⟩
theorem DV:∀{ys:kV},x∈ys->∃j,j < ys.length/\ys.dropWhile (λy=>decide (y≠x))=ys.drop j/\ys[j]?=some x
 |[],h=>by cases h
 |y::ys,h=>by
  by_cases g:y=x
  .subst g;exact⟨0,by simp,by simp,rfl⟩
  .have d:x∈ys:=by
    rcases List.mem_cons.1 h with h|h
    .grind
    .exact h
   have⟨j,h1,h2,h3⟩:=DV d;refine⟨j+1,by grind,?_,by grind⟩
   simp_all
theorem Ug (l:x∈xs) (d:xs.head?≠some x):∃k,1<=k/\k < xs.length/\oI xs x=xs.take k:=by
 have⟨j,h1,h2,h3⟩:=DV (List.mem_reverse.2 l);have g:j < xs.length:=by simpa using h1
 have e:oI xs x=xs.take (xs.length - (j+1)):=by
  unfold oI;rw[h2,List.tail_drop,uX]
 refine⟨_,?_,by omega,e⟩;rcases mO (j+1) xs.length with h|h
 .omega
 .exfalso;apply d;rw[SJ g]at h3;rw[DF]
  grind
theorem T6 (h:nr σ) (d:jX σ i s) (l:s≠fY) (g:some i∈σ.gG):jE 0 σ (Bi (some i) σ) (λ_ σ'=>vz σ σ'):=by
 have⟨r,h⟩:=h;have⟨e,he,_⟩:=id d;unfold Bi;rw[gJ (by grind[Ab.hH])];have⟨k,k1,k2,k3⟩:=Ug g (h.Ez d l);rw[k3];have⟨g1,g2⟩:=h.sub (ys:=σ.gG.take k) (Gb _ _) (B8 k1);exact⟨⟨r,g1⟩,g2,nW (jF rfl),rfl,rfl,rfl,k,rfl⟩
theorem Qg (h:j∈iM ks) (l:(iM ks).Nodup):iM (ks.eraseIdx (ks.findIdx (Nd.hH j)))=(iM ks).erase j:=by
 induction ks with
 |nil=>cases h
 |cons k r ih=>
  by_cases d:Nd.hH j k=true
  .cases k with
   |el i=>
    grind[iM,Nd.hH]
   |tx i=>cases d
   |cm i=>cases d
   |dt i=>cases d
  .have g:Nd.hH j k=false:=by simpa using d
   rw[List.findIdx_cons,g];simp only[cond_false,List.eraseIdx_cons_succ];cases k with
   |el i=>
    grind[iM,Nd.hH]
   |tx i=>exact ih h l
   |cm i=>exact ih h l
   |dt i=>exact ih h l
theorem jK.mW (h:jK r σ) {ej : Ak} (D:σ.ij j=some ej):
  ∃σ',mW j σ= .ok () σ'/\jK r σ'/\Fx σ σ'/\wt σ'<=wt σ/\σ'.gG=σ.gG/\σ'.act=σ.act/\σ'.fresh=σ.fresh/\σ'.nodes.length=σ.nodes.length/\(∃A,σ'.ij j=some A/\A.jl=none/\A.name=ej.name):=by
 unfold Go.Proofs.YtlhhgenpcjjajaaGreatDoor.mW;rw[D];dsimp only;cases hp:ej.jl with
 |none=>exact⟨σ,rfl,h,Fx.refl _,gW _,rfl,rfl,rfl,rfl,ej,D,hp,rfl⟩
 |some p=>
  have⟨ep,hep,hm⟩:=h.oT.up j ej p D hp;have a8:=h.ur.jl j ej p D hp;have F:j≠p:=by rintro rfl;omega
  have⟨q1,q2⟩:=Vz hm;dsimp only;rw[hep];dsimp only;rw[gJ ⟨F,q1,q2⟩];have a1:=Ab.iq hep;have a5:=Ab.iq D;have K:(qH ep.kids (Nd.hH j)).toNat=ep.kids.findIdx (Nd.hH j):=by
   unfold qH at q2|-
   by_cases hf:ep.kids.findIdx (Nd.hH j) < ep.kids.length
   .omega
   .exfalso;apply hf;exact abm ⟨_,yT.1 hm,by simp[Nd.hH]⟩
  rw[K]at q2|-;obtain⟨ks,E⟩:∃ks,ks=ep.kids.eraseIdx (ep.kids.findIdx (Nd.hH j)):=⟨_,rfl⟩;rw[<-E];have a6:ks.length+1=ep.kids.length:=by rw[E,abn q2];omega
  have O:iM ks=(iM ep.kids).erase j:=by rw[E];exact Qg hm (h.oT.nd p ep hep)
  have P:∀k∈ks,k∈ep.kids:=λk I=>by rw[E]at I;exact(List.eraseIdx_sublist _ _).subset I
  obtain⟨σ',g⟩:∃σ',σ'=(σ.ig p {ep with kids:=ks}).ig j {ej with jl:=none}:=⟨_,rfl⟩;rw[<-g];have g1:σ'.ij p=some {ep with kids:=ks}:=by rw[g,Ab.iU (ye F),Ab.jd a1]
  have g2:σ'.ij j=some {ej with jl:=none}:=by rw[g,Ab.jd (by grind[Ab.ig])]
  have g3:∀i,i≠p->i≠j->σ'.ij i=σ.ij i:=λi l B=>by rw[g,Ab.iU B,Ab.iU l]
  have L:(σ.ij p).isSome=true:=by rw[hep];rfl
  have N:((σ.ig p {ep with kids:=ks}).ij j).isSome=true:=by rw[Ab.iU F,D];rfl
  have gk:∀k,σ'.jo k=σ.jo k:=λk=>by rw[g,Ab.lA N,Ab.lA L]
  have ge:∀x,σ'.mw x=σ.mw x:=λx=>by rw[g,Ab.yS N,Ab.yS L]
  have G:∀i e,σ.ij i=some e->∃A,σ'.ij i=some A/\A.name=e.name/\(i≠p->A.kids=e.kids)/\(i≠j->A.jl=e.jl):=by
   intro i e C
   by_cases l:i=p
   .grind
   .grind
  have v:∀i A,σ'.ij i=some A->(i=p/\A={ep with kids:=ks})\/(i=j/\A={ej with jl:=none})\/(i≠p/\i≠j/\σ.ij i=some A):=by
   intro i A C
   by_cases l:i=p
   .grind
   .grind
  have S:∀i s,jX σ i s->jX σ' i s:=λi s ⟨e,C,hn⟩=>by
   grind[jX]
  have a9:∀i e q,σ.ij i=some e->i≠j->e.jl=some q->∃X,σ'.ij q=some X/\i∈iM X.kids:=by
   intro i e q C a4 T;have⟨X,B,H⟩:=h.oT.up _ _ q C T;have⟨eq',h4,_,h5,_⟩:=G q X B;refine⟨eq',h4,?_⟩
   by_cases a7:q=p
   .grind
   .grind
  have Z:∀i e x,σ.ij i=some e->x∈iM e.kids->x≠j->∃J,σ'.ij x=some J/\J.jl=some i:=by
   intro i e x C U a2;have⟨J,B,H⟩:=h.oT.dn i e x C U;have⟨ex',h4,_,_,h5⟩:=G x J B;exact⟨ex',h4,(h5 a2).trans H⟩
  have a3:∀i e,σ.ij i=some e->j∈iM e.kids->i=p:=by
   intro i e C a0;have⟨J,B,H⟩:=h.oT.dn i e j C a0;rw[D]at B;cases B;rw[hp]at H;exact(jy H).symm
  refine⟨σ',rfl,⟨⟨?_,?_,?_,?_⟩,⟨?_,?_,?_⟩,λx U=>?_,λi u=>?_,λd Y=>S _ _ (h.head d ?_),λd Y=>S _ _ (h.form d ?_),λy W hy=>?_,?_,?_,?_,?_,?_⟩,?_,?_,?_,?_,?_,?_,?_⟩
  .grind
  .intro i e x u U;rcases v i e u with⟨l,rfl⟩|⟨l,rfl⟩|⟨H,B,l⟩
   .rw[l];have V:x∈(iM ep.kids).erase j:=by rw[<-O];exact U
    exact Z p ep x hep (BH V) (λe=>by
     subst e;exact(List.Nodup.not_mem_erase (h.oT.nd p ep hep)) V)
   all_goals grind
  .intro i e u;rcases v i e u with⟨l,rfl⟩|⟨l,rfl⟩|⟨_,_,l⟩
   .show(iM ks).Nodup;rw[O];exact(h.oT.nd p ep hep).erase j
   .show(iM ej.kids).Nodup;exact h.oT.nd _ _ D
   .exact h.oT.nd _ _ l
  .intro i e u k I;rw[gk];rcases v i e u with⟨l,rfl⟩|⟨l,rfl⟩|⟨_,_,l⟩
   .exact h.oT.kd _ _ hep k (P k I)
   .exact h.oT.kd _ _ D k I
   .exact h.oT.kd _ _ l k I
  .intro i e q u T;rcases v i e u with⟨l,rfl⟩|⟨l,rfl⟩|⟨_,_,l⟩
   .rw[l];exact h.ur.jl _ _ q hep T
   .cases T
   .exact h.ur.jl _ _ q l T
  .rw[g];exact h.ur.gG
  .rw[g];exact h.ur.hd
  .rw[ge];exact h.gG x (by rwa [g]at U)
  .have⟨e,C,hf⟩:=h.act i (by rw[g]at u;exact u)
   grind
  .rwa [g]at Y
  .rwa [g]at Y
  .have⟨z,l,B⟩:=h.Mr y W (by rwa [g]at hy)
   grind
  .rw[g];exact h.x9
  .rw[g];exact h.AC
  .rw[g];exact h.Qc
  .rw[g];exact h.SU
  .have⟨e,C⟩:=Option.isSome_iff_exists.1 h.xX
   grind
  .rw[g];exact⟨rfl,rfl,rfl,rfl,rfl,rfl,rfl,rfl,rfl,rfl,rfl,by grind,λ_=>rfl⟩
  .have w1:=sK (e':={ep with kids:=ks}) hep;have w2:=sK (σ:=σ.ig p {ep with kids:=ks}) (e':={ej with jl:=none}) (by rw[Ab.iU F];exact D)
   grind
  .rw[g];rfl
  .rw[g];rfl
  .rw[g];rfl
  .rw[g,Ab.oc,Ab.oc]
  grind
structure adS (σ:Ab) (d:Nat) (ed:Ak) (ks:List Nd) (σ':Ab):Prop where
 eq:σ'={σ with nodes:=σ'.nodes}
 len:σ'.nodes.length=σ.nodes.length
 dst:σ'.ij d=some {ed with kids:=ed.kids++ks}
 oth:∀i,i≠d->σ'.ij i=if i∈iM ks then (σ.ij i).map (λe=>{e with jl:=some d})else σ.ij i
 kid:∀k,σ'.jo k=σ.jo k
 wt:wt σ'=wt σ+ks.length
def Vi (ks:List Nd) (k:Nd):ins ks ks.length k=ks++[k]:=by simp[ins]
theorem FA:∀(ks:List Nd) {σ:Ab} {d:Nat} {ed:Ak},σ.ij d=some ed->(∀k∈ks,σ.jo k=true)->d∉iM ks->(iM ks).Nodup->ed.kids.length+ks.length < 1000000->∃σ',yQ d ks σ= .ok () σ'/\adS σ d ed ks σ'
 |[],σ,d,ed,hd,_,_,_,_=>⟨σ,rfl,rfl,rfl,by simp_all,λi _=>by rfl,λ_=>rfl,rfl⟩
 |k::ks,σ,d,ed,hd,hk,hn,hnd,hl=>by
  simp only[uk]at hl;have C:=Ab.iq hd;have v:(σ.ij d).isSome=true:=by rw[hd];rfl
  have O:jC d σ= .ok (d,ed.kids.length) σ:=by unfold jC;rw[hd]
  unfold yQ;rw[M.gE,O];dsimp only;rw[M.gE];have D:=hk k (yk ..);have A:∀(G:Nd),(∀j,G≠ .el j)->k=G->∃g,Aw (d,ed.kids.length) G σ= .ok () g/\∃σ',yQ d ks g= .ok () σ'/\adS σ d ed (k::ks) σ':=by
   intro G S K;subst K;have J:Aw (d,ed.kids.length) k σ= .ok () (σ.ig d {ed with kids:=ed.kids++[k]}):=by
    unfold Aw;dsimp only;rw[hd];dsimp only;rw[gJ ⟨D,gW _,by omega⟩,Vi]
   refine⟨_,J,?_⟩;have u:iM (k::ks)=iM ks:=by
    cases k with
    |el j=>grind
    |tx j=>rfl
    |cm j=>rfl
    |dt j=>rfl
   rw[u]at hn hnd;have⟨σ',B,p⟩:=FA ks (σ:=σ.ig d {ed with kids:=ed.kids++[k]}) (d:=d) (ed:={ed with kids:=ed.kids++[k]}) (Ab.jd C) (λx T=>by rw[Ab.lA v];grind) hn hnd (by grind);refine⟨σ',B,p.eq,by rw[p.len,Ab.oc],by rw[p.dst];simp,?_,λx=>by rw[p.kid,Ab.lA v],?_⟩
   .intro i F;rw[p.oth i F,u,Ab.iU F]
   .have U:=sK (e':={ed with kids:=ed.kids++[k]}) hd;have V:=p.wt
    grind
  cases k with
  |tx j=>
   have⟨g,e1,σ',e2,e3⟩:=A (.tx j) (λ_ h=>by cases h) rfl;rw[show FQ (d,ed.kids.length) (.tx j) σ= .ok () g from e1]
   grind
  |cm j=>
   have⟨g,e1,σ',e2,e3⟩:=A (.cm j) (λ_ h=>by cases h) rfl;rw[show FQ (d,ed.kids.length) (.cm j) σ= .ok () g from e1]
   grind
  |dt j=>
   have⟨g,e1,σ',e2,e3⟩:=A (.dt j) (λ_ h=>by cases h) rfl;rw[show FQ (d,ed.kids.length) (.dt j) σ= .ok () g from e1]
   grind
  |el j=>
   have q:j≠d:=by rintro rfl;exact hn (yk ..)
   have⟨ej,hej⟩:=Option.isSome_iff_exists.1 (show(σ.ij j).isSome=true from D);have P:=Ab.iq hej;obtain⟨g,l⟩:∃g,g=(σ.ig d {ed with kids:=ed.kids++[.el j]}).ig j {ej with jl:=some d}:=⟨_,rfl⟩;have J:FQ (d,ed.kids.length) (.el j) σ= .ok () g:=by
    show nT (d,ed.kids.length) j σ=_;unfold nT;dsimp only;rw[hd,hej];dsimp only;rw[gJ ⟨q,gW _,by omega⟩,Vi,l]
   rw[J];dsimp only;have H:((σ.ig d {ed with kids:=ed.kids++[.el j]}).ij j).isSome=true:=by rw[Ab.iU q,hej];rfl
   have N:∀k,g.jo k=σ.jo k:=λk=>by rw[l,Ab.lA H,Ab.lA v]
   have L:g.ij d=some {ed with kids:=ed.kids++[.el j]}:=by rw[l,Ab.iU (ye q),Ab.jd C]
   have W:g.ij j=some {ej with jl:=some d}:=by rw[l,Ab.jd (by grind[Ab.ig])]
   have go:∀i,i≠d->i≠j->g.ij i=σ.ij i:=λi B p=>by rw[l,Ab.iU p,Ab.iU B]
   have I:d∉iM ks:=λh=>hn (si _ h);have E:=List.nodup_cons.1 (show(j::iM ks).Nodup from hnd);have⟨σ',B,p⟩:=FA ks (σ:=g) (d:=d) (ed:={ed with kids:=ed.kids++[.el j]}) L (λx T=>by grind) I E.2 (by grind);refine⟨σ',B,?_,by rw[p.len,l,Ab.oc,Ab.oc],by rw[p.dst];simp,?_,λx=>by rw[p.kid,N],?_⟩
   .have:=p.eq;rwa [l]at this
   .intro i F;rw[p.oth i F]
    grind[iM]
   .have U:=sK (e':={ed with kids:=ed.kids++[.el j]}) hd;have V:=sK (σ:=σ.ig d {ed with kids:=ed.kids++[.el j]}) (e':={ej with jl:=some d}) (by rw[Ab.iU q];exact hej);have X:=p.wt
    grind
theorem jK.hand (h:jK r σ) {d : Nat} {g ed : Ak} (A:σ.ij b=some g) (hd:σ.ij d=some ed) (K:b≠d) (T:ed.kids=[]) (W:ed.jl=none) (hr:∀k∈iM g.kids,r d < r k) (hw:wt σ < 999999):
  ∃σ',handOver b d σ= .ok () σ'/\jK r σ'/\Fx σ σ'/\wt σ'=wt σ/\σ'.gG=σ.gG/\σ'.act=σ.act/\σ'.fresh=σ.fresh/\σ'.nodes.length=σ.nodes.length/\σ'.ij b=some {g with kids:=[]}/\σ'.ij d=some {ed with kids:=g.kids}:=by
 have a0:=Ab.iq A;have a3:d∉iM g.kids:=by
  intro U;have⟨e2,h1,h2⟩:=h.oT.dn b g d A U;rw[hd]at h1;cases h1;rw[W]at h2;cases h2
 have a1:b∉iM g.kids:=by
  intro U;have⟨e2,h1,h2⟩:=h.oT.dn b g b A U;have:=h.ur.jl b e2 b h1 h2;omega
 have ad:=Ir A;have⟨σ1,h1,h2⟩:=FA g.kids hd (h.oT.kd b g A) a3 (h.oT.nd b g A) (by grind);have J:σ1.ij b=some g:=by rw[h2.oth b K,gV a1];exact A
 have a2:σ1.ij d=some {ed with kids:=g.kids}:=by rw[h2.dst,T];simp
 obtain⟨σ',v⟩:∃σ',σ'=σ1.ig b {g with kids:=[]}:=⟨_,rfl⟩;have hq:handOver b d σ= .ok () σ':=by
  unfold handOver;rw[A];dsimp only;rw[gV K];change M.bind (yQ d g.kids) (λ_ σ'=>match σ'.ij b with|some eb'=> .ok () (σ'.ig b {eb' with kids:=[]})|none=> .stuck) σ=_
  unfold M.bind;rw[h1];dsimp only;rw[J,v]
 have P:(σ1.ij b).isSome=true:=by rw[J];rfl
 have gb:σ'.ij b=some {g with kids:=[]}:=by rw[v,Ab.jd (by rw[h2.len];exact a0)]
 have gd:σ'.ij d=some {ed with kids:=g.kids}:=by rw[v,Ab.iU (ye K)];exact a2
 have go:∀i,i≠d->i≠b->σ'.ij i=if i∈iM g.kids then (σ.ij i).map (λe=>{e with jl:=some d})else σ.ij i:=λi l B=>by rw[v,Ab.iU B,h2.oth i l]
 have gk:∀k,σ'.jo k=σ.jo k:=λk=>by rw[v,Ab.lA P,h2.kid]
 have q:σ'={σ with nodes:=σ'.nodes}:=by
  rw[v];have:=h2.eq;show({σ1 with nodes:=_}:Ab)=_;rw[this];rfl
 have u:∀i F,σ'.ij i=some F->(i=b/\F={g with kids:=[]})\/(i=d/\F={ed with kids:=g.kids})\/(i≠b/\i≠d/\i∈iM g.kids/\∃e,σ.ij i=some e/\F={e with jl:=some d})\/(i≠b/\i≠d/\i∉iM g.kids/\σ.ij i=some F):=by
  intro i F D
  by_cases l:i=b
  .grind
  .by_cases B:i=d
   .grind
   .rw[go i B l]at D
    by_cases E:i∈iM g.kids
    .rw[gJ E]at D;have⟨e,h5,h6⟩:=Option.map_eq_some_iff.1 D
     grind
    grind
 have aa:∀i e,σ.ij i=some e->∃F,σ'.ij i=some F/\F.name=e.name:=by
  intro i e D
  by_cases l:i=b
  .grind
  .grind
 have H:∀i s,jX σ i s->jX σ' i s:=λi s ⟨e,D,hn⟩=>by
  grind[jX]
 have a7:∀i e p,σ.ij i=some e->e.jl=some p->i∉iM g.kids->∃I,σ'.ij p=some I/\i∈iM I.kids:=by
  intro i e p D hp a9;have⟨I,h5,h6⟩:=h.oT.up i e p D hp;have X:p≠b:=by rintro rfl;rw[A]at h5;cases h5;exact a9 h6
  have Y:p≠d:=by rintro rfl;rw[hd]at h5;cases h5;rw[T]at h6;cases h6
  rw[go p Y X]
  by_cases E:p∈iM g.kids
  .grind
  .grind
 have ab:∀i e p,σ.ij i=some e->i≠b->i≠d->p∈iM e.kids->∃I,σ'.ij p=some I/\I.jl=some i:=by
  intro i e p D a5 ac U;have⟨I,h5,h6⟩:=h.oT.dn i e p D U;have Y:p≠d:=by rintro rfl;rw[hd]at h5;cases h5;rw[W]at h6;cases h6
  have ae:p∉iM g.kids:=by
   intro a8;have⟨e3,h7,h8⟩:=h.oT.dn b g p A a8;rw[h5]at h7;cases h7;rw[h6]at h8;exact a5 (jy h8)
  by_cases X:p=b
  .grind
  .grind
 have V:σ'.gG=σ.gG:=by rw[q]
 have O:σ'.act=σ.act:=by rw[q]
 have S:σ'.head=σ.head:=by rw[q]
 have a4:σ'.form=σ.form:=by rw[q]
 refine⟨σ',hq,⟨⟨?_,?_,?_,?_⟩,⟨?_,?_,?_⟩,?_,?_,?_,?_,?_,?_,?_,?_,?_,?_⟩,?_,?_,V,O,by rw[q],?_,gb,gd⟩
 .grind
 .intro i e j G hj;rcases u i e G with⟨l,rfl⟩|⟨l,rfl⟩|⟨l,B,E,N,C,rfl⟩|⟨l,B,E,C⟩
  .cases hj
  .rw[l];have a6:j∈iM g.kids:=hj;have⟨ej,h5,_⟩:=h.oT.dn b g j A a6
   grind
  all_goals grind
 .intro i e G;rcases u i e G with⟨l,rfl⟩|⟨l,rfl⟩|⟨l,B,E,N,C,rfl⟩|⟨l,B,E,C⟩
  .simp[iM]
  .show(iM g.kids).Nodup;exact h.oT.nd b g A
  .show(iM N.kids).Nodup;exact h.oT.nd i N C
  .exact h.oT.nd i e C
 .intro i e G k hk;rw[gk];rcases u i e G with⟨l,rfl⟩|⟨l,rfl⟩|⟨l,B,E,N,C,rfl⟩|⟨l,B,E,C⟩
  .cases hk
  .exact h.oT.kd b g A k hk
  .exact h.oT.kd i N C k hk
  .exact h.oT.kd i e C k hk
 .intro i e p G hp;rcases u i e G with⟨l,rfl⟩|⟨l,rfl⟩|⟨l,B,E,N,C,rfl⟩|⟨l,B,E,C⟩
  .rw[l];exact h.ur.jl b g p A hp
  .grind
  .grind
  .exact h.ur.jl i e p C hp
 .rw[V];exact h.ur.gG
 .rw[V,S];exact h.ur.hd
 .rw[V];intro x L;obtain⟨i,e,rfl,D⟩:=ld (h.gG x L)
  grind[Ab.mw]
 .rw[O];intro i G;have⟨e,D,hf⟩:=h.act i G
  grind
 .rw[S];exact λx L=>H _ _ (h.head x L)
 .rw[a4];exact λx L=>H _ _ (h.form x L)
 .rw[V];intro x Z L;have⟨z,l,B⟩:=h.Mr x Z L
  grind
 .rw[q];exact h.x9
 .rw[q];exact h.AC
 .rw[q];exact h.Qc
 .rw[q];exact h.SU
 .have⟨e,D⟩:=Option.isSome_iff_exists.1 h.xX
  grind
 .rw[q]at H|-;exact⟨rfl,rfl,rfl,rfl,rfl,rfl,rfl,rfl,rfl,rfl,rfl,H,λ_=>rfl⟩
 .have w1:=h2.wt;have w2:=sK (e':={g with kids:=[]}) J
  grind
 .rw[v,Ab.oc];exact h2.len
theorem jK.nodup (h:jK r σ):σ.gG.Nodup:=h.ur.gG.imp λd e=>by grind
theorem jK.aaU (h:jK r σ) (q:∀x∈ys,σ.mw x=true) (u:ys.Pairwise λx y=>rk r x < rk r y) (k:ys.head?=σ.gG.head?) (v:ys.length<=σ.qv):jK r {σ with gG:=ys}/\Fx σ {σ with gG:=ys}:=by
 refine⟨⟨⟨h.oT.up,h.oT.dn,h.oT.nd,h.oT.kd⟩,⟨h.ur.jl,u,?_⟩,q,h.act,h.head,h.form,?_,v,h.AC,h.Qc,h.SU,h.xX⟩,⟨rfl,rfl,rfl,rfl,rfl,rfl,rfl,rfl,rfl,rfl,rfl,λ_ _ h=>h,λ_=>k⟩⟩
 .intro d x A p;exact h.ur.hd d x A (by grind)
 .intro x g p;have l:ys=x::g:=p;rw[l]at k;cases ho:σ.gG with
  |nil=>grind
  |cons y r2=>
   rw[ho]at k;have e:x=y:=by simpa using k
   subst e;exact h.Mr x r2 ho
def R4 (h:xs[n]?=some x):xs=xs.take n++x::xs.drop (n+1):=by
 have g:=(List.getElem?_eq_some_iff.1 h).1;have d:=(List.getElem?_eq_some_iff.1 h).2;rw[<-d,<-DD g,Af]
theorem T4 (h:xs[n]?=some x) (d:xs.Nodup):x∉xs.take n:=by
 have e:=R4 h
 grind
theorem ZB (h:xs[n]?=some x) (d:xs.Nodup):xs.erase x=xs.take n++xs.drop (n+1):=by
 have g:=T4 h d
 conv=>lhs;rw[R4 h]
 grind
theorem vU (h:xs[n]?=some x) (d:xs.Nodup):xs.idxOf x=n:=by
 grind
def A6 (h:xs[n]?=some x):n < xs.length:=(List.getElem?_eq_some_iff.1 h).1
def jK.wN (h:jK r σ) {x y : Nat} (g:σ.gG[m]?=some (some x)) (k:σ.gG[n]?=some (some y)) (d:m < n):r x < r y:=by
 have:=List.pairwise_iff_getElem.1 h.ur.gG m n (A6 g) (A6 k) d
 rwa [(List.getElem?_eq_some_iff.1 g).2,(List.getElem?_eq_some_iff.1 k).2]at this
theorem jK.Re (h:jX σ i s):σ.nm i=s:=by
 have⟨e,he,hn⟩:=h
 grind[Ab.nm]
def Tr (h:σ.ij i=some e):jX σ i (σ.nm i):=⟨e,h,by unfold Ab.nm;rw[h]⟩
theorem my (h:jX σ i s):(σ.ij i).isSome=true:=by have⟨e,he,_⟩:=h;grind
theorem ZM (h:(σ.ij i).isSome=true):jX σ i (σ.nm i):=by
 grind[jX,Ab.nm]
structure RJ (r:Nat->Nat) (σ:Ab) (f iC n pf last mark:Nat):Prop where
 inv:jK r σ
 lst:(σ.ij last).isSome=true
 low:∀m x,m < n->σ.gG[m]?=some (some x)->r x < r last
 fat:σ.gG[pf]?=some (some f)
 pfn:pf < n
 bat:some iC∈σ.gG.drop n
 nle:n<=σ.gG.length
 mrk:(σ.ij mark).isSome=true
 nt:∀m x,pf < m->σ.gG[m]?=some (some x)->la (σ.nm x) fZ=false
 fact:some f∈σ.act
def RJ.isSome (f:Fx σ σ') (h:(σ.ij i).isSome=true):(σ'.ij i).isSome=true:=my (f.nm _ _ (ZM h))
def Fx.aeh (f:Fx σ σ') (h:(σ.ij i).isSome=true):σ'.nm i=σ.nm i:=jK.Re (f.nm _ _ (ZM h))
def RJ.oH (h:jK r σ) {x : Nat} (d:σ.gG[m]?=some (some x)):(σ.ij x).isSome=true:=h.gG _ (uy d)
def Gi (f d pf c:Nat) (σ:Ab) (g:qI (Nat×Nat)):Prop:=match g with
 | .ok lm σ'=>Fx σ σ'/\wt σ'<=wt σ+c/\σ'.fresh=σ.fresh/\∃r,RJ r σ' f d (pf+1) pf lm.1 lm.2
 | .stop _ _=>False
 | .stuck=>False
def Gi.pre {g : Nat} {σ1 : Ab} {d : qI (Nat×Nat)} (h:Gi f g pf c σ1 d) (k:Fx σ σ1) (hw:wt σ1+c<=wt σ+c') (l:σ1.fresh=σ.fresh):Gi f g pf c' σ d:=by
 cases d with
 |ok lm σ'=>
  have⟨h1,h2,h3,h4⟩:=h;exact⟨k.trans h1,by omega,h3.trans l,h4⟩
 |stop e p=>exact h
 |stuck=>exact h
def VD (f k n c last g e:Nat):M (Nat×Nat):=λσ=>if some e∉σ.act then (kL (some e)>>=λ_=>mP f k n (c+1) last g) σ else (lp e>>=λd=>Av (some e) (some d)>>=λ_=>rX (some e) (some d)>>=λ_=>mW last>>=λ_=>jC d>>=λpl=>nT pl last>>=λ_=>mP f k n (c+1) d (if last=k then d else g)) σ
def OX (f g n c last d:Nat) (σ:Ab):mP f g (n+1) c last d σ=(GW n>>=λe=>if e=f then pure (last,d)else (if 3 < c+1 then lc (some e)else pure ())>>=λ_=>VD f g n c last d e) σ:=rfl
def yG (o a:kV) (n:Nat):Nat:=((o.take n).filter λx=>decide (x∈a)).length
def Ml {b : kV} (g:n<=m) (d:∀x∈o.take n,x∈b->x∈a):yG o b n<=yG o a m:=by
 unfold yG;have q:((o.take n).filter λx=>decide (x∈b)).length<=((o.take n).filter λx=>decide (x∈a)).length:=by
  rw[<-List.countP_eq_length_filter,<-List.countP_eq_length_filter];refine List.countP_mono_left ?_;intro x p k;simp at k|-;exact d x p k
 have u:((o.take n).filter λx=>decide (x∈a)).length<=((o.take m).filter λx=>decide (x∈a)).length:=by
  have l:(o.take n).Sublist (o.take m):=by
   have e:o.take n=(o.take m).take n:=by rw[Nr,SI g]
   rw[e];exact Gb _ _
  exact(l.filter _).length_le
 omega
theorem Wt (h:o[n]?=some x) (d:x∈a):yG o a (n+1)=yG o a n+1:=by
 unfold yG;have e:o.take (n+1)=o.take n++[x]:=by rw[Ff,h];rfl
 grind
theorem MV:∀{xs ys:kV},xs.Nodup->(∀x∈xs,x∈ys)->xs.length<=ys.length
 |[],_,_,_=>iN _
 |x::xs,ys,hn,hs=>by
  have k:=hs x (yk ..);have⟨h1,h2⟩:=List.nodup_cons.1 hn;have g:=MV (xs:=xs) (ys:=ys.erase x) h2 (λy d=>(UL (by grind)).2 (hs y (si _ d)))
  grind
def abM (d:o.Nodup) (n:Nat):yG o a n<=a.length:=by
 unfold yG;refine MV ((d.sublist (Gb _ _)).sublist (List.filter_sublist)) ?_;simp
theorem Dr (f C pf:Nat) (s:gz) (hs:s≠fY):∀(n c last B:Nat) {r:Nat->Nat} {σ:Ab} {K:Nat},RJ r σ f C n pf last B->jX σ f s->yG σ.gG σ.act n<=K->wt σ+K < 999990->Gi f C pf K σ (mP f C n c last B σ)
 |0,c,last,B,r,σ,K,h,_,_,_=>absurd h.pfn (by omega)
 |n+1,c,last,B,r,σ,K,h,hfn,hK,hw=>by
  have aq:n < σ.gG.length:=by have:=h.nle;omega
  have⟨e,ee,hoe,hel⟩:=h.inv.at aq;have ai:GW n σ= .ok e σ:=by
   unfold GW;rw[rK,vK,hoe];rfl
  rw[OX,M.gE,ai];dsimp only
  by_cases I:e=f
  .rw[gJ I];have T:n=pf:=by
    have W:=vU hoe h.inv.nodup;have h2:=vU h.fat h.inv.nodup;rw[I]at W;omega
   subst T;exact⟨Fx.refl _,by omega,rfl,r,h⟩
  .rw[gV I];have T:n≠pf:=by
    intro T;rw[T,h.fat]at hoe;exact I (jy (jy hoe)).symm
   have U:pf < n:=by have:=h.pfn;omega
   have hA:∃d,(if 3 < c+1 then lc (some e)else pure ()) σ= .ok () d/\jK r d/\Fx σ d/\Wj σ σ.gG d.act d/\some f∈d.act/\∀x,x∈d.act->x∈σ.act:=by
    by_cases hc:3 < c+1
    .rw[gJ hc];unfold lc;rw[gJ (by grind[Ab.hH])];have⟨g1,g2⟩:=h.inv.Dv (ys:=σ.act.erase (some e)) (λi L=>h.inv.act i (BH L)) (j7 (List.length_erase_le) h.inv.AC);exact⟨_,rfl,g1,g2,⟨rfl,rfl,rfl,rfl⟩,(UL (λe0=>I (jy e0).symm)).2 h.fact,λx q=>BH q⟩
    .rw[gV hc];exact⟨σ,rfl,h.inv,Fx.refl _,⟨rfl,rfl,rfl,rfl⟩,h.fact,λ_ h=>h⟩
   have⟨d,q1,i1,f1,l1,a1,sub1⟩:=hA;rw[M.gE,q1];dsimp only;unfold VD;have N:=l1.gG;have a0:∀i,d.ij i=σ.ij i:=λi=>by unfold Ab.ij;rw[l1.nodes]
   have af:∀i,d.nm i=σ.nm i:=λi=>by unfold Ab.nm;rw[a0]
   have w1:wt d=wt σ:=jF l1.nodes;have H:d.gG[n]?=some (some e):=by rw[N];exact hoe
   have G:=i1.nodup;have aj:d.gG.head?≠some (some e):=by
    intro e0;rw[DF]at e0;have W:=vU e0 G;have h2:=vU H G;omega
   split
   .
    rename_i ad;rw[M.gE];have hq:kL (some e) d= .ok () {d with gG:=d.gG.erase (some e)}:=by
     unfold kL;rw[gJ (by grind[Ab.hH])]
    rw[hq];dsimp only;have⟨g1,g2⟩:=i1.sub (ys:=d.gG.erase (some e)) List.erase_sublist (Db aj);have he:d.gG.erase (some e)=d.gG.take n++d.gG.drop (n+1):=ZB H G;have ao:(d.gG.take n).length=n:=by rw[List.length_take];rw[N];omega
    have ab:∀m,m < n->(d.gG.erase (some e))[m]?=σ.gG[m]?:=by
     intro m p;rw[he,Nt (by omega),Fc,gJ p,N]
    have al:∀m,n<=m->(d.gG.erase (some e))[m]?=σ.gG[m+1]?:=by
     intro m p;rw[he,Pq (by omega),ao,V0,N]
     congr 1;omega
    refine Gi.pre (Dr f C pf s hs n (c+1) last B (r:=r) (K:=K) ⟨g1,?_,?_,?_,U,?_,?_,?_,?_,a1⟩ ?_ ?_ ?_) (f1.trans g2) ?_ l1.fresh
    .exact RJ.isSome (f1.trans g2) h.lst
    .intro m x p q;exact h.low m x (by omega) (by grind)
    .show(d.gG.erase (some e))[pf]?=_;rw[ab pf U];exact h.fat
    .show some C∈(d.gG.erase (some e)).drop n;rw[he,List.drop_append_of_le_length (by omega),Hk (by omega),sg,N];exact h.bat
    .grind
    .exact RJ.isSome (f1.trans g2) h.mrk
    .intro m x p q;have V:(d.gG.erase (some e))[m]?=some (some x):=q;show la (d.nm x) _=_;rw[af];rcases mO m n with D|D
     .rw[ab m D]at V;exact h.nt m x p V
     .rw[al m D]at V;exact h.nt (m+1) x (by omega) V
    .exact(f1.trans g2).nm _ _ hfn
    .refine j7 ?_ hK;show yG (d.gG.erase (some e)) d.act n<=_;have e9:yG (d.gG.erase (some e)) d.act n=yG σ.gG d.act n:=by
      unfold yG;rw[he,K7 (by omega),BF (by omega),N]
     rw[e9];exact Ml (lU _) (λx _ q=>sub1 x q)
    all_goals grind[wt]
   .
    rename_i ad;have a8:some e∈d.act:=by simpa using ad
    have⟨e1,he1,hfm⟩:=i1.act e a8;rw[M.gE,AR he1 hfm];dsimp only;obtain⟨j,hj⟩:∃j,j=d.nodes.length:=⟨_,rfl⟩;have⟨i2,f2⟩:=i1.new e1.name e1.ib d.fresh (r e);obtain⟨g,u⟩:∃g,g=d.pN (.el {name:=e1.name,ib:=e1.ib,jl:=none,kids:=[]}) d.fresh:=⟨_,rfl⟩;rw[<-u]at i2 f2|-;have aa:g.ij j=some {name:=e1.name,ib:=e1.ib,jl:=none,kids:=[]}:=by rw[u,hj];exact Ab.wy
    rw[<-hj]at i2|-;have w2:wt g=wt d:=by rw[u];exact Fb _ _ _
    have Z:g.gG=d.gG:=by rw[u];rfl
    have a2:g.act=d.act:=by rw[u];rfl
    have ae:∀i,(d.ij i).isSome=true->i≠j:=by
     intro i L e0;have⟨ei,hei⟩:=Option.isSome_iff_exists.1 L;have:=Ab.iq hei;omega
    have aw:∀i,(d.ij i).isSome=true->xP r j (r e) i=r i:=λi L=>EW (ae i L);have a9:(d.ij e).isSome=true:=by rw[he1];rfl
    have P:jX g j e1.name:=⟨_,aa,rfl⟩;have am:g.gG.idxOf (some e)=n:=by rw[Z];exact vU H G
    have ap:some e∈g.gG:=by rw[Z];exact uy H
    have ax:qi g.gG (some e) (some j)=g.gG.set n (some j):=by unfold qi;rw[gJ ap,am]
    have ar:Av (some e) (some j) g= .ok () {g with gG:=g.gG.set n (some j)}:=by
     unfold Av;rw[gJ (by rw[sq];exact⟨RJ.isSome f2 a9,my P⟩),ax]
    have E:∀m,(g.gG.set n (some j))[m]?=if m=n then some (some j)else σ.gG[m]?:=by
     intro m;rw[List.getElem?_set]
     by_cases p:n=m
     .grind
     .grind
    have aE:1<=n:=by omega
    have⟨i3,f3⟩:=i2.aaU (ys:=g.gG.set n (some j)) (by
      intro x q;rcases List.mem_or_eq_of_mem_set q with q|rfl
      .exact i2.gG x q
      .exact my P) (by
      rw[List.pairwise_iff_getElem];intro a b ha hb ah;have a4:a < σ.gG.length:=by simpa [Z,N]using ha
      have a7:b < σ.gG.length:=by simpa [Z,N]using hb
      have F:∀m (p:m < (g.gG.set n (some j)).length) (S:m < σ.gG.length),rk (xP r j (r e)) ((g.gG.set n (some j))[m])=rk r (σ.gG[m]):=by
       intro m p S;have W:=E m;rw[qB p]at W
       by_cases D:m=n
       .subst D;rw[gJ rfl]at W;rw[jy W];have h2:σ.gG[m]=some e:=by rw[qB S]at hoe;exact jy hoe
        rw[h2]
        grind[rk,xP]
       .rw[gV D,qB S]at W;rw[jy W];have⟨y,ey,hy,X⟩:=ld (h.inv.gG _ (uw S))
        grind[rk]
      rw[F a ha a4,F b hb a7];exact List.pairwise_iff_getElem.1 h.inv.ur.gG a b a4 a7 ah) (by
      rw[DF,DF,E 0,gV (by omega),Z,N]) (by
      rw[List.length_set];exact i2.x9)
    rw[M.gE,ar];dsimp only;obtain⟨l,v⟩:∃l,l=({g with gG:=g.gG.set n (some j)}:Ab):=⟨_,rfl⟩;rw[<-v]at i3 f3|-;have au:rX (some e) (some j) l= .ok () {l with act:=qi l.act (some e) (some j)}:=by
     unfold rX;rw[gJ (by rw[sq];exact⟨RJ.isSome f3 (RJ.isSome f2 a9),my (f3.nm _ _ P)⟩)]
    have⟨i4,f4⟩:=i3.Dv (ys:=qi l.act (some e) (some j)) (λi L=>by
      rcases Ki L with L|L
      .exact i3.act i L
      grind[Ab.ij]) (by rw[Kg];exact i3.AC)
    rw[M.gE,au];dsimp only;obtain⟨Y,A⟩:∃Y,Y=({l with act:=qi l.act (some e) (some j)}:Ab):=⟨_,rfl⟩;rw[<-A]at i4 f4|-;have a3:=((f1.trans f2).trans f3).trans f4;have ac:=RJ.isSome a3 h.lst;have⟨elast,hlast⟩:=Option.isSome_iff_exists.1 ac;have⟨σ5,q5,i5,f5,w5,o5,a5,r5,n5,e5,he5,hp5,_⟩:=i4.mW hlast;rw[M.gE,q5];dsimp only;have⟨ej5,hj5,hjn5⟩:=f5.nm _ _ (f4.nm _ _ (f3.nm _ _ P));have av:jC j σ5= .ok (j,ej5.kids.length) σ5:=by unfold jC;rw[hj5]
    rw[M.gE,av];dsimp only;have aD:r e < r last:=h.low n e (by omega) hoe;have ay:(d.ij last).isSome=true:=RJ.isSome f1 h.lst;have az:wt σ5<=wt σ:=by
     have e4:wt Y=wt l:=by rw[A];rfl
     have e3:wt l=wt g:=by rw[v];rfl
     omega
    have⟨σ6,q6,i6,f6,w6,o6,a6,r6,n6,g6,_⟩:=i5.put (pl:=(j,ej5.kids.length)) ⟨ej5,hj5,gW _⟩ he5 hp5 (by
     grind[xP]) (by omega)
    rw[M.gE,q6];dsimp only;have O:=(a3.trans f5).trans f6;have J:σ6.gG=g.gG.set n (some j):=by rw[o6,o5,A];show l.gG=_;rw[v]
    have j6:jX σ6 j e1.name:=f6.nm _ _ ⟨ej5,hj5,hjn5⟩;have ag:σ6.act=qi d.act (some e) (some j):=by
     rw[a6,a5,A];show qi l.act (some e) (some j)=_;rw[v];show qi g.act (some e) (some j)=_;rw[a2]
    have aC:yG σ.gG σ.act (n+1)=yG σ.gG σ.act n+1:=Wt hoe (sub1 _ a8);have aB:yG σ6.gG σ6.act n<=yG σ.gG σ.act n:=by
     have e9:yG σ6.gG σ6.act n=yG σ.gG σ6.act n:=by
      unfold yG;rw[J,List.take_set_of_le (gW _),Z,N]
     rw[e9];refine Ml (gW _) ?_;intro y hy p;rw[ag]at p;rcases Ki p with p|p
     .grind
     .exfalso;have X:=List.mem_of_mem_take hy;rw[p]at X;have:=h.inv.FL X;have aA:d.nodes.length=σ.nodes.length:=by rw[l1.nodes]
      omega
    refine Gi.pre (Dr f C pf s hs n (c+1) j (if last=C then j else B) (r:=xP r j (r e)) (K:=K - 1) ⟨i6,my j6,?_,?_,U,?_,?_,?_,?_,?_⟩ (O.nm _ _ hfn) (by omega) (by omega)) O (by omega) ?_
    .intro m x p q;rw[J,E m,gV (by omega)]at q;rw[F4,aw x (by rw[a0];exact RJ.oH h.inv q)];exact h.inv.wN q hoe p
    .rw[J,E pf,gV (by omega)];exact h.fat
    .rw[J];have p:some C∈σ.gG.drop (n+1):=h.bat;have⟨k,hk⟩:=Gc p;rw[V0]at hk;refine uy (i:=k+1) ?_
     grind
    .grind
    .by_cases an:last=C
     .grind
     .rw[gV an];exact RJ.isSome O h.mrk
    .intro m x p q;rw[J,E m]at q
     by_cases D:m=n
     .rw[gJ D]at q;cases q;rw[jK.Re j6];have h3:=h.nt n e U hoe
      rwa [<-af,show d.nm e=e1.name from jK.Re ⟨e1,he1,rfl⟩]at h3
     .rw[gV D]at q;rw[O.aeh (RJ.oH h.inv q)];exact h.nt m x p q
    .rw[a6,a5,A];show some f∈qi l.act (some e) (some j);have ak:some f∈l.act:=by rw[v];show some f∈g.act;rw[a2];exact a1
     unfold qi;split
     .have⟨k,hk⟩:=Gc ak;refine uy (i:=k) ?_
      grind
     omega
    .rw[r6,r5,A];show l.fresh=_;rw[v];show g.fresh=_;rw[u];exact l1.fresh
theorem jK.agB (h:jK r σ):jK (λi=>2*r i) σ:=by
 refine {h with ur:=⟨λi e p l q=>?_,h.ur.gG.imp_of_mem ?_,λd x k g=>?_⟩}
 .have:=h.ur.jl i e p l q;omega
 .intro x y g v u;obtain⟨i,_,rfl,_⟩:=ld (h.gG x g);obtain⟨j,_,rfl,_⟩:=ld (h.gG y v)
  grind[rk]
 .have:=h.ur.hd d x k g;omega
theorem S3 (h:σ.hH x=true):lc x σ= .ok () {σ with act:=σ.act.erase x}:=by
 grind[lc]
theorem JX (h:σ.hH x=true):kL x σ= .ok () {σ with gG:=σ.gG.erase x}:=by
 grind[kL]
theorem Cp (xs:kV) (x y:jk):(jf xs x y).length<=xs.length+1:=by
 grind[jf]
theorem Cr (h:z∈jf xs x y):z∈xs\/z=y:=by
 unfold jf at h
 grind
theorem LN (h:z∈xs):z∈jf xs x y:=by
 unfold jf;split
 .have d:z∈xs.take (xs.idxOf x+1)++xs.drop (xs.idxOf x+1):=by rw[Af];exact h
  grind
 omega
theorem jK.PN (h:jK r σ) (d:σ.gG[pf]?=some (some f)) (l:1<=pf):∃a,ahead f σ= .ok a σ/\σ.gG[pf - 1]?=some (some a):=by
 have⟨a,ea,ha,_⟩:=h.at (n:=pf - 1) (by grind);refine⟨a,?_,ha⟩;unfold ahead;have g:=vU d h.nodup;have k:posOf σ.gG (some f)=(pf:Int):=by unfold posOf;rw[g,gJ (A6 d)]
 rw[k,show(pf:Int) - 1=((pf - 1:Nat):Int) by omega,rK,vK,ha];rfl
theorem LS (h:jK r σ) {a : Nat} (p:σ.gG[pf]?=some (some f)) (F:1<=pf) (u:σ.gG[pf - 1]?=some (some a)) (B:la (σ.nm f) fZ=false) (G:∀m x,pf < m->σ.gG[m]?=some (some x)->la (σ.nm x) fZ=false):∃pl,placeFor a σ= .ok pl σ/\Ca σ pl/\r pl.1 < r f:=by
 have d:some a∈σ.gG:=uy u;have A:r a < r f:=h.wN u p (by omega);have⟨a',ea,e1,hea⟩:=ld (h.gG _ d);cases e1;unfold placeFor;split
 .have⟨pl,h1,h2,_,g⟩:=A5 h (List.ne_nil_of_mem d);refine⟨pl,h1,h2,?_⟩;rcases g with⟨i,C,E,_,D⟩|g
  .have⟨k,hk⟩:=Gc C;have q:k < pf:=by
    rcases Nat.lt_trichotomy k pf with l|l|l
    .exact l
    .grind
    .grind
   have:=h.wN hk p q;omega
  .have v:σ.gG[0]?=some (some pl.1):=by
    rw[show(0:Int)=((0:Nat):Int)from rfl,rK,vK]at g;cases hx:σ.gG[0]? with
    |none=>grind
    |some y=>grind
   exact h.wN v p (by omega)
 .unfold jC;rw[hea]
  grind[Ca]
def Q9 (f g:Nat) (σ:Ab):tW f g σ=(xn f g>>=λk=>mW k.1>>=λ_=>ahead f>>=λa=>placeFor a>>=λpl=>nT pl k.1>>=λ_=>lp f>>=λd=>handOver g d>>=λ_=>jC g>>=λpl=>nT pl d>>=λ_=>qL (some k.2) (some d)>>=λ_=>lc (some f)>>=λ_=>kL (some f)>>=λ_=>ri (some g) (some d)>>=λ_=>(pure ():M Unit)) σ:=rfl
theorem Ra (h:nr σ) {d Y : Nat} (hs:rY s=true) (E:jX σ f s) (aq:some f∈σ.act) (hf:σ.gG[pf]?=some (some f)) (hb:σ.gG[Y]?=some (some d)) (ax:pf < Y) (nt:∀m x,pf < m->σ.gG[m]?=some (some x)->la (σ.nm x) fZ=false) (hw:wt σ < 999900):jE 36 σ (tW f d σ) (λ_ σ'=>σ'.fresh=σ.fresh):=by
 have⟨r,h⟩:=h;have T:s≠fY:=Ea hs;have aG:σ.gG.length<=64:=j7 h.x9 h.Qc;have ag:=A6 hb;have af:1<=pf:=by
  rcases xE pf with h0|h0
  .exfalso;apply h.Ez E T;rw[DF,<-h0];exact hf
  .exact h0
 have ao:=RJ.oH h hb;rw[Q9,M.gE];have az:xn f d σ=mP f d Y 0 d f σ:=by
  unfold xn;have D:=vU hb h.nodup;have X:posOf σ.gG (some d)=(Y:Int):=by unfold posOf;rw[D,gJ ag]
  rw[X];rfl
 have H:=Dr f d pf s T Y 0 d f (r:=r) (σ:=σ) ⟨h,ao,λm x hm u=>h.wN u hb hm,hf,ax,by
  refine uy (i:=0) ?_
  grind,by omega,my E,nt,aq⟩ E (K:=32) (j7 (abM h.nodup _) (j7 h.AC h.SU)) (by omega)
 rw[az];revert H;cases mP f d Y 0 d f σ with
 |stop e p=>simp[Gi]
 |stuck=>simp[Gi]
 |ok lm σ1=>
  rintro⟨f1,w1,aI,F,J⟩;dsimp only;have⟨last,mark⟩:=lm;dsimp only at J|-;have⟨el,hel⟩:=Option.isSome_iff_exists.1 J.lst;have⟨σ2,q2,i2,f2,w2,o2,a2,r2,n2,e2,he2,hp2,_⟩:=J.inv.mW hel;rw[M.gE,q2];dsimp only;have ab:σ2.gG[pf]?=some (some f):=by rw[o2];exact J.fat
  have⟨a,qa,ha⟩:=i2.PN ab af;rw[M.gE,qa];dsimp only;have a0:jX σ2 f s:=f2.nm _ _ (f1.nm _ _ E);have au:la (σ2.nm f) fZ=false:=by
   rw[jK.Re a0];cases u:la s fZ with
   |false=>rfl
   |true=>
    have:=uI u;subst this;simp[rY,im,la,tJ]at hs
  have aC:∀m x,pf < m->σ2.gG[m]?=some (some x)->la (σ2.nm x) fZ=false:=by
   intro m x hm u;rw[o2]at u;rw[f2.aeh (RJ.oH J.inv u)];exact J.nt m x hm u
  have⟨pl,q3,p3,k3⟩:=LS i2 ab af ha au aC;rw[M.gE,q3];dsimp only;have aL:F f < F last:=J.low pf f (by omega) J.fat;have⟨σ3,q4,i3,f3,w3,o3,a3,r3,n3,_,_⟩:=i2.put p3 he2 hp2 (by omega) (by omega);rw[M.gE,q4];dsimp only;have a1:jX σ3 f s:=f3.nm _ _ a0;have⟨ef,hef,hefn⟩:=id a1;rw[M.gE,AR hef (by grind)];dsimp only;have am:some d∈σ3.gG:=by
   rw[o3,o2];exact K5 J.bat
  have⟨blk',eb,e1,heb⟩:=ld (i3.gG _ am);cases e1;obtain⟨j,hj⟩:∃j,j=σ3.nodes.length:=⟨_,rfl⟩;have⟨i4,f4⟩:=i3.agB.new ef.name ef.ib σ3.fresh (2*F d+1);obtain⟨v,q⟩:∃v,v=σ3.pN (.el {name:=ef.name,ib:=ef.ib,jl:=none,kids:=[]}) σ3.fresh:=⟨_,rfl⟩;rw[<-q]at i4 f4|-;rw[<-hj]at i4|-;obtain⟨R,hR⟩:∃R,R=xP (λi=>2*F i) j (2*F d+1):=⟨_,rfl⟩;rw[<-hR]at i4;have L:v.ij j=some {name:=ef.name,ib:=ef.ib,jl:=none,kids:=[]}:=by rw[q,hj];exact Ab.wy
  have ad:∀i,(σ3.ij i).isSome=true->i≠j:=by
   intro i S e0;have⟨ei,aa⟩:=Option.isSome_iff_exists.1 S;have:=Ab.iq aa;omega
  have G:∀i,(σ3.ij i).isSome=true->R i=2*F i:=λi S=>by rw[hR];grind[xP]
  have Rj:R j=2*F d+1:=by rw[hR];exact F4 _ _ _
  have I:(σ3.ij d).isSome=true:=by rw[heb];rfl
  have an:d≠j:=ad d I;have a9:v.ij d=some eb:=by rw[q];show(σ3.add _).ij d=_;rw[Ab.vT (Ab.iq heb)];exact heb
  have w4:wt v=wt σ3:=by rw[q];exact Fb _ _ _
  have o4:v.gG=σ3.gG:=by rw[q];rfl
  have a4:v.act=σ3.act:=by rw[q];rfl
  have r4:v.fresh=σ3.fresh:=by rw[q];rfl
  have⟨σ5,q5,i5,f5,w5,o5,a5,r5,n5,b5,d5⟩:=i4.hand a9 L an rfl rfl (by
   intro k hk;have⟨ek,D,X⟩:=i3.oT.dn d eb k heb hk;have h3:=i3.ur.jl k ek d D X
   grind) (by omega)
  rw[M.gE,q5];dsimp only;have q6:jC d σ5= .ok (d,0) σ5:=by unfold jC;rw[b5];rfl
  rw[M.gE,q6];dsimp only;have⟨σ6,q7,i6,f6,w6,o6,a6,r6,n6,_,_⟩:=i5.put (pl:=(d,0)) ⟨_,b5,iN _⟩ d5 rfl (by
   grind) (by omega)
  rw[M.gE,q7];dsimp only;have F6:=((((f1.trans f2).trans f3).trans f4).trans f5).trans f6;have V:jX σ6 j ef.name:=f6.nm _ _ (f5.nm _ _ ⟨_,L,rfl⟩);have a7:jX σ6 f s:=f6.nm _ _ (f5.nm _ _ (f4.nm _ _ a1));have aB:(σ6.ij mark).isSome=true:=RJ.isSome (((((f2.trans f3).trans f4).trans f5).trans f6)) J.mrk;have aj:σ6.act=σ1.act:=by rw[a6,a5,a4,a3,a2]
  have W:σ6.gG=σ1.gG:=by rw[o6,o5,o4,o3,o2]
  have aH:σ6.act.length<=32:=j7 i6.AC i6.SU;have aN:σ6.gG.length<=64:=j7 i6.x9 i6.Qc;have ak:some f∈σ6.act:=by rw[aj];exact J.fact
  have q8:qL (some mark) (some j) σ6= .ok () {σ6 with act:=jf σ6.act (some mark) (some j)}:=by
   unfold qL;rw[gJ];rw[sq,sq];exact⟨⟨aB,my V⟩,by grind⟩
  rw[M.gE,q8];dsimp only;have q9:lc (some f) {σ6 with act:=jf σ6.act (some mark) (some j)}= .ok () {σ6 with act:=(jf σ6.act (some mark) (some j)).erase (some f)}:=S3 (σ:={σ6 with act:=jf σ6.act (some mark) (some j)}) (my a7);rw[M.gE,q9];dsimp only;have⟨i7,f7⟩:=i6.Dv (ys:=(jf σ6.act (some mark) (some j)).erase (some f)) (λi S=>by
   rcases Cr (BH S)with S|S
   .exact i6.act i S
   grind) (by
   have D:=Cp σ6.act (some mark) (some j);have X:=List.length_erase_of_mem (LN (x:=some mark) (y:=some j) ak);have h3:=i6.AC;omega)
  obtain⟨l,B⟩:∃l,l=({σ6 with act:=(jf σ6.act (some mark) (some j)).erase (some f)}:Ab):=⟨_,rfl⟩;rw[<-B]at i7 f7|-;have o7:l.gG=σ6.gG:=by rw[B]
  have a8:jX l f s:=f7.nm _ _ a7;have aM:jX l j ef.name:=f7.nm _ _ V;have ac:l.gG[pf]?=some (some f):=by rw[o7,W];exact J.fat
  have ae:=i7.Ez a8 T;have aD:kL (some f) l= .ok () {l with gG:=l.gG.erase (some f)}:=JX (my a8);rw[M.gE,aD];dsimp only;have⟨i8,f8⟩:=i7.sub (ys:=l.gG.erase (some f)) List.erase_sublist (Db ae);obtain⟨g,C⟩:∃g,g=({l with gG:=l.gG.erase (some f)}:Ab):=⟨_,rfl⟩;rw[<-C]at i8 f8|-;have o8:g.gG=l.gG.erase (some f):=by rw[C]
  have ar:f≠d:=by
   rintro rfl;have D:=vU hf h.nodup;have X:=vU hb h.nodup;omega
  have P:some d∈g.gG:=by
   rw[o8];refine(UL (λe0=>ar (jy e0).symm)).2 ?_;rw[o7,W];exact K5 J.bat
  have⟨kb,hkb⟩:=Gc P;have aK:=A6 hkb;have av:=vU hkb i8.nodup;have Z:=f7.trans f8;have ai:jX g j ef.name:=Z.nm _ _ V;have aw:g.gG.length+1=l.gG.length:=by
   rw[o8,List.length_erase_of_mem (uy ac)];have:=A6 ac;omega
  have N:jf g.gG (some d) (some j)=g.gG.take (kb+1)++[some j]++g.gG.drop (kb+1):=by
   unfold jf;rw[gJ P,av]
  have aE:ri (some d) (some j) g= .ok () {g with gG:=jf g.gG (some d) (some j)}:=by
   unfold ri;rw[gJ];rw[sq,sq];refine⟨⟨?_,my ai⟩,?_⟩
   .exact i8.gG _ P
   .grind
  rw[M.gE,aE];dsimp only;have A:∀x∈g.gG,∃i,x=some i/\R i=2*F i:=by
   intro x u;have aA:x∈σ3.gG:=by
    rw[o8]at u;have:=BH u;rw[o7,W]at this;rw[o3,o2];exact this
   obtain⟨i,ei,rfl,aa⟩:=ld (i3.gG x aA);exact⟨i,rfl,G i (by grind)⟩
  have ay:=i8.ur.gG;have aF:R d=2*F d:=G d I;have⟨i9,f9⟩:=i8.aaU (ys:=jf g.gG (some d) (some j)) (by
   intro x u;rcases Cr u with u|rfl
   .exact i8.gG x u
   .exact my ai) (by
   rw[N,wm];have ah:g.gG=g.gG.take (kb+1)++g.gG.drop (kb+1):=(Af _ _).symm;have O:=ay;rw[ah]at O;have⟨p1,p2,p3⟩:=List.pairwise_append.1 O;refine List.pairwise_append.2 ⟨p1,List.pairwise_cons.2 ⟨?_,p2⟩,?_⟩
   .
    intro y U;obtain⟨i,rfl,al⟩:=A y (K5 U);have ap:some d∈g.gG.take (kb+1):=by
     refine uy (i:=kb) ?_;rw[Fc,gJ (by omega)];exact hkb
    have D:R d < R i:=p3 _ ap _ U
    grind[rk]
   .intro x u y U;rcases List.mem_append.1 U with U|U
    .rw[List.mem_singleton.1 U];obtain⟨i,rfl,al⟩:=A x (List.mem_of_mem_take u);show R i < R j;have⟨k,hk⟩:=Gc u;rw[Fc]at hk;split at hk
     .rename_i aJ;rcases mO k kb with D|D
      .have:=i8.wN hk hkb D;omega
      grind
     grind
    grind) (by
   rw[N,wm];cases ho8:g.gG with
   |nil=>grind
   |cons x0 xr=>rfl) (by
   have D:=Cp g.gG (some d) (some j);have X:=i7.x9
   grind)
  have wf:wt ({g with gG:=jf g.gG (some d) (some j)}:Ab)=wt σ6:=by
   show wt g=_;rw[C];show wt l=_;rw[B];rfl
  refine⟨⟨_,i9⟩,(F6.trans Z).trans f9,by omega,?_⟩
  grind
theorem Gq (σ:Ab) (f b:Nat):∀(ys:kV) (d:jk),σ.vQ f ys d=some b->d=some b\/∃k:Nat,ys[k]?=some (some b)/\∀g:Nat,g<=k->ys[g]?≠some (some f)
 |[],d,h=> .inl h
 |x::ys,d,h=>by
  unfold Ab.vQ at h
  by_cases u:x=some f
  .grind
  .rw[gV u]at h;rcases Gq σ f b ys _ h with l|⟨k,l,v⟩
   .by_cases q:lB (σ.rM x)=true
    .rw[gJ q]at l;refine .inr ⟨0,by grind,λg p=>?_⟩
     grind
    grind
   .refine .inr ⟨k+1,l,λg p=>?_⟩
    grind
theorem Cl (σ:Ab) (f:Nat):∀(ys:kV),σ.oD f ys=true->∀(k:Nat) (x:jk),ys[k]?=some x->(∀d:Nat,d<=k->ys[d]?≠some (some f))->iS (σ.rM x)=false
 |[],h,k,x,hx,_=>by cases hx
 |y::ys,h,k,x,hx,hno=>by
  unfold Ab.oD at h;have p:y≠some f:=λe=>hno 0 (iN _) (by grind);rw[gV p]at h
  by_cases g:iS (σ.rM y)=true
  .grind
  .rw[gV g]at h;cases k with
   |zero=>
    grind
   |succ k=>exact Cl σ f ys h k x hx (λd l=>hno (d+1) (by omega))
theorem yr (σ:Ab) (s:gz):∀{ys:kV} {f:Nat},σ.ra s ys=some f->some f∈ys/\la (σ.nm f) s=true
 |[],f,h=>by cases h
 |none::_,f,h=>by cases h
 |some i::ys,f,h=>by
  unfold Ab.ra at h
  by_cases d:la (σ.nm i) s=true
  .grind
  .rw[gV d]at h;have⟨h1,h2⟩:=yr σ s h
   grind
def Sk:iS fZ=true:=by
 kernel_rfl
def yR {x : gz}:im [s] x=la x s:=by simp[im]
def Qv (h:rY s=true):im [s] fY=false:=by
 rw[yR];cases hx:la fY s with
 |false=>rfl
 |true=>exact absurd (uI hx).symm (Ea h)
def DZ (h:nr σ) (d:s≠fY):jE 0 σ (vD s σ) (λ_ σ'=>vz σ σ'):=by
 refine jE.iL ((wY h (im [s]) lB ?_).mono (gW _) (λ_ _ _ _ h=>h.1));rw[yR];cases hx:la fY s with
 |false=>rfl
 |true=>exact absurd (uI hx).symm d
theorem Le (h:nr σ) (H:rY s=true) (hw:wt σ < 999900):jE 36 σ (nZ s σ) (λ_ σ'=>σ'.fresh=σ.fresh):=by
 unfold nZ;cases hl:σ.pS s with
 |none=>
  dsimp only;refine jE.bind ((DZ h (Ea H)).mono (iN 36) (λ_ _ _ _ h=>h)) (c2:=0) ?_ (by omega);rintro _ v u _ _ q;exact jE.ret u q.fresh
 |some f=>
  dsimp only;have⟨K,hn⟩:=yr σ s hl;have B:some f∈σ.act:=List.mem_reverse.1 K;have⟨r,hr⟩:=id h;have⟨ef,hef,_⟩:=hr.act f B;have l:jX σ f s:=by
   have g:=Tr hef
   rwa [uI hn]at g
  have G:(σ.ij f).isSome=true:=by rw[hef];rfl
  split
  .refine jE.bind ((zp h (x:=some f) G).mono (iN 36) (λ_ _ _ _ h=>h)) (c2:=0) ?_ (by omega);rintro _ v u _ _ q;exact jE.ret u q.fresh
  .rename_i W;have D:some f∈σ.gG:=by simpa using W
   split
   .exact⟨h,Fx.refl _,by omega,rfl⟩
   .rename_i I;have E:σ.oD f σ.gG.reverse=true:=by simpa [Ab.pq]using I
    cases hb:σ.qO f with
    |none=>
     dsimp only;refine jE.bind ((T6 h l (Ea H) D).mono (iN 36) (λ_ _ _ _ h=>h)) (c2:=0) ?_ (by omega);rintro _ v u P _ Y;refine jE.bind (zp u (x:=some f) (my (P.nm _ _ l))) (c2:=0) ?_ (by omega);rintro _ a0 X _ _ Z;exact jE.ret X (Z.fresh.trans Y.fresh)
    |some b=>
     dsimp only;have⟨pf,hpf⟩:=Gc D;have L:=A6 hpf;have d:∀k,k < σ.gG.length->σ.gG.reverse[k]?=σ.gG[σ.gG.length - 1 - k]?:=λk C=>SJ C;have N:∀k,σ.gG.reverse[k]?=some (some f)->k=σ.gG.length - 1 - pf:=by
      intro k C;have p:k < σ.gG.length:=by simpa using (List.getElem?_eq_some_iff.1 C).1
      rw[d k p]at C;have g:=vU C hr.nodup;have S:=vU hpf hr.nodup;omega
     have T:σ.gG.reverse[σ.gG.length - 1 - pf]?=some (some f):=by
      rw[d _ (by omega),show σ.gG.length - 1 - (σ.gG.length - 1 - pf)=pf by omega];exact hpf
     rcases Gq σ f b σ.gG.reverse none hb with g|⟨k,g,S⟩
     .cases g
     .have p:k < σ.gG.length:=by simpa using (List.getElem?_eq_some_iff.1 g).1
      have U:k < σ.gG.length - 1 - pf:=by
       rcases mO k (σ.gG.length - 1 - pf)with J|J
       .exact J
       .grind
      rw[d k p]at g;refine jE.bind ((Ra h H l B hpf g (by omega) ?_ hw).mono (gW _) (λ_ _ _ _ h=>h)) (c2:=0) ?_ (by omega)
      .intro m x K O;have V:=A6 O;have F:=Cl σ f σ.gG.reverse E (σ.gG.length - 1 - m) (some x) (by
        rw[d _ (by omega),show σ.gG.length - 1 - (σ.gG.length - 1 - m)=m by omega];exact O) (by
        grind)
       cases hq:la (σ.nm x) fZ with
       |false=>rfl
       |true=>
        have e:=uI hq;have A:iS (σ.nm x)=false:=F;rw[e,Sk]at A;cases A
      .rintro _ v u _ _ q;exact jE.ret u q
theorem IP (d:rY s=true):∀(k:Nat) {σ:Ab},nr σ->wt σ+36*k < 999900->jE (36*k) σ (tP s k σ) (λ_ σ'=>σ'.fresh=σ.fresh)
 |0,σ,h,_=>⟨h,Fx.refl _,gW _,rfl⟩
 |k+1,σ,h,hw=>by
  unfold tP;refine jE.bind (Le h d (by omega)) (c2:=36*k) ?_ (by omega);rintro b p g q u l;cases b with
  |true=>
   refine(IP d k g (by omega)).mono (gW _) ?_
   grind
  |false=>exact jE.ret g l _
def Fj (h:nr σ) (g:σ.gG≠[]) (l:rY s=true) (hw:wt σ < 999100):jE 288 σ (xS s σ) (λ_ σ'=>σ'.fresh=σ.fresh):=by
 have⟨r,hr⟩:=id h;have⟨i,e,h1,h2,h3,h4⟩:=Ox hr g;unfold xS;rw[h1];dsimp only;split
 .rename_i k;rw[sq]at k;have d:σ.current (im [s])=true:=by
   unfold Ab.current;rw[h1];show im [s] (σ.nm i)=true;rw[yR];exact k.1
  have p:=xW h (im [s]) (Qv l) d;refine jE.bind ((yX h p).mono (iN 288) (λ_ _ _ _ h=>h)) (c2:=0) ?_ (by omega);rintro x u q _ _ ⟨rfl,_⟩;exact⟨q,Fx.refl _,gW _,rfl⟩
 .exact(IP l 8 h (by omega)).mono (by omega) (λ_ _ _ _ h=>h)
theorem nr.nD (h:nr σ) (L:σ'.nodes=σ.nodes) (u:σ'.gG=σ.gG) (G:σ'.act=σ.act) (H:σ'.head=σ.head) (N:σ'.form=σ.form) (I:σ'.qv=σ.qv) (J:σ'.rZ=σ.rZ):nr σ':=by
 have⟨r,h⟩:=h;have l:∀i,σ'.ij i=σ.ij i:=λi=>by unfold Ab.ij;rw[L]
 have P:∀k,σ'.jo k=σ.jo k:=λk=>by
  cases k with
  |el i=>grind[Ab.jo]
  |tx i=>grind[Ab.jo]
  |cm i=>grind[Ab.jo]
  |dt i=>grind[Ab.jo]
 have C:∀x,σ'.mw x=σ.mw x:=λx=>by
  cases x with
  |none=>rfl
  |some i=>grind[Ab.mw]
 have K:∀i s,jX σ i s->jX σ' i s:=λi s ⟨e,A,q⟩=>⟨e,by grind,q⟩;refine⟨r,⟨⟨?_,?_,?_,?_⟩,⟨?_,?_,?_⟩,?_,?_,?_,?_,?_,?_,?_,?_,?_,?_⟩⟩
 .intro i e p g E;rw[l]at g;have⟨ep,A,q⟩:=h.oT.up i e p g E;grind
 .intro i e j g O;rw[l]at g;have⟨ep,A,q⟩:=h.oT.dn i e j g O;grind
 .intro i e g;rw[l]at g;exact h.oT.nd i e g
 .intro i e g k D;rw[l]at g;rw[P];exact h.oT.kd i e g k D
 .intro i e p g E;rw[l]at g;exact h.ur.jl i e p g E
 .rw[u];exact h.ur.gG
 .rw[u,H];exact h.ur.hd
 .rw[u];intro x F;rw[C];exact h.gG x F
 .rw[G];intro i g;have⟨e,A,q⟩:=h.act i g;grind
 .rw[H];exact λd B=>K _ _ (h.head d B)
 .rw[N];exact λd B=>K _ _ (h.form d B)
 .rw[u];intro x v F;have⟨z,A,q⟩:=h.Mr x v F;grind
 .rw[u,I];exact h.x9
 .rw[G,J];exact h.AC
 .rw[I];exact h.Qc
 .rw[J];exact h.SU
 .rw[l];exact h.xX
def nr.O0 (h:nr σ) (x:jk) (g:∀d,x=some d->jX σ d iP):nr {σ with form:=x}:=by
 have⟨r,h⟩:=h;exact⟨r,⟨⟨h.oT.up,h.oT.dn,h.oT.nd,h.oT.kd⟩,⟨h.ur.jl,h.ur.gG,h.ur.hd⟩,h.gG,h.act,h.head,g,h.Mr,h.x9,h.AC,h.Qc,h.SU,h.xX⟩⟩
def qP (m:Nat):Bool:=decide (m=6)||decide (m=7)||(decide (9<=m)&&decide (m<=17))
structure BMs (σ:Ab):Prop where
 ne:σ.gG≠[]
 sh:qP σ.mode=true\/(σ.mode=5/\qP σ.kept=true/\2<=σ.gG.length)\/(σ.mode=8/\(σ.kept=7\/σ.kept=11\/σ.kept=12))
structure Lm (σ σ':Ab):Prop where
 gS:σ'.gS=σ.gS
 qv:σ'.qv=σ.qv
 rZ:σ'.rZ=σ.rZ
 pG:σ'.pG=σ.pG
 wt:σ'.waiting.length<=σ.waiting.length+1
 wz:∀x∈σ'.waiting,x∈σ.waiting\/x.2.2.size<=100
theorem Fx.lm (h:Fx σ σ'):Lm σ σ':=⟨h.gS,h.qv,h.rZ,h.pG,by rw[h.waiting];omega,by rw[h.waiting];grind⟩
def RB (c:Nat) (σ:Ab) (r:qI Unit):Prop:=match r with
 | .ok _ σ'=>nr σ'/\BMs σ'/\Lm σ σ'/\wt σ'<=wt σ+c
 | .stop _ p=>p=σ.gS
 | .stuck=>False
theorem RB.mono {r : qI Unit} (h:RB c σ r) (d:c<=c'):RB c' σ r:=by
 cases r with
 |ok a σ'=>grind[RB]
 |stop e p=>exact h
 |stuck=>exact h
def jE.rb {r : qI Unit} (h:jE c σ r Q) (d:σ.gG≠[]) (g:qP σ.mode=true):RB c σ r:=by
 cases r with
 |ok a σ'=>
  have⟨h1,h2,h3,_⟩:=h;exact⟨h1,⟨h2.ne d,.inl (by rw[h2.mode];exact g)⟩,h2.lm,h3⟩
 |stop e p=>exact h
 |stuck=>exact h
theorem RB.bind {α:Type} {c1 c2 : Nat} {x:M α} {k:α->M Unit} {Q:α->Ab->Prop} (h:jE c1 σ (x σ) Q) (g:∀a σ',nr σ'->Fx σ σ'->wt σ'<=wt σ+c1->Q a σ'->RB c2 σ' (k a σ')) (l:c1+c2<=c):RB c σ ((x>>=k) σ):=by
 rw[M.gE];cases hm:x σ with
 |ok a σ'=>
  rw[hm]at h;have⟨h1,h2,h3,h4⟩:=h;have d:=g a σ' h1 h2 h3 h4;dsimp only;cases hk2:k a σ' with
  |ok b σ2=>
   rw[hk2]at d;have⟨g1,g2,g3,g4⟩:=d;exact⟨g1,g2,⟨g3.gS.trans h2.gS,g3.qv.trans h2.qv,g3.rZ.trans h2.rZ,g3.pG.trans h2.pG,by have:=g3.wt;rw[h2.waiting]at this;omega,by have:=g3.wz;rw[h2.waiting]at this;omega⟩,by omega⟩
  |stop e p=>
   rw[hk2]at d;exact Ah d h2.gS
  |stuck=>grind[RB]
 |stop e p=>rwa [hm]at h
 |stuck=>rwa [hm]at h
def Iy (h:nr σ) (d:σ.gG≠[]) (m:Nat) (g:qP m=true):RB 0 σ ((jS m>>=λ_=>(Pure.pure ():M Unit)) σ):=
 ⟨h.nD rfl rfl rfl rfl rfl rfl rfl,⟨d,.inl g⟩,⟨rfl,rfl,rfl,rfl,lU _,λ_ h=> .inl h⟩,nW (jF rfl)⟩
def kU (h:nr σ) (d:BMs σ):RB 0 σ ((Pure.pure ():M Unit) σ):=⟨h,d,⟨rfl,rfl,rfl,rfl,lU _,λ_ h=> .inl h⟩,gW _⟩
structure nX (σ:Ab):Prop where
 iv:nr σ
 ne:σ.gG≠[]
 md:qP σ.mode=true
def nX.next (h:nX σ) (i:nr σ') (f:Fx σ σ'):nX σ':=⟨i,f.ne h.ne,by rw[f.mode];exact h.md⟩
def nX.Fl (h:nX σ):BMs σ:=⟨h.ne,.inl h.md⟩
structure mx (σ:Ab) (t:gO):Prop where
 tag:t.pI=true
 fr:σ.fresh=true
def uE (h:nr σ):jE 0 σ (ph σ) (λ_ σ'=>vz σ σ'):=
 jE.iL ((wY h (im [nG]) DO (by kernel_rfl)).mono (gW _) (λ_ _ _ _ h=>h.1))
theorem pA (h:nr σ) (g:σ.gG≠[]) (k:mx σ t) (hw:wt σ < 999900):jE 33 σ (lQ t σ) (λ_ σ'=>∃d j,Gf d t.name j σ'/\σ.gG <+:d.gG/\d.act.length=σ.act.length):=by
 unfold lQ;refine jE.bind (oy h g (by omega)) (c2:=1) ?_ (by omega);rintro _ d p l A ⟨u,v,q⟩;refine jE.iL ((jY p (l.ne g) (by omega) t k.tag (q.trans k.fr)).mono (gW _) ?_)
 grind
theorem ug (h:nr σ) (g:σ.gG≠[]) (k:mx σ t) (hw:wt σ < 999000):jE 1 σ (nE t σ) (λ_ σ'=>∃d j,Gf d t.name j σ'):=by
 unfold nE;refine jE.bind (uE h) (c2:=1) ?_ (by omega);rintro _ d p l u q;refine jE.iL ((jY p (l.ne g) (by omega) t k.tag (q.fresh.trans k.fr)).mono (gW _) ?_)
 grind
section
variable {σ:Ab} {t:gO} (h:nX σ) (hw:wt σ < 999000)
include h hw
def Ma (d:mx σ t):RB 33 σ (lQ t σ):=(pA h.iv h.ne d (by omega)).rb h.ne h.md
def L6 (d:mx σ t):RB 1 σ (nE t σ):=(ug h.iv h.ne d hw).rb h.ne h.md
def Sc (l:mx σ t):RB 1 σ (xy t σ):=by
 unfold xy;refine RB.bind (ug h.iv h.ne l hw) (c2:=0) ?_ (by omega);rintro _ p g k _ _;have d:=h.next g k;exact⟨g.nD rfl rfl rfl rfl rfl rfl rfl,⟨d.ne,.inl d.md⟩,⟨rfl,rfl,rfl,rfl,lU _,λ_ h=> .inl h⟩,nW (jF rfl)⟩
def Ib (d:mx σ t):RB 1 σ (oP t σ):=by
 have:jE 1 σ (oP t σ) (λ_ _=>True):=by
  unfold oP;refine jE.bind (uE h.iv) (c2:=1) ?_ (by omega);rintro _ v l g B q;refine jE.bind (uT l (im [mL,mM]) (by kernel_rfl)) (c2:=1) ?_ (by omega);rintro _ A p k C u;exact jE.iL ((jY p (k.ne (g.ne h.ne)) (by omega) t d.tag (u.fresh.trans (q.fresh.trans d.fr))).mono (gW _) (λ_ _ _ _ _=>trivial))
 exact this.rb h.ne h.md
def Ux (d:mx σ t):RB 1 σ (yc t σ):=by
 have:jE 1 σ (yc t σ) (λ_ _=>True):=by
  unfold yc;refine jE.bind (uE h.iv) (c2:=1) ?_ (by omega);rintro _ p k g q l;exact jE.iL ((qW k (g.ne h.ne) (by omega) t d.tag (l.fresh.trans d.fr)).mono (gW _) (λ_ _ _ _ _=>trivial))
 exact this.rb h.ne h.md
def O3 (A:mx σ t) (v:t.name=iP):RB 1 σ (abq t σ):=by
 unfold abq;cases hf:σ.form with
 |some d=>exact(kU h.iv h.Fl).mono (by omega)
 |none=>
  dsimp only;refine RB.bind (ug h.iv h.ne A hw) (c2:=0) ?_ (by omega);rintro _ g p u _ ⟨B,j,q⟩;have k:=h.next p u;refine⟨p.O0 g.last ?_,⟨k.ne,.inl k.md⟩,⟨rfl,rfl,rfl,rfl,lU _,λ_ h=> .inl h⟩,nW (jF rfl)⟩;intro d l;rw[Eu q]at l;cases l;rw[<-v];exact q.nm
def Kv (d:mx σ t):RB 33 σ (pK t σ):=by
 have:jE 33 σ (pK t σ) (λ_ _=>True):=by
  unfold pK;refine jE.bind (wY h.iv (im [ic]) iS (by kernel_rfl)) (c2:=33) ?_ (by omega);rintro _ p k g q ⟨l,_⟩;exact jE.iL ((pA k (g.ne h.ne) ⟨d.tag,l.fresh.trans d.fr⟩ (by omega)).mono (gW _) (λ_ _ _ _ _=>trivial))
 exact this.rb h.ne h.md
def Mc (g:mx σ t):RB 1 σ (tk t σ):=by
 unfold tk;have l:jE 0 σ (zt σ) (λ_ σ'=>vz σ σ'):=by
  unfold zt;split
  .exact⟨h.iv,Fx.refl _,gW _,vz.refl _⟩
  .exact uE h.iv
 refine RB.bind l (c2:=1) ?_ (by omega);rintro _ v p d B u;refine RB.bind (jY p (d.ne h.ne) (by omega) t g.tag (u.fresh.trans g.fr)) (c2:=0) ?_ (by omega);rintro _ A q k C _;exact Iy q (k.ne (d.ne h.ne)) 7 rfl
def GU (k:mx σ t) (b:Bool):RB 1 σ (oG t b σ):=by
 unfold oG;refine RB.bind (jY h.iv h.ne (by omega) t k.tag k.fr) (c2:=0) ?_ (by omega);rintro _ d l g _ ⟨j,q⟩;refine⟨l.nD rfl rfl rfl rfl rfl rfl rfl,⟨g.ne h.ne,.inr (.inl ⟨rfl,?_,?_⟩)⟩,⟨rfl,rfl,rfl,rfl,lU _,λ_ h=> .inl h⟩,nW (jF rfl)⟩
 .show qP d.mode=true;rw[g.mode];exact h.md
 .have:=Ew q h.ne;omega
def KD (d:mx σ t):RB 33 σ (pM t σ):=by
 have:jE 33 σ (pM t σ) (λ_ _=>True):=by
  unfold pM;refine jE.bind (uT h.iv (im [gP]) (by kernel_rfl)) (c2:=33) ?_ (by omega);rintro _ p k g q l;exact jE.iL ((pA k (g.ne h.ne) ⟨d.tag,l.fresh.trans d.fr⟩ (by omega)).mono (gW _) (λ_ _ _ _ _=>trivial))
 exact this.rb h.ne h.md
theorem KE (g:mx σ t):RB 33 σ (rp t σ):=by
 unfold rp;refine RB.bind (pA h.iv h.ne g (by omega)) (c2:=0) ?_ (by omega);rintro _ l k d _ _;refine⟨k.nD rfl rfl rfl rfl rfl rfl rfl,⟨d.ne h.ne,.inl ?_⟩,⟨rfl,rfl,rfl,rfl,lU _,λ_ h=> .inl h⟩,nW (jF rfl)⟩
 grind[qP]
def O8 (d:mx σ t):RB 33 σ (tI t σ):=by
 have:jE 33 σ (tI t σ) (λ_ _=>True):=by
  unfold tI;refine jE.bind (oy h.iv h.ne (by omega)) (c2:=1) ?_ (by omega);rintro _ p k g v ⟨q,u,l⟩;exact jE.iL ((qW k (g.ne h.ne) (by omega) t d.tag (l.trans d.fr)).mono (gW _) (λ_ _ _ _ _=>trivial))
 exact this.rb h.ne h.md
omit h hw in
def nK (k:nr σ) (g:σ.gG≠[]) (u:mx σ t) (p:rY t.name=true) (hw:wt σ < 999900):jE 33 σ (ja t σ) (λ_ _=>True):=by
 unfold ja;refine jE.bind (pA k g u hw) (c2:=0) ?_ (by omega);rintro _ d v B C ⟨A,j,q,_⟩;have l:JN d= .ok j d:=by unfold JN;rw[Eu q]
 rw[M.gE,l];dsimp only;exact jE.iL ((YM v q.nm p).mono (gW _) (λ_ _ _ _ _=>trivial))
def Dy (g:mx σ t) (d:rY t.name=true):RB 33 σ (ja t σ):=(nK h.iv h.ne g d (by omega)).rb h.ne h.md
theorem O5 (p:mx σ t) (v:t.name=uo):RB 330 σ (rT t σ):=by
 have d:rY t.name=true:=by rw[v];kernel_rfl
 unfold rT;cases hl:σ.pS uo with
 |none=>
  dsimp only;exact RB.mono (c:=33) ((jE.iL (Q:=λ_ _=>True) (nK h.iv h.ne p d (by omega))).rb h.ne h.md) (by omega)
 |some a=>
  dsimp only;have⟨hm,hnm⟩:=yr σ uo hl;have⟨r,hr⟩:=id h.iv;have⟨ea,hea,hfa⟩:=hr.act a (List.mem_reverse.1 hm);have g:=Tr hea;have k:σ.nm a≠fY:=by rw[uI hnm];intro e;cases e
  have:jE 330 σ ((xS uo>>=λ_=>lc (some a)>>=λ_=>kL (some a)>>=λ_=>ja t>>=λ_=>(Pure.pure ():M Unit)) σ) (λ_ _=>True):=by
   refine jE.bind (Fj h.iv h.ne (s:=uo) (by grind) (by omega)) (c2:=33) ?_ (by omega);rintro _ G A l J D;refine jE.bind (zp A (x:=some a) (my (l.nm _ _ g))) (c2:=33) ?_ (by omega);rintro _ H B q K E;refine jE.bind (Dh B (q.nm _ _ (l.nm _ _ g)) k) (c2:=33) ?_ (by omega);rintro _ I C u L F;exact jE.iL (nK C (u.ne (q.ne (l.ne h.ne))) ⟨p.tag,by rw[F.fresh,E.fresh,D];exact p.fr⟩ d (by omega))
  exact this.rb h.ne h.md
end
def RB.tail {m:M Unit} (h:RB c σ (m σ)):RB c σ ((m>>=λ_=>(Pure.pure ():M Unit)) σ):=by
 rw[M.gE];revert h;cases m σ<;>exact λh=>h
theorem RB.then {m:M Unit} (h:RB c σ (m σ)) (g:Ab->Ab) (q:∀σ,(g σ).nodes=σ.nodes/\(g σ).gG=σ.gG/\(g σ).act=σ.act/\(g σ).head=σ.head/\(g σ).form=σ.form/\(g σ).qv=σ.qv/\(g σ).rZ=σ.rZ/\(g σ).mode=σ.mode/\(g σ).kept=σ.kept/\(g σ).gS=σ.gS/\(g σ).pG=σ.pG/\(g σ).waiting=σ.waiting):RB c σ ((m>>=λ_=>xA g>>=λ_=>(Pure.pure ():M Unit)) σ):=by
 rw[M.gE];revert h;cases m σ with
 |ok a σ1=>
  rintro⟨l,k,d,u⟩;have⟨g1,g2,g3,g4,g5,g6,g7,g8,g9,g10,g11,g12⟩:=q σ1;refine⟨l.nD g1 g2 g3 g4 g5 g6 g7,⟨by rw[g2];exact k.ne,?_⟩,⟨g10.trans d.gS,g6.trans d.qv,g7.trans d.rZ,g11.trans d.pG,by rw[g12];exact d.wt,by rw[g12];exact d.wz⟩,by grind[wt]⟩;rw[g8,g9,g2];exact k.sh
 |stop e p=>simp
 |stuck=>simp
def ags {a b : gz} (h:la a b=false):a≠b:=by
 rintro rfl;unfold la at h;simp at h
def MK (i:Nat) (a:gz×gz) (r:lZ) (σ:Ab):qU i (a::r) σ=(match σ.ij i with
  |none=> .stuck
  |some e=>if zD e.ib a.1 then qU i r σ else if σ.pG<=e.ib.length then .stop 7 σ.gS else qU i r (σ.ig i {e with ib:=e.ib++[a]})):=rfl
theorem Fz:∀(gM:lZ) {σ:Ab},nr σ->(σ.ij i).isSome=true->jE 0 σ (qU i gM σ) (λ_ _=>True)
 |[],σ,h,_=>⟨h,Fx.refl _,gW _,trivial⟩
 |a::r,σ,h,hi=>by
  have⟨e,he⟩:=Option.isSome_iff_exists.1 hi;have B:qU i (a::r) σ=(if zD e.ib a.1 then qU i r σ else if σ.pG<=e.ib.length then .stop 7 σ.gS else qU i r (σ.ig i {e with ib:=e.ib++[a]})):=by
   rw[MK,he]
  rw[B];split
  .exact Fz r h hi
  .split
   .rfl
   .have⟨rr,hr⟩:=h;have l:=Ab.iq he;have G:(σ.ij i).isSome=true:=hi;have v:=hr.alike (σ':=σ.ig i {e with ib:=e.ib++[a]}) (λj q g=>by
     by_cases d:j=i
     .subst d;rw[he]at g;cases g;exact⟨_,Ab.jd l,rfl,rfl,rfl⟩
     .exact⟨q,by rw[Ab.iU d];exact g,rfl,rfl,rfl⟩) (λj q g=>by
     by_cases d:j=i
     .grind
     .rw[Ab.iU d]at g;grind) (λj q g k A=>by
     rw[Ab.lA G]
     by_cases d:j=i
     .subst d;rw[Ab.jd l]at g;cases g;exact hr.oT.kd _ _ he k A
     .rw[Ab.iU d]at g;exact hr.oT.kd _ _ g k A)
    have hw:wt (σ.ig i {e with ib:=e.ib++[a]})=wt σ:=by
     have:=sK (e':={e with ib:=e.ib++[a]}) he;dsimp only at this;omega
    have F:=Fz r (σ:=σ.ig i {e with ib:=e.ib++[a]}) ⟨rr,v.1⟩ (by rw[Ab.jd l];rfl);revert F;cases qU i r (σ.ig i {e with ib:=e.ib++[a]})with
    |ok u σ2=>rintro⟨C,D,H,E⟩;exact⟨C,v.2.trans D,by omega,E⟩
    |stop c p=>exact λh=>h
    |stuck=>simp[jE]
def QF (h:nr σ) (d:jX σ i s) (k:nM s=true) (t:gO) (g:σ.fresh=true):jE 0 σ (xg i t σ) (λ_ _=>True):=by
 unfold xg;rw[gJ (by rw[sq];exact⟨g,by rw[jK.Re d];exact k⟩)];exact Fz t.jx h (my d)
def Ed (h:nr σ) (d:σ.gG≠[]) (t:gO) (g:σ.fresh=true):jE 0 σ (pn t σ) (λ_ _=>True):=by
 have⟨r,hr⟩:=id h;have⟨q,e,rest,h1,h2,h3,h4⟩:=hr.first d;unfold pn;rw[h2];dsimp only;exact jE.iL (Q:=λ_ _=>True) (QF h ⟨e,h3,h4⟩ (by kernel_rfl) t g)
theorem Of (h:nr σ) (t:gO) (k:σ.fresh=true):jE 0 σ (qT t σ) (λ_ _=>True):=by
 unfold qT;cases hq:iE σ.gG 1 with
 |none=>exact⟨h,Fx.refl _,gW _,trivial⟩
 |some i=>
  dsimp only;split
  .rename_i g;have⟨r,hr⟩:=id h;have l:some i∈σ.gG:=by
    rw[show(1:Int)=((1:Nat):Int)from rfl,rK,vK]at hq;cases hx:σ.gG[1]? with
    |none=>grind
    |some y=>grind
   have⟨j,e,e1,he⟩:=ld (hr.gG _ l);cases e1;have d:=Tr he;rw[uI g]at d;exact jE.iL (Q:=λ_ _=>True) (QF h d (by kernel_rfl) t k)
  .exact⟨h,Fx.refl _,gW _,trivial⟩
section
variable {σ:Ab} {t:gO} (h:nX σ) (hw:wt σ < 999000)
include h hw
theorem O6 (g:mx σ t) (u:t.name=iK):RB 360 σ (tG t σ):=by
 have d:rY t.name=true:=by rw[u];kernel_rfl
 have:jE 360 σ (tG t σ) (λ_ _=>True):=by
  unfold tG;refine jE.bind (oy h.iv h.ne (by omega)) (c2:=325) ?_ (by omega);rintro _ B l k F ⟨D,E,p⟩;unfold abr;split
  .refine jE.bind (c1:=288) (Fj l (k.ne h.ne) (s:=iK) (by grind) (by omega)) (c2:=33) ?_ (by omega);rintro _ C v q G A;exact jE.iL (Q:=λ_ _=>True) (nK v (q.ne (k.ne h.ne)) ⟨g.tag,by rw[A,p];exact g.fr⟩ d (by omega))
  .exact jE.mono (c:=33) (jE.iL (Q:=λ_ _=>True) (nK l (k.ne h.ne) ⟨g.tag,by rw[p];exact g.fr⟩ d (by omega))) (by omega) (λ_ _ _ _ h=>h)
 exact this.rb h.ne h.md
def Kz (d:mx σ t):RB 33 σ (pL t σ):=by
 have:jE 33 σ (pL t σ) (λ_ _=>True):=by
  unfold pL;refine jE.bind (pA h.iv h.ne d (by omega)) (c2:=0) ?_ (by omega);rintro _ k g l p _;exact jE.iL ((wu g none (λ_ h=>by cases h)).mono (gW _) (λ_ _ _ _ _=>trivial))
 exact this.rb h.ne h.md
def acu (d:mx σ t) (ks:List gz) (k:im ks fY=false):RB 1 σ (GL ks t σ):=by
 have:jE 1 σ (GL ks t σ) (λ_ _=>True):=by
  unfold GL;refine jE.bind (wY h.iv (im ks) UI k) (c2:=1) ?_ (by omega);rintro _ q l g u ⟨p,_⟩;exact jE.iL ((ug l (g.ne h.ne) ⟨d.tag,p.fresh.trans d.fr⟩ (by omega)).mono (gW _) (λ_ _ _ _ _=>trivial))
 exact this.rb h.ne h.md
def EQ (d:mx σ t):RB 1 σ (vc t σ):=RB.tail (GU h hw d false)
def EP (d:mx σ t):RB 1 σ (pB t σ):=RB.tail (GU h hw d true)
def FZ (d:mx σ t):RB 1 σ (qt t σ):=RB.then (EQ h hw d) _ (λ_=>⟨rfl,rfl,rfl,rfl,rfl,rfl,rfl,rfl,rfl,rfl,rfl,rfl⟩)
omit hw in
def QE (d:σ.fresh=true):RB 0 σ (pn t σ):=(Ed h.iv h.ne t d).rb h.ne h.md
omit hw in
def QD (d:σ.fresh=true):RB 0 σ (qT t σ):=(Of h.iv t d).rb h.ne h.md
omit hw in
def Ty:RB 0 σ (zx σ):=by
 unfold zx;split
 .exact⟨h.iv.nD rfl rfl rfl rfl rfl rfl rfl,⟨h.ne,.inl rfl⟩,⟨rfl,rfl,rfl,rfl,lU _,λ_ h=> .inl h⟩,nW (jF rfl)⟩
 .exact kU h.iv h.Fl
omit hw in
def I7 (p b:gz->Bool) (d:p fY=false):RB 0 σ ((nL p b>>=λ_=>(Pure.pure ():M Unit)) σ):=
 (jE.iL (Q:=λ_ _=>True) ((wY h.iv p b d).mono (gW _) (λ_ _ _ _ _=>trivial))).rb h.ne h.md
omit hw in
def Qi (d:t.name≠fY):RB 0 σ (yK t σ):=I7 h _ _ (by
 rw[yR];cases hx:la fY t.name with
 |false=>rfl
 |true=>exact absurd (uI hx).symm d)
omit hw in
def Ly:RB 0 σ (uH σ):=I7 h _ _ (by kernel_rfl)
omit hw in
def TC:RB 0 σ (BP σ):=I7 h _ _ (by kernel_rfl)
omit hw in
def Qm (d:t.name≠fY):RB 0 σ (yM t σ):=(jE.iL (Q:=λ_ _=>True) ((DZ h.iv d).mono (gW _) (λ_ _ _ _ _=>trivial))).rb h.ne h.md
def acb:RB 1 σ (Qn σ):=by
 have:jE 1 σ (Qn σ) (λ_ _=>True):=by
  unfold Qn;split
  .exact jE.mono (c:=0) (jE.iL (Q:=λ_ _=>True) ((uE h.iv).mono (gW _) (λ_ _ _ _ _=>trivial))) (by omega) (λ_ _ _ _ h=>h)
  .refine jE.bind (sQ h.iv h.ne (by omega) nG) (c2:=0) ?_ (by omega);rintro _ g d k l _;exact jE.iL ((uE d).mono (gW _) (λ_ _ _ _ _=>trivial))
 exact this.rb h.ne h.md
def Qj:RB 33 σ (vC σ):=by
 have:jE 33 σ (vC σ) (λ_ _=>True):=by
  unfold vC;refine jE.bind (oy h.iv h.ne (by omega)) (c2:=1) ?_ (by omega);rintro _ l g d v _;refine jE.bind (sQ g (d.ne h.ne) (by omega) kq) (c2:=0) ?_ (by omega);rintro _ p k u A ⟨j,q,_⟩;exact jE.iL ((yX k (Ew q (d.ne h.ne))).mono (gW _) (λ_ _ _ _ _=>trivial))
 exact this.rb h.ne h.md
omit hw in
theorem TA:RB 0 σ (zz σ):=by
 unfold zz;cases hf:σ.form with
 |none=>exact kU h.iv h.Fl
 |some i=>
  dsimp only;have v:jX σ i iP:=by have⟨r,hr⟩:=h.iv;exact hr.form i hf
  have g:nr {σ with form:=none}:=h.iv.O0 none (λ_ h=>by cases h);split
  .obtain⟨l,d,D⟩:=Jc g vG (by kernel_rfl);have q:=Dh l (i:=i) (s:=iP) (d.nm _ _ v) (by simp);show RB 0 σ ((kL (some i)>>=λ_=>(Pure.pure ():M Unit)) (({σ with form:=none}:Ab).nh));rw[M.gE];revert q;have k:({σ with form:=none}:Ab).nh={({σ with form:=none}:Ab)with gG:=(Ab.qz {σ with form:=none} vG ({σ with form:=none}:Ab).gG.reverse).reverse}:=rfl;rw[k];cases kL (some i) _ with
   |ok u σ2=>
    rintro⟨A,B,E,C⟩;have F:=d.trans B;refine⟨A,⟨F.ne h.ne,.inl ?_⟩,⟨F.gS,F.qv,F.rZ,F.pG,?_,by rw[F.waiting];grind⟩,?_⟩
    .rw[F.mode];exact h.md
    .rw[F.waiting];simp
    .rw[jF C.nodes];simp[wt]
   |stop c p=>exact λh=>h
   |stuck=>exact λh=>h
  .exact⟨g,⟨h.ne,.inl h.md⟩,⟨rfl,rfl,rfl,rfl,lU _,λ_ h=> .inl h⟩,nW (jF rfl)⟩
def Fu (d:rY t.name=true):RB 288 σ (qo t σ):=(jE.iL (Q:=λ_ _=>True) ((Fj h.iv h.ne d (by omega)).mono (gW _) (λ_ _ _ _ _=>trivial))).rb h.ne h.md
omit hw in
def N8:RB 0 σ (tw σ):=by
 have:jE 0 σ (tw σ) (λ_ _=>True):=by
  unfold tw;refine jE.bind (wY h.iv (im [gX]) iS (by kernel_rfl)) (c2:=0) ?_ (by omega);rintro b g d k l _;cases b with
  |true=>exact(KQ d).mono (gW _) (λ_ _ _ _ _=>trivial)
  |false=>exact⟨d,Fx.refl _,gW _,trivial⟩
 exact this.rb h.ne h.md
def Cj (d:t.chars.size<=100):RB 101 σ (kC t σ):=((po h.iv h.ne t (by omega)).mono (c':=101) (by omega) (λ_ _ _ _ h=>h)).rb h.ne h.md
def Lp (l:t.chars.size<=100):RB 200 σ (oh t σ):=by
 unfold oh;split
 .exact(kU h.iv h.Fl).mono (by omega)
 .have:jE 200 σ ((me>>=λ_=>kC t>>=λ_=>(Pure.pure ():M Unit)) σ) (λ_ _=>True):=by
   refine jE.bind (oy h.iv h.ne (by omega)) (c2:=101) ?_ (by omega);rintro _ k g d p _;exact jE.iL (Q:=λ_ _=>True) ((po g (d.ne h.ne) t (by omega)).mono (by omega) (λ_ _ _ _ _=>trivial))
  exact this.rb h.ne h.md
def Aq (d:t.chars.size<=100):RB 101 σ (pP t σ):=by
 unfold pP;split
 .exact(kU h.iv h.Fl).mono (by omega)
 .exact RB.tail (Cj h hw d)
end
def tu (h:nr σ) (g:M (Nat×Nat)) (d:∃pl,g σ= .ok pl σ/\Ca σ pl) (t:gO) (hw:wt σ < 999000):jE 1 σ (ol g t σ) (λ_ _=>True):=by
 have⟨a,b,k,gM⟩:=t;cases k with
 |gR s=>
  have⟨pl,h1,h2⟩:=d;show jE 1 σ ((g>>=λpl=>pz pl (.cm s) .cm>>=λ_=>(Pure.pure ():M Unit)) σ) _;rw[M.gE,h1];dsimp only;exact jE.iL (m:=pz pl (.cm s) .cm) (Q:=λ_ _=>True) ((FR h h2 (.cm s) .cm (.inl ⟨s,rfl,rfl⟩) (by omega)).mono (gW _) (λ_ _ _ _ _=>trivial))
 |jM s=>exact⟨h,Fx.refl _,lU _,trivial⟩
 |start s=>exact⟨h,Fx.refl _,lU _,trivial⟩
 |stop s=>exact⟨h,Fx.refl _,lU _,trivial⟩
 |iy s q=>exact⟨h,Fx.refl _,lU _,trivial⟩
 |lost=>exact⟨h,Fx.refl _,lU _,trivial⟩
 |iR=>exact⟨h,Fx.refl _,lU _,trivial⟩
theorem xl (h:nr σ) (d:σ.gG≠[]):∃pl,mh σ= .ok pl σ/\Ca σ pl:=by
 have⟨r,h⟩:=h;have⟨pl,h1,h2,_⟩:=FM h d
 grind
def N3 (h:nr σ):∃pl,jC 0 σ= .ok pl σ/\Ca σ pl:=by
 have⟨e,he⟩:=Option.isSome_iff_exists.1 h.xX;exact⟨_,by unfold jC;rw[he],e,he,gW _⟩
def EB (σ:Ab) (r:qI Bool):Prop:=match r with
 | .ok x σ'=>nr σ'/\σ'.gG≠[]/\qP σ'.mode=true/\(Lm σ σ'/\σ'.waiting=σ.waiting)/\wt σ'<=wt σ/\σ'.fresh=σ.fresh/\(x=true->σ'.gG.length < σ.gG.length)/\(x=false->σ'=σ)
 | .stop _ _=>False
 | .stuck=>False
def lm0 (σ:Ab):Lm σ σ:=⟨rfl,rfl,rfl,rfl,lU _,λ_ h=> .inl h⟩
def EB.no (h:nX σ):EB σ (.ok false σ):=⟨h.iv,h.ne,h.md,⟨lm0 σ,rfl⟩,gW _,rfl,(λh=>by cases h),λ_=>rfl⟩
theorem EB.Rm (h:nX σ) (p b:gz->Bool) (v:p fY=false) {k:Bool->M Bool} (u:k false=Pure.pure false) (A:∀d,nr d->d.gG≠[]->∃g,k true d= .ok true g/\nr g/\g.gG=d.gG/\qP g.mode=true/\g.gS=d.gS/\g.qv=d.qv/\g.rZ=d.rZ/\g.pG=d.pG/\g.waiting=d.waiting/\g.nodes=d.nodes/\g.fresh=d.fresh):EB σ ((nL p b>>=k) σ):=by
 have q:=wY h.iv p b v;rw[M.gE];revert q;cases hq:nL p b σ with
 |ok x d=>
  rintro⟨B,l,F,C,E,D⟩;dsimp only;cases x with
  |false=>
   rw[u];have e:=D rfl;subst e;exact EB.no h
  |true=>
   have⟨g,e,g1,g2,g3,g4,g5,g6,g7,g8,g9,g10⟩:=A d B (l.ne h.ne);rw[e];refine⟨g1,by rw[g2];exact l.ne h.ne,g3,⟨⟨g4.trans l.gS,g5.trans l.qv,g6.trans l.rZ,g7.trans l.pG,?_,by rw[g8,l.waiting];grind⟩,g8.trans l.waiting⟩,?_,g10.trans C.fresh,?_,λh=>by cases h⟩
   .rw[g8,l.waiting];omega
   all_goals grind[wt]
 |stop c p=>unfold nL at hq;grind
 |stuck=>simp[jE]
def C9 (h:nX σ) (ks:List gz) (m:Nat) (g:im ks fY=false) (l:qP m=true):EB σ (sM ks m σ):=by
 unfold sM;refine EB.Rm h _ _ g (k:=λb=>if b then (do jS m;return true)else return false) rfl ?_;intro d q p;exact⟨{d with mode:=m},rfl,q.nD rfl rfl rfl rfl rfl rfl rfl,rfl,l,rfl,rfl,rfl,rfl,rfl,rfl,rfl⟩
def yL (h:nX σ) (ks:List gz) (m:Nat) (D:im ks fY=false) (E:qP m=true):EB σ (lG ks m σ):=by
 have C:=C9 h ks m D E;unfold lG;rw[M.gE];revert C;cases sM ks m σ with
 |ok x σ1=>
  rintro⟨k,q,l,⟨d,A⟩,v,u,g,B⟩;dsimp only;cases x with
  |false=>exact⟨k,q,l,⟨d,A⟩,v,u,g,B⟩
  |true=>
   have⟨g1,g2,g3,g4⟩:=KQ k;exact⟨g1,q,l,⟨⟨d.gS,d.qv,d.rZ,d.pG,d.wt,d.wz⟩,A⟩,v,u,g,λh=>by cases h⟩
 |stop c p=>simp
 |stuck=>simp
theorem SB (s:gz):qP (jU s)=true:=by
 grind[qP,jU]
def GZ (σ:Ab):∀ys:kV,qP (uW σ ys)=true
 |[]=>rfl
 |x::ys=>by
  unfold uW;split
  .exact GZ σ ys
  .exact SB _
def RS (h:nX σ) (p b:gz->Bool) (l:p fY=false):EB σ ((nL p b>>=λb=>if b then (do yu;return true)else return false) σ):=by
 refine EB.Rm h p b l (k:=λb=>if b then (do yu;return true)else return false) rfl ?_;intro d q g;exact⟨{d with mode:=uW d d.gG.reverse},rfl,q.nD rfl rfl rfl rfl rfl rfl rfl,rfl,GZ _ _,rfl,rfl,rfl,rfl,rfl,rfl,rfl⟩
theorem DY (h:nX σ):EB σ (nf σ):=by
 unfold nf;split
 .rename_i d;have g:=xW h.iv _ (by kernel_rfl) d;have⟨g1,g2⟩:=J9 h.iv g;show EB σ (.ok true {σ.pop with mode:=7});refine⟨g1.nD rfl rfl rfl rfl rfl rfl rfl,g2.ne h.ne,rfl,⟨⟨rfl,rfl,rfl,rfl,lU _,λ_ h=> .inl h⟩,rfl⟩,nW (jF rfl),rfl,λ_=>?_,λh=>by cases h⟩
  grind[Ab.pop]
 .exact EB.no h
structure yl (b:M Bool):Prop where
 ok:∀σ,nX σ->EB σ (b σ)
def zy:yl uG:=⟨λ_ h=>yL h _ _ (by kernel_rfl) rfl⟩
def Fs:yl endCell:=⟨λ_ h=>yL h _ _ (by kernel_rfl) rfl⟩
def D0:yl Fw:=⟨λ_ h=>C9 h _ _ (by kernel_rfl) rfl⟩
def xb:yl rJ:=⟨λ_ h=>C9 h _ _ (by kernel_rfl) rfl⟩
def Jn:yl yN:=⟨λ_ h=>RS h _ _ (by kernel_rfl)⟩
def vE:yl wI:=⟨λ_ h=>RS h _ _ (by kernel_rfl)⟩
def rH:yl nf:=⟨λ_ h=>DY h⟩
def xY {b:M Bool} (g:yl b) (h:nX σ):RB 0 σ (D5 b σ):=by
 have d:=g.ok σ h;unfold D5;rw[M.gE];revert d;cases b σ with
 |ok x σ1=>rintro⟨k,u,q,⟨l,D⟩,v,C,A,B⟩;exact⟨k,⟨u,.inl q⟩,l,v⟩
 |stop c p=>simp[EB]
 |stuck=>simp[EB]
theorem Lm.trans {a b c : Ab} (h:Lm a b) (hw:b.waiting=a.waiting) (k:Lm b c):Lm a c:=⟨k.gS.trans h.gS,k.qv.trans h.qv,k.rZ.trans h.rZ,k.pG.trans h.pG,by have:=k.wt;grind,by have:=k.wz;grind⟩
def YP {b:M Bool} (G:yl b) (h:nX σ) {rec:Nat->gO->M Unit} (H:∀σ',nX σ'->σ'.gG.length < σ.gG.length->wt σ'<=wt σ->σ'.fresh=σ.fresh->σ'.waiting=σ.waiting->σ'.qv=σ.qv->RB c σ' (rec σ'.mode t σ')):RB c σ (ym rec b t σ):=by
 have D:=G.ok σ h;unfold ym;rw[M.gE];revert D;cases b σ with
 |ok x σ1=>
  rintro⟨g,l,k,⟨d,q⟩,J,I,v,K⟩;dsimp only;cases x with
  |false=>exact⟨g,⟨l,.inl k⟩,d,by omega⟩
  |true=>
   have E:=H σ1 ⟨g,l,k⟩ (v rfl) J I q d.qv;have F:RB c σ1 ((kZ rec t>>=λ_=>(Pure.pure ():M Unit)) σ1):=RB.tail E;show RB c σ ((kZ rec t>>=λ_=>(Pure.pure ():M Unit)) σ1);revert F;cases(kZ rec t>>=λ_=>(Pure.pure ():M Unit)) σ1 with
   |ok u σ2=>rintro⟨A,B,C,L⟩;exact⟨A,B,d.trans q C,by omega⟩
   |stop c p=>exact λh=>Ah h d.gS
   |stuck=>simp[RB]
 |stop c p=>simp[EB]
 |stuck=>simp[EB]
section
variable {σ:Ab} {t:gO} (h:nX σ) (hw:wt σ < 999000)
include h hw
def BX (g:mx σ t) (ks:List gz) (m:Nat) (l:qP m=true):RB 1 σ (vy ks m t σ):=by
 unfold vy;refine RB.bind (xV h.iv (im ks)) (c2:=1) ?_ (by omega);rintro _ v p d B u;refine RB.bind (jY p (d.ne h.ne) (by omega) t g.tag (u.fresh.trans g.fr)) (c2:=0) ?_ (by omega);rintro _ A q k C _;exact Iy q (k.ne (d.ne h.ne)) m l
def H9 (k:mx σ t):RB 1 σ (pY t σ):=by
 unfold pY;refine RB.bind (xV h.iv (im [fZ])) (c2:=1) ?_ (by omega);rintro _ B p d E v;refine RB.bind (wu p none (λ_ h=>by cases h)) (c2:=1) ?_ (by omega);rintro _ C q g F A;refine RB.bind (jY q (g.ne (d.ne h.ne)) (by omega) t k.tag (A.fresh.trans (v.fresh.trans k.fr))) (c2:=0) ?_ (by omega);rintro _ D u l G _;exact Iy u (l.ne (g.ne (d.ne h.ne))) 9 rfl
def zU (l:mx σ t):RB 1 σ (rS t σ):=by
 unfold rS;refine RB.bind (xV h.iv (im [il])) (c2:=1) ?_ (by omega);rintro _ I D k J H;refine RB.bind (jY D (k.ne h.ne) (by omega) t l.tag (H.fresh.trans l.fr)) (c2:=0) ?_ (by omega);rintro _ d E q K _;have G:=q.ne (k.ne h.ne);have F:nr {d with mode:=13}:=E.nD rfl rfl rfl rfl rfl rfl rfl;have C:=(jE.iL (Q:=λ_ _=>True) ((wu F none (λ_ h=>by cases h)).mono (gW _) (λ_ _ _ _ _=>trivial))).rb G rfl;show RB 0 d ((lK none>>=λ_=>(Pure.pure ():M Unit)) {d with mode:=13});revert C;cases(lK none>>=λ_=>(Pure.pure ():M Unit)) {d with mode:=13} with
 |ok u σ4=>rintro⟨v,A,g,B⟩;exact⟨v,A,⟨g.gS,g.qv,g.rZ,g.pG,g.wt,g.wz⟩,B⟩
 |stop c p=>simp[RB]
 |stuck=>simp[RB]
def Cd (u:mx σ t) (v:t.name=iP):RB 1 σ (mH t σ):=by
 unfold mH;cases hf:σ.form with
 |some d=>exact(kU h.iv h.Fl).mono (by omega)
 |none=>
  dsimp only;refine RB.bind (jY h.iv h.ne (by omega) t u.tag u.fr) (c2:=0) ?_ (by omega);rintro _ g A k D ⟨j,q⟩;refine RB.bind (yX A (Ew q h.ne)) (c2:=0) ?_ (by omega);rintro x C B l E ⟨rfl,rfl⟩;refine⟨B.O0 g.last ?_,⟨l.ne (k.ne h.ne),.inl ?_⟩,⟨rfl,rfl,rfl,rfl,lU _,λ_ h=> .inl h⟩,nW (jF rfl)⟩
  .intro d p;rw[Eu q]at p;cases p;rw[<-v];exact l.nm _ _ q.nm
  .show qP g.mode=true;rw[k.mode];exact h.md
def vp (d:mx σ t):RB 1 σ (lL t σ):=(qW h.iv h.ne (by omega) t d.tag d.fr).rb h.ne h.md
def zV (d:mx σ t):RB 1 σ (kA t σ):=by
 have:jE 1 σ (kA t σ) (λ_ _=>True):=by
  unfold kA;refine jE.bind (uT h.iv (im [gP]) (by kernel_rfl)) (c2:=1) ?_ (by omega);rintro _ p k g q l;exact jE.iL ((jY k (g.ne h.ne) (by omega) t d.tag (l.fresh.trans d.fr)).mono (gW _) (λ_ _ _ _ _=>trivial))
 exact this.rb h.ne h.md
def se (k:mx σ t):jE 1 σ (jB t σ) (λ_ σ'=>2<=σ'.gG.length):=by
 unfold jB;refine jE.bind (uT h.iv (im [gP]) (by kernel_rfl)) (c2:=1) ?_ (by omega);rintro _ A l d D u;refine jE.bind (uT l (im [gp]) (by kernel_rfl)) (c2:=1) ?_ (by omega);rintro _ B p g E v;refine jE.iL ((jY p (g.ne (d.ne h.ne)) (by omega) t k.tag (v.fresh.trans (u.fresh.trans k.fr))).mono (gW _) ?_);rintro _ C _ _ ⟨j,q⟩;exact Ew q (g.ne (d.ne h.ne))
def yw (d:mx σ t):RB 1 σ (jB t σ):=(se h hw d).rb h.ne h.md
def Dz (d:mx σ t):RB 1 σ (mf t σ):=by
 have:jE 1 σ (mf t σ) (λ_ _=>True):=by
  unfold mf;refine jE.bind (se h hw d) (c2:=0) ?_ (by omega);rintro _ l g p q k;exact jE.iL ((yX g k).mono (gW _) (λ_ _ _ _ _=>trivial))
 exact this.rb h.ne h.md
omit hw in
def A0:RB 0 σ (nu σ):=(jE.iL (Q:=λ_ _=>True) ((uT h.iv (im [gP]) (by kernel_rfl)).mono (gW _) (λ_ _ _ _ _=>trivial))).rb h.ne h.md
omit hw in
theorem zB:RB 0 σ (jn σ):=by
 have g:∀d,nr d->jE 0 d ((qx (im [gp])>>=λ_=>(Pure.pure ():M Unit)) d) (λ_ _=>True):=λd q=>
  jE.iL (Q:=λ_ _=>True) ((uT q (im [gp]) (by kernel_rfl)).mono (gW _) (λ_ _ _ _ _=>trivial))
 have:jE 0 σ (jn σ) (λ_ _=>True):=by
  unfold jn;split
  .rename_i k;have p:=xW h.iv _ (by kernel_rfl) k;have⟨r,hr⟩:=id h.iv;have⟨i,e,h1,h2,h3,h4⟩:=Ox hr h.ne;rw[List.getLast?_eq_getElem?]at h3;have⟨a,ha1,ha2⟩:=hr.PN h3 (by omega);have l:iE σ.gG (posOf σ.gG σ.last - 1)=some a:=by
    rw[h1];unfold ahead at ha1;split at ha1
    .grind
    .cases ha1
   rw[l];dsimp only;split
   .refine jE.bind (yX h.iv p) (c2:=0) ?_ (by omega)
    grind
   .exact g σ h.iv
  .exact g σ h.iv
 exact this.rb h.ne h.md
end
theorem uO {n : gz} {r : Ru}:∀{R:List (List gz×Ru)},pa R n=some r->∃p∈R,im p.1 n=true/\p.2=r
 |[],h=>by cases h
 |p::R,h=>by
  unfold pa at h
  by_cases d:im p.1 n=true
  .grind
  .rw[gV d]at h;have⟨q,h1,h2⟩:=uO h
   grind
theorem JS {n : gz}:∀{R:List (List gz×Ru)},pa R n=none->∀p∈R,im p.1 n=false
 |[],_,p,d=>by cases d
 |q::R,h,p,d=>by
  unfold pa at h
  by_cases g:im q.1 n=true
  .grind
  .rw[gV g]at h;rcases List.mem_cons.1 d with rfl|d
   .grind
   .exact JS h p d
def Vl (t:gO):Bool:=match t.k with
 | .start _=>true
 |_=>false
structure qc (t:gO):Prop where
 sz:t.chars.size<=100
 sm:xv t=true
 nl:t.k≠ .lost
def zo (σ:Ab) (t:gO):Prop:=Vl t=true->σ.fresh=true
def zo.tag (h:zo σ t) (d:Vl t=true):mx σ t:=by
 refine⟨?_,h d⟩;have⟨a,b,k,gM⟩:=t;cases k<;>first|rfl|cases d
theorem iD (d:Bool) (n m:Nat) (t:gO) (g:t.k≠ .lost) (sp:nc) (l:xx[m]?=some sp) (r:Ru) (k:kj sp t=r):ie d (n+1) m t=oo d (ie true n) (ie d n) r t:=by
 rw[KJ d n m t g]
 grind[asM]
def sX (t:gO):tQ 105 true t=ol mh t:=by rfl
def WR (t:gO):tQ 154 true t=ol qS t:=by rfl
def I8 (t:gO):tQ 99 false t=ol (jC 0) t:=by rfl
def LC {n : gz} (h:im [s] n=true):n=s:=by rw[yR]at h;exact uI h
def agh {u n : gz} (h:im [s,u] n=true):n=s\/n=u:=by
 unfold im at h;simp only[List.any_cons,List.any_nil,Bool.or_false,Bool.or_eq_true]at h;rcases h with h|h
 .exact .inl (uI h)
 .exact .inr (uI h)
def Oi {d : List gz} {n : gz} (h:im d n=true):n∈d:=by
 unfold im at h;rw[List.any_eq_true]at h;have⟨x,h1,h2⟩:=h;rw[uI h2];exact h1
def Vg (d:Bool) (n a b:Nat) (nm:gz) (gM:lZ) (g:nm=jm\/nm=jt\/nm=iZ) (h:nX σ) (l:σ.fresh=true) (hw:wt σ < 999000):RB 1 σ (ie d (n+1) 3 ⟨a,b,.start nm,gM⟩ σ):=by
 have k:mx σ ⟨a,b,.start nm,gM⟩:=⟨rfl,l⟩;rcases g with rfl|rfl|rfl
 .rw[iD d n 3 _ (by simp) mG rfl (.ik 110) (by kernel_rfl)];exact vp h hw k
 .rw[iD d n 3 _ (by simp) mG rfl (.ik 111) (by kernel_rfl)];exact EQ h hw k
 .rw[iD d n 3 _ (by simp) mG rfl (.ik 112) (by kernel_rfl)];exact EP h hw k
def oJ {rec:Nat->gO->M Unit} (h:RB c {σ with mode:=m} (rec m t {σ with mode:=m})):RB c σ ((jS m>>=λ_=>kZ rec t>>=λ_=>(Pure.pure ():M Unit)) σ):=by
 have q:RB c {σ with mode:=m} ((kZ rec t>>=λ_=>(Pure.pure ():M Unit)) {σ with mode:=m}):=RB.tail h;show RB c σ ((kZ rec t>>=λ_=>(Pure.pure ():M Unit)) {σ with mode:=m});revert q;cases(kZ rec t>>=λ_=>(Pure.pure ():M Unit)) {σ with mode:=m} with
 |ok u σ2=>rintro⟨g,k,d,l⟩;exact⟨g,k,⟨d.gS,d.qv,d.rZ,d.pG,d.wt,d.wz⟩,l⟩
 |stop c p=>simp[RB]
 |stuck=>simp[RB]
def nX.mode (h:nX σ) (m:Nat) (d:qP m=true):nX {σ with mode:=m}:=⟨h.iv.nD rfl rfl rfl rfl rfl rfl rfl,h.ne,d⟩
theorem jP (g:Bool) (n:Nat) (t:gO) (u:qc t) (h:nX σ) (E:zo σ t) (hw:wt σ < 999000):RB 360 σ (ie g (n+3) 6 t σ):=by
 have⟨a,b,k,gM⟩:=t;cases k with
 |lost=>exact absurd rfl u.nl
 |jM s=>
  have v:kj ln ⟨a,b,.jM s,gM⟩= .ik 120:=by
   unfold kj;dsimp only;split<;>rfl
  rw[iD g (n+2) 6 _ u.nl ln rfl _ v];exact(Lp h hw u.sz).mono (by omega)
 |gR s=>
  rw[iD g (n+2) 6 _ u.nl ln rfl (.gR 105 true) rfl];show RB 360 σ (tQ 105 true _ σ);rw[sX];exact RB.mono (c:=1) ((tu h.iv mh (xl h.iv h.ne) _ hw).rb h.ne h.md) (by omega)
 |iy s q=>
  rw[iD g (n+2) 6 _ u.nl ln rfl .nothing rfl];exact(kU h.iv h.Fl).mono (by omega)
 |iR=>
  rw[iD g (n+2) 6 _ u.nl ln rfl .nothing rfl];exact(kU h.iv h.Fl).mono (by omega)
 |start nm=>
  have d:mx σ ⟨a,b,.start nm,gM⟩:=E.tag rfl;cases hl:pa mF nm with
  |none=>
   have v:kj ln ⟨a,b,.start nm,gM⟩= .ik 122:=by
    show j5 [((pa mF nm).getD .nil),_,_]=_;rw[hl];rfl
   rw[iD g (n+2) 6 _ u.nl ln rfl _ v];exact(Ma h hw d).mono (by omega)
  |some r=>
   have⟨p,hp,hn,e⟩:=uO hl;have v:r≠ .nil->kj ln ⟨a,b,.start nm,gM⟩=r:=by
    intro B;show j5 [((pa mF nm).getD .nil),_,_]=_;rw[hl];cases r<;>first|rfl|grind
   have go:∀l,r=l->l≠ .nil->RB 360 σ (oo g (ie true (n+2)) (ie g (n+2)) l ⟨a,b,.start nm,gM⟩ σ)->RB 360 σ (ie g (n+3) 6 ⟨a,b,.start nm,gM⟩ σ):=by
    intro l e1 e2 A;rw[iD g (n+2) 6 _ u.nl ln rfl l (by grind)];exact A
   unfold mF at hp;simp only[lf,lr,lu]at hp;rcases hp with rfl|rfl|rfl|rfl|rfl|rfl|rfl|rfl|rfl|rfl|rfl|rfl|rfl|rfl|rfl|rfl|rfl|rfl|rfl|rfl|rfl
   all_goals refine go _ e.symm (by simp) ?_
   all_goals dsimp only at hn
   all_goals first
    |exact(Kz h hw d).mono (by omega)
    |exact(O6 h hw d (LC hn)).mono (by omega)
    |exact(Dy h hw d (by rcases agh hn with e|e<;>(show rY nm=true;rw[e];kernel_rfl))).mono (by omega)
    |exact(O5 h hw d (LC hn)).mono (by omega)
    |exact(O8 h hw d).mono (by omega)
    |exact(KE h hw d).mono (by omega)
    |exact(KD h hw d).mono (by omega)
    |exact(FZ h hw d).mono (by omega)
    |exact(Mc h hw d).mono (by omega)
    |exact(Kv h hw d).mono (by omega)
    |exact(acu h hw d _ (by kernel_rfl)).mono (by omega)
    |exact(O3 h hw d (LC hn)).mono (by omega)
    |exact(Ux h hw d).mono (by omega)
    |exact(Ib h hw d).mono (by omega)
    |exact(Sc h hw d).mono (by omega)
    |exact(L6 h hw d).mono (by omega)
    |exact(kU h.iv h.Fl).mono (by omega)
    |exact(QE h d.fr).mono (by omega)
    |exact(QD h d.fr).mono (by omega)
    |exact(Vg g (n+1) a b nm gM (by have:=Oi hn;grind) h d.fr hw).mono (by omega)
    |skip
 |stop nm=>
  cases hl:pa mD nm with
  |none=>
   have v:kj ln ⟨a,b,.stop nm,gM⟩= .ik 124:=by
    show j5 [((pa mD nm).getD .nil),_,_]=_;rw[hl];rfl
   rw[iD g (n+2) 6 _ u.nl ln rfl _ v];have D:im [fY] nm=false:=JS hl ([fY],.ik 210) (by simp[mD]);exact(Qm h (by
    show nm≠_;rintro rfl;rw[yR]at D;exact ags D rfl)).mono (by omega)
  |some r=>
   have⟨p,hp,hn,e⟩:=uO hl;have v:r≠ .nil->kj ln ⟨a,b,.stop nm,gM⟩=r:=by
    intro B;show j5 [((pa mD nm).getD .nil),_,_]=_;rw[hl];cases r<;>first|rfl|grind
   have go:∀l,r=l->l≠ .nil->RB 360 σ (oo g (ie true (n+2)) (ie g (n+2)) l ⟨a,b,.stop nm,gM⟩ σ)->RB 360 σ (ie g (n+3) 6 ⟨a,b,.stop nm,gM⟩ σ):=by
    intro l e1 e2 A;rw[iD g (n+2) 6 _ u.nl ln rfl l (by grind)];exact A
   unfold mD at hp;simp only[lf,lr,lu]at hp;rcases hp with rfl|rfl|rfl|rfl|rfl|rfl|rfl|rfl|rfl|rfl
   all_goals refine go _ e.symm (by simp) ?_
   all_goals dsimp only at hn
   .exact(N8 h).mono (by omega)
   .exact(Fu (t:=⟨a,b,.stop nm,gM⟩) h hw hn).mono (by omega)
   .exact(TA h).mono (by omega)
   .exact(Qj h hw).mono (by omega)
   .exact(acb h hw).mono (by omega)
   .exact(TC h).mono (by omega)
   .exact(Ly h).mono (by omega)
   .exact(Qi h (by
     show nm≠_;rintro rfl;revert hn;simp[im,la,tJ])).mono (by omega)
   .have C:=LC hn;subst C;show RB 360 σ (zA (ie g (n+2)) ⟨a,b,.stop _,gM⟩ σ);unfold zA;split
    .refine oJ ?_;rw[iD g (n+1) 16 _ u.nl mQ rfl (.ik 155) (by kernel_rfl)];exact⟨(h.mode 16 rfl).iv.nD rfl rfl rfl rfl rfl rfl rfl,⟨h.ne,.inl rfl⟩,⟨rfl,rfl,rfl,rfl,lU _,λ_ h=> .inl h⟩,j7 (nW (jF rfl)) (Ai _ _)⟩
    .exact(kU h.iv h.Fl).mono (by omega)
   .exact(Ty h).mono (by omega)
end
end Go.Proofs.YtlhhgenpcjjajaaGreatDoor
