import Derived.Test.YtccjlklnkhagdaaGreatDoorKept
import Derived.Great.BuildSlice
set_option linter.unusedSimpArgs false
set_option linter.unusedVariables false
set_option linter.defProp false
set_option maxHeartbeats 0
set_option maxRecDepth 100000
namespace Go.Proofs.YtccjlklnkhagdaaGreatDoor
open Go.RowKit Tryz
def zp:=@Array.getElem?_setIfInBounds
def Bj:=@List.length_map
def Uq:=@List.map_reverse
def Zm:=@List.dropWhile_sublist
def QV:=@List.map_map
def Ur:=@Function.comp_def
def Ax:=@List.mem_of_mem_erase
def QW:=@List.map_congr_left
def nf:=@Nat.le_of_eq
def QX:=@Nat.add_sub_cancel
def LX:=@Calls.quiet_of_same
def LY:=@beq_eq_false_iff_ne
def JI:=@List.drop_eq_getElem_cons
def aeu:=@Oper.semAt_some
def Bk:=@wpIn_mono
def Bl:=@grownBy_putObj'
def xk:=@callsIn_wide
def xl:=@callsIn_of_wp_marks
def qu:=@CallsIn.inRound
def NV:=@KeepsOthers.setCell
def oM:=@run_takeDeferred
def Ce:=@if_false
def xm:=@if_true
section
variable {C c : jE} {S : List Nat} {T : List TypeId} {W w w' w0 : gr} {av kv v v0 v1 v2 v3 v4 v5 v6 v7 v8 v9 : gG} {b bB bD base bm bs g i j k n n0 t : Nat} {e ei ej : zz} {f : Nat->Nat} {m pl : Nat×Nat} {old s : gn} {p q : gn->Bool} {r : Ru} {rs : List Ru} {sp : mB} {vs : List gG} {x y : jb} {xs zs : kL}
def Af:mB:={start:=some [([gh,ig,fS,fW,fX,fY,gX],(.ahead 134)),([il,im],(.gZ 133))],stop:=some [([gp,gh,ig,fS,fP,il,im],.nothing),([fW,fX,fY],(.MR (.ahead 134))),([fR],(.ahead 134)),([gX],(.ends 134))],iy:= .pd 7}
def aaX (bm bB bD:Nat) (w:gr) (hb:BD bB bD w) (ht:yh w) (Y:bm < w.heap.size):
  Calls prog 71 #[iq bB] w (jF bm bB bD Af w):=by
 have ac:=@run_makeMap prog;have⟨W0,hW0,HS0⟩:=St.start bm bB bD w ht Y;have⟨wZ,hBl⟩:=hb;have G:=fN hW0;clear hW0;go_enter func71,ntmps71;have⟨W1,b1,hW1,hb1,HS1⟩:=HS0.map;have R:=fN hW1;have H:=fN hb1;clear hW1 hb1;go_wp21;rw[<-G.out];rw[<-R.out,show w.heap.size+1=b1 by rw[H.out,G.out];simp];refine(HS1.nA _ [il,im] (.gZ 133) (by rfl) (by rfl) rfl).mono ?_;rintro e W2 ⟨rfl,J⟩;go_wp21;refine(J.made (nY bm bB bD 134 _) nofun).mono ?_;rintro e W3 ⟨f3,a3,l3,rfl,B⟩;go_wp21;refine(B.nA _ [gh,ig,fS,fW,fX,fY,gX] (.ahead 134) rfl (by rfl) (B.at (by simp))).mono ?_;rintro e W4 ⟨rfl,K⟩;have⟨W5,b2,hW5,hb2,HS5⟩:=K.map;have U:=fN hW5;have I:=fN hb2;clear hW5 hb2;go_wp21;rw[<-U.out,<-I.out];refine(HS5.made (wO bm bB bD 134 _) nofun).mono ?_;rintro e W6 ⟨f6,a6,l6,rfl,D⟩;go_wp21;refine(D.nA _ [gX] (.ends 134) (by rfl) (by rfl) (D.at (by simp))).mono ?_;rintro e W7 ⟨rfl,N⟩;go_wp21;refine(N.made (nY bm bB bD 134 _) nofun).mono ?_;rintro e W8 ⟨f8,a8,l8,rfl,F⟩;go_wp21;refine(F.nA _ [fR] (.ahead 134) (by rfl) (by rfl) (F.at (by simp))).mono ?_;rintro e W9 ⟨rfl,O⟩;go_wp21;refine(O.made (nY bm bB bD 134 _) nofun).mono ?_;rintro e a0 ⟨aa,a7,ad,rfl,h⟩;go_wp21;refine(h.made (Ja bm bB bD (.ahead 134) _ _ (by simp) (h.at (by simp))) nofun).mono ?_;rintro e a1 ⟨ab,a9,ae,rfl,l⟩;go_wp21;refine(l.nA _ [fW,fX,fY] (.MR (.ahead 134)) (by rfl) (by rfl) (l.at (by simp))).mono ?_;rintro e a2 ⟨rfl,z⟩;go_wp21;refine(z.nA _ [gp,gh,ig,fS,fP,il,im] .nothing (by rfl) (by rfl) rfl).mono ?_;rintro e a4 ⟨rfl,A⟩;go_wp21;refine(A.made (pr bm bB bD 7 _) nofun).mono ?_;rintro e a5 ⟨X,V,Z,rfl,d⟩;have HF:=jv (sp:=Af) (v0:= .nilFunc) (v1:= .nilFunc) (v2:= .nilFunc) (v3:= .nilFunc) (v4:= .nilFunc) (v5:= .map (some b1)) (v6:= .map (some b2)) (v7:= .nilFunc) (v8:= .nilFunc) (v9:= .func X V Z) d.g d.k ⟨rfl,rfl,rfl,rfl,rfl,(d.oE (by simp)),(d.oE (by simp)),rfl,rfl,(d.at (r:= .pd 7) (by simp))⟩ _ rfl;have⟨q0,q1,q2,q3,q4,q5,q6,q7,q8,q9⟩:=kg d.g;have u:=gu d.g;go_wp2;exact km results71 rfl rfl HF
def EH:mB:={start:=some [([gh,ig,fS,fW,il,fX,im,fY,gX],(.ahead 135))],stop:=some [([gp,gh,ig,fS,fP],.nothing),([fR,fW,fX,fY,gX],(.MR (.ahead 135))),([il,im],(.MR (.ends 135)))],iy:= .pd 6}
def YJ (bm bB bD:Nat) (w:gr) (hb:BD bB bD w) (ht:yh w) (V:bm < w.heap.size):
  Calls prog 72 #[iq bB] w (jF bm bB bD EH w):=by
 have a3:=@run_makeMap prog;have⟨W0,hW0,HS0⟩:=St.start bm bB bD w ht V;have⟨wZ,hBl⟩:=hb;have G:=fN hW0;clear hW0;go_enter func72,ntmps72;have⟨W1,b1,hW1,hb1,HS1⟩:=HS0.map;have N:=fN hW1;have H:=fN hb1;clear hW1 hb1;go_wp21;rw[<-G.out];rw[<-N.out,show w.heap.size+1=b1 by rw[H.out,G.out];simp];refine(HS1.made (nY bm bB bD 135 _) nofun).mono ?_;rintro e W2 ⟨f2,a2,l2,rfl,z⟩;go_wp21;refine(z.nA _ [gh,ig,fS,fW,il,fX,im,fY,gX] (.ahead 135) rfl (by rfl) (z.at (by simp))).mono ?_;rintro e W3 ⟨rfl,J⟩;have⟨W4,b2,hW4,hb2,HS4⟩:=J.map;have O:=fN hW4;have I:=fN hb2;clear hW4 hb2;go_wp21;rw[<-O.out,<-I.out];refine(HS4.made (wO bm bB bD 135 _) nofun).mono ?_;rintro e W5 ⟨f5,a5,l5,rfl,A⟩;go_wp21;refine(A.made (Ja bm bB bD (.ends 135) _ _ (by simp) (A.at (by simp))) nofun).mono ?_;rintro e W6 ⟨f6,a6,l6,rfl,B⟩;go_wp21;refine(B.nA _ [il,im] (.MR (.ends 135)) (by rfl) (by rfl) (B.at (by simp))).mono ?_;rintro e W7 ⟨rfl,K⟩;go_wp21;refine(K.made (nY bm bB bD 135 _) nofun).mono ?_;rintro e W8 ⟨f8,a8,l8,rfl,D⟩;go_wp21;refine(D.made (Ja bm bB bD (.ahead 135) _ _ (by simp) (D.at (by simp))) nofun).mono ?_;rintro e W9 ⟨f9,a9,l9,rfl,F⟩;go_wp21;refine(F.nA _ [fR,fW,fX,fY,gX] (.MR (.ahead 135)) (by rfl) (by rfl) (F.at (by simp))).mono ?_;rintro e Z ⟨rfl,h⟩;go_wp21;refine(h.nA _ [gp,gh,ig,fS,fP] .nothing (by rfl) (by rfl) rfl).mono ?_;rintro e a0 ⟨rfl,l⟩;go_wp21;refine(l.made (pr bm bB bD 6 _) nofun).mono ?_;rintro e a1 ⟨U,R,X,rfl,d⟩;have Y:=jv (sp:=EH) (v0:= .nilFunc) (v1:= .nilFunc) (v2:= .nilFunc) (v3:= .nilFunc) (v4:= .nilFunc) (v5:= .map (some b1)) (v6:= .map (some b2)) (v7:= .nilFunc) (v8:= .nilFunc) (v9:= .func U R X) d.g d.k ⟨rfl,rfl,rfl,rfl,rfl,(d.oE (by simp)),(d.oE (by simp)),rfl,rfl,(d.at (r:= .pd 6) (by simp))⟩ _ rfl;have⟨q0,q1,q2,q3,q4,q5,q6,q7,q8,q9⟩:=kg d.g;have u:=gu d.g;go_wp2;exact km results72 rfl rfl Y
def Ag:mB:={jW:= .gZ 136,gJ:= .gJ 95 true,start:=some [([jw,jx],(.ahead 140)),([iS],(.ends 140)),([tW],(.gZ 139)),([fU],(.gZ 138)),([gE],(.gZ 137)),([fP],(.pd 6))],stop:=some [([iS],(.ends 140)),([gE],(.gZ 142)),([fU],(.gZ 141))],iy:= .nothing}
def Sw (bm bB bD:Nat) (w:gr) (hb:BD bB bD w) (ht:yh w) (Y:bm < w.heap.size):
  Calls prog 73 #[iq bB] w (jF bm bB bD Ag w):=by
 have ad:=@run_makeMap prog;have⟨W0,hW0,HS0⟩:=St.start bm bB bD w ht Y;have⟨wZ,hBl⟩:=hb;have V:=fN hW0;clear hW0;go_enter func73,ntmps73;go_wp21;rw[<-V.out];refine(HS0.made (oh bm bB bD 95 true _) nofun).mono ?_;rintro e W1 ⟨f1,a1,l1,rfl,J⟩;have⟨W2,b1,hW2,hb1,HS2⟩:=J.map;have X:=fN hW2;have H:=fN hb1;clear hW2 hb1;go_wp21;rw[<-X.out,<-H.out];refine(HS2.made (pr bm bB bD 6 _) nofun).mono ?_;rintro e W3 ⟨f3,a3,l3,rfl,D⟩;go_wp21;refine(D.nA _ [fP] (.pd 6) (by rfl) (by rfl) (D.at (by simp))).mono ?_;rintro e W4 ⟨rfl,K⟩;go_wp21;refine(K.nA _ [gE] (.gZ 137) (by rfl) (by rfl) rfl).mono ?_;rintro e W5 ⟨rfl,N⟩;go_wp21;refine(N.nA _ [fU] (.gZ 138) (by rfl) (by rfl) rfl).mono ?_;rintro e W6 ⟨rfl,O⟩;go_wp21;refine(O.nA _ [tW] (.gZ 139) (by rfl) (by rfl) rfl).mono ?_;rintro e W7 ⟨rfl,R⟩;go_wp21;refine(R.made (wO bm bB bD 140 _) nofun).mono ?_;rintro e W8 ⟨f8,a8,l8,rfl,F⟩;go_wp21;refine(F.nA _ [iS] (.ends 140) (by rfl) (by rfl) (F.at (by simp))).mono ?_;rintro e W9 ⟨rfl,U⟩;go_wp21;refine(U.made (nY bm bB bD 140 _) nofun).mono ?_;rintro e a0 ⟨ab,a9,ae,rfl,h⟩;go_wp21;refine(h.nA _ [jw,jx] (.ahead 140) (by rfl) (by rfl) (h.at (by simp))).mono ?_;rintro e a2 ⟨rfl,z⟩;have⟨W12,b2,hW12,hb2,HS12⟩:=z.map;have G:=fN hW12;have I:=fN hb2;clear hW12 hb2;go_wp21;rw[<-G.out,<-I.out];refine(HS12.nA _ [fU] (.gZ 141) (by rfl) (by rfl) rfl).mono ?_;rintro e a4 ⟨rfl,A⟩;go_wp21;refine(A.nA _ [gE] (.gZ 142) (by rfl) (by rfl) rfl).mono ?_;rintro e a5 ⟨rfl,B⟩;go_wp21;refine(B.made (wO bm bB bD 140 _) nofun).mono ?_;rintro e a6 ⟨ac,aa,af,rfl,l⟩;go_wp21;refine(l.nA _ [iS] (.ends 140) (by rfl) (by rfl) (l.at (by simp))).mono ?_;rintro e a7 ⟨rfl,d⟩;have Z:=jv (sp:=Ag) (v0:= .nilFunc) (v1:= .func (.func 136) #[iq bB] #[]) (v2:= .func f1 a1 l1) (v3:= .nilFunc) (v4:= .nilFunc) (v5:= .map (some b1)) (v6:= .map (some b2)) (v7:= .nilFunc) (v8:= .nilFunc) (v9:= .func (.func 87) #[] #[]) d.g d.k ⟨rfl,rfl,(d.at (r:= .gJ 95 true) (by simp)),rfl,rfl,(d.oE (by simp)),(d.oE (by simp)),rfl,rfl,rfl⟩ _ rfl;have⟨q0,q1,q2,q3,q4,q5,q6,q7,q8,q9⟩:=kg d.g;have u:=gu d.g;go_wp2;exact km results73 rfl rfl Z
def rX:mB:={start:=some [([gh,fR,fW,fX,fY,gX,il,im],(.ahead 140))],stop:=some [([gh,fR,fW,fX,fY,gX,il,im],(.MR (.ahead 140)))],iy:= .pd 14}
def DC (bm bB bD:Nat) (w:gr) (R:BD bB bD w) (V:yh w) (J:bm < w.heap.size):
  Calls prog 74 #[iq bB] w (jF bm bB bD rX w):=by
 have U:=@run_makeMap prog;have⟨W0,hW0,HS0⟩:=St.start bm bB bD w V J;have⟨wZ,hBl⟩:=R;have A:=fN hW0;clear hW0;go_enter func74,ntmps74;have⟨W1,b1,hW1,hb1,HS1⟩:=HS0.map;have H:=fN hW1;have B:=fN hb1;clear hW1 hb1;go_wp21;rw[<-A.out];rw[<-H.out,show w.heap.size+1=b1 by rw[B.out,A.out];simp];refine(HS1.made (nY bm bB bD 140 _) nofun).mono ?_;rintro e Y ⟨f2,a2,l2,rfl,h⟩;go_wp21;refine(h.nA _ [gh,fR,fW,fX,fY,gX,il,im] (.ahead 140) (by rfl) (by rfl) (h.at (by simp))).mono ?_;rintro e Z ⟨rfl,F⟩;have⟨W4,b2,hW4,hb2,HS4⟩:=F.map;have I:=fN hW4;have D:=fN hb2;clear hW4 hb2;go_wp21;rw[<-I.out,<-D.out];refine(HS4.made (nY bm bB bD 140 _) nofun).mono ?_;rintro e W5 ⟨f5,a5,l5,rfl,l⟩;go_wp21;refine(l.made (Ja bm bB bD (.ahead 140) _ _ (by simp) (l.at (by simp))) nofun).mono ?_;rintro e W6 ⟨f6,a6,l6,rfl,z⟩;go_wp21;refine(z.nA _ [gh,fR,fW,fX,fY,gX,il,im] (.MR (.ahead 140)) (by rfl) (by rfl) (z.at (by simp))).mono ?_;rintro e W7 ⟨rfl,G⟩;go_wp21;refine(G.made (pr bm bB bD 14 _) nofun).mono ?_;rintro e W8 ⟨O,N,X,rfl,d⟩;have K:=jv (sp:=rX) (v0:= .nilFunc) (v1:= .nilFunc) (v2:= .nilFunc) (v3:= .nilFunc) (v4:= .nilFunc) (v5:= .map (some b1)) (v6:= .map (some b2)) (v7:= .nilFunc) (v8:= .nilFunc) (v9:= .func O N X) d.g d.k ⟨rfl,rfl,rfl,rfl,rfl,(d.oE (by simp)),(d.oE (by simp)),rfl,rfl,(d.at (r:= .pd 14) (by simp))⟩ _ rfl;have⟨q0,q1,q2,q3,q4,q5,q6,q7,q8,q9⟩:=kg d.g;have u:=gu d.g;go_wp2;exact km results74 rfl rfl K
def mH (z:jE) (d f a:Int) (v:gG) (bD:Nat):jE:=((((z.setIfInBounds 0 (ga d)).setIfInBounds 1 (ga f)).setIfInBounds 2 (ga a)).setIfInBounds 3 v).setIfInBounds 187 (iq bD)
def rO:Tryz.zeroCells176.size=199:=by rfl
def Bc (z:jE) (d f a:Int) (v:gG) (bD:Nat):(mH z d f a v bD).size=z.size:=by
 simp[mH]
theorem wM (z:jE) (d f a:Int) (v:gG) (bD i:Nat) (h:4<=i) (l:i≠187):(mH z d f a v bD)[i]?=z[i]?:=by
 simp only[mH,zp];grind
def xV:List mB:=[{blank:= .nothing,gJ:= .gJ 89 false,iH:= .gZ 90,iy:= .gZ 91},ld,lf,lD,mu,qP,ku,BZ,kJ,yP,qO,oI,Af,EH,Ag,rX,vj,np 89 false]
def nr.one (h:nr bm bB bD r v w):v.oneCell'=true:=by
 by_cases d:r= .nil
 .subst d;have:v= .nilFunc:=h;subst this;rfl
 .obtain⟨f,a,l,rfl⟩:=h.func d;rfl
def ri.one {R : Option (List (List gn×Ru))} (h:ri bm bB bD R v w):v.oneCell'=true:=by
 cases R with
 |none=>have:v= .map none:=h;subst this;rfl
 |some R=>obtain⟨b,L,rfl,_⟩:=h;rfl
def kG.one (h:kG bm bB bD sp v0 v1 v2 v3 v4 v5 v6 v7 v8 v9 w):∀v∈[v0,v1,v2,v3,v4,v5,v6,v7,v8,v9],v.oneCell'=true:=by
 intro v d;simp at d;rcases d with rfl|rfl|rfl|rfl|rfl|rfl|rfl|rfl|rfl|rfl
 .exact h.blank.one
 .exact h.jW.one
 .exact h.gJ.one
 .exact h.iH.one
 .exact h.ie.one
 .exact h.start.one
 .exact h.stop.one
 .exact h.jK.one
 .exact h.j9.one
 .exact h.iy.one
theorem kG.X3 {s : Nat} (h:kG bm bB bD sp v0 v1 v2 v3 v4 v5 v6 v7 v8 v9 w) (d:Kept [s] w w') (l:w.heap[s]?=some (gy c 176)):kG bm bB bD sp v0 v1 v2 v3 v4 v5 v6 v7 v8 v9 w':=
 have f:vE bm w w':=⟨_,d,λk u _=>by
  grind[GK]⟩
 ⟨h.blank.fr f,h.jW.fr f,h.gJ.fr f,h.iH.fr f,h.ie.fr f,h.start.Ip d l f,h.stop.Ip d l f,h.jK.fr f,h.j9.fr f,h.iy.fr f⟩
def Az (bm bB bD:Nat) (d:List gG) (W:gr):Prop:=d.length=180/\∀m sp,xV[m]?=some sp->∃v0 v1 v2 v3 v4 v5 v6 v7 v8 v9,(d.drop (10*m)).take 10=[v0,v1,v2,v3,v4,v5,v6,v7,v8,v9]/\kG bm bB bD sp v0 v1 v2 v3 v4 v5 v6 v7 v8 v9 W
def Az.X3 {d : List gG} {s : Nat} (h:Az bm bB bD d w) (l:Kept [s] w w') (z:w.heap[s]?=some (gy c 176)):Az bm bB bD d w':=by
 refine⟨h.1,λm sp u=>?_⟩;have⟨v0,v1,v2,v3,v4,v5,v6,v7,v8,v9,e,hr⟩:=h.2 m sp u;exact⟨v0,v1,v2,v3,v4,v5,v6,v7,v8,v9,e,hr.X3 l z⟩
section
variable {P:Program} {ops:Array Oper} {rest:List Oper} {o:Oper} {a:Act} {w:gr} {Q:Exit->Act->gr->Prop}
def Aq (z:o.guard=none) (d:Option Tmp) (u:o.dst=d) (v:gG) (A:(execOp a.eval o).run P w= .ok (.value v) w) (h:wpList P ops Q rest (a.put d v) w):wpList P ops Q (o::rest) a w:=by
 subst u;refine wpList_plain z λK l=>?_;unfold Oper.wp;rw[A];exact l _ _ h
end
structure acl (bm bB bD:Nat) (d f a:Int) (av:gG) (w W:gr):Prop where
 k:Kept [] w W
 new:w.heap.size<=bB
 ik:∃c6 cs v1 v2 v3,W.heap[bB]?=some (gy (jj c6 4 cs) 176)/\c6=((((mH Tryz.zeroCells176 d f a av bD).setIfInBounds 184 v1).setIfInBounds 185 v2).setIfInBounds 186 v3)/\Az bm bB bD cs W/\Ask bm v1 kQ W/\Ask bm v2 uw W/\Ask bm v3 iJ W
 wK:W.heap[bD]?=some (gy #[gw kC,jV,.pointer none,jV] 136)
 ne:bD≠bB
 aeX:w.heap.size<=bD
def Wc (d:gr) (bm:Nat) (c:jE) (l:gr) (h:l=((d.alloc (gy #[.map (some bm)] 88)).alloc (gy #[gw kC,jV,.pointer none,jV] 136)).alloc (gy c 176)):
  l.heap[d.heap.size]?=some (gy #[.map (some bm)] 88)/\l.heap[d.heap.size+1]?=some (gy #[gw kC,jV,.pointer none,jV] 136)/\l.heap[d.heap.size+1+1]?=some (gy c 176)/\Kept [] d l:=by
 have⟨h1,h2,h3⟩:=oc d (gy #[.map (some bm)] 88) (gy #[gw kC,jV,.pointer none,jV] 136) (gy c 176);subst h;exact⟨h1,h2,h3,(((Kept.refl _ _).alloc _).alloc _).alloc _⟩
theorem VV {d : gr} (h:gr) (l:h=((d.setCell ⟨bB,184,none⟩ v1).setCell ⟨bB,185,none⟩ v2).setCell ⟨bB,186,none⟩ v3) (u:d.heap[bB]?=some (gy c 176)):h.heap[bB]?=some (gy (((c.setIfInBounds 184 v1).setIfInBounds 185 v2).setIfInBounds 186 v3) 176)/\Kept [bB] d h/\vE bm d h:=by
 have z:=fV u 184 v1;have A:=fV z 185 v2;have D:=fV A 186 v3;have k:Kept [bB] d h:=by
  rw[l];exact(((Kept.refl [bB] d).setCell (p:=⟨bB,184,none⟩) (.inl (by simp)) v1).setCell (p:=⟨bB,185,none⟩) (.inl (by simp)) v2).setCell (p:=⟨bB,186,none⟩) (.inl (by simp)) v3
 refine⟨by grind,k,⟨_,k,λx B _=>?_⟩⟩;have e:=List.mem_singleton.1 B;subst e;exact .inl ⟨_,_,_,u,by decide⟩
def ac7 (d f a:Int) (af:Fn) (aa al:jE) (w:gr) (ht:yh w):
  Calls prog 44 #[.agg #[ga d,ga f,ga a],.func af aa al] w λe W=>∃bm bB bD,e=ir (iq bB)/\acl bm bB bD d f a (.func af aa al) w W:=by
 obtain⟨w0,eX,K0,g0,z0⟩:=sn w (gy #[ga d,ga f,ga a] 64);have HT:=fN ht;have eN:=fN eX;have e0:=fN K0;have em:=fN g0;have fj:=fN z0;clear ht eX K0 g0 z0;go_enter func44,ntmps44;go_wp2_with fail;rw[<-eN.out];refine(Bd _ (HT.out.fr (bm:=0) (.gP e0.out)).1).mono ?_;rintro e W1 ⟨bm,rfl,eW,H,eQ⟩;have g1:=H.at em.out (by simp);have c0:W1.cell? ⟨w.heap.size,0,none⟩=some (ga d):=(fO g1 0).trans rfl;have c1:W1.cell? ⟨w.heap.size,1,none⟩=some (ga f):=(fO g1 1).trans rfl;have c2:W1.cell? ⟨w.heap.size,2,none⟩=some (ga a):=(fO g1 2).trans rfl;have eV:=je g1;have et:=fN eW;have e3:=fN (e0.out.trans H);have f9:=fN eQ;clear eW H eQ g1;go_wp2_with fail;clear c0 c1 c2 eV;obtain⟨W2,e7⟩:∃W,W=((W1.alloc (gy #[.map (some bm)] 88)).alloc (gy #[gw kC,jV,.pointer none,jV] 136)).alloc (gy (mH Tryz.zeroCells176 d f a (.func af aa al) (W1.heap.size+1)) 176):=⟨_,rfl⟩;obtain⟨gC,gD,gB,k2⟩:=Wc W1 bm _ W2 e7;change Code.wp _ _ _ _ (((W1.alloc (gy #[.map (some bm)] 88)).alloc (gy #[gw kC,jV,.pointer none,jV] 136)).alloc (gy (mH Tryz.zeroCells176 d f a (.func af aa al) (W1.heap.size+1)) 176));rw[<-e7];clear e7;obtain⟨bB,eR⟩:∃b,b=W1.heap.size+1+1:=⟨_,rfl⟩;obtain⟨bD,eT⟩:∃b,b=W1.heap.size+1:=⟨_,rfl⟩;obtain⟨bC,eS⟩:∃b,b=W1.heap.size:=⟨_,rfl⟩;rw[<-eR]at gB|-;rw[<-eT]at gB gD|-;rw[<-eS]at gC|-;have I:bC≠bB:=by omega
 have dY:=fN (show bD≠bB by omega);have e4:=fN (show w.heap.size<=bB/\w.heap.size<=bD by have:=e3.out.size;omega);have bI:=fN gC;have ep:=fN gD;have eo:=fN gB;have e5:=fN (et.out.kept k2 (by simp));have eq:=fN (e3.out.trans k2);have eh:=fN (show bm < W2.heap.size by
  obtain⟨es,ck,ha,_⟩:=e5.out;exact(Array.getElem?_eq_some_iff.1 ha).1)
 clear gC gD gB k2 eR eT eS et;have CA:Hid (∀(c:Nat) (W:gr),c < 16->Kept [] W2 W->Calls prog 31 #[.agg #[.map (some bm)],ga c] W λe w'=>(∃v,e=ir v/\Ask bm v (Vi rQ c) w')/\Kept [] W w'):=fN (λc W hc l=>Tf bm c rQ W (e5.out.kept l (by simp)) hc Tt);have fy:W2.cell? ⟨bC,0,none⟩=some (.map (some bm)):=(fO bI.out 0).trans rfl
 go_region_held3 (λw'=>w'.cell? ⟨bC,0,none⟩=some (.map (some bm))) ((first|assumption|go_keep|exact(kK I).trans (by assumption)|exact(kK I).trans ((kK I).trans (by assumption))|exact(kK I).trans ((kK I).trans ((kK I).trans (by assumption))))) ((first|(go_at_call 31;refine(CA.out 2 _ (by decide) (Kept.refl _ _).drew).mono ?_;rintro e W3 ⟨⟨v1,rfl,e9⟩,H⟩;obtain⟨eZ,eY,f1,fC⟩:=e9.func;subst fC;have ee:=fN e9;have bz:Hid (Kept [] W2 W3):=fN (Kept.trans (Kept.refl _ _).drew H);have fz:W3.cell? ⟨bC,0,none⟩=some (.map (some bm)):=(fO (bz.out.at bI.out (by simp)) 0).trans rfl;have el:=fN (vE.gP (bm:=bm) H);clear e9 H)|(go_at_call 31;refine(CA.out 4 _ (by decide) bz.out).mono ?_;rintro e W4 ⟨⟨v2,rfl,ea⟩,ec⟩;obtain⟨fH,fF,fJ,fD⟩:=ea.func;subst fD;have ef:=fN ea;have bA:Hid (Kept [] W2 W4):=fN (Kept.trans bz.out ec);have fA:W4.cell? ⟨bC,0,none⟩=some (.map (some bm)):=(fO (bA.out.at bI.out (by simp)) 0).trans rfl;have dE:=fN (vE.gP (bm:=bm) ec);clear ea ec)|(go_at_call 31;refine(CA.out 8 _ (by decide) bA.out).mono ?_;rintro e W5 ⟨⟨v3,rfl,eb⟩,ed⟩;obtain⟨fI,fG,fK,fE⟩:=eb.func;subst fE;have eg:=fN eb;have D:Hid (Kept [] W2 W5):=fN (Kept.trans bA.out ed);have fB:W5.cell? ⟨bC,0,none⟩=some (.map (some bm)):=(fO (D.out.at bI.out (by simp)) 0).trans rfl;have bH:=fN (vE.gP (bm:=bm) ed);clear eb ed;have G:=fN (D.out.at eo.out (by simp));have f2:W5.cell? ⟨bB,184,none⟩=some .nilFunc:=(fO G.out 184).trans ((wM _ d f a _ bD 184 (by decide) (by decide)).trans (by kernel_rfl));have f5:=gu G.out 184;have f3:W5.cell? ⟨bB,185,none⟩=some .nilFunc:=(fO G.out 185).trans ((wM _ d f a _ bD 185 (by decide) (by decide)).trans (by kernel_rfl));have f7:=gu G.out 185;have f4:W5.cell? ⟨bB,186,none⟩=some .nilFunc:=(fO G.out 186).trans ((wM _ d f a _ bD 186 (by decide) (by decide)).trans (by kernel_rfl));have f8:=gu G.out 186)))
 obtain⟨W6,e8⟩:∃W,W=((W5.setCell ⟨bB,184,none⟩ (.func eZ eY f1)).setCell ⟨bB,185,none⟩ (.func fH fF fJ)).setCell ⟨bB,186,none⟩ (.func fI fG fK):=⟨_,rfl⟩;rw[<-e8];obtain⟨g6,k6,f6⟩:=VV (bm:=bm) W6 e8 G.out;have K6:Kept [] w W6:=(eq.out.trans D.out).next k6 (λx hx=> .inr (by rw[List.mem_singleton.1 hx];exact e4.out.1))
 have A1:=ee.out.fr (dE.out.trans (bH.out.trans f6));have A2:=ef.out.fr (bH.out.trans f6);have A3:=eg.out.fr f6;have eU:W6.heap[bD]?=some (gy #[gw kC,jV,.pointer none,jV] 136):=k6.at (D.out.at ep.out (by simp)) (by have:=dY.out;simpa using this);have dP:bm < W6.heap.size:=mf (mf eh.out D.out.size) k6.size;have u:Hid (∀W,Kept [] W6 W->BD bB bD W/\BS bm bB W/\yh W/\bm < W.heap.size):=by
  have b0:BD bB bD W6:=⟨(fO g6 187).trans (by
   simp only[mH,zp,QQ,rO];rfl),je g6⟩
  have b1:BS bm bB W6:=⟨je g6,.func eZ eY f1,(fO g6 184).trans (by
   simp only[mH,zp,QQ,rO];rfl),A1⟩
  exact fN (λW l=>⟨b0.ib l,b1.ib l,HT.out.fr (.gP (bm:=bm) (K6.trans l)),mf dP l.size⟩)
 have dy:=fN (And.intro A1 (And.intro A2 A3));have en:=fN g6;have er:=fN K6;have ek:=fN eU;have dD:=fN e4.out;have dZ:=fN dY.out;have dz:Hid (Kept [] W6 W6):=fN (Kept.refl _ _);clear e8 g6 k6 f6 K6 A1 A2 A3 eU dP fy fz fA fB f2 f3 f4 f5 f7 f8 G bz bA D el dE bH ee ef eg bI ep eo e5 eq eh f9 e3 eN e0 em fj HT CA I dY e4;go_wp2_with fail;refine(VL bm bB bD _ (u.out _ dz.out).1 (u.out _ dz.out).2.2.1 (u.out _ dz.out).2.2.2).mono ?_;rintro e W7 ⟨bM,bN,bO,bP,bQ,bR,bS,bT,bU,bW,rfl,A,l⟩;have eC:=fN A;have dA:=fN (dz.out.trans l);have fL:=fN l;clear A l;go_wp2_with fail;refine(Np bm bB bD _ (u.out _ dA.out).1 (u.out _ dA.out).2.2.1 (u.out _ dA.out).2.2.2).mono ?_;rintro e W8 ⟨bX,bY,bZ,c3,c4,c5,c6,c7,c8,c9,rfl,A,l⟩;have eD:=fN A;have dB:=fN (dA.out.trans l);have fa:=fN l;clear A l;go_wp2_with fail;refine(Nq bm bB bD _ (u.out _ dB.out).1 (u.out _ dB.out).2.2.1 (u.out _ dB.out).2.2.2).mono ?_;rintro e W9 ⟨ca,cb,cc,cf,cg,ch,ci,cj,cl,cm,rfl,A,l⟩;have eE:=fN A;have bg:=fN (dB.out.trans l);have fb:=fN l;clear A l;go_wp2_with fail;refine(YK bm bB bD _ (u.out _ bg.out).1 (u.out _ bg.out).2.2.1 (u.out _ bg.out).2.2.2).mono ?_;rintro e fk ⟨cn,co,cp,cq,cr,ct,cu,cv,cw,cx,rfl,A,l⟩;have eF:=fN A;have bh:=fN (bg.out.trans l);have fc:=fN l;clear A l;go_wp2_with fail;refine(PS bm bB bD _ (u.out _ bh.out).1 (u.out _ bh.out).2.2.1 (u.out _ bh.out).2.2.2).mono ?_;rintro e fl ⟨cy,cz,cA,cB,cC,cD,cE,cF,cG,cH,rfl,A,l⟩;have eG:=fN A;have bi:=fN (bh.out.trans l);have fd:=fN l;clear A l;go_wp2_with fail;refine(YL bm bB bD _ (u.out _ bi.out).1 (u.out _ bi.out).2.2.1 (u.out _ bi.out).2.2.2).mono ?_;rintro e fm ⟨cI,cJ,cK,cL,cM,cN,cO,cP,cQ,cR,rfl,A,l⟩;have eH:=fN A;have bj:=fN (bi.out.trans l);have fe:=fN l;clear A l;go_wp2_with fail;refine(YI bm bB bD _ (u.out _ bj.out).2.1 (u.out _ bj.out).2.2.1 (u.out _ bj.out).2.2.2).mono ?_;rintro e fn ⟨cS,cT,cU,cV,cW,cX,cY,cZ,d0,d1,rfl,A,l⟩;have eI:=fN A;have bk:=fN (bj.out.trans l);have ff:=fN l;clear A l;go_wp2_with fail;refine(VK bm bB bD _ (u.out _ bk.out).1 (u.out _ bk.out).2.2.1 (u.out _ bk.out).2.2.2).mono ?_;rintro e fo ⟨d2,d3,d4,d5,d6,d7,d8,d9,da,db,rfl,A,l⟩;have eJ:=fN A;have bl:=fN (bk.out.trans l);have fg:=fN l;clear A l;go_wp2_with fail;refine(Ku bm bB bD _ (u.out _ bl.out).1 (u.out _ bl.out).2.2.1 (u.out _ bl.out).2.2.2).mono ?_;rintro e fp ⟨dc,dd,de,df,dg,dh,di,dj,dk,dl,rfl,A,l⟩;have eK:=fN A;have bn:=fN (bl.out.trans l);have fh:=fN l;clear A l;go_wp2_with fail;refine(PT bm bB bD _ (u.out _ bn.out).1 (u.out _ bn.out).2.2.1 (u.out _ bn.out).2.2.2).mono ?_;rintro e fq ⟨dm,dp,dq,dr,ds,dt,du,dv,dw,dx,rfl,A,l⟩;have eL:=fN A;have bo:=fN (bn.out.trans l);have fi:=fN l;clear A l;go_wp2_with fail;refine(Gj bm bB bD _ (u.out _ bo.out).1 (u.out _ bo.out).2.2.1 (u.out _ bo.out).2.2.2).mono ?_;rintro e fr ⟨J,K,N,O,R,U,V,X,Y,Z,rfl,A,l⟩;have dG:=fN A;have bp:=fN (bo.out.trans l);have eu:=fN l;clear A l;go_wp2_with fail;refine(Kt bm bB bD _ (u.out _ bp.out).1 (u.out _ bp.out).2.2.1 (u.out _ bp.out).2.2.2).mono ?_;rintro e fs ⟨a0,a1,a2,a3,a4,a5,a6,a7,a8,a9,rfl,A,l⟩;have dH:=fN A;have bq:=fN (bp.out.trans l);have ev:=fN l;clear A l;go_wp2_with fail;refine(aaX bm bB bD _ (u.out _ bq.out).1 (u.out _ bq.out).2.2.1 (u.out _ bq.out).2.2.2).mono ?_;rintro e ft ⟨ab,ac,ad,ae,ag,ah,ai,aj,ak,am,rfl,A,l⟩;have dJ:=fN A;have br:=fN (bq.out.trans l);have ew:=fN l;clear A l;go_wp2_with fail;refine(YJ bm bB bD _ (u.out _ br.out).1 (u.out _ br.out).2.2.1 (u.out _ br.out).2.2.2).mono ?_;rintro e fu ⟨an,ao,ap,aq,ar,au,aw,ax,ay,az,rfl,A,l⟩;have dK:=fN A;have bt:=fN (br.out.trans l);have ex:=fN l;clear A l;go_wp2_with fail;refine(Sw bm bB bD _ (u.out _ bt.out).1 (u.out _ bt.out).2.2.1 (u.out _ bt.out).2.2.2).mono ?_;rintro e fv ⟨aA,aB,aC,aD,aE,aF,aG,aH,aI,aJ,rfl,A,l⟩;have dL:=fN A;have bu:=fN (bt.out.trans l);have ey:=fN l;clear A l;go_wp2_with fail;refine(DC bm bB bD _ (u.out _ bu.out).1 (u.out _ bu.out).2.2.1 (u.out _ bu.out).2.2.2).mono ?_;rintro e fw ⟨aK,aL,aM,aN,aO,aP,aQ,aR,aS,aT,rfl,A,l⟩;have dM:=fN A;have bv:=fN (bu.out.trans l);have ez:=fN l;clear A l;go_wp2_with fail;refine(PR bm bB bD _ (u.out _ bv.out).1 (u.out _ bv.out).2.2.1 (u.out _ bv.out).2.2.2).mono ?_;rintro e fx ⟨aU,aV,aW,aX,aY,aZ,b2,b3,b4,b5,rfl,A,l⟩;have dN:=fN A;have bw:=fN (bv.out.trans l);have eA:=fN l;clear A l;go_wp2_with fail;refine(EA bm bB bD _ (u.out _ bw.out).1 (u.out _ bw.out).2.2.1 (u.out _ bw.out).2.2.2).mono ?_;rintro e z ⟨b6,b7,b8,b9,ba,bb,bc,bd,be,bf,rfl,A,l⟩;have dO:=fN A;have bx:=fN (bw.out.trans l);have eB:=fN l;clear A l;have dX:Kept [] z z:=Kept.refl _ _;have dW:Kept [] fx z:=eB.out.trans dX;have dV:Kept [] fw z:=eA.out.trans dW;have dU:Kept [] fv z:=ez.out.trans dV;have dT:Kept [] fu z:=ey.out.trans dU;have dS:Kept [] ft z:=ex.out.trans dT;have dR:Kept [] fs z:=ew.out.trans dS;have dQ:Kept [] fr z:=ev.out.trans dR;have E9:Kept [] fq z:=eu.out.trans dQ;have E8:Kept [] fp z:=fi.out.trans E9;have E7:Kept [] fo z:=fh.out.trans E8;have E6:Kept [] fn z:=fg.out.trans E7;have E5:Kept [] fm z:=ff.out.trans E6;have E4:Kept [] fl z:=fe.out.trans E5;have E3:Kept [] fk z:=fd.out.trans E4;have E2:Kept [] W9 z:=fc.out.trans E3;have E1:Kept [] W8 z:=fb.out.trans E2;have E0:Kept [] W7 z:=fa.out.trans E1;obtain⟨cs,bG⟩:∃c:List gG,c=[bM,bN,bO,bP,bQ,bR,bS,bT,bU,bW,bX,bY,bZ,c3,c4,c5,c6,c7,c8,c9,ca,cb,cc,cf,cg,ch,ci,cj,cl,cm,cn,co,cp,cq,cr,ct,cu,cv,cw,cx,cy,cz,cA,cB,cC,cD,cE,cF,cG,cH,cI,cJ,cK,cL,cM,cN,cO,cP,cQ,cR,cS,cT,cU,cV,cW,cX,cY,cZ,d0,d1,d2,d3,d4,d5,d6,d7,d8,d9,da,db,dc,dd,de,df,dg,dh,di,dj,dk,dl,dm,dp,dq,dr,ds,dt,du,dv,dw,dx,J,K,N,O,R,U,V,X,Y,Z,a0,a1,a2,a3,a4,a5,a6,a7,a8,a9,ab,ac,ad,ae,ag,ah,ai,aj,ak,am,an,ao,ap,aq,ar,au,aw,ax,ay,az,aA,aB,aC,aD,aE,aF,aG,aH,aI,aJ,aK,aL,aM,aN,aO,aP,aQ,aR,aS,aT,aU,aV,aW,aX,aY,aZ,b2,b3,b4,b5,b6,b7,b8,b9,ba,bb,bc,bd,be,bf]:=⟨_,rfl⟩;have HC:=fN bG;have e6:Hid (Az bm bB bD cs z):=by
  refine fN ⟨by rw[bG];rfl,?_⟩;rw[bG];intro m sp F;have eV:m < 18:=(List.getElem?_eq_some_iff.1 F).1;obtain rfl|rfl|rfl|rfl|rfl|rfl|rfl|rfl|rfl|rfl|rfl|rfl|rfl|rfl|rfl|rfl|rfl|rfl:m=0\/m=1\/m=2\/m=3\/m=4\/m=5\/m=6\/m=7\/m=8\/m=9\/m=10\/m=11\/m=12\/m=13\/m=14\/m=15\/m=16\/m=17:=by omega
  .have e:=jz F;subst e;exact⟨_,_,_,_,_,_,_,_,_,_,rfl,eC.out.ib E0⟩
  .have e:=jz F;subst e;exact⟨_,_,_,_,_,_,_,_,_,_,rfl,eD.out.ib E1⟩
  .have e:=jz F;subst e;exact⟨_,_,_,_,_,_,_,_,_,_,rfl,eE.out.ib E2⟩
  .have e:=jz F;subst e;exact⟨_,_,_,_,_,_,_,_,_,_,rfl,eF.out.ib E3⟩
  .have e:=jz F;subst e;exact⟨_,_,_,_,_,_,_,_,_,_,rfl,eG.out.ib E4⟩
  .have e:=jz F;subst e;exact⟨_,_,_,_,_,_,_,_,_,_,rfl,eH.out.ib E5⟩
  .have e:=jz F;subst e;exact⟨_,_,_,_,_,_,_,_,_,_,rfl,eI.out.ib E6⟩
  .have e:=jz F;subst e;exact⟨_,_,_,_,_,_,_,_,_,_,rfl,eJ.out.ib E7⟩
  .have e:=jz F;subst e;exact⟨_,_,_,_,_,_,_,_,_,_,rfl,eK.out.ib E8⟩
  .have e:=jz F;subst e;exact⟨_,_,_,_,_,_,_,_,_,_,rfl,eL.out.ib E9⟩
  .have e:=jz F;subst e;exact⟨_,_,_,_,_,_,_,_,_,_,rfl,dG.out.ib dQ⟩
  .have e:=jz F;subst e;exact⟨_,_,_,_,_,_,_,_,_,_,rfl,dH.out.ib dR⟩
  .have e:=jz F;subst e;exact⟨_,_,_,_,_,_,_,_,_,_,rfl,dJ.out.ib dS⟩
  .have e:=jz F;subst e;exact⟨_,_,_,_,_,_,_,_,_,_,rfl,dK.out.ib dT⟩
  .have e:=jz F;subst e;exact⟨_,_,_,_,_,_,_,_,_,_,rfl,dL.out.ib dU⟩
  .have e:=jz F;subst e;exact⟨_,_,_,_,_,_,_,_,_,_,rfl,dM.out.ib dV⟩
  .have e:=jz F;subst e;exact⟨_,_,_,_,_,_,_,_,_,_,rfl,dN.out.ib dW⟩
  .have e:=jz F;subst e;exact⟨_,_,_,_,_,_,_,_,_,_,rfl,dO.out.ib dX⟩
 have dF:Hid (cs.toArray.all (·.oneCell')=true):=by
  refine fN (all_oneCell_toArray ?_);rw[bG,show[bM,bN,bO,bP,bQ,bR,bS,bT,bU,bW,bX,bY,bZ,c3,c4,c5,c6,c7,c8,c9,ca,cb,cc,cf,cg,ch,ci,cj,cl,cm,cn,co,cp,cq,cr,ct,cu,cv,cw,cx,cy,cz,cA,cB,cC,cD,cE,cF,cG,cH,cI,cJ,cK,cL,cM,cN,cO,cP,cQ,cR,cS,cT,cU,cV,cW,cX,cY,cZ,d0,d1,d2,d3,d4,d5,d6,d7,d8,d9,da,db,dc,dd,de,df,dg,dh,di,dj,dk,dl,dm,dp,dq,dr,ds,dt,du,dv,dw,dx,J,K,N,O,R,U,V,X,Y,Z,a0,a1,a2,a3,a4,a5,a6,a7,a8,a9,ab,ac,ad,ae,ag,ah,ai,aj,ak,am,an,ao,ap,aq,ar,au,aw,ax,ay,az,aA,aB,aC,aD,aE,aF,aG,aH,aI,aJ,aK,aL,aM,aN,aO,aP,aQ,aR,aS,aT,aU,aV,aW,aX,aY,aZ,b2,b3,b4,b5,b6,b7,b8,b9,ba,bb,bc,bd,be,bf]=[bM,bN,bO,bP,bQ,bR,bS,bT,bU,bW]++([bX,bY,bZ,c3,c4,c5,c6,c7,c8,c9]++([ca,cb,cc,cf,cg,ch,ci,cj,cl,cm]++([cn,co,cp,cq,cr,ct,cu,cv,cw,cx]++([cy,cz,cA,cB,cC,cD,cE,cF,cG,cH]++([cI,cJ,cK,cL,cM,cN,cO,cP,cQ,cR]++([cS,cT,cU,cV,cW,cX,cY,cZ,d0,d1]++([d2,d3,d4,d5,d6,d7,d8,d9,da,db]++([dc,dd,de,df,dg,dh,di,dj,dk,dl]++([dm,dp,dq,dr,ds,dt,du,dv,dw,dx]++([J,K,N,O,R,U,V,X,Y,Z]++([a0,a1,a2,a3,a4,a5,a6,a7,a8,a9]++([ab,ac,ad,ae,ag,ah,ai,aj,ak,am]++([an,ao,ap,aq,ar,au,aw,ax,ay,az]++([aA,aB,aC,aD,aE,aF,aG,aH,aI,aJ]++([aK,aL,aM,aN,aO,aP,aQ,aR,aS,aT]++([aU,aV,aW,aX,aY,aZ,b2,b3,b4,b5]++([b6,b7,b8,b9,ba,bb,bc,bd,be,bf])))))))))))))))))from rfl];simp only[List.mem_append];rintro v (h|h|h|h|h|h|h|h|h|h|h|h|h|h|h|h|h|h)
  .exact eC.out.one v h
  .exact eD.out.one v h
  .exact eE.out.one v h
  .exact eF.out.one v h
  .exact eG.out.one v h
  .exact eH.out.one v h
  .exact eI.out.one v h
  .exact eJ.out.one v h
  .exact eK.out.one v h
  .exact eL.out.one v h
  .exact dG.out.one v h
  .exact dH.out.one v h
  .exact dJ.out.one v h
  .exact dK.out.one v h
  .exact dL.out.one v h
  .exact dM.out.one v h
  .exact dN.out.one v h
  .exact dO.out.one v h
 have B:=fN (bx.out.at en.out (by simp));have eM:Hid (z.there bB 4 cs.toArray.size):=by
  refine fN (λj hj=>⟨?_,gu B.out _⟩);have:cs.toArray.size=180:=by rw[bG];rfl
  rw[fO B.out,wu (by simp only[QQ,Bc,rO];omega)];rfl
 clear E0 E1 E2 E3 E4 E5 E6 E7 E8 E9 dQ dR dS dT dU dV dW dX;rename_i KK bJ;refine bJ _ _ ?_;clear bJ;refine wpList_buildTo rfl 169 _ rfl _ rfl cs.toArray (by rw[HC.out];kernel_rfl) ?_;clear HC bG;refine Aq rfl _ rfl (iq bB) (by kernel_rfl) ?_;refine Aq rfl _ rfl (lK bB 4) (by kernel_rfl) ?_;refine wpList_store_mid rfl 169 _ _ rfl bB 4 cs.toArray rfl rfl eM.out (by rw[show cs.toArray.size=180 from e6.out.1];kernel_rfl) dF.out ?_;obtain⟨bF,bE⟩:∃W,W=z.setCells bB 4 cs.toArray.toList:=⟨_,rfl⟩;rw[<-bE];have bL:Kept [bB] z bF:=by rw[bE];exact Kept.setCells (.inl (by simp)) _ _ (Kept.refl _ _)
 have eP:vE bm z bF:=⟨_,bL,λx hx _=>by
  have e:=List.mem_singleton.1 hx;subst e;exact .inl ⟨_,_,_,B.out,by decide⟩⟩
 have eO:Kept [] w bF:=(er.out.trans bx.out).next bL (λx hx=> .inr (by rw[List.mem_singleton.1 hx];exact dD.out.1))
 have bK:=j5 cs z bB _ _ _ 4 B.out;rw[show z.setCells bB 4 cs=bF from bE.symm]at bK;have FN:Hid (acl bm bB bD d f a (.func af aa al) w bF):=by
  have f6:vE bm W6 bF:=(vE.gP bx.out).trans eP;exact fN ⟨eO,dD.out.1,⟨_,cs,_,_,_,bK,rfl,e6.out.X3 bL B.out,dy.out.1.fr f6,dy.out.2.1.fr f6,dy.out.2.2.fr f6⟩,bL.at (bx.out.at ek.out (by simp)) (by have:=dZ.out;simpa using this),dZ.out,dD.out.2⟩
 clear bL eP eO bK bE e6 dF B eM dy en er ek dD dZ u;generalize Value.agg cs.toArray=fM;rename_i KK bJ;refine bJ _ _ ?_;clear bJ;simp only[Act.put,List.setIfInBounds_toArray,List.set_cons_zero,List.set_cons_succ];go_wp2;go_ret;exact⟨bm,bB,bD,rfl,FN.out⟩
structure Loc where
 gH:Nat->Nat
 av:Nat->gG
 kv:Nat->gG
 ov:gG
 cv:gG
 wv:gG
structure Env where
 bm:Nat
 bB:Nat
 bR:Nat
 C0:jE
 R0:jE
 Eh:Nat
 w0:gr
 tv:gG
 ta:lh
 bs:Nat
 wv:Option (gG×List (Nat×Nat×gn)):=none
variable {E : Env}
def Nd.map (f:Nat->Nat):Nd->Nd
 | .el k=> .el (f k)
 | .tx k=> .tx (f k)
 | .cm k=> .cm (f k)
 | .dt k=> .dt (f k)
abbrev iw (f:Nat->Nat) (x:jb):jb:=x.map f
def flat (gx:lh):List gG:=gx.flatMap λa=>[gw a.1,gw a.2]
abbrev yi (w:gr) (v:gG) (gx:lh):Prop:=w.ownsRow 0 295 2 v gx.length (flat gx)
abbrev Mu (x:Nat×Nat×gn):gG:= .iface 184 (.agg #[ga x.1,ga x.2.1,gw x.2.2])
def kM (bs:Nat) (L:Loc) (w:gr) (i:Nat):A0->Prop
 | .el e=>El bs w (L.gH i) e.name (L.av i) (iw L.gH e.ja) (L.kv i) (e.kids.map (Nd.map L.gH))/\yi w (L.av i) e.gM/\e.gM.length<=4096
 | .tx s=>w.heap[L.gH i]?=some (gy #[gw s] 280)
 | .cm s=>w.heap[L.gH i]?=some (gy #[gw s] 235)
 | .dt s=>w.heap[L.gH i]?=some (gy #[gw s] 239)
structure jq (E:Env) (L:Loc) (σ:Ab) (C:jE):Prop where
 size:C.size=199
 low:∀i,i < 188->C[i]?=E.C0[i]?
 gq:C[188]?=some L.ov
 act:C[189]?=some L.cv
 head:C[190]?=some (jY (iw L.gH σ.head))
 form:C[191]?=some (jY (iw L.gH σ.form))
 mode:C[192]?=some (ga σ.mode)
 kept:C[193]?=some (ga σ.kept)
 wait:C[194]?=some L.wv
 H6:C[195]?=some (.bool σ.iL)
 jB:C[196]?=some (.bool σ.jB)
 gH:C[197]?=some (ga σ.gH)
 behind:C[198]?=some (.bool σ.behind)
structure N5 (E:Env) (bD:Nat):Prop where
 FY:∃cs,(∀k,k < 180->E.C0[4+k]?=cs[k]?)/\Az E.bm E.bB bD cs E.w0
 txt:E.C0[3]?=some (.func (.func 45) #[gF E.bR] #[])
 spec:∃v,E.C0[184]?=some v/\Ask E.bm v kQ E.w0
 Ve:∃v,E.C0[185]?=some v/\Ask E.bm v uw E.w0
 UP:∃v,E.C0[186]?=some v/\Ask E.bm v iJ E.w0
 wK:E.C0[187]?=some (gF bD)
structure Rel (E:Env) (L:Loc) (σ:Ab) (w:gr):Prop where
 fr:Fr E.bs E.w0 w
 env:N5 E (L.gH 0)
 Dt:E.C0[0]?=some (ga σ.pL)/\E.C0[1]?=some (ga σ.qH)/\E.C0[2]?=some (ga σ.oO)/\σ.pL<=64/\σ.qH<=32/\σ.oO<=16
 su:∀i nd,σ.nodes[i]?=some nd->kM E.bs L w i nd
 inj:∀i j,L.gH i=L.gH j->i=j
 AL:∀i j g,i < σ.nodes.length->j < σ.nodes.length->i≠j->(L.kv i).ownBlock=some g->(L.kv j).ownBlock≠some g
 FJ:∀i,i < σ.nodes.length->σ.gV i=none->(L.kv i).ownBlock=none
 uq:∀i j e g,σ.gV i=some e->nh e.name=true->j < σ.nodes.length->i≠j->(L.av i).ownBlock=some g->(L.av j).ownBlock≠some g
 D0:∀i,i < σ.nodes.length->σ.gV i=none->(L.av i).ownBlock=none
 wf:Wf σ
 ik:∃C,w.heap[E.bB]?=some (gy C 176)/\jq E L σ C
 oP:w.ownsRow E.bs 65 1 L.ov σ.gq.length (σ.gq.map λx=>jY (iw L.gH x))
 pR:w.ownsRow E.bs 65 1 L.cv σ.act.length (σ.act.map λx=>jY (iw L.gH x))
 FP:∀g,L.ov.ownBlock=some g->L.cv.ownBlock≠some g
 wC:σ.gq.length<=4096
 D7:σ.act.length<=4096
 oL:w.ownsRow E.bs 121 1 L.wv σ.waiting.length (σ.waiting.map Mu)
 KJ:σ.waiting.length<=4096
 rd:w.heap[E.bR]?=some (gy ((E.R0.setIfInBounds E.Eh (gw σ.nD)).setIfInBounds (E.Eh+1) (.bool σ.iX)) 161)
 P9:E.Eh+1 < E.R0.size
 tok:yi w E.tv E.ta
 KG:E.ta.length<=4096
 bz:E.bs<=E.w0.heap.size
 bB:E.bs<=E.bB
 bR:E.bs<=E.bR
 bN:∀i,i < σ.nodes.length->E.bs<=L.gH i
 Ck:σ.fresh=true->∀i g,i < σ.nodes.length->E.tv.ownBlock=some g->(L.av i).ownBlock≠some g
 ab:∀i g,i < σ.nodes.length->(L.av i).ownBlock=some g->E.bs<=g
 tb:∀g,E.tv.ownBlock=some g->E.bs<=g
 KI:∀p,E.wv=some p->L.wv=p.1/\σ.waiting=p.2
def KT (bs:Nat) (T:List TypeId) (w w':gr):Prop:=∃S,Kept S w w'/\∀k∈S,k < w.heap.size->(∃c t m,w.heap[k]?=some (.cells c t m)/\t∈T)/\bs<=k
def KT.size (h:KT bs T w w'):w.heap.size<=w'.heap.size:=by have⟨S,hk,_⟩:=h;exact hk.size
def KT.jC (h:Kept S w w') (d:∀k∈S,k < w.heap.size->(∃c t m,w.heap[k]?=some (.cells c t m)/\t∈T)/\bs<=k):KT bs T w w':=⟨S,h,d⟩
def KT.gP (h:Kept [] w w'):KT bs T w w':=⟨[],h,λ_ d=>by cases d⟩
theorem KT.mono {d : List TypeId} (h:KT bs T w w') (l:∀t∈T,t∈d):KT bs d w w':=by
 grind[KT]
def KT.fr (h:KT bs T w w') (d:∀t∈T,t∈Uv):Fr bs w w':=h.mono d
theorem KT.at (h:KT bs T w w') {t : TypeId} (d:w.heap[g]?=some (.cells c t m)) (u:t∉T):w'.heap[g]?=some (.cells c t m):=by
 have⟨S,hk,hS⟩:=h;refine hk.at d λl=>?_;grind
theorem KT.row (h:KT bs T w w') {e : TypeId} {d : Nat} {xs : List gG} (z:w.ownsRow base e d v n xs) (F:e∉T):w'.ownsRow base e d v n xs:=by
 refine⟨z.1,?_⟩;rcases z.2 with G|⟨g,l,u,rfl,A,B,D⟩
 .grind
 .exact .inr ⟨g,l,u,rfl,A,h.at B F,D⟩
theorem rL {e : TypeId} {d : Nat} {xs : List gG} (z:w.ownsRow base e d v n xs) (h:v.ownBlock=some g):∃c m,w.heap[g]?=some (.cells c e m):=by
 rcases z.2 with⟨e1,_⟩|⟨A,l,u,rfl,_,B,_⟩
 .rw[e1]at h;cases h
 .obtain rfl:=jz h;grind
theorem BU {e : TypeId} {d : Nat} {xs : List gG} (u:w.ownsRow base e d v n xs) {t : TypeId} (z:w.heap[b]?=some (.cells c t m)) (A:t≠e):v.ownBlock≠some b:=by
 intro l;have⟨c',m',h⟩:=rL u l;grind
def BT {e : TypeId} {d : Nat} {xs : List gG} (l:w.ownsRow base e d v n xs) (h:v.ownBlock=some g):g < w.heap.size:=(l.lt g h).2
def S5:List TypeId:=[136,138,280,235,239,295]
def kM.kt {u : Nat} {L:Loc} {nd:A0} (h:kM u L w i nd) (l:KT bs T w w') (d:∀t∈S5,t∉T):kM u L w' i nd:=by
 cases nd with
 |el e=>exact⟨⟨l.at h.1.ik (d _ (by decide)),l.row h.1.row (d _ (by decide)),h.1.le,h.1.Tg⟩,l.row h.2.1 (d _ (by decide)),h.2.2⟩
 |tx s=>exact l.at h (d _ (by decide))
 |cm s=>exact l.at h (d _ (by decide))
 |dt s=>exact l.at h (d _ (by decide))
def kM.kept {L:Loc} {nd:A0} (h:kM bs L w i nd) (d:Kept S w w') (l:L.gH i∉S) (u:∀g,(L.kv i).ownBlock=some g->g∉S) (z:∀g,(L.av i).ownBlock=some g->g∉S):kM bs L w' i nd:=by
 cases nd with
 |el e=>exact⟨h.1.kept d l u,d.ownsRow h.2.1 z,h.2.2⟩
 |tx s=>exact d.at h l
 |cm s=>exact d.at h l
 |dt s=>exact d.at h l
def A0.typ:A0->TypeId
 | .el _=>136
 | .tx _=>280
 | .cm _=>235
 | .dt _=>239
variable {nd : A0}
def kM.typ {L:Loc} (h:kM bs L w i nd):∃c,w.heap[L.gH i]?=some (gy c nd.typ):=by
 cases nd with
 |el e=>exact⟨_,h.1.ik⟩
 |tx s=>exact⟨_,h⟩
 |cm s=>exact⟨_,h⟩
 |dt s=>exact⟨_,h⟩
theorem ry (d:∀i j,f i=f j->i=j) (h:iw f x=iw f y):x=y:=by
 cases x<;>cases y<;>simp_all[iw];grind
theorem xH (f:Nat->Nat) (xs:kL) (n:Int):io (xs.map (iw f)) n=iw f (io xs n):=by
 grind[io]
theorem AJ (d:∀i j,f i=f j->i=j) (x:jb):∀xs:kL,(xs.map (iw f)).idxOf (iw f x)=xs.idxOf x
 |[]=>rfl
 |y::xs=>by
  rw[y8,List.idxOf_cons,List.idxOf_cons,AJ d x xs];by_cases h:y=x
  .grind
  .have l:iw f y≠iw f x:=λe=>h (ry d e);grind
def LA (d:∀i j,f i=f j->i=j) (xs:kL) (x:jb):posOf (xs.map (iw f)) (iw f x)=posOf xs x:=by
 unfold posOf;rw[AJ d,Bj]
theorem mem_map (d:∀i j,f i=f j->i=j) (xs:kL) (x:jb):iw f x∈xs.map (iw f)↔x∈xs:=by
 constructor
 .intro h;have⟨y,hy,e⟩:=List.mem_map.1 h;rw[<-ry d e];exact hy
 grind
theorem vo (d:∀i j,f i=f j->i=j) (x:jb):∀xs:kL,(xs.map (iw f)).erase (iw f x)=(xs.erase x).map (iw f)
 |[]=>rfl
 |y::xs=>by
  rw[y8,List.erase_cons,List.erase_cons,vo d x xs];by_cases h:y=x
  .grind
  .have l:iw f y≠iw f x:=λe=>h (ry d e);grind
def I5 (d:∀i j,f i=f j->i=j) (xs:kL) (x y:jb):pI (xs.map (iw f)) (iw f x) (iw f y)=(pI xs x y).map (iw f):=by
 unfold pI;rw[AJ d];by_cases h:x∈xs
 .rw[gN h,gN ((mem_map d xs x).2 h),List.map_set]
 .rw[gI h,gI (λe=>h ((mem_map d xs x).1 e))]
def Bf (d:∀i j,f i=f j->i=j) (xs:kL) (x y:jb):iV (xs.map (iw f)) (iw f x) (iw f y)=(iV xs x y).map (iw f):=by
 unfold iV;rw[AJ d];by_cases h:x∈xs
 .rw[gN h,gN ((mem_map d xs x).2 h)];simp
 .rw[gI h,gI (λe=>h ((mem_map d xs x).1 e))]
theorem Ly (l:∀i j,f i=f j->i=j) (xs:kL) (x:jb):nW (xs.map (iw f)) (iw f x)=(nW xs x).map (iw f):=by
 have h:∀d:kL,(d.map (iw f)).dropWhile (·≠iw f x)=(d.dropWhile (·≠x)).map (iw f):=by
  intro d
  induction d with
  |nil=>rfl
  |cons y d ih=>
   rw[y8,List.dropWhile_cons,List.dropWhile_cons];by_cases h:y=x
   .grind
   .have u:iw f y≠iw f x:=λe=>h (ry l e);grind
 unfold nW;rw[<-Uq,h];simp
theorem jq.abb {L:Loc} {σ:Ab} (h:jq E L σ C) (v:gG) (zs:kL):jq E {L with ov:=v} {σ with gq:=zs} (C.setIfInBounds 188 v):=by
 cases h;constructor<;>grind
theorem jq.aba {L:Loc} {σ:Ab} (h:jq E L σ C) (v:gG) (zs:kL):jq E {L with cv:=v} {σ with act:=zs} (C.setIfInBounds 189 v):=by
 cases h;constructor<;>grind
theorem jq.xS {L:Loc} {σ:Ab} (h:jq E L σ C) (x:jb):jq E L {σ with head:=x} (C.setIfInBounds 190 (jY (iw L.gH x))):=by
 cases h;constructor<;>grind
theorem jq.uy {L:Loc} {σ:Ab} (h:jq E L σ C) (x:jb):jq E L {σ with form:=x} (C.setIfInBounds 191 (jY (iw L.gH x))):=by
 cases h;constructor<;>grind
theorem jq.iW {L:Loc} {σ:Ab} (h:jq E L σ C) (x:Nat):jq E L {σ with mode:=x} (C.setIfInBounds 192 (ga x)):=by
 cases h;constructor<;>grind
theorem jq.xU {L:Loc} {σ:Ab} (h:jq E L σ C) (x:Nat):jq E L {σ with kept:=x} (C.setIfInBounds 193 (ga x)):=by
 cases h;constructor<;>grind
theorem jq.YV {L:Loc} {σ:Ab} (h:jq E L σ C) (v:gG) (d:List (Nat×Nat×gn)):jq E {L with wv:=v} {σ with waiting:=d} (C.setIfInBounds 194 v):=by
 cases h;constructor<;>grind
theorem jq.xR {L:Loc} {σ:Ab} (h:jq E L σ C) (x:Bool):jq E L {σ with iL:=x} (C.setIfInBounds 195 (.bool x)):=by
 cases h;constructor<;>grind
theorem jq.qp {L:Loc} {σ:Ab} (h:jq E L σ C) (x:Bool):jq E L {σ with jB:=x} (C.setIfInBounds 196 (.bool x)):=by
 cases h;constructor<;>grind
theorem jq.BX {L:Loc} {σ:Ab} (h:jq E L σ C) (x:Nat):jq E L {σ with gH:=x} (C.setIfInBounds 197 (ga x)):=by
 cases h;constructor<;>grind
theorem jq.rV {L:Loc} {σ:Ab} (h:jq E L σ C) (x:Bool):jq E L {σ with behind:=x} (C.setIfInBounds 198 (.bool x)):=by
 cases h;constructor<;>grind
theorem kM.loc {L L':Loc} (h:kM bs L w i nd) (e1:L'.gH=L.gH) (e2:L'.av=L.av) (d:L'.kv=L.kv):kM bs L' w i nd:=by
 cases nd<;>(grind[kM])
theorem Rel.Th {L:Loc} {σ:Ab} (h:Rel E L σ w):∃C,w.heap[E.bB]?=some (gy C 176):=by
 have⟨C,hb,_⟩:=h.ik;grind
def Rel.free {L:Loc} {σ:Ab} (h:Rel E L σ w) (j:Nat):w.frozen? ⟨E.bB,j,none⟩=false:=by
 have⟨C,hb⟩:=h.Th;exact gu hb j
theorem Rel.lt {L:Loc} {σ:Ab} (h:Rel E L σ w):E.bB < w.heap.size:=by
 have⟨C,hb⟩:=h.Th;grind
def Rel.low {L:Loc} {σ:Ab} (h:Rel E L σ w) (d:j < 188) (l:E.C0[j]?=some v):w.cell? ⟨E.bB,j,none⟩=some v:=by
 have⟨C,hb,hC⟩:=h.ik;rw[fO hb];exact(hC.low j d).trans l
def Rel.UQ {L:Loc} {σ:Ab} (h:Rel E L σ w):w.cell? ⟨E.bB,190,none⟩=some (jY (iw L.gH σ.head)):=by
 have⟨C,hb,hC⟩:=h.ik;rw[fO hb];exact hC.head
def Rel.Rg {L:Loc} {σ:Ab} (h:Rel E L σ w):w.cell? ⟨E.bB,191,none⟩=some (jY (iw L.gH σ.form)):=by
 have⟨C,hb,hC⟩:=h.ik;rw[fO hb];exact hC.form
def Rel.ru {L:Loc} {σ:Ab} (h:Rel E L σ w):w.cell? ⟨E.bB,192,none⟩=some (ga σ.mode):=by
 have⟨C,hb,hC⟩:=h.ik;rw[fO hb];exact hC.mode
def Rel.Rh {L:Loc} {σ:Ab} (h:Rel E L σ w):w.cell? ⟨E.bB,193,none⟩=some (ga σ.kept):=by
 have⟨C,hb,hC⟩:=h.ik;rw[fO hb];exact hC.kept
def Rel.ZQ {L:Loc} {σ:Ab} (h:Rel E L σ w):w.cell? ⟨E.bB,194,none⟩=some L.wv:=by
 have⟨C,hb,hC⟩:=h.ik;rw[fO hb];exact hC.wait
def Rel.Xc {L:Loc} {σ:Ab} (h:Rel E L σ w):w.cell? ⟨E.bB,195,none⟩=some (.bool σ.iL):=by
 have⟨C,hb,hC⟩:=h.ik;rw[fO hb];exact hC.H6
def Rel.Xd {L:Loc} {σ:Ab} (h:Rel E L σ w):w.cell? ⟨E.bB,196,none⟩=some (.bool σ.jB):=by
 have⟨C,hb,hC⟩:=h.ik;rw[fO hb];exact hC.jB
def Rel.Ri {L:Loc} {σ:Ab} (h:Rel E L σ w):w.cell? ⟨E.bB,197,none⟩=some (ga σ.gH):=by
 have⟨C,hb,hC⟩:=h.ik;rw[fO hb];exact hC.gH
def Rel.Xe {L:Loc} {σ:Ab} (h:Rel E L σ w):w.cell? ⟨E.bB,198,none⟩=some (.bool σ.behind):=by
 have⟨C,hb,hC⟩:=h.ik;rw[fO hb];exact hC.behind
def Rel.ib {L:Loc} {σ:Ab} (h:Rel E L σ w) (l:Kept [] w w'):Rel E L σ w':=by
 have d:KT E.bs [] w w':= .gP l;have⟨C,hb,hC⟩:=h.ik;exact {h with
  fr:=h.fr.trans (.gP l)
  su:=λi nd u=>(h.su i nd u).kt d (by simp)
  ik:=⟨C,d.at hb (by simp),hC⟩
  oP:=d.row h.oP (by simp)
  pR:=d.row h.pR (by simp)
  oL:=d.row h.oL (by simp)
  rd:=d.at h.rd (by simp)
  tok:=d.row h.tok (by simp)}
def Rel.bw {L:Loc} {σ:Ab} (h:Rel E L σ w):E.bs<=w.heap.size:=jH h.bz h.fr.size
def To (E:Env) (L:Loc) (σ':Ab) (w w':gr):Prop:=∃L',L'.gH=L.gH/\Rel E L' σ' w'/\Fr E.bs w w'
def Rel.to {L:Loc} {σ:Ab} (h:Rel E L σ w') (d:Fr E.bs w w'):To E L σ w w':=⟨L,rfl,h,d⟩
def Rel.store {L:Loc} {σ σ':Ab} (h:Rel E L σ w) (j:Nat) (u:gG) (X:∀C,jq E L σ C->jq E L σ' (C.setIfInBounds j u)) (J:Wf σ') (d:σ'.nodes=σ.nodes:=by rfl) (O:σ'.gq=σ.gq:=by rfl) (K:σ'.act=σ.act:=by rfl) (I:σ'.waiting=σ.waiting:=by rfl) (R:σ'.nD=σ.nD:=by rfl) (U:σ'.iX=σ.iX:=by rfl) (V:σ'.fresh=σ.fresh:=by rfl) (F:σ'.pL=σ.pL:=by rfl) (G:σ'.qH=σ.qH:=by rfl) (H:σ'.oO=σ.oO:=by rfl):Rel E L σ' (w.setCell ⟨E.bB,j,none⟩ u):=by
 obtain⟨C,N,Y⟩:=h.ik;have B:Kept [E.bB] w (w.setCell ⟨E.bB,j,none⟩ u):=(Kept.refl _ w).setCell (.inl (by simp)) u;have A:KT E.bs [176] w (w.setCell ⟨E.bB,j,none⟩ u):= .jC B (λk B _=>by simp at B;subst B;exact⟨⟨_,_,_,N,by simp⟩,h.bB⟩);have D:∀i,σ'.gV i=σ.gV i:=λi=>by unfold Ab.gV;rw[d]
 exact {h with
  fr:=h.fr.trans (A.fr (by decide))
  Dt:=by rw[F,G,H];exact h.Dt
  su:=λi nd z=>(h.su i nd (by rw[<-d];exact z)).kt A (by decide)
  bN:=by rw[d];exact h.bN
  AL:=by rw[d];exact h.AL
  FJ:=λi z l=>h.FJ i (by rw[<-d];exact z) (by rw[<-D];exact l)
  uq:=λi j e g z Z hj=>h.uq i j e g (by rw[<-D];exact z) Z (by rw[<-d];exact hj)
  D0:=λi z l=>h.D0 i (by rw[<-d];exact z) (by rw[<-D];exact l)
  wf:=J
  ik:=⟨_,fV N j u,X C Y⟩
  oP:=by rw[O];exact A.row h.oP (by decide)
  pR:=by rw[K];exact A.row h.pR (by decide)
  wC:=by rw[O];exact h.wC
  D7:=by rw[K];exact h.D7
  oL:=by rw[I];exact A.row h.oL (by decide)
  KJ:=by rw[I];exact h.KJ
  rd:=by rw[R,U];exact A.at h.rd (by decide)
  tok:=A.row h.tok (by decide)
  Ck:=by rw[V,d];exact h.Ck
  ab:=by rw[d];exact h.ab
  KI:=by rw[I];exact h.KI}
def Rel.xS {L:Loc} {σ:Ab} (h:Rel E L σ w) (x:jb) (l:σ.gQ x=true):Rel E L {σ with head:=x} (w.setCell ⟨E.bB,190,none⟩ (jY (iw L.gH x))):=
 h.store 190 _ (λC d=>d.xS x) {h.wf with head:=l}
def Rel.uy {L:Loc} {σ:Ab} (h:Rel E L σ w) (x:jb) (l:σ.gQ x=true):Rel E L {σ with form:=x} (w.setCell ⟨E.bB,191,none⟩ (jY (iw L.gH x))):=
 h.store 191 _ (λC d=>d.uy x) {h.wf with form:=l}
def Rel.iW {L:Loc} {σ:Ab} (h:Rel E L σ w) (x:Nat):Rel E L {σ with mode:=x} (w.setCell ⟨E.bB,192,none⟩ (ga x)):=
 h.store 192 _ (λC d=>d.iW x) {h.wf with}
def Rel.xU {L:Loc} {σ:Ab} (h:Rel E L σ w) (x:Nat):Rel E L {σ with kept:=x} (w.setCell ⟨E.bB,193,none⟩ (ga x)):=
 h.store 193 _ (λC d=>d.xU x) {h.wf with}
def Rel.xR {L:Loc} {σ:Ab} (h:Rel E L σ w) (x:Bool):Rel E L {σ with iL:=x} (w.setCell ⟨E.bB,195,none⟩ (.bool x)):=
 h.store 195 _ (λC d=>d.xR x) {h.wf with}
def Rel.qp {L:Loc} {σ:Ab} (h:Rel E L σ w) (x:Bool):Rel E L {σ with jB:=x} (w.setCell ⟨E.bB,196,none⟩ (.bool x)):=
 h.store 196 _ (λC d=>d.qp x) {h.wf with}
def Rel.BX {L:Loc} {σ:Ab} (h:Rel E L σ w) (x:Nat):Rel E L {σ with gH:=x} (w.setCell ⟨E.bB,197,none⟩ (ga x)):=
 h.store 197 _ (λC d=>d.BX x) {h.wf with}
def Rel.rV {L:Loc} {σ:Ab} (h:Rel E L σ w) (x:Bool):Rel E L {σ with behind:=x} (w.setCell ⟨E.bB,198,none⟩ (.bool x)):=
 h.store 198 _ (λC d=>d.rV x) {h.wf with}
def Rel.gQ {L:Loc} {σ:Ab} (h:Rel E L σ w) (l:σ.gQ x=true):td w (iw L.gH x):=by
 intro k d;cases x with
 |none=>cases d
 |some i=>
  obtain rfl:=jz d;unfold Ab.gQ at l;have⟨e,he⟩:=Option.isSome_iff_exists.1 l;exact⟨_,(h.su i _ (Ab.jd he)).1.ik⟩
def Lz (h:y∈nW xs x):y∈xs:=by
 unfold nW at h;rw[List.mem_reverse]at h;exact List.mem_reverse.1 ((Zm _).subset (List.mem_of_mem_tail h))
theorem I7 {z : jb} (h:z∈pI xs x y):z∈xs\/z=y:=by
 unfold pI at h;grind
theorem Bh {z : jb} (h:z∈iV xs x y):z∈xs\/z=y:=by
 unfold iV at h;grind
def Rel.yD {L:Loc} {σ:Ab} (h:Rel E L σ w):∃C,wF E.bs E.bB 188 176 C L.ov (σ.gq.map (iw L.gH)) w/\jq E L σ C:=by
 have⟨C,hb,hC⟩:=h.ik;refine⟨C,⟨hb,hC.gq,?_,by decide,by simpa using h.wC⟩,hC⟩
 simpa [QV,Ur]using h.oP
def Rel.elO {L:Loc} {σ:Ab} (h:Rel E L σ w):∀x∈σ.gq.map (iw L.gH),td w x:=by
 intro x d;obtain⟨y,l,rfl⟩:=List.mem_map.1 d;exact h.gQ (Ab.vf (h.wf.gq y l))
def Sd (L:Loc) (w:gr) (k:Nat) (v:gG):Prop:=w.heap[k]?=some (gy #[v] 65)/\L.ov.ownBlock≠some k/\L.cv.ownBlock≠some k
def WI (E:Env) (L:Loc) (σ':Ab) (w w':gr):Prop:=∃L',L'.gH=L.gH/\Rel E L' σ' w'/\Fr E.bs w w'/\∀k v,Sd L w k v->Sd L' w' k v
theorem Sd.MZ {L:Loc} {u : gG} (h:Sd L w k v) (l:Kept (b::u.ownBlock.toList) w w') (z:w.heap[b]?=some (gy C 176)) (A:u.ownBlock≠some k):w'.heap[k]?=some (gy #[v] 65):=by
 refine l.at h.1 λd=>?_;rcases List.mem_cons.1 d with rfl|d
 .have:=h.1;grind
 grind
def Sd.Cc {L:Loc} {v' : gG} (h:Sd L w k v) (u:Kept (b::L.ov.ownBlock.toList) w w') (l:w.heap[b]?=some (gy C 176)) (d:v'.ownBlock=L.ov.ownBlock\/∀g,v'.ownBlock=some g->w.heap.size<=g):Sd {L with ov:=v'} w' k v:=by
 refine⟨h.MZ u l h.2.1,λe=>?_,h.2.2⟩;rcases d with d|d
 .exact h.2.1 (d▸e)
 .have:=d k e;have:=je h.1;omega
def Sd.An {L:Loc} {v' : gG} (h:Sd L w k v) (u:Kept (b::L.cv.ownBlock.toList) w w') (l:w.heap[b]?=some (gy C 176)) (d:v'.ownBlock=L.cv.ownBlock\/∀g,v'.ownBlock=some g->w.heap.size<=g):Sd {L with cv:=v'} w' k v:=by
 refine⟨h.MZ u l h.2.2,h.2.1,λe=>?_⟩;rcases d with d|d
 .exact h.2.2 (d▸e)
 .have:=d k e;have:=je h.1;omega
def Rel.NQ {L:Loc} {σ:Ab} (h:Rel E L σ w) (l:wF E.bs E.bB 188 176 C L.ov (σ.gq.map (iw L.gH)) w) (K:jq E L σ C) (V:oo E.bs E.bB 188 176 C L.ov (zs.map (iw L.gH)) w w') (X:∀x∈zs,σ.lV x=true):WI E L {σ with gq:=zs} w w':=by
 obtain⟨J,z,D,F⟩:=V;have d:KT E.bs [176,65] w w':= .jC D (λk u _=>by
  rcases List.mem_cons.1 u with rfl|u
  .exact⟨⟨_,_,_,l.ik,by simp⟩,h.bB⟩
  .obtain⟨c,m,N⟩:=rL l.row (by simpa using u);exact⟨⟨_,_,_,N,by simp⟩,(l.row.lt k (by simpa using u)).1⟩)
 have A:∀g,L.cv.ownBlock=some g->g∉E.bB::L.ov.ownBlock.toList:=by
  intro g I B;rcases List.mem_cons.1 B with rfl|B
  .exact BU h.pR l.ik (by decide) I
  .exact(h.FP:∀g,L.ov.ownBlock=some g->L.cv.ownBlock≠some g) g (by simpa using B) I
 refine⟨{L with ov:=J},rfl,?_,d.fr (by decide),λk v U=>U.Cc D l.ik F⟩;exact {h with
  fr:=h.fr.trans (d.fr (by decide))
  su:=λi nd O=>((h.su i nd O).kt d (by decide)).loc rfl rfl rfl
  wf:={h.wf with gq:=X}
  ik:=⟨_,z.ik,K.abb J zs⟩
  oP:=by simpa [QV,Ur]using z.row
  pR:=D.ownsRow h.pR A
  FP:=by
   intro g G H;have R:=BT h.pR (g:=g) H;rcases F with e|e
   .exact h.FP g (by rw[<-e];exact G) H
   .have:=e g G;omega
  wC:=by simpa using z.le
  oL:=d.row h.oL (by decide)
  rd:=d.at h.rd (by decide)
  tok:=d.row h.tok (by decide)}
def Rel.Cc {L:Loc} {σ:Ab} (h:Rel E L σ w) (l:wF E.bs E.bB 188 176 C L.ov (σ.gq.map (iw L.gH)) w) (d:jq E L σ C) (u:oo E.bs E.bB 188 176 C L.ov (zs.map (iw L.gH)) w w') (z:∀x∈zs,σ.lV x=true):To E L {σ with gq:=zs} w w':=
 have⟨L1,a,b,c,_⟩:=h.NQ l d u z
 ⟨L1,a,b,c⟩
def Yu {L:Loc} {σ:Ab} (h:Rel E L σ w):
  Calls prog 259 #[lK E.bB 188] w λe w'=>e=ir (ga σ.gq.length)/\w'=w:=by
 have⟨C,hL,hC⟩:=h.yD;have:=abX E.bs E.bB 188 _ C _ _ w hL
 rwa [Bj]at this
def aeg {L:Loc} {σ:Ab} (h:Rel E L σ w) (n:Int):
  Calls prog 238 #[lK E.bB 188,ga n] w λe w'=>e=ir (jY (iw L.gH (io σ.gq n)))/\w'=w:=by
 have⟨C,hL,hC⟩:=h.yD;have:=Ya E.bs E.bB 188 _ C _ _ n w hL
 rwa [xH]at this
def Se {L:Loc} {σ:Ab} (h:Rel E L σ w):
  Calls prog 169 #[lK E.bB 188] w λe w'=>e=ir (jY (iw L.gH (io σ.gq ((σ.gq.length:Int) - 1))))/\w'=w:=by
 have⟨C,hL,hC⟩:=h.yD;have:=Yb E.bs E.bB 188 _ C _ _ w hL
 rwa [xH,Bj]at this
def aeh {L:Loc} {σ:Ab} (h:Rel E L σ w) (x:jb) (d:σ.gQ x=true):
  Calls prog 312 #[lK E.bB 188,jY (iw L.gH x)] w λe w'=>e=ir (.bool (decide (x∈σ.gq)))/\w'=w:=by
 have⟨C,hL,hC⟩:=h.yD;have:=abW E.bs E.bB 188 _ C _ _ (iw L.gH x) w hL h.elO (h.gQ d)
 rwa [decide_eq_decide.2 (mem_map h.inj σ.gq x)]at this
def yI {L:Loc} {σ:Ab} (h:Rel E L σ w) (x:jb) (d:σ.gQ x=true):
  Calls prog 236 #[lK E.bB 188,jY (iw L.gH x)] w λe w'=>e=ir (jY (iw L.gH (io σ.gq (posOf σ.gq x - 1))))/\w'=w:=by
 have⟨C,hL,hC⟩:=h.yD;have:=M1 E.bs E.bB 188 _ C _ _ (iw L.gH x) w hL h.elO (h.gQ d)
 rwa [LA h.inj,xH]at this
theorem adb {L:Loc} {σ:Ab} (h:Rel E L σ w) (x:jb) (z:σ.lV x=true) (l:σ.gq.length < 4096):
  Calls prog 261 #[lK E.bB 188,jY (iw L.gH x)] w λe w'=>e=o9/\To E L {σ with gq:=σ.gq++[x]} w w':=by
 have⟨C,hL,hC⟩:=h.yD;refine(Yc E.bs E.bB 188 _ C _ _ (iw L.gH x) w hL (by grind) h.bw).mono ?_;rintro e w' ⟨rfl,u⟩;refine⟨rfl,h.Cc hL hC (by grind) λy d=>?_⟩;rcases List.mem_append.1 d with d|d
 .exact h.wf.gq y d
 grind
theorem PA {L:Loc} {σ:Ab} (h:Rel E L σ w):
  Calls prog 174 #[lK E.bB 188] w λe w'=>e=ir (jY (iw L.gH (io σ.gq ((σ.gq.length:Int) - 1))))/\To E L {σ with gq:=σ.gq.dropLast} w w':=by
 have⟨C,hL,hC⟩:=h.yD;refine(abY E.bs E.bB 188 _ C _ _ w hL).mono ?_;rintro e w' ⟨rfl,l⟩;refine⟨by rw[xH,Bj],h.Cc hL hC (by grind) λy d=>h.wf.gq y (List.dropLast_subset _ d)⟩
def aaD {L:Loc} {σ:Ab} (h:Rel E L σ w) (x:jb) (l:σ.gQ x=true):
  Calls prog 318 #[lK E.bB 188,jY (iw L.gH x)] w λe w'=>e=o9/\To E L {σ with gq:=nW σ.gq x} w w':=by
 have⟨C,hL,hC⟩:=h.yD;refine(TI E.bs E.bB 188 _ C _ _ (iw L.gH x) w hL (by decide) h.elO (h.gQ l)).mono ?_;rintro e w' ⟨rfl,d⟩;exact⟨rfl,h.Cc hL hC (by rw[<-Ly h.inj];exact d) λy u=>h.wf.gq y (Lz u)⟩
def Yv {L:Loc} {σ:Ab} (h:Rel E L σ w) (x:jb) (l:σ.gQ x=true):
  Calls prog 177 #[lK E.bB 188,jY (iw L.gH x)] w λe w'=>e=o9/\To E L {σ with gq:=σ.gq.erase x} w w':=by
 have⟨C,hL,hC⟩:=h.yD;refine(zS E.bs E.bB 188 _ C _ _ (iw L.gH x) w hL h.elO (h.gQ l)).mono ?_;rintro e w' ⟨rfl,d⟩;exact⟨rfl,h.Cc hL hC (by rw[<-vo h.inj];exact d) λy u=>h.wf.gq y (Ax u)⟩
theorem PB {L:Loc} {σ:Ab} (h:Rel E L σ w) (x y:jb) (u:σ.gQ x=true) (A:σ.lV y=true) (B:σ.gq.length < 4096):
  Calls prog 366 #[lK E.bB 188,jY (iw L.gH x),jY (iw L.gH y)] w λe w'=>e=o9/\To E L {σ with gq:=iV σ.gq x y} w w':=by
 have⟨C,hL,hC⟩:=h.yD;refine(FL E.bs E.bB 188 _ C _ _ (iw L.gH x) (iw L.gH y) w hL h.elO (h.gQ u) (by grind) h.bw).mono ?_;rintro e w' ⟨rfl,l⟩;exact⟨rfl,h.Cc hL hC (by rw[<-Bf h.inj];exact l) λz d=>by rcases Bh d with d|rfl;exact h.wf.gq z d;exact A⟩
def Rel.Gg {L:Loc} {σ:Ab} (h:Rel E L σ w):∃C,wF E.bs E.bB 189 176 C L.cv (σ.act.map (iw L.gH)) w/\jq E L σ C:=by
 have⟨C,hb,hC⟩:=h.ik;refine⟨C,⟨hb,hC.act,?_,by decide,by simpa using h.D7⟩,hC⟩
 simpa [QV,Ur]using h.pR
def Rel.elA {L:Loc} {σ:Ab} (h:Rel E L σ w):∀x∈σ.act.map (iw L.gH),td w x:=by
 intro x d;obtain⟨y,l,rfl⟩:=List.mem_map.1 d;exact h.gQ (h.wf.act y l)
def Rel.NP {L:Loc} {σ:Ab} (h:Rel E L σ w) (l:wF E.bs E.bB 189 176 C L.cv (σ.act.map (iw L.gH)) w) (K:jq E L σ C) (V:oo E.bs E.bB 189 176 C L.cv (zs.map (iw L.gH)) w w') (X:∀x∈zs,σ.gQ x=true):WI E L {σ with act:=zs} w w':=by
 obtain⟨J,B,G,H⟩:=V;have d:KT E.bs [176,65] w w':= .jC G (λk A _=>by
  rcases List.mem_cons.1 A with rfl|A
  .exact⟨⟨_,_,_,l.ik,by simp⟩,h.bB⟩
  .obtain⟨c,m,N⟩:=rL l.row (by simpa using A);exact⟨⟨_,_,_,N,by simp⟩,(l.row.lt k (by simpa using A)).1⟩)
 have D:∀g,L.ov.ownBlock=some g->g∉E.bB::L.cv.ownBlock.toList:=by
  intro g I F;rcases List.mem_cons.1 F with rfl|F
  .exact BU h.oP l.ik (by decide) I
  .exact((λg u z=>h.FP g z u):∀g,L.cv.ownBlock=some g->L.ov.ownBlock≠some g) g (by simpa using F) I
 refine⟨{L with cv:=J},rfl,?_,d.fr (by decide),λk v U=>U.An G l.ik H⟩;exact {h with
  fr:=h.fr.trans (d.fr (by decide))
  su:=λi nd O=>((h.su i nd O).kt d (by decide)).loc rfl rfl rfl
  wf:={h.wf with act:=X}
  ik:=⟨_,B.ik,K.aba J zs⟩
  pR:=by simpa [QV,Ur]using B.row
  oP:=G.ownsRow h.oP D
  FP:=by
   intro g u z;have R:=BT h.oP (g:=g) u;rcases H with e|e
   .exact h.FP g u (by rw[<-e];exact z)
   .have:=e g z;omega
  D7:=by simpa using B.le
  oL:=d.row h.oL (by decide)
  rd:=d.at h.rd (by decide)
  tok:=d.row h.tok (by decide)}
def Rel.An {L:Loc} {σ:Ab} (h:Rel E L σ w) (l:wF E.bs E.bB 189 176 C L.cv (σ.act.map (iw L.gH)) w) (d:jq E L σ C) (u:oo E.bs E.bB 189 176 C L.cv (zs.map (iw L.gH)) w w') (z:∀x∈zs,σ.gQ x=true):To E L {σ with act:=zs} w w':=
 have⟨L1,a,b,c,_⟩:=h.NP l d u z
 ⟨L1,a,b,c⟩
def abJ {L:Loc} {σ:Ab} (h:Rel E L σ w):
  Calls prog 259 #[lK E.bB 189] w λe w'=>e=ir (ga σ.act.length)/\w'=w:=by
 have⟨C,hL,hC⟩:=h.Gg;have:=abX E.bs E.bB 189 _ C _ _ w hL
 rwa [Bj]at this
def aeO {L:Loc} {σ:Ab} (h:Rel E L σ w) (n:Int):
  Calls prog 238 #[lK E.bB 189,ga n] w λe w'=>e=ir (jY (iw L.gH (io σ.act n)))/\w'=w:=by
 have⟨C,hL,hC⟩:=h.Gg;have:=Ya E.bs E.bB 189 _ C _ _ n w hL
 rwa [xH]at this
def adS {L:Loc} {σ:Ab} (h:Rel E L σ w) (x:jb) (d:σ.gQ x=true):
  Calls prog 312 #[lK E.bB 189,jY (iw L.gH x)] w λe w'=>e=ir (.bool (decide (x∈σ.act)))/\w'=w:=by
 have⟨C,hL,hC⟩:=h.Gg;have:=abW E.bs E.bB 189 _ C _ _ (iw L.gH x) w hL h.elA (h.gQ d)
 rwa [decide_eq_decide.2 (mem_map h.inj σ.act x)]at this
theorem acn {L:Loc} {σ:Ab} (h:Rel E L σ w) (x:jb) (z:σ.gQ x=true) (l:σ.act.length < 4096):
  Calls prog 261 #[lK E.bB 189,jY (iw L.gH x)] w λe w'=>e=o9/\To E L {σ with act:=σ.act++[x]} w w':=by
 have⟨C,hL,hC⟩:=h.Gg;refine(Yc E.bs E.bB 189 _ C _ _ (iw L.gH x) w hL (by grind) h.bw).mono ?_;rintro e w' ⟨rfl,u⟩;refine⟨rfl,h.An hL hC (by grind) λy d=>?_⟩;rcases List.mem_append.1 d with d|d
 .exact h.wf.act y d
 grind
def ZG {L:Loc} {σ:Ab} (h:Rel E L σ w) (x:jb) (l:σ.gQ x=true):
  Calls prog 318 #[lK E.bB 189,jY (iw L.gH x)] w λe w'=>e=o9/\To E L {σ with act:=nW σ.act x} w w':=by
 have⟨C,hL,hC⟩:=h.Gg;refine(TI E.bs E.bB 189 _ C _ _ (iw L.gH x) w hL (by decide) h.elA (h.gQ l)).mono ?_;rintro e w' ⟨rfl,d⟩;exact⟨rfl,h.An hL hC (by rw[<-Ly h.inj];exact d) λy u=>h.wf.act y (Lz u)⟩
def WL {L:Loc} {σ:Ab} (h:Rel E L σ w) (x:jb) (l:σ.gQ x=true):
  Calls prog 177 #[lK E.bB 189,jY (iw L.gH x)] w λe w'=>e=o9/\To E L {σ with act:=σ.act.erase x} w w':=by
 have⟨C,hL,hC⟩:=h.Gg;refine(zS E.bs E.bB 189 _ C _ _ (iw L.gH x) w hL h.elA (h.gQ l)).mono ?_;rintro e w' ⟨rfl,d⟩;exact⟨rfl,h.An hL hC (by rw[<-vo h.inj];exact d) λy u=>h.wf.act y (Ax u)⟩
def UD {L:Loc} {σ:Ab} (h:Rel E L σ w) (x y:jb) (u:σ.gQ x=true) (A:σ.gQ y=true):
  Calls prog 266 #[lK E.bB 189,jY (iw L.gH x),jY (iw L.gH y)] w λe w'=>e=o9/\To E L {σ with act:=pI σ.act x y} w w':=by
 have⟨C,hL,hC⟩:=h.Gg;refine(Eo E.bs E.bB 189 _ C _ _ (iw L.gH x) (iw L.gH y) w hL h.elA (h.gQ u)).mono ?_;rintro e w' ⟨rfl,l⟩;exact⟨rfl,h.An hL hC (by rw[<-I5 h.inj];exact l) λz d=>by rcases I7 d with d|rfl;exact h.wf.act z d;exact A⟩
theorem Oe {L:Loc} {σ:Ab} (h:Rel E L σ w) (x y:jb) (u:σ.gQ x=true) (A:σ.gQ y=true) (B:σ.act.length < 4096):
  Calls prog 366 #[lK E.bB 189,jY (iw L.gH x),jY (iw L.gH y)] w λe w'=>e=o9/\To E L {σ with act:=iV σ.act x y} w w':=by
 have⟨C,hL,hC⟩:=h.Gg;refine(FL E.bs E.bB 189 _ C _ _ (iw L.gH x) (iw L.gH y) w hL h.elA (h.gQ u) (by grind) h.bw).mono ?_;rintro e w' ⟨rfl,l⟩;exact⟨rfl,h.An hL hC (by rw[<-Bf h.inj];exact l) λz d=>by rcases Bh d with d|rfl;exact h.wf.act z d;exact A⟩
def Loc.new (L:Loc) (n k:Nat) (av kv:gG):Loc:={L with gH:=λi=>if i < n then L.gH i else k+(i - n),av:=λi=>if i=n then av else L.av i,kv:=λi=>if i=n then kv else L.kv i}
variable {L L' : Loc}
def Loc.zX (h:i < n):(L.new n k av kv).gH i=L.gH i:=gN h
def Loc.sP:(L.new n k av kv).gH n=k:=by simp[Loc.new]
def Loc.Ep (h:i < n):(L.new n k av kv).av i=L.av i:=gI (by omega)
def Loc.M7 (h:i < n):(L.new n k av kv).kv i=L.kv i:=gI (by omega)
def Loc.AM:(L.new n k av kv).av n=av:=gN rfl
def Loc.GC:(L.new n k av kv).kv n=kv:=gN rfl
def Fb (n:Nat) (L L':Loc):Prop:=∀i,i < n->L'.gH i=L.gH i
def Fb.refl (n:Nat) (L:Loc):Fb n L L:=λ_ _=>rfl
def Ab.lN {σ:Ab} (h:σ.gQ (some i)=true):i < σ.nodes.length:=by
 have⟨e,he⟩:=Option.isSome_iff_exists.1 h;exact Ab.ic he
def Ab.Pd {σ:Ab} {k : Nd} (h:σ.jg k=true):k.ik < σ.nodes.length:=by
 by_cases l:k.ik < σ.nodes.length
 .exact l
 .exfalso;have d:σ.nodes[k.ik]?=none:=List.getElem?_eq_none (by omega);cases k with
  |el i=>simp only[Nd.ik]at d;simp[Ab.jg,Ab.gV,d]at h
  |tx i=>simp only[Nd.ik]at d;simp[Ab.jg,d]at h
  |cm i=>simp only[Nd.ik]at d;simp[Ab.jg,d]at h
  |dt i=>simp only[Nd.ik]at d;simp[Ab.jg,d]at h
def Fb.om {σ:Ab} (h:Fb σ.nodes.length L L') (d:σ.gQ x=true):iw L'.gH x=iw L.gH x:=by
 cases x with
 |none=>rfl
 |some i=>show some _=some _;rw[h i (Ab.lN d)]
def Fb.kid {σ:Ab} (h:Fb σ.nodes.length L L') {k : Nd} (d:σ.jg k=true):Nd.map L'.gH k=Nd.map L.gH k:=by
 have:=h _ (Ab.Pd d);cases k<;>(simp only[Nd.map,Nd.ik]at this|-;rw[this])
def Fb.list {σ:Ab} (h:Fb σ.nodes.length L L') (l:∀x∈xs,σ.gQ x=true):(xs.map λx=>jY (iw L'.gH x))=xs.map λx=>jY (iw L.gH x):=
 QW λx d=>by rw[h.om (l x d)]
def Fb.kids {σ:Ab} (h:Fb σ.nodes.length L L') {ks : List Nd} (l:∀x∈ks,σ.jg x=true):ks.map (Nd.map L'.gH)=ks.map (Nd.map L.gH):=
 QW λx d=>h.kid (l x d)
theorem Ab.tA {σ:Ab} (d:i < σ.nodes.length):(σ.add nd).gV i=σ.gV i:=by
 grind[Ab.gV,Ab.add]
theorem Ab.tY {σ:Ab}:(σ.add nd).gV σ.nodes.length=(match nd with| .el e=>some e|_=>none):=by
 show(match (σ.nodes++[nd])[σ.nodes.length]? with|some (.el e)=>some e|_=>none)=_
 grind
def Ab.zP {σ:Ab} (h:σ.gQ x=true):(σ.add nd).gQ x=true:=by
 cases x with
 |none=>rfl
 |some i=>show((σ.add nd).gV i).isSome=true;rw[Ab.tA (Ab.lN h)];exact h
def Ab.Ll {σ:Ab} (h:σ.lV x=true):(σ.add nd).lV x=true:=by
 cases x with
 |none=>exact h
 |some i=>show((σ.add nd).gV i).isSome=true;rw[Ab.tA (Ab.lN h)];exact h
theorem Ab.Ek {σ:Ab} {k : Nd} (h:σ.jg k=true):(σ.add nd).jg k=true:=by
 have d:=Ab.Pd h;have e:(σ.nodes++[nd])[k.ik]?=σ.nodes[k.ik]?:=Up d;cases k with
 |el i=>show((σ.add nd).gV i).isSome=true;rw[Ab.tA (i:=i) d];exact h
 |tx i=>grind[Ab.jg,Ab.add]
 |cm i=>grind[Ab.jg,Ab.add]
 |dt i=>grind[Ab.jg,Ab.add]
theorem Ab.Hk {σ:Ab} (h:(σ.add nd).gV i=some e):(i < σ.nodes.length/\σ.gV i=some e)\/(i=σ.nodes.length/\nd= .el e):=by
 have l:=Ab.ic h;have u:i < σ.nodes.length+1:=by simpa [Ab.add]using l
 by_cases d:i < σ.nodes.length
 .exact .inl ⟨d,by rw[<-Ab.tA d];exact h⟩
 .have e1:i=σ.nodes.length:=by omega
  subst e1;rw[Ab.tY]at h;grind
def kM.ext {σ:Ab} (h:kM bs L w i nd) (d:Fb σ.nodes.length L L') (l:i < σ.nodes.length) (u:L'.av i=L.av i) (z:L'.kv i=L.kv i) (A:∀e,nd= .el e->σ.gQ e.ja=true/\∀k∈e.kids,σ.jg k=true):kM bs L' w i nd:=by
 cases nd with
 |el e=>
  have⟨h1,h2⟩:=A e rfl;show El bs w (L'.gH i) e.name (L'.av i) (iw L'.gH e.ja) (L'.kv i) (e.kids.map (Nd.map L'.gH))/\yi w (L'.av i) e.gM/\e.gM.length<=4096;rw[d i l,u,z,d.om h1,d.kids h2];exact h
 |tx s=>show w.heap[L'.gH i]?=_;rw[d i l];exact h
 |cm s=>show w.heap[L'.gH i]?=_;rw[d i l];exact h
 |dt s=>show w.heap[L'.gH i]?=_;rw[d i l];exact h
theorem Rel.GQ {σ:Ab} (h:Rel E L σ w) (d:i < σ.nodes.length):L.gH i < w.heap.size:=by
 have⟨c,hc⟩:=(h.su i σ.nodes[i] (qw d)).typ;grind
def Rel.wfn {σ:Ab} (h:Rel E L σ w) (l:σ.nodes[i]?=some nd):∀e,nd= .el e->σ.gQ e.ja=true/\∀k∈e.kids,σ.jg k=true:=by
 rintro e rfl;have d:=Ab.Rt l;exact⟨h.wf.ja i e d,h.wf.kids i e d⟩
def jq.ext {σ σ':Ab} (h:jq E L σ C) (l:Fb σ.nodes.length L L') (d:Wf σ) (e1:L'.ov=L.ov) (e2:L'.cv=L.cv) (u:L'.wv=L.wv) (z:σ'.head=σ.head) (A:σ'.form=σ.form) (B:σ'.mode=σ.mode) (D:σ'.kept=σ.kept) (F:σ'.iL=σ.iL) (G:σ'.jB=σ.jB) (H:σ'.gH=σ.gH) (I:σ'.behind=σ.behind):jq E L' σ' C:=
 ⟨h.size,h.low,by rw[e1];exact h.gq,by rw[e2];exact h.act,by rw[z,l.om d.head];exact h.head,by rw[A,l.om d.form];exact h.form,by rw[B];exact h.mode,by rw[D];exact h.kept,by rw[u];exact h.wait,by rw[F];exact h.H6,by rw[G];exact h.jB,by rw[H];exact h.gH,by rw[I];exact h.behind⟩
theorem Rel.abL {σ:Ab} (h:Rel E L σ w) (nd:A0) (k:Nat) (av kv:gG) (U:Bool) (hk:Kept [] w w') (a6:∀i,i < σ.nodes.length->L.gH i < k) (a4:E.bs<=k)
  (a7:kM E.bs (L.new σ.nodes.length k av kv) w' σ.nodes.length nd) (a5:kv.ownBlock=none) (a2:∀e,nd= .el e->e.ja=none/\e.kids=[])
  (a0:∀i e g,σ.gV i=some e->nh e.name=true->av.ownBlock=some g->(L.av i).ownBlock≠some g)
  (a1:∀e g j,nd= .el e->nh e.name=true->j < σ.nodes.length->av.ownBlock=some g->(L.av j).ownBlock≠some g)
  (J:(∀e,nd≠ .el e)->av.ownBlock=none)
  (Y:U=true->σ.fresh=true/\∀g,E.tv.ownBlock=some g->av.ownBlock≠some g) (a3:∀g,av.ownBlock=some g->E.bs<=g):
  Rel E (L.new σ.nodes.length k av kv) (σ.pa nd U) w':=by
 have z:=h.ib hk;have V:Fb σ.nodes.length L (L.new σ.nodes.length k av kv):=λi l=>Loc.zX l;have G:=Ab.lN (σ:=σ) (i:=0) h.wf.wK;have u:(σ.pa nd U).nodes.length=σ.nodes.length+1:=by simp[Ab.pa]
 have K:∀i,(σ.pa nd U).gV i=(σ.add nd).gV i:=λi=>rfl;have⟨C,hb,hC⟩:=z.ik;refine⟨z.fr,by rw[Loc.zX G];exact z.env,z.Dt,?_,?_,?_,?_,?_,?_,?_,⟨C,hb,hC.ext V h.wf rfl rfl rfl rfl rfl rfl rfl rfl rfl rfl rfl⟩,?_,?_,z.FP,z.wC,z.D7,z.oL,z.KJ,z.rd,z.P9,z.tok,z.KG,z.bz,z.bB,z.bR,?_,?_,?_,h.tb,h.KI⟩
 .intro i R l;have d:(σ.nodes++[nd])[i]?=some R:=l;by_cases X:i < σ.nodes.length
  .rw[Up X]at d;exact(z.su i R d).ext V X (Loc.Ep X) (Loc.M7 X) (h.wfn d)
  grind
 .intro i j D;have H:(if i < σ.nodes.length then L.gH i else k+(i - σ.nodes.length))=(if j < σ.nodes.length then L.gH j else k+(j - σ.nodes.length)):=D;by_cases l:i < σ.nodes.length
  .by_cases N:j < σ.nodes.length
   .rw[gN l,gN N]at H;exact h.inj i j H
   grind
  grind
 .intro i j g l N D B;rw[u]at l N;by_cases d:i < σ.nodes.length
  .rw[Loc.M7 d]at B;by_cases F:j < σ.nodes.length
   .rw[Loc.M7 F];exact h.AL i j g d F D B
   grind[Loc.new]
  grind[Loc.new]
 .intro i l A;rw[u]at l;by_cases d:i < σ.nodes.length
  .rw[Loc.M7 d];exact h.FJ i d (by rw[<-Ab.tA d];exact A)
  grind[Loc.new]
 .intro i j e g l Z N D B;rw[u]at N;rcases Ab.Hk (nd:=nd) l with⟨d,A⟩|⟨rfl,rfl⟩
  .rw[Loc.Ep d]at B;by_cases F:j < σ.nodes.length
   .rw[Loc.Ep F];exact h.uq i j e g A Z F D B
   grind[Loc.new]
  grind[Loc.new]
 .intro i l A;rw[u]at l;by_cases d:i < σ.nodes.length
  .rw[Loc.Ep d];exact h.D0 i d (by rw[<-Ab.tA d];exact A)
  .have e1:i=σ.nodes.length:=by omega
   subst e1;rw[Loc.AM];refine J λe O=>?_;rw[K,Ab.tY,O]at A;cases A
 .refine⟨λx I=>Ab.Ll (h.wf.gq x I),λx I=>Ab.zP (h.wf.act x I),Ab.zP h.wf.head,Ab.zP h.wf.form,?_,?_,?_⟩
  .intro i e l;rcases Ab.Hk (nd:=nd) l with⟨d,A⟩|⟨rfl,hn⟩
   .exact Ab.zP (h.wf.ja i e A)
   grind[Ab.gQ]
  .intro i e l x I;rcases Ab.Hk (nd:=nd) l with⟨d,A⟩|⟨rfl,hn⟩
   .exact Ab.Ek (h.wf.kids i e A x I)
   grind
  .rw[K,Ab.tA G];exact h.wf.wK
 .show w'.ownsRow E.bs _ 1 L.ov σ.gq.length (σ.gq.map λx=>jY (iw (L.new σ.nodes.length k av kv).gH x));rw[V.list λx I=>Ab.vf (h.wf.gq x I)];exact z.oP
 .show w'.ownsRow E.bs _ 1 L.cv σ.act.length (σ.act.map λx=>jY (iw (L.new σ.nodes.length k av kv).gH x));rw[V.list h.wf.act];exact z.pR
 .intro i l;rw[u]at l;by_cases d:i < σ.nodes.length
  .rw[Loc.zX d];exact h.bN i d
  grind[Loc.new]
 .intro hf i g l B;rw[u]at l;have⟨f1,f2⟩:=Y hf;by_cases d:i < σ.nodes.length
  .rw[Loc.Ep d];exact h.Ck f1 i g d B
  grind[Loc.new]
 .intro i g l B;rw[u]at l;by_cases d:i < σ.nodes.length
  .rw[Loc.Ep d]at B;exact h.ab i g d B
  .have e1:i=σ.nodes.length:=by omega
   subst e1;rw[Loc.AM]at B;grind
def Rel.add {E:Env} {L:Loc} {σ:Ab} {w w':gr} (h:Rel E L σ w) (nd:A0) (k:Nat) (av kv:gG) (B:Bool) (J:Kept [] w w') (A:w.heap.size<=k)
  (H:kM E.bs (L.new σ.nodes.length k av kv) w' σ.nodes.length nd) (G:kv.ownBlock=none) (z:∀e,nd= .el e->e.ja=none/\e.kids=[])
  (l:∀i e g,σ.gV i=some e->nh e.name=true->av.ownBlock=some g->(L.av i).ownBlock≠some g)
  (u:∀e g j,nd= .el e->nh e.name=true->j < σ.nodes.length->av.ownBlock=some g->(L.av j).ownBlock≠some g)
  (d:(∀e,nd≠ .el e)->av.ownBlock=none)
  (F:B=true->σ.fresh=true/\∀g,E.tv.ownBlock=some g->av.ownBlock≠some g) (D:∀g,av.ownBlock=some g->E.bs<=g):
  Rel E (L.new σ.nodes.length k av kv) (σ.pa nd B) w':=
 h.abL nd k av kv B J (λ_ I=>mf (h.GQ I) A) (jH h.bw A) H G z l u d F D
def Rel.Ug {σ σ':Ab} (h:Rel E L σ w) (d:KT E.bs [136,138,280] w w') (l:Fb σ.nodes.length L L') (e1:L'.ov=L.ov) (e2:L'.cv=L.cv) (B:L'.wv=L.wv)
  (I:∀i nd,σ'.nodes[i]?=some nd->kM E.bs L' w' i nd) (F:∀i j,L'.gH i=L'.gH j->i=j)
  (H:∀i j g,i < σ'.nodes.length->j < σ'.nodes.length->i≠j->(L'.kv i).ownBlock=some g->(L'.kv j).ownBlock≠some g)
  (G:∀i,i < σ'.nodes.length->σ'.gV i=none->(L'.kv i).ownBlock=none)
  (uq:∀i j e g,σ'.gV i=some e->nh e.name=true->j < σ'.nodes.length->i≠j->(L'.av i).ownBlock=some g->(L'.av j).ownBlock≠some g)
  (A:∀i,i < σ'.nodes.length->σ'.gV i=none->(L'.av i).ownBlock=none)
  (wf:Wf σ') (D:σ'.fresh=true->∀i g,i < σ'.nodes.length->E.tv.ownBlock=some g->(L'.av i).ownBlock≠some g)
  (J:σ'.nodes.length<=σ.nodes.length:=by first|exact gW _|simp[Ab.gU,Ab.n4])
  (O:σ'.gq=σ.gq:=by rfl) (R:σ'.act=σ.act:=by rfl) (s1:σ'.head=σ.head:=by rfl) (s2:σ'.form=σ.form:=by rfl) (s3:σ'.mode=σ.mode:=by rfl) (s4:σ'.kept=σ.kept:=by rfl) (s5:σ'.iL=σ.iL:=by rfl) (s6:σ'.jB=σ.jB:=by rfl) (s7:σ'.gH=σ.gH:=by rfl) (s8:σ'.behind=σ.behind:=by rfl) (sw:σ'.waiting=σ.waiting:=by rfl) (so:σ'.nD=σ.nD:=by rfl) (sp:σ'.iX=σ.iX:=by rfl) (U:σ'.pL=σ.pL:=by rfl) (V:σ'.qH=σ.qH:=by rfl) (X:σ'.oO=σ.oO:=by rfl) (av:L'.av=L.av:=by rfl):Rel E L' σ' w':=by
 obtain⟨C,Z,Y⟩:=h.ik;have u:=Ab.lN (σ:=σ) (i:=0) h.wf.wK;exact {h with
  fr:=h.fr.trans (d.fr (by decide))
  env:=by rw[l 0 u];exact h.env
  Dt:=by rw[U,V,X];exact h.Dt
  su:=I,inj:=F,AL:=H,FJ:=G,uq:=uq,D0:=A,wf:=wf
  ik:=⟨C,d.at Z (by decide),Y.ext l h.wf e1 e2 B s1 s2 s3 s4 s5 s6 s7 s8⟩
  oP:=by rw[O,e1,l.list λx hx=>Ab.vf (h.wf.gq x hx)];exact d.row h.oP (by decide)
  pR:=by rw[R,e2,l.list h.wf.act];exact d.row h.pR (by decide)
  FP:=by rw[e1,e2];exact h.FP
  wC:=by rw[O];exact h.wC
  D7:=by rw[R];exact h.D7
  oL:=by rw[sw,B];exact d.row h.oL (by decide)
  KJ:=by rw[sw];exact h.KJ
  rd:=by rw[so,sp];exact d.at h.rd (by decide)
  tok:=d.row h.tok (by decide)
  bN:=λi z=>by rw[l i (mf z J)];exact h.bN i (mf z J)
  Ck:=D
  ab:=λi g z K=>h.ab i g (mf z J) (by rw[av]at K;exact K)
  KI:=λv N=>⟨B.trans (h.KI v N).1,sw.trans (h.KI v N).2⟩}
def Rel.yA {σ:Ab} (h:Rel E L σ w) (l:j < σ.nodes.length) (d:(L.kv j).ownBlock=some g):∃c m,w.heap[g]?=some (.cells c 138 m):=by
 cases he:σ.gV j with
 |none=>rw[h.FJ j l he]at d;cases d
 |some e=>exact rL (h.su j _ (Ab.jd he)).1.row d
def Rel.Mk {σ:Ab} (h:Rel E L σ w) (l:j < σ.nodes.length) (d:(L.av j).ownBlock=some g):∃c m,w.heap[g]?=some (.cells c 295 m):=by
 cases he:σ.gV j with
 |none=>rw[h.D0 j l he]at d;cases d
 |some e=>exact rL (h.su j _ (Ab.jd he)).2.1 d
def Rel.Mj {σ:Ab} (h:Rel E L σ w) (d:j < σ.nodes.length):∃c t,w.heap[L.gH j]?=some (gy c t)/\t≠138/\t≠295:=by
 have⟨c,hc⟩:=(h.su j σ.nodes[j] (qw d)).typ;refine⟨c,_,hc,?_⟩;cases σ.nodes[j]<;>(simp[A0.typ])
theorem Jv {a : Nat} {c' : jE} {t d : TypeId} {l : Nat×Nat} (h:w.heap[a]?=some (.cells c t m)) (u:w.heap[a]?=some (.cells c' d l)):t=d:=by
 grind
theorem Rel.iy {σ:Ab} (h:Rel E L σ w) (J:List Nat) (u:∀j∈J,j < σ.nodes.length) (D:∀s∈S,∃j∈J,s=L.gH j\/(L.kv j).ownBlock=some s) (G:Kept S w w') (F:σ.nodes[i]?=some nd) (z:i∉J):kM E.bs L w' i nd:=by
 have d:i < σ.nodes.length:=(List.getElem?_eq_some_iff.1 F).1;refine(h.su i nd F).kept G ?_ ?_ ?_
 .intro A;obtain⟨j,l,e|e⟩:=D _ A
  .exact z (by rw[h.inj i j e];exact l)
  .have⟨c,m,h1⟩:=h.yA (u j l) e;have⟨c',t,h2,h3,_⟩:=h.Mj d;grind
 .intro g B A;obtain⟨j,l,e|e⟩:=D _ A
  .have⟨c,m,h1⟩:=h.yA d B;have⟨c',t,h2,h3,_⟩:=h.Mj (u j l);grind
  .exact h.AL i j g d (u j l) (λH=>z (by grind)) B e
 .intro g B A;have⟨c,m,h1⟩:=h.Mk d B;obtain⟨j,l,e|e⟩:=D _ A
  .have⟨c',t,h2,_,h3⟩:=h.Mj (u j l);grind
  .have⟨c',m',h2⟩:=h.yA (u j l) e;grind
def Rel.ktJ {σ:Ab} (h:Rel E L σ w) (J:List Nat) (d:∀j∈J,(σ.gV j).isSome=true) (u:∀s∈S,∃j∈J,s=L.gH j\/(L.kv j).ownBlock=some s) (z:Kept S w w'):KT E.bs [136,138,280] w w':=by
 refine .jC z λs A _=>?_;obtain⟨j,l,e|e⟩:=u s A
 .have⟨e',he⟩:=Option.isSome_iff_exists.1 (d j l);rw[e];exact⟨⟨_,_,_,(h.su j _ (Ab.jd he)).1.ik,by simp⟩,h.bN j (Ab.ic he)⟩
 .have⟨e',he⟩:=Option.isSome_iff_exists.1 (d j l);have⟨c,m,h1⟩:=h.yA (Ab.ic he) e;exact⟨⟨_,_,_,h1,by simp⟩,((h.su j _ (Ab.jd he)).1.row.lt _ e).1⟩
def Ab.ny (σ:Ab) (i:Nat) (e:zz):(σ.gU i e).nodes.length=σ.nodes.length:=by simp[Ab.gU]
theorem Ab.iR {σ:Ab} (d:i < σ.nodes.length):(σ.gU i e).gV i=some e:=by
 grind[Ab.gV,Ab.gU]
theorem Ab.iM {σ:Ab} (d:j≠i):(σ.gU i e).gV j=σ.gV j:=by
 grind[Ab.gV,Ab.gU]
theorem Ab.nS {σ:Ab} (h:(σ.gU i e).nodes[j]?=some nd):(j=i/\nd= .el e)\/(j≠i/\σ.nodes[j]?=some nd):=by
 by_cases d:i=j
 .subst d;have l:i < σ.nodes.length:=by have:=(List.getElem?_eq_some_iff.1 h).1;simpa [Ab.gU]using this
  simp[Ab.gU,l]at h;grind
 .simp[Ab.gU,d]at h;grind
theorem Ab.qh {σ:Ab} (d:(σ.gV i).isSome=true) (x:jb):(σ.gU i e).gQ x=σ.gQ x:=by
 cases x with
 |none=>rfl
 |some j=>
  show((σ.gU i e).gV j).isSome=(σ.gV j).isSome;grind[Ab.gV,Ab.gU]
def Ab.xK {σ:Ab} (d:(σ.gV i).isSome=true) (x:jb):(σ.gU i e).lV x=σ.lV x:=by
 cases x with
 |none=>rfl
 |some j=>exact Ab.qh d (some j)
theorem Ab.kP {σ:Ab} (d:(σ.gV i).isSome=true) (k:Nd):(σ.gU i e).jg k=σ.jg k:=by
 have h:∀j,j≠i->(σ.gU i e).nodes[j]?=σ.nodes[j]?:=λj z=>by grind[Ab.gU]
 have⟨e0,he0⟩:=Option.isSome_iff_exists.1 d;have l:=Ab.jd he0;have u:(σ.gU i e).nodes[i]?=some (.el e):=by simp[Ab.gU,Ab.ic he0]
 cases k with
 |el j=>exact Ab.qh d (some j)
 |tx j=>grind[Ab.jg]
 |cm j=>grind[Ab.jg]
 |dt j=>grind[Ab.jg]
theorem Wf.gU {σ:Ab} (h:Wf σ) (l:(σ.gV i).isSome=true) (F:σ.gQ e.ja=true) (D:∀k∈e.kids,σ.jg k=true):Wf (σ.gU i e):=by
 refine⟨λx B=>by rw[Ab.xK l];exact h.gq x B,λx B=>by rw[Ab.qh l];exact h.act x B,by rw[Ab.qh l];exact h.head,by rw[Ab.qh l];exact h.form,?_,?_,?_⟩
 .intro j z u;rw[Ab.qh l];by_cases d:j=i
  .subst d;rw[Ab.iR (Ab.lN (σ:=σ) (i:=j) l)]at u;grind
  .rw[Ab.iM d]at u;exact h.ja j z u
 .intro j z u k A;rw[Ab.kP l];by_cases d:j=i
  .subst d;rw[Ab.iR (Ab.lN (σ:=σ) (i:=j) l)]at u;grind
  .rw[Ab.iM d]at u;exact h.kids j z u k A
 .have:=Ab.qh (e:=e) l (some 0);exact this.trans h.wK
theorem Rel.aa7 {σ σ':Ab} (h:Rel E L σ w) (i:Nat) (l:gG) (J:(σ.gV i).isSome=true) (Y:KT E.bs [136,138,280] w w') (R:l.ownBlock=(L.kv i).ownBlock\/∀g,l.ownBlock=some g->w.heap.size<=g)
  (d:σ'.nodes.length=σ.nodes.length) (O:∀j V,σ'.gV j=some V->∃e,σ.gV j=some e/\V.name=e.name) (H:∀j,σ'.gV j=none->σ.gV j=none)
  (U:∀j nd,σ'.nodes[j]?=some nd->kM E.bs {L with kv:=λx=>if x=i then l else L.kv x} w' j nd) (wf:Wf σ')
  (s0:σ'.gq=σ.gq:=by rfl) (s9:σ'.act=σ.act:=by rfl) (s1:σ'.head=σ.head:=by rfl) (s2:σ'.form=σ.form:=by rfl) (s3:σ'.mode=σ.mode:=by rfl) (s4:σ'.kept=σ.kept:=by rfl) (s5:σ'.iL=σ.iL:=by rfl) (s6:σ'.jB=σ.jB:=by rfl) (s7:σ'.gH=σ.gH:=by rfl) (s8:σ'.behind=σ.behind:=by rfl) (sw:σ'.waiting=σ.waiting:=by rfl) (so:σ'.nD=σ.nD:=by rfl) (sp:σ'.iX=σ.iX:=by rfl) (sf:σ'.fresh=σ.fresh:=by rfl) (Z:σ'.pL=σ.pL:=by rfl) (d2:σ'.qH=σ.qH:=by rfl) (d3:σ'.oO=σ.oO:=by rfl):To E L σ' w w':=by
 have K:=Ab.lN (σ:=σ) (i:=i) J;have X:∀j g,j < σ.nodes.length->j≠i->l.ownBlock=some g->(L.kv j).ownBlock≠some g:=by
  intro j g u B A F;rcases R with e|e
  .rw[e]at A;exact h.AL i j g K u (wR B) A F
  .have⟨c,m,hc⟩:=h.yA u F;grind
 refine⟨{L with kv:=λx=>if x=i then l else L.kv x},rfl,h.Ug (L':={L with kv:=λx=>if x=i then l else L.kv x}) Y (λ_ _=>rfl) rfl rfl rfl U h.inj ?_ ?_ ?_ ?_ wf ?_ (nf d) s0 s9 s1 s2 s3 s4 s5 s6 s7 s8 sw so sp Z d2 d3,Y.fr (by decide)⟩
 .intro a b g I D z A;rw[d]at I D;by_cases h1:a=i
  .grind
  .simp only[gI h1]at A;by_cases h2:b=i
   .grind
   .simp only[gI h2];exact h.AL a b g I D z A
 .intro j u N;rw[d]at u;have G:=H j N;have B:j≠i:=by rintro rfl;rw[G]at J;cases J
  simp only[gI B];exact h.FJ j u G
 .intro a b e g I a0 D z A;rw[d]at D;have⟨e0,h0,hnm'⟩:=O a e I;exact h.uq a b e0 g h0 (by grind) D z A
 .intro j u N;rw[d]at u;exact h.D0 j u (H j N)
 .rw[d,sf];exact h.Ck
def Rel.us {σ:Ab} (h:Rel E L σ w) (d:σ.gV i=some e):El E.bs w (L.gH i) e.name (L.av i) (iw L.gH e.ja) (L.kv i) (e.kids.map (Nd.map L.gH)):=(h.su i _ (Ab.jd d)).1
def Rel.vF {σ:Ab} (h:Rel E L σ w) (d:σ.gV i=some e):yi w (L.av i) e.gM:=(h.su i _ (Ab.jd d)).2.1
def Rel.zq {σ:Ab} (h:Rel E L σ w) (d:σ.gV i=some e):e.gM.length<=4096:=(h.su i _ (Ab.jd d)).2.2
theorem Rel.Vl {σ:Ab} (h:Rel E L σ w) {k : Nd} (d:σ.jg k=true):zA w (Nd.map L.gH k):=by
 cases k with
 |el i=>
  have⟨e,he⟩:=Option.isSome_iff_exists.1 (show(σ.gV i).isSome=true from d);exact⟨_,(h.us he).ik⟩
 |tx i=>
  simp only[Ab.jg]at d;split at d
  .rename_i s l;exact⟨_,h.su i _ l⟩
  grind
 |cm i=>
  simp only[Ab.jg]at d;split at d
  .rename_i s l;exact⟨_,h.su i _ l⟩
  grind
 |dt i=>
  simp only[Ab.jg]at d;split at d
  .rename_i s l;exact⟨_,h.su i _ l⟩
  grind
theorem X0 (d:∀i j,f i=f j->i=j) (j:Nat) (k:Nd):(Nd.map f k).gQ (f j)=k.gQ j:=by
 cases k with
 |el i=>
  grind[Nd.gQ,Nd.map]
 |tx i=>rfl
 |cm i=>rfl
 |dt i=>rfl
theorem IX (d:∀i j,f i=f j->i=j) (ks:List Nd) (j:Nat):pZ (ks.map (Nd.map f)) (Nd.gQ (f j))=pZ ks (Nd.gQ j):=by
 have:(ks.map (Nd.map f)).findIdx (Nd.gQ (f j))=ks.findIdx (Nd.gQ j):=by
  rw[List.findIdx_map]
  congr 1
  funext k
  exact X0 d j k
 grind[pZ]
def Qq {σ:Ab} (h:Rel E L σ w) (u:σ.gV i=some e):
  Calls prog 89 #[gF (L.gH i)] w λd w'=>d=ir (place (L.gH i) e.kids.length)/\Rel E L σ w'/\Kept [] w w':=by
 refine(acG E.bs _ _ _ _ _ _ w (h.us u)).mono ?_;rintro d w' ⟨rfl,l⟩;exact⟨by simp,h.ib l,l⟩
def SL {σ:Ab} (h:Rel E L σ w) (z:σ.gV i=some e) (A:e.ja=none):
  Calls prog 311 #[gF (L.gH i)] w λd w'=>d=ir (.tuple #[.agg #[.pointer none,ga 0],.bool false])/\Rel E L σ w'/\Kept [] w w':=by
 have l:=h.us z;rw[A]at l;refine(XG E.bs _ _ _ _ _ w l).mono ?_;rintro d w' ⟨rfl,u⟩;exact⟨rfl,h.ib u,u⟩
def Qr {σ:Ab} (h:Rel E L σ w) {p : Nat} {u : zz} (B:σ.gV i=some e) (D:e.ja=some p) (d:σ.gV p=some u):
  Calls prog 311 #[gF (L.gH i)] w λz w'=>z=ir (.tuple #[.agg #[gF (L.gH p),ga (pZ u.kids (Nd.gQ i))],.bool true])/\Rel E L σ w'/\Kept [] w w':=by
 have A:=h.us B;rw[D]at A;refine(Vc E.bs _ _ _ _ _ _ _ _ _ _ _ w A (h.us d) ?_).mono ?_
 .intro x F;obtain⟨k,l,rfl⟩:=List.mem_map.1 F;exact h.Vl (h.wf.kids p u d k l)
 rintro z w' ⟨rfl,l⟩;exact⟨by rw[IX h.inj],h.ib l,l⟩
theorem VY {σ:Ab} (h:Rel E L σ w) (l:σ.gV i=some e) (I:nh e.name=false):
  Calls prog 265 #[gF (L.gH i)] w λu w'=>∃L',Fb σ.nodes.length L L'/\u=ir (gF (L'.gH σ.nodes.length))/\Rel E L' (σ.add (.el {name:=e.name,gM:=e.gM,ja:=none,kids:=[]})) w'/\Fr E.bs w w':=by
 have J:=h.vF l;have U:=h.zq l;refine(GP E.bs _ _ _ _ _ _ w (h.us l)).mono ?_;rintro u w' ⟨rfl,O,F⟩;have d:=Ab.ic l;refine⟨L.new σ.nodes.length w.heap.size (L.av i) (jV),λj B=>Loc.zX B,by simp[Loc.new],?_,.gP F⟩;refine h.add (.el {name:=e.name,gM:=e.gM,ja:=none,kids:=[]}) w.heap.size (L.av i) (jV) σ.fresh F (gW _) ?_ rfl (λu R=>by grind) ?_ ?_ (λG=>absurd rfl (G _)) ?_ (λg I=>h.ab i g d I)
 .show El E.bs w' _ _ _ _ _ _/\yi w' _ _/\_;rw[Loc.sP,Loc.AM,Loc.GC];exact⟨O,F.ownsRow J (by simp),U⟩
 .intro j e2 g B A K N;by_cases D:j=i
  .grind
  .exact h.uq j i e2 g B A d D N K
 .grind
 .intro H;exact⟨H,λg z=>h.Ck H i g d z⟩
def map_eraseIdx (f:Nd->Nd):∀(d:List Nd) (n:Nat),(d.eraseIdx n).map f=(d.map f).eraseIdx n
 |[],_=>by simp
 |_::_,0=>by simp
 |k::d,n+1=>by simp[map_eraseIdx f d n]
def ins (ks:List Nd) (n:Nat) (k:Nd):List Nd:=ks.take n++[k]++ks.drop n
def Df (f:Nat->Nat) (ks:List Nd) (n:Nat) (k:Nd):(ins ks n k).map (Nd.map f)=(ks.map (Nd.map f)).take n++[Nd.map f k]++(ks.map (Nd.map f)).drop n:=by
 simp[ins]
theorem Dg {ks : List Nd} {k x : Nd} (h:x∈ins ks n k):x∈ks\/x=k:=by
 rcases List.mem_append.1 h with h|h
 all_goals grind
theorem Y1 {σ:Ab} (h:Rel E L σ w) (D:σ.gV i=some ei) (H:σ.gV j=some ej) (F:j≠i) (hn:n<=ei.kids.length) (hl:ei.kids.length < 1048576):
  Calls prog 165 #[place (L.gH i) n,(Nd.el (L.gH j)).val] w λe w'=>e=o9/\To E L ((σ.gU i {ei with kids:=ins ei.kids n (.el j)}).gU j {ej with ja:=some i}) w w':=by
 have B:=Ab.ic D;have O:=Ab.ic H;have z:(σ.gV i).isSome=true:=by rw[D];rfl
 have J:(σ.gV j).isSome=true:=by rw[H];rfl
 have Z:=h.vF D;have lI:=h.zq D;have aJ:=h.vF H;have lJ:=h.zq H;refine(Sv E.bs _ n _ _ _ _ _ _ _ _ _ _ _ w (h.us D) (h.us H) (λe=>F (h.inj _ _ e)) (λg hg=>h.AL j i g O B F hg) (by grind) (by grind) h.bw).mono ?_;rintro e w' ⟨rfl,⟨G,Y,f1⟩,E2,V⟩;have U:∀s∈L.gH j::L.gH i::(L.kv i).ownBlock.toList,∃x∈[j,i],s=L.gH x\/(L.kv x).ownBlock=some s:=by
  intro s K;rcases List.mem_cons.1 K with rfl|K
  .simp
  rcases List.mem_cons.1 K with rfl|K
  .simp
  .grind
 have X:=h.ktJ [j,i] (by grind) U V;have N:((σ.gU i {ei with kids:=ins ei.kids n (.el j)}).gV j).isSome=true:=by rw[Ab.iM F];exact J
 have I:∀x e,x < σ.nodes.length->yi w (L.av x) e->yi w' (L.av x) e:=λx e _ ha=>X.row ha (by decide);refine⟨rfl,h.aa7 i G z X f1 (by simp[Ab.gU]) ?_ ?_ ?_ ?_⟩
 .intro x e' d;by_cases u:x=j
  .subst u;rw[Ab.iR (by grind[Ab.gU])]at d;grind
  .rw[Ab.iM u]at d;by_cases l:x=i
   .subst l;rw[Ab.iR B]at d;grind
   .rw[Ab.iM l]at d;grind
 .intro x d;by_cases u:x=j
  .subst u;rw[Ab.iR (by grind[Ab.gU])]at d;cases d
  .rw[Ab.iM u]at d;by_cases l:x=i
   .subst l;rw[Ab.iR B]at d;cases d
   .rwa [Ab.iM l]at d
 .intro x nd d;rcases Ab.nS d with⟨rfl,rfl⟩|⟨u,d⟩
  .grind[kM]
  .rcases Ab.nS d with⟨rfl,rfl⟩|⟨l,d⟩
   .show El E.bs w' _ _ _ _ (if x=x then G else L.kv x) _/\_;rw[gN rfl];refine⟨?_,I x _ B Z,lI⟩;show El E.bs w' (L.gH x) ei.name (L.av x) (iw L.gH ei.ja) G ((ins ei.kids n (.el j)).map (Nd.map L.gH));rw[Df];exact Y
   .have hN:=h.iy [j,i] (by grind) U V d (by grind);have R:x < σ.nodes.length:=(List.getElem?_eq_some_iff.1 d).1;exact hN.ext (σ:=σ) (Fb.refl _ _) R rfl (gI l) (h.wfn d)
 .refine(h.wf.gU (e:={ei with kids:=ins ei.kids n (.el j)}) z (h.wf.ja i ei D) ?_).gU N ?_ ?_
  .intro k A;rcases Dg A with A|rfl
   .exact h.wf.kids i ei D k A
   .exact J
  .rw[Ab.qh z];exact z
  .intro k A;rw[Ab.kP z];exact h.wf.kids j ej H k A
theorem Qs {σ:Ab} (h:Rel E L σ w) {k : Nd} (u:σ.gV i=some ei) (X:σ.jg k=true) (R:∀j,k≠ .el j) (Z:n<=ei.kids.length) (Y:ei.kids.length < 1048576):
  Calls prog 165 #[place (L.gH i) n,(Nd.map L.gH k).val] w λe w'=>e=o9/\To E L (σ.gU i {ei with kids:=ins ei.kids n k}) w w':=by
 have B:=Ab.ic u;have A:(σ.gV i).isSome=true:=by rw[u];rfl
 have K:=h.vF u;have U:=h.zq u;refine(YH E.bs _ n _ _ _ _ _ (Nd.map L.gH k) w (h.us u) (by grind) (by grind) h.bw (λj e=>by cases k<;>simp[Nd.map]at e;grind)).mono ?_;rintro e w' ⟨rfl,⟨z,J,N⟩,D⟩;have G:∀s∈L.gH i::(L.kv i).ownBlock.toList,∃x∈[i],s=L.gH x\/(L.kv x).ownBlock=some s:=by
  intro s H;rcases List.mem_cons.1 H with rfl|H
  .simp
  .grind
 have I:=h.ktJ [i] (by grind) G D;refine⟨rfl,h.aa7 i z A I N (by simp[Ab.gU]) ?_ ?_ ?_ ?_⟩
 .intro x V d;by_cases l:x=i
  .subst l;rw[Ab.iR B]at d;grind
  .rw[Ab.iM l]at d;grind
 .intro x d;by_cases l:x=i
  .subst l;rw[Ab.iR B]at d;cases d
  .rwa [Ab.iM l]at d
 .intro x nd d;rcases Ab.nS d with⟨rfl,rfl⟩|⟨l,d⟩
  .show El E.bs w' _ _ _ _ (if x=x then z else L.kv x) _/\_;rw[gN rfl];refine⟨?_,I.row K (by decide),U⟩;show El E.bs w' (L.gH x) ei.name (L.av x) (iw L.gH ei.ja) z ((ins ei.kids n k).map (Nd.map L.gH));rw[Df];exact J
  .have O:=h.iy [i] (by grind) G D d (by grind);have F:x < σ.nodes.length:=(List.getElem?_eq_some_iff.1 d).1;exact O.ext (σ:=σ) (Fb.refl _ _) F rfl (gI l) (h.wfn d)
 .refine h.wf.gU A (h.wf.ja i ei u) ?_;intro x d;rcases Dg d with d|rfl
  .exact h.wf.kids i ei u x d
  omega
def DK {σ:Ab} (h:Rel E L σ w) (l:σ.gV j=some ej) (u:ej.ja=none):
  Calls prog 364 #[gF (L.gH j)] w λe w'=>e=o9/\w'=w:=by
 have d:=h.us l;rw[u]at d;exact SN E.bs _ _ _ _ _ w d
theorem V2 {σ:Ab} (h:Rel E L σ w) {p : Nat} {l : zz} (I:σ.gV j=some ej) (J:ej.ja=some p) (D:σ.gV p=some l) (A:j≠p) (hn:n < l.kids.length) (a0:pZ l.kids (Nd.gQ j)=(n:Int)):
  Calls prog 364 #[gF (L.gH j)] w λe w'=>e=o9/\To E L ((σ.gU p {l with kids:=l.kids.eraseIdx n}).gU j {ej with ja:=none}) w w':=by
 have G:=Ab.ic D;have U:=Ab.ic I;have H:(σ.gV p).isSome=true:=by rw[D];rfl
 have R:(σ.gV j).isSome=true:=by rw[I];rfl
 have Y:=h.us I;rw[J]at Y;have aP:=h.vF D;have lP:=h.zq D;have aJ:=h.vF I;have lJ:=h.zq I;refine(F4 E.bs _ _ n _ _ _ _ _ _ _ _ _ w Y (h.us D) ?_ (λe=>A (h.inj _ _ e)) (λg hg=>h.AL j p g U G A hg) (by grind) (by rw[IX h.inj];omega)).mono ?_
 .intro x d;obtain⟨k,K,rfl⟩:=List.mem_map.1 d;exact h.Vl (h.wf.kids p l D k K)
 rintro e w' ⟨rfl,⟨B,E1,f1⟩,E2,K⟩;have Z:∀s∈L.gH j::L.gH p::(L.kv p).ownBlock.toList,∃x∈[j,p],s=L.gH x\/(L.kv x).ownBlock=some s:=by
  intro s N;rcases List.mem_cons.1 N with rfl|N
  .simp
  rcases List.mem_cons.1 N with rfl|N
  .simp
  .grind
 have X:=h.ktJ [j,p] (by grind) Z K;have O:((σ.gU p {l with kids:=l.kids.eraseIdx n}).gV j).isSome=true:=by rw[Ab.iM A];exact R
 refine⟨rfl,h.aa7 p B H X (.inl f1) (by simp[Ab.gU]) ?_ ?_ ?_ ?_⟩
 .intro x e' d;by_cases z:x=j
  .subst z;rw[Ab.iR (by grind[Ab.gU])]at d;grind
  .rw[Ab.iM z]at d;by_cases u:x=p
   .subst u;rw[Ab.iR G]at d;grind
   .rw[Ab.iM u]at d;grind
 .intro x d;by_cases z:x=j
  .subst z;rw[Ab.iR (by grind[Ab.gU])]at d;cases d
  .rw[Ab.iM z]at d;by_cases u:x=p
   .subst u;rw[Ab.iR G]at d;cases d
   .rwa [Ab.iM u]at d
 .intro x nd d;rcases Ab.nS d with⟨rfl,rfl⟩|⟨z,d⟩
  .show El E.bs w' _ _ _ _ (if x=p then B else L.kv x) _/\_;rw[gI A];exact⟨E2,X.row aJ (by decide),lJ⟩
  .rcases Ab.nS d with⟨rfl,rfl⟩|⟨u,d⟩
   .show El E.bs w' _ _ _ _ (if x=x then B else L.kv x) _/\_;rw[gN rfl];refine⟨?_,X.row aP (by decide),lP⟩;show El E.bs w' (L.gH x) l.name (L.av x) (iw L.gH l.ja) B ((l.kids.eraseIdx n).map (Nd.map L.gH));rw[map_eraseIdx];exact E1
   .have hN:=h.iy [j,p] (by grind) Z K d (by grind);have V:x < σ.nodes.length:=(List.getElem?_eq_some_iff.1 d).1;exact hN.ext (σ:=σ) (Fb.refl _ _) V rfl (gI u) (h.wfn d)
 .refine(h.wf.gU (e:={l with kids:=l.kids.eraseIdx n}) H (h.wf.ja p l D) ?_).gU O rfl ?_
  .intro k F;exact h.wf.kids p l D k (List.mem_of_mem_eraseIdx F)
  .intro k F;rw[Ab.kP H];exact h.wf.kids j ej I k F
theorem Rel.FO {σ:Ab} (h:Rel E L σ w) (d:gn):Rel E (L.new σ.nodes.length w.heap.size (jV) (jV)) (σ.add (.el {name:=d,gM:=[],ja:=none,kids:=[]})) (w.alloc (gy #[gw d,jV,.pointer none,jV] 136)):=by
 have z:Kept [] w (w.alloc (gy #[gw d,jV,.pointer none,jV] 136)):=(Kept.refl _ _).alloc _;refine h.add (.el {name:=d,gM:=[],ja:=none,kids:=[]}) w.heap.size (jV) (jV) σ.fresh z (gW _) ?_ rfl (λe A=>by grind) (λ_ _ _ _ _ l=>by cases l) (λ_ _ _ _ _ _ l=>by cases l) (λ_=>rfl) (λu=>⟨u,λ_ _=>by simp[Value.ownBlock]⟩) (λ_ l=>by cases l);show El E.bs _ _ _ _ _ _ _/\yi _ _ _/\_;rw[Loc.sP,Loc.AM,Loc.GC];exact⟨⟨fQ w _,py _ _ _ _,by simp,⟨_,_,_,rfl⟩⟩,py _ _ _ _,by simp⟩
theorem Rel.pH {σ:Ab} (h:Rel E L σ w) (l:σ.fresh=true) (d:gn):Rel E (L.new σ.nodes.length w.heap.size E.tv (jV)) (σ.pa (.el {name:=d,gM:=E.ta,ja:=none,kids:=[]}) false) (w.alloc (gy #[gw d,E.tv,.pointer none,jV] 136)):=by
 have A:Kept [] w (w.alloc (gy #[gw d,E.tv,.pointer none,jV] 136)):=(Kept.refl _ _).alloc _;refine h.add (.el {name:=d,gM:=E.ta,ja:=none,kids:=[]}) w.heap.size E.tv (jV) false A (gW _) ?_ rfl (λe F=>by grind) (λi e g B _ u=>h.Ck l i g (Ab.ic B) u) (λe g j _ _ D u=>h.Ck l j g D u) (λz=>absurd rfl (z _)) (λl=>by cases l) h.tb;show El E.bs _ _ _ _ _ _ _/\yi _ _ _/\_;rw[Loc.sP,Loc.AM,Loc.GC];have⟨ao,cap,hv⟩:=gv h.tok;exact⟨⟨fQ w _,py _ _ _ _,by simp,⟨_,_,_,hv⟩⟩,A.ownsRow h.tok (by simp),h.KG⟩
def Rel.aed {σ:Ab} (h:Rel E L σ w) (nd:A0) (s:gn) (l:nd= .tx s\/nd= .cm s\/nd= .dt s):Rel E (L.new σ.nodes.length w.heap.size (jV) (jV)) (σ.add nd) (w.alloc (gy #[gw s] nd.typ)):=by
 have B:Kept [] w (w.alloc (gy #[gw s] nd.typ)):=(Kept.refl _ _).alloc _;have u:∀e,nd≠ .el e:=by rintro e rfl;rcases l with h|h|h<;>cases h
 refine h.add nd w.heap.size (jV) (jV) σ.fresh B (gW _) ?_ rfl (λe z=>absurd z (u e)) (λ_ _ _ _ _ d=>by cases d) (λ_ _ _ _ _ _ d=>by cases d) (λ_=>rfl) (λA=>⟨A,λ_ _=>by simp[Value.ownBlock]⟩) (λ_ d=>by cases d);rcases l with rfl|rfl|rfl
 .show _=_;rw[Loc.sP];exact fQ w _
 .show _=_;rw[Loc.sP];exact fQ w _
 .show _=_;rw[Loc.sP];exact fQ w _
def Too (E:Env) (L:Loc) (n:Nat) (σ':Ab) (w w':gr):Prop:=∃L',Fb n L L'/\Rel E L' σ' w'/\Fr E.bs w w'
def Ab.n4 (σ:Ab) (t:Nat) (s:gn):Ab:={σ with nodes:=σ.nodes.set t (.tx s)}
theorem Ab.sR {σ:Ab} (d:σ.nodes[t]?=some (.tx old)) (i:Nat):(σ.n4 t s).gV i=σ.gV i:=by
 grind[Ab.gV,Ab.n4]
def Ab.tQ {σ:Ab} (d:σ.nodes[t]?=some (.tx old)) (x:jb):(σ.n4 t s).gQ x=σ.gQ x:=by
 cases x with
 |none=>rfl
 |some i=>show((σ.n4 t s).gV i).isSome=(σ.gV i).isSome;rw[Ab.sR d]
def Ab.Qd {σ:Ab} (d:σ.nodes[t]?=some (.tx old)) (x:jb):(σ.n4 t s).lV x=σ.lV x:=by
 cases x with
 |none=>rfl
 |some i=>exact Ab.tQ d (some i)
theorem Ab.F0 {σ:Ab} (d:σ.nodes[t]?=some (.tx old)) (k:Nd):(σ.n4 t s).jg k=σ.jg k:=by
 have h:=(List.getElem?_eq_some_iff.1 d).1;have z:(σ.n4 t s).nodes[t]?=some (.tx s):=by simp[Ab.n4,h]
 have u:∀j,j≠t->(σ.n4 t s).nodes[j]?=σ.nodes[j]?:=λj l=>by grind[Ab.n4]
 cases k with
 |el j=>exact Ab.tQ d (some j)
 |tx j=>grind[Ab.jg]
 |cm j=>grind[Ab.jg]
 |dt j=>grind[Ab.jg]
theorem Gq {σ:Ab} (h:Rel E L σ w) {m : Nat} (B:σ.gV i=some ei) (Z:m < ei.kids.length) (A:ei.kids[m]= .tx t) (u:σ.nodes[t]?=some (.tx old)) (O:old.size+s.size<=1048576):
  Calls prog 172 #[place (L.gH i) (m+1),gw s] w λe w'=>e=o9/\To E L (σ.n4 t (old++s)) w w':=by
 refine(Ks E.bs _ m (L.gH t) _ old s _ _ _ _ w (h.us B) (by grind) (by simp[A,Nd.map]) (h.su t _ u) O).mono ?_;rintro e w' ⟨rfl,X,H⟩;have R:=(List.getElem?_eq_some_iff.1 u).1;have I:=h.su t _ u;have V:KT E.bs [136,138,280] w w':= .jC H (λx A _=>by simp at A;subst A;exact⟨⟨_,_,_,I,by simp⟩,h.bN t (List.getElem?_eq_some_iff.1 u).1⟩);refine⟨rfl,L,rfl,h.Ug (σ':=σ.n4 t (old++s)) V (λ_ _=>rfl) rfl rfl rfl ?_ h.inj ?_ ?_ ?_ ?_ ?_ ?_,V.fr (by decide)⟩
 .intro x nd d;by_cases D:t=x
  .subst D;simp[Ab.n4,R]at d;rw[<-d];exact X
  .have G:σ.nodes[x]?=some nd:=by simpa [Ab.n4,D]using d
   have l:=(List.getElem?_eq_some_iff.1 G).1;refine(h.su x nd G).kept H ?_ ?_ ?_
   .simp;exact λe=>D (h.inj _ _ e.symm)
   .intro g F z;simp at z;have⟨c,m',h1⟩:=h.yA l F;rw[z]at h1;exact absurd (Jv I h1) (by decide)
   .intro g F z;simp at z;have⟨c,m',h1⟩:=h.Mk l F;rw[z]at h1;exact absurd (Jv I h1) (by decide)
 .simpa [Ab.n4]using h.AL
 .intro x l d;rw[Ab.sR u]at d;exact h.FJ x (by simpa [Ab.n4]using l) d
 .intro a b e g U N K J F;rw[Ab.sR u]at U;exact h.uq a b e g U N (by simpa [Ab.n4]using K) J F
 .intro x l d;rw[Ab.sR u]at d;exact h.D0 x (by simpa [Ab.n4]using l) d
 .refine⟨λx A=>by rw[Ab.Qd u];exact h.wf.gq x A,λx A=>by rw[Ab.tQ u];exact h.wf.act x A,by rw[Ab.tQ u];exact h.wf.head,by rw[Ab.tQ u];exact h.wf.form,λi e B=>by rw[Ab.sR u]at B;rw[Ab.tQ u];exact h.wf.ja i e B,λi e B k H=>by rw[Ab.sR u]at B;rw[Ab.F0 u];exact h.wf.kids i e B k H,by rw[Ab.sR u];exact h.wf.wK⟩
 .intro Y x g l;exact h.Ck Y x g (by simpa [Ab.n4]using l)
theorem Jn {σ:Ab} (h:Rel E L σ w) (z:σ.gV i=some ei) (R:n<=ei.kids.length) (N:ei.kids.length < 1048576) (X:∀m,(G:m < ei.kids.length)->n=m+1->∀t,ei.kids[m]≠ .tx t):
  Calls prog 172 #[place (L.gH i) n,gw s] w λe w'=>e=o9/\Too E L σ.nodes.length ((σ.add (.tx s)).gU i {ei with kids:=ins ei.kids n (.tx σ.nodes.length)}) w w':=by
 have l:=Ab.ic z;refine Nn E.bs _ n _ s _ _ _ _ w (h.us z) (by grind) _ ?_ ?_
 .intro V F;have I:=(h.ib F).aed (.tx s) s (.inl rfl);have D:Fb σ.nodes.length L (L.new σ.nodes.length V.heap.size (jV) (jV)):=λj B=>Loc.zX B;have A:(σ.add (.tx s)).gV i=some ei:=by rw[Ab.tA l];exact z
  have u:(σ.add (.tx s)).jg (.tx σ.nodes.length)=true:=by simp[Ab.jg,Ab.add]
  have:=Qs I (n:=n) (k:= .tx σ.nodes.length) A u (λj e=>by cases e) R N;rw[D i l]at this;simp only[Nd.map,Loc.sP]at this;refine this.mono ?_;rintro e w' ⟨rfl,H,e2,J,K⟩;exact⟨rfl,H,λj B=>by rw[e2];exact D j B,J,(Fr.gP (F.alloc _)).trans K⟩
 .intro m G U t d;have O:m < ei.kids.length:=by simpa using G
  rw[List.getElem_map]at d;cases hq:ei.kids[m]with
  |tx t'=>grind
  |el _=>rw[hq]at d;cases d
  |cm _=>rw[hq]at d;cases d
  |dt _=>rw[hq]at d;cases d
inductive TK
 |jW (s:gn)
 |start (name:gn)
 |stop (name:gn)
 |gJ (s:gn)
 |iH (name:gn) (q:Bool)
 |lost
 |ie
structure gz where
 a:Nat
 b:Nat
 k:TK
 gM:lh:=[]
def gz.name (t:gz):gn:=match t.k with
 | .start n=>n
 | .stop n=>n
 |_=>⟨#[]⟩
def gz.jm (t:gz):lh:=match t.k with
 | .start _=>t.gM
 | .stop _=>t.gM
 |_=>[]
def gz.chars (t:gz):gn:=match t.k with
 | .jW s=>s
 |_=>⟨#[]⟩
def sM (s:gn):Bool:=kh s ⟨#[0]⟩
def lU (s:gn):Bool:=hH [⟨#[32]⟩,⟨#[9]⟩,ye,⟨#[12]⟩] s
namespace Ab
def nm (σ:Ab) (i:Nat):gn:=match σ.gV i with
 |some e=>e.name
 |none=>⟨#[]⟩
def qK (σ:Ab):jb->gn
 |some i=>σ.nm i
 |none=>⟨#[]⟩
def last (σ:Ab):jb:=io σ.gq ((σ.gq.length:Int) - 1)
def current (σ:Ab) (p:gn->Bool):Bool:=match σ.last with
 |none=>false
 |some i=>p (σ.nm i)
def pop (σ:Ab):Ab:={σ with gq:=σ.gq.dropLast}
def IW (σ:Ab) (p:gn->Bool):Ab:=if σ.current p then σ.pop else σ
def Ao (σ:Ab) (p:gn->Bool):kL->kL
 |[]=>[]
 |x::r=>if p (σ.qK x)then r else Ao σ p r
def EN (σ:Ab) (p:gn->Bool):Ab:={σ with gq:=(Ao σ p σ.gq.reverse).reverse}
def pU (σ:Ab) (p:gn->Bool):kL->kL
 |[]=>[]
 |x::r=>if p (σ.qK x)then pU σ p r else x::r
def wH (σ:Ab) (p:gn->Bool):Ab:={σ with gq:=(pU σ (λs=>!(p s||hH [fP] s)) σ.gq.reverse).reverse}
def mG (σ:Ab):Ab:={σ with gq:=(pU σ uw σ.gq.reverse).reverse}
def xi (σ:Ab) (p b:gn->Bool):kL->Bool
 |[]=>false
 |x::r=>if p (σ.qK x)then true else if b (σ.qK x)then false else xi σ p b r
def inScope (σ:Ab) (p b:gn->Bool):Bool:=xi σ p b σ.gq.reverse
def nQ (σ:Ab) (d:Nat):kL->Bool
 |[]=>false
 |x::r=>if x=some d then true else if iJ (σ.qK x)then false else nQ σ d r
def oB (σ:Ab) (d:Nat):Bool:=nQ σ d σ.gq.reverse
def close (σ:Ab) (p b:gn->Bool):Ab:=if σ.inScope p b then σ.EN p else σ
end Ab
def Ct:gn->Bool:=λs=>iJ s||hH [gS] s
def abT:gn->Bool:=λs=>iJ s||hH [oj] s
def Aj:gn->Bool:=hH [fP,fR]
def Ak:gn->Bool:=hH [fR,fW,fX,fY,gX]
def adZ (x:jb):M Nat:=λσ=>match x with
 |some i=>if (σ.gV i).isSome then .ok i σ else .stuck
 |none=> .stuck
def jt (i:Nat):M (Nat×Nat):=λσ=>match σ.gV i with
 |some e=> .ok (i,e.kids.length) σ
 |none=> .stuck
def rI (σ:Ab):kL->Option (jb)
 |[]=>none
 |x::r=>if !kh (σ.qK x) fR||x=io σ.gq 0 then rI σ r else some x
def pC.isOk {α:Type}:pC α->Bool
 | .ok _ _=>true
 |_=>false
def mF (i:Nat):M (Nat×Nat):=λσ=>match σ.gV i with
 |some e=>match e.ja with
  |some p=>match σ.gV p with
   |some ep=>if 0<=pZ ep.kids (Nd.gQ i)then .ok (p,(pZ ep.kids (Nd.gQ i)).toNat) σ else .stuck
   |none=> .stuck
  |none=>match io σ.gq (posOf σ.gq (some i) - 1)with
   |some q=>jt q σ
   |none=> .stuck
 |none=> .stuck
def Ab.Al (σ:Ab):Bool:=σ.gq.all λx=>match x with
 |some i=>!kh (σ.nm i) fR||decide (some i=io σ.gq 0)||(mF i σ).isOk
 |none=>false
def jO:M (Nat×Nat):=λσ=>if σ.Al then (match rI σ σ.gq.reverse with
 |some (some i)=>mF i σ
 |some none=> .stuck
 |none=>match io σ.gq 0 with
  |some q=>jt q σ
  |none=> .stuck)else .stuck
theorem pj {σ σ1:Ab} (h:jt i σ= .ok pl σ1):σ1=σ:=by
 unfold jt at h;grind
theorem A7 {σ σ1:Ab} (h:mF i σ= .ok pl σ1):σ1=σ:=by
 unfold mF at h;split at h
 .split at h
  .grind
  .split at h
   .exact pj h
   grind
 grind
theorem oy {σ σ1:Ab} (h:jO σ= .ok pl σ1):σ1=σ:=by
 unfold jO at h;split at h
 .split at h
  .exact A7 h
  .cases h
  .split at h
   .exact pj h
   grind
 grind
def placeFor (i:Nat):M (Nat×Nat):=λσ=>if σ.iL&&Ak (σ.nm i)then jO σ else jt i σ
def mU:M (Nat×Nat):=λσ=>match σ.last with
 |some i=>placeFor i σ
 |none=> .stuck
def mP (pl:Nat×Nat) (j:Nat):M Unit:=λσ=>match σ.gV pl.1,σ.gV j with
 |some ei,some ej=>if j≠pl.1/\pl.2<=ei.kids.length/\ei.kids.length < 1048576 then .ok () ((σ.gU pl.1 {ei with kids:=ins ei.kids pl.2 (.el j)}).gU j {ej with ja:=some pl.1})else .stuck
 |_,_=> .stuck
def zl (pl:Nat×Nat) (k:Nd):M Unit:=λσ=>match σ.gV pl.1 with
 |some ei=>if σ.jg k=true/\pl.2<=ei.kids.length/\ei.kids.length < 1048576 then .ok () (σ.gU pl.1 {ei with kids:=ins ei.kids pl.2 k})else .stuck
 |none=> .stuck
def ux (pl:Nat×Nat) (s:gn):M Unit:=λσ=>match σ.gV pl.1 with
 |some ei=>if pl.2<=ei.kids.length/\ei.kids.length < 1048576 then
   match (if pl.2=0 then none else ei.kids[pl.2 - 1]?)with
   |some (.tx t)=>match σ.nodes[t]? with
    |some (.tx old)=>if old.size+s.size<=1048576 then .ok () (σ.n4 t (old++s))else .stuck
    |_=> .stuck
   |_=> .ok () ((σ.add (.tx s)).gU pl.1 {ei with kids:=ins ei.kids pl.2 (.tx σ.nodes.length)})
  else .stuck
 |none=> .stuck
def wN (x:jb):M Unit:=λσ=>if σ.pL<=σ.gq.length then .stop 5 σ.gH else if σ.lV x then .ok () {σ with gq:=σ.gq++[x]} else .stuck
def mn (j:Nat):M Unit:=do
 let pl <-mU
 mP pl j
 wN (some j)
 return ()
def FO (d:gn):M Nat:=λσ=> .ok σ.nodes.length (σ.add (.el {name:=d,gM:=[],ja:=none,kids:=[]}))
def gz.oT (t:gz):Bool:=match t.k with
 | .start _=>true
 | .stop _=>true
 |_=>false
def pH (t:gz):M Nat:=λσ=>if σ.fresh&&t.oT then .ok σ.nodes.length (σ.pa (.el {name:=t.name,gM:=t.jm,ja:=none,kids:=[]}) false)else .stuck
def j7 (d:gn):M Unit:=do
 let j <-FO d
 mn j
 return ()
def jn (t:gz):M Unit:=do
 let j <-pH t
 mn j
 return ()
def xP:M (jb):=λσ=> .ok σ.last σ.pop
def lr (t:gz):M Unit:=do
 jn t
 let _ <-xP
 return ()
def jR (t:gz):M Unit:=do
 let pl <-mU
 ux pl t.chars
 return ()
def Rel.drewN {σ:Ab} (h:Rel E L σ w) (q:Nat):Rel E L σ (w.drewN q):=h.ib ((Kept.refl _ _).drewN q)
def Fr.drewN (w:gr) (q:Nat):Fr bs w (w.drewN q):= .gP ((Kept.refl _ _).drewN q)
def lL (w:gr) (k c p:Nat):Prop:=w.heap[k]?=some (gy #[ga c,ga p] 78)
abbrev qs (k:Nat):Ending:= .panicked [{v:= .iface 73 (gF k),recovered:=false}]
abbrev Bp (E:Env):gG:=gF E.bB
def NH {σ:Ab} (h:Rel E L σ w) (c:Nat):
  Calls prog 260 #[Bp E,ga c] w λe w'=>∃k,e=qs k/\lL w' k c σ.gH/\Fr E.bs w w':=by
 have z:=h.Ri;have u:=h.lt;have l:=Fr.gP (bs:=E.bs) ((Kept.refl [] w).alloc (gy #[ga c,ga σ.gH] 78));have d:=fQ w (gy #[ga c,ga σ.gH] 78);go_enter func260,ntmps260;go_wp2;exact⟨rfl,_,rfl,d,l⟩
def Rel.Vt {σ:Ab} (h:Rel E L σ w):zT ⟨E.bB,188,none⟩ w=σ.gq.length:=by
 have⟨C,hL,_⟩:=h.yD;rw[hL.zT,Bj]
def vr (xs:kL) (y:jb):io (xs++[y]) (((xs++[y]).length:Int) - 1)=y:=H8 xs y
def Ye:io ([]:kL) ((([]:kL).length:Int) - 1)=none:=rfl
theorem wg (xs:kL):xs=[]\/∃d y,xs=d++[y]:=by
 rcases Zh xs with h|⟨zs,y,h⟩
 all_goals grind
theorem Rel.nU {σ:Ab} (h:Rel E L σ w) (d:x∈σ.gq):∃i e,x=some i/\σ.gV i=some e:=by
 have:=h.wf.gq x d;cases x with
 |none=>cases this
 |some i=>
  have⟨e,he⟩:=Option.isSome_iff_exists.1 (show(σ.gV i).isSome=true from this);grind
def Rel.uK {σ:Ab} (h:Rel E L σ w) (d:σ.gV i=some e):w.cell? ⟨L.gH i,0,none⟩=some (gw (σ.nm i)):=by
 have:σ.nm i=e.name:=by unfold Ab.nm;rw[d]
 rw[this,fO (h.us d).ik];rfl
def Ask.fr' (h:Ask bm v p w) (d:Fr bs w w'):Ask bm v p w':=h.fr (d.n bm)
def yp {σ:Ab} (h:Rel E L σ w) (v:gG) (p:gn->Bool) (B:Ask E.bm v p w):
  Calls prog 210 #[Bp E,v] w λe w'=>e=ir (.bool (σ.current p))/\w'=w:=by
 obtain⟨k,J,rfl,I,D⟩:=B.call;have l:=Se h;rcases wg σ.gq with u|⟨K,y,u⟩
 .have d:σ.current p=false:=by unfold Ab.current Ab.last;rw[u];rfl
  rw[d];rw[u,Ye]at l;have z:=fN l;clear l;go_enter func210,ntmps210;go_wp21;refine z.mono ?_;rintro e w' ⟨rfl,rfl⟩;go_wp2;go_ret;simp
 .obtain⟨i,H,rfl,F⟩:=h.nU (x:=y) (by rw[u];simp);have d:σ.current p=p (σ.nm i):=by unfold Ab.current Ab.last;rw[u,vr]
  rw[d];rw[u,vr]at l;have G:=h.uK F;have z:=fN (show Calls prog 169 #[lK E.bB 188] w (λe w'=>e=ir (gF (L.gH i))/\w'=w)from l);have A:=D w (vE.refl _ _) (σ.nm i);generalize p (σ.nm i)=r at A|-;clear l;go_enter func210,ntmps210;go_wp21;refine z.mono ?_;rintro e w' ⟨rfl,rfl⟩;go_wp21;refine A.mono ?_;rintro e w' ⟨rfl,rfl⟩;go_wp2;go_ret;simp
def YB {σ:Ab} (h:Rel E L σ w) (v:gG) (p:gn->Bool) (u:Ask E.bm v p w):
  Calls prog 231 #[Bp E,v] w λe w'=>e=o9/\To E L (σ.IW p) w w':=by
 have d:=yp h v p u;have z:=PA h;have A:=h.to (Fr.refl w);obtain⟨k,B,rfl,_,_⟩:=u.call;unfold Ab.IW;cases hcur:σ.current p with
 |false=>
  rw[hcur]at d;go_enter func231,ntmps231;go_wp21;refine d.mono ?_;rintro e w' ⟨rfl,rfl⟩;go_wp2;go_end0;exact⟨rfl,A⟩
 |true=>
  rw[hcur]at d;go_enter func231,ntmps231;go_wp21;refine d.mono ?_;rintro e w' ⟨rfl,rfl⟩;go_wp21;refine z.mono ?_;rintro e w' ⟨rfl,l⟩;go_wp2;go_end0;exact⟨rfl,l⟩
structure L8 (E:Env) (L:Loc) (σ:Ab) (w:gr) (ys:kL) (wr:gr):Prop where
 ex:∃L1,L1.gH=L.gH/\Rel E L1 {σ with gq:=ys} wr/\Fr E.bs w wr
def abv {σ:Ab} (h:Rel E L σ w) (v:gG) (p:gn->Bool) (ha:Ask E.bm v p w):
  Calls prog 283 #[Bp E,v] w λe w'=>e=o9/\To E L (σ.EN p) w w':=by
 obtain⟨k,lb,rfl,he,HC⟩:=ha.call;have Z:Hid (L8 E L σ w σ.gq w):=fN ⟨L,rfl,h,Fr.refl w⟩;go_enter func283,ntmps283;go_wp2
 go_loopw [] (λwr=>∃F,σ.Ao p F.reverse=σ.Ao p σ.gq.reverse/\L8 E L σ w F wr) (λwr=>zT ⟨E.bB,188,none⟩ wr)
 case atStart=>exact⟨_,rfl,Z⟩
 case round=>
  have⟨F,hu,⟨L1,e1,hR,HFR⟩⟩:=hrel;have U:=fN e1;clear e1;have J:=fN hR.Vt;have z:=Yu hR;have G:=PA hR;rcases wg F with rfl|⟨zs,y,rfl⟩
  .have I:Hid (To E L (σ.EN p) w wr):=by
    refine⟨L1,U,?_,HFR⟩;have:(σ.Ao p σ.gq.reverse).reverse=[]:=by rw[<-hu];rfl
    unfold Ab.EN;rw[this];exact hR
   clear hR hu;go_wp21;refine z.mono ?_;rintro e w' ⟨rfl,rfl⟩;go_wp2;go_end0;exact⟨rfl,I⟩
  .obtain⟨i,e0,rfl,N⟩:=hR.nU (x:=y) (by simp);have R:σ.Ao p ((zs++[some i]).reverse)=if p (σ.nm i)then zs.reverse else σ.Ao p zs.reverse:=by rw[Um];rfl
   rw[R]at hu;have X:0 < (zs++[some i]).length:=by simp
   dsimp only at z G;rw[vr]at G;have H:=(show Calls prog 174 #[lK E.bB 188] wr (λe w'=>e=ir (gF (L1.gH i))/\To E L1 {σ with gq:=(zs++[some i]).dropLast} wr w')from G);have B:=fN hu;have u:(0:Int) < ((zs++[some i]).length:Int):=by omega
   obtain⟨m,Y⟩:∃m,m=(zs++[some i]).length:=⟨_,rfl⟩;have HM:=fN (show m=zs.length+1 by rw[Y];simp);dsimp only at J;rw[<-Y]at z u J;clear hR hu;go_wp21;refine z.mono ?_;rintro e w' ⟨rfl,rfl⟩;go_wp21;refine H.mono ?_;rintro e D ⟨rfl,L2,e2,d,l⟩;rw[Un]at d;have O:Ab.gV {σ with gq:=zs} i=some e0:=N;have c0:D.cell? ⟨L1.gH i,0,none⟩=some (gw (σ.nm i)):=by rw[<-e2];exact d.uK O
   have A:=HC D ((HFR.trans l).n _) (σ.nm i);have K:=fN d.Vt;have V:Hid (L8 E L σ w zs D):=⟨L2,e2.trans U,d,HFR.trans l⟩;clear d;cases hq:p (σ.nm i)with
   |true=>
    rw[hq]at A B;have I:Hid (To E L (σ.EN p) w D):=by
     have⟨L3,e3,hR3,hf3⟩:=V.ex;refine⟨L3,e3,?_,hf3⟩;have:(σ.Ao p σ.gq.reverse).reverse=zs:=by rw[<-B.out,gN rfl,List.reverse_reverse]
     unfold Ab.EN;rw[this];exact hR3
    go_wp21;refine A.mono ?_;rintro e w' ⟨rfl,rfl⟩;go_wp2
    (try simp only[Exit.inBlock,Exit.then])
    refine o0 (F8 rfl _ _ _) rfl ?_;exact⟨rfl,I⟩
   |false=>
    rw[hq]at A B;go_wp21;refine A.mono ?_;rintro e w' ⟨rfl,rfl⟩;go_wp2;go_roundw
    case rel=>exact⟨zs,by rw[<-B.out];rfl,V⟩
    case measure=>rw[K.out,J.out,HM.out];simp
def X2 (bm:Nat) (d:List gn) (w:gr) (h:d.length<=4096):
  Calls prog 215 #[nI w.heap.size d.length d.length] (w.alloc (gy (d.map Value.string).toArray 9)) λe w'=>∃f a l,e=ir (.func f a l)/\Ask bm (.func f a l) (hH d) w'/\Kept [] w w':=by
 refine(MY bm w.heap.size d.length d _ (fQ w _) h).mono ?_;rintro e w' ⟨⟨v,rfl,u⟩,z⟩;obtain⟨k,A,rfl,_,_⟩:=u.call;exact⟨_,_,_,rfl,u,(((Kept.refl [] w).alloc _).trans z)⟩
theorem ab3 (bm:Nat) (v1 v2:gG) (p q:gn->Bool) (w:gr) (h:Ask bm v1 p w) (u:Ask bm v2 q w):
  Calls prog 235 #[v1,v2] w λe w'=>∃f a l,e=ir (.func f a l)/\Ask bm (.func f a l) (λs=>p s||q s) w'/\Kept [] w w':=by
 refine(adg bm v1 v2 p q w h u).mono ?_;rintro e w' ⟨⟨v,rfl,d⟩,z⟩;obtain⟨k,A,rfl,_,_⟩:=d.call;grind
def Ask.k0 (h:Ask bm v p w) (d:Kept [] w w'):Ask bm v p w':=h.fr (.gP d)
def Rk {σ:Ab} (h:Rel E L σ w) (f:Fn) (a l:jE) (p:gn->Bool) (ha:Ask E.bm (.func f a l) p w):
  Calls prog 212 #[Bp E,.func f a l] w λe w'=>e=o9/\To E L (σ.wH p) w w':=by
 have H:=h;have HA:=ha;have CI:=X2 E.bm [fP] w (by decide);go_enter func212,ntmps212;go_wp21;refine CI.mono ?_;rintro e w1 ⟨f1,a1,l1,rfl,a3,F⟩;have CO:=ab3 E.bm _ _ _ _ w1 (HA.k0 F) a3;go_wp21;refine CO.mono ?_;rintro e w2 ⟨f2,a2,l2,rfl,D,a4⟩;have G:=F.trans a4;have H2:=H.ib G;obtain⟨q,hq⟩:∃q,q=(λs=>p s||hH [fP] s):=⟨_,rfl⟩;rw[<-hq]at D;have I:Hid (∀wr,(∃A,A.gH=L.gH/\Rel E A {σ with gq:=(σ.pU (λs=>!q s) σ.gq.reverse).reverse} wr/\Fr E.bs w wr)->To E L (σ.wH p) w wr):=by
  rintro wr ⟨A,e1,d,K⟩;refine⟨A,e1,?_,K⟩;unfold Ab.wH
  rwa [hq]at d
 have H0:Hid (L8 E L σ w σ.gq w2):=fN ⟨L,rfl,H2,.gP G⟩;go_wp2
 go_loopw [] (λwr=>∃R,σ.pU (λs=>!q s) R.reverse=σ.pU (λs=>!q s) σ.gq.reverse/\Fr E.bs w2 wr/\L8 E L σ w R wr) (λwr=>zT ⟨E.bB,188,none⟩ wr)
 case atStart=>exact⟨_,rfl,Fr.refl _,H0⟩
 case round=>
  have⟨R,hu,hf2,⟨A,E1,d,K⟩⟩:=hrel;have Z:=fN d.Vt;have B:=Yu d;have CC:=yp d _ _ (D.fr' hf2);rcases wg R with rfl|⟨zs,y,rfl⟩
  .have Y:Hid (To E L (σ.wH p) w wr):=by
    refine I wr ⟨A,E1,?_,K⟩;have:(σ.pU (λs=>!q s) σ.gq.reverse).reverse=[]:=by rw[<-hu];rfl
    rw[this];exact d
   clear d hu;go_wp21;refine B.mono ?_;rintro e w' ⟨rfl,rfl⟩;go_wp2;go_end0;exact⟨rfl,Y⟩
  .obtain⟨i,e0,rfl,hi⟩:=d.nU (x:=y) (by simp);have a5:σ.pU (λs=>!q s) ((zs++[some i]).reverse)=if (!q (σ.nm i))=true then σ.pU (λs=>!q s) zs.reverse else some i::zs.reverse:=by rw[Um];rfl
   rw[a5]at hu;have J:Ab.current {σ with gq:=zs++[some i]} q=q (σ.nm i):=by unfold Ab.current Ab.last;rw[vr];rfl
   rw[J]at CC;have z:=CC;have O:=fN hu;have X:=K;have U:=hf2;have CP:=PA d;obtain⟨m,hm⟩:∃m,m=(zs++[some i]).length:=⟨_,rfl⟩;have a6:(0:Int) < (m:Int):=by rw[hm];simp
   have HM:=fN (show m=zs.length+1 by rw[hm];simp);dsimp only at Z B;rw[<-hm]at B Z;cases hqq:q (σ.nm i)with
   |true=>
    rw[hqq]at z O;have Y:Hid (To E L (σ.wH p) w wr):=by
     refine I wr ⟨A,E1,?_,K⟩;have:(σ.pU (λs=>!q s) σ.gq.reverse).reverse=zs++[some i]:=by rw[<-O.out];simp
     rw[this];exact d
    clear d hu;go_wp21;refine B.mono ?_;rintro e w' ⟨rfl,rfl⟩;go_wp21;refine z.mono ?_;rintro e w' ⟨rfl,rfl⟩;go_wp2;go_end0;exact⟨rfl,Y⟩
   |false=>
    rw[hqq]at z O;clear d hu;go_wp21;refine B.mono ?_;rintro e w' ⟨rfl,rfl⟩;go_wp21;refine z.mono ?_;rintro e w' ⟨rfl,rfl⟩;go_wp21;refine CP.mono ?_;rintro e w3 ⟨rfl,L2,e2,u,N⟩
    try dsimp only at u
    rw[Un]at u;have a0:=fN u.Vt;have HP:Hid (L8 E L σ w zs w3):=⟨L2,e2.trans E1,u,X.trans N⟩;have V:=U.trans N;clear u;go_wp2;go_roundw
    case rel=>exact⟨zs,by rw[<-O.out];rfl,V,HP⟩
    case measure=>rw[a0.out,Z.out,HM.out];simp
def Rel.aag {σ:Ab} (h:Rel E L σ w):∃f a l,w.cell? ⟨E.bB,185,none⟩=some (.func f a l)/\Ask E.bm (.func f a l) uw w:=by
 have⟨v,hv,ha⟩:=h.env.Ve;obtain⟨k,d,rfl,_,_⟩:=ha.call;exact⟨_,_,_,h.low (by decide) hv,ha.fr' h.fr⟩
def Rel.GG {σ:Ab} (h:Rel E L σ w):∃f a l,w.cell? ⟨E.bB,184,none⟩=some (.func f a l)/\Ask E.bm (.func f a l) kQ w:=by
 have⟨v,hv,ha⟩:=h.env.spec;obtain⟨k,d,rfl,_,_⟩:=ha.call;exact⟨_,_,_,h.low (by decide) hv,ha.fr' h.fr⟩
def Rel.bounds {σ:Ab} (h:Rel E L σ w):∃f a l,w.cell? ⟨E.bB,186,none⟩=some (.func f a l)/\Ask E.bm (.func f a l) iJ w:=by
 have⟨v,hv,ha⟩:=h.env.UP;obtain⟨k,d,rfl,_,_⟩:=ha.call;exact⟨_,_,_,h.low (by decide) hv,ha.fr' h.fr⟩
def Ih {σ:Ab} (h:Rel E L σ w):
  Calls prog 278 #[Bp E] w λe w'=>e=o9/\To E L σ.mG w w':=by
 have X:Hid (L8 E L σ w σ.gq w):=fN ⟨L,rfl,h,Fr.refl w⟩;have B:Hid (∀wr,(∃D,D.gH=L.gH/\Rel E D {σ with gq:=(σ.pU uw σ.gq.reverse).reverse} wr/\Fr E.bs w wr)->To E L σ.mG w wr):=by
  rintro wr ⟨D,e1,l,F⟩;exact⟨D,e1,l,F⟩
 generalize hq:uw=q at B;have HQ:=fN hq;clear hq;go_enter func278,ntmps278;go_wp2
 go_loopw [] (λwr=>∃H,σ.pU q H.reverse=σ.pU q σ.gq.reverse/\L8 E L σ w H wr) (λwr=>zT ⟨E.bB,188,none⟩ wr)
 case atStart=>exact⟨_,rfl,X⟩
 case round=>
  have⟨H,hu,⟨D,E1,l,F⟩⟩:=hrel;have K:=fN l.Vt;have⟨f1,a1,l1,c1,ha1⟩:=l.aag;rw[HQ.out]at ha1;have A:=yp l _ _ ha1;rcases wg H with rfl|⟨zs,y,rfl⟩
  .have J:Hid (To E L σ.mG w wr):=by
    refine B wr ⟨D,E1,?_,F⟩;have:(σ.pU q σ.gq.reverse).reverse=[]:=by rw[<-hu];rfl
    rw[this];exact l
   have z:Ab.current {σ with gq:=[]} q=false:=rfl;rw[z]at A;have d:=fN A;clear l hu A;go_wp21;refine d.mono ?_;rintro e w' ⟨rfl,rfl⟩;go_wp2;go_end0;exact⟨rfl,J⟩
  .obtain⟨i,e0,rfl,hi⟩:=l.nU (x:=y) (by simp);have R:σ.pU q ((zs++[some i]).reverse)=if q (σ.nm i)=true then σ.pU q zs.reverse else some i::zs.reverse:=by rw[Um];rfl
   rw[R]at hu;have z:Ab.current {σ with gq:=zs++[some i]} q=q (σ.nm i):=by unfold Ab.current Ab.last;rw[vr];rfl
   rw[z]at A;have d:=fN A;have G:=fN hu;have I:=F;have V:=PA l;obtain⟨m,U⟩:∃m,m=(zs++[some i]).length:=⟨_,rfl⟩;have Y:=fN (show m=zs.length+1 by rw[U];simp);dsimp only at K;rw[<-U]at K;cases hqq:q (σ.nm i)with
   |false=>
    rw[hqq]at d G;have J:Hid (To E L σ.mG w wr):=by
     refine B wr ⟨D,E1,?_,F⟩;have:(σ.pU q σ.gq.reverse).reverse=zs++[some i]:=by rw[<-G.out];simp
     rw[this];exact l
    clear l hu A;go_wp21;refine d.mono ?_;rintro e w' ⟨rfl,rfl⟩;go_wp2;go_end0;exact⟨rfl,J⟩
   |true=>
    rw[hqq]at d G;clear l hu A;go_wp21;refine d.mono ?_;rintro e w' ⟨rfl,rfl⟩;go_wp21;refine V.mono ?_;rintro e w3 ⟨rfl,L2,e2,u,O⟩
    try dsimp only at u
    rw[Un]at u;have N:=fN u.Vt;have Z:Hid (L8 E L σ w zs w3):=⟨L2,e2.trans E1,u,I.trans O⟩;clear u;go_wp2;go_roundw
    case rel=>exact⟨zs,by rw[<-G.out];rfl,Z⟩
    case measure=>rw[N.out,K.out,Y.out];simp
def RF (E:Env) (f:Nat->Nat) (σ:Ab) (w:gr):Prop:=∃L,L.gH=f/\Rel E L σ w
def QZ (n:Nat) (f g:Nat->Nat):Prop:=∀i,i < n->g i=f i
def Leaves {α:Type} (E:Env) (f:Nat->Nat) (n:Nat) (w:gr) (r:pC α) (d:(Nat->Nat)->α->gG) (e:Ending) (w':gr):Prop:=match r with
 | .ok a σ'=>∃g,QZ n f g/\n<=σ'.nodes.length/\e=ir (d g a)/\RF E g σ' w'/\Fr E.bs w w'
 | .stop c p=>∃k,e=qs k/\lL w' k c p/\Fr E.bs w w'
 | .stuck=>False
def iU {α:Type} (E:Env) (k:Nat) (args:(Nat->Nat)->jE) (m:M α) (d:(Nat->Nat)->α->gG):Prop:=
 ∀f σ w,RF E f σ w->m σ≠ .stuck->Calls prog k (args f) w (Leaves E f σ.nodes.length w (m σ) d)
abbrev uV (_:Nat->Nat) (_:Unit):gG:= .tuple #[]
abbrev bV (_:Nat->Nat) (b:Bool):gG:= .bool b
abbrev nV (f:Nat->Nat) (i:Nat):gG:=gF (f i)
abbrev oV (f:Nat->Nat) (x:jb):gG:=jY (iw f x)
abbrev pV (f:Nat->Nat) (pl:Nat×Nat):gG:= .agg #[gF (f pl.1),ga pl.2]
structure At (E:Env) (f0:Nat->Nat) (n0:Nat) (w0:gr) (f:Nat->Nat) (σ:Ab) (w:gr):Prop where
 rel:RF E f σ w
 ext:QZ n0 f0 f
 le:n0<=σ.nodes.length
 fr:Fr E.bs w0 w
 hw:E.w0.heap.size<=w0.heap.size
def At.start {σ:Ab} (h:RF E f σ w):At E f σ.nodes.length w f σ w:=⟨h,λ_ _=>rfl,gW _,Fr.refl _,by have⟨L,_,hr⟩:=h;exact hr.fr.size⟩
def RF.ib {σ:Ab} (h:RF E f σ w) (d:Kept [] w w'):RF E f σ w':=by have⟨L,e,hr⟩:=h;exact⟨L,e,hr.ib d⟩
def Ux:List TypeId:=[136,138,280,235,239,295,176,65,121,161]
theorem Rel.side {σ:Ab} (h:Rel E L σ w) {T : TypeId} (B:w.heap[b]?=some (.cells c T m)) (G:∀t∈Ux,t≠T) (z:E.w0.heap.size<=b) (j:Nat) (u:gG):Rel E L σ (w.setCell ⟨b,j,none⟩ u):=by
 have l:KT E.bs [T] w (w.setCell ⟨b,j,none⟩ u):= .jC ((Kept.refl [b] w).setCell (.inl (by simp)) u) (λk A _=>by simp at A;subst A;exact⟨⟨_,_,_,B,by simp⟩,jH h.bz z⟩);have d:∀t∈Ux,t∉[T]:=λt F=>by grind
 have⟨C,hbl,hC⟩:=h.ik;exact {h with
  fr:=by
   have⟨S,A,hS⟩:=h.fr;exact⟨S,A.setCell (.inr z) u,hS⟩
  su:=λi nd D=>(h.su i nd D).kt l (λt F=>d t (by revert t;decide))
  ik:=⟨C,l.at hbl (d _ (by decide)),hC⟩
  oP:=l.row h.oP (d _ (by decide))
  pR:=l.row h.pR (d _ (by decide))
  oL:=l.row h.oL (d _ (by decide))
  rd:=l.at h.rd (d _ (by decide))
  tok:=l.row h.tok (d _ (by decide))}
section
variable {α β:Type} {E:Env} {f0:Nat->Nat} {n0:Nat} {w0:gr} {f:Nat->Nat} {σ:Ab} {w:gr}
def At.side (h:At E f0 n0 w0 f σ w) {b:Nat} {c:jE} {T:TypeId} {m:Nat×Nat} (z:w.heap[b]?=some (.cells c T m)) (l:∀t∈Ux,t≠T) (d:w0.heap.size<=b) (j:Nat) (u:gG):At E f0 n0 w0 f σ (w.setCell ⟨b,j,none⟩ u):=by
 have⟨L,e,hr⟩:=h.rel;refine⟨⟨L,e,hr.side z l (jH h.hw d) j u⟩,h.ext,h.le,?_,h.hw⟩;have⟨S,hk,hS⟩:=h.fr;exact⟨S,hk.setCell (.inr d) u,hS⟩
def At.k0 (h:At E f0 n0 w0 f σ w) {w':gr} (d:Kept [] w w'):At E f0 n0 w0 f σ w':=⟨h.rel.ib d,h.ext,h.le,h.fr.trans (.gP d),h.hw⟩
def At.to (h:At E f0 n0 w0 f σ w) {σ':Ab} {w':gr} (u:RF E f σ' w') (l:σ.nodes.length<=σ'.nodes.length) (d:Fr E.bs w w'):At E f0 n0 w0 f σ' w':=⟨u,h.ext,jH h.le l,h.fr.trans d,h.hw⟩
def At.go (h:At E f0 n0 w0 f σ w) {g:Nat->Nat} {σ':Ab} {w':gr} (z:RF E g σ' w') (A:QZ σ.nodes.length f g) (u:σ.nodes.length<=σ'.nodes.length) (l:Fr E.bs w w'):At E f0 n0 w0 g σ' w':=
 ⟨z,λi d=>(A i (mf d h.le)).trans (h.ext i d),jH h.le u,h.fr.trans l,h.hw⟩
def fZ {R:pC α} {a:α} {d:(Nat->Nat)->α->gG} (l:R= .ok a σ) (h:At E f0 n0 w0 f σ w) {e:Ending} (u:e=ir (d f a)):Leaves E f0 n0 w0 R d e w:=by
 subst l;exact⟨f,h.ext,h.le,u,h.rel,h.fr⟩
theorem oU {R:pC α} {d:(Nat->Nat)->α->gG} {c p j:Nat} (h:R= .stop c p) (u:lL w j c p) (l:Fr E.bs w0 w):Leaves E f0 n0 w0 R d (qs j) w:=by
 grind[Leaves]
theorem iU.call {k:Nat} {args:(Nat->Nat)->jE} {m:M α} {u:(Nat->Nat)->α->gG} (D:iU E k args m u) (H:At E f0 n0 w0 f σ w) {R:pC β} {K:α->M β} (l:R=(m>>=K) σ) (V:R≠ .stuck) {A:jE} (hA:args f=A) {Q:Ending->gr->Prop}
  (G:∀c p j w',R= .stop c p->lL w' j c p->Fr E.bs w0 w'->Q (qs j) w')
  (F:∀a g d w',At E f0 n0 w0 g d w'->QZ σ.nodes.length f g->Fr E.bs w w'->R=K a d->Q (ir (u g a)) w'):Calls prog k A w Q:=by
 rw[M.gm]at l;have N:m σ≠ .stuck:=λe=>V (by grind);have h:=D f σ w H.rel N;rw[hA]at h;refine h.mono ?_;intro e w' z;cases hr:m σ with
 |ok a d=>
  rw[hr]at z l;obtain⟨g,I,B,rfl,U,J⟩:=z;exact F a g d w' (H.go U I B J) I J l
 |stop c p=>
  rw[hr]at z l;obtain⟨j,rfl,B,O⟩:=z;exact G c p j w' l B (H.fr.trans O)
 |stuck=>exact absurd hr N
end
def jS {α:Type} (E:Env) (f:Nat->Nat) (n:Nat) (w:gr) (r:pC α) (d:(Nat->Nat)->α->gG) (e:Ending) (w':gr):Prop:=match r with
 | .ok a σ'=>e=ir (d f a)/\RF E f σ' w'/\Fr E.bs w w'/\n<=σ'.nodes.length
 | .stop c p=>∃j,e=qs j/\lL w' j c p/\Fr E.bs w w'
 | .stuck=>False
def jT {α:Type} (E:Env) (k:Nat) (args:(Nat->Nat)->jE) (m:M α) (d:(Nat->Nat)->α->gG):Prop:=
 ∀f σ w,RF E f σ w->m σ≠ .stuck->Calls prog k (args f) w (jS E f σ.nodes.length w (m σ) d)
section
variable {α β:Type} {E:Env} {f0:Nat->Nat} {n0:Nat} {w0:gr} {f:Nat->Nat} {σ:Ab} {w:gr}
theorem jT.call {k:Nat} {args:(Nat->Nat)->jE} {m:M α} {u:(Nat->Nat)->α->gG} (D:jT E k args m u) (H:At E f0 n0 w0 f σ w) {R:pC β} {K:α->M β} (l:R=(m>>=K) σ) (V:R≠ .stuck) {A:jE} (hA:args f=A) {Q:Ending->gr->Prop}
  (F:∀c p j w',R= .stop c p->lL w' j c p->Fr E.bs w0 w'->Q (qs j) w')
  (B:∀a d w',At E f0 n0 w0 f d w'->Fr E.bs w w'->R=K a d->Q (ir (u f a)) w'):Calls prog k A w Q:=by
 rw[M.gm]at l;have I:m σ≠ .stuck:=λe=>V (by grind);have h:=D f σ w H.rel I;rw[hA]at h;refine h.mono ?_;intro e w' z;cases hr:m σ with
 |ok a d=>
  rw[hr]at z l;obtain⟨rfl,O,G,U⟩:=z;exact B a d w' (H.to O U G) G l
 |stop c p=>
  rw[hr]at z l;obtain⟨j,rfl,J,N⟩:=z;exact F c p j w' l J (H.fr.trans N)
 |stuck=>exact absurd hr I
def aec {k:Nat} {m:M α} {l:(Nat->Nat)->α->gG} {A:jE} (C:m σ≠ .stuck->Calls prog k A w (jS E f σ.nodes.length w (m σ) l)) (H:At E f0 n0 w0 f σ w) {R:pC β} {K:α->M β} (h:R=(m>>=K) σ) (O:R≠ .stuck) {Q:Ending->gr->Prop}
  (B:∀c p j w',R= .stop c p->lL w' j c p->Fr E.bs w0 w'->Q (qs j) w')
  (z:∀a d w',At E f0 n0 w0 f d w'->Fr E.bs w w'->R=K a d->Q (ir (l f a)) w'):Calls prog k A w Q:=by
 rw[M.gm]at h;have F:m σ≠ .stuck:=λe=>O (by rw[h,e]);refine(C F).mono ?_;intro e w' u;cases hr:m σ with
 |ok a d=>
  rw[hr]at u h;obtain⟨rfl,J,D,N⟩:=u;exact z a d w' (H.to J N D) D h
 |stop c p=>
  rw[hr]at u h;obtain⟨j,rfl,G,I⟩:=u;exact B c p j w' h G (H.fr.trans I)
 |stuck=>exact absurd hr F
def adX {k:Nat} {m:M α} {l:(Nat->Nat)->α->gG} {A:jE} (C:m σ≠ .stuck->Calls prog k A w (Leaves E f σ.nodes.length w (m σ) l)) (H:At E f0 n0 w0 f σ w) {R:pC β} {K:α->M β} (h:R=(m>>=K) σ) (O:R≠ .stuck) {Q:Ending->gr->Prop}
  (D:∀c p j w',R= .stop c p->lL w' j c p->Fr E.bs w0 w'->Q (qs j) w')
  (B:∀a g d w',At E f0 n0 w0 g d w'->QZ σ.nodes.length f g->Fr E.bs w w'->R=K a d->Q (ir (l g a)) w'):Calls prog k A w Q:=by
 rw[M.gm]at h;have I:m σ≠ .stuck:=λe=>O (by rw[h,e]);refine(C I).mono ?_;intro e w' u;cases hr:m σ with
 |ok a d=>
  rw[hr]at u h;obtain⟨g,F,z,rfl,N,G⟩:=u;exact B a g d w' (H.go N F z G) F G h
 |stop c p=>
  rw[hr]at u h;obtain⟨j,rfl,z,J⟩:=u;exact D c p j w' h z (H.fr.trans J)
 |stuck=>exact absurd hr I
def jL {R:pC α} {a:α} {d:(Nat->Nat)->α->gG} (l:R= .ok a σ) (h:At E f n0 w0 f σ w) {e:Ending} (u:e=ir (d f a)):jS E f n0 w0 R d e w:=by
 subst l;exact⟨u,h.rel,h.fr,h.le⟩
theorem tK {R:pC α} {d:(Nat->Nat)->α->gG} {c p j:Nat} (h:R= .stop c p) (u:lL w j c p) (l:Fr E.bs w0 w):jS E f n0 w0 R d (qs j) w:=by
 grind[jS]
def dC {k:Nat} {args:(Nat->Nat)->jE} {m:M α} {d:(Nat->Nat)->α->gG} (D:iU E k args m d) (H:Hid (At E f0 n0 w0 f σ w)) {R:pC β} {K:α->M β} (G:Hid (R=(m>>=K) σ)) (I:Hid (R≠ .stuck)) {A:jE} (hA:args f=A) {Q:Ending->gr->Prop}
  (u:∀c p j w',Hid (R= .stop c p/\lL w' j c p/\Fr E.bs w0 w')->Q (qs j) w')
  (l:∀a g h w',Hid (At E f0 n0 w0 g h w')->Hid (QZ σ.nodes.length f g)->Hid (Fr E.bs w w')->Hid (R=K a h)->Q (ir (d g a)) w'):Calls prog k A w Q:=iU.call D H G I hA (λc p j w' z B F=>u c p j w' ⟨z,B,F⟩) l
def mC {k:Nat} {args:(Nat->Nat)->jE} {m:M α} {d:(Nat->Nat)->α->gG} (D:jT E k args m d) (H:Hid (At E f0 n0 w0 f σ w)) {R:pC β} {K:α->M β} (G:Hid (R=(m>>=K) σ)) (I:Hid (R≠ .stuck)) {A:jE} (hA:args f=A) {Q:Ending->gr->Prop}
  (u:∀c p j w',Hid (R= .stop c p/\lL w' j c p/\Fr E.bs w0 w')->Q (qs j) w')
  (l:∀a h w',Hid (At E f0 n0 w0 f h w')->Hid (Fr E.bs w w')->Hid (R=K a h)->Q (ir (d f a)) w'):Calls prog k A w Q:=jT.call D H G I hA (λc p j w' z B F=>u c p j w' ⟨z,B,F⟩) l
def zV {k:Nat} {m:M α} {d:(Nat->Nat)->α->gG} {A:jE} (C:m σ≠ .stuck->Calls prog k A w (jS E f σ.nodes.length w (m σ) d)) (H:Hid (At E f0 n0 w0 f σ w)) {R:pC β} {K:α->M β} (F:Hid (R=(m>>=K) σ)) (G:Hid (R≠ .stuck)) {Q:Ending->gr->Prop}
  (u:∀c p j w',Hid (R= .stop c p/\lL w' j c p/\Fr E.bs w0 w')->Q (qs j) w')
  (l:∀a h w',Hid (At E f0 n0 w0 f h w')->Hid (Fr E.bs w w')->Hid (R=K a h)->Q (ir (d f a)) w'):Calls prog k A w Q:=aec C H F G (λc p j w' z B D=>u c p j w' ⟨z,B,D⟩) l
def dcH {k:Nat} {m:M α} {d:(Nat->Nat)->α->gG} {A:jE} (C:m σ≠ .stuck->Calls prog k A w (Leaves E f σ.nodes.length w (m σ) d)) (H:Hid (At E f0 n0 w0 f σ w)) {R:pC β} {K:α->M β} (F:Hid (R=(m>>=K) σ)) (G:Hid (R≠ .stuck)) {Q:Ending->gr->Prop}
  (u:∀c p j w',Hid (R= .stop c p/\lL w' j c p/\Fr E.bs w0 w')->Q (qs j) w')
  (l:∀a g h w',Hid (At E f0 n0 w0 g h w')->Hid (QZ σ.nodes.length f g)->Hid (Fr E.bs w w')->Hid (R=K a h)->Q (ir (d g a)) w'):Calls prog k A w Q:=adX C H F G (λc p j w' z B D=>u c p j w' ⟨z,B,D⟩) l
def lS {R:pC α} {d:(Nat->Nat)->α->gG} {c p j:Nat} (h:Hid (R= .stop c p/\lL w j c p/\Fr E.bs w0 w)):Leaves E f0 n0 w0 R d (qs j) w:=oU h.1 h.2.1 h.2.2
def mS {R:pC α} {d:(Nat->Nat)->α->gG} {c p j:Nat} (h:Hid (R= .stop c p/\lL w j c p/\Fr E.bs w0 w)):jS E f n0 w0 R d (qs j) w:=tK h.1 h.2.1 h.2.2
def dI {k:Nat} {args:(Nat->Nat)->jE} {m:M α} {d:(Nat->Nat)->α->gG} (h:∀f σ w R,Hid (R=m σ)->Hid (R≠ .stuck)->Hid (At E f σ.nodes.length w f σ w)->Calls prog k (args f) w (Leaves E f σ.nodes.length w R d)):iU E k args m d:=λf σ w l u=>h f σ w _ rfl u (At.start l)
def mI {k:Nat} {args:(Nat->Nat)->jE} {m:M α} {d:(Nat->Nat)->α->gG} (h:∀f σ w R,Hid (R=m σ)->Hid (R≠ .stuck)->Hid (At E f σ.nodes.length w f σ w)->Calls prog k (args f) w (jS E f σ.nodes.length w R d)):jT E k args m d:=λf σ w l u=>h f σ w _ rfl u (At.start l)
end
def lT {α:Type} {β:Sort _} {x:β} {f0 : Nat->Nat} {R:pC α} {d:(Nat->Nat)->α->gG} (c p j:Nat) (w:gr) (h:Hid (R= .stop c p/\lL w j c p/\Fr E.bs w0 w)):x=x/\Leaves E f0 n0 w0 R d (qs j) w:=⟨rfl,lS h⟩
def mT {α:Type} {β:Sort _} {x:β} {R:pC α} {d:(Nat->Nat)->α->gG} (c p j:Nat) (w:gr) (h:Hid (R= .stop c p/\lL w j c p/\Fr E.bs w0 w)):x=x/\jS E f n0 w0 R d (qs j) w:=⟨rfl,mS h⟩
def Fv (E:Env) (i:Nat):jT E 89 (λf=>#[nV f i]) (jt i) pV:=by
 intro f σ w ⟨L,e,u⟩ d;subst e;unfold jt at d|-;cases he:σ.gV i with
 |none=>rw[he]at d;exact absurd rfl d
 |some e=>
  refine(Qq u he).mono ?_;rintro z w' ⟨rfl,h,l⟩;exact⟨rfl,⟨L,rfl,h⟩,.gP l,gW _⟩
def DA (E:Env) (pl:Nat×Nat) (j:Nat):jT E 165 (λf=>#[pV f pl,.iface 65 (nV f j)]) (mP pl j) uV:=by
 intro f σ w ⟨L,e,z⟩ d;subst e;unfold mP at d|-;cases h1:σ.gV pl.1 with
 |none=>rw[h1]at d;exact absurd rfl d
 |some ei=>
  cases h2:σ.gV j with
  |none=>rw[h1,h2]at d;exact absurd rfl d
  |some ej=>
   simp only[h1,h2]at d|-;by_cases h:j≠pl.1/\pl.2<=ei.kids.length/\ei.kids.length < 1048576
   .rw[gN h];refine(Y1 z h1 h2 h.1 h.2.1 h.2.2).mono ?_;rintro A w' ⟨rfl,L',e1,l,u⟩;exact⟨rfl,⟨L',e1,l⟩,u,by simp[Ab.gU]⟩
   .rw[gI h]at d;exact absurd rfl d
theorem Ss (E:Env) (pl:Nat×Nat) (s:gn):iU E 172 (λf=>#[pV f pl,gw s]) (ux pl s) uV:=by
 intro f σ w ⟨L,e,G⟩ d;subst e;unfold ux at d|-;cases h1:σ.gV pl.1 with
 |none=>rw[h1]at d;exact absurd rfl d
 |some ei=>
  simp only[h1]at d|-;by_cases A:pl.2<=ei.kids.length/\ei.kids.length < 1048576
  .rw[gN A]at d|-;have h:∀(H:∀m,(B:m < ei.kids.length)->pl.2=m+1->∀t,ei.kids[m]≠ .tx t),Calls prog 172 #[pV L.gH pl,gw s] w (Leaves E L.gH σ.nodes.length w (.ok () ((σ.add (.tx s)).gU pl.1 {ei with kids:=ins ei.kids pl.2 (.tx σ.nodes.length)})) uV):=by
    intro H;refine(Jn G h1 A.1 A.2 H).mono ?_;rintro N w' ⟨rfl,L',e1,D,F⟩;exact⟨L'.gH,e1,by simp[Ab.gU,Ab.add],rfl,⟨L',rfl,D⟩,F⟩
   by_cases I:pl.2=0
   .simp only[gN I]at d|-;exact h λm B e=>by omega
   .simp only[gI I]at d|-;obtain⟨m,B⟩:∃m,pl.2=m+1:=⟨pl.2 - 1,by omega⟩;have z:m < ei.kids.length:=by omega
    have O:ei.kids[pl.2 - 1]?=some ei.kids[m]:=by rw[B,QX];exact qw z
    rw[O]at d|-;cases hk:ei.kids[m]with
    |tx t=>
     simp only[hk]at d|-;cases ht:σ.nodes[t]? with
     |none=>rw[ht]at d;exact absurd rfl d
     |some nd=>
      cases nd with
      |tx old=>
       simp only[ht]at d|-;by_cases l:old.size+s.size<=1048576
       .rw[gN l];have:=Gq G h1 z hk ht l;rw[<-B]at this;refine this.mono ?_;rintro N w' ⟨rfl,L',e1,D,F⟩;exact⟨L.gH,λ_ _=>rfl,by simp[Ab.n4],rfl,⟨L',e1,D⟩,F⟩
       .rw[gI l]at d;exact absurd rfl d
      |el e=>rw[ht]at d;exact absurd rfl d
      |cm e=>rw[ht]at d;exact absurd rfl d
      |dt e=>rw[ht]at d;exact absurd rfl d
    |el t=>exact h λJ u e K=>by grind
    |cm t=>exact h λJ u e K=>by grind
    |dt t=>exact h λJ u e K=>by grind
  .rw[gI A]at d;exact absurd rfl d
def YC (E:Env):jT E 174 (λ_=>#[lK E.bB 188]) (λσ=> .ok σ.last σ.pop) oV:=by
 intro f σ w ⟨L,e,l⟩ z;subst e;refine(PA l).mono ?_;rintro u w' ⟨rfl,L',e1,d,h⟩;exact⟨rfl,⟨L',e1,d⟩,h,gW _⟩
theorem Nl (E:Env) (x:jb):jT E 176 (λf=>#[Bp E,oV f x]) (wN x) uV:=by
 intro f σ w ⟨L,e,h⟩ A;subst e;have K:=h.low (j:=0) (by decide) h.Dt.1;have⟨_,_,_,hd,_,_⟩:=h.Dt;have J:=h.wC;have u:=(λq=>Yu (h.drewN q));unfold wN at A|-;by_cases z:σ.pL<=σ.gq.length
 .rw[gN z];have l:=(λq=>NH (h.drewN q) 5);go_enter func176,ntmps176;go_wp21
  go_quiet ((go_at_call 259;exact LX (u _)))
  go_wp21;refine(l nq).mono ?_;rintro e w' ⟨k,rfl,B,H⟩;have D:=(Fr.drewN w nq).trans H;go_wp2;exact⟨rfl,k,rfl,B,D⟩
 .rw[gI z]at A|-;have d:σ.lV x=true:=by
   by_cases d:σ.lV x=true
   .exact d
   .grind
  rw[gN d];have l:=(λq=>adb (h.drewN q) x d (by omega));go_enter func176,ntmps176;go_wp21
  go_quiet ((go_at_call 259;exact LX (u _)))
  go_wp21;refine(l nq).mono ?_;rintro e w' ⟨rfl,L',e1,G,I⟩;have F:=(Fr.drewN w nq).trans I;go_wp2;go_end0;exact⟨rfl,⟨L',e1,G⟩,F,gW _⟩
section
variable {E:Env} {f0:Nat->Nat} {n0:Nat} {w0:gr} {f:Nat->Nat} {σ:Ab} {w:gr}
def At.lt (h:At E f0 n0 w0 f σ w):E.bB < w.heap.size:=by have⟨L,_,hr⟩:=h.rel;exact hr.lt
def At.free (h:At E f0 n0 w0 f σ w) (j:Nat):w.frozen? ⟨E.bB,j,none⟩=false:=by have⟨L,_,hr⟩:=h.rel;exact hr.free j
def At.UQ (h:At E f0 n0 w0 f σ w):w.cell? ⟨E.bB,190,none⟩=some (oV f σ.head):=by obtain⟨L,rfl,d⟩:=h.rel;exact d.UQ
def At.Rg (h:At E f0 n0 w0 f σ w):w.cell? ⟨E.bB,191,none⟩=some (oV f σ.form):=by obtain⟨L,rfl,d⟩:=h.rel;exact d.Rg
def At.ru (h:At E f0 n0 w0 f σ w):w.cell? ⟨E.bB,192,none⟩=some (ga σ.mode):=by obtain⟨L,rfl,d⟩:=h.rel;exact d.ru
def At.Rh (h:At E f0 n0 w0 f σ w):w.cell? ⟨E.bB,193,none⟩=some (ga σ.kept):=by obtain⟨L,rfl,d⟩:=h.rel;exact d.Rh
def At.Xc (h:At E f0 n0 w0 f σ w):w.cell? ⟨E.bB,195,none⟩=some (.bool σ.iL):=by obtain⟨L,rfl,d⟩:=h.rel;exact d.Xc
def At.Xd (h:At E f0 n0 w0 f σ w):w.cell? ⟨E.bB,196,none⟩=some (.bool σ.jB):=by obtain⟨L,rfl,d⟩:=h.rel;exact d.Xd
def At.Ri (h:At E f0 n0 w0 f σ w):w.cell? ⟨E.bB,197,none⟩=some (ga σ.gH):=by obtain⟨L,rfl,d⟩:=h.rel;exact d.Ri
def At.Xe (h:At E f0 n0 w0 f σ w):w.cell? ⟨E.bB,198,none⟩=some (.bool σ.behind):=by obtain⟨L,rfl,d⟩:=h.rel;exact d.Xe
def At.J5 (h:At E f0 n0 w0 f σ w) (j:Nat) (u:gG):Fr E.bs w (w.setCell ⟨E.bB,j,none⟩ u):=by
 have⟨L,_,hr⟩:=h.rel;have⟨C,hb⟩:=hr.Th;exact .jC ((Kept.refl [E.bB] w).setCell (.inl (by simp)) u) (λk d=>by simp at d;subst d;exact⟨⟨_,_,_,hb,by decide⟩,hr.bB⟩)
def At.xS (h:At E f0 n0 w0 f σ w) (x:jb) (u:σ.gQ x=true):At E f0 n0 w0 f {σ with head:=x} (w.setCell ⟨E.bB,190,none⟩ (oV f x)):=by
 have d:=h.J5 190 (oV f x);obtain⟨L,rfl,l⟩:=h.rel;exact h.to ⟨L,rfl,l.xS x u⟩ (gW _) d
def At.uy (h:At E f0 n0 w0 f σ w) (x:jb) (u:σ.gQ x=true):At E f0 n0 w0 f {σ with form:=x} (w.setCell ⟨E.bB,191,none⟩ (oV f x)):=by
 have d:=h.J5 191 (oV f x);obtain⟨L,rfl,l⟩:=h.rel;exact h.to ⟨L,rfl,l.uy x u⟩ (gW _) d
def At.iW (h:At E f0 n0 w0 f σ w) (x:Nat):At E f0 n0 w0 f {σ with mode:=x} (w.setCell ⟨E.bB,192,none⟩ (ga x)):=by
 have d:=h.J5 192 (ga x);obtain⟨L,rfl,l⟩:=h.rel;exact h.to ⟨L,rfl,l.iW x⟩ (gW _) d
def At.xU (h:At E f0 n0 w0 f σ w) (x:Nat):At E f0 n0 w0 f {σ with kept:=x} (w.setCell ⟨E.bB,193,none⟩ (ga x)):=by
 have d:=h.J5 193 (ga x);obtain⟨L,rfl,l⟩:=h.rel;exact h.to ⟨L,rfl,l.xU x⟩ (gW _) d
def At.xR (h:At E f0 n0 w0 f σ w) (x:Bool):At E f0 n0 w0 f {σ with iL:=x} (w.setCell ⟨E.bB,195,none⟩ (.bool x)):=by
 have d:=h.J5 195 (.bool x);obtain⟨L,rfl,l⟩:=h.rel;exact h.to ⟨L,rfl,l.xR x⟩ (gW _) d
def At.qp (h:At E f0 n0 w0 f σ w) (x:Bool):At E f0 n0 w0 f {σ with jB:=x} (w.setCell ⟨E.bB,196,none⟩ (.bool x)):=by
 have d:=h.J5 196 (.bool x);obtain⟨L,rfl,l⟩:=h.rel;exact h.to ⟨L,rfl,l.qp x⟩ (gW _) d
def At.BX (h:At E f0 n0 w0 f σ w) (x:Nat):At E f0 n0 w0 f {σ with gH:=x} (w.setCell ⟨E.bB,197,none⟩ (ga x)):=by
 have d:=h.J5 197 (ga x);obtain⟨L,rfl,l⟩:=h.rel;exact h.to ⟨L,rfl,l.BX x⟩ (gW _) d
def At.rV (h:At E f0 n0 w0 f σ w) (x:Bool):At E f0 n0 w0 f {σ with behind:=x} (w.setCell ⟨E.bB,198,none⟩ (.bool x)):=by
 have d:=h.J5 198 (.bool x);obtain⟨L,rfl,l⟩:=h.rel;exact h.to ⟨L,rfl,l.rV x⟩ (gW _) d
def Gf (f:Nat->Nat) (n k:Nat):Nat->Nat:=λi=>if i < n then f i else k+(i - n)
def adD (f:Nat->Nat) (n k:Nat):Gf f n k n=k:=by simp[Gf]
def OY (f:Nat->Nat) (n k:Nat):QZ n f (Gf f n k):=λi d=>gN d
def At.FO (h:At E f0 n0 w0 f σ w) (d:gn):At E f0 n0 w0 (Gf f σ.nodes.length w.heap.size) (σ.add (.el {name:=d,gM:=[],ja:=none,kids:=[]})) (w.alloc (gy #[gw d,jV,.pointer none,jV] 136)):=by
 obtain⟨L,rfl,l⟩:=h.rel;exact h.go ⟨_,rfl,l.FO d⟩ (OY _ _ _) (by simp[Ab.add]) (.gP ((Kept.refl _ _).alloc _))
def At.pH (h:At E f0 n0 w0 f σ w) (l:σ.fresh=true) (d:gn):At E f0 n0 w0 (Gf f σ.nodes.length w.heap.size) (σ.pa (.el {name:=d,gM:=E.ta,ja:=none,kids:=[]}) false) (w.alloc (gy #[gw d,E.tv,.pointer none,jV] 136)):=by
 obtain⟨L,rfl,u⟩:=h.rel;exact h.go ⟨_,rfl,u.pH l d⟩ (OY _ _ _) (by simp[Ab.pa]) (.gP ((Kept.refl _ _).alloc _))
end
def iA (E:Env) (t:gz):gG:=match t.k with
 | .jW s=> .iface 184 (.agg #[ga t.a,ga t.b,gw s])
 | .start n=> .iface 192 (.agg #[ga t.a,ga t.b,gw n,E.tv])
 | .stop n=> .iface 193 (.agg #[ga t.a,ga t.b,gw n,E.tv])
 | .gJ s=> .iface 194 (.agg #[ga t.a,ga t.b,gw s])
 | .iH n q=> .iface 196 (.agg #[ga t.a,ga t.b,gw n,.bool q])
 | .lost=> .iface 186 (.agg #[ga t.a,ga t.b])
 | .ie=> .iface 182 (.agg #[ga t.a,ga t.b])
def iY (E:Env) (t:gz):Prop:=t.oT=true->t.gM=E.ta
def qt {X : TypeId} {d:Array Field} (h:prog.underlying X=some (.struct d)) (v:gG) (l:TypeId) (w:gr):(Instr.typeAssert (.iface X v) l X true).run prog w= .ok (.tuple #[v,.bool true]) w:=by
 simp[Instr.typeAssert,qv h]
def Jo {X T : TypeId} {l:Array Field} {z : gG} (u:prog.underlying X=some (.struct l)) (h:(prog.info? X).bind (·.zero)=some z) (d:T≠X) (v:gG) (A:TypeId) (w:gr):(Instr.typeAssert (.iface T v) A X true).run prog w= .ok (.tuple #[z,.bool false]) w:=by
 have⟨i,hi,h⟩:=Option.bind_eq_some_iff.1 h;simp[Instr.typeAssert,qv u,d,zeroValue,typeInfo,hi,h]
def uJ (T:TypeId) (h:T≠184) (v:gG) (d:TypeId) (w:gr):(Instr.typeAssert (.iface T v) d 184 true).run prog w= .ok (.tuple #[.agg #[ga 0,ga 0,gw kC],.bool false]) w:=Jo underlying184 (by kernel_rfl) h v d w
def sr (T:TypeId) (h:T≠194) (v:gG) (d:TypeId) (w:gr):(Instr.typeAssert (.iface T v) d 194 true).run prog w= .ok (.tuple #[.agg #[ga 0,ga 0,gw kC],.bool false]) w:=Jo underlying194 (by kernel_rfl) h v d w
def ql (T:TypeId) (h:T≠192) (v:gG) (d:TypeId) (w:gr):(Instr.typeAssert (.iface T v) d 192 true).run prog w= .ok (.tuple #[.agg #[ga 0,ga 0,gw kC,jV],.bool false]) w:=Jo underlying192 (by kernel_rfl) h v d w
def xN (T:TypeId) (h:T≠193) (v:gG) (d:TypeId) (w:gr):(Instr.typeAssert (.iface T v) d 193 true).run prog w= .ok (.tuple #[.agg #[ga 0,ga 0,gw kC,jV],.bool false]) w:=Jo underlying193 (by kernel_rfl) h v d w
def vy (T:TypeId) (h:T≠196) (v:gG) (d:TypeId) (w:gr):(Instr.typeAssert (.iface T v) d 196 true).run prog w= .ok (.tuple #[.agg #[ga 0,ga 0,gw kC,.bool false],.bool false]) w:=Jo underlying196 (by kernel_rfl) h v d w
def ac5 (T:TypeId) (h:T≠186) (v:gG) (d:TypeId) (w:gr):(Instr.typeAssert (.iface T v) d 186 true).run prog w= .ok (.tuple #[.agg #[ga 0,ga 0],.bool false]) w:=Jo underlying186 (by kernel_rfl) h v d w
def yT (E:Env) (t:gz):jE:=match t.k with
 | .start n=>#[ga t.a,ga t.b,gw n,E.tv]
 | .stop n=>#[ga t.a,ga t.b,gw n,E.tv]
 |_=>#[ga 0,ga 0,gw kC,jV]
def yl (E:Env) (t:gz) (w:gr):
  Calls prog 84 #[iA E t] w λe w'=>e=ir (gw t.chars)/\Kept [] w w':=by
 obtain⟨a,b,k,gx⟩:=t;have d:=qt underlying184;have h:=uJ;cases k
 all_goals
  simp only[iA,gz.chars];go_enter func84,ntmps84;go_wp2;go_ret;exact⟨rfl,(Kept.refl _ _).alloc _⟩
def x7 (E:Env) (t:gz) (w:gr) (u:∃d n h,E.tv= .slice d n h):
  Calls prog 167 #[iA E t] w λe w'=>e=ir (.agg (yT E t))/\Kept [] w w':=by
 have⟨a,b,k,gx⟩:=t;obtain⟨d,n,h,l⟩:=u;have z:=qt underlying192;have A:=qt underlying193;have B:=ql;have D:=xN;cases k
 all_goals
  simp only[iA,yT,l];go_enter func167,ntmps167;go_wp2
  first
  |refine o0 (v:= .agg #[ga 0,ga 0,gw kC,jV]) ?_ rfl ⟨rfl,(Kept.refl _ _).alloc _⟩
  |refine o0 (v:= .agg #[ga a,ga b,gw _,.slice d n h]) ?_ rfl ⟨rfl,((Kept.refl _ _).alloc _).alloc _⟩
  simp[results,results167,asAddr,Result.andThen,go_sem]
def Io (E:Env) (t:gz) (w:gr):
  Calls prog 179 #[iA E t] w λe w'=>e=ir (.bool (sM t.chars))/\Kept [] w w':=by
 have d:=yl E t w;go_enter func179,ntmps179;go_wp21;refine d.mono ?_;rintro e w' ⟨rfl,h⟩;go_wp2;go_ret;refine⟨?_,h⟩;show Ending.returned (.bool (t.chars.toList==[0]))=_;unfold sM kh;simp
def WW (c:UInt8):decide (0<=Lib.indexByte [32,9,10,12] c)=lU ⟨#[c]⟩:=by
 unfold lU hH kh;simp only[sD,List.any_cons,List.any_nil,Bool.or_false];by_cases d:c=32
 .subst d;rfl
 by_cases h:c=9
 .subst h;rfl
 by_cases l:c=10
 .subst l;rfl
 by_cases u:c=12
 .subst u;rfl
 simp[Lib.indexByte,d,h,l,u,List.findIdx_cons,wR]
theorem Ik (s:gn) (w:gr):
  Calls prog 287 #[gw s] w λe w'=>e=ir (.bool (lU s))/\Kept [] w w':=by
 by_cases l:s.size=1
 .obtain⟨c,rfl⟩:∃c,s=⟨#[c]⟩:=by
   have⟨d⟩:=s;have A:d.size=1:=l;have⟨c,hc⟩:=Array.size_eq_one_iff.1 A;grind
  have u:=(λw=>Tryz.strings_Contains_one mA c w);have z:=fN (WW c);go_enter func287,ntmps287;go_wp21;refine(u _).mono ?_;rintro e w' ⟨rfl,rfl⟩;go_wp2;go_ret;exact⟨by rw[<-z.out];rfl,Kept.refl _ _⟩
 .have D:lU s=false:=by
   unfold lU hH;simp only[List.any_cons,List.any_nil,Bool.or_false];have B:∀c:UInt8,kh s ⟨#[c]⟩=false:=by
    intro c;rw[Bool.eq_false_iff];intro h;rw[wL]at h;subst h;exact l rfl
   simp[B]
  rw[D];have F:((s.size:Int)==1)=false:=by rw[LY];omega
  go_enter func287,ntmps287;go_wp2;go_ret;exact⟨rfl,Kept.refl _ _⟩
def acV (v:gG):Prop:=v= .nilFunc\/∃k a l,v= .func k a l
def rR:List gG->gG
 |[]=> .func (.func 87) #[] #[]
 | .nilFunc::r=>rR r
 |v::_=>v
theorem OR (g B:Nat) (vs:List gG) (w:gr) (H:w.heap[g]?=some (gy vs.toArray 164)) (Y:∀v∈vs,acV v) (X:vs.length<=4096):
  Calls prog 306 #[nI g vs.length B] w λe w'=>e=ir (rR vs)/\w'=w:=by
 obtain⟨m,J⟩:∃m,m=rR vs:=⟨_,rfl⟩;rw[<-J];have HM:rR (vs.drop 0)=m:=by rw[J];rfl
 have O:=Y;have N:=fN H;obtain⟨n,z⟩:∃n,n=vs.length:=⟨_,rfl⟩;rw[<-z]at X|-;have G:=fN z;clear H z;go_enter func306,ntmps306;go_wp21
 go_loopw [7] (λv wr=>∃k:Nat,v=ga k/\k<=n/\rR (vs.drop k)=m/\wr=w) (λv _=>n - (intOf v).toNat)
 case atStart=>grind
 case round=>
  obtain⟨k,rfl,hk,h,rfl⟩:=hrel;have Z:=h;by_cases F:k < n
  .have d:k < vs.length:=by rw[<-G.out];exact F
   have U:=JI d;have R:wr.cell? ⟨g,k,none⟩=some vs[k]:=by rw[fO N.out];simp[d]
   have I:=O vs[k] (ti d);rw[U]at h;generalize vs[k]=u at h R I;rcases I with rfl|⟨f,a,l,rfl⟩
   .have A:=fN h;clear h;go_wp21;rename_i K D;refine D _ _ ?_;simp only[Bool.not_true];go_wp2;go_roundw
    case rel=>exact⟨k+1,by go_num,by omega,A,trivial⟩
    case measure=>simp[intOf];omega
   .have A:=fN h;clear h;go_wp21;rename_i K D;refine D _ _ ?_;simp only[Bool.not_false];go_wp2;go_ret;exact⟨by rw[<-A.out];rfl,rfl⟩
  .have V:vs.drop k=[]:=List.drop_eq_nil_of_le (by rw[<-G.out];omega);rw[V]at h;have A:=fN h;clear h;go_wp2;go_ret;exact⟨by rw[<-A.out];rfl,rfl⟩
def kq:List Ru->Ru
 |[]=> .nothing
 | .nil::r=>kq r
 |x::_=>x
def Du:Option (List (List gn×Ru))->gn->Ru
 |none,_=> .nil
 |some R,k=>(oW R k).getD .nil
def jX (sp:mB) (t:gz):Ru:=match t.k with
 | .jW s=>if lU s then kq [sp.blank,sp.jW,sp.iy]else kq [sp.jW,sp.iy]
 | .gJ _=>kq [sp.gJ,sp.iy]
 | .iH _ _=>kq [sp.iH,sp.iy]
 | .start n=>kq [Du sp.start n,sp.jK,sp.iy]
 | .stop n=>kq [Du sp.stop n,sp.j9,sp.iy]
 | .lost=>kq [sp.ie,sp.iy]
 | .ie=>kq [sp.ie,sp.iy]
theorem nr.isF (h:nr bm bB bD r v w):(r= .nil/\v= .nilFunc)\/(r≠ .nil/\∃k a l,v= .func k a l):=by
 cases r with
 |nil=>exact .inl ⟨rfl,h⟩
 |nothing=>exact .inr ⟨by simp,_,_,_,h⟩
 |gZ f=>exact .inr ⟨by simp,_,_,_,h⟩
 |pd m=>have⟨b1,b2,e,_⟩:=h;grind
 |gJ pf own=>have⟨b1,e,_⟩:=h;grind
 |ahead f=>have⟨b1,b2,e,_⟩:=h;grind
 |ends f=>have⟨b1,e,_⟩:=h;grind
 |MR r=>have⟨b1,b2,u,e,_⟩:=h;grind
 |rp ks m=>have⟨b1,b2,b3,u,e,_⟩:=h;grind
 |nF ks n m=>have⟨b1,b2,b3,b4,u,e,_⟩:=h;grind
 |item ks=>have⟨b1,b2,b3,u1,u2,e,_⟩:=h;grind
def nr.fv (h:nr bm bB bD r v w):acV v:=by
 rcases h.isF with⟨_,e⟩|⟨_,e⟩
 .exact .inl e
 .exact .inr e
inductive vC (bm bB bD:Nat) (w:gr):List Ru->List gG->Prop
 |nil:vC bm bB bD w [] []
 |cons {r:Ru} {v:gG} {rs:List Ru} {vs:List gG} (h:nr bm bB bD r v w) (t:vC bm bB bD w rs vs):vC bm bB bD w (r::rs) (v::vs)
theorem vC.first (h:vC bm bB bD w rs vs):nr bm bB bD (kq rs) (rR vs) w:=by
 induction h with
 |nil=>rfl
 |@cons r v rs vs h t ih=>
  rcases h.isF with⟨rfl,rfl⟩|⟨d,k,a,l,rfl⟩
  all_goals grind[nr,kq,rR]
theorem vC.isF (h:vC bm bB bD w rs vs):∀v∈vs,acV v:=by
 induction h with
 |nil=>simp
 |cons h t ih=>intro v d;rcases List.mem_cons.1 d with rfl|d;exact h.fv;grind
def tF (h:vC bm bB bD w rs vs) (l:vs.length<=4096) (d:W.heap.size=g):
  Calls prog 306 #[nI g vs.length vs.length] (W.alloc (gy vs.toArray 164)) λe w'=>e=ir (rR vs)/\w'=W.alloc (gy vs.toArray 164):=by
 subst d;exact OR _ _ vs _ (fQ _ _) h.isF l
def acw (h:v.oneCell'=true):v.cells=#[v]:=by
 cases v<;>first|rfl|(simp[Value.oneCell']at h)
def vA (h:∀v∈[v0,v1,v2,v3,v4,v5,v6,v7,v8,v9],v.oneCell'=true):v0.cells=#[v0]/\v1.cells=#[v1]/\v2.cells=#[v2]/\v3.cells=#[v3]/\v4.cells=#[v4]/\v5.cells=#[v5]/\v6.cells=#[v6]/\v7.cells=#[v7]/\v8.cells=#[v8]/\v9.cells=#[v9]:=by
 refine⟨?_,?_,?_,?_,?_,?_,?_,?_,?_,?_⟩<;>exact acw (h _ (by simp))
def EM (w:gr) (o d:Obj):((w.alloc o).alloc d).heap[w.heap.size]?=some o:=(Below.heap_alloc _ _ _ (by simp)).trans (fQ w _)
def aaE (E:Env) (bB bD a b:Nat) (s:gn) (gx:lh) (sp:mB) (v0 v1 v2 v3 v4 v5 v6 v7 v8 v9:gG) (w:gr) (h:kG E.bm bB bD sp v0 v1 v2 v3 v4 v5 v6 v7 v8 v9 w):
  Calls prog 254 #[.agg #[v0,v1,v2,v3,v4,v5,v6,v7,v8,v9],iA E ⟨a,b,.jW s,gx⟩] w λe w'=>∃v,e=ir v/\nr E.bm bB bD (jX sp ⟨a,b,.jW s,gx⟩) v w/\Kept [] w w':=by
 have⟨Z,U,k2,k3,k4,k5,k6,k7,k8,V⟩:=vA h.one;have u:=fN h;clear h;have K:=fN (λo=>EM w (gy #[v0,v1,v2,v3,v4,v5,v6,v7,v8,v9] 168) o);have G:=fN (fQ w (gy #[v0,v1,v2,v3,v4,v5,v6,v7,v8,v9] 168));have A:=fN (λo=>((Kept.refl [] w).alloc (gy #[v0,v1,v2,v3,v4,v5,v6,v7,v8,v9] 168)).alloc o);have H:=fN ((Kept.refl [] w).alloc (gy #[v0,v1,v2,v3,v4,v5,v6,v7,v8,v9] 168));simp only[iA];have F:=qt underlying184;have J:=fN (λW=>Ik s W);go_enter func254,ntmps254;go_wp21;refine(J.out _).mono ?_;rintro e w1 ⟨rfl,z⟩;have D:=z.at (K.out _) (by simp);have N:=fN ((A.out _).trans z);have q0:=fO D 0;have q1:=fO D 1;have q9:=fO D 9;dsimp at q0 q1 q9;clear D z K G A H J;have f0:=u.out.blank.fv;have O:=u.out.jW.fv;have R:=u.out.iy.fv;cases hb:lU s with
 |true=>
  have B:jX sp ⟨a,b,.jW s,gx⟩=kq [sp.blank,sp.jW,sp.iy]:=by simp[jX,hb]
  have d:Hid (vC E.bm bB bD w _ [v0,v1,v9]):=fN (.cons u.out.blank (.cons u.out.jW (.cons u.out.iy (.nil))));have I:=fN B;clear B hb;rcases f0 with rfl|⟨Z,a0,l0,rfl⟩
  all_goals rcases O with rfl|⟨U,X,l1,rfl⟩
  all_goals rcases R with rfl|⟨V,Y,l9,rfl⟩
  all_goals go_wp21
  all_goals refine(tF d.out (by simp) (by simp)).mono ?_
  all_goals rintro e w3 ⟨rfl,rfl⟩
  all_goals have l:=fN d.out.first
  all_goals simp only[rR]at l|-
  all_goals go_wp2
  all_goals go_ret
  all_goals exact⟨_,rfl,I.out▸l.out,N.out.alloc _⟩
 |false=>
  have B:jX sp ⟨a,b,.jW s,gx⟩=kq [sp.jW,sp.iy]:=by simp[jX,hb]
  have d:Hid (vC E.bm bB bD w _ [v1,v9]):=fN (.cons u.out.jW (.cons u.out.iy (.nil)));have I:=fN B;clear B hb;rcases O with rfl|⟨U,X,l1,rfl⟩
  all_goals rcases R with rfl|⟨V,Y,l9,rfl⟩
  all_goals go_wp21
  all_goals refine(tF d.out (by simp) (by simp)).mono ?_
  all_goals rintro e w3 ⟨rfl,rfl⟩
  all_goals have l:=fN d.out.first
  all_goals simp only[rR]at l|-
  all_goals go_wp2
  all_goals go_ret
  all_goals exact⟨_,rfl,I.out▸l.out,N.out.alloc _⟩
def Sj (E:Env) (bB bD a b:Nat) (gx:lh) (sp:mB) (v0 v1 v2 v3 v4 v5 v6 v7 v8 v9:gG) (w:gr) (h:kG E.bm bB bD sp v0 v1 v2 v3 v4 v5 v6 v7 v8 v9 w):
  Calls prog 254 #[.agg #[v0,v1,v2,v3,v4,v5,v6,v7,v8,v9],iA E ⟨a,b,.ie,gx⟩] w λe w'=>∃v,e=ir v/\nr E.bm bB bD (jX sp ⟨a,b,.ie,gx⟩) v w/\Kept [] w w':=by
 have⟨k0,k1,k2,k3,O,k5,k6,k7,k8,R⟩:=vA h.one;have F:=fN h;clear h;have J:=fN (λo=>EM w (gy #[v0,v1,v2,v3,v4,v5,v6,v7,v8,v9] 168) o);have u:=fN (fQ w (gy #[v0,v1,v2,v3,v4,v5,v6,v7,v8,v9] 168));have H:=fN (λo=>((Kept.refl [] w).alloc (gy #[v0,v1,v2,v3,v4,v5,v6,v7,v8,v9] 168)).alloc o);have I:=fN ((Kept.refl [] w).alloc (gy #[v0,v1,v2,v3,v4,v5,v6,v7,v8,v9] 168));simp only[iA];have G:=uJ;have z:=sr;have A:=vy;have l:=ql;have B:=xN;have U:=fO u.out 4;have V:=fO u.out 9;dsimp at U V;clear J u H;have d:Hid (vC E.bm bB bD w _ [v4,v9]):=fN (.cons F.out.ie (.cons F.out.iy (.nil)));have K:=F.out.ie.fv;have N:=F.out.iy.fv;go_enter func254,ntmps254;rcases K with rfl|⟨O,X,Z,rfl⟩
 all_goals rcases N with rfl|⟨R,Y,l9,rfl⟩
 all_goals go_wp21
 all_goals refine(tF d.out (by simp) (by simp)).mono ?_
 all_goals rintro e w3 ⟨rfl,rfl⟩
 all_goals have D:=fN d.out.first
 all_goals simp only[rR]at D|-
 all_goals go_wp2
 all_goals go_ret
 all_goals exact⟨_,rfl,D.out,I.out.alloc _⟩
section
variable {α β:Type} {E:Env} {f0:Nat->Nat} {n0:Nat} {w0:gr} {f:Nat->Nat} {σ:Ab} {w:gr}
theorem iU.Ot {k:Nat} {args:(Nat->Nat)->jE} {m:M α} {u:(Nat->Nat)->α->gG} (D:iU E k args m u) (H:At E f0 n0 w0 f σ w) {R:pC β} {K:α->M β} (l:R=(m>>=K) σ) (V:R≠ .stuck) {A:jE} (hA:args f=A) {Q:Ending->gr->Prop}
  (G:∀c p j w',R= .stop c p->lL w' j c p->Fr E.bs w0 w'->Q (qs j) w')
  (F:∀a g d w',At E f0 n0 w0 g d w'->QZ σ.nodes.length f g->Fr E.bs w w'->R=K a d->m σ= .ok a d->Q (ir (u g a)) w'):Calls prog k A w Q:=by
 rw[M.gm]at l;have N:m σ≠ .stuck:=λe=>V (by grind);have h:=D f σ w H.rel N;rw[hA]at h;refine h.mono ?_;intro e w' z;cases hr:m σ with
 |ok a d=>
  rw[hr]at z l;obtain⟨g,I,B,rfl,U,J⟩:=z;exact F a g d w' (H.go U I B J) I J l hr
 |stop c p=>
  rw[hr]at z l;obtain⟨j,rfl,B,O⟩:=z;exact G c p j w' l B (H.fr.trans O)
 |stuck=>exact absurd hr N
theorem jT.Ot {k:Nat} {args:(Nat->Nat)->jE} {m:M α} {u:(Nat->Nat)->α->gG} (D:jT E k args m u) (H:At E f0 n0 w0 f σ w) {R:pC β} {K:α->M β} (l:R=(m>>=K) σ) (V:R≠ .stuck) {A:jE} (hA:args f=A) {Q:Ending->gr->Prop}
  (F:∀c p j w',R= .stop c p->lL w' j c p->Fr E.bs w0 w'->Q (qs j) w')
  (B:∀a d w',At E f0 n0 w0 f d w'->Fr E.bs w w'->R=K a d->m σ= .ok a d->Q (ir (u f a)) w'):Calls prog k A w Q:=by
 rw[M.gm]at l;have I:m σ≠ .stuck:=λe=>V (by grind);have h:=D f σ w H.rel I;rw[hA]at h;refine h.mono ?_;intro e w' z;cases hr:m σ with
 |ok a d=>
  rw[hr]at z l;obtain⟨rfl,O,G,U⟩:=z;exact B a d w' (H.to O U G) G l hr
 |stop c p=>
  rw[hr]at z l;obtain⟨j,rfl,J,N⟩:=z;exact F c p j w' l J (H.fr.trans N)
 |stuck=>exact absurd hr I
def mE {k:Nat} {args:(Nat->Nat)->jE} {m:M α} {h:(Nat->Nat)->α->gG} (D:jT E k args m h) (H:Hid (At E f0 n0 w0 f σ w)) {R:pC β} {K:α->M β} (G:Hid (R=(m>>=K) σ)) (I:Hid (R≠ .stuck)) {A:jE} (hA:args f=A) {Q:Ending->gr->Prop}
  (u:∀c p j w',Hid (R= .stop c p/\lL w' j c p/\Fr E.bs w0 w')->Q (qs j) w')
  (l:∀a d w',Hid (At E f0 n0 w0 f d w')->Hid (Fr E.bs w w')->Hid (R=K a d)->Hid (m σ= .ok a d)->Q (ir (h f a)) w'):Calls prog k A w Q:=jT.Ot D H G I hA (λc p j w' z B F=>u c p j w' ⟨z,B,F⟩) l
end
attribute [local go_sem] Oper.semAt_some
def yE {f : jb->jb} (l:∀x y,f x=f y->x=y):∀{xs d:kL},xs.map f=d.map f->xs=d
 |[],[],_=>rfl
 |[],_::_,h=>by simp at h
 |_::_,[],h=>by simp at h
 |x::xs,y::d,h=>by
  simp only[y8,QP]at h;rw[l x y h.1,yE l h.2]
theorem Sq {f : jb->jb} (d:∀x y,f x=f y->x=y) {ys : kL} (h:zs.map f <+:ys.map f):zs <+:ys:=by
 have⟨t,ht⟩:=h;have l:zs.length<=ys.length:=by have:=pJ List.length ht;simp at this;omega
 refine⟨ys.drop zs.length,?_⟩;have e:zs.map f=(ys.take zs.length).map f:=by
  rw[List.map_take,<-ht];simp
 rw[yE d e];simp_all
def GD (o:Oper):Bool:=match o.op with
 | .defer _=>false
 |_=>true
theorem Na {o:Oper} (h:GD o=true):∀c,o.op≠ .defer c:=by
 intro c e;unfold GD at h;grind
section
variable {n:Nat} {P:Program} {ops:Array Oper} {Q:Exit->Act->gr->Prop} {md:Region.Mode}
def KL (l:Nat) (F:∀(i:Nat) o,ops[i]?=some o->GD o=true):∀u d a w,wpAnyIn Fence.wide n P md ops Q u d a w->wpAnyIn (Fence.wide.inRound l) n P md ops Q u d a w:=by
 intro u
 induction u with
 |zero=>exact λd a w h=>h
 |succ u ih=>
  intro d a w h;refine⟨h.1,λi G=>?_⟩;have z:=h.2 i G;unfold wpOpIn at z|-;cases ho:ops[i]? with
  |none=>rw[ho]at z;exact ih _ _ _ z
  |some o=>
   rw[ho]at z;simp only at z|-;split
   .rename_i A;rw[gN A]at z;have B:=Oper.wpIn_mono (K':=wpAnyIn (Fence.wide.inRound l) n P md ops Q u (d.setIfInBounds i true)) (λa w h=>ih _ a w h) z;refine⟨B.1,?_⟩;have D:=B.2;have e1:o.semAt (Fence.wide.inRound l).round a.eval=execOp a.eval o:=aeu l a.eval o (Na (F i o ho));have e2:o.semAt Fence.wide.round a.eval=execOp a.eval o:=by
     show o.semAt none a.eval=_;unfold Oper.semAt;cases o.op<;>rfl
    rw[e1]
    rwa [e2]at D
   .rename_i A;rw[gI A]at z;exact⟨z.1,ih _ _ _ z.2⟩
theorem Ac {id:Nat} {a:Act} {w:gr} {l:List Oper} (L:Nat) (A:P.follows .mixedOrders=true) (u:Region.lexB .any l.toArray=true) (B:l.all GD=true)
  (h:wpQuietIn Fence.wide n P l.toArray (λw'=>∃n,w'=w.drewN n) (λd=>∀w',(∃n,w'=w.drewN n)->Q .normal d w') l a):(Code.region id l.toArray true).wpIn (Fence.wide.inRound L) n P Q a w:=by
 simp only[Region.lexB,qx]at u;refine wpIn_region_any A (KL L ?_ _ _ _ _ (wpAnyIn_of_quiet (C:=λw'=>∃n,w'=w.drewN n) (Q:=λd=>∀w',(∃n,w'=w.drewN n)->Q .normal d w') rfl (λ_ w' z h=>h w' z) _ _ _ _ ⟨1,rfl⟩ ?_))
 .grind
 .have:=wpAnyQIn_lex (F:=Fence.wide) (n:=n) (C:=λw'=>∃n,w'=w.drewN n) (md:= .any) u.1 l.toArray.toList 0 (Array.replicate l.toArray.size false) a (by simp) (by simpa using u.2) (by simpa using h)
  simpa using this
end
attribute [local go_sem] Oper.semAt_some
def abt (T h:List Nat) (I:kL->gr->Prop) (d:Code->kL->gr->Prop) (zs:kL) (W:gr):Exit->Act->gr->Prop
 | .normal,_,W'=>Kept T W W'/\I zs W'
 | .ret,_,W'=>Kept h W W'/\d .ret zs W'
 | .exit id,_,W'=>Kept h W W'/\d (.exit id) zs W'
 | .goto t,_,W'=>Kept h W W'/\d (.goto t) zs W'
 | .panic _,_,_=>False
 | .outgrown,_,_=>False
theorem DQ {n:Nat} (hn:3<=n) {base b j:Nat} {tB:TypeId} {C:jE} {v:gG} {f:jb->jb} (hf:∀x y,f x=f y->x=y) {ys:kL} {w1:gr} (hL:wF base b j tB C v (ys.map f) w1)
  {g:Operand} {p:Tmp} {z Z:Code} {Q:Exit->Act->gr->Prop} {a:Act} (hg:a.eval g=uz w1.heap.size)
  (T Tx:List Nat) (hT:∀k∈T,k < w1.heap.size/\k≠b/\v.ownBlock≠some k) (ae:∀k∈Tx,k < w1.heap.size)
  (I:kL->gr->Prop) (Ix:Code->kL->gr->Prop)
  (hI:OwnFrom (w1.heap.size+2) I) (a6:∀c,OwnFrom (w1.heap.size+2) (Ix c)) (h0:I [] (mx b j ys.length w1)) (O:jb->Act)
  (U:∀(l:Nat) (x:jb) (W:gr) (K:Act->gr->Prop),K (O x) W->
   z.wpIn (Fence.wide.inRound l) (n - 1 - 1) prog (Exit.then K (λ_ _ _=>False)) {tmps:=a.tmps.setIfInBounds p (jY x),defers:=[]} W)
  (a1:∀(l:Nat) (pre:kL) (y:jb) (W:gr),y∈ys->I pre W->Z.wpIn (Fence.wide.inRound l) (n - 1 - 1) prog (abt T Tx I Ix (pre++[y]) W) (O (f y)) W)
  (aa:∀(D:Nat) (W:gr),w1.heap.size+2<=D->I ys.reverse W->W.heap[D]?=some (.deferred (some []))->Q .normal {a with defers:={target:= .collected D,args:=#[]}::a.defers} W)
  (a3:∀(D:Nat) (c:Code) (pre:kL) (W:gr),w1.heap.size+2<=D->pre <+:ys.reverse->Ix c pre W->W.heap[D]?=some (.deferred (some []))->c.wpIn Fence.wide n prog Q {a with defers:={target:= .collected D,args:=#[]}::a.defers} W):
  (Code.rangeFunc g #[p] z Z).wpIn Fence.wide n prog Q a (mx b j ys.length w1):=by
 have h:(mx b j ys.length w1).heap.size=w1.heap.size+2:=by simp
 have a9:=je hL.ik;have ab:Kept [] w1 (mx b j ys.length w1):=((Kept.refl _ _).alloc _).alloc _;have a8:wF base b j tB C v (ys.map f) (mx b j ys.length w1):=hL.Em (kj.jC (K:=b::v.ownBlock.toList) ab (λk d=>⟨by
  rcases List.mem_cons.1 d with rfl|d
  .exact a9
  .exact(hL.row.lt k (by simpa using d)).2,by simp⟩)) (by simp) (λk d=>by simp[d])
 have⟨b0,b1⟩:=(⟨(Below.heap_alloc _ _ _ (by simp)).trans (fQ w1 _),by
   have:=fQ (w1.alloc (gy #[lK b j] 276)) (gy #[ga ys.length] 3);simp_all⟩:(mx b j ys.length w1).heap[w1.heap.size]?=some (gy #[lK b j] 276)/\(mx b j ys.length w1).heap[w1.heap.size+1]?=some (gy #[ga ys.length] 3))
 obtain⟨K,hK⟩:∃K,K=b::w1.heap.size::v.ownBlock.toList:=⟨_,rfl⟩;have a4:∀k∈K,k < w1.heap.size+2:=by
  intro k d;rw[hK]at d;rcases List.mem_cons.1 d with rfl|d
  .omega
  .rcases List.mem_cons.1 d with rfl|d
   .omega
   .have:=(hL.row.lt k (by simpa using d)).2;omega
 have a7:∀k∈K,k∉T:=by
  intro k d a2;have⟨t1,t2,t3⟩:=hT k a2;rw[hK]at d;rcases List.mem_cons.1 d with rfl|d
  .omega
  .grind
 have ac:=QE (n - 1) (by omega) base b j tB C v (ys.map f) ys.length w1.heap.size K _ a8 (by simp) (by rw[hK];simp) (by rw[hK];simp) (by grind) (by simp) b1 b0;have ad:∀{α:Type} {W N:gr} {V:jb} {B:Nat},B<=W.heap.size->W.grownBy N V->B<=N.heap.size:=λG H=>jH G H.size;refine wpIn_rangeFunc_ownG rfl (by omega) (gf:=347) hg trivial (Go.Proofs.enters_of func347 (by rfl) rfl) ac kj.trans (λW l o o' hl G H h3=>kj.put (w:=mx b j ys.length w1) (by rw[h];omega) W l o o' hl G H h3) (Below.refl _ _) (λ_=>rfl)
  (λpre W=>w1.heap.size+2<=W.heap.size/\∃zs,pre.map (·.1)=zs.map f/\I zs W) (λc pre W=>∃zs,pre.map (·.1)=zs.map f/\Ix c zs W) ?_ ?_ ?_ (λx=>O x.1) ?_ ?_ ?_ ?_
 .rintro s A B V ⟨hs,zs,G,H⟩ Y hr;rw[h]at hr;exact⟨jH hs Y.size,zs,G,hI zs A B V H Y hr⟩
 .rintro c s A B V ⟨zs,G,H⟩ Y hr;rw[h]at hr;exact⟨zs,G,a6 c zs A B V H Y hr⟩
 .grind
 .intro l x W K' X;have:=U l x.1 W K' X;have e:(#[p].zip #[jY x.1]).foldl (λt (p,v)=>t.setIfInBounds p v) a.tmps=a.tmps.setIfInBounds p (jY x.1):=by simp
  rw[e];exact this
 .rintro l pre ⟨x,hx⟩ W ⟨hs,zs,G,H⟩ _;obtain⟨y,hy,rfl⟩:=List.mem_map.1 hx;refine Bk (a1 l zs y W hy H) ?_;have a5:∀{N:gr},Kept T W N->KeepsFrom (mx b j ys.length w1).heap.size W N:=by
   intro N d;refine⟨d.size,λk o a0 ho _=>?_⟩;rw[h]at a0;rw[d.block k (Array.getElem?_eq_some_iff.1 ho).1 (λa2=>by grind)];exact ho
  have u:∀{N:gr},Kept Tx W N->KeepsFrom (mx b j ys.length w1).heap.size W N:=by
   intro N d;refine⟨d.size,λk o a0 ho _=>?_⟩;rw[h]at a0;rw[d.block k (Array.getElem?_eq_some_iff.1 ho).1 (λa2=>by grind)];exact ho
  have F:(pre++[(⟨f y,hx⟩:{x:jb // x∈ys.map f})]).map (·.1)=(zs++[y]).map f:=by rw[ra,G];simp
  intro e a' N J;cases e with
  |normal=>exact⟨a5 J.1,kj.jC J.1 (λk d=>⟨mf (a4 k d) hs,a7 k d⟩),jH hs J.1.size,_,F,J.2⟩
  |ret=>exact⟨u J.1,_,F,J.2⟩
  |exit id=>exact⟨u J.1,_,F,J.2⟩
  |goto t=>exact⟨u J.1,_,F,J.2⟩
  |panic _=>exact J
  |outgrown=>exact J
 .rintro D xs W hD hS ⟨_,zs,G,H⟩ X;rw[h]at hD;have R:xs.map (·.1)=((ys.map f).take ys.length).reverse:=hS;rw[G,Av (by simp),<-Uq]at R;rw[yE hf R]at H;grind
 .rintro D c pre W hD hS ⟨zs,G,H⟩ X;rw[h]at hD;have R:pre.map (·.1) <+:((ys.map f).take ys.length).reverse:=hS;rw[G,Av (by simp),<-Uq]at R;exact a3 D c zs W hD (Sq hf R) H X
def Ui:=λ{n:Nat} (D:3<=n) {base b j F C v} {f:jb->jb} z {H G} u {g p d h Q a} A T l=>@DQ n D base b j F C v f z H G u g p d h Q a A T T l (λk B=>(l k B).1)
attribute [local go_sem] Oper.semAt_some
def Je {σ:Ab}:∀{xs:kL},(∀y∈xs,p (σ.qK y)=false/\q (σ.qK y)=false)->σ.xi p q xs=false
 |[],_=>rfl
 |x::xs,h=>by
  unfold Ab.xi;have⟨h1,h2⟩:=h x (by simp);rw[h1,h2];exact Je λy d=>h y (by simp[d])
theorem Jf {σ:Ab} {r : Bool} {rest : kL} (d:(p (σ.qK y)=true/\r=true)\/(p (σ.qK y)=false/\q (σ.qK y)=true/\r=false)):∀{xs:kL},(∀y∈xs,p (σ.qK y)=false/\q (σ.qK y)=false)->σ.xi p q (xs++[y]++rest)=r
 |[],_=>by
  grind[Ab.xi]
 |x::xs,h=>by
  show σ.xi p q (x::(xs++[y]++rest))=r;unfold Ab.xi;have⟨h1,h2⟩:=h x (by simp);rw[h1,h2];exact Jf d λy l=>h y (by simp[l])
theorem Kept.take (h:Kept [] w W) {D : Nat} (d:w.heap.size<=D) (o:Obj):Kept [] w (W.putObj D o):=h.grown (Bl W D o) (λk e=>by grind)
theorem ky {A B : gr} {d : jb} {o : Obj} (h:A.heap[k]?=some o) (l:A.grownBy B d) (z:∀r,d=some r->n<=r/\∃o:Obj,A.heap[r]?=some o/\o.isCells=false) (u:k < n):B.heap[k]?=some o:=by
 rw[l.block k (Array.getElem?_eq_some_iff.1 h).1 (λe=>by grind)];exact h
theorem lX {A B : gr} {d : jb} (h:Kept [] w A) (l:A.grownBy B d) (z:∀r,d=some r->n<=r/\∃o:Obj,A.heap[r]?=some o/\o.isCells=false) (u:w.heap.size<=n):Kept [] w B:=h.grown l (λk e=> .inr (by grind))
theorem vq {σ:Ab} (h:RF E f σ w) (p q:gn->Bool) (vs vb:gG) (hs:Ask E.bm vs p w) (hb:Ask E.bm vb q w):
  Calls prog 228 #[Bp E,vs,vb] w λe w'=>e=ir (.bool (σ.inScope p q))/\Kept [] w w':=by
 obtain⟨L,rfl,F⟩:=h;obtain⟨Y,u,rfl,a8,H1⟩:=hs.call;obtain⟨k2,G,rfl,a9,H2⟩:=hb.call;refine(xk (n:=3)).1 ?_;refine xl func228 rfl trivial ?_ rfl;simp only[ntmps228,wS,sW,wx,Nat.reduceAdd,Nat.reduceSub,wT,wU,wV,wW,sC,uT];obtain⟨N,H⟩:∃N,N=((w.alloc (gy #[.func (.func Y) #[] u] 85)).alloc (gy #[.func (.func k2) #[] G] 85)).alloc (gy #[.bool false] 4):=⟨_,rfl⟩;have a3:Kept [] w N:=by rw[H];exact(((Kept.refl _ _).alloc _).alloc _).alloc _
 have⟨b0,b1,b2⟩:=oc w (gy #[.func (.func Y) #[] u] 85) (gy #[.func (.func k2) #[] G] 85) (gy #[.bool false] 4);rw[<-H]at b0 b1 b2;have d:N.heap.size=w.heap.size+1+1+1:=by rw[H];simp
 have a5:=F.ib a3;have⟨C,HL,hC⟩:=a5.yD;have aa:=F.lt;have HU:=Vr E.bs E.bB 188 _ C _ _ N HL;have HO:=(λg (V:L.ov.ownBlock=some g)=>BT F.oP V);have HN:=fN (λ(W:gr) (J:Kept [] w W) (i:Nat) (e:zz) (hi:σ.gV i=some e)=>(F.ib J).uK hi);have HS:=(λ(y:jb) (I:y∈σ.gq)=>F.nU I);have HI:=fN F.inj;clear F a5 hC hs hb
 gi_wp2_with (refine⟨trivial,?_⟩;gi_at_call 284;rw[<-H];refine(callsIn_wide.2 HU).mono ?_;rintro e w' ⟨rfl,rfl⟩)
 rw[<-d,<-H];have HZ:=fN d;clear d H;refine Ui (by omega) (f:=iw L.gH) (λx y e=>ry HI.out e) HL rfl [w.heap.size+1+1] ?_
  (λpre W=>Kept [] w W/\W.heap[w.heap.size]?=some (gy #[.func (.func Y) #[] u] 85)/\W.heap[w.heap.size+1]?=some (gy #[.func (.func k2) #[] G] 85)/\W.heap[w.heap.size+1+1]?=some (gy #[.bool false] 4)/\∀y∈pre,p (σ.qK y)=false/\q (σ.qK y)=false)
  (λc pre W=>c= .ret/\Kept [] w W/\∃z y r,pre=z++[y]/\(∀y∈z,p (σ.qK y)=false/\q (σ.qK y)=false)/\((p (σ.qK y)=true/\r=true)\/(p (σ.qK y)=false/\q (σ.qK y)=true/\r=false))/\W.heap[w.heap.size+1+1]?=some (gy #[.bool r] 4))
  ?_ ?_ ?_ (λx=>{tmps:=#[Bp E,.func (.func Y) #[] u,.func (.func k2) #[] G,undef,gF w.heap.size,gF (w.heap.size+1),gF (w.heap.size+1+1),jY x,Bp E,gF E.bB,lK E.bB 188,uz N.heap.size,jY x,undef,undef,undef,undef,undef,undef,undef,undef,undef,undef,undef,undef,undef,undef],defers:=[]}) ?assign ?body ?done ?stop
 .grind
 .rintro s A B a7 ⟨h1,h2,X,R,U⟩ V F;have d:=HZ.out;exact⟨lX h1 V F (by omega),ky h2 V F (by omega),ky X V F (by omega),ky R V F (by omega),U⟩
 .rintro c s A B a7 ⟨h0,h1,z,y,r,h2,X,R,U⟩ V F;have d:=HZ.out;exact⟨h0,lX h1 V F (by omega),z,y,r,h2,X,R,ky U V F (by omega)⟩
 .have J:Kept [] N (mx E.bB 188 (σ.gq.length) N):=((Kept.refl _ _).alloc _).alloc _;exact⟨a3.trans J,J.at b0 (by simp),J.at b1 (by simp),J.at b2 (by simp),by simp⟩
 case assign=>
  intro l x W K hK;gi_wp2;exact hK
 case body=>
  rintro l pre y W I ⟨O,B2,B3,B4,B5⟩;obtain⟨i,e0,rfl,hi⟩:=HS y I;have c0:=HN.out W O i e0 hi;have c1:=fO B2 0;have c2:=fO B3 0;have Z:=fO B4 0;have f3:=gu B4 0;dsimp at c1 c2 Z;have HA:=(λW' (J:Kept [] w W')=>H1 W' (.gP J) (σ.nm i));have HB:=(λW' (J:Kept [] w W')=>H2 W' (.gP J) (σ.nm i));have HW:=O.drew;have HT:Hid (∀(r:Bool),Kept [w.heap.size+1+1] W ((W.drew).setCell ⟨w.heap.size+1+1,0,none⟩ (.bool r))/\Kept [] w ((W.drew).setCell ⟨w.heap.size+1+1,0,none⟩ (.bool r))/\((W.drew).setCell ⟨w.heap.size+1+1,0,none⟩ (.bool r)).heap[w.heap.size+1+1]?=some (gy #[.bool r] 4)):=λr=>⟨((Kept.refl _ W).drew).setCell (.inl (by simp)) _,O.drew.setCell (.inr (by simp;omega)) _,fV (show W.drew.heap[w.heap.size+1+1]?=_ from B4) 0 _⟩;have a6:Hid (∀(r:Bool),Kept [w.heap.size+1+1] W ((W.drew.drew).setCell ⟨w.heap.size+1+1,0,none⟩ (.bool r))/\Kept [] w ((W.drew.drew).setCell ⟨w.heap.size+1+1,0,none⟩ (.bool r))/\((W.drew.drew).setCell ⟨w.heap.size+1+1,0,none⟩ (.bool r)).heap[w.heap.size+1+1]?=some (gy #[.bool r] 4)):=λr=>⟨((Kept.refl _ W).drew.drew).setCell (.inl (by simp)) _,O.drew.drew.setCell (.inr (by simp;omega)) _,fV (show W.drew.drew.heap[w.heap.size+1+1]?=_ from B4) 0 _⟩;have HN:Hid (Kept [w.heap.size+1+1] W W.drew.drew):=(Kept.refl _ W).drew.drew
  try dsimp only
  rw[show jY (iw L.gH (some i))=gF (L.gH i)from rfl];have ab:prog.follows .mixedOrders=true:=rfl;gi_wp2;refine Bk (Q:=λe a' w'=>e=Exit.normal/\a'=({tmps:=#[Bp E,.func (.func Y) #[] u,.func (.func k2) #[] G,undef,gF w.heap.size,gF (w.heap.size+1),gF (w.heap.size+1+1),gF (L.gH i),Bp E,gF E.bB,lK E.bB 188,uz N.heap.size,gF (L.gH i),.bool (p (σ.nm i)),.func (.func Y) #[] u,gF (L.gH i),gF (L.gH i),gF (L.gH i),gw (σ.nm i),.bool (p (σ.nm i)),undef,undef,undef,undef,undef,undef,undef],defers:=[]}:Act)/\w'=W.drew) ?_ ?_
  .gi_region_with_o (refine⟨trivial,?_⟩;refine(qu l (callsIn_wide.2 (HA _ HW))).mono ?_;rintro e w' ⟨rfl,rfl⟩)
   all_goals simp
  rintro e a' w' ⟨rfl,rfl,rfl⟩;cases hp:p (σ.nm i)with
  |true=>
   gi_wp2;have⟨t1,t2,t3⟩:=HT.out true;exact⟨t1,rfl,t2,pre,some i,true,rfl,B5,.inl ⟨hp,rfl⟩,t3⟩
  |false=>
   have HP:=hp;clear hp;gi_wp2;refine Bk (Q:=λe a' w'=>e=Exit.normal/\a'=({tmps:=#[Bp E,.func (.func Y) #[] u,.func (.func k2) #[] G,undef,gF w.heap.size,gF (w.heap.size+1),gF (w.heap.size+1+1),gF (L.gH i),Bp E,gF E.bB,lK E.bB 188,uz N.heap.size,gF (L.gH i),.bool false,.func (.func Y) #[] u,gF (L.gH i),gF (L.gH i),gF (L.gH i),gw (σ.nm i),.bool false,.bool (q (σ.nm i)),.func (.func k2) #[] G,gF (L.gH i),gF (L.gH i),gF (L.gH i),gw (σ.nm i),.bool (q (σ.nm i))],defers:=[]}:Act)/\w'=W.drew.drew) ?_ ?_
   .gi_region_with_o (refine⟨trivial,?_⟩;refine(qu l (callsIn_wide.2 (HB _ HW.drew))).mono ?_;rintro e w' ⟨rfl,rfl⟩)
    all_goals simp
   rintro e a' w' ⟨rfl,rfl,rfl⟩;cases hq:q (σ.nm i)with
   |true=>
    gi_wp2;have⟨t1,t2,t3⟩:=a6.out false;exact⟨t1,rfl,t2,pre,some i,false,rfl,B5,.inr ⟨HP,hq,rfl⟩,t3⟩
   |false=>
    have HQ:=hq;clear hq;gi_wp2;refine⟨HN.out,O.drew.drew,B2,B3,B4,λy I=>?_⟩;rcases List.mem_append.1 I with I|I
    .exact B5 y I
    .rw[List.mem_singleton.1 I];exact⟨HP,HQ⟩
 case done=>
  rintro D W HD ⟨O,h2,X,R,U⟩ hK;have d:=HZ.out;have Z:=fO R 0;have f3:=gu R 0;dsimp at Z;have a1:σ.inScope p q=false:=Je (λy I=>U y I);clear h2 X d U;gi_wp2;have a2:=(NV W ⟨w.heap.size+1+1,0,none⟩ (.bool false)).same D _ hK rfl;refine⟨by simp,.inl ⟨_,_,rfl,oM a2,?_⟩⟩;have a0:=cell_kept (World.cell?_setCell_same' W ⟨w.heap.size+1+1,0,none⟩ (.bool false) (by rw[Z];rfl)) (Bl _ D (.deferred none)) (λr e=>by cases e;exact⟨_,a2,rfl⟩);refine⟨.bool false,?_,⟨by rw[a1],?_⟩⟩
  .simp[results,results228,go_sem,a0]
  .have d:=HZ.out;have hD:=HD;exact(O.setCell (.inr (by simp;omega)) _).take (by omega) _
 case stop=>
  rintro D c pre W HD a4 ⟨rfl,O,z,y,r,rfl,X,R,U⟩ hK;have⟨rest,hrest⟩:=a4;have a1:σ.inScope p q=r:=by unfold Ab.inScope;rw[<-hrest];exact Jf R X
  have Z:=fO U 0;dsimp at Z;clear X R U hrest;gi_wp2;refine⟨by simp,.inl ⟨_,_,rfl,oM hK,?_⟩⟩;have a0:=cell_kept Z (Bl _ D (.deferred none)) (λr e=>by cases e;exact⟨_,hK,rfl⟩);refine⟨.bool r,?_,⟨by rw[a1],?_⟩⟩
  .simp[results,results228,go_sem,a0]
  .have d:=HZ.out;have hD:=HD;exact O.take (by omega) _
def li (E:Env):Prop:=jT E 257 (λ_=>#[Bp E]) jO pV
def yF (f:Nat->Nat) (n k:Nat):nV (Gf f n k) n=gF k:=by simp[Gf]
def Bi (E:Env) (w:gr):Calls prog 211 #[] w λe w'=>∃k h,e=ir (.func (.func k) #[] h)/\Ask E.bm (.func (.func k) #[] h) Ak w'/\Kept [] w w':=by
 have C:=X2 E.bm [fR,fW,fX,fY,gX] w (by decide);go_enter func211,ntmps211;go_wp21;refine C.mono ?_;rintro e D ⟨A,z,B,rfl,d,u⟩;have⟨k,h,e0,_,_⟩:=d.call;cases e0;have l:=fN d;clear d;go_wp2;go_ret;exact⟨_,_,rfl,l,u⟩
def Pb (E:Env) (l:jT E 95 (λ_=>#[Bp E]) mU pV) (j:Nat):jT E 258 (λf=>#[Bp E,nV f j]) (mn j) uV:=by
 refine mI λf σ w R d HS H=>?_;unfold mn at d;go_enter func258,ntmps258;go_wp21;refine mC (l) H d HS rfl mT ?_;rintro(pl) σ w H h d;go_wp21;refine mC (DA E pl j) H d HS rfl mT ?_;rintro(_) σ w H h d;go_wp21;refine mC (Nl E (some j)) H d HS rfl mT ?_;rintro(_) σ w H h d;go_wp2;go_end0;exact jL d H rfl
def Kg (E:Env) (l:jT E 95 (λ_=>#[Bp E]) mU pV) (s:gn):iU E 178 (λ_=>#[Bp E,gw s]) (j7 s) uV:=by
 refine dI λf σ w R d HS H=>?_;unfold j7 at d;go_enter func178,ntmps178;have h:=H.FO s;replace d:Hid (R=(mn σ.nodes.length>>=λ_=>pure ()) (σ.add (.el {name:=s,gM:=[],ja:=none,kids:=[]}))):=d;have H:=h;go_wp21;refine mC (Pb E l σ.nodes.length) H d HS (by rw[yF]) lT ?_;rintro(_) σ w H u d;go_wp2;go_end0;exact fZ d H rfl
abbrev xu (E:Env) (p:gn->Bool) (w:gr) (e:Ending) (w':gr):Prop:=∃k d,e=ir (.func (.func k) #[] d)/\Ask E.bm (.func (.func k) #[] d) p w'/\Kept [] w w'
theorem RF.bounds {σ:Ab} (h:RF E f σ w):∃k d,w.cell? ⟨E.bB,186,none⟩=some (.func (.func k) #[] d)/\Ask E.bm (.func (.func k) #[] d) iJ w:=by
 have⟨L,_,hr⟩:=h;have⟨f1,a1,l1,c,ha⟩:=hr.bounds;have⟨k,d,e,_,_⟩:=ha.call;grind
theorem RF.GG {σ:Ab} (h:RF E f σ w):∃k d,w.cell? ⟨E.bB,184,none⟩=some (.func (.func k) #[] d)/\Ask E.bm (.func (.func k) #[] d) kQ w:=by
 have⟨L,_,hr⟩:=h;have⟨f1,a1,l1,c,ha⟩:=hr.GG;have⟨k,d,e,_,_⟩:=ha.call;grind
def RF.lt {σ:Ab} (h:RF E f σ w):E.bB < w.heap.size:=by have⟨L,_,hr⟩:=h;exact hr.lt
theorem ni (E:Env) (d:List gn) (w:gr) (h:d.length<=4096):
  Calls prog 215 #[nI w.heap.size d.length d.length] (w.alloc (gy (d.map Value.string).toArray 9)) (xu E (hH d) w):=by
 refine(X2 E.bm d w h).mono ?_;rintro e w' ⟨z,u,B,rfl,l,A⟩;have⟨k,lb,e,_,_⟩:=l.call;grind
theorem Sl (E:Env) (v1 v2:gG) (p q:gn->Bool) (w:gr) (h:Ask E.bm v1 p w) (l:Ask E.bm v2 q w):
  Calls prog 235 #[v1,v2] w (xu E (λs=>p s||q s) w):=by
 refine(ab3 E.bm v1 v2 p q w h l).mono ?_;rintro e w' ⟨z,u,B,rfl,d,A⟩;have⟨k,lb,e,_,_⟩:=d.call;grind
def ze {σ:Ab} (h:RF E f σ w):Calls prog 276 #[Bp E] w (xu E Ct w):=by
 have⟨kb,lbb,cb,HB⟩:=h.bounds;have G:=h.lt;have I:=cb;have H:=ni E [gS] w.drew (by decide);go_enter func276,ntmps276;go_wp21
 go_region_with (first
  |(go_at_call 215;refine H.mono ?_;rintro e N ⟨R,J,rfl,u,d⟩;have O:N.cell? ⟨E.bB,186,none⟩=some (.func (.func kb) #[] lbb):=(d.cell (p:=⟨E.bB,186,none⟩) G (by simp)).trans I;have B:=fN u;have l:=fN d;clear u d)
  |(go_at_call 235;refine(Sl E _ _ _ _ _ (HB.k0 (((Kept.refl _ w).drew).trans l)) B).mono ?_;rintro e V ⟨U,K,rfl,z,A⟩;have D:=fN z;have F:=fN ((((Kept.refl _ w).drew).trans l).trans A);clear z A))
 all_goals go_wp2
 all_goals go_ret
 all_goals exact⟨_,_,rfl,D,F⟩
def Kh {σ:Ab} (h:RF E f σ w):Calls prog 275 #[Bp E] w (xu E abT w):=by
 have⟨kb,lbb,cb,HB⟩:=h.bounds;have G:=h.lt;have I:=cb;have H:=ni E [oj] w.drew (by decide);go_enter func275,ntmps275;go_wp21
 go_region_with (first
  |(go_at_call 215;refine H.mono ?_;rintro e N ⟨R,J,rfl,u,d⟩;have O:N.cell? ⟨E.bB,186,none⟩=some (.func (.func kb) #[] lbb):=(d.cell (p:=⟨E.bB,186,none⟩) G (by simp)).trans I;have B:=fN u;have l:=fN d;clear u d)
  |(go_at_call 235;refine(Sl E _ _ _ _ _ (HB.k0 (((Kept.refl _ w).drew).trans l)) B).mono ?_;rintro e V ⟨U,K,rfl,z,A⟩;have D:=fN z;have F:=fN ((((Kept.refl _ w).drew).trans l).trans A);clear z A))
 all_goals go_wp2
 all_goals go_ret
 all_goals exact⟨_,_,rfl,D,F⟩
def wj (E:Env) (w:gr):Calls prog 219 #[] w (xu E Aj w):=by
 have C:=ni E [fP,fR] w (by decide);go_enter func219,ntmps219;go_wp21;refine C.mono ?_;rintro e u ⟨k,l,rfl,d,h⟩;go_wp2;go_ret;exact⟨_,_,rfl,d,h⟩
def LQ (E:Env) (w:gr):Calls prog 118 #[] w (xu E (hH [fR]) w):=by
 have C:=ni E [fR] w (by decide);go_enter func118,ntmps118;go_wp21;refine C.mono ?_;rintro e u ⟨k,l,rfl,d,h⟩;go_wp2;go_ret;exact⟨_,_,rfl,d,h⟩
def Jp (E:Env) (w:gr):Calls prog 130 #[] w (xu E (hH [fW,fX,fY]) w):=by
 have C:=ni E [fW,fX,fY] w (by decide);go_enter func130,ntmps130;go_wp21;refine C.mono ?_;rintro e u ⟨k,l,rfl,d,h⟩;go_wp2;go_ret;exact⟨_,_,rfl,d,h⟩
def T0 (E:Env) (w:gr):Calls prog 229 #[] w (xu E (hH [gX]) w):=by
 have C:=ni E [gX] w (by decide);go_enter func229,ntmps229;go_wp21;refine C.mono ?_;rintro e u ⟨k,l,rfl,d,h⟩;go_wp2;go_ret;exact⟨_,_,rfl,d,h⟩
def UR (E:Env) (w:gr):Calls prog 230 #[] w (xu E (hH [il,im]) w):=by
 have C:=ni E [il,im] w (by decide);go_enter func230,ntmps230;go_wp21;refine C.mono ?_;rintro e u ⟨k,l,rfl,d,h⟩;go_wp2;go_ret;exact⟨_,_,rfl,d,h⟩
def FE (E:Env) (w:gr):Calls prog 269 #[] w (xu E (hH [mg,mh]) w):=by
 have C:=ni E [mg,mh] w (by decide);go_enter func269,ntmps269;go_wp21;refine C.mono ?_;rintro e u ⟨k,l,rfl,d,h⟩;go_wp2;go_ret;exact⟨_,_,rfl,d,h⟩
def tM (E:Env) (w:gr):Calls prog 232 #[] w (xu E (hH [gE]) w):=by
 have C:=ni E [gE] w (by decide);go_enter func232,ntmps232;go_wp21;refine C.mono ?_;rintro e u ⟨k,l,rfl,d,h⟩;go_wp2;go_ret;exact⟨_,_,rfl,d,h⟩
def qL (E:Env) (w:gr):Calls prog 233 #[] w (xu E (hH [fU]) w):=by
 have C:=ni E [fU] w (by decide);go_enter func233,ntmps233;go_wp21;refine C.mono ?_;rintro e u ⟨k,l,rfl,d,h⟩;go_wp2;go_ret;exact⟨_,_,rfl,d,h⟩
def ng (p b:gn->Bool):M Bool:=λσ=>if σ.inScope p b then .ok true (σ.EN p)else .ok false σ
def ou:M Unit:=do
 let _ <-ng (hH [mX]) Ct
 return ()
def pS (p:gn->Bool):M Unit:=wm λσ=>σ.IW p
def ur (p:gn->Bool):M Unit:=wm λσ=>σ.wH p
def jD (m:Nat):M Unit:=wm λσ=>{σ with mode:=m}
def j8 (x:jb):M Unit:=λσ=>if σ.gQ x then .ok () {σ with gq:=σ.gq.erase x} else .stuck
def zk (x y:jb):M Unit:=λσ=>if σ.gQ x&&σ.lV y then .ok () {σ with gq:=pI σ.gq x y} else .stuck
def qm (x y:jb):M Unit:=λσ=>if σ.gQ x&&σ.lV y&&decide (σ.gq.length < 4096)then .ok () {σ with gq:=iV σ.gq x y} else .stuck
def zZ (x:jb):M Unit:=λσ=>if σ.gQ x then .ok () {σ with gq:=nW σ.gq x} else .stuck
def kD (x:jb):M Unit:=λσ=>if σ.gQ x then .ok () {σ with act:=σ.act.erase x} else .stuck
def qW (x y:jb):M Unit:=λσ=>if σ.gQ x&&σ.gQ y then .ok () {σ with act:=pI σ.act x y} else .stuck
def p6 (x y:jb):M Unit:=λσ=>if σ.gQ x&&σ.gQ y&&decide (σ.act.length < 4096)then .ok () {σ with act:=iV σ.act x y} else .stuck
def Bo (x:jb):M Unit:=λσ=>if σ.gQ x then .ok () {σ with act:=nW σ.act x} else .stuck
def yy (gx:lh) (s:gn):Bool:=gx.any λa=>kh a.1 s
def qe (i:Nat):lh->M Unit
 |[]=>pure ()
 |a::r=>λσ=>match σ.gV i with
  |none=> .stuck
  |some e=>if yy e.gM a.1 then qe i r σ else if σ.oO<=e.gM.length then .stop 7 σ.gH else qe i r (σ.gU i {e with gM:=e.gM++[a]})
def vP (i:Nat) (t:gz):M Unit:=λσ=>if σ.fresh&&nh (σ.nm i)then qe i t.jm σ else .stuck
def kI (i:Nat):M Nat:=λσ=>match σ.gV i with
 |some e=>if nh e.name then .stuck else .ok σ.nodes.length (σ.add (.el {name:=e.name,gM:=e.gM,ja:=none,kids:=[]}))
 |none=> .stuck
def Ab.RY (σ:Ab) (x:jb):Bool:=decide (x=none)||decide (x∈σ.gq)
def Ab.kR (σ:Ab):kL->Nat
 |[]=>0
 |x::r=>if σ.RY x then r.length+1 else σ.kR r
def Ab.Ad (σ:Ab):Nat:=σ.kR σ.act.reverse
def Fh (n:Nat):M Nat:=λσ=>match io σ.act (n:Int)with
 |some i=> .ok i σ
 |none=> .stuck
def qA (old:Nat):M Unit:=λσ=>qW (some old) σ.last σ
def I0:Nat->Nat->M Unit
 |0,_=>pure ()
 |k+1,n=>do
  let old <-Fh n
  let j <-kI old
  mn j
  qA old
  I0 k (n+1)
def lF:M Unit:=λσ=>I0 (σ.act.length - σ.Ad) σ.Ad σ
def Ab.qj (σ:Ab) (s:gn):kL->jb
 |[]=>none
 |none::_=>none
 |some i::r=>if kh (σ.nm i) s then some i else σ.qj s r
def Ab.pn (σ:Ab) (s:gn):jb:=σ.qj s σ.act.reverse
def ac3 (a b:zz):Bool:=kh a.name b.name&&(a.gM.length==b.gM.length)&&a.gM.all λx=>b.gM.any λy=>kh x.1 y.1&&kh x.2 y.2
def Ab.Vv (σ:Ab) (i j:Nat):Bool:=match σ.gV i,σ.gV j with
 |some a,some b=>ac3 a b
 |_,_=>false
def Ab.rT (σ:Ab) (j:Nat):kL->jb×Nat->jb×Nat
 |[],c=>c
 |none::_,c=>c
 |some i::r,c=>if σ.Vv i j then σ.rT j r (some i,c.2+1)else σ.rT j r c
def lj (x:jb):M Unit:=λσ=>if σ.qH<=σ.act.length then .stop 6 σ.gH else if σ.gQ x then .ok () {σ with act:=σ.act++[x]} else .stuck
def Mb (i:Nat):M Unit:=λσ=>
 let c:=σ.rT i σ.act.reverse (none,0)
 if 3<=c.2 then (do
  kD c.1
  lj (some i)
  return ():M Unit) σ else (do
  lj (some i)
  return ():M Unit) σ
def yW:M Unit:=do
 Bo none
 return ()
def Iu:M Nat:=λσ=>match σ.last with
 |some i=> .ok i σ
 |none=> .stuck
def lw (t:gz):M Unit:=do
 lF
 jn t
 return ()
def sB (t:gz):M Unit:=do
 lF
 lr t
 return ()
def iQ (t:gz):M Unit:=do
 lw t
 let i <-Iu
 Mb i
 return ()
def uu (s:gn):M Unit:=do
 let _ <-ng (hH [s]) kQ
 return ()
def Ab.uE (σ:Ab) (f:Nat):kL->jb->jb
 |[],b=>b
 |x::r,b=>if x=some f then b else σ.uE f r (if kQ (σ.qK x)then x else b)
def Ab.p9 (σ:Ab) (f:Nat):jb:=σ.uE f σ.gq.reverse none
variable {σ : Ab}
def mw (j:Nat):M Unit:=λσ=>match σ.gV j with
 |none=> .stuck
 |some ej=>match ej.ja with
  |none=> .ok () σ
  |some p=>match σ.gV p with
   |none=> .stuck
   |some ep=>if j≠p/\0<=pZ ep.kids (Nd.gQ j)/\(pZ ep.kids (Nd.gQ j)).toNat < ep.kids.length then .ok () ((σ.gU p {ep with kids:=ep.kids.eraseIdx (pZ ep.kids (Nd.gQ j)).toNat}).gU j {ej with ja:=none})else .stuck
def Ey (pl:Nat×Nat) (k:Nd):M Unit:=match k with
 | .el j=>mP pl j
 |k=>zl pl k
def xI (dst:Nat):List Nd->M Unit
 |[]=>pure ()
 |k::r=>do
  let pl <-jt dst
  Ey pl k
  xI dst r
def handOver (b dst:Nat):M Unit:=λσ=>match σ.gV b with
 |none=> .stuck
 |some eb=>if b=dst then .stuck else (xI dst eb.kids>>=λ_ d=>match d.gV b with
  |some eb'=> .ok () (d.gU b {eb' with kids:=[]})
  |none=> .stuck) σ
def FW (n:Nat):M Nat:=λσ=>match io σ.gq (n:Int)with
 |some i=> .ok i σ
 |none=> .stuck
def mr (f h:Nat):Nat->Nat->Nat->Nat->M (Nat×Nat)
 |0,_,last,mark=>pure (last,mark)
 |n+1,c,last,mark=>do
  let e <-FW n
  if e=f then pure (last,mark)else do
   (if 3 < c+1 then kD (some e)else pure ())
   λσ=>if some e∉σ.act then (do
    j8 (some e)
    mr f h n (c+1) last mark:M (Nat×Nat)) σ else (do
    let d <-kI e
    zk (some e) (some d)
    qW (some e) (some d)
    mw last
    let pl <-jt d
    mP pl last
    mr f h n (c+1) d (if last=h then d else mark):M (Nat×Nat)) σ
def xg (f d:Nat):M (Nat×Nat):=λσ=>mr f d (posOf σ.gq (some d)).toNat 0 d f σ
def ahead (f:Nat):M Nat:=λσ=>match io σ.gq (posOf σ.gq (some f) - 1)with
 |some i=> .ok i σ
 |none=> .stuck
def ui (f h:Nat):M Unit:=do
 let (last,mark) <-xg f h
 mw last
 let a <-ahead f
 let pl <-placeFor a
 mP pl last
 let d <-kI f
 handOver h d
 let pl <-jt h
 mP pl d
 p6 (some mark) (some d)
 kD (some f)
 j8 (some f)
 qm (some h) (some d)
 return ()
def nu (s:gn):M Bool:=λσ=>match σ.pn s with
 |none=>(do uu s;return false:M Bool) σ
 |some f=>if some f∉σ.gq then (do kD (some f);return false:M Bool) σ
  else if !σ.oB f then .ok false σ
  else match σ.p9 f with
   |none=>(do zZ (some f);kD (some f);return false:M Bool) σ
   |some b=>(do ui f b;return true:M Bool) σ
def sH (s:gn):Nat->M Unit
 |0=>pure ()
 |k+1=>do
  let b <-nu s
  if b then sH s k else pure ()
def wG (s:gn):M Unit:=λσ=>match σ.last with
 |none=> .stuck
 |some i=>if kh (σ.nm i) s&&!decide (some i∈σ.act)then (do let _ <-xP;return ():M Unit) σ else sH s 8 σ
section
variable (rec:Nat->gz->M Unit) (t:gz)
def jM:M Unit:=λσ=>rec σ.mode t σ
def oH (pl:Nat×Nat) (nd:A0) (k:Nat->Nd):M Unit:=λσ=>zl pl (k σ.nodes.length) (σ.add nd)
def Bv:M (Nat×Nat):=jt 0
def oi:M Unit:=match t.k with
 | .iH n q=>do
  let pl <-Bv
  oH pl (.dt n) .dt
  wm λσ=>{σ with jB:=q||!kh n fP}
  jD 1
  return ()
 |_=>do
  jD 1
  return ()
def lE:M Unit:=do
 wm λσ=>{σ with jB:=true}
 jD 1
 jM rec t
 return ()
def sO (d:gn) (own:Bool) (gx:lh):M Nat:=λσ=>if own then (if σ.fresh then .ok σ.nodes.length (σ.pa (.el {name:=d,gM:=gx,ja:=none,kids:=[]}) false)else .stuck)else .ok σ.nodes.length (σ.add (.el {name:=d,gM:=[],ja:=none,kids:=[]}))
def rA (own:Bool) (gx:lh):M Unit:=do
 let e <-sO fP own gx
 let pl <-Bv
 mP pl e
 wN (some e)
 jD 2
 return ()
def xW:M Unit:=do
 rA t.oT t.jm
 return ()
def oR:M Unit:=do
 rA false []
 jM rec t
 return ()
def rB (own:Bool) (gx:lh):M Unit:=do
 let e <-sO gL own gx
 wm λσ=>{σ with head:=some e}
 mn e
 jD 3
 return ()
def xX:M Unit:=do
 rB t.oT t.jm
 return ()
def oS:M Unit:=do
 rB false []
 jM rec t
 return ()
def AF:M Unit:=do
 let _ <-xP
 jD 4
 return ()
def nw:M Unit:=do
 AF
 jM rec t
 return ()
def tR:M Unit:=do
 jn t
 jD 6
 return ()
def nk:M Unit:=do
 j7 gp
 jD 6
 jM rec t
 return ()
def po:M Unit:=λσ=>j8 σ.head σ
def pushHead:M Unit:=λσ=>wN σ.head σ
def tu:M Unit:=do
 pushHead
 rec 3 t
 po
 return ()
def Mh (of:gn) (d:Bool):M Unit:=wm λσ=>{σ with nD:=of,iX:=d}
def nT (d:Bool):M Unit:=do
 jn t
 Mh t.name d
 wm λσ=>{σ with kept:=σ.mode}
 jD 5
 return ()
def tV:M Unit:=do
 nT t false
 return ()
def oK:M Unit:=do
 nT t true
 return ()
def yx:M Unit:=do
 let _ <-xP
 wm λσ=>{σ with mode:=σ.kept}
 return ()
def Cy:M Unit:=do
 yx
 jM rec t
 return ()
def nB:M Unit:=if sM t.chars then pure ()else do
 lF
 jR t
 return ()
def oz:M Unit:=λσ=>match io σ.gq 0 with
 |some i=>(do vP i t;return ():M Unit) σ
 |none=> .stuck
def qd:M Unit:=λσ=>match io σ.gq 1 with
 |some i=>if kh (σ.nm i) gp then (do vP i t;return ():M Unit) σ else .ok () σ
 |none=> .ok () σ
def mV:M Unit:=do
 ou
 jn t
 return ()
def wh:M Unit:=do
 mV t
 wm λσ=>{σ with behind:=true}
 return ()
def ob:M Unit:=do
 ou
 pS (hH [mg,mh])
 jn t
 return ()
def wP:M Unit:=do
 ou
 lr t
 return ()
def tT:M Unit:=λσ=>match σ.form with
 |some _=> .ok () σ
 |none=>(do
  mV t
  wm λσ=>{σ with form:=σ.last}
  return ():M Unit) σ
def oX:M Unit:=do
 let _ <-ng (hH [gS]) iJ
 lw t
 return ()
def ym:M Unit:=λσ=>if σ.jB then .ok () σ else ou σ
def rZ:M Unit:=do
 ym
 jn t
 jD 7
 return ()
def pQ:M Unit:=do
 tV t
 wm λσ=>{σ with behind:=true}
 return ()
def oZ:M Unit:=do
 pS (hH [gE])
 lw t
 return ()
def qq:M Unit:=do
 lw t
 wm λσ=>{σ with mode:=if σ.mode=7\/σ.mode=9\/σ.mode=11\/σ.mode=12\/σ.mode=13 then 15 else 14}
 return ()
def qR:M Unit:=λσ=>match σ.pn sY with
 |none=>(do iQ t;return ():M Unit) σ
 |some a=>(do
  wG sY
  kD (some a)
  j8 (some a)
  iQ t
  return ():M Unit) σ
def tU:M Unit:=λσ=>if σ.inScope (hH [iB]) iJ then (do wG iB;iQ t;return ():M Unit) σ else (do iQ t;return ():M Unit) σ
def sy:M Unit:=do
 lF
 tU t
def pM:M Unit:=do
 wG t.name
 return ()
def oY:M Unit:=do
 lw t
 lj none
 return ()
def sq:M Unit:=do
 let b <-ng (hH [gO]) iJ
 if b then yW else pure ()
def yt:M Unit:=λσ=>if σ.inScope (hH [gp]) iJ then .ok () {σ with mode:=16} else .ok () σ
def yv:M Unit:=λσ=>if σ.inScope (hH [gp]) iJ then (do
  jD 16
  jM rec t
  return ():M Unit) σ else .ok () σ
def xD:M Unit:=do
 let _ <-ng (hH [t.name]) iJ
 return ()
def tD:M Unit:=do
 let _ <-ng (hH [mg,mh]) iJ
 return ()
def AG:M Unit:=do
 let _ <-ng (hH [kF]) abT
 return ()
def OL:M Unit:=λσ=>if σ.inScope (hH [mX]) Ct then (do ou;return ():M Unit) σ else (do
  j7 mX
  ou
  return ():M Unit) σ
def ut:M Unit:=do
 lF
 j7 jN
 let _ <-xP
 return ()
def yu:M Unit:=λσ=>match σ.form with
 |none=> .ok () σ
 |some i=>if σ.oB i then (do
   wm λσ=>{σ with form:=none}
   wm λσ=>σ.mG
   j8 (some i)
   return ():M Unit) σ else .ok () {σ with form:=none}
def xF:M Unit:=do
 uu t.name
 return ()
def Hp:M Unit:=jD 17
def vG:M Unit:=do
 jD 6
 jM rec t
 return ()
def sL:M Unit:=do
 wm λσ=>{σ with iL:=true}
 rec 6 t
 wm λσ=>{σ with iL:=false}
 return ()
def oQ:M Unit:=λσ=>if σ.current Ak then (do
  wm λσ=>{σ with kept:=σ.mode}
  jD 8
  jM rec t
  return ():M Unit) σ else (do sL rec t;return ():M Unit) σ
def pu:M Unit:=do
 ur (hH [fR])
 lj none
 jn t
 jD 9
 return ()
def mc:M Unit:=λσ=>match σ.form with
 |some _=> .ok () σ
 |none=>(do
  jn t
  let x <-xP
  wm λσ=>{σ with form:=x}
  return ():M Unit) σ
def SB (s:gn):gn:=⟨s.data.map λb=>if 65<=b.toNat/\b.toNat<=90 then b+32 else b⟩
def ub:lh->Bool
 |[]=>false
 |a::r=>if kh a.1 nE then kh (SB a.2) lB else ub r
def kH:M Unit:=if ub t.jm then (do lr t;return ())else (do sL rec t;return ())
def oC:M Unit:=match t.k with
 | .jW s=>if sM s then pure ()else λσ=>if σ.waiting.length < 4096 then .ok () {σ with waiting:=σ.waiting++[(t.a,t.b,s)]} else .stuck
 |_=>stuck
def qc (x:Nat×Nat×gn):gz:={a:=x.1,b:=x.2.1,k:= .jW x.2.2}
def tI:List (Nat×Nat×gn)->M Unit
 |[]=>pure ()
 |x::r=>do
  jR (qc x)
  tI r
def tG:List (Nat×Nat×gn)->M Unit
 |[]=>pure ()
 |x::r=>do
  sL rec (qc x)
  tG r
def pc:M Unit:=λσ=>if σ.waiting.any λx=>!lU x.2.2 then tG rec σ.waiting σ else tI σ.waiting σ
def rH (ks:List gn) (m:Nat):M Bool:=do
 let b <-ng (hH ks) Aj
 if b then (do jD m;return true)else return false
def lc (ks:List gn) (m:Nat):M Bool:=do
 let b <-rH ks m
 if b then (do yW;return true)else return false
def jG (s:gn):Nat:=if hH [il,im] s then 13 else if hH [gX] s then 12 else if hH [fW,fY,fX] s then 11 else if hH [gh] s then 9 else if hH [fS] s then 10 else if hH [fR] s then 7 else 6
def tO (σ:Ab):kL->Nat
 |[]=>6
 |x::r=>if jG (σ.qK x)=6 then tO σ r else jG (σ.qK x)
def xh:M Unit:=wm λσ=>{σ with mode:=tO σ σ.gq.reverse}
def xG:M Bool:=do
 let b <-ng (hH [fR]) Aj
 if b then (do xh;return true)else return false
def tC:M Bool:=lc [gh] 7
def mD:M Bool:=λσ=>if σ.current (hH [fS])then (do
  let _ <-xP
  jD 7
  return true:M Bool) σ else .ok false σ
def qG:M Bool:=rH [fW,fX,fY] 7
def Ed:M Bool:=rH [gX] 11
def endCell:M Bool:=lc [il,im] 12
def qQ:M Unit:=do
 ur (hH [gX])
 jn t
 jD 13
 lj none
 return ()
def pg:M Unit:=if sM t.chars then pure ()else do
 jR t
 return ()
def jP:M Unit:=do
 pS (hH [gE])
 jn t
 return ()
def jp:M Unit:=do
 pS (hH [gE])
 pS (hH [fU])
 jn t
 return ()
def lG:M Unit:=do
 jp t
 let _ <-xP
 return ()
def jf:M Unit:=λσ=>if σ.current (hH [gE])then (match io σ.gq (posOf σ.gq σ.last - 1)with
  |none=> .stuck
  |some i=>if kh (σ.nm i) fU then (do
    let _ <-xP
    pS (hH [fU])
    return ():M Unit) σ else (do pS (hH [fU]);return ():M Unit) σ)
 else (do pS (hH [fU]);return ():M Unit) σ
def mO:M Unit:=do
 pS (hH [gE])
 return ()
def vn:M Bool:=do
 let b <-ng (hH [iS]) (λs=>!(hH [gE] s||hH [fU] s))
 if b then (do xh;return true)else return false
end
def To.ml {σ' : Ab} {α:Type} {d:(Nat->Nat)->α->gG} {a:α} {e : Ending} (h:To E L σ' w w') (l:e=ir (d L.gH a)) (u:σ.nodes.length<=σ'.nodes.length):jS E L.gH σ.nodes.length w (.ok a σ') d e w':=by
 have⟨L',e1,h3,h4⟩:=h;exact⟨l,⟨L',e1,h3⟩,h4,u⟩
def adw (h:RF E f σ w) (d:Ask E.bm v p w):
  Calls prog 283 #[Bp E,v] w (jS E f σ.nodes.length w (.ok () (σ.EN p)) uV):=by
 obtain⟨L,rfl,l⟩:=h;exact(abv l v p d).mono (λe w' h=>h.2.ml h.1 (gW _))
theorem vi (h:RF E f σ w) (d:Ask E.bm v p w):
  Calls prog 231 #[Bp E,v] w (jS E f σ.nodes.length w (pS p σ) uV):=by
 obtain⟨L,rfl,l⟩:=h;exact(YB l v p d).mono (λe w' h=>h.2.ml h.1 (by unfold Ab.IW;grind[Ab.pop]))
def D8 (h:RF E f σ w) {d : jE} (l:Ask E.bm (.func (.func k) #[] d) p w):
  Calls prog 212 #[Bp E,.func (.func k) #[] d] w (jS E f σ.nodes.length w (ur p σ) uV):=by
 obtain⟨L,rfl,u⟩:=h;exact(Rk u _ _ _ p l).mono (λe w' h=>h.2.ml h.1 (gW _))
def Kd (h:RF E f σ w):
  Calls prog 278 #[Bp E] w (jS E f σ.nodes.length w (wm (λσ=>σ.mG) σ) uV):=by
 obtain⟨L,rfl,d⟩:=h;exact(Ih d).mono (λe w' h=>h.2.ml h.1 (gW _))
def AD (h:RF E f σ w) (d:Ask E.bm v p w):
  Calls prog 210 #[Bp E,v] w λe w'=>e=ir (.bool (σ.current p))/\w'=w:=by
 obtain⟨L,rfl,l⟩:=h;exact yp l v p d
def yn (h:RF E f σ w) {B D : Nat} {l u : jE} (A:Ask E.bm (.func (.func B) #[] l) p w) (N:Ask E.bm (.func (.func D) #[] u) q w):
  Calls prog 218 #[Bp E,.func (.func B) #[] l,.func (.func D) #[] u] w (jS E f σ.nodes.length w (ng p q σ) bV):=by
 have z:=vq h p q _ _ A N;have G:=A;have H:=At.start h;unfold ng;cases hi:σ.inScope p q with
 |false=>
  rw[hi]at z;rw[gI (by simp)];go_enter func218,ntmps218;go_wp21;refine z.mono ?_;rintro e O ⟨rfl,d⟩;replace H:=H.k0 d;go_wp2;go_ret;exact jL rfl H rfl
 |true=>
  rw[hi]at z;rw[gN (by simp)];go_enter func218,ntmps218;go_wp21;refine z.mono ?_;rintro e O ⟨rfl,d⟩;have F:=adw (H.k0 d).rel (G.k0 d);replace H:=H.k0 d;go_wp21;refine F.mono ?_;rintro e R ⟨rfl,I,J,K⟩;replace H:=H.to I K J;go_wp2;go_ret;exact jL rfl H rfl
def xA (h:RF E f σ w) (D:ou σ≠ .stuck):
  Calls prog 268 #[Bp E] w (jS E f σ.nodes.length w (ou σ) uV):=by
 obtain⟨R,u⟩:∃R,R=(ou) σ:=⟨_,rfl⟩;rw[<-u]at D|-;unfold ou at u;have HS:=D;have H:=At.start h;have A:=fN u;clear u;go_enter func268,ntmps268;have F:=ni E [mX] w (by decide);go_wp21;refine F.mono ?_;rintro e O ⟨K,G,rfl,d,B⟩;replace H:=H.k0 B;go_wp21;refine(ze H.rel).mono ?_;rintro e U ⟨N,I,rfl,z,l⟩;replace d:=d.k0 l;replace H:=H.k0 l;go_wp21;refine zV (λ_=>yn H.rel d z) H A HS mT ?_;rintro(_) σ w H J A;go_wp2;go_end0;exact jL A H rfl
abbrev Q5:Obj:=gy #[.pointer none,ga 0] 231
def M.bind_pure {α:Type} (m:M α) (σ:Ab):(m>>=λa=>(Pure.pure a:M α)) σ=m σ:=by
 rw[M.gm];cases m σ<;>rfl
theorem IV (E:Env) (hF:li E) (i:Nat):jT E 168 (λf=>#[Bp E,nV f i]) (placeFor i) pV:=by
 intro f σ w h hs;have HB:=fQ w Q5;have a9:=h.lt;have H0:=(At.start h).k0 ((Kept.refl _ w).alloc Q5);have D:w.cell? ⟨E.bB,195,none⟩=some (.bool σ.iL):=(At.start h).Xc;obtain⟨R,z⟩:∃R,R=placeFor i σ:=⟨_,rfl⟩;rw[<-z]at hs|-;have HS:=hs;unfold placeFor at z;cases hfo:σ.iL with
 |false=>
  rw[hfo]at z D;rw[gI (by simp)]at z;have H:=H0;have u:Hid (R=(jt i>>=λpl=>pure pl) σ):=fN (z.trans (M.bind_pure (jt i) σ).symm);clear z;go_enter func168,ntmps168;go_wp21
  go_quiet (fail)
  replace H:=fN (H.k0 ((Kept.refl _ (w.alloc Q5)).drewN nq));go_wp21;refine jT.call (Fv E i) H u HS rfl ?_ ?_
  .intro c p j ws l U V;have O:=fN l;clear l;go_wp2;exact⟨rfl,tK O U V⟩
  rintro pl a1 N l Z F;have d:=((Fr.gP ((Kept.refl _ (w.alloc Q5)).drewN nq)).trans Z).cell HB (by decide);have Y:=fO d 0;have K:=fO d 1;have f0:=gu d 0;have f1:=gu d 1;dsimp at Y K;replace H:=fN (((l.side d (by decide) (gW _) 0 (gF (f pl.1))).side (fV d 0 _) (by decide) (gW _) 1 (ga pl.2)));replace u:=fN F;have A:=fN (fV (fV d 0 (gF (f pl.1))) 1 (ga pl.2));clear l F;go_wp2;refine o0 (v:=pV f pl) ?_ rfl (jL u H rfl);simp[results,results168,asAddr,Result.andThen,go_sem,fO A.out]
 |true=>
  rw[hfo]at z D;have a6:∃e,σ.gV i=some e:=by
   cases he:σ.gV i with
   |some e=>simp
   |none=>
    exfalso;have a7:σ.nm i=⟨#[]⟩:=by unfold Ab.nm;rw[he]
    have B:Ak (σ.nm i)=false:=by rw[a7];simp[Ak,hH,kh,sD]
    rw[B]at z;simp only[Bool.and_false,wX,Ce]at z;apply hs;rw[z];grind[jt]
  have⟨e0,he0⟩:=a6;have HN:∀W,Kept [] w W->W.cell? ⟨f i,0,none⟩=some (gw (σ.nm i)):=by
   intro W hk;obtain⟨L,rfl,hr⟩:=h;exact(hr.ib hk).uK he0
  have cN:=HN w (Kept.refl _ _);have a8:f i < w.heap.size:=by
   obtain⟨L,rfl,hr⟩:=h;exact hr.GQ (Ab.ic he0)
  have u:=fN z;have a5:=At.start h;clear z;go_enter func168,ntmps168;go_wp21
  go_cut [16]from 5 to 15 (λb wc=>b= .bool (Ak (σ.nm i))/\Kept [] w wc/\wc.heap[w.heap.size]?=some Q5)
  case first=>
   go_region_with (first
    |(go_at_call 211;refine(Bi E _).mono ?_;rintro e N ⟨k1,aa,rfl,a0,J⟩;have I:Kept [] w N:=(((Kept.refl _ w).alloc Q5).drew).trans J;have K:=HN N I;have⟨k1',lb1',e1,he1,hc1⟩:=a0.call;cases e1;have a3:=fN (hc1 N (vE.refl _ _) (σ.nm i));have a4:=fN I;have a2:=fN (J.at HB (by simp));clear a0 J I hc1)
    |(refine a3.mono ?_;rintro e w2 ⟨rfl,rfl⟩))
   all_goals (try (go_wp21))
   all_goals (go_meet;exact⟨rfl,a4,a2⟩)
  case rest=>
   obtain⟨rfl,hk,X⟩:=hcut;have H:Hid (At E f σ.nodes.length w f σ wc):=fN (a5.k0 hk);cases B:Ak (σ.nm i)with
   |true=>
    have G:Hid (R=(jO>>=λpl=>(Pure.pure pl:M (Nat×Nat))) σ):=by
     refine fN ?_;rw[M.bind_pure];have:=u
     rwa [B]at this
    replace u:=G;go_wp21;refine jT.call hF H u HS rfl ?_ ?_
    .intro c p j ws l U V;have O:=fN l;clear l;go_wp2;exact⟨rfl,tK O U V⟩
    rintro pl a1 N l Z F;have d:=Z.cell X (by decide);have Y:=fO d 0;have K:=fO d 1;have f0:=gu d 0;have f1:=gu d 1;dsimp at Y K;replace H:=fN (((l.side d (by decide) (gW _) 0 (gF (f pl.1))).side (fV d 0 _) (by decide) (gW _) 1 (ga pl.2)));replace u:=fN F;have A:=fN (fV (fV d 0 (gF (f pl.1))) 1 (ga pl.2));clear l F;go_wp2;refine o0 (v:=pV f pl) ?_ rfl (jL u H rfl);simp[results,results168,asAddr,Result.andThen,go_sem,fO A.out]
   |false=>
    have G:Hid (R=(jt i>>=λpl=>(Pure.pure pl:M (Nat×Nat))) σ):=by
     refine fN ?_;rw[M.bind_pure];have:=u
     rwa [B]at this
    replace u:=G;go_wp21;refine jT.call (Fv E i) H u HS rfl ?_ ?_
    .intro c p j ws l U V;have O:=fN l;clear l;go_wp2;exact⟨rfl,tK O U V⟩
    rintro pl a1 N l Z F;have d:=Z.cell X (by decide);have Y:=fO d 0;have K:=fO d 1;have f0:=gu d 0;have f1:=gu d 1;dsimp at Y K;replace H:=fN (((l.side d (by decide) (gW _) 0 (gF (f pl.1))).side (fV d 0 _) (by decide) (gW _) 1 (ga pl.2)));replace u:=fN F;have A:=fN (fV (fV d 0 (gF (f pl.1))) 1 (ga pl.2));clear l F;go_wp2;refine o0 (v:=pV f pl) ?_ rfl (jL u H rfl);simp[results,results168,asAddr,Result.andThen,go_sem,fO A.out]
def GF (E:Env) (hF:li E):jT E 95 (λ_=>#[Bp E]) mU pV:=by
 intro f σ w h HS;cases hl:σ.last with
 |none=>exfalso;apply HS;unfold mU;rw[hl]
 |some i=>
  have O:mU σ=(placeFor i>>=λpl=>pure pl) σ:=by
   unfold mU;rw[hl,M.bind_pure]
  obtain⟨R,u⟩:∃R,R=mU σ:=⟨_,rfl⟩;have D:Hid (Calls prog 169 #[lK E.bB 188] (w.alloc Q5) λe w'=>e=ir (gF (f i))/\w'=w.alloc Q5):=by
   obtain⟨L,rfl,X⟩:=h;have:=Se (X.ib ((Kept.refl _ w).alloc Q5))
   rwa [show io σ.gq ((σ.gq.length:Int) - 1)=some i from hl]at this
  rw[<-u]at HS|-;rw[O]at u;have H:=(At.start h).k0 ((Kept.refl _ w).alloc Q5);have z:=fN u;have J:=fQ w Q5;have V:=h.lt;clear u;go_enter func95,ntmps95;go_wp21;refine D.mono ?_;rintro e w' ⟨rfl,rfl⟩;go_wp21;refine jT.call (IV E hF i) H z HS rfl ?_ ?_
  .intro c p j ws l G I;have F:=fN l;clear l;go_wp2;exact⟨rfl,tK F G I⟩
  rintro pl Y w1 l U B;have d:=U.cell J (by decide);have K:=fO d 0;have N:=fO d 1;have f0:=gu d 0;have Z:=gu d 1;dsimp at K N;replace H:=((l.side d (by decide) (gW _) 0 (gF (f pl.1))).side (fV d 0 _) (by decide) (gW _) 1 (ga pl.2));replace z:=fN B;have A:=fN (fV (fV d 0 (gF (f pl.1))) 1 (ga pl.2));clear l B;go_wp2;refine o0 (v:=pV f pl) ?_ rfl (jL z H rfl);simp[results,results95,asAddr,Result.andThen,go_sem,fO A.out]
theorem RF.tv (h:RF E f σ w):∃d n l,E.tv= .slice d n l:=by
 have⟨L,_,hr⟩:=h;have⟨d,cap,e⟩:=gv hr.tok;grind
section
variable (E:Env) (hF:li E)
include hF
def Di (j:Nat):jT E 258 (λf=>#[Bp E,nV f j]) (mn j) uV:=Pb E (GF E hF) j
def ud (s:gn):iU E 178 (λ_=>#[Bp E,gw s]) (j7 s) uV:=Kg E (GF E hF) s
theorem kO (t:gz) (J:iY E t):iU E 173 (λ_=>#[Bp E,iA E t]) (jn t) uV:=by
 intro f σ w h HS;have⟨ao,n,cp,htv⟩:=h.tv;have d:t.oT=true/\σ.fresh=true:=by
  unfold jn at HS;rw[M.gm]at HS;unfold pH at HS;cases hc:(σ.fresh&&t.oT)with
  |true=>grind
  |false=>grind
 have F:=J d.1;have u:t.jm=E.ta/\yT E t=#[ga t.a,ga t.b,gw t.name,.slice ao n cp]:=by
  have⟨a,b,k,gx⟩:=t;cases k<;>simp_all[gz.oT,gz.jm,yT,gz.name]
 obtain⟨R,D⟩:∃R,R=(jn t) σ:=⟨_,rfl⟩;rw[<-D]at HS|-;have z:R=(mn σ.nodes.length>>=λ_=>(Pure.pure ():M Unit)) (σ.pa (.el {name:=t.name,gM:=E.ta,ja:=none,kids:=[]}) false):=by
  rw[D];unfold jn;rw[M.gm];unfold pH;simp only[d.1,d.2,u.1,Bool.and_self,xm]
 have A:=fN z;have l:=x7 E t w ⟨ao,n,cp,htv⟩;rw[u.2]at l;have H:=At.start h;have I:=h.lt;have B:=d.2;clear h D z d F u;go_enter func173,ntmps173;go_wp21;refine l.mono ?_;rintro e N ⟨rfl,G⟩;replace H:=(H.k0 (G.alloc (gy #[ga t.a,ga t.b,gw t.name,.slice ao n cp] 190))).pH B t.name;rw[htv]at H;clear G l;go_wp21;refine mC (Di E hF σ.nodes.length) H A HS (by simp[Gf]) lT ?_;clear H A;rintro(_) σ w H K A;go_wp2;go_end0;exact fZ A H rfl
def ve (t:gz) (l:iY E t):iU E 100 (λ_=>#[Bp E,iA E t]) (lr t) uV:=by
 refine dI λf σ w R d HS H=>?_;unfold lr at d;go_enter func100,ntmps100;go_wp21;refine dC (kO E hF t l) H d HS rfl lT ?_;rintro(_) f σ w H u h d;go_wp21;refine mC (YC E) H d HS rfl lT ?_;rintro(_) σ w H h d;go_wp2;go_end0;exact fZ d H rfl
def vc (t:gz):iU E 99 (λ_=>#[Bp E,iA E t]) (jR t) uV:=by
 refine dI λf σ w R d HS H=>?_;unfold jR at d;go_enter func99,ntmps99;go_wp21;refine mC (GF E hF) H d HS rfl lT ?_;rintro(pl) σ w H h d;go_wp21;refine(yl E t _).mono ?_;rintro e z ⟨rfl,l⟩;replace H:=H.k0 l;go_wp21;refine dC (Ss E pl t.chars) H d HS rfl lT ?_;rintro(_) f σ w H u h d;go_wp2;go_end0;exact fZ d H rfl
def vk (t:gz) (u:iY E t):iU E 183 (λ_=>#[Bp E,iA E t]) (mV t) uV:=by
 refine dI λf σ w R d HS H=>?_;unfold mV at d;go_enter func183,ntmps183;go_wp21;refine zV (λl=>xA H.rel l) H d HS lT ?_;rintro(_) σ w H h d;go_wp21;refine dC (kO E hF t u) H d HS rfl lT ?_;rintro(_) f σ w H z h d;go_wp2;go_end0;exact fZ d H rfl
def SG (t:gz) (h:iY E t):iU E 184 (λ_=>#[Bp E,iA E t]) (wh t) uV:=by
 refine dI λf σ w R d HS H=>?_;unfold wh at d;go_enter func184,ntmps184;go_wp21;refine dC (vk E hF t h) H d HS rfl lT ?_;rintro(_) f σ w H u l d;have z:=H.Xe;have A:=H.free 198;replace H:=H.rV true;go_wp2;go_end0;exact fZ d H rfl
end
def Am (a b:Int) (s:gn) (d:Option Addr) (n h:Nat) (w:gr):(Instr.field 190 (.agg #[ga a,ga b,gw s,.slice d n h]) 1).run prog w= .ok (gw s) w:=by
 have l:=underlying190;simp[Instr.field,qv l,go_sem,asAgg,Result.andThen]
def x8 (a b:Int) (s:gn) (d:Option Addr) (n h:Nat) (w:gr):(Instr.field 190 (.agg #[ga a,ga b,gw s,.slice d n h]) 2).run prog w= .ok (.slice d n h) w:=by
 have l:=underlying190;simp[Instr.field,qv l,go_sem,asAgg,Result.andThen]
def At.wZ {f0 : Nat->Nat} (h:At E f0 n0 w0 f σ w):w.cell? ⟨E.bB,187,none⟩=some (nV f 0):=by
 obtain⟨L,rfl,d⟩:=h.rel;exact d.low (by decide) d.env.wK
theorem rS (σ σ':Ab) (h:σ'.nodes=σ.nodes):σ.nodes.length<=σ'.nodes.length:=by grind
def Dy (E:Env) (x:jb):jT E 177 (λf=>#[lK E.bB 188,oV f x]) (j8 x) uV:=by
 intro f σ w ⟨L,e,u⟩ d;subst e;unfold j8 at d|-;by_cases l:σ.gQ x=true
 .rw[gN l];exact(Yv u x l).mono (λe w' h=>h.2.ml h.1 (rS _ _ rfl))
 .rw[gI l]at d;exact absurd rfl d
def Yt (E:Env) (x:jb):jT E 318 (λf=>#[lK E.bB 188,oV f x]) (zZ x) uV:=by
 intro f σ w ⟨L,e,u⟩ d;subst e;unfold zZ at d|-;by_cases l:σ.gQ x=true
 .rw[gN l];exact(aaD u x l).mono (λe w' h=>h.2.ml h.1 (rS _ _ rfl))
 .rw[gI l]at d;exact absurd rfl d
def Nh (E:Env) (x y:jb):jT E 366 (λf=>#[lK E.bB 188,oV f x,oV f y]) (qm x y) uV:=by
 intro f σ w ⟨L,e,u⟩ l;subst e;unfold qm at l|-;by_cases d:(σ.gQ x&&σ.lV y&&decide (σ.gq.length < 4096))=true
 .rw[gN d];simp at d;exact(PB u x y d.1.1 d.1.2 d.2).mono (λe w' h=>h.2.ml h.1 (rS _ _ rfl))
 .rw[gI d]at l;exact absurd rfl l
def Cn (E:Env) (x:jb):jT E 177 (λf=>#[lK E.bB 189,oV f x]) (kD x) uV:=by
 intro f σ w ⟨L,e,u⟩ d;subst e;unfold kD at d|-;by_cases l:σ.gQ x=true
 .rw[gN l];exact(WL u x l).mono (λe w' h=>h.2.ml h.1 (rS _ _ rfl))
 .rw[gI l]at d;exact absurd rfl d
def WK (E:Env) (x:jb):jT E 318 (λf=>#[lK E.bB 189,oV f x]) (Bo x) uV:=by
 intro f σ w ⟨L,e,u⟩ d;subst e;unfold Bo at d|-;by_cases l:σ.gQ x=true
 .rw[gN l];exact(ZG u x l).mono (λe w' h=>h.2.ml h.1 (rS _ _ rfl))
 .rw[gI l]at d;exact absurd rfl d
def ZE (E:Env) (x y:jb):jT E 266 (λf=>#[lK E.bB 189,oV f x,oV f y]) (qW x y) uV:=by
 intro f σ w ⟨L,e,u⟩ l;subst e;unfold qW at l|-;by_cases d:(σ.gQ x&&σ.gQ y)=true
 .rw[gN d];simp at d;exact(UD u x y d.1 d.2).mono (λe w' h=>h.2.ml h.1 (rS _ _ rfl))
 .rw[gI d]at l;exact absurd rfl l
def Ma (E:Env) (x y:jb):jT E 366 (λf=>#[lK E.bB 189,oV f x,oV f y]) (p6 x y) uV:=by
 intro f σ w ⟨L,e,u⟩ l;subst e;unfold p6 at l|-;by_cases d:(σ.gQ x&&σ.gQ y&&decide (σ.act.length < 4096))=true
 .rw[gN d];simp at d;exact(Oe u x y d.1.1 d.1.2 d.2).mono (λe w' h=>h.2.ml h.1 (rS _ _ rfl))
 .rw[gI d]at l;exact absurd rfl l
def BL (E:Env):jT E 174 (λ_=>#[lK E.bB 188]) xP oV:=YC E
def V5 (E:Env) (j:Nat):jT E 364 (λf=>#[nV f j]) (mw j) uV:=by
 intro f σ w ⟨L,e,u⟩ d;subst e;unfold mw at d|-;cases hj:σ.gV j with
 |none=>rw[hj]at d;exact absurd rfl d
 |some ej=>
  simp only[hj]at d|-;cases hp:ej.ja with
  |none=>
   simp only[hp]at d|-;refine(DK u hj hp).mono ?_;rintro e w' ⟨rfl,rfl⟩;exact⟨rfl,⟨L,rfl,u⟩,Fr.refl _,gW _⟩
  |some p=>
   simp only[hp]at d|-;cases hep:σ.gV p with
   |none=>rw[hep]at d;exact absurd rfl d
   |some ep=>
    simp only[hep]at d|-;by_cases l:j≠p/\0<=pZ ep.kids (Nd.gQ j)/\(pZ ep.kids (Nd.gQ j)).toNat < ep.kids.length
    .rw[gN l];exact(V2 u hj hp hep l.1 l.2.2 (by omega)).mono (λe w' h=>h.2.ml h.1 (by simp[Ab.gU]))
    .rw[gI l]at d;exact absurd rfl d
theorem KQ (E:Env) (i:Nat):iU E 265 (λf=>#[nV f i]) (kI i) nV:=by
 intro f σ w ⟨L,e,A⟩ d;subst e;unfold kI at d|-;cases hi:σ.gV i with
 |none=>rw[hi]at d;exact absurd rfl d
 |some e=>
  simp only[hi]at d|-;by_cases h:nh e.name=true
  .rw[gN h]at d;exact absurd rfl d
  .rw[gI h];refine(VY A hi (by grind)).mono ?_;rintro B w' ⟨L',l,rfl,u,z⟩;exact⟨L'.gH,l,by simp[Ab.add],rfl,⟨L',rfl,u⟩,z⟩
def RF.adY (h:RF E f σ w):0 < σ.nodes.length:=by
 have⟨L,_,hr⟩:=h;exact Ab.lN (σ:=σ) (i:=0) hr.wf.wK
theorem Yk (h:i < n):nV (Gf f n k) i=nV f i:=by grind[Gf]
section
variable (E:Env) (hF:li E) (rec:Nat->gz->M Unit)
variable (hA:∀(m:Nat) (t:gz),iY E t->iU E 161 (λ_=>#[Bp E,.int .i64 (m:Int),iA E t]) (rec m t) uV)
include hA in
def sU (t:gz) (A:iY E t):iU E 85 (λ_=>#[Bp E,iA E t]) (jM rec t) uV:=by
 intro f σ w h HS;obtain⟨R,u⟩:∃R,R=jM rec t σ:=⟨_,rfl⟩;rw[<-u]at HS|-;have d:R=(rec σ.mode t>>=λ_=>(Pure.pure ():M Unit)) σ:=by
  rw[u,M.bind_pure];rfl
 have l:=fN d;have H:=At.start h;have F:=H.ru;have z:=h.lt;clear h u d;go_enter func85,ntmps85;go_wp21;refine dC (hA σ.mode t A) H l HS rfl lT ?_;clear H l;rintro(_) f σ w H D B l;go_wp2;go_end0;exact fZ l H rfl
include hA in
def zy (t:gz) (l:iY E t):iU E 91 (λ_=>#[Bp E,iA E t]) (lE rec t) uV:=by
 refine dI λf σ w R d HS H=>?_;unfold lE at d;go_enter func91,ntmps91;have A:=H.Xd;have D:=H.free 196;have B:=H.ru;have F:=H.free 192;have h:=H.lt;replace H:=(H.qp true).iW 1;go_wp21;refine dC (sU E rec hA t l) H d HS rfl lT ?_;rintro(_) f σ w H z u d;go_wp2;go_end0;exact fZ d H rfl
theorem BG (own:Bool):iU E 166 (λ_=>#[Bp E,if own then E.tv else .slice none 0 0]) (rA own (if own then E.ta else [])) uV:=by
 intro f σ w h B;have⟨ao,n,cp,htv⟩:=h.tv;obtain⟨R,l⟩:∃R,R=rA own (if own then E.ta else []) σ:=⟨_,rfl⟩;rw[<-l]at B|-;have HS:=B;have H:=At.start h;have G:=h.lt;have A:=fN h.adY;have I:=H.wZ;have J:=H.UQ;have K:=H.free 190;unfold rA at l;cases own with
 |true=>
  rw[M.gm]at l;unfold sO at l;have z:σ.fresh=true:=by
   cases hq:σ.fresh with
   |true=>rfl
   |false=>grind
  simp only[z,xm]at l;have d:=fN l;replace H:=H.pH z fP;rw[htv]at H;rw[gN rfl,htv];clear h l;go_enter func166,ntmps166;go_wp21;refine mC (Fv E 0) H d HS (by rw[Yk A.out]) lT ?_;rintro(pl) σ w H u d;go_wp21;refine mC (DA E pl _) H d HS (by rw[yF]) lT ?_;rintro(_) σ w H u d;go_wp21;refine mC (Nl E (some _)) H d HS (by show #[_,nV _ _]=_;rw[yF]) lT ?_;rintro(_) σ w H u d;have D:=H.ru;have F:=H.free 192;replace H:=H.iW 2;go_wp2;go_end0;exact fZ d H rfl
 |false=>
  rw[M.gm]at l;unfold sO at l;simp only[wX,Ce]at l;have d:=fN l;replace H:=H.FO fP;rw[gI (by simp)];clear h l;go_enter func166,ntmps166;go_wp21;refine mC (Fv E 0) H d HS (by rw[Yk A.out]) lT ?_;rintro(pl) σ w H u d;go_wp21;refine mC (DA E pl _) H d HS (by rw[yF]) lT ?_;rintro(_) σ w H u d;go_wp21;refine mC (Nl E (some _)) H d HS (by show #[_,nV _ _]=_;rw[yF]) lT ?_;rintro(_) σ w H u d;have D:=H.ru;have F:=H.free 192;replace H:=H.iW 2;go_wp2;go_end0;exact fZ d H rfl
include hF in
theorem BI (own:Bool):iU E 171 (λ_=>#[Bp E,if own then E.tv else .slice none 0 0]) (rB own (if own then E.ta else [])) uV:=by
 intro f σ w h B;have⟨ao,n,cp,htv⟩:=h.tv;obtain⟨R,d⟩:∃R,R=rB own (if own then E.ta else []) σ:=⟨_,rfl⟩;rw[<-d]at B|-;have HS:=B;have H:=At.start h;have A:=h.lt;have I:=h.adY;have J:=H.wZ;have K:=H.UQ;have N:=H.free 190;unfold rB at d;cases own with
 |true=>
  rw[M.gm]at d;unfold sO at d;have z:σ.fresh=true:=by
   cases hq:σ.fresh with
   |true=>rfl
   |false=>grind
  simp only[z,xm]at d;have u:=fN d;replace H:=H.pH z gL;rw[htv]at H;rw[gN rfl,htv];clear d;go_enter func171,ntmps171;have l:=H.xS (some σ.nodes.length) (by simp[Ab.gQ,Ab.gV,Ab.pa,Ab.add]);rw[show oV (Gf f σ.nodes.length w.heap.size) (some σ.nodes.length)=gF w.heap.size from yF _ _ _]at l;rw[World.setCell_alloc_past _ _ _ _ A]at l;replace H:=l;go_wp21;refine mC (Di E hF _) H u HS (by rw[yF]) lT ?_;rintro(_) σ w H D u;have F:=H.ru;have G:=H.free 192;replace H:=H.iW 3;go_wp2;go_end0;exact fZ u H rfl
 |false=>
  rw[M.gm]at d;unfold sO at d;simp only[wX,Ce]at d;have u:=fN d;replace H:=H.FO gL;rw[gI (by simp)];clear d;go_enter func171,ntmps171;have l:=H.xS (some σ.nodes.length) (by simp[Ab.gQ,Ab.gV,Ab.pa,Ab.add]);rw[show oV (Gf f σ.nodes.length w.heap.size) (some σ.nodes.length)=gF w.heap.size from yF _ _ _]at l;rw[World.setCell_alloc_past _ _ _ _ A]at l;replace H:=l;go_wp21;refine mC (Di E hF _) H u HS (by rw[yF]) lT ?_;rintro(_) σ w H D u;have F:=H.ru;have G:=H.free 192;replace H:=H.iW 3;go_wp2;go_end0;exact fZ u H rfl
include hA in
def Ke (t:gz) (u:iY E t):iU E 94 (λ_=>#[Bp E,iA E t]) (oR rec t) uV:=by
 refine dI λf σ w R d HS H=>?_;unfold oR at d;go_enter func94,ntmps94;go_wp21;refine dC (BG E false) H d HS (by simp) lT ?_;rintro(_) f σ w H l h d;go_wp21;refine dC (sU E rec hA t u) H d HS rfl lT ?_;rintro(_) f σ w H l h d;go_wp2;go_end0;exact fZ d H rfl
include hF hA in
def Kf (t:gz) (u:iY E t):iU E 98 (λ_=>#[Bp E,iA E t]) (oS rec t) uV:=by
 refine dI λf σ w R d HS H=>?_;unfold oS at d;go_enter func98,ntmps98;go_wp21;refine dC (BI E hF false) H d HS (by simp) lT ?_;rintro(_) f σ w H l h d;go_wp21;refine dC (sU E rec hA t u) H d HS rfl lT ?_;rintro(_) f σ w H l h d;go_wp2;go_end0;exact fZ d H rfl
theorem Qi (t:gz) (N:iY E t):iU E 93 (λ_=>#[Bp E,iA E t]) (xW t) uV:=by
 intro f σ w h G;have⟨ao,n,cp,htv⟩:=h.tv;obtain⟨R,l⟩:∃R,R=xW t σ:=⟨_,rfl⟩;rw[<-l]at G|-;have HS:=G;have H:=At.start h;have K:=h.lt;have A:=x7 E t w ⟨ao,n,cp,htv⟩;unfold xW at l;cases htg:t.oT with
 |true=>
  have d:t.jm=(if true then E.ta else [])/\yT E t=#[ga t.a,ga t.b,gw t.name,.slice ao n cp]:=by
   have:=N htg;have⟨a,b,k,gx⟩:=t;cases k<;>simp_all[gz.oT,gz.jm,yT,gz.name]
  rw[htg,d.1]at l;rw[d.2]at A;have u:=fN A;have z:=fN l;have B:=fN htv;have D:=λw=>x8 (t.a:Int) (t.b:Int) t.name ao n cp w;clear l A htv;go_enter func93,ntmps93;go_wp21;refine u.mono ?_;rintro e O ⟨rfl,F⟩;replace H:=H.k0 F;go_wp21;refine dC (BG E true) H z HS (by rw[gN rfl,B.out]) lT ?_;rintro(_) f σ w H J I z;go_wp2;go_end0;exact fZ z H rfl
 |false=>
  have d:t.jm=(if false then E.ta else [])/\yT E t=#[ga 0,ga 0,gw kC,jV]:=by
   have⟨a,b,k,gx⟩:=t;cases k<;>simp_all[gz.oT,gz.jm,yT,gz.name]
  rw[htg,d.1]at l;rw[d.2]at A;have u:=fN A;have z:=fN l;have D:=λw=>x8 0 0 ⟨#[]⟩ none 0 0 w;clear l A htv;go_enter func93,ntmps93;go_wp21;refine u.mono ?_;rintro e O ⟨rfl,F⟩;replace H:=H.k0 F;go_wp21;refine dC (BG E false) H z HS (by simp) lT ?_;rintro(_) f σ w H J I z;go_wp2;go_end0;exact fZ z H rfl
include hF in
theorem Qj (t:gz) (N:iY E t):iU E 97 (λ_=>#[Bp E,iA E t]) (xX t) uV:=by
 intro f σ w h G;have⟨ao,n,cp,htv⟩:=h.tv;obtain⟨R,l⟩:∃R,R=xX t σ:=⟨_,rfl⟩;rw[<-l]at G|-;have HS:=G;have H:=At.start h;have K:=h.lt;have A:=x7 E t w ⟨ao,n,cp,htv⟩;unfold xX at l;cases htg:t.oT with
 |true=>
  have d:t.jm=(if true then E.ta else [])/\yT E t=#[ga t.a,ga t.b,gw t.name,.slice ao n cp]:=by
   have:=N htg;have⟨a,b,k,gx⟩:=t;cases k<;>simp_all[gz.oT,gz.jm,yT,gz.name]
  rw[htg,d.1]at l;rw[d.2]at A;have u:=fN A;have z:=fN l;have B:=fN htv;have D:=λw=>x8 (t.a:Int) (t.b:Int) t.name ao n cp w;clear l A htv;go_enter func97,ntmps97;go_wp21;refine u.mono ?_;rintro e O ⟨rfl,F⟩;replace H:=H.k0 F;go_wp21;refine dC (BI E hF true) H z HS (by rw[gN rfl,B.out]) lT ?_;rintro(_) f σ w H J I z;go_wp2;go_end0;exact fZ z H rfl
 |false=>
  have d:t.jm=(if false then E.ta else [])/\yT E t=#[ga 0,ga 0,gw kC,jV]:=by
   have⟨a,b,k,gx⟩:=t;cases k<;>simp_all[gz.oT,gz.jm,yT,gz.name]
  rw[htg,d.1]at l;rw[d.2]at A;have u:=fN A;have z:=fN l;have D:=λw=>x8 0 0 ⟨#[]⟩ none 0 0 w;clear l A htv;go_enter func97,ntmps97;go_wp21;refine u.mono ?_;rintro e O ⟨rfl,F⟩;replace H:=H.k0 F;go_wp21;refine dC (BI E hF false) H z HS (by simp) lT ?_;rintro(_) f σ w H J I z;go_wp2;go_end0;exact fZ z H rfl
def K9 (t:gz):iU E 103 (λ_=>#[Bp E,iA E t]) (AF) uV:=by
 refine dI λf σ w R d HS H=>?_;unfold AF at d;go_enter func103,ntmps103;go_wp21;refine mC (BL E) H d HS rfl lT ?_;rintro(_) σ w H l d;have u:=H.ru;have z:=H.free 192;have h:=H.lt;replace H:=H.iW 4;go_wp2;go_end0;exact fZ d H rfl
include hA in
def BB (t:gz) (u:iY E t):iU E 104 (λ_=>#[Bp E,iA E t]) (nw rec t) uV:=by
 refine dI λf σ w R d HS H=>?_;unfold nw at d;go_enter func104,ntmps104;go_wp21;refine dC (K9 E t) H d HS rfl lT ?_;rintro(_) f σ w H l h d;go_wp21;refine dC (sU E rec hA t u) H d HS rfl lT ?_;rintro(_) f σ w H l h d;go_wp2;go_end0;exact fZ d H rfl
include hF in
def Qf (t:gz) (l:iY E t):iU E 105 (λ_=>#[Bp E,iA E t]) (tR t) uV:=by
 refine dI λf σ w R d HS H=>?_;unfold tR at d;go_enter func105,ntmps105;go_wp21;refine dC (kO E hF t l) H d HS rfl lT ?_;rintro(_) f σ w H z u d;have A:=H.ru;have B:=H.free 192;have h:=H.lt;replace H:=H.iW 6;go_wp2;go_end0;exact fZ d H rfl
include hF hA in
def Kc (t:gz) (z:iY E t):iU E 107 (λ_=>#[Bp E,iA E t]) (nk rec t) uV:=by
 refine dI λf σ w R d HS H=>?_;unfold nk at d;go_enter func107,ntmps107;go_wp21;refine dC (ud E hF gp) H d HS rfl lT ?_;rintro(_) f σ w H l h d;have A:=H.ru;have B:=H.free 192;have u:=H.lt;replace H:=H.iW 6;go_wp21;refine dC (sU E rec hA t z) H d HS rfl lT ?_;rintro(_) f σ w H l h d;go_wp2;go_end0;exact fZ d H rfl
def La (t:gz):iU E 109 (λ_=>#[Bp E,iA E t]) (yx) uV:=by
 refine dI λf σ w R d HS H=>?_;unfold yx at d;go_enter func109,ntmps109;go_wp21;refine mC (BL E) H d HS rfl lT ?_;rintro(_) σ w H h d;have l:=H.ru;have z:=H.free 192;have u:=H.Rh;have A:=H.lt;replace H:=H.iW σ.kept;go_wp2;go_end0;exact fZ d H rfl
include hA in
def UZ (t:gz) (u:iY E t):iU E 108 (λ_=>#[Bp E,iA E t]) (Cy rec t) uV:=by
 refine dI λf σ w R d HS H=>?_;unfold Cy at d;go_enter func108,ntmps108;go_wp21;refine dC (La E t) H d HS rfl lT ?_;rintro(_) f σ w H l h d;go_wp21;refine dC (sU E rec hA t u) H d HS rfl lT ?_;rintro(_) f σ w H l h d;go_wp2;go_end0;exact fZ d H rfl
def Xp (t:gz):iU E 145 (λ_=>#[Bp E,iA E t]) (Hp) uV:=by
 refine dI λf σ w R d HS H=>?_;unfold Hp at d;go_enter func145,ntmps145;have l:=H.ru;have u:=H.free 192;have h:=H.lt;replace H:=H.iW 17;go_wp2;go_end0;exact fZ d H rfl
include hA in
def Ml (t:gz) (l:iY E t):iU E 237 (λ_=>#[Bp E,iA E t]) (vG rec t) uV:=by
 refine dI λf σ w R d HS H=>?_;unfold vG at d;go_enter func237,ntmps237;have A:=H.ru;have B:=H.free 192;have h:=H.lt;replace H:=H.iW 6;go_wp21;refine dC (sU E rec hA t l) H d HS rfl lT ?_;rintro(_) f σ w H z u d;go_wp2;go_end0;exact fZ d H rfl
end
def Leaves.k0 {α:Type} {r:pC α} {d:(Nat->Nat)->α->gG} {e : Ending} (h:Leaves E f n w' r d e W) (l:Kept [] w w'):Leaves E f n w r d e W:=by
 cases r with
 |ok a σ'=>have⟨g,h1,h2,h3,h4,h5⟩:=h;exact⟨g,h1,h2,h3,h4,(Fr.gP l).trans h5⟩
 |stop c p=>have⟨k,h1,h2,h3⟩:=h;exact⟨k,h1,h2,(Fr.gP l).trans h3⟩
 |stuck=>exact h
def abF (E:Env) (t:gz):Prop:=∀(bB bD:Nat) (sp:mB) (v0 v1 v2 v3 v4 v5 v6 v7 v8 v9:gG) (w:gr),kG E.bm bB bD sp v0 v1 v2 v3 v4 v5 v6 v7 v8 v9 w->
  Calls prog 254 #[.agg #[v0,v1,v2,v3,v4,v5,v6,v7,v8,v9],iA E t] w λe w'=>∃v,e=ir v/\nr E.bm bB bD (jX sp t) v w/\Kept [] w w'
def lQ (E:Env) (r:Ru) (t:gz) (m:M Unit):Prop:=∀v f σ w,RF E f σ w->nr E.bm E.bB (f 0) r v w->m σ≠ .stuck->
  ∃k bs h,v= .func (.func k) bs h/\(∀d w,(callFunc k d).run prog w= .ok (.enter k d) w)/\Calls prog k (bs++#[iA E t]++h) w (Leaves E f σ.nodes.length w (m σ) uV)
def asM (d:Ru->gz->M Unit) (m:Nat) (t:gz):M Unit:=match xV[m]? with
 |some sp=>d (jX sp t) t
 |none=>stuck
theorem RF.FY (h:RF E f σ w) {m : Nat} (z:xV[m]?=some sp):∃v0 v1 v2 v3 v4 v5 v6 v7 v8 v9,kG E.bm E.bB (f 0) sp v0 v1 v2 v3 v4 v5 v6 v7 v8 v9 w/\
  (∀j,j < 10->w.cell? ⟨E.bB,4+m*10+j,none⟩=[v0,v1,v2,v3,v4,v5,v6,v7,v8,v9][j]?):=by
 obtain⟨L,rfl,l⟩:=h;have⟨cs,hcs,hlen,hru⟩:=l.env.FY;have⟨v0,v1,v2,v3,v4,v5,v6,v7,v8,v9,e,hi⟩:=hru m sp z;have A:m < 18:=(List.getElem?_eq_some_iff.1 z).1;refine⟨v0,v1,v2,v3,v4,v5,v6,v7,v8,v9,?_,?_⟩
 .have u:=l.fr;have d:=u.n E.bm;have B:∀{R:Option (List (List gn×Ru))} {v:gG},ri E.bm E.bB (L.gH 0) R v E.w0->ri E.bm E.bB (L.gH 0) R v w:=by
   intro R v h;cases R with
   |none=>exact h
   |some R=>have⟨b,hb⟩:=h;exact⟨b,hb.fr d (u.calm (.inl hb.at))⟩
  exact⟨hi.blank.fr d,hi.jW.fr d,hi.gJ.fr d,hi.iH.fr d,hi.ie.fr d,B hi.start,B hi.stop,hi.jK.fr d,hi.j9.fr d,hi.iy.fr d⟩
 .intro j D;have⟨C,hb,hC⟩:=l.ik;rw[fO hb,hC.low _ (by omega),show 4+m*10+j=4+(m*10+j) by omega,hcs _ (by omega),<-e];grind
def Y2 (E:Env) (B:Ru->gz->M Unit) (t:gz) (V:abF E t) (X:∀r,lQ E r t (B r t)) (m:Nat):iU E 161 (λ_=>#[Bp E,ga m,iA E t]) (asM B m t) uV:=by
 intro f σ w h l;unfold asM at l|-;cases hm:xV[m]? with
 |none=>rw[hm]at l;exact absurd rfl l
 |some sp=>
  rw[hm]at l;simp only[]at l|-;have F:m < 18:=(List.getElem?_eq_some_iff.1 hm).1;have⟨v0,v1,v2,v3,v4,v5,v6,v7,v8,v9,hi,hc⟩:=h.FY hm;have q0:w.cell? ⟨E.bB,4+m*10,none⟩=some v0:=hc 0 (by decide);have q1:w.cell? ⟨E.bB,4+m*10+1,none⟩=some v1:=hc 1 (by decide);have q2:w.cell? ⟨E.bB,4+m*10+2,none⟩=some v2:=hc 2 (by decide);have q3:w.cell? ⟨E.bB,4+m*10+3,none⟩=some v3:=hc 3 (by decide);have q4:w.cell? ⟨E.bB,4+m*10+4,none⟩=some v4:=hc 4 (by decide);have q5:w.cell? ⟨E.bB,4+m*10+5,none⟩=some v5:=hc 5 (by decide);have q6:w.cell? ⟨E.bB,4+m*10+6,none⟩=some v6:=hc 6 (by decide);have q7:w.cell? ⟨E.bB,4+m*10+7,none⟩=some v7:=hc 7 (by decide);have q8:w.cell? ⟨E.bB,4+m*10+8,none⟩=some v8:=hc 8 (by decide);have q9:w.cell? ⟨E.bB,4+m*10+9,none⟩=some v9:=hc 9 (by decide);have a0:=h.lt;have G:=V _ _ _ _ _ _ _ _ _ _ _ _ _ w hi;have D:=(λv w' (u:Kept [] w w') (A:nr E.bm E.bB (f 0) (jX sp t) v w)=>X (jX sp t) v f σ w' (h.ib u) (A.fr (.gP u)) l);generalize hZ:B (jX sp t) t σ=Z at D|-;generalize iA E t=tv at *;go_enter func161,ntmps161;go_wp21;refine G.mono ?_;rintro e w1 ⟨v,rfl,A,u⟩;obtain⟨k,bs,cs,rfl,Y,d⟩:=D v w1 u A;have J:=d.mono (λe W z=>z.k0 u);go_wp21;refine J.mono ?_;intro e W z;cases Z with
  |ok a σ'=>
   obtain⟨g,N,O,rfl,R,U⟩:=z;have K:Hid (Leaves E f σ.nodes.length w (.ok a σ') uV (ir (uV g a)) W):=fN ⟨g,N,O,rfl,R,U⟩;go_wp2;go_end0;exact K
  |stop c p=>
   obtain⟨j,rfl,H,I⟩:=z;go_wp2;exact⟨rfl,oU rfl H I⟩
  |stuck=>exact z.elim
def qV (rec:Nat->gz->M Unit) (t:gz):M Unit:=match t.k with
 | .lost=>Pure.pure ()
 |_=>λσ=>if σ.behind&&kh t.chars ye then .ok () {σ with behind:=false,gH:=t.a} else jM rec t {σ with behind:=false,gH:=t.a}
def Xy (s:gn):kh s ye=(s.toList==[10]):=by
 simp[kh]
def Oq (a b:Int) (w:gr):Calls prog 426 #[.agg #[ga a,ga b]] w λe w'=>e=ir (.tuple #[ga a,ga b])/\Kept [] w w':=by
 go_enter func426,ntmps426;go_wp21;go_region
 all_goals (try go_wp2)
 all_goals (try go_ret2)
 all_goals exact⟨rfl,((Kept.refl [] w).alloc _).drew⟩
theorem xx (E:Env) (rec:Nat->gz->M Unit) (hA:∀(m:Nat) (t:gz),iY E t->iU E 161 (λ_=>#[Bp E,ga m,iA E t]) (rec m t) uV) (t:gz) (ht:iY E t) (hk:t.k≠ .lost) {T : TypeId} (D:iA E t= .iface T v) (hT:T≠186)
  (K:∀w,(Go.method 496 T v "Bytes").run prog w= .ok (426,.agg #[ga t.a,ga t.b]) w):iU E 47 (λ_=>#[Bp E,iA E t]) (qV rec t) uV:=by
 have I:=fN (sU E rec hA t ht);intro f σ w h O;obtain⟨R,l⟩:∃R,R=qV rec t σ:=⟨_,rfl⟩;rw[<-l]at O|-;replace l:=l.trans (show qV rec t σ=if σ.behind&&kh t.chars ye then .ok () {σ with behind:=false,gH:=t.a} else jM rec t {σ with behind:=false,gH:=t.a} by
  grind[qV])
 have HS:=fN O;have H:=fN (At.start h);have X:=H.out.Xe;have a0:=h.lt;have f1:=H.out.free 198;have f2:=H.out.free 197;have c2:=H.out.Ri;have J:=λw=>yl E t w;simp only[D]at J I|-;have F:=λ(v:gG) (xT:TypeId) (w:gr)=>Jo (z:= .agg #[ga 0,ga 0]) underlying186 rfl hT v xT w;have U:=fN J;clear h O J D ht hk hT;have V:Hid (∀o,Kept [] w (w.alloc o)):=fN (λo=>(Kept.refl [] w).alloc o);have G:=fN (λw=>Oq (t.a:Int) (t.b:Int) w);replace H:=fN ((H.out.rV false).k0 ((Kept.refl [] _).alloc (gy #[ga 0,ga 0] 186)));cases hb:σ.behind with
 |false=>
  have A:R=(jM rec t>>=λ_=>(Pure.pure ():M Unit)) {σ with behind:=false,gH:=t.a}:=by rw[l,hb,M.bind_pure];rfl
  have u:=fN A;rw[hb]at X;clear l A hb V;go_enter func47,ntmps47;go_wp21;refine(G.out _).mono ?_;rintro e w1 ⟨rfl,d⟩;replace H:=fN (H.out.k0 d);clear d;have Y:=H.out.Ri;have Z:=H.out.free 197;have l3:=H.out.lt;replace H:=fN (H.out.BX t.a);go_wp21;refine dC (I.out) H u HS rfl lT ?_;clear H u;rintro(_) f σ w H HX HF u;go_wp2;go_end0;exact fZ u.out H.out rfl
 |true=>
  rw[hb]at X l;simp only[Bool.true_and]at l;clear hb V;cases hn:kh (gz.chars t) ye with
  |false=>
   rw[hn]at l;have A:R=(jM rec t>>=λ_=>(Pure.pure ():M Unit)) {σ with behind:=false,gH:=t.a}:=by rw[l,M.bind_pure];rfl
   have u:=fN A;have N:=(Xy (gz.chars t)).symm.trans hn;clear l A hn;go_enter func47,ntmps47;go_wp21;refine(G.out _).mono ?_;rintro e w1 ⟨rfl,d⟩;replace H:=fN (H.out.k0 d);clear d;have Y:=H.out.Ri;have Z:=H.out.free 197;have l3:=H.out.lt;replace H:=fN (H.out.BX t.a);go_wp21;refine(U.out _).mono ?_;rintro e w2 ⟨rfl,B⟩;replace H:=fN (H.out.k0 B);clear B;go_wp21;refine dC (I.out) H u HS rfl lT ?_;clear H u;rintro(_) f σ w H HX HF u;go_wp2;go_end0;exact fZ u.out H.out rfl
  |true=>
   rw[hn]at l;simp only[]at l;have u:=fN l;have N:=(Xy (gz.chars t)).symm.trans hn;clear l hn;go_enter func47,ntmps47;go_wp21;refine(G.out _).mono ?_;rintro e w1 ⟨rfl,d⟩;replace H:=fN (H.out.k0 d);clear d;have Y:=H.out.Ri;have Z:=H.out.free 197;have l3:=H.out.lt;replace H:=fN (H.out.BX t.a);go_wp21;refine(U.out _).mono ?_;rintro e w2 ⟨rfl,B⟩;replace H:=fN (H.out.k0 B);clear B;go_wp2;go_end0;exact fZ u.out H.out rfl
def RF.Pk (h:RF E f σ w):Calls prog 169 #[lK E.bB 188] w λe w'=>e=ir (oV f σ.last)/\w'=w:=by
 obtain⟨L,rfl,d⟩:=h;exact Se d
def RF.ad9 (h:RF E f σ w):Calls prog 259 #[lK E.bB 189] w λe w'=>e=ir (ga σ.act.length)/\w'=w:=by
 obtain⟨L,rfl,d⟩:=h;exact abJ d
def RF.atA (h:RF E f σ w) (n:Int):Calls prog 238 #[lK E.bB 189,ga n] w λe w'=>e=ir (oV f (io σ.act n))/\w'=w:=by
 obtain⟨L,rfl,d⟩:=h;exact aeO d n
def RF.atO (h:RF E f σ w) (n:Int):Calls prog 238 #[lK E.bB 188,ga n] w λe w'=>e=ir (oV f (io σ.gq n))/\w'=w:=by
 obtain⟨L,rfl,d⟩:=h;exact aeg d n
def RF.ad4 (h:RF E f σ w) (x:jb) (l:σ.gQ x=true):Calls prog 312 #[lK E.bB 188,oV f x] w λe w'=>e=ir (.bool (decide (x∈σ.gq)))/\w'=w:=by
 obtain⟨L,rfl,d⟩:=h;exact aeh d x l
def RF.ad3 (h:RF E f σ w) (x:jb) (l:σ.gQ x=true):Calls prog 312 #[lK E.bB 189,oV f x] w λe w'=>e=ir (.bool (decide (x∈σ.act)))/\w'=w:=by
 obtain⟨L,rfl,d⟩:=h;exact adS d x l
def RF.acp (h:RF E f σ w) (x:jb) (l:σ.gQ x=true):Calls prog 236 #[lK E.bB 188,oV f x] w λe w'=>e=ir (oV f (io σ.gq (posOf σ.gq x - 1)))/\w'=w:=by
 obtain⟨L,rfl,d⟩:=h;exact yI d x l
def RF.abK (h:RF E f σ w) (n:Int):σ.gQ (io σ.act n)=true:=by
 obtain⟨L,rfl,u⟩:=h;unfold io;by_cases l:0<=n/\n < σ.act.length
 .rw[gN l];have d:n.toNat < σ.act.length:=by omega
  have e:σ.act.getD n.toNat none=σ.act[n.toNat]:=by simp[List.getD,d]
  rw[e];exact u.wf.act _ (ti d)
 .rw[gI l];rfl
def aaj (h:RF E f σ w) (x:jb) (l:σ.gQ x=true):
  Calls prog 264 #[Bp E,oV f x] w λe w'=>e=ir (.bool (σ.RY x))/\w'=w:=by
 have C:=h.ad4 x l;unfold Ab.RY;cases x with
 |none=>
  go_enter func264,ntmps264;go_wp2;go_ret;simp
 |some i=>
  have d:oV f (some i)=gF (f i):=rfl;rw[d]at C|-;go_enter func264,ntmps264;go_wp21;refine C.mono ?_;rintro e w' ⟨rfl,rfl⟩;go_wp2;go_ret;simp
theorem Bq (E:Env) (x:jb):jT E 280 (λf=>#[Bp E,oV f x]) (lj x) uV:=by
 intro f σ w ⟨L,e,h⟩ A;subst e;have K:=h.low (j:=1) (by decide) h.Dt.2.1;have⟨_,_,_,_,hd,_⟩:=h.Dt;have J:=h.D7;have u:=(λq=>abJ (h.drewN q));unfold lj at A|-;by_cases z:σ.qH<=σ.act.length
 .rw[gN z];have l:=(λq=>NH (h.drewN q) 6);go_enter func280,ntmps280;go_wp21
  go_quiet ((go_at_call 259;exact LX (u _)))
  go_wp21;refine(l nq).mono ?_;rintro e w' ⟨k,rfl,B,H⟩;have D:=(Fr.drewN w nq).trans H;go_wp2;exact⟨rfl,k,rfl,B,D⟩
 .rw[gI z]at A|-;have d:σ.gQ x=true:=by
   by_cases d:σ.gQ x=true
   .exact d
   .grind
  rw[gN d];have l:=(λq=>acn (h.drewN q) x d (by omega));go_enter func280,ntmps280;go_wp21
  go_quiet ((go_at_call 259;exact LX (u _)))
  go_wp21;refine(l nq).mono ?_;rintro e w' ⟨rfl,L',e1,G,I⟩;have F:=(Fr.drewN w nq).trans I;go_wp2;go_end0;exact⟨rfl,⟨L',e1,G⟩,F,gW _⟩
def M.tail {α:Type} {m:M α} {R:pC α} (h:R=m σ):R=(m>>=λa=>(Pure.pure a:M α)) σ:=by rw[M.bind_pure];exact h
def zD (E:Env):jT E 213 (λ_=>#[Bp E]) (lj none) uV:=by
 refine mI λf σ w R d HS H=>?_;go_enter func213,ntmps213;replace d:=fN (M.tail d);go_wp21;refine mC (Bq E none) H d HS rfl mT ?_;rintro(_) σ w H h d;go_wp2;go_end0;exact jL d H rfl
def QC (E:Env):jT E 279 (λ_=>#[Bp E]) yW uV:=by
 refine mI λf σ w R d HS H=>?_;unfold yW at d;go_enter func279,ntmps279;go_wp21;refine mC (WK E none) H d HS rfl mT ?_;rintro(_) σ w H h d;go_wp2;go_end0;exact jL d H rfl
def VS:σ.kR ((xs++[x]).reverse)=if σ.RY x then xs.length+1 else σ.kR xs.reverse:=by
 simp[Ab.kR]
def ZD (h:RF E f σ w) (x y:jb) (d:qW x y σ≠ .stuck):
  Calls prog 266 #[lK E.bB 189,oV f x,oV f y] w λe w'=>e=o9/\qW x y σ= .ok () {σ with act:=pI σ.act x y}/\RF E f {σ with act:=pI σ.act x y} w'/\Fr E.bs w w':=by
 have:=ZE E x y f σ w h d;unfold qW at this d|-;by_cases l:(σ.gQ x&&σ.gQ y)=true
 .rw[gN l]at this|-;exact this.mono (λe w' h=>⟨h.1,rfl,h.2.1,h.2.2.1⟩)
 .rw[gI l]at d;exact absurd rfl d
theorem P6 (xs:kL) (x y:jb):(pI xs x y).length=xs.length:=by
 grind[pI]
theorem O9 {σ' : Ab} (h:mn j σ= .ok () σ'):σ'.act=σ.act:=by
 unfold mn at h;rw[M.gm]at h;cases d:mU σ with
 |stuck=>grind
 |stop c p=>grind
 |ok pl σ1=>
  have e1:σ1=σ:=by
   unfold mU at d;cases hl:σ.last with
   |none=>grind
   |some i=>
    rw[hl]at d;have d:placeFor i σ= .ok pl σ1:=d;unfold placeFor at d;split at d
    .exact oy d
    .exact pj d
  rw[e1]at d;rw[d]at h;simp only at h;rw[M.gm]at h;cases h2:mP pl j σ with
  |stuck=>grind
  |stop c p=>grind
  |ok u σ2=>
   have e2:σ2.act=σ.act:=by
    unfold mP at h2;split at h2
    .split at h2
     .cases h2;rfl
     grind
    .cases h2
   rw[h2]at h;simp only at h;rw[M.gm]at h;cases h3:wN (some j) σ2 with
   |stuck=>grind
   |stop c p=>grind
   |ok u σ3=>
    rw[h3]at h;have z:σ3.act=σ2.act:=by
     unfold wN at h3;split at h3
     .cases h3
     .grind
    have:σ3=σ':=by
     have l:(pC.ok () σ3:pC Unit)= .ok () σ':=h;cases l;rfl
    grind
theorem rC (E:Env) (hF:li E):iU E 180 (λ_=>#[Bp E]) lF uV:=by
 intro f σ w I HS;obtain⟨R,hR⟩:∃R,R=lF σ:=⟨_,rfl⟩;rw[<-hR]at HS|-;have H:=At.start I;have a0:R=I0 (σ.act.length - σ.Ad) σ.Ad σ:=hR;have A:=fN a0;have C1:=I.ad9;have aj:=I.lt;have ar:σ.act.length<=4096:=by have⟨L,_,hr⟩:=I;exact hr.D7
 have ak:σ.Ad<=σ.act.length:=by
  have:∀xs:kL,σ.kR xs<=xs.length:=by
   intro xs
   induction xs with
   |nil=>simp[Ab.kR]
   |cons x xs ih=>
    show(if σ.RY x then xs.length+1 else σ.kR xs)<=xs.length+1;split<;>omega
  have:=this σ.act.reverse
  rwa [List.length_reverse]at this
 clear hR a0;go_enter func180,ntmps180;go_wp21;refine C1.mono ?_;rintro e w ⟨rfl,rfl⟩;go_wp21;rename_i K J;have V:∀(u8 u9 a4 a5 a6 a7 a8 a9 aa ab ac ad ae af ag:gG),K {tmps:=#[Bp E,undef,ga σ.Ad,undef,Bp E,gF E.bB,lK E.bB 189,ga σ.act.length,u8,u9,a4,a5,a6,a7,a8,a9,aa,ab,ac,ad,ae,af,ag,undef,undef,undef,undef,undef,undef,undef,undef,undef,undef,undef,undef,undef,undef,undef,undef,undef,undef,undef,undef,undef,undef,undef,undef,undef,undef],defers:=[]} w:=by
  intro u8 u9 a4 a5 a6 a7 a8 a9 aa ab ac ad ae af ag;refine J _ _ ?_;have aq:=ak;clear J C1;go_wp21
  go_loopw [2,3] (λv v3 wr=>∃(k n:Nat) (g:Nat->Nat) (h:Ab),v=ga n/\n+k=σ.act.length/\At E f σ.nodes.length w g h wr/\R=I0 k n h/\h.act.length=σ.act.length) (λv _ _=>σ.act.length - (intOf v).toNat)
  case atStart=>exact⟨σ.act.length - σ.Ad,σ.Ad,f,σ,rfl,by omega,H,A,rfl⟩
  case round=>
   obtain⟨k,n,g,h,rfl,au,H,Z,X⟩:=hrel;have A:=fN Z;have F:=H.rel.ad9;rw[X]at F;have aj:=H.lt;clear Z;cases k with
   |zero=>
    have e0:(n:Int)=(σ.act.length:Int):=by omega
    have N:((n:Int) < (σ.act.length:Int))=False:=by simp;omega
    go_wp21;refine F.mono ?_;rintro e w' ⟨rfl,rfl⟩;go_wp2;go_end0;exact fZ A H rfl
   |succ k=>
    have N:(n:Int) < (σ.act.length:Int):=by omega
    have u:∃old,io h.act (n:Int)=some old:=by
     cases hg:io h.act (n:Int)with
     |some i=>simp
     |none=>
      exfalso;apply HS;rw[A.out];unfold I0;rw[M.gm];unfold Fh;rw[hg]
    have⟨old,u⟩:=u;have z:=H.rel.abK (n:Int);have l:=H.rel.atA (n:Int);rw[u]at l z;have ai:=fN (Ab.lN z);replace A:Hid (R=(kI old>>=λj=>(do
      mn j
      qA old
      I0 k (n+1):M Unit)) h):=by
     refine fN (A.trans ?_);show(Fh n>>=_) h=_;rw[M.gm];unfold Fh;rw[u]
    clear u z;go_wp21;refine F.mono ?_;rintro e wr ⟨rfl,rfl⟩;go_wp21;refine l.mono ?_;rintro e wr ⟨rfl,rfl⟩;rw[show oV g (some old)=gF (g old)from rfl];clear l F;go_wp21;refine iU.Ot (KQ E old) H A HS rfl ?_ ?_
    .intro c p j ws H1 H2 H3;go_wp2;exact⟨rfl,oU H1 H2 H3⟩
    rintro j g2 an w2 O h0 h2 Y D;have HX:=fN h0;have HJ:Hid (an.act=h.act):=by
     unfold kI at D;split at D
     .split at D
      .cases D
      .cases D;rfl
     .cases D
    clear D;replace H:=O;replace A:=fN Y;clear O h0 h2 Y;go_wp21;refine jT.Ot (Di E hF j) H A HS rfl ?_ ?_
    .intro c p j ws H1 H2 H3;go_wp2;exact⟨rfl,oU H1 H2 H3⟩
    rintro⟨⟩ B w3 O h2 Y D;have ah:Hid (B.act=h.act):=fN ((O9 D).trans HJ);clear D;replace H:=O;replace A:=fN Y;have ao:=O.lt;clear O h2 Y;have a2:qW (some old) B.last B≠ .stuck:=by
     intro am;apply HS;rw[A.out,M.gm];unfold qA;rw[am]
    have CL:=(H.k0 ((Kept.refl _ w3).drew)).rel.Pk;have U:=ZD (H.k0 ((Kept.refl _ w3).drew)).rel (some old) B.last a2;rw[show oV g2 (some old)=gF (g old)from by show gF (g2 old)=_;rw[HX.out old ai.out]]at U;clear a2;go_wp21
    go_region_with (first
     |(go_at_call 169;refine CL.mono ?_;rintro e w4 ⟨rfl,rfl⟩)
     |(go_at_call 266;refine U.mono ?_;rintro e w5 ⟨rfl,q1,q2,q3⟩;have HZ:=fN ((H.k0 ((Kept.refl _ w3).drew)).to q2 (rS _ _ rfl) q3);have HQ:=fN q1;clear q1 q2 q3))
    all_goals (try (go_wp21))
    all_goals refine⟨⟨k,n+1,g2,_,by simp,by omega,HZ,?_,?_⟩,by simp[intOf];omega⟩
    .rw[A.out,M.gm];unfold qA;rw[HQ.out]
    .show(pI B.act (some old) B.last).length=σ.act.length;rw[P6,ah.out];exact X
 clear J H A C1
 go_loopw [2] (λv wr=>∃k:Nat,k<=σ.act.length/\v=ga k/\σ.kR (σ.act.take k).reverse=σ.Ad/\wr=w) (λv _=>(intOf v).toNat)
 case atStart=>grind[Ab.Ad]
 case round=>
  obtain⟨k,hk,rfl,d,rfl⟩:=hrel;cases k with
  |zero=>
   have hz:σ.Ad=0:=by rw[<-d];rfl
   have HZ:=fN hz;clear hz d;go_wp2;have:=V;rw[HZ.out]at this;simp_all
  |succ k=>
   have a1:k < σ.act.length:=by omega
   have e1:σ.act.take (k+1)=σ.act.take k++[σ.act[k]]:=by rw[DV,qw a1];rfl
   rw[e1,VS]at d;have hg:io σ.act ((k:Int))=σ.act[k]:=by
    unfold io;rw[gN (by omega)];simp[List.getD,a1]
   have l:=I.atA (k:Int);have z:=I.abK (k:Int);rw[hg]at l z;have G:=aaj I _ z;have e2:((k+1:Nat):Int) - 1=(k:Int):=by omega
   have ap:(0:Int) < ((k+1:Nat):Int):=by omega
   have a3:(σ.act.take k).length=k:=by simp;omega
   rw[a3]at d;clear e1 hg z a3;generalize hM:σ.RY σ.act[k]=b at G d;clear hM;generalize oV f σ.act[k]=vv at l G;cases b with
   |true=>
    go_wp21;refine l.mono ?_;rintro e w ⟨rfl,rfl⟩;go_wp21;refine G.mono ?_;rintro e w ⟨rfl,rfl⟩;go_wp21;have:=V;have al:k+1=σ.Ad:=by simpa using d
    rw[<-al]at this;exact this _ _ _ _ _ _ _ _ _ _ _ _ _ _ _
   |false=>
    go_wp21;refine l.mono ?_;rintro e w ⟨rfl,rfl⟩;go_wp21;refine G.mono ?_;rintro e w ⟨rfl,rfl⟩;go_wp21;exact⟨⟨k,by omega,rfl,by simpa using d,trivial⟩,by simp[intOf]⟩
theorem tw (p q:gn->Bool) (σ:Ab):ng p q σ= .ok (σ.inScope p q) (σ.close p q):=by
 grind[ng,Ab.inScope,Ab.close]
def Cx (h:RF E f σ w) {u z : Nat} {d l : jE} (A:Ask E.bm (.func (.func u) #[] d) p w) (B:Ask E.bm (.func (.func z) #[] l) q w):
  Calls prog 218 #[Bp E,.func (.func u) #[] d,.func (.func z) #[] l] w λe w'=>e=ir (.bool (σ.inScope p q))/\RF E f (σ.close p q) w'/\Fr E.bs w w':=by
 have:=yn h A B;rw[tw]at this;exact this.mono (λe w' h=>⟨h.1,h.2.1,h.2.2.1⟩)
theorem xB (σ:Ab) (p q:gn->Bool):σ.nodes.length<=(σ.close p q).nodes.length:=by
 unfold Ab.close;grind[Ab.EN]
def DL (E:Env) (t:gz) (h:RF E f σ w):∃a b d n l,∀w,Calls prog 167 #[iA E t] w λe w'=>e=ir (.agg #[ga a,ga b,gw t.name,.slice d n l])/\Kept [] w w':=by
 have⟨d,n,l,htv⟩:=h.tv;have C:=λw=>x7 E t w ⟨d,n,l,htv⟩;have⟨a,b,k,gx⟩:=t;cases k<;>simp only[yT,gz.name,htv]at C|-
 case start s=>exact⟨_,_,_,_,_,C⟩
 case stop s=>exact⟨_,_,_,_,_,C⟩
 all_goals exact⟨_,_,_,_,_,C⟩
def MD (E:Env) (t:gz):iU E 202 (λ_=>#[Bp E,iA E t]) (tD) uV:=by
 refine dI λf σ w R z HS H=>?_;unfold tD at z;go_enter func202,ntmps202;have⟨kb,lbb,cb,HQ⟩:=H.rel.bounds;have D:=H.lt;have B:=cb;have I:=(Kept.refl [] w).drew;replace z:Hid (R= .ok () (σ.close (hH [mg,mh]) (iJ))):=by
  have:=z;rw[M.gm,tw]at this;exact fN this
 go_wp21
 go_region_with (first
   |(go_at_call 269;refine(FE E _).mono ?_;rintro e N ⟨U,K,rfl,l,u⟩;have h:=I.trans u;have O:N.cell? ⟨E.bB,186,none⟩=some (.func (.func kb) #[] lbb):=(h.cell (p:=⟨E.bB,186,none⟩) D (by simp)).trans B;have A:=fN l;have d:=fN h;clear l u h)
   |(go_at_call 218;refine(Cx (p:=hH [mg,mh]) (q:=iJ) (H.k0 d).rel A (HQ.k0 d)).mono ?_;rintro e V ⟨rfl,F,G⟩;have J:=fN ((H.k0 d).to F (xB _ _ _) G);clear F G))
 all_goals (try (go_wp21))
 all_goals go_wp2
 all_goals go_end0
 all_goals exact fZ z J rfl
def Hq (E:Env) (s:gn):iU E 209 (λ_=>#[Bp E,gw s]) (uu s) uV:=by
 refine dI λf σ w R z HS H=>?_;unfold uu at z;go_enter func209,ntmps209;have⟨kb,lbb,cb,HQ⟩:=H.rel.GG;have D:=H.lt;have B:=cb;have I:=(Kept.refl [] w).drew;replace z:Hid (R= .ok () (σ.close (hH [s]) (kQ))):=by
  have:=z;rw[M.gm,tw]at this;exact fN this
 go_wp21
 go_region_with (first
   |(go_at_call 215;refine(ni E [s] w.drew (by simp)).mono ?_;rintro e N ⟨U,K,rfl,l,u⟩;have h:=I.trans u;have O:N.cell? ⟨E.bB,184,none⟩=some (.func (.func kb) #[] lbb):=(h.cell (p:=⟨E.bB,184,none⟩) D (by simp)).trans B;have A:=fN l;have d:=fN h;clear l u h)
   |(go_at_call 218;refine(Cx (p:=hH [s]) (q:=kQ) (H.k0 d).rel A (HQ.k0 d)).mono ?_;rintro e V ⟨rfl,F,G⟩;have J:=fN ((H.k0 d).to F (xB _ _ _) G);clear F G))
 all_goals (try (go_wp21))
 all_goals go_wp2
 all_goals go_end0
 all_goals exact fZ z J rfl
def U2 (E:Env) (t:gz):iU E 199 (λ_=>#[Bp E,iA E t]) (yt) uV:=by
 refine dI λf σ w R h HS H=>?_;unfold yt at h;go_enter func199,ntmps199;have⟨kb,lbb,cb,HQ⟩:=H.rel.bounds;have G:=H.lt;have D:=cb;have I:=(Kept.refl [] w).drew;go_wp21
 go_cut [11]from 4 to 10 (λr wc=>r= .bool (σ.inScope (hH [gp]) (iJ))/\At E f σ.nodes.length w f (σ) wc)
 case first=>
  go_region_with (first
   |(go_at_call 215;refine(ni E [gp] w.drew (by simp)).mono ?_;rintro e O ⟨Y,N,rfl,u,z⟩;have l:=I.trans z;have U:O.cell? ⟨E.bB,186,none⟩=some (.func (.func kb) #[] lbb):=(l.cell (p:=⟨E.bB,186,none⟩) G (by simp)).trans D;have B:=fN u;have d:=fN l;clear u z l)
   |(go_at_call 228;refine(vq (H.k0 d).rel (hH [gp]) (iJ) _ _ B (HQ.k0 d)).mono ?_;rintro e Z ⟨rfl,A⟩;have J:=fN ((H.k0 d).k0 A);clear A))
  all_goals (try (go_wp21))
  all_goals (go_meet;exact⟨rfl,J⟩)
 case rest=>
  obtain⟨rfl,F⟩:=hcut;replace H:=F;cases hc:σ.inScope (hH [gp]) iJ with
  |true=>
   replace h:Hid (R= .ok () {σ with mode:=16}):=by
    have:=h;rw[gN hc]at this;exact fN this
   have V:=H.ru;have X:=H.free 192;have K:=H.lt;replace H:=H.iW 16;go_wp2;go_end0;exact fZ h H rfl
  |false=>
   replace h:Hid (R= .ok () σ):=by
    have:=h;rw[gI (by simp[hc])]at this;exact fN this
   go_wp2;go_end0;exact fZ h H rfl
def U6 (E:Env) (rec:Nat->gz->M Unit) (hA:∀(m:Nat) (t:gz),iY E t->iU E 161 (λ_=>#[Bp E,ga m,iA E t]) (rec m t) uV) (t:gz) (N:iY E t):iU E 200 (λ_=>#[Bp E,iA E t]) (yv rec t) uV:=by
 refine dI λf σ w R d HS H=>?_;unfold yv at d;go_enter func200,ntmps200;have⟨kb,lbb,cb,HQ⟩:=H.rel.bounds;have G:=H.lt;have D:=cb;have I:=(Kept.refl [] w).drew;go_wp21
 go_cut [11]from 4 to 10 (λr wc=>r= .bool (σ.inScope (hH [gp]) (iJ))/\At E f σ.nodes.length w f (σ) wc)
 case first=>
  go_region_with (first
   |(go_at_call 215;refine(ni E [gp] w.drew (by simp)).mono ?_;rintro e U ⟨k1,O,rfl,u,z⟩;have l:=I.trans z;have Y:U.cell? ⟨E.bB,186,none⟩=some (.func (.func kb) #[] lbb):=(l.cell (p:=⟨E.bB,186,none⟩) G (by simp)).trans D;have B:=fN u;have h:=fN l;clear u z l)
   |(go_at_call 228;refine(vq (H.k0 h).rel (hH [gp]) (iJ) _ _ B (HQ.k0 h)).mono ?_;rintro e w2 ⟨rfl,A⟩;have J:=fN ((H.k0 h).k0 A);clear A))
  all_goals (try (go_wp21))
  all_goals (go_meet;exact⟨rfl,J⟩)
 case rest=>
  obtain⟨rfl,F⟩:=hcut;replace H:=F;cases hc:σ.inScope (hH [gp]) iJ with
  |true=>
   replace d:Hid (R=(jM rec t>>=λ_=>(Pure.pure ():M Unit)) {σ with mode:=16}):=by
    have:=d;rw[gN hc]at this;exact fN this
   have Z:=H.ru;have f2:=H.free 192;have K:=H.lt;replace H:=H.iW 16;go_wp21;refine dC (sU E rec hA t N) H d HS rfl lT ?_;rintro(_) f σ w H X V d;go_wp2;go_end0;exact fZ d H rfl
  |false=>
   replace d:Hid (R= .ok () σ):=by
    have:=d;rw[gI (by simp[hc])]at this;exact fN this
   go_wp2;go_end0;exact fZ d H rfl
end
end Go.Proofs.YtccjlklnkhagdaaGreatDoor
