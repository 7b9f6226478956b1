import Derived.Test.YtdbbknopdbpfaaaGreatDoorKept
set_option linter.unusedSimpArgs false
set_option linter.unusedVariables false
set_option linter.defProp false
set_option maxHeartbeats 0
set_option maxRecDepth 100000
namespace Go.Proofs.YtdbbknopdbpfaaaGreatDoor
open Go.RowKit Tryz
def qX:=@List.map_reverse
def ZW:=@List.dropWhile_sublist
def vX:=@Function.comp_def
def C5:=@List.length_map
def wZ:=@List.mem_of_mem_erase
def zp:=@List.getElem?_eq_none
def NU:=@List.map_congr_left
def ZX:=@Nat.le_of_eq
def NV:=@ByteArray.ext
def Tu:=@Eq.trans
def xa:=@List.head?_eq_getElem?
def Tv:=@List.take_sublist
def NW:=@List.drop_eq_getElem_cons
def lE:=@List.mem_erase_of_ne
def Fj:=@List.getElem?_append_right
def A5:=@Nat.le_succ
def Fk:=@List.getElem?_of_mem
def Jc:=@Nat.eq_zero_or_pos
def kU:=@List.reverse_append
def kV:=@Calls.quiet_of_same
def ln:=@Oper.semAt_some
def zq:=@CallsIn.inRound
def ZY:=@Bool.false_eq_true
def Tw:=@if_false
section
variable {C c:jL}{S:List Nat}{T:List TypeId}{a o rest xs ys zs:kY}{av kv v:gP}{b base bs g i it j k m n pf t:Nat}{e ei ej:wN}{f r:Nat->Nat}{ks:List Nd}{nd:A8}{old s:O}{p q:O->Bool}{pl:Nat×Nat}{w w':J}{x y z:jj}{σ σ' σ1:N}
structure Loc where
 gQ:Nat->Nat
 av:Nat->gP
 kv:Nat->gP
 ov:gP
 cv:gP
 wv:gP
variable {L L':Loc}
structure Env where
 bm:Nat
 bB:Nat
 bR:Nat
 C0:jL
 R0:jL
 Iu:Nat
 w0:J
 tv:gP
 ta:lu
 bs:Nat
 wv:Option (gP×List (Nat×Nat×O)):=none
variable {E:Env}
def Nd.map(f:Nat->Nat):Nd->Nd
 | .el k=> .el (f k)
 | .tx k=> .tx (f k)
 | .cm k=> .cm (f k)
 | .dt k=> .dt (f k)
abbrev iF(f:Nat->Nat)(x:jj):jj:=x.map f
def flat(gG:lu):List gP:=gG.flatMap λa=>[Y a.1,Y a.2]
abbrev Ad(w:J)(v:gP)(gG:lu):Prop:=w.ownsRow 0 292 2 v gG.length (flat gG)
abbrev RH(x:Nat×Nat×O):gP:=.iface 184 (.agg #[G x.1,G x.2.1,Y x.2.2])
def me(bs:Nat)(L:Loc)(w:J)(i:Nat):A8->Prop
 | .el e=>El bs w (L.gQ i) e.name (L.av i) (iF L.gQ e.ji) (L.kv i) (e.kids.map (Nd.map L.gQ))/\Ad w (L.av i) e.gR/\e.gR.length<=4096
 | .tx s=>w.heap[L.gQ i]?=some (gH #[Y s] 277)
 | .cm s=>w.heap[L.gQ i]?=some (gH #[Y s] 232)
 | .dt s=>w.heap[L.gQ i]?=some (gH #[Y s] 236)
structure jG(E:Env)(L:Loc)(σ:N)(C:jL):Prop where
 size:C.size=199
 low:∀i,i<188->C[i]?=E.C0[i]?
 gq:C[188]?=some L.ov
 act:C[189]?=some L.cv
 head:C[190]?=some (kX (iF L.gQ σ.head))
 form:C[191]?=some (kX (iF L.gQ σ.form))
 mode:C[192]?=some (G σ.mode)
 kept:C[193]?=some (G σ.kept)
 wait:C[194]?=some L.wv
 Mi:C[195]?=some (.bool σ.im)
 jA:C[196]?=some (.bool σ.jA)
 gQ:C[197]?=some (G σ.gQ)
 behind:C[198]?=some (.bool σ.behind)
structure TQ(E:Env)(bD:Nat):Prop where
 J8:∃cs,(∀k,k<180->E.C0[4+k]?=cs[k]?)/\Dd E.bm E.bB bD cs E.w0
 Xg:E.C0[3]?=some (.func (.func 46) #[gI E.bR] #[])
 spec:∃v,E.C0[184]?=some v/\Ask E.bm v kT E.w0
 acF:∃v,E.C0[185]?=some v/\Ask E.bm v vj E.w0
 ab2:∃v,E.C0[186]?=some v/\Ask E.bm v iI E.w0
 wA:E.C0[187]?=some (gI bD)
structure Rel(E:Env)(L:Loc)(σ:N)(w:J):Prop where
 fr:Fr E.bs E.w0 w
 env:TQ E (L.gQ 0)
 Gv:E.C0[0]?=some (G σ.qZ)/\E.C0[1]?=some (G σ.sB)/\E.C0[2]?=some (G σ.qu)/\σ.qZ<=64/\σ.sB<=32/\σ.qu<=16
 uz:∀i nd,σ.nodes[i]?=some nd->me E.bs L w i nd
 inj:∀i j,L.gQ i=L.gQ j->i=j
 Dk:∀i j g,i<σ.nodes.length->j<σ.nodes.length->i≠j->(L.kv i).ownBlock=some g->(L.kv j).ownBlock≠some g
 JS:∀i,i<σ.nodes.length->σ.gU i=none->(L.kv i).ownBlock=none
 uq:∀i j e g,σ.gU i=some e->oA e.name=true->j<σ.nodes.length->i≠j->(L.av i).ownBlock=some g->(L.av j).ownBlock≠some g
 H6:∀i,i<σ.nodes.length->σ.gU i=none->(L.av i).ownBlock=none
 wf:Wf σ
 il:∃C,w.heap[E.bB]?=some (gH C 176)/\jG E L σ C
 qv:w.ownsRow E.bs 66 1 L.ov σ.gq.length (σ.gq.map λx=>kX (iF L.gQ x))
 ru:w.ownsRow E.bs 66 1 L.cv σ.act.length (σ.act.map λx=>kX (iF L.gQ x))
 JY:∀g,L.ov.ownBlock=some g->L.cv.ownBlock≠some g
 yK:σ.gq.length<=4096
 Ie:σ.act.length<=4096
 qm:w.ownsRow E.bs 121 1 L.wv σ.waiting.length (σ.waiting.map RH)
 Pl:σ.waiting.length<=4096
 rd:w.heap[E.bR]?=some (gH ((E.R0.setIfInBounds E.Iu (Y σ.nW)).setIfInBounds (E.Iu+1) (.bool σ.iU)) 161)
 Wp:E.Iu+1<E.R0.size
 tok:Ad w E.tv E.ta
 Ph:E.ta.length<=4096
 bz:E.bs<=E.w0.heap.size
 bB:E.bs<=E.bB
 bR:E.bs<=E.bR
 bN:∀i,i<σ.nodes.length->E.bs<=L.gQ i
 BI:σ.fresh=true->∀i g,i<σ.nodes.length->E.tv.ownBlock=some g->(L.av i).ownBlock≠some g
 ab:∀i g,i<σ.nodes.length->(L.av i).ownBlock=some g->E.bs<=g
 tb:∀g,E.tv.ownBlock=some g->E.bs<=g
 Pk:∀p,E.wv=some p->L.wv=p.1/\σ.waiting=p.2
def KT(bs:Nat)(T:List TypeId)(w w':J):Prop:=∃S,Z S w w'/\∀k∈S,k<w.heap.size->(∃c t m,w.heap[k]?=some (.cells c t m)/\t∈T)/\bs<=k
def KT.size(h:KT bs T w w'):w.heap.size<=w'.heap.size:=by have⟨S,hk,_⟩:=h;exact hk.size
def KT.j9(h:Z S w w')(d:∀k∈S,k<w.heap.size->(∃c t m,w.heap[k]?=some (.cells c t m)/\t∈T)/\bs<=k):KT bs T w w':=⟨S,h,d⟩
theorem KT.ib(h:Z [] w w'):KT bs T w w':=⟨[],h,by grind⟩
theorem KT.mono{d:List TypeId}(h:KT bs T w w')(l:∀t∈T,t∈d):KT bs d w w':=by
 grind[KT]
theorem KT.fr(h:KT bs T w w')(d:∀t∈T,t∈abF):Fr bs w w':=h.mono d
theorem KT.at(h:KT bs T w w'){t:TypeId}{m:Nat×Nat}(d:w.heap[g]?=some (.cells c t m))(u:t∉T):w'.heap[g]?=some (.cells c t m):=by
 have⟨S,hk,hS⟩:=h;refine hk.at d λl=>?_;grind
theorem KT.row(h:KT bs T w w'){e:TypeId}{d:Nat}{xs:List gP}(A:w.ownsRow base e d v n xs)(H:e∉T):w'.ownsRow base e d v n xs:=by
 refine⟨A.1,?_⟩;rcases A.2 with I|⟨g,l,u,rfl,B,D,F⟩;grind;exact .inr ⟨g,l,u,rfl,B,h.at D H,F⟩
theorem tJ{e:TypeId}{d:Nat}{xs:List gP}(A:w.ownsRow base e d v n xs)(h:v.ownBlock=some g):∃c m,w.heap[g]?=some (.cells c e m):=by
 rcases A.2 with⟨e1,_⟩|⟨B,l,u,rfl,_,D,_⟩;rw[e1]at h;cases h;obtain rfl:=Ki h;grind
theorem EW{e:TypeId}{d:Nat}{xs:List gP}(l:w.ownsRow base e d v n xs){t:TypeId}{m:Nat×Nat}(h:w.heap[b]?=some (.cells c t m))(u:t≠e):v.ownBlock≠some b:=by
 grind[tJ]
def EV{e:TypeId}{d:Nat}{xs:List gP}(l:w.ownsRow base e d v n xs)(h:v.ownBlock=some g):g<w.heap.size:=(l.lt g h).2
def Z6:List TypeId:=[136,138,277,232,236,292]
def me.kt{u:Nat}(h:me u L w i nd)(l:KT bs T w w')(d:∀t∈Z6,t∉T):me u L w' i nd:=by
 cases nd with
 |el e=>exact⟨⟨l.at h.1.il (d _ (by decide)),l.row h.1.row (d _ (by decide)),h.1.le,h.1.aG⟩,l.row h.2.1 (d _ (by decide)),h.2.2⟩
 |tx s=>exact l.at h (d _ (by decide))
 |cm s=>exact l.at h (d _ (by decide))
 |dt s=>exact l.at h (d _ (by decide))
theorem me.kept(h:me bs L w i nd)(d:Z S w w')(l:L.gQ i∉S)(u:∀g,(L.kv i).ownBlock=some g->g∉S)(A:∀g,(L.av i).ownBlock=some g->g∉S):me bs L w' i nd:=by
 cases nd with
 |el e=>exact⟨h.1.kept d l u,d.ownsRow h.2.1 A,h.2.2⟩
 |tx s=>exact d.at h l
 |cm s=>exact d.at h l
 |dt s=>exact d.at h l
def A8.eY:A8->TypeId
 | .el _=>136
 | .tx _=>277
 | .cm _=>232
 | .dt _=>236
def me.eY(h:me bs L w i nd):∃c,w.heap[L.gQ i]?=some (gH c nd.eY):=by
 cases nd with
 |el e=>exact⟨_,h.1.il⟩
 |tx s=>exact⟨_,h⟩
 |cm s=>exact⟨_,h⟩
 |dt s=>exact⟨_,h⟩
theorem tk(d:∀i j,f i=f j->i=j)(h:iF f x=iF f y):x=y:=by
 cases x<;>cases y<;>simp_all[iF];grind
theorem zF(f:Nat->Nat)(xs:kY)(n:Int):iC (xs.map (iF f)) n=iF f (iC xs n):=by
 grind[iC]
theorem Di(d:∀i j,f i=f j->i=j)(x:jj):∀xs:kY,(xs.map (iF f)).idxOf (iF f x)=xs.idxOf x
 |[]=>rfl
 |y::xs=>by
  rw[wM,List.idxOf_cons,Di d x xs];grind[tk]
theorem Qt(d:∀i j,f i=f j->i=j)(xs:kY)(x:jj):posOf (xs.map (iF f)) (iF f x)=posOf xs x:=by
 grind[Di,posOf]
theorem mem_map(d:∀i j,f i=f j->i=j)(xs:kY)(x:jj):iF f x∈xs.map (iF f)↔x∈xs:=by
 grind[tk]
theorem xL(d:∀i j,f i=f j->i=j)(x:jj):∀xs:kY,(xs.map (iF f)).erase (iF f x)=(xs.erase x).map (iF f)
 |[]=>rfl
 |y::xs=>by
  rw[wM,List.erase_cons,xL d x xs];grind[tk]
theorem Nb(d:∀i j,f i=f j->i=j)(xs:kY)(x y:jj):ox (xs.map (iF f)) (iF f x) (iF f y)=(ox xs x y).map (iF f):=by
 grind[Di,mem_map,List.map_set,ox]
theorem DT(d:∀i j,f i=f j->i=j)(xs:kY)(x y:jj):iY (xs.map (iF f)) (iF f x) (iF f y)=(iY xs x y).map (iF f):=by
 grind[Di,mem_map,List.map_take,List.map_drop,iY]
theorem Qs(d:∀i j,f i=f j->i=j)(xs:kY)(x:jj):oQ (xs.map (iF f)) (iF f x)=(oQ xs x).map (iF f):=by
 have h:∀ys:List _,(ys.map (iF f)).dropWhile (·≠iF f x)=(ys.dropWhile (·≠x)).map (iF f):=by
  intro ys
  induction ys with
  |nil=>rfl
  |cons y ys ih=>
   grind[List.dropWhile_cons,tk]
 grind[List.map_reverse,oQ]
theorem jG.ajL(h:jG E L σ C)(v:gP)(zs:kY):jG E {L with ov:=v} {σ with gq:=zs} (C.setIfInBounds 188 v):=by
 cases h;constructor<;>grind
theorem jG.ajK(h:jG E L σ C)(v:gP)(zs:kY):jG E {L with cv:=v} {σ with act:=zs} (C.setIfInBounds 189 v):=by
 cases h;constructor<;>grind
theorem jG.zP(h:jG E L σ C)(x:jj):jG E L {σ with head:=x} (C.setIfInBounds 190 (kX (iF L.gQ x))):=by
 cases h;constructor<;>grind
theorem jG.wG(h:jG E L σ C)(x:jj):jG E L {σ with form:=x} (C.setIfInBounds 191 (kX (iF L.gQ x))):=by
 cases h;constructor<;>grind
theorem jG.jm(h:jG E L σ C)(x:Nat):jG E L {σ with mode:=x} (C.setIfInBounds 192 (G x)):=by
 cases h;constructor<;>grind
theorem jG.zQ(h:jG E L σ C)(x:Nat):jG E L {σ with kept:=x} (C.setIfInBounds 193 (G x)):=by
 cases h;constructor<;>grind
theorem jG.agZ(h:jG E L σ C)(v:gP)(d:List (Nat×Nat×O)):jG E {L with wv:=v} {σ with waiting:=d} (C.setIfInBounds 194 v):=by
 cases h;constructor<;>grind
theorem jG.zO(h:jG E L σ C)(x:Bool):jG E L {σ with im:=x} (C.setIfInBounds 195 (.bool x)):=by
 cases h;constructor<;>grind
theorem jG.rT(h:jG E L σ C)(x:Bool):jG E L {σ with jA:=x} (C.setIfInBounds 196 (.bool x)):=by
 cases h;constructor<;>grind
theorem jG.Fa(h:jG E L σ C)(x:Nat):jG E L {σ with gQ:=x} (C.setIfInBounds 197 (G x)):=by
 cases h;constructor<;>grind
theorem jG.uk(h:jG E L σ C)(x:Bool):jG E L {σ with behind:=x} (C.setIfInBounds 198 (.bool x)):=by
 cases h;constructor<;>grind
theorem me.loc(h:me bs L w i nd)(e1:L'.gQ=L.gQ)(e2:L'.av=L.av)(d:L'.kv=L.kv):me bs L' w i nd:=by
 cases nd<;>(grind[me])
theorem Rel.aah(h:Rel E L σ w):∃C,w.heap[E.bB]?=some (gH C 176):=by
 grind[il]
def Rel.free(h:Rel E L σ w)(j:Nat):w.frozen? ⟨E.bB,j,none⟩=false:=by
 have⟨C,hb⟩:=h.aah;exact gx hb j
theorem Rel.lt(h:Rel E L σ w):E.bB<w.heap.size:=by
 grind[aah]
theorem Rel.low(h:Rel E L σ w)(d:j<188)(l:E.C0[j]?=some v):w.cell? ⟨E.bB,j,none⟩=some v:=by
 have⟨C,hb,hC⟩:=h.il;rw[fP hb];exact(hC.low j d).trans l
def Rel.ab4(h:Rel E L σ w):w.cell? ⟨E.bB,190,none⟩=some (kX (iF L.gQ σ.head)):=by
 have⟨C,hb,hC⟩:=h.il;rw[fP hb];exact hC.head
def Rel.XY(h:Rel E L σ w):w.cell? ⟨E.bB,191,none⟩=some (kX (iF L.gQ σ.form)):=by
 have⟨C,hb,hC⟩:=h.il;rw[fP hb];exact hC.form
def Rel.tf(h:Rel E L σ w):w.cell? ⟨E.bB,192,none⟩=some (G σ.mode):=by
 have⟨C,hb,hC⟩:=h.il;rw[fP hb];exact hC.mode
def Rel.XZ(h:Rel E L σ w):w.cell? ⟨E.bB,193,none⟩=some (G σ.kept):=by
 have⟨C,hb,hC⟩:=h.il;rw[fP hb];exact hC.kept
theorem Rel.ah8(h:Rel E L σ w):w.cell? ⟨E.bB,194,none⟩=some L.wv:=by
 have⟨C,hb,hC⟩:=h.il;rw[fP hb];exact hC.wait
def Rel.aeI(h:Rel E L σ w):w.cell? ⟨E.bB,195,none⟩=some (.bool σ.im):=by
 have⟨C,hb,hC⟩:=h.il;rw[fP hb];exact hC.Mi
def Rel.aeJ(h:Rel E L σ w):w.cell? ⟨E.bB,196,none⟩=some (.bool σ.jA):=by
 have⟨C,hb,hC⟩:=h.il;rw[fP hb];exact hC.jA
def Rel.X0(h:Rel E L σ w):w.cell? ⟨E.bB,197,none⟩=some (G σ.gQ):=by
 have⟨C,hb,hC⟩:=h.il;rw[fP hb];exact hC.gQ
def Rel.aeK(h:Rel E L σ w):w.cell? ⟨E.bB,198,none⟩=some (.bool σ.behind):=by
 have⟨C,hb,hC⟩:=h.il;rw[fP hb];exact hC.behind
def Rel.ir(h:Rel E L σ w)(l:Z [] w w'):Rel E L σ w':=by
 have d:KT E.bs [] w w':=.ib l;have⟨C,hb,hC⟩:=h.il;exact {h with
  fr:=h.fr.trans (.ib l)
  uz:=λi nd u=>(h.uz i nd u).kt d (by simp)
  il:=⟨C,d.at hb (by simp),hC⟩
  qv:=d.row h.qv (by simp)
  ru:=d.row h.ru (by simp)
  qm:=d.row h.qm (by simp)
  rd:=d.at h.rd (by simp)
  tok:=d.row h.tok (by simp)}
def Rel.bw(h:Rel E L σ w):E.bs<=w.heap.size:=jZ h.bz h.fr.size
def To(E:Env)(L:Loc)(σ':N)(w w':J):Prop:=∃L',L'.gQ=L.gQ/\Rel E L' σ' w'/\Fr E.bs w w'
theorem Rel.to(h:Rel E L σ w')(d:Fr E.bs w w'):To E L σ w w':=⟨L,rfl,h,d⟩
theorem Rel.store(h:Rel E L σ w)(j:Nat)(u:gP)(H:∀C,jG E L σ C->jG E L σ' (C.setIfInBounds j u))(B:Wf σ')(A:σ'.nodes=σ.nodes:=by rfl)(ho:σ'.gq=σ.gq:=by rfl)(ha:σ'.act=σ.act:=by rfl)(hw:σ'.waiting=σ.waiting:=by rfl)(h1:σ'.nW=σ.nW:=by rfl)(h2:σ'.iU=σ.iU:=by rfl)(h3:σ'.fresh=σ.fresh:=by rfl)(U:σ'.qZ=σ.qZ:=by rfl)(W:σ'.sB=σ.sB:=by rfl)(X:σ'.qu=σ.qu:=by rfl):Rel E L σ' (w.setCell ⟨E.bB,j,none⟩ u):=by
 obtain⟨C,K,I⟩:=h.il;have F:Z [E.bB] w (w.setCell ⟨E.bB,j,none⟩ u):=(Z.refl _ w).setCell (.inl (by simp)) u;have D:KT E.bs [176] w _:=.j9 F (λk F _=>by grind[bB]);have he:∀i,σ'.gU i=σ.gU i:=λi=>by unfold N.gU;rw[A]
 exact {h with
  fr:=h.fr.trans (D.fr (by decide))
  Gv:=by grind[Gv]
  uz:=λi nd l=>(h.uz i nd (by grind)).kt D (by decide)
  bN:=by rw[A];exact h.bN
  Dk:=by grind[Dk]
  JS:=λi l d=>h.JS i (by grind) (by grind)
  uq:=λi j e g l R hj=>h.uq i j e g (by grind) R (by grind)
  H6:=λi l d=>h.H6 i (by grind) (by grind)
  wf:=B
  il:=⟨_,gh K j u,H C I⟩
  qv:=by grind[KT.row,qv]
  ru:=by grind[KT.row,ru]
  yK:=by grind[yK]
  Ie:=by grind[Ie]
  qm:=by grind[KT.row,qm]
  Pl:=by grind[Pl]
  rd:=by grind[KT.at,rd]
  tok:=D.row h.tok (by decide)
  BI:=by grind[BI]
  ab:=by rw[A];exact h.ab
  Pk:=by rw[hw];exact h.Pk}
def Rel.zP(h:Rel E L σ w)(x:jj)(l:σ.gZ x=true):Rel E L {σ with head:=x} (w.setCell ⟨E.bB,190,none⟩ (kX (iF L.gQ x))):=
 h.store 190 _ (λC d=>d.zP x) {h.wf with head:=l}
def Rel.wG(h:Rel E L σ w)(x:jj)(l:σ.gZ x=true):Rel E L {σ with form:=x} (w.setCell ⟨E.bB,191,none⟩ (kX (iF L.gQ x))):=
 h.store 191 _ (λC d=>d.wG x) {h.wf with form:=l}
def Rel.jm(h:Rel E L σ w)(x:Nat):Rel E L {σ with mode:=x} (w.setCell ⟨E.bB,192,none⟩ (G x)):=
 h.store 192 _ (λC d=>d.jm x) {h.wf with}
def Rel.zQ(h:Rel E L σ w)(x:Nat):Rel E L {σ with kept:=x} (w.setCell ⟨E.bB,193,none⟩ (G x)):=
 h.store 193 _ (λC d=>d.zQ x) {h.wf with}
def Rel.zO(h:Rel E L σ w)(x:Bool):Rel E L {σ with im:=x} (w.setCell ⟨E.bB,195,none⟩ (.bool x)):=
 h.store 195 _ (λC d=>d.zO x) {h.wf with}
def Rel.rT(h:Rel E L σ w)(x:Bool):Rel E L {σ with jA:=x} (w.setCell ⟨E.bB,196,none⟩ (.bool x)):=
 h.store 196 _ (λC d=>d.rT x) {h.wf with}
def Rel.Fa(h:Rel E L σ w)(x:Nat):Rel E L {σ with gQ:=x} (w.setCell ⟨E.bB,197,none⟩ (G x)):=
 h.store 197 _ (λC d=>d.Fa x) {h.wf with}
def Rel.uk(h:Rel E L σ w)(x:Bool):Rel E L {σ with behind:=x} (w.setCell ⟨E.bB,198,none⟩ (.bool x)):=
 h.store 198 _ (λC d=>d.uk x) {h.wf with}
theorem Rel.gZ(h:Rel E L σ w)(l:σ.gZ x=true):vy w (iF L.gQ x):=by
 intro k d;cases x with
 |none=>cases d
 |some i=>
  obtain rfl:=Ki d;have⟨e,he⟩:=Option.isSome_iff_exists.1 l;exact⟨_,(h.uz i _ (N.jp he)).1.il⟩
theorem IM(h:y∈oQ xs x):y∈xs:=by
 grind[List.dropWhile_sublist,List.mem_of_mem_tail,oQ]
theorem Nc(h:z∈ox xs x y):z∈xs\/z=y:=by
 grind[ox]
theorem DU(h:z∈iY xs x y):z∈xs\/z=y:=by
 grind[iY]
theorem Rel.AA(h:Rel E L σ w):∃C,yM E.bs E.bB 188 176 C L.ov (σ.gq.map (iF L.gQ)) w/\jG E L σ C:=by
 have⟨C,hb,hC⟩:=h.il;refine⟨C,⟨hb,hC.gq,?_,by decide,by grind[yK]⟩,hC⟩
 simpa [vX]using h.qv
theorem Rel.cH(h:Rel E L σ w):∀x∈σ.gq.map (iF L.gQ),vy w x:=by
 grind[gZ,N.xB,Wf.gq,wf]
def Sd(L:Loc)(w:J)(k:Nat)(v:gP):Prop:=w.heap[k]?=some (gH #[v] 66)/\L.ov.ownBlock≠some k/\L.cv.ownBlock≠some k
def cO(E:Env)(L:Loc)(σ':N)(w w':J):Prop:=∃L',L'.gQ=L.gQ/\Rel E L' σ' w'/\Fr E.bs w w'/\∀k v,Sd L w k v->Sd L' w' k v
theorem Sd.IA{u:gP}(h:Sd L w k v)(l:Z (b::u.ownBlock.toList) w w')(A:w.heap[b]?=some (gH C 176))(B:u.ownBlock≠some k):w'.heap[k]?=some (gH #[v] 66):=by
 refine l.at h.1 λd=>?_;rcases List.mem_cons.1 d with rfl|d;have:=h.1;grind;grind
theorem Sd.Fh{v':gP}(h:Sd L w k v)(u:Z (b::L.ov.ownBlock.toList) w w')(l:w.heap[b]?=some (gH C 176))(d:v'.ownBlock=L.ov.ownBlock\/∀g,v'.ownBlock=some g->w.heap.size<=g):Sd {L with ov:=v'} w' k v:=by
 refine⟨h.IA u l h.2.1,λe=>?_,h.2.2⟩;rcases d with d|d;exact h.2.1 (d▸e);have:=d k e;have:=ja h.1;omega
theorem Sd.Cz{v':gP}(h:Sd L w k v)(u:Z (b::L.cv.ownBlock.toList) w w')(l:w.heap[b]?=some (gH C 176))(d:v'.ownBlock=L.cv.ownBlock\/∀g,v'.ownBlock=some g->w.heap.size<=g):Sd {L with cv:=v'} w' k v:=by
 refine⟨h.IA u l h.2.2,h.2.1,λe=>?_⟩;rcases d with d|d;exact h.2.2 (d▸e);have:=d k e;have:=ja h.1;omega
theorem Rel.Tm(h:Rel E L σ w)(l:yM E.bs E.bB 188 176 C L.ov (σ.gq.map (iF L.gQ)) w)(R:jG E L σ C)(ht:pS E.bs E.bB 188 176 C L.ov (zs.map (iF L.gQ)) w w')(hz:∀x∈zs,σ.nk x=true):cO E L {σ with gq:=zs} w w':=by
 obtain⟨H,D,B,I⟩:=ht;have d:KT E.bs [176,66] w w':=.j9 B (λk A _=>by
  rcases List.mem_cons.1 A with rfl|A;exact⟨⟨_,_,_,l.il,by simp⟩,h.bB⟩;obtain⟨c,m,hc⟩:=tJ l.row (by simpa using A);exact⟨by grind,(l.row.lt k (by grind)).1⟩)
 have u:∀g,L.cv.ownBlock=some g->g∉E.bB::L.ov.ownBlock.toList:=by
  intro g U F;rcases List.mem_cons.1 F with rfl|F;exact EW h.ru l.il (by decide) U;grind[JY]
 exact⟨{L with ov:=H},rfl,({h with
  fr:=h.fr.trans (d.fr (by decide))
  uz:=λi nd W=>((h.uz i nd W).kt d (by decide)).loc rfl rfl rfl
  wf:={h.wf with gq:=hz}
  il:=⟨_,D.il,R.ajL H zs⟩
  qv:=by simpa [List.map_map,vX]using D.row
  ru:=B.ownsRow h.ru u
  JY:=by
   intro g h1 K;have X:=EV h.ru (g:=g) K;grind
  yK:=by grind[List.length_map,yM.le]
  qm:=d.row h.qm (by decide)
  rd:=d.at h.rd (by decide)
  tok:=d.row h.tok (by decide)}),d.fr (by decide),λk v hs=>hs.Fh B l.il I⟩
theorem Rel.Fh(h:Rel E L σ w)(l:yM E.bs E.bB 188 176 C L.ov (σ.gq.map (iF L.gQ)) w)(d:jG E L σ C)(u:pS E.bs E.bB 188 176 C L.ov (zs.map (iF L.gQ)) w w')(A:∀x∈zs,σ.nk x=true):To E L {σ with gq:=zs} w w':=
 have⟨L1,a,b,c,_⟩:=h.Tm l d u A
 ⟨L1,a,b,c⟩
def agn(h:Rel E L σ w):
  Calls prog 260 #[j5 E.bB 188] w λe w'=>e=iA (G σ.gq.length)/\w'=w:=by
 have⟨C,hL,hC⟩:=h.AA;have:=akE E.bs E.bB 188 _ C _ _ w hL
 rwa [C5]at this
def anG(h:Rel E L σ w)(n:Int):
  Calls prog 239 #[j5 E.bB 188,G n] w λe w'=>e=iA (kX (iF L.gQ (iC σ.gq n)))/\w'=w:=by
 have⟨C,hL,hC⟩:=h.AA;have:=afU E.bs E.bB 188 _ C _ _ n w hL
 rwa [zF]at this
def Y7(h:Rel E L σ w):
  Calls prog 170 #[j5 E.bB 188] w λe w'=>e=iA (kX (iF L.gQ (iC σ.gq ((σ.gq.length:Int)-1))))/\w'=w:=by
 have⟨C,hL,hC⟩:=h.AA;have:=afV E.bs E.bB 188 _ C _ _ w hL
 rwa [zF,C5]at this
def anH(h:Rel E L σ w)(x:jj)(d:σ.gZ x=true):
  Calls prog 313 #[j5 E.bB 188,kX (iF L.gQ x)] w λe w'=>e=iA (.bool (decide (x∈σ.gq)))/\w'=w:=by
 have⟨C,hL,hC⟩:=h.AA;have:=akD E.bs E.bB 188 _ C _ _ _ w hL h.cH (h.gZ d)
 rwa [decide_eq_decide.2 (mem_map h.inj _ x)]at this
def AH(h:Rel E L σ w)(x:jj)(d:σ.gZ x=true):
  Calls prog 237 #[j5 E.bB 188,kX (iF L.gQ x)] w λe w'=>e=iA (kX (iF L.gQ (iC σ.gq (posOf σ.gq x-1))))/\w'=w:=by
 have⟨C,hL,hC⟩:=h.AA;have:=Sj E.bs E.bB 188 _ C _ _ _ w hL h.cH (h.gZ d)
 rwa [Qt h.inj,zF]at this
theorem amf(h:Rel E L σ w)(x:jj)(l:σ.nk x=true)(d:σ.gq.length<4096):
  Calls prog 262 #[j5 E.bB 188,kX (iF L.gQ x)] w λe w'=>e=qs/\To E L {σ with gq:=σ.gq++[x]} w w':=by
 have⟨C,hL,hC⟩:=h.AA;refine(afW E.bs E.bB 188 _ C _ _ _ w hL (by grind) h.bw).mono ?_;grind[Rel.Fh,Wf.gq,Rel.wf]
theorem VI(h:Rel E L σ w):
  Calls prog 175 #[j5 E.bB 188] w λe w'=>e=iA (kX (iF L.gQ (iC σ.gq ((σ.gq.length:Int)-1))))/\To E L {σ with gq:=σ.gq.dropLast} w w':=by
 have⟨C,hL,hC⟩:=h.AA;refine(akF E.bs E.bB 188 _ C _ _ w hL).mono ?_;grind[zF,Rel.Fh,Wf.gq,Rel.wf,List.dropLast_subset]
def ai8(h:Rel E L σ w)(x:jj)(l:σ.gZ x=true):
  Calls prog 319 #[j5 E.bB 188,kX (iF L.gQ x)] w λe w'=>e=qs/\To E L {σ with gq:=oQ σ.gq x} w w':=by
 have⟨C,hL,hC⟩:=h.AA;refine(aaN E.bs E.bB 188 _ C _ _ _ w hL (by decide) h.cH (h.gZ l)).mono ?_;rintro e w'⟨rfl,d⟩;exact⟨rfl,h.Fh hL hC (by rw[<-Qs h.inj];exact d) λy u=>h.wf.gq y (IM u)⟩
def ago(h:Rel E L σ w)(x:jj)(l:σ.gZ x=true):
  Calls prog 178 #[j5 E.bB 188,kX (iF L.gQ x)] w λe w'=>e=qs/\To E L {σ with gq:=σ.gq.erase x} w w':=by
 have⟨C,hL,hC⟩:=h.AA;refine(Ch E.bs E.bB 188 _ C _ _ _ w hL h.cH (h.gZ l)).mono ?_;rintro e w'⟨rfl,d⟩;exact⟨rfl,h.Fh hL hC (by rw[<-xL h.inj];exact d) λy u=>h.wf.gq y (wZ u)⟩
theorem VJ(h:Rel E L σ w)(x y:jj)(l:σ.gZ x=true)(A:σ.nk y=true)(u:σ.gq.length<4096):
  Calls prog 367 #[j5 E.bB 188,kX (iF L.gQ x),kX (iF L.gQ y)] w λe w'=>e=qs/\To E L {σ with gq:=iY σ.gq x y} w w':=by
 have⟨C,hL,hC⟩:=h.AA;refine(JU E.bs E.bB 188 _ C _ _ _ _ w hL h.cH (h.gZ l) (by grind) h.bw).mono ?_;rintro e w'⟨rfl,d⟩;exact⟨rfl,h.Fh hL hC (by rw[<-DT h.inj];exact d) λz B=>by grind[DU,Wf.gq,Rel.wf]⟩
theorem Rel.Kw(h:Rel E L σ w):∃C,yM E.bs E.bB 189 176 C L.cv (σ.act.map (iF L.gQ)) w/\jG E L σ C:=by
 have⟨C,hb,hC⟩:=h.il;refine⟨C,⟨hb,hC.act,?_,by decide,by grind[Ie]⟩,hC⟩
 simpa [vX]using h.ru
theorem Rel.cF(h:Rel E L σ w):∀x∈σ.act.map (iF L.gQ),vy w x:=by
 grind[gZ,Wf.act,wf]
theorem Rel.Tl(h:Rel E L σ w)(l:yM E.bs E.bB 189 176 C L.cv (σ.act.map (iF L.gQ)) w)(R:jG E L σ C)(ht:pS E.bs E.bB 189 176 C L.cv (zs.map (iF L.gQ)) w w')(hz:∀x∈zs,σ.gZ x=true):cO E L {σ with act:=zs} w w':=by
 obtain⟨H,D,B,I⟩:=ht;have d:KT E.bs [176,66] w w':=.j9 B (λk A _=>by
  rcases List.mem_cons.1 A with rfl|A;exact⟨⟨_,_,_,l.il,by simp⟩,h.bB⟩;obtain⟨c,m,hc⟩:=tJ l.row (by simpa using A);exact⟨by grind,(l.row.lt k (by grind)).1⟩)
 have u:∀g,L.ov.ownBlock=some g->g∉E.bB::L.cv.ownBlock.toList:=by
  intro g U F;rcases List.mem_cons.1 F with rfl|F;exact EW h.qv l.il (by decide) U;grind[JY]
 exact⟨{L with cv:=H},rfl,({h with
  fr:=h.fr.trans (d.fr (by decide))
  uz:=λi nd W=>((h.uz i nd W).kt d (by decide)).loc rfl rfl rfl
  wf:={h.wf with act:=hz}
  il:=⟨_,D.il,R.ajK H zs⟩
  ru:=by simpa [List.map_map,vX]using D.row
  qv:=B.ownsRow h.qv u
  JY:=by
   intro g K h2;have X:=EV h.qv (g:=g) K;grind
  Ie:=by grind[List.length_map,yM.le]
  qm:=d.row h.qm (by decide)
  rd:=d.at h.rd (by decide)
  tok:=d.row h.tok (by decide)}),d.fr (by decide),λk v hs=>hs.Cz B l.il I⟩
theorem Rel.Cz(h:Rel E L σ w)(l:yM E.bs E.bB 189 176 C L.cv (σ.act.map (iF L.gQ)) w)(d:jG E L σ C)(u:pS E.bs E.bB 189 176 C L.cv (zs.map (iF L.gQ)) w w')(A:∀x∈zs,σ.gZ x=true):To E L {σ with act:=zs} w w':=
 have⟨L1,a,b,c,_⟩:=h.Tl l d u A
 ⟨L1,a,b,c⟩
def akr(h:Rel E L σ w):
  Calls prog 260 #[j5 E.bB 189] w λe w'=>e=iA (G σ.act.length)/\w'=w:=by
 have⟨C,hL,hC⟩:=h.Kw;have:=akE E.bs E.bB 189 _ C _ _ w hL
 rwa [C5]at this
def aoq(h:Rel E L σ w)(n:Int):
  Calls prog 239 #[j5 E.bB 189,G n] w λe w'=>e=iA (kX (iF L.gQ (iC σ.act n)))/\w'=w:=by
 have⟨C,hL,hC⟩:=h.Kw;have:=afU E.bs E.bB 189 _ C _ _ n w hL
 rwa [zF]at this
def am5(h:Rel E L σ w)(x:jj)(d:σ.gZ x=true):
  Calls prog 313 #[j5 E.bB 189,kX (iF L.gQ x)] w λe w'=>e=iA (.bool (decide (x∈σ.act)))/\w'=w:=by
 have⟨C,hL,hC⟩:=h.Kw;have:=akD E.bs E.bB 189 _ C _ _ _ w hL h.cF (h.gZ d)
 rwa [decide_eq_decide.2 (mem_map h.inj _ x)]at this
theorem alb(h:Rel E L σ w)(x:jj)(l:σ.gZ x=true)(d:σ.act.length<4096):
  Calls prog 262 #[j5 E.bB 189,kX (iF L.gQ x)] w λe w'=>e=qs/\To E L {σ with act:=σ.act++[x]} w w':=by
 have⟨C,hL,hC⟩:=h.Kw;refine(afW E.bs E.bB 189 _ C _ _ _ w hL (by grind) h.bw).mono ?_;grind[Rel.Cz,Wf.act,Rel.wf]
def ahU(h:Rel E L σ w)(x:jj)(l:σ.gZ x=true):
  Calls prog 319 #[j5 E.bB 189,kX (iF L.gQ x)] w λe w'=>e=qs/\To E L {σ with act:=oQ σ.act x} w w':=by
 have⟨C,hL,hC⟩:=h.Kw;refine(aaN E.bs E.bB 189 _ C _ _ _ w hL (by decide) h.cF (h.gZ l)).mono ?_;rintro e w'⟨rfl,d⟩;exact⟨rfl,h.Cz hL hC (by rw[<-Qs h.inj];exact d) λy u=>h.wf.act y (IM u)⟩
def aer(h:Rel E L σ w)(x:jj)(l:σ.gZ x=true):
  Calls prog 178 #[j5 E.bB 189,kX (iF L.gQ x)] w λe w'=>e=qs/\To E L {σ with act:=σ.act.erase x} w w':=by
 have⟨C,hL,hC⟩:=h.Kw;refine(Ch E.bs E.bB 189 _ C _ _ _ w hL h.cF (h.gZ l)).mono ?_;rintro e w'⟨rfl,d⟩;exact⟨rfl,h.Cz hL hC (by rw[<-xL h.inj];exact d) λy u=>h.wf.act y (wZ u)⟩
theorem abN(h:Rel E L σ w)(x y:jj)(l:σ.gZ x=true)(u:σ.gZ y=true):
  Calls prog 267 #[j5 E.bB 189,kX (iF L.gQ x),kX (iF L.gQ y)] w λe w'=>e=qs/\To E L {σ with act:=ox σ.act x y} w w':=by
 have⟨C,hL,hC⟩:=h.Kw;refine(ID E.bs E.bB 189 _ C _ _ _ _ w hL h.cF (h.gZ l)).mono ?_;rintro e w'⟨rfl,d⟩;exact⟨rfl,h.Cz hL hC (by rw[<-Nb h.inj];exact d) λz A=>by grind[Nc,Wf.act,Rel.wf]⟩
theorem T1(h:Rel E L σ w)(x y:jj)(l:σ.gZ x=true)(A:σ.gZ y=true)(u:σ.act.length<4096):
  Calls prog 367 #[j5 E.bB 189,kX (iF L.gQ x),kX (iF L.gQ y)] w λe w'=>e=qs/\To E L {σ with act:=iY σ.act x y} w w':=by
 have⟨C,hL,hC⟩:=h.Kw;refine(JU E.bs E.bB 189 _ C _ _ _ _ w hL h.cF (h.gZ l) (by grind) h.bw).mono ?_;rintro e w'⟨rfl,d⟩;exact⟨rfl,h.Cz hL hC (by rw[<-DT h.inj];exact d) λz B=>by grind[DU,Wf.act,Rel.wf]⟩
def Loc.new(L:Loc)(n k:Nat)(av kv:gP):Loc:={L with gQ:=λi=>if i<n then L.gQ i else k+(i-n),av:=λi=>if i=n then av else L.av i,kv:=λi=>if i=n then kv else L.kv i}
theorem Loc.Cl(h:i<n):(L.new n k av kv).gQ i=L.gQ i:=sL h
theorem Loc.vg:(L.new n k av kv).gQ n=k:=by simp[Loc.new]
theorem Loc.IF(h:i<n):(L.new n k av kv).av i=L.av i:=Xx (by omega)
theorem Loc.Sr(h:i<n):(L.new n k av kv).kv i=L.kv i:=Xx (by omega)
theorem Loc.Dn:(L.new n k av kv).av n=av:=sL rfl
theorem Loc.Lc:(L.new n k av kv).kv n=kv:=sL rfl
def Jk(n:Nat)(L L':Loc):Prop:=∀i,i<n->L'.gQ i=L.gQ i
theorem Jk.refl(n:Nat)(L:Loc):Jk n L L:=λ_ _=>rfl
def N.nh(h:σ.gZ (some i)=true):i<σ.nodes.length:=by
 have⟨e,he⟩:=Option.isSome_iff_exists.1 h;exact N.io he
def N.Vj{k:Nd}(h:σ.jr k=true):k.il<σ.nodes.length:=by
 by_cases l:k.il<σ.nodes.length;exact l;have d:σ.nodes[k.il]?=none:=zp (by omega);cases k with
 |el i=>simp[Nd.il]at d;simp[N.jr,N.gU,d]at h
 |tx i=>simp[Nd.il]at d;simp[N.jr,d]at h
 |cm i=>simp[Nd.il]at d;simp[N.jr,d]at h
 |dt i=>simp[Nd.il]at d;simp[N.jr,d]at h
def Jk.om(h:Jk σ.nodes.length L L')(d:σ.gZ x=true):iF L'.gQ x=iF L.gQ x:=by
 cases x with
 |none=>rfl
 |some i=>show some _=some _;rw[h i (N.nh d)]
theorem Jk.Fq(h:Jk σ.nodes.length L L'){k:Nd}(d:σ.jr k=true):Nd.map L'.gQ k=Nd.map L.gQ k:=by
 have:=h _ (N.Vj d);cases k<;>(simp[Nd.map,Nd.il]at this|-;rw[this])
theorem Jk.list(h:Jk σ.nodes.length L L')(l:∀x∈xs,σ.gZ x=true):(xs.map λx=>kX (iF L'.gQ x))=xs.map λx=>kX (iF L.gQ x):=
 NU λx d=>by rw[h.om (l x d)]
theorem Jk.kids(h:Jk σ.nodes.length L L')(l:∀x∈ks,σ.jr x=true):ks.map (Nd.map L'.gQ)=ks.map (Nd.map L.gQ):=
 NU λx d=>h.Fq (l x d)
theorem N.tW(d:i<σ.nodes.length):(σ.add nd).gU i=σ.gU i:=by
 grind[N.gU,N.add]
theorem N.su:(σ.add nd).gU σ.nodes.length=(match nd with| .el e=>some e|_=>none):=by
 show(match (σ.nodes++[nd])[σ.nodes.length]? with|some (.el e)=>some e|_=>none)=_
 grind
theorem N.Cd(h:σ.gZ x=true):(σ.add nd).gZ x=true:=by
 cases x with
 |none=>rfl
 |some i=>show((σ.add nd).gU i).isSome=true;rw[N.tW (N.nh h)];exact h
def N.Qd(h:σ.nk x=true):(σ.add nd).nk x=true:=by
 cases x with
 |none=>exact h
 |some i=>show((σ.add nd).gU i).isSome=true;rw[N.tW (N.nh h)];exact h
theorem N.Iy{k:Nd}(h:σ.jr k=true):(σ.add nd).jr k=true:=by
 cases k with
 |el i=>show((σ.add nd).gU i).isSome=true;rw[N.tW (i:=i) (N.Vj h)];exact h
 |tx i=>grind[N.jr,N.add]
 |cm i=>grind[N.jr,N.add]
 |dt i=>grind[N.jr,N.add]
theorem N.ze(h:(σ.add nd).gU i=some e):(i<σ.nodes.length/\σ.gU i=some e)\/(i=σ.nodes.length/\nd=.el e):=by
 have d:=by simpa [N.add]using (N.io h)
 grind[tW,su]
theorem me.ext(h:me bs L w i nd)(d:Jk σ.nodes.length L L')(l:i<σ.nodes.length)(u:L'.av i=L.av i)(A:L'.kv i=L.kv i)(B:∀e,nd=.el e->σ.gZ e.ji=true/\∀k∈e.kids,σ.jr k=true):me bs L' w i nd:=by
 cases nd with
 |el e=>
  have⟨h1,h2⟩:=B e rfl;show El bs w _ _ _ _ _ _/\Ad w _ _/\e.gR.length<=4096;rw[d i l,u,A,d.om h1,d.kids h2];exact h
 |tx s=>show w.heap[L'.gQ i]?=_;rw[d i l];exact h
 |cm s=>show w.heap[L'.gQ i]?=_;rw[d i l];exact h
 |dt s=>show w.heap[L'.gQ i]?=_;rw[d i l];exact h
theorem Rel.LB(h:Rel E L σ w)(d:i<σ.nodes.length):L.gQ i<w.heap.size:=by
 have⟨c,hc⟩:=(h.uz i _ (yG d)).eY;grind
def Rel.eZ(h:Rel E L σ w)(l:σ.nodes[i]?=some nd):∀e,nd=.el e->σ.gZ e.ji=true/\∀k∈e.kids,σ.jr k=true:=by
 rintro e rfl;have d:=N.Yi l;exact⟨h.wf.ji i e d,h.wf.kids i e d⟩
theorem jG.ext(h:jG E L σ C)(l:Jk σ.nodes.length L L')(d:Wf σ)(e1:L'.ov=L.ov)(e2:L'.cv=L.cv)(B:L'.wv=L.wv)(u:σ'.head=σ.head)(A:σ'.form=σ.form)(D:σ'.mode=σ.mode)(F:σ'.kept=σ.kept)(H:σ'.im=σ.im)(I:σ'.jA=σ.jA)(K:σ'.gQ=σ.gQ)(R:σ'.behind=σ.behind):jG E L' σ' C:=
 ⟨h.size,h.low,by grind[gq],by grind[act],by rw[u,l.om d.head];exact h.head,by rw[A,l.om d.form];exact h.form,by grind[mode],by grind[kept],by grind[wait],by grind[Mi],by grind[jA],by grind[gQ],by grind[behind]⟩
theorem Rel.akt(h:Rel E L σ w)(nd:A8)(k:Nat)(av kv:gP)(R:Bool)(hk:Z [] w w')(ac:∀i,i<σ.nodes.length->L.gQ i<k)(a7:E.bs<=k)
  (ad:me E.bs (L.new σ.nodes.length k av kv) w' σ.nodes.length nd) (aa:kv.ownBlock=none) (a5:∀e,nd=.el e->e.ji=none/\e.kids=[])
  (a2:∀i e g,σ.gU i=some e->oA e.name=true->av.ownBlock=some g->(L.av i).ownBlock≠some g)
  (a3:∀e g j,nd=.el e->oA e.name=true->j<σ.nodes.length->av.ownBlock=some g->(L.av j).ownBlock≠some g)
  (a1:(∀e,nd≠ .el e)->av.ownBlock=none)
  (X:R=true->σ.fresh=true/\∀g,E.tv.ownBlock=some g->av.ownBlock≠some g) (a6:∀g,av.ownBlock=some g->E.bs<=g):
  Rel E (L.new σ.nodes.length k av kv) (σ.qt nd R) w':=by
 have A:=h.ir hk;have hE:Jk σ.nodes.length L (L.new σ.nodes.length k av kv):=λi l=>Loc.Cl l;have a4:=N.nh (σ:=σ) (i:=0) h.wf.wA;have u:(σ.qt nd R).nodes.length=σ.nodes.length+1:=by simp[N.qt]
 have a8:∀i,(σ.qt nd R).gU i=(σ.add nd).gU i:=λi=>rfl;have⟨C,hb,hC⟩:=A.il;refine⟨A.fr,by grind[Loc.Cl,env],A.Gv,?_,?_,?_,?_,?_,?_,?_,⟨C,hb,hC.ext hE h.wf rfl rfl rfl rfl rfl rfl rfl rfl rfl rfl rfl⟩,?_,?_,A.JY,A.yK,A.Ie,A.qm,A.Pl,A.rd,A.Wp,A.tok,A.Ph,A.bz,A.bB,A.bR,?_,?_,?_,h.tb,h.Pk⟩;intro i K l;have d:(σ.nodes++[nd])[i]?=some K:=l;by_cases W:i<σ.nodes.length;rw[ahv W]at d;exact(A.uz i K d).ext hE W (Loc.IF W) (Loc.Sr W) (h.eZ d);grind;intro i j D;have B:(if i<σ.nodes.length then L.gQ i else k+(i-σ.nodes.length))=(if j<σ.nodes.length then L.gQ j else k+(j-σ.nodes.length)):=D;by_cases l:i<σ.nodes.length;by_cases H:j<σ.nodes.length;rw[sL l,sL H]at B;exact h.inj i j B;grind;grind;intro i j g l H D U;rw[u]at l H;by_cases d:i<σ.nodes.length;rw[Loc.Sr d]at U;by_cases a0:j<σ.nodes.length;grind[Loc.Sr,Dk];grind[Loc.new];grind[Loc.new];intro i l F;rw[u]at l;by_cases d:i<σ.nodes.length;grind[Loc.Sr,JS,N.tW];grind[Loc.new];intro i j e g l a9 H D U;rw[u]at H;rcases N.ze (nd:=nd) l with⟨d,F⟩|⟨rfl,rfl⟩;rw[Loc.IF d]at U;by_cases a0:j<σ.nodes.length;grind[Loc.IF,uq];grind[Loc.new];grind[Loc.new];grind[Loc.IF,H6,N.tW,Loc.Dn,N.su];refine⟨λx I=>N.Qd (h.wf.gq x I),λx I=>N.Cd (h.wf.act x I),N.Cd h.wf.head,N.Cd h.wf.form,?_,?_,?_⟩;intro i e l;rcases N.ze (nd:=nd) l with⟨d,F⟩|⟨rfl,hn⟩;exact N.Cd (h.wf.ji i e F);grind[N.gZ];intro i e l x I;rcases N.ze (nd:=nd) l with⟨d,F⟩|⟨rfl,hn⟩;exact N.Iy (h.wf.kids i e F x I);grind;grind[N.tW,Wf.wA,wf];show w'.ownsRow E.bs _ 1 L.ov σ.gq.length (σ.gq.map λx=>kX (iF (L.new σ.nodes.length k av kv).gQ x));grind[Jk.list,N.xB,Wf.gq,wf,qv];show w'.ownsRow E.bs _ 1 L.cv σ.act.length (σ.act.map λx=>kX (iF (L.new σ.nodes.length k av kv).gQ x));grind[Jk.list,Wf.act,wf,ru];intro i l;rw[u]at l;by_cases d:i<σ.nodes.length;rw[Loc.Cl d];exact h.bN i d;grind[Loc.new];intro hf i g l U;rw[u]at l;have⟨f1,f2⟩:=X hf;by_cases d:i<σ.nodes.length;grind[Loc.IF,BI];grind[Loc.new];grind[ab,Loc.IF,Loc.Dn]
theorem Rel.add{E:Env}{L:Loc}{σ:N}{w w':J}(h:Rel E L σ w)(nd:A8)(k:Nat)(av kv:gP)(D:Bool)(U:Z [] w w')(B:w.heap.size<=k)
  (K:me E.bs (L.new σ.nodes.length k av kv) w' σ.nodes.length nd) (I:kv.ownBlock=none) (A:∀e,nd=.el e->e.ji=none/\e.kids=[])
  (l:∀i e g,σ.gU i=some e->oA e.name=true->av.ownBlock=some g->(L.av i).ownBlock≠some g)
  (u:∀e g j,nd=.el e->oA e.name=true->j<σ.nodes.length->av.ownBlock=some g->(L.av j).ownBlock≠some g)
  (d:(∀e,nd≠ .el e)->av.ownBlock=none)
  (H:D=true->σ.fresh=true/\∀g,E.tv.ownBlock=some g->av.ownBlock≠some g) (F:∀g,av.ownBlock=some g->E.bs<=g):
  Rel E (L.new σ.nodes.length k av kv) (σ.qt nd D) w':=
 h.akt nd k av kv D U (λ_ R=>nr (h.LB R) B) (jZ h.bw B) K I A l u d H F
def Rel.abp(h:Rel E L σ w)(d:KT E.bs [136,138,277] w w')(l:Jk σ.nodes.length L L')(e1:L'.ov=L.ov)(e2:L'.cv=L.cv)(D:L'.wv=L.wv)
  (R:∀i nd,σ'.nodes[i]?=some nd->me E.bs L' w' i nd) (H:∀i j,L'.gQ i=L'.gQ j->i=j)
  (K:∀i j g,i<σ'.nodes.length->j<σ'.nodes.length->i≠j->(L'.kv i).ownBlock=some g->(L'.kv j).ownBlock≠some g)
  (I:∀i,i<σ'.nodes.length->σ'.gU i=none->(L'.kv i).ownBlock=none)
  (uq:∀i j e g,σ'.gU i=some e->oA e.name=true->j<σ'.nodes.length->i≠j->(L'.av i).ownBlock=some g->(L'.av j).ownBlock≠some g)
  (B:∀i,i<σ'.nodes.length->σ'.gU i=none->(L'.av i).ownBlock=none)
  (wf:Wf σ') (F:σ'.fresh=true->∀i g,i<σ'.nodes.length->E.tv.ownBlock=some g->(L'.av i).ownBlock≠some g)
  (U:σ'.nodes.length<=σ.nodes.length:=by first|exact ic _|simp[N.gW,N.np])
  (s0:σ'.gq=σ.gq:=by rfl) (s9:σ'.act=σ.act:=by rfl) (s1:σ'.head=σ.head:=by rfl) (s2:σ'.form=σ.form:=by rfl) (s3:σ'.mode=σ.mode:=by rfl) (s4:σ'.kept=σ.kept:=by rfl) (s5:σ'.im=σ.im:=by rfl) (s6:σ'.jA=σ.jA:=by rfl) (s7:σ'.gQ=σ.gQ:=by rfl) (s8:σ'.behind=σ.behind:=by rfl) (sw:σ'.waiting=σ.waiting:=by rfl) (so:σ'.nW=σ.nW:=by rfl) (sp:σ'.iU=σ.iU:=by rfl) (d1:σ'.qZ=σ.qZ:=by rfl) (d2:σ'.sB=σ.sB:=by rfl) (d3:σ'.qu=σ.qu:=by rfl) (av:L'.av=L.av:=by rfl):Rel E L' σ' w':=by
 obtain⟨C,hb,hC⟩:=h.il;have u:=N.nh (σ:=σ) (i:=0) h.wf.wA;exact {h with
  fr:=h.fr.trans (d.fr (by decide))
  env:=by rw[l 0 u];exact h.env
  Gv:=by rw[d1,d2,d3];exact h.Gv
  uz:=R,inj:=H,Dk:=K,JS:=I,uq:=uq,H6:=B,wf:=wf
  il:=⟨C,d.at hb (by decide),hC.ext l h.wf e1 e2 D s1 s2 s3 s4 s5 s6 s7 s8⟩
  qv:=by rw[s0,e1,l.list λx hx=>N.xB (h.wf.gq x hx)];exact d.row h.qv (by decide)
  ru:=by rw[s9,e2,l.list h.wf.act];exact d.row h.ru (by decide)
  JY:=by rw[e1,e2];exact h.JY
  yK:=by rw[s0];exact h.yK
  Ie:=by rw[s9];exact h.Ie
  qm:=by rw[sw,D];exact d.row h.qm (by decide)
  Pl:=by rw[sw];exact h.Pl
  rd:=by rw[so,sp];exact d.at h.rd (by decide)
  tok:=d.row h.tok (by decide)
  bN:=λi A=>by rw[l i (nr A U)];exact h.bN i (nr A U)
  BI:=F
  ab:=λi g A W=>h.ab i g (nr A U) (by rw[av]at W;exact W)
  Pk:=λv X=>⟨D.trans (h.Pk v X).1,sw.trans (h.Pk v X).2⟩}
theorem Rel.Ay(h:Rel E L σ w)(l:j<σ.nodes.length)(d:(L.kv j).ownBlock=some g):∃c m,w.heap[g]?=some (.cells c 138 m):=by
 cases he:σ.gU j with
 |none=>grind[JS]
 |some e=>exact tJ (h.uz j _ (N.jp he)).1.row d
theorem Rel.Ro(h:Rel E L σ w)(l:j<σ.nodes.length)(d:(L.av j).ownBlock=some g):∃c m,w.heap[g]?=some (.cells c 292 m):=by
 cases he:σ.gU j with
 |none=>grind[H6]
 |some e=>exact tJ (h.uz j _ (N.jp he)).2.1 d
theorem Rel.Rn(h:Rel E L σ w)(d:j<σ.nodes.length):∃c t,w.heap[L.gQ j]?=some (gH c t)/\t≠138/\t≠292:=by
 have⟨c,hc⟩:=(h.uz j _ (yG d)).eY;refine⟨c,_,hc,?_⟩;cases σ.nodes[j]<;>(simp[A8.eY])
theorem NL{a:Nat}{c':jL}{t d:TypeId}{m l:Nat×Nat}(h:w.heap[a]?=some (.cells c t m))(u:w.heap[a]?=some (.cells c' d l)):t=d:=by
 grind
theorem Rel.iy(h:Rel E L σ w)(H:List Nat)(F:∀j∈H,j<σ.nodes.length)(l:∀s∈S,∃j∈H,s=L.gQ j\/(L.kv j).ownBlock=some s)(B:Z S w w')(u:σ.nodes[i]?=some nd)(d:i∉H):me E.bs L w' i nd:=by
 refine(h.uz i nd u).kept B ?_ ?_ ?_;intro D;obtain⟨j,A,e|e⟩:=l _ D;exact d (by rw[h.inj i j e];exact A);grind[Ay,Rn]
 all_goals grind[Ay,Rn,Dk,Ro]
theorem Rel.cM(h:Rel E L σ w)(D:List Nat)(d:∀j∈D,(σ.gU j).isSome=true)(u:∀s∈S,∃j∈D,s=L.gQ j\/(L.kv j).ownBlock=some s)(A:Z S w w'):KT E.bs [136,138,277] w w':=by
 refine .j9 A λs B _=>?_;obtain⟨j,l,e|e⟩:=u s B;have⟨e',he⟩:=Option.isSome_iff_exists.1 (d j l);rw[e];exact⟨⟨_,_,_,(h.uz j _ (N.jp he)).1.il,by simp⟩,h.bN j (N.io he)⟩;have⟨e',he⟩:=Option.isSome_iff_exists.1 (d j l);have⟨c,m,h1⟩:=h.Ay (N.io he) e;exact⟨by grind,((h.uz j _ (N.jp he)).1.row.lt _ e).1⟩
theorem N.oK(σ:N)(i:Nat)(e:wN):(σ.gW i e).nodes.length=σ.nodes.length:=by simp[N.gW]
theorem N.jc(d:i<σ.nodes.length):(σ.gW i e).gU i=some e:=by
 grind[N.gU,N.gW]
theorem N.iK(d:j≠i):(σ.gW i e).gU j=σ.gU j:=by
 grind[N.gU,N.gW]
theorem N.oP(h:(σ.gW i e).nodes[j]?=some nd):(j=i/\nd=.el e)\/(j≠i/\σ.nodes[j]?=some nd):=by
 by_cases d:i=j;simp[N.gW]at h;grind;simp[N.gW]at h;grind
theorem N.rL(d:(σ.gU i).isSome=true)(x:jj):(σ.gW i e).gZ x=σ.gZ x:=by
 cases x with
 |none=>rfl
 |some j=>
  show((σ.gW i e).gU j).isSome=(σ.gU j).isSome;grind[N.gU,N.gW]
theorem N.zH(d:(σ.gU i).isSome=true)(x:jj):(σ.gW i e).nk x=σ.nk x:=by
 cases x with
 |none=>rfl
 |some j=>exact N.rL d (some j)
theorem N.mr(d:(σ.gU i).isSome=true)(k:Nd):(σ.gW i e).jr k=σ.jr k:=by
 have h:∀j,j≠i->(σ.gW i e).nodes[j]?=σ.nodes[j]?:=λj A=>by grind[N.gW]
 have⟨e0,he0⟩:=Option.isSome_iff_exists.1 d;have l:=N.jp he0;have u:(σ.gW i e).nodes[i]?=some (.el e):=by simp[N.gW,N.io he0]
 cases k with
 |el j=>exact N.rL d (some j)
 |tx j=>grind[N.jr]
 |cm j=>grind[N.jr]
 |dt j=>grind[N.jr]
theorem Wf.gW(h:Wf σ)(d:(σ.gU i).isSome=true)(H:σ.gZ e.ji=true)(F:∀k∈e.kids,σ.jr k=true):Wf (σ.gW i e):=by
 refine⟨λx A=>by rw[N.zH d];exact h.gq x A,λx A=>by rw[N.rL d];exact h.act x A,by rw[N.rL d];exact h.head,by rw[N.rL d];exact h.form,?_,?_,?_⟩;intro j B u;rw[N.rL d];by_cases l:j=i;subst l;rw[N.jc (N.nh d)]at u;grind;grind[ji,N.iK];intro j B u k D;rw[N.mr d];by_cases l:j=i;subst l;rw[N.jc (N.nh d)]at u;grind;grind[kids,N.iK];have:=N.rL (e:=e) d (some 0);exact this.trans h.wA
theorem Rel.ajH(h:Rel E L σ w)(i:Nat)(d:gP)(X:(σ.gU i).isSome=true)(K:KT E.bs [136,138,277] w w')(B:d.ownBlock=(L.kv i).ownBlock\/∀g,d.ownBlock=some g->w.heap.size<=g)
  (l:σ'.nodes.length=σ.nodes.length) (a0:∀j F,σ'.gU j=some F->∃e,σ.gU j=some e/\F.name=e.name) (a1:∀j,σ'.gU j=none->σ.gU j=none)
  (D:∀j nd,σ'.nodes[j]?=some nd->me E.bs {L with kv:=λx=>if x=i then d else L.kv x} w' j nd) (wf:Wf σ')
  (s0:σ'.gq=σ.gq:=by rfl) (s9:σ'.act=σ.act:=by rfl) (s1:σ'.head=σ.head:=by rfl) (s2:σ'.form=σ.form:=by rfl) (s3:σ'.mode=σ.mode:=by rfl) (s4:σ'.kept=σ.kept:=by rfl) (s5:σ'.im=σ.im:=by rfl) (s6:σ'.jA=σ.jA:=by rfl) (s7:σ'.gQ=σ.gQ:=by rfl) (s8:σ'.behind=σ.behind:=by rfl) (sw:σ'.waiting=σ.waiting:=by rfl) (so:σ'.nW=σ.nW:=by rfl) (sp:σ'.iU=σ.iU:=by rfl) (sf:σ'.fresh=σ.fresh:=by rfl) (R:σ'.qZ=σ.qZ:=by rfl) (U:σ'.sB=σ.sB:=by rfl) (W:σ'.qu=σ.qu:=by rfl):To E L σ' w w':=by
 have I:∀j g,j<σ.nodes.length->j≠i->d.ownBlock=some g->(L.kv j).ownBlock≠some g:=by
  intro j g hj A H u;rcases B with e|e;rw[e]at H;exact h.Dk i j g (N.nh (σ:=σ) (i:=i) X) hj (yZ A) H u;grind[Ay]
 refine⟨{L with kv:=λx=>if x=i then d else L.kv x},rfl,h.abp K (λ_ _=>rfl) rfl rfl rfl D h.inj ?_ ?_ ?_ ?_ wf ?_ (ZX l) s0 s9 s1 s2 s3 s4 s5 s6 s7 s8 sw so sp R U W,K.fr (by decide)⟩
 all_goals grind[Dk,JS,uq,H6,BI]
def Rel.wB(h:Rel E L σ w)(d:σ.gU i=some e):El E.bs w (L.gQ i) e.name (L.av i) (iF L.gQ e.ji) (L.kv i) (e.kids.map (Nd.map L.gQ)):=(h.uz i _ (N.jp d)).1
def Rel.yb(h:Rel E L σ w)(d:σ.gU i=some e):Ad w (L.av i) e.gR:=(h.uz i _ (N.jp d)).2.1
theorem Rel.Br(h:Rel E L σ w)(d:σ.gU i=some e):e.gR.length<=4096:=(h.uz i _ (N.jp d)).2.2
theorem Rel.acO(h:Rel E L σ w){k:Nd}(d:σ.jr k=true):BJ w (Nd.map L.gQ k):=by
 cases k with
 |el i=>
  have⟨e,he⟩:=Option.isSome_iff_exists.1 (show(σ.gU i).isSome=true from d);exact⟨_,(h.wB he).il⟩
 |tx i=>
  simp only[N.jr]at d;split at d;rename_i s l;exact⟨_,h.uz i _ l⟩;grind
 |cm i=>
  simp only[N.jr]at d;split at d;rename_i s l;exact⟨_,h.uz i _ l⟩;grind
 |dt i=>
  simp only[N.jr]at d;split at d;rename_i s l;exact⟨_,h.uz i _ l⟩;grind
theorem afM(d:∀i j,f i=f j->i=j)(j:Nat)(k:Nd):(Nd.map f k).gZ (f j)=k.gZ j:=by
 cases k with
 |el i=>
  grind[Nd.gZ,Nd.map]
 |tx i=>rfl
 |cm i=>rfl
 |dt i=>rfl
theorem M7(d:∀i j,f i=f j->i=j)(ks:List Nd)(j:Nat):pa (ks.map (Nd.map f)) (Nd.gZ (f j))=pa ks (Nd.gZ j):=by
 have:(ks.map (Nd.map f)).findIdx (Nd.gZ (f j))=ks.findIdx (Nd.gZ j):=by
  rw[List.findIdx_map]
  congr 1
  funext k
  exact afM d j k
 grind[pa]
def WT(h:Rel E L σ w)(u:σ.gU i=some e):
  Calls prog 90 #[gI (L.gQ i)] w λd w'=>d=iA (place (L.gQ i) e.kids.length)/\Rel E L σ w'/\Z [] w w':=by
 refine(alG E.bs _ _ _ _ _ _ w (h.wB u)).mono ?_;rintro d w'⟨rfl,l⟩;exact⟨by simp,h.ir l,l⟩
def ZL(h:Rel E L σ w)(A:σ.gU i=some e)(B:e.ji=none):
  Calls prog 312 #[gI (L.gQ i)] w λd w'=>d=iA (.tuple #[.agg #[.pointer none,G 0],.bool false])/\Rel E L σ w'/\Z [] w w':=by
 have l:=h.wB A;rw[B]at l;refine(afs E.bs _ _ _ _ _ w l).mono ?_;rintro d w'⟨rfl,u⟩;exact⟨rfl,h.ir u,u⟩
def WU(h:Rel E L σ w){p:Nat}{u:wN}(D:σ.gU i=some e)(F:e.ji=some p)(d:σ.gU p=some u):
  Calls prog 312 #[gI (L.gQ i)] w λA w'=>A=iA (.tuple #[.agg #[gI (L.gQ p),G (pa u.kids (Nd.gZ i))],.bool true])/\Rel E L σ w'/\Z [] w w':=by
 have B:=h.wB D;rw[F]at B;refine(acD E.bs _ _ _ _ _ _ _ _ _ _ _ w B (h.wB d) ?_).mono ?_;intro x H;obtain⟨k,l,rfl⟩:=List.mem_map.1 H;exact h.acO (h.wf.kids p u d k l);rintro A w'⟨rfl,l⟩;exact⟨by rw[M7 h.inj],h.ir l,l⟩
theorem adF(h:Rel E L σ w)(l:σ.gU i=some e)(R:oA e.name=false):
  Calls prog 266 #[gI (L.gQ i)] w λu w'=>∃L',Jk σ.nodes.length L L'/\u=iA (gI (L'.gQ σ.nodes.length))/\Rel E L' (σ.add (.el {name:=e.name,gR:=e.gR,ji:=none,kids:=[]})) w'/\Fr E.bs w w':=by
 have U:=h.yb l;have lI:=h.Br l;refine(Lz E.bs _ _ _ _ _ _ w (h.wB l)).mono ?_;rintro u w'⟨rfl,hE,H⟩;have d:=N.io l;refine⟨L.new σ.nodes.length w.heap.size (L.av i) (jD),λj D=>Loc.Cl D,by simp[Loc.new],?_,.ib H⟩;refine h.add (.el {name:=e.name,gR:=e.gR,ji:=none,kids:=[]}) w.heap.size (L.av i) (jD) σ.fresh H (ic _) ?_ rfl (λu a0=>by grind) ?_ ?_ (λI=>absurd rfl (I _)) ?_ (λg R=>h.ab i g d R);show El E.bs w' _ _ _ _ _ _/\Ad w' _ _/\_;rw[Loc.vg,Loc.Dn,Loc.Lc];exact⟨hE,H.ownsRow U (by simp),lI⟩;intro j e2 g D B W X;by_cases F:j=i;grind;exact h.uq j i e2 g D B d F X W;grind;intro K;exact⟨K,λg A=>h.BI K i g d A⟩
theorem map_eraseIdx(f:Nd->Nd):∀(ks:List Nd)(n:Nat),(ks.eraseIdx n).map f=(ks.map f).eraseIdx n
 |[],_=>by simp
 |_::_,0=>by simp
 |k::ks,n+1=>by simp[map_eraseIdx f ks n]
def ins(ks:List Nd)(n:Nat)(k:Nd):List Nd:=ks.take n++[k]++ks.drop n
theorem Gc(f:Nat->Nat)(ks:List Nd)(n:Nat)(k:Nd):(ins ks n k).map (Nd.map f)=(ks.map (Nd.map f)).take n++[Nd.map f k]++(ks.map (Nd.map f)).drop n:=by
 simp[ins]
theorem Gd{k x:Nd}(h:x∈ins ks n k):x∈ks\/x=k:=by
 rcases List.mem_append.1 h with h|h
 all_goals grind
theorem ag9(h:Rel E L σ w)(F:σ.gU i=some ei)(K:σ.gU j=some ej)(H:j≠i)(hn:n<=ei.kids.length)(hl:ei.kids.length<1048576):
  Calls prog 166 #[place (L.gQ i) n,(Nd.el (L.gQ j)).val] w λe w'=>e=qs/\To E L ((σ.gW i {ei with kids:=ins ei.kids n (.el j)}).gW j {ej with ji:=some i}) w w':=by
 have D:=N.io F;have a0:=N.io K;have A:(σ.gU i).isSome=true:=by rw[F];rfl
 have U:(σ.gU j).isSome=true:=by rw[K];rfl
 have aI:=h.yb F;have lI:=h.Br F;have aJ:=h.yb K;have lJ:=h.Br K;refine(Zs E.bs _ n _ _ _ _ _ _ _ _ _ _ _ w (h.wB F) (h.wB K) (λe=>H (h.inj _ _ e)) (λg hg=>h.Dk j i g a0 D H hg) (by grind) (by grind) h.bw).mono ?_;rintro e w'⟨rfl,⟨I,E1,f1⟩,E2,hk⟩;have hS:∀s∈L.gQ j::L.gQ i::(L.kv i).ownBlock.toList,∃x∈[j,i],s=L.gQ x\/(L.kv x).ownBlock=some s:=by
  intro s W;rcases List.mem_cons.1 W with rfl|W;simp;rcases List.mem_cons.1 W with rfl|W;simp;grind
 have kt:=h.cM [j,i] (by grind) hS hk;have X:((σ.gW i {ei with kids:=ins ei.kids n (.el j)}).gU j).isSome=true:=by rw[N.iK H];exact U
 have R:∀x e,x<σ.nodes.length->Ad w (L.av x) e->Ad w' (L.av x) e:=λx e _ ha=>kt.row ha (by decide);refine⟨rfl,h.ajH i I A kt f1 (by simp[N.gW]) ?_ ?_ ?_ ?_⟩;intro x e' d;by_cases u:x=j;subst u;rw[N.jc (by grind[N.gW])]at d;grind;rw[N.iK u]at d;by_cases l:x=i;subst l;rw[N.jc D]at d;grind;rw[N.iK l]at d;grind;intro x d;by_cases u:x=j;subst u;rw[N.jc (by grind[N.gW])]at d;cases d;rw[N.iK u]at d;by_cases l:x=i;subst l;rw[N.jc D]at d;cases d
 rwa [N.iK l]at d
 intro x nd d;rcases N.oP d with⟨rfl,rfl⟩|⟨u,d⟩;grind[me];rcases N.oP d with⟨rfl,rfl⟩|⟨l,d⟩;show El E.bs w' _ _ _ _ (if x=x then I else L.kv x) _/\_;rw[sL rfl];refine⟨?_,R x _ D aI,lI⟩;show El E.bs w' (L.gQ x) ei.name (L.av x) (iF L.gQ ei.ji) I ((ins ei.kids n (.el j)).map (Nd.map L.gQ));rw[Gc];exact E1;have hN:=h.iy [j,i] (by grind) hS hk d (by grind);have a1:x<σ.nodes.length:=(List.getElem?_eq_some_iff.1 d).1;exact hN.ext (σ:=σ) (Jk.refl _ _) a1 rfl (Xx l) (h.eZ d);refine(h.wf.gW (e:={ei with kids:=ins ei.kids n (.el j)}) A (h.wf.ji i ei F) ?_).gW X ?_ ?_;intro k B;rcases Gd B with B|rfl;exact h.wf.kids i ei F k B;exact U;rw[N.rL A];exact A;intro k B;rw[N.mr A];exact h.wf.kids j ej K k B
theorem WV(h:Rel E L σ w){k:Nd}(u:σ.gU i=some ei)(hk:σ.jr k=true)(a0:∀j,k≠ .el j)(hn:n<=ei.kids.length)(hl:ei.kids.length<1048576):
  Calls prog 166 #[place (L.gQ i) n,(Nd.map L.gQ k).val] w λe w'=>e=qs/\To E L (σ.gW i {ei with kids:=ins ei.kids n k}) w w':=by
 have D:=N.io u;have B:(σ.gU i).isSome=true:=by rw[u];rfl
 have W:=h.yb u;have lI:=h.Br u;refine(agI E.bs _ n _ _ _ _ _ (Nd.map L.gQ k) w (h.wB u) (by grind) (by grind) h.bw (λj e=>by cases k<;>simp[Nd.map]at e;grind)).mono ?_;rintro e w'⟨rfl,⟨A,U,X⟩,F⟩;have I:∀s∈L.gQ i::(L.kv i).ownBlock.toList,∃x∈[i],s=L.gQ x\/(L.kv x).ownBlock=some s:=by
  intro s K;rcases List.mem_cons.1 K with rfl|K;simp;grind
 have R:=h.cM [i] (by grind) I F;refine⟨rfl,h.ajH i A B R X (by simp[N.gW]) ?_ ?_ ?_ ?_⟩;intro x e' d;by_cases l:x=i;subst l;rw[N.jc D]at d;grind;rw[N.iK l]at d;grind;intro x d;by_cases l:x=i;subst l;rw[N.jc D]at d;cases d
 rwa [N.iK l]at d
 intro x nd d;rcases N.oP d with⟨rfl,rfl⟩|⟨l,d⟩;show El E.bs w' _ _ _ _ (if x=x then A else L.kv x) _/\_;rw[sL rfl];refine⟨?_,R.row W (by decide),lI⟩;show El E.bs w' (L.gQ x) ei.name (L.av x) (iF L.gQ ei.ji) A ((ins ei.kids n k).map (Nd.map L.gQ));rw[Gc];exact U;have hN:=h.iy [i] (by grind) I F d (by grind);have H:x<σ.nodes.length:=(List.getElem?_eq_some_iff.1 d).1;exact hN.ext (σ:=σ) (Jk.refl _ _) H rfl (Xx l) (h.eZ d);refine h.wf.gW B (h.wf.ji i ei u) ?_;intro x d;rcases Gd d with d|rfl;exact h.wf.kids i ei u x d;omega
def Hc(h:Rel E L σ w)(l:σ.gU j=some ej)(u:ej.ji=none):
  Calls prog 365 #[gI (L.gQ j)] w λe w'=>e=qs/\w'=w:=by
 have d:=h.wB l;rw[u]at d;exact ZN E.bs _ _ _ _ _ w d
theorem adJ(h:Rel E L σ w){p:Nat}{l:wN}(R:σ.gU j=some ej)(U:ej.ji=some p)(F:σ.gU p=some l)(B:j≠p)(hn:n<l.kids.length)(a4:pa l.kids (Nd.gZ j)=(n:Int)):
  Calls prog 365 #[gI (L.gQ j)] w λe w'=>e=qs/\To E L ((σ.gW p {l with kids:=l.kids.eraseIdx n}).gW j {ej with ji:=none}) w w':=by
 have I:=N.io F;have a2:=N.io R;have K:(σ.gU p).isSome=true:=by rw[F];rfl
 have a1:(σ.gU j).isSome=true:=by rw[R];rfl
 have hE:=h.wB R;rw[U]at hE;have aP:=h.yb F;have lP:=h.Br F;have aJ:=h.yb R;have lJ:=h.Br R;refine(Kf E.bs _ _ n _ _ _ _ _ _ _ _ _ w hE (h.wB F) ?_ (λe=>B (h.inj _ _ e)) (λg hg=>h.Dk j p g a2 I B hg) (by grind) (by rw[M7 h.inj];omega)).mono ?_;intro x d;obtain⟨k,W,rfl⟩:=List.mem_map.1 d;exact h.acO (h.wf.kids p l F k W);rintro e w'⟨rfl,⟨D,E1,f1⟩,E2,W⟩;have hS:∀s∈L.gQ j::L.gQ p::(L.kv p).ownBlock.toList,∃x∈[j,p],s=L.gQ x\/(L.kv x).ownBlock=some s:=by
  intro s X;rcases List.mem_cons.1 X with rfl|X;simp;rcases List.mem_cons.1 X with rfl|X;simp;grind
 have kt:=h.cM [j,p] (by grind) hS W;have a0:((σ.gW p {l with kids:=l.kids.eraseIdx n}).gU j).isSome=true:=by rw[N.iK B];exact a1
 refine⟨rfl,h.ajH p D K kt (.inl f1) (by simp[N.gW]) ?_ ?_ ?_ ?_⟩;intro x e' d;by_cases A:x=j;subst A;rw[N.jc (by grind[N.gW])]at d;grind;rw[N.iK A]at d;by_cases u:x=p;subst u;rw[N.jc I]at d;grind;rw[N.iK u]at d;grind;intro x d;by_cases A:x=j;subst A;rw[N.jc (by grind[N.gW])]at d;cases d;rw[N.iK A]at d;by_cases u:x=p;subst u;rw[N.jc I]at d;cases d
 rwa [N.iK u]at d
 intro x nd d;rcases N.oP d with⟨rfl,rfl⟩|⟨A,d⟩;show El E.bs w' _ _ _ _ (if x=p then D else L.kv x) _/\_;rw[Xx B];exact⟨E2,kt.row aJ (by decide),lJ⟩;rcases N.oP d with⟨rfl,rfl⟩|⟨u,d⟩;show El E.bs w' _ _ _ _ (if x=x then D else L.kv x) _/\_;rw[sL rfl];refine⟨?_,kt.row aP (by decide),lP⟩;show El E.bs w' (L.gQ x) l.name (L.av x) (iF L.gQ l.ji) D ((l.kids.eraseIdx n).map (Nd.map L.gQ));rw[map_eraseIdx];exact E1;have hN:=h.iy [j,p] (by grind) hS W d (by grind);have a3:x<σ.nodes.length:=(List.getElem?_eq_some_iff.1 d).1;exact hN.ext (σ:=σ) (Jk.refl _ _) a3 rfl (Xx u) (h.eZ d);refine(h.wf.gW (e:={l with kids:=l.kids.eraseIdx n}) K (h.wf.ji p l F) ?_).gW a0 rfl ?_;intro k H;exact h.wf.kids p l F k (List.mem_of_mem_eraseIdx H);intro k H;rw[N.mr K];exact h.wf.kids j ej R k H
theorem Rel.Bk(h:Rel E L σ w)(d:O):Rel E (L.new σ.nodes.length w.heap.size (jD) (jD)) (σ.add (.el {name:=d,gR:=[],ji:=none,kids:=[]})) (w.alloc (gH #[Y d,jD,.pointer none,jD] 136)):=by
 refine h.add _ _ _ _ _ ((Z.refl _ _).alloc _) (ic _) ?_ rfl (λe A=>by grind) (λ_ _ _ _ _ l=>by cases l) (λ_ _ _ _ _ _ l=>by cases l) (λ_=>rfl) (λu=>⟨u,λ_ _=>by simp[Value.ownBlock]⟩) (λ_ l=>by cases l);show El E.bs _ _ _ _ _ _ _/\Ad _ _ _/\_;rw[Loc.vg,Loc.Dn,Loc.Lc];exact⟨⟨fU w _,pP _ _ _ _,by simp,by grind⟩,pP _ _ _ _,by simp⟩
theorem Rel.ku(h:Rel E L σ w)(u:σ.fresh=true)(d:O):Rel E (L.new σ.nodes.length w.heap.size E.tv (jD)) (σ.qt (.el {name:=d,gR:=E.ta,ji:=none,kids:=[]}) false) (w.alloc (gH #[Y d,E.tv,.pointer none,jD] 136)):=by
 have B:Z [] w (w.alloc (gH #[Y d,E.tv,.pointer none,jD] 136)):=(Z.refl _ _).alloc _;refine h.add _ _ E.tv _ _ B (ic _) ?_ rfl (λe H=>by grind) (λi e g D _ l=>h.BI u i g (N.io D) l) (λe g j _ _ F l=>h.BI u j g F l) (λA=>absurd rfl (A _)) (λu=>by grind) h.tb;show El E.bs _ _ _ _ _ _ _/\Ad _ _ _/\_;rw[Loc.vg,Loc.Dn,Loc.Lc];have⟨ao,cap,hv⟩:=gz h.tok;exact⟨⟨fU w _,pP _ _ _ _,by simp,by grind⟩,B.ownsRow h.tok (by simp),h.Ph⟩
theorem Rel.anC(h:Rel E L σ w)(nd:A8)(s:O)(l:nd=.tx s\/nd=.cm s\/nd=.dt s):Rel E (L.new σ.nodes.length w.heap.size (jD) (jD)) (σ.add nd) (w.alloc (gH #[Y s] nd.eY)):=by
 have u:∀e,nd≠ .el e:=by grind
 refine h.add nd _ _ _ _ ((Z.refl _ _).alloc _) (ic _) ?_ rfl (λe A=>absurd A (u e)) (λ_ _ _ _ _ d=>by cases d) (λ_ _ _ _ _ _ d=>by grind) (λ_=>rfl) (λB=>⟨B,λ_ _=>by simp[Value.ownBlock]⟩) (λ_ d=>by cases d);rcases l with rfl|rfl|rfl;show _=_;rw[Loc.vg];exact fU w _;show _=_;rw[Loc.vg];exact fU w _;show _=_;rw[Loc.vg];exact fU w _
def l6(E:Env)(L:Loc)(n:Nat)(σ':N)(w w':J):Prop:=∃L',Jk n L L'/\Rel E L' σ' w'/\Fr E.bs w w'
def N.np(σ:N)(t:Nat)(s:O):N:={σ with nodes:=σ.nodes.set t (.tx s)}
theorem N.tr(d:σ.nodes[t]?=some (.tx old))(i:Nat):(σ.np t s).gU i=σ.gU i:=by
 grind[N.gU,N.np]
theorem N.vV(d:σ.nodes[t]?=some (.tx old))(x:jj):(σ.np t s).gZ x=σ.gZ x:=by
 cases x with
 |none=>rfl
 |some i=>show((σ.np t s).gU i).isSome=(σ.gU i).isSome;grind[tr]
def N.Wv(d:σ.nodes[t]?=some (.tx old))(x:jj):(σ.np t s).nk x=σ.nk x:=by
 cases x with
 |none=>rfl
 |some i=>exact N.vV d (some i)
theorem N.Kc(d:σ.nodes[t]?=some (.tx old))(k:Nd):(σ.np t s).jr k=σ.jr k:=by
 have u:(σ.np t s).nodes[t]?=some (.tx s):=by simp[N.np,((List.getElem?_eq_some_iff.1 d).1)]
 have l:∀j,j≠t->(σ.np t s).nodes[j]?=σ.nodes[j]?:=λj h=>by grind[N.np]
 cases k with
 |el j=>exact N.vV d (some j)
 |tx j=>grind[N.jr]
 |cm j=>grind[N.jr]
 |dt j=>grind[N.jr]
theorem KM(h:Rel E L σ w)(W:σ.gU i=some ei)(hm:m<ei.kids.length)(B:ei.kids[m]=.tx t)(A:σ.nodes[t]?=some (.tx old))(a0:old.size+s.size<=1048576):
  Calls prog 173 #[place (L.gQ i) (m+1),Y s] w λe w'=>e=qs/\To E L (σ.np t (old++s)) w w':=by
 refine(OZ E.bs _ m (L.gQ t) _ old s _ _ _ _ w (h.wB W) (by grind) (by grind[Nd.map]) (h.uz t _ A) a0).mono ?_;rintro e w'⟨rfl,hb,X⟩;have I:=h.uz t _ A;have kt:KT E.bs [136,138,277] w w':=.j9 X (λx B _=>by simp at B;subst B;exact⟨⟨_,_,_,I,by simp⟩,h.bN t (List.getElem?_eq_some_iff.1 A).1⟩);refine⟨rfl,L,rfl,h.abp kt (λ_ _=>rfl) rfl rfl rfl ?_ h.inj ?_ ?_ ?_ ?_ ?_ ?_,kt.fr (by decide)⟩;intro x nd d;by_cases D:t=x;subst D;simp[N.np,((List.getElem?_eq_some_iff.1 A).1)]at d;rw[<-d];exact hb;have H:=by simpa [N.np,D]using d
 have l:=(List.getElem?_eq_some_iff.1 H).1;refine(h.uz x nd H).kept X ?_ ?_ ?_;simp;exact λe=>D (h.inj _ _ e.symm);intro g F u;simp at u;have⟨c,m',h1⟩:=h.Ay l F;rw[u]at h1;exact absurd (NL I h1) (by decide);intro g F u;simp at u;have⟨c,m',h1⟩:=h.Ro l F;rw[u]at h1;exact absurd (NL I h1) (by decide)
 simpa [N.np]using h.Dk
 intro x l d;rw[N.tr A]at d;exact h.JS x (by simpa [N.np]using l) d;intro a b e g ha U R K F;rw[N.tr A]at ha;exact h.uq a b e g ha U (by simpa [N.np]using R) K F;intro x l d;rw[N.tr A]at d;exact h.H6 x (by simpa [N.np]using l) d;refine⟨λx B=>by rw[N.Wv A];exact h.wf.gq x B,λx B=>by rw[N.vV A];exact h.wf.act x B,by rw[N.vV A];exact h.wf.head,by rw[N.vV A];exact h.wf.form,λi e W=>by grind[N.vV,Wf.ji,Rel.wf,N.tr],λi e W k X=>by grind[N.Kc,Wf.kids,Rel.wf,N.tr],by grind[N.tr,Wf.wA,Rel.wf]⟩;intro hf x g l;exact h.BI hf x g (by simpa [N.np]using l)
theorem ND(h:Rel E L σ w)(u:σ.gU i=some ei)(K:n<=ei.kids.length)(H:ei.kids.length<1048576)(U:∀m,(I:m<ei.kids.length)->n=m+1->∀t,ei.kids[m]≠ .tx t):
  Calls prog 173 #[place (L.gQ i) n,Y s] w λe w'=>e=qs/\l6 E L σ.nodes.length ((σ.add (.tx s)).gW i {ei with kids:=ins ei.kids n (.tx σ.nodes.length)}) w w':=by
 refine SI E.bs _ n _ s _ _ _ _ w (h.wB u) (by grind) _ ?_ ?_;intro W A;have:=WV ((h.ir A).anC (.tx s) s (.inl rfl)) (k:=.tx σ.nodes.length) (by rw[N.tW (N.io u)];exact u) (by simp[N.jr,N.add]) (λj e=>by cases e) K H;rw[(λj l=>Loc.Cl l) i (N.io u)]at this;simp[Nd.map,Loc.vg]at this;refine this.mono ?_;rintro e w'⟨rfl,B,e2,D,F⟩;exact⟨rfl,B,λj l=>by rw[e2];exact(λj l=>Loc.Cl l) j l,D,(Fr.ib (A.alloc _)).trans F⟩;intro m I R t d;rw[List.getElem_map]at d;cases hq:ei.kids[m]with
 |tx t'=>grind
 |el _=>rw[hq]at d;cases d
 |cm _=>rw[hq]at d;cases d
 |dt _=>rw[hq]at d;cases d
inductive TK
 |kE (s:O)
 |start (name:O)
 |stop (name:O)
 |gV (s:O)
 |iH (name:O) (q:Bool)
 |lost
 |iw
structure gF where
 a:Nat
 b:Nat
 k:TK
 gR:lu:=[]
def gF.name(t:gF):O:=match t.k with
 | .start n=>n
 | .stop n=>n
 |_=>⟨#[]⟩
def gF.jh(t:gF):lu:=match t.k with
 | .start _=>t.gR
 | .stop _=>t.gR
 |_=>[]
def gF.chars(t:gF):O:=match t.k with
 | .kE s=>s
 |_=>⟨#[]⟩
def uY(s:O):Bool:=ld s ⟨#[0]⟩
def mJ(s:O):Bool:=gO [⟨#[32]⟩,⟨#[9]⟩,y8,⟨#[12]⟩] s
namespace N
def nm(σ:N)(i:Nat):O:=match σ.gU i with
 |some e=>e.name
 |none=>⟨#[]⟩
def mu(σ:N):jj->O
 |some i=>σ.nm i
 |none=>⟨#[]⟩
def last(σ:N):jj:=iC σ.gq ((σ.gq.length:Int)-1)
def current(σ:N)(p:O->Bool):Bool:=match σ.last with
 |none=>false
 |some i=>p (σ.nm i)
def pop(σ:N):N:={σ with gq:=σ.gq.dropLast}
def GH(σ:N)(p:O->Bool):N:=if σ.current p then σ.pop else σ
def yW(σ:N)(p:O->Bool):kY->kY
 |[]=>[]
 |x::r=>if p (σ.mu x)then r else yW σ p r
def CG(σ:N)(p:O->Bool):N:={σ with gq:=(yW σ p σ.gq.reverse).reverse}
def oE(σ:N)(p:O->Bool):kY->kY
 |[]=>[]
 |x::r=>if p (σ.mu x)then oE σ p r else x::r
def tA(σ:N)(p:O->Bool):N:={σ with gq:=(oE σ (λs=>!(p s||gO [fN] s)) σ.gq.reverse).reverse}
def mn(σ:N):N:={σ with gq:=(oE σ vj σ.gq.reverse).reverse}
def wW(σ:N)(p b:O->Bool):kY->Bool
 |[]=>false
 |x::r=>if p (σ.mu x)then true else if b (σ.mu x)then false else wW σ p b r
def inScope(σ:N)(p b:O->Bool):Bool:=wW σ p b σ.gq.reverse
def oo(σ:N)(it:Nat):kY->Bool
 |[]=>false
 |x::r=>if x=some it then true else if iI (σ.mu x)then false else oo σ it r
def pi(σ:N)(it:Nat):Bool:=oo σ it σ.gq.reverse
def close(σ:N)(p b:O->Bool):N:=if σ.inScope p b then σ.CG p else σ
end N
def FH:O->Bool:=λs=>iI s||gO [ik] s
def akA:O->Bool:=λs=>iI s||gO [pQ] s
def Cv:O->Bool:=gO [fN,fQ]
def Cw:O->Bool:=gO [fQ,fW,fV,fX,gN]
def ani(x:jj):M Nat:=λσ=>match x with
 |some i=>if (σ.gU i).isSome then .ok i σ else .stuck
 |none=> .stuck
def jg(i:Nat):M (Nat×Nat):=λσ=>match σ.gU i with
 |some e=> .ok (i,e.kids.length) σ
 |none=> .stuck
def tD(σ:N):kY->Option (jj)
 |[]=>none
 |x::r=>if !ld (σ.mu x) fQ||x=iC σ.gq 0 then tD σ r else some x
def qQ.isOk{α:Type}:qQ α->Bool
 | .ok _ _=>true
 |_=>false
def mG(i:Nat):M (Nat×Nat):=λσ=>match σ.gU i with
 |some e=>match e.ji with
  |some p=>match σ.gU p with
   |some ep=>if 0<=pa ep.kids (Nd.gZ i)then .ok (p,(pa ep.kids (Nd.gZ i)).toNat) σ else .stuck
   |none=> .stuck
  |none=>match iC σ.gq (posOf σ.gq (some i)-1)with
   |some q=>jg q σ
   |none=> .stuck
 |none=> .stuck
def N.Cx(σ:N):Bool:=σ.gq.all λx=>match x with
 |some i=>!ld (σ.nm i) fQ||decide (some i=iC σ.gq 0)||(mG i σ).isOk
 |none=>false
def j7:M (Nat×Nat):=λσ=>if σ.Cx then (match tD σ σ.gq.reverse with
 |some (some i)=>mG i σ
 |some none=> .stuck
 |none=>match iC σ.gq 0 with
  |some q=>jg q σ
  |none=> .stuck)else .stuck
theorem ny(h:jg i σ=.ok pl σ1):σ1=σ:=by
 grind[jg]
theorem DK(h:mG i σ=.ok pl σ1):σ1=σ:=by
 grind[ny,mG]
theorem oJ(h:j7 σ=.ok pl σ1):σ1=σ:=by
 grind[DK,ny,j7]
def placeFor(i:Nat):M (Nat×Nat):=λσ=>if σ.im&&Cw (σ.nm i)then j7 σ else jg i σ
def ky:M (Nat×Nat):=λσ=>match σ.last with
 |some i=>placeFor i σ
 |none=> .stuck
def kD(pl:Nat×Nat)(j:Nat):M Unit:=λσ=>match σ.gU pl.1,σ.gU j with
 |some ei,some ej=>if j≠pl.1/\pl.2<=ei.kids.length/\ei.kids.length<1048576 then .ok () ((σ.gW pl.1 {ei with kids:=ins ei.kids pl.2 (.el j)}).gW j {ej with ji:=some pl.1})else .stuck
 |_,_=> .stuck
def vk(pl:Nat×Nat)(k:Nd):M Unit:=λσ=>match σ.gU pl.1 with
 |some ei=>if σ.jr k=true/\pl.2<=ei.kids.length/\ei.kids.length<1048576 then .ok () (σ.gW pl.1 {ei with kids:=ins ei.kids pl.2 k})else .stuck
 |none=> .stuck
def qV(pl:Nat×Nat)(s:O):M Unit:=λσ=>match σ.gU pl.1 with
 |some ei=>if pl.2<=ei.kids.length/\ei.kids.length<1048576 then
   match (if pl.2=0 then none else ei.kids[pl.2-1]?)with
   |some (.tx t)=>match σ.nodes[t]? with
    |some (.tx old)=>if old.size+s.size<=1048576 then .ok () (σ.np t (old++s))else .stuck
    |_=> .stuck
   |_=> .ok () ((σ.add (.tx s)).gW pl.1 {ei with kids:=ins ei.kids pl.2 (.tx σ.nodes.length)})
  else .stuck
 |none=> .stuck
def oH(x:jj):M Unit:=λσ=>if σ.qZ<=σ.gq.length then .stop 5 σ.gQ else if σ.nk x then .ok () {σ with gq:=σ.gq++[x]} else .stuck
def jT(j:Nat):M Unit:=do
 let pl <-ky
 kD pl j
 oH (some j)
 return ()
def Bk(d:O):M Nat:=λσ=> .ok σ.nodes.length (σ.add (.el {name:=d,gR:=[],ji:=none,kids:=[]}))
def gF.qw(t:gF):Bool:=match t.k with
 | .start _=>true
 | .stop _=>true
 |_=>false
def ku(t:gF):M Nat:=λσ=>if σ.fresh&&t.qw then .ok σ.nodes.length (σ.qt (.el {name:=t.name,gR:=t.jh,ji:=none,kids:=[]}) false)else .stuck
def j8(d:O):M Unit:=do
 let j <-Bk d
 jT j
 return ()
def iL(t:gF):M Unit:=do
 let j <-ku t
 jT j
 return ()
def wV:M (jj):=λσ=> .ok σ.last σ.pop
def kN(t:gF):M Unit:=do
 iL t
 let _ <-wV
 return ()
def jK(t:gF):M Unit:=do
 let pl <-ky
 qV pl t.chars
 return ()
def lK(p b:O->Bool):M Bool:=λσ=>if σ.inScope p b then .ok true (σ.CG p)else .ok false σ
def pt:M Unit:=do
 let _ <-lK (gO [oh]) FH
 return ()
def pM(p:O->Bool):M Unit:=uL λσ=>σ.GH p
def th(p:O->Bool):M Unit:=uL λσ=>σ.tA p
def jq(m:Nat):M Unit:=uL λσ=>{σ with mode:=m}
def jR(x:jj):M Unit:=λσ=>if σ.gZ x then .ok () {σ with gq:=σ.gq.erase x} else .stuck
def yR(x y:jj):M Unit:=λσ=>if σ.gZ x&&σ.nk y then .ok () {σ with gq:=ox σ.gq x y} else .stuck
def pK(x y:jj):M Unit:=λσ=>if σ.gZ x&&σ.nk y&&decide (σ.gq.length<4096)then .ok () {σ with gq:=iY σ.gq x y} else .stuck
def AG(x:jj):M Unit:=λσ=>if σ.gZ x then .ok () {σ with gq:=oQ σ.gq x} else .stuck
def kM(x:jj):M Unit:=λσ=>if σ.gZ x then .ok () {σ with act:=σ.act.erase x} else .stuck
def pY(x y:jj):M Unit:=λσ=>if σ.gZ x&&σ.gZ y then .ok () {σ with act:=ox σ.act x y} else .stuck
def od(x y:jj):M Unit:=λσ=>if σ.gZ x&&σ.gZ y&&decide (σ.act.length<4096)then .ok () {σ with act:=iY σ.act x y} else .stuck
def Af(x:jj):M Unit:=λσ=>if σ.gZ x then .ok () {σ with act:=oQ σ.act x} else .stuck
def xx(gG:lu)(s:O):Bool:=gG.any λa=>ld a.1 s
def p6(i:Nat):lu->M Unit
 |[]=>pure ()
 |a::r=>λσ=>match σ.gU i with
  |none=> .stuck
  |some e=>if xx e.gR a.1 then p6 i r σ else if σ.qu<=e.gR.length then .stop 7 σ.gQ else p6 i r (σ.gW i {e with gR:=e.gR++[a]})
def uW(i:Nat)(t:gF):M Unit:=λσ=>if σ.fresh&&oA (σ.nm i)then p6 i t.jh σ else .stuck
def kq(i:Nat):M Nat:=λσ=>match σ.gU i with
 |some e=>if oA e.name then .stuck else .ok σ.nodes.length (σ.add (.el {name:=e.name,gR:=e.gR,ji:=none,kids:=[]}))
 |none=> .stuck
def N.YR(σ:N)(x:jj):Bool:=decide (x=none)||decide (x∈σ.gq)
def N.jt(σ:N):kY->Nat
 |[]=>0
 |x::r=>if σ.YR x then r.length+1 else σ.jt r
def N.Cs(σ:N):Nat:=σ.jt σ.act.reverse
def DG(n:Nat):M Nat:=λσ=>match iC σ.act (n:Int)with
 |some i=> .ok i σ
 |none=> .stuck
def si(old:Nat):M Unit:=λσ=>pY (some old) σ.last σ
def KE:Nat->Nat->M Unit
 |0,_=>pure ()
 |k+1,n=>do
  let old <-DG n
  let j <-kq old
  jT j
  si old
  KE k (n+1)
def mx:M Unit:=λσ=>KE (σ.act.length-σ.Cs) σ.Cs σ
def N.rN(σ:N)(s:O):kY->jj
 |[]=>none
 |none::_=>none
 |some i::r=>if ld (σ.nm i) s then some i else σ.rN s r
def N.oO(σ:N)(s:O):jj:=σ.rN s σ.act.reverse
def al7(a b:wN):Bool:=ld a.name b.name&&(a.gR.length==b.gR.length)&&a.gR.all λx=>b.gR.any λy=>ld x.1 y.1&&ld x.2 y.2
def N.acX(σ:N)(i j:Nat):Bool:=match σ.gU i,σ.gU j with
 |some a,some b=>al7 a b
 |_,_=>false
def N.ue(σ:N)(j:Nat):kY->jj×Nat->jj×Nat
 |[],c=>c
 |none::_,c=>c
 |some i::r,c=>if σ.acX i j then σ.ue j r (some i,c.2+1)else σ.ue j r c
def km(x:jj):M Unit:=λσ=>if σ.sB<=σ.act.length then .stop 6 σ.gQ else if σ.gZ x then .ok () {σ with act:=σ.act++[x]} else .stuck
def Lx(i:Nat):M Unit:=λσ=>
 let c:=σ.ue i σ.act.reverse (none,0)
 if 3<=c.2 then (do
  kM c.1
  km (some i)
  return ():M Unit) σ else (do
  km (some i)
  return ():M Unit) σ
def zo:M Unit:=do
 Af none
 return ()
def JV:M Nat:=λσ=>match σ.last with
 |some i=> .ok i σ
 |none=> .stuck
def mi(t:gF):M Unit:=do
 mx
 iL t
 return ()
def sK(t:gF):M Unit:=do
 mx
 kN t
 return ()
def jb(t:gF):M Unit:=do
 mi t
 let i <-JV
 Lx i
 return ()
def tj(s:O):M Unit:=do
 let _ <-lK (gO [s]) kT
 return ()
def N.tV(σ:N)(f:Nat):kY->jj->jj
 |[],b=>b
 |x::r,b=>if x=some f then b else σ.tV f r (if kT (σ.mu x)then x else b)
def N.pq(σ:N)(f:Nat):jj:=σ.tV f σ.gq.reverse none
def lX(j:Nat):M Unit:=λσ=>match σ.gU j with
 |none=> .stuck
 |some ej=>match ej.ji with
  |none=> .ok () σ
  |some p=>match σ.gU p with
   |none=> .stuck
   |some ep=>if j≠p/\0<=pa ep.kids (Nd.gZ j)/\(pa ep.kids (Nd.gZ j)).toNat<ep.kids.length then .ok () ((σ.gW p {ep with kids:=ep.kids.eraseIdx (pa ep.kids (Nd.gZ j)).toNat}).gW j {ej with ji:=none})else .stuck
def Bz(pl:Nat×Nat)(k:Nd):M Unit:=match k with
 | .el j=>kD pl j
 |k=>vk pl k
def wD(dst:Nat):List Nd->M Unit
 |[]=>pure ()
 |k::r=>do
  let pl <-jg dst
  Bz pl k
  wD dst r
def handOver(b dst:Nat):M Unit:=λσ=>match σ.gU b with
 |none=> .stuck
 |some eb=>if b=dst then .stuck else (wD dst eb.kids>>=λ_ σ'=>match σ'.gU b with
  |some eb'=> .ok () (σ'.gW b {eb' with kids:=[]})
  |none=> .stuck) σ
def GG(n:Nat):M Nat:=λσ=>match iC σ.gq (n:Int)with
 |some i=> .ok i σ
 |none=> .stuck
def mN(f il:Nat):Nat->Nat->Nat->Nat->M (Nat×Nat)
 |0,_,last,mark=>pure (last,mark)
 |n+1,c,last,mark=>do
  let e <-GG n
  if e=f then pure (last,mark)else do
   (if 3<c+1 then kM (some e)else pure ())
   λσ=>if some e∉σ.act then (do
    jR (some e)
    mN f il n (c+1) last mark:M (Nat×Nat)) σ else (do
    let d <-kq e
    yR (some e) (some d)
    pY (some e) (some d)
    lX last
    let pl <-jg d
    kD pl last
    mN f il n (c+1) d (if last=il then d else mark):M (Nat×Nat)) σ
def zm(f il:Nat):M (Nat×Nat):=λσ=>mN f il (posOf σ.gq (some il)).toNat 0 il f σ
def ahead(f:Nat):M Nat:=λσ=>match iC σ.gq (posOf σ.gq (some f)-1)with
 |some i=> .ok i σ
 |none=> .stuck
def vf(f il:Nat):M Unit:=do
 let (last,mark) <-zm f il
 lX last
 let a <-ahead f
 let pl <-placeFor a
 kD pl last
 let d <-kq f
 handOver il d
 let pl <-jg il
 kD pl d
 od (some mark) (some d)
 kM (some f)
 jR (some f)
 pK (some il) (some d)
 return ()
def nu(s:O):M Bool:=λσ=>match σ.oO s with
 |none=>(do tj s;return false:M Bool) σ
 |some f=>if some f∉σ.gq then (do kM (some f);return false:M Bool) σ
  else if !σ.pi f then .ok false σ
  else match σ.pq f with
   |none=>(do AG (some f);kM (some f);return false:M Bool) σ
   |some b=>(do vf f b;return true:M Bool) σ
def tQ(s:O):Nat->M Unit
 |0=>pure ()
 |k+1=>do
  let b <-nu s
  if b then tQ s k else pure ()
def xf(s:O):M Unit:=λσ=>match σ.last with
 |none=> .stuck
 |some i=>if ld (σ.nm i) s&&!decide (some i∈σ.act)then (do let _ <-wV;return ():M Unit) σ else tQ s 8 σ
section
variable (rec:Nat->gF->M Unit)(t:gF)
def jF:M Unit:=λσ=>rec σ.mode t σ
def oR(pl:Nat×Nat)(nd:A8)(k:Nat->Nd):M Unit:=λσ=>vk pl (k σ.nodes.length) (σ.add nd)
def Aq:M (Nat×Nat):=jg 0
def nI:M Unit:=match t.k with
 | .iH n q=>do
  let pl <-Aq
  oR pl (.dt n) .dt
  uL λσ=>{σ with jA:=q||!ld n fN}
  jq 1
  return ()
 |_=>do
  jq 1
  return ()
def kK:M Unit:=do
 uL λσ=>{σ with jA:=true}
 jq 1
 jF rec t
 return ()
def rA(d:O)(own:Bool)(gG:lu):M Nat:=λσ=>if own then (if σ.fresh then .ok σ.nodes.length (σ.qt (.el {name:=d,gR:=gG,ji:=none,kids:=[]}) false)else .stuck)else .ok σ.nodes.length (σ.add (.el {name:=d,gR:=[],ji:=none,kids:=[]}))
def rP(own:Bool)(gG:lu):M Unit:=do
 let e <-rA fN own gG
 let pl <-Aq
 kD pl e
 oH (some e)
 jq 2
 return ()
def xV:M Unit:=do
 rP t.qw t.jh
 return ()
def oF:M Unit:=do
 rP false []
 jF rec t
 return ()
def rQ(own:Bool)(gG:lu):M Unit:=do
 let e <-rA fY own gG
 uL λσ=>{σ with head:=some e}
 jT e
 jq 3
 return ()
def xW:M Unit:=do
 rQ t.qw t.jh
 return ()
def oG:M Unit:=do
 rQ false []
 jF rec t
 return ()
def As:M Unit:=do
 let _ <-wV
 jq 4
 return ()
def mj:M Unit:=do
 As
 jF rec t
 return ()
def uC:M Unit:=do
 iL t
 jq 6
 return ()
def nf:M Unit:=do
 j8 fR
 jq 6
 jF rec t
 return ()
def nC:M Unit:=λσ=>jR σ.head σ
def pushHead:M Unit:=λσ=>oH σ.head σ
def tU:M Unit:=do
 pushHead
 rec 3 t
 nC
 return ()
def FC(of:O)(d:Bool):M Unit:=uL λσ=>{σ with nW:=of,iU:=d}
def ou(d:Bool):M Unit:=do
 iL t
 FC t.name d
 uL λσ=>{σ with kept:=σ.mode}
 jq 5
 return ()
def sJ:M Unit:=do
 ou t false
 return ()
def nR:M Unit:=do
 ou t true
 return ()
def xv:M Unit:=do
 let _ <-wV
 uL λσ=>{σ with mode:=σ.kept}
 return ()
def Ao:M Unit:=do
 xv
 jF rec t
 return ()
def nw:M Unit:=if uY t.chars then pure ()else do
 mx
 jK t
 return ()
def nN:M Unit:=λσ=>match iC σ.gq 0 with
 |some i=>(do uW i t;return ():M Unit) σ
 |none=> .stuck
def p5:M Unit:=λσ=>match iC σ.gq 1 with
 |some i=>if ld (σ.nm i) fR then (do uW i t;return ():M Unit) σ else .ok () σ
 |none=> .ok () σ
def mQ:M Unit:=do
 pt
 iL t
 return ()
def wI:M Unit:=do
 mQ t
 uL λσ=>{σ with behind:=true}
 return ()
def oD:M Unit:=do
 pt
 pM (gO [nD,nE])
 iL t
 return ()
def xJ:M Unit:=do
 pt
 kN t
 return ()
def sG:M Unit:=λσ=>match σ.form with
 |some _=> .ok () σ
 |none=>(do
  mQ t
  uL λσ=>{σ with form:=σ.last}
  return ():M Unit) σ
def pz:M Unit:=do
 let _ <-lK (gO [ik]) iI
 mi t
 return ()
def xm:M Unit:=λσ=>if σ.jA then .ok () σ else pt σ
def rV:M Unit:=do
 xm
 iL t
 jq 7
 return ()
def pO:M Unit:=do
 sJ t
 uL λσ=>{σ with behind:=true}
 return ()
def pE:M Unit:=do
 pM (gO [gL])
 mi t
 return ()
def qy:M Unit:=do
 mi t
 uL λσ=>{σ with mode:=if σ.mode=7\/σ.mode=9\/σ.mode=11\/σ.mode=12\/σ.mode=13 then 15 else 14}
 return ()
def qj:M Unit:=λσ=>match σ.oO uI with
 |none=>(do jb t;return ():M Unit) σ
 |some a=>(do
  xf uI
  kM (some a)
  jR (some a)
  jb t
  return ():M Unit) σ
def um:M Unit:=λσ=>if σ.inScope (gO [iJ]) iI then (do xf iJ;jb t;return ():M Unit) σ else (do jb t;return ():M Unit) σ
def sH:M Unit:=do
 mx
 um t
def pJ:M Unit:=do
 xf t.name
 return ()
def pD:M Unit:=do
 mi t
 km none
 return ()
def sx:M Unit:=do
 let b <-lK (gO [ie]) iI
 if b then zo else pure ()
def xn:M Unit:=λσ=>if σ.inScope (gO [fR]) iI then .ok () {σ with mode:=16} else .ok () σ
def xu:M Unit:=λσ=>if σ.inScope (gO [fR]) iI then (do
  jq 16
  jF rec t
  return ():M Unit) σ else .ok () σ
def yi:M Unit:=do
 let _ <-lK (gO [t.name]) iI
 return ()
def tY:M Unit:=do
 let _ <-lK (gO [nD,nE]) iI
 return ()
def Au:M Unit:=do
 let _ <-lK (gO [lF]) akA
 return ()
def Ov:M Unit:=λσ=>if σ.inScope (gO [oh]) FH then (do pt;return ():M Unit) σ else (do
  j8 oh
  pt
  return ():M Unit) σ
def uQ:M Unit:=do
 mx
 j8 jW
 let _ <-wV
 return ()
def xq:M Unit:=λσ=>match σ.form with
 |none=> .ok () σ
 |some i=>if σ.pi i then (do
   uL λσ=>{σ with form:=none}
   uL λσ=>σ.mn
   jR (some i)
   return ():M Unit) σ else .ok () {σ with form:=none}
def wC:M Unit:=do
 tj t.name
 return ()
def Ii:M Unit:=jq 17
def tR:M Unit:=do
 jq 6
 jF rec t
 return ()
def qC:M Unit:=do
 uL λσ=>{σ with im:=true}
 rec 6 t
 uL λσ=>{σ with im:=false}
 return ()
def nM:M Unit:=λσ=>if σ.current Cw then (do
  uL λσ=>{σ with kept:=σ.mode}
  jq 8
  jF rec t
  return ():M Unit) σ else (do qC rec t;return ():M Unit) σ
def pA:M Unit:=do
 th (gO [fQ])
 km none
 iL t
 jq 9
 return ()
def lA:M Unit:=λσ=>match σ.form with
 |some _=> .ok () σ
 |none=>(do
  iL t
  let x <-wV
  uL λσ=>{σ with form:=x}
  return ():M Unit) σ
def ZA(s:O):O:=⟨s.data.map λb=>if 65<=b.toNat/\b.toNat<=90 then b+32 else b⟩
def wg:lu->Bool
 |[]=>false
 |a::r=>if ld a.1 oW then ld (ZA a.2) mY else wg r
def jN:M Unit:=if wg t.jh then (do kN t;return ())else (do qC rec t;return ())
def oq:M Unit:=match t.k with
 | .kE s=>if uY s then pure ()else λσ=>if σ.waiting.length<4096 then .ok () {σ with waiting:=σ.waiting++[(t.a,t.b,s)]} else .stuck
 |_=>stuck
def ol(x:Nat×Nat×O):gF:={a:=x.1,b:=x.2.1,k:=.kE x.2.2}
def uw:List (Nat×Nat×O)->M Unit
 |[]=>pure ()
 |x::r=>do
  jK (ol x)
  uw r
def uv:List (Nat×Nat×O)->M Unit
 |[]=>pure ()
 |x::r=>do
  qC rec (ol x)
  uv r
def oM:M Unit:=λσ=>if σ.waiting.any λx=>!mJ x.2.2 then uv rec σ.waiting σ else uw σ.waiting σ
def rD(ks:List O)(m:Nat):M Bool:=do
 let b <-lK (gO ks) Cv
 if b then (do jq m;return true)else return false
def lL(ks:List O)(m:Nat):M Bool:=do
 let b <-rD ks m
 if b then (do zo;return true)else return false
def gJ(s:O):Nat:=if gO [ig,ij] s then 13 else if gO [gN] s then 12 else if gO [fW,fX,fV] s then 11 else if gO [fZ] s then 9 else if gO [fS] s then 10 else if gO [fQ] s then 7 else 6
def rB(σ:N):kY->Nat
 |[]=>6
 |x::r=>if gJ (σ.mu x)=6 then rB σ r else gJ (σ.mu x)
def yq:M Unit:=uL λσ=>{σ with mode:=rB σ σ.gq.reverse}
def uR:M Bool:=do
 let b <-lK (gO [fQ]) Cv
 if b then (do yq;return true)else return false
def tX:M Bool:=lL [fZ] 7
def lc:M Bool:=λσ=>if σ.current (gO [fS])then (do
  let _ <-wV
  jq 7
  return true:M Bool) σ else .ok false σ
def qB:M Bool:=rD [fW,fV,fX] 7
def Ej:M Bool:=rD [gN] 11
def endCell:M Bool:=lL [ig,ij] 12
def rq:M Unit:=do
 th (gO [gN])
 iL t
 jq 13
 km none
 return ()
def oz:M Unit:=if uY t.chars then pure ()else do
 jK t
 return ()
def kg:M Unit:=do
 pM (gO [gL])
 iL t
 return ()
def ju:M Unit:=do
 pM (gO [gL])
 pM (gO [gp])
 iL t
 return ()
def lW:M Unit:=do
 ju t
 let _ <-wV
 return ()
def jf:M Unit:=λσ=>if σ.current (gO [gL])then (match iC σ.gq (posOf σ.gq σ.last-1)with
  |none=> .stuck
  |some i=>if ld (σ.nm i) gp then (do
    let _ <-wV
    pM (gO [gp])
    return ():M Unit) σ else (do pM (gO [gp]);return ():M Unit) σ)
 else (do pM (gO [gp]);return ():M Unit) σ
def mF:M Unit:=do
 pM (gO [gL])
 return ()
def rh:M Bool:=do
 let b <-lK (gO [iX]) (λs=>!(gO [gL] s||gO [gp] s))
 if b then (do yq;return true)else return false
end
theorem ry{a b:O}(h:ld a b=true):a=b:=by
 grind[ByteArray.ext,ByteArray.toList_eq,Array.toList_inj,ld]
def iO:List Nd->List Nat
 |[]=>[]
 | .el j::r=>j::iO r
 | .tx _::r=>iO r
 | .cm _::r=>iO r
 | .dt _::r=>iO r
theorem sv(a b:List Nd):iO (a++b)=iO a++iO b:=by
 induction a with
 |nil=>rfl
 |cons k r ih=>cases k<;>simp[iO,ih]
def xR:∀{ks:List Nd},j∈iO ks↔Nd.el j∈ks
 |[]=>by simp[iO]
 |k::r=>by cases k<;>simp[iO,xR]
theorem Dg(ks:List Nd)(n:Nat)(j:Nat):(iO (ins ks n (.el j))).Perm (j::iO ks):=by
 grind[sv,List.take_append_drop,ins,iO]
theorem Yk(ks:List Nd)(n:Nat)(k:Nd)(d:∀j,k≠ .el j):iO (ins ks n k)=iO ks:=by
 unfold ins;have h:iO ks=iO (ks.take n)++iO (ks.drop n):=by rw[<-sv,QV]
 rw[sv,sv,h];cases k with
 |el j=>grind
 |tx j=>simp[iO]
 |cm j=>simp[iO]
 |dt j=>simp[iO]
theorem aaF(ks:List Nd)(n:Nat)(k:Nd)(d:n<=ks.length):(ins ks n k).length=ks.length+1:=by
 grind[ins]
theorem Dm{k x:Nd}:x∈ins ks n k↔x=k\/x∈ks:=by
 grind[List.take_append_drop,ins]
def aO:A8->Nat
 | .el e=>e.kids.length
 | .tx s=>s.size
 | .cm _=>0
 | .dt _=>0
def wt(σ:N):Nat:=(σ.nodes.map aO).sum
theorem Tg:∀(l:List Nat)(i x y:Nat),l[i]?=some x->(l.set i y).sum+x=l.sum+y
 |[],i,x,y,h=>by grind
 |a::l,0,x,y,h=>by grind
 |a::l,i+1,x,y,h=>by
  have:=Tg l i x y h;grind
theorem ahp{n m:A8}(h:σ.nodes[i]?=some n):((σ.nodes.set i m).map aO).sum+aO n=wt σ+aO m:=by
 rw[List.map_set];exact Tg _ _ _ _ (by grind)
theorem tu{e':wN}(h:σ.gU i=some e):wt (σ.gW i e')+e.kids.length=wt σ+e'.kids.length:=ahp (N.jp h)
theorem ahn(σ:N)(nd:A8):wt (σ.add nd)=wt σ+aO nd:=by grind[wt,N.add]
theorem Hk(σ:N)(nd:A8)(b:Bool):wt (σ.qt nd b)=wt σ+aO nd:=by grind[wt,N.qt]
theorem ag7:∀(l:List Nat)(i x:Nat),l[i]?=some x->x<=l.sum
 |[],i,x,h=>by grind
 |a::l,0,x,h=>by grind
 |a::l,i+1,x,h=>by
  have:=ag7 l i x h;grind
theorem aho{n:A8}(h:σ.nodes[i]?=some n):aO n<=wt σ:=ag7 _ i _ (by grind)
def Lb(h:σ.gU i=some e):e.kids.length<=wt σ:=aho (N.jp h)
structure cX(σ:N):Prop where
 up:∀i e p,σ.gU i=some e->e.ji=some p->∃ep,σ.gU p=some ep/\i∈iO ep.kids
 dn:∀i e j,σ.gU i=some e->j∈iO e.kids->∃ej,σ.gU j=some ej/\ej.ji=some i
 nd:∀i e,σ.gU i=some e->(iO e.kids).Nodup
 kd:∀i e,σ.gU i=some e->∀k∈e.kids,σ.jr k=true
def rk(r:Nat->Nat):jj->Nat
 |some i=>r i
 |none=>0
structure ahN(r:Nat->Nat)(σ:N):Prop where
 ji:∀i e p,σ.gU i=some e->e.ji=some p->r p<r i
 gq:σ.gq.Pairwise λx y=>rk r x<rk r y
 hd:∀d h,σ.head=some d->σ.gq.head?=some (some h)->r h<r d
def sN(s:O):Bool:=gO [uI,(⟨#[98]⟩:O),(⟨#[105]⟩:O),iJ] s
def iV(σ:N)(i:Nat)(s:O):Prop:=∃e,σ.gU i=some e/\e.name=s
structure jJ(r:Nat->Nat)(σ:N):Prop where
 pc:cX σ
 uK:ahN r σ
 gq:∀x∈σ.gq,σ.nk x=true
 act:∀i,some i∈σ.act->∃e,σ.gU i=some e/\sN e.name=true
 head:∀d,σ.head=some d->iV σ d fY
 form:∀d,σ.form=some d->iV σ d iQ
 Pw:∀x rest,σ.gq=x::rest->∃h,x=some h/\iV σ h fN
 yK:σ.gq.length<=σ.qZ
 Br:σ.act.length<=σ.sB
 TM:σ.qZ<=64
 XH:σ.sB<=32
 wA:(σ.gU 0).isSome=true
def nU(σ:N):Prop:=∃r,jJ r σ
structure Fx(σ σ':N):Prop where
 mode:σ'.mode=σ.mode
 kept:σ'.kept=σ.kept
 head:σ'.head=σ.head
 form:σ'.form=σ.form
 waiting:σ'.waiting=σ.waiting
 Mi:σ'.im=σ.im
 jA:σ'.jA=σ.jA
 gQ:σ'.gQ=σ.gQ
 qZ:σ'.qZ=σ.qZ
 sB:σ'.sB=σ.sB
 qu:σ'.qu=σ.qu
 nm:∀i s,iV σ i s->iV σ' i s
 Pw:σ.gq≠[]->σ'.gq.head?=σ.gq.head?
theorem Fx.refl(σ:N):Fx σ σ:=⟨rfl,rfl,rfl,rfl,rfl,rfl,rfl,rfl,rfl,rfl,rfl,by grind,λ_=>rfl⟩
theorem Fx.ne(h:Fx σ σ')(d:σ.gq≠[]):σ'.gq≠[]:=by
 have:=h.Pw d;cases ho:σ.gq<;>grind
theorem Fx.trans{a b c:N}(h:Fx a b)(k:Fx b c):Fx a c:=
 ⟨k.mode.trans h.mode,k.kept.trans h.kept,k.head.trans h.head,k.form.trans h.form,k.waiting.trans h.waiting,k.Mi.trans h.Mi,k.jA.trans h.jA,k.gQ.trans h.gQ,k.qZ.trans h.qZ,k.sB.trans h.sB,k.qu.trans h.qu,λi s l=>k.nm i s (h.nm i s l),λd=>(k.Pw (h.ne d)).trans (h.Pw d)⟩
def jH{α:Type}(c:Nat)(σ:N)(r:qQ α)(Q:α->N->Prop):Prop:=match r with
 | .ok a σ'=>nU σ'/\Fx σ σ'/\wt σ'<=wt σ+c/\Q a σ'
 | .stop _ p=>p=σ.gQ
 | .stuck=>False
theorem jH.mono{α:Type}{c c':Nat}{r:qQ α}{Q d:α->N->Prop}(h:jH c σ r Q)(u:c<=c')(l:∀a σ',nU σ'->Fx σ σ'->Q a σ'->d a σ'):jH c' σ r d:=by
 cases r with
 |ok a σ'=>grind[jH]
 |stop e p=>exact h
 |stuck=>exact h
theorem jH.bind{α β:Type}{c c1 c2:Nat}{m:M α}{k:α->M β}{Q:α->N->Prop}{l:β->N->Prop}(h:jH c1 σ (m σ) Q)(u:∀a σ',nU σ'->Fx σ σ'->wt σ'<=wt σ+c1->Q a σ'->jH c2 σ' (k a σ') l)(A:c1+c2<=c):jH c σ ((m>>=k) σ) l:=by
 rw[M.gw];cases hm:m σ with
 |ok a σ'=>
  rw[hm]at h;have⟨h1,h2,h3,h4⟩:=h;have d:=u a σ' h1 h2 h3 h4;cases hk2:k a σ' with
  |ok b σ2=>
   rw[hk2]at d;dsimp only;rw[hk2];exact⟨d.1,h2.trans d.2.1,by have:=d.2.2.1;omega,d.2.2.2⟩
  |stop e p=>
   rw[hk2]at d;dsimp only;rw[hk2];exact Tu d h2.gQ
  |stuck=>grind[jH]
 |stop e p=>rwa [hm]at h
 |stuck=>grind[jH]
theorem jH.ret{α:Type}(d:nU σ){Q:α->N->Prop}{a:α}(h:Q a σ)(c:Nat:=0):jH c σ ((Pure.pure a:M α) σ) Q:=⟨d,Fx.refl _,by omega,h⟩
theorem nU.wA(h:nU σ):(σ.gU 0).isSome=true:=by have⟨r,h⟩:=h;exact h.wA
theorem iV.lt(h:iV σ i s):i<σ.nodes.length:=by have⟨e,he,_⟩:=h;exact N.io he
theorem lD(h:σ.nk x=true):∃i e,x=some i/\σ.gU i=some e:=by
 cases x with
 |none=>cases h
 |some i=>have⟨e,he⟩:=Option.isSome_iff_exists.1 h;grind
theorem jJ.sub(h:jJ r σ)(hs:ys.Sublist σ.gq)(l:ys.head?=σ.gq.head?):jJ r {σ with gq:=ys}/\Fx σ {σ with gq:=ys}:=by
 refine⟨⟨⟨h.pc.up,h.pc.dn,h.pc.nd,h.pc.kd⟩,⟨h.uK.ji,h.uK.gq.sublist hs,?_⟩,λx u=>h.gq x (hs.subset u),h.act,h.head,h.form,?_,jZ hs.length_le h.yK,h.Br,h.TM,h.XH,h.wA⟩,⟨rfl,rfl,rfl,rfl,rfl,rfl,rfl,rfl,rfl,rfl,rfl,λ_ _ h=>h,λ_=>l⟩⟩;intro d x B u;exact h.uK.hd d x B (by grind);intro x rest u;have A:ys=x::rest:=u;rw[A]at l;cases ho:σ.gq with
 |nil=>grind
 |cons y r2=>
  rw[ho]at l;have e:x=y:=by simpa using l
  subst e;exact h.Pw x r2 ho
def yL(r:Nat->Nat)(n x:Nat):Nat->Nat:=λi=>if i=n then x else r i
def I9(r:Nat->Nat)(n x:Nat):yL r n x n=x:=by simp[yL]
theorem Hg{x:Nat}(h:i≠n):yL r n x i=r i:=by simp[yL,h]
def cX.aml(h:cX σ){p:Nat}(d:σ.gU i=some e)(l:e.ji=some p):p<σ.nodes.length:=by
 have⟨ep,h1,_⟩:=h.up i e p d l;exact N.io h1
def jJ.II(h:jJ r σ)(d:some i∈σ.gq):i<σ.nodes.length:=by
 have⟨j,e,hj,he⟩:=lD (h.gq _ d);cases hj;exact N.io he
theorem ahN.congr{l:Nat->Nat}(h:ahN r σ)(B:∀i e p,σ.gU i=some e->e.ji=some p->l p<l i)(A:∀i,some i∈σ.gq->l i=r i)(u:∀d h,σ.head=some d->σ.gq.head?=some (some h)->l h<l d):ahN l σ:=by
 refine⟨B,?_,u⟩;refine h.gq.imp_of_mem ?_;intro x y I K D;have H:∀z∈σ.gq,rk l z=rk r z:=by
  intro z F;cases z with
  |none=>rfl
  |some i=>exact A i F
 grind
theorem jJ.new(h:jJ r σ)(A:O)(gG:lu)(b:Bool)(x:Nat):jJ (yL r σ.nodes.length x) (σ.qt (.el {name:=A,gR:=gG,ji:=none,kids:=[]}) b)/\Fx σ (σ.qt (.el {name:=A,gR:=gG,ji:=none,kids:=[]}) b):=by
 obtain⟨nd,a0⟩:∃nd:A8,nd=.el {name:=A,gR:=gG,ji:=none,kids:=[]}:=⟨_,rfl⟩;rw[<-a0];have a2:∀i,(σ.qt nd b).gU i=(σ.add nd).gU i:=λ_=>rfl;have R:∀i e,σ.gU i=some e->(σ.qt nd b).gU i=some e:=λi e K=>by grind[N.gU,N.qt]
 have l:∀i e,(σ.qt nd b).gU i=some e->σ.gU i=some e\/(i=σ.nodes.length/\e={name:=A,gR:=gG,ji:=none,kids:=[]}):=by
  intro i e K;rcases N.ze (nd:=nd) K with⟨_,u⟩|⟨u,W⟩;grind;grind
 have F:∀i s,iV σ i s->iV (σ.qt nd b) i s:=λi s ⟨e,K,hn⟩=>⟨e,R i e K,hn⟩;have D:∀i,i<σ.nodes.length->yL r σ.nodes.length x i=r i:=λi B=>Hg (by omega);refine⟨⟨⟨?_,?_,?_,?_⟩,⟨?_,?_,?_⟩,λy H=>N.Qd (h.gq y H),λi B=>?_,λd I=>F _ _ (h.head d I),λd I=>F _ _ (h.form d I),λy rest H=>?_,h.yK,h.Br,h.TM,h.XH,?_⟩,⟨rfl,rfl,rfl,rfl,rfl,rfl,rfl,rfl,rfl,rfl,rfl,F,λ_=>rfl⟩⟩;intro i e p B U;rcases l i e B with u|⟨_,u⟩;have⟨ep,W,h3⟩:=h.pc.up i e p u U;grind;grind;intro i e j B X;rcases l i e B with u|⟨_,u⟩;have⟨ej,W,h3⟩:=h.pc.dn i e j u X;grind;rw[u]at X;simp[iO]at X;intro i e B;rcases l i e B with u|⟨_,u⟩;exact h.pc.nd i e u;grind[iO];intro i e B k hk;rcases l i e B with u|⟨_,u⟩;exact N.Iy (h.pc.kd i e u k hk);grind;intro i e p B U;rcases l i e B with u|⟨_,u⟩;rw[D p (h.pc.aml u U),D i (N.io u)];exact h.uK.ji i e p u U;grind;refine h.uK.gq.imp_of_mem ?_;intro y z H hz a3;have hr:∀z∈σ.gq,rk (yL r σ.nodes.length x) z=rk r z:=by
  intro z hz;cases z with
  |none=>rfl
  |some i=>exact D i (h.II hz)
 grind;intro d y I H;have a1:some y∈σ.gq:=List.mem_of_mem_head? H;rw[D y (h.II a1),D d (h.head d I).lt];exact h.uK.hd d y I H;have⟨e,K,hf⟩:=h.act i B;grind;have⟨z,u,W⟩:=h.Pw y rest H;grind;have⟨e,K⟩:=Option.isSome_iff_exists.1 h.wA;grind
theorem BQ(r:Nat->Nat):∀n,∃B,∀i,i<n->r i<=B
 |0=>⟨0,λi d=>by omega⟩
 |n+1=>by
  have⟨B,hB⟩:=BQ r n;refine⟨B+r n,λi d=>?_⟩;grind
theorem jJ.raise(h:jJ r σ)(I:σ.gU j=some e)(K:iO e.kids=[])(R:some j∉σ.gq){x:Nat}(U:r j<=x):jJ (yL r j x) σ:=by
 refine {h with uK:=h.uK.congr ?_ ?_ ?_};intro i ei p B D;have l:p≠j:=by
  rintro rfl;have⟨ep,h1,h2⟩:=h.pc.up i ei p B D;rw[I]at h1;cases h1;rw[K]at h2;cases h2
 rw[Hg l];have:=h.uK.ji i ei p B D;grind[yL];grind[yL];intro d y H F;have u:some y∈σ.gq:=List.mem_of_mem_head? F;have A:y≠j:=by rintro rfl;exact R u
 rw[Hg A];have:=h.uK.hd d y H F;grind[yL]
def Dy(σ:N)(pl:Nat×Nat):Prop:=∃e,σ.gU pl.1=some e/\pl.2<=e.kids.length
theorem jJ.put(h:jJ r σ)(R:Dy σ pl)(K:σ.gU j=some ej)(U:ej.ji=none)(hr:r pl.1<r j)(hw:wt σ<1000000):
  ∃σ',kD pl j σ=.ok () σ'/\jJ r σ'/\Fx σ σ'/\wt σ'=wt σ+1/\σ'.gq=σ.gq/\σ'.act=σ.act/\σ'.fresh=σ.fresh/\σ'.nodes.length=σ.nodes.length/\(∀i e,σ.gU i=some e->∃B,σ'.gU i=some B/\B.name=e.name/\B.gR=e.gR/\(i≠pl.1->B.kids=e.kids)/\(i≠j->B.ji=e.ji))/\(∀B,σ'.gU j=some B->B.ji=some pl.1):=by
 have⟨ei,hi,hn⟩:=R;have H:j≠pl.1:=by rintro rfl;omega
 have hl:=Lb hi;have a4:=N.io hi;have a9:=N.io K;obtain⟨σ',l⟩:∃σ',σ'=(σ.gW pl.1 {ei with kids:=ins ei.kids pl.2 (.el j)}).gW j {ej with ji:=some pl.1}:=⟨_,rfl⟩;have hq:kD pl j σ=.ok () σ':=by
  unfold kD;rw[hi,K];dsimp only;rw[sL ⟨H,hn,by omega⟩,l]
 have g1:σ'.gU pl.1=some {ei with kids:=ins ei.kids pl.2 (.el j)}:=by rw[l,N.iK (yZ H),N.jc a4]
 have g2:σ'.gU j=some {ej with ji:=some pl.1}:=by rw[l,N.jc (by grind[N.gW])]
 have g3:∀i,i≠pl.1->i≠j->σ'.gU i=σ.gU i:=λi u F=>by rw[l,N.iK F,N.iK u]
 have X:(σ.gU pl.1).isSome=true:=by rw[hi];rfl
 have a0:((σ.gW pl.1 {ei with kids:=ins ei.kids pl.2 (.el j)}).gU j).isSome=true:=by rw[N.iK H,K];rfl
 have gk:∀k,σ'.jr k=σ.jr k:=λk=>by rw[l,N.mr a0,N.mr X]
 have ge:∀x,σ'.nk x=σ.nk x:=λx=>by rw[l,N.zH a0,N.zH X]
 have I:∀i e,σ.gU i=some e->∃B,σ'.gU i=some B/\B.name=e.name/\B.gR=e.gR/\(i≠pl.1->B.kids=e.kids)/\(i≠j->B.ji=e.ji):=by
  intro i e W;by_cases u:i=pl.1;grind;grind
 have A:∀i B,σ'.gU i=some B->(i=pl.1/\B={ei with kids:=ins ei.kids pl.2 (.el j)})\/(i=j/\B={ej with ji:=some pl.1})\/(i≠pl.1/\i≠j/\σ.gU i=some B):=by
  intro i B W;by_cases u:i=pl.1;grind;grind
 have a1:∀i s,iV σ i s->iV σ' i s:=λi s ⟨e,W,hn⟩=>by
  grind[iV]
 have a5:j∉iO ei.kids:=by
  intro hm;have⟨ej2,u,F⟩:=h.pc.dn _ _ _ hi hm;rw[K]at u;cases u;rw[U]at F;cases F
 have a6:∀i e,σ.gU i=some e->∀B,σ'.gU i=some B->∀x,x∈iO e.kids->x∈iO B.kids:=by
  intro i e W B a2 x hx;rcases A i B a2 with⟨u,rfl⟩|⟨u,rfl⟩|⟨_,_,u⟩;subst u;rw[hi]at W;cases W;exact(Dg ei.kids pl.2 j).mem_iff.2 (abv _ hx);grind;grind
 refine⟨σ',hq,⟨⟨?_,?_,?_,?_⟩,⟨?_,?_,?_⟩,λx hx=>?_,λi D=>?_,λd hd=>a1 _ _ (h.head d ?_),λd hd=>a1 _ _ (h.form d ?_),λy rest hy=>?_,?_,?_,?_,?_,?_⟩,?_,?_,?_,?_,?_,?_,I,?_⟩;intro i e p D R;rcases A i e D with⟨u,rfl⟩|⟨u,rfl⟩|⟨_,_,u⟩;rw[u]at *;have⟨ep,F,h3⟩:=h.pc.up _ _ p hi R;grind;cases R;exact⟨_,g1,by rw[u];exact(Dg ei.kids pl.2 j).mem_iff.2 (N1 ..)⟩;have⟨ep,F,h3⟩:=h.pc.up _ _ p u R;grind
 .intro i e x D hx;have old:∀e0,σ.gU i=some e0->x∈iO e0.kids->∃ex,σ'.gU x=some ex/\ex.ji=some i:=by
   intro e0 a3 a7;have⟨ex,F,h3⟩:=h.pc.dn i e0 x a3 a7;have a8:x≠j:=by rintro rfl;rw[K]at F;cases F;rw[U]at h3;cases h3
   have⟨ex',h4,_,_,_,h5⟩:=I x ex F;exact⟨ex',h4,(h5 a8).trans h3⟩
  rcases A i e D with⟨u,rfl⟩|⟨u,rfl⟩|⟨_,_,u⟩
  .rw[u]at old|-;rcases List.mem_cons.1 ((Dg ei.kids pl.2 j).mem_iff.1 hx)with F|F
   all_goals grind
  grind;grind
 intro i e D;rcases A i e D with⟨u,rfl⟩|⟨u,rfl⟩|⟨_,_,u⟩;exact(Dg ei.kids pl.2 j).nodup_iff.2 (List.nodup_cons.2 ⟨a5,h.pc.nd _ _ hi⟩);show(iO ej.kids).Nodup;exact h.pc.nd _ _ K;exact h.pc.nd _ _ u;intro i e D k hk;rw[gk];rcases A i e D with⟨u,rfl⟩|⟨u,rfl⟩|⟨_,_,u⟩;rcases Dm.1 hk with rfl|hk;grind[N.jr];exact h.pc.kd _ _ hi k hk;exact h.pc.kd _ _ K k hk;exact h.pc.kd _ _ u k hk;intro i e p D R;rcases A i e D with⟨u,rfl⟩|⟨u,rfl⟩|⟨_,_,u⟩;rw[u];exact h.uK.ji _ _ p hi R;grind;exact h.uK.ji _ _ p u R;rw[l];exact h.uK.gq;rw[l];exact h.uK.hd;rw[ge];exact h.gq x (by rwa [l]at hx);have⟨e,W,hf⟩:=h.act i (by rw[l]at D;exact D);grind
 rwa [l]at hd
 rwa [l]at hd
 have⟨z,u,F⟩:=h.Pw y rest (by rwa [l]at hy);grind;rw[l];exact h.yK;rw[l];exact h.Br;rw[l];exact h.TM;rw[l];exact h.XH;have⟨e,W⟩:=Option.isSome_iff_exists.1 h.wA;grind;rw[l];exact⟨rfl,rfl,rfl,rfl,rfl,rfl,rfl,rfl,rfl,rfl,rfl,by grind,λ_=>rfl⟩;have w1:=tu (e':={ei with kids:=ins ei.kids pl.2 (.el j)}) hi;have w2:=tu (σ:=σ.gW pl.1 {ei with kids:=ins ei.kids pl.2 (.el j)}) (e':={ej with ji:=some pl.1}) (by rw[N.iK H];exact K);have w3:=aaF ei.kids pl.2 (.el j) hn;grind;rw[l];rfl;rw[l];rfl;rw[l];rfl;rw[l,N.oK,N.oK];grind
theorem jJ.alike(h:jJ r σ)(hf:∀i e,σ.gU i=some e->∃d,σ'.gU i=some d/\d.name=e.name/\d.ji=e.ji/\iO d.kids=iO e.kids)(hb:∀i d,σ'.gU i=some d->∃e,σ.gU i=some e)(hk:∀i d,σ'.gU i=some d->∀k∈d.kids,σ'.jr k=true)
  (A:σ'.gq=σ.gq:=by rfl) (ha:σ'.act=σ.act:=by rfl) (D:σ'.head=σ.head:=by rfl) (H:σ'.form=σ.form:=by rfl) (I:σ'.qZ=σ.qZ:=by rfl) (K:σ'.sB=σ.sB:=by rfl) (R:σ'.mode=σ.mode:=by rfl) (U:σ'.kept=σ.kept:=by rfl) (W:σ'.waiting=σ.waiting:=by rfl) (X:σ'.im=σ.im:=by rfl) (h9:σ'.jA=σ.jA:=by rfl) (hA:σ'.gQ=σ.gQ:=by rfl) (hL:σ'.qu=σ.qu:=by rfl):jJ r σ'/\Fx σ σ':=by
 have B:∀i s,iV σ i s->iV σ' i s:=λi s ⟨e,F,hn⟩=>by
  grind[iV]
 have l:∀i d,σ'.gU i=some d->∃e,σ.gU i=some e/\d.name=e.name/\d.ji=e.ji/\iO d.kids=iO e.kids:=by grind
 refine⟨⟨⟨?_,?_,?_,hk⟩,⟨?_,?_,?_⟩,?_,?_,?_,?_,?_,?_,?_,?_,?_,?_⟩,⟨R,U,D,H,W,X,h9,hA,I,K,hL,B,λ_=>by rw[A]⟩⟩;intro i e p u hp;have⟨e0,g1,_,g3,_⟩:=l i e u;have⟨ep,g4,g5⟩:=h.pc.up i e0 p g1 (by grind);grind;intro i e j u hj;have⟨e0,g1,_,_,g4⟩:=l i e u;have⟨ej,g5,g6⟩:=h.pc.dn i e0 j g1 (by grind);grind;intro i e u;have⟨e0,g1,_,_,g4⟩:=l i e u;rw[g4];exact h.pc.nd i e0 g1;intro i e p u hp;have⟨e0,g1,_,g3,_⟩:=l i e u;exact h.uK.ji i e0 p g1 (by grind);rw[A];exact h.uK.gq;rw[D,A];exact h.uK.hd;rw[A];intro x hx;obtain⟨i,e,rfl,F⟩:=lD (h.gq x hx);grind[N.nk];grind[act];grind[head];grind[form];grind[Pw];grind[yK];grind[Br];grind[TM];grind[XH];have⟨e,F⟩:=Option.isSome_iff_exists.1 h.wA;grind
theorem jJ.wQ(h:jJ r σ)(nd:A8)(B:∀e,nd≠ .el e):jJ r (σ.add nd)/\Fx σ (σ.add nd):=by
 refine h.alike (λi e D=>⟨e,by grind[N.gU,N.add],rfl,rfl,rfl⟩) ?_ ?_;grind[N.gU,N.add];intro i u d k A;rcases N.ze (nd:=nd) d with⟨_,l⟩|⟨_,l⟩;exact N.Iy (h.pc.kd i u l k A);grind
theorem jJ.ans(h:jJ r σ){k:Nd}(D:σ.gU i=some ei)(H:∀j,k≠ .el j)(K:σ.jr k=true)(I:n<=ei.kids.length):jJ r (σ.gW i {ei with kids:=ins ei.kids n k})/\Fx σ (σ.gW i {ei with kids:=ins ei.kids n k})/\wt (σ.gW i {ei with kids:=ins ei.kids n k})=wt σ+1:=by
 have u:∀j d,(σ.gW i {ei with kids:=ins ei.kids n k}).gU j=some d->(j=i/\d={ei with kids:=ins ei.kids n k})\/(j≠i/\σ.gU j=some d):=by
  intro j d l;by_cases F:j=i;grind[N.jc,N.io];grind[N.iK]
 have A:=h.alike (σ':=σ.gW i {ei with kids:=ins ei.kids n k}) (λj e B=>by
  grind[N.jc,N.io,Yk,N.iK]) (λj d l=>by
  grind) (λj d l x R=>by
  grind[N.mr,Dm,cX.kd,pc])
 grind[tu,aaF]
theorem jJ.np(h:jJ r σ)(l:σ.nodes[t]?=some (.tx old)):jJ r (σ.np t s)/\Fx σ (σ.np t s)/\wt (σ.np t s)+old.size=wt σ+s.size:=by
 have A:=h.alike (σ':=σ.np t s) (λi e D=>⟨e,by grind[N.gU,N.np],rfl,rfl,rfl⟩) (λi u d=>⟨u,by rw[N.tr l]at d;exact d⟩) (λi u d k B=>by
  rw[N.Kc l];rw[N.tr l]at d;exact h.pc.kd i u d k B)
 exact⟨A.1,A.2,ahp (m:=.tx s) l⟩
structure Rest(σ σ':N):Prop where
 gq:σ'.gq=σ.gq
 act:σ'.act=σ.act
 fresh:σ'.fresh=σ.fresh
 behind:σ'.behind=σ.behind
 nW:σ'.nW=σ.nW
 iU:σ'.iU=σ.iU
theorem VU(h:nU σ)(F:Dy σ pl)(s:O)(X:wt σ+s.size+1<=1000000):jH (s.size+1) σ (qV pl s σ) (λ_ σ'=>Rest σ σ'):=by
 have⟨r,h⟩:=h;have⟨ei,hi,hn⟩:=F;have U:=Lb hi;unfold qV;rw[hi];dsimp only;rw[sL ⟨hn,by omega⟩];have H:jH (s.size+1) σ (.ok () ((σ.add (.tx s)).gW pl.1 {ei with kids:=ins ei.kids pl.2 (.tx σ.nodes.length)}):qQ Unit) (λ_ σ'=>Rest σ σ'):=by
  have⟨a1,a2⟩:=h.wQ (.tx s) (λe A=>by cases A);have u:(σ.add (.tx s)).gU pl.1=some ei:=by rw[N.tW (N.io hi)];exact hi
  have l:(σ.add (.tx s)).jr (.tx σ.nodes.length)=true:=by simp[N.jr,N.add]
  have⟨b1,b2,b3⟩:=a1.ans (n:=pl.2) u (λj B=>by cases B) l hn;have w1:=ahn σ (.tx s);have w2:aO (.tx s)=s.size:=rfl;exact⟨⟨r,b1⟩,a2.trans b2,by omega,⟨rfl,rfl,rfl,rfl,rfl,rfl⟩⟩
 split;rename_i t W;have D:Nd.tx t∈ei.kids:=by
  by_cases I:pl.2=0;grind;grind
 have d:=h.pc.kd _ _ hi _ D;unfold N.jr at d;dsimp only at d;cases hx:σ.nodes[t]? with
 |none=>grind
 |some nd=>
  rw[hx]at d;cases nd with
  |tx old=>
   have K:aO (.tx old)<=wt σ:=aho hx;have R:aO (.tx old)=old.size:=rfl;dsimp only;rw[sL (by omega)];have⟨b1,b2,b3⟩:=h.np (s:=old++s) hx;have:(old++s).size=old.size+s.size:=ByteArray.size_append;exact⟨⟨r,b1⟩,b2,by omega,⟨rfl,rfl,rfl,rfl,rfl,rfl⟩⟩
  |el e=>cases d
  |cm s=>cases d
  |dt s=>cases d
 omega
theorem IU(h:nU σ)(B:Dy σ pl)(nd:A8)(k:Nat->Nd)(l:(∃s,nd=.cm s/\k=.cm)\/(∃s,nd=.dt s/\k=.dt))(H:wt σ+1<=1000000):jH 1 σ (oR pl nd k σ) (λ_ σ'=>Rest σ σ'):=by
 have⟨r,h⟩:=h;have⟨ei,hi,hn⟩:=B;have F:=Lb hi;have A:∀i j,k i≠ .el j:=by rcases l with⟨s,_,h⟩|⟨s,_,h⟩<;>(rw[h];simp)
 have D:aO nd=0:=by rcases l with⟨s,h,_⟩|⟨s,h,_⟩<;>(rw[h];rfl)
 have⟨a1,a2⟩:=h.wQ nd (by grind);have u:(σ.add nd).gU pl.1=some ei:=by rw[N.tW (N.io hi)];exact hi
 have d:(σ.add nd).jr (k σ.nodes.length)=true:=by
  rcases l with⟨s,rfl,rfl⟩|⟨s,rfl,rfl⟩<;>simp[N.jr,N.add]
 have⟨b1,b2,b3⟩:=a1.ans u (A _) d hn;have I:=ahn σ nd;unfold oR vk;rw[u];dsimp only;rw[sL ⟨d,hn,by omega⟩];exact⟨⟨r,b1⟩,a2.trans b2,by omega,⟨rfl,rfl,rfl,rfl,rfl,rfl⟩⟩
theorem aaZ(h:i∈iO ks):0<=pa ks (Nd.gZ i)/\(pa ks (Nd.gZ i)).toNat<ks.length:=by
 have d:ks.findIdx (Nd.gZ i)<ks.length:=List.findIdx_lt_length_of_exists ⟨_,xR.1 h,by simp[Nd.gZ]⟩;grind[pa]
theorem ri(xs:kY)(n:Nat):iC xs (n:Int)=xs.getD n none:=by
 grind[iC]
theorem jJ.at(h:jJ r σ)(d:n<σ.gq.length):∃i e,σ.gq[n]?=some (some i)/\σ.gU i=some e:=by
 have⟨i,e,h1,h2⟩:=lD (h.gq _ (wK d));grind
theorem JH(h:jJ r σ)(F:some i∈σ.gq)(K:some i≠iC σ.gq 0):∃pl,mG i σ=.ok pl σ/\Dy σ pl/\r pl.1<r i/\(some pl.1∈σ.gq\/∃e c,σ.gU pl.1=some e/\c∈iO e.kids):=by
 have⟨i',e,e1,he⟩:=lD (h.gq _ F);cases e1;unfold mG;rw[he];dsimp only;cases hp:e.ji with
 |some p=>
  have⟨ep,d,A⟩:=h.pc.up i e p he hp;have⟨B,D⟩:=aaZ A;dsimp only;rw[d];dsimp only;rw[sL B];exact⟨_,rfl,⟨ep,d,by omega⟩,h.uK.ji i e p he hp,.inr ⟨ep,i,d,A⟩⟩
 |none=>
  dsimp only;have d:σ.gq.idxOf (some i)<σ.gq.length:=List.idxOf_lt_length_of_mem F;have A:posOf σ.gq (some i)=(σ.gq.idxOf (some i):Int):=by unfold posOf;rw[sL d]
  have B:σ.gq.idxOf (some i)≠0:=by
   intro H;apply K;have:=List.getElem_idxOf d;rw[show(0:Int)=((0:Nat):Int)from rfl,ri];simp only[H]at this;rw[aby,yG (by omega),<-this];rfl
  have⟨q,eq,hq,he2⟩:=h.at (n:=σ.gq.idxOf (some i)-1) (by omega);have D:iC σ.gq (posOf σ.gq (some i)-1)=some q:=by
   rw[A,show(σ.gq.idxOf (some i):Int)-1=((σ.gq.idxOf (some i)-1:Nat):Int) by omega,ri,aby,hq];rfl
  rw[D];dsimp only;unfold jg;rw[he2];refine⟨_,rfl,⟨eq,he2,ic _⟩,?_,.inl (ahs hq)⟩;have u:=List.pairwise_iff_getElem.1 h.uK.gq (σ.gq.idxOf (some i)-1) (σ.gq.idxOf (some i)) (by omega) d (by omega);rw[List.getElem_idxOf d]at u;have I:=by
   have:=yG (l:=σ.gq) (i:=σ.gq.idxOf (some i)-1) (by omega);rw[hq]at this;exact(Ki this).symm
  rwa [I]at u
theorem B8:∀{xs:kY} {x:jj},tD σ xs=some x->x∈xs/\x≠iC σ.gq 0/\ld (σ.mu x) fQ=true
 |[],x,h=>by cases h
 |y::xs,x,h=>by
  unfold tD at h;split at h;have⟨h1,h2⟩:=B8 h;grind;grind
theorem jJ.first(h:jJ r σ)(d:σ.gq≠[]):∃q e rest,σ.gq=some q::rest/\iC σ.gq 0=some q/\σ.gU q=some e/\e.name=fN:=by
 cases ho:σ.gq with
 |nil=>grind
 |cons x rest=>
  obtain⟨q,rfl,e,l,u⟩:=h.Pw x rest ho;grind[iC]
theorem WY(h:jJ r σ):σ.Cx=true:=by
 unfold N.Cx;rw[qp];intro x d;obtain⟨i,e,rfl,u⟩:=lD (h.gq x d);by_cases l:some i=iC σ.gq 0;grind;grind[JH,qQ.isOk]
theorem B9(h:jJ r σ)(d:σ.gq≠[]):∃pl,j7 σ=.ok pl σ/\Dy σ pl/\(some pl.1∈σ.gq\/∃e c,σ.gU pl.1=some e/\c∈iO e.kids)/\((∃i,some i∈σ.gq/\ld (σ.nm i) fQ=true/\tD σ σ.gq.reverse=some (some i)/\r pl.1<r i)\/iC σ.gq 0=some pl.1):=by
 unfold j7;rw[sL (WY h)];have⟨q,eq,rest,ho,hq,l,_⟩:=h.first d;cases hf:tD σ _ with
 |none=>
  rw[hq];dsimp only;unfold jg;rw[l];grind[Dy]
 |some x=>
  have⟨h1,h2,h3⟩:=B8 hf;obtain⟨i,e,rfl,l⟩:=lD (h.gq x (List.mem_reverse.1 h1));have⟨pl,p1,p2,p3,p4⟩:=JH h (List.mem_reverse.1 h1) h2;exact⟨pl,p1,p2,p4,.inl ⟨i,(List.mem_reverse.1 h1),h3,rfl,p3⟩⟩
theorem VP(h:jJ r σ)(d:some i∈σ.gq):∃pl,placeFor i σ=.ok pl σ/\Dy σ pl/\(some pl.1∈σ.gq\/∃e c,σ.gU pl.1=some e/\c∈iO e.kids):=by
 have⟨i',e,e1,he⟩:=lD (h.gq _ d);cases e1;unfold placeFor;split;grind[B9,List.ne_nil_of_mem];unfold jg;rw[he];grind[Dy]
theorem Sl(h:jJ r σ)(d:σ.gq≠[]):∃i e,σ.last=some i/\some i∈σ.gq/\σ.gq.getLast?=some (some i)/\σ.gU i=some e:=by
 have l:=List.length_pos_iff.2 d;grind[jJ.at,ri,N.last]
theorem IL(h:jJ r σ)(d:σ.gq≠[]):∃pl,ky σ=.ok pl σ/\Dy σ pl/\(some pl.1∈σ.gq\/∃e c,σ.gU pl.1=some e/\c∈iO e.kids):=by
 grind[Sl,VP,ky]
theorem jJ.push(h:jJ r σ)(D:σ.gU j=some e)(I:∀x∈σ.gq,rk r x<r j)(H:σ.gq.length<σ.qZ)(u:σ.gq≠[]\/(e.name=fN/\σ.head=none)):jJ r {σ with gq:=σ.gq++[some j]}/\Fx σ {σ with gq:=σ.gq++[some j]}:=by
 have B:σ.gq≠[]->(σ.gq++[some j]).head?=σ.gq.head?:=by
  intro F;cases ho:σ.gq with
  |nil=>grind
  |cons x rest=>rfl
 refine⟨⟨⟨h.pc.up,h.pc.dn,h.pc.nd,h.pc.kd⟩,⟨h.uK.ji,?_,?_⟩,?_,h.act,h.head,h.form,?_,?_,h.Br,h.TM,h.XH,h.wA⟩,⟨rfl,rfl,rfl,rfl,rfl,rfl,rfl,rfl,rfl,rfl,rfl,λ_ _ h=>h,B⟩⟩;refine List.pairwise_append.2 ⟨h.uK.gq,by simp,λx l y K=>?_⟩;grind[rk];intro d x A l;rcases u with u|⟨_,u⟩;exact h.uK.hd d x A (by grind);grind;intro x l;rcases List.mem_append.1 l with l|l;exact h.gq x l;rw[List.mem_singleton.1 l];show(σ.gU j).isSome=true;grind;intro x rest l;cases ho:σ.gq with
 |nil=>
  rw[ho]at l;injection l with h1 h2;rcases u with u|⟨u,_⟩;grind;exact⟨j,h1.symm,e,D,u⟩
 |cons y r2=>
  rw[ho]at l;injection l with h1 h2;have⟨z,h3,h4⟩:=h.Pw y r2 ho;exact⟨z,h1▸h3,h4⟩
 grind
def RN(h:e.kids=[]):iO e.kids=[]:=by rw[h];rfl
structure aol(σ:N)(j:Nat)(σ':N):Prop where
 gq:σ'.gq=σ.gq++[some j]
 act:σ'.act=σ.act
 fresh:σ'.fresh=σ.fresh
 len:σ'.nodes.length=σ.nodes.length
theorem Qc(h:nU σ)(u:σ.gU j=some e)(d:e.ji=none)(F:e.kids=[])(R:some j∉σ.gq)(A:σ.gq≠[])(hw:wt σ<999999):jH 1 σ (jT j σ) (λ_ σ'=>aol σ j σ'):=by
 have⟨r,h⟩:=h;have⟨pl,p1,p2,K⟩:=IL h A;have U:pl.1≠j:=by
  rintro rfl;rcases K with K|⟨e2,c,l,D⟩;grind;rw[u]at l;cases l;rw[F]at D;cases D
 have⟨B,hB⟩:=BQ r σ.nodes.length;have X:=h.raise u (RN F) R (x:=B+1) (by grind[N.io]);have W:pl.1<σ.nodes.length:=by have⟨e2,l,_⟩:=p2;exact N.io l
 have⟨σ',q1,q2,q3,q4,q5,q6,q7,q8,q9,q10⟩:=X.put p2 u d (by grind[yL]) (by omega);unfold jT;rw[M.gw,p1];dsimp only;rw[M.gw,q1];dsimp only;rw[M.gw];unfold oH;have⟨e',e1,e2,_⟩:=q9 j e u;by_cases H:σ'.qZ<=σ'.gq.length;rw[sL H];exact q3.gQ;rw[Xx H];rw[sL (by show(σ'.gU j).isSome=true;rw[e1];rfl)];dsimp only;have⟨g1,g2⟩:=q2.push e1 (by
  intro x I;rw[q5]at I;rw[I9];obtain⟨i,ei,rfl,hi⟩:=lD (h.gq x I);show yL r j (B+1) i<_;grind[Hg,N.io]) (by omega) (.inl (by grind))
 exact⟨⟨_,g1⟩,q3.trans g2,by grind[wt],⟨by grind,q6,q7,q8⟩⟩
theorem vU(xs:kY)(k:Nat):(xs.reverse.drop k).reverse=xs.take (xs.length-k):=by
 grind[List.reverse_drop]
theorem NP(σ:N)(p:O->Bool):∀ys:kY,(∃x∈ys,p (σ.mu x)=true)->∃k,1<=k/\k<=ys.length/\N.yW σ p ys=ys.drop k/\∃x,ys[k-1]?=some x/\p (σ.mu x)=true
 |[],h=>by grind
 |y::ys,h=>by
  unfold N.yW;by_cases d:p (σ.mu y)=true;rw[sL d];exact⟨1,ic _,by simp,rfl,y,rfl,d⟩;have⟨x,hx,hpx⟩:=h;have⟨k,h1,h2,h3,x2,h4,h5⟩:=NP σ p ys ⟨x,(by grind),hpx⟩;refine⟨k+1,by omega,by grind,by grind,x2,?_,h5⟩;grind
theorem Nk(σ:N)(p b:O->Bool):∀{ys:kY},N.wW σ p b ys=true->∃x∈ys,p (σ.mu x)=true
 |[],h=>by cases h
 |y::ys,h=>by
  unfold N.wW at h;by_cases d:p (σ.mu y)=true;grind;rw[Xx d]at h;split at h;cases h;have⟨x,hx,h2⟩:=Nk σ p b h;grind
theorem Dw(h:1<=k):(xs.take k).head?=xs.head?:=by
 cases xs with
 |nil=>simp
 |cons x r=>cases k<;>grind
theorem jJ.MQ(h:jJ r σ)(d:σ.gq.head?=some x):σ.mu x=fN:=by
 cases ho:σ.gq with
 |nil=>grind
 |cons y rest=>
  rw[ho]at d;cases d;obtain⟨q,rfl,e,l,u⟩:=h.Pw _ rest ho;show σ.nm q=_;grind[N.nm]
theorem ahj(h:jJ r σ)(p:O->Bool)(d:p fN=false)(l:∃x∈σ.gq,p (σ.mu x)=true):jJ r (σ.CG p)/\Fx σ (σ.CG p)/\∃k,1<=k/\k<σ.gq.length/\(σ.CG p).gq=σ.gq.take k:=by
 have⟨k,h1,h2,h3,x,h4,h5⟩:=NP σ p σ.gq.reverse (by grind);grind[vU,jJ.MQ,jJ.sub,Dw,N.CG]
structure ww(σ σ':N):Prop where
 nodes:σ'.nodes=σ.nodes
 act:σ'.act=σ.act
 fresh:σ'.fresh=σ.fresh
 gq:∃k,σ'.gq=σ.gq.take k
theorem ww.refl(σ:N):ww σ σ:=⟨rfl,rfl,rfl,σ.gq.length,by simp⟩
theorem jx(h:σ'.nodes=σ.nodes):wt σ'=wt σ:=by grind[wt]
theorem yf(h:nU σ)(p b:O->Bool)(d:p fN=false):jH 0 σ (lK p b σ) (λx σ'=>ww σ σ'/\(x=true->σ'.gq.length<σ.gq.length)/\(x=false->σ'=σ)):=by
 have⟨r,h⟩:=h;unfold lK;split;rename_i l;have⟨x,h1,h2⟩:=Nk σ p b l;have⟨g1,g2,k,g3,g4,g5⟩:=ahj h p d ⟨x,List.mem_reverse.1 h1,h2⟩;exact⟨⟨r,g1⟩,g2,ZX (jx rfl),⟨rfl,rfl,rfl,k,g5⟩,by grind,by grind⟩;exact⟨⟨r,h⟩,Fx.refl _,ic _,ww.refl _,by grind,λ_=>rfl⟩
theorem LW(σ:N)(p:O->Bool):∀ys:kY,∃k,k<=ys.length/\N.oE σ p ys=ys.drop k/\∀j,j<k->∃x,ys[j]?=some x/\p (σ.mu x)=true
 |[]=>⟨0,ic _,rfl,by grind⟩
 |y::ys=>by
  unfold N.oE;by_cases d:p (σ.mu y)=true
  .have⟨k,h1,h2,h3⟩:=LW σ p ys;refine⟨k+1,by grind,by grind,λj h=>?_⟩;cases j<;>grind
  rw[Xx d];exact⟨0,xj _,rfl,by grind⟩
theorem aij(h:jJ r σ)(p:O->Bool)(u:p fN=false):∃k,(N.oE σ p σ.gq.reverse).reverse=σ.gq.take k/\(σ.gq≠[]->1<=k):=by
 have⟨k,h1,h2,h3⟩:=LW σ p σ.gq.reverse;have d:=by simpa using h1
 refine⟨σ.gq.length-k,by grind[vU],λl=>?_⟩;grind[List.length_pos_iff,List.head?_eq_getElem?,jJ.MQ]
theorem LX(h:nU σ)(p:O->Bool)(d:p fN=false):nU {σ with gq:=(N.oE σ p σ.gq.reverse).reverse}/\Fx σ {σ with gq:=(N.oE σ p σ.gq.reverse).reverse}/\ww σ {σ with gq:=(N.oE σ p σ.gq.reverse).reverse}:=by
 have⟨r,h⟩:=h;have⟨k,h1,h2⟩:=aij h p d;rw[h1];cases ho:σ.gq with
 |nil=>
  have:([]).take k=σ.gq:=by grind
  rw[this];exact⟨⟨r,h⟩,Fx.refl _,ww.refl _⟩
 |cons x rest=>
  rw[<-ho];have⟨g1,g2⟩:=h.sub (Tv _ _) (Dw (h2 (by grind)));exact⟨⟨r,g1⟩,g2,rfl,rfl,rfl,k,rfl⟩
def yN(h:nU σ)(p:O->Bool):jH 0 σ (th p σ) (λ_ σ'=>ww σ σ'):=by
 have⟨g1,g2,g3⟩:=LX h (λs=>!(p s||gO [(fN)] s)) (by simp[gO,ld]);exact⟨g1,g2,ZX (jx rfl),g3⟩
theorem IP(h:nU σ)(d:2<=σ.gq.length):nU σ.pop/\Fx σ σ.pop:=by
 have⟨r,h⟩:=h;have e:σ.gq.dropLast=σ.gq.take _:=y7;have⟨g1,g2⟩:=h.sub (ys:=σ.gq.take (σ.gq.length-1)) (Tv _ _) (Dw (by omega));grind[nU,N.pop]
theorem ww.pop(σ:N):ww σ σ.pop:=⟨rfl,rfl,rfl,σ.gq.length-1,y7⟩
theorem yO(h:nU σ)(p:O->Bool)(B:p fN=false)(d:σ.current p=true):2<=σ.gq.length:=by
 have⟨r,h⟩:=h;unfold N.current at d;cases ho:σ.gq with
 |nil=>
  have:σ.last=none:=by unfold N.last;rw[ho];rfl
  grind
 |cons x rest=>
  cases rest with
  |cons y r2=>simp
  |nil=>
   exfalso;obtain⟨q,rfl,e,l,u⟩:=h.Pw x [] ho;have:σ.last=some q:=by unfold N.last;rw[ho];rfl
   have A:σ.nm q=fN:=by unfold N.nm;rw[l];exact u
   grind
def vT(h:nU σ)(p:O->Bool)(l:p fN=false):jH 0 σ (pM p σ) (λ_ σ'=>ww σ σ'):=by
 show jH 0 σ (.ok () (σ.GH p)) _;unfold N.GH;split;rename_i d;have⟨g1,g2⟩:=IP h (yO h p l d);exact⟨g1,g2,ZX (jx rfl),ww.pop σ⟩;exact⟨h,Fx.refl _,ic _,ww.refl _⟩
def jJ.EY(h:jJ r σ)(hs:∀i,some i∈ys->∃e,σ.gU i=some e/\sN e.name=true)(d:ys.length<=σ.sB):jJ r {σ with act:=ys}/\Fx σ {σ with act:=ys}:=
 ⟨⟨⟨h.pc.up,h.pc.dn,h.pc.nd,h.pc.kd⟩,⟨h.uK.ji,h.uK.gq,h.uK.hd⟩,h.gq,hs,h.head,h.form,h.Pw,h.yK,d,h.TM,h.XH,h.wA⟩,⟨rfl,rfl,rfl,rfl,rfl,rfl,rfl,rfl,rfl,rfl,rfl,λ_ _ h=>h,λ_=>rfl⟩⟩
structure Jl(σ:N)(s:O)(j:Nat)(σ':N):Prop where
 gq:σ'.gq=σ.gq++[some j]
 act:σ'.act=σ.act
 nm:iV σ' j s
 new:σ.nodes.length<=j
theorem Ss(h:nU σ)(B:σ.gq≠[])(R:wt σ<999999)(d:O)(gG:lu)(b:Bool):jH 1 σ (jT σ.nodes.length (σ.qt (.el {name:=d,gR:=gG,ji:=none,kids:=[]}) b)) (λ_ σ'=>∃j,Jl σ d j σ'/\σ'.fresh=b):=by
 have⟨r,h⟩:=h;have⟨g1,g2⟩:=h.new d gG b 0;have l:(σ.qt (.el {name:=d,gR:=gG,ji:=none,kids:=[]}) b).gU _=some _:=N.su;have D:some σ.nodes.length∉(σ.qt (.el {name:=d,gR:=gG,ji:=none,kids:=[]}) b).gq:=by
  intro H;have:=h.II H;omega
 have I:wt (σ.qt (.el {name:=d,gR:=gG,ji:=none,kids:=[]}) b)=wt σ:=Hk _ _ _;have u:=Qc ⟨_,g1⟩ l rfl rfl D B (by omega);revert u;cases jT _ _ with
 |ok a σ'=>
  rintro⟨u,F,K,A⟩;refine⟨u,g2.trans F,by omega,σ.nodes.length,⟨A.gq,A.act,F.nm _ _ ⟨_,l,rfl⟩,ic _⟩,A.fresh⟩
 |stop e p=>exact λh=>h
 |stuck=>simp[jH]
theorem jH.iM{α:Type}{c:Nat}{m:M α}{Q:Unit->N->Prop}(h:jH c σ (m σ) (λ_ σ'=>Q () σ')):jH c σ ((m>>=λ_=>(Pure.pure ():M Unit)) σ) Q:=by
 refine jH.bind h (λa σ' d _ _ l=>jH.ret d l) (by omega)
theorem jH.tail_at{α:Type}{c:Nat}{m:M α}{Q:Unit->N->Prop}(h:jH c σ (m σ1) (λ_ σ'=>Q () σ')):jH c σ ((m>>=λ_=>(Pure.pure ():M Unit)) σ1) Q:=by
 rw[M.gw];revert h;cases m σ1<;>exact λh=>h
def tF(h:nU σ)(l:σ.gq≠[])(u:wt σ<999999)(d:O):jH 1 σ (j8 d σ) (λ_ σ'=>∃j,Jl σ d j σ'/\σ'.fresh=σ.fresh):=
 jH.iM (m:=λσ=>jT _ _) (Ss h l u d [] _)
theorem kC(h:nU σ)(d:σ.gq≠[])(A:wt σ<999999)(t:gF)(u:t.qw=true)(l:σ.fresh=true):jH 1 σ (iL t σ) (λ_ σ'=>∃j,Jl σ t.name j σ'):=by
 unfold iL;grind[M.gw,jH.tail_at,jH.mono,Ss,ku]
def ajh(h:Jl σ s j σ'):σ'.pop.gq=σ.gq:=by
 show σ'.gq.dropLast=_;rw[h.gq];simp
theorem Gu(h:Jl σ s j σ')(d:σ.gq≠[]):2<=σ'.gq.length:=by
 have:=List.length_pos_iff.2 d;rw[h.gq];grind
theorem Gt(h:Jl σ s j σ'):σ'.last=some j:=by
 unfold N.last;rw[h.gq];have e:((σ.gq++[some j]).length)-1=((σ.gq.length)):=by simp
 grind[ri]
def zN(h:nU σ)(d:2<=σ.gq.length):jH 0 σ (wV σ) (λx σ'=>σ'=σ.pop/\x=σ.last):=by
 have⟨g1,g2⟩:=IP h d;exact⟨g1,g2,ZX (jx rfl),rfl,rfl⟩
def rK(h:nU σ)(d:σ.gq≠[])(D:wt σ<999999)(t:gF)(B:t.qw=true)(A:σ.fresh=true):jH 1 σ (kN t σ) (λ_ σ'=>σ'.gq=σ.gq/\σ'.act=σ.act):=by
 refine jH.bind (kC h d D t B A) (c2:=0) ?_ (by omega);rintro _ σ1 u H _⟨j,l⟩;refine jH.iM ((zN u (Gu l d)).mono (ic _) ?_);rintro x F _ _⟨rfl,_⟩;exact⟨ajh l,l.act⟩
theorem qc(h:nU σ)(d:σ.gq≠[])(t:gF)(l:wt σ+t.chars.size+1<=1000000):jH (t.chars.size+1) σ (jK t σ) (λ_ σ'=>Rest σ σ'):=by
 have⟨r,hr⟩:=h;have⟨pl,p1,p2,_⟩:=IL hr d;unfold jK;grind[M.gw,jH.iM,VU]
def UT(h:sN s=true):oA s=false:=by
 unfold sN gO at h;rw[List.any_eq_true]at h;have⟨x,hx,he⟩:=h;simp at hx;rcases hx with rfl|rfl|rfl|rfl<;>(rw[(ry he)];simp[oA,ld,akR,akQ])
theorem F2(h:sN s=true):s≠fN:=by
 rintro rfl;simp[sN,gO,ld]at h
theorem agS(h:(ox xs x (some j))[m]?=some y):xs[m]?=some y\/y=some j:=by
 grind[ox]
theorem Na(xs:kY)(x y:jj):(ox xs x y).length=xs.length:=by
 grind[ox]
theorem GQ(h:z∈ox xs x y):z∈xs\/z=y:=by
 grind[ox]
theorem abK(h:nU σ){old:Nat}(u:(σ.gU old).isSome=true)(d:iV σ j s)(hs:sN s=true):jH 0 σ (pY (some old) (some j) σ) (λ_ σ'=>σ'.gq=σ.gq/\σ'.act=ox σ.act (some old) (some j)/\σ'.fresh=σ.fresh):=by
 have⟨r,h⟩:=h;have⟨ej,hej,hn⟩:=d;unfold pY;rw[sL (by grind[N.gZ])];have⟨g1,g2⟩:=h.EY (ys:=ox σ.act (some old) (some j)) (λi l=>by
  grind[GQ,jJ.act]) (by grind[Na,jJ.Br])
 exact⟨⟨r,g1⟩,g2,ZX (jx rfl),rfl,rfl,rfl⟩
def BO(h:σ.gU i=some e)(d:sN e.name=true):kq i σ=.ok σ.nodes.length (σ.qt (.el {name:=e.name,gR:=e.gR,ji:=none,kids:=[]}) σ.fresh):=by
 unfold kq;rw[h];dsimp only;rw[UT d];rfl
theorem Wi:∀(k n:Nat){σ:N},nU σ->σ.gq≠[]->wt σ+k<999999->n+k<=σ.act.length->(∀m,n<=m->m<n+k->∃i,σ.act[m]?=some (some i))->jH k σ (KE k n σ) (λ_ σ'=>σ.gq <+:σ'.gq/\σ'.act.length=σ.act.length/\σ'.fresh=σ.fresh)
 |0,n,σ,h,_,_,_,_=>jH.ret h ⟨List.prefix_refl _,rfl,rfl⟩
 |k+1,n,σ,h,hne,hw,hl,ha=>by
  have⟨old,ho⟩:=ha n (ic _) (by omega);have⟨r,hr⟩:=h;have⟨eo,heo,hfo⟩:=hr.act old (ahs ho);have F:DG n σ=.ok old σ:=by
   unfold DG;rw[ri,aby,ho];rfl
  unfold KE;rw[M.gw,F];dsimp only;rw[M.gw,BO heo hfo];dsimp only;rw[M.gw];have h1:=Ss ⟨r,hr⟩ hne (by omega) eo.name eo.gR σ.fresh;revert h1;cases hq:jT σ.nodes.length (σ.qt (.el {name:=eo.name,gR:=eo.gR,ji:=none,kids:=[]}) σ.fresh)with
  |stop e p=>simp[jH]
  |stuck=>simp[jH]
  |ok u σ1=>
   rintro⟨i1,l,w1,j,A,D⟩;dsimp only;have H:si old σ1=pY (some old) (some j) σ1:=by unfold si;rw[Gt A]
   have⟨eo1,heo1,_⟩:=l.nm old eo.name ⟨eo,heo,rfl⟩;have h2:jH (k+0) σ1 ((si old>>=λ_=>KE k (n+1)) σ1) (λ_ σ'=>σ.gq <+:σ'.gq/\σ'.act.length=σ.act.length/\σ'.fresh=σ.fresh):=by
    refine jH.bind (c1:=0) (by rw[H];exact abK i1 (by grind) A.nm hfo) (c2:=k) ?_ (by omega);rintro _ I i2 X w2⟨o2,B,r2⟩;have d:I.act.length=σ.act.length:=by rw[B,Na,A.act]
    refine(Wi k (n+1) i2 (X.ne (l.ne hne)) (by omega) (by omega) ?_).mono (ic _) ?_;grind[agS,Jl.act];rintro _ K _ _⟨o3,R,r3⟩;refine⟨?_,R.trans d,r3.trans (r2.trans D)⟩;refine List.IsPrefix.trans ?_ o3;rw[o2,A.gq];simp
   revert h2;cases((si old>>=λ_=>KE k (n+1)) σ1)with
   |ok a K=>rintro⟨U,B,R,W⟩;exact⟨U,l.trans B,by omega,W⟩
   |stop e p=>exact λh=>Tu h l.gQ
   |stuck=>simp[jH]
theorem QC(σ:N):∀ys:kY,σ.jt ys<=ys.length/\∀m,m<ys.length-σ.jt ys->∃i,ys[m]?=some (some i)
 |[]=>⟨ic _,by grind⟩
 |x::ys=>by
  unfold N.jt;by_cases d:σ.YR x=true;grind;have⟨h1,h2⟩:=QC σ ys;refine⟨by grind,λm h=>?_⟩;cases m with
  |zero=>
   cases x with
   |none=>exact absurd (by rfl) d
   |some i=>simp
  |succ m=>exact h2 m (by grind)
theorem pj(h:nU σ)(d:σ.gq≠[])(D:wt σ+32<999999):jH 32 σ (mx σ) (λ_ σ'=>σ.gq <+:σ'.gq/\σ'.act.length=σ.act.length/\σ'.fresh=σ.fresh):=by
 unfold mx;have⟨h1,h2⟩:=QC σ σ.act.reverse;have u:σ.Cs<=σ.act.length:=by simpa [N.Cs]using h1
 have l:σ.act.length<=32:=by have⟨r,hr⟩:=h;exact jZ hr.Br hr.XH
 refine(Wi (σ.act.length-σ.Cs) σ.Cs h d (by omega) (by omega) ?_).mono (by omega) (λ_ _ _ _ h=>h);intro m A B;have⟨i,hi⟩:=h2 (σ.act.length-1-m) (by
  have e:σ.jt σ.act.reverse=σ.Cs:=rfl;grind)
 grind
structure abE(σ:N)(o a:kY)(σ':N):Prop where
 nodes:σ'.nodes=σ.nodes
 gq:σ'.gq=o
 act:σ'.act=a
 fresh:σ'.fresh=σ.fresh
def Ae(h:nU σ)(l:σ.gZ x=true):jH 0 σ (kM x σ) (λ_ σ'=>abE σ σ.gq (σ.act.erase x) σ'):=by
 have⟨r,h⟩:=h;unfold kM;rw[sL l];have⟨g1,g2⟩:=h.EY (ys:=σ.act.erase x) (λi d=>h.act i (wZ d)) (jZ (List.length_erase_le) h.Br);exact⟨⟨r,g1⟩,g2,ZX (jx rfl),rfl,rfl,rfl,rfl⟩
def XM(h:z∈oQ xs x):z∈xs:=by
 unfold oQ at h;rw[List.mem_reverse]at h;exact List.mem_reverse.1 ((ZW _).subset ((List.tail_sublist _).subset h))
theorem adf(xs:kY)(x:jj):(oQ xs x).length<=xs.length:=by
 grind[List.dropWhile_sublist,oQ]
def NM(h:nU σ):jH 0 σ (zo σ) (λ_ σ'=>abE σ σ.gq (oQ σ.act none) σ'):=by
 have⟨r,h⟩:=h;have⟨g1,g2⟩:=h.EY (ys:=oQ _ none) (λi d=>h.act i (XM d)) (jZ (adf _ _) h.Br);exact⟨⟨r,g1⟩,g2,ZX (jx rfl),rfl,rfl,rfl,rfl⟩
theorem xk(h:nU σ)(x:jj)(u:∀i,x=some i->∃e,σ.gU i=some e/\sN e.name=true):jH 0 σ (km x σ) (λ_ σ'=>abE σ σ.gq (σ.act++[x]) σ'):=by
 have⟨r,h⟩:=h;unfold km;split;rfl;have d:σ.gZ x=true:=by
  cases x with
  |none=>rfl
  |some i=>grind[N.gZ]
 rw[sL d];have⟨g1,g2⟩:=h.EY (ys:=σ.act++[x]) (λi l=>by
  grind[jJ.act]) (by grind)
 exact⟨⟨r,g1⟩,g2,ZX (jx rfl),rfl,rfl,rfl,rfl⟩
theorem Et(σ:N)(j:Nat):∀(ys:kY)(c:jj×Nat),(σ.ue j ys c).1=c.1\/(σ.ue j ys c).1∈ys
 |[],c=> .inl rfl
 |none::_,c=> .inl rfl
 |some i::ys,c=>by
  unfold N.ue;split
  .rcases Et σ j ys (some i,c.2+1)with h|h
   all_goals grind
  .rcases Et σ j ys c with h|h
   all_goals grind
theorem aes(h:nU σ)(D:iV σ i s)(hs:sN s=true):jH 0 σ (Lx i σ) (λ_ σ'=>σ'.gq=σ.gq/\σ'.fresh=σ.fresh):=by
 have⟨e,he,hn⟩:=D;have d:∀σ1,nU σ1->σ1.nodes=σ.nodes->jH 0 σ1 (km (some i) σ1) (λ_ σ'=>abE σ1 σ1.gq (σ1.act++[some i]) σ'):=by
  intro σ1 l F;refine xk l _ ?_;intro j R;exact⟨e,by grind[N.gU],by grind⟩
 have u:σ.gZ (σ.ue i σ.act.reverse (none,0)).1=true:=by
  rcases Et σ i σ.act.reverse _ with l|l;rw[l];rfl;cases hx:(σ.ue i σ.act.reverse _).1 with
  |none=>rfl
  |some j=>
   have⟨r,hr⟩:=h;grind[jJ.act,N.gZ]
 unfold Lx;dsimp only;split;refine jH.bind (Ae h u) (c2:=0) ?_ (by omega);rintro _ σ1 H K _ A;refine jH.iM ((d σ1 H A.nodes).mono (ic _) ?_);rintro _ I _ _ B;exact⟨B.gq.trans A.gq,B.fresh.trans A.fresh⟩;grind[jH.iM,jH.mono,abE.gq,abE.fresh]
theorem Em(h:xs.head?≠some x):(xs.erase x).head?=xs.head?:=by
 cases xs<;>grind
theorem jJ.Gy(h:jJ r σ)(d:iV σ i s)(hs:s≠fN):σ.gq.head?≠some (some i):=by
 intro e;have⟨ei,he,hn⟩:=d;apply hs;rw[<-hn,<-(h.MQ e)];show _=σ.nm i;unfold N.nm;rw[he]
theorem EE(h:nU σ)(d:iV σ i s)(hs:s≠fN):jH 0 σ (jR (some i) σ) (λ_ σ'=>abE σ (σ.gq.erase (some i)) σ.act σ'):=by
 have⟨r,h⟩:=h;have⟨e,he,_⟩:=id d;unfold jR;rw[sL (by grind[N.gZ])];have⟨g1,g2⟩:=h.sub List.erase_sublist (Em (h.Gy d hs));exact⟨⟨r,g1⟩,g2,ZX (jx rfl),rfl,rfl,rfl,rfl⟩
theorem FT:∀{ys:kY},x∈ys->∃j,j<ys.length/\ys.dropWhile (λy=>decide (y≠x))=ys.drop j/\ys[j]?=some x
 |[],h=>by cases h
 |y::ys,h=>by
  by_cases l:y=x;subst l;exact⟨0,by simp,by simp,rfl⟩;have d:x∈ys:=by grind
  have⟨j,h1,h2,h3⟩:=FT d;refine⟨j+1,by grind,?_,by grind⟩;simp_all
theorem Zi(d:x∈xs)(h:xs.head?≠some x):∃k,1<=k/\k<xs.length/\oQ xs x=xs.take k:=by
 have⟨j,h1,h2,h3⟩:=FT (List.mem_reverse.2 d);have e:oQ xs x=xs.take (xs.length-(j+1)):=by
  unfold oQ;rw[h2,List.tail_drop,vU]
 grind[List.head?_eq_getElem?]
theorem Y6(h:nU σ)(d:iV σ i s)(hs:s≠fN)(l:some i∈σ.gq):jH 0 σ (AG (some i) σ) (λ_ σ'=>ww σ σ'):=by
 have⟨r,h⟩:=h;have⟨e,he,_⟩:=id d;unfold AG;rw[sL (by grind[N.gZ])];have⟨k,k1,k2,k3⟩:=Zi l (h.Gy d hs);rw[k3];have⟨g1,g2⟩:=h.sub (Tv _ _) (Dw k1);exact⟨⟨r,g1⟩,g2,ZX (jx rfl),rfl,rfl,rfl,k,rfl⟩
theorem UB(h:j∈iO ks)(u:(iO ks).Nodup):iO (ks.eraseIdx (ks.findIdx (Nd.gZ j)))=(iO ks).erase j:=by
 induction ks with
 |nil=>cases h
 |cons k r ih=>
  by_cases d:Nd.gZ j k=true;cases k with
  |el i=>
   grind[iO,Nd.gZ]
  |tx i=>cases d
  |cm i=>cases d
  |dt i=>cases d
  have l:=by simpa using d
  rw[List.findIdx_cons,l];simp;cases k with
  |el i=>
   grind[iO,Nd.gZ]
  |tx i=>exact ih h u
  |cm i=>exact ih h u
  |dt i=>exact ih h u
theorem jJ.lX(h:jJ r σ)(K:σ.gU j=some ej):
  ∃σ',lX j σ=.ok () σ'/\jJ r σ'/\Fx σ σ'/\wt σ'<=wt σ/\σ'.gq=σ.gq/\σ'.act=σ.act/\σ'.fresh=σ.fresh/\σ'.nodes.length=σ.nodes.length/\(∃D,σ'.gU j=some D/\D.ji=none/\D.name=ej.name):=by
 unfold Go.Proofs.YtdbbknopdbpfaaaGreatDoor.lX;rw[K];dsimp only;cases hp:ej.ji with
 |none=>grind[Fx.refl]
 |some p=>
  have⟨ep,hep,hm⟩:=h.pc.up j ej p K hp;have ag:=h.uK.ji j ej p K hp;have U:j≠p:=by rintro rfl;omega
  have⟨q1,q2⟩:=aaZ hm;dsimp only;rw[hep];dsimp only;rw[sL ⟨U,q1,q2⟩];have a6:=N.io hep;have ac:=N.io K;have a0:(pa ep.kids (Nd.gZ j)).toNat=ep.kids.findIdx (Nd.gZ j):=by
   unfold pa at q2|-;by_cases hf:ep.kids.findIdx (Nd.gZ j)<ep.kids.length;omega;exfalso;apply hf;exact List.findIdx_lt_length_of_exists ⟨_,xR.1 hm,by simp[Nd.gZ]⟩
  rw[a0]at q2|-;obtain⟨ks,R⟩:∃ks,ks=ep.kids.eraseIdx (ep.kids.findIdx (Nd.gZ j)):=⟨_,rfl⟩;rw[<-R];have ae:ks.length+1=ep.kids.length:=by rw[R,abA q2];omega
  have a1:iO ks=(iO ep.kids).erase j:=by rw[R];exact UB hm (h.pc.nd p ep hep)
  have a9:∀k∈ks,k∈ep.kids:=λk hk=>by grind[List.eraseIdx_sublist]
  obtain⟨σ',l⟩:∃σ',σ'=(σ.gW p {ep with kids:=ks}).gW j {ej with ji:=none}:=⟨_,rfl⟩;rw[<-l];have g1:σ'.gU p=some {ep with kids:=ks}:=by rw[l,N.iK (yZ U),N.jc a6]
  have g2:σ'.gU j=some {ej with ji:=none}:=by rw[l,N.jc (by grind[N.gW])]
  have g3:∀i,i≠p->i≠j->σ'.gU i=σ.gU i:=λi A F=>by grind[N.iK]
  have ab:(σ.gU p).isSome=true:=by rw[hep];rfl
  have ad:((σ.gW p {ep with kids:=ks}).gU j).isSome=true:=by rw[N.iK U,K];rfl
  have gk:∀k,σ'.jr k=σ.jr k:=λk=>by grind[N.mr]
  have ge:∀x,σ'.nk x=σ.nk x:=λx=>by grind[N.zH]
  have I:∀i e,σ.gU i=some e->∃D,σ'.gU i=some D/\D.name=e.name/\(i≠p->D.kids=e.kids)/\(i≠j->D.ji=e.ji):=by
   intro i e H;by_cases A:i=p;grind;grind
  have B:∀i D,σ'.gU i=some D->(i=p/\D={ep with kids:=ks})\/(i=j/\D={ej with ji:=none})\/(i≠p/\i≠j/\σ.gU i=some D):=by
   intro i D H;by_cases A:i=p;grind;grind
  have a2:∀i s,iV σ i s->iV σ' i s:=λi s ⟨e,H,hn⟩=>by
   grind[iV]
  have ah:∀i e q,σ.gU i=some e->i≠j->e.ji=some q->∃eq,σ'.gU q=some eq/\i∈iO eq.kids:=by
   intro i e q H aa hq;have⟨eq,F,W⟩:=h.pc.up _ _ q H hq;have⟨eq',h4,_,h5,_⟩:=I q eq F;refine⟨eq',h4,?_⟩;by_cases af:q=p;grind;grind
  have a4:∀i e x,σ.gU i=some e->x∈iO e.kids->x≠j->∃X,σ'.gU x=some X/\X.ji=some i:=by
   intro i e x H hx a7;have⟨X,F,W⟩:=h.pc.dn i e x H hx;have⟨ex',h4,_,_,h5⟩:=I x X F;exact⟨ex',h4,(h5 a7).trans W⟩
  have a8:∀i e,σ.gU i=some e->j∈iO e.kids->i=p:=by
   intro i e H a5;have⟨X,F,W⟩:=h.pc.dn i e j H a5;rw[K]at F;cases F;rw[hp]at W;exact(Ki W).symm
  refine⟨σ',rfl,⟨⟨?_,?_,?_,?_⟩,⟨?_,?_,?_⟩,λx hx=>?_,λi u=>?_,λd hd=>a2 _ _ (h.head d ?_),λd hd=>a2 _ _ (h.form d ?_),λy rest hy=>?_,?_,?_,?_,?_,?_⟩,?_,?_,?_,?_,?_,?_,?_⟩;grind
  .intro i e x u hx;rcases B i e u with⟨A,rfl⟩|⟨A,rfl⟩|⟨W,F,A⟩;rw[A];have a3:x∈(iO ep.kids).erase j:=by rw[<-a1];exact hx
   exact a4 p ep x hep (wZ a3) (λe=>by
    subst e;exact(List.Nodup.not_mem_erase (h.pc.nd p ep hep)) a3)
   all_goals grind
  intro i e u;rcases B i e u with⟨A,rfl⟩|⟨A,rfl⟩|⟨_,_,A⟩;show(iO ks).Nodup;rw[a1];exact(h.pc.nd p ep hep).erase j;show(iO ej.kids).Nodup;exact h.pc.nd _ _ K;exact h.pc.nd _ _ A;grind[cX.kd,pc];intro i e q u hq;rcases B i e u with⟨A,rfl⟩|⟨A,rfl⟩|⟨_,_,A⟩;rw[A];exact h.uK.ji _ _ q hep hq;cases hq;exact h.uK.ji _ _ q A hq;rw[l];exact h.uK.gq;rw[l];exact h.uK.hd;rw[ge];exact h.gq x (by rwa [l]at hx);have⟨e,H,hf⟩:=h.act i (by rw[l]at u;exact u);grind
  rwa [l]at hd
  rwa [l]at hd
  have⟨z,A,F⟩:=h.Pw y rest (by rwa [l]at hy);grind;rw[l];exact h.yK;rw[l];exact h.Br;rw[l];exact h.TM;rw[l];exact h.XH;grind[wA];rw[l];exact⟨rfl,rfl,rfl,rfl,rfl,rfl,rfl,rfl,rfl,rfl,rfl,by grind,λ_=>rfl⟩;grind[tu,N.iK];rw[l];rfl;rw[l];rfl;rw[l];rfl
  all_goals grind[N.oK]
structure akk(σ:N)(d:Nat)(ed:wN)(ks:List Nd)(σ':N):Prop where
 eq:σ'={σ with nodes:=σ'.nodes}
 len:σ'.nodes.length=σ.nodes.length
 dst:σ'.gU d=some {ed with kids:=ed.kids++ks}
 eC:∀i,i≠d->σ'.gU i=if i∈iO ks then (σ.gU i).map (λe=>{e with ji:=some d})else σ.gU i
 Fq:∀k,σ'.jr k=σ.jr k
 wt:wt σ'=wt σ+ks.length
theorem La(ks:List Nd)(k:Nd):ins ks ks.length k=ks++[k]:=by simp[ins]
theorem Is:∀(ks:List Nd){σ:N} {d:Nat} {ed:wN},σ.gU d=some ed->(∀k∈ks,σ.jr k=true)->d∉iO ks->(iO ks).Nodup->ed.kids.length+ks.length<1000000->∃σ',wD d ks σ=.ok () σ'/\akk σ d ed ks σ'
 |[],σ,d,ed,hd,_,_,_,_=>⟨σ,rfl,rfl,rfl,by simp_all,λi _=>by rfl,λ_=>rfl,rfl⟩
 |k::ks,σ,d,ed,hd,hk,hn,hnd,hl=>by
  simp only[pG]at hl;have F:=N.io hd;have U:(σ.gU d).isSome=true:=by rw[hd];rfl
  have he:jg d σ=.ok (d,ed.kids.length) σ:=by unfold jg;rw[hd]
  unfold wD;rw[M.gw,he];dsimp only;rw[M.gw];have H:=hk k (N1 ..);have D:∀(R:Nd),(∀j,R≠ .el j)->k=R->∃σ1,vk (d,ed.kids.length) R σ=.ok () σ1/\∃σ',wD d ks σ1=.ok () σ'/\akk σ d ed (k::ks) σ':=by
   intro R a2 e0;subst e0;have X:vk (d,ed.kids.length) k σ=.ok () (σ.gW d {ed with kids:=ed.kids++[k]}):=by
    unfold vk;dsimp only;rw[hd];dsimp only;rw[sL ⟨H,ic _,by omega⟩,La]
   refine⟨_,X,?_⟩;have A:iO (k::ks)=iO ks:=by
    cases k with
    |el j=>grind
    |tx j=>rfl
    |cm j=>rfl
    |dt j=>rfl
   rw[A]at hn hnd;have⟨σ',K,u⟩:=Is ks (σ:=σ.gW d {ed with kids:=ed.kids++[k]}) (d:=d) (ed:={ed with kids:=ed.kids++[k]}) (N.jc F) (λx hx=>by grind[N.mr]) hn hnd (by grind);refine⟨σ',K,u.eq,by grind[akk.len,N.oK],by rw[u.dst];simp,?_,λx=>by rw[u.Fq,N.mr U],?_⟩;intro i hi;rw[u.eC i hi,A,N.iK hi];grind[tu,akk.wt]
  cases k with
  |tx j=>
   have⟨σ1,e1,σ',e2,e3⟩:=D (.tx j) (λ_ h=>by cases h) rfl;rw[show Bz (d,ed.kids.length) (.tx j) σ=.ok () σ1 from e1];grind
  |cm j=>
   have⟨σ1,e1,σ',e2,e3⟩:=D (.cm j) (λ_ h=>by cases h) rfl;rw[show Bz (d,ed.kids.length) (.cm j) σ=.ok () σ1 from e1];grind
  |dt j=>
   have⟨σ1,e1,σ',e2,e3⟩:=D (.dt j) (λ_ h=>by cases h) rfl;rw[show Bz (d,ed.kids.length) (.dt j) σ=.ok () σ1 from e1];grind
  |el j=>
   have B:j≠d:=by rintro rfl;exact hn (N1 ..)
   have⟨ej,hej⟩:=Option.isSome_iff_exists.1 (show(σ.gU j).isSome=true from H);have a0:=N.io hej;obtain⟨σ1,l⟩:∃σ1,σ1=(σ.gW d {ed with kids:=ed.kids++[.el j]}).gW j {ej with ji:=some d}:=⟨_,rfl⟩;have X:Bz (d,ed.kids.length) (.el j) σ=.ok () σ1:=by
    show kD (d,ed.kids.length) j σ=_;unfold kD;dsimp only;rw[hd,hej];dsimp only;rw[sL ⟨B,ic _,by omega⟩,La,l]
   rw[X];dsimp only;have a1:((σ.gW d {ed with kids:=ed.kids++[.el j]}).gU j).isSome=true:=by rw[N.iK B,hej];rfl
   have gk:∀k,σ1.jr k=σ.jr k:=λk=>by grind[N.mr]
   have gd:σ1.gU d=some {ed with kids:=ed.kids++[.el j]}:=by rw[l,N.iK (yZ B),N.jc F]
   have gj:σ1.gU j=some {ej with ji:=some d}:=by rw[l,N.jc (by grind[N.gW])]
   have go:∀i,i≠d->i≠j->σ1.gU i=σ.gU i:=λi K u=>by grind[N.iK]
   have W:d∉iO ks:=λh=>hn (abv _ h);have I:=List.nodup_cons.1 (show(j::iO ks).Nodup from hnd);have⟨σ',K,u⟩:=Is ks (σ:=σ1) (d:=d) (ed:={ed with kids:=ed.kids++[.el j]}) gd (λx hx=>by grind) W I.2 (by grind);refine⟨σ',K,?_,by grind[akk.len,N.oK],by rw[u.dst];simp,?_,λx=>by grind[akk.Fq],?_⟩;have:=u.eq;rwa [l]at this;grind[akk.eC,iO];grind[tu,N.iK,akk.wt]
theorem jJ.hand(h:jJ r σ){d:Nat}{l ed:wN}(D:σ.gU b=some l)(hd:σ.gU d=some ed)(R:b≠d)(a0:ed.kids=[])(a2:ed.ji=none)(hr:∀k∈iO l.kids,r d<r k)(hw:wt σ<999999):
  ∃σ',handOver b d σ=.ok () σ'/\jJ r σ'/\Fx σ σ'/\wt σ'=wt σ/\σ'.gq=σ.gq/\σ'.act=σ.act/\σ'.fresh=σ.fresh/\σ'.nodes.length=σ.nodes.length/\σ'.gU b=some {l with kids:=[]}/\σ'.gU d=some {ed with kids:=l.kids}:=by
 have ai:=N.io D;have a8:d∉iO l.kids:=by
  intro hm;have⟨e2,h1,h2⟩:=h.pc.dn b l d D hm;rw[hd]at h1;cases h1;rw[a2]at h2;cases h2
 have a6:b∉iO l.kids:=by
  intro hm;have⟨e2,h1,h2⟩:=h.pc.dn b l b D hm;have:=h.uK.ji b e2 b h1 h2;omega
 have al:=Lb D;have⟨σ1,h1,h2⟩:=Is l.kids hd (h.pc.kd b l D) a8 (h.pc.nd b l D) (by grind);have lV:σ1.gU b=some l:=by rw[h2.eC b R,Xx a6];exact D
 have a7:σ1.gU d=some {ed with kids:=l.kids}:=by rw[h2.dst,a0];simp
 obtain⟨σ',H⟩:∃σ',σ'=σ1.gW b {l with kids:=[]}:=⟨_,rfl⟩;have hq:handOver b d σ=.ok () σ':=by
  unfold handOver;rw[D];dsimp only;rw[Xx R];change M.bind (wD d l.kids) (λ_ σ'=>match σ'.gU b with|some eb'=> .ok () (σ'.gW b {eb' with kids:=[]})|none=> .stuck) σ=_
  unfold M.bind;rw[h1];dsimp only;rw[lV,H]
 have ag:(σ1.gU b).isSome=true:=by rw[lV];rfl
 have gb:σ'.gU b=some {l with kids:=[]}:=by rw[H,N.jc (by grind[akk.len])]
 have gd:σ'.gU d=some {ed with kids:=l.kids}:=by rw[H,N.iK (yZ R)];exact a7
 have go:∀i,i≠d->i≠b->σ'.gU i=if i∈iO l.kids then (σ.gU i).map (λe=>{e with ji:=some d})else σ.gU i:=λi u W=>by grind[N.iK,akk.eC]
 have gk:∀k,σ'.jr k=σ.jr k:=λk=>by grind[N.mr,akk.Fq]
 have B:σ'={σ with nodes:=σ'.nodes}:=by
  rw[H];have:=h2.eq;show({σ1 with nodes:=_}:N)=_;rw[this];rfl
 have A:∀i F,σ'.gU i=some F->(i=b/\F={l with kids:=[]})\/(i=d/\F={ed with kids:=l.kids})\/(i≠b/\i≠d/\i∈iO l.kids/\∃e,σ.gU i=some e/\F={e with ji:=some d})\/(i≠b/\i≠d/\i∉iO l.kids/\σ.gU i=some F):=by
  intro i F U;by_cases u:i=b;grind;grind[Option.map_eq_some_iff]
 have af:∀i e,σ.gU i=some e->∃F,σ'.gU i=some F/\F.name=e.name:=by
  intro i e U;by_cases u:i=b;grind;grind
 have a1:∀i s,iV σ i s->iV σ' i s:=λi s ⟨e,U,hn⟩=>by
  grind[iV]
 have ac:∀i e p,σ.gU i=some e->e.ji=some p->i∉iO l.kids->∃K,σ'.gU p=some K/\i∈iO K.kids:=by
  intro i e p U hp ae;have⟨K,h5,h6⟩:=h.pc.up i e p U hp;have a3:p≠b:=by rintro rfl;rw[D]at h5;cases h5;exact ae h6
  have a4:p≠d:=by rintro rfl;rw[hd]at h5;cases h5;rw[a0]at h6;cases h6
  rw[go p a4 a3];by_cases X:p∈iO l.kids;grind;grind
 have ah:∀i e p,σ.gU i=some e->i≠b->i≠d->p∈iO e.kids->∃K,σ'.gU p=some K/\K.ji=some i:=by
  intro i e p U aa ak hm;have⟨K,h5,h6⟩:=h.pc.dn i e p U hm;have a4:p≠d:=by rintro rfl;rw[hd]at h5;cases h5;rw[a2]at h6;cases h6
  have am:p∉iO l.kids:=by
   intro ad;have⟨e3,h7,h8⟩:=h.pc.dn b l p D ad;rw[h5]at h7;cases h7;rw[h6]at h8;exact aa (Ki h8)
  by_cases a3:p=b;grind;grind
 have ho:σ'.gq=σ.gq:=by rw[B]
 have a5:σ'.act=σ.act:=by rw[B]
 have a9:σ'.head=σ.head:=by rw[B]
 have aj:σ'.form=σ.form:=by rw[B]
 refine⟨σ',hq,⟨⟨?_,?_,?_,?_⟩,⟨?_,?_,?_⟩,?_,?_,?_,?_,?_,?_,?_,?_,?_,?_⟩,?_,?_,ho,a5,by rw[B],?_,gb,gd⟩;grind
 .intro i e j hi hj;rcases A i e hi with⟨u,rfl⟩|⟨u,rfl⟩|⟨u,W,X,e0,I,rfl⟩|⟨u,W,X,I⟩;cases hj;rw[u];have ab:j∈iO l.kids:=hj;have⟨ej,h5,_⟩:=h.pc.dn b l j D ab;grind
  all_goals grind
 intro i e hi;rcases A i e hi with⟨u,rfl⟩|⟨u,rfl⟩|⟨u,W,X,e0,I,rfl⟩|⟨u,W,X,I⟩;simp[iO];show(iO l.kids).Nodup;exact h.pc.nd b l D;show(iO e0.kids).Nodup;exact h.pc.nd i e0 I;exact h.pc.nd i e I;grind[cX.kd,pc];intro i e p hi hp;rcases A i e hi with⟨u,rfl⟩|⟨u,rfl⟩|⟨u,W,X,e0,I,rfl⟩|⟨u,W,X,I⟩;rw[u];exact h.uK.ji b l p D hp;grind;grind;exact h.uK.ji i e p I hp;rw[ho];exact h.uK.gq;rw[ho,a9];exact h.uK.hd;rw[ho];intro x hx;obtain⟨i,e,rfl,U⟩:=lD (h.gq x hx);grind[N.nk];grind[act];grind[head];grind[form];grind[Pw];grind[yK];grind[Br];grind[TM];grind[XH];grind[wA];rw[B]at a1|-;exact⟨rfl,rfl,rfl,rfl,rfl,rfl,rfl,rfl,rfl,rfl,rfl,a1,λ_=>rfl⟩
 all_goals grind[akk.wt,tu,N.oK,akk.len]
theorem jJ.nodup(h:jJ r σ):σ.gq.Nodup:=h.uK.gq.imp λd e=>by grind
theorem jJ.agW(h:jJ r σ)(B:∀x∈ys,σ.nk x=true)(D:ys.Pairwise λx y=>rk r x<rk r y)(l:ys.head?=σ.gq.head?)(F:ys.length<=σ.qZ):jJ r {σ with gq:=ys}/\Fx σ {σ with gq:=ys}:=by
 refine⟨⟨⟨h.pc.up,h.pc.dn,h.pc.nd,h.pc.kd⟩,⟨h.uK.ji,D,?_⟩,B,h.act,h.head,h.form,?_,F,h.Br,h.TM,h.XH,h.wA⟩,⟨rfl,rfl,rfl,rfl,rfl,rfl,rfl,rfl,rfl,rfl,rfl,λ_ _ h=>h,λ_=>l⟩⟩;intro d x H A;exact h.uK.hd d x H (by grind);intro x rest A;have u:ys=x::rest:=A;rw[u]at l;cases ho:σ.gq with
 |nil=>grind
 |cons y r2=>
  rw[ho]at l;have e:=by simpa using l
  subst e;exact h.Pw x r2 ho
theorem Ww(h:xs[n]?=some x):xs=xs.take n++x::xs.drop (n+1):=by
 grind[List.drop_eq_getElem_cons,List.take_append_drop]
theorem Y3(h:xs[n]?=some x)(d:xs.Nodup):x∉xs.take n:=by
 have e:=Ww h;grind
theorem afk(h:xs[n]?=some x)(d:xs.Nodup):xs.erase x=xs.take n++xs.drop (n+1):=by
 have l:=Y3 h d
 conv=>lhs;rw[Ww h]
 grind
theorem wS(h:xs[n]?=some x)(d:xs.Nodup):xs.idxOf x=n:=by
 grind
def Ca(h:xs[n]?=some x):n<xs.length:=(List.getElem?_eq_some_iff.1 h).1
theorem jJ.xQ(h:jJ r σ){x y:Nat}(l:σ.gq[m]?=some (some x))(u:σ.gq[n]?=some (some y))(d:m<n):r x<r y:=by
 have:=List.pairwise_iff_getElem.1 h.uK.gq m n (Ca l) (Ca u) d
 rwa [(List.getElem?_eq_some_iff.1 l).2,(List.getElem?_eq_some_iff.1 u).2]at this
theorem jJ.VC(h:iV σ i s):σ.nm i=s:=by
 have⟨e,he,hn⟩:=h;grind[N.nm]
theorem Yh(h:σ.gU i=some e):iV σ i (σ.nm i):=⟨e,h,by grind[N.nm]⟩
theorem nA(h:iV σ i s):(σ.gU i).isSome=true:=by have⟨e,he,_⟩:=h;grind
theorem afx(h:(σ.gU i).isSome=true):iV σ i (σ.nm i):=by
 grind[iV,N.nm]
structure RJ(r:Nat->Nat)(σ:N)(f il n pf last mark:Nat):Prop where
 inv:jJ r σ
 eB:(σ.gU last).isSome=true
 low:∀m x,m<n->σ.gq[m]?=some (some x)->r x<r last
 dd:σ.gq[pf]?=some (some f)
 fC:pf<n
 dS:some il∈σ.gq.drop n
 E9:n<=σ.gq.length
 eW:(σ.gU mark).isSome=true
 nt:∀m x,pf<m->σ.gq[m]?=some (some x)->ld (σ.nm x) fQ=false
 fact:some f∈σ.act
theorem RJ.isSome(f:Fx σ σ')(h:(σ.gU i).isSome=true):(σ'.gU i).isSome=true:=nA (f.nm _ _ (afx h))
def Fx.akJ(f:Fx σ σ')(h:(σ.gU i).isSome=true):σ'.nm i=σ.nm i:=jJ.VC (f.nm _ _ (afx h))
def RJ.px(h:jJ r σ){x:Nat}(d:σ.gq[m]?=some (some x)):(σ.gU x).isSome=true:=h.gq _ (ahs d)
def Jn(f il pf c:Nat)(σ:N)(d:qQ (Nat×Nat)):Prop:=match d with
 | .ok lm σ'=>Fx σ σ'/\wt σ'<=wt σ+c/\σ'.fresh=σ.fresh/\∃r,RJ r σ' f il (pf+1) pf lm.1 lm.2
 | .stop _ _=>False
 | .stuck=>False
theorem Jn.pre{f il c c':Nat}{d:qQ (Nat×Nat)}(h:Jn f il pf c σ1 d)(l:Fx σ σ1)(A:wt σ1+c<=wt σ+c')(u:σ1.fresh=σ.fresh):Jn f il pf c' σ d:=by
 cases d with
 |ok lm σ'=>
  have⟨h1,h2,h3,h4⟩:=h;exact⟨l.trans h1,by omega,h3.trans u,h4⟩
 |stop e p=>exact h
 |stuck=>exact h
def aa4(f il n c last h e:Nat):M (Nat×Nat):=λσ=>if some e∉σ.act then (jR (some e)>>=λ_=>mN f il n (c+1) last h) σ else (kq e>>=λd=>yR (some e) (some d)>>=λ_=>pY (some e) (some d)>>=λ_=>lX last>>=λ_=>jg d>>=λpl=>kD pl last>>=λ_=>mN f il n (c+1) d (if last=il then d else h)) σ
def SQ(f il n c last d:Nat)(σ:N):mN f il (n+1) c last d σ=(GG n>>=λe=>if e=f then pure (last,d)else (if 3<c+1 then kM (some e)else pure ())>>=λ_=>aa4 f il n c last d e) σ:=rfl
def zA(o a:kY)(n:Nat):Nat:=((o.take n).filter λx=>decide (x∈a)).length
def Pq{b:kY}(h:n<=m)(d:∀x∈o.take n,x∈b->x∈a):zA o b n<=zA o a m:=by
 unfold zA;have B:((o.take n).filter λx=>decide (x∈b)).length<=((o.take n).filter λx=>decide (x∈a)).length:=by
  rw[<-List.countP_eq_length_filter,<-List.countP_eq_length_filter];refine List.countP_mono_left ?_;intro x A l;simp at l|-;exact d x A l
 have D:((o.take n).filter λx=>decide (x∈a)).length<=((o.take m).filter λx=>decide (x∈a)).length:=by
  have u:(o.take n).Sublist (o.take m):=by
   have e:o.take n=(o.take m).take n:=by rw[Hn,NY h]
   rw[e];exact Tv _ _
  exact(u.filter _).length_le
 omega
theorem abO(h:o[n]?=some x)(d:x∈a):zA o a (n+1)=zA o a n+1:=by
 grind[List.take_add_one,zA]
theorem Qm:∀{xs ys:kY},xs.Nodup->(∀x∈xs,x∈ys)->xs.length<=ys.length
 |[],_,_,_=>xj _
 |x::xs,ys,hn,hs=>by
  have⟨h1,h2⟩:=List.nodup_cons.1 hn;have h:=Qm (ys:=ys.erase x) h2 (λy d=>(lE (by grind)).2 (hs y (abv _ d)));grind
def ahX(d:o.Nodup)(n:Nat):zA o a n<=a.length:=by
 refine Qm ((d.sublist (Tv _ _)).sublist (List.filter_sublist)) ?_;simp
theorem EU(f il pf:Nat)(s:O)(hs:s≠fN):∀(n c last D:Nat){r:Nat->Nat} {σ:N} {K:Nat},RJ r σ f il n pf last D->iV σ f s->zA σ.gq σ.act n<=K->wt σ+K<999990->Jn f il pf K σ (mN f il n c last D σ)
 |0,c,last,D,r,σ,K,h,_,_,_=>absurd h.fC (by omega)
 |n+1,c,last,D,r,σ,K,h,hfn,hK,hw=>by
  have aA:n<σ.gq.length:=by have:=h.E9;omega
  have⟨e,ee,hoe,hel⟩:=h.inv.at aA;have aq:GG n σ=.ok e σ:=by
   unfold GG;rw[ri,aby,hoe];rfl
  rw[SQ,M.gw,aq];dsimp only;by_cases X:e=f;rw[sL X];have a3:n=pf:=by
   have h1:=wS hoe h.inv.nodup;have h2:=wS h.dd h.inv.nodup;rw[X]at h1;omega
  subst a3;exact⟨Fx.refl _,by omega,rfl,r,h⟩
  .rw[Xx X];have a3:n≠pf:=by
    intro a3;rw[a3,h.dd]at hoe;exact X (Ki (Ki hoe)).symm
   have a9:pf<n:=by have:=h.fC;omega
   have hA:∃σ1,(if 3<c+1 then kM (some e)else pure ()) σ=.ok () σ1/\jJ r σ1/\Fx σ σ1/\abE σ σ.gq σ1.act σ1/\some f∈σ1.act/\∀x,x∈σ1.act->x∈σ.act:=by
    by_cases hc:3<c+1;rw[sL hc];unfold kM;rw[sL (by grind[N.gZ])];have⟨g1,g2⟩:=h.inv.EY (ys:=σ.act.erase (some e)) (λi hi=>h.inv.act i (wZ hi)) (jZ (List.length_erase_le) h.inv.Br);exact⟨_,rfl,g1,g2,⟨rfl,rfl,rfl,rfl⟩,(lE (λe0=>X (Ki e0).symm)).2 h.fact,λx R=>wZ R⟩;rw[Xx hc];exact⟨σ,rfl,h.inv,Fx.refl _,⟨rfl,rfl,rfl,rfl⟩,h.fact,λ_ h=>h⟩
   have⟨σ1,q1,i1,f1,l1,a1,sub1⟩:=hA;rw[M.gw,q1];dsimp only;unfold aa4;have o1:=l1.gq;have aI:∀i,σ1.gU i=σ.gU i:=λi=>by grind[abE.nodes,N.gU]
   have an:∀i,σ1.nm i=σ.nm i:=λi=>by grind[N.nm]
   have w1:wt σ1=wt σ:=jx l1.nodes;have W:σ1.gq[n]?=some (some e):=by rw[o1];exact hoe
   have U:=i1.nodup;have ar:σ1.gq.head?≠some (some e):=by
    intro e0;rw[xa]at e0;have h1:=wS e0 U;have h2:=wS W U;omega
   split
   .
    rename_i ak;rw[M.gw];have hq:jR (some e) σ1=.ok () {σ1 with gq:=σ1.gq.erase (some e)}:=by
     unfold jR;rw[sL (by grind[N.gZ])]
    rw[hq];dsimp only;have⟨g1,g2⟩:=i1.sub (ys:=σ1.gq.erase (some e)) List.erase_sublist (Em ar);have he:σ1.gq.erase (some e)=σ1.gq.take n++σ1.gq.drop (n+1):=afk W U;have ay:(σ1.gq.take n).length=n:=by rw[List.length_take];rw[o1];omega
    have aM:∀m,m<n->(σ1.gq.erase (some e))[m]?=σ.gq[m]?:=by
     intro m F;rw[he,ahv (by omega),gM,sL F,o1]
    have aw:∀m,n<=m->(σ1.gq.erase (some e))[m]?=σ.gq[m+1]?:=by
     intro m F;rw[he,Fj (by omega),ay,sQ,o1]
     congr 1;omega
    refine Jn.pre (EU f il pf s hs n (c+1) last D (r:=r) (K:=K) ⟨g1,?_,?_,?_,a9,?_,?_,?_,?_,a1⟩ ?_ ?_ ?_) (f1.trans g2) ?_ l1.fresh;grind[RJ.isSome,RJ.eB];intro m x F R;exact h.low m x (by omega) (by grind);grind[RJ.dd];grind[RJ.dS];grind;grind[RJ.isSome,RJ.eW];intro m x F R;have am:(σ1.gq.erase (some e))[m]?=some (some x):=R;show ld (σ1.nm x) _=_;rw[an];rcases D0 m n with I|I;grind[RJ.nt];rw[aw m I]at am;exact h.nt (m+1) x (by omega) am;grind[Fx.nm];refine jZ ?_ hK;show zA (σ1.gq.erase (some e)) σ1.act n<=_;have e9:zA (σ1.gq.erase (some e)) σ1.act n=zA σ.gq σ1.act n:=by
     unfold zA;rw[he,abt (by omega),NZ (by omega),o1]
    rw[e9];exact Pq (A5 _) (λx _ R=>sub1 x R)
    all_goals grind[wt]
   rename_i ak;have ag:some e∈σ1.act:=by simpa using ak
   have⟨e1,he1,hfm⟩:=i1.act e ag;rw[M.gw,BO he1 hfm];dsimp only;obtain⟨j,hj⟩:∃j,j=σ1.nodes.length:=⟨_,rfl⟩;have⟨i2,f2⟩:=i1.new e1.name e1.gR σ1.fresh (r e);obtain⟨d,u⟩:∃d,d=σ1.qt (.el {name:=e1.name,gR:=e1.gR,ji:=none,kids:=[]}) σ1.fresh:=⟨_,rfl⟩;rw[<-u]at i2 f2|-;have ai:d.gU j=some {name:=e1.name,gR:=e1.gR,ji:=none,kids:=[]}:=by rw[u,hj];exact N.su
   rw[<-hj]at i2|-;have w2:wt d=wt σ1:=by rw[u];exact Hk _ _ _
   have o2:d.gq=σ1.gq:=by rw[u];rfl
   have a2:d.act=σ1.act:=by rw[u];rfl
   have al:∀i,(σ1.gU i).isSome=true->i≠j:=by
    intro i hi e0;have⟨ei,hei⟩:=Option.isSome_iff_exists.1 hi;have:=N.io hei;omega
   have aR:∀i,(σ1.gU i).isSome=true->yL r j (r e) i=r i:=λi hi=>Hg (al i hi);have ah:(σ1.gU e).isSome=true:=by rw[he1];rfl
   have a0:iV d j e1.name:=⟨_,ai,rfl⟩;have ax:d.gq.idxOf (some e)=n:=by rw[o2];exact wS W U
   have az:some e∈d.gq:=by rw[o2];exact ahs W
   have aE:ox d.gq (some e) (some j)=d.gq.set n (some j):=by unfold ox;rw[sL az,ax]
   have aB:yR (some e) (some j) d=.ok () {d with gq:=d.gq.set n (some j)}:=by
    unfold yR;rw[sL (by rw[xh];exact⟨RJ.isSome f2 ah,nA a0⟩),aE]
   have a4:∀m,(d.gq.set n (some j))[m]?=if m=n then some (some j)else σ.gq[m]?:=by
    intro m;rw[List.getElem?_set];by_cases F:n=m;grind;grind
   have aQ:1<=n:=by omega
   have⟨i3,f3⟩:=i2.agW (ys:=d.gq.set n (some j)) (by
     intro x R;rcases List.mem_or_eq_of_mem_set R with R|rfl;grind[jJ.gq];exact nA a0) (by
     rw[List.pairwise_iff_getElem];intro a b ha hb ap;have ae:a<σ.gq.length:=by simpa [o2,o1]using ha
     have af:b<σ.gq.length:=by simpa [o2,o1]using hb
     have H:∀m (F:m<(d.gq.set n (some j)).length) (a8:m<σ.gq.length),rk (yL r j (r e)) ((d.gq.set n (some j))[m])=rk r (σ.gq[m]):=by
      intro m F a8;have h1:=a4 m;rw[yG F]at h1;by_cases I:m=n;grind[rk,yL];rw[Xx I,yG a8]at h1;rw[Ki h1];have⟨y,ey,hy,aa⟩:=lD (h.inv.gq _ (wK a8));grind[rk]
     rw[H a ha ae,H b hb af];exact List.pairwise_iff_getElem.1 h.inv.uK.gq a b ae af ap) (by
     grind[List.head?_eq_getElem?]) (by
     grind[jJ.yK])
   rw[M.gw,aB];dsimp only;obtain⟨l,A⟩:∃l,l=({d with gq:=d.gq.set n (some j)}:N):=⟨_,rfl⟩;rw[<-A]at i3 f3|-;have aC:pY (some e) (some j) l=.ok () {l with act:=ox l.act (some e) (some j)}:=by
    unfold pY;rw[sL (by rw[xh];exact⟨RJ.isSome f3 (RJ.isSome f2 ah),nA (f3.nm _ _ a0)⟩)]
   have⟨i4,f4⟩:=i3.EY (ys:=ox l.act (some e) (some j)) (λi hi=>by
     grind[GQ,jJ.act,N.gU]) (by grind[Na,jJ.Br])
   rw[M.gw,aC];dsimp only;obtain⟨ac,B⟩:∃ac,ac=({l with act:=ox l.act (some e) (some j)}:N):=⟨_,rfl⟩;rw[<-B]at i4 f4|-;have ad:=((f1.trans f2).trans f3).trans f4;have aj:=RJ.isSome ad h.eB;have⟨elast,hlast⟩:=Option.isSome_iff_exists.1 aj;have⟨σ5,q5,i5,f5,w5,o5,a5,r5,n5,e5,he5,hp5,_⟩:=i4.lX hlast;rw[M.gw,q5];dsimp only;have⟨ej5,hj5,hjn5⟩:=f5.nm _ _ (f4.nm _ _ (f3.nm _ _ a0));have aD:jg j σ5=.ok (j,ej5.kids.length) σ5:=by unfold jg;rw[hj5]
   rw[M.gw,aD];dsimp only;have aP:r e<r last:=h.low n e (by omega) hoe;have aF:(σ1.gU last).isSome=true:=RJ.isSome f1 h.eB;have aH:wt σ5<=wt σ:=by
    have e4:wt ac=wt l:=by rw[B];rfl
    have e3:wt l=wt d:=by rw[A];rfl
    omega
   have⟨σ6,q6,i6,f6,w6,o6,a6,r6,n6,g6,_⟩:=i5.put (pl:=(j,ej5.kids.length)) ⟨ej5,hj5,ic _⟩ he5 hp5 (by
    grind[yL]) (by omega)
   rw[M.gw,q6];dsimp only;have a7:=(ad.trans f5).trans f6;have ab:σ6.gq=d.gq.set n (some j):=by rw[o6,o5,B];show l.gq=_;rw[A]
   have j6:iV σ6 j e1.name:=f6.nm _ _ ⟨ej5,hj5,hjn5⟩;have ao:σ6.act=ox σ1.act (some e) (some j):=by
    rw[a6,a5,B];show ox l.act (some e) (some j)=_;rw[A];show ox d.act (some e) (some j)=_;rw[a2]
   have aL:zA σ.gq σ.act (n+1)=zA σ.gq σ.act n+1:=abO hoe (sub1 _ ag);have aK:zA σ6.gq σ6.act n<=zA σ.gq σ.act n:=by
    have e9:zA σ6.gq σ6.act n=zA σ.gq σ6.act n:=by
     unfold zA;rw[ab,List.take_set_of_le (ic _),o2,o1]
    rw[e9];refine Pq (ic _) ?_;intro y hy F;rw[ao]at F;rcases GQ F with F|F;grind;exfalso;have aa:=List.mem_of_mem_take hy;rw[F]at aa;have:=h.inv.II aa;grind[abE.nodes]
   refine Jn.pre (EU f il pf s hs n (c+1) j (if last=il then j else D) (r:=yL r j (r e)) (K:=K-1) ⟨i6,nA j6,?_,?_,a9,?_,?_,?_,?_,?_⟩ (a7.nm _ _ hfn) (by omega) (by omega)) a7 (by omega) ?_;grind[jJ.xQ];grind[RJ.dd];rw[ab];have F:some il∈σ.gq.drop (n+1):=h.dS;have⟨k,hk⟩:=Fk F;rw[sQ]at hk;refine ahs (i:=k+1) ?_;grind;grind;grind[RJ.isSome,RJ.eW];intro m x F R;rw[ab,a4 m]at R;by_cases I:m=n;rw[sL I]at R;cases R;rw[jJ.VC j6];have h3:=h.nt n e a9 hoe
   rwa [<-an,show σ1.nm e=e1.name from jJ.VC ⟨e1,he1,rfl⟩]at h3
   rw[Xx I]at R;rw[a7.akJ (RJ.px h.inv R)];grind[RJ.nt];rw[a6,a5,B];show some f∈ox l.act (some e) (some j);have au:some f∈l.act:=by rw[A];show some f∈d.act;rw[a2];exact a1
   unfold ox;split;have⟨k,hk⟩:=Fk au;refine ahs (i:=k) ?_;grind;omega;rw[r6,r5,B];show l.fresh=_;rw[A];show d.fresh=_;rw[u];exact l1.fresh
theorem jJ.anR(h:jJ r σ):jJ (λi=>2*r i) σ:=by
 refine {h with uK:=⟨λi e p A B=>?_,h.uK.gq.imp_of_mem ?_,λd x u l=>?_⟩};have:=h.uK.ji i e p A B;omega;intro x y l F D;obtain⟨i,_,rfl,_⟩:=lD (h.gq x l);obtain⟨j,_,rfl,_⟩:=lD (h.gq y F);grind[rk];have:=h.uK.hd d x u l;omega
theorem XK(h:σ.gZ x=true):kM x σ=.ok () {σ with act:=σ.act.erase x}:=by
 grind[kM]
theorem MU(h:σ.gZ x=true):jR x σ=.ok () {σ with gq:=σ.gq.erase x}:=by
 grind[jR]
theorem DS(xs:kY)(x y:jj):(iY xs x y).length<=xs.length+1:=by
 grind[iY]
theorem zk(h:z∈iY xs x y):z∈xs\/z=y:=by
 grind[iY]
theorem OR(h:z∈xs):z∈iY xs x y:=by
 grind[List.take_append_drop,iY]
theorem jJ.Ua(h:jJ r σ){f:Nat}(d:σ.gq[pf]?=some (some f))(u:1<=pf):∃a,ahead f σ=.ok a σ/\σ.gq[pf-1]?=some (some a):=by
 have⟨a,ea,ha,_⟩:=h.at (n:=pf-1) (by grind);unfold ahead;have l:posOf σ.gq (some f)=(pf):=by unfold posOf;rw[(wS d h.nodup),sL (Ca d)]
 grind[ri]
theorem OW(h:jJ r σ){f a:Nat}(A:σ.gq[pf]?=some (some f))(I:1<=pf)(d:σ.gq[pf-1]?=some (some a))(B:ld (σ.nm f) fQ=false)(K:∀m x,pf<m->σ.gq[m]?=some (some x)->ld (σ.nm x) fQ=false):∃pl,placeFor a σ=.ok pl σ/\Dy σ pl/\r pl.1<r f:=by
 have u:=h.xQ d A (by omega);have⟨a',ea,e1,hea⟩:=lD (h.gq _ (ahs d));cases e1;unfold placeFor;split;have⟨pl,h1,h2,_,l⟩:=B9 h (List.ne_nil_of_mem (ahs d));rcases l with⟨i,D,H,_,F⟩|l;have⟨k,hk⟩:=Fk D;grind[jJ.xQ];grind[ri,jJ.xQ];unfold jg;rw[hea];grind[Dy]
def Vv(f il:Nat)(σ:N):vf f il σ=(zm f il>>=λh=>lX h.1>>=λ_=>ahead f>>=λa=>placeFor a>>=λpl=>kD pl h.1>>=λ_=>kq f>>=λd=>handOver il d>>=λ_=>jg il>>=λpl=>kD pl d>>=λ_=>od (some h.2) (some d)>>=λ_=>kM (some f)>>=λ_=>jR (some f)>>=λ_=>pK (some il) (some d)>>=λ_=>(pure ():M Unit)) σ:=rfl
theorem Vw(h:nU σ){f il pb:Nat}(hs:sN s=true)(a9:iV σ f s)(aA:some f∈σ.act)(hf:σ.gq[pf]?=some (some f))(hb:σ.gq[pb]?=some (some il))(aF:pf<pb)(nt:∀m x,pf<m->σ.gq[m]?=some (some x)->ld (σ.nm x) fQ=false)(hw:wt σ<999900):jH 36 σ (vf f il σ) (λ_ σ'=>σ'.fresh=σ.fresh):=by
 have⟨r,h⟩:=h;have ap:s≠fN:=F2 hs;have aS:σ.gq.length<=64:=jZ h.yK h.TM;have ao:=Ca hb;have an:1<=pf:=by
  rcases Jc pf with h0|h0;grind[jJ.Gy,List.head?_eq_getElem?];exact h0
 have wO:=RJ.px h hb;rw[Vv,M.gw];have aI:zm f il σ=mN f il pb 0 il f σ:=by
  unfold zm;have h1:=wS hb h.nodup;have h2:posOf σ.gq (some il)=(pb:Int):=by unfold posOf;rw[h1,sL ao]
  rw[h2];rfl
 have H:=EU f il pf s ap pb 0 il f (r:=r) (σ:=σ) ⟨h,wO,λm x hm B=>h.xQ B hb hm,hf,aF,by
  refine ahs (i:=0) ?_;grind,by omega,nA a9,nt,aA⟩ a9 (K:=32) (jZ (ahX h.nodup _) (jZ h.Br h.XH)) (by omega)
 rw[aI];revert H;cases mN f il pb 0 il f σ with
 |stop e p=>simp[Jn]
 |stuck=>simp[Jn]
 |ok lm σ1=>
  rintro⟨f1,w1,aX,U,b4⟩;dsimp only;have⟨last,mark⟩:=lm;dsimp only at b4|-;have⟨el,hel⟩:=Option.isSome_iff_exists.1 b4.eB;have⟨σ2,q2,i2,f2,w2,o2,a2,r2,n2,e2,he2,hp2,_⟩:=b4.inv.lX hel;rw[M.gw,q2];dsimp only;have aj:σ2.gq[pf]?=some (some f):=by rw[o2];exact b4.dd
  have⟨a,qa,ha⟩:=i2.Ua aj an;rw[M.gw,qa];dsimp only;have ad:iV σ2 f s:=f2.nm _ _ (f1.nm _ _ a9);have aC:ld (σ2.nm f) fQ=false:=by
   rw[jJ.VC ad];cases B:ld s fQ with
   |false=>rfl
   |true=>
    have:=ry B;subst this;simp[sN,gO,ld,sd]at hs
  have aM:∀m x,pf<m->σ2.gq[m]?=some (some x)->ld (σ2.nm x) fQ=false:=by
   intro m x hm B;rw[o2]at B;rw[f2.akJ (RJ.px b4.inv B)];exact b4.nt m x hm B
  have⟨pl,q3,p3,k3⟩:=OW i2 aj an ha aC aM;rw[M.gw,q3];dsimp only;have b1:U f<U last:=b4.low pf f (by omega) b4.dd;have⟨σ3,q4,i3,f3,w3,o3,a3,r3,n3,_,_⟩:=i2.put p3 he2 hp2 (by omega) (by omega);rw[M.gw,q4];dsimp only;have ae:iV σ3 f s:=f3.nm _ _ ad;have⟨ef,hef,hefn⟩:=id ae;rw[M.gw,BO hef (by grind)];dsimp only;have ax:some il∈σ3.gq:=by
   rw[o3,o2];exact yC b4.dS
  have⟨blk',eb,e1,heb⟩:=lD (i3.gq _ ax);cases e1;obtain⟨j,hj⟩:∃j,j=σ3.nodes.length:=⟨_,rfl⟩;have⟨i4,f4⟩:=i3.anR.new ef.name ef.gR σ3.fresh (2*U il+1);obtain⟨A,u⟩:∃A,A=σ3.qt (.el {name:=ef.name,gR:=ef.gR,ji:=none,kids:=[]}) σ3.fresh:=⟨_,rfl⟩;rw[<-u]at i4 f4|-;rw[<-hj]at i4|-;obtain⟨R,hR⟩:∃R,R=yL (λi=>2*U i) j (2*U il+1):=⟨_,rfl⟩;rw[<-hR]at i4;have a0:A.gU j=some {name:=ef.name,gR:=ef.gR,ji:=none,kids:=[]}:=by rw[u,hj];exact N.su
  have al:∀i,(σ3.gU i).isSome=true->i≠j:=by
   intro i hi e0;have⟨ei,ai⟩:=Option.isSome_iff_exists.1 hi;have:=N.io ai;omega
  have W:∀i,(σ3.gU i).isSome=true->R i=2*U i:=λi hi=>by rw[hR];grind[yL]
  have Rj:R j=2*U il+1:=by rw[hR];exact I9 _ _ _
  have X:(σ3.gU il).isSome=true:=by rw[heb];rfl
  have ay:il≠j:=al il X;have ah:A.gU il=some eb:=by rw[u];show(σ3.add _).gU il=_;rw[N.tW (N.io heb)];exact heb
  have w4:wt A=wt σ3:=by rw[u];exact Hk _ _ _
  have o4:A.gq=σ3.gq:=by rw[u];rfl
  have a4:A.act=σ3.act:=by rw[u];rfl
  have r4:A.fresh=σ3.fresh:=by rw[u];rfl
  have⟨σ5,q5,i5,f5,w5,o5,a5,r5,n5,b5,d5⟩:=i4.hand ah a0 ay rfl rfl (by
   intro k hk;have⟨ek,h1,h2⟩:=i3.pc.dn il eb k heb hk;have h3:=i3.uK.ji k ek il h1 h2;grind) (by omega)
  rw[M.gw,q5];dsimp only;have q6:jg il σ5=.ok (il,0) σ5:=by unfold jg;rw[b5];rfl
  rw[M.gw,q6];dsimp only;have⟨σ6,q7,i6,f6,w6,o6,a6,r6,n6,_,_⟩:=i5.put (pl:=(il,0)) ⟨_,b5,xj _⟩ d5 rfl (by
   grind) (by omega)
  rw[M.gw,q7];dsimp only;have F6:=((((f1.trans f2).trans f3).trans f4).trans f5).trans f6;have aa:iV σ6 j ef.name:=f6.nm _ _ (f5.nm _ _ ⟨_,a0,rfl⟩);have af:iV σ6 f s:=f6.nm _ _ (f5.nm _ _ (f4.nm _ _ ae));have aL:(σ6.gU mark).isSome=true:=RJ.isSome (((((f2.trans f3).trans f4).trans f5).trans f6)) b4.eW;have au:σ6.act=σ1.act:=by rw[a6,a5,a4,a3,a2]
  have ab:σ6.gq=σ1.gq:=by rw[o6,o5,o4,o3,o2]
  have aT:σ6.act.length<=32:=jZ i6.Br i6.XH;have b3:σ6.gq.length<=64:=jZ i6.yK i6.TM;have aW:some f∈σ6.act:=by rw[au];exact b4.fact
  have q8:od (some mark) (some j) σ6=.ok () {σ6 with act:=iY σ6.act (some mark) (some j)}:=by
   unfold od;rw[sL];rw[xh,xh];exact⟨⟨aL,nA aa⟩,by grind⟩
  rw[M.gw,q8];dsimp only;have q9:kM (some f) {σ6 with act:=iY σ6.act (some mark) (some j)}=.ok () {σ6 with act:=(iY σ6.act (some mark) (some j)).erase (some f)}:=XK (σ:={σ6 with act:=iY σ6.act (some mark) (some j)}) (nA af);rw[M.gw,q9];dsimp only;have⟨i7,f7⟩:=i6.EY (ys:=(iY σ6.act (some mark) (some j)).erase (some f)) (λi hi=>by
   rcases zk (wZ hi)with hi|hi;exact i6.act i hi;grind) (by
   grind[DS,OR,jJ.Br])
  obtain⟨l,F⟩:∃l,l=({σ6 with act:=(iY σ6.act (some mark) (some j)).erase (some f)}:N):=⟨_,rfl⟩;rw[<-F]at i7 f7|-;have o7:l.gq=σ6.gq:=by rw[F]
  have ag:iV l f s:=f7.nm _ _ af;have b2:iV l j ef.name:=f7.nm _ _ aa;have ak:l.gq[pf]?=some (some f):=by rw[o7,ab];exact b4.dd
  have am:=i7.Gy ag ap;have aP:jR (some f) l=.ok () {l with gq:=l.gq.erase (some f)}:=MU (nA ag);rw[M.gw,aP];dsimp only;have⟨i8,f8⟩:=i7.sub (ys:=l.gq.erase (some f)) List.erase_sublist (Em am);obtain⟨d,I⟩:∃d,d=({l with gq:=l.gq.erase (some f)}:N):=⟨_,rfl⟩;rw[<-I]at i8 f8|-;have o8:d.gq=l.gq.erase (some f):=by rw[I]
  have aB:f≠il:=by
   rintro rfl;have h1:=wS hf h.nodup;have h2:=wS hb h.nodup;omega
  have a8:some il∈d.gq:=by
   rw[o8];refine(lE (λe0=>aB (Ki e0).symm)).2 ?_;rw[o7,ab];exact yC b4.dS
  have⟨kb,hkb⟩:=Fk a8;have b0:=Ca hkb;have aD:=wS hkb i8.nodup;have ac:=f7.trans f8;have ar:iV d j ef.name:=ac.nm _ _ aa;have aE:d.gq.length+1=l.gq.length:=by
   rw[o8,List.length_erase_of_mem (ahs ak)];have:=Ca ak;omega
  have a1:iY d.gq (some il) (some j)=d.gq.take (kb+1)++[some j]++d.gq.drop (kb+1):=by
   unfold iY;rw[sL a8,aD]
  have aQ:pK (some il) (some j) d=.ok () {d with gq:=iY d.gq (some il) (some j)}:=by
   unfold pK;rw[sL];rw[xh,xh];refine⟨⟨?_,nA ar⟩,?_⟩;exact i8.gq _ a8;grind
  rw[M.gw,aQ];dsimp only;have D:∀x∈d.gq,∃i,x=some i/\R i=2*U i:=by
   intro x B;have aK:x∈σ3.gq:=by
    rw[o8]at B;have:=wZ B;rw[o7,ab]at this;rw[o3,o2];exact this
   obtain⟨i,ei,rfl,ai⟩:=lD (i3.gq x aK);exact⟨i,rfl,W i (by grind)⟩
  have aH:=i8.uK.gq;have aR:R il=2*U il:=W il X;have⟨i9,f9⟩:=i8.agW (ys:=iY d.gq (some il) (some j)) (by
   intro x B;rcases zk B with B|rfl;grind[jJ.gq];exact nA ar) (by
   rw[a1,vu];have aq:d.gq=d.gq.take (kb+1)++d.gq.drop (kb+1):=(QV _ _).symm;have a7:=aH;rw[aq]at a7;have⟨p1,p2,p3⟩:=List.pairwise_append.1 a7;refine List.pairwise_append.2 ⟨p1,List.pairwise_cons.2 ⟨?_,p2⟩,?_⟩;intro y hy;obtain⟨i,rfl,aw⟩:=D y (yC hy);have az:some il∈d.gq.take (kb+1):=by
    refine ahs (i:=kb) ?_;rw[gM,sL (by omega)];exact hkb
   have h1:R il<R i:=p3 _ az _ hy;grind[rk]
   .intro x B y hy;rcases List.mem_append.1 hy with hy|hy
    .rw[List.mem_singleton.1 hy];obtain⟨i,rfl,aw⟩:=D x (List.mem_of_mem_take B);show R i<R j;have⟨k,hk⟩:=Fk B;rw[gM]at hk;split at hk
     all_goals grind[jJ.xQ]
    grind) (by
   rw[a1,vu];cases ho8:d.gq<;>grind) (by
   grind[jJ.yK])
  have wf:wt ({d with gq:=iY d.gq (some il) (some j)}:N)=wt σ6:=by
   show wt d=_;rw[I];show wt l=_;rw[F];rfl
  refine⟨⟨_,i9⟩,(F6.trans ac).trans f9,by omega,?_⟩;grind
theorem Js(σ:N)(f b:Nat):∀(ys:kY)(d:jj),σ.tV f ys d=some b->d=some b\/∃k:Nat,ys[k]?=some (some b)/\∀l:Nat,l<=k->ys[l]?≠some (some f)
 |[],d,h=> .inl h
 |x::ys,d,h=>by
  unfold N.tV at h;by_cases B:x=some f;grind;rw[Xx B]at h;rcases Js σ f b ys _ h with A|⟨k,A,D⟩;by_cases F:kT (σ.mu x)=true;refine .inr ⟨0,by grind,λl u=>?_⟩;grind;grind;refine .inr ⟨k+1,A,λl u=>?_⟩;grind
theorem DO(σ:N)(f:Nat):∀(ys:kY),σ.oo f ys=true->∀(k:Nat)(x:jj),ys[k]?=some x->(∀d:Nat,d<=k->ys[d]?≠some (some f))->iI (σ.mu x)=false
 |[],h,k,x,hx,_=>by grind
 |y::ys,h,k,x,hx,hno=>by
  unfold N.oo at h;rw[Xx (λe=>hno 0 (xj _) (by grind))]at h;by_cases l:iI (σ.mu y)=true;grind;rw[Xx l]at h;cases k with
  |zero=>
   grind
  |succ k=>exact DO σ f ys h k x hx (λd u=>hno (d+1) (by omega))
theorem zi(σ:N)(s:O):∀{ys:kY} {f:Nat},σ.rN s ys=some f->some f∈ys/\ld (σ.nm f) s=true
 |[],f,h=>by cases h
 |none::_,f,h=>by cases h
 |some i::ys,f,h=>by
  unfold N.rN at h;by_cases d:ld (σ.nm i) s=true;grind;rw[Xx d]at h;have⟨h1,h2⟩:=zi σ s h;grind
theorem WX:iI fQ=true:=by
 kernel_rfl
theorem zG{x:O}:gO [s] x=ld x s:=by simp[gO]
theorem UU(h:sN s=true):gO [s] fN=false:=by
 grind[zG,ry,F2]
theorem FY(h:nU σ)(hs:s≠fN):jH 0 σ (tj s σ) (λ_ σ'=>ww σ σ'):=by
 refine jH.iM ((yf h _ _ ?_).mono (ic _) (λ_ _ _ _ h=>h.1));grind[zG,ry]
theorem N7(h:nU σ)(hs:sN s=true)(hw:wt σ<999900):jH 36 σ (nu s σ) (λ_ σ'=>σ'.fresh=σ.fresh):=by
 unfold nu;cases hl:σ.oO s with
 |none=>
  dsimp only;refine jH.bind ((FY h (F2 hs)).mono (xj 36) (λ_ _ _ _ h=>h)) (c2:=0) ?_ (by omega);grind[jH.ret,ww.fresh]
 |some f=>
  dsimp only;have⟨U,hn⟩:=zi σ s hl;have B:some f∈σ.act:=List.mem_reverse.1 U;have⟨r,hr⟩:=id h;have⟨ef,hef,_⟩:=hr.act f B;have u:iV σ f s:=by
   have l:=Yh hef
   rwa [ry hn]at l
  have I:(σ.gU f).isSome=true:=by rw[hef];rfl
  split;refine jH.bind ((Ae h (x:=some f) I).mono (xj 36) (λ_ _ _ _ h=>h)) (c2:=0) ?_ (by omega);grind[jH.ret,abE.fresh];rename_i ho;have F:some f∈σ.gq:=by simpa using ho
  split;exact⟨h,Fx.refl _,by omega,rfl⟩;rename_i K;cases hb:σ.pq f with
  |none=>
   dsimp only;refine jH.bind ((Y6 h u (F2 hs) F).mono (xj 36) (λ_ _ _ _ h=>h)) (c2:=0) ?_ (by omega);rintro _ σ1 i1 f1 _ q1;refine jH.bind (Ae i1 (x:=some f) (nA (f1.nm _ _ u))) (c2:=0) ?_ (by omega);rintro _ a3 i2 _ _ q2;exact jH.ret i2 (q2.fresh.trans q1.fresh)
  |some b=>
   dsimp only;have⟨pf,hpf⟩:=Fk F;have W:=Ca hpf;have d:∀k,k<σ.gq.length->σ.gq.reverse[k]?=σ.gq[σ.gq.length-1-k]?:=λk D=>List.getElem?_reverse D;have X:∀k,σ.gq.reverse[k]?=some (some f)->k=σ.gq.length-1-pf:=by
    intro k D;have A:k<σ.gq.length:=by simpa using (List.getElem?_eq_some_iff.1 D).1
    rw[d k A]at D;have l:=wS D hr.nodup;have h2:=wS hpf hr.nodup;omega
   rcases Js σ f b σ.gq.reverse none hb with l|⟨k,l,h2⟩;cases l;have A:k<σ.gq.length:=by simpa using (List.getElem?_eq_some_iff.1 l).1
   have a1:k<σ.gq.length-1-pf:=by
    rcases D0 k (σ.gq.length-1-pf)with R|R;exact R;grind
   rw[d k A]at l;refine jH.bind ((Vw h hs u B hpf l (by omega) ?_ hw).mono (ic _) (λ_ _ _ _ h=>h)) (c2:=0) ?_ (by omega);intro m x U hx;have a2:=Ca hx;have H:=DO σ f σ.gq.reverse (by simpa [N.pi]using K) (σ.gq.length-1-m) (some x) (by
    rw[d _ (by omega),show σ.gq.length-1-(σ.gq.length-1-m)=m by omega];exact hx) (by
    grind)
   cases hq:ld (σ.nm x) fQ with
   |false=>rfl
   |true=>
    have e:=ry hq;have a0:iI (σ.nm x)=false:=H;grind[WX]
   grind[jH.ret]
theorem Ly(hs:sN s=true):∀(k:Nat){σ:N},nU σ->wt σ+36*k<999900->jH (36*k) σ (tQ s k σ) (λ_ σ'=>σ'.fresh=σ.fresh)
 |0,σ,h,_=>⟨h,Fx.refl _,ic _,rfl⟩
 |k+1,σ,h,hw=>by
  refine jH.bind (N7 h hs (by omega)) (c2:=36*k) ?_ (by omega);rintro b σ1 d l A u;cases b with
  |true=>
   refine(Ly hs k d (by omega)).mono (ic _) ?_;grind
  |false=>grind[jH.ret]
theorem Hw(h:nU σ)(l:σ.gq≠[])(hs:sN s=true)(B:wt σ<999100):jH 288 σ (xf s σ) (λ_ σ'=>σ'.fresh=σ.fresh):=by
 have⟨r,hr⟩:=id h;have⟨i,e,h1,h2,h3,h4⟩:=Sl hr l;unfold xf;rw[h1];dsimp only;split;rename_i u;rw[xh]at u;have d:σ.current (gO [s])=true:=by
  unfold N.current;rw[h1];show gO [s] _=true;rw[zG];exact u.1
 refine jH.bind ((zN h (yO h (gO [s]) (UU hs) d)).mono (xj 288) (λ_ _ _ _ h=>h)) (c2:=0) ?_ (by omega);rintro x σ1 A _ _⟨rfl,_⟩;exact⟨A,Fx.refl _,ic _,rfl⟩;grind[Ly]
def Rel.drewN(h:Rel E L σ w)(q:Nat):Rel E L σ (w.drewN q):=h.ir ((Z.refl _ _).drewN q)
def Fr.drewN(w:J)(q:Nat):Fr bs w (w.drewN q):=.ib ((Z.refl _ _).drewN q)
def kZ(w:J)(k c p:Nat):Prop:=w.heap[k]?=some (gH #[G c,G p] 79)
abbrev rW(k:Nat):Ending:=.panicked [{v:=.iface 74 (gI k),recovered:=false}]
abbrev Bp(E:Env):gP:=gI E.bB
def Te(h:Rel E L σ w)(c:Nat):
  Calls prog 261 #[Bp E,G c] w λe w'=>∃k,e=rW k/\kZ w' k c σ.gQ/\Fr E.bs w w':=by
 have u:=h.X0;have l:=h.lt;have d:=Fr.ib (bs:=E.bs) ((Z.refl [] w).alloc (gH #[G c,G σ.gQ] 79));go_enter func261,ntmps261;go_wp2;exact⟨rfl,_,rfl,(fU w (gH #[G c,G σ.gQ] 79)),d⟩
def Rel.acV(h:Rel E L σ w):Ci ⟨E.bB,188,none⟩ w=σ.gq.length:=by
 have⟨C,hL,_⟩:=h.AA;rw[hL.Ci,C5]
def xO(xs:kY)(y:jj):iC (xs++[y]) (((xs++[y]).length:Int)-1)=y:=ub xs y
def afY:iC ([]:kY) ((([]:kY).length:Int)-1)=none:=rfl
theorem yv(xs:kY):xs=[]\/∃ys y,xs=ys++[y]:=by
 rcases pU xs with h|⟨zs,y,h⟩
 all_goals grind
theorem Rel.px(h:Rel E L σ w)(d:x∈σ.gq):∃i e,x=some i/\σ.gU i=some e:=by
 have:=h.wf.gq x d;cases x with
 |none=>cases this
 |some i=>
  have⟨e,he⟩:=Option.isSome_iff_exists.1 (show(σ.gU i).isSome=true from this);grind
def Rel.wU(h:Rel E L σ w)(d:σ.gU i=some e):w.cell? ⟨L.gQ i,0,none⟩=some (Y (σ.nm i)):=by
 have:σ.nm i=e.name:=by unfold N.nm;rw[d]
 rw[this,fP (h.wB d).il];rfl
def Ask.dW{bm:Nat}(h:Ask bm v p w)(d:Fr bs w w'):Ask bm v p w':=h.fr (d.n bm)
def An(h:Rel E L σ w)(v:gP)(p:O->Bool)(D:Ask E.bm v p w):
  Calls prog 211 #[Bp E,v] w λe w'=>e=iA (.bool (σ.current p))/\w'=w:=by
 obtain⟨k,U,rfl,R,F⟩:=D.call;have l:=Y7 h;rcases yv σ.gq with u|⟨ys,y,u⟩
 .have d:σ.current p=false:=by unfold N.current N.last;rw[u];rfl
  rw[d];rw[u,afY]at l;have A:=V l;clear l;go_enter func211,ntmps211;go_wp21;refine A.mono ?_;rintro e w'⟨rfl,rfl⟩;go_wp2;go_ret;simp
 .obtain⟨i,K,rfl,H⟩:=h.px (x:=y) (by rw[u];simp);have d:σ.current p=p (σ.nm i):=by unfold N.current N.last;rw[u,xO]
  rw[d];rw[u,xO]at l;have I:=h.wU H;have A:=V (show Calls prog 170 #[j5 E.bB 188] w (λe w'=>e=iA (gI (L.gQ i))/\w'=w)from l);have B:=F w (x9.refl _ _) (σ.nm i);generalize p (σ.nm i)=r at B|-;clear l;go_enter func211,ntmps211;go_wp21;refine A.mono ?_;rintro e w'⟨rfl,rfl⟩;go_wp21;refine B.mono ?_;rintro e w'⟨rfl,rfl⟩;go_wp2;go_ret;simp
def agx(h:Rel E L σ w)(v:gP)(p:O->Bool)(u:Ask E.bm v p w):
  Calls prog 232 #[Bp E,v] w λe w'=>e=qs/\To E L (σ.GH p) w w':=by
 have d:=An h v p u;have A:=VI h;have B:=h.to (Fr.refl w);obtain⟨k,D,rfl,_,_⟩:=u.call;unfold N.GH;cases hcur:σ.current p with
 |false=>
  rw[hcur]at d;go_enter func232,ntmps232;go_wp21;refine d.mono ?_;rintro e w'⟨rfl,rfl⟩;go_wp2;go_end0;exact⟨rfl,B⟩
 |true=>
  rw[hcur]at d;go_enter func232,ntmps232;go_wp21;refine d.mono ?_;rintro e w'⟨rfl,rfl⟩;go_wp21;refine A.mono ?_;rintro e w'⟨rfl,l⟩;go_wp2;go_end0;exact⟨rfl,l⟩
structure Q5(E:Env)(L:Loc)(σ:N)(w:J)(ys:kY)(wr:J):Prop where
 ex:∃L1,L1.gQ=L.gQ/\Rel E L1 {σ with gq:=ys} wr/\Fr E.bs w wr
def aka(h:Rel E L σ w)(v:gP)(p:O->Bool)(ha:Ask E.bm v p w):
  Calls prog 284 #[Bp E,v] w λe w'=>e=qs/\To E L (σ.CG p) w w':=by
 obtain⟨k,lb,rfl,he,HC⟩:=ha.call;have H0:Hid (Q5 E L σ w σ.gq w):=V ⟨L,rfl,h,Fr.refl w⟩;go_enter func284,ntmps284;go_wp2
 go_loopw [] (λwr=>∃ys,σ.yW p ys.reverse=σ.yW p σ.gq.reverse/\Q5 E L σ w ys wr) (λwr=>Ci ⟨E.bB,188,none⟩ wr)
 case atStart=>exact⟨_,rfl,H0⟩
 case round=>
  have⟨ys,hu,⟨L1,e1,hR,HFR⟩⟩:=hrel;have E1:=V e1;clear e1;have R:=V hR.acV;have A:=agn hR;have H:=VI hR;rcases yv ys with rfl|⟨zs,y,rfl⟩
  .have K:Hid (To E L (σ.CG p) w wr):=by
    refine⟨L1,E1,?_,HFR⟩;have:(σ.yW p σ.gq.reverse).reverse=[]:=by rw[<-hu];rfl
    unfold N.CG;rw[this];exact hR
   clear hR hu;go_wp21;refine A.mono ?_;rintro e w'⟨rfl,rfl⟩;go_wp2;go_end0;exact⟨rfl,K⟩
  .obtain⟨i,e0,rfl,W⟩:=hR.px (x:=y) (by simp);have a0:σ.yW p ((zs++[some i]).reverse)=if p (σ.nm i)then zs.reverse else σ.yW p zs.reverse:=by rw[kU];rfl
   rw[a0]at hu;have a1:0<(zs++[some i]).length:=by simp
   dsimp only at A H;rw[xO]at H;have I:=(show Calls prog 175 #[j5 E.bB 188] wr (λe w'=>e=iA (gI (L1.gQ i))/\To E L1 {σ with gq:=(zs++[some i]).dropLast} wr w')from H);have D:=V hu;have u:(0:Int)<((zs++[some i]).length:Int):=by omega
   obtain⟨m,hm⟩:∃m,m=(zs++[some i]).length:=⟨_,rfl⟩;have HM:=V (show m=zs.length+1 by rw[hm];simp);dsimp only at R;rw[<-hm]at A u R;clear hR hu;go_wp21;refine A.mono ?_;rintro e w'⟨rfl,rfl⟩;go_wp21;refine I.mono ?_;rintro e F⟨rfl,L2,e2,d,l⟩;rw[n4]at d;have X:N.gU {σ with gq:=zs} i=some e0:=W;have c0:F.cell? ⟨L1.gQ i,0,none⟩=some (Y (σ.nm i)):=by rw[<-e2];exact d.wU X
   have B:=HC F ((HFR.trans l).n _) (σ.nm i);have U:=V d.acV;have HP:Hid (Q5 E L σ w zs F):=⟨L2,e2.trans E1,d,HFR.trans l⟩;clear d;cases hq:p (σ.nm i)with
   |true=>
    rw[hq]at B D;have K:Hid (To E L (σ.CG p) w F):=by
     have⟨L3,e3,hR3,hf3⟩:=HP.ex;refine⟨L3,e3,?_,hf3⟩;have:(σ.yW p σ.gq.reverse).reverse=zs:=by rw[<-D.out,sL rfl,List.reverse_reverse]
     unfold N.CG;rw[this];exact hR3
    go_wp21;refine B.mono ?_;rintro e w'⟨rfl,rfl⟩;go_wp2
    (try simp only[Exit.inBlock,Exit.then])
    refine uF (QU rfl _ _ _) rfl ?_;exact⟨rfl,K⟩
   |false=>
    rw[hq]at B D;go_wp21;refine B.mono ?_;rintro e w'⟨rfl,rfl⟩;go_wp2;go_roundw
    case rel=>exact⟨zs,by rw[<-D.out];rfl,HP⟩
    case measure=>rw[U.out,R.out,HM.out];simp
def afO(bm:Nat)(d:List O)(w:J)(h:d.length<=4096):
  Calls prog 216 #[nX w.heap.size d.length d.length] (w.alloc (gH (d.map Value.string).toArray 9)) λe w'=>∃f a l,e=iA (.func f a l)/\Ask bm (.func f a l) (gO d) w'/\Z [] w w':=by
 refine(Si bm _ _ d _ (fU w _) h).mono ?_;rintro e w'⟨⟨v,rfl,u⟩,A⟩;obtain⟨k,B,rfl,_,_⟩:=u.call;exact⟨_,_,_,rfl,u,(((Z.refl [] w).alloc _).trans A)⟩
theorem akP(bm:Nat)(d h:gP)(p q:O->Bool)(w:J)(u:Ask bm d p w)(A:Ask bm h q w):
  Calls prog 236 #[d,h] w λe w'=>∃f a l,e=iA (.func f a l)/\Ask bm (.func f a l) (λs=>p s||q s) w'/\Z [] w w':=by
 refine(ami bm d h p q w u A).mono ?_;grind[Ask.call]
def Ask.k0{bm:Nat}(h:Ask bm v p w)(d:Z [] w w'):Ask bm v p w':=h.fr (.ib d)
theorem X7(h:Rel E L σ w)(f:Fn)(a l:jL)(p:O->Bool)(ha:Ask E.bm (.func f a l) p w):
  Calls prog 213 #[Bp E,.func f a l] w λe w'=>e=qs/\To E L (σ.tA p) w w':=by
 have H:=h;have HA:=ha;have CI:=afO E.bm [fN] w (by decide);go_enter func213,ntmps213;go_wp21;refine CI.mono ?_;rintro e w1⟨f1,a1,l1,rfl,a4,I⟩;have CO:=akP E.bm _ _ _ _ w1 (HA.k0 I) a4;go_wp21;refine CO.mono ?_;rintro e w2⟨f2,a2,l2,rfl,F,a5⟩;have K:=I.trans a5;have H2:=H.ir K;obtain⟨q,hq⟩:∃q,q=(λs=>p s||gO [fN] s):=⟨_,rfl⟩;rw[<-hq]at F;have R:Hid (∀wr,(∃B,B.gQ=L.gQ/\Rel E B {σ with gq:=(σ.oE (λs=>!q s) σ.gq.reverse).reverse} wr/\Fr E.bs w wr)->To E L (σ.tA p) w wr):=by
  rintro wr⟨B,e1,d,W⟩;refine⟨B,e1,?_,W⟩;unfold N.tA
  rwa [hq]at d
 have H0:Hid (Q5 E L σ w σ.gq w2):=V ⟨L,rfl,H2,.ib K⟩;go_wp2
 go_loopw [] (λwr=>∃ys,σ.oE (λs=>!q s) ys.reverse=σ.oE (λs=>!q s) σ.gq.reverse/\Fr E.bs w2 wr/\Q5 E L σ w ys wr) (λwr=>Ci ⟨E.bB,188,none⟩ wr)
 case atStart=>exact⟨_,rfl,Fr.refl _,H0⟩
 case round=>
  have⟨ys,hu,hf2,⟨B,E1,d,W⟩⟩:=hrel;have HZ:=V d.acV;have D:=agn d;have CC:=An d _ _ (F.dW hf2);rcases yv ys with rfl|⟨zs,y,rfl⟩
  .have HT:Hid (To E L (σ.tA p) w wr):=by
    refine R wr ⟨B,E1,?_,W⟩;have:(σ.oE (λs=>!q s) σ.gq.reverse).reverse=[]:=by rw[<-hu];rfl
    rw[this];exact d
   clear d hu;go_wp21;refine D.mono ?_;rintro e w'⟨rfl,rfl⟩;go_wp2;go_end0;exact⟨rfl,HT⟩
  .obtain⟨i,e0,rfl,hi⟩:=d.px (x:=y) (by simp);have a6:σ.oE (λs=>!q s) ((zs++[some i]).reverse)=if (!q (σ.nm i))=true then σ.oE (λs=>!q s) zs.reverse else some i::zs.reverse:=by rw[kU];rfl
   rw[a6]at hu;have U:N.current {σ with gq:=zs++[some i]} q=q (σ.nm i):=by unfold N.current N.last;rw[xO];rfl
   rw[U]at CC;have A:=CC;have HU:=V hu;have a3:=W;have a0:=hf2;have CP:=VI d;obtain⟨m,hm⟩:∃m,m=(zs++[some i]).length:=⟨_,rfl⟩;have a7:(0:Int)<(m:Int):=by rw[hm];simp
   have HM:=V (show m=zs.length+1 by rw[hm];simp);dsimp only at HZ D;rw[<-hm]at D HZ;cases hqq:q (σ.nm i)with
   |true=>
    rw[hqq]at A HU;have HT:Hid (To E L (σ.tA p) w wr):=by
     refine R wr ⟨B,E1,?_,W⟩;have:(σ.oE (λs=>!q s) σ.gq.reverse).reverse=zs++[some i]:=by rw[<-HU.out];simp
     rw[this];exact d
    clear d hu;go_wp21;refine D.mono ?_;rintro e w'⟨rfl,rfl⟩;go_wp21;refine A.mono ?_;rintro e w'⟨rfl,rfl⟩;go_wp2;go_end0;exact⟨rfl,HT⟩
   |false=>
    rw[hqq]at A HU;clear d hu;go_wp21;refine D.mono ?_;rintro e w'⟨rfl,rfl⟩;go_wp21;refine A.mono ?_;rintro e w'⟨rfl,rfl⟩;go_wp21;refine CP.mono ?_;rintro e w3⟨rfl,L2,e2,u,X⟩
    try dsimp only at u
    rw[n4]at u;have a9:=V u.acV;have HP:Hid (Q5 E L σ w zs w3):=⟨L2,e2.trans E1,u,a3.trans X⟩;have a8:=a0.trans X;clear u;go_wp2;grind[Hid.out]
def Rel.aiE(h:Rel E L σ w):∃f a l,w.cell? ⟨E.bB,185,none⟩=some (.func f a l)/\Ask E.bm (.func f a l) vj w:=by
 have⟨v,hv,ha⟩:=h.env.acF;obtain⟨k,d,rfl,_,_⟩:=ha.call;exact⟨_,_,_,h.low (by decide) hv,ha.dW h.fr⟩
def Rel.Lh(h:Rel E L σ w):∃f a l,w.cell? ⟨E.bB,184,none⟩=some (.func f a l)/\Ask E.bm (.func f a l) kT w:=by
 have⟨v,hv,ha⟩:=h.env.spec;obtain⟨k,d,rfl,_,_⟩:=ha.call;exact⟨_,_,_,h.low (by decide) hv,ha.dW h.fr⟩
def Rel.bounds(h:Rel E L σ w):∃f a l,w.cell? ⟨E.bB,186,none⟩=some (.func f a l)/\Ask E.bm (.func f a l) iI w:=by
 have⟨v,hv,ha⟩:=h.env.ab2;obtain⟨k,d,rfl,_,_⟩:=ha.call;exact⟨_,_,_,h.low (by decide) hv,ha.dW h.fr⟩
theorem Mw(h:Rel E L σ w):
  Calls prog 279 #[Bp E] w λe w'=>e=qs/\To E L σ.mn w w':=by
 have H0:Hid (Q5 E L σ w σ.gq w):=V ⟨L,rfl,h,Fr.refl w⟩;have D:Hid (∀wr,(∃F,F.gQ=L.gQ/\Rel E F {σ with gq:=(σ.oE vj σ.gq.reverse).reverse} wr/\Fr E.bs w wr)->To E L σ.mn w wr):=by
  rintro wr⟨F,e1,l,H⟩;exact⟨F,e1,l,H⟩
 generalize hq:vj=q at D;have HQ:=V hq;clear hq;go_enter func279,ntmps279;go_wp2
 go_loopw [] (λwr=>∃ys,σ.oE q ys.reverse=σ.oE q σ.gq.reverse/\Q5 E L σ w ys wr) (λwr=>Ci ⟨E.bB,188,none⟩ wr)
 case atStart=>exact⟨_,rfl,H0⟩
 case round=>
  have⟨ys,hu,⟨F,E1,l,H⟩⟩:=hrel;have X:=V l.acV;have⟨f1,a1,l1,c1,ha1⟩:=l.aiE;rw[HQ.out]at ha1;have B:=An l _ _ ha1;rcases yv ys with rfl|⟨zs,y,rfl⟩
  .have K:Hid (To E L σ.mn w wr):=by
    refine D wr ⟨F,E1,?_,H⟩;have:(σ.oE q σ.gq.reverse).reverse=[]:=by rw[<-hu];rfl
    rw[this];exact l
   have A:N.current {σ with gq:=[]} q=false:=rfl;rw[A]at B;have d:=V B;clear l hu B;go_wp21;refine d.mono ?_;rintro e w'⟨rfl,rfl⟩;go_wp2;go_end0;exact⟨rfl,K⟩
  .obtain⟨i,e0,rfl,hi⟩:=l.px (x:=y) (by simp);have W:σ.oE q ((zs++[some i]).reverse)=if q (σ.nm i)=true then σ.oE q zs.reverse else some i::zs.reverse:=by rw[kU];rfl
   rw[W]at hu;have A:N.current {σ with gq:=zs++[some i]} q=q (σ.nm i):=by unfold N.current N.last;rw[xO];rfl
   rw[A]at B;have d:=V B;have R:=V hu;have I:=H;have CP:=VI l;obtain⟨m,hm⟩:∃m,m=(zs++[some i]).length:=⟨_,rfl⟩;have HM:=V (show m=zs.length+1 by rw[hm];simp);dsimp only at X;rw[<-hm]at X;cases hqq:q (σ.nm i)with
   |false=>
    rw[hqq]at d R;have K:Hid (To E L σ.mn w wr):=by
     refine D wr ⟨F,E1,?_,H⟩;have:(σ.oE q σ.gq.reverse).reverse=zs++[some i]:=by rw[<-R.out];simp
     rw[this];exact l
    clear l hu B;go_wp21;refine d.mono ?_;rintro e w'⟨rfl,rfl⟩;go_wp2;go_end0;exact⟨rfl,K⟩
   |true=>
    rw[hqq]at d R;clear l hu B;go_wp21;refine d.mono ?_;rintro e w'⟨rfl,rfl⟩;go_wp21;refine CP.mono ?_;rintro e w3⟨rfl,L2,e2,u,U⟩
    try dsimp only at u
    rw[n4]at u;have a0:=V u.acV;have HP:Hid (Q5 E L σ w zs w3):=⟨L2,e2.trans E1,u,I.trans U⟩;clear u;go_wp2;grind[Hid.out]
def RF(E:Env)(f:Nat->Nat)(σ:N)(w:J):Prop:=∃L,L.gQ=f/\Rel E L σ w
def XF(n:Nat)(f g:Nat->Nat):Prop:=∀i,i<n->g i=f i
def Leaves{α:Type}(E:Env)(f:Nat->Nat)(n:Nat)(w:J)(r:qQ α)(d:(Nat->Nat)->α->gP)(e:Ending)(w':J):Prop:=match r with
 | .ok a σ'=>∃g,XF n f g/\n<=σ'.nodes.length/\e=iA (d g a)/\RF E g σ' w'/\Fr E.bs w w'
 | .stop c p=>∃k,e=rW k/\kZ w' k c p/\Fr E.bs w w'
 | .stuck=>False
def jk{α:Type}(E:Env)(k:Nat)(args:(Nat->Nat)->jL)(m:M α)(d:(Nat->Nat)->α->gP):Prop:=
 ∀f σ w,RF E f σ w->m σ≠ .stuck->Calls prog k (args f) w (Leaves E f σ.nodes.length w (m σ) d)
abbrev uV(_:Nat->Nat)(_:Unit):gP:=.tuple #[]
abbrev bV(_:Nat->Nat)(b:Bool):gP:=.bool b
abbrev nV(f:Nat->Nat)(i:Nat):gP:=gI (f i)
abbrev oV(f:Nat->Nat)(x:jj):gP:=kX (iF f x)
abbrev pV(f:Nat->Nat)(pl:Nat×Nat):gP:=.agg #[gI (f pl.1),G pl.2]
structure At(E:Env)(f0:Nat->Nat)(n0:Nat)(w0:J)(f:Nat->Nat)(σ:N)(w:J):Prop where
 rel:RF E f σ w
 ext:XF n0 f0 f
 le:n0<=σ.nodes.length
 fr:Fr E.bs w0 w
 hw:E.w0.heap.size<=w0.heap.size
def At.start(h:RF E f σ w):At E f σ.nodes.length w f σ w:=⟨h,λ_ _=>rfl,ic _,Fr.refl _,by have⟨L,_,hr⟩:=h;exact hr.fr.size⟩
def RF.ir(h:RF E f σ w)(d:Z [] w w'):RF E f σ w':=by have⟨L,e,hr⟩:=h;exact⟨L,e,hr.ir d⟩
def abH:List TypeId:=[136,138,277,232,236,292,176,66,121,161]
theorem Rel.side(h:Rel E L σ w){T:TypeId}{m:Nat×Nat}(I:w.heap[b]?=some (.cells c T m))(H:∀t∈abH,t≠T)(A:E.w0.heap.size<=b)(j:Nat)(u:gP):Rel E L σ (w.setCell ⟨b,j,none⟩ u):=by
 have l:KT E.bs [T] w (w.setCell ⟨b,j,none⟩ u):=.j9 ((Z.refl [b] w).setCell (.inl (by simp)) u) (λk B _=>by grind[bz]);have d:∀t∈abH,t∉[T]:=λt F=>by grind
 have⟨C,hbl,hC⟩:=h.il;exact {h with
  fr:=by
   have⟨S,B,hS⟩:=h.fr;exact⟨S,B.setCell (.inr A) u,hS⟩
  uz:=λi nd D=>(h.uz i nd D).kt l (λt F=>d t (by revert t;decide))
  il:=⟨C,l.at hbl (d _ (by decide)),hC⟩
  qv:=l.row h.qv (d _ (by decide))
  ru:=l.row h.ru (d _ (by decide))
  qm:=l.row h.qm (d _ (by decide))
  rd:=l.at h.rd (d _ (by decide))
  tok:=l.row h.tok (d _ (by decide))}
section
variable {α β:Type}{E:Env}{f0:Nat->Nat}{n0:Nat}{w0:J}{f:Nat->Nat}{σ:N}{w:J}
def At.side(h:At E f0 n0 w0 f σ w){b:Nat}{c:jL}{T:TypeId}{m:Nat×Nat}(A:w.heap[b]?=some (.cells c T m))(l:∀t∈abH,t≠T)(d:w0.heap.size<=b)(j:Nat)(u:gP):At E f0 n0 w0 f σ (w.setCell ⟨b,j,none⟩ u):=by
 have⟨L,e,hr⟩:=h.rel;refine⟨⟨L,e,hr.side A l (jZ h.hw d) j u⟩,h.ext,h.le,?_,h.hw⟩;have⟨S,hk,hS⟩:=h.fr;exact⟨S,hk.setCell (.inr d) u,hS⟩
def At.k0(h:At E f0 n0 w0 f σ w){w':J}(d:Z [] w w'):At E f0 n0 w0 f σ w':=⟨h.rel.ir d,h.ext,h.le,h.fr.trans (.ib d),h.hw⟩
theorem At.to(h:At E f0 n0 w0 f σ w){σ':N}{w':J}(u:RF E f σ' w')(l:σ.nodes.length<=σ'.nodes.length)(d:Fr E.bs w w'):At E f0 n0 w0 f σ' w':=⟨u,h.ext,jZ h.le l,h.fr.trans d,h.hw⟩
theorem At.go(h:At E f0 n0 w0 f σ w){g:Nat->Nat}{σ':N}{w':J}(A:RF E g σ' w')(B:XF σ.nodes.length f g)(u:σ.nodes.length<=σ'.nodes.length)(l:Fr E.bs w w'):At E f0 n0 w0 g σ' w':=
 ⟨A,λi d=>(B i (nr d h.le)).trans (h.ext i d),jZ h.le u,h.fr.trans l,h.hw⟩
def gu{R:qQ α}{a:α}{d:(Nat->Nat)->α->gP}(l:R=.ok a σ)(h:At E f0 n0 w0 f σ w){e:Ending}(u:e=iA (d f a)):Leaves E f0 n0 w0 R d e w:=by
 subst l;exact⟨f,h.ext,h.le,u,h.rel,h.fr⟩
theorem qx{R:qQ α}{d:(Nat->Nat)->α->gP}{c p j:Nat}(h:R=.stop c p)(hs:kZ w j c p)(l:Fr E.bs w0 w):Leaves E f0 n0 w0 R d (rW j) w:=by
 grind[Leaves]
theorem jk.call{k:Nat}{args:(Nat->Nat)->jL}{m:M α}{d:(Nat->Nat)->α->gP}(D:jk E k args m d)(H:At E f0 n0 w0 f σ w){R:qQ β}{K:α->M β}(l:R=(m>>=K) σ)(hs:R≠ .stuck){A:jL}(U:args f=A){Q:Ending->J->Prop}
  (B:∀c p j w',R=.stop c p->kZ w' j c p->Fr E.bs w0 w'->Q (rW j) w')
  (W:∀a g σ' w',At E f0 n0 w0 g σ' w'->XF σ.nodes.length f g->Fr E.bs w w'->R=K a σ'->Q (iA (d g a)) w'):Calls prog k A w Q:=by
 rw[M.gw]at l;have h:=D f σ w H.rel (λe=>hs (by grind));rw[U]at h;refine h.mono ?_;intro e w' u;cases hr:m σ with
 |ok a σ'=>
  rw[hr]at u l;obtain⟨g,X,F,rfl,h4,h5⟩:=u;grind[At.go]
 |stop c p=>
  rw[hr]at u l;obtain⟨j,rfl,F,I⟩:=u;exact B c p j w' l F (H.fr.trans I)
 |stuck=>grind
end
def kO{α:Type}(E:Env)(f:Nat->Nat)(n:Nat)(w:J)(r:qQ α)(d:(Nat->Nat)->α->gP)(e:Ending)(w':J):Prop:=match r with
 | .ok a σ'=>e=iA (d f a)/\RF E f σ' w'/\Fr E.bs w w'/\n<=σ'.nodes.length
 | .stop c p=>∃j,e=rW j/\kZ w' j c p/\Fr E.bs w w'
 | .stuck=>False
def kP{α:Type}(E:Env)(k:Nat)(args:(Nat->Nat)->jL)(m:M α)(d:(Nat->Nat)->α->gP):Prop:=
 ∀f σ w,RF E f σ w->m σ≠ .stuck->Calls prog k (args f) w (kO E f σ.nodes.length w (m σ) d)
section
variable {α β:Type}{E:Env}{f0:Nat->Nat}{n0:Nat}{w0:J}{f:Nat->Nat}{σ:N}{w:J}
theorem kP.call{k:Nat}{args:(Nat->Nat)->jL}{m:M α}{d:(Nat->Nat)->α->gP}(D:kP E k args m d)(H:At E f0 n0 w0 f σ w){R:qQ β}{K:α->M β}(l:R=(m>>=K) σ)(hs:R≠ .stuck){A:jL}(U:args f=A){Q:Ending->J->Prop}
  (B:∀c p j w',R=.stop c p->kZ w' j c p->Fr E.bs w0 w'->Q (rW j) w')
  (W:∀a σ' w',At E f0 n0 w0 f σ' w'->Fr E.bs w w'->R=K a σ'->Q (iA (d f a)) w'):Calls prog k A w Q:=by
 rw[M.gw]at l;have h:=D f σ w H.rel (λe=>hs (by grind));rw[U]at h;refine h.mono ?_;intro e w' u;cases hr:m σ with
 |ok a σ'=>
  rw[hr]at u l;obtain⟨rfl,X,h5,h6⟩:=u;grind[At.to]
 |stop c p=>
  rw[hr]at u l;obtain⟨j,rfl,F,I⟩:=u;exact B c p j w' l F (H.fr.trans I)
 |stuck=>grind
theorem anA{k:Nat}{m:M α}{d:(Nat->Nat)->α->gP}{A:jL}(C:m σ≠ .stuck->Calls prog k A w (kO E f σ.nodes.length w (m σ) d))(H:At E f0 n0 w0 f σ w){R:qQ β}{K:α->M β}(h:R=(m>>=K) σ)(hs:R≠ .stuck){Q:Ending->J->Prop}
  (u:∀c p j w',R=.stop c p->kZ w' j c p->Fr E.bs w0 w'->Q (rW j) w')
  (F:∀a σ' w',At E f0 n0 w0 f σ' w'->Fr E.bs w w'->R=K a σ'->Q (iA (d f a)) w'):Calls prog k A w Q:=by
 rw[M.gw]at h;refine(C (λe=>hs (by grind))).mono ?_;intro e w' l;cases hr:m σ with
 |ok a σ'=>
  rw[hr]at l h;obtain⟨rfl,I,U,W⟩:=l;grind[At.to]
 |stop c p=>
  rw[hr]at l h;obtain⟨j,rfl,B,D⟩:=l;exact u c p j w' h B (H.fr.trans D)
 |stuck=>grind
theorem anf{k:Nat}{m:M α}{d:(Nat->Nat)->α->gP}{A:jL}(C:m σ≠ .stuck->Calls prog k A w (Leaves E f σ.nodes.length w (m σ) d))(H:At E f0 n0 w0 f σ w){R:qQ β}{K:α->M β}(h:R=(m>>=K) σ)(hs:R≠ .stuck){Q:Ending->J->Prop}
  (u:∀c p j w',R=.stop c p->kZ w' j c p->Fr E.bs w0 w'->Q (rW j) w')
  (F:∀a g σ' w',At E f0 n0 w0 g σ' w'->XF σ.nodes.length f g->Fr E.bs w w'->R=K a σ'->Q (iA (d g a)) w'):Calls prog k A w Q:=by
 rw[M.gw]at h;refine(C (λe=>hs (by grind))).mono ?_;intro e w' l;cases hr:m σ with
 |ok a σ'=>
  rw[hr]at l h;obtain⟨g,I,B,rfl,U,W⟩:=l;grind[At.go]
 |stop c p=>
  rw[hr]at l h;obtain⟨j,rfl,B,D⟩:=l;exact u c p j w' h B (H.fr.trans D)
 |stuck=>grind
def kI{R:qQ α}{a:α}{d:(Nat->Nat)->α->gP}(l:R=.ok a σ)(h:At E f n0 w0 f σ w){e:Ending}(u:e=iA (d f a)):kO E f n0 w0 R d e w:=by
 subst l;exact⟨u,h.rel,h.fr,h.le⟩
theorem vR{R:qQ α}{d:(Nat->Nat)->α->gP}{c p j:Nat}(h:R=.stop c p)(hs:kZ w j c p)(l:Fr E.bs w0 w):kO E f n0 w0 R d (rW j) w:=by
 grind[kO]
def dC{k:Nat}{args:(Nat->Nat)->jL}{m:M α}{d:(Nat->Nat)->α->gP}(D:jk E k args m d)(H:Hid (At E f0 n0 w0 f σ w)){R:qQ β}{K:α->M β}(U:Hid (R=(m>>=K) σ))(hs:Hid (R≠ .stuck)){A:jL}(I:args f=A){Q:Ending->J->Prop}
  (l:∀c p j w',Hid (R=.stop c p/\kZ w' j c p/\Fr E.bs w0 w')->Q (rW j) w')
  (h:∀a g σ' w',Hid (At E f0 n0 w0 g σ' w')->Hid (XF σ.nodes.length f g)->Hid (Fr E.bs w w')->Hid (R=K a σ')->Q (iA (d g a)) w'):Calls prog k A w Q:=jk.call D H U hs I (λc p j w' u B F=>l c p j w' ⟨u,B,F⟩) h
def mC{k:Nat}{args:(Nat->Nat)->jL}{m:M α}{d:(Nat->Nat)->α->gP}(D:kP E k args m d)(H:Hid (At E f0 n0 w0 f σ w)){R:qQ β}{K:α->M β}(U:Hid (R=(m>>=K) σ))(hs:Hid (R≠ .stuck)){A:jL}(I:args f=A){Q:Ending->J->Prop}
  (l:∀c p j w',Hid (R=.stop c p/\kZ w' j c p/\Fr E.bs w0 w')->Q (rW j) w')
  (h:∀a σ' w',Hid (At E f0 n0 w0 f σ' w')->Hid (Fr E.bs w w')->Hid (R=K a σ')->Q (iA (d f a)) w'):Calls prog k A w Q:=kP.call D H U hs I (λc p j w' u B F=>l c p j w' ⟨u,B,F⟩) h
def Ck{k:Nat}{m:M α}{d:(Nat->Nat)->α->gP}{A:jL}(C:m σ≠ .stuck->Calls prog k A w (kO E f σ.nodes.length w (m σ) d))(H:Hid (At E f0 n0 w0 f σ w)){R:qQ β}{K:α->M β}(F:Hid (R=(m>>=K) σ))(hs:Hid (R≠ .stuck)){Q:Ending->J->Prop}
  (l:∀c p j w',Hid (R=.stop c p/\kZ w' j c p/\Fr E.bs w0 w')->Q (rW j) w')
  (h:∀a σ' w',Hid (At E f0 n0 w0 f σ' w')->Hid (Fr E.bs w w')->Hid (R=K a σ')->Q (iA (d f a)) w'):Calls prog k A w Q:=anA C H F hs (λc p j w' u B D=>l c p j w' ⟨u,B,D⟩) h
def fp{k:Nat}{m:M α}{d:(Nat->Nat)->α->gP}{A:jL}(C:m σ≠ .stuck->Calls prog k A w (Leaves E f σ.nodes.length w (m σ) d))(H:Hid (At E f0 n0 w0 f σ w)){R:qQ β}{K:α->M β}(F:Hid (R=(m>>=K) σ))(hs:Hid (R≠ .stuck)){Q:Ending->J->Prop}
  (l:∀c p j w',Hid (R=.stop c p/\kZ w' j c p/\Fr E.bs w0 w')->Q (rW j) w')
  (h:∀a g σ' w',Hid (At E f0 n0 w0 g σ' w')->Hid (XF σ.nodes.length f g)->Hid (Fr E.bs w w')->Hid (R=K a σ')->Q (iA (d g a)) w'):Calls prog k A w Q:=anf C H F hs (λc p j w' u B D=>l c p j w' ⟨u,B,D⟩) h
def lS{R:qQ α}{d:(Nat->Nat)->α->gP}{c p j:Nat}(h:Hid (R=.stop c p/\kZ w j c p/\Fr E.bs w0 w)):Leaves E f0 n0 w0 R d (rW j) w:=qx h.1 h.2.1 h.2.2
def mS{R:qQ α}{d:(Nat->Nat)->α->gP}{c p j:Nat}(h:Hid (R=.stop c p/\kZ w j c p/\Fr E.bs w0 w)):kO E f n0 w0 R d (rW j) w:=vR h.1 h.2.1 h.2.2
def dI{k:Nat}{args:(Nat->Nat)->jL}{m:M α}{d:(Nat->Nat)->α->gP}(h:∀f σ w R,Hid (R=m σ)->Hid (R≠ .stuck)->Hid (At E f σ.nodes.length w f σ w)->Calls prog k (args f) w (Leaves E f σ.nodes.length w R d)):jk E k args m d:=λf σ w l u=>h f σ w _ rfl u (At.start l)
def mI{k:Nat}{args:(Nat->Nat)->jL}{m:M α}{d:(Nat->Nat)->α->gP}(h:∀f σ w R,Hid (R=m σ)->Hid (R≠ .stuck)->Hid (At E f σ.nodes.length w f σ w)->Calls prog k (args f) w (kO E f σ.nodes.length w R d)):kP E k args m d:=λf σ w l u=>h f σ w _ rfl u (At.start l)
end
def lT{α:Type}{β:Sort _}{x:β}{f0:Nat->Nat}{n0:Nat}{w0:J}{R:qQ α}{d:(Nat->Nat)->α->gP}(c p j:Nat)(w:J)(h:Hid (R=.stop c p/\kZ w j c p/\Fr E.bs w0 w)):x=x/\Leaves E f0 n0 w0 R d (rW j) w:=⟨rfl,lS h⟩
def mT{α:Type}{β:Sort _}{x:β}{n0:Nat}{w0:J}{R:qQ α}{d:(Nat->Nat)->α->gP}(c p j:Nat)(w:J)(h:Hid (R=.stop c p/\kZ w j c p/\Fr E.bs w0 w)):x=x/\kO E f n0 w0 R d (rW j) w:=⟨rfl,mS h⟩
def JD(E:Env)(i:Nat):kP E 90 (λf=>#[nV f i]) (jg i) pV:=by
 intro f σ w ⟨L,e,u⟩ d;subst e;unfold jg at d|-;cases he:σ.gU i with
 |none=>rw[he]at d;exact absurd rfl d
 |some e=>
  refine(WT u he).mono ?_;rintro A w'⟨rfl,h,l⟩;exact⟨rfl,⟨L,rfl,h⟩,.ib l,ic _⟩
def GK(E:Env)(pl:Nat×Nat)(j:Nat):kP E 166 (λf=>#[pV f pl,.iface 66 (nV f j)]) (kD pl j) uV:=by
 intro f σ w ⟨L,e,A⟩ d;subst e;unfold kD at d|-;cases h1:σ.gU pl.1 with
 |none=>rw[h1]at d;exact absurd rfl d
 |some ei=>
  cases h2:σ.gU j with
  |none=>rw[h1,h2]at d;exact absurd rfl d
  |some ej=>
   simp only[h1,h2]at d|-;by_cases h:j≠pl.1/\pl.2<=ei.kids.length/\ei.kids.length<1048576;rw[sL h];refine(ag9 A h1 h2 h.1 h.2.1 h.2.2).mono ?_;rintro B w'⟨rfl,L',e1,l,u⟩;exact⟨rfl,⟨L',e1,l⟩,u,by simp[N.gW]⟩;rw[Xx h]at d;exact absurd rfl d
theorem Zo(E:Env)(pl:Nat×Nat)(s:O):jk E 173 (λf=>#[pV f pl,Y s]) (qV pl s) uV:=by
 intro f σ w ⟨L,e,I⟩ d;subst e;unfold qV at d|-;cases h1:σ.gU pl.1 with
 |none=>rw[h1]at d;exact absurd rfl d
 |some ei=>
  simp only[h1]at d|-;by_cases B:pl.2<=ei.kids.length/\ei.kids.length<1048576;rw[sL B]at d|-;have h:∀(K:∀m,(D:m<ei.kids.length)->pl.2=m+1->∀t,ei.kids[m]≠ .tx t),Calls prog 173 #[pV L.gQ pl,Y s] w (Leaves E L.gQ σ.nodes.length w (.ok () ((σ.add (.tx s)).gW pl.1 {ei with kids:=ins ei.kids pl.2 (.tx σ.nodes.length)})) uV):=by
   intro K;refine(ND I h1 B.1 B.2 K).mono ?_;rintro X w'⟨rfl,L',e1,F,H⟩;exact⟨L'.gQ,e1,by simp[N.gW,N.add],rfl,⟨L',rfl,F⟩,H⟩
  by_cases R:pl.2=0;simp only[sL R]at d|-;exact h λm D e=>by omega
  simp only[Xx R]at d|-;obtain⟨m,D⟩:∃m,pl.2=m+1:=⟨pl.2-1,by omega⟩;have A:m<ei.kids.length:=by omega
  have hg:ei.kids[pl.2-1]?=some ei.kids[m]:=by rw[D,Nat.add_sub_cancel];exact yG A
  rw[hg]at d|-;cases hk:ei.kids[m]with
  |tx t=>
   simp only[hk]at d|-;cases ht:σ.nodes[t]? with
   |none=>rw[ht]at d;exact absurd rfl d
   |some nd=>
    cases nd with
    |tx old=>
     simp only[ht]at d|-;by_cases l:old.size+s.size<=1048576;rw[sL l];have:=KM I h1 A hk ht l;rw[<-D]at this;refine this.mono ?_;rintro X w'⟨rfl,L',e1,F,H⟩;exact⟨L.gQ,λ_ _=>rfl,by simp[N.np],rfl,⟨L',e1,F⟩,H⟩;rw[Xx l]at d;exact absurd rfl d
    |el e=>rw[ht]at d;exact absurd rfl d
    |cm e=>rw[ht]at d;exact absurd rfl d
    |dt e=>rw[ht]at d;exact absurd rfl d
  |el t=>exact h λU u e W=>by grind
  |cm t=>exact h λU u e W=>by grind
  |dt t=>exact h λU u e W=>by grind
  rw[Xx B]at d;exact absurd rfl d
def agy(E:Env):kP E 175 (λ_=>#[j5 E.bB 188]) (λσ=> .ok σ.last σ.pop) oV:=by
 intro f σ w ⟨L,e,l⟩ A;subst e;refine(VI l).mono ?_;rintro u w'⟨rfl,L',e1,d,h⟩;exact⟨rfl,⟨L',e1,d⟩,h,ic _⟩
theorem SH(E:Env)(x:jj):kP E 177 (λf=>#[Bp E,oV f x]) (oH x) uV:=by
 intro f σ w ⟨L,e,h⟩ B;subst e;have W:=h.low (j:=0) (by decide) h.Gv.1;have⟨_,_,_,hd,_,_⟩:=h.Gv;have U:=h.yK;have u:=(λq=>agn (h.drewN q));unfold oH at B|-;by_cases A:σ.qZ<=σ.gq.length
 .rw[sL A];have l:=(λq=>Te (h.drewN q) 5);go_enter func177,ntmps177;go_wp21
  go_quiet ((go_at_call 260;exact kV (u _)))
  go_wp21;refine(l nq).mono ?_;rintro e w'⟨k,rfl,D,K⟩;have F:=(Fr.drewN w nq).trans K;go_wp2;exact⟨rfl,k,rfl,D,F⟩
 .rw[Xx A]at B|-;have d:σ.nk x=true:=by
   by_cases d:σ.nk x=true;exact d;grind
  rw[sL d];have l:=(λq=>amf (h.drewN q) x d (by omega));go_enter func177,ntmps177;go_wp21
  go_quiet ((go_at_call 260;exact kV (u _)))
  go_wp21;refine(l nq).mono ?_;rintro e w'⟨rfl,L',e1,I,R⟩;have H:=(Fr.drewN w nq).trans R;go_wp2;go_end0;exact⟨rfl,⟨L',e1,I⟩,H,ic _⟩
section
variable {E:Env}{f0:Nat->Nat}{n0:Nat}{w0:J}{f:Nat->Nat}{σ:N}{w:J}
theorem At.lt(h:At E f0 n0 w0 f σ w):E.bB<w.heap.size:=by have⟨L,_,hr⟩:=h.rel;exact hr.lt
def At.free(h:At E f0 n0 w0 f σ w)(j:Nat):w.frozen? ⟨E.bB,j,none⟩=false:=by have⟨L,_,hr⟩:=h.rel;exact hr.free j
def At.ab4(h:At E f0 n0 w0 f σ w):w.cell? ⟨E.bB,190,none⟩=some (oV f σ.head):=by obtain⟨L,rfl,d⟩:=h.rel;exact d.ab4
def At.XY(h:At E f0 n0 w0 f σ w):w.cell? ⟨E.bB,191,none⟩=some (oV f σ.form):=by obtain⟨L,rfl,d⟩:=h.rel;exact d.XY
def At.tf(h:At E f0 n0 w0 f σ w):w.cell? ⟨E.bB,192,none⟩=some (G σ.mode):=by obtain⟨L,rfl,d⟩:=h.rel;exact d.tf
def At.XZ(h:At E f0 n0 w0 f σ w):w.cell? ⟨E.bB,193,none⟩=some (G σ.kept):=by obtain⟨L,rfl,d⟩:=h.rel;exact d.XZ
def At.aeI(h:At E f0 n0 w0 f σ w):w.cell? ⟨E.bB,195,none⟩=some (.bool σ.im):=by obtain⟨L,rfl,d⟩:=h.rel;exact d.aeI
def At.aeJ(h:At E f0 n0 w0 f σ w):w.cell? ⟨E.bB,196,none⟩=some (.bool σ.jA):=by obtain⟨L,rfl,d⟩:=h.rel;exact d.aeJ
def At.X0(h:At E f0 n0 w0 f σ w):w.cell? ⟨E.bB,197,none⟩=some (G σ.gQ):=by obtain⟨L,rfl,d⟩:=h.rel;exact d.X0
def At.aeK(h:At E f0 n0 w0 f σ w):w.cell? ⟨E.bB,198,none⟩=some (.bool σ.behind):=by obtain⟨L,rfl,d⟩:=h.rel;exact d.aeK
def At.Oz(h:At E f0 n0 w0 f σ w)(j:Nat)(u:gP):Fr E.bs w (w.setCell ⟨E.bB,j,none⟩ u):=by
 have⟨L,_,hr⟩:=h.rel;have⟨C,hb⟩:=hr.aah;exact .j9 ((Z.refl [E.bB] w).setCell (.inl (by simp)) u) (λk d=>by simp at d;subst d;exact⟨⟨_,_,_,hb,by decide⟩,hr.bB⟩)
def At.zP(h:At E f0 n0 w0 f σ w)(x:jj)(u:σ.gZ x=true):At E f0 n0 w0 f {σ with head:=x} (w.setCell ⟨E.bB,190,none⟩ (oV f x)):=by
 have d:=h.Oz 190 (oV f x);obtain⟨L,rfl,l⟩:=h.rel;exact h.to ⟨L,rfl,l.zP x u⟩ (ic _) d
def At.wG(h:At E f0 n0 w0 f σ w)(x:jj)(u:σ.gZ x=true):At E f0 n0 w0 f {σ with form:=x} (w.setCell ⟨E.bB,191,none⟩ (oV f x)):=by
 have d:=h.Oz 191 (oV f x);obtain⟨L,rfl,l⟩:=h.rel;exact h.to ⟨L,rfl,l.wG x u⟩ (ic _) d
def At.jm(h:At E f0 n0 w0 f σ w)(x:Nat):At E f0 n0 w0 f {σ with mode:=x} (w.setCell ⟨E.bB,192,none⟩ (G x)):=by
 obtain⟨L,rfl,d⟩:=h.rel;exact h.to ⟨L,rfl,d.jm x⟩ (ic _) (h.Oz 192 _)
def At.zQ(h:At E f0 n0 w0 f σ w)(x:Nat):At E f0 n0 w0 f {σ with kept:=x} (w.setCell ⟨E.bB,193,none⟩ (G x)):=by
 obtain⟨L,rfl,d⟩:=h.rel;exact h.to ⟨L,rfl,d.zQ x⟩ (ic _) (h.Oz 193 _)
def At.zO(h:At E f0 n0 w0 f σ w)(x:Bool):At E f0 n0 w0 f {σ with im:=x} (w.setCell ⟨E.bB,195,none⟩ (.bool x)):=by
 obtain⟨L,rfl,d⟩:=h.rel;exact h.to ⟨L,rfl,d.zO x⟩ (ic _) (h.Oz 195 _)
def At.rT(h:At E f0 n0 w0 f σ w)(x:Bool):At E f0 n0 w0 f {σ with jA:=x} (w.setCell ⟨E.bB,196,none⟩ (.bool x)):=by
 obtain⟨L,rfl,d⟩:=h.rel;exact h.to ⟨L,rfl,d.rT x⟩ (ic _) (h.Oz 196 _)
def At.Fa(h:At E f0 n0 w0 f σ w)(x:Nat):At E f0 n0 w0 f {σ with gQ:=x} (w.setCell ⟨E.bB,197,none⟩ (G x)):=by
 obtain⟨L,rfl,d⟩:=h.rel;exact h.to ⟨L,rfl,d.Fa x⟩ (ic _) (h.Oz 197 _)
def At.uk(h:At E f0 n0 w0 f σ w)(x:Bool):At E f0 n0 w0 f {σ with behind:=x} (w.setCell ⟨E.bB,198,none⟩ (.bool x)):=by
 obtain⟨L,rfl,d⟩:=h.rel;exact h.to ⟨L,rfl,d.uk x⟩ (ic _) (h.Oz 198 _)
def Ku(f:Nat->Nat)(n k:Nat):Nat->Nat:=λi=>if i<n then f i else k+(i-n)
def amP(f:Nat->Nat)(n k:Nat):Ku f n k n=k:=by simp[Ku]
def UY(f:Nat->Nat)(n k:Nat):XF n f (Ku f n k):=λi d=>sL d
def At.Bk(h:At E f0 n0 w0 f σ w)(d:O):At E f0 n0 w0 (Ku f σ.nodes.length w.heap.size) (σ.add (.el {name:=d,gR:=[],ji:=none,kids:=[]})) (w.alloc (gH #[Y d,jD,.pointer none,jD] 136)):=by
 obtain⟨L,rfl,l⟩:=h.rel;exact h.go ⟨_,rfl,l.Bk d⟩ (UY _ _ _) (by simp[N.add]) (.ib ((Z.refl _ _).alloc _))
theorem At.ku(h:At E f0 n0 w0 f σ w)(l:σ.fresh=true)(d:O):At E f0 n0 w0 (Ku f σ.nodes.length w.heap.size) (σ.qt (.el {name:=d,gR:=E.ta,ji:=none,kids:=[]}) false) (w.alloc (gH #[Y d,E.tv,.pointer none,jD] 136)):=by
 obtain⟨L,rfl,u⟩:=h.rel;exact h.go ⟨_,rfl,u.ku l d⟩ (UY _ _ _) (by simp[N.qt]) (.ib ((Z.refl _ _).alloc _))
end
def iG(E:Env)(t:gF):gP:=match t.k with
 | .kE s=> .iface 184 (.agg #[G t.a,G t.b,Y s])
 | .start n=> .iface 192 (.agg #[G t.a,G t.b,Y n,E.tv])
 | .stop n=> .iface 193 (.agg #[G t.a,G t.b,Y n,E.tv])
 | .gV s=> .iface 194 (.agg #[G t.a,G t.b,Y s])
 | .iH n q=> .iface 196 (.agg #[G t.a,G t.b,Y n,.bool q])
 | .lost=> .iface 186 (.agg #[G t.a,G t.b])
 | .iw=> .iface 182 (.agg #[G t.a,G t.b])
def jo(E:Env)(t:gF):Prop:=t.qw=true->t.gR=E.ta
def rX{X:TypeId}{d:Array Field}(h:prog.underlying X=some (.struct d))(v:gP)(l:TypeId)(w:J):(Instr.typeAssert (.iface X v) l X true).run prog w=.ok (.tuple #[v,.bool true]) w:=by
 simp[Instr.typeAssert,gy h]
def NE{X T:TypeId}{l:Array Field}{z:gP}(u:prog.underlying X=some (.struct l))(h:(prog.info? X).bind (·.zero)=some z)(d:T≠X)(v:gP)(A:TypeId)(w:J):(Instr.typeAssert (.iface T v) A X true).run prog w=.ok (.tuple #[z,.bool false]) w:=by
 have⟨i,hi,h⟩:=Option.bind_eq_some_iff.1 h;simp[Instr.typeAssert,gy u,d,zeroValue,typeInfo,hi,h]
def wT(T:TypeId)(h:T≠184)(v:gP)(d:TypeId)(w:J):(Instr.typeAssert (.iface T v) d 184 true).run prog w=.ok (.tuple #[.agg #[G 0,G 0,Y kB],.bool false]) w:=NE underlying184 (rfl) h v d w
def uy(T:TypeId)(h:T≠194)(v:gP)(d:TypeId)(w:J):(Instr.typeAssert (.iface T v) d 194 true).run prog w=.ok (.tuple #[.agg #[G 0,G 0,Y kB],.bool false]) w:=NE underlying194 (rfl) h v d w
def rO(T:TypeId)(h:T≠192)(v:gP)(d:TypeId)(w:J):(Instr.typeAssert (.iface T v) d 192 true).run prog w=.ok (.tuple #[.agg #[G 0,G 0,Y kB,jD],.bool false]) w:=NE underlying192 (rfl) h v d w
def zI(T:TypeId)(h:T≠193)(v:gP)(d:TypeId)(w:J):(Instr.typeAssert (.iface T v) d 193 true).run prog w=.ok (.tuple #[.agg #[G 0,G 0,Y kB,jD],.bool false]) w:=NE underlying193 (rfl) h v d w
def xS(T:TypeId)(h:T≠196)(v:gP)(d:TypeId)(w:J):(Instr.typeAssert (.iface T v) d 196 true).run prog w=.ok (.tuple #[.agg #[G 0,G 0,Y kB,.bool false],.bool false]) w:=NE underlying196 (rfl) h v d w
def al9(T:TypeId)(h:T≠186)(v:gP)(d:TypeId)(w:J):(Instr.typeAssert (.iface T v) d 186 true).run prog w=.ok (.tuple #[.agg #[G 0,G 0],.bool false]) w:=NE underlying186 (rfl) h v d w
def AY(E:Env)(t:gF):jL:=match t.k with
 | .start n=>#[G t.a,G t.b,Y n,E.tv]
 | .stop n=>#[G t.a,G t.b,Y n,E.tv]
 |_=>#[G 0,G 0,Y kB,jD]
def Ak(E:Env)(t:gF)(w:J):
  Calls prog 85 #[iG E t] w λe w'=>e=iA (Y t.chars)/\Z [] w w':=by
 obtain⟨a,b,k,gG⟩:=t;have d:=rX underlying184;have h:=wT;cases k
 all_goals
  simp only[iG,gF.chars];go_enter func85,ntmps85;go_wp2;go_ret;exact⟨rfl,(Z.refl _ _).alloc _⟩
def zU(E:Env)(t:gF)(w:J)(u:∃d n h,E.tv=.slice d n h):
  Calls prog 168 #[iG E t] w λe w'=>e=iA (.agg (AY E t))/\Z [] w w':=by
 have⟨a,b,k,gG⟩:=t;obtain⟨d,n,h,l⟩:=u;have A:=rX underlying192;have B:=rX underlying193;have D:=rO;have F:=zI;cases k
 all_goals
  simp only[iG,AY,l];go_enter func168,ntmps168;go_wp2
  first
  |refine uF (v:=.agg #[G 0,G 0,Y kB,jD]) ?_ rfl ⟨rfl,(Z.refl _ _).alloc _⟩
  |refine uF (v:=.agg #[G a,G b,Y _,.slice d n h]) ?_ rfl ⟨rfl,((Z.refl _ _).alloc _).alloc _⟩
  simp[results,results168,asAddr,Result.andThen,go_sem]
theorem ME(E:Env)(t:gF)(w:J):
  Calls prog 180 #[iG E t] w λe w'=>e=iA (.bool (uY t.chars))/\Z [] w w':=by
 go_enter func180,ntmps180;go_wp21;refine(Ak E t w).mono ?_;rintro e w'⟨rfl,d⟩;go_wp2;go_ret;refine⟨?_,d⟩;show Ending.returned (.bool (t.chars.toList==[0]))=_;grind[ByteArray.toList_mk,uY,ld]
def aeC(c:UInt8):decide (0<=Lib.indexByte [32,9,10,12] c)=mJ ⟨#[c]⟩:=by
 unfold mJ gO ld;simp;by_cases d:c=32;subst d;rfl;by_cases h:c=9;subst h;rfl;by_cases l:c=10;subst l;rfl;by_cases u:c=12;subst u;rfl;simp[Lib.indexByte,d,h,l,u,yZ]
theorem MA(s:O)(w:J):
  Calls prog 288 #[Y s] w λe w'=>e=iA (.bool (mJ s))/\Z [] w w':=by
 by_cases l:s.size=1
 .obtain⟨c,rfl⟩:∃c,s=⟨#[c]⟩:=by
   have⟨d⟩:=s;have F:d.size=1:=l;grind[Array.size_eq_one_iff]
  have u:=(λw=>Tryz.strings_Contains_one nL c w);have A:=V (aeC c);go_enter func288,ntmps288;go_wp21;refine(u _).mono ?_;rintro e w'⟨rfl,rfl⟩;go_wp2;go_ret;exact⟨by rw[<-A.out];rfl,Z.refl _ _⟩
 .have D:mJ s=false:=by
   unfold mJ gO;simp;have B:∀c:UInt8,ld s ⟨#[c]⟩=false:=by
    intro c;rw[Bool.eq_false_iff];intro h;rw[sA]at h;subst h;exact l rfl
   simp[B]
  rw[D];go_enter func288,ntmps288;go_wp2;go_ret;exact⟨rfl,Z.refl _ _⟩
attribute [local go_sem] Oper.semAt_some
theorem AB{f:jj->jj}(d:∀x y,f x=f y->x=y):∀{xs ys:kY},xs.map f=ys.map f->xs=ys
 |[],[],_=>rfl
 |[],_::_,h=>by grind
 |_::_,[],h=>by grind
 |x::xs,y::ys,h=>by
  simp at h;rw[d x y h.1,AB d h.2]
theorem Zk{f:jj->jj}(d:∀x y,f x=f y->x=y)(h:zs.map f <+:ys.map f):zs <+:ys:=by
 have⟨t,ht⟩:=h;have l:zs.length<=ys.length:=by have:=DZ List.length ht;simp at this;omega
 have e:zs.map f=(ys.take zs.length).map f:=by
  rw[lp,<-ht];simp
 grind[AB,List.take_append_drop]
def Ld(o:Oper):Bool:=match o.op with
 | .defer _=>false
 |_=>true
theorem Sv{o:Oper}(h:Ld o=true):∀c,o.op≠ .defer c:=by
 grind[Ld]
section
variable {n:Nat}{P:Program}{ops:Array Oper}{Q:Exit->Act->J->Prop}{md:Region.Mode}
def Pn(l:Nat)(H:∀(i:Nat)o,ops[i]?=some o->Ld o=true):∀u d a w,wpAnyIn Fence.wide n P md ops Q u d a w->wpAnyIn (Fence.wide.inRound l) n P md ops Q u d a w:=by
 intro u
 induction u with
 |zero=>exact λd a w h=>h
 |succ u ih=>
  intro d a w h;refine⟨h.1,λi I=>?_⟩;have A:=h.2 i I;unfold wpOpIn at A|-;cases ho:ops[i]? with
  |none=>rw[ho]at A;exact ih _ _ _ A
  |some o=>
   rw[ho]at A;simp only at A|-;split
   .rename_i B;rw[sL B]at A;have D:=Oper.wpIn_mono (λa w h=>ih _ a w h) A;refine⟨D.1,?_⟩;have F:=D.2;have e1:o.semAt (Fence.wide.inRound l).round a.eval=execOp a.eval o:=ln l a.eval o (Sv (H i o ho));have e2:o.semAt Fence.wide.round a.eval=execOp a.eval o:=rfl;rw[e1]
    rwa [e2]at F
   rename_i B;rw[Xx B]at A;exact⟨A.1,ih _ _ _ A.2⟩
theorem Cr{id:Nat}{a:Act}{w:J}{l:List Oper}(L:Nat)(B:P.follows .mixedOrders=true)(A:Region.lexB .any l.toArray=true)(D:l.all Ld=true)
  (h:wpQuietIn Fence.wide n P l.toArray (λw'=>∃n,w'=w.drewN n) (λd=>∀w',(∃n,w'=w.drewN n)->Q .normal d w') l a):(Code.region id l.toArray true).wpIn (Fence.wide.inRound L) n P Q a w:=by
 simp[Region.lexB]at A;refine wpIn_region_any B (Pn L ?_ _ _ _ _ (wpAnyIn_of_quiet (Q:=λd=>∀w',(∃n,w'=w.drewN n)->Q .normal d w') rfl (λ_ w' u h=>h w' u) _ _ _ _ ⟨1,rfl⟩ ?_));grind
 .have:=wpAnyQIn_lex (md:=.any) A.1 l.toArray.toList 0 (Array.replicate l.toArray.size false) a (by simp) (by grind) (by simpa using h)
  simpa using this
end
attribute [local go_sem] Oper.semAt_some
def aj8(T h:List Nat)(I:kY->J->Prop)(d:Code->kY->J->Prop)(zs:kY)(W:J):Exit->Act->J->Prop
 | .normal,_,W'=>Z T W W'/\I zs W'
 | .ret,_,W'=>Z h W W'/\d .ret zs W'
 | .exit id,_,W'=>Z h W W'/\d (.exit id) zs W'
 | .goto t,_,W'=>Z h W W'/\d (.goto t) zs W'
 | .panic _,_,_=>False
 | .outgrown,_,_=>False
theorem Hj{n:Nat}(hn:3<=n){base b j:Nat}{tB:TypeId}{C:jL}{v:gP}{f:jj->jj}(hf:∀x y,f x=f y->x=y){ys:kY}{w1:J}(hL:yM base b j tB C v (ys.map f) w1)
  {g:Operand} {p:Tmp} {F a6:Code} {Q:Exit->Act->J->Prop} {a:Act} (hg:a.eval g=wJ w1.heap.size)
  (T Tx:List Nat) (hT:∀k∈T,k<w1.heap.size/\k≠b/\v.ownBlock≠some k) (al:∀k∈Tx,k<w1.heap.size)
  (I:kY->J->Prop) (Ix:Code->kY->J->Prop)
  (hI:OwnFrom (w1.heap.size+2) I) (ad:∀c,OwnFrom (w1.heap.size+2) (Ix c)) (h0:I [] (nJ b j ys.length w1)) (a0:jj->Act)
  (a2:∀(l:Nat)(x:jj)(W:J)(K:Act->J->Prop),K (a0 x) W->
   F.wpIn (Fence.wide.inRound l) (n-1-1) prog (Exit.then K (λ_ _ _=>False)) {tmps:=a.tmps.setIfInBounds p (kX x),defers:=[]} W)
  (a8:∀(l:Nat)(pre:kY)(y:jj)(W:J),y∈ys->I pre W->a6.wpIn (Fence.wide.inRound l) (n-1-1) prog (aj8 T Tx I Ix (pre++[y]) W) (a0 (f y)) W)
  (ah:∀(D:Nat)(W:J),w1.heap.size+2<=D->I ys.reverse W->W.heap[D]?=some (.deferred (some []))->Q .normal {a with defers:={target:=.collected D,args:=#[]}::a.defers} W)
  (aa:∀(D:Nat)(c:Code)(pre:kY)(W:J),w1.heap.size+2<=D->pre <+:ys.reverse->Ix c pre W->W.heap[D]?=some (.deferred (some []))->c.wpIn Fence.wide n prog Q {a with defers:={target:=.collected D,args:=#[]}::a.defers} W):
  (Code.rangeFunc g #[p] F a6).wpIn Fence.wide n prog Q a (nJ b j ys.length w1):=by
 have h:(nJ b j ys.length w1).heap.size=w1.heap.size+2:=by simp
 have ag:=ja hL.il;have ai:Z [] w1 (nJ b j ys.length w1):=((Z.refl _ _).alloc _).alloc _;have af:yM base b j tB C v (ys.map f) (nJ b j ys.length w1):=hL.IC (lw.j9 (K:=b::v.ownBlock.toList) ai (λk d=>⟨by
  rcases List.mem_cons.1 d with rfl|d;exact ag;exact(hL.row.lt k (by simpa using d)).2,by simp⟩)) (by simp) (λk d=>by simp[d])
 have⟨b0,b1⟩:=(⟨(Below.heap_alloc _ _ _ (by simp)).trans (fU w1 _),by
   have:=fU (w1.alloc (gH #[j5 b j] 273)) (gH #[G ys.length] 3);simp_all⟩:(nJ b j ys.length w1).heap[w1.heap.size]?=some (gH #[j5 b j] 273)/\(nJ b j ys.length w1).heap[w1.heap.size+1]?=some (gH #[G ys.length] 3))
 obtain⟨K,hK⟩:∃K,K=b::w1.heap.size::v.ownBlock.toList:=⟨_,rfl⟩;have ab:∀k∈K,k<w1.heap.size+2:=by
  intro k d;rw[hK]at d;rcases List.mem_cons.1 d with rfl|d;omega;rcases List.mem_cons.1 d with rfl|d;omega;have:=(hL.row.lt k (by simpa using d)).2;omega
 have ae:∀k∈K,k∉T:=by
  intro k d a9;have⟨t1,t2,t3⟩:=hT k a9;rw[hK]at d;rcases List.mem_cons.1 d with rfl|d;omega;grind
 have aj:=Xk (n-1) (by omega) base b j tB C v (ys.map f) ys.length w1.heap.size K _ af (by simp) (by rw[hK];simp) (by rw[hK];simp) (by grind) (by simp) b1 b0;have ak:∀{α:Type} {W W':J} {a3:jj} {B:Nat},B<=W.heap.size->W.grownBy W' a3->B<=W'.heap.size:=λR U=>jZ R U.size;refine wpIn_rangeFunc_ownG rfl (by omega) (gf:=348) hg trivial (Go.Proofs.enters_of func348 (by rfl) rfl) aj lw.trans (λW l o o' hl R U h3=>lw.put (w:=nJ b j ys.length w1) (by rw[h];omega) W l o o' hl R U h3) (Below.refl _ _) (λ_=>rfl)
  (λpre W=>w1.heap.size+2<=W.heap.size/\∃zs,pre.map (·.1)=zs.map f/\I zs W) (λc pre W=>∃zs,pre.map (·.1)=zs.map f/\Ix c zs W) ?_ ?_ ?_ (λx=>a0 x.1) ?_ ?_ ?_ ?_
 rintro s A B a3⟨hs,zs,R,U⟩ a5 hr;rw[h]at hr;exact⟨jZ hs a5.size,zs,R,hI zs A B a3 U a5 hr⟩;rintro c s A B a3⟨zs,R,U⟩ a5 hr;rw[h]at hr;exact⟨zs,R,ad c zs A B a3 U a5 hr⟩;grind;intro l x W K' a4;have:=a2 l x.1 W K' a4;have e:(#[p].zip #[kX x.1]).foldl (λt (p,v)=>t.setIfInBounds p v) a.tmps=a.tmps.setIfInBounds p (kX x.1):=by simp
 rw[e];exact this
 .rintro l pre⟨x,hx⟩ W⟨hs,zs,R,U⟩ _;obtain⟨y,hy,rfl⟩:=List.mem_map.1 hx;refine C8 (a8 l zs y W hy U) ?_;have ac:∀{W':J},Z T W W'->KeepsFrom (nJ b j ys.length w1).heap.size W W':=by
   intro W' d;refine⟨d.size,λk o a7 ho _=>?_⟩;rw[h]at a7;rw[d.block k (Array.getElem?_eq_some_iff.1 ho).1 (λa9=>by grind)];exact ho
  have u:∀{W':J},Z Tx W W'->KeepsFrom (nJ b j ys.length w1).heap.size W W':=by
   intro W' d;refine⟨d.size,λk o a7 ho _=>?_⟩;rw[h]at a7;rw[d.block k (Array.getElem?_eq_some_iff.1 ho).1 (λa9=>by grind)];exact ho
  have H:(pre++[(⟨f y,hx⟩:{x:jj // x∈ys.map f})]).map (·.1)=(zs++[y]).map f:=by rw[rZ,R];simp
  intro e a' W' X;cases e with
  |normal=>exact⟨ac X.1,lw.j9 X.1 (λk d=>⟨nr (ab k d) hs,ae k d⟩),jZ hs X.1.size,_,H,X.2⟩
  |ret=>exact⟨u X.1,_,H,X.2⟩
  |exit id=>exact⟨u X.1,_,H,X.2⟩
  |goto t=>exact⟨u X.1,_,H,X.2⟩
  |panic _=>exact X
  |outgrown=>exact X
 rintro D xs W hD hS⟨_,zs,R,U⟩ a4;rw[h]at hD;have a1:xs.map (·.1)=((ys.map f).take ys.length).reverse:=hS;rw[R,NZ (by simp),<-qX]at a1;rw[AB hf a1]at U;grind;rintro D c pre W hD hS⟨zs,R,U⟩ a4;rw[h]at hD;have a1:pre.map (·.1) <+:((ys.map f).take ys.length).reverse:=hS;rw[R,NZ (by simp),<-qX]at a1;exact aa D c zs W hD (Zk hf a1) U a4
def abr:=λ{n:Nat} (F:3<=n) {base b j H C v} {f:jj->jj} A {ys I} u {g p d h Q a} B T l=>@Hj n F base b j H C v f A ys I u g p d h Q a B T T l (λk D=>(l k D).1)
attribute [local go_sem] Oper.semAt_some
theorem Nn:∀{xs:kY},(∀y∈xs,p (σ.mu y)=false/\q (σ.mu y)=false)->σ.wW p q xs=false
 |[],_=>rfl
 |x::xs,h=>by
  unfold N.wW;have⟨h1,h2⟩:=h x (by simp);rw[h1,h2];exact Nn λy d=>h y (by grind)
theorem Np{r:Bool}(d:(p (σ.mu y)=true/\r=true)\/(p (σ.mu y)=false/\q (σ.mu y)=true/\r=false)):∀{xs:kY},(∀y∈xs,p (σ.mu y)=false/\q (σ.mu y)=false)->σ.wW p q (xs++[y]++rest)=r
 |[],_=>by
  grind[N.wW]
 |x::xs,h=>by
  show σ.wW p q (x::(xs++[y]++rest))=r;unfold N.wW;have⟨h1,h2⟩:=h x (by simp);rw[h1,h2];exact Np d λy l=>h y (by grind)
theorem Z.take{W:J}(h:Z [] w W){D:Nat}(d:w.heap.size<=D)(o:Obj):Z [] w (W.putObj D o):=h.grown (nG W D o) (λk e=>by grind)
theorem lB{A B:J}{d:jj}{o:Obj}(h:A.heap[k]?=some o)(l:A.grownBy B d)(D:∀r,d=some r->n<=r/\∃o:Obj,A.heap[r]?=some o/\o.isCells=false)(u:k<n):B.heap[k]?=some o:=by
 grind[World.grownBy.block]
theorem nB{A B:J}{d:jj}(h:Z [] w A)(l:A.grownBy B d)(D:∀r,d=some r->n<=r/\∃o:Obj,A.heap[r]?=some o/\o.isCells=false)(u:w.heap.size<=n):Z [] w B:=h.grown l (λk e=> .inr (by grind))
theorem xN(h:RF E f σ w)(p q:O->Bool)(vs vb:gP)(hs:Ask E.bm vs p w)(hb:Ask E.bm vb q w):
  Calls prog 229 #[Bp E,vs,vb] w λe w'=>e=iA (.bool (σ.inScope p q))/\Z [] w w':=by
 obtain⟨L,rfl,H⟩:=h;obtain⟨k1,u,rfl,a8,H1⟩:=hs.call;obtain⟨k2,I,rfl,a9,H2⟩:=hb.call;refine(XB (n:=3)).1 ?_;refine abz func229 rfl trivial ?_ rfl;simp only[ntmps229,abw,pG,Kk,Nat.reduceAdd,Nat.reduceSub,sR,yD,wL,yE,abu,yF];obtain⟨w1,R⟩:∃w1,w1=((w.alloc (gH #[.func (.func k1) #[] u] 85)).alloc (gH #[.func (.func k2) #[] I] 85)).alloc (gH #[.bool false] 4):=⟨_,rfl⟩;have a3:Z [] w w1:=by rw[R];exact(((Z.refl _ _).alloc _).alloc _).alloc _
 have⟨b0,b1,b2⟩:=pF w (gH #[.func (.func k1) #[] u] 85) (gH #[.func (.func k2) #[] I] 85) (gH #[.bool false] 4);rw[<-R]at b0 b1 b2;have d:w1.heap.size=w.heap.size+1+1+1:=by rw[R];simp
 have a5:=H.ir a3;have⟨C,HL,hC⟩:=a5.AA;have aa:=H.lt;have HU:=acT E.bs E.bB 188 _ C _ _ w1 HL;have HO:=(λg (hg:L.ov.ownBlock=some g)=>EV H.qv hg);have HN:=V (λ(W:J) (X:Z [] w W) (i:Nat) (e:wN) (hi:σ.gU i=some e)=>(H.ir X).wU hi);have HS:=(λ(y:jj) (U:y∈σ.gq)=>H.px U);have HI:=V H.inj;clear H a5 hC hs hb
 gi_wp2_with (refine⟨trivial,?_⟩;gi_at_call 285;rw[<-R];refine(callsIn_wide.2 HU).mono ?_;rintro e w'⟨rfl,rfl⟩)
 rw[<-d,<-R];have HZ:=V d;clear d R;refine abr (by omega) (f:=iF L.gQ) (λx y e=>tk HI.out e) HL rfl [w.heap.size+1+1] ?_
  (λpre W=>Z [] w W/\W.heap[w.heap.size]?=some (gH #[.func (.func k1) #[] u] 85)/\W.heap[w.heap.size+1]?=some (gH #[.func (.func k2) #[] I] 85)/\W.heap[w.heap.size+1+1]?=some (gH #[.bool false] 4)/\∀y∈pre,p (σ.mu y)=false/\q (σ.mu y)=false)
  (λc pre W=>c=.ret/\Z [] w W/\∃F y r,pre=F++[y]/\(∀y∈F,p (σ.mu y)=false/\q (σ.mu y)=false)/\((p (σ.mu y)=true/\r=true)\/(p (σ.mu y)=false/\q (σ.mu y)=true/\r=false))/\W.heap[w.heap.size+1+1]?=some (gH #[.bool r] 4))
  ?_ ?_ ?_ (λx=>{tmps:=#[Bp E,.func (.func k1) #[] u,.func (.func k2) #[] I,undef,gI w.heap.size,gI (w.heap.size+1),gI (w.heap.size+1+1),kX x,Bp E,gI E.bB,j5 E.bB 188,wJ w1.heap.size,kX x,undef,undef,undef,undef,undef,undef,undef,undef,undef,undef,undef,undef,undef,undef],defers:=[]}) ?assign ?body ?done ?stop
 grind;rintro s A B a7⟨h1,h2,h3,h4,h5⟩ hg H;have d:=HZ.out;exact⟨nB h1 hg H (by omega),lB h2 hg H (by omega),lB h3 hg H (by omega),lB h4 hg H (by omega),h5⟩;rintro c s A B a7⟨h0,h1,F,y,r,h2,h3,h4,h5⟩ hg H;have d:=HZ.out;exact⟨h0,nB h1 hg H (by omega),F,y,r,h2,h3,h4,lB h5 hg H (by omega)⟩;have X:Z [] w1 (nJ E.bB 188 (σ.gq.length) w1):=((Z.refl _ _).alloc _).alloc _;exact⟨a3.trans X,X.at b0 (by simp),X.at b1 (by simp),X.at b2 (by simp),by simp⟩
 case assign=>
  intro l x W K hK;gi_wp2;exact hK
 case body=>
  rintro l pre y W U⟨HK,B2,B3,B4,B5⟩;obtain⟨i,e0,rfl,hi⟩:=HS y U;have c0:=HN.out W HK i e0 hi;have c1:=fP B2 0;have c2:=fP B3 0;have c3:=fP B4 0;have f3:=gx B4 0;dsimp at c1 c2 c3;have HA:=(λW' (X:Z [] w W')=>H1 W' (.ib X) (σ.nm i));have HB:=(λW' (X:Z [] w W')=>H2 W' (.ib X) (σ.nm i));have HW:=HK.drew;have HT:Hid (∀(r:Bool),Z [w.heap.size+1+1] W ((W.drew).setCell ⟨w.heap.size+1+1,0,none⟩ (.bool r))/\Z [] w ((W.drew).setCell ⟨w.heap.size+1+1,0,none⟩ (.bool r))/\((W.drew).setCell ⟨w.heap.size+1+1,0,none⟩ (.bool r)).heap[w.heap.size+1+1]?=some (gH #[.bool r] 4)):=λr=>⟨((Z.refl _ W).drew).setCell (.inl (by simp)) _,HK.drew.setCell (.inr (by simp;omega)) _,gh (show W.drew.heap[w.heap.size+1+1]?=_ from B4) 0 _⟩;have a6:Hid (∀(r:Bool),Z [w.heap.size+1+1] W ((W.drew.drew).setCell ⟨w.heap.size+1+1,0,none⟩ (.bool r))/\Z [] w ((W.drew.drew).setCell ⟨w.heap.size+1+1,0,none⟩ (.bool r))/\((W.drew.drew).setCell ⟨w.heap.size+1+1,0,none⟩ (.bool r)).heap[w.heap.size+1+1]?=some (gH #[.bool r] 4)):=λr=>⟨((Z.refl _ W).drew.drew).setCell (.inl (by simp)) _,HK.drew.drew.setCell (.inr (by simp;omega)) _,gh (show W.drew.drew.heap[w.heap.size+1+1]?=_ from B4) 0 _⟩;have HN:Hid (Z [w.heap.size+1+1] W W.drew.drew):=(Z.refl _ W).drew.drew
  try dsimp only
  rw[show kX (iF L.gQ (some i))=gI (L.gQ i)from rfl];have ab:prog.follows .mixedOrders=true:=rfl;gi_wp2;refine C8 (Q:=λe a' w'=>e=Exit.normal/\a'=({tmps:=#[Bp E,.func (.func k1) #[] u,.func (.func k2) #[] I,undef,gI w.heap.size,gI (w.heap.size+1),gI (w.heap.size+1+1),gI (L.gQ i),Bp E,gI E.bB,j5 E.bB 188,wJ w1.heap.size,gI (L.gQ i),.bool (p (σ.nm i)),.func (.func k1) #[] u,gI (L.gQ i),gI (L.gQ i),gI (L.gQ i),Y (σ.nm i),.bool (p (σ.nm i)),undef,undef,undef,undef,undef,undef,undef],defers:=[]}:Act)/\w'=W.drew) ?_ ?_
  .gi_region_with_o (refine⟨trivial,?_⟩;refine(zq l (callsIn_wide.2 (HA _ HW))).mono ?_;rintro e w'⟨rfl,rfl⟩)
   all_goals simp
  rintro e a' w'⟨rfl,rfl,rfl⟩;cases hp:p (σ.nm i)with
  |true=>
   gi_wp2;have⟨t1,t2,t3⟩:=HT.out true;exact⟨t1,rfl,t2,pre,some i,true,rfl,B5,.inl ⟨hp,rfl⟩,t3⟩
  |false=>
   have HP:=hp;clear hp;gi_wp2;refine C8 (Q:=λe a' w'=>e=Exit.normal/\a'=({tmps:=#[Bp E,.func (.func k1) #[] u,.func (.func k2) #[] I,undef,gI w.heap.size,gI (w.heap.size+1),gI (w.heap.size+1+1),gI (L.gQ i),Bp E,gI E.bB,j5 E.bB 188,wJ w1.heap.size,gI (L.gQ i),.bool false,.func (.func k1) #[] u,gI (L.gQ i),gI (L.gQ i),gI (L.gQ i),Y (σ.nm i),.bool false,.bool (q (σ.nm i)),.func (.func k2) #[] I,gI (L.gQ i),gI (L.gQ i),gI (L.gQ i),Y (σ.nm i),.bool (q (σ.nm i))],defers:=[]}:Act)/\w'=W.drew.drew) ?_ ?_
   .gi_region_with_o (refine⟨trivial,?_⟩;refine(zq l (callsIn_wide.2 (HB _ HW.drew))).mono ?_;rintro e w'⟨rfl,rfl⟩)
    all_goals simp
   rintro e a' w'⟨rfl,rfl,rfl⟩;cases hq:q (σ.nm i)with
   |true=>
    gi_wp2;have⟨t1,t2,t3⟩:=a6.out false;exact⟨t1,rfl,t2,pre,some i,false,rfl,B5,.inr ⟨HP,hq,rfl⟩,t3⟩
   |false=>
    have HQ:=hq;clear hq;gi_wp2;refine⟨HN.out,HK.drew.drew,B2,B3,B4,λy U=>?_⟩;rcases List.mem_append.1 U with U|U;exact B5 y U;rw[List.mem_singleton.1 U];exact⟨HP,HQ⟩
 case done=>
  rintro D W HD⟨HK,h2,h3,h4,h5⟩ hK;have d:=HZ.out;have c3:=fP h4 0;have f3:=gx h4 0;dsimp at c3;have a1:σ.inScope p q=false:=Nn (λy U=>h5 y U);clear h2 h3 d h5;gi_wp2;have a2:=(C9 W ⟨w.heap.size+1+1,0,none⟩ (.bool false)).same D _ hK rfl;refine⟨by simp,.inl ⟨_,_,rfl,N4 a2,?_⟩⟩;have a0:=cell_kept (World.cell?_setCell_same' W ⟨w.heap.size+1+1,0,none⟩ (.bool false) (by rw[c3];rfl)) (nG _ D (.deferred none)) (λr e=>by cases e;exact⟨_,a2,rfl⟩);refine⟨.bool false,?_,⟨by rw[a1],?_⟩⟩
  .simp[results,results229,go_sem,a0]
  have d:=HZ.out;have hD:=HD;exact(HK.setCell (.inr (by simp;omega)) _).take (by omega) _
 case stop=>
  rintro D c pre W HD a4⟨rfl,HK,F,y,r,rfl,h3,h4,h5⟩ hK;have⟨rest,hrest⟩:=a4;have a1:σ.inScope p q=r:=by unfold N.inScope;rw[<-hrest];exact Np h4 h3
  have c3:=fP h5 0;dsimp at c3;clear h3 h4 h5 hrest;gi_wp2;refine⟨by simp,.inl ⟨_,_,rfl,N4 hK,?_⟩⟩;have a0:=cell_kept c3 (nG _ D (.deferred none)) (λr e=>by cases e;exact⟨_,hK,rfl⟩);refine⟨.bool r,?_,⟨by rw[a1],?_⟩⟩
  .simp[results,results229,go_sem,a0]
  have d:=HZ.out;have hD:=HD;exact HK.take (by omega) _
section
attribute [local go_sem] Oper.semAt_some
def rE(f:FuncId):Fence.wide.fn f=True:=rfl
attribute [local go_sem] rE
attribute [local simp] rE
theorem Gi:∀{xs:kY},(∀y∈xs,y≠some it/\iI (σ.mu y)=false)->σ.oo it xs=false
 |[],_=>rfl
 |x::xs,h=>by
  unfold N.oo;have⟨h1,h2⟩:=h x (by simp);rw[Xx h1,h2];exact Gi λy d=>h y (by grind)
theorem Gk{r:Bool}(d:(y=some it/\r=true)\/(y≠some it/\iI (σ.mu y)=true/\r=false)):∀{xs:kY},(∀y∈xs,y≠some it/\iI (σ.mu y)=false)->σ.oo it (xs++[y]++rest)=r
 |[],_=>by
  grind[N.oo]
 |x::xs,h=>by
  show σ.oo it (x::(xs++[y]++rest))=r;unfold N.oo;have⟨h1,h2⟩:=h x (by simp);rw[Xx h1,h2];exact Gk d λy l=>h y (by grind)
theorem JR(h:RF E f σ w)(it:Nat)(aa:σ.gZ (some it)=true):
  Calls prog 278 #[Bp E,nV f it] w λe w'=>e=iA (.bool (σ.pi it))/\Z [] w w':=by
 obtain⟨L,rfl,F⟩:=h;have⟨fb,ab,lb0,cb,hb⟩:=F.bounds;have⟨kb,lbb,eb,heb,H2⟩:=hb.call;cases eb;refine(XB (n:=3)).1 ?_;refine abz func278 rfl trivial ?_ rfl;simp only[ntmps278,abw,pG,Kk,Nat.reduceAdd,Nat.reduceSub,sR,yD,wL,yE,abu,yF];obtain⟨w1,R⟩:∃w1,w1=((w.alloc (gH #[Bp E] 117)).alloc (gH #[gI (L.gQ it)] 66)).alloc (gH #[.bool false] 4):=⟨_,rfl⟩;have a6:Z [] w w1:=by rw[R];exact(((Z.refl _ _).alloc _).alloc _).alloc _
 have⟨b0,b1,b2⟩:=pF w (gH #[Bp E] 117) (gH #[gI (L.gQ it)] 66) (gH #[.bool false] 4);rw[<-R]at b0 b1 b2;have d:w1.heap.size=w.heap.size+1+1+1:=by rw[R];simp
 have ae:=F.ir a6;have⟨C,HL,hC⟩:=ae.AA;have ac:=F.lt;have HU:=acT E.bs E.bB 188 _ C _ _ w1 HL;have a8:=(λ(W:J) (I:Z [] w W)=>(I.cell (p:=⟨E.bB,186,none⟩) ac (by simp)).trans cb);have HO:=(λg (X:L.ov.ownBlock=some g)=>EV F.qv X);have HN:=(λ(W:J) (I:Z [] w W) (i:Nat) (e:wN) (hi:σ.gU i=some e)=>(F.ir I).wU hi);have HS:=(λ(y:jj) (U:y∈σ.gq)=>F.px U);have HI:=F.inj;have HE:=(λ(W:J) (I:Z [] w W) (x:jj) (hx:σ.gZ x=true)=>(F.ir I).gZ hx);have HZ:=V d;have HW:=V R;clear d R
 gi_wp2_with fail
 rw[<-HW.out];refine(callsIn_wide.2 HU).mono ?_;rintro e w'⟨rfl,rfl⟩;gi_wp2;refine abr (by omega) (f:=iF L.gQ) (λx y e=>tk HI e) HL rfl [w.heap.size+1+1] ?_
  (λpre W=>Z [] w W/\W.heap[w.heap.size]?=some (gH #[Bp E] 117)/\W.heap[w.heap.size+1]?=some (gH #[gI (L.gQ it)] 66)/\W.heap[w.heap.size+1+1]?=some (gH #[.bool false] 4)/\∀y∈pre,y≠some it/\iI (σ.mu y)=false)
  (λc pre W=>c=.ret/\Z [] w W/\∃u y r,pre=u++[y]/\(∀y∈u,y≠some it/\iI (σ.mu y)=false)/\((y=some it/\r=true)\/(y≠some it/\iI (σ.mu y)=true/\r=false))/\W.heap[w.heap.size+1+1]?=some (gH #[.bool r] 4))
  ?_ ?_ ?_ (λx=>{tmps:=#[Bp E,gI (L.gQ it),gI w.heap.size,gI (w.heap.size+1),gI (w.heap.size+1+1),kX x,Bp E,gI E.bB,j5 E.bB 188,wJ w1.heap.size,kX x,undef,undef,undef,undef,undef,undef,undef,undef,undef,undef,undef,undef,undef,undef],defers:=[]}) ?assign ?body ?done ?stop
 grind;rintro s A B ag⟨h1,h2,h3,h4,h5⟩ X F;have d:=HZ.out;exact⟨nB h1 X F (by omega),lB h2 X F (by omega),lB h3 X F (by omega),lB h4 X F (by omega),h5⟩;rintro c s A B ag⟨h0,h1,u,y,r,h2,h3,h4,h5⟩ X F;have d:=HZ.out;exact⟨h0,nB h1 X F (by omega),u,y,r,h2,h3,h4,lB h5 X F (by omega)⟩;have I:Z [] w1 (nJ E.bB 188 (σ.gq.length) w1):=((Z.refl _ _).alloc _).alloc _;exact⟨a6.trans I,I.at b0 (by simp),I.at b1 (by simp),I.at b2 (by simp),by simp⟩
 case assign=>
  intro l x W K hK;gi_wp2;exact hK
 case body=>
  rintro l pre y W U⟨H,B2,B3,B4,B5⟩;obtain⟨i,e0,rfl,hi⟩:=HS y U;have c0:=HN W H i e0 hi;have cB:=a8 W H;have c1:=fP B2 0;have c2:=fP B3 0;have c3:=fP B4 0;have f3:=gx B4 0;dsimp at c1 c2 c3;have HB:=(λW' (I:Z [] w W')=>H2 W' (.ib I) (σ.nm i));have HT:Hid (∀(q:Nat)(r:Bool),Z [w.heap.size+1+1] W ((W.drewN q).setCell ⟨w.heap.size+1+1,0,none⟩ (.bool r))/\Z [] w ((W.drewN q).setCell ⟨w.heap.size+1+1,0,none⟩ (.bool r))/\((W.drewN q).setCell ⟨w.heap.size+1+1,0,none⟩ (.bool r)).heap[w.heap.size+1+1]?=some (gH #[.bool r] 4)):=λq r=>⟨((Z.refl _ W).drewN q).setCell (.inl (by simp)) _,(H.drewN q).setCell (.inr (by simp;omega)) _,gh (show(W.drewN q).heap[w.heap.size+1+1]?=_ from B4) 0 _⟩;have a9:Hid (∀(r:Bool),Z [w.heap.size+1+1] W (W.setCell ⟨w.heap.size+1+1,0,none⟩ (.bool r))/\Z [] w (W.setCell ⟨w.heap.size+1+1,0,none⟩ (.bool r))/\(W.setCell ⟨w.heap.size+1+1,0,none⟩ (.bool r)).heap[w.heap.size+1+1]?=some (gH #[.bool r] 4)):=λr=>⟨(Z.refl _ W).setCell (.inl (by simp)) _,H.setCell (.inr (by simp;omega)) _,gh B4 0 _⟩;have a1:=Ek (HE W H (some i) (by show(σ.gU i).isSome=true;rw[hi];rfl)) (HE W H (some it) aa);rw[show ptr (iF L.gQ (some i))=some ⟨L.gQ i,0,none⟩from rfl,show ptr (iF L.gQ (some it))=some ⟨L.gQ it,0,none⟩from rfl]at a1
  try dsimp only
  rw[show kX (iF L.gQ (some i))=gI (L.gQ i)from rfl];by_cases a2:i=it
  .subst a2;rw[Hl rfl]at a1;gi_wp2;have⟨t1,t2,t3⟩:=a9.out true;exact⟨t1,rfl,t2,pre,some i,true,rfl,B5,.inl ⟨rfl,rfl⟩,t3⟩
  .have ad:L.gQ i≠L.gQ it:=λe=>a2 (HI _ _ e);have a4:(some i:jj)≠some it:=λe=>a2 (Ki e);rw[qW (by simpa using ad)]at a1;gi_wp2;refine Cr l (by kernel_rfl) (by kernel_rfl) (by rfl) ?_
   repeat (gi_big_quiet_step ((exact callsIn_wide.2 (kV (HB _ (H.drewN _))))))
   refine wpQuietIn_nil ?_;intro _ af;have⟨nq,hw''⟩:=af;subst hw'';cases hq:iI (σ.nm i)with
   |true=>
    gi_wp2;have⟨t1,t2,t3⟩:=HT.out nq false;exact⟨t1,rfl,t2,pre,some i,false,rfl,B5,.inr ⟨a4,hq,rfl⟩,t3⟩
   |false=>
    have HQ:=hq;gi_wp2;refine⟨(Z.refl _ W).drewN nq,H.drewN nq,B2,B3,B4,λy U=>?_⟩;rcases List.mem_append.1 U with U|U;exact B5 y U;rw[List.mem_singleton.1 U];exact⟨a4,HQ⟩
 case done=>
  rintro D W HD⟨H,h2,h3,h4,h5⟩ hK;have d:=HZ.out;have c3:=fP h4 0;have f3:=gx h4 0;dsimp at c3;have a3:σ.pi it=false:=Gi (λy U=>h5 y U);clear d;gi_wp2;have a5:=(C9 W ⟨w.heap.size+1+1,0,none⟩ (.bool false)).same D _ hK rfl;refine⟨by simp,.inl ⟨_,_,rfl,N4 a5,?_⟩⟩;have a0:=cell_kept (World.cell?_setCell_same' W ⟨w.heap.size+1+1,0,none⟩ (.bool false) (by rw[c3];rfl)) (nG _ D (.deferred none)) (λr e=>by cases e;exact⟨_,a5,rfl⟩);refine⟨.bool false,?_,⟨by rw[a3],?_⟩⟩
  .simp[results,results278,go_sem,a0]
  have d:=HZ.out;have hD:=HD;exact(H.setCell (.inr (by simp;omega)) _).take (by omega) _
 case stop=>
  rintro D c pre W HD a7⟨rfl,H,u,y,r,rfl,h3,h4,h5⟩ hK;have⟨rest,hrest⟩:=a7;have a3:σ.pi it=r:=by unfold N.pi;rw[<-hrest];exact Gk h4 h3
  have c3:=fP h5 0;dsimp at c3;gi_wp2;refine⟨by simp,.inl ⟨_,_,rfl,N4 hK,?_⟩⟩;have a0:=cell_kept c3 (nG _ D (.deferred none)) (λr e=>by cases e;exact⟨_,hK,rfl⟩);refine⟨.bool r,?_,⟨by rw[a3],?_⟩⟩
  .simp[results,results278,go_sem,a0]
  have d:=HZ.out;have hD:=HD;exact H.take (by omega) _
end
theorem OS(s:O)(w:J):Calls prog 286 #[Y s] w λe w'=>e=iA (G (gJ s))/\w'=w:=by
 have d:gJ s=if (s.toList==[116,100]||s.toList==[116,104])then 13 else if s.toList==[116,114]then 12 else if (s.toList==[116,98,111,100,121]||(s.toList==[116,104,101,97,100]||s.toList==[116,102,111,111,116]))then 11 else if s.toList==[99,97,112,116,105,111,110]then 9 else if s.toList==[99,111,108,103,114,111,117,112]then 10 else if s.toList==[116,97,98,108,101]then 7 else 6:=by
  unfold gJ gO ld;simp only[List.any_cons,List.any_nil,Bool.or_false,sd]
 rw[d];go_enter func286,ntmps286;go_wp2
 all_goals go_ret
 all_goals refine⟨?_,rfl⟩
 all_goals simp_all
attribute [local go_sem] Oper.semAt_some
theorem Z.both{a:J}(h:Z [] a w){t:TypeId}(F:a.heap[b]?=some (gH c t))(j:Nat)(v:gP):Z [] (a.setCell ⟨b,j,none⟩ v) (w.setCell ⟨b,j,none⟩ v):=by
 have u:=(Z.refl [b] a).setCell (p:=⟨b,j,none⟩) (.inl (by simp)) v;have A:=(Z.refl [b] w).setCell (p:=⟨b,j,none⟩) (.inl (by simp)) v;have d:(a.setCell ⟨b,j,none⟩ v).heap.size=a.heap.size:=by simp
 have D:(w.setCell ⟨b,j,none⟩ v).heap.size=w.heap.size:=by simp
 refine⟨A.os.trans (h.os.trans u.os.symm),A.tape.trans (h.tape.trans u.tape.symm),A.output.trans (h.output.trans u.output.symm),by rw[d,D];exact h.size,λk l _=>?_⟩;rw[d]at l;by_cases B:k=b;subst B;exact(gh (h.at F (by simp)) j v).trans (gh F j v).symm;rw[A.block k (nr l h.size) (by grind),u.block k l (by grind),h.block k l (by simp)]
def Nf:∀{xs:kY},(∀y∈xs,gJ (σ.mu y)=6)->rB σ xs=6
 |[],_=>rfl
 |x::xs,h=>by
  unfold rB;rw[sL (h x (by simp))];exact Nf λy d=>h y (by simp[d])
theorem Ng(d:gJ (σ.mu y)≠6):∀{xs:kY},(∀y∈xs,gJ (σ.mu y)=6)->rB σ (xs++[y]++rest)=gJ (σ.mu y)
 |[],_=>by
  grind[rB]
 |x::xs,h=>by
  show rB σ (x::(xs++[y]++rest))=_;unfold rB;rw[sL (h x (by simp))];exact Ng d λy l=>h y (by simp[l])
theorem aa5(h:RF E f σ w):
  Calls prog 221 #[Bp E] w (kO E f σ.nodes.length w (yq σ) uV):=by
 obtain⟨L,rfl,F⟩:=h;refine(XB (n:=3)).1 ?_;refine abz func221 rfl trivial ?_ rfl;simp only[ntmps221,abw,pG,Kk,Nat.reduceAdd,Nat.reduceSub,sR,yD,wL,yE,abu,yF];have ai:=F.lt;have cm:=F.tf;have fm:=F.free 192;have af:=F.jm 6;have ae:Fr E.bs w (w.setCell ⟨E.bB,192,none⟩ (G ((6:Nat)))):=(At.start ⟨L,rfl,F⟩).Oz 192 _;obtain⟨H,U⟩:∃H,H=(w.setCell ⟨E.bB,192,none⟩ (G 6)).alloc (gH #[Bp E] 117):=⟨_,rfl⟩;have a7:Z [] (w.setCell ⟨E.bB,192,none⟩ (G 6)) H:=by rw[U];exact(Z.refl _ _).alloc _
 have b0:H.heap[w.heap.size]?=some (gH #[Bp E] 117):=by
  rw[U];have:=fU (w.setCell ⟨E.bB,192,none⟩ (G 6)) (gH #[Bp E] 117)
  simpa using this
 have a0:H.heap.size=w.heap.size+1:=by rw[U];simp
 have u:=af.ir a7;have⟨C,HL,hC⟩:=u.AA;have HU:=acT E.bs E.bB 188 _ C _ _ H HL;have HO:=(λg (hg:L.ov.ownBlock=some g)=>EV F.qv hg);have HN:=(λ(W:J) (hk:Z [] H W) (i:Nat) (e:wN) (hi:σ.gU i=some e)=>(show W.cell? ⟨L.gQ i,0,none⟩=some (Y (σ.nm i))from(u.ir hk).wU (σ:={σ with mode:=6}) hi));have HS:=(λ(y:jj) (hy:y∈σ.gq)=>F.px hy);have HI:=F.inj;have HM:=(λ(W:J) (hk:Z [] H W)=>(⟨(u.ir hk).tf,(u.ir hk).free 192,(u.ir hk).lt⟩:_/\_/\_));have a2:=V u;have a6:=ae.trans (.ib a7);have aa:=HL.il;have ah:=F.fr.size;clear u;have HZ:=V a0;have HW:=V U;clear a0 U
 gi_wp2_with fail
 rw[<-HW.out];refine⟨trivial,(callsIn_wide.2 HU).mono ?_⟩;rintro e w'⟨rfl,rfl⟩;gi_wp2;refine Hj (by omega) (f:=iF L.gQ) (λx y e=>tk HI e) HL rfl [] [E.bB] (by simp) (by grind)
  (λpre W=>Z [] H W/\∀y∈pre,gJ (σ.mu y)=6)
  (λc pre W=>c=.ret/\∃d y,pre=d++[y]/\(∀y∈d,gJ (σ.mu y)=6)/\gJ (σ.mu y)≠6/\Z [] (H.setCell ⟨E.bB,192,none⟩ (G (gJ (σ.mu y)))) W)
  ?_ ?_ ?_ (λx=>{tmps:=#[Bp E,gI w.heap.size,kX x,undef,Bp E,gI E.bB,j5 E.bB 192,Bp E,gI E.bB,j5 E.bB 188,wJ H.heap.size,kX x,undef,undef,undef,undef,undef,undef,undef,undef,undef,undef,undef],defers:=[]}) ?assign ?body ?done ?stop
 rintro s A B ag⟨I,X⟩ hg F;exact⟨nB I hg F (by omega),X⟩;rintro c s A B ag⟨h0,d,y,h2,h3,h4,X⟩ hg F;exact⟨h0,d,y,h2,h3,h4,nB X hg F (by simp)⟩;exact⟨((Z.refl _ _).alloc _).alloc _,by simp⟩
 case assign=>
  intro l x W K hK;gi_wp2;exact hK
 case body=>
  rintro l pre y W hy⟨I,B5⟩;obtain⟨i,e0,rfl,hi⟩:=HS y hy;have c0:=HN W I i e0 hi;have c1:=fP (I.at b0 (by simp)) 0;dsimp at c1;have⟨c2,f2,hl2⟩:=HM W I;have HB:=(λW=>OS (σ.nm i) W);have HK:=V I;have HT:=(λv=>(Z.refl [E.bB] W).setCell (p:=⟨E.bB,192,none⟩) (.inl (by simp)) v);have ad:=(λv=>I.both aa 192 v);clear I
  try dsimp only
  rw[show kX (iF L.gQ (some i))=gI (L.gQ i)from rfl];obtain⟨mm,a3⟩:∃mm,mm=gJ (σ.nm i):=⟨_,rfl⟩;rw[<-a3]at HB;have a1:Hid (gJ (σ.mu (some i))=mm):=V a3.symm;clear a3
  gi_wp2_with (first|(refine⟨trivial,?_⟩;refine(zq l (callsIn_wide.2 (HB _))).mono ?_;rintro e W⟨rfl,rfl⟩))
  rename_i a4;have a8:mm≠6:=by intro e;subst e;simp at a4
  refine⟨HT _,rfl,pre,some i,rfl,B5,by rw[a1.out];omega,?_⟩;rw[a1.out];exact ad _;rename_i a4;have a8:mm=6:=by
   have:¬((mm:Int)≠6):=by simpa using a4
   omega
  refine⟨Z.refl _ _,HK.out,λy hy=>?_⟩;rcases List.mem_append.1 hy with hy|hy;exact B5 y hy;rw[List.mem_singleton.1 hy,a1.out];omega
 case done=>
  rintro D W HD⟨I,X⟩ hK;have a5:yq σ=.ok () {σ with mode:=6}:=by
   show qQ.ok () {σ with mode:=rB σ σ.gq.reverse}=_;rw[Nf X]
  rw[a5];have HK:=V I;clear I X;gi_wp2;refine⟨by simp,.inl ⟨_,_,rfl,N4 hK,?_⟩⟩;have a0:=HZ.out;have hD:=HD;have R:=HK.out.take (D:=D) (by omega) (.deferred none);exact⟨_,QU rfl _ _ _,rfl,⟨L,rfl,a2.out.ir R⟩,a6.trans (.ib R),ic _⟩
 case stop=>
  rintro D c pre W HD a9⟨rfl,d,y,rfl,h3,h4,X⟩ hK;have⟨rest,hrest⟩:=a9;have a5:yq σ=.ok () {σ with mode:=gJ (σ.mu y)}:=by
   show qQ.ok () {σ with mode:=rB σ σ.gq.reverse}=_;rw[<-hrest,Ng h4 h3]
  rw[a5];have ac:=a2.out.jm (gJ (σ.mu y));have ab:Fr E.bs H (H.setCell ⟨E.bB,192,none⟩ (G (gJ (σ.mu y)))):=(At.start ⟨L,rfl,a2.out⟩).Oz 192 _;have HK:=V X;clear X;gi_wp2;refine⟨by simp,.inl ⟨_,_,rfl,N4 hK,?_⟩⟩;have a0:=HZ.out;have hD:=HD;have R:=HK.out.take (D:=D) (by simp;omega) (.deferred none);exact⟨_,QU rfl _ _ _,rfl,⟨L,rfl,ac.ir R⟩,(a6.trans ab).trans (.ib R),ic _⟩
section
attribute [local go_sem] Oper.semAt_some
attribute [local go_sem] rE
attribute [local simp] rE
def N.il(σ:N)(pre:kY)(b:jj):jj:=pre.foldl (λb y=>if kT (σ.mu y)then y else b) b
theorem LG:∀{xs:kY} {b:jj},(∀y∈xs,y≠some it)->σ.tV it xs b=σ.il xs b
 |[],_,_=>rfl
 |x::xs,b,h=>by
  unfold N.tV;rw[Xx (h x (by simp))];exact LG λy d=>h y (by grind)
theorem LH:∀{xs:kY} {b:jj},(∀y∈xs,y≠some it)->σ.tV it (xs++[some it]++rest) b=σ.il xs b
 |[],b,_=>by
  grind[N.tV,N.il]
 |x::xs,b,h=>by
  show σ.tV it (x::(xs++[some it]++rest)) b=_;unfold N.tV;rw[Xx (h x (by simp))];exact LH λy d=>h y (by grind)
def Ui(σ:N)(pre:kY)(y b:jj):σ.il (pre++[y]) b=if kT (σ.mu y)then y else σ.il pre b:=by
 simp[N.il]
theorem Od(h:RF E f σ w)(it:Nat)(a6:σ.gZ (some it)=true):
  Calls prog 344 #[Bp E,nV f it] w λe w'=>e=iA (oV f (σ.pq it))/\Z [] w w':=by
 obtain⟨L,rfl,u⟩:=h;have⟨fb,ab,lb0,cb,hb⟩:=u.Lh;have⟨kb,lbb,eb,heb,H2⟩:=hb.call;cases eb;refine(XB (n:=3)).1 ?_;refine abz func344 rfl trivial ?_ rfl;simp only[ntmps344,abw,pG,Kk,Nat.reduceAdd,Nat.reduceSub,sR,yD,wL,yE,abu,yF];obtain⟨w1,U⟩:∃w1,w1=((w.alloc (gH #[Bp E] 117)).alloc (gH #[gI (L.gQ it)] 66)).alloc (gH #[.pointer none] 66):=⟨_,rfl⟩;have a3:Z [] w w1:=by rw[U];exact(((Z.refl _ _).alloc _).alloc _).alloc _
 have⟨b0,b1,b2⟩:=pF w (gH #[Bp E] 117) (gH #[gI (L.gQ it)] 66) (gH #[.pointer none] 66);rw[<-U]at b0 b1 b2;have F:w1.heap.size=w.heap.size+1+1+1:=by rw[U];simp
 have a9:=u.ir a3;have⟨C,HL,hC⟩:=a9.AA;have a7:=u.lt;have HU:=acT E.bs E.bB 188 _ C _ _ w1 HL;have a5:=(λ(W:J) (I:Z [] w W)=>(I.cell (p:=⟨E.bB,184,none⟩) a7 (by simp)).trans cb);have HO:=(λg (X:L.ov.ownBlock=some g)=>EV u.qv X);have HN:=(λ(W:J) (I:Z [] w W) (i:Nat) (e:wN) (hi:σ.gU i=some e)=>(u.ir I).wU hi);have HS:=(λ(y:jj) (hy:y∈σ.gq)=>u.px hy);have HI:=u.inj;have HE:=(λ(W:J) (I:Z [] w W) (x:jj) (hx:σ.gZ x=true)=>(u.ir I).gZ hx);have HZ:=V F;have HW:=V U;clear F U
 gi_wp2_with fail
 rw[<-HW.out];refine(callsIn_wide.2 HU).mono ?_;rintro e w'⟨rfl,rfl⟩;gi_wp2;refine Hj (by omega) (f:=iF L.gQ) (λx y e=>tk HI e) HL rfl [w.heap.size+1+1] [] ?_ (by simp)
  (λpre W=>Z [] w W/\W.heap[w.heap.size]?=some (gH #[Bp E] 117)/\W.heap[w.heap.size+1]?=some (gH #[gI (L.gQ it)] 66)/\W.heap[w.heap.size+1+1]?=some (gH #[oV L.gQ (σ.il pre none)] 66)/\∀y∈pre,y≠some it)
  (λc pre W=>c=.exit 0/\Z [] w W/\∃d,pre=d++[some it]/\(∀y∈d,y≠some it)/\W.heap[w.heap.size+1+1]?=some (gH #[oV L.gQ (σ.il d none)] 66))
  ?_ ?_ ?_ (λx=>{tmps:=#[Bp E,gI (L.gQ it),gI w.heap.size,gI (w.heap.size+1),.pointer none,gI (w.heap.size+1+1),kX x,Bp E,gI E.bB,j5 E.bB 188,wJ w1.heap.size,kX x,undef,undef,undef,undef,undef,undef,undef,undef,undef,undef,undef,undef,undef,undef],defers:=[]}) ?assign ?body ?done ?stop
 grind;rintro s A B ac⟨h1,h2,h3,h4,h5⟩ X u;have F:=HZ.out;exact⟨nB h1 X u (by omega),lB h2 X u (by omega),lB h3 X u (by omega),lB h4 X u (by omega),h5⟩;rintro c s A B ac⟨h0,h1,d,h2,h3,h5⟩ X u;have F:=HZ.out;exact⟨h0,nB h1 X u (by omega),d,h2,h3,lB h5 X u (by omega)⟩;have I:Z [] w1 (nJ E.bB 188 (σ.gq.length) w1):=((Z.refl _ _).alloc _).alloc _;exact⟨a3.trans I,I.at b0 (by simp),I.at b1 (by simp),I.at b2 (by simp),by simp⟩
 case assign=>
  intro l x W K hK;gi_wp2;exact hK
 case body=>
  rintro l pre y W hy⟨H,B2,B3,B4,B5⟩;obtain⟨i,e0,rfl,hi⟩:=HS y hy;have c0:=HN W H i e0 hi;have cB:=a5 W H;have c1:=fP B2 0;have c2:=fP B3 0;have c3:=fP B4 0;have f3:=gx B4 0;dsimp at c1 c2 c3;have HB:=(λW' (I:Z [] w W')=>H2 W' (.ib I) (σ.nm i));have HT:Hid (∀(q:Nat)(r:gP),Z [w.heap.size+1+1] W ((W.drewN q).setCell ⟨w.heap.size+1+1,0,none⟩ r)/\Z [] w ((W.drewN q).setCell ⟨w.heap.size+1+1,0,none⟩ r)/\((W.drewN q).setCell ⟨w.heap.size+1+1,0,none⟩ r).heap[w.heap.size+1+1]?=some (gH #[r] 66)/\((W.drewN q).setCell ⟨w.heap.size+1+1,0,none⟩ r).heap[w.heap.size]?=some (gH #[Bp E] 117)/\((W.drewN q).setCell ⟨w.heap.size+1+1,0,none⟩ r).heap[w.heap.size+1]?=some (gH #[gI (L.gQ it)] 66)):=λq r=>
   have kk:=((Z.refl [w.heap.size+1+1] W).drewN q).setCell (p:=⟨w.heap.size+1+1,0,none⟩) (.inl (by simp)) r
   ⟨kk,(H.drewN q).setCell (.inr (by simp;omega)) _,gh (show(W.drewN q).heap[w.heap.size+1+1]?=_ from B4) 0 _,kk.at B2 (by simp;omega),kk.at B3 (by simp)⟩
  have a1:=Ek (HE W H (some i) (by show(σ.gU i).isSome=true;rw[hi];rfl)) (HE W H (some it) a6);rw[show ptr (iF L.gQ (some i))=some ⟨L.gQ i,0,none⟩from rfl,show ptr (iF L.gQ (some it))=some ⟨L.gQ it,0,none⟩from rfl]at a1
  try dsimp only
  rw[show kX (iF L.gQ (some i))=gI (L.gQ i)from rfl];by_cases a2:i=it
  .subst a2;rw[Hl rfl]at a1;gi_wp2;exact⟨Z.refl _ _,rfl,H,pre,rfl,B5,B4⟩
  .have a8:L.gQ i≠L.gQ it:=λe=>a2 (HI _ _ e);have ad:(some i:jj)≠some it:=λe=>a2 (Ki e);rw[qW (by simpa using a8)]at a1;gi_wp2;refine Cr l (by kernel_rfl) (by kernel_rfl) (by rfl) ?_
   repeat (gi_big_quiet_step ((exact callsIn_wide.2 (kV (HB _ (H.drewN _))))))
   refine wpQuietIn_nil ?_;intro _ aa;have⟨nq,hw''⟩:=aa;subst hw'';cases hq:kT (σ.nm i)with
   |true=>
    have HQ:=V hq;clear hq;gi_wp2;have⟨t1,t2,t3,t4,t5⟩:=HT.out nq (gI (L.gQ i));refine⟨t1,t2,t4,t5,?_,λy hy=>?_⟩;rw[Ui,show σ.mu (some i)=σ.nm i from rfl,HQ.out];exact t3;grind
   |false=>
    have HQ:=V hq;clear hq;gi_wp2;refine⟨(Z.refl _ W).drewN nq,H.drewN nq,B2,B3,?_,λy hy=>?_⟩;rw[Ui,show σ.mu (some i)=σ.nm i from rfl,HQ.out];exact B4;grind
 case done=>
  rintro D W HD⟨H,h2,h3,h4,h5⟩ hK;have c3:=fP h4 0;dsimp at c3;have R:σ.pq it=σ.il σ.gq.reverse none:=LG (λy hy=>h5 y hy);have a0:=V R;clear R;gi_wp2;refine⟨by simp,.inl ⟨_,_,rfl,N4 hK,?_⟩⟩;have F:=HZ.out;have hD:=HD;exact⟨_,results_tmp rfl _ _ _,by rw[a0.out];rfl,H.take (by omega) _⟩
 case stop=>
  rintro D c pre W HD a4⟨rfl,H,d,rfl,h3,h5⟩ hK;have⟨rest,hrest⟩:=a4;have R:σ.pq it=σ.il d none:=by unfold N.pq;rw[<-hrest];exact LH h3
  have a0:=V R;have c3:=fP h5 0;dsimp at c3;clear R;gi_wp2;refine⟨by simp,.inl ⟨_,_,rfl,N4 hK,?_⟩⟩;have F:=HZ.out;have hD:=HD;exact⟨_,results_tmp rfl _ _ _,by rw[a0.out];rfl,H.take (by omega) _⟩
end
def mD(E:Env):Prop:=kP E 258 (λ_=>#[Bp E]) j7 pV
def AC(f:Nat->Nat)(n k:Nat):nV (Ku f n k) n=gI k:=by simp[Ku]
def DX(E:Env)(w:J):Calls prog 212 #[] w λe w'=>∃k h,e=iA (.func (.func k) #[] h)/\Ask E.bm (.func (.func k) #[] h) Cw w'/\Z [] w w':=by
 have C:=afO E.bm [fQ,fW,fV,fX,gN] w (by decide);go_enter func212,ntmps212;go_wp21;refine C.mono ?_;rintro e F⟨B,A,D,rfl,d,u⟩;have⟨k,h,e0,_,_⟩:=d.call;cases e0;have l:=V d;clear d;go_wp2;go_ret;exact⟨_,_,rfl,l,u⟩
def Vh(E:Env)(l:kP E 96 (λ_=>#[Bp E]) ky pV)(j:Nat):kP E 259 (λf=>#[Bp E,nV f j]) (jT j) uV:=by
 refine mI λf σ w R d HS H=>?_;go_enter func259,ntmps259;go_wp21;refine mC (l) H d HS rfl mT ?_;rintro(pl) σ w H h d;go_wp21;refine mC (GK E pl j) H d HS rfl mT ?_;rintro(_) σ w H h d;go_wp21;refine mC (SH E (some j)) H d HS rfl mT ?_;rintro(_) σ w H h d;go_wp2;go_end0;exact kI d H rfl
def OL(E:Env)(l:kP E 96 (λ_=>#[Bp E]) ky pV)(s:O):jk E 179 (λ_=>#[Bp E,Y s]) (j8 s) uV:=by
 refine dI λf σ w R d HS H=>?_;unfold j8 at d;go_enter func179,ntmps179;have h:=H.Bk s;replace d:=d;have H:=h;go_wp21;refine mC (Vh E l σ.nodes.length) H d HS (by rw[AC]) lT ?_;rintro(_) σ w H u d;go_wp2;go_end0;exact gu d H rfl
abbrev zv(E:Env)(p:O->Bool)(w:J)(e:Ending)(w':J):Prop:=∃k d,e=iA (.func (.func k) #[] d)/\Ask E.bm (.func (.func k) #[] d) p w'/\Z [] w w'
theorem RF.bounds(h:RF E f σ w):∃k d,w.cell? ⟨E.bB,186,none⟩=some (.func (.func k) #[] d)/\Ask E.bm (.func (.func k) #[] d) iI w:=by
 have⟨L,_,hr⟩:=h;have⟨f1,a1,l1,c,ha⟩:=hr.bounds;have⟨k,d,e,_,_⟩:=ha.call;grind
theorem RF.Lh(h:RF E f σ w):∃k d,w.cell? ⟨E.bB,184,none⟩=some (.func (.func k) #[] d)/\Ask E.bm (.func (.func k) #[] d) kT w:=by
 have⟨L,_,hr⟩:=h;have⟨f1,a1,l1,c,ha⟩:=hr.Lh;have⟨k,d,e,_,_⟩:=ha.call;grind
theorem RF.lt(h:RF E f σ w):E.bB<w.heap.size:=by have⟨L,_,hr⟩:=h;exact hr.lt
theorem oC(E:Env)(d:List O)(w:J)(h:d.length<=4096):
  Calls prog 216 #[nX w.heap.size d.length d.length] (w.alloc (gH (d.map Value.string).toArray 9)) (zv E (gO d) w):=by
 refine(afO E.bm d w h).mono ?_;grind[Ask.call]
theorem Zg(E:Env)(d h:gP)(p q:O->Bool)(w:J)(l:Ask E.bm d p w)(u:Ask E.bm h q w):
  Calls prog 236 #[d,h] w (zv E (λs=>p s||q s) w):=by
 refine(akP E.bm d h p q w l u).mono ?_;grind[Ask.call]
def Bc(h:RF E f σ w):Calls prog 277 #[Bp E] w (zv E FH w):=by
 have⟨kb,lbb,cb,HB⟩:=h.bounds;have I:=h.lt;have R:=cb;have K:=oC E [ik] w.drew (by decide);go_enter func277,ntmps277;go_wp21
 go_region_with (first
  |(go_at_call 216;refine K.mono ?_;rintro e X⟨k1,U,rfl,u,d⟩;have c1:X.cell? ⟨E.bB,186,none⟩=some (.func (.func kb) #[] lbb):=(d.cell (p:=⟨E.bB,186,none⟩) I (by simp)).trans R;have D:=V u;have l:=V d;clear u d)
  |(go_at_call 236;refine(Zg E _ _ _ _ _ (HB.k0 (((Z.refl _ w).drew).trans l)) D).mono ?_;rintro e w2⟨k2,W,rfl,A,B⟩;have F:=V A;have H:=V ((((Z.refl _ w).drew).trans l).trans B);clear A B))
 all_goals go_wp2
 all_goals go_ret
 all_goals exact⟨_,_,rfl,F,H⟩
def OQ(h:RF E f σ w):Calls prog 276 #[Bp E] w (zv E akA w):=by
 have⟨kb,lbb,cb,HB⟩:=h.bounds;have I:=h.lt;have R:=cb;have K:=oC E [pQ] w.drew (by decide);go_enter func276,ntmps276;go_wp21
 go_region_with (first
  |(go_at_call 216;refine K.mono ?_;rintro e X⟨k1,U,rfl,u,d⟩;have c1:X.cell? ⟨E.bB,186,none⟩=some (.func (.func kb) #[] lbb):=(d.cell (p:=⟨E.bB,186,none⟩) I (by simp)).trans R;have D:=V u;have l:=V d;clear u d)
  |(go_at_call 236;refine(Zg E _ _ _ _ _ (HB.k0 (((Z.refl _ w).drew).trans l)) D).mono ?_;rintro e w2⟨k2,W,rfl,A,B⟩;have F:=V A;have H:=V ((((Z.refl _ w).drew).trans l).trans B);clear A B))
 all_goals go_wp2
 all_goals go_ret
 all_goals exact⟨_,_,rfl,F,H⟩
def yw(E:Env)(w:J):Calls prog 220 #[] w (zv E Cv w):=by
 have C:=oC E [fN,fQ] w (by decide);go_enter func220,ntmps220;go_wp21;refine C.mono ?_;rintro e u⟨k,l,rfl,d,h⟩;go_wp2;go_ret;exact⟨_,_,rfl,d,h⟩
def QM(E:Env)(w:J):Calls prog 119 #[] w (zv E (gO [fQ]) w):=by
 have C:=oC E [fQ] w (by decide);go_enter func119,ntmps119;go_wp21;refine C.mono ?_;rintro e u⟨k,l,rfl,d,h⟩;go_wp2;go_ret;exact⟨_,_,rfl,d,h⟩
def NF(E:Env)(w:J):Calls prog 131 #[] w (zv E (gO [fW,fV,fX]) w):=by
 have C:=oC E [fW,fV,fX] w (by decide);go_enter func131,ntmps131;go_wp21;refine C.mono ?_;rintro e u⟨k,l,rfl,d,h⟩;go_wp2;go_ret;exact⟨_,_,rfl,d,h⟩
def aa6(E:Env)(w:J):Calls prog 230 #[] w (zv E (gO [gN]) w):=by
 have C:=oC E [gN] w (by decide);go_enter func230,ntmps230;go_wp21;refine C.mono ?_;rintro e u⟨k,l,rfl,d,h⟩;go_wp2;go_ret;exact⟨_,_,rfl,d,h⟩
def ab5(E:Env)(w:J):Calls prog 231 #[] w (zv E (gO [ig,ij]) w):=by
 have C:=oC E [ig,ij] w (by decide);go_enter func231,ntmps231;go_wp21;refine C.mono ?_;rintro e u⟨k,l,rfl,d,h⟩;go_wp2;go_ret;exact⟨_,_,rfl,d,h⟩
def JN(E:Env)(w:J):Calls prog 270 #[] w (zv E (gO [nD,nE]) w):=by
 have C:=oC E [nD,nE] w (by decide);go_enter func270,ntmps270;go_wp21;refine C.mono ?_;rintro e u⟨k,l,rfl,d,h⟩;go_wp2;go_ret;exact⟨_,_,rfl,d,h⟩
def vS(E:Env)(w:J):Calls prog 233 #[] w (zv E (gO [gL]) w):=by
 have C:=oC E [gL] w (by decide);go_enter func233,ntmps233;go_wp21;refine C.mono ?_;rintro e u⟨k,l,rfl,d,h⟩;go_wp2;go_ret;exact⟨_,_,rfl,d,h⟩
def sC(E:Env)(w:J):Calls prog 234 #[] w (zv E (gO [gp]) w):=by
 go_enter func234,ntmps234;go_wp21;refine(oC E [gp] w (by decide)).mono ?_;rintro e u⟨k,l,rfl,d,h⟩;go_wp2;go_ret;exact⟨_,_,rfl,d,h⟩
def To.ml{α:Type}{d:(Nat->Nat)->α->gP}{a:α}{e:Ending}(h:To E L σ' w w')(l:e=iA (d L.gQ a))(u:σ.nodes.length<=σ'.nodes.length):kO E L.gQ σ.nodes.length w (.ok a σ') d e w':=by
 have⟨L',e1,h3,h4⟩:=h;exact⟨l,⟨L',e1,h3⟩,h4,u⟩
def amD(h:RF E f σ w)(d:Ask E.bm v p w):
  Calls prog 284 #[Bp E,v] w (kO E f σ.nodes.length w (.ok () (σ.CG p)) uV):=by
 obtain⟨L,rfl,l⟩:=h;exact(aka l v p d).mono (λe w' h=>h.2.ml h.1 (ic _))
theorem xE(h:RF E f σ w)(d:Ask E.bm v p w):
  Calls prog 232 #[Bp E,v] w (kO E f σ.nodes.length w (pM p σ) uV):=by
 obtain⟨L,rfl,l⟩:=h;exact(agx l v p d).mono (λe w' h=>h.2.ml h.1 (by grind[N.GH,N.pop]))
def Ig(h:RF E f σ w){d:jL}(l:Ask E.bm (.func (.func k) #[] d) p w):
  Calls prog 213 #[Bp E,.func (.func k) #[] d] w (kO E f σ.nodes.length w (th p σ) uV):=by
 obtain⟨L,rfl,u⟩:=h;exact(X7 u _ _ _ p l).mono (λe w' h=>h.2.ml h.1 (ic _))
def OG(h:RF E f σ w):
  Calls prog 279 #[Bp E] w (kO E f σ.nodes.length w (uL (λσ=>σ.mn) σ) uV):=by
 obtain⟨L,rfl,d⟩:=h;exact(Mw d).mono (λe w' h=>h.2.ml h.1 (ic _))
def Df(h:RF E f σ w)(d:Ask E.bm v p w):
  Calls prog 211 #[Bp E,v] w λe w'=>e=iA (.bool (σ.current p))/\w'=w:=by
 obtain⟨L,rfl,l⟩:=h;exact An l v p d
def Al(h:RF E f σ w){D F:Nat}{l u:jL}(B:Ask E.bm (.func (.func D) #[] l) p w)(W:Ask E.bm (.func (.func F) #[] u) q w):
  Calls prog 219 #[Bp E,.func (.func D) #[] l,.func (.func F) #[] u] w (kO E f σ.nodes.length w (lK p q σ) bV):=by
 have A:=xN h p q _ _ B W;have H:=At.start h;unfold lK;cases hi:σ.inScope p q with
 |false=>
  rw[hi]at A;rw[Xx (by simp)];go_enter func219,ntmps219;go_wp21;refine A.mono ?_;rintro e X⟨rfl,d⟩;replace H:=H.k0 d;go_wp2;go_ret;exact kI rfl H rfl
 |true=>
  rw[hi]at A;rw[sL (by simp)];go_enter func219,ntmps219;go_wp21;refine A.mono ?_;rintro e X⟨rfl,d⟩;have I:=amD (H.k0 d).rel (B.k0 d);replace H:=H.k0 d;go_wp21;refine I.mono ?_;rintro e w2⟨rfl,K,R,U⟩;replace H:=H.to K U R;go_wp2;go_ret;exact kI rfl H rfl
def zC(h:RF E f σ w)(hs:pt σ≠ .stuck):
  Calls prog 269 #[Bp E] w (kO E f σ.nodes.length w (pt σ) uV):=by
 obtain⟨R,u⟩:∃R,R=(pt) σ:=⟨_,rfl⟩;rw[<-u]at hs|-;unfold pt at u;have H:=At.start h;have B:=V u;clear u;go_enter func269,ntmps269;have F:=oC E [oh] w (by decide);go_wp21;refine F.mono ?_;rintro e w1⟨W,I,rfl,d,D⟩;replace H:=H.k0 D;go_wp21;refine(Bc H.rel).mono ?_;rintro e w2⟨X,K,rfl,A,l⟩;replace d:=d.k0 l;replace H:=H.k0 l;go_wp21;refine Ck (λ_=>Al H.rel d A) H B hs mT ?_;rintro(_) σ w H U B;go_wp2;go_end0;exact kI B H rfl
abbrev XI:Obj:=gH #[.pointer none,G 0] 228
theorem M.bind_pure{α:Type}(m:M α)(σ:N):(m>>=λa=>(Pure.pure a:M α)) σ=m σ:=by
 rw[M.gw];cases m σ<;>rfl
theorem M6(E:Env)(hF:mD E)(i:Nat):kP E 169 (λf=>#[Bp E,nV f i]) (placeFor i) pV:=by
 intro f σ w h hs;have HB:=fU w XI;have a9:=h.lt;have H0:=(At.start h).k0 ((Z.refl _ w).alloc XI);have F:w.cell? ⟨E.bB,195,none⟩=some (.bool σ.im):=(At.start h).aeI;obtain⟨R,A⟩:∃R,R=placeFor i σ:=⟨_,rfl⟩;rw[<-A]at hs|-;have HS:=hs;unfold placeFor at A;cases hfo:σ.im with
 |false=>
  rw[hfo]at A F;rw[Xx (by simp)]at A;have H:=H0;have u:Hid (R=(jg i>>=λpl=>pure pl) σ):=V (A.trans (M.bind_pure (jg i) σ).symm);clear A;go_enter func169,ntmps169;go_wp21
  go_quiet (fail)
  replace H:=V (H.k0 ((Z.refl _ (w.alloc XI)).drewN nq));go_wp21;refine kP.call (JD E i) H u HS rfl ?_ ?_
  .intro c p j ws l H2 H3;have H1:=V l;clear l;go_wp2;exact⟨rfl,vR H1 H2 H3⟩
  rintro pl σ1 w1 l h2 I;have d:=((Fr.ib ((Z.refl _ (w.alloc XI)).drewN nq)).trans h2).cell HB (by decide);have c0:=fP d 0;have c1:=fP d 1;have f0:=gx d 0;have f1:=gx d 1;dsimp at c0 c1;replace H:=V (((l.side d (by decide) (ic _) 0 (gI (f pl.1))).side (gh d 0 _) (by decide) (ic _) 1 (G pl.2)));replace u:=V I;have B:=V (gh (gh d 0 (gI (f pl.1))) 1 (G pl.2));clear l I;go_wp2;refine uF (v:=pV f pl) ?_ rfl (kI u H rfl);simp[results,results169,asAddr,Result.andThen,go_sem,fP B.out]
 |true=>
  rw[hfo]at A F;have a6:∃e,σ.gU i=some e:=by
   cases he:σ.gU i with
   |some e=>simp
   |none=>
    exfalso;have a7:σ.nm i=⟨#[]⟩:=by unfold N.nm;rw[he]
    have D:Cw (σ.nm i)=false:=by rw[a7];simp[Cw,gO,ld,sd]
    rw[D]at A;simp only[Bool.and_false,ZY,Tw]at A;apply hs;rw[A];grind[jg]
  have⟨e0,he0⟩:=a6;have HN:∀W,Z [] w W->W.cell? ⟨f i,0,none⟩=some (Y (σ.nm i)):=by
   intro W hk;obtain⟨L,rfl,hr⟩:=h;exact(hr.ir hk).wU he0
  have cN:=HN w (Z.refl _ _);have a8:f i<w.heap.size:=by
   obtain⟨L,rfl,hr⟩:=h;exact hr.LB (N.io he0)
  have u:=V A;have a5:=At.start h;clear A;go_enter func169,ntmps169;go_wp21
  go_cut [16]from 5 to 15 (λb wc=>b=.bool (Cw (σ.nm i))/\Z [] w wc/\wc.heap[w.heap.size]?=some XI)
  case first=>
   go_region_with (first
    |(go_at_call 212;refine(DX E _).mono ?_;rintro e w1⟨k1,aa,rfl,a1,X⟩;have U:Z [] w w1:=(((Z.refl _ w).alloc XI).drew).trans X;have c1:=HN w1 U;have⟨k1',lb1',e1,he1,hc1⟩:=a1.call;cases e1;have a3:=V (hc1 w1 (x9.refl _ _) (σ.nm i));have a4:=V U;have a2:=V (X.at HB (by simp));clear a1 X U hc1)
    |(refine a3.mono ?_;rintro e w2⟨rfl,rfl⟩))
   all_goals (try (go_wp21))
   all_goals (go_meet;exact⟨rfl,a4,a2⟩)
  case rest=>
   obtain⟨rfl,hk,a0⟩:=hcut;have H:Hid (At E f σ.nodes.length w f σ wc):=V (a5.k0 hk);cases D:Cw (σ.nm i)with
   |true=>
    have K:Hid (R=(j7>>=λpl=>(Pure.pure pl:M (Nat×Nat))) σ):=by
     refine V ?_;rw[M.bind_pure];have:=u
     rwa [D]at this
    replace u:=K;go_wp21;refine kP.call hF H u HS rfl ?_ ?_
    .intro c p j ws l H2 H3;have H1:=V l;clear l;go_wp2;exact⟨rfl,vR H1 H2 H3⟩
    rintro pl σ1 w1 l h2 I;have d:=h2.cell a0 (by decide);have c0:=fP d 0;have c1:=fP d 1;have f0:=gx d 0;have f1:=gx d 1;dsimp at c0 c1;replace H:=V (((l.side d (by decide) (ic _) 0 (gI (f pl.1))).side (gh d 0 _) (by decide) (ic _) 1 (G pl.2)));replace u:=V I;have B:=V (gh (gh d 0 (gI (f pl.1))) 1 (G pl.2));clear l I;go_wp2;refine uF (v:=pV f pl) ?_ rfl (kI u H rfl);simp[results,results169,asAddr,Result.andThen,go_sem,fP B.out]
   |false=>
    have K:Hid (R=(jg i>>=λpl=>(Pure.pure pl:M (Nat×Nat))) σ):=by
     refine V ?_;rw[M.bind_pure];have:=u
     rwa [D]at this
    replace u:=K;go_wp21;refine kP.call (JD E i) H u HS rfl ?_ ?_
    .intro c p j ws l H2 H3;have H1:=V l;clear l;go_wp2;exact⟨rfl,vR H1 H2 H3⟩
    rintro pl σ1 w1 l h2 I;have d:=h2.cell a0 (by decide);have c0:=fP d 0;have c1:=fP d 1;have f0:=gx d 0;have f1:=gx d 1;dsimp at c0 c1;replace H:=V (((l.side d (by decide) (ic _) 0 (gI (f pl.1))).side (gh d 0 _) (by decide) (ic _) 1 (G pl.2)));replace u:=V I;have B:=V (gh (gh d 0 (gI (f pl.1))) 1 (G pl.2));clear l I;go_wp2;refine uF (v:=pV f pl) ?_ rfl (kI u H rfl);simp[results,results169,asAddr,Result.andThen,go_sem,fP B.out]
theorem Lf(E:Env)(hF:mD E):kP E 96 (λ_=>#[Bp E]) ky pV:=by
 intro f σ w h HS;cases hl:σ.last with
 |none=>exfalso;grind[ky]
 |some i=>
  have e0:ky σ=(placeFor i>>=λpl=>pure pl) σ:=by
   unfold ky;rw[hl,M.bind_pure]
  obtain⟨R,u⟩:∃R,R=ky σ:=⟨_,rfl⟩;have F:Hid (Calls prog 170 #[j5 E.bB 188] (w.alloc XI) λe w'=>e=iA (gI (f i))/\w'=w.alloc XI):=by
   obtain⟨L,rfl,hr⟩:=h;have:=Y7 (hr.ir ((Z.refl _ w).alloc XI))
   rwa [show iC σ.gq ((σ.gq.length:Int)-1)=some i from hl]at this
  rw[<-u]at HS|-;rw[e0]at u;have H:=(At.start h).k0 ((Z.refl _ w).alloc XI);have A:=V u;have W:=fU w XI;have a0:=h.lt;clear u;go_enter func96,ntmps96;go_wp21;refine F.mono ?_;rintro e w'⟨rfl,rfl⟩;go_wp21;refine kP.call (M6 E hF i) H A HS rfl ?_ ?_
  .intro c p j ws l K U;have I:=V l;clear l;go_wp2;exact⟨rfl,vR I K U⟩
  rintro pl σ1 w1 l h2 D;have d:=h2.cell W (by decide);have X:=fP d 0;have c1:=fP d 1;have f0:=gx d 0;have f1:=gx d 1;dsimp at X c1;replace H:=((l.side d (by decide) (ic _) 0 (gI (f pl.1))).side (gh d 0 _) (by decide) (ic _) 1 (G pl.2));replace A:=V D;have B:=V (gh (gh d 0 (gI (f pl.1))) 1 (G pl.2));clear l D;go_wp2;refine uF (v:=pV f pl) ?_ rfl (kI A H rfl);simp[results,results96,asAddr,Result.andThen,go_sem,fP B.out]
theorem RF.tv(h:RF E f σ w):∃d n l,E.tv=.slice d n l:=by
 have⟨L,_,hr⟩:=h;have⟨d,cap,e⟩:=gz hr.tok;grind
section
variable (E:Env)(hF:mD E)
include hF
def Gg(j:Nat):kP E 259 (λf=>#[Bp E,nV f j]) (jT j) uV:=Vh E (Lf E hF) j
def wj(s:O):jk E 179 (λ_=>#[Bp E,Y s]) (j8 s) uV:=OL E (Lf E hF) s
theorem mq(t:gF)(W:jo E t):jk E 174 (λ_=>#[Bp E,iG E t]) (iL t) uV:=by
 intro f σ w h HS;have⟨ao,n,cp,htv⟩:=h.tv;have d:t.qw=true/\σ.fresh=true:=by
  unfold iL at HS;rw[M.gw]at HS;unfold ku at HS;cases hc:(σ.fresh&&t.qw)with
  |true=>grind
  |false=>grind
 have I:=W d.1;have u:t.jh=E.ta/\AY E t=#[G t.a,G t.b,Y t.name,.slice ao n cp]:=by
  have⟨a,b,k,gG⟩:=t;cases k<;>simp_all[gF.qw,gF.jh,AY,gF.name]
 obtain⟨R,F⟩:∃R,R=(iL t) σ:=⟨_,rfl⟩;rw[<-F]at HS|-;have A:R=(jT σ.nodes.length>>=λ_=>(Pure.pure ():M Unit)) (σ.qt (.el {name:=t.name,gR:=E.ta,ji:=none,kids:=[]}) false):=by
  rw[F];unfold iL;rw[M.gw];unfold ku;simp only[d.1,d.2,u.1,Bool.and_self,if_true]
 have B:=V A;have l:=zU E t w ⟨ao,n,cp,htv⟩;rw[u.2]at l;have H:=At.start h;have U:=h.lt;have D:=d.2;clear h F A d I u;go_enter func174,ntmps174;go_wp21;refine l.mono ?_;rintro e w1⟨rfl,K⟩;replace H:=(H.k0 (K.alloc (gH #[G t.a,G t.b,Y t.name,.slice ao n cp] 190))).ku D t.name;rw[htv]at H;clear K l;go_wp21;refine mC (Gg E hF σ.nodes.length) H B HS (by simp[Ku]) lT ?_;clear H B;rintro(_) σ w H X B;go_wp2;go_end0;exact gu B H rfl
def xA(t:gF)(l:jo E t):jk E 101 (λ_=>#[Bp E,iG E t]) (kN t) uV:=by
 refine dI λf σ w R d HS H=>?_;go_enter func101,ntmps101;go_wp21;refine dC (mq E hF t l) H d HS rfl lT ?_;rintro(_) f σ w H u h d;go_wp21;refine mC (agy E) H d HS rfl lT ?_;rintro(_) σ w H h d;go_wp2;go_end0;exact gu d H rfl
def xy(t:gF):jk E 100 (λ_=>#[Bp E,iG E t]) (jK t) uV:=by
 refine dI λf σ w R d HS H=>?_;go_enter func100,ntmps100;go_wp21;refine mC (Lf E hF) H d HS rfl lT ?_;rintro(pl) σ w H h d;go_wp21;refine(Ak E t _).mono ?_;rintro e A⟨rfl,l⟩;replace H:=H.k0 l;go_wp21;refine dC (Zo E pl t.chars) H d HS rfl lT ?_;rintro(_) f σ w H u h d;go_wp2;go_end0;exact gu d H rfl
def xI(t:gF)(u:jo E t):jk E 184 (λ_=>#[Bp E,iG E t]) (mQ t) uV:=by
 refine dI λf σ w R d HS H=>?_;go_enter func184,ntmps184;go_wp21;refine Ck (λl=>zC H.rel l) H d HS lT ?_;rintro(_) σ w H h d;go_wp21;refine dC (mq E hF t u) H d HS rfl lT ?_;rintro(_) f σ w H A h d;go_wp2;go_end0;exact gu d H rfl
def ZG(t:gF)(h:jo E t):jk E 185 (λ_=>#[Bp E,iG E t]) (wI t) uV:=by
 refine dI λf σ w R d HS H=>?_;unfold wI at d;go_enter func185,ntmps185;go_wp21;refine dC (xI E hF t h) H d HS rfl lT ?_;rintro(_) f σ w H u l d;have A:=H.aeK;have B:=H.free 198;replace H:=H.uk true;go_wp2;go_end0;exact gu d H rfl
end
def Cy(a b:Int)(s:O)(d:Option Addr)(n h:Nat)(w:J):(Instr.field 190 (.agg #[G a,G b,Y s,.slice d n h]) 1).run prog w=.ok (Y s) w:=by
 have l:=underlying190;simp[Instr.field,gy l,go_sem,asAgg,Result.andThen]
def zV(a b:Int)(s:O)(d:Option Addr)(n h:Nat)(w:J):(Instr.field 190 (.agg #[G a,G b,Y s,.slice d n h]) 2).run prog w=.ok (.slice d n h) w:=by
 have l:=underlying190;simp[Instr.field,gy l,go_sem,asAgg,Result.andThen]
end
end Go.Proofs.YtdbbknopdbpfaaaGreatDoor
